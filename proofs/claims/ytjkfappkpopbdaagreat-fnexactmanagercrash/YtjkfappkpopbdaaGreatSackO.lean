/-
  Texts in one: RpO, ClO, ClZ, RpE, ClE.
-/
import Derived.Test.YtjkfappkpopbdaaGreatSackL
set_option maxRecDepth 100000
set_option maxHeartbeats 16000000
set_option linter.unusedVariables false
set_option linter.unusedSimpArgs false
namespace Go.Proofs.YtjkfappkpopbdaaGreat
section
open Go.ChangeShapes Go.WideShapes Go.ChangeAt Go.RowKit Go.Deep
theorem cells_lRep:Tryz.prog.cellsOf 74=4:=by kernel_rfl
theorem cells_lIS:Tryz.prog.cellsOf 72=1:=by kernel_rfl
def RplFit (q:Rpl):Prop:=((Lit.int .i64 q.code).wf=true∧(Lit.int .i64 q.app).wf=true)∧(q.cs.length≤9223372036854775807∧∀a ∈ q.cs,ConFit a)∧q.kill.length≤9223372036854775807
theorem RplFit.big {q:Rpl} (h:RplFit q):RplBig q:=⟨⟨h.2.1.1,fun a ha=>(h.2.1.2 a ha).1⟩,h.2.2⟩
theorem open_rpl1 {H:Type} {enc:TypeId×Value→H} {W:World} {base:Nat} {held:Bool} {fuel:Nat} {cs:List Value} {x:DataW H×List MemPlace}
  (h:DataW.trod enc Tryz.prog W base (fun _=>true) held fuel 74 cs=some x) :
  ∃(q:Rpl) (xo:Option Addr) (xl xc:Nat) (yo:Option Addr) (yl yc:Nat),cs=[.int .i64 q.code,.int .i64 q.app,.slice xo xl xc,.slice yo yl yc]∧ConRow W xo xl q.cs∧NRow W yo yl q.kill∧RplFit q:=by
 obtain ⟨xs,n,rfl,rfl,hlen,hxs,hf⟩:=DataW.trod_struct Tryz.underlying74 h
 rw [cells_lRep] at hlen
 have hxs:xs.length=4:=hxs
 match cs,hlen,xs,hxs with
 | [c0,c1,c2,c3],_,[x0,x1,x2,x3],_=>
  have h0:=hf 0 _ rfl
  have h1:=hf 1 _ rfl
  have h2:=hf 2 _ rfl
  have h3:=hf 3 _ rfl
  obtain ⟨s0,e0,_,b0⟩:=DataW.trod_int Tryz.underlying3 h0
  obtain ⟨s1,e1,_,b1⟩:=DataW.trod_int Tryz.underlying3 h1
  simp [cells_qi,cells_lCS,cells_lIS] at e0 e1 h2 h3
  obtain ⟨xo,xl,xc,rfl⟩:=slice_cells Tryz.underlying25 h2
  obtain ⟨yo,yl,yc,rfl⟩:=slice_cells Tryz.underlying72 h3
  subst e0 e1
  obtain ⟨l,hr,hle,hfit⟩:=open_cons h2
  obtain ⟨m,hm,hme⟩:=open_introw (ao:=yo) (len:=yl) (cap:=yc) ⟨_,by simpa [Value.cells] using h3⟩
  refine ⟨⟨s0,s1,l,m⟩,xo,xl,xc,yo,yl,yc,rfl,hr,hm,⟨b0,b1⟩,⟨?_,hfit⟩,?_⟩
  ·have:=hr.1
   show l.length≤_
   omega
  ·have:=hm.1
   show m.length≤_
   omega
theorem open_rpls {H:Type} {enc:TypeId×Value→H} {W:World} {base:Nat} {held:Bool} {ao:Option Addr} {len cap fuel:Nat} {x:DataW H×List MemPlace}
  (hf:DataW.trod enc Tryz.prog W base (fun _=>true) held fuel 28 [.slice ao len cap]=some x) :
  ∃l:List Rpl,RplRow W ao len l∧len≤9223372036854775807∧∀q ∈ l,RplFit q:=by
 rcases open_slice Tryz.underlying28 hf with ⟨hcs,_⟩ | ⟨a,len',cap',m,n,D,Pl,hcs,hb,hl,hm,hmm,hx,hel⟩
 ·simp at hcs
  obtain ⟨rfl,rfl,rfl⟩:=hcs
  exact ⟨[],RplRow.nil _ _,by omega,by simp⟩
 ·simp at hcs
  obtain ⟨rfl,rfl,rfl⟩:=hcs
  simp only [if_true] at hmm
  subst hmm
  rw [cells_lRep] at hel
  have inh:Inhabited Rpl:=⟨⟨0,0,[],[]⟩⟩
  obtain ⟨F,hF⟩:=choose_lt (α:=Rpl) (n:=len) (p:=fun i q=>∃(xo:Option Addr) (xl xc:Nat) (yo:Option Addr) (yl yc:Nat),W.cells? base (a.add (i*4)) 4=some [.int .i64 q.code,.int .i64 q.app,.slice xo xl xc,.slice yo yl yc]∧ConRow W xo xl q.cs∧NRow W yo yl q.kill∧RplFit q) (fun i hi=>by
   obtain ⟨cs',h1,h2⟩:=hel i (by omega)
   obtain ⟨q,xo,xl,xc,yo,yl,yc,rfl,h3⟩:=open_rpl1 h2
   exact ⟨q,xo,xl,xc,yo,yl,yc,h1,h3⟩)
  refine ⟨(List.range len).map F,?_,by have:maxLen=9223372036854775807:=rfl;omega,?_⟩
  ·refine ⟨by simp,?_⟩
   by_cases h0:len=0
   ·exact .inl h0
   ·right
    obtain ⟨b,off,spot⟩:=a
    obtain ⟨_,_,_,_,_,_,hF0,_⟩:=hF 0 (by omega)
    have hc0:=(World.cells?_some hF0).2.2 0 (by omega)
    have hspot:spot=none:=by simpa [Addr.add] using World.cell?_spot hc0
    subst hspot
    refine ⟨b,off,rfl,fun i hi=>?_⟩
    have hi':i<len:=by simpa using hi
    obtain ⟨xo,xl,xc,yo,yl,yc,hFi,hrow,hrow2,_⟩:=hF i hi'
    obtain ⟨_,_,hc⟩:=World.cells?_some hFi
    rw [Lib.add_plain] at hc
    have k0:=hc 0 (by omega)
    have k1:=hc 1 (by omega)
    have k2:=hc 2 (by omega)
    have k3:=hc 3 (by omega)
    rw [Lib.add_plain] at k0 k1 k2 k3
    simp only [List.getElem_map,List.getElem_range]
    exact ⟨xo,xl,xc,yo,yl,yc,k0,k1,k2,k3,hrow,hrow2⟩
  ·intro q hq
   obtain ⟨i,hi,rfl⟩:=List.mem_map.1 hq
   obtain ⟨_,_,_,_,_,_,_,_,_,h⟩:=hF i (by simpa using hi)
   exact h
theorem cells_lMg:Tryz.prog.cellsOf 30=11:=by kernel_rfl
theorem cells_lRS:Tryz.prog.cellsOf 28=1:=by kernel_rfl
theorem open_statecells {H:Type} {enc:TypeId×Value→H} {W:World} {base:Nat} {held:Bool} {fuel:Nat} {cs:List Value} {x:DataW H×List MemPlace}
  (hf0:DataW.trod enc Tryz.prog W base (fun _=>true) held fuel 27 cs=some x) :
  ∃(x:Sls) (s:St),cs=(svc x s).toList∧SRow W x s∧StFit x s:=by
 obtain ⟨xs,n,rfl,_,hlen,hxs,hf⟩:=DataW.trod_struct Tryz.underlying27 hf0
 rw [cells_lSt] at hlen
 have hxs:xs.length=8:=hxs
 match cs,hlen,xs,hxs with
 | [c0,c1,c2,c3,c4,c5,c6,c7],_,[x0,x1,x2,x3,x4,x5,x6,x7],_=>
  have h0:=hf 0 _ rfl
  have h1:=hf 1 _ rfl
  have h2:=hf 2 _ rfl
  have h3:=hf 3 _ rfl
  have h4:=hf 4 _ rfl
  have h5:=hf 5 _ rfl
  have h6:=hf 6 _ rfl
  have h7:=hf 7 _ rfl
  obtain ⟨s1,e1,_,b1⟩:=DataW.trod_int Tryz.underlying3 h1
  obtain ⟨s2,e2,_,b2⟩:=DataW.trod_int Tryz.underlying3 h2
  obtain ⟨s3,e3,_,b3⟩:=DataW.trod_int Tryz.underlying3 h3
  obtain ⟨s4,e4,_,b4⟩:=DataW.trod_int Tryz.underlying3 h4
  simp [cells_qi,cells_lQS,cells_lAS,cells_lMS,cells_lCS] at e1 e2 e3 e4 h0 h5 h6 h7
  obtain ⟨qa,ql,qc,rfl⟩:=slice_cells Tryz.underlying22 h0
  obtain ⟨aa,al,ac,rfl⟩:=slice_cells Tryz.underlying23 h5
  obtain ⟨ma,ml,mc,rfl⟩:=slice_cells Tryz.underlying24 h6
  obtain ⟨ca,cl,cc,rfl⟩:=slice_cells Tryz.underlying25 h7
  subst e1 e2 e3 e4
  obtain ⟨lq,hq,q1,q2⟩:=open_queues (ao:=qa) (len:=ql) (cap:=qc) ⟨_,by simpa [Value.cells] using h0⟩
  obtain ⟨la,ha,a1,a2⟩:=open_appls h5
  obtain ⟨lm,hm,m1,m2⟩:=open_macs h6
  obtain ⟨lc,hc,k1,k2⟩:=open_cons h7
  exact ⟨⟨qa,ql,qc,aa,al,ac,ma,ml,mc,ca,cl,cc⟩,⟨lq,s1,s2,s3,s4,la,lm,lc⟩,rfl,⟨hq,ha,hm,hc⟩,⟨q1,q2⟩,⟨a1,a2⟩,⟨m1,m2⟩,⟨k1,k2⟩,b1,b2,b3,b4⟩
def MgrFit (y:Mgs) (m:Mgr):Prop:=StFit y.x m.s∧m.log.length≤9223372036854775807∧y.wl≤9223372036854775807∧∀q ∈ m.wait,RplFit q
def CluFit (z:Cls) (c:Clu):Prop:=MgrFit z.y c.m∧(z.gl≤9223372036854775807∧∀q ∈ c.ags,AgtFit q)∧z.tl≤9223372036854775807∧∀q ∈ c.told,RplFit q
theorem MgrFit.big {y:Mgs} {m:Mgr} (h:MgrFit y m):MgrBig y m:=⟨h.1.big,h.2.1,h.2.2.1,fun q hq=>(h.2.2.2 q hq).big⟩
theorem CluFit.big {z:Cls} {c:Clu} (h:CluFit z c):CluBig z c:=⟨h.1.big,⟨h.2.1.1,fun q hq=>(h.2.1.2 q hq).big⟩,h.2.2.1,fun q hq=>(h.2.2.2 q hq).big⟩
theorem open_mgrcells {H:Type} {enc:TypeId×Value→H} {W:World} {base:Nat} {held:Bool} {fuel:Nat} {cs:List Value} {x:DataW H×List MemPlace}
  (h:DataW.trod enc Tryz.prog W base (fun _=>true) held fuel 30 cs=some x) :
  ∃(y:Mgs) (m:Mgr),cs=(mgrc y m).toList∧MRow W y m∧MgrFit y m:=by
 obtain ⟨xs,n,rfl,_,hlen,hxs,hf⟩:=DataW.trod_struct Tryz.underlying30 h
 rw [cells_lMg] at hlen
 have hxs:xs.length=4:=hxs
 match cs,hlen,xs,hxs with
 | [c0,c1,c2,c3,c4,c5,c6,c7,c8,c9,c10],_,[x0,x1,x2,x3],_=>
  have h0:=hf 0 _ rfl
  have h1:=hf 1 _ rfl
  have h2:=hf 2 _ rfl
  have h3:=hf 3 _ rfl
  obtain ⟨y,s,e0,r0,f0⟩:=open_statecells h0
  obtain ⟨s1,e1,_,b1⟩:=DataW.trod_string Tryz.underlying9 h1
  obtain ⟨s2,e2,_,b2⟩:=DataW.trod_int Tryz.underlying3 h2
  simp [cells_lSt,cells_qs,cells_qi,cells_lRS] at e0 e1 e2 h3
  obtain ⟨wo,wl,wc,rfl⟩:=slice_cells Tryz.underlying28 h3
  obtain ⟨i0,i1,i2,i3,i4,i5,i6,i7⟩:=e0
  subst i0 i1 i2 i3 i4 i5 i6 i7 e1 e2
  obtain ⟨l,hr,hle,hfit⟩:=open_rpls h3
  exact ⟨⟨y,wo,wl,wc⟩,⟨s,s1.data.toList,s2,l⟩,by simp only [bs_back],⟨r0,hr⟩,f0,by simpa [maxLen] using b1,hle,hfit⟩
theorem open_manager {H:Type} {enc:TypeId×Value→H} {W:World} {base b0:Nat} {r:Reach} {held:Bool} {v:Value} {d:DataW H} {p:List MemPlace}
  (hv:Value.okWide Tryz.prog W r b0 30 v) (h:DataW.Trod enc Tryz.prog W base (fun _=>true) held 30 v d p) :
  ∃(y:Mgs) (m:Mgr),v=mgrv y m∧MRow W y m∧MgrFit y m:=by
 obtain ⟨cs,rfl,hsz⟩:=okWide_struct Tryz.underlying30 hv
 obtain ⟨fuel,hf0⟩:=h
 obtain ⟨cs⟩:=cs
 have hcells:(Value.agg ⟨cs⟩).cells.toList=cs:=by simp [Value.cells]
 rw [hcells] at hf0
 obtain ⟨y,m,e0,r0,f0⟩:=open_mgrcells hf0
 subst e0
 exact ⟨y,m,rfl,r0,f0⟩
end
section
open Go.RowKit
theorem szState_le (x:Sls) (s:St) (w:World) (h:SRow w x s) (hn:StBig x s) :
  Calls Tryz.prog 11 #[sv x s,.int .i64 1048576] w fun e w'=>∃r:Int,e=.returned (.int .i64 r)∧(r = -1∨(0≤r∧r≤1048576∧FitSt s))∧Below w.heap.size w w':=by
 obtain ⟨qa,ql,qc,aa,al,ac,ma,ml,mc,ca,cl,cc⟩:=x
 obtain ⟨qs,clock,epoch,next,serial,apps,ms,cs⟩:=s
 obtain ⟨hq,ha,hm,hc⟩:=h
 obtain ⟨nq,na,nm,nc⟩:=hn
 simp only at hq ha hm hc nq na nm nc
 have HB0:=hide (yA (yH _ w) (.cells #[.slice qa ql qc,.int .i64 clock,.int .i64 epoch,.int .i64 next,.int .i64 serial,.slice aa al ac,.slice ma ml mc,.slice ca cl cc] 27))
 have P0:=hide (yD w #[.slice qa ql qc,.int .i64 clock,.int .i64 epoch,.int .i64 next,.int .i64 serial,.slice aa al ac,.slice ma ml mc,.slice ca cl cc] 27)
 have CQ:=hide (szQueueS_any qa ql qc qs _ (hq.below (uH HB0)) nq.1 nq.2)
 have CA:=hide (fun a0 wx (hb:Below w.heap.size w wx) h0 h1=>szAppS_any aa al ac apps a0 wx (ha.below hb) na.1 na.2 h0 h1)
 have CM:=hide (fun a0 wx (hb:Below w.heap.size w wx) h0 h1=>szMachineS_any ma ml mc ms a0 wx (hm.below hb) nm.1 nm.2 h0 h1)
 have CC:=hide (fun a0 wx (hb:Below w.heap.size w wx) h0 h1=>szContS_any ca cl cc cs a0 wx (hc.below hb) nc.1 nc.2 h0 h1)
 clear hq ha hm hc nq na nm nc
 go_enter Tryz.func11,Tryz.ntmps11
 go_wp2_with fail
 refine (uH CQ).mono ?_
 rintro e w1 ⟨r,rfl,hr,hb⟩
 have HB1:=hide (yB (uH HB0) hb)
 have P1:=hide ((uH P0).below hb)
 clear hb CQ P0 HB0
 rcases hr with rfl | ⟨r0,r1,hf⟩
 ·go_wp2
  go_ret
  exact ⟨-1,rfl,.inl rfl,uH HB1⟩
 have F1:=hide hf
 have p5:=(uH P1).at 5
 simp at p5
 clear hf
 go_wp2_with fail
 refine (uH CA _ _ (uH HB1) r0 r1).mono ?_
 rintro e w2 ⟨u,rfl,hr,hb⟩
 have HB2:=hide (yB (uH HB1) hb)
 have P2:=hide ((uH P1).below hb)
 clear hb CA P1 HB1 p5
 rcases hr with rfl | ⟨u0,u1,hf⟩
 ·go_wp2
  go_ret
  exact ⟨-1,rfl,.inl rfl,uH HB2⟩
 have F2:=hide hf
 have p6:=(uH P2).at 6
 simp at p6
 clear hf
 go_wp2_with fail
 refine (uH CM _ _ (uH HB2) u0 (by omega)).mono ?_
 rintro e w3 ⟨v,rfl,hr,hb⟩
 have HB3:=hide (yB (uH HB2) hb)
 have P3:=hide ((uH P2).below hb)
 clear hb CM P2 HB2 p6
 rcases hr with rfl | ⟨v0,v1,hf⟩
 ·go_wp2
  go_ret
  exact ⟨-1,rfl,.inl rfl,uH HB3⟩
 have F3:=hide hf
 have p7:=(uH P3).at 7
 simp at p7
 clear hf
 go_wp2_with fail
 refine (uH CC _ _ (uH HB3) v0 (by omega)).mono ?_
 rintro e w4 ⟨t,rfl,hr,hb⟩
 have HB4:=hide (yB (uH HB3) hb)
 clear hb CC P3 HB3 p7
 rcases hr with rfl | ⟨t0,t1,hf⟩
 ·go_wp2
  go_ret
  exact ⟨-1,rfl,.inl rfl,uH HB4⟩
 have F4:=hide hf
 clear hf
 go_wp2
 go_ret
 exact ⟨_,rfl,.inr ⟨t0,by omega,uH F1,uH F2,uH F3,uH F4⟩,uH HB4⟩
theorem szManager_any (y:Mgs) (m:Mgr) (w:World) (h:MRow w y m) (hn:MgrBig y m) :
  Calls Tryz.prog 4 #[mgrv y m,.int .i64 1048576] w fun e w'=>∃r:Int,e=.returned (.int .i64 r)∧(r = -1∨(0≤r∧r≤1048576∧FitMgr m))∧Below w.heap.size w w':=by
 obtain ⟨⟨qa,ql,qc,aa,al,ac,ma,ml,mc,ca,cl,cc⟩,wo,wl,wc⟩:=y
 obtain ⟨⟨qs,clock,epoch,next,serial,apps,ms,cs⟩,log,safe,wait⟩:=m
 obtain ⟨h1,h2⟩:=h
 obtain ⟨n1,n2,n3,n4⟩:=hn
 simp only at h1 h2 n1 n2 n3 n4
 have z1:=bs_size log
 have HB0:=hide (yA (yH _ w) (.cells #[.slice qa ql qc,.int .i64 clock,.int .i64 epoch,.int .i64 next,.int .i64 serial,.slice aa al ac,.slice ma ml mc,.slice ca cl cc,.string (bs log),.int .i64 safe,.slice wo wl wc] 30))
 have P0:=hide (yD w #[.slice qa ql qc,.int .i64 clock,.int .i64 epoch,.int .i64 next,.int .i64 serial,.slice aa al ac,.slice ma ml mc,.slice ca cl cc,.string (bs log),.int .i64 safe,.slice wo wl wc] 30)
 have CS:=hide (szState_le ⟨qa,ql,qc,aa,al,ac,ma,ml,mc,ca,cl,cc⟩ ⟨qs,clock,epoch,next,serial,apps,ms,cs⟩ _ (h1.below (uH HB0)) n1)
 have CR:=hide (fun a0 wx (hb:Below w.heap.size w wx) h0 h1=>szReplyS_any wo wl wc wait a0 wx (h2.below hb) n3 n4 h0 h1)
 clear h1 h2 n1 n3 n4
 have p0:=(uH P0).at 0;have p1:=(uH P0).at 1;have p2:=(uH P0).at 2;have p3:=(uH P0).at 3;have p4:=(uH P0).at 4;have p5:=(uH P0).at 5;have p6:=(uH P0).at 6;have p7:=(uH P0).at 7
 simp at p0 p1 p2 p3 p4 p5 p6 p7
 go_enter Tryz.func4,Tryz.ntmps4
 go_wp2_with fail
 refine (uH CS).mono ?_
 rintro e w1 ⟨r,rfl,hr,hb⟩
 have HB1:=hide (yB (uH HB0) hb)
 have P1:=hide ((uH P0).below hb)
 clear hb CS P0 HB0 p0 p1 p2 p3 p4 p5 p6 p7
 rcases hr with rfl | ⟨r0,r1,hf⟩
 ·go_wp2
  go_ret
  exact ⟨-1,rfl,.inl rfl,uH HB1⟩
 have F1:=hide hf
 clear hf
 have hr3:¬r<0:=by omega
 have p8:=(uH P1).at 8;have p10:=(uH P1).at 10
 simp at p8 p10
 by_cases hl:r - log.length<0
 ·go_wp2
  go_ret
  exact ⟨-1,rfl,.inl rfl,uH HB1⟩
 go_wp2_with fail
 refine (uH CR _ _ (uH HB1) (by omega) (by omega)).mono ?_
 rintro e w2 ⟨u,rfl,hr,hb⟩
 have HB2:=hide (yB (uH HB1) hb)
 clear hb CR P1 HB1 p8 p10
 rcases hr with rfl | ⟨u0,u1,hf⟩
 ·go_wp2
  go_ret
  exact ⟨-1,rfl,.inl rfl,uH HB2⟩
 have F2:=hide hf
 clear hf
 have hu3:¬u<0:=by omega
 go_wp2
 go_ret
 exact ⟨_,rfl,.inr ⟨u0,by omega,uH F1,by show log.length≤1048576;omega,uH F2⟩,uH HB2⟩
theorem eqReply_same (code app:Int) (xo xo':Option Addr) (xl xc xc':Nat) (yo yo':Option Addr) (yl yc yc':Nat) (cs:List Con) (kill:List Int) (w:World) (h:ConRow w xo xl cs) (h':ConRow w xo' xl cs) (k:NRow w yo yl kill) (k':NRow w yo' yl kill) (hl:xl≤1048576) (hl':yl≤1048576) :
  Calls Tryz.prog 58 #[rplv code app xo xl xc yo yl yc,rplv code app xo' xl xc' yo' yl yc'] w fun e w'=>e=.returned (.bool true)∧Below w.heap.size w w':=by
 have HB0:=hide (yA (yA (yH _ w) (.cells #[.int .i64 code,.int .i64 app,.slice xo xl xc,.slice yo yl yc] 91)) (.cells #[.int .i64 code,.int .i64 app,.slice xo' xl xc',.slice yo' yl yc'] 91))
 have P0:=hide ((yD w #[.int .i64 code,.int .i64 app,.slice xo xl xc,.slice yo yl yc] 91).al (.cells #[.int .i64 code,.int .i64 app,.slice xo' xl xc',.slice yo' yl yc'] 91))
 have P1:=hide (show Blk _ (w.heap.size+1) #[.int .i64 code,.int .i64 app,.slice xo' xl xc',.slice yo' yl yc'] 91 by have:=yD (w.alloc (.cells #[.int .i64 code,.int .i64 app,.slice xo xl xc,.slice yo yl yc] 91)) #[.int .i64 code,.int .i64 app,.slice xo' xl xc',.slice yo' yl yc'] 91;rwa [yE] at this)
 have C:=hide (fun wx (hb:Below w.heap.size w wx)=>eqContS_same xo xo' xl xc xc' cs wx (h.below hb) (h'.below hb) hl)
 have C2:=hide (fun wx (hb:Below w.heap.size w wx)=>eqIntS_same yo yo' yl yc yc' kill wx (k.below hb) (k'.below hb) hl')
 clear h h' k k'
 go_enter Tryz.func58,Tryz.ntmps58
 go_wp2_with fail
 refine (uH C _ ?_).mono ?_
 ·first | exact uH HB0 | exact (uH HB0).drew | exact (uH HB0).drew.drew | exact below_dn (uH HB0) _
 rintro e w1 ⟨rfl,hb⟩
 have HB1:=hide (show Below w.heap.size w w1 by first | exact yB (uH HB0) hb | exact yB (uH HB0).drew hb | exact yB (uH HB0).drew.drew hb | exact yB (below_dn (uH HB0) _) hb)
 have Q0:=hide (show Blk w1 w.heap.size _ _ from by first | exact (uH P0).below hb | exact Blk.below (w:=_) (uH P0) hb)
 have Q1:=hide (show Blk w1 (w.heap.size+1) _ _ from by first | exact (uH P1).below hb | exact Blk.below (w:=_) (uH P1) hb)
 clear hb C HB0 P0 P1
 have a3:=(uH Q0).at 3
 have b3:=(uH Q1).at 3
 simp at a3 b3
 go_wp2_with fail
 refine (uH C2 _ (uH HB1)).mono ?_
 rintro e w2 ⟨rfl,hb⟩
 have HB2:=hide (yB (uH HB1) hb)
 clear hb C2 HB1 Q0 Q1 a3 b3
 go_wp2
 go_ret
 exact ⟨rfl,uH HB2⟩
def RplTwo (w0:World) (b p c r:Nat) (q:Rpl) (xo:Option Addr) (xl xc:Nat) (yo:Option Addr) (yl yc:Nat) (xo':Option Addr) (xc':Nat) (yo':Option Addr) (yc':Nat) (w:World):Prop:=RplAt w b p q xo xl xc yo yl yc∧RplAt w c r q xo' xl xc' yo' yl yc'∧Below w0.heap.size w0 w
theorem RplTwo.call {w0 w w':World} {b p c r:Nat} {q:Rpl} {xo:Option Addr} {xl xc:Nat} {yo:Option Addr} {yl yc:Nat} {xo':Option Addr} {xc':Nat} {yo':Option Addr} {yc':Nat} (h:RplTwo w0 b p c r q xo xl xc yo yl yc xo' xc' yo' yc' w) (hb:Below w.heap.size w w'):RplTwo w0 b p c r q xo xl xc yo yl yc xo' xc' yo' yc' w':=⟨h.1.below hb,h.2.1.below hb,yB h.2.2 hb⟩
theorem RplTwo.drew {w0 w:World} {b p c r:Nat} {q:Rpl} {xo:Option Addr} {xl xc:Nat} {yo:Option Addr} {yl yc:Nat} {xo':Option Addr} {xc':Nat} {yo':Option Addr} {yc':Nat} (h:RplTwo w0 b p c r q xo xl xc yo yl yc xo' xc' yo' yc' w):RplTwo w0 b p c r q xo xl xc yo yl yc xo' xc' yo' yc' w.drew:=h.call (yH _ _).drew
theorem RplTwo.read (w0:World) (b p c r:Nat) (q:Rpl) (xo:Option Addr) (xl xc:Nat) (yo:Option Addr) (yl yc:Nat) (xo':Option Addr) (xc':Nat) (yo':Option Addr) (yc':Nat):∀wx,RplTwo w0 b p c r q xo xl xc yo yl yc xo' xc' yo' yc' wx→wx.cell? ⟨b,p,none⟩=some (.int .i64 q.code)∧wx.cell? ⟨b,p+1,none⟩=some (.int .i64 q.app)∧wx.cell? ⟨b,p+2,none⟩=some (.slice xo xl xc)∧wx.cell? ⟨b,p+3,none⟩=some (.slice yo yl yc)∧wx.cell? ⟨c,r,none⟩=some (.int .i64 q.code)∧wx.cell? ⟨c,r+1,none⟩=some (.int .i64 q.app)∧wx.cell? ⟨c,r+2,none⟩=some (.slice xo' xl xc')∧wx.cell? ⟨c,r+3,none⟩=some (.slice yo' yl yc'):=
 fun wx h=>⟨h.1.1,h.1.2.1,h.1.2.2.1,h.1.2.2.2.1,h.2.1.1,h.2.1.2.1,h.2.1.2.2.1,h.2.1.2.2.2.1⟩
theorem eqReplyS_same (ao bo:Option Addr) (len cap ccap:Nat) (l:List Rpl) (w:World) (h:RplRow w ao len l) (h':RplRow w bo len l) (hl:len≤1048576) (hk:∀q ∈ l,q.cs.length≤1048576∧q.kill.length≤1048576) :
  Calls Tryz.prog 22 #[.slice ao len cap,.slice bo len ccap] w fun e w'=>e=.returned (.bool true)∧Below w.heap.size w w':=by
 have HR:=hide h
 have HR':=hide h'
 have HL:=hide h.1
 have HK:=hide hk
 clear h h' hk
 go_enter Tryz.func22,Tryz.ntmps22
 go_wp2
 go_loopw [5] (fun i wr=>∃k:Nat,k≤len∧i=.int .i64 k∧Hid (Below w.heap.size w wr)) (fun i _=>len - (intOf i).toNat)
 case atStart=>exact ⟨0,Nat.zero_le _,rfl,hide (yH _ _)⟩
 case round=>
  obtain ⟨k,hk,rfl,HB⟩:=hrel
  by_cases hlt:k<len
  ·obtain ⟨b,off,rfl,hq⟩:=((uH HR).below (uH HB)).at hlt
   obtain ⟨c,coff,rfl,hq'⟩:=((uH HR').below (uH HB)).at hlt
   have hkl:k<l.length:=by have:=uH HL;omega
   obtain ⟨xo,xl,xc,yo,yl,yc,hx⟩:=hq hkl
   obtain ⟨xo',xl',xc',yo',yl',yc',hy⟩:=hq' hkl
   obtain rfl:xl=xl':=hx.2.2.2.2.1.1.trans hy.2.2.2.2.1.1.symm
   obtain rfl:yl=yl':=hx.2.2.2.2.2.1.trans hy.2.2.2.2.2.1.symm
   have hxl:xl≤1048576:=by have:=(uH HK l[k] (yM _)).1;have:=hx.2.2.2.2.1.1;omega
   have hyl:yl≤1048576:=by have:=(uH HK l[k] (yM _)).2;have:=hx.2.2.2.2.2.1;omega
   have A0:=hide (show RplTwo w b (off+k*4) c (coff+k*4) l[k] xo xl xc yo yl yc xo' xc' yo' yc' wr from ⟨hx,hy,uH HB⟩)
   obtain ⟨q,hs⟩:∃q,l[k]=q:=⟨_,rfl⟩
   rw [hs] at A0
   have R:=RplTwo.read w b (off+k*4) c (coff+k*4) q xo xl xc yo yl yc xo' xc' yo' yc'
   have k0:(0:Int)≤k:=by omega
   have k1:(k:Int)<len:=by omega
   clear hq hq' hs hkl hx hy
   go_wp2_with fail
   go_region_held3 (fun wx=>RplTwo w b (off+k*4) c (coff+k*4) q xo xl xc yo yl yc xo' xc' yo' yc' wx)
    (first | (with_reducible assumption) | exact (uH A0).drew | exact RplTwo.call (by assumption) (by assumption))
    (first
    | (go_at_call 58;refine (eqReply_same _ _ xo xo' xl xc xc' yo yo' yl yc yc' q.cs q.kill _ ?_ ?_ ?_ ?_ hxl hyl).mono ?_;(exact (show RplTwo w b (off+k*4) c (coff+k*4) q xo xl xc yo yl yc xo' xc' yo' yc' _ by assumption).1.2.2.2.2.1);(exact (show RplTwo w b (off+k*4) c (coff+k*4) q xo xl xc yo yl yc xo' xc' yo' yc' _ by assumption).2.1.2.2.2.2.1);(exact (show RplTwo w b (off+k*4) c (coff+k*4) q xo xl xc yo yl yc xo' xc' yo' yc' _ by assumption).1.2.2.2.2.2);(exact (show RplTwo w b (off+k*4) c (coff+k*4) q xo xl xc yo yl yc xo' xc' yo' yc' _ by assumption).2.1.2.2.2.2.2);rintro e wt ⟨rfl,hb⟩;have SA:=RplTwo.call (w0:=w) (b:=b) (p:=off+k*4) (c:=c) (r:=coff+k*4) (q:=q) (xo:=xo) (xl:=xl) (xc:=xc) (yo:=yo) (yl:=yl) (yc:=yc) (xo':=xo') (xc':=xc') (yo':=yo') (yc':=yc') (by assumption) hb))
   all_goals
    have HB2:=hide SA.2.2
    clear SA R A0
    go_wp2
    go_roundw
    case rel=>exact ⟨k+1,by omega,by go_num,HB2⟩
    case measure=>simp [intOf];omega
  ·go_wp2
   go_ret
   exact ⟨rfl,uH HB⟩
theorem eqManager_two (y y':Mgs) (m:Mgr) (w:World) (h:MRow w y m) (h':MRow w y' m) (hf:FitMgr m) :
  Calls Tryz.prog 8 #[mgrv y m,mgrv y' m] w fun e w'=>e=.returned (.bool true)∧Below w.heap.size w w':=by
 obtain ⟨k1,k2,k3,k4⟩:=h.1.len
 obtain ⟨l1,l2,l3,l4⟩:=h'.1.len
 have k5:=h.2.1
 have l5:=h'.2.1
 obtain ⟨⟨qa,ql,qc,aa,al,ac,ma,ml,mc,ca,cl,cc⟩,wo,wl,wc⟩:=y
 obtain ⟨⟨qs,clock,epoch,next,serial,apps,ms,cs⟩,log,safe,wait⟩:=m
 obtain ⟨⟨ra,rl,rc,ba,bl,bc,na,nl,nc,da,dl,dc⟩,vo,vl,vc⟩:=y'
 simp only at k1 k2 k3 k4 k5 l1 l2 l3 l4 l5
 obtain rfl:ql=rl:=k1.trans l1.symm
 obtain rfl:al=bl:=k2.trans l2.symm
 obtain rfl:ml=nl:=k3.trans l3.symm
 obtain rfl:cl=dl:=k4.trans l4.symm
 obtain rfl:wl=vl:=k5.trans l5.symm
 obtain ⟨a1,a2⟩:=h
 obtain ⟨b1,b2⟩:=h'
 simp only at a1 a2 b1 b2
 have hwl:wl≤1048576:=by have:=hf.2.2.1;simp only at this k5;omega
 have CS:=hide (fun wx (hb:Below w.heap.size w wx)=>eqState_same ⟨qa,ql,qc,aa,al,ac,ma,ml,mc,ca,cl,cc⟩ ⟨ra,ql,rc,ba,al,bc,na,ml,nc,da,cl,dc⟩ ⟨qs,clock,epoch,next,serial,apps,ms,cs⟩ wx (a1.below hb) (b1.below hb) hf.1)
 have CR:=hide (fun wx (hb:Below w.heap.size w wx)=>eqReplyS_same wo vo wl wc vc wait wx (a2.below hb) (b2.below hb) hwl hf.2.2.two)
 clear a1 a2 b1 b2 hf k1 k2 k3 k4 k5 l1 l2 l3 l4 l5 hwl
 have HB0:=hide (yA (yA (yH _ w) (.cells #[.slice qa ql qc,.int .i64 clock,.int .i64 epoch,.int .i64 next,.int .i64 serial,.slice aa al ac,.slice ma ml mc,.slice ca cl cc,.string (bs log),.int .i64 safe,.slice wo wl wc] 40)) (.cells #[.slice ra ql rc,.int .i64 clock,.int .i64 epoch,.int .i64 next,.int .i64 serial,.slice ba al bc,.slice na ml nc,.slice da cl dc,.string (bs log),.int .i64 safe,.slice vo wl vc] 40))
 have P0:=hide ((yD w #[.slice qa ql qc,.int .i64 clock,.int .i64 epoch,.int .i64 next,.int .i64 serial,.slice aa al ac,.slice ma ml mc,.slice ca cl cc,.string (bs log),.int .i64 safe,.slice wo wl wc] 40).al (.cells #[.slice ra ql rc,.int .i64 clock,.int .i64 epoch,.int .i64 next,.int .i64 serial,.slice ba al bc,.slice na ml nc,.slice da cl dc,.string (bs log),.int .i64 safe,.slice vo wl vc] 40))
 have Q0:=hide (show Blk _ (w.heap.size+1) #[.slice ra ql rc,.int .i64 clock,.int .i64 epoch,.int .i64 next,.int .i64 serial,.slice ba al bc,.slice na ml nc,.slice da cl dc,.string (bs log),.int .i64 safe,.slice vo wl vc] 40 by have:=yD (w.alloc (.cells #[.slice qa ql qc,.int .i64 clock,.int .i64 epoch,.int .i64 next,.int .i64 serial,.slice aa al ac,.slice ma ml mc,.slice ca cl cc,.string (bs log),.int .i64 safe,.slice wo wl wc] 40)) #[.slice ra ql rc,.int .i64 clock,.int .i64 epoch,.int .i64 next,.int .i64 serial,.slice ba al bc,.slice na ml nc,.slice da cl dc,.string (bs log),.int .i64 safe,.slice vo wl vc] 40;rwa [yE] at this)
 have p0:=(uH P0).at 0;have p1:=(uH P0).at 1;have p2:=(uH P0).at 2;have p3:=(uH P0).at 3;have p4:=(uH P0).at 4;have p5:=(uH P0).at 5;have p6:=(uH P0).at 6;have p7:=(uH P0).at 7
 simp at p0 p1 p2 p3 p4 p5 p6 p7
 have q0:=(uH Q0).at 0;have q1:=(uH Q0).at 1;have q2:=(uH Q0).at 2;have q3:=(uH Q0).at 3;have q4:=(uH Q0).at 4;have q5:=(uH Q0).at 5;have q6:=(uH Q0).at 6;have q7:=(uH Q0).at 7
 simp at q0 q1 q2 q3 q4 q5 q6 q7
 go_enter Tryz.func8,Tryz.ntmps8
 go_wp2_with fail
 refine (uH CS _ (uH HB0)).mono ?_
 rintro e w1 ⟨rfl,hb⟩
 have HB1:=hide (yB (uH HB0) hb)
 have P1:=hide ((uH P0).below hb)
 have Q1:=hide ((uH Q0).below hb)
 clear hb CS P0 Q0 HB0 p0 p1 p2 p3 p4 p5 p6 p7 q0 q1 q2 q3 q4 q5 q6 q7
 have p8:=(uH P1).at 8;have p9:=(uH P1).at 9;have p10:=(uH P1).at 10
 simp at p8 p9 p10
 have q8:=(uH Q1).at 8;have q9:=(uH Q1).at 9;have q10:=(uH Q1).at 10
 simp at q8 q9 q10
 go_wp2_with fail
 refine (uH CR _ (uH HB1)).mono ?_
 rintro e w2 ⟨rfl,hb⟩
 have HB2:=hide (yB (uH HB1) hb)
 clear hb CR P1 Q1 HB1 p8 p9 p10 q8 q9 q10
 go_wp2
 go_ret
 exact ⟨rfl,uH HB2⟩
end
end Go.Proofs.YtjkfappkpopbdaaGreat
