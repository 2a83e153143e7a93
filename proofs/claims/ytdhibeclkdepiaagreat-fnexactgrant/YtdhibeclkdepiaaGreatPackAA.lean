/-
  Texts in one: MarkX, AnsW, RegX, StoC.
-/
import Derived.Test.YtdhibeclkdepiaaGreatPackZ
import Derived.Deep.MidRow
import Derived.Great.BuildSlice
set_option maxRecDepth 100000
set_option maxHeartbeats 16000000
set_option linter.unusedVariables false
set_option linter.unusedSimpArgs false
namespace Go.Proofs.YtdhibeclkdepiaaGreat
section
open Go.RowKit
def AWh (w:World) (B E g n:Nat):Prop:=Cel w 74 g (n*3)∧∀i,i<n→∃b len,w.cell? ⟨g,i*3+2,none⟩=some (.slice (some ⟨b,0,none⟩) len len)∧Cel w 77 b (len*5)∧len≤1048576∧B≤b∧b<E∧b≠g
theorem AWh.below {w w':World} {B E g n:Nat} (h:AWh w B E g n) (hb:Below w.heap.size w w'):AWh w' B E g n:=
 ⟨h.1.below hb,fun i hi=>let ⟨b,len,a,c,d⟩:=h.2 i hi;⟨b,len,cellBel a hb,c.below hb,d⟩⟩
theorem AWh.sc {w:World} {B E g n:Nat} (h:AWh w B E g n) (j:Nat) (v:Value) (hj:∀i,j≠i*3+2):AWh (w.setCell ⟨g,j,none⟩ v) B E g n:=
 ⟨h.1.set _ _ _,fun i hi=>let ⟨b,len,a,c,d⟩:=h.2 i hi;⟨b,len,cellKeep a (hj i),c.set _ _ _,d⟩⟩
theorem AWh.mkd {w w':World} {B E g n b:Nat} (h:AWh w B E g n) (hm:Mkd b (b+1) w w') (hn:b≠g):AWh w' B E g n:=
 ⟨hm.cel _ _ _ h.1,fun i hi=>let ⟨b',len,a,c,d⟩:=h.2 i hi;⟨b',len,(World.cell?_of_block (w:=w) (a:=⟨g,i*3+2,none⟩) (hm.block g h.1.lt (by omega))).trans a,hm.cel _ _ _ c,d⟩⟩
theorem ApplBlk.wh {w:World} {g n:Nat} {l:List Appl} (h:ApplBlk w 74 g n n l) (hl:n=l.length) (hk:∀q ∈ l,q.asks.length≤1048576):AWh w (g+1) w.heap.size g n:=by
 refine ⟨h.cel,fun i hi=>?_⟩
 obtain ⟨arr,h1,h2,h3⟩:=h
 have hil:i<l.length:=by omega
 obtain ⟨_,_,ao,len,cap,e,ho⟩:=h3 i hil hi
 obtain ⟨b,rfl,rfl,hb⟩:=ho.2.2.2
 have hg:=ho.2.2.1 b 0 rfl
 have hlen:=hk l[i] (List.getElem_mem _)
 have:=ho.1.1
 exact ⟨b,cap,by simp [World.cell?,h1,e],hb.cel,by omega,by omega,hb.lt,by omega⟩
theorem markAppS_from (B E g n:Nat) (k0:Int) (w:World) (h:AWh w B E g n) (hB:B≤g) (hE:g<E) (hn:n≤1048576) (h0:0<k0) (h1:k0≤100000000000000) :
  Calls Tryz.prog 36 #[.slice (some ⟨g,0,none⟩) n n,.int .i64 k0] w fun e w'=>∃k',e=.returned (.int .i64 k')∧k0≤k'∧k'≤k0+5242882*(n:Int)∧Mkd B E w w':=by
 have HQ0:=hide h
 clear h
 go_enter Tryz.func36,Tryz.ntmps36
 go_wp2
 go_loopw [1,5] (fun s i wr=>∃(j:Nat) (k:Int),j≤n∧i=.int .i64 j∧s=.int .i64 k∧k0≤k∧k≤k0+5242882*(j:Int)∧Hid (AWh wr B E g n)∧Hid (Mkd B E w wr)) (fun _ i _=>n - (intOf i).toNat)
 case atStart=>exact ⟨0,k0,Nat.zero_le _,rfl,rfl,by omega,by omega,HQ0,hide (Mkd.refl _ _ _)⟩
 case round=>
  obtain ⟨j,k,hj,rfl,rfl,hk,hk',HQ,HG⟩:=hrel
  by_cases hlt:j<n
  ·have hk0:0<k:=by omega
   have hk1:k≤105500000000000:=by omega
   have HK:=hide hk'
   clear hk'
   obtain ⟨v0,d0⟩:=(uH HQ).1.cell (j:=j*3) (by omega)
   have f0:=(uH HQ).1.frozen (j*3)
   have HQ1:=hide ((uH HQ).sc (j*3) (.int .i64 k) (by omega))
   have HG1:=hide ((uH HG).sc g (j*3) (.int .i64 k) hB hE)
   clear HQ HG
   go_wp2_with fail
   refine (markText_int (k+1) _ (by omega) (by omega)).mono ?_
   rintro e w1 ⟨rfl,hb⟩
   have HQ2:=hide ((uH HQ1).below hb)
   have HG2:=hide ((uH HG1).on hb)
   clear hb d0 f0 HQ1 HG1
   obtain ⟨v1,d1⟩:=(uH HQ2).1.cell (j:=j*3+1) (by omega)
   have f1:=(uH HQ2).1.frozen (j*3+1)
   have HQ3:=hide ((uH HQ2).sc (j*3+1) (.string (mk (k+1).toNat)) (by omega))
   have HG3:=hide ((uH HG2).sc g (j*3+1) (.string (mk (k+1).toNat)) hB hE)
   clear HQ2 HG2
   obtain ⟨b,len,d2,hcel,hlen,hb1,hb2,hbg⟩:=(uH HQ3).2 j hlt
   obtain ⟨K,hK⟩:=Int.eq_ofNat_of_zero_le (a:=k+1+1) (by omega)
   have CA:=hide (fun (e:k+1+1=(K:Int))=>by have:=markAskS_from b len len K (d:=len) _ hcel (Nat.le_refl _) hlen (by omega) (by omega);rw [←e] at this;exact this)
   have HKK:=hide hK
   clear hcel hK
   go_wp2_with fail
   refine (uH CA (uH HKK)).mono ?_
   rintro e w2 ⟨rfl,_,hm⟩
   have HQ4:=hide ((uH HQ3).mkd hm hbg)
   have HG4:=hide ((uH HG3).trans (hm.mono hb1 (by omega)))
   clear hm CA HQ3 HG3 d1 f1 d2
   go_wp2
   go_roundw
   case rel=>exact ⟨j+1,k+1+1+5*(len:Int),by omega,by go_num,by go_num,by omega,by have:=uH HK;omega,HQ4,HG4⟩
   case measure=>simp [intOf];omega
  ·have hjn:j=n:=by omega
   subst hjn
   go_wp2
   go_ret
   exact ⟨k,rfl,hk,hk',uH HG⟩
theorem markState_any (B E g1 g2 g3 g4 ql al ml cl:Nat) (s:St) (w:World) (hq:Cel w 100 g1 (ql*4)) (ha:AWh w B E g2 al) (hm:Cel w 104 g3 (ml*4)) (hc:Cel w 38 g4 (cl*5))
  (b1:B≤g1∧g1<g2∧g2<g3∧g3<g4∧g4<E) (hE:E≤w.heap.size) (hql:ql≤1048576) (hal:al≤1048576) (hml:ml≤1048576) (hcl:cl≤1048576) :
  Calls Tryz.prog 11 #[sv (own4 g1 g2 g3 g4 ql al ml cl) s,.int .i64 1] w fun e w'=>∃k,e=.returned (.int .i64 k)∧0<k∧Mkd B E w w':=by
 have hb0:=yA (Below.refl _ w) (.cells (svc (own4 g1 g2 g3 g4 ql al ml cl) s) 34)
 have P0:=hide (yD w (svc (own4 g1 g2 g3 g4 ql al ml cl) s) 34)
 have CQ:=hide (hq.below hb0)
 have CA:=hide (ha.below hb0)
 have CM:=hide (hm.below hb0)
 have CC:=hide (hc.below hb0)
 have HG0:=hide (show Mkd B E w _ from .of_below hb0)
 obtain ⟨qs,clock,epoch,next,serial,apps,ms,cs⟩:=s
 clear hq ha hm hc hb0
 go_enter Tryz.func11,Tryz.ntmps11
 go_wp2_with fail
 refine (markQueueS_from g1 ql ql 1 _ (uH CQ) (Nat.le_refl _) hql (by omega) (by omega)).mono ?_
 rintro e w1 ⟨rfl,hm1⟩
 have P1:=hide (hm1.blk (uH P0) (.inr (by omega)))
 have CA1:=hide ((uH CA).mkd hm1 (by omega))
 have CM1:=hide (hm1.cel _ _ _ (uH CM))
 have CC1:=hide (hm1.cel _ _ _ (uH CC))
 have HG1:=hide ((uH HG0).trans (hm1.mono b1.1 (by omega)))
 have p5:=(uH P1).at 5
 simp at p5
 clear hm1 P0 CQ CA CM CC HG0
 go_wp2_with fail
 refine (markAppS_from B E g2 al (1+4*(ql:Int)) _ (uH CA1) (by omega) (by omega) hal (by omega) (by omega)).mono ?_
 rintro e w2 ⟨k2,rfl,hk2,hk2',hm2⟩
 have P2:=hide (hm2.blk (uH P1) (.inr (by omega)))
 have CM2:=hide (hm2.cel _ _ _ (uH CM1))
 have CC2:=hide (hm2.cel _ _ _ (uH CC1))
 have HG2:=hide ((uH HG1).trans hm2)
 have p6:=(uH P2).at 6
 simp at p6
 have hk2a:0<k2:=by omega
 have hk2b:k2≤10000000000000:=by omega
 clear hm2 P1 CA1 CM1 CC1 HG1 p5 hk2 hk2'
 go_wp2_with fail
 refine (markMachineS_from g3 ml ml k2 _ (uH CM2) (Nat.le_refl _) hml (by omega) (by omega)).mono ?_
 rintro e w3 ⟨rfl,hm3⟩
 have P3:=hide (hm3.blk (uH P2) (.inr (by omega)))
 have CC3:=hide (hm3.cel _ _ _ (uH CC2))
 have HG3:=hide ((uH HG2).trans (hm3.mono (by omega) (by omega)))
 have p7:=(uH P3).at 7
 simp at p7
 clear hm3 P2 CM2 CC2 HG2 p6
 go_wp2_with fail
 refine (markContS_from g4 cl cl (k2+4*(ml:Int)) _ (uH CC3) (Nat.le_refl _) hcl (by omega) (by omega)).mono ?_
 rintro e w4 ⟨rfl,hm4⟩
 have HG4:=hide ((uH HG3).trans (hm4.mono (by omega) (by omega)))
 clear hm4 P3 CC3 HG3 p7
 go_wp2
 go_ret
 exact ⟨_,rfl,by omega,uH HG4⟩
theorem AWh.mono {w:World} {B E B' E' g n:Nat} (h:AWh w B E g n) (h1:B'≤B) (h2:E≤E'):AWh w B' E' g n:=
 ⟨h.1,fun i hi=>let ⟨b,len,a,c,d,e,f,k⟩:=h.2 i hi;⟨b,len,a,c,d,by omega,by omega,k⟩⟩
theorem InBox.mkd {w wx wy:World} {x:Sls} {s:St} {B E:Nat} (h:InBox w x s wx) (hm:Mkd B E wx wy) (h1:w.heap.size<B) (h2:B≤wx.heap.size):InBox w x s wy:=⟨hm.blk h.1 (.inl h1),h.2.trans ((hm.below h2).mono (by omega))⟩
theorem InBox.low {w wx wy:World} {x:Sls} {s:St} {B:Nat} (h:InBox w x s wx) (hm:Below B wx wy) (h1:w.heap.size<B):InBox w x s wy:=⟨(hm.block _ h1).trans h.1,h.2.trans (hm.mono (by omega))⟩
def InTwoB (w9 w:World) (x:Sls) (s:St) (g g1 g2 g3 g4:Nat) (wx:World):Prop:=InTwo w x s g g1 g2 g3 g4 wx∧Below w9.heap.size w9 wx
theorem InTwoB.call {w9 w wx wy:World} {x:Sls} {s:St} {g g1 g2 g3 g4:Nat} (h:InTwoB w9 w x s g g1 g2 g3 g4 wx) (hb:Below wx.heap.size wx wy):InTwoB w9 w x s g g1 g2 g3 g4 wy:=⟨h.1.call hb,yB h.2 hb⟩
theorem InTwoB.drew {w9 w wx:World} {x:Sls} {s:St} {g g1 g2 g3 g4:Nat} (h:InTwoB w9 w x s g g1 g2 g3 g4 wx):InTwoB w9 w x s g g1 g2 g3 g4 wx.drew:=h.call (Below.refl _ _).drew
theorem SAns.keep {B E:Nat} {w w':World} {x:Sls} {s:St} {hs:List AV} (h:SAns B E w x s hs) (hk:∀k,B≤k→k<E→w'.heap[k]? = w.heap[k]?):SAns B E w' x s hs:=by
 have key:∀{t:TypeId} {sz n:Nat} {ao:Option Addr},Own1 B E w t sz ao n→(∀k,inR ao n k→w'.heap[k]? = w.heap[k]?)∧Own1 B E w' t sz ao n:=fun ho=>by
  refine ⟨fun k hi=>?_,?_⟩
  ·obtain ⟨h1,h2,_⟩:=ho.lies k hi
   exact hk k h1 h2
  ·rcases ho with e | ⟨g,M,e,h1,h2,h3,h4⟩
   ·exact .inl e
   ·exact .inr ⟨g,M,e,h1,h2,h3.of_block (hk g h1 h2),h4⟩
 have hh:Heads w' hs s.apps:=⟨h.heads.1,fun i h1 h2=>by
  obtain ⟨a,b,c,d⟩:=h.heads.2 i h1 h2
  exact ⟨a,b,c.kept (key (h.asks _ (List.getElem_mem h1))).1,d⟩⟩
 have hav:=h.av.kept (key h.a).1
 exact ⟨⟨h.row.1.kept (key h.q).1,appl_of hav hh,h.row.2.2.1.kept (key h.m).1,h.row.2.2.2.kept (key h.c).1⟩,(key h.q).2,(key h.a).2,(key h.m).2,(key h.c).2,hav,hh,fun v hv=>(key (h.asks v hv)).2,h.apart,h.cap,h.rm.map (fun o=>(key o).2)⟩
structure AnsL (B E:Nat) (w:World) (g:Nat) (y:Sls) (s:St) (hs:List AV) (go:Option Addr) (gn:Nat) (gone:List Con):Prop where
 box:Blk w g (svc y s) 34
 a:SAns B E w y s hs
 c:ConRow w go gn gone
 co:Own1 B E w 38 5 go gn
 ap:∀k,inR go gn k→¬inR y.ca y.cl k
 ge:E≤g
theorem AnsL.below {B E:Nat} {w w':World} {g:Nat} {y:Sls} {s:St} {hs:List AV} {go:Option Addr} {gn:Nat} {gone:List Con} (h:AnsL B E w g y s hs go gn gone) (hb:Below w.heap.size w w'):AnsL B E w' g y s hs go gn gone:=
 ⟨h.box.below hb,h.a.below hb,h.c.below hb,h.co.below hb,h.ap,h.ge⟩
theorem AnsL.al {B E:Nat} {w:World} {g:Nat} {y:Sls} {s:St} {hs:List AV} {go:Option Addr} {gn:Nat} {gone:List Con} (h:AnsL B E w g y s hs go gn gone) (o:Obj):AnsL B E (w.alloc o) g y s hs go gn gone:=h.below (yA (Below.refl _ _) o)
theorem AnsL.keep {B E:Nat} {w w':World} {g:Nat} {y:Sls} {s:St} {hs:List AV} {go:Option Addr} {gn:Nat} {gone:List Con} (h:AnsL B E w g y s hs go gn gone) (hk:∀k,B≤k→k<E→w'.heap[k]? = w.heap[k]?) (hg:w'.heap[g]? = w.heap[g]?):AnsL B E w' g y s hs go gn gone:=by
 refine ⟨hg.trans h.box,h.a.keep hk,h.c.kept (fun k hi=>?_),?_,h.ap,h.ge⟩
 ·obtain ⟨h1,h2,_⟩:=h.co.lies k hi
  exact hk k h1 h2
 ·rcases h.co with e | ⟨b,M,e,h1,h2,h3,h4⟩
  ·exact .inl e
  ·exact .inr ⟨b,M,e,h1,h2,h3.of_block (hk b h1 h2),h4⟩
theorem AnsL.read {B E:Nat} {w:World} {g:Nat} {y:Sls} {s:St} {hs:List AV} {go:Option Addr} {gn:Nat} {gone:List Con} (h:AnsL B E w g y s hs go gn gone):w.cell? ⟨g,0,none⟩=some (.slice y.qa y.ql y.qc)∧w.cell? ⟨g,1,none⟩=some (.int .i64 s.clock)∧w.cell? ⟨g,2,none⟩=some (.int .i64 s.epoch)∧w.cell? ⟨g,3,none⟩=some (.int .i64 s.next)∧w.cell? ⟨g,4,none⟩=some (.int .i64 s.serial)∧w.cell? ⟨g,5,none⟩=some (.slice y.aa y.al y.ac)∧w.cell? ⟨g,6,none⟩=some (.slice y.ma y.ml y.mc)∧w.cell? ⟨g,7,none⟩=some (.slice y.ca y.cl y.cc):=
 ⟨h.box.at 0,h.box.at 1,h.box.at 2,h.box.at 3,h.box.at 4,h.box.at 5,h.box.at 6,h.box.at 7⟩
structure OwnS (B E:Nat) (w:World) (x:Sls) (hs:List AV):Prop where
 q:Own1 B E w 100 4 x.qa x.ql
 a:Own1 B E w 74 3 x.aa x.al
 m:Own1 B E w 104 4 x.ma x.ml
 c:Own1 B E w 38 5 x.ca x.cl
 k:∀v ∈ hs,Own1 B E w 77 5 v.ao v.len
theorem SAns.own {B E:Nat} {w:World} {x:Sls} {s:St} {hs:List AV} (h:SAns B E w x s hs):OwnS B E w x hs:=⟨h.q,h.a,h.m,h.c,h.asks⟩
theorem OwnS.mks {B E:Nat} {w w':World} {x:Sls} {hs:List AV} {S:Nat→Prop} (h:OwnS B E w x hs) (hm:Mks S w w'):OwnS B E w' x hs:=⟨h.q.mks hm,h.a.mks hm,h.m.mks hm,h.c.mks hm,fun v hv=>(h.k v hv).mks hm⟩
structure AnsH (B E:Nat) (w:World) (g:Nat) (y:Sls) (s:St) (hs:List AV) (go:Option Addr) (gn:Nat):Prop where
 box:Blk w g (svc y s) 34
 m:SMk w y hs
 own:OwnS B E w y hs
 co:Own1 B E w 38 5 go gn
 ap:∀k,inR go gn k→¬inR y.ca y.cl k
 ge:E≤g
theorem AnsH.read {B E:Nat} {w:World} {g:Nat} {y:Sls} {s:St} {hs:List AV} {go:Option Addr} {gn:Nat} (h:AnsH B E w g y s hs go gn):w.cell? ⟨g,0,none⟩=some (.slice y.qa y.ql y.qc):=h.box.at 0
theorem mark_st {B E:Nat} {w:World} {g:Nat} {y:Sls} {s:St} {hs:List AV} {go:Option Addr} {gn:Nat} {gone:List Con} (h:AnsL B E w g y s hs go gn gone) (hl:SLim y hs) :
  Calls Tryz.prog 11 #[sv y s,.int .i64 1] w fun e w'=>e=.returned (.int .i64 (endS y hs:Int))∧AnsH B E w' g y s hs go gn∧Mks (inS y hs) w w':=by
 refine (markState_ans h.a (by have:=h.box.lt;have:=h.ge;omega) hl).mono ?_
 rintro e w' ⟨rfl,hm,hk⟩
 exact ⟨rfl,⟨hk.blk h.box (fun hi=>by have:=h.a.ins g hi;have:=h.ge;omega),hm,h.a.own.mks hk,h.co.mks hk,h.ap,h.ge⟩,hk⟩
structure AnsM (w:World) (g:Nat) (y:Sls) (s:St) (hs:List AV) (go:Option Addr) (gn:Nat):Prop where
 box:Blk w g (svc y s) 34
 m:SMk w y hs
 c:ConRow w go gn (marksC (endS y hs) gn)
theorem AnsM.below {w w':World} {g:Nat} {y:Sls} {s:St} {hs:List AV} {go:Option Addr} {gn:Nat} (h:AnsM w g y s hs go gn) (hb:Below w.heap.size w w'):AnsM w' g y s hs go gn:=⟨h.box.below hb,h.m.below hb,h.c.below hb⟩
theorem AnsM.al {w:World} {g:Nat} {y:Sls} {s:St} {hs:List AV} {go:Option Addr} {gn:Nat} (h:AnsM w g y s hs go gn) (o:Obj):AnsM (w.alloc o) g y s hs go gn:=h.below (yA (Below.refl _ _) o)
theorem AnsM.read {w:World} {g:Nat} {y:Sls} {s:St} {hs:List AV} {go:Option Addr} {gn:Nat} (h:AnsM w g y s hs go gn):w.cell? ⟨g,0,none⟩=some (.slice y.qa y.ql y.qc)∧w.cell? ⟨g,1,none⟩=some (.int .i64 s.clock)∧w.cell? ⟨g,2,none⟩=some (.int .i64 s.epoch)∧w.cell? ⟨g,3,none⟩=some (.int .i64 s.next)∧w.cell? ⟨g,4,none⟩=some (.int .i64 s.serial)∧w.cell? ⟨g,5,none⟩=some (.slice y.aa y.al y.ac)∧w.cell? ⟨g,6,none⟩=some (.slice y.ma y.ml y.mc)∧w.cell? ⟨g,7,none⟩=some (.slice y.ca y.cl y.cc):=
 ⟨h.box.at 0,h.box.at 1,h.box.at 2,h.box.at 3,h.box.at 4,h.box.at 5,h.box.at 6,h.box.at 7⟩
theorem SLim.end {y:Sls} {hs:List AV} (h:SLim y hs):0<endS y hs∧endS y hs≤100000000000000:=by
 have h1:=h.e
 have h2:=h.m
 have h3:=h.c
 unfold endS
 omega
theorem mark_gone {B E:Nat} {w:World} {g:Nat} {y:Sls} {s:St} {hs:List AV} {go:Option Addr} {gn gc:Nat} (h:AnsH B E w g y s hs go gn) (hl:SLim y hs) (hn:gn≤1048576) :
  Calls Tryz.prog 16 #[.slice go gn gc,.int .i64 (endS y hs:Int)] w fun e w'=>e=.returned (.int .i64 ((endS y hs:Int)+5*(gn:Int)))∧AnsM w' g y s hs go gn∧Mks (inR go gn) w w':=by
 have he:=hl.end
 refine (markContS_own (c:=gc) (endS y hs) h.co hn he.1 (by omega)).mono ?_
 rintro e w' ⟨rfl,hr,hm⟩
 have hap:∀{t:TypeId} {sz n:Nat} {ao:Option Addr},Own1 B E w t sz ao n→t≠38→∀k,inR ao n k→¬inR go gn k:=fun ho ht=>ho.apart h.co ht
 exact ⟨rfl,⟨hm.blk h.box (fun hi=>by have:=(h.co.lies g hi).2.1;have:=h.ge;omega),⟨h.m.q.mks hm (hap h.own.q (by decide)),h.m.a.mks hm (hap h.own.a (by decide)),h.m.k.mks hm _ _ (fun v hv=>hap (h.own.k v hv) (by decide)),h.m.m.mks hm (hap h.own.m (by decide)),h.m.c.mks hm (fun k h1 h2=>h.ap k h2 h1),h.m.z⟩,hr⟩,hm⟩
theorem held_gone {w:World} {g:Nat} {y:Sls} {s:St} {hs:List AV} {go:Option Addr} {gn gc:Nat} (h:AnsM w g y s hs go gn) (hl:SLim y hs) (hn:gn≤1048576) :
  Calls Tryz.prog 17 #[.slice go gn gc,.int .i64 (endS y hs:Int)] w fun e w'=>e=.returned (.int .i64 ((endS y hs:Int)+5*(gn:Int)))∧Below w.heap.size w w':=
 heldContS_any go gn gc (endS y hs) w h.c hn hl.end.1 (by have:=hl.end;omega)
theorem AnsL.off {B E B' E':Nat} {w w':World} {g:Nat} {y:Sls} {s:St} {hs:List AV} {go:Option Addr} {gn:Nat} {gone:List Con} {S:Nat→Prop} (h:AnsL B E w g y s hs go gn gone) (hm:Mks S w w') (hS:∀k,S k→B'≤k∧k<E') (h1:g<B'∨E'≤B) (h2:g<B'∨E'≤g):AnsL B E w' g y s hs go gn gone:=
 h.keep (fun k hk1 hk2=>hm.block k (by have:=h.box.lt;have:=h.ge;omega) (fun hs=>by have:=hS k hs;have:=h.ge;omega)) (hm.block g h.box.lt (fun hs=>by have:=hS g hs;omega))
theorem AnsL.offd {B E B' E':Nat} {w w':World} {g:Nat} {y:Sls} {s:St} {hs:List AV} {go:Option Addr} {gn:Nat} {gone:List Con} (h:AnsL B E w g y s hs go gn gone) (hm:Mkd B' E' w w') (h1:g<B'∨E'≤B) (h2:g<B'∨E'≤g):AnsL B E w' g y s hs go gn gone:=
 h.keep (fun k hk1 hk2=>hm.block k (by have:=h.box.lt;have:=h.ge;omega) (by have:=h.ge;omega)) (hm.block g h.box.lt h2)
theorem InBox.off {w wx wy:World} {x:Sls} {s:St} {B:Nat} {S:Nat→Prop} (h:InBox w x s wx) (hm:Mks S wx wy) (hS:∀k,S k→B≤k) (h1:w.heap.size<B) (h2:B≤wx.heap.size):InBox w x s wy:=h.low (hm.below hS h2) h1
theorem own4_heads {w:World} {g1 g2 g3 g4:Nat} {x:Sls} {s:St} (h:SOwn4 w g1 g2 g3 g4 x.ql x.al x.ml x.cl s) (hl:SLen x s):∃hs,AVRow w (some ⟨g2,0,none⟩) x.al hs∧Heads w hs s.apps∧SSome (own4 g1 g2 g3 g4 x.ql x.al x.ml x.cl) hs:=by
 obtain ⟨hs,h1,h2⟩:=(h.2.1.row hl.2.1).heads
 refine ⟨hs,h1,h2,⟨(fun e=>by cases e),(fun e=>by cases e),(fun e=>by cases e),fun v hv hno=>?_⟩⟩
 obtain ⟨i,hi,rfl⟩:=List.getElem_of_mem hv
 have hi':i<s.apps.length:=by rw [←h2.1];exact hi
 obtain ⟨arr,a1,a2,a3⟩:=h.2.1
 obtain ⟨_,_,ao,len,cap,e,ho⟩:=a3 i hi' (by have:=hl.2.1;omega)
 obtain ⟨b,rfl,_,_⟩:=ho.2.2.2
 rcases h1.2 with z | ⟨b',off',z,hh⟩
 ·have:=h1.1;omega
 ·cases z
  have hc:=(hh i hi).2.2
  simp [World.cell?,a1] at hc
  rw [e] at hc
  simp at hc
  rw [hno] at hc
  exact absurd hc.1 (by simp)
def wpAnyX (P:Program) (md:Region.Mode) (ops:Array Oper) (Q:Exit→Act→World→Prop) (X:Nat) (S T:World→Prop):Nat→Array Bool→Act→World→Prop
 | 0,listed,a,w=>Region.ready md ops listed=[]∧Q .normal a w
 | fuel+1,listed,a,w=>(Region.ready md ops listed=[]→Q .normal a w)∧
  ∀i ∈ Region.ready md ops listed,wpOp P ops Q i (fun a' w'=>S w'∧((listed.setIfInBounds i true).getD X false=false→T w')∧wpAnyX P md ops Q X S T fuel (listed.setIfInBounds i true) a' w') a w
section
variable {P:Program} {ops:Array Oper} {Q:Exit→Act→World→Prop} {md:Region.Mode} {X:Nat} {S T:World→Prop}
theorem wpAny_of_x:∀(fuel:Nat) (listed:Array Bool) (a:Act) (w:World),wpAnyX P md ops Q X S T fuel listed a w→wpAny P md ops Q fuel listed a w
 | 0,_,_,_,h=>h
 | fuel+1,_,_,_,h=>⟨h.1,fun i hi=>wpOp_mono (fun a' w' h'=>wpAny_of_x fuel _ a' w' h'.2.2) (h.2 i hi)⟩
theorem wp_region_x {id:Nat} {a:Act} {w:World} (X:Nat) (S T:World→Prop) (hm:P.follows .mixedOrders=true) (h1:S w.drew) (h2:T w.drew)
  (h:S w.drew→T w.drew→wpAnyX P .any ops Q X S T ops.size (Array.replicate ops.size false) a w.drew):(Code.region id ops true).wp P Q a w:=
 wp_region_any hm (wpAny_of_x _ _ _ _ (h h1 h2))
theorem wpAnyX_on:∀(fuel:Nat) (listed:Array Bool) (a:Act) (w:World),listed.getD X false=true→wpAnyH P md ops Q S fuel listed a w→wpAnyX P md ops Q X S T fuel listed a w
 | 0,_,_,_,_,h=>h
 | fuel+1,_,_,_,hX,h=>⟨h.1,fun i hi=>wpOp_mono (fun a' w' h'=>⟨h'.1,(fun e=>by rw [getD_set_true hX] at e;cases e),wpAnyX_on fuel _ a' w' (getD_set_true hX) h'.2⟩) (h.2 i hi)⟩
theorem wpAnyX_first {i:Nat} {oi:Oper} {v:Value} {U:World→Prop} (hi:ops[i]? = some oi) (hsel:∀(j:Nat) (o:Oper) cs b,ops[j]? = some o→o.op≠.select cs b) (hXi:i≠X)
  (hQ:∀c a w,Q (.panic c) (a.put oi.dst v) w→Q (.panic c) a w)
  (c:Bool) (hU1:c=true→∀w,S w→U w) (hU2:c=false→(∀w,T w→U w)∧∃ox,ops[X]? = some ox∧∃e ∈ ox.after,Region.binds md e=true∧e.on=i) :
  ∀(fuel:Nat) (listed:Array Bool) (a:Act) (w:World),
   (∀j oj,ops[j]? = some oj→j≠i→listed.getD j true=false→(∀e ∈ oj.after,Region.binds md e=true→e.on≠i)→oi.apart ops oj=true)→
   i ∈ Region.ready md ops listed→YieldsIf P ops U oi v a→(c=false→listed.getD X false=false)→S w→(listed.getD X false=false→T w)→
   wpAnyX P md ops Q X S T fuel (listed.setIfInBounds i true) (a.put oi.dst v) w→wpAnyX P md ops Q X S T (fuel+1) listed a w:=by
 have hw:∀(listed:Array Bool) w,(c=false→listed.getD X false=false)→S w→(listed.getD X false=false→T w)→U w:=fun listed w h0 h1 h2=>by
  cases c
  ·exact (hU2 rfl).1 w (h2 (h0 rfl))
  ·exact hU1 rfl w h1
 intro fuel
 induction fuel with
 | zero=>
  intro listed a w _ hr hy hX h1 h2 H
  refine ⟨fun h=>(by rw [h] at hr;cases hr),fun j hj=>?_⟩
  by_cases hji:j=i
  ·subst hji;exact hy.wpOp hi (hw listed w hX h1 h2) ⟨h1,fun e=>h2 (by rwa [getD_set_ne false hXi] at e),H⟩
  ·have:=ready_mono hj hji
   rw [H.1] at this
   cases this
 | succ fuel ih=>
  intro listed a w hfree hr hy hX h1 h2 H
  refine ⟨fun h=>(by rw [h] at hr;cases hr),fun j hj=>?_⟩
  by_cases hji:j=i
  ·subst hji;exact hy.wpOp hi (hw listed w hX h1 h2) ⟨h1,fun e=>h2 (by rwa [getD_set_ne false hXi] at e),H⟩
  ·have k1:=H.2 j (ready_mono hj hji)
   obtain ⟨hjun,oj,hoj,hall⟩:=mem_ready.1 hj
   have hnot:∀e ∈ oj.after,Region.binds md e=true→e.on≠i:=fun e he hb heq=>by
    have q1:=hall e he hb
    have q0:=(mem_ready.1 hr).1
    rw [heq] at q1
    rcases Nat.lt_or_ge i listed.size with h' | h'
    ·simp [h'] at q0 q1;rw [q0] at q1;cases q1
    ·simp [Array.getElem?_eq_none h'] at q1
   have k2:=wpOp_putIf hoj (hfree j oj hoj hji hjun hnot) (fun cs b=>hsel i oi cs b hi) (fun cs b=>hsel j oj cs b hoj) hQ hy k1
   have hfree':∀k ok,ops[k]? = some ok→k≠i→(listed.setIfInBounds j true).getD k true=false→
     (∀e ∈ ok.after,Region.binds md e=true→e.on≠i)→oi.apart ops ok=true:=fun k ok hk hki hun hno=>by
    refine hfree k ok hk hki ?_ hno
    by_cases hjk:j=k
    ·subst hjk;exact hjun
    ·rw [getD_set_ne true hjk] at hun;exact hun
   refine wpOp_mono (fun a' w' h3=>?_) k2
   obtain ⟨y1,s1,t1,H1⟩:=h3
   rw [Array.setIfInBounds_comm _ _ (Ne.symm hji)] at H1
   have t2:(listed.setIfInBounds j true).getD X false=false→T w':=fun e=>by
    refine t1 ?_
    by_cases hjX:j=X
    ·subst hjX
     rw [Array.setIfInBounds_comm _ _ (Ne.symm hji),getD_set_ne false hXi]
     exact e
    ·rw [getD_set_ne false hjX,getD_set_ne false hXi]
     rw [getD_set_ne false hjX] at e
     exact e
   refine ⟨s1,t2,ih (listed.setIfInBounds j true) a' w' hfree' (ready_mono hr (Ne.symm hji)) y1 (fun hc=>?_) s1 t2 H1⟩
   have hjX:j≠X:=fun e=>by
    subst e
    obtain ⟨_,ox,hox,e,he,hb,heq⟩:=hU2 hc
    rw [hox] at hoj
    cases hoj
    exact hnot e he hb heq
   rw [getD_set_ne false hjX]
   exact hX hc
def waitsOn (md:Region.Mode) (ops:Array Oper) (X i:Nat):Bool:=((ops[X]?).map fun o=>o.after.any fun e=>Region.binds md e&&e.on==i).getD false
theorem waits_spec {i:Nat} (h:waitsOn md ops X i=true):∃ox,ops[X]? = some ox∧∃e ∈ ox.after,Region.binds md e=true∧e.on=i:=by
 unfold waitsOn at h
 cases ho:ops[X]? with
 | none=>rw [ho] at h;simp at h
 | some o=>
  rw [ho] at h
  simp only [Option.map_some,Option.getD_some] at h
  obtain ⟨e,he,hb⟩:=Array.any_eq_true'.1 h
  simp only [Bool.and_eq_true,beq_iff_eq] at hb
  exact ⟨o,rfl,e,he,hb.1,hb.2⟩
theorem takeXS {oi:Oper} {fuel:Nat} {listed:Array Bool} {a:Act} {w:World} (i d:Nat) (v:Value) (hi:ops[i]? = some oi) (hd:oi.dst=some d) (hS:S w) (hT:T w)
  (h:wpAnyX P md ops Q X S T fuel (listed.setIfInBounds i true) (a.put (some d) v) w)
  (hy:YieldsIf P ops S oi v a:=by exact Or.inl ⟨by rfl,fun wz hz=>by (go_simp;try with_reducible rfl)⟩)
  (hs:Region.noSelect ops=true:=by kernel_rfl) (hf:Region.free md ops listed i=true:=by kernel_rfl) (hr:(Region.ready md ops listed).contains i=true:=by kernel_rfl) (hX:(i != X)=true:=by kernel_rfl)
  (hQ:∀c a w,Q (.panic c) (a.put (some d) v) w→Q (.panic c) a w:=by exact fun _ _ _ h=>h):wpAnyX P md ops Q X S T (fuel+1) listed a w:=by
 rw [←hd] at h hQ
 exact wpAnyX_first hi (Region.noSelect_spec hs) (by simpa using hX) hQ true (fun _ _ h=>h) (fun e=>by cases e) fuel listed a w (Region.free_spec hi hf) (by simpa using hr) hy (fun e=>by cases e) hS (fun _=>hT) h
theorem takeXT {oi:Oper} {fuel:Nat} {listed:Array Bool} {a:Act} {w:World} (i d:Nat) (v:Value) (hi:ops[i]? = some oi) (hd:oi.dst=some d) (hS:S w) (hT:T w)
  (h:wpAnyX P md ops Q X S T fuel (listed.setIfInBounds i true) (a.put (some d) v) w)
  (hy:YieldsIf P ops T oi v a:=by exact Or.inl ⟨by rfl,fun wz hz=>by (go_simp;try with_reducible rfl)⟩)
  (hs:Region.noSelect ops=true:=by kernel_rfl) (hf:Region.free md ops listed i=true:=by kernel_rfl) (hr:(Region.ready md ops listed).contains i=true:=by kernel_rfl) (hX:(i != X)=true:=by kernel_rfl)
  (hw:waitsOn md ops X i=true:=by kernel_rfl) (hl:listed.getD X false=false:=by kernel_rfl)
  (hQ:∀c a w,Q (.panic c) (a.put (some d) v) w→Q (.panic c) a w:=by exact fun _ _ _ h=>h):wpAnyX P md ops Q X S T (fuel+1) listed a w:=by
 rw [←hd] at h hQ
 exact wpAnyX_first hi (Region.noSelect_spec hs) (by simpa using hX) hQ false (fun e=>by cases e) (fun _=>⟨fun _ h=>h,waits_spec hw⟩) fuel listed a w (Region.free_spec hi hf) (by simpa using hr) hy (fun _=>hl) hS (fun _=>hT) h
def AllReadyX (P:Program) (md:Region.Mode) (ops:Array Oper) (Q:Exit→Act→World→Prop) (X:Nat) (S T:World→Prop) (fuel:Nat) (listed:Array Bool) (a:Act) (w:World) (rs:List Nat):Prop:=
 ∀i ∈ rs,wpOp P ops Q i (fun a' w'=>S w'∧((listed.setIfInBounds i true).getD X false=false→T w')∧wpAnyX P md ops Q X S T fuel (listed.setIfInBounds i true) a' w') a w
theorem AllReadyX.nil {fuel:Nat} {listed:Array Bool} {a:Act} {w:World}:AllReadyX P md ops Q X S T fuel listed a w []:=fun _ h=>by cases h
theorem AllReadyX.cons {fuel:Nat} {listed:Array Bool} {a:Act} {w:World} {i:Nat} {o:Oper} {rs:List Nat} (ho:ops[i]? = some o)
  (h:∀K':Act→World→Prop,Shut (∀a w,S w→((listed.setIfInBounds i true).getD X false=false→T w)→wpAnyX P md ops Q X S T fuel (listed.setIfInBounds i true) a w→K' a w)→if Region.wanted o (yielded ops a.tmps)=true then Oper.wp P o a w K' Q else K' (a.put o.dst undef) w)
  (hs:AllReadyX P md ops Q X S T fuel listed a w rs):AllReadyX P md ops Q X S T fuel listed a w (i::rs):=fun j hj=>by
 rcases List.mem_cons.1 hj with rfl | hj
 ·exact wpOp_step ho (fun K' hK=>h K' (fun a w h1 h2 h3=>hK a w ⟨h1,h2,h3⟩))
 ·exact hs j hj
theorem wpAnyX_ready {fuel:Nat} {listed:Array Bool} {a:Act} {w:World} (rs:List Nat) (h:AllReadyX P md ops Q X S T fuel listed a w rs) (hr:Region.ready md ops listed=rs:=by kernel_rfl) (hne:(rs != [])=true:=by kernel_rfl):wpAnyX P md ops Q X S T (fuel+1) listed a w:=
 ⟨fun h0=>absurd (hr ▸ h0) (by simpa using hne),hr ▸ h⟩
theorem readyV {o:Oper} {a:Act} {w w':World} {K:Act→World→Prop} {v:Value} (d:Nat) (hw:Region.wanted o (yielded ops a.tmps)=true) (hd:o.dst=some d) (hr:(execOp a.eval o).run P w=.ok (.value v) w') (h:K (a.put (some d) v) w'):if Region.wanted o (yielded ops a.tmps)=true then Oper.wp P o a w K Q else K (a.put o.dst undef) w:=by
 rw [←hd] at h
 rw [if_pos hw]
 unfold Oper.wp
 rw [hr]
 exact h
theorem readyU {o:Oper} {a:Act} {w w':World} {K:Act→World→Prop} (hw:Region.wanted o (yielded ops a.tmps)=true) (hd:o.dst=none) (hr:(execOp a.eval o).run P w=.ok .skip w') (h:K (a.put none undef) w'):if Region.wanted o (yielded ops a.tmps)=true then Oper.wp P o a w K Q else K (a.put o.dst undef) w:=by
 rw [←hd] at h
 rw [if_pos hw]
 unfold Oper.wp
 rw [hr]
 exact h
theorem exec_append {a:Act} {o:Oper} {w w':World} {s x:Operand} {t:TypeId} {v vs vx:Value} (ho:o.op=.call { callee:=.builtin .append,args:=#[s,x],argTypes:=#[t,t] }) (hs:a.eval s=vs) (hx:a.eval x=vx) (hrun:(Builtin.append_ #[t,t] o.type #[vs,vx]).run P w=.ok v w'):(execOp a.eval o).run P w=.ok (.value v) w':=by
 simp [execOp,ho,resolve,invoke,builtin,hs,hx,hrun,Result.andThen]
end
theorem put_cell {P:Program} {w:World} {b j:Nat} {arr:Array Value} {t:TypeId} (ty:TypeId) (v:Value) (h:Blk w b arr t) (hj:j<arr.size) (hi:(P.info? ty).map (·.size)=some 1) (h1:v.oneCell'=true) :
  (Instr.storeAt ty (.pointer (some ⟨b,j,none⟩)) v).run P w=.ok () (w.setCell ⟨b,j,none⟩ v):=by
 have c1:w.cell? ⟨b,j,none⟩=some arr[j]:=by rw [h.at];simp [hj]
 have f1:=h.f j
 have hs:=run_storeCells_cells (P:=P) b j [v] 0 w (fun i hi=>by simp at hi;subst hi;simp [c1]) (fun i hi=>by simp at hi;subst hi;simpa using f1) (fun u hu=>by simp at hu;subst hu;exact h1)
 simp only [Nat.add_zero] at hs
 have hc:v.cells=#[v]:=by cases v<;>first | rfl | cases h1
 cases hq:P.info? ty with
 | none=>simp [hq] at hi
 | some i=>
  have hz:i.size=1:=by simpa [hq] using hi
  simp [Instr.storeAt,Instr.sureAddr,storeVar,sizeOf,typeInfo,hq,hc,hz,hs]
  rfl
theorem blk_store {P:Program} {w:World} {b:Nat} {old arr:Array Value} {t:TypeId} (ty:TypeId) (h:Blk w b old t) (hi:(P.info? ty).map (·.size)=some arr.size) (ho:old.size=arr.size) (h1:arr.all (·.oneCell')=true) :
  (Instr.storeAt ty (.pointer (some ⟨b,0,none⟩)) (.agg arr)).run P w=.ok () (w.setRow b arr):=by
 simp only [Instr.storeAt,Instr.sureAddr,Sem.run_bind,Sem.run_pure,Result.andThen]
 exact run_storeVar_row w b t ty old arr h hi ho h1
theorem run_allocv {P:Program} (w:World) (t:TypeId) (z:Array Value) (hz:(P.info? t).map (·.zero)=some (some (.agg z))) :
  (Instr.alloc t true (.tuple #[])).run P w=.ok (.pointer (some ⟨w.heap.size,0,none⟩)) (w.alloc (.cells z t)):=by
 cases hq:P.info? t with
 | none=>simp [hq] at hz
 | some i=>
  have h:i.zero=some (.agg z):=by simpa [hq] using hz
  simp [Instr.alloc,zeroValue,typeInfo,hq,h,newVar,newRow,Value.cells,go_sem]
theorem run_bs {P:Program} (w:World) (t e:TypeId) (len sz:Nat) (parts:Array (Nat×Value)) (z:Value) (cells:Array Value) (hu:P.underlying t=some (.slice e)) (hi:(P.info? e).map (fun i=>(i.zero,i.size))=some (some z,sz)) (hs:len*sz≤16777216) (hp:0<len*sz)
  (hf:Instr.fill (fun i=>some (i*sz,sz)) ((Array.range (len*sz)).map (z.cells[· % z.cells.size]!)) parts.toList=some cells) :
  (Instr.buildSlice t len parts).run P w=.ok (.slice (some ⟨w.heap.size,0,none⟩) len len) (w.alloc (.cells cells e)):=by
 cases hq:P.info? e with
 | none=>simp [hq] at hi
 | some i=>
  simp only [hq,Option.map_some,Option.some.injEq,Prod.mk.injEq] at hi
  obtain ⟨h1,rfl⟩:=hi
  exact run_buildSlice w t e len parts cells i z hu hq h1 (by omega) (by omega) hf
theorem fill5 (a b c d e:Value) (base:Array Value) (hb:base.size=5):Instr.fill (fun i=>some (i*5,5)) base [(0,.agg #[a,b,c,d,e])]=some #[a,b,c,d,e]:=by
 obtain ⟨l⟩:=base
 match l,hb with
 | [_,_,_,_,_],_=>rfl
theorem run_bs5 {P:Program} (w:World) (t e:TypeId) (parts:Array (Nat×Value)) (z:Value) (a b c d f:Value) (hu:P.underlying t=some (.slice e)) (hi:(P.info? e).map (fun i=>(i.zero,i.size))=some (some z,5)) (hp:parts=#[(0,.agg #[a,b,c,d,f])]) :
  (Instr.buildSlice t 1 parts).run P w=.ok (.slice (some ⟨w.heap.size,0,none⟩) 1 1) (w.alloc (.cells #[a,b,c,d,f] e)):=by
 subst hp
 exact run_bs w t e 1 5 _ z _ hu hi (by decide) (by decide) (fill5 a b c d f _ (by simp))
theorem fill3 (a b c:Value) (base:Array Value) (hb:base.size=3):Instr.fill (fun i=>some (i*3,3)) base [(0,.agg #[a,b,c])]=some #[a,b,c]:=by
 obtain ⟨l⟩:=base
 match l,hb with
 | [_,_,_],_=>rfl
theorem run_bs3 {P:Program} (w:World) (t e:TypeId) (parts:Array (Nat×Value)) (z:Value) (a b c:Value) (hu:P.underlying t=some (.slice e)) (hi:(P.info? e).map (fun i=>(i.zero,i.size))=some (some z,3)) (hp:parts=#[(0,.agg #[a,b,c])]) :
  (Instr.buildSlice t 1 parts).run P w=.ok (.slice (some ⟨w.heap.size,0,none⟩) 1 1) (w.alloc (.cells #[a,b,c] e)):=by
 subst hp
 exact run_bs w t e 1 3 _ z _ hu hi (by decide) (by decide) (fill3 a b c _ (by simp))
theorem app_load {w:World} {b:Nat} {arr:Array Value} (h:Blk w b arr 74) (hs:arr.size=3):(Instr.loadAt 74 (.pointer (some ⟨b,0,none⟩))).run Tryz.prog w=.ok (.agg arr) w:=by
 simp only [Instr.loadAt,Instr.sureAddr,Sem.run_bind,Sem.run_pure,Result.andThen]
 exact run_loadVar_row w b 74 74 arr (0,0) _ h Tryz.underlying74 rfl (by rw [show (Tryz.prog.info? 74).map (·.size)=some 3 by kernel_rfl,hs])
theorem cont_load {w:World} {b:Nat} {arr:Array Value} (h:Blk w b arr 38) (hs:arr.size=5):(Instr.loadAt 38 (.pointer (some ⟨b,0,none⟩))).run Tryz.prog w=.ok (.agg arr) w:=by
 simp only [Instr.loadAt,Instr.sureAddr,Sem.run_bind,Sem.run_pure,Result.andThen]
 exact run_loadVar_row w b 38 38 arr (0,0) _ h Tryz.underlying38 rfl (by rw [show (Tryz.prog.info? 38).map (·.size)=some 5 by kernel_rfl,hs])
theorem state_load {w:World} {b:Nat} {arr:Array Value} (h:Blk w b arr 34) (hs:arr.size=8):(Instr.loadAt 34 (.pointer (some ⟨b,0,none⟩))).run Tryz.prog w=.ok (.agg arr) w:=by
 simp only [Instr.loadAt,Instr.sureAddr,Sem.run_bind,Sem.run_pure,Result.andThen]
 exact run_loadVar_row w b 34 34 arr (0,0) _ h Tryz.underlying34 rfl (by rw [show (Tryz.prog.info? 34).map (·.size)=some 8 by kernel_rfl,hs])
end
end Go.Proofs.YtdhibeclkdepiaaGreat
