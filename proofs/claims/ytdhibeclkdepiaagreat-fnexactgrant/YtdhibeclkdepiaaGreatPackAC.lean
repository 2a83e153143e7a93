/-
  Texts in one: GrI, GrJ, InvR.
-/
import Derived.Test.YtdhibeclkdepiaaGreatPackAB
set_option maxRecDepth 100000
set_option maxHeartbeats 16000000
set_option linter.unusedVariables false
set_option linter.unusedSimpArgs false
namespace Go.Proofs.YtdhibeclkdepiaaGreat
section
open Go.RowKit
theorem apps_asks {qs:List Q} {nx:Int}:∀(l:List Appl) (last:Int),appsFrom qs nx last l=true→∀a ∈ l,asksOk a.asks=true
 | [],_,_,a,ha=>by simp at ha
 | x::t,last,h,a,ha=>by
  simp only [appsFrom,Bool.and_eq_true] at h
  rcases List.mem_cons.1 ha with rfl | ha
  ·exact h.2.2.2.1
  ·exact apps_asks t _ h.2.2.2.2 a ha
theorem ask_count {s:St} (h:stateOkV s=true) {i k:Nat} (hi:i<s.apps.length) (hk:k<s.apps[i].asks.length):0≤s.apps[i].asks[k].count∧s.apps[i].asks[k].count≤1000:=by
 simp only [stateOkV,stateOkS,Bool.and_eq_true,appsOkV,machsOkS] at h
 obtain ⟨_,_,_,_,_,⟨_,h6⟩,_⟩:=h
 have h1:=apps_asks _ _ h6 _ (List.getElem_mem hi)
 simp only [asksOk,Bool.and_eq_true,List.all_eq_true] at h1
 have h2:=h1.2 _ (List.getElem_mem hk)
 simp only [askOk,Bool.and_eq_true,inB,decide_eq_true_eq] at h2
 omega
theorem not_appask {B b:Nat} {w:World} {arr:Array Value} {t:TypeId} (h:Blk w b arr t) (h1:t≠74) (h2:t≠77):¬AppAsk B w b:=fun ⟨_,N,e⟩=>by
 have hc:Cel w t b arr.size:=⟨arr,h,rfl⟩
 rcases e with e | e
 ·exact h1 (hc.type e)
 ·exact h2 (hc.type e)
theorem SHas.nums {B:Nat} {w:World} {y:Sls} {s s':St} {hs:List AV} (h:SHas B w y s hs) (h1:s'.qs=s.qs) (h2:s'.apps=s.apps) (h3:s'.ms=s.ms) (h4:s'.cs=s.cs):SHas B w y s' hs:=by
 obtain ⟨a1,a2,a3,a4,a5,a6,a7⟩:=h
 exact ⟨by rw [h1];exact a1,a2,by rw [h2];exact a3,by rw [h3];exact a4,by rw [h4];exact a5,a6,a7⟩
theorem SHas.other {B b:Nat} {w w':World} {y:Sls} {s:St} {hs:List AV} {arr:Array Value} (h:SHas B w y s hs) (hm:Mks (fun k=>k=b) w w') (hc:Blk w b arr 34):SHas B w' y s hs:=by
 have hS:∀k,k=b→∃N,Cel w 34 k N:=fun k e=>by subst e;exact ⟨_,arr,hc,rfl⟩
 exact ⟨h.q.mkg hm hS (by decide),h.p.mkg hm hS (by decide),h.k.mkg hm hS (by decide),h.m.mkg hm hS (by decide),h.c.mkg hm hS (by decide),h.cap,(h.rm.mks hm).mono (Nat.le_refl _) hm.size⟩
theorem xno2 {b:Bool} {p:Prop} (h:b=true):b=false→p:=fun e=>by rw [h] at e;cases e
theorem SHas.offc {B g N:Nat} {w w':World} {y:Sls} {s:St} {hs:List AV} (h:SHas B w y s hs) (hm:Mks (fun k=>k=g) w w') (hc:Cel w 38 g N) (ho:y.cl≠0→∀o,y.ca≠some ⟨g,o,none⟩):SHas B w' y s hs:=by
 have hS:∀k,k=g→∃N,Cel w 38 k N:=fun k e=>by subst e;exact ⟨_,hc⟩
 refine ⟨h.q.mkg hm hS (by decide),h.p.mkg hm hS (by decide),h.k.mkg hm hS (by decide),h.m.mkg hm hS (by decide),⟨h.c.1.mks hm (fun k hk e=>?_),(h.c.2.mks hm).mono (Nat.le_refl _) hm.size⟩,h.cap,(h.rm.mks hm).mono (Nat.le_refl _) hm.size⟩
 subst e
 obtain ⟨h0,o,e⟩:=hk
 exact ho h0 o e
theorem SHas.ins {B n:Nat} {w w':World} {y:Sls} {s:St} {hs:List AV} (h:SHas B w y s hs) {ao':Option Addr} {cap':Nat} {l:List Con} (hc:CRm B w' ao' n cap' l) (hm:Mks (fun k=>y.cc≠0∧∃N,Cel w 38 k N∧B≤k∧∃o,y.ca=some ⟨k,o,none⟩) w w') :
  SHas B w' ⟨y.qa,y.ql,y.qc,y.aa,y.al,y.ac,y.ma,y.ml,y.mc,ao',n,cap'⟩ ⟨s.qs,s.clock,s.epoch,s.next,s.serial,s.apps,s.ms,l⟩ hs:=by
 have hS:∀k,(y.cc≠0∧∃N,Cel w 38 k N∧B≤k∧∃o,y.ca=some ⟨k,o,none⟩)→∃N,Cel w 38 k N:=fun k ⟨_,N,h,_⟩=>⟨N,h⟩
 have hr:=(h.rm.mks hm).mono (Nat.le_refl B) hm.size
 exact ⟨h.q.mkg hm hS (by decide),h.p.mkg hm hS (by decide),h.k.mkg hm hS (by decide),h.m.mkg hm hS (by decide),⟨hc.1,hc.2.own⟩,⟨h.cap.q,h.cap.a,h.cap.m,hc.2.1⟩,hr.1,hr.2.1,hr.2.2.1,hc.2.all,hr.2.2.2.2⟩
def GrAns (B b:Nat) (s:St) (nd:List UInt8) (w:World) (e:Ending) (w':World):Prop:=
 ∃y' hs',e=.returned (.tuple #[conv (conOf (nextGV s nd)),.bool (nextGV s nd).isSome])∧Blk w' b (svc y' (grantV s nd)) 34∧SHas B w' y' (grantV s nd) hs'∧Below B w w'
theorem grant_any {B b:Nat} {y:Sls} {s:St} {hs:List AV} {w:World} (h:SHas B w y s hs) (hbx:Blk w b (svc y s) 34) (hBb:B≤b) (hBw:B≤w.heap.size) (nd:List UInt8) (hf:FitSt s) (hw:WfSt s) (hnd:nd.length≤1048576) :
  Calls Tryz.prog 30 #[.pointer (some ⟨b,0,none⟩),.string (bs nd)] w (GrAns B b s nd w):=by
 have hb1:=yA (Below.refl _ w) (.cells #[.int .i64 0,.int .i64 0,.string ⟨#[]⟩,.int .i64 0,.int .i64 0] 38)
 have H1:=hide (h.below hb1)
 have X1:=hide (hbx.below hb1)
 have G1:=hide (yD w #[.int .i64 0,.int .i64 0,.string ⟨#[]⟩,.int .i64 0,.int .i64 0] 38)
 have B1:=hide (hb1.mono hBw)
 have CN:=hide (next_any y s nd _ (uH H1).ans.row hf h.cap.q hw hnd)
 have HFC:=hide (fun p (e:nextGV s nd=some p)=>next_facts e)
 have HG:=hide (show ∀e w',GrAns B b s nd w e w'↔∃y' hs',e=.returned (.tuple #[conv (conOf (nextGV s nd)),.bool (nextGV s nd).isSome])∧Blk w' b (svc y' (match nextGV s nd with | none=>s | some p=>grantSt s p)) 34∧SHas B w' y' (match nextGV s nd with | none=>s | some p=>grantSt s p) hs'∧Below B w w' from fun e w'=>Iff.rfl)
 obtain ⟨p,hp⟩:∃p,nextGV s nd=p:=⟨_,rfl⟩
 rw [hp] at CN HG HFC
 have hrow:=hide (fun (hc:y.cc≠0)=>show ∃g,y.ca=some ⟨g,0,none⟩∧g<w.heap.size from by
  rcases h.rm.2.2.2.1 with e | ⟨g,M,e,_,e2,_⟩
  ·exact absurd e hc
  ·exact ⟨g,e,e2⟩)
 have HP:=hide hp
 have hbl:=hbx.lt
 clear hb1 h hbx hp
 obtain ⟨g4,hg4⟩:∃g,w.heap.size=g:=⟨_,rfl⟩
 rw [hg4] at G1 hbl
 have HG4:=hide hg4
 cases p with
 | none=>
  simp only [atR,conOf,Option.isSome_none] at CN HG
  have u0:=(uH X1).at 0;have u1:=(uH X1).at 1;have u2:=(uH X1).at 2;have u3:=(uH X1).at 3;have u4:=(uH X1).at 4;have u5:=(uH X1).at 5;have u6:=(uH X1).at 6;have u7:=(uH X1).at 7
  simp at u0 u1 u2 u3 u4 u5 u6 u7
  go_enter Tryz.func30,Tryz.ntmps30
  go_wp2_with fail
  refine (uH CN).mono ?_
  rintro e w2 ⟨rfl,hb⟩
  have hb3:=yA (yA (Below.refl _ w2) (.cells #[.int .i64 0,.int .i64 0] 115)) (.cells #[.int .i64 0,.int .i64 0,.string (bs []),.int .i64 0,.int .i64 0] 38)
  have H3:=hide (((uH H1).below hb).below hb3)
  have X3:=hide (((uH X1).below hb).below hb3)
  have G3:=hide (((uH G1).below hb).below hb3)
  have B3:=hide (show Below B w _ from (uH B1).trans ((yB (Below.refl _ _) hb).mono (by rw [yE];omega) |>.trans ((hb3.mono (by have:=hb.size;rw [yE] at this;omega)))))
  clear u0 u1 u2 u3 u4 u5 u6 u7 hb hb3 CN H1 X1 G1 B1
  go_upto_region 3 with fail
  generalize (w2.alloc (.cells #[.int .i64 0,.int .i64 0] 115)).alloc (.cells #[.int .i64 0,.int .i64 0,.string (bs []),.int .i64 0,.int .i64 0] 38)=w3 at H3 X3 G3 B3 ⊢
  have c0:=(uH G3).at 0;have c1:=(uH G3).at 1;have c2:=(uH G3).at 2;have c3:=(uH G3).at 3;have c4:=(uH G3).at 4
  simp at c0 c1 c2 c3 c4
  have f0:=(uH G3).f 0;have f1:=(uH G3).f 1;have f2:=(uH G3).f 2;have f3:=(uH G3).f 3;have f4:=(uH G3).f 4
  have s0:=sc_same c0;have s1:=sc_same c1;have s2:=sc_same c2;have s3:=sc_same c3;have s4:=sc_same c4
  have HA:=hide (show GrAns B b s nd w (.returned (.tuple #[conv ⟨0,0,[],0,0⟩,.bool false])) w3 from (uH HG _ _).2 ⟨y,hs,rfl,uH X3,uH H3,uH B3⟩)
  clear HG H3 X3 G3 B3
  go_wp2
  refine bodyPost_ret (v:=.tuple #[conv ⟨0,0,[],0,0⟩,.bool false]) (by simp [results,Tryz.results30,go_sem,c0,c1,c2,c3,c4];try rfl) rfl ?_
  exact uH HA
 | some p=>
  obtain ⟨⟨i,k⟩,c⟩:=p
  obtain ⟨hok,hnx,hcl,hi,hk,hce⟩:=uH HFC _ rfl
  simp only at hi hk hce
  have hcn:c.node.length≤1048576:=by rw [hce];exact hnd
  have HFS:=hide (show FitSt (grantSt s ((i,k),c)) by have:=fit_grant hf hnd;rw [grantV_some (uH HP)] at this;exact this)
  have hpa:∃pg,y.aa=some ⟨pg,0,none⟩:=by
   rcases (uH H1).p.2 with e | ⟨g,M,e,_⟩
   ·have h1:=(uH H1).p.1.1;have h2:=(uH H1).k.heads.1;omega
   ·exact ⟨g,e⟩
  obtain ⟨pg,hpa⟩:=hpa
  have HPA:=hide hpa
  have i1:(i:Int)<y.al:=by have h1:=(uH H1).p.1.1;have h2:=(uH H1).k.heads.1;omega
  have i0:(0:Int)≤i:=by omega
  obtain ⟨hasc,_,hse⟩:=ok_asc hok
  have CS:=hide (fun wx hsx (hx:SHas B wx y s hsx)=>serve_any hx hpa hi hk hf (ask_count hok hi hk))
  have HAS:=hide hasc
  simp only [atR,conOf,Option.isSome_some] at CN HG
  obtain ⟨c0,c1,cn,c3,c4⟩:=c
  simp only at CN HG HFS hcn
  have hclm:y.cl≤1048576:=by have h1:=(uH H1).c.1.1;omega
  clear hce hpa hasc HFC HP hi hk hnx hcl hok
  have u0:=(uH X1).at 0;have u1:=(uH X1).at 1;have u2:=(uH X1).at 2;have u3:=(uH X1).at 3;have u4:=(uH X1).at 4;have u5:=(uH X1).at 5;have u6:=(uH X1).at 6;have u7:=(uH X1).at 7
  simp at u0 u1 u2 u3 u4 u5 u6 u7
  go_enter Tryz.func30,Tryz.ntmps30
  go_wp2_with fail
  refine (uH CN).mono ?_
  rintro e w2 ⟨rfl,hb⟩
  have hb3:=yA (yA (Below.refl _ w2) (.cells #[.int .i64 (i:Int),.int .i64 (k:Int)] 115)) (.cells #[.int .i64 c0,.int .i64 c1,.string (bs cn),.int .i64 c3,.int .i64 c4] 38)
  have H3:=hide (((uH H1).below hb).below hb3)
  have X3:=hide (((uH X1).below hb).below hb3)
  have G3:=hide (((uH G1).below hb).below hb3)
  have G6:=hide ((yD w2 #[.int .i64 (i:Int),.int .i64 (k:Int)] 115).al (.cells #[.int .i64 c0,.int .i64 c1,.string (bs cn),.int .i64 c3,.int .i64 c4] 38))
  have G7:=hide (yD (w2.alloc (.cells #[.int .i64 (i:Int),.int .i64 (k:Int)] 115)) #[.int .i64 c0,.int .i64 c1,.string (bs cn),.int .i64 c3,.int .i64 c4] 38)
  rw [yE] at G7
  have B3:=hide (show Below B w _ from (uH B1).trans ((yB (Below.refl _ _) hb).mono (by rw [yE];omega) |>.trans ((hb3.mono (by have:=hb.size;rw [yE] at this;omega)))))
  have hz2:g4<w2.heap.size:=by have:=hb.size;rw [yE] at this;omega
  clear u0 u1 u2 u3 u4 u5 u6 u7 hb hb3 CN H1 X1 G1 B1
  go_upto_region 4 with fail
  generalize (w2.alloc (.cells #[.int .i64 (i:Int),.int .i64 (k:Int)] 115)).alloc (.cells #[.int .i64 c0,.int .i64 c1,.string (bs cn),.int .i64 c3,.int .i64 c4] 38)=w3 at H3 X3 G3 G6 G7 B3 ⊢
  generalize w2.heap.size=g6 at G6 G7 hz2 ⊢
  refine wp_region_held_drew (S:=fun wx=>Blk wx b (svc y s) 34∧Blk wx g6 #[.int .i64 (i:Int),.int .i64 (k:Int)] 115) (by kernel_rfl) ⟨(uH X3).drew,(uH G6).drew⟩ (fun S0=>?_)
  have H4:=hide ((uH H3).below (Below.refl _ w3).drew)
  have G4:=hide (uH G3).drew
  have G8:=hide (uH G7).drew
  have B4:=hide ((uH B3).trans ((Below.refl B w3).drew))
  have hz3:B≤w3.drew.heap.size:=by have:=(uH B3).size;exact Nat.le_trans hBw this
  clear H3 X3 G3 G6 G7 B3
  generalize w3.drew=wn at S0 H4 G4 G8 B4 hz3 ⊢
  refine takeW 0 23 _ rfl rfl S0 ?_
  try simp only [Act.put,sA,sB,sC]
  refine takeW 1 24 _ rfl rfl S0 ?_
  try simp only [Act.put,sA,sB,sC]
  refine takeW 2 25 _ rfl rfl S0 ?_
  try simp only [Act.put,sA,sB,sC]
  refine takeW 3 26 (.slice (some ⟨pg,0,none⟩) y.al y.ac) rfl rfl S0 ?_ (hy:=Or.inl ⟨by rfl,fun wz hz=>by (have c5:=hz.1.at 5;simp at c5;rw [uH HPA] at c5;go_simp)⟩)
  try simp only [Act.put,sA,sB,sC]
  refine takeW 4 27 _ rfl rfl S0 ?_
  try simp only [Act.put,sA,sB,sC]
  refine takeW 5 28 (.int .i64 (i:Int)) rfl rfl S0 ?_ (hy:=Or.inl ⟨by rfl,fun wz hz=>by (have q0:=hz.2.at 0;simp at q0;go_simp)⟩)
  try simp only [Act.put,sA,sB,sC]
  refine takeW 6 29 (.pointer (some ⟨pg,i*3,none⟩)) rfl rfl S0 ?_
  try simp only [Act.put,sA,sB,sC]
  refine takeW 7 30 _ rfl rfl S0 ?_
  try simp only [Act.put,sA,sB,sC]
  refine takeW 8 31 (.int .i64 (k:Int)) rfl rfl S0 ?_ (hy:=Or.inl ⟨by rfl,fun wz hz=>by (have q0:=hz.2.at 1;simp at q0;go_simp)⟩)
  try simp only [Act.put,sA,sB,sC]
  refine wpAnyH_ready (rs:=[9]) (by kernel_rfl) (by simp) (AllReadyH.cons rfl (fun K hK=>?_) AllReadyH.nil)
  go_simp
  refine (uH CS _ _ (uH H4)).mono ?_
  rintro e w4 ⟨rfl,hs4,h4,hm4⟩
  have S1:=And.intro (hm4.blk S0.1 (not_appask S0.1 (by decide) (by decide))) (hm4.blk S0.2 (not_appask S0.2 (by decide) (by decide)))
  have G5:=hide (hm4.blk (uH G4) (not_appask (uH G4) (by decide) (by decide)))
  have G9:=hide (hm4.blk (uH G8) (not_appask (uH G8) (by decide) (by decide)))
  have B5:=hide ((uH B4).trans (hm4.below (fun k e=>e.1) hz3))
  have hz4:B≤w4.heap.size:=Nat.le_trans hz3 hm4.size
  have H5:=hide h4
  clear S0 H4 G4 G8 B4 hz3 h4 hm4 CS
  go_wp2_with fail
  refine hK.out _ _ S1 (fun S0=>?_)
  clear hK K S1
  try simp only [Act.put,sA,sB,sC]
  refine wpAnyH_done (by kernel_rfl) ?_ _
  have X5:=hide S0.1
  clear S0
  have x4:=(uH X5).at 4
  simp at x4
  have fx4:=(uH X5).f 4
  have hws:IntKind.i64.wrap (s.serial+1)=s.serial+1:=by rw [IntKind.wrap_i64];omega
  go_upto_region 6 with fail
  have X6:=hide ((uH X5).set 4 (.int .i64 (s.serial+1)))
  have M6:=hide (Mks.one (fun k=>k=b) w4 b 4 (.int .i64 (s.serial+1)) rfl)
  clear x4 fx4
  generalize w4.setCell ⟨b,4,none⟩ (.int .i64 (s.serial+1))=w5 at X6 M6 ⊢
  have x4:=(uH X6).at 4
  simp at x4
  have fx4:=(uH X6).f 4
  go_upto_if 44 with fail
  go_cut [40] from 41 to 47 (fun v40 wx=>Hid (Blk wx b (svc y ⟨s.qs,s.clock,s.epoch,s.next,serialV s.serial,serveAt s.apps (i,k),s.ms,s.cs⟩) 34∧Mks (fun k=>k=b) w4 wx))
  case first=>
   by_cases hs9:99999<s.serial+1
   ·go_wp2_with fail
    go_meet
    refine hide ⟨?_,(uH M6).trans (Mks.one (fun k=>k=b) w5 b 4 (.int .i64 1) rfl)⟩
    have:=(uH X6).set 4 (.int .i64 1)
    simp only [serialV]
    rw [if_pos (by omega)]
    exact this
   ·go_wp2_with fail
    go_meet
    refine hide ⟨?_,uH M6⟩
    simp only [serialV]
    rw [if_neg (by omega)]
    exact uH X6
  case rest=>
   clear x4 fx4 X6 M6 hws
   have X7:=hide (uH hcut).1
   have H7:=hide (((uH H5).other (uH hcut).2 (uH X5)).nums (s':=⟨s.qs,s.clock,s.epoch,s.next,serialV s.serial,serveAt s.apps (i,k),s.ms,s.cs⟩) rfl rfl rfl rfl)
   have G4:=hide ((uH hcut).2.blk (uH G5) (by omega))
   have G7:=hide ((uH hcut).2.blk (uH G9) (by omega))
   have B7:=hide ((uH B5).trans ((uH hcut).2.below (fun k e=>by subst e;exact hBb) hz4))
   have hz7:B≤wc.heap.size:=Nat.le_trans hz4 (uH hcut).2.size
   clear hcut H5 G5 G9 B5 X5 hz4
   obtain ⟨w7,rfl⟩:∃z,z=wc:=⟨_,rfl⟩
   go_upto_region 8 with fail
   have CP:=hide (fun wx (hx:SHas B wx y ⟨s.qs,s.clock,s.epoch,s.next,serialV s.serial,serveAt s.apps (i,k),s.ms,s.cs⟩ hs4)=>contPlace_any y ⟨s.qs,s.clock,s.epoch,s.next,serialV s.serial,serveAt s.apps (i,k),s.ms,s.cs⟩ c0 wx hx.ans.row ⟨hf.1,(uH HFS).2.1,hf.2.2.1,hf.2.2.2⟩ (uH HAS))
   refine wp_region_held_drew (S:=fun wx=>Kp w7 wx) (by kernel_rfl) ((kp_holds w7).drew (Kp.new w7)) (fun S0=>?_)
   generalize w7.drew=wn at S0 ⊢
   refine takeW 0 49 _ rfl rfl S0 ?_
   try simp only [Act.put,sA,sB,sC]
   refine takeW 1 50 _ rfl rfl S0 ?_
   try simp only [Act.put,sA,sB,sC]
   refine takeW 2 51 (sv y ⟨s.qs,s.clock,s.epoch,s.next,serialV s.serial,serveAt s.apps (i,k),s.ms,s.cs⟩) rfl rfl S0 ?_ (hy:=Or.inl ⟨by rfl,fun wz hz=>run_v (state_load ((uH X7).below hz) rfl)⟩)
   try simp only [Act.put,sA,sB,sC]
   refine takeW 3 52 _ rfl rfl S0 ?_
   try simp only [Act.put,sA,sB,sC]
   refine takeW 4 53 (.int .i64 c0) rfl rfl S0 ?_ (hy:=Or.inl ⟨by rfl,fun wz hz=>by (have q0:=((uH G7).below hz).at 0;simp at q0;go_simp)⟩)
   try simp only [Act.put,sA,sB,sC]
   refine wpAnyH_ready (rs:=[5]) (by kernel_rfl) (by simp) (AllReadyH.cons rfl (fun K hK=>?_) AllReadyH.nil)
   go_simp
   refine (uH CP _ ((uH H7).below S0)).mono ?_
   rintro e wq ⟨pp,ff,rfl,hp1,hp2,hp3,-,hb⟩
   have S1:Kp w7 wq:=yB S0 hb
   have hpl:=hide (show placeC c0 s.cs=pp from placeC_is hp1 hp2 hp3)
   have hpn:pp≤y.cl:=by have h1:=(uH H7).c.1.1;simp only at h1 hp1;omega
   clear S0 hb hp1 hp2 hp3 CP
   go_wp2_with fail
   refine hK.out _ _ S1 (fun S0=>?_)
   clear hK K S1
   try simp only [Act.put,sA,sB,sC]
   refine takeW 6 48 _ rfl rfl S0 ?_
   try simp only [Act.put,sA,sB,sC]
   refine takeW 7 55 (.int .i64 (pp:Int)) rfl rfl S0 ?_
   try simp only [Act.put,sA,sB,sC]
   refine takeW 8 56 (.bool ff) rfl rfl S0 ?_
   try simp only [Act.put,sA,sB,sC]
   refine takeW 9 9 _ rfl rfl S0 ?_
   try simp only [Act.put,sA,sB,sC]
   refine takeW 10 10 _ rfl rfl S0 ?_
   try simp only [Act.put,sA,sB,sC]
   refine wpAnyH_done (by kernel_rfl) ?_ _
   have X8:=hide ((uH X7).below S0)
   have H8:=hide ((uH H7).below S0)
   have G48:=hide ((uH G4).below S0)
   have G78:=hide ((uH G7).below S0)
   have B8:=hide ((uH B7).trans (Below.mono S0 hz7))
   have hz8:B≤wq.heap.size:=Nat.le_trans hz7 S0.size
   clear S0 X7 H7 G4 G7 B7 hz7
   go_upto_region 9 with fail
   refine wp_region_x 9 (fun wx=>Blk wx (g6+1) #[.int .i64 c0,.int .i64 c1,.string (bs cn),.int .i64 c3,.int .i64 c4] 38) (fun wx=>Below wq.heap.size wq wx) (by kernel_rfl) (uH G78).drew (Below.refl _ wq).drew (fun S0 T0=>?_)
   generalize wq.drew=wn at S0 T0 ⊢
   refine takeXS 0 57 _ rfl rfl S0 T0 ?_
   try simp only [Act.put,sA,sB,sC]
   refine takeXS 1 58 _ rfl rfl S0 T0 ?_
   try simp only [Act.put,sA,sB,sC]
   refine takeXS 2 59 _ rfl rfl S0 T0 ?_
   try simp only [Act.put,sA,sB,sC]
   refine takeXS 3 60 _ rfl rfl S0 T0 ?_
   try simp only [Act.put,sA,sB,sC]
   refine takeXT 4 61 (.slice y.ca y.cl y.cc) rfl rfl S0 T0 ?_ (hy:=Or.inl ⟨by rfl,fun wz hz=>by (have c7:=((uH X8).below hz).at 7;simp at c7;go_simp)⟩)
   try simp only [Act.put,sA,sB,sC]
   refine takeXS 5 62 _ rfl rfl S0 T0 ?_
   try simp only [Act.put,sA,sB,sC]
   refine takeXS 6 63 (conv ⟨c0,c1,cn,c3,c4⟩) rfl rfl S0 T0 ?_ (hy:=Or.inl ⟨by rfl,fun wz hz=>run_v (cont_load hz rfl)⟩)
   try simp only [Act.put,sA,sB,sC]
   refine wpAnyX_ready [7] (AllReadyX.cons rfl (fun K hK=>?_) AllReadyX.nil)
   go_simp
   refine (copyOfCont_any ⟨c0,c1,cn,c3,c4⟩ _ hcn).mono ?_
   rintro e wm ⟨rfl,hb⟩
   have S1:=S0.below hb
   have T1:=yB T0 hb
   clear S0 T0 hb
   go_wp2_with fail
   refine hK.out _ _ S1 (fun _=>T1) ?_
   clear hK K
   have S0:=S1
   have T0:=T1
   clear S1 T1
   try simp only [Act.put,sA,sB,sC]
   have S1:=S0.below (yA (Below.refl _ wm) (.cells #[.int .i64 c0,.int .i64 c1,.string (bs cn),.int .i64 c3,.int .i64 c4] 38))
   have T1:=yA T0 (.cells #[.int .i64 c0,.int .i64 c1,.string (bs cn),.int .i64 c3,.int .i64 c4] 38)
   have hgv:wq.heap.size≤wm.heap.size:=T0.size
   have GV:=hide (yD wm #[.int .i64 c0,.int .i64 c1,.string (bs cn),.int .i64 c3,.int .i64 c4] 38)
   refine wpAnyX_ready [8] (AllReadyX.cons rfl (fun K hK=>readyV 65 (by rfl) rfl (run_v (run_bs5 wm 32 38 _ (.agg #[.int .i64 0,.int .i64 0,.string ByteArray.empty,.int .i64 0,.int .i64 0]) (.int .i64 c0) (.int .i64 c1) (.string (bs cn)) (.int .i64 c3) (.int .i64 c4) Tryz.underlying32 (by kernel_rfl) (by simp only [List.map_toArray,List.map_cons,List.map_nil];rfl))) ?_) AllReadyX.nil)
   refine hK.out _ _ S1 (fun _=>T1) ?_
   clear hK K S0 T0
   generalize wm.alloc (.cells #[.int .i64 c0,.int .i64 c1,.string (bs cn),.int .i64 c3,.int .i64 c4] 38)=wv at S1 T1 GV ⊢
   generalize wm.heap.size=gv at GV hgv ⊢
   try simp only [Act.put,sA,sB,sC]
   have HV:=hide ((uH H8).below T1)
   have hg4q:g4<wq.heap.size:=(uH G48).lt
   have hne:y.cc≠0→∀o,y.ca≠some ⟨gv,o,none⟩:=fun hc o e=>by
    obtain ⟨g,e2,hgl⟩:=uH hrow hc
    rw [e2] at e
    cases e
    omega
   have CI:=hide (insertC_any (B:=B) y.ca y.cl y.cc gv pp s.cs ⟨c0,c1,cn,c3,c4⟩ wv ⟨(uH HV).c.1,room_of (uH HV).rm.2.2.2.1 (uH HV).cap.c⟩ (uH GV) hne hpn hclm (Nat.le_trans hz8 T1.size))
   have X9:=hide ((uH X8).below T1)
   have G49:=hide ((uH G48).below T1)
   have B9:=hide ((uH B8).trans (Below.mono T1 hz8))
   have hz9:B≤wv.heap.size:=Nat.le_trans hz8 T1.size
   have hg4v:g4<wv.heap.size:=Nat.lt_of_lt_of_le hg4q T1.size
   clear H8 X8 G48 B8 T1 GV hne hgv
   refine wpAnyX_ready [9] (AllReadyX.cons rfl (fun K hK=>?_) AllReadyX.nil)
   go_simp
   refine (uH CI).mono ?_
   rintro e w8 ⟨ao,cp,rfl,hcr,hmk,hor⟩
   have hoff:∀q,g4≤q→¬(y.cc≠0∧∃N,Cel wv 38 q N∧B≤q∧∃o,y.ca=some ⟨q,o,none⟩):=fun q hq ⟨hc,_,_,_,o,e⟩=>by
    obtain ⟨g,e2,hgl⟩:=uH hrow hc
    rw [e2] at e
    cases e
    omega
   have S2:=hmk.blk S1 (hoff _ (by omega))
   have G410:=hide (hmk.blk (uH G49) (hoff _ (Nat.le_refl _)))
   have X10:=hide (hmk.blk (uH X9) (fun ⟨_,N,hc,_⟩=>by have hc2:Cel wv 34 b _:=⟨_,uH X9,rfl⟩;exact absurd (hc2.type hc) (by decide)))
   have H10:=hide ((uH HV).ins hcr hmk)
   have B10:=hide ((uH B9).trans (hmk.below (fun k e=>e.2.choose_spec.2.1) hz9))
   have hao:∀o,ao≠some ⟨g4,o,none⟩:=fun o e=>by
    rcases hor with ⟨hc,e2⟩ | ⟨g',e2,hg'⟩
    ·obtain ⟨g,e3,hgl⟩:=uH hrow hc
     rw [e2,e3] at e
     cases e
     omega
    ·rw [e2] at e
     cases e
     omega
   have HAO:=hide hao
   have hz10:B≤w8.heap.size:=Nat.le_trans hz9 hmk.size
   clear HV X9 G49 B9 CI hcr hmk hor hoff hao S1 hz9
   go_wp2_with fail
   refine hK.out _ _ S2 (xno2 (by kernel_rfl)) ?_
   clear hK K
   try simp only [Act.put,sA,sB,sC]
   refine wpAnyX_on _ _ _ _ (by kernel_rfl) ?_
   refine takeW 10 67 _ rfl rfl S2 ?_
   try simp only [Act.put,sA,sB,sC]
   refine takeW 11 68 _ rfl rfl S2 ?_
   try simp only [Act.put,sA,sB,sC]
   have M11:=Mks.one (fun k=>k=b) w8 b 7 (.slice ao (y.cl+1) cp) rfl
   have S3:=M11.blk S2 (by omega)
   have X11:=hide (show Blk _ b (svc ⟨y.qa,y.ql,y.qc,y.aa,y.al,y.ac,y.ma,y.ml,y.mc,ao,y.cl+1,cp⟩ ⟨s.qs,s.clock,s.epoch,s.next,serialV s.serial,serveAt s.apps (i,k),s.ms,s.cs.take pp++⟨c0,c1,cn,c3,c4⟩::s.cs.drop pp⟩) 34 from (uH X10).set 7 (.slice ao (y.cl+1) cp))
   have H11:=hide ((uH H10).other M11 (uH X10))
   have G411:=hide (M11.blk (uH G410) (by omega))
   have B11:=hide ((uH B10).trans (M11.below (fun k e=>by subst e;exact hBb) hz10))
   have hz11:B≤(w8.setCell ⟨b,7,none⟩ (.slice ao (y.cl+1) cp)).heap.size:=by rw [set_size];exact hz10
   refine wpAnyH_ready (rs:=[12]) (by kernel_rfl) (by simp) (AllReadyH.cons rfl (fun K hK=>readyU (by rfl) rfl (run_u (put_cell 32 (.slice ao (y.cl+1) cp) (uH X10) (by show 7<8;decide) (by kernel_rfl) rfl)) ?_) AllReadyH.nil)
   refine hK.out _ _ S3 (fun _=>?_)
   clear hK K X10 H10 G410 B10 S2 M11 hz10
   try simp only [Act.put,sA,sB,sC]
   refine wpAnyH_done (by kernel_rfl) ?_ _
   have G711:=hide S3
   clear S3
   generalize w8.setCell ⟨b,7,none⟩ (.slice ao (y.cl+1) cp)=w9 at X11 H11 G411 B11 G711 hz11 ⊢
   go_upto_region 10 with fail
   refine wp_region_lit ?_
   refine wpList_same (v:=conv ⟨c0,c1,cn,c3,c4⟩) (d:=some 69) rfl rfl (run_v (cont_load (uH G711) rfl)) ?_
   simp only [Act.put,sA,sB,sC]
   refine wpList_none (d:=none) rfl rfl (run_u (blk_store 38 (arr:=#[.int .i64 c0,.int .i64 c1,.string (bs cn),.int .i64 c3,.int .i64 c4]) (uH G411) (by kernel_rfl) rfl (by kernel_rfl))) ?_
   simp only [Act.put]
   have RR:=hide (blk_row (uH G411) #[.int .i64 c0,.int .i64 c1,.string (bs cn),.int .i64 c3,.int .i64 c4])
   have MM:=mks_row (uH G411) #[.int .i64 c0,.int .i64 c1,.string (bs cn),.int .i64 c3,.int .i64 c4] rfl
   have X12:=hide (MM.blk (uH X11) (by omega))
   have H12:=hide ((uH H11).offc MM ⟨_,uH G411,rfl⟩ (fun _=>uH HAO))
   have B12:=hide ((uH B11).trans (MM.below (fun k e=>by subst e;have:=uH HG4;omega) hz11))
   clear X11 H11 G411 B11 G711 MM hz11
   generalize World.setRow w9 g4 #[.int .i64 c0,.int .i64 c1,.string (bs cn),.int .i64 c3,.int .i64 c4]=w10 at RR X12 H12 B12 ⊢
   have HA:=hide (show GrAns B b s nd w (.returned (.tuple #[conv ⟨c0,c1,cn,c3,c4⟩,.bool true])) w10 from (uH HG _ _).2 (by
    have e3:grantSt s ((i,k),⟨c0,c1,cn,c3,c4⟩)=⟨s.qs,s.clock,s.epoch,s.next,serialV s.serial,serveAt s.apps (i,k),s.ms,s.cs.take pp++⟨c0,c1,cn,c3,c4⟩::s.cs.drop pp⟩:=by unfold grantSt insC;simp only;rw [uH hpl]
    simp only [e3]
    exact ⟨⟨y.qa,y.ql,y.qc,y.aa,y.al,y.ac,y.ma,y.ml,y.mc,ao,y.cl+1,cp⟩,hs4,(by first | rfl | trivial),uH X12,uH H12,uH B12⟩))
   have r0:=(uH RR).at 0;have r1:=(uH RR).at 1;have r2:=(uH RR).at 2;have r3:=(uH RR).at 3;have r4:=(uH RR).at 4
   simp at r0 r1 r2 r3 r4
   clear X12 H12 B12 RR HG
   go_wp2
   refine bodyPost_ret (v:=.tuple #[conv ⟨c0,c1,cn,c3,c4⟩,.bool true]) (by simp [results,Tryz.results30,go_sem,r0,r1,r2,r3,r4];try rfl) rfl ?_
   exact uH HA
theorem SHas.low {B g:Nat} {w w':World} {y:Sls} {s:St} {hs:List AV} (h:SHas B w y s hs) (hm:Mks (fun k=>k=g) w w') (hg:g<B):SHas B w' y s hs:=
 ⟨⟨h.q.1.mks hm (not_in h.q.2 (.inl hg)),(h.q.2.mks hm).mono (Nat.le_refl _) hm.size⟩,⟨h.p.1.mks hm (not_in h.p.2 (.inl hg)),(h.p.2.mks hm).mono (Nat.le_refl _) hm.size⟩,
  ⟨⟨h.k.heads.1,fun i h1 h2=>let ⟨a,b',c,d⟩:=h.k.heads.2 i h1 h2;⟨a,b',c.mks hm (not_in (h.k.own _ (List.getElem_mem h1)) (.inl hg)),d⟩⟩,fun v hv=>((h.k.own v hv).mks hm).mono (Nat.le_refl _) hm.size,h.k.apart⟩,
  ⟨h.m.1.mks hm (not_in h.m.2 (.inl hg)),(h.m.2.mks hm).mono (Nat.le_refl _) hm.size⟩,⟨h.c.1.mks hm (not_in h.c.2 (.inl hg)),(h.c.2.mks hm).mono (Nat.le_refl _) hm.size⟩,h.cap,(h.rm.mks hm).mono (Nat.le_refl _) hm.size⟩
def GtAns (w:World) (s:St) (c:Con) (ok:Bool) (e:Ending) (w':World):Prop:=
 ∃y hs,e=.returned (.tuple #[sv y s,conv c,.bool ok])∧SAns w.heap.size w'.heap.size w' y s hs∧Below w.heap.size w w'
theorem implGrant_any (x:Sls) (s:St) (nd:List UInt8) (w:World) (h:SRow w x s) (hf:FitSt s) (hw:WfSt s) (hnd:nd.length≤1048576) :
  Calls Tryz.prog 8 #[sv x s,.string (bs nd)] w (GtAns w (grantV s nd) (conOf (nextGV s nd)) (nextGV s nd).isSome):=by
 have hb1:=yA (yA (yA (Below.refl _ w) (.cells (svc x s) 34)) (.cells #[.slice none 0 0,.int .i64 0,.int .i64 0,.int .i64 0,.int .i64 0,.slice none 0 0,.slice none 0 0,.slice none 0 0] 34)) (.cells #[.int .i64 0,.int .i64 0,.string ⟨#[]⟩,.int .i64 0,.int .i64 0] 38)
 have P0:=hide (((yD w (svc x s) 34).al (.cells #[.slice none 0 0,.int .i64 0,.int .i64 0,.int .i64 0,.int .i64 0,.slice none 0 0,.slice none 0 0,.slice none 0 0] 34)).al (.cells #[.int .i64 0,.int .i64 0,.string ⟨#[]⟩,.int .i64 0,.int .i64 0] 38))
 have P1:=hide ((yD (w.alloc (.cells (svc x s) 34)) #[.slice none 0 0,.int .i64 0,.int .i64 0,.int .i64 0,.int .i64 0,.slice none 0 0,.slice none 0 0,.slice none 0 0] 34).al (.cells #[.int .i64 0,.int .i64 0,.string ⟨#[]⟩,.int .i64 0,.int .i64 0] 38))
 have P2:=hide (yD ((w.alloc (.cells (svc x s) 34)).alloc (.cells #[.slice none 0 0,.int .i64 0,.int .i64 0,.int .i64 0,.int .i64 0,.slice none 0 0,.slice none 0 0,.slice none 0 0] 34)) #[.int .i64 0,.int .i64 0,.string ⟨#[]⟩,.int .i64 0,.int .i64 0] 38)
 have CC:=hide (copyOfState_any x s _ (h.below hb1) hf)
 rw [yE] at P1
 rw [yE,yE] at P2
 have CG:=hide (fun B b y hs wx (hx:SHas B wx y s hs) (hb:Blk wx b (svc y s) 34) (h1:B≤b) (h2:B≤wx.heap.size)=>show Calls Tryz.prog 30 #[.pointer (some ⟨b,0,none⟩),.string (bs nd)] wx (fun e w'=>∃y' hs',e=.returned (.tuple #[conv (conOf (nextGV s nd)),.bool (nextGV s nd).isSome])∧Blk w' b (svc y' (grantV s nd)) 34∧SHas B w' y' (grantV s nd) hs'∧Below B wx w') from grant_any hx hb h1 h2 nd hf hw hnd)
 obtain ⟨S2,hS2⟩:∃t,grantV s nd=t:=⟨_,rfl⟩
 obtain ⟨c,hc⟩:∃t,conOf (nextGV s nd)=t:=⟨_,rfl⟩
 obtain ⟨ok,hok⟩:∃t,(nextGV s nd).isSome=t:=⟨_,rfl⟩
 rw [hS2,hc,hok] at CG ⊢
 obtain ⟨c0,c1,cn,c3,c4⟩:=c
 have B1:=hide hb1
 have hz1:(((w.alloc (.cells (svc x s) 34)).alloc (.cells #[.slice none 0 0,.int .i64 0,.int .i64 0,.int .i64 0,.int .i64 0,.slice none 0 0,.slice none 0 0,.slice none 0 0] 34)).alloc (.cells #[.int .i64 0,.int .i64 0,.string ⟨#[]⟩,.int .i64 0,.int .i64 0] 38)).heap.size=w.heap.size+1+1+1:=by simp only [yE]
 clear h hf hw hnd hb1 hS2 hc hok
 have u0:=(uH P0).at 0;have u1:=(uH P0).at 1;have u2:=(uH P0).at 2;have u3:=(uH P0).at 3;have u4:=(uH P0).at 4;have u5:=(uH P0).at 5;have u6:=(uH P0).at 6;have u7:=(uH P0).at 7
 simp at u0 u1 u2 u3 u4 u5 u6 u7
 go_enter Tryz.func8,Tryz.ntmps8
 go_wp2_with fail
 refine (uH CC).mono ?_
 rintro e w2 ⟨y,hs,rfl,ha,hb⟩
 rw [hz1] at ha
 clear u0 u1 u2 u3 u4 u5 u6 u7
 have hz2:w.heap.size+1+1+1≤w2.heap.size:=by have:=hb.size;rw [hz1] at this;exact this
 have b3:=yA (Below.refl _ w2) (.cells (svc y s) 34)
 have H3:=hide ((ha.has (Nat.le_refl _)).below b3)
 have X3:=hide (yD w2 (svc y s) 34)
 have Q1:=hide (((uH P1).below hb).below b3)
 have Q2:=hide (((uH P2).below hb).below b3)
 have B3:=hide (yB (yB (uH B1) hb) b3)
 clear ha hb b3 P0 P1 P2 B1 CC hz1
 obtain ⟨b,hbb⟩:∃g,w2.heap.size=g:=⟨_,rfl⟩
 rw [hbb] at X3 hz2
 go_wp2_with fail
 generalize w2.alloc (.cells (svc y s) 34)=w3 at H3 X3 Q1 Q2 B3 ⊢
 refine (uH CG (w.heap.size+1+1+1) b y hs _ (uH H3) (uH X3) hz2 (by have:=(uH X3).lt;omega)).mono ?_
 rintro e w4 ⟨y2,hs2,rfl,hbx,hsh,hbl⟩
 have b5:=yA (Below.refl _ w4) (.cells #[.int .i64 c0,.int .i64 c1,.string (bs cn),.int .i64 c3,.int .i64 c4] 38)
 have H5:=hide (hsh.below b5)
 have X5:=hide (hbx.below b5)
 have G5:=hide (yD w4 #[.int .i64 c0,.int .i64 c1,.string (bs cn),.int .i64 c3,.int .i64 c4] 38)
 have Q3:=hide (show Blk _ (w.heap.size+1) _ 34 from Blk.below ((hbl.block (w.heap.size+1) (by omega)).trans (uH Q1)) b5)
 have Q4:=hide (show Blk _ (w.heap.size+1+1) _ 38 from Blk.below ((hbl.block (w.heap.size+1+1) (by omega)).trans (uH Q2)) b5)
 have B5:=hide (yB ((uH B3).trans (hbl.mono (by omega))) b5)
 have hz4:b<w4.heap.size:=hbx.lt
 clear hbx hsh hbl b5 H3 X3 Q1 Q2 B3 CG
 go_upto_region 3 with fail
 generalize w4.alloc (.cells #[.int .i64 c0,.int .i64 c1,.string (bs cn),.int .i64 c3,.int .i64 c4] 38)=w5 at H5 X5 G5 Q3 Q4 B5 ⊢
 generalize w4.heap.size=g8 at G5 hz4 ⊢
 refine wp_region_held_drew (S:=fun wx=>Blk wx b (svc y2 S2) 34∧Blk wx g8 #[.int .i64 c0,.int .i64 c1,.string (bs cn),.int .i64 c3,.int .i64 c4] 38) (by kernel_rfl) ⟨(uH X5).drew,(uH G5).drew⟩ (fun S0=>?_)
 have H6:=hide ((uH H5).below (Below.refl _ w5).drew)
 have Q5:=hide (uH Q3).drew
 have Q6:=hide (uH Q4).drew
 have B6:=hide (yB (uH B5) (Below.refl _ w5).drew)
 clear H5 X5 G5 Q3 Q4 B5
 generalize w5.drew=wn at S0 H6 Q5 Q6 B6 ⊢
 refine takeW 0 17 (sv y2 S2) rfl rfl S0 ?_ (hy:=Or.inl ⟨by rfl,fun wz hz=>run_v (state_load hz.1 rfl)⟩)
 try simp only [Act.put,sA,sB,sC]
 refine takeW 1 18 (conv ⟨c0,c1,cn,c3,c4⟩) rfl rfl S0 ?_ (hy:=Or.inl ⟨by rfl,fun wz hz=>run_v (cont_load hz.2 rfl)⟩)
 try simp only [Act.put,sA,sB,sC]
 refine takeW 2 19 _ rfl rfl S0 ?_
 try simp only [Act.put,sA,sB,sC]
 have M7:=mks_row (uH Q5) (svc y2 S2) rfl
 have S1:=And.intro (M7.blk S0.1 (by omega)) (M7.blk S0.2 (by omega))
 have R7:=hide (blk_row (uH Q5) (svc y2 S2))
 have H7:=hide ((uH H6).low M7 (by omega))
 have Q7:=hide (M7.blk (uH Q6) (by omega))
 have B7:=hide ((uH B6).trans (M7.below (fun k e=>by subst e;omega) (uH B6).size))
 refine wpAnyH_ready (rs:=[3]) (by kernel_rfl) (by simp) (AllReadyH.cons rfl (fun K hK=>readyU (by rfl) rfl (run_u (blk_store 34 (arr:=svc y2 S2) (uH Q5) (by kernel_rfl) rfl (by kernel_rfl))) ?_) AllReadyH.nil)
 clear S0
 refine hK.out _ _ S1 (fun S0=>?_)
 clear hK K S1 M7 H6 Q5 Q6 B6
 try simp only [Act.put,sA,sB,sC]
 generalize World.setRow wn (w.heap.size+1) (svc y2 S2)=w8 at S0 R7 H7 Q7 B7 ⊢
 have M9:=mks_row (uH Q7) #[.int .i64 c0,.int .i64 c1,.string (bs cn),.int .i64 c3,.int .i64 c4] rfl
 have S1:=And.intro (M9.blk S0.1 (by omega)) (M9.blk S0.2 (by omega))
 have R9:=hide (M9.blk (uH R7) (by omega))
 have T9:=hide (blk_row (uH Q7) #[.int .i64 c0,.int .i64 c1,.string (bs cn),.int .i64 c3,.int .i64 c4])
 have H9:=hide ((uH H7).low M9 (by omega))
 have B9:=hide ((uH B7).trans (M9.below (fun k e=>by subst e;omega) (uH B7).size))
 refine wpAnyH_ready (rs:=[4]) (by kernel_rfl) (by simp) (AllReadyH.cons rfl (fun K hK=>readyU (by rfl) rfl (run_u (blk_store 38 (arr:=#[.int .i64 c0,.int .i64 c1,.string (bs cn),.int .i64 c3,.int .i64 c4]) (uH Q7) (by kernel_rfl) rfl (by kernel_rfl))) ?_) AllReadyH.nil)
 clear S0
 refine hK.out _ _ S1 (fun S0=>?_)
 clear hK K S1 M9 R7 H7 Q7 B7
 try simp only [Act.put,sA,sB,sC]
 generalize World.setRow w8 (w.heap.size+1+1) #[.int .i64 c0,.int .i64 c1,.string (bs cn),.int .i64 c3,.int .i64 c4]=w9 at S0 R9 T9 H9 B9 ⊢
 refine takeW 5 6 _ rfl rfl S0 ?_
 try simp only [Act.put,sA,sB,sC]
 refine wpAnyH_done (by kernel_rfl) ?_ _
 clear S0
 have HA:=hide (show GtAns w S2 ⟨c0,c1,cn,c3,c4⟩ ok (.returned (.tuple #[sv y2 S2,conv ⟨c0,c1,cn,c3,c4⟩,.bool ok])) w9 from ⟨y2,hs2,rfl,((uH H9).base (by omega)).ans,uH B9⟩)
 have z0:=(uH R9).at 0;have z1:=(uH R9).at 1;have z2:=(uH R9).at 2;have z3:=(uH R9).at 3;have z4:=(uH R9).at 4;have z5:=(uH R9).at 5;have z6:=(uH R9).at 6;have z7:=(uH R9).at 7
 simp at z0 z1 z2 z3 z4 z5 z6 z7
 have r0:=(uH T9).at 0;have r1:=(uH T9).at 1;have r2:=(uH T9).at 2;have r3:=(uH T9).at 3;have r4:=(uH T9).at 4
 simp at r0 r1 r2 r3 r4
 clear R9 T9 H9 B9
 go_wp2
 refine bodyPost_ret (v:=.tuple #[sv y2 S2,conv ⟨c0,c1,cn,c3,c4⟩,.bool ok]) (by simp [results,Tryz.results8,go_sem,z0,z1,z2,z3,z4,z5,z6,z7,r0,r1,r2,r3,r4]) rfl ?_
 exact uH HA
def AllReadyI (P:Program) (md:Region.Mode) (ops:Array Oper) (Q:Exit→Act→World→Prop) (S:World→Prop) (I:Nat→Array Bool→Act→World→Prop) (n:Nat) (listed:Array Bool) (a:Act) (w:World) (rs:List Nat):Prop:=
 ∀i ∈ rs,wpOp P ops Q i (fun a' w'=>S w'∧I n (listed.setIfInBounds i true) a' w') a w
theorem AllReadyI.nil {P:Program} {md:Region.Mode} {ops:Array Oper} {Q:Exit→Act→World→Prop} {S:World→Prop} {I:Nat→Array Bool→Act→World→Prop} {n:Nat} {listed:Array Bool} {a:Act} {w:World}:AllReadyI P md ops Q S I n listed a w []:=fun _ h=>by cases h
theorem AllReadyI.cons {P:Program} {md:Region.Mode} {ops:Array Oper} {Q:Exit→Act→World→Prop} {S:World→Prop} {I:Nat→Array Bool→Act→World→Prop} {n:Nat} {listed:Array Bool} {a:Act} {w:World} {i:Nat} {o:Oper} {rs:List Nat} (ho:ops[i]? = some o)
  (h:∀K':Act→World→Prop,Shut (∀a w,S w→I n (listed.setIfInBounds i true) a w→K' a w)→if Region.wanted o (yielded ops a.tmps)=true then Oper.wp P o a w K' Q else K' (a.put o.dst undef) w)
  (hs:AllReadyI P md ops Q S I n listed a w rs):AllReadyI P md ops Q S I n listed a w (i::rs):=fun j hj=>by
 rcases List.mem_cons.1 hj with rfl | hj
 ·exact wpOp_step ho (fun K' hK=>h K' (fun a w hS hW=>hK a w ⟨hS,hW⟩))
 ·exact hs j hj
theorem wpAnyH_inv {P:Program} {ops:Array Oper} {Q:Exit→Act→World→Prop} {md:Region.Mode} {S:World→Prop} (I:Nat→Array Bool→Act→World→Prop)
  (step:∀n listed a w,I (n+1) listed a w→Region.ready md ops listed≠[]∧AllReadyI P md ops Q S I n listed a w (Region.ready md ops listed))
  (fin:∀listed a w,I 0 listed a w→Region.ready md ops listed=[]∧Q .normal a w) :
  ∀n listed a w,I n listed a w→wpAnyH P md ops Q S n listed a w
 | 0,listed,a,w,h=>fin listed a w h
 | n+1,listed,a,w,h=>⟨fun e=>absurd e (step n listed a w h).1,fun i hi=>wpOp_mono (fun a' w' k=>⟨k.1,wpAnyH_inv I step fin n _ a' w' k.2⟩) ((step n listed a w h).2 i hi)⟩
theorem ready_step {P:Program} {ops:Array Oper} {Q:Exit→Act→World→Prop} {md:Region.Mode} {S:World→Prop} {I:Nat→Array Bool→Act→World→Prop} {n:Nat} {listed:Array Bool} {a:Act} {w:World} {rs:List Nat} (hr:Region.ready md ops listed=rs) (hne:rs≠[])
  (h:AllReadyI P md ops Q S I n listed a w rs):Region.ready md ops listed≠[]∧AllReadyI P md ops Q S I n listed a w (Region.ready md ops listed):=by
 subst hr
 exact ⟨hne,h⟩
end
end Go.Proofs.YtdhibeclkdepiaaGreat
