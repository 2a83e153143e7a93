/-
  Texts in one: VicN, VicI.
-/
import Derived.Test.YtokabeokclpljaaGreatSackAA
import Derived.Test.YtokabeokclpljaaGreatSackX
set_option maxRecDepth 100000
set_option maxHeartbeats 16000000
set_option linter.unusedVariables false
set_option linter.unusedSimpArgs false
namespace Go.Proofs.YtokabeokclpljaaGreat
section
open Go.RowKit Go.Maps
attribute [local go_sem] Oper.semAt_some
def valT (f:List UInt8→Int) (pre:List (Int×List UInt8)):Int:=match pre.getLast? with
 | some y=>f y.2
 | none=>0
theorem lastG_skip {s:St}:∀{a b:List (List UInt8)},(∀q ∈ a,overV s q=false)→lastG s (a++b)=lastG s b
 | [],b,_=>rfl
 | q::t,b,h=>by
  rw [List.cons_append,lastG,if_neg (by simp [h q List.mem_cons_self])]
  exact lastG_skip (fun x hx=>h x (List.mem_cons_of_mem _ hx))
theorem nextVictim_of (x:Sls) (s:St) (w:World) (h:SRow w x s) (hf:FitSt s) (hc:x.ql≤x.qc) (hw:WfSt s) :
  Calls Tryz.prog 35 #[sv x s] w fun e w'=>e=.returned (.int .i64 (plL (lastG s (orderV s).reverse)))∧Below w.heap.size w w':=by
 have CO:=hide (fun wx (hb:Below w.heap.size w wx)=>implQueueOrder_any x s wx (h.below hb) hf hc hw)
 have CV:=hide (fun q wx (hb:Below w.heap.size w wx)=>implOver_any x s q wx (h.below hb) hf hc hw)
 have CLH:=hide (fun q wx (hb:Below w.heap.size w wx)=>lastCont_any x s q wx (h.below hb) hf hw)
 have HOL:=hide (show (orderV s).length≤1048576 from by have:=ord_len s;have:=h.1.1;have:=h.ql hf;omega)
 obtain ⟨lp,hlp⟩:∃f:List UInt8→Int,(fun q=>plL (lastIdx (onQ s q) s.cs))=f:=⟨_,rfl⟩
 obtain ⟨r,hr⟩:∃r,plL (lastG s (orderV s).reverse)=r:=⟨_,rfl⟩
 have HEN:=hide (show ∀ys:List (Int×List UInt8),ys.map (fun x=>x.2)=(orderV s).reverse→(∀y ∈ ys,overV s y.2=false)→r = -1 from fun ys e hy=>by
  rw [←hr,←e]
  have:=lastG_skip (s:=s) (a:=ys.map (fun x=>x.2)) (b:=[]) (fun q hq=>by obtain ⟨y,hy2,rfl⟩:=List.mem_map.1 hq;exact hy y hy2)
  rw [List.append_nil] at this
  rw [this]
  rfl)
 have HST:=hide (show ∀pre:List (Int×List UInt8),List.IsPrefix (pre.map (fun x=>x.2)) (orderV s).reverse→∀ini last,pre=ini++[last]→(∀y ∈ ini,overV s y.2=false)→overV s last.2=true→r=valT lp pre from fun pre hp ini last e hy hl=>by
  obtain ⟨rest,he⟩:=hp
  subst e
  rw [←hr,←he,List.map_append,List.append_assoc,lastG_skip (fun q hq=>by obtain ⟨y,hy2,rfl⟩:=List.mem_map.1 hq;exact hy y hy2),valT,List.getLast?_append]
  simp only [List.map_cons,List.map_nil,List.getLast?_singleton,List.singleton_append,Option.or_some,Option.some_or]
  rw [lastG,if_pos hl,←hlp])
 rw [hr]
 obtain ⟨ord,hord⟩:∃p,orderV s=p:=⟨_,rfl⟩
 rw [hord] at CO HOL HEN HST
 have CLL:=hide (show ∀q wx,Below w.heap.size w wx→Calls Tryz.prog 93 #[sv x s,.string (bs q)] wx fun e w'=>e=.returned (.int .i64 (lp q))∧Below wx.heap.size wx w' from by rw [←hlp];exact uH CLH)
 obtain ⟨ovf,hov⟩:∃f,overV s=f:=⟨_,rfl⟩
 rw [hov] at CV HEN HST
 clear h hf hc hw CLH hlp hr hord hov
 obtain ⟨qa,ql,qc,aa,al,ac,ma,ml,mc,ca,cl,cc⟩:=x
 obtain ⟨qs,clock,epoch,next,serial,apps,ms,cs⟩:=s
 have hol:ord.length≤1048576:=uH HOL
 have hB0:=yA (yA (yH _ w) (.cells (svc ⟨qa,ql,qc,aa,al,ac,ma,ml,mc,ca,cl,cc⟩ ⟨qs,clock,epoch,next,serial,apps,ms,cs⟩) 36)) (.cells #[.int .i64 0] 3)
 have P0:=hide ((yD w (svc ⟨qa,ql,qc,aa,al,ac,ma,ml,mc,ca,cl,cc⟩ ⟨qs,clock,epoch,next,serial,apps,ms,cs⟩) 36).al (.cells #[.int .i64 0] 3))
 have R0:=hide (yD (w.alloc (.cells (svc ⟨qa,ql,qc,aa,al,ac,ma,ml,mc,ca,cl,cc⟩ ⟨qs,clock,epoch,next,serial,apps,ms,cs⟩) 36)) #[.int .i64 0] 3)
 rw [yE] at R0
 have HB0:=hide hB0
 clear hB0
 obtain ⟨x0,x1,x2,x3,x4,x5,x6,x7⟩:=zq (uH P0)
 have hmx:Tryz.prog.follows .mixedOrders=true:=by kernel_rfl
 refine (callsIn_wide (n:=3)).1 ?_
 refine callsIn_of_wp_marks Tryz.func35 rfl trivial ?_ rfl
 simp only [Tryz.ntmps35,List.size_toArray,List.length_cons,List.length_nil,Nat.reduceAdd,Nat.reduceSub,Array.replicate_succ,Array.replicate_zero,List.push_toArray,List.append_toArray,List.nil_append,List.cons_append]
 gi_wp2_with fail
 first | refine ⟨trivial,?_⟩ | skip
 first | refine ⟨(by intro e;cases e),?_⟩ | skip
 refine (callsIn_wide.2 (uH CO _ (uH HB0))).mono ?_
 rintro e w1 ⟨v0,rfl,ht,hb⟩
 obtain ⟨vo,vc,rfl,hrow⟩:=ht.open
 have HROW:=hide (show TxRow w1 vo ord from hrow)
 have HB1:=hide (yB (uH HB0) hb)
 have P1:=hide ((uH P0).below hb)
 have R1:=hide ((uH R0).below hb)
 clear hb ht hrow HB0 P0 R0 CO x0 x1 x2 x3 x4 x5 x6 x7
 gi_wp2_with fail
 first | refine ⟨trivial,?_⟩ | skip
 first | refine ⟨(by intro e;cases e),?_⟩ | skip
 refine (callsIn_wide.2 (backT_any (.slice vo ord.length vc) _ rfl)).mono ?_
 rintro e w4 ⟨rfl,rfl⟩
 have hBs:=(yD w1 #[.slice vo ord.length vc] 49).at 0
 have hb2:=yA (yH _ w1) (.cells #[.slice vo ord.length vc] 49)
 have HB2:=hide (yB (uH HB1) hb2)
 have P2:=hide ((uH P1).below hb2)
 have R2:=hide ((uH R1).below hb2)
 have hw1:w.heap.size+1<w1.heap.size:=(uH R1).lt
 obtain ⟨bT,hbT⟩:∃g,w1.heap.size=g:=⟨_,rfl⟩
 rw [hbT] at hBs hw1
 gi_wp2
 obtain ⟨W0,hW0⟩:∃W0,w1.alloc (.cells #[.slice vo ord.length vc] 49)=W0:=⟨_,rfl⟩
 have hrow2:TxRow W0 vo ord:=by rw [←hW0];exact (uH HROW).below hb2
 rw [hW0] at HB2 P2 R2 hBs ⊢
 try rw [hbT]
 have HC:=hide (backT_stops (3 - 1) bT ord.length vc vo ord W0 hBs rfl hrow2 hol)
 have hsz0:bT<W0.heap.size:=yG hBs
 clear hW0 hBs hb2 hrow2 HROW HB1 P1 R1 hbT
 refine wpIn_rangeFunc_ownH rfl (by omega) (gf:=139) (lb:=#[.pointer (some ⟨bT,0,none⟩)]) rfl trivial (enters_of Tryz.func139 (by kernel_rfl) rfl)
  (uH HC) kpa_t kpa_b (yH _ _) (fun _=>rfl)
  (fun pre W=>(((Blk W w.heap.size (svc ⟨qa,ql,qc,aa,al,ac,ma,ml,mc,ca,cl,cc⟩ ⟨qs,clock,epoch,next,serial,apps,ms,cs⟩) 36∧Blk W (w.heap.size+1) #[.int .i64 0] 3)∧(∀y ∈ pre,ovf y.2=false))∧Below w.heap.size w W))
  (fun c pre W=>((Blk W (w.heap.size+1) #[.int .i64 (valT lp pre)] 3∧(c=.ret∧∃ini last,pre=ini++[last]∧(∀y ∈ ini,ovf y.2=false)∧ovf last.2=true))∧Below w.heap.size w W))
  (OwnFrom.and (Own.from (own_and2 (own_and2 (blk_own _ _ _) (blk_own _ _ _)) (own_prop (fun pre:List (Int×List UInt8)=>∀y ∈ pre,ovf y.2=false))) _) (ownFrom_below (yJ _) (by omega)))
  (fun c=>OwnFrom.and (Own.from (own_and2 (blk_ownC _ (fun pre:List (Int×List UInt8)=>#[Value.int .i64 (valT lp pre)]) _) (own_prop (fun pre:List (Int×List UInt8)=>c=.ret∧∃ini last,pre=ini++[last]∧(∀y ∈ ini,ovf y.2=false)∧ovf last.2=true))) _) (ownFrom_below (yJ _) (by omega)))
  ⟨⟨⟨uH P2,uH R2⟩,by simp⟩,uH HB2⟩
  (fun x a' W=>a' = { tmps:=#[sv ⟨qa,ql,qc,aa,al,ac,ma,ml,mc,ca,cl,cc⟩ ⟨qs,clock,epoch,next,serial,apps,ms,cs⟩,.pointer (some ⟨w.heap.size,0,none⟩),.pointer (some ⟨w.heap.size+1,0,none⟩),undef,.string (bs x.2),sv ⟨qa,ql,qc,aa,al,ac,ma,ml,mc,ca,cl,cc⟩ ⟨qs,clock,epoch,next,serial,apps,ms,cs⟩,.slice vo ord.length vc,.func (.func 139) #[] #[.pointer (some ⟨bT,0,none⟩)],.int .i64 x.1,.string (bs x.2),undef,undef,undef,undef,undef,undef],defers:=[] })
  (fun x a' _ X Y row hs hg hr=>hs)
  ?assign ?body ?done ?stop
 case assign=>
  rintro lq pre ⟨i,qn⟩ W K ⟨⟨⟨k5,k6⟩,hne⟩,hB⟩ hK
  gi_wp2
  exact hK _ _ (KeepsFrom.refl _ _) (kpa_below (yH _ W)) ⟨⟨⟨k5,k6⟩,hne⟩,hB⟩ rfl
 case body=>
  rintro lq pre ⟨i,qn⟩ a' W hlq _ ⟨⟨⟨k5,k6⟩,hne⟩,hB⟩ rfl hlt
  have K5:=hide k5
  have K6:=hide k6
  have HNE:=hide hne
  have HB:=hide hB
  obtain ⟨x0,x1,x2,x3,x4,x5,x6,x7⟩:=zq k5
  have CV1:=hide (uH CV qn)
  obtain ⟨ov,hov⟩:∃b,ovf qn=b:=⟨_,rfl⟩
  rw [hov] at CV1
  have HOV:=hide hov
  clear k5 k6 hne hB hov
  gi_wp2_with fail
  first | refine ⟨trivial,?_⟩ | skip
  first | refine ⟨(by intro e;cases e),?_⟩ | skip
  refine (CallsIn.inRound lq (callsIn_wide.2 (uH CV1 _ (uH HB)))).mono ?_
  rintro e w5 ⟨rfl,hb⟩
  have K55:=hide ((uH K5).below hb)
  have K65:=hide ((uH K6).below hb)
  have HB5:=hide (yB (uH HB) hb)
  have HW5:=hide hb
  clear hb K5 K6 HB CV1 x0 x1 x2 x3 x4 x5 x6 x7
  cases ov with
  | false=>
   gi_wp2
   refine ⟨(keepsO_below (uH HW5)).from _,kpa_below (uH HW5),⟨⟨uH K55,uH K65⟩,?_⟩,uH HB5⟩
   intro z hz
   rcases List.mem_append.1 hz with hz | hz
   ·exact uH HNE z hz
   ·have:z=(i,qn):=by simpa using hz
    rw [this]
    exact uH HOV
  | true=>
   obtain ⟨x0,x1,x2,x3,x4,x5,x6,x7⟩:=zq (uH K55)
   gi_wp2_with fail
   first | refine ⟨trivial,?_⟩ | skip
   first | refine ⟨(by intro e;cases e),?_⟩ | skip
   refine (CallsIn.inRound lq (callsIn_wide.2 (uH CLL qn _ (uH HB5)))).mono ?_
   rintro e w6 ⟨rfl,hb⟩
   have K66:=hide ((uH K65).below hb)
   have HB6:=hide (yB (uH HB5) hb)
   have HW6:=hide (yB (uH HW5) hb)
   have r6:=(uH K66).at 0
   have f6:=(uH K66).f 0
   simp at r6
   clear hb K55 K65 HB5 HW5 x0 x1 x2 x3 x4 x5 x6 x7
   gi_wp2
   refine ⟨((keepsO_below (uH HW6)).from _).trans ((KeepsOthers.setCell _ _ _).from _),⟨?_,rfl,pre,(i,qn),rfl,uH HNE,uH HOV⟩,yC (uH HB6) _ _ _ (by omega)⟩
   have:=(uH K66).set 0 (.int .i64 (lp qn))
   have e2:valT lp (pre++[(i,qn)])=lp qn:=by rw [valT,List.getLast?_append];rfl
   rw [e2]
   simpa using this
 case done=>
  rintro D ys W hD hys ⟨⟨⟨k5,k6⟩,hne⟩,hB⟩ hK
  have hres:=uH HEN ys (uH hys) hne
  subst hres
  have K6:=hide k6
  have HB:=hide hB
  have HK:=hide hK
  have c6:=k6.at 0
  have f6:=k6.f 0
  simp at c6
  have hDW:D≠w.heap.size+1:=by omega
  clear k5 k6 hne hB hK
  gi_wp2
  have e2:=(KeepsOthers.setCell W ⟨w.heap.size+1,0,none⟩ (.int .i64 (-1))).same D _ (uH HK) rfl
  refine ⟨by simp,.inl ⟨_,_,rfl,run_takeDeferred e2,?_⟩⟩
  have KF:Blk _ (w.heap.size+1) _ _:=(World.putObj_heap_other (o:=.deferred none) (w:=W.setCell ⟨w.heap.size+1,0,none⟩ (.int .i64 (-1))) (Ne.symm hDW)).trans ((uH K6).set 0 (.int .i64 (-1)))
  have r0:=KF.at 0
  simp at r0
  exact ⟨.int .i64 (-1),(by simp [results,Tryz.results35,go_sem,r0]),rfl,(yC (uH HB) _ _ _ (by omega)).trans (belowK_b (w:=w) (yJ _) _ D _ _ (by omega) e2 rfl rfl)⟩
 case stop=>
  rintro D c pre W hD hpre ⟨⟨k6,rfl,ini,last,he,hne,hov⟩,hB⟩ hK
  have hres:=uH HST pre (uH hpre) ini last he hne hov
  obtain ⟨v,hv⟩:∃v,valT lp pre=v:=⟨_,rfl⟩
  rw [hv] at k6 hres
  subst hres
  have K6:=hide k6
  have HB:=hide hB
  have HK:=hide hK
  have hDW:D≠w.heap.size+1:=by omega
  clear k6 hB hK hv he
  gi_wp2
  refine ⟨by simp,.inl ⟨_,_,rfl,run_takeDeferred (uH HK),?_⟩⟩
  have KF:Blk _ (w.heap.size+1) _ _:=(World.putObj_heap_other (o:=.deferred none) (w:=W) (Ne.symm hDW)).trans (uH K6)
  have r0:=KF.at 0
  simp at r0
  exact ⟨.int .i64 r,(by simp [results,Tryz.results35,go_sem,r0]),rfl,(uH HB).trans (belowK_b (w:=w) (yJ _) _ D _ _ (by omega) (uH HK) rfl rfl)⟩
end
section
open Go.RowKit
theorem TakC.keptSt {w:World} {g M k j:Nat} {l gl:List Con} {arr:Array Value} (h:TakC w g M l gl) (hb:Blk w k arr 36) (v:Value):TakC (w.setCell ⟨k,j,none⟩ v) g M l gl:=by
 obtain ⟨u,h1,h2,h3⟩:=h
 have e1:k≠g+1:=by
  intro e
  subst e
  have x:w.heap[g+1]? = _:=h1
  rw [show w.heap[g+1]? = _ from hb] at x
  cases x
 have e2:k≠g:=by
  intro e
  subst e
  obtain ⟨R,r1,r2⟩:=h2
  rw [show w.heap[k]? = _ from hb] at r1
  cases r1
 refine ⟨u,h1.other k j v (by omega),h2.other k j v (by omega),World.ownsRow.kept h3 (grown_sc w k j v) (.inr (fun e=>?_))⟩
 obtain ⟨N,hc⟩:=owns_cel h3 k e
 exact absurd (hc.type ⟨arr,hb,rfl⟩) (by decide)
theorem fieldCR (c0 c1 c3 c4:Int) (cn:List UInt8) (wx:World):(Instr.field 58 (conv ⟨c0,c1,cn,c3,c4⟩) 3).run Tryz.prog wx=.ok (rv c3 c4) wx:=by
 simp [Instr.field,go_sem,asAgg,conv]
theorem TakC.mksl {w w':World} {g M b:Nat} {l gl:List Con} (h:TakC w g M l gl) (hm:Mks (fun k=>k=b) w w') (hb:b<g):TakC w' g M l gl:=by
 obtain ⟨v,h1,h2,h3⟩:=h
 exact ⟨v,hm.blk1 h1 (by omega),h2.of_block (hm.block g h2.lt (by omega)),cown_mks hm h3 (by omega)⟩
theorem implVictims_any (x:Sls) (s:St) (nm:List UInt8) (w:World) (h:SRow w x s) (hf:FitSt s) (hc:x.ql≤x.qc) (hw:WfSt s) :
  Calls Tryz.prog 7 #[sv x s,.string (bs nm)] w fun e w'=>∃v,e=.returned v∧Hid (IOwn w.heap.size w' v (victimsV s nm)∧Below w.heap.size w w'):=by
 have hcl:x.cl≤1048576:=by have:=h.2.2.2.1;have:=hf.2.2.2.1;omega
 have HCL:=hide (show x.cl=s.cs.length from h.2.2.2.1)
 have CO:=hide (fun wx (hb:Below w.heap.size w wx)=>implStateOk_any x s wx (h.below hb) hf hc hw)
 have CS:=hide (fun wx (hb:Below w.heap.size w wx)=>implStarving_any x s wx (h.below hb) hf hc hw)
 have CL:=hide (fun wx (hb:Below w.heap.size w wx)=>implLack_any x s nm wx (h.below hb) hf hc hw)
 have CT:=hide (fun wx (hb:Below w.heap.size w wx)=>takingFromC_any x.ca x.cl x.cc s.cs wx (h.below hb).2.2.2 hcl)
 have CN:=hide (fun (L:List Con) (ca:Option Addr) (cc:Nat) (wx:World) (hb:Below w.heap.size w wx) (hr:ConRow wx ca L.length L) (hl:L.length≤s.cs.length) (hs:∀c ∈ L,c ∈ s.cs)=>by
  have:=nextVictim_of ⟨x.qa,x.ql,x.qc,x.aa,x.al,x.ac,x.ma,x.ml,x.mc,ca,L.length,cc⟩ (withC s L) wx (srow_withC h hb hr) (fit_withC hf hl hs) hc (wf_withC hw hs)
  rw [lastG_is] at this
  exact (show Calls Tryz.prog 35 _ wx (fun e w'=>e=.returned (.int .i64 (plL (lastS (withC s L))))∧Below wx.heap.size wx w') from this))
 have HSL:=hide (show (starveV s).length≤1048576 from by have:=stv_len s;have:=h.1.1;have:=h.ql hf;omega)
 obtain ⟨vs,hvs⟩:∃l,victimsV s nm=l:=⟨_,rfl⟩
 obtain ⟨ok,hok⟩:∃b,stateOkV s=b:=⟨_,rfl⟩
 obtain ⟨stv,hstv⟩:∃b,starveV s=b:=⟨_,rfl⟩
 obtain ⟨⟨l1,l2⟩,hlk⟩:∃b,lackV s nm=b:=⟨_,rfl⟩
 have HVS:=hide (show vs=((if ok=true∧stv.any (fun x=>decide (x=nm))=true then vicF s (l1,l2) (s.cs.length+1) s.cs (0,0) else []).map (·.id)) from by rw [←hvs,←hok,←hstv,←hlk];rfl)
 have HVR:=hide (VRel.start s (l1,l2))
 rw [hok] at CO
 rw [hstv] at CS HSL
 rw [hlk] at CL
 rw [hvs]
 simp only at CL
 clear h hf hw hvs hok hstv hlk
 have hB0:=yA (yH _ w) (.cells (svc x s) 36)
 have P0:=hide (yD w (svc x s) 36)
 have HB0:=hide hB0
 obtain ⟨qa,ql,qc,aa,al,ac,ma,ml,mc,ca,cl,cc⟩:=x
 obtain ⟨qs,clock,epoch,next,serial,apps,ms,cs⟩:=s
 simp only at hc hcl HCL CT CN
 obtain ⟨x0,x1,x2,x3,x4,x5,x6,x7⟩:=zq (uH P0)
 clear hB0
 go_enter Tryz.func7,Tryz.ntmps7
 go_wp2_with fail
 refine (uH CO _ (uH HB0)).mono ?_
 rintro e w1 ⟨rfl,hb⟩
 have HB1:=hide (yB (uH HB0) hb)
 have P1:=hide ((uH P0).below hb)
 clear hb HB0 P0 CO x0 x1 x2 x3 x4 x5 x6 x7
 obtain ⟨x0,x1,x2,x3,x4,x5,x6,x7⟩:=zq (uH P1)
 cases ok with
 | false=>
  obtain rfl:vs=[]:=by rw [uH HVS];simp
  clear HVS
  go_wp2
  go_ret
  exact ⟨_,rfl,hide ⟨iown_nil _ _,uH HB1⟩⟩
 | true=>
  go_wp2_with fail
  refine (uH CS _ (uH HB1)).mono ?_
  rintro e w2 ⟨v,rfl,ht,hb⟩
  obtain ⟨vo,vc,rfl,hrow⟩:=ht.open
  have HB2:=hide (yB (uH HB1) hb)
  have P2:=hide ((uH P1).below hb)
  have CC:=hide (containsT_any vo _ vc stv nm w2 hrow rfl (uH HSL))
  clear hb ht hrow HB1 P1 CS x0 x1 x2 x3 x4 x5 x6 x7
  obtain ⟨sl,hsl⟩:∃n,stv.length=n:=⟨_,rfl⟩
  obtain ⟨has,hhas⟩:∃b,stv.any (fun x=>decide (x=nm))=b:=⟨_,rfl⟩
  rw [hsl] at CC ⊢
  rw [hhas] at CC HVS
  clear hsl hhas HSL
  go_wp2_with fail
  refine (uH CC).mono ?_
  rintro e w3 ⟨rfl,rfl⟩
  clear CC
  obtain ⟨x0,x1,x2,x3,x4,x5,x6,x7⟩:=zq (uH P2)
  cases has with
  | false=>
   obtain rfl:vs=[]:=by rw [uH HVS];simp
   clear HVS
   go_wp2
   go_ret
   exact ⟨_,rfl,hide ⟨iown_nil _ _,uH HB2⟩⟩
  | true=>
   have HVS2:=hide (show vs=(vicF ⟨qs,clock,epoch,next,serial,apps,ms,cs⟩ (l1,l2) (cs.length+1) cs (0,0)).map (·.id) from by rw [uH HVS];simp)
   clear HVS
   go_wp2_with fail
   refine (uH CL _ (uH HB2)).mono ?_
   rintro e w3 ⟨rfl,hb⟩
   have HB3:=hide (yB (uH HB2) hb)
   have P3:=hide ((uH P2).below hb)
   have HB4:=hide (yA (yA (uH HB3) (.cells #[.int .i64 l1,.int .i64 l2] 52)) (.cells #[.int .i64 0,.int .i64 0] 52))
   have P4:=hide (((uH P3).al (.cells #[.int .i64 l1,.int .i64 l2] 52)).al (.cells #[.int .i64 0,.int .i64 0] 52))
   have hw3:w.heap.size<w3.heap.size:=(uH P3).lt
   clear hb HB2 P2 CL x0 x1 x2 x3 x4 x5 x6 x7 HB3 P3
   obtain ⟨x0,x1,x2,x3,x4,x5,x6,x7⟩:=zq (uH P4)
   obtain ⟨gA,hgA⟩:∃g,w3.heap.size=g:=⟨_,rfl⟩
   have A4:=hide (show Blk _ gA #[.int .i64 l1,.int .i64 l2] 52 from by have:=(yD w3 #[.int .i64 l1,.int .i64 l2] 52).al (.cells #[.int .i64 0,.int .i64 0] 52);rwa [hgA] at this)
   have B4:=hide (show Blk _ (gA+1) #[.int .i64 0,.int .i64 0] 52 from by have:=yD (w3.alloc (.cells #[.int .i64 l1,.int .i64 l2] 52)) #[.int .i64 0,.int .i64 0] 52;rwa [yE,hgA] at this)
   have hs4:((w3.alloc (.cells #[.int .i64 l1,.int .i64 l2] 52)).alloc (.cells #[.int .i64 0,.int .i64 0] 52)).heap.size=gA+2:=by rw [yE,yE,hgA]
   go_wp2_with fail
   have CT4:=hide (uH CT _ (uH HB4))
   clear CT x0 x1 x2 x3 x4 x5 x6 x7
   rw [hgA] at hw3
   clear hgA
   generalize (w3.alloc (.cells #[.int .i64 l1,.int .i64 l2] 52)).alloc (.cells #[.int .i64 0,.int .i64 0] 52)=w4 at HB4 P4 A4 B4 hs4 CT4 ⊢
   refine (uH CT4).mono ?_
   rintro e w5 ⟨rfl,ht,hs5,hb⟩
   rw [hs4] at ht hs5
   rw [hs4]
   have HT5:=hide ht
   have HB5:=hide (yB (uH HB4) hb)
   have P5:=hide ((uH P4).below hb)
   have A5:=hide ((uH A4).below hb)
   have B5:=hide ((uH B4).below hb)
   clear ht hb CT4 HB4 P4 A4 B4 hs4
   obtain ⟨x0,x1,x2,x3,x4,x5,x6,x7⟩:=zq (uH P5)
   go_wp2
   clear x0 x1 x2 x3 x4 x5 x6 x7
   have hbL:=yA (yH _ w5) (.cells #[.slice qa ql qc,.int .i64 clock,.int .i64 epoch,.int .i64 next,.int .i64 serial,.slice aa al ac,.slice ma ml mc,.slice ca cl cc] 36)
   have GL:=hide (show Blk _ (gA+2+2) #[.slice qa ql qc,.int .i64 clock,.int .i64 epoch,.int .i64 next,.int .i64 serial,.slice aa al ac,.slice ma ml mc,.slice ca cl cc] 36 from by have:=yD w5 #[.slice qa ql qc,.int .i64 clock,.int .i64 epoch,.int .i64 next,.int .i64 serial,.slice aa al ac,.slice ma ml mc,.slice ca cl cc] 36;rwa [hs5] at this)
   have HT6:=hide ((uH HT5).below hbL)
   have HB6:=hide (yB (uH HB5) hbL)
   have A6:=hide ((uH A5).below hbL)
   have B6:=hide ((uH B5).below hbL)
   clear hbL HT5 HB5 A5 B5 P5
   go_loopw [8] (fun v wr=>∃(L G:List Con) (g1 g2:Int) (n:Nat) (co:Option Addr) (cn cp gL:Nat),v=.pointer (some ⟨gL,0,none⟩)∧gA+3<gL∧Hid (Blk wr gL #[.slice qa ql qc,.int .i64 clock,.int .i64 epoch,.int .i64 next,.int .i64 serial,.slice aa al ac,.slice ma ml mc,.slice co cn cp] 36)∧Hid (Blk wr gA #[.int .i64 l1,.int .i64 l2] 52)∧Hid (Blk wr (gA+1) #[.int .i64 g1,.int .i64 g2] 52)∧Hid (TakC wr (gA+2) (cl*5) L G)∧Hid (VRel ⟨qs,clock,epoch,next,serial,apps,ms,cs⟩ (l1,l2) n L G (g1,g2))∧Hid (Below w.heap.size w wr)) (fun _ wr=>stLenC wr (gA+2+1))
   case atStart=>exact ⟨cs,[],0,0,_,ca,cl,cc,gA+2+2,rfl,by omega,GL,A6,B6,HT6,HVR,HB6⟩
   case round=>
    obtain ⟨L,G,g1,g2,n,co,cn,cp,gL,rfl,hgL,HL,HA,HBk,HT,HV,HB⟩:=hrel
    have a0:=(uH HA).at 0;have a1:=(uH HA).at 1
    have b0:=(uH HBk).at 0;have b1:=(uH HBk).at 1
    simp at a0 a1 b0 b1
    go_wp2_with fail
    refine (implWithin_any l1 l2 g1 g2 _).mono ?_
    rintro e w7 ⟨rfl,hb⟩
    have HL7:=hide ((uH HL).below hb)
    have HA7:=hide ((uH HA).below hb)
    have HBk7:=hide ((uH HBk).below hb)
    have HT7:=hide ((uH HT).below hb)
    have HB7:=hide (yB (uH HB) hb)
    have hm7:stLenC wr (gA+2+1)=L.length:=(uH HT).len
    clear a0 a1 b0 b1 hb HL HA HBk HT HB
    cases hwi:within l1 l2 g1 g2 with
    | true=>
     have hfin:=(uH HV).enough hwi
     have HVS3:=hide (show vs=G.map (·.id) from by rw [uH HVS2];exact congrArg _ hfin)
     have HGL:=hide (show G.length≤1048576 from by have h1:=(uH HV).tot;have h2:=uH HCL;simp only at h1 h2;omega)
     clear hfin hwi HVS2
     obtain ⟨v,hbk,hly,how⟩:=uH HT7
     obtain ⟨vo,vc,rfl,hvr,hvc,hvg⟩:=cown_row how
     have t1:=hbk.at 1
     simp at t1
     have CI:=hide (idsOf_any vo _ vc G w7 hvr (uH HGL))
     clear hbk hly how hvr hvc hvg
     obtain ⟨gn,hgn⟩:∃n,G.length=n:=⟨_,rfl⟩
     rw [hgn] at CI t1
     clear hgn
     go_wp2_with fail
     refine (uH CI).mono ?_
     rintro e w8 ⟨v,rfl,hv⟩
     have HV8:=hide hv
     clear hv
     go_wp2
     go_ret
     exact ⟨_,rfl,hide ⟨by rw [uH HVS3];exact iown_base (uH (uH HV8)).1 (uH HB7).size,yB (uH HB7) (uH (uH HV8)).2⟩⟩
    | false=>
     have HWI:=hide hwi
     clear hwi
     obtain ⟨v,hbk,hly,how⟩:=uH HT7
     have t0:=hbk.at 0
     simp at t0
     have f7:=(uH HL7).f 7
     have HLY:=hide (hly.rowC)
     clear hbk hly how
     obtain ⟨q0,q1,q2,q3,q4,q5,q6,q7⟩:=zq (uH HL7)
     go_upto_region 8 with fail
     have HL8:=hide (show Blk (w7.setCell ⟨gL,7,none⟩ (.slice (some ⟨gA+2,0,none⟩) L.length L.length)) gL #[.slice qa ql qc,.int .i64 clock,.int .i64 epoch,.int .i64 next,.int .i64 serial,.slice aa al ac,.slice ma ml mc,.slice (some ⟨gA+2,0,none⟩) L.length L.length] 36 from (uH HL7).set 7 _)
     have HA8:=hide ((uH HA7).other gL 7 (.slice (some ⟨gA+2,0,none⟩) L.length L.length) (by omega))
     have HBk8:=hide ((uH HBk7).other gL 7 (.slice (some ⟨gA+2,0,none⟩) L.length L.length) (by omega))
     have HB8:=hide (yC (uH HB7) gL 7 (.slice (some ⟨gA+2,0,none⟩) L.length L.length) (by omega))
     have HT8:=hide (show TakC (w7.setCell ⟨gL,7,none⟩ (.slice (some ⟨gA+2,0,none⟩) L.length L.length)) (gA+2) (cl*5) L G from (uH HT7).keptSt (uH HL7) _)
     clear q0 q1 q2 q3 q4 q5 q6 q7 f7 t0 HLY HL7 HA7 HBk7 HB7 HT7
     generalize w7.setCell ⟨gL,7,none⟩ (.slice (some ⟨gA+2,0,none⟩) L.length L.length)=w8 at HL8 HA8 HBk8 HB8 HT8 ⊢
     have HLY:=hide (show ConRow w8 (some ⟨gA+2,0,none⟩) L.length L from (let ⟨_,_,b,_⟩:=uH HT8;b.rowC))
     have CN8:=hide (uH CN L (some ⟨gA+2,0,none⟩) L.length w8 (uH HB8) (uH HLY) (by have:=(uH HV).tot;simp only at this;omega) (uH HV).sub)
     obtain ⟨q0,q1,q2,q3,q4,q5,q6,q7⟩:=zq (uH HL8)
     have HMS:=hide hm7
     obtain ⟨ll,hll⟩:∃n,L.length=n:=⟨_,rfl⟩
     have HLL:=hide hll
     rw [hll] at CN8 q7 HL8 ⊢
     clear hll hm7 HLY
     obtain ⟨at',hat⟩:∃o,lastS (withC ⟨qs,clock,epoch,next,serial,apps,ms,cs⟩ L)=o:=⟨_,rfl⟩
     have HAT:=hide hat
     rw [hat] at CN8
     clear hat
     go_wp2_with fail
     refine (uH CN8).mono ?_
     rintro e w9 ⟨rfl,hb⟩
     have HL9:=hide ((uH HL8).below hb)
     have HA9:=hide ((uH HA8).below hb)
     have HBk9:=hide ((uH HBk8).below hb)
     have HT9:=hide ((uH HT8).below hb)
     have HB9:=hide (yB (uH HB8) hb)
     clear q0 q1 q2 q3 q4 q5 q6 q7 CN8 hb HL8 HA8 HBk8 HT8 HB8
     cases at' with
     | none=>
      simp only [plL]
      have hfin:=(uH HV).over (uH HAT)
      have HVS3:=hide (show vs=G.map (·.id) from by rw [uH HVS2];exact congrArg _ hfin)
      have HGL:=hide (show G.length≤1048576 from by have h1:=(uH HV).tot;have h2:=uH HCL;simp only at h1 h2;omega)
      clear hfin HVS2 HAT HV
      obtain ⟨v,hbk,hly,how⟩:=uH HT9
      obtain ⟨vo,vc,rfl,hvr,hvc,hvg⟩:=cown_row how
      have t1:=hbk.at 1
      simp at t1
      have CI:=hide (idsOf_any vo _ vc G w9 hvr (uH HGL))
      clear hbk hly how hvr hvc hvg
      obtain ⟨gn,hgn⟩:∃n,G.length=n:=⟨_,rfl⟩
      rw [hgn] at CI t1
      clear hgn
      go_wp2_with fail
      refine (uH CI).mono ?_
      rintro e w10 ⟨v,rfl,hv⟩
      have HV8:=hide hv
      clear hv
      go_wp2
      go_ret
      exact ⟨_,rfl,hide ⟨by rw [uH HVS3];exact iown_base (uH (uH HV8)).1 (uH HB9).size,yB (uH HB9) (uH (uH HV8)).2⟩⟩
     | some i=>
      simp only [plL]
      have hi0:¬((i:Int)<0):=by omega
      obtain ⟨hic,hvr⟩:=(uH HV).step (uH HWI) (uH HAT)
      have hgl:L.length≤1048576∧G.length≤1048576:=by have h1:=(uH HV).tot;have h2:=uH HCL;simp only at h1 h2;omega
      have HTK:=hide (fun wx (h:TakC wx (gA+2) (cl*5) L G)=>takeC_ex (gA+2) (cl*5) i L G wx h hic hgl.1 hgl.2)
      obtain ⟨c,hcx⟩:∃c,L[i]=c:=⟨_,rfl⟩
      rw [hcx] at hvr HTK
      have HIC:=hide hic
      have hbo:=addV_both g1 g2 c
      obtain ⟨⟨b1,b2⟩,hbb⟩:∃p,addV (g1,g2) c=p:=⟨_,rfl⟩
      rw [hbb] at hvr hbo
      obtain ⟨c0,c1,cn,c3,c4⟩:=c
      simp only at hbo
      have CA:=hide (fun wx=>by have:=implAdd_any g1 g2 c3 c4 wx;rw [hbo] at this;exact this)
      have HVN:=hide hvr
      obtain ⟨bo,hboo⟩:∃b,bothOk 1 g1 g2 c3 c4=b:=⟨_,rfl⟩
      rw [hboo] at CA
      obtain ⟨L2,hL2⟩:∃l,L.eraseIdx i=l:=⟨_,rfl⟩
      have hlen:=List.length_eraseIdx_of_lt hic
      rw [hL2] at HTK HVN hlen
      have HLEN:=hide hlen
      clear hvr hgl hcx hbb hbo hboo hL2 hlen hic HV HWI HAT CN
      go_upto_region 10 with fail
      have hgl9:gL<w9.heap.size:=(uH HL9).lt
      refine wp_region_x 9 (fun wx=>Below (gA+1) w9 wx) (fun wx=>Below (gA+2) w9 wx) (by kernel_rfl) ((yH _ w9).drew) ((yH _ w9).drew) (fun S0 T0=>?_)
      have HT10:=hide ((uH HT9).below (yH _ w9).drew)
      have HB10:=hide (uH HB9).drew
      have HL10:=hide ((uH HL9).below (yH _ w9).drew)
      have HA10:=hide ((uH HA9).below (yH _ w9).drew)
      have hsz10:gA+2≤w9.drew.heap.size:=by show gA+2≤w9.heap.size;omega
      clear HT9 HB9 HL9 HA9
      generalize w9.drew=wn at S0 T0 HT10 HB10 HL10 HA10 hsz10 ⊢
      refine takeXT 0 42 (rv g1 g2) rfl rfl S0 T0 ?_ (hy:=Or.inl ⟨by rfl,fun wz hz=>run_v (resv_load (show Blk wz (gA+1) _ _ from (hz.block (gA+1) (by omega)).trans (uH HBk9)))⟩)
      try simp only [zW]
      refine takeXS 1 43 (.pointer (some ⟨gA+2+1,0,none⟩)) rfl rfl S0 T0 ?_
      try simp only [zW]
      refine takeXS 2 44 (.int .i64 (i:Int)) rfl rfl S0 T0 ?_
      try simp only [zW]
      refine wpAnyX_ready [3] (AllReadyX.cons rfl (fun K hK=>?_) AllReadyX.nil)
      go_simp
      refine (uH HTK _ (uH HT10)).mono ?_
      rintro e wt ⟨rfl,ht,hb,hk⟩
      have S1:Below (gA+1) w9 wt:=Below.trans S0 (hb.mono (by omega))
      have T1:Below (gA+2) w9 wt:=Below.trans T0 hb
      have HT11:=hide ht
      have HL11:=hide (hk _ _ (uH HL10))
      have HA11:=hide (show Blk wt gA _ _ from (hb.block gA (by omega)).trans (uH HA10))
      have HB11:=hide (Below.trans (uH HB10) (hb.mono (show w.heap.size≤gA+2 by omega)))
      have hsz11:gA+2≤wt.heap.size:=Nat.le_trans hsz10 hb.size
      clear S0 T0 ht hb hk HT10 HB10 HL10 HA10 hsz10 HTK
      go_wp2_with fail
      refine hK.out _ _ S1 (fun _=>T1) ?_
      clear hK K
      have S0:=S1
      have T0:=T1
      clear S1 T1
      try simp only [zW]
      refine takeXS 4 46 (rv c3 c4) rfl rfl S0 T0 ?_ (hy:=Or.inl ⟨by rfl,fun wz hz=>run_v (fieldCR c0 c1 c3 c4 cn wz)⟩)
      try simp only [zW]
      refine wpAnyX_ready [5] (AllReadyX.cons rfl (fun K hK=>?_) AllReadyX.nil)
      go_simp
      refine (uH CA _).mono ?_
      rintro e wu ⟨rfl,hb⟩
      have S1:Below (gA+1) w9 wu:=Below.trans S0 (hb.mono (by omega))
      have T1:Below (gA+2) w9 wu:=Below.trans T0 (hb.mono hsz11)
      have HT12:=hide ((uH HT11).below hb)
      have HL12:=hide ((uH HL11).below hb)
      have HA12:=hide ((uH HA11).below hb)
      have HB12:=hide (yB (uH HB11) hb)
      have hsz12:gA+2≤wu.heap.size:=Nat.le_trans hsz11 hb.size
      have HBk12:=hide (show Blk wu (gA+1) _ _ from (T1.block (gA+1) (by omega)).trans (uH HBk9))
      clear S0 T0 hb HT11 HB11 HL11 HA11 hsz11 CA HBk9
      go_wp2_with fail
      refine hK.out _ _ S1 (fun _=>T1) ?_
      clear hK K
      have S0:=S1
      have T0:=T1
      clear S1 T1
      try simp only [zW]
      refine takeXS 6 41 (.tuple #[rv b1 b2,.bool bo]) rfl rfl S0 T0 ?_
      try simp only [zW]
      refine takeXS 7 48 (rv b1 b2) rfl rfl S0 T0 ?_
      try simp only [zW]
      refine takeXS 8 49 (.bool bo) rfl rfl S0 T0 ?_
      try simp only [zW]
      have M:=mks_row (uH HBk12) #[.int .i64 b1,.int .i64 b2] rfl
      have S9:Below (gA+1) w9 (World.setRow wu (gA+1) #[.int .i64 b1,.int .i64 b2]):=Below.trans S0 (M.below (fun k e=>by subst e;omega) (by omega))
      have HBk13:=hide (blk_row (uH HBk12) #[.int .i64 b1,.int .i64 b2])
      have HA13:=hide (M.blk (uH HA12) (by omega))
      have HL13:=hide (M.blk (uH HL12) (by omega))
      have HT13:=hide ((uH HT12).mksl M (by omega))
      have HB13:=hide (Below.trans (uH HB12) (M.below (B:=w.heap.size) (fun k e=>by subst e;omega) (by omega)))
      refine wpAnyX_ready [9] (AllReadyX.cons rfl (fun K hK=>readyU (by rfl) rfl (run_u (blk_store 52 (arr:=#[.int .i64 b1,.int .i64 b2]) (uH HBk12) (by kernel_rfl) rfl (by kernel_rfl))) ?_) AllReadyX.nil)
      clear S0 T0
      refine hK.out _ _ S9 (fun e=>by cases e) ?_
      clear hK K S9 M HBk12 HA12 HL12 HT12 HB12
      try simp only [zW]
      refine wpAnyX_on _ _ _ _ (by kernel_rfl) ?_
      refine wpAnyH_done (by kernel_rfl) ?_ _
      generalize World.setRow wu (gA+1) #[.int .i64 b1,.int .i64 b2]=wv at HBk13 HA13 HL13 HT13 HB13 ⊢
      obtain ⟨q0,q1,q2,q3,q4,q5,q6,q7⟩:=zq (uH HL13)
      have hglv:gL<wv.heap.size:=(uH HL13).lt
      go_wp2
      have hbz:=yA (yH _ wv) (.cells #[.slice qa ql qc,.int .i64 clock,.int .i64 epoch,.int .i64 next,.int .i64 serial,.slice aa al ac,.slice ma ml mc,.slice (some ⟨gA+2,0,none⟩) ll ll] 36)
      go_roundw
      case rel=>exact ⟨L2,G++[⟨c0,c1,cn,c3,c4⟩],b1,b2,n - 1,some ⟨gA+2,0,none⟩,ll,ll,wv.heap.size,rfl,by omega,hide (yD wv _ _),hide ((uH HA13).below hbz),hide ((uH HBk13).below hbz),hide ((uH HT13).below hbz),HVN,hide (yB (uH HB13) hbz)⟩
      case measure=>
       have h1:=((uH HT13).below hbz).len
       have h2:=uH HMS
       have h3:=uH HLEN
       have h4:=uH HIC
       rw [h1,h2,h3]
       omega
end
end Go.Proofs.YtokabeokclpljaaGreat
