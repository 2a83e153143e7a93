/-
  What is due to a queue of a total, and the most that it may have: what the program's partOf answers; walks over the dump.
-/
import Derived.Test.YtokabeokclpljaaGreatSackP
set_option maxRecDepth 100000
set_option maxHeartbeats 16000000
set_option linter.unusedVariables false
set_option linter.unusedSimpArgs false
namespace Go.Proofs.YtokabeokclpljaaGreat
section
open Go.RowKit Go.Shelf
attribute [local go_sem] Oper.semAt_some
theorem Tryz.infoInt:(Tryz.prog.info? 3).map (fun i=>(i.zero,i.size,i.bytes))=some (some (.int .i64 0),1,8):=by kernel_rfl
theorem owner_ne {W:World} {base e size n:Nat} {v:Value} {xs:List Value} (h:W.ownsRow base e size v n xs):some W.heap.size≠v.ownBlock:=by
 rcases h.2 with ⟨rfl,_⟩ | ⟨g,cap,cur,rfl,_,hgb,_⟩
 ·simp [Value.ownBlock]
 ·have:=lt_of_block hgb
  simp [Value.ownBlock];omega
theorem own_one {W:World} {base e size n:Nat} {v:Value} {xs:List Value} (h:W.ownsRow base e size v n xs):v.oneCell'=true:=by
 rcases h.2 with ⟨rfl,_⟩ | ⟨g,cap,cur,rfl,_⟩<;>rfl
def PartAt (W:World) (p:Nat) (a b:Int) (st:List Int):Prop:=Var W 52 p (partS (a,b) st).1 (partS (a,b) st).2
theorem partAt_own {β:Type} (p:Nat) (a b:Int) (f:β→List Int):Own (fun s W=>PartAt W p a b (f s)):=fun s X Y row hs hg hr=>
 (hg.block p (show Var X _ p _ _ from hs).lt (fun e=>by
  obtain ⟨o,ho,hc⟩:=hr p e.symm
  rw [show X.heap[p]? = _ from hs] at ho
  cases ho
  cases hc)).trans hs
theorem steps_all {most:Bool} {u:List Q} (h:∀q ∈ u,q.parent≠[]):stepsOf most u=u.map (fieldOf most):=by
 have e:=List.takeWhile_append_of_pos (p:=fun q:Q=>decide (q.parent≠[])) (l₁:=u) (l₂:=[]) (by intro q hq;simpa using h q hq)
 rw [List.append_nil] at e
 rw [stepsOf,e]
 simp
theorem steps_cut {most:Bool} {u ini:List Q} {last:Q} (h:∀q ∈ ini,q.parent≠[]) (hl:last.parent=[]) (hp:ini++[last] <+: u):stepsOf most u=ini.map (fieldOf most):=by
 obtain ⟨r,rfl⟩:=hp
 rw [stepsOf,List.append_assoc,List.takeWhile_append_of_pos (by intro q hq;simpa using h q hq)]
 simp [hl]
theorem partOf_any (gp:Nat) (eg:∀args w,(callFunc gp args).run Tryz.prog w=.ok (.enter gp args) w) (most:Bool) (hpt:∀(wx:World) (q:Q),Calls Tryz.prog gp #[qv q] wx fun e w'=>e=.returned (.int .i64 (fieldOf most q))∧Below wx.heap.size wx w')
  (ao:Option Addr) (len cap:Nat) (l:List Q) (nm:List UInt8) (a b:Int) (w:World) (h:QRow w ao len l) (hl:len≤1048576) (hn:∀q ∈ l,q.name.length≤1048576) (hc:len≤cap) :
  Calls Tryz.prog 130 #[.slice ao len cap,.string (bs nm),rv a b,.func (.func gp) #[] #[]] w fun e w'=>e=.returned (rv (ofR l nm a b most).1 (ofR l nm a b most).2)∧Below w.heap.size w w':=by
 obtain ⟨i0,hi,hz0,hz1,hz2⟩:=info_parts Tryz.infoInt
 have HR:=hide h
 have HL:=hide h.1
 have HPT:=hide hpt
 have hbA:=yA (yA (yA (yH _ w) (.cells #[.int .i64 a,.int .i64 b] 52)) (.cells #[.func (.func gp) #[] #[]] 167)) (.cells #[.int .i64 0,.int .i64 0] 52)
 have HV6:=hide (((var_new w 52 a b).al (.cells #[.func (.func gp) #[] #[]] 167)).al (.cells #[.int .i64 0,.int .i64 0] 52))
 have HV7:=hide (show Go.Boxed _ (w.heap.size+1) _ _ by have:=(Go.Boxed.new (w.alloc (.cells #[.int .i64 a,.int .i64 b] 52)) 167 (.func (.func gp) #[] #[])).alloc (.cells #[.int .i64 0,.int .i64 0] 52);rwa [World.size_alloc] at this)
 have HV8:=hide (show Var _ 52 (w.heap.size+1+1) 0 0 by have:=var_new ((w.alloc (.cells #[.int .i64 a,.int .i64 b] 52)).alloc (.cells #[.func (.func gp) #[] #[]] 167)) 52 0 0;simpa using this)
 have CQ:=hide (implQueuesOk_any ao len cap l _ (h.below hbA) hl hn hc)
 have CP:=hide (fun wx (hb:Below w.heap.size w wx)=>place_any ao len cap l nm wx (h.below hb) hl)
 have CK:=hide (fun wx=>ok_bel a b wx)
 have HF1:=hide (fun ho:queuesOk l=false=>ofR_none1 ho nm a b most)
 have HF2:=hide (fun hp:place l nm<0=>ofR_none2 hp a b most)
 have HF3:=hide (fun hk:resOk a b=false=>ofR_none3 l nm hk most)
 have HF4:=hide (fun (ho:queuesOk l=true) (hp:0≤place l nm) (hk:resOk a b=true)=>ups_part ho nm a b most hp hk)
 obtain ⟨⟨x,y⟩,hxy⟩:∃p,ofR l nm a b most=p:=⟨_,rfl⟩
 obtain ⟨o,ho⟩:∃o,queuesOk l=o:=⟨_,rfl⟩
 obtain ⟨p,hp⟩:∃p,place l nm=p:=⟨_,rfl⟩
 obtain ⟨k,hk⟩:∃k,resOk a b=k:=⟨_,rfl⟩
 rw [hxy] at HF1 HF2 HF3 HF4 ⊢
 rw [ho] at CQ HF1 HF4
 rw [hp] at CP HF2 HF4
 rw [hk] at CK HF3 HF4
 have HBA:=hide hbA
 clear h hn hpt hbA hxy ho hp hk
 have hmx:Tryz.prog.follows .mixedOrders=true:=by kernel_rfl
 refine (callsIn_wide (n:=3)).1 ?_
 refine callsIn_of_wp_marks Tryz.func130 rfl trivial ?_ rfl
 simp only [Tryz.ntmps130,List.size_toArray,List.length_cons,List.length_nil,Nat.reduceAdd,Nat.reduceSub,Array.replicate_succ,Array.replicate_zero,List.push_toArray,List.append_toArray,List.nil_append,List.cons_append]
 gi_wp2_with fail
 refine ⟨trivial,?_⟩
 first | refine ⟨(by intro e;cases e),?_⟩ | skip
 refine (callsIn_wide.2 (uH CQ)).mono ?_
 rintro e w1 ⟨rfl,hb⟩
 have HB1:=hide (yB (uH HBA) hb)
 have V61:=hide ((uH HV6).below hb)
 have V71:=hide (boxed_below (uH HV7) hb)
 have V81:=hide ((uH HV8).below hb)
 clear hb CQ HBA HV6 HV7 HV8
 cases o with
 | false=>
  have hz:(x,y)=((0:Int),(0:Int)):=uH HF1 (by first | rfl | trivial)
  simp only [Prod.mk.injEq] at hz
  obtain ⟨rfl,rfl⟩:=hz
  have k0:=(uH V81).c0
  have k1:=(uH V81).c1
  have k2:=(uH V81).f 0
  have k3:=(uH V81).f 1
  have k4:=(uH V81).s0 (.int .i64 0)
  have k5:=(uH V81).s1 (.int .i64 0) (.int .i64 0)
  gi_wp2
  repeat (refine ⟨trivial,?_⟩;gi_wp2)
  refine ⟨rv 0 0,(by simp [results,Tryz.results130,go_sem,k4,k5]),rfl,?_⟩
  repeat (first | exact uH HB1 | refine yA ?_ _ | refine Below.drew ?_ | refine yC ?_ _ _ _ (by omega))
 | true=>
  gi_wp2_with fail
  refine ⟨trivial,?_⟩
  first | refine ⟨(by intro e;cases e),?_⟩ | skip
  refine (callsIn_wide.2 (uH CP _ (uH HB1))).mono ?_
  rintro e w2 ⟨rfl,hb⟩
  have HB2:=hide (yB (uH HB1) hb)
  have V62:=hide ((uH V61).below hb)
  have V72:=hide (boxed_below (uH V71) hb)
  have V82:=hide ((uH V81).below hb)
  clear hb CP HB1 V61 V71 V81
  by_cases hp0:0≤p
  ·have a0:=(uH V62).c0
   have a1:=(uH V62).c1
   gi_wp2_with fail
   refine ⟨trivial,?_⟩
   first | refine ⟨(by intro e;cases e),?_⟩ | skip
   refine (callsIn_wide.2 (uH CK _)).mono ?_
   rintro e w3 ⟨rfl,hb⟩
   have HB3:=hide (yB (uH HB2) hb)
   have V63:=hide ((uH V62).below hb)
   have V73:=hide (boxed_below (uH V72) hb)
   have V83:=hide ((uH V82).below hb)
   clear hb CK HB2 V62 V72 V82 a0 a1
   cases k with
   | false=>
    have hz:(x,y)=((0:Int),(0:Int)):=uH HF3 (by first | rfl | trivial)
    simp only [Prod.mk.injEq] at hz
    obtain ⟨rfl,rfl⟩:=hz
    have k0:=(uH V83).c0
    have k1:=(uH V83).c1
    have k2:=(uH V83).f 0
    have k3:=(uH V83).f 1
    have k4:=(uH V83).s0 (.int .i64 0)
    have k5:=(uH V83).s1 (.int .i64 0) (.int .i64 0)
    gi_wp2
    refine ⟨rv 0 0,(by simp [results,Tryz.results130,go_sem,k4,k5]),rfl,?_⟩
    repeat (first | exact uH HB3 | refine yA ?_ _ | refine Below.drew ?_ | refine yC ?_ _ _ _ (by omega))
   | true=>
    have HFX:=hide (show (x,y)=partS (a,b) (stepsOf most (ups l nm)) from uH HF4 (by first | rfl | trivial) hp0 (by first | rfl | trivial))
    clear HF1 HF2 HF3 HF4
    gi_wp2_with fail
    refine ⟨trivial,?_⟩
    first | refine ⟨(by intro e;cases e),?_⟩ | skip
    refine (callsIn_wide.2 (above_any ao len cap nm _)).mono ?_
    rintro e w4 ⟨rfl,rfl⟩
    have HBo:=hide (((Go.Boxed.new w3 29 (.slice none 0 0)).alloc (.cells #[.slice ao len cap] 31)).alloc (.cells #[.string (bs nm)] 9))
    have hBq:(((w3.alloc (.cells #[.slice none 0 0] 29)).alloc (.cells #[.slice ao len cap] 31)).alloc (.cells #[.string (bs nm)] 9)).cell? ⟨w3.heap.size+1,0,none⟩=some (.slice ao len cap):=by
     have:=((Go.Boxed.new (w3.alloc (.cells #[.slice none 0 0] 29)) 31 (.slice ao len cap)).alloc (.cells #[.string (bs nm)] 9)).cell
     simpa using this
    have hBn:(((w3.alloc (.cells #[.slice none 0 0] 29)).alloc (.cells #[.slice ao len cap] 31)).alloc (.cells #[.string (bs nm)] 9)).cell? ⟨w3.heap.size+1+1,0,none⟩=some (.string (bs nm)):=by
     have:=(Go.Boxed.new ((w3.alloc (.cells #[.slice none 0 0] 29)).alloc (.cells #[.slice ao len cap] 31)) 9 (.string (bs nm))).cell
     simpa using this
    have HB0:=hide (yA (yA (yA (yH _ w3) (.cells #[.slice none 0 0] 29)) (.cells #[.slice ao len cap] 31)) (.cells #[.string (bs nm)] 9))
    have HC:=hide (above_stops (3 - 1) (w3.heap.size+1) (w3.heap.size+1+1) ao len cap l nm w3 _ ((uH HR).below (uH HB3)) (uH HB0) hl hc hBq hBn)
    clear hBq hBn
    gi_wp2
    have hsz:(((w3.alloc (.cells #[.slice none 0 0] 29)).alloc (.cells #[.slice ao len cap] 31)).alloc (.cells #[.string (bs nm)] 9)).heap.size=w3.heap.size+3:=by simp
    obtain ⟨W0,hW0⟩:∃W0,((w3.alloc (.cells #[.slice none 0 0] 29)).alloc (.cells #[.slice ao len cap] 31)).alloc (.cells #[.string (bs nm)] 9)=W0:=⟨_,rfl⟩
    rw [hW0] at hsz HBo HB0 HC ⊢
    have hw3:=(uH HB3).size
    clear hW0
    refine wpIn_rangeFunc_ownH rfl (by omega) (gf:=195) (lb:=#[.pointer (some ⟨w3.heap.size+1,0,none⟩),.pointer (some ⟨w3.heap.size+1+1,0,none⟩)]) rfl trivial (enters_of Tryz.func195 (by kernel_rfl) rfl)
     (uH HC) kpq_t (kpq_b (by omega)) (yH _ _) (fun _=>rfl)
     (fun pre W=>(∃v,Go.Boxed W w3.heap.size 29 v∧W.ownsRow w3.heap.size 3 1 v pre.length (ints (pre.map (fun q=>fieldOf most q.1)))∧(∀q ∈ pre,q.1.parent≠[]))∧Below w3.heap.size w3 W)
     (fun c pre W=>(c=.exit 0∧∃ini last,pre=ini++[last]∧(∀q ∈ ini,q.1.parent≠[])∧last.1.parent=[]∧∃v,Go.Boxed W w3.heap.size 29 v∧W.ownsRow w3.heap.size 3 1 v ini.length (ints (ini.map (fun q=>fieldOf most q.1)))∧True)∧Below w3.heap.size w3 W)
     (OwnFrom.and (Own.from (holdsRow_own w3.heap.size w3.heap.size 29 3 1 (fun pre:List { q:Q // q ∈ l }=>pre.length) (fun pre:List { q:Q // q ∈ l }=>ints (pre.map (fun q=>fieldOf most q.1))) (fun pre _=>∀q ∈ pre,q.1.parent≠[])) _) (ownFrom_below (yJ _) (by omega)))
     (fun c=>OwnFrom.and (Own.from (fun s X Y row hs hg hr=>by
      obtain ⟨hc,ini,last,e1,e2,e3,hx⟩:=hs
      exact ⟨hc,ini,last,e1,e2,e3,holdsRow_own w3.heap.size w3.heap.size 29 3 1 (fun pre:List { q:Q // q ∈ l }=>pre.length) (fun pre:List { q:Q // q ∈ l }=>ints (pre.map (fun q=>fieldOf most q.1))) (fun _ _=>True) ini X Y row hx hg hr⟩) _) (ownFrom_below (yJ _) (by omega)))
     ⟨⟨_,uH HBo,World.ownsRow_nil _ _ _ _,by simp⟩,uH HB0⟩
     (fun x a' W=>∃Bx,w3.heap.size<Bx∧QBox W Bx x.1∧a' = { tmps:=#[.slice ao len cap,.string (bs nm),rv a b,.func (.func gp) #[] #[],undef,undef,.pointer (some ⟨w.heap.size,0,none⟩),.pointer (some ⟨w.heap.size+1,0,none⟩),.pointer (some ⟨w.heap.size+1+1,0,none⟩),.pointer (some ⟨w3.heap.size,0,none⟩),.pointer (some ⟨Bx,0,none⟩),undef,undef,undef,.slice ao len cap,.bool true,.bool false,.bool false,.slice ao len cap,.string (bs nm),.int .i64 p,.bool (decide (p<0)),.bool (decide (p<0)),.bool (decide (p<0)),.agg #[.int .i64 a,.int .i64 b],.bool true,.bool false,.bool (decide (p<0)),undef,.slice ao len cap,.string (bs nm),.func (.func 195) #[] #[.pointer (some ⟨w3.heap.size+1,0,none⟩),.pointer (some ⟨w3.heap.size+1+1,0,none⟩)],qv x.1,undef,undef,undef,undef,undef,undef,undef,undef,undef,undef,undef,undef,undef,undef,undef,undef,undef,undef],defers:=[] })
     (fun x a' _ X Y row hs hg hr=>by
      obtain ⟨Bx,h1,h2,h3⟩:=hs
      refine ⟨Bx,h1,(hg.block Bx h2.lt (fun e=>?_)).trans h2,h3⟩
      obtain ⟨_,o,ho,hc⟩:=hr Bx e.symm
      rw [show X.heap[Bx]? = _ from h2] at ho
      cases ho
      cases hc)
     ?assign ?body ?done ?stop
    case assign=>
     rintro lp pre x W K ⟨⟨v,hv,hrow,hpar⟩,hB⟩ hK
     gi_wp2
     exact hK _ _ ((KeepsOthers.alloc _ _).from _) (kpq_of hB.size (yA (yH _ W) _)) ⟨⟨v,hv.alloc _,hrow.alloc _,hpar⟩,yA hB _⟩ ⟨W.heap.size,hv.lt,QBox.new W x.1,rfl⟩
    case body=>
     rintro lp pre ⟨q,hq⟩ a' W hlp _ ⟨⟨v,hv,hrow,hpar⟩,hB⟩ ⟨Bx,hBx,hX,rfl⟩ hlt
     simp only at hX
     have hx0:=hX.c0
     have hx1:=hX.c1
     have hx2:=hX.c2
     have hx3:=hX.c3
     have hc0:=hv.cell
     have hf7:=(boxed_below (uH V73) hB).cell
     have hpl:pre.length≤1048576:=by have:=uH HL;omega
     have hbe:=bs_empty q.parent
     have HV:=hide hv
     have HX:=hide hX
     have HRW:=hide hrow
     have HB:=hide hB
     have HPAR:=hide hpar
     clear hv hX hrow hB hpar
     by_cases hz:q.parent=[]
     ·have HZ:=hide hz
      rw [decide_eq_true hz] at hbe
      clear hz
      gi_wp2
      exact ⟨KeepsFrom.refl _ _,⟨rfl,pre,⟨q,hq⟩,rfl,uH HPAR,uH HZ,v,uH HV,uH HRW,trivial⟩,uH HB⟩
     ·have HZ:=hide hz
      rw [decide_eq_false hz] at hbe
      clear hz
      gi_wp2_with fail
      gi_region_with_o (first | (first | refine ⟨trivial,?_⟩ | skip);gi_at_fn gp;refine (CallsIn.inRound lp (callsIn_wide.2 (uH HPT _ q))).mono ?_;rintro e wc ⟨rfl,hbc⟩;have HW3:=hide (yB (yH _ W).drew hbc);have hc3:=(boxed_below (uH HV) (uH HW3)).cell;have hc3b:=((boxed_below (uH HV) (uH HW3)).alloc (.cells #[.int .i64 (fieldOf most q)] 3)).cell;obtain ⟨g,cp,w4,hrun,hc4,hf4,HFIN⟩:=gather_step 29 3 (.int .i64 0) 8 i0 Tryz.underlying29 hi hz0 hz1 hz2 rfl (by decide) (by decide) (by omega) (boxed_below (uH HV) (uH HW3)) (row_below (uH HRW) (uH HW3)) hpl (Nat.le_trans (uH HB).size (uH HW3).size) (yJ _) (.int .i64 (fieldOf most q)) rfl;clear hbc;simp [go_sem] at hrun)
      all_goals gi_wp2
      all_goals
       obtain ⟨f1,f2,f3,f4,f5⟩:=uH HFIN
       exact ⟨((keeps_below (uH HW3)).trans f3).from _,⟨((uH HW3).mono (uH HB).size).trans f4,fun k q hq=>f5 k q (hq.below (uH HW3))⟩,⟨⟨_,f1,by simpa using f2,by intro z hz;rcases List.mem_append.1 hz with hz | hz;exact uH HPAR z hz;(have:z=⟨q,hq⟩:=by simpa using hz);rw [this];exact uH HZ⟩,((uH HB).trans ((uH HW3).mono (uH HB).size)).trans f4⟩⟩
    case done=>
     rintro D ys W hD hys ⟨⟨v,hv,hrow,hpar⟩,hB⟩ hK
     have hys2:stepsOf most (ups l nm)=ys.map (fun q=>fieldOf most q.1):=by
      rw [←hys,steps_all (by intro z hz;obtain ⟨q,hq,rfl⟩:=List.mem_map.1 hz;exact hpar q hq)]
      simp
     have hyl:ys.length≤1048576:=by
      have e:=congrArg List.length hys
      have h2:(ups l nm).length≤l.length:=ups_len (l.length+1) l nm
      have h3:=uH HL
      rw [List.length_map] at e
      omega
     have HV:=hide hv
     have HRW:=hide hrow
     have HB:=hide hB
     have hc9:=hv.cell
     have a0:=((uH V63).below hB).c0
     have a1:=((uH V63).below hB).c1
     have hc9b:=(hv.alloc (.cells #[.int .i64 a,.int .i64 b] 52)).cell
     have hone:=own_one hrow
     have hlt9:=hv.lt
     have hDW:D<W.heap.size:=lt_of_block hK
     clear hv hrow hB
     gi_wp2_with fail
     refine ⟨trivial,?_⟩
     first | refine ⟨(by intro e;cases e),?_⟩ | skip
     refine (callsIn_wide.2 (back_any v _ hone)).mono ?_
     rintro e w6 ⟨rfl,rfl⟩
     clear a0 a1 hc9 hc9b
     gi_wp2
     have VP:=((var_new W 52 a b).al (.cells #[v] 29))
     have VB:Go.Boxed ((W.alloc (.cells #[.int .i64 a,.int .i64 b] 52)).alloc (.cells #[v] 29)) (W.heap.size+1) 29 v:=by have:=Go.Boxed.new (W.alloc (.cells #[.int .i64 a,.int .i64 b] 52)) 29 v;rwa [World.size_alloc] at this
     have hBW5:=yA (yA (yH _ W) (.cells #[.int .i64 a,.int .i64 b] 52)) (.cells #[v] 29)
     have hR5:=row_below (uH HRW) hBW5
     have hs5:((W.alloc (.cells #[.int .i64 a,.int .i64 b] 52)).alloc (.cells #[v] 29)).heap.size=W.heap.size+2:=by simp
     obtain ⟨W5,hW5⟩:∃W5,(W.alloc (.cells #[.int .i64 a,.int .i64 b] 52)).alloc (.cells #[v] 29)=W5:=⟨_,rfl⟩
     rw [hW5] at VP VB hBW5 hR5 hs5 ⊢
     clear hW5
     refine wpIn_rangeFunc_ownG rfl (by omega) (gf:=196) (lb:=#[.pointer (some ⟨W.heap.size+1,0,none⟩)]) rfl trivial (enters_of Tryz.func196 (by kernel_rfl) rfl)
      (back_stops (3 - 1) (W.heap.size+1) W.heap.size w3.heap.size v (ys.map (fun q=>fieldOf most q.1)) W5 VB (by simpa using hR5) (by omega) (owner_ne (uH HRW)) (by simp;omega)) kpc_t kpc_b (yH _ _) (fun _=>rfl)
      (fun pre W'=>PartAt W' W.heap.size a b ((pre.map Prod.snd).reverse)∧Below W.heap.size W W')
      (fun _ _ _=>False)
      (OwnFrom.and (Own.from (partAt_own W.heap.size a b (fun pre:List (Int×Int)=>(pre.map Prod.snd).reverse)) _) (ownFrom_below (yJ _) (by omega)))
      (fun _ _ _ _ _ hs _ _=>hs)
      ⟨VP,hBW5⟩
      (fun x=>{ tmps:=#[.slice ao len cap,.string (bs nm),rv a b,.func (.func gp) #[] #[],undef,undef,.pointer (some ⟨w.heap.size,0,none⟩),.pointer (some ⟨w.heap.size+1,0,none⟩),.pointer (some ⟨w.heap.size+1+1,0,none⟩),.pointer (some ⟨w3.heap.size,0,none⟩),undef,.pointer (some ⟨W.heap.size,0,none⟩),undef,.int .i64 x.2,.slice ao len cap,.bool true,.bool false,.bool false,.slice ao len cap,.string (bs nm),.int .i64 p,.bool (decide (p<0)),.bool (decide (p<0)),.bool (decide (p<0)),.agg #[.int .i64 a,.int .i64 b],.bool true,.bool false,.bool (decide (p<0)),undef,.slice ao len cap,.string (bs nm),.func (.func 195) #[] #[.pointer (some ⟨w3.heap.size+1,0,none⟩),.pointer (some ⟨w3.heap.size+1+1,0,none⟩)],undef,undef,undef,undef,undef,undef,undef,undef,undef,undef,.agg #[.int .i64 a,.int .i64 b],v,.func (.func 196) #[] #[.pointer (some ⟨W.heap.size+1,0,none⟩)],.int .i64 x.1,.int .i64 x.2,undef,undef,undef,undef],defers:=[] })
      ?assign2 ?body2 ?done2 ?stop2
     case assign2=>
      intro lq x W' K hK'
      gi_wp2
      exact hK'
     case body2=>
      rintro lq pre2 x W' ⟨hV,hBW⟩ hlt2
      have HST:=hide (show partS (a,b) (((pre2++[x]).map Prod.snd).reverse)=(shareM (partS (a,b) ((pre2.map Prod.snd).reverse)).1 (partS (a,b) ((pre2.map Prod.snd).reverse)).2 x.2,shareC (partS (a,b) ((pre2.map Prod.snd).reverse)).1 (partS (a,b) ((pre2.map Prod.snd).reverse)).2 x.2) by simp [partS])
      obtain ⟨⟨u1,u2⟩,hu⟩:∃u,partS (a,b) ((pre2.map Prod.snd).reverse)=u:=⟨_,rfl⟩
      unfold PartAt at hV
      rw [hu] at hV HST
      simp only at hV HST
      obtain ⟨s1,hs1⟩:∃s,shareM u1 u2 x.2=s:=⟨_,rfl⟩
      obtain ⟨s2,hs2⟩:∃s,shareC u1 u2 x.2=s:=⟨_,rfl⟩
      rw [hs1,hs2] at HST
      have CSh:=hide (fun wx=>by have:=implShare_any u1 u2 x.2 wx;rw [hs1,hs2] at this;exact this)
      have b0:=hV.c0
      have b1:=hV.c1
      have HV2:=hide hV
      have HB2:=hide hBW
      clear hV hBW hu hs1 hs2
      gi_wp2_with fail
      refine ⟨trivial,?_⟩
      first | refine ⟨(by intro e;cases e),?_⟩ | skip
      refine (CallsIn.inRound lq (callsIn_wide.2 (uH CSh _))).mono ?_
      rintro e w7 ⟨rfl,hb7⟩
      have V7:=(uH HV2).below hb7
      have HV7:=hide V7
      have k0:=V7.c0
      have k1:=V7.c1
      have k2:=V7.f 0
      have k3:=V7.f 1
      have HB7:=hide hb7
      clear V7 hb7 b0 b1
      gi_wp2
      refine ⟨((keeps_below (uH HB7)).trans ((KeepsOthers.setCell _ _ _).trans (KeepsOthers.setCell _ _ _))).from _,kpc_t (kpc_below (uH HB7)) (kpc_t (kpc_set _ _ _) (kpc_set _ _ _)),?_,?_⟩
      ·unfold PartAt
       rw [uH HST]
       exact (uH HV7).set s1 s2
      ·exact yC (yC (yB (uH HB2) (uH HB7)) _ _ _ (yJ _)) _ _ _ (yJ _)
     case done2=>
      rintro D2 ys2 W6 hD2 hyy2 ⟨hV,hBW⟩ hK2
      have hfin:partS (a,b) ((ys2.map Prod.snd).reverse)=(x,y):=by rw [uH hyy2,List.reverse_reverse,uH HFX,hys2]
      unfold PartAt at hV
      rw [hfin] at hV
      simp only at hV
      have V8:=((uH V83).below (uH HB)).below hBW
      have hn8:w.heap.size+1+1<W.heap.size:=((uH V83).below (uH HB)).lt
      have hw6:W.heap.size≤W6.heap.size:=hBW.size
      have b0:=hV.c0
      have b1:=hV.c1
      have k0:=V8.c0
      have k1:=V8.c1
      have k2:=V8.f 0
      have k3:=V8.f 1
      have hKD:W6.heap[D]? = some (.deferred (some [])):=(hBW.block D hDW).trans hK
      have HV8:=hide V8
      have HBW:=hide hBW
      have HKD:=hide hKD
      have HK2:=hide hK2
      clear hV V8 hBW hKD hK hK2
      gi_wp2
      have e2:=(KeepsOthers.setCell _ ⟨w.heap.size+1+1,1,none⟩ (.int .i64 y)).same D2 _ ((KeepsOthers.setCell W6 ⟨w.heap.size+1+1,0,none⟩ (.int .i64 x)).same D2 _ (uH HK2) rfl) rfl
      have e1:=(KeepsOthers.setCell _ ⟨w.heap.size+1+1,1,none⟩ (.int .i64 y)).same D _ ((KeepsOthers.setCell W6 ⟨w.heap.size+1+1,0,none⟩ (.int .i64 x)).same D _ (uH HKD) rfl) rfl
      have hne:D≠D2:=by omega
      refine ⟨by simp,.inl ⟨_,_,rfl,run_takeDeferred e2,?_⟩⟩
      have e3:=(World.putObj_heap_other (o:=.deferred none) (w:=(W6.setCell ⟨w.heap.size+1+1,0,none⟩ (.int .i64 x)).setCell ⟨w.heap.size+1+1,1,none⟩ (.int .i64 y)) hne).trans e1
      refine ⟨by simp,.inl ⟨_,_,rfl,run_takeDeferred e3,?_⟩⟩
      have hn3:w.heap.size+1+1<w3.heap.size:=(uH V83).lt
      have VF:=(((uH HV8).set x y).same (World.putObj_heap_other (o:=.deferred none) (w:=(W6.setCell ⟨w.heap.size+1+1,0,none⟩ (.int .i64 x)).setCell ⟨w.heap.size+1+1,1,none⟩ (.int .i64 y)) (show w.heap.size+1+1≠D2 by omega))).same (World.putObj_heap_other (o:=.deferred none) (show w.heap.size+1+1≠D by omega))
      have r0:=VF.c0
      have r1:=VF.c1
      refine ⟨rv x y,(by simp [results,Tryz.results130,go_sem,r0,r1]),rfl,?_⟩
      have hs6:w3.heap.size≤W.heap.size:=(uH HB).size
      exact ((yC (yC (yB (yB (uH HB3) (uH HB)) (uH HBW)) _ _ _ (by omega)) _ _ _ (by omega)).trans (belowK_b (w:=w) (yJ _) _ D2 _ _ (by omega) e2 rfl rfl)).trans (belowK_b (w:=w) (yJ _) _ D _ _ (by omega) e3 rfl rfl)
     case stop2=>
      rintro D2 c2 pre2 W6 _ _ h _
      exact h.elim
    case stop=>
     rintro D c pre W hD hpre ⟨⟨rfl,ini,last,rfl,hini,hlast,v,hv,hrow,_⟩,hB⟩ hK
     have hys2:stepsOf most (ups l nm)=ini.map (fun q=>fieldOf most q.1):=by
      rw [steps_cut (ini:=ini.map Subtype.val) (last:=last.1) (by intro z hz;obtain ⟨q,hq,rfl⟩:=List.mem_map.1 hz;exact hini q hq) hlast (by simpa using hpre)]
      simp
     have hyl:ini.length≤1048576:=by
      have e:=hpre.length_le
      have:=ups_len (l.length+1) l nm
      rw [show upsFrom (l.length+1) l nm=ups l nm from rfl] at this
      have:=uH HL
      simp at e
      omega
     have HV:=hide hv
     have HRW:=hide hrow
     have HB:=hide hB
     have hc9:=hv.cell
     have a0:=((uH V63).below hB).c0
     have a1:=((uH V63).below hB).c1
     have hc9b:=(hv.alloc (.cells #[.int .i64 a,.int .i64 b] 52)).cell
     have hone:=own_one hrow
     have hlt9:=hv.lt
     have hDW:D<W.heap.size:=lt_of_block hK
     clear hv hrow hB
     gi_wp2_with fail
     refine ⟨trivial,?_⟩
     first | refine ⟨(by intro e;cases e),?_⟩ | skip
     refine (callsIn_wide.2 (back_any v _ hone)).mono ?_
     rintro e w6 ⟨rfl,rfl⟩
     clear a0 a1 hc9 hc9b
     gi_wp2
     have VP:=((var_new W 52 a b).al (.cells #[v] 29))
     have VB:Go.Boxed ((W.alloc (.cells #[.int .i64 a,.int .i64 b] 52)).alloc (.cells #[v] 29)) (W.heap.size+1) 29 v:=by have:=Go.Boxed.new (W.alloc (.cells #[.int .i64 a,.int .i64 b] 52)) 29 v;rwa [World.size_alloc] at this
     have hBW5:=yA (yA (yH _ W) (.cells #[.int .i64 a,.int .i64 b] 52)) (.cells #[v] 29)
     have hR5:=row_below (uH HRW) hBW5
     have hs5:((W.alloc (.cells #[.int .i64 a,.int .i64 b] 52)).alloc (.cells #[v] 29)).heap.size=W.heap.size+2:=by simp
     obtain ⟨W5,hW5⟩:∃W5,(W.alloc (.cells #[.int .i64 a,.int .i64 b] 52)).alloc (.cells #[v] 29)=W5:=⟨_,rfl⟩
     rw [hW5] at VP VB hBW5 hR5 hs5 ⊢
     clear hW5
     refine wpIn_rangeFunc_ownG rfl (by omega) (gf:=196) (lb:=#[.pointer (some ⟨W.heap.size+1,0,none⟩)]) rfl trivial (enters_of Tryz.func196 (by kernel_rfl) rfl)
      (back_stops (3 - 1) (W.heap.size+1) W.heap.size w3.heap.size v (ini.map (fun q=>fieldOf most q.1)) W5 VB (by simpa using hR5) (by omega) (owner_ne (uH HRW)) (by simp;omega)) kpc_t kpc_b (yH _ _) (fun _=>rfl)
      (fun pre W'=>PartAt W' W.heap.size a b ((pre.map Prod.snd).reverse)∧Below W.heap.size W W')
      (fun _ _ _=>False)
      (OwnFrom.and (Own.from (partAt_own W.heap.size a b (fun pre:List (Int×Int)=>(pre.map Prod.snd).reverse)) _) (ownFrom_below (yJ _) (by omega)))
      (fun _ _ _ _ _ hs _ _=>hs)
      ⟨VP,hBW5⟩
      (fun x=>{ tmps:=#[.slice ao len cap,.string (bs nm),rv a b,.func (.func gp) #[] #[],undef,undef,.pointer (some ⟨w.heap.size,0,none⟩),.pointer (some ⟨w.heap.size+1,0,none⟩),.pointer (some ⟨w.heap.size+1+1,0,none⟩),.pointer (some ⟨w3.heap.size,0,none⟩),undef,.pointer (some ⟨W.heap.size,0,none⟩),undef,.int .i64 x.2,.slice ao len cap,.bool true,.bool false,.bool false,.slice ao len cap,.string (bs nm),.int .i64 p,.bool (decide (p<0)),.bool (decide (p<0)),.bool (decide (p<0)),.agg #[.int .i64 a,.int .i64 b],.bool true,.bool false,.bool (decide (p<0)),undef,.slice ao len cap,.string (bs nm),.func (.func 195) #[] #[.pointer (some ⟨w3.heap.size+1,0,none⟩),.pointer (some ⟨w3.heap.size+1+1,0,none⟩)],undef,undef,undef,undef,undef,undef,undef,undef,undef,undef,.agg #[.int .i64 a,.int .i64 b],v,.func (.func 196) #[] #[.pointer (some ⟨W.heap.size+1,0,none⟩)],.int .i64 x.1,.int .i64 x.2,undef,undef,undef,undef],defers:=[] })
      ?assign2 ?body2 ?done2 ?stop2
     case assign2=>
      intro lq x W' K hK'
      gi_wp2
      exact hK'
     case body2=>
      rintro lq pre2 x W' ⟨hV,hBW⟩ hlt2
      have HST:=hide (show partS (a,b) (((pre2++[x]).map Prod.snd).reverse)=(shareM (partS (a,b) ((pre2.map Prod.snd).reverse)).1 (partS (a,b) ((pre2.map Prod.snd).reverse)).2 x.2,shareC (partS (a,b) ((pre2.map Prod.snd).reverse)).1 (partS (a,b) ((pre2.map Prod.snd).reverse)).2 x.2) by simp [partS])
      obtain ⟨⟨u1,u2⟩,hu⟩:∃u,partS (a,b) ((pre2.map Prod.snd).reverse)=u:=⟨_,rfl⟩
      unfold PartAt at hV
      rw [hu] at hV HST
      simp only at hV HST
      obtain ⟨s1,hs1⟩:∃s,shareM u1 u2 x.2=s:=⟨_,rfl⟩
      obtain ⟨s2,hs2⟩:∃s,shareC u1 u2 x.2=s:=⟨_,rfl⟩
      rw [hs1,hs2] at HST
      have CSh:=hide (fun wx=>by have:=implShare_any u1 u2 x.2 wx;rw [hs1,hs2] at this;exact this)
      have b0:=hV.c0
      have b1:=hV.c1
      have HV2:=hide hV
      have HB2:=hide hBW
      clear hV hBW hu hs1 hs2
      gi_wp2_with fail
      refine ⟨trivial,?_⟩
      first | refine ⟨(by intro e;cases e),?_⟩ | skip
      refine (CallsIn.inRound lq (callsIn_wide.2 (uH CSh _))).mono ?_
      rintro e w7 ⟨rfl,hb7⟩
      have V7:=(uH HV2).below hb7
      have HV7:=hide V7
      have k0:=V7.c0
      have k1:=V7.c1
      have k2:=V7.f 0
      have k3:=V7.f 1
      have HB7:=hide hb7
      clear V7 hb7 b0 b1
      gi_wp2
      refine ⟨((keeps_below (uH HB7)).trans ((KeepsOthers.setCell _ _ _).trans (KeepsOthers.setCell _ _ _))).from _,kpc_t (kpc_below (uH HB7)) (kpc_t (kpc_set _ _ _) (kpc_set _ _ _)),?_,?_⟩
      ·unfold PartAt
       rw [uH HST]
       exact (uH HV7).set s1 s2
      ·exact yC (yC (yB (uH HB2) (uH HB7)) _ _ _ (yJ _)) _ _ _ (yJ _)
     case done2=>
      rintro D2 ys2 W6 hD2 hyy2 ⟨hV,hBW⟩ hK2
      have hfin:partS (a,b) ((ys2.map Prod.snd).reverse)=(x,y):=by rw [uH hyy2,List.reverse_reverse,uH HFX,hys2]
      unfold PartAt at hV
      rw [hfin] at hV
      simp only at hV
      have V8:=((uH V83).below (uH HB)).below hBW
      have hn8:w.heap.size+1+1<W.heap.size:=((uH V83).below (uH HB)).lt
      have hw6:W.heap.size≤W6.heap.size:=hBW.size
      have b0:=hV.c0
      have b1:=hV.c1
      have k0:=V8.c0
      have k1:=V8.c1
      have k2:=V8.f 0
      have k3:=V8.f 1
      have hKD:W6.heap[D]? = some (.deferred (some [])):=(hBW.block D hDW).trans hK
      have HV8:=hide V8
      have HBW:=hide hBW
      have HKD:=hide hKD
      have HK2:=hide hK2
      clear hV V8 hBW hKD hK hK2
      gi_wp2
      have e2:=(KeepsOthers.setCell _ ⟨w.heap.size+1+1,1,none⟩ (.int .i64 y)).same D2 _ ((KeepsOthers.setCell W6 ⟨w.heap.size+1+1,0,none⟩ (.int .i64 x)).same D2 _ (uH HK2) rfl) rfl
      have e1:=(KeepsOthers.setCell _ ⟨w.heap.size+1+1,1,none⟩ (.int .i64 y)).same D _ ((KeepsOthers.setCell W6 ⟨w.heap.size+1+1,0,none⟩ (.int .i64 x)).same D _ (uH HKD) rfl) rfl
      have hne:D≠D2:=by omega
      refine ⟨by simp,.inl ⟨_,_,rfl,run_takeDeferred e2,?_⟩⟩
      have e3:=(World.putObj_heap_other (o:=.deferred none) (w:=(W6.setCell ⟨w.heap.size+1+1,0,none⟩ (.int .i64 x)).setCell ⟨w.heap.size+1+1,1,none⟩ (.int .i64 y)) hne).trans e1
      refine ⟨by simp,.inl ⟨_,_,rfl,run_takeDeferred e3,?_⟩⟩
      have hn3:w.heap.size+1+1<w3.heap.size:=(uH V83).lt
      have VF:=(((uH HV8).set x y).same (World.putObj_heap_other (o:=.deferred none) (w:=(W6.setCell ⟨w.heap.size+1+1,0,none⟩ (.int .i64 x)).setCell ⟨w.heap.size+1+1,1,none⟩ (.int .i64 y)) (show w.heap.size+1+1≠D2 by omega))).same (World.putObj_heap_other (o:=.deferred none) (show w.heap.size+1+1≠D by omega))
      have r0:=VF.c0
      have r1:=VF.c1
      refine ⟨rv x y,(by simp [results,Tryz.results130,go_sem,r0,r1]),rfl,?_⟩
      have hs6:w3.heap.size≤W.heap.size:=(uH HB).size
      exact ((yC (yC (yB (yB (uH HB3) (uH HB)) (uH HBW)) _ _ _ (by omega)) _ _ _ (by omega)).trans (belowK_b (w:=w) (yJ _) _ D2 _ _ (by omega) e2 rfl rfl)).trans (belowK_b (w:=w) (yJ _) _ D _ _ (by omega) e3 rfl rfl)
     case stop2=>
      rintro D2 c2 pre2 W6 _ _ h _
      exact h.elim
  ·have hz:(x,y)=((0:Int),(0:Int)):=uH HF2 (by omega)
   simp only [Prod.mk.injEq] at hz
   obtain ⟨rfl,rfl⟩:=hz
   have k0:=(uH V82).c0
   have k1:=(uH V82).c1
   have k2:=(uH V82).f 0
   have k3:=(uH V82).f 1
   have k4:=(uH V82).s0 (.int .i64 0)
   have k5:=(uH V82).s1 (.int .i64 0) (.int .i64 0)
   gi_wp2
   repeat (refine ⟨trivial,?_⟩;gi_wp2)
   refine ⟨rv 0 0,(by simp [results,Tryz.results130,go_sem,k4,k5]),rfl,?_⟩
   repeat (first | exact uH HB2 | refine yA ?_ _ | refine Below.drew ?_ | refine yC ?_ _ _ _ (by omega))
end
end Go.Proofs.YtokabeokclpljaaGreat
