/-
  Several texts of this claim in one, made short by program: PartI, OfQD, StdS, RatN, BlM.
-/
import Derived.Test.YtdhibeclkdepiaaGreatPackJ
set_option maxRecDepth 100000
set_option maxHeartbeats 16000000
set_option linter.unusedVariables false
set_option linter.unusedSimpArgs false
namespace Go.Proofs.YtdhibeclkdepiaaGreat
section
open Go.RowKit Go.Shelf
attribute [local go_sem] Oper.semAt_some
theorem Tryz.infoInt:(Tryz.prog.info? 3).map (fun i=>(i.zero,i.size,i.bytes))=some (some (.int .i64 0),1,8):=by kernel_rfl
theorem owner_ne {W:World} {base e size n:Nat} {v:Value} {xs:List Value} (h:W.ownsRow base e size v n xs):some W.heap.size≠v.ownBlock:=by
 rcases h.2 with ⟨rfl,_⟩ | ⟨g,cap,cur,rfl,_,hgb,_⟩
 ·simp [Value.ownBlock]
 ·have:=lt_of_block hgb
  simp [Value.ownBlock];omega
theorem own_one {W:World} {base e size n:Nat} {v:Value} {xs:List Value} (h:W.ownsRow base e size v n xs):v.oneCell'=true:=by
 rcases h.2 with ⟨rfl,_⟩ | ⟨g,cap,cur,rfl,_⟩<;>rfl
def PartAt (W:World) (p:Nat) (a b:Int) (st:List Int):Prop:=Var W 36 p (partS (a,b) st).1 (partS (a,b) st).2
theorem partAt_own {β:Type} (p:Nat) (a b:Int) (f:β→List Int):Own (fun s W=>PartAt W p a b (f s)):=fun s X Y row hs hg hr=>
 (hg.block p (show Var X _ p _ _ from hs).lt (fun e=>by
  obtain ⟨o,ho,hc⟩:=hr p e.symm
  rw [show X.heap[p]? = _ from hs] at ho
  cases ho
  cases hc)).trans hs
theorem steps_all {most:Bool} {u:List Q} (h:∀q ∈ u,q.parent≠[]):stepsOf most u=u.map (fieldOf most):=by
 have e:=List.takeWhile_append_of_pos (p:=fun q:Q=>decide (q.parent≠[])) (l₁:=u) (l₂:=[]) (by intro q hq;simpa using h q hq)
 rw [List.append_nil] at e
 rw [stepsOf,e]
 simp
theorem steps_cut {most:Bool} {u ini:List Q} {last:Q} (h:∀q ∈ ini,q.parent≠[]) (hl:last.parent=[]) (hp:ini++[last] <+: u):stepsOf most u=ini.map (fieldOf most):=by
 obtain ⟨r,rfl⟩:=hp
 rw [stepsOf,List.append_assoc,List.takeWhile_append_of_pos (by intro q hq;simpa using h q hq)]
 simp [hl]
theorem partOf_any (gp:Nat) (eg:∀args w,(callFunc gp args).run Tryz.prog w=.ok (.enter gp args) w) (most:Bool) (hpt:∀(wx:World) (q:Q),Calls Tryz.prog gp #[qv q] wx fun e w'=>e=.returned (.int .i64 (fieldOf most q))∧Below wx.heap.size wx w')
  (ao:Option Addr) (len cap:Nat) (l:List Q) (nm:List UInt8) (a b:Int) (w:World) (h:QRow w ao len l) (hl:len≤1048576) (hn:∀q ∈ l,q.name.length≤1048576) (hc:len≤cap) :
  Calls Tryz.prog 195 #[.slice ao len cap,.string (bs nm),rv a b,.func (.func gp) #[] #[]] w fun e w'=>e=.returned (rv (ofR l nm a b most).1 (ofR l nm a b most).2)∧Below w.heap.size w w':=by
 obtain ⟨i0,hi,hz0,hz1,hz2⟩:=info_parts Tryz.infoInt
 have HR:=hide h
 have HL:=hide h.1
 have HPT:=hide hpt
 have hbA:=yA (yA (yA (Below.refl _ w) (.cells #[.int .i64 a,.int .i64 b] 36)) (.cells #[.func (.func gp) #[] #[]] 230)) (.cells #[.int .i64 0,.int .i64 0] 36)
 have HV6:=hide (((var_new w 36 a b).al (.cells #[.func (.func gp) #[] #[]] 230)).al (.cells #[.int .i64 0,.int .i64 0] 36))
 have HV7:=hide (show Go.Boxed _ (w.heap.size+1) _ _ by have:=(Go.Boxed.new (w.alloc (.cells #[.int .i64 a,.int .i64 b] 36)) 230 (.func (.func gp) #[] #[])).alloc (.cells #[.int .i64 0,.int .i64 0] 36);rwa [World.size_alloc] at this)
 have HV8:=hide (show Var _ 36 (w.heap.size+1+1) 0 0 by have:=var_new ((w.alloc (.cells #[.int .i64 a,.int .i64 b] 36)).alloc (.cells #[.func (.func gp) #[] #[]] 230)) 36 0 0;simpa using this)
 have CQ:=hide (implQueuesOk_any ao len cap l _ (h.below hbA) hl hn hc)
 have CP:=hide (fun wx (hb:Below w.heap.size w wx)=>place_any ao len cap l nm wx (h.below hb) hl)
 have CK:=hide (fun wx=>ok_bel a b wx)
 have HF1:=hide (fun ho:queuesOk l=false=>ofR_none1 ho nm a b most)
 have HF2:=hide (fun hp:place l nm<0=>ofR_none2 hp a b most)
 have HF3:=hide (fun hk:resOk a b=false=>ofR_none3 l nm hk most)
 have HF4:=hide (fun (ho:queuesOk l=true) (hp:0≤place l nm) (hk:resOk a b=true)=>ups_part ho nm a b most hp hk)
 obtain ⟨⟨x,y⟩,hxy⟩:∃p,ofR l nm a b most=p:=⟨_,rfl⟩
 obtain ⟨o,ho⟩:∃o,queuesOk l=o:=⟨_,rfl⟩
 obtain ⟨p,hp⟩:∃p,place l nm=p:=⟨_,rfl⟩
 obtain ⟨k,hk⟩:∃k,resOk a b=k:=⟨_,rfl⟩
 rw [hxy] at HF1 HF2 HF3 HF4 ⊢
 rw [ho] at CQ HF1 HF4
 rw [hp] at CP HF2 HF4
 rw [hk] at CK HF3 HF4
 have HBA:=hide hbA
 clear h hn hpt hbA hxy ho hp hk
 have hmx:Tryz.prog.follows .mixedOrders=true:=by kernel_rfl
 refine (callsIn_wide (n:=3)).1 ?_
 refine callsIn_of_wp_marks Tryz.func195 rfl trivial ?_ rfl
 simp only [Tryz.ntmps195,List.size_toArray,List.length_cons,List.length_nil,Nat.reduceAdd,Nat.reduceSub,Array.replicate_succ,Array.replicate_zero,List.push_toArray,List.append_toArray,List.nil_append,List.cons_append]
 gi_wp2_with fail
 refine ⟨trivial,?_⟩
 first | refine ⟨(by intro e;cases e),?_⟩ | skip
 refine (callsIn_wide.2 (uH CQ)).mono ?_
 rintro e w1 ⟨rfl,hb⟩
 have HB1:=hide (yB (uH HBA) hb)
 have V61:=hide ((uH HV6).below hb)
 have V71:=hide (boxed_below (uH HV7) hb)
 have V81:=hide ((uH HV8).below hb)
 clear hb CQ HBA HV6 HV7 HV8
 cases o with
 | false=>
  have hz:(x,y)=((0:Int),(0:Int)):=uH HF1 (by first | rfl | trivial)
  simp only [Prod.mk.injEq] at hz
  obtain ⟨rfl,rfl⟩:=hz
  have k0:=(uH V81).c0
  have k1:=(uH V81).c1
  have k2:=(uH V81).f 0
  have k3:=(uH V81).f 1
  have k4:=(uH V81).s0 (.int .i64 0)
  have k5:=(uH V81).s1 (.int .i64 0) (.int .i64 0)
  gi_wp2
  repeat (refine ⟨trivial,?_⟩;gi_wp2)
  refine ⟨rv 0 0,(by simp [results,Tryz.results195,go_sem,k4,k5]),rfl,?_⟩
  repeat (first | exact uH HB1 | refine yA ?_ _ | refine Below.drew ?_ | refine yC ?_ _ _ _ (by omega))
 | true=>
  gi_wp2_with fail
  refine ⟨trivial,?_⟩
  first | refine ⟨(by intro e;cases e),?_⟩ | skip
  refine (callsIn_wide.2 (uH CP _ (uH HB1))).mono ?_
  rintro e w2 ⟨rfl,hb⟩
  have HB2:=hide (yB (uH HB1) hb)
  have V62:=hide ((uH V61).below hb)
  have V72:=hide (boxed_below (uH V71) hb)
  have V82:=hide ((uH V81).below hb)
  clear hb CP HB1 V61 V71 V81
  by_cases hp0:0≤p
  ·have a0:=(uH V62).c0
   have a1:=(uH V62).c1
   gi_wp2_with fail
   refine ⟨trivial,?_⟩
   first | refine ⟨(by intro e;cases e),?_⟩ | skip
   refine (callsIn_wide.2 (uH CK _)).mono ?_
   rintro e w3 ⟨rfl,hb⟩
   have HB3:=hide (yB (uH HB2) hb)
   have V63:=hide ((uH V62).below hb)
   have V73:=hide (boxed_below (uH V72) hb)
   have V83:=hide ((uH V82).below hb)
   clear hb CK HB2 V62 V72 V82 a0 a1
   cases k with
   | false=>
    have hz:(x,y)=((0:Int),(0:Int)):=uH HF3 (by first | rfl | trivial)
    simp only [Prod.mk.injEq] at hz
    obtain ⟨rfl,rfl⟩:=hz
    have k0:=(uH V83).c0
    have k1:=(uH V83).c1
    have k2:=(uH V83).f 0
    have k3:=(uH V83).f 1
    have k4:=(uH V83).s0 (.int .i64 0)
    have k5:=(uH V83).s1 (.int .i64 0) (.int .i64 0)
    gi_wp2
    refine ⟨rv 0 0,(by simp [results,Tryz.results195,go_sem,k4,k5]),rfl,?_⟩
    repeat (first | exact uH HB3 | refine yA ?_ _ | refine Below.drew ?_ | refine yC ?_ _ _ _ (by omega))
   | true=>
    have HFX:=hide (show (x,y)=partS (a,b) (stepsOf most (ups l nm)) from uH HF4 (by first | rfl | trivial) hp0 (by first | rfl | trivial))
    clear HF1 HF2 HF3 HF4
    gi_wp2_with fail
    refine ⟨trivial,?_⟩
    first | refine ⟨(by intro e;cases e),?_⟩ | skip
    refine (callsIn_wide.2 (above_any ao len cap nm _)).mono ?_
    rintro e w4 ⟨rfl,rfl⟩
    have HBo:=hide (((Go.Boxed.new w3 246 (.slice none 0 0)).alloc (.cells #[.slice ao len cap] 29)).alloc (.cells #[.string (bs nm)] 9))
    have hBq:(((w3.alloc (.cells #[.slice none 0 0] 246)).alloc (.cells #[.slice ao len cap] 29)).alloc (.cells #[.string (bs nm)] 9)).cell? ⟨w3.heap.size+1,0,none⟩=some (.slice ao len cap):=by
     have:=((Go.Boxed.new (w3.alloc (.cells #[.slice none 0 0] 246)) 29 (.slice ao len cap)).alloc (.cells #[.string (bs nm)] 9)).cell
     simpa using this
    have hBn:(((w3.alloc (.cells #[.slice none 0 0] 246)).alloc (.cells #[.slice ao len cap] 29)).alloc (.cells #[.string (bs nm)] 9)).cell? ⟨w3.heap.size+1+1,0,none⟩=some (.string (bs nm)):=by
     have:=(Go.Boxed.new ((w3.alloc (.cells #[.slice none 0 0] 246)).alloc (.cells #[.slice ao len cap] 29)) 9 (.string (bs nm))).cell
     simpa using this
    have HB0:=hide (yA (yA (yA (Below.refl _ w3) (.cells #[.slice none 0 0] 246)) (.cells #[.slice ao len cap] 29)) (.cells #[.string (bs nm)] 9))
    have HC:=hide (above_stops (3 - 1) (w3.heap.size+1) (w3.heap.size+1+1) ao len cap l nm w3 _ ((uH HR).below (uH HB3)) (uH HB0) hl hc hBq hBn)
    clear hBq hBn
    gi_wp2
    have hsz:(((w3.alloc (.cells #[.slice none 0 0] 246)).alloc (.cells #[.slice ao len cap] 29)).alloc (.cells #[.string (bs nm)] 9)).heap.size=w3.heap.size+3:=by simp
    obtain ⟨W0,hW0⟩:∃W0,((w3.alloc (.cells #[.slice none 0 0] 246)).alloc (.cells #[.slice ao len cap] 29)).alloc (.cells #[.string (bs nm)] 9)=W0:=⟨_,rfl⟩
    rw [hW0] at hsz HBo HB0 HC ⊢
    have hw3:=(uH HB3).size
    clear hW0
    refine wpIn_rangeFunc_ownH rfl (by omega) (gf:=206) (lb:=#[.pointer (some ⟨w3.heap.size+1,0,none⟩),.pointer (some ⟨w3.heap.size+1+1,0,none⟩)]) rfl trivial (enters_of Tryz.func206 (by kernel_rfl) rfl)
     (uH HC) kpq_t (kpq_b (by omega)) (Below.refl _ _) (fun _=>rfl)
     (fun pre W=>(∃v,Go.Boxed W w3.heap.size 246 v∧W.ownsRow w3.heap.size 3 1 v pre.length (ints (pre.map (fun q=>fieldOf most q.1)))∧(∀q ∈ pre,q.1.parent≠[]))∧Below w3.heap.size w3 W)
     (fun c pre W=>(c=.exit 0∧∃ini last,pre=ini++[last]∧(∀q ∈ ini,q.1.parent≠[])∧last.1.parent=[]∧∃v,Go.Boxed W w3.heap.size 246 v∧W.ownsRow w3.heap.size 3 1 v ini.length (ints (ini.map (fun q=>fieldOf most q.1)))∧True)∧Below w3.heap.size w3 W)
     (OwnFrom.and (Own.from (holdsRow_own w3.heap.size w3.heap.size 246 3 1 (fun pre:List { q:Q // q ∈ l }=>pre.length) (fun pre:List { q:Q // q ∈ l }=>ints (pre.map (fun q=>fieldOf most q.1))) (fun pre _=>∀q ∈ pre,q.1.parent≠[])) _) (ownFrom_below (Nat.le_refl _) (by omega)))
     (fun c=>OwnFrom.and (Own.from (fun s X Y row hs hg hr=>by
      obtain ⟨hc,ini,last,e1,e2,e3,hx⟩:=hs
      exact ⟨hc,ini,last,e1,e2,e3,holdsRow_own w3.heap.size w3.heap.size 246 3 1 (fun pre:List { q:Q // q ∈ l }=>pre.length) (fun pre:List { q:Q // q ∈ l }=>ints (pre.map (fun q=>fieldOf most q.1))) (fun _ _=>True) ini X Y row hx hg hr⟩) _) (ownFrom_below (Nat.le_refl _) (by omega)))
     ⟨⟨_,uH HBo,World.ownsRow_nil _ _ _ _,by simp⟩,uH HB0⟩
     (fun x a' W=>∃Bx,w3.heap.size<Bx∧QBox W Bx x.1∧a' = { tmps:=#[.slice ao len cap,.string (bs nm),rv a b,.func (.func gp) #[] #[],undef,undef,.pointer (some ⟨w.heap.size,0,none⟩),.pointer (some ⟨w.heap.size+1,0,none⟩),.pointer (some ⟨w.heap.size+1+1,0,none⟩),.pointer (some ⟨w3.heap.size,0,none⟩),.pointer (some ⟨Bx,0,none⟩),undef,undef,undef,.slice ao len cap,.bool true,.bool false,.bool false,.slice ao len cap,.string (bs nm),.int .i64 p,.bool (decide (p<0)),.bool (decide (p<0)),.bool (decide (p<0)),.agg #[.int .i64 a,.int .i64 b],.bool true,.bool false,.bool (decide (p<0)),undef,.slice ao len cap,.string (bs nm),.func (.func 206) #[] #[.pointer (some ⟨w3.heap.size+1,0,none⟩),.pointer (some ⟨w3.heap.size+1+1,0,none⟩)],qv x.1,undef,undef,undef,undef,undef,undef,undef,undef,undef,undef,undef,undef,undef,undef,undef,undef,undef,undef],defers:=[] })
     (fun x a' _ X Y row hs hg hr=>by
      obtain ⟨Bx,h1,h2,h3⟩:=hs
      refine ⟨Bx,h1,(hg.block Bx h2.lt (fun e=>?_)).trans h2,h3⟩
      obtain ⟨_,o,ho,hc⟩:=hr Bx e.symm
      rw [show X.heap[Bx]? = _ from h2] at ho
      cases ho
      cases hc)
     ?assign ?body ?done ?stop
    case assign=>
     rintro lp pre x W K ⟨⟨v,hv,hrow,hpar⟩,hB⟩ hK
     gi_wp2
     exact hK _ _ ((KeepsOthers.alloc _ _).from _) (kpq_of hB.size (yA (Below.refl _ W) _)) ⟨⟨v,hv.alloc _,hrow.alloc _,hpar⟩,yA hB _⟩ ⟨W.heap.size,hv.lt,QBox.new W x.1,rfl⟩
    case body=>
     rintro lp pre ⟨q,hq⟩ a' W hlp _ ⟨⟨v,hv,hrow,hpar⟩,hB⟩ ⟨Bx,hBx,hX,rfl⟩ hlt
     simp only at hX
     have hx0:=hX.c0
     have hx1:=hX.c1
     have hx2:=hX.c2
     have hx3:=hX.c3
     have hc0:=hv.cell
     have hf7:=(boxed_below (uH V73) hB).cell
     have hpl:pre.length≤1048576:=by have:=uH HL;omega
     have hbe:=bs_empty q.parent
     have HV:=hide hv
     have HX:=hide hX
     have HRW:=hide hrow
     have HB:=hide hB
     have HPAR:=hide hpar
     clear hv hX hrow hB hpar
     by_cases hz:q.parent=[]
     ·have HZ:=hide hz
      rw [decide_eq_true hz] at hbe
      clear hz
      gi_wp2
      exact ⟨KeepsFrom.refl _ _,⟨rfl,pre,⟨q,hq⟩,rfl,uH HPAR,uH HZ,v,uH HV,uH HRW,trivial⟩,uH HB⟩
     ·have HZ:=hide hz
      rw [decide_eq_false hz] at hbe
      clear hz
      gi_wp2_with fail
      gi_region_with_o (first | (first | refine ⟨trivial,?_⟩ | skip);gi_at_fn gp;refine (CallsIn.inRound lp (callsIn_wide.2 (uH HPT _ q))).mono ?_;rintro e wc ⟨rfl,hbc⟩;have HW3:=hide (yB (Below.refl _ W).drew hbc);have hc3:=(boxed_below (uH HV) (uH HW3)).cell;have hc3b:=((boxed_below (uH HV) (uH HW3)).alloc (.cells #[.int .i64 (fieldOf most q)] 3)).cell;obtain ⟨g,cp,w4,hrun,hc4,hf4,HFIN⟩:=gather_step 246 3 (.int .i64 0) 8 i0 Tryz.underlying246 hi hz0 hz1 hz2 rfl (by decide) (by decide) (by omega) (boxed_below (uH HV) (uH HW3)) (row_below (uH HRW) (uH HW3)) hpl (Nat.le_trans (uH HB).size (uH HW3).size) (Nat.le_refl _) (.int .i64 (fieldOf most q)) rfl;clear hbc;simp [go_sem] at hrun)
      all_goals gi_wp2
      all_goals
       obtain ⟨f1,f2,f3,f4,f5⟩:=uH HFIN
       exact ⟨((keeps_below (uH HW3)).trans f3).from _,⟨((uH HW3).mono (uH HB).size).trans f4,fun k q hq=>f5 k q (hq.below (uH HW3))⟩,⟨⟨_,f1,by simpa using f2,by intro z hz;rcases List.mem_append.1 hz with hz | hz;exact uH HPAR z hz;(have:z=⟨q,hq⟩:=by simpa using hz);rw [this];exact uH HZ⟩,((uH HB).trans ((uH HW3).mono (uH HB).size)).trans f4⟩⟩
    case done=>
     rintro D ys W hD hys ⟨⟨v,hv,hrow,hpar⟩,hB⟩ hK
     have hys2:stepsOf most (ups l nm)=ys.map (fun q=>fieldOf most q.1):=by
      rw [←hys,steps_all (by intro z hz;obtain ⟨q,hq,rfl⟩:=List.mem_map.1 hz;exact hpar q hq)]
      simp
     have hyl:ys.length≤1048576:=by
      have e:=congrArg List.length hys
      have h2:(ups l nm).length≤l.length:=ups_len (l.length+1) l nm
      have h3:=uH HL
      rw [List.length_map] at e
      omega
     have HV:=hide hv
     have HRW:=hide hrow
     have HB:=hide hB
     have hc9:=hv.cell
     have a0:=((uH V63).below hB).c0
     have a1:=((uH V63).below hB).c1
     have hc9b:=(hv.alloc (.cells #[.int .i64 a,.int .i64 b] 36)).cell
     have hone:=own_one hrow
     have hlt9:=hv.lt
     have hDW:D<W.heap.size:=lt_of_block hK
     clear hv hrow hB
     gi_wp2_with fail
     refine ⟨trivial,?_⟩
     first | refine ⟨(by intro e;cases e),?_⟩ | skip
     refine (callsIn_wide.2 (back_any v _ hone)).mono ?_
     rintro e w6 ⟨rfl,rfl⟩
     clear a0 a1 hc9 hc9b
     gi_wp2
     have VP:=((var_new W 36 a b).al (.cells #[v] 246))
     have VB:Go.Boxed ((W.alloc (.cells #[.int .i64 a,.int .i64 b] 36)).alloc (.cells #[v] 246)) (W.heap.size+1) 246 v:=by have:=Go.Boxed.new (W.alloc (.cells #[.int .i64 a,.int .i64 b] 36)) 246 v;rwa [World.size_alloc] at this
     have hBW5:=yA (yA (Below.refl _ W) (.cells #[.int .i64 a,.int .i64 b] 36)) (.cells #[v] 246)
     have hR5:=row_below (uH HRW) hBW5
     have hs5:((W.alloc (.cells #[.int .i64 a,.int .i64 b] 36)).alloc (.cells #[v] 246)).heap.size=W.heap.size+2:=by simp
     obtain ⟨W5,hW5⟩:∃W5,(W.alloc (.cells #[.int .i64 a,.int .i64 b] 36)).alloc (.cells #[v] 246)=W5:=⟨_,rfl⟩
     rw [hW5] at VP VB hBW5 hR5 hs5 ⊢
     clear hW5
     refine wpIn_rangeFunc_ownG rfl (by omega) (gf:=211) (lb:=#[.pointer (some ⟨W.heap.size+1,0,none⟩)]) rfl trivial (enters_of Tryz.func211 (by kernel_rfl) rfl)
      (back_stops (3 - 1) (W.heap.size+1) W.heap.size w3.heap.size v (ys.map (fun q=>fieldOf most q.1)) W5 VB (by simpa using hR5) (by omega) (owner_ne (uH HRW)) (by simp;omega)) kpc_t kpc_b (Below.refl _ _) (fun _=>rfl)
      (fun pre W'=>PartAt W' W.heap.size a b ((pre.map Prod.snd).reverse)∧Below W.heap.size W W')
      (fun _ _ _=>False)
      (OwnFrom.and (Own.from (partAt_own W.heap.size a b (fun pre:List (Int×Int)=>(pre.map Prod.snd).reverse)) _) (ownFrom_below (Nat.le_refl _) (by omega)))
      (fun _ _ _ _ _ hs _ _=>hs)
      ⟨VP,hBW5⟩
      (fun x=>{ tmps:=#[.slice ao len cap,.string (bs nm),rv a b,.func (.func gp) #[] #[],undef,undef,.pointer (some ⟨w.heap.size,0,none⟩),.pointer (some ⟨w.heap.size+1,0,none⟩),.pointer (some ⟨w.heap.size+1+1,0,none⟩),.pointer (some ⟨w3.heap.size,0,none⟩),undef,.pointer (some ⟨W.heap.size,0,none⟩),undef,.int .i64 x.2,.slice ao len cap,.bool true,.bool false,.bool false,.slice ao len cap,.string (bs nm),.int .i64 p,.bool (decide (p<0)),.bool (decide (p<0)),.bool (decide (p<0)),.agg #[.int .i64 a,.int .i64 b],.bool true,.bool false,.bool (decide (p<0)),undef,.slice ao len cap,.string (bs nm),.func (.func 206) #[] #[.pointer (some ⟨w3.heap.size+1,0,none⟩),.pointer (some ⟨w3.heap.size+1+1,0,none⟩)],undef,undef,undef,undef,undef,undef,undef,undef,undef,undef,.agg #[.int .i64 a,.int .i64 b],v,.func (.func 211) #[] #[.pointer (some ⟨W.heap.size+1,0,none⟩)],.int .i64 x.1,.int .i64 x.2,undef,undef,undef,undef],defers:=[] })
      ?assign2 ?body2 ?done2 ?stop2
     case assign2=>
      intro lq x W' K hK'
      gi_wp2
      exact hK'
     case body2=>
      rintro lq pre2 x W' ⟨hV,hBW⟩ hlt2
      have HST:=hide (show partS (a,b) (((pre2++[x]).map Prod.snd).reverse)=(shareM (partS (a,b) ((pre2.map Prod.snd).reverse)).1 (partS (a,b) ((pre2.map Prod.snd).reverse)).2 x.2,shareC (partS (a,b) ((pre2.map Prod.snd).reverse)).1 (partS (a,b) ((pre2.map Prod.snd).reverse)).2 x.2) by simp [partS])
      obtain ⟨⟨u1,u2⟩,hu⟩:∃u,partS (a,b) ((pre2.map Prod.snd).reverse)=u:=⟨_,rfl⟩
      unfold PartAt at hV
      rw [hu] at hV HST
      simp only at hV HST
      obtain ⟨s1,hs1⟩:∃s,shareM u1 u2 x.2=s:=⟨_,rfl⟩
      obtain ⟨s2,hs2⟩:∃s,shareC u1 u2 x.2=s:=⟨_,rfl⟩
      rw [hs1,hs2] at HST
      have CSh:=hide (fun wx=>by have:=implShare_any u1 u2 x.2 wx;rw [hs1,hs2] at this;exact this)
      have b0:=hV.c0
      have b1:=hV.c1
      have HV2:=hide hV
      have HB2:=hide hBW
      clear hV hBW hu hs1 hs2
      gi_wp2_with fail
      refine ⟨trivial,?_⟩
      first | refine ⟨(by intro e;cases e),?_⟩ | skip
      refine (CallsIn.inRound lq (callsIn_wide.2 (uH CSh _))).mono ?_
      rintro e w7 ⟨rfl,hb7⟩
      have V7:=(uH HV2).below hb7
      have HV7:=hide V7
      have k0:=V7.c0
      have k1:=V7.c1
      have k2:=V7.f 0
      have k3:=V7.f 1
      have HB7:=hide hb7
      clear V7 hb7 b0 b1
      gi_wp2
      refine ⟨((keeps_below (uH HB7)).trans ((KeepsOthers.setCell _ _ _).trans (KeepsOthers.setCell _ _ _))).from _,kpc_t (kpc_below (uH HB7)) (kpc_t (kpc_set _ _ _) (kpc_set _ _ _)),?_,?_⟩
      ·unfold PartAt
       rw [uH HST]
       exact (uH HV7).set s1 s2
      ·exact yC (yC (yB (uH HB2) (uH HB7)) _ _ _ (Nat.le_refl _)) _ _ _ (Nat.le_refl _)
     case done2=>
      rintro D2 ys2 W6 hD2 hyy2 ⟨hV,hBW⟩ hK2
      have hfin:partS (a,b) ((ys2.map Prod.snd).reverse)=(x,y):=by rw [uH hyy2,List.reverse_reverse,uH HFX,hys2]
      unfold PartAt at hV
      rw [hfin] at hV
      simp only at hV
      have V8:=((uH V83).below (uH HB)).below hBW
      have hn8:w.heap.size+1+1<W.heap.size:=((uH V83).below (uH HB)).lt
      have hw6:W.heap.size≤W6.heap.size:=hBW.size
      have b0:=hV.c0
      have b1:=hV.c1
      have k0:=V8.c0
      have k1:=V8.c1
      have k2:=V8.f 0
      have k3:=V8.f 1
      have hKD:W6.heap[D]? = some (.deferred (some [])):=(hBW.block D hDW).trans hK
      have HV8:=hide V8
      have HBW:=hide hBW
      have HKD:=hide hKD
      have HK2:=hide hK2
      clear hV V8 hBW hKD hK hK2
      gi_wp2
      have e2:=(KeepsOthers.setCell _ ⟨w.heap.size+1+1,1,none⟩ (.int .i64 y)).same D2 _ ((KeepsOthers.setCell W6 ⟨w.heap.size+1+1,0,none⟩ (.int .i64 x)).same D2 _ (uH HK2) rfl) rfl
      have e1:=(KeepsOthers.setCell _ ⟨w.heap.size+1+1,1,none⟩ (.int .i64 y)).same D _ ((KeepsOthers.setCell W6 ⟨w.heap.size+1+1,0,none⟩ (.int .i64 x)).same D _ (uH HKD) rfl) rfl
      have hne:D≠D2:=by omega
      refine ⟨by simp,.inl ⟨_,_,rfl,run_takeDeferred e2,?_⟩⟩
      have e3:=(World.putObj_heap_other (o:=.deferred none) (w:=(W6.setCell ⟨w.heap.size+1+1,0,none⟩ (.int .i64 x)).setCell ⟨w.heap.size+1+1,1,none⟩ (.int .i64 y)) hne).trans e1
      refine ⟨by simp,.inl ⟨_,_,rfl,run_takeDeferred e3,?_⟩⟩
      have hn3:w.heap.size+1+1<w3.heap.size:=(uH V83).lt
      have VF:=(((uH HV8).set x y).same (World.putObj_heap_other (o:=.deferred none) (w:=(W6.setCell ⟨w.heap.size+1+1,0,none⟩ (.int .i64 x)).setCell ⟨w.heap.size+1+1,1,none⟩ (.int .i64 y)) (show w.heap.size+1+1≠D2 by omega))).same (World.putObj_heap_other (o:=.deferred none) (show w.heap.size+1+1≠D by omega))
      have r0:=VF.c0
      have r1:=VF.c1
      refine ⟨rv x y,(by simp [results,Tryz.results195,go_sem,r0,r1]),rfl,?_⟩
      have hs6:w3.heap.size≤W.heap.size:=(uH HB).size
      exact ((yC (yC (yB (yB (uH HB3) (uH HB)) (uH HBW)) _ _ _ (by omega)) _ _ _ (by omega)).trans (belowK_b (w:=w) (Nat.le_refl _) _ D2 _ _ (by omega) e2 rfl rfl)).trans (belowK_b (w:=w) (Nat.le_refl _) _ D _ _ (by omega) e3 rfl rfl)
     case stop2=>
      rintro D2 c2 pre2 W6 _ _ h _
      exact h.elim
    case stop=>
     rintro D c pre W hD hpre ⟨⟨rfl,ini,last,rfl,hini,hlast,v,hv,hrow,_⟩,hB⟩ hK
     have hys2:stepsOf most (ups l nm)=ini.map (fun q=>fieldOf most q.1):=by
      rw [steps_cut (ini:=ini.map Subtype.val) (last:=last.1) (by intro z hz;obtain ⟨q,hq,rfl⟩:=List.mem_map.1 hz;exact hini q hq) hlast (by simpa using hpre)]
      simp
     have hyl:ini.length≤1048576:=by
      have e:=hpre.length_le
      have:=ups_len (l.length+1) l nm
      rw [show upsFrom (l.length+1) l nm=ups l nm from rfl] at this
      have:=uH HL
      simp at e
      omega
     have HV:=hide hv
     have HRW:=hide hrow
     have HB:=hide hB
     have hc9:=hv.cell
     have a0:=((uH V63).below hB).c0
     have a1:=((uH V63).below hB).c1
     have hc9b:=(hv.alloc (.cells #[.int .i64 a,.int .i64 b] 36)).cell
     have hone:=own_one hrow
     have hlt9:=hv.lt
     have hDW:D<W.heap.size:=lt_of_block hK
     clear hv hrow hB
     gi_wp2_with fail
     refine ⟨trivial,?_⟩
     first | refine ⟨(by intro e;cases e),?_⟩ | skip
     refine (callsIn_wide.2 (back_any v _ hone)).mono ?_
     rintro e w6 ⟨rfl,rfl⟩
     clear a0 a1 hc9 hc9b
     gi_wp2
     have VP:=((var_new W 36 a b).al (.cells #[v] 246))
     have VB:Go.Boxed ((W.alloc (.cells #[.int .i64 a,.int .i64 b] 36)).alloc (.cells #[v] 246)) (W.heap.size+1) 246 v:=by have:=Go.Boxed.new (W.alloc (.cells #[.int .i64 a,.int .i64 b] 36)) 246 v;rwa [World.size_alloc] at this
     have hBW5:=yA (yA (Below.refl _ W) (.cells #[.int .i64 a,.int .i64 b] 36)) (.cells #[v] 246)
     have hR5:=row_below (uH HRW) hBW5
     have hs5:((W.alloc (.cells #[.int .i64 a,.int .i64 b] 36)).alloc (.cells #[v] 246)).heap.size=W.heap.size+2:=by simp
     obtain ⟨W5,hW5⟩:∃W5,(W.alloc (.cells #[.int .i64 a,.int .i64 b] 36)).alloc (.cells #[v] 246)=W5:=⟨_,rfl⟩
     rw [hW5] at VP VB hBW5 hR5 hs5 ⊢
     clear hW5
     refine wpIn_rangeFunc_ownG rfl (by omega) (gf:=211) (lb:=#[.pointer (some ⟨W.heap.size+1,0,none⟩)]) rfl trivial (enters_of Tryz.func211 (by kernel_rfl) rfl)
      (back_stops (3 - 1) (W.heap.size+1) W.heap.size w3.heap.size v (ini.map (fun q=>fieldOf most q.1)) W5 VB (by simpa using hR5) (by omega) (owner_ne (uH HRW)) (by simp;omega)) kpc_t kpc_b (Below.refl _ _) (fun _=>rfl)
      (fun pre W'=>PartAt W' W.heap.size a b ((pre.map Prod.snd).reverse)∧Below W.heap.size W W')
      (fun _ _ _=>False)
      (OwnFrom.and (Own.from (partAt_own W.heap.size a b (fun pre:List (Int×Int)=>(pre.map Prod.snd).reverse)) _) (ownFrom_below (Nat.le_refl _) (by omega)))
      (fun _ _ _ _ _ hs _ _=>hs)
      ⟨VP,hBW5⟩
      (fun x=>{ tmps:=#[.slice ao len cap,.string (bs nm),rv a b,.func (.func gp) #[] #[],undef,undef,.pointer (some ⟨w.heap.size,0,none⟩),.pointer (some ⟨w.heap.size+1,0,none⟩),.pointer (some ⟨w.heap.size+1+1,0,none⟩),.pointer (some ⟨w3.heap.size,0,none⟩),undef,.pointer (some ⟨W.heap.size,0,none⟩),undef,.int .i64 x.2,.slice ao len cap,.bool true,.bool false,.bool false,.slice ao len cap,.string (bs nm),.int .i64 p,.bool (decide (p<0)),.bool (decide (p<0)),.bool (decide (p<0)),.agg #[.int .i64 a,.int .i64 b],.bool true,.bool false,.bool (decide (p<0)),undef,.slice ao len cap,.string (bs nm),.func (.func 206) #[] #[.pointer (some ⟨w3.heap.size+1,0,none⟩),.pointer (some ⟨w3.heap.size+1+1,0,none⟩)],undef,undef,undef,undef,undef,undef,undef,undef,undef,undef,.agg #[.int .i64 a,.int .i64 b],v,.func (.func 211) #[] #[.pointer (some ⟨W.heap.size+1,0,none⟩)],.int .i64 x.1,.int .i64 x.2,undef,undef,undef,undef],defers:=[] })
      ?assign2 ?body2 ?done2 ?stop2
     case assign2=>
      intro lq x W' K hK'
      gi_wp2
      exact hK'
     case body2=>
      rintro lq pre2 x W' ⟨hV,hBW⟩ hlt2
      have HST:=hide (show partS (a,b) (((pre2++[x]).map Prod.snd).reverse)=(shareM (partS (a,b) ((pre2.map Prod.snd).reverse)).1 (partS (a,b) ((pre2.map Prod.snd).reverse)).2 x.2,shareC (partS (a,b) ((pre2.map Prod.snd).reverse)).1 (partS (a,b) ((pre2.map Prod.snd).reverse)).2 x.2) by simp [partS])
      obtain ⟨⟨u1,u2⟩,hu⟩:∃u,partS (a,b) ((pre2.map Prod.snd).reverse)=u:=⟨_,rfl⟩
      unfold PartAt at hV
      rw [hu] at hV HST
      simp only at hV HST
      obtain ⟨s1,hs1⟩:∃s,shareM u1 u2 x.2=s:=⟨_,rfl⟩
      obtain ⟨s2,hs2⟩:∃s,shareC u1 u2 x.2=s:=⟨_,rfl⟩
      rw [hs1,hs2] at HST
      have CSh:=hide (fun wx=>by have:=implShare_any u1 u2 x.2 wx;rw [hs1,hs2] at this;exact this)
      have b0:=hV.c0
      have b1:=hV.c1
      have HV2:=hide hV
      have HB2:=hide hBW
      clear hV hBW hu hs1 hs2
      gi_wp2_with fail
      refine ⟨trivial,?_⟩
      first | refine ⟨(by intro e;cases e),?_⟩ | skip
      refine (CallsIn.inRound lq (callsIn_wide.2 (uH CSh _))).mono ?_
      rintro e w7 ⟨rfl,hb7⟩
      have V7:=(uH HV2).below hb7
      have HV7:=hide V7
      have k0:=V7.c0
      have k1:=V7.c1
      have k2:=V7.f 0
      have k3:=V7.f 1
      have HB7:=hide hb7
      clear V7 hb7 b0 b1
      gi_wp2
      refine ⟨((keeps_below (uH HB7)).trans ((KeepsOthers.setCell _ _ _).trans (KeepsOthers.setCell _ _ _))).from _,kpc_t (kpc_below (uH HB7)) (kpc_t (kpc_set _ _ _) (kpc_set _ _ _)),?_,?_⟩
      ·unfold PartAt
       rw [uH HST]
       exact (uH HV7).set s1 s2
      ·exact yC (yC (yB (uH HB2) (uH HB7)) _ _ _ (Nat.le_refl _)) _ _ _ (Nat.le_refl _)
     case done2=>
      rintro D2 ys2 W6 hD2 hyy2 ⟨hV,hBW⟩ hK2
      have hfin:partS (a,b) ((ys2.map Prod.snd).reverse)=(x,y):=by rw [uH hyy2,List.reverse_reverse,uH HFX,hys2]
      unfold PartAt at hV
      rw [hfin] at hV
      simp only at hV
      have V8:=((uH V83).below (uH HB)).below hBW
      have hn8:w.heap.size+1+1<W.heap.size:=((uH V83).below (uH HB)).lt
      have hw6:W.heap.size≤W6.heap.size:=hBW.size
      have b0:=hV.c0
      have b1:=hV.c1
      have k0:=V8.c0
      have k1:=V8.c1
      have k2:=V8.f 0
      have k3:=V8.f 1
      have hKD:W6.heap[D]? = some (.deferred (some [])):=(hBW.block D hDW).trans hK
      have HV8:=hide V8
      have HBW:=hide hBW
      have HKD:=hide hKD
      have HK2:=hide hK2
      clear hV V8 hBW hKD hK hK2
      gi_wp2
      have e2:=(KeepsOthers.setCell _ ⟨w.heap.size+1+1,1,none⟩ (.int .i64 y)).same D2 _ ((KeepsOthers.setCell W6 ⟨w.heap.size+1+1,0,none⟩ (.int .i64 x)).same D2 _ (uH HK2) rfl) rfl
      have e1:=(KeepsOthers.setCell _ ⟨w.heap.size+1+1,1,none⟩ (.int .i64 y)).same D _ ((KeepsOthers.setCell W6 ⟨w.heap.size+1+1,0,none⟩ (.int .i64 x)).same D _ (uH HKD) rfl) rfl
      have hne:D≠D2:=by omega
      refine ⟨by simp,.inl ⟨_,_,rfl,run_takeDeferred e2,?_⟩⟩
      have e3:=(World.putObj_heap_other (o:=.deferred none) (w:=(W6.setCell ⟨w.heap.size+1+1,0,none⟩ (.int .i64 x)).setCell ⟨w.heap.size+1+1,1,none⟩ (.int .i64 y)) hne).trans e1
      refine ⟨by simp,.inl ⟨_,_,rfl,run_takeDeferred e3,?_⟩⟩
      have hn3:w.heap.size+1+1<w3.heap.size:=(uH V83).lt
      have VF:=(((uH HV8).set x y).same (World.putObj_heap_other (o:=.deferred none) (w:=(W6.setCell ⟨w.heap.size+1+1,0,none⟩ (.int .i64 x)).setCell ⟨w.heap.size+1+1,1,none⟩ (.int .i64 y)) (show w.heap.size+1+1≠D2 by omega))).same (World.putObj_heap_other (o:=.deferred none) (show w.heap.size+1+1≠D by omega))
      have r0:=VF.c0
      have r1:=VF.c1
      refine ⟨rv x y,(by simp [results,Tryz.results195,go_sem,r0,r1]),rfl,?_⟩
      have hs6:w3.heap.size≤W.heap.size:=(uH HB).size
      exact ((yC (yC (yB (yB (uH HB3) (uH HB)) (uH HBW)) _ _ _ (by omega)) _ _ _ (by omega)).trans (belowK_b (w:=w) (Nat.le_refl _) _ D2 _ _ (by omega) e2 rfl rfl)).trans (belowK_b (w:=w) (Nat.le_refl _) _ D _ _ (by omega) e3 rfl rfl)
     case stop2=>
      rintro D2 c2 pre2 W6 _ _ h _
      exact h.elim
  ·have hz:(x,y)=((0:Int),(0:Int)):=uH HF2 (by omega)
   simp only [Prod.mk.injEq] at hz
   obtain ⟨rfl,rfl⟩:=hz
   have k0:=(uH V82).c0
   have k1:=(uH V82).c1
   have k2:=(uH V82).f 0
   have k3:=(uH V82).f 1
   have k4:=(uH V82).s0 (.int .i64 0)
   have k5:=(uH V82).s1 (.int .i64 0) (.int .i64 0)
   gi_wp2
   repeat (refine ⟨trivial,?_⟩;gi_wp2)
   refine ⟨rv 0 0,(by simp [results,Tryz.results195,go_sem,k4,k5]),rfl,?_⟩
   repeat (first | exact uH HB2 | refine yA ?_ _ | refine Below.drew ?_ | refine yC ?_ _ _ _ (by omega))
end
section
open Go.RowKit
theorem dueFn_any (w:World) (q:Q) :
  Calls Tryz.prog 204 #[qv q] w fun e w'=>e=.returned (.int .i64 (fieldOf false q))∧Below w.heap.size w w':=by
 go_enter Tryz.func204,Tryz.ntmps204
 go_wp2
 go_ret
 exact ⟨rfl,yA (Below.refl _ _) _⟩
theorem implDueOf_any (ao:Option Addr) (len cap:Nat) (l:List Q) (nm:List UInt8) (a b:Int) (w:World) (h:QRow w ao len l) (hl:len≤1048576) (hn:∀q ∈ l,q.name.length≤1048576) (hc:len≤cap) :
  Calls Tryz.prog 192 #[.slice ao len cap,.string (bs nm),rv a b] w fun e w'=>e=.returned (rv (ofR l nm a b false).1 (ofR l nm a b false).2)∧Below w.heap.size w w':=by
 have hmf:∀(fn:Fn) (first cap:Array Value) (w:World),(Instr.makeFunc fn first cap).run Tryz.prog w=.ok (.func fn first cap) w:=fun _ _ _ _=>rfl
 have HB0:=hide (yA (yA (Below.refl _ w) (.cells #[.int .i64 a,.int .i64 b] 36)) (.cells #[.int .i64 0,.int .i64 0] 36))
 have HV2:=hide (var_new2 w 36 36 a b 0 0)
 have C:=hide (partOf_any 204 (enters_of Tryz.func204 (by kernel_rfl) rfl) false (fun wx q=>dueFn_any wx q) ao len cap l nm a b _ (h.below (uH HB0)) hl hn hc)
 obtain ⟨⟨x,y⟩,hxy⟩:∃p,ofR l nm a b false=p:=⟨_,rfl⟩
 rw [hxy] at C ⊢
 clear hxy h hn
 go_enter Tryz.func192,Tryz.ntmps192
 go_wp2_with fail
 refine (uH C).mono ?_
 rintro e w1 ⟨rfl,hb⟩
 have V2:=(uH HV2).below hb
 have k0:=V2.c0
 have k1:=V2.c1
 have k2:=V2.f 0
 have k3:=V2.f 1
 have k4:=V2.s0 (.int .i64 x)
 have k5:=V2.s1 (.int .i64 x) (.int .i64 y)
 have HB:=hide (yB (uH HB0) hb)
 clear hb V2 HV2 HB0 C
 go_wp2
 refine bodyPost_ret (v:=rv x y) (by simp [results,Tryz.results192,go_sem,k4,k5]) rfl ⟨rfl,?_⟩
 repeat (first | exact uH HB | refine yA ?_ _ | refine Below.drew ?_ | refine yC ?_ _ _ _ (by omega))
end
section
open Go.RowKit Go.Maps
def stOf (s:St) (nm:List UInt8):SE:=(nm,(usedByV s nm).1,(usedByV s nm).2,(dueV s nm).1,(dueV s nm).2)
def SB (w:World) (c:Array Value) (wx:World):Prop:=Blk wx w.heap.size c 34∧Below w.heap.size w wx
theorem SB.call {w wx wy:World} {c:Array Value} (h:SB w c wx) (hb:Below wx.heap.size wx wy):SB w c wy:=⟨h.1.below hb,yB h.2 hb⟩
theorem standingOf_any (x:Sls) (s:St) (nm:List UInt8) (w:World) (h:SRow w x s) (hf:FitSt s) (hc:x.ql≤x.qc) (hw:WfSt s) :
  Calls Tryz.prog 170 #[sv x s,.string (bs nm)] w fun e w'=>e=.returned (stv (stOf s nm))∧Below w.heap.size w w':=by
 have hql:x.ql≤1048576:=h.ql hf
 have hml:x.ml≤1048576:=h.ml hf
 have CT:=hide (fun wx (hb:Below w.heap.size w wx)=>show Calls Tryz.prog 174 #[sv x s] wx (fun e w'=>e=.returned (rv (totalV s).1 (totalV s).2)∧Below wx.heap.size wx w') from implTotal_any x s wx (h.2.2.1.below hb) hml)
 have CD:=hide (fun wx (hb:Below w.heap.size w wx)=>show Calls Tryz.prog 192 #[.slice x.qa x.ql x.qc,.string (bs nm),rv (totalV s).1 (totalV s).2] wx (fun e w'=>e=.returned (rv (dueV s nm).1 (dueV s nm).2)∧Below wx.heap.size wx w') from implDueOf_any x.qa x.ql x.qc s.qs nm (totalV s).1 (totalV s).2 wx (h.1.below hb) hql (fun q hq=>(hf.1.2 q hq).1) hc)
 have CU:=hide (fun wx (hb:Below w.heap.size w wx)=>implUsedBy_any x s nm wx (h.below hb) hf hc hw)
 obtain ⟨⟨tx,ty⟩,ht⟩:∃t,totalV s=t:=⟨_,rfl⟩
 obtain ⟨⟨dx,dy⟩,hd⟩:∃t,dueV s nm=t:=⟨_,rfl⟩
 obtain ⟨⟨ux,uy⟩,hu⟩:∃t,usedByV s nm=t:=⟨_,rfl⟩
 have HO:stOf s nm=(nm,ux,uy,dx,dy):=by rw [stOf,hd,hu]
 rw [HO]
 rw [ht] at CT
 rw [ht,hd] at CD
 rw [hu] at CU
 clear h hf hc hw ht hd hu HO
 obtain ⟨qa,ql,qc,aa,al,ac,ma,ml,mc,ca,cl,cc⟩:=x
 obtain ⟨qs,clock,epoch,next,serial,apps,ms,cs⟩:=s
 simp only at CT CD CU hql hml
 have hb0:=(yA (yA (Below.refl _ w) (.cells (svc ⟨qa,ql,qc,aa,al,ac,ma,ml,mc,ca,cl,cc⟩ ⟨qs,clock,epoch,next,serial,apps,ms,cs⟩) 34)) (.cells #[.string ⟨#[]⟩,.int .i64 0,.int .i64 0,.int .i64 0,.int .i64 0] 209)).drew
 have SS0:=hide (show SB w (svc ⟨qa,ql,qc,aa,al,ac,ma,ml,mc,ca,cl,cc⟩ ⟨qs,clock,epoch,next,serial,apps,ms,cs⟩) _ from ⟨((yD w (svc ⟨qa,ql,qc,aa,al,ac,ma,ml,mc,ca,cl,cc⟩ ⟨qs,clock,epoch,next,serial,apps,ms,cs⟩) 34).al (.cells #[.string ⟨#[]⟩,.int .i64 0,.int .i64 0,.int .i64 0,.int .i64 0] 209)).drew,hb0⟩)
 have V0:=hide (show Blk ((w.alloc (.cells (svc ⟨qa,ql,qc,aa,al,ac,ma,ml,mc,ca,cl,cc⟩ ⟨qs,clock,epoch,next,serial,apps,ms,cs⟩) 34)).alloc (.cells #[.string ⟨#[]⟩,.int .i64 0,.int .i64 0,.int .i64 0,.int .i64 0] 209)).drew (w.heap.size+1) #[.string ⟨#[]⟩,.int .i64 0,.int .i64 0,.int .i64 0,.int .i64 0] 209 from by have:=yD (w.alloc (.cells (svc ⟨qa,ql,qc,aa,al,ac,ma,ml,mc,ca,cl,cc⟩ ⟨qs,clock,epoch,next,serial,apps,ms,cs⟩) 34)) #[.string ⟨#[]⟩,.int .i64 0,.int .i64 0,.int .i64 0,.int .i64 0] 209;rw [yE] at this;exact this.drew)
 have R:∀wx,SB w (svc ⟨qa,ql,qc,aa,al,ac,ma,ml,mc,ca,cl,cc⟩ ⟨qs,clock,epoch,next,serial,apps,ms,cs⟩) wx→wx.cell? ⟨w.heap.size,0,none⟩=some (.slice qa ql qc)∧wx.cell? ⟨w.heap.size,1,none⟩=some (.int .i64 clock)∧wx.cell? ⟨w.heap.size,2,none⟩=some (.int .i64 epoch)∧wx.cell? ⟨w.heap.size,3,none⟩=some (.int .i64 next)∧wx.cell? ⟨w.heap.size,4,none⟩=some (.int .i64 serial)∧wx.cell? ⟨w.heap.size,5,none⟩=some (.slice aa al ac)∧wx.cell? ⟨w.heap.size,6,none⟩=some (.slice ma ml mc)∧wx.cell? ⟨w.heap.size,7,none⟩=some (.slice ca cl cc):=fun wx h=>by
  have a0:=h.1.at 0;have a1:=h.1.at 1;have a2:=h.1.at 2;have a3:=h.1.at 3;have a4:=h.1.at 4;have a5:=h.1.at 5;have a6:=h.1.at 6;have a7:=h.1.at 7
  simp at a0 a1 a2 a3 a4 a5 a6 a7
  exact ⟨a0,a1,a2,a3,a4,a5,a6,a7⟩
 clear hb0
 go_enter Tryz.func170,Tryz.ntmps170
 go_wp2_with fail
 refine wp_region_held_drew (S:=SB w (svc ⟨qa,ql,qc,aa,al,ac,ma,ml,mc,ca,cl,cc⟩ ⟨qs,clock,epoch,next,serial,apps,ms,cs⟩)) (by kernel_rfl) (uH SS0) (fun S0=>?_)
 refine takeD (i:=0) (d:=some 5) (v:=_) rfl rfl (by kernel_rfl) (by kernel_rfl) (by kernel_rfl) (fun _ _ _ h=>h) (Or.inl ⟨by rfl,fun wz hz=>by (go_simp;try with_reducible rfl)⟩) S0 ?_
 try simp only [Act.put,sA,sB,sC]
 refine takeD (i:=1) (d:=some 6) (v:=_) rfl rfl (by kernel_rfl) (by kernel_rfl) (by kernel_rfl) (fun _ _ _ h=>h) (Or.inl ⟨by rfl,fun wz hz=>by (go_simp;try with_reducible rfl)⟩) S0 ?_
 try simp only [Act.put,sA,sB,sC]
 refine takeD (i:=2) (d:=some 7) (v:=_) rfl rfl (by kernel_rfl) (by kernel_rfl) (by kernel_rfl) (fun _ _ _ h=>h) (Or.inl ⟨by rfl,fun wz hz=>by (go_simp;try with_reducible rfl)⟩) S0 ?_
 try simp only [Act.put,sA,sB,sC]
 refine takeD (i:=4) (d:=some 9) (v:=_) rfl rfl (by kernel_rfl) (by kernel_rfl) (by kernel_rfl) (fun _ _ _ h=>h) (Or.inl ⟨by rfl,fun wz hz=>by (go_simp;try with_reducible rfl)⟩) S0 ?_
 try simp only [Act.put,sA,sB,sC]
 refine takeD (i:=5) (d:=some 10) (v:=_) rfl rfl (by kernel_rfl) (by kernel_rfl) (by kernel_rfl) (fun _ _ _ h=>h) (Or.inl ⟨by rfl,fun wz hz=>by (go_simp;try with_reducible rfl)⟩) S0 ?_
 try simp only [Act.put,sA,sB,sC]
 refine takeD (i:=6) (d:=some 11) (v:=_) rfl rfl (by kernel_rfl) (by kernel_rfl) (by kernel_rfl) (fun _ _ _ h=>h) (Or.inl ⟨by rfl,fun wz hz=>by (go_simp;try with_reducible rfl)⟩) S0 ?_
 try simp only [Act.put,sA,sB,sC]
 refine takeD (i:=7) (d:=some 12) (v:=_) rfl rfl (by kernel_rfl) (by kernel_rfl) (by kernel_rfl) (fun _ _ _ h=>h) (Or.inl ⟨by rfl,fun wz hz=>by (go_simp;try with_reducible rfl)⟩) S0 ?_
 try simp only [Act.put,sA,sB,sC]
 refine wpAnyH_ready (rs:=[3]) (by kernel_rfl) (by simp) (AllReadyH.cons rfl (fun K hK=>?_) AllReadyH.nil)
 go_simp
 refine (uH CU _ S0.2).mono ?_
 rintro e w1 ⟨rfl,hb⟩
 have S1:=SB.call S0 hb
 have V1:=hide ((uH V0).below hb)
 clear hb V0
 go_wp2_with fail
 refine hK.out _ _ S1 (fun S0=>?_)
 clear hK K S1
 try simp only [Act.put,sA,sB,sC]
 refine wpAnyH_ready (rs:=[8]) (by kernel_rfl) (by simp) (AllReadyH.cons rfl (fun K hK=>?_) AllReadyH.nil)
 go_simp
 refine (uH CT _ S0.2).mono ?_
 rintro e w2 ⟨rfl,hb⟩
 have S1:=SB.call S0 hb
 have V2:=hide ((uH V1).below hb)
 clear hb V1
 go_wp2_with fail
 refine hK.out _ _ S1 (fun S0=>?_)
 clear hK K S1
 try simp only [Act.put,sA,sB,sC]
 refine wpAnyH_ready (rs:=[9]) (by kernel_rfl) (by simp) (AllReadyH.cons rfl (fun K hK=>?_) AllReadyH.nil)
 go_simp
 refine (uH CD _ S0.2).mono ?_
 rintro e w3 ⟨rfl,hb⟩
 have S1:=SB.call S0 hb
 have V3:=hide ((uH V2).below hb)
 clear hb V2
 go_wp2_with fail
 refine hK.out _ _ S1 (fun S0=>?_)
 clear hK K S1
 try simp only [Act.put,sA,sB,sC]
 refine takeD (i:=10) (d:=some 15) (v:=_) rfl rfl (by kernel_rfl) (by kernel_rfl) (by kernel_rfl) (fun _ _ _ h=>h) (Or.inl ⟨by rfl,fun wz hz=>by (go_simp;try with_reducible rfl)⟩) S0 ?_
 try simp only [Act.put,sA,sB,sC]
 refine takeD (i:=11) (d:=some 16) (v:=_) rfl rfl (by kernel_rfl) (by kernel_rfl) (by kernel_rfl) (fun _ _ _ h=>h) (Or.inl ⟨by rfl,fun wz hz=>by (go_simp;try with_reducible rfl)⟩) S0 ?_
 try simp only [Act.put,sA,sB,sC]
 refine wpAnyH_ready (rs:=[12]) (by kernel_rfl) (by simp) (AllReadyH.cons rfl (fun K hK=>?_) AllReadyH.nil)
 have bw:=uH V3
 have c0:=bw.at 0;have c1:=bw.at 1;have c2:=bw.at 2;have c3:=bw.at 3;have c4:=bw.at 4
 have f0:=bw.f 0;have f1:=bw.f 1;have f2:=bw.f 2;have f3:=bw.f 3;have f4:=bw.f 4
 simp at c0 c1 c2 c3 c4
 have bz:=((((bw.set 0 (.string (bs nm))).set 1 (.int .i64 ux)).set 2 (.int .i64 uy)).set 3 (.int .i64 dx)).set 4 (.int .i64 dy)
 have z0:=bz.at 0;have z1:=bz.at 1;have z2:=bz.at 2;have z3:=bz.at 3;have z4:=bz.at 4
 simp at z0 z1 z2 z3 z4
 have hn:w.heap.size≠w.heap.size+1:=by omega
 have S1:SB w (svc ⟨qa,ql,qc,aa,al,ac,ma,ml,mc,ca,cl,cc⟩ ⟨qs,clock,epoch,next,serial,apps,ms,cs⟩) (((((w3.setCell ⟨w.heap.size+1,0,none⟩ (.string (bs nm))).setCell ⟨w.heap.size+1,1,none⟩ (.int .i64 ux)).setCell ⟨w.heap.size+1,2,none⟩ (.int .i64 uy)).setCell ⟨w.heap.size+1,3,none⟩ (.int .i64 dx)).setCell ⟨w.heap.size+1,4,none⟩ (.int .i64 dy)):=⟨((((S0.1.other _ _ _ hn).other _ _ _ hn).other _ _ _ hn).other _ _ _ hn).other _ _ _ hn,yC (yC (yC (yC (yC S0.2 _ _ _ (by omega)) _ _ _ (by omega)) _ _ _ (by omega)) _ _ _ (by omega)) _ _ _ (by omega)⟩
 clear bw bz V3
 go_simp
 go_wp2_with fail
 refine hK.out _ _ S1 (fun S0=>?_)
 clear hK K
 try simp only [Act.put,sA,sB,sC]
 refine wpAnyH_done (by kernel_rfl) ?_ _
 have HB:=hide S1.2
 clear S1 S0 R CU CT CD SS0
 go_wp2
 refine bodyPost_ret (v:=stv (nm,ux,uy,dx,dy)) (by simp [results,Tryz.results170,go_sem,z0,z1,z2,z3,z4]) rfl ⟨rfl,uH HB⟩
end
section
theorem less_ntrans {a b c d e f:Int} (hb:Small b) (hd:Small d) (hf:Small f) (h:less c d a b=false) (k:less e f c d=false):less e f a b=false:=by
 unfold less at *
 by_cases f0:f=0
 ·simp [f0]
 ·by_cases d0:d=0
  ·simp [d0,f0] at k
  ·by_cases b0:b=0
   ·simp [b0,d0] at h
   ·simp only [b0,d0,f0,if_false,decide_eq_false_iff_not,Int.not_lt] at h k ⊢
    have pb:0≤b:=hb.1
    have pf:0≤f:=hf.1
    have pd:0<d:=by have:=hd.1;omega
    have h1:=Int.mul_le_mul_of_nonneg_right h pf
    have h2:=Int.mul_le_mul_of_nonneg_right k pb
    have e1:a*d*f=a*f*d:=by rw [Int.mul_assoc,Int.mul_comm d f,←Int.mul_assoc]
    have e2:c*b*f=c*f*b:=by rw [Int.mul_assoc,Int.mul_comm b f,←Int.mul_assoc]
    have e3:e*d*b=e*b*d:=by rw [Int.mul_assoc,Int.mul_comm d b,←Int.mul_assoc]
    have h3:a*f*d≤e*b*d:=by rw [←e1,←e3];rw [e2] at h1;exact Int.le_trans h1 h2
    exact Int.le_of_mul_le_mul_right h3 pd
end
section
open Go.RowKit
theorem bl_irr:∀a:List UInt8,Op.bytesLess a a=false
 | []=>rfl
 | c::t=>by simp [Op.bytesLess,bl_irr t]
theorem bl_trans:∀a b c:List UInt8,Op.bytesLess a b=true→Op.bytesLess b c=true→Op.bytesLess a c=true
 | _,[],_,h,_=>by simp [Op.bytesLess] at h
 | _,_::_,[],_,h=>by simp [Op.bytesLess] at h
 | [],_::_,_::_,_,_=>by simp [Op.bytesLess]
 | x::a,y::b,z::c,h,k=>by
  simp only [Op.bytesLess,Bool.or_eq_true,Bool.and_eq_true,decide_eq_true_eq,beq_iff_eq] at h k ⊢
  rcases h with h | ⟨rfl,h⟩
  ·rcases k with k | ⟨rfl,k⟩
   ·exact .inl (UInt8.lt_trans h k)
   ·exact .inl h
  ·rcases k with k | ⟨rfl,k⟩
   ·exact .inl k
   ·exact .inr ⟨rfl,bl_trans a b c h k⟩
theorem bl_tri:∀a b:List UInt8,Op.bytesLess a b=false→a≠b→Op.bytesLess b a=true
 | [],[],_,h=>absurd rfl h
 | [],_::_,h,_=>by simp [Op.bytesLess] at h
 | _::_,[],_,_=>by simp [Op.bytesLess]
 | x::a,y::b,h,k=>by
  simp only [Op.bytesLess,Bool.or_eq_false_iff,Bool.and_eq_false_iff,decide_eq_false_iff_not,beq_eq_false_iff_ne] at h
  simp only [Op.bytesLess,Bool.or_eq_true,Bool.and_eq_true,decide_eq_true_eq,beq_iff_eq]
  by_cases hxy:x=y
  ·subst hxy
   right
   refine ⟨rfl,bl_tri a b ?_ (fun e=>k (by rw [e]))⟩
   rcases h.2 with h2 | h2
   ·exact absurd rfl h2
   ·exact h2
  ·left
   have h1:=h.1
   have:x.toNat≠y.toNat:=fun e=>hxy (UInt8.toNat_inj.1 e)
   rw [UInt8.lt_iff_toNat_lt] at h1 ⊢
   omega
end
end Go.Proofs.YtdhibeclkdepiaaGreat
