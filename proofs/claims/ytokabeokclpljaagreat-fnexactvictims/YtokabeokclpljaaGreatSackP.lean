/-
  Texts in one: UByI, BackI, OkD, LackS.
-/
import Derived.Test.YtokabeokclpljaaGreatSackM
import Derived.Maps.RangeWalk
import Derived.Test.YtokabeokclpljaaGreatSackN
set_option maxRecDepth 100000
set_option maxHeartbeats 16000000
set_option linter.unusedVariables false
set_option linter.unusedSimpArgs false
/-
 Whether a queue is another one,or below it: what the program's reaches answers;a walk over the dump.
-/
namespace Go.Proofs.YtokabeokclpljaaGreat
open Go.RowKit Go.Shelf
set_option linter.unusedVariables false
attribute [local go_sem] Oper.semAt_some
def reachB (l:List Q) (nm wt:List UInt8):Bool:=(ups l nm).any (fun q=>decide (q.name=wt))
theorem blk_own {β:Type} (g:Nat) (arr:Array Value) (t:TypeId):Own (fun (_:β) W=>Blk W g arr t):=fun s X Y row hs hg hr=>
 (hg.block g (show Blk X g arr t from hs).lt (fun e=>by
  obtain ⟨o,ho,hc⟩:=hr g e.symm
  rw [show X.heap[g]? = _ from hs] at ho
  cases ho
  cases hc)).trans hs
theorem own_prop {β:Type} (p:β→Prop):Own (fun (s:β) (_:World)=>p s):=fun s X Y row hs _ _=>hs
theorem own_and2 {β:Type} {I I':β→World→Prop} (h:Own I) (h':Own I'):Own (fun s W=>I s W∧I' s W):=fun s W W' row hs hg hr=>⟨h s W W' row hs.1 hg hr,h' s W W' row hs.2 hg hr⟩
set_option maxRecDepth 100000 in
set_option maxHeartbeats 4000000 in
theorem reaches_any (ao:Option Addr) (len cap:Nat) (l:List Q) (nm wt:List UInt8) (w:World) (h:QRow w ao len l) (hl:len≤1048576) (hc:len≤cap) :
  Calls Tryz.prog 128 #[.slice ao len cap,.string (bs nm),.string (bs wt)] w fun e w'=>e=.returned (.bool (reachB l nm wt))∧Below w.heap.size w w':=by
 have HR:=hide h
 have hB4:=yA (yA (yA (yA (yH _ w) (.cells #[.string (bs wt)] 9)) (.cells #[.bool false] 4)) (.cells #[.slice ao len cap] 31)) (.cells #[.string (bs nm)] 9)
 have hK5:=(((yD w #[.string (bs wt)] 9).al (.cells #[.bool false] 4)).al (.cells #[.slice ao len cap] 31)).al (.cells #[.string (bs nm)] 9)
 have hK6:=((yD (w.alloc (.cells #[.string (bs wt)] 9)) #[.bool false] 4).al (.cells #[.slice ao len cap] 31)).al (.cells #[.string (bs nm)] 9)
 have hBq:=((yD ((w.alloc (.cells #[.string (bs wt)] 9)).alloc (.cells #[.bool false] 4)) #[.slice ao len cap] 31).al (.cells #[.string (bs nm)] 9)).at 0
 have hBn:=(yD (((w.alloc (.cells #[.string (bs wt)] 9)).alloc (.cells #[.bool false] 4)).alloc (.cells #[.slice ao len cap] 31)) #[.string (bs nm)] 9).at 0
 have hsz:((((w.alloc (.cells #[.string (bs wt)] 9)).alloc (.cells #[.bool false] 4)).alloc (.cells #[.slice ao len cap] 31)).alloc (.cells #[.string (bs nm)] 9)).heap.size=w.heap.size+4:=by simp only [yE]
 rw [yE] at hK6
 rw [yE,yE] at hBq
 rw [yE,yE,yE] at hBn
 obtain ⟨o,ho⟩:∃o,reachB l nm wt=o:=⟨_,rfl⟩
 have HO:=hide ho
 rw [ho]
 clear h ho
 have hmx:Tryz.prog.follows .mixedOrders=true:=by kernel_rfl
 refine (callsIn_wide (n:=3)).1 ?_
 refine callsIn_of_wp_marks Tryz.func128 rfl trivial ?_ rfl
 simp only [Tryz.ntmps128,List.size_toArray,List.length_cons,List.length_nil,Nat.reduceAdd,Nat.reduceSub,Array.replicate_succ,Array.replicate_zero,List.push_toArray,List.append_toArray,List.nil_append,List.cons_append]
 gi_wp2_with fail
 refine ⟨trivial,?_⟩
 first | refine ⟨(by intro e;cases e),?_⟩ | skip
 refine (callsIn_wide.2 (above_any ao len cap nm _)).mono ?_
 rintro e w2 ⟨rfl,rfl⟩
 gi_wp2
 obtain ⟨W0,hW0⟩:∃W0,(((w.alloc (.cells #[.string (bs wt)] 9)).alloc (.cells #[.bool false] 4)).alloc (.cells #[.slice ao len cap] 31)).alloc (.cells #[.string (bs nm)] 9)=W0:=⟨_,rfl⟩
 rw [hW0] at hB4 hK5 hK6 hBq hBn hsz ⊢
 have HC:=hide (above_stops (3 - 1) (w.heap.size+1+1) (w.heap.size+1+1+1) ao len cap l nm w W0 (uH HR) hB4 hl hc hBq hBn)
 clear hW0 hBq hBn
 refine wpIn_rangeFunc_ownH rfl (by omega) (gf:=195) (lb:=#[.pointer (some ⟨w.heap.size+1+1,0,none⟩),.pointer (some ⟨w.heap.size+1+1+1,0,none⟩)]) rfl trivial (enters_of Tryz.func195 (by kernel_rfl) rfl)
  (uH HC) kpq_t (kpq_b (by omega)) (yH _ _) (fun _=>rfl)
  (fun pre W=>((Blk W w.heap.size #[.string (bs wt)] 9∧Blk W (w.heap.size+1) #[.bool false] 4)∧(∀q ∈ pre,q.1.name≠wt))∧Below w.heap.size w W)
  (fun c pre W=>(Blk W (w.heap.size+1) #[.bool true] 4∧(c=.ret∧∃q ∈ pre,q.1.name=wt))∧Below w.heap.size w W)
  (OwnFrom.and (Own.from (own_and2 (own_and2 (blk_own _ _ _) (blk_own _ _ _)) (own_prop (fun pre:List { q:Q // q ∈ l }=>∀q ∈ pre,q.1.name≠wt))) _) (ownFrom_below (yJ _) (by omega)))
  (fun c=>OwnFrom.and (Own.from (own_and2 (blk_own _ _ _) (own_prop (fun pre:List { q:Q // q ∈ l }=>c=.ret∧∃q ∈ pre,q.1.name=wt))) _) (ownFrom_below (yJ _) (by omega)))
  ⟨⟨⟨hK5,hK6⟩,by simp⟩,hB4⟩
  (fun x a' W=>∃Bx,w.heap.size+1<Bx∧QBox W Bx x.1∧a' = { tmps:=#[.slice ao len cap,.string (bs nm),.string (bs wt),undef,undef,.pointer (some ⟨w.heap.size,0,none⟩),.pointer (some ⟨w.heap.size+1,0,none⟩),.pointer (some ⟨Bx,0,none⟩),.slice ao len cap,.string (bs nm),.func (.func 195) #[] #[.pointer (some ⟨w.heap.size+1+1,0,none⟩),.pointer (some ⟨w.heap.size+1+1+1,0,none⟩)],qv x.1,undef,undef,undef,undef],defers:=[] })
  (fun x a' _ X Y row hs hg hr=>by
   obtain ⟨Bx,h1,h2,h3⟩:=hs
   refine ⟨Bx,h1,(hg.block Bx h2.lt (fun e=>?_)).trans h2,h3⟩
   obtain ⟨_,o,ho,hc⟩:=hr Bx e.symm
   rw [show X.heap[Bx]? = _ from h2] at ho
   cases ho
   cases hc)
  ?assign ?body ?done ?stop
 case assign=>
  rintro lp pre x W K ⟨⟨⟨k5,k6⟩,hne⟩,hB⟩ hK
  have hlt:=k6.lt
  gi_wp2
  exact hK _ _ ((KeepsOthers.alloc _ _).from _) (kpq_of hB.size (yA (yH _ W) _)) ⟨⟨⟨k5.al _,k6.al _⟩,hne⟩,yA hB _⟩ ⟨W.heap.size,hlt,QBox.new W x.1,rfl⟩
 case body=>
  rintro lp pre ⟨q,hq⟩ a' W hlp _ ⟨⟨⟨k5,k6⟩,hne⟩,hB⟩ ⟨Bx,hBx,hX,rfl⟩ hlt
  simp only at hX
  have hx0:=hX.c0
  have c5:=k5.at 0
  have c6:=k6.at 0
  have f6:=k6.f 0
  simp at c5 c6
  have hbe:=bs_eq q.name wt
  have K5:=hide k5
  have K6:=hide k6
  have HNE:=hide hne
  have HB:=hide hB
  clear k5 k6 hne hB hX
  by_cases he:q.name=wt
  ·have HE:=hide he
   rw [decide_eq_true he] at hbe
   clear he
   gi_wp2
   refine ⟨(KeepsOthers.setCell _ _ _).from _,⟨?_,rfl,⟨q,hq⟩,by simp,uH HE⟩,yC (uH HB) _ _ _ (by omega)⟩
   have:=(uH K6).set 0 (.bool true)
   simpa using this
  ·have HE:=hide he
   rw [decide_eq_false he] at hbe
   clear he
   gi_wp2
   refine ⟨KeepsFrom.refl _ _,kpq_of (uH HB).size (yH _ _),⟨⟨uH K5,uH K6⟩,?_⟩,uH HB⟩
   intro z hz
   rcases List.mem_append.1 hz with hz | hz
   ·exact uH HNE z hz
   ·have:z=⟨q,hq⟩:=by simpa using hz
    rw [this]
    exact uH HE
 case done=>
  rintro D ys W hD hys ⟨⟨⟨k5,k6⟩,hne⟩,hB⟩ hK
  have c6:=k6.at 0
  have f6:=k6.f 0
  simp at c6
  have hres:o=false:=by
   rw [←uH HO,reachB,←hys,List.any_eq_false]
   intro z hz
   obtain ⟨q,hq,rfl⟩:=List.mem_map.1 hz
   simpa using hne q hq
  subst hres
  have K6:=hide k6
  have HB:=hide hB
  have HK:=hide hK
  have hDW:D≠w.heap.size+1:=by omega
  clear k5 k6 hne hB hK
  gi_wp2
  have e2:=(KeepsOthers.setCell W ⟨w.heap.size+1,0,none⟩ (.bool false)).same D _ (uH HK) rfl
  refine ⟨by simp,.inl ⟨_,_,rfl,run_takeDeferred e2,?_⟩⟩
  have KF:Blk _ (w.heap.size+1) _ _:=(World.putObj_heap_other (o:=.deferred none) (w:=W.setCell ⟨w.heap.size+1,0,none⟩ (.bool false)) (Ne.symm hDW)).trans ((uH K6).set 0 (.bool false))
  have r0:=KF.at 0
  simp at r0
  exact ⟨.bool false,(by simp [results,Tryz.results128,go_sem,r0]),rfl,(yC (uH HB) _ _ _ (by omega)).trans (belowK_b (w:=w) (yJ _) _ D _ _ (by omega) e2 rfl rfl)⟩
 case stop=>
  rintro D c pre W hD hpre ⟨⟨k6,rfl,q,hq,he⟩,hB⟩ hK
  have hres:o=true:=by
   rw [←uH HO,reachB,List.any_eq_true]
   exact ⟨q.1,hpre.subset (List.mem_map_of_mem hq),by simpa using he⟩
  subst hres
  have K6:=hide k6
  have HB:=hide hB
  have HK:=hide hK
  have hDW:D≠w.heap.size+1:=by omega
  clear k6 hB hK
  gi_wp2
  refine ⟨by simp,.inl ⟨_,_,rfl,run_takeDeferred (uH HK),?_⟩⟩
  have KF:Blk _ (w.heap.size+1) _ _:=(World.putObj_heap_other (o:=.deferred none) (w:=W) (Ne.symm hDW)).trans (uH K6)
  have r0:=KF.at 0
  simp at r0
  exact ⟨.bool true,(by simp [results,Tryz.results128,go_sem,r0]),rfl,(uH HB).trans (belowK_b (w:=w) (yJ _) _ D _ _ (by omega) (uH HK) rfl rfl)⟩
end Go.Proofs.YtokabeokclpljaaGreat
/-
 What those containers have together that a method's value counts,by the program: used;a walk over the dump.
-/
namespace Go.Proofs.YtokabeokclpljaaGreat
open Go.RowKit
set_option linter.unusedVariables false
set_option maxRecDepth 100000 in
set_option maxHeartbeats 4000000 in
theorem usedHas_any (bm:Nat) (p:Con→Bool) (x:Sls) (s:St) (w:World) (h:ConRow w x.ca x.cl s.cs) (hl:x.cl≤1048576)
  (hp:∀wx q,q ∈ s.cs→Below w.heap.size w wx→Calls Tryz.prog 126 #[.map (some bm),conv q] wx fun e w'=>e=.returned (.bool (p q))∧Below wx.heap.size wx w') :
  Calls Tryz.prog 129 #[sv x s,.func (.func 126) #[.map (some bm)] #[]] w fun e w'=>e=.returned (rv (sumR (usedL p s.cs)).1 (sumR (usedL p s.cs)).2.1)∧Below w.heap.size w w':=by
 obtain ⟨i0,hi,hz0,hz1,hz2⟩:=info_parts Tryz.infoR
 have eg:=enters_of Tryz.func126 (by kernel_rfl) rfl
 obtain ⟨qa,ql,qc,aa,al,ac,ma,ml,mc,ca,cl,cc⟩:=x
 obtain ⟨qs,clock,epoch,next,serial,apps,ms,cs⟩:=s
 simp only at h hl ⊢
 have HR:=hide h
 have HL:=hide h.1
 have HP:=hide hp
 obtain ⟨c,hc⟩:∃c:Array Value,#[.slice qa ql qc,.int .i64 clock,.int .i64 epoch,.int .i64 next,.int .i64 serial,.slice aa al ac,.slice ma ml mc,.slice ca cl cc]=c:=⟨_,rfl⟩
 have HC:=hide hc
 have HB0:=hide (capW_below w c)
 have V0:=hide (capW_var w c)
 have HW:=hide (capW_size w c)
 clear h hc hp
 obtain ⟨⟨sx,sy,so⟩,hs⟩:∃s,sumR (usedL p cs)=s:=⟨_,rfl⟩
 have HS:=hide hs
 rw [hs]
 clear hs
 go_enter Tryz.func129,Tryz.ntmps129
 go_wp2
 go_loopw [5,13] (fun v i wr=>∃(k:Nat),k≤cl∧i=.int .i64 k∧Hid (ROwn (capW w c).heap.size wr v (usedL p (cs.take k)))∧Hid (Below (capW w c).heap.size (capW w c) wr)) (fun _ i _=>cl - (intOf i).toNat)
 case atStart=>
  obtain rfl:=uH HC
  exact ⟨0,Nat.zero_le _,rfl,hide (by simpa [usedL] using rown_nil _ _),hide (yH _ _)⟩
 case round=>
  obtain ⟨k,hk,rfl,HO,HB⟩:=hrel
  by_cases hlt:k<cl
  ·obtain ⟨b,off,rfl,hq⟩:=(((uH HR).below (uH HB0)).below (uH HB)).at hlt
   have hkl:k<cs.length:=by have:=uH HL;omega
   have hst:=usedL_step (p:=p) hkl
   obtain ⟨c0,c1,c2,c3,c4⟩:=hq hkl
   obtain ⟨m,hs⟩:∃q,cs[k]=q:=⟨_,rfl⟩
   rw [hs] at c0 c1 c2 c3 c4 hst
   have hal:(usedL p (cs.take k)).length≤1048576:=by have:=used_len (p:=p) (cs.take k);simp at this;omega
   obtain ⟨acc,hacc⟩:∃a,usedL p (cs.take k)=a:=⟨_,rfl⟩
   rw [hacc] at hst hal HO
   obtain ⟨id,ap,nd,me,cp⟩:=m
   simp only at c0 c1 c2 c3 c4 hst
   have HBA:=hide (yA (yH _ wr) (conobj ⟨id,ap,nd,me,cp⟩))
   have HCL:=hide (uH HP (wr.alloc (conobj ⟨id,ap,nd,me,cp⟩)) ⟨id,ap,nd,me,cp⟩ (by rw [←hs];exact yM _) (yB (yB (uH HB0) (uH HB)) (uH HBA)))
   have KB:=hide (yD wr #[.int .i64 id,.int .i64 ap,.string (bs nd),.int .i64 me,.int .i64 cp] 58)
   clear hq hs hkl hacc
   cases hpq:p ⟨id,ap,nd,me,cp⟩ with
   | true=>
    rw [hpq] at HCL
    rw [hpq,if_pos rfl] at hst
    have HST:=hide hst
    clear hpq hst
    go_wp2_with (first
     | ((first | go_at_call 126 | go_at_fn 126);refine (uH HCL).mono ?_;rintro e w1 ⟨rfl,hb⟩;have HB1:=hide (yB (yB (uH HB) (uH HBA)) hb);have HO1:=hide (((uH HO).below (uH HBA)).below hb);have b1:=(uH KB).below hb;have q3:=b1.at 3;have q4:=b1.at 4;simp at q3 q4;have hs2:(capW w c).heap.size≤w1.heap.size:=(uH HB1).size;have hown:w1.ownsRow (capW w c).heap.size 52 2 _ acc.length (rcells acc):=uH HO1;clear b1 hb HCL c0 c1 c2 c3 c4 HO HB)
     | (at_builtin;refine wpList_append_own _ rfl _ _ 142 rfl (capW w c).heap.size 52 i0 (.agg #[.int .i64 0,.int .i64 0]) 2 16 Tryz.underlying142 hi hz0 hz1 hz2 rfl (by decide) _ _ _ rfl (hown.alloc _) ⟨w1.heap.size,0,none⟩ 1 1 (rcell (me,cp)) rfl rfl ?c1 ?c2 ?c3 ?c4 ?c5 ?_))
    case c1=>
     intro j x hj
     match j,hj with
     | 0,hj=>simp at hj;subst hj;simp [Addr.add]
     | 1,hj=>simp at hj;subst hj;simp [Addr.add]
     | _+2,hj=>simp at hj
    case c2=>intro x hx;simp at hx;rcases hx with rfl | rfl<;>rfl
    case c3=>unfold maxLen;omega
    case c4=>omega
    case c5=>simp at hs2 ⊢;omega
    intro v' w3 hown' hgrow _
    have R:=rown_step (q:=(me,cp)) (uH HB1) (uH HO1) hown' hgrow hs2
    have HR3:=hide R
    clear hown' hgrow hown R q3 q4
    go_wp2
    go_roundw
    case rel=>exact ⟨k+1,by omega,by go_num,hide (by rw [uH HST];exact (uH HR3).1),hide (uH HR3).2⟩
    case measure=>simp [intOf];omega
   | false=>
    rw [hpq] at HCL
    rw [hpq,if_neg (by simp)] at hst
    have HST:=hide hst
    clear hpq hst
    go_wp2_with ((first | go_at_call 126 | go_at_fn 126);refine (uH HCL).mono ?_;rintro e w1 ⟨rfl,hb⟩;have HB1:=hide (yB (yB (uH HB) (uH HBA)) hb);have HO1:=hide (((uH HO).below (uH HBA)).below hb);clear hb HCL c0 c1 c2 c3 c4 HO HB)
    go_roundw
    case rel=>exact ⟨k+1,by omega,by go_num,hide (by rw [uH HST];exact uH HO1),HB1⟩
    case measure=>simp [intOf];omega
  ·have htk:cs.take k=cs:=List.take_of_length_le (by have:=uH HL;omega)
   rw [htk] at HO
   obtain ⟨ao,cp,rfl,hrow,hcp⟩:=(uH HO).row
   have hlc:(usedL p cs).length≤1048576:=by have:=used_len (p:=p) cs;have:=uH HL;omega
   have CT:=hide (together_any ao _ cp (usedL p cs) wr hrow hlc)
   rw [uH HS] at CT
   obtain ⟨n,hn⟩:∃n,(usedL p cs).length=n:=⟨_,rfl⟩
   rw [hn] at CT ⊢
   clear hrow hn htk hcp hlc HO
   go_wp2_with fail
   refine (uH CT).mono ?_
   rintro e w1 ⟨rfl,hb⟩
   have hsz:w.heap.size+1<(capW w c).heap.size:=by have:=uH HW;omega
   have V1:Var w1 52 (w.heap.size+1) 0 0:=Var.below ((uH HB).block _ hsz |>.trans (uH V0)) hb
   have HB1:=hide (yB (yB (uH HB0) (uH HB)) hb)
   have V2:=V1.al (.cells #[.int .i64 sx,.int .i64 sy] 52)
   have t0:=V2.c0
   have t1:=V2.c1
   have f0:=V2.f 0
   have f1:=V2.f 1
   have VG:=V2.set sx sy
   have k6:=VG.c0
   have k7:=VG.c1
   clear hb V1 V2 VG CT HB HB0
   go_wp2
   refine bodyPost_ret (v:=rv sx sy) (by simp [results,Tryz.results129,go_sem,k6,k7]) rfl ⟨rfl,?_⟩
   repeat (first | exact uH HB1 | refine yA ?_ _ | refine yC ?_ _ _ _ (by omega))
end Go.Proofs.YtokabeokclpljaaGreat
/-
 What a queue uses,by the program: UsedBy;a walk over the dump,with a map that is ranged over and shrinks.
-/
namespace Go.Proofs.YtokabeokclpljaaGreat
open Go.RowKit Go.Maps
set_option linter.unusedVariables false
set_option maxRecDepth 100000 in
theorem keyLits_str_inv {n:Nat} {cs:List Value} {ls:List Lit} (h:Tryz.prog.keyLits (n+1) 9 cs=some ls):∃s,cs=[.string s]:=by
 unfold Program.keyLits at h
 rw [Tryz.underlying9] at h
 split at h<;>simp_all
set_option maxRecDepth 100000 in
theorem keyLits_int_inv {n:Nat} {cs:List Value} {ls:List Lit} (h:Tryz.prog.keyLits (n+1) 3 cs=some ls):∃k,cs=[.int .i64 k]:=by
 unfold Program.keyLits at h
 rw [Tryz.underlying3] at h
 split at h<;>simp_all
set_option maxRecDepth 100000 in
theorem key_shape {key:Value} {kl:Lit} (h:keyOf Tryz.prog 160 key=some kl):∃x:List UInt8×Int,key=keyv x.1 x.2:=by
 have hu:=Tryz.underlying160
 obtain ⟨m,hm⟩:=keyTypesMany
 unfold keyOf at h
 rw [hu] at h
 simp only at h
 split at h
 ·rename_i hf
  rw [yK] at hf
  have hf2:=hf.2
  cases key with
  | agg cs=>
   simp only [Value.formed,hu,keyCells] at hf2
   obtain ⟨l⟩:=cs
   have hl:l.length=2:=by simpa using hf2
   match l,hl with
   | [c0,c1],_=>
    rw [hm,show (Value.agg #[c0,c1]).cells.toList=[c0,c1] from rfl] at h
    cases hk:Tryz.prog.keyLits (m+2) 160 [c0,c1] with
    | none=>rw [hk] at h;simp at h
    | some ls=>
     unfold Program.keyLits at hk
     rw [hu] at hk
     simp only at hk
     split at hk
     ·simp [keyIntCells,keyStrCells] at hk
      cases h0:Tryz.prog.keyLits (m+1) 9 [c0] with
      | none=>rw [h0] at hk;simp at hk
      | some l0=>
       cases h1:Tryz.prog.keyLits (m+1) 3 [c1] with
       | none=>rw [h0,h1] at hk;simp at hk
       | some l1=>
        obtain ⟨s,e0⟩:=keyLits_str_inv h0
        obtain ⟨k,e1⟩:=keyLits_int_inv h1
        simp at e0 e1
        subst e0 e1
        exact ⟨(s.data.toList,k),by simp [keyv,bs_data]⟩
     ·cases hk
  | _=>simp [Value.formed,hu] at hf2
 ·cases h
theorem left_strike {D:DataW Unit} {left:Lit→Bool} {kl:Lit} (hkl:WideAt.IsKeyLit kl) (h:∀z,left z=true→Maps.has D z=true):∀z,(left z&&!z.sameKey kl)=true→Maps.has (D.del kl) z=true:=fun z hz=>by
 simp only [yK,Bool.not_eq_true'] at hz
 rw [has_del_other (fun e=>by subst e;rw [WideAt.sameKey_self hkl] at hz;cases hz.2)]
 exact h z hz.1
theorem left_stay {D:DataW Unit} {left:Lit→Bool} {kl:Lit} (h:∀z,left z=true→Maps.has D z=true):∀z,(left z&&!z.sameKey kl)=true→Maps.has D z=true:=fun z hz=>by
 simp only [yK] at hz
 exact h z hz.1
theorem hasB_by {s:St} {hs:List AV} {w:World} (hh:Heads w hs s.apps) (ho:queuesOk s.qs=true) (nm:List UInt8) (q:Con):hasB hs (fun v=>reachB s.qs v.queue nm) q=byQ s nm q:=by
 have e:=heads_find (id:=q.app) hh.1 (fun i a b=>⟨(hh.2 i a b).1,(hh.2 i a b).2.1⟩)
 unfold hasB byQ
 cases h1:findA q.app hs with
 | none=>
  cases h2:findAp q.app s.apps with
  | none=>rfl
  | some a=>rw [h1,h2] at e;cases e
 | some v=>
  cases h2:findAp q.app s.apps with
  | none=>rw [h1,h2] at e;cases e
  | some a=>
   rw [h1,h2] at e
   have e':v.queue=a.queue:=by simpa using e
   simp only [optB]
   rw [reachB,e',←ups_path ho,List.any_map]
   rfl
theorem byQ_none {s:St} (ho:queuesOk s.qs=false) (nm:List UInt8) (q:Con):byQ s nm q=false:=by
 unfold byQ
 cases findAp q.app s.apps with
 | none=>rfl
 | some a=>simp [path,ho]
theorem usedL_none {p:Con→Bool} {l:List Con} (h:∀q,p q=false):usedL p l=[]:=by
 have:l.filter p=[]:=by rw [List.filter_eq_nil_iff];intro a _;simp [h a]
 simp [usedL,this]
theorem usedL_congr {p p':Con→Bool} {l:List Con} (h:∀q,p q=p' q):usedL p l=usedL p' l:=by rw [show p=p' from funext h]
set_option maxRecDepth 100000 in
set_option maxHeartbeats 4000000 in
theorem implUsedBy_any (x:Sls) (s:St) (nm:List UInt8) (w:World) (h:SRow w x s) (hf:FitSt s) (hc:x.ql≤x.qc) (hw:WfSt s) :
  Calls Tryz.prog 81 #[sv x s,.string (bs nm)] w fun e w'=>e=.returned (rv (usedByV s nm).1 (usedByV s nm).2)∧Below w.heap.size w w':=by
 have hmf:∀(fn:Fn) (first cap:Array Value) (w:World),(Instr.makeFunc fn first cap).run Tryz.prog w=.ok (.func fn first cap) w:=fun _ _ _ _=>rfl
 have hql:x.ql≤1048576:=by have:=h.len.1;have:=hf.1.1;omega
 have hal:x.al≤1048576:=by have:=h.len.2.1;have:=hf.2.1.1;omega
 have hcl:x.cl≤1048576:=by have:=h.len.2.2.2;have:=hf.2.2.2.1;omega
 obtain ⟨hs,hav,hh⟩:=h.2.1.heads
 have CQ:=hide (fun wx (hb:Below w.heap.size w wx)=>implQueuesOk_any x.qa x.ql x.qc s.qs wx (h.1.below hb) hql (fun q hq=>(hf.1.2 q hq).1) hc)
 have CM:=hide (fun wx (hb:Below w.heap.size w wx)=>apps_ex x s hs wx (hav.below hb) hal (heads_wf hh hw.1))
 have CR:=hide (fun wx (hb:Below w.heap.size w wx) (qu:List UInt8)=>reaches_any x.qa x.ql x.qc s.qs qu nm wx (h.1.below hb) hql hc)
 have CU:=hide (fun (bm n:Nat) (D:DataW Unit) wx (hb:Below w.heap.size w wx) (hown:wx.ownsMap Tryz.prog 160 appElem bm n D) (hk:KnownA hs (fun _ v=>reachB s.qs v.queue nm) D)=>usedHas_any bm (hasB hs (fun v=>reachB s.qs v.queue nm)) x s wx (h.2.2.2.below hb) hcl
  (fun wy q hq hy=>has_any bm n D hs (fun v=>reachB s.qs v.queue nm) q wy (ownsMap_below hown hy) hk (hw.2 q hq)))
 have HV1:=hide (fun ho:queuesOk s.qs=true=>usedL_congr (l:=s.cs) (hasB_by hh ho nm))
 have HV2:=hide (fun ho:queuesOk s.qs=false=>usedL_none (l:=s.cs) (byQ_none ho nm))
 have HV:=hide (show usedByV s nm=((sumR (usedL (byQ s nm) s.cs)).1,(sumR (usedL (byQ s nm) s.cs)).2.1) from rfl)
 obtain ⟨⟨ux,uy⟩,hu⟩:∃u,usedByV s nm=u:=⟨_,rfl⟩
 rw [hu] at HV ⊢
 obtain ⟨o,ho⟩:∃o,queuesOk s.qs=o:=⟨_,rfl⟩
 rw [ho] at CQ HV1 HV2
 clear h hf hc hw hu ho hav hh
 obtain ⟨qa,ql,qc,aa,al,ac,ma,ml,mc,ca,cl,cc⟩:=x
 obtain ⟨qs,clock,epoch,next,serial,apps,ms,cs⟩:=s
 simp only at CQ CM CR CU HV1 HV2 HV hql hal hcl
 have HB0:=hide (capW_below w (svc ⟨qa,ql,qc,aa,al,ac,ma,ml,mc,ca,cl,cc⟩ ⟨qs,clock,epoch,next,serial,apps,ms,cs⟩))
 have V0:=hide (capW_var w (svc ⟨qa,ql,qc,aa,al,ac,ma,ml,mc,ca,cl,cc⟩ ⟨qs,clock,epoch,next,serial,apps,ms,cs⟩))
 have P0:=hide ((boxW_blk w (svc ⟨qa,ql,qc,aa,al,ac,ma,ml,mc,ca,cl,cc⟩ ⟨qs,clock,epoch,next,serial,apps,ms,cs⟩)).al (.cells #[.int .i64 0,.int .i64 0] 52))
 go_enter Tryz.func81,Tryz.ntmps81
 go_wp2_with fail
 refine (uH CQ _ (uH HB0)).mono ?_
 rintro e w1 ⟨rfl,hb⟩
 have HB1:=hide (yB (uH HB0) hb)
 have V1:=hide ((uH V0).below hb)
 have P1:=hide ((uH P0).below hb)
 clear hb HB0 V0 P0 CQ
 cases o with
 | false=>
  have hz:=uH HV
  rw [uH HV2 (by first | rfl | trivial)] at hz
  simp only [sumR,sumFrom,Prod.mk.injEq] at hz
  obtain ⟨rfl,rfl⟩:=hz
  have V2:=uH V1
  have t0:=V2.c0
  have t1:=V2.c1
  have f0:=V2.f 0
  have f1:=V2.f 1
  have k4:=V2.s0 (.int .i64 0)
  have k5:=V2.s1 (.int .i64 0) (.int .i64 0)
  clear V2
  go_wp2
  refine bodyPost_ret (v:=rv 0 0) (by simp [results,Tryz.results81,go_sem,k4,k5]) rfl ⟨rfl,?_⟩
  repeat (first | exact uH HB1 | refine yA ?_ _ | refine yC ?_ _ _ _ (by omega))
 | true=>
  have HE:=hide (uH HV1 (by first | rfl | trivial))
  have HVV:=hide (show (ux,uy)=((sumR (usedL (hasB hs (fun v=>reachB qs v.queue nm)) cs)).1,(sumR (usedL (hasB hs (fun v=>reachB qs v.queue nm)) cs)).2.1) by rw [uH HE];exact uH HV)
  rw [show (sumR (usedL (hasB hs (fun v=>reachB qs v.queue nm)) cs)).1=ux from (congrArg Prod.fst (uH HVV)).symm,show (sumR (usedL (hasB hs (fun v=>reachB qs v.queue nm)) cs)).2.1=uy from (congrArg Prod.snd (uH HVV)).symm] at CU
  clear HV HV1 HV2 HE HVV
  obtain ⟨q0,q1,q2,q3,q4,q5,q6,q7⟩:_∧_∧_∧_∧_∧_∧_∧_:=⟨(uH P1).at 0,(uH P1).at 1,(uH P1).at 2,(uH P1).at 3,(uH P1).at 4,(uH P1).at 5,(uH P1).at 6,(uH P1).at 7⟩
  simp at q0 q1 q2 q3 q4 q5 q6 q7
  have hpl:=(uH P1).lt
  have hvl:=(uH V1).lt
  go_wp2_with fail
  refine (uH CM _ (uH HB1)).mono ?_
  rintro e w2 ⟨bm,rfl,⟨hbm,D0,hown,hkn⟩,hb⟩
  have HB2:=hide hb
  have HK0:=hide hkn
  clear q0 q1 q2 q3 q4 q5 q6 q7 hb hkn CM
  go_wp2_with (first
   | (at_range;refine wpList_range_own _ rfl _ 153 rfl 160 106 keyLaw Tryz.underlying153 _ bm hs.length D0 rfl hown ?_;intro w3 hrg0 hg0 hs0)
   | go_in)
  go_frame
  have hw12:w1.heap.size≤w2.heap.size:=(uH HB2).size
  have HB3:=hide (show Below w1.heap.size w1 w3 from (uH HB2).grown hg0 hw12 (fun k e=>by cases e))
  have HRG0:=hide hrg0
  obtain ⟨r,hr⟩:∃r,w2.heap.size=r:=⟨_,rfl⟩
  rw [hr] at HRG0 hw12 ⊢
  have hwa:w.heap.size≤w1.heap.size:=(uH HB1).size
  clear hrg0 hg0 hs0 HB2 hown hr
  go_loopw [6] (fun _ wr=>∃(left:Lit→Bool) (cnt:Nat) (D:DataW Unit),Hid (wr.ranges Tryz.prog 160 appElem bm r hs.length D left cnt)∧Hid (KnownA hs (fun kl v=>left kl||reachB qs v.queue nm) D)∧Hid (∀z,left z=true→Maps.has D z=true)∧Hid (Below w1.heap.size w1 wr)) (fun _ wr=>wr.rangeLeft bm r)
  case atStart=>exact ⟨_,_,D0,HRG0,hide ⟨(uH HK0).1,fun v kl h1 h2=>by have:=(uH HK0).2 v kl h1 h2;simp only at this ⊢;rw [this];rfl⟩,hide (fun z h=>h),HB3⟩
  case round=>
   obtain ⟨left,cnt,D,HRG,HKN,HLT,HBr⟩:=hrel
   have hrg:=uH HRG
   clear HRG0 HK0 HB3
   go_wp2_with (first
    | (at_next;refine wpList_next_ranges _ rfl _ rfl 160 keyLaw appElem (fun x:List UInt8×Int=>keyv x.1 x.2) avv (fun key kl hkey=>key_shape hkey) (fun v y hv=>appElem_shape hv) bm r hs.length D left cnt rfl hrg ?_ ?_)
    | go_in)
   ·intro _ hl0
    have HKF:=hide (show KnownA hs (fun _ v=>reachB qs v.queue nm) D from ⟨(uH HKN).1,fun v kl h1 h2=>by have:=(uH HKN).2 v kl h1 h2;simp only [hl0,Bool.false_or] at this;exact this⟩)
    have PB:=(uH P1).below (uH HBr)
    obtain ⟨q0,q1,q2,q3,q4,q5,q6,q7⟩:_∧_∧_∧_∧_∧_∧_∧_:=⟨PB.at 0,PB.at 1,PB.at 2,PB.at 3,PB.at 4,PB.at 5,PB.at 6,PB.at 7⟩
    simp at q0 q1 q2 q3 q4 q5 q6 q7
    have HVB:=hide ((uH V1).below (uH HBr))
    have HBB:=hide (yB (uH HB1) (uH HBr))
    have HOW:=hide hrg.owns
    clear HRG HKN HLT hrg hl0 PB CR
    go_wp2_with fail
    refine (uH CU bm hs.length D _ (uH HBB) (uH HOW) (uH HKF)).mono ?_
    rintro e w5 ⟨rfl,hb⟩
    have V2:=(uH HVB).below hb
    have HB5:=hide (yB (uH HBB) hb)
    have t0:=V2.c0
    have t1:=V2.c1
    have f0:=V2.f 0
    have f1:=V2.f 1
    have k4:=V2.s0 (.int .i64 ux)
    have k5:=V2.s1 (.int .i64 ux) (.int .i64 uy)
    clear V2 hb q0 q1 q2 q3 q4 q5 q6 q7
    go_wp2
    refine bodyPost_ret (v:=rv ux uy) (by simp [results,Tryz.results81,go_sem,k4,k5]) rfl ⟨rfl,?_⟩
    repeat (first | exact uH HB5 | refine yA ?_ _ | refine yC ?_ _ _ _ (by omega))
   ·rintro x1 x2 ⟨id,qu,zo,zl,zc⟩ kl y1 y2 w4 cnt1 hkey hlk hR hat hrg1 hlt hg1 hs1 hen
    obtain ⟨HFD,HKV⟩:Hid (findA id hs=some ⟨id,qu,zo,zl,zc⟩)∧Hid (keyOf Tryz.prog 160 (keyv [] id)=some kl):=by
     obtain ⟨v,hf,hkv,hav⟩:=(uH HKN).1 kl (uH HLT kl hlk)
     rw [appElem_mk] at hR
     have e:=ad_inj ((hav (.map [])).symm.trans ((hat (.map [])).trans (congrArg Prod.fst (Option.some.inj hR)).symm))
     subst e
     exact ⟨hide hf,hide hkv⟩
    have HKY:=hide (show keyOf Tryz.prog 160 (keyv x1 x2)=some kl from hkey)
    have HR1:=hide hrg1
    have HLT1:=hide hlt
    have HB4:=hide (show Below w1.heap.size w1 w4 from (uH HBr).grown hg1 (uH HBr).size (fun k e=>by cases e;omega))
    obtain ⟨b,hbb⟩:∃b,reachB qs qu nm=b:=⟨_,rfl⟩
    have CRq:=hide (fun wx (hb:Below w.heap.size w wx)=>by have:=uH CR wx hb qu;rw [hbb] at this;exact this)
    have HBB:=hide hbb
    have PB:=(uH P1).below (uH HB4)
    have q0:=PB.at 0
    simp at q0
    have q0b:=(PB.al (.cells #[.string (bs x1),.int .i64 x2] 160)).at 0
    have q0c:=((PB.al (.cells #[.string (bs x1),.int .i64 x2] 160)).al (.cells #[.int .i64 id,.string (bs qu),.slice zo zl zc] 106)).at 0
    simp at q0b q0c
    clear hkey hR hat hrg1 hlt hg1 hs1 hlk hbb PB CR CU
    go_wp2_with fail
    refine (uH CRq _ ?_).mono ?_
    ·exact yA (yA (yB (uH HB1) (uH HB4)) _) _
    rintro e w5 ⟨rfl,hb⟩
    have HB5:=hide (yB (yA (yA (yH _ w4) (.cells #[.string (bs x1),.int .i64 x2] 160)) (.cells #[.int .i64 id,.string (bs qu),.slice zo zl zc] 106)) hb)
    have KB:=((yD w4 #[.string (bs x1),.int .i64 x2] 160).al (.cells #[.int .i64 id,.string (bs qu),.slice zo zl zc] 106)).below hb
    have z0:=KB.at 0
    have z1:=KB.at 1
    simp at z0 z1
    have HR5:=hide ((uH HR1).kept (grownBy_below (grownBy_refl w4 none) (uH HB5)) (by simp) (by simp))
    have HW5:=hide (show Below w1.heap.size w1 w5 from yB (uH HB4) (uH HB5))
    clear hb KB CRq q0 q0b q0c hen HR1
    cases b with
    | true=>
     have HST:=hide ((uH HKN).stay (v:=⟨id,qu,zo,zl,zc⟩) (uH HFD) (uH HKV) (uH HBB))
     go_wp2
     go_roundw
     case rel=>exact ⟨_,cnt1,D,HR5,HST,hide (left_stay (uH HLT)),HW5⟩
     case measure=>rw [(uH HR5).left_eq,hrg.left_eq];exact uH HLT1
    | false=>
     have HST:=hide ((uH HKN).strike (v:=⟨id,qu,zo,zl,zc⟩) (uH HFD) (uH HKV) (uH HBB))
     have hrg5:=uH HR5
     go_wp2_with (first
      | (at_delete;refine wpList_delete_ranges _ rfl _ _ 153 160 rfl 106 keyLaw Tryz.underlying153 _ bm r hs.length _ _ _ rfl hrg5 _ _ rfl (uH HKY) ?_;intro w6 cnt2 hrg6 hle hturn;go_frame)
      | go_in)
     rw [strike_twice] at hrg6
     have HW6:=hide (show Below w1.heap.size w1 w6 from (uH HW5).grown hturn.grown (uH HW5).size (fun k e=>by cases e;omega))
     have HR6:=hide hrg6
     have HLE:=hide hle
     clear hturn hrg5 hrg6 hle
     go_roundw
     case rel=>exact ⟨_,cnt2,_,HR6,HST,hide (left_strike (keyLaw.key (uH HKY)) (uH HLT)),HW6⟩
     case measure=>rw [(uH HR6).left_eq,hrg.left_eq];have:=uH HLE;have:=uH HLT1;omega
end Go.Proofs.YtokabeokclpljaaGreat
namespace Go.Proofs.YtokabeokclpljaaGreat
section
open Go.RowKit Go.Shelf
attribute [local go_sem] Oper.semAt_some
abbrev ints (st:List Int):List Value:=st.map (Value.int .i64)
def KpC (p:Nat) (W W':World):Prop:=∀k o,k≠p→W.heap[k]? = some o→o.isCells=true→W'.heap[k]? = some o
theorem kpc_t {p:Nat} {A B C:World} (h:KpC p A B) (k:KpC p B C):KpC p A C:=fun i o hi ho hc=>k i o hi (h i o hi ho hc) hc
theorem kpc_b {p:Nat} {w:World} (W:World) (l:Nat) (o o':Obj) (hl:w.heap.size≤l) (h:W.heap[l]? = some o) (h1:o.isCells=false) (h2:o.isWalk=false):KpC p W (W.putObj l o'):=fun k q hk hq hc=>by
 have hne:k≠l:=fun e=>by
  subst e
  rw [hq] at h
  cases h
  rw [h1] at hc
  cases hc
 exact ((grownBy_putObj' W l o').block k (lt_of_block hq) (by simp;omega)).trans hq
theorem kpc_below {p:Nat} {W W':World} (h:Below W.heap.size W W'):KpC p W W':=fun k o _ ho _=>(h.block k (lt_of_block ho)).trans ho
theorem kpc_set {p:Nat} (W:World) (j:Nat) (u:Value):KpC p W (W.setCell ⟨p,j,none⟩ u):=fun k o hk ho _=>(heap_setCell_other W ⟨p,j,none⟩ k u hk).trans ho
theorem back_nil (n l Bs:Nat) (J:List (Int×Int)→World→Prop) (W:World) (hBs:W.cell? ⟨Bs,0,none⟩=some (.slice none 0 0)) (h0:J [] W) :
  CallsIn Fence.wide n Tryz.prog 196 #[.func (.yield l) #[] #[],.pointer (some ⟨Bs,0,none⟩)] W fun e W'=>(∃v,e=.returned v)∧J [] W':=by
 refine callsIn_of_wp Tryz.func196 rfl trivial ?_ rfl
 simp only [Tryz.ntmps196,List.size_toArray,List.length_cons,List.length_nil,Nat.reduceAdd,Nat.reduceSub,Array.replicate_succ,Array.replicate_zero,List.push_toArray,List.append_toArray,List.nil_append,List.cons_append]
 gi_wp2
 gi_loopw [3] (fun i wr=>i=.int .i64 (-1)∧J [] wr) (fun _ _=>0)
 case atStart=>exact ⟨by go_num,h0⟩
 case round=>
  obtain ⟨rfl,hJs⟩:=hrel
  gi_wp2
  go_end0
  exact ⟨⟨_,rfl⟩,hJs⟩
theorem back_some (n l Bs p g cap:Nat) (st:List Int) (J Jx:List (Int×Int)→World→Prop)
  (hY:∀pre x W1,J pre W1→pre.length<st.length→YieldAt Fence.wide (n - 1) Tryz.prog l #[.int .i64 x.1,.int .i64 x.2] W1 fun e W'=>
   (e=.returned (.bool true)∧J (pre++[x]) W'∧KpC p W1 W')∨(e=.returned (.bool false)∧Jx (pre++[x]) W'))
  (W:World) (cur:Array Value) (hBs:Go.Boxed W Bs 29 (.slice (some ⟨g,0,none⟩) st.length cap)) (hg:W.heap[g]? = some (.cells cur 3 (0,0))) (hcur:∀j (h:j<st.length),cur[j]? = some (.int .i64 st[j])) (hp:Bs≠p) (hpg:g≠p) (hl:st.length≤1048576) (h0:J [] W) :
  CallsIn Fence.wide n Tryz.prog 196 #[.func (.yield l) #[] #[],.pointer (some ⟨Bs,0,none⟩)] W fun e W'=>(∃v,e=.returned v)∧
   ((∃ys:List (Int×Int),Hid (ys.map Prod.snd=st.reverse)∧J ys W')∨(∃pre,Jx pre W')):=by
 have HY:=hide hY
 have HBs:=hide hBs
 have HG:=hide hg
 have HCU:=hide hcur
 have H0:=hide h0
 have hc0:=hBs.cell
 clear hY hBs hg hcur h0
 refine callsIn_of_wp Tryz.func196 rfl trivial ?_ rfl
 simp only [Tryz.ntmps196,List.size_toArray,List.length_cons,List.length_nil,Nat.reduceAdd,Nat.reduceSub,Array.replicate_succ,Array.replicate_zero,List.push_toArray,List.append_toArray,List.nil_append,List.cons_append]
 gi_wp2
 clear hc0
 gi_loopw [3] (fun i wr=>∃(k:Nat) (pre:List (Int×Int)),k≤st.length∧i=.int .i64 ((k:Int) - 1)∧Hid (pre.length+k=st.length)∧Hid (pre.map Prod.snd=(st.drop k).reverse)∧Hid (J pre wr)∧Hid (Go.Boxed wr Bs 29 (.slice (some ⟨g,0,none⟩) st.length cap))∧Hid (wr.heap[g]? = some (.cells cur 3 (0,0)))) (fun i _=>(intOf i+1).toNat)
 case atStart=>exact ⟨st.length,[],yJ _,by go_num,hide (by simp),hide (by simp),H0,HBs,HG⟩
 case round=>
  obtain ⟨k,pre,hk,rfl,HL,HM,HJ,HB,HGr⟩:=hrel
  cases k with
  | zero=>
   gi_wp2
   go_end0
   exact ⟨⟨_,rfl⟩,.inl ⟨pre,hide (by rw [uH HM];rfl),uH HJ⟩⟩
  | succ j=>
   have hj:j<st.length:=by omega
   have hcell:wr.cell? ⟨g,j,none⟩=some (.int .i64 st[j]):=by
    have:=uH HCU j hj
    simp [World.cell?,uH HGr,this]
   have hbox:=(uH HB).cell
   obtain ⟨fn,tmps,assign,body,hy,hR⟩:=uH HY pre ((j:Int),st[j]) wr (uH HJ) (by have:=uH HL;omega)
   have HRR:=hide hR
   have HM2:=hide (show (pre++[((j:Int),st[j])]).map Prod.snd=(st.drop j).reverse by rw [List.map_append,uH HM,List.drop_eq_getElem_cons hj,List.reverse_cons];rfl)
   have hij:((j+1:Nat):Int) - 1=(j:Int):=by omega
   obtain ⟨y,hyy⟩:∃y,st[j]=y:=⟨_,rfl⟩
   rw [hyy] at hcell hy HRR HM2
   simp only at hy
   rw [hij]
   have j0:(0:Int)≤j:=by omega
   have j1:(j:Int)<st.length:=by omega
   clear hR hyy hij HM
   gi_wp2
   refine ⟨(by intro e;cases e),?_⟩
   refine (uH HRR).mono ?_
   rintro e W3 (⟨rfl,hJ3,hk3⟩ | ⟨rfl,hJx3⟩)
   ·have HB3:=hide (show Go.Boxed W3 Bs 29 (.slice (some ⟨g,0,none⟩) st.length cap) from hk3 Bs _ hp (uH HB) rfl)
    have HG3:=hide (hk3 g _ hpg (uH HGr) rfl)
    have HJ3:=hide hJ3
    clear hk3 hJ3 hcell hbox hy HRR
    gi_wp2
    go_roundw
    case rel=>exact ⟨j,pre++[((j:Int),y)],by omega,by go_num,hide (by have:=uH HL;simp;omega),HM2,HJ3,HB3,HG3⟩
    case measure=>simp [intOf]
   ·gi_wp2
    refine bodyPost_ret (results_none rfl _ _ _) rfl ?_
    exact ⟨⟨_,rfl⟩,.inr ⟨_,hJx3⟩⟩
theorem back_stops (n Bs p base:Nat) (v:Value) (st:List Int) (w:World) (hBs:Go.Boxed w Bs 29 v) (hrow:w.ownsRow base 3 1 v st.length (ints st)) (hp:Bs≠p) (hpv:some p≠v.ownBlock) (hl:st.length≤1048576) :
  SeqStopsK Fence.wide n Tryz.prog 196 #[.pointer (some ⟨Bs,0,none⟩)] (fun x:Int×Int=>#[.int .i64 x.1,.int .i64 x.2]) (KpC p) (fun ys=>Hid (ys.map Prod.snd=st.reverse)) (fun _=>True) st.length w:=by
 intro l J Jx W hW hJ hJx hY h0
 have hB:Go.Boxed W Bs 29 v:=boxed_below hBs hW
 have hr:=row_below hrow hW
 rcases hr.2 with ⟨rfl,hz⟩ | ⟨g,cap,cur,rfl,_,hgb,hle,_,hsz,hx⟩
 ·have:st=[]:=List.eq_nil_of_length_eq_zero hz
  subst this
  exact (back_nil n l Bs J W hB.cell h0).mono fun e W' ⟨he,hj⟩=>⟨he,.inl ⟨[],hide rfl,hj⟩⟩
 ·refine (back_some n l Bs p g cap st J Jx hY W cur hB hgb (fun j h=>?_) hp (fun e=>hpv (by simp [Value.ownBlock,e])) hl h0).mono ?_
  ·have e1:(cur.toList.take (st.length*1))[j]? = some (.int .i64 st[j]):=by rw [hx];simp [h]
   rw [List.getElem?_take_of_lt (by omega)] at e1
   simpa using e1
  ·rintro e W' ⟨he,⟨ys,h1,h2⟩ | ⟨pre,h2⟩⟩
   ·exact ⟨he,.inl ⟨ys,h1,h2⟩⟩
   ·exact ⟨he,.inr ⟨pre,trivial,h2⟩⟩
theorem back_any (v:Value) (w:World) (hv:v.oneCell'=true) :
  Calls Tryz.prog 168 #[v] w fun e w'=>e=.returned (.func (.func 196) #[] #[.pointer (some ⟨w.heap.size,0,none⟩)])∧w.alloc (.cells #[v] 29)=w':=by
 have hmf:∀(fn:Fn) (first cap:Array Value) (w:World),(Instr.makeFunc fn first cap).run Tryz.prog w=.ok (.func fn first cap) w:=fun _ _ _ _=>rfl
 go_enter Tryz.func168,Tryz.ntmps168
 go_wp2
 go_ret
 exact ⟨rfl,rfl⟩
end
section
open Go.RowKit
def leT (a b:List UInt8):Bool:=Op.bytesLess (bs a).toList (bs b).toList||((bs a).toList==(bs b).toList)
def machsFrom (ck:Int):List UInt8→List Mac→Bool
 | _,[]=>true
 | last,m::t=>!leT m.name last&&(nameOk m.name&&(decide (0≤m.seen)&&(decide (m.seen≤ck)&&machsFrom ck m.name t)))
def machsOkV (s:St):Bool:=decide (s.ms.length≤20)&&(machsFrom s.clock [] s.ms&&(sumR (capsOf s.ms)).2.2)
theorem machsFrom_step {ck:Int} {last:List UInt8} {l:List Mac} {k:Nat} (h:k<l.length):machsFrom ck last (l.drop k)=(!leT l[k].name last&&(nameOk l[k].name&&(decide (0≤l[k].seen)&&(decide (l[k].seen≤ck)&&machsFrom ck l[k].name (l.drop (k+1)))))):=by
 rw [List.drop_eq_getElem_cons h,machsFrom]
theorem machsFrom_end {ck:Int} {last:List UInt8} {l:List Mac} {k:Nat} (h:l.length≤k):machsFrom ck last (l.drop k)=true:=by
 rw [List.drop_of_length_le h];rfl
theorem machinesOk_any (x:Sls) (s:St) (w:World) (h:SRow w x s) (hf:FitSt s) :
  Calls Tryz.prog 77 #[sv x s] w fun e w'=>e=.returned (.bool (machsOkV s))∧Below w.heap.size w w':=by
 have hml:x.ml≤1048576:=by have:=h.len.2.2.1;have:=hf.2.2.1.1;omega
 have HR:=hide h.2.2.1
 have HL:=hide h.2.2.1.1
 have HFM:=hide hf.2.2.1
 obtain ⟨⟨cx,cy,co⟩,hco⟩:∃r,sumR (capsOf s.ms)=r:=⟨_,rfl⟩
 have CC:=hide (fun wx (hb:Below w.heap.size w wx)=>by have:=caps_any x s wx (h.2.2.1.below hb) hml;rw [hco] at this;exact this)
 have HS:=hide (show machsOkV s=(decide (x.ml≤20)&&(machsFrom s.clock [] s.ms&&co)) by rw [machsOkV,←h.2.2.1.1,hco])
 obtain ⟨o,ho⟩:∃o,machsOkV s=o:=⟨_,rfl⟩
 rw [ho] at HS ⊢
 clear h hf ho hco
 have hb0:=yA (yH _ w) (.cells (svc x s) 36)
 have P0:=hide (yD w (svc x s) 36)
 obtain ⟨qa,ql,qc,aa,al,ac,ma,ml,mc,ca,cl,cc⟩:=x
 obtain ⟨qs,clock,epoch,next,serial,apps,ms,cs⟩:=s
 simp only at hml HR HL HFM CC HS P0 hb0
 have HB0:=hide hb0
 clear hb0
 by_cases h40:ml≤20
 case neg=>
  have hi:(20:Int)<ml:=by omega
  rw [decide_eq_false h40] at HS
  go_enter Tryz.func77,Tryz.ntmps77
  go_wp2
  go_ret
  exact ⟨yF (by rw [uH HS];simp),uH HB0⟩
 have hi:¬(20:Int)<ml:=by omega
 rw [decide_eq_true h40,Bool.true_and] at HS
 clear h40
 go_enter Tryz.func77,Tryz.ntmps77
 go_wp2
 go_loopw [3,15] (fun la i wr=>∃(k:Nat) (last:List UInt8),k≤ml∧i=.int .i64 k∧la=.string (bs last)∧Hid (o=(machsFrom clock last (ms.drop k)&&co))∧Hid (Blk wr w.heap.size (svc ⟨qa,ql,qc,aa,al,ac,ma,ml,mc,ca,cl,cc⟩ ⟨qs,clock,epoch,next,serial,apps,ms,cs⟩) 36)∧Hid (Below w.heap.size w wr)) (fun _ i _=>ml - (intOf i).toNat)
 case atStart=>exact ⟨0,[],Nat.zero_le _,rfl,rfl,hide (by rw [uH HS];simp),P0,HB0⟩
 case round=>
  obtain ⟨k,last,hk,rfl,rfl,HO,P1,HB⟩:=hrel
  clear P0 HB0 HS
  by_cases hlt:k<ml
  ·obtain ⟨b,off,rfl,hq⟩:=((uH HR).below (uH HB)).at hlt
   have hkl:k<ms.length:=by have:=uH HL;omega
   have hst:=hide (machsFrom_step (ck:=clock) (last:=last) (l:=ms) (k:=k) hkl)
   have hfa:=(uH HFM).2 _ (yM hkl)
   obtain ⟨c0,c1,c2,c3⟩:=hq hkl
   obtain ⟨⟨nm,me,cp,se⟩,hs⟩:∃s,ms[k]=s:=⟨_,rfl⟩
   rw [hs] at c0 c1 c2 c3 hst hfa
   simp only at c0 c1 c2 c3 hst hfa
   obtain ⟨no,hno⟩:∃b,nameOk nm=b:=⟨_,rfl⟩
   have C1:=hide (fun wx=>by have:=implNameOk_any (bs nm) wx (by rw [bs_size];exact hfa);rw [show nameOk (bs nm).data.toList=no by rw [←hno];simp [bs]] at this;exact this)
   obtain ⟨l1,hl1⟩:∃b,Op.bytesLess (bs nm).toList (bs last).toList=b:=⟨_,rfl⟩
   obtain ⟨l2,hl2⟩:∃b,((bs nm).toList==(bs last).toList)=b:=⟨_,rfl⟩
   have hst2:=hide (show machsFrom clock last (ms.drop k)=(!(l1||l2)&&(no&&(decide (0≤se)&&(decide (se≤clock)&&machsFrom clock nm (ms.drop (k+1)))))) by rw [uH hst,leT,hl1,hl2,hno])
   have hb2:=yA (yH _ wr) (.cells #[.string (bs nm),.int .i64 me,.int .i64 cp,.int .i64 se] 113)
   have P2:=hide ((uH P1).below hb2)
   have HB2:=hide (yB (uH HB) hb2)
   have p1:=(uH P2).at 1
   simp at p1
   clear hq hs hkl hfa hb2 hno hst CC
   cases l1<;>cases l2
   case false.false=>
    go_wp2_with fail
    refine (uH C1 _).mono ?_
    rintro e w1 ⟨rfl,rfl⟩
    cases no with
    | false=>
     go_wp2
     go_ret
     exact ⟨yF (by rw [uH HO,uH hst2];simp),uH HB2⟩
    | true=>
    by_cases h1:0≤se
    case neg=>
     have h1':se<0:=by omega
     go_wp2
     go_ret
     exact ⟨yF (by rw [uH HO,uH hst2,decide_eq_false (show ¬0≤se by omega)];simp),uH HB2⟩
    by_cases h2:se≤clock
    case neg=>
     have h1':¬se<0:=by omega
     have h2':clock<se:=by omega
     go_wp2
     go_ret
     exact ⟨yF (by rw [uH HO,uH hst2,decide_eq_false (show ¬se≤clock by omega)];simp),uH HB2⟩
    have h1':¬se<0:=by omega
    have h2':¬clock<se:=by omega
    have HO2:=hide (show o=(machsFrom clock nm (ms.drop (k+1))&&co) by rw [uH HO,uH hst2,decide_eq_true h1,decide_eq_true h2];simp)
    go_wp2
    go_roundw
    case rel=>exact ⟨k+1,nm,by omega,by go_num,rfl,HO2,P2,HB2⟩
    case measure=>simp [intOf];omega
   all_goals
    go_wp2
    go_ret
    exact ⟨yF (by rw [uH HO,uH hst2];simp),uH HB2⟩
  ·have HO2:=hide (show o=co by rw [uH HO,machsFrom_end (by have:=uH HL;omega)];simp)
   have p0:=(uH P1).at 0;have p1:=(uH P1).at 1;have p2:=(uH P1).at 2;have p3:=(uH P1).at 3
   have p4:=(uH P1).at 4;have p5:=(uH P1).at 5;have p6:=(uH P1).at 6;have p7:=(uH P1).at 7
   simp at p0 p1 p2 p3 p4 p5 p6 p7
   go_wp2_with fail
   refine (uH CC _ (uH HB)).mono ?_
   rintro e w1 ⟨rfl,hb⟩
   have HB2:=hide (yA (yB (uH HB) hb) (.cells #[.int .i64 cx,.int .i64 cy] 52))
   clear hb CC
   go_wp2
   go_ret
   exact ⟨yF (by rw [uH HO2]),uH HB2⟩
end
section
open Go.RowKit Go.Maps
def LFS (w w1:World) (nm:List UInt8) (ux uy tx ty dx dy nx ny:Int) (qa:Option Addr) (ql qc:Nat) (aa:Option Addr) (al ac:Nat) (ma:Option Addr) (ml mc:Nat) (ca:Option Addr) (cl cc:Nat) (qs:List Q) (clock epoch next serial:Int) (apps:List Appl) (ms:List Mac) (cs:List Con) (c:Nat) (fs:List Bool) (us:List Nat):Act:={ tmps:=#[sv ⟨qa,ql,qc,aa,al,ac,ma,ml,mc,ca,cl,cc⟩ ⟨qs,clock,epoch,next,serial,apps,ms,cs⟩,.string (bs nm),.pointer (some ⟨w.heap.size,0,none⟩),undef,.pointer (some ⟨w.heap.size+1,0,none⟩),mkPtr (fs.getD 0 false) (us.getD 0 0),mkPtr (fs.getD 1 false) (us.getD 1 0),mkPtr (fs.getD 2 false) (us.getD 2 0),undef,.pointer (some ⟨w.heap.size,0,none⟩),.slice qa ql qc,.string (bs nm),.bool true,.bool false,undef,.agg #[.slice qa ql qc,.int .i64 clock,.int .i64 epoch,.int .i64 next,.int .i64 serial,.slice aa al ac,.slice ma ml mc,.slice ca cl cc],.string (bs nm),mkRes (Nat.ble 1 c) (rv ux uy),.pointer (some ⟨w.heap.size,0,none⟩),.slice qa ql qc,.string (bs nm),.agg #[.slice qa ql qc,.int .i64 clock,.int .i64 epoch,.int .i64 next,.int .i64 serial,.slice aa al ac,.slice ma ml mc,.slice ca cl cc],mkRes (Nat.ble 2 c) (rv tx ty),mkRes (Nat.ble 3 c) (rv dx dy),.agg #[.slice qa ql qc,.int .i64 clock,.int .i64 epoch,.int .i64 next,.int .i64 serial,.slice aa al ac,.slice ma ml mc,.slice ca cl cc],.string (bs nm),mkRes (Nat.ble 4 c) (rv nx ny),undef,undef,undef,undef,undef,undef,undef,undef,undef,undef,undef,undef,undef,undef,undef,undef,undef,undef,undef,undef,undef,undef,undef,undef,undef,undef,undef,undef,undef,undef],defers:=[] }
def LMS:Mul:=⟨18,[2,7,8,11],[12,13,14],[15,16,17],[true,true,false,true,true,true,true,false,false,true,true,false,false,false,false,false,false,false]⟩
theorem specLack_any (x:Sls) (s:St) (nm:List UInt8) (w:World) (h:SRow w x s) (hf:FitSt s) :
  Calls Tryz.prog 20 #[sv x s,.string (bs nm)] w fun e w'=>e=.returned (rv (lackV s nm).1 (lackV s nm).2)∧Below w.heap.size w w':=by
 have hql:x.ql≤1048576:=h.ql hf
 have hml:x.ml≤1048576:=h.ml hf
 have CL:=hide (fun wx (hb:Below w.heap.size w wx)=>specLeaf_any x.qa x.ql x.qc s.qs nm wx (h.1.below hb) hql (fun q hq=>(hf.1.2 q hq).1))
 have CT:=hide (fun wx (hb:Below w.heap.size w wx)=>specTotal_any x s wx (h.2.2.1.below hb) hml)
 have CD:=hide (fun wx (hb:Below w.heap.size w wx)=>show Calls Tryz.prog 60 #[.slice x.qa x.ql x.qc,.string (bs nm),rv (totalV s).1 (totalV s).2] wx (fun e w'=>e=.returned (rv (dueV s nm).1 (dueV s nm).2)∧Below wx.heap.size wx w') from specDueOf_any x.qa x.ql x.qc s.qs nm (totalV s).1 (totalV s).2 wx (h.1.below hb) hql (fun q hq=>(hf.1.2 q hq).1))
 have CU:=hide (fun wx (hb:Below w.heap.size w wx)=>specUsedBy_any x s nm wx (h.below hb) hf)
 have CW:=hide (fun wx (hb:Below w.heap.size w wx)=>l06Wants_any x s nm wx (h.below hb) hf)
 have HU:=hide (used_ok s nm)
 have HD:=hide (due_ok s nm)
 have HW:=hide (want_ok s nm)
 obtain ⟨lf,hlf⟩:∃b,leaf s.qs nm=b:=⟨_,rfl⟩
 obtain ⟨⟨tx,ty⟩,ht⟩:∃t,totalV s=t:=⟨_,rfl⟩
 obtain ⟨⟨dx,dy⟩,hd⟩:∃t,dueV s nm=t:=⟨_,rfl⟩
 obtain ⟨⟨ux,uy⟩,hu⟩:∃t,usedByV s nm=t:=⟨_,rfl⟩
 obtain ⟨⟨nx,ny⟩,hn⟩:∃t,wantV s nm=t:=⟨_,rfl⟩
 have HO:lackV s nm=if lf=true then (lack1 dx ux nx,lack1 dy uy ny) else (0,0):=by simp only [lackV,hlf,hu,hd,hn]
 rw [show (sumR (capsOf s.ms)).1=tx from congrArg Prod.fst ht,show (sumR (capsOf s.ms)).2.1=ty from congrArg Prod.snd ht] at CT
 rw [hlf] at CL
 rw [ht,hd] at CD
 rw [hu] at CU HU
 rw [hd] at HD
 rw [hn] at CW HW
 obtain ⟨⟨zx,zy⟩,hz⟩:∃z,(if lf=true then (lack1 dx ux nx,lack1 dy uy ny) else (0,0))=z:=⟨_,rfl⟩
 rw [HO,hz]
 have HZ:=hide hz
 clear hz
 simp only at CD CU CW HU HD HW
 obtain ⟨u0,u1,u2,u3⟩:=resOk_bd (uH HU)
 obtain ⟨d0,d1,d2,d3⟩:=resOk_bd (uH HD)
 obtain ⟨n0,n1,n2,n3⟩:=resOk_bd (uH HW)
 clear h hf hlf ht hd hu hn HO HU HD HW
 obtain ⟨qa,ql,qc,aa,al,ac,ma,ml,mc,ca,cl,cc⟩:=x
 obtain ⟨qs,clock,epoch,next,serial,apps,ms,cs⟩:=s
 simp only at CL CT CD CU CW hql hml
 have HB0:=hide (capW_below w (svc ⟨qa,ql,qc,aa,al,ac,ma,ml,mc,ca,cl,cc⟩ ⟨qs,clock,epoch,next,serial,apps,ms,cs⟩))
 have V0:=hide (capW_var w (svc ⟨qa,ql,qc,aa,al,ac,ma,ml,mc,ca,cl,cc⟩ ⟨qs,clock,epoch,next,serial,apps,ms,cs⟩))
 have P0:=hide ((boxW_blk w (svc ⟨qa,ql,qc,aa,al,ac,ma,ml,mc,ca,cl,cc⟩ ⟨qs,clock,epoch,next,serial,apps,ms,cs⟩)).al (.cells #[.int .i64 0,.int .i64 0] 52))
 go_enter Tryz.func20,Tryz.ntmps20
 go_wp2_with fail
 refine (uH CL _ (uH HB0)).mono ?_
 rintro e w1 ⟨rfl,hb⟩
 have HB1:=hide (yB (uH HB0) hb)
 have V1:=hide ((uH V0).below hb)
 have P1:=hide ((uH P0).below hb)
 clear hb HB0 V0 P0 CL
 cases lf
 case false=>
  have hz:=uH HZ
  simp at hz
  obtain ⟨rfl,rfl⟩:=hz
  have k0:=(uH V1).c0
  have k1:=(uH V1).c1
  have k2:=(uH V1).f 0
  have k3:=(uH V1).f 1
  have k4:=(uH V1).s0 (.int .i64 0)
  have k5:=(uH V1).s1 (.int .i64 0) (.int .i64 0)
  go_wp2
  refine bodyPost_ret (v:=rv 0 0) (by simp [results,Tryz.results20,go_sem,k4,k5]) rfl ⟨rfl,?_⟩
  repeat (first | exact uH HB1 | refine yA ?_ _ | refine Below.drew ?_ | refine yC ?_ _ _ _ (by omega))
 have hz:=uH HZ
 rw [if_pos rfl] at hz
 simp only [Prod.mk.injEq] at hz
 have HZX:=hide hz.1
 have HZY:=hide hz.2
 clear hz HZ
 obtain ⟨q0,q1,q2,q3,q4,q5,q6,q7⟩:_∧_∧_∧_∧_∧_∧_∧_:=⟨(uH P1).at 0,(uH P1).at 1,(uH P1).at 2,(uH P1).at 3,(uH P1).at 4,(uH P1).at 5,(uH P1).at 6,(uH P1).at 7⟩
 simp at q0 q1 q2 q3 q4 q5 q6 q7
 have R:∀wx,Kp w1 wx→wx.cell? ⟨w.heap.size,0,none⟩=some (.slice qa ql qc)∧wx.cell? ⟨w.heap.size,1,none⟩=some (.int .i64 clock)∧wx.cell? ⟨w.heap.size,2,none⟩=some (.int .i64 epoch)∧wx.cell? ⟨w.heap.size,3,none⟩=some (.int .i64 next)∧wx.cell? ⟨w.heap.size,4,none⟩=some (.int .i64 serial)∧wx.cell? ⟨w.heap.size,5,none⟩=some (.slice aa al ac)∧wx.cell? ⟨w.heap.size,6,none⟩=some (.slice ma ml mc)∧wx.cell? ⟨w.heap.size,7,none⟩=some (.slice ca cl cc):=fun wx h=>
  ⟨h.cell q0,h.cell q1,h.cell q2,h.cell q3,h.cell q4,h.cell q5,h.cell q6,h.cell q7⟩
 have A0:=hide (Kp.new w1)
 have HS:=hide (kp_holds w1)
 clear P1 q0 q1 q2 q3 q4 q5 q6 q7
 go_wp2_with fail
 go_cut [5,6,7] from 15 to 26 (fun v5 v6 v7 wx=>∃g5 g6 g7,v5=.pointer (some ⟨g5,0,none⟩)∧v6=.pointer (some ⟨g6,0,none⟩)∧v7=.pointer (some ⟨g7,0,none⟩)∧Var wx 52 g5 ux uy∧Var wx 52 g6 dx dy∧Var wx 52 g7 nx ny∧w1.heap.size≤g5∧w1.heap.size≤g6∧w1.heap.size≤g7∧Kp w1 wx)
 case first=>
  refine wp_region_held_drew (S:=fun wx=>Kp w1 wx) (by kernel_rfl) ((uH HS).drew (uH A0)) (fun S0=>?_)
  refine tW 0 15 _ S0 ?_
  try simp only [zW]
  refine tW 1 16 _ S0 ?_
  try simp only [zW]
  refine tW 3 18 _ S0 ?_
  try simp only [zW]
  refine tW 4 19 _ S0 ?_
  try simp only [zW]
  refine tW 5 20 _ S0 ?_
  try simp only [zW]
  refine tW 6 21 _ S0 ?_
  try simp only [zW]
  refine tW 9 24 _ S0 ?_
  try simp only [zW]
  refine tW 10 25 _ S0 ?_
  try simp only [zW]
  refine wpAnyH_is (n':=4+3+3) (l':=LMS.lst 0 [false,false,false] 0) (a':=LFS w w1 nm ux uy tx ty dx dy nx ny qa ql qc aa al ac ma ml mc ca cl cc qs clock epoch next serial apps ms cs 0 [false,false,false] [0,0,0]) rfl (by kernel_rfl) rfl ?_
  refine region_multi (w1:=w1) LMS (LFS w w1 nm ux uy tx ty dx dy nx ny qa ql qc aa al ac ma ml mc ca cl cc qs clock epoch next serial apps ms cs) [(ux,uy),(dx,dy),(nx,ny)] rfl (by as_aux_lemma=>kernel_rfl) ?call ?al ?st ?fin _ S0
  case call=>
   intro c f us wz K hc hf hu kp hK
   obtain ⟨f0,f1,f2,rfl⟩:=list3 hf
   obtain ⟨g5,g6,g7,rfl⟩:=list3 hu
   have hc4:c<4:=hc
   match c,hc4,hK with
   | 0,_,hK=>
    show Mul.step _ _ _ 2 _ _ _
    refine ⟨_,rfl,?_⟩
    simp only [LFS,List.getD_cons_zero,List.getD_cons_succ]
    go_simp
    refine (uH CU _ (yB (uH HB1) kp)).mono ?_
    rintro e w2 ⟨rfl,hb⟩
    go_wp2_with fail
    first | exact hb | exact hK _ hb
   | 1,_,hK=>
    show Mul.step _ _ _ 7 _ _ _
    refine ⟨_,rfl,?_⟩
    simp only [LFS,List.getD_cons_zero,List.getD_cons_succ]
    go_simp
    refine (uH CT _ (yB (uH HB1) kp)).mono ?_
    rintro e w2 ⟨rfl,hb⟩
    go_wp2_with fail
    first | exact hb | exact hK _ hb
   | 2,_,hK=>
    show Mul.step _ _ _ 8 _ _ _
    refine ⟨_,rfl,?_⟩
    simp only [LFS,List.getD_cons_zero,List.getD_cons_succ]
    go_simp
    refine (uH CD _ (yB (uH HB1) kp)).mono ?_
    rintro e w2 ⟨rfl,hb⟩
    go_wp2_with fail
    first | exact hb | exact hK _ hb
   | 3,_,hK=>
    show Mul.step _ _ _ 11 _ _ _
    refine ⟨_,rfl,?_⟩
    simp only [LFS,List.getD_cons_zero,List.getD_cons_succ]
    go_simp
    refine (uH CW _ (yB (uH HB1) kp)).mono ?_
    rintro e w2 ⟨rfl,hb⟩
    go_wp2_with fail
    first | exact hb | exact hK _ hb
  case al=>
   intro j c f us wz K hc hf hu hj hK
   obtain ⟨f0,f1,f2,rfl⟩:=list3 hf
   obtain ⟨g5,g6,g7,rfl⟩:=list3 hu
   match j,hj,hK with
   | 0,hj,hK=>
    show Mul.step _ _ _ 12 _ _ _
    refine ⟨_,rfl,?_⟩
    simp only [LFS,List.getD_cons_zero,List.getD_cons_succ]
    go_simp
    go_wp2_with fail
    exact hK
   | 1,hj,hK=>
    show Mul.step _ _ _ 13 _ _ _
    refine ⟨_,rfl,?_⟩
    simp only [LFS,List.getD_cons_zero,List.getD_cons_succ]
    go_simp
    go_wp2_with fail
    exact hK
   | 2,hj,hK=>
    show Mul.step _ _ _ 14 _ _ _
    refine ⟨_,rfl,?_⟩
    simp only [LFS,List.getD_cons_zero,List.getD_cons_succ]
    go_simp
    go_wp2_with fail
    exact hK
   | j+3,hj,_=>simp at hj
  case st=>
   intro s us wz K hs hu hv hK
   obtain ⟨g5,g6,g7,rfl⟩:=list3 hu
   have hs4:s<3:=hs
   match s,hs4,hv,hK with
   | 0,_,hv,hK=>
    replace hv:Var wz 52 g5 0 0:=hv
    have y0:=hv.c0
    have y1:=hv.c1
    have y2:=hv.f 0
    have y3:=hv.f 1
    show Mul.step _ _ _ 15 { tmps:=#[sv ⟨qa,ql,qc,aa,al,ac,ma,ml,mc,ca,cl,cc⟩ ⟨qs,clock,epoch,next,serial,apps,ms,cs⟩,.string (bs nm),.pointer (some ⟨w.heap.size,0,none⟩),undef,.pointer (some ⟨w.heap.size+1,0,none⟩),.pointer (some ⟨g5,0,none⟩),.pointer (some ⟨g6,0,none⟩),.pointer (some ⟨g7,0,none⟩),undef,.pointer (some ⟨w.heap.size,0,none⟩),.slice qa ql qc,.string (bs nm),.bool true,.bool false,undef,.agg #[.slice qa ql qc,.int .i64 clock,.int .i64 epoch,.int .i64 next,.int .i64 serial,.slice aa al ac,.slice ma ml mc,.slice ca cl cc],.string (bs nm),rv ux uy,.pointer (some ⟨w.heap.size,0,none⟩),.slice qa ql qc,.string (bs nm),.agg #[.slice qa ql qc,.int .i64 clock,.int .i64 epoch,.int .i64 next,.int .i64 serial,.slice aa al ac,.slice ma ml mc,.slice ca cl cc],rv tx ty,rv dx dy,.agg #[.slice qa ql qc,.int .i64 clock,.int .i64 epoch,.int .i64 next,.int .i64 serial,.slice aa al ac,.slice ma ml mc,.slice ca cl cc],.string (bs nm),rv nx ny,undef,undef,undef,undef,undef,undef,undef,undef,undef,undef,undef,undef,undef,undef,undef,undef,undef,undef,undef,undef,undef,undef,undef,undef,undef,undef,undef,undef,undef,undef],defers:=[] } _ _
    refine ⟨_,rfl,?_⟩
    simp only [LFS,List.getD_cons_zero,List.getD_cons_succ]
    go_simp
    go_wp2_with fail
    exact hK
   | 1,_,hv,hK=>
    replace hv:Var wz 52 g6 0 0:=hv
    have y0:=hv.c0
    have y1:=hv.c1
    have y2:=hv.f 0
    have y3:=hv.f 1
    show Mul.step _ _ _ 16 { tmps:=#[sv ⟨qa,ql,qc,aa,al,ac,ma,ml,mc,ca,cl,cc⟩ ⟨qs,clock,epoch,next,serial,apps,ms,cs⟩,.string (bs nm),.pointer (some ⟨w.heap.size,0,none⟩),undef,.pointer (some ⟨w.heap.size+1,0,none⟩),.pointer (some ⟨g5,0,none⟩),.pointer (some ⟨g6,0,none⟩),.pointer (some ⟨g7,0,none⟩),undef,.pointer (some ⟨w.heap.size,0,none⟩),.slice qa ql qc,.string (bs nm),.bool true,.bool false,undef,.agg #[.slice qa ql qc,.int .i64 clock,.int .i64 epoch,.int .i64 next,.int .i64 serial,.slice aa al ac,.slice ma ml mc,.slice ca cl cc],.string (bs nm),rv ux uy,.pointer (some ⟨w.heap.size,0,none⟩),.slice qa ql qc,.string (bs nm),.agg #[.slice qa ql qc,.int .i64 clock,.int .i64 epoch,.int .i64 next,.int .i64 serial,.slice aa al ac,.slice ma ml mc,.slice ca cl cc],rv tx ty,rv dx dy,.agg #[.slice qa ql qc,.int .i64 clock,.int .i64 epoch,.int .i64 next,.int .i64 serial,.slice aa al ac,.slice ma ml mc,.slice ca cl cc],.string (bs nm),rv nx ny,undef,undef,undef,undef,undef,undef,undef,undef,undef,undef,undef,undef,undef,undef,undef,undef,undef,undef,undef,undef,undef,undef,undef,undef,undef,undef,undef,undef,undef,undef],defers:=[] } _ _
    refine ⟨_,rfl,?_⟩
    simp only [LFS,List.getD_cons_zero,List.getD_cons_succ]
    go_simp
    go_wp2_with fail
    exact hK
   | 2,_,hv,hK=>
    replace hv:Var wz 52 g7 0 0:=hv
    have y0:=hv.c0
    have y1:=hv.c1
    have y2:=hv.f 0
    have y3:=hv.f 1
    show Mul.step _ _ _ 17 { tmps:=#[sv ⟨qa,ql,qc,aa,al,ac,ma,ml,mc,ca,cl,cc⟩ ⟨qs,clock,epoch,next,serial,apps,ms,cs⟩,.string (bs nm),.pointer (some ⟨w.heap.size,0,none⟩),undef,.pointer (some ⟨w.heap.size+1,0,none⟩),.pointer (some ⟨g5,0,none⟩),.pointer (some ⟨g6,0,none⟩),.pointer (some ⟨g7,0,none⟩),undef,.pointer (some ⟨w.heap.size,0,none⟩),.slice qa ql qc,.string (bs nm),.bool true,.bool false,undef,.agg #[.slice qa ql qc,.int .i64 clock,.int .i64 epoch,.int .i64 next,.int .i64 serial,.slice aa al ac,.slice ma ml mc,.slice ca cl cc],.string (bs nm),rv ux uy,.pointer (some ⟨w.heap.size,0,none⟩),.slice qa ql qc,.string (bs nm),.agg #[.slice qa ql qc,.int .i64 clock,.int .i64 epoch,.int .i64 next,.int .i64 serial,.slice aa al ac,.slice ma ml mc,.slice ca cl cc],rv tx ty,rv dx dy,.agg #[.slice qa ql qc,.int .i64 clock,.int .i64 epoch,.int .i64 next,.int .i64 serial,.slice aa al ac,.slice ma ml mc,.slice ca cl cc],.string (bs nm),rv nx ny,undef,undef,undef,undef,undef,undef,undef,undef,undef,undef,undef,undef,undef,undef,undef,undef,undef,undef,undef,undef,undef,undef,undef,undef,undef,undef,undef,undef,undef,undef],defers:=[] } _ _
    refine ⟨_,rfl,?_⟩
    simp only [LFS,List.getD_cons_zero,List.getD_cons_succ]
    go_simp
    go_wp2_with fail
    exact hK
  case fin=>
   intro us wz hu hV kp
   obtain ⟨g5,g6,g7,rfl⟩:=list3 hu
   have v5:VB w1 wz g5 ux uy:=hV 0 (by decide)
   have v6:VB w1 wz g6 dx dy:=hV 1 (by decide)
   have v7:VB w1 wz g7 nx ny:=hV 2 (by decide)
   go_wp2_with fail
   go_meet
   exact ⟨g5,g6,g7,rfl,rfl,rfl,v5.2,v6.2,v7.2,v5.1,v6.1,v7.1,kp⟩
 case rest=>
  obtain ⟨g5,g6,g7,rfl,rfl,rfl,hv5,hv6,hv7,hg5,hg6,hg7,hA⟩:=hcut
  obtain ⟨w4,rfl⟩:∃w4,w4=wc:=⟨wc,rfl⟩
  have VR:∀a b:Int,Var (w4.alloc (.cells #[.int .i64 a,.int .i64 b] 52)) 52 (w.heap.size+1) 0 0:=fun a b=>((uH V1).below hA).al _
  have y50:∀a b:Int,(w4.alloc (.cells #[.int .i64 a,.int .i64 b] 52)).cell? ⟨g5,0,none⟩=some (.int .i64 ux):=fun a b=>(hv5.al _).c0
  have y51:∀a b:Int,(w4.alloc (.cells #[.int .i64 a,.int .i64 b] 52)).cell? ⟨g5,1,none⟩=some (.int .i64 uy):=fun a b=>(hv5.al _).c1
  have y60:∀a b:Int,(w4.alloc (.cells #[.int .i64 a,.int .i64 b] 52)).cell? ⟨g6,0,none⟩=some (.int .i64 dx):=fun a b=>(hv6.al _).c0
  have y61:∀a b:Int,(w4.alloc (.cells #[.int .i64 a,.int .i64 b] 52)).cell? ⟨g6,1,none⟩=some (.int .i64 dy):=fun a b=>(hv6.al _).c1
  have y70:∀a b:Int,(w4.alloc (.cells #[.int .i64 a,.int .i64 b] 52)).cell? ⟨g7,0,none⟩=some (.int .i64 nx):=fun a b=>(hv7.al _).c0
  have y71:∀a b:Int,(w4.alloc (.cells #[.int .i64 a,.int .i64 b] 52)).cell? ⟨g7,1,none⟩=some (.int .i64 ny):=fun a b=>(hv7.al _).c1
  have r0:∀a b:Int,(w4.alloc (.cells #[.int .i64 a,.int .i64 b] 52)).cell? ⟨w.heap.size+1,0,none⟩=some (.int .i64 0):=fun a b=>(VR a b).c0
  have r1:∀a b:Int,(w4.alloc (.cells #[.int .i64 a,.int .i64 b] 52)).cell? ⟨w.heap.size+1,1,none⟩=some (.int .i64 0):=fun a b=>(VR a b).c1
  have r2:∀a b:Int,(w4.alloc (.cells #[.int .i64 a,.int .i64 b] 52)).frozen? ⟨w.heap.size+1,0,none⟩=false:=fun a b=>(VR a b).f 0
  have r3:∀a b:Int,(w4.alloc (.cells #[.int .i64 a,.int .i64 b] 52)).frozen? ⟨w.heap.size+1,1,none⟩=false:=fun a b=>(VR a b).f 1
  have k4:=(VR zx zy).s0 (.int .i64 zx)
  have k5:=(VR zx zy).s1 (.int .i64 zx) (.int .i64 zy)
  have HB5:=hide (show Below w.heap.size w (w4.alloc (.cells #[.int .i64 zx,.int .i64 zy] 52)) from yA (yB (uH HB1) hA) _)
  have L1:=hide (fun wx=>l06Least_any (dx - ux) nx wx)
  have L2:=hide (fun wx=>l06Least_any (dy - uy) ny wx)
  clear hv5 hv6 hv7 hA VR R A0 HS
  by_cases hx:ux<dx
  ·by_cases hy:uy<dy
   ·
    rw [←lack_more hx,uH HZX] at L1
    rw [←lack_more hy,uH HZY] at L2
    go_wp2_with fail
    refine (uH L1 _).mono ?_
    rintro e wq ⟨rfl,rfl⟩
    go_wp2_with fail
    refine (uH L2 _).mono ?_
    rintro e wq ⟨rfl,rfl⟩
    go_wp2
    refine bodyPost_ret (v:=rv zx zy) (by simp [results,Tryz.results20,go_sem,k4,k5]) rfl ⟨rfl,?_⟩
    repeat (first | exact uH HB5 | refine yA ?_ _ | refine Below.drew ?_ | refine yC ?_ _ _ _ (by omega))
   ·
    rw [←lack_more hx,uH HZX] at L1
    obtain rfl:zy=0:=by rw [←uH HZY];exact lack_less (by omega) n2
    go_wp2_with fail
    refine (uH L1 _).mono ?_
    rintro e wq ⟨rfl,rfl⟩
    go_wp2
    refine bodyPost_ret (v:=rv zx 0) (by simp [results,Tryz.results20,go_sem,k4,k5]) rfl ⟨rfl,?_⟩
    repeat (first | exact uH HB5 | refine yA ?_ _ | refine Below.drew ?_ | refine yC ?_ _ _ _ (by omega))
  ·by_cases hy:uy<dy
   ·
    obtain rfl:zx=0:=by rw [←uH HZX];exact lack_less (by omega) n0
    rw [←lack_more hy,uH HZY] at L2
    go_wp2_with fail
    refine (uH L2 _).mono ?_
    rintro e wq ⟨rfl,rfl⟩
    go_wp2
    refine bodyPost_ret (v:=rv 0 zy) (by simp [results,Tryz.results20,go_sem,k4,k5]) rfl ⟨rfl,?_⟩
    repeat (first | exact uH HB5 | refine yA ?_ _ | refine Below.drew ?_ | refine yC ?_ _ _ _ (by omega))
   ·
    obtain rfl:zx=0:=by rw [←uH HZX];exact lack_less (by omega) n0
    obtain rfl:zy=0:=by rw [←uH HZY];exact lack_less (by omega) n2
    go_wp2
    refine bodyPost_ret (v:=rv 0 0) (by simp [results,Tryz.results20,go_sem,k4,k5]) rfl ⟨rfl,?_⟩
    repeat (first | exact uH HB5 | refine yA ?_ _ | refine Below.drew ?_ | refine yC ?_ _ _ _ (by omega))
end
end Go.Proofs.YtokabeokclpljaaGreat
