/-
  Several texts of this claim in one, made short by program: UByI, GatherI, BackI, UpM, ShareI.
-/
import Derived.Test.YtdhibeclkdepiaaGreatPackI
import Derived.Maps.RangeWalk
import Derived.Maps.AppendAt
set_option maxRecDepth 100000
set_option maxHeartbeats 16000000
set_option linter.unusedVariables false
set_option linter.unusedSimpArgs false
/-
 Whether a queue is another one,or below it: what the program's reaches answers;a walk over the dump.
-/
namespace Go.Proofs.YtdhibeclkdepiaaGreat
open Go.RowKit Go.Shelf
set_option linter.unusedVariables false
attribute [local go_sem] Oper.semAt_some
def reachB (l:List Q) (nm wt:List UInt8):Bool:=(ups l nm).any (fun q=>decide (q.name=wt))
theorem blk_own {β:Type} (g:Nat) (arr:Array Value) (t:TypeId):Own (fun (_:β) W=>Blk W g arr t):=fun s X Y row hs hg hr=>
 (hg.block g (show Blk X g arr t from hs).lt (fun e=>by
  obtain ⟨o,ho,hc⟩:=hr g e.symm
  rw [show X.heap[g]? = _ from hs] at ho
  cases ho
  cases hc)).trans hs
theorem own_prop {β:Type} (p:β→Prop):Own (fun (s:β) (_:World)=>p s):=fun s X Y row hs _ _=>hs
theorem own_and2 {β:Type} {I I':β→World→Prop} (h:Own I) (h':Own I'):Own (fun s W=>I s W∧I' s W):=fun s W W' row hs hg hr=>⟨h s W W' row hs.1 hg hr,h' s W W' row hs.2 hg hr⟩
set_option maxRecDepth 100000 in
set_option maxHeartbeats 4000000 in
theorem reaches_any (ao:Option Addr) (len cap:Nat) (l:List Q) (nm wt:List UInt8) (w:World) (h:QRow w ao len l) (hl:len≤1048576) (hc:len≤cap) :
  Calls Tryz.prog 197 #[.slice ao len cap,.string (bs nm),.string (bs wt)] w fun e w'=>e=.returned (.bool (reachB l nm wt))∧Below w.heap.size w w':=by
 have HR:=hide h
 have hB4:=yA (yA (yA (yA (Below.refl _ w) (.cells #[.string (bs wt)] 9)) (.cells #[.bool false] 4)) (.cells #[.slice ao len cap] 29)) (.cells #[.string (bs nm)] 9)
 have hK5:=(((yD w #[.string (bs wt)] 9).al (.cells #[.bool false] 4)).al (.cells #[.slice ao len cap] 29)).al (.cells #[.string (bs nm)] 9)
 have hK6:=((yD (w.alloc (.cells #[.string (bs wt)] 9)) #[.bool false] 4).al (.cells #[.slice ao len cap] 29)).al (.cells #[.string (bs nm)] 9)
 have hBq:=((yD ((w.alloc (.cells #[.string (bs wt)] 9)).alloc (.cells #[.bool false] 4)) #[.slice ao len cap] 29).al (.cells #[.string (bs nm)] 9)).at 0
 have hBn:=(yD (((w.alloc (.cells #[.string (bs wt)] 9)).alloc (.cells #[.bool false] 4)).alloc (.cells #[.slice ao len cap] 29)) #[.string (bs nm)] 9).at 0
 have hsz:((((w.alloc (.cells #[.string (bs wt)] 9)).alloc (.cells #[.bool false] 4)).alloc (.cells #[.slice ao len cap] 29)).alloc (.cells #[.string (bs nm)] 9)).heap.size=w.heap.size+4:=by simp only [yE]
 rw [yE] at hK6
 rw [yE,yE] at hBq
 rw [yE,yE,yE] at hBn
 obtain ⟨o,ho⟩:∃o,reachB l nm wt=o:=⟨_,rfl⟩
 have HO:=hide ho
 rw [ho]
 clear h ho
 have hmx:Tryz.prog.follows .mixedOrders=true:=by kernel_rfl
 refine (callsIn_wide (n:=3)).1 ?_
 refine callsIn_of_wp_marks Tryz.func197 rfl trivial ?_ rfl
 simp only [Tryz.ntmps197,List.size_toArray,List.length_cons,List.length_nil,Nat.reduceAdd,Nat.reduceSub,Array.replicate_succ,Array.replicate_zero,List.push_toArray,List.append_toArray,List.nil_append,List.cons_append]
 gi_wp2_with fail
 refine ⟨trivial,?_⟩
 first | refine ⟨(by intro e;cases e),?_⟩ | skip
 refine (callsIn_wide.2 (above_any ao len cap nm _)).mono ?_
 rintro e w2 ⟨rfl,rfl⟩
 gi_wp2
 obtain ⟨W0,hW0⟩:∃W0,(((w.alloc (.cells #[.string (bs wt)] 9)).alloc (.cells #[.bool false] 4)).alloc (.cells #[.slice ao len cap] 29)).alloc (.cells #[.string (bs nm)] 9)=W0:=⟨_,rfl⟩
 rw [hW0] at hB4 hK5 hK6 hBq hBn hsz ⊢
 have HC:=hide (above_stops (3 - 1) (w.heap.size+1+1) (w.heap.size+1+1+1) ao len cap l nm w W0 (uH HR) hB4 hl hc hBq hBn)
 clear hW0 hBq hBn
 refine wpIn_rangeFunc_ownH rfl (by omega) (gf:=206) (lb:=#[.pointer (some ⟨w.heap.size+1+1,0,none⟩),.pointer (some ⟨w.heap.size+1+1+1,0,none⟩)]) rfl trivial (enters_of Tryz.func206 (by kernel_rfl) rfl)
  (uH HC) kpq_t (kpq_b (by omega)) (Below.refl _ _) (fun _=>rfl)
  (fun pre W=>((Blk W w.heap.size #[.string (bs wt)] 9∧Blk W (w.heap.size+1) #[.bool false] 4)∧(∀q ∈ pre,q.1.name≠wt))∧Below w.heap.size w W)
  (fun c pre W=>(Blk W (w.heap.size+1) #[.bool true] 4∧(c=.ret∧∃q ∈ pre,q.1.name=wt))∧Below w.heap.size w W)
  (OwnFrom.and (Own.from (own_and2 (own_and2 (blk_own _ _ _) (blk_own _ _ _)) (own_prop (fun pre:List { q:Q // q ∈ l }=>∀q ∈ pre,q.1.name≠wt))) _) (ownFrom_below (Nat.le_refl _) (by omega)))
  (fun c=>OwnFrom.and (Own.from (own_and2 (blk_own _ _ _) (own_prop (fun pre:List { q:Q // q ∈ l }=>c=.ret∧∃q ∈ pre,q.1.name=wt))) _) (ownFrom_below (Nat.le_refl _) (by omega)))
  ⟨⟨⟨hK5,hK6⟩,by simp⟩,hB4⟩
  (fun x a' W=>∃Bx,w.heap.size+1<Bx∧QBox W Bx x.1∧a' = { tmps:=#[.slice ao len cap,.string (bs nm),.string (bs wt),undef,undef,.pointer (some ⟨w.heap.size,0,none⟩),.pointer (some ⟨w.heap.size+1,0,none⟩),.pointer (some ⟨Bx,0,none⟩),.slice ao len cap,.string (bs nm),.func (.func 206) #[] #[.pointer (some ⟨w.heap.size+1+1,0,none⟩),.pointer (some ⟨w.heap.size+1+1+1,0,none⟩)],qv x.1,undef,undef,undef,undef],defers:=[] })
  (fun x a' _ X Y row hs hg hr=>by
   obtain ⟨Bx,h1,h2,h3⟩:=hs
   refine ⟨Bx,h1,(hg.block Bx h2.lt (fun e=>?_)).trans h2,h3⟩
   obtain ⟨_,o,ho,hc⟩:=hr Bx e.symm
   rw [show X.heap[Bx]? = _ from h2] at ho
   cases ho
   cases hc)
  ?assign ?body ?done ?stop
 case assign=>
  rintro lp pre x W K ⟨⟨⟨k5,k6⟩,hne⟩,hB⟩ hK
  have hlt:=k6.lt
  gi_wp2
  exact hK _ _ ((KeepsOthers.alloc _ _).from _) (kpq_of hB.size (yA (Below.refl _ W) _)) ⟨⟨⟨k5.al _,k6.al _⟩,hne⟩,yA hB _⟩ ⟨W.heap.size,hlt,QBox.new W x.1,rfl⟩
 case body=>
  rintro lp pre ⟨q,hq⟩ a' W hlp _ ⟨⟨⟨k5,k6⟩,hne⟩,hB⟩ ⟨Bx,hBx,hX,rfl⟩ hlt
  simp only at hX
  have hx0:=hX.c0
  have c5:=k5.at 0
  have c6:=k6.at 0
  have f6:=k6.f 0
  simp at c5 c6
  have hbe:=bs_eq q.name wt
  have K5:=hide k5
  have K6:=hide k6
  have HNE:=hide hne
  have HB:=hide hB
  clear k5 k6 hne hB hX
  by_cases he:q.name=wt
  ·have HE:=hide he
   rw [decide_eq_true he] at hbe
   clear he
   gi_wp2
   refine ⟨(KeepsOthers.setCell _ _ _).from _,⟨?_,rfl,⟨q,hq⟩,by simp,uH HE⟩,yC (uH HB) _ _ _ (by omega)⟩
   have:=(uH K6).set 0 (.bool true)
   simpa using this
  ·have HE:=hide he
   rw [decide_eq_false he] at hbe
   clear he
   gi_wp2
   refine ⟨KeepsFrom.refl _ _,kpq_of (uH HB).size (Below.refl _ _),⟨⟨uH K5,uH K6⟩,?_⟩,uH HB⟩
   intro z hz
   rcases List.mem_append.1 hz with hz | hz
   ·exact uH HNE z hz
   ·have:z=⟨q,hq⟩:=by simpa using hz
    rw [this]
    exact uH HE
 case done=>
  rintro D ys W hD hys ⟨⟨⟨k5,k6⟩,hne⟩,hB⟩ hK
  have c6:=k6.at 0
  have f6:=k6.f 0
  simp at c6
  have hres:o=false:=by
   rw [←uH HO,reachB,←hys,List.any_eq_false]
   intro z hz
   obtain ⟨q,hq,rfl⟩:=List.mem_map.1 hz
   simpa using hne q hq
  subst hres
  have K6:=hide k6
  have HB:=hide hB
  have HK:=hide hK
  have hDW:D≠w.heap.size+1:=by omega
  clear k5 k6 hne hB hK
  gi_wp2
  have e2:=(KeepsOthers.setCell W ⟨w.heap.size+1,0,none⟩ (.bool false)).same D _ (uH HK) rfl
  refine ⟨by simp,.inl ⟨_,_,rfl,run_takeDeferred e2,?_⟩⟩
  have KF:Blk _ (w.heap.size+1) _ _:=(World.putObj_heap_other (o:=.deferred none) (w:=W.setCell ⟨w.heap.size+1,0,none⟩ (.bool false)) (Ne.symm hDW)).trans ((uH K6).set 0 (.bool false))
  have r0:=KF.at 0
  simp at r0
  exact ⟨.bool false,(by simp [results,Tryz.results197,go_sem,r0]),rfl,(yC (uH HB) _ _ _ (by omega)).trans (belowK_b (w:=w) (Nat.le_refl _) _ D _ _ (by omega) e2 rfl rfl)⟩
 case stop=>
  rintro D c pre W hD hpre ⟨⟨k6,rfl,q,hq,he⟩,hB⟩ hK
  have hres:o=true:=by
   rw [←uH HO,reachB,List.any_eq_true]
   exact ⟨q.1,hpre.subset (List.mem_map_of_mem hq),by simpa using he⟩
  subst hres
  have K6:=hide k6
  have HB:=hide hB
  have HK:=hide hK
  have hDW:D≠w.heap.size+1:=by omega
  clear k6 hB hK
  gi_wp2
  refine ⟨by simp,.inl ⟨_,_,rfl,run_takeDeferred (uH HK),?_⟩⟩
  have KF:Blk _ (w.heap.size+1) _ _:=(World.putObj_heap_other (o:=.deferred none) (w:=W) (Ne.symm hDW)).trans (uH K6)
  have r0:=KF.at 0
  simp at r0
  exact ⟨.bool true,(by simp [results,Tryz.results197,go_sem,r0]),rfl,(uH HB).trans (belowK_b (w:=w) (Nat.le_refl _) _ D _ _ (by omega) (uH HK) rfl rfl)⟩
end Go.Proofs.YtdhibeclkdepiaaGreat
/-
 What those containers have together that a method's value counts,by the program: used;a walk over the dump.
-/
namespace Go.Proofs.YtdhibeclkdepiaaGreat
open Go.RowKit
set_option linter.unusedVariables false
set_option maxRecDepth 100000 in
set_option maxHeartbeats 4000000 in
theorem usedHas_any (bm:Nat) (p:Con→Bool) (x:Sls) (s:St) (w:World) (h:ConRow w x.ca x.cl s.cs) (hl:x.cl≤1048576)
  (hp:∀wx q,q ∈ s.cs→Below w.heap.size w wx→Calls Tryz.prog 125 #[.map (some bm),conv q] wx fun e w'=>e=.returned (.bool (p q))∧Below wx.heap.size wx w') :
  Calls Tryz.prog 187 #[sv x s,.func (.func 125) #[.map (some bm)] #[]] w fun e w'=>e=.returned (rv (sumR (usedL p s.cs)).1 (sumR (usedL p s.cs)).2.1)∧Below w.heap.size w w':=by
 obtain ⟨i0,hi,hz0,hz1,hz2⟩:=info_parts Tryz.infoR
 have eg:=enters_of Tryz.func125 (by kernel_rfl) rfl
 obtain ⟨qa,ql,qc,aa,al,ac,ma,ml,mc,ca,cl,cc⟩:=x
 obtain ⟨qs,clock,epoch,next,serial,apps,ms,cs⟩:=s
 simp only at h hl ⊢
 have HR:=hide h
 have HL:=hide h.1
 have HP:=hide hp
 obtain ⟨c,hc⟩:∃c:Array Value,#[.slice qa ql qc,.int .i64 clock,.int .i64 epoch,.int .i64 next,.int .i64 serial,.slice aa al ac,.slice ma ml mc,.slice ca cl cc]=c:=⟨_,rfl⟩
 have HC:=hide hc
 have HB0:=hide (capW_below w c)
 have V0:=hide (capW_var w c)
 have HW:=hide (capW_size w c)
 clear h hc hp
 obtain ⟨⟨sx,sy,so⟩,hs⟩:∃s,sumR (usedL p cs)=s:=⟨_,rfl⟩
 have HS:=hide hs
 rw [hs]
 clear hs
 go_enter Tryz.func187,Tryz.ntmps187
 go_wp2
 go_loopw [5,13] (fun v i wr=>∃(k:Nat),k≤cl∧i=.int .i64 k∧Hid (ROwn (capW w c).heap.size wr v (usedL p (cs.take k)))∧Hid (Below (capW w c).heap.size (capW w c) wr)) (fun _ i _=>cl - (intOf i).toNat)
 case atStart=>
  obtain rfl:=uH HC
  exact ⟨0,Nat.zero_le _,rfl,hide (by simpa [usedL] using rown_nil _ _),hide (Below.refl _ _)⟩
 case round=>
  obtain ⟨k,hk,rfl,HO,HB⟩:=hrel
  by_cases hlt:k<cl
  ·obtain ⟨b,off,rfl,hq⟩:=(((uH HR).below (uH HB0)).below (uH HB)).at hlt
   have hkl:k<cs.length:=by have:=uH HL;omega
   have hst:=usedL_step (p:=p) hkl
   obtain ⟨c0,c1,c2,c3,c4⟩:=hq hkl
   obtain ⟨m,hs⟩:∃q,cs[k]=q:=⟨_,rfl⟩
   rw [hs] at c0 c1 c2 c3 c4 hst
   have hal:(usedL p (cs.take k)).length≤1048576:=by have:=used_len (p:=p) (cs.take k);simp at this;omega
   obtain ⟨acc,hacc⟩:∃a,usedL p (cs.take k)=a:=⟨_,rfl⟩
   rw [hacc] at hst hal HO
   obtain ⟨id,ap,nd,me,cp⟩:=m
   simp only at c0 c1 c2 c3 c4 hst
   have HBA:=hide (yA (Below.refl _ wr) (conobj ⟨id,ap,nd,me,cp⟩))
   have HCL:=hide (uH HP (wr.alloc (conobj ⟨id,ap,nd,me,cp⟩)) ⟨id,ap,nd,me,cp⟩ (by rw [←hs];exact List.getElem_mem _) (yB (yB (uH HB0) (uH HB)) (uH HBA)))
   have KB:=hide (yD wr #[.int .i64 id,.int .i64 ap,.string (bs nd),.int .i64 me,.int .i64 cp] 38)
   clear hq hs hkl hacc
   cases hpq:p ⟨id,ap,nd,me,cp⟩ with
   | true=>
    rw [hpq] at HCL
    rw [hpq,if_pos rfl] at hst
    have HST:=hide hst
    clear hpq hst
    go_wp2_with (first
     | ((first | go_at_call 125 | go_at_fn 125);refine (uH HCL).mono ?_;rintro e w1 ⟨rfl,hb⟩;have HB1:=hide (yB (yB (uH HB) (uH HBA)) hb);have HO1:=hide (((uH HO).below (uH HBA)).below hb);have b1:=(uH KB).below hb;have q3:=b1.at 3;have q4:=b1.at 4;simp at q3 q4;have hs2:(capW w c).heap.size≤w1.heap.size:=(uH HB1).size;have hown:w1.ownsRow (capW w c).heap.size 36 2 _ acc.length (rcells acc):=uH HO1;clear b1 hb HCL c0 c1 c2 c3 c4 HO HB)
     | (at_builtin;refine wpList_append_own _ rfl _ _ 141 rfl (capW w c).heap.size 36 i0 (.agg #[.int .i64 0,.int .i64 0]) 2 16 Tryz.underlying141 hi hz0 hz1 hz2 rfl (by decide) _ _ _ rfl (hown.alloc _) ⟨w1.heap.size,0,none⟩ 1 1 (rcell (me,cp)) rfl rfl ?c1 ?c2 ?c3 ?c4 ?c5 ?_))
    case c1=>
     intro j x hj
     match j,hj with
     | 0,hj=>simp at hj;subst hj;simp [Addr.add]
     | 1,hj=>simp at hj;subst hj;simp [Addr.add]
     | _+2,hj=>simp at hj
    case c2=>intro x hx;simp at hx;rcases hx with rfl | rfl<;>rfl
    case c3=>unfold maxLen;omega
    case c4=>omega
    case c5=>simp at hs2 ⊢;omega
    intro v' w3 hown' hgrow _
    have R:=rown_step (q:=(me,cp)) (uH HB1) (uH HO1) hown' hgrow hs2
    have HR3:=hide R
    clear hown' hgrow hown R q3 q4
    go_wp2
    go_roundw
    case rel=>exact ⟨k+1,by omega,by go_num,hide (by rw [uH HST];exact (uH HR3).1),hide (uH HR3).2⟩
    case measure=>simp [intOf];omega
   | false=>
    rw [hpq] at HCL
    rw [hpq,if_neg (by simp)] at hst
    have HST:=hide hst
    clear hpq hst
    go_wp2_with ((first | go_at_call 125 | go_at_fn 125);refine (uH HCL).mono ?_;rintro e w1 ⟨rfl,hb⟩;have HB1:=hide (yB (yB (uH HB) (uH HBA)) hb);have HO1:=hide (((uH HO).below (uH HBA)).below hb);clear hb HCL c0 c1 c2 c3 c4 HO HB)
    go_roundw
    case rel=>exact ⟨k+1,by omega,by go_num,hide (by rw [uH HST];exact uH HO1),HB1⟩
    case measure=>simp [intOf];omega
  ·have htk:cs.take k=cs:=List.take_of_length_le (by have:=uH HL;omega)
   rw [htk] at HO
   obtain ⟨ao,cp,rfl,hrow,hcp⟩:=(uH HO).row
   have hlc:(usedL p cs).length≤1048576:=by have:=used_len (p:=p) cs;have:=uH HL;omega
   have CT:=hide (together_any ao _ cp (usedL p cs) wr hrow hlc)
   rw [uH HS] at CT
   obtain ⟨n,hn⟩:∃n,(usedL p cs).length=n:=⟨_,rfl⟩
   rw [hn] at CT ⊢
   clear hrow hn htk hcp hlc HO
   go_wp2_with fail
   refine (uH CT).mono ?_
   rintro e w1 ⟨rfl,hb⟩
   have hsz:w.heap.size+1<(capW w c).heap.size:=by have:=uH HW;omega
   have V1:Var w1 36 (w.heap.size+1) 0 0:=Var.below ((uH HB).block _ hsz |>.trans (uH V0)) hb
   have HB1:=hide (yB (yB (uH HB0) (uH HB)) hb)
   have V2:=V1.al (.cells #[.int .i64 sx,.int .i64 sy] 36)
   have t0:=V2.c0
   have t1:=V2.c1
   have f0:=V2.f 0
   have f1:=V2.f 1
   have VG:=V2.set sx sy
   have k6:=VG.c0
   have k7:=VG.c1
   clear hb V1 V2 VG CT HB HB0
   go_wp2
   refine bodyPost_ret (v:=rv sx sy) (by simp [results,Tryz.results187,go_sem,k6,k7]) rfl ⟨rfl,?_⟩
   repeat (first | exact uH HB1 | refine yA ?_ _ | refine yC ?_ _ _ _ (by omega))
end Go.Proofs.YtdhibeclkdepiaaGreat
/-
 What a queue uses,by the program: UsedBy;a walk over the dump,with a map that is ranged over and shrinks.
-/
namespace Go.Proofs.YtdhibeclkdepiaaGreat
open Go.RowKit Go.Maps
set_option linter.unusedVariables false
set_option maxRecDepth 100000 in
theorem keyLits_str_inv {n:Nat} {cs:List Value} {ls:List Lit} (h:Tryz.prog.keyLits (n+1) 9 cs=some ls):∃s,cs=[.string s]:=by
 unfold Program.keyLits at h
 rw [Tryz.underlying9] at h
 split at h<;>simp_all
set_option maxRecDepth 100000 in
theorem keyLits_int_inv {n:Nat} {cs:List Value} {ls:List Lit} (h:Tryz.prog.keyLits (n+1) 3 cs=some ls):∃k,cs=[.int .i64 k]:=by
 unfold Program.keyLits at h
 rw [Tryz.underlying3] at h
 split at h<;>simp_all
set_option maxRecDepth 100000 in
theorem key_shape {key:Value} {kl:Lit} (h:keyOf Tryz.prog 133 key=some kl):∃x:List UInt8×Int,key=keyv x.1 x.2:=by
 have hu:=Tryz.underlying133
 obtain ⟨m,hm⟩:=keyTypesMany
 unfold keyOf at h
 rw [hu] at h
 simp only at h
 split at h
 ·rename_i hf
  rw [Bool.and_eq_true] at hf
  have hf2:=hf.2
  cases key with
  | agg cs=>
   simp only [Value.formed,hu,keyCells] at hf2
   obtain ⟨l⟩:=cs
   have hl:l.length=2:=by simpa using hf2
   match l,hl with
   | [c0,c1],_=>
    rw [hm,show (Value.agg #[c0,c1]).cells.toList=[c0,c1] from rfl] at h
    cases hk:Tryz.prog.keyLits (m+2) 133 [c0,c1] with
    | none=>rw [hk] at h;simp at h
    | some ls=>
     unfold Program.keyLits at hk
     rw [hu] at hk
     simp only at hk
     split at hk
     ·simp [keyIntCells,keyStrCells] at hk
      cases h0:Tryz.prog.keyLits (m+1) 9 [c0] with
      | none=>rw [h0] at hk;simp at hk
      | some l0=>
       cases h1:Tryz.prog.keyLits (m+1) 3 [c1] with
       | none=>rw [h0,h1] at hk;simp at hk
       | some l1=>
        obtain ⟨s,e0⟩:=keyLits_str_inv h0
        obtain ⟨k,e1⟩:=keyLits_int_inv h1
        simp at e0 e1
        subst e0 e1
        exact ⟨(s.data.toList,k),by simp [keyv,bs_data]⟩
     ·cases hk
  | _=>simp [Value.formed,hu] at hf2
 ·cases h
theorem left_strike {D:DataW Unit} {left:Lit→Bool} {kl:Lit} (hkl:WideAt.IsKeyLit kl) (h:∀z,left z=true→Maps.has D z=true):∀z,(left z&&!z.sameKey kl)=true→Maps.has (D.del kl) z=true:=fun z hz=>by
 simp only [Bool.and_eq_true,Bool.not_eq_true'] at hz
 rw [has_del_other (fun e=>by subst e;rw [WideAt.sameKey_self hkl] at hz;cases hz.2)]
 exact h z hz.1
theorem left_stay {D:DataW Unit} {left:Lit→Bool} {kl:Lit} (h:∀z,left z=true→Maps.has D z=true):∀z,(left z&&!z.sameKey kl)=true→Maps.has D z=true:=fun z hz=>by
 simp only [Bool.and_eq_true] at hz
 exact h z hz.1
theorem hasB_by {s:St} {hs:List AV} {w:World} (hh:Heads w hs s.apps) (ho:queuesOk s.qs=true) (nm:List UInt8) (q:Con):hasB hs (fun v=>reachB s.qs v.queue nm) q=byQ s nm q:=by
 have e:=heads_find (id:=q.app) hh.1 (fun i a b=>⟨(hh.2 i a b).1,(hh.2 i a b).2.1⟩)
 unfold hasB byQ
 cases h1:findA q.app hs with
 | none=>
  cases h2:findAp q.app s.apps with
  | none=>rfl
  | some a=>rw [h1,h2] at e;cases e
 | some v=>
  cases h2:findAp q.app s.apps with
  | none=>rw [h1,h2] at e;cases e
  | some a=>
   rw [h1,h2] at e
   have e':v.queue=a.queue:=by simpa using e
   simp only [optB]
   rw [reachB,e',←ups_path ho,List.any_map]
   rfl
theorem byQ_none {s:St} (ho:queuesOk s.qs=false) (nm:List UInt8) (q:Con):byQ s nm q=false:=by
 unfold byQ
 cases findAp q.app s.apps with
 | none=>rfl
 | some a=>simp [path,ho]
theorem usedL_none {p:Con→Bool} {l:List Con} (h:∀q,p q=false):usedL p l=[]:=by
 have:l.filter p=[]:=by rw [List.filter_eq_nil_iff];intro a _;simp [h a]
 simp [usedL,this]
theorem usedL_congr {p p':Con→Bool} {l:List Con} (h:∀q,p q=p' q):usedL p l=usedL p' l:=by rw [show p=p' from funext h]
set_option maxRecDepth 100000 in
set_option maxHeartbeats 4000000 in
theorem implUsedBy_any (x:Sls) (s:St) (nm:List UInt8) (w:World) (h:SRow w x s) (hf:FitSt s) (hc:x.ql≤x.qc) (hw:WfSt s) :
  Calls Tryz.prog 176 #[sv x s,.string (bs nm)] w fun e w'=>e=.returned (rv (usedByV s nm).1 (usedByV s nm).2)∧Below w.heap.size w w':=by
 have hmf:∀(fn:Fn) (first cap:Array Value) (w:World),(Instr.makeFunc fn first cap).run Tryz.prog w=.ok (.func fn first cap) w:=fun _ _ _ _=>rfl
 have hql:x.ql≤1048576:=by have:=h.len.1;have:=hf.1.1;omega
 have hal:x.al≤1048576:=by have:=h.len.2.1;have:=hf.2.1.1;omega
 have hcl:x.cl≤1048576:=by have:=h.len.2.2.2;have:=hf.2.2.2.1;omega
 obtain ⟨hs,hav,hh⟩:=h.2.1.heads
 have CQ:=hide (fun wx (hb:Below w.heap.size w wx)=>implQueuesOk_any x.qa x.ql x.qc s.qs wx (h.1.below hb) hql (fun q hq=>(hf.1.2 q hq).1) hc)
 have CM:=hide (fun wx (hb:Below w.heap.size w wx)=>apps_ex x s hs wx (hav.below hb) hal (heads_wf hh hw.1))
 have CR:=hide (fun wx (hb:Below w.heap.size w wx) (qu:List UInt8)=>reaches_any x.qa x.ql x.qc s.qs qu nm wx (h.1.below hb) hql hc)
 have CU:=hide (fun (bm n:Nat) (D:DataW Unit) wx (hb:Below w.heap.size w wx) (hown:wx.ownsMap Tryz.prog 133 appElem bm n D) (hk:KnownA hs (fun _ v=>reachB s.qs v.queue nm) D)=>usedHas_any bm (hasB hs (fun v=>reachB s.qs v.queue nm)) x s wx (h.2.2.2.below hb) hcl
  (fun wy q hq hy=>has_any bm n D hs (fun v=>reachB s.qs v.queue nm) q wy (ownsMap_below hown hy) hk (hw.2 q hq)))
 have HV1:=hide (fun ho:queuesOk s.qs=true=>usedL_congr (l:=s.cs) (hasB_by hh ho nm))
 have HV2:=hide (fun ho:queuesOk s.qs=false=>usedL_none (l:=s.cs) (byQ_none ho nm))
 have HV:=hide (show usedByV s nm=((sumR (usedL (byQ s nm) s.cs)).1,(sumR (usedL (byQ s nm) s.cs)).2.1) from rfl)
 obtain ⟨⟨ux,uy⟩,hu⟩:∃u,usedByV s nm=u:=⟨_,rfl⟩
 rw [hu] at HV ⊢
 obtain ⟨o,ho⟩:∃o,queuesOk s.qs=o:=⟨_,rfl⟩
 rw [ho] at CQ HV1 HV2
 clear h hf hc hw hu ho hav hh
 obtain ⟨qa,ql,qc,aa,al,ac,ma,ml,mc,ca,cl,cc⟩:=x
 obtain ⟨qs,clock,epoch,next,serial,apps,ms,cs⟩:=s
 simp only at CQ CM CR CU HV1 HV2 HV hql hal hcl
 have HB0:=hide (capW_below w (svc ⟨qa,ql,qc,aa,al,ac,ma,ml,mc,ca,cl,cc⟩ ⟨qs,clock,epoch,next,serial,apps,ms,cs⟩))
 have V0:=hide (capW_var w (svc ⟨qa,ql,qc,aa,al,ac,ma,ml,mc,ca,cl,cc⟩ ⟨qs,clock,epoch,next,serial,apps,ms,cs⟩))
 have P0:=hide ((boxW_blk w (svc ⟨qa,ql,qc,aa,al,ac,ma,ml,mc,ca,cl,cc⟩ ⟨qs,clock,epoch,next,serial,apps,ms,cs⟩)).al (.cells #[.int .i64 0,.int .i64 0] 36))
 go_enter Tryz.func176,Tryz.ntmps176
 go_wp2_with fail
 refine (uH CQ _ (uH HB0)).mono ?_
 rintro e w1 ⟨rfl,hb⟩
 have HB1:=hide (yB (uH HB0) hb)
 have V1:=hide ((uH V0).below hb)
 have P1:=hide ((uH P0).below hb)
 clear hb HB0 V0 P0 CQ
 cases o with
 | false=>
  have hz:=uH HV
  rw [uH HV2 (by first | rfl | trivial)] at hz
  simp only [sumR,sumFrom,Prod.mk.injEq] at hz
  obtain ⟨rfl,rfl⟩:=hz
  have V2:=uH V1
  have t0:=V2.c0
  have t1:=V2.c1
  have f0:=V2.f 0
  have f1:=V2.f 1
  have k4:=V2.s0 (.int .i64 0)
  have k5:=V2.s1 (.int .i64 0) (.int .i64 0)
  clear V2
  go_wp2
  refine bodyPost_ret (v:=rv 0 0) (by simp [results,Tryz.results176,go_sem,k4,k5]) rfl ⟨rfl,?_⟩
  repeat (first | exact uH HB1 | refine yA ?_ _ | refine yC ?_ _ _ _ (by omega))
 | true=>
  have HE:=hide (uH HV1 (by first | rfl | trivial))
  have HVV:=hide (show (ux,uy)=((sumR (usedL (hasB hs (fun v=>reachB qs v.queue nm)) cs)).1,(sumR (usedL (hasB hs (fun v=>reachB qs v.queue nm)) cs)).2.1) by rw [uH HE];exact uH HV)
  rw [show (sumR (usedL (hasB hs (fun v=>reachB qs v.queue nm)) cs)).1=ux from (congrArg Prod.fst (uH HVV)).symm,show (sumR (usedL (hasB hs (fun v=>reachB qs v.queue nm)) cs)).2.1=uy from (congrArg Prod.snd (uH HVV)).symm] at CU
  clear HV HV1 HV2 HE HVV
  obtain ⟨q0,q1,q2,q3,q4,q5,q6,q7⟩:_∧_∧_∧_∧_∧_∧_∧_:=⟨(uH P1).at 0,(uH P1).at 1,(uH P1).at 2,(uH P1).at 3,(uH P1).at 4,(uH P1).at 5,(uH P1).at 6,(uH P1).at 7⟩
  simp at q0 q1 q2 q3 q4 q5 q6 q7
  have hpl:=(uH P1).lt
  have hvl:=(uH V1).lt
  go_wp2_with fail
  refine (uH CM _ (uH HB1)).mono ?_
  rintro e w2 ⟨bm,rfl,⟨hbm,D0,hown,hkn⟩,hb⟩
  have HB2:=hide hb
  have HK0:=hide hkn
  clear q0 q1 q2 q3 q4 q5 q6 q7 hb hkn CM
  go_wp2_with (first
   | (at_range;refine wpList_range_own _ rfl _ 164 rfl 133 74 keyLaw Tryz.underlying164 _ bm hs.length D0 rfl hown ?_;intro w3 hrg0 hg0 hs0)
   | go_in)
  go_frame
  have hw12:w1.heap.size≤w2.heap.size:=(uH HB2).size
  have HB3:=hide (show Below w1.heap.size w1 w3 from (uH HB2).grown hg0 hw12 (fun k e=>by cases e))
  have HRG0:=hide hrg0
  obtain ⟨r,hr⟩:∃r,w2.heap.size=r:=⟨_,rfl⟩
  rw [hr] at HRG0 hw12 ⊢
  have hwa:w.heap.size≤w1.heap.size:=(uH HB1).size
  clear hrg0 hg0 hs0 HB2 hown hr
  go_loopw [6] (fun _ wr=>∃(left:Lit→Bool) (cnt:Nat) (D:DataW Unit),Hid (wr.ranges Tryz.prog 133 appElem bm r hs.length D left cnt)∧Hid (KnownA hs (fun kl v=>left kl||reachB qs v.queue nm) D)∧Hid (∀z,left z=true→Maps.has D z=true)∧Hid (Below w1.heap.size w1 wr)) (fun _ wr=>wr.rangeLeft bm r)
  case atStart=>exact ⟨_,_,D0,HRG0,hide ⟨(uH HK0).1,fun v kl h1 h2=>by have:=(uH HK0).2 v kl h1 h2;simp only at this ⊢;rw [this];rfl⟩,hide (fun z h=>h),HB3⟩
  case round=>
   obtain ⟨left,cnt,D,HRG,HKN,HLT,HBr⟩:=hrel
   have hrg:=uH HRG
   clear HRG0 HK0 HB3
   go_wp2_with (first
    | (at_next;refine wpList_next_ranges _ rfl _ rfl 133 keyLaw appElem (fun x:List UInt8×Int=>keyv x.1 x.2) avv (fun key kl hkey=>key_shape hkey) (fun v y hv=>appElem_shape hv) bm r hs.length D left cnt rfl hrg ?_ ?_)
    | go_in)
   ·intro _ hl0
    have HKF:=hide (show KnownA hs (fun _ v=>reachB qs v.queue nm) D from ⟨(uH HKN).1,fun v kl h1 h2=>by have:=(uH HKN).2 v kl h1 h2;simp only [hl0,Bool.false_or] at this;exact this⟩)
    have PB:=(uH P1).below (uH HBr)
    obtain ⟨q0,q1,q2,q3,q4,q5,q6,q7⟩:_∧_∧_∧_∧_∧_∧_∧_:=⟨PB.at 0,PB.at 1,PB.at 2,PB.at 3,PB.at 4,PB.at 5,PB.at 6,PB.at 7⟩
    simp at q0 q1 q2 q3 q4 q5 q6 q7
    have HVB:=hide ((uH V1).below (uH HBr))
    have HBB:=hide (yB (uH HB1) (uH HBr))
    have HOW:=hide hrg.owns
    clear HRG HKN HLT hrg hl0 PB CR
    go_wp2_with fail
    refine (uH CU bm hs.length D _ (uH HBB) (uH HOW) (uH HKF)).mono ?_
    rintro e w5 ⟨rfl,hb⟩
    have V2:=(uH HVB).below hb
    have HB5:=hide (yB (uH HBB) hb)
    have t0:=V2.c0
    have t1:=V2.c1
    have f0:=V2.f 0
    have f1:=V2.f 1
    have k4:=V2.s0 (.int .i64 ux)
    have k5:=V2.s1 (.int .i64 ux) (.int .i64 uy)
    clear V2 hb q0 q1 q2 q3 q4 q5 q6 q7
    go_wp2
    refine bodyPost_ret (v:=rv ux uy) (by simp [results,Tryz.results176,go_sem,k4,k5]) rfl ⟨rfl,?_⟩
    repeat (first | exact uH HB5 | refine yA ?_ _ | refine yC ?_ _ _ _ (by omega))
   ·rintro x1 x2 ⟨id,qu,zo,zl,zc⟩ kl y1 y2 w4 cnt1 hkey hlk hR hat hrg1 hlt hg1 hs1 hen
    obtain ⟨HFD,HKV⟩:Hid (findA id hs=some ⟨id,qu,zo,zl,zc⟩)∧Hid (keyOf Tryz.prog 133 (keyv [] id)=some kl):=by
     obtain ⟨v,hf,hkv,hav⟩:=(uH HKN).1 kl (uH HLT kl hlk)
     rw [appElem_mk] at hR
     have e:=ad_inj ((hav (.map [])).symm.trans ((hat (.map [])).trans (congrArg Prod.fst (Option.some.inj hR)).symm))
     subst e
     exact ⟨hide hf,hide hkv⟩
    have HKY:=hide (show keyOf Tryz.prog 133 (keyv x1 x2)=some kl from hkey)
    have HR1:=hide hrg1
    have HLT1:=hide hlt
    have HB4:=hide (show Below w1.heap.size w1 w4 from (uH HBr).grown hg1 (uH HBr).size (fun k e=>by cases e;omega))
    obtain ⟨b,hbb⟩:∃b,reachB qs qu nm=b:=⟨_,rfl⟩
    have CRq:=hide (fun wx (hb:Below w.heap.size w wx)=>by have:=uH CR wx hb qu;rw [hbb] at this;exact this)
    have HBB:=hide hbb
    have PB:=(uH P1).below (uH HB4)
    have q0:=PB.at 0
    simp at q0
    have q0b:=(PB.al (.cells #[.string (bs x1),.int .i64 x2] 133)).at 0
    have q0c:=((PB.al (.cells #[.string (bs x1),.int .i64 x2] 133)).al (.cells #[.int .i64 id,.string (bs qu),.slice zo zl zc] 74)).at 0
    simp at q0b q0c
    clear hkey hR hat hrg1 hlt hg1 hs1 hlk hbb PB CR CU
    go_wp2_with fail
    refine (uH CRq _ ?_).mono ?_
    ·exact yA (yA (yB (uH HB1) (uH HB4)) _) _
    rintro e w5 ⟨rfl,hb⟩
    have HB5:=hide (yB (yA (yA (Below.refl _ w4) (.cells #[.string (bs x1),.int .i64 x2] 133)) (.cells #[.int .i64 id,.string (bs qu),.slice zo zl zc] 74)) hb)
    have KB:=((yD w4 #[.string (bs x1),.int .i64 x2] 133).al (.cells #[.int .i64 id,.string (bs qu),.slice zo zl zc] 74)).below hb
    have z0:=KB.at 0
    have z1:=KB.at 1
    simp at z0 z1
    have HR5:=hide ((uH HR1).kept (grownBy_below (grownBy_refl w4 none) (uH HB5)) (by simp) (by simp))
    have HW5:=hide (show Below w1.heap.size w1 w5 from yB (uH HB4) (uH HB5))
    clear hb KB CRq q0 q0b q0c hen HR1
    cases b with
    | true=>
     have HST:=hide ((uH HKN).stay (v:=⟨id,qu,zo,zl,zc⟩) (uH HFD) (uH HKV) (uH HBB))
     go_wp2
     go_roundw
     case rel=>exact ⟨_,cnt1,D,HR5,HST,hide (left_stay (uH HLT)),HW5⟩
     case measure=>rw [(uH HR5).left_eq,hrg.left_eq];exact uH HLT1
    | false=>
     have HST:=hide ((uH HKN).strike (v:=⟨id,qu,zo,zl,zc⟩) (uH HFD) (uH HKV) (uH HBB))
     have hrg5:=uH HR5
     go_wp2_with (first
      | (at_delete;refine wpList_delete_ranges _ rfl _ _ 164 133 rfl 74 keyLaw Tryz.underlying164 _ bm r hs.length _ _ _ rfl hrg5 _ _ rfl (uH HKY) ?_;intro w6 cnt2 hrg6 hle hturn;go_frame)
      | go_in)
     rw [strike_twice] at hrg6
     have HW6:=hide (show Below w1.heap.size w1 w6 from (uH HW5).grown hturn.grown (uH HW5).size (fun k e=>by cases e;omega))
     have HR6:=hide hrg6
     have HLE:=hide hle
     clear hturn hrg5 hrg6 hle
     go_roundw
     case rel=>exact ⟨_,cnt2,_,HR6,HST,hide (left_strike (keyLaw.key (uH HKY)) (uH HLT)),HW6⟩
     case measure=>rw [(uH HR6).left_eq,hrg.left_eq];have:=uH HLE;have:=uH HLT1;omega
end Go.Proofs.YtdhibeclkdepiaaGreat
namespace Go.Proofs.YtdhibeclkdepiaaGreat
section
open Go.RowKit Go.Shelf
theorem qbox_row {w w1:World} {k:Nat} {q:Q} (h:QBox w k q) {base size n e:Nat} {v:Value} {xs:List Value} (hr:w.ownsRow base e size v n xs) (he:e≠100) (hg:w.grownBy w1 v.ownBlock):QBox w1 k q:=by
 refine (hg.block k h.lt ?_).trans h
 rcases hr.2 with ⟨rfl,_⟩ | ⟨g,cap,cur,rfl,_,hgb,_⟩
 ·simp [Value.ownBlock]
 ·intro e'
  obtain rfl:k=g:=by simpa [Value.ownBlock] using e'
  have:=(show w.heap[k]? = _ from h).symm.trans hgb
  simp [qobj] at this
  exact he this.2.symm
theorem qbox_store {w:World} {k B t:Nat} {q:Q} {v u:Value} (h:QBox w k q) (hv:Go.Boxed w B t v):QBox (w.setCell ⟨B,0,none⟩ u) k q:=by
 refine ((grownBy_setCell' w B u).block k h.lt ?_).trans h
 intro e'
 obtain rfl:k=B:=by simpa using e'
 have:=(show w.heap[k]? = _ from h).symm.trans hv
 simp [qobj] at this
theorem boxed_below {w w':World} {B t:Nat} {v:Value} (h:Go.Boxed w B t v) (hb:Below w.heap.size w w'):Go.Boxed w' B t v:=(hb.block B h.lt).trans h
theorem keeps_below {w w':World} (hb:Below w.heap.size w w'):KeepsOthers w w':=KeepsOthers.of_grownBy (row:=none) (grownBy_below (grownBy_refl w none) hb) (fun j o e=>by cases e)
theorem row_below {w w':World} {B e size n:Nat} {v:Value} {xs:List Value} (h:w.ownsRow B e size v n xs) (hb:Below w.heap.size w w'):w'.ownsRow B e size v n xs:=
 h.kept (grownBy_below (grownBy_refl w none) hb) (by by_cases e:v.ownBlock=none;exact .inl e;exact .inr e)
theorem gather_step (T E:TypeId) (z:Value) (bytes:Nat) (i0:TypeInfo) (hu:Tryz.prog.underlying T=some (.slice E)) (hi:Tryz.prog.info? E=some i0) (hz0:i0.zero=some z) (hz1:i0.size=1) (hz2:i0.bytes=bytes) (hzc:z.cells.size=1) (hTE:T≠E) (hEQ:E≠100) (hby:bytes≤16)
  {base B n:Nat} {v:Value} {xs:List Value} {w3:World} (hv:Go.Boxed w3 B T v) (hr:w3.ownsRow base E 1 v n xs) (hn:n≤1048576) (hbase:base≤w3.heap.size) (hB:base≤B) (y:Value) (hy:y.oneCell'=true) :
  ∃g cp w4,(Builtin.append_ #[T,T] T #[v,.slice (some ⟨w3.heap.size,0,none⟩) 1 1]).run Tryz.prog (w3.alloc (.cells #[y] E))=.ok (.slice (some ⟨g,0,none⟩) (n+1) cp) w4∧w4.cell? ⟨B,0,none⟩=some v∧w4.frozen? ⟨B,0,none⟩=false
   ∧Hid (Go.Boxed (w4.setCell ⟨B,0,none⟩ (.slice (some ⟨g,0,none⟩) (n+1) cp)) B T (.slice (some ⟨g,0,none⟩) (n+1) cp)∧(w4.setCell ⟨B,0,none⟩ (.slice (some ⟨g,0,none⟩) (n+1) cp)).ownsRow base E 1 (.slice (some ⟨g,0,none⟩) (n+1) cp) (n+1) (xs++[y])
    ∧KeepsOthers w3 (w4.setCell ⟨B,0,none⟩ (.slice (some ⟨g,0,none⟩) (n+1) cp))∧Below base w3 (w4.setCell ⟨B,0,none⟩ (.slice (some ⟨g,0,none⟩) (n+1) cp))∧∀k q,QBox w3 k q→QBox (w4.setCell ⟨B,0,none⟩ (.slice (some ⟨g,0,none⟩) (n+1) cp)) k q):=by
 have h16:(n+1)*bytes≤140737488355328:=by
  have:(n+1)*bytes≤1048577*16:=Nat.mul_le_mul (by omega) hby
  omega
 obtain ⟨v',w4,hrun,hown',hgrow,_⟩:=run_append_own (P:=Tryz.prog) (w3.alloc (.cells #[y] E)) base T T E i0 z 1 bytes hu hi hz0 hz1 hz2 hzc (by decide) v n xs (hr.alloc _) ⟨w3.heap.size,0,none⟩ 1 1 [y] rfl
  (by intro j u hj;match j,hj with | 0,hj=>simp at hj;subst hj;simp [Addr.add]) (by intro u hu;simp at hu;subst hu;exact hy) (by unfold maxLen;omega) h16 (by simp;omega)
 obtain ⟨g,cp,rfl⟩:=ownsRow_succ hown'
 obtain ⟨hv1,hv2,hr2,hk2,hb2⟩:=hv.appended hTE hr hbase hB hown' hgrow
 refine ⟨g,cp,w4,hrun,hv1.cell,hv1.frozen,hide ⟨hv2,hr2,hk2,hb2,fun k q hq=>?_⟩⟩
 have h1:QBox (w3.alloc (.cells #[y] E)) k q:=hq.below (yA (Below.refl _ w3) _)
 exact qbox_store (qbox_row h1 (hr.alloc _) hEQ hgrow) hv1
attribute [local go_sem] Oper.semAt_some
abbrev ints (st:List Int):List Value:=st.map (Value.int .i64)
def KpC (p:Nat) (W W':World):Prop:=∀k o,k≠p→W.heap[k]? = some o→o.isCells=true→W'.heap[k]? = some o
theorem kpc_t {p:Nat} {A B C:World} (h:KpC p A B) (k:KpC p B C):KpC p A C:=fun i o hi ho hc=>k i o hi (h i o hi ho hc) hc
theorem kpc_b {p:Nat} {w:World} (W:World) (l:Nat) (o o':Obj) (hl:w.heap.size≤l) (h:W.heap[l]? = some o) (h1:o.isCells=false) (h2:o.isWalk=false):KpC p W (W.putObj l o'):=fun k q hk hq hc=>by
 have hne:k≠l:=fun e=>by
  subst e
  rw [hq] at h
  cases h
  rw [h1] at hc
  cases hc
 exact ((grownBy_putObj' W l o').block k (lt_of_block hq) (by simp;omega)).trans hq
theorem kpc_below {p:Nat} {W W':World} (h:Below W.heap.size W W'):KpC p W W':=fun k o _ ho _=>(h.block k (lt_of_block ho)).trans ho
theorem kpc_set {p:Nat} (W:World) (j:Nat) (u:Value):KpC p W (W.setCell ⟨p,j,none⟩ u):=fun k o hk ho _=>(heap_setCell_other W ⟨p,j,none⟩ k u hk).trans ho
theorem back_nil (n l Bs:Nat) (J:List (Int×Int)→World→Prop) (W:World) (hBs:W.cell? ⟨Bs,0,none⟩=some (.slice none 0 0)) (h0:J [] W) :
  CallsIn Fence.wide n Tryz.prog 211 #[.func (.yield l) #[] #[],.pointer (some ⟨Bs,0,none⟩)] W fun e W'=>(∃v,e=.returned v)∧J [] W':=by
 refine callsIn_of_wp Tryz.func211 rfl trivial ?_ rfl
 simp only [Tryz.ntmps211,List.size_toArray,List.length_cons,List.length_nil,Nat.reduceAdd,Nat.reduceSub,Array.replicate_succ,Array.replicate_zero,List.push_toArray,List.append_toArray,List.nil_append,List.cons_append]
 gi_wp2
 gi_loopw [3] (fun i wr=>i=.int .i64 (-1)∧J [] wr) (fun _ _=>0)
 case atStart=>exact ⟨by go_num,h0⟩
 case round=>
  obtain ⟨rfl,hJs⟩:=hrel
  gi_wp2
  go_end0
  exact ⟨⟨_,rfl⟩,hJs⟩
theorem back_some (n l Bs p g cap:Nat) (st:List Int) (J Jx:List (Int×Int)→World→Prop)
  (hY:∀pre x W1,J pre W1→pre.length<st.length→YieldAt Fence.wide (n - 1) Tryz.prog l #[.int .i64 x.1,.int .i64 x.2] W1 fun e W'=>
   (e=.returned (.bool true)∧J (pre++[x]) W'∧KpC p W1 W')∨(e=.returned (.bool false)∧Jx (pre++[x]) W'))
  (W:World) (cur:Array Value) (hBs:Go.Boxed W Bs 246 (.slice (some ⟨g,0,none⟩) st.length cap)) (hg:W.heap[g]? = some (.cells cur 3 (0,0))) (hcur:∀j (h:j<st.length),cur[j]? = some (.int .i64 st[j])) (hp:Bs≠p) (hpg:g≠p) (hl:st.length≤1048576) (h0:J [] W) :
  CallsIn Fence.wide n Tryz.prog 211 #[.func (.yield l) #[] #[],.pointer (some ⟨Bs,0,none⟩)] W fun e W'=>(∃v,e=.returned v)∧
   ((∃ys:List (Int×Int),Hid (ys.map Prod.snd=st.reverse)∧J ys W')∨(∃pre,Jx pre W')):=by
 have HY:=hide hY
 have HBs:=hide hBs
 have HG:=hide hg
 have HCU:=hide hcur
 have H0:=hide h0
 have hc0:=hBs.cell
 clear hY hBs hg hcur h0
 refine callsIn_of_wp Tryz.func211 rfl trivial ?_ rfl
 simp only [Tryz.ntmps211,List.size_toArray,List.length_cons,List.length_nil,Nat.reduceAdd,Nat.reduceSub,Array.replicate_succ,Array.replicate_zero,List.push_toArray,List.append_toArray,List.nil_append,List.cons_append]
 gi_wp2
 clear hc0
 gi_loopw [3] (fun i wr=>∃(k:Nat) (pre:List (Int×Int)),k≤st.length∧i=.int .i64 ((k:Int) - 1)∧Hid (pre.length+k=st.length)∧Hid (pre.map Prod.snd=(st.drop k).reverse)∧Hid (J pre wr)∧Hid (Go.Boxed wr Bs 246 (.slice (some ⟨g,0,none⟩) st.length cap))∧Hid (wr.heap[g]? = some (.cells cur 3 (0,0)))) (fun i _=>(intOf i+1).toNat)
 case atStart=>exact ⟨st.length,[],Nat.le_refl _,by go_num,hide (by simp),hide (by simp),H0,HBs,HG⟩
 case round=>
  obtain ⟨k,pre,hk,rfl,HL,HM,HJ,HB,HGr⟩:=hrel
  cases k with
  | zero=>
   gi_wp2
   go_end0
   exact ⟨⟨_,rfl⟩,.inl ⟨pre,hide (by rw [uH HM];rfl),uH HJ⟩⟩
  | succ j=>
   have hj:j<st.length:=by omega
   have hcell:wr.cell? ⟨g,j,none⟩=some (.int .i64 st[j]):=by
    have:=uH HCU j hj
    simp [World.cell?,uH HGr,this]
   have hbox:=(uH HB).cell
   obtain ⟨fn,tmps,assign,body,hy,hR⟩:=uH HY pre ((j:Int),st[j]) wr (uH HJ) (by have:=uH HL;omega)
   have HRR:=hide hR
   have HM2:=hide (show (pre++[((j:Int),st[j])]).map Prod.snd=(st.drop j).reverse by rw [List.map_append,uH HM,List.drop_eq_getElem_cons hj,List.reverse_cons];rfl)
   have hij:((j+1:Nat):Int) - 1=(j:Int):=by omega
   obtain ⟨y,hyy⟩:∃y,st[j]=y:=⟨_,rfl⟩
   rw [hyy] at hcell hy HRR HM2
   simp only at hy
   rw [hij]
   have j0:(0:Int)≤j:=by omega
   have j1:(j:Int)<st.length:=by omega
   clear hR hyy hij HM
   gi_wp2
   refine ⟨(by intro e;cases e),?_⟩
   refine (uH HRR).mono ?_
   rintro e W3 (⟨rfl,hJ3,hk3⟩ | ⟨rfl,hJx3⟩)
   ·have HB3:=hide (show Go.Boxed W3 Bs 246 (.slice (some ⟨g,0,none⟩) st.length cap) from hk3 Bs _ hp (uH HB) rfl)
    have HG3:=hide (hk3 g _ hpg (uH HGr) rfl)
    have HJ3:=hide hJ3
    clear hk3 hJ3 hcell hbox hy HRR
    gi_wp2
    go_roundw
    case rel=>exact ⟨j,pre++[((j:Int),y)],by omega,by go_num,hide (by have:=uH HL;simp;omega),HM2,HJ3,HB3,HG3⟩
    case measure=>simp [intOf]
   ·gi_wp2
    refine bodyPost_ret (results_none rfl _ _ _) rfl ?_
    exact ⟨⟨_,rfl⟩,.inr ⟨_,hJx3⟩⟩
theorem back_stops (n Bs p base:Nat) (v:Value) (st:List Int) (w:World) (hBs:Go.Boxed w Bs 246 v) (hrow:w.ownsRow base 3 1 v st.length (ints st)) (hp:Bs≠p) (hpv:some p≠v.ownBlock) (hl:st.length≤1048576) :
  SeqStopsK Fence.wide n Tryz.prog 211 #[.pointer (some ⟨Bs,0,none⟩)] (fun x:Int×Int=>#[.int .i64 x.1,.int .i64 x.2]) (KpC p) (fun ys=>Hid (ys.map Prod.snd=st.reverse)) (fun _=>True) st.length w:=by
 intro l J Jx W hW hJ hJx hY h0
 have hB:Go.Boxed W Bs 246 v:=boxed_below hBs hW
 have hr:=row_below hrow hW
 rcases hr.2 with ⟨rfl,hz⟩ | ⟨g,cap,cur,rfl,_,hgb,hle,_,hsz,hx⟩
 ·have:st=[]:=List.eq_nil_of_length_eq_zero hz
  subst this
  exact (back_nil n l Bs J W hB.cell h0).mono fun e W' ⟨he,hj⟩=>⟨he,.inl ⟨[],hide rfl,hj⟩⟩
 ·refine (back_some n l Bs p g cap st J Jx hY W cur hB hgb (fun j h=>?_) hp (fun e=>hpv (by simp [Value.ownBlock,e])) hl h0).mono ?_
  ·have e1:(cur.toList.take (st.length*1))[j]? = some (.int .i64 st[j]):=by rw [hx];simp [h]
   rw [List.getElem?_take_of_lt (by omega)] at e1
   simpa using e1
  ·rintro e W' ⟨he,⟨ys,h1,h2⟩ | ⟨pre,h2⟩⟩
   ·exact ⟨he,.inl ⟨ys,h1,h2⟩⟩
   ·exact ⟨he,.inr ⟨pre,trivial,h2⟩⟩
theorem back_any (v:Value) (w:World) (hv:v.oneCell'=true) :
  Calls Tryz.prog 207 #[v] w fun e w'=>e=.returned (.func (.func 211) #[] #[.pointer (some ⟨w.heap.size,0,none⟩)])∧w.alloc (.cells #[v] 246)=w':=by
 have hmf:∀(fn:Fn) (first cap:Array Value) (w:World),(Instr.makeFunc fn first cap).run Tryz.prog w=.ok (.func fn first cap) w:=fun _ _ _ _=>rfl
 go_enter Tryz.func207,Tryz.ntmps207
 go_wp2
 go_ret
 exact ⟨rfl,rfl⟩
end
section
open Go.RowKit
def partS (t:Int×Int):List Int→Int×Int
 | []=>t
 | n::r=>(shareM (partS t r).1 (partS t r).2 n,shareC (partS t r).1 (partS t r).2 n)
def stepsOf (most:Bool) (u:List Q):List Int:=(u.takeWhile (fun q=>decide (q.parent≠[]))).map (fieldOf most)
theorem upAt_part {l:List Q} (h:queuesOk l=true) (most:Bool) (t:Int×Int):∀(n:Nat) (p:Int),p<n→partS t (stepsOf most (upAt l n p))=ofP l most t ((upAt l n p).map Q.name)
 | 0,_,_=>rfl
 | n+1,p,hn=>by
  rw [upAt]
  split
  ·rename_i hp
   have hq:=ok_at h p.toNat hp.2
   have ha:=parent_ahead h hp.2
   simp only [qOk,Bool.and_eq_true,decide_eq_true_eq] at hq
   have hb:byName l l[p.toNat].name=l[p.toNat]:=by rw [byName,hq.1.1.1.2,Int.toNat_natCast,List.getD_eq_getElem?_getD,List.getElem?_eq_getElem hp.2];rfl
   by_cases hz:l[p.toNat].parent=[]
   ·have hm:place l l[p.toNat].parent = -1:=by rw [hz];exact placeFrom_none (ok_named h)
    have hu:upAt l n (place l l[p.toNat].parent)=[]:=by
     rw [hm];cases n with
     | zero=>rfl
     | succ n=>rw [upAt,dif_neg (by omega)]
    rw [hu]
    simp [stepsOf,hz,partS,ofP]
   ·have hi:p.toNat≠0:=fun e=>by
     have:=hq.2
     rw [if_pos e] at this
     simp only [Bool.and_eq_true,decide_eq_true_eq] at this
     exact hz this.1
    have hpl:=hq.2
    rw [if_neg hi] at hpl
    simp only [inB,decide_eq_true_eq] at hpl
    have ih:=upAt_part h most t n (place l l[p.toNat].parent) (by omega)
    obtain ⟨r,hr⟩:∃r,upAt l n (place l l[p.toNat].parent)=r:=⟨_,rfl⟩
    have hne:r≠[]:=by
     rw [←hr];cases n with
     | zero=>omega
     | succ n=>rw [upAt,dif_pos ⟨hpl.1,by omega⟩];simp
    rw [hr] at ih ⊢
    cases r with
    | nil=>exact absurd rfl hne
    | cons y r=>
     rw [List.map_cons,List.map_cons,ofP,hb]
     rw [List.map_cons] at ih
     rw [←ih]
     simp only [stepsOf,List.takeWhile_cons (a:=l[p.toNat])]
     simp only [hz,ne_eq,not_false_eq_true,decide_true,if_true,List.map_cons,partS]
  ·simp [stepsOf,partS,ofP]
theorem ups_part {l:List Q} (h:queuesOk l=true) (nm:List UInt8) (a b:Int) (most:Bool) (hp:0≤place l nm) (hr:resOk a b=true):ofR l nm a b most=partS (a,b) (stepsOf most (ups l nm)):=by
 have hr':=place_range l nm
 have e:=ups_path h nm
 have hne:path l nm≠[]:=by
  rw [←e,ups_up h,upAt,dif_pos ⟨hp,by omega⟩];simp
 rw [ofR,if_neg (by simp [hne,hr]),←e,ups_up h,upAt_part h most (a,b) _ _ (by omega)]
theorem ofR_none1 {l:List Q} (h:queuesOk l=false) (nm:List UInt8) (a b:Int) (most:Bool):ofR l nm a b most=(0,0):=by rw [ofR,path,h];simp
theorem ofR_none2 {l:List Q} {nm:List UInt8} (h:place l nm<0) (a b:Int) (most:Bool):ofR l nm a b most=(0,0):=by
 have:path l nm=[]:=by rw [path];split;exact path_end h;rfl
 rw [ofR,this];simp
theorem ofR_none3 (l:List Q) (nm:List UInt8) {a b:Int} (h:resOk a b=false) (most:Bool):ofR l nm a b most=(0,0):=by rw [ofR,h];simp
theorem implShare_any (a b n:Int) (w:World) :
  Calls Tryz.prog 208 #[rv a b,.int .i64 n] w fun e w'=>e=.returned (rv (shareM a b n) (shareC a b n))∧Below w.heap.size w w':=by
 cases h1:resOk a b
 ·rw [show shareM a b n=0 by simp [shareM,shareOk,h1],show shareC a b n=0 by simp [shareC,shareOk,h1]]
  go_enter Tryz.func208,Tryz.ntmps208
  go_wp2_with (go_at_call 155;refine (ok_any _ _ _).mono ?_;rintro e w' ⟨rfl,rfl⟩)
  refine bodyPost_ret (v:=rv 0 0) (by simp [results,Tryz.results208,go_sem]) rfl ⟨rfl,?_⟩
  repeat (first | exact Below.refl _ _ | refine yA ?_ _ | refine Below.drew ?_ | refine yC ?_ _ _ _ (by omega))
 ·cases h2:inB n 0 10000
  ·rw [show shareM a b n=0 by simp [shareM,shareOk,h2],show shareC a b n=0 by simp [shareC,shareOk,h2]]
   by_cases n0:n<0
   ·go_enter Tryz.func208,Tryz.ntmps208
    go_wp2_with (go_at_call 155;refine (ok_any _ _ _).mono ?_;rintro e w' ⟨rfl,rfl⟩)
    refine bodyPost_ret (v:=rv 0 0) (by simp [results,Tryz.results208,go_sem]) rfl ⟨rfl,?_⟩
    repeat (first | exact Below.refl _ _ | refine yA ?_ _ | refine Below.drew ?_ | refine yC ?_ _ _ _ (by omega))
   ·have n1:10000<n:=by
     apply Int.not_le.1
     intro h
     have:inB n 0 10000=true:=inB_true (by omega) h
     rw [this] at h2;cases h2
    go_enter Tryz.func208,Tryz.ntmps208
    go_wp2_with (go_at_call 155;refine (ok_any _ _ _).mono ?_;rintro e w' ⟨rfl,rfl⟩)
    refine bodyPost_ret (v:=rv 0 0) (by simp [results,Tryz.results208,go_sem]) rfl ⟨rfl,?_⟩
    repeat (first | exact Below.refl _ _ | refine yA ?_ _ | refine Below.drew ?_ | refine yC ?_ _ _ _ (by omega))
  ·rw [show shareM a b n=a*n / 10000 by simp [shareM,shareOk,h1,h2],show shareC a b n=b*n / 10000 by simp [shareC,shareOk,h1,h2]]
   obtain ⟨q1,q2,q3,q4⟩:=resOk_bd h1
   have hn:0≤n∧n≤10000:=by simpa [inB] using h2
   obtain ⟨m1,m2⟩:=mul_bd q1 q2 hn.1 hn.2
   obtain ⟨m3,m4⟩:=mul_bd q3 q4 hn.1 hn.2
   go_enter Tryz.func208,Tryz.ntmps208
   go_wp2_with (go_at_call 155;refine (ok_any _ _ _).mono ?_;rintro e w' ⟨rfl,rfl⟩)
   refine bodyPost_ret (v:=rv (a*n / 10000) (b*n / 10000)) (by simp [results,Tryz.results208,go_sem]) rfl ⟨rfl,?_⟩
   repeat (first | exact Below.refl _ _ | refine yA ?_ _ | refine Below.drew ?_ | refine yC ?_ _ _ _ (by omega))
end
end Go.Proofs.YtdhibeclkdepiaaGreat
