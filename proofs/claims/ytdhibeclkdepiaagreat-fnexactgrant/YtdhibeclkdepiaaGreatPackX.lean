/-
  bI in one: UByI, DelA, InsC, InsD.
-/
import Derived.Test.YtdhibeclkdepiaaGreatPackT
import Derived.Test.YtdhibeclkdepiaaGreatPackV
import Derived.Maps.RangeWalk
import Derived.Test.YtdhibeclkdepiaaGreatPackU
import Derived.Lib.Overlaps
import Derived.Lib.AppendZerosOnto
import Derived.Lib.JoinLaws
import Derived.Deep.AppendSrc
import Derived.Deep.DeepAppendWide
import Derived.Laws.Externs
set_option maxRecDepth 100000
set_option maxHeartbeats 16000000
set_option linter.unusedVariables false
set_option linter.unusedSimpArgs false
/-
 Whether a queue is another one,or below it: what the program's reaches answers;a aAC over the dump.
-/
namespace Go.Proofs.YtdhibeclkdepiaaGreat
open Go.RowKit Go.Shelf
set_option linter.unusedVariables false
attribute [local go_sem] Oper.semAt_some
def iR (l:List Q) (nm wt:List UInt8):Bool:=(ups l nm).any (fun q=>decide (q.name=wt))
theorem aD3 {β:Type} (g:Nat) (arr:Array Value) (t:TypeId):Own (fun (_:β) W=>Blk W g arr t):=fun s X Y row hs hg hr=>
 (hg.block g (show Blk X g arr t from hs).lt (fun e=>by
  obtain ⟨o,ho,hc⟩:=hr g e.symm
  rw [show X.heap[g]? = _ from hs] at ho
  cases ho
  cases hc)).trans hs
theorem aDq {β:Type} (p:β→Prop):Own (fun (s:β) (_:World)=>p s):=fun s X Y row hs _ _=>hs
theorem aAV {β:Type} {I I':β→World→Prop} (h:Own I) (h':Own I'):Own (fun s W=>I s W∧I' s W):=fun s W W' row hs hg hr=>⟨h s W W' row hs.1 hg hr,h' s W W' row hs.2 hg hr⟩
set_option maxRecDepth 100000 in
set_option maxHeartbeats 4000000 in
theorem aCj (ao:Option Addr) (len cap:Nat) (l:List Q) (nm wt:List UInt8) (w:World) (h:gM w ao len l) (hl:len≤1048576) (hc:len≤cap) :
  Calls Tryz.prog 197 #[.slice ao len cap,.string (bs nm),.string (bs wt)] w fun e w'=>e=.returned (.bool (iR l nm wt))∧Below w.heap.size w w':=by
 have HR:=aA h
 have hB4:=yA (yA (yA (yA (Below.refl _ w) (.cells #[.string (bs wt)] 9)) (.cells #[.bool false] 4)) (.cells #[.slice ao len cap] 29)) (.cells #[.string (bs nm)] 9)
 have hK5:=(((yD w #[.string (bs wt)] 9).al (.cells #[.bool false] 4)).al (.cells #[.slice ao len cap] 29)).al (.cells #[.string (bs nm)] 9)
 have hK6:=((yD (w.alloc (.cells #[.string (bs wt)] 9)) #[.bool false] 4).al (.cells #[.slice ao len cap] 29)).al (.cells #[.string (bs nm)] 9)
 have hBq:=((yD ((w.alloc (.cells #[.string (bs wt)] 9)).alloc (.cells #[.bool false] 4)) #[.slice ao len cap] 29).al (.cells #[.string (bs nm)] 9)).at 0
 have hBn:=(yD (((w.alloc (.cells #[.string (bs wt)] 9)).alloc (.cells #[.bool false] 4)).alloc (.cells #[.slice ao len cap] 29)) #[.string (bs nm)] 9).at 0
 have hsz:((((w.alloc (.cells #[.string (bs wt)] 9)).alloc (.cells #[.bool false] 4)).alloc (.cells #[.slice ao len cap] 29)).alloc (.cells #[.string (bs nm)] 9)).heap.size=w.heap.size+4:=by simp only [yE]
 rw [yE] at hK6
 rw [yE,yE] at hBq
 rw [yE,yE,yE] at hBn
 obtain ⟨o,ho⟩:∃o,iR l nm wt=o:=⟨_,rfl⟩
 have HO:=aA ho
 rw [ho]
 clear h ho
 have hmx:Tryz.prog.follows .mixedOrders=true:=by kernel_rfl
 refine (callsIn_wide (n:=3)).1 ?_
 refine callsIn_of_wp_marks Tryz.func197 rfl trivial ?_ rfl
 simp only [Tryz.ntmps197,List.size_toArray,List.length_cons,List.length_nil,Nat.reduceAdd,Nat.reduceSub,Array.replicate_succ,Array.replicate_zero,List.push_toArray,List.append_toArray,List.nil_append,List.cons_append]
 gi_wp2_with fail
 refine ⟨trivial,?_⟩
 first | refine ⟨(by intro e;cases e),?_⟩ | skip
 refine (callsIn_wide.2 (wR ao len cap nm _)).mono ?_
 rintro e w2 ⟨rfl,rfl⟩
 gi_wp2
 obtain ⟨W0,hW0⟩:∃W0,(((w.alloc (.cells #[.string (bs wt)] 9)).alloc (.cells #[.bool false] 4)).alloc (.cells #[.slice ao len cap] 29)).alloc (.cells #[.string (bs nm)] 9)=W0:=⟨_,rfl⟩
 rw [hW0] at hB4 hK5 hK6 hBq hBn hsz ⊢
 have HC:=aA (oJ (3 - 1) (w.heap.size+1+1) (w.heap.size+1+1+1) ao len cap l nm w W0 (uH HR) hB4 hl hc hBq hBn)
 clear hW0 hBq hBn
 refine wpIn_rangeFunc_ownH rfl (by omega) (gf:=206) (lb:=#[.pointer (some ⟨w.heap.size+1+1,0,none⟩),.pointer (some ⟨w.heap.size+1+1+1,0,none⟩)]) rfl trivial (enters_of Tryz.func206 (by kernel_rfl) rfl)
  (uH HC) aJL (aJM (by omega)) (Below.refl _ _) (fun _=>rfl)
  (fun pre W=>((Blk W w.heap.size #[.string (bs wt)] 9∧Blk W (w.heap.size+1) #[.bool false] 4)∧(∀q ∈ pre,q.1.name≠wt))∧Below w.heap.size w W)
  (fun c pre W=>(Blk W (w.heap.size+1) #[.bool true] 4∧(c=.ret∧∃q ∈ pre,q.1.name=wt))∧Below w.heap.size w W)
  (OwnFrom.and (Own.from (aAV (aAV (aD3 _ _ _) (aD3 _ _ _)) (aDq (fun pre:List { q:Q // q ∈ l }=>∀q ∈ pre,q.1.name≠wt))) _) (ownFrom_below (Nat.le_refl _) (by omega)))
  (fun c=>OwnFrom.and (Own.from (aAV (aD3 _ _ _) (aDq (fun pre:List { q:Q // q ∈ l }=>c=.ret∧∃q ∈ pre,q.1.name=wt))) _) (ownFrom_below (Nat.le_refl _) (by omega)))
  ⟨⟨⟨hK5,hK6⟩,by simp⟩,hB4⟩
  (fun x a' W=>∃Bx,w.heap.size+1<Bx∧lL W Bx x.1∧a' = { tmps:=#[.slice ao len cap,.string (bs nm),.string (bs wt),undef,undef,.pointer (some ⟨w.heap.size,0,none⟩),.pointer (some ⟨w.heap.size+1,0,none⟩),.pointer (some ⟨Bx,0,none⟩),.slice ao len cap,.string (bs nm),.func (.func 206) #[] #[.pointer (some ⟨w.heap.size+1+1,0,none⟩),.pointer (some ⟨w.heap.size+1+1+1,0,none⟩)],qv x.1,undef,undef,undef,undef],defers:=[] })
  (fun x a' _ X Y row hs hg hr=>by
   obtain ⟨Bx,h1,h2,h3⟩:=hs
   refine ⟨Bx,h1,(hg.block Bx h2.lt (fun e=>?_)).trans h2,h3⟩
   obtain ⟨_,o,ho,hc⟩:=hr Bx e.symm
   rw [show X.heap[Bx]? = _ from h2] at ho
   cases ho
   cases hc)
  ?assign ?body ?done ?stop
 case assign=>
  rintro lp pre x W K ⟨⟨⟨k5,k6⟩,hne⟩,hB⟩ hK
  have hlt:=k6.lt
  gi_wp2
  exact hK _ _ ((KeepsOthers.alloc _ _).from _) (aEA hB.size (yA (Below.refl _ W) _)) ⟨⟨⟨k5.al _,k6.al _⟩,hne⟩,yA hB _⟩ ⟨W.heap.size,hlt,lL.new W x.1,rfl⟩
 case body=>
  rintro lp pre ⟨q,hq⟩ a' W hlp _ ⟨⟨⟨k5,k6⟩,hne⟩,hB⟩ ⟨Bx,hBx,hX,rfl⟩ hlt
  simp only at hX
  have hx0:=hX.c0
  have c5:=k5.at 0
  have c6:=k6.at 0
  have f6:=k6.f 0
  simp at c5 c6
  have hbe:=mV q.name wt
  have K5:=aA k5
  have K6:=aA k6
  have HNE:=aA hne
  have HB:=aA hB
  clear k5 k6 hne hB hX
  by_cases he:q.name=wt
  ·have HE:=aA he
   rw [decide_eq_true he] at hbe
   clear he
   gi_wp2
   refine ⟨(KeepsOthers.setCell _ _ _).from _,⟨?_,rfl,⟨q,hq⟩,by simp,uH HE⟩,yC (uH HB) _ _ _ (by omega)⟩
   have:=(uH K6).set 0 (.bool true)
   simpa using this
  ·have HE:=aA he
   rw [decide_eq_false he] at hbe
   clear he
   gi_wp2
   refine ⟨KeepsFrom.refl _ _,aEA (uH HB).size (Below.refl _ _),⟨⟨uH K5,uH K6⟩,?_⟩,uH HB⟩
   intro z hz
   rcases List.mem_append.1 hz with hz | hz
   ·exact uH HNE z hz
   ·have:z=⟨q,hq⟩:=by simpa using hz
    rw [this]
    exact uH HE
 case done=>
  rintro D ys W hD hys ⟨⟨⟨k5,k6⟩,hne⟩,hB⟩ hK
  have c6:=k6.at 0
  have f6:=k6.f 0
  simp at c6
  have hres:o=false:=by
   rw [←uH HO,iR,←hys,List.any_eq_false]
   intro z hz
   obtain ⟨q,hq,rfl⟩:=List.mem_map.1 hz
   simpa using hne q hq
  subst hres
  have K6:=aA k6
  have HB:=aA hB
  have HK:=aA hK
  have hDW:D≠w.heap.size+1:=by omega
  clear k5 k6 hne hB hK
  gi_wp2
  have e2:=(KeepsOthers.setCell W ⟨w.heap.size+1,0,none⟩ (.bool false)).same D _ (uH HK) rfl
  refine ⟨by simp,.inl ⟨_,_,rfl,run_takeDeferred e2,?_⟩⟩
  have KF:Blk _ (w.heap.size+1) _ _:=(World.putObj_heap_other (o:=.deferred none) (w:=W.setCell ⟨w.heap.size+1,0,none⟩ (.bool false)) (Ne.symm hDW)).trans ((uH K6).set 0 (.bool false))
  have r0:=KF.at 0
  simp at r0
  exact ⟨.bool false,(by simp [results,Tryz.results197,go_sem,r0]),rfl,(yC (uH HB) _ _ _ (by omega)).trans (belowK_b (w:=w) (Nat.le_refl _) _ D _ _ (by omega) e2 rfl rfl)⟩
 case stop=>
  rintro D c pre W hD hpre ⟨⟨k6,rfl,q,hq,he⟩,hB⟩ hK
  have hres:o=true:=by
   rw [←uH HO,iR,List.any_eq_true]
   exact ⟨q.1,hpre.subset (List.mem_map_of_mem hq),by simpa using he⟩
  subst hres
  have K6:=aA k6
  have HB:=aA hB
  have HK:=aA hK
  have hDW:D≠w.heap.size+1:=by omega
  clear k6 hB hK
  gi_wp2
  refine ⟨by simp,.inl ⟨_,_,rfl,run_takeDeferred (uH HK),?_⟩⟩
  have KF:Blk _ (w.heap.size+1) _ _:=(World.putObj_heap_other (o:=.deferred none) (w:=W) (Ne.symm hDW)).trans (uH K6)
  have r0:=KF.at 0
  simp at r0
  exact ⟨.bool true,(by simp [results,Tryz.results197,go_sem,r0]),rfl,(uH HB).trans (belowK_b (w:=w) (Nat.le_refl _) _ D _ _ (by omega) (uH HK) rfl rfl)⟩
end Go.Proofs.YtdhibeclkdepiaaGreat
/-
 What those containers have together that a method's value counts,by the program: used;a aAC over the dump.
-/
namespace Go.Proofs.YtdhibeclkdepiaaGreat
open Go.RowKit
set_option linter.unusedVariables false
set_option maxRecDepth 100000 in
set_option maxHeartbeats 4000000 in
theorem aC2 (bm:Nat) (p:Con→Bool) (x:Sls) (s:St) (w:World) (h:aY w x.ca x.cl s.cs) (hl:x.cl≤1048576)
  (hp:∀wx q,q ∈ s.cs→Below w.heap.size w wx→Calls Tryz.prog 125 #[.map (some bm),conv q] wx fun e w'=>e=.returned (.bool (p q))∧Below wx.heap.size wx w') :
  Calls Tryz.prog 187 #[sv x s,.func (.func 125) #[.map (some bm)] #[]] w fun e w'=>e=.returned (rv (gN (aT p s.cs)).1 (gN (aT p s.cs)).2.1)∧Below w.heap.size w w':=by
 obtain ⟨i0,hi,hz0,hz1,hz2⟩:=info_parts Tryz.infoR
 have eg:=enters_of Tryz.func125 (by kernel_rfl) rfl
 obtain ⟨qa,ql,qc,aa,al,ac,ma,ml,mc,ca,cl,cc⟩:=x
 obtain ⟨qs,clock,epoch,next,serial,apps,ms,cs⟩:=s
 simp only at h hl ⊢
 have HR:=aA h
 have HL:=aA h.1
 have HP:=aA hp
 obtain ⟨c,hc⟩:∃c:Array Value,#[.slice qa ql qc,.int .i64 clock,.int .i64 epoch,.int .i64 next,.int .i64 serial,.slice aa al ac,.slice ma ml mc,.slice ca cl cc]=c:=⟨_,rfl⟩
 have HC:=aA hc
 have HB0:=aA (bV w c)
 have V0:=aA (gL w c)
 have HW:=aA (qE w c)
 clear h hc hp
 obtain ⟨⟨sx,sy,so⟩,hs⟩:∃s,gN (aT p cs)=s:=⟨_,rfl⟩
 have HS:=aA hs
 rw [hs]
 clear hs
 go_enter Tryz.func187,Tryz.ntmps187
 go_wp2
 go_loopw [5,13] (fun v i wr=>∃(k:Nat),k≤cl∧i=.int .i64 k∧Hid (wU (rC w c).heap.size wr v (aT p (cs.take k)))∧Hid (Below (rC w c).heap.size (rC w c) wr)) (fun _ i _=>cl - (intOf i).toNat)
 case atStart=>
  obtain rfl:=uH HC
  exact ⟨0,Nat.zero_le _,rfl,aA (by simpa [aT] using aAR _ _),aA (Below.refl _ _)⟩
 case round=>
  obtain ⟨k,hk,rfl,HO,HB⟩:=hrel
  by_cases hlt:k<cl
  ·obtain ⟨b,off,rfl,hq⟩:=(((uH HR).below (uH HB0)).below (uH HB)).at hlt
   have hkl:k<cs.length:=by have:=uH HL;omega
   have hst:=mZ (p:=p) hkl
   obtain ⟨c0,c1,c2,c3,c4⟩:=hq hkl
   obtain ⟨m,hs⟩:∃q,cs[k]=q:=⟨_,rfl⟩
   rw [hs] at c0 c1 c2 c3 c4 hst
   have hal:(aT p (cs.take k)).length≤1048576:=by have:=tZ (p:=p) (cs.take k);simp at this;omega
   obtain ⟨acc,hacc⟩:∃a,aT p (cs.take k)=a:=⟨_,rfl⟩
   rw [hacc] at hst hal HO
   obtain ⟨id,ap,nd,me,cp⟩:=m
   simp only at c0 c1 c2 c3 c4 hst
   have HBA:=aA (yA (Below.refl _ wr) (aCJ ⟨id,ap,nd,me,cp⟩))
   have HCL:=aA (uH HP (wr.alloc (aCJ ⟨id,ap,nd,me,cp⟩)) ⟨id,ap,nd,me,cp⟩ (by rw [←hs];exact List.getElem_mem _) (yB (yB (uH HB0) (uH HB)) (uH HBA)))
   have KB:=aA (yD wr #[.int .i64 id,.int .i64 ap,.string (bs nd),.int .i64 me,.int .i64 cp] 38)
   clear hq hs hkl hacc
   cases hpq:p ⟨id,ap,nd,me,cp⟩ with
   | true=>
    rw [hpq] at HCL
    rw [hpq,if_pos rfl] at hst
    have HST:=aA hst
    clear hpq hst
    go_wp2_with (first
     | ((first | go_at_call 125 | go_at_fn 125);refine (uH HCL).mono ?_;rintro e w1 ⟨rfl,hb⟩;have HB1:=aA (yB (yB (uH HB) (uH HBA)) hb);have HO1:=aA (((uH HO).below (uH HBA)).below hb);have b1:=(uH KB).below hb;have q3:=b1.at 3;have q4:=b1.at 4;simp at q3 q4;have hs2:(rC w c).heap.size≤w1.heap.size:=(uH HB1).size;have hown:w1.ownsRow (rC w c).heap.size 36 2 _ acc.length (gH acc):=uH HO1;clear b1 hb HCL c0 c1 c2 c3 c4 HO HB)
     | (at_builtin;refine wpList_append_own _ rfl _ _ 141 rfl (rC w c).heap.size 36 i0 (.agg #[.int .i64 0,.int .i64 0]) 2 16 Tryz.underlying141 hi hz0 hz1 hz2 rfl (by decide) _ _ _ rfl (hown.alloc _) ⟨w1.heap.size,0,none⟩ 1 1 (xB (me,cp)) rfl rfl ?c1 ?c2 ?c3 ?c4 ?c5 ?_))
    case c1=>
     intro j x hj
     match j,hj with
     | 0,hj=>simp at hj;subst hj;simp [Addr.add]
     | 1,hj=>simp at hj;subst hj;simp [Addr.add]
     | _+2,hj=>simp at hj
    case c2=>intro x hx;simp at hx;rcases hx with rfl | rfl<;>rfl
    case c3=>unfold maxLen;omega
    case c4=>omega
    case c5=>simp at hs2 ⊢;omega
    intro v' w3 hown' hgrow _
    have R:=kR (q:=(me,cp)) (uH HB1) (uH HO1) hown' hgrow hs2
    have HR3:=aA R
    clear hown' hgrow hown R q3 q4
    go_wp2
    go_roundw
    case rel=>exact ⟨k+1,by omega,by go_num,aA (by rw [uH HST];exact (uH HR3).1),aA (uH HR3).2⟩
    case measure=>simp [intOf];omega
   | false=>
    rw [hpq] at HCL
    rw [hpq,if_neg (by simp)] at hst
    have HST:=aA hst
    clear hpq hst
    go_wp2_with ((first | go_at_call 125 | go_at_fn 125);refine (uH HCL).mono ?_;rintro e w1 ⟨rfl,hb⟩;have HB1:=aA (yB (yB (uH HB) (uH HBA)) hb);have HO1:=aA (((uH HO).below (uH HBA)).below hb);clear hb HCL c0 c1 c2 c3 c4 HO HB)
    go_roundw
    case rel=>exact ⟨k+1,by omega,by go_num,aA (by rw [uH HST];exact uH HO1),HB1⟩
    case measure=>simp [intOf];omega
  ·have htk:cs.take k=cs:=List.take_of_length_le (by have:=uH HL;omega)
   rw [htk] at HO
   obtain ⟨ao,cp,rfl,hrow,hcp⟩:=(uH HO).row
   have hlc:(aT p cs).length≤1048576:=by have:=tZ (p:=p) cs;have:=uH HL;omega
   have CT:=aA (mH ao _ cp (aT p cs) wr hrow hlc)
   rw [uH HS] at CT
   obtain ⟨n,hn⟩:∃n,(aT p cs).length=n:=⟨_,rfl⟩
   rw [hn] at CT ⊢
   clear hrow hn htk hcp hlc HO
   go_wp2_with fail
   refine (uH CT).mono ?_
   rintro e w1 ⟨rfl,hb⟩
   have hsz:w.heap.size+1<(rC w c).heap.size:=by have:=uH HW;omega
   have V1:Var w1 36 (w.heap.size+1) 0 0:=Var.below ((uH HB).block _ hsz |>.trans (uH V0)) hb
   have HB1:=aA (yB (yB (uH HB0) (uH HB)) hb)
   have V2:=V1.al (.cells #[.int .i64 sx,.int .i64 sy] 36)
   have t0:=V2.c0
   have t1:=V2.c1
   have f0:=V2.f 0
   have f1:=V2.f 1
   have VG:=V2.set sx sy
   have k6:=VG.c0
   have k7:=VG.c1
   clear hb V1 V2 VG CT HB HB0
   go_wp2
   refine bodyPost_ret (v:=rv sx sy) (by simp [results,Tryz.results187,go_sem,k6,k7]) rfl ⟨rfl,?_⟩
   repeat (first | exact uH HB1 | refine yA ?_ _ | refine yC ?_ _ _ _ (by omega))
end Go.Proofs.YtdhibeclkdepiaaGreat
/-
 What a queue uses,by the program: UsedBy;a aAC over the dump,with a map that is ranged over and shrinks.
-/
namespace Go.Proofs.YtdhibeclkdepiaaGreat
open Go.RowKit Go.Maps
set_option linter.unusedVariables false
set_option maxRecDepth 100000 in
theorem vP {n:Nat} {cs:List Value} {ls:List Lit} (h:Tryz.prog.keyLits (n+1) 9 cs=some ls):∃s,cs=[.string s]:=by
 unfold Program.keyLits at h
 rw [Tryz.underlying9] at h
 split at h<;>simp_all
set_option maxRecDepth 100000 in
theorem vQ {n:Nat} {cs:List Value} {ls:List Lit} (h:Tryz.prog.keyLits (n+1) 3 cs=some ls):∃k,cs=[.int .i64 k]:=by
 unfold Program.keyLits at h
 rw [Tryz.underlying3] at h
 split at h<;>simp_all
set_option maxRecDepth 100000 in
theorem aGj {key:Value} {kl:Lit} (h:keyOf Tryz.prog 133 key=some kl):∃x:List UInt8×Int,key=oL x.1 x.2:=by
 have hu:=Tryz.underlying133
 obtain ⟨m,hm⟩:=sI
 unfold keyOf at h
 rw [hu] at h
 simp only at h
 split at h
 ·rename_i hf
  rw [Bool.and_eq_true] at hf
  have hf2:=hf.2
  cases key with
  | agg cs=>
   simp only [Value.formed,hu,aA7] at hf2
   obtain ⟨l⟩:=cs
   have hl:l.length=2:=by simpa using hf2
   match l,hl with
   | [c0,c1],_=>
    rw [hm,show (Value.agg #[c0,c1]).cells.toList=[c0,c1] from rfl] at h
    cases hk:Tryz.prog.keyLits (m+2) 133 [c0,c1] with
    | none=>rw [hk] at h;simp at h
    | some ls=>
     unfold Program.keyLits at hk
     rw [hu] at hk
     simp only at hk
     split at hk
     ·simp [vR,vO] at hk
      cases h0:Tryz.prog.keyLits (m+1) 9 [c0] with
      | none=>rw [h0] at hk;simp at hk
      | some l0=>
       cases h1:Tryz.prog.keyLits (m+1) 3 [c1] with
       | none=>rw [h0,h1] at hk;simp at hk
       | some l1=>
        obtain ⟨s,e0⟩:=vP h0
        obtain ⟨k,e1⟩:=vQ h1
        simp at e0 e1
        subst e0 e1
        exact ⟨(s.data.toList,k),by simp [oL,aD2]⟩
     ·cases hk
  | _=>simp [Value.formed,hu] at hf2
 ·cases h
theorem aDE {D:DataW Unit} {left:Lit→Bool} {kl:Lit} (hkl:WideAt.IsKeyLit kl) (h:∀z,left z=true→Maps.has D z=true):∀z,(left z&&!z.sameKey kl)=true→Maps.has (D.del kl) z=true:=fun z hz=>by
 simp only [Bool.and_eq_true,Bool.not_eq_true'] at hz
 rw [has_del_other (fun e=>by subst e;rw [WideAt.sameKey_self hkl] at hz;cases hz.2)]
 exact h z hz.1
theorem aGb {D:DataW Unit} {left:Lit→Bool} {kl:Lit} (h:∀z,left z=true→Maps.has D z=true):∀z,(left z&&!z.sameKey kl)=true→Maps.has D z=true:=fun z hz=>by
 simp only [Bool.and_eq_true] at hz
 exact h z hz.1
theorem aJT {s:St} {hs:List AV} {w:World} (hh:iP w hs s.apps) (ho:aG s.qs=true) (nm:List UInt8) (q:Con):aGs hs (fun v=>iR s.qs v.queue nm) q=byQ s nm q:=by
 have e:=zQ (id:=q.app) hh.1 (fun i a b=>⟨(hh.2 i a b).1,(hh.2 i a b).2.1⟩)
 unfold aGs byQ
 cases h1:iZ q.app hs with
 | none=>
  cases h2:dY q.app s.apps with
  | none=>rfl
  | some a=>rw [h1,h2] at e;cases e
 | some v=>
  cases h2:dY q.app s.apps with
  | none=>rw [h1,h2] at e;cases e
  | some a=>
   rw [h1,h2] at e
   have e':v.queue=a.queue:=by simpa using e
   simp only [aJa]
   rw [iR,e',←aAD ho,List.any_map]
   rfl
theorem aIV {s:St} (ho:aG s.qs=false) (nm:List UInt8) (q:Con):byQ s nm q=false:=by
 unfold byQ
 cases dY q.app s.apps with
 | none=>rfl
 | some a=>simp [path,ho]
theorem aEX {p:Con→Bool} {l:List Con} (h:∀q,p q=false):aT p l=[]:=by
 have:l.filter p=[]:=by rw [List.filter_eq_nil_iff];intro a _;simp [h a]
 simp [aT,this]
theorem aC1 {p p':Con→Bool} {l:List Con} (h:∀q,p q=p' q):aT p l=aT p' l:=by rw [show p=p' from funext h]
set_option maxRecDepth 100000 in
set_option maxHeartbeats 4000000 in
theorem nV (x:Sls) (s:St) (nm:List UInt8) (w:World) (h:iJ w x s) (hf:bS s) (hc:x.ql≤x.qc) (hw:aEP s) :
  Calls Tryz.prog 176 #[sv x s,.string (bs nm)] w fun e w'=>e=.returned (rv (aL s nm).1 (aL s nm).2)∧Below w.heap.size w w':=by
 have hmf:∀(fn:Fn) (first cap:Array Value) (w:World),(Instr.makeFunc fn first cap).run Tryz.prog w=.ok (.func fn first cap) w:=fun _ _ _ _=>rfl
 have hql:x.ql≤1048576:=by have:=h.len.1;have:=hf.1.1;omega
 have hal:x.al≤1048576:=by have:=h.len.2.1;have:=hf.2.1.1;omega
 have hcl:x.cl≤1048576:=by have:=h.len.2.2.2;have:=hf.2.2.2.1;omega
 obtain ⟨hs,hav,hh⟩:=h.2.1.heads
 have CQ:=aA (fun wx (hb:Below w.heap.size w wx)=>dX x.qa x.ql x.qc s.qs wx (h.1.below hb) hql (fun q hq=>(hf.1.2 q hq).1) hc)
 have CM:=aA (fun wx (hb:Below w.heap.size w wx)=>aHU x s hs wx (hav.below hb) hal (aEI hh hw.1))
 have CR:=aA (fun wx (hb:Below w.heap.size w wx) (qu:List UInt8)=>aCj x.qa x.ql x.qc s.qs qu nm wx (h.1.below hb) hql hc)
 have CU:=aA (fun (bm n:Nat) (D:DataW Unit) wx (hb:Below w.heap.size w wx) (hown:wx.ownsMap Tryz.prog 133 eD bm n D) (hk:eP hs (fun _ v=>iR s.qs v.queue nm) D)=>aC2 bm (aGs hs (fun v=>iR s.qs v.queue nm)) x s wx (h.2.2.2.below hb) hcl
  (fun wy q hq hy=>aGq bm n D hs (fun v=>iR s.qs v.queue nm) q wy (bZ hown hy) hk (hw.2 q hq)))
 have HV1:=aA (fun ho:aG s.qs=true=>aC1 (l:=s.cs) (aJT hh ho nm))
 have HV2:=aA (fun ho:aG s.qs=false=>aEX (l:=s.cs) (aIV ho nm))
 have HV:=aA (show aL s nm=((gN (aT (byQ s nm) s.cs)).1,(gN (aT (byQ s nm) s.cs)).2.1) from rfl)
 obtain ⟨⟨ux,uy⟩,hu⟩:∃u,aL s nm=u:=⟨_,rfl⟩
 rw [hu] at HV ⊢
 obtain ⟨o,ho⟩:∃o,aG s.qs=o:=⟨_,rfl⟩
 rw [ho] at CQ HV1 HV2
 clear h hf hc hw hu ho hav hh
 obtain ⟨qa,ql,qc,aa,al,ac,ma,ml,mc,ca,cl,cc⟩:=x
 obtain ⟨qs,clock,epoch,next,serial,apps,ms,cs⟩:=s
 simp only at CQ CM CR CU HV1 HV2 HV hql hal hcl
 have HB0:=aA (bV w (svc ⟨qa,ql,qc,aa,al,ac,ma,ml,mc,ca,cl,cc⟩ ⟨qs,clock,epoch,next,serial,apps,ms,cs⟩))
 have V0:=aA (gL w (svc ⟨qa,ql,qc,aa,al,ac,ma,ml,mc,ca,cl,cc⟩ ⟨qs,clock,epoch,next,serial,apps,ms,cs⟩))
 have P0:=aA ((eO w (svc ⟨qa,ql,qc,aa,al,ac,ma,ml,mc,ca,cl,cc⟩ ⟨qs,clock,epoch,next,serial,apps,ms,cs⟩)).al (.cells #[.int .i64 0,.int .i64 0] 36))
 go_enter Tryz.func176,Tryz.ntmps176
 go_wp2_with fail
 refine (uH CQ _ (uH HB0)).mono ?_
 rintro e w1 ⟨rfl,hb⟩
 have HB1:=aA (yB (uH HB0) hb)
 have V1:=aA ((uH V0).below hb)
 have P1:=aA ((uH P0).below hb)
 clear hb HB0 V0 P0 CQ
 cases o with
 | false=>
  have hz:=uH HV
  rw [uH HV2 (by first | rfl | trivial)] at hz
  simp only [gN,bJ,Prod.mk.injEq] at hz
  obtain ⟨rfl,rfl⟩:=hz
  have V2:=uH V1
  have t0:=V2.c0
  have t1:=V2.c1
  have f0:=V2.f 0
  have f1:=V2.f 1
  have k4:=V2.s0 (.int .i64 0)
  have k5:=V2.s1 (.int .i64 0) (.int .i64 0)
  clear V2
  go_wp2
  refine bodyPost_ret (v:=rv 0 0) (by simp [results,Tryz.results176,go_sem,k4,k5]) rfl ⟨rfl,?_⟩
  repeat (first | exact uH HB1 | refine yA ?_ _ | refine yC ?_ _ _ _ (by omega))
 | true=>
  have HE:=aA (uH HV1 (by first | rfl | trivial))
  have HVV:=aA (show (ux,uy)=((gN (aT (aGs hs (fun v=>iR qs v.queue nm)) cs)).1,(gN (aT (aGs hs (fun v=>iR qs v.queue nm)) cs)).2.1) by rw [uH HE];exact uH HV)
  rw [show (gN (aT (aGs hs (fun v=>iR qs v.queue nm)) cs)).1=ux from (congrArg Prod.fst (uH HVV)).symm,show (gN (aT (aGs hs (fun v=>iR qs v.queue nm)) cs)).2.1=uy from (congrArg Prod.snd (uH HVV)).symm] at CU
  clear HV HV1 HV2 HE HVV
  obtain ⟨q0,q1,q2,q3,q4,q5,q6,q7⟩:_∧_∧_∧_∧_∧_∧_∧_:=⟨(uH P1).at 0,(uH P1).at 1,(uH P1).at 2,(uH P1).at 3,(uH P1).at 4,(uH P1).at 5,(uH P1).at 6,(uH P1).at 7⟩
  simp at q0 q1 q2 q3 q4 q5 q6 q7
  have hpl:=(uH P1).lt
  have hvl:=(uH V1).lt
  go_wp2_with fail
  refine (uH CM _ (uH HB1)).mono ?_
  rintro e w2 ⟨bm,rfl,⟨hbm,D0,hown,hkn⟩,hb⟩
  have HB2:=aA hb
  have HK0:=aA hkn
  clear q0 q1 q2 q3 q4 q5 q6 q7 hb hkn CM
  go_wp2_with (first
   | (at_range;refine wpList_range_own _ rfl _ 164 rfl 133 74 iT Tryz.underlying164 _ bm hs.length D0 rfl hown ?_;intro w3 hrg0 hg0 hs0)
   | go_in)
  go_frame
  have hw12:w1.heap.size≤w2.heap.size:=(uH HB2).size
  have HB3:=aA (show Below w1.heap.size w1 w3 from (uH HB2).grown hg0 hw12 (fun k e=>by cases e))
  have HRG0:=aA hrg0
  obtain ⟨r,hr⟩:∃r,w2.heap.size=r:=⟨_,rfl⟩
  rw [hr] at HRG0 hw12 ⊢
  have hwa:w.heap.size≤w1.heap.size:=(uH HB1).size
  clear hrg0 hg0 hs0 HB2 hown hr
  go_loopw [6] (fun _ wr=>∃(left:Lit→Bool) (cnt:Nat) (D:DataW Unit),Hid (wr.ranges Tryz.prog 133 eD bm r hs.length D left cnt)∧Hid (eP hs (fun kl v=>left kl||iR qs v.queue nm) D)∧Hid (∀z,left z=true→Maps.has D z=true)∧Hid (Below w1.heap.size w1 wr)) (fun _ wr=>wr.rangeLeft bm r)
  case atStart=>exact ⟨_,_,D0,HRG0,aA ⟨(uH HK0).1,fun v kl h1 h2=>by have:=(uH HK0).2 v kl h1 h2;simp only at this ⊢;rw [this];rfl⟩,aA (fun z h=>h),HB3⟩
  case round=>
   obtain ⟨left,cnt,D,HRG,HKN,HLT,HBr⟩:=hrel
   have hrg:=uH HRG
   clear HRG0 HK0 HB3
   go_wp2_with (first
    | (at_next;refine wpList_next_ranges _ rfl _ rfl 133 iT eD (fun x:List UInt8×Int=>oL x.1 x.2) avv (fun key kl hkey=>aGj hkey) (fun v y hv=>l8 hv) bm r hs.length D left cnt rfl hrg ?_ ?_)
    | go_in)
   ·intro _ hl0
    have HKF:=aA (show eP hs (fun _ v=>iR qs v.queue nm) D from ⟨(uH HKN).1,fun v kl h1 h2=>by have:=(uH HKN).2 v kl h1 h2;simp only [hl0,Bool.false_or] at this;exact this⟩)
    have PB:=(uH P1).below (uH HBr)
    obtain ⟨q0,q1,q2,q3,q4,q5,q6,q7⟩:_∧_∧_∧_∧_∧_∧_∧_:=⟨PB.at 0,PB.at 1,PB.at 2,PB.at 3,PB.at 4,PB.at 5,PB.at 6,PB.at 7⟩
    simp at q0 q1 q2 q3 q4 q5 q6 q7
    have HVB:=aA ((uH V1).below (uH HBr))
    have HBB:=aA (yB (uH HB1) (uH HBr))
    have HOW:=aA hrg.owns
    clear HRG HKN HLT hrg hl0 PB CR
    go_wp2_with fail
    refine (uH CU bm hs.length D _ (uH HBB) (uH HOW) (uH HKF)).mono ?_
    rintro e w5 ⟨rfl,hb⟩
    have V2:=(uH HVB).below hb
    have HB5:=aA (yB (uH HBB) hb)
    have t0:=V2.c0
    have t1:=V2.c1
    have f0:=V2.f 0
    have f1:=V2.f 1
    have k4:=V2.s0 (.int .i64 ux)
    have k5:=V2.s1 (.int .i64 ux) (.int .i64 uy)
    clear V2 hb q0 q1 q2 q3 q4 q5 q6 q7
    go_wp2
    refine bodyPost_ret (v:=rv ux uy) (by simp [results,Tryz.results176,go_sem,k4,k5]) rfl ⟨rfl,?_⟩
    repeat (first | exact uH HB5 | refine yA ?_ _ | refine yC ?_ _ _ _ (by omega))
   ·rintro x1 x2 ⟨id,qu,zo,zl,zc⟩ kl y1 y2 w4 cnt1 hkey hlk hR hat hrg1 hlt hg1 hs1 hen
    obtain ⟨HFD,HKV⟩:Hid (iZ id hs=some ⟨id,qu,zo,zl,zc⟩)∧Hid (keyOf Tryz.prog 133 (oL [] id)=some kl):=by
     obtain ⟨v,hf,hkv,hav⟩:=(uH HKN).1 kl (uH HLT kl hlk)
     rw [kX] at hR
     have e:=aHY ((hav (.map [])).symm.trans ((hat (.map [])).trans (congrArg Prod.fst (Option.some.inj hR)).symm))
     subst e
     exact ⟨aA hf,aA hkv⟩
    have HKY:=aA (show keyOf Tryz.prog 133 (oL x1 x2)=some kl from hkey)
    have HR1:=aA hrg1
    have HLT1:=aA hlt
    have HB4:=aA (show Below w1.heap.size w1 w4 from (uH HBr).grown hg1 (uH HBr).size (fun k e=>by cases e;omega))
    obtain ⟨b,hbb⟩:∃b,iR qs qu nm=b:=⟨_,rfl⟩
    have CRq:=aA (fun wx (hb:Below w.heap.size w wx)=>by have:=uH CR wx hb qu;rw [hbb] at this;exact this)
    have HBB:=aA hbb
    have PB:=(uH P1).below (uH HB4)
    have q0:=PB.at 0
    simp at q0
    have q0b:=(PB.al (.cells #[.string (bs x1),.int .i64 x2] 133)).at 0
    have q0c:=((PB.al (.cells #[.string (bs x1),.int .i64 x2] 133)).al (.cells #[.int .i64 id,.string (bs qu),.slice zo zl zc] 74)).at 0
    simp at q0b q0c
    clear hkey hR hat hrg1 hlt hg1 hs1 hlk hbb PB CR CU
    go_wp2_with fail
    refine (uH CRq _ ?_).mono ?_
    ·exact yA (yA (yB (uH HB1) (uH HB4)) _) _
    rintro e w5 ⟨rfl,hb⟩
    have HB5:=aA (yB (yA (yA (Below.refl _ w4) (.cells #[.string (bs x1),.int .i64 x2] 133)) (.cells #[.int .i64 id,.string (bs qu),.slice zo zl zc] 74)) hb)
    have KB:=((yD w4 #[.string (bs x1),.int .i64 x2] 133).al (.cells #[.int .i64 id,.string (bs qu),.slice zo zl zc] 74)).below hb
    have z0:=KB.at 0
    have z1:=KB.at 1
    simp at z0 z1
    have HR5:=aA ((uH HR1).kept (aH (aF w4 none) (uH HB5)) (by simp) (by simp))
    have HW5:=aA (show Below w1.heap.size w1 w5 from yB (uH HB4) (uH HB5))
    clear hb KB CRq q0 q0b q0c hen HR1
    cases b with
    | true=>
     have HST:=aA ((uH HKN).stay (v:=⟨id,qu,zo,zl,zc⟩) (uH HFD) (uH HKV) (uH HBB))
     go_wp2
     go_roundw
     case rel=>exact ⟨_,cnt1,D,HR5,HST,aA (aGb (uH HLT)),HW5⟩
     case measure=>rw [(uH HR5).left_eq,hrg.left_eq];exact uH HLT1
    | false=>
     have HST:=aA ((uH HKN).strike (v:=⟨id,qu,zo,zl,zc⟩) (uH HFD) (uH HKV) (uH HBB))
     have hrg5:=uH HR5
     go_wp2_with (first
      | (at_delete;refine wpList_delete_ranges _ rfl _ _ 164 133 rfl 74 iT Tryz.underlying164 _ bm r hs.length _ _ _ rfl hrg5 _ _ rfl (uH HKY) ?_;intro w6 cnt2 hrg6 hle hturn;go_frame)
      | go_in)
     rw [strike_twice] at hrg6
     have HW6:=aA (show Below w1.heap.size w1 w6 from (uH HW5).grown hturn.grown (uH HW5).size (fun k e=>by cases e;omega))
     have HR6:=aA hrg6
     have HLE:=aA hle
     clear hturn hrg5 hrg6 hle
     go_roundw
     case rel=>exact ⟨_,cnt2,_,HR6,HST,aA (aDE (iT.key (uH HKY)) (uH HLT)),HW6⟩
     case measure=>rw [(uH HR6).left_eq,hrg.left_eq];have:=uH HLE;have:=uH HLT1;omega
end Go.Proofs.YtdhibeclkdepiaaGreat
namespace Go.Proofs.YtdhibeclkdepiaaGreat
section
open Go.RowKit
theorem dU:∀a b:List Ask,aN (a++b)=aN a++aN b
 | [],b=>rfl
 | q::t,b=>by rw [List.cons_append,aN,aN,dU t b,List.append_assoc]
theorem aJ6 (l:List Ask) (i:Nat) (h:i≤l.length):(aN l).take (i*5)=aN (l.take i):=by
 conv=>lhs;rw [←List.take_append_drop i l,dU]
 rw [List.take_append_of_le_length (by rw [aV,List.length_take];omega),List.take_of_length_le (by rw [aV,List.length_take];omega)]
theorem tC (l:List Ask) (k:Nat) (h:k<l.length):aN (l.eraseIdx k)=aN (l.take k)++aN (l.drop (k+1)):=by
 rw [List.eraseIdx_eq_take_drop_succ,dU]
theorem aIi:∀w,(zeroValue 77).run Tryz.prog w=.ok (.agg #[.int .i64 0,.int .i64 0,.int .i64 0,.string ByteArray.empty,.int .i64 0]) w:=fun w=>by kernel_rfl
theorem aJS:(Tryz.prog.info? 77).map (fun i=>i.size)=some 5:=by kernel_rfl
theorem aAh (g N cap k:Nat) (l:List Ask) (w:World) (h:Lay w 77 g N (aN l)) (hk:k<l.length) (hcap:l.length≤cap) (hl:l.length≤1048576) (hN:l.length*5≤N) :
  Calls Tryz.prog 107 #[.slice (some ⟨g,0,none⟩) l.length cap,.int .i64 (k:Int),.int .i64 ((k:Int)+1)] w fun e w'=>e=.returned (.slice (some ⟨g,0,none⟩) (l.length - 1) cap)∧Lay w' 77 g N (aN (l.eraseIdx k))∧Mks (fun b=>b=g) w w':=by
 obtain ⟨i0,hi0,hsz⟩:∃i0,Tryz.prog.info? 77=some i0∧i0.size=5:=by
  have:=aJS
  cases hq:Tryz.prog.info? 77 with
  | none=>rw [hq] at this;simp at this
  | some i=>rw [hq] at this;exact ⟨i,rfl,by simpa using this⟩
 obtain ⟨n,hn⟩:∃n,l.length=n:=⟨_,rfl⟩
 rw [hn] at hk hcap hl hN ⊢
 have HN:=aA hn
 have H:=aA h
 obtain ⟨news,hnews⟩:∃x,aN (l.drop (k+1))=x:=⟨_,rfl⟩
 have hnl:news.length=(n - (k+1))*5:=by rw [←hnews,aV,List.length_drop,hn]
 have HC:=aA (show ∀j u,news[j]? = some u→w.cell? ⟨g,(k+1)*5+j,none⟩=some u from fun j u hj=>by
  refine h.cell ?_
  have e:aN l=aN (l.take (k+1))++news:=by rw [←hnews,←dU,List.take_append_drop]
  rw [e,List.getElem?_append_right (by rw [aV,List.length_take];omega),aV,List.length_take]
  rw [show (k+1)*5+j - min (k+1) l.length*5=j by omega]
  exact hj)
 have H1:=aA (show ∀u ∈ news,u.oneCell'=true from fun u hu=>iB _ u (by rw [hnews];exact hu))
 have HS:=aA (show ∀j,j<news.length→(w.cell? ⟨g,0+k*5+j,none⟩).isSome=true∧w.frozen? ⟨g,0+k*5+j,none⟩=false from fun j hj=>⟨by rw [Nat.zero_add];exact h.isThere (by omega),h.frozen _⟩)
 have k0:(0:Int)≤k:=by omega
 have k1:(k:Int)≤(k:Int)+1:=by omega
 have k2:(k:Int)+1≤n:=by omega
 have k3:(n:Int)≤cap:=by omega
 have k4:¬(k:Int)=(k:Int)+1:=by omega
 have k5:(k:Int)≤n:=by omega
 have k6:(0:Int)≤(k:Int)+1:=by omega
 have k7:((k:Int)+1).toNat=k+1:=by omega
 have hz:(Builtin.zeroCells (Value.agg #[.int .i64 0,.int .i64 0,.int .i64 0,.string ByteArray.empty,.int .i64 0]).cells 1).toList=[.int .i64 0,.int .i64 0,.int .i64 0,.string ByteArray.empty,.int .i64 0]:=by kernel_rfl
 obtain ⟨W1,hW1⟩:∃W1,W1=w.drew.setCells g (0+k*5) news:=⟨_,rfl⟩
 have hL1:Lay W1 77 g N (aN (l.eraseIdx k)):=by
  rw [hW1]
  refine h.drew.cells _ _ (by omega) _ (by rw [aV,List.length_eraseIdx_of_lt (by omega)];omega) (fun j u hj=>?_)
  rw [tC l k (by omega),hnews] at hj
  have hcl:(aN (l.take k)).length=k*5:=by rw [aV,List.length_take];omega
  rw [Nat.zero_add]
  refine ⟨fun e=>?_,fun e=>?_⟩
  ·rw [List.getElem?_append_right (by omega),hcl] at hj
   exact hj
  ·have hlt:=(List.getElem?_eq_some_iff.1 hj).1
   rw [List.length_append,hcl] at hlt
   rw [List.getElem?_append_left (by omega)] at hj
   refine h.drew.cell ?_
   have e2:aN l=aN (l.take k)++aN (l.drop k):=by rw [←dU,List.take_append_drop]
   rw [e2,List.getElem?_append_left (by omega)]
   exact hj
 have hM1:Mks (fun b=>b=g) w W1:=by
  rw [hW1]
  exact dW (S:=fun b=>b=g) rfl _ _ _ _ (.of_below (Below.refl _ w).drew)
 have hcl:∀ty,(Builtin.clear_ #[72] ty #[.slice (some ⟨g,(k+(n - (k+1)))*5,none⟩) (n - (k+(n - (k+1)))) (cap - (k+(n - (k+1))))]).run Tryz.prog W1=.ok (.tuple #[]) (W1.setCells g ((n - 1)*5) [.int .i64 0,.int .i64 0,.int .i64 0,.string ByteArray.empty,.int .i64 0]):=fun ty=>by
  rw [show n - (k+(n - (k+1)))=1 by omega,show k+(n - (k+1))=n - 1 by omega]
  exact aAQ W1 _ _ ty _ Tryz.underlying72 aIi _ hz (fun v hv=>by simp at hv;rcases hv with rfl | rfl | rfl<;>rfl) g _ _ (fun j hj=>hL1.isThere (by simp at hj;omega)) (fun j hj=>hL1.frozen _)
 have HA:=aA (show Lay (W1.setCells g ((n - 1)*5) [.int .i64 0,.int .i64 0,.int .i64 0,.string ByteArray.empty,.int .i64 0]) 77 g N (aN (l.eraseIdx k))∧Mks (fun b=>b=g) w (W1.setCells g ((n - 1)*5) [.int .i64 0,.int .i64 0,.int .i64 0,.string ByteArray.empty,.int .i64 0]) from by
  refine ⟨hL1.cells _ _ (by simp;omega) _ (by rw [aV,List.length_eraseIdx_of_lt (by omega)];omega) (fun j u hj=>⟨fun e=>?_,fun e=>hL1.cell hj⟩),dW (S:=fun b=>b=g) rfl _ _ _ _ hM1⟩
  have hlt:=(List.getElem?_eq_some_iff.1 hj).1
  rw [aV,List.length_eraseIdx_of_lt (by omega)] at hlt
  omega)
 have HW:=aA hW1
 have j1:((k+(n - (k+1)):Nat):Int)≤n:=by omega
 have j2:k+(n - (k+1))≤n:=by omega
 have j3:¬cap=k+(n - (k+1)):=by omega
 have j4:n≤cap:=by omega
 have j6:k≤cap:=by omega
 have j7:k+1≤cap:=by omega
 have j8:k+1≤n:=by omega
 clear h hn hW1 hL1 hM1
 by_cases hcc:cap=k+1
 ·subst hcc
  have hnk:n=k+1:=by omega
  have hnl0:news.length=0*5:=by rw [hnl];omega
  have e1:k+(n - (k+1))=k:=by omega
  rw [e1] at hcl j1 j2 j3
  subst hnk
  rw [show k+1 - k=1 by omega] at hcl
  go_enter Tryz.func107,Tryz.ntmps107
  go_wp2_with fail
  go_region_law (refine step_append_room rfl (.tmp 22) (.tmp 25) 72 rfl 77 i0 5 Tryz.underlying72 hi0 hsz g 0 k (k+1) (by simp [Act.eval,Act.put]) ⟨g,0,none⟩ 0 0 news (by simp [Act.eval,Act.put]) hnl0 (fun j u hj=>absurd (List.getElem?_eq_some_iff.1 hj).1 (by rw [hnl0];omega)) (uH H1) (by omega) (uH HS) ?_;rw [←uH HW])
  go_wp2
  go_ret
  exact ⟨rfl,uH HA⟩
 have j5:¬(k+1=cap):=by omega
 go_enter Tryz.func107,Tryz.ntmps107
 go_wp2_with fail
 go_region_law (refine step_append_room rfl (.tmp 22) (.tmp 25) 72 rfl 77 i0 5 Tryz.underlying72 hi0 hsz g 0 k cap (by simp [Act.eval,Act.put]) ⟨g,(k+1)*5,none⟩ (n - (k+1)) (cap - (k+1)) news (by simp [Act.eval,Act.put]) hnl (fun j u hj=>by rw [Addr.add_lit];exact uH HC j u hj) (uH H1) (by omega) (uH HS) ?_;rw [←uH HW])
 go_wp2
 go_ret
 exact ⟨by rw [show k+(n - (k+1))=n - 1 by omega];rfl,uH HA⟩
theorem aJR:∃i0 z,Tryz.prog.info? 38=some i0∧i0.size=5∧i0.zero=some z∧z.cells.size=5∧0<i0.bytes∧i0.bytes≤100:=by
 have h:(Tryz.prog.info? 38).map (fun i=>(i.size,i.zero.map (fun z=>z.cells.size),decide (0<i.bytes∧i.bytes≤100)))=some (5,some 5,true):=by kernel_rfl
 cases hq:Tryz.prog.info? 38 with
 | none=>rw [hq] at h;simp at h
 | some i=>
  rw [hq] at h
  simp at h
  cases hz:i.zero with
  | none=>rw [hz] at h;simp at h
  | some z=>rw [hz] at h;simp at h;exact ⟨i,z,rfl,h.1,hz,h.2.1,h.2.2.1,h.2.2.2⟩
theorem nK (l:List Con) (q:Con) (i:Nat):aI (l.take i++q::l.drop i)=aI (l.take i)++(fP q++aI (l.drop i)):=by
 rw [cZ];rfl
def CRm (B:Nat) (w:World) (ao:Option Addr) (n cap:Nat) (l:List Con):Prop:=aY w ao n l∧tV B w 38 5 ao n cap
def kK (B:Nat) (ao:Option Addr) (n cap:Nat) (l:List Con) (w:World) (e:Ending) (w':World):Prop:=
 ∃ao' cap',e=.returned (.slice ao' (n+1) cap')∧CRm B w' ao' (n+1) cap' l∧Mks (fun k=>cap≠0∧∃N,Cel w 38 k N∧B≤k∧∃o,ao=some ⟨k,o,none⟩) w w'∧(cap≠0∧ao'=ao∨∃g',ao'=some ⟨g',0,none⟩∧w.heap.size≤g')
theorem CRm.cells {B g n cap:Nat} {w:World} {l:List Con} (h:CRm B w (some ⟨g,0,none⟩) n cap l) (h0:0<cap):∃M,B≤g∧Lay w 38 g (M*5) (aI l)∧cap≤M∧n=l.length∧n≤cap:=by
 obtain ⟨h1,h2,h4⟩:=h
 rcases h4 with e | ⟨g',M,e,hB,hc,hM⟩
 ·omega
 ·cases e
  have hl:=h1.1
  exact ⟨M,hB,zL hc (fun j u hj=>by have:=gY h1 j u hj;rwa [Nat.zero_add] at this) (by rw [bU,←hl];exact Nat.mul_le_mul_right _ (by omega)),hM,hl,h2⟩
theorem Lay.Crm {B g n cap M:Nat} {w:World} {l:List Con} (h:Lay w 38 g (M*5) (aI l)) (hB:B≤g) (hM:cap≤M) (hn:n=l.length) (hc:n≤cap):CRm B w (some ⟨g,0,none⟩) n cap l:=by
 subst hn
 refine ⟨?_,hc,.inr ⟨g,M,rfl,hB,h.cel,hM⟩⟩
 exact h.rowC
theorem aDO {B:Nat} (g n cap gv m:Nat) (hm:m=1) (l:List Con) (q:Con) (w:World) (h:CRm B w (some ⟨g,0,none⟩) n cap l) (hv:Blk w gv (fP q).toArray 38) (hne:g≠gv) (hroom:n+1≤cap) (hn:n≤1048576) :
  Calls Tryz.prog 72 #[.slice (some ⟨g,0,none⟩) n cap,.int .i64 (n:Int),.slice (some ⟨gv,0,none⟩) m m] w (kK B (some ⟨g,0,none⟩) n cap (l++[q]) w):=by
 obtain ⟨i0,z,hi0,hsz,hz0,hzc,hb0,hb1⟩:=aJR
 obtain ⟨M,hB,hlay,hM,hl,hnc⟩:=h.cells (by omega)
 have hnl:(fP q).length=5:=rfl
 obtain ⟨N',hN'⟩:∃k,k=n+1:=⟨_,rfl⟩
 obtain ⟨W',hW'⟩:∃k,k=(w.setCells g (0+n*i0.size) (fP q)):=⟨_,rfl⟩
 have HRUN:=aA (fun ty=>show (Builtin.append_ #[32,32] ty #[.slice (some ⟨g,0,none⟩) n cap,.slice (some ⟨gv,0,none⟩) m m]).run Tryz.prog w=.ok (.slice (some ⟨g,0,none⟩) N' cap) W' from by
  rw [hm,hN',hW']
  exact run_append_room_cells (P:=Tryz.prog) w 32 ty 38 i0 Tryz.underlying32 hi0 g 0 n cap ⟨gv,0,none⟩ 1 1 (fP q) (by rw [hsz,hnl]) (fun j u hj=>by
   rw [Addr.add_lit]
   have h1:=hv.at j
   rw [List.getElem?_toArray,hj] at h1
   rw [Nat.zero_add]
   exact h1) (fun u hu=>dG [q] u (by simpa [aI] using hu)) hroom (fun j hj=>hlay.isThere (by rw [hsz];rw [hnl] at hj;have:=Nat.mul_le_mul_right 5 (show n+1≤M by omega);omega)) (fun j hj=>hlay.frozen _))
 have HA:=aA (show kK B (some ⟨g,0,none⟩) n cap (l++[q]) w (.returned (.slice (some ⟨g,0,none⟩) N' cap)) W' from by
  rw [hN',hW']
  exact ⟨some ⟨g,0,none⟩,cap,rfl,Lay.Crm (M:=M) (hlay.cells _ _ (by rw [hsz,hnl];have:=Nat.mul_le_mul_right 5 (show n+1≤M by omega);omega) _ (by rw [bU,List.length_append];have:=Nat.mul_le_mul_right 5 (show n+1≤M by omega);simp;omega) (fun j u hj=>by
   rw [cZ] at hj
   have hcl:(aI l).length=n*5:=by rw [bU,hl]
   rw [hsz,hnl]
   refine ⟨fun e=>?_,fun e=>?_⟩
   ·rw [List.getElem?_append_right (by omega),hcl] at hj
    simpa [aI,Nat.zero_add] using hj
   ·by_cases e2:j<n*5
    ·rw [List.getElem?_append_left (by omega)] at hj
     exact hlay.cell hj
    ·have:=(List.getElem?_eq_some_iff.1 hj).1
     simp [aI,hcl] at this
     omega)) hB hM (by simp [hl]) (by omega),dW (by exact ⟨by omega,_,hlay.cel,hB,0,rfl⟩) _ _ _ _ (Mks.refl _ _),.inl ⟨by omega,rfl⟩⟩)
 have hcn:¬cap=n:=by omega
 have n0:¬(m:Int)=0:=by omega
 clear h hv hlay hl hm hi0 hz0 hroom hzc hb0 hb1 hnl hM
 clear hW' hN'
 clear hsz
 go_enter Tryz.func72,Tryz.ntmps72
 go_wp2_with (at_builtin;refine Lib.wpList_append_run _ rfl _ _ _ _ rfl _ _ rfl rfl _ _ (uH HRUN _) ?_)
 go_ret
 exact uH HA
theorem uI (z:Value) (k s:Nat) (h:z.cells.size=s):(Builtin.zeroCells z.cells k).size=k*s:=by simp [Builtin.zeroCells,h]
theorem aBq {B:Nat} (ao:Option Addr) (n cap gv m:Nat) (hm:m=1) (l:List Con) (q:Con) (w:World) (h:CRm B w ao n cap l) (hv:Blk w gv (fP q).toArray 38) (hroom:¬n+1≤cap) (hn:n≤1048576) (hBw:B≤w.heap.size) :
  Calls Tryz.prog 72 #[.slice ao n cap,.int .i64 (n:Int),.slice (some ⟨gv,0,none⟩) m m] w (kK B ao n cap (l++[q]) w):=by
 obtain ⟨i0,z,hi0,hsz,hz0,hzc,hb0,hb1⟩:=aJR
 have hl:=h.1.1
 have hnc:=h.2.1
 have hnl:(fP q).length=5:=rfl
 have hold:(Builtin.firstCells i0.size n (.slice ao n cap)).run Tryz.prog w.drew=.ok (aI l).toArray w.drew:=by
  rcases h.2.2 with h0 | ⟨g,M,rfl,hB,hc,hM⟩
  ·have:l=[]:=List.eq_nil_of_length_eq_zero (by omega)
   subst this
   obtain rfl:n=0:=by omega
   cases ao with
   | none=>exact run_firstCells_none w.drew _ _ _ _
   | some ad=>exact run_firstCells_some w.drew _ 0 ad 0 cap [] (by simp) (fun j v hj=>by simp at hj)
  ·exact run_firstCells_some w.drew _ n ⟨g,0,none⟩ n cap (aI l) (by rw [bU,hsz,hl]) (fun j v hj=>by rw [Addr.add_lit];exact gY h.1 j v hj)
 have hsrc:Src Tryz.prog i0.size 32 (.slice (some ⟨gv,0,none⟩) 1 1) 1 (fP q) w:=Src.ofSlice w Tryz.underlying32 ⟨gv,0,none⟩ 1 1 _ (by rw [hsz,hnl]) (fun j u hj=>by
  rw [Addr.add_lit]
  have h1:=hv.at j
  rw [List.getElem?_toArray,hj] at h1
  rw [Nat.zero_add]
  exact h1) (fun u hu=>dG [q] u (by simpa [aI] using hu))
 have hG1:=grownCap_ge w (n+1) cap 38
 obtain ⟨G,hG⟩:∃G,grownCap w (n+1) cap 38=G:=⟨_,rfl⟩
 obtain ⟨N',hN'⟩:∃k,k=n+1:=⟨_,rfl⟩
 obtain ⟨W',hW'⟩:∃k,k=(w.drew.alloc (.cells ((aI l++fP q).toArray++Builtin.zeroCells z.cells (G - (n+1))) 38)):=⟨_,rfl⟩
 have HRUN:=aA (fun ty=>show (Builtin.append_ #[32,32] ty #[.slice ao n cap,.slice (some ⟨gv,0,none⟩) m m]).run Tryz.prog w=.ok (.slice (some ⟨w.heap.size,0,none⟩) N' G) W' from by
  rw [hm,hN',hW',←hG]
  exact run_append_grow_src w 32 32 ty 38 i0 z Tryz.underlying32 hi0 hz0 ao n cap (aI l) hold _ 1 (fP q) hsrc (by omega) (by omega) (growslice_fits_wide (by omega) (by
   have h1:(n+1+(n+1) / 4+192)≤2000000:=by omega
   have:=Nat.mul_le_mul h1 hb1
   omega)))
 rw [hG] at hG1
 have HA:=aA (show kK B ao n cap (l++[q]) w (.returned (.slice (some ⟨w.heap.size,0,none⟩) N' G)) W' from by
  rw [hN',hW']
  have hbel:Below w.heap.size w (w.drew.alloc (.cells ((aI l++fP q).toArray++Builtin.zeroCells z.cells (G - (n+1))) 38)):=yA (Below.refl _ w).drew _
  refine ⟨_,G,rfl,Lay.Crm (M:=G) (w:=w.drew.alloc (.cells ((aI l++fP q).toArray++Builtin.zeroCells z.cells (G - (n+1))) 38)) ⟨(Builtin.zeroCells z.cells (G - (n+1))).toList,?_,?_⟩ hBw (Nat.le_refl _) (by simp [hl]) (by omega),.of_below hbel,.inr ⟨_,rfl,Nat.le_refl _⟩⟩
  ·have e:(aI (l++[q])++(Builtin.zeroCells z.cells (G - (n+1))).toList).toArray=(aI l++fP q).toArray++Builtin.zeroCells z.cells (G - (n+1)):=by
    rw [cZ]
    simp [aI]
   rw [e]
   show (w.heap.push _)[w.heap.size]? = _
   rw [Array.getElem?_push,if_pos rfl]
  ·have h1:=uI z (G - (n+1)) 5 hzc
   have h2:(Builtin.zeroCells z.cells (G - (n+1))).toList.length=(G - (n+1))*5:=by rw [Array.length_toList];exact h1
   have h3:(aI (l++[q])).length=(n+1)*5:=by rw [bU];simp [hl]
   rw [List.length_append,h3,h2,←Nat.add_mul]
   congr 1
   omega)
 have HA2:=aA (show kK B ao n n (l++[q]) w (.returned (.slice (some ⟨w.heap.size,0,none⟩) N' G)) W' from by have h1:=uH HA;rw [show cap=n by omega] at h1;exact h1)
 have n0:¬(m:Int)=0:=by omega
 have HN0:=aA (fun (e:ao=none)=>show n=0 from by
  subst e
  rcases h.2.2 with h0 | ⟨g,M,e,_⟩
  ·have:=h.2.1;omega
  ·cases e)
 clear h hv hold hsrc hl hm hi0 hz0 hroom hzc hb0 hb1 hnl hG hG1
 clear hW' hN'
 clear hsz
 go_enter Tryz.func72,Tryz.ntmps72
 cases ao with
 | none=>
  have h0:n=0:=uH HN0 rfl
  subst h0
  go_wp2_with (at_builtin;refine Lib.wpList_append_run _ rfl _ _ _ _ rfl _ _ rfl rfl _ _ (uH HRUN _) ?_)
  go_ret
  exact uH HA
 | some a=>
  obtain ⟨ab,aof,asp⟩:=a
  go_wp2_with (at_builtin;refine Lib.wpList_append_run _ rfl _ _ _ _ rfl _ _ rfl rfl _ _ (uH HRUN _) ?_)
  all_goals (go_ret;first | exact uH HA | exact uH HA2)
theorem iW {P:Program} (w:World) (dT sT ty elem:TypeId) (b o dLen dCap:Nat) (a:Addr) (sLen sCap:Nat) (cs:List Value) (sz:Nat)
  (hu:P.underlying dT=some (.slice elem)) (hs:(P.info? elem).map (·.size)=some sz) (hn:cs.length=Nat.min sLen dLen*sz)
  (hsrc:∀j v,cs[j]? = some v→w.cell? (a.add j)=some v) (hc:∀j,j<cs.length→(w.cell? ⟨b,o+j,none⟩).isSome=true) (hf:∀j,j<cs.length→w.frozen? ⟨b,o+j,none⟩=false) (h1:∀v ∈ cs,v.oneCell'=true) :
  (Builtin.copy_ #[dT,sT] ty #[.slice (some ⟨b,o,none⟩) dLen dCap,.slice (some a) sLen sCap]).run P w=.ok (goInt (Nat.min sLen dLen)) (w.setCells b o cs):=by
 have hl:=run_loadCells_list (P:=P) w a cs hsrc
 have hst:=run_storeCells_cells (P:=P) b o cs 0 w (by simpa using hc) (by simpa using hf) h1
 obtain ⟨m,hm⟩:∃m,Nat.min sLen dLen=m:=⟨_,rfl⟩
 rw [hm] at hn ⊢
 cases hq:P.info? elem with
 | none=>simp [hq] at hs
 | some i=>
  have hi:i.size=sz:=by simpa [hq] using hs
  rw [hn] at hl
  simp [Builtin.copy_,run_underlying hu,Builtin.lenOf,Builtin.firstCells,sizeOf,typeInfo,hq,hi,hm,hl,hst]
theorem aCB {P:Program} {a:Act} {o:Oper} {w w':World} {s x:Operand} {t t':TypeId} {v vs vx:Value} (ho:o.op=.call { callee:=.builtin .copy,args:=#[s,x],argTypes:=#[t,t'] }) (hs:a.eval s=vs) (hx:a.eval x=vx) (hrun:(Builtin.copy_ #[t,t'] o.type #[vs,vx]).run P w=.ok v w'):(execOp a.eval o).run P w=.ok (.value v) w':=by
 simp [execOp,ho,resolve,invoke,builtin,hs,hx,hrun,Result.andThen]
theorem aED:(Tryz.prog.info? 38).map (·.size)=some 5:=by kernel_rfl
theorem aJj:∀w,(Go.sizeOf 38).run Tryz.prog w=.ok 5 w:=fun w=>by kernel_rfl
theorem fZ (l:List Con) (i:Nat):aI l=aI (l.take i)++aI (l.drop i):=by rw [←cZ,List.take_append_drop]
theorem dD (l:List Con) {i:Nat} (h:i≤l.length):(aI (l.take i)).length=i*5:=by rw [bU,List.length_take,Nat.min_eq_left h]
theorem eU (l:List Con) (i:Nat):(aI (l.drop i)).length=(l.length - i)*5:=by rw [bU,List.length_drop]
theorem aGd {w:World} {g M i:Nat} {l:List Con} (h:Lay w 38 g (M*5) (aI l)) (hi:i<l.length) (hM:l.length+1≤M):Lay (w.setCells g ((i+1)*5) (aI (l.drop i))) 38 g (M*5) (aI (l.take (i+1)++l.drop i)):=by
 have ht:(aI (l.take (i+1))).length=(i+1)*5:=dD l (by omega)
 have hd:=eU l i
 have hm:=Nat.mul_le_mul_right 5 hM
 refine h.cells _ _ (by rw [hd];omega) _ (by rw [cZ,List.length_append,ht,hd];omega) (fun j u hj=>?_)
 rw [cZ] at hj
 rw [hd]
 refine ⟨fun e=>?_,fun e=>?_⟩
 ·rw [List.getElem?_append_right (by omega),ht] at hj
  exact hj
 ·by_cases e2:j<(i+1)*5
  ·rw [List.getElem?_append_left (by omega)] at hj
   refine h.cell ?_
   rw [fZ l (i+1),List.getElem?_append_left (by omega)]
   exact hj
  ·have:=(List.getElem?_eq_some_iff.1 hj).1
   rw [List.length_append,ht,hd] at this
   omega
theorem aJI {w:World} {g M i:Nat} {l:List Con} {q:Con} (h:Lay w 38 g (M*5) (aI (l.take (i+1)++l.drop i))) (hi:i<l.length) (hM:l.length+1≤M):Lay (w.setCells g (i*5) (fP q)) 38 g (M*5) (aI (l.take i++q::l.drop i)):=by
 have ht1:(aI (l.take (i+1))).length=(i+1)*5:=dD l (by omega)
 have ht:(aI (l.take i)).length=i*5:=dD l (by omega)
 have hd:=eU l i
 have hm:=Nat.mul_le_mul_right 5 hM
 have hq:(fP q).length=5:=rfl
 refine h.cells _ _ (by rw [hq];omega) _ (by rw [nK,List.length_append,List.length_append,ht,hd,hq];omega) (fun j u hj=>?_)
 rw [nK] at hj
 rw [hq]
 refine ⟨fun e=>?_,fun e=>?_⟩
 ·rw [List.getElem?_append_right (by omega),ht,List.getElem?_append_left (by omega)] at hj
  exact hj
 ·refine h.cell ?_
  rw [cZ]
  by_cases e2:j<i*5
  ·rw [List.getElem?_append_left (by omega)] at hj ⊢
   have e3:aI (l.take (i+1))=aI (l.take i)++fP l[i]:=by rw [List.take_succ_eq_append_getElem hi,cZ];simp [aI]
   rw [e3,List.getElem?_append_left (by omega)]
   exact hj
  ·rw [List.getElem?_append_right (by omega),ht,List.getElem?_append_right (by omega),hq] at hj
   rw [List.getElem?_append_right (by omega),ht1]
   rw [show j - (i+1)*5=j - i*5 - 5 by omega]
   exact hj
theorem aA8 {B:Nat} (g n cap gv m i:Nat) (hm:m=1) (l:List Con) (q:Con) (w:World) (h:CRm B w (some ⟨g,0,none⟩) n cap l) (hv:Blk w gv (fP q).toArray 38) (hne:g≠gv) (hi:i<n) (hroom:n+1≤cap) (hn:n≤1048576) :
  Calls Tryz.prog 72 #[.slice (some ⟨g,0,none⟩) n cap,.int .i64 (i:Int),.slice (some ⟨gv,0,none⟩) m m] w (kK B (some ⟨g,0,none⟩) n cap (l.take i++q::l.drop i) w):=by
 obtain ⟨M,hB,hlay,hM,hl,hnc⟩:=h.cells (by omega)
 have hil:i<l.length:=by omega
 have hq5:(fP q).length=5:=rfl
 have hd:=eU l i
 have hm5:=Nat.mul_le_mul_right 5 (show n+1≤M by omega)
 have hov:∀lb cb,(callFunc 111 #[.slice (some ⟨gv,0,none⟩) m m,.slice (some ⟨g,(i+m)*5,none⟩) lb cb]).run Tryz.prog w=.ok (.value (.bool false)) w:=fun lb cb=>by
  obtain ⟨arr,ha,hs⟩:=hlay.cel
  rw [run_callFunc_extern Tryz.func111 (by kernel_rfl) (by kernel_rfl) (by kernel_rfl) (e:=Extern.SlicesOverlaps.overlaps #[32,32] #[4]) (by kernel_rfl),
   Lib.run_overlaps_apart w 32 4 38 Tryz.underlying32 5 aJj ⟨gv,0,none⟩ ⟨g,(i+m)*5,none⟩ m m lb cb (fun e=>hne e.symm) 38 38 5 arr.size (by simp [World.shape?,show w.heap[gv]? = _ from hv,fP]) (by simp [World.shape?,ha]) (by omega) (hv.f 0) (hv.f 5)]
  rfl
 obtain ⟨W1,hW1⟩:∃W1,W1=w.drew.setCells g ((i+m)*5) (aI (l.drop i)):=⟨_,rfl⟩
 have hlay1:Lay W1 38 g (M*5) (aI (l.take (i+1)++l.drop i)):=by rw [hW1,hm];exact aGd hlay.drew hil (by omega)
 have hcp1:∀ty dc sc,(Builtin.copy_ #[32,32] ty #[.slice (some ⟨g,(i+m)*5,none⟩) (n+m - (i+m)) dc,.slice (some ⟨g,i*5,none⟩) (n+m - i) sc]).run Tryz.prog w.drew=.ok (goInt (Nat.min (n+m - i) (n+m - (i+m)))) W1:=fun ty dc sc=>by
  rw [hW1]
  exact iW w.drew _ _ ty 38 g ((i+m)*5) (n+m - (i+m)) dc ⟨g,i*5,none⟩ (n+m - i) sc (aI (l.drop i)) 5 Tryz.underlying32 aED (by rw [hd,show Nat.min (n+m - i) (n+m - (i+m))=l.length - i by simp only [Nat.min_def];split<;>omega])
   (fun j v hj=>by
    rw [Lib.add_plain]
    refine hlay.drew.cell ?_
    rw [fZ l i,List.getElem?_append_right (by rw [dD l (by omega)];omega),dD l (by omega),Nat.add_sub_cancel_left]
    exact hj)
   (fun j hj=>hlay.drew.isThere (by rw [hd] at hj;omega)) (fun j hj=>hlay.drew.frozen _) (fun v hv=>dG _ v hv)
 have hcp2:∀ty dc,(Builtin.copy_ #[32,32] ty #[.slice (some ⟨g,i*5,none⟩) (n+m - i) dc,.slice (some ⟨gv,0,none⟩) m m]).run Tryz.prog W1=.ok (goInt (Nat.min m (n+m - i))) (W1.setCells g (i*5) (fP q)):=fun ty dc=>
  iW W1 _ _ ty 38 g (i*5) (n+m - i) dc ⟨gv,0,none⟩ m m (fP q) 5 Tryz.underlying32 aED (by rw [hq5,show Nat.min m (n+m - i)=1 by simp only [Nat.min_def];split<;>omega])
   (fun j v hj=>by
    rw [Lib.add_plain,hW1,World.cell?_setCells_out g _ _ _ _ (fun e _=>absurd e.symm hne)]
    have h1:=hv.at j
    rw [List.getElem?_toArray,hj] at h1
    rw [Nat.zero_add]
    exact h1)
   (fun j hj=>hlay1.isThere (by rw [hq5] at hj;omega)) (fun j hj=>hlay1.frozen _) (fun v hv=>dG [q] v (by simpa [aI] using hv))
 have HA:=aA (show kK B (some ⟨g,0,none⟩) n cap (l.take i++q::l.drop i) w (.returned (.slice (some ⟨g,0,none⟩) (n+m) cap)) (W1.setCells g (i*5) (fP q)) from by
  rw [hm]
  refine ⟨some ⟨g,0,none⟩,cap,rfl,Lay.Crm (M:=M) (aJI hlay1 hil (by omega)) hB hM (by simp;omega) (by omega),?_,.inl ⟨by omega,rfl⟩⟩
  rw [hW1]
  exact dW ⟨by omega,_,hlay.cel,hB,0,rfl⟩ _ _ _ _ (dW ⟨by omega,_,hlay.cel,hB,0,rfl⟩ _ _ _ _ (.of_below (Below.refl _ w).drew)))
 have HC1:=aA hcp1
 have HC2:=aA hcp2
 have hz1:¬((m:Int)=0):=by omega
 have hz2:¬((i:Int)=(n:Int)):=by omega
 have hw1:IntKind.i64.wrap ((i:Int)+(m:Int))=(i:Int)+(m:Int):=by rw [IntKind.wrap_i64];omega
 have hw2:IntKind.i64.wrap ((n:Int)+(m:Int))=(n:Int)+(m:Int):=by rw [IntKind.wrap_i64];omega
 have hb1:(0:Int)≤(i:Int)+(m:Int):=by omega
 have hc1:¬((cap:Int)<(n:Int)+(m:Int)):=by omega
 have hc2:(n:Int)+(m:Int)≤(cap:Int):=by omega
 have hc3:(0:Int)≤(n:Int)+(m:Int):=by omega
 have hin:i≤n:=by omega
 have hic:i≤cap:=by omega
 have htn:((i:Int)+(m:Int)).toNat=i+m:=by omega
 have htm:((n:Int)+(m:Int)).toNat=n+m:=by omega
 have hb2:¬(cap=i+m):=by omega
 have hb3:(i:Int)+(m:Int)≤(n:Int)+(m:Int):=by omega
 have hb5:(i:Int)≤(n:Int)+(m:Int):=by omega
 have hb4:¬(cap=i):=by omega
 have hncap:n+m≤cap:=by omega
 clear hm h hv hlay hlay1 hcp1 hcp2 hq5 hd hm5 hl hM hB hil hroom hnc hW1 hi
 go_enter Tryz.func72,Tryz.ntmps72
 go_wp2_with (simp only [hov])
 go_upto_region 15 with fail
 refine wp_region_held_drew (S:=fun _=>True) (by kernel_rfl) trivial (fun _=>?_)
 refine aB 0 69 _ rfl rfl trivial ?_
 try simp only [Act.put,sA,sB,sC]
 refine aB 1 70 _ rfl rfl trivial ?_
 try simp only [Act.put,sA,sB,sC]
 refine aB 2 71 _ rfl rfl trivial ?_
 try simp only [Act.put,sA,sB,sC]
 refine aB 3 72 (.int .i64 ((i:Int)+(m:Int))) rfl rfl trivial ?_
 try simp only [Act.put,sA,sB,sC]
 refine aB 4 73 (.slice (some ⟨g,(i+m)*5,none⟩) (n+m - (i+m)) (cap - (i+m))) rfl rfl trivial ?_
 try simp only [Act.put,sA,sB,sC]
 refine aB 5 74 _ rfl rfl trivial ?_
 try simp only [Act.put,sA,sB,sC]
 refine aB 6 75 _ rfl rfl trivial ?_
 try simp only [Act.put,sA,sB,sC]
 refine aB 7 76 (.slice (some ⟨g,i*5,none⟩) (n+m - i) (cap - i)) rfl rfl trivial ?_
 try simp only [Act.put,sA,sB,sC]
 refine wpAnyH_ready (rs:=[8]) (by kernel_rfl) (by simp) (AllReadyH.cons rfl (fun K hK=>aGI 77 (by rfl) rfl (aCB rfl rfl rfl (uH HC1 _ _ _)) ?_) AllReadyH.nil)
 refine hK.out _ _ trivial (fun _=>?_)
 clear hK K
 try simp only [Act.put,sA,sB,sC]
 refine wpAnyH_done (by kernel_rfl) ?_ _
 go_wp2_with fail
 rw [uH HC2]
 go_wp2
 go_ret
 exact uH HA
theorem aDz {w:World} {t:TypeId} {g N:Nat} {cs vs:List Value} (h:Lay w t g N cs) (o:Nat) (ho:o=cs.length) (hN:cs.length+vs.length≤N):Lay (w.setCells g o vs) t g N (cs++vs):=by
 subst ho
 refine h.cells _ _ hN _ (by rw [List.length_append];exact hN) (fun j u hj=>⟨fun e=>?_,fun e=>?_⟩)
 ·rw [List.getElem?_append_right e.1] at hj
  exact hj
 ·by_cases e2:j<cs.length
  ·rw [List.getElem?_append_left e2] at hj
   exact h.cell hj
  ·have:=(List.getElem?_eq_some_iff.1 hj).1
   rw [List.length_append] at this
   omega
theorem aDN {B:Nat} (g n cap gv m i:Nat) (hm:m=1) (l:List Con) (q:Con) (w:World) (h:CRm B w (some ⟨g,0,none⟩) n cap l) (hv:Blk w gv (fP q).toArray 38) (hi:i<n) (hroom:¬n+1≤cap) (hn:n≤1048576) (hBw:B≤w.heap.size) :
  Calls Tryz.prog 72 #[.slice (some ⟨g,0,none⟩) n cap,.int .i64 (i:Int),.slice (some ⟨gv,0,none⟩) m m] w (kK B (some ⟨g,0,none⟩) n cap (l.take i++q::l.drop i) w):=by
 obtain ⟨i0,z,hi0,hsz,hz0,hzc,hb0,hb1⟩:=aJR
 obtain ⟨M,hB,hlay,hM,hl,hnc⟩:=h.cells (by have:=h.2.1;omega)
 have hgl:g<w.heap.size:=hlay.lt
 have hgv:gv<w.heap.size:=hv.lt
 have hil:i<l.length:=by omega
 have hq5:(fP q).length=5:=rfl
 have hd:=eU l i
 have ht:=dD l (show i≤l.length by omega)
 obtain ⟨K,hK⟩:∃K,K=n+m - i:=⟨_,rfl⟩
 have hG1:=grownCap_ge w (i+K) cap 38
 obtain ⟨G,hG⟩:∃G,grownCap w (i+K) cap 38=G:=⟨_,rfl⟩
 have hold:(Builtin.firstCells i0.size i (.slice (some ⟨g,0,none⟩) i cap)).run Tryz.prog w.drew=.ok (aI (l.take i)).toArray w.drew:=
  run_firstCells_some w.drew _ i ⟨g,0,none⟩ i cap (aI (l.take i)) (by rw [ht,hsz]) (fun j v hj=>by
   rw [Lib.add_plain,Nat.zero_add]
   refine hlay.drew.cell ?_
   rw [fZ l i,List.getElem?_append_left (List.getElem?_eq_some_iff.1 hj).1]
   exact hj)
 obtain ⟨W0,hW0⟩:∃W,W=w.drew.alloc (.cells ((aI (l.take i)).toArray++Builtin.zeroCells z.cells K++Builtin.zeroCells z.cells (G - (i+K))) 38):=⟨_,rfl⟩
 have hrun:∀ty,(Builtin.append_ #[32,3] ty #[.slice (some ⟨g,0,none⟩) i cap,.int .i64 (K:Int)]).run Tryz.prog w=.ok (.slice (some ⟨w.heap.size,0,none⟩) (i+K) G) W0:=fun ty=>by
  rw [hW0,←hG]
  exact Lib.run_append_grow_zeros w 32 3 ty 38 i0 z .i64 .i64 Tryz.underlying32 Tryz.underlying3 hi0 hz0 (some ⟨g,0,none⟩) i cap (aI (l.take i)) hold K (by omega) (by omega) (by omega) (by omega) (by
   have:=Nat.mul_le_mul (show K≤2000000 by omega) hb1
   omega) (growslice_fits_wide (by omega) (by
   have h1:(i+K+(i+K) / 4+192)≤2000000:=by omega
   have:=Nat.mul_le_mul h1 hb1
   omega))
 rw [hG] at hG1
 have hlay0:Lay W0 38 w.heap.size (G*5) (aI (l.take i)):=by
  rw [hW0]
  refine ⟨(Builtin.zeroCells z.cells K).toList++(Builtin.zeroCells z.cells (G - (i+K))).toList,?_,?_⟩
  ·have e:(aI (l.take i)++((Builtin.zeroCells z.cells K).toList++(Builtin.zeroCells z.cells (G - (i+K))).toList)).toArray=(aI (l.take i)).toArray++Builtin.zeroCells z.cells K++Builtin.zeroCells z.cells (G - (i+K)):=by simp
   rw [e]
   show (w.heap.push _)[w.heap.size]? = _
   rw [Array.getElem?_push,if_pos rfl]
  ·have h1:=uI z K 5 hzc
   have h2:=uI z (G - (i+K)) 5 hzc
   rw [List.length_append,List.length_append,ht,Array.length_toList,Array.length_toList,h1,h2,←Nat.add_mul,←Nat.add_mul]
   congr 1
   omega
 have hb0':Below w.heap.size w W0:=by rw [hW0];exact yA (Below.refl _ w).drew _
 obtain ⟨W1,hW1⟩:∃W1,W1=W0.setCells w.heap.size (i*5) (fP q):=⟨_,rfl⟩
 have hGm:=Nat.mul_le_mul_right 5 hG1
 have hlay1:Lay W1 38 w.heap.size (G*5) (aI (l.take i)++fP q):=by rw [hW1];exact aDz hlay0 _ ht.symm (by rw [ht,hq5];omega)
 obtain ⟨W2,hW2⟩:∃W2,W2=W1.drew.setCells w.heap.size ((i+m)*5) (aI (l.drop i)):=⟨_,rfl⟩
 have hlay2:Lay W2 38 w.heap.size (G*5) (aI (l.take i++q::l.drop i)):=by
  rw [hW2,nK,←List.append_assoc]
  exact aDz hlay1.drew _ (by rw [List.length_append,ht,hq5,hm];omega) (by rw [List.length_append,ht,hq5,hd];omega)
 have hm1:Mks (fun k=>k=w.heap.size) W0 W1:=by rw [hW1];exact dW (S:=fun k=>k=w.heap.size) rfl _ _ _ _ (Mks.refl _ _)
 have hm2:Mks (fun k=>k=w.heap.size) W0 W2:=by rw [hW2];exact dW (S:=fun k=>k=w.heap.size) rfl _ _ _ _ (hm1.trans (.of_below (Below.refl _ W1).drew))
 have hcp1:∀ty dc,(Builtin.copy_ #[32,32] ty #[.slice (some ⟨w.heap.size,i*5,none⟩) K dc,.slice (some ⟨gv,0,none⟩) m m]).run Tryz.prog W0=.ok (goInt (Nat.min m K)) W1:=fun ty dc=>by
  rw [hW1]
  exact iW W0 _ _ ty 38 w.heap.size (i*5) K dc ⟨gv,0,none⟩ m m (fP q) 5 Tryz.underlying32 aED (by rw [hq5,show Nat.min m K=1 by simp only [Nat.min_def];split<;>omega])
   (fun j v hj=>by
    rw [Lib.add_plain,Nat.zero_add]
    have h1:=(hv.below hb0').at j
    rw [List.getElem?_toArray,hj] at h1
    exact h1)
   (fun j hj=>hlay0.isThere (by rw [hq5] at hj;omega)) (fun j hj=>hlay0.frozen _) (fun v hv=>dG [q] v (by simpa [aI] using hv))
 have hcp2:∀ty dc sc,(Builtin.copy_ #[32,32] ty #[.slice (some ⟨w.heap.size,(i+m)*5,none⟩) (i+K - (i+m)) dc,.slice (some ⟨g,i*5,none⟩) (n - i) sc]).run Tryz.prog W1.drew=.ok (goInt (Nat.min (n - i) (i+K - (i+m)))) W2:=fun ty dc sc=>by
  rw [hW2]
  exact iW W1.drew _ _ ty 38 w.heap.size ((i+m)*5) (i+K - (i+m)) dc ⟨g,i*5,none⟩ (n - i) sc (aI (l.drop i)) 5 Tryz.underlying32 aED (by rw [hd,show Nat.min (n - i) (i+K - (i+m))=l.length - i by simp only [Nat.min_def];split<;>omega])
   (fun j v hj=>by
    rw [Lib.add_plain]
    have hg1:Lay W1.drew 38 g (M*5) (aI l):=by
     obtain ⟨R,e1,e2⟩:=hlay
     exact ⟨R,(hm1.block g (Nat.lt_of_lt_of_le hgl hb0'.size) (by omega)).trans ((hb0'.block g hgl).trans e1),e2⟩
    refine hg1.cell ?_
    rw [fZ l i,List.getElem?_append_right (by rw [ht];omega),ht,Nat.add_sub_cancel_left]
    exact hj)
   (fun j hj=>hlay1.drew.isThere (by rw [hd] at hj;omega)) (fun j hj=>hlay1.drew.frozen _) (fun v hv=>dG _ v hv)
 have HA:=aA (show kK B (some ⟨g,0,none⟩) n cap (l.take i++q::l.drop i) w (.returned (.slice (some ⟨w.heap.size,0,none⟩) (i+K) G)) W2 from by
  rw [show i+K=n+1 by omega]
  refine ⟨some ⟨w.heap.size,0,none⟩,G,rfl,Lay.Crm (M:=G) hlay2 hBw (Nat.le_refl _) (by simp;omega) (by omega),?_,.inr ⟨_,rfl,Nat.le_refl _⟩⟩
  exact .of_below (hb0'.trans (hm2.below (fun k e=>by subst e;exact Nat.le_refl _) hb0'.size)))
 have HC0:=aA hrun
 have HC1:=aA hcp1
 have HC2:=aA hcp2
 have hz1:¬((m:Int)=0):=by omega
 have hz2:¬((i:Int)=(n:Int)):=by omega
 have hw1:IntKind.i64.wrap ((i:Int)+(m:Int))=(i:Int)+(m:Int):=by rw [IntKind.wrap_i64];omega
 have hw2:IntKind.i64.wrap ((n:Int)+(m:Int))=(n:Int)+(m:Int):=by rw [IntKind.wrap_i64];omega
 have hw3:IntKind.i64.wrap ((n:Int)+(m:Int) - (i:Int))=(K:Int):=by rw [IntKind.wrap_i64]<;>omega
 have hb1':(0:Int)≤(i:Int)+(m:Int):=by omega
 have hc1:(cap:Int)<(n:Int)+(m:Int):=by omega
 have hin:i≤n:=by omega
 have hic:i≤cap:=by omega
 have htn:((i:Int)+(m:Int)).toNat=i+m:=by omega
 have hb2:¬(G=i+m):=by omega
 have hb3:(i:Int)+(m:Int)≤(i:Int)+(K:Int):=by omega
 have hb5:(i:Int)≤(i:Int)+(K:Int):=by omega
 have hb4:¬(cap=i):=by omega
 have hb6:¬(G=i):=by omega
 obtain ⟨gg,hgg⟩:∃k,w.heap.size=k:=⟨_,rfl⟩
 rw [hgg] at HA HC0 HC1 HC2
 clear hm h hv hlay hlay0 hlay1 hlay2 hrun hcp1 hcp2 hq5 hd ht hGm hl hM hB hil hroom hnc hW0 hW1 hW2 hi hm1 hm2 hb0' hold hG hG1 hK hgl hgv hi0 hz0 hzc hb0 hb1 hsz hBw hgg
 go_enter Tryz.func72,Tryz.ntmps72
 go_wp2_with (at_builtin;refine Lib.wpList_append_run _ rfl _ _ _ _ rfl _ _ rfl rfl _ _ (uH HC0 _) ?_)
 go_wp2_with fail
 rw [uH HC1]
 go_upto_region 11 with fail
 refine wp_region_held_drew (S:=fun _=>True) (by kernel_rfl) trivial (fun _=>?_)
 refine aB 0 46 _ rfl rfl trivial ?_
 try simp only [Act.put,sA,sB,sC]
 refine aB 1 47 _ rfl rfl trivial ?_
 try simp only [Act.put,sA,sB,sC]
 refine aB 2 48 _ rfl rfl trivial ?_
 try simp only [Act.put,sA,sB,sC]
 refine aB 3 49 (.int .i64 ((i:Int)+(m:Int))) rfl rfl trivial ?_
 try simp only [Act.put,sA,sB,sC]
 refine aB 4 50 (.slice (some ⟨gg,(i+m)*5,none⟩) (i+K - (i+m)) (G - (i+m))) rfl rfl trivial ?_
 try simp only [Act.put,sA,sB,sC]
 refine aB 5 51 _ rfl rfl trivial ?_
 try simp only [Act.put,sA,sB,sC]
 refine aB 6 52 _ rfl rfl trivial ?_
 try simp only [Act.put,sA,sB,sC]
 refine aB 7 53 (.slice (some ⟨g,i*5,none⟩) (n - i) (cap - i)) rfl rfl trivial ?_
 try simp only [Act.put,sA,sB,sC]
 refine wpAnyH_ready (rs:=[8]) (by kernel_rfl) (by simp) (AllReadyH.cons rfl (fun K hK=>aGI 54 (by rfl) rfl (aCB rfl rfl rfl (uH HC2 _ _ _)) ?_) AllReadyH.nil)
 refine hK.out _ _ trivial (fun _=>?_)
 clear hK K
 try simp only [Act.put,sA,sB,sC]
 refine wpAnyH_done (by kernel_rfl) ?_ _
 go_wp2
 go_ret
 exact uH HA
theorem aDP {B:Nat} (ao:Option Addr) (n cap gv i:Nat) (l:List Con) (q:Con) (w:World) (h:CRm B w ao n cap l) (hv:Blk w gv (fP q).toArray 38) (hne:cap≠0→∀o,ao≠some ⟨gv,o,none⟩) (hi:i≤n) (hn:n≤1048576) (hBw:B≤w.heap.size) :
  Calls Tryz.prog 72 #[.slice ao n cap,.int .i64 (i:Int),.slice (some ⟨gv,0,none⟩) 1 1] w (kK B ao n cap (l.take i++q::l.drop i) w):=by
 have hl:=h.1.1
 by_cases e:i=n
 ·subst e
  rw [List.take_of_length_le (by omega),List.drop_of_length_le (by omega)]
  by_cases hr:i+1≤cap
  ·rcases h.2.2 with h0 | ⟨g,M,rfl,_⟩
   ·omega
   ·exact aDO g i cap gv 1 rfl l q w h hv (fun e=>hne (by omega) 0 (by rw [e])) hr hn
  ·exact aBq ao i cap gv 1 rfl l q w h hv hr hn hBw
 ·have:=h.2.1
  rcases h.2.2 with h0 | ⟨g,M,rfl,_⟩
  ·omega
  ·by_cases hr:n+1≤cap
   ·exact aA8 g n cap gv 1 i rfl l q w h hv (fun e=>hne (by omega) 0 (by rw [e])) (by omega) hr hn
   ·exact aDN g n cap gv 1 i rfl l q w h hv (by omega) hr hn hBw
end
end Go.Proofs.YtdhibeclkdepiaaGreat
