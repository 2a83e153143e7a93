/-
  Texts in one: UByI, PathI, DelA, RoomS.
-/
import Derived.Test.YtdhibeclkdepiaaGreatSackP
import Derived.Test.YtdhibeclkdepiaaGreatSackO
import Derived.Maps.RangeWalk
set_option maxRecDepth 100000
set_option maxHeartbeats 16000000
set_option linter.unusedVariables false
set_option linter.unusedSimpArgs false
/-
 Whether a queue is another one,or below it: what the program's reaches answers;a aBn over the dump.
-/
namespace Go.Proofs.YtdhibeclkdepiaaGreat
open Go.RowKit Go.Shelf
set_option linter.unusedVariables false
attribute [local go_sem] Oper.semAt_some
def jK (l:List Q) (nm wt:List UInt8):Bool:=(ups l nm).any (fun q=>decide (q.name=wt))
theorem aE2 {β:Type} (g:Nat) (arr:Array Value) (t:TypeId):Own (fun (_:β) W=>Blk W g arr t):=fun s X Y row hs hg hr=>
 (hg.block g (show Blk X g arr t from hs).lt (fun e=>by
  obtain ⟨o,ho,hc⟩:=hr g e.symm
  rw [show X.heap[g]? = _ from hs] at ho
  cases ho
  cases hc)).trans hs
theorem aEt {β:Type} (p:β→Prop):Own (fun (s:β) (_:World)=>p s):=fun s X Y row hs _ _=>hs
theorem aBK {β:Type} {I I':β→World→Prop} (h:Own I) (h':Own I'):Own (fun s W=>I s W∧I' s W):=fun s W W' row hs hg hr=>⟨h s W W' row hs.1 hg hr,h' s W W' row hs.2 hg hr⟩
set_option maxRecDepth 100000 in
set_option maxHeartbeats 4000000 in
theorem aDg (ao:Option Addr) (len cap:Nat) (l:List Q) (nm wt:List UInt8) (w:World) (h:iG w ao len l) (hl:len≤1048576) (hc:len≤cap) :
  Calls Tryz.prog 197 #[.slice ao len cap,.string (bs nm),.string (bs wt)] w fun e w'=>e=.returned (.bool (jK l nm wt))∧Below w.heap.size w w':=by
 have HR:=aA h
 have hB4:=yA (yA (yA (yA (yH _ w) (.cells #[.string (bs wt)] 9)) (.cells #[.bool false] 4)) (.cells #[.slice ao len cap] 29)) (.cells #[.string (bs nm)] 9)
 have hK5:=(((yD w #[.string (bs wt)] 9).al (.cells #[.bool false] 4)).al (.cells #[.slice ao len cap] 29)).al (.cells #[.string (bs nm)] 9)
 have hK6:=((yD (w.alloc (.cells #[.string (bs wt)] 9)) #[.bool false] 4).al (.cells #[.slice ao len cap] 29)).al (.cells #[.string (bs nm)] 9)
 have hBq:=((yD ((w.alloc (.cells #[.string (bs wt)] 9)).alloc (.cells #[.bool false] 4)) #[.slice ao len cap] 29).al (.cells #[.string (bs nm)] 9)).at 0
 have hBn:=(yD (((w.alloc (.cells #[.string (bs wt)] 9)).alloc (.cells #[.bool false] 4)).alloc (.cells #[.slice ao len cap] 29)) #[.string (bs nm)] 9).at 0
 have hsz:((((w.alloc (.cells #[.string (bs wt)] 9)).alloc (.cells #[.bool false] 4)).alloc (.cells #[.slice ao len cap] 29)).alloc (.cells #[.string (bs nm)] 9)).heap.size=w.heap.size+4:=by simp only [yE]
 rw [yE] at hK6
 rw [yE,yE] at hBq
 rw [yE,yE,yE] at hBn
 obtain ⟨o,ho⟩:∃o,jK l nm wt=o:=⟨_,rfl⟩
 have HO:=aA ho
 rw [ho]
 clear h ho
 have hmx:Tryz.prog.follows .mixedOrders=true:=by kernel_rfl
 refine (callsIn_wide (n:=3)).1 ?_
 refine callsIn_of_wp_marks Tryz.func197 rfl trivial ?_ rfl
 simp only [Tryz.ntmps197,List.size_toArray,List.length_cons,List.length_nil,Nat.reduceAdd,Nat.reduceSub,Array.replicate_succ,Array.replicate_zero,List.push_toArray,List.append_toArray,List.nil_append,List.cons_append]
 gi_wp2_with fail
 refine ⟨trivial,?_⟩
 first | refine ⟨(by intro e;cases e),?_⟩ | skip
 refine (callsIn_wide.2 (yT ao len cap nm _)).mono ?_
 rintro e w2 ⟨rfl,rfl⟩
 gi_wp2
 obtain ⟨W0,hW0⟩:∃W0,(((w.alloc (.cells #[.string (bs wt)] 9)).alloc (.cells #[.bool false] 4)).alloc (.cells #[.slice ao len cap] 29)).alloc (.cells #[.string (bs nm)] 9)=W0:=⟨_,rfl⟩
 rw [hW0] at hB4 hK5 hK6 hBq hBn hsz ⊢
 have HC:=aA (pR (3 - 1) (w.heap.size+1+1) (w.heap.size+1+1+1) ao len cap l nm w W0 (uH HR) hB4 hl hc hBq hBn)
 clear hW0 hBq hBn
 refine wpIn_rangeFunc_ownH rfl (by omega) (gf:=206) (lb:=#[.pointer (some ⟨w.heap.size+1+1,0,none⟩),.pointer (some ⟨w.heap.size+1+1+1,0,none⟩)]) rfl trivial (enters_of Tryz.func206 (by kernel_rfl) rfl)
  (uH HC) aKY (aKZ (by omega)) (yH _ _) (fun _=>rfl)
  (fun pre W=>((Blk W w.heap.size #[.string (bs wt)] 9∧Blk W (w.heap.size+1) #[.bool false] 4)∧(∀q ∈ pre,q.1.name≠wt))∧Below w.heap.size w W)
  (fun c pre W=>(Blk W (w.heap.size+1) #[.bool true] 4∧(c=.ret∧∃q ∈ pre,q.1.name=wt))∧Below w.heap.size w W)
  (OwnFrom.and (Own.from (aBK (aBK (aE2 _ _ _) (aE2 _ _ _)) (aEt (fun pre:List { q:Q // q ∈ l }=>∀q ∈ pre,q.1.name≠wt))) _) (ownFrom_below (yJ _) (by omega)))
  (fun c=>OwnFrom.and (Own.from (aBK (aE2 _ _ _) (aEt (fun pre:List { q:Q // q ∈ l }=>c=.ret∧∃q ∈ pre,q.1.name=wt))) _) (ownFrom_below (yJ _) (by omega)))
  ⟨⟨⟨hK5,hK6⟩,by simp⟩,hB4⟩
  (fun x a' W=>∃Bx,w.heap.size+1<Bx∧mF W Bx x.1∧a' = { tmps:=#[.slice ao len cap,.string (bs nm),.string (bs wt),undef,undef,.pointer (some ⟨w.heap.size,0,none⟩),.pointer (some ⟨w.heap.size+1,0,none⟩),.pointer (some ⟨Bx,0,none⟩),.slice ao len cap,.string (bs nm),.func (.func 206) #[] #[.pointer (some ⟨w.heap.size+1+1,0,none⟩),.pointer (some ⟨w.heap.size+1+1+1,0,none⟩)],qv x.1,undef,undef,undef,undef],defers:=[] })
  (fun x a' _ X Y row hs hg hr=>by
   obtain ⟨Bx,h1,h2,h3⟩:=hs
   refine ⟨Bx,h1,(hg.block Bx h2.lt (fun e=>?_)).trans h2,h3⟩
   obtain ⟨_,o,ho,hc⟩:=hr Bx e.symm
   rw [show X.heap[Bx]? = _ from h2] at ho
   cases ho
   cases hc)
  ?assign ?body ?done ?stop
 case assign=>
  rintro lp pre x W K ⟨⟨⟨k5,k6⟩,hne⟩,hB⟩ hK
  have hlt:=k6.lt
  gi_wp2
  exact hK _ _ ((KeepsOthers.alloc _ _).from _) (aFD hB.size (yA (yH _ W) _)) ⟨⟨⟨k5.al _,k6.al _⟩,hne⟩,yA hB _⟩ ⟨W.heap.size,hlt,mF.new W x.1,rfl⟩
 case body=>
  rintro lp pre ⟨q,hq⟩ a' W hlp _ ⟨⟨⟨k5,k6⟩,hne⟩,hB⟩ ⟨Bx,hBx,hX,rfl⟩ hlt
  simp only at hX
  have hx0:=hX.c0
  have c5:=k5.at 0
  have c6:=k6.at 0
  have f6:=k6.f 0
  simp at c5 c6
  have hbe:=nS q.name wt
  have K5:=aA k5
  have K6:=aA k6
  have HNE:=aA hne
  have HB:=aA hB
  clear k5 k6 hne hB hX
  by_cases he:q.name=wt
  ·have HE:=aA he
   rw [decide_eq_true he] at hbe
   clear he
   gi_wp2
   refine ⟨(KeepsOthers.setCell _ _ _).from _,⟨?_,rfl,⟨q,hq⟩,by simp,uH HE⟩,yC (uH HB) _ _ _ (by omega)⟩
   have:=(uH K6).set 0 (.bool true)
   simpa using this
  ·have HE:=aA he
   rw [decide_eq_false he] at hbe
   clear he
   gi_wp2
   refine ⟨KeepsFrom.refl _ _,aFD (uH HB).size (yH _ _),⟨⟨uH K5,uH K6⟩,?_⟩,uH HB⟩
   intro z hz
   rcases List.mem_append.1 hz with hz | hz
   ·exact uH HNE z hz
   ·have:z=⟨q,hq⟩:=by simpa using hz
    rw [this]
    exact uH HE
 case done=>
  rintro D ys W hD hys ⟨⟨⟨k5,k6⟩,hne⟩,hB⟩ hK
  have c6:=k6.at 0
  have f6:=k6.f 0
  simp at c6
  have hres:o=false:=by
   rw [←uH HO,jK,←hys,List.any_eq_false]
   intro z hz
   obtain ⟨q,hq,rfl⟩:=List.mem_map.1 hz
   simpa using hne q hq
  subst hres
  have K6:=aA k6
  have HB:=aA hB
  have HK:=aA hK
  have hDW:D≠w.heap.size+1:=by omega
  clear k5 k6 hne hB hK
  gi_wp2
  have e2:=(KeepsOthers.setCell W ⟨w.heap.size+1,0,none⟩ (.bool false)).same D _ (uH HK) rfl
  refine ⟨by simp,.inl ⟨_,_,rfl,run_takeDeferred e2,?_⟩⟩
  have KF:Blk _ (w.heap.size+1) _ _:=(World.putObj_heap_other (o:=.deferred none) (w:=W.setCell ⟨w.heap.size+1,0,none⟩ (.bool false)) (Ne.symm hDW)).trans ((uH K6).set 0 (.bool false))
  have r0:=KF.at 0
  simp at r0
  exact ⟨.bool false,(by simp [results,Tryz.results197,go_sem,r0]),rfl,(yC (uH HB) _ _ _ (by omega)).trans (belowK_b (w:=w) (yJ _) _ D _ _ (by omega) e2 rfl rfl)⟩
 case stop=>
  rintro D c pre W hD hpre ⟨⟨k6,rfl,q,hq,he⟩,hB⟩ hK
  have hres:o=true:=by
   rw [←uH HO,jK,List.any_eq_true]
   exact ⟨q.1,hpre.subset (List.mem_map_of_mem hq),by simpa using he⟩
  subst hres
  have K6:=aA k6
  have HB:=aA hB
  have HK:=aA hK
  have hDW:D≠w.heap.size+1:=by omega
  clear k6 hB hK
  gi_wp2
  refine ⟨by simp,.inl ⟨_,_,rfl,run_takeDeferred (uH HK),?_⟩⟩
  have KF:Blk _ (w.heap.size+1) _ _:=(World.putObj_heap_other (o:=.deferred none) (w:=W) (Ne.symm hDW)).trans (uH K6)
  have r0:=KF.at 0
  simp at r0
  exact ⟨.bool true,(by simp [results,Tryz.results197,go_sem,r0]),rfl,(uH HB).trans (belowK_b (w:=w) (yJ _) _ D _ _ (by omega) (uH HK) rfl rfl)⟩
end Go.Proofs.YtdhibeclkdepiaaGreat
/-
 What those containers have together that a method's value counts,by the program: used;a aBn over the dump.
-/
namespace Go.Proofs.YtdhibeclkdepiaaGreat
open Go.RowKit
set_option linter.unusedVariables false
set_option maxRecDepth 100000 in
set_option maxHeartbeats 4000000 in
theorem aDY (bm:Nat) (p:Con→Bool) (x:Sls) (s:St) (w:World) (h:bC w x.ca x.cl s.cs) (hl:x.cl≤1048576)
  (hp:∀wx q,q ∈ s.cs→Below w.heap.size w wx→Calls Tryz.prog 125 #[.map (some bm),conv q] wx fun e w'=>e=.returned (.bool (p q))∧Below wx.heap.size wx w') :
  Calls Tryz.prog 187 #[sv x s,.func (.func 125) #[.map (some bm)] #[]] w fun e w'=>e=.returned (rv (gX (aJ p s.cs)).1 (gX (aJ p s.cs)).2.1)∧Below w.heap.size w w':=by
 obtain ⟨i0,hi,hz0,hz1,hz2⟩:=info_parts Tryz.infoR
 have eg:=enters_of Tryz.func125 (by kernel_rfl) rfl
 obtain ⟨qa,ql,qc,aa,al,ac,ma,ml,mc,ca,cl,cc⟩:=x
 obtain ⟨qs,clock,epoch,next,serial,apps,ms,cs⟩:=s
 simp only at h hl ⊢
 have HR:=aA h
 have HL:=aA h.1
 have HP:=aA hp
 obtain ⟨c,hc⟩:∃c:Array Value,#[.slice qa ql qc,.int .i64 clock,.int .i64 epoch,.int .i64 next,.int .i64 serial,.slice aa al ac,.slice ma ml mc,.slice ca cl cc]=c:=⟨_,rfl⟩
 have HC:=aA hc
 have HB0:=aA (cK w c)
 have V0:=aA (iF w c)
 have HW:=aA (rP w c)
 clear h hc hp
 obtain ⟨⟨sx,sy,so⟩,hs⟩:∃s,gX (aJ p cs)=s:=⟨_,rfl⟩
 have HS:=aA hs
 rw [hs]
 clear hs
 go_enter Tryz.func187,Tryz.ntmps187
 go_wp2
 go_loopw [5,13] (fun v i wr=>∃(k:Nat),k≤cl∧i=.int .i64 k∧Hid (yZ (sQ w c).heap.size wr v (aJ p (cs.take k)))∧Hid (Below (sQ w c).heap.size (sQ w c) wr)) (fun _ i _=>cl - (intOf i).toNat)
 case atStart=>
  obtain rfl:=uH HC
  exact ⟨0,Nat.zero_le _,rfl,aA (by simpa [aJ] using aBG _ _),aA (yH _ _)⟩
 case round=>
  obtain ⟨k,hk,rfl,HO,HB⟩:=hrel
  by_cases hlt:k<cl
  ·obtain ⟨b,off,rfl,hq⟩:=(((uH HR).below (uH HB0)).below (uH HB)).at hlt
   have hkl:k<cs.length:=by have:=uH HL;omega
   have hst:=nW (p:=p) hkl
   obtain ⟨c0,c1,c2,c3,c4⟩:=hq hkl
   obtain ⟨m,hs⟩:∃q,cs[k]=q:=⟨_,rfl⟩
   rw [hs] at c0 c1 c2 c3 c4 hst
   have hal:(aJ p (cs.take k)).length≤1048576:=by have:=vF (p:=p) (cs.take k);simp at this;omega
   obtain ⟨acc,hacc⟩:∃a,aJ p (cs.take k)=a:=⟨_,rfl⟩
   rw [hacc] at hst hal HO
   obtain ⟨id,ap,nd,me,cp⟩:=m
   simp only at c0 c1 c2 c3 c4 hst
   have HBA:=aA (yA (yH _ wr) (aDH ⟨id,ap,nd,me,cp⟩))
   have HCL:=aA (uH HP (wr.alloc (aDH ⟨id,ap,nd,me,cp⟩)) ⟨id,ap,nd,me,cp⟩ (by rw [←hs];exact yM _) (yB (yB (uH HB0) (uH HB)) (uH HBA)))
   have KB:=aA (yD wr #[.int .i64 id,.int .i64 ap,.string (bs nd),.int .i64 me,.int .i64 cp] 38)
   clear hq hs hkl hacc
   cases hpq:p ⟨id,ap,nd,me,cp⟩ with
   | true=>
    rw [hpq] at HCL
    rw [hpq,if_pos rfl] at hst
    have HST:=aA hst
    clear hpq hst
    go_wp2_with (first
     | ((first | go_at_call 125 | go_at_fn 125);refine (uH HCL).mono ?_;rintro e w1 ⟨rfl,hb⟩;have HB1:=aA (yB (yB (uH HB) (uH HBA)) hb);have HO1:=aA (((uH HO).below (uH HBA)).below hb);have b1:=(uH KB).below hb;have q3:=b1.at 3;have q4:=b1.at 4;simp at q3 q4;have hs2:(sQ w c).heap.size≤w1.heap.size:=(uH HB1).size;have hown:w1.ownsRow (sQ w c).heap.size 36 2 _ acc.length (gZ acc):=uH HO1;clear b1 hb HCL c0 c1 c2 c3 c4 HO HB)
     | (at_builtin;refine wpList_append_own _ rfl _ _ 141 rfl (sQ w c).heap.size 36 i0 (.agg #[.int .i64 0,.int .i64 0]) 2 16 Tryz.underlying141 hi hz0 hz1 hz2 rfl (by decide) _ _ _ rfl (hown.alloc _) ⟨w1.heap.size,0,none⟩ 1 1 (zF (me,cp)) rfl rfl ?c1 ?c2 ?c3 ?c4 ?c5 ?_))
    case c1=>
     intro j x hj
     match j,hj with
     | 0,hj=>simp at hj;subst hj;simp [Addr.add]
     | 1,hj=>simp at hj;subst hj;simp [Addr.add]
     | _+2,hj=>simp at hj
    case c2=>intro x hx;simp at hx;rcases hx with rfl | rfl<;>rfl
    case c3=>unfold maxLen;omega
    case c4=>omega
    case c5=>simp at hs2 ⊢;omega
    intro v' w3 hown' hgrow _
    have R:=lM (q:=(me,cp)) (uH HB1) (uH HO1) hown' hgrow hs2
    have HR3:=aA R
    clear hown' hgrow hown R q3 q4
    go_wp2
    go_roundw
    case rel=>exact ⟨k+1,by omega,by go_num,aA (by rw [uH HST];exact (uH HR3).1),aA (uH HR3).2⟩
    case measure=>simp [intOf];omega
   | false=>
    rw [hpq] at HCL
    rw [hpq,if_neg (by simp)] at hst
    have HST:=aA hst
    clear hpq hst
    go_wp2_with ((first | go_at_call 125 | go_at_fn 125);refine (uH HCL).mono ?_;rintro e w1 ⟨rfl,hb⟩;have HB1:=aA (yB (yB (uH HB) (uH HBA)) hb);have HO1:=aA (((uH HO).below (uH HBA)).below hb);clear hb HCL c0 c1 c2 c3 c4 HO HB)
    go_roundw
    case rel=>exact ⟨k+1,by omega,by go_num,aA (by rw [uH HST];exact uH HO1),HB1⟩
    case measure=>simp [intOf];omega
  ·have htk:cs.take k=cs:=List.take_of_length_le (by have:=uH HL;omega)
   rw [htk] at HO
   obtain ⟨ao,cp,rfl,hrow,hcp⟩:=(uH HO).row
   have hlc:(aJ p cs).length≤1048576:=by have:=vF (p:=p) cs;have:=uH HL;omega
   have CT:=aA (nI ao _ cp (aJ p cs) wr hrow hlc)
   rw [uH HS] at CT
   obtain ⟨n,hn⟩:∃n,(aJ p cs).length=n:=⟨_,rfl⟩
   rw [hn] at CT ⊢
   clear hrow hn htk hcp hlc HO
   go_wp2_with fail
   refine (uH CT).mono ?_
   rintro e w1 ⟨rfl,hb⟩
   have hsz:w.heap.size+1<(sQ w c).heap.size:=by have:=uH HW;omega
   have V1:Var w1 36 (w.heap.size+1) 0 0:=Var.below ((uH HB).block _ hsz |>.trans (uH V0)) hb
   have HB1:=aA (yB (yB (uH HB0) (uH HB)) hb)
   have V2:=V1.al (.cells #[.int .i64 sx,.int .i64 sy] 36)
   have t0:=V2.c0
   have t1:=V2.c1
   have f0:=V2.f 0
   have f1:=V2.f 1
   have VG:=V2.set sx sy
   have k6:=VG.c0
   have k7:=VG.c1
   clear hb V1 V2 VG CT HB HB0
   go_wp2
   refine bodyPost_ret (v:=rv sx sy) (by simp [results,Tryz.results187,go_sem,k6,k7]) rfl ⟨rfl,?_⟩
   repeat (first | exact uH HB1 | refine yA ?_ _ | refine yC ?_ _ _ _ (by omega))
end Go.Proofs.YtdhibeclkdepiaaGreat
/-
 What a queue uses,by the program: UsedBy;a aBn over the dump,with a map that is ranged over and shrinks.
-/
namespace Go.Proofs.YtdhibeclkdepiaaGreat
open Go.RowKit Go.Maps
set_option linter.unusedVariables false
set_option maxRecDepth 100000 in
theorem xA {n:Nat} {cs:List Value} {ls:List Lit} (h:Tryz.prog.keyLits (n+1) 9 cs=some ls):∃s,cs=[.string s]:=by
 unfold Program.keyLits at h
 rw [Tryz.underlying9] at h
 split at h<;>simp_all
set_option maxRecDepth 100000 in
theorem xB {n:Nat} {cs:List Value} {ls:List Lit} (h:Tryz.prog.keyLits (n+1) 3 cs=some ls):∃k,cs=[.int .i64 k]:=by
 unfold Program.keyLits at h
 rw [Tryz.underlying3] at h
 split at h<;>simp_all
set_option maxRecDepth 100000 in
theorem aHn {key:Value} {kl:Lit} (h:keyOf Tryz.prog 133 key=some kl):∃x:List UInt8×Int,key=pW x.1 x.2:=by
 have hu:=Tryz.underlying133
 obtain ⟨m,hm⟩:=uD
 unfold keyOf at h
 rw [hu] at h
 simp only at h
 split at h
 ·rename_i hf
  rw [yK] at hf
  have hf2:=hf.2
  cases key with
  | agg cs=>
   simp only [Value.formed,hu,aBX] at hf2
   obtain ⟨l⟩:=cs
   have hl:l.length=2:=by simpa using hf2
   match l,hl with
   | [c0,c1],_=>
    rw [hm,show (Value.agg #[c0,c1]).cells.toList=[c0,c1] from rfl] at h
    cases hk:Tryz.prog.keyLits (m+2) 133 [c0,c1] with
    | none=>rw [hk] at h;simp at h
    | some ls=>
     unfold Program.keyLits at hk
     rw [hu] at hk
     simp only at hk
     split at hk
     ·simp [xC,wZ] at hk
      cases h0:Tryz.prog.keyLits (m+1) 9 [c0] with
      | none=>rw [h0] at hk;simp at hk
      | some l0=>
       cases h1:Tryz.prog.keyLits (m+1) 3 [c1] with
       | none=>rw [h0,h1] at hk;simp at hk
       | some l1=>
        obtain ⟨s,e0⟩:=xA h0
        obtain ⟨k,e1⟩:=xB h1
        simp at e0 e1
        subst e0 e1
        exact ⟨(s.data.toList,k),by simp [pW,aE1]⟩
     ·cases hk
  | _=>simp [Value.formed,hu] at hf2
 ·cases h
theorem aEC {D:DataW Unit} {left:Lit→Bool} {kl:Lit} (hkl:WideAt.IsKeyLit kl) (h:∀z,left z=true→Maps.has D z=true):∀z,(left z&&!z.sameKey kl)=true→Maps.has (D.del kl) z=true:=fun z hz=>by
 simp only [yK,Bool.not_eq_true'] at hz
 rw [has_del_other (fun e=>by subst e;rw [WideAt.sameKey_self hkl] at hz;cases hz.2)]
 exact h z hz.1
theorem aHf {D:DataW Unit} {left:Lit→Bool} {kl:Lit} (h:∀z,left z=true→Maps.has D z=true):∀z,(left z&&!z.sameKey kl)=true→Maps.has D z=true:=fun z hz=>by
 simp only [yK] at hz
 exact h z hz.1
theorem aK6 {s:St} {hs:List AV} {w:World} (hh:jH w hs s.apps) (ho:aF s.qs=true) (nm:List UInt8) (q:Con):aHw hs (fun v=>jK s.qs v.queue nm) q=byQ s nm q:=by
 have e:=aAc (id:=q.app) hh.1 (fun i a b=>⟨(hh.2 i a b).1,(hh.2 i a b).2.1⟩)
 unfold aHw byQ
 cases h1:jP q.app hs with
 | none=>
  cases h2:dK q.app s.apps with
  | none=>rfl
  | some a=>rw [h1,h2] at e;cases e
 | some v=>
  cases h2:dK q.app s.apps with
  | none=>rw [h1,h2] at e;cases e
  | some a=>
   rw [h1,h2] at e
   have e':v.queue=a.queue:=by simpa using e
   simp only [aKn]
   rw [jK,e',←aAr ho,List.any_map]
   rfl
theorem aJ7 {s:St} (ho:aF s.qs=false) (nm:List UInt8) (q:Con):byQ s nm q=false:=by
 unfold byQ
 cases dK q.app s.apps with
 | none=>rfl
 | some a=>simp [path,ho]
theorem aFY {p:Con→Bool} {l:List Con} (h:∀q,p q=false):aJ p l=[]:=by
 have:l.filter p=[]:=by rw [List.filter_eq_nil_iff];intro a _;simp [h a]
 simp [aJ,this]
theorem aDX {p p':Con→Bool} {l:List Con} (h:∀q,p q=p' q):aJ p l=aJ p' l:=by rw [show p=p' from funext h]
set_option maxRecDepth 100000 in
set_option maxHeartbeats 4000000 in
theorem o9 (x:Sls) (s:St) (nm:List UInt8) (w:World) (h:jC w x s) (hf:bD s) (hc:x.ql≤x.qc) (hw:pX s) :
  Calls Tryz.prog 176 #[sv x s,.string (bs nm)] w fun e w'=>e=.returned (rv (aN s nm).1 (aN s nm).2)∧Below w.heap.size w w':=by
 have hmf:∀(fn:Fn) (first cap:Array Value) (w:World),(Instr.makeFunc fn first cap).run Tryz.prog w=.ok (.func fn first cap) w:=fun _ _ _ _=>rfl
 have hql:x.ql≤1048576:=by have:=h.len.1;have:=hf.1.1;omega
 have hal:x.al≤1048576:=by have:=h.len.2.1;have:=hf.2.1.1;omega
 have hcl:x.cl≤1048576:=by have:=h.len.2.2.2;have:=hf.2.2.2.1;omega
 obtain ⟨hs,hav,hh⟩:=h.2.1.heads
 have CQ:=aA (fun wx (hb:Below w.heap.size w wx)=>eU x.qa x.ql x.qc s.qs wx (h.1.below hb) hql (fun q hq=>(hf.1.2 q hq).1) hc)
 have CM:=aA (fun wx (hb:Below w.heap.size w wx)=>aIZ x s hs wx (hav.below hb) hal (aFJ hh hw.1))
 have CR:=aA (fun wx (hb:Below w.heap.size w wx) (qu:List UInt8)=>aDg x.qa x.ql x.qc s.qs qu nm wx (h.1.below hb) hql hc)
 have CU:=aA (fun (bm n:Nat) (D:DataW Unit) wx (hb:Below w.heap.size w wx) (hown:wx.ownsMap Tryz.prog 133 eZ bm n D) (hk:fE hs (fun _ v=>jK s.qs v.queue nm) D)=>aDY bm (aHw hs (fun v=>jK s.qs v.queue nm)) x s wx (h.2.2.2.below hb) hcl
  (fun wy q hq hy=>aHu bm n D hs (fun v=>jK s.qs v.queue nm) q wy (dD hown hy) hk (hw.2 q hq)))
 have HV1:=aA (fun ho:aF s.qs=true=>aDX (l:=s.cs) (aK6 hh ho nm))
 have HV2:=aA (fun ho:aF s.qs=false=>aFY (l:=s.cs) (aJ7 ho nm))
 have HV:=aA (show aN s nm=((gX (aJ (byQ s nm) s.cs)).1,(gX (aJ (byQ s nm) s.cs)).2.1) from rfl)
 obtain ⟨⟨ux,uy⟩,hu⟩:∃u,aN s nm=u:=⟨_,rfl⟩
 rw [hu] at HV ⊢
 obtain ⟨o,ho⟩:∃o,aF s.qs=o:=⟨_,rfl⟩
 rw [ho] at CQ HV1 HV2
 clear h hf hc hw hu ho hav hh
 obtain ⟨qa,ql,qc,aa,al,ac,ma,ml,mc,ca,cl,cc⟩:=x
 obtain ⟨qs,clock,epoch,next,serial,apps,ms,cs⟩:=s
 simp only at CQ CM CR CU HV1 HV2 HV hql hal hcl
 have HB0:=aA (cK w (svc ⟨qa,ql,qc,aa,al,ac,ma,ml,mc,ca,cl,cc⟩ ⟨qs,clock,epoch,next,serial,apps,ms,cs⟩))
 have V0:=aA (iF w (svc ⟨qa,ql,qc,aa,al,ac,ma,ml,mc,ca,cl,cc⟩ ⟨qs,clock,epoch,next,serial,apps,ms,cs⟩))
 have P0:=aA ((fD w (svc ⟨qa,ql,qc,aa,al,ac,ma,ml,mc,ca,cl,cc⟩ ⟨qs,clock,epoch,next,serial,apps,ms,cs⟩)).al (.cells #[.int .i64 0,.int .i64 0] 36))
 go_enter Tryz.func176,Tryz.ntmps176
 go_wp2_with fail
 refine (uH CQ _ (uH HB0)).mono ?_
 rintro e w1 ⟨rfl,hb⟩
 have HB1:=aA (yB (uH HB0) hb)
 have V1:=aA ((uH V0).below hb)
 have P1:=aA ((uH P0).below hb)
 clear hb HB0 V0 P0 CQ
 cases o with
 | false=>
  have hz:=uH HV
  rw [uH HV2 (by first | rfl | trivial)] at hz
  simp only [gX,aT,Prod.mk.injEq] at hz
  obtain ⟨rfl,rfl⟩:=hz
  have V2:=uH V1
  have t0:=V2.c0
  have t1:=V2.c1
  have f0:=V2.f 0
  have f1:=V2.f 1
  have k4:=V2.s0 (.int .i64 0)
  have k5:=V2.s1 (.int .i64 0) (.int .i64 0)
  clear V2
  go_wp2
  refine bodyPost_ret (v:=rv 0 0) (by simp [results,Tryz.results176,go_sem,k4,k5]) rfl ⟨rfl,?_⟩
  repeat (first | exact uH HB1 | refine yA ?_ _ | refine yC ?_ _ _ _ (by omega))
 | true=>
  have HE:=aA (uH HV1 (by first | rfl | trivial))
  have HVV:=aA (show (ux,uy)=((gX (aJ (aHw hs (fun v=>jK qs v.queue nm)) cs)).1,(gX (aJ (aHw hs (fun v=>jK qs v.queue nm)) cs)).2.1) by rw [uH HE];exact uH HV)
  rw [show (gX (aJ (aHw hs (fun v=>jK qs v.queue nm)) cs)).1=ux from (congrArg Prod.fst (uH HVV)).symm,show (gX (aJ (aHw hs (fun v=>jK qs v.queue nm)) cs)).2.1=uy from (congrArg Prod.snd (uH HVV)).symm] at CU
  clear HV HV1 HV2 HE HVV
  obtain ⟨q0,q1,q2,q3,q4,q5,q6,q7⟩:_∧_∧_∧_∧_∧_∧_∧_:=⟨(uH P1).at 0,(uH P1).at 1,(uH P1).at 2,(uH P1).at 3,(uH P1).at 4,(uH P1).at 5,(uH P1).at 6,(uH P1).at 7⟩
  simp at q0 q1 q2 q3 q4 q5 q6 q7
  have hpl:=(uH P1).lt
  have hvl:=(uH V1).lt
  go_wp2_with fail
  refine (uH CM _ (uH HB1)).mono ?_
  rintro e w2 ⟨bm,rfl,⟨hbm,D0,hown,hkn⟩,hb⟩
  have HB2:=aA hb
  have HK0:=aA hkn
  clear q0 q1 q2 q3 q4 q5 q6 q7 hb hkn CM
  go_wp2_with (first
   | (at_range;refine wpList_range_own _ rfl _ 164 rfl 133 74 jL Tryz.underlying164 _ bm hs.length D0 rfl hown ?_;intro w3 hrg0 hg0 hs0)
   | go_in)
  go_frame
  have hw12:w1.heap.size≤w2.heap.size:=(uH HB2).size
  have HB3:=aA (show Below w1.heap.size w1 w3 from (uH HB2).grown hg0 hw12 (fun k e=>by cases e))
  have HRG0:=aA hrg0
  obtain ⟨r,hr⟩:∃r,w2.heap.size=r:=⟨_,rfl⟩
  rw [hr] at HRG0 hw12 ⊢
  have hwa:w.heap.size≤w1.heap.size:=(uH HB1).size
  clear hrg0 hg0 hs0 HB2 hown hr
  go_loopw [6] (fun _ wr=>∃(left:Lit→Bool) (cnt:Nat) (D:DataW Unit),Hid (wr.ranges Tryz.prog 133 eZ bm r hs.length D left cnt)∧Hid (fE hs (fun kl v=>left kl||jK qs v.queue nm) D)∧Hid (∀z,left z=true→Maps.has D z=true)∧Hid (Below w1.heap.size w1 wr)) (fun _ wr=>wr.rangeLeft bm r)
  case atStart=>exact ⟨_,_,D0,HRG0,aA ⟨(uH HK0).1,fun v kl h1 h2=>by have:=(uH HK0).2 v kl h1 h2;simp only at this ⊢;rw [this];rfl⟩,aA (fun z h=>h),HB3⟩
  case round=>
   obtain ⟨left,cnt,D,HRG,HKN,HLT,HBr⟩:=hrel
   have hrg:=uH HRG
   clear HRG0 HK0 HB3
   go_wp2_with (first
    | (at_next;refine wpList_next_ranges _ rfl _ rfl 133 jL eZ (fun x:List UInt8×Int=>pW x.1 x.2) avv (fun key kl hkey=>aHn hkey) (fun v y hv=>nC hv) bm r hs.length D left cnt rfl hrg ?_ ?_)
    | go_in)
   ·intro _ hl0
    have HKF:=aA (show fE hs (fun _ v=>jK qs v.queue nm) D from ⟨(uH HKN).1,fun v kl h1 h2=>by have:=(uH HKN).2 v kl h1 h2;simp only [hl0,Bool.false_or] at this;exact this⟩)
    have PB:=(uH P1).below (uH HBr)
    obtain ⟨q0,q1,q2,q3,q4,q5,q6,q7⟩:_∧_∧_∧_∧_∧_∧_∧_:=⟨PB.at 0,PB.at 1,PB.at 2,PB.at 3,PB.at 4,PB.at 5,PB.at 6,PB.at 7⟩
    simp at q0 q1 q2 q3 q4 q5 q6 q7
    have HVB:=aA ((uH V1).below (uH HBr))
    have HBB:=aA (yB (uH HB1) (uH HBr))
    have HOW:=aA hrg.owns
    clear HRG HKN HLT hrg hl0 PB CR
    go_wp2_with fail
    refine (uH CU bm hs.length D _ (uH HBB) (uH HOW) (uH HKF)).mono ?_
    rintro e w5 ⟨rfl,hb⟩
    have V2:=(uH HVB).below hb
    have HB5:=aA (yB (uH HBB) hb)
    have t0:=V2.c0
    have t1:=V2.c1
    have f0:=V2.f 0
    have f1:=V2.f 1
    have k4:=V2.s0 (.int .i64 ux)
    have k5:=V2.s1 (.int .i64 ux) (.int .i64 uy)
    clear V2 hb q0 q1 q2 q3 q4 q5 q6 q7
    go_wp2
    refine bodyPost_ret (v:=rv ux uy) (by simp [results,Tryz.results176,go_sem,k4,k5]) rfl ⟨rfl,?_⟩
    repeat (first | exact uH HB5 | refine yA ?_ _ | refine yC ?_ _ _ _ (by omega))
   ·rintro x1 x2 ⟨id,qu,zo,zl,zc⟩ kl y1 y2 w4 cnt1 hkey hlk hR hat hrg1 hlt hg1 hs1 hen
    obtain ⟨HFD,HKV⟩:Hid (jP id hs=some ⟨id,qu,zo,zl,zc⟩)∧Hid (keyOf Tryz.prog 133 (pW [] id)=some kl):=by
     obtain ⟨v,hf,hkv,hav⟩:=(uH HKN).1 kl (uH HLT kl hlk)
     rw [lV] at hR
     have e:=aI3 ((hav (.map [])).symm.trans ((hat (.map [])).trans (congrArg Prod.fst (Option.some.inj hR)).symm))
     subst e
     exact ⟨aA hf,aA hkv⟩
    have HKY:=aA (show keyOf Tryz.prog 133 (pW x1 x2)=some kl from hkey)
    have HR1:=aA hrg1
    have HLT1:=aA hlt
    have HB4:=aA (show Below w1.heap.size w1 w4 from (uH HBr).grown hg1 (uH HBr).size (fun k e=>by cases e;omega))
    obtain ⟨b,hbb⟩:∃b,jK qs qu nm=b:=⟨_,rfl⟩
    have CRq:=aA (fun wx (hb:Below w.heap.size w wx)=>by have:=uH CR wx hb qu;rw [hbb] at this;exact this)
    have HBB:=aA hbb
    have PB:=(uH P1).below (uH HB4)
    have q0:=PB.at 0
    simp at q0
    have q0b:=(PB.al (.cells #[.string (bs x1),.int .i64 x2] 133)).at 0
    have q0c:=((PB.al (.cells #[.string (bs x1),.int .i64 x2] 133)).al (.cells #[.int .i64 id,.string (bs qu),.slice zo zl zc] 74)).at 0
    simp at q0b q0c
    clear hkey hR hat hrg1 hlt hg1 hs1 hlk hbb PB CR CU
    go_wp2_with fail
    refine (uH CRq _ ?_).mono ?_
    ·exact yA (yA (yB (uH HB1) (uH HB4)) _) _
    rintro e w5 ⟨rfl,hb⟩
    have HB5:=aA (yB (yA (yA (yH _ w4) (.cells #[.string (bs x1),.int .i64 x2] 133)) (.cells #[.int .i64 id,.string (bs qu),.slice zo zl zc] 74)) hb)
    have KB:=((yD w4 #[.string (bs x1),.int .i64 x2] 133).al (.cells #[.int .i64 id,.string (bs qu),.slice zo zl zc] 74)).below hb
    have z0:=KB.at 0
    have z1:=KB.at 1
    simp at z0 z1
    have HR5:=aA ((uH HR1).kept (aG (aC w4 none) (uH HB5)) (by simp) (by simp))
    have HW5:=aA (show Below w1.heap.size w1 w5 from yB (uH HB4) (uH HB5))
    clear hb KB CRq q0 q0b q0c hen HR1
    cases b with
    | true=>
     have HST:=aA ((uH HKN).stay (v:=⟨id,qu,zo,zl,zc⟩) (uH HFD) (uH HKV) (uH HBB))
     go_wp2
     go_roundw
     case rel=>exact ⟨_,cnt1,D,HR5,HST,aA (aHf (uH HLT)),HW5⟩
     case measure=>rw [(uH HR5).left_eq,hrg.left_eq];exact uH HLT1
    | false=>
     have HST:=aA ((uH HKN).strike (v:=⟨id,qu,zo,zl,zc⟩) (uH HFD) (uH HKV) (uH HBB))
     have hrg5:=uH HR5
     go_wp2_with (first
      | (at_delete;refine wpList_delete_ranges _ rfl _ _ 164 133 rfl 74 jL Tryz.underlying164 _ bm r hs.length _ _ _ rfl hrg5 _ _ rfl (uH HKY) ?_;intro w6 cnt2 hrg6 hle hturn;go_frame)
      | go_in)
     rw [strike_twice] at hrg6
     have HW6:=aA (show Below w1.heap.size w1 w6 from (uH HW5).grown hturn.grown (uH HW5).size (fun k e=>by cases e;omega))
     have HR6:=aA hrg6
     have HLE:=aA hle
     clear hturn hrg5 hrg6 hle
     go_roundw
     case rel=>exact ⟨_,cnt2,_,HR6,HST,aA (aEC (jL.key (uH HKY)) (uH HLT)),HW6⟩
     case measure=>rw [(uH HR6).left_eq,hrg.left_eq];have:=uH HLE;have:=uH HLT1;omega
end Go.Proofs.YtdhibeclkdepiaaGreat
namespace Go.Proofs.YtdhibeclkdepiaaGreat
section
open Go.RowKit Go.Shelf
attribute [local go_sem] Oper.semAt_some
theorem aCp (ao:Option Addr) (len cap:Nat) (l:List Q) (nm:List UInt8) (w:World) (h:iG w ao len l) (hl:len≤1048576) (hn:∀q ∈ l,q.name.length≤1048576) (hc:len≤cap) :
  Calls Tryz.prog 173 #[.slice ao len cap,.string (bs nm)] w fun e w'=>∃v,e=.returned v∧dA w.heap.size w' v (path l nm)∧Below w.heap.size w w':=by
 obtain ⟨i0,hi,hz0,hz1,hz2⟩:=info_parts Tryz.infoS
 have HR:=aA h
 have HL:=aA h.1
 have CQ:=aA (eU ao len cap l w h hl hn hc)
 have HN:=aA hn
 have HP:=aA (fun ho:aF l=true=>aAr ho nm)
 have HZ:=aA (show aF l=false→path l nm=[] by intro e;rw [path,e];rfl)
 obtain ⟨o,ho⟩:∃o,aF l=o:=⟨_,rfl⟩
 rw [ho] at CQ HP HZ
 clear ho hn h
 have hmx:Tryz.prog.follows .mixedOrders=true:=by kernel_rfl
 refine (callsIn_wide (n:=3)).1 ?_
 refine callsIn_of_wp_marks Tryz.func173 rfl trivial ?_ rfl
 simp only [Tryz.ntmps173,List.size_toArray,List.length_cons,List.length_nil,Nat.reduceAdd,Nat.reduceSub,Array.replicate_succ,Array.replicate_zero,List.push_toArray,List.append_toArray,List.nil_append,List.cons_append]
 gi_wp2_with fail
 refine ⟨trivial,?_⟩
 first | refine ⟨(by intro e;cases e),?_⟩ | skip
 refine (callsIn_wide.2 (uH CQ)).mono ?_
 rintro e w1 ⟨rfl,hb⟩
 have HB1:=aA hb
 clear hb CQ
 cases o with
 | false=>
  have hz:=uH HZ (by first | rfl | trivial)
  gi_wp2
  exact ⟨_,results_tmp rfl _ _ _,_,rfl,dA.of (o:=[]) (World.ownsRow_nil _ _ _ _) (by rw [hz];rfl),uH HB1⟩
 | true=>
  have hpa:=uH HP (by first | rfl | trivial)
  have HPA:=aA hpa
  have HBo:=aA (((Go.Boxed.new w1 175 (.slice none 0 0)).alloc (.cells #[.slice ao len cap] 29)).alloc (.cells #[.string (bs nm)] 9))
  have hBq:(((w1.alloc (.cells #[.slice none 0 0] 175)).alloc (.cells #[.slice ao len cap] 29)).alloc (.cells #[.string (bs nm)] 9)).cell? ⟨w1.heap.size+1,0,none⟩=some (.slice ao len cap):=by
   have:=((Go.Boxed.new (w1.alloc (.cells #[.slice none 0 0] 175)) 29 (.slice ao len cap)).alloc (.cells #[.string (bs nm)] 9)).cell
   simpa using this
  have hBn:(((w1.alloc (.cells #[.slice none 0 0] 175)).alloc (.cells #[.slice ao len cap] 29)).alloc (.cells #[.string (bs nm)] 9)).cell? ⟨w1.heap.size+1+1,0,none⟩=some (.string (bs nm)):=by
   have:=(Go.Boxed.new ((w1.alloc (.cells #[.slice none 0 0] 175)).alloc (.cells #[.slice ao len cap] 29)) 9 (.string (bs nm))).cell
   simpa using this
  have HB0:=aA (yA (yA (yA (uH HB1) (.cells #[.slice none 0 0] 175)) (.cells #[.slice ao len cap] 29)) (.cells #[.string (bs nm)] 9))
  have HC:=aA (pR (3 - 1) (w1.heap.size+1) (w1.heap.size+1+1) ao len cap l nm w _ (uH HR) (uH HB0) hl hc hBq hBn)
  clear HP HZ hpa hBq hBn
  gi_wp2_with fail
  refine ⟨trivial,?_⟩
  first | refine ⟨(by intro e;cases e),?_⟩ | skip
  refine (callsIn_wide.2 (yT ao len cap nm _)).mono ?_
  rintro e w2 ⟨rfl,rfl⟩
  gi_wp2
  have hsz:(((w1.alloc (.cells #[.slice none 0 0] 175)).alloc (.cells #[.slice ao len cap] 29)).alloc (.cells #[.string (bs nm)] 9)).heap.size=w1.heap.size+3:=by simp
  obtain ⟨W0,hW0⟩:∃W0,((w1.alloc (.cells #[.slice none 0 0] 175)).alloc (.cells #[.slice ao len cap] 29)).alloc (.cells #[.string (bs nm)] 9)=W0:=⟨_,rfl⟩
  rw [hW0] at hsz HBo HB0 HC ⊢
  have hw1:=(uH HB1).size
  clear hW0
  refine wpIn_rangeFunc_ownH rfl (by omega) (gf:=206) (lb:=#[.pointer (some ⟨w1.heap.size+1,0,none⟩),.pointer (some ⟨w1.heap.size+1+1,0,none⟩)]) rfl trivial (enters_of Tryz.func206 (by kernel_rfl) rfl)
   (uH HC) aKY (aKZ (by omega)) (yH _ _) (fun _=>rfl)
   (fun pre W=>(∃v,Go.Boxed W w1.heap.size 175 v∧W.ownsRow w.heap.size 9 1 v pre.length (gY (pre.map (fun q=>bs q.1.name)))∧True)∧Below w.heap.size w W)
   (fun _ _ _=>False)
   (OwnFrom.and (Own.from (holdsRow_own w.heap.size w1.heap.size 175 9 1 (fun pre:List { q:Q // q ∈ l }=>pre.length) (fun pre:List { q:Q // q ∈ l }=>gY (pre.map (fun q=>bs q.1.name))) (fun _ _=>True)) _) (ownFrom_below (yJ _) (by omega)))
   (fun _ _ _ _ _ hs _ _=>hs)
   ⟨⟨_,uH HBo,World.ownsRow_nil _ _ _ _,trivial⟩,uH HB0⟩
   (fun x a' W=>∃Bx,w1.heap.size<Bx∧mF W Bx x.1∧a' = { tmps:=#[.slice ao len cap,.string (bs nm),undef,undef,.slice none 0 0,.pointer (some ⟨w1.heap.size,0,none⟩),.pointer (some ⟨Bx,0,none⟩),.slice ao len cap,.bool true,.bool false,.slice ao len cap,.string (bs nm),.func (.func 206) #[] #[.pointer (some ⟨w1.heap.size+1,0,none⟩),.pointer (some ⟨w1.heap.size+1+1,0,none⟩)],qv x.1,undef,undef,undef,undef,undef,undef,undef],defers:=[] })
   (fun x a' _ X Y row hs hg hr=>by
    obtain ⟨Bx,h1,h2,h3⟩:=hs
    refine ⟨Bx,h1,(hg.block Bx h2.lt (fun e=>?_)).trans h2,h3⟩
    obtain ⟨_,o,ho,hc⟩:=hr Bx e.symm
    rw [show X.heap[Bx]? = _ from h2] at ho
    cases ho
    cases hc)
   ?assign ?body ?done ?stop
  case assign=>
   rintro lp pre x W K ⟨⟨v,hv,hrow,_⟩,hB⟩ hK
   gi_wp2
   exact hK _ _ ((KeepsOthers.alloc _ _).from _) (aFD hB.size (yA (yH _ W) _)) ⟨⟨v,hv.alloc _,hrow.alloc _,trivial⟩,yA hB _⟩ ⟨W.heap.size,hv.lt,mF.new W x.1,rfl⟩
  case body=>
   rintro lp pre x a' W hlp _ ⟨⟨v,hv,hrow,_⟩,hB⟩ ⟨Bx,hBx,hX,rfl⟩ hlt
   have hc0:=hv.cell
   have hx0:=hX.c0
   have hname:(bs x.1.name).size≤281474976710656:=by rw [dI];have:=uH HN x.1 x.2;omega
   have hpl:pre.length≤1048576:=by have:=uH HL;omega
   have HV:=aA hv
   have HX:=aA hX
   have HRW:=aA hrow
   have HB:=aA hB
   clear hv hX hrow hB
   gi_wp2_with fail
   gi_region_with_o (first | (refine ⟨trivial,?_⟩;gi_at_call 67;refine (CallsIn.inRound lp (callsIn_wide.2 (iE _ _ hname))).mono ?_;rintro e w3 ⟨rfl,hb3⟩;have HW3:=aA (yB (yH _ W).drew hb3);have hc3:=(dN (uH HV) (uH HW3)).cell;have hc3b:=((dN (uH HV) (uH HW3)).alloc (.cells #[.string (bs x.1.name)] 9)).cell;obtain ⟨g,cp,w4,hrun,hc4,hf4,HFIN⟩:=xM 175 9 (.string ByteArray.empty) 16 i0 Tryz.underlying175 hi hz0 hz1 hz2 rfl (by decide) (by decide) (by omega) (dN (uH HV) (uH HW3)) (nM (uH HRW) (uH HW3)) hpl (Nat.le_trans (uH HB).size (uH HW3).size) (uH HB1).size (.string (bs x.1.name)) rfl;clear hb3;simp [go_sem] at hrun))
   all_goals gi_wp2
   all_goals
    obtain ⟨f1,f2,f3,f4,f5⟩:=uH HFIN
    exact ⟨((mQ (uH HW3)).trans f3).from _,⟨((uH HW3).mono (uH HB).size).trans f4,fun k q hq=>f5 k q (hq.below (uH HW3))⟩,⟨⟨_,f1,by simpa using f2,trivial⟩,((uH HB).trans ((uH HW3).mono (uH HB).size)).trans f4⟩⟩
  case done=>
   rintro D ys W hD hys ⟨⟨v,hv,hrow,_⟩,hB⟩ hK
   have hc:=hv.cell
   gi_wp2
   refine ⟨by simp,.inl ⟨_,_,rfl,run_takeDeferred hK,?_⟩⟩
   exact ⟨_,results_tmp rfl _ _ _,v,rfl,dA.of (o:=ys.map (fun q=>bs q.1.name)) (by have:=ownsRow_putObj hrow (.deferred none) hK rfl;simpa using this) (by rw [←uH HPA,←hys];simp),hB.trans (belowK_b (w:=w) (yJ _) W D _ _ (by omega) hK rfl rfl)⟩
  case stop=>
   rintro D c pre W _ _ h _
   exact h.elim
end
section
open Go.RowKit
theorem eH:∀a b:List Ask,aK (a++b)=aK a++aK b
 | [],b=>rfl
 | q::t,b=>by rw [List.cons_append,aK,aK,eH t b,List.append_assoc]
theorem aKi (l:List Ask) (i:Nat) (h:i≤l.length):(aK l).take (i*5)=aK (l.take i):=by
 conv=>lhs;rw [←List.take_append_drop i l,eH]
 rw [List.take_append_of_le_length (by rw [aU,List.length_take];omega),List.take_of_length_le (by rw [aU,List.length_take];omega)]
theorem uQ (l:List Ask) (k:Nat) (h:k<l.length):aK (l.eraseIdx k)=aK (l.take k)++aK (l.drop (k+1)):=by
 rw [List.eraseIdx_eq_take_drop_succ,eH]
theorem aJw:∀w,(zeroValue 77).run Tryz.prog w=.ok (.agg #[.int .i64 0,.int .i64 0,.int .i64 0,.string ByteArray.empty,.int .i64 0]) w:=fun w=>by kernel_rfl
theorem aK5:(Tryz.prog.info? 77).map (fun i=>i.size)=some 5:=by kernel_rfl
theorem aB9 (g N cap k:Nat) (l:List Ask) (w:World) (h:Lay w 77 g N (aK l)) (hk:k<l.length) (hcap:l.length≤cap) (hl:l.length≤1048576) (hN:l.length*5≤N) :
  Calls Tryz.prog 107 #[.slice (some ⟨g,0,none⟩) l.length cap,.int .i64 (k:Int),.int .i64 ((k:Int)+1)] w fun e w'=>e=.returned (.slice (some ⟨g,0,none⟩) (l.length - 1) cap)∧Lay w' 77 g N (aK (l.eraseIdx k))∧Mks (fun b=>b=g) w w':=by
 obtain ⟨i0,hi0,hsz⟩:∃i0,Tryz.prog.info? 77=some i0∧i0.size=5:=by
  have:=aK5
  cases hq:Tryz.prog.info? 77 with
  | none=>rw [hq] at this;simp at this
  | some i=>rw [hq] at this;exact ⟨i,rfl,by simpa using this⟩
 obtain ⟨n,hn⟩:∃n,l.length=n:=⟨_,rfl⟩
 rw [hn] at hk hcap hl hN ⊢
 have HN:=aA hn
 have H:=aA h
 obtain ⟨news,hnews⟩:∃x,aK (l.drop (k+1))=x:=⟨_,rfl⟩
 have hnl:news.length=(n - (k+1))*5:=by rw [←hnews,aU,List.length_drop,hn]
 have HC:=aA (show ∀j u,news[j]? = some u→w.cell? ⟨g,(k+1)*5+j,none⟩=some u from fun j u hj=>by
  refine h.cell ?_
  have e:aK l=aK (l.take (k+1))++news:=by rw [←hnews,←eH,List.take_append_drop]
  rw [e,List.getElem?_append_right (by rw [aU,List.length_take];omega),aU,List.length_take]
  rw [show (k+1)*5+j - min (k+1) l.length*5=j by omega]
  exact hj)
 have H1:=aA (show ∀u ∈ news,u.oneCell'=true from fun u hu=>iR _ u (by rw [hnews];exact hu))
 have HS:=aA (show ∀j,j<news.length→(w.cell? ⟨g,0+k*5+j,none⟩).isSome=true∧w.frozen? ⟨g,0+k*5+j,none⟩=false from fun j hj=>⟨by rw [Nat.zero_add];exact h.isThere (by omega),h.frozen _⟩)
 have k0:(0:Int)≤k:=by omega
 have k1:(k:Int)≤(k:Int)+1:=by omega
 have k2:(k:Int)+1≤n:=by omega
 have k3:(n:Int)≤cap:=by omega
 have k4:¬(k:Int)=(k:Int)+1:=by omega
 have k5:(k:Int)≤n:=by omega
 have k6:(0:Int)≤(k:Int)+1:=by omega
 have k7:((k:Int)+1).toNat=k+1:=by omega
 have hz:(Builtin.zeroCells (Value.agg #[.int .i64 0,.int .i64 0,.int .i64 0,.string ByteArray.empty,.int .i64 0]).cells 1).toList=[.int .i64 0,.int .i64 0,.int .i64 0,.string ByteArray.empty,.int .i64 0]:=by kernel_rfl
 obtain ⟨W1,hW1⟩:∃W1,W1=w.drew.setCells g (0+k*5) news:=⟨_,rfl⟩
 have hL1:Lay W1 77 g N (aK (l.eraseIdx k)):=by
  rw [hW1]
  refine h.drew.cells _ _ (by omega) _ (by rw [aU,List.length_eraseIdx_of_lt (by omega)];omega) (fun j u hj=>?_)
  rw [uQ l k (by omega),hnews] at hj
  have hcl:(aK (l.take k)).length=k*5:=by rw [aU,List.length_take];omega
  rw [Nat.zero_add]
  refine ⟨fun e=>?_,fun e=>?_⟩
  ·rw [List.getElem?_append_right (by omega),hcl] at hj
   exact hj
  ·have hlt:=(List.getElem?_eq_some_iff.1 hj).1
   rw [List.length_append,hcl] at hlt
   rw [List.getElem?_append_left (by omega)] at hj
   refine h.drew.cell ?_
   have e2:aK l=aK (l.take k)++aK (l.drop k):=by rw [←eH,List.take_append_drop]
   rw [e2,List.getElem?_append_left (by omega)]
   exact hj
 have hM1:Mks (fun b=>b=g) w W1:=by
  rw [hW1]
  exact eT (S:=fun b=>b=g) rfl _ _ _ _ (.of_below (yH _ w).drew)
 have hcl:∀ty,(Builtin.clear_ #[72] ty #[.slice (some ⟨g,(k+(n - (k+1)))*5,none⟩) (n - (k+(n - (k+1)))) (cap - (k+(n - (k+1))))]).run Tryz.prog W1=.ok (.tuple #[]) (W1.setCells g ((n - 1)*5) [.int .i64 0,.int .i64 0,.int .i64 0,.string ByteArray.empty,.int .i64 0]):=fun ty=>by
  rw [show n - (k+(n - (k+1)))=1 by omega,show k+(n - (k+1))=n - 1 by omega]
  exact aBF W1 _ _ ty _ Tryz.underlying72 aJw _ hz (fun v hv=>by simp at hv;rcases hv with rfl | rfl | rfl<;>rfl) g _ _ (fun j hj=>hL1.isThere (by simp at hj;omega)) (fun j hj=>hL1.frozen _)
 have HA:=aA (show Lay (W1.setCells g ((n - 1)*5) [.int .i64 0,.int .i64 0,.int .i64 0,.string ByteArray.empty,.int .i64 0]) 77 g N (aK (l.eraseIdx k))∧Mks (fun b=>b=g) w (W1.setCells g ((n - 1)*5) [.int .i64 0,.int .i64 0,.int .i64 0,.string ByteArray.empty,.int .i64 0]) from by
  refine ⟨hL1.cells _ _ (by simp;omega) _ (by rw [aU,List.length_eraseIdx_of_lt (by omega)];omega) (fun j u hj=>⟨fun e=>?_,fun e=>hL1.cell hj⟩),eT (S:=fun b=>b=g) rfl _ _ _ _ hM1⟩
  have hlt:=(List.getElem?_eq_some_iff.1 hj).1
  rw [aU,List.length_eraseIdx_of_lt (by omega)] at hlt
  omega)
 have HW:=aA hW1
 have j1:((k+(n - (k+1)):Nat):Int)≤n:=by omega
 have j2:k+(n - (k+1))≤n:=by omega
 have j3:¬cap=k+(n - (k+1)):=by omega
 have j4:n≤cap:=by omega
 have j6:k≤cap:=by omega
 have j7:k+1≤cap:=by omega
 have j8:k+1≤n:=by omega
 clear h hn hW1 hL1 hM1
 by_cases hcc:cap=k+1
 ·subst hcc
  have hnk:n=k+1:=by omega
  have hnl0:news.length=0*5:=by rw [hnl];omega
  have e1:k+(n - (k+1))=k:=by omega
  rw [e1] at hcl j1 j2 j3
  subst hnk
  rw [show k+1 - k=1 by omega] at hcl
  go_enter Tryz.func107,Tryz.ntmps107
  go_wp2_with fail
  go_region_law (refine step_append_room rfl (.tmp 22) (.tmp 25) 72 rfl 77 i0 5 Tryz.underlying72 hi0 hsz g 0 k (k+1) (by simp [Act.eval,Act.put]) ⟨g,0,none⟩ 0 0 news (by simp [Act.eval,Act.put]) hnl0 (fun j u hj=>absurd (List.getElem?_eq_some_iff.1 hj).1 (by rw [hnl0];omega)) (uH H1) (by omega) (uH HS) ?_;rw [←uH HW])
  go_wp2
  go_ret
  exact ⟨rfl,uH HA⟩
 have j5:¬(k+1=cap):=by omega
 go_enter Tryz.func107,Tryz.ntmps107
 go_wp2_with fail
 go_region_law (refine step_append_room rfl (.tmp 22) (.tmp 25) 72 rfl 77 i0 5 Tryz.underlying72 hi0 hsz g 0 k cap (by simp [Act.eval,Act.put]) ⟨g,(k+1)*5,none⟩ (n - (k+1)) (cap - (k+1)) news (by simp [Act.eval,Act.put]) hnl (fun j u hj=>by rw [Addr.add_lit];exact uH HC j u hj) (uH H1) (by omega) (uH HS) ?_;rw [←uH HW])
 go_wp2
 go_ret
 exact ⟨by rw [show k+(n - (k+1))=n - 1 by omega];rfl,uH HA⟩
end
section
open Go.RowKit Go.Maps
theorem aF2 {B:Nat} {w:World} {v:Value} {ps:List (List UInt8)} (h:dA B w v ps):∃ao cap,v=.slice ao ps.length cap∧∀j (hj:j<ps.length),∃g,ao=some ⟨g,0,none⟩∧w.cell? ⟨g,j,none⟩=some (.string (bs ps[j])):=by
  by_cases hp:ps=[]
  · subst hp
    obtain ⟨a,cap,rfl⟩:=jT h
    exact ⟨a,cap,rfl,fun j hj=>by simp at hj⟩
  · obtain ⟨g,cap,rfl,hs,_⟩:=jS h hp
    exact ⟨_,cap,rfl,fun j hj=>⟨g,rfl,hs.text hj⟩⟩
theorem aFl (s:St) (nm:List UInt8):(path s.qs nm).length≤1048576:=by
  cases ho:aF s.qs with
  | false=>simp [path,ho]
  | true=>
    have h2:=(r9.1 (by have:=kQ s.qs;rw [ho] at this;simp at this;exact this.1)).2.2
    have:=aBI s.qs nm
    omega
theorem aBz (x:Sls) (s:St) (nm:List UInt8) (rx ry:Int) (w:World) (h:jC w x s) (hf:bD s) :
    Calls Tryz.prog 132 #[sv x s,.string (bs nm),rv rx ry] w fun e w'=>e=.returned (.bool (aDf s nm rx ry))∧Below w.heap.size w w':=by
  have hql:x.ql≤1048576:=h.ql hf
  have hml:x.ml≤1048576:=h.ml hf
  have CPath:=aA (fun wx (hb:Below w.heap.size w wx)=>nK x.qa x.ql x.qc s.qs nm wx (h.1.below hb) hql (fun q hq=>(hf.1.2 q hq).1))
  have CT:=aA (fun wx (hb:Below w.heap.size w wx)=>qD x s wx (h.2.2.1.below hb) hml)
  have CM:=aA (fun wx (hb:Below w.heap.size w wx) (n:List UInt8)=>show Calls Tryz.prog 165 #[.slice x.qa x.ql x.qc,.string (bs n),rv (dY s).1 (dY s).2] wx (fun e w'=>e=.returned (rv (iZ s n).1 (iZ s n).2)∧Below wx.heap.size wx w') from zB x.qa x.ql x.qc s.qs n (dY s).1 (dY s).2 wx (h.1.below hb) hql (fun q hq=>(hf.1.2 q hq).1))
  have CU:=aA (fun wx (hb:Below w.heap.size w wx) (n:List UInt8)=>oU x s n wx (h.below hb) hf)
  have HPL:=aA (aFl s nm)
  have HRA:=aA (fun n:List UInt8=>show qJ s rx ry n=(aI 1 (aN s n).1 (aN s n).2 rx ry&&within ((aN s n).1+1*rx) ((aN s n).2+1*ry) (iZ s n).1 (iZ s n).2) from rfl)
  obtain ⟨⟨tx,ty⟩,ht⟩:∃t,dY s=t:=⟨_,rfl⟩
  rw [show (gX (aY s.ms)).1=tx from congrArg Prod.fst ht,show (gX (aY s.ms)).2.1=ty from congrArg Prod.snd ht] at CT
  rw [ht] at CM
  obtain ⟨o,ho⟩:∃o,aDf s nm rx ry=o:=⟨_,rfl⟩
  have HO:=aA (show (decide (0<(path s.qs nm).length)&&(path s.qs nm).all (qJ s rx ry))=o from ho)
  rw [ho]
  obtain ⟨ps,hps⟩:∃p,path s.qs nm=p:=⟨_,rfl⟩
  rw [hps] at CPath HPL HO
  obtain ⟨rf,hrf⟩:∃f,qJ s rx ry=f:=⟨_,rfl⟩
  rw [hrf] at HRA HO
  obtain ⟨mf,hmf⟩:∃f,iZ s=f:=⟨_,rfl⟩
  rw [hmf] at CM HRA
  obtain ⟨uf,huf⟩:∃f,aN s=f:=⟨_,rfl⟩
  rw [huf] at CU HRA
  clear h hf ht hps ho hrf hmf huf
  obtain ⟨qa,ql,qc,aa,al,ac,ma,ml,mc,ca,cl,cc⟩:=x
  obtain ⟨qs,clock,epoch,next,serial,apps,ms,cs⟩:=s
  simp only at CM CU CT CPath hql hml
  have HB0:=aA (aDe w (svc ⟨qa,ql,qc,aa,al,ac,ma,ml,mc,ca,cl,cc⟩ ⟨qs,clock,epoch,next,serial,apps,ms,cs⟩) rx ry)
  have V0:=aA (aHI w (svc ⟨qa,ql,qc,aa,al,ac,ma,ml,mc,ca,cl,cc⟩ ⟨qs,clock,epoch,next,serial,apps,ms,cs⟩) rx ry)
  have P0:=aA (aHJ w (svc ⟨qa,ql,qc,aa,al,ac,ma,ml,mc,ca,cl,cc⟩ ⟨qs,clock,epoch,next,serial,apps,ms,cs⟩) rx ry)
  go_enter Tryz.func132,Tryz.ntmps132
  go_wp2_with fail
  refine (uH CPath _ (uH HB0)).mono ?_
  rintro e w1 ⟨v,rfl,htx,hb⟩
  have HB1:=aA (yB (uH HB0) hb)
  have V1:=aA ((uH V0).below hb)
  have P1:=aA ((uH P0).below hb)
  have HTX:=aA htx
  obtain ⟨q0,q1,q2,q3,q4,q5,q6,q7⟩:_∧_∧_∧_∧_∧_∧_∧_:=⟨(uH P1).at 0,(uH P1).at 1,(uH P1).at 2,(uH P1).at 3,(uH P1).at 4,(uH P1).at 5,(uH P1).at 6,(uH P1).at 7⟩
  simp at q0 q1 q2 q3 q4 q5 q6 q7
  clear hb HB0 V0 P0 CPath htx
  go_wp2_with fail
  refine (uH CT _ (uH HB1)).mono ?_
  rintro e w2 ⟨rfl,hb⟩
  have HB2:=aA (yA (yB (uH HB1) hb) (.cells #[.int .i64 tx,.int .i64 ty] 36))
  have V2:=aA (((uH V1).below hb).al (.cells #[.int .i64 tx,.int .i64 ty] 36))
  have P2:=aA (((uH P1).below hb).al (.cells #[.int .i64 tx,.int .i64 ty] 36))
  have hX2:=((uH HTX).below hb).below (yA (yH _ _) (.cells #[.int .i64 tx,.int .i64 ty] 36))
  have T2:=aA (aH w2 36 tx ty)
  obtain ⟨po,pc,rfl,hcell⟩:=aF2 hX2
  have HC:=aA hcell
  clear hb q0 q1 q2 q3 q4 q5 q6 q7 V1 P1 HTX HB1 CT hX2 hcell
  obtain ⟨n,hn⟩:∃n,ps.length=n:=⟨_,rfl⟩
  rw [hn] at HPL HO ⊢
  have HN:=aA hn
  have hn2:n≤1048576:=uH HPL
  clear hn HPL
  obtain ⟨W2,hW2⟩:∃W,w2.alloc (.cells #[.int .i64 tx,.int .i64 ty] 36)=W:=⟨_,rfl⟩
  rw [hW2] at HB2 V2 P2 T2 HC
  have HW2:=aA hW2
  clear hW2
  go_wp2
  go_loopw [9] (fun i wr=>∃(k:Nat),k≤n∧i=.int .i64 k∧Hid ((decide (0<n)&&(ps.drop k).all rf)=o)∧Hid (Kp W2 wr)) (fun i _=>n - (intOf i).toNat)
  case atStart=>
    obtain rfl:=uH HW2
    exact ⟨0,Nat.zero_le _,rfl,HO,aA (Kp.new _)⟩
  case round=>
    obtain ⟨k,hk,rfl,HQ,HK⟩:=hrel
    have kq:=uH HK
    obtain ⟨q0,q1,q2,q3,q4,q5,q6,q7⟩:_∧_∧_∧_∧_∧_∧_∧_:=⟨kq.cell ((uH P2).at 0),kq.cell ((uH P2).at 1),kq.cell ((uH P2).at 2),kq.cell ((uH P2).at 3),kq.cell ((uH P2).at 4),kq.cell ((uH P2).at 5),kq.cell ((uH P2).at 6),kq.cell ((uH P2).at 7)⟩
    have r0:=kq.cell (uH V2).c0
    have r1:=kq.cell (uH V2).c1
    have t0:=kq.cell (uH T2).c0
    have t1:=kq.cell (uH T2).c1
    have HBr:=aA (yB (uH HB2) kq)
    clear kq
    by_cases hlt:k<n
    · have hkl:k<ps.length:=by have:=uH HN;omega
      obtain ⟨pg,rfl,hc0⟩:=uH HC k hkl
      have c0:=(uH HK).cell hc0
      have hst:(ps.drop k).all rf=(rf ps[k]&&(ps.drop (k+1)).all rf):=by rw [List.drop_eq_getElem_cons hkl,List.all_cons]
      have HST:=aA hst
      obtain ⟨nx,hs⟩:∃s,ps[k]=s:=⟨_,rfl⟩
      rw [hs] at c0 HST
      have HRF:=aA (uH HRA nx)
      have CUk:=aA (fun wx hb=>uH CU wx hb nx)
      have CMk:=aA (fun wx hb=>uH CM wx hb nx)
      obtain ⟨⟨ux,uy⟩,hu⟩:∃u,uf nx=u:=⟨_,rfl⟩
      obtain ⟨⟨mx,my⟩,hm⟩:∃u,mf nx=u:=⟨_,rfl⟩
      rw [hu] at CUk HRF
      rw [hm] at CMk HRF
      simp only at CUk CMk HRF
      have k0:(0:Int)≤k:=by omega
      have k1:(k:Int)<n:=by omega
      have CA:=aA (fun wx=>vV ux uy rx ry wx)
      obtain ⟨x',y',ok,hv⟩:∃x' y' ok,jQ 1 ux uy rx ry=rv x' y'∧aI 1 ux uy rx ry=ok∧(ok=true→x'=ux+1*rx∧y'=uy+1*ry):=by
        cases hb:aI 1 ux uy rx ry
        · exact ⟨0,0,_,kL hb,rfl,by simp⟩
        · exact ⟨_,_,_,kW hb,rfl,fun _=>⟨rfl,rfl⟩⟩
      have HVV:=aA hv.2.2
      rw [hv.1,hv.2.1] at CA
      rw [hv.2.1] at HRF
      have R:∀wx,Kp wr wx→wx.cell? ⟨w.heap.size,0,none⟩=some (.slice qa ql qc)∧wx.cell? ⟨w.heap.size,1,none⟩=some (.int .i64 clock)∧wx.cell? ⟨w.heap.size,2,none⟩=some (.int .i64 epoch)∧wx.cell? ⟨w.heap.size,3,none⟩=some (.int .i64 next)∧wx.cell? ⟨w.heap.size,4,none⟩=some (.int .i64 serial)∧wx.cell? ⟨w.heap.size,5,none⟩=some (.slice aa al ac)∧wx.cell? ⟨w.heap.size,6,none⟩=some (.slice ma ml mc)∧wx.cell? ⟨w.heap.size,7,none⟩=some (.slice ca cl cc)∧wx.cell? ⟨w.heap.size+1,0,none⟩=some (.int .i64 rx)∧wx.cell? ⟨w.heap.size+1,1,none⟩=some (.int .i64 ry)∧wx.cell? ⟨pg,k,none⟩=some (.string (bs nx)):=fun wx h=>
        ⟨h.cell q0,h.cell q1,h.cell q2,h.cell q3,h.cell q4,h.cell q5,h.cell q6,h.cell q7,h.cell r0,h.cell r1,h.cell c0⟩
      have A0:=aA (Kp.new wr)
      have HS:=aA (dE wr)
      have hwr:w.heap.size+1<wr.heap.size:=yG r0
      clear hc0 hkl hs hu hm hv hst
      go_wp2_with fail
      go_cut [10,11] from 24 to 34 (fun v7 v8 wx=>∃g,v7=.pointer (some ⟨g,0,none⟩)∧v8=.bool ok∧Kp wr wx∧Var wx 36 g x' y')
      case first=>
        go_region_held3 (fun wx=>Kp wr wx)
          (first | (with_reducible assumption) | exact uH SA | exact (uH HS).drew (uH A0) | exact (uH HS).al (uH SA) _ | exact (uH HS).al (by assumption) _ | exact (uH HS).al ((uH HS).drew (uH A0)) _ | exact (uH HS).call (by assumption) (by assumption) | exact (uH HS).set2 (uH SA) _ _ _ (by first | omega | (simp<;>omega)) | exact (uH HS).set2 (by assumption) _ _ _ (by first | omega | (simp<;>omega)))
          (first
          | (go_at_call 164;refine (uH CUk _ ?_).mono ?_;(exact yB (uH HBr) ((uH HS).below (by assumption)));rintro e wt ⟨rfl,hb⟩;have SA:=aA ((uH HS).call (by assumption) hb);have sz:=(uH HS).size (uH SA)
             first
               | (have V5:=(aH _ 36 0 0).below hb;(try simp at V5);have c50:=V5.c0;have c51:=V5.c1;have f50:=V5.f 0;have f51:=V5.f 1;have V5:=aA V5)
               | (have V5:=(aH _ 36 0 0).drew.below hb;(try simp at V5);have c50:=V5.c0;have c51:=V5.c1;have f50:=V5.f 0;have f51:=V5.f 1;have V5:=aA V5)
               | skip)
          | (go_at_call 129;refine (uH CA _).mono ?_;rintro e wt ⟨rfl,hb⟩;have SA:=aA ((uH HS).call (by assumption) hb);have sz:=(uH HS).size (uH SA)
             first
               | (have V5:=(aH _ 36 0 0).below hb;(try simp at V5);have c50:=V5.c0;have c51:=V5.c1;have f50:=V5.f 0;have f51:=V5.f 1;have V5:=aA V5)
               | (have V5:=(aH _ 36 0 0).drew.below hb;(try simp at V5);have c50:=V5.c0;have c51:=V5.c1;have f50:=V5.f 0;have f51:=V5.f 1;have V5:=aA V5)
               | (have V5:=aA ((uH V5).below hb);have c50:=(uH V5).c0;have c51:=(uH V5).c1;have f50:=(uH V5).f 0;have f51:=(uH V5).f 1)
               | skip))
        all_goals
          go_wp2_with fail
          go_meet
          exact ⟨_,rfl,rfl,by first | assumption | exact uH SA | exact (uH HS).al (uH SA) _,by first | exact aH _ _ _ _ | exact (uH V5).set _ _⟩
      case rest=>
        obtain ⟨g,rfl,rfl,hA,hV⟩:=hcut
        obtain ⟨w4,rfl⟩:∃w4,w4=wc:=⟨wc,rfl⟩
        have HK4:=aA (show Kp W2 w4 from yB (uH HK) hA)
        have HB4:=aA (yB (uH HBr) hA)
        have g0:=hA.cell q0
        have e0:=hA.cell t0
        have e1:=hA.cell t1
        have d0:=hA.cell c0
        have s0:=hV.c0
        have s1:=hV.c1
        clear hA hV A0 HS R CA CUk q0 q1 q2 q3 q4 q5 q6 q7 r0 r1 t0 t1 c0
        have A0:=aA (Kp.new w4)
        have HS:=aA (dE w4)
        obtain ⟨pv,hpv⟩:∃o,rf nx=o:=⟨_,rfl⟩
        rw [hpv] at HST HRF
        clear hpv
        go_wp2_with fail
        go_cut [49] from 35 to 48 (fun v49 wx=>v49=.bool (!pv)∧Kp w4 wx)
        case first=>
          cases ok with
          | false=>
            obtain rfl:pv=false:=by rw [uH HRF];rfl
            go_quiet (fail)
            all_goals
              go_wp2_with fail
              go_meet
              exact ⟨rfl,jR (yH _ _) _⟩
          | true=>
            obtain ⟨rfl,rfl⟩:=uH HVV rfl
            have HRF2:=aA (show pv=within (ux+1*rx) (uy+1*ry) mx my by rw [uH HRF];rfl)
            have CW:=aA (fun wx=>by have:=eX (ux+1*rx) (uy+1*ry) mx my wx;rw [←uH HRF2] at this;exact this)
            obtain ⟨sx,hsx⟩:∃a,ux+1*rx=a:=⟨_,rfl⟩
            obtain ⟨sy,hsy⟩:∃a,uy+1*ry=a:=⟨_,rfl⟩
            rw [hsx] at s0 CW
            rw [hsy] at s1 CW
            have R:∀wx,Kp w4 wx→wx.cell? ⟨w.heap.size,0,none⟩=some (.slice qa ql qc)∧wx.cell? ⟨w2.heap.size,0,none⟩=some (.int .i64 tx)∧wx.cell? ⟨w2.heap.size,1,none⟩=some (.int .i64 ty)∧wx.cell? ⟨pg,k,none⟩=some (.string (bs nx))∧wx.cell? ⟨g,0,none⟩=some (.int .i64 sx)∧wx.cell? ⟨g,1,none⟩=some (.int .i64 sy):=fun wx h=>⟨h.cell g0,h.cell e0,h.cell e1,h.cell d0,h.cell s0,h.cell s1⟩
            clear hsx hsy HRF HRF2 HVV
            go_region_held3 (fun wx=>Kp w4 wx)
              (first | (with_reducible assumption) | exact uH SA | exact (uH HS).drew (uH A0) | exact (uH HS).call (by assumption) (by assumption))
              (first
              | (go_at_call 165;refine (uH CMk _ ?_).mono ?_;(exact yB (uH HB4) ((uH HS).below (by assumption)));rintro e wt ⟨rfl,hb⟩;have SA:=aA ((uH HS).call (by assumption) hb))
              | (go_at_call 95;refine (uH CW _).mono ?_;rintro e wt2 ⟨rfl,hb⟩;have SA:=aA ((uH HS).call (by assumption) hb)))
            all_goals
              go_wp2_with fail
              go_meet
              exact ⟨rfl,by first | assumption | exact uH SA⟩
        case rest=>
          obtain ⟨rfl,hA⟩:=hcut
          have HK5:=aA (show Kp W2 wc from yB (uH HK4) hA)
          have HB5:=aA (yB (uH HB4) hA)
          clear hA g0 e0 e1 d0 s0 s1 A0 HS HVV
          cases pv with
          | true=>
            have HQ2:=aA (show (decide (0<n)&&(ps.drop (k+1)).all rf)=o by have:=uH HQ;rw [uH HST] at this;simpa using this)
            go_wp2
            go_roundw
            case rel=>exact ⟨k+1,by omega,by go_num,HQ2,HK5⟩
            case measure=>simp [intOf];omega
          | false=>
            obtain rfl:o=false:=by have:=uH HQ;rw [uH HST] at this;simpa using this.symm
            go_wp2
            go_ret
            exact ⟨rfl,uH HB5⟩
    · have ho:o=decide (0<n):=by have:=uH HQ;rw [List.drop_of_length_le (by have:=uH HN;omega)] at this;simpa using this.symm
      subst ho
      clear q0 q1 q2 q3 q4 q5 q6 q7 r0 r1 t0 t1
      go_wp2
      go_ret
      exact ⟨rfl,uH HBr⟩
end
end Go.Proofs.YtdhibeclkdepiaaGreat
