/-
  Texts in one: UByI, OkD.
-/
import Derived.Test.YtfndhndlkcijoaaGreatSackQ
import Derived.Maps.RangeWalk
import Derived.Test.YtfndhndlkcijoaaGreatSackR
set_option maxRecDepth 100000
set_option maxHeartbeats 16000000
set_option linter.unusedVariables false
set_option linter.unusedSimpArgs false
open Go.Proofs.Tryz
namespace Go.Proofs.YtfndhndlkcijoaaGreat
open Go.RowKit Go.Shelf
attribute [local go_sem] Oper.semAt_some
def kQ (l:List Q) (nm wt:List UInt8):Bool:=(ups l nm).any (fun q=>decide (q.name=wt))
theorem aEO {β:Type} (g:Nat) (arr:Array Value) (t:TypeId):Own (fun (_:β) W=>Blk W g arr t):=fun s X Y row hs hg hr=>
 (hg.block g (show Blk X g arr t from hs).lt (fun e=>by
  obtain ⟨o,ho,hc⟩:=hr g e.symm;rw [show X.heap[g]? = _ from hs] at ho;cases ho;cases hc)).trans hs
theorem aEh {β:Type} (p:β→Prop):Own (fun (s:β) (_:World)=>p s):=fun s X Y row hs _ _=>hs
theorem aB5 {β:Type} {I I':β→World→Prop} (h:Own I) (h':Own I'):Own (fun s W=>I s W∧I' s W):=fun s W W' row hs hg hr=>⟨h s W W' row hs.1 hg hr,h' s W W' row hs.2 hg hr⟩
set_option maxRecDepth 100000 in
set_option maxHeartbeats 4000000 in
theorem aDc (ao:Option Addr) (len cap:Nat) (l:List Q) (nm wt:List UInt8) (w:World) (h:gN w ao len l) (hl:len≤1048576) (hc:len≤cap) :
  cP 89 #[.slice ao len cap,.string (bs nm),.string (bs wt)] w fun e w'=>e=.returned (.bool (kQ l nm wt))∧Bw w w':=by
 have HR:=aA h;have hB4:=yA (yA (yA (yA (yH _ w) (.cells #[.string (bs wt)] 9)) (.cells #[.bool false] 4)) (.cells #[.slice ao len cap] 24)) (.cells #[.string (bs nm)] 9);have U0:=(((yD w #[.string (bs wt)] 9).al (.cells #[.bool false] 4)).al (.cells #[.slice ao len cap] 24)).al (.cells #[.string (bs nm)] 9);have Rw:=((yD (w.alloc (.cells #[.string (bs wt)] 9)) #[.bool false] 4).al (.cells #[.slice ao len cap] 24)).al (.cells #[.string (bs nm)] 9);have Vw:=((yD ((w.alloc (.cells #[.string (bs wt)] 9)).alloc (.cells #[.bool false] 4)) #[.slice ao len cap] 24).al (.cells #[.string (bs nm)] 9)).at 0;have Vy:=(yD (((w.alloc (.cells #[.string (bs wt)] 9)).alloc (.cells #[.bool false] 4)).alloc (.cells #[.slice ao len cap] 24)) #[.string (bs nm)] 9).at 0;have hsz:((((w.alloc (.cells #[.string (bs wt)] 9)).alloc (.cells #[.bool false] 4)).alloc (.cells #[.slice ao len cap] 24)).alloc (.cells #[.string (bs nm)] 9)).heap.size=w.heap.size+4:=by simp only [yE]
 rw [yE] at Rw;rw [yE,yE] at Vw;rw [yE,yE,yE] at Vy;obtain ⟨o,ho⟩:∃o,kQ l nm wt=o:=⟨_,rfl⟩;have HO:=aA ho;rw [ho];clear h ho;have hmx:Tryz.prog.follows .mixedOrders=true:=by kernel_rfl
 refine (callsIn_wide (n:=3)).1 ?_;refine callsIn_of_wp_marks func89 rfl trivial ?_ rfl;simp only [ntmps89,List.size_toArray,List.length_cons,List.length_nil,Nat.reduceAdd,Nat.reduceSub,Array.replicate_succ,Array.replicate_zero,List.push_toArray,List.append_toArray,List.nil_append,List.cons_append]
 gi_wp2_with fail
 refine ⟨trivial,?_⟩;first | refine ⟨(by intro e;cases e),?_⟩ | skip
 refine (callsIn_wide.2 (zV ao len cap nm _)).mono ?_;rintro e w2 ⟨rfl,rfl⟩
 gi_wp2
 obtain ⟨W0,hW0⟩:∃W0,(((w.alloc (.cells #[.string (bs wt)] 9)).alloc (.cells #[.bool false] 4)).alloc (.cells #[.slice ao len cap] 24)).alloc (.cells #[.string (bs nm)] 9)=W0:=⟨_,rfl⟩;rw [hW0] at hB4 U0 Rw Vw Vy hsz ⊢;have HC:=aA (qX (3 - 1) (w.heap.size+1+1) (w.heap.size+1+1+1) ao len cap l nm w W0 (uH HR) hB4 hl hc Vw Vy);clear hW0 Vw Vy;refine wpIn_rangeFunc_ownH rfl (by omega) (gf:=147) (lb:=#[.pointer (some ⟨w.heap.size+1+1,0,none⟩),.pointer (some ⟨w.heap.size+1+1+1,0,none⟩)]) rfl trivial (enters_of func147 (by kernel_rfl) rfl)
  (uH HC) aJv (aJw (by omega)) (yH _ _) (fun _=>rfl)
  (fun pre W=>((Blk W w.heap.size #[.string (bs wt)] 9∧Blk W (w.heap.size+1) #[.bool false] 4)∧(∀q ∈ pre,q.1.name≠wt))∧Bw w W)
  (fun c pre W=>(Blk W (w.heap.size+1) #[.bool true] 4∧(c=.ret∧∃q ∈ pre,q.1.name=wt))∧Bw w W)
  (OwnFrom.and (Own.from (aB5 (aB5 (aEO _ _ _) (aEO _ _ _)) (aEh (fun pre:List { q:Q // q ∈ l }=>∀q ∈ pre,q.1.name≠wt))) _) (ownFrom_below (yJ _) (by omega)))
  (fun c=>OwnFrom.and (Own.from (aB5 (aEO _ _ _) (aEh (fun pre:List { q:Q // q ∈ l }=>c=.ret∧∃q ∈ pre,q.1.name=wt))) _) (ownFrom_below (yJ _) (by omega)))
  ⟨⟨⟨U0,Rw⟩,by simp⟩,hB4⟩
  (fun x a' W=>∃Bx,w.heap.size+1<Bx∧mZ W Bx x.1∧a' = { tmps:=#[.slice ao len cap,.string (bs nm),.string (bs wt),undef,undef,.pointer (some ⟨w.heap.size,0,none⟩),.pointer (some ⟨w.heap.size+1,0,none⟩),.pointer (some ⟨Bx,0,none⟩),.slice ao len cap,.string (bs nm),.func (.func 147) #[] #[.pointer (some ⟨w.heap.size+1+1,0,none⟩),.pointer (some ⟨w.heap.size+1+1+1,0,none⟩)],qv x.1,undef,undef,undef,undef],defers:=[] })
  (fun x a' _ X Y row hs hg hr=>by
   obtain ⟨Bx,h1,h2,h3⟩:=hs;refine ⟨Bx,h1,(hg.block Bx h2.lt (fun e=>?_)).trans h2,h3⟩;obtain ⟨_,o,ho,hc⟩:=hr Bx e.symm;rw [show X.heap[Bx]? = _ from h2] at ho;cases ho;cases hc)
  ?assign ?body ?done ?stop
 case assign=>
  rintro lp pre x W K ⟨⟨⟨k5,k6⟩,hne⟩,hB⟩ hK;have hlt:=k6.lt
  gi_wp2
  exact hK _ _ ((KeepsOthers.alloc _ _).from _) (aEs hB.size (yA (yH _ W) _)) ⟨⟨⟨k5.al _,k6.al _⟩,hne⟩,yA hB _⟩ ⟨W.heap.size,hlt,mZ.new W x.1,rfl⟩
 case body=>
  rintro lp pre ⟨q,hq⟩ a' W hlp _ ⟨⟨⟨k5,k6⟩,hne⟩,hB⟩ ⟨Bx,hBx,hX,rfl⟩ hlt;simp only at hX;have hx0:=hX.c0;have c5:=k5.at 0;have c6:=k6.at 0;have f6:=k6.f 0;simp at c5 c6;have hbe:=mQ q.name wt;have K5:=aA k5;have K6:=aA k6;have Qy:=aA hne;have HB:=aA hB;clear k5 k6 hne hB hX;by_cases he:q.name=wt
  ·have HE:=aA he;rw [decide_eq_true he] at hbe;clear he
   gi_wp2
   refine ⟨(KeepsOthers.setCell _ _ _).from _,⟨?_,rfl,⟨q,hq⟩,by simp,uH HE⟩,yC (uH HB) _ _ _ (by omega)⟩;have:=(uH K6).set 0 (.bool true);simpa using this
  ·have HE:=aA he;rw [decide_eq_false he] at hbe;clear he
   gi_wp2
   refine ⟨KeepsFrom.refl _ _,aEs (uH HB).size (yH _ _),⟨⟨uH K5,uH K6⟩,?_⟩,uH HB⟩;intro z hz;rcases List.mem_append.1 hz with hz | hz
   ·exact uH Qy z hz
   ·(have:z=⟨q,hq⟩:=by simpa using hz);rw [this];exact uH HE
 case done=>
  rintro D ys W hD hys ⟨⟨⟨k5,k6⟩,hne⟩,hB⟩ hK;have c6:=k6.at 0;have f6:=k6.f 0;simp at c6;have QJ:o=false:=by rw [←uH HO,kQ,←hys,List.any_eq_false];intro z hz;obtain ⟨q,hq,rfl⟩:=List.mem_map.1 hz;simpa using hne q hq
  subst QJ;have K6:=aA k6;have HB:=aA hB;have HK:=aA hK;have Dw:D≠w.heap.size+1:=by omega
  clear k5 k6 hne hB hK
  gi_wp2
  have e2:=(KeepsOthers.setCell W ⟨w.heap.size+1,0,none⟩ (.bool false)).same D _ (uH HK) rfl;refine ⟨by simp,.inl ⟨_,_,rfl,run_takeDeferred e2,?_⟩⟩;have KF:Blk _ (w.heap.size+1) _ _:=(World.putObj_heap_other (o:=.deferred none) (w:=W.setCell ⟨w.heap.size+1,0,none⟩ (.bool false)) (Ne.symm Dw)).trans ((uH K6).set 0 (.bool false));have r0:=KF.at 0;simp at r0;exact ⟨.bool false,(by simp [results,results89,go_sem,r0]),rfl,(yC (uH HB) _ _ _ (by omega)).trans (belowK_b (w:=w) (yJ _) _ D _ _ (by omega) e2 rfl rfl)⟩
 case stop=>
  rintro D c pre W hD KE ⟨⟨k6,rfl,q,hq,he⟩,hB⟩ hK;have QJ:o=true:=by rw [←uH HO,kQ,List.any_eq_true];exact ⟨q.1,KE.subset (List.mem_map_of_mem hq),by simpa using he⟩
  subst QJ;have K6:=aA k6;have HB:=aA hB;have HK:=aA hK;have Dw:D≠w.heap.size+1:=by omega
  clear k6 hB hK
  gi_wp2
  refine ⟨by simp,.inl ⟨_,_,rfl,run_takeDeferred (uH HK),?_⟩⟩;have KF:Blk _ (w.heap.size+1) _ _:=(World.putObj_heap_other (o:=.deferred none) (w:=W) (Ne.symm Dw)).trans (uH K6);have r0:=KF.at 0;simp at r0;exact ⟨.bool true,(by simp [results,results89,go_sem,r0]),rfl,(uH HB).trans (belowK_b (w:=w) (yJ _) _ D _ _ (by omega) (uH HK) rfl rfl)⟩
end Go.Proofs.YtfndhndlkcijoaaGreat
namespace Go.Proofs.YtfndhndlkcijoaaGreat
open Go.RowKit
set_option maxRecDepth 100000 in
set_option maxHeartbeats 4000000 in
theorem aDY (bm:Nat) (p:Con→Bool) (x:Sls) (s:St) (w:World) (h:dC w x.ca x.cl s.cs) (hl:x.cl≤1048576)
  (hp:∀wx q,q ∈ s.cs→Bw w wx→cP 91 #[.map (some bm),conv q] wx fun e w'=>e=.returned (.bool (p q))∧Bw wx w') :
  cP 90 #[sv x s,.func (.func 91) #[.map (some bm)] #[]] w fun e w'=>e=.returned (rv (iY (aP p s.cs)).1 (iY (aP p s.cs)).2.1)∧Bw w w':=by
 obtain ⟨i0,hi,hz0,hz1,hz2⟩:=info_parts Tryz.infoR;have eg:=enters_of func91 (by kernel_rfl) rfl;obtain ⟨qa,ql,qc,aa,al,ac,ma,ml,mc,ca,cl,cc⟩:=x;obtain ⟨qs,cv,ez,nv,sj,aj,ms,cs⟩:=s;simp only at h hl ⊢;have HR:=aA h;have HL:=aA h.1;have HP:=aA hp;obtain ⟨c,hc⟩:∃c:Array Value,#[.slice qa ql qc,.int .i64 cv,.int .i64 ez,.int .i64 nv,.int .i64 sj,.slice aa al ac,.slice ma ml mc,.slice ca cl cc]=c:=⟨_,rfl⟩;have HC:=aA hc;have HB0:=aA (dM w c);have V0:=aA (jL w c);have HW:=aA (sP w c);clear h hc hp;obtain ⟨⟨sx,sy,so⟩,hs⟩:∃s,iY (aP p cs)=s:=⟨_,rfl⟩;have HS:=aA hs;rw [hs];clear hs;go_enter func90,ntmps90;go_wp2;go_loopw [5,13] (fun v i wr=>∃(k:Nat),k≤cl∧i=.int .i64 k∧Hid (aAB (uI w c).heap.size wr v (aP p (cs.take k)))∧Hid (Below (uI w c).heap.size (uI w c) wr)) (fun _ i _=>cl - (intOf i).toNat);case atStart=>obtain rfl:=uH HC;exact ⟨0,Nat.zero_le _,rfl,aA (by simpa [aP] using aB0 _ _),aA (yH _ _)⟩
 case round=>
  obtain ⟨k,hk,rfl,HO,HB⟩:=hrel;by_cases hlt:k<cl
  ·obtain ⟨b,off,rfl,hq⟩:=(((uH HR).below (uH HB0)).below (uH HB)).at hlt;(have hkl:k<cs.length:=by have:=uH HL;omega);have hst:=o7 (p:=p) hkl;obtain ⟨c0,c1,c2,c3,c4⟩:=hq hkl;obtain ⟨m,hs⟩:∃q,cs[k]=q:=⟨_,rfl⟩;rw [hs] at c0 c1 c2 c3 c4 hst;(have hal:(aP p (cs.take k)).length≤1048576:=by have:=wJ (p:=p) (cs.take k);simp at this;omega);obtain ⟨acc,QC⟩:∃a,aP p (cs.take k)=a:=⟨_,rfl⟩;rw [QC] at hst hal HO;obtain ⟨id,ap,nd,me,cp⟩:=m;simp only at c0 c1 c2 c3 c4 hst;have QZ:=aA (yA (yH _ wr) (aDH ⟨id,ap,nd,me,cp⟩));have QY:=aA (uH HP (wr.alloc (aDH ⟨id,ap,nd,me,cp⟩)) ⟨id,ap,nd,me,cp⟩ (by rw [←hs];exact yM _) (yB (yB (uH HB0) (uH HB)) (uH QZ)));have KB:=aA (yD wr #[.int .i64 id,.int .i64 ap,.string (bs nd),.int .i64 me,.int .i64 cp] 35);clear hq hs hkl QC;cases hpq:p ⟨id,ap,nd,me,cp⟩ with
   | true=>
    rw [hpq] at QY;rw [hpq,if_pos rfl] at hst;have HST:=aA hst;clear hpq hst;go_wp2_with (first
     | ((first | go_at_call 91 | go_at_fn 91);refine (uH QY).mono ?_;rintro e w1 ⟨rfl,hb⟩;have HB1:=aA (yB (yB (uH HB) (uH QZ)) hb);have ZE:=aA (((uH HO).below (uH QZ)).below hb);have b1:=(uH KB).below hb;have q3:=b1.at 3;have q4:=b1.at 4;simp at q3 q4;have hs2:(uI w c).heap.size≤w1.heap.size:=(uH HB1).size;have Hz:w1.ownsRow (uI w c).heap.size 33 2 _ acc.length (jB acc):=uH ZE;clear b1 hb QY c0 c1 c2 c3 c4 HO HB)
     | (at_builtin;refine wpList_append_own _ rfl _ _ 114 rfl (uI w c).heap.size 33 i0 (.agg #[.int .i64 0,.int .i64 0]) 2 16 underlying114 hi hz0 hz1 hz2 rfl (by decide) _ _ _ rfl (Hz.alloc _) ⟨w1.heap.size,0,none⟩ 1 1 (aAH (me,cp)) rfl rfl ?c1 ?c2 ?c3 ?c4 ?c5 ?_))
    case c1=>
     intro j x hj
     match j,hj with
     | 0,hj=>simp at hj;subst hj;simp [Addr.add]
     | 1,hj=>simp at hj;subst hj;simp [Addr.add]
     | _+2,hj=>simp at hj
    (case c2=>intro x hx;simp at hx;rcases hx with rfl | rfl<;>rfl);(case c3=>unfold maxLen;omega);(case c4=>omega);(case c5=>simp at hs2 ⊢;omega);intro v' w3 Hy Hw _;have R:=mH (q:=(me,cp)) (uH HB1) (uH ZE) Hy Hw hs2;have HR3:=aA R;clear Hy Hw Hz R q3 q4;go_wp2;go_roundw;(case rel=>exact ⟨k+1,by omega,by go_num,aA (by rw [uH HST];exact (uH HR3).1),aA (uH HR3).2⟩);case measure=>simp [intOf];omega
   | false=>rw [hpq] at QY;rw [hpq,if_neg (by simp)] at hst;have HST:=aA hst;clear hpq hst;(go_wp2_with ((first | go_at_call 91 | go_at_fn 91);refine (uH QY).mono ?_;rintro e w1 ⟨rfl,hb⟩;have HB1:=aA (yB (yB (uH HB) (uH QZ)) hb);have ZE:=aA (((uH HO).below (uH QZ)).below hb);clear hb QY c0 c1 c2 c3 c4 HO HB));go_roundw;(case rel=>exact ⟨k+1,by omega,by go_num,aA (by rw [uH HST];exact uH ZE),HB1⟩);case measure=>simp [intOf];omega
  ·have htk:cs.take k=cs:=List.take_of_length_le (by have:=uH HL;omega);rw [htk] at HO;obtain ⟨ao,cp,rfl,Hq,hcp⟩:=(uH HO).row;(have hlc:(aP p cs).length≤1048576:=by have:=wJ (p:=p) cs;have:=uH HL;omega);have CT:=aA (oF ao _ cp (aP p cs) wr Hq hlc);rw [uH HS] at CT;obtain ⟨n,hn⟩:∃n,(aP p cs).length=n:=⟨_,rfl⟩;rw [hn] at CT ⊢;clear Hq hn htk hcp hlc HO;(go_wp2_with fail);refine (uH CT).mono ?_;rintro e w1 ⟨rfl,hb⟩;(have hsz:w.heap.size+1<(uI w c).heap.size:=by have:=uH HW;omega);have V1:Var w1 33 (w.heap.size+1) 0 0:=Var.below ((uH HB).block _ hsz |>.trans (uH V0)) hb;have HB1:=aA (yB (yB (uH HB0) (uH HB)) hb);have V2:=V1.al (.cells #[.int .i64 sx,.int .i64 sy] 33);have t0:=V2.c0;have t1:=V2.c1;have f0:=V2.f 0;have f1:=V2.f 1;have VG:=V2.set sx sy;have k6:=VG.c0;have k7:=VG.c1;clear hb V1 V2 VG CT HB HB0;go_wp2;refine bodyPost_ret (v:=rv sx sy) (by simp [results,results90,go_sem,k6,k7]) rfl ⟨rfl,?_⟩;repeat (first | exact uH HB1 | refine yA ?_ _ | refine yC ?_ _ _ _ (by omega))
end Go.Proofs.YtfndhndlkcijoaaGreat
namespace Go.Proofs.YtfndhndlkcijoaaGreat
open Go.RowKit Go.Maps
set_option maxRecDepth 100000 in
theorem yU {n:Nat} {cs:List Value} {ls:List Lit} (h:Tryz.prog.keyLits (n+1) 9 cs=some ls):∃s,cs=[.string s]:=by
 unfold Program.keyLits at h;rw [underlying9] at h;split at h<;>simp_all
set_option maxRecDepth 100000 in
theorem yV {n:Nat} {cs:List Value} {ls:List Lit} (h:Tryz.prog.keyLits (n+1) 3 cs=some ls):∃k,cs=[.int .i64 k]:=by
 unfold Program.keyLits at h;rw [underlying3] at h;split at h<;>simp_all
set_option maxRecDepth 100000 in
theorem aHJ {key:Value} {kl:Lit} (h:keyOf Tryz.prog 124 key=some kl):∃x:List UInt8×Int,key=q9 x.1 x.2:=by
 have hu:=underlying124;obtain ⟨m,hm⟩:=vE;unfold keyOf at h;rw [hu] at h;simp only at h;split at h
 ·rename_i hf;rw [yK] at hf;have hf2:=hf.2;cases key with
  | agg cs=>
   simp only [Value.formed,hu,aBe] at hf2;obtain ⟨l⟩:=cs;have hl:l.length=2:=by simpa using hf2
   match l,hl with
   | [c0,c1],_=>
    rw [hm,show (Value.agg #[c0,c1]).cells.toList=[c0,c1] from rfl] at h;cases hk:Tryz.prog.keyLits (m+2) 124 [c0,c1] with
    | none=>rw [hk] at h;simp at h
    | some ls=>
     unfold Program.keyLits at hk;rw [hu] at hk;simp only at hk;split at hk
     ·simp [yX,yT] at hk;cases h0:Tryz.prog.keyLits (m+1) 9 [c0] with
      | none=>rw [h0] at hk;simp at hk
      | some l0=>
       cases h1:Tryz.prog.keyLits (m+1) 3 [c1] with
       | none=>rw [h0,h1] at hk;simp at hk
       | some l1=>obtain ⟨s,e0⟩:=yU h0;obtain ⟨k,e1⟩:=yV h1;simp at e0 e1;subst e0 e1;exact ⟨(s.data.toList,k),by simp [q9,aEM]⟩
     ·cases hk
  | _=>simp [Value.formed,hu] at hf2
 ·cases h
theorem aDs {D:DataW Unit} {left:Lit→Bool} {kl:Lit} (hkl:WideAt.IsKeyLit kl) (h:∀z,left z=true→Maps.has D z=true):∀z,(left z&&!z.sameKey kl)=true→Maps.has (D.del kl) z=true:=fun z hz=>by
 simp only [yK,Bool.not_eq_true'] at hz;rw [has_del_other (fun e=>by subst e;rw [WideAt.sameKey_self hkl] at hz;cases hz.2)];exact h z hz.1
theorem aGz {D:DataW Unit} {left:Lit→Bool} {kl:Lit} (h:∀z,left z=true→Maps.has D z=true):∀z,(left z&&!z.sameKey kl)=true→Maps.has D z=true:=fun z hz=>by
 simp only [yK] at hz;exact h z hz.1
theorem aKE {s:St} {hs:List AV} {w:World} (hh:lQ w hs s.apps) (ho:aH s.qs=true) (nm:List UInt8) (q:Con):aHU hs (fun v=>kQ s.qs v.queue nm) q=byQ s nm q:=by
 have e:=aAz (id:=q.app) hh.1 (fun i a b=>⟨(hh.2 i a b).1,(hh.2 i a b).2.1⟩);unfold aHU byQ;cases h1:kX q.app hs with
 | none=>
  cases h2:dH q.app s.apps with
  | none=>rfl
  | some a=>rw [h1,h2] at e;cases e
 | some v=>
  cases h2:dH q.app s.apps with
  | none=>rw [h1,h2] at e;cases e
  | some a=>rw [h1,h2] at e;(have e':v.queue=a.queue:=by simpa using e);simp only [aKV];rw [kQ,e',←aBO ho,List.any_map];rfl
theorem aIv {s:St} (ho:aH s.qs=false) (nm:List UInt8) (q:Con):byQ s nm q=false:=by
 unfold byQ;cases dH q.app s.apps with
 | none=>rfl
 | some a=>simp [path,ho]
theorem aFG {p:Con→Bool} {l:List Con} (h:∀q,p q=false):aP p l=[]:=by
 have:l.filter p=[]:=by rw [List.filter_eq_nil_iff];intro a _;simp [h a]
 simp [aP,this]
theorem aDX {p p':Con→Bool} {l:List Con} (h:∀q,p q=p' q):aP p l=aP p' l:=by rw [show p=p' from funext h]
set_option maxRecDepth 100000 in
set_option maxHeartbeats 4000000 in
theorem l8 (x:Sls) (s:St) (nm:List UInt8) (w:World) (h:iL w x s) (hf:bH s) (hc:x.ql≤x.qc) (hw:nY s) :
  cP 28 #[sv x s,.string (bs nm)] w fun e w'=>e=.returned (rv (aL s nm).1 (aL s nm).2)∧Bw w w':=by
 have ZK:∀(fn:Fn) (first cap:Array Value) (w:World),(Instr.makeFunc fn first cap).run Tryz.prog w=.ok (.func fn first cap) w:=fun _ _ _ _=>rfl
 have Gq:x.ql≤1048576:=by have:=h.len.1;have:=hf.1.1;omega
 have hal:x.al≤1048576:=by have:=h.len.2.1;have:=hf.2.1.1;omega
 have hcl:x.cl≤1048576:=by have:=h.len.2.2.2;have:=hf.2.2.2.1;omega
 obtain ⟨hs,ZB,hh⟩:=h.2.1.heads;have CQ:=aA (fun wx (hb:Bw w wx)=>fJ x.qa x.ql x.qc s.qs wx (h.1.below hb) Gq (fun q hq=>(hf.1.2 q hq).1) hc);have CM:=aA (fun wx (hb:Bw w wx)=>aHm x s hs wx (ZB.below hb) hal (aEy hh hw.1));have CR:=aA (fun wx (hb:Bw w wx) (qu:List UInt8)=>aDc x.qa x.ql x.qc s.qs qu nm wx (h.1.below hb) Gq hc);have CU:=aA (fun (bm n:Nat) (D:DataW Unit) wx (hb:Bw w wx) (Hz:wx.ownsMap Tryz.prog 124 fU bm n D) (hk:gD hs (fun _ v=>kQ s.qs v.queue nm) D)=>aDY bm (aHU hs (fun v=>kQ s.qs v.queue nm)) x s wx (h.2.2.2.below hb) hcl
  (fun wy q hq hy=>aHS bm n D hs (fun v=>kQ s.qs v.queue nm) q wy (dP Hz hy) hk (hw.2 q hq)))
 have GQ:=aA (fun ho:aH s.qs=true=>aDX (l:=s.cs) (aKE hh ho nm));have Gz:=aA (fun ho:aH s.qs=false=>aFG (l:=s.cs) (aIv ho nm));have HV:=aA (show aL s nm=((iY (aP (byQ s nm) s.cs)).1,(iY (aP (byQ s nm) s.cs)).2.1) from rfl);obtain ⟨⟨ux,uy⟩,hu⟩:∃u,aL s nm=u:=⟨_,rfl⟩;rw [hu] at HV ⊢;obtain ⟨o,ho⟩:∃o,aH s.qs=o:=⟨_,rfl⟩;rw [ho] at CQ GQ Gz;clear h hf hc hw hu ho ZB hh;obtain ⟨qa,ql,qc,aa,al,ac,ma,ml,mc,ca,cl,cc⟩:=x;obtain ⟨qs,cv,ez,nv,sj,aj,ms,cs⟩:=s;simp only at CQ CM CR CU GQ Gz HV Gq hal hcl;have HB0:=aA (dM w (svc ⟨qa,ql,qc,aa,al,ac,ma,ml,mc,ca,cl,cc⟩ ⟨qs,cv,ez,nv,sj,aj,ms,cs⟩));have V0:=aA (jL w (svc ⟨qa,ql,qc,aa,al,ac,ma,ml,mc,ca,cl,cc⟩ ⟨qs,cv,ez,nv,sj,aj,ms,cs⟩));have P0:=aA ((gB w (svc ⟨qa,ql,qc,aa,al,ac,ma,ml,mc,ca,cl,cc⟩ ⟨qs,cv,ez,nv,sj,aj,ms,cs⟩)).al (.cells #[.int .i64 0,.int .i64 0] 33));go_enter func28,ntmps28;go_wp2_with fail;refine (uH CQ _ (uH HB0)).mono ?_;rintro e w1 ⟨rfl,hb⟩;have HB1:=aA (yB (uH HB0) hb);have V1:=aA ((uH V0).below hb);have P1:=aA ((uH P0).below hb);clear hb HB0 V0 P0 CQ;cases o with
 | false=>have hz:=uH HV;rw [uH Gz (by first | rfl | trivial)] at hz;simp only [iY,aZ,Prod.mk.injEq] at hz;obtain ⟨rfl,rfl⟩:=hz;have V2:=uH V1;have t0:=V2.c0;have t1:=V2.c1;have f0:=V2.f 0;have f1:=V2.f 1;have k4:=V2.s0 (.int .i64 0);have k5:=V2.s1 (.int .i64 0) (.int .i64 0);clear V2;go_wp2;refine bodyPost_ret (v:=rv 0 0) (by simp [results,results28,go_sem,k4,k5]) rfl ⟨rfl,?_⟩;repeat (first | exact uH HB1 | refine yA ?_ _ | refine yC ?_ _ _ _ (by omega))
 | true=>
  have HE:=aA (uH GQ (by first | rfl | trivial));have Z7:=aA (show (ux,uy)=((iY (aP (aHU hs (fun v=>kQ qs v.queue nm)) cs)).1,(iY (aP (aHU hs (fun v=>kQ qs v.queue nm)) cs)).2.1) by rw [uH HE];exact uH HV);rw [show (iY (aP (aHU hs (fun v=>kQ qs v.queue nm)) cs)).1=ux from (congrArg Prod.fst (uH Z7)).symm,show (iY (aP (aHU hs (fun v=>kQ qs v.queue nm)) cs)).2.1=uy from (congrArg Prod.snd (uH Z7)).symm] at CU;clear HV GQ Gz HE Z7;obtain ⟨q0,q1,q2,q3,q4,q5,q6,q7⟩:_∧_∧_∧_∧_∧_∧_∧_:=⟨(uH P1).at 0,(uH P1).at 1,(uH P1).at 2,(uH P1).at 3,(uH P1).at 4,(uH P1).at 5,(uH P1).at 6,(uH P1).at 7⟩;simp at q0 q1 q2 q3 q4 q5 q6 q7;have hpl:=(uH P1).lt;have hvl:=(uH V1).lt;go_wp2_with fail;refine (uH CM _ (uH HB1)).mono ?_;rintro e w2 ⟨bm,rfl,⟨Xw,D0,Hz,hkn⟩,hb⟩;have HB2:=aA hb;have Zk:=aA hkn;clear q0 q1 q2 q3 q4 q5 q6 q7 hb hkn CM;go_wp2_with (first
   | (at_range;refine wpList_range_own _ rfl _ 121 rfl 124 56 kS underlying121 _ bm hs.length D0 rfl Hz ?_;intro w3 hrg0 hg0 hs0)
   | go_in)
  go_frame
  have BK:w1.heap.size≤w2.heap.size:=(uH HB2).size;have HB3:=aA (show Bw w1 w3 from (uH HB2).grown hg0 BK (fun k e=>by cases e));have jy:=aA hrg0;obtain ⟨r,hr⟩:∃r,w2.heap.size=r:=⟨_,rfl⟩;rw [hr] at jy BK ⊢;have hwa:w.heap.size≤w1.heap.size:=(uH HB1).size;clear hrg0 hg0 hs0 HB2 Hz hr;go_loopw [6] (fun _ wr=>∃(left:Lit→Bool) (cnt:Nat) (D:DataW Unit),Hid (wr.ranges Tryz.prog 124 fU bm r hs.length D left cnt)∧Hid (gD hs (fun kl v=>left kl||kQ qs v.queue nm) D)∧Hid (∀z,left z=true→Maps.has D z=true)∧Hid (Bw w1 wr)) (fun _ wr=>wr.rangeLeft bm r);case atStart=>exact ⟨_,_,D0,jy,aA ⟨(uH Zk).1,fun v kl h1 h2=>by have:=(uH Zk).2 v kl h1 h2;simp only at this ⊢;rw [this];rfl⟩,aA (fun z h=>h),HB3⟩
  case round=>
   obtain ⟨left,cnt,D,UD,JY,JW,QO⟩:=hrel;have hrg:=uH UD;clear jy Zk HB3;go_wp2_with (first
    | (at_next;refine wpList_next_ranges _ rfl _ rfl 124 kS fU (fun x:List UInt8×Int=>q9 x.1 x.2) avv (fun key kl GG=>aHJ GG) (fun v y hv=>nT hv) bm r hs.length D left cnt rfl hrg ?_ ?_)
    | go_in)
   ·intro _ hl0;have HKF:=aA (show gD hs (fun _ v=>kQ qs v.queue nm) D from ⟨(uH JY).1,fun v kl h1 h2=>by have:=(uH JY).2 v kl h1 h2;simp only [hl0,Bool.false_or] at this;exact this⟩);have PB:=(uH P1).below (uH QO);obtain ⟨q0,q1,q2,q3,q4,q5,q6,q7⟩:_∧_∧_∧_∧_∧_∧_∧_:=⟨PB.at 0,PB.at 1,PB.at 2,PB.at 3,PB.at 4,PB.at 5,PB.at 6,PB.at 7⟩;simp at q0 q1 q2 q3 q4 q5 q6 q7;have HVB:=aA ((uH V1).below (uH QO));have MQ:=aA (yB (uH HB1) (uH QO));have HOW:=aA hrg.owns;clear UD JY JW hrg hl0 PB CR;(go_wp2_with fail);refine (uH CU bm hs.length D _ (uH MQ) (uH HOW) (uH HKF)).mono ?_;rintro e w5 ⟨rfl,hb⟩;have V2:=(uH HVB).below hb;have GZ:=aA (yB (uH MQ) hb);have t0:=V2.c0;have t1:=V2.c1;have f0:=V2.f 0;have f1:=V2.f 1;have k4:=V2.s0 (.int .i64 ux);have k5:=V2.s1 (.int .i64 ux) (.int .i64 uy);clear V2 hb q0 q1 q2 q3 q4 q5 q6 q7;go_wp2;refine bodyPost_ret (v:=rv ux uy) (by simp [results,results28,go_sem,k4,k5]) rfl ⟨rfl,?_⟩;repeat (first | exact uH GZ | refine yA ?_ _ | refine yC ?_ _ _ _ (by omega))
   ·(rintro x1 x2 ⟨id,qu,zo,zl,zc⟩ kl y1 y2 w4 cnt1 GG hlk hR hat hrg1 hlt hg1 hs1 hen;obtain ⟨LB,UZ⟩:Hid (kX id hs=some ⟨id,qu,zo,zl,zc⟩)∧Hid (keyOf Tryz.prog 124 (q9 [] id)=some kl):=by obtain ⟨v,hf,hkv,ZB⟩:=(uH JY).1 kl (uH JW kl hlk);rw [mR] at hR;have e:=aHq ((ZB (.map [])).symm.trans ((hat (.map [])).trans (congrArg Prod.fst (Option.some.inj hR)).symm));subst e;exact ⟨aA hf,aA hkv⟩);have UY:=aA (show keyOf Tryz.prog 124 (q9 x1 x2)=some kl from GG);have HR1:=aA hrg1;have FY:=aA hlt;have GD:=aA (show Bw w1 w4 from (uH QO).grown hg1 (uH QO).size (fun k e=>by cases e;omega));obtain ⟨b,hbb⟩:∃b,kQ qs qu nm=b:=⟨_,rfl⟩;have CRq:=aA (fun wx (hb:Bw w wx)=>by have:=uH CR wx hb qu;rw [hbb] at this;exact this);have MQ:=aA hbb;have PB:=(uH P1).below (uH GD);have q0:=PB.at 0;simp at q0;have q0b:=(PB.al (.cells #[.string (bs x1),.int .i64 x2] 124)).at 0;have q0c:=((PB.al (.cells #[.string (bs x1),.int .i64 x2] 124)).al (.cells #[.int .i64 id,.string (bs qu),.slice zo zl zc] 56)).at 0;simp at q0b q0c;clear GG hR hat hrg1 hlt hg1 hs1 hlk hbb PB CR CU;(go_wp2_with fail);refine (uH CRq _ ?_).mono ?_
    ·exact yA (yA (yB (uH HB1) (uH GD)) _) _
    rintro e w5 ⟨rfl,hb⟩;have GZ:=aA (yB (yA (yA (yH _ w4) (.cells #[.string (bs x1),.int .i64 x2] 124)) (.cells #[.int .i64 id,.string (bs qu),.slice zo zl zc] 56)) hb);have KB:=((yD w4 #[.string (bs x1),.int .i64 x2] 124).al (.cells #[.int .i64 id,.string (bs qu),.slice zo zl zc] 56)).below hb;have z0:=KB.at 0;have z1:=KB.at 1;simp at z0 z1;have PL:=aA ((uH HR1).kept (aI (aF w4 none) (uH GZ)) (by simp) (by simp));have QU:=aA (show Bw w1 w5 from yB (uH GD) (uH GZ));clear hb KB CRq q0 q0b q0c hen HR1;cases b with
    | true=>have HST:=aA ((uH JY).stay (v:=⟨id,qu,zo,zl,zc⟩) (uH LB) (uH UZ) (uH MQ));go_wp2;go_roundw;(case rel=>exact ⟨_,cnt1,D,PL,HST,aA (aGz (uH JW)),QU⟩);case measure=>rw [(uH PL).left_eq,hrg.left_eq];exact uH FY
    | false=>
     have HST:=aA ((uH JY).strike (v:=⟨id,qu,zo,zl,zc⟩) (uH LB) (uH UZ) (uH MQ));have BX:=uH PL;go_wp2_with (first
      | (at_delete;refine wpList_delete_ranges _ rfl _ _ 121 124 rfl 56 kS underlying121 _ bm r hs.length _ _ _ rfl BX _ _ rfl (uH UY) ?_;intro w6 cnt2 hrg6 hle hturn;go_frame)
      | go_in)
     rw [strike_twice] at hrg6;have ZV:=aA (show Bw w1 w6 from (uH QU).grown hturn.grown (uH QU).size (fun k e=>by cases e;omega));have UG:=aA hrg6;have NN:=aA hle;clear hturn BX hrg6 hle;go_roundw;(case rel=>exact ⟨_,cnt2,_,UG,HST,aA (aDs (kS.key (uH UY)) (uH JW)),ZV⟩);case measure=>rw [(uH UG).left_eq,hrg.left_eq];have:=uH NN;have:=uH FY;omega
end Go.Proofs.YtfndhndlkcijoaaGreat
namespace Go.Proofs.YtfndhndlkcijoaaGreat
section
open Go.RowKit
variable {ck:Int} {l:List Mac} {last:List UInt8} {k:Nat}
def leT (a b:List UInt8):Bool:=Op.bytesLess (bs a).toList (bs b).toList||((bs a).toList==(bs b).toList)
def cO (ck:Int):List UInt8→List Mac→Bool
 | _,[]=>true
 | last,m::t=>!leT m.name last&&(bP m.name&&(decide (0≤m.seen)&&(decide (m.seen≤ck)&&cO ck m.name t)))
def nI (s:St):Bool:=decide (s.ms.length≤20)&&(cO s.clock [] s.ms&&(iY (bG s.ms)).2.2)
theorem aAO (h:k<l.length):cO ck last (l.drop k)=(!leT l[k].name last&&(bP l[k].name&&(decide (0≤l[k].seen)&&(decide (l[k].seen≤ck)&&cO ck l[k].name (l.drop (k+1)))))):=by
 rw [List.drop_eq_getElem_cons h,cO]
theorem aB9 (h:l.length≤k):cO ck last (l.drop k)=true:=by
 rw [List.drop_of_length_le h];rfl
theorem aAP (x:Sls) (s:St) (w:World) (h:iL w x s) (hf:bH s) :
  cP 81 #[sv x s] w fun e w'=>e=.returned (.bool (nI s))∧Bw w w':=by
 have GJ:x.ml≤1048576:=by have:=h.len.2.2.1;have:=hf.2.2.1.1;omega
 have HR:=aA h.2.2.1;have HL:=aA h.2.2.1.1;have ME:=aA hf.2.2.1;obtain ⟨⟨cx,cy,co⟩,hco⟩:∃r,iY (bG s.ms)=r:=⟨_,rfl⟩;have CC:=aA (fun wx (hb:Bw w wx)=>by have:=aFA x s wx (h.2.2.1.below hb) GJ;rw [hco] at this;exact this);have HS:=aA (show nI s=(decide (x.ml≤20)&&(cO s.clock [] s.ms&&co)) by rw [nI,←h.2.2.1.1,hco]);obtain ⟨o,ho⟩:∃o,nI s=o:=⟨_,rfl⟩;rw [ho] at HS ⊢;clear h hf ho hco;have hb0:=yA (yH _ w) (.cells (svc x s) 29);have P0:=aA (yD w (svc x s) 29);obtain ⟨qa,ql,qc,aa,al,ac,ma,ml,mc,ca,cl,cc⟩:=x;obtain ⟨qs,clock,epoch,next,serial,apps,ms,cs⟩:=s;simp only at GJ HR HL ME CC HS P0 hb0;have HB0:=aA hb0;clear hb0;by_cases KP:ml≤20;case neg=>
  have hi:(20:Int)<ml:=by omega
  rw [decide_eq_false KP] at HS;go_enter func81,ntmps81;go_wp2;go_ret;exact ⟨yF (by rw [uH HS];simp),uH HB0⟩
 have hi:¬(20:Int)<ml:=by omega
 rw [decide_eq_true KP,Bool.true_and] at HS;clear KP;go_enter func81,ntmps81;go_wp2;go_loopw [3,15] (fun la i wr=>∃(k:Nat) (last:List UInt8),k≤ml∧i=.int .i64 k∧la=.string (bs last)∧Hid (o=(cO clock last (ms.drop k)&&co))∧Hid (Blk wr w.heap.size (svc ⟨qa,ql,qc,aa,al,ac,ma,ml,mc,ca,cl,cc⟩ ⟨qs,clock,epoch,next,serial,apps,ms,cs⟩) 29)∧Hid (Bw w wr)) (fun _ i _=>ml - (intOf i).toNat);case atStart=>exact ⟨0,[],Nat.zero_le _,rfl,rfl,aA (by rw [uH HS];simp),P0,HB0⟩
 case round=>
  obtain ⟨k,last,hk,rfl,rfl,HO,P1,HB⟩:=hrel;clear P0 HB0 HS;by_cases hlt:k<ml
  ·obtain ⟨b,off,rfl,hq⟩:=((uH HR).below (uH HB)).at hlt;(have hkl:k<ms.length:=by have:=uH HL;omega);have hst:=aA (aAO (ck:=clock) (last:=last) (l:=ms) (k:=k) hkl);have hfa:=(uH ME).2 _ (yM hkl);obtain ⟨c0,c1,c2,c3⟩:=hq hkl;obtain ⟨⟨nm,me,cp,se⟩,hs⟩:∃s,ms[k]=s:=⟨_,rfl⟩;rw [hs] at c0 c1 c2 c3 hst hfa;simp only at c0 c1 c2 c3 hst hfa;obtain ⟨no,hno⟩:∃b,bP nm=b:=⟨_,rfl⟩;have C1:=aA (fun wx=>by have:=l9 (bs nm) wx (by rw [dD];exact hfa);rw [show bP (bs nm).data.toList=no by rw [←hno];simp [bs]] at this;exact this);obtain ⟨l1,hl1⟩:∃b,Op.bytesLess (bs nm).toList (bs last).toList=b:=⟨_,rfl⟩;obtain ⟨l2,hl2⟩:∃b,((bs nm).toList==(bs last).toList)=b:=⟨_,rfl⟩;have QI:=aA (show cO clock last (ms.drop k)=(!(l1||l2)&&(no&&(decide (0≤se)&&(decide (se≤clock)&&cO clock nm (ms.drop (k+1)))))) by rw [uH hst,leT,hl1,hl2,hno]);have hb2:=yA (yH _ wr) (.cells #[.string (bs nm),.int .i64 me,.int .i64 cp,.int .i64 se] 103);have P2:=aA ((uH P1).below hb2);have HB2:=aA (yB (uH HB) hb2);have p1:=(uH P2).at 1;simp at p1;clear hq hs hkl hfa hb2 hno hst CC;(cases l1<;>cases l2);case false.false=>
    (go_wp2_with fail);refine (uH C1 _).mono ?_;rintro e w1 ⟨rfl,rfl⟩;cases no with
    | false=>go_wp2;go_ret;exact ⟨yF (by rw [uH HO,uH QI];simp),uH HB2⟩
    | true=>
    by_cases h1:0≤se;case neg=>
     (have h1':se<0:=by omega);go_wp2;go_ret;exact ⟨yF (by rw [uH HO,uH QI,decide_eq_false (show ¬0≤se by omega)];simp),uH HB2⟩
    by_cases h2:se≤clock;case neg=>
     (have h1':¬se<0:=by omega);(have h2':clock<se:=by omega);go_wp2;go_ret;exact ⟨yF (by rw [uH HO,uH QI,decide_eq_false (show ¬se≤clock by omega)];simp),uH HB2⟩
    (have h1':¬se<0:=by omega);(have h2':¬clock<se:=by omega);have GL:=aA (show o=(cO clock nm (ms.drop (k+1))&&co) by rw [uH HO,uH QI,decide_eq_true h1,decide_eq_true h2];simp);go_wp2;go_roundw;(case rel=>exact ⟨k+1,nm,by omega,by go_num,rfl,GL,P2,HB2⟩);case measure=>simp [intOf];omega
   all_goals go_wp2;go_ret;exact ⟨yF (by rw [uH HO,uH QI];simp),uH HB2⟩
  ·have GL:=aA (show o=co by rw [uH HO,aB9 (by have:=uH HL;omega)];simp);have p0:=(uH P1).at 0;have p1:=(uH P1).at 1;have p2:=(uH P1).at 2;have p3:=(uH P1).at 3;have p4:=(uH P1).at 4;have p5:=(uH P1).at 5;have p6:=(uH P1).at 6;have p7:=(uH P1).at 7;simp at p0 p1 p2 p3 p4 p5 p6 p7;(go_wp2_with fail);refine (uH CC _ (uH HB)).mono ?_;rintro e w1 ⟨rfl,hb⟩;have HB2:=aA (yA (yB (uH HB) hb) (.cells #[.int .i64 cx,.int .i64 cy] 33));clear hb CC;go_wp2;go_ret;exact ⟨yF (by rw [uH GL]),uH HB2⟩
end
end Go.Proofs.YtfndhndlkcijoaaGreat
