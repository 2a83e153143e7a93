/-
  What a queue uses, by the program: whether a queue is below another one, the map's word on a container, what is used together, UsedBy (merge.py wrote this out of templates/ub).
-/
import Derived.Test.YtfndhndlkcijoaaGreatTackR
import Derived.Test.YtfndhndlkcijoaaGreatTackF
import Derived.Maps.RangeWalk
set_option maxRecDepth 100000
set_option maxHeartbeats 16000000
set_option linter.unusedVariables false
set_option linter.unusedSimpArgs false
open Go.Proofs.Tryz
namespace Go.Proofs.YtfndhndlkcijoaaGreat
open Go.RowKit Go.Shelf
attribute [local go_sem] Oper.semAt_some
def jT (l:List Q) (nm wt:List UInt8):Bool:=(ups l nm).any (fun q=>decide (q.name=wt))
theorem aDX {β:Type} (g:Nat) (arr:Array Value) (t:TypeId):Own (fun (_:β) W=>Blk W g arr t):=fun s X Y row hs hg hr=>
 (hg.block g (show Blk X g arr t from hs).lt (fun e=>by
  obtain ⟨o,ho,hc⟩:=hr g e.symm;rw [show X.heap[g]? = _ from hs] at ho;cases ho;cases hc)).trans hs
theorem aDt {β:Type} (p:β→Prop):Own (fun (s:β) (_:World)=>p s):=fun s X Y row hs _ _=>hs
theorem aAj {β:Type} {I I':β→World→Prop} (h:Own I) (h':Own I'):Own (fun s W=>I s W∧I' s W):=fun s W W' row hs hg hr=>⟨h s W W' row hs.1 hg hr,h' s W W' row hs.2 hg hr⟩
set_option maxRecDepth 100000 in
set_option maxHeartbeats 4000000 in
theorem aCm (ao:Option Addr) (len cap:Nat) (l:List Q) (nm wt:List UInt8) (w:World) (h:gH w ao len l) (hl:len≤1048576) (hc:len≤cap) :
  cP 89 #[.slice ao len cap,.string (bs nm),.string (bs wt)] w fun e w'=>e=.returned (.bool (jT l nm wt))∧Bw w w':=by
 have HR:=aA h;have hB4:=yA (yA (yA (yA (yH _ w) (.cells #[.string (bs wt)] 9)) (.cells #[.bool false] 4)) (.cells #[.slice ao len cap] 24)) (.cells #[.string (bs nm)] 9);have PN:=(((yD w #[.string (bs wt)] 9).al (.cells #[.bool false] 4)).al (.cells #[.slice ao len cap] 24)).al (.cells #[.string (bs nm)] 9);have NA:=((yD (w.alloc (.cells #[.string (bs wt)] 9)) #[.bool false] 4).al (.cells #[.slice ao len cap] 24)).al (.cells #[.string (bs nm)] 9);have Kw:=((yD ((w.alloc (.cells #[.string (bs wt)] 9)).alloc (.cells #[.bool false] 4)) #[.slice ao len cap] 24).al (.cells #[.string (bs nm)] 9)).at 0;have Ky:=(yD (((w.alloc (.cells #[.string (bs wt)] 9)).alloc (.cells #[.bool false] 4)).alloc (.cells #[.slice ao len cap] 24)) #[.string (bs nm)] 9).at 0;have hsz:((((w.alloc (.cells #[.string (bs wt)] 9)).alloc (.cells #[.bool false] 4)).alloc (.cells #[.slice ao len cap] 24)).alloc (.cells #[.string (bs nm)] 9)).heap.size=w.heap.size+4:=by simp only [yE]
 rw [yE] at NA;rw [yE,yE] at Kw;rw [yE,yE,yE] at Ky;obtain ⟨o,ho⟩:∃o,jT l nm wt=o:=⟨_,rfl⟩;have HO:=aA ho;rw [ho];clear h ho;have hmx:Tryz.prog.follows .mixedOrders=true:=by kernel_rfl
 refine (callsIn_wide (n:=3)).1 ?_;refine callsIn_of_wp_marks func89 rfl trivial ?_ rfl;simp only [ntmps89,List.size_toArray,List.length_cons,List.length_nil,Nat.reduceAdd,Nat.reduceSub,Array.replicate_succ,Array.replicate_zero,List.push_toArray,List.append_toArray,List.nil_append,List.cons_append]
 gi_wp2_with fail
 refine ⟨trivial,?_⟩;first | refine ⟨(by intro e;cases e),?_⟩ | skip
 refine (callsIn_wide.2 (xY ao len cap nm _)).mono ?_;rintro e w2 ⟨rfl,rfl⟩
 gi_wp2
 obtain ⟨W0,hW0⟩:∃W0,(((w.alloc (.cells #[.string (bs wt)] 9)).alloc (.cells #[.bool false] 4)).alloc (.cells #[.slice ao len cap] 24)).alloc (.cells #[.string (bs nm)] 9)=W0:=⟨_,rfl⟩;rw [hW0] at hB4 PN NA Kw Ky hsz ⊢;have HC:=aA (qB (3 - 1) (w.heap.size+1+1) (w.heap.size+1+1+1) ao len cap l nm w W0 (uH HR) hB4 hl hc Kw Ky);clear hW0 Kw Ky;refine wpIn_rangeFunc_ownH rfl (by omega) (gf:=147) (lb:=#[.pointer (some ⟨w.heap.size+1+1,0,none⟩),.pointer (some ⟨w.heap.size+1+1+1,0,none⟩)]) rfl trivial (enters_of func147 (by kernel_rfl) rfl)
  (uH HC) aJ0 (aJ1 (by omega)) (yH _ _) (fun _=>rfl)
  (fun pre W=>((Blk W w.heap.size #[.string (bs wt)] 9∧Blk W (w.heap.size+1) #[.bool false] 4)∧(∀q ∈ pre,q.1.name≠wt))∧Bw w W)
  (fun c pre W=>(Blk W (w.heap.size+1) #[.bool true] 4∧(c=.ret∧∃q ∈ pre,q.1.name=wt))∧Bw w W)
  (OwnFrom.and (Own.from (aAj (aAj (aDX _ _ _) (aDX _ _ _)) (aDt (fun pre:List { q:Q // q ∈ l }=>∀q ∈ pre,q.1.name≠wt))) _) (ownFrom_below (yJ _) (by omega)))
  (fun c=>OwnFrom.and (Own.from (aAj (aDX _ _ _) (aDt (fun pre:List { q:Q // q ∈ l }=>c=.ret∧∃q ∈ pre,q.1.name=wt))) _) (ownFrom_below (yJ _) (by omega)))
  ⟨⟨⟨PN,NA⟩,by simp⟩,hB4⟩
  (fun x a' W=>∃Bx,w.heap.size+1<Bx∧mF W Bx x.1∧a' = { tmps:=#[.slice ao len cap,.string (bs nm),.string (bs wt),undef,undef,.pointer (some ⟨w.heap.size,0,none⟩),.pointer (some ⟨w.heap.size+1,0,none⟩),.pointer (some ⟨Bx,0,none⟩),.slice ao len cap,.string (bs nm),.func (.func 147) #[] #[.pointer (some ⟨w.heap.size+1+1,0,none⟩),.pointer (some ⟨w.heap.size+1+1+1,0,none⟩)],qv x.1,undef,undef,undef,undef],defers:=[] })
  (fun x a' _ X Y row hs hg hr=>by
   obtain ⟨Bx,h1,h2,h3⟩:=hs;refine ⟨Bx,h1,(hg.block Bx h2.lt (fun e=>?_)).trans h2,h3⟩;obtain ⟨_,o,ho,hc⟩:=hr Bx e.symm;rw [show X.heap[Bx]? = _ from h2] at ho;cases ho;cases hc)
  ?assign ?body ?done ?stop
 case assign=>
  rintro lp pre x W K ⟨⟨⟨k5,k6⟩,hne⟩,hB⟩ hK;have hlt:=k6.lt
  gi_wp2
  exact hK _ _ ((KeepsOthers.alloc _ _).from _) (aEE hB.size (yA (yH _ W) _)) ⟨⟨⟨k5.al _,k6.al _⟩,hne⟩,yA hB _⟩ ⟨W.heap.size,hlt,mF.new W x.1,rfl⟩
 case body=>
  rintro lp pre ⟨q,hq⟩ a' W hlp _ ⟨⟨⟨k5,k6⟩,hne⟩,hB⟩ ⟨Bx,hBx,hX,rfl⟩ hlt;simp only at hX;have hx0:=hX.c0;have c5:=k5.at 0;have c6:=k6.at 0;have f6:=k6.f 0;simp at c5 c6;have hbe:=l6 q.name wt;have K5:=aA k5;have K6:=aA k6;have vz:=aA hne;have HB:=aA hB;clear k5 k6 hne hB hX;by_cases he:q.name=wt
  ·have HE:=aA he;rw [decide_eq_true he] at hbe;clear he
   gi_wp2
   refine ⟨(KeepsOthers.setCell _ _ _).from _,⟨?_,rfl,⟨q,hq⟩,by simp,uH HE⟩,yC (uH HB) _ _ _ (by omega)⟩;have:=(uH K6).set 0 (.bool true);simpa using this
  ·have HE:=aA he;rw [decide_eq_false he] at hbe;clear he
   gi_wp2
   refine ⟨KeepsFrom.refl _ _,aEE (uH HB).size (yH _ _),⟨⟨uH K5,uH K6⟩,?_⟩,uH HB⟩;intro z hz;rcases List.mem_append.1 hz with hz | hz
   ·exact uH vz z hz
   ·(have:z=⟨q,hq⟩:=by simpa using hz);rw [this];exact uH HE
 case done=>
  rintro D ys W hD hys ⟨⟨⟨k5,k6⟩,hne⟩,hB⟩ hK;have c6:=k6.at 0;have f6:=k6.f 0;simp at c6;have QA:o=false:=by rw [←uH HO,jT,←hys,List.any_eq_false];intro z hz;obtain ⟨q,hq,rfl⟩:=List.mem_map.1 hz;simpa using hne q hq
  subst QA;have K6:=aA k6;have HB:=aA hB;have HK:=aA hK;have JX:D≠w.heap.size+1:=by omega
  clear k5 k6 hne hB hK
  gi_wp2
  have e2:=(KeepsOthers.setCell W ⟨w.heap.size+1,0,none⟩ (.bool false)).same D _ (uH HK) rfl;refine ⟨by simp,.inl ⟨_,_,rfl,run_takeDeferred e2,?_⟩⟩;have KF:Blk _ (w.heap.size+1) _ _:=(World.putObj_heap_other (o:=.deferred none) (w:=W.setCell ⟨w.heap.size+1,0,none⟩ (.bool false)) (Ne.symm JX)).trans ((uH K6).set 0 (.bool false));have r0:=KF.at 0;simp at r0;exact ⟨.bool false,(by simp [results,results89,go_sem,r0]),rfl,(yC (uH HB) _ _ _ (by omega)).trans (belowK_b (w:=w) (yJ _) _ D _ _ (by omega) e2 rfl rfl)⟩
 case stop=>
  rintro D c pre W hD XE ⟨⟨k6,rfl,q,hq,he⟩,hB⟩ hK;have QA:o=true:=by rw [←uH HO,jT,List.any_eq_true];exact ⟨q.1,XE.subset (List.mem_map_of_mem hq),by simpa using he⟩
  subst QA;have K6:=aA k6;have HB:=aA hB;have HK:=aA hK;have JX:D≠w.heap.size+1:=by omega
  clear k6 hB hK
  gi_wp2
  refine ⟨by simp,.inl ⟨_,_,rfl,run_takeDeferred (uH HK),?_⟩⟩;have KF:Blk _ (w.heap.size+1) _ _:=(World.putObj_heap_other (o:=.deferred none) (w:=W) (Ne.symm JX)).trans (uH K6);have r0:=KF.at 0;simp at r0;exact ⟨.bool true,(by simp [results,results89,go_sem,r0]),rfl,(uH HB).trans (belowK_b (w:=w) (yJ _) _ D _ _ (by omega) (uH HK) rfl rfl)⟩
end Go.Proofs.YtfndhndlkcijoaaGreat
namespace Go.Proofs.YtfndhndlkcijoaaGreat
open Go.RowKit
set_option maxRecDepth 100000 in
set_option maxHeartbeats 4000000 in
theorem aCb (bm:Nat) (p:Con→Bool) (x:Sls) (s:St) (w:World) (h:bR w x.ca x.cl s.cs) (hl:x.cl≤1048576)
  (hp:∀wx q,q ∈ s.cs→Bw w wx→cP 91 #[.map (some bm),conv q] wx fun e w'=>e=.returned (.bool (p q))∧Bw wx w') :
  cP 90 #[sv x s,.func (.func 91) #[.map (some bm)] #[]] w fun e w'=>e=.returned (rv (iC (aO p s.cs)).1 (iC (aO p s.cs)).2.1)∧Bw w w':=by
 obtain ⟨i0,hi,hz0,hz1,hz2⟩:=info_parts Tryz.infoR;have eg:=enters_of func91 (by kernel_rfl) rfl;obtain ⟨qa,ql,qc,aa,al,ac,ma,ml,mc,ca,cl,cc⟩:=x;obtain ⟨qs,cv,ez,ny,sj,aj,ms,cs⟩:=s;simp only at h hl ⊢;have HR:=aA h;have HL:=aA h.1;have HP:=aA hp;obtain ⟨c,hc⟩:∃c:Array Value,#[.slice qa ql qc,.int .i64 cv,.int .i64 ez,.int .i64 ny,.int .i64 sj,.slice aa al ac,.slice ma ml mc,.slice ca cl cc]=c:=⟨_,rfl⟩;have HC:=aA hc;have HB0:=aA (dG w c);have V0:=aA (iY w c);have HW:=aA (rG w c);clear h hc hp;obtain ⟨⟨sx,sy,so⟩,hs⟩:∃s,iC (aO p cs)=s:=⟨_,rfl⟩;have HS:=aA hs;rw [hs];clear hs;go_enter func90,ntmps90;go_wp2;go_loopw [5,13] (fun v i wr=>∃(k:Nat),k≤cl∧i=.int .i64 k∧Hid (yR (sZ w c).heap.size wr v (aO p (cs.take k)))∧Hid (Below (sZ w c).heap.size (sZ w c) wr)) (fun _ i _=>cl - (intOf i).toNat);case atStart=>obtain rfl:=uH HC;exact ⟨0,Nat.zero_le _,rfl,aA (by simpa [aO] using aAf _ _),aA (yH _ _)⟩
 case round=>
  obtain ⟨k,hk,rfl,HO,HB⟩:=hrel;by_cases hlt:k<cl
  ·obtain ⟨b,off,rfl,hq⟩:=(((uH HR).below (uH HB0)).below (uH HB)).at hlt;(have hkl:k<cs.length:=by have:=uH HL;omega);have hst:=oF (p:=p) hkl;obtain ⟨c0,c1,c2,c3,c4⟩:=hq hkl;obtain ⟨m,hs⟩:∃q,cs[k]=q:=⟨_,rfl⟩;rw [hs] at c0 c1 c2 c3 c4 hst;(have hal:(aO p (cs.take k)).length≤1048576:=by have:=vH (p:=p) (cs.take k);simp at this;omega);obtain ⟨acc,Gx⟩:∃a,aO p (cs.take k)=a:=⟨_,rfl⟩;rw [Gx] at hst hal HO;obtain ⟨id,ap,nd,me,cp⟩:=m;simp only at c0 c1 c2 c3 c4 hst;have QS:=aA (yA (yH _ wr) (aCS ⟨id,ap,nd,me,cp⟩));have QY:=aA (uH HP (wr.alloc (aCS ⟨id,ap,nd,me,cp⟩)) ⟨id,ap,nd,me,cp⟩ (by rw [←hs];exact yM _) (yB (yB (uH HB0) (uH HB)) (uH QS)));have KB:=aA (yD wr #[.int .i64 id,.int .i64 ap,.string (bs nd),.int .i64 me,.int .i64 cp] 35);clear hq hs hkl Gx;cases hpq:p ⟨id,ap,nd,me,cp⟩ with
   | true=>
    rw [hpq] at QY;rw [hpq,if_pos rfl] at hst;have HST:=aA hst;clear hpq hst;go_wp2_with (first
     | ((first | go_at_call 91 | go_at_fn 91);refine (uH QY).mono ?_;rintro e w1 ⟨rfl,hb⟩;have HB1:=aA (yB (yB (uH HB) (uH QS)) hb);have ZI:=aA (((uH HO).below (uH QS)).below hb);have b1:=(uH KB).below hb;have q3:=b1.at 3;have q4:=b1.at 4;simp at q3 q4;have hs2:(sZ w c).heap.size≤w1.heap.size:=(uH HB1).size;have Hq:w1.ownsRow (sZ w c).heap.size 33 2 _ acc.length (iQ acc):=uH ZI;clear b1 hb QY c0 c1 c2 c3 c4 HO HB)
     | (at_builtin;refine wpList_append_own _ rfl _ _ 114 rfl (sZ w c).heap.size 33 i0 (.agg #[.int .i64 0,.int .i64 0]) 2 16 underlying114 hi hz0 hz1 hz2 rfl (by decide) _ _ _ rfl (Hq.alloc _) ⟨w1.heap.size,0,none⟩ 1 1 (y7 (me,cp)) rfl rfl ?c1 ?c2 ?c3 ?c4 ?c5 ?_))
    case c1=>
     intro j x hj
     match j,hj with
     | 0,hj=>simp at hj;subst hj;simp [Addr.add]
     | 1,hj=>simp at hj;subst hj;simp [Addr.add]
     | _+2,hj=>simp at hj
    (case c2=>intro x hx;simp at hx;rcases hx with rfl | rfl<;>rfl);(case c3=>unfold maxLen;omega);(case c4=>omega);(case c5=>simp at hs2 ⊢;omega);intro v' w3 Hy Hw _;have R:=lU (q:=(me,cp)) (uH HB1) (uH ZI) Hy Hw hs2;have HR3:=aA R;clear Hy Hw Hq R q3 q4;go_wp2;go_roundw;(case rel=>exact ⟨k+1,by omega,by go_num,aA (by rw [uH HST];exact (uH HR3).1),aA (uH HR3).2⟩);case measure=>simp [intOf];omega
   | false=>rw [hpq] at QY;rw [hpq,if_neg (by simp)] at hst;have HST:=aA hst;clear hpq hst;(go_wp2_with ((first | go_at_call 91 | go_at_fn 91);refine (uH QY).mono ?_;rintro e w1 ⟨rfl,hb⟩;have HB1:=aA (yB (yB (uH HB) (uH QS)) hb);have ZI:=aA (((uH HO).below (uH QS)).below hb);clear hb QY c0 c1 c2 c3 c4 HO HB));go_roundw;(case rel=>exact ⟨k+1,by omega,by go_num,aA (by rw [uH HST];exact uH ZI),HB1⟩);case measure=>simp [intOf];omega
  ·have htk:cs.take k=cs:=List.take_of_length_le (by have:=uH HL;omega);rw [htk] at HO;obtain ⟨ao,cp,rfl,Hz,hcp⟩:=(uH HO).row;(have hlc:(aO p cs).length≤1048576:=by have:=vH (p:=p) cs;have:=uH HL;omega);have CT:=aA (nI ao _ cp (aO p cs) wr Hz hlc);rw [uH HS] at CT;obtain ⟨n,hn⟩:∃n,(aO p cs).length=n:=⟨_,rfl⟩;rw [hn] at CT ⊢;clear Hz hn htk hcp hlc HO;(go_wp2_with fail);refine (uH CT).mono ?_;rintro e w1 ⟨rfl,hb⟩;(have hsz:w.heap.size+1<(sZ w c).heap.size:=by have:=uH HW;omega);have V1:Var w1 33 (w.heap.size+1) 0 0:=Var.below ((uH HB).block _ hsz |>.trans (uH V0)) hb;have HB1:=aA (yB (yB (uH HB0) (uH HB)) hb);have V2:=V1.al (.cells #[.int .i64 sx,.int .i64 sy] 33);have t0:=V2.c0;have t1:=V2.c1;have f0:=V2.f 0;have f1:=V2.f 1;have VG:=V2.set sx sy;have k6:=VG.c0;have k7:=VG.c1;clear hb V1 V2 VG CT HB HB0;go_wp2;refine bodyPost_ret (v:=rv sx sy) (by simp [results,results90,go_sem,k6,k7]) rfl ⟨rfl,?_⟩;repeat (first | exact uH HB1 | refine yA ?_ _ | refine yC ?_ _ _ _ (by omega))
end Go.Proofs.YtfndhndlkcijoaaGreat
namespace Go.Proofs.YtfndhndlkcijoaaGreat
open Go.RowKit Go.Maps
set_option maxRecDepth 100000 in
theorem xA {n:Nat} {cs:List Value} {ls:List Lit} (h:Tryz.prog.keyLits (n+1) 9 cs=some ls):∃s,cs=[.string s]:=by
 unfold Program.keyLits at h;rw [underlying9] at h;split at h<;>simp_all
set_option maxRecDepth 100000 in
theorem xB {n:Nat} {cs:List Value} {ls:List Lit} (h:Tryz.prog.keyLits (n+1) 3 cs=some ls):∃k,cs=[.int .i64 k]:=by
 unfold Program.keyLits at h;rw [underlying3] at h;split at h<;>simp_all
set_option maxRecDepth 100000 in
theorem aG8 {key:Value} {kl:Lit} (h:keyOf Tryz.prog 124 key=some kl):∃x:List UInt8×Int,key=qE x.1 x.2:=by
 have hu:=underlying124;obtain ⟨m,hm⟩:=uJ;unfold keyOf at h;rw [hu] at h;simp only at h;split at h
 ·rename_i hf;rw [yK] at hf;have hf2:=hf.2;cases key with
  | agg cs=>
   simp only [Value.formed,hu,aAq] at hf2;obtain ⟨l⟩:=cs;have hl:l.length=2:=by simpa using hf2
   match l,hl with
   | [c0,c1],_=>
    rw [hm,show (Value.agg #[c0,c1]).cells.toList=[c0,c1] from rfl] at h;cases hk:Tryz.prog.keyLits (m+2) 124 [c0,c1] with
    | none=>rw [hk] at h;simp at h
    | some ls=>
     unfold Program.keyLits at hk;rw [hu] at hk;simp only at hk;split at hk
     ·simp [xD,wZ] at hk;cases h0:Tryz.prog.keyLits (m+1) 9 [c0] with
      | none=>rw [h0] at hk;simp at hk
      | some l0=>
       cases h1:Tryz.prog.keyLits (m+1) 3 [c1] with
       | none=>rw [h0,h1] at hk;simp at hk
       | some l1=>obtain ⟨s,e0⟩:=xA h0;obtain ⟨k,e1⟩:=xB h1;simp at e0 e1;subst e0 e1;exact ⟨(s.data.toList,k),by simp [qE,aDW]⟩
     ·cases hk
  | _=>simp [Value.formed,hu] at hf2
 ·cases h
theorem aDA {D:DataW Unit} {left:Lit→Bool} {kl:Lit} (hkl:WideAt.IsKeyLit kl) (h:∀z,left z=true→Maps.has D z=true):∀z,(left z&&!z.sameKey kl)=true→Maps.has (D.del kl) z=true:=fun z hz=>by
 simp only [yK,Bool.not_eq_true'] at hz;rw [has_del_other (fun e=>by subst e;rw [WideAt.sameKey_self hkl] at hz;cases hz.2)];exact h z hz.1
theorem aGY {D:DataW Unit} {left:Lit→Bool} {kl:Lit} (h:∀z,left z=true→Maps.has D z=true):∀z,(left z&&!z.sameKey kl)=true→Maps.has D z=true:=fun z hz=>by
 simp only [yK] at hz;exact h z hz.1
theorem aJ9 {s:St} {hs:List AV} {w:World} (hh:kD w hs s.apps) (ho:aF s.qs=true) (nm:List UInt8) (q:Con):aGj hs (fun v=>jT s.qs v.queue nm) q=byQ s nm q:=by
 have e:=aAR (id:=q.app) hh.1 (fun i a b=>⟨(hh.2 i a b).1,(hh.2 i a b).2.1⟩);unfold aGj byQ;cases h1:iV q.app hs with
 | none=>
  cases h2:bB q.app s.apps with
  | none=>rfl
  | some a=>rw [h1,h2] at e;cases e
 | some v=>
  cases h2:bB q.app s.apps with
  | none=>rw [h1,h2] at e;cases e
  | some a=>rw [h1,h2] at e;(have e':v.queue=a.queue:=by simpa using e);simp only [aJr];rw [jT,e',←aA4 ho,List.any_map];rfl
theorem aIZ {s:St} (ho:aF s.qs=false) (nm:List UInt8) (q:Con):byQ s nm q=false:=by
 unfold byQ;cases bB q.app s.apps with
 | none=>rfl
 | some a=>simp [path,ho]
theorem aEW {p:Con→Bool} {l:List Con} (h:∀q,p q=false):aO p l=[]:=by
 have:l.filter p=[]:=by rw [List.filter_eq_nil_iff];intro a _;simp [h a]
 simp [aO,this]
theorem aCa {p p':Con→Bool} {l:List Con} (h:∀q,p q=p' q):aO p l=aO p' l:=by rw [show p=p' from funext h]
set_option maxRecDepth 100000 in
set_option maxHeartbeats 4000000 in
theorem lJ (x:Sls) (s:St) (nm:List UInt8) (w:World) (h:gW w x s) (hf:dB s) (hc:x.ql≤x.qc) (hw:yQ s) :
  cP 28 #[sv x s,.string (bs nm)] w fun e w'=>e=.returned (rv (aJ s nm).1 (aJ s nm).2)∧Bw w w':=by
 have ZE:∀(fn:Fn) (first cap:Array Value) (w:World),(Instr.makeFunc fn first cap).run Tryz.prog w=.ok (.func fn first cap) w:=fun _ _ _ _=>rfl
 have Gw:x.ql≤1048576:=by have:=h.len.1;have:=hf.1.1;omega
 have hal:x.al≤1048576:=by have:=h.len.2.1;have:=hf.2.1.1;omega
 have hcl:x.cl≤1048576:=by have:=h.len.2.2.2;have:=hf.2.2.2.1;omega
 obtain ⟨hs,QN,hh⟩:=h.2.1.heads;have CQ:=aA (fun wx (hb:Bw w wx)=>fC x.qa x.ql x.qc s.qs wx (h.1.below hb) Gw (fun q hq=>(hf.1.2 q hq).1) hc);have CM:=aA (fun wx (hb:Bw w wx)=>aD1 x s hs wx (QN.below hb) hal (aEJ hh hw.1));have CR:=aA (fun wx (hb:Bw w wx) (qu:List UInt8)=>aCm x.qa x.ql x.qc s.qs qu nm wx (h.1.below hb) Gw hc);have CU:=aA (fun (bm n:Nat) (D:DataW Unit) wx (hb:Bw w wx) (Hq:wx.ownsMap Tryz.prog 124 fJ bm n D) (hk:fT hs (fun _ v=>jT s.qs v.queue nm) D)=>aCb bm (aGj hs (fun v=>jT s.qs v.queue nm)) x s wx (h.2.2.2.below hb) hcl
  (fun wy q hq hy=>aGg bm n D hs (fun v=>jT s.qs v.queue nm) q wy (dM Hq hy) hk (hw.2 q hq)))
 have GM:=aA (fun ho:aF s.qs=true=>aCa (l:=s.cs) (aJ9 hh ho nm));have GR:=aA (fun ho:aF s.qs=false=>aEW (l:=s.cs) (aIZ ho nm));have HV:=aA (show aJ s nm=((iC (aO (byQ s nm) s.cs)).1,(iC (aO (byQ s nm) s.cs)).2.1) from rfl);obtain ⟨⟨ux,uy⟩,hu⟩:∃u,aJ s nm=u:=⟨_,rfl⟩;rw [hu] at HV ⊢;obtain ⟨o,ho⟩:∃o,aF s.qs=o:=⟨_,rfl⟩;rw [ho] at CQ GM GR;clear h hf hc hw hu ho QN hh;obtain ⟨qa,ql,qc,aa,al,ac,ma,ml,mc,ca,cl,cc⟩:=x;obtain ⟨qs,cv,ez,ny,sj,aj,ms,cs⟩:=s;simp only at CQ CM CR CU GM GR HV Gw hal hcl;have HB0:=aA (dG w (svc ⟨qa,ql,qc,aa,al,ac,ma,ml,mc,ca,cl,cc⟩ ⟨qs,cv,ez,ny,sj,aj,ms,cs⟩));have V0:=aA (iY w (svc ⟨qa,ql,qc,aa,al,ac,ma,ml,mc,ca,cl,cc⟩ ⟨qs,cv,ez,ny,sj,aj,ms,cs⟩));have P0:=aA ((fQ w (svc ⟨qa,ql,qc,aa,al,ac,ma,ml,mc,ca,cl,cc⟩ ⟨qs,cv,ez,ny,sj,aj,ms,cs⟩)).al (.cells #[.int .i64 0,.int .i64 0] 33));go_enter func28,ntmps28;go_wp2_with fail;refine (uH CQ _ (uH HB0)).mono ?_;rintro e w1 ⟨rfl,hb⟩;have HB1:=aA (yB (uH HB0) hb);have V1:=aA ((uH V0).below hb);have P1:=aA ((uH P0).below hb);clear hb HB0 V0 P0 CQ;cases o with
 | false=>have hz:=uH HV;rw [uH GR (by first | rfl | trivial)] at hz;simp only [iC,aT,Prod.mk.injEq] at hz;obtain ⟨rfl,rfl⟩:=hz;have V2:=uH V1;have t0:=V2.c0;have t1:=V2.c1;have f0:=V2.f 0;have f1:=V2.f 1;have k4:=V2.s0 (.int .i64 0);have k5:=V2.s1 (.int .i64 0) (.int .i64 0);clear V2;go_wp2;refine bodyPost_ret (v:=rv 0 0) (by simp [results,results28,go_sem,k4,k5]) rfl ⟨rfl,?_⟩;repeat (first | exact uH HB1 | refine yA ?_ _ | refine yC ?_ _ _ _ (by omega))
 | true=>
  have HE:=aA (uH GM (by first | rfl | trivial));have Qz:=aA (show (ux,uy)=((iC (aO (aGj hs (fun v=>jT qs v.queue nm)) cs)).1,(iC (aO (aGj hs (fun v=>jT qs v.queue nm)) cs)).2.1) by rw [uH HE];exact uH HV);rw [show (iC (aO (aGj hs (fun v=>jT qs v.queue nm)) cs)).1=ux from (congrArg Prod.fst (uH Qz)).symm,show (iC (aO (aGj hs (fun v=>jT qs v.queue nm)) cs)).2.1=uy from (congrArg Prod.snd (uH Qz)).symm] at CU;clear HV GM GR HE Qz;obtain ⟨q0,q1,q2,q3,q4,q5,q6,q7⟩:_∧_∧_∧_∧_∧_∧_∧_:=⟨(uH P1).at 0,(uH P1).at 1,(uH P1).at 2,(uH P1).at 3,(uH P1).at 4,(uH P1).at 5,(uH P1).at 6,(uH P1).at 7⟩;simp at q0 q1 q2 q3 q4 q5 q6 q7;have hpl:=(uH P1).lt;have hvl:=(uH V1).lt;go_wp2_with fail;refine (uH CM _ (uH HB1)).mono ?_;rintro e w2 ⟨bm,rfl,⟨ZU,D0,Hq,hkn⟩,hb⟩;have HB2:=aA hb;have ZL:=aA hkn;clear q0 q1 q2 q3 q4 q5 q6 q7 hb hkn CM;go_wp2_with (first
   | (at_range;refine wpList_range_own _ rfl _ 121 rfl 124 56 jU underlying121 _ bm hs.length D0 rfl Hq ?_;intro w3 hrg0 hg0 hs0)
   | go_in)
  go_frame
  have jq:w1.heap.size≤w2.heap.size:=(uH HB2).size;have HB3:=aA (show Bw w1 w3 from (uH HB2).grown hg0 jq (fun k e=>by cases e));have YZ:=aA hrg0;obtain ⟨r,hr⟩:∃r,w2.heap.size=r:=⟨_,rfl⟩;rw [hr] at YZ jq ⊢;have hwa:w.heap.size≤w1.heap.size:=(uH HB1).size;clear hrg0 hg0 hs0 HB2 Hq hr;go_loopw [6] (fun _ wr=>∃(left:Lit→Bool) (cnt:Nat) (D:DataW Unit),Hid (wr.ranges Tryz.prog 124 fJ bm r hs.length D left cnt)∧Hid (fT hs (fun kl v=>left kl||jT qs v.queue nm) D)∧Hid (∀z,left z=true→Maps.has D z=true)∧Hid (Bw w1 wr)) (fun _ wr=>wr.rangeLeft bm r);case atStart=>exact ⟨_,_,D0,YZ,aA ⟨(uH ZL).1,fun v kl h1 h2=>by have:=(uH ZL).2 v kl h1 h2;simp only at this ⊢;rw [this];rfl⟩,aA (fun z h=>h),HB3⟩
  case round=>
   obtain ⟨left,cnt,D,Pv,WV,WS,QG⟩:=hrel;have hrg:=uH Pv;clear YZ ZL HB3;go_wp2_with (first
    | (at_next;refine wpList_next_ranges _ rfl _ rfl 124 jU fJ (fun x:List UInt8×Int=>qE x.1 x.2) avv (fun key kl gy=>aG8 gy) (fun v y hv=>mW hv) bm r hs.length D left cnt rfl hrg ?_ ?_)
    | go_in)
   ·intro _ hl0;have HKF:=aA (show fT hs (fun _ v=>jT qs v.queue nm) D from ⟨(uH WV).1,fun v kl h1 h2=>by have:=(uH WV).2 v kl h1 h2;simp only [hl0,Bool.false_or] at this;exact this⟩);have PB:=(uH P1).below (uH QG);obtain ⟨q0,q1,q2,q3,q4,q5,q6,q7⟩:_∧_∧_∧_∧_∧_∧_∧_:=⟨PB.at 0,PB.at 1,PB.at 2,PB.at 3,PB.at 4,PB.at 5,PB.at 6,PB.at 7⟩;simp at q0 q1 q2 q3 q4 q5 q6 q7;have HVB:=aA ((uH V1).below (uH QG));have Dz:=aA (yB (uH HB1) (uH QG));have HOW:=aA hrg.owns;clear Pv WV WS hrg hl0 PB CR;(go_wp2_with fail);refine (uH CU bm hs.length D _ (uH Dz) (uH HOW) (uH HKF)).mono ?_;rintro e w5 ⟨rfl,hb⟩;have V2:=(uH HVB).below hb;have Gj:=aA (yB (uH Dz) hb);have t0:=V2.c0;have t1:=V2.c1;have f0:=V2.f 0;have f1:=V2.f 1;have k4:=V2.s0 (.int .i64 ux);have k5:=V2.s1 (.int .i64 ux) (.int .i64 uy);clear V2 hb q0 q1 q2 q3 q4 q5 q6 q7;go_wp2;refine bodyPost_ret (v:=rv ux uy) (by simp [results,results28,go_sem,k4,k5]) rfl ⟨rfl,?_⟩;repeat (first | exact uH Gj | refine yA ?_ _ | refine yC ?_ _ _ _ (by omega))
   ·(rintro x1 x2 ⟨id,qu,zo,zl,zc⟩ kl y1 y2 w4 cnt1 gy hlk hR hat hrg1 hlt hg1 hs1 hen;obtain ⟨TL,TE⟩:Hid (iV id hs=some ⟨id,qu,zo,zl,zc⟩)∧Hid (keyOf Tryz.prog 124 (qE [] id)=some kl):=by obtain ⟨v,hf,hkv,QN⟩:=(uH WV).1 kl (uH WS kl hlk);rw [l7] at hR;have e:=aHR ((QN (.map [])).symm.trans ((hat (.map [])).trans (congrArg Prod.fst (Option.some.inj hR)).symm));subst e;exact ⟨aA hf,aA hkv⟩);have TD:=aA (show keyOf Tryz.prog 124 (qE x1 x2)=some kl from gy);have HR1:=aA hrg1;have BU:=aA hlt;have GD:=aA (show Bw w1 w4 from (uH QG).grown hg1 (uH QG).size (fun k e=>by cases e;omega));obtain ⟨b,hbb⟩:∃b,jT qs qu nm=b:=⟨_,rfl⟩;have CRq:=aA (fun wx (hb:Bw w wx)=>by have:=uH CR wx hb qu;rw [hbb] at this;exact this);have Dz:=aA hbb;have PB:=(uH P1).below (uH GD);have q0:=PB.at 0;simp at q0;have q0b:=(PB.al (.cells #[.string (bs x1),.int .i64 x2] 124)).at 0;have q0c:=((PB.al (.cells #[.string (bs x1),.int .i64 x2] 124)).al (.cells #[.int .i64 id,.string (bs qu),.slice zo zl zc] 56)).at 0;simp at q0b q0c;clear gy hR hat hrg1 hlt hg1 hs1 hlk hbb PB CR CU;(go_wp2_with fail);refine (uH CRq _ ?_).mono ?_
    ·exact yA (yA (yB (uH HB1) (uH GD)) _) _
    rintro e w5 ⟨rfl,hb⟩;have Gj:=aA (yB (yA (yA (yH _ w4) (.cells #[.string (bs x1),.int .i64 x2] 124)) (.cells #[.int .i64 id,.string (bs qu),.slice zo zl zc] 56)) hb);have KB:=((yD w4 #[.string (bs x1),.int .i64 x2] 124).al (.cells #[.int .i64 id,.string (bs qu),.slice zo zl zc] 56)).below hb;have z0:=KB.at 0;have z1:=KB.at 1;simp at z0 z1;have NG:=aA ((uH HR1).kept (aH (aD w4 none) (uH Gj)) (by simp) (by simp));have YW:=aA (show Bw w1 w5 from yB (uH GD) (uH Gj));clear hb KB CRq q0 q0b q0c hen HR1;cases b with
    | true=>have HST:=aA ((uH WV).stay (v:=⟨id,qu,zo,zl,zc⟩) (uH TL) (uH TE) (uH Dz));go_wp2;go_roundw;(case rel=>exact ⟨_,cnt1,D,NG,HST,aA (aGY (uH WS)),YW⟩);case measure=>rw [(uH NG).left_eq,hrg.left_eq];exact uH BU
    | false=>
     have HST:=aA ((uH WV).strike (v:=⟨id,qu,zo,zl,zc⟩) (uH TL) (uH TE) (uH Dz));have J6:=uH NG;go_wp2_with (first
      | (at_delete;refine wpList_delete_ranges _ rfl _ _ 121 124 rfl 56 jU underlying121 _ bm r hs.length _ _ _ rfl J6 _ _ rfl (uH TD) ?_;intro w6 cnt2 hrg6 hle hturn;go_frame)
      | go_in)
     rw [strike_twice] at hrg6;have VN:=aA (show Bw w1 w6 from (uH YW).grown hturn.grown (uH YW).size (fun k e=>by cases e;omega));have SF:=aA hrg6;have HLE:=aA hle;clear hturn J6 hrg6 hle;go_roundw;(case rel=>exact ⟨_,cnt2,_,SF,HST,aA (aDA (jU.key (uH TD)) (uH WS)),VN⟩);case measure=>rw [(uH SF).left_eq,hrg.left_eq];have:=uH HLE;have:=uH BU;omega
end Go.Proofs.YtfndhndlkcijoaaGreat
