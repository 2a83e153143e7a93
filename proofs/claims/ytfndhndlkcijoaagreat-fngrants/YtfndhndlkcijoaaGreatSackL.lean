/-
  Texts in one: CopySt, GrowS, TakC, TakM, TakP, TakB, StEnd, InsC, DrA, DrB, StBx, DrC, DrE.
-/
import Derived.Test.YtfndhndlkcijoaaGreatSackG
import Derived.Test.YtfndhndlkcijoaaGreatSackE
import Derived.OneCell
import Derived.Laws.Rows
import Derived.Test.YtfndhndlkcijoaaGreatSackF
import Derived.Lib.Overlaps
import Derived.Lib.AppendZerosOnto
import Derived.Lib.JoinLaws
import Derived.Deep.AppendSrc
import Derived.Deep.DeepAppendWide
import Derived.Laws.Externs
set_option maxRecDepth 100000
set_option maxHeartbeats 16000000
set_option linter.unusedVariables false
set_option linter.unusedSimpArgs false
open Go.Proofs.Tryz
namespace Go.Proofs.YtfndhndlkcijoaaGreat
section
open Go.RowKit
variable {v:AV} {arr old:Array Value} {hs l ns:List AV} {qs:List Q} {B B' E L M a b c cap cp g k m n n2 q sz:Nat} {S:Nat→Prop} {ao po qo:Option Addr} {r:Option Nat} {x y:Sls} {s:St} {t t':TypeId} {w w' wr:World}
theorem oD.blk (h:oD B w ao n l) (hk:k<n):∃g M,ao=some ⟨g,0,none⟩∧B≤g∧g<w.heap.size∧o6 w g M l:=by
 obtain ⟨⟨h1,h2⟩,h3⟩:=h;rcases h3 with e | ⟨g,M,rfl,hB,hE,hc,hn⟩
 ·omega
 ·rcases h2 with e | ⟨b,off,e,hh⟩
  ·omega
  ·cases e;exact ⟨g,M,rfl,hB,hE,hc,by omega,fun i hi=>by have:=hh i hi;rwa [Nat.zero_add] at this⟩
theorem o6.asks {i:Nat} (h:o6 w g M l) (hi:i<l.length) (ao:Option Addr) (len cap:Nat):o6 (w.setCell ⟨g,i*3+2,none⟩ (.slice ao len cap)) g M (l.set i ⟨l[i].id,l[i].queue,ao,len,cap⟩):=by
 refine ⟨h.1.set _ _ _,by simpa using h.2.1,fun j hj=>?_⟩;have hj':j<l.length:=by simpa using hj
 obtain ⟨a,b,c⟩:=h.2.2 j hj';by_cases e:i=j
 ·subst e;simp only [List.getElem_set_self];exact ⟨bE a (by omega),bE b (by omega),World.cell?_setCell_same _ ⟨g,i*3+2,none⟩ _ c⟩
 ·rw [List.getElem_set_ne e];exact ⟨bE a (by omega),bE b (by omega),bE c (by omega)⟩
theorem o6.has {B w g M n l} (h:o6 w g M l) (hB:B≤g) (hn:n=l.length):oD B w (some ⟨g,0,none⟩) n l:=by
 subst hn;exact ⟨h.row,.inr ⟨g,M,rfl,hB,h.1.lt,h.1,h.2.1⟩⟩
structure aIE (w:World) (arr:Array Value) (qo:Option Addr) (qs:List Q) (po:Option Addr) (n2:Nat) (ns:List AV) (apps:List bW) (wr:World):Prop where
 r0:Blk wr w.heap.size arr 29
 r1:Blk wr (w.heap.size+1) #[.slice none 0 0,.int .i64 0,.int .i64 0,.int .i64 0,.int .i64 0,.slice none 0 0,.slice none 0 0,.slice none 0 0] 29
 q:tC (w.heap.size+2) wr qo qs.length qs
 p:oD (w.heap.size+2) wr po n2 ns
 k:kC (w.heap.size+2) wr ns apps
 b:Bw w wr
 z:w.heap.size+2≤wr.heap.size
theorem aIE.below {apps:List bW} {wy:World} (h:aIE w arr qo qs po n2 ns apps wr) (hb:Bw wr wy):aIE w arr qo qs po n2 ns apps wy:=
 ⟨h.r0.below hb,h.r1.below hb,h.q.below hb,h.p.below hb,h.k.below hb,yB h.b hb,Nat.le_trans h.z hb.size⟩
theorem aIE.sc {apps:List bW} (h:aIE w arr qo qs po n2 ns apps wr) (j:Nat) (v:Value):aIE w (arr.setIfInBounds j v) qo qs po n2 ns apps (wr.setCell ⟨w.heap.size,j,none⟩ v):=
 ⟨h.r0.set j v,h.r1.other _ _ _ (by omega),h.q.sc (by omega),h.p.sc (by omega),h.k.sc (.inl (by omega)),yC h.b _ _ _ (yJ _),by rw [cK];exact h.z⟩
theorem qA.blk {l:List Mac} (h:qA B w ao n l) (hk:k<n):∃g,ao=some ⟨g,0,none⟩∧B≤g∧g<w.heap.size∧(∀j,w.frozen? ⟨g,j,none⟩=false)∧∀i (hi:i<l.length),p9 w g (i*4) l[i]:=by
 obtain ⟨⟨h1,h2⟩,h3⟩:=h;rcases h3 with e | ⟨g,M,rfl,hB,hE,hc,hn⟩
 ·omega
 ·rcases h2 with e | ⟨b,off,e,hh⟩
  ·omega
  ·cases e;exact ⟨g,rfl,hB,hE,fun j=>hc.frozen j,fun i hi=>by have:=hh i hi;rwa [Nat.zero_add] at this⟩
def aHx (w:World) (s:St) (e:Ending) (w':World):Prop:=∃y hs,e=.returned (sv y s)∧wR w.heap.size w'.heap.size w' y s hs∧Bw w w'
theorem oP (x:Sls) (s:St) (w:World) (h:iL w x s) (hf:bH s) :
  cP 45 #[sv x s] w (aHx w s):=by
 obtain ⟨hs0,ZB,hhd⟩:=h.2.1.heads;have TS:=hf.1.2;have hcq:=h.1.1;have ZT:=h.2.1.1;have hcm:=h.2.2.1.1;have hcc:=h.2.2.2.1;have hlq:x.ql≤1048576:=by have:=hf.1.1;omega
 have hla:x.al≤1048576:=by have:=hf.2.1.1;omega
 have hlm:x.ml≤1048576:=by have:=hf.2.2.1.1;omega
 have hlc:x.cl≤1048576:=by have:=hf.2.2.2.1;omega
 obtain ⟨qa,ql,qc,aa,al,ac,ma,ml,mc,ca,cl,cc⟩:=x;obtain ⟨qs,cv,ez,nv,sj,aj,ms,cs⟩:=s;simp only at *;have hb0:=yA (yA (yH _ w) (.cells #[.slice qa ql qc,.int .i64 cv,.int .i64 ez,.int .i64 nv,.int .i64 sj,.slice aa al ac,.slice ma ml mc,.slice ca cl cc] 29)) (.cells #[.slice none 0 0,.int .i64 0,.int .i64 0,.int .i64 0,.int .i64 0,.slice none 0 0,.slice none 0 0,.slice none 0 0] 29);have HB0:=aA hb0;have P0:=aA ((yD w #[.slice qa ql qc,.int .i64 cv,.int .i64 ez,.int .i64 nv,.int .i64 sj,.slice aa al ac,.slice ma ml mc,.slice ca cl cc] 29).al (.cells #[.slice none 0 0,.int .i64 0,.int .i64 0,.int .i64 0,.int .i64 0,.slice none 0 0,.slice none 0 0,.slice none 0 0] 29));have P1:=aA (show Blk _ (w.heap.size+1) #[.slice none 0 0,.int .i64 0,.int .i64 0,.int .i64 0,.int .i64 0,.slice none 0 0,.slice none 0 0,.slice none 0 0] 29 by have:=yD (w.alloc (.cells #[.slice qa ql qc,.int .i64 cv,.int .i64 ez,.int .i64 nv,.int .i64 sj,.slice aa al ac,.slice ma ml mc,.slice ca cl cc] 29)) #[.slice none 0 0,.int .i64 0,.int .i64 0,.int .i64 0,.int .i64 0,.slice none 0 0,.slice none 0 0,.slice none 0 0] 29;rwa [yE] at this);have SQ:=aA h.1;have SV:=aA ZB;have SH:=aA hhd;have SM:=aA h.2.2.1;have SC:=aA h.2.2.2;have HF:=aA hf;have CQ:=aA (wE qa ql qc qs _ (h.1.below hb0) hlq TS);have HNQ:=aA hcq;have UQ:=aA ZT;have PU:=aA hcm;have HNC:=aA hcc;clear h ZB hhd hb0 hf TS hcq ZT hcm hcc;go_enter func45,ntmps45;go_wp2_with fail;refine (uH CQ).mono ?_;rintro e w2 ⟨v,rfl,ho,hb⟩;obtain ⟨qo,qd,rfl,TT,Nv⟩:=p8.has ho;rw [yE,yE] at Nv;have hrq:=jF ho;rw [yE,yE] at hrq;have KS:=aA (RmL.cons hrq (RmL.nil _ _));have HB2:=aA (yB (uH HB0) hb);have Q0:=aA ((uH P0).below hb);have Q1:=aA ((uH P1).below hb);have OQ:=aA Nv;have hz2:w.heap.size+2≤w2.heap.size:=by have:=hb.size;rw [yE,yE] at this;omega
 have d0:=(uH Q0).at 0;have f0:=(uH Q0).f 0;simp at d0;have HQD:=aA TT;clear ho hb Nv hrq HB0 P0 P1 CQ TT;go_upto_region 2 with fail
 have HB3:=aA (yC (uH HB2) w.heap.size 0 (.slice qo qs.length qd) (yJ _));have R0:=aA (show Blk (w2.setCell ⟨w.heap.size,0,none⟩ (.slice qo qs.length qd)) w.heap.size #[.slice qo qs.length qd,.int .i64 cv,.int .i64 ez,.int .i64 nv,.int .i64 sj,.slice aa al ac,.slice ma ml mc,.slice ca cl cc] 29 from (uH Q0).set 0 (.slice qo qs.length qd));have R1:=aA ((uH Q1).other w.heap.size 0 (.slice qo qs.length qd) (by omega));have OQ3:=aA ((uH OQ).sc (k:=w.heap.size) (j:=0) (v:=.slice qo qs.length qd) (by omega));have hz3:w.heap.size+2≤(w2.setCell ⟨w.heap.size,0,none⟩ (.slice qo qs.length qd)).heap.size:=by rw [cK];exact hz2
 have PZ:=aA ((uH KS).sc w.heap.size 0 (.slice qo qs.length qd));generalize w2.setCell ⟨w.heap.size,0,none⟩ (.slice qo qs.length qd)=w3 at HB3 R0 R1 OQ3 PZ hz3 ⊢;clear d0 f0 HB2 Q0 Q1 OQ KS hz2;have CA:=aA (aDJ aa al ac hs0 w3 ((uH SV).below (uH HB3)) hla);have a5:=(uH R0).at 5;simp at a5;go_wp2_with fail;refine (uH CA).mono ?_;rintro e w4 ⟨v,rfl,ho,hb⟩;obtain ⟨po,pd,rfl,MZ,Xq⟩:=aEe (xL ho hz3);have UV:=aA (RmL.cons (jF (xL ho hz3)) ((uH PZ).below hb));have GD:=aA (yB (uH HB3) hb);have Q0:=aA ((uH R0).below hb);have Q1:=aA ((uH R1).below hb);have OQ4:=aA ((uH OQ3).below hb);have Qv:w.heap.size+2≤w4.heap.size:=by have:=hb.size;omega
 obtain ⟨n2,hn2⟩:∃n,hs0.length=n:=⟨_,rfl⟩;rw [hn2] at Xq ⊢;have OP4:=aA Xq;have ZN:=aA hn2;have hl2:n2≤1048576:=by have:=(uH SV).1;omega
 have d5:=(uH Q0).at 5;have f5:=(uH Q0).f 5;simp at d5;have HPD:=aA (show n2≤pd by omega);clear ho hb Xq HB3 R0 R1 OQ3 PZ hz3 CA a5 MZ hn2;go_upto_region 3 with fail
 have GZ:=aA (yC (uH GD) w.heap.size 5 (.slice po n2 pd) (yJ _));have R0:=aA (show Blk (w4.setCell ⟨w.heap.size,5,none⟩ (.slice po n2 pd)) w.heap.size #[.slice qo qs.length qd,.int .i64 cv,.int .i64 ez,.int .i64 nv,.int .i64 sj,.slice po n2 pd,.slice ma ml mc,.slice ca cl cc] 29 from (uH Q0).set 5 (.slice po n2 pd));have R1:=aA ((uH Q1).other w.heap.size 5 (.slice po n2 pd) (by omega));have OQ5:=aA ((uH OQ4).sc (k:=w.heap.size) (j:=5) (v:=.slice po n2 pd) (by omega));have OP5:=aA ((uH OP4).sc (k:=w.heap.size) (j:=5) (v:=.slice po n2 pd) (by omega));have KZ:w.heap.size+2≤(w4.setCell ⟨w.heap.size,5,none⟩ (.slice po n2 pd)).heap.size:=by rw [cK];exact Qv
 have PY:=aA ((uH UV).sc w.heap.size 5 (.slice po n2 pd));generalize w4.setCell ⟨w.heap.size,5,none⟩ (.slice po n2 pd)=w5 at GZ R0 R1 OQ5 OP5 PY KZ ⊢;have a5:=(uH R0).at 5;simp at a5;clear d5 f5 GD Q0 Q1 OQ4 OP4 UV Qv;go_wp2;go_loopw [18] (fun i wr=>∃(k:Nat),k≤n2∧i=.int .i64 k∧Hid (∃ns:List AV,ns.length=k∧oD (w.heap.size+2) wr po n2 (ns++hs0.drop k)∧kC (w.heap.size+2) wr ns (aj.take k)∧RmL (w.heap.size+2) wr ((56,3,po,pd)::(105,4,qo,qd)::ns.map (fun v=>(43,5,v.ao,v.cap))))∧Hid (Blk wr w.heap.size #[.slice qo qs.length qd,.int .i64 cv,.int .i64 ez,.int .i64 nv,.int .i64 sj,.slice po n2 pd,.slice ma ml mc,.slice ca cl cc] 29)∧Hid (Blk wr (w.heap.size+1) #[.slice none 0 0,.int .i64 0,.int .i64 0,.int .i64 0,.int .i64 0,.slice none 0 0,.slice none 0 0,.slice none 0 0] 29)∧Hid (tC (w.heap.size+2) wr qo qs.length qs)∧Hid (Bw w wr)∧w.heap.size+2≤wr.heap.size) (fun i _=>n2 - (intOf i).toNat);case atStart=>exact ⟨0,Nat.zero_le _,rfl,aA ⟨[],rfl,by simpa using uH OP5,by simpa using kC.nil _ _,uH PY⟩,R0,R1,OQ5,GZ,KZ⟩
 case round=>
  obtain ⟨k,hk,rfl,HP,FL,HR1,HQ,HB,hz⟩:=hrel;clear R0 R1 OQ5 OP5 GZ PY KZ a5;by_cases hlt:k<n2
  ·(obtain ⟨ns,hns,Xq,hkh,hrm⟩:=uH HP;obtain ⟨g,M,rfl,hgB,Tj,hbk⟩:=Xq.blk hlt;(have hk0:k<hs0.length:=by have:=uH ZN;omega);(have hk1:k<aj.length:=by have:=(uH SH).1;omega);(have hkl:k<(ns++hs0.drop k).length:=by rw [List.length_append,List.length_drop];omega);have hel:(ns++hs0.drop k)[k]=hs0[k]:=by rw [List.getElem_append_right (by omega)];simp [hns]);have GI:=hbk.2.2 k hkl;rw [hel] at GI;obtain ⟨c0,c1,c2⟩:=GI;obtain ⟨e0,e1,e2,e3⟩:=(uH SH).2 k hk0 hk1;have hfa:=(uH HF).2.1.2 aj[k] (yM hk1);obtain ⟨⟨ai,aq,ak⟩,hap⟩:∃a,aj[k]=a:=⟨_,rfl⟩;obtain ⟨⟨vi,vq,va,vl,vc⟩,hv⟩:∃v,hs0[k]=v:=⟨_,rfl⟩;have qx:∀(no:Option Addr) (nl nd:Nat),(ns++hs0.drop k).set k ⟨vi,vq,no,nl,nd⟩=(ns++[⟨vi,vq,no,nl,nd⟩])++hs0.drop (k+1):=fun no nl nd=>by
    rw [List.set_append_right _ _ (by omega),List.drop_eq_getElem_cons hk0,hns,Nat.sub_self,sB];simp
   (have htk:aj.take (k+1)=aj.take k++[⟨ai,aq,ak⟩]:=by rw [List.take_succ_eq_append_getElem hk1,hap]);rw [hap] at e0 e1 e2 hfa;rw [hv] at c0 c1 c2 e0 e1 e2 e3 hel;simp only at c0 c1 c2 e0 e1 e2 e3 hfa;subst e0 e1;have Hq:=e2.below (uH HB);have HW:=aA (yA (yH _ wr) (.cells #[.int .i64 vi,.string (bs vq),.slice va vl vc] 56));replace hfa:vq.length≤1048576∧ak.length≤1048576∧∀a ∈ ak,a.node.length≤1048576:=⟨hfa.1,hfa.2.1,hfa.2.2⟩;(have hvl:vl≤1048576:=by have:=e2.1;omega);have CC:=aA (fun wx (hb:Below (wr.alloc (.cells #[.int .i64 vi,.string (bs vq),.slice va vl vc] 56)).heap.size (wr.alloc (.cells #[.int .i64 vi,.string (bs vq),.slice va vl vc] 56)) wx)=>aBr vi vq va vl vc ak wx ((Hq.below (uH HW)).below hb) hvl hfa.1 hfa.2.2);have HST:=aA qx;have ZC:=aA htk;have NR:=aA (hkh.below (uH HW));have NF:=aA (hrm.below (uH HW));have LM:=aA (hbk.below (uH HW));have LC:=aA hel;have JS:=aA hns;have X0:=aA ((uH FL).below (uH HW));have X1:=aA ((uH HR1).below (uH HW));have XQ:=aA ((uH HQ).below (uH HW));have XB:=aA (yB (uH HB) (uH HW));have XA:=aA (yD wr #[.int .i64 vi,.string (bs vq),.slice va vl vc] 56);(have Nq:w.heap.size+2≤(wr.alloc (.cells #[.int .i64 vi,.string (bs vq),.slice va vl vc] 56)).heap.size:=by rw [yE];omega);(have k0:(0:Int)≤k:=by omega);(have k1:(k:Int)<n2:=by omega);clear Xq hkh hrm hbk hap hv qx htk Hq e2 e3 hfa hel hk0 hk1 hns;(go_upto_region 6 with fail);obtain ⟨W,hW⟩:∃W,wr.alloc (.cells #[.int .i64 vi,.string (bs vq),.slice va vl vc] 56)=W:=⟨_,rfl⟩;rw [hW] at CC NR NF LM X0 X1 XQ XB XA Nq ⊢;have xa0:=(uH XA).at 0;have xa1:=(uH XA).at 1;have xa2:=(uH XA).at 2;have x5:=(uH X0).at 5;simp at xa0 xa1 xa2 x5;clear hW HW HP FL HR1 HQ HB c0 c1 c2;(go_wp2_with fail);(go_region_with (go_at_call 77;refine (uH CC _ ?_).mono ?_;(exact (yH _ W).drew);rintro e w6 ⟨v,rfl,ho,hb⟩;have Gx:=aA (yB (yH _ W).drew hb);obtain ⟨no,nd,rfl,hnd,hnr,hno⟩:=wP ho;have NL:=aA hnr;have JU:=aA (show eU W.heap.size w6.heap.size w6 43 5 no ak.length from hno);have J4:=aA hnd;have HOA:=aA (show eU W.heap.size w6.heap.size w6 43 5 no nd from jF ho);have XU:=aA ((uH LM).below (uH Gx));have y5:=((uH X0).below (uH Gx)).at 5;have GI:=(uH XU).2.2 k hkl;rw [uH LC] at GI;obtain ⟨c0,c1,c2⟩:=GI;simp only at c0 c1 c2;have s0:=jR c0;have s1:=jR c1;have z0:=(uH XU).1.frozen (k*3);have z1:=(uH XU).1.frozen (k*3+1);have z2:=(uH XU).1.frozen (k*3+2);simp at y5;clear ho hb hnr hno hnd));all_goals go_wp2
   all_goals
    have hkk:∃t N,Cel w6 t g N∧t≠43:=⟨_,_,(uH XU).1,by decide⟩;have hgw:w.heap.size+2≤g:=hgB;go_roundw;case rel=>
     refine ⟨k+1,by omega,by go_num,aA ⟨ns++[⟨vi,vq,no,ak.length,nd⟩],by simp [uH JS],?_,?_,?_⟩,aA (((uH X0).below (uH Gx)).other g _ _ (by omega)),aA (((uH X1).below (uH Gx)).other g _ _ (by omega)),aA ?_,aA (yC (yB (uH XB) (uH Gx)) _ _ _ (by omega)),by rw [cK];have:=(uH Gx).size;omega⟩
     ·have:=(uH XU).asks hkl no ak.length nd;rw [uH LC] at this;simp only at this;rw [uH HST] at this;exact this.has hgB (by have:=uH ZN;have:=uH JS;simp;omega)
     ·rw [uH ZC];exact ((uH NR).snoc (uH Gx) Nq vi vq no nd ak (uH J4) (uH NL) (uH JU)).sc (.inr hkk)
     ·exact ((RmL.cons ((uH HOA).mono Nq (yJ _)) ((uH NF).below (uH Gx))).sub (fun p hp=>by simp only [List.map_append,List.map_cons,List.map_nil,List.mem_cons,List.mem_append,List.not_mem_nil,or_false] at hp ⊢;rcases hp with h | h | h | h<;>simp [h])).sc _ _ _
     ·obtain ⟨t,N,hc,ht⟩:=hkk;have hq:=(uH XQ).below (uH Gx);refine ⟨hq.1.mks (Mks.one (fun x=>x=g) _ g _ _ rfl) (fun i hi e=>?_),by rw [cK];exact hq.2.mks (Mks.one (fun x=>x=g) _ g _ _ rfl)⟩;obtain ⟨_,_,N',hc'⟩:=hq.2.lies i hi;subst e;exact absurd (hc'.type (uH XU).1) (by decide)
    case measure=>simp [intOf];omega
  ·(obtain rfl:k=n2:=by omega);obtain ⟨ns,hns,Xq,hkh,hrm⟩:=uH HP;have hdr:hs0.drop k=[]:=List.drop_of_length_le (by have:=uH ZN;omega);have htk:aj.take k=aj:=List.take_of_length_le (by have:=(uH SH).1;have:=uH ZN;omega);rw [hdr,List.append_nil] at Xq;rw [htk] at hkh;have M0:=aA hrm;have K0:=aA (show aIE w _ qo qs po k ns aj wr from ⟨uH FL,uH HR1,uH HQ,Xq,hkh,uH HB,hz⟩);have CM:=aA (wG ma ml mc ms wr ((uH SM).below (uH HB)) hlm);have a6:=(uH FL).at 6;simp at a6;(have k1:¬(k:Int)<k:=by omega);clear Xq hkh hrm hdr htk HP FL HR1 HQ HB hlt hns;(go_wp2_with fail);refine (uH CM).mono ?_;rintro e w7 ⟨v,rfl,ho,hb⟩;obtain ⟨mo,md,rfl,hmd,RF⟩:=aEm (xX ho hz);have M1:=aA (RmL.cons (jF (xX ho hz)) ((uH M0).below hb));have K1:=aA ((uH K0).below hb);obtain ⟨n3,KI⟩:∃n,ms.length=n:=⟨_,rfl⟩;rw [KI] at RF ⊢;have OM:=aA RF;have HN3:=aA KI;(have hl3:n3≤1048576:=by have:=(uH SM).1;omega);have d6:=(uH K1).r0.at 6;have f6:=(uH K1).r0.f 6;simp at d6;have HMD:=aA (show n3≤md by omega);clear ho hb RF CM a6 hmd KI K0 M0 hz;(go_upto_region 9 with fail);have K2:=aA (show aIE w #[.slice qo qs.length qd,.int .i64 cv,.int .i64 ez,.int .i64 nv,.int .i64 sj,.slice po k pd,.slice mo n3 md,.slice ca cl cc] qo qs po k ns aj (w7.setCell ⟨w.heap.size,6,none⟩ (.slice mo n3 md)) from (uH K1).sc 6 (.slice mo n3 md));have OM2:=aA ((uH OM).sc (k:=w.heap.size) (j:=6) (v:=.slice mo n3 md) (by omega));have M2:=aA ((uH M1).sc w.heap.size 6 (.slice mo n3 md));generalize w7.setCell ⟨w.heap.size,6,none⟩ (.slice mo n3 md)=w8 at K2 OM2 M2 ⊢;have a6:=(uH K2).r0.at 6;simp at a6;clear d6 f6 K1 OM M1;go_wp2;(go_loopw [37] (fun i wr=>∃(j:Nat),j≤n3∧i=.int .i64 j∧Hid (aIE w #[.slice qo qs.length qd,.int .i64 cv,.int .i64 ez,.int .i64 nv,.int .i64 sj,.slice po k pd,.slice mo n3 md,.slice ca cl cc] qo qs po k ns aj wr)∧Hid (qA (w.heap.size+2) wr mo n3 ms)∧Hid (RmL (w.heap.size+2) wr ((103,4,mo,md)::(56,3,po,pd)::(105,4,qo,qd)::ns.map (fun v=>(43,5,v.ao,v.cap))))) (fun i _=>n3 - (intOf i).toNat));(case atStart=>exact ⟨0,Nat.zero_le _,rfl,K2,OM2,M2⟩);case round=>
    obtain ⟨j,hj,rfl,HK,HM,NG⟩:=hrel;clear K2 OM2 M2 a6;by_cases hlt:j<n3
    ·(obtain ⟨g,rfl,hgB,Tj,hfz,hat⟩:=(uH HM).blk hlt;(have hjl:j<ms.length:=by have:=uH HN3;omega);obtain ⟨c0,c1,c2,c3⟩:=hat j hjl;have hnm:=(uH HF).2.2.1.2 ms[j] (yM hjl);obtain ⟨⟨na,me,cp,se⟩,hm⟩:∃m,ms[j]=m:=⟨_,rfl⟩;rw [hm] at c0 c1 c2 c3 hnm;simp only at c0 c1 c2 c3 hnm;have HW:=aA (yA (yH _ wr) (.cells #[.string (bs na),.int .i64 me,.int .i64 cp,.int .i64 se] 103));have X0:=aA ((uH HK).below (uH HW));have XM:=aA ((uH HM).below (uH HW));have XL:=aA ((uH NG).below (uH HW));have XA:=aA (yD wr #[.string (bs na),.int .i64 me,.int .i64 cp,.int .i64 se] 103);have D0:=aA (jW c0 (uH HW));(have hs1:(bs na).size≤281474976710656:=by rw [dD];omega);have CL:=aA (fun wx=>jK (bs na) wx hs1);(have j0:(0:Int)≤j:=by omega);(have j1:(j:Int)<n3:=by omega);clear hat hm hjl hfz hnm;(go_upto_region 12 with fail);obtain ⟨W,hW⟩:∃W,wr.alloc (.cells #[.string (bs na),.int .i64 me,.int .i64 cp,.int .i64 se] 103)=W:=⟨_,rfl⟩;rw [hW] at X0 XM XL XA D0 ⊢;have xa0:=(uH XA).at 0;have x6:=(uH X0).r0.at 6;simp at xa0 x6;clear hW HW HK HM NG c0 c1 c2 c3;(go_wp2_with fail);(go_region_with (go_at_call 87;refine (uH CL _).mono ?_;rintro e w6 ⟨rfl,hb⟩;have Gx:=aA (yB (yH _ W).drew hb);have y6:=((uH X0).below (uH Gx)).r0.at 6;have c0:=jW (uH D0) (uH Gx);have s0:=jR c0;obtain ⟨g',e',_,_,hfz,_⟩:=((uH XM).below (uH Gx)).blk hlt;cases e';have z0:=hfz (j*4);simp at y6;clear hb hfz));all_goals go_wp2);all_goals go_roundw;(case rel=>exact ⟨j+1,by omega,by go_num,aA ((uH X0).below (uH Gx)),aA ((uH XM).below (uH Gx)),aA ((uH XL).below (uH Gx))⟩);case measure=>simp [intOf];omega
    ·(obtain rfl:j=n3:=by omega);have CC:=aA (zI ca cl cc cs wr ((uH SC).below (uH HK).b) hlc (uH HF).2.2.2.2);have a7:=(uH HK).r0.at 7;simp at a7;(have j1:¬(j:Int)<j:=by omega);clear hlt;(go_wp2_with fail);refine (uH CC).mono ?_;rintro e w9 ⟨co,cd,rfl,hcd,DX,hco,hb⟩;have L1:=aA (RmL.cons (hco.mono (uH HK).z (yJ _)) ((uH NG).below hb));have hch:=DX.base (uH HK).z;have K1:=aA ((uH HK).below hb);have OM1:=aA ((uH HM).below hb);obtain ⟨n4,WU⟩:∃n,cs.length=n:=⟨_,rfl⟩;rw [WU] at hch ⊢;have OC:=aA hch;have PV:=aA WU;have d7:=(uH K1).r0.at 7;have f7:=(uH K1).r0.f 7;simp at d7;have HCD:=aA (show n4≤cd by omega);clear DX hco hb hch CC a7 hcd WU HK HM NG;(go_upto_region 15 with fail);have K2:=aA (show aIE w #[.slice qo qs.length qd,.int .i64 cv,.int .i64 ez,.int .i64 nv,.int .i64 sj,.slice po k pd,.slice mo j md,.slice co n4 cd] qo qs po k ns aj (w9.setCell ⟨w.heap.size,7,none⟩ (.slice co n4 cd)) from (uH K1).sc 7 (.slice co n4 cd));have OM2:=aA ((uH OM1).sc (k:=w.heap.size) (j:=7) (v:=.slice co n4 cd) (by omega));have OC2:=aA ((uH OC).sc (k:=w.heap.size) (j:=7) (v:=.slice co n4 cd) (by omega));have L2:=aA ((uH L1).sc w.heap.size 7 (.slice co n4 cd));generalize w9.setCell ⟨w.heap.size,7,none⟩ (.slice co n4 cd)=w10 at K2 OM2 OC2 L2 ⊢;clear d7 f7 K1 OM1 OC L1;have a0:=(uH K2).r0.at 0;have a1:=(uH K2).r0.at 1;have a2:=(uH K2).r0.at 2;have a3:=(uH K2).r0.at 3;have a4:=(uH K2).r0.at 4;have a5:=(uH K2).r0.at 5;have a6:=(uH K2).r0.at 6;have a7:=(uH K2).r0.at 7;have c0:=(uH K2).r1.at 0;have c1:=(uH K2).r1.at 1;have c2:=(uH K2).r1.at 2;have c3:=(uH K2).r1.at 3;have c4:=(uH K2).r1.at 4;have c5:=(uH K2).r1.at 5;have c6:=(uH K2).r1.at 6;have c7:=(uH K2).r1.at 7;have f0:=(uH K2).r1.f 0;have f1:=(uH K2).r1.f 1;have f2:=(uH K2).r1.f 2;have f3:=(uH K2).r1.f 3;have f4:=(uH K2).r1.f 4;have f5:=(uH K2).r1.f 5;have f6:=(uH K2).r1.f 6;have f7:=(uH K2).r1.f 7;simp at a0 a1 a2 a3 a4 a5 a6 a7 c0 c1 c2 c3 c4 c5 c6 c7;go_wp2;have R9:=aA (show Blk ((((((((w10.setCell ⟨w.heap.size+1,0,none⟩ (.slice qo qs.length qd)).setCell ⟨w.heap.size+1,1,none⟩ (.int .i64 cv)).setCell ⟨w.heap.size+1,2,none⟩ (.int .i64 ez)).setCell ⟨w.heap.size+1,3,none⟩ (.int .i64 nv)).setCell ⟨w.heap.size+1,4,none⟩ (.int .i64 sj)).setCell ⟨w.heap.size+1,5,none⟩ (.slice po k pd)).setCell ⟨w.heap.size+1,6,none⟩ (.slice mo j md)).setCell ⟨w.heap.size+1,7,none⟩ (.slice co n4 cd)) (w.heap.size+1) #[.slice qo qs.length qd,.int .i64 cv,.int .i64 ez,.int .i64 nv,.int .i64 sj,.slice po k pd,.slice mo j md,.slice co n4 cd] 29 from (((((((((uH K2).r1.set 0 (.slice qo qs.length qd)).set 1 (.int .i64 cv)).set 2 (.int .i64 ez)).set 3 (.int .i64 nv)).set 4 (.int .i64 sj)).set 5 (.slice po k pd)).set 6 (.slice mo j md)).set 7 (.slice co n4 cd)));have Q9:=aA ((((((((((uH K2).q.sc (k:=w.heap.size+1) (j:=0) (v:=.slice qo qs.length qd) (by omega)).sc (k:=w.heap.size+1) (j:=1) (v:=.int .i64 cv) (by omega)).sc (k:=w.heap.size+1) (j:=2) (v:=.int .i64 ez) (by omega)).sc (k:=w.heap.size+1) (j:=3) (v:=.int .i64 nv) (by omega)).sc (k:=w.heap.size+1) (j:=4) (v:=.int .i64 sj) (by omega)).sc (k:=w.heap.size+1) (j:=5) (v:=.slice po k pd) (by omega)).sc (k:=w.heap.size+1) (j:=6) (v:=.slice mo j md) (by omega)).sc (k:=w.heap.size+1) (j:=7) (v:=.slice co n4 cd) (by omega)));have P9:=aA ((((((((((uH K2).p.sc (k:=w.heap.size+1) (j:=0) (v:=.slice qo qs.length qd) (by omega)).sc (k:=w.heap.size+1) (j:=1) (v:=.int .i64 cv) (by omega)).sc (k:=w.heap.size+1) (j:=2) (v:=.int .i64 ez) (by omega)).sc (k:=w.heap.size+1) (j:=3) (v:=.int .i64 nv) (by omega)).sc (k:=w.heap.size+1) (j:=4) (v:=.int .i64 sj) (by omega)).sc (k:=w.heap.size+1) (j:=5) (v:=.slice po k pd) (by omega)).sc (k:=w.heap.size+1) (j:=6) (v:=.slice mo j md) (by omega)).sc (k:=w.heap.size+1) (j:=7) (v:=.slice co n4 cd) (by omega)));have K9:=aA ((((((((((uH K2).k.sc (k:=w.heap.size+1) (j:=0) (v:=.slice qo qs.length qd) (.inl (by omega))).sc (k:=w.heap.size+1) (j:=1) (v:=.int .i64 cv) (.inl (by omega))).sc (k:=w.heap.size+1) (j:=2) (v:=.int .i64 ez) (.inl (by omega))).sc (k:=w.heap.size+1) (j:=3) (v:=.int .i64 nv) (.inl (by omega))).sc (k:=w.heap.size+1) (j:=4) (v:=.int .i64 sj) (.inl (by omega))).sc (k:=w.heap.size+1) (j:=5) (v:=.slice po k pd) (.inl (by omega))).sc (k:=w.heap.size+1) (j:=6) (v:=.slice mo j md) (.inl (by omega))).sc (k:=w.heap.size+1) (j:=7) (v:=.slice co n4 cd) (.inl (by omega))));have M9:=aA ((((((((((uH OM2).sc (k:=w.heap.size+1) (j:=0) (v:=.slice qo qs.length qd) (by omega)).sc (k:=w.heap.size+1) (j:=1) (v:=.int .i64 cv) (by omega)).sc (k:=w.heap.size+1) (j:=2) (v:=.int .i64 ez) (by omega)).sc (k:=w.heap.size+1) (j:=3) (v:=.int .i64 nv) (by omega)).sc (k:=w.heap.size+1) (j:=4) (v:=.int .i64 sj) (by omega)).sc (k:=w.heap.size+1) (j:=5) (v:=.slice po k pd) (by omega)).sc (k:=w.heap.size+1) (j:=6) (v:=.slice mo j md) (by omega)).sc (k:=w.heap.size+1) (j:=7) (v:=.slice co n4 cd) (by omega)));have C9:=aA ((((((((((uH OC2).sc (k:=w.heap.size+1) (j:=0) (v:=.slice qo qs.length qd) (by omega)).sc (k:=w.heap.size+1) (j:=1) (v:=.int .i64 cv) (by omega)).sc (k:=w.heap.size+1) (j:=2) (v:=.int .i64 ez) (by omega)).sc (k:=w.heap.size+1) (j:=3) (v:=.int .i64 nv) (by omega)).sc (k:=w.heap.size+1) (j:=4) (v:=.int .i64 sj) (by omega)).sc (k:=w.heap.size+1) (j:=5) (v:=.slice po k pd) (by omega)).sc (k:=w.heap.size+1) (j:=6) (v:=.slice mo j md) (by omega)).sc (k:=w.heap.size+1) (j:=7) (v:=.slice co n4 cd) (by omega)));have L9:=aA (((((((((uH L2).sc (w.heap.size+1) 0 (.slice qo qs.length qd)).sc (w.heap.size+1) 1 (.int .i64 cv)).sc (w.heap.size+1) 2 (.int .i64 ez)).sc (w.heap.size+1) 3 (.int .i64 nv)).sc (w.heap.size+1) 4 (.int .i64 sj)).sc (w.heap.size+1) 5 (.slice po k pd)).sc (w.heap.size+1) 6 (.slice mo j md)).sc (w.heap.size+1) 7 (.slice co n4 cd));have B9:=aA ((yC (yC (yC (yC (yC (yC (yC (yC (uH K2).b (w.heap.size+1) 0 (.slice qo qs.length qd) (by omega)) (w.heap.size+1) 1 (.int .i64 cv) (by omega)) (w.heap.size+1) 2 (.int .i64 ez) (by omega)) (w.heap.size+1) 3 (.int .i64 nv) (by omega)) (w.heap.size+1) 4 (.int .i64 sj) (by omega)) (w.heap.size+1) 5 (.slice po k pd) (by omega)) (w.heap.size+1) 6 (.slice mo j md) (by omega)) (w.heap.size+1) 7 (.slice co n4 cd) (by omega)));generalize ((((((((w10.setCell ⟨w.heap.size+1,0,none⟩ (.slice qo qs.length qd)).setCell ⟨w.heap.size+1,1,none⟩ (.int .i64 cv)).setCell ⟨w.heap.size+1,2,none⟩ (.int .i64 ez)).setCell ⟨w.heap.size+1,3,none⟩ (.int .i64 nv)).setCell ⟨w.heap.size+1,4,none⟩ (.int .i64 sj)).setCell ⟨w.heap.size+1,5,none⟩ (.slice po k pd)).setCell ⟨w.heap.size+1,6,none⟩ (.slice mo j md)).setCell ⟨w.heap.size+1,7,none⟩ (.slice co n4 cd))=W9 at R9 Q9 P9 K9 M9 C9 L9 B9 ⊢;obtain ⟨z0,z1,z2,z3,z4,z5,z6,z7⟩:=zq (uH R9);refine bodyPost_ret (v:=.agg #[.slice qo qs.length qd,.int .i64 cv,.int .i64 ez,.int .i64 nv,.int .i64 sj,.slice po k pd,.slice mo j md,.slice co n4 cd]) (by simp [results,results45,go_sem,z0,z1,z2,z3,z4,z5,z6,z7]) rfl (show aHx w _ _ _ from ⟨⟨qo,qs.length,qd,po,k,pd,mo,j,md,co,n4,cd⟩,ns,rfl,?_,uH B9⟩);exact (aD8 (x:=⟨qo,qs.length,qd,po,k,pd,mo,j,md,co,n4,cd⟩) (s:=⟨qs,cv,ez,nv,sj,aj,ms,cs⟩) (uH Q9) (uH P9) (uH K9) (uH M9) (uH C9) ⟨uH HQD,uH HPD,uH HMD,uH HCD⟩ (aJR (x:=⟨qo,qs.length,qd,po,k,pd,mo,j,md,co,n4,cd⟩) ((uH L9).sub (fun p hp=>by simp only [RL4,List.mem_cons,List.mem_map] at hp ⊢;rcases hp with h | h | h | h<;>simp [h])) (uH L9 (56,3,po,pd) (by simp)))).mono (by omega) (yJ _)
theorem iF {p:Nat} {u:Value} (h:w.cell? ⟨b,p,none⟩=some u) (hb:w'.heap[b]? = w.heap[b]?):w'.cell? ⟨b,p,none⟩=some u:=(World.cell?_of_block (w:=w) (a:=⟨b,p,none⟩) hb).trans h
theorem gN.kept {len:Nat} {l:List Q} (h:gN w ao len l) (hs:∀k,inR ao len k→w'.heap[k]? = w.heap[k]?):gN w' ao len l:=by
 obtain ⟨h1,h2⟩:=h;refine ⟨h1,?_⟩;rcases h2 with h2 | ⟨b,off,h3,h4⟩
 ·exact .inl h2
 ·by_cases hz:len=0
  ·exact .inl hz
  ·have hb:=hs b ⟨hz,off,h3⟩;exact .inr ⟨b,off,h3,fun i h=>let ⟨a,c,d,e⟩:=h4 i h;⟨iF a hb,iF c hb,iF d hb,iF e hb⟩⟩
theorem dB.kept {len:Nat} {l:List Mac} (h:dB w ao len l) (hs:∀k,inR ao len k→w'.heap[k]? = w.heap[k]?):dB w' ao len l:=by
 obtain ⟨h1,h2⟩:=h;refine ⟨h1,?_⟩;rcases h2 with h2 | ⟨b,off,h3,h4⟩
 ·exact .inl h2
 ·by_cases hz:len=0
  ·exact .inl hz
  ·have hb:=hs b ⟨hz,off,h3⟩;exact .inr ⟨b,off,h3,fun i h=>let ⟨a,c,d,e⟩:=h4 i h;⟨iF a hb,iF c hb,iF d hb,iF e hb⟩⟩
theorem dC.kept {len:Nat} {l:List Con} (h:dC w ao len l) (hs:∀k,inR ao len k→w'.heap[k]? = w.heap[k]?):dC w' ao len l:=by
 obtain ⟨h1,h2⟩:=h;refine ⟨h1,?_⟩;rcases h2 with h2 | ⟨b,off,h3,h4⟩
 ·exact .inl h2
 ·by_cases hz:len=0
  ·exact .inl hz
  ·have hb:=hs b ⟨hz,off,h3⟩;exact .inr ⟨b,off,h3,fun i h=>let ⟨a,c,d,e,f⟩:=h4 i h;⟨iF a hb,iF c hb,iF d hb,iF e hb,iF f hb⟩⟩
theorem bD.kept {len:Nat} {l:List Ask} (h:bD w ao len l) (hs:∀k,inR ao len k→w'.heap[k]? = w.heap[k]?):bD w' ao len l:=by
 obtain ⟨h1,h2⟩:=h;refine ⟨h1,?_⟩;rcases h2 with h2 | ⟨b,off,h3,h4⟩
 ·exact .inl h2
 ·by_cases hz:len=0
  ·exact .inl hz
  ·have hb:=hs b ⟨hz,off,h3⟩;exact .inr ⟨b,off,h3,fun i h=>let ⟨a,c,d,e,f⟩:=h4 i h;⟨iF a hb,iF c hb,iF d hb,iF e hb,iF f hb⟩⟩
theorem gM.kept {len:Nat} (h:gM w ao len l) (hs:∀k,inR ao len k→w'.heap[k]? = w.heap[k]?):gM w' ao len l:=by
 obtain ⟨h1,h2⟩:=h;refine ⟨h1,?_⟩;rcases h2 with h2 | ⟨b,off,h3,h4⟩
 ·exact .inl h2
 ·by_cases hz:len=0
  ·exact .inl hz
  ·have hb:=hs b ⟨hz,off,h3⟩;exact .inr ⟨b,off,h3,fun i h=>let ⟨a,c,d⟩:=h4 i h;⟨iF a hb,iF c hb,iF d hb⟩⟩
theorem iD (h:eU B w.heap.size w t sz ao n) (hg:w.grownBy w' r) (hr:∀k,r=some k→∃N,Cel w t' k N) (ht:t'≠t):(∀k,inR ao n k→w'.heap[k]? = w.heap[k]?)∧eU B w'.heap.size w' t sz ao n:=by
 have key:∀k,inR ao n k→w'.heap[k]? = w.heap[k]?:=fun k hk=>by
  obtain ⟨_,h2,N,h3⟩:=h.lies k hk;refine hg.block k h2 (fun e=>?_);obtain ⟨N',h4⟩:=hr k e.symm;exact ht (h4.type h3)
 refine ⟨key,?_⟩;rcases h with e | ⟨g,M,e,h1,h2,h3,h4⟩
 ·exact .inl e
 ·by_cases hz:n=0
  ·exact .inl hz
  ·exact .inr ⟨g,M,e,h1,Nat.lt_of_lt_of_le h2 hg.size,h3.of_block (key g ⟨hz,0,e⟩),h4⟩
theorem tC.grown {l:List Q} (h:tC B w ao n l) (hg:w.grownBy w' r) (hr:∀k,r=some k→∃N,Cel w t' k N) (ht:t'≠105):tC B w' ao n l:=⟨h.1.kept (iD h.2 hg hr ht).1,(iD h.2 hg hr ht).2⟩
theorem qA.grown {l:List Mac} (h:qA B w ao n l) (hg:w.grownBy w' r) (hr:∀k,r=some k→∃N,Cel w t' k N) (ht:t'≠103):qA B w' ao n l:=⟨h.1.kept (iD h.2 hg hr ht).1,(iD h.2 hg hr ht).2⟩
theorem nU.grown {l:List Con} (h:nU B w ao n l) (hg:w.grownBy w' r) (hr:∀k,r=some k→∃N,Cel w t' k N) (ht:t'≠35):nU B w' ao n l:=⟨h.1.kept (iD h.2 hg hr ht).1,(iD h.2 hg hr ht).2⟩
theorem oD.grown (h:oD B w ao n l) (hg:w.grownBy w' r) (hr:∀k,r=some k→∃N,Cel w t' k N) (ht:t'≠56):oD B w' ao n l:=⟨h.1.kept (iD h.2 hg hr ht).1,(iD h.2 hg hr ht).2⟩
theorem kC.grown {l:List bW} (h:kC B w hs l) (hg:w.grownBy w' r) (hr:∀k,r=some k→∃N,Cel w t' k N) (ht:t'≠43):kC B w' hs l:=
 ⟨⟨h.heads.1,fun i h1 h2=>let ⟨a,b,c,d⟩:=h.heads.2 i h1 h2;⟨a,b,c.kept (iD (h.own _ (yM h1)) hg hr ht).1,d⟩⟩,fun v hv=>(iD (h.own v hv) hg hr ht).2,h.apart⟩
theorem aIZ {e:TypeId} {v:Value} {xs:List Value} (h:w.ownsRow B e sz v n xs):∀k,v.ownBlock=some k→∃N,Cel w e k N:=fun k hk=>by
 rcases h.2 with ⟨rfl,_⟩ | ⟨g,cap,cur,rfl,_,h2,_⟩
 ·simp [Value.ownBlock] at hk
 ·obtain rfl:g=k:=by simpa [Value.ownBlock] using hk
  exact ⟨_,cur,h2,rfl⟩
theorem Blk.grown (h:Blk w g arr t) (hg:w.grownBy w' r) (hr:∀k,r=some k→∃N,Cel w t' k N) (ht:t'≠t):Blk w' g arr t:=
 (hg.block g h.lt (fun e=>by obtain ⟨N,h4⟩:=hr g e.symm;exact ht (h4.type ⟨arr,h,rfl⟩))).trans h
theorem aBk (w:World) (g j:Nat) (v:Value):w.grownBy (w.setCell ⟨g,j,none⟩ v) (some g):=⟨rfl,rfl,rfl,by simp [World.setCell],fun k _ hne=>Below.heap_setCell _ _ _ _ (by show k≠g;intro e;exact hne (by rw [e]))⟩
structure aHu (x:Sls) (hs:List AV):Prop where
 q:x.qa=none→x.ql=0∧x.qc=0
 m:x.ma=none→x.ml=0∧x.mc=0
 c:x.ca=none→x.cl=0∧x.cc=0
 k:∀v ∈ hs,v.ao=none→v.len=0∧v.cap=0
theorem wL (h:eU B E w t sz ao c) (hn:n≤c) (e:ao=none):n=0∧c=0:=by
 rcases h with h | ⟨g,M,h1,_⟩
 ·omega
 ·rw [e] at h1;cases h1
theorem wR.some (h:wR B E w x s hs):aHu x hs:=
 ⟨wL h.rm.1 h.cap.q,wL h.rm.2.2.1 h.cap.m,wL h.rm.2.2.2.1 h.cap.c,fun v hv=>wL (h.rm.2.2.2.2 v hv) (by
  obtain ⟨i,hi,rfl⟩:=List.getElem_of_mem hv;exact (h.heads.2 i hi (by rw [←h.heads.1];exact hi)).2.2.2)⟩
theorem dR:∀a b:List Con,aJ (a++b)=aJ a++aJ b
 | [],b=>rfl
 | q::t,b=>by rw [List.cons_append,aJ,aJ,dR t b,List.append_assoc]
theorem Lay.rowC {l:List Con} (h:Lay w 35 g M (aJ l)):dC w (some ⟨g,0,none⟩) l.length l:=by
 refine ⟨rfl,.inr ⟨g,0,rfl,fun i hi=>?_⟩⟩;obtain ⟨a,b,c,d,e⟩:=oU l i hi;unfold qZ;simp only [Nat.zero_add];exact ⟨h.cell a,h.cell b,h.cell c,h.cell d,h.cell e⟩
theorem Mks.grown (h:Mks (fun k=>k=g) w w'):w.grownBy w' (some g):=⟨h.os,h.tape,h.output,h.size,fun k hk hne=>h.block k hk (fun e=>hne (by rw [e]))⟩
def aLQ (w w':World):Prop:=∀k arr,Blk w k arr 29→Blk w' k arr 29
theorem aLQ.trans {a b c:World} (h:aLQ a b) (h':aLQ b c):aLQ a c:=fun k arr x=>h' k arr (h k arr x)
theorem Lay.rowM {l:List Mac} (h:Lay w 103 g M (eD l)):dB w (some ⟨g,0,none⟩) l.length l:=by
 refine ⟨rfl,.inr ⟨g,0,rfl,fun i hi=>?_⟩⟩;obtain ⟨a,b,c,d⟩:=r9 l i hi;unfold p9;simp only [Nat.zero_add];exact ⟨h.cell a,h.cell b,h.cell c,h.cell d⟩
theorem Lay.rowP (h:Lay w 56 g M (dF l)):gM w (some ⟨g,0,none⟩) l.length l:=by
 refine ⟨rfl,.inr ⟨g,0,rfl,fun i hi=>?_⟩⟩;obtain ⟨a,b,c⟩:=lI l i hi;unfold aGO;simp only [Nat.zero_add];exact ⟨h.cell a,h.cell b,h.cell c⟩
theorem tC.base {l:List Q} (h:tC B w ao n l) (hb:B'≤B):tC B' w ao n l:=⟨h.1,h.2.mono hb (yJ _)⟩
theorem qA.base {l:List Mac} (h:qA B w ao n l) (hb:B'≤B):qA B' w ao n l:=⟨h.1,h.2.mono hb (yJ _)⟩
theorem oD.base (h:oD B w ao n l) (hb:B'≤B):oD B' w ao n l:=⟨h.1,h.2.mono hb (yJ _)⟩
theorem kC.base {l:List bW} (h:kC B w hs l) (hb:B'≤B):kC B' w hs l:=⟨h.heads,fun v hv=>(h.own v hv).mono hb (yJ _),h.apart⟩
theorem aHR (w:World):lQ w [] []:=⟨rfl,fun i h=>absurd h (by simp)⟩
theorem aFn {t:List AV} {a:bW} {s:List bW} (h:lQ w (v::t) (a::s)):(v.id=a.id∧v.queue=a.queue∧bD w v.ao v.len a.asks∧v.len≤v.cap)∧lQ w t s:=
 ⟨h.2 0 (by simp) (by simp),by simpa using h.1,fun i h1 h2=>by have:=h.2 (i+1) (by simpa using h1) (by simpa using h2);simpa using this⟩
theorem aHQ {t:List AV} {a:bW} {s:List bW} (h:v.id=a.id∧v.queue=a.queue∧bD w v.ao v.len a.asks∧v.len≤v.cap) (h':lQ w t s):lQ w (v::t) (a::s):=
 ⟨by simp [h'.1],fun i h1 h2=>by
  cases i with
  | zero=>exact h
  | succ i=>exact h'.2 i (by simpa using h1) (by simpa using h2)⟩
theorem vG {w:World} (f:Int→Bool):∀(hs:List AV) (l:List bW),lQ w hs l→lQ w (hs.filter (fun v=>f v.id)) (l.filter (fun a=>f a.id))
 | [],[],_=>aHR w
 | [],a::s,h=>absurd h.1 (by simp)
 | v::t,[],h=>absurd h.1 (by simp)
 | v::t,a::s,h=>by
  obtain ⟨h1,h2⟩:=aFn h;have ih:=vG f t s h2;cases hf:f a.id with
  | true=>rw [List.filter_cons_of_pos (by simpa [h1.1] using hf),List.filter_cons_of_pos (by simpa using hf)];exact aHQ h1 ih
  | false=>rw [List.filter_cons_of_neg (by simp [h1.1,hf]),List.filter_cons_of_neg (by simp [hf])];exact ih
theorem kC.filter {l:List bW} (h:kC B w hs l) (f:Int→Bool):kC B w (hs.filter (fun v=>f v.id)) (l.filter (fun a=>f a.id)):=
 ⟨vG f hs l h.heads,fun v hv=>h.own v (List.mem_filter.1 hv).1,h.apart.filter _⟩
structure bN (B:Nat) (w:World) (x:Sls) (s:St) (hs:List AV):Prop where
 q:tC B w x.qa x.ql s.qs
 p:oD B w x.aa x.al hs
 k:kC B w hs s.apps
 m:qA B w x.ma x.ml s.ms
 c:nU B w x.ca x.cl s.cs
 cap:aL4 x
 rm:RmS B w.heap.size w x hs
theorem bN.below (h:bN B w x s hs) (hb:Bw w w'):bN B w' x s hs:=⟨h.q.below hb,h.p.below hb,h.k.below hb,h.m.below hb,h.c.below hb,h.cap,(h.rm.below hb).mono (yJ _) hb.size⟩
theorem bN.base (h:bN B w x s hs) (hb:B'≤B):bN B' w x s hs:=⟨h.q.base hb,h.p.base hb,h.k.base hb,h.m.base hb,h.c.base hb,h.cap,h.rm.mono hb (yJ _)⟩
theorem bN.ans (h:bN B w x s hs):wR B w.heap.size w x s hs:=aD8 h.q h.p h.k h.m h.c h.cap h.rm
theorem wR.has (h:wR B E w x s hs) (hE:E≤w.heap.size):bN B w x s hs:=
 ⟨⟨h.row.1,h.q.mono (yJ _) hE⟩,⟨h.av,h.a.mono (yJ _) hE⟩,⟨h.heads,fun v hv=>(h.asks v hv).mono (yJ _) hE,h.apart⟩,⟨h.row.2.2.1,h.m.mono (yJ _) hE⟩,⟨h.row.2.2.2,h.c.mono (yJ _) hE⟩,h.cap,h.rm.mono (yJ _) hE⟩
theorem aG1:(Tryz.prog.info? 29).map (·.size)=some 8:=by kernel_rfl
theorem wY (h:Blk w b arr 29) (hs:arr.size=8):(Instr.loadAt 29 (.pointer (some ⟨b,0,none⟩))).run Tryz.prog w=.ok (.agg arr) w:=by
 simp only [Instr.loadAt,Instr.sureAddr,Sem.run_bind,Sem.run_pure,Result.andThen];exact run_loadVar_row w b 29 29 arr (0,0) _ h underlying29 rfl (by rw [aG1,hs])
theorem rD (h:Blk w b old 29) (ho:old.size=8) (hs:arr.size=8) (h1:arr.all (·.oneCell')=true):(Instr.storeAt 29 (.pointer (some ⟨b,0,none⟩)) (.agg arr)).run Tryz.prog w=.ok () (w.setRow b arr):=by
 simp only [Instr.storeAt,Instr.sureAddr,Sem.run_bind,Sem.run_pure,Result.andThen];exact run_storeVar_row w b 29 29 old arr h (by rw [aG1,hs]) (by rw [ho,hs]) h1
theorem jM (h:Blk w b old t) (arr:Array Value):Blk (w.setRow b arr) b arr t:=setRow_heap w b old arr t (0,0) h
theorem jU (h:Blk w b old t) (arr:Array Value) (hs:arr.size=old.size):Mks (fun k=>k=b) w (w.setRow b arr):=by
 refine ⟨rfl,rfl,rfl,by rw [setRow_size];exact yJ _,fun k _ hk=>setRow_other w b k arr hk,fun t' g N hc=>?_⟩;by_cases e:g=b
 ·subst e;obtain ⟨c,h1,h2⟩:=hc;rw [h] at h1;cases h1;exact ⟨arr,jM h arr,by omega⟩
 ·exact hc.of_block (setRow_other w b g arr e)
theorem fP (h:eU B w.heap.size w t sz ao n) (hm:Mks S w w') (hS:∀k,S k→∃N,Cel w t' k N) (ht:t'≠t):(∀k,inR ao n k→¬S k)∧eU B w'.heap.size w' t sz ao n:=by
 refine ⟨fun k hk e=>?_,(h.mks hm).mono (yJ _) hm.size⟩;obtain ⟨_,_,N',h2⟩:=h.lies k hk;obtain ⟨N,h3⟩:=hS k e;exact ht (h3.type h2)
section
variable {B:Nat} {S:Nat→Prop} {w w':World}
theorem tC.mkc {l:List Q} (h:tC B w ao n l) (hm:Mks S w w') (hS:∀k,S k→∃N,Cel w 56 k N):tC B w' ao n l:=
 ⟨h.1.mks hm (fP h.2 hm hS (by decide)).1,(fP h.2 hm hS (by decide)).2⟩
theorem qA.mkc {l:List Mac} (h:qA B w ao n l) (hm:Mks S w w') (hS:∀k,S k→∃N,Cel w 56 k N):qA B w' ao n l:=
 ⟨h.1.mks hm (fP h.2 hm hS (by decide)).1,(fP h.2 hm hS (by decide)).2⟩
theorem nU.mkc {l:List Con} (h:nU B w ao n l) (hm:Mks S w w') (hS:∀k,S k→∃N,Cel w 56 k N):nU B w' ao n l:=
 ⟨h.1.mks hm (fP h.2 hm hS (by decide)).1,(fP h.2 hm hS (by decide)).2⟩
theorem kC.mkc {l:List bW} (h:kC B w hs l) (hm:Mks S w w') (hS:∀k,S k→∃N,Cel w 56 k N):kC B w' hs l:=
 ⟨⟨h.heads.1,fun i h1 h2=>let ⟨a,b',c,d⟩:=h.heads.2 i h1 h2;⟨a,b',c.mks hm (fP (h.own _ (yM h1)) hm hS (by decide)).1,d⟩⟩,fun v hv=>(fP (h.own v hv) hm hS (by decide)).2,h.apart⟩
end
theorem eU.le (h:eU B E w t sz ao n) (hm:m≤n):eU B E w t sz ao m:=by
 rcases h with h | ⟨g,M,h1,h2,h3,h4,h5⟩
 ·exact .inl (by omega)
 ·exact .inr ⟨g,M,h1,h2,h3,h4,by omega⟩
theorem bN.add (h:bN B w x s hs) (hB:B≤w.heap.size) (app nx:Int) (qu:List UInt8)
  (ha:aDV B w 56 3 x.aa (x.al+1) (dF hs++aAK ⟨app,qu,none,0,0⟩) g cap w') :
  bN B w' ⟨x.qa,x.ql,x.qc,some ⟨g,0,none⟩,x.al+1,cap,x.ma,x.ml,x.mc,x.ca,x.cl,x.cc⟩ ⟨s.qs,s.clock,s.epoch,nx,s.serial,s.apps++[⟨app,qu,[]⟩],s.ms,s.cs⟩ (hs++[⟨app,qu,none,0,0⟩]):=by
 have hS:∀k,(∃N,Cel w 56 k N∧B≤k)→∃N,Cel w 56 k N:=fun k hk=>let ⟨N,a,_⟩:=hk;⟨N,a⟩
 have hal:x.al=hs.length:=h.p.1.1;have hrm:=(h.rm.mks ha.mks).mono (yJ B) ha.mks.size;have hk:=h.k.mkc ha.mks hS;refine ⟨h.q.mkc ha.mks hS,⟨?_,ha.own.le ha.cap⟩,?_,h.m.mkc ha.mks hS,h.c.mkc ha.mks hS,⟨h.cap.q,ha.cap,h.cap.m,h.cap.c⟩,⟨hrm.1,ha.own,hrm.2.2.1,hrm.2.2.2.1,fun v hv=>?_⟩⟩
 ·rcases ha.own with e | ⟨g',M,e,_,_,hc,hM⟩
  ·have:=ha.cap;omega
  ·(cases e;have hl:(dF (hs++[⟨app,qu,none,0,0⟩])).length≤M*3:=by rw [gT,List.length_append];exact Nat.mul_le_mul_right _ (by have:=ha.cap;simp;omega));have:=(yP hc (cs:=dF (hs++[⟨app,qu,none,0,0⟩])) (by rw [pG];exact ha.cells) hl).rowP;rw [List.length_append] at this;rw [hal];exact this
 ·exact hk.snoc (yH _ _) (Nat.le_trans hB ha.mks.size) app qu none 0 [] (yJ _) ⟨rfl,.inl rfl⟩ (.inl rfl)
 ·rcases List.mem_append.1 hv with hv | hv
  ·exact hrm.2.2.2.2 v hv
  ·obtain rfl:=List.mem_singleton.1 hv;exact .inl rfl
theorem aKC:∃i0 z,Tryz.prog.info? 35=some i0∧i0.size=5∧i0.zero=some z∧z.cells.size=5∧0<i0.bytes∧i0.bytes≤100:=by
 have h:(Tryz.prog.info? 35).map (fun i=>(i.size,i.zero.map (fun z=>z.cells.size),decide (0<i.bytes∧i.bytes≤100)))=some (5,some 5,true):=by kernel_rfl
 cases hq:Tryz.prog.info? 35 with
 | none=>rw [hq] at h;simp at h
 | some i=>
  rw [hq] at h;simp at h;cases hz:i.zero with
  | none=>rw [hz] at h;simp at h
  | some z=>rw [hz] at h;simp at h;exact ⟨i,z,rfl,h.1,hz,h.2.1,h.2.2.1,h.2.2.2⟩
theorem pX (l:List Con) (q:Con) (i:Nat):aJ (l.take i++q::l.drop i)=aJ (l.take i)++(fA q++aJ (l.drop i)):=by
 rw [dR];rfl
def CRm (B:Nat) (w:World) (ao:Option Addr) (n cap:Nat) (l:List Con):Prop:=dC w ao n l∧wH B w 35 5 ao n cap
def mD (B:Nat) (ao:Option Addr) (n cap:Nat) (l:List Con) (w:World) (e:Ending) (w':World):Prop:=
 ∃ao' cap',e=.returned (.slice ao' (n+1) cap')∧CRm B w' ao' (n+1) cap' l∧Mks (fun k=>cap≠0∧∃N,Cel w 35 k N∧B≤k∧∃o,ao=some ⟨k,o,none⟩) w w'∧(cap≠0∧ao'=ao∨∃g',ao'=some ⟨g',0,none⟩∧w.heap.size≤g')
theorem CRm.cells {l:List Con} (h:CRm B w (some ⟨g,0,none⟩) n cap l) (h0:0<cap):∃M,B≤g∧Lay w 35 g (M*5) (aJ l)∧cap≤M∧n=l.length∧n≤cap:=by
 obtain ⟨h1,h2,h4⟩:=h;rcases h4 with e | ⟨g',M,e,hB,hc,hM⟩
 ·omega
 ·cases e;have hl:=h1.1;exact ⟨M,hB,yP hc (fun j u hj=>by have:=fO h1 j u hj;rwa [Nat.zero_add] at this) (by rw [bO,←hl];exact Nat.mul_le_mul_right _ (by omega)),hM,hl,h2⟩
theorem Lay.Crm {l:List Con} (h:Lay w 35 g (M*5) (aJ l)) (hB:B≤g) (hM:cap≤M) (hn:n=l.length) (hc:n≤cap):CRm B w (some ⟨g,0,none⟩) n cap l:=by
 subst hn;refine ⟨?_,hc,.inr ⟨g,M,rfl,hB,h.cel,hM⟩⟩;exact h.rowC
theorem aED (g n cap gv m:Nat) (hm:m=1) (l:List Con) (q:Con) (w:World) (h:CRm B w (some ⟨g,0,none⟩) n cap l) (hv:Blk w gv (fA q).toArray 35) (hne:g≠gv) (hroom:n+1≤cap) (hn:n≤1048576) :
  cP 113 #[.slice (some ⟨g,0,none⟩) n cap,.int .i64 (n:Int),.slice (some ⟨gv,0,none⟩) m m] w (mD B (some ⟨g,0,none⟩) n cap (l++[q]) w):=by
 obtain ⟨i0,z,hi0,hsz,hz0,hzc,hb0,hb1⟩:=aKC;obtain ⟨M,hB,GH,hM,hl,hnc⟩:=h.cells (by omega);have hnl:(fA q).length=5:=rfl;obtain ⟨N',hN'⟩:∃k,k=n+1:=⟨_,rfl⟩;obtain ⟨W',hW'⟩:∃k,k=(w.setCells g (0+n*i0.size) (fA q)):=⟨_,rfl⟩;have YO:=aA (fun ty=>show (Builtin.append_ #[27,27] ty #[.slice (some ⟨g,0,none⟩) n cap,.slice (some ⟨gv,0,none⟩) m m]).run Tryz.prog w=.ok (.slice (some ⟨g,0,none⟩) N' cap) W' from by
  rw [hm,hN',hW'];exact run_append_room_cells (P:=Tryz.prog) w 27 ty 35 i0 underlying27 hi0 g 0 n cap ⟨gv,0,none⟩ 1 1 (fA q) (by rw [hsz,hnl]) (fun j u hj=>by
   rw [Addr.add_lit];have h1:=hv.at j;rw [List.getElem?_toArray,hj] at h1;rw [Nat.zero_add];exact h1) (fun u hu=>eH [q] u (by simpa [aJ] using hu)) hroom (fun j hj=>GH.isThere (by rw [hsz];rw [hnl] at hj;have:=Nat.mul_le_mul_right 5 (show n+1≤M by omega);omega)) (fun j hj=>GH.frozen _))
 have HA:=aA (show mD B (some ⟨g,0,none⟩) n cap (l++[q]) w (.returned (.slice (some ⟨g,0,none⟩) N' cap)) W' from by
  rw [hN',hW'];exact ⟨some ⟨g,0,none⟩,cap,rfl,Lay.Crm (M:=M) (GH.cells _ _ (by rw [hsz,hnl];have:=Nat.mul_le_mul_right 5 (show n+1≤M by omega);omega) _ (by rw [bO,List.length_append];have:=Nat.mul_le_mul_right 5 (show n+1≤M by omega);simp;omega) (fun j u hj=>by
   rw [dR] at hj;(have hcl:(aJ l).length=n*5:=by rw [bO,hl]);rw [hsz,hnl];refine ⟨fun e=>?_,fun e=>?_⟩
   ·rw [List.getElem?_append_right (by omega),hcl] at hj;simpa [aJ,Nat.zero_add] using hj
   ·by_cases e2:j<n*5
    ·rw [List.getElem?_append_left (by omega)] at hj;exact GH.cell hj
    ·have:=(List.getElem?_eq_some_iff.1 hj).1;simp [aJ,hcl] at this;omega)) hB hM (by simp [hl]) (by omega),dV (by exact ⟨by omega,_,GH.cel,hB,0,rfl⟩) _ _ _ _ (Mks.refl _ _),.inl ⟨by omega,rfl⟩⟩)
 have hcn:¬cap=n:=by omega
 have n0:¬(m:Int)=0:=by omega
 clear h hv GH hl hm hi0 hz0 hroom hzc hb0 hb1 hnl hM;clear hW' hN';clear hsz;go_enter func113,ntmps113;go_wp2_with (at_builtin;refine Lib.wpList_append_run _ rfl _ _ _ _ rfl _ _ rfl rfl _ _ (uH YO _) ?_);go_ret;exact uH HA
theorem wS (z:Value) (k s:Nat) (h:z.cells.size=s):(Builtin.zeroCells z.cells k).size=k*s:=by simp [Builtin.zeroCells,h]
theorem aCp (ao:Option Addr) (n cap gv m:Nat) (hm:m=1) (l:List Con) (q:Con) (w:World) (h:CRm B w ao n cap l) (hv:Blk w gv (fA q).toArray 35) (hroom:¬n+1≤cap) (hn:n≤1048576) (hBw:B≤w.heap.size) :
  cP 113 #[.slice ao n cap,.int .i64 (n:Int),.slice (some ⟨gv,0,none⟩) m m] w (mD B ao n cap (l++[q]) w):=by
 obtain ⟨i0,z,hi0,hsz,hz0,hzc,hb0,hb1⟩:=aKC;have hl:=h.1.1;have hnc:=h.2.1;have hnl:(fA q).length=5:=rfl;have QS:(Builtin.firstCells i0.size n (.slice ao n cap)).run Tryz.prog w.drew=.ok (aJ l).toArray w.drew:=by
  rcases h.2.2 with h0 | ⟨g,M,rfl,hB,hc,hM⟩
  ·have:l=[]:=List.eq_nil_of_length_eq_zero (by omega);subst this;(obtain rfl:n=0:=by omega);cases ao with
   | none=>exact run_firstCells_none w.drew _ _ _ _
   | some ad=>exact run_firstCells_some w.drew _ 0 ad 0 cap [] (by simp) (fun j v hj=>by simp at hj)
  ·exact run_firstCells_some w.drew _ n ⟨g,0,none⟩ n cap (aJ l) (by rw [bO,hsz,hl]) (fun j v hj=>by rw [Addr.add_lit];exact fO h.1 j v hj)
 have YH:Src Tryz.prog i0.size 27 (.slice (some ⟨gv,0,none⟩) 1 1) 1 (fA q) w:=Src.ofSlice w underlying27 ⟨gv,0,none⟩ 1 1 _ (by rw [hsz,hnl]) (fun j u hj=>by
  rw [Addr.add_lit];have h1:=hv.at j;rw [List.getElem?_toArray,hj] at h1;rw [Nat.zero_add];exact h1) (fun u hu=>eH [q] u (by simpa [aJ] using hu))
 have hG1:=grownCap_ge w (n+1) cap 35;obtain ⟨G,hG⟩:∃G,grownCap w (n+1) cap 35=G:=⟨_,rfl⟩;obtain ⟨N',hN'⟩:∃k,k=n+1:=⟨_,rfl⟩;obtain ⟨W',hW'⟩:∃k,k=(w.drew.alloc (.cells ((aJ l++fA q).toArray++Builtin.zeroCells z.cells (G - (n+1))) 35)):=⟨_,rfl⟩;have YO:=aA (fun ty=>show (Builtin.append_ #[27,27] ty #[.slice ao n cap,.slice (some ⟨gv,0,none⟩) m m]).run Tryz.prog w=.ok (.slice (some ⟨w.heap.size,0,none⟩) N' G) W' from by
  rw [hm,hN',hW',←hG];exact run_append_grow_src w 27 27 ty 35 i0 z underlying27 hi0 hz0 ao n cap (aJ l) QS _ 1 (fA q) YH (by omega) (by omega) (growslice_fits_wide (by omega) (by
   (have h1:(n+1+(n+1) / 4+192)≤2000000:=by omega);have:=Nat.mul_le_mul h1 hb1;omega)))
 rw [hG] at hG1;have HA:=aA (show mD B ao n cap (l++[q]) w (.returned (.slice (some ⟨w.heap.size,0,none⟩) N' G)) W' from by
  rw [hN',hW'];have Gy:Bw w (w.drew.alloc (.cells ((aJ l++fA q).toArray++Builtin.zeroCells z.cells (G - (n+1))) 35)):=yA (yH _ w).drew _;refine ⟨_,G,rfl,Lay.Crm (M:=G) (w:=w.drew.alloc (.cells ((aJ l++fA q).toArray++Builtin.zeroCells z.cells (G - (n+1))) 35)) ⟨(Builtin.zeroCells z.cells (G - (n+1))).toList,?_,?_⟩ hBw (yJ _) (by simp [hl]) (by omega),.of_below Gy,.inr ⟨_,rfl,yJ _⟩⟩
  ·(have e:(aJ (l++[q])++(Builtin.zeroCells z.cells (G - (n+1))).toList).toArray=(aJ l++fA q).toArray++Builtin.zeroCells z.cells (G - (n+1)):=by rw [dR];simp [aJ]);rw [e];(show (w.heap.push _)[w.heap.size]? = _);rw [Array.getElem?_push,if_pos rfl]
  ·have h1:=wS z (G - (n+1)) 5 hzc;(have h2:(Builtin.zeroCells z.cells (G - (n+1))).toList.length=(G - (n+1))*5:=by rw [Array.length_toList];exact h1);(have h3:(aJ (l++[q])).length=(n+1)*5:=by rw [bO];simp [hl]);rw [List.length_append,h3,h2,←Nat.add_mul];(congr 1);omega)
 have HA2:=aA (show mD B ao n n (l++[q]) w (.returned (.slice (some ⟨w.heap.size,0,none⟩) N' G)) W' from by have h1:=uH HA;rw [show cap=n by omega] at h1;exact h1);have n0:¬(m:Int)=0:=by omega
 have J5:=aA (fun (e:ao=none)=>show n=0 from by
  subst e;rcases h.2.2 with h0 | ⟨g,M,e,_⟩
  ·have:=h.2.1;omega
  ·cases e)
 clear h hv QS YH hl hm hi0 hz0 hroom hzc hb0 hb1 hnl hG hG1;clear hW' hN';clear hsz;go_enter func113,ntmps113;cases ao with
 | none=>have h0:n=0:=uH J5 rfl;subst h0;go_wp2_with (at_builtin;refine Lib.wpList_append_run _ rfl _ _ _ _ rfl _ _ rfl rfl _ _ (uH YO _) ?_);go_ret;exact uH HA
 | some a=>obtain ⟨ab,aof,asp⟩:=a;go_wp2_with (at_builtin;refine Lib.wpList_append_run _ rfl _ _ _ _ rfl _ _ rfl rfl _ _ (uH YO _) ?_);all_goals (go_ret;first | exact uH HA | exact uH HA2)
theorem kU {P:Program} (w:World) (t ty e:TypeId) (i:TypeInfo) (z:Value) (size bytes:Nat) (ht:P.underlying t=some (.slice e)) (hi:P.info? e=some i) (hz:i.zero=some z)
  (hsize:i.size=size) (hby:i.bytes=bytes) (hzs:z.cells.size=size) (hsz:0<size)
  (B E:Nat) (ao:Option Addr) (n cap:Nat) (olds:List Value) (hrm:eU B E w e size ao cap) (hnc:n≤cap) (hB:B≤w.heap.size)
  (hlo:olds.length=n*size) (holds:∀b off,ao=some ⟨b,off,none⟩→∀j u,olds[j]? = some u→w.cell? ⟨b,off+j,none⟩=some u)
  (ad:Addr) (m c:Nat) (news:List Value) (hn:news.length=m*size) (hc:∀j u,news[j]? = some u→w.cell? (ad.add j)=some u) (h1c:∀u ∈ news,u.oneCell'=true) (hm:0<m)
  (b1:n+m≤maxLen) (b2:(n+m)*bytes≤140737488355328) :
  ∃g cap' w',(Builtin.append_ #[t,t] ty #[.slice ao n cap,.slice (some ad) m c]).run P w=.ok (.slice (some ⟨g,0,none⟩) (n+m) cap') w'∧aDV B w e size ao (n+m) (olds++news) g cap' w':=by
 by_cases hr:n+m≤cap
 ·rcases hrm with e0 | ⟨g,M,rfl,h1,h2,h3,h4⟩
  ·omega
  ·have hle:(n+m)*size≤M*size:=Nat.mul_le_mul_right _ (by omega);rw [Nat.add_mul] at hle;subst hsize;refine ⟨g,cap,_,run_append_room_cells (P:=P) w t ty e i ht hi g 0 n cap ad m c news hn hc h1c hr (fun j hj=>h3.isThere (by omega)) (fun j hj=>h3.frozen _),fun j u hj=>?_,?_,hr,dV ⟨_,h3,h1⟩ _ _ _ _ (Mks.refl _ _),.inl ⟨rfl,dV (S:=fun k=>k=g) rfl _ _ _ _ (Mks.refl _ _)⟩⟩
   ·by_cases hj2:j<olds.length
    ·rw [List.getElem?_append_left hj2] at hj;rw [World.cell?_setCells_out g news (0+n*i.size) w ⟨g,j,none⟩ (fun _ _=>by left;show j<0+n*i.size;omega)];have:=holds g 0 rfl j u hj;rwa [Nat.zero_add] at this
    ·rw [List.getElem?_append_right (by omega)] at hj;have hjl:j - olds.length<news.length:=(List.getElem?_eq_some_iff.1 hj).1;have:=World.cell?_setCells_in g news (0+n*i.size) w (fun k hk=>h3.isThere (by omega)) (j - olds.length) hjl;rw [show 0+n*i.size+(j - olds.length)=j by omega] at this;rw [this];rw [List.getElem?_eq_getElem hjl] at hj;exact hj
   ·have hk:Mks (fun k=>k=g) w (w.setCells g (0+n*i.size) news):=dV (S:=fun k=>k=g) rfl _ _ _ _ (Mks.refl _ _);exact .inr ⟨g,M,rfl,h1,Nat.lt_of_lt_of_le h3.lt hk.size,hk.cel _ _ _ h3,h4⟩
 ·have key:∃v' w',(Builtin.append_ #[t,t] ty #[.slice ao n cap,.slice (some ad) m c]).run P w=.ok v' w'∧w'.ownsRow w.heap.size e size v' (n+m) (olds++news)∧w.grownBy w' none:=by
   cases ao with
   | none=>
    have h0:cap=0:=by
     rcases hrm with h0 | ⟨g,M,h1,_⟩
     ·exact h0
     ·cases h1
    (have hn0:n=0:=by omega);subst h0 hn0;have ho:olds=[]:=List.eq_nil_of_length_eq_zero (by omega);subst ho;obtain ⟨v',w',gq,r1,r2,_⟩:=run_append_own (P:=P) w w.heap.size t ty e i z size bytes ht hi hz hsize hby hzs hsz (.slice none 0 0) 0 [] ⟨by simp,.inl ⟨rfl,rfl⟩⟩ ad m c news hn hc h1c b1 b2 (yJ _);exact ⟨v',w',gq,r1,r2⟩
   | some b=>
    refine run_append_arg_grows (P:=P) w t ty e i z size bytes ht hi hz hsize hby hzs hsz b n cap olds hlo (fun j u hj=>?_) ad m c news hn hc (by omega) b1 b2;rcases hrm with h0 | ⟨g,M,h1,_⟩
    ·(have hn0:n=0:=by omega);rw [hn0,Nat.zero_mul] at hlo;rw [List.eq_nil_of_length_eq_zero hlo] at hj;simp at hj
    ·cases h1;rw [Addr.add_lit];exact holds g 0 rfl j u hj
  obtain ⟨v',w',gq,h1,h2⟩:=key;obtain ⟨g,cap',rfl,hg1,hg2⟩:=h1.form (by omega);have hb:=aBG h2;rcases h1.2 with ⟨e0,_⟩ | ⟨g',c',cur,e0,k1,k2,k3,k4,k5,k6⟩
  ·cases e0
  ·cases e0;refine ⟨g,cap',w',gq,fun j u hj=>?_,.inr ⟨g,cap',rfl,by omega,lt_of_block k2,⟨cur,k2,k5⟩,yJ _⟩,k3,Mks.of_below hb,.inr ⟨by omega,hb⟩⟩;have hjl:j<(olds++news).length:=(List.getElem?_eq_some_iff.1 hj).1;rw [←k6] at hj hjl;rw [List.length_take] at hjl;rw [List.getElem?_take_of_lt (by omega)] at hj;simp [World.cell?,k2];simpa using hj
def Off (B:Nat) (w:World) (t:TypeId) (S:Nat→Prop):Prop:=∀k,S k→k<B∨∃t' N,Cel w t' k N∧t'≠t
theorem jE (h:eU B w.heap.size w t sz ao n) (hm:Mks S w w') (hS:Off B w t S):(∀k,inR ao n k→¬S k)∧eU B w'.heap.size w' t sz ao n:=by
 refine ⟨fun k hk e=>?_,(h.mks hm).mono (yJ _) hm.size⟩;obtain ⟨h1,_,N',h2⟩:=h.lies k hk;rcases hS k e with h3 | ⟨t',N,h3,h4⟩
 ·omega
 ·exact h4 (h3.type h2)
section
variable {B:Nat} {S:Nat→Prop} {w w':World}
theorem tC.off {l:List Q} (h:tC B w ao n l) (hm:Mks S w w') (hS:Off B w 105 S):tC B w' ao n l:=⟨h.1.mks hm (jE h.2 hm hS).1,(jE h.2 hm hS).2⟩
theorem qA.off {l:List Mac} (h:qA B w ao n l) (hm:Mks S w w') (hS:Off B w 103 S):qA B w' ao n l:=⟨h.1.mks hm (jE h.2 hm hS).1,(jE h.2 hm hS).2⟩
theorem nU.off {l:List Con} (h:nU B w ao n l) (hm:Mks S w w') (hS:Off B w 35 S):nU B w' ao n l:=⟨h.1.mks hm (jE h.2 hm hS).1,(jE h.2 hm hS).2⟩
theorem oD.off (h:oD B w ao n l) (hm:Mks S w w') (hS:Off B w 56 S):oD B w' ao n l:=⟨h.1.mks hm (jE h.2 hm hS).1,(jE h.2 hm hS).2⟩
theorem kC.off {l:List bW} (h:kC B w hs l) (hm:Mks S w w') (hS:Off B w 43 S):kC B w' hs l:=
 ⟨⟨h.heads.1,fun i h1 h2=>let ⟨a,b',c,d⟩:=h.heads.2 i h1 h2;⟨a,b',c.mks hm (jE (h.own _ (yM h1)) hm hS).1,d⟩⟩,fun v hv=>(jE (h.own v hv) hm hS).2,h.apart⟩
structure aL5 (B:Nat) (w:World) (S:Nat→Prop):Prop where
 q:Off B w 105 S
 p:Off B w 56 S
 a:Off B w 43 S
 m:Off B w 103 S
 c:Off B w 35 S
theorem bN.off (h:bN B w x s hs) (hm:Mks S w w') (o:aL5 B w S):bN B w' x s hs:=
 ⟨h.q.off hm o.q,h.p.off hm o.p,h.k.off hm o.a,h.m.off hm o.m,h.c.off hm o.c,h.cap,(h.rm.mks hm).mono (yJ _) hm.size⟩
theorem aDm (h:g<B):aL5 B w (fun k=>k=g):=⟨fun k e=>.inl (e ▸ h),fun k e=>.inl (e ▸ h),fun k e=>.inl (e ▸ h),fun k e=>.inl (e ▸ h),fun k e=>.inl (e ▸ h)⟩
theorem aB7 (h:Blk w b arr t) (h1:t≠105) (h2:t≠56) (h3:t≠43) (h4:t≠103) (h5:t≠35):aL5 B w (fun k=>k=b):=
 have hc:∀k,k=b→Cel w t k arr.size:=fun k e=>by subst e;exact ⟨arr,h,rfl⟩
 ⟨fun k e=>.inr ⟨t,_,hc k e,h1⟩,fun k e=>.inr ⟨t,_,hc k e,h2⟩,fun k e=>.inr ⟨t,_,hc k e,h3⟩,fun k e=>.inr ⟨t,_,hc k e,h4⟩,fun k e=>.inr ⟨t,_,hc k e,h5⟩⟩
theorem nW (ht:t'≠t):Off B w t (fun k=>∃N,Cel w t' k N∧B≤k):=fun k ⟨N,h,_⟩=>.inr ⟨t',N,h,ht⟩
end
theorem eG {len:Nat} (h:Cur w g ao len cap) (h':Cur w' g ao len cap) (hg:w.grownBy w' (some g)):Mks (fun k=>k=g) w w':=by
 refine ⟨hg.os,hg.tape,hg.output,hg.size,fun k hk hne=>hg.block k hk (fun e=>hne (Option.some.inj e)),fun t k N hc=>?_⟩;by_cases e:k=g
 ·subst e;obtain ⟨i,x,h1,_⟩:=h;obtain ⟨i',x',h2,_⟩:=h';obtain ⟨arr,h3,h4⟩:=hc;rw [h1] at h3;cases h3;exact ⟨_,h2,h4⟩
 ·exact hc.of_block (hg.block k hc.lt (fun e'=>e (Option.some.inj e')))
theorem CSt.mks {w0:World} {len:Nat} (h:CSt w0 B g ao len cap w) (hm:Mks S w w') (hS:∀k,S k→w0.heap.size≤k∧g<k):CSt w0 B g ao len cap w':=by
 obtain ⟨⟨i,x,h1,h2⟩,hc,hgr,hB⟩:=h;refine ⟨⟨i,x,(hm.block g (lt_of_block h1) (fun e=>absurd (hS g e).2 (Nat.lt_irrefl _))).trans h1,h2⟩,?_,⟨hm.os.trans hgr.os,hm.tape.trans hgr.tape,hm.output.trans hgr.output,Nat.le_trans hgr.size hm.size,fun k hk hne=>(hm.block k (Nat.lt_of_lt_of_le hk hgr.size) (fun e=>by have:=(hS k e).1;omega)).trans (hgr.block k hk hne)⟩,hB⟩;exact hc.below (hm.below (B:=B) (fun k e=>by have:=(hS k e).2;omega) hc.1) (yJ _)
theorem aLf {l:List Mac} (hr:dB w ao n l) (hrm:eU B w.heap.size w 103 4 ao cap) (hnc:n≤cap) (hn:n≤1000) (hB:B≤w.heap.size) (m:Mac) :
  ∃g cp w4,(Builtin.append_ #[26,26] 26 #[.slice ao n cap,.slice (some ⟨w.heap.size,0,none⟩) 1 1]).run Tryz.prog (w.alloc (.cells #[.string (bs m.name),.int .i64 m.mem,.int .i64 m.cpu,.int .i64 m.seen] 103))=.ok (.slice (some ⟨g,0,none⟩) (n+1) cp) w4
   ∧Hid (aDV B (w.alloc (.cells #[.string (bs m.name),.int .i64 m.mem,.int .i64 m.cpu,.int .i64 m.seen] 103)) 103 4 ao (n+1) (eD l++aF8 m) g cp w4):=by
 obtain ⟨i0,hi,hz0,hz1,hz2⟩:=info_parts Tryz.infoMachine;have hb:=yA (yH _ w) (.cells #[.string (bs m.name),.int .i64 m.mem,.int .i64 m.cpu,.int .i64 m.seen] 103);exact kU _ 26 26 103 i0 (.agg #[.string .empty,.int .i64 0,.int .i64 0,.int .i64 0]) 4 40 underlying26 hi hz0 hz1 hz2 rfl (by decide) B _ ao n cap (eD l) (hrm.below hb) hnc (by rw [yE];omega) (by rw [iR,←hr.1]) (fun b off e j u hj=>by subst e;exact tY (hr.below hb) j u hj) ⟨w.heap.size,0,none⟩ 1 1 (aF8 m) rfl (World.news_of_block (yD w _ _)) (by intro u hu;simp at hu;rcases hu with rfl | rfl | rfl | rfl<;>rfl) (by decide) (by unfold maxLen;omega) (by omega)
theorem aL7 {l:List Con} (hr:dC w ao n l) (hrm:eU B w.heap.size w 35 5 ao cap) (hnc:n≤cap) (hn:n≤1000) (hB:B≤w.heap.size) (m:Con) :
  ∃g cp w4,(Builtin.append_ #[27,27] 27 #[.slice ao n cap,.slice (some ⟨w.heap.size,0,none⟩) 1 1]).run Tryz.prog (w.alloc (.cells #[.int .i64 m.id,.int .i64 m.app,.string (bs m.node),.int .i64 m.mem,.int .i64 m.cpu] 35))=.ok (.slice (some ⟨g,0,none⟩) (n+1) cp) w4
   ∧Hid (aDV B (w.alloc (.cells #[.int .i64 m.id,.int .i64 m.app,.string (bs m.node),.int .i64 m.mem,.int .i64 m.cpu] 35)) 35 5 ao (n+1) (aJ l++fA m) g cp w4):=by
 obtain ⟨i0,hi,hz0,hz1,hz2⟩:=info_parts Tryz.infoCont;have hb:=yA (yH _ w) (.cells #[.int .i64 m.id,.int .i64 m.app,.string (bs m.node),.int .i64 m.mem,.int .i64 m.cpu] 35);exact kU _ 27 27 35 i0 (.agg #[.int .i64 0,.int .i64 0,.string .empty,.int .i64 0,.int .i64 0]) 5 48 underlying27 hi hz0 hz1 hz2 rfl (by decide) B _ ao n cap (aJ l) (hrm.below hb) hnc (by rw [yE];omega) (by rw [bO,←hr.1]) (fun b off e j u hj=>by subst e;exact fO (hr.below hb) j u hj) ⟨w.heap.size,0,none⟩ 1 1 (fA m) rfl (World.news_of_block (yD w _ _)) (by intro u hu;simp at hu;rcases hu with rfl | rfl | rfl | rfl | rfl<;>rfl) (by decide) (by unfold maxLen;omega) (by omega)
theorem aLP {l:List Ask} (hr:bD w ao n l) (hrm:eU B w.heap.size w 43 5 ao cap) (hnc:n≤cap) (hn:n≤1000) (hB:B≤w.heap.size) (m:Ask) :
  ∃g cp w4,(Builtin.append_ #[54,54] 54 #[.slice ao n cap,.slice (some ⟨w.heap.size,0,none⟩) 1 1]).run Tryz.prog (w.alloc (.cells #[.int .i64 m.mem,.int .i64 m.cpu,.int .i64 m.count,.string (bs m.node),.int .i64 m.missed] 43))=.ok (.slice (some ⟨g,0,none⟩) (n+1) cp) w4
   ∧Hid (aDV B (w.alloc (.cells #[.int .i64 m.mem,.int .i64 m.cpu,.int .i64 m.count,.string (bs m.node),.int .i64 m.missed] 43)) 43 5 ao (n+1) (aO l++zU m) g cp w4):=by
 obtain ⟨i0,hi,hz0,hz1,hz2⟩:=info_parts Tryz.infoA;have hb:=yA (yH _ w) (.cells #[.int .i64 m.mem,.int .i64 m.cpu,.int .i64 m.count,.string (bs m.node),.int .i64 m.missed] 43);exact kU _ 54 54 43 i0 (.agg #[.int .i64 0,.int .i64 0,.int .i64 0,.string .empty,.int .i64 0]) 5 48 underlying54 hi hz0 hz1 hz2 rfl (by decide) B _ ao n cap (aO l) (hrm.below hb) hnc (by rw [yE];omega) (by rw [bC,←hr.1]) (fun b off e j u hj=>by subst e;exact mU (hr.below hb) j u hj) ⟨w.heap.size,0,none⟩ 1 1 (zU m) rfl (World.news_of_block (yD w _ _)) (by intro u hu;simp at hu;rcases hu with rfl | rfl | rfl | rfl | rfl<;>rfl) (by decide) (by unfold maxLen;omega) (by omega)
theorem aLe (hr:gM w ao n l) (hrm:eU B w.heap.size w 56 3 ao cap) (hnc:n≤cap) (hn:n≤1000) (hB:B≤w.heap.size) (m:AV) :
  ∃g cp w4,(Builtin.append_ #[25,25] 25 #[.slice ao n cap,.slice (some ⟨w.heap.size,0,none⟩) 1 1]).run Tryz.prog (w.alloc (.cells #[.int .i64 m.id,.string (bs m.queue),.slice m.ao m.len m.cap] 56))=.ok (.slice (some ⟨g,0,none⟩) (n+1) cp) w4
   ∧Hid (aDV B (w.alloc (.cells #[.int .i64 m.id,.string (bs m.queue),.slice m.ao m.len m.cap] 56)) 56 3 ao (n+1) (dF l++aAK m) g cp w4):=by
 obtain ⟨i0,hi,hz0,hz1,hz2⟩:=info_parts Tryz.infoApp;have hb:=yA (yH _ w) (.cells #[.int .i64 m.id,.string (bs m.queue),.slice m.ao m.len m.cap] 56);exact kU _ 25 25 56 i0 (.agg #[.int .i64 0,.string .empty,.slice none 0 0]) 3 48 underlying25 hi hz0 hz1 hz2 rfl (by decide) B _ ao n cap (dF l) (hrm.below hb) hnc (by rw [yE];omega) (by rw [gT,←hr.1]) (fun b off e j u hj=>by subst e;exact tN (hr.below hb) j u hj) ⟨w.heap.size,0,none⟩ 1 1 (aAK m) rfl (World.news_of_block (yD w _ _)) (by intro u hu;simp at hu;rcases hu with rfl | rfl | rfl<;>rfl) (by decide) (by unfold maxLen;omega) (by omega)
theorem aIP {cs:List Value} (ha:aDV B w t sz ao n cs g cap w') (hn:0<n) (hl:cs.length=n*sz):∃M,Lay w' t g (M*sz) cs:=by
 rcases ha.own with e | ⟨g',M,e,_,_,hc,hM⟩
 ·have:=ha.cap;omega
 ·cases e;exact ⟨M,yP hc ha.cells (by rw [hl];exact Nat.mul_le_mul_right _ (by have:=ha.cap;omega))⟩
theorem bN.addM (h:bN B w x s hs) (m:Mac) (ha:aDV B w 103 4 x.ma (x.ml+1) (eD s.ms++aF8 m) g cap w') :
  bN B w' ⟨x.qa,x.ql,x.qc,x.aa,x.al,x.ac,some ⟨g,0,none⟩,x.ml+1,cap,x.ca,x.cl,x.cc⟩ ⟨s.qs,s.clock,s.epoch,s.next,s.serial,s.apps,s.ms++[m],s.cs⟩ hs:=by
 have hrm:=(h.rm.mks ha.mks).mono (yJ B) ha.mks.size;have GJ:x.ml=s.ms.length:=h.m.1.1;refine ⟨h.q.off ha.mks (nW (by decide)),h.p.off ha.mks (nW (by decide)),h.k.off ha.mks (nW (by decide)),⟨?_,ha.own.le ha.cap⟩,h.c.off ha.mks (nW (by decide)),⟨h.cap.q,h.cap.a,ha.cap,h.cap.c⟩,⟨hrm.1,hrm.2.1,ha.own,hrm.2.2.2⟩⟩;obtain ⟨M,hL⟩:=aIP ha (by omega) (by rw [←aAt,iR];simp [GJ]);rw [←aAt] at hL;have:=hL.rowM;rwa [List.length_append,List.length_singleton,←GJ] at this
theorem bN.addC (h:bN B w x s hs) (m:Con) (ha:aDV B w 35 5 x.ca (x.cl+1) (aJ s.cs++fA m) g cap w') :
  bN B w' ⟨x.qa,x.ql,x.qc,x.aa,x.al,x.ac,x.ma,x.ml,x.mc,some ⟨g,0,none⟩,x.cl+1,cap⟩ ⟨s.qs,s.clock,s.epoch,s.next,s.serial,s.apps,s.ms,s.cs++[m]⟩ hs:=by
 have hrm:=(h.rm.mks ha.mks).mono (yJ B) ha.mks.size;have GJ:x.cl=s.cs.length:=h.c.1.1;refine ⟨h.q.off ha.mks (nW (by decide)),h.p.off ha.mks (nW (by decide)),h.k.off ha.mks (nW (by decide)),h.m.off ha.mks (nW (by decide)),⟨?_,ha.own.le ha.cap⟩,⟨h.cap.q,h.cap.a,h.cap.m,ha.cap⟩,⟨hrm.1,hrm.2.1,hrm.2.2.1,ha.own,hrm.2.2.2.2⟩⟩;obtain ⟨M,hL⟩:=aIP ha (by omega) (by rw [←aBF,bO];simp [GJ]);rw [←aBF] at hL;have:=hL.rowC;rwa [List.length_append,List.length_singleton,←GJ] at this
theorem zS (a:List Ask) (q:Ask):aO (a++[q])=aO a++zU q:=by
 induction a with
 | nil=>rfl
 | cons x t ih=>rw [List.cons_append,aO,aO,ih,List.append_assoc]
theorem aKO {l:List Ask} (hn:n=l.length) (m:Ask) (ha:aDV B w 43 5 ao (n+1) (aO l++zU m) g cap w'):bD w' (some ⟨g,0,none⟩) (n+1) (l++[m]):=by
 obtain ⟨M,hL⟩:=aIP ha (by omega) (by rw [←zS,bC];simp [hn]);rw [←zS] at hL;have:=hL.rowA;rwa [List.length_append,List.length_singleton,←hn] at this
theorem kC.snocE {l:List bW} (h:kC B w ns l) (hE:∀v ∈ ns,eU B E w 43 5 v.ao v.len) (hB:B≤E) (id:Int) (qu:List UInt8) (ao:Option Addr) (cap:Nat) (k:List Ask) (hc:k.length≤cap)
  (hr:bD w ao k.length k) (ho:eU E w.heap.size w 43 5 ao k.length):kC B w (ns++[⟨id,qu,ao,k.length,cap⟩]) (l++[⟨id,qu,k⟩]):=by
 refine ⟨⟨by simp [h.heads.1],fun i h1 h2=>?_⟩,fun v hv=>?_,?_⟩
 ·by_cases hi:i<ns.length
  ·(have hi':i<l.length:=by rw [←h.heads.1];exact hi);rw [List.getElem_append_left hi,List.getElem_append_left hi'];exact h.heads.2 i hi hi'
  ·(have hi1:i=ns.length:=by simp at h1;omega);subst hi1;have hl:ns.length=l.length:=h.heads.1;simp only [List.getElem_append_right (yJ _),Nat.sub_self,List.getElem_cons_zero];rw [List.getElem_append_right (by omega)];simp only [hl,Nat.sub_self,List.getElem_cons_zero];exact ⟨trivial,trivial,hr,hc⟩
 ·rcases List.mem_append.1 hv with hv | hv
  ·exact h.own v hv
  ·simp at hv;subst hv;exact ho.mono hB (yJ _)
 ·refine List.pairwise_append.2 ⟨h.apart,by simp,fun u hu v hv=>?_⟩;simp at hv;subst hv;rcases hE u hu with e | ⟨g1,M1,e1,_,h3,_⟩
  ·exact .inl e
  ·rcases ho with e | ⟨g2,M2,e2,h4,_⟩
   ·exact .inr (.inl e)
   ·refine .inr (.inr (fun e=>?_));simp only at e;rw [e1,e2] at e;cases e;omega
theorem bN.addA (h:wR B E w x s hs) (hE:E≤w.heap.size) (hB:B≤E) (id nx:Int) (qu:List UInt8) (ao:Option Addr) (k:List Ask) (hn:n=k.length) (hc:n≤cp)
  (hr:bD w ao n k) (ho:eU E w.heap.size w 43 5 ao cp) (ha:aDV B w 56 3 x.aa (x.al+1) (dF hs++aAK ⟨id,qu,ao,n,cp⟩) g cap w') :
  bN B w' ⟨x.qa,x.ql,x.qc,some ⟨g,0,none⟩,x.al+1,cap,x.ma,x.ml,x.mc,x.ca,x.cl,x.cc⟩ ⟨s.qs,s.clock,s.epoch,nx,s.serial,s.apps++[⟨id,qu,k⟩],s.ms,s.cs⟩ (hs++[⟨id,qu,ao,n,cp⟩]):=by
 subst hn;have H:=h.has hE;have hrm:=(H.rm.mks ha.mks).mono (yJ B) ha.mks.size;have GJ:x.al=hs.length:=H.p.1.1;have hk:=(H.k.snocE h.asks hB id qu ao cp k hc hr (ho.le hc)).off ha.mks (nW (by decide));refine ⟨H.q.off ha.mks (nW (by decide)),⟨?_,ha.own.le ha.cap⟩,hk,H.m.off ha.mks (nW (by decide)),H.c.off ha.mks (nW (by decide)),⟨H.cap.q,ha.cap,H.cap.m,H.cap.c⟩,⟨hrm.1,ha.own,hrm.2.2.1,hrm.2.2.2.1,fun v hv=>?_⟩⟩
 ·obtain ⟨M,hL⟩:=aIP ha (by omega) (by rw [←pG,gT];simp [GJ]);rw [←pG] at hL;have:=hL.rowP;rwa [List.length_append,List.length_singleton,←GJ] at this
 ·rcases List.mem_append.1 hv with hv | hv
  ·exact hrm.2.2.2.2 v hv
  ·obtain rfl:=List.mem_singleton.1 hv;exact ((ho.mono hB (yJ _)).mks ha.mks).mono (yJ _) ha.mks.size
structure StB (w:World) (b:Nat) (y:Sls) (s:St):Prop where
 box:Blk w b (svc y s) 29
 row:iL w y s
 cap:y.ql≤y.qc
theorem StB.below (h:StB w b y s) (hb:Bw w w'):StB w' b y s:=⟨h.box.below hb,h.row.below hb,h.cap⟩
theorem StB.new (h:bN B w y s hs):StB (w.alloc (.cells (svc y s) 29)) w.heap.size y s:=⟨yD _ _ _,h.ans.row.below (yA (yH _ w) _),h.cap.q⟩
theorem StB.read (h:StB w b y s):w.cell? ⟨b,0,none⟩=some (.slice y.qa y.ql y.qc)∧w.cell? ⟨b,1,none⟩=some (.int .i64 s.clock)∧w.cell? ⟨b,2,none⟩=some (.int .i64 s.epoch)∧w.cell? ⟨b,3,none⟩=some (.int .i64 s.next)∧w.cell? ⟨b,4,none⟩=some (.int .i64 s.serial)∧w.cell? ⟨b,5,none⟩=some (.slice y.aa y.al y.ac)∧w.cell? ⟨b,6,none⟩=some (.slice y.ma y.ml y.mc)∧w.cell? ⟨b,7,none⟩=some (.slice y.ca y.cl y.cc):=
 ⟨h.box.at 0,h.box.at 1,h.box.at 2,h.box.at 3,h.box.at 4,h.box.at 5,h.box.at 6,h.box.at 7⟩
theorem aEX {x:Int} (h0 : -1000000000000≤x) (h1:x≤1000000000000):(Lit.int .i64 x).wf=true:=by
 simp only [Lit.wf,yK,yL];exact ⟨Int.le_trans (by decide) h0,Int.le_trans h1 (by decide)⟩
theorem xno {b:Bool} {p:Prop} (h:b=true):b=false→p:=fun e=>by rw [h] at e;cases e
theorem aEN (s:ByteArray):bs s.data.toList=s:=by simp [bs]
theorem nX (h:Blk w b old t) (arr:Array Value):Blk (w.setRow b arr) b arr t:=setRow_heap w b old arr t (0,0) h
theorem oN (h:Blk w b old t) (arr:Array Value) (hs:arr.size=old.size):Mks (fun k=>k=b) w (w.setRow b arr):=by
 refine ⟨rfl,rfl,rfl,by rw [setRow_size];exact yJ _,fun k _ hk=>setRow_other w b k arr hk,fun t' g N hc=>?_⟩;by_cases e:g=b
 ·subst e;obtain ⟨c,h1,h2⟩:=hc;rw [h] at h1;cases h1;exact ⟨arr,nX h arr,by omega⟩
 ·exact hc.of_block (setRow_other w b g arr e)
abbrev aJ1:Array Value:=#[.slice none 0 0,.int .i64 0,.int .i64 0,.int .i64 0,.int .i64 0,.slice none 0 0,.slice none 0 0,.slice none 0 0]
abbrev uW:Array Value:=#[.string ⟨#[109,49]⟩,.string ⟨#[109,50]⟩,.string ⟨#[109,51]⟩]
theorem aEl (k:Nat) (hk:k<3):∃nm:List UInt8,nm.length=2∧uW[k]? = some (.string (bs nm)):=by
 match k,hk with
 | 0,_=>exact ⟨[109,49],rfl,rfl⟩
 | 1,_=>exact ⟨[109,50],rfl,rfl⟩
 | 2,_=>exact ⟨[109,51],rfl,rfl⟩
structure DSt (w:World) (B g:Nat) (ao:Option Addr) (len cap:Nat) (b q:Nat) (arr:Array Value) (wr:World):Prop where
 c:CSt w B g ao len cap wr
 gl:g<w.heap.size
 x:Blk wr b arr 29
 bl:w.heap.size<b
 r:Blk wr w.heap.size aJ1 29
 n:Blk wr q uW 9
 ql:w.heap.size<q
section
variable {w wr wy:World} {B g:Nat} {ao:Option Addr} {len cap:Nat} {b q:Nat} {arr:Array Value}
theorem DSt.below (h:DSt w B g ao len cap b q arr wr) (hb:Bw wr wy):DSt w B g ao len cap b q arr wy:=⟨h.c.below hb,h.gl,h.x.below hb,h.bl,h.r.below hb,h.n.below hb,h.ql⟩
theorem DSt.mks (h:DSt w B g ao len cap b q arr wr) (hm:Mks S wr wy) (hS:∀k,S k→w.heap.size≤k∧∃t N,Cel wr t k N∧t≠29∧t≠9):DSt w B g ao len cap b q arr wy:=by
 have hx:∀{k:Nat} {a:Array Value},Blk wr k a 29→¬S k:=fun hk e=>let ⟨_,t,N,h1,h2,_⟩:=hS _ e;h2 (h1.type ⟨_,hk,rfl⟩)
 have hy:∀{k:Nat} {a:Array Value},Blk wr k a 9→¬S k:=fun hk e=>let ⟨_,t,N,h1,_,h2⟩:=hS _ e;h2 (h1.type ⟨_,hk,rfl⟩)
 exact ⟨h.c.mks hm (fun k e=>⟨(hS k e).1,Nat.lt_of_lt_of_le h.gl (hS k e).1⟩),h.gl,hm.blk h.x (hx h.x),h.bl,hm.blk h.r (hx h.r),hm.blk h.n (hy h.n),h.ql⟩
theorem DSt.cur (h:DSt w B g ao len cap b q arr wr) (hc:CSt w B g ao len cap wy) (hg:wr.grownBy wy (some g)):DSt w B g ao len cap b q arr wy:=by
 have hm:=eG h.c.1 hc.1 hg;have h1:=h.gl;have h2:=h.bl;have h3:=h.ql;exact ⟨hc,h.gl,hm.blk h.x (by omega),h.bl,hm.blk h.r (by omega),hm.blk h.n (by omega),h.ql⟩
theorem DSt.off (h:DSt w B g ao len cap b q arr wr) (hc:CSt w B g ao len cap wy) (hg:wr.grownBy wy (some g)) (H:bN w.heap.size wr x s hs):bN w.heap.size wy x s hs:=
 H.off (eG h.c.1 hc.1 hg) (aDm h.gl)
theorem DSt.set (h:DSt w B g ao len cap b q arr wr) (j:Nat) (v:Value):DSt w B g ao len cap b q (arr.setIfInBounds j v) (wr.setCell ⟨b,j,none⟩ v):=by
 have hm:Mks (fun k=>k=b) wr (wr.setCell ⟨b,j,none⟩ v):=Mks.one _ wr b j v rfl;have h1:=h.gl;have h2:=h.bl;exact ⟨h.c.mks hm (fun k e=>by subst e;omega),h.gl,h.x.set j v,h.bl,hm.blk h.r (by omega),hm.blk h.n (fun e=>by
  have hx:=h.x;have hn:=h.n;unfold Blk at hx hn;rw [e,hx] at hn;cases hn),h.ql⟩
theorem DSt.setH (h:DSt w B g ao len cap b q arr wr) (j:Nat) (v:Value) (H:bN w.heap.size wr x s hs):bN w.heap.size (wr.setCell ⟨b,j,none⟩ v) x s hs:=
 H.off (Mks.one (fun k=>k=b) wr b j v rfl) (aB7 h.x (by decide) (by decide) (by decide) (by decide) (by decide))
end
structure DS (w:World) (B g:Nat) (ao:Option Addr) (len cap:Nat) (b q:Nat) (arr:Array Value) (E:Nat) (y:Sls) (s:St) (hs:List AV) (wx:World):Prop where
 d:DSt w B g ao len cap b q arr wx
 a:wR w.heap.size E wx y s hs
 e:E≤wx.heap.size
 l:w.heap.size≤E
section
variable {w wx wy:World} {B g:Nat} {ao:Option Addr} {len cap:Nat} {b q:Nat} {arr:Array Value} {E:Nat} {y:Sls} {s:St} {hs:List AV}
theorem DS.new (h:DSt w B g ao len cap b q arr wx) (H:bN w.heap.size wx y s hs):DS w B g ao len cap b q arr wx.heap.size y s hs wx:=⟨h,H.ans,yJ _,h.c.2.2.1.size⟩
theorem DS.below (h:DS w B g ao len cap b q arr E y s hs wx) (hb:Bw wx wy):DS w B g ao len cap b q arr E y s hs wy:=⟨h.d.below hb,h.a.below hb,Nat.le_trans h.e hb.size,h.l⟩
theorem DS.drew (h:DS w B g ao len cap b q arr E y s hs wx):DS w B g ao len cap b q arr E y s hs wx.drew:=h.below (yH _ _).drew
theorem DS.al (h:DS w B g ao len cap b q arr E y s hs wx) (o:Obj):DS w B g ao len cap b q arr E y s hs (wx.alloc o):=h.below (yA (yH _ _) o)
theorem DS.cur (h:DS w B g ao len cap b q arr E y s hs wx) (hc:Cur wy g ao len cap) (hg:wx.grownBy wy (some g)):DS w B g ao len cap b q arr E y s hs wy:=
 ⟨h.d.cur (h.d.c.step hc hg) hg,h.a.mks (eG h.d.c.1 hc hg) (fun k e=>.inl (by have:=h.d.gl;omega)),Nat.le_trans h.e hg.size,h.l⟩
theorem DS.out (h:DS w B g ao len cap b q arr E y s hs wx) (hm:Mks S wx wy) (hS:∀k,S k→E≤k∧∃t N,Cel wx t k N∧t≠29∧t≠9):DS w B g ao len cap b q arr E y s hs wy:=
 ⟨h.d.mks hm (fun k e=>⟨Nat.le_trans h.l (hS k e).1,(hS k e).2⟩),h.a.mks hm (fun k e=>.inr (hS k e).1),Nat.le_trans h.e hm.size,h.l⟩
end
structure AS (w:World) (B g:Nat) (ao:Option Addr) (len cap:Nat) (b q:Nat) (arr:Array Value) (E:Nat) (y:Sls) (s:St) (hs:List AV) (ba:Nat) (aa:Array Value) (ko:Option Addr) (j kc:Nat) (ak:List Ask) (wx:World):Prop where
 s:DS w B g ao len cap b q arr E y s hs wx
 x:Blk wx ba aa 56
 l:E≤ba
 r:bD wx ko j ak
 o:eU E wx.heap.size wx 43 5 ko kc
 c:j≤kc
section
variable {w wx wy:World} {B g:Nat} {ao:Option Addr} {len cap:Nat} {b q:Nat} {arr:Array Value} {E:Nat} {y:Sls} {s:St} {hs:List AV} {ba:Nat} {aa:Array Value} {ko:Option Addr} {j kc:Nat} {ak:List Ask}
theorem AS.below (h:AS w B g ao len cap b q arr E y s hs ba aa ko j kc ak wx) (hb:Bw wx wy):AS w B g ao len cap b q arr E y s hs ba aa ko j kc ak wy:=⟨h.s.below hb,h.x.below hb,h.l,h.r.below hb,h.o.grow hb (yJ _),h.c⟩
theorem AS.al (h:AS w B g ao len cap b q arr E y s hs ba aa ko j kc ak wx) (o:Obj):AS w B g ao len cap b q arr E y s hs ba aa ko j kc ak (wx.alloc o):=h.below (yA (yH _ _) o)
theorem AS.drew (h:AS w B g ao len cap b q arr E y s hs ba aa ko j kc ak wx):AS w B g ao len cap b q arr E y s hs ba aa ko j kc ak wx.drew:=h.below (yH _ _).drew
theorem AS.cur (h:AS w B g ao len cap b q arr E y s hs ba aa ko j kc ak wx) (hc:Cur wy g ao len cap) (hg:wx.grownBy wy (some g)):AS w B g ao len cap b q arr E y s hs ba aa ko j kc ak wy:=by
 have hm:=eG h.s.d.c.1 hc hg;have h1:=h.s.d.gl;have h2:=h.s.l;have h3:=h.l;have ho:Off E wx 43 (fun k=>k=g):=fun k e=>.inl (by omega)
 exact ⟨h.s.cur hc hg,hm.blk h.x (by omega),h.l,h.r.mks hm (jE (h.o.le h.c) hm ho).1,(jE h.o hm ho).2,h.c⟩
theorem AS.set (h:AS w B g ao len cap b q arr E y s hs ba aa ko j kc ak wx) (i:Nat) (v:Value):AS w B g ao len cap b q arr E y s hs ba (aa.setIfInBounds i v) ko j kc ak (wx.setCell ⟨ba,i,none⟩ v):=by
 have hm:Mks (fun k=>k=ba) wx (wx.setCell ⟨ba,i,none⟩ v):=Mks.one _ wx ba i v rfl;have ho:Off E wx 43 (fun k=>k=ba):=fun k e=>.inr ⟨56,aa.size,by subst e;exact ⟨_,h.x,rfl⟩,by decide⟩
 exact ⟨h.s.out hm (fun k e=>by subst e;exact ⟨h.l,_,_,⟨_,h.x,rfl⟩,by decide,by decide⟩),h.x.set i v,h.l,h.r.mks hm (jE (h.o.le h.c) hm ho).1,(jE h.o hm ho).2,h.c⟩
theorem AS.app {g4:Nat} (h:AS w B g ao len cap b q arr E y s hs ba aa ko j kc ak wx) (m:Ask) (ha:aDV E wx 43 5 ko (j+1) (aO ak++zU m) g4 cp wy):AS w B g ao len cap b q arr E y s hs ba aa (some ⟨g4,0,none⟩) (j+1) cp (ak++[m]) wy:=
 ⟨h.s.out ha.mks (fun k ⟨N,hc,hB⟩=>⟨hB,_,N,hc,by decide,by decide⟩),ha.mks.blk h.x (fun ⟨N,hc,_⟩=>absurd (hc.type ⟨_,h.x,rfl⟩) (by decide)),h.l,aKO h.r.1 m ha,ha.own,ha.cap⟩
end
theorem sU.below (h:sU w q L) (hb:Bw w w'):sU w' q L:=⟨Nat.lt_of_lt_of_le h.1 hb.size,fun j hj=>let ⟨s,h1,h2⟩:=h.2 j hj;⟨s,jW h1 hb,h2⟩⟩
theorem sU.cur (h:sU w q L) (hg:w.grownBy w' (some g)) (hn:g≠q):sU w' q L:=⟨Nat.lt_of_lt_of_le h.1 hg.size,fun j hj=>by
 obtain ⟨s,h1,h2⟩:=h.2 j hj;refine ⟨s,?_,h2⟩;rw [←h1];simp only [World.cell?,hg.block q h.1 (fun e=>hn (Option.some.inj e).symm)]⟩
structure SmS (s:St) (a m c:Nat):Prop where
 q:s.qs.length≤1000∧∀q ∈ s.qs,q.name.length≤1000∧q.parent.length≤1000
 al:s.apps.length≤a
 ml:s.ms.length≤m
 cl:s.cs.length≤c
 ap:∀x ∈ s.apps,x.queue.length≤12∧x.asks.length≤3∧(∀k ∈ x.asks,k.node.length≤12)∧0≤x.id∧x.id≤100000
 mn:∀x ∈ s.ms,x.name.length≤12
 cn:∀x ∈ s.cs,x.node.length≤12∧0≤x.app∧x.app≤100000
 nx:0≤s.next∧s.next≤1001+a
 se:0≤s.serial∧s.serial≤1+c
theorem SmS.fit (h:SmS s a m c) (ha:a≤1000) (hm:m≤1000) (hc:c≤1000):bH s:=by
 have h1:=h.q.1;have h2:=h.al;have h3:=h.ml;have h4:=h.cl;refine ⟨⟨by omega,fun q hq=>?_⟩,⟨by omega,fun x hx=>?_⟩,⟨by omega,fun x hx=>?_⟩,⟨by omega,fun x hx=>?_⟩⟩
 ·have:=h.q.2 q hq;omega
 ·obtain ⟨k1,k2,k3,_⟩:=h.ap x hx;exact ⟨by omega,by omega,fun y hy=>by have:=k3 y hy;omega⟩
 ·have:=h.mn x hx;omega
 ·have:=h.cn x hx;omega
theorem SmS.wf (h:SmS s a m c):nY s:=
 ⟨fun x hx=>by have:=h.ap x hx;exact aEX (by omega) (by omega),fun x hx=>by have:=h.cn x hx;exact aEX (by omega) (by omega)⟩
theorem SmS.addM (h:SmS s a m c) (x:Mac) (hx:x.name.length≤12):SmS ⟨s.qs,s.clock,s.epoch,s.next,s.serial,s.apps,s.ms++[x],s.cs⟩ a (m+1) c:=
 ⟨h.q,h.al,by have:=h.ml;simp;omega,h.cl,h.ap,fun y hy=>by rcases List.mem_append.1 hy with hy | hy;exact h.mn y hy;simp at hy;subst hy;exact hx,h.cn,h.nx,h.se⟩
theorem SmS.addA (h:SmS s a m c) (x:bW) (nx:Int) (ha:a≤1000) (h1:x.queue.length≤12) (h2:x.asks.length≤3) (h3:∀k ∈ x.asks,k.node.length≤12) (h4:x.id=s.next) (h5:nx=s.next+1):SmS ⟨s.qs,s.clock,s.epoch,nx,s.serial,s.apps++[x],s.ms,s.cs⟩ (a+1) m c:=by
 have hn:=h.nx;refine ⟨h.q,by have:=h.al;simp;omega,h.ml,h.cl,fun y hy=>?_,h.mn,h.cn,⟨by show 0≤nx;omega,by show nx≤_;omega⟩,h.se⟩;rcases List.mem_append.1 hy with hy | hy
 ·exact h.ap y hy
 ·simp at hy;subst hy;exact ⟨h1,h2,h3,by omega,by omega⟩
theorem SmS.next (h:SmS s a m c) (cs:List Con) (hl:cs.length≤c+1) (hx:∀x ∈ cs,x.node.length≤12∧0≤x.app∧x.app≤100000):SmS ⟨s.qs,s.clock,s.epoch,s.next,s.serial+1,s.apps,s.ms,cs⟩ a m (c+1):=
 ⟨h.q,h.al,h.ml,hl,h.ap,h.mn,hx,h.nx,by have:=h.se;show 0≤s.serial+1∧s.serial+1≤_;omega⟩
theorem SmS.mono {a' m' c':Nat} (h:SmS s a m c) (ha:a≤a') (hm:m≤m') (hc:c≤c'):SmS s a' m' c':=by
 have h1:=h.al;have h2:=h.ml;have h3:=h.cl;have h4:=h.nx;have h5:=h.se;exact ⟨h.q,by omega,by omega,by omega,h.ap,h.mn,h.cn,by omega,by omega⟩
theorem SmS.addC (h:SmS s a m c) (x:Con) (hx:x.node.length≤12∧0≤x.app∧x.app≤100000):SmS ⟨s.qs,s.clock,s.epoch,s.next,s.serial,s.apps,s.ms,s.cs++[x]⟩ a m (c+1):=
 ⟨h.q,h.al,h.ml,by have:=h.cl;simp;omega,h.ap,h.mn,fun y hy=>by rcases List.mem_append.1 hy with hy | hy;exact h.cn y hy;simp at hy;subst hy;exact hx,h.nx,by have:=h.se;show 0≤s.serial∧s.serial≤_;omega⟩
theorem tV (h:eU B w.heap.size w t sz ao n) (hn:0<n):∃g M,ao=some ⟨g,0,none⟩∧B≤g∧Cel w t g (M*sz)∧n≤M:=by
 rcases h with e | ⟨g,M,e,h1,_,h2,h3⟩
 ·omega
 ·exact ⟨g,M,e,h1,h2,h3⟩
theorem kN {k0 N:Nat} (h:Cel w t' k0 N) (ht:t'≠t):Off B w t (fun k=>k=k0):=fun k e=>.inr ⟨t',N,by subst e;exact h,ht⟩
section
variable {B n:Nat} {w:World} {ao:Option Addr}
theorem nU.mem0 {c:Con} {t:List Con} (h:nU B w (some ⟨g,0,none⟩) n (c::t)) (hc:Cel w 35 g (M*5)) (x:Int) :
  w.cell? ⟨g,3,none⟩=some (.int .i64 c.mem)∧nU B (w.setCell ⟨g,3,none⟩ (.int .i64 x)) (some ⟨g,0,none⟩) n (⟨c.id,c.app,c.node,x,c.cpu⟩::t):=by
 obtain ⟨⟨h1,h2⟩,h3⟩:=h;rcases h2 with e | ⟨b,off,e,hh⟩
 ·rw [e] at h1;simp at h1
 ·cases e;have c0:=hh 0 (by simp);simp only [Nat.zero_mul,Nat.add_zero,List.getElem_cons_zero] at c0;obtain ⟨a0,a1,a2,a3,a4⟩:=c0;simp only [Nat.zero_add] at a0 a1 a2 a3 a4;refine ⟨a3,⟨by simpa using h1,.inr ⟨g,0,rfl,fun i hi=>?_⟩⟩,?_⟩
  ·cases i with
   | zero=>simp only [Nat.zero_mul,Nat.add_zero,List.getElem_cons_zero];exact ⟨bE a0 (by omega),bE a1 (by omega),bE a2 (by omega),World.cell?_setCell_same _ ⟨g,3,none⟩ _ a3,bE a4 (by omega)⟩
   | succ i=>have ci:=hh (i+1) (by simpa using hi);simp only [List.getElem_cons_succ] at ci ⊢;obtain ⟨b0,b1,b2,b3,b4⟩:=ci;exact ⟨bE b0 (by omega),bE b1 (by omega),bE b2 (by omega),bE b3 (by omega),bE b4 (by omega)⟩
  ·rw [cK];exact h3.mks (Mks.one (fun x=>x=g) w g 3 _ rfl)
theorem qA.seen0 {c:Mac} {t:List Mac} (h:qA B w (some ⟨g,0,none⟩) n (c::t)) (hc:Cel w 103 g (M*4)) (x:Int) :
  w.cell? ⟨g,3,none⟩=some (.int .i64 c.seen)∧qA B (w.setCell ⟨g,3,none⟩ (.int .i64 x)) (some ⟨g,0,none⟩) n (⟨c.name,c.mem,c.cpu,x⟩::t):=by
 obtain ⟨⟨h1,h2⟩,h3⟩:=h;rcases h2 with e | ⟨b,off,e,hh⟩
 ·rw [e] at h1;simp at h1
 ·cases e;have c0:=hh 0 (by simp);simp only [Nat.zero_mul,Nat.add_zero,List.getElem_cons_zero] at c0;obtain ⟨a0,a1,a2,a3⟩:=c0;simp only [Nat.zero_add] at a0 a1 a2 a3;refine ⟨a3,⟨by simpa using h1,.inr ⟨g,0,rfl,fun i hi=>?_⟩⟩,?_⟩
  ·cases i with
   | zero=>simp only [Nat.zero_mul,Nat.add_zero,List.getElem_cons_zero];exact ⟨bE a0 (by omega),bE a1 (by omega),bE a2 (by omega),World.cell?_setCell_same _ ⟨g,3,none⟩ _ a3⟩
   | succ i=>have ci:=hh (i+1) (by simpa using hi);simp only [List.getElem_cons_succ] at ci ⊢;obtain ⟨b0,b1,b2,b3⟩:=ci;exact ⟨bE b0 (by omega),bE b1 (by omega),bE b2 (by omega),bE b3 (by omega)⟩
  ·rw [cK];exact h3.mks (Mks.one (fun x=>x=g) w g 3 _ rfl)
theorem oD.queue0 {c:AV} {t:List AV} (h:oD B w (some ⟨g,0,none⟩) n (c::t)) (hc:Cel w 56 g (M*3)) (x:List UInt8) :
  w.cell? ⟨g,1,none⟩=some (.string (bs c.queue))∧oD B (w.setCell ⟨g,1,none⟩ (.string (bs x))) (some ⟨g,0,none⟩) n (⟨c.id,x,c.ao,c.len,c.cap⟩::t):=by
 obtain ⟨⟨h1,h2⟩,h3⟩:=h;rcases h2 with e | ⟨b,off,e,hh⟩
 ·rw [e] at h1;simp at h1
 ·cases e;have c0:=hh 0 (by simp);simp only [Nat.zero_mul,Nat.add_zero,List.getElem_cons_zero] at c0;obtain ⟨a0,a1,a2⟩:=c0;simp only [Nat.zero_add] at a0 a1 a2;refine ⟨a1,⟨by simpa using h1,.inr ⟨g,0,rfl,fun i hi=>?_⟩⟩,?_⟩
  ·cases i with
   | zero=>simp only [Nat.zero_mul,Nat.add_zero,List.getElem_cons_zero];exact ⟨bE a0 (by omega),World.cell?_setCell_same _ ⟨g,1,none⟩ _ a1,bE a2 (by omega)⟩
   | succ i=>have ci:=hh (i+1) (by simpa using hi);simp only [List.getElem_cons_succ] at ci ⊢;obtain ⟨b0,b1,b2⟩:=ci;exact ⟨bE b0 (by omega),bE b1 (by omega),bE b2 (by omega)⟩
  ·rw [cK];exact h3.mks (Mks.one (fun x=>x=g) w g 1 _ rfl)
theorem kC.queue0 {c:AV} {t:List AV} {a:bW} {l:List bW} (h:kC B w (c::t) (a::l)) (x:List UInt8):kC B w (⟨c.id,x,c.ao,c.len,c.cap⟩::t) (⟨a.id,x,a.asks⟩::l):=by
 refine ⟨⟨by simpa using h.heads.1,fun i h1 h2=>?_⟩,fun v hv=>?_,?_⟩
 ·cases i with
  | zero=>have:=h.heads.2 0 (by simp) (by simp);simp only [List.getElem_cons_zero] at this ⊢;exact ⟨this.1,trivial,this.2.2⟩
  | succ i=>have:=h.heads.2 (i+1) (by simpa using h1) (by simpa using h2);simpa using this
 ·rcases List.mem_cons.1 hv with rfl | hv
  ·exact h.own c (by simp)
  ·exact h.own v (by simp [hv])
 ·have:=h.apart;rw [List.pairwise_cons] at this ⊢;exact ⟨fun v hv=>this.1 v hv,this.2⟩
end
section
variable {B:Nat} {w:World} {x:Sls} {s:St} {hs:List AV}
theorem bN.mem0 {c:Con} {t:List Con} (h:bN B w x s hs) (hg:x.ca=some ⟨g,0,none⟩) (e:s.cs=c::t) (v:Int):(∃arr,Blk w g arr 35∧3<arr.size∧B≤g)∧bN B (w.setCell ⟨g,3,none⟩ (.int .i64 v)) x ⟨s.qs,s.clock,s.epoch,s.next,s.serial,s.apps,s.ms,⟨c.id,c.app,c.node,v,c.cpu⟩::t⟩ hs:=by
 have hn:0<x.cl:=by have:=h.c.1.1;rw [e] at this;simp at this;omega
 obtain ⟨g',M,e',hB,hc,hM⟩:=tV h.c.2 hn;obtain rfl:g=g':=by rw [hg] at e';cases e';rfl
 have hm:Mks (fun k=>k=g) w (w.setCell ⟨g,3,none⟩ (.int .i64 v)):=Mks.one _ w g 3 _ rfl;have hC:=h.c;rw [e,hg] at hC;obtain ⟨arr,ha,hz⟩:=hc;refine ⟨⟨arr,ha,by omega,hB⟩,h.q.off hm (kN ⟨arr,ha,hz⟩ (by decide)),h.p.off hm (kN ⟨arr,ha,hz⟩ (by decide)),h.k.off hm (kN ⟨arr,ha,hz⟩ (by decide)),h.m.off hm (kN ⟨arr,ha,hz⟩ (by decide)),?_,h.cap,(h.rm.mks hm).mono (yJ _) hm.size⟩;rw [hg];exact (hC.mem0 ⟨arr,ha,hz⟩ v).2
theorem bN.seen0 {c:Mac} {t:List Mac} (h:bN B w x s hs) (hg:x.ma=some ⟨g,0,none⟩) (e:s.ms=c::t) (v:Int):(∃arr,Blk w g arr 103∧3<arr.size∧B≤g)∧bN B (w.setCell ⟨g,3,none⟩ (.int .i64 v)) x ⟨s.qs,s.clock,s.epoch,s.next,s.serial,s.apps,⟨c.name,c.mem,c.cpu,v⟩::t,s.cs⟩ hs:=by
 have hn:0<x.ml:=by have:=h.m.1.1;rw [e] at this;simp at this;omega
 obtain ⟨g',M,e',hB,hc,hM⟩:=tV h.m.2 hn;obtain rfl:g=g':=by rw [hg] at e';cases e';rfl
 have hm:Mks (fun k=>k=g) w (w.setCell ⟨g,3,none⟩ (.int .i64 v)):=Mks.one _ w g 3 _ rfl;have hC:=h.m;rw [e,hg] at hC;obtain ⟨arr,ha,hz⟩:=hc;refine ⟨⟨arr,ha,by omega,hB⟩,h.q.off hm (kN ⟨arr,ha,hz⟩ (by decide)),h.p.off hm (kN ⟨arr,ha,hz⟩ (by decide)),h.k.off hm (kN ⟨arr,ha,hz⟩ (by decide)),?_,h.c.off hm (kN ⟨arr,ha,hz⟩ (by decide)),h.cap,(h.rm.mks hm).mono (yJ _) hm.size⟩;rw [hg];exact (hC.seen0 ⟨arr,ha,hz⟩ v).2
theorem bN.queue0 {c:AV} {t:List AV} {a:bW} {l:List bW} (h:bN B w x s (c::t)) (hg:x.aa=some ⟨g,0,none⟩) (e:s.apps=a::l) (v:List UInt8):(∃arr,Blk w g arr 56∧1<arr.size∧B≤g)∧bN B (w.setCell ⟨g,1,none⟩ (.string (bs v))) x ⟨s.qs,s.clock,s.epoch,s.next,s.serial,⟨a.id,v,a.asks⟩::l,s.ms,s.cs⟩ (⟨c.id,v,c.ao,c.len,c.cap⟩::t):=by
 have hn:0<x.al:=by have:=h.p.1.1;simp at this;omega
 obtain ⟨g',M,e',hB,hc,hM⟩:=tV h.p.2 hn;obtain rfl:g=g':=by rw [hg] at e';cases e';rfl
 have hm:Mks (fun k=>k=g) w (w.setCell ⟨g,1,none⟩ (.string (bs v))):=Mks.one _ w g 1 _ rfl;have hC:=h.p;rw [hg] at hC;have hK:=h.k;rw [e] at hK;obtain ⟨arr,ha,hz⟩:=hc;have hrm:=(h.rm.mks hm).mono (yJ B) hm.size;refine ⟨⟨arr,ha,by omega,hB⟩,h.q.off hm (kN ⟨arr,ha,hz⟩ (by decide)),?_,(hK.off hm (kN ⟨arr,ha,hz⟩ (by decide))).queue0 v,h.m.off hm (kN ⟨arr,ha,hz⟩ (by decide)),h.c.off hm (kN ⟨arr,ha,hz⟩ (by decide)),h.cap,hrm.1,hrm.2.1,hrm.2.2.1,hrm.2.2.2.1,fun z hz'=>?_⟩
 ·rw [hg];exact (hC.queue0 ⟨arr,ha,hz⟩ v).2
 ·rcases List.mem_cons.1 hz' with rfl | hz'
  ·exact hrm.2.2.2.2 c (by simp)
  ·exact hrm.2.2.2.2 z (by simp [hz'])
end
structure DrS (g:Nat) (w:World) (y:Sls) (s:St) (hs:List AV):Prop where
 q:gN w y.qa y.ql s.qs
 qg:∀k,inR y.qa y.ql k→g<k
 p:oD (g+1) w y.aa y.al hs
 k:kC (g+1) w hs s.apps
 m:qA (g+1) w y.ma y.ml s.ms
 c:nU (g+1) w y.ca y.cl s.cs
 cap:y.ql≤y.qc
 sm:aHu y hs
 fit:bH s
 wf:nY s
section
variable {g:Nat} {w w':World} {y:Sls} {s:St} {hs:List AV}
theorem DrS.row (h:DrS g w y s hs):iL w y s:=⟨h.q,aHn h.p.1 h.k.heads,h.m.1,h.c.1⟩
theorem DrS.av (h:DrS g w y s hs):gM w y.aa y.al hs:=h.p.1
theorem DrS.hd (h:DrS g w y s hs):lQ w hs s.apps:=h.k.heads
theorem DrS.below (h:DrS g w y s hs) (hb:Bw w w'):DrS g w' y s hs:=⟨h.q.below hb,h.qg,h.p.below hb,h.k.below hb,h.m.below hb,h.c.below hb,h.cap,h.sm,h.fit,h.wf⟩
theorem DrS.cur {len:Nat} (h:DrS g w y s hs) (hc:Cur w g ao len cap) (hc':Cur w' g ao len cap) (hg:w.grownBy w' (some g)):DrS g w' y s hs:=by
 have hm:=eG hc hc' hg;have ho:=aDm (w:=w) (B:=g+1) (g:=g) (Nat.lt_succ_self g);exact ⟨h.q.mks hm (fun k hk e=>by have:=h.qg k hk;omega),h.qg,h.p.off hm ho.p,h.k.off hm ho.a,h.m.off hm ho.m,h.c.off hm ho.c,h.cap,h.sm,h.fit,h.wf⟩
theorem DrS.of (h:bN B w y s hs) (hB:g<B) (hf:bH s) (hw:nY s):DrS g w y s hs:=
 ⟨h.q.1,fun k hk=>by have:=(h.q.2.lies k hk).1;omega,(h.p.base hB),h.k.base hB,h.m.base hB,h.c.base hB,h.cap.q,h.ans.some,hf,hw⟩
end
structure DT (w:World) (B g:Nat) (ao:Option Addr) (len cap:Nat) (b:Nat) (arr:Array Value) (wr:World):Prop where
 c:CSt w B g ao len cap wr
 gl:g<w.heap.size
 x:Blk wr b arr 29
 bl:w.heap.size<b
 r:Blk wr w.heap.size aJ1 29
section
variable {w wr wy:World} {B g:Nat} {ao:Option Addr} {len cap:Nat} {b:Nat} {arr:Array Value}
theorem DT.below (h:DT w B g ao len cap b arr wr) (hb:Bw wr wy):DT w B g ao len cap b arr wy:=⟨h.c.below hb,h.gl,h.x.below hb,h.bl,h.r.below hb⟩
theorem DT.mks (h:DT w B g ao len cap b arr wr) (hm:Mks S wr wy) (hS:∀k,S k→w.heap.size≤k∧∃t N,Cel wr t k N∧t≠29):DT w B g ao len cap b arr wy:=by
 have hx:∀{k:Nat} {a:Array Value},Blk wr k a 29→¬S k:=fun hk e=>let ⟨_,t,N,h1,h2⟩:=hS _ e;h2 (h1.type ⟨_,hk,rfl⟩)
 exact ⟨h.c.mks hm (fun k e=>⟨(hS k e).1,Nat.lt_of_lt_of_le h.gl (hS k e).1⟩),h.gl,hm.blk h.x (hx h.x),h.bl,hm.blk h.r (hx h.r)⟩
theorem DT.cur (h:DT w B g ao len cap b arr wr) (hc:Cur wy g ao len cap) (hg:wr.grownBy wy (some g)):DT w B g ao len cap b arr wy:=by
 have hm:=eG h.c.1 hc hg;have h1:=h.gl;have h2:=h.bl;exact ⟨h.c.step hc hg,h.gl,hm.blk h.x (by omega),h.bl,hm.blk h.r (by omega)⟩
theorem DT.off (h:DT w B g ao len cap b arr wr) (hc:Cur wy g ao len cap) (hg:wr.grownBy wy (some g)) (H:bN w.heap.size wr x s hs):bN w.heap.size wy x s hs:=H.off (eG h.c.1 hc hg) (aDm h.gl)
theorem DT.set (h:DT w B g ao len cap b arr wr) (j:Nat) (v:Value):DT w B g ao len cap b (arr.setIfInBounds j v) (wr.setCell ⟨b,j,none⟩ v):=by
 have hm:Mks (fun k=>k=b) wr (wr.setCell ⟨b,j,none⟩ v):=Mks.one _ wr b j v rfl;have h1:=h.gl;have h2:=h.bl;exact ⟨h.c.mks hm (fun k e=>by subst e;omega),h.gl,h.x.set j v,h.bl,hm.blk h.r (by omega)⟩
theorem DT.setH (h:DT w B g ao len cap b arr wr) (j:Nat) (v:Value) (H:bN w.heap.size wr x s hs):bN w.heap.size (wr.setCell ⟨b,j,none⟩ v) x s hs:=
 H.off (Mks.one (fun k=>k=b) wr b j v rfl) (aB7 h.x (by decide) (by decide) (by decide) (by decide) (by decide))
end
end
end Go.Proofs.YtfndhndlkcijoaaGreat
