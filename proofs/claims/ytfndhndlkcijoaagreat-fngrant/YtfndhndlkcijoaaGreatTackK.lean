/-
  Texts in one: CopySt, GrowS, AnsW, TakC, TakM, TakP, TakB, StEnd, InsC, DrA, DrB, StBx.
-/
import Derived.Test.YtfndhndlkcijoaaGreatTackE
import Derived.Test.YtfndhndlkcijoaaGreatTackF
import Derived.OneCell
import Derived.Laws.Rows
import Derived.Test.YtfndhndlkcijoaaGreatTackG
import Derived.Lib.Overlaps
import Derived.Lib.AppendZerosOnto
import Derived.Lib.JoinLaws
import Derived.Deep.AppendSrc
import Derived.Deep.DeepAppendWide
import Derived.Laws.Externs
set_option maxRecDepth 100000
set_option maxHeartbeats 16000000
set_option linter.unusedVariables false
set_option linter.unusedSimpArgs false
open Go.Proofs.Tryz
namespace Go.Proofs.YtfndhndlkcijoaaGreat
section
open Go.RowKit
variable {v:AV} {arr old:Array Value} {hs l ns:List AV} {gone:List Con} {qs:List Q} {B B' E M b cap g gn k n n2 sz:Nat} {S:Nat→Prop} {ao go po qo:Option Addr} {r:Option Nat} {x y:Sls} {s:St} {t t':TypeId} {w w' wr:World}
theorem nG.blk (h:nG B w ao n l) (hk:k<n):∃g M,ao=some ⟨g,0,none⟩∧B≤g∧g<w.heap.size∧oC w g M l:=by
 obtain ⟨⟨h1,h2⟩,h3⟩:=h;rcases h3 with e | ⟨g,M,rfl,hB,hE,hc,hn⟩
 ·omega
 ·rcases h2 with e | ⟨b,off,e,hh⟩
  ·omega
  ·cases e;exact ⟨g,M,rfl,hB,hE,hc,by omega,fun i hi=>by have:=hh i hi;rwa [Nat.zero_add] at this⟩
theorem oC.asks {i:Nat} (h:oC w g M l) (hi:i<l.length) (ao:Option Addr) (len cap:Nat):oC (w.setCell ⟨g,i*3+2,none⟩ (.slice ao len cap)) g M (l.set i ⟨l[i].id,l[i].queue,ao,len,cap⟩):=by
 refine ⟨h.1.set _ _ _,by simpa using h.2.1,fun j hj=>?_⟩;have hj':j<l.length:=by simpa using hj
 obtain ⟨a,b,c⟩:=h.2.2 j hj';by_cases e:i=j
 ·subst e;simp only [List.getElem_set_self];exact ⟨bC a (by omega),bC b (by omega),World.cell?_setCell_same _ ⟨g,i*3+2,none⟩ _ c⟩
 ·rw [List.getElem_set_ne e];exact ⟨bC a (by omega),bC b (by omega),bC c (by omega)⟩
theorem oC.has {B w g M n l} (h:oC w g M l) (hB:B≤g) (hn:n=l.length):nG B w (some ⟨g,0,none⟩) n l:=by
 subst hn;exact ⟨h.row,.inr ⟨g,M,rfl,hB,h.1.lt,h.1,h.2.1⟩⟩
structure aH4 (w:World) (arr:Array Value) (qo:Option Addr) (qs:List Q) (po:Option Addr) (n2:Nat) (ns:List AV) (apps:List dA) (wr:World):Prop where
 r0:Blk wr w.heap.size arr 29
 r1:Blk wr (w.heap.size+1) #[.slice none 0 0,.int .i64 0,.int .i64 0,.int .i64 0,.int .i64 0,.slice none 0 0,.slice none 0 0,.slice none 0 0] 29
 q:rP (w.heap.size+2) wr qo qs.length qs
 p:nG (w.heap.size+2) wr po n2 ns
 k:jG (w.heap.size+2) wr ns apps
 b:Bw w wr
 z:w.heap.size+2≤wr.heap.size
theorem aH4.below {apps:List dA} {wy:World} (h:aH4 w arr qo qs po n2 ns apps wr) (hb:Bw wr wy):aH4 w arr qo qs po n2 ns apps wy:=
 ⟨h.r0.below hb,h.r1.below hb,h.q.below hb,h.p.below hb,h.k.below hb,yB h.b hb,Nat.le_trans h.z hb.size⟩
theorem aH4.sc {apps:List dA} (h:aH4 w arr qo qs po n2 ns apps wr) (j:Nat) (v:Value):aH4 w (arr.setIfInBounds j v) qo qs po n2 ns apps (wr.setCell ⟨w.heap.size,j,none⟩ v):=
 ⟨h.r0.set j v,h.r1.other _ _ _ (by omega),h.q.sc (by omega),h.p.sc (by omega),h.k.sc (.inl (by omega)),yC h.b _ _ _ (yJ _),by rw [bV];exact h.z⟩
theorem o6.blk {l:List Mac} (h:o6 B w ao n l) (hk:k<n):∃g,ao=some ⟨g,0,none⟩∧B≤g∧g<w.heap.size∧(∀j,w.frozen? ⟨g,j,none⟩=false)∧∀i (hi:i<l.length),o5 w g (i*4) l[i]:=by
 obtain ⟨⟨h1,h2⟩,h3⟩:=h;rcases h3 with e | ⟨g,M,rfl,hB,hE,hc,hn⟩
 ·omega
 ·rcases h2 with e | ⟨b,off,e,hh⟩
  ·omega
  ·cases e;exact ⟨g,rfl,hB,hE,fun j=>hc.frozen j,fun i hi=>by have:=hh i hi;rwa [Nat.zero_add] at this⟩
def aHZ (w:World) (s:St) (e:Ending) (w':World):Prop:=∃y hs,e=.returned (sv y s)∧rO w.heap.size w'.heap.size w' y s hs∧Bw w w'
theorem xL (x:Sls) (s:St) (w:World) (h:gW w x s) (hf:dB s) :
  cP 45 #[sv x s] w (aHZ w s):=by
 obtain ⟨hs0,QN,hhd⟩:=h.2.1.heads;have J7:=hf.1.2;have hcq:=h.1.1;have Z9:=h.2.1.1;have hcm:=h.2.2.1.1;have hcc:=h.2.2.2.1;have hlq:x.ql≤1048576:=by have:=hf.1.1;omega
 have hla:x.al≤1048576:=by have:=hf.2.1.1;omega
 have hlm:x.ml≤1048576:=by have:=hf.2.2.1.1;omega
 have hlc:x.cl≤1048576:=by have:=hf.2.2.2.1;omega
 obtain ⟨qa,ql,qc,aa,al,ac,ma,ml,mc,ca,cl,cc⟩:=x;obtain ⟨qs,cv,ez,ny,sj,aj,ms,cs⟩:=s;simp only at *;have hb0:=yA (yA (yH _ w) (.cells #[.slice qa ql qc,.int .i64 cv,.int .i64 ez,.int .i64 ny,.int .i64 sj,.slice aa al ac,.slice ma ml mc,.slice ca cl cc] 29)) (.cells #[.slice none 0 0,.int .i64 0,.int .i64 0,.int .i64 0,.int .i64 0,.slice none 0 0,.slice none 0 0,.slice none 0 0] 29);have HB0:=aA hb0;have P0:=aA ((yD w #[.slice qa ql qc,.int .i64 cv,.int .i64 ez,.int .i64 ny,.int .i64 sj,.slice aa al ac,.slice ma ml mc,.slice ca cl cc] 29).al (.cells #[.slice none 0 0,.int .i64 0,.int .i64 0,.int .i64 0,.int .i64 0,.slice none 0 0,.slice none 0 0,.slice none 0 0] 29));have P1:=aA (show Blk _ (w.heap.size+1) #[.slice none 0 0,.int .i64 0,.int .i64 0,.int .i64 0,.int .i64 0,.slice none 0 0,.slice none 0 0,.slice none 0 0] 29 by have:=yD (w.alloc (.cells #[.slice qa ql qc,.int .i64 cv,.int .i64 ez,.int .i64 ny,.int .i64 sj,.slice aa al ac,.slice ma ml mc,.slice ca cl cc] 29)) #[.slice none 0 0,.int .i64 0,.int .i64 0,.int .i64 0,.int .i64 0,.slice none 0 0,.slice none 0 0,.slice none 0 0] 29;rwa [yE] at this);have SQ:=aA h.1;have SV:=aA QN;have SH:=aA hhd;have SM:=aA h.2.2.1;have SC:=aA h.2.2.2;have HF:=aA hf;have CQ:=aA (vC qa ql qc qs _ (h.1.below hb0) hlq J7);have HNQ:=aA hcq;have Sk:=aA Z9;have NR:=aA hcm;have HNC:=aA hcc;clear h QN hhd hb0 hf J7 hcq Z9 hcm hcc;go_enter func45,ntmps45;go_wp2_with fail;refine (uH CQ).mono ?_;rintro e w2 ⟨v,rfl,ho,hb⟩;obtain ⟨qo,qd,rfl,Rx,M3⟩:=oZ.has ho;rw [yE,yE] at M3;have hrq:=iT ho;rw [yE,yE] at hrq;have XW:=aA (RmL.cons hrq (RmL.nil _ _));have HB2:=aA (yB (uH HB0) hb);have Q0:=aA ((uH P0).below hb);have Q1:=aA ((uH P1).below hb);have OQ:=aA M3;have hz2:w.heap.size+2≤w2.heap.size:=by have:=hb.size;rw [yE,yE] at this;omega
 have d0:=(uH Q0).at 0;have f0:=(uH Q0).f 0;simp at d0;have HQD:=aA Rx;clear ho hb M3 hrq HB0 P0 P1 CQ Rx;go_upto_region 2 with fail
 have HB3:=aA (yC (uH HB2) w.heap.size 0 (.slice qo qs.length qd) (yJ _));have R0:=aA (show Blk (w2.setCell ⟨w.heap.size,0,none⟩ (.slice qo qs.length qd)) w.heap.size #[.slice qo qs.length qd,.int .i64 cv,.int .i64 ez,.int .i64 ny,.int .i64 sj,.slice aa al ac,.slice ma ml mc,.slice ca cl cc] 29 from (uH Q0).set 0 (.slice qo qs.length qd));have R1:=aA ((uH Q1).other w.heap.size 0 (.slice qo qs.length qd) (by omega));have OQ3:=aA ((uH OQ).sc (k:=w.heap.size) (j:=0) (v:=.slice qo qs.length qd) (by omega));have hz3:w.heap.size+2≤(w2.setCell ⟨w.heap.size,0,none⟩ (.slice qo qs.length qd)).heap.size:=by rw [bV];exact hz2
 have NW:=aA ((uH XW).sc w.heap.size 0 (.slice qo qs.length qd));generalize w2.setCell ⟨w.heap.size,0,none⟩ (.slice qo qs.length qd)=w3 at HB3 R0 R1 OQ3 NW hz3 ⊢;clear d0 f0 HB2 Q0 Q1 OQ XW hz2;have CA:=aA (aCU aa al ac hs0 w3 ((uH SV).below (uH HB3)) hla);have a5:=(uH R0).at 5;simp at a5;go_wp2_with fail;refine (uH CA).mono ?_;rintro e w4 ⟨v,rfl,ho,hb⟩;obtain ⟨po,pd,rfl,hpd,Zk⟩:=aDp (wH ho hz3);have Sy:=aA (RmL.cons (iT (wH ho hz3)) ((uH NW).below hb));have GD:=aA (yB (uH HB3) hb);have Q0:=aA ((uH R0).below hb);have Q1:=aA ((uH R1).below hb);have OQ4:=aA ((uH OQ3).below hb);have Z8:w.heap.size+2≤w4.heap.size:=by have:=hb.size;omega
 obtain ⟨n2,hn2⟩:∃n,hs0.length=n:=⟨_,rfl⟩;rw [hn2] at Zk ⊢;have OP4:=aA Zk;have ZK:=aA hn2;have hl2:n2≤1048576:=by have:=(uH SV).1;omega
 have d5:=(uH Q0).at 5;have f5:=(uH Q0).f 5;simp at d5;have HPD:=aA (show n2≤pd by omega);clear ho hb Zk HB3 R0 R1 OQ3 NW hz3 CA a5 hpd hn2;go_upto_region 3 with fail
 have Gj:=aA (yC (uH GD) w.heap.size 5 (.slice po n2 pd) (yJ _));have R0:=aA (show Blk (w4.setCell ⟨w.heap.size,5,none⟩ (.slice po n2 pd)) w.heap.size #[.slice qo qs.length qd,.int .i64 cv,.int .i64 ez,.int .i64 ny,.int .i64 sj,.slice po n2 pd,.slice ma ml mc,.slice ca cl cc] 29 from (uH Q0).set 5 (.slice po n2 pd));have R1:=aA ((uH Q1).other w.heap.size 5 (.slice po n2 pd) (by omega));have OQ5:=aA ((uH OQ4).sc (k:=w.heap.size) (j:=5) (v:=.slice po n2 pd) (by omega));have OP5:=aA ((uH OP4).sc (k:=w.heap.size) (j:=5) (v:=.slice po n2 pd) (by omega));have Kj:w.heap.size+2≤(w4.setCell ⟨w.heap.size,5,none⟩ (.slice po n2 pd)).heap.size:=by rw [bV];exact Z8
 have NV:=aA ((uH Sy).sc w.heap.size 5 (.slice po n2 pd));generalize w4.setCell ⟨w.heap.size,5,none⟩ (.slice po n2 pd)=w5 at Gj R0 R1 OQ5 OP5 NV Kj ⊢;have a5:=(uH R0).at 5;simp at a5;clear d5 f5 GD Q0 Q1 OQ4 OP4 Sy Z8;go_wp2;go_loopw [18] (fun i wr=>∃(k:Nat),k≤n2∧i=.int .i64 k∧Hid (∃ns:List AV,ns.length=k∧nG (w.heap.size+2) wr po n2 (ns++hs0.drop k)∧jG (w.heap.size+2) wr ns (aj.take k)∧RmL (w.heap.size+2) wr ((56,3,po,pd)::(105,4,qo,qd)::ns.map (fun v=>(43,5,v.ao,v.cap))))∧Hid (Blk wr w.heap.size #[.slice qo qs.length qd,.int .i64 cv,.int .i64 ez,.int .i64 ny,.int .i64 sj,.slice po n2 pd,.slice ma ml mc,.slice ca cl cc] 29)∧Hid (Blk wr (w.heap.size+1) #[.slice none 0 0,.int .i64 0,.int .i64 0,.int .i64 0,.int .i64 0,.slice none 0 0,.slice none 0 0,.slice none 0 0] 29)∧Hid (rP (w.heap.size+2) wr qo qs.length qs)∧Hid (Bw w wr)∧w.heap.size+2≤wr.heap.size) (fun i _=>n2 - (intOf i).toNat);case atStart=>exact ⟨0,Nat.zero_le _,rfl,aA ⟨[],rfl,by simpa using uH OP5,by simpa using jG.nil _ _,uH NV⟩,R0,R1,OQ5,Gj,Kj⟩
 case round=>
  obtain ⟨k,hk,rfl,HP,BG,HR1,HQ,HB,hz⟩:=hrel;clear R0 R1 OQ5 OP5 Gj NV Kj a5;by_cases hlt:k<n2
  ·(obtain ⟨ns,hns,Zk,hkh,hrm⟩:=uH HP;obtain ⟨g,M,rfl,hgB,PD,hbk⟩:=Zk.blk hlt;(have hk0:k<hs0.length:=by have:=uH ZK;omega);(have hk1:k<aj.length:=by have:=(uH SH).1;omega);(have hkl:k<(ns++hs0.drop k).length:=by rw [List.length_append,List.length_drop];omega);have hel:(ns++hs0.drop k)[k]=hs0[k]:=by rw [List.getElem_append_right (by omega)];simp [hns]);have GQ:=hbk.2.2 k hkl;rw [hel] at GQ;obtain ⟨c0,c1,c2⟩:=GQ;obtain ⟨e0,e1,e2,e3⟩:=(uH SH).2 k hk0 hk1;have hfa:=(uH HF).2.1.2 aj[k] (yM hk1);obtain ⟨⟨ai,aq,ak⟩,hap⟩:∃a,aj[k]=a:=⟨_,rfl⟩;obtain ⟨⟨vi,vq,va,vl,vc⟩,hv⟩:∃v,hs0[k]=v:=⟨_,rfl⟩;have Q8:∀(no:Option Addr) (nl nd:Nat),(ns++hs0.drop k).set k ⟨vi,vq,no,nl,nd⟩=(ns++[⟨vi,vq,no,nl,nd⟩])++hs0.drop (k+1):=fun no nl nd=>by
    rw [List.set_append_right _ _ (by omega),List.drop_eq_getElem_cons hk0,hns,Nat.sub_self,sB];simp
   (have htk:aj.take (k+1)=aj.take k++[⟨ai,aq,ak⟩]:=by rw [List.take_succ_eq_append_getElem hk1,hap]);rw [hap] at e0 e1 e2 hfa;rw [hv] at c0 c1 c2 e0 e1 e2 e3 hel;simp only at c0 c1 c2 e0 e1 e2 e3 hfa;subst e0 e1;have Hz:=e2.below (uH HB);have HW:=aA (yA (yH _ wr) (.cells #[.int .i64 vi,.string (bs vq),.slice va vl vc] 56));replace hfa:vq.length≤1048576∧ak.length≤1048576∧∀a ∈ ak,a.node.length≤1048576:=⟨hfa.1,hfa.2.1,hfa.2.2⟩;(have hvl:vl≤1048576:=by have:=e2.1;omega);have CC:=aA (fun wx (hb:Below (wr.alloc (.cells #[.int .i64 vi,.string (bs vq),.slice va vl vc] 56)).heap.size (wr.alloc (.cells #[.int .i64 vi,.string (bs vq),.slice va vl vc] 56)) wx)=>rE vi vq va vl vc ak wx ((Hz.below (uH HW)).below hb) hvl hfa.1 hfa.2.2);have HST:=aA Q8;have KP:=aA htk;have FV:=aA (hkh.below (uH HW));have FI:=aA (hrm.below (uH HW));have TS:=aA (hbk.below (uH HW));have TN:=aA hel;have WR:=aA hns;have X0:=aA ((uH BG).below (uH HW));have X1:=aA ((uH HR1).below (uH HW));have XQ:=aA ((uH HQ).below (uH HW));have XB:=aA (yB (uH HB) (uH HW));have XA:=aA (yD wr #[.int .i64 vi,.string (bs vq),.slice va vl vc] 56);(have Fz:w.heap.size+2≤(wr.alloc (.cells #[.int .i64 vi,.string (bs vq),.slice va vl vc] 56)).heap.size:=by rw [yE];omega);(have k0:(0:Int)≤k:=by omega);(have k1:(k:Int)<n2:=by omega);clear Zk hkh hrm hbk hap hv Q8 htk Hz e2 e3 hfa hel hk0 hk1 hns;(go_upto_region 6 with fail);obtain ⟨W,hW⟩:∃W,wr.alloc (.cells #[.int .i64 vi,.string (bs vq),.slice va vl vc] 56)=W:=⟨_,rfl⟩;rw [hW] at CC FV FI TS X0 X1 XQ XB XA Fz ⊢;have xa0:=(uH XA).at 0;have xa1:=(uH XA).at 1;have xa2:=(uH XA).at 2;have x5:=(uH X0).at 5;simp at xa0 xa1 xa2 x5;clear hW HW HP BG HR1 HQ HB c0 c1 c2;(go_wp2_with fail);(go_region_with (go_at_call 77;refine (uH CC _ ?_).mono ?_;(exact (yH _ W).drew);rintro e w6 ⟨v,rfl,ho,hb⟩;have GY:=aA (yB (yH _ W).drew hb);obtain ⟨no,nd,rfl,hnd,hnr,hno⟩:=vO ho;have FQ:=aA hnr;have xk:=aA (show dW W.heap.size w6.heap.size w6 43 5 no ak.length from hno);have Yj:=aA hnd;have HOA:=aA (show dW W.heap.size w6.heap.size w6 43 5 no nd from iT ho);have Zz:=aA ((uH TS).below (uH GY));have y5:=((uH X0).below (uH GY)).at 5;have GQ:=(uH Zz).2.2 k hkl;rw [uH TN] at GQ;obtain ⟨c0,c1,c2⟩:=GQ;simp only at c0 c1 c2;have s0:=iZ c0;have s1:=iZ c1;have z0:=(uH Zz).1.frozen (k*3);have z1:=(uH Zz).1.frozen (k*3+1);have z2:=(uH Zz).1.frozen (k*3+2);simp at y5;clear ho hb hnr hno hnd));all_goals go_wp2
   all_goals
    have hkk:∃t N,Cel w6 t g N∧t≠43:=⟨_,_,(uH Zz).1,by decide⟩;have hgw:w.heap.size+2≤g:=hgB;go_roundw;case rel=>
     refine ⟨k+1,by omega,by go_num,aA ⟨ns++[⟨vi,vq,no,ak.length,nd⟩],by simp [uH WR],?_,?_,?_⟩,aA (((uH X0).below (uH GY)).other g _ _ (by omega)),aA (((uH X1).below (uH GY)).other g _ _ (by omega)),aA ?_,aA (yC (yB (uH XB) (uH GY)) _ _ _ (by omega)),by rw [bV];have:=(uH GY).size;omega⟩
     ·have:=(uH Zz).asks hkl no ak.length nd;rw [uH TN] at this;simp only at this;rw [uH HST] at this;exact this.has hgB (by have:=uH ZK;have:=uH WR;simp;omega)
     ·rw [uH KP];exact ((uH FV).snoc (uH GY) Fz vi vq no nd ak (uH Yj) (uH FQ) (uH xk)).sc (.inr hkk)
     ·exact ((RmL.cons ((uH HOA).mono Fz (yJ _)) ((uH FI).below (uH GY))).sub (fun p hp=>by simp only [List.map_append,List.map_cons,List.map_nil,List.mem_cons,List.mem_append,List.not_mem_nil,or_false] at hp ⊢;rcases hp with h | h | h | h<;>simp [h])).sc _ _ _
     ·obtain ⟨t,N,hc,ht⟩:=hkk;have hq:=(uH XQ).below (uH GY);refine ⟨hq.1.mks (Mks.one (fun x=>x=g) _ g _ _ rfl) (fun i hi e=>?_),by rw [bV];exact hq.2.mks (Mks.one (fun x=>x=g) _ g _ _ rfl)⟩;obtain ⟨_,_,N',hc'⟩:=hq.2.lies i hi;subst e;exact absurd (hc'.type (uH Zz).1) (by decide)
    case measure=>simp [intOf];omega
  ·(obtain rfl:k=n2:=by omega);obtain ⟨ns,hns,Zk,hkh,hrm⟩:=uH HP;have hdr:hs0.drop k=[]:=List.drop_of_length_le (by have:=uH ZK;omega);have htk:aj.take k=aj:=List.take_of_length_le (by have:=(uH SH).1;have:=uH ZK;omega);rw [hdr,List.append_nil] at Zk;rw [htk] at hkh;have M0:=aA hrm;have K0:=aA (show aH4 w _ qo qs po k ns aj wr from ⟨uH BG,uH HR1,uH HQ,Zk,hkh,uH HB,hz⟩);have CM:=aA (vE ma ml mc ms wr ((uH SM).below (uH HB)) hlm);have a6:=(uH BG).at 6;simp at a6;(have k1:¬(k:Int)<k:=by omega);clear Zk hkh hrm hdr htk HP BG HR1 HQ HB hlt hns;(go_wp2_with fail);refine (uH CM).mono ?_;rintro e w7 ⟨v,rfl,ho,hb⟩;obtain ⟨mo,md,rfl,hmd,MK⟩:=aDy (wQ ho hz);have M1:=aA (RmL.cons (iT (wQ ho hz)) ((uH M0).below hb));have K1:=aA ((uH K0).below hb);obtain ⟨n3,XG⟩:∃n,ms.length=n:=⟨_,rfl⟩;rw [XG] at MK ⊢;have OM:=aA MK;have HN3:=aA XG;(have hl3:n3≤1048576:=by have:=(uH SM).1;omega);have d6:=(uH K1).r0.at 6;have f6:=(uH K1).r0.f 6;simp at d6;have HMD:=aA (show n3≤md by omega);clear ho hb MK CM a6 hmd XG K0 M0 hz;(go_upto_region 9 with fail);have K2:=aA (show aH4 w #[.slice qo qs.length qd,.int .i64 cv,.int .i64 ez,.int .i64 ny,.int .i64 sj,.slice po k pd,.slice mo n3 md,.slice ca cl cc] qo qs po k ns aj (w7.setCell ⟨w.heap.size,6,none⟩ (.slice mo n3 md)) from (uH K1).sc 6 (.slice mo n3 md));have OM2:=aA ((uH OM).sc (k:=w.heap.size) (j:=6) (v:=.slice mo n3 md) (by omega));have M2:=aA ((uH M1).sc w.heap.size 6 (.slice mo n3 md));generalize w7.setCell ⟨w.heap.size,6,none⟩ (.slice mo n3 md)=w8 at K2 OM2 M2 ⊢;have a6:=(uH K2).r0.at 6;simp at a6;clear d6 f6 K1 OM M1;go_wp2;(go_loopw [37] (fun i wr=>∃(j:Nat),j≤n3∧i=.int .i64 j∧Hid (aH4 w #[.slice qo qs.length qd,.int .i64 cv,.int .i64 ez,.int .i64 ny,.int .i64 sj,.slice po k pd,.slice mo n3 md,.slice ca cl cc] qo qs po k ns aj wr)∧Hid (o6 (w.heap.size+2) wr mo n3 ms)∧Hid (RmL (w.heap.size+2) wr ((103,4,mo,md)::(56,3,po,pd)::(105,4,qo,qd)::ns.map (fun v=>(43,5,v.ao,v.cap))))) (fun i _=>n3 - (intOf i).toNat));(case atStart=>exact ⟨0,Nat.zero_le _,rfl,K2,OM2,M2⟩);case round=>
    obtain ⟨j,hj,rfl,HK,HM,FJ⟩:=hrel;clear K2 OM2 M2 a6;by_cases hlt:j<n3
    ·(obtain ⟨g,rfl,hgB,PD,hfz,hat⟩:=(uH HM).blk hlt;(have hjl:j<ms.length:=by have:=uH HN3;omega);obtain ⟨c0,c1,c2,c3⟩:=hat j hjl;have hnm:=(uH HF).2.2.1.2 ms[j] (yM hjl);obtain ⟨⟨na,me,cp,se⟩,hm⟩:∃m,ms[j]=m:=⟨_,rfl⟩;rw [hm] at c0 c1 c2 c3 hnm;simp only at c0 c1 c2 c3 hnm;have HW:=aA (yA (yH _ wr) (.cells #[.string (bs na),.int .i64 me,.int .i64 cp,.int .i64 se] 103));have X0:=aA ((uH HK).below (uH HW));have XM:=aA ((uH HM).below (uH HW));have XL:=aA ((uH FJ).below (uH HW));have XA:=aA (yD wr #[.string (bs na),.int .i64 me,.int .i64 cp,.int .i64 se] 103);have D0:=aA (iX c0 (uH HW));(have hs1:(bs na).size≤281474976710656:=by rw [cK];omega);have CL:=aA (fun wx=>iW (bs na) wx hs1);(have j0:(0:Int)≤j:=by omega);(have j1:(j:Int)<n3:=by omega);clear hat hm hjl hfz hnm;(go_upto_region 12 with fail);obtain ⟨W,hW⟩:∃W,wr.alloc (.cells #[.string (bs na),.int .i64 me,.int .i64 cp,.int .i64 se] 103)=W:=⟨_,rfl⟩;rw [hW] at X0 XM XL XA D0 ⊢;have xa0:=(uH XA).at 0;have x6:=(uH X0).r0.at 6;simp at xa0 x6;clear hW HW HK HM FJ c0 c1 c2 c3;(go_wp2_with fail);(go_region_with (go_at_call 87;refine (uH CL _).mono ?_;rintro e w6 ⟨rfl,hb⟩;have GY:=aA (yB (yH _ W).drew hb);have y6:=((uH X0).below (uH GY)).r0.at 6;have c0:=iX (uH D0) (uH GY);have s0:=iZ c0;obtain ⟨g',e',_,_,hfz,_⟩:=((uH XM).below (uH GY)).blk hlt;cases e';have z0:=hfz (j*4);simp at y6;clear hb hfz));all_goals go_wp2);all_goals go_roundw;(case rel=>exact ⟨j+1,by omega,by go_num,aA ((uH X0).below (uH GY)),aA ((uH XM).below (uH GY)),aA ((uH XL).below (uH GY))⟩);case measure=>simp [intOf];omega
    ·(obtain rfl:j=n3:=by omega);have CC:=aA (xM ca cl cc cs wr ((uH SC).below (uH HK).b) hlc (uH HF).2.2.2.2);have a7:=(uH HK).r0.at 7;simp at a7;(have j1:¬(j:Int)<j:=by omega);clear hlt;(go_wp2_with fail);refine (uH CC).mono ?_;rintro e w9 ⟨co,cd,rfl,hcd,JL,hco,hb⟩;have L1:=aA (RmL.cons (hco.mono (uH HK).z (yJ _)) ((uH FJ).below hb));have hch:=JL.base (uH HK).z;have K1:=aA ((uH HK).below hb);have OM1:=aA ((uH HM).below hb);obtain ⟨n4,YM⟩:∃n,cs.length=n:=⟨_,rfl⟩;rw [YM] at hch ⊢;have OC:=aA hch;have NT:=aA YM;have d7:=(uH K1).r0.at 7;have f7:=(uH K1).r0.f 7;simp at d7;have HCD:=aA (show n4≤cd by omega);clear JL hco hb hch CC a7 hcd YM HK HM FJ;(go_upto_region 15 with fail);have K2:=aA (show aH4 w #[.slice qo qs.length qd,.int .i64 cv,.int .i64 ez,.int .i64 ny,.int .i64 sj,.slice po k pd,.slice mo j md,.slice co n4 cd] qo qs po k ns aj (w9.setCell ⟨w.heap.size,7,none⟩ (.slice co n4 cd)) from (uH K1).sc 7 (.slice co n4 cd));have OM2:=aA ((uH OM1).sc (k:=w.heap.size) (j:=7) (v:=.slice co n4 cd) (by omega));have OC2:=aA ((uH OC).sc (k:=w.heap.size) (j:=7) (v:=.slice co n4 cd) (by omega));have L2:=aA ((uH L1).sc w.heap.size 7 (.slice co n4 cd));generalize w9.setCell ⟨w.heap.size,7,none⟩ (.slice co n4 cd)=w10 at K2 OM2 OC2 L2 ⊢;clear d7 f7 K1 OM1 OC L1;have a0:=(uH K2).r0.at 0;have a1:=(uH K2).r0.at 1;have a2:=(uH K2).r0.at 2;have a3:=(uH K2).r0.at 3;have a4:=(uH K2).r0.at 4;have a5:=(uH K2).r0.at 5;have a6:=(uH K2).r0.at 6;have a7:=(uH K2).r0.at 7;have c0:=(uH K2).r1.at 0;have c1:=(uH K2).r1.at 1;have c2:=(uH K2).r1.at 2;have c3:=(uH K2).r1.at 3;have c4:=(uH K2).r1.at 4;have c5:=(uH K2).r1.at 5;have c6:=(uH K2).r1.at 6;have c7:=(uH K2).r1.at 7;have f0:=(uH K2).r1.f 0;have f1:=(uH K2).r1.f 1;have f2:=(uH K2).r1.f 2;have f3:=(uH K2).r1.f 3;have f4:=(uH K2).r1.f 4;have f5:=(uH K2).r1.f 5;have f6:=(uH K2).r1.f 6;have f7:=(uH K2).r1.f 7;simp at a0 a1 a2 a3 a4 a5 a6 a7 c0 c1 c2 c3 c4 c5 c6 c7;go_wp2;have R9:=aA (show Blk ((((((((w10.setCell ⟨w.heap.size+1,0,none⟩ (.slice qo qs.length qd)).setCell ⟨w.heap.size+1,1,none⟩ (.int .i64 cv)).setCell ⟨w.heap.size+1,2,none⟩ (.int .i64 ez)).setCell ⟨w.heap.size+1,3,none⟩ (.int .i64 ny)).setCell ⟨w.heap.size+1,4,none⟩ (.int .i64 sj)).setCell ⟨w.heap.size+1,5,none⟩ (.slice po k pd)).setCell ⟨w.heap.size+1,6,none⟩ (.slice mo j md)).setCell ⟨w.heap.size+1,7,none⟩ (.slice co n4 cd)) (w.heap.size+1) #[.slice qo qs.length qd,.int .i64 cv,.int .i64 ez,.int .i64 ny,.int .i64 sj,.slice po k pd,.slice mo j md,.slice co n4 cd] 29 from (((((((((uH K2).r1.set 0 (.slice qo qs.length qd)).set 1 (.int .i64 cv)).set 2 (.int .i64 ez)).set 3 (.int .i64 ny)).set 4 (.int .i64 sj)).set 5 (.slice po k pd)).set 6 (.slice mo j md)).set 7 (.slice co n4 cd)));have Q9:=aA ((((((((((uH K2).q.sc (k:=w.heap.size+1) (j:=0) (v:=.slice qo qs.length qd) (by omega)).sc (k:=w.heap.size+1) (j:=1) (v:=.int .i64 cv) (by omega)).sc (k:=w.heap.size+1) (j:=2) (v:=.int .i64 ez) (by omega)).sc (k:=w.heap.size+1) (j:=3) (v:=.int .i64 ny) (by omega)).sc (k:=w.heap.size+1) (j:=4) (v:=.int .i64 sj) (by omega)).sc (k:=w.heap.size+1) (j:=5) (v:=.slice po k pd) (by omega)).sc (k:=w.heap.size+1) (j:=6) (v:=.slice mo j md) (by omega)).sc (k:=w.heap.size+1) (j:=7) (v:=.slice co n4 cd) (by omega)));have P9:=aA ((((((((((uH K2).p.sc (k:=w.heap.size+1) (j:=0) (v:=.slice qo qs.length qd) (by omega)).sc (k:=w.heap.size+1) (j:=1) (v:=.int .i64 cv) (by omega)).sc (k:=w.heap.size+1) (j:=2) (v:=.int .i64 ez) (by omega)).sc (k:=w.heap.size+1) (j:=3) (v:=.int .i64 ny) (by omega)).sc (k:=w.heap.size+1) (j:=4) (v:=.int .i64 sj) (by omega)).sc (k:=w.heap.size+1) (j:=5) (v:=.slice po k pd) (by omega)).sc (k:=w.heap.size+1) (j:=6) (v:=.slice mo j md) (by omega)).sc (k:=w.heap.size+1) (j:=7) (v:=.slice co n4 cd) (by omega)));have K9:=aA ((((((((((uH K2).k.sc (k:=w.heap.size+1) (j:=0) (v:=.slice qo qs.length qd) (.inl (by omega))).sc (k:=w.heap.size+1) (j:=1) (v:=.int .i64 cv) (.inl (by omega))).sc (k:=w.heap.size+1) (j:=2) (v:=.int .i64 ez) (.inl (by omega))).sc (k:=w.heap.size+1) (j:=3) (v:=.int .i64 ny) (.inl (by omega))).sc (k:=w.heap.size+1) (j:=4) (v:=.int .i64 sj) (.inl (by omega))).sc (k:=w.heap.size+1) (j:=5) (v:=.slice po k pd) (.inl (by omega))).sc (k:=w.heap.size+1) (j:=6) (v:=.slice mo j md) (.inl (by omega))).sc (k:=w.heap.size+1) (j:=7) (v:=.slice co n4 cd) (.inl (by omega))));have M9:=aA ((((((((((uH OM2).sc (k:=w.heap.size+1) (j:=0) (v:=.slice qo qs.length qd) (by omega)).sc (k:=w.heap.size+1) (j:=1) (v:=.int .i64 cv) (by omega)).sc (k:=w.heap.size+1) (j:=2) (v:=.int .i64 ez) (by omega)).sc (k:=w.heap.size+1) (j:=3) (v:=.int .i64 ny) (by omega)).sc (k:=w.heap.size+1) (j:=4) (v:=.int .i64 sj) (by omega)).sc (k:=w.heap.size+1) (j:=5) (v:=.slice po k pd) (by omega)).sc (k:=w.heap.size+1) (j:=6) (v:=.slice mo j md) (by omega)).sc (k:=w.heap.size+1) (j:=7) (v:=.slice co n4 cd) (by omega)));have C9:=aA ((((((((((uH OC2).sc (k:=w.heap.size+1) (j:=0) (v:=.slice qo qs.length qd) (by omega)).sc (k:=w.heap.size+1) (j:=1) (v:=.int .i64 cv) (by omega)).sc (k:=w.heap.size+1) (j:=2) (v:=.int .i64 ez) (by omega)).sc (k:=w.heap.size+1) (j:=3) (v:=.int .i64 ny) (by omega)).sc (k:=w.heap.size+1) (j:=4) (v:=.int .i64 sj) (by omega)).sc (k:=w.heap.size+1) (j:=5) (v:=.slice po k pd) (by omega)).sc (k:=w.heap.size+1) (j:=6) (v:=.slice mo j md) (by omega)).sc (k:=w.heap.size+1) (j:=7) (v:=.slice co n4 cd) (by omega)));have L9:=aA (((((((((uH L2).sc (w.heap.size+1) 0 (.slice qo qs.length qd)).sc (w.heap.size+1) 1 (.int .i64 cv)).sc (w.heap.size+1) 2 (.int .i64 ez)).sc (w.heap.size+1) 3 (.int .i64 ny)).sc (w.heap.size+1) 4 (.int .i64 sj)).sc (w.heap.size+1) 5 (.slice po k pd)).sc (w.heap.size+1) 6 (.slice mo j md)).sc (w.heap.size+1) 7 (.slice co n4 cd));have B9:=aA ((yC (yC (yC (yC (yC (yC (yC (yC (uH K2).b (w.heap.size+1) 0 (.slice qo qs.length qd) (by omega)) (w.heap.size+1) 1 (.int .i64 cv) (by omega)) (w.heap.size+1) 2 (.int .i64 ez) (by omega)) (w.heap.size+1) 3 (.int .i64 ny) (by omega)) (w.heap.size+1) 4 (.int .i64 sj) (by omega)) (w.heap.size+1) 5 (.slice po k pd) (by omega)) (w.heap.size+1) 6 (.slice mo j md) (by omega)) (w.heap.size+1) 7 (.slice co n4 cd) (by omega)));generalize ((((((((w10.setCell ⟨w.heap.size+1,0,none⟩ (.slice qo qs.length qd)).setCell ⟨w.heap.size+1,1,none⟩ (.int .i64 cv)).setCell ⟨w.heap.size+1,2,none⟩ (.int .i64 ez)).setCell ⟨w.heap.size+1,3,none⟩ (.int .i64 ny)).setCell ⟨w.heap.size+1,4,none⟩ (.int .i64 sj)).setCell ⟨w.heap.size+1,5,none⟩ (.slice po k pd)).setCell ⟨w.heap.size+1,6,none⟩ (.slice mo j md)).setCell ⟨w.heap.size+1,7,none⟩ (.slice co n4 cd))=W9 at R9 Q9 P9 K9 M9 C9 L9 B9 ⊢;obtain ⟨z0,z1,z2,z3,z4,z5,z6,z7⟩:=zq (uH R9);refine bodyPost_ret (v:=.agg #[.slice qo qs.length qd,.int .i64 cv,.int .i64 ez,.int .i64 ny,.int .i64 sj,.slice po k pd,.slice mo j md,.slice co n4 cd]) (by simp [results,results45,go_sem,z0,z1,z2,z3,z4,z5,z6,z7]) rfl (show aHZ w _ _ _ from ⟨⟨qo,qs.length,qd,po,k,pd,mo,j,md,co,n4,cd⟩,ns,rfl,?_,uH B9⟩);exact (aCj (x:=⟨qo,qs.length,qd,po,k,pd,mo,j,md,co,n4,cd⟩) (s:=⟨qs,cv,ez,ny,sj,aj,ms,cs⟩) (uH Q9) (uH P9) (uH K9) (uH M9) (uH C9) ⟨uH HQD,uH HPD,uH HMD,uH HCD⟩ (aIk (x:=⟨qo,qs.length,qd,po,k,pd,mo,j,md,co,n4,cd⟩) ((uH L9).sub (fun p hp=>by simp only [RL4,List.mem_cons,List.mem_map] at hp ⊢;rcases hp with h | h | h | h<;>simp [h])) (uH L9 (56,3,po,pd) (by simp)))).mono (by omega) (yJ _)
theorem iA {p:Nat} {u:Value} (h:w.cell? ⟨b,p,none⟩=some u) (hb:w'.heap[b]? = w.heap[b]?):w'.cell? ⟨b,p,none⟩=some u:=(World.cell?_of_block (w:=w) (a:=⟨b,p,none⟩) hb).trans h
theorem gH.kept {len:Nat} {l:List Q} (h:gH w ao len l) (hs:∀k,inR ao len k→w'.heap[k]? = w.heap[k]?):gH w' ao len l:=by
 obtain ⟨h1,h2⟩:=h;refine ⟨h1,?_⟩;rcases h2 with h2 | ⟨b,off,h3,h4⟩
 ·exact .inl h2
 ·by_cases hz:len=0
  ·exact .inl hz
  ·have hb:=hs b ⟨hz,off,h3⟩;exact .inr ⟨b,off,h3,fun i h=>let ⟨a,c,d,e⟩:=h4 i h;⟨iA a hb,iA c hb,iA d hb,iA e hb⟩⟩
theorem cB.kept {len:Nat} {l:List Mac} (h:cB w ao len l) (hs:∀k,inR ao len k→w'.heap[k]? = w.heap[k]?):cB w' ao len l:=by
 obtain ⟨h1,h2⟩:=h;refine ⟨h1,?_⟩;rcases h2 with h2 | ⟨b,off,h3,h4⟩
 ·exact .inl h2
 ·by_cases hz:len=0
  ·exact .inl hz
  ·have hb:=hs b ⟨hz,off,h3⟩;exact .inr ⟨b,off,h3,fun i h=>let ⟨a,c,d,e⟩:=h4 i h;⟨iA a hb,iA c hb,iA d hb,iA e hb⟩⟩
theorem bR.kept {len:Nat} {l:List Con} (h:bR w ao len l) (hs:∀k,inR ao len k→w'.heap[k]? = w.heap[k]?):bR w' ao len l:=by
 obtain ⟨h1,h2⟩:=h;refine ⟨h1,?_⟩;rcases h2 with h2 | ⟨b,off,h3,h4⟩
 ·exact .inl h2
 ·by_cases hz:len=0
  ·exact .inl hz
  ·have hb:=hs b ⟨hz,off,h3⟩;exact .inr ⟨b,off,h3,fun i h=>let ⟨a,c,d,e,f⟩:=h4 i h;⟨iA a hb,iA c hb,iA d hb,iA e hb,iA f hb⟩⟩
theorem bE.kept {len:Nat} {l:List Ask} (h:bE w ao len l) (hs:∀k,inR ao len k→w'.heap[k]? = w.heap[k]?):bE w' ao len l:=by
 obtain ⟨h1,h2⟩:=h;refine ⟨h1,?_⟩;rcases h2 with h2 | ⟨b,off,h3,h4⟩
 ·exact .inl h2
 ·by_cases hz:len=0
  ·exact .inl hz
  ·have hb:=hs b ⟨hz,off,h3⟩;exact .inr ⟨b,off,h3,fun i h=>let ⟨a,c,d,e,f⟩:=h4 i h;⟨iA a hb,iA c hb,iA d hb,iA e hb,iA f hb⟩⟩
theorem gG.kept {len:Nat} (h:gG w ao len l) (hs:∀k,inR ao len k→w'.heap[k]? = w.heap[k]?):gG w' ao len l:=by
 obtain ⟨h1,h2⟩:=h;refine ⟨h1,?_⟩;rcases h2 with h2 | ⟨b,off,h3,h4⟩
 ·exact .inl h2
 ·by_cases hz:len=0
  ·exact .inl hz
  ·have hb:=hs b ⟨hz,off,h3⟩;exact .inr ⟨b,off,h3,fun i h=>let ⟨a,c,d⟩:=h4 i h;⟨iA a hb,iA c hb,iA d hb⟩⟩
theorem gY (h:dW B w.heap.size w t sz ao n) (hg:w.grownBy w' r) (hr:∀k,r=some k→∃N,Cel w t' k N) (ht:t'≠t):(∀k,inR ao n k→w'.heap[k]? = w.heap[k]?)∧dW B w'.heap.size w' t sz ao n:=by
 have key:∀k,inR ao n k→w'.heap[k]? = w.heap[k]?:=fun k hk=>by
  obtain ⟨_,h2,N,h3⟩:=h.lies k hk;refine hg.block k h2 (fun e=>?_);obtain ⟨N',h4⟩:=hr k e.symm;exact ht (h4.type h3)
 refine ⟨key,?_⟩;rcases h with e | ⟨g,M,e,h1,h2,h3,h4⟩
 ·exact .inl e
 ·by_cases hz:n=0
  ·exact .inl hz
  ·exact .inr ⟨g,M,e,h1,Nat.lt_of_lt_of_le h2 hg.size,h3.of_block (key g ⟨hz,0,e⟩),h4⟩
theorem rP.grown {l:List Q} (h:rP B w ao n l) (hg:w.grownBy w' r) (hr:∀k,r=some k→∃N,Cel w t' k N) (ht:t'≠105):rP B w' ao n l:=⟨h.1.kept (gY h.2 hg hr ht).1,(gY h.2 hg hr ht).2⟩
theorem o6.grown {l:List Mac} (h:o6 B w ao n l) (hg:w.grownBy w' r) (hr:∀k,r=some k→∃N,Cel w t' k N) (ht:t'≠103):o6 B w' ao n l:=⟨h.1.kept (gY h.2 hg hr ht).1,(gY h.2 hg hr ht).2⟩
theorem nH.grown {l:List Con} (h:nH B w ao n l) (hg:w.grownBy w' r) (hr:∀k,r=some k→∃N,Cel w t' k N) (ht:t'≠35):nH B w' ao n l:=⟨h.1.kept (gY h.2 hg hr ht).1,(gY h.2 hg hr ht).2⟩
theorem nG.grown (h:nG B w ao n l) (hg:w.grownBy w' r) (hr:∀k,r=some k→∃N,Cel w t' k N) (ht:t'≠56):nG B w' ao n l:=⟨h.1.kept (gY h.2 hg hr ht).1,(gY h.2 hg hr ht).2⟩
theorem jG.grown {l:List dA} (h:jG B w hs l) (hg:w.grownBy w' r) (hr:∀k,r=some k→∃N,Cel w t' k N) (ht:t'≠43):jG B w' hs l:=
 ⟨⟨h.heads.1,fun i h1 h2=>let ⟨a,b,c,d⟩:=h.heads.2 i h1 h2;⟨a,b,c.kept (gY (h.own _ (yM h1)) hg hr ht).1,d⟩⟩,fun v hv=>(gY (h.own v hv) hg hr ht).2,h.apart⟩
theorem aHo {e:TypeId} {v:Value} {xs:List Value} (h:w.ownsRow B e sz v n xs):∀k,v.ownBlock=some k→∃N,Cel w e k N:=fun k hk=>by
 rcases h.2 with ⟨rfl,_⟩ | ⟨g,cap,cur,rfl,_,h2,_⟩
 ·simp [Value.ownBlock] at hk
 ·obtain rfl:g=k:=by simpa [Value.ownBlock] using hk
  exact ⟨_,cur,h2,rfl⟩
theorem Blk.grown (h:Blk w g arr t) (hg:w.grownBy w' r) (hr:∀k,r=some k→∃N,Cel w t' k N) (ht:t'≠t):Blk w' g arr t:=
 (hg.block g h.lt (fun e=>by obtain ⟨N,h4⟩:=hr g e.symm;exact ht (h4.type ⟨arr,h,rfl⟩))).trans h
theorem aAy (w:World) (g j:Nat) (v:Value):w.grownBy (w.setCell ⟨g,j,none⟩ v) (some g):=⟨rfl,rfl,rfl,by simp [World.setCell],fun k _ hne=>Below.heap_setCell _ _ _ _ (by show k≠g;intro e;exact hne (by rw [e]))⟩
structure aHV (x:Sls) (hs:List AV):Prop where
 q:x.qa=none→x.ql=0∧x.qc=0
 m:x.ma=none→x.ml=0∧x.mc=0
 c:x.ca=none→x.cl=0∧x.cc=0
 k:∀v ∈ hs,v.ao=none→v.len=0∧v.cap=0
theorem vK {c:Nat} (h:dW B E w t sz ao c) (hn:n≤c) (e:ao=none):n=0∧c=0:=by
 rcases h with h | ⟨g,M,h1,_⟩
 ·omega
 ·rw [e] at h1;cases h1
theorem rO.some (h:rO B E w x s hs):aHV x hs:=
 ⟨vK h.rm.1 h.cap.q,vK h.rm.2.2.1 h.cap.m,vK h.rm.2.2.2.1 h.cap.c,fun v hv=>vK (h.rm.2.2.2.2 v hv) (by
  obtain ⟨i,hi,rfl⟩:=List.getElem_of_mem hv;exact (h.heads.2 i hi (by rw [←h.heads.1];exact hi)).2.2.2)⟩
theorem rO.keep (h:rO B E w x s hs) (hk:∀k,B≤k→k<E→w'.heap[k]? = w.heap[k]?):rO B E w' x s hs:=by
 have key:∀{t:TypeId} {sz n:Nat} {ao:Option Addr},dW B E w t sz ao n→(∀k,inR ao n k→w'.heap[k]? = w.heap[k]?)∧dW B E w' t sz ao n:=fun ho=>by
  refine ⟨fun k hi=>?_,?_⟩
  ·obtain ⟨h1,h2,_⟩:=ho.lies k hi;exact hk k h1 h2
  ·rcases ho with e | ⟨g,M,e,h1,h2,h3,h4⟩
   ·exact .inl e
   ·exact .inr ⟨g,M,e,h1,h2,h3.of_block (hk g h1 h2),h4⟩
 have hh:kD w' hs s.apps:=⟨h.heads.1,fun i h1 h2=>by
  obtain ⟨a,b,c,d⟩:=h.heads.2 i h1 h2;exact ⟨a,b,c.kept (key (h.asks _ (yM h1))).1,d⟩⟩
 have QN:=h.av.kept (key h.a).1;exact ⟨⟨h.row.1.kept (key h.q).1,aD2 QN hh,h.row.2.2.1.kept (key h.m).1,h.row.2.2.2.kept (key h.c).1⟩,(key h.q).2,(key h.a).2,(key h.m).2,(key h.c).2,QN,hh,fun v hv=>(key (h.asks v hv)).2,h.apart,h.cap,h.rm.map (fun o=>(key o).2)⟩
structure aET (B E:Nat) (w:World) (g:Nat) (y:Sls) (s:St) (hs:List AV) (go:Option Addr) (gn:Nat) (gone:List Con):Prop where
 box:Blk w g (svc y s) 29
 a:rO B E w y s hs
 c:bR w go gn gone
 co:dW B E w 35 5 go gn
 ap:∀k,inR go gn k→¬inR y.ca y.cl k
 ge:E≤g
theorem aET.below (h:aET B E w g y s hs go gn gone) (hb:Bw w w'):aET B E w' g y s hs go gn gone:=
 ⟨h.box.below hb,h.a.below hb,h.c.below hb,h.co.below hb,h.ap,h.ge⟩
theorem aET.al (h:aET B E w g y s hs go gn gone) (o:Obj):aET B E (w.alloc o) g y s hs go gn gone:=h.below (yA (yH _ _) o)
theorem aET.keep (h:aET B E w g y s hs go gn gone) (hk:∀k,B≤k→k<E→w'.heap[k]? = w.heap[k]?) (hg:w'.heap[g]? = w.heap[g]?):aET B E w' g y s hs go gn gone:=by
 refine ⟨hg.trans h.box,h.a.keep hk,h.c.kept (fun k hi=>?_),?_,h.ap,h.ge⟩
 ·obtain ⟨h1,h2,_⟩:=h.co.lies k hi;exact hk k h1 h2
 ·rcases h.co with e | ⟨b,M,e,h1,h2,h3,h4⟩
  ·exact .inl e
  ·exact .inr ⟨b,M,e,h1,h2,h3.of_block (hk b h1 h2),h4⟩
theorem aET.read (h:aET B E w g y s hs go gn gone):w.cell? ⟨g,0,none⟩=some (.slice y.qa y.ql y.qc)∧w.cell? ⟨g,1,none⟩=some (.int .i64 s.clock)∧w.cell? ⟨g,2,none⟩=some (.int .i64 s.epoch)∧w.cell? ⟨g,3,none⟩=some (.int .i64 s.next)∧w.cell? ⟨g,4,none⟩=some (.int .i64 s.serial)∧w.cell? ⟨g,5,none⟩=some (.slice y.aa y.al y.ac)∧w.cell? ⟨g,6,none⟩=some (.slice y.ma y.ml y.mc)∧w.cell? ⟨g,7,none⟩=some (.slice y.ca y.cl y.cc):=
 ⟨h.box.at 0,h.box.at 1,h.box.at 2,h.box.at 3,h.box.at 4,h.box.at 5,h.box.at 6,h.box.at 7⟩
structure aKb (B E:Nat) (w:World) (x:Sls) (hs:List AV):Prop where
 q:dW B E w 105 4 x.qa x.ql
 a:dW B E w 56 3 x.aa x.al
 m:dW B E w 103 4 x.ma x.ml
 c:dW B E w 35 5 x.ca x.cl
 k:∀v ∈ hs,dW B E w 43 5 v.ao v.len
theorem rO.own (h:rO B E w x s hs):aKb B E w x hs:=⟨h.q,h.a,h.m,h.c,h.asks⟩
theorem aKb.mks (h:aKb B E w x hs) (hm:Mks S w w'):aKb B E w' x hs:=⟨h.q.mks hm,h.a.mks hm,h.m.mks hm,h.c.mks hm,fun v hv=>(h.k v hv).mks hm⟩
structure aLG (B E:Nat) (w:World) (g:Nat) (y:Sls) (s:St) (hs:List AV) (go:Option Addr) (gn:Nat):Prop where
 box:Blk w g (svc y s) 29
 m:SMk w y hs
 own:aKb B E w y hs
 co:dW B E w 35 5 go gn
 ap:∀k,inR go gn k→¬inR y.ca y.cl k
 ge:E≤g
theorem aLG.read (h:aLG B E w g y s hs go gn):w.cell? ⟨g,0,none⟩=some (.slice y.qa y.ql y.qc):=h.box.at 0
structure aIv (w:World) (g:Nat) (y:Sls) (s:St) (hs:List AV) (go:Option Addr) (gn:Nat):Prop where
 box:Blk w g (svc y s) 29
 m:SMk w y hs
 c:bR w go gn (aIp (aLM y hs) gn)
theorem aIv.below (h:aIv w g y s hs go gn) (hb:Bw w w'):aIv w' g y s hs go gn:=⟨h.box.below hb,h.m.below hb,h.c.below hb⟩
theorem aIv.al (h:aIv w g y s hs go gn) (o:Obj):aIv (w.alloc o) g y s hs go gn:=h.below (yA (yH _ _) o)
theorem aIv.read (h:aIv w g y s hs go gn):w.cell? ⟨g,0,none⟩=some (.slice y.qa y.ql y.qc)∧w.cell? ⟨g,1,none⟩=some (.int .i64 s.clock)∧w.cell? ⟨g,2,none⟩=some (.int .i64 s.epoch)∧w.cell? ⟨g,3,none⟩=some (.int .i64 s.next)∧w.cell? ⟨g,4,none⟩=some (.int .i64 s.serial)∧w.cell? ⟨g,5,none⟩=some (.slice y.aa y.al y.ac)∧w.cell? ⟨g,6,none⟩=some (.slice y.ma y.ml y.mc)∧w.cell? ⟨g,7,none⟩=some (.slice y.ca y.cl y.cc):=
 ⟨h.box.at 0,h.box.at 1,h.box.at 2,h.box.at 3,h.box.at 4,h.box.at 5,h.box.at 6,h.box.at 7⟩
theorem aET.off {E':Nat} (h:aET B E w g y s hs go gn gone) (hm:Mks S w w') (hS:∀k,S k→B'≤k∧k<E') (h1:g<B'∨E'≤B) (h2:g<B'∨E'≤g):aET B E w' g y s hs go gn gone:=
 h.keep (fun k hk1 hk2=>hm.block k (by have:=h.box.lt;have:=h.ge;omega) (fun hs=>by have:=hS k hs;have:=h.ge;omega)) (hm.block g h.box.lt (fun hs=>by have:=hS g hs;omega))
theorem dO:∀a b:List Con,aI (a++b)=aI a++aI b
 | [],b=>rfl
 | q::t,b=>by rw [List.cons_append,aI,aI,dO t b,List.append_assoc]
theorem Lay.rowC {l:List Con} (h:Lay w 35 g M (aI l)):bR w (some ⟨g,0,none⟩) l.length l:=by
 refine ⟨rfl,.inr ⟨g,0,rfl,fun i hi=>?_⟩⟩;obtain ⟨a,b,c,d,e⟩:=nU l i hi;unfold qD;simp only [Nat.zero_add];exact ⟨h.cell a,h.cell b,h.cell c,h.cell d,h.cell e⟩
theorem Mks.grown (h:Mks (fun k=>k=g) w w'):w.grownBy w' (some g):=⟨h.os,h.tape,h.output,h.size,fun k hk hne=>h.block k hk (fun e=>hne (by rw [e]))⟩
def aKm (w w':World):Prop:=∀k arr,Blk w k arr 29→Blk w' k arr 29
theorem aKm.trans {a b c:World} (h:aKm a b) (h':aKm b c):aKm a c:=fun k arr x=>h' k arr (h k arr x)
theorem Lay.rowM {l:List Mac} (h:Lay w 103 g M (dX l)):cB w (some ⟨g,0,none⟩) l.length l:=by
 refine ⟨rfl,.inr ⟨g,0,rfl,fun i hi=>?_⟩⟩;obtain ⟨a,b,c,d⟩:=qX l i hi;unfold o5;simp only [Nat.zero_add];exact ⟨h.cell a,h.cell b,h.cell c,h.cell d⟩
theorem Lay.rowP (h:Lay w 56 g M (dC l)):gG w (some ⟨g,0,none⟩) l.length l:=by
 refine ⟨rfl,.inr ⟨g,0,rfl,fun i hi=>?_⟩⟩;obtain ⟨a,b,c⟩:=lV l i hi;unfold aFa;simp only [Nat.zero_add];exact ⟨h.cell a,h.cell b,h.cell c⟩
theorem rP.base {l:List Q} (h:rP B w ao n l) (hb:B'≤B):rP B' w ao n l:=⟨h.1,h.2.mono hb (yJ _)⟩
theorem o6.base {l:List Mac} (h:o6 B w ao n l) (hb:B'≤B):o6 B' w ao n l:=⟨h.1,h.2.mono hb (yJ _)⟩
theorem nG.base (h:nG B w ao n l) (hb:B'≤B):nG B' w ao n l:=⟨h.1,h.2.mono hb (yJ _)⟩
theorem jG.base {l:List dA} (h:jG B w hs l) (hb:B'≤B):jG B' w hs l:=⟨h.heads,fun v hv=>(h.own v hv).mono hb (yJ _),h.apart⟩
theorem aGf (w:World):kD w [] []:=⟨rfl,fun i h=>absurd h (by simp)⟩
theorem aFD {t:List AV} {a:dA} {s:List dA} (h:kD w (v::t) (a::s)):(v.id=a.id∧v.queue=a.queue∧bE w v.ao v.len a.asks∧v.len≤v.cap)∧kD w t s:=
 ⟨h.2 0 (by simp) (by simp),by simpa using h.1,fun i h1 h2=>by have:=h.2 (i+1) (by simpa using h1) (by simpa using h2);simpa using this⟩
theorem aGe {t:List AV} {a:dA} {s:List dA} (h:v.id=a.id∧v.queue=a.queue∧bE w v.ao v.len a.asks∧v.len≤v.cap) (h':kD w t s):kD w (v::t) (a::s):=
 ⟨by simp [h'.1],fun i h1 h2=>by
  cases i with
  | zero=>exact h
  | succ i=>exact h'.2 i (by simpa using h1) (by simpa using h2)⟩
theorem uM {w:World} (f:Int→Bool):∀(hs:List AV) (l:List dA),kD w hs l→kD w (hs.filter (fun v=>f v.id)) (l.filter (fun a=>f a.id))
 | [],[],_=>aGf w
 | [],a::s,h=>absurd h.1 (by simp)
 | v::t,[],h=>absurd h.1 (by simp)
 | v::t,a::s,h=>by
  obtain ⟨h1,h2⟩:=aFD h;have ih:=uM f t s h2;cases hf:f a.id with
  | true=>rw [List.filter_cons_of_pos (by simpa [h1.1] using hf),List.filter_cons_of_pos (by simpa using hf)];exact aGe h1 ih
  | false=>rw [List.filter_cons_of_neg (by simp [h1.1,hf]),List.filter_cons_of_neg (by simp [hf])];exact ih
theorem jG.filter {l:List dA} (h:jG B w hs l) (f:Int→Bool):jG B w (hs.filter (fun v=>f v.id)) (l.filter (fun a=>f a.id)):=
 ⟨uM f hs l h.heads,fun v hv=>h.own v (List.mem_filter.1 hv).1,h.apart.filter _⟩
structure dV (B:Nat) (w:World) (x:Sls) (s:St) (hs:List AV):Prop where
 q:rP B w x.qa x.ql s.qs
 p:nG B w x.aa x.al hs
 k:jG B w hs s.apps
 m:o6 B w x.ma x.ml s.ms
 c:nH B w x.ca x.cl s.cs
 cap:aKz x
 rm:RmS B w.heap.size w x hs
theorem dV.below (h:dV B w x s hs) (hb:Bw w w'):dV B w' x s hs:=⟨h.q.below hb,h.p.below hb,h.k.below hb,h.m.below hb,h.c.below hb,h.cap,(h.rm.below hb).mono (yJ _) hb.size⟩
theorem dV.base (h:dV B w x s hs) (hb:B'≤B):dV B' w x s hs:=⟨h.q.base hb,h.p.base hb,h.k.base hb,h.m.base hb,h.c.base hb,h.cap,h.rm.mono hb (yJ _)⟩
theorem dV.ans (h:dV B w x s hs):rO B w.heap.size w x s hs:=aCj h.q h.p h.k h.m h.c h.cap h.rm
theorem rO.has (h:rO B E w x s hs) (hE:E≤w.heap.size):dV B w x s hs:=
 ⟨⟨h.row.1,h.q.mono (yJ _) hE⟩,⟨h.av,h.a.mono (yJ _) hE⟩,⟨h.heads,fun v hv=>(h.asks v hv).mono (yJ _) hE,h.apart⟩,⟨h.row.2.2.1,h.m.mono (yJ _) hE⟩,⟨h.row.2.2.2,h.c.mono (yJ _) hE⟩,h.cap,h.rm.mono (yJ _) hE⟩
theorem jQ (h:Blk w b old t) (arr:Array Value):Blk (w.setRow b arr) b arr t:=setRow_heap w b old arr t (0,0) h
theorem kK (h:Blk w b old t) (arr:Array Value) (hs:arr.size=old.size):Mks (fun k=>k=b) w (w.setRow b arr):=by
 refine ⟨rfl,rfl,rfl,by rw [setRow_size];exact yJ _,fun k _ hk=>setRow_other w b k arr hk,fun t' g N hc=>?_⟩;by_cases e:g=b
 ·subst e;obtain ⟨c,h1,h2⟩:=hc;rw [h] at h1;cases h1;exact ⟨arr,jQ h arr,by omega⟩
 ·exact hc.of_block (setRow_other w b g arr e)
theorem fG (h:dW B w.heap.size w t sz ao n) (hm:Mks S w w') (hS:∀k,S k→∃N,Cel w t' k N) (ht:t'≠t):(∀k,inR ao n k→¬S k)∧dW B w'.heap.size w' t sz ao n:=by
 refine ⟨fun k hk e=>?_,(h.mks hm).mono (yJ _) hm.size⟩;obtain ⟨_,_,N',h2⟩:=h.lies k hk;obtain ⟨N,h3⟩:=hS k e;exact ht (h3.type h2)
section
variable {B:Nat} {S:Nat→Prop} {w w':World}
theorem rP.mkc {l:List Q} (h:rP B w ao n l) (hm:Mks S w w') (hS:∀k,S k→∃N,Cel w 56 k N):rP B w' ao n l:=
 ⟨h.1.mks hm (fG h.2 hm hS (by decide)).1,(fG h.2 hm hS (by decide)).2⟩
theorem o6.mkc {l:List Mac} (h:o6 B w ao n l) (hm:Mks S w w') (hS:∀k,S k→∃N,Cel w 56 k N):o6 B w' ao n l:=
 ⟨h.1.mks hm (fG h.2 hm hS (by decide)).1,(fG h.2 hm hS (by decide)).2⟩
theorem nH.mkc {l:List Con} (h:nH B w ao n l) (hm:Mks S w w') (hS:∀k,S k→∃N,Cel w 56 k N):nH B w' ao n l:=
 ⟨h.1.mks hm (fG h.2 hm hS (by decide)).1,(fG h.2 hm hS (by decide)).2⟩
theorem jG.mkc {l:List dA} (h:jG B w hs l) (hm:Mks S w w') (hS:∀k,S k→∃N,Cel w 56 k N):jG B w' hs l:=
 ⟨⟨h.heads.1,fun i h1 h2=>let ⟨a,b',c,d⟩:=h.heads.2 i h1 h2;⟨a,b',c.mks hm (fG (h.own _ (yM h1)) hm hS (by decide)).1,d⟩⟩,fun v hv=>(fG (h.own v hv) hm hS (by decide)).2,h.apart⟩
end
theorem dW.le {m:Nat} (h:dW B E w t sz ao n) (hm:m≤n):dW B E w t sz ao m:=by
 rcases h with h | ⟨g,M,h1,h2,h3,h4,h5⟩
 ·exact .inl (by omega)
 ·exact .inr ⟨g,M,h1,h2,h3,h4,by omega⟩
theorem dV.add (h:dV B w x s hs) (hB:B≤w.heap.size) (app nx:Int) (qu:List UInt8)
  (ha:aES B w 56 3 x.aa (x.al+1) (dC hs++y9 ⟨app,qu,none,0,0⟩) g cap w') :
  dV B w' ⟨x.qa,x.ql,x.qc,some ⟨g,0,none⟩,x.al+1,cap,x.ma,x.ml,x.mc,x.ca,x.cl,x.cc⟩ ⟨s.qs,s.clock,s.epoch,nx,s.serial,s.apps++[⟨app,qu,[]⟩],s.ms,s.cs⟩ (hs++[⟨app,qu,none,0,0⟩]):=by
 have hS:∀k,(∃N,Cel w 56 k N∧B≤k)→∃N,Cel w 56 k N:=fun k hk=>let ⟨N,a,_⟩:=hk;⟨N,a⟩
 have hal:x.al=hs.length:=h.p.1.1;have hrm:=(h.rm.mks ha.mks).mono (yJ B) ha.mks.size;have hk:=h.k.mkc ha.mks hS;refine ⟨h.q.mkc ha.mks hS,⟨?_,ha.own.le ha.cap⟩,?_,h.m.mkc ha.mks hS,h.c.mkc ha.mks hS,⟨h.cap.q,ha.cap,h.cap.m,h.cap.c⟩,⟨hrm.1,ha.own,hrm.2.2.1,hrm.2.2.2.1,fun v hv=>?_⟩⟩
 ·rcases ha.own with e | ⟨g',M,e,_,_,hc,hM⟩
  ·have:=ha.cap;omega
  ·(cases e;have hl:(dC (hs++[⟨app,qu,none,0,0⟩])).length≤M*3:=by rw [gK,List.length_append];exact Nat.mul_le_mul_right _ (by have:=ha.cap;simp;omega));have:=(wU hc (cs:=dC (hs++[⟨app,qu,none,0,0⟩])) (by rw [oJ];exact ha.cells) hl).rowP;rw [List.length_append] at this;rw [hal];exact this
 ·exact hk.snoc (yH _ _) (Nat.le_trans hB ha.mks.size) app qu none 0 [] (yJ _) ⟨rfl,.inl rfl⟩ (.inl rfl)
 ·rcases List.mem_append.1 hv with hv | hv
  ·exact hrm.2.2.2.2 v hv
  ·obtain rfl:=List.mem_singleton.1 hv;exact .inl rfl
theorem aJ7:∃i0 z,Tryz.prog.info? 35=some i0∧i0.size=5∧i0.zero=some z∧z.cells.size=5∧0<i0.bytes∧i0.bytes≤100:=by
 have h:(Tryz.prog.info? 35).map (fun i=>(i.size,i.zero.map (fun z=>z.cells.size),decide (0<i.bytes∧i.bytes≤100)))=some (5,some 5,true):=by kernel_rfl
 cases hq:Tryz.prog.info? 35 with
 | none=>rw [hq] at h;simp at h
 | some i=>
  rw [hq] at h;simp at h;cases hz:i.zero with
  | none=>rw [hz] at h;simp at h
  | some z=>rw [hz] at h;simp at h;exact ⟨i,z,rfl,h.1,hz,h.2.1,h.2.2.1,h.2.2.2⟩
theorem oU (l:List Con) (q:Con) (i:Nat):aI (l.take i++q::l.drop i)=aI (l.take i)++(fH q++aI (l.drop i)):=by
 rw [dO];rfl
def CRm (B:Nat) (w:World) (ao:Option Addr) (n cap:Nat) (l:List Con):Prop:=bR w ao n l∧vF B w 35 5 ao n cap
def lM (B:Nat) (ao:Option Addr) (n cap:Nat) (l:List Con) (w:World) (e:Ending) (w':World):Prop:=
 ∃ao' cap',e=.returned (.slice ao' (n+1) cap')∧CRm B w' ao' (n+1) cap' l∧Mks (fun k=>cap≠0∧∃N,Cel w 35 k N∧B≤k∧∃o,ao=some ⟨k,o,none⟩) w w'∧(cap≠0∧ao'=ao∨∃g',ao'=some ⟨g',0,none⟩∧w.heap.size≤g')
theorem CRm.cells {l:List Con} (h:CRm B w (some ⟨g,0,none⟩) n cap l) (h0:0<cap):∃M,B≤g∧Lay w 35 g (M*5) (aI l)∧cap≤M∧n=l.length∧n≤cap:=by
 obtain ⟨h1,h2,h4⟩:=h;rcases h4 with e | ⟨g',M,e,hB,hc,hM⟩
 ·omega
 ·cases e;have hl:=h1.1;exact ⟨M,hB,wU hc (fun j u hj=>by have:=iL h1 j u hj;rwa [Nat.zero_add] at this) (by rw [bY,←hl];exact Nat.mul_le_mul_right _ (by omega)),hM,hl,h2⟩
theorem Lay.Crm {l:List Con} (h:Lay w 35 g (M*5) (aI l)) (hB:B≤g) (hM:cap≤M) (hn:n=l.length) (hc:n≤cap):CRm B w (some ⟨g,0,none⟩) n cap l:=by
 subst hn;refine ⟨?_,hc,.inr ⟨g,M,rfl,hB,h.cel,hM⟩⟩;exact h.rowC
theorem aDL (g n cap gv m:Nat) (hm:m=1) (l:List Con) (q:Con) (w:World) (h:CRm B w (some ⟨g,0,none⟩) n cap l) (hv:Blk w gv (fH q).toArray 35) (hne:g≠gv) (hroom:n+1≤cap) (hn:n≤1048576) :
  cP 113 #[.slice (some ⟨g,0,none⟩) n cap,.int .i64 (n:Int),.slice (some ⟨gv,0,none⟩) m m] w (lM B (some ⟨g,0,none⟩) n cap (l++[q]) w):=by
 obtain ⟨i0,z,hi0,hsz,hz0,hzc,hb0,hb1⟩:=aJ7;obtain ⟨M,hB,GI,hM,hl,hnc⟩:=h.cells (by omega);have hnl:(fH q).length=5:=rfl;obtain ⟨N',hN'⟩:∃k,k=n+1:=⟨_,rfl⟩;obtain ⟨W',hW'⟩:∃k,k=(w.setCells g (0+n*i0.size) (fH q)):=⟨_,rfl⟩;have VO:=aA (fun ty=>show (Builtin.append_ #[27,27] ty #[.slice (some ⟨g,0,none⟩) n cap,.slice (some ⟨gv,0,none⟩) m m]).run Tryz.prog w=.ok (.slice (some ⟨g,0,none⟩) N' cap) W' from by
  rw [hm,hN',hW'];exact run_append_room_cells (P:=Tryz.prog) w 27 ty 35 i0 underlying27 hi0 g 0 n cap ⟨gv,0,none⟩ 1 1 (fH q) (by rw [hsz,hnl]) (fun j u hj=>by
   rw [Addr.add_lit];have h1:=hv.at j;rw [List.getElem?_toArray,hj] at h1;rw [Nat.zero_add];exact h1) (fun u hu=>eB [q] u (by simpa [aI] using hu)) hroom (fun j hj=>GI.isThere (by rw [hsz];rw [hnl] at hj;have:=Nat.mul_le_mul_right 5 (show n+1≤M by omega);omega)) (fun j hj=>GI.frozen _))
 have HA:=aA (show lM B (some ⟨g,0,none⟩) n cap (l++[q]) w (.returned (.slice (some ⟨g,0,none⟩) N' cap)) W' from by
  rw [hN',hW'];exact ⟨some ⟨g,0,none⟩,cap,rfl,Lay.Crm (M:=M) (GI.cells _ _ (by rw [hsz,hnl];have:=Nat.mul_le_mul_right 5 (show n+1≤M by omega);omega) _ (by rw [bY,List.length_append];have:=Nat.mul_le_mul_right 5 (show n+1≤M by omega);simp;omega) (fun j u hj=>by
   rw [dO] at hj;(have hcl:(aI l).length=n*5:=by rw [bY,hl]);rw [hsz,hnl];refine ⟨fun e=>?_,fun e=>?_⟩
   ·rw [List.getElem?_append_right (by omega),hcl] at hj;simpa [aI,Nat.zero_add] using hj
   ·by_cases e2:j<n*5
    ·rw [List.getElem?_append_left (by omega)] at hj;exact GI.cell hj
    ·have:=(List.getElem?_eq_some_iff.1 hj).1;simp [aI,hcl] at this;omega)) hB hM (by simp [hl]) (by omega),fB (by exact ⟨by omega,_,GI.cel,hB,0,rfl⟩) _ _ _ _ (Mks.refl _ _),.inl ⟨by omega,rfl⟩⟩)
 have hcn:¬cap=n:=by omega
 have n0:¬(m:Int)=0:=by omega
 clear h hv GI hl hm hi0 hz0 hroom hzc hb0 hb1 hnl hM;clear hW' hN';clear hsz;go_enter func113,ntmps113;go_wp2_with (at_builtin;refine Lib.wpList_append_run _ rfl _ _ _ _ rfl _ _ rfl rfl _ _ (uH VO _) ?_);go_ret;exact uH HA
theorem vR (z:Value) (k s:Nat) (h:z.cells.size=s):(Builtin.zeroCells z.cells k).size=k*s:=by simp [Builtin.zeroCells,h]
theorem aCA (ao:Option Addr) (n cap gv m:Nat) (hm:m=1) (l:List Con) (q:Con) (w:World) (h:CRm B w ao n cap l) (hv:Blk w gv (fH q).toArray 35) (hroom:¬n+1≤cap) (hn:n≤1048576) (hBw:B≤w.heap.size) :
  cP 113 #[.slice ao n cap,.int .i64 (n:Int),.slice (some ⟨gv,0,none⟩) m m] w (lM B ao n cap (l++[q]) w):=by
 obtain ⟨i0,z,hi0,hsz,hz0,hzc,hb0,hb1⟩:=aJ7;have hl:=h.1.1;have hnc:=h.2.1;have hnl:(fH q).length=5:=rfl;have QL:(Builtin.firstCells i0.size n (.slice ao n cap)).run Tryz.prog w.drew=.ok (aI l).toArray w.drew:=by
  rcases h.2.2 with h0 | ⟨g,M,rfl,hB,hc,hM⟩
  ·have:l=[]:=List.eq_nil_of_length_eq_zero (by omega);subst this;(obtain rfl:n=0:=by omega);cases ao with
   | none=>exact run_firstCells_none w.drew _ _ _ _
   | some ad=>exact run_firstCells_some w.drew _ 0 ad 0 cap [] (by simp) (fun j v hj=>by simp at hj)
  ·exact run_firstCells_some w.drew _ n ⟨g,0,none⟩ n cap (aI l) (by rw [bY,hsz,hl]) (fun j v hj=>by rw [Addr.add_lit];exact iL h.1 j v hj)
 have VJ:Src Tryz.prog i0.size 27 (.slice (some ⟨gv,0,none⟩) 1 1) 1 (fH q) w:=Src.ofSlice w underlying27 ⟨gv,0,none⟩ 1 1 _ (by rw [hsz,hnl]) (fun j u hj=>by
  rw [Addr.add_lit];have h1:=hv.at j;rw [List.getElem?_toArray,hj] at h1;rw [Nat.zero_add];exact h1) (fun u hu=>eB [q] u (by simpa [aI] using hu))
 have hG1:=grownCap_ge w (n+1) cap 35;obtain ⟨G,hG⟩:∃G,grownCap w (n+1) cap 35=G:=⟨_,rfl⟩;obtain ⟨N',hN'⟩:∃k,k=n+1:=⟨_,rfl⟩;obtain ⟨W',hW'⟩:∃k,k=(w.drew.alloc (.cells ((aI l++fH q).toArray++Builtin.zeroCells z.cells (G - (n+1))) 35)):=⟨_,rfl⟩;have VO:=aA (fun ty=>show (Builtin.append_ #[27,27] ty #[.slice ao n cap,.slice (some ⟨gv,0,none⟩) m m]).run Tryz.prog w=.ok (.slice (some ⟨w.heap.size,0,none⟩) N' G) W' from by
  rw [hm,hN',hW',←hG];exact run_append_grow_src w 27 27 ty 35 i0 z underlying27 hi0 hz0 ao n cap (aI l) QL _ 1 (fH q) VJ (by omega) (by omega) (growslice_fits_wide (by omega) (by
   (have h1:(n+1+(n+1) / 4+192)≤2000000:=by omega);have:=Nat.mul_le_mul h1 hb1;omega)))
 rw [hG] at hG1;have HA:=aA (show lM B ao n cap (l++[q]) w (.returned (.slice (some ⟨w.heap.size,0,none⟩) N' G)) W' from by
  rw [hN',hW'];have Qq:Bw w (w.drew.alloc (.cells ((aI l++fH q).toArray++Builtin.zeroCells z.cells (G - (n+1))) 35)):=yA (yH _ w).drew _;refine ⟨_,G,rfl,Lay.Crm (M:=G) (w:=w.drew.alloc (.cells ((aI l++fH q).toArray++Builtin.zeroCells z.cells (G - (n+1))) 35)) ⟨(Builtin.zeroCells z.cells (G - (n+1))).toList,?_,?_⟩ hBw (yJ _) (by simp [hl]) (by omega),.of_below Qq,.inr ⟨_,rfl,yJ _⟩⟩
  ·(have e:(aI (l++[q])++(Builtin.zeroCells z.cells (G - (n+1))).toList).toArray=(aI l++fH q).toArray++Builtin.zeroCells z.cells (G - (n+1)):=by rw [dO];simp [aI]);rw [e];(show (w.heap.push _)[w.heap.size]? = _);rw [Array.getElem?_push,if_pos rfl]
  ·have h1:=vR z (G - (n+1)) 5 hzc;(have h2:(Builtin.zeroCells z.cells (G - (n+1))).toList.length=(G - (n+1))*5:=by rw [Array.length_toList];exact h1);(have h3:(aI (l++[q])).length=(n+1)*5:=by rw [bY];simp [hl]);rw [List.length_append,h3,h2,←Nat.add_mul];(congr 1);omega)
 have HA2:=aA (show lM B ao n n (l++[q]) w (.returned (.slice (some ⟨w.heap.size,0,none⟩) N' G)) W' from by have h1:=uH HA;rw [show cap=n by omega] at h1;exact h1);have n0:¬(m:Int)=0:=by omega
 have FR:=aA (fun (e:ao=none)=>show n=0 from by
  subst e;rcases h.2.2 with h0 | ⟨g,M,e,_⟩
  ·have:=h.2.1;omega
  ·cases e)
 clear h hv QL VJ hl hm hi0 hz0 hroom hzc hb0 hb1 hnl hG hG1;clear hW' hN';clear hsz;go_enter func113,ntmps113;cases ao with
 | none=>have h0:n=0:=uH FR rfl;subst h0;go_wp2_with (at_builtin;refine Lib.wpList_append_run _ rfl _ _ _ _ rfl _ _ rfl rfl _ _ (uH VO _) ?_);go_ret;exact uH HA
 | some a=>obtain ⟨ab,aof,asp⟩:=a;go_wp2_with (at_builtin;refine Lib.wpList_append_run _ rfl _ _ _ _ rfl _ _ rfl rfl _ _ (uH VO _) ?_);all_goals (go_ret;first | exact uH HA | exact uH HA2)
theorem jW {P:Program} (w:World) (t ty e:TypeId) (i:TypeInfo) (z:Value) (size bytes:Nat) (ht:P.underlying t=some (.slice e)) (hi:P.info? e=some i) (hz:i.zero=some z)
  (hsize:i.size=size) (hby:i.bytes=bytes) (hzs:z.cells.size=size) (hsz:0<size)
  (B E:Nat) (ao:Option Addr) (n cap:Nat) (olds:List Value) (hrm:dW B E w e size ao cap) (hnc:n≤cap) (hB:B≤w.heap.size)
  (hlo:olds.length=n*size) (holds:∀b off,ao=some ⟨b,off,none⟩→∀j u,olds[j]? = some u→w.cell? ⟨b,off+j,none⟩=some u)
  (ad:Addr) (m c:Nat) (news:List Value) (hn:news.length=m*size) (hc:∀j u,news[j]? = some u→w.cell? (ad.add j)=some u) (h1c:∀u ∈ news,u.oneCell'=true) (hm:0<m)
  (b1:n+m≤maxLen) (b2:(n+m)*bytes≤140737488355328) :
  ∃g cap' w',(Builtin.append_ #[t,t] ty #[.slice ao n cap,.slice (some ad) m c]).run P w=.ok (.slice (some ⟨g,0,none⟩) (n+m) cap') w'∧aES B w e size ao (n+m) (olds++news) g cap' w':=by
 by_cases hr:n+m≤cap
 ·rcases hrm with e0 | ⟨g,M,rfl,h1,h2,h3,h4⟩
  ·omega
  ·have hle:(n+m)*size≤M*size:=Nat.mul_le_mul_right _ (by omega);rw [Nat.add_mul] at hle;subst hsize;refine ⟨g,cap,_,run_append_room_cells (P:=P) w t ty e i ht hi g 0 n cap ad m c news hn hc h1c hr (fun j hj=>h3.isThere (by omega)) (fun j hj=>h3.frozen _),fun j u hj=>?_,?_,hr,fB ⟨_,h3,h1⟩ _ _ _ _ (Mks.refl _ _),.inl ⟨rfl,fB (S:=fun k=>k=g) rfl _ _ _ _ (Mks.refl _ _)⟩⟩
   ·by_cases hj2:j<olds.length
    ·rw [List.getElem?_append_left hj2] at hj;rw [World.cell?_setCells_out g news (0+n*i.size) w ⟨g,j,none⟩ (fun _ _=>by left;show j<0+n*i.size;omega)];have:=holds g 0 rfl j u hj;rwa [Nat.zero_add] at this
    ·rw [List.getElem?_append_right (by omega)] at hj;have hjl:j - olds.length<news.length:=(List.getElem?_eq_some_iff.1 hj).1;have:=World.cell?_setCells_in g news (0+n*i.size) w (fun k hk=>h3.isThere (by omega)) (j - olds.length) hjl;rw [show 0+n*i.size+(j - olds.length)=j by omega] at this;rw [this];rw [List.getElem?_eq_getElem hjl] at hj;exact hj
   ·have hk:Mks (fun k=>k=g) w (w.setCells g (0+n*i.size) news):=fB (S:=fun k=>k=g) rfl _ _ _ _ (Mks.refl _ _);exact .inr ⟨g,M,rfl,h1,Nat.lt_of_lt_of_le h3.lt hk.size,hk.cel _ _ _ h3,h4⟩
 ·have key:∃v' w',(Builtin.append_ #[t,t] ty #[.slice ao n cap,.slice (some ad) m c]).run P w=.ok v' w'∧w'.ownsRow w.heap.size e size v' (n+m) (olds++news)∧w.grownBy w' none:=by
   cases ao with
   | none=>
    have h0:cap=0:=by
     rcases hrm with h0 | ⟨g,M,h1,_⟩
     ·exact h0
     ·cases h1
    (have hn0:n=0:=by omega);subst h0 hn0;have ho:olds=[]:=List.eq_nil_of_length_eq_zero (by omega);subst ho;obtain ⟨v',w',gq,r1,r2,_⟩:=run_append_own (P:=P) w w.heap.size t ty e i z size bytes ht hi hz hsize hby hzs hsz (.slice none 0 0) 0 [] ⟨by simp,.inl ⟨rfl,rfl⟩⟩ ad m c news hn hc h1c b1 b2 (yJ _);exact ⟨v',w',gq,r1,r2⟩
   | some b=>
    refine run_append_arg_grows (P:=P) w t ty e i z size bytes ht hi hz hsize hby hzs hsz b n cap olds hlo (fun j u hj=>?_) ad m c news hn hc (by omega) b1 b2;rcases hrm with h0 | ⟨g,M,h1,_⟩
    ·(have hn0:n=0:=by omega);rw [hn0,Nat.zero_mul] at hlo;rw [List.eq_nil_of_length_eq_zero hlo] at hj;simp at hj
    ·cases h1;rw [Addr.add_lit];exact holds g 0 rfl j u hj
  obtain ⟨v',w',gq,h1,h2⟩:=key;obtain ⟨g,cap',rfl,hg1,hg2⟩:=h1.form (by omega);have hb:=aFN h2;rcases h1.2 with ⟨e0,_⟩ | ⟨g',c',cur,e0,k1,k2,k3,k4,k5,k6⟩
  ·cases e0
  ·cases e0;refine ⟨g,cap',w',gq,fun j u hj=>?_,.inr ⟨g,cap',rfl,by omega,lt_of_block k2,⟨cur,k2,k5⟩,yJ _⟩,k3,Mks.of_below hb,.inr ⟨by omega,hb⟩⟩;have hjl:j<(olds++news).length:=(List.getElem?_eq_some_iff.1 hj).1;rw [←k6] at hj hjl;rw [List.length_take] at hjl;rw [List.getElem?_take_of_lt (by omega)] at hj;simp [World.cell?,k2];simpa using hj
def Off (B:Nat) (w:World) (t:TypeId) (S:Nat→Prop):Prop:=∀k,S k→k<B∨∃t' N,Cel w t' k N∧t'≠t
theorem iR (h:dW B w.heap.size w t sz ao n) (hm:Mks S w w') (hS:Off B w t S):(∀k,inR ao n k→¬S k)∧dW B w'.heap.size w' t sz ao n:=by
 refine ⟨fun k hk e=>?_,(h.mks hm).mono (yJ _) hm.size⟩;obtain ⟨h1,_,N',h2⟩:=h.lies k hk;rcases hS k e with h3 | ⟨t',N,h3,h4⟩
 ·omega
 ·exact h4 (h3.type h2)
section
variable {B:Nat} {S:Nat→Prop} {w w':World}
theorem rP.off {l:List Q} (h:rP B w ao n l) (hm:Mks S w w') (hS:Off B w 105 S):rP B w' ao n l:=⟨h.1.mks hm (iR h.2 hm hS).1,(iR h.2 hm hS).2⟩
theorem o6.off {l:List Mac} (h:o6 B w ao n l) (hm:Mks S w w') (hS:Off B w 103 S):o6 B w' ao n l:=⟨h.1.mks hm (iR h.2 hm hS).1,(iR h.2 hm hS).2⟩
theorem nH.off {l:List Con} (h:nH B w ao n l) (hm:Mks S w w') (hS:Off B w 35 S):nH B w' ao n l:=⟨h.1.mks hm (iR h.2 hm hS).1,(iR h.2 hm hS).2⟩
theorem nG.off (h:nG B w ao n l) (hm:Mks S w w') (hS:Off B w 56 S):nG B w' ao n l:=⟨h.1.mks hm (iR h.2 hm hS).1,(iR h.2 hm hS).2⟩
theorem jG.off {l:List dA} (h:jG B w hs l) (hm:Mks S w w') (hS:Off B w 43 S):jG B w' hs l:=
 ⟨⟨h.heads.1,fun i h1 h2=>let ⟨a,b',c,d⟩:=h.heads.2 i h1 h2;⟨a,b',c.mks hm (iR (h.own _ (yM h1)) hm hS).1,d⟩⟩,fun v hv=>(iR (h.own v hv) hm hS).2,h.apart⟩
structure aLA (B:Nat) (w:World) (S:Nat→Prop):Prop where
 q:Off B w 105 S
 p:Off B w 56 S
 a:Off B w 43 S
 m:Off B w 103 S
 c:Off B w 35 S
theorem dV.off (h:dV B w x s hs) (hm:Mks S w w') (o:aLA B w S):dV B w' x s hs:=
 ⟨h.q.off hm o.q,h.p.off hm o.p,h.k.off hm o.a,h.m.off hm o.m,h.c.off hm o.c,h.cap,(h.rm.mks hm).mono (yJ _) hm.size⟩
theorem aCv (h:g<B):aLA B w (fun k=>k=g):=⟨fun k e=>.inl (e ▸ h),fun k e=>.inl (e ▸ h),fun k e=>.inl (e ▸ h),fun k e=>.inl (e ▸ h),fun k e=>.inl (e ▸ h)⟩
theorem aAl (h:Blk w b arr t) (h1:t≠105) (h2:t≠56) (h3:t≠43) (h4:t≠103) (h5:t≠35):aLA B w (fun k=>k=b):=
 have hc:∀k,k=b→Cel w t k arr.size:=fun k e=>by subst e;exact ⟨arr,h,rfl⟩
 ⟨fun k e=>.inr ⟨t,_,hc k e,h1⟩,fun k e=>.inr ⟨t,_,hc k e,h2⟩,fun k e=>.inr ⟨t,_,hc k e,h3⟩,fun k e=>.inr ⟨t,_,hc k e,h4⟩,fun k e=>.inr ⟨t,_,hc k e,h5⟩⟩
theorem mZ (ht:t'≠t):Off B w t (fun k=>∃N,Cel w t' k N∧B≤k):=fun k ⟨N,h,_⟩=>.inr ⟨t',N,h,ht⟩
end
theorem dR {len:Nat} (h:Cur w g ao len cap) (h':Cur w' g ao len cap) (hg:w.grownBy w' (some g)):Mks (fun k=>k=g) w w':=by
 refine ⟨hg.os,hg.tape,hg.output,hg.size,fun k hk hne=>hg.block k hk (fun e=>hne (Option.some.inj e)),fun t k N hc=>?_⟩;by_cases e:k=g
 ·subst e;obtain ⟨i,x,h1,_⟩:=h;obtain ⟨i',x',h2,_⟩:=h';obtain ⟨arr,h3,h4⟩:=hc;rw [h1] at h3;cases h3;exact ⟨_,h2,h4⟩
 ·exact hc.of_block (hg.block k hc.lt (fun e'=>e (Option.some.inj e')))
theorem CSt.mks {w0:World} {len:Nat} (h:CSt w0 B g ao len cap w) (hm:Mks S w w') (hS:∀k,S k→w0.heap.size≤k∧g<k):CSt w0 B g ao len cap w':=by
 obtain ⟨⟨i,x,h1,h2⟩,hc,hgr,hB⟩:=h;refine ⟨⟨i,x,(hm.block g (lt_of_block h1) (fun e=>absurd (hS g e).2 (Nat.lt_irrefl _))).trans h1,h2⟩,?_,⟨hm.os.trans hgr.os,hm.tape.trans hgr.tape,hm.output.trans hgr.output,Nat.le_trans hgr.size hm.size,fun k hk hne=>(hm.block k (Nat.lt_of_lt_of_le hk hgr.size) (fun e=>by have:=(hS k e).1;omega)).trans (hgr.block k hk hne)⟩,hB⟩;exact hc.below (hm.below (B:=B) (fun k e=>by have:=(hS k e).2;omega) hc.1) (yJ _)
theorem aLJ {l:List Mac} (hr:cB w ao n l) (hrm:dW B w.heap.size w 103 4 ao cap) (hnc:n≤cap) (hn:n≤1000) (hB:B≤w.heap.size) (m:Mac) :
  ∃g cp w4,(Builtin.append_ #[26,26] 26 #[.slice ao n cap,.slice (some ⟨w.heap.size,0,none⟩) 1 1]).run Tryz.prog (w.alloc (.cells #[.string (bs m.name),.int .i64 m.mem,.int .i64 m.cpu,.int .i64 m.seen] 103))=.ok (.slice (some ⟨g,0,none⟩) (n+1) cp) w4
   ∧Hid (aES B (w.alloc (.cells #[.string (bs m.name),.int .i64 m.mem,.int .i64 m.cpu,.int .i64 m.seen] 103)) 103 4 ao (n+1) (dX l++aEm m) g cp w4):=by
 obtain ⟨i0,hi,hz0,hz1,hz2⟩:=info_parts Tryz.infoMachine;have hb:=yA (yH _ w) (.cells #[.string (bs m.name),.int .i64 m.mem,.int .i64 m.cpu,.int .i64 m.seen] 103);exact jW _ 26 26 103 i0 (.agg #[.string .empty,.int .i64 0,.int .i64 0,.int .i64 0]) 4 40 underlying26 hi hz0 hz1 hz2 rfl (by decide) B _ ao n cap (dX l) (hrm.below hb) hnc (by rw [yE];omega) (by rw [iJ,←hr.1]) (fun b off e j u hj=>by subst e;exact sI (hr.below hb) j u hj) ⟨w.heap.size,0,none⟩ 1 1 (aEm m) rfl (World.news_of_block (yD w _ _)) (by intro u hu;simp at hu;rcases hu with rfl | rfl | rfl | rfl<;>rfl) (by decide) (by unfold maxLen;omega) (by omega)
theorem aLB {l:List Con} (hr:bR w ao n l) (hrm:dW B w.heap.size w 35 5 ao cap) (hnc:n≤cap) (hn:n≤1000) (hB:B≤w.heap.size) (m:Con) :
  ∃g cp w4,(Builtin.append_ #[27,27] 27 #[.slice ao n cap,.slice (some ⟨w.heap.size,0,none⟩) 1 1]).run Tryz.prog (w.alloc (.cells #[.int .i64 m.id,.int .i64 m.app,.string (bs m.node),.int .i64 m.mem,.int .i64 m.cpu] 35))=.ok (.slice (some ⟨g,0,none⟩) (n+1) cp) w4
   ∧Hid (aES B (w.alloc (.cells #[.int .i64 m.id,.int .i64 m.app,.string (bs m.node),.int .i64 m.mem,.int .i64 m.cpu] 35)) 35 5 ao (n+1) (aI l++fH m) g cp w4):=by
 obtain ⟨i0,hi,hz0,hz1,hz2⟩:=info_parts Tryz.infoCont;have hb:=yA (yH _ w) (.cells #[.int .i64 m.id,.int .i64 m.app,.string (bs m.node),.int .i64 m.mem,.int .i64 m.cpu] 35);exact jW _ 27 27 35 i0 (.agg #[.int .i64 0,.int .i64 0,.string .empty,.int .i64 0,.int .i64 0]) 5 48 underlying27 hi hz0 hz1 hz2 rfl (by decide) B _ ao n cap (aI l) (hrm.below hb) hnc (by rw [yE];omega) (by rw [bY,←hr.1]) (fun b off e j u hj=>by subst e;exact iL (hr.below hb) j u hj) ⟨w.heap.size,0,none⟩ 1 1 (fH m) rfl (World.news_of_block (yD w _ _)) (by intro u hu;simp at hu;rcases hu with rfl | rfl | rfl | rfl | rfl<;>rfl) (by decide) (by unfold maxLen;omega) (by omega)
theorem aKk {l:List Ask} (hr:bE w ao n l) (hrm:dW B w.heap.size w 43 5 ao cap) (hnc:n≤cap) (hn:n≤1000) (hB:B≤w.heap.size) (m:Ask) :
  ∃g cp w4,(Builtin.append_ #[54,54] 54 #[.slice ao n cap,.slice (some ⟨w.heap.size,0,none⟩) 1 1]).run Tryz.prog (w.alloc (.cells #[.int .i64 m.mem,.int .i64 m.cpu,.int .i64 m.count,.string (bs m.node),.int .i64 m.missed] 43))=.ok (.slice (some ⟨g,0,none⟩) (n+1) cp) w4
   ∧Hid (aES B (w.alloc (.cells #[.int .i64 m.mem,.int .i64 m.cpu,.int .i64 m.count,.string (bs m.node),.int .i64 m.missed] 43)) 43 5 ao (n+1) (aR l++aBM m) g cp w4):=by
 obtain ⟨i0,hi,hz0,hz1,hz2⟩:=info_parts Tryz.infoA;have hb:=yA (yH _ w) (.cells #[.int .i64 m.mem,.int .i64 m.cpu,.int .i64 m.count,.string (bs m.node),.int .i64 m.missed] 43);exact jW _ 54 54 43 i0 (.agg #[.int .i64 0,.int .i64 0,.int .i64 0,.string .empty,.int .i64 0]) 5 48 underlying54 hi hz0 hz1 hz2 rfl (by decide) B _ ao n cap (aR l) (hrm.below hb) hnc (by rw [yE];omega) (by rw [bG,←hr.1]) (fun b off e j u hj=>by subst e;exact l8 (hr.below hb) j u hj) ⟨w.heap.size,0,none⟩ 1 1 (aBM m) rfl (World.news_of_block (yD w _ _)) (by intro u hu;simp at hu;rcases hu with rfl | rfl | rfl | rfl | rfl<;>rfl) (by decide) (by unfold maxLen;omega) (by omega)
theorem aLI (hr:gG w ao n l) (hrm:dW B w.heap.size w 56 3 ao cap) (hnc:n≤cap) (hn:n≤1000) (hB:B≤w.heap.size) (m:AV) :
  ∃g cp w4,(Builtin.append_ #[25,25] 25 #[.slice ao n cap,.slice (some ⟨w.heap.size,0,none⟩) 1 1]).run Tryz.prog (w.alloc (.cells #[.int .i64 m.id,.string (bs m.queue),.slice m.ao m.len m.cap] 56))=.ok (.slice (some ⟨g,0,none⟩) (n+1) cp) w4
   ∧Hid (aES B (w.alloc (.cells #[.int .i64 m.id,.string (bs m.queue),.slice m.ao m.len m.cap] 56)) 56 3 ao (n+1) (dC l++y9 m) g cp w4):=by
 obtain ⟨i0,hi,hz0,hz1,hz2⟩:=info_parts Tryz.infoApp;have hb:=yA (yH _ w) (.cells #[.int .i64 m.id,.string (bs m.queue),.slice m.ao m.len m.cap] 56);exact jW _ 25 25 56 i0 (.agg #[.int .i64 0,.string .empty,.slice none 0 0]) 3 48 underlying25 hi hz0 hz1 hz2 rfl (by decide) B _ ao n cap (dC l) (hrm.below hb) hnc (by rw [yE];omega) (by rw [gK,←hr.1]) (fun b off e j u hj=>by subst e;exact r9 (hr.below hb) j u hj) ⟨w.heap.size,0,none⟩ 1 1 (y9 m) rfl (World.news_of_block (yD w _ _)) (by intro u hu;simp at hu;rcases hu with rfl | rfl | rfl<;>rfl) (by decide) (by unfold maxLen;omega) (by omega)
theorem aHg {cs:List Value} (ha:aES B w t sz ao n cs g cap w') (hn:0<n) (hl:cs.length=n*sz):∃M,Lay w' t g (M*sz) cs:=by
 rcases ha.own with e | ⟨g',M,e,_,_,hc,hM⟩
 ·have:=ha.cap;omega
 ·cases e;exact ⟨M,wU hc ha.cells (by rw [hl];exact Nat.mul_le_mul_right _ (by have:=ha.cap;omega))⟩
theorem dV.addM (h:dV B w x s hs) (m:Mac) (ha:aES B w 103 4 x.ma (x.ml+1) (dX s.ms++aEm m) g cap w') :
  dV B w' ⟨x.qa,x.ql,x.qc,x.aa,x.al,x.ac,some ⟨g,0,none⟩,x.ml+1,cap,x.ca,x.cl,x.cc⟩ ⟨s.qs,s.clock,s.epoch,s.next,s.serial,s.apps,s.ms++[m],s.cs⟩ hs:=by
 have hrm:=(h.rm.mks ha.mks).mono (yJ B) ha.mks.size;have GN:x.ml=s.ms.length:=h.m.1.1;refine ⟨h.q.off ha.mks (mZ (by decide)),h.p.off ha.mks (mZ (by decide)),h.k.off ha.mks (mZ (by decide)),⟨?_,ha.own.le ha.cap⟩,h.c.off ha.mks (mZ (by decide)),⟨h.cap.q,h.cap.a,ha.cap,h.cap.c⟩,⟨hrm.1,hrm.2.1,ha.own,hrm.2.2.2⟩⟩;obtain ⟨M,hL⟩:=aHg ha (by omega) (by rw [←aAN,iJ];simp [GN]);rw [←aAN] at hL;have:=hL.rowM;rwa [List.length_append,List.length_singleton,←GN] at this
theorem dV.addC (h:dV B w x s hs) (m:Con) (ha:aES B w 35 5 x.ca (x.cl+1) (aI s.cs++fH m) g cap w') :
  dV B w' ⟨x.qa,x.ql,x.qc,x.aa,x.al,x.ac,x.ma,x.ml,x.mc,some ⟨g,0,none⟩,x.cl+1,cap⟩ ⟨s.qs,s.clock,s.epoch,s.next,s.serial,s.apps,s.ms,s.cs++[m]⟩ hs:=by
 have hrm:=(h.rm.mks ha.mks).mono (yJ B) ha.mks.size;have GN:x.cl=s.cs.length:=h.c.1.1;refine ⟨h.q.off ha.mks (mZ (by decide)),h.p.off ha.mks (mZ (by decide)),h.k.off ha.mks (mZ (by decide)),h.m.off ha.mks (mZ (by decide)),⟨?_,ha.own.le ha.cap⟩,⟨h.cap.q,h.cap.a,h.cap.m,ha.cap⟩,⟨hrm.1,hrm.2.1,hrm.2.2.1,ha.own,hrm.2.2.2.2⟩⟩;obtain ⟨M,hL⟩:=aHg ha (by omega) (by rw [←aAZ,bY];simp [GN]);rw [←aAZ] at hL;have:=hL.rowC;rwa [List.length_append,List.length_singleton,←GN] at this
theorem xX (a:List Ask) (q:Ask):aR (a++[q])=aR a++aBM q:=by
 induction a with
 | nil=>rfl
 | cons x t ih=>rw [List.cons_append,aR,aR,ih,List.append_assoc]
theorem aJl {l:List Ask} (hn:n=l.length) (m:Ask) (ha:aES B w 43 5 ao (n+1) (aR l++aBM m) g cap w'):bE w' (some ⟨g,0,none⟩) (n+1) (l++[m]):=by
 obtain ⟨M,hL⟩:=aHg ha (by omega) (by rw [←xX,bG];simp [hn]);rw [←xX] at hL;have:=hL.rowA;rwa [List.length_append,List.length_singleton,←hn] at this
theorem jG.snocE {l:List dA} (h:jG B w ns l) (hE:∀v ∈ ns,dW B E w 43 5 v.ao v.len) (hB:B≤E) (id:Int) (qu:List UInt8) (ao:Option Addr) (cap:Nat) (k:List Ask) (hc:k.length≤cap)
  (hr:bE w ao k.length k) (ho:dW E w.heap.size w 43 5 ao k.length):jG B w (ns++[⟨id,qu,ao,k.length,cap⟩]) (l++[⟨id,qu,k⟩]):=by
 refine ⟨⟨by simp [h.heads.1],fun i h1 h2=>?_⟩,fun v hv=>?_,?_⟩
 ·by_cases hi:i<ns.length
  ·(have hi':i<l.length:=by rw [←h.heads.1];exact hi);rw [List.getElem_append_left hi,List.getElem_append_left hi'];exact h.heads.2 i hi hi'
  ·(have hi1:i=ns.length:=by simp at h1;omega);subst hi1;have hl:ns.length=l.length:=h.heads.1;simp only [List.getElem_append_right (yJ _),Nat.sub_self,List.getElem_cons_zero];rw [List.getElem_append_right (by omega)];simp only [hl,Nat.sub_self,List.getElem_cons_zero];exact ⟨trivial,trivial,hr,hc⟩
 ·rcases List.mem_append.1 hv with hv | hv
  ·exact h.own v hv
  ·simp at hv;subst hv;exact ho.mono hB (yJ _)
 ·refine List.pairwise_append.2 ⟨h.apart,by simp,fun u hu v hv=>?_⟩;simp at hv;subst hv;rcases hE u hu with e | ⟨g1,M1,e1,_,h3,_⟩
  ·exact .inl e
  ·rcases ho with e | ⟨g2,M2,e2,h4,_⟩
   ·exact .inr (.inl e)
   ·refine .inr (.inr (fun e=>?_));simp only at e;rw [e1,e2] at e;cases e;omega
theorem dV.addA {cp:Nat} (h:rO B E w x s hs) (hE:E≤w.heap.size) (hB:B≤E) (id nx:Int) (qu:List UInt8) (ao:Option Addr) (k:List Ask) (hn:n=k.length) (hc:n≤cp)
  (hr:bE w ao n k) (ho:dW E w.heap.size w 43 5 ao cp) (ha:aES B w 56 3 x.aa (x.al+1) (dC hs++y9 ⟨id,qu,ao,n,cp⟩) g cap w') :
  dV B w' ⟨x.qa,x.ql,x.qc,some ⟨g,0,none⟩,x.al+1,cap,x.ma,x.ml,x.mc,x.ca,x.cl,x.cc⟩ ⟨s.qs,s.clock,s.epoch,nx,s.serial,s.apps++[⟨id,qu,k⟩],s.ms,s.cs⟩ (hs++[⟨id,qu,ao,n,cp⟩]):=by
 subst hn;have H:=h.has hE;have hrm:=(H.rm.mks ha.mks).mono (yJ B) ha.mks.size;have GN:x.al=hs.length:=H.p.1.1;have hk:=(H.k.snocE h.asks hB id qu ao cp k hc hr (ho.le hc)).off ha.mks (mZ (by decide));refine ⟨H.q.off ha.mks (mZ (by decide)),⟨?_,ha.own.le ha.cap⟩,hk,H.m.off ha.mks (mZ (by decide)),H.c.off ha.mks (mZ (by decide)),⟨H.cap.q,ha.cap,H.cap.m,H.cap.c⟩,⟨hrm.1,ha.own,hrm.2.2.1,hrm.2.2.2.1,fun v hv=>?_⟩⟩
 ·obtain ⟨M,hL⟩:=aHg ha (by omega) (by rw [←oJ,gK];simp [GN]);rw [←oJ] at hL;have:=hL.rowP;rwa [List.length_append,List.length_singleton,←GN] at this
 ·rcases List.mem_append.1 hv with hv | hv
  ·exact hrm.2.2.2.2 v hv
  ·obtain rfl:=List.mem_singleton.1 hv;exact ((ho.mono hB (yJ _)).mks ha.mks).mono (yJ _) ha.mks.size
structure StB (w:World) (b:Nat) (y:Sls) (s:St):Prop where
 box:Blk w b (svc y s) 29
 row:gW w y s
 cap:y.ql≤y.qc
theorem StB.below (h:StB w b y s) (hb:Bw w w'):StB w' b y s:=⟨h.box.below hb,h.row.below hb,h.cap⟩
theorem StB.new (h:dV B w y s hs):StB (w.alloc (.cells (svc y s) 29)) w.heap.size y s:=⟨yD _ _ _,h.ans.row.below (yA (yH _ w) _),h.cap.q⟩
theorem StB.read (h:StB w b y s):w.cell? ⟨b,0,none⟩=some (.slice y.qa y.ql y.qc)∧w.cell? ⟨b,1,none⟩=some (.int .i64 s.clock)∧w.cell? ⟨b,2,none⟩=some (.int .i64 s.epoch)∧w.cell? ⟨b,3,none⟩=some (.int .i64 s.next)∧w.cell? ⟨b,4,none⟩=some (.int .i64 s.serial)∧w.cell? ⟨b,5,none⟩=some (.slice y.aa y.al y.ac)∧w.cell? ⟨b,6,none⟩=some (.slice y.ma y.ml y.mc)∧w.cell? ⟨b,7,none⟩=some (.slice y.ca y.cl y.cc):=
 ⟨h.box.at 0,h.box.at 1,h.box.at 2,h.box.at 3,h.box.at 4,h.box.at 5,h.box.at 6,h.box.at 7⟩
theorem aD6 {x:Int} (h0 : -1000000000000≤x) (h1:x≤1000000000000):(Lit.int .i64 x).wf=true:=by
 simp only [Lit.wf,yK,yL];exact ⟨Int.le_trans (by decide) h0,Int.le_trans h1 (by decide)⟩
end
end Go.Proofs.YtfndhndlkcijoaaGreat
