/-
  Texts in one: CopySt, GrowS, CopyS, AnsW, AppOfU.
-/
import Derived.OneCell
import Derived.Test.YtngkddhcmfbjnaaGreatSackJ
set_option maxRecDepth 100000
set_option maxHeartbeats 16000000
set_option linter.unusedVariables false
set_option linter.unusedSimpArgs false
namespace Go.Proofs.YtngkddhcmfbjnaaGreat
section
open Go.RowKit
variable {a0 arr:Array Value} {hs l ns:List AV} {gone:List Con} {qs:List Q} {B E g gn k n n2 sz:Nat} {S:Nat→Prop} {ao go po qo:Option Addr} {r:Option Nat} {x y:Sls} {s:St} {t t':TypeId} {w w' wr wy:World}
theorem mI.blk (h:mI B w ao n l) (hk:k<n):∃g M,ao=some ⟨g,0,none⟩∧B≤g∧g<w.heap.size∧nR w g M l:=by
 obtain ⟨⟨h1,h2⟩,h3⟩:=h
 rcases h3 with e | ⟨g,M,rfl,hB,hE,hc,hn⟩
 ·omega
 ·rcases h2 with e | ⟨b,off,e,hh⟩
  ·omega
  ·cases e
   exact ⟨g,M,rfl,hB,hE,hc,by omega,fun i hi=>by have:=hh i hi;rwa [Nat.zero_add] at this⟩
theorem nR.asks {M i:Nat} (h:nR w g M l) (hi:i<l.length) (ao:Option Addr) (len cap:Nat):nR (w.setCell ⟨g,i*3+2,none⟩ (.slice ao len cap)) g M (l.set i ⟨l[i].id,l[i].queue,ao,len,cap⟩):=by
 refine ⟨h.1.set _ _ _,by simpa using h.2.1,fun j hj=>?_⟩
 have hj':j<l.length:=by simpa using hj
 obtain ⟨a,b,c⟩:=h.2.2 j hj'
 by_cases e:i=j
 ·subst e
  simp only [List.getElem_set_self]
  exact ⟨aY a (by omega),aY b (by omega),World.cell?_setCell_same _ ⟨g,i*3+2,none⟩ _ c⟩
 ·rw [List.getElem_set_ne e]
  exact ⟨aY a (by omega),aY b (by omega),aY c (by omega)⟩
theorem nR.has {B w g M n l} (h:nR w g M l) (hB:B≤g) (hn:n=l.length):mI B w (some ⟨g,0,none⟩) n l:=by
 subst hn
 exact ⟨h.row,.inr ⟨g,M,rfl,hB,h.1.lt,h.1,h.2.1⟩⟩
structure aHx (w:World) (arr:Array Value) (qo:Option Addr) (qs:List Q) (po:Option Addr) (n2:Nat) (ns:List AV) (apps:List bN) (wr:World):Prop where
 r0:Blk wr w.heap.size arr 29
 r1:Blk wr (w.heap.size+1) #[.slice none 0 0,.int .i64 0,.int .i64 0,.int .i64 0,.int .i64 0,.slice none 0 0,.slice none 0 0,.slice none 0 0] 29
 q:pQ (w.heap.size+2) wr qo qs.length qs
 p:mI (w.heap.size+2) wr po n2 ns
 k:jI (w.heap.size+2) wr ns apps
 b:Bw w wr
 z:w.heap.size+2≤wr.heap.size
theorem aHx.below {apps:List bN} (h:aHx w arr qo qs po n2 ns apps wr) (hb:Bw wr wy):aHx w arr qo qs po n2 ns apps wy:=
 ⟨h.r0.below hb,h.r1.below hb,h.q.below hb,h.p.below hb,h.k.below hb,yB h.b hb,Nat.le_trans h.z hb.size⟩
theorem aHx.sc {apps:List bN} (h:aHx w arr qo qs po n2 ns apps wr) (j:Nat) (v:Value):aHx w (arr.setIfInBounds j v) qo qs po n2 ns apps (wr.setCell ⟨w.heap.size,j,none⟩ v):=
 ⟨h.r0.set j v,h.r1.other _ _ _ (by omega),h.q.sc (by omega),h.p.sc (by omega),h.k.sc (.inl (by omega)),yC h.b _ _ _ (yJ _),by rw [dY];exact h.z⟩
theorem nO.blk {l:List Mac} (h:nO B w ao n l) (hk:k<n):∃g,ao=some ⟨g,0,none⟩∧B≤g∧g<w.heap.size∧(∀j,w.frozen? ⟨g,j,none⟩=false)∧∀i (hi:i<l.length),oK w g (i*4) l[i]:=by
 obtain ⟨⟨h1,h2⟩,h3⟩:=h
 rcases h3 with e | ⟨g,M,rfl,hB,hE,hc,hn⟩
 ·omega
 ·rcases h2 with e | ⟨b,off,e,hh⟩
  ·omega
  ·cases e
   exact ⟨g,rfl,hB,hE,fun j=>hc.frozen j,fun i hi=>by have:=hh i hi;rwa [Nat.zero_add] at this⟩
def aHs (w:World) (s:St) (e:Ending) (w':World):Prop:=∃y hs,e=.returned (sv y s)∧rA w.heap.size w'.heap.size w' y s hs∧Bw w w'
theorem yU (x:Sls) (s:St) (w:World) (h:gU w x s) (hf:dI s) :
  cP 58 #[sv x s] w (aHs w s):=by
 obtain ⟨hs0,qj,hhd⟩:=h.2.1.heads
 have TC:=hf.1.2
 have hcq:=h.1.1
 have ZZ:=h.2.1.1
 have hcm:=h.2.2.1.1
 have hcc:=h.2.2.2.1
 have hlq:x.ql≤1048576:=by have:=hf.1.1;omega
 have hla:x.al≤1048576:=by have:=hf.2.1.1;omega
 have hlm:x.ml≤1048576:=by have:=hf.2.2.1.1;omega
 have hlc:x.cl≤1048576:=by have:=hf.2.2.2.1;omega
 obtain ⟨qa,ql,qc,aa,al,ac,ma,ml,mc,ca,cl,cc⟩:=x
 obtain ⟨qs,cv,ez,nv,sj,aj,ms,cs⟩:=s
 simp only at *
 have hb0:=yA (yA (yH _ w) (.cells #[.slice qa ql qc,.int .i64 cv,.int .i64 ez,.int .i64 nv,.int .i64 sj,.slice aa al ac,.slice ma ml mc,.slice ca cl cc] 29)) (.cells #[.slice none 0 0,.int .i64 0,.int .i64 0,.int .i64 0,.int .i64 0,.slice none 0 0,.slice none 0 0,.slice none 0 0] 29)
 have HB0:=aA hb0
 have P0:=aA ((yD w #[.slice qa ql qc,.int .i64 cv,.int .i64 ez,.int .i64 nv,.int .i64 sj,.slice aa al ac,.slice ma ml mc,.slice ca cl cc] 29).al (.cells #[.slice none 0 0,.int .i64 0,.int .i64 0,.int .i64 0,.int .i64 0,.slice none 0 0,.slice none 0 0,.slice none 0 0] 29))
 have P1:=aA (show Blk _ (w.heap.size+1) #[.slice none 0 0,.int .i64 0,.int .i64 0,.int .i64 0,.int .i64 0,.slice none 0 0,.slice none 0 0,.slice none 0 0] 29 by have:=yD (w.alloc (.cells #[.slice qa ql qc,.int .i64 cv,.int .i64 ez,.int .i64 nv,.int .i64 sj,.slice aa al ac,.slice ma ml mc,.slice ca cl cc] 29)) #[.slice none 0 0,.int .i64 0,.int .i64 0,.int .i64 0,.int .i64 0,.slice none 0 0,.slice none 0 0,.slice none 0 0] 29;rwa [yE] at this)
 have SQ:=aA h.1
 have SV:=aA qj
 have SH:=aA hhd
 have SM:=aA h.2.2.1
 have SC:=aA h.2.2.2
 have HF:=aA hf
 have CQ:=aA (vT qa ql qc qs _ (h.1.below hb0) hlq TC)
 have HNQ:=aA hcq
 have J4:=aA ZZ
 have Rv:=aA hcm
 have HNC:=aA hcc
 clear h qj hhd hb0 hf TC hcq ZZ hcm hcc
 go_enter Tryz.func58,Tryz.ntmps58
 go_wp2_with fail
 refine (uH CQ).mono ?_
 rintro e w2 ⟨v,rfl,ho,hb⟩
 obtain ⟨qo,qd,rfl,TD,NF⟩:=oH.has ho
 rw [yE,yE] at NF
 have hrq:=jW ho
 rw [yE,yE] at hrq
 have QD:=aA (RmL.cons hrq (RmL.nil _ _))
 have HB2:=aA (yB (uH HB0) hb)
 have Q0:=aA ((uH P0).below hb)
 have Q1:=aA ((uH P1).below hb)
 have OQ:=aA NF
 have hz2:w.heap.size+2≤w2.heap.size:=by have:=hb.size;rw [yE,yE] at this;omega
 have d0:=(uH Q0).at 0
 have f0:=(uH Q0).f 0
 simp at d0
 have HQD:=aA TD
 clear ho hb NF hrq HB0 P0 P1 CQ TD
 go_upto_region 2 with fail
 have HB3:=aA (yC (uH HB2) w.heap.size 0 (.slice qo qs.length qd) (yJ _))
 have R0:=aA (show Blk (w2.setCell ⟨w.heap.size,0,none⟩ (.slice qo qs.length qd)) w.heap.size #[.slice qo qs.length qd,.int .i64 cv,.int .i64 ez,.int .i64 nv,.int .i64 sj,.slice aa al ac,.slice ma ml mc,.slice ca cl cc] 29 from (uH Q0).set 0 (.slice qo qs.length qd))
 have R1:=aA ((uH Q1).other w.heap.size 0 (.slice qo qs.length qd) (by omega))
 have OQ3:=aA ((uH OQ).sc (k:=w.heap.size) (j:=0) (v:=.slice qo qs.length qd) (by omega))
 have hz3:w.heap.size+2≤(w2.setCell ⟨w.heap.size,0,none⟩ (.slice qo qs.length qd)).heap.size:=by rw [dY];exact hz2
 have PD:=aA ((uH QD).sc w.heap.size 0 (.slice qo qs.length qd))
 generalize w2.setCell ⟨w.heap.size,0,none⟩ (.slice qo qs.length qd)=w3 at HB3 R0 R1 OQ3 PD hz3 ⊢
 clear d0 f0 HB2 Q0 Q1 OQ QD hz2
 have CA:=aA (aCt aa al ac hs0 w3 ((uH SV).below (uH HB3)) hla)
 have a5:=(uH R0).at 5
 simp at a5
 go_wp2_with fail
 refine (uH CA).mono ?_
 rintro e w4 ⟨v,rfl,ho,hb⟩
 obtain ⟨po,pd,rfl,VZ,xw⟩:=aE4 (wZ ho hz3)
 have UB:=aA (RmL.cons (jW (wZ ho hz3)) ((uH PD).below hb))
 have G8:=aA (yB (uH HB3) hb)
 have Q0:=aA ((uH R0).below hb)
 have Q1:=aA ((uH R1).below hb)
 have OQ4:=aA ((uH OQ3).below hb)
 have Wz:w.heap.size+2≤w4.heap.size:=by have:=hb.size;omega
 obtain ⟨n2,hn2⟩:∃n,hs0.length=n:=⟨_,rfl⟩
 rw [hn2] at xw ⊢
 have OP4:=aA xw
 have ZR:=aA hn2
 have hl2:n2≤1048576:=by have:=(uH SV).1;omega
 have d5:=(uH Q0).at 5
 have f5:=(uH Q0).f 5
 simp at d5
 have HPD:=aA (show n2≤pd by omega)
 clear ho hb xw HB3 R0 R1 OQ3 PD hz3 CA a5 VZ hn2
 go_upto_region 3 with fail
 have GR:=aA (yC (uH G8) w.heap.size 5 (.slice po n2 pd) (yJ _))
 have R0:=aA (show Blk (w4.setCell ⟨w.heap.size,5,none⟩ (.slice po n2 pd)) w.heap.size #[.slice qo qs.length qd,.int .i64 cv,.int .i64 ez,.int .i64 nv,.int .i64 sj,.slice po n2 pd,.slice ma ml mc,.slice ca cl cc] 29 from (uH Q0).set 5 (.slice po n2 pd))
 have R1:=aA ((uH Q1).other w.heap.size 5 (.slice po n2 pd) (by omega))
 have OQ5:=aA ((uH OQ4).sc (k:=w.heap.size) (j:=5) (v:=.slice po n2 pd) (by omega))
 have OP5:=aA ((uH OP4).sc (k:=w.heap.size) (j:=5) (v:=.slice po n2 pd) (by omega))
 have Fz:w.heap.size+2≤(w4.setCell ⟨w.heap.size,5,none⟩ (.slice po n2 pd)).heap.size:=by rw [dY];exact Wz
 have P8:=aA ((uH UB).sc w.heap.size 5 (.slice po n2 pd))
 generalize w4.setCell ⟨w.heap.size,5,none⟩ (.slice po n2 pd)=w5 at GR R0 R1 OQ5 OP5 P8 Fz ⊢
 have a5:=(uH R0).at 5
 simp at a5
 clear d5 f5 G8 Q0 Q1 OQ4 OP4 UB Wz
 go_wp2
 go_loopw [18] (fun i wr=>∃(k:Nat),k≤n2∧i=.int .i64 k∧Hid (∃ns:List AV,ns.length=k∧mI (w.heap.size+2) wr po n2 (ns++hs0.drop k)∧jI (w.heap.size+2) wr ns (aj.take k)∧RmL (w.heap.size+2) wr ((48,3,po,pd)::(56,4,qo,qd)::ns.map (fun v=>(104,5,v.ao,v.cap))))∧Hid (Blk wr w.heap.size #[.slice qo qs.length qd,.int .i64 cv,.int .i64 ez,.int .i64 nv,.int .i64 sj,.slice po n2 pd,.slice ma ml mc,.slice ca cl cc] 29)∧Hid (Blk wr (w.heap.size+1) #[.slice none 0 0,.int .i64 0,.int .i64 0,.int .i64 0,.int .i64 0,.slice none 0 0,.slice none 0 0,.slice none 0 0] 29)∧Hid (pQ (w.heap.size+2) wr qo qs.length qs)∧Hid (Bw w wr)∧w.heap.size+2≤wr.heap.size) (fun i _=>n2 - (intOf i).toNat)
 case atStart=>exact ⟨0,Nat.zero_le _,rfl,aA ⟨[],rfl,by simpa using uH OP5,by simpa using jI.nil _ _,uH P8⟩,R0,R1,OQ5,GR,Fz⟩
 case round=>
  obtain ⟨k,hk,rfl,HP,YF,HR1,HQ,HB,hz⟩:=hrel
  clear R0 R1 OQ5 OP5 GR P8 Fz a5
  by_cases hlt:k<n2
  ·obtain ⟨ns,hns,xw,hkh,hrm⟩:=uH HP
   obtain ⟨g,M,rfl,hgB,TJ,hbk⟩:=xw.blk hlt
   have hk0:k<hs0.length:=by have:=uH ZR;omega
   have hk1:k<aj.length:=by have:=(uH SH).1;omega
   have hkl:k<(ns++hs0.drop k).length:=by rw [List.length_append,List.length_drop];omega
   have hel:(ns++hs0.drop k)[k]=hs0[k]:=by
    rw [List.getElem_append_right (by omega)]
    simp [hns]
   have GV:=hbk.2.2 k hkl
   rw [hel] at GV
   obtain ⟨c0,c1,c2⟩:=GV
   obtain ⟨e0,e1,e2,e3⟩:=(uH SH).2 k hk0 hk1
   have hfa:=(uH HF).2.1.2 aj[k] (yM hk1)
   obtain ⟨⟨ai,aq,ak⟩,hap⟩:∃a,aj[k]=a:=⟨_,rfl⟩
   obtain ⟨⟨vi,vq,va,vl,vc⟩,hv⟩:∃v,hs0[k]=v:=⟨_,rfl⟩
   have QL:∀(no:Option Addr) (nl nd:Nat),(ns++hs0.drop k).set k ⟨vi,vq,no,nl,nd⟩=(ns++[⟨vi,vq,no,nl,nd⟩])++hs0.drop (k+1):=fun no nl nd=>by
    rw [List.set_append_right _ _ (by omega),List.drop_eq_getElem_cons hk0,hns,Nat.sub_self,sB]
    simp
   have htk:aj.take (k+1)=aj.take k++[⟨ai,aq,ak⟩]:=by rw [List.take_succ_eq_append_getElem hk1,hap]
   rw [hap] at e0 e1 e2 hfa
   rw [hv] at c0 c1 c2 e0 e1 e2 e3 hel
   simp only at c0 c1 c2 e0 e1 e2 e3 hfa
   subst e0 e1
   have Hw:=e2.below (uH HB)
   have HW:=aA (yA (yH _ wr) (.cells #[.int .i64 vi,.string (bs vq),.slice va vl vc] 48))
   replace hfa:vq.length≤1048576∧ak.length≤1048576∧∀a ∈ ak,a.node.length≤1048576:=⟨hfa.1,hfa.2.1,hfa.2.2⟩
   have hvl:vl≤1048576:=by have:=e2.1;omega
   have CC:=aA (fun wx (hb:Below (wr.alloc (.cells #[.int .i64 vi,.string (bs vq),.slice va vl vc] 48)).heap.size (wr.alloc (.cells #[.int .i64 vi,.string (bs vq),.slice va vl vc] 48)) wx)=>qV vi vq va vl vc ak wx ((Hw.below (uH HW)).below hb) hvl hfa.1 hfa.2.2)
   have HST:=aA QL
   have qw:=aA htk
   have Mx:=aA (hkh.below (uH HW))
   have MJ:=aA (hrm.below (uH HW))
   have Uq:=aA (hbk.below (uH HW))
   have UR:=aA hel
   have jy:=aA hns
   have X0:=aA ((uH YF).below (uH HW))
   have X1:=aA ((uH HR1).below (uH HW))
   have XQ:=aA ((uH HQ).below (uH HW))
   have XB:=aA (yB (uH HB) (uH HW))
   have XA:=aA (yD wr #[.int .i64 vi,.string (bs vq),.slice va vl vc] 48)
   have NC:w.heap.size+2≤(wr.alloc (.cells #[.int .i64 vi,.string (bs vq),.slice va vl vc] 48)).heap.size:=by rw [yE];omega
   have k0:(0:Int)≤k:=by omega
   have k1:(k:Int)<n2:=by omega
   clear xw hkh hrm hbk hap hv QL htk Hw e2 e3 hfa hel hk0 hk1 hns
   go_upto_region 6 with fail
   obtain ⟨W,hW⟩:∃W,wr.alloc (.cells #[.int .i64 vi,.string (bs vq),.slice va vl vc] 48)=W:=⟨_,rfl⟩
   rw [hW] at CC Mx MJ Uq X0 X1 XQ XB XA NC ⊢
   have xa0:=(uH XA).at 0
   have xa1:=(uH XA).at 1
   have xa2:=(uH XA).at 2
   have x5:=(uH X0).at 5
   simp at xa0 xa1 xa2 x5
   clear hW HW HP YF HR1 HQ HB c0 c1 c2
   go_wp2_with fail
   go_region_with (go_at_call 64;refine (uH CC _ ?_).mono ?_;(exact (yH _ W).drew);rintro e w6 ⟨v,rfl,ho,hb⟩;have GY:=aA (yB (yH _ W).drew hb);obtain ⟨no,nd,rfl,hnd,hnr,hno⟩:=aBf ho;have MR:=aA hnr;have MS:=aA (show dS W.heap.size w6.heap.size w6 104 5 no ak.length from hno);have WL:=aA hnd;have HOA:=aA (show dS W.heap.size w6.heap.size w6 104 5 no nd from jW ho);have xq:=aA ((uH Uq).below (uH GY));have y5:=((uH X0).below (uH GY)).at 5;have GV:=(uH xq).2.2 k hkl;rw [uH UR] at GV;obtain ⟨c0,c1,c2⟩:=GV;simp only at c0 c1 c2;have s0:=mX c0;have s1:=mX c1;have z0:=(uH xq).1.frozen (k*3);have z1:=(uH xq).1.frozen (k*3+1);have z2:=(uH xq).1.frozen (k*3+2);simp at y5;clear ho hb hnr hno hnd)
   all_goals go_wp2
   all_goals
    have hkk:∃t N,Cel w6 t g N∧t≠104:=⟨_,_,(uH xq).1,by decide⟩
    have hgw:w.heap.size+2≤g:=hgB
    go_roundw
    case rel=>
     refine ⟨k+1,by omega,by go_num,aA ⟨ns++[⟨vi,vq,no,ak.length,nd⟩],by simp [uH jy],?_,?_,?_⟩,aA (((uH X0).below (uH GY)).other g _ _ (by omega)),aA (((uH X1).below (uH GY)).other g _ _ (by omega)),aA ?_,aA (yC (yB (uH XB) (uH GY)) _ _ _ (by omega)),by rw [dY];have:=(uH GY).size;omega⟩
     ·have:=(uH xq).asks hkl no ak.length nd
      rw [uH UR] at this
      simp only at this
      rw [uH HST] at this
      exact this.has hgB (by have:=uH ZR;have:=uH jy;simp;omega)
     ·rw [uH qw]
      exact ((uH Mx).snoc (uH GY) NC vi vq no nd ak (uH WL) (uH MR) (uH MS)).sc (.inr hkk)
     ·exact ((RmL.cons ((uH HOA).mono NC (yJ _)) ((uH MJ).below (uH GY))).sub (fun p hp=>by simp only [List.map_append,List.map_cons,List.map_nil,List.mem_cons,List.mem_append,List.not_mem_nil,or_false] at hp ⊢;rcases hp with h | h | h | h<;>simp [h])).sc _ _ _
     ·obtain ⟨t,N,hc,ht⟩:=hkk
      have hq:=(uH XQ).below (uH GY)
      refine ⟨hq.1.mks (Mks.one (fun x=>x=g) _ g _ _ rfl) (fun i hi e=>?_),by rw [dY];exact hq.2.mks (Mks.one (fun x=>x=g) _ g _ _ rfl)⟩
      obtain ⟨_,_,N',hc'⟩:=hq.2.lies i hi
      subst e
      exact absurd (hc'.type (uH xq).1) (by decide)
    case measure=>simp [intOf];omega
  ·obtain rfl:k=n2:=by omega
   obtain ⟨ns,hns,xw,hkh,hrm⟩:=uH HP
   have hdr:hs0.drop k=[]:=List.drop_of_length_le (by have:=uH ZR;omega)
   have htk:aj.take k=aj:=List.take_of_length_le (by have:=(uH SH).1;have:=uH ZR;omega)
   rw [hdr,List.append_nil] at xw
   rw [htk] at hkh
   have M0:=aA hrm
   have K0:=aA (show aHx w _ qo qs po k ns aj wr from ⟨uH YF,uH HR1,uH HQ,xw,hkh,uH HB,hz⟩)
   have CM:=aA (vV ma ml mc ms wr ((uH SM).below (uH HB)) hlm)
   have a6:=(uH YF).at 6
   simp at a6
   have k1:¬(k:Int)<k:=by omega
   clear xw hkh hrm hdr htk HP YF HR1 HQ HB hlt hns
   go_wp2_with fail
   refine (uH CM).mono ?_
   rintro e w7 ⟨v,rfl,ho,hb⟩
   obtain ⟨mo,md,rfl,hmd,NN⟩:=aEc (xI ho hz)
   have M1:=aA (RmL.cons (jW (xI ho hz)) ((uH M0).below hb))
   have K1:=aA ((uH K0).below hb)
   obtain ⟨n3,XN⟩:∃n,ms.length=n:=⟨_,rfl⟩
   rw [XN] at NN ⊢
   have OM:=aA NN
   have HN3:=aA XN
   have hl3:n3≤1048576:=by have:=(uH SM).1;omega
   have d6:=(uH K1).r0.at 6
   have f6:=(uH K1).r0.f 6
   simp at d6
   have HMD:=aA (show n3≤md by omega)
   clear ho hb NN CM a6 hmd XN K0 M0 hz
   go_upto_region 9 with fail
   have K2:=aA (show aHx w #[.slice qo qs.length qd,.int .i64 cv,.int .i64 ez,.int .i64 nv,.int .i64 sj,.slice po k pd,.slice mo n3 md,.slice ca cl cc] qo qs po k ns aj (w7.setCell ⟨w.heap.size,6,none⟩ (.slice mo n3 md)) from (uH K1).sc 6 (.slice mo n3 md))
   have OM2:=aA ((uH OM).sc (k:=w.heap.size) (j:=6) (v:=.slice mo n3 md) (by omega))
   have M2:=aA ((uH M1).sc w.heap.size 6 (.slice mo n3 md))
   generalize w7.setCell ⟨w.heap.size,6,none⟩ (.slice mo n3 md)=w8 at K2 OM2 M2 ⊢
   have a6:=(uH K2).r0.at 6
   simp at a6
   clear d6 f6 K1 OM M1
   go_wp2
   go_loopw [37] (fun i wr=>∃(j:Nat),j≤n3∧i=.int .i64 j∧Hid (aHx w #[.slice qo qs.length qd,.int .i64 cv,.int .i64 ez,.int .i64 nv,.int .i64 sj,.slice po k pd,.slice mo n3 md,.slice ca cl cc] qo qs po k ns aj wr)∧Hid (nO (w.heap.size+2) wr mo n3 ms)∧Hid (RmL (w.heap.size+2) wr ((102,4,mo,md)::(48,3,po,pd)::(56,4,qo,qd)::ns.map (fun v=>(104,5,v.ao,v.cap))))) (fun i _=>n3 - (intOf i).toNat)
   case atStart=>exact ⟨0,Nat.zero_le _,rfl,K2,OM2,M2⟩
   case round=>
    obtain ⟨j,hj,rfl,HK,HM,YE⟩:=hrel
    clear K2 OM2 M2 a6
    by_cases hlt:j<n3
    ·obtain ⟨g,rfl,hgB,TJ,hfz,hat⟩:=(uH HM).blk hlt
     have hjl:j<ms.length:=by have:=uH HN3;omega
     obtain ⟨c0,c1,c2,c3⟩:=hat j hjl
     have hnm:=(uH HF).2.2.1.2 ms[j] (yM hjl)
     obtain ⟨⟨na,me,cp,se⟩,hm⟩:∃m,ms[j]=m:=⟨_,rfl⟩
     rw [hm] at c0 c1 c2 c3 hnm
     simp only at c0 c1 c2 c3 hnm
     have HW:=aA (yA (yH _ wr) (.cells #[.string (bs na),.int .i64 me,.int .i64 cp,.int .i64 se] 102))
     have X0:=aA ((uH HK).below (uH HW))
     have XM:=aA ((uH HM).below (uH HW))
     have XL:=aA ((uH YE).below (uH HW))
     have XA:=aA (yD wr #[.string (bs na),.int .i64 me,.int .i64 cp,.int .i64 se] 102)
     have D0:=aA (iB c0 (uH HW))
     have hs1:(bs na).size≤281474976710656:=by rw [dD];omega
     have CL:=aA (fun wx=>kS (bs na) wx hs1)
     have j0:(0:Int)≤j:=by omega
     have j1:(j:Int)<n3:=by omega
     clear hat hm hjl hfz hnm
     go_upto_region 12 with fail
     obtain ⟨W,hW⟩:∃W,wr.alloc (.cells #[.string (bs na),.int .i64 me,.int .i64 cp,.int .i64 se] 102)=W:=⟨_,rfl⟩
     rw [hW] at X0 XM XL XA D0 ⊢
     have xa0:=(uH XA).at 0
     have x6:=(uH X0).r0.at 6
     simp at xa0 x6
     clear hW HW HK HM YE c0 c1 c2 c3
     go_wp2_with fail
     go_region_with (go_at_call 111;refine (uH CL _).mono ?_;rintro e w6 ⟨rfl,hb⟩;have GY:=aA (yB (yH _ W).drew hb);have y6:=((uH X0).below (uH GY)).r0.at 6;have c0:=iB (uH D0) (uH GY);have s0:=mX c0;obtain ⟨g',e',_,_,hfz,_⟩:=((uH XM).below (uH GY)).blk hlt;cases e';have z0:=hfz (j*4);simp at y6;clear hb hfz)
     all_goals go_wp2
     all_goals
      go_roundw
      case rel=>exact ⟨j+1,by omega,by go_num,aA ((uH X0).below (uH GY)),aA ((uH XM).below (uH GY)),aA ((uH XL).below (uH GY))⟩
      case measure=>simp [intOf];omega
    ·obtain rfl:j=n3:=by omega
     have CC:=aA (yV ca cl cc cs wr ((uH SC).below (uH HK).b) hlc (uH HF).2.2.2.2)
     have a7:=(uH HK).r0.at 7
     simp at a7
     have j1:¬(j:Int)<j:=by omega
     clear hlt
     go_wp2_with fail
     refine (uH CC).mono ?_
     rintro e w9 ⟨co,cd,rfl,hcd,BI,hco,hb⟩
     have L1:=aA (RmL.cons (hco.mono (uH HK).z (yJ _)) ((uH YE).below hb))
     have hch:=BI.base (uH HK).z
     have K1:=aA ((uH HK).below hb)
     have OM1:=aA ((uH HM).below hb)
     obtain ⟨n4,YT⟩:∃n,cs.length=n:=⟨_,rfl⟩
     rw [YT] at hch ⊢
     have OC:=aA hch
     have pz:=aA YT
     have d7:=(uH K1).r0.at 7
     have f7:=(uH K1).r0.f 7
     simp at d7
     have HCD:=aA (show n4≤cd by omega)
     clear BI hco hb hch CC a7 hcd YT HK HM YE
     go_upto_region 15 with fail
     have K2:=aA (show aHx w #[.slice qo qs.length qd,.int .i64 cv,.int .i64 ez,.int .i64 nv,.int .i64 sj,.slice po k pd,.slice mo j md,.slice co n4 cd] qo qs po k ns aj (w9.setCell ⟨w.heap.size,7,none⟩ (.slice co n4 cd)) from (uH K1).sc 7 (.slice co n4 cd))
     have OM2:=aA ((uH OM1).sc (k:=w.heap.size) (j:=7) (v:=.slice co n4 cd) (by omega))
     have OC2:=aA ((uH OC).sc (k:=w.heap.size) (j:=7) (v:=.slice co n4 cd) (by omega))
     have L2:=aA ((uH L1).sc w.heap.size 7 (.slice co n4 cd))
     generalize w9.setCell ⟨w.heap.size,7,none⟩ (.slice co n4 cd)=w10 at K2 OM2 OC2 L2 ⊢
     clear d7 f7 K1 OM1 OC L1
     have a0:=(uH K2).r0.at 0;have a1:=(uH K2).r0.at 1;have a2:=(uH K2).r0.at 2;have a3:=(uH K2).r0.at 3;have a4:=(uH K2).r0.at 4;have a5:=(uH K2).r0.at 5;have a6:=(uH K2).r0.at 6;have a7:=(uH K2).r0.at 7
     have c0:=(uH K2).r1.at 0;have c1:=(uH K2).r1.at 1;have c2:=(uH K2).r1.at 2;have c3:=(uH K2).r1.at 3;have c4:=(uH K2).r1.at 4;have c5:=(uH K2).r1.at 5;have c6:=(uH K2).r1.at 6;have c7:=(uH K2).r1.at 7
     have f0:=(uH K2).r1.f 0;have f1:=(uH K2).r1.f 1;have f2:=(uH K2).r1.f 2;have f3:=(uH K2).r1.f 3;have f4:=(uH K2).r1.f 4;have f5:=(uH K2).r1.f 5;have f6:=(uH K2).r1.f 6;have f7:=(uH K2).r1.f 7
     simp at a0 a1 a2 a3 a4 a5 a6 a7 c0 c1 c2 c3 c4 c5 c6 c7
     go_wp2
     have R9:=aA (show Blk ((((((((w10.setCell ⟨w.heap.size+1,0,none⟩ (.slice qo qs.length qd)).setCell ⟨w.heap.size+1,1,none⟩ (.int .i64 cv)).setCell ⟨w.heap.size+1,2,none⟩ (.int .i64 ez)).setCell ⟨w.heap.size+1,3,none⟩ (.int .i64 nv)).setCell ⟨w.heap.size+1,4,none⟩ (.int .i64 sj)).setCell ⟨w.heap.size+1,5,none⟩ (.slice po k pd)).setCell ⟨w.heap.size+1,6,none⟩ (.slice mo j md)).setCell ⟨w.heap.size+1,7,none⟩ (.slice co n4 cd)) (w.heap.size+1) #[.slice qo qs.length qd,.int .i64 cv,.int .i64 ez,.int .i64 nv,.int .i64 sj,.slice po k pd,.slice mo j md,.slice co n4 cd] 29 from (((((((((uH K2).r1.set 0 (.slice qo qs.length qd)).set 1 (.int .i64 cv)).set 2 (.int .i64 ez)).set 3 (.int .i64 nv)).set 4 (.int .i64 sj)).set 5 (.slice po k pd)).set 6 (.slice mo j md)).set 7 (.slice co n4 cd)))
     have Q9:=aA ((((((((((uH K2).q.sc (k:=w.heap.size+1) (j:=0) (v:=.slice qo qs.length qd) (by omega)).sc (k:=w.heap.size+1) (j:=1) (v:=.int .i64 cv) (by omega)).sc (k:=w.heap.size+1) (j:=2) (v:=.int .i64 ez) (by omega)).sc (k:=w.heap.size+1) (j:=3) (v:=.int .i64 nv) (by omega)).sc (k:=w.heap.size+1) (j:=4) (v:=.int .i64 sj) (by omega)).sc (k:=w.heap.size+1) (j:=5) (v:=.slice po k pd) (by omega)).sc (k:=w.heap.size+1) (j:=6) (v:=.slice mo j md) (by omega)).sc (k:=w.heap.size+1) (j:=7) (v:=.slice co n4 cd) (by omega)))
     have P9:=aA ((((((((((uH K2).p.sc (k:=w.heap.size+1) (j:=0) (v:=.slice qo qs.length qd) (by omega)).sc (k:=w.heap.size+1) (j:=1) (v:=.int .i64 cv) (by omega)).sc (k:=w.heap.size+1) (j:=2) (v:=.int .i64 ez) (by omega)).sc (k:=w.heap.size+1) (j:=3) (v:=.int .i64 nv) (by omega)).sc (k:=w.heap.size+1) (j:=4) (v:=.int .i64 sj) (by omega)).sc (k:=w.heap.size+1) (j:=5) (v:=.slice po k pd) (by omega)).sc (k:=w.heap.size+1) (j:=6) (v:=.slice mo j md) (by omega)).sc (k:=w.heap.size+1) (j:=7) (v:=.slice co n4 cd) (by omega)))
     have K9:=aA ((((((((((uH K2).k.sc (k:=w.heap.size+1) (j:=0) (v:=.slice qo qs.length qd) (.inl (by omega))).sc (k:=w.heap.size+1) (j:=1) (v:=.int .i64 cv) (.inl (by omega))).sc (k:=w.heap.size+1) (j:=2) (v:=.int .i64 ez) (.inl (by omega))).sc (k:=w.heap.size+1) (j:=3) (v:=.int .i64 nv) (.inl (by omega))).sc (k:=w.heap.size+1) (j:=4) (v:=.int .i64 sj) (.inl (by omega))).sc (k:=w.heap.size+1) (j:=5) (v:=.slice po k pd) (.inl (by omega))).sc (k:=w.heap.size+1) (j:=6) (v:=.slice mo j md) (.inl (by omega))).sc (k:=w.heap.size+1) (j:=7) (v:=.slice co n4 cd) (.inl (by omega))))
     have M9:=aA ((((((((((uH OM2).sc (k:=w.heap.size+1) (j:=0) (v:=.slice qo qs.length qd) (by omega)).sc (k:=w.heap.size+1) (j:=1) (v:=.int .i64 cv) (by omega)).sc (k:=w.heap.size+1) (j:=2) (v:=.int .i64 ez) (by omega)).sc (k:=w.heap.size+1) (j:=3) (v:=.int .i64 nv) (by omega)).sc (k:=w.heap.size+1) (j:=4) (v:=.int .i64 sj) (by omega)).sc (k:=w.heap.size+1) (j:=5) (v:=.slice po k pd) (by omega)).sc (k:=w.heap.size+1) (j:=6) (v:=.slice mo j md) (by omega)).sc (k:=w.heap.size+1) (j:=7) (v:=.slice co n4 cd) (by omega)))
     have C9:=aA ((((((((((uH OC2).sc (k:=w.heap.size+1) (j:=0) (v:=.slice qo qs.length qd) (by omega)).sc (k:=w.heap.size+1) (j:=1) (v:=.int .i64 cv) (by omega)).sc (k:=w.heap.size+1) (j:=2) (v:=.int .i64 ez) (by omega)).sc (k:=w.heap.size+1) (j:=3) (v:=.int .i64 nv) (by omega)).sc (k:=w.heap.size+1) (j:=4) (v:=.int .i64 sj) (by omega)).sc (k:=w.heap.size+1) (j:=5) (v:=.slice po k pd) (by omega)).sc (k:=w.heap.size+1) (j:=6) (v:=.slice mo j md) (by omega)).sc (k:=w.heap.size+1) (j:=7) (v:=.slice co n4 cd) (by omega)))
     have L9:=aA (((((((((uH L2).sc (w.heap.size+1) 0 (.slice qo qs.length qd)).sc (w.heap.size+1) 1 (.int .i64 cv)).sc (w.heap.size+1) 2 (.int .i64 ez)).sc (w.heap.size+1) 3 (.int .i64 nv)).sc (w.heap.size+1) 4 (.int .i64 sj)).sc (w.heap.size+1) 5 (.slice po k pd)).sc (w.heap.size+1) 6 (.slice mo j md)).sc (w.heap.size+1) 7 (.slice co n4 cd))
     have B9:=aA ((yC (yC (yC (yC (yC (yC (yC (yC (uH K2).b (w.heap.size+1) 0 (.slice qo qs.length qd) (by omega)) (w.heap.size+1) 1 (.int .i64 cv) (by omega)) (w.heap.size+1) 2 (.int .i64 ez) (by omega)) (w.heap.size+1) 3 (.int .i64 nv) (by omega)) (w.heap.size+1) 4 (.int .i64 sj) (by omega)) (w.heap.size+1) 5 (.slice po k pd) (by omega)) (w.heap.size+1) 6 (.slice mo j md) (by omega)) (w.heap.size+1) 7 (.slice co n4 cd) (by omega)))
     generalize ((((((((w10.setCell ⟨w.heap.size+1,0,none⟩ (.slice qo qs.length qd)).setCell ⟨w.heap.size+1,1,none⟩ (.int .i64 cv)).setCell ⟨w.heap.size+1,2,none⟩ (.int .i64 ez)).setCell ⟨w.heap.size+1,3,none⟩ (.int .i64 nv)).setCell ⟨w.heap.size+1,4,none⟩ (.int .i64 sj)).setCell ⟨w.heap.size+1,5,none⟩ (.slice po k pd)).setCell ⟨w.heap.size+1,6,none⟩ (.slice mo j md)).setCell ⟨w.heap.size+1,7,none⟩ (.slice co n4 cd))=W9 at R9 Q9 P9 K9 M9 C9 L9 B9 ⊢
     obtain ⟨z0,z1,z2,z3,z4,z5,z6,z7⟩:=zq (uH R9)
     refine bodyPost_ret (v:=.agg #[.slice qo qs.length qd,.int .i64 cv,.int .i64 ez,.int .i64 nv,.int .i64 sj,.slice po k pd,.slice mo j md,.slice co n4 cd]) (by simp [results,Tryz.results58,go_sem,z0,z1,z2,z3,z4,z5,z6,z7]) rfl (show aHs w _ _ _ from ⟨⟨qo,qs.length,qd,po,k,pd,mo,j,md,co,n4,cd⟩,ns,rfl,?_,uH B9⟩)
     exact (aDV (x:=⟨qo,qs.length,qd,po,k,pd,mo,j,md,co,n4,cd⟩) (s:=⟨qs,cv,ez,nv,sj,aj,ms,cs⟩) (uH Q9) (uH P9) (uH K9) (uH M9) (uH C9) ⟨uH HQD,uH HPD,uH HMD,uH HCD⟩ (aJH (x:=⟨qo,qs.length,qd,po,k,pd,mo,j,md,co,n4,cd⟩) ((uH L9).sub (fun p hp=>by simp only [RL4,List.mem_cons,List.mem_map] at hp ⊢;rcases hp with h | h | h | h<;>simp [h])) (uH L9 (48,3,po,pd) (by simp)))).mono (by omega) (yJ _)
theorem gP {b p:Nat} {u:Value} (h:w.cell? ⟨b,p,none⟩=some u) (hb:w'.heap[b]? = w.heap[b]?):w'.cell? ⟨b,p,none⟩=some u:=(World.cell?_of_block (w:=w) (a:=⟨b,p,none⟩) hb).trans h
theorem gJ.kept {len:Nat} {l:List Q} (h:gJ w ao len l) (hs:∀k,inR ao len k→w'.heap[k]? = w.heap[k]?):gJ w' ao len l:=by
 obtain ⟨h1,h2⟩:=h
 refine ⟨h1,?_⟩
 rcases h2 with h2 | ⟨b,off,h3,h4⟩
 ·exact .inl h2
 ·by_cases hz:len=0
  ·exact .inl hz
  ·have hb:=hs b ⟨hz,off,h3⟩
   exact .inr ⟨b,off,h3,fun i h=>let ⟨a,c,d,e⟩:=h4 i h;⟨gP a hb,gP c hb,gP d hb,gP e hb⟩⟩
theorem cO.kept {len:Nat} {l:List Mac} (h:cO w ao len l) (hs:∀k,inR ao len k→w'.heap[k]? = w.heap[k]?):cO w' ao len l:=by
 obtain ⟨h1,h2⟩:=h
 refine ⟨h1,?_⟩
 rcases h2 with h2 | ⟨b,off,h3,h4⟩
 ·exact .inl h2
 ·by_cases hz:len=0
  ·exact .inl hz
  ·have hb:=hs b ⟨hz,off,h3⟩
   exact .inr ⟨b,off,h3,fun i h=>let ⟨a,c,d,e⟩:=h4 i h;⟨gP a hb,gP c hb,gP d hb,gP e hb⟩⟩
theorem bG.kept {len:Nat} {l:List Con} (h:bG w ao len l) (hs:∀k,inR ao len k→w'.heap[k]? = w.heap[k]?):bG w' ao len l:=by
 obtain ⟨h1,h2⟩:=h
 refine ⟨h1,?_⟩
 rcases h2 with h2 | ⟨b,off,h3,h4⟩
 ·exact .inl h2
 ·by_cases hz:len=0
  ·exact .inl hz
  ·have hb:=hs b ⟨hz,off,h3⟩
   exact .inr ⟨b,off,h3,fun i h=>let ⟨a,c,d,e,f⟩:=h4 i h;⟨gP a hb,gP c hb,gP d hb,gP e hb,gP f hb⟩⟩
theorem bE.kept {len:Nat} {l:List Ask} (h:bE w ao len l) (hs:∀k,inR ao len k→w'.heap[k]? = w.heap[k]?):bE w' ao len l:=by
 obtain ⟨h1,h2⟩:=h
 refine ⟨h1,?_⟩
 rcases h2 with h2 | ⟨b,off,h3,h4⟩
 ·exact .inl h2
 ·by_cases hz:len=0
  ·exact .inl hz
  ·have hb:=hs b ⟨hz,off,h3⟩
   exact .inr ⟨b,off,h3,fun i h=>let ⟨a,c,d,e,f⟩:=h4 i h;⟨gP a hb,gP c hb,gP d hb,gP e hb,gP f hb⟩⟩
theorem fK.kept {len:Nat} (h:fK w ao len l) (hs:∀k,inR ao len k→w'.heap[k]? = w.heap[k]?):fK w' ao len l:=by
 obtain ⟨h1,h2⟩:=h
 refine ⟨h1,?_⟩
 rcases h2 with h2 | ⟨b,off,h3,h4⟩
 ·exact .inl h2
 ·by_cases hz:len=0
  ·exact .inl hz
  ·have hb:=hs b ⟨hz,off,h3⟩
   exact .inr ⟨b,off,h3,fun i h=>let ⟨a,c,d⟩:=h4 i h;⟨gP a hb,gP c hb,gP d hb⟩⟩
theorem dL (h:dS B w.heap.size w t sz ao n) (hg:w.grownBy w' r) (hr:∀k,r=some k→∃N,Cel w t' k N) (ht:t'≠t):(∀k,inR ao n k→w'.heap[k]? = w.heap[k]?)∧dS B w'.heap.size w' t sz ao n:=by
 have key:∀k,inR ao n k→w'.heap[k]? = w.heap[k]?:=fun k hk=>by
  obtain ⟨_,h2,N,h3⟩:=h.lies k hk
  refine hg.block k h2 (fun e=>?_)
  obtain ⟨N',h4⟩:=hr k e.symm
  exact ht (h4.type h3)
 refine ⟨key,?_⟩
 rcases h with e | ⟨g,M,e,h1,h2,h3,h4⟩
 ·exact .inl e
 ·by_cases hz:n=0
  ·exact .inl hz
  ·exact .inr ⟨g,M,e,h1,Nat.lt_of_lt_of_le h2 hg.size,h3.of_block (key g ⟨hz,0,e⟩),h4⟩
theorem pQ.grown {l:List Q} (h:pQ B w ao n l) (hg:w.grownBy w' r) (hr:∀k,r=some k→∃N,Cel w t' k N) (ht:t'≠56):pQ B w' ao n l:=⟨h.1.kept (dL h.2 hg hr ht).1,(dL h.2 hg hr ht).2⟩
theorem nO.grown {l:List Mac} (h:nO B w ao n l) (hg:w.grownBy w' r) (hr:∀k,r=some k→∃N,Cel w t' k N) (ht:t'≠102):nO B w' ao n l:=⟨h.1.kept (dL h.2 hg hr ht).1,(dL h.2 hg hr ht).2⟩
theorem kY.grown {l:List Con} (h:kY B w ao n l) (hg:w.grownBy w' r) (hr:∀k,r=some k→∃N,Cel w t' k N) (ht:t'≠52):kY B w' ao n l:=⟨h.1.kept (dL h.2 hg hr ht).1,(dL h.2 hg hr ht).2⟩
theorem mI.grown (h:mI B w ao n l) (hg:w.grownBy w' r) (hr:∀k,r=some k→∃N,Cel w t' k N) (ht:t'≠48):mI B w' ao n l:=⟨h.1.kept (dL h.2 hg hr ht).1,(dL h.2 hg hr ht).2⟩
theorem jI.grown {l:List bN} (h:jI B w hs l) (hg:w.grownBy w' r) (hr:∀k,r=some k→∃N,Cel w t' k N) (ht:t'≠104):jI B w' hs l:=
 ⟨⟨h.heads.1,fun i h1 h2=>let ⟨a,b,c,d⟩:=h.heads.2 i h1 h2;⟨a,b,c.kept (dL (h.own _ (yM h1)) hg hr ht).1,d⟩⟩,fun v hv=>(dL (h.own v hv) hg hr ht).2,h.apart⟩
theorem qE {e:TypeId} {v:Value} {xs:List Value} (h:w.ownsRow B e sz v n xs):∀k,v.ownBlock=some k→∃N,Cel w e k N:=fun k hk=>by
 rcases h.2 with ⟨rfl,_⟩ | ⟨g,cap,cur,rfl,_,h2,_⟩
 ·simp [Value.ownBlock] at hk
 ·obtain rfl:g=k:=by simpa [Value.ownBlock] using hk
  exact ⟨_,cur,h2,rfl⟩
theorem Blk.grown (h:Blk w g arr t) (hg:w.grownBy w' r) (hr:∀k,r=some k→∃N,Cel w t' k N) (ht:t'≠t):Blk w' g arr t:=
 (hg.block g h.lt (fun e=>by obtain ⟨N,h4⟩:=hr g e.symm;exact ht (h4.type ⟨arr,h,rfl⟩))).trans h
theorem wE (w:World) (g j:Nat) (v:Value):w.grownBy (w.setCell ⟨g,j,none⟩ v) (some g):=⟨rfl,rfl,rfl,by simp [World.setCell],fun k _ hne=>Below.heap_setCell _ _ _ _ (by show k≠g;intro e;exact hne (by rw [e]))⟩
structure aED (x:Sls) (hs:List AV):Prop where
 q:x.qa=none→x.ql=0∧x.qc=0
 m:x.ma=none→x.ml=0∧x.mc=0
 c:x.ca=none→x.cl=0∧x.cc=0
 k:∀v ∈ hs,v.ao=none→v.len=0∧v.cap=0
theorem vZ {c:Nat} (h:dS B E w t sz ao c) (hn:n≤c) (e:ao=none):n=0∧c=0:=by
 rcases h with h | ⟨g,M,h1,_⟩
 ·omega
 ·rw [e] at h1;cases h1
theorem rA.some (h:rA B E w x s hs):aED x hs:=
 ⟨vZ h.rm.1 h.cap.q,vZ h.rm.2.2.1 h.cap.m,vZ h.rm.2.2.2.1 h.cap.c,fun v hv=>vZ (h.rm.2.2.2.2 v hv) (by
  obtain ⟨i,hi,rfl⟩:=List.getElem_of_mem hv
  exact (h.heads.2 i hi (by rw [←h.heads.1];exact hi)).2.2.2)⟩
structure CpS (w:World) (a0:Array Value) (arr:Array Value) (wr:World):Prop where
 r0:Blk wr w.heap.size a0 29
 r1:Blk wr (w.heap.size+1) #[.slice none 0 0,.int .i64 0,.int .i64 0,.int .i64 0,.int .i64 0,.slice none 0 0,.slice none 0 0,.slice none 0 0] 29
 r2:Blk wr (w.heap.size+2) arr 29
 b:Bw w wr
 z:w.heap.size+3≤wr.heap.size
theorem CpS.below (h:CpS w a0 arr wr) (hb:Bw wr wy):CpS w a0 arr wy:=⟨h.r0.below hb,h.r1.below hb,h.r2.below hb,yB h.b hb,Nat.le_trans h.z hb.size⟩
theorem CpS.sc (h:CpS w a0 arr wr) (j:Nat) (v:Value):CpS w a0 (arr.setIfInBounds j v) (wr.setCell ⟨w.heap.size+2,j,none⟩ v):=
 ⟨h.r0.other _ _ _ (by omega),h.r1.other _ _ _ (by omega),h.r2.set j v,yC h.b _ _ _ (by omega),by rw [dY];exact h.z⟩
theorem CpS.grown (h:CpS w a0 arr wr) (hg:wr.grownBy wy r) (hr:∀k,r=some k→w.heap.size≤k∧∃N,Cel wr t' k N) (ht:t'≠29):CpS w a0 arr wy:=
 ⟨h.r0.grown hg (fun k e=>(hr k e).2) ht,h.r1.grown hg (fun k e=>(hr k e).2) ht,h.r2.grown hg (fun k e=>(hr k e).2) ht,h.b.grown hg (by have:=h.z;omega) (fun k e=>(hr k e).1),Nat.le_trans h.z hg.size⟩
def aEz (w:World) (s:St) (e:Ending) (w':World):Prop:=∃y hs,e=.returned (sv y s)∧rA w.heap.size w'.heap.size w' y s hs∧Bw w w'∧∃g,y.ca=some ⟨g,0,none⟩
theorem aC6 (x:Sls) (s:St) (hs0:List AV) (w:World) (h:gU w x s) (qj:fK w x.aa x.al hs0) (hhd:jJ w hs0 s.apps) (hss:aED x hs0) (hf:dI s) :
  cP 34 #[sv x s] w (aEz w s):=by
 have hcq:=h.1.1
 have ZZ:=h.2.1.1
 have hcm:=h.2.2.1.1
 have hcc:=h.2.2.2.1
 have hlq:x.ql≤1048576:=by have:=hf.1.1;omega
 have hla:x.al≤1048576:=by have:=hf.2.1.1;omega
 have hlm:x.ml≤1048576:=by have:=hf.2.2.1.1;omega
 have hlc:x.cl≤1048576:=by have:=hf.2.2.2.1;omega
 obtain ⟨qa,ql,qc,aa,al,ac,ma,ml,mc,ca,cl,cc⟩:=x
 obtain ⟨qs,cv,ez,nv,sj,aj,ms,cs⟩:=s
 simp only at *
 have RQ:=aA (show gJ w qa ql qs from h.1)
 have RM:=aA (show cO w ma ml ms from h.2.2.1)
 have RC:=aA (show bG w ca cl cs from h.2.2.2)
 have RQN:=aA (show qa=none→ql=0∧qc=0 from hss.q)
 have RMN:=aA (show ma=none→ml=0∧mc=0 from hss.m)
 have RCN:=aA (show ca=none→cl=0∧cc=0 from hss.c)
 have SV:=aA (show fK w aa al hs0 from qj)
 have SH:=aA (show jJ w hs0 aj from hhd)
 have HF:=aA hf
 have YD:=aA hss.k
 have BM:al=hs0.length:=qj.1
 have Z8:=aA BM
 have hb0:=yA (yA (yA (yH _ w) (.cells #[.slice qa ql qc,.int .i64 cv,.int .i64 ez,.int .i64 nv,.int .i64 sj,.slice aa al ac,.slice ma ml mc,.slice ca cl cc] 29)) (.cells #[.slice none 0 0,.int .i64 0,.int .i64 0,.int .i64 0,.int .i64 0,.slice none 0 0,.slice none 0 0,.slice none 0 0] 29)) (.cells #[.slice qa ql qc,.int .i64 cv,.int .i64 ez,.int .i64 nv,.int .i64 sj,.slice aa al ac,.slice ma ml mc,.slice ca cl cc] 29)
 have CP:=aA (show CpS w #[.slice qa ql qc,.int .i64 cv,.int .i64 ez,.int .i64 nv,.int .i64 sj,.slice aa al ac,.slice ma ml mc,.slice ca cl cc] #[.slice qa ql qc,.int .i64 cv,.int .i64 ez,.int .i64 nv,.int .i64 sj,.slice aa al ac,.slice ma ml mc,.slice ca cl cc] (((w.alloc (.cells #[.slice qa ql qc,.int .i64 cv,.int .i64 ez,.int .i64 nv,.int .i64 sj,.slice aa al ac,.slice ma ml mc,.slice ca cl cc] 29)).alloc (.cells #[.slice none 0 0,.int .i64 0,.int .i64 0,.int .i64 0,.int .i64 0,.slice none 0 0,.slice none 0 0,.slice none 0 0] 29)).alloc (.cells #[.slice qa ql qc,.int .i64 cv,.int .i64 ez,.int .i64 nv,.int .i64 sj,.slice aa al ac,.slice ma ml mc,.slice ca cl cc] 29)) from
  ⟨((yD w _ _).al _).al _,by have:=(yD (w.alloc (.cells #[.slice qa ql qc,.int .i64 cv,.int .i64 ez,.int .i64 nv,.int .i64 sj,.slice aa al ac,.slice ma ml mc,.slice ca cl cc] 29)) #[.slice none 0 0,.int .i64 0,.int .i64 0,.int .i64 0,.int .i64 0,.slice none 0 0,.slice none 0 0,.slice none 0 0] 29).al (.cells #[.slice qa ql qc,.int .i64 cv,.int .i64 ez,.int .i64 nv,.int .i64 sj,.slice aa al ac,.slice ma ml mc,.slice ca cl cc] 29);rwa [yE] at this,by have:=yD ((w.alloc (.cells #[.slice qa ql qc,.int .i64 cv,.int .i64 ez,.int .i64 nv,.int .i64 sj,.slice aa al ac,.slice ma ml mc,.slice ca cl cc] 29)).alloc (.cells #[.slice none 0 0,.int .i64 0,.int .i64 0,.int .i64 0,.int .i64 0,.slice none 0 0,.slice none 0 0,.slice none 0 0] 29)) #[.slice qa ql qc,.int .i64 cv,.int .i64 ez,.int .i64 nv,.int .i64 sj,.slice aa al ac,.slice ma ml mc,.slice ca cl cc] 29;rwa [yE,yE] at this,hb0,by rw [yE,yE,yE];omega⟩)
 clear h qj hhd hb0 hf hss hcq ZZ hcm hcc BM
 go_enter Tryz.func34,Tryz.ntmps34
 have HM:=aA (RmL.nil (w.heap.size+3) (((w.alloc (.cells #[.slice qa ql qc,.int .i64 cv,.int .i64 ez,.int .i64 nv,.int .i64 sj,.slice aa al ac,.slice ma ml mc,.slice ca cl cc] 29)).alloc (.cells #[.slice none 0 0,.int .i64 0,.int .i64 0,.int .i64 0,.int .i64 0,.slice none 0 0,.slice none 0 0,.slice none 0 0] 29)).alloc (.cells #[.slice qa ql qc,.int .i64 cv,.int .i64 ez,.int .i64 nv,.int .i64 sj,.slice aa al ac,.slice ma ml mc,.slice ca cl cc] 29)))
 go_upto_region 2 with fail
 generalize ((w.alloc (.cells #[.slice qa ql qc,.int .i64 cv,.int .i64 ez,.int .i64 nv,.int .i64 sj,.slice aa al ac,.slice ma ml mc,.slice ca cl cc] 29)).alloc (.cells #[.slice none 0 0,.int .i64 0,.int .i64 0,.int .i64 0,.int .i64 0,.slice none 0 0,.slice none 0 0,.slice none 0 0] 29)).alloc (.cells #[.slice qa ql qc,.int .i64 cv,.int .i64 ez,.int .i64 nv,.int .i64 sj,.slice aa al ac,.slice ma ml mc,.slice ca cl cc] 29)=w3 at CP HM ⊢
 have hb1:=yA (yH _ w3) (.cells #[] 56)
 have QH:=aA (show ∀ad,qa=some ad→∀j u,(fD qs)[j]? = some u→(w3.alloc (.cells #[] 56)).cell? (ad.add j)=some u from fun ad he j u hj=>by
  have hr:=(((uH RQ).below (uH CP).b).below hb1)
  rcases hr.2 with e | ⟨b,off,e,_⟩
  ·have hl:=iE qs
   have h2:=(List.getElem?_eq_some_iff.1 hj).1
   have h3:=hr.1
   rw [hl] at h2
   omega
  ·obtain rfl:=Option.some.inj (he.symm.trans e)
   rw [e] at hr
   have:=rT hr j u hj
   rw [Lib.add_plain]
   exact this)
 have Hq:(w3.alloc (.cells #[] 56)).ownsRow w3.heap.size 56 4 (.slice (some ⟨w3.heap.size,0,none⟩) 0 0) 0 []:=rR w3
 have hll:(fD qs).length=ql*4:=by rw [iE,(uH RQ).1]
 have gy:=nT qs
 have cp1:=(uH CP).below hb1
 have a0:=cp1.r0.at 0
 simp at a0
 obtain ⟨i0,hi,hz0,hz1,hz2⟩:=info_parts Tryz.infoQ
 clear cp1
 go_wp2_with (at_builtin;refine eO _ rfl _ _ 24 rfl w3.heap.size 56 i0 (.agg #[.string ByteArray.empty,.string ByteArray.empty,.int .i64 0,.int .i64 0]) 4 48 Tryz.underlying24 hi hz0 hz1 hz2 rfl (by decide) _ _ _ rfl Hq qa ql qc (fD qs) rfl (uH RQN) hll (uH QH) gy ?c3 ?c4 ?c5 ?_)
 case c3=>unfold maxLen;omega
 case c4=>omega
 case c5=>simp
 intro v w4 Hy Hz _
 have QF:Bw w3 w4:=hb1.grown Hz (by simp) (fun k e=>by simp [Value.ownBlock] at e;omega)
 have ZO:oH (w.heap.size+3) w4 v qs:=by
  refine aG7 (B:=w3.heap.size) ?_ (uH CP).z
  unfold oH
  rw [←(uH RQ).1]
  simpa using Hy
 obtain ⟨qo,qd,rfl,QW,qz⟩:=oH.has ZO
 obtain ⟨nq,hnl⟩:∃n,qs.length=n:=⟨_,rfl⟩
 rw [hnl] at qz ⊢
 have HH0:=aA qz
 have Kv:=aA (RmL.cons (jW ZO) ((uH HM).below QF))
 have CPb:=aA ((uH CP).below QF)
 have HNL0:=aA hnl
 have FJ:=aA (show nq≤qd by omega)
 have d0:=(uH CPb).r2.at 0
 have f0:=(uH CPb).r2.f 0
 simp at d0
 clear Hy Hz Hq gy hll QH a0 qz ZO hb1 QF hnl QW hi hz0 hz1 hz2 CP
 go_upto_region 3 with fail
 have CP:=aA (show CpS w _ #[.slice qo nq qd,.int .i64 cv,.int .i64 ez,.int .i64 nv,.int .i64 sj,.slice aa al ac,.slice ma ml mc,.slice ca cl cc] (w4.setCell ⟨w.heap.size+2,0,none⟩ (.slice qo nq qd)) from (uH CPb).sc 0 (.slice qo nq qd))
 have Kk:=aA ((uH Kv).sc (w.heap.size+2) 0 (.slice qo nq qd))
 have WT:=aA ((uH HH0).sc (k:=w.heap.size+2) (j:=0) (v:=.slice qo nq qd) (by omega))
 generalize w4.setCell ⟨w.heap.size+2,0,none⟩ (.slice qo nq qd)=w5 at CP Kk WT  ⊢
 clear d0 f0 CPb HH0 i0 HM Kv
 have HM:=Kk
 clear Kk
 have HH0:=WT
 clear WT
 have hb1:=yA (yH _ w5) (.cells #[] 102)
 have QH:=aA (show ∀ad,ma=some ad→∀j u,(dR ms)[j]? = some u→(w5.alloc (.cells #[] 102)).cell? (ad.add j)=some u from fun ad he j u hj=>by
  have hr:=(((uH RM).below (uH CP).b).below hb1)
  rcases hr.2 with e | ⟨b,off,e,_⟩
  ·have hl:=iG ms
   have h2:=(List.getElem?_eq_some_iff.1 hj).1
   have h3:=hr.1
   rw [hl] at h2
   omega
  ·obtain rfl:=Option.some.inj (he.symm.trans e)
   rw [e] at hr
   have:=rV hr j u hj
   rw [Lib.add_plain]
   exact this)
 have Hq:(w5.alloc (.cells #[] 102)).ownsRow w5.heap.size 102 4 (.slice (some ⟨w5.heap.size,0,none⟩) 0 0) 0 []:=aAZ w5
 have hll:(dR ms).length=ml*4:=by rw [iG,(uH RM).1]
 have gy:=rW ms
 have cp1:=(uH CP).below hb1
 have a6:=cp1.r0.at 6
 simp at a6
 obtain ⟨i0,hi,hz0,hz1,hz2⟩:=info_parts Tryz.infoMachine
 clear cp1
 go_wp2_with (at_builtin;refine eO _ rfl _ _ 26 rfl w5.heap.size 102 i0 (.agg #[.string ByteArray.empty,.int .i64 0,.int .i64 0,.int .i64 0]) 4 40 Tryz.underlying26 hi hz0 hz1 hz2 rfl (by decide) _ _ _ rfl Hq ma ml mc (dR ms) rfl (uH RMN) hll (uH QH) gy ?c3 ?c4 ?c5 ?_)
 case c3=>unfold maxLen;omega
 case c4=>omega
 case c5=>simp
 intro v w6 Hy Hz _
 have QF:Bw w5 w6:=hb1.grown Hz (by simp) (fun k e=>by simp [Value.ownBlock] at e;omega)
 have ZO:aHv (w.heap.size+3) w6 v ms:=by
  refine xI (B:=w5.heap.size) ?_ (uH CP).z
  unfold aHv
  rw [←(uH RM).1]
  simpa using Hy
 obtain ⟨mo,md,rfl,QW,qz⟩:=aEc ZO
 obtain ⟨nm,hnl⟩:∃n,ms.length=n:=⟨_,rfl⟩
 rw [hnl] at qz ⊢
 have YN:=aA qz
 have Kv:=aA (RmL.cons (jW ZO) ((uH HM).below QF))
 have CPb:=aA ((uH CP).below QF)
 have HNL6:=aA hnl
 have FI:=aA (show nm≤md by omega)
 have vz:=aA ((uH HH0).below QF)
 have d6:=(uH CPb).r2.at 6
 have f6:=(uH CPb).r2.f 6
 simp at d6
 clear Hy Hz Hq gy hll QH a6 qz ZO hb1 QF hnl QW hi hz0 hz1 hz2 CP
 go_upto_region 4 with fail
 have CP:=aA (show CpS w _ #[.slice qo nq qd,.int .i64 cv,.int .i64 ez,.int .i64 nv,.int .i64 sj,.slice aa al ac,.slice mo nm md,.slice ca cl cc] (w6.setCell ⟨w.heap.size+2,6,none⟩ (.slice mo nm md)) from (uH CPb).sc 6 (.slice mo nm md))
 have Kk:=aA ((uH Kv).sc (w.heap.size+2) 6 (.slice mo nm md))
 have WS:=aA ((uH YN).sc (k:=w.heap.size+2) (j:=6) (v:=.slice mo nm md) (by omega))
 have Zv:=aA ((uH vz).sc (k:=w.heap.size+2) (j:=6) (v:=.slice mo nm md) (by omega))
 generalize w6.setCell ⟨w.heap.size+2,6,none⟩ (.slice mo nm md)=w7 at CP Kk WS Zv ⊢
 clear d6 f6 CPb YN i0 HM Kv HH0 vz
 have HM:=Kk
 clear Kk
 have HH0:=Zv
 clear Zv
 have YN:=WS
 clear WS
 have hb1:=yA (yH _ w7) (.cells #[] 52)
 have QH:=aA (show ∀ad,ca=some ad→∀j u,(aJ cs)[j]? = some u→(w7.alloc (.cells #[] 52)).cell? (ad.add j)=some u from fun ad he j u hj=>by
  have hr:=(((uH RC).below (uH CP).b).below hb1)
  rcases hr.2 with e | ⟨b,off,e,_⟩
  ·have hl:=bB cs
   have h2:=(List.getElem?_eq_some_iff.1 hj).1
   have h3:=hr.1
   rw [hl] at h2
   omega
  ·obtain rfl:=Option.some.inj (he.symm.trans e)
   rw [e] at hr
   have:=iJ hr j u hj
   rw [Lib.add_plain]
   exact this)
 have Hq:(w7.alloc (.cells #[] 52)).ownsRow w7.heap.size 52 5 (.slice (some ⟨w7.heap.size,0,none⟩) 0 0) 0 []:=aAg w7
 have hll:(aJ cs).length=cl*5:=by rw [bB,(uH RC).1]
 have gy:=jF cs
 have cp1:=(uH CP).below hb1
 have a7:=cp1.r0.at 7
 simp at a7
 obtain ⟨i0,hi,hz0,hz1,hz2⟩:=info_parts Tryz.infoCont
 clear cp1
 go_wp2_with (at_builtin;refine eO _ rfl _ _ 27 rfl w7.heap.size 52 i0 (.agg #[.int .i64 0,.int .i64 0,.string ByteArray.empty,.int .i64 0,.int .i64 0]) 5 48 Tryz.underlying27 hi hz0 hz1 hz2 rfl (by decide) _ _ _ rfl Hq ca cl cc (aJ cs) rfl (uH RCN) hll (uH QH) gy ?c3 ?c4 ?c5 ?_)
 case c3=>unfold maxLen;omega
 case c4=>omega
 case c5=>simp
 intro v w8 Hy Hz hnz
 have Sv:v≠.slice none 0 0:=hnz
 have QF:Bw w7 w8:=hb1.grown Hz (by simp) (fun k e=>by simp [Value.ownBlock] at e;omega)
 have ZO:zQ (w.heap.size+3) w8 v cs:=by
  refine aH3 (B:=w7.heap.size) ?_ (uH CP).z
  unfold zQ
  rw [←(uH RC).1]
  simpa using Hy
 obtain ⟨co,cd,rfl,QW,qz⟩:=wG ZO
 have Rk:=aA (show ∃g,co=some ⟨g,0,none⟩ from by
  rcases ZO.2 with ⟨e,_⟩ | ⟨g,cap,cur,e,_⟩
  ·exact absurd e Sv
  ·cases e;exact ⟨g,rfl⟩)
 clear Sv hnz
 obtain ⟨nc,hnl⟩:∃n,cs.length=n:=⟨_,rfl⟩
 rw [hnl] at qz ⊢
 have VM:=aA qz
 have Kv:=aA (RmL.cons (jW ZO) ((uH HM).below QF))
 have CPb:=aA ((uH CP).below QF)
 have HNL7:=aA hnl
 have FH:=aA (show nc≤cd by omega)
 have vz:=aA ((uH HH0).below QF)
 have fw:=aA ((uH YN).below QF)
 have d7:=(uH CPb).r2.at 7
 have f7:=(uH CPb).r2.f 7
 simp at d7
 clear Hy Hz Hq gy hll QH a7 qz ZO hb1 QF hnl QW hi hz0 hz1 hz2 CP
 go_upto_region 5 with fail
 have CP:=aA (show CpS w _ #[.slice qo nq qd,.int .i64 cv,.int .i64 ez,.int .i64 nv,.int .i64 sj,.slice aa al ac,.slice mo nm md,.slice co nc cd] (w8.setCell ⟨w.heap.size+2,7,none⟩ (.slice co nc cd)) from (uH CPb).sc 7 (.slice co nc cd))
 have Kk:=aA ((uH Kv).sc (w.heap.size+2) 7 (.slice co nc cd))
 have WR:=aA ((uH VM).sc (k:=w.heap.size+2) (j:=7) (v:=.slice co nc cd) (by omega))
 have Zv:=aA ((uH vz).sc (k:=w.heap.size+2) (j:=7) (v:=.slice co nc cd) (by omega))
 have WU:=aA ((uH fw).sc (k:=w.heap.size+2) (j:=7) (v:=.slice co nc cd) (by omega))
 generalize w8.setCell ⟨w.heap.size+2,7,none⟩ (.slice co nc cd)=w9 at CP Kk WR Zv WU ⊢
 clear d7 f7 CPb VM i0 HM Kv HH0 YN vz fw
 have HM:=Kk
 clear Kk
 have HH0:=Zv
 have YN:=WU
 clear Zv WU
 have VM:=WR
 clear WR
 have hb1:=yA (yH _ w9) (.cells #[] 48)
 have PO:=aA (show aBk w9.heap.size (w9.alloc (.cells #[] 48)) (.slice (some ⟨w9.heap.size,0,none⟩) 0 0) [] from aAQ w9)
 have CPb:=aA ((uH CP).below hb1)
 have Kv:=aA ((uH HM).below hb1)
 have Uy:=aA ((uH HH0).below hb1)
 have Uk:=aA ((uH YN).below hb1)
 have Uj:=aA ((uH VM).below hb1)
 have d5:=(uH CPb).r2.at 5
 have f5:=(uH CPb).r2.f 5
 simp at d5
 have YP:=(uH CP).z
 obtain ⟨g0,hg0⟩:∃g,w9.heap.size=g:=⟨_,rfl⟩
 have Mw:=aA hg0
 rw [hg0] at PO YP
 clear hb1 CP HH0 YN VM hg0 HM
 go_upto_region 6 with fail
 rw [uH Mw]
 have CP:=aA (show CpS w #[.slice qa ql qc,.int .i64 cv,.int .i64 ez,.int .i64 nv,.int .i64 sj,.slice aa al ac,.slice ma ml mc,.slice ca cl cc] #[.slice qo nq qd,.int .i64 cv,.int .i64 ez,.int .i64 nv,.int .i64 sj,.slice (some ⟨g0,0,none⟩) 0 0,.slice mo nm md,.slice co nc cd] ((w9.alloc (.cells #[] 48)).setCell ⟨w.heap.size+2,5,none⟩ (.slice (some ⟨g0,0,none⟩) 0 0)) from (uH CPb).sc 5 _)
 have HM:=aA ((uH Kv).sc (w.heap.size+2) 5 (.slice (some ⟨g0,0,none⟩) 0 0))
 have H0:=aA ((uH Uy).sc (k:=w.heap.size+2) (j:=5) (v:=.slice (some ⟨g0,0,none⟩) 0 0) (by omega))
 have H6:=aA ((uH Uk).sc (k:=w.heap.size+2) (j:=5) (v:=.slice (some ⟨g0,0,none⟩) 0 0) (by omega))
 have H7:=aA ((uH Uj).sc (k:=w.heap.size+2) (j:=5) (v:=.slice (some ⟨g0,0,none⟩) 0 0) (by omega))
 have PO2:=aA (wZ (aAP (uH PO) (w.heap.size+2) 5 (.slice (some ⟨g0,0,none⟩) 0 0) (by omega)) YP)
 generalize (w9.alloc (.cells #[] 48)).setCell ⟨w.heap.size+2,5,none⟩ (.slice (some ⟨g0,0,none⟩) 0 0)=w10 at CP HM H0 H6 H7 PO2 ⊢
 clear CPb Kv Uy Uk Uj d5 f5 PO YP
 go_wp2
 go_loopw [4] (fun i wr=>∃(k:Nat),k≤al∧i=.int .i64 k∧Hid (∃po pd ns,aBk (w.heap.size+3) wr (.slice po k pd) ns∧ns.length=k∧jI (w.heap.size+3) wr ns (aj.take k)∧RmL (w.heap.size+3) wr (RL4 co cd mo md qo qd ns)∧CpS w #[.slice qa ql qc,.int .i64 cv,.int .i64 ez,.int .i64 nv,.int .i64 sj,.slice aa al ac,.slice ma ml mc,.slice ca cl cc] #[.slice qo nq qd,.int .i64 cv,.int .i64 ez,.int .i64 nv,.int .i64 sj,.slice po k pd,.slice mo nm md,.slice co nc cd] wr)∧Hid (pQ (w.heap.size+3) wr qo nq qs)∧Hid (nO (w.heap.size+3) wr mo nm ms)∧Hid (kY (w.heap.size+3) wr co nc cs)) (fun i _=>al - (intOf i).toNat)
 case atStart=>exact ⟨0,Nat.zero_le _,rfl,aA ⟨some ⟨g0,0,none⟩,0,[],uH PO2,rfl,by simpa using jI.nil _ _,by simpa [RL4] using uH HM,uH CP⟩,H0,H6,H7⟩
 case round=>
  clear CP H0 H6 H7 PO2 HM
  obtain ⟨k,hk,rfl,HX,H0,H6,H7⟩:=hrel
  obtain ⟨po,pd,ns,hpo,hns,hkh,hrm,hcp⟩:=uH HX
  have HC:=aA hcp
  have jy:=aA hns
  have a5:=hcp.r0.at 5
  simp at a5
  by_cases hlt:k<al
  ·have hk0:k<hs0.length:=by have:=uH Z8;omega
   have hk1:k<aj.length:=by have:=(uH SH).1;omega
   obtain ⟨b,off,rfl,hat⟩:=((uH SV).below hcp.b).at hlt
   obtain ⟨c0,c1,c2⟩:=hat hk0
   obtain ⟨e0,e1,e2,e3⟩:=(uH SH).2 k hk0 hk1
   have hfa:=(uH HF).2.1.2 aj[k] (yM hk1)
   have Qk:=uH YD hs0[k] (yM hk0)
   obtain ⟨⟨ai,aq,ak⟩,hap⟩:∃a,aj[k]=a:=⟨_,rfl⟩
   obtain ⟨⟨vi,vq,va,vl,vc⟩,hv⟩:∃v,hs0[k]=v:=⟨_,rfl⟩
   have htk:aj.take (k+1)=aj.take k++[⟨ai,aq,ak⟩]:=by rw [List.take_succ_eq_append_getElem hk1,hap]
   rw [hap] at e0 e1 e2 hfa
   rw [hv] at c0 c1 c2 e0 e1 e2 e3 Qk
   simp only at c0 c1 c2 e0 e1 e2 e3 Qk
   subst e0 e1
   have HAD:=aA Qk
   clear Qk
   have hvl:vl≤1048576:=by have:=e2.1;have:ak.length≤1048576:=hfa.2.1;omega
   have Hw:=e2.below hcp.b
   have qw:=aA htk
   have HPO:=aA hpo
   have Mx:=aA hkh
   have HW:=aA (yA (yH _ wr) (.cells #[.int .i64 vi,.string (bs vq),.slice va vl vc] 48))
   have X0:=aA (hcp.below (uH HW))
   have XP:=aA (aAR hpo (uH HW))
   have XK:=aA (hkh.below (uH HW))
   have XM:=aA (hrm.below (uH HW))
   have Y0:=aA ((uH H0).below (uH HW))
   have Y6:=aA ((uH H6).below (uH HW))
   have Y7:=aA ((uH H7).below (uH HW))
   have XA:=aA (yD wr #[.int .i64 vi,.string (bs vq),.slice va vl vc] 48)
   have XR:=aA (Hw.below (uH HW))
   obtain ⟨ba,GG⟩:∃b,wr.heap.size=b:=⟨_,rfl⟩
   have ZC:=aA GG
   have RV:=aA (show ∀kk,(Value.slice po k pd).ownBlock=some kk→kk<ba from fun kk e=>by have:=(World.ownsRow.lt hpo kk e).2;omega)
   rw [GG] at XA
   have hzb:w.heap.size+3≤ba:=by have:=hcp.z;omega
   have k0:(0:Int)≤k:=by omega
   have k1:(k:Int)<al:=by omega
   clear hpo hkh hrm hcp hat hap hv htk Hw e3 hfa hk0 hk1 hns HX H0 H6 H7 GG
   go_upto_region 10 with fail
   rw [uH ZC]
   have XZ:=aA (show (wr.alloc (.cells #[.int .i64 vi,.string (bs vq),.slice va vl vc] 48)).heap.size=ba+1 by rw [yE,uH ZC])
   generalize wr.alloc (.cells #[.int .i64 vi,.string (bs vq),.slice va vl vc] 48)=W at X0 XP XK XM Y0 Y6 Y7 XA XR XZ ⊢
   clear HW HC HPO Mx c0 c1 c2 a5 e2
   have hb1:=yA (yH _ W) (.cells #[] 104)
   have QH:=aA (show ∀ad,va=some ad→∀j u,(cK ak)[j]? = some u→(W.alloc (.cells #[] 104)).cell? (ad.add j)=some u from fun ad he j u hj=>by
    have hr:=(uH XR).below hb1
    rcases hr.2 with e | ⟨b,off,e,_⟩
    ·have hl:=eQ ak
     have h2:=(List.getElem?_eq_some_iff.1 hj).1
     have h3:=hr.1
     rw [hl] at h2
     omega
    ·obtain rfl:=Option.some.inj (he.symm.trans e)
     rw [e] at hr
     have:=lV hr j u hj
     rw [Lib.add_plain]
     exact this)
   have Hq:(W.alloc (.cells #[] 104)).ownsRow W.heap.size 104 5 (.slice (some ⟨W.heap.size,0,none⟩) 0 0) 0 []:=sS W
   have hll:(cK ak).length=vl*5:=by rw [eQ,(uH XR).1]
   have gy:=oG ak
   have xa2:=((uH XA).below hb1).at 2
   simp at xa2
   obtain ⟨i0,hi,hz0,hz1,hz2⟩:=info_parts Tryz.infoA
   go_wp2_with (at_builtin;refine eO _ rfl _ _ 46 rfl W.heap.size 104 i0 (.agg #[.int .i64 0,.int .i64 0,.int .i64 0,.string ByteArray.empty,.int .i64 0]) 5 48 Tryz.underlying46 hi hz0 hz1 hz2 rfl (by decide) _ _ _ rfl Hq va vl vc (cK ak) rfl (uH HAD) hll (uH QH) gy ?c3 ?c4 ?c5 ?_)
   case c3=>unfold maxLen;omega
   case c4=>omega
   case c5=>simp
   intro v w11 Hy Hz _
   have QF:Bw W w11:=hb1.grown Hz (by simp) (fun k e=>by simp [Value.ownBlock] at e;omega)
   have ZO:tC W.heap.size w11 v ak:=by
    unfold tC
    rw [←(uH XR).1]
    simpa using Hy
   obtain ⟨no,nd,rfl,hnd,hnr,hno⟩:=aBf ZO
   obtain ⟨nl,hnl⟩:∃n,ak.length=n:=⟨_,rfl⟩
   have WJ:=aA hnl
   have WL:=aA hnd
   have MR:=aA hnr
   have Ux:=aA ((jW ZO).mono (show w.heap.size+3≤W.heap.size by have:=uH XZ;omega) (yJ _))
   have MS:=aA hno
   rw [hnl]
   have XI:=aA QF
   have XAb:=aA ((uH XA).below QF)
   have xd2:=(uH XAb).at 2
   have xf2:=(uH XAb).f 2
   simp at xd2
   clear Hy Hz Hq gy hll QH xa2 ZO hb1 QF hnl hnd hnr hno hi hz0 hz1 hz2
   go_upto_region 11 with fail
   have N2:Mks (fun k=>k=ba) w11 (w11.setCell ⟨ba,2,none⟩ (.slice no nl nd)):=Mks.one _ _ _ _ _ rfl
   have GV:Cel w11 48 ba 3:=⟨_,uH XAb,rfl⟩
   have X0n:=aA (show CpS w _ #[.slice qo nq qd,.int .i64 cv,.int .i64 ez,.int .i64 nv,.int .i64 sj,.slice po k pd,.slice mo nm md,.slice co nc cd] (w11.setCell ⟨ba,2,none⟩ (.slice no nl nd)) from by
    have hx:=(uH X0).below (uH XI)
    exact ⟨hx.r0.other _ _ _ (by omega),hx.r1.other _ _ _ (by omega),hx.r2.other _ _ _ (by omega),yC hx.b _ _ _ (by omega),by rw [dY];exact hx.z⟩)
   have XPn:=aA (show aBk (w.heap.size+3) (w11.setCell ⟨ba,2,none⟩ (.slice no nl nd)) (.slice po k pd) ns from ownsRow_setCell_other (aAR (uH XP) (uH XI)) (a:=⟨ba,2,none⟩) (fun e=>by have:=uH RV ba e;omega) _)
   have XKn:=aA (show jI (w.heap.size+3) (w11.setCell ⟨ba,2,none⟩ (.slice no nl nd)) (ns++[⟨vi,vq,no,nl,nd⟩]) (aj.take (k+1)) from by
    rw [uH qw,←uH WJ]
    exact ((uH XK).snoc (uH XI) (by have:=uH XZ;omega) vi vq no nd ak (uH WL) (uH MR) (uH MS)).sc (.inr ⟨_,_,GV,by decide⟩))
   have XMn:=aA (show RmL (w.heap.size+3) (w11.setCell ⟨ba,2,none⟩ (.slice no nl nd)) (RL4 co cd mo md qo qd (ns++[⟨vi,vq,no,nl,nd⟩])) from ((RmL.cons (uH Ux) ((uH XM).below (uH XI))).sub (aIP co cd mo md qo qd ns ⟨vi,vq,no,nl,nd⟩)).sc ba 2 _)
   have hr1:∀k,some ba=some k→∃N,Cel w11 48 k N:=fun k e=>⟨3,by rw [←Option.some.inj e];exact GV⟩
   have Y0n:=aA (((uH Y0).below (uH XI)).grown (wE w11 ba 2 (.slice no nl nd)) hr1 (by decide))
   have Y6n:=aA (((uH Y6).below (uH XI)).grown (wE w11 ba 2 (.slice no nl nd)) hr1 (by decide))
   have Y7n:=aA (((uH Y7).below (uH XI)).grown (wE w11 ba 2 (.slice no nl nd)) hr1 (by decide))
   have XAn:=aA (show Blk (w11.setCell ⟨ba,2,none⟩ (.slice no nl nd)) ba #[.int .i64 vi,.string (bs vq),.slice no nl nd] 48 from (uH XAb).set 2 _)
   generalize w11.setCell ⟨ba,2,none⟩ (.slice no nl nd)=w12 at X0n XPn XKn XMn Y0n Y6n Y7n XAn ⊢
   clear N2 GV hr1 xd2 xf2 XAb Ux XM X0 XP XK Y0 Y6 Y7 XA XR XZ XI MR MS WL WJ
   have hb2:=yA (yH _ w12) (.cells #[.int .i64 vi,.string (bs vq),.slice no nl nd] 48)
   have g5:=(uH X0n).r2.at 5
   have q0:=(uH XAn).at 0
   have q1:=(uH XAn).at 1
   have q2:=(uH XAn).at 2
   simp at g5 q0 q1 q2
   have hzz:=(uH X0n).z
   have Hq:w12.ownsRow (w.heap.size+3) 48 3 (.slice po k pd) k (cB ns):=by have:=uH XPn;unfold aBk at this;rwa [uH jy] at this
   have HOW:=aA Hq
   obtain ⟨i0,hi,hz0,hz1,hz2⟩:=info_parts Tryz.infoApp
   go_wp2_with (at_builtin;refine wpList_append_own _ rfl _ _ 25 rfl (w.heap.size+3) 48 i0 (.agg #[.int .i64 0,.string ByteArray.empty,.slice none 0 0]) 3 48 Tryz.underlying25 hi hz0 hz1 hz2 rfl (by decide) _ _ _ rfl (Hq.alloc _) ⟨w12.heap.size,0,none⟩ 1 1 (jP ⟨vi,vq,no,nl,nd⟩) rfl rfl ?c1 ?c2 ?c3 ?c4 ?c5 ?_)
   case c1=>exact World.news_of_block (yD w12 #[.int .i64 vi,.string (bs vq),.slice no nl nd] 48)
   case c2=>intro u hu;simp at hu;rcases hu with rfl | rfl | rfl<;>rfl
   case c3=>unfold maxLen;omega
   case c4=>omega
   case c5=>simp;omega
   intro v' w13 Hy Hz _
   obtain ⟨ng,ncap,rfl,_,_⟩:=World.ownsRow.form Hy (by omega)
   have hr2:∀kk,(Value.slice po k pd).ownBlock=some kk→w.heap.size≤kk∧∃N,Cel (w12.alloc (.cells #[.int .i64 vi,.string (bs vq),.slice no nl nd] 48)) 48 kk N:=fun kk e=>by
    have h1:=(World.ownsRow.lt (uH HOW) kk e).1
    obtain ⟨N,hc⟩:=qE (uH HOW) kk e
    exact ⟨by omega,N,hc.below hb2⟩
   have X0m:=aA (((uH X0n).below hb2).grown Hz hr2 (by decide))
   have Y0m:=aA (((uH Y0n).below hb2).grown Hz (fun kk e=>(hr2 kk e).2) (by decide))
   have Y6m:=aA (((uH Y6n).below hb2).grown Hz (fun kk e=>(hr2 kk e).2) (by decide))
   have Y7m:=aA (((uH Y7n).below hb2).grown Hz (fun kk e=>(hr2 kk e).2) (by decide))
   have XKm:=aA (((uH XKn).below hb2).grown Hz (fun kk e=>(hr2 kk e).2) (by decide))
   have XMm:=aA (((uH XMn).below hb2).grown Hz (fun kk e=>(hr2 kk e).2) (aJ8 co cd mo md qo qd _))
   have XPm:=aA (show aBk (w.heap.size+3) w13 (.slice (some ⟨ng,0,none⟩) (k+1) ncap) (ns++[⟨vi,vq,no,nl,nd⟩]) by
    unfold aBk
    rw [nV,List.length_append,uH jy]
    exact Hy)
   have d5:=(uH X0m).r2.at 5
   have f5:=(uH X0m).r2.f 5
   simp at d5
   clear Hq Hy Hz hr2 hb2 g5 q0 q1 q2 HOW X0n XPn XKn XMn Y0n Y6n Y7n XAn hi hz0 hz1 hz2
   go_wp2
   go_roundw
   case rel=>
    refine ⟨k+1,by omega,by go_num,aA ⟨some ⟨ng,0,none⟩,ncap,ns++[⟨vi,vq,no,nl,nd⟩],aAP (uH XPm) _ _ _ (by omega),by simp [uH jy],(uH XKm).sc (.inl (by omega)),(uH XMm).sc _ _ _,(uH X0m).sc 5 _⟩,aA ((uH Y0m).sc (by omega)),aA ((uH Y6m).sc (by omega)),aA ((uH Y7m).sc (by omega))⟩
   case measure=>simp [intOf];omega
  ·obtain rfl:k=al:=by omega
   have HC:=aA hcp
   have htk:aj.take k=aj:=List.take_of_length_le (by have:=(uH SH).1;have:=uH Z8;omega)
   have YI:=aA (jW hpo)
   have MJ:=aA hrm
   obtain ⟨_,_,e,hpc,xw⟩:=aE4 hpo
   rw [htk] at hkh
   rw [hns] at xw e hpc
   cases e
   have MP:=aA hpc
   have HP:=aA xw
   have HK:=aA hkh
   have k1:¬(k:Int)<k:=by omega
   have b0:=hcp.r2.at 0;have b1:=hcp.r2.at 1;have b2:=hcp.r2.at 2;have b3:=hcp.r2.at 3;have b4:=hcp.r2.at 4;have b5:=hcp.r2.at 5;have b6:=hcp.r2.at 6;have b7:=hcp.r2.at 7
   have c0:=hcp.r1.at 0;have c1:=hcp.r1.at 1;have c2:=hcp.r1.at 2;have c3:=hcp.r1.at 3;have c4:=hcp.r1.at 4;have c5:=hcp.r1.at 5;have c6:=hcp.r1.at 6;have c7:=hcp.r1.at 7
   have f0:=hcp.r1.f 0;have f1:=hcp.r1.f 1;have f2:=hcp.r1.f 2;have f3:=hcp.r1.f 3;have f4:=hcp.r1.f 4;have f5:=hcp.r1.f 5;have f6:=hcp.r1.f 6;have f7:=hcp.r1.f 7
   simp at b0 b1 b2 b3 b4 b5 b6 b7 c0 c1 c2 c3 c4 c5 c6 c7
   clear hpo hkh hrm hcp htk hlt hns xw HX hpc
   go_wp2
   have R9:=aA (show Blk ((((((((wr.setCell ⟨w.heap.size+1,0,none⟩ (.slice qo nq qd)).setCell ⟨w.heap.size+1,1,none⟩ (.int .i64 cv)).setCell ⟨w.heap.size+1,2,none⟩ (.int .i64 ez)).setCell ⟨w.heap.size+1,3,none⟩ (.int .i64 nv)).setCell ⟨w.heap.size+1,4,none⟩ (.int .i64 sj)).setCell ⟨w.heap.size+1,5,none⟩ (.slice po k pd)).setCell ⟨w.heap.size+1,6,none⟩ (.slice mo nm md)).setCell ⟨w.heap.size+1,7,none⟩ (.slice co nc cd)) (w.heap.size+1) #[.slice qo nq qd,.int .i64 cv,.int .i64 ez,.int .i64 nv,.int .i64 sj,.slice po k pd,.slice mo nm md,.slice co nc cd] 29 from (((((((((uH HC).r1.set 0 (.slice qo nq qd)).set 1 (.int .i64 cv)).set 2 (.int .i64 ez)).set 3 (.int .i64 nv)).set 4 (.int .i64 sj)).set 5 (.slice po k pd)).set 6 (.slice mo nm md)).set 7 (.slice co nc cd)))
   have Q9:=aA (((((((((uH H0).sc (k:=w.heap.size+1) (j:=0) (v:=.slice qo nq qd) (by omega)).sc (k:=w.heap.size+1) (j:=1) (v:=.int .i64 cv) (by omega)).sc (k:=w.heap.size+1) (j:=2) (v:=.int .i64 ez) (by omega)).sc (k:=w.heap.size+1) (j:=3) (v:=.int .i64 nv) (by omega)).sc (k:=w.heap.size+1) (j:=4) (v:=.int .i64 sj) (by omega)).sc (k:=w.heap.size+1) (j:=5) (v:=.slice po k pd) (by omega)).sc (k:=w.heap.size+1) (j:=6) (v:=.slice mo nm md) (by omega)).sc (k:=w.heap.size+1) (j:=7) (v:=.slice co nc cd) (by omega))
   have P9:=aA (((((((((uH HP).sc (k:=w.heap.size+1) (j:=0) (v:=.slice qo nq qd) (by omega)).sc (k:=w.heap.size+1) (j:=1) (v:=.int .i64 cv) (by omega)).sc (k:=w.heap.size+1) (j:=2) (v:=.int .i64 ez) (by omega)).sc (k:=w.heap.size+1) (j:=3) (v:=.int .i64 nv) (by omega)).sc (k:=w.heap.size+1) (j:=4) (v:=.int .i64 sj) (by omega)).sc (k:=w.heap.size+1) (j:=5) (v:=.slice po k pd) (by omega)).sc (k:=w.heap.size+1) (j:=6) (v:=.slice mo nm md) (by omega)).sc (k:=w.heap.size+1) (j:=7) (v:=.slice co nc cd) (by omega))
   have K9:=aA (((((((((uH HK).sc (k:=w.heap.size+1) (j:=0) (v:=.slice qo nq qd) (.inl (by omega))).sc (k:=w.heap.size+1) (j:=1) (v:=.int .i64 cv) (.inl (by omega))).sc (k:=w.heap.size+1) (j:=2) (v:=.int .i64 ez) (.inl (by omega))).sc (k:=w.heap.size+1) (j:=3) (v:=.int .i64 nv) (.inl (by omega))).sc (k:=w.heap.size+1) (j:=4) (v:=.int .i64 sj) (.inl (by omega))).sc (k:=w.heap.size+1) (j:=5) (v:=.slice po k pd) (.inl (by omega))).sc (k:=w.heap.size+1) (j:=6) (v:=.slice mo nm md) (.inl (by omega))).sc (k:=w.heap.size+1) (j:=7) (v:=.slice co nc cd) (.inl (by omega)))
   have M9:=aA (((((((((uH H6).sc (k:=w.heap.size+1) (j:=0) (v:=.slice qo nq qd) (by omega)).sc (k:=w.heap.size+1) (j:=1) (v:=.int .i64 cv) (by omega)).sc (k:=w.heap.size+1) (j:=2) (v:=.int .i64 ez) (by omega)).sc (k:=w.heap.size+1) (j:=3) (v:=.int .i64 nv) (by omega)).sc (k:=w.heap.size+1) (j:=4) (v:=.int .i64 sj) (by omega)).sc (k:=w.heap.size+1) (j:=5) (v:=.slice po k pd) (by omega)).sc (k:=w.heap.size+1) (j:=6) (v:=.slice mo nm md) (by omega)).sc (k:=w.heap.size+1) (j:=7) (v:=.slice co nc cd) (by omega))
   have C9:=aA (((((((((uH H7).sc (k:=w.heap.size+1) (j:=0) (v:=.slice qo nq qd) (by omega)).sc (k:=w.heap.size+1) (j:=1) (v:=.int .i64 cv) (by omega)).sc (k:=w.heap.size+1) (j:=2) (v:=.int .i64 ez) (by omega)).sc (k:=w.heap.size+1) (j:=3) (v:=.int .i64 nv) (by omega)).sc (k:=w.heap.size+1) (j:=4) (v:=.int .i64 sj) (by omega)).sc (k:=w.heap.size+1) (j:=5) (v:=.slice po k pd) (by omega)).sc (k:=w.heap.size+1) (j:=6) (v:=.slice mo nm md) (by omega)).sc (k:=w.heap.size+1) (j:=7) (v:=.slice co nc cd) (by omega))
   have B9:=aA (yC (yC (yC (yC (yC (yC (yC (yC (uH HC).b (w.heap.size+1) 0 (.slice qo nq qd) (by omega)) (w.heap.size+1) 1 (.int .i64 cv) (by omega)) (w.heap.size+1) 2 (.int .i64 ez) (by omega)) (w.heap.size+1) 3 (.int .i64 nv) (by omega)) (w.heap.size+1) 4 (.int .i64 sj) (by omega)) (w.heap.size+1) 5 (.slice po k pd) (by omega)) (w.heap.size+1) 6 (.slice mo nm md) (by omega)) (w.heap.size+1) 7 (.slice co nc cd) (by omega))
   have N9:=aA (((((((((uH MJ).sc (w.heap.size+1) 0 (.slice qo nq qd)).sc (w.heap.size+1) 1 (.int .i64 cv)).sc (w.heap.size+1) 2 (.int .i64 ez)).sc (w.heap.size+1) 3 (.int .i64 nv)).sc (w.heap.size+1) 4 (.int .i64 sj)).sc (w.heap.size+1) 5 (.slice po k pd)).sc (w.heap.size+1) 6 (.slice mo nm md)).sc (w.heap.size+1) 7 (.slice co nc cd))
   have L9:=aA (l6 (l6 (l6 (l6 (l6 (l6 (l6 (l6 (uH YI) (w.heap.size+1) 0 (.slice qo nq qd)) (w.heap.size+1) 1 (.int .i64 cv)) (w.heap.size+1) 2 (.int .i64 ez)) (w.heap.size+1) 3 (.int .i64 nv)) (w.heap.size+1) 4 (.int .i64 sj)) (w.heap.size+1) 5 (.slice po k pd)) (w.heap.size+1) 6 (.slice mo nm md)) (w.heap.size+1) 7 (.slice co nc cd))
   generalize ((((((((wr.setCell ⟨w.heap.size+1,0,none⟩ (.slice qo nq qd)).setCell ⟨w.heap.size+1,1,none⟩ (.int .i64 cv)).setCell ⟨w.heap.size+1,2,none⟩ (.int .i64 ez)).setCell ⟨w.heap.size+1,3,none⟩ (.int .i64 nv)).setCell ⟨w.heap.size+1,4,none⟩ (.int .i64 sj)).setCell ⟨w.heap.size+1,5,none⟩ (.slice po k pd)).setCell ⟨w.heap.size+1,6,none⟩ (.slice mo nm md)).setCell ⟨w.heap.size+1,7,none⟩ (.slice co nc cd))=W9 at R9 Q9 P9 K9 M9 C9 B9 N9 L9 ⊢
   obtain ⟨z0,z1,z2,z3,z4,z5,z6,z7⟩:=zq (uH R9)
   refine bodyPost_ret (v:=.agg #[.slice qo nq qd,.int .i64 cv,.int .i64 ez,.int .i64 nv,.int .i64 sj,.slice po k pd,.slice mo nm md,.slice co nc cd]) (by simp [results,Tryz.results34,go_sem,z0,z1,z2,z3,z4,z5,z6,z7]) rfl (show aEz w _ _ _ from ⟨⟨qo,nq,qd,po,k,pd,mo,nm,md,co,nc,cd⟩,ns,rfl,?_,uH B9,uH Rk⟩)
   exact (aDV (x:=⟨qo,nq,qd,po,k,pd,mo,nm,md,co,nc,cd⟩) (s:=⟨qs,cv,ez,nv,sj,aj,ms,cs⟩) (uH Q9) (uH P9) (uH K9) (uH M9) (uH C9) ⟨uH FJ,uH MP,uH FI,uH FH⟩ (aJH (uH N9) (uH L9))).mono (by omega) (yJ _)
theorem rA.keep (h:rA B E w x s hs) (hk:∀k,B≤k→k<E→w'.heap[k]? = w.heap[k]?):rA B E w' x s hs:=by
 have key:∀{t:TypeId} {sz n:Nat} {ao:Option Addr},dS B E w t sz ao n→(∀k,inR ao n k→w'.heap[k]? = w.heap[k]?)∧dS B E w' t sz ao n:=fun ho=>by
  refine ⟨fun k hi=>?_,?_⟩
  ·obtain ⟨h1,h2,_⟩:=ho.lies k hi
   exact hk k h1 h2
  ·rcases ho with e | ⟨g,M,e,h1,h2,h3,h4⟩
   ·exact .inl e
   ·exact .inr ⟨g,M,e,h1,h2,h3.of_block (hk g h1 h2),h4⟩
 have hh:jJ w' hs s.apps:=⟨h.heads.1,fun i h1 h2=>by
  obtain ⟨a,b,c,d⟩:=h.heads.2 i h1 h2
  exact ⟨a,b,c.kept (key (h.asks _ (yM h1))).1,d⟩⟩
 have qj:=h.av.kept (key h.a).1
 exact ⟨⟨h.row.1.kept (key h.q).1,aEB qj hh,h.row.2.2.1.kept (key h.m).1,h.row.2.2.2.kept (key h.c).1⟩,(key h.q).2,(key h.a).2,(key h.m).2,(key h.c).2,qj,hh,fun v hv=>(key (h.asks v hv)).2,h.apart,h.cap,h.rm.map (fun o=>(key o).2)⟩
structure aFB (B E:Nat) (w:World) (g:Nat) (y:Sls) (s:St) (hs:List AV) (go:Option Addr) (gn:Nat) (gone:List Con):Prop where
 box:Blk w g (svc y s) 29
 a:rA B E w y s hs
 c:bG w go gn gone
 co:dS B E w 52 5 go gn
 ap:∀k,inR go gn k→¬inR y.ca y.cl k
 ge:E≤g
theorem aFB.below (h:aFB B E w g y s hs go gn gone) (hb:Bw w w'):aFB B E w' g y s hs go gn gone:=
 ⟨h.box.below hb,h.a.below hb,h.c.below hb,h.co.below hb,h.ap,h.ge⟩
theorem aFB.al (h:aFB B E w g y s hs go gn gone) (o:Obj):aFB B E (w.alloc o) g y s hs go gn gone:=h.below (yA (yH _ _) o)
theorem aFB.keep (h:aFB B E w g y s hs go gn gone) (hk:∀k,B≤k→k<E→w'.heap[k]? = w.heap[k]?) (hg:w'.heap[g]? = w.heap[g]?):aFB B E w' g y s hs go gn gone:=by
 refine ⟨hg.trans h.box,h.a.keep hk,h.c.kept (fun k hi=>?_),?_,h.ap,h.ge⟩
 ·obtain ⟨h1,h2,_⟩:=h.co.lies k hi
  exact hk k h1 h2
 ·rcases h.co with e | ⟨b,M,e,h1,h2,h3,h4⟩
  ·exact .inl e
  ·exact .inr ⟨b,M,e,h1,h2,h3.of_block (hk b h1 h2),h4⟩
theorem aFB.read (h:aFB B E w g y s hs go gn gone):w.cell? ⟨g,0,none⟩=some (.slice y.qa y.ql y.qc)∧w.cell? ⟨g,1,none⟩=some (.int .i64 s.clock)∧w.cell? ⟨g,2,none⟩=some (.int .i64 s.epoch)∧w.cell? ⟨g,3,none⟩=some (.int .i64 s.next)∧w.cell? ⟨g,4,none⟩=some (.int .i64 s.serial)∧w.cell? ⟨g,5,none⟩=some (.slice y.aa y.al y.ac)∧w.cell? ⟨g,6,none⟩=some (.slice y.ma y.ml y.mc)∧w.cell? ⟨g,7,none⟩=some (.slice y.ca y.cl y.cc):=
 ⟨h.box.at 0,h.box.at 1,h.box.at 2,h.box.at 3,h.box.at 4,h.box.at 5,h.box.at 6,h.box.at 7⟩
structure aKt (B E:Nat) (w:World) (x:Sls) (hs:List AV):Prop where
 q:dS B E w 56 4 x.qa x.ql
 a:dS B E w 48 3 x.aa x.al
 m:dS B E w 102 4 x.ma x.ml
 c:dS B E w 52 5 x.ca x.cl
 k:∀v ∈ hs,dS B E w 104 5 v.ao v.len
theorem rA.own (h:rA B E w x s hs):aKt B E w x hs:=⟨h.q,h.a,h.m,h.c,h.asks⟩
theorem aKt.mks (h:aKt B E w x hs) (hm:Mks S w w'):aKt B E w' x hs:=⟨h.q.mks hm,h.a.mks hm,h.m.mks hm,h.c.mks hm,fun v hv=>(h.k v hv).mks hm⟩
structure aL6 (B E:Nat) (w:World) (g:Nat) (y:Sls) (s:St) (hs:List AV) (go:Option Addr) (gn:Nat):Prop where
 box:Blk w g (svc y s) 29
 m:SMk w y hs
 own:aKt B E w y hs
 co:dS B E w 52 5 go gn
 ap:∀k,inR go gn k→¬inR y.ca y.cl k
 ge:E≤g
theorem aL6.read (h:aL6 B E w g y s hs go gn):w.cell? ⟨g,0,none⟩=some (.slice y.qa y.ql y.qc):=h.box.at 0
structure aJX (w:World) (g:Nat) (y:Sls) (s:St) (hs:List AV) (go:Option Addr) (gn:Nat):Prop where
 box:Blk w g (svc y s) 29
 m:SMk w y hs
 c:bG w go gn (aJP (aLc y hs) gn)
theorem aJX.below (h:aJX w g y s hs go gn) (hb:Bw w w'):aJX w' g y s hs go gn:=⟨h.box.below hb,h.m.below hb,h.c.below hb⟩
theorem aJX.al (h:aJX w g y s hs go gn) (o:Obj):aJX (w.alloc o) g y s hs go gn:=h.below (yA (yH _ _) o)
theorem aJX.read (h:aJX w g y s hs go gn):w.cell? ⟨g,0,none⟩=some (.slice y.qa y.ql y.qc)∧w.cell? ⟨g,1,none⟩=some (.int .i64 s.clock)∧w.cell? ⟨g,2,none⟩=some (.int .i64 s.epoch)∧w.cell? ⟨g,3,none⟩=some (.int .i64 s.next)∧w.cell? ⟨g,4,none⟩=some (.int .i64 s.serial)∧w.cell? ⟨g,5,none⟩=some (.slice y.aa y.al y.ac)∧w.cell? ⟨g,6,none⟩=some (.slice y.ma y.ml y.mc)∧w.cell? ⟨g,7,none⟩=some (.slice y.ca y.cl y.cc):=
 ⟨h.box.at 0,h.box.at 1,h.box.at 2,h.box.at 3,h.box.at 4,h.box.at 5,h.box.at 6,h.box.at 7⟩
theorem aFB.off {B' E':Nat} (h:aFB B E w g y s hs go gn gone) (hm:Mks S w w') (hS:∀k,S k→B'≤k∧k<E') (h1:g<B'∨E'≤B) (h2:g<B'∨E'≤g):aFB B E w' g y s hs go gn gone:=
 h.keep (fun k hk1 hk2=>hm.block k (by have:=h.box.lt;have:=h.ge;omega) (fun hs=>by have:=hS k hs;have:=h.ge;omega)) (hm.block g h.box.lt (fun hs=>by have:=hS g hs;omega))
end
section
open Go.RowKit Go.Maps
theorem aAk {w w':World} {g:Nat} {arr:Array Value} {t:TypeId} {r:Option Nat} (h:Blk w g arr t) (hg:w.grownBy w' r) (hn:some g≠r):Blk w' g arr t:=(hg.block g h.lt hn).trans h
theorem aCB (x:Sls) (s:St) (hs0:List AV) (id:Int) (w:World) (h:gU w x s) (qj:fK w x.aa x.al hs0) (hhd:jJ w hs0 s.apps) (hss:aED x hs0) (hf:dI s) :
  cP 88 #[sv x s,.int .i64 id] w fun e w'=>∃v,e=.returned (.tuple #[.agg #[.int .i64 (jA s id).1.id,.string (bs (jA s id).1.queue),v],.bool (jA s id).2])∧Hid (tC w.heap.size w' v (jA s id).1.asks∧Bw w w'):=by
 obtain ⟨i0,hi,hz0,hz1,hz2⟩:=info_parts Tryz.infoA
 have hal:x.al≤1048576:=by have h1:x.al=s.apps.length:=h.len.2.1;have:=hf.2.1.1;omega
 have CA:=aA (fun wx (hb:Bw w wx)=>sH x s id wx (h.2.1.below hb) hal)
 have WV:=aA (zH id s.apps)
 have HR:=aA qj
 have HL:=aA h.len.2.1
 have HA:=aA hhd
 have YD:=aA hss.k
 have zw:=aA hf.2.1
 have xx:=aA (show jA s id=match bH id s.apps with | none=>(⟨0,[],[]⟩,false) | some a=>(a,true) from rfl)
 obtain ⟨⟨⟨vi,vq,aas⟩,fo⟩,hap⟩:∃r,jA s id=r:=⟨_,rfl⟩
 rw [hap] at xx ⊢
 clear h hf qj hhd hss hap
 obtain ⟨qs,cv,ez,nv,sj,aj,ms,cs⟩:=s
 obtain ⟨qa,ql,qc,aa,al,ac,ma,ml,mc,ca,cl,cc⟩:=x
 simp only at CA WV HR HL HA zw xx hal ⊢
 have HB0:=aA (aAl w (svc ⟨qa,ql,qc,aa,al,ac,ma,ml,mc,ca,cl,cc⟩ ⟨qs,cv,ez,nv,sj,aj,ms,cs⟩))
 have V0:=aA (aEx w (svc ⟨qa,ql,qc,aa,al,ac,ma,ml,mc,ca,cl,cc⟩ ⟨qs,cv,ez,nv,sj,aj,ms,cs⟩))
 have P0:=aA (aIv w (svc ⟨qa,ql,qc,aa,al,ac,ma,ml,mc,ca,cl,cc⟩ ⟨qs,cv,ez,nv,sj,aj,ms,cs⟩))
 go_enter Tryz.func88,Tryz.ntmps88
 go_wp2_with fail
 refine (uH CA _ (uH HB0)).mono ?_
 rintro e w1 ⟨rfl,hb⟩
 have HB1:=aA (yB (uH HB0) hb)
 have V1:=aA ((uH V0).below hb)
 have P1:=aA ((uH P0).below hb)
 have hs1:w.heap.size+1+1≤w1.heap.size:=by have:=hb.size;rw [aCx] at this;exact this
 clear hb CA HB0 V0 P0
 have t0:=(uH V1).at 0
 have t1:=(uH V1).at 1
 have t2:=(uH V1).at 2
 have tf0:=(uH V1).f 0
 have tf1:=(uH V1).f 1
 have tf2:=(uH V1).f 2
 simp at t0 t1 t2
 rcases uH WV with ⟨hf1,hf2⟩ | ⟨j,hj,hf1,hf2⟩
 ·rw [hf2]
  rw [hf1] at xx
  have hz:=uH xx
  simp only [Prod.mk.injEq,bN.mk.injEq] at hz
  obtain ⟨⟨rfl,rfl,rfl⟩,rfl⟩:=hz
  clear hf1 hf2 WV
  go_wp2
  have X1:=(((uH V1).set 0 (.int .i64 0)).set 1 (.string { data:=#[] })).set 2 (.slice none 0 0)
  have x0:=X1.at 0
  have x1:=X1.at 1
  have x2:=X1.at 2
  simp at x0 x1 x2
  refine bodyPost_ret (v:=.tuple #[.agg #[.int .i64 0,.string { data:=#[] },.slice none 0 0],.bool false]) (by simp [results,Tryz.results88,go_sem,x0,x1,x2]) rfl ⟨_,rfl,aA ⟨aBe _ _,?_⟩⟩
  exact yC (yC (yC (uH HB1) _ _ _ (by omega)) _ _ _ (by omega)) _ _ _ (by omega)
 ·rw [hf2]
  rw [hf1] at xx
  have hz:=uH xx
  simp only [Prod.mk.injEq] at hz
  obtain ⟨hza,rfl⟩:=hz
  have hjl:j<al:=by have:=uH HL;omega
  have hjs:j<hs0.length:=by have:=(uH HA).1;omega
  obtain ⟨bb,off,rfl,hq⟩:=((uH HR).below (uH HB1)).at hjl
  obtain ⟨c0,c1,c2⟩:=hq hjs
  have Qk:=uH YD _ (yM hjs)
  obtain ⟨e0,e1,e2,-⟩:=(uH HA).2 j hjs hj
  obtain ⟨⟨vi,vq,va,vl,vc⟩,hv⟩:∃v,hs0[j]=v:=⟨_,rfl⟩
  rw [hv] at c0 c1 c2 e0 e1 e2 Qk
  simp only at c0 c1 c2 e0 e1 e2 Qk
  have Hw:=e2.below (uH HB1)
  have HAD:=aA Qk
  have hfa:=(uH zw).2 _ (yM hj)
  rw [←hza] at e0 e1 Hw hfa
  simp only at e0 e1 Hw
  subst e0 e1
  clear Qk hv e2 hjs
  have gz:vl≤1048576:=by have h1:=Hw.1;have h2:=hfa.2.1;simp only at h2;omega
  have hb1:=yA (yA (yH _ w1) (.cells #[.int .i64 vi,.string (bs vq),.slice va vl vc] 48)) (.cells #[] 104)
  have Gz:∀ad,va=some ad→∀j u,(cK aas)[j]? = some u→((w1.alloc (.cells #[.int .i64 vi,.string (bs vq),.slice va vl vc] 48)).alloc (.cells #[] 104)).cell? (ad.add j)=some u:=fun ad he j u hj=>by
   have hr:=Hw.below hb1
   rcases hr.2 with e | ⟨b,off,e,_⟩
   ·have hl:=eQ aas
    have h2:=(List.getElem?_eq_some_iff.1 hj).1
    have h3:=hr.1
    rw [hl] at h2
    omega
   ·subst e
    obtain rfl:=Option.some.inj he
    have:=lV hr j u hj
    rw [Lib.add_plain]
    exact this
  have hll:(cK aas).length=vl*5:=by rw [eQ,Hw.1]
  have gy:=oG aas
  have Hq:((w1.alloc (.cells #[.int .i64 vi,.string (bs vq),.slice va vl vc] 48)).alloc (.cells #[] 104)).ownsRow (w1.heap.size+1) 104 5 (.slice (some ⟨w1.heap.size+1,0,none⟩) 0 0) 0 []:=by
   have:=sS (w1.alloc (.cells #[.int .i64 vi,.string (bs vq),.slice va vl vc] 48))
   rwa [yE] at this
  have QH:=aA Gz
  have Q6:=aA Hw.1
  have HA1:=aA ((yD w1 #[.int .i64 vi,.string (bs vq),.slice va vl vc] 48).al (.cells #[] 104))
  have GH:=aA (((uH V1).al (.cells #[.int .i64 vi,.string (bs vq),.slice va vl vc] 48)).al (.cells #[] 104))
  have HB2:=aA (yA (yA (uH HB1) (.cells #[.int .i64 vi,.string (bs vq),.slice va vl vc] 48)) (.cells #[] 104))
  have p5:=(uH P1).at 5
  simp at p5
  have j0:(0:Int)≤j:=by omega
  have j1:(j:Int)<al:=by omega
  clear hf1 hf2 WV hq Hw hb1 hfa hza Gz YD V1 HB1 t0 t1 t2 tf0 tf1 tf2 xx P1 hj HR HL HA zw
  go_wp2_with (at_builtin;refine eO _ rfl _ _ 46 rfl (w1.heap.size+1) 104 i0 (.agg #[.int .i64 0,.int .i64 0,.int .i64 0,.string ByteArray.empty,.int .i64 0]) 5 48 Tryz.underlying46 hi hz0 hz1 hz2 rfl (by decide) _ _ _ rfl Hq va vl vc (cK aas) rfl (uH HAD) hll (uH QH) gy ?c3 ?c4 ?c5 ?_)
  case c3=>unfold maxLen;omega
  case c4=>omega
  case c5=>simp
  intro v' w3 Hy Hz _
  have ho:tC (w1.heap.size+1) w3 v' aas:=by
   unfold tC
   rw [←uH Q6]
   simpa using Hy
  have HO:=aA ho
  have HA2:=aA (aAk (uH HA1) Hz (by simp [Value.ownBlock]))
  have GI:=aA (aAk (uH GH) Hz (by simp [Value.ownBlock];omega))
  have HB3:=aA (show Bw w w3 from (uH HB2).grown Hz (by simp;omega) (fun k e=>by simp [Value.ownBlock] at e;omega))
  obtain ⟨yo,yc,rfl,_⟩:=ho.row
  obtain ⟨n,hnn⟩:∃n,aas.length=n:=⟨_,rfl⟩
  rw [hnn] at HO ⊢
  clear Hy Hz Hq gy hll ho hnn Q6 QH HA1 GH HB2 p5 c0 c1 c2
  have t0:=(uH GI).at 0
  have t1:=(uH GI).at 1
  have t2:=(uH GI).at 2
  have tf0:=(uH GI).f 0
  have tf1:=(uH GI).f 1
  have tf2:=(uH GI).f 2
  have a0:=(uH HA2).at 0
  have a1:=(uH HA2).at 1
  have a2:=(uH HA2).at 2
  have af2:=(uH HA2).f 2
  simp at t0 t1 t2 a0 a1 a2
  go_wp2
  have X1:=((((uH GI).other w1.heap.size 2 (.slice yo n yc) (by omega)).set 0 (.int .i64 vi)).set 1 (.string (bs vq))).set 2 (.slice yo n yc)
  have x0:=X1.at 0
  have x1:=X1.at 1
  have x2:=X1.at 2
  simp at x0 x1 x2
  refine bodyPost_ret (v:=.tuple #[.agg #[.int .i64 vi,.string (bs vq),.slice yo n yc],.bool true]) (by simp [results,Tryz.results88,go_sem,x0,x1,x2]) rfl ⟨_,rfl,aA ⟨?_,?_⟩⟩
  ·exact (((((uH HO).other3 w1.heap.size 2 (.slice yo n yc) (by omega)).other3 (w.heap.size+1) 0 (.int .i64 vi) (by omega)).other3 (w.heap.size+1) 1 (.string (bs vq)) (by omega)).other3 (w.heap.size+1) 2 (.slice yo n yc) (by omega)).base (by omega)
  ·exact yC (yC (yC (yC (uH HB3) _ _ _ (by omega)) _ _ _ (by omega)) _ _ _ (by omega)) _ _ _ (by omega)
end
end Go.Proofs.YtngkddhcmfbjnaaGreat
