/-
  bI in one: CopySt, GrowS, CopyS, TakB, StEnd, AnsW, StBx.
-/
import Derived.Test.YtdhibeclkdepiaaGreatPackU
import Derived.Laws.Rows
import Derived.Test.YtdhibeclkdepiaaGreatPackR
set_option maxRecDepth 100000
set_option maxHeartbeats 16000000
set_option linter.unusedVariables false
set_option linter.unusedSimpArgs false
namespace Go.Proofs.YtdhibeclkdepiaaGreat
section
open Go.RowKit
theorem oN.blk {B n k:Nat} {w:World} {ao:Option Addr} {l:List AV} (h:oN B w ao n l) (hk:k<n):∃g M,ao=some ⟨g,0,none⟩∧B≤g∧g<w.heap.size∧jU w g M l:=by
 obtain ⟨⟨h1,h2⟩,h3⟩:=h
 rcases h3 with e | ⟨g,M,rfl,hB,hE,hc,hn⟩
 ·omega
 ·rcases h2 with e | ⟨b,off,e,hh⟩
  ·omega
  ·cases e
   exact ⟨g,M,rfl,hB,hE,hc,by omega,fun i hi=>by have:=hh i hi;rwa [Nat.zero_add] at this⟩
theorem jU.asks {w:World} {g M i:Nat} {l:List AV} (h:jU w g M l) (hi:i<l.length) (ao:Option Addr) (len cap:Nat):jU (w.setCell ⟨g,i*3+2,none⟩ (.slice ao len cap)) g M (l.set i ⟨l[i].id,l[i].queue,ao,len,cap⟩):=by
 refine ⟨h.1.set _ _ _,by simpa using h.2.1,fun j hj=>?_⟩
 have hj':j<l.length:=by simpa using hj
 obtain ⟨a,b,c⟩:=h.2.2 j hj'
 by_cases e:i=j
 ·subst e
  simp only [List.getElem_set_self]
  exact ⟨bB a (by omega),bB b (by omega),World.cell?_setCell_same _ ⟨g,i*3+2,none⟩ _ c⟩
 ·rw [List.getElem_set_ne e]
  exact ⟨bB a (by omega),bB b (by omega),bB c (by omega)⟩
theorem jU.has {B w g M n l} (h:jU w g M l) (hB:B≤g) (hn:n=l.length):oN B w (some ⟨g,0,none⟩) n l:=by
 subst hn
 exact ⟨h.row,.inr ⟨g,M,rfl,hB,h.1.lt,h.1,h.2.1⟩⟩
structure aHc (w:World) (arr:Array Value) (qo:Option Addr) (qs:List Q) (po:Option Addr) (n2:Nat) (ns:List AV) (apps:List dB) (wr:World):Prop where
 r0:Blk wr w.heap.size arr 34
 r1:Blk wr (w.heap.size+1) #[.slice none 0 0,.int .i64 0,.int .i64 0,.int .i64 0,.int .i64 0,.slice none 0 0,.slice none 0 0,.slice none 0 0] 34
 q:tX (w.heap.size+2) wr qo qs.length qs
 p:oN (w.heap.size+2) wr po n2 ns
 k:kD (w.heap.size+2) wr ns apps
 b:Below w.heap.size w wr
 z:w.heap.size+2≤wr.heap.size
theorem aHc.below {w:World} {arr:Array Value} {qo:Option Addr} {qs:List Q} {po:Option Addr} {n2:Nat} {ns:List AV} {apps:List dB} {wr wy:World} (h:aHc w arr qo qs po n2 ns apps wr) (hb:Below wr.heap.size wr wy):aHc w arr qo qs po n2 ns apps wy:=
 ⟨h.r0.below hb,h.r1.below hb,h.q.below hb,h.p.below hb,h.k.below hb,yB h.b hb,Nat.le_trans h.z hb.size⟩
theorem aHc.sc {w:World} {arr:Array Value} {qo:Option Addr} {qs:List Q} {po:Option Addr} {n2:Nat} {ns:List AV} {apps:List dB} {wr:World} (h:aHc w arr qo qs po n2 ns apps wr) (j:Nat) (v:Value):aHc w (arr.setIfInBounds j v) qo qs po n2 ns apps (wr.setCell ⟨w.heap.size,j,none⟩ v):=
 ⟨h.r0.set j v,h.r1.other _ _ _ (by omega),h.q.sc (by omega),h.p.sc (by omega),h.k.sc (.inl (by omega)),yC h.b _ _ _ (Nat.le_refl _),by rw [bE];exact h.z⟩
theorem tH.blk {B n k:Nat} {w:World} {ao:Option Addr} {l:List Mac} (h:tH B w ao n l) (hk:k<n):∃g,ao=some ⟨g,0,none⟩∧B≤g∧g<w.heap.size∧(∀j,w.frozen? ⟨g,j,none⟩=false)∧∀i (hi:i<l.length),nN w g (i*4) l[i]:=by
 obtain ⟨⟨h1,h2⟩,h3⟩:=h
 rcases h3 with e | ⟨g,M,rfl,hB,hE,hc,hn⟩
 ·omega
 ·rcases h2 with e | ⟨b,off,e,hh⟩
  ·omega
  ·cases e
   exact ⟨g,rfl,hB,hE,fun j=>hc.frozen j,fun i hi=>by have:=hh i hi;rwa [Nat.zero_add] at this⟩
def aDb (w:World) (s:St) (e:Ending) (w':World):Prop:=∃y hs,e=.returned (sv y s)∧qH w.heap.size w'.heap.size w' y s hs∧Below w.heap.size w w'
theorem wG (x:Sls) (s:St) (w:World) (h:iJ w x s) (hf:bS s) :
  Calls Tryz.prog 29 #[sv x s] w (aDb w s):=by
 obtain ⟨hs0,hav,hhd⟩:=h.2.1.heads
 have hqs:=hf.1.2
 have hcq:=h.1.1
 have hca:=h.2.1.1
 have hcm:=h.2.2.1.1
 have hcc:=h.2.2.2.1
 have hlq:x.ql≤1048576:=by have:=hf.1.1;omega
 have hla:x.al≤1048576:=by have:=hf.2.1.1;omega
 have hlm:x.ml≤1048576:=by have:=hf.2.2.1.1;omega
 have hlc:x.cl≤1048576:=by have:=hf.2.2.2.1;omega
 obtain ⟨qa,ql,qc,aa,al,ac,ma,ml,mc,ca,cl,cc⟩:=x
 obtain ⟨qs,clock,epoch,next,serial,apps,ms,cs⟩:=s
 simp only at *
 have hb0:=yA (yA (Below.refl _ w) (.cells #[.slice qa ql qc,.int .i64 clock,.int .i64 epoch,.int .i64 next,.int .i64 serial,.slice aa al ac,.slice ma ml mc,.slice ca cl cc] 34)) (.cells #[.slice none 0 0,.int .i64 0,.int .i64 0,.int .i64 0,.int .i64 0,.slice none 0 0,.slice none 0 0,.slice none 0 0] 34)
 have HB0:=aA hb0
 have P0:=aA ((yD w #[.slice qa ql qc,.int .i64 clock,.int .i64 epoch,.int .i64 next,.int .i64 serial,.slice aa al ac,.slice ma ml mc,.slice ca cl cc] 34).al (.cells #[.slice none 0 0,.int .i64 0,.int .i64 0,.int .i64 0,.int .i64 0,.slice none 0 0,.slice none 0 0,.slice none 0 0] 34))
 have P1:=aA (show Blk _ (w.heap.size+1) #[.slice none 0 0,.int .i64 0,.int .i64 0,.int .i64 0,.int .i64 0,.slice none 0 0,.slice none 0 0,.slice none 0 0] 34 by have:=yD (w.alloc (.cells #[.slice qa ql qc,.int .i64 clock,.int .i64 epoch,.int .i64 next,.int .i64 serial,.slice aa al ac,.slice ma ml mc,.slice ca cl cc] 34)) #[.slice none 0 0,.int .i64 0,.int .i64 0,.int .i64 0,.int .i64 0,.slice none 0 0,.slice none 0 0,.slice none 0 0] 34;rwa [yE] at this)
 have SQ:=aA h.1
 have SV:=aA hav
 have SH:=aA hhd
 have SM:=aA h.2.2.1
 have SC:=aA h.2.2.2
 have HF:=aA hf
 have CQ:=aA (tO qa ql qc qs _ (h.1.below hb0) hlq hqs)
 have HNQ:=aA hcq
 have HNA:=aA hca
 have HNM:=aA hcm
 have HNC:=aA hcc
 clear h hav hhd hb0 hf hqs hcq hca hcm hcc
 go_enter Tryz.func29,Tryz.ntmps29
 go_wp2_with fail
 refine (uH CQ).mono ?_
 rintro e w2 ⟨v,rfl,ho,hb⟩
 obtain ⟨qo,qd,rfl,hqd,hqh⟩:=tF.has ho
 rw [yE,yE] at hqh
 have hrq:=gV ho
 rw [yE,yE] at hrq
 have HM2:=aA (RmL.cons hrq (RmL.nil _ _))
 have HB2:=aA (yB (uH HB0) hb)
 have Q0:=aA ((uH P0).below hb)
 have Q1:=aA ((uH P1).below hb)
 have OQ:=aA hqh
 have hz2:w.heap.size+2≤w2.heap.size:=by have:=hb.size;rw [yE,yE] at this;omega
 have d0:=(uH Q0).at 0
 have f0:=(uH Q0).f 0
 simp at d0
 have HQD:=aA hqd
 clear ho hb hqh hrq HB0 P0 P1 CQ hqd
 go_upto_region 2 with fail
 have HB3:=aA (yC (uH HB2) w.heap.size 0 (.slice qo qs.length qd) (Nat.le_refl _))
 have R0:=aA (show Blk (w2.setCell ⟨w.heap.size,0,none⟩ (.slice qo qs.length qd)) w.heap.size #[.slice qo qs.length qd,.int .i64 clock,.int .i64 epoch,.int .i64 next,.int .i64 serial,.slice aa al ac,.slice ma ml mc,.slice ca cl cc] 34 from (uH Q0).set 0 (.slice qo qs.length qd))
 have R1:=aA ((uH Q1).other w.heap.size 0 (.slice qo qs.length qd) (by omega))
 have OQ3:=aA ((uH OQ).sc (k:=w.heap.size) (j:=0) (v:=.slice qo qs.length qd) (by omega))
 have hz3:w.heap.size+2≤(w2.setCell ⟨w.heap.size,0,none⟩ (.slice qo qs.length qd)).heap.size:=by rw [bE];exact hz2
 have HM3:=aA ((uH HM2).sc w.heap.size 0 (.slice qo qs.length qd))
 generalize w2.setCell ⟨w.heap.size,0,none⟩ (.slice qo qs.length qd)=w3 at HB3 R0 R1 OQ3 HM3 hz3 ⊢
 clear d0 f0 HB2 Q0 Q1 OQ HM2 hz2
 have CA:=aA (aCL aa al ac hs0 w3 ((uH SV).below (uH HB3)) hla)
 have a5:=(uH R0).at 5
 simp at a5
 go_wp2_with fail
 refine (uH CA).mono ?_
 rintro e w4 ⟨v,rfl,ho,hb⟩
 obtain ⟨po,pd,rfl,hpd,hph⟩:=aDm (uU ho hz3)
 have HM4:=aA (RmL.cons (gV (uU ho hz3)) ((uH HM3).below hb))
 have HB4:=aA (yB (uH HB3) hb)
 have Q0:=aA ((uH R0).below hb)
 have Q1:=aA ((uH R1).below hb)
 have OQ4:=aA ((uH OQ3).below hb)
 have hz4:w.heap.size+2≤w4.heap.size:=by have:=hb.size;omega
 obtain ⟨n2,hn2⟩:∃n,hs0.length=n:=⟨_,rfl⟩
 rw [hn2] at hph ⊢
 have OP4:=aA hph
 have HN2:=aA hn2
 have hl2:n2≤1048576:=by have:=(uH SV).1;omega
 have d5:=(uH Q0).at 5
 have f5:=(uH Q0).f 5
 simp at d5
 have HPD:=aA (show n2≤pd by omega)
 clear ho hb hph HB3 R0 R1 OQ3 HM3 hz3 CA a5 hpd hn2
 go_upto_region 3 with fail
 have HB5:=aA (yC (uH HB4) w.heap.size 5 (.slice po n2 pd) (Nat.le_refl _))
 have R0:=aA (show Blk (w4.setCell ⟨w.heap.size,5,none⟩ (.slice po n2 pd)) w.heap.size #[.slice qo qs.length qd,.int .i64 clock,.int .i64 epoch,.int .i64 next,.int .i64 serial,.slice po n2 pd,.slice ma ml mc,.slice ca cl cc] 34 from (uH Q0).set 5 (.slice po n2 pd))
 have R1:=aA ((uH Q1).other w.heap.size 5 (.slice po n2 pd) (by omega))
 have OQ5:=aA ((uH OQ4).sc (k:=w.heap.size) (j:=5) (v:=.slice po n2 pd) (by omega))
 have OP5:=aA ((uH OP4).sc (k:=w.heap.size) (j:=5) (v:=.slice po n2 pd) (by omega))
 have hz5:w.heap.size+2≤(w4.setCell ⟨w.heap.size,5,none⟩ (.slice po n2 pd)).heap.size:=by rw [bE];exact hz4
 have HM5:=aA ((uH HM4).sc w.heap.size 5 (.slice po n2 pd))
 generalize w4.setCell ⟨w.heap.size,5,none⟩ (.slice po n2 pd)=w5 at HB5 R0 R1 OQ5 OP5 HM5 hz5 ⊢
 have a5:=(uH R0).at 5
 simp at a5
 clear d5 f5 HB4 Q0 Q1 OQ4 OP4 HM4 hz4
 go_wp2
 go_loopw [18] (fun i wr=>∃(k:Nat),k≤n2∧i=.int .i64 k∧Hid (∃ns:List AV,ns.length=k∧oN (w.heap.size+2) wr po n2 (ns++hs0.drop k)∧kD (w.heap.size+2) wr ns (apps.take k)∧RmL (w.heap.size+2) wr ((74,3,po,pd)::(100,4,qo,qd)::ns.map (fun v=>(77,5,v.ao,v.cap))))∧Hid (Blk wr w.heap.size #[.slice qo qs.length qd,.int .i64 clock,.int .i64 epoch,.int .i64 next,.int .i64 serial,.slice po n2 pd,.slice ma ml mc,.slice ca cl cc] 34)∧Hid (Blk wr (w.heap.size+1) #[.slice none 0 0,.int .i64 0,.int .i64 0,.int .i64 0,.int .i64 0,.slice none 0 0,.slice none 0 0,.slice none 0 0] 34)∧Hid (tX (w.heap.size+2) wr qo qs.length qs)∧Hid (Below w.heap.size w wr)∧w.heap.size+2≤wr.heap.size) (fun i _=>n2 - (intOf i).toNat)
 case atStart=>exact ⟨0,Nat.zero_le _,rfl,aA ⟨[],rfl,by simpa using uH OP5,by simpa using kD.nil _ _,uH HM5⟩,R0,R1,OQ5,HB5,hz5⟩
 case round=>
  obtain ⟨k,hk,rfl,HP,HR0,HR1,HQ,HB,hz⟩:=hrel
  clear R0 R1 OQ5 OP5 HB5 HM5 hz5 a5
  by_cases hlt:k<n2
  ·obtain ⟨ns,hns,hph,hkh,hrm⟩:=uH HP
   obtain ⟨g,M,rfl,hgB,hgE,hbk⟩:=hph.blk hlt
   have hk0:k<hs0.length:=by have:=uH HN2;omega
   have hk1:k<apps.length:=by have:=(uH SH).1;omega
   have hkl:k<(ns++hs0.drop k).length:=by rw [List.length_append,List.length_drop];omega
   have hel:(ns++hs0.drop k)[k]=hs0[k]:=by
    rw [List.getElem_append_right (by omega)]
    simp [hns]
   have hcel:=hbk.2.2 k hkl
   rw [hel] at hcel
   obtain ⟨c0,c1,c2⟩:=hcel
   obtain ⟨e0,e1,e2,e3⟩:=(uH SH).2 k hk0 hk1
   have hfa:=(uH HF).2.1.2 apps[k] (List.getElem_mem hk1)
   obtain ⟨⟨ai,aq,ak⟩,hap⟩:∃a,apps[k]=a:=⟨_,rfl⟩
   obtain ⟨⟨vi,vq,va,vl,vc⟩,hv⟩:∃v,hs0[k]=v:=⟨_,rfl⟩
   have hset:∀(no:Option Addr) (nl nd:Nat),(ns++hs0.drop k).set k ⟨vi,vq,no,nl,nd⟩=(ns++[⟨vi,vq,no,nl,nd⟩])++hs0.drop (k+1):=fun no nl nd=>by
    rw [List.set_append_right _ _ (by omega),List.drop_eq_getElem_cons hk0,hns,Nat.sub_self,sB]
    simp
   have htk:apps.take (k+1)=apps.take k++[⟨ai,aq,ak⟩]:=by rw [List.take_succ_eq_append_getElem hk1,hap]
   rw [hap] at e0 e1 e2 hfa
   rw [hv] at c0 c1 c2 e0 e1 e2 e3 hel
   simp only at c0 c1 c2 e0 e1 e2 e3 hfa
   subst e0 e1
   have hrow:=e2.below (uH HB)
   have HW:=aA (yA (Below.refl _ wr) (.cells #[.int .i64 vi,.string (bs vq),.slice va vl vc] 74))
   replace hfa:vq.length≤1048576∧ak.length≤1048576∧∀a ∈ ak,a.node.length≤1048576:=⟨hfa.1,hfa.2.1,hfa.2.2⟩
   have hvl:vl≤1048576:=by have:=e2.1;omega
   have CC:=aA (fun wx (hb:Below (wr.alloc (.cells #[.int .i64 vi,.string (bs vq),.slice va vl vc] 74)).heap.size (wr.alloc (.cells #[.int .i64 vi,.string (bs vq),.slice va vl vc] 74)) wx)=>aAj vi vq va vl vc ak wx ((hrow.below (uH HW)).below hb) hvl hfa.1 hfa.2.2)
   have HST:=aA hset
   have HTK:=aA htk
   have HKH:=aA (hkh.below (uH HW))
   have HRM:=aA (hrm.below (uH HW))
   have HBK:=aA (hbk.below (uH HW))
   have HEL:=aA hel
   have HNS:=aA hns
   have X0:=aA ((uH HR0).below (uH HW))
   have X1:=aA ((uH HR1).below (uH HW))
   have XQ:=aA ((uH HQ).below (uH HW))
   have XB:=aA (yB (uH HB) (uH HW))
   have XA:=aA (yD wr #[.int .i64 vi,.string (bs vq),.slice va vl vc] 74)
   have hzw:w.heap.size+2≤(wr.alloc (.cells #[.int .i64 vi,.string (bs vq),.slice va vl vc] 74)).heap.size:=by rw [yE];omega
   have k0:(0:Int)≤k:=by omega
   have k1:(k:Int)<n2:=by omega
   clear hph hkh hrm hbk hap hv hset htk hrow e2 e3 hfa hel hk0 hk1 hns
   go_upto_region 6 with fail
   obtain ⟨W,hW⟩:∃W,wr.alloc (.cells #[.int .i64 vi,.string (bs vq),.slice va vl vc] 74)=W:=⟨_,rfl⟩
   rw [hW] at CC HKH HRM HBK X0 X1 XQ XB XA hzw ⊢
   have xa0:=(uH XA).at 0
   have xa1:=(uH XA).at 1
   have xa2:=(uH XA).at 2
   have x5:=(uH X0).at 5
   simp at xa0 xa1 xa2 x5
   clear hW HW HP HR0 HR1 HQ HB c0 c1 c2
   go_wp2_with fail
   go_region_with (go_at_call 65;refine (uH CC _ ?_).mono ?_;(exact (Below.refl _ W).drew);rintro e w6 ⟨v,rfl,ho,hb⟩;have HB6:=aA (yB (Below.refl _ W).drew hb);obtain ⟨no,nd,rfl,hnd,hnr,hno⟩:=uD ho;have HNR:=aA hnr;have HNO:=aA (show dJ W.heap.size w6.heap.size w6 77 5 no ak.length from hno);have HND:=aA hnd;have HOA:=aA (show dJ W.heap.size w6.heap.size w6 77 5 no nd from gV ho);have HBK6:=aA ((uH HBK).below (uH HB6));have y5:=((uH X0).below (uH HB6)).at 5;have hcel:=(uH HBK6).2.2 k hkl;rw [uH HEL] at hcel;obtain ⟨c0,c1,c2⟩:=hcel;simp only at c0 c1 c2;have s0:=gT c0;have s1:=gT c1;have z0:=(uH HBK6).1.frozen (k*3);have z1:=(uH HBK6).1.frozen (k*3+1);have z2:=(uH HBK6).1.frozen (k*3+2);simp at y5;clear ho hb hnr hno hnd)
   all_goals go_wp2
   all_goals
    have hkk:∃t N,Cel w6 t g N∧t≠77:=⟨_,_,(uH HBK6).1,by decide⟩
    have hgw:w.heap.size+2≤g:=hgB
    go_roundw
    case rel=>
     refine ⟨k+1,by omega,by go_num,aA ⟨ns++[⟨vi,vq,no,ak.length,nd⟩],by simp [uH HNS],?_,?_,?_⟩,aA (((uH X0).below (uH HB6)).other g _ _ (by omega)),aA (((uH X1).below (uH HB6)).other g _ _ (by omega)),aA ?_,aA (yC (yB (uH XB) (uH HB6)) _ _ _ (by omega)),by rw [bE];have:=(uH HB6).size;omega⟩
     ·have:=(uH HBK6).asks hkl no ak.length nd
      rw [uH HEL] at this
      simp only at this
      rw [uH HST] at this
      exact this.has hgB (by have:=uH HN2;have:=uH HNS;simp;omega)
     ·rw [uH HTK]
      exact ((uH HKH).snoc (uH HB6) hzw vi vq no nd ak (uH HND) (uH HNR) (uH HNO)).sc (.inr hkk)
     ·exact ((RmL.cons ((uH HOA).mono hzw (Nat.le_refl _)) ((uH HRM).below (uH HB6))).sub (fun p hp=>by simp only [List.map_append,List.map_cons,List.map_nil,List.mem_cons,List.mem_append,List.not_mem_nil,or_false] at hp ⊢;rcases hp with h | h | h | h<;>simp [h])).sc _ _ _
     ·obtain ⟨t,N,hc,ht⟩:=hkk
      have hq:=(uH XQ).below (uH HB6)
      refine ⟨hq.1.mks (Mks.one (fun x=>x=g) _ g _ _ rfl) (fun i hi e=>?_),by rw [bE];exact hq.2.mks (Mks.one (fun x=>x=g) _ g _ _ rfl)⟩
      obtain ⟨_,_,N',hc'⟩:=hq.2.lies i hi
      subst e
      exact absurd (hc'.type (uH HBK6).1) (by decide)
    case measure=>simp [intOf];omega
  ·obtain rfl:k=n2:=by omega
   obtain ⟨ns,hns,hph,hkh,hrm⟩:=uH HP
   have hdr:hs0.drop k=[]:=List.drop_of_length_le (by have:=uH HN2;omega)
   have htk:apps.take k=apps:=List.take_of_length_le (by have:=(uH SH).1;have:=uH HN2;omega)
   rw [hdr,List.append_nil] at hph
   rw [htk] at hkh
   have M0:=aA hrm
   have K0:=aA (show aHc w _ qo qs po k ns apps wr from ⟨uH HR0,uH HR1,uH HQ,hph,hkh,uH HB,hz⟩)
   have CM:=aA (tT ma ml mc ms wr ((uH SM).below (uH HB)) hlm)
   have a6:=(uH HR0).at 6
   simp at a6
   have k1:¬(k:Int)<k:=by omega
   clear hph hkh hrm hdr htk HP HR0 HR1 HQ HB hlt hns
   go_wp2_with fail
   refine (uH CM).mono ?_
   rintro e w7 ⟨v,rfl,ho,hb⟩
   obtain ⟨mo,md,rfl,hmd,hmh⟩:=aDt (vD ho hz)
   have M1:=aA (RmL.cons (gV (vD ho hz)) ((uH M0).below hb))
   have K1:=aA ((uH K0).below hb)
   obtain ⟨n3,hn3⟩:∃n,ms.length=n:=⟨_,rfl⟩
   rw [hn3] at hmh ⊢
   have OM:=aA hmh
   have HN3:=aA hn3
   have hl3:n3≤1048576:=by have:=(uH SM).1;omega
   have d6:=(uH K1).r0.at 6
   have f6:=(uH K1).r0.f 6
   simp at d6
   have HMD:=aA (show n3≤md by omega)
   clear ho hb hmh CM a6 hmd hn3 K0 M0 hz
   go_upto_region 9 with fail
   have K2:=aA (show aHc w #[.slice qo qs.length qd,.int .i64 clock,.int .i64 epoch,.int .i64 next,.int .i64 serial,.slice po k pd,.slice mo n3 md,.slice ca cl cc] qo qs po k ns apps (w7.setCell ⟨w.heap.size,6,none⟩ (.slice mo n3 md)) from (uH K1).sc 6 (.slice mo n3 md))
   have OM2:=aA ((uH OM).sc (k:=w.heap.size) (j:=6) (v:=.slice mo n3 md) (by omega))
   have M2:=aA ((uH M1).sc w.heap.size 6 (.slice mo n3 md))
   generalize w7.setCell ⟨w.heap.size,6,none⟩ (.slice mo n3 md)=w8 at K2 OM2 M2 ⊢
   have a6:=(uH K2).r0.at 6
   simp at a6
   clear d6 f6 K1 OM M1
   go_wp2
   go_loopw [37] (fun i wr=>∃(j:Nat),j≤n3∧i=.int .i64 j∧Hid (aHc w #[.slice qo qs.length qd,.int .i64 clock,.int .i64 epoch,.int .i64 next,.int .i64 serial,.slice po k pd,.slice mo n3 md,.slice ca cl cc] qo qs po k ns apps wr)∧Hid (tH (w.heap.size+2) wr mo n3 ms)∧Hid (RmL (w.heap.size+2) wr ((104,4,mo,md)::(74,3,po,pd)::(100,4,qo,qd)::ns.map (fun v=>(77,5,v.ao,v.cap))))) (fun i _=>n3 - (intOf i).toNat)
   case atStart=>exact ⟨0,Nat.zero_le _,rfl,K2,OM2,M2⟩
   case round=>
    obtain ⟨j,hj,rfl,HK,HM,HRL⟩:=hrel
    clear K2 OM2 M2 a6
    by_cases hlt:j<n3
    ·obtain ⟨g,rfl,hgB,hgE,hfz,hat⟩:=(uH HM).blk hlt
     have hjl:j<ms.length:=by have:=uH HN3;omega
     obtain ⟨c0,c1,c2,c3⟩:=hat j hjl
     have hnm:=(uH HF).2.2.1.2 ms[j] (List.getElem_mem hjl)
     obtain ⟨⟨na,me,cp,se⟩,hm⟩:∃m,ms[j]=m:=⟨_,rfl⟩
     rw [hm] at c0 c1 c2 c3 hnm
     simp only at c0 c1 c2 c3 hnm
     have HW:=aA (yA (Below.refl _ wr) (.cells #[.string (bs na),.int .i64 me,.int .i64 cp,.int .i64 se] 104))
     have X0:=aA ((uH HK).below (uH HW))
     have XM:=aA ((uH HM).below (uH HW))
     have XL:=aA ((uH HRL).below (uH HW))
     have XA:=aA (yD wr #[.string (bs na),.int .i64 me,.int .i64 cp,.int .i64 se] 104)
     have D0:=aA (fD c0 (uH HW))
     have hs1:(bs na).size≤281474976710656:=by rw [dA];omega
     have CL:=aA (fun wx=>gK (bs na) wx hs1)
     have j0:(0:Int)≤j:=by omega
     have j1:(j:Int)<n3:=by omega
     clear hat hm hjl hfz hnm
     go_upto_region 12 with fail
     obtain ⟨W,hW⟩:∃W,wr.alloc (.cells #[.string (bs na),.int .i64 me,.int .i64 cp,.int .i64 se] 104)=W:=⟨_,rfl⟩
     rw [hW] at X0 XM XL XA D0 ⊢
     have xa0:=(uH XA).at 0
     have x6:=(uH X0).r0.at 6
     simp at xa0 x6
     clear hW HW HK HM HRL c0 c1 c2 c3
     go_wp2_with fail
     go_region_with (go_at_call 67;refine (uH CL _).mono ?_;rintro e w6 ⟨rfl,hb⟩;have HB6:=aA (yB (Below.refl _ W).drew hb);have y6:=((uH X0).below (uH HB6)).r0.at 6;have c0:=fD (uH D0) (uH HB6);have s0:=gT c0;obtain ⟨g',e',_,_,hfz,_⟩:=((uH XM).below (uH HB6)).blk hlt;cases e';have z0:=hfz (j*4);simp at y6;clear hb hfz)
     all_goals go_wp2
     all_goals
      go_roundw
      case rel=>exact ⟨j+1,by omega,by go_num,aA ((uH X0).below (uH HB6)),aA ((uH XM).below (uH HB6)),aA ((uH XL).below (uH HB6))⟩
      case measure=>simp [intOf];omega
    ·obtain rfl:j=n3:=by omega
     have CC:=aA (wH ca cl cc cs wr ((uH SC).below (uH HK).b) hlc (uH HF).2.2.2.2)
     have a7:=(uH HK).r0.at 7
     simp at a7
     have j1:¬(j:Int)<j:=by omega
     clear hlt
     go_wp2_with fail
     refine (uH CC).mono ?_
     rintro e w9 ⟨co,cd,rfl,hcd,hch0,hco,hb⟩
     have L1:=aA (RmL.cons (hco.mono (uH HK).z (Nat.le_refl _)) ((uH HRL).below hb))
     have hch:=hch0.base (uH HK).z
     have K1:=aA ((uH HK).below hb)
     have OM1:=aA ((uH HM).below hb)
     obtain ⟨n4,hn4⟩:∃n,cs.length=n:=⟨_,rfl⟩
     rw [hn4] at hch ⊢
     have OC:=aA hch
     have HN4:=aA hn4
     have d7:=(uH K1).r0.at 7
     have f7:=(uH K1).r0.f 7
     simp at d7
     have HCD:=aA (show n4≤cd by omega)
     clear hch0 hco hb hch CC a7 hcd hn4 HK HM HRL
     go_upto_region 15 with fail
     have K2:=aA (show aHc w #[.slice qo qs.length qd,.int .i64 clock,.int .i64 epoch,.int .i64 next,.int .i64 serial,.slice po k pd,.slice mo j md,.slice co n4 cd] qo qs po k ns apps (w9.setCell ⟨w.heap.size,7,none⟩ (.slice co n4 cd)) from (uH K1).sc 7 (.slice co n4 cd))
     have OM2:=aA ((uH OM1).sc (k:=w.heap.size) (j:=7) (v:=.slice co n4 cd) (by omega))
     have OC2:=aA ((uH OC).sc (k:=w.heap.size) (j:=7) (v:=.slice co n4 cd) (by omega))
     have L2:=aA ((uH L1).sc w.heap.size 7 (.slice co n4 cd))
     generalize w9.setCell ⟨w.heap.size,7,none⟩ (.slice co n4 cd)=w10 at K2 OM2 OC2 L2 ⊢
     clear d7 f7 K1 OM1 OC L1
     have a0:=(uH K2).r0.at 0;have a1:=(uH K2).r0.at 1;have a2:=(uH K2).r0.at 2;have a3:=(uH K2).r0.at 3;have a4:=(uH K2).r0.at 4;have a5:=(uH K2).r0.at 5;have a6:=(uH K2).r0.at 6;have a7:=(uH K2).r0.at 7
     have c0:=(uH K2).r1.at 0;have c1:=(uH K2).r1.at 1;have c2:=(uH K2).r1.at 2;have c3:=(uH K2).r1.at 3;have c4:=(uH K2).r1.at 4;have c5:=(uH K2).r1.at 5;have c6:=(uH K2).r1.at 6;have c7:=(uH K2).r1.at 7
     have f0:=(uH K2).r1.f 0;have f1:=(uH K2).r1.f 1;have f2:=(uH K2).r1.f 2;have f3:=(uH K2).r1.f 3;have f4:=(uH K2).r1.f 4;have f5:=(uH K2).r1.f 5;have f6:=(uH K2).r1.f 6;have f7:=(uH K2).r1.f 7
     simp at a0 a1 a2 a3 a4 a5 a6 a7 c0 c1 c2 c3 c4 c5 c6 c7
     go_wp2
     have R9:=aA (show Blk ((((((((w10.setCell ⟨w.heap.size+1,0,none⟩ (.slice qo qs.length qd)).setCell ⟨w.heap.size+1,1,none⟩ (.int .i64 clock)).setCell ⟨w.heap.size+1,2,none⟩ (.int .i64 epoch)).setCell ⟨w.heap.size+1,3,none⟩ (.int .i64 next)).setCell ⟨w.heap.size+1,4,none⟩ (.int .i64 serial)).setCell ⟨w.heap.size+1,5,none⟩ (.slice po k pd)).setCell ⟨w.heap.size+1,6,none⟩ (.slice mo j md)).setCell ⟨w.heap.size+1,7,none⟩ (.slice co n4 cd)) (w.heap.size+1) #[.slice qo qs.length qd,.int .i64 clock,.int .i64 epoch,.int .i64 next,.int .i64 serial,.slice po k pd,.slice mo j md,.slice co n4 cd] 34 from (((((((((uH K2).r1.set 0 (.slice qo qs.length qd)).set 1 (.int .i64 clock)).set 2 (.int .i64 epoch)).set 3 (.int .i64 next)).set 4 (.int .i64 serial)).set 5 (.slice po k pd)).set 6 (.slice mo j md)).set 7 (.slice co n4 cd)))
     have Q9:=aA ((((((((((uH K2).q.sc (k:=w.heap.size+1) (j:=0) (v:=.slice qo qs.length qd) (by omega)).sc (k:=w.heap.size+1) (j:=1) (v:=.int .i64 clock) (by omega)).sc (k:=w.heap.size+1) (j:=2) (v:=.int .i64 epoch) (by omega)).sc (k:=w.heap.size+1) (j:=3) (v:=.int .i64 next) (by omega)).sc (k:=w.heap.size+1) (j:=4) (v:=.int .i64 serial) (by omega)).sc (k:=w.heap.size+1) (j:=5) (v:=.slice po k pd) (by omega)).sc (k:=w.heap.size+1) (j:=6) (v:=.slice mo j md) (by omega)).sc (k:=w.heap.size+1) (j:=7) (v:=.slice co n4 cd) (by omega)))
     have P9:=aA ((((((((((uH K2).p.sc (k:=w.heap.size+1) (j:=0) (v:=.slice qo qs.length qd) (by omega)).sc (k:=w.heap.size+1) (j:=1) (v:=.int .i64 clock) (by omega)).sc (k:=w.heap.size+1) (j:=2) (v:=.int .i64 epoch) (by omega)).sc (k:=w.heap.size+1) (j:=3) (v:=.int .i64 next) (by omega)).sc (k:=w.heap.size+1) (j:=4) (v:=.int .i64 serial) (by omega)).sc (k:=w.heap.size+1) (j:=5) (v:=.slice po k pd) (by omega)).sc (k:=w.heap.size+1) (j:=6) (v:=.slice mo j md) (by omega)).sc (k:=w.heap.size+1) (j:=7) (v:=.slice co n4 cd) (by omega)))
     have K9:=aA ((((((((((uH K2).k.sc (k:=w.heap.size+1) (j:=0) (v:=.slice qo qs.length qd) (.inl (by omega))).sc (k:=w.heap.size+1) (j:=1) (v:=.int .i64 clock) (.inl (by omega))).sc (k:=w.heap.size+1) (j:=2) (v:=.int .i64 epoch) (.inl (by omega))).sc (k:=w.heap.size+1) (j:=3) (v:=.int .i64 next) (.inl (by omega))).sc (k:=w.heap.size+1) (j:=4) (v:=.int .i64 serial) (.inl (by omega))).sc (k:=w.heap.size+1) (j:=5) (v:=.slice po k pd) (.inl (by omega))).sc (k:=w.heap.size+1) (j:=6) (v:=.slice mo j md) (.inl (by omega))).sc (k:=w.heap.size+1) (j:=7) (v:=.slice co n4 cd) (.inl (by omega))))
     have M9:=aA ((((((((((uH OM2).sc (k:=w.heap.size+1) (j:=0) (v:=.slice qo qs.length qd) (by omega)).sc (k:=w.heap.size+1) (j:=1) (v:=.int .i64 clock) (by omega)).sc (k:=w.heap.size+1) (j:=2) (v:=.int .i64 epoch) (by omega)).sc (k:=w.heap.size+1) (j:=3) (v:=.int .i64 next) (by omega)).sc (k:=w.heap.size+1) (j:=4) (v:=.int .i64 serial) (by omega)).sc (k:=w.heap.size+1) (j:=5) (v:=.slice po k pd) (by omega)).sc (k:=w.heap.size+1) (j:=6) (v:=.slice mo j md) (by omega)).sc (k:=w.heap.size+1) (j:=7) (v:=.slice co n4 cd) (by omega)))
     have C9:=aA ((((((((((uH OC2).sc (k:=w.heap.size+1) (j:=0) (v:=.slice qo qs.length qd) (by omega)).sc (k:=w.heap.size+1) (j:=1) (v:=.int .i64 clock) (by omega)).sc (k:=w.heap.size+1) (j:=2) (v:=.int .i64 epoch) (by omega)).sc (k:=w.heap.size+1) (j:=3) (v:=.int .i64 next) (by omega)).sc (k:=w.heap.size+1) (j:=4) (v:=.int .i64 serial) (by omega)).sc (k:=w.heap.size+1) (j:=5) (v:=.slice po k pd) (by omega)).sc (k:=w.heap.size+1) (j:=6) (v:=.slice mo j md) (by omega)).sc (k:=w.heap.size+1) (j:=7) (v:=.slice co n4 cd) (by omega)))
     have L9:=aA (((((((((uH L2).sc (w.heap.size+1) 0 (.slice qo qs.length qd)).sc (w.heap.size+1) 1 (.int .i64 clock)).sc (w.heap.size+1) 2 (.int .i64 epoch)).sc (w.heap.size+1) 3 (.int .i64 next)).sc (w.heap.size+1) 4 (.int .i64 serial)).sc (w.heap.size+1) 5 (.slice po k pd)).sc (w.heap.size+1) 6 (.slice mo j md)).sc (w.heap.size+1) 7 (.slice co n4 cd))
     have B9:=aA ((yC (yC (yC (yC (yC (yC (yC (yC (uH K2).b (w.heap.size+1) 0 (.slice qo qs.length qd) (by omega)) (w.heap.size+1) 1 (.int .i64 clock) (by omega)) (w.heap.size+1) 2 (.int .i64 epoch) (by omega)) (w.heap.size+1) 3 (.int .i64 next) (by omega)) (w.heap.size+1) 4 (.int .i64 serial) (by omega)) (w.heap.size+1) 5 (.slice po k pd) (by omega)) (w.heap.size+1) 6 (.slice mo j md) (by omega)) (w.heap.size+1) 7 (.slice co n4 cd) (by omega)))
     generalize ((((((((w10.setCell ⟨w.heap.size+1,0,none⟩ (.slice qo qs.length qd)).setCell ⟨w.heap.size+1,1,none⟩ (.int .i64 clock)).setCell ⟨w.heap.size+1,2,none⟩ (.int .i64 epoch)).setCell ⟨w.heap.size+1,3,none⟩ (.int .i64 next)).setCell ⟨w.heap.size+1,4,none⟩ (.int .i64 serial)).setCell ⟨w.heap.size+1,5,none⟩ (.slice po k pd)).setCell ⟨w.heap.size+1,6,none⟩ (.slice mo j md)).setCell ⟨w.heap.size+1,7,none⟩ (.slice co n4 cd))=W9 at R9 Q9 P9 K9 M9 C9 L9 B9 ⊢
     have z0:=(uH R9).at 0;have z1:=(uH R9).at 1;have z2:=(uH R9).at 2;have z3:=(uH R9).at 3;have z4:=(uH R9).at 4;have z5:=(uH R9).at 5;have z6:=(uH R9).at 6;have z7:=(uH R9).at 7
     simp at z0 z1 z2 z3 z4 z5 z6 z7
     refine bodyPost_ret (v:=.agg #[.slice qo qs.length qd,.int .i64 clock,.int .i64 epoch,.int .i64 next,.int .i64 serial,.slice po k pd,.slice mo j md,.slice co n4 cd]) (by simp [results,Tryz.results29,go_sem,z0,z1,z2,z3,z4,z5,z6,z7]) rfl (show aDb w _ _ _ from ⟨⟨qo,qs.length,qd,po,k,pd,mo,j,md,co,n4,cd⟩,ns,rfl,?_,uH B9⟩)
     exact (aCg (x:=⟨qo,qs.length,qd,po,k,pd,mo,j,md,co,n4,cd⟩) (s:=⟨qs,clock,epoch,next,serial,apps,ms,cs⟩) (uH Q9) (uH P9) (uH K9) (uH M9) (uH C9) ⟨uH HQD,uH HPD,uH HMD,uH HCD⟩ (aIa (x:=⟨qo,qs.length,qd,po,k,pd,mo,j,md,co,n4,cd⟩) ((uH L9).sub (fun p hp=>by simp only [RL4,List.mem_cons,List.mem_map] at hp ⊢;rcases hp with h | h | h | h<;>simp [h])) (uH L9 (74,3,po,pd) (by simp)))).mono (by omega) (Nat.le_refl _)
theorem fH {w w':World} {b p:Nat} {u:Value} (h:w.cell? ⟨b,p,none⟩=some u) (hb:w'.heap[b]? = w.heap[b]?):w'.cell? ⟨b,p,none⟩=some u:=(World.cell?_of_block (w:=w) (a:=⟨b,p,none⟩) hb).trans h
theorem gM.kept {w w':World} {ao:Option Addr} {len:Nat} {l:List Q} (h:gM w ao len l) (hs:∀k,inR ao len k→w'.heap[k]? = w.heap[k]?):gM w' ao len l:=by
 obtain ⟨h1,h2⟩:=h
 refine ⟨h1,?_⟩
 rcases h2 with h2 | ⟨b,off,h3,h4⟩
 ·exact .inl h2
 ·by_cases hz:len=0
  ·exact .inl hz
  ·have hb:=hs b ⟨hz,off,h3⟩
   exact .inr ⟨b,off,h3,fun i h=>let ⟨a,c,d,e⟩:=h4 i h;⟨fH a hb,fH c hb,fH d hb,fH e hb⟩⟩
theorem aZ.kept {w w':World} {ao:Option Addr} {len:Nat} {l:List Mac} (h:aZ w ao len l) (hs:∀k,inR ao len k→w'.heap[k]? = w.heap[k]?):aZ w' ao len l:=by
 obtain ⟨h1,h2⟩:=h
 refine ⟨h1,?_⟩
 rcases h2 with h2 | ⟨b,off,h3,h4⟩
 ·exact .inl h2
 ·by_cases hz:len=0
  ·exact .inl hz
  ·have hb:=hs b ⟨hz,off,h3⟩
   exact .inr ⟨b,off,h3,fun i h=>let ⟨a,c,d,e⟩:=h4 i h;⟨fH a hb,fH c hb,fH d hb,fH e hb⟩⟩
theorem aY.kept {w w':World} {ao:Option Addr} {len:Nat} {l:List Con} (h:aY w ao len l) (hs:∀k,inR ao len k→w'.heap[k]? = w.heap[k]?):aY w' ao len l:=by
 obtain ⟨h1,h2⟩:=h
 refine ⟨h1,?_⟩
 rcases h2 with h2 | ⟨b,off,h3,h4⟩
 ·exact .inl h2
 ·by_cases hz:len=0
  ·exact .inl hz
  ·have hb:=hs b ⟨hz,off,h3⟩
   exact .inr ⟨b,off,h3,fun i h=>let ⟨a,c,d,e,f⟩:=h4 i h;⟨fH a hb,fH c hb,fH d hb,fH e hb,fH f hb⟩⟩
theorem aO.kept {w w':World} {ao:Option Addr} {len:Nat} {l:List Ask} (h:aO w ao len l) (hs:∀k,inR ao len k→w'.heap[k]? = w.heap[k]?):aO w' ao len l:=by
 obtain ⟨h1,h2⟩:=h
 refine ⟨h1,?_⟩
 rcases h2 with h2 | ⟨b,off,h3,h4⟩
 ·exact .inl h2
 ·by_cases hz:len=0
  ·exact .inl hz
  ·have hb:=hs b ⟨hz,off,h3⟩
   exact .inr ⟨b,off,h3,fun i h=>let ⟨a,c,d,e,f⟩:=h4 i h;⟨fH a hb,fH c hb,fH d hb,fH e hb,fH f hb⟩⟩
theorem eF.kept {w w':World} {ao:Option Addr} {len:Nat} {l:List AV} (h:eF w ao len l) (hs:∀k,inR ao len k→w'.heap[k]? = w.heap[k]?):eF w' ao len l:=by
 obtain ⟨h1,h2⟩:=h
 refine ⟨h1,?_⟩
 rcases h2 with h2 | ⟨b,off,h3,h4⟩
 ·exact .inl h2
 ·by_cases hz:len=0
  ·exact .inl hz
  ·have hb:=hs b ⟨hz,off,h3⟩
   exact .inr ⟨b,off,h3,fun i h=>let ⟨a,c,d⟩:=h4 i h;⟨fH a hb,fH c hb,fH d hb⟩⟩
theorem fE {B:Nat} {w w':World} {t t':TypeId} {sz n:Nat} {ao:Option Addr} {r:Option Nat} (h:dJ B w.heap.size w t sz ao n) (hg:w.grownBy w' r) (hr:∀k,r=some k→∃N,Cel w t' k N) (ht:t'≠t):(∀k,inR ao n k→w'.heap[k]? = w.heap[k]?)∧dJ B w'.heap.size w' t sz ao n:=by
 have key:∀k,inR ao n k→w'.heap[k]? = w.heap[k]?:=fun k hk=>by
  obtain ⟨_,h2,N,h3⟩:=h.lies k hk
  refine hg.block k h2 (fun e=>?_)
  obtain ⟨N',h4⟩:=hr k e.symm
  exact ht (h4.type h3)
 refine ⟨key,?_⟩
 rcases h with e | ⟨g,M,e,h1,h2,h3,h4⟩
 ·exact .inl e
 ·by_cases hz:n=0
  ·exact .inl hz
  ·exact .inr ⟨g,M,e,h1,Nat.lt_of_lt_of_le h2 hg.size,h3.of_block (key g ⟨hz,0,e⟩),h4⟩
theorem tX.grown {B n:Nat} {w w':World} {t':TypeId} {ao:Option Addr} {l:List Q} {r:Option Nat} (h:tX B w ao n l) (hg:w.grownBy w' r) (hr:∀k,r=some k→∃N,Cel w t' k N) (ht:t'≠100):tX B w' ao n l:=⟨h.1.kept (fE h.2 hg hr ht).1,(fE h.2 hg hr ht).2⟩
theorem tH.grown {B n:Nat} {w w':World} {t':TypeId} {ao:Option Addr} {l:List Mac} {r:Option Nat} (h:tH B w ao n l) (hg:w.grownBy w' r) (hr:∀k,r=some k→∃N,Cel w t' k N) (ht:t'≠104):tH B w' ao n l:=⟨h.1.kept (fE h.2 hg hr ht).1,(fE h.2 hg hr ht).2⟩
theorem qL.grown {B n:Nat} {w w':World} {t':TypeId} {ao:Option Addr} {l:List Con} {r:Option Nat} (h:qL B w ao n l) (hg:w.grownBy w' r) (hr:∀k,r=some k→∃N,Cel w t' k N) (ht:t'≠38):qL B w' ao n l:=⟨h.1.kept (fE h.2 hg hr ht).1,(fE h.2 hg hr ht).2⟩
theorem oN.grown {B n:Nat} {w w':World} {t':TypeId} {ao:Option Addr} {l:List AV} {r:Option Nat} (h:oN B w ao n l) (hg:w.grownBy w' r) (hr:∀k,r=some k→∃N,Cel w t' k N) (ht:t'≠74):oN B w' ao n l:=⟨h.1.kept (fE h.2 hg hr ht).1,(fE h.2 hg hr ht).2⟩
theorem kD.grown {B:Nat} {w w':World} {t':TypeId} {hs:List AV} {l:List dB} {r:Option Nat} (h:kD B w hs l) (hg:w.grownBy w' r) (hr:∀k,r=some k→∃N,Cel w t' k N) (ht:t'≠77):kD B w' hs l:=
 ⟨⟨h.heads.1,fun i h1 h2=>let ⟨a,b,c,d⟩:=h.heads.2 i h1 h2;⟨a,b,c.kept (fE (h.own _ (List.getElem_mem h1)) hg hr ht).1,d⟩⟩,fun v hv=>(fE (h.own v hv) hg hr ht).2,h.apart⟩
theorem aHs {w:World} {B sz n:Nat} {e:TypeId} {v:Value} {xs:List Value} (h:w.ownsRow B e sz v n xs):∀k,v.ownBlock=some k→∃N,Cel w e k N:=fun k hk=>by
 rcases h.2 with ⟨rfl,_⟩ | ⟨g,cap,cur,rfl,_,h2,_⟩
 ·simp [Value.ownBlock] at hk
 ·obtain rfl:g=k:=by simpa [Value.ownBlock] using hk
  exact ⟨_,cur,h2,rfl⟩
theorem Blk.grown {w w':World} {g:Nat} {arr:Array Value} {t t':TypeId} {r:Option Nat} (h:Blk w g arr t) (hg:w.grownBy w' r) (hr:∀k,r=some k→∃N,Cel w t' k N) (ht:t'≠t):Blk w' g arr t:=
 (hg.block g h.lt (fun e=>by obtain ⟨N,h4⟩:=hr g e.symm;exact ht (h4.type ⟨arr,h,rfl⟩))).trans h
theorem aAc (w:World) (g j:Nat) (v:Value):w.grownBy (w.setCell ⟨g,j,none⟩ v) (some g):=⟨rfl,rfl,rfl,by simp [World.setCell],fun k _ hne=>Below.heap_setCell _ _ _ _ (by show k≠g;intro e;exact hne (by rw [e]))⟩
structure aH2 (x:Sls) (hs:List AV):Prop where
 q:x.qa=none→x.ql=0∧x.qc=0
 m:x.ma=none→x.ml=0∧x.mc=0
 c:x.ca=none→x.cl=0∧x.cc=0
 k:∀v ∈ hs,v.ao=none→v.len=0∧v.cap=0
theorem uB {B E:Nat} {w:World} {t:TypeId} {sz c n:Nat} {ao:Option Addr} (h:dJ B E w t sz ao c) (hn:n≤c) (e:ao=none):n=0∧c=0:=by
 rcases h with h | ⟨g,M,h1,_⟩
 ·omega
 ·rw [e] at h1;cases h1
theorem qH.some {B E:Nat} {w:World} {x:Sls} {s:St} {hs:List AV} (h:qH B E w x s hs):aH2 x hs:=
 ⟨uB h.rm.1 h.cap.q,uB h.rm.2.2.1 h.cap.m,uB h.rm.2.2.2.1 h.cap.c,fun v hv=>uB (h.rm.2.2.2.2 v hv) (by
  obtain ⟨i,hi,rfl⟩:=List.getElem_of_mem hv
  exact (h.heads.2 i hi (by rw [←h.heads.1];exact hi)).2.2.2)⟩
structure CpS (w:World) (a0:Array Value) (arr:Array Value) (wr:World):Prop where
 r0:Blk wr w.heap.size a0 34
 r1:Blk wr (w.heap.size+1) #[.slice none 0 0,.int .i64 0,.int .i64 0,.int .i64 0,.int .i64 0,.slice none 0 0,.slice none 0 0,.slice none 0 0] 34
 r2:Blk wr (w.heap.size+2) arr 34
 b:Below w.heap.size w wr
 z:w.heap.size+3≤wr.heap.size
theorem CpS.below {w:World} {a0 arr:Array Value} {wr wy:World} (h:CpS w a0 arr wr) (hb:Below wr.heap.size wr wy):CpS w a0 arr wy:=⟨h.r0.below hb,h.r1.below hb,h.r2.below hb,yB h.b hb,Nat.le_trans h.z hb.size⟩
theorem CpS.sc {w:World} {a0 arr:Array Value} {wr:World} (h:CpS w a0 arr wr) (j:Nat) (v:Value):CpS w a0 (arr.setIfInBounds j v) (wr.setCell ⟨w.heap.size+2,j,none⟩ v):=
 ⟨h.r0.other _ _ _ (by omega),h.r1.other _ _ _ (by omega),h.r2.set j v,yC h.b _ _ _ (by omega),by rw [bE];exact h.z⟩
theorem CpS.grown {w:World} {a0 arr:Array Value} {wr wy:World} {t':TypeId} {r:Option Nat} (h:CpS w a0 arr wr) (hg:wr.grownBy wy r) (hr:∀k,r=some k→w.heap.size≤k∧∃N,Cel wr t' k N) (ht:t'≠34):CpS w a0 arr wy:=
 ⟨h.r0.grown hg (fun k e=>(hr k e).2) ht,h.r1.grown hg (fun k e=>(hr k e).2) ht,h.r2.grown hg (fun k e=>(hr k e).2) ht,h.b.grown hg (by have:=h.z;omega) (fun k e=>(hr k e).1),Nat.le_trans h.z hg.size⟩
def aER (w:World) (s:St) (e:Ending) (w':World):Prop:=∃y hs,e=.returned (sv y s)∧qH w.heap.size w'.heap.size w' y s hs∧Below w.heap.size w w'∧∃g,y.ca=some ⟨g,0,none⟩
theorem sG (x:Sls) (s:St) (hs0:List AV) (w:World) (h:iJ w x s) (hav:eF w x.aa x.al hs0) (hhd:iP w hs0 s.apps) (hss:aH2 x hs0) (hf:bS s) :
  Calls Tryz.prog 23 #[sv x s] w (aER w s):=by
 have hcq:=h.1.1
 have hca:=h.2.1.1
 have hcm:=h.2.2.1.1
 have hcc:=h.2.2.2.1
 have hlq:x.ql≤1048576:=by have:=hf.1.1;omega
 have hla:x.al≤1048576:=by have:=hf.2.1.1;omega
 have hlm:x.ml≤1048576:=by have:=hf.2.2.1.1;omega
 have hlc:x.cl≤1048576:=by have:=hf.2.2.2.1;omega
 obtain ⟨qa,ql,qc,aa,al,ac,ma,ml,mc,ca,cl,cc⟩:=x
 obtain ⟨qs,clock,epoch,next,serial,apps,ms,cs⟩:=s
 simp only at *
 have RQ:=aA (show gM w qa ql qs from h.1)
 have RM:=aA (show aZ w ma ml ms from h.2.2.1)
 have RC:=aA (show aY w ca cl cs from h.2.2.2)
 have RQN:=aA (show qa=none→ql=0∧qc=0 from hss.q)
 have RMN:=aA (show ma=none→ml=0∧mc=0 from hss.m)
 have RCN:=aA (show ca=none→cl=0∧cc=0 from hss.c)
 have SV:=aA (show eF w aa al hs0 from hav)
 have SH:=aA (show iP w hs0 apps from hhd)
 have HF:=aA hf
 have HSS:=aA hss.k
 have hal0:al=hs0.length:=hav.1
 have HAL:=aA hal0
 have hb0:=yA (yA (yA (Below.refl _ w) (.cells #[.slice qa ql qc,.int .i64 clock,.int .i64 epoch,.int .i64 next,.int .i64 serial,.slice aa al ac,.slice ma ml mc,.slice ca cl cc] 34)) (.cells #[.slice none 0 0,.int .i64 0,.int .i64 0,.int .i64 0,.int .i64 0,.slice none 0 0,.slice none 0 0,.slice none 0 0] 34)) (.cells #[.slice qa ql qc,.int .i64 clock,.int .i64 epoch,.int .i64 next,.int .i64 serial,.slice aa al ac,.slice ma ml mc,.slice ca cl cc] 34)
 have CP:=aA (show CpS w #[.slice qa ql qc,.int .i64 clock,.int .i64 epoch,.int .i64 next,.int .i64 serial,.slice aa al ac,.slice ma ml mc,.slice ca cl cc] #[.slice qa ql qc,.int .i64 clock,.int .i64 epoch,.int .i64 next,.int .i64 serial,.slice aa al ac,.slice ma ml mc,.slice ca cl cc] (((w.alloc (.cells #[.slice qa ql qc,.int .i64 clock,.int .i64 epoch,.int .i64 next,.int .i64 serial,.slice aa al ac,.slice ma ml mc,.slice ca cl cc] 34)).alloc (.cells #[.slice none 0 0,.int .i64 0,.int .i64 0,.int .i64 0,.int .i64 0,.slice none 0 0,.slice none 0 0,.slice none 0 0] 34)).alloc (.cells #[.slice qa ql qc,.int .i64 clock,.int .i64 epoch,.int .i64 next,.int .i64 serial,.slice aa al ac,.slice ma ml mc,.slice ca cl cc] 34)) from
  ⟨((yD w _ _).al _).al _,by have:=(yD (w.alloc (.cells #[.slice qa ql qc,.int .i64 clock,.int .i64 epoch,.int .i64 next,.int .i64 serial,.slice aa al ac,.slice ma ml mc,.slice ca cl cc] 34)) #[.slice none 0 0,.int .i64 0,.int .i64 0,.int .i64 0,.int .i64 0,.slice none 0 0,.slice none 0 0,.slice none 0 0] 34).al (.cells #[.slice qa ql qc,.int .i64 clock,.int .i64 epoch,.int .i64 next,.int .i64 serial,.slice aa al ac,.slice ma ml mc,.slice ca cl cc] 34);rwa [yE] at this,by have:=yD ((w.alloc (.cells #[.slice qa ql qc,.int .i64 clock,.int .i64 epoch,.int .i64 next,.int .i64 serial,.slice aa al ac,.slice ma ml mc,.slice ca cl cc] 34)).alloc (.cells #[.slice none 0 0,.int .i64 0,.int .i64 0,.int .i64 0,.int .i64 0,.slice none 0 0,.slice none 0 0,.slice none 0 0] 34)) #[.slice qa ql qc,.int .i64 clock,.int .i64 epoch,.int .i64 next,.int .i64 serial,.slice aa al ac,.slice ma ml mc,.slice ca cl cc] 34;rwa [yE,yE] at this,hb0,by rw [yE,yE,yE];omega⟩)
 clear h hav hhd hb0 hf hss hcq hca hcm hcc hal0
 go_enter Tryz.func23,Tryz.ntmps23
 have HM:=aA (RmL.nil (w.heap.size+3) (((w.alloc (.cells #[.slice qa ql qc,.int .i64 clock,.int .i64 epoch,.int .i64 next,.int .i64 serial,.slice aa al ac,.slice ma ml mc,.slice ca cl cc] 34)).alloc (.cells #[.slice none 0 0,.int .i64 0,.int .i64 0,.int .i64 0,.int .i64 0,.slice none 0 0,.slice none 0 0,.slice none 0 0] 34)).alloc (.cells #[.slice qa ql qc,.int .i64 clock,.int .i64 epoch,.int .i64 next,.int .i64 serial,.slice aa al ac,.slice ma ml mc,.slice ca cl cc] 34)))
 go_upto_region 2 with fail
 generalize ((w.alloc (.cells #[.slice qa ql qc,.int .i64 clock,.int .i64 epoch,.int .i64 next,.int .i64 serial,.slice aa al ac,.slice ma ml mc,.slice ca cl cc] 34)).alloc (.cells #[.slice none 0 0,.int .i64 0,.int .i64 0,.int .i64 0,.int .i64 0,.slice none 0 0,.slice none 0 0,.slice none 0 0] 34)).alloc (.cells #[.slice qa ql qc,.int .i64 clock,.int .i64 epoch,.int .i64 next,.int .i64 serial,.slice aa al ac,.slice ma ml mc,.slice ca cl cc] 34)=w3 at CP HM ⊢
 have hb1:=yA (Below.refl _ w3) (.cells #[] 100)
 have HNW:=aA (show ∀ad,qa=some ad→∀j u,(eZ qs)[j]? = some u→(w3.alloc (.cells #[] 100)).cell? (ad.add j)=some u from fun ad he j u hj=>by
  have hr:=(((uH RQ).below (uH CP).b).below hb1)
  rcases hr.2 with e | ⟨b,off,e,_⟩
  ·have hl:=jF qs
   have h2:=(List.getElem?_eq_some_iff.1 hj).1
   have h3:=hr.1
   rw [hl] at h2
   omega
  ·obtain rfl:=Option.some.inj (he.symm.trans e)
   rw [e] at hr
   have:=yO hr j u hj
   rw [Lib.add_plain]
   exact this)
 have hown:(w3.alloc (.cells #[] 100)).ownsRow w3.heap.size 100 4 (.slice (some ⟨w3.heap.size,0,none⟩) 0 0) 0 []:=yN w3
 have hll:(eZ qs).length=ql*4:=by rw [jF,(uH RQ).1]
 have hone:=qO qs
 have cp1:=(uH CP).below hb1
 have a0:=cp1.r0.at 0
 simp at a0
 obtain ⟨i0,hi,hz0,hz1,hz2⟩:=info_parts Tryz.infoQ
 clear cp1
 go_wp2_with (at_builtin;refine eY _ rfl _ _ 29 rfl w3.heap.size 100 i0 (.agg #[.string ByteArray.empty,.string ByteArray.empty,.int .i64 0,.int .i64 0]) 4 48 Tryz.underlying29 hi hz0 hz1 hz2 rfl (by decide) _ _ _ rfl hown qa ql qc (eZ qs) rfl (uH RQN) hll (uH HNW) hone ?c3 ?c4 ?c5 ?_)
 case c3=>unfold maxLen;omega
 case c4=>omega
 case c5=>simp
 intro v w4 hown' hgrow _
 have hbB:Below w3.heap.size w3 w4:=hb1.grown hgrow (by simp) (fun k e=>by simp [Value.ownBlock] at e;omega)
 have hoo:tF (w.heap.size+3) w4 v qs:=by
  refine aGK (B:=w3.heap.size) ?_ (uH CP).z
  unfold tF
  rw [←(uH RQ).1]
  simpa using hown'
 obtain ⟨qo,qd,rfl,hcap,hhas⟩:=tF.has hoo
 obtain ⟨nq,hnl⟩:∃n,qs.length=n:=⟨_,rfl⟩
 rw [hnl] at hhas ⊢
 have HH0:=aA hhas
 have HMb:=aA (RmL.cons (gV hoo) ((uH HM).below hbB))
 have CPb:=aA ((uH CP).below hbB)
 have HNL0:=aA hnl
 have HCAP0:=aA (show nq≤qd by omega)
 have d0:=(uH CPb).r2.at 0
 have f0:=(uH CPb).r2.f 0
 simp at d0
 clear hown' hgrow hown hone hll HNW a0 hhas hoo hb1 hbB hnl hcap hi hz0 hz1 hz2 CP
 go_upto_region 3 with fail
 have CP:=aA (show CpS w _ #[.slice qo nq qd,.int .i64 clock,.int .i64 epoch,.int .i64 next,.int .i64 serial,.slice aa al ac,.slice ma ml mc,.slice ca cl cc] (w4.setCell ⟨w.heap.size+2,0,none⟩ (.slice qo nq qd)) from (uH CPb).sc 0 (.slice qo nq qd))
 have HMn:=aA ((uH HMb).sc (w.heap.size+2) 0 (.slice qo nq qd))
 have HHn0:=aA ((uH HH0).sc (k:=w.heap.size+2) (j:=0) (v:=.slice qo nq qd) (by omega))
 generalize w4.setCell ⟨w.heap.size+2,0,none⟩ (.slice qo nq qd)=w5 at CP HMn HHn0  ⊢
 clear d0 f0 CPb HH0 i0 HM HMb
 have HM:=HMn
 clear HMn
 have HH0:=HHn0
 clear HHn0
 have hb1:=yA (Below.refl _ w5) (.cells #[] 104)
 have HNW:=aA (show ∀ad,ma=some ad→∀j u,(fA ms)[j]? = some u→(w5.alloc (.cells #[] 104)).cell? (ad.add j)=some u from fun ad he j u hj=>by
  have hr:=(((uH RM).below (uH CP).b).below hb1)
  rcases hr.2 with e | ⟨b,off,e,_⟩
  ·have hl:=jH ms
   have h2:=(List.getElem?_eq_some_iff.1 hj).1
   have h3:=hr.1
   rw [hl] at h2
   omega
  ·obtain rfl:=Option.some.inj (he.symm.trans e)
   rw [e] at hr
   have:=zD hr j u hj
   rw [Lib.add_plain]
   exact this)
 have hown:(w5.alloc (.cells #[] 104)).ownsRow w5.heap.size 104 4 (.slice (some ⟨w5.heap.size,0,none⟩) 0 0) 0 []:=zC w5
 have hll:(fA ms).length=ml*4:=by rw [jH,(uH RM).1]
 have hone:=qR ms
 have cp1:=(uH CP).below hb1
 have a6:=cp1.r0.at 6
 simp at a6
 obtain ⟨i0,hi,hz0,hz1,hz2⟩:=info_parts Tryz.infoMachine
 clear cp1
 go_wp2_with (at_builtin;refine eY _ rfl _ _ 31 rfl w5.heap.size 104 i0 (.agg #[.string ByteArray.empty,.int .i64 0,.int .i64 0,.int .i64 0]) 4 40 Tryz.underlying31 hi hz0 hz1 hz2 rfl (by decide) _ _ _ rfl hown ma ml mc (fA ms) rfl (uH RMN) hll (uH HNW) hone ?c3 ?c4 ?c5 ?_)
 case c3=>unfold maxLen;omega
 case c4=>omega
 case c5=>simp
 intro v w6 hown' hgrow _
 have hbB:Below w5.heap.size w5 w6:=hb1.grown hgrow (by simp) (fun k e=>by simp [Value.ownBlock] at e;omega)
 have hoo:aHb (w.heap.size+3) w6 v ms:=by
  refine vD (B:=w5.heap.size) ?_ (uH CP).z
  unfold aHb
  rw [←(uH RM).1]
  simpa using hown'
 obtain ⟨mo,md,rfl,hcap,hhas⟩:=aDt hoo
 obtain ⟨nm,hnl⟩:∃n,ms.length=n:=⟨_,rfl⟩
 rw [hnl] at hhas ⊢
 have HH6:=aA hhas
 have HMb:=aA (RmL.cons (gV hoo) ((uH HM).below hbB))
 have CPb:=aA ((uH CP).below hbB)
 have HNL6:=aA hnl
 have HCAP6:=aA (show nm≤md by omega)
 have HH0b:=aA ((uH HH0).below hbB)
 have d6:=(uH CPb).r2.at 6
 have f6:=(uH CPb).r2.f 6
 simp at d6
 clear hown' hgrow hown hone hll HNW a6 hhas hoo hb1 hbB hnl hcap hi hz0 hz1 hz2 CP
 go_upto_region 4 with fail
 have CP:=aA (show CpS w _ #[.slice qo nq qd,.int .i64 clock,.int .i64 epoch,.int .i64 next,.int .i64 serial,.slice aa al ac,.slice mo nm md,.slice ca cl cc] (w6.setCell ⟨w.heap.size+2,6,none⟩ (.slice mo nm md)) from (uH CPb).sc 6 (.slice mo nm md))
 have HMn:=aA ((uH HMb).sc (w.heap.size+2) 6 (.slice mo nm md))
 have HHn6:=aA ((uH HH6).sc (k:=w.heap.size+2) (j:=6) (v:=.slice mo nm md) (by omega))
 have HH0n:=aA ((uH HH0b).sc (k:=w.heap.size+2) (j:=6) (v:=.slice mo nm md) (by omega))
 generalize w6.setCell ⟨w.heap.size+2,6,none⟩ (.slice mo nm md)=w7 at CP HMn HHn6 HH0n ⊢
 clear d6 f6 CPb HH6 i0 HM HMb HH0 HH0b
 have HM:=HMn
 clear HMn
 have HH0:=HH0n
 clear HH0n
 have HH6:=HHn6
 clear HHn6
 have hb1:=yA (Below.refl _ w7) (.cells #[] 38)
 have HNW:=aA (show ∀ad,ca=some ad→∀j u,(aI cs)[j]? = some u→(w7.alloc (.cells #[] 38)).cell? (ad.add j)=some u from fun ad he j u hj=>by
  have hr:=(((uH RC).below (uH CP).b).below hb1)
  rcases hr.2 with e | ⟨b,off,e,_⟩
  ·have hl:=bU cs
   have h2:=(List.getElem?_eq_some_iff.1 hj).1
   have h3:=hr.1
   rw [hl] at h2
   omega
  ·obtain rfl:=Option.some.inj (he.symm.trans e)
   rw [e] at hr
   have:=gY hr j u hj
   rw [Lib.add_plain]
   exact this)
 have hown:(w7.alloc (.cells #[] 38)).ownsRow w7.heap.size 38 5 (.slice (some ⟨w7.heap.size,0,none⟩) 0 0) 0 []:=zT w7
 have hll:(aI cs).length=cl*5:=by rw [bU,(uH RC).1]
 have hone:=dG cs
 have cp1:=(uH CP).below hb1
 have a7:=cp1.r0.at 7
 simp at a7
 obtain ⟨i0,hi,hz0,hz1,hz2⟩:=info_parts Tryz.infoCont
 clear cp1
 go_wp2_with (at_builtin;refine eY _ rfl _ _ 32 rfl w7.heap.size 38 i0 (.agg #[.int .i64 0,.int .i64 0,.string ByteArray.empty,.int .i64 0,.int .i64 0]) 5 48 Tryz.underlying32 hi hz0 hz1 hz2 rfl (by decide) _ _ _ rfl hown ca cl cc (aI cs) rfl (uH RCN) hll (uH HNW) hone ?c3 ?c4 ?c5 ?_)
 case c3=>unfold maxLen;omega
 case c4=>omega
 case c5=>simp
 intro v w8 hown' hgrow hnz
 have hvn:v≠.slice none 0 0:=hnz
 have hbB:Below w7.heap.size w7 w8:=hb1.grown hgrow (by simp) (fun k e=>by simp [Value.ownBlock] at e;omega)
 have hoo:aFd (w.heap.size+3) w8 v cs:=by
  refine aHB (B:=w7.heap.size) ?_ (uH CP).z
  unfold aFd
  rw [←(uH RC).1]
  simpa using hown'
 obtain ⟨co,cd,rfl,hcap,hhas⟩:=aAi hoo
 have HNZ7:=aA (show ∃g,co=some ⟨g,0,none⟩ from by
  rcases hoo.2 with ⟨e,_⟩ | ⟨g,cap,cur,e,_⟩
  ·exact absurd e hvn
  ·cases e;exact ⟨g,rfl⟩)
 clear hvn hnz
 obtain ⟨nc,hnl⟩:∃n,cs.length=n:=⟨_,rfl⟩
 rw [hnl] at hhas ⊢
 have HH7:=aA hhas
 have HMb:=aA (RmL.cons (gV hoo) ((uH HM).below hbB))
 have CPb:=aA ((uH CP).below hbB)
 have HNL7:=aA hnl
 have HCAP7:=aA (show nc≤cd by omega)
 have HH0b:=aA ((uH HH0).below hbB)
 have HH6b:=aA ((uH HH6).below hbB)
 have d7:=(uH CPb).r2.at 7
 have f7:=(uH CPb).r2.f 7
 simp at d7
 clear hown' hgrow hown hone hll HNW a7 hhas hoo hb1 hbB hnl hcap hi hz0 hz1 hz2 CP
 go_upto_region 5 with fail
 have CP:=aA (show CpS w _ #[.slice qo nq qd,.int .i64 clock,.int .i64 epoch,.int .i64 next,.int .i64 serial,.slice aa al ac,.slice mo nm md,.slice co nc cd] (w8.setCell ⟨w.heap.size+2,7,none⟩ (.slice co nc cd)) from (uH CPb).sc 7 (.slice co nc cd))
 have HMn:=aA ((uH HMb).sc (w.heap.size+2) 7 (.slice co nc cd))
 have HHn7:=aA ((uH HH7).sc (k:=w.heap.size+2) (j:=7) (v:=.slice co nc cd) (by omega))
 have HH0n:=aA ((uH HH0b).sc (k:=w.heap.size+2) (j:=7) (v:=.slice co nc cd) (by omega))
 have HH6n:=aA ((uH HH6b).sc (k:=w.heap.size+2) (j:=7) (v:=.slice co nc cd) (by omega))
 generalize w8.setCell ⟨w.heap.size+2,7,none⟩ (.slice co nc cd)=w9 at CP HMn HHn7 HH0n HH6n ⊢
 clear d7 f7 CPb HH7 i0 HM HMb HH0 HH6 HH0b HH6b
 have HM:=HMn
 clear HMn
 have HH0:=HH0n
 have HH6:=HH6n
 clear HH0n HH6n
 have HH7:=HHn7
 clear HHn7
 have hb1:=yA (Below.refl _ w9) (.cells #[] 74)
 have PO:=aA (show aAs w9.heap.size (w9.alloc (.cells #[] 74)) (.slice (some ⟨w9.heap.size,0,none⟩) 0 0) [] from yQ w9)
 have CPb:=aA ((uH CP).below hb1)
 have HMb:=aA ((uH HM).below hb1)
 have H0b:=aA ((uH HH0).below hb1)
 have H6b:=aA ((uH HH6).below hb1)
 have H7b:=aA ((uH HH7).below hb1)
 have d5:=(uH CPb).r2.at 5
 have f5:=(uH CPb).r2.f 5
 simp at d5
 have hz9:=(uH CP).z
 obtain ⟨g0,hg0⟩:∃g,w9.heap.size=g:=⟨_,rfl⟩
 have HG0:=aA hg0
 rw [hg0] at PO hz9
 clear hb1 CP HH0 HH6 HH7 hg0 HM
 go_upto_region 6 with fail
 rw [uH HG0]
 have CP:=aA (show CpS w #[.slice qa ql qc,.int .i64 clock,.int .i64 epoch,.int .i64 next,.int .i64 serial,.slice aa al ac,.slice ma ml mc,.slice ca cl cc] #[.slice qo nq qd,.int .i64 clock,.int .i64 epoch,.int .i64 next,.int .i64 serial,.slice (some ⟨g0,0,none⟩) 0 0,.slice mo nm md,.slice co nc cd] ((w9.alloc (.cells #[] 74)).setCell ⟨w.heap.size+2,5,none⟩ (.slice (some ⟨g0,0,none⟩) 0 0)) from (uH CPb).sc 5 _)
 have HM:=aA ((uH HMb).sc (w.heap.size+2) 5 (.slice (some ⟨g0,0,none⟩) 0 0))
 have H0:=aA ((uH H0b).sc (k:=w.heap.size+2) (j:=5) (v:=.slice (some ⟨g0,0,none⟩) 0 0) (by omega))
 have H6:=aA ((uH H6b).sc (k:=w.heap.size+2) (j:=5) (v:=.slice (some ⟨g0,0,none⟩) 0 0) (by omega))
 have H7:=aA ((uH H7b).sc (k:=w.heap.size+2) (j:=5) (v:=.slice (some ⟨g0,0,none⟩) 0 0) (by omega))
 have PO2:=aA (uU (yP (uH PO) (w.heap.size+2) 5 (.slice (some ⟨g0,0,none⟩) 0 0) (by omega)) hz9)
 generalize (w9.alloc (.cells #[] 74)).setCell ⟨w.heap.size+2,5,none⟩ (.slice (some ⟨g0,0,none⟩) 0 0)=w10 at CP HM H0 H6 H7 PO2 ⊢
 clear CPb HMb H0b H6b H7b d5 f5 PO hz9
 go_wp2
 go_loopw [4] (fun i wr=>∃(k:Nat),k≤al∧i=.int .i64 k∧Hid (∃po pd ns,aAs (w.heap.size+3) wr (.slice po k pd) ns∧ns.length=k∧kD (w.heap.size+3) wr ns (apps.take k)∧RmL (w.heap.size+3) wr (RL4 co cd mo md qo qd ns)∧CpS w #[.slice qa ql qc,.int .i64 clock,.int .i64 epoch,.int .i64 next,.int .i64 serial,.slice aa al ac,.slice ma ml mc,.slice ca cl cc] #[.slice qo nq qd,.int .i64 clock,.int .i64 epoch,.int .i64 next,.int .i64 serial,.slice po k pd,.slice mo nm md,.slice co nc cd] wr)∧Hid (tX (w.heap.size+3) wr qo nq qs)∧Hid (tH (w.heap.size+3) wr mo nm ms)∧Hid (qL (w.heap.size+3) wr co nc cs)) (fun i _=>al - (intOf i).toNat)
 case atStart=>exact ⟨0,Nat.zero_le _,rfl,aA ⟨some ⟨g0,0,none⟩,0,[],uH PO2,rfl,by simpa using kD.nil _ _,by simpa [RL4] using uH HM,uH CP⟩,H0,H6,H7⟩
 case round=>
  clear CP H0 H6 H7 PO2 HM
  obtain ⟨k,hk,rfl,HX,H0,H6,H7⟩:=hrel
  obtain ⟨po,pd,ns,hpo,hns,hkh,hrm,hcp⟩:=uH HX
  have HC:=aA hcp
  have HNS:=aA hns
  have a5:=hcp.r0.at 5
  simp at a5
  by_cases hlt:k<al
  ·have hk0:k<hs0.length:=by have:=uH HAL;omega
   have hk1:k<apps.length:=by have:=(uH SH).1;omega
   obtain ⟨b,off,rfl,hat⟩:=((uH SV).below hcp.b).at hlt
   obtain ⟨c0,c1,c2⟩:=hat hk0
   obtain ⟨e0,e1,e2,e3⟩:=(uH SH).2 k hk0 hk1
   have hfa:=(uH HF).2.1.2 apps[k] (List.getElem_mem hk1)
   have haad:=uH HSS hs0[k] (List.getElem_mem hk0)
   obtain ⟨⟨ai,aq,ak⟩,hap⟩:∃a,apps[k]=a:=⟨_,rfl⟩
   obtain ⟨⟨vi,vq,va,vl,vc⟩,hv⟩:∃v,hs0[k]=v:=⟨_,rfl⟩
   have htk:apps.take (k+1)=apps.take k++[⟨ai,aq,ak⟩]:=by rw [List.take_succ_eq_append_getElem hk1,hap]
   rw [hap] at e0 e1 e2 hfa
   rw [hv] at c0 c1 c2 e0 e1 e2 e3 haad
   simp only at c0 c1 c2 e0 e1 e2 e3 haad
   subst e0 e1
   have HAD:=aA haad
   clear haad
   have hvl:vl≤1048576:=by have:=e2.1;have:ak.length≤1048576:=hfa.2.1;omega
   have hrow:=e2.below hcp.b
   have HTK:=aA htk
   have HPO:=aA hpo
   have HKH:=aA hkh
   have HW:=aA (yA (Below.refl _ wr) (.cells #[.int .i64 vi,.string (bs vq),.slice va vl vc] 74))
   have X0:=aA (hcp.below (uH HW))
   have XP:=aA (yR hpo (uH HW))
   have XK:=aA (hkh.below (uH HW))
   have XM:=aA (hrm.below (uH HW))
   have Y0:=aA ((uH H0).below (uH HW))
   have Y6:=aA ((uH H6).below (uH HW))
   have Y7:=aA ((uH H7).below (uH HW))
   have XA:=aA (yD wr #[.int .i64 vi,.string (bs vq),.slice va vl vc] 74)
   have XR:=aA (hrow.below (uH HW))
   obtain ⟨ba,hba⟩:∃b,wr.heap.size=b:=⟨_,rfl⟩
   have HBA:=aA hba
   have HPLT:=aA (show ∀kk,(Value.slice po k pd).ownBlock=some kk→kk<ba from fun kk e=>by have:=(World.ownsRow.lt hpo kk e).2;omega)
   rw [hba] at XA
   have hzb:w.heap.size+3≤ba:=by have:=hcp.z;omega
   have k0:(0:Int)≤k:=by omega
   have k1:(k:Int)<al:=by omega
   clear hpo hkh hrm hcp hat hap hv htk hrow e3 hfa hk0 hk1 hns HX H0 H6 H7 hba
   go_upto_region 10 with fail
   rw [uH HBA]
   have XZ:=aA (show (wr.alloc (.cells #[.int .i64 vi,.string (bs vq),.slice va vl vc] 74)).heap.size=ba+1 by rw [yE,uH HBA])
   generalize wr.alloc (.cells #[.int .i64 vi,.string (bs vq),.slice va vl vc] 74)=W at X0 XP XK XM Y0 Y6 Y7 XA XR XZ ⊢
   clear HW HC HPO HKH c0 c1 c2 a5 e2
   have hb1:=yA (Below.refl _ W) (.cells #[] 77)
   have HNW:=aA (show ∀ad,va=some ad→∀j u,(aN ak)[j]? = some u→(W.alloc (.cells #[] 77)).cell? (ad.add j)=some u from fun ad he j u hj=>by
    have hr:=(uH XR).below hb1
    rcases hr.2 with e | ⟨b,off,e,_⟩
    ·have hl:=aV ak
     have h2:=(List.getElem?_eq_some_iff.1 hj).1
     have h3:=hr.1
     rw [hl] at h2
     omega
    ·obtain rfl:=Option.some.inj (he.symm.trans e)
     rw [e] at hr
     have:=nL hr j u hj
     rw [Lib.add_plain]
     exact this)
   have hown:(W.alloc (.cells #[] 77)).ownsRow W.heap.size 77 5 (.slice (some ⟨W.heap.size,0,none⟩) 0 0) 0 []:=rF W
   have hll:(aN ak).length=vl*5:=by rw [aV,(uH XR).1]
   have hone:=iB ak
   have xa2:=((uH XA).below hb1).at 2
   simp at xa2
   obtain ⟨i0,hi,hz0,hz1,hz2⟩:=info_parts Tryz.infoA
   go_wp2_with (at_builtin;refine eY _ rfl _ _ 72 rfl W.heap.size 77 i0 (.agg #[.int .i64 0,.int .i64 0,.int .i64 0,.string ByteArray.empty,.int .i64 0]) 5 48 Tryz.underlying72 hi hz0 hz1 hz2 rfl (by decide) _ _ _ rfl hown va vl vc (aN ak) rfl (uH HAD) hll (uH HNW) hone ?c3 ?c4 ?c5 ?_)
   case c3=>unfold maxLen;omega
   case c4=>omega
   case c5=>simp
   intro v w11 hown' hgrow _
   have hbB:Below W.heap.size W w11:=hb1.grown hgrow (by simp) (fun k e=>by simp [Value.ownBlock] at e;omega)
   have hoo:rM W.heap.size w11 v ak:=by
    unfold rM
    rw [←(uH XR).1]
    simpa using hown'
   obtain ⟨no,nd,rfl,hnd,hnr,hno⟩:=uD hoo
   obtain ⟨nl,hnl⟩:∃n,ak.length=n:=⟨_,rfl⟩
   have HNL:=aA hnl
   have HND:=aA hnd
   have HNR:=aA hnr
   have HAM:=aA ((gV hoo).mono (show w.heap.size+3≤W.heap.size by have:=uH XZ;omega) (Nat.le_refl _))
   have HNO:=aA hno
   rw [hnl]
   have HBW:=aA hbB
   have XAb:=aA ((uH XA).below hbB)
   have xd2:=(uH XAb).at 2
   have xf2:=(uH XAb).f 2
   simp at xd2
   clear hown' hgrow hown hone hll HNW xa2 hoo hb1 hbB hnl hnd hnr hno hi hz0 hz1 hz2
   go_upto_region 11 with fail
   have N2:Mks (fun k=>k=ba) w11 (w11.setCell ⟨ba,2,none⟩ (.slice no nl nd)):=Mks.one _ _ _ _ _ rfl
   have hcel:Cel w11 74 ba 3:=⟨_,uH XAb,rfl⟩
   have X0n:=aA (show CpS w _ #[.slice qo nq qd,.int .i64 clock,.int .i64 epoch,.int .i64 next,.int .i64 serial,.slice po k pd,.slice mo nm md,.slice co nc cd] (w11.setCell ⟨ba,2,none⟩ (.slice no nl nd)) from by
    have hx:=(uH X0).below (uH HBW)
    exact ⟨hx.r0.other _ _ _ (by omega),hx.r1.other _ _ _ (by omega),hx.r2.other _ _ _ (by omega),yC hx.b _ _ _ (by omega),by rw [bE];exact hx.z⟩)
   have XPn:=aA (show aAs (w.heap.size+3) (w11.setCell ⟨ba,2,none⟩ (.slice no nl nd)) (.slice po k pd) ns from ownsRow_setCell_other (yR (uH XP) (uH HBW)) (a:=⟨ba,2,none⟩) (fun e=>by have:=uH HPLT ba e;omega) _)
   have XKn:=aA (show kD (w.heap.size+3) (w11.setCell ⟨ba,2,none⟩ (.slice no nl nd)) (ns++[⟨vi,vq,no,nl,nd⟩]) (apps.take (k+1)) from by
    rw [uH HTK,←uH HNL]
    exact ((uH XK).snoc (uH HBW) (by have:=uH XZ;omega) vi vq no nd ak (uH HND) (uH HNR) (uH HNO)).sc (.inr ⟨_,_,hcel,by decide⟩))
   have XMn:=aA (show RmL (w.heap.size+3) (w11.setCell ⟨ba,2,none⟩ (.slice no nl nd)) (RL4 co cd mo md qo qd (ns++[⟨vi,vq,no,nl,nd⟩])) from ((RmL.cons (uH HAM) ((uH XM).below (uH HBW))).sub (aHk co cd mo md qo qd ns ⟨vi,vq,no,nl,nd⟩)).sc ba 2 _)
   have hr1:∀k,some ba=some k→∃N,Cel w11 74 k N:=fun k e=>⟨3,by rw [←Option.some.inj e];exact hcel⟩
   have Y0n:=aA (((uH Y0).below (uH HBW)).grown (aAc w11 ba 2 (.slice no nl nd)) hr1 (by decide))
   have Y6n:=aA (((uH Y6).below (uH HBW)).grown (aAc w11 ba 2 (.slice no nl nd)) hr1 (by decide))
   have Y7n:=aA (((uH Y7).below (uH HBW)).grown (aAc w11 ba 2 (.slice no nl nd)) hr1 (by decide))
   have XAn:=aA (show Blk (w11.setCell ⟨ba,2,none⟩ (.slice no nl nd)) ba #[.int .i64 vi,.string (bs vq),.slice no nl nd] 74 from (uH XAb).set 2 _)
   generalize w11.setCell ⟨ba,2,none⟩ (.slice no nl nd)=w12 at X0n XPn XKn XMn Y0n Y6n Y7n XAn ⊢
   clear N2 hcel hr1 xd2 xf2 XAb HAM XM X0 XP XK Y0 Y6 Y7 XA XR XZ HBW HNR HNO HND HNL
   have hb2:=yA (Below.refl _ w12) (.cells #[.int .i64 vi,.string (bs vq),.slice no nl nd] 74)
   have g5:=(uH X0n).r2.at 5
   have q0:=(uH XAn).at 0
   have q1:=(uH XAn).at 1
   have q2:=(uH XAn).at 2
   simp at g5 q0 q1 q2
   have hzz:=(uH X0n).z
   have hown:w12.ownsRow (w.heap.size+3) 74 3 (.slice po k pd) k (bY ns):=by have:=uH XPn;unfold aAs at this;rwa [uH HNS] at this
   have HOW:=aA hown
   obtain ⟨i0,hi,hz0,hz1,hz2⟩:=info_parts Tryz.infoApp
   go_wp2_with (at_builtin;refine wpList_append_own _ rfl _ _ 30 rfl (w.heap.size+3) 74 i0 (.agg #[.int .i64 0,.string ByteArray.empty,.slice none 0 0]) 3 48 Tryz.underlying30 hi hz0 hz1 hz2 rfl (by decide) _ _ _ rfl (hown.alloc _) ⟨w12.heap.size,0,none⟩ 1 1 (aCp ⟨vi,vq,no,nl,nd⟩) rfl rfl ?c1 ?c2 ?c3 ?c4 ?c5 ?_)
   case c1=>exact World.news_of_block (yD w12 #[.int .i64 vi,.string (bs vq),.slice no nl nd] 74)
   case c2=>intro u hu;simp at hu;rcases hu with rfl | rfl | rfl<;>rfl
   case c3=>unfold maxLen;omega
   case c4=>omega
   case c5=>simp;omega
   intro v' w13 hown' hgrow _
   obtain ⟨ng,ncap,rfl,_,_⟩:=World.ownsRow.form hown' (by omega)
   have hr2:∀kk,(Value.slice po k pd).ownBlock=some kk→w.heap.size≤kk∧∃N,Cel (w12.alloc (.cells #[.int .i64 vi,.string (bs vq),.slice no nl nd] 74)) 74 kk N:=fun kk e=>by
    have h1:=(World.ownsRow.lt (uH HOW) kk e).1
    obtain ⟨N,hc⟩:=aHs (uH HOW) kk e
    exact ⟨by omega,N,hc.below hb2⟩
   have X0m:=aA (((uH X0n).below hb2).grown hgrow hr2 (by decide))
   have Y0m:=aA (((uH Y0n).below hb2).grown hgrow (fun kk e=>(hr2 kk e).2) (by decide))
   have Y6m:=aA (((uH Y6n).below hb2).grown hgrow (fun kk e=>(hr2 kk e).2) (by decide))
   have Y7m:=aA (((uH Y7n).below hb2).grown hgrow (fun kk e=>(hr2 kk e).2) (by decide))
   have XKm:=aA (((uH XKn).below hb2).grown hgrow (fun kk e=>(hr2 kk e).2) (by decide))
   have XMm:=aA (((uH XMn).below hb2).grown hgrow (fun kk e=>(hr2 kk e).2) (aIt co cd mo md qo qd _))
   have XPm:=aA (show aAs (w.heap.size+3) w13 (.slice (some ⟨ng,0,none⟩) (k+1) ncap) (ns++[⟨vi,vq,no,nl,nd⟩]) by
    unfold aAs
    rw [yV,List.length_append,uH HNS]
    exact hown')
   have d5:=(uH X0m).r2.at 5
   have f5:=(uH X0m).r2.f 5
   simp at d5
   clear hown hown' hgrow hr2 hb2 g5 q0 q1 q2 HOW X0n XPn XKn XMn Y0n Y6n Y7n XAn hi hz0 hz1 hz2
   go_wp2
   go_roundw
   case rel=>
    refine ⟨k+1,by omega,by go_num,aA ⟨some ⟨ng,0,none⟩,ncap,ns++[⟨vi,vq,no,nl,nd⟩],yP (uH XPm) _ _ _ (by omega),by simp [uH HNS],(uH XKm).sc (.inl (by omega)),(uH XMm).sc _ _ _,(uH X0m).sc 5 _⟩,aA ((uH Y0m).sc (by omega)),aA ((uH Y6m).sc (by omega)),aA ((uH Y7m).sc (by omega))⟩
   case measure=>simp [intOf];omega
  ·obtain rfl:k=al:=by omega
   have HC:=aA hcp
   have htk:apps.take k=apps:=List.take_of_length_le (by have:=(uH SH).1;have:=uH HAL;omega)
   have HPM:=aA (gV hpo)
   have HRM:=aA hrm
   obtain ⟨_,_,e,hpc,hph⟩:=aDm hpo
   rw [htk] at hkh
   rw [hns] at hph e hpc
   cases e
   have HPC:=aA hpc
   have HP:=aA hph
   have HK:=aA hkh
   have k1:¬(k:Int)<k:=by omega
   have b0:=hcp.r2.at 0;have b1:=hcp.r2.at 1;have b2:=hcp.r2.at 2;have b3:=hcp.r2.at 3;have b4:=hcp.r2.at 4;have b5:=hcp.r2.at 5;have b6:=hcp.r2.at 6;have b7:=hcp.r2.at 7
   have c0:=hcp.r1.at 0;have c1:=hcp.r1.at 1;have c2:=hcp.r1.at 2;have c3:=hcp.r1.at 3;have c4:=hcp.r1.at 4;have c5:=hcp.r1.at 5;have c6:=hcp.r1.at 6;have c7:=hcp.r1.at 7
   have f0:=hcp.r1.f 0;have f1:=hcp.r1.f 1;have f2:=hcp.r1.f 2;have f3:=hcp.r1.f 3;have f4:=hcp.r1.f 4;have f5:=hcp.r1.f 5;have f6:=hcp.r1.f 6;have f7:=hcp.r1.f 7
   simp at b0 b1 b2 b3 b4 b5 b6 b7 c0 c1 c2 c3 c4 c5 c6 c7
   clear hpo hkh hrm hcp htk hlt hns hph HX hpc
   go_wp2
   have R9:=aA (show Blk ((((((((wr.setCell ⟨w.heap.size+1,0,none⟩ (.slice qo nq qd)).setCell ⟨w.heap.size+1,1,none⟩ (.int .i64 clock)).setCell ⟨w.heap.size+1,2,none⟩ (.int .i64 epoch)).setCell ⟨w.heap.size+1,3,none⟩ (.int .i64 next)).setCell ⟨w.heap.size+1,4,none⟩ (.int .i64 serial)).setCell ⟨w.heap.size+1,5,none⟩ (.slice po k pd)).setCell ⟨w.heap.size+1,6,none⟩ (.slice mo nm md)).setCell ⟨w.heap.size+1,7,none⟩ (.slice co nc cd)) (w.heap.size+1) #[.slice qo nq qd,.int .i64 clock,.int .i64 epoch,.int .i64 next,.int .i64 serial,.slice po k pd,.slice mo nm md,.slice co nc cd] 34 from (((((((((uH HC).r1.set 0 (.slice qo nq qd)).set 1 (.int .i64 clock)).set 2 (.int .i64 epoch)).set 3 (.int .i64 next)).set 4 (.int .i64 serial)).set 5 (.slice po k pd)).set 6 (.slice mo nm md)).set 7 (.slice co nc cd)))
   have Q9:=aA (((((((((uH H0).sc (k:=w.heap.size+1) (j:=0) (v:=.slice qo nq qd) (by omega)).sc (k:=w.heap.size+1) (j:=1) (v:=.int .i64 clock) (by omega)).sc (k:=w.heap.size+1) (j:=2) (v:=.int .i64 epoch) (by omega)).sc (k:=w.heap.size+1) (j:=3) (v:=.int .i64 next) (by omega)).sc (k:=w.heap.size+1) (j:=4) (v:=.int .i64 serial) (by omega)).sc (k:=w.heap.size+1) (j:=5) (v:=.slice po k pd) (by omega)).sc (k:=w.heap.size+1) (j:=6) (v:=.slice mo nm md) (by omega)).sc (k:=w.heap.size+1) (j:=7) (v:=.slice co nc cd) (by omega))
   have P9:=aA (((((((((uH HP).sc (k:=w.heap.size+1) (j:=0) (v:=.slice qo nq qd) (by omega)).sc (k:=w.heap.size+1) (j:=1) (v:=.int .i64 clock) (by omega)).sc (k:=w.heap.size+1) (j:=2) (v:=.int .i64 epoch) (by omega)).sc (k:=w.heap.size+1) (j:=3) (v:=.int .i64 next) (by omega)).sc (k:=w.heap.size+1) (j:=4) (v:=.int .i64 serial) (by omega)).sc (k:=w.heap.size+1) (j:=5) (v:=.slice po k pd) (by omega)).sc (k:=w.heap.size+1) (j:=6) (v:=.slice mo nm md) (by omega)).sc (k:=w.heap.size+1) (j:=7) (v:=.slice co nc cd) (by omega))
   have K9:=aA (((((((((uH HK).sc (k:=w.heap.size+1) (j:=0) (v:=.slice qo nq qd) (.inl (by omega))).sc (k:=w.heap.size+1) (j:=1) (v:=.int .i64 clock) (.inl (by omega))).sc (k:=w.heap.size+1) (j:=2) (v:=.int .i64 epoch) (.inl (by omega))).sc (k:=w.heap.size+1) (j:=3) (v:=.int .i64 next) (.inl (by omega))).sc (k:=w.heap.size+1) (j:=4) (v:=.int .i64 serial) (.inl (by omega))).sc (k:=w.heap.size+1) (j:=5) (v:=.slice po k pd) (.inl (by omega))).sc (k:=w.heap.size+1) (j:=6) (v:=.slice mo nm md) (.inl (by omega))).sc (k:=w.heap.size+1) (j:=7) (v:=.slice co nc cd) (.inl (by omega)))
   have M9:=aA (((((((((uH H6).sc (k:=w.heap.size+1) (j:=0) (v:=.slice qo nq qd) (by omega)).sc (k:=w.heap.size+1) (j:=1) (v:=.int .i64 clock) (by omega)).sc (k:=w.heap.size+1) (j:=2) (v:=.int .i64 epoch) (by omega)).sc (k:=w.heap.size+1) (j:=3) (v:=.int .i64 next) (by omega)).sc (k:=w.heap.size+1) (j:=4) (v:=.int .i64 serial) (by omega)).sc (k:=w.heap.size+1) (j:=5) (v:=.slice po k pd) (by omega)).sc (k:=w.heap.size+1) (j:=6) (v:=.slice mo nm md) (by omega)).sc (k:=w.heap.size+1) (j:=7) (v:=.slice co nc cd) (by omega))
   have C9:=aA (((((((((uH H7).sc (k:=w.heap.size+1) (j:=0) (v:=.slice qo nq qd) (by omega)).sc (k:=w.heap.size+1) (j:=1) (v:=.int .i64 clock) (by omega)).sc (k:=w.heap.size+1) (j:=2) (v:=.int .i64 epoch) (by omega)).sc (k:=w.heap.size+1) (j:=3) (v:=.int .i64 next) (by omega)).sc (k:=w.heap.size+1) (j:=4) (v:=.int .i64 serial) (by omega)).sc (k:=w.heap.size+1) (j:=5) (v:=.slice po k pd) (by omega)).sc (k:=w.heap.size+1) (j:=6) (v:=.slice mo nm md) (by omega)).sc (k:=w.heap.size+1) (j:=7) (v:=.slice co nc cd) (by omega))
   have B9:=aA (yC (yC (yC (yC (yC (yC (yC (yC (uH HC).b (w.heap.size+1) 0 (.slice qo nq qd) (by omega)) (w.heap.size+1) 1 (.int .i64 clock) (by omega)) (w.heap.size+1) 2 (.int .i64 epoch) (by omega)) (w.heap.size+1) 3 (.int .i64 next) (by omega)) (w.heap.size+1) 4 (.int .i64 serial) (by omega)) (w.heap.size+1) 5 (.slice po k pd) (by omega)) (w.heap.size+1) 6 (.slice mo nm md) (by omega)) (w.heap.size+1) 7 (.slice co nc cd) (by omega))
   have N9:=aA (((((((((uH HRM).sc (w.heap.size+1) 0 (.slice qo nq qd)).sc (w.heap.size+1) 1 (.int .i64 clock)).sc (w.heap.size+1) 2 (.int .i64 epoch)).sc (w.heap.size+1) 3 (.int .i64 next)).sc (w.heap.size+1) 4 (.int .i64 serial)).sc (w.heap.size+1) 5 (.slice po k pd)).sc (w.heap.size+1) 6 (.slice mo nm md)).sc (w.heap.size+1) 7 (.slice co nc cd))
   have L9:=aA (lQ (lQ (lQ (lQ (lQ (lQ (lQ (lQ (uH HPM) (w.heap.size+1) 0 (.slice qo nq qd)) (w.heap.size+1) 1 (.int .i64 clock)) (w.heap.size+1) 2 (.int .i64 epoch)) (w.heap.size+1) 3 (.int .i64 next)) (w.heap.size+1) 4 (.int .i64 serial)) (w.heap.size+1) 5 (.slice po k pd)) (w.heap.size+1) 6 (.slice mo nm md)) (w.heap.size+1) 7 (.slice co nc cd))
   generalize ((((((((wr.setCell ⟨w.heap.size+1,0,none⟩ (.slice qo nq qd)).setCell ⟨w.heap.size+1,1,none⟩ (.int .i64 clock)).setCell ⟨w.heap.size+1,2,none⟩ (.int .i64 epoch)).setCell ⟨w.heap.size+1,3,none⟩ (.int .i64 next)).setCell ⟨w.heap.size+1,4,none⟩ (.int .i64 serial)).setCell ⟨w.heap.size+1,5,none⟩ (.slice po k pd)).setCell ⟨w.heap.size+1,6,none⟩ (.slice mo nm md)).setCell ⟨w.heap.size+1,7,none⟩ (.slice co nc cd))=W9 at R9 Q9 P9 K9 M9 C9 B9 N9 L9 ⊢
   have z0:=(uH R9).at 0;have z1:=(uH R9).at 1;have z2:=(uH R9).at 2;have z3:=(uH R9).at 3;have z4:=(uH R9).at 4;have z5:=(uH R9).at 5;have z6:=(uH R9).at 6;have z7:=(uH R9).at 7
   simp at z0 z1 z2 z3 z4 z5 z6 z7
   refine bodyPost_ret (v:=.agg #[.slice qo nq qd,.int .i64 clock,.int .i64 epoch,.int .i64 next,.int .i64 serial,.slice po k pd,.slice mo nm md,.slice co nc cd]) (by simp [results,Tryz.results23,go_sem,z0,z1,z2,z3,z4,z5,z6,z7]) rfl (show aER w _ _ _ from ⟨⟨qo,nq,qd,po,k,pd,mo,nm,md,co,nc,cd⟩,ns,rfl,?_,uH B9,uH HNZ7⟩)
   exact (aCg (x:=⟨qo,nq,qd,po,k,pd,mo,nm,md,co,nc,cd⟩) (s:=⟨qs,clock,epoch,next,serial,apps,ms,cs⟩) (uH Q9) (uH P9) (uH K9) (uH M9) (uH C9) ⟨uH HCAP0,uH HPC,uH HCAP6,uH HCAP7⟩ (aIa (uH N9) (uH L9))).mono (by omega) (Nat.le_refl _)
theorem aJK (x:Sls) (s:St) (hs0:List AV) (w:World) (h:iJ w x s) (hav:eF w x.aa x.al hs0) (hhd:iP w hs0 s.apps) (hss:aH2 x hs0) (hf:bS s) :
  Calls Tryz.prog 23 #[sv x s] w (aDb w s):=(sG x s hs0 w h hav hhd hss hf).mono fun e w' ⟨y,hs,h1,h2,h3,_⟩=>⟨y,hs,h1,h2,h3⟩
theorem tX.base {B B' n:Nat} {w:World} {ao:Option Addr} {l:List Q} (h:tX B w ao n l) (hb:B'≤B):tX B' w ao n l:=⟨h.1,h.2.mono hb (Nat.le_refl _)⟩
theorem tH.base {B B' n:Nat} {w:World} {ao:Option Addr} {l:List Mac} (h:tH B w ao n l) (hb:B'≤B):tH B' w ao n l:=⟨h.1,h.2.mono hb (Nat.le_refl _)⟩
theorem oN.base {B B' n:Nat} {w:World} {ao:Option Addr} {l:List AV} (h:oN B w ao n l) (hb:B'≤B):oN B' w ao n l:=⟨h.1,h.2.mono hb (Nat.le_refl _)⟩
theorem kD.base {B B':Nat} {w:World} {hs:List AV} {l:List dB} (h:kD B w hs l) (hb:B'≤B):kD B' w hs l:=⟨h.heads,fun v hv=>(h.own v hv).mono hb (Nat.le_refl _),h.apart⟩
theorem aGp (w:World):iP w [] []:=⟨rfl,fun i h=>absurd h (by simp)⟩
theorem aFN {w:World} {v:AV} {t:List AV} {a:dB} {s:List dB} (h:iP w (v::t) (a::s)):(v.id=a.id∧v.queue=a.queue∧aO w v.ao v.len a.asks∧v.len≤v.cap)∧iP w t s:=
 ⟨h.2 0 (by simp) (by simp),by simpa using h.1,fun i h1 h2=>by have:=h.2 (i+1) (by simpa using h1) (by simpa using h2);simpa using this⟩
theorem aGo {w:World} {v:AV} {t:List AV} {a:dB} {s:List dB} (h:v.id=a.id∧v.queue=a.queue∧aO w v.ao v.len a.asks∧v.len≤v.cap) (h':iP w t s):iP w (v::t) (a::s):=
 ⟨by simp [h'.1],fun i h1 h2=>by
  cases i with
  | zero=>exact h
  | succ i=>exact h'.2 i (by simpa using h1) (by simpa using h2)⟩
theorem sK {w:World} (f:Int→Bool):∀(hs:List AV) (l:List dB),iP w hs l→iP w (hs.filter (fun v=>f v.id)) (l.filter (fun a=>f a.id))
 | [],[],_=>aGp w
 | [],a::s,h=>absurd h.1 (by simp)
 | v::t,[],h=>absurd h.1 (by simp)
 | v::t,a::s,h=>by
  obtain ⟨h1,h2⟩:=aFN h
  have ih:=sK f t s h2
  cases hf:f a.id with
  | true=>rw [List.filter_cons_of_pos (by simpa [h1.1] using hf),List.filter_cons_of_pos (by simpa using hf)];exact aGo h1 ih
  | false=>rw [List.filter_cons_of_neg (by simp [h1.1,hf]),List.filter_cons_of_neg (by simp [hf])];exact ih
theorem kD.filter {B:Nat} {w:World} {hs:List AV} {l:List dB} (h:kD B w hs l) (f:Int→Bool):kD B w (hs.filter (fun v=>f v.id)) (l.filter (fun a=>f a.id)):=
 ⟨sK f hs l h.heads,fun v hv=>h.own v (List.mem_filter.1 hv).1,h.apart.filter _⟩
structure iU (B:Nat) (w:World) (x:Sls) (s:St) (hs:List AV):Prop where
 q:tX B w x.qa x.ql s.qs
 p:oN B w x.aa x.al hs
 k:kD B w hs s.apps
 m:tH B w x.ma x.ml s.ms
 c:qL B w x.ca x.cl s.cs
 cap:aK0 x
 rm:RmS B w.heap.size w x hs
theorem iU.below {B:Nat} {w w':World} {x:Sls} {s:St} {hs:List AV} (h:iU B w x s hs) (hb:Below w.heap.size w w'):iU B w' x s hs:=⟨h.q.below hb,h.p.below hb,h.k.below hb,h.m.below hb,h.c.below hb,h.cap,(h.rm.below hb).mono (Nat.le_refl _) hb.size⟩
theorem iU.base {B B':Nat} {w:World} {x:Sls} {s:St} {hs:List AV} (h:iU B w x s hs) (hb:B'≤B):iU B' w x s hs:=⟨h.q.base hb,h.p.base hb,h.k.base hb,h.m.base hb,h.c.base hb,h.cap,h.rm.mono hb (Nat.le_refl _)⟩
theorem iU.ans {B:Nat} {w:World} {x:Sls} {s:St} {hs:List AV} (h:iU B w x s hs):qH B w.heap.size w x s hs:=aCg h.q h.p h.k h.m h.c h.cap h.rm
theorem qH.has {B E:Nat} {w:World} {x:Sls} {s:St} {hs:List AV} (h:qH B E w x s hs) (hE:E≤w.heap.size):iU B w x s hs:=
 ⟨⟨h.row.1,h.q.mono (Nat.le_refl _) hE⟩,⟨h.av,h.a.mono (Nat.le_refl _) hE⟩,⟨h.heads,fun v hv=>(h.asks v hv).mono (Nat.le_refl _) hE,h.apart⟩,⟨h.row.2.2.1,h.m.mono (Nat.le_refl _) hE⟩,⟨h.row.2.2.2,h.c.mono (Nat.le_refl _) hE⟩,h.cap,h.rm.mono (Nat.le_refl _) hE⟩
theorem aFy:(Tryz.prog.info? 34).map (·.size)=some 8:=by kernel_rfl
theorem aKS {w:World} {b:Nat} {arr:Array Value} (h:Blk w b arr 34) (hs:arr.size=8):(Instr.loadAt 34 (.pointer (some ⟨b,0,none⟩))).run Tryz.prog w=.ok (.agg arr) w:=by
 simp only [Instr.loadAt,Instr.sureAddr,Sem.run_bind,Sem.run_pure,Result.andThen]
 exact run_loadVar_row w b 34 34 arr (0,0) _ h Tryz.underlying34 rfl (by rw [aFy,hs])
theorem aKN {w:World} {b:Nat} {old arr:Array Value} (h:Blk w b old 34) (ho:old.size=8) (hs:arr.size=8) (h1:arr.all (·.oneCell')=true):(Instr.storeAt 34 (.pointer (some ⟨b,0,none⟩)) (.agg arr)).run Tryz.prog w=.ok () (w.setRow b arr):=by
 simp only [Instr.storeAt,Instr.sureAddr,Sem.run_bind,Sem.run_pure,Result.andThen]
 exact run_storeVar_row w b 34 34 old arr h (by rw [aFy,hs]) (by rw [ho,hs]) h1
theorem aKR (x:Sls) (s:St):(svc x s).all (·.oneCell')=true:=by kernel_rfl
theorem iO {w:World} {b:Nat} {old:Array Value} {t:TypeId} (h:Blk w b old t) (arr:Array Value):Blk (w.setRow b arr) b arr t:=setRow_heap w b old arr t (0,0) h
theorem jK {w:World} {b:Nat} {old:Array Value} {t:TypeId} (h:Blk w b old t) (arr:Array Value) (hs:arr.size=old.size):Mks (fun k=>k=b) w (w.setRow b arr):=by
 refine ⟨rfl,rfl,rfl,by rw [setRow_size];exact Nat.le_refl _,fun k _ hk=>setRow_other w b k arr hk,fun t' g N hc=>?_⟩
 by_cases e:g=b
 ·subst e
  obtain ⟨c,h1,h2⟩:=hc
  rw [h] at h1
  cases h1
  exact ⟨arr,iO h arr,by omega⟩
 ·exact hc.of_block (setRow_other w b g arr e)
theorem eB {B:Nat} {S:Nat→Prop} {w w':World} {t t':TypeId} {sz n:Nat} {ao:Option Addr} (h:dJ B w.heap.size w t sz ao n) (hm:Mks S w w') (hS:∀k,S k→∃N,Cel w t' k N) (ht:t'≠t):(∀k,inR ao n k→¬S k)∧dJ B w'.heap.size w' t sz ao n:=by
 refine ⟨fun k hk e=>?_,(h.mks hm).mono (Nat.le_refl _) hm.size⟩
 obtain ⟨_,_,N',h2⟩:=h.lies k hk
 obtain ⟨N,h3⟩:=hS k e
 exact ht (h3.type h2)
section
variable {B:Nat} {S:Nat→Prop} {w w':World}
theorem tX.mkc {n:Nat} {ao:Option Addr} {l:List Q} (h:tX B w ao n l) (hm:Mks S w w') (hS:∀k,S k→∃N,Cel w 74 k N):tX B w' ao n l:=
 ⟨h.1.mks hm (eB h.2 hm hS (by decide)).1,(eB h.2 hm hS (by decide)).2⟩
theorem tH.mkc {n:Nat} {ao:Option Addr} {l:List Mac} (h:tH B w ao n l) (hm:Mks S w w') (hS:∀k,S k→∃N,Cel w 74 k N):tH B w' ao n l:=
 ⟨h.1.mks hm (eB h.2 hm hS (by decide)).1,(eB h.2 hm hS (by decide)).2⟩
theorem qL.mkc {n:Nat} {ao:Option Addr} {l:List Con} (h:qL B w ao n l) (hm:Mks S w w') (hS:∀k,S k→∃N,Cel w 74 k N):qL B w' ao n l:=
 ⟨h.1.mks hm (eB h.2 hm hS (by decide)).1,(eB h.2 hm hS (by decide)).2⟩
theorem kD.mkc {hs:List AV} {l:List dB} (h:kD B w hs l) (hm:Mks S w w') (hS:∀k,S k→∃N,Cel w 74 k N):kD B w' hs l:=
 ⟨⟨h.heads.1,fun i h1 h2=>let ⟨a,b',c,d⟩:=h.heads.2 i h1 h2;⟨a,b',c.mks hm (eB (h.own _ (List.getElem_mem h1)) hm hS (by decide)).1,d⟩⟩,fun v hv=>(eB (h.own v hv) hm hS (by decide)).2,h.apart⟩
end
theorem dJ.le {B E:Nat} {w:World} {t:TypeId} {sz n m:Nat} {ao:Option Addr} (h:dJ B E w t sz ao n) (hm:m≤n):dJ B E w t sz ao m:=by
 rcases h with h | ⟨g,M,h1,h2,h3,h4,h5⟩
 ·exact .inl (by omega)
 ·exact .inr ⟨g,M,h1,h2,h3,h4,by omega⟩
theorem iU.add {B g cap:Nat} {w w':World} {x:Sls} {s:St} {hs:List AV} (h:iU B w x s hs) (hB:B≤w.heap.size) (app nx:Int) (qu:List UInt8)
  (ha:aK2 B w 74 3 x.aa (x.al+1) (bY hs++aCp ⟨app,qu,none,0,0⟩) g cap w') :
  iU B w' ⟨x.qa,x.ql,x.qc,some ⟨g,0,none⟩,x.al+1,cap,x.ma,x.ml,x.mc,x.ca,x.cl,x.cc⟩ ⟨s.qs,s.clock,s.epoch,nx,s.serial,s.apps++[⟨app,qu,[]⟩],s.ms,s.cs⟩ (hs++[⟨app,qu,none,0,0⟩]):=by
 have hS:∀k,(∃N,Cel w 74 k N∧B≤k)→∃N,Cel w 74 k N:=fun k hk=>let ⟨N,a,_⟩:=hk;⟨N,a⟩
 have hal:x.al=hs.length:=h.p.1.1
 have hrm:=(h.rm.mks ha.mks).mono (Nat.le_refl B) ha.mks.size
 have hk:=h.k.mkc ha.mks hS
 refine ⟨h.q.mkc ha.mks hS,⟨?_,ha.own.le ha.cap⟩,?_,h.m.mkc ha.mks hS,h.c.mkc ha.mks hS,⟨h.cap.q,ha.cap,h.cap.m,h.cap.c⟩,⟨hrm.1,ha.own,hrm.2.2.1,hrm.2.2.2.1,fun v hv=>?_⟩⟩
 ·rcases ha.own with e | ⟨g',M,e,_,_,hc,hM⟩
  ·have:=ha.cap;omega
  ·cases e
   have hl:(bY (hs++[⟨app,qu,none,0,0⟩])).length≤M*3:=by
    rw [gU,List.length_append]
    exact Nat.mul_le_mul_right _ (by have:=ha.cap;simp;omega)
   have:=(zL hc (cs:=bY (hs++[⟨app,qu,none,0,0⟩])) (by rw [yV];exact ha.cells) hl).rowP
   rw [List.length_append] at this
   rw [hal]
   exact this
 ·exact hk.snoc (Below.refl _ _) (Nat.le_trans hB ha.mks.size) app qu none 0 [] (Nat.le_refl _) ⟨rfl,.inl rfl⟩ (.inl rfl)
 ·rcases List.mem_append.1 hv with hv | hv
  ·exact hrm.2.2.2.2 v hv
  ·obtain rfl:=List.mem_singleton.1 hv
   exact .inl rfl
theorem qH.keep {B E:Nat} {w w':World} {x:Sls} {s:St} {hs:List AV} (h:qH B E w x s hs) (hk:∀k,B≤k→k<E→w'.heap[k]? = w.heap[k]?):qH B E w' x s hs:=by
 have key:∀{t:TypeId} {sz n:Nat} {ao:Option Addr},dJ B E w t sz ao n→(∀k,inR ao n k→w'.heap[k]? = w.heap[k]?)∧dJ B E w' t sz ao n:=fun ho=>by
  refine ⟨fun k hi=>?_,?_⟩
  ·obtain ⟨h1,h2,_⟩:=ho.lies k hi
   exact hk k h1 h2
  ·rcases ho with e | ⟨g,M,e,h1,h2,h3,h4⟩
   ·exact .inl e
   ·exact .inr ⟨g,M,e,h1,h2,h3.of_block (hk g h1 h2),h4⟩
 have hh:iP w' hs s.apps:=⟨h.heads.1,fun i h1 h2=>by
  obtain ⟨a,b,c,d⟩:=h.heads.2 i h1 h2
  exact ⟨a,b,c.kept (key (h.asks _ (List.getElem_mem h1))).1,d⟩⟩
 have hav:=h.av.kept (key h.a).1
 exact ⟨⟨h.row.1.kept (key h.q).1,aHV hav hh,h.row.2.2.1.kept (key h.m).1,h.row.2.2.2.kept (key h.c).1⟩,(key h.q).2,(key h.a).2,(key h.m).2,(key h.c).2,hav,hh,fun v hv=>(key (h.asks v hv)).2,h.apart,h.cap,h.rm.map (fun o=>(key o).2)⟩
structure aAB (B E:Nat) (w:World) (g:Nat) (y:Sls) (s:St) (hs:List AV) (go:Option Addr) (gn:Nat) (gone:List Con):Prop where
 box:Blk w g (svc y s) 34
 a:qH B E w y s hs
 c:aY w go gn gone
 co:dJ B E w 38 5 go gn
 ap:∀k,inR go gn k→¬inR y.ca y.cl k
 ge:E≤g
theorem aAB.below {B E:Nat} {w w':World} {g:Nat} {y:Sls} {s:St} {hs:List AV} {go:Option Addr} {gn:Nat} {gone:List Con} (h:aAB B E w g y s hs go gn gone) (hb:Below w.heap.size w w'):aAB B E w' g y s hs go gn gone:=
 ⟨h.box.below hb,h.a.below hb,h.c.below hb,h.co.below hb,h.ap,h.ge⟩
theorem aAB.al {B E:Nat} {w:World} {g:Nat} {y:Sls} {s:St} {hs:List AV} {go:Option Addr} {gn:Nat} {gone:List Con} (h:aAB B E w g y s hs go gn gone) (o:Obj):aAB B E (w.alloc o) g y s hs go gn gone:=h.below (yA (Below.refl _ _) o)
theorem aAB.keep {B E:Nat} {w w':World} {g:Nat} {y:Sls} {s:St} {hs:List AV} {go:Option Addr} {gn:Nat} {gone:List Con} (h:aAB B E w g y s hs go gn gone) (hk:∀k,B≤k→k<E→w'.heap[k]? = w.heap[k]?) (hg:w'.heap[g]? = w.heap[g]?):aAB B E w' g y s hs go gn gone:=by
 refine ⟨hg.trans h.box,h.a.keep hk,h.c.kept (fun k hi=>?_),?_,h.ap,h.ge⟩
 ·obtain ⟨h1,h2,_⟩:=h.co.lies k hi
  exact hk k h1 h2
 ·rcases h.co with e | ⟨b,M,e,h1,h2,h3,h4⟩
  ·exact .inl e
  ·exact .inr ⟨b,M,e,h1,h2,h3.of_block (hk b h1 h2),h4⟩
theorem aAB.read {B E:Nat} {w:World} {g:Nat} {y:Sls} {s:St} {hs:List AV} {go:Option Addr} {gn:Nat} {gone:List Con} (h:aAB B E w g y s hs go gn gone):w.cell? ⟨g,0,none⟩=some (.slice y.qa y.ql y.qc)∧w.cell? ⟨g,1,none⟩=some (.int .i64 s.clock)∧w.cell? ⟨g,2,none⟩=some (.int .i64 s.epoch)∧w.cell? ⟨g,3,none⟩=some (.int .i64 s.next)∧w.cell? ⟨g,4,none⟩=some (.int .i64 s.serial)∧w.cell? ⟨g,5,none⟩=some (.slice y.aa y.al y.ac)∧w.cell? ⟨g,6,none⟩=some (.slice y.ma y.ml y.mc)∧w.cell? ⟨g,7,none⟩=some (.slice y.ca y.cl y.cc):=
 ⟨h.box.at 0,h.box.at 1,h.box.at 2,h.box.at 3,h.box.at 4,h.box.at 5,h.box.at 6,h.box.at 7⟩
structure aKK (B E:Nat) (w:World) (x:Sls) (hs:List AV):Prop where
 q:dJ B E w 100 4 x.qa x.ql
 a:dJ B E w 74 3 x.aa x.al
 m:dJ B E w 104 4 x.ma x.ml
 c:dJ B E w 38 5 x.ca x.cl
 k:∀v ∈ hs,dJ B E w 77 5 v.ao v.len
theorem qH.own {B E:Nat} {w:World} {x:Sls} {s:St} {hs:List AV} (h:qH B E w x s hs):aKK B E w x hs:=⟨h.q,h.a,h.m,h.c,h.asks⟩
theorem aKK.mks {B E:Nat} {w w':World} {x:Sls} {hs:List AV} {S:Nat→Prop} (h:aKK B E w x hs) (hm:Mks S w w'):aKK B E w' x hs:=⟨h.q.mks hm,h.a.mks hm,h.m.mks hm,h.c.mks hm,fun v hv=>(h.k v hv).mks hm⟩
structure aJc (B E:Nat) (w:World) (g:Nat) (y:Sls) (s:St) (hs:List AV) (go:Option Addr) (gn:Nat):Prop where
 box:Blk w g (svc y s) 34
 m:SMk w y hs
 own:aKK B E w y hs
 co:dJ B E w 38 5 go gn
 ap:∀k,inR go gn k→¬inR y.ca y.cl k
 ge:E≤g
theorem aJc.read {B E:Nat} {w:World} {g:Nat} {y:Sls} {s:St} {hs:List AV} {go:Option Addr} {gn:Nat} (h:aJc B E w g y s hs go gn):w.cell? ⟨g,0,none⟩=some (.slice y.qa y.ql y.qc):=h.box.at 0
theorem aJC {B E:Nat} {w:World} {g:Nat} {y:Sls} {s:St} {hs:List AV} {go:Option Addr} {gn:Nat} {gone:List Con} (h:aAB B E w g y s hs go gn gone) (hl:aHa y hs) :
  Calls Tryz.prog 11 #[sv y s,.int .i64 1] w fun e w'=>e=.returned (.int .i64 (aCW y hs:Int))∧aJc B E w' g y s hs go gn∧Mks (inS y hs) w w':=by
 refine (aAZ h.a (by have:=h.box.lt;have:=h.ge;omega) hl).mono ?_
 rintro e w' ⟨rfl,hm,hk⟩
 exact ⟨rfl,⟨hk.blk h.box (fun hi=>by have:=h.a.ins g hi;have:=h.ge;omega),hm,h.a.own.mks hk,h.co.mks hk,h.ap,h.ge⟩,hk⟩
structure aH7 (w:World) (g:Nat) (y:Sls) (s:St) (hs:List AV) (go:Option Addr) (gn:Nat):Prop where
 box:Blk w g (svc y s) 34
 m:SMk w y hs
 c:aY w go gn (jL (aCW y hs) gn)
theorem aH7.below {w w':World} {g:Nat} {y:Sls} {s:St} {hs:List AV} {go:Option Addr} {gn:Nat} (h:aH7 w g y s hs go gn) (hb:Below w.heap.size w w'):aH7 w' g y s hs go gn:=⟨h.box.below hb,h.m.below hb,h.c.below hb⟩
theorem aH7.al {w:World} {g:Nat} {y:Sls} {s:St} {hs:List AV} {go:Option Addr} {gn:Nat} (h:aH7 w g y s hs go gn) (o:Obj):aH7 (w.alloc o) g y s hs go gn:=h.below (yA (Below.refl _ _) o)
theorem aH7.read {w:World} {g:Nat} {y:Sls} {s:St} {hs:List AV} {go:Option Addr} {gn:Nat} (h:aH7 w g y s hs go gn):w.cell? ⟨g,0,none⟩=some (.slice y.qa y.ql y.qc)∧w.cell? ⟨g,1,none⟩=some (.int .i64 s.clock)∧w.cell? ⟨g,2,none⟩=some (.int .i64 s.epoch)∧w.cell? ⟨g,3,none⟩=some (.int .i64 s.next)∧w.cell? ⟨g,4,none⟩=some (.int .i64 s.serial)∧w.cell? ⟨g,5,none⟩=some (.slice y.aa y.al y.ac)∧w.cell? ⟨g,6,none⟩=some (.slice y.ma y.ml y.mc)∧w.cell? ⟨g,7,none⟩=some (.slice y.ca y.cl y.cc):=
 ⟨h.box.at 0,h.box.at 1,h.box.at 2,h.box.at 3,h.box.at 4,h.box.at 5,h.box.at 6,h.box.at 7⟩
theorem aHa.end {y:Sls} {hs:List AV} (h:aHa y hs):0<aCW y hs∧aCW y hs≤100000000000000:=by
 have h1:=h.e
 have h2:=h.m
 have h3:=h.c
 unfold aCW
 omega
theorem aJs {B E:Nat} {w:World} {g:Nat} {y:Sls} {s:St} {hs:List AV} {go:Option Addr} {gn gc:Nat} (h:aJc B E w g y s hs go gn) (hl:aHa y hs) (hn:gn≤1048576) :
  Calls Tryz.prog 16 #[.slice go gn gc,.int .i64 (aCW y hs:Int)] w fun e w'=>e=.returned (.int .i64 ((aCW y hs:Int)+5*(gn:Int)))∧aH7 w' g y s hs go gn∧Mks (inR go gn) w w':=by
 have he:=hl.end
 refine (pO (c:=gc) (aCW y hs) h.co hn he.1 (by omega)).mono ?_
 rintro e w' ⟨rfl,hr,hm⟩
 have hap:∀{t:TypeId} {sz n:Nat} {ao:Option Addr},dJ B E w t sz ao n→t≠38→∀k,inR ao n k→¬inR go gn k:=fun ho ht=>ho.apart h.co ht
 exact ⟨rfl,⟨hm.blk h.box (fun hi=>by have:=(h.co.lies g hi).2.1;have:=h.ge;omega),⟨h.m.q.mks hm (hap h.own.q (by decide)),h.m.a.mks hm (hap h.own.a (by decide)),h.m.k.mks hm _ _ (fun v hv=>hap (h.own.k v hv) (by decide)),h.m.m.mks hm (hap h.own.m (by decide)),h.m.c.mks hm (fun k h1 h2=>h.ap k h2 h1),h.m.z⟩,hr⟩,hm⟩
theorem aKE {w:World} {g:Nat} {y:Sls} {s:St} {hs:List AV} {go:Option Addr} {gn gc:Nat} (h:aH7 w g y s hs go gn) (hl:aHa y hs) (hn:gn≤1048576) :
  Calls Tryz.prog 17 #[.slice go gn gc,.int .i64 (aCW y hs:Int)] w fun e w'=>e=.returned (.int .i64 ((aCW y hs:Int)+5*(gn:Int)))∧Below w.heap.size w w':=
 p8 go gn gc (aCW y hs) w h.c hn hl.end.1 (by have:=hl.end;omega)
theorem aAB.off {B E B' E':Nat} {w w':World} {g:Nat} {y:Sls} {s:St} {hs:List AV} {go:Option Addr} {gn:Nat} {gone:List Con} {S:Nat→Prop} (h:aAB B E w g y s hs go gn gone) (hm:Mks S w w') (hS:∀k,S k→B'≤k∧k<E') (h1:g<B'∨E'≤B) (h2:g<B'∨E'≤g):aAB B E w' g y s hs go gn gone:=
 h.keep (fun k hk1 hk2=>hm.block k (by have:=h.box.lt;have:=h.ge;omega) (fun hs=>by have:=hS k hs;have:=h.ge;omega)) (hm.block g h.box.lt (fun hs=>by have:=hS g hs;omega))
theorem aAB.offd {B E B' E':Nat} {w w':World} {g:Nat} {y:Sls} {s:St} {hs:List AV} {go:Option Addr} {gn:Nat} {gone:List Con} (h:aAB B E w g y s hs go gn gone) (hm:Mkd B' E' w w') (h1:g<B'∨E'≤B) (h2:g<B'∨E'≤g):aAB B E w' g y s hs go gn gone:=
 h.keep (fun k hk1 hk2=>hm.block k (by have:=h.box.lt;have:=h.ge;omega) (by have:=h.ge;omega)) (hm.block g h.box.lt h2)
theorem iK.off {w wx wy:World} {x:Sls} {s:St} {B:Nat} {S:Nat→Prop} (h:iK w x s wx) (hm:Mks S wx wy) (hS:∀k,S k→B≤k) (h1:w.heap.size<B) (h2:B≤wx.heap.size):iK w x s wy:=h.low (hm.below hS h2) h1
theorem aEo {w:World} {g1 g2 g3 g4:Nat} {x:Sls} {s:St} (h:iD w g1 g2 g3 g4 x.ql x.al x.ml x.cl s) (hl:aKZ x s):∃hs,eF w (some ⟨g2,0,none⟩) x.al hs∧iP w hs s.apps∧aH2 (aCV g1 g2 g3 g4 x.ql x.al x.ml x.cl) hs:=by
 obtain ⟨hs,h1,h2⟩:=(h.2.1.row hl.2.1).heads
 refine ⟨hs,h1,h2,⟨(fun e=>by cases e),(fun e=>by cases e),(fun e=>by cases e),fun v hv hno=>?_⟩⟩
 obtain ⟨i,hi,rfl⟩:=List.getElem_of_mem hv
 have hi':i<s.apps.length:=by rw [←h2.1];exact hi
 obtain ⟨arr,a1,a2,a3⟩:=h.2.1
 obtain ⟨_,_,ao,len,cap,e,ho⟩:=a3 i hi' (by have:=hl.2.1;omega)
 obtain ⟨b,rfl,_,_⟩:=ho.2.2.2
 rcases h1.2 with z | ⟨b',off',z,hh⟩
 ·have:=h1.1;omega
 ·cases z
  have hc:=(hh i hi).2.2
  simp [World.cell?,a1] at hc
  rw [e] at hc
  simp at hc
  rw [hno] at hc
  exact absurd hc.1 (by simp)
structure StB (w:World) (b:Nat) (y:Sls) (s:St):Prop where
 box:Blk w b (svc y s) 34
 row:iJ w y s
 cap:y.ql≤y.qc
theorem StB.below {w w':World} {b:Nat} {y:Sls} {s:St} (h:StB w b y s) (hb:Below w.heap.size w w'):StB w' b y s:=⟨h.box.below hb,h.row.below hb,h.cap⟩
theorem StB.new {B:Nat} {w:World} {y:Sls} {s:St} {hs:List AV} (h:iU B w y s hs):StB (w.alloc (.cells (svc y s) 34)) w.heap.size y s:=⟨yD _ _ _,h.ans.row.below (yA (Below.refl _ w) _),h.cap.q⟩
theorem StB.read {w:World} {b:Nat} {y:Sls} {s:St} (h:StB w b y s):w.cell? ⟨b,0,none⟩=some (.slice y.qa y.ql y.qc)∧w.cell? ⟨b,1,none⟩=some (.int .i64 s.clock)∧w.cell? ⟨b,2,none⟩=some (.int .i64 s.epoch)∧w.cell? ⟨b,3,none⟩=some (.int .i64 s.next)∧w.cell? ⟨b,4,none⟩=some (.int .i64 s.serial)∧w.cell? ⟨b,5,none⟩=some (.slice y.aa y.al y.ac)∧w.cell? ⟨b,6,none⟩=some (.slice y.ma y.ml y.mc)∧w.cell? ⟨b,7,none⟩=some (.slice y.ca y.cl y.cc):=
 ⟨h.box.at 0,h.box.at 1,h.box.at 2,h.box.at 3,h.box.at 4,h.box.at 5,h.box.at 6,h.box.at 7⟩
end
end Go.Proofs.YtdhibeclkdepiaaGreat
