/-
  Texts in one: CopySt, GrowS, AnsW.
-/
import Derived.Test.YtjkfappkpopbdaaGreatSackL
set_option maxRecDepth 100000
set_option maxHeartbeats 16000000
set_option linter.unusedVariables false
set_option linter.unusedSimpArgs false
namespace Go.Proofs.YtjkfappkpopbdaaGreat
section
open Go.RowKit
theorem PHas.blk {B n k:Nat} {w:World} {ao:Option Addr} {l:List AV} (h:PHas B w ao n l) (hk:k<n):∃g M,ao=some ⟨g,0,none⟩∧B≤g∧g<w.heap.size∧AVBlk w g M l:=by
 obtain ⟨⟨h1,h2⟩,h3⟩:=h
 rcases h3 with e | ⟨g,M,rfl,hB,hE,hc,hn⟩
 ·omega
 ·rcases h2 with e | ⟨b,off,e,hh⟩
  ·omega
  ·cases e
   exact ⟨g,M,rfl,hB,hE,hc,by omega,fun i hi=>by have:=hh i hi;rwa [Nat.zero_add] at this⟩
theorem AVBlk.asks {w:World} {g M i:Nat} {l:List AV} (h:AVBlk w g M l) (hi:i<l.length) (ao:Option Addr) (len cap:Nat):AVBlk (w.setCell ⟨g,i*3+2,none⟩ (.slice ao len cap)) g M (l.set i ⟨l[i].id,l[i].queue,ao,len,cap⟩):=by
 refine ⟨h.1.set _ _ _,by simpa using h.2.1,fun j hj=>?_⟩
 have hj':j<l.length:=by simpa using hj
 obtain ⟨a,b,c⟩:=h.2.2 j hj'
 by_cases e:i=j
 ·subst e
  simp only [List.getElem_set_self]
  exact ⟨cellKeep a (by omega),cellKeep b (by omega),World.cell?_setCell_same _ ⟨g,i*3+2,none⟩ _ c⟩
 ·rw [List.getElem_set_ne e]
  exact ⟨cellKeep a (by omega),cellKeep b (by omega),cellKeep c (by omega)⟩
theorem AVBlk.has {B w g M n l} (h:AVBlk w g M l) (hB:B≤g) (hn:n=l.length):PHas B w (some ⟨g,0,none⟩) n l:=by
 subst hn
 exact ⟨h.row,.inr ⟨g,M,rfl,hB,h.1.lt,h.1,h.2.1⟩⟩
structure CpSt (w:World) (arr:Array Value) (qo:Option Addr) (qs:List Q) (po:Option Addr) (n2:Nat) (ns:List AV) (apps:List Appl) (wr:World):Prop where
 r0:Blk wr w.heap.size arr 37
 r1:Blk wr (w.heap.size+1) #[.slice none 0 0,.int .i64 0,.int .i64 0,.int .i64 0,.int .i64 0,.slice none 0 0,.slice none 0 0,.slice none 0 0] 37
 q:QHas (w.heap.size+2) wr qo qs.length qs
 p:PHas (w.heap.size+2) wr po n2 ns
 k:KHas (w.heap.size+2) wr ns apps
 b:Below w.heap.size w wr
 z:w.heap.size+2≤wr.heap.size
theorem CpSt.below {w:World} {arr:Array Value} {qo:Option Addr} {qs:List Q} {po:Option Addr} {n2:Nat} {ns:List AV} {apps:List Appl} {wr wy:World} (h:CpSt w arr qo qs po n2 ns apps wr) (hb:Below wr.heap.size wr wy):CpSt w arr qo qs po n2 ns apps wy:=
 ⟨h.r0.below hb,h.r1.below hb,h.q.below hb,h.p.below hb,h.k.below hb,yB h.b hb,Nat.le_trans h.z hb.size⟩
theorem CpSt.sc {w:World} {arr:Array Value} {qo:Option Addr} {qs:List Q} {po:Option Addr} {n2:Nat} {ns:List AV} {apps:List Appl} {wr:World} (h:CpSt w arr qo qs po n2 ns apps wr) (j:Nat) (v:Value):CpSt w (arr.setIfInBounds j v) qo qs po n2 ns apps (wr.setCell ⟨w.heap.size,j,none⟩ v):=
 ⟨h.r0.set j v,h.r1.other _ _ _ (by omega),h.q.sc (by omega),h.p.sc (by omega),h.k.sc (.inl (by omega)),yC h.b _ _ _ (yJ _),by rw [set_size];exact h.z⟩
theorem MHas.blk {B n k:Nat} {w:World} {ao:Option Addr} {l:List Mac} (h:MHas B w ao n l) (hk:k<n):∃g,ao=some ⟨g,0,none⟩∧B≤g∧g<w.heap.size∧(∀j,w.frozen? ⟨g,j,none⟩=false)∧∀i (hi:i<l.length),MacAt w g (i*4) l[i]:=by
 obtain ⟨⟨h1,h2⟩,h3⟩:=h
 rcases h3 with e | ⟨g,M,rfl,hB,hE,hc,hn⟩
 ·omega
 ·rcases h2 with e | ⟨b,off,e,hh⟩
  ·omega
  ·cases e
   exact ⟨g,rfl,hB,hE,fun j=>hc.frozen j,fun i hi=>by have:=hh i hi;rwa [Nat.zero_add] at this⟩
def CopyAns (w:World) (s:St) (e:Ending) (w':World):Prop:=∃y hs,e=.returned (sv y s)∧SAns w.heap.size w'.heap.size w' y s hs∧Below w.heap.size w w'
theorem copyOfState_any (x:Sls) (s:St) (w:World) (h:SRow w x s) (hf:FitSt s) :
  Calls Tryz.prog 45 #[sv x s] w (CopyAns w s):=by
 obtain ⟨hs0,hav,hhd⟩:=h.2.1.heads
 have hqs:=hf.1.2
 have hcq:=h.1.1
 have hca:=h.2.1.1
 have hcm:=h.2.2.1.1
 have hcc:=h.2.2.2.1
 have hlq:x.ql≤1048576:=by have:=hf.1.1;omega
 have hla:x.al≤1048576:=by have:=hf.2.1.1;omega
 have hlm:x.ml≤1048576:=by have:=hf.2.2.1.1;omega
 have hlc:x.cl≤1048576:=by have:=hf.2.2.2.1;omega
 obtain ⟨qa,ql,qc,aa,al,ac,ma,ml,mc,ca,cl,cc⟩:=x
 obtain ⟨qs,clock,epoch,next,serial,apps,ms,cs⟩:=s
 simp only at *
 have hb0:=yA (yA (yH _ w) (.cells #[.slice qa ql qc,.int .i64 clock,.int .i64 epoch,.int .i64 next,.int .i64 serial,.slice aa al ac,.slice ma ml mc,.slice ca cl cc] 37)) (.cells #[.slice none 0 0,.int .i64 0,.int .i64 0,.int .i64 0,.int .i64 0,.slice none 0 0,.slice none 0 0,.slice none 0 0] 37)
 have HB0:=hide hb0
 have P0:=hide ((yD w #[.slice qa ql qc,.int .i64 clock,.int .i64 epoch,.int .i64 next,.int .i64 serial,.slice aa al ac,.slice ma ml mc,.slice ca cl cc] 37).al (.cells #[.slice none 0 0,.int .i64 0,.int .i64 0,.int .i64 0,.int .i64 0,.slice none 0 0,.slice none 0 0,.slice none 0 0] 37))
 have P1:=hide (show Blk _ (w.heap.size+1) #[.slice none 0 0,.int .i64 0,.int .i64 0,.int .i64 0,.int .i64 0,.slice none 0 0,.slice none 0 0,.slice none 0 0] 37 by have:=yD (w.alloc (.cells #[.slice qa ql qc,.int .i64 clock,.int .i64 epoch,.int .i64 next,.int .i64 serial,.slice aa al ac,.slice ma ml mc,.slice ca cl cc] 37)) #[.slice none 0 0,.int .i64 0,.int .i64 0,.int .i64 0,.int .i64 0,.slice none 0 0,.slice none 0 0,.slice none 0 0] 37;rwa [yE] at this)
 have SQ:=hide h.1
 have SV:=hide hav
 have SH:=hide hhd
 have SM:=hide h.2.2.1
 have SC:=hide h.2.2.2
 have HF:=hide hf
 have CQ:=hide (copyOfQueues_any qa ql qc qs _ (h.1.below hb0) hlq hqs)
 have HNQ:=hide hcq
 have HNA:=hide hca
 have HNM:=hide hcm
 have HNC:=hide hcc
 clear h hav hhd hb0 hf hqs hcq hca hcm hcc
 go_enter Tryz.func45,Tryz.ntmps45
 go_wp2_with fail
 refine (uH CQ).mono ?_
 rintro e w2 ⟨v,rfl,ho,hb⟩
 obtain ⟨qo,qd,rfl,hqd,hqh⟩:=QOwn.has ho
 rw [yE,yE] at hqh
 have hrq:=own1_of ho
 rw [yE,yE] at hrq
 have HM2:=hide (RmL.cons hrq (RmL.nil _ _))
 have HB2:=hide (yB (uH HB0) hb)
 have Q0:=hide ((uH P0).below hb)
 have Q1:=hide ((uH P1).below hb)
 have OQ:=hide hqh
 have hz2:w.heap.size+2≤w2.heap.size:=by have:=hb.size;rw [yE,yE] at this;omega
 have d0:=(uH Q0).at 0
 have f0:=(uH Q0).f 0
 simp at d0
 have HQD:=hide hqd
 clear ho hb hqh hrq HB0 P0 P1 CQ hqd
 go_upto_region 2 with fail
 have HB3:=hide (yC (uH HB2) w.heap.size 0 (.slice qo qs.length qd) (yJ _))
 have R0:=hide (show Blk (w2.setCell ⟨w.heap.size,0,none⟩ (.slice qo qs.length qd)) w.heap.size #[.slice qo qs.length qd,.int .i64 clock,.int .i64 epoch,.int .i64 next,.int .i64 serial,.slice aa al ac,.slice ma ml mc,.slice ca cl cc] 37 from (uH Q0).set 0 (.slice qo qs.length qd))
 have R1:=hide ((uH Q1).other w.heap.size 0 (.slice qo qs.length qd) (by omega))
 have OQ3:=hide ((uH OQ).sc (k:=w.heap.size) (j:=0) (v:=.slice qo qs.length qd) (by omega))
 have hz3:w.heap.size+2≤(w2.setCell ⟨w.heap.size,0,none⟩ (.slice qo qs.length qd)).heap.size:=by rw [set_size];exact hz2
 have HM3:=hide ((uH HM2).sc w.heap.size 0 (.slice qo qs.length qd))
 generalize w2.setCell ⟨w.heap.size,0,none⟩ (.slice qo qs.length qd)=w3 at HB3 R0 R1 OQ3 HM3 hz3 ⊢
 clear d0 f0 HB2 Q0 Q1 OQ HM2 hz2
 have CA:=hide (cloneApp_any aa al ac hs0 w3 ((uH SV).below (uH HB3)) hla)
 have a5:=(uH R0).at 5
 simp at a5
 go_wp2_with fail
 refine (uH CA).mono ?_
 rintro e w4 ⟨v,rfl,ho,hb⟩
 obtain ⟨po,pd,rfl,hpd,hph⟩:=pown_has (pown_base ho hz3)
 have HM4:=hide (RmL.cons (own1_of (pown_base ho hz3)) ((uH HM3).below hb))
 have HB4:=hide (yB (uH HB3) hb)
 have Q0:=hide ((uH R0).below hb)
 have Q1:=hide ((uH R1).below hb)
 have OQ4:=hide ((uH OQ3).below hb)
 have hz4:w.heap.size+2≤w4.heap.size:=by have:=hb.size;omega
 obtain ⟨n2,hn2⟩:∃n,hs0.length=n:=⟨_,rfl⟩
 rw [hn2] at hph ⊢
 have OP4:=hide hph
 have HN2:=hide hn2
 have hl2:n2≤1048576:=by have:=(uH SV).1;omega
 have d5:=(uH Q0).at 5
 have f5:=(uH Q0).f 5
 simp at d5
 have HPD:=hide (show n2≤pd by omega)
 clear ho hb hph HB3 R0 R1 OQ3 HM3 hz3 CA a5 hpd hn2
 go_upto_region 3 with fail
 have HB5:=hide (yC (uH HB4) w.heap.size 5 (.slice po n2 pd) (yJ _))
 have R0:=hide (show Blk (w4.setCell ⟨w.heap.size,5,none⟩ (.slice po n2 pd)) w.heap.size #[.slice qo qs.length qd,.int .i64 clock,.int .i64 epoch,.int .i64 next,.int .i64 serial,.slice po n2 pd,.slice ma ml mc,.slice ca cl cc] 37 from (uH Q0).set 5 (.slice po n2 pd))
 have R1:=hide ((uH Q1).other w.heap.size 5 (.slice po n2 pd) (by omega))
 have OQ5:=hide ((uH OQ4).sc (k:=w.heap.size) (j:=5) (v:=.slice po n2 pd) (by omega))
 have OP5:=hide ((uH OP4).sc (k:=w.heap.size) (j:=5) (v:=.slice po n2 pd) (by omega))
 have hz5:w.heap.size+2≤(w4.setCell ⟨w.heap.size,5,none⟩ (.slice po n2 pd)).heap.size:=by rw [set_size];exact hz4
 have HM5:=hide ((uH HM4).sc w.heap.size 5 (.slice po n2 pd))
 generalize w4.setCell ⟨w.heap.size,5,none⟩ (.slice po n2 pd)=w5 at HB5 R0 R1 OQ5 OP5 HM5 hz5 ⊢
 have a5:=(uH R0).at 5
 simp at a5
 clear d5 f5 HB4 Q0 Q1 OQ4 OP4 HM4 hz4
 go_wp2
 go_loopw [18] (fun i wr=>∃(k:Nat),k≤n2∧i=.int .i64 k∧Hid (∃ns:List AV,ns.length=k∧PHas (w.heap.size+2) wr po n2 (ns++hs0.drop k)∧KHas (w.heap.size+2) wr ns (apps.take k)∧RmL (w.heap.size+2) wr ((139,3,po,pd)::(142,4,qo,qd)::ns.map (fun v=>(193,5,v.ao,v.cap))))∧Hid (Blk wr w.heap.size #[.slice qo qs.length qd,.int .i64 clock,.int .i64 epoch,.int .i64 next,.int .i64 serial,.slice po n2 pd,.slice ma ml mc,.slice ca cl cc] 37)∧Hid (Blk wr (w.heap.size+1) #[.slice none 0 0,.int .i64 0,.int .i64 0,.int .i64 0,.int .i64 0,.slice none 0 0,.slice none 0 0,.slice none 0 0] 37)∧Hid (QHas (w.heap.size+2) wr qo qs.length qs)∧Hid (Below w.heap.size w wr)∧w.heap.size+2≤wr.heap.size) (fun i _=>n2 - (intOf i).toNat)
 case atStart=>exact ⟨0,Nat.zero_le _,rfl,hide ⟨[],rfl,by simpa using uH OP5,by simpa using KHas.nil _ _,uH HM5⟩,R0,R1,OQ5,HB5,hz5⟩
 case round=>
  obtain ⟨k,hk,rfl,HP,HR0,HR1,HQ,HB,hz⟩:=hrel
  clear R0 R1 OQ5 OP5 HB5 HM5 hz5 a5
  by_cases hlt:k<n2
  ·obtain ⟨ns,hns,hph,hkh,hrm⟩:=uH HP
   obtain ⟨g,M,rfl,hgB,hgE,hbk⟩:=hph.blk hlt
   have hk0:k<hs0.length:=by have:=uH HN2;omega
   have hk1:k<apps.length:=by have:=(uH SH).1;omega
   have hkl:k<(ns++hs0.drop k).length:=by rw [List.length_append,List.length_drop];omega
   have hel:(ns++hs0.drop k)[k]=hs0[k]:=by
    rw [List.getElem_append_right (by omega)]
    simp [hns]
   have hcel:=hbk.2.2 k hkl
   rw [hel] at hcel
   obtain ⟨c0,c1,c2⟩:=hcel
   obtain ⟨e0,e1,e2,e3⟩:=(uH SH).2 k hk0 hk1
   have hfa:=(uH HF).2.1.2 apps[k] (yM hk1)
   obtain ⟨⟨ai,aq,ak⟩,hap⟩:∃a,apps[k]=a:=⟨_,rfl⟩
   obtain ⟨⟨vi,vq,va,vl,vc⟩,hv⟩:∃v,hs0[k]=v:=⟨_,rfl⟩
   have hset:∀(no:Option Addr) (nl nd:Nat),(ns++hs0.drop k).set k ⟨vi,vq,no,nl,nd⟩=(ns++[⟨vi,vq,no,nl,nd⟩])++hs0.drop (k+1):=fun no nl nd=>by
    rw [List.set_append_right _ _ (by omega),List.drop_eq_getElem_cons hk0,hns,Nat.sub_self,sB]
    simp
   have htk:apps.take (k+1)=apps.take k++[⟨ai,aq,ak⟩]:=by rw [List.take_succ_eq_append_getElem hk1,hap]
   rw [hap] at e0 e1 e2 hfa
   rw [hv] at c0 c1 c2 e0 e1 e2 e3 hel
   simp only at c0 c1 c2 e0 e1 e2 e3 hfa
   subst e0 e1
   have hrow:=e2.below (uH HB)
   have HW:=hide (yA (yH _ wr) (.cells #[.int .i64 vi,.string (bs vq),.slice va vl vc] 139))
   replace hfa:vq.length≤1048576∧ak.length≤1048576∧∀a ∈ ak,a.node.length≤1048576:=⟨hfa.1,hfa.2.1,hfa.2.2⟩
   have hvl:vl≤1048576:=by have:=e2.1;omega
   have CC:=hide (fun wx (hb:Below (wr.alloc (.cells #[.int .i64 vi,.string (bs vq),.slice va vl vc] 139)).heap.size (wr.alloc (.cells #[.int .i64 vi,.string (bs vq),.slice va vl vc] 139)) wx)=>copyOfApp_any vi vq va vl vc ak wx ((hrow.below (uH HW)).below hb) hvl hfa.1 hfa.2.2)
   have HST:=hide hset
   have HTK:=hide htk
   have HKH:=hide (hkh.below (uH HW))
   have HRM:=hide (hrm.below (uH HW))
   have HBK:=hide (hbk.below (uH HW))
   have HEL:=hide hel
   have HNS:=hide hns
   have X0:=hide ((uH HR0).below (uH HW))
   have X1:=hide ((uH HR1).below (uH HW))
   have XQ:=hide ((uH HQ).below (uH HW))
   have XB:=hide (yB (uH HB) (uH HW))
   have XA:=hide (yD wr #[.int .i64 vi,.string (bs vq),.slice va vl vc] 139)
   have hzw:w.heap.size+2≤(wr.alloc (.cells #[.int .i64 vi,.string (bs vq),.slice va vl vc] 139)).heap.size:=by rw [yE];omega
   have k0:(0:Int)≤k:=by omega
   have k1:(k:Int)<n2:=by omega
   clear hph hkh hrm hbk hap hv hset htk hrow e2 e3 hfa hel hk0 hk1 hns
   go_upto_region 6 with fail
   obtain ⟨W,hW⟩:∃W,wr.alloc (.cells #[.int .i64 vi,.string (bs vq),.slice va vl vc] 139)=W:=⟨_,rfl⟩
   rw [hW] at CC HKH HRM HBK X0 X1 XQ XB XA hzw ⊢
   have xa0:=(uH XA).at 0
   have xa1:=(uH XA).at 1
   have xa2:=(uH XA).at 2
   have x5:=(uH X0).at 5
   simp at xa0 xa1 xa2 x5
   clear hW HW HP HR0 HR1 HQ HB c0 c1 c2
   go_wp2_with fail
   go_region_with (go_at_call 88;refine (uH CC _ ?_).mono ?_;(exact (yH _ W).drew);rintro e w6 ⟨v,rfl,ho,hb⟩;have HB6:=hide (yB (yH _ W).drew hb);obtain ⟨no,nd,rfl,hnd,hnr,hno⟩:=aown_has ho;have HNR:=hide hnr;have HNO:=hide (show Own1 W.heap.size w6.heap.size w6 193 5 no ak.length from hno);have HND:=hide hnd;have HOA:=hide (show Own1 W.heap.size w6.heap.size w6 193 5 no nd from own1_of ho);have HBK6:=hide ((uH HBK).below (uH HB6));have y5:=((uH X0).below (uH HB6)).at 5;have hcel:=(uH HBK6).2.2 k hkl;rw [uH HEL] at hcel;obtain ⟨c0,c1,c2⟩:=hcel;simp only at c0 c1 c2;have s0:=sc_same c0;have s1:=sc_same c1;have z0:=(uH HBK6).1.frozen (k*3);have z1:=(uH HBK6).1.frozen (k*3+1);have z2:=(uH HBK6).1.frozen (k*3+2);simp at y5;clear ho hb hnr hno hnd)
   all_goals go_wp2
   all_goals
    have hkk:∃t N,Cel w6 t g N∧t≠193:=⟨_,_,(uH HBK6).1,by decide⟩
    have hgw:w.heap.size+2≤g:=hgB
    go_roundw
    case rel=>
     refine ⟨k+1,by omega,by go_num,hide ⟨ns++[⟨vi,vq,no,ak.length,nd⟩],by simp [uH HNS],?_,?_,?_⟩,hide (((uH X0).below (uH HB6)).other g _ _ (by omega)),hide (((uH X1).below (uH HB6)).other g _ _ (by omega)),hide ?_,hide (yC (yB (uH XB) (uH HB6)) _ _ _ (by omega)),by rw [set_size];have:=(uH HB6).size;omega⟩
     ·have:=(uH HBK6).asks hkl no ak.length nd
      rw [uH HEL] at this
      simp only at this
      rw [uH HST] at this
      exact this.has hgB (by have:=uH HN2;have:=uH HNS;simp;omega)
     ·rw [uH HTK]
      exact ((uH HKH).snoc (uH HB6) hzw vi vq no nd ak (uH HND) (uH HNR) (uH HNO)).sc (.inr hkk)
     ·exact ((RmL.cons ((uH HOA).mono hzw (yJ _)) ((uH HRM).below (uH HB6))).sub (fun p hp=>by simp only [List.map_append,List.map_cons,List.map_nil,List.mem_cons,List.mem_append,List.not_mem_nil,or_false] at hp ⊢;rcases hp with h | h | h | h<;>simp [h])).sc _ _ _
     ·obtain ⟨t,N,hc,ht⟩:=hkk
      have hq:=(uH XQ).below (uH HB6)
      refine ⟨hq.1.mks (Mks.one (fun x=>x=g) _ g _ _ rfl) (fun i hi e=>?_),by rw [set_size];exact hq.2.mks (Mks.one (fun x=>x=g) _ g _ _ rfl)⟩
      obtain ⟨_,_,N',hc'⟩:=hq.2.lies i hi
      subst e
      exact absurd (hc'.type (uH HBK6).1) (by decide)
    case measure=>simp [intOf];omega
  ·obtain rfl:k=n2:=by omega
   obtain ⟨ns,hns,hph,hkh,hrm⟩:=uH HP
   have hdr:hs0.drop k=[]:=List.drop_of_length_le (by have:=uH HN2;omega)
   have htk:apps.take k=apps:=List.take_of_length_le (by have:=(uH SH).1;have:=uH HN2;omega)
   rw [hdr,List.append_nil] at hph
   rw [htk] at hkh
   have M0:=hide hrm
   have K0:=hide (show CpSt w _ qo qs po k ns apps wr from ⟨uH HR0,uH HR1,uH HQ,hph,hkh,uH HB,hz⟩)
   have CM:=hide (cloneMachine_any ma ml mc ms wr ((uH SM).below (uH HB)) hlm)
   have a6:=(uH HR0).at 6
   simp at a6
   have k1:¬(k:Int)<k:=by omega
   clear hph hkh hrm hdr htk HP HR0 HR1 HQ HB hlt hns
   go_wp2_with fail
   refine (uH CM).mono ?_
   rintro e w7 ⟨v,rfl,ho,hb⟩
   obtain ⟨mo,md,rfl,hmd,hmh⟩:=mown_has (mown_base ho hz)
   have M1:=hide (RmL.cons (own1_of (mown_base ho hz)) ((uH M0).below hb))
   have K1:=hide ((uH K0).below hb)
   obtain ⟨n3,hn3⟩:∃n,ms.length=n:=⟨_,rfl⟩
   rw [hn3] at hmh ⊢
   have OM:=hide hmh
   have HN3:=hide hn3
   have hl3:n3≤1048576:=by have:=(uH SM).1;omega
   have d6:=(uH K1).r0.at 6
   have f6:=(uH K1).r0.f 6
   simp at d6
   have HMD:=hide (show n3≤md by omega)
   clear ho hb hmh CM a6 hmd hn3 K0 M0 hz
   go_upto_region 9 with fail
   have K2:=hide (show CpSt w #[.slice qo qs.length qd,.int .i64 clock,.int .i64 epoch,.int .i64 next,.int .i64 serial,.slice po k pd,.slice mo n3 md,.slice ca cl cc] qo qs po k ns apps (w7.setCell ⟨w.heap.size,6,none⟩ (.slice mo n3 md)) from (uH K1).sc 6 (.slice mo n3 md))
   have OM2:=hide ((uH OM).sc (k:=w.heap.size) (j:=6) (v:=.slice mo n3 md) (by omega))
   have M2:=hide ((uH M1).sc w.heap.size 6 (.slice mo n3 md))
   generalize w7.setCell ⟨w.heap.size,6,none⟩ (.slice mo n3 md)=w8 at K2 OM2 M2 ⊢
   have a6:=(uH K2).r0.at 6
   simp at a6
   clear d6 f6 K1 OM M1
   go_wp2
   go_loopw [37] (fun i wr=>∃(j:Nat),j≤n3∧i=.int .i64 j∧Hid (CpSt w #[.slice qo qs.length qd,.int .i64 clock,.int .i64 epoch,.int .i64 next,.int .i64 serial,.slice po k pd,.slice mo n3 md,.slice ca cl cc] qo qs po k ns apps wr)∧Hid (MHas (w.heap.size+2) wr mo n3 ms)∧Hid (RmL (w.heap.size+2) wr ((147,4,mo,md)::(139,3,po,pd)::(142,4,qo,qd)::ns.map (fun v=>(193,5,v.ao,v.cap))))) (fun i _=>n3 - (intOf i).toNat)
   case atStart=>exact ⟨0,Nat.zero_le _,rfl,K2,OM2,M2⟩
   case round=>
    obtain ⟨j,hj,rfl,HK,HM,HRL⟩:=hrel
    clear K2 OM2 M2 a6
    by_cases hlt:j<n3
    ·obtain ⟨g,rfl,hgB,hgE,hfz,hat⟩:=(uH HM).blk hlt
     have hjl:j<ms.length:=by have:=uH HN3;omega
     obtain ⟨c0,c1,c2,c3⟩:=hat j hjl
     have hnm:=(uH HF).2.2.1.2 ms[j] (yM hjl)
     obtain ⟨⟨na,me,cp,se⟩,hm⟩:∃m,ms[j]=m:=⟨_,rfl⟩
     rw [hm] at c0 c1 c2 c3 hnm
     simp only at c0 c1 c2 c3 hnm
     have HW:=hide (yA (yH _ wr) (.cells #[.string (bs na),.int .i64 me,.int .i64 cp,.int .i64 se] 147))
     have X0:=hide ((uH HK).below (uH HW))
     have XM:=hide ((uH HM).below (uH HW))
     have XL:=hide ((uH HRL).below (uH HW))
     have XA:=hide (yD wr #[.string (bs na),.int .i64 me,.int .i64 cp,.int .i64 se] 147)
     have D0:=hide (cellBel c0 (uH HW))
     have hs1:(bs na).size≤281474976710656:=by rw [bs_size];omega
     have CL:=hide (fun wx=>clone_any (bs na) wx hs1)
     have j0:(0:Int)≤j:=by omega
     have j1:(j:Int)<n3:=by omega
     clear hat hm hjl hfz hnm
     go_upto_region 12 with fail
     obtain ⟨W,hW⟩:∃W,wr.alloc (.cells #[.string (bs na),.int .i64 me,.int .i64 cp,.int .i64 se] 147)=W:=⟨_,rfl⟩
     rw [hW] at X0 XM XL XA D0 ⊢
     have xa0:=(uH XA).at 0
     have x6:=(uH X0).r0.at 6
     simp at xa0 x6
     clear hW HW HK HM HRL c0 c1 c2 c3
     go_wp2_with fail
     go_region_with (go_at_call 46;refine (uH CL _).mono ?_;rintro e w6 ⟨rfl,hb⟩;have HB6:=hide (yB (yH _ W).drew hb);have y6:=((uH X0).below (uH HB6)).r0.at 6;have c0:=cellBel (uH D0) (uH HB6);have s0:=sc_same c0;obtain ⟨g',e',_,_,hfz,_⟩:=((uH XM).below (uH HB6)).blk hlt;cases e';have z0:=hfz (j*4);simp at y6;clear hb hfz)
     all_goals go_wp2
     all_goals
      go_roundw
      case rel=>exact ⟨j+1,by omega,by go_num,hide ((uH X0).below (uH HB6)),hide ((uH XM).below (uH HB6)),hide ((uH XL).below (uH HB6))⟩
      case measure=>simp [intOf];omega
    ·obtain rfl:j=n3:=by omega
     have CC:=hide (copyOfConts_any ca cl cc cs wr ((uH SC).below (uH HK).b) hlc (uH HF).2.2.2.2)
     have a7:=(uH HK).r0.at 7
     simp at a7
     have j1:¬(j:Int)<j:=by omega
     clear hlt
     go_wp2_with fail
     refine (uH CC).mono ?_
     rintro e w9 ⟨co,cd,rfl,hcd,hch0,hco,hb⟩
     have L1:=hide (RmL.cons (hco.mono (uH HK).z (yJ _)) ((uH HRL).below hb))
     have hch:=hch0.base (uH HK).z
     have K1:=hide ((uH HK).below hb)
     have OM1:=hide ((uH HM).below hb)
     obtain ⟨n4,hn4⟩:∃n,cs.length=n:=⟨_,rfl⟩
     rw [hn4] at hch ⊢
     have OC:=hide hch
     have HN4:=hide hn4
     have d7:=(uH K1).r0.at 7
     have f7:=(uH K1).r0.f 7
     simp at d7
     have HCD:=hide (show n4≤cd by omega)
     clear hch0 hco hb hch CC a7 hcd hn4 HK HM HRL
     go_upto_region 15 with fail
     have K2:=hide (show CpSt w #[.slice qo qs.length qd,.int .i64 clock,.int .i64 epoch,.int .i64 next,.int .i64 serial,.slice po k pd,.slice mo j md,.slice co n4 cd] qo qs po k ns apps (w9.setCell ⟨w.heap.size,7,none⟩ (.slice co n4 cd)) from (uH K1).sc 7 (.slice co n4 cd))
     have OM2:=hide ((uH OM1).sc (k:=w.heap.size) (j:=7) (v:=.slice co n4 cd) (by omega))
     have OC2:=hide ((uH OC).sc (k:=w.heap.size) (j:=7) (v:=.slice co n4 cd) (by omega))
     have L2:=hide ((uH L1).sc w.heap.size 7 (.slice co n4 cd))
     generalize w9.setCell ⟨w.heap.size,7,none⟩ (.slice co n4 cd)=w10 at K2 OM2 OC2 L2 ⊢
     clear d7 f7 K1 OM1 OC L1
     have a0:=(uH K2).r0.at 0;have a1:=(uH K2).r0.at 1;have a2:=(uH K2).r0.at 2;have a3:=(uH K2).r0.at 3;have a4:=(uH K2).r0.at 4;have a5:=(uH K2).r0.at 5;have a6:=(uH K2).r0.at 6;have a7:=(uH K2).r0.at 7
     have c0:=(uH K2).r1.at 0;have c1:=(uH K2).r1.at 1;have c2:=(uH K2).r1.at 2;have c3:=(uH K2).r1.at 3;have c4:=(uH K2).r1.at 4;have c5:=(uH K2).r1.at 5;have c6:=(uH K2).r1.at 6;have c7:=(uH K2).r1.at 7
     have f0:=(uH K2).r1.f 0;have f1:=(uH K2).r1.f 1;have f2:=(uH K2).r1.f 2;have f3:=(uH K2).r1.f 3;have f4:=(uH K2).r1.f 4;have f5:=(uH K2).r1.f 5;have f6:=(uH K2).r1.f 6;have f7:=(uH K2).r1.f 7
     simp at a0 a1 a2 a3 a4 a5 a6 a7 c0 c1 c2 c3 c4 c5 c6 c7
     go_wp2
     have R9:=hide (show Blk ((((((((w10.setCell ⟨w.heap.size+1,0,none⟩ (.slice qo qs.length qd)).setCell ⟨w.heap.size+1,1,none⟩ (.int .i64 clock)).setCell ⟨w.heap.size+1,2,none⟩ (.int .i64 epoch)).setCell ⟨w.heap.size+1,3,none⟩ (.int .i64 next)).setCell ⟨w.heap.size+1,4,none⟩ (.int .i64 serial)).setCell ⟨w.heap.size+1,5,none⟩ (.slice po k pd)).setCell ⟨w.heap.size+1,6,none⟩ (.slice mo j md)).setCell ⟨w.heap.size+1,7,none⟩ (.slice co n4 cd)) (w.heap.size+1) #[.slice qo qs.length qd,.int .i64 clock,.int .i64 epoch,.int .i64 next,.int .i64 serial,.slice po k pd,.slice mo j md,.slice co n4 cd] 37 from (((((((((uH K2).r1.set 0 (.slice qo qs.length qd)).set 1 (.int .i64 clock)).set 2 (.int .i64 epoch)).set 3 (.int .i64 next)).set 4 (.int .i64 serial)).set 5 (.slice po k pd)).set 6 (.slice mo j md)).set 7 (.slice co n4 cd)))
     have Q9:=hide ((((((((((uH K2).q.sc (k:=w.heap.size+1) (j:=0) (v:=.slice qo qs.length qd) (by omega)).sc (k:=w.heap.size+1) (j:=1) (v:=.int .i64 clock) (by omega)).sc (k:=w.heap.size+1) (j:=2) (v:=.int .i64 epoch) (by omega)).sc (k:=w.heap.size+1) (j:=3) (v:=.int .i64 next) (by omega)).sc (k:=w.heap.size+1) (j:=4) (v:=.int .i64 serial) (by omega)).sc (k:=w.heap.size+1) (j:=5) (v:=.slice po k pd) (by omega)).sc (k:=w.heap.size+1) (j:=6) (v:=.slice mo j md) (by omega)).sc (k:=w.heap.size+1) (j:=7) (v:=.slice co n4 cd) (by omega)))
     have P9:=hide ((((((((((uH K2).p.sc (k:=w.heap.size+1) (j:=0) (v:=.slice qo qs.length qd) (by omega)).sc (k:=w.heap.size+1) (j:=1) (v:=.int .i64 clock) (by omega)).sc (k:=w.heap.size+1) (j:=2) (v:=.int .i64 epoch) (by omega)).sc (k:=w.heap.size+1) (j:=3) (v:=.int .i64 next) (by omega)).sc (k:=w.heap.size+1) (j:=4) (v:=.int .i64 serial) (by omega)).sc (k:=w.heap.size+1) (j:=5) (v:=.slice po k pd) (by omega)).sc (k:=w.heap.size+1) (j:=6) (v:=.slice mo j md) (by omega)).sc (k:=w.heap.size+1) (j:=7) (v:=.slice co n4 cd) (by omega)))
     have K9:=hide ((((((((((uH K2).k.sc (k:=w.heap.size+1) (j:=0) (v:=.slice qo qs.length qd) (.inl (by omega))).sc (k:=w.heap.size+1) (j:=1) (v:=.int .i64 clock) (.inl (by omega))).sc (k:=w.heap.size+1) (j:=2) (v:=.int .i64 epoch) (.inl (by omega))).sc (k:=w.heap.size+1) (j:=3) (v:=.int .i64 next) (.inl (by omega))).sc (k:=w.heap.size+1) (j:=4) (v:=.int .i64 serial) (.inl (by omega))).sc (k:=w.heap.size+1) (j:=5) (v:=.slice po k pd) (.inl (by omega))).sc (k:=w.heap.size+1) (j:=6) (v:=.slice mo j md) (.inl (by omega))).sc (k:=w.heap.size+1) (j:=7) (v:=.slice co n4 cd) (.inl (by omega))))
     have M9:=hide ((((((((((uH OM2).sc (k:=w.heap.size+1) (j:=0) (v:=.slice qo qs.length qd) (by omega)).sc (k:=w.heap.size+1) (j:=1) (v:=.int .i64 clock) (by omega)).sc (k:=w.heap.size+1) (j:=2) (v:=.int .i64 epoch) (by omega)).sc (k:=w.heap.size+1) (j:=3) (v:=.int .i64 next) (by omega)).sc (k:=w.heap.size+1) (j:=4) (v:=.int .i64 serial) (by omega)).sc (k:=w.heap.size+1) (j:=5) (v:=.slice po k pd) (by omega)).sc (k:=w.heap.size+1) (j:=6) (v:=.slice mo j md) (by omega)).sc (k:=w.heap.size+1) (j:=7) (v:=.slice co n4 cd) (by omega)))
     have C9:=hide ((((((((((uH OC2).sc (k:=w.heap.size+1) (j:=0) (v:=.slice qo qs.length qd) (by omega)).sc (k:=w.heap.size+1) (j:=1) (v:=.int .i64 clock) (by omega)).sc (k:=w.heap.size+1) (j:=2) (v:=.int .i64 epoch) (by omega)).sc (k:=w.heap.size+1) (j:=3) (v:=.int .i64 next) (by omega)).sc (k:=w.heap.size+1) (j:=4) (v:=.int .i64 serial) (by omega)).sc (k:=w.heap.size+1) (j:=5) (v:=.slice po k pd) (by omega)).sc (k:=w.heap.size+1) (j:=6) (v:=.slice mo j md) (by omega)).sc (k:=w.heap.size+1) (j:=7) (v:=.slice co n4 cd) (by omega)))
     have L9:=hide (((((((((uH L2).sc (w.heap.size+1) 0 (.slice qo qs.length qd)).sc (w.heap.size+1) 1 (.int .i64 clock)).sc (w.heap.size+1) 2 (.int .i64 epoch)).sc (w.heap.size+1) 3 (.int .i64 next)).sc (w.heap.size+1) 4 (.int .i64 serial)).sc (w.heap.size+1) 5 (.slice po k pd)).sc (w.heap.size+1) 6 (.slice mo j md)).sc (w.heap.size+1) 7 (.slice co n4 cd))
     have B9:=hide ((yC (yC (yC (yC (yC (yC (yC (yC (uH K2).b (w.heap.size+1) 0 (.slice qo qs.length qd) (by omega)) (w.heap.size+1) 1 (.int .i64 clock) (by omega)) (w.heap.size+1) 2 (.int .i64 epoch) (by omega)) (w.heap.size+1) 3 (.int .i64 next) (by omega)) (w.heap.size+1) 4 (.int .i64 serial) (by omega)) (w.heap.size+1) 5 (.slice po k pd) (by omega)) (w.heap.size+1) 6 (.slice mo j md) (by omega)) (w.heap.size+1) 7 (.slice co n4 cd) (by omega)))
     generalize ((((((((w10.setCell ⟨w.heap.size+1,0,none⟩ (.slice qo qs.length qd)).setCell ⟨w.heap.size+1,1,none⟩ (.int .i64 clock)).setCell ⟨w.heap.size+1,2,none⟩ (.int .i64 epoch)).setCell ⟨w.heap.size+1,3,none⟩ (.int .i64 next)).setCell ⟨w.heap.size+1,4,none⟩ (.int .i64 serial)).setCell ⟨w.heap.size+1,5,none⟩ (.slice po k pd)).setCell ⟨w.heap.size+1,6,none⟩ (.slice mo j md)).setCell ⟨w.heap.size+1,7,none⟩ (.slice co n4 cd))=W9 at R9 Q9 P9 K9 M9 C9 L9 B9 ⊢
     obtain ⟨z0,z1,z2,z3,z4,z5,z6,z7⟩:=zq (uH R9)
     refine bodyPost_ret (v:=.agg #[.slice qo qs.length qd,.int .i64 clock,.int .i64 epoch,.int .i64 next,.int .i64 serial,.slice po k pd,.slice mo j md,.slice co n4 cd]) (by simp [results,Tryz.results45,go_sem,z0,z1,z2,z3,z4,z5,z6,z7]) rfl (show CopyAns w _ _ _ from ⟨⟨qo,qs.length,qd,po,k,pd,mo,j,md,co,n4,cd⟩,ns,rfl,?_,uH B9⟩)
     exact (sans_of (x:=⟨qo,qs.length,qd,po,k,pd,mo,j,md,co,n4,cd⟩) (s:=⟨qs,clock,epoch,next,serial,apps,ms,cs⟩) (uH Q9) (uH P9) (uH K9) (uH M9) (uH C9) ⟨uH HQD,uH HPD,uH HMD,uH HCD⟩ (rms_of (x:=⟨qo,qs.length,qd,po,k,pd,mo,j,md,co,n4,cd⟩) ((uH L9).sub (fun p hp=>by simp only [RL4,List.mem_cons,List.mem_map] at hp ⊢;rcases hp with h | h | h | h<;>simp [h])) (uH L9 (139,3,po,pd) (by simp)))).mono (by omega) (yJ _)
theorem cellEq {w w':World} {b p:Nat} {u:Value} (h:w.cell? ⟨b,p,none⟩=some u) (hb:w'.heap[b]? = w.heap[b]?):w'.cell? ⟨b,p,none⟩=some u:=(World.cell?_of_block (w:=w) (a:=⟨b,p,none⟩) hb).trans h
theorem QRow.kept {w w':World} {ao:Option Addr} {len:Nat} {l:List Q} (h:QRow w ao len l) (hs:∀k,inR ao len k→w'.heap[k]? = w.heap[k]?):QRow w' ao len l:=by
 obtain ⟨h1,h2⟩:=h
 refine ⟨h1,?_⟩
 rcases h2 with h2 | ⟨b,off,h3,h4⟩
 ·exact .inl h2
 ·by_cases hz:len=0
  ·exact .inl hz
  ·have hb:=hs b ⟨hz,off,h3⟩
   exact .inr ⟨b,off,h3,fun i h=>let ⟨a,c,d,e⟩:=h4 i h;⟨cellEq a hb,cellEq c hb,cellEq d hb,cellEq e hb⟩⟩
theorem MacRow.kept {w w':World} {ao:Option Addr} {len:Nat} {l:List Mac} (h:MacRow w ao len l) (hs:∀k,inR ao len k→w'.heap[k]? = w.heap[k]?):MacRow w' ao len l:=by
 obtain ⟨h1,h2⟩:=h
 refine ⟨h1,?_⟩
 rcases h2 with h2 | ⟨b,off,h3,h4⟩
 ·exact .inl h2
 ·by_cases hz:len=0
  ·exact .inl hz
  ·have hb:=hs b ⟨hz,off,h3⟩
   exact .inr ⟨b,off,h3,fun i h=>let ⟨a,c,d,e⟩:=h4 i h;⟨cellEq a hb,cellEq c hb,cellEq d hb,cellEq e hb⟩⟩
theorem ConRow.kept {w w':World} {ao:Option Addr} {len:Nat} {l:List Con} (h:ConRow w ao len l) (hs:∀k,inR ao len k→w'.heap[k]? = w.heap[k]?):ConRow w' ao len l:=by
 obtain ⟨h1,h2⟩:=h
 refine ⟨h1,?_⟩
 rcases h2 with h2 | ⟨b,off,h3,h4⟩
 ·exact .inl h2
 ·by_cases hz:len=0
  ·exact .inl hz
  ·have hb:=hs b ⟨hz,off,h3⟩
   exact .inr ⟨b,off,h3,fun i h=>let ⟨a,c,d,e,f⟩:=h4 i h;⟨cellEq a hb,cellEq c hb,cellEq d hb,cellEq e hb,cellEq f hb⟩⟩
theorem AskRow.kept {w w':World} {ao:Option Addr} {len:Nat} {l:List Ask} (h:AskRow w ao len l) (hs:∀k,inR ao len k→w'.heap[k]? = w.heap[k]?):AskRow w' ao len l:=by
 obtain ⟨h1,h2⟩:=h
 refine ⟨h1,?_⟩
 rcases h2 with h2 | ⟨b,off,h3,h4⟩
 ·exact .inl h2
 ·by_cases hz:len=0
  ·exact .inl hz
  ·have hb:=hs b ⟨hz,off,h3⟩
   exact .inr ⟨b,off,h3,fun i h=>let ⟨a,c,d,e,f⟩:=h4 i h;⟨cellEq a hb,cellEq c hb,cellEq d hb,cellEq e hb,cellEq f hb⟩⟩
theorem AVRow.kept {w w':World} {ao:Option Addr} {len:Nat} {l:List AV} (h:AVRow w ao len l) (hs:∀k,inR ao len k→w'.heap[k]? = w.heap[k]?):AVRow w' ao len l:=by
 obtain ⟨h1,h2⟩:=h
 refine ⟨h1,?_⟩
 rcases h2 with h2 | ⟨b,off,h3,h4⟩
 ·exact .inl h2
 ·by_cases hz:len=0
  ·exact .inl hz
  ·have hb:=hs b ⟨hz,off,h3⟩
   exact .inr ⟨b,off,h3,fun i h=>let ⟨a,c,d⟩:=h4 i h;⟨cellEq a hb,cellEq c hb,cellEq d hb⟩⟩
theorem own_grown {B:Nat} {w w':World} {t t':TypeId} {sz n:Nat} {ao:Option Addr} {r:Option Nat} (h:Own1 B w.heap.size w t sz ao n) (hg:w.grownBy w' r) (hr:∀k,r=some k→∃N,Cel w t' k N) (ht:t'≠t):(∀k,inR ao n k→w'.heap[k]? = w.heap[k]?)∧Own1 B w'.heap.size w' t sz ao n:=by
 have key:∀k,inR ao n k→w'.heap[k]? = w.heap[k]?:=fun k hk=>by
  obtain ⟨_,h2,N,h3⟩:=h.lies k hk
  refine hg.block k h2 (fun e=>?_)
  obtain ⟨N',h4⟩:=hr k e.symm
  exact ht (h4.type h3)
 refine ⟨key,?_⟩
 rcases h with e | ⟨g,M,e,h1,h2,h3,h4⟩
 ·exact .inl e
 ·by_cases hz:n=0
  ·exact .inl hz
  ·exact .inr ⟨g,M,e,h1,Nat.lt_of_lt_of_le h2 hg.size,h3.of_block (key g ⟨hz,0,e⟩),h4⟩
theorem QHas.grown {B n:Nat} {w w':World} {t':TypeId} {ao:Option Addr} {l:List Q} {r:Option Nat} (h:QHas B w ao n l) (hg:w.grownBy w' r) (hr:∀k,r=some k→∃N,Cel w t' k N) (ht:t'≠142):QHas B w' ao n l:=⟨h.1.kept (own_grown h.2 hg hr ht).1,(own_grown h.2 hg hr ht).2⟩
theorem MHas.grown {B n:Nat} {w w':World} {t':TypeId} {ao:Option Addr} {l:List Mac} {r:Option Nat} (h:MHas B w ao n l) (hg:w.grownBy w' r) (hr:∀k,r=some k→∃N,Cel w t' k N) (ht:t'≠147):MHas B w' ao n l:=⟨h.1.kept (own_grown h.2 hg hr ht).1,(own_grown h.2 hg hr ht).2⟩
theorem CHas.grown {B n:Nat} {w w':World} {t':TypeId} {ao:Option Addr} {l:List Con} {r:Option Nat} (h:CHas B w ao n l) (hg:w.grownBy w' r) (hr:∀k,r=some k→∃N,Cel w t' k N) (ht:t'≠150):CHas B w' ao n l:=⟨h.1.kept (own_grown h.2 hg hr ht).1,(own_grown h.2 hg hr ht).2⟩
theorem PHas.grown {B n:Nat} {w w':World} {t':TypeId} {ao:Option Addr} {l:List AV} {r:Option Nat} (h:PHas B w ao n l) (hg:w.grownBy w' r) (hr:∀k,r=some k→∃N,Cel w t' k N) (ht:t'≠139):PHas B w' ao n l:=⟨h.1.kept (own_grown h.2 hg hr ht).1,(own_grown h.2 hg hr ht).2⟩
theorem KHas.grown {B:Nat} {w w':World} {t':TypeId} {hs:List AV} {l:List Appl} {r:Option Nat} (h:KHas B w hs l) (hg:w.grownBy w' r) (hr:∀k,r=some k→∃N,Cel w t' k N) (ht:t'≠193):KHas B w' hs l:=
 ⟨⟨h.heads.1,fun i h1 h2=>let ⟨a,b,c,d⟩:=h.heads.2 i h1 h2;⟨a,b,c.kept (own_grown (h.own _ (yM h1)) hg hr ht).1,d⟩⟩,fun v hv=>(own_grown (h.own v hv) hg hr ht).2,h.apart⟩
theorem owns_cel {w:World} {B sz n:Nat} {e:TypeId} {v:Value} {xs:List Value} (h:w.ownsRow B e sz v n xs):∀k,v.ownBlock=some k→∃N,Cel w e k N:=fun k hk=>by
 rcases h.2 with ⟨rfl,_⟩ | ⟨g,cap,cur,rfl,_,h2,_⟩
 ·simp [Value.ownBlock] at hk
 ·obtain rfl:g=k:=by simpa [Value.ownBlock] using hk
  exact ⟨_,cur,h2,rfl⟩
theorem Blk.grown {w w':World} {g:Nat} {arr:Array Value} {t t':TypeId} {r:Option Nat} (h:Blk w g arr t) (hg:w.grownBy w' r) (hr:∀k,r=some k→∃N,Cel w t' k N) (ht:t'≠t):Blk w' g arr t:=
 (hg.block g h.lt (fun e=>by obtain ⟨N,h4⟩:=hr g e.symm;exact ht (h4.type ⟨arr,h,rfl⟩))).trans h
theorem grown_sc (w:World) (g j:Nat) (v:Value):w.grownBy (w.setCell ⟨g,j,none⟩ v) (some g):=⟨rfl,rfl,rfl,by simp [World.setCell],fun k _ hne=>Below.heap_setCell _ _ _ _ (by show k≠g;intro e;exact hne (by rw [e]))⟩
structure SSome (x:Sls) (hs:List AV):Prop where
 q:x.qa=none→x.ql=0∧x.qc=0
 m:x.ma=none→x.ml=0∧x.mc=0
 c:x.ca=none→x.cl=0∧x.cc=0
 k:∀v ∈ hs,v.ao=none→v.len=0∧v.cap=0
theorem none_cap {B E:Nat} {w:World} {t:TypeId} {sz c n:Nat} {ao:Option Addr} (h:Own1 B E w t sz ao c) (hn:n≤c) (e:ao=none):n=0∧c=0:=by
 rcases h with h | ⟨g,M,h1,_⟩
 ·omega
 ·rw [e] at h1;cases h1
theorem SAns.some {B E:Nat} {w:World} {x:Sls} {s:St} {hs:List AV} (h:SAns B E w x s hs):SSome x hs:=
 ⟨none_cap h.rm.1 h.cap.q,none_cap h.rm.2.2.1 h.cap.m,none_cap h.rm.2.2.2.1 h.cap.c,fun v hv=>none_cap (h.rm.2.2.2.2 v hv) (by
  obtain ⟨i,hi,rfl⟩:=List.getElem_of_mem hv
  exact (h.heads.2 i hi (by rw [←h.heads.1];exact hi)).2.2.2)⟩
theorem SAns.keep {B E:Nat} {w w':World} {x:Sls} {s:St} {hs:List AV} (h:SAns B E w x s hs) (hk:∀k,B≤k→k<E→w'.heap[k]? = w.heap[k]?):SAns B E w' x s hs:=by
 have key:∀{t:TypeId} {sz n:Nat} {ao:Option Addr},Own1 B E w t sz ao n→(∀k,inR ao n k→w'.heap[k]? = w.heap[k]?)∧Own1 B E w' t sz ao n:=fun ho=>by
  refine ⟨fun k hi=>?_,?_⟩
  ·obtain ⟨h1,h2,_⟩:=ho.lies k hi
   exact hk k h1 h2
  ·rcases ho with e | ⟨g,M,e,h1,h2,h3,h4⟩
   ·exact .inl e
   ·exact .inr ⟨g,M,e,h1,h2,h3.of_block (hk g h1 h2),h4⟩
 have hh:Heads w' hs s.apps:=⟨h.heads.1,fun i h1 h2=>by
  obtain ⟨a,b,c,d⟩:=h.heads.2 i h1 h2
  exact ⟨a,b,c.kept (key (h.asks _ (yM h1))).1,d⟩⟩
 have hav:=h.av.kept (key h.a).1
 exact ⟨⟨h.row.1.kept (key h.q).1,appl_of hav hh,h.row.2.2.1.kept (key h.m).1,h.row.2.2.2.kept (key h.c).1⟩,(key h.q).2,(key h.a).2,(key h.m).2,(key h.c).2,hav,hh,fun v hv=>(key (h.asks v hv)).2,h.apart,h.cap,h.rm.map (fun o=>(key o).2)⟩
structure AnsL (B E:Nat) (w:World) (g:Nat) (y:Sls) (s:St) (hs:List AV) (go:Option Addr) (gn:Nat) (gone:List Con):Prop where
 box:Blk w g (svc y s) 37
 a:SAns B E w y s hs
 c:ConRow w go gn gone
 co:Own1 B E w 150 5 go gn
 ap:∀k,inR go gn k→¬inR y.ca y.cl k
 ge:E≤g
theorem AnsL.below {B E:Nat} {w w':World} {g:Nat} {y:Sls} {s:St} {hs:List AV} {go:Option Addr} {gn:Nat} {gone:List Con} (h:AnsL B E w g y s hs go gn gone) (hb:Below w.heap.size w w'):AnsL B E w' g y s hs go gn gone:=
 ⟨h.box.below hb,h.a.below hb,h.c.below hb,h.co.below hb,h.ap,h.ge⟩
theorem AnsL.al {B E:Nat} {w:World} {g:Nat} {y:Sls} {s:St} {hs:List AV} {go:Option Addr} {gn:Nat} {gone:List Con} (h:AnsL B E w g y s hs go gn gone) (o:Obj):AnsL B E (w.alloc o) g y s hs go gn gone:=h.below (yA (yH _ _) o)
theorem AnsL.keep {B E:Nat} {w w':World} {g:Nat} {y:Sls} {s:St} {hs:List AV} {go:Option Addr} {gn:Nat} {gone:List Con} (h:AnsL B E w g y s hs go gn gone) (hk:∀k,B≤k→k<E→w'.heap[k]? = w.heap[k]?) (hg:w'.heap[g]? = w.heap[g]?):AnsL B E w' g y s hs go gn gone:=by
 refine ⟨hg.trans h.box,h.a.keep hk,h.c.kept (fun k hi=>?_),?_,h.ap,h.ge⟩
 ·obtain ⟨h1,h2,_⟩:=h.co.lies k hi
  exact hk k h1 h2
 ·rcases h.co with e | ⟨b,M,e,h1,h2,h3,h4⟩
  ·exact .inl e
  ·exact .inr ⟨b,M,e,h1,h2,h3.of_block (hk b h1 h2),h4⟩
theorem AnsL.read {B E:Nat} {w:World} {g:Nat} {y:Sls} {s:St} {hs:List AV} {go:Option Addr} {gn:Nat} {gone:List Con} (h:AnsL B E w g y s hs go gn gone):w.cell? ⟨g,0,none⟩=some (.slice y.qa y.ql y.qc)∧w.cell? ⟨g,1,none⟩=some (.int .i64 s.clock)∧w.cell? ⟨g,2,none⟩=some (.int .i64 s.epoch)∧w.cell? ⟨g,3,none⟩=some (.int .i64 s.next)∧w.cell? ⟨g,4,none⟩=some (.int .i64 s.serial)∧w.cell? ⟨g,5,none⟩=some (.slice y.aa y.al y.ac)∧w.cell? ⟨g,6,none⟩=some (.slice y.ma y.ml y.mc)∧w.cell? ⟨g,7,none⟩=some (.slice y.ca y.cl y.cc):=
 ⟨h.box.at 0,h.box.at 1,h.box.at 2,h.box.at 3,h.box.at 4,h.box.at 5,h.box.at 6,h.box.at 7⟩
structure OwnS (B E:Nat) (w:World) (x:Sls) (hs:List AV):Prop where
 q:Own1 B E w 142 4 x.qa x.ql
 a:Own1 B E w 139 3 x.aa x.al
 m:Own1 B E w 147 4 x.ma x.ml
 c:Own1 B E w 150 5 x.ca x.cl
 k:∀v ∈ hs,Own1 B E w 193 5 v.ao v.len
theorem SAns.own {B E:Nat} {w:World} {x:Sls} {s:St} {hs:List AV} (h:SAns B E w x s hs):OwnS B E w x hs:=⟨h.q,h.a,h.m,h.c,h.asks⟩
theorem OwnS.mks {B E:Nat} {w w':World} {x:Sls} {hs:List AV} {S:Nat→Prop} (h:OwnS B E w x hs) (hm:Mks S w w'):OwnS B E w' x hs:=⟨h.q.mks hm,h.a.mks hm,h.m.mks hm,h.c.mks hm,fun v hv=>(h.k v hv).mks hm⟩
structure AnsH (B E:Nat) (w:World) (g:Nat) (y:Sls) (s:St) (hs:List AV) (go:Option Addr) (gn:Nat):Prop where
 box:Blk w g (svc y s) 37
 m:SMk w y hs
 own:OwnS B E w y hs
 co:Own1 B E w 150 5 go gn
 ap:∀k,inR go gn k→¬inR y.ca y.cl k
 ge:E≤g
theorem AnsH.read {B E:Nat} {w:World} {g:Nat} {y:Sls} {s:St} {hs:List AV} {go:Option Addr} {gn:Nat} (h:AnsH B E w g y s hs go gn):w.cell? ⟨g,0,none⟩=some (.slice y.qa y.ql y.qc):=h.box.at 0
structure AnsM (w:World) (g:Nat) (y:Sls) (s:St) (hs:List AV) (go:Option Addr) (gn:Nat):Prop where
 box:Blk w g (svc y s) 37
 m:SMk w y hs
 c:ConRow w go gn (marksC (endS y hs) gn)
theorem AnsM.below {w w':World} {g:Nat} {y:Sls} {s:St} {hs:List AV} {go:Option Addr} {gn:Nat} (h:AnsM w g y s hs go gn) (hb:Below w.heap.size w w'):AnsM w' g y s hs go gn:=⟨h.box.below hb,h.m.below hb,h.c.below hb⟩
theorem AnsM.al {w:World} {g:Nat} {y:Sls} {s:St} {hs:List AV} {go:Option Addr} {gn:Nat} (h:AnsM w g y s hs go gn) (o:Obj):AnsM (w.alloc o) g y s hs go gn:=h.below (yA (yH _ _) o)
theorem AnsM.read {w:World} {g:Nat} {y:Sls} {s:St} {hs:List AV} {go:Option Addr} {gn:Nat} (h:AnsM w g y s hs go gn):w.cell? ⟨g,0,none⟩=some (.slice y.qa y.ql y.qc)∧w.cell? ⟨g,1,none⟩=some (.int .i64 s.clock)∧w.cell? ⟨g,2,none⟩=some (.int .i64 s.epoch)∧w.cell? ⟨g,3,none⟩=some (.int .i64 s.next)∧w.cell? ⟨g,4,none⟩=some (.int .i64 s.serial)∧w.cell? ⟨g,5,none⟩=some (.slice y.aa y.al y.ac)∧w.cell? ⟨g,6,none⟩=some (.slice y.ma y.ml y.mc)∧w.cell? ⟨g,7,none⟩=some (.slice y.ca y.cl y.cc):=
 ⟨h.box.at 0,h.box.at 1,h.box.at 2,h.box.at 3,h.box.at 4,h.box.at 5,h.box.at 6,h.box.at 7⟩
theorem SLim.end {y:Sls} {hs:List AV} (h:SLim y hs):0<endS y hs∧endS y hs≤100000000000000:=by
 have h1:=h.e
 have h2:=h.m
 have h3:=h.c
 unfold endS
 omega
theorem AnsL.off {B E B' E':Nat} {w w':World} {g:Nat} {y:Sls} {s:St} {hs:List AV} {go:Option Addr} {gn:Nat} {gone:List Con} {S:Nat→Prop} (h:AnsL B E w g y s hs go gn gone) (hm:Mks S w w') (hS:∀k,S k→B'≤k∧k<E') (h1:g<B'∨E'≤B) (h2:g<B'∨E'≤g):AnsL B E w' g y s hs go gn gone:=
 h.keep (fun k hk1 hk2=>hm.block k (by have:=h.box.lt;have:=h.ge;omega) (fun hs=>by have:=hS k hs;have:=h.ge;omega)) (hm.block g h.box.lt (fun hs=>by have:=hS g hs;omega))
theorem AnsL.offd {B E B' E':Nat} {w w':World} {g:Nat} {y:Sls} {s:St} {hs:List AV} {go:Option Addr} {gn:Nat} {gone:List Con} (h:AnsL B E w g y s hs go gn gone) (hm:Mkd B' E' w w') (h1:g<B'∨E'≤B) (h2:g<B'∨E'≤g):AnsL B E w' g y s hs go gn gone:=
 h.keep (fun k hk1 hk2=>hm.block k (by have:=h.box.lt;have:=h.ge;omega) (by have:=h.ge;omega)) (hm.block g h.box.lt h2)
theorem InBox.off {w wx wy:World} {x:Sls} {s:St} {B:Nat} {S:Nat→Prop} (h:InBox w x s wx) (hm:Mks S wx wy) (hS:∀k,S k→B≤k) (h1:w.heap.size<B) (h2:B≤wx.heap.size):InBox w x s wy:=h.low (hm.below hS h2) h1
end
end Go.Proofs.YtjkfappkpopbdaaGreat
