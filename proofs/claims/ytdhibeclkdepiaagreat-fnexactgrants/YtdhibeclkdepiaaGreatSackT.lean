/-
  Texts in one: OkF, CopySt.
-/
import Derived.Test.YtdhibeclkdepiaaGreatSackQ
set_option maxRecDepth 100000
set_option maxHeartbeats 16000000
set_option linter.unusedVariables false
set_option linter.unusedSimpArgs false
namespace Go.Proofs.YtdhibeclkdepiaaGreat
section
open Go.RowKit
def qB (s:St):Bool:=aF s.qs&&(aCS s&&(gF s&&(mP s&&mY s)))
theorem aBv (x:Sls) (s:St) (w:World) (h:jC w x s) (hf:bD s) (hc:x.ql≤x.qc) (hw:pX s) :
  Calls Tryz.prog 44 #[sv x s] w fun e w'=>e=.returned (.bool (qB s))∧Below w.heap.size w w':=by
 have hql:x.ql≤1048576:=by have:=h.len.1;have:=hf.1.1;omega
 have C1:=aA (fun wx (hb:Below w.heap.size w wx)=>eU x.qa x.ql x.qc s.qs wx (h.1.below hb) hql (fun q hq=>(hf.1.2 q hq).1) hc)
 have C2:=aA (fun wx=>aBM x s wx)
 have C3:=aA (fun wx (hb:Below w.heap.size w wx)=>aG6 x s wx (h.below hb) hf)
 have C4:=aA (fun wx (hb:Below w.heap.size w wx)=>zO x s wx (h.below hb) hf)
 have C5:=aA (fun wx (hb:Below w.heap.size w wx)=>aEY x s wx (h.below hb) hf hw)
 obtain ⟨b1,e1⟩:∃b,aF s.qs=b:=⟨_,rfl⟩
 obtain ⟨b2,e2⟩:∃b,aCS s=b:=⟨_,rfl⟩
 obtain ⟨b3,e3⟩:∃b,gF s=b:=⟨_,rfl⟩
 obtain ⟨b4,e4⟩:∃b,mP s=b:=⟨_,rfl⟩
 obtain ⟨b5,e5⟩:∃b,mY s=b:=⟨_,rfl⟩
 rw [show qB s=(b1&&(b2&&(b3&&(b4&&b5)))) by rw [qB,e1,e2,e3,e4,e5]]
 rw [e1] at C1
 rw [e2] at C2
 rw [e3] at C3
 rw [e4] at C4
 rw [e5] at C5
 clear h hf hc hw e1 e2 e3 e4 e5
 obtain ⟨qa,ql,qc,aa,al,ac,ma,ml,mc,ca,cl,cc⟩:=x
 obtain ⟨qs,clock,epoch,next,serial,apps,ms,cs⟩:=s
 simp only at C1 C2 C3 C4 C5 hql
 have HB0:=aA (iQ w (svc ⟨qa,ql,qc,aa,al,ac,ma,ml,mc,ca,cl,cc⟩ ⟨qs,clock,epoch,next,serial,apps,ms,cs⟩))
 have P0:=aA (fD w (svc ⟨qa,ql,qc,aa,al,ac,ma,ml,mc,ca,cl,cc⟩ ⟨qs,clock,epoch,next,serial,apps,ms,cs⟩))
 go_enter Tryz.func44,Tryz.ntmps44
 go_wp2_with fail
 refine (uH C1 _ (uH HB0)).mono ?_
 rintro e w1 ⟨rfl,hb⟩
 have HB1:=aA (yB (uH HB0) hb)
 have P1:=aA ((uH P0).below hb)
 clear hb HB0 P0 C1
 cases b1 with
 | false=>
  go_wp2
  go_ret
  exact ⟨rfl,uH HB1⟩
 | true=>
 obtain ⟨q0,q1,q2,q3,q4,q5,q6,q7⟩:_∧_∧_∧_∧_∧_∧_∧_:=⟨(uH P1).at 0,(uH P1).at 1,(uH P1).at 2,(uH P1).at 3,(uH P1).at 4,(uH P1).at 5,(uH P1).at 6,(uH P1).at 7⟩
 simp at q0 q1 q2 q3 q4 q5 q6 q7
 go_wp2_with fail
 refine (uH C2 _).mono ?_
 rintro e w2 ⟨rfl,hb⟩
 have HB2:=aA (yB (uH HB1) hb)
 have P2:=aA ((uH P1).below hb)
 clear hb HB1 P1 C2 q0 q1 q2 q3 q4 q5 q6 q7
 cases b2 with
 | false=>
  go_wp2
  go_ret
  exact ⟨rfl,uH HB2⟩
 | true=>
 obtain ⟨q0,q1,q2,q3,q4,q5,q6,q7⟩:_∧_∧_∧_∧_∧_∧_∧_:=⟨(uH P2).at 0,(uH P2).at 1,(uH P2).at 2,(uH P2).at 3,(uH P2).at 4,(uH P2).at 5,(uH P2).at 6,(uH P2).at 7⟩
 simp at q0 q1 q2 q3 q4 q5 q6 q7
 go_wp2_with fail
 refine (uH C3 _ (uH HB2)).mono ?_
 rintro e w3 ⟨rfl,hb⟩
 have HB3:=aA (yB (uH HB2) hb)
 have P3:=aA ((uH P2).below hb)
 clear hb HB2 P2 C3 q0 q1 q2 q3 q4 q5 q6 q7
 cases b3 with
 | false=>
  go_wp2
  go_ret
  exact ⟨rfl,uH HB3⟩
 | true=>
 obtain ⟨q0,q1,q2,q3,q4,q5,q6,q7⟩:_∧_∧_∧_∧_∧_∧_∧_:=⟨(uH P3).at 0,(uH P3).at 1,(uH P3).at 2,(uH P3).at 3,(uH P3).at 4,(uH P3).at 5,(uH P3).at 6,(uH P3).at 7⟩
 simp at q0 q1 q2 q3 q4 q5 q6 q7
 go_wp2_with fail
 refine (uH C4 _ (uH HB3)).mono ?_
 rintro e w4 ⟨rfl,hb⟩
 have HB4:=aA (yB (uH HB3) hb)
 have P4:=aA ((uH P3).below hb)
 clear hb HB3 P3 C4 q0 q1 q2 q3 q4 q5 q6 q7
 cases b4 with
 | false=>
  go_wp2
  go_ret
  exact ⟨rfl,uH HB4⟩
 | true=>
 obtain ⟨q0,q1,q2,q3,q4,q5,q6,q7⟩:_∧_∧_∧_∧_∧_∧_∧_:=⟨(uH P4).at 0,(uH P4).at 1,(uH P4).at 2,(uH P4).at 3,(uH P4).at 4,(uH P4).at 5,(uH P4).at 6,(uH P4).at 7⟩
 simp at q0 q1 q2 q3 q4 q5 q6 q7
 go_wp2_with fail
 refine (uH C5 _ (uH HB4)).mono ?_
 rintro e w5 ⟨rfl,hb⟩
 have HB5:=aA (yB (uH HB4) hb)
 clear hb HB4 P4 C5 q0 q1 q2 q3 q4 q5 q6 q7
 cases b5
 all_goals
  go_wp2
  go_ret
  exact ⟨rfl,uH HB5⟩
theorem p9.blk {B n k:Nat} {w:World} {ao:Option Addr} {l:List AV} (h:p9 B w ao n l) (hk:k<n):∃g M,ao=some ⟨g,0,none⟩∧B≤g∧g<w.heap.size∧kN w g M l:=by
 obtain ⟨⟨h1,h2⟩,h3⟩:=h
 rcases h3 with e | ⟨g,M,rfl,hB,hE,hc,hn⟩
 ·omega
 ·rcases h2 with e | ⟨b,off,e,hh⟩
  ·omega
  ·cases e
   exact ⟨g,M,rfl,hB,hE,hc,by omega,fun i hi=>by have:=hh i hi;rwa [Nat.zero_add] at this⟩
theorem kN.asks {w:World} {g M i:Nat} {l:List AV} (h:kN w g M l) (hi:i<l.length) (ao:Option Addr) (len cap:Nat):kN (w.setCell ⟨g,i*3+2,none⟩ (.slice ao len cap)) g M (l.set i ⟨l[i].id,l[i].queue,ao,len,cap⟩):=by
 refine ⟨h.1.set _ _ _,by simpa using h.2.1,fun j hj=>?_⟩
 have hj':j<l.length:=by simpa using hj
 obtain ⟨a,b,c⟩:=h.2.2 j hj'
 by_cases e:i=j
 ·subst e
  simp only [List.getElem_set_self]
  exact ⟨bI a (by omega),bI b (by omega),World.cell?_setCell_same _ ⟨g,i*3+2,none⟩ _ c⟩
 ·rw [List.getElem_set_ne e]
  exact ⟨bI a (by omega),bI b (by omega),bI c (by omega)⟩
theorem kN.has {B w g M n l} (h:kN w g M l) (hB:B≤g) (hn:n=l.length):p9 B w (some ⟨g,0,none⟩) n l:=by
 subst hn
 exact ⟨h.row,.inr ⟨g,M,rfl,hB,h.1.lt,h.1,h.2.1⟩⟩
structure aIi (w:World) (arr:Array Value) (qo:Option Addr) (qs:List Q) (po:Option Addr) (n2:Nat) (ns:List AV) (apps:List bY) (wr:World):Prop where
 r0:Blk wr w.heap.size arr 34
 r1:Blk wr (w.heap.size+1) #[.slice none 0 0,.int .i64 0,.int .i64 0,.int .i64 0,.int .i64 0,.slice none 0 0,.slice none 0 0,.slice none 0 0] 34
 q:vD (w.heap.size+2) wr qo qs.length qs
 p:p9 (w.heap.size+2) wr po n2 ns
 k:kX (w.heap.size+2) wr ns apps
 b:Below w.heap.size w wr
 z:w.heap.size+2≤wr.heap.size
theorem aIi.below {w:World} {arr:Array Value} {qo:Option Addr} {qs:List Q} {po:Option Addr} {n2:Nat} {ns:List AV} {apps:List bY} {wr wy:World} (h:aIi w arr qo qs po n2 ns apps wr) (hb:Below wr.heap.size wr wy):aIi w arr qo qs po n2 ns apps wy:=
 ⟨h.r0.below hb,h.r1.below hb,h.q.below hb,h.p.below hb,h.k.below hb,yB h.b hb,Nat.le_trans h.z hb.size⟩
theorem aIi.sc {w:World} {arr:Array Value} {qo:Option Addr} {qs:List Q} {po:Option Addr} {n2:Nat} {ns:List AV} {apps:List bY} {wr:World} (h:aIi w arr qo qs po n2 ns apps wr) (j:Nat) (v:Value):aIi w (arr.setIfInBounds j v) qo qs po n2 ns apps (wr.setCell ⟨w.heap.size,j,none⟩ v):=
 ⟨h.r0.set j v,h.r1.other _ _ _ (by omega),h.q.sc (by omega),h.p.sc (by omega),h.k.sc (.inl (by omega)),yC h.b _ _ _ (yJ _),by rw [bG];exact h.z⟩
theorem uS.blk {B n k:Nat} {w:World} {ao:Option Addr} {l:List Mac} (h:uS B w ao n l) (hk:k<n):∃g,ao=some ⟨g,0,none⟩∧B≤g∧g<w.heap.size∧(∀j,w.frozen? ⟨g,j,none⟩=false)∧∀i (hi:i<l.length),oO w g (i*4) l[i]:=by
 obtain ⟨⟨h1,h2⟩,h3⟩:=h
 rcases h3 with e | ⟨g,M,rfl,hB,hE,hc,hn⟩
 ·omega
 ·rcases h2 with e | ⟨b,off,e,hh⟩
  ·omega
  ·cases e
   exact ⟨g,rfl,hB,hE,fun j=>hc.frozen j,fun i hi=>by have:=hh i hi;rwa [Nat.zero_add] at this⟩
def aEa (w:World) (s:St) (e:Ending) (w':World):Prop:=∃y hs,e=.returned (sv y s)∧p8 w.heap.size w'.heap.size w' y s hs∧Below w.heap.size w w'
theorem xS (x:Sls) (s:St) (w:World) (h:jC w x s) (hf:bD s) :
  Calls Tryz.prog 29 #[sv x s] w (aEa w s):=by
 obtain ⟨hs0,hav,hhd⟩:=h.2.1.heads
 have hqs:=hf.1.2
 have hcq:=h.1.1
 have hca:=h.2.1.1
 have hcm:=h.2.2.1.1
 have hcc:=h.2.2.2.1
 have hlq:x.ql≤1048576:=by have:=hf.1.1;omega
 have hla:x.al≤1048576:=by have:=hf.2.1.1;omega
 have hlm:x.ml≤1048576:=by have:=hf.2.2.1.1;omega
 have hlc:x.cl≤1048576:=by have:=hf.2.2.2.1;omega
 obtain ⟨qa,ql,qc,aa,al,ac,ma,ml,mc,ca,cl,cc⟩:=x
 obtain ⟨qs,clock,epoch,next,serial,apps,ms,cs⟩:=s
 simp only at *
 have hb0:=yA (yA (yH _ w) (.cells #[.slice qa ql qc,.int .i64 clock,.int .i64 epoch,.int .i64 next,.int .i64 serial,.slice aa al ac,.slice ma ml mc,.slice ca cl cc] 34)) (.cells #[.slice none 0 0,.int .i64 0,.int .i64 0,.int .i64 0,.int .i64 0,.slice none 0 0,.slice none 0 0,.slice none 0 0] 34)
 have HB0:=aA hb0
 have P0:=aA ((yD w #[.slice qa ql qc,.int .i64 clock,.int .i64 epoch,.int .i64 next,.int .i64 serial,.slice aa al ac,.slice ma ml mc,.slice ca cl cc] 34).al (.cells #[.slice none 0 0,.int .i64 0,.int .i64 0,.int .i64 0,.int .i64 0,.slice none 0 0,.slice none 0 0,.slice none 0 0] 34))
 have P1:=aA (show Blk _ (w.heap.size+1) #[.slice none 0 0,.int .i64 0,.int .i64 0,.int .i64 0,.int .i64 0,.slice none 0 0,.slice none 0 0,.slice none 0 0] 34 by have:=yD (w.alloc (.cells #[.slice qa ql qc,.int .i64 clock,.int .i64 epoch,.int .i64 next,.int .i64 serial,.slice aa al ac,.slice ma ml mc,.slice ca cl cc] 34)) #[.slice none 0 0,.int .i64 0,.int .i64 0,.int .i64 0,.int .i64 0,.slice none 0 0,.slice none 0 0,.slice none 0 0] 34;rwa [yE] at this)
 have SQ:=aA h.1
 have SV:=aA hav
 have SH:=aA hhd
 have SM:=aA h.2.2.1
 have SC:=aA h.2.2.2
 have HF:=aA hf
 have CQ:=aA (uY qa ql qc qs _ (h.1.below hb0) hlq hqs)
 have HNQ:=aA hcq
 have HNA:=aA hca
 have HNM:=aA hcm
 have HNC:=aA hcc
 clear h hav hhd hb0 hf hqs hcq hca hcm hcc
 go_enter Tryz.func29,Tryz.ntmps29
 go_wp2_with fail
 refine (uH CQ).mono ?_
 rintro e w2 ⟨v,rfl,ho,hb⟩
 obtain ⟨qo,qd,rfl,hqd,hqh⟩:=uR.has ho
 rw [yE,yE] at hqh
 have hrq:=iN ho
 rw [yE,yE] at hrq
 have HM2:=aA (RmL.cons hrq (RmL.nil _ _))
 have HB2:=aA (yB (uH HB0) hb)
 have Q0:=aA ((uH P0).below hb)
 have Q1:=aA ((uH P1).below hb)
 have OQ:=aA hqh
 have hz2:w.heap.size+2≤w2.heap.size:=by have:=hb.size;rw [yE,yE] at this;omega
 have d0:=(uH Q0).at 0
 have f0:=(uH Q0).f 0
 simp at d0
 have HQD:=aA hqd
 clear ho hb hqh hrq HB0 P0 P1 CQ hqd
 go_upto_region 2 with fail
 have HB3:=aA (yC (uH HB2) w.heap.size 0 (.slice qo qs.length qd) (yJ _))
 have R0:=aA (show Blk (w2.setCell ⟨w.heap.size,0,none⟩ (.slice qo qs.length qd)) w.heap.size #[.slice qo qs.length qd,.int .i64 clock,.int .i64 epoch,.int .i64 next,.int .i64 serial,.slice aa al ac,.slice ma ml mc,.slice ca cl cc] 34 from (uH Q0).set 0 (.slice qo qs.length qd))
 have R1:=aA ((uH Q1).other w.heap.size 0 (.slice qo qs.length qd) (by omega))
 have OQ3:=aA ((uH OQ).sc (k:=w.heap.size) (j:=0) (v:=.slice qo qs.length qd) (by omega))
 have hz3:w.heap.size+2≤(w2.setCell ⟨w.heap.size,0,none⟩ (.slice qo qs.length qd)).heap.size:=by rw [bG];exact hz2
 have HM3:=aA ((uH HM2).sc w.heap.size 0 (.slice qo qs.length qd))
 generalize w2.setCell ⟨w.heap.size,0,none⟩ (.slice qo qs.length qd)=w3 at HB3 R0 R1 OQ3 HM3 hz3 ⊢
 clear d0 f0 HB2 Q0 Q1 OQ HM2 hz2
 have CA:=aA (aDJ aa al ac hs0 w3 ((uH SV).below (uH HB3)) hla)
 have a5:=(uH R0).at 5
 simp at a5
 go_wp2_with fail
 refine (uH CA).mono ?_
 rintro e w4 ⟨v,rfl,ho,hb⟩
 obtain ⟨po,pd,rfl,hpd,hph⟩:=aEp (wD ho hz3)
 have HM4:=aA (RmL.cons (iN (wD ho hz3)) ((uH HM3).below hb))
 have HB4:=aA (yB (uH HB3) hb)
 have Q0:=aA ((uH R0).below hb)
 have Q1:=aA ((uH R1).below hb)
 have OQ4:=aA ((uH OQ3).below hb)
 have hz4:w.heap.size+2≤w4.heap.size:=by have:=hb.size;omega
 obtain ⟨n2,hn2⟩:∃n,hs0.length=n:=⟨_,rfl⟩
 rw [hn2] at hph ⊢
 have OP4:=aA hph
 have HN2:=aA hn2
 have hl2:n2≤1048576:=by have:=(uH SV).1;omega
 have d5:=(uH Q0).at 5
 have f5:=(uH Q0).f 5
 simp at d5
 have HPD:=aA (show n2≤pd by omega)
 clear ho hb hph HB3 R0 R1 OQ3 HM3 hz3 CA a5 hpd hn2
 go_upto_region 3 with fail
 have HB5:=aA (yC (uH HB4) w.heap.size 5 (.slice po n2 pd) (yJ _))
 have R0:=aA (show Blk (w4.setCell ⟨w.heap.size,5,none⟩ (.slice po n2 pd)) w.heap.size #[.slice qo qs.length qd,.int .i64 clock,.int .i64 epoch,.int .i64 next,.int .i64 serial,.slice po n2 pd,.slice ma ml mc,.slice ca cl cc] 34 from (uH Q0).set 5 (.slice po n2 pd))
 have R1:=aA ((uH Q1).other w.heap.size 5 (.slice po n2 pd) (by omega))
 have OQ5:=aA ((uH OQ4).sc (k:=w.heap.size) (j:=5) (v:=.slice po n2 pd) (by omega))
 have OP5:=aA ((uH OP4).sc (k:=w.heap.size) (j:=5) (v:=.slice po n2 pd) (by omega))
 have hz5:w.heap.size+2≤(w4.setCell ⟨w.heap.size,5,none⟩ (.slice po n2 pd)).heap.size:=by rw [bG];exact hz4
 have HM5:=aA ((uH HM4).sc w.heap.size 5 (.slice po n2 pd))
 generalize w4.setCell ⟨w.heap.size,5,none⟩ (.slice po n2 pd)=w5 at HB5 R0 R1 OQ5 OP5 HM5 hz5 ⊢
 have a5:=(uH R0).at 5
 simp at a5
 clear d5 f5 HB4 Q0 Q1 OQ4 OP4 HM4 hz4
 go_wp2
 go_loopw [18] (fun i wr=>∃(k:Nat),k≤n2∧i=.int .i64 k∧Hid (∃ns:List AV,ns.length=k∧p9 (w.heap.size+2) wr po n2 (ns++hs0.drop k)∧kX (w.heap.size+2) wr ns (apps.take k)∧RmL (w.heap.size+2) wr ((74,3,po,pd)::(100,4,qo,qd)::ns.map (fun v=>(77,5,v.ao,v.cap))))∧Hid (Blk wr w.heap.size #[.slice qo qs.length qd,.int .i64 clock,.int .i64 epoch,.int .i64 next,.int .i64 serial,.slice po n2 pd,.slice ma ml mc,.slice ca cl cc] 34)∧Hid (Blk wr (w.heap.size+1) #[.slice none 0 0,.int .i64 0,.int .i64 0,.int .i64 0,.int .i64 0,.slice none 0 0,.slice none 0 0,.slice none 0 0] 34)∧Hid (vD (w.heap.size+2) wr qo qs.length qs)∧Hid (Below w.heap.size w wr)∧w.heap.size+2≤wr.heap.size) (fun i _=>n2 - (intOf i).toNat)
 case atStart=>exact ⟨0,Nat.zero_le _,rfl,aA ⟨[],rfl,by simpa using uH OP5,by simpa using kX.nil _ _,uH HM5⟩,R0,R1,OQ5,HB5,hz5⟩
 case round=>
  obtain ⟨k,hk,rfl,HP,HR0,HR1,HQ,HB,hz⟩:=hrel
  clear R0 R1 OQ5 OP5 HB5 HM5 hz5 a5
  by_cases hlt:k<n2
  ·obtain ⟨ns,hns,hph,hkh,hrm⟩:=uH HP
   obtain ⟨g,M,rfl,hgB,hgE,hbk⟩:=hph.blk hlt
   have hk0:k<hs0.length:=by have:=uH HN2;omega
   have hk1:k<apps.length:=by have:=(uH SH).1;omega
   have hkl:k<(ns++hs0.drop k).length:=by rw [List.length_append,List.length_drop];omega
   have hel:(ns++hs0.drop k)[k]=hs0[k]:=by
    rw [List.getElem_append_right (by omega)]
    simp [hns]
   have hcel:=hbk.2.2 k hkl
   rw [hel] at hcel
   obtain ⟨c0,c1,c2⟩:=hcel
   obtain ⟨e0,e1,e2,e3⟩:=(uH SH).2 k hk0 hk1
   have hfa:=(uH HF).2.1.2 apps[k] (yM hk1)
   obtain ⟨⟨ai,aq,ak⟩,hap⟩:∃a,apps[k]=a:=⟨_,rfl⟩
   obtain ⟨⟨vi,vq,va,vl,vc⟩,hv⟩:∃v,hs0[k]=v:=⟨_,rfl⟩
   have hset:∀(no:Option Addr) (nl nd:Nat),(ns++hs0.drop k).set k ⟨vi,vq,no,nl,nd⟩=(ns++[⟨vi,vq,no,nl,nd⟩])++hs0.drop (k+1):=fun no nl nd=>by
    rw [List.set_append_right _ _ (by omega),List.drop_eq_getElem_cons hk0,hns,Nat.sub_self,sB]
    simp
   have htk:apps.take (k+1)=apps.take k++[⟨ai,aq,ak⟩]:=by rw [List.take_succ_eq_append_getElem hk1,hap]
   rw [hap] at e0 e1 e2 hfa
   rw [hv] at c0 c1 c2 e0 e1 e2 e3 hel
   simp only at c0 c1 c2 e0 e1 e2 e3 hfa
   subst e0 e1
   have hrow:=e2.below (uH HB)
   have HW:=aA (yA (yH _ wr) (.cells #[.int .i64 vi,.string (bs vq),.slice va vl vc] 74))
   replace hfa:vq.length≤1048576∧ak.length≤1048576∧∀a ∈ ak,a.node.length≤1048576:=⟨hfa.1,hfa.2.1,hfa.2.2⟩
   have hvl:vl≤1048576:=by have:=e2.1;omega
   have CC:=aA (fun wx (hb:Below (wr.alloc (.cells #[.int .i64 vi,.string (bs vq),.slice va vl vc] 74)).heap.size (wr.alloc (.cells #[.int .i64 vi,.string (bs vq),.slice va vl vc] 74)) wx)=>aBb vi vq va vl vc ak wx ((hrow.below (uH HW)).below hb) hvl hfa.1 hfa.2.2)
   have HST:=aA hset
   have HTK:=aA htk
   have HKH:=aA (hkh.below (uH HW))
   have HRM:=aA (hrm.below (uH HW))
   have HBK:=aA (hbk.below (uH HW))
   have HEL:=aA hel
   have HNS:=aA hns
   have X0:=aA ((uH HR0).below (uH HW))
   have X1:=aA ((uH HR1).below (uH HW))
   have XQ:=aA ((uH HQ).below (uH HW))
   have XB:=aA (yB (uH HB) (uH HW))
   have XA:=aA (yD wr #[.int .i64 vi,.string (bs vq),.slice va vl vc] 74)
   have hzw:w.heap.size+2≤(wr.alloc (.cells #[.int .i64 vi,.string (bs vq),.slice va vl vc] 74)).heap.size:=by rw [yE];omega
   have k0:(0:Int)≤k:=by omega
   have k1:(k:Int)<n2:=by omega
   clear hph hkh hrm hbk hap hv hset htk hrow e2 e3 hfa hel hk0 hk1 hns
   go_upto_region 6 with fail
   obtain ⟨W,hW⟩:∃W,wr.alloc (.cells #[.int .i64 vi,.string (bs vq),.slice va vl vc] 74)=W:=⟨_,rfl⟩
   rw [hW] at CC HKH HRM HBK X0 X1 XQ XB XA hzw ⊢
   have xa0:=(uH XA).at 0
   have xa1:=(uH XA).at 1
   have xa2:=(uH XA).at 2
   have x5:=(uH X0).at 5
   simp at xa0 xa1 xa2 x5
   clear hW HW HP HR0 HR1 HQ HB c0 c1 c2
   go_wp2_with fail
   go_region_with (go_at_call 65;refine (uH CC _ ?_).mono ?_;(exact (yH _ W).drew);rintro e w6 ⟨v,rfl,ho,hb⟩;have HB6:=aA (yB (yH _ W).drew hb);obtain ⟨no,nd,rfl,hnd,hnr,hno⟩:=vJ ho;have HNR:=aA hnr;have HNO:=aA (show dU W.heap.size w6.heap.size w6 77 5 no ak.length from hno);have HND:=aA hnd;have HOA:=aA (show dU W.heap.size w6.heap.size w6 77 5 no nd from iN ho);have HBK6:=aA ((uH HBK).below (uH HB6));have y5:=((uH X0).below (uH HB6)).at 5;have hcel:=(uH HBK6).2.2 k hkl;rw [uH HEL] at hcel;obtain ⟨c0,c1,c2⟩:=hcel;simp only at c0 c1 c2;have s0:=iI c0;have s1:=iI c1;have z0:=(uH HBK6).1.frozen (k*3);have z1:=(uH HBK6).1.frozen (k*3+1);have z2:=(uH HBK6).1.frozen (k*3+2);simp at y5;clear ho hb hnr hno hnd)
   all_goals go_wp2
   all_goals
    have hkk:∃t N,Cel w6 t g N∧t≠77:=⟨_,_,(uH HBK6).1,by decide⟩
    have hgw:w.heap.size+2≤g:=hgB
    go_roundw
    case rel=>
     refine ⟨k+1,by omega,by go_num,aA ⟨ns++[⟨vi,vq,no,ak.length,nd⟩],by simp [uH HNS],?_,?_,?_⟩,aA (((uH X0).below (uH HB6)).other g _ _ (by omega)),aA (((uH X1).below (uH HB6)).other g _ _ (by omega)),aA ?_,aA (yC (yB (uH XB) (uH HB6)) _ _ _ (by omega)),by rw [bG];have:=(uH HB6).size;omega⟩
     ·have:=(uH HBK6).asks hkl no ak.length nd
      rw [uH HEL] at this
      simp only at this
      rw [uH HST] at this
      exact this.has hgB (by have:=uH HN2;have:=uH HNS;simp;omega)
     ·rw [uH HTK]
      exact ((uH HKH).snoc (uH HB6) hzw vi vq no nd ak (uH HND) (uH HNR) (uH HNO)).sc (.inr hkk)
     ·exact ((RmL.cons ((uH HOA).mono hzw (yJ _)) ((uH HRM).below (uH HB6))).sub (fun p hp=>by simp only [List.map_append,List.map_cons,List.map_nil,List.mem_cons,List.mem_append,List.not_mem_nil,or_false] at hp ⊢;rcases hp with h | h | h | h<;>simp [h])).sc _ _ _
     ·obtain ⟨t,N,hc,ht⟩:=hkk
      have hq:=(uH XQ).below (uH HB6)
      refine ⟨hq.1.mks (Mks.one (fun x=>x=g) _ g _ _ rfl) (fun i hi e=>?_),by rw [bG];exact hq.2.mks (Mks.one (fun x=>x=g) _ g _ _ rfl)⟩
      obtain ⟨_,_,N',hc'⟩:=hq.2.lies i hi
      subst e
      exact absurd (hc'.type (uH HBK6).1) (by decide)
    case measure=>simp [intOf];omega
  ·obtain rfl:k=n2:=by omega
   obtain ⟨ns,hns,hph,hkh,hrm⟩:=uH HP
   have hdr:hs0.drop k=[]:=List.drop_of_length_le (by have:=uH HN2;omega)
   have htk:apps.take k=apps:=List.take_of_length_le (by have:=(uH SH).1;have:=uH HN2;omega)
   rw [hdr,List.append_nil] at hph
   rw [htk] at hkh
   have M0:=aA hrm
   have K0:=aA (show aIi w _ qo qs po k ns apps wr from ⟨uH HR0,uH HR1,uH HQ,hph,hkh,uH HB,hz⟩)
   have CM:=aA (vB ma ml mc ms wr ((uH SM).below (uH HB)) hlm)
   have a6:=(uH HR0).at 6
   simp at a6
   have k1:¬(k:Int)<k:=by omega
   clear hph hkh hrm hdr htk HP HR0 HR1 HQ HB hlt hns
   go_wp2_with fail
   refine (uH CM).mono ?_
   rintro e w7 ⟨v,rfl,ho,hb⟩
   obtain ⟨mo,md,rfl,hmd,hmh⟩:=aEw (wM ho hz)
   have M1:=aA (RmL.cons (iN (wM ho hz)) ((uH M0).below hb))
   have K1:=aA ((uH K0).below hb)
   obtain ⟨n3,hn3⟩:∃n,ms.length=n:=⟨_,rfl⟩
   rw [hn3] at hmh ⊢
   have OM:=aA hmh
   have HN3:=aA hn3
   have hl3:n3≤1048576:=by have:=(uH SM).1;omega
   have d6:=(uH K1).r0.at 6
   have f6:=(uH K1).r0.f 6
   simp at d6
   have HMD:=aA (show n3≤md by omega)
   clear ho hb hmh CM a6 hmd hn3 K0 M0 hz
   go_upto_region 9 with fail
   have K2:=aA (show aIi w #[.slice qo qs.length qd,.int .i64 clock,.int .i64 epoch,.int .i64 next,.int .i64 serial,.slice po k pd,.slice mo n3 md,.slice ca cl cc] qo qs po k ns apps (w7.setCell ⟨w.heap.size,6,none⟩ (.slice mo n3 md)) from (uH K1).sc 6 (.slice mo n3 md))
   have OM2:=aA ((uH OM).sc (k:=w.heap.size) (j:=6) (v:=.slice mo n3 md) (by omega))
   have M2:=aA ((uH M1).sc w.heap.size 6 (.slice mo n3 md))
   generalize w7.setCell ⟨w.heap.size,6,none⟩ (.slice mo n3 md)=w8 at K2 OM2 M2 ⊢
   have a6:=(uH K2).r0.at 6
   simp at a6
   clear d6 f6 K1 OM M1
   go_wp2
   go_loopw [37] (fun i wr=>∃(j:Nat),j≤n3∧i=.int .i64 j∧Hid (aIi w #[.slice qo qs.length qd,.int .i64 clock,.int .i64 epoch,.int .i64 next,.int .i64 serial,.slice po k pd,.slice mo n3 md,.slice ca cl cc] qo qs po k ns apps wr)∧Hid (uS (w.heap.size+2) wr mo n3 ms)∧Hid (RmL (w.heap.size+2) wr ((104,4,mo,md)::(74,3,po,pd)::(100,4,qo,qd)::ns.map (fun v=>(77,5,v.ao,v.cap))))) (fun i _=>n3 - (intOf i).toNat)
   case atStart=>exact ⟨0,Nat.zero_le _,rfl,K2,OM2,M2⟩
   case round=>
    obtain ⟨j,hj,rfl,HK,HM,HRL⟩:=hrel
    clear K2 OM2 M2 a6
    by_cases hlt:j<n3
    ·obtain ⟨g,rfl,hgB,hgE,hfz,hat⟩:=(uH HM).blk hlt
     have hjl:j<ms.length:=by have:=uH HN3;omega
     obtain ⟨c0,c1,c2,c3⟩:=hat j hjl
     have hnm:=(uH HF).2.2.1.2 ms[j] (yM hjl)
     obtain ⟨⟨na,me,cp,se⟩,hm⟩:∃m,ms[j]=m:=⟨_,rfl⟩
     rw [hm] at c0 c1 c2 c3 hnm
     simp only at c0 c1 c2 c3 hnm
     have HW:=aA (yA (yH _ wr) (.cells #[.string (bs na),.int .i64 me,.int .i64 cp,.int .i64 se] 104))
     have X0:=aA ((uH HK).below (uH HW))
     have XM:=aA ((uH HM).below (uH HW))
     have XL:=aA ((uH HRL).below (uH HW))
     have XA:=aA (yD wr #[.string (bs na),.int .i64 me,.int .i64 cp,.int .i64 se] 104)
     have D0:=aA (gD c0 (uH HW))
     have hs1:(bs na).size≤281474976710656:=by rw [dI];omega
     have CL:=aA (fun wx=>iE (bs na) wx hs1)
     have j0:(0:Int)≤j:=by omega
     have j1:(j:Int)<n3:=by omega
     clear hat hm hjl hfz hnm
     go_upto_region 12 with fail
     obtain ⟨W,hW⟩:∃W,wr.alloc (.cells #[.string (bs na),.int .i64 me,.int .i64 cp,.int .i64 se] 104)=W:=⟨_,rfl⟩
     rw [hW] at X0 XM XL XA D0 ⊢
     have xa0:=(uH XA).at 0
     have x6:=(uH X0).r0.at 6
     simp at xa0 x6
     clear hW HW HK HM HRL c0 c1 c2 c3
     go_wp2_with fail
     go_region_with (go_at_call 67;refine (uH CL _).mono ?_;rintro e w6 ⟨rfl,hb⟩;have HB6:=aA (yB (yH _ W).drew hb);have y6:=((uH X0).below (uH HB6)).r0.at 6;have c0:=gD (uH D0) (uH HB6);have s0:=iI c0;obtain ⟨g',e',_,_,hfz,_⟩:=((uH XM).below (uH HB6)).blk hlt;cases e';have z0:=hfz (j*4);simp at y6;clear hb hfz)
     all_goals go_wp2
     all_goals
      go_roundw
      case rel=>exact ⟨j+1,by omega,by go_num,aA ((uH X0).below (uH HB6)),aA ((uH XM).below (uH HB6)),aA ((uH XL).below (uH HB6))⟩
      case measure=>simp [intOf];omega
    ·obtain rfl:j=n3:=by omega
     have CC:=aA (xU ca cl cc cs wr ((uH SC).below (uH HK).b) hlc (uH HF).2.2.2.2)
     have a7:=(uH HK).r0.at 7
     simp at a7
     have j1:¬(j:Int)<j:=by omega
     clear hlt
     go_wp2_with fail
     refine (uH CC).mono ?_
     rintro e w9 ⟨co,cd,rfl,hcd,hch0,hco,hb⟩
     have L1:=aA (RmL.cons (hco.mono (uH HK).z (yJ _)) ((uH HRL).below hb))
     have hch:=hch0.base (uH HK).z
     have K1:=aA ((uH HK).below hb)
     have OM1:=aA ((uH HM).below hb)
     obtain ⟨n4,hn4⟩:∃n,cs.length=n:=⟨_,rfl⟩
     rw [hn4] at hch ⊢
     have OC:=aA hch
     have HN4:=aA hn4
     have d7:=(uH K1).r0.at 7
     have f7:=(uH K1).r0.f 7
     simp at d7
     have HCD:=aA (show n4≤cd by omega)
     clear hch0 hco hb hch CC a7 hcd hn4 HK HM HRL
     go_upto_region 15 with fail
     have K2:=aA (show aIi w #[.slice qo qs.length qd,.int .i64 clock,.int .i64 epoch,.int .i64 next,.int .i64 serial,.slice po k pd,.slice mo j md,.slice co n4 cd] qo qs po k ns apps (w9.setCell ⟨w.heap.size,7,none⟩ (.slice co n4 cd)) from (uH K1).sc 7 (.slice co n4 cd))
     have OM2:=aA ((uH OM1).sc (k:=w.heap.size) (j:=7) (v:=.slice co n4 cd) (by omega))
     have OC2:=aA ((uH OC).sc (k:=w.heap.size) (j:=7) (v:=.slice co n4 cd) (by omega))
     have L2:=aA ((uH L1).sc w.heap.size 7 (.slice co n4 cd))
     generalize w9.setCell ⟨w.heap.size,7,none⟩ (.slice co n4 cd)=w10 at K2 OM2 OC2 L2 ⊢
     clear d7 f7 K1 OM1 OC L1
     have a0:=(uH K2).r0.at 0;have a1:=(uH K2).r0.at 1;have a2:=(uH K2).r0.at 2;have a3:=(uH K2).r0.at 3;have a4:=(uH K2).r0.at 4;have a5:=(uH K2).r0.at 5;have a6:=(uH K2).r0.at 6;have a7:=(uH K2).r0.at 7
     have c0:=(uH K2).r1.at 0;have c1:=(uH K2).r1.at 1;have c2:=(uH K2).r1.at 2;have c3:=(uH K2).r1.at 3;have c4:=(uH K2).r1.at 4;have c5:=(uH K2).r1.at 5;have c6:=(uH K2).r1.at 6;have c7:=(uH K2).r1.at 7
     have f0:=(uH K2).r1.f 0;have f1:=(uH K2).r1.f 1;have f2:=(uH K2).r1.f 2;have f3:=(uH K2).r1.f 3;have f4:=(uH K2).r1.f 4;have f5:=(uH K2).r1.f 5;have f6:=(uH K2).r1.f 6;have f7:=(uH K2).r1.f 7
     simp at a0 a1 a2 a3 a4 a5 a6 a7 c0 c1 c2 c3 c4 c5 c6 c7
     go_wp2
     have R9:=aA (show Blk ((((((((w10.setCell ⟨w.heap.size+1,0,none⟩ (.slice qo qs.length qd)).setCell ⟨w.heap.size+1,1,none⟩ (.int .i64 clock)).setCell ⟨w.heap.size+1,2,none⟩ (.int .i64 epoch)).setCell ⟨w.heap.size+1,3,none⟩ (.int .i64 next)).setCell ⟨w.heap.size+1,4,none⟩ (.int .i64 serial)).setCell ⟨w.heap.size+1,5,none⟩ (.slice po k pd)).setCell ⟨w.heap.size+1,6,none⟩ (.slice mo j md)).setCell ⟨w.heap.size+1,7,none⟩ (.slice co n4 cd)) (w.heap.size+1) #[.slice qo qs.length qd,.int .i64 clock,.int .i64 epoch,.int .i64 next,.int .i64 serial,.slice po k pd,.slice mo j md,.slice co n4 cd] 34 from (((((((((uH K2).r1.set 0 (.slice qo qs.length qd)).set 1 (.int .i64 clock)).set 2 (.int .i64 epoch)).set 3 (.int .i64 next)).set 4 (.int .i64 serial)).set 5 (.slice po k pd)).set 6 (.slice mo j md)).set 7 (.slice co n4 cd)))
     have Q9:=aA ((((((((((uH K2).q.sc (k:=w.heap.size+1) (j:=0) (v:=.slice qo qs.length qd) (by omega)).sc (k:=w.heap.size+1) (j:=1) (v:=.int .i64 clock) (by omega)).sc (k:=w.heap.size+1) (j:=2) (v:=.int .i64 epoch) (by omega)).sc (k:=w.heap.size+1) (j:=3) (v:=.int .i64 next) (by omega)).sc (k:=w.heap.size+1) (j:=4) (v:=.int .i64 serial) (by omega)).sc (k:=w.heap.size+1) (j:=5) (v:=.slice po k pd) (by omega)).sc (k:=w.heap.size+1) (j:=6) (v:=.slice mo j md) (by omega)).sc (k:=w.heap.size+1) (j:=7) (v:=.slice co n4 cd) (by omega)))
     have P9:=aA ((((((((((uH K2).p.sc (k:=w.heap.size+1) (j:=0) (v:=.slice qo qs.length qd) (by omega)).sc (k:=w.heap.size+1) (j:=1) (v:=.int .i64 clock) (by omega)).sc (k:=w.heap.size+1) (j:=2) (v:=.int .i64 epoch) (by omega)).sc (k:=w.heap.size+1) (j:=3) (v:=.int .i64 next) (by omega)).sc (k:=w.heap.size+1) (j:=4) (v:=.int .i64 serial) (by omega)).sc (k:=w.heap.size+1) (j:=5) (v:=.slice po k pd) (by omega)).sc (k:=w.heap.size+1) (j:=6) (v:=.slice mo j md) (by omega)).sc (k:=w.heap.size+1) (j:=7) (v:=.slice co n4 cd) (by omega)))
     have K9:=aA ((((((((((uH K2).k.sc (k:=w.heap.size+1) (j:=0) (v:=.slice qo qs.length qd) (.inl (by omega))).sc (k:=w.heap.size+1) (j:=1) (v:=.int .i64 clock) (.inl (by omega))).sc (k:=w.heap.size+1) (j:=2) (v:=.int .i64 epoch) (.inl (by omega))).sc (k:=w.heap.size+1) (j:=3) (v:=.int .i64 next) (.inl (by omega))).sc (k:=w.heap.size+1) (j:=4) (v:=.int .i64 serial) (.inl (by omega))).sc (k:=w.heap.size+1) (j:=5) (v:=.slice po k pd) (.inl (by omega))).sc (k:=w.heap.size+1) (j:=6) (v:=.slice mo j md) (.inl (by omega))).sc (k:=w.heap.size+1) (j:=7) (v:=.slice co n4 cd) (.inl (by omega))))
     have M9:=aA ((((((((((uH OM2).sc (k:=w.heap.size+1) (j:=0) (v:=.slice qo qs.length qd) (by omega)).sc (k:=w.heap.size+1) (j:=1) (v:=.int .i64 clock) (by omega)).sc (k:=w.heap.size+1) (j:=2) (v:=.int .i64 epoch) (by omega)).sc (k:=w.heap.size+1) (j:=3) (v:=.int .i64 next) (by omega)).sc (k:=w.heap.size+1) (j:=4) (v:=.int .i64 serial) (by omega)).sc (k:=w.heap.size+1) (j:=5) (v:=.slice po k pd) (by omega)).sc (k:=w.heap.size+1) (j:=6) (v:=.slice mo j md) (by omega)).sc (k:=w.heap.size+1) (j:=7) (v:=.slice co n4 cd) (by omega)))
     have C9:=aA ((((((((((uH OC2).sc (k:=w.heap.size+1) (j:=0) (v:=.slice qo qs.length qd) (by omega)).sc (k:=w.heap.size+1) (j:=1) (v:=.int .i64 clock) (by omega)).sc (k:=w.heap.size+1) (j:=2) (v:=.int .i64 epoch) (by omega)).sc (k:=w.heap.size+1) (j:=3) (v:=.int .i64 next) (by omega)).sc (k:=w.heap.size+1) (j:=4) (v:=.int .i64 serial) (by omega)).sc (k:=w.heap.size+1) (j:=5) (v:=.slice po k pd) (by omega)).sc (k:=w.heap.size+1) (j:=6) (v:=.slice mo j md) (by omega)).sc (k:=w.heap.size+1) (j:=7) (v:=.slice co n4 cd) (by omega)))
     have L9:=aA (((((((((uH L2).sc (w.heap.size+1) 0 (.slice qo qs.length qd)).sc (w.heap.size+1) 1 (.int .i64 clock)).sc (w.heap.size+1) 2 (.int .i64 epoch)).sc (w.heap.size+1) 3 (.int .i64 next)).sc (w.heap.size+1) 4 (.int .i64 serial)).sc (w.heap.size+1) 5 (.slice po k pd)).sc (w.heap.size+1) 6 (.slice mo j md)).sc (w.heap.size+1) 7 (.slice co n4 cd))
     have B9:=aA ((yC (yC (yC (yC (yC (yC (yC (yC (uH K2).b (w.heap.size+1) 0 (.slice qo qs.length qd) (by omega)) (w.heap.size+1) 1 (.int .i64 clock) (by omega)) (w.heap.size+1) 2 (.int .i64 epoch) (by omega)) (w.heap.size+1) 3 (.int .i64 next) (by omega)) (w.heap.size+1) 4 (.int .i64 serial) (by omega)) (w.heap.size+1) 5 (.slice po k pd) (by omega)) (w.heap.size+1) 6 (.slice mo j md) (by omega)) (w.heap.size+1) 7 (.slice co n4 cd) (by omega)))
     generalize ((((((((w10.setCell ⟨w.heap.size+1,0,none⟩ (.slice qo qs.length qd)).setCell ⟨w.heap.size+1,1,none⟩ (.int .i64 clock)).setCell ⟨w.heap.size+1,2,none⟩ (.int .i64 epoch)).setCell ⟨w.heap.size+1,3,none⟩ (.int .i64 next)).setCell ⟨w.heap.size+1,4,none⟩ (.int .i64 serial)).setCell ⟨w.heap.size+1,5,none⟩ (.slice po k pd)).setCell ⟨w.heap.size+1,6,none⟩ (.slice mo j md)).setCell ⟨w.heap.size+1,7,none⟩ (.slice co n4 cd))=W9 at R9 Q9 P9 K9 M9 C9 L9 B9 ⊢
     obtain ⟨z0,z1,z2,z3,z4,z5,z6,z7⟩:=zq (uH R9)
     refine bodyPost_ret (v:=.agg #[.slice qo qs.length qd,.int .i64 clock,.int .i64 epoch,.int .i64 next,.int .i64 serial,.slice po k pd,.slice mo j md,.slice co n4 cd]) (by simp [results,Tryz.results29,go_sem,z0,z1,z2,z3,z4,z5,z6,z7]) rfl (show aEa w _ _ _ from ⟨⟨qo,qs.length,qd,po,k,pd,mo,j,md,co,n4,cd⟩,ns,rfl,?_,uH B9⟩)
     exact (aDd (x:=⟨qo,qs.length,qd,po,k,pd,mo,j,md,co,n4,cd⟩) (s:=⟨qs,clock,epoch,next,serial,apps,ms,cs⟩) (uH Q9) (uH P9) (uH K9) (uH M9) (uH C9) ⟨uH HQD,uH HPD,uH HMD,uH HCD⟩ (aJo (x:=⟨qo,qs.length,qd,po,k,pd,mo,j,md,co,n4,cd⟩) ((uH L9).sub (fun p hp=>by simp only [RL4,List.mem_cons,List.mem_map] at hp ⊢;rcases hp with h | h | h | h<;>simp [h])) (uH L9 (74,3,po,pd) (by simp)))).mono (by omega) (yJ _)
end
end Go.Proofs.YtdhibeclkdepiaaGreat
