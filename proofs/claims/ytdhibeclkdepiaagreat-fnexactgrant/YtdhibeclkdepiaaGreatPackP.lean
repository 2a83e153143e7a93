/-
  Texts in one: OkI, OkM.
-/
import Derived.Test.YtdhibeclkdepiaaGreatOkH
set_option maxRecDepth 100000
set_option maxHeartbeats 16000000
set_option linter.unusedVariables false
set_option linter.unusedSimpArgs false
namespace Go.Proofs.YtdhibeclkdepiaaGreat
section
open Go.RowKit Go.Maps
def contsS (apps:List Appl) (ms:List Mac):Int→List Con→Bool
 | _,[]=>true
 | last,c::t=>decide (last<c.id)&&(decide (c.id≤1000000000)&&((findAp c.app apps).isSome&&((findM c.node ms).isSome&&(someR c.mem c.cpu&&contsS apps ms c.id t))))
theorem contsS_end {apps:List Appl} {ms:List Mac} {last:Int} {cs:List Con} {k:Nat} (h:cs.length≤k):contsS apps ms last (cs.drop k)=true:=by
 rw [List.drop_of_length_le h];rfl
theorem contsS_step {apps:List Appl} {ms:List Mac} {last:Int} {cs:List Con} {k:Nat} (h:k<cs.length):contsS apps ms last (cs.drop k)=(decide (last<cs[k].id)&&(decide (cs[k].id≤1000000000)&&((findAp cs[k].app apps).isSome&&((findM cs[k].node ms).isSome&&(someR cs[k].mem cs[k].cpu&&contsS apps ms cs[k].id (cs.drop (k+1))))))):=by
 rw [List.drop_eq_getElem_cons h,contsS]
def stateOkS (s:St):Bool:=queuesOk s.qs&&(inB s.clock 0 1000000000&&(inB s.epoch 1 1000000000&&(inB s.next 1 1000000000&&(inB s.serial 1 1000000000&&(appsOkV s&&(machsOkS s&&(decide (s.cs.length≤150)&&contsS s.apps s.ms 0 s.cs)))))))
theorem apAt_some (l:List Appl) (id:Int):decide (apAt l id<0) = !(findAp id l).isSome:=by
 rcases apAt_find id l with ⟨h1,h2⟩ | ⟨j,hj,h1,h2⟩
 ·rw [h1,h2];rfl
 ·rw [h1,h2];simp
theorem macAt_some (l:List Mac) (nm:List UInt8):decide (macAt l nm<0) = !(findM nm l).isSome:=by
 rcases macAt_find nm l with ⟨h1,h2⟩ | ⟨j,hj,h1,h2⟩
 ·rw [h1,h2];rfl
 ·rw [h1,h2];simp
theorem stateOkS_any (x:Sls) (s:St) (w:World) (h:SRow w x s) (hf:FitSt s) :
  Calls Tryz.prog 22 #[sv x s] w fun e w'=>e=.returned (.bool (stateOkS s))∧Below w.heap.size w w':=by
 have hql:x.ql≤1048576:=by have:=h.len.1;have:=hf.1.1;omega
 have hal:x.al≤1048576:=by have:=h.len.2.1;have:=hf.2.1.1;omega
 have hml:x.ml≤1048576:=by have:=h.len.2.2.1;have:=hf.2.2.1.1;omega
 have hcl:x.cl≤1048576:=by have:=h.len.2.2.2;have:=hf.2.2.2.1;omega
 have HR:=hide h.2.2.2
 have HL:=hide h.2.2.2.1
 have CQ:=hide (fun wx (hb:Below w.heap.size w wx)=>specQueuesOk_any x.qa x.ql x.qc s.qs wx (h.1.below hb) hql (fun q hq=>(hf.1.2 q hq).1))
 have CAP:=hide (fun wx (hb:Below w.heap.size w wx) (hq:queuesOk s.qs=true) (h1:1≤s.next) (h2:s.next≤1000000000)=>l04Apps_any x s wx (h.below hb) hf hq h1 h2)
 have CMC:=hide (fun wx (hb:Below w.heap.size w wx)=>l04Machines_any x s wx (h.below hb) hf)
 have CPI:=hide (fun wx (hb:Below w.heap.size w wx) (id:Int)=>l04App_any x s id wx (h.2.1.below hb) hal)
 have CMI:=hide (fun wx (hb:Below w.heap.size w wx) (nm:List UInt8)=>l04Machine_any x s nm wx (h.2.2.1.below hb) hml)
 obtain ⟨b1,e1⟩:∃b,queuesOk s.qs=b:=⟨_,rfl⟩
 obtain ⟨n1,f1⟩:∃b,inB s.clock 0 1000000000=b:=⟨_,rfl⟩
 obtain ⟨n2,f2⟩:∃b,inB s.epoch 1 1000000000=b:=⟨_,rfl⟩
 obtain ⟨n3,f3⟩:∃b,inB s.next 1 1000000000=b:=⟨_,rfl⟩
 obtain ⟨n4,f4⟩:∃b,inB s.serial 1 1000000000=b:=⟨_,rfl⟩
 obtain ⟨b3,e3⟩:∃b,appsOkV s=b:=⟨_,rfl⟩
 obtain ⟨b4,e4⟩:∃b,machsOkS s=b:=⟨_,rfl⟩
 have HS0:=hide (show stateOkS s=(b1&&(n1&&(n2&&(n3&&(n4&&(b3&&(b4&&(decide (x.cl≤150)&&contsS s.apps s.ms 0 (s.cs.drop 0))))))))) by rw [stateOkS,e1,f1,f2,f3,f4,e3,e4,←h.2.2.2.1];rfl)
 obtain ⟨o,ho⟩:∃o,stateOkS s=o:=⟨_,rfl⟩
 rw [ho] at HS0 ⊢
 rw [e1] at CQ
 rw [e3] at CAP
 rw [e4] at CMC
 have CI1:=hide (fun wx=>by have:=l01In_any s.clock 0 1000000000 wx;rw [f1] at this;exact this)
 have CI2:=hide (fun wx=>by have:=l01In_any s.epoch 1 1000000000 wx;rw [f2] at this;exact this)
 have CI3:=hide (fun wx=>by have:=l01In_any s.next 1 1000000000 wx;rw [f3] at this;exact this)
 have CI4:=hide (fun wx=>by have:=l01In_any s.serial 1 1000000000 wx;rw [f4] at this;exact this)
 have HE1:=hide e1
 have HF3:=hide (show n3=true→1≤s.next∧s.next≤1000000000 from fun e=>by rw [e] at f3;simpa [inB] using f3)
 clear h hf ho e1 f1 f2 f3 f4 e3 e4
 obtain ⟨qa,ql,qc,aa,al,ac,ma,ml,mc,ca,cl,cc⟩:=x
 obtain ⟨qs,clock,epoch,next,serial,apps,ms,cs⟩:=s
 simp only at hql hal hml hcl HR HL CQ CAP CMC CPI CMI CI1 CI2 CI3 CI4 HS0 HE1 HF3
 have HB0:=hide (boxW_below w (svc ⟨qa,ql,qc,aa,al,ac,ma,ml,mc,ca,cl,cc⟩ ⟨qs,clock,epoch,next,serial,apps,ms,cs⟩))
 have P0:=hide (boxW_blk w (svc ⟨qa,ql,qc,aa,al,ac,ma,ml,mc,ca,cl,cc⟩ ⟨qs,clock,epoch,next,serial,apps,ms,cs⟩))
 go_enter Tryz.func22,Tryz.ntmps22
 go_wp2_with fail
 refine (uH CQ _ (uH HB0)).mono ?_
 rintro e w1 ⟨rfl,hb⟩
 have HB1:=hide (yB (uH HB0) hb)
 have P1:=hide ((uH P0).below hb)
 obtain ⟨q0,q1,q2,q3,q4,q5,q6,q7⟩:_∧_∧_∧_∧_∧_∧_∧_:=⟨(uH P1).at 0,(uH P1).at 1,(uH P1).at 2,(uH P1).at 3,(uH P1).at 4,(uH P1).at 5,(uH P1).at 6,(uH P1).at 7⟩
 simp at q0 q1 q2 q3 q4 q5 q6 q7
 clear hb HB0 P0 CQ
 cases b1
 case false=>
  go_wp2
  go_ret
  exact ⟨yF (by rw [uH HS0];rfl),uH HB1⟩
 go_wp2_with fail
 refine (uH CI1 _).mono ?_
 rintro e w' ⟨rfl,rfl⟩
 cases n1
 case false=>
  go_wp2
  go_ret
  exact ⟨yF (by rw [uH HS0];simp),uH HB1⟩
 go_wp2_with fail
 refine (uH CI2 _).mono ?_
 rintro e w' ⟨rfl,rfl⟩
 cases n2
 case false=>
  go_wp2
  go_ret
  exact ⟨yF (by rw [uH HS0];simp),uH HB1⟩
 go_wp2_with fail
 refine (uH CI3 _).mono ?_
 rintro e w' ⟨rfl,rfl⟩
 cases n3
 case false=>
  go_wp2
  go_ret
  exact ⟨yF (by rw [uH HS0];simp),uH HB1⟩
 go_wp2_with fail
 refine (uH CI4 _).mono ?_
 rintro e w' ⟨rfl,rfl⟩
 cases n4
 case false=>
  go_wp2
  go_ret
  exact ⟨yF (by rw [uH HS0];simp),uH HB1⟩
 obtain ⟨hn1,hn2⟩:=uH HF3 (by simp)
 go_wp2_with fail
 refine (uH CAP _ (uH HB1) (uH HE1) hn1 hn2).mono ?_
 rintro e w2 ⟨rfl,hb⟩
 have HB2:=hide (yB (uH HB1) hb)
 have P2:=hide ((uH P1).below hb)
 clear hb HB1 P1 CAP q0 q1 q2 q3 q4 q5 q6 q7 hn1 hn2
 cases b3
 case false=>
  go_wp2
  go_ret
  exact ⟨yF (by rw [uH HS0];simp),uH HB2⟩
 obtain ⟨q0,q1,q2,q3,q4,q5,q6,q7⟩:_∧_∧_∧_∧_∧_∧_∧_:=⟨(uH P2).at 0,(uH P2).at 1,(uH P2).at 2,(uH P2).at 3,(uH P2).at 4,(uH P2).at 5,(uH P2).at 6,(uH P2).at 7⟩
 simp at q0 q1 q2 q3 q4 q5 q6 q7
 go_wp2_with fail
 refine (uH CMC _ (uH HB2)).mono ?_
 rintro e w3 ⟨rfl,hb⟩
 have HB3:=hide (yB (uH HB2) hb)
 have P3:=hide ((uH P2).below hb)
 clear hb HB2 P2 CMC q0 q1 q2 q3 q4 q5 q6 q7
 cases b4
 case false=>
  go_wp2
  go_ret
  exact ⟨yF (by rw [uH HS0];simp),uH HB3⟩
 have q7:=(uH P3).at 7
 simp at q7
 by_cases h150:cl≤150
 case neg=>
  have hi:(150:Int)<cl:=by omega
  go_wp2
  go_ret
  exact ⟨yF (by rw [uH HS0,decide_eq_false h150];simp),uH HB3⟩
 have hi:¬(150:Int)<cl:=by omega
 have HS1:=hide (show o=contsS apps ms 0 (cs.drop 0) by rw [uH HS0,decide_eq_true h150];simp)
 clear HS0 CI1 CI2 CI3 CI4 HF3 HE1
 go_wp2
 clear q7 hi h150
 go_loopw [3] (fun i wr=>∃(k:Nat) (last:Int),k≤cl∧i=.int .i64 k∧Hid (o=contsS apps ms last (cs.drop k))∧Hid (0≤last∧(k=0→last=0)∧∀(k':Nat) (hk':k'<cs.length),k=k'+1→last=cs[k'].id)∧Hid (Kp w3 wr)) (fun i _=>cl - (intOf i).toNat)
 case atStart=>exact ⟨0,0,Nat.zero_le _,rfl,HS1,hide ⟨by omega,fun _=>rfl,fun k' _ e=>by omega⟩,hide (Kp.new w3)⟩
 case round=>
  obtain ⟨k,last,hk,rfl,HO,HLA,HK⟩:=hrel
  obtain ⟨wo,rfl⟩:∃wo:World,wo=wr:=⟨_,rfl⟩
  clear HS1
  have P1:=hide ((uH P3).below (uH HK))
  have q7:=(uH P1).at 7
  simp at q7
  have KW:=hide (show Kp w wo from yB (uH HB3) (uH HK))
  by_cases hlt:k<cl
  case neg=>
   have k1:¬(k:Int)<cl:=by omega
   go_wp2
   go_ret
   exact ⟨yF (by rw [uH HO,contsS_end (by have:=uH HL;omega)]),uH KW⟩
  obtain ⟨b,off,rfl,hq⟩:=(uH HR).at hlt
  have hkl:k<cs.length:=by have:=uH HL;omega
  have hst:=contsS_step (apps:=apps) (ms:=ms) (last:=last) hkl
  obtain ⟨c0,c1,c2,c3,c4⟩:=hq hkl
  replace c0:=(uH KW).cell c0
  replace c1:=(uH KW).cell c1
  replace c2:=(uH KW).cell c2
  replace c3:=(uH KW).cell c3
  replace c4:=(uH KW).cell c4
  have HPV:=hide (fun (k':Nat) (e:k=k'+1)=>show wo.cell? ⟨b,off+k'*5,none⟩=some (.int .i64 last) by
   have hk'':k'<cs.length:=by omega
   obtain ⟨b',off',eb,hq'⟩:=(uH HR).at (show k'<cl by omega)
   obtain ⟨rfl,rfl⟩:b=b'∧off=off':=by simpa using eb
   obtain ⟨d0,_⟩:=hq' hk''
   rw [(uH HLA).2.2 k' hk'' e]
   exact (uH KW).cell d0)
  obtain ⟨⟨id,ap,nd,me,cp⟩,hs⟩:∃s,cs[k]=s:=⟨_,rfl⟩
  have HNX:=hide (show ∀(k':Nat) (hk':k'<cs.length),k+1=k'+1→id=cs[k'].id from fun k' hk' e=>by
   have:k=k':=by omega
   subst this
   rw [hs])
  rw [hs] at c0 c1 c2 c3 c4 hst
  simp only at c0 c1 c2 c3 c4 hst
  have k0:(0:Int)≤k:=by omega
  have k1:(k:Int)<cl:=by omega
  have hap:=apAt_some apps ap
  have hma:=macAt_some ms nd
  have CP:=hide (fun wx (hb:Below w.heap.size w wx)=>uH CPI wx hb ap)
  have CMA:=hide (fun wx (hb:Below w.heap.size w wx)=>uH CMI wx hb nd)
  obtain ⟨pa,hpa⟩:∃p,apAt apps ap=p:=⟨_,rfl⟩
  obtain ⟨pm,hpm⟩:∃p,macAt ms nd=p:=⟨_,rfl⟩
  rw [hpa] at hap CP
  rw [hpm] at hma CMA
  obtain ⟨fa,hfa⟩:∃b,(findAp ap apps).isSome=b:=⟨_,rfl⟩
  obtain ⟨fm,hfm⟩:∃b,(findM nd ms).isSome=b:=⟨_,rfl⟩
  obtain ⟨sm,hsm⟩:∃b,someR me cp=b:=⟨_,rfl⟩
  rw [hfa] at hap hst
  rw [hfm] at hma hst
  rw [hsm] at hst
  have HPA:=hide hap
  have HPM:=hide hma
  have HO2:=hide ((uH HO).trans hst)
  obtain ⟨ib,hib⟩:∃b,inB id 1 1000000000=b:=⟨_,rfl⟩
  obtain ⟨hl0,hlz,_⟩:=uH HLA
  clear hq hs hkl hst hfa hfm hap hma hpa hpm HO CPI CMI
  have b4:=yA (Below.refl _ wo) (.cells #[.int .i64 id,.int .i64 ap,.string (bs nd),.int .i64 me,.int .i64 cp] 38)
  have HB4:=hide (yB (uH KW) b4)
  have P4:=hide (yD wo #[.int .i64 id,.int .i64 ap,.string (bs nd),.int .i64 me,.int .i64 cp] 38)
  have Z4:=hide ((uH P1).below b4)
  have HPV4:=hide (fun (k':Nat) (e:k=k'+1)=>Kp.cell b4 (uH HPV k' e))
  have HK4:=hide (show Kp w3 _ from yB (uH HK) b4)
  obtain ⟨W4,hW4⟩:∃W,wo.alloc (.cells #[.int .i64 id,.int .i64 ap,.string (bs nd),.int .i64 me,.int .i64 cp] 38)=W:=⟨_,rfl⟩
  rw [hW4] at HB4 P4 Z4 HPV4 HK4
  obtain ⟨s0,s1,s2,s3,s4,s5,s6,s7⟩:_∧_∧_∧_∧_∧_∧_∧_:=⟨(uH Z4).at 0,(uH Z4).at 1,(uH Z4).at 2,(uH Z4).at 3,(uH Z4).at 4,(uH Z4).at 5,(uH Z4).at 6,(uH Z4).at 7⟩
  obtain ⟨a0,a1,a2,a3,a4⟩:_∧_∧_∧_∧_:=⟨(uH P4).at 0,(uH P4).at 1,(uH P4).at 2,(uH P4).at 3,(uH P4).at 4⟩
  simp at s0 s1 s2 s3 s4 s5 s6 s7 a0 a1 a2 a3 a4
  have R:∀wx,Kp W4 wx→wx.cell? ⟨w.heap.size,0,none⟩=some (.slice qa ql qc)∧wx.cell? ⟨w.heap.size,1,none⟩=some (.int .i64 clock)∧wx.cell? ⟨w.heap.size,2,none⟩=some (.int .i64 epoch)∧wx.cell? ⟨w.heap.size,3,none⟩=some (.int .i64 next)∧wx.cell? ⟨w.heap.size,4,none⟩=some (.int .i64 serial)∧wx.cell? ⟨w.heap.size,5,none⟩=some (.slice aa al ac)∧wx.cell? ⟨w.heap.size,6,none⟩=some (.slice ma ml mc)∧wx.cell? ⟨w.heap.size,7,none⟩=some (.slice (some ⟨b,off,none⟩) cl cc)∧wx.cell? ⟨wo.heap.size,0,none⟩=some (.int .i64 id)∧wx.cell? ⟨wo.heap.size,1,none⟩=some (.int .i64 ap)∧wx.cell? ⟨wo.heap.size,2,none⟩=some (.string (bs nd))∧wx.cell? ⟨wo.heap.size,3,none⟩=some (.int .i64 me)∧wx.cell? ⟨wo.heap.size,4,none⟩=some (.int .i64 cp):=fun wx h=>
   ⟨h.cell s0,h.cell s1,h.cell s2,h.cell s3,h.cell s4,h.cell s5,h.cell s6,h.cell s7,h.cell a0,h.cell a1,h.cell a2,h.cell a3,h.cell a4⟩
  have A0:=hide (Kp.new W4)
  have HS:=hide (kp_holds W4)
  clear b4 HPV P1
  go_wp2_with fail
  first | (change Code.wp _ _ _ _ (wo.alloc (.cells #[.int .i64 id,.int .i64 ap,.string (bs nd),.int .i64 me,.int .i64 cp] 38));rw [hW4]) | skip
  clear hW4 c0 c1 c2 c3 c4 q7 s0 s1 s2 s3 s4 s5 s6 s7 a0 a1 a2 a3 a4 P4 Z4
  refine wp_region_held_drew (S:=fun wx=>Kp W4 wx) (by kernel_rfl) ((uH HS).drew (uH A0)) (fun S0=>?_)
  refine takeW 0 61 _ rfl rfl S0 ?_
  try simp only [Act.put,sA,sB,sC]
  refine takeW 1 62 _ rfl rfl S0 ?_
  try simp only [Act.put,sA,sB,sC]
  cases ib
  case false=>
   refine wpAnyH_ready (rs:=[2]) (by kernel_rfl) (by simp) (AllReadyH.cons rfl (fun K hK=>?_) AllReadyH.nil)
   go_simp
   refine (l01In_any id 1 1000000000 _).mono ?_
   rw [hib]
   rintro e wt ⟨rfl,rfl⟩
   have S1:=S0
   go_wp2_with fail
   refine hK.out _ _ S1 (fun S0=>?_)
   clear hK K S1
   try simp only [Act.put,sA,sB,sC]
   refine takeW 3 64 (.bool true) rfl rfl S0 ?_
   try simp only [Act.put,sA,sB,sC]
   refine takeW 4 65 (.bool true) rfl rfl S0 ?_
   try simp only [Act.put,sA,sB,sC]
   refine takeU 5 66 rfl rfl S0 <| takeU 6 67 rfl rfl S0 <| takeU 7 68 rfl rfl S0 <| takeU 8 69 rfl rfl S0 <| takeU 9 70 rfl rfl S0 <| takeU 10 71 rfl rfl S0 <| takeU 11 72 rfl rfl S0 <| takeU 12 73 rfl rfl S0 <| takeU 13 74 rfl rfl S0 <| takeU 14 75 rfl rfl S0 <| takeU 15 76 rfl rfl S0 <| takeU 16 77 rfl rfl S0 <| takeU 17 78 rfl rfl S0 <| takeU 18 79 rfl rfl S0 <| ?_
   try simp only [Act.put,sA,sB,sC]
   refine takeW 19 80 (.bool true) rfl rfl S0 ?_
   try simp only [Act.put,sA,sB,sC]
   refine takeW 20 81 (.bool true) rfl rfl S0 ?_
   try simp only [Act.put,sA,sB,sC]
   refine takeU 21 82 rfl rfl S0 <| takeU 22 83 rfl rfl S0 <| takeU 23 84 rfl rfl S0 <| takeU 24 85 rfl rfl S0 <| takeU 25 86 rfl rfl S0 <| ?_
   try simp only [Act.put,sA,sB,sC]
   refine takeW 26 87 (.bool true) rfl rfl S0 ?_
   try simp only [Act.put,sA,sB,sC]
   refine takeW 27 88 (.bool true) rfl rfl S0 ?_
   try simp only [Act.put,sA,sB,sC]
   refine takeU 28 89 rfl rfl S0 <| takeU 29 90 rfl rfl S0 <| takeU 30 91 rfl rfl S0 <| takeU 31 92 rfl rfl S0 <| takeU 32 93 rfl rfl S0 <| ?_
   try simp only [Act.put,sA,sB,sC]
   refine takeW 33 94 (.bool true) rfl rfl S0 ?_
   try simp only [Act.put,sA,sB,sC]
   refine takeW 34 95 (.bool true) rfl rfl S0 ?_
   try simp only [Act.put,sA,sB,sC]
   refine takeU 35 96 rfl rfl S0 <| takeU 36 97 rfl rfl S0 <| takeU 37 98 rfl rfl S0 <| takeU 38 99 rfl rfl S0 <| ?_
   try simp only [Act.put,sA,sB,sC]
   refine takeW 39 100 (.bool true) rfl rfl S0 ?_
   try simp only [Act.put,sA,sB,sC]
   refine wpAnyH_done (by kernel_rfl) ?_ _
   have HB9:=hide (yB (uH HB4) ((uH HS).below S0))
   have HF:=hide (show o=false by
    have hc:¬(1≤id∧id≤1000000000):=fun hc=>by rw [inB_true hc.1 hc.2] at hib;cases hib
    have hz:decide (last<id)=false∨decide (id≤1000000000)=false:=by simp only [decide_eq_false_iff_not];omega
    rw [uH HO2];rcases hz with hz | hz<;>rw [hz]<;>simp)
   go_wp2
   go_ret
   exact ⟨yF (uH HF).symm,uH HB9⟩
  have hin:1≤id∧id≤1000000000:=by simpa [inB] using hib
  refine wpAnyH_ready (rs:=[2]) (by kernel_rfl) (by simp) (AllReadyH.cons rfl (fun K hK=>?_) AllReadyH.nil)
  go_simp
  refine (l01In_any id 1 1000000000 _).mono ?_
  rw [hib]
  rintro e wt ⟨rfl,rfl⟩
  have S1:=S0
  go_wp2_with fail
  refine hK.out _ _ S1 (fun S0=>?_)
  clear hK K S1
  try simp only [Act.put,sA,sB,sC]
  refine takeW 3 64 (.bool false) rfl rfl S0 ?_
  try simp only [Act.put,sA,sB,sC]
  refine takeW 4 65 (.bool false) rfl rfl S0 ?_
  try simp only [Act.put,sA,sB,sC]
  by_cases hk0:k=0
  ·obtain rfl:=hk0
   obtain rfl:=hlz rfl
   refine takeW 5 66 _ rfl rfl S0 ?_
   try simp only [Act.put,sA,sB,sC]
   refine takeW 6 67 (.bool false) rfl rfl S0 ?_
   try simp only [Act.put,sA,sB,sC]
   refine takeW 7 68 (.bool false) rfl rfl S0 ?_
   try simp only [Act.put,sA,sB,sC]
   refine takeU 8 69 rfl rfl S0 <| takeU 9 70 rfl rfl S0 <| takeU 10 71 rfl rfl S0 <| takeU 11 72 rfl rfl S0 <| takeU 12 73 rfl rfl S0 <| takeU 13 74 rfl rfl S0 <| takeU 14 75 rfl rfl S0 <| takeU 15 76 rfl rfl S0 <| takeU 16 77 rfl rfl S0 <| takeU 17 78 rfl rfl S0 <| ?_
   try simp only [Act.put,sA,sB,sC]
   refine takeW 18 79 (.bool false) rfl rfl S0 ?_
   try simp only [Act.put,sA,sB,sC]
   refine takeW 19 80 (.bool false) rfl rfl S0 ?_
   try simp only [Act.put,sA,sB,sC]
   refine takeW 20 81 (.bool false) rfl rfl S0 ?_
   try simp only [Act.put,sA,sB,sC]
   refine takeW 21 82 _ rfl rfl S0 ?_
   try simp only [Act.put,sA,sB,sC]
   refine takeW 22 83 _ rfl rfl S0 ?_
   try simp only [Act.put,sA,sB,sC]
   refine takeW 23 84 _ rfl rfl S0 ?_
   try simp only [Act.put,sA,sB,sC]
   cases fa
   case false=>
    have hp:pa<0:=by simpa using uH HPA
    refine wpAnyH_ready (rs:=[24]) (by kernel_rfl) (by simp) (AllReadyH.cons rfl (fun K hK=>?_) AllReadyH.nil)
    go_simp
    refine (uH CP _ (yB (uH HB4) ((uH HS).below S0))).mono ?_
    rintro e wt ⟨rfl,hb⟩
    have S1:=(uH HS).call S0 hb
    clear hb
    go_wp2_with fail
    refine hK.out _ _ S1 (fun S0=>?_)
    clear hK K S1
    try simp only [Act.put,sA,sB,sC]
    refine takeW 25 86 (.bool true) rfl rfl S0 ?_
    try simp only [Act.put,sA,sB,sC]
    refine takeW 26 87 (.bool true) rfl rfl S0 ?_
    try simp only [Act.put,sA,sB,sC]
    refine takeW 27 88 (.bool true) rfl rfl S0 ?_
    try simp only [Act.put,sA,sB,sC]
    refine takeU 28 89 rfl rfl S0 <| takeU 29 90 rfl rfl S0 <| takeU 30 91 rfl rfl S0 <| takeU 31 92 rfl rfl S0 <| takeU 32 93 rfl rfl S0 <| ?_
    try simp only [Act.put,sA,sB,sC]
    refine takeW 33 94 (.bool true) rfl rfl S0 ?_
    try simp only [Act.put,sA,sB,sC]
    refine takeW 34 95 (.bool true) rfl rfl S0 ?_
    try simp only [Act.put,sA,sB,sC]
    refine takeU 35 96 rfl rfl S0 <| takeU 36 97 rfl rfl S0 <| takeU 37 98 rfl rfl S0 <| takeU 38 99 rfl rfl S0 <| ?_
    try simp only [Act.put,sA,sB,sC]
    refine takeW 39 100 (.bool true) rfl rfl S0 ?_
    try simp only [Act.put,sA,sB,sC]
    refine wpAnyH_done (by kernel_rfl) ?_ _
    have HB9:=hide (yB (uH HB4) ((uH HS).below S0))
    have HF:=hide (show o=false by
     rw [uH HO2];simp)
    go_wp2
    go_ret
    exact ⟨yF (uH HF).symm,uH HB9⟩
   have hp:¬pa<0:=by simpa using uH HPA
   refine wpAnyH_ready (rs:=[24]) (by kernel_rfl) (by simp) (AllReadyH.cons rfl (fun K hK=>?_) AllReadyH.nil)
   go_simp
   refine (uH CP _ (yB (uH HB4) ((uH HS).below S0))).mono ?_
   rintro e wt ⟨rfl,hb⟩
   have S1:=(uH HS).call S0 hb
   clear hb
   go_wp2_with fail
   refine hK.out _ _ S1 (fun S0=>?_)
   clear hK K S1
   try simp only [Act.put,sA,sB,sC]
   refine takeW 25 86 (.bool false) rfl rfl S0 ?_
   try simp only [Act.put,sA,sB,sC]
   refine takeW 26 87 (.bool false) rfl rfl S0 ?_
   try simp only [Act.put,sA,sB,sC]
   refine takeW 27 88 (.bool false) rfl rfl S0 ?_
   try simp only [Act.put,sA,sB,sC]
   refine takeW 28 89 _ rfl rfl S0 ?_
   try simp only [Act.put,sA,sB,sC]
   refine takeW 29 90 _ rfl rfl S0 ?_
   try simp only [Act.put,sA,sB,sC]
   refine takeW 30 91 _ rfl rfl S0 ?_
   try simp only [Act.put,sA,sB,sC]
   cases fm
   case false=>
    have hm:pm<0:=by simpa using uH HPM
    refine wpAnyH_ready (rs:=[31]) (by kernel_rfl) (by simp) (AllReadyH.cons rfl (fun K hK=>?_) AllReadyH.nil)
    go_simp
    refine (uH CMA _ (yB (uH HB4) ((uH HS).below S0))).mono ?_
    rintro e wt ⟨rfl,hb⟩
    have S1:=(uH HS).call S0 hb
    clear hb
    go_wp2_with fail
    refine hK.out _ _ S1 (fun S0=>?_)
    clear hK K S1
    try simp only [Act.put,sA,sB,sC]
    refine takeW 32 93 (.bool true) rfl rfl S0 ?_
    try simp only [Act.put,sA,sB,sC]
    refine takeW 33 94 (.bool true) rfl rfl S0 ?_
    try simp only [Act.put,sA,sB,sC]
    refine takeW 34 95 (.bool true) rfl rfl S0 ?_
    try simp only [Act.put,sA,sB,sC]
    refine takeU 35 96 rfl rfl S0 <| takeU 36 97 rfl rfl S0 <| takeU 37 98 rfl rfl S0 <| takeU 38 99 rfl rfl S0 <| ?_
    try simp only [Act.put,sA,sB,sC]
    refine takeW 39 100 (.bool true) rfl rfl S0 ?_
    try simp only [Act.put,sA,sB,sC]
    refine wpAnyH_done (by kernel_rfl) ?_ _
    have HB9:=hide (yB (uH HB4) ((uH HS).below S0))
    have HF:=hide (show o=false by
     rw [uH HO2];simp)
    go_wp2
    go_ret
    exact ⟨yF (uH HF).symm,uH HB9⟩
   have hm:¬pm<0:=by simpa using uH HPM
   refine wpAnyH_ready (rs:=[31]) (by kernel_rfl) (by simp) (AllReadyH.cons rfl (fun K hK=>?_) AllReadyH.nil)
   go_simp
   refine (uH CMA _ (yB (uH HB4) ((uH HS).below S0))).mono ?_
   rintro e wt ⟨rfl,hb⟩
   have S1:=(uH HS).call S0 hb
   clear hb
   go_wp2_with fail
   refine hK.out _ _ S1 (fun S0=>?_)
   clear hK K S1
   try simp only [Act.put,sA,sB,sC]
   refine takeW 32 93 (.bool false) rfl rfl S0 ?_
   try simp only [Act.put,sA,sB,sC]
   refine takeW 33 94 (.bool false) rfl rfl S0 ?_
   try simp only [Act.put,sA,sB,sC]
   refine takeW 34 95 (.bool false) rfl rfl S0 ?_
   try simp only [Act.put,sA,sB,sC]
   refine takeW 35 96 _ rfl rfl S0 ?_
   try simp only [Act.put,sA,sB,sC]
   refine takeW 36 97 _ rfl rfl S0 ?_
   try simp only [Act.put,sA,sB,sC]
   cases sm
   case false=>
    refine wpAnyH_ready (rs:=[37]) (by kernel_rfl) (by simp) (AllReadyH.cons rfl (fun K hK=>?_) AllReadyH.nil)
    go_simp
    refine (l04Some_any me cp _).mono ?_
    rw [hsm]
    rintro e wt ⟨rfl,hb⟩
    have S1:=(uH HS).call S0 hb
    clear hb
    go_wp2_with fail
    refine hK.out _ _ S1 (fun S0=>?_)
    clear hK K S1
    try simp only [Act.put,sA,sB,sC]
    refine takeW 38 99 (.bool true) rfl rfl S0 ?_
    try simp only [Act.put,sA,sB,sC]
    refine takeW 39 100 (.bool true) rfl rfl S0 ?_
    try simp only [Act.put,sA,sB,sC]
    refine wpAnyH_done (by kernel_rfl) ?_ _
    have HB9:=hide (yB (uH HB4) ((uH HS).below S0))
    have HF:=hide (show o=false by
     rw [uH HO2];simp)
    go_wp2
    go_ret
    exact ⟨yF (uH HF).symm,uH HB9⟩
   refine wpAnyH_ready (rs:=[37]) (by kernel_rfl) (by simp) (AllReadyH.cons rfl (fun K hK=>?_) AllReadyH.nil)
   go_simp
   refine (l04Some_any me cp _).mono ?_
   rw [hsm]
   rintro e wt ⟨rfl,hb⟩
   have S1:=(uH HS).call S0 hb
   clear hb
   go_wp2_with fail
   refine hK.out _ _ S1 (fun S0=>?_)
   clear hK K S1
   try simp only [Act.put,sA,sB,sC]
   refine takeW 38 99 (.bool false) rfl rfl S0 ?_
   try simp only [Act.put,sA,sB,sC]
   refine takeW 39 100 (.bool false) rfl rfl S0 ?_
   try simp only [Act.put,sA,sB,sC]
   refine wpAnyH_done (by kernel_rfl) ?_ _
   have HO3:=hide (show o=contsS apps ms id (cs.drop (0+1)) by rw [uH HO2,decide_eq_true (show 0<id by omega),decide_eq_true (show id≤1000000000 by omega)];simp)
   have HK7:=hide (show Kp w3 _ from yB (uH HK4) S0)
   clear HO2 A0 HS R S0
   go_wp2
   go_roundw
   case rel=>exact ⟨0+1,id,by omega,by go_num,HO3,hide ⟨by omega,fun e=>by omega,uH HNX⟩,HK7⟩
   case measure=>simp [intOf];omega
  obtain ⟨k',rfl⟩:∃k',k=k'+1:=⟨k - 1,by omega⟩
  have hpv:=uH HPV4 k' rfl
  have R2:∀wx,Kp W4 wx→wx.cell? ⟨b,off+k'*5,none⟩=some (.int .i64 last):=fun wx h=>h.cell hpv
  have hkw:IntKind.i64.wrap (k':Int)=k':=by rw [IntKind.wrap_i64];omega
  have kp0:(0:Int)≤k':=by omega
  have kp1:(k':Int)<cl:=by omega
  have kp2:(0:Int)<((k'+1:Nat):Int):=by omega
  refine takeW 5 66 _ rfl rfl S0 ?_
  try simp only [Act.put,sA,sB,sC]
  refine takeW 6 67 (.bool true) rfl rfl S0 ?_
  try simp only [Act.put,sA,sB,sC]
  refine takeW 7 68 (.bool true) rfl rfl S0 ?_
  try simp only [Act.put,sA,sB,sC]
  refine takeW 8 69 _ rfl rfl S0 ?_
  try simp only [Act.put,sA,sB,sC]
  refine takeW 9 70 _ rfl rfl S0 ?_
  try simp only [Act.put,sA,sB,sC]
  refine takeW 10 71 _ rfl rfl S0 ?_
  try simp only [Act.put,sA,sB,sC]
  refine takeW 11 72 _ rfl rfl S0 ?_
  try simp only [Act.put,sA,sB,sC]
  refine takeW 12 73 _ rfl rfl S0 ?_
  try simp only [Act.put,sA,sB,sC]
  refine takeW 13 74 (.int .i64 k') rfl rfl S0 ?_
  try simp only [Act.put,sA,sB,sC]
  refine takeW 14 75 (.pointer (some ⟨b,off+k'*5,none⟩)) rfl rfl S0 ?_
  try simp only [Act.put,sA,sB,sC]
  refine takeW 15 76 _ rfl rfl S0 ?_
  try simp only [Act.put,sA,sB,sC]
  refine takeW 16 77 (.int .i64 last) rfl rfl S0 ?_
  try simp only [Act.put,sA,sB,sC]
  by_cases hle:id≤last
  ·
   refine takeW 17 78 (.bool true) rfl rfl S0 ?_
   try simp only [Act.put,sA,sB,sC]
   refine takeW 18 79 (.bool true) rfl rfl S0 ?_
   try simp only [Act.put,sA,sB,sC]
   refine takeW 19 80 (.bool true) rfl rfl S0 ?_
   try simp only [Act.put,sA,sB,sC]
   refine takeW 20 81 (.bool true) rfl rfl S0 ?_
   try simp only [Act.put,sA,sB,sC]
   refine takeU 21 82 rfl rfl S0 <| takeU 22 83 rfl rfl S0 <| takeU 23 84 rfl rfl S0 <| takeU 24 85 rfl rfl S0 <| takeU 25 86 rfl rfl S0 <| ?_
   try simp only [Act.put,sA,sB,sC]
   refine takeW 26 87 (.bool true) rfl rfl S0 ?_
   try simp only [Act.put,sA,sB,sC]
   refine takeW 27 88 (.bool true) rfl rfl S0 ?_
   try simp only [Act.put,sA,sB,sC]
   refine takeU 28 89 rfl rfl S0 <| takeU 29 90 rfl rfl S0 <| takeU 30 91 rfl rfl S0 <| takeU 31 92 rfl rfl S0 <| takeU 32 93 rfl rfl S0 <| ?_
   try simp only [Act.put,sA,sB,sC]
   refine takeW 33 94 (.bool true) rfl rfl S0 ?_
   try simp only [Act.put,sA,sB,sC]
   refine takeW 34 95 (.bool true) rfl rfl S0 ?_
   try simp only [Act.put,sA,sB,sC]
   refine takeU 35 96 rfl rfl S0 <| takeU 36 97 rfl rfl S0 <| takeU 37 98 rfl rfl S0 <| takeU 38 99 rfl rfl S0 <| ?_
   try simp only [Act.put,sA,sB,sC]
   refine takeW 39 100 (.bool true) rfl rfl S0 ?_
   try simp only [Act.put,sA,sB,sC]
   refine wpAnyH_done (by kernel_rfl) ?_ _
   have HB9:=hide (yB (uH HB4) ((uH HS).below S0))
   have HF:=hide (show o=false by
    rw [uH HO2,decide_eq_false (show ¬last<id by omega)];simp)
   go_wp2
   go_ret
   exact ⟨yF (uH HF).symm,uH HB9⟩
  refine takeW 17 78 (.bool false) rfl rfl S0 ?_
  try simp only [Act.put,sA,sB,sC]
  refine takeW 18 79 (.bool false) rfl rfl S0 ?_
  try simp only [Act.put,sA,sB,sC]
  refine takeW 19 80 (.bool false) rfl rfl S0 ?_
  try simp only [Act.put,sA,sB,sC]
  refine takeW 20 81 (.bool false) rfl rfl S0 ?_
  try simp only [Act.put,sA,sB,sC]
  refine takeW 21 82 _ rfl rfl S0 ?_
  try simp only [Act.put,sA,sB,sC]
  refine takeW 22 83 _ rfl rfl S0 ?_
  try simp only [Act.put,sA,sB,sC]
  refine takeW 23 84 _ rfl rfl S0 ?_
  try simp only [Act.put,sA,sB,sC]
  cases fa
  case false=>
   have hp:pa<0:=by simpa using uH HPA
   refine wpAnyH_ready (rs:=[24]) (by kernel_rfl) (by simp) (AllReadyH.cons rfl (fun K hK=>?_) AllReadyH.nil)
   go_simp
   refine (uH CP _ (yB (uH HB4) ((uH HS).below S0))).mono ?_
   rintro e wt ⟨rfl,hb⟩
   have S1:=(uH HS).call S0 hb
   clear hb
   go_wp2_with fail
   refine hK.out _ _ S1 (fun S0=>?_)
   clear hK K S1
   try simp only [Act.put,sA,sB,sC]
   refine takeW 25 86 (.bool true) rfl rfl S0 ?_
   try simp only [Act.put,sA,sB,sC]
   refine takeW 26 87 (.bool true) rfl rfl S0 ?_
   try simp only [Act.put,sA,sB,sC]
   refine takeW 27 88 (.bool true) rfl rfl S0 ?_
   try simp only [Act.put,sA,sB,sC]
   refine takeU 28 89 rfl rfl S0 <| takeU 29 90 rfl rfl S0 <| takeU 30 91 rfl rfl S0 <| takeU 31 92 rfl rfl S0 <| takeU 32 93 rfl rfl S0 <| ?_
   try simp only [Act.put,sA,sB,sC]
   refine takeW 33 94 (.bool true) rfl rfl S0 ?_
   try simp only [Act.put,sA,sB,sC]
   refine takeW 34 95 (.bool true) rfl rfl S0 ?_
   try simp only [Act.put,sA,sB,sC]
   refine takeU 35 96 rfl rfl S0 <| takeU 36 97 rfl rfl S0 <| takeU 37 98 rfl rfl S0 <| takeU 38 99 rfl rfl S0 <| ?_
   try simp only [Act.put,sA,sB,sC]
   refine takeW 39 100 (.bool true) rfl rfl S0 ?_
   try simp only [Act.put,sA,sB,sC]
   refine wpAnyH_done (by kernel_rfl) ?_ _
   have HB9:=hide (yB (uH HB4) ((uH HS).below S0))
   have HF:=hide (show o=false by
    rw [uH HO2];simp)
   go_wp2
   go_ret
   exact ⟨yF (uH HF).symm,uH HB9⟩
  have hp:¬pa<0:=by simpa using uH HPA
  refine wpAnyH_ready (rs:=[24]) (by kernel_rfl) (by simp) (AllReadyH.cons rfl (fun K hK=>?_) AllReadyH.nil)
  go_simp
  refine (uH CP _ (yB (uH HB4) ((uH HS).below S0))).mono ?_
  rintro e wt ⟨rfl,hb⟩
  have S1:=(uH HS).call S0 hb
  clear hb
  go_wp2_with fail
  refine hK.out _ _ S1 (fun S0=>?_)
  clear hK K S1
  try simp only [Act.put,sA,sB,sC]
  refine takeW 25 86 (.bool false) rfl rfl S0 ?_
  try simp only [Act.put,sA,sB,sC]
  refine takeW 26 87 (.bool false) rfl rfl S0 ?_
  try simp only [Act.put,sA,sB,sC]
  refine takeW 27 88 (.bool false) rfl rfl S0 ?_
  try simp only [Act.put,sA,sB,sC]
  refine takeW 28 89 _ rfl rfl S0 ?_
  try simp only [Act.put,sA,sB,sC]
  refine takeW 29 90 _ rfl rfl S0 ?_
  try simp only [Act.put,sA,sB,sC]
  refine takeW 30 91 _ rfl rfl S0 ?_
  try simp only [Act.put,sA,sB,sC]
  cases fm
  case false=>
   have hm:pm<0:=by simpa using uH HPM
   refine wpAnyH_ready (rs:=[31]) (by kernel_rfl) (by simp) (AllReadyH.cons rfl (fun K hK=>?_) AllReadyH.nil)
   go_simp
   refine (uH CMA _ (yB (uH HB4) ((uH HS).below S0))).mono ?_
   rintro e wt ⟨rfl,hb⟩
   have S1:=(uH HS).call S0 hb
   clear hb
   go_wp2_with fail
   refine hK.out _ _ S1 (fun S0=>?_)
   clear hK K S1
   try simp only [Act.put,sA,sB,sC]
   refine takeW 32 93 (.bool true) rfl rfl S0 ?_
   try simp only [Act.put,sA,sB,sC]
   refine takeW 33 94 (.bool true) rfl rfl S0 ?_
   try simp only [Act.put,sA,sB,sC]
   refine takeW 34 95 (.bool true) rfl rfl S0 ?_
   try simp only [Act.put,sA,sB,sC]
   refine takeU 35 96 rfl rfl S0 <| takeU 36 97 rfl rfl S0 <| takeU 37 98 rfl rfl S0 <| takeU 38 99 rfl rfl S0 <| ?_
   try simp only [Act.put,sA,sB,sC]
   refine takeW 39 100 (.bool true) rfl rfl S0 ?_
   try simp only [Act.put,sA,sB,sC]
   refine wpAnyH_done (by kernel_rfl) ?_ _
   have HB9:=hide (yB (uH HB4) ((uH HS).below S0))
   have HF:=hide (show o=false by
    rw [uH HO2];simp)
   go_wp2
   go_ret
   exact ⟨yF (uH HF).symm,uH HB9⟩
  have hm:¬pm<0:=by simpa using uH HPM
  refine wpAnyH_ready (rs:=[31]) (by kernel_rfl) (by simp) (AllReadyH.cons rfl (fun K hK=>?_) AllReadyH.nil)
  go_simp
  refine (uH CMA _ (yB (uH HB4) ((uH HS).below S0))).mono ?_
  rintro e wt ⟨rfl,hb⟩
  have S1:=(uH HS).call S0 hb
  clear hb
  go_wp2_with fail
  refine hK.out _ _ S1 (fun S0=>?_)
  clear hK K S1
  try simp only [Act.put,sA,sB,sC]
  refine takeW 32 93 (.bool false) rfl rfl S0 ?_
  try simp only [Act.put,sA,sB,sC]
  refine takeW 33 94 (.bool false) rfl rfl S0 ?_
  try simp only [Act.put,sA,sB,sC]
  refine takeW 34 95 (.bool false) rfl rfl S0 ?_
  try simp only [Act.put,sA,sB,sC]
  refine takeW 35 96 _ rfl rfl S0 ?_
  try simp only [Act.put,sA,sB,sC]
  refine takeW 36 97 _ rfl rfl S0 ?_
  try simp only [Act.put,sA,sB,sC]
  cases sm
  case false=>
   refine wpAnyH_ready (rs:=[37]) (by kernel_rfl) (by simp) (AllReadyH.cons rfl (fun K hK=>?_) AllReadyH.nil)
   go_simp
   refine (l04Some_any me cp _).mono ?_
   rw [hsm]
   rintro e wt ⟨rfl,hb⟩
   have S1:=(uH HS).call S0 hb
   clear hb
   go_wp2_with fail
   refine hK.out _ _ S1 (fun S0=>?_)
   clear hK K S1
   try simp only [Act.put,sA,sB,sC]
   refine takeW 38 99 (.bool true) rfl rfl S0 ?_
   try simp only [Act.put,sA,sB,sC]
   refine takeW 39 100 (.bool true) rfl rfl S0 ?_
   try simp only [Act.put,sA,sB,sC]
   refine wpAnyH_done (by kernel_rfl) ?_ _
   have HB9:=hide (yB (uH HB4) ((uH HS).below S0))
   have HF:=hide (show o=false by
    rw [uH HO2];simp)
   go_wp2
   go_ret
   exact ⟨yF (uH HF).symm,uH HB9⟩
  refine wpAnyH_ready (rs:=[37]) (by kernel_rfl) (by simp) (AllReadyH.cons rfl (fun K hK=>?_) AllReadyH.nil)
  go_simp
  refine (l04Some_any me cp _).mono ?_
  rw [hsm]
  rintro e wt ⟨rfl,hb⟩
  have S1:=(uH HS).call S0 hb
  clear hb
  go_wp2_with fail
  refine hK.out _ _ S1 (fun S0=>?_)
  clear hK K S1
  try simp only [Act.put,sA,sB,sC]
  refine takeW 38 99 (.bool false) rfl rfl S0 ?_
  try simp only [Act.put,sA,sB,sC]
  refine takeW 39 100 (.bool false) rfl rfl S0 ?_
  try simp only [Act.put,sA,sB,sC]
  refine wpAnyH_done (by kernel_rfl) ?_ _
  have HO3:=hide (show o=contsS apps ms id (cs.drop ((k'+1)+1)) by rw [uH HO2,decide_eq_true (show last<id by omega),decide_eq_true (show id≤1000000000 by omega)];simp)
  have HK7:=hide (show Kp w3 _ from yB (uH HK4) S0)
  clear HO2 A0 HS R S0
  go_wp2
  go_roundw
  case rel=>exact ⟨(k'+1)+1,id,by omega,by go_num,HO3,hide ⟨by omega,fun e=>by omega,uH HNX⟩,HK7⟩
  case measure=>simp [intOf];omega
end
section
open Go.RowKit
def subsOk:Int→Int→List (Int×Int)→Bool
 | _,_,[]=>true
 | x,y,r::t=>bothOk (-1) x y r.1 r.2&&subsOk (x + -1*r.1) (y + -1*r.2) t
theorem okSum:∀(l:List (Int×Int)) (x y:Int),resOk x y=true→resOk (sumFrom l x y).1 (sumFrom l x y).2.1=true
 | [],x,y,h=>h
 | r::t,x,y,h=>by
  rw [sumFrom]
  by_cases hb:bothOk 1 x y r.1 r.2=true
  ·rw [if_pos hb]
   refine okSum t _ _ ?_
   simp only [bothOk,Bool.and_eq_true] at hb
   exact hb.2
  ·rw [if_neg hb];decide
theorem sumFrom_each:∀(l:List (Int×Int)) (x y:Int),(sumFrom l x y).2.2=true→∀r ∈ l,resOk r.1 r.2=true
 | [],x,y,_,r,h=>by simp at h
 | q::t,x,y,h,r,hr=>by
  rw [sumFrom] at h
  by_cases hb:bothOk 1 x y q.1 q.2=true
  ·rw [if_pos hb] at h
   rcases List.mem_cons.1 hr with rfl | hr
   ·simp only [bothOk,Bool.and_eq_true] at hb;exact hb.1.2
   ·exact sumFrom_each t _ _ h r hr
  ·rw [if_neg hb] at h;cases h
theorem sumFrom_ge:∀(l:List (Int×Int)) (x y:Int),(sumFrom l x y).2.2=true→x≤(sumFrom l x y).1∧y≤(sumFrom l x y).2.1
 | [],x,y,_=>⟨Int.le_refl _,Int.le_refl _⟩
 | r::t,x,y,h=>by
  rw [sumFrom] at h ⊢
  by_cases hb:bothOk 1 x y r.1 r.2=true
  ·rw [if_pos hb] at h ⊢
   have:=sumFrom_ge t _ _ h
   have hr:resOk r.1 r.2=true:=by simp only [bothOk,Bool.and_eq_true] at hb;exact hb.1.2
   have:=resOk_bd hr
   omega
  ·rw [if_neg hb] at h;cases h
theorem subs_sum {X Y:Int} (hX:resOk X Y=true):∀(l:List (Int×Int)) (x y:Int),resOk x y=true→x≤X→y≤Y→(subsOk (X + -1*x) (Y + -1*y) l=true↔(sumFrom l x y).2.2=true∧(sumFrom l x y).1≤X∧(sumFrom l x y).2.1≤Y)
 | [],x,y,h,h1,h2=>by simp [subsOk,sumFrom,h1,h2]
 | r::t,x,y,h,h1,h2=>by
  have bX:=resOk_bd hX
  have bx:=resOk_bd h
  rw [subsOk,sumFrom,Bool.and_eq_true]
  by_cases hs:bothOk (-1) (X + -1*x) (Y + -1*y) r.1 r.2=true
  ·have hs':=hs
   simp only [bothOk,Bool.and_eq_true] at hs'
   have br:=resOk_bd hs'.1.2
   have bs':=resOk_bd hs'.2
   have hr2:resOk (x+1*r.1) (y+1*r.2)=true:=by simp only [resOk,inB,Bool.and_eq_true,decide_eq_true_eq];omega
   have hp:bothOk 1 x y r.1 r.2=true:=by simp only [bothOk,Bool.and_eq_true];exact ⟨⟨h,hs'.1.2⟩,hr2⟩
   rw [if_pos hp]
   have ih:=subs_sum hX t (x+1*r.1) (y+1*r.2) hr2 (by omega) (by omega)
   rw [←ih]
   have e1:X + -1*(x+1*r.1)=X + -1*x + -1*r.1:=by omega
   have e2:Y + -1*(y+1*r.2)=Y + -1*y + -1*r.2:=by omega
   rw [e1,e2]
   exact ⟨fun hh=>hh.2,fun hh=>⟨hs,hh⟩⟩
  ·refine ⟨fun hh=>absurd hh.1 hs,fun ⟨g1,g2,g3⟩=>absurd ?_ hs⟩
   by_cases hp:bothOk 1 x y r.1 r.2=true
   ·rw [if_pos hp] at g1 g2 g3
    have ge:=sumFrom_ge t _ _ g1
    have hp':=hp
    simp only [bothOk,Bool.and_eq_true] at hp'
    have br:=resOk_bd hp'.1.2
    simp only [bothOk,Bool.and_eq_true]
    refine ⟨⟨?_,hp'.1.2⟩,?_⟩<;>simp only [resOk,inB,Bool.and_eq_true,decide_eq_true_eq]<;>omega
   ·rw [if_neg hp] at g1;cases g1
theorem hold_subs {cs:List Con} {m:Mac} (hr:resOk m.mem m.cpu=true):holdM cs m=true↔subsOk m.mem m.cpu (usedL (fun q=>decide (q.node=m.name)) cs)=true:=by
 have h:=subs_sum hr (usedL (fun q=>decide (q.node=m.name)) cs) 0 0 (by decide) (resOk_bd hr).1 (resOk_bd hr).2.2.1
 rw [show m.mem + -1*0=m.mem by omega,show m.cpu + -1*0=m.cpu by omega] at h
 rw [h]
 simp only [holdM,hr,Bool.true_and,Bool.and_eq_true,sumR,within]
 refine ⟨fun ⟨a,b⟩=>⟨a,of_decide_eq_true b.1.2,of_decide_eq_true b.2⟩,fun ⟨a,b,c⟩=>⟨a,⟨⟨⟨okSum _ 0 0 (by decide),trivial⟩,decide_eq_true b⟩,decide_eq_true c⟩⟩⟩
theorem leT_lt {a b:List UInt8} (h:leT a b=false):Op.bytesLess (bs b).toList (bs a).toList=true:=by
 simp only [leT,Bool.or_eq_false_iff] at h
 exact bl_tri _ _ h.1 (fun e=>by rw [e] at h;simp at h)
theorem machs_above {ck:Int}:∀(l:List Mac) (last:List UInt8),machsFrom ck last l=true→∀m ∈ l,Op.bytesLess (bs last).toList (bs m.name).toList=true
 | [],_,_,m,h=>by simp at h
 | q::t,last,h,m,hm=>by
  simp only [machsFrom,Bool.and_eq_true,Bool.not_eq_true'] at h
  have h1:=leT_lt h.1
  rcases List.mem_cons.1 hm with rfl | hm
  ·exact h1
  ·exact bl_trans _ _ _ h1 (machs_above t q.name h.2.2.2.2 m hm)
theorem machs_find {ck:Int}:∀(l:List Mac) (last:List UInt8),machsFrom ck last l=true→∀m ∈ l,findM m.name l=some m
 | [],_,_,m,h=>by simp at h
 | q::t,last,h,m,hm=>by
  simp only [machsFrom,Bool.and_eq_true,Bool.not_eq_true'] at h
  rcases List.mem_cons.1 hm with rfl | hm
  ·simp [findM]
  ·have hab:=machs_above t q.name h.2.2.2.2 m hm
   have hne:¬q.name=m.name:=fun e=>by rw [e,bl_irr] at hab;cases hab
   have:=machs_find t q.name h.2.2.2.2 m hm
   simp only [findM] at this ⊢
   rw [List.find?_cons_of_neg (by simpa using hne)]
   exact this
theorem machsS_iff {ck:Int} {cs:List Con}:∀(l:List Mac) (last:List UInt8),machsS ck cs last l=true↔machsFrom ck last l=true∧∀m ∈ l,holdM cs m=true
 | [],_=>by simp [machsS,machsFrom]
 | q::t,last=>by
  simp only [machsS,machsFrom,Bool.and_eq_true,machsS_iff t q.name,List.mem_cons,forall_eq_or_imp]
  exact ⟨fun ⟨a,b,c,d,e,f,g⟩=>⟨⟨a,b,c,d,f⟩,e,g⟩,fun ⟨⟨a,b,c,d,f⟩,e,g⟩=>⟨a,b,c,d,e,f,g⟩⟩
theorem contsS_congr {apps:List Appl} {l l':List Mac} (h:∀nm,(findM nm l').isSome=(findM nm l).isSome):∀(cs:List Con) (last:Int),contsS apps l' last cs=contsS apps l last cs
 | [],_=>rfl
 | c::t,last=>by rw [contsS,contsS,h,contsS_congr h t]
theorem used_cons {nm:List UInt8} {c:Con} {t:List Con}:usedL (fun q=>decide (q.node=nm)) (c::t)=if c.node=nm then (c.mem,c.cpu)::usedL (fun q=>decide (q.node=nm)) t else usedL (fun q=>decide (q.node=nm)) t:=by
 by_cases h:c.node=nm
 ·simp [usedL,h]
 ·simp [usedL,h]
theorem conts_iff {apps:List Appl}:∀(cs:List Con) (l:List Mac) (last:Int),contsFrom apps l last cs=true↔contsS apps l last cs=true∧∀nm m,findM nm l=some m→subsOk m.mem m.cpu (usedL (fun q=>decide (q.node=nm)) cs)=true
 | [],l,last=>by simp [contsFrom,contsS,usedL,subsOk]
 | c::t,l,last=>by
  cases hf:findM c.node l with
  | none=>simp [contsFrom,contsS,hf]
  | some m=>
   have hn:=findM_name hf
   have ih:=conts_iff (apps:=apps) t (⟨m.name,m.mem + -1*c.mem,m.cpu + -1*c.cpu,m.seen⟩::l) c.id
   have hfind:∀nm,findM nm (⟨m.name,m.mem + -1*c.mem,m.cpu + -1*c.cpu,m.seen⟩::l)=if c.node=nm then some ⟨m.name,m.mem + -1*c.mem,m.cpu + -1*c.cpu,m.seen⟩ else findM nm l:=fun nm=>by
    by_cases e:c.node=nm
    ·rw [if_pos e];simp [findM,hn,e]
    ·rw [if_neg e];simp [findM,hn,e]
   have hsome:∀nm,(findM nm (⟨m.name,m.mem + -1*c.mem,m.cpu + -1*c.cpu,m.seen⟩::l)).isSome=(findM nm l).isSome:=fun nm=>by
    rw [hfind]
    by_cases e:c.node=nm
    ·rw [if_pos e,←e,hf]
     rfl
    ·rw [if_neg e]
   rw [contsS_congr hsome] at ih
   simp only [contsFrom,contsS,hf,Option.isSome_some,Option.getD_some,Bool.true_and,Bool.and_eq_true,ih]
   constructor
   ·rintro ⟨a,b,c1,d,e,f,g⟩
    refine ⟨⟨a,b,d,c1,f⟩,fun nm m2 hm2=>?_⟩
    rw [used_cons]
    by_cases en:c.node=nm
    ·rw [if_pos en]
     rw [←en,hf] at hm2
     cases hm2
     rw [subsOk,Bool.and_eq_true]
     exact ⟨e,g nm ⟨m.name,m.mem + -1*c.mem,m.cpu + -1*c.cpu,m.seen⟩ (by rw [hfind,if_pos en])⟩
    ·rw [if_neg en]
     exact g nm m2 (by rw [hfind,if_neg en];exact hm2)
   ·rintro ⟨⟨a,b,d,c1,f⟩,g⟩
    have g0:=g c.node m hf
    rw [used_cons,if_pos rfl,subsOk,Bool.and_eq_true] at g0
    refine ⟨a,b,c1,d,g0.1,f,fun nm m2 hm2=>?_⟩
    rw [hfind] at hm2
    by_cases en:c.node=nm
    ·rw [if_pos en] at hm2
     cases hm2
     rw [←en]
     exact g0.2
    ·rw [if_neg en] at hm2
     have:=g nm m2 hm2
     rwa [used_cons,if_neg en] at this
theorem state_same (s:St):stateOkI s=stateOkS s:=by
 rw [Bool.eq_iff_iff]
 simp only [stateOkI,stateOkS,numsOk,machsOkV,machsOkS,contsOkV,Bool.and_eq_true,conts_iff,machsS_iff]
 have key:machsFrom s.clock [] s.ms=true→(sumR (capsOf s.ms)).2.2=true→((∀nm m,findM nm s.ms=some m→subsOk m.mem m.cpu (usedL (fun q=>decide (q.node=nm)) s.cs)=true)↔∀m ∈ s.ms,holdM s.cs m=true):=fun h1 h2=>by
  have hr:∀m ∈ s.ms,resOk m.mem m.cpu=true:=fun m hm=>sumFrom_each _ 0 0 h2 (m.mem,m.cpu) (by simp only [capsOf,List.mem_map];exact ⟨m,hm,rfl⟩)
  constructor
  ·intro h m hm
   exact (hold_subs (hr m hm)).2 (h m.name m (machs_find _ _ h1 m hm))
  ·intro h nm m hf
   have hm:m ∈ s.ms:=List.mem_of_find?_eq_some hf
   have hn:=findM_name hf
   have:=(hold_subs (hr m hm)).1 (h m hm)
   rwa [hn] at this
 constructor
 ·rintro ⟨a,⟨b1,b2,b3,b4⟩,c,⟨d1,d2,d3⟩,e1,e2,e3⟩
  exact ⟨a,b1,b2,b3,b4,c,⟨⟨d2,(key d2 d3).1 e3⟩,d3,d1⟩,e1,e2⟩
 ·rintro ⟨a,b1,b2,b3,b4,c,⟨⟨d2,hh⟩,d3,d1⟩,e1,e2⟩
  exact ⟨a,⟨b1,b2,b3,b4⟩,c,⟨d1,d2,d3⟩,e1,e2,(key d2 d3).2 hh⟩
def stateOkV (s:St):Bool:=stateOkS s
theorem specStateOk_any (x:Sls) (s:St) (w:World) (h:SRow w x s) (hf:FitSt s) :
  Calls Tryz.prog 22 #[sv x s] w fun e w'=>e=.returned (.bool (stateOkV s))∧Below w.heap.size w w':=stateOkS_any x s w h hf
theorem implStateOk_any (x:Sls) (s:St) (w:World) (h:SRow w x s) (hf:FitSt s) (hc:x.ql≤x.qc) (hw:WfSt s) :
  Calls Tryz.prog 44 #[sv x s] w fun e w'=>e=.returned (.bool (stateOkV s))∧Below w.heap.size w w':=by
 have:=stateOkI_any x s w h hf hc hw
 rwa [state_same] at this
end
end Go.Proofs.YtdhibeclkdepiaaGreat
