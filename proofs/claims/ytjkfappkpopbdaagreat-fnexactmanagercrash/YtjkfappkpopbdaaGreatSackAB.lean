/-
  A state is right, by the model: StateOk; a walk over the dump.
-/
import Derived.Test.YtjkfappkpopbdaaGreatSackW
import Derived.Test.YtjkfappkpopbdaaGreatSackZ
set_option maxRecDepth 100000
set_option maxHeartbeats 16000000
set_option linter.unusedVariables false
set_option linter.unusedSimpArgs false
namespace Go.Proofs.YtjkfappkpopbdaaGreat
section
open Go.RowKit Go.Maps
def contsS (apps:List Appl) (ms:List Mac):Int→List Con→Bool
 | _,[]=>true
 | last,c::t=>decide (last<c.id)&&(decide (c.id≤1000000000)&&((findAp c.app apps).isSome&&((findM c.node ms).isSome&&(someR c.mem c.cpu&&contsS apps ms c.id t))))
theorem contsS_end {apps:List Appl} {ms:List Mac} {last:Int} {cs:List Con} {k:Nat} (h:cs.length≤k):contsS apps ms last (cs.drop k)=true:=by
 rw [List.drop_of_length_le h];rfl
theorem contsS_step {apps:List Appl} {ms:List Mac} {last:Int} {cs:List Con} {k:Nat} (h:k<cs.length):contsS apps ms last (cs.drop k)=(decide (last<cs[k].id)&&(decide (cs[k].id≤1000000000)&&((findAp cs[k].app apps).isSome&&((findM cs[k].node ms).isSome&&(someR cs[k].mem cs[k].cpu&&contsS apps ms cs[k].id (cs.drop (k+1))))))):=by
 rw [List.drop_eq_getElem_cons h,contsS]
def stateOkS (s:St):Bool:=queuesOk s.qs&&(inB s.clock 0 1000000000&&(inB s.epoch 1 1000000000&&(inB s.next 1 1000000000&&(inB s.serial 1 1000000000&&(appsOkV s&&(machsOkS s&&(decide (s.cs.length≤150)&&contsS s.apps s.ms 0 s.cs)))))))
theorem apAt_some (l:List Appl) (id:Int):decide (apAt l id<0) = !(findAp id l).isSome:=by
 rcases apAt_find id l with ⟨h1,h2⟩ | ⟨j,hj,h1,h2⟩
 ·rw [h1,h2];rfl
 ·rw [h1,h2];simp
theorem macAt_some (l:List Mac) (nm:List UInt8):decide (macAt l nm<0) = !(findM nm l).isSome:=by
 rcases macAt_find nm l with ⟨h1,h2⟩ | ⟨j,hj,h1,h2⟩
 ·rw [h1,h2];rfl
 ·rw [h1,h2];simp
theorem stateOkS_any (x:Sls) (s:St) (w:World) (h:SRow w x s) (hf:FitSt s) :
  Calls Tryz.prog 77 #[sv x s] w fun e w'=>e=.returned (.bool (stateOkS s))∧Below w.heap.size w w':=by
 have hql:x.ql≤1048576:=by have:=h.len.1;have:=hf.1.1;omega
 have hal:x.al≤1048576:=by have:=h.len.2.1;have:=hf.2.1.1;omega
 have hml:x.ml≤1048576:=by have:=h.len.2.2.1;have:=hf.2.2.1.1;omega
 have hcl:x.cl≤1048576:=by have:=h.len.2.2.2;have:=hf.2.2.2.1;omega
 have HR:=hide h.2.2.2
 have HL:=hide h.2.2.2.1
 have CQ:=hide (fun wx (hb:Below w.heap.size w wx)=>specQueuesOk_any x.qa x.ql x.qc s.qs wx (h.1.below hb) hql (fun q hq=>(hf.1.2 q hq).1))
 have CAP:=hide (fun wx (hb:Below w.heap.size w wx) (hq:queuesOk s.qs=true) (h1:1≤s.next) (h2:s.next≤1000000000)=>l04Apps_any x s wx (h.below hb) hf hq h1 h2)
 have CMC:=hide (fun wx (hb:Below w.heap.size w wx)=>l04Machines_any x s wx (h.below hb) hf)
 have CPI:=hide (fun wx (hb:Below w.heap.size w wx) (id:Int)=>l04App_any x s id wx (h.2.1.below hb) hal)
 have CMI:=hide (fun wx (hb:Below w.heap.size w wx) (nm:List UInt8)=>l04Machine_any x s nm wx (h.2.2.1.below hb) hml)
 obtain ⟨b1,e1⟩:∃b,queuesOk s.qs=b:=⟨_,rfl⟩
 obtain ⟨n1,f1⟩:∃b,inB s.clock 0 1000000000=b:=⟨_,rfl⟩
 obtain ⟨n2,f2⟩:∃b,inB s.epoch 1 1000000000=b:=⟨_,rfl⟩
 obtain ⟨n3,f3⟩:∃b,inB s.next 1 1000000000=b:=⟨_,rfl⟩
 obtain ⟨n4,f4⟩:∃b,inB s.serial 1 1000000000=b:=⟨_,rfl⟩
 obtain ⟨b3,e3⟩:∃b,appsOkV s=b:=⟨_,rfl⟩
 obtain ⟨b4,e4⟩:∃b,machsOkS s=b:=⟨_,rfl⟩
 have HS0:=hide (show stateOkS s=(b1&&(n1&&(n2&&(n3&&(n4&&(b3&&(b4&&(decide (x.cl≤150)&&contsS s.apps s.ms 0 (s.cs.drop 0))))))))) by rw [stateOkS,e1,f1,f2,f3,f4,e3,e4,←h.2.2.2.1];rfl)
 obtain ⟨o,ho⟩:∃o,stateOkS s=o:=⟨_,rfl⟩
 rw [ho] at HS0 ⊢
 rw [e1] at CQ
 rw [e3] at CAP
 rw [e4] at CMC
 have CI1:=hide (fun wx=>by have:=l01In_any s.clock 0 1000000000 wx;rw [f1] at this;exact this)
 have CI2:=hide (fun wx=>by have:=l01In_any s.epoch 1 1000000000 wx;rw [f2] at this;exact this)
 have CI3:=hide (fun wx=>by have:=l01In_any s.next 1 1000000000 wx;rw [f3] at this;exact this)
 have CI4:=hide (fun wx=>by have:=l01In_any s.serial 1 1000000000 wx;rw [f4] at this;exact this)
 have HE1:=hide e1
 have HF3:=hide (show n3=true→1≤s.next∧s.next≤1000000000 from fun e=>by rw [e] at f3;simpa [inB] using f3)
 clear h hf ho e1 f1 f2 f3 f4 e3 e4
 obtain ⟨qa,ql,qc,aa,al,ac,ma,ml,mc,ca,cl,cc⟩:=x
 obtain ⟨qs,clock,epoch,next,serial,apps,ms,cs⟩:=s
 simp only at hql hal hml hcl HR HL CQ CAP CMC CPI CMI CI1 CI2 CI3 CI4 HS0 HE1 HF3
 have HB0:=hide (boxW_below w (svc ⟨qa,ql,qc,aa,al,ac,ma,ml,mc,ca,cl,cc⟩ ⟨qs,clock,epoch,next,serial,apps,ms,cs⟩))
 have P0:=hide (boxW_blk w (svc ⟨qa,ql,qc,aa,al,ac,ma,ml,mc,ca,cl,cc⟩ ⟨qs,clock,epoch,next,serial,apps,ms,cs⟩))
 go_enter Tryz.func77,Tryz.ntmps77
 go_wp2_with fail
 refine (uH CQ _ (uH HB0)).mono ?_
 rintro e w1 ⟨rfl,hb⟩
 have HB1:=hide (yB (uH HB0) hb)
 have P1:=hide ((uH P0).below hb)
 obtain ⟨q0,q1,q2,q3,q4,q5,q6,q7⟩:_∧_∧_∧_∧_∧_∧_∧_:=⟨(uH P1).at 0,(uH P1).at 1,(uH P1).at 2,(uH P1).at 3,(uH P1).at 4,(uH P1).at 5,(uH P1).at 6,(uH P1).at 7⟩
 simp at q0 q1 q2 q3 q4 q5 q6 q7
 clear hb HB0 P0 CQ
 cases b1
 case false=>
  go_wp2
  go_ret
  exact ⟨yF (by rw [uH HS0];rfl),uH HB1⟩
 go_wp2_with fail
 refine (uH CI1 _).mono ?_
 rintro e w' ⟨rfl,rfl⟩
 cases n1
 case false=>
  go_wp2
  go_ret
  exact ⟨yF (by rw [uH HS0];simp),uH HB1⟩
 go_wp2_with fail
 refine (uH CI2 _).mono ?_
 rintro e w' ⟨rfl,rfl⟩
 cases n2
 case false=>
  go_wp2
  go_ret
  exact ⟨yF (by rw [uH HS0];simp),uH HB1⟩
 go_wp2_with fail
 refine (uH CI3 _).mono ?_
 rintro e w' ⟨rfl,rfl⟩
 cases n3
 case false=>
  go_wp2
  go_ret
  exact ⟨yF (by rw [uH HS0];simp),uH HB1⟩
 go_wp2_with fail
 refine (uH CI4 _).mono ?_
 rintro e w' ⟨rfl,rfl⟩
 cases n4
 case false=>
  go_wp2
  go_ret
  exact ⟨yF (by rw [uH HS0];simp),uH HB1⟩
 obtain ⟨hn1,hn2⟩:=uH HF3 (by simp)
 go_wp2_with fail
 refine (uH CAP _ (uH HB1) (uH HE1) hn1 hn2).mono ?_
 rintro e w2 ⟨rfl,hb⟩
 have HB2:=hide (yB (uH HB1) hb)
 have P2:=hide ((uH P1).below hb)
 clear hb HB1 P1 CAP q0 q1 q2 q3 q4 q5 q6 q7 hn1 hn2
 cases b3
 case false=>
  go_wp2
  go_ret
  exact ⟨yF (by rw [uH HS0];simp),uH HB2⟩
 obtain ⟨q0,q1,q2,q3,q4,q5,q6,q7⟩:_∧_∧_∧_∧_∧_∧_∧_:=⟨(uH P2).at 0,(uH P2).at 1,(uH P2).at 2,(uH P2).at 3,(uH P2).at 4,(uH P2).at 5,(uH P2).at 6,(uH P2).at 7⟩
 simp at q0 q1 q2 q3 q4 q5 q6 q7
 go_wp2_with fail
 refine (uH CMC _ (uH HB2)).mono ?_
 rintro e w3 ⟨rfl,hb⟩
 have HB3:=hide (yB (uH HB2) hb)
 have P3:=hide ((uH P2).below hb)
 clear hb HB2 P2 CMC q0 q1 q2 q3 q4 q5 q6 q7
 cases b4
 case false=>
  go_wp2
  go_ret
  exact ⟨yF (by rw [uH HS0];simp),uH HB3⟩
 have q7:=(uH P3).at 7
 simp at q7
 by_cases h150:cl≤150
 case neg=>
  have hi:(150:Int)<cl:=by omega
  go_wp2
  go_ret
  exact ⟨yF (by rw [uH HS0,decide_eq_false h150];simp),uH HB3⟩
 have hi:¬(150:Int)<cl:=by omega
 have HS1:=hide (show o=contsS apps ms 0 (cs.drop 0) by rw [uH HS0,decide_eq_true h150];simp)
 clear HS0 CI1 CI2 CI3 CI4 HF3 HE1
 go_wp2
 clear q7 hi h150
 go_loopw [3] (fun i wr=>∃(k:Nat) (last:Int),k≤cl∧i=.int .i64 k∧Hid (o=contsS apps ms last (cs.drop k))∧Hid (0≤last∧(k=0→last=0)∧∀(k':Nat) (hk':k'<cs.length),k=k'+1→last=cs[k'].id)∧Hid (Kp w3 wr)) (fun i _=>cl - (intOf i).toNat)
 case atStart=>exact ⟨0,0,Nat.zero_le _,rfl,HS1,hide ⟨by omega,fun _=>rfl,fun k' _ e=>by omega⟩,hide (Kp.new w3)⟩
 case round=>
  obtain ⟨k,last,hk,rfl,HO,HLA,HK⟩:=hrel
  obtain ⟨wo,rfl⟩:∃wo:World,wo=wr:=⟨_,rfl⟩
  clear HS1
  have P1:=hide ((uH P3).below (uH HK))
  have q7:=(uH P1).at 7
  simp at q7
  have KW:=hide (show Kp w wo from yB (uH HB3) (uH HK))
  by_cases hlt:k<cl
  case neg=>
   have k1:¬(k:Int)<cl:=by omega
   go_wp2
   go_ret
   exact ⟨yF (by rw [uH HO,contsS_end (by have:=uH HL;omega)]),uH KW⟩
  obtain ⟨b,off,rfl,hq⟩:=(uH HR).at hlt
  have hkl:k<cs.length:=by have:=uH HL;omega
  have hst:=contsS_step (apps:=apps) (ms:=ms) (last:=last) hkl
  obtain ⟨c0,c1,c2,c3,c4⟩:=hq hkl
  replace c0:=(uH KW).cell c0
  replace c1:=(uH KW).cell c1
  replace c2:=(uH KW).cell c2
  replace c3:=(uH KW).cell c3
  replace c4:=(uH KW).cell c4
  have HPV:=hide (fun (k':Nat) (e:k=k'+1)=>show wo.cell? ⟨b,off+k'*5,none⟩=some (.int .i64 last) by
   have hk'':k'<cs.length:=by omega
   obtain ⟨b',off',eb,hq'⟩:=(uH HR).at (show k'<cl by omega)
   obtain ⟨rfl,rfl⟩:b=b'∧off=off':=by simpa using eb
   obtain ⟨d0,_⟩:=hq' hk''
   rw [(uH HLA).2.2 k' hk'' e]
   exact (uH KW).cell d0)
  obtain ⟨⟨id,ap,nd,me,cp⟩,hs⟩:∃s,cs[k]=s:=⟨_,rfl⟩
  have HNX:=hide (show ∀(k':Nat) (hk':k'<cs.length),k+1=k'+1→id=cs[k'].id from fun k' hk' e=>by
   have:k=k':=by omega
   subst this
   rw [hs])
  rw [hs] at c0 c1 c2 c3 c4 hst
  simp only at c0 c1 c2 c3 c4 hst
  have k0:(0:Int)≤k:=by omega
  have k1:(k:Int)<cl:=by omega
  have hap:=apAt_some apps ap
  have hma:=macAt_some ms nd
  have CP:=hide (fun wx (hb:Below w.heap.size w wx)=>uH CPI wx hb ap)
  have CMA:=hide (fun wx (hb:Below w.heap.size w wx)=>uH CMI wx hb nd)
  obtain ⟨pa,hpa⟩:∃p,apAt apps ap=p:=⟨_,rfl⟩
  obtain ⟨pm,hpm⟩:∃p,macAt ms nd=p:=⟨_,rfl⟩
  rw [hpa] at hap CP
  rw [hpm] at hma CMA
  obtain ⟨fa,hfa⟩:∃b,(findAp ap apps).isSome=b:=⟨_,rfl⟩
  obtain ⟨fm,hfm⟩:∃b,(findM nd ms).isSome=b:=⟨_,rfl⟩
  obtain ⟨sm,hsm⟩:∃b,someR me cp=b:=⟨_,rfl⟩
  rw [hfa] at hap hst
  rw [hfm] at hma hst
  rw [hsm] at hst
  have HPA:=hide hap
  have HPM:=hide hma
  have HO2:=hide ((uH HO).trans hst)
  obtain ⟨ib,hib⟩:∃b,inB id 1 1000000000=b:=⟨_,rfl⟩
  obtain ⟨hl0,hlz,_⟩:=uH HLA
  clear hq hs hkl hst hfa hfm hap hma hpa hpm HO CPI CMI
  have b4:=yA (yH _ wo) (.cells #[.int .i64 id,.int .i64 ap,.string (bs nd),.int .i64 me,.int .i64 cp] 150)
  have HB4:=hide (yB (uH KW) b4)
  have P4:=hide (yD wo #[.int .i64 id,.int .i64 ap,.string (bs nd),.int .i64 me,.int .i64 cp] 150)
  have Z4:=hide ((uH P1).below b4)
  have HPV4:=hide (fun (k':Nat) (e:k=k'+1)=>Kp.cell b4 (uH HPV k' e))
  have HK4:=hide (show Kp w3 _ from yB (uH HK) b4)
  obtain ⟨W4,hW4⟩:∃W,wo.alloc (.cells #[.int .i64 id,.int .i64 ap,.string (bs nd),.int .i64 me,.int .i64 cp] 150)=W:=⟨_,rfl⟩
  rw [hW4] at HB4 P4 Z4 HPV4 HK4
  obtain ⟨s0,s1,s2,s3,s4,s5,s6,s7⟩:_∧_∧_∧_∧_∧_∧_∧_:=⟨(uH Z4).at 0,(uH Z4).at 1,(uH Z4).at 2,(uH Z4).at 3,(uH Z4).at 4,(uH Z4).at 5,(uH Z4).at 6,(uH Z4).at 7⟩
  obtain ⟨a0,a1,a2,a3,a4⟩:_∧_∧_∧_∧_:=⟨(uH P4).at 0,(uH P4).at 1,(uH P4).at 2,(uH P4).at 3,(uH P4).at 4⟩
  simp at s0 s1 s2 s3 s4 s5 s6 s7 a0 a1 a2 a3 a4
  have R:∀wx,Kp W4 wx→wx.cell? ⟨w.heap.size,0,none⟩=some (.slice qa ql qc)∧wx.cell? ⟨w.heap.size,1,none⟩=some (.int .i64 clock)∧wx.cell? ⟨w.heap.size,2,none⟩=some (.int .i64 epoch)∧wx.cell? ⟨w.heap.size,3,none⟩=some (.int .i64 next)∧wx.cell? ⟨w.heap.size,4,none⟩=some (.int .i64 serial)∧wx.cell? ⟨w.heap.size,5,none⟩=some (.slice aa al ac)∧wx.cell? ⟨w.heap.size,6,none⟩=some (.slice ma ml mc)∧wx.cell? ⟨w.heap.size,7,none⟩=some (.slice (some ⟨b,off,none⟩) cl cc)∧wx.cell? ⟨wo.heap.size,0,none⟩=some (.int .i64 id)∧wx.cell? ⟨wo.heap.size,1,none⟩=some (.int .i64 ap)∧wx.cell? ⟨wo.heap.size,2,none⟩=some (.string (bs nd))∧wx.cell? ⟨wo.heap.size,3,none⟩=some (.int .i64 me)∧wx.cell? ⟨wo.heap.size,4,none⟩=some (.int .i64 cp):=fun wx h=>
   ⟨h.cell s0,h.cell s1,h.cell s2,h.cell s3,h.cell s4,h.cell s5,h.cell s6,h.cell s7,h.cell a0,h.cell a1,h.cell a2,h.cell a3,h.cell a4⟩
  have A0:=hide (Kp.new W4)
  have HS:=hide (kp_holds W4)
  clear b4 HPV P1
  go_wp2_with fail
  first | (change Code.wp _ _ _ _ (wo.alloc (.cells #[.int .i64 id,.int .i64 ap,.string (bs nd),.int .i64 me,.int .i64 cp] 150));rw [hW4]) | skip
  clear hW4 c0 c1 c2 c3 c4 q7 s0 s1 s2 s3 s4 s5 s6 s7 a0 a1 a2 a3 a4 P4 Z4
  refine wp_region_held_drew (S:=fun wx=>Kp W4 wx) (by kernel_rfl) ((uH HS).drew (uH A0)) (fun S0=>?_)
  refine tW 0 61 _ S0 ?_
  try simp only [zW]
  refine tW 1 62 _ S0 ?_
  try simp only [zW]
  cases ib
  case false=>
   refine wpAnyH_ready (rs:=[2]) (by kernel_rfl) (by simp) (AllReadyH.cons rfl (fun K hK=>?_) AllReadyH.nil)
   go_simp
   refine (l01In_any id 1 1000000000 _).mono ?_
   rw [hib]
   rintro e wt ⟨rfl,rfl⟩
   have S1:=S0
   go_wp2_with fail
   refine hK.out _ _ S1 (fun S0=>?_)
   clear hK K S1
   try simp only [zW]
   refine tW 3 64 (.bool true) S0 ?_
   try simp only [zW]
   refine tW 4 65 (.bool true) S0 ?_
   try simp only [zW]
   refine tU 5 66 S0 <| tU 6 67 S0 <| tU 7 68 S0 <| tU 8 69 S0 <| tU 9 70 S0 <| tU 10 71 S0 <| tU 11 72 S0 <| tU 12 73 S0 <| tU 13 74 S0 <| tU 14 75 S0 <| tU 15 76 S0 <| tU 16 77 S0 <| tU 17 78 S0 <| tU 18 79 S0 <| ?_
   try simp only [zW]
   refine tW 19 80 (.bool true) S0 ?_
   try simp only [zW]
   refine tW 20 81 (.bool true) S0 ?_
   try simp only [zW]
   refine tU 21 82 S0 <| tU 22 83 S0 <| tU 23 84 S0 <| tU 24 85 S0 <| tU 25 86 S0 <| ?_
   try simp only [zW]
   refine tW 26 87 (.bool true) S0 ?_
   try simp only [zW]
   refine tW 27 88 (.bool true) S0 ?_
   try simp only [zW]
   refine tU 28 89 S0 <| tU 29 90 S0 <| tU 30 91 S0 <| tU 31 92 S0 <| tU 32 93 S0 <| ?_
   try simp only [zW]
   refine tW 33 94 (.bool true) S0 ?_
   try simp only [zW]
   refine tW 34 95 (.bool true) S0 ?_
   try simp only [zW]
   refine tU 35 96 S0 <| tU 36 97 S0 <| tU 37 98 S0 <| tU 38 99 S0 <| ?_
   try simp only [zW]
   refine tW 39 100 (.bool true) S0 ?_
   try simp only [zW]
   refine wpAnyH_done (by kernel_rfl) ?_ _
   have HB9:=hide (yB (uH HB4) ((uH HS).below S0))
   have HF:=hide (show o=false by
    have hc:¬(1≤id∧id≤1000000000):=fun hc=>by rw [inB_true hc.1 hc.2] at hib;cases hib
    have hz:decide (last<id)=false∨decide (id≤1000000000)=false:=by simp only [decide_eq_false_iff_not];omega
    rw [uH HO2];rcases hz with hz | hz<;>rw [hz]<;>simp)
   go_wp2
   go_ret
   exact ⟨yF (uH HF).symm,uH HB9⟩
  have hin:1≤id∧id≤1000000000:=by simpa [inB] using hib
  refine wpAnyH_ready (rs:=[2]) (by kernel_rfl) (by simp) (AllReadyH.cons rfl (fun K hK=>?_) AllReadyH.nil)
  go_simp
  refine (l01In_any id 1 1000000000 _).mono ?_
  rw [hib]
  rintro e wt ⟨rfl,rfl⟩
  have S1:=S0
  go_wp2_with fail
  refine hK.out _ _ S1 (fun S0=>?_)
  clear hK K S1
  try simp only [zW]
  refine tW 3 64 (.bool false) S0 ?_
  try simp only [zW]
  refine tW 4 65 (.bool false) S0 ?_
  try simp only [zW]
  by_cases hk0:k=0
  ·obtain rfl:=hk0
   obtain rfl:=hlz rfl
   refine tW 5 66 _ S0 ?_
   try simp only [zW]
   refine tW 6 67 (.bool false) S0 ?_
   try simp only [zW]
   refine tW 7 68 (.bool false) S0 ?_
   try simp only [zW]
   refine tU 8 69 S0 <| tU 9 70 S0 <| tU 10 71 S0 <| tU 11 72 S0 <| tU 12 73 S0 <| tU 13 74 S0 <| tU 14 75 S0 <| tU 15 76 S0 <| tU 16 77 S0 <| tU 17 78 S0 <| ?_
   try simp only [zW]
   refine tW 18 79 (.bool false) S0 ?_
   try simp only [zW]
   refine tW 19 80 (.bool false) S0 ?_
   try simp only [zW]
   refine tW 20 81 (.bool false) S0 ?_
   try simp only [zW]
   refine tW 21 82 _ S0 ?_
   try simp only [zW]
   refine tW 22 83 _ S0 ?_
   try simp only [zW]
   refine tW 23 84 _ S0 ?_
   try simp only [zW]
   cases fa
   case false=>
    have hp:pa<0:=by simpa using uH HPA
    refine wpAnyH_ready (rs:=[24]) (by kernel_rfl) (by simp) (AllReadyH.cons rfl (fun K hK=>?_) AllReadyH.nil)
    go_simp
    refine (uH CP _ (yB (uH HB4) ((uH HS).below S0))).mono ?_
    rintro e wt ⟨rfl,hb⟩
    have S1:=(uH HS).call S0 hb
    clear hb
    go_wp2_with fail
    refine hK.out _ _ S1 (fun S0=>?_)
    clear hK K S1
    try simp only [zW]
    refine tW 25 86 (.bool true) S0 ?_
    try simp only [zW]
    refine tW 26 87 (.bool true) S0 ?_
    try simp only [zW]
    refine tW 27 88 (.bool true) S0 ?_
    try simp only [zW]
    refine tU 28 89 S0 <| tU 29 90 S0 <| tU 30 91 S0 <| tU 31 92 S0 <| tU 32 93 S0 <| ?_
    try simp only [zW]
    refine tW 33 94 (.bool true) S0 ?_
    try simp only [zW]
    refine tW 34 95 (.bool true) S0 ?_
    try simp only [zW]
    refine tU 35 96 S0 <| tU 36 97 S0 <| tU 37 98 S0 <| tU 38 99 S0 <| ?_
    try simp only [zW]
    refine tW 39 100 (.bool true) S0 ?_
    try simp only [zW]
    refine wpAnyH_done (by kernel_rfl) ?_ _
    have HB9:=hide (yB (uH HB4) ((uH HS).below S0))
    have HF:=hide (show o=false by
     rw [uH HO2];simp)
    go_wp2
    go_ret
    exact ⟨yF (uH HF).symm,uH HB9⟩
   have hp:¬pa<0:=by simpa using uH HPA
   refine wpAnyH_ready (rs:=[24]) (by kernel_rfl) (by simp) (AllReadyH.cons rfl (fun K hK=>?_) AllReadyH.nil)
   go_simp
   refine (uH CP _ (yB (uH HB4) ((uH HS).below S0))).mono ?_
   rintro e wt ⟨rfl,hb⟩
   have S1:=(uH HS).call S0 hb
   clear hb
   go_wp2_with fail
   refine hK.out _ _ S1 (fun S0=>?_)
   clear hK K S1
   try simp only [zW]
   refine tW 25 86 (.bool false) S0 ?_
   try simp only [zW]
   refine tW 26 87 (.bool false) S0 ?_
   try simp only [zW]
   refine tW 27 88 (.bool false) S0 ?_
   try simp only [zW]
   refine tW 28 89 _ S0 ?_
   try simp only [zW]
   refine tW 29 90 _ S0 ?_
   try simp only [zW]
   refine tW 30 91 _ S0 ?_
   try simp only [zW]
   cases fm
   case false=>
    have hm:pm<0:=by simpa using uH HPM
    refine wpAnyH_ready (rs:=[31]) (by kernel_rfl) (by simp) (AllReadyH.cons rfl (fun K hK=>?_) AllReadyH.nil)
    go_simp
    refine (uH CMA _ (yB (uH HB4) ((uH HS).below S0))).mono ?_
    rintro e wt ⟨rfl,hb⟩
    have S1:=(uH HS).call S0 hb
    clear hb
    go_wp2_with fail
    refine hK.out _ _ S1 (fun S0=>?_)
    clear hK K S1
    try simp only [zW]
    refine tW 32 93 (.bool true) S0 ?_
    try simp only [zW]
    refine tW 33 94 (.bool true) S0 ?_
    try simp only [zW]
    refine tW 34 95 (.bool true) S0 ?_
    try simp only [zW]
    refine tU 35 96 S0 <| tU 36 97 S0 <| tU 37 98 S0 <| tU 38 99 S0 <| ?_
    try simp only [zW]
    refine tW 39 100 (.bool true) S0 ?_
    try simp only [zW]
    refine wpAnyH_done (by kernel_rfl) ?_ _
    have HB9:=hide (yB (uH HB4) ((uH HS).below S0))
    have HF:=hide (show o=false by
     rw [uH HO2];simp)
    go_wp2
    go_ret
    exact ⟨yF (uH HF).symm,uH HB9⟩
   have hm:¬pm<0:=by simpa using uH HPM
   refine wpAnyH_ready (rs:=[31]) (by kernel_rfl) (by simp) (AllReadyH.cons rfl (fun K hK=>?_) AllReadyH.nil)
   go_simp
   refine (uH CMA _ (yB (uH HB4) ((uH HS).below S0))).mono ?_
   rintro e wt ⟨rfl,hb⟩
   have S1:=(uH HS).call S0 hb
   clear hb
   go_wp2_with fail
   refine hK.out _ _ S1 (fun S0=>?_)
   clear hK K S1
   try simp only [zW]
   refine tW 32 93 (.bool false) S0 ?_
   try simp only [zW]
   refine tW 33 94 (.bool false) S0 ?_
   try simp only [zW]
   refine tW 34 95 (.bool false) S0 ?_
   try simp only [zW]
   refine tW 35 96 _ S0 ?_
   try simp only [zW]
   refine tW 36 97 _ S0 ?_
   try simp only [zW]
   cases sm
   case false=>
    refine wpAnyH_ready (rs:=[37]) (by kernel_rfl) (by simp) (AllReadyH.cons rfl (fun K hK=>?_) AllReadyH.nil)
    go_simp
    refine (l04Some_any me cp _).mono ?_
    rw [hsm]
    rintro e wt ⟨rfl,hb⟩
    have S1:=(uH HS).call S0 hb
    clear hb
    go_wp2_with fail
    refine hK.out _ _ S1 (fun S0=>?_)
    clear hK K S1
    try simp only [zW]
    refine tW 38 99 (.bool true) S0 ?_
    try simp only [zW]
    refine tW 39 100 (.bool true) S0 ?_
    try simp only [zW]
    refine wpAnyH_done (by kernel_rfl) ?_ _
    have HB9:=hide (yB (uH HB4) ((uH HS).below S0))
    have HF:=hide (show o=false by
     rw [uH HO2];simp)
    go_wp2
    go_ret
    exact ⟨yF (uH HF).symm,uH HB9⟩
   refine wpAnyH_ready (rs:=[37]) (by kernel_rfl) (by simp) (AllReadyH.cons rfl (fun K hK=>?_) AllReadyH.nil)
   go_simp
   refine (l04Some_any me cp _).mono ?_
   rw [hsm]
   rintro e wt ⟨rfl,hb⟩
   have S1:=(uH HS).call S0 hb
   clear hb
   go_wp2_with fail
   refine hK.out _ _ S1 (fun S0=>?_)
   clear hK K S1
   try simp only [zW]
   refine tW 38 99 (.bool false) S0 ?_
   try simp only [zW]
   refine tW 39 100 (.bool false) S0 ?_
   try simp only [zW]
   refine wpAnyH_done (by kernel_rfl) ?_ _
   have HO3:=hide (show o=contsS apps ms id (cs.drop (0+1)) by rw [uH HO2,decide_eq_true (show 0<id by omega),decide_eq_true (show id≤1000000000 by omega)];simp)
   have HK7:=hide (show Kp w3 _ from yB (uH HK4) S0)
   clear HO2 A0 HS R S0
   go_wp2
   go_roundw
   case rel=>exact ⟨0+1,id,by omega,by go_num,HO3,hide ⟨by omega,fun e=>by omega,uH HNX⟩,HK7⟩
   case measure=>simp [intOf];omega
  obtain ⟨k',rfl⟩:∃k',k=k'+1:=⟨k - 1,by omega⟩
  have hpv:=uH HPV4 k' rfl
  have R2:∀wx,Kp W4 wx→wx.cell? ⟨b,off+k'*5,none⟩=some (.int .i64 last):=fun wx h=>h.cell hpv
  have hkw:IntKind.i64.wrap (k':Int)=k':=by rw [IntKind.wrap_i64];omega
  have kp0:(0:Int)≤k':=by omega
  have kp1:(k':Int)<cl:=by omega
  have kp2:(0:Int)<((k'+1:Nat):Int):=by omega
  refine tW 5 66 _ S0 ?_
  try simp only [zW]
  refine tW 6 67 (.bool true) S0 ?_
  try simp only [zW]
  refine tW 7 68 (.bool true) S0 ?_
  try simp only [zW]
  refine tW 8 69 _ S0 ?_
  try simp only [zW]
  refine tW 9 70 _ S0 ?_
  try simp only [zW]
  refine tW 10 71 _ S0 ?_
  try simp only [zW]
  refine tW 11 72 _ S0 ?_
  try simp only [zW]
  refine tW 12 73 _ S0 ?_
  try simp only [zW]
  refine tW 13 74 (.int .i64 k') S0 ?_
  try simp only [zW]
  refine tW 14 75 (.pointer (some ⟨b,off+k'*5,none⟩)) S0 ?_
  try simp only [zW]
  refine tW 15 76 _ S0 ?_
  try simp only [zW]
  refine tW 16 77 (.int .i64 last) S0 ?_
  try simp only [zW]
  by_cases hle:id≤last
  ·
   refine tW 17 78 (.bool true) S0 ?_
   try simp only [zW]
   refine tW 18 79 (.bool true) S0 ?_
   try simp only [zW]
   refine tW 19 80 (.bool true) S0 ?_
   try simp only [zW]
   refine tW 20 81 (.bool true) S0 ?_
   try simp only [zW]
   refine tU 21 82 S0 <| tU 22 83 S0 <| tU 23 84 S0 <| tU 24 85 S0 <| tU 25 86 S0 <| ?_
   try simp only [zW]
   refine tW 26 87 (.bool true) S0 ?_
   try simp only [zW]
   refine tW 27 88 (.bool true) S0 ?_
   try simp only [zW]
   refine tU 28 89 S0 <| tU 29 90 S0 <| tU 30 91 S0 <| tU 31 92 S0 <| tU 32 93 S0 <| ?_
   try simp only [zW]
   refine tW 33 94 (.bool true) S0 ?_
   try simp only [zW]
   refine tW 34 95 (.bool true) S0 ?_
   try simp only [zW]
   refine tU 35 96 S0 <| tU 36 97 S0 <| tU 37 98 S0 <| tU 38 99 S0 <| ?_
   try simp only [zW]
   refine tW 39 100 (.bool true) S0 ?_
   try simp only [zW]
   refine wpAnyH_done (by kernel_rfl) ?_ _
   have HB9:=hide (yB (uH HB4) ((uH HS).below S0))
   have HF:=hide (show o=false by
    rw [uH HO2,decide_eq_false (show ¬last<id by omega)];simp)
   go_wp2
   go_ret
   exact ⟨yF (uH HF).symm,uH HB9⟩
  refine tW 17 78 (.bool false) S0 ?_
  try simp only [zW]
  refine tW 18 79 (.bool false) S0 ?_
  try simp only [zW]
  refine tW 19 80 (.bool false) S0 ?_
  try simp only [zW]
  refine tW 20 81 (.bool false) S0 ?_
  try simp only [zW]
  refine tW 21 82 _ S0 ?_
  try simp only [zW]
  refine tW 22 83 _ S0 ?_
  try simp only [zW]
  refine tW 23 84 _ S0 ?_
  try simp only [zW]
  cases fa
  case false=>
   have hp:pa<0:=by simpa using uH HPA
   refine wpAnyH_ready (rs:=[24]) (by kernel_rfl) (by simp) (AllReadyH.cons rfl (fun K hK=>?_) AllReadyH.nil)
   go_simp
   refine (uH CP _ (yB (uH HB4) ((uH HS).below S0))).mono ?_
   rintro e wt ⟨rfl,hb⟩
   have S1:=(uH HS).call S0 hb
   clear hb
   go_wp2_with fail
   refine hK.out _ _ S1 (fun S0=>?_)
   clear hK K S1
   try simp only [zW]
   refine tW 25 86 (.bool true) S0 ?_
   try simp only [zW]
   refine tW 26 87 (.bool true) S0 ?_
   try simp only [zW]
   refine tW 27 88 (.bool true) S0 ?_
   try simp only [zW]
   refine tU 28 89 S0 <| tU 29 90 S0 <| tU 30 91 S0 <| tU 31 92 S0 <| tU 32 93 S0 <| ?_
   try simp only [zW]
   refine tW 33 94 (.bool true) S0 ?_
   try simp only [zW]
   refine tW 34 95 (.bool true) S0 ?_
   try simp only [zW]
   refine tU 35 96 S0 <| tU 36 97 S0 <| tU 37 98 S0 <| tU 38 99 S0 <| ?_
   try simp only [zW]
   refine tW 39 100 (.bool true) S0 ?_
   try simp only [zW]
   refine wpAnyH_done (by kernel_rfl) ?_ _
   have HB9:=hide (yB (uH HB4) ((uH HS).below S0))
   have HF:=hide (show o=false by
    rw [uH HO2];simp)
   go_wp2
   go_ret
   exact ⟨yF (uH HF).symm,uH HB9⟩
  have hp:¬pa<0:=by simpa using uH HPA
  refine wpAnyH_ready (rs:=[24]) (by kernel_rfl) (by simp) (AllReadyH.cons rfl (fun K hK=>?_) AllReadyH.nil)
  go_simp
  refine (uH CP _ (yB (uH HB4) ((uH HS).below S0))).mono ?_
  rintro e wt ⟨rfl,hb⟩
  have S1:=(uH HS).call S0 hb
  clear hb
  go_wp2_with fail
  refine hK.out _ _ S1 (fun S0=>?_)
  clear hK K S1
  try simp only [zW]
  refine tW 25 86 (.bool false) S0 ?_
  try simp only [zW]
  refine tW 26 87 (.bool false) S0 ?_
  try simp only [zW]
  refine tW 27 88 (.bool false) S0 ?_
  try simp only [zW]
  refine tW 28 89 _ S0 ?_
  try simp only [zW]
  refine tW 29 90 _ S0 ?_
  try simp only [zW]
  refine tW 30 91 _ S0 ?_
  try simp only [zW]
  cases fm
  case false=>
   have hm:pm<0:=by simpa using uH HPM
   refine wpAnyH_ready (rs:=[31]) (by kernel_rfl) (by simp) (AllReadyH.cons rfl (fun K hK=>?_) AllReadyH.nil)
   go_simp
   refine (uH CMA _ (yB (uH HB4) ((uH HS).below S0))).mono ?_
   rintro e wt ⟨rfl,hb⟩
   have S1:=(uH HS).call S0 hb
   clear hb
   go_wp2_with fail
   refine hK.out _ _ S1 (fun S0=>?_)
   clear hK K S1
   try simp only [zW]
   refine tW 32 93 (.bool true) S0 ?_
   try simp only [zW]
   refine tW 33 94 (.bool true) S0 ?_
   try simp only [zW]
   refine tW 34 95 (.bool true) S0 ?_
   try simp only [zW]
   refine tU 35 96 S0 <| tU 36 97 S0 <| tU 37 98 S0 <| tU 38 99 S0 <| ?_
   try simp only [zW]
   refine tW 39 100 (.bool true) S0 ?_
   try simp only [zW]
   refine wpAnyH_done (by kernel_rfl) ?_ _
   have HB9:=hide (yB (uH HB4) ((uH HS).below S0))
   have HF:=hide (show o=false by
    rw [uH HO2];simp)
   go_wp2
   go_ret
   exact ⟨yF (uH HF).symm,uH HB9⟩
  have hm:¬pm<0:=by simpa using uH HPM
  refine wpAnyH_ready (rs:=[31]) (by kernel_rfl) (by simp) (AllReadyH.cons rfl (fun K hK=>?_) AllReadyH.nil)
  go_simp
  refine (uH CMA _ (yB (uH HB4) ((uH HS).below S0))).mono ?_
  rintro e wt ⟨rfl,hb⟩
  have S1:=(uH HS).call S0 hb
  clear hb
  go_wp2_with fail
  refine hK.out _ _ S1 (fun S0=>?_)
  clear hK K S1
  try simp only [zW]
  refine tW 32 93 (.bool false) S0 ?_
  try simp only [zW]
  refine tW 33 94 (.bool false) S0 ?_
  try simp only [zW]
  refine tW 34 95 (.bool false) S0 ?_
  try simp only [zW]
  refine tW 35 96 _ S0 ?_
  try simp only [zW]
  refine tW 36 97 _ S0 ?_
  try simp only [zW]
  cases sm
  case false=>
   refine wpAnyH_ready (rs:=[37]) (by kernel_rfl) (by simp) (AllReadyH.cons rfl (fun K hK=>?_) AllReadyH.nil)
   go_simp
   refine (l04Some_any me cp _).mono ?_
   rw [hsm]
   rintro e wt ⟨rfl,hb⟩
   have S1:=(uH HS).call S0 hb
   clear hb
   go_wp2_with fail
   refine hK.out _ _ S1 (fun S0=>?_)
   clear hK K S1
   try simp only [zW]
   refine tW 38 99 (.bool true) S0 ?_
   try simp only [zW]
   refine tW 39 100 (.bool true) S0 ?_
   try simp only [zW]
   refine wpAnyH_done (by kernel_rfl) ?_ _
   have HB9:=hide (yB (uH HB4) ((uH HS).below S0))
   have HF:=hide (show o=false by
    rw [uH HO2];simp)
   go_wp2
   go_ret
   exact ⟨yF (uH HF).symm,uH HB9⟩
  refine wpAnyH_ready (rs:=[37]) (by kernel_rfl) (by simp) (AllReadyH.cons rfl (fun K hK=>?_) AllReadyH.nil)
  go_simp
  refine (l04Some_any me cp _).mono ?_
  rw [hsm]
  rintro e wt ⟨rfl,hb⟩
  have S1:=(uH HS).call S0 hb
  clear hb
  go_wp2_with fail
  refine hK.out _ _ S1 (fun S0=>?_)
  clear hK K S1
  try simp only [zW]
  refine tW 38 99 (.bool false) S0 ?_
  try simp only [zW]
  refine tW 39 100 (.bool false) S0 ?_
  try simp only [zW]
  refine wpAnyH_done (by kernel_rfl) ?_ _
  have HO3:=hide (show o=contsS apps ms id (cs.drop ((k'+1)+1)) by rw [uH HO2,decide_eq_true (show last<id by omega),decide_eq_true (show id≤1000000000 by omega)];simp)
  have HK7:=hide (show Kp w3 _ from yB (uH HK4) S0)
  clear HO2 A0 HS R S0
  go_wp2
  go_roundw
  case rel=>exact ⟨(k'+1)+1,id,by omega,by go_num,HO3,hide ⟨by omega,fun e=>by omega,uH HNX⟩,HK7⟩
  case measure=>simp [intOf];omega
end
end Go.Proofs.YtjkfappkpopbdaaGreat
