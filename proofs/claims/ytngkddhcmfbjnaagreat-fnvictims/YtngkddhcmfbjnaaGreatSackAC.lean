/-
  Texts in one: OkI, OkM, NewLaw, NewHas, VicM, TakE, TakS, DropM, StM, TkMat, NxM, VicW, VicR, GrM, SrvU, SrvI, AddC, GrI, GrS, VicB, VicL, VicLn.
-/
import Derived.Test.YtngkddhcmfbjnaaGreatSackX
import Derived.Test.YtngkddhcmfbjnaaGreatSackQ
import Derived.Test.YtngkddhcmfbjnaaGreatSackAB
import Derived.WalkMore
import Derived.Test.YtngkddhcmfbjnaaGreatSackZ
set_option maxRecDepth 100000
set_option maxHeartbeats 16000000
set_option linter.unusedVariables false
set_option linter.unusedSimpArgs false
namespace Go.Proofs.YtngkddhcmfbjnaaGreat
section
open Go.RowKit Go.Maps
variable {last:Int} {cs:List Con} {ms:List Mac} {k:Nat}
def dN (apps:List bN) (ms:List Mac):Int→List Con→Bool
  | _,[]=>true
  | last,c::t=>decide (last<c.id)&&(decide (c.id≤1000000000)&&((bH c.app apps).isSome&&((bQ c.node ms).isSome&&(lZ c.mem c.cpu&&dN apps ms c.id t))))
theorem aFl {apps:List bN} (h:cs.length≤k):dN apps ms last (cs.drop k)=true:=by
  rw [List.drop_of_length_le h];rfl
theorem aDp {apps:List bN} (h:k<cs.length):dN apps ms last (cs.drop k)=(decide (last<cs[k].id)&&(decide (cs[k].id≤1000000000)&&((bH cs[k].app apps).isSome&&((bQ cs[k].node ms).isSome&&(lZ cs[k].mem cs[k].cpu&&dN apps ms cs[k].id (cs.drop (k+1))))))):=by
  rw [List.drop_eq_getElem_cons h,dN]
def gV (s:St):Bool:=aH s.qs&&(inB s.clock 0 1000000000&&(inB s.epoch 1 1000000000&&(inB s.next 1 1000000000&&(inB s.serial 1 1000000000&&(gI s&&(iW s&&(decide (s.cs.length≤150)&&dN s.apps s.ms 0 s.cs)))))))
theorem aHl (l:List bN) (id:Int):decide (aJA l id<0) = !(bH id l).isSome:=by
  rcases zH id l with ⟨h1,h2⟩ | ⟨j,hj,h1,h2⟩
  · rw [h1,h2];rfl
  · rw [h1,h2];simp
theorem aF5 (l:List Mac) (nm:List UInt8):decide (aBR l nm<0) = !(bQ nm l).isSome:=by
  rcases aA4 nm l with ⟨h1,h2⟩ | ⟨j,hj,h1,h2⟩
  · rw [h1,h2];rfl
  · rw [h1,h2];simp
theorem aBt (x:Sls) (s:St) (w:World) (h:gU w x s) (hf:dI s) :
    cP 14 #[sv x s] w fun e w'=>e=.returned (.bool (gV s))∧Bw w w':=by
  have GJ:x.ql≤1048576:=by have:=h.len.1;have:=hf.1.1;omega
  have hal:x.al≤1048576:=by have:=h.len.2.1;have:=hf.2.1.1;omega
  have GN:x.ml≤1048576:=by have:=h.len.2.2.1;have:=hf.2.2.1.1;omega
  have hcl:x.cl≤1048576:=by have:=h.len.2.2.2;have:=hf.2.2.2.1;omega
  have HR:=aA h.2.2.2
  have HL:=aA h.2.2.2.1
  have CQ:=aA (fun wx (hb:Bw w wx)=>jV x.qa x.ql x.qc s.qs wx (h.1.below hb) GJ (fun q hq=>(hf.1.2 q hq).1))
  have CAP:=aA (fun wx (hb:Bw w wx) (hq:aH s.qs=true) (h1:1≤s.next) (h2:s.next≤1000000000)=>aDg x s wx (h.below hb) hf hq h1 h2)
  have CMC:=aA (fun wx (hb:Bw w wx)=>xN x s wx (h.below hb) hf)
  have CPI:=aA (fun wx (hb:Bw w wx) (id:Int)=>sH x s id wx (h.2.1.below hb) hal)
  have CMI:=aA (fun wx (hb:Bw w wx) (nm:List UInt8)=>oU x s nm wx (h.2.2.1.below hb) GN)
  obtain ⟨b1,e1⟩:∃b,aH s.qs=b:=⟨_,rfl⟩
  obtain ⟨n1,f1⟩:∃b,inB s.clock 0 1000000000=b:=⟨_,rfl⟩
  obtain ⟨n2,f2⟩:∃b,inB s.epoch 1 1000000000=b:=⟨_,rfl⟩
  obtain ⟨n3,f3⟩:∃b,inB s.next 1 1000000000=b:=⟨_,rfl⟩
  obtain ⟨n4,f4⟩:∃b,inB s.serial 1 1000000000=b:=⟨_,rfl⟩
  obtain ⟨b3,e3⟩:∃b,gI s=b:=⟨_,rfl⟩
  obtain ⟨b4,e4⟩:∃b,iW s=b:=⟨_,rfl⟩
  have QE:=aA (show gV s=(b1&&(n1&&(n2&&(n3&&(n4&&(b3&&(b4&&(decide (x.cl≤150)&&dN s.apps s.ms 0 (s.cs.drop 0))))))))) by rw [gV,e1,f1,f2,f3,f4,e3,e4,←h.2.2.2.1];rfl)
  obtain ⟨o,ho⟩:∃o,gV s=o:=⟨_,rfl⟩
  rw [ho] at QE ⊢
  rw [e1] at CQ
  rw [e3] at CAP
  rw [e4] at CMC
  have CI1:=aA (fun wx=>by have:=aQ s.clock 0 1000000000 wx;rw [f1] at this;exact this)
  have CI2:=aA (fun wx=>by have:=aQ s.epoch 1 1000000000 wx;rw [f2] at this;exact this)
  have CI3:=aA (fun wx=>by have:=aQ s.next 1 1000000000 wx;rw [f3] at this;exact this)
  have CI4:=aA (fun wx=>by have:=aQ s.serial 1 1000000000 wx;rw [f4] at this;exact this)
  have PZ:=aA e1
  have VN:=aA (show n3=true→1≤s.next∧s.next≤1000000000 from fun e=>by rw [e] at f3;simpa [inB] using f3)
  clear h hf ho e1 f1 f2 f3 f4 e3 e4
  obtain ⟨qa,ql,qc,aa,al,ac,ma,ml,mc,ca,cl,cc⟩:=x
  obtain ⟨qs,cv,ez,nv,sj,aj,ms,cs⟩:=s
  simp only at GJ hal GN hcl HR HL CQ CAP CMC CPI CMI CI1 CI2 CI3 CI4 QE PZ VN
  have HB0:=aA (gG w (svc ⟨qa,ql,qc,aa,al,ac,ma,ml,mc,ca,cl,cc⟩ ⟨qs,cv,ez,nv,sj,aj,ms,cs⟩))
  have P0:=aA (eB w (svc ⟨qa,ql,qc,aa,al,ac,ma,ml,mc,ca,cl,cc⟩ ⟨qs,cv,ez,nv,sj,aj,ms,cs⟩))
  go_enter Tryz.func14,Tryz.ntmps14
  go_wp2_with fail
  refine (uH CQ _ (uH HB0)).mono ?_
  rintro e w1 ⟨rfl,hb⟩
  have HB1:=aA (yB (uH HB0) hb)
  have P1:=aA ((uH P0).below hb)
  obtain ⟨q0,q1,q2,q3,q4,q5,q6,q7⟩:_∧_∧_∧_∧_∧_∧_∧_:=⟨(uH P1).at 0,(uH P1).at 1,(uH P1).at 2,(uH P1).at 3,(uH P1).at 4,(uH P1).at 5,(uH P1).at 6,(uH P1).at 7⟩
  simp at q0 q1 q2 q3 q4 q5 q6 q7
  clear hb HB0 P0 CQ
  cases b1
  case false=>
    go_wp2
    go_ret
    exact ⟨yF (by rw [uH QE];rfl),uH HB1⟩
  go_wp2_with fail
  refine (uH CI1 _).mono ?_
  rintro e w' ⟨rfl,rfl⟩
  cases n1
  case false=>
    go_wp2
    go_ret
    exact ⟨yF (by rw [uH QE];simp),uH HB1⟩
  go_wp2_with fail
  refine (uH CI2 _).mono ?_
  rintro e w' ⟨rfl,rfl⟩
  cases n2
  case false=>
    go_wp2
    go_ret
    exact ⟨yF (by rw [uH QE];simp),uH HB1⟩
  go_wp2_with fail
  refine (uH CI3 _).mono ?_
  rintro e w' ⟨rfl,rfl⟩
  cases n3
  case false=>
    go_wp2
    go_ret
    exact ⟨yF (by rw [uH QE];simp),uH HB1⟩
  go_wp2_with fail
  refine (uH CI4 _).mono ?_
  rintro e w' ⟨rfl,rfl⟩
  cases n4
  case false=>
    go_wp2
    go_ret
    exact ⟨yF (by rw [uH QE];simp),uH HB1⟩
  obtain ⟨hn1,hn2⟩:=uH VN (by simp)
  go_wp2_with fail
  refine (uH CAP _ (uH HB1) (uH PZ) hn1 hn2).mono ?_
  rintro e w2 ⟨rfl,hb⟩
  have HB2:=aA (yB (uH HB1) hb)
  have P2:=aA ((uH P1).below hb)
  clear hb HB1 P1 CAP q0 q1 q2 q3 q4 q5 q6 q7 hn1 hn2
  cases b3
  case false=>
    go_wp2
    go_ret
    exact ⟨yF (by rw [uH QE];simp),uH HB2⟩
  obtain ⟨q0,q1,q2,q3,q4,q5,q6,q7⟩:_∧_∧_∧_∧_∧_∧_∧_:=⟨(uH P2).at 0,(uH P2).at 1,(uH P2).at 2,(uH P2).at 3,(uH P2).at 4,(uH P2).at 5,(uH P2).at 6,(uH P2).at 7⟩
  simp at q0 q1 q2 q3 q4 q5 q6 q7
  go_wp2_with fail
  refine (uH CMC _ (uH HB2)).mono ?_
  rintro e w3 ⟨rfl,hb⟩
  have HB3:=aA (yB (uH HB2) hb)
  have P3:=aA ((uH P2).below hb)
  clear hb HB2 P2 CMC q0 q1 q2 q3 q4 q5 q6 q7
  cases b4
  case false=>
    go_wp2
    go_ret
    exact ⟨yF (by rw [uH QE];simp),uH HB3⟩
  have q7:=(uH P3).at 7
  simp at q7
  by_cases h150:cl≤150
  case neg=>
    have hi:(150:Int)<cl:=by omega
    go_wp2
    go_ret
    exact ⟨yF (by rw [uH QE,decide_eq_false h150];simp),uH HB3⟩
  have hi:¬(150:Int)<cl:=by omega
  have ZP:=aA (show o=dN aj ms 0 (cs.drop 0) by rw [uH QE,decide_eq_true h150];simp)
  clear QE CI1 CI2 CI3 CI4 VN PZ
  go_wp2
  clear q7 hi h150
  go_loopw [3] (fun i wr=>∃(k:Nat) (last:Int),k≤cl∧i=.int .i64 k∧Hid (o=dN aj ms last (cs.drop k))∧Hid (0≤last∧(k=0→last=0)∧∀(k':Nat) (hk':k'<cs.length),k=k'+1→last=cs[k'].id)∧Hid (Kp w3 wr)) (fun i _=>cl - (intOf i).toNat)
  case atStart=>exact ⟨0,0,Nat.zero_le _,rfl,ZP,aA ⟨by omega,fun _=>rfl,fun k' _ e=>by omega⟩,aA (Kp.new w3)⟩
  case round=>
    obtain ⟨k,last,hk,rfl,HO,YL,HK⟩:=hrel
    obtain ⟨wo,rfl⟩:∃wo:World,wo=wr:=⟨_,rfl⟩
    clear ZP
    have P1:=aA ((uH P3).below (uH HK))
    have q7:=(uH P1).at 7
    simp at q7
    have KW:=aA (show Kp w wo from yB (uH HB3) (uH HK))
    by_cases hlt:k<cl
    case neg=>
      have k1:¬(k:Int)<cl:=by omega
      go_wp2
      go_ret
      exact ⟨yF (by rw [uH HO,aFl (by have:=uH HL;omega)]),uH KW⟩
    obtain ⟨b,off,rfl,hq⟩:=(uH HR).at hlt
    have hkl:k<cs.length:=by have:=uH HL;omega
    have hst:=aDp (apps:=aj) (ms:=ms) (last:=last) hkl
    obtain ⟨c0,c1,c2,c3,c4⟩:=hq hkl
    replace c0:=(uH KW).cell c0
    replace c1:=(uH KW).cell c1
    replace c2:=(uH KW).cell c2
    replace c3:=(uH KW).cell c3
    replace c4:=(uH KW).cell c4
    have YH:=aA (fun (k':Nat) (e:k=k'+1)=>show wo.cell? ⟨b,off+k'*5,none⟩=some (.int .i64 last) by
      have hk'':k'<cs.length:=by omega
      obtain ⟨b',off',eb,hq'⟩:=(uH HR).at (show k'<cl by omega)
      obtain ⟨rfl,rfl⟩:b=b'∧off=off':=by simpa using eb
      obtain ⟨d0,_⟩:=hq' hk''
      rw [(uH YL).2.2 k' hk'' e]
      exact (uH KW).cell d0)
    obtain ⟨⟨id,ap,nd,me,cp⟩,hs⟩:∃s,cs[k]=s:=⟨_,rfl⟩
    have DV:=aA (show ∀(k':Nat) (hk':k'<cs.length),k+1=k'+1→id=cs[k'].id from fun k' hk' e=>by
      have:k=k':=by omega
      subst this
      rw [hs])
    rw [hs] at c0 c1 c2 c3 c4 hst
    simp only at c0 c1 c2 c3 c4 hst
    have k0:(0:Int)≤k:=by omega
    have k1:(k:Int)<cl:=by omega
    have hap:=aHl aj ap
    have Fw:=aF5 ms nd
    have CP:=aA (fun wx (hb:Bw w wx)=>uH CPI wx hb ap)
    have CMA:=aA (fun wx (hb:Bw w wx)=>uH CMI wx hb nd)
    obtain ⟨pa,Jj⟩:∃p,aJA aj ap=p:=⟨_,rfl⟩
    obtain ⟨pm,hpm⟩:∃p,aBR ms nd=p:=⟨_,rfl⟩
    rw [Jj] at hap CP
    rw [hpm] at Fw CMA
    obtain ⟨fa,hfa⟩:∃b,(bH ap aj).isSome=b:=⟨_,rfl⟩
    obtain ⟨fm,hfm⟩:∃b,(bQ nd ms).isSome=b:=⟨_,rfl⟩
    obtain ⟨sm,hsm⟩:∃b,lZ me cp=b:=⟨_,rfl⟩
    rw [hfa] at hap hst
    rw [hfm] at Fw hst
    rw [hsm] at hst
    have U4:=aA hap
    have YI:=aA Fw
    have GD:=aA ((uH HO).trans hst)
    obtain ⟨ib,hib⟩:∃b,inB id 1 1000000000=b:=⟨_,rfl⟩
    obtain ⟨hl0,hlz,_⟩:=uH YL
    clear hq hs hkl hst hfa hfm hap Fw Jj hpm HO CPI CMI
    have b4:=yA (yH _ wo) (.cells #[.int .i64 id,.int .i64 ap,.string (bs nd),.int .i64 me,.int .i64 cp] 52)
    have G8:=aA (yB (uH KW) b4)
    have P4:=aA (yD wo #[.int .i64 id,.int .i64 ap,.string (bs nd),.int .i64 me,.int .i64 cp] 52)
    have Z4:=aA ((uH P1).below b4)
    have ZJ:=aA (fun (k':Nat) (e:k=k'+1)=>Kp.cell b4 (uH YH k' e))
    have Qy:=aA (show Kp w3 _ from yB (uH HK) b4)
    obtain ⟨W4,Yk⟩:∃W,wo.alloc (.cells #[.int .i64 id,.int .i64 ap,.string (bs nd),.int .i64 me,.int .i64 cp] 52)=W:=⟨_,rfl⟩
    rw [Yk] at G8 P4 Z4 ZJ Qy
    obtain ⟨s0,s1,s2,s3,s4,s5,s6,s7⟩:_∧_∧_∧_∧_∧_∧_∧_:=⟨(uH Z4).at 0,(uH Z4).at 1,(uH Z4).at 2,(uH Z4).at 3,(uH Z4).at 4,(uH Z4).at 5,(uH Z4).at 6,(uH Z4).at 7⟩
    obtain ⟨a0,a1,a2,a3,a4⟩:_∧_∧_∧_∧_:=⟨(uH P4).at 0,(uH P4).at 1,(uH P4).at 2,(uH P4).at 3,(uH P4).at 4⟩
    simp at s0 s1 s2 s3 s4 s5 s6 s7 a0 a1 a2 a3 a4
    have R:∀wx,Kp W4 wx→wx.cell? ⟨w.heap.size,0,none⟩=some (.slice qa ql qc)∧wx.cell? ⟨w.heap.size,1,none⟩=some (.int .i64 cv)∧wx.cell? ⟨w.heap.size,2,none⟩=some (.int .i64 ez)∧wx.cell? ⟨w.heap.size,3,none⟩=some (.int .i64 nv)∧wx.cell? ⟨w.heap.size,4,none⟩=some (.int .i64 sj)∧wx.cell? ⟨w.heap.size,5,none⟩=some (.slice aa al ac)∧wx.cell? ⟨w.heap.size,6,none⟩=some (.slice ma ml mc)∧wx.cell? ⟨w.heap.size,7,none⟩=some (.slice (some ⟨b,off,none⟩) cl cc)∧wx.cell? ⟨wo.heap.size,0,none⟩=some (.int .i64 id)∧wx.cell? ⟨wo.heap.size,1,none⟩=some (.int .i64 ap)∧wx.cell? ⟨wo.heap.size,2,none⟩=some (.string (bs nd))∧wx.cell? ⟨wo.heap.size,3,none⟩=some (.int .i64 me)∧wx.cell? ⟨wo.heap.size,4,none⟩=some (.int .i64 cp):=fun wx h=>
      ⟨h.cell s0,h.cell s1,h.cell s2,h.cell s3,h.cell s4,h.cell s5,h.cell s6,h.cell s7,h.cell a0,h.cell a1,h.cell a2,h.cell a3,h.cell a4⟩
    have A0:=aA (Kp.new W4)
    have HS:=aA (aK W4)
    clear b4 YH P1
    go_wp2_with fail
    first | (change Code.wp _ _ _ _ (wo.alloc (.cells #[.int .i64 id,.int .i64 ap,.string (bs nd),.int .i64 me,.int .i64 cp] 52));rw [Yk]) | skip
    clear Yk c0 c1 c2 c3 c4 q7 s0 s1 s2 s3 s4 s5 s6 s7 a0 a1 a2 a3 a4 P4 Z4
    refine wp_region_held_drew (S:=fun wx=>Kp W4 wx) (by kernel_rfl) ((uH HS).drew (uH A0)) (fun S0=>?_)
    refine tW 0 61 _ S0 ?_
    simp only [zW]
    refine tW 1 62 _ S0 ?_
    simp only [zW]
    cases ib
    have DEAD:=trivial
    refine yRq 2 rfl (fun K hK=>?_)
    go_simp
    refine (aQ id 1 1000000000 _).mono ?_
    rw [hib]
    rintro e wt ⟨rfl,rfl⟩
    have S1:=S0
    go_wp2_with fail
    refine hK.out _ _ S1 (fun S0=>?_)
    clear hK K S1
    try simp only [zW]
    refine tW 3 64 (.bool true) S0 ?_
    simp only [zW]
    refine tW 4 65 (.bool true) S0 ?_
    simp only [zW]
    refine tU 5 66 S0 <| tU 6 67 S0 <| tU 7 68 S0 <| tU 8 69 S0 <| tU 9 70 S0 <| tU 10 71 S0 <| tU 11 72 S0 <| tU 12 73 S0 <| tU 13 74 S0 <| tU 14 75 S0 <| tU 15 76 S0 <| tU 16 77 S0 <| tU 17 78 S0 <| tU 18 79 S0 <| ?_
    simp only [zW]
    rotate_left
    have hin:1≤id∧id≤1000000000:=by simpa [inB] using hib
    refine yRq 2 rfl (fun K hK=>?_)
    go_simp
    refine (aQ id 1 1000000000 _).mono ?_
    rw [hib]
    rintro e wt ⟨rfl,rfl⟩
    have S1:=S0
    go_wp2_with fail
    refine hK.out _ _ S1 (fun S0=>?_)
    clear hK K S1
    try simp only [zW]
    refine tW 3 64 (.bool false) S0 ?_
    simp only [zW]
    refine tW 4 65 (.bool false) S0 ?_
    simp only [zW]
    by_cases hk0:k=0
    have Jy:last<id:=by have:=hlz hk0;omega
    have QR:=aA hk0
    clear hk0
    refine tW 5 66 _ S0 ?_
    simp only [zW]
    refine bW 6 67 (.bool false) rfl rfl S0 ?_ (hy:=Or.inl ⟨by rfl,fun wz hz=>by (go_simp;exact uH QR)⟩)
    try simp only [zW]
    refine tW 7 68 (.bool false) S0 ?_
    simp only [zW]
    refine tU 8 69 S0 <| tU 9 70 S0 <| tU 10 71 S0 <| tU 11 72 S0 <| tU 12 73 S0 <| tU 13 74 S0 <| tU 14 75 S0 <| tU 15 76 S0 <| tU 16 77 S0 <| tU 17 78 S0 <| ?_
    simp only [zW]
    refine tW 18 79 (.bool false) S0 ?_
    simp only [zW]
    rotate_left
    obtain ⟨k',hk'⟩:∃k',k=k'+1:=⟨k - 1,by omega⟩
    have hpv:=uH ZJ k' hk'
    have R2:∀wx,Kp W4 wx→wx.cell? ⟨b,off+k'*5,none⟩=some (.int .i64 last):=fun wx h=>h.cell hpv
    have TH:IntKind.i64.wrap ((k:Int) - 1)=k':=by rw [IntKind.wrap_i64];omega
    have kp0:(0:Int)≤k':=by omega
    have kp1:(k':Int)<cl:=by omega
    have kp2:0<k:=by omega
    clear hk0 hk'
    refine tW 5 66 _ S0 ?_
    simp only [zW]
    refine tW 6 67 (.bool true) S0 ?_
    simp only [zW]
    refine tW 7 68 (.bool true) S0 ?_
    simp only [zW]
    refine tW 8 69 _ S0 ?_
    simp only [zW]
    refine tW 9 70 _ S0 ?_
    simp only [zW]
    refine tW 10 71 _ S0 ?_
    simp only [zW]
    refine tW 11 72 _ S0 ?_
    simp only [zW]
    refine tW 12 73 _ S0 ?_
    simp only [zW]
    refine tW 13 74 (.int .i64 k') S0 ?_
    simp only [zW]
    refine tW 14 75 (.pointer (some ⟨b,off+k'*5,none⟩)) S0 ?_
    simp only [zW]
    refine tW 15 76 _ S0 ?_
    simp only [zW]
    refine tW 16 77 (.int .i64 last) S0 ?_
    simp only [zW]
    by_cases hle:id≤last
    have DEAD:=trivial
    refine tW 17 78 (.bool true) S0 ?_
    simp only [zW]
    refine tW 18 79 (.bool true) S0 ?_
    simp only [zW]
    rotate_left
    have Jy:last<id:=by omega
    refine tW 17 78 (.bool false) S0 ?_
    simp only [zW]
    refine tW 18 79 (.bool false) S0 ?_
    simp only [zW]
    all_goals first
      | (have hyp:=DEAD
         refine tW 19 80 (.bool true) S0 ?_
         simp only [zW]
         refine tW 20 81 (.bool true) S0 ?_
         simp only [zW]
         refine tU 21 82 S0 <| tU 22 83 S0 <| tU 23 84 S0 <| tU 24 85 S0 <| tU 25 86 S0 <| ?_
         simp only [zW]
         refine tW 26 87 (.bool true) S0 ?_
         simp only [zW]
         refine tW 27 88 (.bool true) S0 ?_
         simp only [zW]
         refine tU 28 89 S0 <| tU 29 90 S0 <| tU 30 91 S0 <| tU 31 92 S0 <| tU 32 93 S0 <| ?_
         simp only [zW]
         refine tW 33 94 (.bool true) S0 ?_
         simp only [zW]
         refine tW 34 95 (.bool true) S0 ?_
         simp only [zW]
         refine tU 35 96 S0 <| tU 36 97 S0 <| tU 37 98 S0 <| tU 38 99 S0 <| ?_
         simp only [zW]
         refine tW 39 100 (.bool true) S0 ?_
         simp only [zW]
         refine wpAnyH_done (by kernel_rfl) ?_ _
         have GM:=aA (yB (uH G8) ((uH HS).below S0))
         have HF:=aA (show o=false by
           first
           | (rw [uH GD];simp;done)
           | (rw [uH GD,decide_eq_false (show ¬last<id by omega)];simp;done)
           | (have hc:¬(1≤id∧id≤1000000000):=fun hc=>by rw [cZ hc.1 hc.2] at hib;cases hib
              have hz:decide (last<id)=false∨decide (id≤1000000000)=false:=by simp only [decide_eq_false_iff_not];omega
              rw [uH GD];rcases hz with hz | hz<;>rw [hz]<;>simp))
         go_wp2
         go_ret
         exact ⟨yF (uH HF).symm,uH GM⟩)
      | skip
    all_goals
      refine tW 19 80 (.bool false) S0 ?_
      simp only [zW]
      refine tW 20 81 (.bool false) S0 ?_
      simp only [zW]
      refine tW 21 82 _ S0 ?_
      simp only [zW]
      refine tW 22 83 _ S0 ?_
      simp only [zW]
      refine tW 23 84 _ S0 ?_
      simp only [zW]
      cases fa
      have hp:pa<0:=by simpa using uH U4
      refine yRq 24 rfl (fun K hK=>?_)
      go_simp
      refine (uH CP _ (yB (uH G8) ((uH HS).below S0))).mono ?_
      rintro e wt ⟨rfl,hb⟩
      have S1:=(uH HS).call S0 hb
      clear hb
      go_wp2_with fail
      refine hK.out _ _ S1 (fun S0=>?_)
      clear hK K S1
      try simp only [zW]
      refine tW 25 86 (.bool true) S0 ?_
      simp only [zW]
      refine tW 26 87 (.bool true) S0 ?_
      simp only [zW]
      refine tW 27 88 (.bool true) S0 ?_
      simp only [zW]
      refine tU 28 89 S0 <| tU 29 90 S0 <| tU 30 91 S0 <| tU 31 92 S0 <| tU 32 93 S0 <| ?_
      simp only [zW]
      refine tW 33 94 (.bool true) S0 ?_
      simp only [zW]
      refine tW 34 95 (.bool true) S0 ?_
      simp only [zW]
      refine tU 35 96 S0 <| tU 36 97 S0 <| ?_
      simp only [zW]
      rotate_left
      have hp:¬pa<0:=by simpa using uH U4
      refine yRq 24 rfl (fun K hK=>?_)
      go_simp
      refine (uH CP _ (yB (uH G8) ((uH HS).below S0))).mono ?_
      rintro e wt ⟨rfl,hb⟩
      have S1:=(uH HS).call S0 hb
      clear hb
      go_wp2_with fail
      refine hK.out _ _ S1 (fun S0=>?_)
      clear hK K S1
      try simp only [zW]
      refine tW 25 86 (.bool false) S0 ?_
      simp only [zW]
      refine tW 26 87 (.bool false) S0 ?_
      simp only [zW]
      refine tW 27 88 (.bool false) S0 ?_
      simp only [zW]
      refine tW 28 89 _ S0 ?_
      simp only [zW]
      refine tW 29 90 _ S0 ?_
      simp only [zW]
      refine tW 30 91 _ S0 ?_
      simp only [zW]
      cases fm
      have hm:pm<0:=by simpa using uH YI
      refine yRq 31 rfl (fun K hK=>?_)
      go_simp
      refine (uH CMA _ (yB (uH G8) ((uH HS).below S0))).mono ?_
      rintro e wt ⟨rfl,hb⟩
      have S1:=(uH HS).call S0 hb
      clear hb
      go_wp2_with fail
      refine hK.out _ _ S1 (fun S0=>?_)
      clear hK K S1
      try simp only [zW]
      refine tW 32 93 (.bool true) S0 ?_
      simp only [zW]
      refine tW 33 94 (.bool true) S0 ?_
      simp only [zW]
      refine tW 34 95 (.bool true) S0 ?_
      simp only [zW]
      refine tU 35 96 S0 <| tU 36 97 S0 <| ?_
      simp only [zW]
      rotate_left
      have hm:¬pm<0:=by simpa using uH YI
      refine yRq 31 rfl (fun K hK=>?_)
      go_simp
      refine (uH CMA _ (yB (uH G8) ((uH HS).below S0))).mono ?_
      rintro e wt ⟨rfl,hb⟩
      have S1:=(uH HS).call S0 hb
      clear hb
      go_wp2_with fail
      refine hK.out _ _ S1 (fun S0=>?_)
      clear hK K S1
      try simp only [zW]
      refine tW 32 93 (.bool false) S0 ?_
      simp only [zW]
      refine tW 33 94 (.bool false) S0 ?_
      simp only [zW]
      refine tW 34 95 (.bool false) S0 ?_
      simp only [zW]
      refine tW 35 96 _ S0 ?_
      simp only [zW]
      refine tW 36 97 _ S0 ?_
      simp only [zW]
      cases sm
      refine yRq 37 rfl (fun K hK=>?_)
      go_simp
      refine (pI me cp _).mono ?_
      rw [hsm]
      rintro e wt ⟨rfl,hb⟩
      have S1:=(uH HS).call S0 hb
      clear hb
      go_wp2_with fail
      refine hK.out _ _ S1 (fun S0=>?_)
      clear hK K S1
      try simp only [zW]
      refine tW 38 99 (.bool true) S0 ?_
      simp only [zW]
      rotate_left
      refine yRq 37 rfl (fun K hK=>?_)
      go_simp
      refine (pI me cp _).mono ?_
      rw [hsm]
      rintro e wt ⟨rfl,hb⟩
      have S1:=(uH HS).call S0 hb
      clear hb
      go_wp2_with fail
      refine hK.out _ _ S1 (fun S0=>?_)
      clear hK K S1
      try simp only [zW]
      refine tW 38 99 (.bool false) S0 ?_
      simp only [zW]
      refine tW 39 100 (.bool false) S0 ?_
      simp only [zW]
      refine wpAnyH_done (by kernel_rfl) ?_ _
      have ZQ:=aA (show o=dN aj ms id (cs.drop (k+1)) by rw [uH GD,decide_eq_true Jy,decide_eq_true (show id≤1000000000 by omega)];simp)
      have YM:=aA (show Kp w3 _ from yB (uH Qy) S0)
      clear GD A0 HS R S0
      go_wp2
      go_roundw
      case rel=>exact ⟨k+1,id,by omega,by go_num,ZQ,aA ⟨by omega,fun e=>by omega,uH DV⟩,YM⟩
      case measure=>simp [intOf];omega
      iterate 2
        refine tU 37 98 S0 <| tU 38 99 S0 <| ?_
        simp only [zW]
        rotate_left
      all_goals
        refine tW 39 100 (.bool true) S0 ?_
        simp only [zW]
        refine wpAnyH_done (by kernel_rfl) ?_ _
        have GM:=aA (yB (uH G8) ((uH HS).below S0))
        have HF:=aA (show o=false by
          first
          | (rw [uH GD];simp;done)
          | (rw [uH GD,decide_eq_false (show ¬last<id by omega)];simp;done)
          | (have hc:¬(1≤id∧id≤1000000000):=fun hc=>by rw [cZ hc.1 hc.2] at hib;cases hib
             have hz:decide (last<id)=false∨decide (id≤1000000000)=false:=by simp only [decide_eq_false_iff_not];omega
             rw [uH GD];rcases hz with hz | hz<;>rw [hz]<;>simp))
        go_wp2
        go_ret
        exact ⟨yF (uH HF).symm,uH GM⟩
end
section
open Go.RowKit
variable {arr:Array Value} {c:Con} {g lk:Int×Int} {hs:List AV} {ak:List Ask} {G L cs l:List Con} {nm q:List UInt8} {m:Mac} {B M b c' ga i k n n' pg:Nat} {ao ao' qo:Option Addr} {x y:Sls} {s:St} {α:Type} {t:TypeId} {v:Value} {w w':World}
def oL:Int→Int→List (Int×Int)→Bool
 | _,_,[]=>true
 | x,y,r::t=>aP (-1) x y r.1 r.2&&oL (x + -1*r.1) (y + -1*r.2) t
theorem aGf:∀(l:List (Int×Int)) (x y:Int),aM x y=true→aM (aS l x y).1 (aS l x y).2.1=true
 | [],x,y,h=>h
 | r::t,x,y,h=>by
  rw [aS]
  by_cases hb:aP 1 x y r.1 r.2=true
  ·rw [if_pos hb]
   refine aGf t _ _ ?_
   simp only [aP,yK] at hb
   exact hb.2
  ·rw [if_neg hb];decide
theorem tX:∀(l:List (Int×Int)) (x y:Int),(aS l x y).2.2=true→∀r ∈ l,aM r.1 r.2=true
 | [],x,y,_,r,h=>by simp at h
 | q::t,x,y,h,r,hr=>by
  rw [aS] at h
  by_cases hb:aP 1 x y q.1 q.2=true
  ·rw [if_pos hb] at h
   rcases List.mem_cons.1 hr with rfl | hr
   ·simp only [aP,yK] at hb;exact hb.1.2
   ·exact tX t _ _ h r hr
  ·rw [if_neg hb] at h;cases h
theorem aAL:∀(l:List (Int×Int)) (x y:Int),(aS l x y).2.2=true→x≤(aS l x y).1∧y≤(aS l x y).2.1
 | [],x,y,_=>⟨Int.le_refl _,Int.le_refl _⟩
 | r::t,x,y,h=>by
  rw [aS] at h ⊢
  by_cases hb:aP 1 x y r.1 r.2=true
  ·rw [if_pos hb] at h ⊢
   have:=aAL t _ _ h
   have hr:aM r.1 r.2=true:=by simp only [aP,yK] at hb;exact hb.1.2
   have:=aO hr
   omega
  ·rw [if_neg hb] at h;cases h
theorem aET {X Y:Int} (hX:aM X Y=true):∀(l:List (Int×Int)) (x y:Int),aM x y=true→x≤X→y≤Y→(oL (X + -1*x) (Y + -1*y) l=true↔(aS l x y).2.2=true∧(aS l x y).1≤X∧(aS l x y).2.1≤Y)
 | [],x,y,h,h1,h2=>by simp [oL,aS,h1,h2]
 | r::t,x,y,h,h1,h2=>by
  have bX:=aO hX
  have bx:=aO h
  rw [oL,aS,yK]
  by_cases hs:aP (-1) (X + -1*x) (Y + -1*y) r.1 r.2=true
  ·have hs':=hs
   simp only [aP,yK] at hs'
   have br:=aO hs'.1.2
   have bs':=aO hs'.2
   have hr2:aM (x+1*r.1) (y+1*r.2)=true:=by simp only [aM,inB,yK,yL];omega
   have hp:aP 1 x y r.1 r.2=true:=by simp only [aP,yK];exact ⟨⟨h,hs'.1.2⟩,hr2⟩
   rw [if_pos hp]
   have ih:=aET hX t (x+1*r.1) (y+1*r.2) hr2 (by omega) (by omega)
   rw [←ih]
   have e1:X + -1*(x+1*r.1)=X + -1*x + -1*r.1:=by omega
   have e2:Y + -1*(y+1*r.2)=Y + -1*y + -1*r.2:=by omega
   rw [e1,e2]
   exact ⟨fun hh=>hh.2,fun hh=>⟨hs,hh⟩⟩
  ·refine ⟨fun hh=>absurd hh.1 hs,fun ⟨g1,g2,g3⟩=>absurd ?_ hs⟩
   by_cases hp:aP 1 x y r.1 r.2=true
   ·rw [if_pos hp] at g1 g2 g3
    have ge:=aAL t _ _ g1
    have hp':=hp
    simp only [aP,yK] at hp'
    have br:=aO hp'.1.2
    simp only [aP,yK]
    refine ⟨⟨?_,hp'.1.2⟩,?_⟩<;>simp only [aM,inB,yK,yL]<;>omega
   ·rw [if_neg hp] at g1;cases g1
theorem aCi (hr:aM m.mem m.cpu=true):vS cs m=true↔oL m.mem m.cpu (aV (fun q=>decide (q.node=m.name)) cs)=true:=by
 have h:=aET hr (aV (fun q=>decide (q.node=m.name)) cs) 0 0 (by decide) (aO hr).1 (aO hr).2.2.1
 rw [show m.mem + -1*0=m.mem by omega,show m.cpu + -1*0=m.cpu by omega] at h
 rw [h]
 simp only [vS,hr,Bool.true_and,yK,iL,within]
 refine ⟨fun ⟨a,b⟩=>⟨a,of_decide_eq_true b.1.2,of_decide_eq_true b.2⟩,fun ⟨a,b,c⟩=>⟨a,⟨⟨⟨aGf _ 0 0 (by decide),trivial⟩,decide_eq_true b⟩,decide_eq_true c⟩⟩⟩
theorem aKc {a b:List UInt8} (h:leT a b=false):Op.bytesLess (bs b).toList (bs a).toList=true:=by
 simp only [leT,Bool.or_eq_false_iff] at h
 exact aEw _ _ h.1 (fun e=>by rw [e] at h;simp at h)
theorem jD {ck:Int}:∀(l:List Mac) (last:List UInt8),bA ck last l=true→∀m ∈ l,Op.bytesLess (bs last).toList (bs m.name).toList=true
 | [],_,_,m,h=>by simp at h
 | q::t,last,h,m,hm=>by
  simp only [bA,yK,Bool.not_eq_true'] at h
  have h1:=aKc h.1
  rcases List.mem_cons.1 hm with rfl | hm
  ·exact h1
  ·exact qX _ _ _ h1 (jD t q.name h.2.2.2.2 m hm)
theorem aA3 {ck:Int}:∀(l:List Mac) (last:List UInt8),bA ck last l=true→∀m ∈ l,bQ m.name l=some m
 | [],_,_,m,h=>by simp at h
 | q::t,last,h,m,hm=>by
  simp only [bA,yK,Bool.not_eq_true'] at h
  rcases List.mem_cons.1 hm with rfl | hm
  ·simp [bQ]
  ·have hab:=jD t q.name h.2.2.2.2 m hm
   have hne:¬q.name=m.name:=fun e=>by rw [e,zD] at hab;cases hab
   have:=aA3 t q.name h.2.2.2.2 m hm
   simp only [bQ] at this ⊢
   rw [List.find?_cons_of_neg (by simpa using hne)]
   exact this
theorem kL {ck:Int} {cs:List Con}:∀(l:List Mac) (last:List UInt8),lS ck cs last l=true↔bA ck last l=true∧∀m ∈ l,vS cs m=true
 | [],_=>by simp [lS,bA]
 | q::t,last=>by
  simp only [lS,bA,yK,kL t q.name,List.mem_cons,forall_eq_or_imp]
  exact ⟨fun ⟨a,b,c,d,e,f,g⟩=>⟨⟨a,b,c,d,f⟩,e,g⟩,fun ⟨⟨a,b,c,d,f⟩,e,g⟩=>⟨a,b,c,d,e,f,g⟩⟩
theorem uV {apps:List bN} {l l':List Mac} (h:∀nm,(bQ nm l').isSome=(bQ nm l).isSome):∀(cs:List Con) (last:Int),dN apps l' last cs=dN apps l last cs
 | [],_=>rfl
 | c::t,last=>by rw [dN,dN,h,uV h t]
theorem wL {t:List Con}:aV (fun q=>decide (q.node=nm)) (c::t)=if c.node=nm then (c.mem,c.cpu)::aV (fun q=>decide (q.node=nm)) t else aV (fun q=>decide (q.node=nm)) t:=by
 by_cases h:c.node=nm
 ·simp [aV,h]
 ·simp [aV,h]
theorem aCp {apps:List bN}:∀(cs:List Con) (l:List Mac) (last:Int),d9 apps l last cs=true↔dN apps l last cs=true∧∀nm m,bQ nm l=some m→oL m.mem m.cpu (aV (fun q=>decide (q.node=nm)) cs)=true
 | [],l,last=>by simp [d9,dN,aV,oL]
 | c::t,l,last=>by
  cases hf:bQ c.node l with
  | none=>simp [d9,dN,hf]
  | some m=>
   have hn:=sJ hf
   have ih:=aCp (apps:=apps) t (⟨m.name,m.mem + -1*c.mem,m.cpu + -1*c.cpu,m.seen⟩::l) c.id
   have X5:∀nm,bQ nm (⟨m.name,m.mem + -1*c.mem,m.cpu + -1*c.cpu,m.seen⟩::l)=if c.node=nm then some ⟨m.name,m.mem + -1*c.mem,m.cpu + -1*c.cpu,m.seen⟩ else bQ nm l:=fun nm=>by
    by_cases e:c.node=nm
    ·rw [if_pos e];simp [bQ,hn,e]
    ·rw [if_neg e];simp [bQ,hn,e]
   have JX:∀nm,(bQ nm (⟨m.name,m.mem + -1*c.mem,m.cpu + -1*c.cpu,m.seen⟩::l)).isSome=(bQ nm l).isSome:=fun nm=>by
    rw [X5]
    by_cases e:c.node=nm
    ·rw [if_pos e,←e,hf]
     rfl
    ·rw [if_neg e]
   rw [uV JX] at ih
   simp only [d9,dN,hf,Option.isSome_some,Option.getD_some,Bool.true_and,yK,ih]
   constructor
   ·rintro ⟨a,b,c1,d,e,f,g⟩
    refine ⟨⟨a,b,d,c1,f⟩,fun nm m2 hm2=>?_⟩
    rw [wL]
    by_cases en:c.node=nm
    ·rw [if_pos en]
     rw [←en,hf] at hm2
     cases hm2
     rw [oL,yK]
     exact ⟨e,g nm ⟨m.name,m.mem + -1*c.mem,m.cpu + -1*c.cpu,m.seen⟩ (by rw [X5,if_pos en])⟩
    ·rw [if_neg en]
     exact g nm m2 (by rw [X5,if_neg en];exact hm2)
   ·rintro ⟨⟨a,b,d,c1,f⟩,g⟩
    have g0:=g c.node m hf
    rw [wL,if_pos rfl,oL,yK] at g0
    refine ⟨a,b,c1,d,g0.1,f,fun nm m2 hm2=>?_⟩
    rw [X5] at hm2
    by_cases en:c.node=nm
    ·rw [if_pos en] at hm2
     cases hm2
     rw [←en]
     exact g0.2
    ·rw [if_neg en] at hm2
     have:=g nm m2 hm2
     rwa [wL,if_neg en] at this
theorem aFG (s:St):pV s=gV s:=by
 rw [Bool.eq_iff_iff]
 simp only [pV,gV,aCO,l8,iW,mG,yK,aCp,kL]
 have key:bA s.clock [] s.ms=true→(iL (aT s.ms)).2.2=true→((∀nm m,bQ nm s.ms=some m→oL m.mem m.cpu (aV (fun q=>decide (q.node=nm)) s.cs)=true)↔∀m ∈ s.ms,vS s.cs m=true):=fun h1 h2=>by
  have hr:∀m ∈ s.ms,aM m.mem m.cpu=true:=fun m hm=>tX _ 0 0 h2 (m.mem,m.cpu) (by simp only [aT,List.mem_map];exact ⟨m,hm,rfl⟩)
  constructor
  ·intro h m hm
   exact (aCi (hr m hm)).2 (h m.name m (aA3 _ _ h1 m hm))
  ·intro h nm m hf
   have hm:m ∈ s.ms:=List.mem_of_find?_eq_some hf
   have hn:=sJ hf
   have:=(aCi (hr m hm)).1 (h m hm)
   rwa [hn] at this
 constructor
 ·rintro ⟨a,⟨b1,b2,b3,b4⟩,c,⟨d1,d2,d3⟩,e1,e2,e3⟩
  exact ⟨a,b1,b2,b3,b4,c,⟨⟨d2,(key d2 d3).1 e3⟩,d3,d1⟩,e1,e2⟩
 ·rintro ⟨a,b1,b2,b3,b4,c,⟨⟨d2,hh⟩,d3,d1⟩,e1,e2⟩
  exact ⟨a,⟨b1,b2,b3,b4⟩,c,⟨d1,d2,d3⟩,e1,e2,(key d2 d3).2 hh⟩
def aW (s:St):Bool:=gV s
theorem iQ (x:Sls) (s:St) (w:World) (h:gU w x s) (hf:dI s) :
  cP 14 #[sv x s] w fun e w'=>e=.returned (.bool (aW s))∧Bw w w':=aBt x s w h hf
theorem nJ (x:Sls) (s:St) (w:World) (h:gU w x s) (hf:dI s) (hc:x.ql≤x.qc) (hw:aAF s) :
  cP 26 #[sv x s] w fun e w'=>e=.returned (.bool (aW s))∧Bw w w':=by
 have:=aBu x s w h hf hc hw
 rwa [aFG] at this
def qlN (l:List Q):List Q:=if aH l=true then l else []
def epN (l:List Q):Int:=if aH l=true then 1 else 0
def nxN (l:List Q):Int:=if aH l=true then 1001 else 0
theorem aJN (l:List Q):aW (pG l 1 1001 1)=aH l:=by
 have h1:gI (pG l 1 1001 1)=true:=rfl
 have h2:iW (pG l 1 1001 1)=true:=rfl
 simp only [aW,gV,h1,h2]
 rw [show (inB 0 0 1000000000&&(inB 1 1 1000000000&&(inB 1001 1 1000000000&&(inB 1 1 1000000000&&(true&&(true&&(decide (([]:List Con).length≤150)&&dN [] [] 0 [])))))))=true from rfl,Bool.and_true]
theorem zN.one {l:List Q} {e:Ending} (h:zN w l e w'):∃qo n c,e=.returned (.tuple #[.agg (svc (aHu qo n c) (pG (qlN l) (epN l) (nxN l) (epN l))),.bool (aH l)])∧n=(qlN l).length∧oH (w.heap.size+1) w' (.slice qo n c) (qlN l)∧Bw w w':=by
 obtain ⟨hb,⟨ho,rfl⟩ | ⟨ho,v,rfl,Hq⟩⟩:=h
 ·refine ⟨none,0,0,?_,?_,?_,hb⟩
  ·simp [qlN,epN,nxN,ho]
  ·simp [qlN,ho]
  ·simp only [qlN,ho];exact aE2 _ _
 ·obtain ⟨qo,qc,rfl,_⟩:=nA Hq
  refine ⟨qo,l.length,qc,?_,?_,?_,hb⟩
  ·simp [qlN,epN,nxN,ho]
  ·simp [qlN,ho]
  ·simp only [qlN,ho];exact Hq
def aHq (w:World) (qo:Option Addr) (n:Nat):Prop:=(n=0∨∃g,qo=some ⟨g,0,none⟩)∧gJ w qo n (aJO n)
theorem aHq.below (h:aHq w qo n) (hb:Bw w w'):aHq w' qo n:=⟨h.1,h.2.below hb⟩
theorem aGo {c:Nat} {l:List Q} (ep nx se:Int) (h:oH B w (.slice qo n c) l) (hn:n=l.length):dQ B w (aHu qo n c) (pG l ep nx se) []:=by
 obtain ⟨ao,cap,e,hc,hh⟩:=oH.has h
 cases e
 exact ⟨hh,⟨⟨rfl,.inl rfl⟩,.inl rfl⟩,jI.nil _ _,⟨⟨rfl,.inl rfl⟩,.inl rfl⟩,⟨⟨rfl,.inl rfl⟩,.inl rfl⟩,⟨hc,yJ _,yJ _,yJ _⟩,jW h,.inl rfl,.inl rfl,.inl rfl,fun v hv=>absurd hv (by simp)⟩
def rQ (s:St) (c:Con):List UInt8:=(jA s c.app).1.queue
def onQ (s:St) (q:List UInt8) (c:Con):Bool:=decide (rQ s c=q)
def dB (p:Con→Bool):List Con→Option Nat
 | []=>none
 | c::t=>match dB p t with
  | some i=>some (i+1)
  | none=>if p c=true then some 0 else none
theorem kV {p:Con→Bool}:∀{l:List Con},(∀c ∈ l,p c=false)→dB p l=none
 | [],_=>rfl
 | c::t,h=>by
  rw [dB,kV (fun x hx=>h x (List.mem_cons_of_mem _ hx))]
  simp [h c List.mem_cons_self]
theorem rZ {p:Con→Bool}:∀{l:List Con} {i:Nat} (h:i<l.length),p l[i]=true→(∀j (hj:j<l.length),i<j→p l[j]=false)→dB p l=some i
 | [],i,h,_,_=>by simp at h
 | c::t,0,h,h1,h2=>by
  have:dB p t=none:=kV (fun x hx=>by
   obtain ⟨j,hj,rfl⟩:=List.mem_iff_getElem.1 hx
   have:=h2 (j+1) (by simpa using hj) (by omega)
   simpa using this)
  rw [dB,this]
  simp only [List.getElem_cons_zero] at h1
  simp [h1]
 | c::t,i+1,h,h1,h2=>by
  rw [dB,rZ (l:=t) (i:=i) (by simpa using h) (by simpa using h1) (fun j hj hij=>by have:=h2 (j+1) (by simpa using hj) (by omega);simpa using this)]
theorem r9 {p:Con→Bool}:∀{l:List Con} {i:Nat},dB p l=some i→∃h:i<l.length,p l[i]=true
 | [],i,h=>by simp [dB] at h
 | c::t,i,h=>by
  rw [dB] at h
  cases ht:dB p t with
  | some j=>
   rw [ht] at h
   obtain rfl:=Option.some.inj h
   obtain ⟨hj,hp⟩:=r9 ht
   exact ⟨by simpa using hj,by simpa using hp⟩
  | none=>
   rw [ht] at h
   simp only at h
   split at h
   ·obtain rfl:=Option.some.inj h
    rename_i hp
    exact ⟨by simp,by simpa using hp⟩
   ·cases h
theorem uL {p:Con→Bool} (h:∃c ∈ l,p c=true):dB p l≠none:=by
 induction l with
 | nil=>obtain ⟨c,hc,_⟩:=h;cases hc
 | cons c t ih=>
  rw [dB]
  cases ht:dB p t with
  | some i=>simp
  | none=>
   obtain ⟨d,hd,hp⟩:=h
   rcases List.mem_cons.1 hd with rfl | hd
   ·simp [hp]
   ·exact absurd ht (ih ⟨d,hd,hp⟩)
def nH (s:St):List (List UInt8)→Option Nat
 | []=>none
 | q::t=>if iM s q=true then (match dB (onQ s q) s.cs with | some i=>some i | none=>nH s t) else nH s t
def rY (s:St):Option Nat:=nH s (gM s).reverse
def aBT (s:St):List (List UInt8)→Option Nat
 | []=>none
 | q::t=>if iM s q=true then dB (onQ s q) s.cs else aBT s t
def plL:Option Nat→Int
 | some i=>(i:Int)
 | none=>-1
theorem aEJ {l:List Q} (h:aH l=true) {nm:List UInt8}:∀(n k:Nat),k≤n→(hk:k<l.length)→nm ∈ aHz l k→nm=l[k].name∨∃j,∃hj:j<l.length,l[j].parent=nm
 | n,k,hn,hk,hm=>by
  rw [aHy h hk] at hm
  rcases List.mem_cons.1 hm with e | hm
  ·exact .inl e
  ·have hp:=iF h hk
   by_cases h0:place l l[k].parent<0
   ·rw [aEI h0] at hm;simp at hm
   ·obtain ⟨p,hpe⟩:=Int.eq_ofNat_of_zero_le (Int.not_lt.1 h0)
    rw [hpe] at hm hp
    cases n with
    | zero=>omega
    | succ n=>
     have hpl:p<l.length:=by omega
     rcases aEJ h n p (by omega) hpl hm with e | e
     ·obtain ⟨_,e2⟩:=aBF hpe
      exact .inr ⟨k,hk,by rw [e,e2]⟩
     ·exact .inr e
theorem aCR {nm:List UInt8}:∀{l:List Q},vL nm l=true→∀q ∈ l,q.parent≠nm
 | [],_,q,hq=>by cases hq
 | x::t,h,q,hq=>by
  rw [vL] at h
  simp only [yK,yL] at h
  rcases List.mem_cons.1 hq with rfl | hq
  ·exact h.1
  ·exact aCR h.2 q hq
theorem aJj (hl:oI s.qs nm=true) (h:byQ s nm c=true):rQ s c=nm:=by
 simp only [oI,yK,yL] at hl
 obtain ⟨hk,ho,_⟩:=hl
 unfold byQ at h
 unfold rQ jA
 cases hf:bH c.app s.apps with
 | none=>rw [hf] at h;cases h
 | some a=>
  rw [hf] at h
  simp only at h ⊢
  rw [List.any_eq_true] at h
  obtain ⟨x,hx,e⟩:=h
  simp only [yL] at e
  subst e
  rw [path,if_pos ho] at hx
  by_cases h0:place s.qs a.queue<0
  ·rw [show dZ s.qs (s.qs.length+1) (place s.qs a.queue)=[] from aEI h0] at hx
   cases hx
  ·obtain ⟨p,hpe⟩:=Int.eq_ofNat_of_zero_le (Int.not_lt.1 h0)
   obtain ⟨hp,e2⟩:=aBF hpe
   rw [hpe] at hx
   rcases aEJ ho p p (yJ _) hp hx with e3 | ⟨j,hj,e3⟩
   ·rw [e3,e2]
   ·exact absurd e3 (aCR hk _ (yM hj))
theorem aE7 (h:iM s q=true):∃c ∈ s.cs,onQ s q c=true:=by
 simp only [iM,yK,Bool.not_eq_true'] at h
 obtain ⟨hl,hw⟩:=h
 have hd:=aCj s q
 have hu:=wK s q
 by_cases he:∃c ∈ s.cs,byQ s q c=true
 ·obtain ⟨c,hc,hb⟩:=he
  exact ⟨c,hc,decide_eq_true (aJj hl hb)⟩
 ·exfalso
  have hn:aV (byQ s q) s.cs=[]:=by
   unfold aV
   rw [List.map_eq_nil_iff,List.filter_eq_nil_iff]
   exact fun c hc hb=>he ⟨c,hc,hb⟩
  have hz:aL s q=(0,0):=by unfold aL;rw [hn];rfl
  rw [hz] at hw
  have hb:=aO hd
  have:within 0 0 (iO s q).1 (iO s q).2=true:=by
   simp only [within,yK,yL]
   exact ⟨⟨⟨by decide,hd⟩,by omega⟩,by omega⟩
  rw [this] at hw
  cases hw
theorem aEg (s:St):∀l,aBT s l=nH s l
 | []=>rfl
 | q::t=>by
  rw [aBT,nH,aEg s t]
  split
  ·rename_i h
   cases hi:dB (onQ s q) s.cs with
   | some i=>rfl
   | none=>exact absurd hi (uL (aE7 h))
  ·rfl
theorem aBU {s:St}:∀{l:List (List UInt8)} {i:Nat},nH s l=some i→i<s.cs.length
 | [],i,h=>by cases h
 | q::t,i,h=>by
  rw [nH] at h
  split at h
  ·cases hi:dB (onQ s q) s.cs with
   | some j=>
    rw [hi] at h
    obtain rfl:=Option.some.inj h
    exact (r9 hi).1
   | none=>rw [hi] at h;exact aBU h
  ·exact aBU h
theorem aGd (s:St):(gM s).length≤s.qs.length:=by
 rw [(pF s).length_eq]
 exact iH _
def aZ (s:St) (cs:List Con):St:=⟨s.qs,s.clock,s.epoch,s.next,s.serial,s.apps,s.ms,cs⟩
def aDF (g:Int×Int) (c:Con):Int×Int:=if aP 1 g.1 g.2 c.mem c.cpu=true then (g.1+c.mem,g.2+c.cpu) else (0,0)
def tL (s:St) (lk:Int×Int):Nat→List Con→Int×Int→List Con
 | 0,_,_=>[]
 | n+1,cs,g=>if within lk.1 lk.2 g.1 g.2=true then [] else match rY (aZ s cs) with
  | none=>[]
  | some i=>match cs[i]? with
   | none=>[]
   | some c=>c::tL s lk n (cs.eraseIdx i) (aDF g c)
def aAm (s:St) (q:List UInt8):List Con:=if aW s=true∧(dJ s).any (fun x=>decide (x=q))=true then tL s (sG s q) (s.cs.length+1) s.cs (0,0) else []
def iP (s:St) (q:List UInt8):List Int:=(aAm s q).map (·.id)
theorem rG (h:within lk.1 lk.2 g.1 g.2=true):tL s lk n cs g=[]:=by
 cases n with
 | zero=>rfl
 | succ n=>rw [tL,if_pos h]
theorem aAn (h:rY (aZ s cs)=none):tL s lk n cs g=[]:=by
 cases n with
 | zero=>rfl
 | succ n=>
  rw [tL,h]
  split<;>rfl
theorem vW (h:within lk.1 lk.2 g.1 g.2=false) (hi:rY (aZ s cs)=some i):∃hc:i<cs.length,tL s lk (n+1) cs g=cs[i]::tL s lk n (cs.eraseIdx i) (aDF g cs[i]):=by
 have hc:i<cs.length:=aBU hi
 refine ⟨hc,?_⟩
 rw [tL,if_neg (by simp [h]),hi]
 simp only
 rw [List.getElem?_eq_getElem hc]
theorem dQ.sc {j:Nat} (h:dQ B w x s hs) (hk:k<B):dQ B (w.setCell ⟨k,j,none⟩ v) x s hs:=⟨h.q.sc hk,h.p.sc hk,h.k.sc (.inl hk),h.m.sc hk,h.c.sc hk,h.cap,(h.rm.sc k j v).mono (yJ _) (by rw [dY];exact yJ _)⟩
def aLV (w:World) (s:St) (gone:List Con) (e:Ending) (w':World):Prop:=
 ∃y hs go gn gc,e=.returned (.tuple #[sv y s,.slice go gn gc])∧rA w.heap.size w'.heap.size w' y s hs∧kY w.heap.size w' go gn gone∧(∀k,inR go gn k→¬inR y.ca y.cl k)∧Bw w w'
def aBo (s:St) (ids:List Int):St×List Con:=
 if aW s=true then (⟨s.qs,s.clock,s.epoch,s.next,s.serial,s.apps,s.ms,s.cs.filter (fun q=>!wD q.id ids)⟩,s.cs.filter (fun q=>wD q.id ids)) else (s,[])
theorem aAr (s:St) (ids:List Int):(aW s=true→aBo s ids=(⟨s.qs,s.clock,s.epoch,s.next,s.serial,s.apps,s.ms,s.cs.filter (fun q=>!wD q.id ids)⟩,s.cs.filter (fun q=>wD q.id ids)))∧(aW s=false→aBo s ids=(s,[])):=
 ⟨fun h=>if_pos h,fun h=>if_neg (by simp [h])⟩
theorem aAj {apps:List bN} {ms:List Mac}:∀(cs:List Con) (last:Int),dN apps ms last cs=true→(∀c ∈ cs,last<c.id∧(bH c.app apps).isSome=true∧(bQ c.node ms).isSome=true)∧cs.Pairwise (fun a b=>a.id<b.id)
 | [],last,_=>⟨fun c h=>absurd h (by simp),.nil⟩
 | c::t,last,h=>by
  simp only [dN,yK,yL] at h
  obtain ⟨h1,_,h3,h4,_,h6⟩:=h
  obtain ⟨i1,i2⟩:=aAj t c.id h6
  refine ⟨fun d hd=>?_,List.pairwise_cons.2 ⟨fun d hd=>(i1 d hd).1,i2⟩⟩
  rcases List.mem_cons.1 hd with rfl | hd
  ·exact ⟨h1,h3,h4⟩
  ·exact ⟨by have:=(i1 d hd).1;omega,(i1 d hd).2⟩
theorem aCw {qs:List Q} {nx:Int}:∀(l:List bN) (last:Int),dA qs nx last l=true→(∀a ∈ l,last<a.id)∧l.Pairwise (fun a b=>a.id≠b.id)
 | [],last,_=>⟨fun c h=>absurd h (by simp),.nil⟩
 | a::t,last,h=>by
  simp only [dA,yK,yL] at h
  obtain ⟨h1,_,_,_,h5⟩:=h
  obtain ⟨i1,i2⟩:=aCw t a.id h5
  refine ⟨fun d hd=>?_,List.pairwise_cons.2 ⟨fun d hd=>by have:=i1 d hd;omega,i2⟩⟩
  rcases List.mem_cons.1 hd with rfl | hd
  ·exact h1
  ·have:=i1 d hd;omega
theorem aA2 {ck:Int}:∀(l:List Mac) (last:List UInt8),bA ck last l=true→l.Pairwise (fun a b=>a.name≠b.name)
 | [],last,_=>.nil
 | m::t,last,h=>by
  have h':=h
  simp only [bA,yK,yL] at h
  obtain ⟨_,_,_,_,h5⟩:=h
  refine List.pairwise_cons.2 ⟨fun d hd e=>?_,aA2 t m.name h5⟩
  have:=jD t m.name h5 d hd
  rw [e,zD] at this
  exact absurd this (by simp)
theorem aGg (h:aW s=true):s.cs.Pairwise (fun a b=>a.id<b.id)∧(∀c ∈ s.cs,(bH c.app s.apps).isSome=true∧(bQ c.node s.ms).isSome=true)∧s.apps.Pairwise (fun a b=>a.id≠b.id)∧s.ms.Pairwise (fun a b=>a.name≠b.name):=by
 simp only [aW,gV,yK,gI,iW] at h
 obtain ⟨_,_,_,_,_,⟨_,h6⟩,⟨h7,_⟩,_,h9⟩:=h
 obtain ⟨c1,c2⟩:=aAj _ _ h9
 exact ⟨c2,fun c hc=>(c1 c hc).2,(aCw _ _ h6).2,aA2 _ _ ((kL _ _).1 h7).1⟩
def aLb (p:Con→Bool) (cs:List Con):List Int:=(cs.filter p).map (fun c=>c.id)
def sm (f:α→Int) (l:List α):Int:=(l.map f).sum
theorem aKR (f:α→Int):sm f []=0:=rfl
theorem iR (f:α→Int) (a:α) (t:List α):sm f (a::t)=f a+sm f t:=by simp [sm]
theorem mW {α:Type} {f:α→Int}:∀{l:List α},(∀a ∈ l,0≤f a)→0≤sm f l
 | [],_=>Int.le_refl _
 | a::t,h=>by
  rw [iR]
  have:=h a (by simp)
  have:=mW (f:=f) (l:=t) (fun x hx=>h x (by simp [hx]))
  omega
theorem aDT {α:Type} {f g:α→Int}:∀{l:List α},(∀a ∈ l,f a≤g a)→sm f l≤sm g l
 | [],_=>Int.le_refl _
 | a::t,h=>by
  rw [iR,iR]
  have:=h a (by simp)
  have:=aDT (f:=f) (g:=g) (l:=t) (fun x hx=>h x (by simp [hx]))
  omega
theorem aGT:∀(l:List (Int×Int)) (x y:Int),(aS l x y).2.2=true→aS l x y=(x+sm (fun r=>r.1) l,y+sm (fun r=>r.2) l,true)
 | [],x,y,_=>by simp [aS,sm]
 | r::t,x,y,h=>by
  rw [aS] at h ⊢
  by_cases hb:aP 1 x y r.1 r.2=true
  ·rw [if_pos hb] at h ⊢
   rw [aGT t _ _ h,iR,iR]
   simp only [Prod.mk.injEq,and_true]
   constructor<;>omega
  ·rw [if_neg hb] at h;cases h
theorem aES:∀(l:List (Int×Int)) (x y:Int),aM x y=true→(∀r ∈ l,aM r.1 r.2=true)→x+sm (fun r=>r.1) l≤1000000000→y+sm (fun r=>r.2) l≤1000000000→aS l x y=(x+sm (fun r=>r.1) l,y+sm (fun r=>r.2) l,true)
 | [],x,y,_,_,_,_=>by simp [aS,sm]
 | r::t,x,y,h,hr,h1,h2=>by
  have b:=aO h
  have hrr:=hr r (by simp)
  have c:=aO hrr
  have n1:0≤sm (fun r:Int×Int=>r.1) t:=mW (fun a ha=>(aO (hr a (by simp [ha]))).1)
  have n2:0≤sm (fun r:Int×Int=>r.2) t:=mW (fun a ha=>(aO (hr a (by simp [ha]))).2.2.1)
  rw [iR] at h1 h2
  have ho:aM (x+1*r.1) (y+1*r.2)=true:=by simp only [aM,inB,yK,yL];omega
  have hb:aP 1 x y r.1 r.2=true:=by simp only [aP,h,hrr,ho,Bool.and_self]
  rw [aS,if_pos hb,aES t _ _ ho (fun a ha=>hr a (by simp [ha])) (by omega) (by omega),iR,iR]
  simp only [Prod.mk.injEq,and_true]
  constructor<;>omega
def fF (f:Con→Int) (p:Con→Bool) (l:List Con):Int:=sm f (l.filter p)
theorem sK (f:Con→Int) (p:Con→Bool) (c:Con) (t:List Con):fF f p (c::t)=(if p c=true then f c else 0)+fF f p t:=by
 unfold fF
 by_cases hp:p c=true
 ·rw [List.filter_cons_of_pos hp,iR,if_pos hp]
 ·rw [List.filter_cons_of_neg hp,if_neg hp];omega
theorem aJv {f:Con→Int} {p r:Con→Bool}:∀{l:List Con},(∀c ∈ l,0≤f c)→(∀c ∈ l,p c=true→r c=true)→fF f p l≤fF f r l
 | [],_,_=>Int.le_refl _
 | c::t,h,hi=>by
  rw [sK,sK]
  have h1:=h c (by simp)
  have h2:=hi c (by simp)
  have:=aJv (f:=f) (p:=p) (r:=r) (l:=t) (fun x hx=>h x (by simp [hx])) (fun x hx=>hi x (by simp [hx]))
  cases hp:p c<;>cases hr:r c<;>simp_all<;>omega
theorem aKl (f:Con→Int) (l:List Con):fF f (fun _=>true) l=sm f l:=by
 unfold fF;rw [List.filter_eq_self.2 (fun _ _=>rfl)]
theorem rH (p:Con→Bool) (l:List Con):sm (fun r=>r.1) (aV p l)=fF (fun c=>c.mem) p l∧sm (fun r=>r.2) (aV p l)=fF (fun c=>c.cpu) p l:=by
 unfold aV fF sm
 rw [List.map_map,List.map_map]
 exact ⟨rfl,rfl⟩
theorem aGe (f:Con→Int) (c:Con) (t:List Con):∀ms:List Mac,sm (fun m=>fF f (fun q=>decide (q.node=m.name)) (c::t)) ms=sm (fun m=>fF f (fun q=>decide (q.node=m.name)) t) ms+sm (fun m=>if c.node=m.name then f c else 0) ms
 | []=>rfl
 | m::r=>by
  rw [iR,iR,iR,aGe f c t r,sK]
  by_cases h:c.node=m.name
  ·simp only [h,decide_true,if_true];omega
  ·simp only [h,decide_false,if_false,Bool.false_eq_true];omega
theorem aJQ {c:Con} {v:Int} (h0:0≤v):∀{ms:List Mac},(∃m ∈ ms,m.name=c.node)→v≤sm (fun m=>if c.node=m.name then v else 0) ms
 | [],h=>by obtain ⟨m,hm,_⟩:=h;simp at hm
 | m::r,h=>by
  rw [iR]
  have hn:0≤sm (fun m=>if c.node=m.name then v else 0) r:=mW (fun a _=>by split<;>omega)
  by_cases he:c.node=m.name
  ·rw [if_pos he];omega
  ·rw [if_neg he]
   obtain ⟨x,hx,e⟩:=h
   have:=aJQ (c:=c) h0 (ms:=r) ⟨x,(List.mem_cons.1 hx).resolve_left (fun e'=>he (by rw [←e',e])),e⟩
   omega
theorem aHm {f:Con→Int} {ms:List Mac}:∀{cs:List Con},(∀c ∈ cs,0≤f c∧∃m ∈ ms,m.name=c.node)→sm f cs≤sm (fun m=>fF f (fun q=>decide (q.node=m.name)) cs) ms
 | [],_=>by rw [aKR];exact mW (fun a _=>Int.le_refl _)
 | c::t,h=>by
  rw [iR,aGe]
  have h1:=h c (by simp)
  have:=aJQ (c:=c) h1.1 h1.2
  have:=aHm (f:=f) (ms:=ms) (cs:=t) (fun x hx=>h x (by simp [hx]))
  omega
theorem aCo {apps:List bN} {ms:List Mac}:∀(l:List Con) (last:Int),dN apps ms last l=true→∀c ∈ l,aM c.mem c.cpu=true
 | [],_,_,c,hc=>by simp at hc
 | a::t,last,h,c,hc=>by
  simp only [dN,yK,lZ] at h
  rcases List.mem_cons.1 hc with rfl | hc
  ·exact h.2.2.2.2.1.1
  ·exact aCo t _ h.2.2.2.2.2 c hc
theorem aEo {ms:List Mac} (h:(bQ nm ms).isSome=true):∃m ∈ ms,m.name=nm:=by
 unfold bQ at h
 rw [List.find?_isSome] at h
 obtain ⟨m,hm,e⟩:=h
 exact ⟨m,hm,by simpa using e⟩
theorem aG0 (h:aW s=true):(∀c ∈ s.cs,aM c.mem c.cpu=true)∧sm (fun c=>c.mem) s.cs≤1000000000∧sm (fun c=>c.cpu) s.cs≤1000000000:=by
 have hp:=(aGg h).2.1
 simp only [aW,gV,yK,gI,iW] at h
 obtain ⟨_,_,_,_,_,_,⟨h7,h8,_⟩,_,h9⟩:=h
 have hr:=aCo _ _ h9
 have hh:=((kL _ _).1 h7).2
 have hs:=aGT (aT s.ms) 0 0 h8
 have hk:=aO (aGf (aT s.ms) 0 0 (by decide))
 rw [hs] at hk
 simp only at hk
 have e1:sm (fun r:Int×Int=>r.1) (aT s.ms)=sm (fun m:Mac=>m.mem) s.ms:=by unfold sm aT;rw [List.map_map];rfl
 have e2:sm (fun r:Int×Int=>r.2) (aT s.ms)=sm (fun m:Mac=>m.cpu) s.ms:=by unfold sm aT;rw [List.map_map];rfl
 rw [e1,e2] at hk
 have hm:∀m ∈ s.ms,fF (fun c=>c.mem) (fun q=>decide (q.node=m.name)) s.cs≤m.mem∧fF (fun c=>c.cpu) (fun q=>decide (q.node=m.name)) s.cs≤m.cpu:=fun m hm=>by
  have h1:=hh m hm
  simp only [vS,yK,iL] at h1
  obtain ⟨_,h2,h3⟩:=h1
  rw [aGT _ _ _ h2,(rH _ _).1,(rH _ _).2] at h3
  simp only [within,yK,yL] at h3
  omega
 have a1:=aHm (f:=fun c=>c.mem) (ms:=s.ms) (cs:=s.cs) (fun c hc=>⟨(aO (hr c hc)).1,aEo (hp c hc).2⟩)
 have a2:=aHm (f:=fun c=>c.cpu) (ms:=s.ms) (cs:=s.cs) (fun c hc=>⟨(aO (hr c hc)).2.2.1,aEo (hp c hc).2⟩)
 have b1:sm (fun m:Mac=>fF (fun c=>c.mem) (fun q=>decide (q.node=m.name)) s.cs) s.ms≤sm (fun m:Mac=>m.mem) s.ms:=aDT (fun m hm'=>(hm m hm').1)
 have b2:sm (fun m:Mac=>fF (fun c=>c.cpu) (fun q=>decide (q.node=m.name)) s.cs) s.ms≤sm (fun m:Mac=>m.cpu) s.ms:=aDT (fun m hm'=>(hm m hm').2)
 exact ⟨hr,Int.le_trans (Int.le_trans a1 b1) (by omega),Int.le_trans (Int.le_trans a2 b2) (by omega)⟩
theorem aGL (h:aW s=true) (p:Con→Bool):iL (aV p s.cs)=(fF (fun c=>c.mem) p s.cs,fF (fun c=>c.cpu) p s.cs,true)∧aM (fF (fun c=>c.mem) p s.cs) (fF (fun c=>c.cpu) p s.cs)=true:=by
 obtain ⟨hr,h1,h2⟩:=aG0 h
 have l1:=aJv (f:=fun c=>c.mem) (p:=p) (r:=fun _=>true) (l:=s.cs) (fun c hc=>(aO (hr c hc)).1) (fun _ _ _=>rfl)
 have l2:=aJv (f:=fun c=>c.cpu) (p:=p) (r:=fun _=>true) (l:=s.cs) (fun c hc=>(aO (hr c hc)).2.2.1) (fun _ _ _=>rfl)
 rw [aKl] at l1 l2
 have g:=aES (aV p s.cs) 0 0 (by decide) (fun r hr'=>by
  unfold aV at hr'
  obtain ⟨c,hc,rfl⟩:=List.mem_map.1 hr'
  exact hr c (List.mem_filter.1 hc).1) (by rw [(rH _ _).1];omega) (by rw [(rH _ _).2];omega)
 rw [(rH _ _).1,(rH _ _).2,Int.zero_add,Int.zero_add] at g
 refine ⟨g,?_⟩
 have:=aGf (aV p s.cs) 0 0 (by decide)
 rw [g] at this
 exact this
theorem aBc {qs:List Q} {nx:Int} (p:bN→Bool):∀(l:List bN) (last last':Int),last'≤last→dA qs nx last l=true→dA qs nx last' (l.filter p)=true
 | [],_,_,_,_=>rfl
 | a::t,last,last',hl,h=>by
  simp only [dA,yK,yL] at h
  obtain ⟨h1,h2,h3,h4,h5⟩:=h
  by_cases hp:p a=true
  ·rw [List.filter_cons_of_pos hp]
   simp only [dA,yK,yL]
   exact ⟨by omega,h2,h3,h4,aBc p t a.id a.id (Int.le_refl _) h5⟩
  ·rw [List.filter_cons_of_neg hp]
   exact aBc p t a.id last' (by omega) h5
theorem yX {apps apps':List bN} {ms ms':List Mac} (p:Con→Bool):∀(l:List Con) (last last':Int),last'≤last→(∀c ∈ l,p c=true→(bH c.app apps').isSome=true∧(bQ c.node ms').isSome=true)→dN apps ms last l=true→dN apps' ms' last' (l.filter p)=true
 | [],_,_,_,_,_=>rfl
 | a::t,last,last',hl,hk,h=>by
  simp only [dN,yK,yL] at h
  obtain ⟨h1,h2,h3,h4,h5,h6⟩:=h
  have hk':∀c ∈ t,p c=true→(bH c.app apps').isSome=true∧(bQ c.node ms').isSome=true:=fun c hc=>hk c (by simp [hc])
  by_cases hp:p a=true
  ·rw [List.filter_cons_of_pos hp]
   simp only [dN,yK,yL]
   exact ⟨by omega,h2,(hk a (by simp) hp).1,(hk a (by simp) hp).2,h5,yX p t a.id a.id (Int.le_refl _) hk' h6⟩
  ·rw [List.filter_cons_of_neg hp]
   exact yX p t a.id last' (by omega) hk' h6
theorem xJ {ck:Int} (p:Mac→Bool):∀(l:List Mac) (last last':List UInt8),(∀m ∈ l,Op.bytesLess (bs last').toList (bs m.name).toList=true)→bA ck last l=true→bA ck last' (l.filter p)=true
 | [],_,_,_,_=>rfl
 | a::t,last,last',hl,h=>by
  have hab:=jD (a::t) last h
  simp only [bA,yK,yL] at h
  obtain ⟨h1,h2,h3,h4,h5⟩:=h
  have ht:=jD t a.name h5
  by_cases hp:p a=true
  ·rw [List.filter_cons_of_pos hp]
   simp only [bA,yK,yL]
   refine ⟨?_,h2,h3,h4,xJ p t a.name a.name ht h5⟩
   have h6:=hl a (by simp)
   have h7:leT a.name last'=false:=by
    unfold leT
    rw [Bool.or_eq_false_iff]
    refine ⟨?_,?_⟩
    ·cases h8:Op.bytesLess (bs a.name).toList (bs last').toList with
     | false=>rfl
     | true=>have:=qX _ _ _ h6 h8;rw [zD] at this;cases this
    ·cases h8:((bs a.name).toList==(bs last').toList) with
     | false=>rfl
     | true=>rw [eq_of_beq h8,zD] at h6;cases h6
   rw [h7];rfl
  ·rw [List.filter_cons_of_neg hp]
   exact xJ p t a.name last' (fun m hm=>hl m (by simp [hm])) h5
theorem aAu:∀{l m:List (Int×Int)},m.Sublist l→∀(x y x' y':Int),aM x' y'=true→x'≤x→y'≤y→(aS l x y).2.2=true→(aS m x' y').2.2=true∧(aS m x' y').1≤(aS l x y).1∧(aS m x' y').2.1≤(aS l x y).2.1
 | _,_,.slnil,x,y,x',y',hr,hx,hy,h=>⟨rfl,hx,hy⟩
 | r::l,m,.cons _ hs,x,y,x',y',hr,hx,hy,h=>by
  rw [aS] at h ⊢
  by_cases hb:aP 1 x y r.1 r.2=true
  ·rw [if_pos hb] at h ⊢
   simp only [aP,yK] at hb
   have b1:=aO hb.1.2
   exact aAu hs (x+1*r.1) (y+1*r.2) x' y' hr (by omega) (by omega) h
  ·rw [if_neg hb] at h;cases h
 | r::l,_::m,.cons_cons _ hs,x,y,x',y',hr,hx,hy,h=>by
  rw [aS] at h
  by_cases hb:aP 1 x y r.1 r.2=true
  ·rw [if_pos hb] at h
   have hbb:=hb
   simp only [aP,yK] at hb
   have b1:=aO hb.1.2
   have b2:=aO hb.2
   have b3:=aO hr
   have hr2:aM (x'+1*r.1) (y'+1*r.2)=true:=by simp only [aM,inB,yK,yL];omega
   have hb':aP 1 x' y' r.1 r.2=true:=by simp only [aP,hr,hb.1.2,hr2,Bool.and_self]
   rw [aS,aS,if_pos hbb,if_pos hb']
   exact aAu hs (x+1*r.1) (y+1*r.2) (x'+1*r.1) (y'+1*r.2) hr2 (by omega) (by omega) h
  ·rw [if_neg hb] at h;cases h
theorem aIh {cs':List Con} (hs:cs'.Sublist cs) (h:vS cs m=true):vS cs' m=true:=by
 have hu:(aV (fun q=>decide (q.node=m.name)) cs').Sublist (aV (fun q=>decide (q.node=m.name)) cs):=(hs.filter _).map _
 simp only [vS,yK,iL] at h ⊢
 obtain ⟨h1,h2,h3⟩:=h
 obtain ⟨k1,k2,k3⟩:=aAu hu 0 0 0 0 (by decide) (Int.le_refl _) (Int.le_refl _) h2
 simp only [within,yK,yL] at h3 ⊢
 exact ⟨h1,k1,⟨⟨aGf _ _ _ (by decide),h3.1.1.2⟩,by omega⟩,by omega⟩
theorem aKP (h:aW s=true) (pa:bN→Bool) (pm:Mac→Bool) (pc:Con→Bool) (hk:∀c ∈ s.cs,pc c=true→(bH c.app (s.apps.filter pa)).isSome=true∧(bQ c.node (s.ms.filter pm)).isSome=true) :
  aW ⟨s.qs,s.clock,s.epoch,s.next,s.serial,s.apps.filter pa,s.ms.filter pm,s.cs.filter pc⟩=true:=by
 simp only [aW,gV,yK,gI,iW,yL] at h ⊢
 obtain ⟨h1,h2,h3,h4,h5,⟨h6,h7⟩,⟨h8,h9,h10⟩,h11,h12⟩:=h
 obtain ⟨m1,m2⟩:=(kL _ _).1 h8
 refine ⟨h1,h2,h3,h4,h5,⟨Nat.le_trans (List.length_filter_le _ _) h6,aBc pa _ 0 0 (Int.le_refl _) h7⟩,⟨(kL _ _).2 ⟨xJ pm _ [] [] (jD _ _ m1) m1,fun m hm=>aIh List.filter_sublist (m2 m (List.mem_filter.1 hm).1)⟩,?_,Nat.le_trans (List.length_filter_le _ _) h10⟩,Nat.le_trans (List.length_filter_le _ _) h11,yX pc _ 0 0 (Int.le_refl _) hk h12⟩
 exact (aAu (List.filter_sublist.map _) 0 0 0 0 (by decide) (Int.le_refl _) (Int.le_refl _) h9).1
theorem qR (l:List α):l.filter (fun _=>true)=l:=List.filter_eq_self.2 (fun _ _=>rfl)
theorem aJ1 (h:aW s=true) (ids:List Int):aW (aBo s ids).1=true:=by
 rw [(aAr s ids).1 h]
 have:=aKP h (fun _=>true) (fun _=>true) (fun q=>!wD q.id ids) (fun c hc _=>by rw [qR,qR];exact (aGg h).2.1 c hc)
 rwa [qR,qR] at this
theorem yY {apps:List bN} {ms:List Mac}:∀(cs:List Con) (last:Int),dN apps ms last cs=true→∀c ∈ cs,last<c.id
 | [],_,_,_,h=>by cases h
 | c::t,last,h,c',hc=>by
  rw [dN] at h
  simp only [yK,yL] at h
  rcases List.mem_cons.1 hc with rfl | hc
  ·exact h.1
  ·have:=yY t c.id h.2.2.2.2.2 c' hc
   omega
theorem aCq {apps:List bN} {ms:List Mac}:∀(cs:List Con) (last:Int),dN apps ms last cs=true→aLZ cs
 | [],_,_=>fun i j hi=>absurd hi (by simp)
 | c::t,last,h=>by
  rw [dN] at h
  simp only [yK,yL] at h
  have h1:=yY t c.id h.2.2.2.2.2
  have h2:=aCq t c.id h.2.2.2.2.2
  intro i j hi hj hij
  match i,j with
  | _,0=>omega
  | 0,j+1=>
   simp only [List.getElem_cons_zero,List.getElem_cons_succ]
   exact h1 _ (yM _)
  | i+1,j+1=>
   simp only [List.getElem_cons_succ]
   exact h2 i j (by simpa using hi) (by simpa using hj) (by omega)
theorem aKZ (h:aW s=true):aLZ s.cs∧(0≤s.epoch∧s.epoch≤1000000000)∧(0≤s.serial∧s.serial≤1000000000):=by
 rw [aW,gV] at h
 simp only [yK,inB,yL] at h
 exact ⟨aCq _ _ h.2.2.2.2.2.2.2.2,by omega,by omega⟩
theorem aEq {f:Con→Int} {p:Con→Bool}:∀{m l:List Con},m.Sublist l→(∀c ∈ l,0≤f c)→fF f p m≤fF f p l
 | _,_,.slnil,_=>Int.le_refl _
 | m,c::l,.cons _ h,h0=>by
  have:=aEq (p:=p) h (fun x hx=>h0 x (List.mem_cons_of_mem _ hx))
  have h1:=h0 c List.mem_cons_self
  rw [sK]
  split<;>omega
 | _::m,c::l,.cons_cons _ h,h0=>by
  have:=aEq (p:=p) h (fun x hx=>h0 x (List.mem_cons_of_mem _ hx))
  rw [sK,sK]
  omega
theorem aGc (h:aW s=true) (hL:aW (aZ s L)=true) (hs:L.Sublist s.cs) (hn:within (aL s q).1 (aL s q).2 (iO s q).1 (iO s q).2=true):iM (aZ s L) q=false:=by
 have h1:aL (aZ s L) q=(fF (fun c=>c.mem) (byQ s q) L,fF (fun c=>c.cpu) (byQ s q) L):=by
  have:=(aGL hL (byQ (aZ s L) q)).1
  unfold aL
  rw [this]
  rfl
 have h2:aL s q=(fF (fun c=>c.mem) (byQ s q) s.cs,fF (fun c=>c.cpu) (byQ s q) s.cs):=by
  have:=(aGL h (byQ s q)).1
  unfold aL
  rw [this]
 have hr:=(aG0 h).1
 have l1:=aEq (f:=fun c=>c.mem) (p:=byQ s q) hs (fun c hc=>(aO (hr c hc)).1)
 have l2:=aEq (f:=fun c=>c.cpu) (p:=byQ s q) hs (fun c hc=>(aO (hr c hc)).2.2.1)
 have hu:=wK (aZ s L) q
 have hd:iO (aZ s L) q=iO s q:=rfl
 have hd2:=aCj s q
 unfold iM
 rw [hd]
 rw [h1] at hu ⊢
 rw [h2] at hn
 simp only [within,yK,yL] at hn
 simp only at hu
 have:within (fF (fun c=>c.mem) (byQ s q) L) (fF (fun c=>c.cpu) (byQ s q) L) (iO s q).1 (iO s q).2=true:=by
  simp only [within,yK,yL]
  exact ⟨⟨⟨hu,hd2⟩,by omega⟩,by omega⟩
 simp only [this,Bool.not_true,Bool.and_false]
theorem aFH (h:(dJ s).any (fun x=>decide (x=q))=true):within (aL s q).1 (aL s q).2 (iO s q).1 (iO s q).2=true:=by
 rw [List.any_eq_true] at h
 obtain ⟨x,hx,e⟩:=h
 simp only [yL] at e
 subst e
 have h1:=(List.mergeSort_perm _ _).mem_iff.1 hx
 have h2:=(List.mem_filter.1 h1).2
 simp only [lC,yK] at h2
 exact h2.2.1
theorem aEp:∀(L:List Con) (i:Nat) (hi:i<L.length),aLZ L→L.filter (fun c=>!wD c.id [L[i].id])=L.eraseIdx i∧L.filter (fun c=>wD c.id [L[i].id])=[L[i]]
 | [],i,hi,_=>absurd hi (by simp)
 | c::t,0,hi,h=>by
  have hne:∀x ∈ t,wD x.id [c.id]=false:=fun x hx=>by
   obtain ⟨j,hj,rfl⟩:=List.getElem_of_mem hx
   have:=h 0 (j+1) (by simp) (by simpa using hj) (by omega)
   simp only [List.getElem_cons_zero,List.getElem_cons_succ] at this
   simp only [wD,Bool.or_false,decide_eq_false_iff_not]
   omega
  have h0:wD c.id [c.id]=true:=by simp [wD]
  simp only [List.getElem_cons_zero,List.eraseIdx_zero,List.tail_cons]
  refine ⟨?_,?_⟩
  ·rw [List.filter_cons_of_neg (p:=fun x:Con=>!wD x.id [c.id]) (by simp [h0]),List.filter_eq_self.2 (fun x hx=>by rw [hne x hx];rfl)]
  ·rw [List.filter_cons_of_pos (p:=fun x:Con=>wD x.id [c.id]) (a:=c) h0,List.filter_eq_nil_iff.2 (fun x hx=>by rw [hne x hx];simp)]
 | c::t,i+1,hi,h=>by
  have hi':i<t.length:=by simpa using hi
  obtain ⟨h1,h2⟩:=aEp t i hi' (fun a b ha hb hab=>by
   have:=h (a+1) (b+1) (by simpa using ha) (by simpa using hb) (by omega)
   simpa using this)
  have hc:wD c.id [t[i].id]=false:=by
   have:=h 0 (i+1) (by simp) hi (by omega)
   simp only [List.getElem_cons_zero,List.getElem_cons_succ] at this
   simp only [wD,Bool.or_false,decide_eq_false_iff_not]
   omega
  simp only [List.getElem_cons_succ,List.eraseIdx_cons_succ]
  refine ⟨?_,?_⟩
  ·rw [List.filter_cons_of_pos (by simp [hc]),h1]
  ·rw [List.filter_cons_of_neg (by simp [hc]),h2]
theorem aEQ (h:aW (aZ s L)=true) (hi:i<L.length):aBo (aZ s L) [L[i].id]=(aZ s (L.eraseIdx i),[L[i]]):=by
 obtain ⟨h1,h2⟩:=aEp L i hi (aKZ h).1
 rw [(aAr _ _).1 h]
 show ((⟨s.qs,s.clock,s.epoch,s.next,s.serial,s.apps,s.ms,L.filter (fun q=>!wD q.id [L[i].id])⟩:St),L.filter (fun q=>wD q.id [L[i].id]))=_
 rw [h1,h2]
 rfl
theorem xM {s:St}:∀{l:List (List UInt8)} {i:Nat},nH s l=some i→∃hi:i<s.cs.length,iM s (rQ s s.cs[i])=true
 | [],i,h=>by cases h
 | q::t,i,h=>by
  rw [nH] at h
  split at h
  ·rename_i ho
   cases hj:dB (onQ s q) s.cs with
   | some j=>
    rw [hj] at h
    obtain rfl:=Option.some.inj h
    obtain ⟨hi,hq⟩:=r9 hj
    refine ⟨hi,?_⟩
    simp only [onQ,yL] at hq
    rw [hq]
    exact ho
   | none=>rw [hj] at h;exact xM h
  ·exact xM h
theorem aC2 {s:St}:∀{l:List (List UInt8)},nH s l=none→∀q ∈ l,iM s q=false
 | [],_,q,hq=>by cases hq
 | x::t,h,q,hq=>by
  rw [nH] at h
  cases ho:iM s x
  ·rw [if_neg (by simp [ho])] at h
   rcases List.mem_cons.1 hq with rfl | hq
   ·exact ho
   ·exact aC2 h q hq
  ·rw [if_pos ho] at h
   cases hj:dB (onQ s x) s.cs with
   | some j=>rw [hj] at h;cases h
   | none=>exact absurd hj (uL (aE7 ho))
theorem aIA {t:List Con} (h:tL s lk n L g=c::t):within lk.1 lk.2 g.1 g.2=false∧∃i,∃hi:i<L.length,c=L[i]∧iM (aZ s L) (rQ (aZ s L) c)=true∧∃k,n=k+1∧t=tL s lk k (L.eraseIdx i) (aDF g c):=by
 cases n with
 | zero=>cases h
 | succ n=>
  cases hw:within lk.1 lk.2 g.1 g.2
  ·refine ⟨rfl,?_⟩
   cases hl:rY (aZ s L) with
   | none=>rw [aAn hl] at h;cases h
   | some i=>
    obtain ⟨hc,e⟩:=vW (n:=n) (g:=g) (lk:=lk) hw hl
    rw [e] at h
    obtain ⟨rfl,rfl⟩:=List.cons.inj h
    obtain ⟨_,ho⟩:=xM hl
    exact ⟨i,hc,rfl,ho,n,rfl,rfl⟩
  ·rw [rG hw] at h;cases h
theorem aIC (hn:0<n) (h:tL s lk n L g=[]):within lk.1 lk.2 g.1 g.2=true∨∀q,iM (aZ s L) q=false:=by
 obtain ⟨k,rfl⟩:∃k,n=k+1:=⟨n - 1,by omega⟩
 cases hw:within lk.1 lk.2 g.1 g.2
 ·right
  intro q
  cases hl:rY (aZ s L) with
  | some i=>
   obtain ⟨hc,e⟩:=vW (n:=k) (g:=g) (lk:=lk) hw hl
   rw [e] at h
   cases h
  | none=>
   cases ho:iM (aZ s L) q
   ·rfl
   ·have hlf:oI s.qs q=true:=by
     simp only [iM,yK] at ho
     exact ho.1
    have hm:q ∈ dG s.qs:=by
     unfold dG
     refine List.mem_filter.2 ⟨?_,hlf⟩
     simp only [oI,yK,yL] at hlf
     obtain ⟨p,hp⟩:=Int.eq_ofNat_of_zero_le hlf.2.2
     obtain ⟨hj,e⟩:=aBF hp
     exact List.mem_map.2 ⟨s.qs[p],yM hj,e⟩
    have:=aC2 hl q (List.mem_reverse.2 ((pF (aZ s L)).mem_iff.2 hm))
    rw [this] at ho
    cases ho
 ·exact .inl rfl
theorem aKM (h:aW (aZ s L)=true) (hi:i<L.length):aW (aZ s (L.eraseIdx i))=true:=by
 have:=aJ1 h [L[i].id]
 rwa [aEQ h hi] at this
structure aGC (s:St) (lk:Int×Int) (n:Nat) (L G:List Con) (g:Int×Int):Prop where
 eq:tL s lk (s.cs.length+1) s.cs (0,0)=G++tL s lk n L g
 len:L.length<n
 sub:∀c ∈ L,c ∈ s.cs
 tot:L.length+G.length=s.cs.length
theorem aGC.start (s:St) (lk:Int×Int):aGC s lk (s.cs.length+1) s.cs [] (0,0):=⟨rfl,Nat.lt_succ_self _,fun _ h=>h,by simp⟩
theorem aGC.enough (h:aGC s lk n L G g) (hw:within lk.1 lk.2 g.1 g.2=true):tL s lk (s.cs.length+1) s.cs (0,0)=G:=by rw [h.eq,rG hw,List.append_nil]
theorem aGC.over (h:aGC s lk n L G g) (hw:rY (aZ s L)=none):tL s lk (s.cs.length+1) s.cs (0,0)=G:=by rw [h.eq,aAn hw,List.append_nil]
theorem aGC.step (h:aGC s lk n L G g) (hw:within lk.1 lk.2 g.1 g.2=false) (hi:rY (aZ s L)=some i):∃hc:i<L.length,aGC s lk (n - 1) (L.eraseIdx i) (G++[L[i]]) (aDF g L[i]):=by
 obtain ⟨m,rfl⟩:∃m,n=m+1:=⟨n - 1,by have:=h.len;omega⟩
 obtain ⟨hc,he⟩:=vW (n:=m) hw hi
 refine ⟨hc,?_,?_,fun c hm=>h.sub c (List.mem_of_mem_eraseIdx hm),?_⟩
 ·rw [h.eq,he,List.append_assoc];rfl
 ·rw [List.length_eraseIdx_of_lt hc];have:=h.len;omega
 ·rw [List.length_eraseIdx_of_lt hc,List.length_append];have:=h.tot;simp;omega
theorem aGU (s:St):(dJ s).length≤s.qs.length:=by
 rw [dJ,List.length_mergeSort]
 exact Nat.le_trans (List.length_filter_le _ _) (iH _)
theorem aEG (h:aAF s) (hs:∀c ∈ L,c ∈ s.cs):aAF (aZ s L):=⟨h.1,fun c hc=>h.2 c (hs c hc)⟩
theorem yQ (h:dI s) (hl:L.length≤s.cs.length) (hs:∀c ∈ L,c ∈ s.cs):dI (aZ s L):=by
 refine ⟨h.1,h.2.1,h.2.2.1,⟨Nat.le_trans hl h.2.2.2.1,fun c hc=>h.2.2.2.2 c (hs c hc)⟩⟩
theorem aFM {ca:Option Addr} {cc:Nat} (h:gU w x s) (hb:Bw w w') (hr:bG w' ca L.length L):gU w' ⟨x.qa,x.ql,x.qc,x.aa,x.al,x.ac,x.ma,x.ml,x.mc,ca,L.length,cc⟩ (aZ s L):=by
 have:=h.below hb
 exact ⟨this.1,this.2.1,this.2.2.1,hr⟩
theorem zJ (a b:Int) (c:Con):kT 1 a b c.mem c.cpu=rv (aDF (a,b) c).1 (aDF (a,b) c).2:=by
 unfold kT aDF
 simp only
 split
 ·rw [Int.one_mul,Int.one_mul]
 ·rfl
def aLM (a:Ask):Ask:=⟨a.mem,a.cpu,a.count - 1,a.node,a.missed⟩
def aDU (l:List Ask) (k:Nat):List Ask:=match l[k]? with
 | none=>l
 | some a=>if 1<a.count then l.set k (aLM a) else l.eraseIdx k
def aJ4 (a:bN) (k:Nat):bN:=⟨a.id,a.queue,aDU a.asks k⟩
def aAz (l:List bN) (r:Nat×Nat):List bN:=l.modify r.1 (fun a=>aJ4 a r.2)
theorem Lay.len {g:Nat} {cs:List Value} (h:Lay w t g M cs):cs.length≤M:=by
 obtain ⟨R,_,h2⟩:=h
 rw [List.length_append] at h2
 omega
theorem aJl {g:Nat} {cs:List Value} (h:Lay w t g M cs) {p:Nat} (hp:p<cs.length) (v:Value):Lay (w.setCell ⟨g,p,none⟩ v) t g M (cs.set p v):=by
 have hl:=h.len
 refine h.cells p [v] (by simp;omega) (cs.set p v) (by rw [List.length_set];exact hl) (fun j u hj=>⟨fun e=>?_,fun e=>?_⟩)
 ·obtain rfl:j=p:=by simp at e;omega
  rw [List.getElem?_set_self hp] at hj
  simpa using hj
 ·rw [List.getElem?_set_ne (by simp at e;omega)] at hj
  exact h.cell hj
theorem aAU:∀(l:List AV) (k:Nat) (h:k<l.length) (ao:Option Addr) (n c:Nat),cB (l.set k ⟨l[k].id,l[k].queue,ao,n,c⟩)=(cB l).set (k*3+2) (.slice ao n c)
 | [],k,h,_,_,_=>by simp at h
 | q::t,0,_,ao,n,c=>by simp [cB,jP]
 | q::t,k+1,h,ao,n,c=>by
  have ih:=aAU t k (by simpa using h) ao n c
  simp only [sC,List.getElem_cons_succ,cB,jP] at ih ⊢
  rw [ih,show (k+1)*3+2=k*3+2+1+1+1 by omega]
  simp
theorem mI.lay (h:mI B w (some ⟨pg,0,none⟩) n hs) (hn:n≠0):∃M,B≤pg∧pg<w.heap.size∧Lay w 48 pg (M*3) (cB hs)∧n≤M∧n=hs.length:=by
 rcases h.2 with e | ⟨g,M,e,h1,h2,h3,h4⟩
 ·exact absurd e hn
 ·cases e
  refine ⟨M,h1,h2,xL h3 (fun j u hj=>by have:=rU h.1 j u hj;rwa [Nat.zero_add] at this) (by rw [gF,←h.1.1];exact Nat.mul_le_mul_right _ h4),h4,h.1.1⟩
theorem Lay.phas (h:Lay w 48 pg (M*3) (cB hs)) (hB:B≤pg) (hn:n=hs.length) (hM:n≤M):mI B w (some ⟨pg,0,none⟩) n hs:=by
 subst hn
 exact ⟨h.rowP,.inr ⟨pg,M,rfl,hB,h.lt,h.cel,hM⟩⟩
theorem mI.upd (h:mI B w (some ⟨pg,0,none⟩) n hs) (hi:i<hs.length) (ao:Option Addr) (m c:Nat) :
  mI B (w.setCell ⟨pg,i*3+2,none⟩ (.slice ao m c)) (some ⟨pg,0,none⟩) n (hs.set i ⟨hs[i].id,hs[i].queue,ao,m,c⟩):=by
 obtain ⟨M,h1,_,h2,h3,h4⟩:=h.lay (by have:=h.1.1;omega)
 refine Lay.phas (M:=M) ?_ h1 (by rw [List.length_set];exact h4) h3
 rw [aAU hs i hi]
 exact aJl h2 (by rw [gF];omega) _
theorem bE.off {l:List Ask} (h:bE w ao n l) (hm:Mks (fun k=>k=ga) w w') (ho:∀o,n≠0→ao≠some ⟨ga,o,none⟩):bE w' ao n l:=
 h.mks hm (fun k hk e=>by subst e;obtain ⟨h1,o,h2⟩:=hk;exact ho o h1 h2)
theorem jI.upd {l:List bN} (h:jI B w hs l) (hi:i<hs.length) (hl:i<l.length) (hga:hs[i].ao=some ⟨ga,0,none⟩) (gz:hs[i].len≠0) (hm:Mks (fun k=>k=ga) w w')
  (hr:bE w' (some ⟨ga,0,none⟩) n' ak) (hn:n'≤hs[i].len):jI B w' (hs.set i ⟨hs[i].id,hs[i].queue,some ⟨ga,0,none⟩,n',hs[i].cap⟩) (l.modify i (fun a=>⟨a.id,a.queue,ak⟩)):=by
 have hne:∀j (hj:j<hs.length),j≠i→∀o,hs[j].len≠0→hs[j].ao≠some ⟨ga,o,none⟩:=fun j hj hji o h0 e=>by
  have hap:aJG hs[i] hs[j]∨aJG hs[j] hs[i]:=by
   rcases Nat.lt_or_gt_of_ne hji with hlt | hlt
   ·exact .inr (List.pairwise_iff_getElem.1 h.apart j i hj hi hlt)
   ·exact .inl (List.pairwise_iff_getElem.1 h.apart i j hi hj hlt)
  have ho:o=0:=by
   rcases h.own _ (yM hj) with e2 | ⟨g,M,e2,_⟩
   ·exact absurd e2 h0
   ·rw [e] at e2;cases e2;rfl
  subst ho
  rcases hap with (a | a | a) | (a | a | a)
  ·exact gz a
  ·exact h0 a
  ·exact a (by rw [hga,e])
  ·exact h0 a
  ·exact gz a
  ·exact a (by rw [hga,e])
 refine ⟨⟨by simp [h.heads.1],fun j h1 h2=>?_⟩,fun v hv=>?_,?_⟩
 ·have hj:j<hs.length:=by simpa using h1
  have hj':j<l.length:=by simpa using h2
  obtain ⟨a,b,c,d⟩:=h.heads.2 j hj hj'
  rw [List.getElem_set,List.getElem_modify]
  by_cases e:i=j
  ·subst e
   rw [if_pos rfl,if_pos rfl]
   exact ⟨a,b,hr,Nat.le_trans hn d⟩
  ·rw [if_neg e,if_neg e]
   exact ⟨a,b,c.off hm (hne j hj (fun e2=>e e2.symm)),d⟩
 ·rcases List.mem_or_eq_of_mem_set hv with hv | rfl
  ·exact ((h.own v hv).mks hm).mono (yJ _) hm.size
  ·have:=((h.own _ (yM hi)).mks hm).mono (yJ _) hm.size
   rw [hga] at this
   exact this.le hn
 ·rw [List.pairwise_iff_getElem]
  intro a b ha hb hab
  have ha':a<hs.length:=by simpa using ha
  have hb':b<hs.length:=by simpa using hb
  have h0:=List.pairwise_iff_getElem.1 h.apart a b ha' hb' hab
  rw [List.getElem_set,List.getElem_set]
  by_cases e1:i=a
  ·subst e1
   rw [if_pos rfl,if_neg (by omega)]
   by_cases e2:hs[b].len=0
   ·exact .inr (.inl e2)
   ·exact .inr (.inr (fun e=>hne b hb' (by omega) 0 e2 e.symm))
  ·rw [if_neg e1]
   by_cases e2:i=b
   ·subst e2
    rw [if_pos rfl]
    by_cases e3:hs[a].len=0
    ·exact .inl e3
    ·exact .inr (.inr (hne a ha' (fun e=>e1 e.symm) 0 e3))
   ·rw [if_neg e2]
    exact h0
section
variable {B:Nat} {S:Nat→Prop} {w w':World} {t':TypeId}
theorem pQ.mkg {l:List Q} (h:pQ B w ao n l) (hm:Mks S w w') (hS:∀k,S k→∃N,Cel w t' k N) (ht:t'≠56):pQ B w' ao n l:=⟨h.1.mks hm (fI h.2 hm hS ht).1,(fI h.2 hm hS ht).2⟩
theorem nO.mkg {l:List Mac} (h:nO B w ao n l) (hm:Mks S w w') (hS:∀k,S k→∃N,Cel w t' k N) (ht:t'≠102):nO B w' ao n l:=⟨h.1.mks hm (fI h.2 hm hS ht).1,(fI h.2 hm hS ht).2⟩
theorem kY.mkg (h:kY B w ao n l) (hm:Mks S w w') (hS:∀k,S k→∃N,Cel w t' k N) (ht:t'≠52):kY B w' ao n l:=⟨h.1.mks hm (fI h.2 hm hS ht).1,(fI h.2 hm hS ht).2⟩
theorem mI.mkg {l:List AV} (h:mI B w ao n l) (hm:Mks S w w') (hS:∀k,S k→∃N,Cel w t' k N) (ht:t'≠48):mI B w' ao n l:=⟨h.1.mks hm (fI h.2 hm hS ht).1,(fI h.2 hm hS ht).2⟩
theorem jI.mkg {l:List bN} (h:jI B w hs l) (hm:Mks S w w') (hS:∀k,S k→∃N,Cel w t' k N) (ht:t'≠104):jI B w' hs l:=
 ⟨⟨h.heads.1,fun i h1 h2=>let ⟨a,b',c,d⟩:=h.heads.2 i h1 h2;⟨a,b',c.mks hm (fI (h.own _ (yM h1)) hm hS ht).1,d⟩⟩,fun v hv=>(fI (h.own v hv) hm hS ht).2,h.apart⟩
theorem Mks.wide {S T:Nat→Prop} (h:Mks S w w') (hi:∀k,S k→T k):Mks T w w':=⟨h.os,h.tape,h.output,h.size,fun k hk hn=>h.block k hk (fun e=>hn (hi k e)),h.cel⟩
end
def aJ5 (s:St) (r:Nat×Nat):St:=⟨s.qs,s.clock,s.epoch,s.next,s.serial,aAz s.apps r,s.ms,s.cs⟩
theorem aFN (l:List bN) (i k:Nat) (h:i<l.length):aAz l (i,k)=l.modify i (fun a=>⟨a.id,a.queue,aDU l[i].asks k⟩):=by
 unfold aAz
 apply List.ext_getElem
 ·simp
 ·intro j h1 h2
  rw [List.getElem_modify,List.getElem_modify]
  by_cases e:i=j
  ·subst e
   rw [if_pos rfl,if_pos rfl]
   rfl
  ·rw [if_neg e,if_neg e]
theorem aJx (g n cap k:Nat) (hk:k≤cap) (wx:World):(Instr.slice 27 (.slice (some ⟨g,0,none⟩) n cap) none (some (.int .i64 (k:Int))) none).run Tryz.prog wx=.ok (.slice (some ⟨g,0,none⟩) k cap) wx:=by
 rw [run_slice_h (P:=Tryz.prog) (w:=wx) 27 (some ⟨g,0,none⟩) n cap Tryz.underlying27 .i64 (k:Int) (by omega) (by omega)]
 rw [show (sizeOf (Tryz.prog.elem 27)).run Tryz.prog wx=.ok 5 wx from by kernel_rfl]
 simp [Result.andThen,sliced,Addr.add]
theorem aJy (g n cap k:Nat) (hk:k≤n) (wx:World):(Instr.slice 27 (.slice (some ⟨g,0,none⟩) n cap) (some (.int .i64 (k:Int))) none none).run Tryz.prog wx=.ok (.slice (some (hiA g cap k 5)) (n - k) (cap - k)) wx:=by
 rw [run_slice_l (P:=Tryz.prog) (w:=wx) 27 (some ⟨g,0,none⟩) n cap Tryz.underlying27 .i64 (k:Int) (by omega) (by omega)]
 rw [show (sizeOf (Tryz.prog.elem 27)).run Tryz.prog wx=.ok 5 wx from by kernel_rfl]
 simp only [Result.andThen,sliced,Int.toNat_natCast,hiA]
 by_cases h:cap=k
 ·rw [if_pos h,if_pos h]
 ·rw [if_neg h,if_neg h]
  simp [Addr.add]
  try omega
theorem dQ.other (h:dQ B w y s hs) (hm:Mks (fun k=>k=b) w w') (hc:Blk w b arr 29):dQ B w' y s hs:=by
 have hS:∀k,k=b→∃N,Cel w 29 k N:=fun k e=>by subst e;exact ⟨_,arr,hc,rfl⟩
 exact ⟨h.q.mkg hm hS (by decide),h.p.mkg hm hS (by decide),h.k.mkg hm hS (by decide),h.m.mkg hm hS (by decide),h.c.mkg hm hS (by decide),h.cap,(h.rm.mks hm).mono (yJ _) hm.size⟩
theorem dQ.ins (h:dQ B w y s hs) {cap':Nat} (hc:CRm B w' ao' n cap' l) (hm:Mks (fun k=>y.cc≠0∧∃N,Cel w 52 k N∧B≤k∧∃o,y.ca=some ⟨k,o,none⟩) w w') :
  dQ B w' ⟨y.qa,y.ql,y.qc,y.aa,y.al,y.ac,y.ma,y.ml,y.mc,ao',n,cap'⟩ ⟨s.qs,s.clock,s.epoch,s.next,s.serial,s.apps,s.ms,l⟩ hs:=by
 have hS:∀k,(y.cc≠0∧∃N,Cel w 52 k N∧B≤k∧∃o,y.ca=some ⟨k,o,none⟩)→∃N,Cel w 52 k N:=fun k ⟨_,N,h,_⟩=>⟨N,h⟩
 have hr:=(h.rm.mks hm).mono (yJ B) hm.size
 exact ⟨h.q.mkg hm hS (by decide),h.p.mkg hm hS (by decide),h.k.mkg hm hS (by decide),h.m.mkg hm hS (by decide),⟨hc.1,hc.2.own⟩,⟨h.cap.q,h.cap.a,h.cap.m,hc.2.1⟩,hr.1,hr.2.1,hr.2.2.1,hc.2.all,hr.2.2.2.2⟩
theorem jI.swap {l:List bN} (h:jI B w hs l) (hB:B≤w.heap.size) (hi:i<hs.length) (hl:i<l.length) (hb:Bw w w')
  (hr:bE w' ao' n' ak) (ho:dS w.heap.size w'.heap.size w' 104 5 ao' n') (hc:n'≤c'):jI B w' (hs.set i ⟨hs[i].id,hs[i].queue,ao',n',c'⟩) (l.modify i (fun a=>⟨a.id,a.queue,ak⟩)):=by
 have hne:∀j (hj:j<hs.length),hs[j].len≠0→n'≠0→hs[j].ao≠ao':=fun j hj h0 h1 e=>by
  rcases h.own _ (yM hj) with e2 | ⟨g,M,e2,_,e4,_⟩
  ·exact h0 e2
  ·rcases ho with e3 | ⟨g',M',e3,e5,_⟩
   ·exact h1 e3
   ·rw [e2,e3] at e
    cases e
    omega
 refine ⟨⟨by simp [h.heads.1],fun j h1 h2=>?_⟩,fun v hv=>?_,?_⟩
 ·have hj:j<hs.length:=by simpa using h1
  have hj':j<l.length:=by simpa using h2
  obtain ⟨a,b,c,d⟩:=h.heads.2 j hj hj'
  rw [List.getElem_set,List.getElem_modify]
  by_cases e:i=j
  ·subst e
   rw [if_pos rfl,if_pos rfl]
   exact ⟨a,b,hr,hc⟩
  ·rw [if_neg e,if_neg e]
   exact ⟨a,b,c.below hb,d⟩
 ·rcases List.mem_or_eq_of_mem_set hv with hv | rfl
  ·exact (h.own v hv).grow hb (yJ _)
  ·exact ho.mono hB (yJ _)
 ·rw [List.pairwise_iff_getElem]
  intro a b ha hb' hab
  have ha':a<hs.length:=by simpa using ha
  have hb2:b<hs.length:=by simpa using hb'
  have h0:=List.pairwise_iff_getElem.1 h.apart a b ha' hb2 hab
  rw [List.getElem_set,List.getElem_set]
  by_cases e1:i=a
  ·subst e1
   rw [if_pos rfl,if_neg (by omega)]
   by_cases e2:hs[b].len=0
   ·exact .inr (.inl e2)
   ·by_cases e3:n'=0
    ·exact .inl e3
    ·exact .inr (.inr (fun e=>hne b hb2 e2 e3 e.symm))
  ·rw [if_neg e1]
   by_cases e2:i=b
   ·subst e2
    rw [if_pos rfl]
    by_cases e3:hs[a].len=0
    ·exact .inl e3
    ·by_cases e4:n'=0
     ·exact .inr (.inl e4)
     ·exact .inr (.inr (hne a ha' e3 e4))
   ·rw [if_neg e2]
    exact h0
theorem dQ.conts {c:Nat} (h:dQ B w y s hs) (hc:kY B w ao n l) (hn:n≤c) (ho:dS B w.heap.size w 52 5 ao c) :
  dQ B w ⟨y.qa,y.ql,y.qc,y.aa,y.al,y.ac,y.ma,y.ml,y.mc,ao,n,c⟩ ⟨s.qs,s.clock,s.epoch,s.next,s.serial,s.apps,s.ms,l⟩ hs:=
 ⟨h.q,h.p,h.k,h.m,hc,⟨h.cap.q,h.cap.a,h.cap.m,hn⟩,h.rm.1,h.rm.2.1,h.rm.2.2.1,ho,h.rm.2.2.2.2⟩
theorem dQ.swap (h:dQ B w y s hs) (hB:B≤w.heap.size) (Jj:y.aa=some ⟨pg,0,none⟩) (hi:i<s.apps.length) (hb:Bw w w')
  (hr:bE w' ao' n' (aDU s.apps[i].asks k)) (ho:dS w.heap.size w'.heap.size w' 104 5 ao' n') (hoc:dS w.heap.size w'.heap.size w' 104 5 ao' c') (hc:n'≤c') :
  ∃hs',dQ B (w'.setCell ⟨pg,i*3+2,none⟩ (.slice ao' n' c')) y (aJ5 s (i,k)) hs'∧Mks (fun q=>q=pg) w' (w'.setCell ⟨pg,i*3+2,none⟩ (.slice ao' n' c'))∧B≤pg∧pg<w.heap.size∧∃N,Cel w' 48 pg N∧i*3+2<N:=by
 have hih:i<hs.length:=by rw [h.k.heads.1];exact hi
 have hk:=h.k.swap hB hih hi hb hr ho hc
 have hp:=h.p
 rw [Jj] at hp
 obtain ⟨M,hBp,hpl,NQ,hM,_⟩:=hp.lay (by have:=hp.1.1;omega)
 have GV:=(NQ.below hb).cel
 have hm:Mks (fun q=>q=pg) w' (w'.setCell ⟨pg,i*3+2,none⟩ (.slice ao' n' c')):=Mks.one _ _ _ _ _ rfl
 have hS:∀q,q=pg→∃N,Cel w' 48 q N:=fun q e=>by subst e;exact ⟨_,GV⟩
 have hrm:=((h.rm.below hb).mono (yJ B) hb.size).mks hm
 refine ⟨_,⟨(h.q.below hb).mkg hm hS (by decide),by rw [Jj];exact (hp.below hb).upd hih ao' n' c',?_,(h.m.below hb).mkg hm hS (by decide),(h.c.below hb).mkg hm hS (by decide),h.cap,?_⟩,hm,hBp,hpl,_,GV,by have:=Nat.mul_le_mul_right 3 (show i+1≤M by have:=hp.1.1;omega);omega⟩
 ·show jI B _ _ (aAz s.apps (i,k))
  rw [aFN _ _ _ hi]
  exact hk.mkg hm hS (by decide)
 ·have h2:=hrm.mono (yJ B) hm.size
  refine ⟨h2.1,h2.2.1,h2.2.2.1,h2.2.2.2.1,fun v hv=>?_⟩
  rcases List.mem_or_eq_of_mem_set hv with hv | rfl
  ·exact h2.2.2.2.2 v hv
  ·exact (hoc.mks hm).mono hB hm.size
theorem dQ.grownI {r:Option Nat} (h:dQ B w x s hs) (hg:w.grownBy w' r) (hr:∀k,r=some k→∃N,Cel w 3 k N):dQ B w' x s hs:=
 ⟨h.q.grown hg hr (by decide),h.p.grown hg hr (by decide),h.k.grown hg hr (by decide),h.m.grown hg hr (by decide),h.c.grown hg hr (by decide),h.cap,(dL h.rm.1 hg hr (by decide)).2,(dL h.rm.2.1 hg hr (by decide)).2,(dL h.rm.2.2.1 hg hr (by decide)).2,(dL h.rm.2.2.2.1 hg hr (by decide)).2,fun v hv=>(dL (h.rm.2.2.2.2 v hv) hg hr (by decide)).2⟩
theorem dQ.mkR {S:Nat→Prop} (h:dQ B w x s hs) (hm:Mks S w w') (hS:∀k,S k→∃N,Cel w 37 k N):dQ B w' x s hs:=
 ⟨h.q.mkg hm hS (by decide),h.p.mkg hm hS (by decide),h.k.mkg hm hS (by decide),h.m.mkg hm hS (by decide),h.c.mkg hm hS (by decide),h.cap,(h.rm.mks hm).mono (yJ _) hm.size⟩
theorem aBX {l:List Int} (h:aBl B w v l) (hm:Mks (fun k=>k=b) w w') (hb:Blk w b arr t) (ht:t≠3):aBl B w' v l:=
 World.ownsRow.kept h hm.grown (.inr (fun e=>by
  obtain ⟨N,hc⟩:=qE h b e
  first | exact ht (hc.type ⟨arr,hb,rfl⟩) | exact ht (hc.type ⟨arr,hb,rfl⟩).symm))
def aKC (w:World) (g:Nat):Nat:=match w.cell? ⟨g,7,none⟩ with
 | some (.slice _ n _)=>n
 | _=>0
theorem aEt {g:Nat} (h:Blk w g (svc x s) 29):aKC w g=x.cl:=by
 unfold aKC
 rw [h.at]
 rfl
end
section
open Go.RowKit Go.Maps
theorem aF9 {s:St} {ord:List (List UInt8)} {k:Nat} (h:k<ord.length):nH s (ord.take (k+1)).reverse=if iM s ord[k]=true then (match dB (onQ s ord[k]) s.cs with | some i=>some i | none=>nH s (ord.take k).reverse) else nH s (ord.take k).reverse:=by
 rw [List.take_succ_eq_append_getElem h,List.reverse_append]
 rfl
theorem uX {w a b:World} {g:Nat} (h:Kp w a) (hm:Mks (fun k=>k=g) a b) (hg:w.heap.size≤g):Kp w b:=Below.trans h (hm.below (fun k e=>by subst e;exact hg) h.size)
theorem aDf (x:Sls) (s:St) (hs0:List AV) (w:World) (h:gU w x s) (qj:fK w x.aa x.al hs0) (hhd:jJ w hs0 s.apps) (hss:aED x hs0) (hf:dI s) :
  cP 36 #[sv x s] w fun e w'=>e=.returned (.int .i64 (plL (rY s)))∧Bw w w':=by
 have hcl:x.cl≤1048576:=by have h1:x.cl=s.cs.length:=h.2.2.2.1;have:=hf.2.2.2.1;omega
 have CO:=aA (fun wx (hb:Bw w wx)=>pY x s wx (h.below hb) hf)
 have CV:=aA (fun q wx (hb:Bw w wx)=>uA x s q wx (h.below hb) hf)
 have CA:=aA (fun id wx (hb:Bw w wx)=>aCB x s hs0 id wx (h.below hb) (qj.below hb) (hhd.below hb) hss hf)
 have HR:=aA h.2.2.2
 have DU:=aA (show (gM s).length≤1048576 from by have:=aGd s;have:=h.1.1;have:=h.ql hf;omega)
 have HST:=aA (fun k (hk:k<(gM s).length)=>aF9 (s:=s) hk)
 obtain ⟨r,hr⟩:∃r,rY s=r:=⟨_,rfl⟩
 have Vv:=aA (show nH s ((gM s).take (gM s).length).reverse=r by rw [List.take_length];exact hr)
 have HZ:=aA (show nH s []=none from rfl)
 rw [hr]
 obtain ⟨ord,KM⟩:∃p,gM s=p:=⟨_,rfl⟩
 rw [KM] at CO DU HST Vv
 obtain ⟨lf,hlf⟩:∃p,nH s=p:=⟨_,rfl⟩
 rw [hlf] at HST Vv HZ
 have uj:=aA (show ∀c q,onQ s q c=decide ((jA s c.app).1.queue=q) from fun _ _=>rfl)
 obtain ⟨onq,hon⟩:∃f,onQ s=f:=⟨_,rfl⟩
 obtain ⟨ovf,hov⟩:∃f,iM s=f:=⟨_,rfl⟩
 obtain ⟨apf,hap⟩:∃f,jA s=f:=⟨_,rfl⟩
 rw [hon,hov] at HST
 rw [hon,hap] at uj
 rw [hov] at CV
 rw [hap] at CA
 clear h qj hhd hss hf hr KM hlf hon hov hap
 obtain ⟨qa,ql,qc,aa,al,ac,ma,ml,mc,ca,cl,cc⟩:=x
 obtain ⟨qs,cv,ez,nv,sj,aj,ms,cs⟩:=s
 simp only at CO CV CA HR HST hcl
 have hol:ord.length≤1048576:=uH DU
 have HB0:=aA (yA (yH _ w) (.cells (svc ⟨qa,ql,qc,aa,al,ac,ma,ml,mc,ca,cl,cc⟩ ⟨qs,cv,ez,nv,sj,aj,ms,cs⟩) 29))
 have P0:=aA (yD w (svc ⟨qa,ql,qc,aa,al,ac,ma,ml,mc,ca,cl,cc⟩ ⟨qs,cv,ez,nv,sj,aj,ms,cs⟩) 29)
 obtain ⟨x0,x1,x2,x3,x4,x5,x6,x7⟩:=zq (uH P0)
 go_enter Tryz.func36,Tryz.ntmps36
 go_wp2_with fail
 refine (uH CO _ (uH HB0)).mono ?_
 rintro e w1 ⟨v0,rfl,ht,hb⟩
 obtain ⟨vo,vc,rfl,Hw⟩:=ht.open
 have GX:=aA Hw
 have HB1:=aA (yB (uH HB0) hb)
 have P1:=aA ((uH P0).below hb)
 clear hb ht Hw HB0 P0 CO x0 x1 x2 x3 x4 x5 x6 x7
 go_wp2_with fail
 go_loopw [4,5,6,7] (fun i _ _ _ wr=>∃k:Nat,k≤ord.length∧i=.int .i64 ((k:Int) - 1)∧Hid (lf (ord.take k).reverse=r)∧Hid (Bw w1 wr)) (fun i _ _ _ _=>(intOf i+1).toNat)
 case atStart=>exact ⟨ord.length,yJ _,by go_num,Vv,aA (yH _ _)⟩
 case round=>
  obtain ⟨k,hk,rfl,HK,HW⟩:=hrel
  obtain ⟨wq,rfl⟩:∃wo:World,wo=wr:=⟨_,rfl⟩
  clear Vv
  have Pv:=aA (yB (uH HB1) (uH HW))
  have Pq:=aA ((uH P1).below (uH HW))
  cases k with
  | zero=>
   have HE:=aA (show r=none by rw [←uH HK,←uH HZ];rfl)
   go_wp2
   go_ret
   exact ⟨by rw [uH HE];rfl,uH Pv⟩
  | succ k=>
   have hlt:k<ord.length:=by omega
   obtain ⟨gv,rfl,Yx⟩:=uH GX k hlt
   have Px:=aA (Kp.cell (uH HW) Yx)
   have UX:=aA Yx
   have hst:=uH HST k hlt
   obtain ⟨qn,QY⟩:∃n,ord[k]=n:=⟨_,rfl⟩
   rw [QY] at Px UX hst
   rw [uH HK] at hst
   have CV1:=aA (uH CV qn)
   obtain ⟨ov,hov⟩:∃b,ovf qn=b:=⟨_,rfl⟩
   rw [hov] at CV1 hst
   have MG:=aA hst
   rw [show ((k+1:Nat):Int) - 1=(k:Int) by omega]
   have m0:(0:Int)≤k:=by omega
   have m1:(k:Int)<ord.length:=by omega
   clear Yx hst QY hov HK
   go_upto_region 5 with fail
   refine wp_region_held_drew (S:=fun wx=>Kp wq wx) (by kernel_rfl) ((aK wq).drew (Kp.new wq)) (fun S0=>?_)
   generalize wq.drew=wn at S0 ⊢
   refine bW 0 17 (sv ⟨qa,ql,qc,aa,al,ac,ma,ml,mc,ca,cl,cc⟩ ⟨qs,cv,ez,nv,sj,aj,ms,cs⟩) rfl rfl S0 ?_ (hy:=Or.inl ⟨by rfl,fun wz hz=>bI (bF ((uH Pq).below hz) rfl)⟩)
   try simp only [zW]
   refine tW 1 18 (.slice (some ⟨gv,0,none⟩) ord.length vc) S0 ?_
   simp only [zW]
   refine tW 2 19 (.int .i64 (k:Int)) S0 ?_
   simp only [zW]
   refine tW 3 20 (.pointer (some ⟨gv,k,none⟩)) S0 ?_
   simp only [zW]
   refine bW 4 21 (.string (bs qn)) rfl rfl S0 ?_ (hy:=Or.inl ⟨by rfl,fun wz hz=>by have c:=Kp.cell hz (uH Px);go_simp;try with_reducible rfl⟩)
   try simp only [zW]
   refine yRq 5 rfl (fun K hK=>?_)
   go_simp
   refine (uH CV1 _ (yB (uH Pv) S0)).mono ?_
   rintro e wt ⟨rfl,hb⟩
   have S1:=yB S0 hb
   go_wp2_with fail
   refine hK.out _ _ S1 (fun S0=>?_)
   clear hK K S1 hb
   try simp only [zW]
   refine tW 6 23 (.bool (!ov)) S0 ?_
   simp only [zW]
   refine wpAnyH_done (by kernel_rfl) ?_ _
   have Gy:=aA (yB (uH HW) S0)
   clear S0 CV1 Px
   cases ov with
   | false=>
    have HN:=aA (show lf (ord.take k).reverse=r by have:=uH MG;rw [if_neg (by decide)] at this;exact this.symm)
    clear MG HW
    go_wp2
    go_roundw
    case rel=>exact ⟨k,by omega,by go_num,HN,Gy⟩
    case measure=>simp [intOf]
   | true=>
    have hso:=uH MG
    rw [if_pos rfl] at hso
    have MI:=aA hso
    have HBt:=aA (yB (uH HB1) (uH Gy))
    have Pt:=aA ((uH P1).below (uH Gy))
    have c7:=(uH Pt).at 7
    simp at c7
    have QC:=aA (show cl=cs.length from (uH HR).1)
    clear hso MG HW
    go_wp2_with fail
    clear c7
    go_loopw [5,6,7] (fun i _ _ wr=>∃j:Nat,j≤cl∧i=.int .i64 ((j:Int) - 1)∧Hid (∀m (hm:m<cs.length),j≤m→onq qn cs[m]=false)∧Hid (Bw w1 wr)) (fun i _ _ _=>(intOf i+1).toNat)
    case atStart=>exact ⟨cl,yJ _,by go_num,aA (fun m hm hj=>by have:=uH QC;omega),Gy⟩
    case round=>
     obtain ⟨j,hj,rfl,HJ,BP⟩:=hrel
     obtain ⟨wi,rfl⟩:∃wo:World,wo=wr:=⟨_,rfl⟩
     have Pw:=aA (yB (uH HB1) (uH BP))
     have Pi:=aA ((uH P1).below (uH BP))
     clear Gy HBt Pt Pv Pq
     cases j with
     | zero=>
      have HN:=aA (show lf (ord.take k).reverse=r by
       have h1:=uH MI
       rw [kV (fun c hc=>by obtain ⟨m,hm,rfl⟩:=List.mem_iff_getElem.1 hc;exact uH HJ m hm (Nat.zero_le _))] at h1
       exact h1.symm)
      clear HJ MI
      go_wp2
      go_roundw
      case rel=>exact ⟨k,by omega,by go_num,HN,BP⟩
      case measure=>simp [intOf]
     | succ j=>
      have hjc:j<cs.length:=by have:=uH QC;omega
      obtain ⟨cb,off,rfl,ZZ⟩:∃b off,ca=some ⟨b,off,none⟩∧∀i (h:i<cs.length),mQ w b (off+i*5) cs[i]:=by
       rcases (uH HR).2 with e | e
       ·have:=uH QC;omega
       ·exact e
      obtain ⟨Nq,hc1,NY⟩:=ZZ j hjc
      have Z7:=aA (Kp.cell (uH Pw) hc1)
      have CA1:=aA (uH CA cs[j].app)
      have jk:=aA (uH uj cs[j] qn)
      obtain ⟨c,hcj⟩:∃c,cs[j]=c:=⟨_,rfl⟩
      have UV:=aA hcj
      rw [hcj] at Z7 CA1 jk
      obtain ⟨ap,BL⟩:∃a,c.app=a:=⟨_,rfl⟩
      rw [BL] at Z7 CA1 jk
      obtain ⟨⟨⟨ai,aq,aks⟩,ab⟩,TM⟩:∃a,apf ap=a:=⟨_,rfl⟩
      rw [TM] at CA1 jk
      simp only at CA1 jk
      rw [show ((j+1:Nat):Int) - 1=(j:Int) by omega]
      have n0:(0:Int)≤j:=by omega
      have n1:(j:Int)<cl:=by omega
      have Mj:=aA hjc
      have Pz:=aA (Kp.cell (uH BP) (uH UX))
      clear ZZ Nq NY hc1 hcj BL TM
      go_upto_region 9 with fail
      go_cut [6] from 32 to 42 (fun v6 wx=>∃ba vo2 vl2 vc2,v6=.pointer (some ⟨ba,0,none⟩)∧Hid (Blk wx ba #[.int .i64 ai,.string (bs aq),.slice vo2 vl2 vc2] 48)∧Hid (Kp wi wx))
      case first=>
       refine wp_region_held_drew (S:=fun wx=>Kp wi wx) (by kernel_rfl) ((aK wi).drew (Kp.new wi)) (fun S0=>?_)
       generalize wi.drew=wn at S0 ⊢
       refine bW 0 33 (sv ⟨qa,ql,qc,aa,al,ac,ma,ml,mc,some ⟨cb,off,none⟩,cl,cc⟩ ⟨qs,cv,ez,nv,sj,aj,ms,cs⟩) rfl rfl S0 ?_ (hy:=Or.inl ⟨by rfl,fun wz hz=>bI (bF ((uH Pi).below hz) rfl)⟩)
       try simp only [zW]
       refine tW 1 34 (.pointer (some ⟨w.heap.size,7,none⟩)) S0 ?_
       simp only [zW]
       refine bW 2 35 (.slice (some ⟨cb,off,none⟩) cl cc) rfl rfl S0 ?_ (hy:=Or.inl ⟨by rfl,fun wz hz=>by (have c7:=((uH Pi).below hz).at 7;simp at c7;go_simp;try with_reducible rfl)⟩)
       try simp only [zW]
       refine tW 3 36 (.int .i64 (j:Int)) S0 ?_
       simp only [zW]
       refine tW 4 37 (.pointer (some ⟨cb,off+j*5,none⟩)) S0 ?_
       simp only [zW]
       refine tW 5 38 (.pointer (some ⟨cb,off+j*5+1,none⟩)) S0 ?_
       simp only [zW]
       refine bW 6 39 (.int .i64 ap) rfl rfl S0 ?_ (hy:=Or.inl ⟨by rfl,fun wz hz=>by (have c:=Kp.cell hz (uH Z7);go_simp;try with_reducible rfl)⟩)
       try simp only [zW]
       refine ySq 7 11 rfl rfl (fun K hK=>?_) (fun K hK=>eG 6 (by rfl) rfl (bI (bS _ 48 #[.int .i64 0,.string ⟨#[]⟩,.slice none 0 0] (by kernel_rfl))) ?_)
       ·go_simp
        refine (uH CA1 _ (yB (uH Pw) S0)).mono ?_
        rintro e wt ⟨v,rfl,hv⟩
        obtain ⟨vo2,vc2,rfl,-⟩:=(uH hv).1.row
        obtain ⟨vl2,KE⟩:∃n,aks.length=n:=⟨_,rfl⟩
        have S1:=yB S0 (uH hv).2
        rw [KE]
        clear hv KE
        go_wp2_with fail
        refine hK.out _ _ S1 (fun S0=>?_)
        clear hK K S1
        try simp only [zW]
        refine tW 8 32 (.tuple #[.agg #[.int .i64 ai,.string (bs aq),.slice vo2 vl2 vc2],.bool ab]) S0 ?_
        simp only [zW]
        refine tW 9 41 (.agg #[.int .i64 ai,.string (bs aq),.slice vo2 vl2 vc2]) S0 ?_
        simp only [zW]
        refine tW 10 42 (.bool ab) S0 ?_
        simp only [zW]
        have S1:=yA S0 (.cells #[.int .i64 0,.string ⟨#[]⟩,.slice none 0 0] 48)
        refine yRq 11 rfl (fun K hK=>eG 6 (by rfl) rfl (bI (bS _ 48 #[.int .i64 0,.string ⟨#[]⟩,.slice none 0 0] (by kernel_rfl))) ?_)
        have G0:=yD wt #[.int .i64 0,.string ⟨#[]⟩,.slice none 0 0] 48
        have hg:wi.heap.size≤wt.heap.size:=S0.size
        clear S0
        refine hK.out _ _ S1 (fun S0=>?_)
        clear hK K S1
        try simp only [zW]
        generalize wt.alloc (.cells #[.int .i64 0,.string ⟨#[]⟩,.slice none 0 0] 48)=wu at S0 G0 ⊢
        have XT:=aBO G0 #[.int .i64 ai,.string (bs aq),.slice vo2 vl2 vc2] rfl
        have S1:=uX S0 XT hg
        refine yRq 12 rfl (fun K hK=>fQ (by rfl) rfl (fC (bP 48 (arr:=#[.int .i64 ai,.string (bs aq),.slice vo2 vl2 vc2]) G0 (by kernel_rfl) rfl (by kernel_rfl))) ?_)
        clear S0
        refine hK.out _ _ S1 (fun S0=>?_)
        have G9:=aA (zC G0 #[.int .i64 ai,.string (bs aq),.slice vo2 vl2 vc2])
        clear hK K S1 XT G0
        try simp only [zW]
        refine tW 13 7 (.bool ab) S0 ?_
        simp only [zW]
        refine wpAnyH_done (by kernel_rfl) ?_ _
        go_wp2_with fail
        go_meet
        exact ⟨_,_,_,_,rfl,G9,aA S0⟩
       ·have S1:=yA S0 (.cells #[.int .i64 0,.string ⟨#[]⟩,.slice none 0 0] 48)
        have G0:=yD wn #[.int .i64 0,.string ⟨#[]⟩,.slice none 0 0] 48
        have hg:wi.heap.size≤wn.heap.size:=S0.size
        clear S0
        refine hK.out _ _ S1 (fun S0=>?_)
        clear hK K S1
        try simp only [zW]
        generalize wn.alloc (.cells #[.int .i64 0,.string ⟨#[]⟩,.slice none 0 0] 48)=wu at S0 G0 ⊢
        refine yRq 7 rfl (fun K hK=>?_)
        go_simp
        refine (uH CA1 _ (yB (uH Pw) S0)).mono ?_
        rintro e wt ⟨v,rfl,hv⟩
        obtain ⟨vo2,vc2,rfl,-⟩:=(uH hv).1.row
        obtain ⟨vl2,KE⟩:∃n,aks.length=n:=⟨_,rfl⟩
        have S1:=yB S0 (uH hv).2
        have G1:=G0.below (uH hv).2
        rw [KE]
        clear hv KE G0
        go_wp2_with fail
        refine hK.out _ _ S1 (fun S0=>?_)
        clear hK K S1
        try simp only [zW]
        have G0:=G1
        clear G1
        refine tW 8 32 (.tuple #[.agg #[.int .i64 ai,.string (bs aq),.slice vo2 vl2 vc2],.bool ab]) S0 ?_
        simp only [zW]
        refine tW 9 41 (.agg #[.int .i64 ai,.string (bs aq),.slice vo2 vl2 vc2]) S0 ?_
        simp only [zW]
        refine tW 10 42 (.bool ab) S0 ?_
        simp only [zW]
        have XT:=aBO G0 #[.int .i64 ai,.string (bs aq),.slice vo2 vl2 vc2] rfl
        have S1:=uX S0 XT hg
        refine yRq 12 rfl (fun K hK=>fQ (by rfl) rfl (fC (bP 48 (arr:=#[.int .i64 ai,.string (bs aq),.slice vo2 vl2 vc2]) G0 (by kernel_rfl) rfl (by kernel_rfl))) ?_)
        clear S0
        refine hK.out _ _ S1 (fun S0=>?_)
        have G9:=aA (zC G0 #[.int .i64 ai,.string (bs aq),.slice vo2 vl2 vc2])
        clear hK K S1 XT G0
        try simp only [zW]
        refine tW 13 7 (.bool ab) S0 ?_
        simp only [zW]
        refine wpAnyH_done (by kernel_rfl) ?_ _
        go_wp2_with fail
        go_meet
        exact ⟨_,_,_,_,rfl,G9,aA S0⟩
      case rest=>
       obtain ⟨ba,vo2,vl2,vc2,rfl,G9,PN⟩:=hcut
       obtain ⟨eq,heq⟩:∃b,onq qn c=b:=⟨_,rfl⟩
       have N8:=aA (show ((bs aq).toList==(bs qn).toList)=eq from by
        have h1:=uH jk
        rw [heq] at h1
        have h2:=lL aq qn
        rw [h1]
        exact h2)
       have J9:=aA (Kp.cell (uH PN) (uH Pz))
       have BQ:=aA (yB (uH BP) (uH PN))
       have UQ:=aA heq
       clear heq jk CA1 Z7
       go_upto_region 10 with fail
       refine wp_region_held_drew (S:=fun wx=>Kp wc wx) (by kernel_rfl) ((aK wc).drew (Kp.new wc)) (fun S0=>?_)
       generalize wc.drew=wn at S0 ⊢
       refine tW 0 43 (.pointer (some ⟨ba,1,none⟩)) S0 ?_
       simp only [zW]
       refine bW 1 44 (.string (bs aq)) rfl rfl S0 ?_ (hy:=Or.inl ⟨by rfl,fun wz hz=>by (have c:=((uH G9).below hz).at 1;simp at c;go_simp;try with_reducible rfl)⟩)
       try simp only [zW]
       refine tW 2 45 (.slice (some ⟨gv,0,none⟩) ord.length vc) S0 ?_
       simp only [zW]
       refine tW 3 46 (.int .i64 (k:Int)) S0 ?_
       simp only [zW]
       refine tW 4 47 (.pointer (some ⟨gv,k,none⟩)) S0 ?_
       simp only [zW]
       refine bW 5 48 (.string (bs qn)) rfl rfl S0 ?_ (hy:=Or.inl ⟨by rfl,fun wz hz=>by (have c:=Kp.cell hz (uH J9);go_simp;try with_reducible rfl)⟩)
       try simp only [zW]
       refine bW 6 49 (.bool eq) rfl rfl S0 ?_ (hy:=Or.inl ⟨by rfl,fun wz hz=>by go_simp;first | exact congrArg (fun b=>Result.ok (Next.value (Value.bool b)) wz) (uH N8) | (rw [uH N8]) | (simp [uH N8])⟩)
       try simp only [zW]
       refine wpAnyH_done (by kernel_rfl) ?_ _
       have TV:=aA (yB (uH BQ) S0)
       clear S0 J9 N8 G9 PN
       cases eq with
       | true=>
        have HRJ:=aA (show r=some j by
         have h1:=uH MI
         rw [rZ (i:=j) (uH Mj) (by rw [uH UV];exact uH UQ) (fun m hm hjm=>uH HJ m hm (by omega))] at h1
         exact h1)
        have HBZ:=aA (yB (uH HB1) (uH TV))
        clear HJ MI
        go_wp2
        go_ret
        exact ⟨by rw [uH HRJ];rfl,uH HBZ⟩
       | false=>
        have HN:=aA (show ∀m (hm:m<cs.length),j≤m→onq qn cs[m]=false from fun m hm hjm=>by
         by_cases e:m=j
         ·subst e;rw [uH UV];exact uH UQ
         ·exact uH HJ m hm (by omega))
        clear HJ
        go_wp2
        go_roundw
        case rel=>exact ⟨j,by omega,by go_num,HN,TV⟩
        case measure=>simp [intOf]
end
section
open Go.RowKit
theorem aEK (s:St) (lk:Int×Int):∀(n:Nat) (L:List Con) (g:Int×Int),(tL s lk n L g).length≤L.length
 | 0,L,g=>by simp [tL]
 | n+1,L,g=>by
  by_cases hw:within lk.1 lk.2 g.1 g.2=true
  ·rw [rG hw];simp
  ·cases hl:rY (aZ s L) with
   | none=>rw [aAn hl];simp
   | some i=>
    obtain ⟨hc,e⟩:=vW (n:=n) (g:=g) (lk:=lk) (by simpa using hw) hl
    rw [e,List.length_cons]
    have:=aEK s lk n (L.eraseIdx i) (aDF g L[i])
    rw [List.length_eraseIdx_of_lt hc] at this
    omega
theorem aDI (s:St) (q:List UInt8):(iP s q).length≤s.cs.length:=by
 unfold iP aAm
 rw [List.length_map]
 split
 ·exact aEK _ _ _ _ _
 ·simp
end
end Go.Proofs.YtngkddhcmfbjnaaGreat
