/-
  Texts in one: OkG, BackI.
-/
import Derived.Test.YtngkddhcmfbjnaaGreatSackR
set_option maxRecDepth 100000
set_option maxHeartbeats 16000000
set_option linter.unusedVariables false
set_option linter.unusedSimpArgs false
namespace Go.Proofs.YtngkddhcmfbjnaaGreat
section
open Go.RowKit
theorem aFw (l:List Ask):uY l=(decide (l.length≤10)&&l.all iN):=rfl
theorem aJC {p:Ask→Bool} {l:List Ask} {k:Nat} (h:k<l.length):(l.drop k).all p=(p l[k]&&(l.drop (k+1)).all p):=by
  rw [List.drop_eq_getElem_cons h,List.all_cons]
theorem aDg (x:Sls) (s:St) (w:World) (h:gU w x s) (hf:dI s) (hq:aH s.qs=true) (hn1:1≤s.next) (hn2:s.next≤1000000000) :
    cP 52 #[sv x s] w fun e w'=>e=.returned (.bool (gI s))∧Bw w w':=by
  have GJ:x.ql≤1048576:=by have:=h.len.1;have:=hf.1.1;omega
  have hal:x.al≤1048576:=by have:=h.len.2.1;have:=hf.2.1.1;omega
  have HR:=aA h.2.1
  have HL:=aA h.2.1.1
  have zw:=aA hf.2.1
  have CLF:=aA (fun wx (hb:Bw w wx) (nm:List UInt8)=>by have:=fP x.qa x.ql x.qc s.qs nm wx (h.1.below hb) GJ (fun q hq=>(hf.1.2 q hq).1);rw [qK,hq,Bool.true_and] at this;exact this)
  have QE:=aA (show gI s=(dA s.qs s.next 0 (s.apps.drop 0)&&decide (x.al≤40)) by rw [gI,←h.2.1.1,Bool.and_comm];rfl)
  obtain ⟨o,ho⟩:∃o,gI s=o:=⟨_,rfl⟩
  rw [ho] at QE ⊢
  clear h hf ho hq
  obtain ⟨qa,ql,qc,aa,al,ac,ma,ml,mc,ca,cl,cc⟩:=x
  obtain ⟨qs,cv,ez,nv,sj,aj,ms,cs⟩:=s
  simp only at GJ hal HR HL zw CLF QE hn1 hn2
  have HB0:=aA (gG w (svc ⟨qa,ql,qc,aa,al,ac,ma,ml,mc,ca,cl,cc⟩ ⟨qs,cv,ez,nv,sj,aj,ms,cs⟩))
  have P0:=aA (eB w (svc ⟨qa,ql,qc,aa,al,ac,ma,ml,mc,ca,cl,cc⟩ ⟨qs,cv,ez,nv,sj,aj,ms,cs⟩))
  have q0:=(uH P0).at 0
  have q3:=(uH P0).at 3
  have q5:=(uH P0).at 5
  simp at q0 q3 q5
  obtain ⟨W0,hW0⟩:∃W,o5 w (svc ⟨qa,ql,qc,aa,al,ac,ma,ml,mc,ca,cl,cc⟩ ⟨qs,cv,ez,nv,sj,aj,ms,cs⟩)=W:=⟨_,rfl⟩
  rw [hW0] at HB0 q0 q3 q5
  have Q0:=aA q0
  have Q3:=aA q3
  have Q5:=aA q5
  have hnw:IntKind.i64.wrap (nv - 1)=nv - 1:=by rw [IntKind.wrap_i64];omega
  clear P0 q0 q3 q5
  go_enter Tryz.func52,Tryz.ntmps52
  go_wp2
  change Code.wp _ _ _ _ (o5 w (svc ⟨qa,ql,qc,aa,al,ac,ma,ml,mc,ca,cl,cc⟩ ⟨qs,cv,ez,nv,sj,aj,ms,cs⟩))
  rw [hW0]
  clear hW0
  go_loopw [3] (fun i wr=>∃(k:Nat) (last:Int),k≤al∧i=.int .i64 k∧Hid (o=(dA qs nv last (aj.drop k)&&decide (al≤40)))∧Hid (0≤last∧(k=0→last=0)∧∀(k':Nat) (hk':k'<aj.length),k=k'+1→last=aj[k'].id)∧Hid (Kp W0 wr)) (fun i _=>al - (intOf i).toNat)
  case atStart=>exact ⟨0,0,Nat.zero_le _,rfl,QE,aA ⟨by omega,fun _=>rfl,fun k' _ e=>by omega⟩,aA (Kp.new W0)⟩
  case round=>
    obtain ⟨k,last,hk,rfl,HO,YL,HK⟩:=hrel
    obtain ⟨wo,rfl⟩:∃wo:World,wo=wr:=⟨_,rfl⟩
    clear QE
    have q0:=(uH HK).cell (uH Q0)
    have q3:=(uH HK).cell (uH Q3)
    have q5:=(uH HK).cell (uH Q5)
    have KW:=aA (show Kp w wo from yB (uH HB0) (uH HK))
    by_cases hlt:k<al
    case neg=>
      have GD:=aA (show o=decide (al≤40) by rw [uH HO,uZ (by have:=uH HL;omega),Bool.true_and])
      have k1:¬(k:Int)<al:=by omega
      have XX:decide ((al:Int)≤40)=decide (al≤40):=by simp;omega
      go_wp2
      go_ret
      exact ⟨yF (by rw [uH GD];try exact XX),uH KW⟩
    obtain ⟨b,off,rfl,hq⟩:=(uH HR).at hlt
    have hkl:k<aj.length:=by have:=uH HL;omega
    have hst:=qY (qs:=qs) (nx:=nv) (last:=last) (l:=aj) (k:=k) hkl
    have hfa:=(uH zw).2 _ (yM hkl)
    obtain ⟨xo,xl,xc,c0,c1,c2,Hw,_⟩:=hq hkl
    replace c0:=(uH KW).cell c0
    replace c1:=(uH KW).cell c1
    replace c2:=(uH KW).cell c2
    have YH:=aA (fun (k':Nat) (e:k=k'+1)=>show wo.cell? ⟨b,off+k'*3,none⟩=some (.int .i64 last) by
      have hk'':k'<aj.length:=by omega
      obtain ⟨b',off',eb,hq'⟩:=(uH HR).at (show k'<al by omega)
      obtain ⟨rfl,rfl⟩:b=b'∧off=off':=by simpa using eb
      obtain ⟨_,_,_,d0,_⟩:=hq' hk''
      rw [(uH YL).2.2 k' hk'' e]
      exact (uH KW).cell d0)
    obtain ⟨⟨id,qu,asks⟩,hs⟩:∃s,aj[k]=s:=⟨_,rfl⟩
    have DV:=aA (show ∀(k':Nat) (hk':k'<aj.length),k+1=k'+1→id=aj[k'].id from fun k' hk' e=>by
      have:k=k':=by omega
      subst this
      rw [hs])
    rw [hs] at c0 c1 hst Hw hfa
    simp only at c0 c1 hst Hw
    have hxl:xl≤1048576:=by have h1:=Hw.1;have h2:=hfa.2.1;simp only at h2;omega
    have HA:=aA Hw
    have Z8:=aA Hw.1
    have J4:=aA hfa.2.2
    have k0:(0:Int)≤k:=by omega
    have k1:(k:Int)<al:=by omega
    rw [aFw,←Hw.1] at hst
    obtain ⟨lo,hlo⟩:∃b,aGs qs qu=b:=⟨_,rfl⟩
    have CL:=aA (fun wx (hb:Bw w wx)=>by have:=uH CLF wx hb qu;rw [hlo] at this;exact this)
    rw [hlo] at hst
    have GD:=aA ((uH HO).trans (congrArg (· && decide (al≤40)) hst))
    obtain ⟨ib,hib⟩:∃b,inB id 1 (nv - 1)=b:=⟨_,rfl⟩
    obtain ⟨hl0,hlz,_⟩:=uH YL
    clear hq hs hkl Hw hfa hst hlo HO CLF
    have b4:=yA (yH _ wo) (.cells #[.int .i64 id,.string (bs qu),.slice xo xl xc] 48)
    have G8:=aA (yB (uH KW) b4)
    have P4:=aA (yD wo #[.int .i64 id,.string (bs qu),.slice xo xl xc] 48)
    obtain ⟨W4,Yk⟩:∃W,wo.alloc (.cells #[.int .i64 id,.string (bs qu),.slice xo xl xc] 48)=W:=⟨_,rfl⟩
    rw [Yk] at b4 G8 P4
    have Qy:=aA (show Kp W0 W4 from yB (uH HK) b4)
    have r0:=Kp.cell b4 q0
    have r3:=Kp.cell b4 q3
    have r5:=Kp.cell b4 q5
    have a0:=(uH P4).at 0
    have a1:=(uH P4).at 1
    have a2:=(uH P4).at 2
    simp at a0 a1 a2
    have R:∀wx,Kp W4 wx→wx.cell? ⟨w.heap.size,0,none⟩=some (.slice qa ql qc)∧wx.cell? ⟨w.heap.size,3,none⟩=some (.int .i64 nv)∧wx.cell? ⟨w.heap.size,5,none⟩=some (.slice (some ⟨b,off,none⟩) al ac)∧wx.cell? ⟨wo.heap.size,0,none⟩=some (.int .i64 id)∧wx.cell? ⟨wo.heap.size,1,none⟩=some (.string (bs qu))∧wx.cell? ⟨wo.heap.size,2,none⟩=some (.slice xo xl xc):=fun wx h=>
      ⟨h.cell r0,h.cell r3,h.cell r5,h.cell a0,h.cell a1,h.cell a2⟩
    have ZJ:=aA (fun (k':Nat) (e:k=k'+1)=>Kp.cell b4 (uH YH k' e))
    have A0:=aA (Kp.new W4)
    have HS:=aA (aK W4)
    clear b4 YH
    go_wp2_with fail
    first | (change Code.wp _ _ _ _ (wo.alloc (.cells #[.int .i64 id,.string (bs qu),.slice xo xl xc] 48));rw [Yk]) | skip
    clear Yk c0 c1 c2 q0 q3 q5 r0 r3 r5 a0 a1 a2
    refine wp_region_held_drew (S:=fun wx=>Kp W4 wx) (by kernel_rfl) ((uH HS).drew (uH A0)) (fun S0=>?_)
    refine tW 0 18 _ S0 ?_
    simp only [zW]
    refine tW 1 19 _ S0 ?_
    simp only [zW]
    refine tW 2 20 _ S0 ?_
    simp only [zW]
    refine tW 3 21 _ S0 ?_
    simp only [zW]
    refine tW 4 22 (.int .i64 (nv - 1)) S0 ?_
    simp only [zW]
    cases ib
    have DEAD:=trivial
    refine yRq 5 rfl (fun K hK=>?_)
    go_simp
    refine (aQ id 1 (nv - 1) _).mono ?_
    rw [hib]
    rintro e wt ⟨rfl,rfl⟩
    have S1:=S0
    go_wp2_with fail
    refine hK.out _ _ S1 (fun S0=>?_)
    clear hK K S1
    try simp only [zW]
    refine tW 6 24 (.bool true) S0 ?_
    simp only [zW]
    refine tW 7 25 (.bool true) S0 ?_
    simp only [zW]
    refine tU 8 26 S0 <| tU 9 27 S0 <| tU 10 28 S0 <| tU 11 29 S0 <| tU 12 30 S0 <| tU 13 31 S0 <| tU 14 32 S0 <| tU 15 33 S0 <| tU 16 34 S0 <| tU 17 35 S0 <| tU 18 36 S0 <| tU 19 37 S0 <| tU 20 38 S0 <| tU 21 39 S0 <| ?_
    simp only [zW]
    rotate_left
    have hin:1≤id∧id≤nv - 1:=by simpa [inB] using hib
    refine yRq 5 rfl (fun K hK=>?_)
    go_simp
    refine (aQ id 1 (nv - 1) _).mono ?_
    rw [hib]
    rintro e wt ⟨rfl,rfl⟩
    have S1:=S0
    go_wp2_with fail
    refine hK.out _ _ S1 (fun S0=>?_)
    clear hK K S1
    try simp only [zW]
    refine tW 6 24 (.bool false) S0 ?_
    simp only [zW]
    refine tW 7 25 (.bool false) S0 ?_
    simp only [zW]
    by_cases hk0:k=0
    have Jy:last<id:=by have:=hlz hk0;omega
    have QR:=aA hk0
    clear hk0
    refine tW 8 26 _ S0 ?_
    simp only [zW]
    refine bW 9 27 (.bool false) rfl rfl S0 ?_ (hy:=Or.inl ⟨by rfl,fun wz hz=>by (go_simp;exact uH QR)⟩)
    try simp only [zW]
    refine tW 10 28 (.bool false) S0 ?_
    simp only [zW]
    refine tU 11 29 S0 <| tU 12 30 S0 <| tU 13 31 S0 <| tU 14 32 S0 <| tU 15 33 S0 <| tU 16 34 S0 <| tU 17 35 S0 <| tU 18 36 S0 <| tU 19 37 S0 <| tU 20 38 S0 <| ?_
    simp only [zW]
    refine tW 21 39 (.bool false) S0 ?_
    simp only [zW]
    rotate_left
    obtain ⟨k',hk'⟩:∃k',k=k'+1:=⟨k - 1,by omega⟩
    have hpv:=uH ZJ k' hk'
    have R2:∀wx,Kp W4 wx→wx.cell? ⟨b,off+k'*3,none⟩=some (.int .i64 last):=fun wx h=>h.cell hpv
    have TH:IntKind.i64.wrap ((k:Int) - 1)=k':=by rw [IntKind.wrap_i64];omega
    have kp0:(0:Int)≤k':=by omega
    have kp1:(k':Int)<al:=by omega
    have kp2:0<k:=by omega
    clear hk0 hk'
    refine tW 8 26 _ S0 ?_
    simp only [zW]
    refine tW 9 27 (.bool true) S0 ?_
    simp only [zW]
    refine tW 10 28 (.bool true) S0 ?_
    simp only [zW]
    refine tW 11 29 _ S0 ?_
    simp only [zW]
    refine tW 12 30 _ S0 ?_
    simp only [zW]
    refine tW 13 31 _ S0 ?_
    simp only [zW]
    refine tW 14 32 _ S0 ?_
    simp only [zW]
    refine tW 15 33 _ S0 ?_
    simp only [zW]
    refine tW 16 34 (.int .i64 k') S0 ?_
    simp only [zW]
    refine tW 17 35 (.pointer (some ⟨b,off+k'*3,none⟩)) S0 ?_
    simp only [zW]
    refine tW 18 36 _ S0 ?_
    simp only [zW]
    refine tW 19 37 (.int .i64 last) S0 ?_
    simp only [zW]
    by_cases hle:id≤last
    have DEAD:=trivial
    refine tW 20 38 (.bool true) S0 ?_
    simp only [zW]
    refine tW 21 39 (.bool true) S0 ?_
    simp only [zW]
    rotate_left
    have Jy:last<id:=by omega
    refine tW 20 38 (.bool false) S0 ?_
    simp only [zW]
    refine tW 21 39 (.bool false) S0 ?_
    simp only [zW]
    all_goals first
      | (have hyp:=DEAD
         refine tW 22 40 (.bool true) S0 ?_
         simp only [zW]
         refine tW 23 41 (.bool true) S0 ?_
         simp only [zW]
         refine tU 24 42 S0 <| tU 25 43 S0 <| tU 26 44 S0 <| tU 27 45 S0 <| tU 28 46 S0 <| tU 29 47 S0 <| ?_
         simp only [zW]
         refine tW 30 48 (.bool true) S0 ?_
         simp only [zW]
         refine tW 31 49 (.bool true) S0 ?_
         simp only [zW]
         refine tU 32 50 S0 <| tU 33 51 S0 <| tU 34 52 S0 <| tU 35 53 S0 <| ?_
         simp only [zW]
         refine tW 36 54 (.bool true) S0 ?_
         simp only [zW]
         refine wpAnyH_done (by kernel_rfl) ?_ _
         have GM:=aA (yB (uH G8) ((uH HS).below S0))
         have HF:=aA (show o=false by
           first
           | (rw [uH GD,decide_eq_false (show ¬last<id by omega)];simp;done)
           | (have hc:¬(1≤id∧id≤nv - 1):=fun hc=>by rw [cZ hc.1 hc.2] at hib;cases hib
              have hz:decide (last<id)=false∨decide (id<nv)=false:=by simp only [decide_eq_false_iff_not];omega
              rw [uH GD];rcases hz with hz | hz<;>rw [hz]<;>simp))
         go_wp2
         go_ret
         exact ⟨yF (uH HF).symm,uH GM⟩)
      | skip
    all_goals
      refine tW 22 40 (.bool false) S0 ?_
      simp only [zW]
      refine tW 23 41 (.bool false) S0 ?_
      simp only [zW]
      refine tW 24 42 _ S0 ?_
      simp only [zW]
      refine tW 25 43 _ S0 ?_
      simp only [zW]
      refine tW 26 44 _ S0 ?_
      simp only [zW]
      refine tW 27 45 _ S0 ?_
      simp only [zW]
      cases lo
      case false=>
        refine yRq 28 rfl (fun K hK=>?_)
        go_simp
        refine (uH CL _ (yB (uH G8) ((uH HS).below S0))).mono ?_
        rintro e wt ⟨rfl,hb⟩
        have S1:=(uH HS).call S0 hb
        clear hb
        go_wp2_with fail
        refine hK.out _ _ S1 (fun S0=>?_)
        clear hK K S1
        try simp only [zW]
        refine tW 29 47 (.bool true) S0 ?_
        simp only [zW]
        refine tW 30 48 (.bool true) S0 ?_
        simp only [zW]
        refine tW 31 49 (.bool true) S0 ?_
        simp only [zW]
        refine tU 32 50 S0 <| tU 33 51 S0 <| tU 34 52 S0 <| tU 35 53 S0 <| ?_
        simp only [zW]
        refine tW 36 54 (.bool true) S0 ?_
        simp only [zW]
        refine wpAnyH_done (by kernel_rfl) ?_ _
        have GM:=aA (yB (uH G8) ((uH HS).below S0))
        have HF:=aA (show o=false by
          rw [uH GD];simp)
        go_wp2
        go_ret
        exact ⟨yF (uH HF).symm,uH GM⟩
      refine yRq 28 rfl (fun K hK=>?_)
      go_simp
      refine (uH CL _ (yB (uH G8) ((uH HS).below S0))).mono ?_
      rintro e wt ⟨rfl,hb⟩
      have S1:=(uH HS).call S0 hb
      clear hb
      go_wp2_with fail
      refine hK.out _ _ S1 (fun S0=>?_)
      clear hK K S1
      try simp only [zW]
      refine tW 29 47 (.bool false) S0 ?_
      simp only [zW]
      refine tW 30 48 (.bool false) S0 ?_
      simp only [zW]
      refine tW 31 49 (.bool false) S0 ?_
      simp only [zW]
      refine tW 32 50 _ S0 ?_
      simp only [zW]
      refine tW 33 51 _ S0 ?_
      simp only [zW]
      by_cases h10:10<xl
      · have RB:(10:Int)<xl:=by omega
        refine tW 34 52 (.int .i64 xl) S0 ?_
        simp only [zW]
        refine tW 35 53 (.bool true) S0 ?_
        simp only [zW]
        refine tW 36 54 (.bool true) S0 ?_
        simp only [zW]
        refine wpAnyH_done (by kernel_rfl) ?_ _
        have GM:=aA (yB (uH G8) ((uH HS).below S0))
        have HF:=aA (show o=false by
          rw [uH GD,decide_eq_false (show ¬xl≤10 by omega)];simp)
        go_wp2
        go_ret
        exact ⟨yF (uH HF).symm,uH GM⟩
      have RB:¬(10:Int)<xl:=by omega
      refine tW 34 52 (.int .i64 xl) S0 ?_
      simp only [zW]
      refine tW 35 53 (.bool false) S0 ?_
      simp only [zW]
      refine tW 36 54 (.bool false) S0 ?_
      simp only [zW]
      refine wpAnyH_done (by kernel_rfl) ?_ _
      have ZQ:=aA (show o=((asks.drop 0).all iN&&(dA qs nv id (aj.drop (k+1))&&decide (al≤40))) by rw [uH GD,decide_eq_true Jy,decide_eq_true (show id<nv by omega),decide_eq_true (show xl≤10 by omega)];simp [Bool.and_assoc])
      have HQ:=aA S0
      have z2:=(R _ S0).2.2.2.2.2
      clear GD A0 HS R S0 CL ZJ
      go_wp2
      go_loopw [5] (fun i wr=>∃(j:Nat),j≤xl∧i=.int .i64 j∧Hid (o=((asks.drop j).all iN&&(dA qs nv id (aj.drop (k+1))&&decide (al≤40))))∧Hid (Kp W4 wr)) (fun i _=>xl - (intOf i).toNat)
      case atStart=>exact ⟨0,Nat.zero_le _,rfl,ZQ,HQ⟩
      case round=>
        obtain ⟨j,hj,rfl,Rq,ZU⟩:=hrel
        clear ZQ HQ z2
        have z2:=(uH ZU).cell ((uH P4).at 2:W4.cell? ⟨wo.heap.size,2,none⟩=some (.slice xo xl xc))
        have UZ:=aA (yB (uH G8) (uH ZU))
        by_cases hjl:j<xl
        case neg=>
          have j1:¬(j:Int)<xl:=by omega
          have kz:=aA (show o=(dA qs nv id (aj.drop (k+1))&&decide (al≤40)) by rw [uH Rq,List.drop_of_length_le (by have:=uH Z8;omega)];simp)
          go_wp2
          go_roundw
          case rel=>exact ⟨k+1,id,by omega,by go_num,kz,aA ⟨by omega,fun e=>by omega,uH DV⟩,aA (yB (uH Qy) (uH ZU))⟩
          case measure=>simp [intOf];omega
        have j0:(0:Int)≤j:=by omega
        have j1:(j:Int)<xl:=by omega
        obtain ⟨ab,aoff,rfl,ha⟩:=((uH HA).below (uH UZ)).at hjl
        have hjk:j<asks.length:=by have:=uH Z8;omega
        have hst:=aJC (p:=iN) hjk
        have hnd:=uH J4 _ (yM hjk)
        obtain ⟨d0,d1,d2,d3,d4⟩:=ha hjk
        obtain ⟨q,hs⟩:∃s,asks[j]=s:=⟨_,rfl⟩
        rw [hs] at d0 d1 d2 d3 d4 hst hnd
        have CA:=aA (fun wx=>aA8 q wx hnd)
        obtain ⟨ok,hok⟩:∃b,iN q=b:=⟨_,rfl⟩
        rw [hok] at CA hst
        have jw:=aA (show o=(ok&&((asks.drop (j+1)).all iN&&(dA qs nv id (aj.drop (k+1))&&decide (al≤40)))) by rw [uH Rq,hst,Bool.and_assoc])
        clear ha hs hjk hnd hst hok Rq
        obtain ⟨me,cp,ct,nd,mi⟩:=q
        simp only at d0 d1 d2 d3 d4
        go_wp2_with fail
        refine (uH CA _).mono ?_
        rintro e w5 ⟨rfl,hb⟩
        have XE:=aA (show Kp W4 _ from yB (uH ZU) hb)
        have GR:=aA (yB (uH UZ) hb)
        clear hb CA d0 d1 d2 d3 d4 z2
        cases ok
        case false=>
          go_wp2
          go_ret
          exact ⟨yF (by rw [uH jw];simp),uH GR⟩
        go_wp2
        go_roundw
        case rel=>exact ⟨j+1,by omega,by go_num,aA (by rw [uH jw];simp),XE⟩
        case measure=>simp [intOf];omega
end
section
open Go.RowKit Go.Shelf
variable {p:Nat}
attribute [local go_sem] Oper.semAt_some
abbrev aKi (st:List Int):List Value:=st.map (Value.int .i64)
def KpC (p:Nat) (W W':World):Prop:=∀k o,k≠p→W.heap[k]? = some o→o.isCells=true→W'.heap[k]? = some o
theorem aJn {A B C:World} (h:KpC p A B) (k:KpC p B C):KpC p A C:=fun i o hi ho hc=>k i o hi (h i o hi ho hc) hc
theorem aLN {w:World} (W:World) (l:Nat) (o o':Obj) (hl:w.heap.size≤l) (h:W.heap[l]? = some o) (h1:o.isCells=false) (h2:o.isWalk=false):KpC p W (W.putObj l o'):=fun k q hk hq hc=>by
 have hne:k≠l:=fun e=>by
  subst e
  rw [hq] at h
  cases h
  rw [h1] at hc
  cases hc
 exact ((grownBy_putObj' W l o').block k (lt_of_block hq) (by simp;omega)).trans hq
theorem aHC {W W':World} (h:Bw W W'):KpC p W W':=fun k o _ ho _=>(h.block k (lt_of_block ho)).trans ho
theorem aHB (W:World) (j:Nat) (u:Value):KpC p W (W.setCell ⟨p,j,none⟩ u):=fun k o hk ho _=>(heap_setCell_other W ⟨p,j,none⟩ k u hk).trans ho
theorem aIr (n l Bs:Nat) (J:List (Int×Int)→World→Prop) (W:World) (GQ:W.cell? ⟨Bs,0,none⟩=some (.slice none 0 0)) (h0:J [] W) :
  CallsIn Fence.wide n Tryz.prog 187 #[.func (.yield l) #[] #[],.pointer (some ⟨Bs,0,none⟩)] W fun e W'=>(∃v,e=.returned v)∧J [] W':=by
 refine callsIn_of_wp Tryz.func187 rfl trivial ?_ rfl
 simp only [Tryz.ntmps187,List.size_toArray,List.length_cons,List.length_nil,Nat.reduceAdd,Nat.reduceSub,Array.replicate_succ,Array.replicate_zero,List.push_toArray,List.append_toArray,List.nil_append,List.cons_append]
 gi_wp2
 gi_loopw [3] (fun i wr=>i=.int .i64 (-1)∧J [] wr) (fun _ _=>0)
 case atStart=>exact ⟨by go_num,h0⟩
 case round=>
  obtain ⟨rfl,hJs⟩:=hrel
  gi_wp2
  go_end0
  exact ⟨⟨_,rfl⟩,hJs⟩
theorem aHb (n l Bs p g cap:Nat) (st:List Int) (J Jx:List (Int×Int)→World→Prop)
  (hY:∀pre x W1,J pre W1→pre.length<st.length→YieldAt Fence.wide (n - 1) Tryz.prog l #[.int .i64 x.1,.int .i64 x.2] W1 fun e W'=>
   (e=.returned (.bool true)∧J (pre++[x]) W'∧KpC p W1 W')∨(e=.returned (.bool false)∧Jx (pre++[x]) W'))
  (W:World) (cur:Array Value) (GQ:Go.Boxed W Bs 32 (.slice (some ⟨g,0,none⟩) st.length cap)) (hg:W.heap[g]? = some (.cells cur 3 (0,0))) (hcur:∀j (h:j<st.length),cur[j]? = some (.int .i64 st[j])) (hp:Bs≠p) (hpg:g≠p) (hl:st.length≤1048576) (h0:J [] W) :
  CallsIn Fence.wide n Tryz.prog 187 #[.func (.yield l) #[] #[],.pointer (some ⟨Bs,0,none⟩)] W fun e W'=>(∃v,e=.returned v)∧
   ((∃ys:List (Int×Int),Hid (ys.map Prod.snd=st.reverse)∧J ys W')∨(∃pre,Jx pre W')):=by
 have HY:=aA hY
 have yw:=aA GQ
 have HG:=aA hg
 have HCU:=aA hcur
 have H0:=aA h0
 have hc0:=GQ.cell
 clear hY GQ hg hcur h0
 refine callsIn_of_wp Tryz.func187 rfl trivial ?_ rfl
 simp only [Tryz.ntmps187,List.size_toArray,List.length_cons,List.length_nil,Nat.reduceAdd,Nat.reduceSub,Array.replicate_succ,Array.replicate_zero,List.push_toArray,List.append_toArray,List.nil_append,List.cons_append]
 gi_wp2
 clear hc0
 gi_loopw [3] (fun i wr=>∃(k:Nat) (pre:List (Int×Int)),k≤st.length∧i=.int .i64 ((k:Int) - 1)∧Hid (pre.length+k=st.length)∧Hid (pre.map Prod.snd=(st.drop k).reverse)∧Hid (J pre wr)∧Hid (Go.Boxed wr Bs 32 (.slice (some ⟨g,0,none⟩) st.length cap))∧Hid (wr.heap[g]? = some (.cells cur 3 (0,0)))) (fun i _=>(intOf i+1).toNat)
 case atStart=>exact ⟨st.length,[],yJ _,by go_num,aA (by simp),aA (by simp),H0,yw,HG⟩
 case round=>
  obtain ⟨k,pre,hk,rfl,HL,HM,HJ,HB,XF⟩:=hrel
  cases k with
  | zero=>
   gi_wp2
   go_end0
   exact ⟨⟨_,rfl⟩,.inl ⟨pre,aA (by rw [uH HM];rfl),uH HJ⟩⟩
  | succ j=>
   have hj:j<st.length:=by omega
   have Q8:wr.cell? ⟨g,j,none⟩=some (.int .i64 st[j]):=by
    have:=uH HCU j hj
    simp [World.cell?,uH XF,this]
   have Qx:=(uH HB).cell
   obtain ⟨fn,tmps,assign,body,hy,hR⟩:=uH HY pre ((j:Int),st[j]) wr (uH HJ) (by have:=uH HL;omega)
   have HRR:=aA hR
   have QD:=aA (show (pre++[((j:Int),st[j])]).map Prod.snd=(st.drop j).reverse by rw [List.map_append,uH HM,List.drop_eq_getElem_cons hj,List.reverse_cons];rfl)
   have hij:((j+1:Nat):Int) - 1=(j:Int):=by omega
   obtain ⟨y,ZE⟩:∃y,st[j]=y:=⟨_,rfl⟩
   rw [ZE] at Q8 hy HRR QD
   simp only at hy
   rw [hij]
   have j0:(0:Int)≤j:=by omega
   have j1:(j:Int)<st.length:=by omega
   clear hR ZE hij HM
   gi_wp2
   refine ⟨(by intro e;cases e),?_⟩
   refine (uH HRR).mono ?_
   rintro e W3 (⟨rfl,hJ3,hk3⟩ | ⟨rfl,QN⟩)
   ·have HB3:=aA (show Go.Boxed W3 Bs 32 (.slice (some ⟨g,0,none⟩) st.length cap) from hk3 Bs _ hp (uH HB) rfl)
    have vk:=aA (hk3 g _ hpg (uH XF) rfl)
    have Ky:=aA hJ3
    clear hk3 hJ3 Q8 Qx hy HRR
    gi_wp2
    go_roundw
    case rel=>exact ⟨j,pre++[((j:Int),y)],by omega,by go_num,aA (by have:=uH HL;simp;omega),QD,Ky,HB3,vk⟩
    case measure=>simp [intOf]
   ·gi_wp2
    refine bodyPost_ret (results_none rfl _ _ _) rfl ?_
    exact ⟨⟨_,rfl⟩,.inr ⟨_,QN⟩⟩
theorem aFq (n Bs p base:Nat) (v:Value) (st:List Int) (w:World) (GQ:Go.Boxed w Bs 32 v) (Hw:w.ownsRow base 3 1 v st.length (aKi st)) (hp:Bs≠p) (hpv:some p≠v.ownBlock) (hl:st.length≤1048576) :
  SeqStopsK Fence.wide n Tryz.prog 187 #[.pointer (some ⟨Bs,0,none⟩)] (fun x:Int×Int=>#[.int .i64 x.1,.int .i64 x.2]) (KpC p) (fun ys=>Hid (ys.map Prod.snd=st.reverse)) (fun _=>True) st.length w:=by
 intro l J Jx W hW hJ hJx hY h0
 have hB:Go.Boxed W Bs 32 v:=fT GQ hW
 have hr:=wX Hw hW
 rcases hr.2 with ⟨rfl,hz⟩ | ⟨g,cap,cur,rfl,_,hgb,hle,_,hsz,hx⟩
 ·have:st=[]:=List.eq_nil_of_length_eq_zero hz
  subst this
  exact (aIr n l Bs J W hB.cell h0).mono fun e W' ⟨he,hj⟩=>⟨he,.inl ⟨[],aA rfl,hj⟩⟩
 ·refine (aHb n l Bs p g cap st J Jx hY W cur hB hgb (fun j h=>?_) hp (fun e=>hpv (by simp [Value.ownBlock,e])) hl h0).mono ?_
  ·have e1:(cur.toList.take (st.length*1))[j]? = some (.int .i64 st[j]):=by rw [hx];simp [h]
   rw [List.getElem?_take_of_lt (by omega)] at e1
   simpa using e1
  ·rintro e W' ⟨he,⟨ys,h1,h2⟩ | ⟨pre,h2⟩⟩
   ·exact ⟨he,.inl ⟨ys,h1,h2⟩⟩
   ·exact ⟨he,.inr ⟨pre,trivial,h2⟩⟩
theorem aIs (v:Value) (w:World) (hv:v.oneCell'=true) :
  cP 151 #[v] w fun e w'=>e=.returned (.func (.func 187) #[] #[.pointer (some ⟨w.heap.size,0,none⟩)])∧w.alloc (.cells #[v] 32)=w':=by
 have KQ:∀(fn:Fn) (first cap:Array Value) (w:World),(Instr.makeFunc fn first cap).run Tryz.prog w=.ok (.func fn first cap) w:=fun _ _ _ _=>rfl
 go_enter Tryz.func151,Tryz.ntmps151
 go_wp2
 go_ret
 exact ⟨rfl,rfl⟩
end
end Go.Proofs.YtngkddhcmfbjnaaGreat
