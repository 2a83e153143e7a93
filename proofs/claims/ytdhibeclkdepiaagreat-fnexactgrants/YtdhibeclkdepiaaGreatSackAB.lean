/-
  The ask that is served next on a machine: what the model's l05Pick answers; a walk over the dump.
-/
import Derived.Test.YtdhibeclkdepiaaGreatSackZ
set_option maxRecDepth 100000
set_option maxHeartbeats 16000000
set_option linter.unusedVariables false
set_option linter.unusedSimpArgs false
namespace Go.Proofs.YtdhibeclkdepiaaGreat
section
open Go.RowKit Go.Maps
def plS:Option (Nat×Nat)→Int×Int
 | some r=>((r.1:Int),(r.2:Int))
 | none=>(-1,-1)
theorem aEF (x:Sls) (s:St) (nd:List UInt8) (w:World) (h:jC w x s) (hf:bD s) :
  Calls Tryz.prog 98 #[sv x s,.string (bs nd)] w fun e w'=>e=.returned (.tuple #[.int .i64 (plS (nN s nd)).1,.int .i64 (plS (nN s nd)).2])∧Below w.heap.size w w':=by
 have hal:x.al≤1048576:=h.al hf
 have CF:=aA (fun wx (hb:Below w.heap.size w wx)=>zD x s nd wx (h.below hb) hf)
 have CO:=aA (fun wx (hb:Below w.heap.size w wx)=>qG x s wx (h.below hb) hf)
 have CR:=aA (fun nm rx ry wx (hb:Below w.heap.size w wx)=>aBz x s nm rx ry wx (h.below hb) hf)
 have HR:=aA h.2.1
 have HL:=aA h.2.1.1
 have HFA:=aA hf.2.1
 have HOL:=aA (show (gT s).length≤1048576 from by have:=aAV s;have:=h.1.1;have:=h.ql hf;omega)
 have HQS:=aA (fun i (hi:i<(gT s).length)=>tT (s:=s) (nd:=nd) hi)
 have HQE:=aA (fun i (hi:(gT s).length≤i)=>vY (s:=s) (nd:=nd) hi)
 have HCN:=aA (show ∀qu a,aIf s nd qu a=(jJ a nd&&(within a.mem a.cpu (fI s nd).1 (fI s nd).2&&aDf s qu a.mem a.cpu)) from fun qu a=>rfl)
 obtain ⟨pr,hpr⟩:∃p,nN s nd=p:=⟨_,rfl⟩
 have HP0:=aA (show iA s nd ((gT s).drop 0)=pr from hpr)
 rw [hpr]
 obtain ⟨⟨fx,fy⟩,hfr⟩:∃p,fI s nd=p:=⟨_,rfl⟩
 obtain ⟨ord,hord⟩:∃p,gT s=p:=⟨_,rfl⟩
 obtain ⟨cn,hcn⟩:∃p,aIf s nd=p:=⟨_,rfl⟩
 obtain ⟨qf,hqf⟩:∃p,iA s nd=p:=⟨_,rfl⟩
 obtain ⟨rm,hrm⟩:∃p,aDf s=p:=⟨_,rfl⟩
 rw [hfr,hcn,hrm] at HCN
 rw [hrm] at CR
 rw [hfr] at CF
 rw [hord] at CO HOL HQS HQE HP0
 rw [hcn,hqf] at HQS
 rw [hqf] at HQE HP0
 clear h hf hpr hfr hord hcn hqf hrm
 obtain ⟨qa,ql,qc,aa,al,ac,ma,ml,mc,ca,cl,cc⟩:=x
 obtain ⟨qs,clock,epoch,next,serial,apps,ms,cs⟩:=s
 simp only at CF CO CR HR HL HFA HQS HCN hal
 have hol:ord.length≤1048576:=uH HOL
 have HB0:=aA (yA (yH _ w) (.cells (svc ⟨qa,ql,qc,aa,al,ac,ma,ml,mc,ca,cl,cc⟩ ⟨qs,clock,epoch,next,serial,apps,ms,cs⟩) 34))
 have P0:=aA (yD w (svc ⟨qa,ql,qc,aa,al,ac,ma,ml,mc,ca,cl,cc⟩ ⟨qs,clock,epoch,next,serial,apps,ms,cs⟩) 34)
 obtain ⟨q0,q1,q2,q3,q4,q5,q6,q7⟩:=zq (uH P0)
 go_enter Tryz.func98,Tryz.ntmps98
 go_wp2_with fail
 refine (uH CO _ (uH HB0)).mono ?_
 rintro e w1 ⟨v0,rfl,ht,hb⟩
 obtain ⟨vo,vc,rfl,hrow⟩:=ht.open
 have HROW1:=aA hrow
 have HB1:=aA (yB (uH HB0) hb)
 have P1:=aA ((uH P0).below hb)
 clear hb ht hrow HB0 P0 CO q0 q1 q2 q3 q4 q5 q6 q7
 obtain ⟨q0,q1,q2,q3,q4,q5,q6,q7⟩:=zq (uH P1)
 go_wp2_with fail
 refine (uH CF _ (uH HB1)).mono ?_
 rintro e w2 ⟨rfl,hb⟩
 have hba:=yB hb (yA (yH _ w2) (.cells #[.int .i64 fx,.int .i64 fy] 36))
 have HB2:=aA (yB (uH HB1) hba)
 have P2:=aA ((uH P1).below hba)
 have F2:=aA (aH w2 36 fx fy)
 have HROW:=aA (fun j (hj:j<ord.length)=>show ∃g,vo=some ⟨g,0,none⟩∧(w2.alloc (.cells #[.int .i64 fx,.int .i64 fy] 36)).cell? ⟨g,j,none⟩=some (.string (bs ord[j])) from by
  obtain ⟨g,h1,h2⟩:=uH HROW1 j hj
  exact ⟨g,h1,(hba.cell (p:=⟨g,j,none⟩) (yG h2)).trans h2⟩)
 clear hb hba HB1 P1 CF HROW1 q0 q1 q2 q3 q4 q5 q6 q7
 go_wp2_with fail
 obtain ⟨gf,hgf⟩:∃g,w2.heap.size=g:=⟨_,rfl⟩
 rw [hgf] at F2
 try rw [hgf]
 obtain ⟨W2,hW2⟩:∃W,w2.alloc (.cells #[.int .i64 fx,.int .i64 fy] 36)=W:=⟨_,rfl⟩
 rw [hW2] at HB2 P2 F2 HROW
 try rw [hW2]
 clear hgf hW2
 obtain ⟨q0,q1,q2,q3,q4,q5,q6,q7⟩:=zq (uH P2)
 go_loopw [8,9,10,11] (fun i _ _ _ wr=>∃q:Nat,q≤ord.length∧i=.int .i64 q∧Hid (qf (ord.drop q)=pr)∧Hid (Below W2.heap.size W2 wr)) (fun i _ _ _ _=>ord.length - (intOf i).toNat)
 case atStart=>exact ⟨0,Nat.zero_le _,rfl,HP0,aA (yH _ _)⟩
 case round=>
  obtain ⟨q,hq,rfl,HQ,HK⟩:=hrel
  obtain ⟨wq,rfl⟩:∃wo:World,wo=wr:=⟨_,rfl⟩
  clear HP0 q0 q1 q2 q3 q4 q5 q6 q7
  by_cases hlt:q<ord.length
  ·obtain ⟨gv,rfl,hcv0⟩:=uH HROW q hlt
   have HCV0:=aA hcv0
   have hst:=uH HQS q hlt
   obtain ⟨qn,hqn⟩:∃n,ord[q]=n:=⟨_,rfl⟩
   rw [hqn] at HCV0 hst
   rw [uH HQ] at hst
   obtain ⟨rr,hrr⟩:∃r,dO (cn qn) qn apps 0=r:=⟨_,rfl⟩
   rw [hrr] at hst
   have HRR:=aA hrr
   have HSQ:=aA hst
   have HCV1:=aA (uH HCN qn)
   have m0:(0:Int)≤q:=by omega
   have m1:(q:Int)<ord.length:=by omega
   clear hcv0 hst hqn hrr HQ
   go_wp2_with fail
   go_loopw [9,10,11] (fun i _ _ wr=>∃i':Nat,i'≤al∧i=.int .i64 i'∧Hid (dO (cn qn) qn (apps.drop i') i'=rr)∧Hid (Below W2.heap.size W2 wr)) (fun i _ _ _=>al - (intOf i).toNat)
   case atStart=>exact ⟨0,Nat.zero_le _,rfl,aA (uH HRR),HK⟩
   case round=>
    obtain ⟨i,hi,rfl,HI,HKi⟩:=hrel
    obtain ⟨wi,rfl⟩:∃wo:World,wo=wr:=⟨_,rfl⟩
    have HBi:=aA (yB (uH HB2) (uH HKi))
    have Pi:=aA ((uH P2).below (uH HKi))
    obtain ⟨q0,q1,q2,q3,q4,q5,q6,q7⟩:=zq (uH Pi)
    have hcv:=Kp.cell (uH HKi) (uH HCV0)
    by_cases hil:i<al
    ·obtain ⟨bb,off,rfl,hqa⟩:=(uH HR).at hil
     have hkl:i<apps.length:=by have:=uH HL;omega
     have hst:=uO (p:=cn qn) (qu:=qn) hkl
     have hfa:=(uH HFA).2 _ (yM hkl)
     obtain ⟨xo,xl,xc,c0,c1,c2,hrow,_⟩:=hqa hkl
     obtain ⟨⟨id,qu,asks⟩,hs⟩:∃s,apps[i]=s:=⟨_,rfl⟩
     rw [hs] at c0 c1 hst hrow hfa
     simp only at c0 c1 hst hrow
     rw [uH HI] at hst
     have HC2:=aA c2
     replace c0:=Kp.cell (uH HBi) c0
     replace c1:=Kp.cell (uH HBi) c1
     replace c2:=Kp.cell (uH HBi) c2
     have hxl:xl≤1048576:=by have h1:=hrow.1;have h2:=hfa.2.1;simp only at h2;omega
     have HA:=aA hrow
     have HAL:=aA hrow.1
     have i0:(0:Int)≤i:=by omega
     have i1:(i:Int)<al:=by omega
     clear hqa hs hkl hrow hfa HI
     by_cases hqn:qu=qn
     case neg=>
      have hqe:=nS qu qn
      rw [decide_eq_false hqn] at hqe
      rw [if_neg hqn] at hst
      have HST:=aA hst
      clear hst
      go_wp2_with fail
      go_quiet (fail)
      go_wp2
      go_roundw
      case rel=>exact ⟨i+1,by omega,by go_num,aA (uH HST).symm,aA (jR (uH HKi) _)⟩
      case measure=>simp [intOf];omega
     subst hqn
     have hqe:=nS qu qu
     rw [decide_eq_true rfl] at hqe
     rw [if_pos rfl] at hst
     obtain ⟨ak,hak⟩:∃a,fM (cn qu) asks 0=a:=⟨_,rfl⟩
     rw [hak] at hst
     have HSA:=aA hst
     have HAK:=aA hak
     have HKi2:=aA (fun n=>jR (uH HKi) n)
     clear hst hak
     go_wp2_with fail
     go_quiet (fail)
     go_wp2_with fail
     clear q0 q1 q2 q3 q4 q5 q6 q7 c0 c1 c2 hcv
     go_loopw [10,11] (fun i _ wr=>∃k:Nat,k≤xl∧i=.int .i64 k∧Hid (fM (cn qu) (asks.drop k) k=ak)∧Hid (Below W2.heap.size W2 wr)) (fun i _ _=>xl - (intOf i).toNat)
     case atStart=>exact ⟨0,Nat.zero_le _,rfl,aA (uH HAK),aA (uH HKi2 _)⟩
     case round=>
      obtain ⟨k,hk,rfl,HKA,HKk⟩:=hrel
      obtain ⟨wk,rfl⟩:∃wo:World,wo=wr:=⟨_,rfl⟩
      have HBk:=aA (yB (uH HB2) (uH HKk))
      have Pk:=aA ((uH P2).below (uH HKk))
      obtain ⟨q0,q1,q2,q3,q4,q5,q6,q7⟩:=zq (uH Pk)
      have c2:=Kp.cell (uH HBk) (uH HC2)
      clear HAK HKi2
      by_cases hkl:k<xl
      ·obtain ⟨ab,aoff,rfl,ha⟩:=((uH HA).below (uH HBk)).at hkl
       have hjk:k<asks.length:=by have:=uH HAL;omega
       have hst:=uM (p:=cn qu) hjk
       obtain ⟨d0,d1,d2,d3,d4⟩:=ha hjk
       obtain ⟨a,hs⟩:∃s,asks[k]=s:=⟨_,rfl⟩
       rw [hs] at d0 d1 d2 d3 d4 hst
       rw [uH HKA] at hst
       have HST:=aA hst
       have HCV:=aA (uH HCV1 a)
       have CS1:=aA (fun wx=>qE a nd wx)
       have CW1:=aA (fun wx=>eX a.mem a.cpu fx fy wx)
       have CR1:=aA (fun wx (hb:Below w.heap.size w wx)=>uH CR qu a.mem a.cpu wx hb)
       obtain ⟨su,hsu⟩:∃b,jJ a nd=b:=⟨_,rfl⟩
       obtain ⟨b1,hb1⟩:∃b,within a.mem a.cpu fx fy=b:=⟨_,rfl⟩
       obtain ⟨b2,hb2⟩:∃b,rm qu a.mem a.cpu=b:=⟨_,rfl⟩
       rw [hsu] at CS1
       rw [hb1] at CW1
       rw [hb2] at CR1
       rw [hsu,hb1,hb2] at HCV
       have j0:(0:Int)≤k:=by omega
       have j1:(k:Int)<xl:=by omega
       clear ha hs hjk hst HKA hsu hb1 hb2
       obtain ⟨me,cp,ct,nx,mi⟩:=a
       simp only at d0 d1 d2 d3 d4 CS1 CW1 CR1
       have hba:=yA (yH _ wk) (.cells #[.int .i64 me,.int .i64 cp,.int .i64 ct,.string (bs nx),.int .i64 mi] 77)
       have HK7:=aA (yB (uH HKk) hba)
       have A7:=aA (yD wk #[.int .i64 me,.int .i64 cp,.int .i64 ct,.string (bs nx),.int .i64 mi] 77)
       clear hba
       go_wp2_with fail
       obtain ⟨g7,hg7⟩:∃g,wk.heap.size=g:=⟨_,rfl⟩
       rw [hg7] at A7
       try rw [hg7]
       obtain ⟨W7,hW7⟩:∃W,wk.alloc (.cells #[.int .i64 me,.int .i64 cp,.int .i64 ct,.string (bs nx),.int .i64 mi] 77)=W:=⟨_,rfl⟩
       rw [hW7] at HK7 A7
       try rw [hW7]
       clear hg7 hW7 q0 q1 q2 q3 q4 q5 q6 q7 c2 d0 d1 d2 d3 d4
       have HB7:=aA (yB (uH HB2) (uH HK7))
       have R:∀wx,Kp W7 wx→wx.cell? ⟨w.heap.size,0,none⟩=some (.slice qa ql qc)∧wx.cell? ⟨w.heap.size,1,none⟩=some (.int .i64 clock)∧wx.cell? ⟨w.heap.size,2,none⟩=some (.int .i64 epoch)∧wx.cell? ⟨w.heap.size,3,none⟩=some (.int .i64 next)∧wx.cell? ⟨w.heap.size,4,none⟩=some (.int .i64 serial)∧wx.cell? ⟨w.heap.size,5,none⟩=some (.slice (some ⟨bb,off,none⟩) al ac)∧wx.cell? ⟨w.heap.size,6,none⟩=some (.slice ma ml mc)∧wx.cell? ⟨w.heap.size,7,none⟩=some (.slice ca cl cc)∧wx.cell? ⟨g7,0,none⟩=some (.int .i64 me)∧wx.cell? ⟨g7,1,none⟩=some (.int .i64 cp)∧wx.cell? ⟨g7,2,none⟩=some (.int .i64 ct)∧wx.cell? ⟨g7,3,none⟩=some (.string (bs nx))∧wx.cell? ⟨g7,4,none⟩=some (.int .i64 mi)∧wx.cell? ⟨gf,0,none⟩=some (.int .i64 fx)∧wx.cell? ⟨gf,1,none⟩=some (.int .i64 fy)∧wx.cell? ⟨gv,q,none⟩=some (.string (bs qu)):=fun wx h=>by
        have h2:=yB (uH HK7) h
        have p:=(uH P2).below h2
        have a:=(uH A7).below h
        have f:=(uH F2).below h2
        exact ⟨by simpa using p.at 0,by simpa using p.at 1,by simpa using p.at 2,by simpa using p.at 3,by simpa using p.at 4,by simpa using p.at 5,by simpa using p.at 6,by simpa using p.at 7,by simpa using a.at 0,by simpa using a.at 1,by simpa using a.at 2,by simpa using a.at 3,by simpa using a.at 4,f.c0,f.c1,Kp.cell h2 (uH HCV0)⟩
       have A0:=aA (Kp.new W7)
       have HS:=aA (dE W7)
       refine wp_region_held_drew (S:=fun wx=>Kp W7 wx) (by kernel_rfl) ((uH HS).drew (uH A0)) (fun S0=>?_)
       refine tW 0 61 _ S0 ?_
       try simp only [zW]
       refine tW 1 62 _ S0 ?_
       try simp only [zW]
       refine wpAnyH_ready (rs:=[2]) (by kernel_rfl) (by simp) (AllReadyH.cons rfl (fun K hK=>?_) AllReadyH.nil)
       go_simp
       refine (uH CS1 _).mono ?_
       rintro e wt ⟨rfl,hb⟩
       have S1:=(uH HS).call S0 hb
       go_wp2_with fail
       refine hK.out _ _ S1 (fun S0=>?_)
       clear hK K S1
       try simp only [zW]
       cases su
       case false=>
        refine tW 3 64 _ S0 ?_
        try simp only [zW]
        refine tU 4 65 S0 ?_
        try simp only [zW]
        refine tU 5 66 S0 ?_
        try simp only [zW]
        refine tU 6 67 S0 ?_
        try simp only [zW]
        refine tU 7 68 S0 ?_
        try simp only [zW]
        refine tW 8 69 _ S0 ?_
        try simp only [zW]
        refine tW 9 70 _ S0 ?_
        try simp only [zW]
        refine tU 10 71 S0 ?_
        try simp only [zW]
        refine tU 11 72 S0 ?_
        try simp only [zW]
        refine tU 12 73 S0 ?_
        try simp only [zW]
        refine tU 13 74 S0 ?_
        try simp only [zW]
        refine tU 14 75 S0 ?_
        try simp only [zW]
        refine tU 15 76 S0 ?_
        try simp only [zW]
        refine tU 16 77 S0 ?_
        try simp only [zW]
        refine tU 17 78 S0 ?_
        try simp only [zW]
        refine tW 18 79 _ S0 ?_
        try simp only [zW]
        refine wpAnyH_done (by kernel_rfl) ?_ _
        have HK8:=aA (yB (uH HK7) ((uH HS).below S0))
        clear R
        go_wp2
        go_roundw
        case rel=>exact ⟨k+1,by omega,by go_num,aA (by have:=uH HST;rw [if_neg (by rw [uH HCV];simp)] at this;exact this.symm),HK8⟩
        case measure=>simp [intOf];omega
       case true=>
        refine tW 3 64 _ S0 ?_
        try simp only [zW]
        refine tW 4 65 _ S0 ?_
        try simp only [zW]
        refine tW 5 66 _ S0 ?_
        try simp only [zW]
        refine tW 6 67 _ S0 ?_
        try simp only [zW]
        refine wpAnyH_ready (rs:=[7]) (by kernel_rfl) (by simp) (AllReadyH.cons rfl (fun K hK=>?_) AllReadyH.nil)
        go_simp
        refine (uH CW1 _).mono ?_
        rintro e wt2 ⟨rfl,hb2⟩
        have S1:=(uH HS).call S0 hb2
        go_wp2_with fail
        refine hK.out _ _ S1 (fun S0=>?_)
        clear hK K S1
        try simp only [zW]
        cases b1
        case false=>
         refine tW 8 69 _ S0 ?_
         try simp only [zW]
         refine tW 9 70 _ S0 ?_
         try simp only [zW]
         refine tU 10 71 S0 ?_
         try simp only [zW]
         refine tU 11 72 S0 ?_
         try simp only [zW]
         refine tU 12 73 S0 ?_
         try simp only [zW]
         refine tU 13 74 S0 ?_
         try simp only [zW]
         refine tU 14 75 S0 ?_
         try simp only [zW]
         refine tU 15 76 S0 ?_
         try simp only [zW]
         refine tU 16 77 S0 ?_
         try simp only [zW]
         refine tU 17 78 S0 ?_
         try simp only [zW]
         refine tW 18 79 _ S0 ?_
         try simp only [zW]
         refine wpAnyH_done (by kernel_rfl) ?_ _
         have HK8:=aA (yB (uH HK7) ((uH HS).below S0))
         clear R
         go_wp2
         go_roundw
         case rel=>exact ⟨k+1,by omega,by go_num,aA (by have:=uH HST;rw [if_neg (by rw [uH HCV];simp)] at this;exact this.symm),HK8⟩
         case measure=>simp [intOf];omega
        case true=>
         refine tW 8 69 _ S0 ?_
         try simp only [zW]
         refine tW 9 70 _ S0 ?_
         try simp only [zW]
         refine tW 10 71 _ S0 ?_
         try simp only [zW]
         refine tW 11 72 _ S0 ?_
         try simp only [zW]
         refine tW 12 73 _ S0 ?_
         try simp only [zW]
         refine tW 13 74 _ S0 ?_
         try simp only [zW]
         refine tW 14 75 _ S0 ?_
         try simp only [zW]
         refine tW 15 76 _ S0 ?_
         try simp only [zW]
         refine tW 16 77 _ S0 ?_
         try simp only [zW]
         refine wpAnyH_ready (rs:=[17]) (by kernel_rfl) (by simp) (AllReadyH.cons rfl (fun K hK=>?_) AllReadyH.nil)
         go_simp
         refine (uH CR1 _ (yB (uH HB7) ((uH HS).below S0))).mono ?_
         rintro e wt3 ⟨rfl,hb3⟩
         have S1:=(uH HS).call S0 hb3
         go_wp2_with fail
         refine hK.out _ _ S1 (fun S0=>?_)
         clear hK K S1
         try simp only [zW]
         refine tW 18 79 _ S0 ?_
         try simp only [zW]
         refine wpAnyH_done (by kernel_rfl) ?_ _
         cases b2
         case false=>
          have HK8:=aA (yB (uH HK7) ((uH HS).below S0))
          clear R
          go_wp2
          go_roundw
          case rel=>exact ⟨k+1,by omega,by go_num,aA (by have:=uH HST;rw [if_neg (by rw [uH HCV];simp)] at this;exact this.symm),HK8⟩
          case measure=>simp [intOf];omega
         case true=>
          have HE:=aA (show pr=some (i,k) by
           have h1:=uH HST
           rw [if_pos (by rw [uH HCV];rfl)] at h1
           have h2:=uH HSA
           rw [h1] at h2
           have h3:=uH HSQ
           rw [h2] at h3
           exact h3)
          have HBX:=aA (yB (uH HB7) ((uH HS).below S0))
          clear R
          go_wp2
          refine bodyPost_ret (v:=.tuple #[.int .i64 (i:Int),.int .i64 (k:Int)]) (by simp [results,Tryz.results98,go_sem]) rfl ⟨by rw [uH HE];rfl,uH HBX⟩
      ·have hke:asks.length≤k:=by have:=uH HAL;omega
       have HN:=aA (show dO (cn qu) qu (apps.drop (i+1)) (i+1)=rr by
        have h1:=uH HKA
        rw [yI hke] at h1
        have h2:=uH HSA
        rw [←h1] at h2
        exact h2.symm)
       have j1:¬(k:Int)<xl:=by omega
       clear HKA
       go_wp2
       go_roundw
       case rel=>exact ⟨i+1,by omega,by go_num,HN,HKk⟩
       case measure=>simp [intOf];omega
    ·have hie:apps.length≤i:=by have:=uH HL;omega
     have HN:=aA (show qf (ord.drop (q+1))=pr by
      have h1:=uH HI
      rw [yP hie] at h1
      have h2:=uH HSQ
      rw [←h1] at h2
      exact h2.symm)
     have j1:¬(i:Int)<al:=by omega
     clear HI
     go_wp2
     go_roundw
     case rel=>exact ⟨q+1,by omega,by go_num,HN,HKi⟩
     case measure=>simp [intOf];omega
  ·have HE:=aA (show pr=none by rw [←uH HQ];exact uH HQE q (by omega))
   have HBX:=aA (yB (uH HB2) (uH HK))
   have j1:¬(q:Int)<(ord.length:Int):=by omega
   clear HQ
   go_wp2
   refine bodyPost_ret (v:=.tuple #[.int .i64 (-1),.int .i64 (-1)]) (by simp [results,Tryz.results98,go_sem]) rfl ⟨by rw [uH HE];rfl,uH HBX⟩
end
end Go.Proofs.YtdhibeclkdepiaaGreat
