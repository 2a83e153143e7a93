/-
  The ask that is served next on a machine: what the program's firstAsk answers; a aAC over the dump.
-/
import Derived.Test.YtdhibeclkdepiaaGreatPackAG
import Derived.Test.YtdhibeclkdepiaaGreatPackAF
import Derived.WalkMore
set_option maxRecDepth 100000
set_option maxHeartbeats 16000000
set_option linter.unusedVariables false
set_option linter.unusedSimpArgs false
namespace Go.Proofs.YtdhibeclkdepiaaGreat
section
open Go.RowKit Go.Maps
def plR:Option (Nat×Nat)→Int×Int×Bool
 | some r=>((r.1:Int),(r.2:Int),true)
 | none=>(0,0,false)
theorem aCA (x:Sls) (s:St) (nd:List UInt8) (w:World) (h:iJ w x s) (hf:bS s) (hc:x.ql≤x.qc) (hw:aEP s) (hnd:nd.length≤1048576) :
  Calls Tryz.prog 106 #[sv x s,.string (bs nd)] w fun e w'=>e=.returned (.tuple #[rv (plR (nM s nd)).1 (plR (nM s nd)).2.1,.bool (plR (nM s nd)).2.2])∧Below w.heap.size w w':=by
 have hal:x.al≤1048576:=h.al hf
 have CF:=aA (fun wx (hb:Below w.heap.size w wx)=>xQ x s nd wx (h.below hb) hf hnd)
 have CO:=aA (fun wx (hb:Below w.heap.size w wx)=>pX x s wx (h.below hb) hf hc hw)
 have CR:=aA (fun nm wx (hb:Below w.heap.size w wx)=>aBH x s nm wx (h.below hb) hf hc hw)
 have HR:=aA h.2.1
 have HL:=aA h.2.1.1
 have HFA:=aA hf.2.1
 have HOL:=aA (show (fU s).length≤1048576 from by have:=y7 s;have:=h.1.1;have:=h.ql hf;omega)
 have HQS:=aA (fun i (hi:i<(fU s).length)=>rW (s:=s) (nd:=nd) hi)
 have HQE:=aA (fun i (hi:(fU s).length≤i)=>uR (s:=s) (nd:=nd) hi)
 have HCN:=aA (show ∀qu a,aJ1 s nd qu a=(nP a nd&&(within a.mem a.cpu (fC s nd).1 (fC s nd).2&&((bA s (path s.qs qu) 1000000000 1000000000).2.2&&decide (0<(path s.qs qu).length)&&within a.mem a.cpu (bA s (path s.qs qu) 1000000000 1000000000).1 (bA s (path s.qs qu) 1000000000 1000000000).2.1))) from fun qu a=>by rw [aJ1,aIr])
 obtain ⟨pr,hpr⟩:∃p,nM s nd=p:=⟨_,rfl⟩
 have HP0:=aA (show iN s nd ((fU s).drop 0)=pr from hpr)
 rw [hpr]
 obtain ⟨⟨fx,fy⟩,hfr⟩:∃p,fC s nd=p:=⟨_,rfl⟩
 obtain ⟨ord,hord⟩:∃p,fU s=p:=⟨_,rfl⟩
 obtain ⟨cn,hcn⟩:∃p,aJ1 s nd=p:=⟨_,rfl⟩
 obtain ⟨qf,hqf⟩:∃p,iN s nd=p:=⟨_,rfl⟩
 obtain ⟨lf,hlf⟩:∃f:List UInt8→Int×Int×Bool,(fun q=>((bA s (path s.qs q) 1000000000 1000000000).1,(bA s (path s.qs q) 1000000000 1000000000).2.1,(bA s (path s.qs q) 1000000000 1000000000).2.2&&decide (0<(path s.qs q).length)))=f:=⟨_,rfl⟩
 have CR2:=aA (show ∀nm wx (hb:Below w.heap.size w wx),Calls Tryz.prog 136 #[sv x s,.string (bs nm)] wx fun e w'=>e=.returned (.tuple #[rv (lf nm).1 (lf nm).2.1,.bool (lf nm).2.2])∧Below wx.heap.size wx w' from fun nm wx hb=>by rw [←hlf];exact uH CR nm wx hb)
 have HCN2:=aA (show ∀qu a,cn qu a=(nP a nd&&(within a.mem a.cpu fx fy&&((lf qu).2.2&&within a.mem a.cpu (lf qu).1 (lf qu).2.1))) from fun qu a=>by rw [←hcn,uH HCN,hfr,←hlf])
 rw [hfr] at CF
 rw [hord] at CO HOL HQS HQE HP0
 rw [hcn,hqf] at HQS
 rw [hqf] at HQE HP0
 clear h hf hc hw hpr hfr hord hcn hqf hlf CR HCN
 obtain ⟨qa,ql,qc,aa,al,ac,ma,ml,mc,ca,cl,cc⟩:=x
 obtain ⟨qs,clock,epoch,next,serial,apps,ms,cs⟩:=s
 simp only at CF CO CR2 HR HL HFA HQS hal
 have hol:ord.length≤1048576:=uH HOL
 have HB0:=aA (yA (yA (Below.refl _ w) (.cells (svc ⟨qa,ql,qc,aa,al,ac,ma,ml,mc,ca,cl,cc⟩ ⟨qs,clock,epoch,next,serial,apps,ms,cs⟩) 34)) (.cells #[.int .i64 0,.int .i64 0] 115))
 have P0:=aA ((yD w (svc ⟨qa,ql,qc,aa,al,ac,ma,ml,mc,ca,cl,cc⟩ ⟨qs,clock,epoch,next,serial,apps,ms,cs⟩) 34).al (.cells #[.int .i64 0,.int .i64 0] 115))
 have R0:=aA (show Var _ 115 (w.heap.size+1) 0 0 by have:=aJ (w.alloc (.cells (svc ⟨qa,ql,qc,aa,al,ac,ma,ml,mc,ca,cl,cc⟩ ⟨qs,clock,epoch,next,serial,apps,ms,cs⟩) 34)) 115 0 0;rw [yE] at this;exact this)
 have q0:=(uH P0).at 0;have q1:=(uH P0).at 1;have q2:=(uH P0).at 2;have q3:=(uH P0).at 3;have q4:=(uH P0).at 4;have q5:=(uH P0).at 5;have q6:=(uH P0).at 6;have q7:=(uH P0).at 7
 simp at q0 q1 q2 q3 q4 q5 q6 q7
 go_enter Tryz.func106,Tryz.ntmps106
 go_wp2_with fail
 go_step3
 go_wp2_with fail
 refine (uH CF _ (uH HB0)).mono ?_
 rintro e w1 ⟨rfl,hb⟩
 clear q0 q1 q2 q3 q4 q5 q6 q7
 have hba:=yA (yA (Below.refl _ w1) (.cells #[.int .i64 fx,.int .i64 fy] 36)) (.cells #[.int .i64 0,.int .i64 0] 115)
 have HB1:=aA (yB (yB (uH HB0) hb) hba)
 have P1:=aA (((uH P0).below hb).below hba)
 have R1:=aA (((uH R0).below hb).below hba)
 have F1:=aA ((aJ w1 36 fx fy).al (.cells #[.int .i64 0,.int .i64 0] 115))
 have T1:=aA (show Var ((w1.alloc (.cells #[.int .i64 fx,.int .i64 fy] 36)).alloc (.cells #[.int .i64 0,.int .i64 0] 115)) 115 (w1.heap.size+1) 0 0 by have:=aJ (w1.alloc (.cells #[.int .i64 fx,.int .i64 fy] 36)) 115 0 0;rw [yE] at this;exact this)
 have hgw:w.heap.size+1<w1.heap.size:=((uH R0).below hb).lt
 obtain ⟨gf,hgf⟩:∃g,w1.heap.size=g:=⟨_,rfl⟩
 rw [hgf] at F1 T1 hgw
 clear hb hba HB0 P0 R0 CF
 have q0:=(uH P1).at 0;have q1:=(uH P1).at 1;have q2:=(uH P1).at 2;have q3:=(uH P1).at 3;have q4:=(uH P1).at 4;have q5:=(uH P1).at 5;have q6:=(uH P1).at 6;have q7:=(uH P1).at 7
 simp at q0 q1 q2 q3 q4 q5 q6 q7
 go_wp2_with fail
 try rw [hgf]
 go_step3
 go_wp2_with fail
 try rw [hgf]
 refine (uH CO _ (uH HB1)).mono ?_
 rintro e w2 ⟨v0,rfl,ht,hb⟩
 obtain ⟨vo,vc,rfl,hrow⟩:=ht.open
 have HROW:=aA hrow
 have HB2:=aA (yB (uH HB1) hb)
 have P2:=aA ((uH P1).below hb)
 have R2:=aA ((uH R1).below hb)
 have F2:=aA ((uH F1).below hb)
 have T2:=aA ((uH T1).below hb)
 clear hb ht hrow HB1 P1 R1 F1 T1 CO q0 q1 q2 q3 q4 q5 q6 q7 hgf
 go_wp2
 go_loopw [8,10,11,12,13,14,15,16,24] (fun fo _ _ _ _ _ _ _ i wr=>∃q:Nat,fo=.bool false∧q≤ord.length∧i=.int .i64 q∧Hid (qf (ord.drop q)=pr)∧Hid (Below w2.heap.size w2 wr)) (fun _ _ _ _ _ _ _ _ i _=>ord.length - (intOf i).toNat)
 case atStart=>exact ⟨0,rfl,Nat.zero_le _,rfl,HP0,aA (Below.refl _ _)⟩
 case round=>
  obtain ⟨q,rfl,hq,rfl,HQ,HK⟩:=hrel
  obtain ⟨wq,rfl⟩:∃wo:World,wo=wr:=⟨_,rfl⟩
  have HBq:=aA (yB (uH HB2) (uH HK))
  have Pq:=aA ((uH P2).below (uH HK))
  clear HP0
  by_cases hlt:q<ord.length
  ·obtain ⟨gv,rfl,hcv0⟩:=uH HROW q hlt
   have hcv:=((uH HK).cell (p:=⟨gv,q,none⟩) (yG hcv0)).trans hcv0
   have hst:=uH HQS q hlt
   obtain ⟨qn,hqn⟩:∃n,ord[q]=n:=⟨_,rfl⟩
   rw [hqn] at hcv hst
   rw [uH HQ] at hst
   obtain ⟨rr,hrr⟩:∃r,dR (cn qn) qn apps 0=r:=⟨_,rfl⟩
   rw [hrr] at hst
   have HRR:=aA hrr
   have HSQ:=aA hst
   have CR1:=aA (uH CR2 qn)
   have HCV1:=aA (uH HCN2 qn)
   obtain ⟨⟨lx,ly,ok⟩,hlk⟩:∃t,lf qn=t:=⟨_,rfl⟩
   rw [hlk] at CR1 HCV1
   simp only at CR1 HCV1
   have q0:=(uH Pq).at 0;have q1:=(uH Pq).at 1;have q2:=(uH Pq).at 2;have q3:=(uH Pq).at 3;have q4:=(uH Pq).at 4;have q5:=(uH Pq).at 5;have q6:=(uH Pq).at 6;have q7:=(uH Pq).at 7
   simp at q0 q1 q2 q3 q4 q5 q6 q7
   clear hcv0 hst hqn hrr hlk HQ
   go_wp2_with fail
   refine (uH CR1 _ (uH HBq)).mono ?_
   rintro e w3 ⟨rfl,hb⟩
   have hb3:=yB (Below.refl _ wq) (yA hb (.cells #[.int .i64 lx,.int .i64 ly] 36))
   have HK3:=aA (yB (uH HK) hb3)
   clear q0 q1 q2 q3 q4 q5 q6 q7 hcv CR1
   cases ok
   case false=>
    have HN:=aA (show qf (ord.drop (q+1))=pr by
     have h1:=uH HRR
     rw [sZ (fun a=>by rw [uH HCV1];simp)] at h1
     have h2:=uH HSQ
     rw [←h1] at h2
     exact h2.symm)
    clear hb hb3
    go_wp2
    go_roundw
    case rel=>exact ⟨q+1,rfl,by omega,by go_num,HN,HK3⟩
    case measure=>simp [intOf];omega
   case true=>
    have V3:=aA (aJ w3 36 lx ly)
    have P3:=aA ((uH Pq).below hb3)
    obtain ⟨g3,hg3⟩:∃g,w3.heap.size=g:=⟨_,rfl⟩
    rw [hg3] at V3
    obtain ⟨W3,hW3⟩:∃W,w3.alloc (.cells #[.int .i64 lx,.int .i64 ly] 36)=W:=⟨_,rfl⟩
    rw [hW3] at HK3 V3 P3
    have HW3:=aA hW3
    have q0:=(uH P3).at 0;have q1:=(uH P3).at 1;have q2:=(uH P3).at 2;have q3:=(uH P3).at 3;have q4:=(uH P3).at 4;have q5:=(uH P3).at 5;have q6:=(uH P3).at 6;have q7:=(uH P3).at 7
    simp at q0 q1 q2 q3 q4 q5 q6 q7
    clear hb hb3 hW3 Pq HBq HK
    rw [←uH HW3] at q0 q1 q2 q3 q4 q5 q6 q7
    go_wp2
    try rw [hg3]
    rw [uH HW3]
    clear q0 q1 q2 q3 q4 q5 q6 q7 hg3
    go_loopw [8,13,14,15,16,39] (fun fo _ _ _ _ i wr=>∃i':Nat,fo=.bool false∧i'≤al∧i=.int .i64 i'∧Hid (dR (cn qn) qn (apps.drop i') i'=rr)∧Hid (Below W3.heap.size W3 wr)) (fun _ _ _ _ _ i _=>al - (intOf i).toNat)
    case atStart=>exact ⟨0,rfl,Nat.zero_le _,rfl,aA (uH HRR),aA (Below.refl _ _)⟩
    case round=>
     obtain ⟨i,rfl,hi,rfl,HI,HKi⟩:=hrel
     obtain ⟨wi,rfl⟩:∃wo:World,wo=wr:=⟨_,rfl⟩
     have HK4:=aA (yB (uH HK3) (uH HKi))
     have HB4:=aA (yB (uH HB2) (uH HK4))
     by_cases hil:i<al
     ·obtain ⟨bb,off,rfl,hqa⟩:=(uH HR).at hil
      have hkl:i<apps.length:=by have:=uH HL;omega
      have hst:=sW (p:=cn qn) (qu:=qn) hkl
      have hfa:=(uH HFA).2 _ (List.getElem_mem hkl)
      obtain ⟨xo,xl,xc,c0,c1,c2,hrow,_⟩:=hqa hkl
      replace c0:=Kp.cell (uH HB4) c0
      replace c1:=Kp.cell (uH HB4) c1
      replace c2:=Kp.cell (uH HB4) c2
      obtain ⟨⟨id,qu,asks⟩,hs⟩:∃s,apps[i]=s:=⟨_,rfl⟩
      rw [hs] at c0 c1 hst hrow hfa
      simp only at c0 c1 hst hrow
      rw [uH HI] at hst
      have hxl:xl≤1048576:=by have h1:=hrow.1;have h2:=hfa.2.1;simp only at h2;omega
      have HA:=aA hrow
      have HAL:=aA hrow.1
      have i0:(0:Int)≤i:=by omega
      have i1:(i:Int)<al:=by omega
      clear hqa hs hkl hrow hfa HI
      by_cases hqn:qu=qn
      case neg=>
       have hqe:=mV qu qn
       rw [decide_eq_false hqn] at hqe
       rw [if_neg hqn] at hst
       have HST:=aA hst
       clear hst
       go_wp2
       go_roundw
       case rel=>exact ⟨i+1,rfl,by omega,by go_num,aA (uH HST).symm,aA (yA (uH HKi) _)⟩
       case measure=>simp [intOf];omega
      subst hqn
      have hqe:=mV qu qu
      rw [decide_eq_true rfl] at hqe
      rw [if_pos rfl] at hst
      obtain ⟨ak,hak⟩:∃a,fQ (cn qu) asks 0=a:=⟨_,rfl⟩
      rw [hak] at hst
      have HSA:=aA hst
      have HAK:=aA hak
      have HK5:=aA (yA (uH HKi) (.cells #[.int .i64 id,.string (bs qu),.slice xo xl xc] 74))
      clear hst hak
      go_wp2
      go_loopw [8,15,16,51] (fun fo _ _ i wr=>∃k:Nat,fo=.bool false∧k≤xl∧i=.int .i64 k∧Hid (fQ (cn qu) (asks.drop k) k=ak)∧Hid (Below W3.heap.size W3 wr)) (fun _ _ _ i _=>xl - (intOf i).toNat)
      case atStart=>exact ⟨0,rfl,Nat.zero_le _,rfl,aA (uH HAK),HK5⟩
      case round=>
       obtain ⟨k,rfl,hk,rfl,HKA,HKk⟩:=hrel
       have HK6:=aA (yB (uH HK3) (uH HKk))
       have HB6:=aA (yB (uH HB2) (uH HK6))
       clear HK5 HAK c0 c1 c2
       by_cases hkl:k<xl
       ·obtain ⟨ab,aoff,rfl,ha⟩:=((uH HA).below (uH HB6)).at hkl
        have hjk:k<asks.length:=by have:=uH HAL;omega
        have hst:=sS (p:=cn qu) hjk
        obtain ⟨d0,d1,d2,d3,d4⟩:=ha hjk
        obtain ⟨a,hs⟩:∃s,asks[k]=s:=⟨_,rfl⟩
        rw [hs] at d0 d1 d2 d3 d4 hst
        rw [uH HKA] at hst
        have HST:=aA hst
        have HCV:=aA (uH HCV1 a)
        have CS1:=aA (fun wx=>aA9 a nd wx)
        have CW1:=aA (fun wx=>nU a.mem a.cpu fx fy wx)
        have CW2:=aA (fun wx=>nU a.mem a.cpu lx ly wx)
        obtain ⟨su,hsu⟩:∃b,nP a nd=b:=⟨_,rfl⟩
        obtain ⟨b1,hb1⟩:∃b,within a.mem a.cpu fx fy=b:=⟨_,rfl⟩
        obtain ⟨b2,hb2⟩:∃b,within a.mem a.cpu lx ly=b:=⟨_,rfl⟩
        rw [hsu] at CS1
        rw [hb1] at CW1
        rw [hb2] at CW2
        rw [hsu,hb1,hb2] at HCV
        have j0:(0:Int)≤k:=by omega
        have j1:(k:Int)<xl:=by omega
        clear ha hs hjk hst HKA hsu hb1 hb2
        obtain ⟨me,cp,ct,nx,mi⟩:=a
        simp only at d0 d1 d2 d3 d4 CS1 CW1 CW2
        have hba:=yA (Below.refl _ wr) (.cells #[.int .i64 me,.int .i64 cp,.int .i64 ct,.string (bs nx),.int .i64 mi] 77)
        have HK7:=aA (yB (uH HKk) hba)
        have A7:=aA (yD wr #[.int .i64 me,.int .i64 cp,.int .i64 ct,.string (bs nx),.int .i64 mi] 77)
        clear hba
        go_wp2_with fail
        refine (uH CS1 _).mono ?_
        rintro e w8 ⟨rfl,hb⟩
        have HK8:=aA (yB (uH HK7) hb)
        have A8:=aA ((uH A7).below hb)
        clear hb HK7 A7 CS1 d0 d1 d2 d3 d4
        cases su
        case false=>
         go_wp2
         go_roundw
         case rel=>exact ⟨k+1,rfl,by omega,by go_num,aA (by have:=uH HST;rw [if_neg (by rw [uH HCV];simp)] at this;exact this.symm),HK8⟩
         case measure=>simp [intOf];omega
        case true=>
         have e0:=(uH A8).at 0;have e1:=(uH A8).at 1
         simp at e0 e1
         have fv:=(uH F2).below (yB (uH HK3) (uH HK8))
         have f0:=fv.c0;have f1:=fv.c1
         clear fv
         go_wp2_with fail
         refine (uH CW1 _).mono ?_
         rintro e w9 ⟨rfl,hb⟩
         have HK9:=aA (yB (uH HK8) hb)
         have A9:=aA ((uH A8).below hb)
         clear hb HK8 A8 CW1 e0 e1 f0 f1
         cases b1
         case false=>
          go_wp2
          go_roundw
          case rel=>exact ⟨k+1,rfl,by omega,by go_num,aA (by have:=uH HST;rw [if_neg (by rw [uH HCV];simp)] at this;exact this.symm),HK9⟩
          case measure=>simp [intOf];omega
         case true=>
          have e0:=(uH A9).at 0;have e1:=(uH A9).at 1
          simp at e0 e1
          have rv3:=(uH V3).below (uH HK9)
          have r0:=rv3.c0;have r1:=rv3.c1
          clear rv3
          go_wp2_with fail
          refine (uH CW2 _).mono ?_
          rintro e w10 ⟨rfl,hb⟩
          have HK10:=aA (yB (uH HK9) hb)
          clear hb HK9 A9 CW2 e0 e1 r0 r1
          cases b2
          case false=>
           go_wp2
           go_roundw
           case rel=>exact ⟨k+1,rfl,by omega,by go_num,aA (by have:=uH HST;rw [if_neg (by rw [uH HCV];simp)] at this;exact this.symm),HK10⟩
           case measure=>simp [intOf];omega
          case true=>
           have HE:=aA (show pr=some (i,k) by
            have h1:=uH HST
            rw [if_pos (by rw [uH HCV];rfl)] at h1
            have h2:=uH HSA
            rw [h1] at h2
            have h3:=uH HSQ
            rw [h2] at h3
            exact h3)
           have HKX:=aA (yB (uH HK3) (uH HK10))
           have T9:=(uH T2).below (uH HKX)
           have R9:=(uH R2).below (uH HKX)
           have ne1:w.heap.size+1≠gf+1:=by omega
           have T10:=T9.set (i:Int) (k:Int)
           have R10:=(R9.other (gf+1) 0 (.int .i64 (i:Int)) ne1).other (gf+1) 1 (.int .i64 (k:Int)) ne1
           have R11:=R10.set (i:Int) (k:Int)
           have a0:=T9.c0;have a1:=T9.c1;have a2:=T9.f 0;have a3:=T9.f 1
           have t0:=T10.c0;have t1:=T10.c1
           have r0:=R10.c0;have r1:=R10.c1;have r2:=R10.f 0;have r3:=R10.f 1
           have z0:=R11.c0;have z1:=R11.c1
           have HBX:=aA (yC (yC (yC (yC (yB (uH HB2) (uH HKX)) (gf+1) 0 (.int .i64 (i:Int)) (by omega)) (gf+1) 1 (.int .i64 (k:Int)) (by omega)) (w.heap.size+1) 0 (.int .i64 (i:Int)) (by omega)) (w.heap.size+1) 1 (.int .i64 (k:Int)) (by omega))
           clear T9 T10 R9 R10 R11
           go_wp2
           try rw [Exit.noGoto_ret]
           refine bodyPost_ret (v:=.tuple #[rv (i:Int) (k:Int),.bool true]) (by simp [results,Tryz.results106,go_sem,z0,z1]) rfl ⟨by rw [uH HE];rfl,uH HBX⟩
       ·have hke:asks.length≤k:=by have:=uH HAL;omega
        have HN:=aA (show dR (cn qu) qu (apps.drop (i+1)) (i+1)=rr by
         have h1:=uH HKA
         rw [wM hke] at h1
         have h2:=uH HSA
         rw [←h1] at h2
         exact h2.symm)
        have j1:¬(k:Int)<xl:=by omega
        clear HKA
        go_wp2
        go_roundw
        case rel=>exact ⟨i+1,rfl,by omega,by go_num,HN,HKk⟩
        case measure=>simp [intOf];omega
     ·have hie:apps.length≤i:=by have:=uH HL;omega
      have HN:=aA (show qf (ord.drop (q+1))=pr by
       have h1:=uH HI
       rw [wO hie] at h1
       have h2:=uH HSQ
       rw [←h1] at h2
       exact h2.symm)
      have j1:¬(i:Int)<al:=by omega
      clear HI
      go_wp2
      go_roundw
      case rel=>exact ⟨q+1,rfl,by omega,by go_num,HN,HK4⟩
      case measure=>simp [intOf];omega
  ·have HE:=aA (show pr=none by rw [←uH HQ];exact uH HQE q (by omega))
   have T9:=(uH T2).below (uH HK)
   have R9:=(uH R2).below (uH HK)
   have R11:=R9.set 0 0
   have t0:=T9.c0;have t1:=T9.c1
   have r0:=R9.c0;have r1:=R9.c1;have r2:=R9.f 0;have r3:=R9.f 1
   have z0:=R11.c0;have z1:=R11.c1
   have HBX:=aA (yC (yC (uH HBq) (w.heap.size+1) 0 (.int .i64 0) (by omega)) (w.heap.size+1) 1 (.int .i64 0) (by omega))
   have j1:¬(q:Int)<(ord.length:Int):=by omega
   clear T9 R9 R11 HQ
   go_wp2
   try rw [Exit.noGoto_ret]
   refine bodyPost_ret (v:=.tuple #[rv 0 0,.bool false]) (by simp [results,Tryz.results106,go_sem,z0,z1]) rfl ⟨by rw [uH HE];rfl,uH HBX⟩
end
end Go.Proofs.YtdhibeclkdepiaaGreat
