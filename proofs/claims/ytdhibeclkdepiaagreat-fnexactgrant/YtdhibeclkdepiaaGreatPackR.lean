/-
  Texts in one: RoomL, FreeOnI, FaI, NxW.
-/
import Derived.Test.YtdhibeclkdepiaaGreatPackQ
import Derived.WalkMore
import Derived.Test.YtdhibeclkdepiaaGreatNxM
set_option maxRecDepth 100000
set_option maxHeartbeats 16000000
set_option linter.unusedVariables false
set_option linter.unusedSimpArgs false
namespace Go.Proofs.YtdhibeclkdepiaaGreat
section
open Go.RowKit Go.Maps
theorem min_run (x y:Int) (wx:World):(Builtin.min_ #[3,3] 3 #[.int .i64 x,.int .i64 y]).run Tryz.prog wx=.ok (.int .i64 (min x y)) wx:=by
  have:(if y<x then y else x)=min x y:=by omega
  simp [go_sem]
theorem texts_row {B:Nat} {w:World} {v:Value} {ps:List (List UInt8)} (h:Texts B w v ps):∃ao cap,v=.slice ao ps.length cap∧∀j (hj:j<ps.length),∃g,ao=some ⟨g,0,none⟩∧w.cell? ⟨g,j,none⟩=some (.string (bs ps[j])):=by
  by_cases hp:ps=[]
  · subst hp
    obtain ⟨a,cap,rfl⟩:=texts_none h
    exact ⟨a,cap,rfl,fun j hj=>by simp at hj⟩
  · obtain ⟨g,cap,rfl,hs,_⟩:=texts_some h hp
    exact ⟨_,cap,rfl,fun j hj=>⟨g,rfl,hs.text hj⟩⟩
theorem path_len20 (s:St) (nm:List UInt8):(path s.qs nm).length≤1048576:=by
  cases ho:queuesOk s.qs with
  | false=>simp [path,ho]
  | true=>
    have h2:=(okT_iff.1 (by have:=queuesOk_okT s.qs;rw [ho] at this;simp at this;exact this.1)).2.2
    have:=path_len s.qs nm
    omega
theorem roomLeft_any (x:Sls) (s:St) (nm:List UInt8) (w:World) (h:SRow w x s) (hf:FitSt s) (hc:x.ql≤x.qc) (hw:WfSt s) :
    Calls Tryz.prog 136 #[sv x s,.string (bs nm)] w fun e w'=>e=.returned (.tuple #[rv (leftFrom s (path s.qs nm) 1000000000 1000000000).1 (leftFrom s (path s.qs nm) 1000000000 1000000000).2.1,.bool ((leftFrom s (path s.qs nm) 1000000000 1000000000).2.2&&decide (0<(path s.qs nm).length))])∧Below w.heap.size w w':=by
  have hql:x.ql≤1048576:=h.ql hf
  have hml:x.ml≤1048576:=h.ml hf
  have CPath:=hide (fun wx (hb:Below w.heap.size w wx)=>implPath_any x.qa x.ql x.qc s.qs nm wx (h.1.below hb) hql (fun q hq=>(hf.1.2 q hq).1) hc)
  have CT:=hide (fun wx (hb:Below w.heap.size w wx)=>implTotal_any x s wx (h.2.2.1.below hb) hml)
  have CM:=hide (fun wx (hb:Below w.heap.size w wx) (n:List UInt8)=>show Calls Tryz.prog 175 #[.slice x.qa x.ql x.qc,.string (bs n),rv (totalV s).1 (totalV s).2] wx (fun e w'=>e=.returned (rv (mostV s n).1 (mostV s n).2)∧Below wx.heap.size wx w') from implMostOf_any x.qa x.ql x.qc s.qs n (totalV s).1 (totalV s).2 wx (h.1.below hb) hql (fun q hq=>(hf.1.2 q hq).1) hc)
  have CU:=hide (fun wx (hb:Below w.heap.size w wx) (n:List UInt8)=>implUsedBy_any x s n wx (h.below hb) hf hc hw)
  have HPL:=hide (path_len20 s nm)
  obtain ⟨⟨tx,ty⟩,ht⟩:∃t,totalV s=t:=⟨_,rfl⟩
  rw [show (sumR (capsOf s.ms)).1=tx from congrArg Prod.fst ht,show (sumR (capsOf s.ms)).2.1=ty from congrArg Prod.snd ht] at CT
  rw [ht] at CM
  obtain ⟨ps,hps⟩:∃p,path s.qs nm=p:=⟨_,rfl⟩
  rw [hps] at CPath HPL ⊢
  obtain ⟨⟨zx,zy,zo⟩,hz⟩:∃z,leftFrom s ps 1000000000 1000000000=z:=⟨_,rfl⟩
  have HZ:=hide (show leftFrom s (ps.drop 0) 1000000000 1000000000=(zx,zy,zo) from hz)
  rw [hz]
  have HST:=hide (fun k (hk:k<ps.length) (a b:Int)=>leftFrom_step (s:=s) hk a b)
  have HEN:=hide (fun k (hk:ps.length≤k) (a b:Int)=>leftFrom_end (s:=s) hk a b)
  obtain ⟨lf,hlf⟩:∃f,leftFrom s=f:=⟨_,rfl⟩
  rw [hlf] at HZ HST HEN
  obtain ⟨mf,hmf⟩:∃f,mostV s=f:=⟨_,rfl⟩
  rw [hmf] at CM HST
  obtain ⟨uf,huf⟩:∃f,usedByV s=f:=⟨_,rfl⟩
  rw [huf] at CU HST
  clear h hf hc hw ht hps hz hlf hmf huf
  obtain ⟨qa,ql,qc,aa,al,ac,ma,ml,mc,ca,cl,cc⟩:=x
  obtain ⟨qs,clock,epoch,next,serial,apps,ms,cs⟩:=s
  simp only at CM CU CT CPath hql hml
  have HB0:=hide (capW_below w (svc ⟨qa,ql,qc,aa,al,ac,ma,ml,mc,ca,cl,cc⟩ ⟨qs,clock,epoch,next,serial,apps,ms,cs⟩))
  have V0:=hide (capW_var w (svc ⟨qa,ql,qc,aa,al,ac,ma,ml,mc,ca,cl,cc⟩ ⟨qs,clock,epoch,next,serial,apps,ms,cs⟩))
  have P0:=hide ((boxW_blk w (svc ⟨qa,ql,qc,aa,al,ac,ma,ml,mc,ca,cl,cc⟩ ⟨qs,clock,epoch,next,serial,apps,ms,cs⟩)).al (.cells #[.int .i64 0,.int .i64 0] 36))
  go_enter Tryz.func136,Tryz.ntmps136
  go_wp2_with fail
  refine (uH CPath _ (uH HB0)).mono ?_
  rintro e w1 ⟨v,rfl,htx,hb⟩
  have HB1:=hide (yB (uH HB0) hb)
  have V1:=hide ((uH V0).below hb)
  have P1:=hide ((uH P0).below hb)
  have HTX:=hide htx
  obtain ⟨q0,q1,q2,q3,q4,q5,q6,q7⟩:_∧_∧_∧_∧_∧_∧_∧_:=⟨(uH P1).at 0,(uH P1).at 1,(uH P1).at 2,(uH P1).at 3,(uH P1).at 4,(uH P1).at 5,(uH P1).at 6,(uH P1).at 7⟩
  simp at q0 q1 q2 q3 q4 q5 q6 q7
  clear hb HB0 V0 P0 CPath htx
  go_wp2_with fail
  refine (uH CT _ (uH HB1)).mono ?_
  rintro e w2 ⟨rfl,hb⟩
  have hB2:=yA (yB (uH HB1) hb) (.cells #[.int .i64 tx,.int .i64 ty] 36)
  have hV2:=((uH V1).below hb).al (.cells #[.int .i64 tx,.int .i64 ty] 36)
  have hP2:=((uH P1).below hb).al (.cells #[.int .i64 tx,.int .i64 ty] 36)
  have hX2:=((uH HTX).below hb).below (yA (Below.refl _ _) (.cells #[.int .i64 tx,.int .i64 ty] 36))
  have hT2:=var_new w2 36 tx ty
  have hs2:=yE w2 (.cells #[.int .i64 tx,.int .i64 ty] 36)
  obtain ⟨W2,hW2⟩:∃W,w2.alloc (.cells #[.int .i64 tx,.int .i64 ty] 36)=W:=⟨_,rfl⟩
  rw [hW2] at hB2 hV2 hP2 hX2 hT2 hs2
  have HB2:=hide hB2
  have V2:=hide hV2
  have P2:=hide hP2
  have T2:=hide hT2
  have HS2:=hide hs2
  have HW2:=hide hW2
  obtain ⟨po,pc,rfl,hcell⟩:=texts_row hX2
  have HC:=hide hcell
  have HV3:=hide (var_new W2 36 1000000000 1000000000)
  have HB3:=hide (yA (Below.refl _ W2) (.cells #[.int .i64 1000000000,.int .i64 1000000000] 36))
  clear hb q0 q1 q2 q3 q4 q5 q6 q7 V1 P1 HTX HB1 CT hB2 hV2 hP2 hX2 hT2 hs2 hcell
  obtain ⟨n,hn⟩:∃n,ps.length=n:=⟨_,rfl⟩
  rw [hn] at HPL ⊢
  have HN:=hide hn
  have hn2:n≤1048576:=uH HPL
  clear hn HPL
  go_wp2
  go_loopw [22] (fun i wr=>∃(k:Nat) (a b:Int),k≤n∧i=.int .i64 k∧Hid (lf (ps.drop k) a b=(zx,zy,zo))∧Hid (Var wr 36 W2.heap.size a b)∧Hid (Kp W2 wr)) (fun i _=>n - (intOf i).toNat)
  case atStart=>exact ⟨0,1000000000,1000000000,Nat.zero_le _,rfl,HZ,HV3,HB3⟩
  case round=>
    obtain ⟨k,a,b,hk,rfl,HQ,HVr,HK⟩:=hrel
    have kq:=uH HK
    obtain ⟨q0,q1,q2,q3,q4,q5,q6,q7⟩:_∧_∧_∧_∧_∧_∧_∧_:=⟨kq.cell ((uH P2).at 0),kq.cell ((uH P2).at 1),kq.cell ((uH P2).at 2),kq.cell ((uH P2).at 3),kq.cell ((uH P2).at 4),kq.cell ((uH P2).at 5),kq.cell ((uH P2).at 6),kq.cell ((uH P2).at 7)⟩
    have t0:=kq.cell (uH T2).c0
    have t1:=kq.cell (uH T2).c1
    have HBr:=hide (yB (uH HB2) kq)
    have hvl:=(uH V2).lt
    clear kq HV3 HB3
    by_cases hlt:k<n
    · have hkl:k<ps.length:=by have:=uH HN;omega
      obtain ⟨pg,rfl,hc0⟩:=uH HC k hkl
      have c0:=(uH HK).cell hc0
      have hst:=uH HST k hkl a b
      rw [uH HQ] at hst
      obtain ⟨nx,hs⟩:∃s,ps[k]=s:=⟨_,rfl⟩
      rw [hs] at c0 hst
      have CUk:=hide (fun wx hb=>uH CU wx hb nx)
      have CMk:=hide (fun wx hb=>uH CM wx hb nx)
      obtain ⟨⟨ux,uy⟩,hu⟩:∃u,uf nx=u:=⟨_,rfl⟩
      obtain ⟨⟨mx,my⟩,hm⟩:∃u,mf nx=u:=⟨_,rfl⟩
      rw [hu] at CUk hst
      rw [hm] at CMk hst
      simp only at CUk CMk hst
      have HSTk:=hide hst
      have k0:(0:Int)≤k:=by omega
      have k1:(k:Int)<n:=by omega
      have CA:=hide (fun wx=>implSub_any mx my ux uy wx)
      obtain ⟨x',y',ok,hv⟩:∃x' y' ok,bothV (-1) mx my ux uy=rv x' y'∧bothOk (-1) mx my ux uy=ok∧(ok=true→x'=mx + -1*ux∧y'=my + -1*uy):=by
        cases hb:bothOk (-1) mx my ux uy
        · exact ⟨0,0,_,both_no hb,rfl,by simp⟩
        · exact ⟨_,_,_,both_yes hb,rfl,fun _=>⟨rfl,rfl⟩⟩
      have HVV:=hide hv.2.2
      rw [hv.1,hv.2.1] at CA
      rw [hv.2.1] at HSTk
      have R:∀wx,Kp wr wx→wx.cell? ⟨w.heap.size,0,none⟩=some (.slice qa ql qc)∧wx.cell? ⟨w.heap.size,1,none⟩=some (.int .i64 clock)∧wx.cell? ⟨w.heap.size,2,none⟩=some (.int .i64 epoch)∧wx.cell? ⟨w.heap.size,3,none⟩=some (.int .i64 next)∧wx.cell? ⟨w.heap.size,4,none⟩=some (.int .i64 serial)∧wx.cell? ⟨w.heap.size,5,none⟩=some (.slice aa al ac)∧wx.cell? ⟨w.heap.size,6,none⟩=some (.slice ma ml mc)∧wx.cell? ⟨w.heap.size,7,none⟩=some (.slice ca cl cc)∧wx.cell? ⟨w2.heap.size,0,none⟩=some (.int .i64 tx)∧wx.cell? ⟨w2.heap.size,1,none⟩=some (.int .i64 ty):=fun wx h=>
        ⟨h.cell q0,h.cell q1,h.cell q2,h.cell q3,h.cell q4,h.cell q5,h.cell q6,h.cell q7,h.cell t0,h.cell t1⟩
      have A0:=hide (Kp.new wr)
      have HS:=hide (kp_holds wr)
      have hwr:=(uH HVr).lt
      clear hc0 hkl hs hu hm hv hst
      go_wp2_with fail
      go_cut [11,12] from 26 to 37 (fun v7 v8 wx=>∃g,v7=.pointer (some ⟨g,0,none⟩)∧v8=.bool ok∧Kp wr wx∧Var wx 36 g x' y')
      case first=>
        go_region_held3 (fun wx=>Kp wr wx)
          (first | (with_reducible assumption) | exact uH SA | exact (uH HS).drew (uH A0) | exact (uH HS).al (uH SA) _ | exact (uH HS).al (by assumption) _ | exact (uH HS).al ((uH HS).drew (uH A0)) _ | exact (uH HS).call (by assumption) (by assumption) | exact (uH HS).set2 (uH SA) _ _ _ (by first | omega | (simp<;>omega)) | exact (uH HS).set2 (by assumption) _ _ _ (by first | omega | (simp<;>omega)))
          (first
          | (go_at_call 176;refine (uH CUk _ ?_).mono ?_;(exact yB (uH HBr) ((uH HS).below (by assumption)));rintro e wt ⟨rfl,hb⟩;have SA:=hide ((uH HS).call (by assumption) hb);have sz:=(uH HS).size (uH SA)
             first
               | (have V5:=(var_new _ 36 0 0).below hb;(try simp at V5);have c50:=V5.c0;have c51:=V5.c1;have f50:=V5.f 0;have f51:=V5.f 1;have V5:=hide V5)
               | (have V5:=(var_new _ 36 0 0).drew.below hb;(try simp at V5);have c50:=V5.c0;have c51:=V5.c1;have f50:=V5.f 0;have f51:=V5.f 1;have V5:=hide V5)
               | (have V5:=hide ((uH V5).below hb);have c50:=(uH V5).c0;have c51:=(uH V5).c1;have f50:=(uH V5).f 0;have f51:=(uH V5).f 1)
               | skip)
          | (go_at_call 175;refine (uH CMk _ ?_).mono ?_;(exact yB (uH HBr) ((uH HS).below (by assumption)));rintro e wt ⟨rfl,hb⟩;have SA:=hide ((uH HS).call (by assumption) hb);have sz:=(uH HS).size (uH SA)
             first
               | (have V5:=(var_new _ 36 0 0).below hb;(try simp at V5);have c50:=V5.c0;have c51:=V5.c1;have f50:=V5.f 0;have f51:=V5.f 1;have V5:=hide V5)
               | (have V5:=(var_new _ 36 0 0).drew.below hb;(try simp at V5);have c50:=V5.c0;have c51:=V5.c1;have f50:=V5.f 0;have f51:=V5.f 1;have V5:=hide V5)
               | (have V5:=hide ((uH V5).below hb);have c50:=(uH V5).c0;have c51:=(uH V5).c1;have f50:=(uH V5).f 0;have f51:=(uH V5).f 1)
               | skip)
          | (go_at_call 123;refine (uH CA _).mono ?_;rintro e wt ⟨rfl,hb⟩;have SA:=hide ((uH HS).call (by assumption) hb);have sz:=(uH HS).size (uH SA)
             first
               | (have V5:=(var_new _ 36 0 0).below hb;(try simp at V5);have c50:=V5.c0;have c51:=V5.c1;have f50:=V5.f 0;have f51:=V5.f 1;have V5:=hide V5)
               | (have V5:=(var_new _ 36 0 0).drew.below hb;(try simp at V5);have c50:=V5.c0;have c51:=V5.c1;have f50:=V5.f 0;have f51:=V5.f 1;have V5:=hide V5)
               | (have V5:=hide ((uH V5).below hb);have c50:=(uH V5).c0;have c51:=(uH V5).c1;have f50:=(uH V5).f 0;have f51:=(uH V5).f 1)
               | skip))
        all_goals
          go_wp2_with fail
          go_meet
          exact ⟨_,rfl,rfl,by first | assumption | exact uH SA | exact (uH HS).al (uH SA) _,by first | exact var_new _ _ _ _ | exact (uH V5).set _ _⟩
      case rest=>
        obtain ⟨g,rfl,rfl,hA,hV⟩:=hcut
        obtain ⟨w4,rfl⟩:∃w4,w4=wc:=⟨wc,rfl⟩
        have HK4:=hide (show Kp W2 w4 from yB (uH HK) hA)
        have HB4:=hide (yB (uH HBr) hA)
        have V4:=hide ((uH HVr).below hA)
        have VR4:=hide ((uH V2).below (uH HK4))
        have s0:=hV.c0
        have s1:=hV.c1
        have l0:=(uH V4).c0
        have l1:=(uH V4).c1
        have lf0:=(uH V4).f 0
        have lf1:=(uH V4).f 1
        clear hA hV A0 HS R CA CUk CMk q0 q1 q2 q3 q4 q5 q6 q7 t0 t1 c0
        cases ok with
        | true=>
          obtain ⟨rfl,rfl⟩:=uH HVV rfl
          rw [if_pos rfl] at HSTk
          have hm0:=min_run a (mx + -1*ux)
          have hm1:=min_run b (my + -1*uy)
          obtain ⟨sx,hsx⟩:∃t,mx + -1*ux=t:=⟨_,rfl⟩
          obtain ⟨sy,hsy⟩:∃t,my + -1*uy=t:=⟨_,rfl⟩
          rw [hsx] at s0 hm0 HSTk
          rw [hsy] at s1 hm1 HSTk
          clear hsx hsy HVV
          obtain ⟨na,hna⟩:∃t,min a sx=t:=⟨_,rfl⟩
          obtain ⟨nb,hnb⟩:∃t,min b sy=t:=⟨_,rfl⟩
          rw [hna] at hm0 HSTk
          rw [hnb] at hm1 HSTk
          clear hna hnb
          go_wp2
          go_roundw
          case rel=>exact ⟨k+1,na,nb,by omega,by go_num,hide (uH HSTk).symm,hide ((uH V4).set _ _),hide (yC (yC (uH HK4) _ _ _ (Nat.le_refl _)) _ _ _ (Nat.le_refl _))⟩
          case measure=>simp [intOf];omega
        | false=>
          rw [if_neg (by simp)] at HSTk
          have hz:=uH HSTk
          simp only [Prod.mk.injEq] at hz
          obtain ⟨rfl,rfl,rfl⟩:=hz
          have u0:=(uH VR4).c0
          have u1:=(uH VR4).c1
          have uf0:=(uH VR4).f 0
          have uf1:=(uH VR4).f 1
          have k4:=(uH VR4).s0 (.int .i64 0)
          have k5:=(uH VR4).s1 (.int .i64 0) (.int .i64 0)
          clear HVV l0 l1 lf0 lf1 s0 s1
          go_wp2
          refine bodyPost_ret (v:=.tuple #[rv 0 0,.bool false]) (by simp [results,Tryz.results136,go_sem,k4,k5]) rfl ⟨rfl,?_⟩
          repeat (first | exact uH HB4 | refine yA ?_ _ | refine yC ?_ _ _ _ (by omega))
    · have hz:=uH HEN k (by have:=uH HN;omega) a b
      rw [uH HQ] at hz
      simp only [Prod.mk.injEq] at hz
      obtain ⟨rfl,rfl,rfl⟩:=hz
      have VR4:=hide ((uH V2).below (uH HK))
      have l0:=(uH HVr).c0
      have l1:=(uH HVr).c1
      have u0:=(uH VR4).c0
      have u1:=(uH VR4).c1
      have uf0:=(uH VR4).f 0
      have uf1:=(uH VR4).f 1
      have k4:=(uH VR4).s0 (.int .i64 zx)
      have k5:=(uH VR4).s1 (.int .i64 zx) (.int .i64 zy)
      clear q0 q1 q2 q3 q4 q5 q6 q7 t0 t1
      go_wp2
      refine bodyPost_ret (v:=.tuple #[rv zx zy,.bool (decide (0<n))]) (by simp [results,Tryz.results136,go_sem,k4,k5]) rfl ⟨by simp [uH HN],?_⟩
      repeat (first | exact uH HBr | refine yA ?_ _ | refine yC ?_ _ _ _ (by omega))
theorem implFreeOn_any (x:Sls) (s:St) (nm:List UInt8) (w:World) (h:SRow w x s) (hf:FitSt s) (hnm:nm.length≤1048576) :
    Calls Tryz.prog 134 #[sv x s,.string (bs nm)] w fun e w'=>e=.returned (rv (freeOnV s nm).1 (freeOnV s nm).2)∧Below w.heap.size w w':=by
  have hml:x.ml≤1048576:=by have:=h.len.2.2.1;have:=hf.2.2.1.1;omega
  have hcl:x.cl≤1048576:=by have:=h.len.2.2.2;have:=hf.2.2.2.1;omega
  have CM:=hide (fun wx (hb:Below w.heap.size w wx)=>machines_ex x s wx (h.2.2.1.below hb) hml (fun m hm=>hf.2.2.1.2 m hm))
  have CU:=hide (fun wx (hb:Below w.heap.size w wx)=>implUsedOn_any x s nm wx (h.2.2.2.below hb) hcl)
  obtain ⟨kl,hkey⟩:=keyKey (nm:=nm) (k:=0) (by omega) (by decide)
  have HKEY:=hide hkey
  have HFV:=hide (show freeOnV s nm=match findM nm s.ms with | none=>(0,0) | some m=>lessV m.mem m.cpu (usedOnV s nm).1 (usedOnV s nm).2 from rfl)
  obtain ⟨⟨ux,uy⟩,hu⟩:∃u,usedOnV s nm=u:=⟨_,rfl⟩
  obtain ⟨⟨fx,fy⟩,hfr⟩:∃u,freeOnV s nm=u:=⟨_,rfl⟩
  rw [hu] at CU HFV
  rw [hfr] at HFV ⊢
  clear h hf hu hfr hkey
  obtain ⟨qa,ql,qc,aa,al,ac,ma,ml,mc,ca,cl,cc⟩:=x
  obtain ⟨qs,clock,epoch,next,serial,apps,ms,cs⟩:=s
  simp only at HFV
  have HB0:=hide (capW_below w (svc ⟨qa,ql,qc,aa,al,ac,ma,ml,mc,ca,cl,cc⟩ ⟨qs,clock,epoch,next,serial,apps,ms,cs⟩))
  have V0:=hide (capW_var w (svc ⟨qa,ql,qc,aa,al,ac,ma,ml,mc,ca,cl,cc⟩ ⟨qs,clock,epoch,next,serial,apps,ms,cs⟩))
  have P0:=hide ((boxW_blk w (svc ⟨qa,ql,qc,aa,al,ac,ma,ml,mc,ca,cl,cc⟩ ⟨qs,clock,epoch,next,serial,apps,ms,cs⟩)).al (.cells #[.int .i64 0,.int .i64 0] 36))
  go_enter Tryz.func134,Tryz.ntmps134
  go_wp2_with fail
  refine (uH CM _ (uH HB0)).mono ?_
  rintro e w1 ⟨bm,rfl,⟨hbm,D,hown,hk⟩,hb⟩
  have hlk:=lookM hown hk (uH HKEY)
  have HB1:=hide (yB (uH HB0) hb)
  have V1:=hide ((uH V0).below hb)
  have P1:=hide ((uH P0).below hb)
  clear hb HB0 V0 P0 CM hown hk hbm
  cases hfm:findM nm ms with
  | none=>
    rw [hfm] at hlk HFV
    simp only at HFV
    have hz:=uH HFV
    simp only [Prod.mk.injEq] at hz
    obtain ⟨rfl,rfl⟩:=hz
    rw [show (none:Option Mac).getD ⟨[],0,0,0⟩=⟨[],0,0,0⟩ from rfl,show (none:Option Mac).isSome=false from rfl] at hlk
    have V2:=(uH V1).al (macobj ⟨[],0,0,0⟩)
    have t0:=V2.c0
    have t1:=V2.c1
    have f0:=V2.f 0
    have f1:=V2.f 1
    have k4:=V2.s0 (.int .i64 0)
    have k5:=V2.s1 (.int .i64 0) (.int .i64 0)
    clear V2
    go_wp2
    refine bodyPost_ret (v:=rv 0 0) (by simp [results,Tryz.results134,go_sem,k4,k5]) rfl ⟨rfl,?_⟩
    repeat (first | exact uH HB1 | refine yA ?_ _ | refine yC ?_ _ _ _ (by omega))
  | some m=>
    rw [hfm] at hlk HFV
    rw [show (some m).getD ⟨[],0,0,0⟩=m from rfl,show (some m).isSome=true from rfl] at hlk
    obtain ⟨mn,me,mp,se⟩:=m
    simp only at HFV
    have HRV:=hide (show bothV (-1) me mp ux uy=rv fx fy by rw [less_both,←uH HFV])
    have CB:=hide (fun wx=>by have:=implSub_any me mp ux uy wx;rw [uH HRV] at this;exact this)
    obtain ⟨ok,hok⟩:∃o,bothOk (-1) me mp ux uy=o:=⟨_,rfl⟩
    rw [hok] at CB
    clear hok HRV HFV hfm
    obtain ⟨L,R,VR,h0⟩:∃L:List (Nat×Array Value×TypeId),(∀wx,Held w (w1.heap.size+1) L wx→wx.cell? ⟨w1.heap.size,1,none⟩=some (.int .i64 me)∧wx.cell? ⟨w1.heap.size,2,none⟩=some (.int .i64 mp)∧wx.cell? ⟨w.heap.size,0,none⟩=some (.slice qa ql qc)∧wx.cell? ⟨w.heap.size,1,none⟩=some (.int .i64 clock)∧wx.cell? ⟨w.heap.size,2,none⟩=some (.int .i64 epoch)∧wx.cell? ⟨w.heap.size,3,none⟩=some (.int .i64 next)∧wx.cell? ⟨w.heap.size,4,none⟩=some (.int .i64 serial)∧wx.cell? ⟨w.heap.size,5,none⟩=some (.slice aa al ac)∧wx.cell? ⟨w.heap.size,6,none⟩=some (.slice ma ml mc)∧wx.cell? ⟨w.heap.size,7,none⟩=some (.slice ca cl cc))
        ∧(∀wx,Held w (w1.heap.size+1) L wx→Var wx 36 (w.heap.size+1) 0 0)∧Held w (w1.heap.size+1) L (w1.alloc (macobj ⟨mn,me,mp,se⟩)):=by
      have l1:=(uH V1).lt
      have l2:=(uH P1).lt
      refine ⟨[(w.heap.size,svc ⟨qa,ql,qc,aa,al,ac,ma,ml,mc,ca,cl,cc⟩ ⟨qs,clock,epoch,next,serial,apps,ms,cs⟩,34),(w.heap.size+1,#[.int .i64 0,.int .i64 0],36),(w1.heap.size,#[.string (bs mn),.int .i64 me,.int .i64 mp,.int .i64 se],104)],fun wx h=>?_,fun wx h=>?_,?_⟩
      · have a:=h.blk (p:=(w.heap.size,svc ⟨qa,ql,qc,aa,al,ac,ma,ml,mc,ca,cl,cc⟩ ⟨qs,clock,epoch,next,serial,apps,ms,cs⟩,34)) (by simp)
        have b:=h.blk (p:=(w1.heap.size,#[.string (bs mn),.int .i64 me,.int .i64 mp,.int .i64 se],104)) (by simp)
        exact ⟨b.at 1,b.at 2,a.at 0,a.at 1,a.at 2,a.at 3,a.at 4,a.at 5,a.at 6,a.at 7⟩
      · exact (h.blk (p:=(w.heap.size+1,#[.int .i64 0,.int .i64 0],36)) (by simp)).var
      · refine ⟨fun p hp=>?_,by rw [yE];omega,by omega,yA (uH HB1) _⟩
        simp only [List.mem_cons,List.not_mem_nil,or_false] at hp
        rcases hp with rfl | rfl | rfl
        · exact ⟨by simp only;omega,(uH P1).al _⟩
        · exact ⟨by simp only;omega,(uH V1).blk.al _⟩
        · exact ⟨by simp only;omega,yD _ _ _⟩
    have A0:=hide h0
    have HS:=hide (held_holds w (w1.heap.size+1) L)
    clear h0
    go_wp2_with fail
    go_cut [7,8] from 20 to 28 (fun v7 v8 wx=>∃g,v7=.pointer (some ⟨g,0,none⟩)∧v8=.bool ok∧Held w (w1.heap.size+1) L wx∧Var wx 36 g fx fy∧w1.heap.size+1≤g)
    case first=>
      go_region_held3 (fun wx=>Held w (w1.heap.size+1) L wx)
        (first | (with_reducible assumption) | exact uH SA | exact (uH HS).drew (uH A0) | exact (uH HS).al (uH SA) _ | exact (uH HS).al (by assumption) _ | exact (uH HS).al ((uH HS).drew (uH A0)) _ | exact (uH HS).call (by assumption) (by assumption) | exact (uH HS).set2 (uH SA) _ _ _ (by first | omega | (simp<;>omega)) | exact (uH HS).set2 (by assumption) _ _ _ (by first | omega | (simp<;>omega)))
        (first
        | (go_at_call 166;refine (uH CU _ ?_).mono ?_;(exact (uH HS).below (by assumption));rintro e wt ⟨rfl,hb⟩;have SA:=hide ((uH HS).call (by assumption) hb);have sz:=(uH HS).size (uH SA)
           first
             | (have V5:=(var_new _ 36 0 0).below hb;(try simp at V5);have c50:=V5.c0;have c51:=V5.c1;have f50:=V5.f 0;have f51:=V5.f 1;have V5:=hide V5)
             | (have V5:=(var_new _ 36 0 0).drew.below hb;(try simp at V5);have c50:=V5.c0;have c51:=V5.c1;have f50:=V5.f 0;have f51:=V5.f 1;have V5:=hide V5)
             | skip)
        | (go_at_call 123;refine (uH CB _).mono ?_;rintro e wt ⟨rfl,hb⟩;have SA:=hide ((uH HS).call (by assumption) hb);have sz:=(uH HS).size (uH SA)
           first
             | (have V5:=(var_new _ 36 0 0).below hb;(try simp at V5);have c50:=V5.c0;have c51:=V5.c1;have f50:=V5.f 0;have f51:=V5.f 1;have V5:=hide V5)
             | (have V5:=(var_new _ 36 0 0).drew.below hb;(try simp at V5);have c50:=V5.c0;have c51:=V5.c1;have f50:=V5.f 0;have f51:=V5.f 1;have V5:=hide V5)
             | (have V5:=hide ((uH V5).below hb);have c50:=(uH V5).c0;have c51:=(uH V5).c1;have f50:=(uH V5).f 0;have f51:=(uH V5).f 1)
             | skip))
      all_goals
        go_wp2_with fail
        go_meet
        exact ⟨_,rfl,rfl,by first | assumption | exact uH SA | exact (uH HS).al (uH SA) _,by first | exact var_new _ _ _ _ | exact (uH V5).set _ _,by first | omega | (simp<;>omega)⟩
    case rest=>
      obtain ⟨g,rfl,rfl,hA,hV,hg⟩:=hcut
      have HB2:=hide ((uH HS).below hA)
      have v0:=hV.c0
      have v1:=hV.c1
      have V2:=VR _ hA
      have t0:=V2.c0
      have t1:=V2.c1
      have f0:=V2.f 0
      have f1:=V2.f 1
      have k4:=V2.s0 (.int .i64 fx)
      have k5:=V2.s1 (.int .i64 fx) (.int .i64 fy)
      clear hA hV A0 CB CU R VR V2 V1 P1 HB1
      go_wp2
      refine bodyPost_ret (v:=rv fx fy) (by simp [results,Tryz.results134,go_sem,k4,k5]) rfl ⟨rfl,?_⟩
      repeat (first | exact uH HB2 | refine yA ?_ _ | refine yC ?_ _ _ _ (by omega))
def plR:Option (Nat×Nat)→Int×Int×Bool
 | some r=>((r.1:Int),(r.2:Int),true)
 | none=>(0,0,false)
theorem firstAsk_any (x:Sls) (s:St) (nd:List UInt8) (w:World) (h:SRow w x s) (hf:FitSt s) (hc:x.ql≤x.qc) (hw:WfSt s) (hnd:nd.length≤1048576) :
  Calls Tryz.prog 106 #[sv x s,.string (bs nd)] w fun e w'=>e=.returned (.tuple #[rv (plR (pickV s nd)).1 (plR (pickV s nd)).2.1,.bool (plR (pickV s nd)).2.2])∧Below w.heap.size w w':=by
 have hal:x.al≤1048576:=h.al hf
 have CF:=hide (fun wx (hb:Below w.heap.size w wx)=>implFreeOn_any x s nd wx (h.below hb) hf hnd)
 have CO:=hide (fun wx (hb:Below w.heap.size w wx)=>implQueueOrder_any x s wx (h.below hb) hf hc hw)
 have CR:=hide (fun nm wx (hb:Below w.heap.size w wx)=>roomLeft_any x s nm wx (h.below hb) hf hc hw)
 have HR:=hide h.2.1
 have HL:=hide h.2.1.1
 have HFA:=hide hf.2.1
 have HOL:=hide (show (orderV s).length≤1048576 from by have:=orderV_len s;have:=h.1.1;have:=h.ql hf;omega)
 have HQS:=hide (fun i (hi:i<(orderV s).length)=>queFrom_step (s:=s) (nd:=nd) hi)
 have HQE:=hide (fun i (hi:(orderV s).length≤i)=>queFrom_end (s:=s) (nd:=nd) hi)
 have HCN:=hide (show ∀qu a,canV s nd qu a=(suitsV a nd&&(within a.mem a.cpu (freeOnV s nd).1 (freeOnV s nd).2&&((leftFrom s (path s.qs qu) 1000000000 1000000000).2.2&&decide (0<(path s.qs qu).length)&&within a.mem a.cpu (leftFrom s (path s.qs qu) 1000000000 1000000000).1 (leftFrom s (path s.qs qu) 1000000000 1000000000).2.1))) from fun qu a=>by rw [canV,room_eq])
 obtain ⟨pr,hpr⟩:∃p,pickV s nd=p:=⟨_,rfl⟩
 have HP0:=hide (show queFrom s nd ((orderV s).drop 0)=pr from hpr)
 rw [hpr]
 obtain ⟨⟨fx,fy⟩,hfr⟩:∃p,freeOnV s nd=p:=⟨_,rfl⟩
 obtain ⟨ord,hord⟩:∃p,orderV s=p:=⟨_,rfl⟩
 obtain ⟨cn,hcn⟩:∃p,canV s nd=p:=⟨_,rfl⟩
 obtain ⟨qf,hqf⟩:∃p,queFrom s nd=p:=⟨_,rfl⟩
 obtain ⟨lf,hlf⟩:∃f:List UInt8→Int×Int×Bool,(fun q=>((leftFrom s (path s.qs q) 1000000000 1000000000).1,(leftFrom s (path s.qs q) 1000000000 1000000000).2.1,(leftFrom s (path s.qs q) 1000000000 1000000000).2.2&&decide (0<(path s.qs q).length)))=f:=⟨_,rfl⟩
 have CR2:=hide (show ∀nm wx (hb:Below w.heap.size w wx),Calls Tryz.prog 136 #[sv x s,.string (bs nm)] wx fun e w'=>e=.returned (.tuple #[rv (lf nm).1 (lf nm).2.1,.bool (lf nm).2.2])∧Below wx.heap.size wx w' from fun nm wx hb=>by rw [←hlf];exact uH CR nm wx hb)
 have HCN2:=hide (show ∀qu a,cn qu a=(suitsV a nd&&(within a.mem a.cpu fx fy&&((lf qu).2.2&&within a.mem a.cpu (lf qu).1 (lf qu).2.1))) from fun qu a=>by rw [←hcn,uH HCN,hfr,←hlf])
 rw [hfr] at CF
 rw [hord] at CO HOL HQS HQE HP0
 rw [hcn,hqf] at HQS
 rw [hqf] at HQE HP0
 clear h hf hc hw hpr hfr hord hcn hqf hlf CR HCN
 obtain ⟨qa,ql,qc,aa,al,ac,ma,ml,mc,ca,cl,cc⟩:=x
 obtain ⟨qs,clock,epoch,next,serial,apps,ms,cs⟩:=s
 simp only at CF CO CR2 HR HL HFA HQS hal
 have hol:ord.length≤1048576:=uH HOL
 have HB0:=hide (yA (yA (Below.refl _ w) (.cells (svc ⟨qa,ql,qc,aa,al,ac,ma,ml,mc,ca,cl,cc⟩ ⟨qs,clock,epoch,next,serial,apps,ms,cs⟩) 34)) (.cells #[.int .i64 0,.int .i64 0] 115))
 have P0:=hide ((yD w (svc ⟨qa,ql,qc,aa,al,ac,ma,ml,mc,ca,cl,cc⟩ ⟨qs,clock,epoch,next,serial,apps,ms,cs⟩) 34).al (.cells #[.int .i64 0,.int .i64 0] 115))
 have R0:=hide (show Var _ 115 (w.heap.size+1) 0 0 by have:=var_new (w.alloc (.cells (svc ⟨qa,ql,qc,aa,al,ac,ma,ml,mc,ca,cl,cc⟩ ⟨qs,clock,epoch,next,serial,apps,ms,cs⟩) 34)) 115 0 0;rw [yE] at this;exact this)
 have q0:=(uH P0).at 0;have q1:=(uH P0).at 1;have q2:=(uH P0).at 2;have q3:=(uH P0).at 3;have q4:=(uH P0).at 4;have q5:=(uH P0).at 5;have q6:=(uH P0).at 6;have q7:=(uH P0).at 7
 simp at q0 q1 q2 q3 q4 q5 q6 q7
 go_enter Tryz.func106,Tryz.ntmps106
 go_wp2_with fail
 go_step3
 go_wp2_with fail
 refine (uH CF _ (uH HB0)).mono ?_
 rintro e w1 ⟨rfl,hb⟩
 clear q0 q1 q2 q3 q4 q5 q6 q7
 have hba:=yA (yA (Below.refl _ w1) (.cells #[.int .i64 fx,.int .i64 fy] 36)) (.cells #[.int .i64 0,.int .i64 0] 115)
 have HB1:=hide (yB (yB (uH HB0) hb) hba)
 have P1:=hide (((uH P0).below hb).below hba)
 have R1:=hide (((uH R0).below hb).below hba)
 have F1:=hide ((var_new w1 36 fx fy).al (.cells #[.int .i64 0,.int .i64 0] 115))
 have T1:=hide (show Var ((w1.alloc (.cells #[.int .i64 fx,.int .i64 fy] 36)).alloc (.cells #[.int .i64 0,.int .i64 0] 115)) 115 (w1.heap.size+1) 0 0 by have:=var_new (w1.alloc (.cells #[.int .i64 fx,.int .i64 fy] 36)) 115 0 0;rw [yE] at this;exact this)
 have hgw:w.heap.size+1<w1.heap.size:=((uH R0).below hb).lt
 obtain ⟨gf,hgf⟩:∃g,w1.heap.size=g:=⟨_,rfl⟩
 rw [hgf] at F1 T1 hgw
 clear hb hba HB0 P0 R0 CF
 have q0:=(uH P1).at 0;have q1:=(uH P1).at 1;have q2:=(uH P1).at 2;have q3:=(uH P1).at 3;have q4:=(uH P1).at 4;have q5:=(uH P1).at 5;have q6:=(uH P1).at 6;have q7:=(uH P1).at 7
 simp at q0 q1 q2 q3 q4 q5 q6 q7
 go_wp2_with fail
 try rw [hgf]
 go_step3
 go_wp2_with fail
 try rw [hgf]
 refine (uH CO _ (uH HB1)).mono ?_
 rintro e w2 ⟨v0,rfl,ht,hb⟩
 obtain ⟨vo,vc,rfl,hrow⟩:=ht.open
 have HROW:=hide hrow
 have HB2:=hide (yB (uH HB1) hb)
 have P2:=hide ((uH P1).below hb)
 have R2:=hide ((uH R1).below hb)
 have F2:=hide ((uH F1).below hb)
 have T2:=hide ((uH T1).below hb)
 clear hb ht hrow HB1 P1 R1 F1 T1 CO q0 q1 q2 q3 q4 q5 q6 q7 hgf
 go_wp2
 go_loopw [8,10,11,12,13,14,15,16,24] (fun fo _ _ _ _ _ _ _ i wr=>∃q:Nat,fo=.bool false∧q≤ord.length∧i=.int .i64 q∧Hid (qf (ord.drop q)=pr)∧Hid (Below w2.heap.size w2 wr)) (fun _ _ _ _ _ _ _ _ i _=>ord.length - (intOf i).toNat)
 case atStart=>exact ⟨0,rfl,Nat.zero_le _,rfl,HP0,hide (Below.refl _ _)⟩
 case round=>
  obtain ⟨q,rfl,hq,rfl,HQ,HK⟩:=hrel
  obtain ⟨wq,rfl⟩:∃wo:World,wo=wr:=⟨_,rfl⟩
  have HBq:=hide (yB (uH HB2) (uH HK))
  have Pq:=hide ((uH P2).below (uH HK))
  clear HP0
  by_cases hlt:q<ord.length
  ·obtain ⟨gv,rfl,hcv0⟩:=uH HROW q hlt
   have hcv:=((uH HK).cell (p:=⟨gv,q,none⟩) (yG hcv0)).trans hcv0
   have hst:=uH HQS q hlt
   obtain ⟨qn,hqn⟩:∃n,ord[q]=n:=⟨_,rfl⟩
   rw [hqn] at hcv hst
   rw [uH HQ] at hst
   obtain ⟨rr,hrr⟩:∃r,appFrom (cn qn) qn apps 0=r:=⟨_,rfl⟩
   rw [hrr] at hst
   have HRR:=hide hrr
   have HSQ:=hide hst
   have CR1:=hide (uH CR2 qn)
   have HCV1:=hide (uH HCN2 qn)
   obtain ⟨⟨lx,ly,ok⟩,hlk⟩:∃t,lf qn=t:=⟨_,rfl⟩
   rw [hlk] at CR1 HCV1
   simp only at CR1 HCV1
   have q0:=(uH Pq).at 0;have q1:=(uH Pq).at 1;have q2:=(uH Pq).at 2;have q3:=(uH Pq).at 3;have q4:=(uH Pq).at 4;have q5:=(uH Pq).at 5;have q6:=(uH Pq).at 6;have q7:=(uH Pq).at 7
   simp at q0 q1 q2 q3 q4 q5 q6 q7
   clear hcv0 hst hqn hrr hlk HQ
   go_wp2_with fail
   refine (uH CR1 _ (uH HBq)).mono ?_
   rintro e w3 ⟨rfl,hb⟩
   have hb3:=yB (Below.refl _ wq) (yA hb (.cells #[.int .i64 lx,.int .i64 ly] 36))
   have HK3:=hide (yB (uH HK) hb3)
   clear q0 q1 q2 q3 q4 q5 q6 q7 hcv CR1
   cases ok
   case false=>
    have HN:=hide (show qf (ord.drop (q+1))=pr by
     have h1:=uH HRR
     rw [appFrom_none (fun a=>by rw [uH HCV1];simp)] at h1
     have h2:=uH HSQ
     rw [←h1] at h2
     exact h2.symm)
    clear hb hb3
    go_wp2
    go_roundw
    case rel=>exact ⟨q+1,rfl,by omega,by go_num,HN,HK3⟩
    case measure=>simp [intOf];omega
   case true=>
    have V3:=hide (var_new w3 36 lx ly)
    have P3:=hide ((uH Pq).below hb3)
    obtain ⟨g3,hg3⟩:∃g,w3.heap.size=g:=⟨_,rfl⟩
    rw [hg3] at V3
    obtain ⟨W3,hW3⟩:∃W,w3.alloc (.cells #[.int .i64 lx,.int .i64 ly] 36)=W:=⟨_,rfl⟩
    rw [hW3] at HK3 V3 P3
    have HW3:=hide hW3
    have q0:=(uH P3).at 0;have q1:=(uH P3).at 1;have q2:=(uH P3).at 2;have q3:=(uH P3).at 3;have q4:=(uH P3).at 4;have q5:=(uH P3).at 5;have q6:=(uH P3).at 6;have q7:=(uH P3).at 7
    simp at q0 q1 q2 q3 q4 q5 q6 q7
    clear hb hb3 hW3 Pq HBq HK
    rw [←uH HW3] at q0 q1 q2 q3 q4 q5 q6 q7
    go_wp2
    try rw [hg3]
    rw [uH HW3]
    clear q0 q1 q2 q3 q4 q5 q6 q7 hg3
    go_loopw [8,13,14,15,16,39] (fun fo _ _ _ _ i wr=>∃i':Nat,fo=.bool false∧i'≤al∧i=.int .i64 i'∧Hid (appFrom (cn qn) qn (apps.drop i') i'=rr)∧Hid (Below W3.heap.size W3 wr)) (fun _ _ _ _ _ i _=>al - (intOf i).toNat)
    case atStart=>exact ⟨0,rfl,Nat.zero_le _,rfl,hide (uH HRR),hide (Below.refl _ _)⟩
    case round=>
     obtain ⟨i,rfl,hi,rfl,HI,HKi⟩:=hrel
     obtain ⟨wi,rfl⟩:∃wo:World,wo=wr:=⟨_,rfl⟩
     have HK4:=hide (yB (uH HK3) (uH HKi))
     have HB4:=hide (yB (uH HB2) (uH HK4))
     by_cases hil:i<al
     ·obtain ⟨bb,off,rfl,hqa⟩:=(uH HR).at hil
      have hkl:i<apps.length:=by have:=uH HL;omega
      have hst:=appFrom_step (p:=cn qn) (qu:=qn) hkl
      have hfa:=(uH HFA).2 _ (List.getElem_mem hkl)
      obtain ⟨xo,xl,xc,c0,c1,c2,hrow,_⟩:=hqa hkl
      replace c0:=Kp.cell (uH HB4) c0
      replace c1:=Kp.cell (uH HB4) c1
      replace c2:=Kp.cell (uH HB4) c2
      obtain ⟨⟨id,qu,asks⟩,hs⟩:∃s,apps[i]=s:=⟨_,rfl⟩
      rw [hs] at c0 c1 hst hrow hfa
      simp only at c0 c1 hst hrow
      rw [uH HI] at hst
      have hxl:xl≤1048576:=by have h1:=hrow.1;have h2:=hfa.2.1;simp only at h2;omega
      have HA:=hide hrow
      have HAL:=hide hrow.1
      have i0:(0:Int)≤i:=by omega
      have i1:(i:Int)<al:=by omega
      clear hqa hs hkl hrow hfa HI
      by_cases hqn:qu=qn
      case neg=>
       have hqe:=bs_eq qu qn
       rw [decide_eq_false hqn] at hqe
       rw [if_neg hqn] at hst
       have HST:=hide hst
       clear hst
       go_wp2
       go_roundw
       case rel=>exact ⟨i+1,rfl,by omega,by go_num,hide (uH HST).symm,hide (yA (uH HKi) _)⟩
       case measure=>simp [intOf];omega
      subst hqn
      have hqe:=bs_eq qu qu
      rw [decide_eq_true rfl] at hqe
      rw [if_pos rfl] at hst
      obtain ⟨ak,hak⟩:∃a,askFrom (cn qu) asks 0=a:=⟨_,rfl⟩
      rw [hak] at hst
      have HSA:=hide hst
      have HAK:=hide hak
      have HK5:=hide (yA (uH HKi) (.cells #[.int .i64 id,.string (bs qu),.slice xo xl xc] 74))
      clear hst hak
      go_wp2
      go_loopw [8,15,16,51] (fun fo _ _ i wr=>∃k:Nat,fo=.bool false∧k≤xl∧i=.int .i64 k∧Hid (askFrom (cn qu) (asks.drop k) k=ak)∧Hid (Below W3.heap.size W3 wr)) (fun _ _ _ i _=>xl - (intOf i).toNat)
      case atStart=>exact ⟨0,rfl,Nat.zero_le _,rfl,hide (uH HAK),HK5⟩
      case round=>
       obtain ⟨k,rfl,hk,rfl,HKA,HKk⟩:=hrel
       have HK6:=hide (yB (uH HK3) (uH HKk))
       have HB6:=hide (yB (uH HB2) (uH HK6))
       clear HK5 HAK c0 c1 c2
       by_cases hkl:k<xl
       ·obtain ⟨ab,aoff,rfl,ha⟩:=((uH HA).below (uH HB6)).at hkl
        have hjk:k<asks.length:=by have:=uH HAL;omega
        have hst:=askFrom_step (p:=cn qu) hjk
        obtain ⟨d0,d1,d2,d3,d4⟩:=ha hjk
        obtain ⟨a,hs⟩:∃s,asks[k]=s:=⟨_,rfl⟩
        rw [hs] at d0 d1 d2 d3 d4 hst
        rw [uH HKA] at hst
        have HST:=hide hst
        have HCV:=hide (uH HCV1 a)
        have CS1:=hide (fun wx=>implSuits_any a nd wx)
        have CW1:=hide (fun wx=>implWithin_any a.mem a.cpu fx fy wx)
        have CW2:=hide (fun wx=>implWithin_any a.mem a.cpu lx ly wx)
        obtain ⟨su,hsu⟩:∃b,suitsV a nd=b:=⟨_,rfl⟩
        obtain ⟨b1,hb1⟩:∃b,within a.mem a.cpu fx fy=b:=⟨_,rfl⟩
        obtain ⟨b2,hb2⟩:∃b,within a.mem a.cpu lx ly=b:=⟨_,rfl⟩
        rw [hsu] at CS1
        rw [hb1] at CW1
        rw [hb2] at CW2
        rw [hsu,hb1,hb2] at HCV
        have j0:(0:Int)≤k:=by omega
        have j1:(k:Int)<xl:=by omega
        clear ha hs hjk hst HKA hsu hb1 hb2
        obtain ⟨me,cp,ct,nx,mi⟩:=a
        simp only at d0 d1 d2 d3 d4 CS1 CW1 CW2
        have hba:=yA (Below.refl _ wr) (.cells #[.int .i64 me,.int .i64 cp,.int .i64 ct,.string (bs nx),.int .i64 mi] 77)
        have HK7:=hide (yB (uH HKk) hba)
        have A7:=hide (yD wr #[.int .i64 me,.int .i64 cp,.int .i64 ct,.string (bs nx),.int .i64 mi] 77)
        clear hba
        go_wp2_with fail
        refine (uH CS1 _).mono ?_
        rintro e w8 ⟨rfl,hb⟩
        have HK8:=hide (yB (uH HK7) hb)
        have A8:=hide ((uH A7).below hb)
        clear hb HK7 A7 CS1 d0 d1 d2 d3 d4
        cases su
        case false=>
         go_wp2
         go_roundw
         case rel=>exact ⟨k+1,rfl,by omega,by go_num,hide (by have:=uH HST;rw [if_neg (by rw [uH HCV];simp)] at this;exact this.symm),HK8⟩
         case measure=>simp [intOf];omega
        case true=>
         have e0:=(uH A8).at 0;have e1:=(uH A8).at 1
         simp at e0 e1
         have fv:=(uH F2).below (yB (uH HK3) (uH HK8))
         have f0:=fv.c0;have f1:=fv.c1
         clear fv
         go_wp2_with fail
         refine (uH CW1 _).mono ?_
         rintro e w9 ⟨rfl,hb⟩
         have HK9:=hide (yB (uH HK8) hb)
         have A9:=hide ((uH A8).below hb)
         clear hb HK8 A8 CW1 e0 e1 f0 f1
         cases b1
         case false=>
          go_wp2
          go_roundw
          case rel=>exact ⟨k+1,rfl,by omega,by go_num,hide (by have:=uH HST;rw [if_neg (by rw [uH HCV];simp)] at this;exact this.symm),HK9⟩
          case measure=>simp [intOf];omega
         case true=>
          have e0:=(uH A9).at 0;have e1:=(uH A9).at 1
          simp at e0 e1
          have rv3:=(uH V3).below (uH HK9)
          have r0:=rv3.c0;have r1:=rv3.c1
          clear rv3
          go_wp2_with fail
          refine (uH CW2 _).mono ?_
          rintro e w10 ⟨rfl,hb⟩
          have HK10:=hide (yB (uH HK9) hb)
          clear hb HK9 A9 CW2 e0 e1 r0 r1
          cases b2
          case false=>
           go_wp2
           go_roundw
           case rel=>exact ⟨k+1,rfl,by omega,by go_num,hide (by have:=uH HST;rw [if_neg (by rw [uH HCV];simp)] at this;exact this.symm),HK10⟩
           case measure=>simp [intOf];omega
          case true=>
           have HE:=hide (show pr=some (i,k) by
            have h1:=uH HST
            rw [if_pos (by rw [uH HCV];rfl)] at h1
            have h2:=uH HSA
            rw [h1] at h2
            have h3:=uH HSQ
            rw [h2] at h3
            exact h3)
           have HKX:=hide (yB (uH HK3) (uH HK10))
           have T9:=(uH T2).below (uH HKX)
           have R9:=(uH R2).below (uH HKX)
           have ne1:w.heap.size+1≠gf+1:=by omega
           have T10:=T9.set (i:Int) (k:Int)
           have R10:=(R9.other (gf+1) 0 (.int .i64 (i:Int)) ne1).other (gf+1) 1 (.int .i64 (k:Int)) ne1
           have R11:=R10.set (i:Int) (k:Int)
           have a0:=T9.c0;have a1:=T9.c1;have a2:=T9.f 0;have a3:=T9.f 1
           have t0:=T10.c0;have t1:=T10.c1
           have r0:=R10.c0;have r1:=R10.c1;have r2:=R10.f 0;have r3:=R10.f 1
           have z0:=R11.c0;have z1:=R11.c1
           have HBX:=hide (yC (yC (yC (yC (yB (uH HB2) (uH HKX)) (gf+1) 0 (.int .i64 (i:Int)) (by omega)) (gf+1) 1 (.int .i64 (k:Int)) (by omega)) (w.heap.size+1) 0 (.int .i64 (i:Int)) (by omega)) (w.heap.size+1) 1 (.int .i64 (k:Int)) (by omega))
           clear T9 T10 R9 R10 R11
           go_wp2
           try rw [Exit.noGoto_ret]
           refine bodyPost_ret (v:=.tuple #[rv (i:Int) (k:Int),.bool true]) (by simp [results,Tryz.results106,go_sem,z0,z1]) rfl ⟨by rw [uH HE];rfl,uH HBX⟩
       ·have hke:asks.length≤k:=by have:=uH HAL;omega
        have HN:=hide (show appFrom (cn qu) qu (apps.drop (i+1)) (i+1)=rr by
         have h1:=uH HKA
         rw [askFrom_end hke] at h1
         have h2:=uH HSA
         rw [←h1] at h2
         exact h2.symm)
        have j1:¬(k:Int)<xl:=by omega
        clear HKA
        go_wp2
        go_roundw
        case rel=>exact ⟨i+1,rfl,by omega,by go_num,HN,HKk⟩
        case measure=>simp [intOf];omega
     ·have hie:apps.length≤i:=by have:=uH HL;omega
      have HN:=hide (show qf (ord.drop (q+1))=pr by
       have h1:=uH HI
       rw [appFrom_end hie] at h1
       have h2:=uH HSQ
       rw [←h1] at h2
       exact h2.symm)
      have j1:¬(i:Int)<al:=by omega
      clear HI
      go_wp2
      go_roundw
      case rel=>exact ⟨q+1,rfl,by omega,by go_num,HN,HK4⟩
      case measure=>simp [intOf];omega
  ·have HE:=hide (show pr=none by rw [←uH HQ];exact uH HQE q (by omega))
   have T9:=(uH T2).below (uH HK)
   have R9:=(uH R2).below (uH HK)
   have R11:=R9.set 0 0
   have t0:=T9.c0;have t1:=T9.c1
   have r0:=R9.c0;have r1:=R9.c1;have r2:=R9.f 0;have r3:=R9.f 1
   have z0:=R11.c0;have z1:=R11.c1
   have HBX:=hide (yC (yC (uH HBq) (w.heap.size+1) 0 (.int .i64 0) (by omega)) (w.heap.size+1) 1 (.int .i64 0) (by omega))
   have j1:¬(q:Int)<(ord.length:Int):=by omega
   clear T9 R9 R11 HQ
   go_wp2
   try rw [Exit.noGoto_ret]
   refine bodyPost_ret (v:=.tuple #[rv 0 0,.bool false]) (by simp [results,Tryz.results106,go_sem,z0,z1]) rfl ⟨by rw [uH HE];rfl,uH HBX⟩
def atR:Option ((Nat×Nat)×Con)→Int×Int
  | some r=>((r.1.1:Int),(r.1.2:Int))
  | none=>(0,0)
theorem nx_cells {W:World} {g1 g2:Nat} {ta tc:TypeId} (h1:Blk W g1 #[.int .i64 0,.int .i64 0] ta) (h2:Blk W g2 #[.int .i64 0,.int .i64 0,.string ByteArray.empty,.int .i64 0,.int .i64 0] tc) (hn:g1≠g2) (i k:Int) :
    W.cell? ⟨g1,0,none⟩=some (.int .i64 0)∧W.cell? ⟨g1,1,none⟩=some (.int .i64 0)∧W.frozen? ⟨g1,0,none⟩=false∧W.frozen? ⟨g1,1,none⟩=false∧((W.setCell ⟨g1,0,none⟩ (.int .i64 i)).setCell ⟨g1,1,none⟩ (.int .i64 k)).cell? ⟨g2,0,none⟩=some (.int .i64 0)∧((W.setCell ⟨g1,0,none⟩ (.int .i64 i)).setCell ⟨g1,1,none⟩ (.int .i64 k)).cell? ⟨g2,1,none⟩=some (.int .i64 0)∧((W.setCell ⟨g1,0,none⟩ (.int .i64 i)).setCell ⟨g1,1,none⟩ (.int .i64 k)).cell? ⟨g2,2,none⟩=some (.string ByteArray.empty)∧((W.setCell ⟨g1,0,none⟩ (.int .i64 i)).setCell ⟨g1,1,none⟩ (.int .i64 k)).cell? ⟨g2,3,none⟩=some (.int .i64 0)∧((W.setCell ⟨g1,0,none⟩ (.int .i64 i)).setCell ⟨g1,1,none⟩ (.int .i64 k)).cell? ⟨g2,4,none⟩=some (.int .i64 0)∧((W.setCell ⟨g1,0,none⟩ (.int .i64 i)).setCell ⟨g1,1,none⟩ (.int .i64 k)).frozen? ⟨g2,0,none⟩=false∧((W.setCell ⟨g1,0,none⟩ (.int .i64 i)).setCell ⟨g1,1,none⟩ (.int .i64 k)).frozen? ⟨g2,1,none⟩=false∧((W.setCell ⟨g1,0,none⟩ (.int .i64 i)).setCell ⟨g1,1,none⟩ (.int .i64 k)).frozen? ⟨g2,2,none⟩=false∧((W.setCell ⟨g1,0,none⟩ (.int .i64 i)).setCell ⟨g1,1,none⟩ (.int .i64 k)).frozen? ⟨g2,3,none⟩=false∧((W.setCell ⟨g1,0,none⟩ (.int .i64 i)).setCell ⟨g1,1,none⟩ (.int .i64 k)).frozen? ⟨g2,4,none⟩=false:=by
  have h3:=(h2.other g1 0 (.int .i64 i) (fun e=>hn e.symm)).other g1 1 (.int .i64 k) (fun e=>hn e.symm)
  exact ⟨h1.at 0,h1.at 1,h1.f 0,h1.f 1,h3.at 0,h3.at 1,h3.at 2,h3.at 3,h3.at 4,h3.f 0,h3.f 1,h3.f 2,h3.f 3,h3.f 4⟩
theorem nx_end {W:World} {g1 g2:Nat} {ta tc:TypeId} (h1:Blk W g1 #[.int .i64 0,.int .i64 0] ta) (h2:Blk W g2 #[.int .i64 0,.int .i64 0,.string ByteArray.empty,.int .i64 0,.int .i64 0] tc) (hn:g1≠g2) (i k id ap:Int) (sn:ByteArray) (me cp:Int) :
    Blk (((((((W.setCell ⟨g1,0,none⟩ (.int .i64 i)).setCell ⟨g1,1,none⟩ (.int .i64 k)).setCell ⟨g2,0,none⟩ (.int .i64 id)).setCell ⟨g2,1,none⟩ (.int .i64 ap)).setCell ⟨g2,2,none⟩ (.string sn)).setCell ⟨g2,3,none⟩ (.int .i64 me)).setCell ⟨g2,4,none⟩ (.int .i64 cp)) g1 #[.int .i64 i,.int .i64 k] ta∧Blk (((((((W.setCell ⟨g1,0,none⟩ (.int .i64 i)).setCell ⟨g1,1,none⟩ (.int .i64 k)).setCell ⟨g2,0,none⟩ (.int .i64 id)).setCell ⟨g2,1,none⟩ (.int .i64 ap)).setCell ⟨g2,2,none⟩ (.string sn)).setCell ⟨g2,3,none⟩ (.int .i64 me)).setCell ⟨g2,4,none⟩ (.int .i64 cp)) g2 #[.int .i64 id,.int .i64 ap,.string sn,.int .i64 me,.int .i64 cp] tc:=
  ⟨((((((h1.set 0 (.int .i64 i)).set 1 (.int .i64 k)).other g2 0 (.int .i64 id) hn).other g2 1 (.int .i64 ap) hn).other g2 2 (.string sn) hn).other g2 3 (.int .i64 me) hn).other g2 4 (.int .i64 cp) hn,
   ((((((h2.other g1 0 (.int .i64 i) (fun e=>hn e.symm)).other g1 1 (.int .i64 k) (fun e=>hn e.symm)).set 0 (.int .i64 id)).set 1 (.int .i64 ap)).set 2 (.string sn)).set 3 (.int .i64 me)).set 4 (.int .i64 cp)⟩
theorem nx_below {w W:World} (h:Below w.heap.size w W) {g1 g2:Nat} (h1:w.heap.size≤g1) (h2:w.heap.size≤g2) (i k id ap:Int) (sn:ByteArray) (me cp:Int):Below w.heap.size w (((((((W.setCell ⟨g1,0,none⟩ (.int .i64 i)).setCell ⟨g1,1,none⟩ (.int .i64 k)).setCell ⟨g2,0,none⟩ (.int .i64 id)).setCell ⟨g2,1,none⟩ (.int .i64 ap)).setCell ⟨g2,2,none⟩ (.string sn)).setCell ⟨g2,3,none⟩ (.int .i64 me)).setCell ⟨g2,4,none⟩ (.int .i64 cp)):=
  yC (yC (yC (yC (yC (yC (yC h g1 0 _ h1) g1 1 _ h1) g2 0 _ h2) g2 1 _ h2) g2 2 _ h2) g2 3 _ h2) g2 4 _ h2
end
end Go.Proofs.YtdhibeclkdepiaaGreat
