/-
  Texts in one: OfSM, RoomS, UsedOnS, UsedOnB, SubS, FreeOnS.
-/
import Derived.Test.YtdhibeclkdepiaaGreatPackAE
set_option maxRecDepth 100000
set_option maxHeartbeats 16000000
set_option linter.unusedVariables false
set_option linter.unusedSimpArgs false
namespace Go.Proofs.YtdhibeclkdepiaaGreat
section
open Go.RowKit
theorem specMostOf_any (ao:Option Addr) (len cap:Nat) (l:List Q) (nm:List UInt8) (a b:Int) (w:World) (h:QRow w ao len l) (hl:len≤1048576) (hn:∀q ∈ l,q.name.length≤1048576) :
  Calls Tryz.prog 165 #[.slice ao len cap,.string (bs nm),rv a b] w fun e w'=>e=.returned (rv (ofR l nm a b true).1 (ofR l nm a b true).2)∧Below w.heap.size w w':=by
 have HB0:=hide (yA (yA (Below.refl _ w) (.cells #[.int .i64 a,.int .i64 b] 36)) (.cells #[.int .i64 0,.int .i64 0] 36))
 have HV2:=hide (var_new2 w 36 36 a b 0 0)
 have C:=hide (l03Of_any ao len cap l nm a b true _ (h.below (uH HB0)) hl hn)
 obtain ⟨⟨x,y⟩,hxy⟩:∃p,ofR l nm a b true=p:=⟨_,rfl⟩
 rw [hxy] at C ⊢
 clear hxy h hn
 go_enter Tryz.func165,Tryz.ntmps165
 go_wp2_with fail
 refine (uH C).mono ?_
 rintro e w1 ⟨rfl,hb⟩
 have V2:=(uH HV2).below hb
 have k0:=V2.c0
 have k1:=V2.c1
 have k2:=V2.f 0
 have k3:=V2.f 1
 have k4:=V2.s0 (.int .i64 x)
 have k5:=V2.s1 (.int .i64 x) (.int .i64 y)
 have HB:=hide (yB (uH HB0) hb)
 clear hb V2 HV2 HB0 C
 go_wp2
 refine bodyPost_ret (v:=rv x y) (by simp [results,Tryz.results165,go_sem,k4,k5]) rfl ⟨rfl,?_⟩
 repeat (first | exact uH HB | refine yA ?_ _ | refine Below.drew ?_ | refine yC ?_ _ _ _ (by omega))
end
section
open Go.RowKit Go.Maps
theorem texts_rowS {B:Nat} {w:World} {v:Value} {ps:List (List UInt8)} (h:Texts B w v ps):∃ao cap,v=.slice ao ps.length cap∧∀j (hj:j<ps.length),∃g,ao=some ⟨g,0,none⟩∧w.cell? ⟨g,j,none⟩=some (.string (bs ps[j])):=by
  by_cases hp:ps=[]
  · subst hp
    obtain ⟨a,cap,rfl⟩:=texts_none h
    exact ⟨a,cap,rfl,fun j hj=>by simp at hj⟩
  · obtain ⟨g,cap,rfl,hs,_⟩:=texts_some h hp
    exact ⟨_,cap,rfl,fun j hj=>⟨g,rfl,hs.text hj⟩⟩
theorem path_len21 (s:St) (nm:List UInt8):(path s.qs nm).length≤1048576:=by
  cases ho:queuesOk s.qs with
  | false=>simp [path,ho]
  | true=>
    have h2:=(okT_iff.1 (by have:=queuesOk_okT s.qs;rw [ho] at this;simp at this;exact this.1)).2.2
    have:=path_len s.qs nm
    omega
theorem specRoom_any (x:Sls) (s:St) (nm:List UInt8) (rx ry:Int) (w:World) (h:SRow w x s) (hf:FitSt s) :
    Calls Tryz.prog 132 #[sv x s,.string (bs nm),rv rx ry] w fun e w'=>e=.returned (.bool (roomV s nm rx ry))∧Below w.heap.size w w':=by
  have hql:x.ql≤1048576:=h.ql hf
  have hml:x.ml≤1048576:=h.ml hf
  have CPath:=hide (fun wx (hb:Below w.heap.size w wx)=>specPath_any x.qa x.ql x.qc s.qs nm wx (h.1.below hb) hql (fun q hq=>(hf.1.2 q hq).1))
  have CT:=hide (fun wx (hb:Below w.heap.size w wx)=>specTotal_any x s wx (h.2.2.1.below hb) hml)
  have CM:=hide (fun wx (hb:Below w.heap.size w wx) (n:List UInt8)=>show Calls Tryz.prog 165 #[.slice x.qa x.ql x.qc,.string (bs n),rv (totalV s).1 (totalV s).2] wx (fun e w'=>e=.returned (rv (mostV s n).1 (mostV s n).2)∧Below wx.heap.size wx w') from specMostOf_any x.qa x.ql x.qc s.qs n (totalV s).1 (totalV s).2 wx (h.1.below hb) hql (fun q hq=>(hf.1.2 q hq).1))
  have CU:=hide (fun wx (hb:Below w.heap.size w wx) (n:List UInt8)=>specUsedBy_any x s n wx (h.below hb) hf)
  have HPL:=hide (path_len21 s nm)
  have HRA:=hide (fun n:List UInt8=>show roomAt s rx ry n=(bothOk 1 (usedByV s n).1 (usedByV s n).2 rx ry&&within ((usedByV s n).1+1*rx) ((usedByV s n).2+1*ry) (mostV s n).1 (mostV s n).2) from rfl)
  obtain ⟨⟨tx,ty⟩,ht⟩:∃t,totalV s=t:=⟨_,rfl⟩
  rw [show (sumR (capsOf s.ms)).1=tx from congrArg Prod.fst ht,show (sumR (capsOf s.ms)).2.1=ty from congrArg Prod.snd ht] at CT
  rw [ht] at CM
  obtain ⟨o,ho⟩:∃o,roomV s nm rx ry=o:=⟨_,rfl⟩
  have HO:=hide (show (decide (0<(path s.qs nm).length)&&(path s.qs nm).all (roomAt s rx ry))=o from ho)
  rw [ho]
  obtain ⟨ps,hps⟩:∃p,path s.qs nm=p:=⟨_,rfl⟩
  rw [hps] at CPath HPL HO
  obtain ⟨rf,hrf⟩:∃f,roomAt s rx ry=f:=⟨_,rfl⟩
  rw [hrf] at HRA HO
  obtain ⟨mf,hmf⟩:∃f,mostV s=f:=⟨_,rfl⟩
  rw [hmf] at CM HRA
  obtain ⟨uf,huf⟩:∃f,usedByV s=f:=⟨_,rfl⟩
  rw [huf] at CU HRA
  clear h hf ht hps ho hrf hmf huf
  obtain ⟨qa,ql,qc,aa,al,ac,ma,ml,mc,ca,cl,cc⟩:=x
  obtain ⟨qs,clock,epoch,next,serial,apps,ms,cs⟩:=s
  simp only at CM CU CT CPath hql hml
  have HB0:=hide (roomW_below w (svc ⟨qa,ql,qc,aa,al,ac,ma,ml,mc,ca,cl,cc⟩ ⟨qs,clock,epoch,next,serial,apps,ms,cs⟩) rx ry)
  have V0:=hide (roomW_var w (svc ⟨qa,ql,qc,aa,al,ac,ma,ml,mc,ca,cl,cc⟩ ⟨qs,clock,epoch,next,serial,apps,ms,cs⟩) rx ry)
  have P0:=hide (roomW_box w (svc ⟨qa,ql,qc,aa,al,ac,ma,ml,mc,ca,cl,cc⟩ ⟨qs,clock,epoch,next,serial,apps,ms,cs⟩) rx ry)
  go_enter Tryz.func132,Tryz.ntmps132
  go_wp2_with fail
  refine (uH CPath _ (uH HB0)).mono ?_
  rintro e w1 ⟨v,rfl,htx,hb⟩
  have HB1:=hide (yB (uH HB0) hb)
  have V1:=hide ((uH V0).below hb)
  have P1:=hide ((uH P0).below hb)
  have HTX:=hide htx
  obtain ⟨q0,q1,q2,q3,q4,q5,q6,q7⟩:_∧_∧_∧_∧_∧_∧_∧_:=⟨(uH P1).at 0,(uH P1).at 1,(uH P1).at 2,(uH P1).at 3,(uH P1).at 4,(uH P1).at 5,(uH P1).at 6,(uH P1).at 7⟩
  simp at q0 q1 q2 q3 q4 q5 q6 q7
  clear hb HB0 V0 P0 CPath htx
  go_wp2_with fail
  refine (uH CT _ (uH HB1)).mono ?_
  rintro e w2 ⟨rfl,hb⟩
  have HB2:=hide (yA (yB (uH HB1) hb) (.cells #[.int .i64 tx,.int .i64 ty] 36))
  have V2:=hide (((uH V1).below hb).al (.cells #[.int .i64 tx,.int .i64 ty] 36))
  have P2:=hide (((uH P1).below hb).al (.cells #[.int .i64 tx,.int .i64 ty] 36))
  have hX2:=((uH HTX).below hb).below (yA (Below.refl _ _) (.cells #[.int .i64 tx,.int .i64 ty] 36))
  have T2:=hide (var_new w2 36 tx ty)
  obtain ⟨po,pc,rfl,hcell⟩:=texts_rowS hX2
  have HC:=hide hcell
  clear hb q0 q1 q2 q3 q4 q5 q6 q7 V1 P1 HTX HB1 CT hX2 hcell
  obtain ⟨n,hn⟩:∃n,ps.length=n:=⟨_,rfl⟩
  rw [hn] at HPL HO ⊢
  have HN:=hide hn
  have hn2:n≤1048576:=uH HPL
  clear hn HPL
  obtain ⟨W2,hW2⟩:∃W,w2.alloc (.cells #[.int .i64 tx,.int .i64 ty] 36)=W:=⟨_,rfl⟩
  rw [hW2] at HB2 V2 P2 T2 HC
  have HW2:=hide hW2
  clear hW2
  go_wp2
  go_loopw [9] (fun i wr=>∃(k:Nat),k≤n∧i=.int .i64 k∧Hid ((decide (0<n)&&(ps.drop k).all rf)=o)∧Hid (Kp W2 wr)) (fun i _=>n - (intOf i).toNat)
  case atStart=>
    obtain rfl:=uH HW2
    exact ⟨0,Nat.zero_le _,rfl,HO,hide (Kp.new _)⟩
  case round=>
    obtain ⟨k,hk,rfl,HQ,HK⟩:=hrel
    have kq:=uH HK
    obtain ⟨q0,q1,q2,q3,q4,q5,q6,q7⟩:_∧_∧_∧_∧_∧_∧_∧_:=⟨kq.cell ((uH P2).at 0),kq.cell ((uH P2).at 1),kq.cell ((uH P2).at 2),kq.cell ((uH P2).at 3),kq.cell ((uH P2).at 4),kq.cell ((uH P2).at 5),kq.cell ((uH P2).at 6),kq.cell ((uH P2).at 7)⟩
    have r0:=kq.cell (uH V2).c0
    have r1:=kq.cell (uH V2).c1
    have t0:=kq.cell (uH T2).c0
    have t1:=kq.cell (uH T2).c1
    have HBr:=hide (yB (uH HB2) kq)
    clear kq
    by_cases hlt:k<n
    · have hkl:k<ps.length:=by have:=uH HN;omega
      obtain ⟨pg,rfl,hc0⟩:=uH HC k hkl
      have c0:=(uH HK).cell hc0
      have hst:(ps.drop k).all rf=(rf ps[k]&&(ps.drop (k+1)).all rf):=by rw [List.drop_eq_getElem_cons hkl,List.all_cons]
      have HST:=hide hst
      obtain ⟨nx,hs⟩:∃s,ps[k]=s:=⟨_,rfl⟩
      rw [hs] at c0 HST
      have HRF:=hide (uH HRA nx)
      have CUk:=hide (fun wx hb=>uH CU wx hb nx)
      have CMk:=hide (fun wx hb=>uH CM wx hb nx)
      obtain ⟨⟨ux,uy⟩,hu⟩:∃u,uf nx=u:=⟨_,rfl⟩
      obtain ⟨⟨mx,my⟩,hm⟩:∃u,mf nx=u:=⟨_,rfl⟩
      rw [hu] at CUk HRF
      rw [hm] at CMk HRF
      simp only at CUk CMk HRF
      have k0:(0:Int)≤k:=by omega
      have k1:(k:Int)<n:=by omega
      have CA:=hide (fun wx=>specAdd_any ux uy rx ry wx)
      obtain ⟨x',y',ok,hv⟩:∃x' y' ok,bothV 1 ux uy rx ry=rv x' y'∧bothOk 1 ux uy rx ry=ok∧(ok=true→x'=ux+1*rx∧y'=uy+1*ry):=by
        cases hb:bothOk 1 ux uy rx ry
        · exact ⟨0,0,_,both_no hb,rfl,by simp⟩
        · exact ⟨_,_,_,both_yes hb,rfl,fun _=>⟨rfl,rfl⟩⟩
      have HVV:=hide hv.2.2
      rw [hv.1,hv.2.1] at CA
      rw [hv.2.1] at HRF
      have R:∀wx,Kp wr wx→wx.cell? ⟨w.heap.size,0,none⟩=some (.slice qa ql qc)∧wx.cell? ⟨w.heap.size,1,none⟩=some (.int .i64 clock)∧wx.cell? ⟨w.heap.size,2,none⟩=some (.int .i64 epoch)∧wx.cell? ⟨w.heap.size,3,none⟩=some (.int .i64 next)∧wx.cell? ⟨w.heap.size,4,none⟩=some (.int .i64 serial)∧wx.cell? ⟨w.heap.size,5,none⟩=some (.slice aa al ac)∧wx.cell? ⟨w.heap.size,6,none⟩=some (.slice ma ml mc)∧wx.cell? ⟨w.heap.size,7,none⟩=some (.slice ca cl cc)∧wx.cell? ⟨w.heap.size+1,0,none⟩=some (.int .i64 rx)∧wx.cell? ⟨w.heap.size+1,1,none⟩=some (.int .i64 ry)∧wx.cell? ⟨pg,k,none⟩=some (.string (bs nx)):=fun wx h=>
        ⟨h.cell q0,h.cell q1,h.cell q2,h.cell q3,h.cell q4,h.cell q5,h.cell q6,h.cell q7,h.cell r0,h.cell r1,h.cell c0⟩
      have A0:=hide (Kp.new wr)
      have HS:=hide (kp_holds wr)
      have hwr:w.heap.size+1<wr.heap.size:=yG r0
      clear hc0 hkl hs hu hm hv hst
      go_wp2_with fail
      go_cut [10,11] from 24 to 34 (fun v7 v8 wx=>∃g,v7=.pointer (some ⟨g,0,none⟩)∧v8=.bool ok∧Kp wr wx∧Var wx 36 g x' y')
      case first=>
        go_region_held3 (fun wx=>Kp wr wx)
          (first | (with_reducible assumption) | exact uH SA | exact (uH HS).drew (uH A0) | exact (uH HS).al (uH SA) _ | exact (uH HS).al (by assumption) _ | exact (uH HS).al ((uH HS).drew (uH A0)) _ | exact (uH HS).call (by assumption) (by assumption) | exact (uH HS).set2 (uH SA) _ _ _ (by first | omega | (simp<;>omega)) | exact (uH HS).set2 (by assumption) _ _ _ (by first | omega | (simp<;>omega)))
          (first
          | (go_at_call 164;refine (uH CUk _ ?_).mono ?_;(exact yB (uH HBr) ((uH HS).below (by assumption)));rintro e wt ⟨rfl,hb⟩;have SA:=hide ((uH HS).call (by assumption) hb);have sz:=(uH HS).size (uH SA)
             first
               | (have V5:=(var_new _ 36 0 0).below hb;(try simp at V5);have c50:=V5.c0;have c51:=V5.c1;have f50:=V5.f 0;have f51:=V5.f 1;have V5:=hide V5)
               | (have V5:=(var_new _ 36 0 0).drew.below hb;(try simp at V5);have c50:=V5.c0;have c51:=V5.c1;have f50:=V5.f 0;have f51:=V5.f 1;have V5:=hide V5)
               | skip)
          | (go_at_call 129;refine (uH CA _).mono ?_;rintro e wt ⟨rfl,hb⟩;have SA:=hide ((uH HS).call (by assumption) hb);have sz:=(uH HS).size (uH SA)
             first
               | (have V5:=(var_new _ 36 0 0).below hb;(try simp at V5);have c50:=V5.c0;have c51:=V5.c1;have f50:=V5.f 0;have f51:=V5.f 1;have V5:=hide V5)
               | (have V5:=(var_new _ 36 0 0).drew.below hb;(try simp at V5);have c50:=V5.c0;have c51:=V5.c1;have f50:=V5.f 0;have f51:=V5.f 1;have V5:=hide V5)
               | (have V5:=hide ((uH V5).below hb);have c50:=(uH V5).c0;have c51:=(uH V5).c1;have f50:=(uH V5).f 0;have f51:=(uH V5).f 1)
               | skip))
        all_goals
          go_wp2_with fail
          go_meet
          exact ⟨_,rfl,rfl,by first | assumption | exact uH SA | exact (uH HS).al (uH SA) _,by first | exact var_new _ _ _ _ | exact (uH V5).set _ _⟩
      case rest=>
        obtain ⟨g,rfl,rfl,hA,hV⟩:=hcut
        obtain ⟨w4,rfl⟩:∃w4,w4=wc:=⟨wc,rfl⟩
        have HK4:=hide (show Kp W2 w4 from yB (uH HK) hA)
        have HB4:=hide (yB (uH HBr) hA)
        have g0:=hA.cell q0
        have e0:=hA.cell t0
        have e1:=hA.cell t1
        have d0:=hA.cell c0
        have s0:=hV.c0
        have s1:=hV.c1
        clear hA hV A0 HS R CA CUk q0 q1 q2 q3 q4 q5 q6 q7 r0 r1 t0 t1 c0
        have A0:=hide (Kp.new w4)
        have HS:=hide (kp_holds w4)
        obtain ⟨pv,hpv⟩:∃o,rf nx=o:=⟨_,rfl⟩
        rw [hpv] at HST HRF
        clear hpv
        go_wp2_with fail
        go_cut [49] from 35 to 48 (fun v49 wx=>v49=.bool (!pv)∧Kp w4 wx)
        case first=>
          cases ok with
          | false=>
            obtain rfl:pv=false:=by rw [uH HRF];rfl
            go_quiet (fail)
            all_goals
              go_wp2_with fail
              go_meet
              exact ⟨rfl,below_dn (Below.refl _ _) _⟩
          | true=>
            obtain ⟨rfl,rfl⟩:=uH HVV rfl
            have HRF2:=hide (show pv=within (ux+1*rx) (uy+1*ry) mx my by rw [uH HRF];rfl)
            have CW:=hide (fun wx=>by have:=specWithin_any (ux+1*rx) (uy+1*ry) mx my wx;rw [←uH HRF2] at this;exact this)
            obtain ⟨sx,hsx⟩:∃a,ux+1*rx=a:=⟨_,rfl⟩
            obtain ⟨sy,hsy⟩:∃a,uy+1*ry=a:=⟨_,rfl⟩
            rw [hsx] at s0 CW
            rw [hsy] at s1 CW
            have R:∀wx,Kp w4 wx→wx.cell? ⟨w.heap.size,0,none⟩=some (.slice qa ql qc)∧wx.cell? ⟨w2.heap.size,0,none⟩=some (.int .i64 tx)∧wx.cell? ⟨w2.heap.size,1,none⟩=some (.int .i64 ty)∧wx.cell? ⟨pg,k,none⟩=some (.string (bs nx))∧wx.cell? ⟨g,0,none⟩=some (.int .i64 sx)∧wx.cell? ⟨g,1,none⟩=some (.int .i64 sy):=fun wx h=>⟨h.cell g0,h.cell e0,h.cell e1,h.cell d0,h.cell s0,h.cell s1⟩
            clear hsx hsy HRF HRF2 HVV
            go_region_held3 (fun wx=>Kp w4 wx)
              (first | (with_reducible assumption) | exact uH SA | exact (uH HS).drew (uH A0) | exact (uH HS).call (by assumption) (by assumption))
              (first
              | (go_at_call 165;refine (uH CMk _ ?_).mono ?_;(exact yB (uH HB4) ((uH HS).below (by assumption)));rintro e wt ⟨rfl,hb⟩;have SA:=hide ((uH HS).call (by assumption) hb))
              | (go_at_call 95;refine (uH CW _).mono ?_;rintro e wt2 ⟨rfl,hb⟩;have SA:=hide ((uH HS).call (by assumption) hb)))
            all_goals
              go_wp2_with fail
              go_meet
              exact ⟨rfl,by first | assumption | exact uH SA⟩
        case rest=>
          obtain ⟨rfl,hA⟩:=hcut
          have HK5:=hide (show Kp W2 wc from yB (uH HK4) hA)
          have HB5:=hide (yB (uH HB4) hA)
          clear hA g0 e0 e1 d0 s0 s1 A0 HS HVV
          cases pv with
          | true=>
            have HQ2:=hide (show (decide (0<n)&&(ps.drop (k+1)).all rf)=o by have:=uH HQ;rw [uH HST] at this;simpa using this)
            go_wp2
            go_roundw
            case rel=>exact ⟨k+1,by omega,by go_num,HQ2,HK5⟩
            case measure=>simp [intOf];omega
          | false=>
            obtain rfl:o=false:=by have:=uH HQ;rw [uH HST] at this;simpa using this.symm
            go_wp2
            go_ret
            exact ⟨rfl,uH HB5⟩
    · have ho:o=decide (0<n):=by have:=uH HQ;rw [List.drop_of_length_le (by have:=uH HN;omega)] at this;simpa using this.symm
      subst ho
      clear q0 q1 q2 q3 q4 q5 q6 q7 r0 r1 t0 t1
      go_wp2
      go_ret
      exact ⟨rfl,uH HBr⟩
end
section
open Go.RowKit
theorem specUsedOn_any (x:Sls) (s:St) (nd:List UInt8) (w:World) (h:ConRow w x.ca x.cl s.cs) (hl:x.cl≤1048576) :
  Calls Tryz.prog 161 #[sv x s,.string (bs nd)] w fun e w'=>e=.returned (rv (sumR (usedL (fun q=>decide (q.node=nd)) s.cs)).1 (sumR (usedL (fun q=>decide (q.node=nd)) s.cs)).2.1)∧Below w.heap.size w w':=by
 have hlc:(usedL (fun q=>decide (q.node=nd)) s.cs).length≤1048576:=by have:=h.1;have:(usedL (fun q:Con=>decide (q.node=nd)) s.cs).length≤s.cs.length:=(by simp only [usedL,List.length_map];exact List.length_filter_le _ _);omega
 have HR:=hide h
 clear h
 obtain ⟨⟨sx,sy,so⟩,hs⟩:∃y,sumR (usedL (fun q=>decide (q.node=nd)) s.cs)=y:=⟨_,rfl⟩
 have CC:=hide (fun wx (hb:Below w.heap.size w wx)=>l04On_any x s nd wx ((uH HR).below hb) hl)
 have CS:=hide (fun ao cap wx (h:RRow wx ao (usedL (fun q=>decide (q.node=nd)) s.cs).length (usedL (fun q=>decide (q.node=nd)) s.cs))=>by have:=l04Sum_any ao _ cap (usedL (fun q=>decide (q.node=nd)) s.cs) wx h hlc;rw [hs] at this;exact this)
 rw [hs]
 clear hs
 obtain ⟨qa,ql,qc,aa,al,ac,ma,ml,mc,ca,cl,cc⟩:=x
 obtain ⟨qs,clock,epoch,next,serial,apps,ms,cs⟩:=s
 simp only at CC CS hlc
 go_enter Tryz.func161,Tryz.ntmps161
 go_wp2_with fail
 refine (uH CC _ (capW_below w _)).mono ?_
 rintro e w1 ⟨v,rfl,ho,hb⟩
 obtain ⟨ao,cp,rfl,hrow,_⟩:=ho.row
 have V1:=(capW_var w _).below hb
 have HV1:=hide V1
 have HB1:=hide (yB (capW_below w _) hb)
 have HROW:=hide hrow
 obtain ⟨n,hn⟩:∃n,(usedL (fun q=>decide (q.node=nd)) cs).length=n:=⟨_,rfl⟩
 rw [hn] at CS HROW ⊢
 clear hb V1 CC ho hrow hn hlc
 go_wp2_with fail
 refine (uH CS _ _ _ (uH HROW)).mono ?_
 rintro e w2 ⟨rfl,hb⟩
 have V1:=(uH HV1).below hb
 have HB2:=hide (yB (uH HB1) hb)
 have V2:=V1.al (.cells #[.int .i64 sx,.int .i64 sy] 36)
 have t0:=V2.c0
 have t1:=V2.c1
 have f0:=V2.f 0
 have f1:=V2.f 1
 have VG:=V2.set sx sy
 have k6:=VG.c0
 have k7:=VG.c1
 clear hb V1 V2 VG CS HV1 HB1 HROW
 go_wp2
 refine bodyPost_ret (v:=rv sx sy) (by simp [results,Tryz.results161,go_sem,k6,k7]) rfl ⟨rfl,?_⟩
 repeat (first | exact uH HB2 | refine yA ?_ _ | refine yC ?_ _ _ _ (by omega))
theorem SRow.cl {w:World} {x:Sls} {s:St} (h:SRow w x s) (hf:FitSt s):x.cl≤1048576:=by have:=h.len.2.2.2;have:=hf.2.2.2.1;omega
theorem specUsedOn_v (x:Sls) (s:St) (nd:List UInt8) (w:World) (h:ConRow w x.ca x.cl s.cs) (hl:x.cl≤1048576) :
  Calls Tryz.prog 161 #[sv x s,.string (bs nd)] w fun e w'=>e=.returned (rv (usedOnV s nd).1 (usedOnV s nd).2)∧Below w.heap.size w w':=specUsedOn_any x s nd w h hl
theorem specSub_any (a b c d:Int) (w:World) :
  Calls Tryz.prog 160 #[rv a b,rv c d] w fun e w'=>e=.returned (.tuple #[bothV (-1) a b c d,.bool (bothOk (-1) a b c d)])∧Below w.heap.size w w':=by
 have hv:∃x y,bothV (-1) a b c d=rv x y:=by unfold bothV;split<;>exact ⟨_,_,rfl⟩
 obtain ⟨x,y,hv⟩:=hv
 have hc:=l02Both_any a b c d (-1) ((w.alloc (.cells #[.int .i64 a,.int .i64 b] 36)).alloc (.cells #[.int .i64 c,.int .i64 d] 36) |>.alloc (.cells #[.int .i64 0,.int .i64 0] 36)) (by decide)
 rw [hv] at hc ⊢
 go_enter Tryz.func160,Tryz.ntmps160
 go_wp2_with fail
 refine hc.mono ?_
 rintro e w1 ⟨rfl,hb⟩
 have hk:Var w1 36 (w.heap.size+1+1) 0 0:=Var.below (by simpa using var_new ((w.alloc (.cells #[.int .i64 a,.int .i64 b] 36)).alloc (.cells #[.int .i64 c,.int .i64 d] 36)) 36 0 0) hb
 have k0:=hk.c0
 have k1:=hk.c1
 have k2:=hk.f 0
 have k3:=hk.f 1
 have k4:=hk.s0 (.int .i64 x)
 have k5:=hk.s1 (.int .i64 x) (.int .i64 y)
 have HB:=hide (yB (yA (yA (yA (Below.refl _ _) _) _) _) hb)
 clear hb hc hk
 go_wp2
 refine bodyPost_ret (v:=.tuple #[rv x y,.bool (bothOk (-1) a b c d)]) (by simp [results,Tryz.results160,go_sem,k4,k5]) rfl ⟨rfl,?_⟩
 repeat (first | exact uH HB | refine yA ?_ _ | refine yC ?_ _ _ _ (by omega))
end
section
open Go.RowKit Go.Maps
theorem specFreeOn_any (x:Sls) (s:St) (nm:List UInt8) (w:World) (h:SRow w x s) (hf:FitSt s) :
    Calls Tryz.prog 131 #[sv x s,.string (bs nm)] w fun e w'=>e=.returned (rv (freeOnV s nm).1 (freeOnV s nm).2)∧Below w.heap.size w w':=by
  have hml:x.ml≤1048576:=by have:=h.len.2.2.1;have:=hf.2.2.1.1;omega
  have hcl:x.cl≤1048576:=by have:=h.len.2.2.2;have:=hf.2.2.2.1;omega
  have CM:=hide (fun wx (hb:Below w.heap.size w wx)=>l04Machine_any x s nm wx (h.2.2.1.below hb) hml)
  have CU:=hide (fun wx (hb:Below w.heap.size w wx)=>specUsedOn_v x s nm wx (h.2.2.2.below hb) hcl)
  have HFV:=hide (show freeOnV s nm=match findM nm s.ms with | none=>(0,0) | some m=>lessV m.mem m.cpu (usedOnV s nm).1 (usedOnV s nm).2 from rfl)
  have HMR:=hide (fun wx (hb:Below w.heap.size w wx)=>h.2.2.1.below hb)
  have HML:=hide h.2.2.1.1
  have hat:=macAt_find nm s.ms
  obtain ⟨⟨ux,uy⟩,hu⟩:∃u,usedOnV s nm=u:=⟨_,rfl⟩
  obtain ⟨⟨fx,fy⟩,hfr⟩:∃u,freeOnV s nm=u:=⟨_,rfl⟩
  obtain ⟨at0,ha⟩:∃p,macAt s.ms nm=p:=⟨_,rfl⟩
  rw [hu] at CU HFV
  rw [hfr] at HFV ⊢
  rw [ha] at CM hat
  clear h hf hu hfr ha
  obtain ⟨qa,ql,qc,aa,al,ac,ma,ml,mc,ca,cl,cc⟩:=x
  obtain ⟨qs,clock,epoch,next,serial,apps,ms,cs⟩:=s
  simp only at HFV HMR HML hat
  have HB0:=hide (capW_below w (svc ⟨qa,ql,qc,aa,al,ac,ma,ml,mc,ca,cl,cc⟩ ⟨qs,clock,epoch,next,serial,apps,ms,cs⟩))
  have V0:=hide (capW_var w (svc ⟨qa,ql,qc,aa,al,ac,ma,ml,mc,ca,cl,cc⟩ ⟨qs,clock,epoch,next,serial,apps,ms,cs⟩))
  have P0:=hide ((boxW_blk w (svc ⟨qa,ql,qc,aa,al,ac,ma,ml,mc,ca,cl,cc⟩ ⟨qs,clock,epoch,next,serial,apps,ms,cs⟩)).al (.cells #[.int .i64 0,.int .i64 0] 36))
  go_enter Tryz.func131,Tryz.ntmps131
  go_wp2_with fail
  refine (uH CM _ (uH HB0)).mono ?_
  rintro e w1 ⟨rfl,hb⟩
  have HB1:=hide (yB (uH HB0) hb)
  have V1:=hide ((uH V0).below hb)
  have P1:=hide ((uH P0).below hb)
  clear hb HB0 V0 P0 CM
  rcases hat with ⟨hfm,rfl⟩ | ⟨j,hj,hfm,rfl⟩
  · rw [hfm] at HFV
    simp only at HFV
    have hz:=uH HFV
    simp only [Prod.mk.injEq] at hz
    obtain ⟨rfl,rfl⟩:=hz
    have V2:=uH V1
    have t0:=V2.c0
    have t1:=V2.c1
    have f0:=V2.f 0
    have f1:=V2.f 1
    have k4:=V2.s0 (.int .i64 0)
    have k5:=V2.s1 (.int .i64 0) (.int .i64 0)
    clear V2
    go_wp2
    refine bodyPost_ret (v:=rv 0 0) (by simp [results,Tryz.results131,go_sem,k4,k5]) rfl ⟨rfl,?_⟩
    repeat (first | exact uH HB1 | refine yA ?_ _ | refine yC ?_ _ _ _ (by omega))
  · rw [hfm] at HFV
    have hjl:j<ml:=by have:=uH HML;omega
    obtain ⟨mb,mo,rfl,hq⟩:=(uH HMR _ (uH HB1)).at hjl
    have HQ:=hide (hq hj)
    obtain ⟨⟨mn,me,mp,se⟩,hs⟩:∃m,ms[j]=m:=⟨_,rfl⟩
    rw [hs] at HQ HFV
    simp only at HFV
    have HRV:=hide (show bothV (-1) me mp ux uy=rv fx fy by rw [less_both,←uH HFV])
    have CB:=hide (fun wx=>by have:=specSub_any me mp ux uy wx;rw [uH HRV] at this;exact this)
    obtain ⟨ok,hok⟩:∃o,bothOk (-1) me mp ux uy=o:=⟨_,rfl⟩
    rw [hok] at CB
    have j0:(0:Int)≤j:=by omega
    have j1:(j:Int)<ml:=by omega
    clear hok HRV HFV hfm hq hs hj
    have R:∀wx,Kp w1 wx→wx.cell? ⟨w.heap.size,0,none⟩=some (.slice qa ql qc)∧wx.cell? ⟨w.heap.size,1,none⟩=some (.int .i64 clock)∧wx.cell? ⟨w.heap.size,2,none⟩=some (.int .i64 epoch)∧wx.cell? ⟨w.heap.size,3,none⟩=some (.int .i64 next)∧wx.cell? ⟨w.heap.size,4,none⟩=some (.int .i64 serial)∧wx.cell? ⟨w.heap.size,5,none⟩=some (.slice aa al ac)∧wx.cell? ⟨w.heap.size,6,none⟩=some (.slice (some ⟨mb,mo,none⟩) ml mc)∧wx.cell? ⟨w.heap.size,7,none⟩=some (.slice ca cl cc)∧wx.cell? ⟨mb,mo+j*4+1,none⟩=some (.int .i64 me)∧wx.cell? ⟨mb,mo+j*4+2,none⟩=some (.int .i64 mp):=fun wx h=>
      ⟨h.cell ((uH P1).at 0),h.cell ((uH P1).at 1),h.cell ((uH P1).at 2),h.cell ((uH P1).at 3),h.cell ((uH P1).at 4),h.cell ((uH P1).at 5),h.cell ((uH P1).at 6),h.cell ((uH P1).at 7),h.cell (uH HQ).2.1,h.cell (uH HQ).2.2.1⟩
    have A0:=hide (Kp.new w1)
    have HS:=hide (kp_holds w1)
    have hw1:=(uH V1).lt
    go_wp2_with fail
    go_cut [6,7] from 14 to 26 (fun v7 v8 wx=>∃g,v7=.pointer (some ⟨g,0,none⟩)∧v8=.bool ok∧Kp w1 wx∧Var wx 36 g fx fy∧w1.heap.size≤g)
    case first=>
      go_region_held3 (fun wx=>Kp w1 wx)
        (first | (with_reducible assumption) | exact uH SA | exact (uH HS).drew (uH A0) | exact (uH HS).al (uH SA) _ | exact (uH HS).al (by assumption) _ | exact (uH HS).al ((uH HS).drew (uH A0)) _ | exact (uH HS).call (by assumption) (by assumption) | exact (uH HS).set2 (uH SA) _ _ _ (by first | omega | (simp<;>omega)) | exact (uH HS).set2 (by assumption) _ _ _ (by first | omega | (simp<;>omega)))
        (first
        | (go_at_call 161;refine (uH CU _ ?_).mono ?_;(exact yB (uH HB1) ((uH HS).below (by assumption)));rintro e wt ⟨rfl,hb⟩;have SA:=hide ((uH HS).call (by assumption) hb);have sz:=(uH HS).size (uH SA)
           first
             | (have V5:=(var_new _ 36 0 0).below hb;(try simp at V5);have c50:=V5.c0;have c51:=V5.c1;have f50:=V5.f 0;have f51:=V5.f 1;have V5:=hide V5)
             | (have V5:=(var_new _ 36 0 0).drew.below hb;(try simp at V5);have c50:=V5.c0;have c51:=V5.c1;have f50:=V5.f 0;have f51:=V5.f 1;have V5:=hide V5)
             | skip)
        | (go_at_call 160;refine (uH CB _).mono ?_;rintro e wt ⟨rfl,hb⟩;have SA:=hide ((uH HS).call (by assumption) hb);have sz:=(uH HS).size (uH SA)
           first
             | (have V5:=(var_new _ 36 0 0).below hb;(try simp at V5);have c50:=V5.c0;have c51:=V5.c1;have f50:=V5.f 0;have f51:=V5.f 1;have V5:=hide V5)
             | (have V5:=(var_new _ 36 0 0).drew.below hb;(try simp at V5);have c50:=V5.c0;have c51:=V5.c1;have f50:=V5.f 0;have f51:=V5.f 1;have V5:=hide V5)
             | (have V5:=hide ((uH V5).below hb);have c50:=(uH V5).c0;have c51:=(uH V5).c1;have f50:=(uH V5).f 0;have f51:=(uH V5).f 1)
             | skip))
      all_goals
        go_wp2_with fail
        go_meet
        exact ⟨_,rfl,rfl,by first | assumption | exact uH SA | exact (uH HS).al (uH SA) _,by first | exact var_new _ _ _ _ | exact (uH V5).set _ _,by first | omega | (simp<;>omega)⟩
    case rest=>
      obtain ⟨g,rfl,rfl,hA,hV,hg⟩:=hcut
      have HB2:=hide (yB (uH HB1) hA)
      have v0:=hV.c0
      have v1:=hV.c1
      have V2:=(uH V1).below hA
      have t0:=V2.c0
      have t1:=V2.c1
      have f0:=V2.f 0
      have f1:=V2.f 1
      have k4:=V2.s0 (.int .i64 fx)
      have k5:=V2.s1 (.int .i64 fx) (.int .i64 fy)
      clear hA hV A0 CB CU R V2 V1 P1 HB1
      go_wp2
      refine bodyPost_ret (v:=rv fx fy) (by simp [results,Tryz.results131,go_sem,k4,k5]) rfl ⟨rfl,?_⟩
      repeat (first | exact uH HB2 | refine yA ?_ _ | refine yC ?_ _ _ _ (by omega))
end
end Go.Proofs.YtdhibeclkdepiaaGreat
