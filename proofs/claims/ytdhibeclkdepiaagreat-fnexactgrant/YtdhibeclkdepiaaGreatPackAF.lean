/-
  bI in one: OfQM, RoomL.
-/
import Derived.Test.YtdhibeclkdepiaaGreatPackAE
import Derived.Test.YtdhibeclkdepiaaGreatPackX
import Derived.Test.YtdhibeclkdepiaaGreatPackY
set_option maxRecDepth 100000
set_option maxHeartbeats 16000000
set_option linter.unusedVariables false
set_option linter.unusedSimpArgs false
namespace Go.Proofs.YtdhibeclkdepiaaGreat
section
open Go.RowKit
theorem aEw (w:World) (q:Q) :
  Calls Tryz.prog 196 #[qv q] w fun e w'=>e=.returned (.int .i64 (cK true q))∧Below w.heap.size w w':=by
 go_enter Tryz.func196,Tryz.ntmps196
 go_wp2
 go_ret
 exact ⟨rfl,yA (Below.refl _ _) _⟩
theorem xP (ao:Option Addr) (len cap:Nat) (l:List Q) (nm:List UInt8) (a b:Int) (w:World) (h:gM w ao len l) (hl:len≤1048576) (hn:∀q ∈ l,q.name.length≤1048576) (hc:len≤cap) :
  Calls Tryz.prog 175 #[.slice ao len cap,.string (bs nm),rv a b] w fun e w'=>e=.returned (rv (ofR l nm a b true).1 (ofR l nm a b true).2)∧Below w.heap.size w w':=by
 have hmf:∀(fn:Fn) (first cap:Array Value) (w:World),(Instr.makeFunc fn first cap).run Tryz.prog w=.ok (.func fn first cap) w:=fun _ _ _ _=>rfl
 have HB0:=aA (yA (yA (Below.refl _ w) (.cells #[.int .i64 a,.int .i64 b] 36)) (.cells #[.int .i64 0,.int .i64 0] 36))
 have HV2:=aA (fJ w 36 36 a b 0 0)
 have C:=aA (yY 196 (enters_of Tryz.func196 (by kernel_rfl) rfl) true (fun wx q=>aEw wx q) ao len cap l nm a b _ (h.below (uH HB0)) hl hn hc)
 obtain ⟨⟨x,y⟩,hxy⟩:∃p,ofR l nm a b true=p:=⟨_,rfl⟩
 rw [hxy] at C ⊢
 clear hxy h hn
 go_enter Tryz.func175,Tryz.ntmps175
 go_wp2_with fail
 refine (uH C).mono ?_
 rintro e w1 ⟨rfl,hb⟩
 have V2:=(uH HV2).below hb
 have k0:=V2.c0
 have k1:=V2.c1
 have k2:=V2.f 0
 have k3:=V2.f 1
 have k4:=V2.s0 (.int .i64 x)
 have k5:=V2.s1 (.int .i64 x) (.int .i64 y)
 have HB:=aA (yB (uH HB0) hb)
 clear hb V2 HV2 HB0 C
 go_wp2
 refine bodyPost_ret (v:=rv x y) (by simp [results,Tryz.results175,go_sem,k4,k5]) rfl ⟨rfl,?_⟩
 repeat (first | exact uH HB | refine yA ?_ _ | refine Below.drew ?_ | refine yC ?_ _ _ _ (by omega))
end
section
open Go.RowKit Go.Maps
theorem aG6 (x y:Int) (wx:World):(Builtin.min_ #[3,3] 3 #[.int .i64 x,.int .i64 y]).run Tryz.prog wx=.ok (.int .i64 (min x y)) wx:=by
  have:(if y<x then y else x)=min x y:=by omega
  simp [go_sem]
theorem aFo {B:Nat} {w:World} {v:Value} {ps:List (List UInt8)} (h:bI B w v ps):∃ao cap,v=.slice ao ps.length cap∧∀j (hj:j<ps.length),∃g,ao=some ⟨g,0,none⟩∧w.cell? ⟨g,j,none⟩=some (.string (bs ps[j])):=by
  by_cases hp:ps=[]
  · subst hp
    obtain ⟨a,cap,rfl⟩:=jD h
    exact ⟨a,cap,rfl,fun j hj=>by simp at hj⟩
  · obtain ⟨g,cap,rfl,hs,_⟩:=jC h hp
    exact ⟨_,cap,rfl,fun j hj=>⟨g,rfl,hs.text hj⟩⟩
theorem aEm (s:St) (nm:List UInt8):(path s.qs nm).length≤1048576:=by
  cases ho:aG s.qs with
  | false=>simp [path,ho]
  | true=>
    have h2:=(qQ.1 (by have:=jV s.qs;rw [ho] at this;simp at this;exact this.1)).2.2
    have:=aAT s.qs nm
    omega
theorem aBH (x:Sls) (s:St) (nm:List UInt8) (w:World) (h:iJ w x s) (hf:bS s) (hc:x.ql≤x.qc) (hw:aEP s) :
    Calls Tryz.prog 136 #[sv x s,.string (bs nm)] w fun e w'=>e=.returned (.tuple #[rv (bA s (path s.qs nm) 1000000000 1000000000).1 (bA s (path s.qs nm) 1000000000 1000000000).2.1,.bool ((bA s (path s.qs nm) 1000000000 1000000000).2.2&&decide (0<(path s.qs nm).length))])∧Below w.heap.size w w':=by
  have hql:x.ql≤1048576:=h.ql hf
  have hml:x.ml≤1048576:=h.ml hf
  have CPath:=aA (fun wx (hb:Below w.heap.size w wx)=>aBs x.qa x.ql x.qc s.qs nm wx (h.1.below hb) hql (fun q hq=>(hf.1.2 q hq).1) hc)
  have CT:=aA (fun wx (hb:Below w.heap.size w wx)=>pV x s wx (h.2.2.1.below hb) hml)
  have CM:=aA (fun wx (hb:Below w.heap.size w wx) (n:List UInt8)=>show Calls Tryz.prog 175 #[.slice x.qa x.ql x.qc,.string (bs n),rv (dM s).1 (dM s).2] wx (fun e w'=>e=.returned (rv (iG s n).1 (iG s n).2)∧Below wx.heap.size wx w') from xP x.qa x.ql x.qc s.qs n (dM s).1 (dM s).2 wx (h.1.below hb) hql (fun q hq=>(hf.1.2 q hq).1) hc)
  have CU:=aA (fun wx (hb:Below w.heap.size w wx) (n:List UInt8)=>nV x s n wx (h.below hb) hf hc hw)
  have HPL:=aA (aEm s nm)
  obtain ⟨⟨tx,ty⟩,ht⟩:∃t,dM s=t:=⟨_,rfl⟩
  rw [show (gN (aX s.ms)).1=tx from congrArg Prod.fst ht,show (gN (aX s.ms)).2.1=ty from congrArg Prod.snd ht] at CT
  rw [ht] at CM
  obtain ⟨ps,hps⟩:∃p,path s.qs nm=p:=⟨_,rfl⟩
  rw [hps] at CPath HPL ⊢
  obtain ⟨⟨zx,zy,zo⟩,hz⟩:∃z,bA s ps 1000000000 1000000000=z:=⟨_,rfl⟩
  have HZ:=aA (show bA s (ps.drop 0) 1000000000 1000000000=(zx,zy,zo) from hz)
  rw [hz]
  have HST:=aA (fun k (hk:k<ps.length) (a b:Int)=>aA4 (s:=s) hk a b)
  have HEN:=aA (fun k (hk:ps.length≤k) (a b:Int)=>aBh (s:=s) hk a b)
  obtain ⟨lf,hlf⟩:∃f,bA s=f:=⟨_,rfl⟩
  rw [hlf] at HZ HST HEN
  obtain ⟨mf,hmf⟩:∃f,iG s=f:=⟨_,rfl⟩
  rw [hmf] at CM HST
  obtain ⟨uf,huf⟩:∃f,aL s=f:=⟨_,rfl⟩
  rw [huf] at CU HST
  clear h hf hc hw ht hps hz hlf hmf huf
  obtain ⟨qa,ql,qc,aa,al,ac,ma,ml,mc,ca,cl,cc⟩:=x
  obtain ⟨qs,clock,epoch,next,serial,apps,ms,cs⟩:=s
  simp only at CM CU CT CPath hql hml
  have HB0:=aA (bV w (svc ⟨qa,ql,qc,aa,al,ac,ma,ml,mc,ca,cl,cc⟩ ⟨qs,clock,epoch,next,serial,apps,ms,cs⟩))
  have V0:=aA (gL w (svc ⟨qa,ql,qc,aa,al,ac,ma,ml,mc,ca,cl,cc⟩ ⟨qs,clock,epoch,next,serial,apps,ms,cs⟩))
  have P0:=aA ((eO w (svc ⟨qa,ql,qc,aa,al,ac,ma,ml,mc,ca,cl,cc⟩ ⟨qs,clock,epoch,next,serial,apps,ms,cs⟩)).al (.cells #[.int .i64 0,.int .i64 0] 36))
  go_enter Tryz.func136,Tryz.ntmps136
  go_wp2_with fail
  refine (uH CPath _ (uH HB0)).mono ?_
  rintro e w1 ⟨v,rfl,htx,hb⟩
  have HB1:=aA (yB (uH HB0) hb)
  have V1:=aA ((uH V0).below hb)
  have P1:=aA ((uH P0).below hb)
  have HTX:=aA htx
  obtain ⟨q0,q1,q2,q3,q4,q5,q6,q7⟩:_∧_∧_∧_∧_∧_∧_∧_:=⟨(uH P1).at 0,(uH P1).at 1,(uH P1).at 2,(uH P1).at 3,(uH P1).at 4,(uH P1).at 5,(uH P1).at 6,(uH P1).at 7⟩
  simp at q0 q1 q2 q3 q4 q5 q6 q7
  clear hb HB0 V0 P0 CPath htx
  go_wp2_with fail
  refine (uH CT _ (uH HB1)).mono ?_
  rintro e w2 ⟨rfl,hb⟩
  have hB2:=yA (yB (uH HB1) hb) (.cells #[.int .i64 tx,.int .i64 ty] 36)
  have hV2:=((uH V1).below hb).al (.cells #[.int .i64 tx,.int .i64 ty] 36)
  have hP2:=((uH P1).below hb).al (.cells #[.int .i64 tx,.int .i64 ty] 36)
  have hX2:=((uH HTX).below hb).below (yA (Below.refl _ _) (.cells #[.int .i64 tx,.int .i64 ty] 36))
  have hT2:=aJ w2 36 tx ty
  have hs2:=yE w2 (.cells #[.int .i64 tx,.int .i64 ty] 36)
  obtain ⟨W2,hW2⟩:∃W,w2.alloc (.cells #[.int .i64 tx,.int .i64 ty] 36)=W:=⟨_,rfl⟩
  rw [hW2] at hB2 hV2 hP2 hX2 hT2 hs2
  have HB2:=aA hB2
  have V2:=aA hV2
  have P2:=aA hP2
  have T2:=aA hT2
  have HS2:=aA hs2
  have HW2:=aA hW2
  obtain ⟨po,pc,rfl,hcell⟩:=aFo hX2
  have HC:=aA hcell
  have HV3:=aA (aJ W2 36 1000000000 1000000000)
  have HB3:=aA (yA (Below.refl _ W2) (.cells #[.int .i64 1000000000,.int .i64 1000000000] 36))
  clear hb q0 q1 q2 q3 q4 q5 q6 q7 V1 P1 HTX HB1 CT hB2 hV2 hP2 hX2 hT2 hs2 hcell
  obtain ⟨n,hn⟩:∃n,ps.length=n:=⟨_,rfl⟩
  rw [hn] at HPL ⊢
  have HN:=aA hn
  have hn2:n≤1048576:=uH HPL
  clear hn HPL
  go_wp2
  go_loopw [22] (fun i wr=>∃(k:Nat) (a b:Int),k≤n∧i=.int .i64 k∧Hid (lf (ps.drop k) a b=(zx,zy,zo))∧Hid (Var wr 36 W2.heap.size a b)∧Hid (Kp W2 wr)) (fun i _=>n - (intOf i).toNat)
  case atStart=>exact ⟨0,1000000000,1000000000,Nat.zero_le _,rfl,HZ,HV3,HB3⟩
  case round=>
    obtain ⟨k,a,b,hk,rfl,HQ,HVr,HK⟩:=hrel
    have kq:=uH HK
    obtain ⟨q0,q1,q2,q3,q4,q5,q6,q7⟩:_∧_∧_∧_∧_∧_∧_∧_:=⟨kq.cell ((uH P2).at 0),kq.cell ((uH P2).at 1),kq.cell ((uH P2).at 2),kq.cell ((uH P2).at 3),kq.cell ((uH P2).at 4),kq.cell ((uH P2).at 5),kq.cell ((uH P2).at 6),kq.cell ((uH P2).at 7)⟩
    have t0:=kq.cell (uH T2).c0
    have t1:=kq.cell (uH T2).c1
    have HBr:=aA (yB (uH HB2) kq)
    have hvl:=(uH V2).lt
    clear kq HV3 HB3
    by_cases hlt:k<n
    · have hkl:k<ps.length:=by have:=uH HN;omega
      obtain ⟨pg,rfl,hc0⟩:=uH HC k hkl
      have c0:=(uH HK).cell hc0
      have hst:=uH HST k hkl a b
      rw [uH HQ] at hst
      obtain ⟨nx,hs⟩:∃s,ps[k]=s:=⟨_,rfl⟩
      rw [hs] at c0 hst
      have CUk:=aA (fun wx hb=>uH CU wx hb nx)
      have CMk:=aA (fun wx hb=>uH CM wx hb nx)
      obtain ⟨⟨ux,uy⟩,hu⟩:∃u,uf nx=u:=⟨_,rfl⟩
      obtain ⟨⟨mx,my⟩,hm⟩:∃u,mf nx=u:=⟨_,rfl⟩
      rw [hu] at CUk hst
      rw [hm] at CMk hst
      simp only at CUk CMk hst
      have HSTk:=aA hst
      have k0:(0:Int)≤k:=by omega
      have k1:(k:Int)<n:=by omega
      have CA:=aA (fun wx=>oF mx my ux uy wx)
      obtain ⟨x',y',ok,hv⟩:∃x' y' ok,jA (-1) mx my ux uy=rv x' y'∧aK (-1) mx my ux uy=ok∧(ok=true→x'=mx + -1*ux∧y'=my + -1*uy):=by
        cases hb:aK (-1) mx my ux uy
        · exact ⟨0,0,_,jS hb,rfl,by simp⟩
        · exact ⟨_,_,_,kC hb,rfl,fun _=>⟨rfl,rfl⟩⟩
      have HVV:=aA hv.2.2
      rw [hv.1,hv.2.1] at CA
      rw [hv.2.1] at HSTk
      have R:∀wx,Kp wr wx→wx.cell? ⟨w.heap.size,0,none⟩=some (.slice qa ql qc)∧wx.cell? ⟨w.heap.size,1,none⟩=some (.int .i64 clock)∧wx.cell? ⟨w.heap.size,2,none⟩=some (.int .i64 epoch)∧wx.cell? ⟨w.heap.size,3,none⟩=some (.int .i64 next)∧wx.cell? ⟨w.heap.size,4,none⟩=some (.int .i64 serial)∧wx.cell? ⟨w.heap.size,5,none⟩=some (.slice aa al ac)∧wx.cell? ⟨w.heap.size,6,none⟩=some (.slice ma ml mc)∧wx.cell? ⟨w.heap.size,7,none⟩=some (.slice ca cl cc)∧wx.cell? ⟨w2.heap.size,0,none⟩=some (.int .i64 tx)∧wx.cell? ⟨w2.heap.size,1,none⟩=some (.int .i64 ty):=fun wx h=>
        ⟨h.cell q0,h.cell q1,h.cell q2,h.cell q3,h.cell q4,h.cell q5,h.cell q6,h.cell q7,h.cell t0,h.cell t1⟩
      have A0:=aA (Kp.new wr)
      have HS:=aA (cB wr)
      have hwr:=(uH HVr).lt
      clear hc0 hkl hs hu hm hv hst
      go_wp2_with fail
      go_cut [11,12] from 26 to 37 (fun v7 v8 wx=>∃g,v7=.pointer (some ⟨g,0,none⟩)∧v8=.bool ok∧Kp wr wx∧Var wx 36 g x' y')
      case first=>
        go_region_held3 (fun wx=>Kp wr wx)
          (first | (with_reducible assumption) | exact uH SA | exact (uH HS).drew (uH A0) | exact (uH HS).al (uH SA) _ | exact (uH HS).al (by assumption) _ | exact (uH HS).al ((uH HS).drew (uH A0)) _ | exact (uH HS).call (by assumption) (by assumption) | exact (uH HS).set2 (uH SA) _ _ _ (by first | omega | (simp<;>omega)) | exact (uH HS).set2 (by assumption) _ _ _ (by first | omega | (simp<;>omega)))
          (first
          | (go_at_call 176;refine (uH CUk _ ?_).mono ?_;(exact yB (uH HBr) ((uH HS).below (by assumption)));rintro e wt ⟨rfl,hb⟩;have SA:=aA ((uH HS).call (by assumption) hb);have sz:=(uH HS).size (uH SA)
             first
               | (have V5:=(aJ _ 36 0 0).below hb;(try simp at V5);have c50:=V5.c0;have c51:=V5.c1;have f50:=V5.f 0;have f51:=V5.f 1;have V5:=aA V5)
               | (have V5:=(aJ _ 36 0 0).drew.below hb;(try simp at V5);have c50:=V5.c0;have c51:=V5.c1;have f50:=V5.f 0;have f51:=V5.f 1;have V5:=aA V5)
               | (have V5:=aA ((uH V5).below hb);have c50:=(uH V5).c0;have c51:=(uH V5).c1;have f50:=(uH V5).f 0;have f51:=(uH V5).f 1)
               | skip)
          | (go_at_call 175;refine (uH CMk _ ?_).mono ?_;(exact yB (uH HBr) ((uH HS).below (by assumption)));rintro e wt ⟨rfl,hb⟩;have SA:=aA ((uH HS).call (by assumption) hb);have sz:=(uH HS).size (uH SA)
             first
               | (have V5:=(aJ _ 36 0 0).below hb;(try simp at V5);have c50:=V5.c0;have c51:=V5.c1;have f50:=V5.f 0;have f51:=V5.f 1;have V5:=aA V5)
               | (have V5:=(aJ _ 36 0 0).drew.below hb;(try simp at V5);have c50:=V5.c0;have c51:=V5.c1;have f50:=V5.f 0;have f51:=V5.f 1;have V5:=aA V5)
               | (have V5:=aA ((uH V5).below hb);have c50:=(uH V5).c0;have c51:=(uH V5).c1;have f50:=(uH V5).f 0;have f51:=(uH V5).f 1)
               | skip)
          | (go_at_call 123;refine (uH CA _).mono ?_;rintro e wt ⟨rfl,hb⟩;have SA:=aA ((uH HS).call (by assumption) hb);have sz:=(uH HS).size (uH SA)
             first
               | (have V5:=(aJ _ 36 0 0).below hb;(try simp at V5);have c50:=V5.c0;have c51:=V5.c1;have f50:=V5.f 0;have f51:=V5.f 1;have V5:=aA V5)
               | (have V5:=(aJ _ 36 0 0).drew.below hb;(try simp at V5);have c50:=V5.c0;have c51:=V5.c1;have f50:=V5.f 0;have f51:=V5.f 1;have V5:=aA V5)
               | (have V5:=aA ((uH V5).below hb);have c50:=(uH V5).c0;have c51:=(uH V5).c1;have f50:=(uH V5).f 0;have f51:=(uH V5).f 1)
               | skip))
        all_goals
          go_wp2_with fail
          go_meet
          exact ⟨_,rfl,rfl,by first | assumption | exact uH SA | exact (uH HS).al (uH SA) _,by first | exact aJ _ _ _ _ | exact (uH V5).set _ _⟩
      case rest=>
        obtain ⟨g,rfl,rfl,hA,hV⟩:=hcut
        obtain ⟨w4,rfl⟩:∃w4,w4=wc:=⟨wc,rfl⟩
        have HK4:=aA (show Kp W2 w4 from yB (uH HK) hA)
        have HB4:=aA (yB (uH HBr) hA)
        have V4:=aA ((uH HVr).below hA)
        have VR4:=aA ((uH V2).below (uH HK4))
        have s0:=hV.c0
        have s1:=hV.c1
        have l0:=(uH V4).c0
        have l1:=(uH V4).c1
        have lf0:=(uH V4).f 0
        have lf1:=(uH V4).f 1
        clear hA hV A0 HS R CA CUk CMk q0 q1 q2 q3 q4 q5 q6 q7 t0 t1 c0
        cases ok with
        | true=>
          obtain ⟨rfl,rfl⟩:=uH HVV rfl
          rw [if_pos rfl] at HSTk
          have hm0:=aG6 a (mx + -1*ux)
          have hm1:=aG6 b (my + -1*uy)
          obtain ⟨sx,hsx⟩:∃t,mx + -1*ux=t:=⟨_,rfl⟩
          obtain ⟨sy,hsy⟩:∃t,my + -1*uy=t:=⟨_,rfl⟩
          rw [hsx] at s0 hm0 HSTk
          rw [hsy] at s1 hm1 HSTk
          clear hsx hsy HVV
          obtain ⟨na,hna⟩:∃t,min a sx=t:=⟨_,rfl⟩
          obtain ⟨nb,hnb⟩:∃t,min b sy=t:=⟨_,rfl⟩
          rw [hna] at hm0 HSTk
          rw [hnb] at hm1 HSTk
          clear hna hnb
          go_wp2
          go_roundw
          case rel=>exact ⟨k+1,na,nb,by omega,by go_num,aA (uH HSTk).symm,aA ((uH V4).set _ _),aA (yC (yC (uH HK4) _ _ _ (Nat.le_refl _)) _ _ _ (Nat.le_refl _))⟩
          case measure=>simp [intOf];omega
        | false=>
          rw [if_neg (by simp)] at HSTk
          have hz:=uH HSTk
          simp only [Prod.mk.injEq] at hz
          obtain ⟨rfl,rfl,rfl⟩:=hz
          have u0:=(uH VR4).c0
          have u1:=(uH VR4).c1
          have uf0:=(uH VR4).f 0
          have uf1:=(uH VR4).f 1
          have k4:=(uH VR4).s0 (.int .i64 0)
          have k5:=(uH VR4).s1 (.int .i64 0) (.int .i64 0)
          clear HVV l0 l1 lf0 lf1 s0 s1
          go_wp2
          refine bodyPost_ret (v:=.tuple #[rv 0 0,.bool false]) (by simp [results,Tryz.results136,go_sem,k4,k5]) rfl ⟨rfl,?_⟩
          repeat (first | exact uH HB4 | refine yA ?_ _ | refine yC ?_ _ _ _ (by omega))
    · have hz:=uH HEN k (by have:=uH HN;omega) a b
      rw [uH HQ] at hz
      simp only [Prod.mk.injEq] at hz
      obtain ⟨rfl,rfl,rfl⟩:=hz
      have VR4:=aA ((uH V2).below (uH HK))
      have l0:=(uH HVr).c0
      have l1:=(uH HVr).c1
      have u0:=(uH VR4).c0
      have u1:=(uH VR4).c1
      have uf0:=(uH VR4).f 0
      have uf1:=(uH VR4).f 1
      have k4:=(uH VR4).s0 (.int .i64 zx)
      have k5:=(uH VR4).s1 (.int .i64 zx) (.int .i64 zy)
      clear q0 q1 q2 q3 q4 q5 q6 q7 t0 t1
      go_wp2
      refine bodyPost_ret (v:=.tuple #[rv zx zy,.bool (decide (0<n))]) (by simp [results,Tryz.results136,go_sem,k4,k5]) rfl ⟨by simp [uH HN],?_⟩
      repeat (first | exact uH HBr | refine yA ?_ _ | refine yC ?_ _ _ _ (by omega))
end
end Go.Proofs.YtdhibeclkdepiaaGreat
