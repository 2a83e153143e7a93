/-
  Texts in one: NxS, GrJ, GrS, GrV, GrR, GrQ.
-/
import Derived.Test.YtdhibeclkdepiaaGreatSackAA
import Derived.Test.YtdhibeclkdepiaaGreatSackAB
set_option maxRecDepth 100000
set_option maxHeartbeats 16000000
set_option linter.unusedVariables false
set_option linter.unusedSimpArgs false
namespace Go.Proofs.YtdhibeclkdepiaaGreat
section
open Go.RowKit Go.Maps
def atS:Option ((Nat×Nat)×Con)→Int×Int
 | some r=>((r.1.1:Int),(r.1.2:Int))
 | none=>(-1,-1)
theorem aHi (x:Sls) (s:St) (w:World) (he:0≤s.epoch∧s.epoch≤1000000000) (hs:0≤s.serial∧s.serial≤1000000000) :
  Calls Tryz.prog 97 #[sv x s] w fun e w'=>e=.returned (.int .i64 (idV s))∧Below w.heap.size w w':=by
 have HI:=aA (show idV s=s.epoch*100000+s.serial % 100000 from rfl)
 have hm:=Int.emod_nonneg s.serial (show (100000:Int)≠0 by decide)
 have hm2:=Int.emod_lt_of_pos s.serial (show (0:Int)<100000 by decide)
 obtain ⟨d,hd⟩:∃d,idV s=d:=⟨_,rfl⟩
 rw [hd] at HI ⊢
 clear hd
 obtain ⟨qa,ql,qc,aa,al,ac,ma,ml,mc,ca,cl,cc⟩:=x
 obtain ⟨qs,clock,epoch,next,serial,apps,ms,cs⟩:=s
 simp only at HI he hs hm hm2
 have HB0:=aA (yA (yH _ w) (.cells (svc ⟨qa,ql,qc,aa,al,ac,ma,ml,mc,ca,cl,cc⟩ ⟨qs,clock,epoch,next,serial,apps,ms,cs⟩) 34))
 have hmt:serial.tmod 100000=serial % 100000:=Int.tmod_eq_emod_of_nonneg hs.1
 obtain ⟨sm,hsm⟩:∃z,serial % 100000=z:=⟨_,rfl⟩
 rw [hsm] at hmt hm hm2 HI
 go_enter Tryz.func97,Tryz.ntmps97
 go_wp2
 go_ret
 exact ⟨bV (uH HI).symm,uH HB0⟩
theorem aEG (x:Sls) (s:St) (nd:List UInt8) (w:World) (h:jC w x s) (hf:bD s) (he:0≤s.epoch∧s.epoch≤1000000000) (hse:0≤s.serial∧s.serial≤1000000000) :
  Calls Tryz.prog 57 #[sv x s,.string (bs nd)] w fun e w'=>e=.returned (.tuple #[conv (rJ (uT s nd)),.int .i64 (atS (uT s nd)).1,.int .i64 (atS (uT s nd)).2])∧Below w.heap.size w w':=by
 have hml:x.ml≤1048576:=h.ml hf
 have CI:=aA (fun wx=>aHi x s wx he hse)
 have CM:=aA (fun wx (hb:Below w.heap.size w wx)=>iX x s nd wx (h.2.2.1.below hb) hml)
 have CP:=aA (fun wx (hb:Below w.heap.size w wx)=>aEF x s nd wx (h.below hb) hf)
 have HR:=aA h.2.1
 have HRC:=aA h.2.2.2
 have hcl:x.cl=s.cs.length:=h.len.2.2.2
 have hcm:x.cl≤1048576:=by have:=hf.2.2.2.1;omega
 have HG:=aA (show uT s nd=if ((bF nd s.ms).isSome&&(decide (x.cl<150)&&(decide (idV s≤1000000000)&&!(s.cs.any fun c=>c.id==idV s))))=true then (nN s nd).map fun r=>(r,xK s nd r) else none by rw [uT,aLD,hcl,mW])
 have HP:=aA (fun (r:Nat×Nat) (hr:nN s nd=some r)=>aDl hr)
 have HC:=aA (fun (r:Nat×Nat) (h1:r.1<s.apps.length) (h2:r.2<s.apps[r.1].asks.length)=>xJ (s:=s) (nd:=nd) h1 h2)
 have HCL:=aA hcl
 have HAL:=aA h.2.1.1
 have hal:x.al≤1048576:=h.al hf
 have HFA:=aA hf.2.1
 have hat:=oI nd s.ms
 obtain ⟨gv,hgv⟩:∃g,uT s nd=g:=⟨_,rfl⟩
 obtain ⟨gc,hgc⟩:∃g,xK s nd=g:=⟨_,rfl⟩
 obtain ⟨pk,hpk⟩:∃g,nN s nd=g:=⟨_,rfl⟩
 obtain ⟨fm,hfm⟩:∃g,(bF nd s.ms).isSome=g:=⟨_,rfl⟩
 obtain ⟨mp,hmp⟩:∃g,wU s.ms nd=g:=⟨_,rfl⟩
 have HMP:=aA (show (fm=true→0≤mp)∧(fm=false→mp = -1) by
  rcases hat with ⟨a,b⟩ | ⟨j,hj,a,b⟩
  ·rw [←hfm,←hmp,a,b];simp
  ·rw [←hfm,←hmp,a,b];simp)
 obtain ⟨id,hid⟩:∃g,idV s=g:=⟨_,rfl⟩
 rw [hgv,hfm,hpk,hgc,hid] at HG
 rw [hgv]
 rw [hmp] at CM
 rw [hid] at CI
 rw [hpk] at CP HP
 rw [hgc,hid] at HC
 obtain ⟨⟨pi,pj⟩,hpl⟩:∃g,plS pk=g:=⟨_,rfl⟩
 rw [hpl] at CP
 simp only at CP
 have HPL:=aA hpl
 clear hpl h hf he hse hat hgv hgc hpk hfm hmp hid hcl
 obtain ⟨qa,ql,qc,aa,al,ac,ma,ml,mc,ca,cl,cc⟩:=x
 obtain ⟨qs,clock,epoch,next,serial,apps,ms,cs⟩:=s
 simp only at CI CM CP HR HRC HCL HG HC HP HAL HFA hal hcm hml
 have HB0:=aA (yA (yA (yH _ w) (.cells (svc ⟨qa,ql,qc,aa,al,ac,ma,ml,mc,ca,cl,cc⟩ ⟨qs,clock,epoch,next,serial,apps,ms,cs⟩) 34)) (.cells #[.int .i64 0,.int .i64 0,.string ByteArray.empty,.int .i64 0,.int .i64 0] 38))
 have P0:=aA ((yD w (svc ⟨qa,ql,qc,aa,al,ac,ma,ml,mc,ca,cl,cc⟩ ⟨qs,clock,epoch,next,serial,apps,ms,cs⟩) 34).al (.cells #[.int .i64 0,.int .i64 0,.string ByteArray.empty,.int .i64 0,.int .i64 0] 38))
 have T0:=aA (show Blk _ (w.heap.size+1) #[.int .i64 0,.int .i64 0,.string ByteArray.empty,.int .i64 0,.int .i64 0] 38 by have:=yD (w.alloc (.cells (svc ⟨qa,ql,qc,aa,al,ac,ma,ml,mc,ca,cl,cc⟩ ⟨qs,clock,epoch,next,serial,apps,ms,cs⟩) 34)) #[.int .i64 0,.int .i64 0,.string ByteArray.empty,.int .i64 0,.int .i64 0] 38;rw [yE] at this;exact this)
 go_enter Tryz.func57,Tryz.ntmps57
 go_wp2_with fail
 refine (uH CI _).mono ?_
 rintro e w1 ⟨rfl,hb⟩
 have HB1:=aA (yB (uH HB0) hb)
 have P1:=aA ((uH P0).below hb)
 have T1:=aA ((uH T0).below hb)
 clear hb HB0 P0 T0 CI
 obtain ⟨q0,q1,q2,q3,q4,q5,q6,q7⟩:=zq (uH P1)
 go_wp2_with fail
 refine (uH CM _ (uH HB1)).mono ?_
 rintro e w2 ⟨rfl,hb⟩
 have HB2:=aA (yB (uH HB1) hb)
 have P2:=aA ((uH P1).below hb)
 have T2:=aA ((uH T1).below hb)
 clear hb HB1 P1 T1 CM q0 q1 q2 q3 q4 q5 q6 q7
 obtain ⟨q0,q1,q2,q3,q4,q5,q6,q7⟩:=zq (uH P2)
 cases fm
 case false=>
  have hmp:mp = -1:=(uH HMP).2 rfl
  subst hmp
  have HE:=aA (show gv=none from by rw [uH HG];rfl)
  obtain ⟨k0,k1,k2,k3,k4⟩:=zp (uH T2)
  have f0:=(uH T2).f 0;have f1:=(uH T2).f 1;have f2:=(uH T2).f 2;have f3:=(uH T2).f 3;have f4:=(uH T2).f 4
  have HX:=aA (show Blk (((((w2.setCell ⟨w.heap.size+1,0,none⟩ (.int .i64 0)).setCell ⟨w.heap.size+1,1,none⟩ (.int .i64 0)).setCell ⟨w.heap.size+1,2,none⟩ (.string (⟨#[]⟩:ByteArray))).setCell ⟨w.heap.size+1,3,none⟩ (.int .i64 0)).setCell ⟨w.heap.size+1,4,none⟩ (.int .i64 0)) (w.heap.size+1) #[.int .i64 0,.int .i64 0,.string (⟨#[]⟩:ByteArray),.int .i64 0,.int .i64 0] 38 from (((((uH T2).set 0 (.int .i64 0)).set 1 (.int .i64 0)).set 2 (.string (⟨#[]⟩:ByteArray))).set 3 (.int .i64 0)).set 4 (.int .i64 0))
  have HY:=aA (yC (yC (yC (yC (yC (uH HB2) (w.heap.size+1) 0 (.int .i64 0) (by omega)) (w.heap.size+1) 1 (.int .i64 0) (by omega)) (w.heap.size+1) 2 (.string (⟨#[]⟩:ByteArray)) (by omega)) (w.heap.size+1) 3 (.int .i64 0) (by omega)) (w.heap.size+1) 4 (.int .i64 0) (by omega))
  go_wp2
  generalize (((((w2.setCell ⟨w.heap.size+1,0,none⟩ (.int .i64 0)).setCell ⟨w.heap.size+1,1,none⟩ (.int .i64 0)).setCell ⟨w.heap.size+1,2,none⟩ (.string (⟨#[]⟩:ByteArray))).setCell ⟨w.heap.size+1,3,none⟩ (.int .i64 0)).setCell ⟨w.heap.size+1,4,none⟩ (.int .i64 0))=W9 at HX HY ⊢
  obtain ⟨z0,z1,z2,z3,z4⟩:=zp (uH HX)
  refine bodyPost_ret (v:=.tuple #[conv ⟨0,0,[],0,0⟩,.int .i64 (-1),.int .i64 (-1)]) (by simp [results,Tryz.results57,go_sem,z0,z1,z2,z3,z4];try rfl) rfl ⟨by rw [uH HE];rfl,uH HY⟩
 have hmp:0≤mp:=(uH HMP).1 rfl
 have hmn:¬mp<0:=by omega
 by_cases hlt:cl<150
 case neg=>
  have hl1:(150:Int)≤cl:=by omega
  have HE:=aA (show gv=none from by rw [uH HG,decide_eq_false hlt];rfl)
  obtain ⟨k0,k1,k2,k3,k4⟩:=zp (uH T2)
  have f0:=(uH T2).f 0;have f1:=(uH T2).f 1;have f2:=(uH T2).f 2;have f3:=(uH T2).f 3;have f4:=(uH T2).f 4
  have HX:=aA (show Blk (((((w2.setCell ⟨w.heap.size+1,0,none⟩ (.int .i64 0)).setCell ⟨w.heap.size+1,1,none⟩ (.int .i64 0)).setCell ⟨w.heap.size+1,2,none⟩ (.string (⟨#[]⟩:ByteArray))).setCell ⟨w.heap.size+1,3,none⟩ (.int .i64 0)).setCell ⟨w.heap.size+1,4,none⟩ (.int .i64 0)) (w.heap.size+1) #[.int .i64 0,.int .i64 0,.string (⟨#[]⟩:ByteArray),.int .i64 0,.int .i64 0] 38 from (((((uH T2).set 0 (.int .i64 0)).set 1 (.int .i64 0)).set 2 (.string (⟨#[]⟩:ByteArray))).set 3 (.int .i64 0)).set 4 (.int .i64 0))
  have HY:=aA (yC (yC (yC (yC (yC (uH HB2) (w.heap.size+1) 0 (.int .i64 0) (by omega)) (w.heap.size+1) 1 (.int .i64 0) (by omega)) (w.heap.size+1) 2 (.string (⟨#[]⟩:ByteArray)) (by omega)) (w.heap.size+1) 3 (.int .i64 0) (by omega)) (w.heap.size+1) 4 (.int .i64 0) (by omega))
  go_wp2
  generalize (((((w2.setCell ⟨w.heap.size+1,0,none⟩ (.int .i64 0)).setCell ⟨w.heap.size+1,1,none⟩ (.int .i64 0)).setCell ⟨w.heap.size+1,2,none⟩ (.string (⟨#[]⟩:ByteArray))).setCell ⟨w.heap.size+1,3,none⟩ (.int .i64 0)).setCell ⟨w.heap.size+1,4,none⟩ (.int .i64 0))=W9 at HX HY ⊢
  obtain ⟨z0,z1,z2,z3,z4⟩:=zp (uH HX)
  refine bodyPost_ret (v:=.tuple #[conv ⟨0,0,[],0,0⟩,.int .i64 (-1),.int .i64 (-1)]) (by simp [results,Tryz.results57,go_sem,z0,z1,z2,z3,z4];try rfl) rfl ⟨by rw [uH HE];rfl,uH HY⟩
 have hl1:¬(150:Int)≤cl:=by omega
 by_cases hidl:id≤1000000000
 case neg=>
  have hl2:(1000000000:Int)<id:=by omega
  have HE:=aA (show gv=none from by rw [uH HG,decide_eq_true hlt,decide_eq_false hidl];rfl)
  obtain ⟨k0,k1,k2,k3,k4⟩:=zp (uH T2)
  have f0:=(uH T2).f 0;have f1:=(uH T2).f 1;have f2:=(uH T2).f 2;have f3:=(uH T2).f 3;have f4:=(uH T2).f 4
  have HX:=aA (show Blk (((((w2.setCell ⟨w.heap.size+1,0,none⟩ (.int .i64 0)).setCell ⟨w.heap.size+1,1,none⟩ (.int .i64 0)).setCell ⟨w.heap.size+1,2,none⟩ (.string (⟨#[]⟩:ByteArray))).setCell ⟨w.heap.size+1,3,none⟩ (.int .i64 0)).setCell ⟨w.heap.size+1,4,none⟩ (.int .i64 0)) (w.heap.size+1) #[.int .i64 0,.int .i64 0,.string (⟨#[]⟩:ByteArray),.int .i64 0,.int .i64 0] 38 from (((((uH T2).set 0 (.int .i64 0)).set 1 (.int .i64 0)).set 2 (.string (⟨#[]⟩:ByteArray))).set 3 (.int .i64 0)).set 4 (.int .i64 0))
  have HY:=aA (yC (yC (yC (yC (yC (uH HB2) (w.heap.size+1) 0 (.int .i64 0) (by omega)) (w.heap.size+1) 1 (.int .i64 0) (by omega)) (w.heap.size+1) 2 (.string (⟨#[]⟩:ByteArray)) (by omega)) (w.heap.size+1) 3 (.int .i64 0) (by omega)) (w.heap.size+1) 4 (.int .i64 0) (by omega))
  go_wp2
  generalize (((((w2.setCell ⟨w.heap.size+1,0,none⟩ (.int .i64 0)).setCell ⟨w.heap.size+1,1,none⟩ (.int .i64 0)).setCell ⟨w.heap.size+1,2,none⟩ (.string (⟨#[]⟩:ByteArray))).setCell ⟨w.heap.size+1,3,none⟩ (.int .i64 0)).setCell ⟨w.heap.size+1,4,none⟩ (.int .i64 0))=W9 at HX HY ⊢
  obtain ⟨z0,z1,z2,z3,z4⟩:=zp (uH HX)
  refine bodyPost_ret (v:=.tuple #[conv ⟨0,0,[],0,0⟩,.int .i64 (-1),.int .i64 (-1)]) (by simp [results,Tryz.results57,go_sem,z0,z1,z2,z3,z4];try rfl) rfl ⟨by rw [uH HE];rfl,uH HY⟩
 have hl2:¬(1000000000:Int)<id:=by omega
 have HG2:=aA (show gv=if (cs.any fun c=>c.id==id)=true then none else pk.map (fun r=>(r,gc r)) from by
  rw [uH HG,decide_eq_true hlt,decide_eq_true hidl]
  cases (cs.any fun c=>c.id==id)<;>rfl)
 clear HG
 go_wp2_with fail
 clear q0 q1 q2 q3 q4 q5 q6 q7
 go_loopw [8] (fun i wr=>∃k:Nat,k≤cl∧i=.int .i64 k∧Hid ((cs.any fun c=>c.id==id)=((cs.drop k).any fun c=>c.id==id))∧Hid (Below w2.heap.size w2 wr)) (fun i _=>cl - (intOf i).toNat)
 case atStart=>exact ⟨0,Nat.zero_le _,rfl,aA rfl,aA (yH _ _)⟩
 case round=>
  obtain ⟨k,hk,rfl,HA,HK⟩:=hrel
  obtain ⟨wk,rfl⟩:∃wo:World,wo=wr:=⟨_,rfl⟩
  have HBk:=aA (yB (uH HB2) (uH HK))
  have Pk:=aA ((uH P2).below (uH HK))
  have Tk:=aA ((uH T2).below (uH HK))
  obtain ⟨q0,q1,q2,q3,q4,q5,q6,q7⟩:=zq (uH Pk)
  by_cases hkl:k<cl
  ·obtain ⟨ab,aoff,rfl,ha⟩:=((uH HRC).below (uH HBk)).at hkl
   have hjk:k<cs.length:=by have:=uH HCL;omega
   obtain ⟨d0,d1,d2,d3,d4⟩:=ha hjk
   have hst:((cs.drop k).any fun c=>c.id==id)=(cs[k].id==id||(cs.drop (k+1)).any fun c=>c.id==id):=by rw [List.drop_eq_getElem_cons hjk,List.any_cons]
   obtain ⟨⟨ci,ca',cn,cm,cu⟩,hs⟩:∃s,cs[k]=s:=⟨_,rfl⟩
   rw [hs] at d0 d1 d2 d3 d4 hst
   simp only at d0 d1 d2 d3 d4 hst
   have HST:=aA hst
   have j0:(0:Int)≤k:=by omega
   have j1:(k:Int)<cl:=by omega
   clear ha hs hjk hst
   by_cases hce:ci=id
   ·subst hce
    have HE:=aA (show gv=none from by rw [uH HG2,uH HA,uH HST];simp)
    obtain ⟨k0,k1,k2,k3,k4⟩:=zp (uH Tk)
    have f0:=(uH Tk).f 0;have f1:=(uH Tk).f 1;have f2:=(uH Tk).f 2;have f3:=(uH Tk).f 3;have f4:=(uH Tk).f 4
    have HX:=aA (show Blk (((((wk.setCell ⟨w.heap.size+1,0,none⟩ (.int .i64 0)).setCell ⟨w.heap.size+1,1,none⟩ (.int .i64 0)).setCell ⟨w.heap.size+1,2,none⟩ (.string (⟨#[]⟩:ByteArray))).setCell ⟨w.heap.size+1,3,none⟩ (.int .i64 0)).setCell ⟨w.heap.size+1,4,none⟩ (.int .i64 0)) (w.heap.size+1) #[.int .i64 0,.int .i64 0,.string (⟨#[]⟩:ByteArray),.int .i64 0,.int .i64 0] 38 from (((((uH Tk).set 0 (.int .i64 0)).set 1 (.int .i64 0)).set 2 (.string (⟨#[]⟩:ByteArray))).set 3 (.int .i64 0)).set 4 (.int .i64 0))
    have HY:=aA (yC (yC (yC (yC (yC (uH HBk) (w.heap.size+1) 0 (.int .i64 0) (by omega)) (w.heap.size+1) 1 (.int .i64 0) (by omega)) (w.heap.size+1) 2 (.string (⟨#[]⟩:ByteArray)) (by omega)) (w.heap.size+1) 3 (.int .i64 0) (by omega)) (w.heap.size+1) 4 (.int .i64 0) (by omega))
    go_wp2
    generalize (((((wk.setCell ⟨w.heap.size+1,0,none⟩ (.int .i64 0)).setCell ⟨w.heap.size+1,1,none⟩ (.int .i64 0)).setCell ⟨w.heap.size+1,2,none⟩ (.string (⟨#[]⟩:ByteArray))).setCell ⟨w.heap.size+1,3,none⟩ (.int .i64 0)).setCell ⟨w.heap.size+1,4,none⟩ (.int .i64 0))=W9 at HX HY ⊢
    obtain ⟨z0,z1,z2,z3,z4⟩:=zp (uH HX)
    refine bodyPost_ret (v:=.tuple #[conv ⟨0,0,[],0,0⟩,.int .i64 (-1),.int .i64 (-1)]) (by simp [results,Tryz.results57,go_sem,z0,z1,z2,z3,z4];try rfl) rfl ⟨by rw [uH HE];rfl,uH HY⟩
   ·have HN:=aA (show (cs.any fun c=>c.id==id)=((cs.drop (k+1)).any fun c=>c.id==id) by rw [uH HA,uH HST,beq_eq_false_iff_ne.2 hce,Bool.false_or])
    go_wp2
    go_roundw
    case rel=>exact ⟨k+1,by omega,by go_num,HN,HK⟩
    case measure=>simp [intOf];omega
  ·have HG3:=aA (show gv=pk.map (fun r=>(r,gc r)) from by
    have h1:=uH HA
    rw [List.drop_of_length_le (by have:=uH HCL;omega)] at h1
    rw [uH HG2,h1]
    rfl)
   have j1:¬(k:Int)<cl:=by omega
   clear HA HG2
   go_wp2_with fail
   refine (uH CP _ (uH HBk)).mono ?_
   rintro e w3 ⟨rfl,hb⟩
   have HB3:=aA (yB (uH HBk) hb)
   have P3:=aA ((uH Pk).below hb)
   have T3:=aA ((uH Tk).below hb)
   clear hb HBk Pk Tk CP q0 q1 q2 q3 q4 q5 q6 q7
   cases hp:pk
   case none=>
    obtain ⟨rfl,rfl⟩:pi = -1∧pj = -1:=by have h1:=uH HPL;rw [hp] at h1;simp only [plS,Prod.mk.injEq] at h1;exact ⟨h1.1.symm,h1.2.symm⟩
    have HE:=aA (show gv=none from by rw [uH HG3,hp];rfl)
    obtain ⟨k0,k1,k2,k3,k4⟩:=zp (uH T3)
    have f0:=(uH T3).f 0;have f1:=(uH T3).f 1;have f2:=(uH T3).f 2;have f3:=(uH T3).f 3;have f4:=(uH T3).f 4
    have HX:=aA (show Blk (((((w3.setCell ⟨w.heap.size+1,0,none⟩ (.int .i64 0)).setCell ⟨w.heap.size+1,1,none⟩ (.int .i64 0)).setCell ⟨w.heap.size+1,2,none⟩ (.string (⟨#[]⟩:ByteArray))).setCell ⟨w.heap.size+1,3,none⟩ (.int .i64 0)).setCell ⟨w.heap.size+1,4,none⟩ (.int .i64 0)) (w.heap.size+1) #[.int .i64 0,.int .i64 0,.string (⟨#[]⟩:ByteArray),.int .i64 0,.int .i64 0] 38 from (((((uH T3).set 0 (.int .i64 0)).set 1 (.int .i64 0)).set 2 (.string (⟨#[]⟩:ByteArray))).set 3 (.int .i64 0)).set 4 (.int .i64 0))
    have HY:=aA (yC (yC (yC (yC (yC (uH HB3) (w.heap.size+1) 0 (.int .i64 0) (by omega)) (w.heap.size+1) 1 (.int .i64 0) (by omega)) (w.heap.size+1) 2 (.string (⟨#[]⟩:ByteArray)) (by omega)) (w.heap.size+1) 3 (.int .i64 0) (by omega)) (w.heap.size+1) 4 (.int .i64 0) (by omega))
    go_wp2
    generalize (((((w3.setCell ⟨w.heap.size+1,0,none⟩ (.int .i64 0)).setCell ⟨w.heap.size+1,1,none⟩ (.int .i64 0)).setCell ⟨w.heap.size+1,2,none⟩ (.string (⟨#[]⟩:ByteArray))).setCell ⟨w.heap.size+1,3,none⟩ (.int .i64 0)).setCell ⟨w.heap.size+1,4,none⟩ (.int .i64 0))=W9 at HX HY ⊢
    obtain ⟨z0,z1,z2,z3,z4⟩:=zp (uH HX)
    refine bodyPost_ret (v:=.tuple #[conv ⟨0,0,[],0,0⟩,.int .i64 (-1),.int .i64 (-1)]) (by simp [results,Tryz.results57,go_sem,z0,z1,z2,z3,z4];try rfl) rfl ⟨by rw [uH HE];rfl,uH HY⟩
   case some r=>
    obtain ⟨i,k2⟩:=r
    obtain ⟨rfl,rfl⟩:(i:Int)=pi∧(k2:Int)=pj:=by have h1:=uH HPL;rw [hp] at h1;simp only [plS,Prod.mk.injEq] at h1;exact h1
    obtain ⟨hkl2,hjk⟩:=uH HP _ hp
    simp only at hkl2 hjk
    have hgc:=uH HC (i,k2) hkl2 hjk
    simp only at hgc
    have hil:i<al:=by have:=uH HAL;omega
    obtain ⟨bb,off,rfl,hqa⟩:=(uH HR).at hil
    have hfa:=(uH HFA).2 _ (yM hkl2)
    obtain ⟨xo,xl,xc,c0,c1,c2,hrow,_⟩:=hqa hkl2
    obtain ⟨⟨ai,qu,asks⟩,hs'⟩:∃s,apps[i]=s:=⟨_,rfl⟩
    have hjk2:k2<asks.length:=by have:=hjk;rw [hs'] at this;exact this
    have hgc2:gc (i,k2)=⟨id,ai,nd,asks[k2].mem,asks[k2].cpu⟩:=by simp only [hgc,hs']
    rw [hs'] at c0 c1 hrow hfa
    simp only at c0 c1 hrow
    have hxl:xl≤1048576:=by have h1:=hrow.1;have h2:=hfa.2.1;simp only at h2;omega
    have hkx:k2<xl:=by have:=hrow.1;omega
    obtain ⟨ab,aoff,rfl,ha⟩:=hrow.at hkx
    obtain ⟨d0,d1,d2,d3,d4⟩:=ha hjk2
    obtain ⟨⟨me,cp,ct,nx,mi⟩,hsa⟩:∃s,asks[k2]=s:=⟨_,rfl⟩
    rw [hsa] at hgc2 d0 d1 d2 d3 d4
    simp only at hgc2 d0 d1 d2 d3 d4
    have HGC:=aA hgc2
    have HE:=aA (show gv=some ((i,k2),gc (i,k2)) from by rw [uH HG3,hp];rfl)
    have i0:(0:Int)≤i:=by omega
    have i1:(i:Int)<al:=by omega
    have i2:¬(i:Int)<0:=by omega
    have j2:(0:Int)≤k2:=by omega
    have j3:(k2:Int)<xl:=by omega
    clear hqa hgc hgc2 hfa hrow hjk ha hp hs' hsa
    go_wp2_with fail
    have S6:=aA (show HBk w [(w.heap.size,svc ⟨qa,ql,qc,some ⟨bb,off,none⟩,al,ac,ma,ml,mc,ca,cl,cc⟩ ⟨qs,clock,epoch,next,serial,apps,ms,cs⟩,34)] w3 from ⟨fun p hp=>by
     simp only [List.mem_cons,List.not_mem_nil,or_false] at hp
     subst hp
     exact uH P3,uH HB3⟩)
    have R:∀wx,HBk w [(w.heap.size,svc ⟨qa,ql,qc,some ⟨bb,off,none⟩,al,ac,ma,ml,mc,ca,cl,cc⟩ ⟨qs,clock,epoch,next,serial,apps,ms,cs⟩,34)] wx→wx.cell? ⟨w.heap.size,5,none⟩=some (.slice (some ⟨bb,off,none⟩) al ac)∧wx.cell? ⟨bb,off+i*3,none⟩=some (.int .i64 ai)∧wx.cell? ⟨bb,off+i*3+2,none⟩=some (.slice (some ⟨ab,aoff,none⟩) xl xc)∧wx.cell? ⟨ab,aoff+k2*5,none⟩=some (.int .i64 me)∧wx.cell? ⟨ab,aoff+k2*5+1,none⟩=some (.int .i64 cp):=fun wx h=>by
     have v1:=h.blk (g:=w.heap.size) (c:=svc ⟨qa,ql,qc,some ⟨bb,off,none⟩,al,ac,ma,ml,mc,ca,cl,cc⟩ ⟨qs,clock,epoch,next,serial,apps,ms,cs⟩) (t:=34) (by simp)
     exact ⟨by simpa using v1.at 5,h.cell c0,h.cell c2,h.cell d0,h.cell d1⟩
    have k0:=(uH T3).at 0;have k1:=(uH T3).at 1;have k2':=(uH T3).at 2;have k3:=(uH T3).at 3;have k4:=(uH T3).at 4
    have f0:=(uH T3).f 0;have f1:=(uH T3).f 1;have f2:=(uH T3).f 2;have f3:=(uH T3).f 3;have f4:=(uH T3).f 4
    simp at k0 k1 k2' k3 k4
    have hn1:∀p ∈ [(w.heap.size,svc ⟨qa,ql,qc,some ⟨bb,off,none⟩,al,ac,ma,ml,mc,ca,cl,cc⟩ ⟨qs,clock,epoch,next,serial,apps,ms,cs⟩,(34:TypeId))],p.1≠w.heap.size+1:=fun p hp=>by
     simp only [List.mem_cons,List.not_mem_nil,or_false] at hp
     subst hp
     simp only
     omega
    have HN1:=aA hn1
    have hw1:w.heap.size≤w.heap.size+1:=by omega
    clear hn1 c0 c1 c2 d0 d1 d2 d3 d4
    have SB:=(show HBk w [(w.heap.size,svc ⟨qa,ql,qc,some ⟨bb,off,none⟩,al,ac,ma,ml,mc,ca,cl,cc⟩ ⟨qs,clock,epoch,next,serial,apps,ms,cs⟩,34)] ((((((w3.setCell ⟨w.heap.size+1,0,none⟩ (.int .i64 id)).setCell ⟨w.heap.size+1,1,none⟩ (.int .i64 ai)).setCell ⟨w.heap.size+1,2,none⟩ (.string (bs nd))).setCell ⟨w.heap.size+1,3,none⟩ (.int .i64 me)).setCell ⟨w.heap.size+1,4,none⟩ (.int .i64 cp)).drew) from (HBk.set (HBk.set (HBk.set (HBk.set (HBk.set (uH S6) _ _ _ hw1 (uH HN1)) _ _ _ hw1 (uH HN1)) _ _ _ hw1 (uH HN1)) _ _ _ hw1 (uH HN1)) _ _ _ hw1 (uH HN1)).drew)
    go_region_held3 (fun wx=>HBk w [(w.heap.size,svc ⟨qa,ql,qc,some ⟨bb,off,none⟩,al,ac,ma,ml,mc,ca,cl,cc⟩ ⟨qs,clock,epoch,next,serial,apps,ms,cs⟩,34)] wx)
     (first | (with_reducible assumption) | (with_reducible exact (uH S6).drew))
     (fail)
    have T4:=aA ((uH T3).drew)
    have HX:=aA (show Blk ((((((w3.setCell ⟨w.heap.size+1,0,none⟩ (.int .i64 id)).setCell ⟨w.heap.size+1,1,none⟩ (.int .i64 ai)).setCell ⟨w.heap.size+1,2,none⟩ (.string (bs nd))).setCell ⟨w.heap.size+1,3,none⟩ (.int .i64 me)).setCell ⟨w.heap.size+1,4,none⟩ (.int .i64 cp)).drew) (w.heap.size+1) #[.int .i64 id,.int .i64 ai,.string (bs nd),.int .i64 me,.int .i64 cp] 38 from ((((((uH T3).set 0 (.int .i64 id)).set 1 (.int .i64 ai)).set 2 (.string (bs nd))).set 3 (.int .i64 me)).set 4 (.int .i64 cp)).drew)
    have HY:=aA ((yC (yC (yC (yC (yC (uH HB3) (w.heap.size+1) 0 (.int .i64 id) (by omega)) (w.heap.size+1) 1 (.int .i64 ai) (by omega)) (w.heap.size+1) 2 (.string (bs nd)) (by omega)) (w.heap.size+1) 3 (.int .i64 me) (by omega)) (w.heap.size+1) 4 (.int .i64 cp) (by omega)).drew)
    go_wp2
    generalize ((((((w3.setCell ⟨w.heap.size+1,0,none⟩ (.int .i64 id)).setCell ⟨w.heap.size+1,1,none⟩ (.int .i64 ai)).setCell ⟨w.heap.size+1,2,none⟩ (.string (bs nd))).setCell ⟨w.heap.size+1,3,none⟩ (.int .i64 me)).setCell ⟨w.heap.size+1,4,none⟩ (.int .i64 cp)).drew)=W9 at HX HY ⊢
    obtain ⟨z0,z1,z2,z3,z4⟩:=zp (uH HX)
    refine bodyPost_ret (v:=.tuple #[conv ⟨id,ai,nd,me,cp⟩,.int .i64 (i:Int),.int .i64 (k2:Int)]) (by simp [results,Tryz.results57,go_sem,z0,z1,z2,z3,z4];try rfl) rfl ⟨by rw [uH HE,uH HGC];rfl,uH HY⟩
end
section
open Go.RowKit
theorem dR.low {B g:Nat} {w w':World} {y:Sls} {s:St} {hs:List AV} (h:dR B w y s hs) (hm:Mks (fun k=>k=g) w w') (hg:g<B):dR B w' y s hs:=
 ⟨⟨h.q.1.mks hm (qQ h.q.2 (.inl hg)),(h.q.2.mks hm).mono (yJ _) hm.size⟩,⟨h.p.1.mks hm (qQ h.p.2 (.inl hg)),(h.p.2.mks hm).mono (yJ _) hm.size⟩,
  ⟨⟨h.k.heads.1,fun i h1 h2=>let ⟨a,b',c,d⟩:=h.k.heads.2 i h1 h2;⟨a,b',c.mks hm (qQ (h.k.own _ (yM h1)) (.inl hg)),d⟩⟩,fun v hv=>((h.k.own v hv).mks hm).mono (yJ _) hm.size,h.k.apart⟩,
  ⟨h.m.1.mks hm (qQ h.m.2 (.inl hg)),(h.m.2.mks hm).mono (yJ _) hm.size⟩,⟨h.c.1.mks hm (qQ h.c.2 (.inl hg)),(h.c.2.mks hm).mono (yJ _) hm.size⟩,h.cap,(h.rm.mks hm).mono (yJ _) hm.size⟩
theorem aKb (g n cap k:Nat) (hk:k≤cap) (wx:World):(Instr.slice 72 (.slice (some ⟨g,0,none⟩) n cap) none (some (.int .i64 (k:Int))) none).run Tryz.prog wx=.ok (.slice (some ⟨g,0,none⟩) k cap) wx:=by
 rw [run_slice_h (P:=Tryz.prog) (w:=wx) 72 (some ⟨g,0,none⟩) n cap Tryz.underlying72 .i64 (k:Int) (by omega) (by omega)]
 rw [show (sizeOf (Tryz.prog.elem 72)).run Tryz.prog wx=.ok 5 wx from by kernel_rfl]
 simp [Result.andThen,sliced,Addr.add]
theorem aKc (g n cap k:Nat) (hk:k≤n) (wx:World):(Instr.slice 72 (.slice (some ⟨g,0,none⟩) n cap) (some (.int .i64 (k:Int))) none none).run Tryz.prog wx=.ok (.slice (some (hiA g cap k 5)) (n - k) (cap - k)) wx:=by
 rw [run_slice_l (P:=Tryz.prog) (w:=wx) 72 (some ⟨g,0,none⟩) n cap Tryz.underlying72 .i64 (k:Int) (by omega) (by omega)]
 rw [show (sizeOf (Tryz.prog.elem 72)).run Tryz.prog wx=.ok 5 wx from by kernel_rfl]
 simp only [Result.andThen,sliced,Int.toNat_natCast,hiA]
 by_cases h:cap=k
 ·rw [if_pos h,if_pos h]
 ·rw [if_neg h,if_neg h]
  simp [Addr.add]
  try omega
theorem kX.swap {B:Nat} {w w':World} {hs:List AV} {l:List bY} (h:kX B w hs l) (hB:B≤w.heap.size) {i n' c':Nat} {ao':Option Addr} {ak:List Ask} (hi:i<hs.length) (hl:i<l.length) (hb:Below w.heap.size w w')
  (hr:aO w' ao' n' ak) (ho:dU w.heap.size w'.heap.size w' 77 5 ao' n') (hc:n'≤c'):kX B w' (hs.set i ⟨hs[i].id,hs[i].queue,ao',n',c'⟩) (l.modify i (fun a=>⟨a.id,a.queue,ak⟩)):=by
 have hne:∀j (hj:j<hs.length),hs[j].len≠0→n'≠0→hs[j].ao≠ao':=fun j hj h0 h1 e=>by
  rcases h.own _ (yM hj) with e2 | ⟨g,M,e2,_,e4,_⟩
  ·exact h0 e2
  ·rcases ho with e3 | ⟨g',M',e3,e5,_⟩
   ·exact h1 e3
   ·rw [e2,e3] at e
    cases e
    omega
 refine ⟨⟨by simp [h.heads.1],fun j h1 h2=>?_⟩,fun v hv=>?_,?_⟩
 ·have hj:j<hs.length:=by simpa using h1
  have hj':j<l.length:=by simpa using h2
  obtain ⟨a,b,c,d⟩:=h.heads.2 j hj hj'
  rw [List.getElem_set,List.getElem_modify]
  by_cases e:i=j
  ·subst e
   rw [if_pos rfl,if_pos rfl]
   exact ⟨a,b,hr,hc⟩
  ·rw [if_neg e,if_neg e]
   exact ⟨a,b,c.below hb,d⟩
 ·rcases List.mem_or_eq_of_mem_set hv with hv | rfl
  ·exact (h.own v hv).grow hb (yJ _)
  ·exact ho.mono hB (yJ _)
 ·rw [List.pairwise_iff_getElem]
  intro a b ha hb' hab
  have ha':a<hs.length:=by simpa using ha
  have hb2:b<hs.length:=by simpa using hb'
  have h0:=List.pairwise_iff_getElem.1 h.apart a b ha' hb2 hab
  rw [List.getElem_set,List.getElem_set]
  by_cases e1:i=a
  ·subst e1
   rw [if_pos rfl,if_neg (by omega)]
   by_cases e2:hs[b].len=0
   ·exact .inr (.inl e2)
   ·by_cases e3:n'=0
    ·exact .inl e3
    ·exact .inr (.inr (fun e=>hne b hb2 e2 e3 e.symm))
  ·rw [if_neg e1]
   by_cases e2:i=b
   ·subst e2
    rw [if_pos rfl]
    by_cases e3:hs[a].len=0
    ·exact .inl e3
    ·by_cases e4:n'=0
     ·exact .inr (.inl e4)
     ·exact .inr (.inr (hne a ha' e3 e4))
   ·rw [if_neg e2]
    exact h0
theorem dR.conts {B n c:Nat} {w:World} {y:Sls} {s:St} {hs:List AV} (h:dR B w y s hs) {ao:Option Addr} {l:List Con} (hc:qA B w ao n l) (hn:n≤c) (ho:dU B w.heap.size w 38 5 ao c) :
  dR B w ⟨y.qa,y.ql,y.qc,y.aa,y.al,y.ac,y.ma,y.ml,y.mc,ao,n,c⟩ ⟨s.qs,s.clock,s.epoch,s.next,s.serial,s.apps,s.ms,l⟩ hs:=
 ⟨h.q,h.p,h.k,h.m,hc,⟨h.cap.q,h.cap.a,h.cap.m,hn⟩,h.rm.1,h.rm.2.1,h.rm.2.2.1,ho,h.rm.2.2.2.2⟩
theorem dR.swap {B pg:Nat} {w w':World} {y:Sls} {s:St} {hs:List AV} (h:dR B w y s hs) (hB:B≤w.heap.size) (hpa:y.aa=some ⟨pg,0,none⟩) {i k n' c':Nat} {ao':Option Addr} (hi:i<s.apps.length) (hb:Below w.heap.size w w')
  (hr:aO w' ao' n' (gB s.apps[i].asks k)) (ho:dU w.heap.size w'.heap.size w' 77 5 ao' n') (hoc:dU w.heap.size w'.heap.size w' 77 5 ao' c') (hc:n'≤c') :
  ∃hs',dR B (w'.setCell ⟨pg,i*3+2,none⟩ (.slice ao' n' c')) y (aHH s (i,k)) hs'∧Mks (fun q=>q=pg) w' (w'.setCell ⟨pg,i*3+2,none⟩ (.slice ao' n' c'))∧B≤pg∧pg<w.heap.size∧∃N,Cel w' 74 pg N∧i*3+2<N:=by
 have hih:i<hs.length:=by rw [h.k.heads.1];exact hi
 have hk:=h.k.swap hB hih hi hb hr ho hc
 have hp:=h.p
 rw [hpa] at hp
 obtain ⟨M,hBp,hpl,hlay,hM,_⟩:=hp.lay (by have:=hp.1.1;omega)
 have hcel:=(hlay.below hb).cel
 have hm:Mks (fun q=>q=pg) w' (w'.setCell ⟨pg,i*3+2,none⟩ (.slice ao' n' c')):=Mks.one _ _ _ _ _ rfl
 have hS:∀q,q=pg→∃N,Cel w' 74 q N:=fun q e=>by subst e;exact ⟨_,hcel⟩
 have hrm:=((h.rm.below hb).mono (yJ B) hb.size).mks hm
 refine ⟨_,⟨(h.q.below hb).mkg hm hS (by decide),by rw [hpa];exact (hp.below hb).upd hih ao' n' c',?_,(h.m.below hb).mkg hm hS (by decide),(h.c.below hb).mkg hm hS (by decide),h.cap,?_⟩,hm,hBp,hpl,_,hcel,by have:=Nat.mul_le_mul_right 3 (show i+1≤M by have:=hp.1.1;omega);omega⟩
 ·show kX B _ _ (bL s.apps (i,k))
  rw [rV _ _ _ hi]
  exact hk.mkg hm hS (by decide)
 ·have h2:=hrm.mono (yJ B) hm.size
  refine ⟨h2.1,h2.2.1,h2.2.2.1,h2.2.2.2.1,fun v hv=>?_⟩
  rcases List.mem_or_eq_of_mem_set hv with hv | rfl
  ·exact h2.2.2.2.2 v hv
  ·exact (hoc.mks hm).mono hB hm.size
def aJi (B:Nat) (y:Sls) (hs:List AV) (s:St) (nd:List UInt8) (w:World) (e:Ending) (w':World):Prop:=
 ∃y' hs',e=.returned (.tuple #[sv y' (kJ s nd),conv (rJ (aX s nd)),.bool (aX s nd).isSome])∧dR B w' y' (kJ s nd) hs'∧(∃g,y'.ca=some ⟨g,0,none⟩)∧Kc B w.heap.size none 0 w w'∧(aX s nd=none→y'=y∧hs'=hs)∧∀g,y'.ca=some ⟨g,0,none⟩→y'.cc≠0→g<w.heap.size→y.cc≠0∧y.ca=some ⟨g,0,none⟩
theorem aJJ {s:St} {nd:List UInt8} (h:aS s=true):uT s nd=aX s nd:=by rw [aX,if_pos h]
theorem aCg {B:Nat} {y:Sls} {s:St} {hs:List AV} {w:World} (h:dR B w y s hs) (hBw:B≤w.heap.size) (hca:∃g,y.ca=some ⟨g,0,none⟩) (nd:List UInt8) (hf:bD s) (hok:aS s=true) (hnd:nd.length≤1048576) :
  Calls Tryz.prog 24 #[sv y s,.string (bs nd)] w (aJi B y hs s nd w):=by
 have hb1:=yA (yA (yA (yH _ w) (.cells (svc y s) 34)) (.cells #[.slice none 0 0,.int .i64 0,.int .i64 0,.int .i64 0,.int .i64 0,.slice none 0 0,.slice none 0 0,.slice none 0 0] 34)) (.cells #[.int .i64 0,.int .i64 0,.string ⟨#[]⟩,.int .i64 0,.int .i64 0] 38)
 have P0:=aA (((yD w (svc y s) 34).al (.cells #[.slice none 0 0,.int .i64 0,.int .i64 0,.int .i64 0,.int .i64 0,.slice none 0 0,.slice none 0 0,.slice none 0 0] 34)).al (.cells #[.int .i64 0,.int .i64 0,.string ⟨#[]⟩,.int .i64 0,.int .i64 0] 38))
 have P1:=aA ((yD (w.alloc (.cells (svc y s) 34)) #[.slice none 0 0,.int .i64 0,.int .i64 0,.int .i64 0,.int .i64 0,.slice none 0 0,.slice none 0 0,.slice none 0 0] 34).al (.cells #[.int .i64 0,.int .i64 0,.string ⟨#[]⟩,.int .i64 0,.int .i64 0] 38))
 have P2:=aA (yD ((w.alloc (.cells (svc y s) 34)).alloc (.cells #[.slice none 0 0,.int .i64 0,.int .i64 0,.int .i64 0,.int .i64 0,.slice none 0 0,.slice none 0 0,.slice none 0 0] 34)) #[.int .i64 0,.int .i64 0,.string ⟨#[]⟩,.int .i64 0,.int .i64 0] 38)
 rw [yE] at P1
 rw [yE,yE] at P2
 have H1:=aA (h.below hb1)
 have B1:=aA hb1
 have hz1:(((w.alloc (.cells (svc y s) 34)).alloc (.cells #[.slice none 0 0,.int .i64 0,.int .i64 0,.int .i64 0,.int .i64 0,.slice none 0 0,.slice none 0 0,.slice none 0 0] 34)).alloc (.cells #[.int .i64 0,.int .i64 0,.string ⟨#[]⟩,.int .i64 0,.int .i64 0] 38)).heap.size=w.heap.size+1+1+1:=by simp only [yE]
 have CN:=aA (aEG y s nd _ (uH H1).ans.row hf (wK hok).2.1 (wK hok).2.2)
 have HFC:=aA (fun p (e:aX s nd=some p)=>jW e)
 have HG:=aA (show ∀e w',aJi B y hs s nd w e w'↔∃y' hs',e=.returned (.tuple #[sv y' (match aX s nd with | none=>s | some p=>bQ s p),conv (rJ (aX s nd)),.bool (aX s nd).isSome])∧dR B w' y' (match aX s nd with | none=>s | some p=>bQ s p) hs'∧(∃g,y'.ca=some ⟨g,0,none⟩)∧Kc B w.heap.size none 0 w w'∧(aX s nd=none→y'=y∧hs'=hs)∧∀g,y'.ca=some ⟨g,0,none⟩→y'.cc≠0→g<w.heap.size→y.cc≠0∧y.ca=some ⟨g,0,none⟩ from fun e w'=>Iff.rfl)
 rw [aJJ hok] at CN
 obtain ⟨p,hp⟩:∃p,aX s nd=p:=⟨_,rfl⟩
 rw [hp] at CN HG HFC
 have HP:=aA hp
 have HCA:=aA hca
 have hlow:=aA (fun (hc:y.cl≠0)=>show ∃g,y.ca=some ⟨g,0,none⟩∧g<w.heap.size from by
  rcases h.c.2 with e | ⟨g,M,e,_,e2,_⟩
  ·exact absurd e hc
  ·exact ⟨g,e,e2⟩)
 have HSE:=aA (wK hok).2.2
 clear hb1 h hp hca
 cases p with
 | none=>
  simp only [atS,rJ,Option.isSome_none] at CN HG
  obtain ⟨u0,u1,u2,u3,u4,u5,u6,u7⟩:=zq (uH P0)
  go_enter Tryz.func24,Tryz.ntmps24
  go_wp2_with fail
  refine (uH CN).mono ?_
  rintro e w2 ⟨rfl,hb⟩
  have hb3:=yA (yH _ w2) (.cells #[.int .i64 0,.int .i64 0,.string (bs []),.int .i64 0,.int .i64 0] 38)
  have H3:=aA (((uH H1).below hb).below hb3)
  have X3:=aA (((uH P0).below hb).below hb3)
  have Q1:=aA (((uH P1).below hb).below hb3)
  have Q2:=aA (((uH P2).below hb).below hb3)
  have B3:=aA (show Kc B w.heap.size none 0 w _ from Kc.of (yB (yB (uH B1) hb) hb3) hBw)
  have hz3:B≤w2.heap.size:=by have:=hb.size;rw [hz1] at this;omega
  clear u0 u1 u2 u3 u4 u5 u6 u7 hb hb3 CN H1 P0 P1 P2 B1 hz1
  go_upto_region 3 with fail
  have hz4:B≤(w2.alloc (.cells #[.int .i64 0,.int .i64 0,.string (bs []),.int .i64 0,.int .i64 0] 38)).heap.size:=by rw [yE];omega
  generalize w2.alloc (.cells #[.int .i64 0,.int .i64 0,.string (bs []),.int .i64 0,.int .i64 0] 38)=w3 at H3 X3 Q1 Q2 B3 hz4 ⊢
  refine wp_region_lit ?_
  refine cO (v:=sv y s) (d:=some 20) rfl rfl (mI (nX (uH X3) rfl)) ?_
  simp only [zW]
  refine cO (v:=.agg #[.int .i64 0,.int .i64 0,.string ⟨#[]⟩,.int .i64 0,.int .i64 0]) (d:=some 21) rfl rfl (by refine mI ?_;simp only [List.map_toArray,List.map_nil];kernel_rfl) ?_
  simp only [zW]
  refine eF (d:=none) rfl rfl (rW (lU 34 (arr:=svc y s) (uH Q1) (by kernel_rfl) rfl (by kernel_rfl))) ?_
  simp only [Act.put]
  have M5:=kD (uH Q1) (svc y s) rfl
  have R5:=aA (jG (uH Q1) (svc y s))
  have Q5:=aA (M5.blk (uH Q2) (by omega))
  have H5:=aA ((uH H3).other M5 (uH Q1))
  have B5:=aA ((uH B3).trans (Kc.mks M5 (fun k e=>by subst e;omega) hz4 (fun k arr hk _ e=>by omega)))
  have hz5:B≤(World.setRow w3 (w.heap.size+1) (svc y s)).heap.size:=Nat.le_trans hz4 M5.size
  clear M5 Q1 Q2 H3 X3 B3
  generalize World.setRow w3 (w.heap.size+1) (svc y s)=w5 at R5 Q5 H5 B5 hz5 ⊢
  refine eF (d:=none) rfl rfl (rW (lU 38 (arr:=#[.int .i64 0,.int .i64 0,.string ⟨#[]⟩,.int .i64 0,.int .i64 0]) (uH Q5) (by kernel_rfl) rfl (by kernel_rfl))) ?_
  simp only [Act.put]
  have M6:=kD (uH Q5) #[.int .i64 0,.int .i64 0,.string ⟨#[]⟩,.int .i64 0,.int .i64 0] rfl
  have R6:=aA (M6.blk (uH R5) (by omega))
  have T6:=aA (jG (uH Q5) #[.int .i64 0,.int .i64 0,.string ⟨#[]⟩,.int .i64 0,.int .i64 0])
  have H6:=aA ((uH H5).offc M6 ⟨_,uH Q5,rfl⟩ (fun hc o e=>by obtain ⟨g,e2,hg⟩:=uH hlow hc;rw [e2] at e;cases e;omega))
  have B6:=aA ((uH B5).trans (Kc.mks M6 (fun k e=>by subst e;omega) hz5 (fun k arr hk _ e=>by omega)))
  clear M6 R5 Q5 H5 B5
  generalize World.setRow w5 (w.heap.size+1+1) #[.int .i64 0,.int .i64 0,.string ⟨#[]⟩,.int .i64 0,.int .i64 0]=w6 at R6 T6 H6 B6 ⊢
  have HA:=aA (show aJi B y hs s nd w (.returned (.tuple #[sv y s,conv ⟨0,0,[],0,0⟩,.bool false])) w6 from (uH HG _ _).2 ⟨y,hs,rfl,uH H6,uH HCA,uH B6,fun _=>⟨rfl,rfl⟩,fun g e hc _=>⟨hc,e⟩⟩)
  obtain ⟨z0,z1,z2,z3,z4,z5,z6,z7⟩:=zq (uH R6)
  obtain ⟨r0,r1,r2,r3,r4⟩:=zp (uH T6)
  clear R6 T6 H6 B6 HG
  go_wp2
  refine bodyPost_ret (v:=.tuple #[sv y s,conv ⟨0,0,[],0,0⟩,.bool false]) (by simp [results,Tryz.results24,go_sem,z0,z1,z2,z3,z4,z5,z6,z7,r0,r1,r2,r3,r4];try rfl) rfl ?_
  exact uH HA
 | some p=>
  obtain ⟨⟨i,k⟩,c⟩:=p
  obtain ⟨-,-,hcl,hi,hk,hce⟩:=uH HFC _ rfl
  simp only at hi hk hce
  have hih:i<hs.length:=by rw [(uH H1).k.heads.1];exact hi
  have hpa:∃pg,y.aa=some ⟨pg,0,none⟩:=by
   rcases (uH H1).p.2 with e | ⟨g,M,e,_⟩
   ·have h1:=(uH H1).p.1.1;omega
   ·exact ⟨g,e⟩
  obtain ⟨pg,hpa⟩:=hpa
  have i1:(i:Int)<y.al:=by have h1:=(uH H1).p.1.1;omega
  have i0':(0:Int)≤i:=by omega
  have hcnt:=aDN hok hi hk
  obtain ⟨-,-,hrow,-⟩:=(uH H1).k.heads.2 i hih hi
  have hln:hs[i].len=s.apps[i].asks.length:=hrow.1
  obtain ⟨ga,hga⟩:∃g,hs[i].ao=some ⟨g,0,none⟩:=by
   rcases (uH H1).k.own _ (yM hih) with e | ⟨g,M,e,_⟩
   ·omega
   ·exact ⟨g,e⟩
  rw [hga] at hrow
  have hp1:=(uH H1).p
  rw [hpa] at hp1
  obtain ⟨Mp,-,-,hplay,-,-⟩:=hp1.lay (by have:=hp1.1.1;omega)
  have c2:=hplay.cell (kC hs i hih).2.2
  rw [hga] at c2
  have hfl:s.apps[i].asks.length≤1048576:=(hf.2.1.2 _ (yM hi)).2.1
  have CSW:=aA (fun wx wy ao' n' c' (hx:dR B wx y s hs) (hBx:B≤wx.heap.size) (hb:Below wx.heap.size wx wy) (hr:aO wy ao' n' (gB s.apps[i].asks k)) (ho:dU wx.heap.size wy.heap.size wy 77 5 ao' n') (hoc:dU wx.heap.size wy.heap.size wy 77 5 ao' c') (hc:n'≤c')=>hx.swap (k:=k) hBx hpa hi hb hr ho hoc hc)
  have HMO:=aA (fun hc=>vW hk hc)
  have HLA:=aA (fun hc=>vX hk hc)
  have HAS:=aA (fun l=>sZ l k)
  obtain ⟨ct,hct⟩:∃x,s.apps[i].asks[k].count=x:=⟨_,rfl⟩
  have HLS:=aA (show aJS s.apps[i].asks[k]=⟨s.apps[i].asks[k].mem,s.apps[i].asks[k].cpu,ct - 1,s.apps[i].asks[k].node,s.apps[i].asks[k].missed⟩ by rw [←hct];rfl)
  have HCT:=aA (show (aK s.apps[i].asks)[k*5+2]? = some (.int .i64 ct) by rw [←hct];exact (lW s.apps[i].asks k hk).2.2.1)
  rw [hct] at HMO HLA hcnt
  obtain ⟨n,hn⟩:∃n,hs[i].len=n:=⟨_,rfl⟩
  obtain ⟨cap0,hcap0⟩:∃n,hs[i].cap=n:=⟨_,rfl⟩
  rw [hn] at hrow hln c2
  rw [hcap0] at c2
  have HAK:=aA (show k<s.apps[i].asks.length from hk)
  obtain ⟨c0,c1,cn,c3,c4⟩:=c
  simp only [atS,rJ,Option.isSome_some] at CN HG
  have hcm:y.cl≤1048576:=by have h1:=(uH H1).c.1.1;omega
  have kn:k<n:=by omega
  have RK1:=aA hrow
  have HC2:=aA c2
  have HPA:=aA hpa
  obtain ⟨ak,hak⟩:∃a,s.apps[i].asks=a:=⟨_,rfl⟩
  have HLN:=aA hln
  have HAKE:=aA hak
  have hnn:n≤1048576:=by omega
  clear hln hak hfl c2 hrow hp1 hplay hga hih hce HFC hf hpa hct hcap0 hn
  obtain ⟨u0,u1,u2,u3,u4,u5,u6,u7⟩:=zq (uH P0)
  go_enter Tryz.func24,Tryz.ntmps24
  go_wp2_with fail
  refine (uH CN).mono ?_
  rintro e w2 ⟨rfl,hb⟩
  have hb3:=yA (yH _ w2) (.cells #[.int .i64 c0,.int .i64 c1,.string (bs cn),.int .i64 c3,.int .i64 c4] 38)
  have H3:=aA (((uH H1).below hb).below hb3)
  have X3:=aA (((uH P0).below hb).below hb3)
  have Q1:=aA (((uH P1).below hb).below hb3)
  have Q2:=aA (((uH P2).below hb).below hb3)
  have RK3:=aA (((uH RK1).below hb).below hb3)
  have D3:=aA (show (w2.alloc (.cells #[.int .i64 c0,.int .i64 c1,.string (bs cn),.int .i64 c3,.int .i64 c4] 38)).cell? ⟨pg,i*3+2,none⟩=_ from (hb3.cell (yG ((hb.cell (yG (uH HC2))).trans (uH HC2)))).trans ((hb.cell (yG (uH HC2))).trans (uH HC2)))
  have G7:=aA (yD w2 #[.int .i64 c0,.int .i64 c1,.string (bs cn),.int .i64 c3,.int .i64 c4] 38)
  have B3:=aA (yB (yB (uH B1) hb) hb3)
  have hz3:w.heap.size+1+1+1≤w2.heap.size:=by have:=hb.size;rw [hz1] at this;omega
  clear u0 u1 u2 u3 u4 u5 u6 u7 hb hb3 CN H1 P0 P1 P2 B1 hz1 RK1 HC2
  go_upto_region 4 with fail
  have hz4:w2.heap.size<(w2.alloc (.cells #[.int .i64 c0,.int .i64 c1,.string (bs cn),.int .i64 c3,.int .i64 c4] 38)).heap.size:=by rw [yE];omega
  generalize w2.alloc (.cells #[.int .i64 c0,.int .i64 c1,.string (bs cn),.int .i64 c3,.int .i64 c4] 38)=w3 at H3 X3 Q1 Q2 RK3 D3 G7 B3 hz4 ⊢
  generalize w2.heap.size=g7 at G7 hz3 hz4 ⊢
  obtain ⟨i0,hi0,hz0,hzz1,hz2⟩:=info_parts Tryz.infoA
  have hbe:=yA (yH _ w3) (.cells #[] 77)
  have hll:(aK s.apps[i].asks).length=n*5:=by rw [aU,uH HLN]
  have hone:=iR s.apps[i].asks
  have HNW:=aA (show ∀j u,(aK s.apps[i].asks)[j]? = some u→(w3.alloc (.cells #[] 77)).cell? ((⟨ga,0,none⟩:Addr).add j)=some u from fun j u hj=>by
   rw [Lib.add_plain]
   exact oN ((uH RK3).below hbe) j u hj)
  have hown:=sW w3
  rw [uH HAKE] at hll hone HNW
  have x5:=((uH X3).below hbe).at 5
  simp at x5
  rw [uH HPA] at x5
  have d3:=(hbe.cell (yG (uH D3))).trans (uH D3)
  go_wp2_with (at_builtin;refine wpList_append_own _ rfl _ _ 72 rfl w3.heap.size 77 i0 (.agg #[.int .i64 0,.int .i64 0,.int .i64 0,.string ByteArray.empty,.int .i64 0]) 5 48 Tryz.underlying72 hi0 hz0 hzz1 hz2 rfl (by decide) _ _ _ rfl hown ⟨ga,0,none⟩ n cap0 (aK ak) rfl hll (uH HNW) hone ?c3 ?c4 ?c5 ?_)
  case c3=>unfold maxLen;omega
  case c4=>omega
  case c5=>simp
  intro v' w4 hown' hgrow _
  have hbB:Below w3.heap.size w3 w4:=hbe.grown hgrow (by simp) (fun k e=>by simp [Value.ownBlock] at e;omega)
  have hoo:tH w3.heap.size w4 v' s.apps[i].asks:=by
   unfold tH
   rw [←uH HLN,uH HAKE]
   simpa using hown'
  obtain ⟨ao,cap,rfl,hnc,hr4,ho4⟩:=vJ hoo
  obtain ⟨g10,M10,rfl,hg10,hgl10,hcel10,hM10⟩:∃g M,ao=some ⟨g,0,none⟩∧w3.heap.size≤g∧g<w4.heap.size∧Cel w4 77 g (M*5)∧cap≤M:=by
   rcases iN hoo with e | e
   ·rw [←uH HLN] at hnc;omega
   ·exact e
  rw [←uH HLN] at hr4 hnc
  have HLAY:=aA (hr4.lay hcel10 (Nat.mul_le_mul_right _ (by rw [←uH HLN];omega)))
  have HRW:=aA (fun (l':List Ask) (w':World) (hl':Lay w' 77 g10 (M10*5) (aK l'))=>hl'.rowA)
  have BA:=aA hbB
  clear hown hown' hgrow hoo hr4 ho4 hbe hll hone HNW x5 d3 D3 hi0 hz0 hzz1 hz2 hbB RK3
  have ck:=(uH HLAY).cell (uH HCT)
  have fk:=(uH HLAY).frozen (k*5+2)
  have k0:(0:Int)≤k:=by omega
  have k1:(k:Int)<n:=by omega
  have hwc:IntKind.i64.wrap (ct - 1)=ct - 1:=by rw [IntKind.wrap_i64];omega
  have hwk:IntKind.i64.wrap ((k:Int)+1)=(k:Int)+1:=by rw [IntKind.wrap_i64];omega
  rw [←uH HLN]
  go_upto_if 35 with fail
  go_cut [10] from 30 to 55 (fun v10 wx=>∃ao n' c',v10=.slice ao n' c'∧Hid (aO wx ao n' (gB s.apps[i].asks k))∧Hid (dU w3.heap.size wx.heap.size wx 77 5 ao n')∧Hid (dU w3.heap.size wx.heap.size wx 77 5 ao c')∧n'≤c'∧Hid (Below w3.heap.size w3 wx))
  case first=>
   by_cases hc:1<ct
   ·have HLM:=aA (aBU (uH HLAY) (p:=k*5+2) (by rw [aU,←uH HLN];omega) (.int .i64 (ct - 1)))
    have HMM:=aA (Mks.one (fun q=>q=g10) w4 g10 (k*5+2) (.int .i64 (ct - 1)) rfl)
    have HCC:=aA hc
    go_wp2_with fail
    go_meet
    refine ⟨some ⟨g10,0,none⟩,n,cap,rfl,aA ?_,aA ?_,aA ?_,by omega,aA ?_⟩
    ·have h1:=uH HLM
     rw [←uH HAS _ (uH HAK) (ct - 1)] at h1
     have h2:=h1.rowA
     rw [List.length_set] at h2
     rw [uH HMO (uH HCC),uH HLS,uH HLN]
     exact h2
    ·exact .inr ⟨g10,M10,rfl,hg10,by rw [bG];exact hgl10,(uH HMM).cel _ _ _ hcel10,by omega⟩
    ·exact .inr ⟨g10,M10,rfl,hg10,by rw [bG];exact hgl10,(uH HMM).cel _ _ _ hcel10,hM10⟩
    ·exact yC (uH BA) _ _ _ hg10
   ·have HLL:=aA (uH HLA (by omega))
    go_upto_region 7 with fail
    obtain ⟨i0,hi0,hz0,hzz1,hz2⟩:=info_parts Tryz.infoA
    have hlo:=aKb g10 n cap k (by omega)
    have hhi:∀wx:World,(Instr.slice 72 (.slice (some ⟨g10,0,none⟩) n cap) (some (.int .i64 ((k:Int)+1))) none none).run Tryz.prog wx=.ok (.slice (some (hiA g10 cap (k+1) 5)) (n - (k+1)) (cap - (k+1))) wx:=fun wx=>by
     have:=aKc g10 n cap (k+1) (by omega) wx
     rwa [show (((k+1:Nat)):Int)=(k:Int)+1 by omega] at this
    obtain ⟨NC1,hc1⟩:∃c,aK (s.apps[i].asks.take k)=c:=⟨_,rfl⟩
    obtain ⟨NC2,hc2⟩:∃c,aK (s.apps[i].asks.drop (k+1))=c:=⟨_,rfl⟩
    have HL1:=aA (show NC1.length=k*5 by rw [←hc1,aU,List.length_take,Nat.min_eq_left (by have:=uH HLN;omega)])
    have HL2:=aA (show NC2.length=(n - (k+1))*5 by rw [←hc2,aU,List.length_drop,←uH HLN])
    have hsp1:aK s.apps[i].asks=NC1++aK (s.apps[i].asks.drop k):=by rw [←hc1,←eH,List.take_append_drop]
    have hsp2:aK s.apps[i].asks=aK (s.apps[i].asks.take (k+1))++NC2:=by rw [←hc2,←eH,List.take_append_drop]
    have HLO:=aA (show ∀wx:World,Kp w4 wx→∀j u,NC1[j]? = some u→wx.cell? (Addr.add ⟨g10,0,none⟩ j)=some u from fun wx hb j u hu=>by
     rw [Lib.add_plain,Nat.zero_add]
     refine ((uH HLAY).below hb).cell ?_
     rw [hsp1,List.getElem?_append_left (List.getElem?_eq_some_iff.1 hu).1]
     exact hu)
    have HHI:=aA (show ∀wx:World,Kp w4 wx→∀j u,NC2[j]? = some u→wx.cell? (Addr.add (hiA g10 cap (k+1) 5) j)=some u from fun wx hb j u hu=>by
     have hlt:=(List.getElem?_eq_some_iff.1 hu).1
     rw [uH HL2] at hlt
     rw [aHr (by omega)]
     refine ((uH HLAY).below hb).cell ?_
     have hl1:(aK (s.apps[i].asks.take (k+1))).length=(k+1)*5:=by rw [aU,List.length_take,Nat.min_eq_left (by have:=uH HLN;omega)]
     rw [hsp2,List.getElem?_append_right (by rw [hl1];omega),hl1,Nat.add_sub_cancel_left]
     exact hu)
    have HO1:=aA (show ∀u ∈ NC1,u.oneCell'=true by rw [←hc1];exact iR _)
    have HO2:=aA (show ∀u ∈ NC2,u.oneCell'=true by rw [←hc2];exact iR _)
    have HER:=aA (show NC1++NC2=aK (s.apps[i].asks.eraseIdx k) by rw [uQ _ _ (uH HAK),hc1,hc2])
    clear hc1 hc2 hsp1 hsp2
    refine wp_region_held_drew (S:=fun wx=>Kp w4 wx) (by kernel_rfl) ((dE w4).drew (Kp.new w4)) (fun S0=>?_)
    generalize w4.drew=wn at S0 ⊢
    refine tW 1 47 _ S0 ?_
    try simp only [zW]
    refine tW 2 48 _ S0 ?_
    try simp only [zW]
    refine fP 3 49 (.slice (some ⟨g10,0,none⟩) k cap) rfl rfl S0 ?_ (hy:=Or.inl ⟨by rfl,fun wz hz=>mI (hlo wz)⟩)
    try simp only [zW]
    refine tW 5 51 _ S0 ?_
    try simp only [zW]
    refine tW 6 52 _ S0 ?_
    try simp only [zW]
    refine tW 7 53 (.int .i64 ((k:Int)+1)) S0 ?_
    try simp only [zW]
    refine fP 8 54 (.slice (some (hiA g10 cap (k+1) 5)) (n - (k+1)) (cap - (k+1))) rfl rfl S0 ?_ (hy:=Or.inl ⟨by rfl,fun wz hz=>mI (hhi wz)⟩)
    try simp only [zW]
    have IR:=mU (E:=77) (sz:=5) S0
    refine wpAnyH_ready (rs:=[0]) (by kernel_rfl) (by simp) (AllReadyH.cons rfl (fun K hK=>?_) AllReadyH.nil)
    go_simp
    go_wp2_with fail
    have S1:Kp w4 _:=yA S0 (.cells #[] 77)
    clear S0
    refine hK.out _ _ S1 (fun S0=>?_)
    clear hK K S1
    try simp only [zW]
    generalize wn.alloc (.cells #[] 77)=wa at S0 IR ⊢
    generalize wn.heap.size=g0 at IR ⊢
    refine wpAnyH_ready (rs:=[4]) (by kernel_rfl) (by simp) (AllReadyH.cons rfl (fun K hK=>?_) AllReadyH.nil)
    refine iC (w1:=w4) rfl (.tmp 46) (.tmp 49) 72 rfl 77 i0 (.agg #[.int .i64 0,.int .i64 0,.int .i64 0,.string ByteArray.empty,.int .i64 0]) 5 48 Tryz.underlying72 hi0 hz0 hzz1 hz2 rfl (by decide) (.slice (some ⟨g0,0,none⟩) 0 0) 0 [] rfl IR S0 ⟨g10,0,none⟩ k cap NC1 rfl (uH HL1) (fun j u hu=>uH HLO _ S0 j u hu) (uH HO1) (by unfold maxLen;omega) (by omega) ?_
    intro v1 wb hr1 kp1 _
    show K (Act.put _ (some 50) v1) wb
    clear S0 IR
    refine hK.out _ _ kp1 (fun S0=>?_)
    clear hK K kp1
    try simp only [zW]
    refine wpAnyH_ready (rs:=[9]) (by kernel_rfl) (by simp) (AllReadyH.cons rfl (fun K hK=>?_) AllReadyH.nil)
    refine iC (w1:=w4) rfl (.tmp 50) (.tmp 54) 72 rfl 77 i0 (.agg #[.int .i64 0,.int .i64 0,.int .i64 0,.string ByteArray.empty,.int .i64 0]) 5 48 Tryz.underlying72 hi0 hz0 hzz1 hz2 rfl (by decide) v1 (0+k) ([]++NC1) rfl hr1 S0 (hiA g10 cap (k+1) 5) (n - (k+1)) (cap - (k+1)) NC2 rfl (uH HL2) (fun j u hu=>uH HHI _ S0 j u hu) (uH HO2) (by unfold maxLen;omega) (by omega) ?_
    intro v2 wd hr2 kp2 _
    show K (Act.put _ (some 55) v2) wd
    clear S0 hr1
    refine hK.out _ _ kp2 (fun S0=>?_)
    clear hK K kp2
    try simp only [zW]
    refine tW 10 10 _ S0 ?_
    try simp only [zW]
    refine wpAnyH_done (by kernel_rfl) ?_ _
    have hao:tH w4.heap.size wd v2 (s.apps[i].asks.eraseIdx k):=by
     unfold tH
     have h1:=hr2.1
     rw [List.nil_append,uH HER] at h1
     rw [List.length_eraseIdx_of_lt (uH HAK),←uH HLN,show n - 1=0+k+(n - (k+1)) by omega]
     exact h1
    obtain ⟨ao,cp,rfl,hcp,hrw,how⟩:=vJ hao
    have HOC:=aA (iN hao)
    have HRW2:=aA hrw
    have HOW:=aA how
    have BD:=aA (yB (uH BA) S0)
    have hz34:w3.heap.size≤w4.heap.size:=(uH BA).size
    obtain ⟨n',hn'⟩:∃n',(s.apps[i].asks.eraseIdx k).length=n':=⟨_,rfl⟩
    rw [hn'] at HRW2 HOW hcp ⊢
    clear hao hr2 S0 hrw how hn'
    go_wp2_with fail
    go_meet
    refine ⟨ao,n',cp,rfl,aA ?_,aA ((uH HOW).mono hz34 (yJ _)),aA ((uH HOC).mono hz34 (yJ _)),hcp,BD⟩
    rw [uH HLL]
    exact uH HRW2
  case rest=>
   obtain ⟨ao,n',c',rfl,RW,OW,OC,hnc',hbz⟩:=hcut
   obtain ⟨w5,rfl⟩:∃z,z=wc:=⟨_,rfl⟩
   have hBw3:B≤w3.heap.size:=by omega
   obtain ⟨hs5,h5,hm5,hBp,hpl,N5,hcel5,hN5⟩:=uH CSW w3 w5 ao n' c' (uH H3) hBw3 (uH hbz) (uH RW) (uH OW) (uH OC) hnc'
   have hne:∀{b:Nat} {arr:Array Value} {t:TypeId},Blk w5 b arr t→t≠74→¬b=pg:=fun hb ht e=>by subst e;exact ht (Cel.type ⟨_,hb,rfl⟩ hcel5)
   have hb5:=uH hbz
   have X5:=aA ((uH X3).below hb5)
   have Q15:=aA ((uH Q1).below hb5)
   have Q25:=aA ((uH Q2).below hb5)
   have G75:=aA ((uH G7).below hb5)
   have B5:=aA (Kc.of (W:=w.heap.size) (ca:=none) (cc:=0) (yB (uH B3) hb5) hBw)
   have hz5:B≤w5.heap.size:=Nat.le_trans hBw3 hb5.size
   have H6:=aA h5
   have X6:=aA (hm5.blk (uH X5) (hne (uH X5) (by decide)))
   have Q16:=aA (hm5.blk (uH Q15) (hne (uH Q15) (by decide)))
   have Q26:=aA (hm5.blk (uH Q25) (hne (uH Q25) (by decide)))
   have G76:=aA (hm5.blk (uH G75) (hne (uH G75) (by decide)))
   have B6:=aA ((uH B5).trans (Kc.mks hm5 (fun k e=>by subst e;exact hBp) hz5 (fun k arr _ hb e=>absurd e (hne hb (by decide)))))
   obtain ⟨old,hold⟩:=Option.isSome_iff_exists.1 (hcel5.isThere (j:=i*3+2) hN5)
   have fp:=hcel5.frozen (i*3+2)
   have x5:=(uH X5).at 5
   simp at x5
   rw [uH HPA] at x5
   have hz6:B≤(w5.setCell ⟨pg,i*3+2,none⟩ (.slice ao n' c')).heap.size:=by rw [bG];exact hz5
   clear h5 hm5 hne hb5 hbz X5 Q15 Q25 G75 B5 H3 X3 Q1 Q2 G7 B3 RW OW OC CSW HMO HLA HLS HCT HLAY HRW BA ck fk HAS
   go_upto_region 9 with fail
   clear x5 hold fp
   generalize w5.setCell ⟨pg,i*3+2,none⟩ (.slice ao n' c')=w6 at H6 X6 Q16 Q26 G76 B6 hz6 ⊢
   obtain ⟨gc,hgc⟩:=uH HCA
   have x7:=(uH X6).at 7
   simp at x7
   rw [hgc] at x7
   have HGC:=aA hgc
   clear hgc
   obtain ⟨q0,q1,q2,q3,q4⟩:=zp (uH G76)
   go_wp2_with fail
   refine (aGI gc y.cl y.cc s.cs ⟨c0,c1,cn,c3,c4⟩ _ (by have h1:=(uH H6).c.1;rw [uH HGC] at h1;exact h1) (uH H6).cap.c hcm).mono ?_
   rintro e w7 ⟨v,rfl,HOW,HNE,BB⟩
   clear q0 q1 q2 q3 q4 x7
   obtain ⟨co,cd,rfl,hcd,hch⟩:=aBa (uH HOW)
   obtain ⟨g9,rfl⟩:∃g,co=some ⟨g,0,none⟩:=by
    rcases (uH HOW).2 with ⟨e,_⟩ | ⟨g,cap,cur,e,_⟩
    ·exact absurd e (uH HNE)
    ·cases e;exact ⟨g,rfl⟩
   have hw67:=(uH BB).size
   have H7:=aA (((uH H6).below (uH BB)).conts (hch.base (by omega)) hcd ((iN (uH HOW)).mono (by omega) (yJ _)))
   have X7:=aA ((uH X6).below (uH BB))
   have Q17:=aA ((uH Q16).below (uH BB))
   have Q27:=aA ((uH Q26).below (uH BB))
   have G77:=aA ((uH G76).below (uH BB))
   have B7:=aA ((uH B6).trans (Kc.of (uH BB) hz6))
   have hz7:B≤w7.heap.size:=Nat.le_trans hz6 hw67
   obtain ⟨n9,hn9⟩:∃m,(mE s.cs ⟨c0,c1,cn,c3,c4⟩).length=m:=⟨_,rfl⟩
   rw [hn9] at H7 ⊢
   have x7:=(uH X7).at 7
   simp at x7
   have f7:=(uH X7).f 7
   have hgw:w.heap.size≤g9:=by
    have:=(uH HOW).2
    rcases this with ⟨e2,_⟩ | ⟨g,cap,cur,e2,h2,_⟩
    ·cases e2
    ·cases e2
     have:=(uH Q26).lt
     omega
   have hgo:g9≠w.heap.size+1+1:=fun e=>by
    have:=(uH HOW).2
    rcases this with ⟨e2,_⟩ | ⟨g,cap,cur,e2,h2,_⟩
    ·cases e2
    ·cases e2
     have:=(uH Q26).lt
     omega
   clear HOW HNE BB hcd hch hn9 H6 X6 Q16 Q26 G76 B6 hz6 hw67
   go_upto_region 10 with fail
   have M8:=Mks.one (fun q=>q=w.heap.size) w7 w.heap.size 7 (.slice (some ⟨g9,0,none⟩) n9 cd) rfl
   have X8:=aA (show Blk _ w.heap.size (svc ⟨y.qa,y.ql,y.qc,y.aa,y.al,y.ac,y.ma,y.ml,y.mc,some ⟨g9,0,none⟩,n9,cd⟩ s) 34 from (uH X7).set 7 (.slice (some ⟨g9,0,none⟩) n9 cd))
   have H8:=aA ((uH H7).other M8 (uH X7))
   have Q18:=aA (M8.blk (uH Q17) (by omega))
   have Q28:=aA (M8.blk (uH Q27) (by omega))
   have G78:=aA (M8.blk (uH G77) (by omega))
   have B8:=aA ((uH B7).trans (Kc.mks M8 (fun k e=>by subst e;exact hBw) hz7 (fun k arr hk _ e=>by omega)))
   have hz8:B≤(w7.setCell ⟨w.heap.size,7,none⟩ (.slice (some ⟨g9,0,none⟩) n9 cd)).heap.size:=by rw [bG];exact hz7
   clear x7 f7 M8 X7 H7 Q17 Q27 G77 B7 hz7
   generalize w7.setCell ⟨w.heap.size,7,none⟩ (.slice (some ⟨g9,0,none⟩) n9 cd)=w8 at X8 H8 Q18 Q28 G78 B8 hz8 ⊢
   have x4:=(uH X8).at 4
   simp at x4
   have fx4:=(uH X8).f 4
   have hse:=uH HSE
   have hws:IntKind.i64.wrap (s.serial+1)=s.serial+1:=by rw [IntKind.wrap_i64];omega
   go_upto_region 11 with fail
   have X9:=aA ((uH X8).set 4 (.int .i64 (s.serial+1)))
   have M9:=aA (Mks.one (fun q=>q=w.heap.size) w8 w.heap.size 4 (.int .i64 (s.serial+1)) rfl)
   clear x4 fx4
   generalize w8.setCell ⟨w.heap.size,4,none⟩ (.int .i64 (s.serial+1))=w9 at X9 M9 ⊢
   have x4:=(uH X9).at 4
   simp at x4
   have fx4:=(uH X9).f 4
   go_upto_if 73 with fail
   go_cut [71] from 72 to 74 (fun v71 wx=>Hid (Blk wx w.heap.size (svc ⟨y.qa,y.ql,y.qc,y.aa,y.al,y.ac,y.ma,y.ml,y.mc,some ⟨g9,0,none⟩,n9,cd⟩ ⟨s.qs,s.clock,s.epoch,s.next,dC s.serial,bL s.apps (i,k),s.ms,mE s.cs ⟨c0,c1,cn,c3,c4⟩⟩) 34∧Mks (fun q=>q=w.heap.size) w8 wx))
   case first=>
    by_cases hs9:99999<s.serial+1
    ·go_wp2_with fail
     go_meet
     refine aA ⟨?_,(uH M9).trans (Mks.one (fun q=>q=w.heap.size) w9 w.heap.size 4 (.int .i64 1) rfl)⟩
     have:=(uH X9).set 4 (.int .i64 1)
     simp only [dC]
     rw [if_pos (by omega)]
     exact this
    ·go_wp2_with fail
     go_meet
     refine aA ⟨?_,uH M9⟩
     simp only [dC]
     rw [if_neg (by omega)]
     exact uH X9
   case rest=>
    obtain ⟨w10,rfl⟩:∃z,z=wc:=⟨_,rfl⟩
    have XA:=aA (uH hcut).1
    have HA0:=aA (((uH H8).other (uH hcut).2 (uH X8)).nums (s':=⟨s.qs,s.clock,s.epoch,s.next,dC s.serial,bL s.apps (i,k),s.ms,mE s.cs ⟨c0,c1,cn,c3,c4⟩⟩) rfl rfl rfl rfl)
    have Q1A:=aA ((uH hcut).2.blk (uH Q18) (by omega))
    have Q2A:=aA ((uH hcut).2.blk (uH Q28) (by omega))
    have G7A:=aA ((uH hcut).2.blk (uH G78) (by omega))
    have BA:=aA ((uH B8).trans (Kc.mks (uH hcut).2 (fun k e=>by subst e;exact hBw) hz8 (fun k arr hk _ e=>by omega)))
    have hzA:B≤w10.heap.size:=Nat.le_trans hz8 (uH hcut).2.size
    clear hcut X8 H8 Q18 Q28 G78 B8 hz8 X9 M9 x4 fx4 hws
    go_upto_region 13 with fail
    refine wp_region_held_drew (S:=fun wx=>Blk wx w.heap.size (svc ⟨y.qa,y.ql,y.qc,y.aa,y.al,y.ac,y.ma,y.ml,y.mc,some ⟨g9,0,none⟩,n9,cd⟩ ⟨s.qs,s.clock,s.epoch,s.next,dC s.serial,bL s.apps (i,k),s.ms,mE s.cs ⟨c0,c1,cn,c3,c4⟩⟩) 34∧Blk wx g7 #[.int .i64 c0,.int .i64 c1,.string (bs cn),.int .i64 c3,.int .i64 c4] 38) (by kernel_rfl) ⟨(uH XA).drew,(uH G7A).drew⟩ (fun S0=>?_)
    have HB:=aA ((uH HA0).below (yH _ w10).drew)
    have Q1B:=aA (uH Q1A).drew
    have Q2B:=aA (uH Q2A).drew
    have BB:=aA ((uH BA).trans (Kc.of (yH _ w10).drew hzA))
    have hzB:B≤w10.drew.heap.size:=hzA
    clear XA HA0 Q1A Q2A G7A BA hzA
    generalize w10.drew=wn at S0 HB Q1B Q2B BB hzB ⊢
    refine fP 0 75 (sv ⟨y.qa,y.ql,y.qc,y.aa,y.al,y.ac,y.ma,y.ml,y.mc,some ⟨g9,0,none⟩,n9,cd⟩ ⟨s.qs,s.clock,s.epoch,s.next,dC s.serial,bL s.apps (i,k),s.ms,mE s.cs ⟨c0,c1,cn,c3,c4⟩⟩) rfl rfl S0 ?_ (hy:=Or.inl ⟨by rfl,fun wz hz=>mI (nX hz.1 rfl)⟩)
    try simp only [zW]
    refine fP 1 76 (conv ⟨c0,c1,cn,c3,c4⟩) rfl rfl S0 ?_ (hy:=Or.inl ⟨by rfl,fun wz hz=>mI (rG hz.2 rfl)⟩)
    try simp only [zW]
    have M7:=kD (uH Q1B) (svc ⟨y.qa,y.ql,y.qc,y.aa,y.al,y.ac,y.ma,y.ml,y.mc,some ⟨g9,0,none⟩,n9,cd⟩ ⟨s.qs,s.clock,s.epoch,s.next,dC s.serial,bL s.apps (i,k),s.ms,mE s.cs ⟨c0,c1,cn,c3,c4⟩⟩) rfl
    have S1:=And.intro (M7.blk S0.1 (by omega)) (M7.blk S0.2 (by omega))
    have R7:=aA (jG (uH Q1B) (svc ⟨y.qa,y.ql,y.qc,y.aa,y.al,y.ac,y.ma,y.ml,y.mc,some ⟨g9,0,none⟩,n9,cd⟩ ⟨s.qs,s.clock,s.epoch,s.next,dC s.serial,bL s.apps (i,k),s.ms,mE s.cs ⟨c0,c1,cn,c3,c4⟩⟩))
    have H7:=aA ((uH HB).other M7 (uH Q1B))
    have Q7:=aA (M7.blk (uH Q2B) (by omega))
    have B7:=aA ((uH BB).trans (Kc.mks M7 (fun k e=>by subst e;omega) hzB (fun k arr hk _ e=>by omega)))
    have hz7:B≤(World.setRow wn (w.heap.size+1) (svc ⟨y.qa,y.ql,y.qc,y.aa,y.al,y.ac,y.ma,y.ml,y.mc,some ⟨g9,0,none⟩,n9,cd⟩ ⟨s.qs,s.clock,s.epoch,s.next,dC s.serial,bL s.apps (i,k),s.ms,mE s.cs ⟨c0,c1,cn,c3,c4⟩⟩)).heap.size:=Nat.le_trans hzB M7.size
    refine wpAnyH_ready (rs:=[2]) (by kernel_rfl) (by simp) (AllReadyH.cons rfl (fun K hK=>aEm (by rfl) rfl (rW (lU 34 (arr:=svc ⟨y.qa,y.ql,y.qc,y.aa,y.al,y.ac,y.ma,y.ml,y.mc,some ⟨g9,0,none⟩,n9,cd⟩ ⟨s.qs,s.clock,s.epoch,s.next,dC s.serial,bL s.apps (i,k),s.ms,mE s.cs ⟨c0,c1,cn,c3,c4⟩⟩) (uH Q1B) (by kernel_rfl) rfl (by kernel_rfl))) ?_) AllReadyH.nil)
    clear S0
    refine hK.out _ _ S1 (fun S0=>?_)
    clear hK K S1 M7 HB Q1B Q2B BB hzB
    try simp only [zW]
    generalize World.setRow wn (w.heap.size+1) (svc ⟨y.qa,y.ql,y.qc,y.aa,y.al,y.ac,y.ma,y.ml,y.mc,some ⟨g9,0,none⟩,n9,cd⟩ ⟨s.qs,s.clock,s.epoch,s.next,dC s.serial,bL s.apps (i,k),s.ms,mE s.cs ⟨c0,c1,cn,c3,c4⟩⟩)=w11 at S0 R7 H7 Q7 B7 hz7 ⊢
    have M9:=kD (uH Q7) #[.int .i64 c0,.int .i64 c1,.string (bs cn),.int .i64 c3,.int .i64 c4] rfl
    have S1:=And.intro (M9.blk S0.1 (by omega)) (M9.blk S0.2 (by omega))
    have R9:=aA (M9.blk (uH R7) (by omega))
    have T9:=aA (jG (uH Q7) #[.int .i64 c0,.int .i64 c1,.string (bs cn),.int .i64 c3,.int .i64 c4])
    have H9:=aA ((uH H7).offc M9 ⟨_,uH Q7,rfl⟩ (fun _ o e=>by cases e;exact hgo rfl))
    have B9:=aA ((uH B7).trans (Kc.mks M9 (fun k e=>by subst e;omega) hz7 (fun k arr hk _ e=>by omega)))
    refine wpAnyH_ready (rs:=[3]) (by kernel_rfl) (by simp) (AllReadyH.cons rfl (fun K hK=>aEm (by rfl) rfl (rW (lU 38 (arr:=#[.int .i64 c0,.int .i64 c1,.string (bs cn),.int .i64 c3,.int .i64 c4]) (uH Q7) (by kernel_rfl) rfl (by kernel_rfl))) ?_) AllReadyH.nil)
    clear S0
    refine hK.out _ _ S1 (fun S0=>?_)
    clear hK K S1 M9 R7 H7 Q7 B7 hz7
    try simp only [zW]
    generalize World.setRow w11 (w.heap.size+1+1) #[.int .i64 c0,.int .i64 c1,.string (bs cn),.int .i64 c3,.int .i64 c4]=w12 at S0 R9 T9 H9 B9 ⊢
    refine tW 4 6 _ S0 ?_
    try simp only [zW]
    refine wpAnyH_done (by kernel_rfl) ?_ _
    clear S0
    have HA:=aA (show aJi B y hs s nd w (.returned (.tuple #[sv ⟨y.qa,y.ql,y.qc,y.aa,y.al,y.ac,y.ma,y.ml,y.mc,some ⟨g9,0,none⟩,n9,cd⟩ ⟨s.qs,s.clock,s.epoch,s.next,dC s.serial,bL s.apps (i,k),s.ms,mE s.cs ⟨c0,c1,cn,c3,c4⟩⟩,conv ⟨c0,c1,cn,c3,c4⟩,.bool true])) w12 from (uH HG _ _).2 ⟨⟨y.qa,y.ql,y.qc,y.aa,y.al,y.ac,y.ma,y.ml,y.mc,some ⟨g9,0,none⟩,n9,cd⟩,hs5,rfl,uH H9,⟨g9,rfl⟩,uH B9,(fun e=>by cases e),(fun g e _ hg=>by have e2:some (⟨g9,0,none⟩:Addr)=some ⟨g,0,none⟩:=e;cases e2;omega)⟩)
    obtain ⟨z0,z1,z2,z3,z4,z5,z6,z7⟩:=zq (uH R9)
    obtain ⟨r0,r1,r2,r3,r4⟩:=zp (uH T9)
    clear R9 T9 H9 B9 HG
    go_wp2
    refine bodyPost_ret (v:=.tuple #[sv ⟨y.qa,y.ql,y.qc,y.aa,y.al,y.ac,y.ma,y.ml,y.mc,some ⟨g9,0,none⟩,n9,cd⟩ ⟨s.qs,s.clock,s.epoch,s.next,dC s.serial,bL s.apps (i,k),s.ms,mE s.cs ⟨c0,c1,cn,c3,c4⟩⟩,conv ⟨c0,c1,cn,c3,c4⟩,.bool true]) (by simp [results,Tryz.results24,go_sem,z0,z1,z2,z3,z4,z5,z6,z7,r0,r1,r2,r3,r4]) rfl ?_
    exact uH HA
structure GvH (B:Nat) (w:World) (y:Sls) (go:Option Addr) (gn gc:Nat) (l:List Con):Prop where
 row:bC w go gn l
 own:go=none∧gc=0∨∃g M,go=some ⟨g,0,none⟩∧B≤g∧g<w.heap.size∧Cel w 38 g (M*5)∧gc≤M
 cap:gn≤gc
 off:∀g,go=some ⟨g,0,none⟩→y.cc≠0→y.ca≠some ⟨g,0,none⟩
theorem GvH.zero (B:Nat) (w:World) (y:Sls):GvH B w y none 0 0 []:=⟨⟨rfl,.inl rfl⟩,.inl ⟨rfl,rfl⟩,yJ _,fun g e=>by cases e⟩
section
variable {B gn gc:Nat} {w w':World} {y y':Sls} {go:Option Addr} {l:List Con}
theorem GvH.own1 (h:GvH B w y go gn gc l):dU B w.heap.size w 38 5 go gc:=by
 rcases h.own with ⟨_,e⟩ | ⟨g,M,e,h1,h2,h3,h4⟩
 ·exact .inl e
 ·exact .inr ⟨g,M,e,h1,h2,h3,h4⟩
theorem GvH.has (h:GvH B w y go gn gc l):qA B w go gn l:=by
 refine ⟨h.row,?_⟩
 rcases h.own1 with e | ⟨g,M,e,h1,h2,h3,h4⟩
 ·exact .inl (by have:=h.cap;omega)
 ·exact .inr ⟨g,M,e,h1,h2,h3,by have:=h.cap;omega⟩
theorem GvH.mks {S:Nat→Prop} (h:GvH B w y go gn gc l) (hm:Mks S w w') (hs:∀g N,Cel w 38 g N→B≤g→¬S g):GvH B w' y go gn gc l:=by
 refine ⟨h.row.mks hm (fun k hk=>?_),?_,h.cap,h.off⟩
 ·obtain ⟨h1,_,N,hc⟩:=h.has.2.lies k hk
  exact hs k N hc h1
 ·rcases h.own with e | ⟨g,M,e,h1,h2,h3,h4⟩
  ·exact .inl e
  ·exact .inr ⟨g,M,e,h1,Nat.lt_of_lt_of_le h2 hm.size,hm.cel _ _ _ h3,h4⟩
theorem GvH.below (h:GvH B w y go gn gc l) (hb:Below w.heap.size w w'):GvH B w' y go gn gc l:=h.mks (S:=fun _=>False) (.of_below hb) (fun _ _ _ _ h=>h)
theorem GvH.grant {W:Nat} (h:GvH B w y go gn gc l) (hW:W=w.heap.size) (hz:w.heap.size≤w'.heap.size) (hk:Kc B W y.ca y.cc w w') (hca:y.cc≠0→∃g,y.ca=some ⟨g,0,none⟩) (hn:∀g,y'.ca=some ⟨g,0,none⟩→y'.cc≠0→g<W→y.cc≠0∧y.ca=some ⟨g,0,none⟩):GvH B w' y' go gn gc l:=by
 subst hW
 rcases h.own with ⟨rfl,rfl⟩ | ⟨g,M,rfl,h1,h2,h3,h4⟩
 ·have e:gn=0:=by have:=h.cap;omega
  subst e
  have e2:l=[]:=List.length_eq_zero_iff.1 h.row.1.symm
  subst e2
  exact .zero _ _ _
 ·obtain ⟨arr,ha,hl⟩:=h3
  have hb:Blk w' g arr 38:=hk.con g arr h2 ha (fun hc o e=>by
   obtain ⟨g',e'⟩:=hca hc
   rw [e] at e'
   cases e'
   exact h.off g rfl hc e)
  refine ⟨h.row.kept (fun k hk2=>?_),.inr ⟨g,M,rfl,h1,Nat.lt_of_lt_of_le h2 hz,⟨arr,hb,hl⟩,h4⟩,h.cap,fun g2 e hc e2=>?_⟩
  ·obtain ⟨_,o,e⟩:=hk2
   cases e
   exact hb.trans ha.symm
  ·cases e
   obtain ⟨a,b⟩:=hn g e2 hc h2
   exact h.off g rfl a b
theorem GvH.add {g cap:Nat} (h:GvH B w y go gn gc l) (c:Con) (ha:aLY B w 38 5 go (gn+1) (aD l++fG c) g cap w') (hc:y.cc≠0→∃g,y.ca=some ⟨g,0,none⟩∧g<w.heap.size):GvH B w' y (some ⟨g,0,none⟩) (gn+1) cap (l++[c]):=by
 have hcap:gn+1≤cap:=ha.cap
 have hcc:∀m:List Con,aD m++fG c=aD (m++[c]):=fun m=>by
  induction m with
  | nil=>simp [aD]
  | cons x t ih=>rw [List.cons_append,aD,aD,List.append_assoc,ih]
 have hl:gn=l.length:=h.row.1
 refine ⟨⟨by simp [hl],.inr ⟨g,0,rfl,fun i hi=>?_⟩⟩,?_,hcap,fun g2 e hne e2=>?_⟩
 ·have hx:=ha.cells
  rw [hcc] at hx
  obtain ⟨a,b,d,e,f⟩:=nR (l++[c]) i hi
  rw [Nat.zero_add]
  exact ⟨hx _ _ a,hx _ _ b,hx _ _ d,hx _ _ e,hx _ _ f⟩
 ·rcases ha.own with e | ⟨g',M,e,h1,h2,h3,h4⟩
  ·omega
  ·exact .inr ⟨g',M,e,h1,h2,h3,h4⟩
 ·cases e
  rcases ha.pos with ⟨p,_⟩ | ⟨p,_⟩
  ·exact h.off g p hne e2
  ·obtain ⟨g',e',h'⟩:=hc hne
   rw [e2] at e'
   cases e'
   omega
theorem dR.beside {g cap:Nat} {s:St} {hs:List AV} (hS:dR B w y s hs) (h:GvH B w y go gn gc l) (c:Con) (ha:aLY B w 38 5 go (gn+1) (aD l++fG c) g cap w'):dR B w' y s hs:=by
 rcases ha.pos with ⟨p,hm⟩ | ⟨_,hb⟩
 ·rcases h.own with ⟨e,_⟩ | ⟨g',M,e,h1,h2,h3,h4⟩
  ·rw [e] at p;cases p
  ·rw [e] at p;cases p
   refine hS.offc hm h3 (fun hn o e2=>?_)
   have hc:y.cc≠0:=by have:=hS.cap.c;omega
   rcases hS.rm.2.2.2.1 with e3 | ⟨g3,M3,e3,_⟩
   ·exact hc e3
   ·rw [e2] at e3;cases e3
    exact h.off _ e hc e2
 ·exact hS.below hb
end
theorem dR.rowc {B:Nat} {w:World} {y:Sls} {s:St} {hs:List AV} (h:dR B w y s hs) (hc:y.cc≠0):∃g,y.ca=some ⟨g,0,none⟩∧g<w.heap.size:=by
 rcases h.rm.2.2.2.1 with e | ⟨g,M,e,_,e2,_⟩
 ·exact absurd e hc
 ·exact ⟨g,e,e2⟩
structure aKo (B:Nat) (s:St) (nd:List UInt8) (m n:Nat) (L:List Con) (y:Sls) (st:St) (hs:List AV) (go:Option Addr) (gc:Nat) (w:World):Prop where
 ok:aS st=true
 fit:bD st
 wf:pX st
 rest:aW nd m s=((aW nd (m - n) st).1,L++(aW nd (m - n) st).2)
 len:L.length≤n
 has:dR B w y st hs
 giv:GvH B w y go L.length gc L
structure aBg (B:Nat) (s:St) (nd:List UInt8) (m:Nat) (L:List Con) (y:Sls) (st:St) (hs:List AV) (go:Option Addr) (gc:Nat) (w:World):Prop where
 fin:aW nd m s=(st,L)
 ok:aS st=true
 fit:bD st
 has:dR B w y st hs
 giv:GvH B w y go L.length gc L
theorem aBg.below {B m gc:Nat} {s st:St} {nd:List UInt8} {L:List Con} {y:Sls} {hs:List AV} {go:Option Addr} {w w':World} (h:aBg B s nd m L y st hs go gc w) (hb:Below w.heap.size w w'):aBg B s nd m L y st hs go gc w':=⟨h.fin,h.ok,h.fit,h.has.below hb,h.giv.below hb⟩
theorem aFK {nd:List UInt8} {m n:Nat} {s st:St} {L:List Con} (h:aW nd m s=((aW nd (m - n) st).1,L++(aW nd (m - n) st).2)) (he:m≤n∨aX st nd=none):aW nd m s=(st,L):=by
 rcases he with he | he
 ·rw [Nat.sub_eq_zero_of_le he] at h
  rw [h,aW,List.append_nil]
 ·rw [h,xI he,List.append_nil]
theorem aHx {nd:List UInt8} {m n:Nat} {s st:St} {L:List Con} {p:(Nat×Nat)×Con} (h:aW nd m s=((aW nd (m - n) st).1,L++(aW nd (m - n) st).2)) (hn:n<m) (hp:aX st nd=some p):aW nd m s=((aW nd (m - (n+1)) (bQ st p)).1,(L++[p.2])++(aW nd (m - (n+1)) (bQ st p)).2):=by
 rw [show m - n=(m - (n+1))+1 by omega,xH hp] at h
 rw [h,List.append_assoc]
 rfl
theorem xL {w w':World} {y:Sls} {s:St} {hs:List AV} {go:Option Addr} {gc:Nat} {L:List Con} (h:dR (w.heap.size+1+1) w' y s hs) (hg:GvH (w.heap.size+1+1) w' y go L.length gc L) (hb:Below w.heap.size w w'):aI6 w s L (.returned (.tuple #[sv y s,.slice go L.length gc])) w':=by
 refine ⟨y,hs,go,L.length,gc,rfl,(h.base (by omega)).ans,hg.has.base (by omega),fun k hk hk2=>?_,hb⟩
 obtain ⟨_,o,e⟩:=hk
 obtain ⟨h1,o',e'⟩:=hk2
 have hc:y.cc≠0:=by have:=h.cap.c;omega
 obtain ⟨g,e3,_⟩:=h.rowc hc
 rw [e3] at e'
 cases e'
 rcases hg.own with ⟨e4,_⟩ | ⟨g4,_,e4,_⟩
 ·rw [e4] at e;cases e
 ·rw [e4] at e;cases e
  exact hg.off k e4 hc e3
theorem zS (x:Sls) (s:St) (nd:List UInt8) (most:Int) (w:World) (h:jC w x s) (hf:bD s) (hc:x.ql≤x.qc) (hw:pX s) (hnd:nd.length≤1048576) :
  Calls Tryz.prog 14 #[sv x s,.string (bs nd),.int .i64 most] w (aI6 w (fH s nd most).1 (fH s nd most).2):=by
 obtain ⟨ti,hii,tz0,tz1,tz2⟩:=info_parts Tryz.infoCont
 have hb1:=yA (yA (yH _ w) (.cells (svc x s) 34)) (.cells #[.slice none 0 0,.int .i64 0,.int .i64 0,.int .i64 0,.int .i64 0,.slice none 0 0,.slice none 0 0,.slice none 0 0] 34)
 have P0:=aA ((yD w (svc x s) 34).al (.cells #[.slice none 0 0,.int .i64 0,.int .i64 0,.int .i64 0,.int .i64 0,.slice none 0 0,.slice none 0 0,.slice none 0 0] 34))
 have P1:=aA (yD (w.alloc (.cells (svc x s) 34)) #[.slice none 0 0,.int .i64 0,.int .i64 0,.int .i64 0,.int .i64 0,.slice none 0 0,.slice none 0 0,.slice none 0 0] 34)
 rw [yE] at P1
 have CC:=aA (xS x s _ (h.below hb1) hf)
 have CO:=aA (fun wx (hb:Below w.heap.size w wx)=>nQ x s wx (h.below hb) hf hc hw)
 have CH:=aA (fun wx (hb:Below w.heap.size w wx)=>pE x s nd wx (h.below hb) hf hnd)
 have CG:=aA (fun B b y st hs wx (hx:dR B wx y st hs) (hb:Blk wx b (svc y st) 34) (h1:B≤b) (h2:B≤wx.heap.size) (hf:bD st) (hw:pX st)=>show Calls Tryz.prog 30 #[.pointer (some ⟨b,0,none⟩),.string (bs nd)] wx (fun e w'=>∃y' hs',e=.returned (.tuple #[conv (rJ (aX st nd)),.bool (aX st nd).isSome])∧Blk w' b (svc y' (kJ st nd)) 34∧dR B w' y' (kJ st nd) hs'∧Kc B wx.heap.size y.ca y.cc wx w'∧∀g,y'.ca=some ⟨g,0,none⟩→y'.cc≠0→g<wx.heap.size→y.cc≠0∧y.ca=some ⟨g,0,none⟩) from aHy hx hb h1 h2 nd hf hw hnd)
 have CP:=aA (fun B b y st hs wx (hx:dR B wx y st hs) (hb:Blk wx b (svc y st) 34) (hf:bD st) (ho:aS st=true)=>show Calls Tryz.prog 46 #[.pointer (some ⟨b,0,none⟩),.string (bs nd)] wx (fun e w'=>e=.returned (.tuple #[])∧dR B w' y (iK st nd) hs∧Mks (aJk B wx) wx w') from aCM hx hb nd hf (fun a ha q hq=>(aH2 ho a ha).2 q hq))
 obtain ⟨o,ho⟩:∃o,aS s=o:=⟨_,rfl⟩
 obtain ⟨o2,ho2⟩:∃o,(bF nd s.ms).isSome=o:=⟨_,rfl⟩
 rw [ho] at CO
 rw [ho2] at CH
 have HV:=aA (show (¬(o=true∧o2=true∧0≤most∧most≤50)→fH s nd most=(s,[]))∧(o=true∧o2=true∧0≤most∧most≤50→fH s nd most=(iK (aW nd most.toNat s).1 nd,(aW nd most.toNat s).2)) from by rw [←ho,←ho2];exact ⟨fun h=>if_neg h,fun h=>if_pos h⟩)
 obtain ⟨gv,hgv⟩:∃g,fH s nd most=g:=⟨_,rfl⟩
 rw [hgv] at HV ⊢
 have HF2:=aA (show aS s=o∧bD s∧pX s from ⟨ho,hf,hw⟩)
 have HSt:=aA (fun (st:St) (p:(Nat×Nat)×Con) (h1:aX st nd=some p) (h2:aS st=true) (h3:bD st) (h4:pX st)=>show aS (bQ st p)=true∧bD (bQ st p)∧pX (bQ st p) from ⟨aB3 h1,by have:=rE h3 hnd;rwa [dX h1] at this,by have:=aAq h4 nd;rwa [dX h1] at this⟩)
 have B1:=aA hb1
 have hz1:((w.alloc (.cells (svc x s) 34)).alloc (.cells #[.slice none 0 0,.int .i64 0,.int .i64 0,.int .i64 0,.int .i64 0,.slice none 0 0,.slice none 0 0,.slice none 0 0] 34)).heap.size=w.heap.size+1+1:=by simp only [yE]
 clear h hf hc hw hnd ho ho2 hgv hb1
 obtain ⟨u0,u1,u2,u3,u4,u5,u6,u7⟩:=zq (uH P0)
 go_enter Tryz.func14,Tryz.ntmps14
 go_wp2_with fail
 refine (uH CC).mono ?_
 rintro e w2 ⟨y,hs,rfl,ha,hb⟩
 rw [hz1] at ha
 clear u0 u1 u2 u3 u4 u5 u6 u7
 have hz2:w.heap.size+1+1≤w2.heap.size:=by have:=hb.size;rw [hz1] at this;exact this
 have b3:=yA (yH _ w2) (.cells (svc y s) 34)
 have H3:=aA ((ha.has (yJ _)).below b3)
 have X3:=aA (yD w2 (svc y s) 34)
 have P3:=aA (((uH P0).below hb).below b3)
 have Q3:=aA (((uH P1).below hb).below b3)
 have B3:=aA (yB (yB (uH B1) hb) b3)
 clear ha hb b3 P0 P1 B1 CC hz1
 obtain ⟨b,hbb⟩:∃g,w2.heap.size=g:=⟨_,rfl⟩
 rw [hbb] at X3 hz2
 go_upto_region 2 with fail
 generalize w2.alloc (.cells (svc y s) 34)=w3 at H3 X3 P3 Q3 B3 ⊢
 obtain ⟨x0,x1,x2,x3,x4,x5,x6,x7⟩:=zq (uH P3)
 obtain ⟨bd,hbd⟩:∃t,(!(o&&(o2&&(decide (0≤most)&&decide (most≤50)))))=t:=⟨_,rfl⟩
 have HBD:=aA hbd
 clear hbd
 go_cut [30] from 14 to 30 (fun v wx=>v=.bool bd∧Hid (Below w3.heap.size w3 wx))
 case first=>
  clear CG CP HV HF2 HSt H3 X3 Q3
  go_wp2_with fail
  refine (uH CO _ (uH B3)).mono ?_
  rintro e w4 ⟨rfl,hb⟩
  have P4:=aA ((uH P3).below hb)
  have B4:=aA (yB (uH B3) hb)
  have K4:=aA hb
  clear hb P3 B3 CO x0 x1 x2 x3 x4 x5 x6 x7
  cases o
  case false=>
   have HG:=aA (show true=bd from by rw [←uH HBD];rfl)
   clear P4 B4 CH HBD
   go_wp2_with fail
   go_meet
   exact ⟨congrArg Value.bool (uH HG),K4⟩
  obtain ⟨x0,x1,x2,x3,x4,x5,x6,x7⟩:=zq (uH P4)
  go_wp2_with fail
  refine (uH CH _ (uH B4)).mono ?_
  rintro e w5 ⟨rfl,hb⟩
  have K5:=aA (yB (uH K4) hb)
  clear hb P4 B4 K4 CH x0 x1 x2 x3 x4 x5 x6 x7
  cases o2
  case false=>
   have HG:=aA (show true=bd from by rw [←uH HBD];rfl)
   clear HBD
   go_wp2_with fail
   go_meet
   exact ⟨congrArg Value.bool (uH HG),K5⟩
  have HG:=aA (show ∀c,(!(decide (0≤most)&&decide (most≤50)))=c→c=bd from fun c e=>by rw [←e,←uH HBD];rfl)
  clear HBD
  by_cases hm0:most<0
  ·go_wp2_with fail
   go_meet
   exact ⟨congrArg Value.bool (uH HG _ (by rw [decide_eq_false (by omega)];rfl)),K5⟩
  by_cases hm1:50<most
  ·go_wp2_with fail
   go_meet
   exact ⟨congrArg Value.bool (uH HG _ (by rw [decide_eq_false (p:=most≤50) (by omega),Bool.and_false];rfl)),K5⟩
  go_wp2_with fail
  go_meet
  exact ⟨congrArg Value.bool (uH HG _ (by have a:0≤most:=(by omega);have b:most≤50:=(by omega);simp [hm0,hm1,a,b])),K5⟩
 case rest=>
 obtain ⟨rfl,HK⟩:=hcut
 obtain ⟨w5,rfl⟩:∃wo:World,wo=wc:=⟨_,rfl⟩
 have H5:=aA ((uH H3).below (uH HK))
 have X5:=aA ((uH X3).below (uH HK))
 have Q5:=aA ((uH Q3).below (uH HK))
 have B5:=aA (yB (uH B3) (uH HK))
 clear HK H3 X3 P3 Q3 B3 CO CH x0 x1 x2 x3 x4 x5 x6 x7
 cases bd
 case true=>
  have hno:¬(o=true∧o2=true∧0≤most∧most≤50):=fun ⟨a,b,c,d⟩=>by
   have:=uH HBD
   rw [a,b,decide_eq_true c,decide_eq_true d] at this
   cases this
  have HA0:=aA ((uH HV).1 (by exact hno))
  clear CG CP HV HF2
  go_upto_region 3 with fail
  refine wp_region_lit ?_
  refine cO (v:=sv y s) (d:=some 31) rfl rfl (mI (vT (uH X5) rfl)) ?_
  simp only [zW]
  refine eF (d:=none) rfl rfl (rW (qC (uH Q5) rfl rfl (by kernel_rfl))) ?_
  simp only [Act.put]
  have RR:=aA (jG (uH Q5) (svc y s))
  have MM:=kD (uH Q5) (svc y s) rfl
  have H9:=aA ((uH H5).low MM (by omega))
  have B9:=aA ((uH B5).trans (MM.below (fun k e=>by subst e;omega) (uH B5).size))
  generalize World.setRow w5 (w.heap.size+1) (svc y s)=w9 at RR H9 B9 ⊢
  obtain ⟨z0,z1,z2,z3,z4,z5,z6,z7⟩:=zq (uH RR)
  clear MM H5 X5 Q5 B5 RR
  go_wp2
  refine bodyPost_ret (v:=.tuple #[sv y s,.slice none 0 0]) (by simp [results,Tryz.results14,go_sem,z0,z1,z2,z3,z4,z5,z6,z7]) rfl ?_
  rw [uH HA0]
  exact ⟨y,hs,none,0,0,rfl,((uH H9).base (by omega)).ans,⟨⟨rfl,.inl rfl⟩,.inl rfl⟩,fun k hk=>absurd rfl hk.1,uH B9⟩
 obtain ⟨hoo,ho2,hm0,hm1⟩:o=true∧o2=true∧0≤most∧most≤50:=by
  have:=uH HBD
  simp only [Bool.not_eq_false',yK,yL] at this
  exact this
 subst hoo ho2
 obtain ⟨m,rfl⟩:∃m:Nat,most=m:=⟨most.toNat,by omega⟩
 have HGV:=aA (show gv=(iK (aW nd m s).1 nd,(aW nd m s).2) from by have:=(uH HV).2 ⟨by first | rfl | trivial,by first | rfl | trivial,by omega,by omega⟩;rwa [Int.toNat_natCast] at this)
 have hm:m≤50:=by omega
 have hbs:(w.heap.size+1+1)≤b:=hz2
 have R5:=aA (show aKo (w.heap.size+1+1) s nd m 0 [] y s hs none 0 w5 from ⟨(uH HF2).1,(uH HF2).2.1,(uH HF2).2.2,rfl,yJ _,uH H5,.zero _ _ _⟩)
 have hz5:(w.heap.size+1+1)≤w5.heap.size:=by have:=(uH X5).lt;omega
 clear HV HF2 H5
 clear HBD hm0 hm1
 go_upto_block 0 with fail
 go_cut [9] from 10 to 46 (fun g wx=>∃(y1:Sls) (st:St) (hs1:List AV) (L:List Con) (go:Option Addr) (gc:Nat),g=.slice go L.length gc∧Hid (aBg (w.heap.size+1+1) s nd m L y1 st hs1 go gc wx)∧Hid (Blk wx b (svc y1 st) 34)∧Hid (Below (w.heap.size+1+1) w5 wx))
 case first=>
  go_wp2_with fail
  go_loopw [9,10,11,33] (fun g _ _ i wr=>∃(n:Nat) (y1:Sls) (st:St) (hs1:List AV) (L:List Con) (go:Option Addr) (gc:Nat),n≤m∧i=.int .i64 n∧g=.slice go L.length gc∧Hid (aKo (w.heap.size+1+1) s nd m n L y1 st hs1 go gc wr)∧Hid (Blk wr b (svc y1 st) 34)∧Hid (Below (w.heap.size+1+1) w5 wr)) (fun _ _ _ i _=>m - (intOf i).toNat)
  case atStart=>exact ⟨0,y,s,hs,[],none,0,Nat.zero_le _,by first | rfl | trivial,by first | rfl | trivial,R5,X5,aA (yH _ _)⟩
  case round=>
   obtain ⟨n,y1,st,hs1,L,go,gc,hn,rfl,rfl,HI,X6,K6⟩:=hrel
   obtain ⟨w6,rfl⟩:∃wo:World,wo=wr:=⟨_,rfl⟩
   clear R5 X5
   have hz6:(w.heap.size+1+1)≤w6.heap.size:=Nat.le_trans hz5 (uH K6).size
   by_cases hlt:n<m
   ·have i1:(n:Int)<m:=by omega
    have CGr:=aA (uH CG (w.heap.size+1+1) b y1 st hs1 w6 (uH HI).has (uH X6) hbs hz6 (uH HI).fit (uH HI).wf)
    obtain ⟨p,hp⟩:∃p,aX st nd=p:=⟨_,rfl⟩
    rw [hp] at CGr
    have HP:=aA hp
    obtain ⟨⟨c0,c1,cn,c3,c4⟩,hcc⟩:∃c,rJ p=c:=⟨_,rfl⟩
    obtain ⟨ok,hok⟩:∃t,p.isSome=t:=⟨_,rfl⟩
    rw [hcc,hok] at CGr
    have HCC:=aA hcc
    have HIS:=aA hok
    clear hp hcc hok
    go_wp2_with fail
    refine (uH CGr).mono ?_
    rintro e w7 ⟨y2,hs2,rfl,hbx,hsh,hkc,hnr⟩
    have hgz:w6.heap.size≤w7.heap.size:=hkc.below.size
    have G7:=aA ((uH HI).giv.grant rfl hgz hkc (fun h=>let ⟨g,e,_⟩:=(uH HI).has.rowc h;⟨g,e⟩) hnr)
    have H7:=aA hsh
    have X7:=aA hbx
    have K7:=aA ((uH K6).trans hkc.below)
    have hbw:b<w7.heap.size:=hbx.lt
    clear hbx hsh hkc hnr X6 K6 CGr
    cases p with
    | none=>
     obtain rfl:false=ok:=uH HIS
     rw [mV (uH HP)] at H7 X7
     have bA:=yA (yH _ w7) (.cells #[.int .i64 c0,.int .i64 c1,.string (bs cn),.int .i64 c3,.int .i64 c4] 38)
     have EA:=aA (show aBg (w.heap.size+1+1) s nd m L y2 st hs2 go gc _ from ⟨aFK (uH HI).rest (.inr (uH HP)),(uH HI).ok,(uH HI).fit,(uH H7).below bA,(uH G7).below bA⟩)
     have XA:=aA ((uH X7).below bA)
     have KA:=aA ((uH K7).trans (bA.mono (by omega)))
     clear bA H7 G7 X7 K7 HI HP
     go_wp2_with fail
     generalize w7.alloc (.cells #[.int .i64 c0,.int .i64 c1,.string (bs cn),.int .i64 c3,.int .i64 c4] 38)=wA at EA XA KA ⊢
     go_meet
     exact ⟨y2,st,hs2,L,go,gc,rfl,EA,XA,KA⟩
    | some p=>
     obtain ⟨r,c⟩:=p
     obtain rfl:c=⟨c0,c1,cn,c3,c4⟩:=uH HCC
     obtain rfl:true=ok:=uH HIS
     rw [dX (uH HP)] at H7 X7
     have hnx:=aHx (uH HI).rest hlt (uH HP)
     have hkeep:=uH HSt _ _ (uH HP) (uH HI).ok (uH HI).fit (uH HI).wf
     have HNX:=aA hnx
     have HKP:=aA hkeep
     have HLL:=aA (uH HI).len
     obtain ⟨st2,hst2⟩:∃t,bQ st (r,⟨c0,c1,cn,c3,c4⟩)=t:=⟨_,rfl⟩
     rw [hst2] at H7 X7 HNX HKP
     have b8:=yA (yA (yH _ w7) (.cells #[.int .i64 c0,.int .i64 c1,.string (bs cn),.int .i64 c3,.int .i64 c4] 38)) (.cells #[.int .i64 c0,.int .i64 c1,.string (bs cn),.int .i64 c3,.int .i64 c4] 38)
     have H8:=aA ((uH H7).below b8)
     have G8:=aA ((uH G7).below b8)
     have X8:=aA ((uH X7).below b8)
     have K8:=aA ((uH K7).trans (b8.mono (by omega)))
     have T8:=aA (yD (w7.alloc (.cells #[.int .i64 c0,.int .i64 c1,.string (bs cn),.int .i64 c3,.int .i64 c4] 38)) #[.int .i64 c0,.int .i64 c1,.string (bs cn),.int .i64 c3,.int .i64 c4] 38)
     rw [yE] at T8
     have LNN:=aA (uH G8).row.1
     have RW:=aA (uH G8).row
     have CPP:=aA (uH G8).cap
     have RM:=aA (uH G8).own1
     obtain ⟨k,hk⟩:∃k,L.length=k:=⟨_,rfl⟩
     have hk50:k≤50:=by have:=uH HLL;omega
     have HKK:=aA hk
     rw [hk] at G8 RW CPP
     have hzA:(w.heap.size+1+1)≤((w7.alloc (.cells #[.int .i64 c0,.int .i64 c1,.string (bs cn),.int .i64 c3,.int .i64 c4] 38)).alloc (.cells #[.int .i64 c0,.int .i64 c1,.string (bs cn),.int .i64 c3,.int .i64 c4] 38)).heap.size:=by rw [yE,yE];omega
     clear hst2 hnx hkeep b8 H7 G7 X7 K7 hk
     try rw [uH HKK]
     go_wp2_with (at_builtin;refine nE _ rfl _ _ 32 rfl 38 ti (.agg #[.int .i64 0,.int .i64 0,.string ByteArray.empty,.int .i64 0,.int .i64 0]) 5 48 Tryz.underlying32 hii tz0 tz1 tz2 rfl (by decide) (w.heap.size+1+1) _ go k gc (aD L) rfl (uH RM) (uH CPP) ?cB ?clo ?chs ⟨w7.heap.size+1,0,none⟩ 1 1 (fG ⟨c0,c1,cn,c3,c4⟩) rfl rfl ?c1 ?c2 (by decide) ?c3 ?c4 ?_)
     case cB=>exact hzA
     case clo=>rw [bP,uH HKK]
     case chs=>intro b' off e j u hj;subst e;exact fQ (uH RW) j u hj
     case c1=>exact World.news_of_block (uH T8)
     case c2=>intro u hu;simp at hu;rcases hu with rfl | rfl | rfl | rfl | rfl<;>rfl
     case c3=>unfold maxLen;omega
     case c4=>omega
     intro g cap' wB ha
     have HB:=aA ((uH H8).beside (uH G8) ⟨c0,c1,cn,c3,c4⟩ ha)
     have GB:=aA ((uH G8).add ⟨c0,c1,cn,c3,c4⟩ ha (fun h=>(uH H8).rowc h))
     have XB:=aA (show Blk wB b _ 34 from ha.mks.blk (uH X8) (fun ⟨N,hc,_⟩=>absurd (hc.type ⟨_,uH X8,rfl⟩) (by decide)))
     have KB:=aA ((uH K8).trans (ha.mks.below (fun k ⟨N,_,h⟩=>h) hzA))
     have HKL:=aA (show (L++[(⟨c0,c1,cn,c3,c4⟩:Con)]).length=k+1 by rw [List.length_append,uH HKK];rfl)
     have RB:=aA (show aKo (w.heap.size+1+1) s nd m (n+1) (L++[⟨c0,c1,cn,c3,c4⟩]) y2 st2 hs2 (some ⟨g,0,none⟩) cap' wB from ⟨(uH HKP).1,(uH HKP).2.1,(uH HKP).2.2,uH HNX,by rw [uH HKL];have:=uH HLL;have:=uH HKK;omega,uH HB,by rw [uH HKL];exact uH GB⟩)
     clear ha H8 G8 X8 K8 T8 RW CPP RM HB GB HNX HKP HI HP
     go_wp2
     go_roundw
     case rel=>exact ⟨n+1,y2,st2,hs2,L++[⟨c0,c1,cn,c3,c4⟩],some ⟨g,0,none⟩,cap',by omega,by go_num,by rw [uH HKL];try rfl,RB,XB,KB⟩
     case measure=>simp [intOf];omega
   ·have EA:=aA (show aBg (w.heap.size+1+1) s nd m L y1 st hs1 go gc w6 from ⟨aFK (uH HI).rest (.inl (by omega)),(uH HI).ok,(uH HI).fit,(uH HI).has,(uH HI).giv⟩)
    have i1:¬(n:Int)<m:=by omega
    clear HI
    go_wp2_with fail
    go_meet
    exact ⟨y1,st,hs1,L,go,gc,rfl,EA,X6,K6⟩
 case rest=>
  obtain ⟨y1,st,hs1,L,go,gc,rfl,HE,X6,K6⟩:=hcut
  have Q6:=aA (show Blk wc (w.heap.size+1) #[.slice none 0 0,.int .i64 0,.int .i64 0,.int .i64 0,.int .i64 0,.slice none 0 0,.slice none 0 0,.slice none 0 0] 34 from ((uH K6).block _ (by omega)).trans (uH Q5))
  have B6:=aA ((uH B5).trans ((uH K6).mono (by omega)))
  clear K6 Q5 B5 R5 X5
  obtain ⟨w6,rfl⟩:∃wo:World,wo=wc:=⟨_,rfl⟩
  go_wp2_with fail
  refine (uH CP (w.heap.size+1+1) b y1 st hs1 w6 (uH HE).has (uH X6) (uH HE).fit (uH HE).ok).mono ?_
  rintro e w8 ⟨rfl,hS8,hm8⟩
  have HA0:=aA (show gv=(iK st nd,L) from by rw [uH HGV,(uH HE).fin])
  have H8:=aA hS8
  have G8:=aA ((uH HE).giv.mks hm8 (fun g N hc hB hS=>by obtain ⟨_,N',hc'⟩:=hS;exact absurd (hc'.type hc) (by decide)))
  have X8:=aA (show Blk w8 b (svc y1 (iK st nd)) 34 from hm8.blk (uH X6) (fun hS=>by obtain ⟨_,N',hc'⟩:=hS;exact absurd (hc'.type ⟨_,uH X6,rfl⟩) (by decide)))
  have Q8:=aA (show Blk w8 (w.heap.size+1) #[.slice none 0 0,.int .i64 0,.int .i64 0,.int .i64 0,.int .i64 0,.slice none 0 0,.slice none 0 0,.slice none 0 0] 34 from hm8.blk (uH Q6) (fun hS=>by have:=hS.1;omega))
  have B8:=aA ((uH B6).trans (hm8.below (fun k hk=>by have:=hk.1;omega) (uH B6).size))
  clear hS8 hm8 HE X6 Q6 B6 CP CG
  go_upto_region 12 with fail
  refine wp_region_lit ?_
  refine cO (v:=sv y1 (iK st nd)) (d:=some 49) rfl rfl (mI (vT (uH X8) rfl)) ?_
  simp only [zW]
  refine cO (v:=.slice go L.length gc) (d:=some 50) rfl rfl rfl ?_
  simp only [zW]
  refine eF (d:=none) rfl rfl (rW (qC (uH Q8) rfl rfl (by kernel_rfl))) ?_
  simp only [Act.put]
  have RR:=aA (jG (uH Q8) (svc y1 (iK st nd)))
  have MM:=kD (uH Q8) (svc y1 (iK st nd)) rfl
  have H9:=aA ((uH H8).low MM (by omega))
  have G9:=aA ((uH G8).mks MM (fun g N hc hB hS=>by have:g=w.heap.size+1:=hS;omega))
  have B9:=aA ((uH B8).trans (MM.below (fun k e=>by subst e;omega) (uH B8).size))
  generalize World.setRow w8 (w.heap.size+1) (svc y1 (iK st nd))=w9 at RR H9 G9 B9 ⊢
  obtain ⟨z0,z1,z2,z3,z4,z5,z6,z7⟩:=zq (uH RR)
  clear MM H8 G8 X8 Q8 B8 RR
  go_wp2
  refine bodyPost_ret (v:=.tuple #[sv y1 (iK st nd),.slice go L.length gc]) (by simp [results,Tryz.results14,go_sem,z0,z1,z2,z3,z4,z5,z6,z7]) rfl ?_
  rw [uH HA0]
  exact xL (uH H9) (uH G9) (uH B9)
def aLg:Value→Nat
 | .slice _ n _=>n
 | _=>0
theorem Kc.any {B W cc:Nat} {ca:Option Addr} {a b:World} (h:Kc B W none 0 a b):Kc B W ca cc a b:=⟨h.below,fun g arr hg hb _=>h.con g arr hg hb (fun h=>absurd rfl h)⟩
theorem dR.rowb {B:Nat} {w:World} {y:Sls} {s:St} {hs:List AV} (h:dR B w y s hs) (hc:y.cc≠0):∃g,y.ca=some ⟨g,0,none⟩∧B≤g:=by
 rcases h.rm.2.2.2.1 with e | ⟨g,M,e,hB,e2,_⟩
 ·exact absurd e hc
 ·exact ⟨g,e,hB⟩
theorem zC (x:Sls) (s:St) (hs0:List AV) (nd:List UInt8) (most:Int) (w:World) (h:jC w x s) (hav:fA w x.aa x.al hs0) (hhd:jH w hs0 s.apps) (hss:aI8 x hs0) (hf:bD s) (hw:pX s) (hnd:nd.length≤1048576) :
  Calls Tryz.prog 13 #[sv x s,.string (bs nd),.int .i64 most] w (aI6 w (fH s nd most).1 (fH s nd most).2):=by
 obtain ⟨ti,hii,tz0,tz1,tz2⟩:=info_parts Tryz.infoCont
 have hml:x.ml≤1048576:=h.ml hf
 have hb1:=yA (yA (yA (yH _ w) (.cells (svc x s) 34)) (.cells #[.slice none 0 0,.int .i64 0,.int .i64 0,.int .i64 0,.int .i64 0,.slice none 0 0,.slice none 0 0,.slice none 0 0] 34)) (.cells #[] 38)
 have P0:=aA (((yD w (svc x s) 34).al (.cells #[.slice none 0 0,.int .i64 0,.int .i64 0,.int .i64 0,.int .i64 0,.slice none 0 0,.slice none 0 0,.slice none 0 0] 34)).al (.cells #[] 38))
 have P1:=aA ((yD (w.alloc (.cells (svc x s) 34)) #[.slice none 0 0,.int .i64 0,.int .i64 0,.int .i64 0,.int .i64 0,.slice none 0 0,.slice none 0 0,.slice none 0 0] 34).al (.cells #[] 38))
 have P2:=aA (yD ((w.alloc (.cells (svc x s) 34)).alloc (.cells #[.slice none 0 0,.int .i64 0,.int .i64 0,.int .i64 0,.int .i64 0,.slice none 0 0,.slice none 0 0,.slice none 0 0] 34)) #[] 38)
 rw [yE] at P1
 rw [yE,yE] at P2
 have B1:=aA hb1
 have CO:=aA (fun wx (hb:Below w.heap.size w wx)=>vU x s wx (h.below hb) hf)
 have CM:=aA (fun wx (hb:Below w.heap.size w wx)=>iX x s nd wx (h.2.2.1.below hb) hml)
 have CC:=aA (fun wx (hb:Below w.heap.size w wx)=>show Calls Tryz.prog 23 #[sv x s] wx (fun e w'=>∃y hs,e=.returned (sv y s)∧p8 wx.heap.size w'.heap.size w' y s hs∧Below wx.heap.size wx w'∧∃g,y.ca=some ⟨g,0,none⟩) from uB x s hs0 wx (h.below hb) (hav.below hb) (hhd.below hb) hss hf)
 have CG:=aA (fun B y st hs wx (hx:dR B wx y st hs) (hBw:B≤wx.heap.size) (hca:∃g,y.ca=some ⟨g,0,none⟩) (hf:bD st) (hok:aS st=true)=>show Calls Tryz.prog 24 #[sv y st,.string (bs nd)] wx (fun e w'=>∃y' hs',e=.returned (.tuple #[sv y' (kJ st nd),conv (rJ (aX st nd)),.bool (aX st nd).isSome])∧dR B w' y' (kJ st nd) hs'∧(∃g,y'.ca=some ⟨g,0,none⟩)∧Kc B wx.heap.size none 0 wx w'∧(aX st nd=none→y'=y∧hs'=hs)∧∀g,y'.ca=some ⟨g,0,none⟩→y'.cc≠0→g<wx.heap.size→y.cc≠0∧y.ca=some ⟨g,0,none⟩) from aCg hx hBw hca nd hf hok hnd)
 obtain ⟨o,ho⟩:∃o,aS s=o:=⟨_,rfl⟩
 obtain ⟨mp,hmp⟩:∃g,wU s.ms nd=g:=⟨_,rfl⟩
 have hms:(bF nd s.ms).isSome=decide (0≤mp):=by
  rcases oI nd s.ms with ⟨a,b⟩ | ⟨j,_,a,b⟩
  ·rw [a,←hmp,b];rfl
  ·rw [a,←hmp,b];simp
 obtain ⟨gd,hgd⟩:∃g,(o&&(decide (0≤mp)&&inB most 0 50))=g:=⟨_,rfl⟩
 have hcond:(aS s=true∧(bF nd s.ms).isSome=true∧0≤most∧most≤50)↔gd=true:=by
  rw [←hgd,ho,hms]
  simp only [inB,yK,yL]
 have HV:=aA (show (gd=false→fH s nd most=(s,[]))∧(gd=true→fH s nd most=(iK (aW nd most.toNat s).1 nd,(aW nd most.toNat s).2)) from ⟨fun e=>if_neg (by rw [hcond,e];decide),fun e=>if_pos (hcond.2 e)⟩)
 have HOK:=aA (show gd=true→aS s=true∧0≤most∧most≤50 from fun e=>by have:=hcond.2 e;exact ⟨this.1,this.2.2⟩)
 rw [ho] at CO
 rw [hmp] at CM
 obtain ⟨gv,hgv⟩:∃g,fH s nd most=g:=⟨_,rfl⟩
 rw [hgv] at HV ⊢
 have HF2:=aA (show bD s∧pX s from ⟨hf,hw⟩)
 have HSt:=aA (fun (st:St) (p:(Nat×Nat)×Con) (h1:aX st nd=some p) (h2:aS st=true) (h3:bD st) (h4:pX st)=>show aS (bQ st p)=true∧bD (bQ st p)∧pX (bQ st p) from ⟨aB3 h1,by have:=rE h3 hnd;rwa [dX h1] at this,by have:=aAq h4 nd;rwa [dX h1] at this⟩)
 have HGD:=aA hgd
 clear h hav hhd hss hf hw hnd ho hmp hms hgv hcond hml hgd hb1
 go_enter Tryz.func13,Tryz.ntmps13
 go_upto_region 2 with fail
 generalize ((w.alloc (.cells (svc x s) 34)).alloc (.cells #[.slice none 0 0,.int .i64 0,.int .i64 0,.int .i64 0,.int .i64 0,.slice none 0 0,.slice none 0 0,.slice none 0 0] 34)).alloc (.cells #[] 38)=w1 at P0 P1 P2 B1 ⊢
 obtain ⟨x0,x1,x2,x3,x4,x5,x6,x7⟩:=zq (uH P0)
 go_cut [9] from 16 to 27 (fun v9 wx=>v9=.bool gd∧Hid (Below w1.heap.size w1 wx))
 case first=>
  clear CG CC HV HOK HF2 HSt
  go_wp2_with fail
  refine (uH CO _ (uH B1)).mono ?_
  rintro e w2 ⟨rfl,hb⟩
  have P02:=aA ((uH P0).below hb)
  have B2:=aA (yB (uH B1) hb)
  have K2:=aA hb
  clear hb x0 x1 x2 x3 x4 x5 x6 x7 CO
  cases o
  case false=>
   have hg:=uH HGD
   simp only [Bool.false_and] at hg
   have HG:=aA hg.symm
   clear hg P0 P1 P2 P02 B1 B2 CM HGD
   go_wp2_with fail
   go_meet
   exact ⟨congrArg Value.bool (uH HG).symm,K2⟩
  obtain ⟨x0,x1,x2,x3,x4,x5,x6,x7⟩:=zq (uH P02)
  go_wp2_with fail
  refine (uH CM _ (uH B2)).mono ?_
  rintro e w3 ⟨rfl,hb⟩
  have K3:=aA (yB (uH K2) hb)
  clear hb x0 x1 x2 x3 x4 x5 x6 x7 CM P0 P1 P2 P02 B1 B2 K2
  have hg:=uH HGD
  by_cases hm:0≤mp
  ·rw [decide_eq_true hm] at hg
   simp only [Bool.true_and] at hg
   clear HGD
   go_wp2_with fail
   refine (aM _ _ _ _).mono ?_
   rintro e w4 ⟨rfl,rfl⟩
   rw [hg]
   go_wp2_with fail
   go_meet
   exact ⟨rfl,K3⟩
  ·rw [decide_eq_false hm] at hg
   simp only [Bool.false_and,Bool.and_false] at hg
   have HG:=aA hg.symm
   clear HGD hg
   go_wp2_with fail
   go_meet
   exact ⟨congrArg Value.bool (uH HG).symm,K3⟩
 case rest=>
  obtain ⟨rfl,HK⟩:=hcut
  clear x0 x1 x2 x3 x4 x5 x6 x7
  have X2:=aA ((uH P0).below (uH HK))
  have Q2:=aA ((uH P1).below (uH HK))
  have T2:=aA ((uH P2).below (uH HK))
  have B2:=aA (yB (uH B1) (uH HK))
  have hz2:(w.heap.size+1+1)<wc.heap.size:=(uH T2).lt
  clear HK P0 P1 P2 B1 CO CM HGD
  go_upto_region 3 with fail
  refine wp_region_lit ?_
  refine cO (v:=sv x s) (d:=some 28) rfl rfl (mI (nX (uH X2) rfl)) ?_
  simp only [zW]
  refine wpList_plain rfl (fun K hK=>?_)
  go_simp
  refine (uH CC _ (uH B2)).mono ?_
  rintro e w3 ⟨y,hs,rfl,ha,hb,hca⟩
  refine hK _ _ ?_
  clear hK K
  try simp only [zW]
  have H3:=aA (ha.has (yJ _))
  have X3:=aA ((uH X2).below hb)
  have Q3:=aA ((uH Q2).below hb)
  have T3:=aA ((uH T2).below hb)
  have B3:=aA (yB (uH B2) hb)
  have HCA:=aA hca
  have hz3:wc.heap.size≤w3.heap.size:=hb.size
  clear ha hb hca X2 Q2 T2 B2 CC
  refine eF (d:=none) rfl rfl (rW (lU 34 (arr:=svc y s) (uH X3) (by kernel_rfl) rfl (by kernel_rfl))) ?_
  simp only [Act.put]
  have M4:=kD (uH X3) (svc y s) rfl
  have X4:=aA (jG (uH X3) (svc y s))
  have Q4:=aA (M4.blk (uH Q3) (by omega))
  have T4:=aA (M4.blk (uH T3) (by omega))
  have H4:=aA (((uH H3).low M4 (by omega)))
  have B4:=aA ((uH B3).trans (M4.below (fun k e=>by subst e;omega) (uH B3).size))
  clear M4 X3 Q3 T3 H3 B3
  generalize World.setRow w3 w.heap.size (svc y s)=w4 at X4 Q4 T4 H4 B4 ⊢
  have G4:=aA (show GvH (w.heap.size+1+1) w4 y (some ⟨(w.heap.size+1+1),0,none⟩) ([]:List Con).length 0 [] from ⟨⟨rfl,.inl rfl⟩,.inr ⟨_,0,rfl,yJ _,(uH T4).lt,⟨#[],uH T4,rfl⟩,yJ _⟩,yJ _,fun g e hc e2=>by
   cases e
   obtain ⟨g',e',hge⟩:=(uH H4).rowb hc
   rw [e2] at e'
   cases e'
   omega⟩)
  have H4b:=aA ((uH H4).base (show (w.heap.size+1+1)≤wc.heap.size by omega))
  clear H4 T4
  have hz4:(w.heap.size+1+1)≤w4.heap.size:=by have:=(uH Q4).lt;rcases (uH G4).own with ⟨e,_⟩ | ⟨_,_,e,_,h2,_⟩<;>cases e;omega
  cases gd
  case false=>
   have HA0:=aA ((uH HV).1 rfl)
   have X5:=X4
   have Q5:=Q4
   have H5:=H4b
   have G5:=G4
   have B5:=B4
   clear X4 Q4 H4b G4 B4 HV HOK HF2 HSt CG HCA
   obtain ⟨w5,rfl⟩:∃wo:World,wo=w4:=⟨_,rfl⟩
   go_upto_region 5 with fail
   refine wp_region_lit ?_
   refine cO (v:=sv y s) (d:=some 32) rfl rfl (mI (vT (uH X5) rfl)) ?_
   simp only [zW]
   refine cO (v:=.slice (some ⟨(w.heap.size+1+1),0,none⟩) 0 0) (d:=some 33) rfl rfl rfl ?_
   simp only [zW]
   refine eF (d:=none) rfl rfl (rW (qC (uH Q5) rfl rfl (by kernel_rfl))) ?_
   simp only [Act.put]
   have RR:=aA (jG (uH Q5) (svc y s))
   have MM:=kD (uH Q5) (svc y s) rfl
   have H9:=aA ((uH H5).low MM (by omega))
   have G9:=aA ((uH G5).mks MM (fun g N hc hB hS=>by have:g=w.heap.size+1:=hS;omega))
   have B9:=aA ((uH B5).trans (MM.below (fun k e=>by subst e;omega) (uH B5).size))
   generalize World.setRow w5 (w.heap.size+1) (svc y s)=w9 at RR H9 G9 B9 ⊢
   obtain ⟨z0,z1,z2,z3,z4,z5,z6,z7⟩:=zq (uH RR)
   clear MM H5 G5 X5 Q5 B5 RR
   go_wp2
   refine bodyPost_ret (v:=.tuple #[sv y s,.slice (some ⟨(w.heap.size+1+1),0,none⟩) 0 0]) (by simp [results,Tryz.results13,go_sem,z0,z1,z2,z3,z4,z5,z6,z7]) rfl ?_
   rw [uH HA0]
   exact xL (uH H9) (uH G9) (uH B9)
  obtain ⟨hoks,hm0,hm1⟩:=uH HOK rfl
  obtain ⟨m,rfl⟩:∃m:Nat,most=m:=⟨most.toNat,by omega⟩
  have HGV:=aA (show gv=(iK (aW nd m s).1 nd,(aW nd m s).2) from by have:=(uH HV).2 rfl;rwa [Int.toNat_natCast] at this)
  have hm:m≤50:=by omega
  have R4:=aA (show aKo (w.heap.size+1+1) s nd m 0 [] y s hs (some ⟨(w.heap.size+1+1),0,none⟩) 0 w4 from ⟨hoks,(uH HF2).1,(uH HF2).2,rfl,yJ _,uH H4b,uH G4⟩)
  clear HV HOK HF2 H4b G4 hm0 hm1 hoks
  go_upto_block 0 with fail
  go_cut [8] from 10 to 51 (fun g wx=>∃(y1:Sls) (st:St) (hs1:List AV) (L:List Con) (go:Option Addr) (gc:Nat),g=.slice go L.length gc∧Hid (aBg (w.heap.size+1+1) s nd m L y1 st hs1 go gc wx)∧Hid (Blk wx w.heap.size (svc y1 st) 34)∧Hid (Blk wx (w.heap.size+1) #[.slice none 0 0,.int .i64 0,.int .i64 0,.int .i64 0,.int .i64 0,.slice none 0 0,.slice none 0 0,.slice none 0 0] 34)∧Hid (Below w.heap.size w wx)∧(w.heap.size+1+1)≤wx.heap.size)
  case first=>
   go_wp2_with fail
   go_loopw [8,10,11,12] (fun g _ _ _ wr=>∃(n:Nat) (y1:Sls) (st:St) (hs1:List AV) (L:List Con) (go:Option Addr) (gc:Nat),n≤m∧Hid (L.length=n)∧g=.slice go n gc∧Hid (aKo (w.heap.size+1+1) s nd m n L y1 st hs1 go gc wr)∧Hid (∃g,y1.ca=some ⟨g,0,none⟩)∧Hid (Blk wr w.heap.size (svc y1 st) 34)∧Hid (Blk wr (w.heap.size+1) #[.slice none 0 0,.int .i64 0,.int .i64 0,.int .i64 0,.int .i64 0,.slice none 0 0,.slice none 0 0,.slice none 0 0] 34)∧Hid (Below w.heap.size w wr)∧(w.heap.size+1+1)≤wr.heap.size) (fun g _ _ _ _=>m - aLg g)
   case atStart=>exact ⟨0,y,s,hs,[],some ⟨(w.heap.size+1+1),0,none⟩,0,Nat.zero_le _,aA rfl,by first | rfl | trivial,R4,HCA,X4,Q4,B4,hz4⟩
   case round=>
    obtain ⟨n,y1,st,hs1,L,go,gc,hn,HLN,rfl,HI,HC1,X6,Q6,B6,hz6⟩:=hrel
    obtain ⟨w6,rfl⟩:∃wo:World,wo=wr:=⟨_,rfl⟩
    clear R4 X4 Q4 B4 HCA hz4
    by_cases hlt:n<m
    ·have i1:(n:Int)<m:=by omega
     have CGr:=aA (uH CG (w.heap.size+1+1) y1 st hs1 w6 (uH HI).has hz6 (uH HC1) (uH HI).fit (uH HI).ok)
     obtain ⟨p,hp⟩:∃p,aX st nd=p:=⟨_,rfl⟩
     rw [hp] at CGr
     have HP:=aA hp
     obtain ⟨⟨c0,c1,cn,c3,c4⟩,hcc⟩:∃c,rJ p=c:=⟨_,rfl⟩
     obtain ⟨ok,hok⟩:∃t,p.isSome=t:=⟨_,rfl⟩
     obtain ⟨st2,hst2⟩:∃t,kJ st nd=t:=⟨_,rfl⟩
     rw [hcc,hok,hst2] at CGr
     have HS2:=aA hst2
     have HCC:=aA hcc
     have HIS:=aA hok
     clear hp hcc hok hst2
     obtain ⟨x0,x1,x2,x3,x4,x5,x6,x7⟩:=zq (uH X6)
     go_wp2_with fail
     refine (uH CGr).mono ?_
     rintro e w7 ⟨y2,hs2,rfl,hsh,hca2,hkc,hsame,hnr⟩
     have hgz:w6.heap.size≤w7.heap.size:=hkc.below.size
     have G7:=aA ((uH HI).giv.grant rfl hgz hkc.any (fun h=>let ⟨g,e,_⟩:=(uH HI).has.rowc h;⟨g,e⟩) hnr)
     have H7:=aA hsh
     have X7:=aA (show Blk w7 w.heap.size (svc y1 st) 34 from (hkc.below.block _ (by omega)).trans (uH X6))
     have Q7:=aA (show Blk w7 (w.heap.size+1) #[.slice none 0 0,.int .i64 0,.int .i64 0,.int .i64 0,.int .i64 0,.slice none 0 0,.slice none 0 0,.slice none 0 0] 34 from (hkc.below.block _ (by omega)).trans (uH Q6))
     have B7:=aA ((uH B6).trans (hkc.below.mono (by omega)))
     have hz7:(w.heap.size+1+1)≤w7.heap.size:=Nat.le_trans hz6 hgz
     clear hsh hkc hnr X6 Q6 B6 CGr x0 x1 x2 x3 x4 x5 x6 x7
     cases p with
     | none=>
      obtain rfl:false=ok:=uH HIS
      obtain ⟨rfl,rfl⟩:=hsame rfl
      obtain rfl:st=st2:=(mV (uH HP)).symm.trans (uH HS2)
      have bA:=yA (yA (yH _ w7) (.cells (svc y2 st) 34)) (.cells #[.int .i64 c0,.int .i64 c1,.string (bs cn),.int .i64 c3,.int .i64 c4] 38)
      have EA:=aA (show aBg (w.heap.size+1+1) s nd m L y2 st hs2 go gc _ from ⟨aFK (uH HI).rest (.inr (uH HP)),(uH HI).ok,(uH HI).fit,(uH H7).below bA,(uH G7).below bA⟩)
      have XA:=aA ((uH X7).below bA)
      have QA:=aA ((uH Q7).below bA)
      have BA:=aA (yB (uH B7) bA)
      have hzA:(w.heap.size+1+1)≤((w7.alloc (.cells (svc y2 st) 34)).alloc (.cells #[.int .i64 c0,.int .i64 c1,.string (bs cn),.int .i64 c3,.int .i64 c4] 38)).heap.size:=by rw [yE,yE];omega
      clear bA H7 G7 X7 Q7 B7 HI HP hca2
      go_wp2_with fail
      generalize (w7.alloc (.cells (svc y2 st) 34)).alloc (.cells #[.int .i64 c0,.int .i64 c1,.string (bs cn),.int .i64 c3,.int .i64 c4] 38)=wA at EA XA QA BA hzA ⊢
      go_meet
      exact ⟨y2,st,hs2,L,go,gc,by rw [uH HLN],EA,XA,QA,BA,hzA⟩
     | some p=>
      obtain ⟨r,c⟩:=p
      obtain rfl:c=⟨c0,c1,cn,c3,c4⟩:=uH HCC
      obtain rfl:true=ok:=uH HIS
      have hst2:bQ st (r,⟨c0,c1,cn,c3,c4⟩)=st2:=(dX (uH HP)).symm.trans (uH HS2)
      have hnx:=aHx (uH HI).rest hlt (uH HP)
      have hkeep:=uH HSt _ _ (uH HP) (uH HI).ok (uH HI).fit (uH HI).wf
      have HNX:=aA hnx
      have HKP:=aA hkeep
      have HC2:=aA hca2
      rw [hst2] at HNX HKP
      have bA:=yA (yA (yH _ w7) (.cells (svc y2 st2) 34)) (.cells #[.int .i64 c0,.int .i64 c1,.string (bs cn),.int .i64 c3,.int .i64 c4] 38)
      have H8:=aA ((uH H7).below bA)
      have G8:=aA ((uH G7).below bA)
      have X8:=aA ((uH X7).below bA)
      have Q8:=aA ((uH Q7).below bA)
      have B8:=aA (yB (uH B7) bA)
      have N8:=aA ((yD w7 (svc y2 st2) 34).al (.cells #[.int .i64 c0,.int .i64 c1,.string (bs cn),.int .i64 c3,.int .i64 c4] 38))
      have C8:=aA (yD (w7.alloc (.cells (svc y2 st2) 34)) #[.int .i64 c0,.int .i64 c1,.string (bs cn),.int .i64 c3,.int .i64 c4] 38)
      rw [yE] at C8
      clear hnx hkeep hca2 hst2 hsame bA H7 G7 X7 Q7 B7
      go_upto_region 9 with fail
      have hz8:w7.heap.size+1<((w7.alloc (.cells (svc y2 st2) 34)).alloc (.cells #[.int .i64 c0,.int .i64 c1,.string (bs cn),.int .i64 c3,.int .i64 c4] 38)).heap.size:=(uH C8).lt
      generalize (w7.alloc (.cells (svc y2 st2) 34)).alloc (.cells #[.int .i64 c0,.int .i64 c1,.string (bs cn),.int .i64 c3,.int .i64 c4] 38)=w8 at H8 G8 X8 Q8 B8 N8 C8 hz8 ⊢
      refine wp_region_lit ?_
      refine cO (v:=sv y2 st2) (d:=some 47) rfl rfl (mI (vT (uH N8) rfl)) ?_
      simp only [zW]
      refine eF (d:=none) rfl rfl (rW (qC (uH X8) rfl rfl (by kernel_rfl))) ?_
      simp only [Act.put]
      have M9:=kD (uH X8) (svc y2 st2) rfl
      have X9:=aA (jG (uH X8) (svc y2 st2))
      have Q9:=aA (M9.blk (uH Q8) (by omega))
      have C9:=aA (M9.blk (uH C8) (by omega))
      have H9:=aA ((uH H8).low M9 (by omega))
      have G9:=aA ((uH G8).mks M9 (fun g N hc hB hS=>by have:g=w.heap.size:=hS;omega))
      have B9:=aA ((uH B8).trans (M9.below (fun k e=>by subst e;omega) (uH B8).size))
      have hz9:w7.heap.size+1<(World.setRow w8 w.heap.size (svc y2 st2)).heap.size:=Nat.lt_of_lt_of_le hz8 M9.size
      clear M9 X8 Q8 C8 N8 H8 G8 B8 hz8
      generalize World.setRow w8 w.heap.size (svc y2 st2)=w9 at X9 Q9 C9 H9 G9 B9 hz9 ⊢
      obtain ⟨e0,e1,e2,e3,e4⟩:=zp (uH C9)
      have bB:=yA (yH _ w9) (.cells #[.int .i64 c0,.int .i64 c1,.string (bs cn),.int .i64 c3,.int .i64 c4] 38)
      have HA:=aA ((uH H9).below bB)
      have GA:=aA ((uH G9).below bB)
      have XA:=aA ((uH X9).below bB)
      have QA:=aA ((uH Q9).below bB)
      have BA:=aA (yB (uH B9) bB)
      have TA:=aA (yD w9 #[.int .i64 c0,.int .i64 c1,.string (bs cn),.int .i64 c3,.int .i64 c4] 38)
      have RW:=aA (uH GA).row
      have CPP:=aA (uH GA).cap
      have RM:=aA (uH GA).own1
      rw [uH HLN] at GA RW CPP
      have hzA:(w.heap.size+1+1)≤(w9.alloc (.cells #[.int .i64 c0,.int .i64 c1,.string (bs cn),.int .i64 c3,.int .i64 c4] 38)).heap.size:=by rw [yE];omega
      clear bB X9 Q9 C9 H9 G9 B9
      go_wp2_with (at_builtin;refine nE _ rfl _ _ 32 rfl 38 ti (.agg #[.int .i64 0,.int .i64 0,.string ByteArray.empty,.int .i64 0,.int .i64 0]) 5 48 Tryz.underlying32 hii tz0 tz1 tz2 rfl (by decide) (w.heap.size+1+1) _ go n gc (aD L) rfl (uH RM) (uH CPP) ?cB ?clo ?chs ⟨w9.heap.size,0,none⟩ 1 1 (fG ⟨c0,c1,cn,c3,c4⟩) rfl rfl ?c1 ?c2 (by decide) ?c3 ?c4 ?_)
      case cB=>exact hzA
      case clo=>rw [bP,uH HLN]
      case chs=>intro b' off e j u hj;subst e;exact fQ (uH RW) j u hj
      case c1=>exact World.news_of_block (uH TA)
      case c2=>intro u hu;simp at hu;rcases hu with rfl | rfl | rfl | rfl | rfl<;>rfl
      case c3=>unfold maxLen;omega
      case c4=>omega
      intro g cap' wB ha
      have HB:=aA ((uH HA).beside (uH GA) ⟨c0,c1,cn,c3,c4⟩ ha)
      have GB:=aA ((uH GA).add ⟨c0,c1,cn,c3,c4⟩ ha (fun h=>(uH HA).rowc h))
      have hnS:∀{b arr},Blk (w9.alloc (.cells #[.int .i64 c0,.int .i64 c1,.string (bs cn),.int .i64 c3,.int .i64 c4] 38)) b arr 34→Blk wB b arr 34:=fun hb=>ha.mks.blk hb (fun ⟨N,hc,_⟩=>absurd (hc.type ⟨_,hb,rfl⟩) (by decide))
      have XB:=aA (hnS (uH XA))
      have QB:=aA (hnS (uH QA))
      have BB:=aA ((uH BA).trans (ha.mks.below (fun k ⟨N,_,h⟩=>by omega) (uH BA).size))
      have hzB:(w.heap.size+1+1)≤wB.heap.size:=Nat.le_trans hzA ha.mks.size
      have HKL:=aA (show (L++[(⟨c0,c1,cn,c3,c4⟩:Con)]).length=n+1 by rw [List.length_append,uH HLN];rfl)
      have RB:=aA (show aKo (w.heap.size+1+1) s nd m (n+1) (L++[⟨c0,c1,cn,c3,c4⟩]) y2 st2 hs2 (some ⟨g,0,none⟩) cap' wB from ⟨(uH HKP).1,(uH HKP).2.1,(uH HKP).2.2,uH HNX,by rw [uH HKL];exact yJ _,uH HB,by rw [uH HKL];exact uH GB⟩)
      clear ha hnS HA GA XA QA BA TA RW CPP RM HB GB HNX HKP HI HP hzA e0 e1 e2 e3 e4
      go_wp2
      go_roundw
      case rel=>exact ⟨n+1,y2,st2,hs2,L++[⟨c0,c1,cn,c3,c4⟩],some ⟨g,0,none⟩,cap',by omega,HKL,rfl,RB,HC2,XB,QB,BB,hzB⟩
      case measure=>simp [aLg];omega
    ·have EA:=aA (show aBg (w.heap.size+1+1) s nd m L y1 st hs1 go gc w6 from ⟨aFK (uH HI).rest (.inl (by omega)),(uH HI).ok,(uH HI).fit,(uH HI).has,(uH HI).giv⟩)
     have i1:¬(n:Int)<m:=by omega
     clear HI HC1
     go_wp2_with fail
     go_meet
     exact ⟨y1,st,hs1,L,go,gc,by rw [uH HLN],EA,X6,Q6,B6,hz6⟩
  case rest=>
   obtain ⟨y1,st,hs1,L,go,gc,rfl,HE,X6,Q6,B6,hz6⟩:=hcut
   clear R4 X4 Q4 B4 HCA hz4 CG HSt
   have HA0:=aA (show gv=(iK st nd,L) from by rw [uH HGV,(uH HE).fin])
   have hh:=(uH HE).has
   have hfit:=(uH HE).fit
   have hokv:=(uH HE).ok
   have hhl:hs1.length=st.apps.length:=hh.k.heads.1
   have hal:y1.al=hs1.length:=hh.p.1.1
   have H0:=aA (show dR (w.heap.size+1+1) wc y1 (dJ st nd 0) hs1 by rw [wF];exact hh)
   have HL:=aA (show y1.al=st.apps.length by omega)
   have HHL:=aA hhl
   have HEN:=aA (fun i (hi:st.apps.length≤i)=>aAS st nd hi)
   have HAS:=aA (fun i (hi:i<st.apps.length)=>aCK (nd:=nd) hi)
   have HST:=aA (fun i (hi:i<st.apps.length)=>wG (nd:=nd) hi)
   have HFL:=aA (fun i (hi:i<st.apps.length)=>(hfit.2.1.2 _ (yM hi)).2.1)
   have HOK:=aA (fun i (hi:i<st.apps.length) k (hk:k<st.apps[i].asks.length)=>(aH2 hokv _ (yM hi)).2 _ (yM hk))
   have HCE:=aA (fun v (hv:v ∈ hs1)=>hh.k.own v hv)
   have GV:=aA (uH HE).giv
   have hal2:y1.al≤1048576:=by have:=hfit.2.1.1;omega
   obtain ⟨aa,haa⟩:∃a,y1.aa=a:=⟨_,rfl⟩
   obtain ⟨al,hll⟩:∃a,y1.al=a:=⟨_,rfl⟩
   obtain ⟨ac,hcc⟩:∃a,y1.ac=a:=⟨_,rfl⟩
   have U5:=aA (fun wr (hb:Blk wr w.heap.size (svc y1 st) 34)=>show wr.cell? ⟨w.heap.size,5,none⟩=some (.slice aa al ac) by have:=hb.at 5;simp at this;rw [haa,hll,hcc] at this;exact this)
   have HBX:=aA (fun wr (hm:Mks (aJk (w.heap.size+1+1) wc) wc wr)=>show Blk wr w.heap.size (svc y1 st) 34∧Blk wr (w.heap.size+1) #[.slice none 0 0,.int .i64 0,.int .i64 0,.int .i64 0,.int .i64 0,.slice none 0 0,.slice none 0 0,.slice none 0 0] 34 from ⟨hm.blk (uH X6) (fun hS=>by have:=hS.1;omega),hm.blk (uH Q6) (fun hS=>by have:=hS.1;omega)⟩)
   rw [hll] at HL hal2
   have HYA:=aA haa
   clear hh hfit hokv hhl hal haa hll hcc HE
   have f5x:=uH U5 _ (uH X6)
   go_wp2
   go_loopw [13,14] (fun i _ wr=>∃i':Nat,i'≤al∧i=.int .i64 i'∧Hid (dR (w.heap.size+1+1) wr y1 (dJ st nd i') hs1)∧Hid (Mks (aJk (w.heap.size+1+1) wc) wc wr)) (fun i _ _=>al - (intOf i).toNat)
   case atStart=>exact ⟨0,Nat.zero_le _,rfl,H0,aA (Mks.refl _ _)⟩
   case round=>
    obtain ⟨i,hi,rfl,HS,HM⟩:=hrel
    obtain ⟨wi,rfl⟩:∃wo:World,wo=wr:=⟨_,rfl⟩
    clear H0 f5x
    have f5x:=uH U5 _ (uH HBX _ (uH HM)).1
    by_cases hlt:i<al
    ·have hil:i<st.apps.length:=by have:=uH HL;omega
     have hih:i<hs1.length:=by have:=uH HHL;omega
     obtain ⟨pg,hpg,hcs⟩:=(uH HS).head hih
     have c2:=hcs.2.2
     clear hcs
     rw [uH HYA] at hpg
     subst hpg
     have hrow:=((uH HS).k.heads.2 i hih (by rw [iL];exact hil)).2.2.1
     rw [uH HAS i hil] at hrow
     have hvl:hs1[i].len=st.apps[i].asks.length:=hrow.1
     have HI0:=aA (show dR (w.heap.size+1+1) wi y1 (eD (dJ st nd i) i (gW (iM nd) st.apps[i].asks 0)) hs1 by
      have:=xZ (s:=dJ st nd i) (i:=i) (by rw [iL];exact hil)
      rw [uH HAS i hil] at this
      rw [sJ,this]
      exact uH HS)
     have HIE:=aA (show eD (dJ st nd i) i (gW (iM nd) st.apps[i].asks st.apps[i].asks.length)=dJ st nd (i+1) by rw [wR _ _ (yJ _)];exact uH HST i hil)
     have hxl:=uH HFL i hil
     have HOKi:=aA (uH HOK i hil)
     have HCi:=aA (uH HCE _ (yM hih))
     have HIL:=aA (show i<(dJ st nd i).apps.length by rw [iL];exact hil)
     obtain ⟨asks,hak⟩:∃t,st.apps[i].asks=t:=⟨_,rfl⟩
     rw [hak] at hvl hxl HI0 HIE HOKi
     obtain ⟨v,hv⟩:∃t,hs1[i]=t:=⟨_,rfl⟩
     have HV:=aA hv
     rw [hv] at c2 hvl HCi
     obtain ⟨vi,vq,vo,vl,vc⟩:=v
     simp only at c2 hvl HCi
     have HVL:=aA hvl
     have hvl2:vl≤1048576:=by omega
     have i0:(0:Int)≤i:=by omega
     have i1:(i:Int)<al:=by omega
     have HD2:=aA (fun wr l (hh:dR (w.heap.size+1+1) wr y1 (eD (dJ st nd i) i l) hs1)=>show wr.cell? ⟨pg,i*3+2,none⟩=some (.slice vo vl vc) by
      obtain ⟨pg',e,_,_,c⟩:=hh.head hih
      rw [uH HYA] at e
      cases e
      rw [uH HV] at c
      exact c)
     clear hrow hak hv hvl hxl hil HS
     go_wp2
     clear c2 f5x
     go_loopw [14] (fun j wr=>∃k:Nat,k≤vl∧j=.int .i64 k∧Hid (dR (w.heap.size+1+1) wr y1 (eD (dJ st nd i) i (gW (iM nd) asks k)) hs1)∧Hid (Mks (aJk (w.heap.size+1+1) wc) wc wr)) (fun j _=>vl - (intOf j).toNat)
     case atStart=>exact ⟨0,Nat.zero_le _,rfl,HI0,HM⟩
     case round=>
      obtain ⟨k,hk,rfl,HSk,HMk⟩:=hrel
      obtain ⟨wk,rfl⟩:∃wo:World,wo=wr:=⟨_,rfl⟩
      clear HI0 HM
      have f5x:=uH U5 _ (uH HBX _ (uH HMk)).1
      have c2:=uH HD2 _ _ (uH HSk)
      by_cases hkl:k<vl
      ·have hka:k<asks.length:=by have:=uH HVL;omega
       obtain ⟨ga,M,rfl,hB,hgl,hcel,hM⟩:∃g M,vo=some ⟨g,0,none⟩∧(w.heap.size+1+1)≤g∧g<wc.heap.size∧Cel wc 77 g (M*5)∧vl≤M:=by
        rcases uH HCi with e | e
        ·omega
        ·exact e
       have hga:hs1[i].ao=some ⟨ga,0,none⟩:=by rw [uH HV]
       have hkm:k<(gW (iM nd) asks k).length:=by rw [iB];exact hka
       have hmk:(gW (iM nd) asks k)[k]=asks[k]:=by rw [kS _ _ hka,if_neg (Nat.lt_irrefl _)]
       obtain ⟨⟨N,hcN⟩,_,_,d0,d1,d2,d3,d4⟩:=(uH HSk).asked (uH HIL) hih hga hkm
       have HSM:=aA (fun wx (hb:Below wk.heap.size wk wx) c=>((uH HSk).below hb).miss (uH HIL) hih hga hkm c)
       have HOKq:=aA (uH HOKi k hka)
       have HSAME:=aA (fun (e:iM nd asks[k]=asks[k])=>aA6 (iM nd) asks hka e)
       have HSTEP:=aA (oG (iM nd) asks hka)
       have HPS:=aA (aFn (nd:=nd) (uH HOKi k hka))
       rw [hmk] at d0 d1 d2 d3 d4 HSM
       obtain ⟨q,hq⟩:∃q,asks[k]=q:=⟨_,rfl⟩
       rw [hq] at d0 d1 d2 d3 d4 HSM HOKq HSAME HSTEP HPS
       have CS:=aA (fun wx=>qE q nd wx)
       have hmb : -9000000000000000000≤q.missed∧q.missed≤9000000000000000000:=by
        have:=uH HOKq
        simp only [fK,yK,inB,yL] at this
        omega
       obtain ⟨me,cp,ct,nx,mi⟩:=q
       simp only at d0 d1 d2 d3 d4 HSM CS HPS hmb
       obtain ⟨su,hsu⟩:∃t,jJ ⟨me,cp,ct,nx,mi⟩ nd=t:=⟨_,rfl⟩
       rw [hsu] at CS HPS
       have j0:(0:Int)≤k:=by omega
       have j1:(k:Int)<vl:=by omega
       have HN:=aA (show wk.cell? ⟨ga,k*5+4,none⟩=some (.int .i64 mi)∧Cel wk 77 ga N from ⟨d4,hcN⟩)
       have hgk:ga<wk.heap.size:=hcN.lt
       clear hka hkm hmk hq hsu hcN HOKq
       go_wp2_with fail
       refine (uH CS _).mono ?_
       rintro e w8 ⟨rfl,hb⟩
       have B8:=aA hb
       have HM8:=aA ((uH HMk).on hb)
       clear hb CS d0 d1 d2 d3 d4 f5x c2
       by_cases hgo:su=false∧mi<1000
       case neg=>
        have HR:=aA (show dR (w.heap.size+1+1) w8 y1 (eD (dJ st nd i) i (gW (iM nd) asks (k+1))) hs1 by
         rw [uH HSAME (by rw [uH HPS,if_neg hgo])]
         exact (uH HSk).below (uH B8))
        cases su
        case true=>
         clear HSk HMk HSM HSAME HSTEP HN HPS hgo B8
         go_wp2
         go_roundw
         case rel=>exact ⟨k+1,by omega,by go_num,HR,HM8⟩
         case measure=>simp [intOf];omega
        case false=>
         have hmi:¬mi<1000:=fun h=>hgo ⟨rfl,h⟩
         have d4:=((uH B8).cell hgk).trans (uH HN).1
         have f5x:=uH U5 _ (uH HBX _ (uH HM8)).1
         have c2:=uH HD2 _ _ ((uH HSk).below (uH B8))
         clear HSk HMk HSM HSAME HSTEP HN HPS hgo B8
         go_wp2
         go_roundw
         case rel=>exact ⟨k+1,by omega,by go_num,HR,HM8⟩
         case measure=>simp [intOf];omega
       obtain ⟨rfl,hmi⟩:=hgo
       have hwm:IntKind.i64.wrap (mi+1)=mi+1:=by rw [IntKind.wrap_i64];omega
       have HR:=aA (fun wx (hx:Below wk.heap.size wk wx)=>show dR (w.heap.size+1+1) (wx.setCell ⟨ga,k*5+4,none⟩ (.int .i64 (mi+1))) y1 (eD (dJ st nd i) i (gW (iM nd) asks (k+1))) hs1 by
        rw [uH HSTEP,uH HPS,if_pos ⟨rfl,hmi⟩]
        exact uH HSM wx hx (mi+1))
       have d4:=((uH B8).cell hgk).trans (uH HN).1
       have f4:=((uH HN).2.below (uH B8)).frozen (k*5+4)
       have f5x:=uH U5 _ (uH HBX _ (uH HM8)).1
       have c2:=uH HD2 _ _ ((uH HSk).below (uH B8))
       go_upto_region 18 with fail
       obtain ⟨arr,harr,hasz⟩:=(uH HM8).cel _ _ _ hcel
       have hjs:k*5+4<arr.size:=by have:=Nat.mul_le_mul_right 5 (show k+1≤M by omega);omega
       refine vO 20 (fun wx=>wx.cell? ⟨w.heap.size,5,none⟩=some (.slice (some ⟨pg,0,none⟩) al ac)∧wx.cell? ⟨pg,i*3+2,none⟩=some (.slice (some ⟨ga,0,none⟩) vl vc)) (fun wx=>wx.cell? ⟨ga,k*5+4,none⟩=some (.int .i64 mi)) (by kernel_rfl) ⟨f5x,c2⟩ d4 (fun S0 T0=>?_)
       have harr2:Blk w8.drew ga arr 77:=harr
       have HRR:=aA (uH HR w8.drew ((uH B8).drew))
       have HMM:=aA (((uH HM8).on (yH _ w8).drew).trans (Mks.one (aJk (w.heap.size+1+1) wc) w8.drew ga (k*5+4) (.int .i64 (mi+1)) ⟨hB,_,hcel⟩))
       have S9:=And.intro (uH U5 _ (uH HBX _ (uH HMM)).1) (uH HD2 _ _ (uH HRR))
       clear f5x c2 d4 f4 HR HM8 HSk HMk HSM HSAME HSTEP HN HPS B8 harr
       generalize w8.drew=wn at S0 T0 harr2 HRR HMM S9 ⊢
       refine eP 0 95 (.pointer (some ⟨w.heap.size,5,none⟩)) rfl rfl S0 T0 ?_
       try simp only [zW]
       refine eP 1 96 (.slice (some ⟨pg,0,none⟩) al ac) rfl rfl S0 T0 ?_ (hy:=Or.inl ⟨by rfl,fun wz hz=>by have hz:=hz.1;go_simp;try with_reducible rfl⟩)
       try simp only [zW]
       refine eP 2 97 (.int .i64 (i:Int)) rfl rfl S0 T0 ?_
       try simp only [zW]
       refine eP 3 98 (.pointer (some ⟨pg,i*3,none⟩)) rfl rfl S0 T0 ?_
       try simp only [zW]
       refine eP 4 99 (.pointer (some ⟨pg,i*3+2,none⟩)) rfl rfl S0 T0 ?_
       try simp only [zW]
       refine eP 5 100 (.slice (some ⟨ga,0,none⟩) vl vc) rfl rfl S0 T0 ?_ (hy:=Or.inl ⟨by rfl,fun wz hz=>by have hz:=hz.2;go_simp;try with_reducible rfl⟩)
       try simp only [zW]
       refine eP 6 101 (.int .i64 (k:Int)) rfl rfl S0 T0 ?_
       try simp only [zW]
       refine eP 7 102 (.pointer (some ⟨w.heap.size,5,none⟩)) rfl rfl S0 T0 ?_
       try simp only [zW]
       refine eP 8 103 (.slice (some ⟨pg,0,none⟩) al ac) rfl rfl S0 T0 ?_ (hy:=Or.inl ⟨by rfl,fun wz hz=>by have hz:=hz.1;go_simp;try with_reducible rfl⟩)
       try simp only [zW]
       refine eP 9 104 (.int .i64 (i:Int)) rfl rfl S0 T0 ?_
       try simp only [zW]
       refine eP 10 105 (.pointer (some ⟨pg,i*3,none⟩)) rfl rfl S0 T0 ?_
       try simp only [zW]
       refine eP 11 106 (.pointer (some ⟨pg,i*3+2,none⟩)) rfl rfl S0 T0 ?_
       try simp only [zW]
       refine eP 12 107 (.slice (some ⟨ga,0,none⟩) vl vc) rfl rfl S0 T0 ?_ (hy:=Or.inl ⟨by rfl,fun wz hz=>by have hz:=hz.2;go_simp;try with_reducible rfl⟩)
       try simp only [zW]
       refine eP 13 108 (.int .i64 (k:Int)) rfl rfl S0 T0 ?_
       try simp only [zW]
       refine eP 14 109 (.pointer (some ⟨ga,k*5,none⟩)) rfl rfl S0 T0 ?_
       try simp only [zW]
       refine eP 15 110 (.pointer (some ⟨ga,k*5+4,none⟩)) rfl rfl S0 T0 ?_
       try simp only [zW]
       refine aJm 16 111 (.int .i64 mi) rfl rfl S0 T0 ?_
       try simp only [zW]
       refine eP 17 112 (.int .i64 (mi+1)) rfl rfl S0 T0 ?_
       try simp only [zW]
       refine eP 18 113 (.pointer (some ⟨ga,k*5,none⟩)) rfl rfl S0 T0 ?_
       try simp only [zW]
       refine eP 19 114 (.pointer (some ⟨ga,k*5+4,none⟩)) rfl rfl S0 T0 ?_
       try simp only [zW]
       refine kP [20] (dV.cons rfl (fun K hK=>aEm (by rfl) rfl (rW (aEo 3 (.int .i64 (mi+1)) harr2 hjs (by kernel_rfl) rfl)) ?_) dV.nil)
       clear S0 T0
       refine hK.out _ _ S9 (aLd (by kernel_rfl)) ?_
       clear hK K harr2 S9 hjs hasz
       try simp only [zW]
       refine vP _ _ _ _ (by kernel_rfl) ?_
       refine wpAnyH_done (by kernel_rfl) ?_ _
       generalize wn.setCell ⟨ga,k*5+4,none⟩ (.int .i64 (mi+1))=wz at HRR HMM ⊢
       go_wp2
       go_roundw
       case rel=>exact ⟨k+1,by omega,by go_num,HRR,HMM⟩
       case measure=>simp [intOf];omega
      ·have hke:k=asks.length:=by have:=uH HVL;omega
       have HN:=aA (show dR (w.heap.size+1+1) wk y1 (dJ st nd (i+1)) hs1 by rw [←uH HIE,←hke];exact uH HSk)
       have j1:¬(k:Int)<vl:=by omega
       clear HSk hke
       go_wp2
       go_roundw
       case rel=>exact ⟨i+1,by omega,by go_num,HN,HMk⟩
       case measure=>simp [intOf];omega
    ·have hie:st.apps.length≤i:=by have:=uH HL;omega
     have H7:=aA (show dR (w.heap.size+1+1) wi y1 (iK st nd) hs1 by rw [←uH HEN i hie];exact uH HS)
     have G7:=aA ((uH GV).mks (uH HM) (fun g N hc hB hS=>by obtain ⟨_,N',hc'⟩:=hS;exact absurd (hc'.type hc) (by decide)))
     have X7:=aA (show Blk wi w.heap.size (svc y1 (iK st nd)) 34 from (uH HBX _ (uH HM)).1)
     have Q7:=aA (uH HBX _ (uH HM)).2
     have B7:=aA ((uH B6).trans ((uH HM).below (fun k hk=>by have:=hk.1;omega) (uH B6).size))
     have j1:¬(i:Int)<al:=by omega
     clear HS HM HBX U5 X6 Q6 B6 GV
     obtain ⟨w7,rfl⟩:∃wo:World,wo=wi:=⟨_,rfl⟩
     go_upto_region 19 with fail
     clear f5x
     refine wp_region_lit ?_
     refine cO (v:=sv y1 (iK st nd)) (d:=some 115) rfl rfl (mI (vT (uH X7) rfl)) ?_
     simp only [zW]
     refine cO (v:=.slice go L.length gc) (d:=some 116) rfl rfl rfl ?_
     simp only [zW]
     refine eF (d:=none) rfl rfl (rW (qC (uH Q7) rfl rfl (by kernel_rfl))) ?_
     simp only [Act.put]
     have RR:=aA (jG (uH Q7) (svc y1 (iK st nd)))
     have MM:=kD (uH Q7) (svc y1 (iK st nd)) rfl
     have H9:=aA ((uH H7).low MM (by omega))
     have G9:=aA ((uH G7).mks MM (fun g N hc hB hS=>by have:g=w.heap.size+1:=hS;omega))
     have B9:=aA ((uH B7).trans (MM.below (fun k e=>by subst e;omega) (uH B7).size))
     generalize World.setRow w7 (w.heap.size+1) (svc y1 (iK st nd))=w9 at RR H9 G9 B9 ⊢
     obtain ⟨z0,z1,z2,z3,z4,z5,z6,z7⟩:=zq (uH RR)
     clear MM H7 G7 X7 Q7 B7 RR
     go_wp2
     refine bodyPost_ret (v:=.tuple #[sv y1 (iK st nd),.slice go L.length gc]) (by simp [results,Tryz.results13,go_sem,z0,z1,z2,z3,z4,z5,z6,z7]) rfl ?_
     rw [uH HA0]
     exact xL (uH H9) (uH G9) (uH B9)
end
end Go.Proofs.YtdhibeclkdepiaaGreat
