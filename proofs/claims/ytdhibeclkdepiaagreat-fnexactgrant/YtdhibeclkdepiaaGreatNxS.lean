/-
  The container that would be given next, by the model: l05Id, l05Next, NextGrant; walks over the dump.
-/
import Derived.Test.YtdhibeclkdepiaaGreatPickS
set_option maxRecDepth 100000
set_option maxHeartbeats 16000000
set_option linter.unusedVariables false
set_option linter.unusedSimpArgs false
namespace Go.Proofs.YtdhibeclkdepiaaGreat
section
open Go.RowKit Go.Maps
def atS:Option ((Nat×Nat)×Con)→Int×Int
 | some r=>((r.1.1:Int),(r.1.2:Int))
 | none=>(-1,-1)
theorem l05Id_any (x:Sls) (s:St) (w:World) (he:0≤s.epoch∧s.epoch≤1000000000) (hs:0≤s.serial∧s.serial≤1000000000) :
  Calls Tryz.prog 97 #[sv x s] w fun e w'=>e=.returned (.int .i64 (idV s))∧Below w.heap.size w w':=by
 have HI:=hide (show idV s=s.epoch*100000+s.serial % 100000 from rfl)
 have hm:=Int.emod_nonneg s.serial (show (100000:Int)≠0 by decide)
 have hm2:=Int.emod_lt_of_pos s.serial (show (0:Int)<100000 by decide)
 obtain ⟨d,hd⟩:∃d,idV s=d:=⟨_,rfl⟩
 rw [hd] at HI ⊢
 clear hd
 obtain ⟨qa,ql,qc,aa,al,ac,ma,ml,mc,ca,cl,cc⟩:=x
 obtain ⟨qs,clock,epoch,next,serial,apps,ms,cs⟩:=s
 simp only at HI he hs hm hm2
 have HB0:=hide (yA (Below.refl _ w) (.cells (svc ⟨qa,ql,qc,aa,al,ac,ma,ml,mc,ca,cl,cc⟩ ⟨qs,clock,epoch,next,serial,apps,ms,cs⟩) 34))
 have hmt:serial.tmod 100000=serial % 100000:=Int.tmod_eq_emod_of_nonneg hs.1
 obtain ⟨sm,hsm⟩:∃z,serial % 100000=z:=⟨_,rfl⟩
 rw [hsm] at hmt hm hm2 HI
 go_enter Tryz.func97,Tryz.ntmps97
 go_wp2
 go_ret
 exact ⟨ret_int (uH HI).symm,uH HB0⟩
theorem l05Next_any (x:Sls) (s:St) (nd:List UInt8) (w:World) (h:SRow w x s) (hf:FitSt s) (he:0≤s.epoch∧s.epoch≤1000000000) (hse:0≤s.serial∧s.serial≤1000000000) :
  Calls Tryz.prog 57 #[sv x s,.string (bs nd)] w fun e w'=>e=.returned (.tuple #[conv (conOf (nextV s nd)),.int .i64 (atS (nextV s nd)).1,.int .i64 (atS (nextV s nd)).2])∧Below w.heap.size w w':=by
 have hml:x.ml≤1048576:=h.ml hf
 have CI:=hide (fun wx=>l05Id_any x s wx he hse)
 have CM:=hide (fun wx (hb:Below w.heap.size w wx)=>l04Machine_any x s nd wx (h.2.2.1.below hb) hml)
 have CP:=hide (fun wx (hb:Below w.heap.size w wx)=>l05Pick_any x s nd wx (h.below hb) hf)
 have HR:=hide h.2.1
 have HRC:=hide h.2.2.2
 have hcl:x.cl=s.cs.length:=h.len.2.2.2
 have hcm:x.cl≤1048576:=by have:=hf.2.2.2.1;omega
 have HG:=hide (show nextV s nd=if ((findM nd s.ms).isSome&&(decide (x.cl<150)&&(decide (idV s≤1000000000)&&!(s.cs.any fun c=>c.id==idV s))))=true then (pickV s nd).map fun r=>(r,grantC s nd r) else none by rw [nextV,mayV,hcl,freeIdV])
 have HP:=hide (fun (r:Nat×Nat) (hr:pickV s nd=some r)=>pick_at hr)
 have HC:=hide (fun (r:Nat×Nat) (h1:r.1<s.apps.length) (h2:r.2<s.apps[r.1].asks.length)=>grantC_at (s:=s) (nd:=nd) h1 h2)
 have HCL:=hide hcl
 have HAL:=hide h.2.1.1
 have hal:x.al≤1048576:=h.al hf
 have HFA:=hide hf.2.1
 have hat:=macAt_find nd s.ms
 obtain ⟨gv,hgv⟩:∃g,nextV s nd=g:=⟨_,rfl⟩
 obtain ⟨gc,hgc⟩:∃g,grantC s nd=g:=⟨_,rfl⟩
 obtain ⟨pk,hpk⟩:∃g,pickV s nd=g:=⟨_,rfl⟩
 obtain ⟨fm,hfm⟩:∃g,(findM nd s.ms).isSome=g:=⟨_,rfl⟩
 obtain ⟨mp,hmp⟩:∃g,macAt s.ms nd=g:=⟨_,rfl⟩
 have HMP:=hide (show (fm=true→0≤mp)∧(fm=false→mp = -1) by
  rcases hat with ⟨a,b⟩ | ⟨j,hj,a,b⟩
  ·rw [←hfm,←hmp,a,b];simp
  ·rw [←hfm,←hmp,a,b];simp)
 obtain ⟨id,hid⟩:∃g,idV s=g:=⟨_,rfl⟩
 rw [hgv,hfm,hpk,hgc,hid] at HG
 rw [hgv]
 rw [hmp] at CM
 rw [hid] at CI
 rw [hpk] at CP HP
 rw [hgc,hid] at HC
 obtain ⟨⟨pi,pj⟩,hpl⟩:∃g,plS pk=g:=⟨_,rfl⟩
 rw [hpl] at CP
 simp only at CP
 have HPL:=hide hpl
 clear hpl h hf he hse hat hgv hgc hpk hfm hmp hid hcl
 obtain ⟨qa,ql,qc,aa,al,ac,ma,ml,mc,ca,cl,cc⟩:=x
 obtain ⟨qs,clock,epoch,next,serial,apps,ms,cs⟩:=s
 simp only at CI CM CP HR HRC HCL HG HC HP HAL HFA hal hcm hml
 have HB0:=hide (yA (yA (Below.refl _ w) (.cells (svc ⟨qa,ql,qc,aa,al,ac,ma,ml,mc,ca,cl,cc⟩ ⟨qs,clock,epoch,next,serial,apps,ms,cs⟩) 34)) (.cells #[.int .i64 0,.int .i64 0,.string ByteArray.empty,.int .i64 0,.int .i64 0] 38))
 have P0:=hide ((yD w (svc ⟨qa,ql,qc,aa,al,ac,ma,ml,mc,ca,cl,cc⟩ ⟨qs,clock,epoch,next,serial,apps,ms,cs⟩) 34).al (.cells #[.int .i64 0,.int .i64 0,.string ByteArray.empty,.int .i64 0,.int .i64 0] 38))
 have T0:=hide (show Blk _ (w.heap.size+1) #[.int .i64 0,.int .i64 0,.string ByteArray.empty,.int .i64 0,.int .i64 0] 38 by have:=yD (w.alloc (.cells (svc ⟨qa,ql,qc,aa,al,ac,ma,ml,mc,ca,cl,cc⟩ ⟨qs,clock,epoch,next,serial,apps,ms,cs⟩) 34)) #[.int .i64 0,.int .i64 0,.string ByteArray.empty,.int .i64 0,.int .i64 0] 38;rw [yE] at this;exact this)
 go_enter Tryz.func57,Tryz.ntmps57
 go_wp2_with fail
 refine (uH CI _).mono ?_
 rintro e w1 ⟨rfl,hb⟩
 have HB1:=hide (yB (uH HB0) hb)
 have P1:=hide ((uH P0).below hb)
 have T1:=hide ((uH T0).below hb)
 clear hb HB0 P0 T0 CI
 have q0:=(uH P1).at 0;have q1:=(uH P1).at 1;have q2:=(uH P1).at 2;have q3:=(uH P1).at 3;have q4:=(uH P1).at 4;have q5:=(uH P1).at 5;have q6:=(uH P1).at 6;have q7:=(uH P1).at 7
 simp at q0 q1 q2 q3 q4 q5 q6 q7
 go_wp2_with fail
 refine (uH CM _ (uH HB1)).mono ?_
 rintro e w2 ⟨rfl,hb⟩
 have HB2:=hide (yB (uH HB1) hb)
 have P2:=hide ((uH P1).below hb)
 have T2:=hide ((uH T1).below hb)
 clear hb HB1 P1 T1 CM q0 q1 q2 q3 q4 q5 q6 q7
 have q0:=(uH P2).at 0;have q1:=(uH P2).at 1;have q2:=(uH P2).at 2;have q3:=(uH P2).at 3;have q4:=(uH P2).at 4;have q5:=(uH P2).at 5;have q6:=(uH P2).at 6;have q7:=(uH P2).at 7
 simp at q0 q1 q2 q3 q4 q5 q6 q7
 cases fm
 case false=>
  have hmp:mp = -1:=(uH HMP).2 rfl
  subst hmp
  have HE:=hide (show gv=none from by rw [uH HG];rfl)
  have k0:=(uH T2).at 0;have k1:=(uH T2).at 1;have k2:=(uH T2).at 2;have k3:=(uH T2).at 3;have k4:=(uH T2).at 4
  have f0:=(uH T2).f 0;have f1:=(uH T2).f 1;have f2:=(uH T2).f 2;have f3:=(uH T2).f 3;have f4:=(uH T2).f 4
  simp at k0 k1 k2 k3 k4
  have HX:=hide (show Blk (((((w2.setCell ⟨w.heap.size+1,0,none⟩ (.int .i64 0)).setCell ⟨w.heap.size+1,1,none⟩ (.int .i64 0)).setCell ⟨w.heap.size+1,2,none⟩ (.string (⟨#[]⟩:ByteArray))).setCell ⟨w.heap.size+1,3,none⟩ (.int .i64 0)).setCell ⟨w.heap.size+1,4,none⟩ (.int .i64 0)) (w.heap.size+1) #[.int .i64 0,.int .i64 0,.string (⟨#[]⟩:ByteArray),.int .i64 0,.int .i64 0] 38 from (((((uH T2).set 0 (.int .i64 0)).set 1 (.int .i64 0)).set 2 (.string (⟨#[]⟩:ByteArray))).set 3 (.int .i64 0)).set 4 (.int .i64 0))
  have HY:=hide (yC (yC (yC (yC (yC (uH HB2) (w.heap.size+1) 0 (.int .i64 0) (by omega)) (w.heap.size+1) 1 (.int .i64 0) (by omega)) (w.heap.size+1) 2 (.string (⟨#[]⟩:ByteArray)) (by omega)) (w.heap.size+1) 3 (.int .i64 0) (by omega)) (w.heap.size+1) 4 (.int .i64 0) (by omega))
  go_wp2
  generalize (((((w2.setCell ⟨w.heap.size+1,0,none⟩ (.int .i64 0)).setCell ⟨w.heap.size+1,1,none⟩ (.int .i64 0)).setCell ⟨w.heap.size+1,2,none⟩ (.string (⟨#[]⟩:ByteArray))).setCell ⟨w.heap.size+1,3,none⟩ (.int .i64 0)).setCell ⟨w.heap.size+1,4,none⟩ (.int .i64 0))=W9 at HX HY ⊢
  have z0:=(uH HX).at 0;have z1:=(uH HX).at 1;have z2:=(uH HX).at 2;have z3:=(uH HX).at 3;have z4:=(uH HX).at 4
  simp at z0 z1 z2 z3 z4
  refine bodyPost_ret (v:=.tuple #[conv ⟨0,0,[],0,0⟩,.int .i64 (-1),.int .i64 (-1)]) (by simp [results,Tryz.results57,go_sem,z0,z1,z2,z3,z4];try rfl) rfl ⟨by rw [uH HE];rfl,uH HY⟩
 have hmp:0≤mp:=(uH HMP).1 rfl
 have hmn:¬mp<0:=by omega
 by_cases hlt:cl<150
 case neg=>
  have hl1:(150:Int)≤cl:=by omega
  have HE:=hide (show gv=none from by rw [uH HG,decide_eq_false hlt];rfl)
  have k0:=(uH T2).at 0;have k1:=(uH T2).at 1;have k2:=(uH T2).at 2;have k3:=(uH T2).at 3;have k4:=(uH T2).at 4
  have f0:=(uH T2).f 0;have f1:=(uH T2).f 1;have f2:=(uH T2).f 2;have f3:=(uH T2).f 3;have f4:=(uH T2).f 4
  simp at k0 k1 k2 k3 k4
  have HX:=hide (show Blk (((((w2.setCell ⟨w.heap.size+1,0,none⟩ (.int .i64 0)).setCell ⟨w.heap.size+1,1,none⟩ (.int .i64 0)).setCell ⟨w.heap.size+1,2,none⟩ (.string (⟨#[]⟩:ByteArray))).setCell ⟨w.heap.size+1,3,none⟩ (.int .i64 0)).setCell ⟨w.heap.size+1,4,none⟩ (.int .i64 0)) (w.heap.size+1) #[.int .i64 0,.int .i64 0,.string (⟨#[]⟩:ByteArray),.int .i64 0,.int .i64 0] 38 from (((((uH T2).set 0 (.int .i64 0)).set 1 (.int .i64 0)).set 2 (.string (⟨#[]⟩:ByteArray))).set 3 (.int .i64 0)).set 4 (.int .i64 0))
  have HY:=hide (yC (yC (yC (yC (yC (uH HB2) (w.heap.size+1) 0 (.int .i64 0) (by omega)) (w.heap.size+1) 1 (.int .i64 0) (by omega)) (w.heap.size+1) 2 (.string (⟨#[]⟩:ByteArray)) (by omega)) (w.heap.size+1) 3 (.int .i64 0) (by omega)) (w.heap.size+1) 4 (.int .i64 0) (by omega))
  go_wp2
  generalize (((((w2.setCell ⟨w.heap.size+1,0,none⟩ (.int .i64 0)).setCell ⟨w.heap.size+1,1,none⟩ (.int .i64 0)).setCell ⟨w.heap.size+1,2,none⟩ (.string (⟨#[]⟩:ByteArray))).setCell ⟨w.heap.size+1,3,none⟩ (.int .i64 0)).setCell ⟨w.heap.size+1,4,none⟩ (.int .i64 0))=W9 at HX HY ⊢
  have z0:=(uH HX).at 0;have z1:=(uH HX).at 1;have z2:=(uH HX).at 2;have z3:=(uH HX).at 3;have z4:=(uH HX).at 4
  simp at z0 z1 z2 z3 z4
  refine bodyPost_ret (v:=.tuple #[conv ⟨0,0,[],0,0⟩,.int .i64 (-1),.int .i64 (-1)]) (by simp [results,Tryz.results57,go_sem,z0,z1,z2,z3,z4];try rfl) rfl ⟨by rw [uH HE];rfl,uH HY⟩
 have hl1:¬(150:Int)≤cl:=by omega
 by_cases hidl:id≤1000000000
 case neg=>
  have hl2:(1000000000:Int)<id:=by omega
  have HE:=hide (show gv=none from by rw [uH HG,decide_eq_true hlt,decide_eq_false hidl];rfl)
  have k0:=(uH T2).at 0;have k1:=(uH T2).at 1;have k2:=(uH T2).at 2;have k3:=(uH T2).at 3;have k4:=(uH T2).at 4
  have f0:=(uH T2).f 0;have f1:=(uH T2).f 1;have f2:=(uH T2).f 2;have f3:=(uH T2).f 3;have f4:=(uH T2).f 4
  simp at k0 k1 k2 k3 k4
  have HX:=hide (show Blk (((((w2.setCell ⟨w.heap.size+1,0,none⟩ (.int .i64 0)).setCell ⟨w.heap.size+1,1,none⟩ (.int .i64 0)).setCell ⟨w.heap.size+1,2,none⟩ (.string (⟨#[]⟩:ByteArray))).setCell ⟨w.heap.size+1,3,none⟩ (.int .i64 0)).setCell ⟨w.heap.size+1,4,none⟩ (.int .i64 0)) (w.heap.size+1) #[.int .i64 0,.int .i64 0,.string (⟨#[]⟩:ByteArray),.int .i64 0,.int .i64 0] 38 from (((((uH T2).set 0 (.int .i64 0)).set 1 (.int .i64 0)).set 2 (.string (⟨#[]⟩:ByteArray))).set 3 (.int .i64 0)).set 4 (.int .i64 0))
  have HY:=hide (yC (yC (yC (yC (yC (uH HB2) (w.heap.size+1) 0 (.int .i64 0) (by omega)) (w.heap.size+1) 1 (.int .i64 0) (by omega)) (w.heap.size+1) 2 (.string (⟨#[]⟩:ByteArray)) (by omega)) (w.heap.size+1) 3 (.int .i64 0) (by omega)) (w.heap.size+1) 4 (.int .i64 0) (by omega))
  go_wp2
  generalize (((((w2.setCell ⟨w.heap.size+1,0,none⟩ (.int .i64 0)).setCell ⟨w.heap.size+1,1,none⟩ (.int .i64 0)).setCell ⟨w.heap.size+1,2,none⟩ (.string (⟨#[]⟩:ByteArray))).setCell ⟨w.heap.size+1,3,none⟩ (.int .i64 0)).setCell ⟨w.heap.size+1,4,none⟩ (.int .i64 0))=W9 at HX HY ⊢
  have z0:=(uH HX).at 0;have z1:=(uH HX).at 1;have z2:=(uH HX).at 2;have z3:=(uH HX).at 3;have z4:=(uH HX).at 4
  simp at z0 z1 z2 z3 z4
  refine bodyPost_ret (v:=.tuple #[conv ⟨0,0,[],0,0⟩,.int .i64 (-1),.int .i64 (-1)]) (by simp [results,Tryz.results57,go_sem,z0,z1,z2,z3,z4];try rfl) rfl ⟨by rw [uH HE];rfl,uH HY⟩
 have hl2:¬(1000000000:Int)<id:=by omega
 have HG2:=hide (show gv=if (cs.any fun c=>c.id==id)=true then none else pk.map (fun r=>(r,gc r)) from by
  rw [uH HG,decide_eq_true hlt,decide_eq_true hidl]
  cases (cs.any fun c=>c.id==id)<;>rfl)
 clear HG
 go_wp2_with fail
 clear q0 q1 q2 q3 q4 q5 q6 q7
 go_loopw [8] (fun i wr=>∃k:Nat,k≤cl∧i=.int .i64 k∧Hid ((cs.any fun c=>c.id==id)=((cs.drop k).any fun c=>c.id==id))∧Hid (Below w2.heap.size w2 wr)) (fun i _=>cl - (intOf i).toNat)
 case atStart=>exact ⟨0,Nat.zero_le _,rfl,hide rfl,hide (Below.refl _ _)⟩
 case round=>
  obtain ⟨k,hk,rfl,HA,HK⟩:=hrel
  obtain ⟨wk,rfl⟩:∃wo:World,wo=wr:=⟨_,rfl⟩
  have HBk:=hide (yB (uH HB2) (uH HK))
  have Pk:=hide ((uH P2).below (uH HK))
  have Tk:=hide ((uH T2).below (uH HK))
  have q0:=(uH Pk).at 0;have q1:=(uH Pk).at 1;have q2:=(uH Pk).at 2;have q3:=(uH Pk).at 3;have q4:=(uH Pk).at 4;have q5:=(uH Pk).at 5;have q6:=(uH Pk).at 6;have q7:=(uH Pk).at 7
  simp at q0 q1 q2 q3 q4 q5 q6 q7
  by_cases hkl:k<cl
  ·obtain ⟨ab,aoff,rfl,ha⟩:=((uH HRC).below (uH HBk)).at hkl
   have hjk:k<cs.length:=by have:=uH HCL;omega
   obtain ⟨d0,d1,d2,d3,d4⟩:=ha hjk
   have hst:((cs.drop k).any fun c=>c.id==id)=(cs[k].id==id||(cs.drop (k+1)).any fun c=>c.id==id):=by rw [List.drop_eq_getElem_cons hjk,List.any_cons]
   obtain ⟨⟨ci,ca',cn,cm,cu⟩,hs⟩:∃s,cs[k]=s:=⟨_,rfl⟩
   rw [hs] at d0 d1 d2 d3 d4 hst
   simp only at d0 d1 d2 d3 d4 hst
   have HST:=hide hst
   have j0:(0:Int)≤k:=by omega
   have j1:(k:Int)<cl:=by omega
   clear ha hs hjk hst
   by_cases hce:ci=id
   ·subst hce
    have HE:=hide (show gv=none from by rw [uH HG2,uH HA,uH HST];simp)
    have k0:=(uH Tk).at 0;have k1:=(uH Tk).at 1;have k2:=(uH Tk).at 2;have k3:=(uH Tk).at 3;have k4:=(uH Tk).at 4
    have f0:=(uH Tk).f 0;have f1:=(uH Tk).f 1;have f2:=(uH Tk).f 2;have f3:=(uH Tk).f 3;have f4:=(uH Tk).f 4
    simp at k0 k1 k2 k3 k4
    have HX:=hide (show Blk (((((wk.setCell ⟨w.heap.size+1,0,none⟩ (.int .i64 0)).setCell ⟨w.heap.size+1,1,none⟩ (.int .i64 0)).setCell ⟨w.heap.size+1,2,none⟩ (.string (⟨#[]⟩:ByteArray))).setCell ⟨w.heap.size+1,3,none⟩ (.int .i64 0)).setCell ⟨w.heap.size+1,4,none⟩ (.int .i64 0)) (w.heap.size+1) #[.int .i64 0,.int .i64 0,.string (⟨#[]⟩:ByteArray),.int .i64 0,.int .i64 0] 38 from (((((uH Tk).set 0 (.int .i64 0)).set 1 (.int .i64 0)).set 2 (.string (⟨#[]⟩:ByteArray))).set 3 (.int .i64 0)).set 4 (.int .i64 0))
    have HY:=hide (yC (yC (yC (yC (yC (uH HBk) (w.heap.size+1) 0 (.int .i64 0) (by omega)) (w.heap.size+1) 1 (.int .i64 0) (by omega)) (w.heap.size+1) 2 (.string (⟨#[]⟩:ByteArray)) (by omega)) (w.heap.size+1) 3 (.int .i64 0) (by omega)) (w.heap.size+1) 4 (.int .i64 0) (by omega))
    go_wp2
    generalize (((((wk.setCell ⟨w.heap.size+1,0,none⟩ (.int .i64 0)).setCell ⟨w.heap.size+1,1,none⟩ (.int .i64 0)).setCell ⟨w.heap.size+1,2,none⟩ (.string (⟨#[]⟩:ByteArray))).setCell ⟨w.heap.size+1,3,none⟩ (.int .i64 0)).setCell ⟨w.heap.size+1,4,none⟩ (.int .i64 0))=W9 at HX HY ⊢
    have z0:=(uH HX).at 0;have z1:=(uH HX).at 1;have z2:=(uH HX).at 2;have z3:=(uH HX).at 3;have z4:=(uH HX).at 4
    simp at z0 z1 z2 z3 z4
    refine bodyPost_ret (v:=.tuple #[conv ⟨0,0,[],0,0⟩,.int .i64 (-1),.int .i64 (-1)]) (by simp [results,Tryz.results57,go_sem,z0,z1,z2,z3,z4];try rfl) rfl ⟨by rw [uH HE];rfl,uH HY⟩
   ·have HN:=hide (show (cs.any fun c=>c.id==id)=((cs.drop (k+1)).any fun c=>c.id==id) by rw [uH HA,uH HST,beq_eq_false_iff_ne.2 hce,Bool.false_or])
    go_wp2
    go_roundw
    case rel=>exact ⟨k+1,by omega,by go_num,HN,HK⟩
    case measure=>simp [intOf];omega
  ·have HG3:=hide (show gv=pk.map (fun r=>(r,gc r)) from by
    have h1:=uH HA
    rw [List.drop_of_length_le (by have:=uH HCL;omega)] at h1
    rw [uH HG2,h1]
    rfl)
   have j1:¬(k:Int)<cl:=by omega
   clear HA HG2
   go_wp2_with fail
   refine (uH CP _ (uH HBk)).mono ?_
   rintro e w3 ⟨rfl,hb⟩
   have HB3:=hide (yB (uH HBk) hb)
   have P3:=hide ((uH Pk).below hb)
   have T3:=hide ((uH Tk).below hb)
   clear hb HBk Pk Tk CP q0 q1 q2 q3 q4 q5 q6 q7
   cases hp:pk
   case none=>
    obtain ⟨rfl,rfl⟩:pi = -1∧pj = -1:=by have h1:=uH HPL;rw [hp] at h1;simp only [plS,Prod.mk.injEq] at h1;exact ⟨h1.1.symm,h1.2.symm⟩
    have HE:=hide (show gv=none from by rw [uH HG3,hp];rfl)
    have k0:=(uH T3).at 0;have k1:=(uH T3).at 1;have k2:=(uH T3).at 2;have k3:=(uH T3).at 3;have k4:=(uH T3).at 4
    have f0:=(uH T3).f 0;have f1:=(uH T3).f 1;have f2:=(uH T3).f 2;have f3:=(uH T3).f 3;have f4:=(uH T3).f 4
    simp at k0 k1 k2 k3 k4
    have HX:=hide (show Blk (((((w3.setCell ⟨w.heap.size+1,0,none⟩ (.int .i64 0)).setCell ⟨w.heap.size+1,1,none⟩ (.int .i64 0)).setCell ⟨w.heap.size+1,2,none⟩ (.string (⟨#[]⟩:ByteArray))).setCell ⟨w.heap.size+1,3,none⟩ (.int .i64 0)).setCell ⟨w.heap.size+1,4,none⟩ (.int .i64 0)) (w.heap.size+1) #[.int .i64 0,.int .i64 0,.string (⟨#[]⟩:ByteArray),.int .i64 0,.int .i64 0] 38 from (((((uH T3).set 0 (.int .i64 0)).set 1 (.int .i64 0)).set 2 (.string (⟨#[]⟩:ByteArray))).set 3 (.int .i64 0)).set 4 (.int .i64 0))
    have HY:=hide (yC (yC (yC (yC (yC (uH HB3) (w.heap.size+1) 0 (.int .i64 0) (by omega)) (w.heap.size+1) 1 (.int .i64 0) (by omega)) (w.heap.size+1) 2 (.string (⟨#[]⟩:ByteArray)) (by omega)) (w.heap.size+1) 3 (.int .i64 0) (by omega)) (w.heap.size+1) 4 (.int .i64 0) (by omega))
    go_wp2
    generalize (((((w3.setCell ⟨w.heap.size+1,0,none⟩ (.int .i64 0)).setCell ⟨w.heap.size+1,1,none⟩ (.int .i64 0)).setCell ⟨w.heap.size+1,2,none⟩ (.string (⟨#[]⟩:ByteArray))).setCell ⟨w.heap.size+1,3,none⟩ (.int .i64 0)).setCell ⟨w.heap.size+1,4,none⟩ (.int .i64 0))=W9 at HX HY ⊢
    have z0:=(uH HX).at 0;have z1:=(uH HX).at 1;have z2:=(uH HX).at 2;have z3:=(uH HX).at 3;have z4:=(uH HX).at 4
    simp at z0 z1 z2 z3 z4
    refine bodyPost_ret (v:=.tuple #[conv ⟨0,0,[],0,0⟩,.int .i64 (-1),.int .i64 (-1)]) (by simp [results,Tryz.results57,go_sem,z0,z1,z2,z3,z4];try rfl) rfl ⟨by rw [uH HE];rfl,uH HY⟩
   case some r=>
    obtain ⟨i,k2⟩:=r
    obtain ⟨rfl,rfl⟩:(i:Int)=pi∧(k2:Int)=pj:=by have h1:=uH HPL;rw [hp] at h1;simp only [plS,Prod.mk.injEq] at h1;exact h1
    obtain ⟨hkl2,hjk⟩:=uH HP _ hp
    simp only at hkl2 hjk
    have hgc:=uH HC (i,k2) hkl2 hjk
    simp only at hgc
    have hil:i<al:=by have:=uH HAL;omega
    obtain ⟨bb,off,rfl,hqa⟩:=(uH HR).at hil
    have hfa:=(uH HFA).2 _ (List.getElem_mem hkl2)
    obtain ⟨xo,xl,xc,c0,c1,c2,hrow,_⟩:=hqa hkl2
    obtain ⟨⟨ai,qu,asks⟩,hs'⟩:∃s,apps[i]=s:=⟨_,rfl⟩
    have hjk2:k2<asks.length:=by have:=hjk;rw [hs'] at this;exact this
    have hgc2:gc (i,k2)=⟨id,ai,nd,asks[k2].mem,asks[k2].cpu⟩:=by simp only [hgc,hs']
    rw [hs'] at c0 c1 hrow hfa
    simp only at c0 c1 hrow
    have hxl:xl≤1048576:=by have h1:=hrow.1;have h2:=hfa.2.1;simp only at h2;omega
    have hkx:k2<xl:=by have:=hrow.1;omega
    obtain ⟨ab,aoff,rfl,ha⟩:=hrow.at hkx
    obtain ⟨d0,d1,d2,d3,d4⟩:=ha hjk2
    obtain ⟨⟨me,cp,ct,nx,mi⟩,hsa⟩:∃s,asks[k2]=s:=⟨_,rfl⟩
    rw [hsa] at hgc2 d0 d1 d2 d3 d4
    simp only at hgc2 d0 d1 d2 d3 d4
    have HGC:=hide hgc2
    have HE:=hide (show gv=some ((i,k2),gc (i,k2)) from by rw [uH HG3,hp];rfl)
    have i0:(0:Int)≤i:=by omega
    have i1:(i:Int)<al:=by omega
    have i2:¬(i:Int)<0:=by omega
    have j2:(0:Int)≤k2:=by omega
    have j3:(k2:Int)<xl:=by omega
    clear hqa hgc hgc2 hfa hrow hjk ha hp hs' hsa
    go_wp2_with fail
    have S6:=hide (show HBk w [(w.heap.size,svc ⟨qa,ql,qc,some ⟨bb,off,none⟩,al,ac,ma,ml,mc,ca,cl,cc⟩ ⟨qs,clock,epoch,next,serial,apps,ms,cs⟩,34)] w3 from ⟨fun p hp=>by
     simp only [List.mem_cons,List.not_mem_nil,or_false] at hp
     subst hp
     exact uH P3,uH HB3⟩)
    have R:∀wx,HBk w [(w.heap.size,svc ⟨qa,ql,qc,some ⟨bb,off,none⟩,al,ac,ma,ml,mc,ca,cl,cc⟩ ⟨qs,clock,epoch,next,serial,apps,ms,cs⟩,34)] wx→wx.cell? ⟨w.heap.size,5,none⟩=some (.slice (some ⟨bb,off,none⟩) al ac)∧wx.cell? ⟨bb,off+i*3,none⟩=some (.int .i64 ai)∧wx.cell? ⟨bb,off+i*3+2,none⟩=some (.slice (some ⟨ab,aoff,none⟩) xl xc)∧wx.cell? ⟨ab,aoff+k2*5,none⟩=some (.int .i64 me)∧wx.cell? ⟨ab,aoff+k2*5+1,none⟩=some (.int .i64 cp):=fun wx h=>by
     have v1:=h.blk (g:=w.heap.size) (c:=svc ⟨qa,ql,qc,some ⟨bb,off,none⟩,al,ac,ma,ml,mc,ca,cl,cc⟩ ⟨qs,clock,epoch,next,serial,apps,ms,cs⟩) (t:=34) (by simp)
     exact ⟨by simpa using v1.at 5,h.cell c0,h.cell c2,h.cell d0,h.cell d1⟩
    have k0:=(uH T3).at 0;have k1:=(uH T3).at 1;have k2':=(uH T3).at 2;have k3:=(uH T3).at 3;have k4:=(uH T3).at 4
    have f0:=(uH T3).f 0;have f1:=(uH T3).f 1;have f2:=(uH T3).f 2;have f3:=(uH T3).f 3;have f4:=(uH T3).f 4
    simp at k0 k1 k2' k3 k4
    have hn1:∀p ∈ [(w.heap.size,svc ⟨qa,ql,qc,some ⟨bb,off,none⟩,al,ac,ma,ml,mc,ca,cl,cc⟩ ⟨qs,clock,epoch,next,serial,apps,ms,cs⟩,(34:TypeId))],p.1≠w.heap.size+1:=fun p hp=>by
     simp only [List.mem_cons,List.not_mem_nil,or_false] at hp
     subst hp
     simp only
     omega
    have HN1:=hide hn1
    have hw1:w.heap.size≤w.heap.size+1:=by omega
    clear hn1 c0 c1 c2 d0 d1 d2 d3 d4
    have SB:=(show HBk w [(w.heap.size,svc ⟨qa,ql,qc,some ⟨bb,off,none⟩,al,ac,ma,ml,mc,ca,cl,cc⟩ ⟨qs,clock,epoch,next,serial,apps,ms,cs⟩,34)] ((((((w3.setCell ⟨w.heap.size+1,0,none⟩ (.int .i64 id)).setCell ⟨w.heap.size+1,1,none⟩ (.int .i64 ai)).setCell ⟨w.heap.size+1,2,none⟩ (.string (bs nd))).setCell ⟨w.heap.size+1,3,none⟩ (.int .i64 me)).setCell ⟨w.heap.size+1,4,none⟩ (.int .i64 cp)).drew) from (HBk.set (HBk.set (HBk.set (HBk.set (HBk.set (uH S6) _ _ _ hw1 (uH HN1)) _ _ _ hw1 (uH HN1)) _ _ _ hw1 (uH HN1)) _ _ _ hw1 (uH HN1)) _ _ _ hw1 (uH HN1)).drew)
    go_region_held3 (fun wx=>HBk w [(w.heap.size,svc ⟨qa,ql,qc,some ⟨bb,off,none⟩,al,ac,ma,ml,mc,ca,cl,cc⟩ ⟨qs,clock,epoch,next,serial,apps,ms,cs⟩,34)] wx)
     (first | (with_reducible assumption) | (with_reducible exact (uH S6).drew))
     (fail)
    have T4:=hide ((uH T3).drew)
    have HX:=hide (show Blk ((((((w3.setCell ⟨w.heap.size+1,0,none⟩ (.int .i64 id)).setCell ⟨w.heap.size+1,1,none⟩ (.int .i64 ai)).setCell ⟨w.heap.size+1,2,none⟩ (.string (bs nd))).setCell ⟨w.heap.size+1,3,none⟩ (.int .i64 me)).setCell ⟨w.heap.size+1,4,none⟩ (.int .i64 cp)).drew) (w.heap.size+1) #[.int .i64 id,.int .i64 ai,.string (bs nd),.int .i64 me,.int .i64 cp] 38 from ((((((uH T3).set 0 (.int .i64 id)).set 1 (.int .i64 ai)).set 2 (.string (bs nd))).set 3 (.int .i64 me)).set 4 (.int .i64 cp)).drew)
    have HY:=hide ((yC (yC (yC (yC (yC (uH HB3) (w.heap.size+1) 0 (.int .i64 id) (by omega)) (w.heap.size+1) 1 (.int .i64 ai) (by omega)) (w.heap.size+1) 2 (.string (bs nd)) (by omega)) (w.heap.size+1) 3 (.int .i64 me) (by omega)) (w.heap.size+1) 4 (.int .i64 cp) (by omega)).drew)
    go_wp2
    generalize ((((((w3.setCell ⟨w.heap.size+1,0,none⟩ (.int .i64 id)).setCell ⟨w.heap.size+1,1,none⟩ (.int .i64 ai)).setCell ⟨w.heap.size+1,2,none⟩ (.string (bs nd))).setCell ⟨w.heap.size+1,3,none⟩ (.int .i64 me)).setCell ⟨w.heap.size+1,4,none⟩ (.int .i64 cp)).drew)=W9 at HX HY ⊢
    have z0:=(uH HX).at 0;have z1:=(uH HX).at 1;have z2:=(uH HX).at 2;have z3:=(uH HX).at 3;have z4:=(uH HX).at 4
    simp at z0 z1 z2 z3 z4
    refine bodyPost_ret (v:=.tuple #[conv ⟨id,ai,nd,me,cp⟩,.int .i64 (i:Int),.int .i64 (k2:Int)]) (by simp [results,Tryz.results57,go_sem,z0,z1,z2,z3,z4];try rfl) rfl ⟨by rw [uH HE,uH HGC];rfl,uH HY⟩
end
end Go.Proofs.YtdhibeclkdepiaaGreat
