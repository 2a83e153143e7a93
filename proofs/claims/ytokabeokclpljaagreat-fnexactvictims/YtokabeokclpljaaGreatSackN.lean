/-
  Texts in one: UsedByS, CopyS, OverS.
-/
import Derived.Test.YtokabeokclpljaaGreatSackI
import Derived.OneCell
set_option maxRecDepth 100000
set_option maxHeartbeats 16000000
set_option linter.unusedVariables false
set_option linter.unusedSimpArgs false
namespace Go.Proofs.YtokabeokclpljaaGreat
section
open Go.RowKit Go.Maps
theorem usedS_len {p:Con→Bool} (l:List Con):(usedL p l).length≤l.length:=by simp [usedL];exact List.length_filter_le _ _
theorem path_short (l:List Q) (nm:List UInt8) (h:l.length≤1048575):(path l nm).length≤1048576:=by
 have key:∀(n:Nat) (p:Int),(pathAt l n p).length≤n:=by
  intro n
  induction n with
  | zero=>intro p;simp [pathAt]
  | succ n ih=>
   intro p
   rw [pathAt]
   split
   ·simp;exact ih _
   ·simp
 rw [path]
 split
 ·exact Nat.le_trans (key _ _) (by omega)
 ·simp
theorem specUsedBy_any (x:Sls) (s:St) (nm:List UInt8) (w:World) (h:SRow w x s) (hf:FitSt s) :
  Calls Tryz.prog 59 #[sv x s,.string (bs nm)] w fun e w'=>e=.returned (rv (usedByV s nm).1 (usedByV s nm).2)∧Below w.heap.size w w':=by
 obtain ⟨i0,hi,hz0,hz1,hz2⟩:=info_parts Tryz.infoR
 have hql:x.ql≤1048576:=by have:=h.len.1;have:=hf.1.1;omega
 have hal:x.al≤1048576:=by have:=h.len.2.1;have:=hf.2.1.1;omega
 have hcl:x.cl≤1048576:=by have:=h.len.2.2.2;have:=hf.2.2.2.1;omega
 have HR:=hide h.2.2.2
 have HL:=hide h.2.2.2.1
 have HAR:=hide h.2.1
 have HAL:=hide h.2.1.1
 have CA:=hide (fun wx (hb:Below w.heap.size w wx) (id:Int)=>l04App_any x s id wx (h.2.1.below hb) hal)
 have CP:=hide (fun wx (hb:Below w.heap.size w wx) (qu:List UInt8)=>specPath_any x.qa x.ql x.qc s.qs qu wx (h.1.below hb) hql (fun q hq=>(hf.1.2 q hq).1))
 have HPL:=hide (fun qu:List UInt8=>show (path s.qs qu).length≤1048576 by
  cases ho:queuesOk s.qs with
  | false=>simp [path,ho]
  | true=>
   refine path_short _ _ ?_
   have h2:=(okT_iff.1 (by have:=queuesOk_okT s.qs;rw [ho] at this;simp at this;exact this.1)).2.2
   omega)
 obtain ⟨⟨⟨sx,sy,so⟩,hsum⟩,hlc⟩:(∃y,sumR (usedL (byQ s nm) s.cs)=y)∧(usedL (byQ s nm) s.cs).length≤1048576:=⟨⟨_,rfl⟩,by have:=usedS_len (p:=byQ s nm) s.cs;have:=h.len.2.2.2;omega⟩
 have CS:=hide (fun ao cap wx (h:RRow wx ao (usedL (byQ s nm) s.cs).length (usedL (byQ s nm) s.cs))=>by have:=l04Sum_any ao _ cap (usedL (byQ s nm) s.cs) wx h hlc;rw [hsum] at this;exact this)
 have HBQ:=hide (fun q:Con=>show byQ s nm q=match findAp q.app s.apps with | none=>false | some a=>(path s.qs a.queue).any (fun x=>decide (x=nm)) from rfl)
 rw [show (usedByV s nm).1=sx by rw [usedByV,hsum],show (usedByV s nm).2=sy by rw [usedByV,hsum]]
 have HFP:=hide (fun id:Int=>apAt_find id s.apps)
 obtain ⟨p,hp⟩:∃p,byQ s nm=p:=⟨_,rfl⟩
 rw [hp] at HBQ CS
 have HLC:=hide (fun k=>show (usedL p (s.cs.take k)).length≤1048576 by have:=usedS_len (p:=p) (s.cs.take k);have:=h.len.2.2.2;simp only [List.length_take] at *;omega)
 clear h hf hsum hp hlc
 obtain ⟨qa,ql,qc,aa,al,ac,ma,ml,mc,ca,cl,cc⟩:=x
 obtain ⟨qs,clock,epoch,next,serial,apps,ms,cs⟩:=s
 simp only at CA CP CS HBQ HR HL HAR HAL HLC HFP HPL hql hal hcl
 have HB0:=hide (capW_below w (svc ⟨qa,ql,qc,aa,al,ac,ma,ml,mc,ca,cl,cc⟩ ⟨qs,clock,epoch,next,serial,apps,ms,cs⟩))
 have V0:=hide (capW_var w (svc ⟨qa,ql,qc,aa,al,ac,ma,ml,mc,ca,cl,cc⟩ ⟨qs,clock,epoch,next,serial,apps,ms,cs⟩))
 have P0:=hide ((boxW_blk w (svc ⟨qa,ql,qc,aa,al,ac,ma,ml,mc,ca,cl,cc⟩ ⟨qs,clock,epoch,next,serial,apps,ms,cs⟩)).al (.cells #[.int .i64 0,.int .i64 0] 52))
 have HO0:=hide (rown_empty (capW w (svc ⟨qa,ql,qc,aa,al,ac,ma,ml,mc,ca,cl,cc⟩ ⟨qs,clock,epoch,next,serial,apps,ms,cs⟩)))
 obtain ⟨W0,hW0⟩:∃W,capW w (svc ⟨qa,ql,qc,aa,al,ac,ma,ml,mc,ca,cl,cc⟩ ⟨qs,clock,epoch,next,serial,apps,ms,cs⟩)=W:=⟨_,rfl⟩
 have P0:=hide (show Blk W0 w.heap.size (svc ⟨qa,ql,qc,aa,al,ac,ma,ml,mc,ca,cl,cc⟩ ⟨qs,clock,epoch,next,serial,apps,ms,cs⟩) 36 by rw [←hW0];exact uH P0)
 have hsz0:W0.heap.size=w.heap.size+1+1:=by rw [←hW0];exact capW_size _ _
 rw [hW0] at HB0 V0 HO0
 have HW0:=hide hW0
 have HSZ:=hide hsz0
 clear hW0 hsz0
 go_enter Tryz.func59,Tryz.ntmps59
 go_wp2
 go_loopw [5,6] (fun v i wr=>∃(k:Nat),k≤cl∧i=.int .i64 k∧Hid (ROwn W0.heap.size wr v (usedL p (cs.take k)))∧Hid (Below W0.heap.size W0 wr)) (fun _ i _=>cl - (intOf i).toNat)
 case atStart=>
  obtain rfl:=uH HW0
  refine ⟨0,Nat.zero_le _,rfl,hide ?_,hide (yA (yH _ _) _)⟩
  have:=uH HO0
  rw [uH HSZ] at this ⊢
  exact this
 case round=>
  obtain ⟨k,hk,rfl,HO,HB⟩:=hrel
  have PB:=(uH P0).below (uH HB)
  have HPB:=hide PB
  obtain ⟨q0,q1,q2,q3,q4,q5,q6,q7⟩:_∧_∧_∧_∧_∧_∧_∧_:=⟨PB.at 0,PB.at 1,PB.at 2,PB.at 3,PB.at 4,PB.at 5,PB.at 6,PB.at 7⟩
  simp at q0 q1 q2 q3 q4 q5 q6 q7
  have HBw:=hide (yB (uH HB0) (uH HB))
  clear PB
  by_cases hlt:k<cl
  ·obtain ⟨b,off,rfl,hq⟩:=((uH HR).below (uH HBw)).at hlt
   have hkl:k<cs.length:=by have:=uH HL;omega
   have hst:=usedL_step (p:=p) hkl
   have HQ:=hide (hq hkl)
   obtain ⟨m,hs⟩:∃q,cs[k]=q:=⟨_,rfl⟩
   rw [hs] at HQ hst
   have hal2:=uH HLC k
   obtain ⟨acc,hacc⟩:∃a,usedL p (cs.take k)=a:=⟨_,rfl⟩
   rw [hacc] at hst hal2 HO
   obtain ⟨id,ap,no,me,cp⟩:=m
   obtain ⟨c0,c1,c2,c3,c4⟩:=uH HQ
   simp only at c0 c1 c2 c3 c4
   have hbq:=uH HBQ ⟨id,ap,no,me,cp⟩
   simp only at hbq
   have hfp:=uH HFP ap
   obtain ⟨at0,ha⟩:∃a,apAt apps ap=a:=⟨_,rfl⟩
   have CAk:=hide (fun wx (hb:Below w.heap.size w wx)=>by have:=uH CA wx hb ap;rw [ha] at this;exact this)
   rw [ha] at hfp
   have k0:(0:Int)≤k:=by omega
   have k1:(k:Int)<cl:=by omega
   have HFP2:=hide hfp
   have HBQ2:=hide hbq
   have HST:=hide hst
   have R:∀wx,Kp wr wx→wx.cell? ⟨w.heap.size,0,none⟩=some (.slice qa ql qc)∧wx.cell? ⟨w.heap.size,1,none⟩=some (.int .i64 clock)∧wx.cell? ⟨w.heap.size,2,none⟩=some (.int .i64 epoch)∧wx.cell? ⟨w.heap.size,3,none⟩=some (.int .i64 next)∧wx.cell? ⟨w.heap.size,4,none⟩=some (.int .i64 serial)∧wx.cell? ⟨w.heap.size,5,none⟩=some (.slice aa al ac)∧wx.cell? ⟨w.heap.size,6,none⟩=some (.slice ma ml mc)∧wx.cell? ⟨w.heap.size,7,none⟩=some (.slice (some ⟨b,off,none⟩) cl cc)∧wx.cell? ⟨b,off+k*5+1,none⟩=some (.int .i64 ap):=fun wx h=>
    ⟨h.cell q0,h.cell q1,h.cell q2,h.cell q3,h.cell q4,h.cell q5,h.cell q6,h.cell q7,h.cell c1⟩
   have A0:=hide (Kp.new wr)
   have HS:=hide (kp_holds wr)
   clear hq hs hkl hacc ha hfp hbq hst
   go_wp2_with fail
   go_cut [7] from 18 to 25 (fun v7 wx=>v7=.int .i64 at0∧Kp wr wx)
   case first=>
    go_region_held3 (fun wx=>Kp wr wx)
     (first | (with_reducible assumption) | exact uH SA | exact (uH HS).drew (uH A0) | exact (uH HS).call (by assumption) (by assumption))
     (first
     | (go_at_call 55;refine (uH CAk _ ?_).mono ?_;(exact yB (uH HBw) ((uH HS).below (by assumption)));rintro e wt ⟨rfl,hb⟩;have SA:=hide ((uH HS).call (by assumption) hb)))
    all_goals
     go_wp2_with fail
     go_meet
     exact ⟨rfl,by first | assumption | exact uH SA⟩
   case rest=>
    obtain ⟨rfl,hA⟩:=hcut
    obtain ⟨w4,rfl⟩:∃w4,w4=wc:=⟨wc,rfl⟩
    have HAw:=hide (yB (uH HBw) hA)
    have HAk:=hide hA
    have g0:=hA.cell q0
    have g5:=hA.cell q5
    have g7:=hA.cell q7
    have d3:=hA.cell c3
    have d4:=hA.cell c4
    have HO4:=hide ((uH HO).below hA)
    have HB4:=hide (yB (uH HB) hA)
    clear A0 R HS CAk q0 q1 q2 q3 q4 q5 q6 q7 c0 c1 c2 c3 c4 hA HO HB HQ
    have HS:=hide (kp_holds w4)
    have A0:=hide (Kp.new w4)
    obtain ⟨pv,hpv⟩:∃o,p ⟨id,ap,no,me,cp⟩=o:=⟨_,rfl⟩
    rw [hpv] at HST HBQ2
    clear hpv
    go_wp2_with fail
    go_cut [40] from 26 to 39 (fun v40 wx=>v40=.bool pv∧Kp w4 wx)
    case first=>
     rcases uH HFP2 with ⟨hfn,rfl⟩ | ⟨j,hj,hfn,rfl⟩
     ·rw [hfn] at HBQ2
      obtain rfl:pv=false:=uH HBQ2
      clear hfn
      go_quiet (fail)
      all_goals
       go_wp2_with fail
       go_meet
       exact ⟨rfl,below_dn (yH _ _) _⟩
     ·rw [hfn] at HBQ2
      have hjl:j<al:=by have:=uH HAL;omega
      obtain ⟨ab,ao,rfl,hq⟩:=((uH HAR).below (uH HAw)).at hjl
      obtain ⟨xo,xl,xc,hxx⟩:=hq hj
      have e1:=hxx.2.1
      obtain ⟨⟨ai,qu,asks⟩,hs⟩:∃a,apps[j]=a:=⟨_,rfl⟩
      rw [hs] at e1 HBQ2
      simp only at e1
      have HPQ:=hide (uH HPL qu)
      have HBQ3:=hide (show pv=(path qs qu).any (fun x=>decide (x=nm)) from uH HBQ2)
      have CPq:=hide (fun wx hb=>uH CP wx hb qu)
      obtain ⟨ps,hps⟩:∃ps,path qs qu=ps:=⟨_,rfl⟩
      rw [hps] at HPQ HBQ3 CPq
      have CH:=hide (fun (v:Value) (B:Nat) wx (h:Texts B wx v ps)=>by have:=l04Has_any v ps nm B wx h (uH HPQ);rw [←uH HBQ3] at this;exact this)
      have j0:(0:Int)≤j:=by omega
      have j1:(j:Int)<al:=by omega
      have R:∀wx,Kp w4 wx→wx.cell? ⟨w.heap.size,0,none⟩=some (.slice qa ql qc)∧wx.cell? ⟨w.heap.size,5,none⟩=some (.slice (some ⟨ab,ao,none⟩) al ac)∧wx.cell? ⟨ab,ao+j*3+1,none⟩=some (.string (bs qu)):=fun wx h=>⟨h.cell g0,h.cell g5,h.cell e1⟩
      clear hfn hq hxx hs hps e1 hj
      go_region_held3 (fun wx=>Kp w4 wx)
       (first | (with_reducible assumption) | exact uH SA | exact (uH HS).drew (uH A0) | exact (uH HS).call (by assumption) (by assumption))
       (first
       | (go_at_call 109;refine (uH CPq _ ?_).mono ?_;(exact yB (uH HAw) ((uH HS).below (by assumption)));rintro e wt ⟨v,rfl,htx,hb⟩;have HTX:=hide htx;have SA:=hide ((uH HS).call (by assumption) hb))
       | (go_at_call 18;refine (uH CH _ _ _ (uH HTX)).mono ?_;rintro e wt2 ⟨rfl,rfl⟩))
      all_goals
       go_wp2_with fail
       go_meet
       exact ⟨rfl,by first | assumption | exact uH SA⟩
    case rest=>
     obtain ⟨rfl,hA⟩:=hcut
     obtain ⟨w5,rfl⟩:∃w5,w5=wc:=⟨wc,rfl⟩
     have z7:=hA.cell g7
     have z3:=hA.cell d3
     have z4:=hA.cell d4
     have HO5:=hide ((uH HO4).below hA)
     have HB5:=hide (yB (uH HB4) hA)
     clear g0 g5 g7 d3 d4 hA HO4 HB4 HS A0 HAk HAw HFP2 HBQ2
     cases pv with
     | true=>
      rw [if_pos rfl] at HST
      have hs2:W0.heap.size≤w5.heap.size:=(uH HB5).size
      have hown:w5.ownsRow W0.heap.size 52 2 _ acc.length (rcells acc):=uH HO5
      go_wp2_with (at_builtin;refine wpList_append_own _ rfl _ _ 142 rfl W0.heap.size 52 i0 (.agg #[.int .i64 0,.int .i64 0]) 2 16 Tryz.underlying142 hi hz0 hz1 hz2 rfl (by decide) _ _ _ rfl (hown.alloc _) ⟨w5.heap.size,0,none⟩ 1 1 (rcell (me,cp)) rfl rfl ?c1 ?c2 ?c3 ?c4 ?c5 ?_)
      case c1=>
       intro j x hj
       match j,hj with
       | 0,hj=>simp at hj;subst hj;simp [Addr.add]
       | 1,hj=>simp at hj;subst hj;simp [Addr.add]
       | _+2,hj=>simp at hj
      case c2=>intro x hx;simp at hx;rcases hx with rfl | rfl<;>rfl
      case c3=>unfold maxLen;omega
      case c4=>omega
      case c5=>simp at hs2 ⊢;omega
      intro v' w6 hown' hgrow _
      have R:=rown_step (q:=(me,cp)) (uH HB5) (uH HO5) hown' hgrow hs2
      have HR3:=hide R
      clear hown' hgrow hown R z3 z4 z7
      go_wp2
      go_roundw
      case rel=>exact ⟨k+1,by omega,by go_num,hide (by rw [uH HST];exact (uH HR3).1),hide (uH HR3).2⟩
      case measure=>simp [intOf];omega
     | false=>
      rw [if_neg (by simp)] at HST
      go_wp2
      go_roundw
      case rel=>exact ⟨k+1,by omega,by go_num,hide (by rw [uH HST];exact uH HO5),HB5⟩
      case measure=>simp [intOf];omega
  ·have htk:cs.take k=cs:=List.take_of_length_le (by have:=uH HL;omega)
   rw [htk] at HO
   obtain ⟨so',scp,rfl,hrow,_⟩:=(uH HO).row
   have HROW:=hide hrow
   have HV1:=hide ((uH V0).below (uH HB))
   obtain ⟨n,hn⟩:∃n,(usedL p cs).length=n:=⟨_,rfl⟩
   rw [hn] at CS HROW ⊢
   clear hrow hn htk HO HB q0 q1 q2 q3 q4 q5 q6
   go_wp2_with fail
   refine (uH CS _ _ _ (uH HROW)).mono ?_
   rintro e w2 ⟨rfl,hb⟩
   have V1:=(uH HV1).below hb
   have HB2:=hide (yB (uH HBw) hb)
   have V2:=V1.al (.cells #[.int .i64 sx,.int .i64 sy] 52)
   have t0:=V2.c0
   have t1:=V2.c1
   have f0:=V2.f 0
   have f1:=V2.f 1
   have VG:=V2.set sx sy
   have k6:=VG.c0
   have k7:=VG.c1
   clear hb V1 V2 VG CS HV1 HROW
   go_wp2
   refine bodyPost_ret (v:=rv sx sy) (by simp [results,Tryz.results59,go_sem,k6,k7]) rfl ⟨rfl,?_⟩
   repeat (first | exact uH HB2 | refine yA ?_ _ | refine yC ?_ _ _ _ (by omega))
end
section
open Go.RowKit
structure CpS (w:World) (a0:Array Value) (arr:Array Value) (wr:World):Prop where
 r0:Blk wr w.heap.size a0 36
 r1:Blk wr (w.heap.size+1) #[.slice none 0 0,.int .i64 0,.int .i64 0,.int .i64 0,.int .i64 0,.slice none 0 0,.slice none 0 0,.slice none 0 0] 36
 r2:Blk wr (w.heap.size+2) arr 36
 b:Below w.heap.size w wr
 z:w.heap.size+3≤wr.heap.size
theorem CpS.below {w:World} {a0 arr:Array Value} {wr wy:World} (h:CpS w a0 arr wr) (hb:Below wr.heap.size wr wy):CpS w a0 arr wy:=⟨h.r0.below hb,h.r1.below hb,h.r2.below hb,yB h.b hb,Nat.le_trans h.z hb.size⟩
theorem CpS.sc {w:World} {a0 arr:Array Value} {wr:World} (h:CpS w a0 arr wr) (j:Nat) (v:Value):CpS w a0 (arr.setIfInBounds j v) (wr.setCell ⟨w.heap.size+2,j,none⟩ v):=
 ⟨h.r0.other _ _ _ (by omega),h.r1.other _ _ _ (by omega),h.r2.set j v,yC h.b _ _ _ (by omega),by rw [set_size];exact h.z⟩
theorem CpS.grown {w:World} {a0 arr:Array Value} {wr wy:World} {t':TypeId} {r:Option Nat} (h:CpS w a0 arr wr) (hg:wr.grownBy wy r) (hr:∀k,r=some k→w.heap.size≤k∧∃N,Cel wr t' k N) (ht:t'≠36):CpS w a0 arr wy:=
 ⟨h.r0.grown hg (fun k e=>(hr k e).2) ht,h.r1.grown hg (fun k e=>(hr k e).2) ht,h.r2.grown hg (fun k e=>(hr k e).2) ht,h.b.grown hg (by have:=h.z;omega) (fun k e=>(hr k e).1),Nat.le_trans h.z hg.size⟩
def CopyAnsS (w:World) (s:St) (e:Ending) (w':World):Prop:=∃y hs,e=.returned (sv y s)∧SAns w.heap.size w'.heap.size w' y s hs∧Below w.heap.size w w'∧∃g,y.ca=some ⟨g,0,none⟩
theorem l04Copy_some (x:Sls) (s:St) (hs0:List AV) (w:World) (h:SRow w x s) (hav:AVRow w x.aa x.al hs0) (hhd:Heads w hs0 s.apps) (hss:SSome x hs0) (hf:FitSt s) :
  Calls Tryz.prog 21 #[sv x s] w (CopyAnsS w s):=by
 have hcq:=h.1.1
 have hca:=h.2.1.1
 have hcm:=h.2.2.1.1
 have hcc:=h.2.2.2.1
 have hlq:x.ql≤1048576:=by have:=hf.1.1;omega
 have hla:x.al≤1048576:=by have:=hf.2.1.1;omega
 have hlm:x.ml≤1048576:=by have:=hf.2.2.1.1;omega
 have hlc:x.cl≤1048576:=by have:=hf.2.2.2.1;omega
 obtain ⟨qa,ql,qc,aa,al,ac,ma,ml,mc,ca,cl,cc⟩:=x
 obtain ⟨qs,clock,epoch,next,serial,apps,ms,cs⟩:=s
 simp only at *
 have RQ:=hide (show QRow w qa ql qs from h.1)
 have RM:=hide (show MacRow w ma ml ms from h.2.2.1)
 have RC:=hide (show ConRow w ca cl cs from h.2.2.2)
 have RQN:=hide (show qa=none→ql=0∧qc=0 from hss.q)
 have RMN:=hide (show ma=none→ml=0∧mc=0 from hss.m)
 have RCN:=hide (show ca=none→cl=0∧cc=0 from hss.c)
 have SV:=hide (show AVRow w aa al hs0 from hav)
 have SH:=hide (show Heads w hs0 apps from hhd)
 have HF:=hide hf
 have HSS:=hide hss.k
 have hal0:al=hs0.length:=hav.1
 have HAL:=hide hal0
 have hb0:=yA (yA (yA (yH _ w) (.cells #[.slice qa ql qc,.int .i64 clock,.int .i64 epoch,.int .i64 next,.int .i64 serial,.slice aa al ac,.slice ma ml mc,.slice ca cl cc] 36)) (.cells #[.slice none 0 0,.int .i64 0,.int .i64 0,.int .i64 0,.int .i64 0,.slice none 0 0,.slice none 0 0,.slice none 0 0] 36)) (.cells #[.slice qa ql qc,.int .i64 clock,.int .i64 epoch,.int .i64 next,.int .i64 serial,.slice aa al ac,.slice ma ml mc,.slice ca cl cc] 36)
 have CP:=hide (show CpS w #[.slice qa ql qc,.int .i64 clock,.int .i64 epoch,.int .i64 next,.int .i64 serial,.slice aa al ac,.slice ma ml mc,.slice ca cl cc] #[.slice qa ql qc,.int .i64 clock,.int .i64 epoch,.int .i64 next,.int .i64 serial,.slice aa al ac,.slice ma ml mc,.slice ca cl cc] (((w.alloc (.cells #[.slice qa ql qc,.int .i64 clock,.int .i64 epoch,.int .i64 next,.int .i64 serial,.slice aa al ac,.slice ma ml mc,.slice ca cl cc] 36)).alloc (.cells #[.slice none 0 0,.int .i64 0,.int .i64 0,.int .i64 0,.int .i64 0,.slice none 0 0,.slice none 0 0,.slice none 0 0] 36)).alloc (.cells #[.slice qa ql qc,.int .i64 clock,.int .i64 epoch,.int .i64 next,.int .i64 serial,.slice aa al ac,.slice ma ml mc,.slice ca cl cc] 36)) from
  ⟨((yD w _ _).al _).al _,by have:=(yD (w.alloc (.cells #[.slice qa ql qc,.int .i64 clock,.int .i64 epoch,.int .i64 next,.int .i64 serial,.slice aa al ac,.slice ma ml mc,.slice ca cl cc] 36)) #[.slice none 0 0,.int .i64 0,.int .i64 0,.int .i64 0,.int .i64 0,.slice none 0 0,.slice none 0 0,.slice none 0 0] 36).al (.cells #[.slice qa ql qc,.int .i64 clock,.int .i64 epoch,.int .i64 next,.int .i64 serial,.slice aa al ac,.slice ma ml mc,.slice ca cl cc] 36);rwa [yE] at this,by have:=yD ((w.alloc (.cells #[.slice qa ql qc,.int .i64 clock,.int .i64 epoch,.int .i64 next,.int .i64 serial,.slice aa al ac,.slice ma ml mc,.slice ca cl cc] 36)).alloc (.cells #[.slice none 0 0,.int .i64 0,.int .i64 0,.int .i64 0,.int .i64 0,.slice none 0 0,.slice none 0 0,.slice none 0 0] 36)) #[.slice qa ql qc,.int .i64 clock,.int .i64 epoch,.int .i64 next,.int .i64 serial,.slice aa al ac,.slice ma ml mc,.slice ca cl cc] 36;rwa [yE,yE] at this,hb0,by rw [yE,yE,yE];omega⟩)
 clear h hav hhd hb0 hf hss hcq hca hcm hcc hal0
 go_enter Tryz.func21,Tryz.ntmps21
 have HM:=hide (RmL.nil (w.heap.size+3) (((w.alloc (.cells #[.slice qa ql qc,.int .i64 clock,.int .i64 epoch,.int .i64 next,.int .i64 serial,.slice aa al ac,.slice ma ml mc,.slice ca cl cc] 36)).alloc (.cells #[.slice none 0 0,.int .i64 0,.int .i64 0,.int .i64 0,.int .i64 0,.slice none 0 0,.slice none 0 0,.slice none 0 0] 36)).alloc (.cells #[.slice qa ql qc,.int .i64 clock,.int .i64 epoch,.int .i64 next,.int .i64 serial,.slice aa al ac,.slice ma ml mc,.slice ca cl cc] 36)))
 go_upto_region 2 with fail
 generalize ((w.alloc (.cells #[.slice qa ql qc,.int .i64 clock,.int .i64 epoch,.int .i64 next,.int .i64 serial,.slice aa al ac,.slice ma ml mc,.slice ca cl cc] 36)).alloc (.cells #[.slice none 0 0,.int .i64 0,.int .i64 0,.int .i64 0,.int .i64 0,.slice none 0 0,.slice none 0 0,.slice none 0 0] 36)).alloc (.cells #[.slice qa ql qc,.int .i64 clock,.int .i64 epoch,.int .i64 next,.int .i64 serial,.slice aa al ac,.slice ma ml mc,.slice ca cl cc] 36)=w3 at CP HM ⊢
 have hb1:=yA (yH _ w3) (.cells #[] 99)
 have HNW:=hide (show ∀ad,qa=some ad→∀j u,(qcells qs)[j]? = some u→(w3.alloc (.cells #[] 99)).cell? (ad.add j)=some u from fun ad he j u hj=>by
  have hr:=(((uH RQ).below (uH CP).b).below hb1)
  rcases hr.2 with e | ⟨b,off,e,_⟩
  ·have hl:=qcells_len qs
   have h2:=(List.getElem?_eq_some_iff.1 hj).1
   have h3:=hr.1
   rw [hl] at h2
   omega
  ·obtain rfl:=Option.some.inj (he.symm.trans e)
   rw [e] at hr
   have:=qcells_row hr j u hj
   rw [Lib.add_plain]
   exact this)
 have hown:(w3.alloc (.cells #[] 99)).ownsRow w3.heap.size 99 4 (.slice (some ⟨w3.heap.size,0,none⟩) 0 0) 0 []:=qown_empty w3
 have hll:(qcells qs).length=ql*4:=by rw [qcells_len,(uH RQ).1]
 have hone:=qcells_one qs
 have cp1:=(uH CP).below hb1
 have a0:=cp1.r0.at 0
 simp at a0
 obtain ⟨i0,hi,hz0,hz1,hz2⟩:=info_parts Tryz.infoQ
 clear cp1
 go_wp2_with (at_builtin;refine wpList_append_opt _ rfl _ _ 31 rfl w3.heap.size 99 i0 (.agg #[.string ByteArray.empty,.string ByteArray.empty,.int .i64 0,.int .i64 0]) 4 48 Tryz.underlying31 hi hz0 hz1 hz2 rfl (by decide) _ _ _ rfl hown qa ql qc (qcells qs) rfl (uH RQN) hll (uH HNW) hone ?c3 ?c4 ?c5 ?_)
 case c3=>unfold maxLen;omega
 case c4=>omega
 case c5=>simp
 intro v w4 hown' hgrow _
 have hbB:Below w3.heap.size w3 w4:=hb1.grown hgrow (by simp) (fun k e=>by simp [Value.ownBlock] at e;omega)
 have hoo:QOwn (w.heap.size+3) w4 v qs:=by
  refine qown_base (B:=w3.heap.size) ?_ (uH CP).z
  unfold QOwn
  rw [←(uH RQ).1]
  simpa using hown'
 obtain ⟨qo,qd,rfl,hcap,hhas⟩:=QOwn.has hoo
 obtain ⟨nq,hnl⟩:∃n,qs.length=n:=⟨_,rfl⟩
 rw [hnl] at hhas ⊢
 have HH0:=hide hhas
 have HMb:=hide (RmL.cons (own1_of hoo) ((uH HM).below hbB))
 have CPb:=hide ((uH CP).below hbB)
 have HNL0:=hide hnl
 have HCAP0:=hide (show nq≤qd by omega)
 have d0:=(uH CPb).r2.at 0
 have f0:=(uH CPb).r2.f 0
 simp at d0
 clear hown' hgrow hown hone hll HNW a0 hhas hoo hb1 hbB hnl hcap hi hz0 hz1 hz2 CP
 go_upto_region 3 with fail
 have CP:=hide (show CpS w _ #[.slice qo nq qd,.int .i64 clock,.int .i64 epoch,.int .i64 next,.int .i64 serial,.slice aa al ac,.slice ma ml mc,.slice ca cl cc] (w4.setCell ⟨w.heap.size+2,0,none⟩ (.slice qo nq qd)) from (uH CPb).sc 0 (.slice qo nq qd))
 have HMn:=hide ((uH HMb).sc (w.heap.size+2) 0 (.slice qo nq qd))
 have HHn0:=hide ((uH HH0).sc (k:=w.heap.size+2) (j:=0) (v:=.slice qo nq qd) (by omega))
 generalize w4.setCell ⟨w.heap.size+2,0,none⟩ (.slice qo nq qd)=w5 at CP HMn HHn0  ⊢
 clear d0 f0 CPb HH0 i0 HM HMb
 have HM:=HMn
 clear HMn
 have HH0:=HHn0
 clear HHn0
 have hb1:=yA (yH _ w5) (.cells #[] 113)
 have HNW:=hide (show ∀ad,ma=some ad→∀j u,(mcells ms)[j]? = some u→(w5.alloc (.cells #[] 113)).cell? (ad.add j)=some u from fun ad he j u hj=>by
  have hr:=(((uH RM).below (uH CP).b).below hb1)
  rcases hr.2 with e | ⟨b,off,e,_⟩
  ·have hl:=mcells_len ms
   have h2:=(List.getElem?_eq_some_iff.1 hj).1
   have h3:=hr.1
   rw [hl] at h2
   omega
  ·obtain rfl:=Option.some.inj (he.symm.trans e)
   rw [e] at hr
   have:=mcells_row hr j u hj
   rw [Lib.add_plain]
   exact this)
 have hown:(w5.alloc (.cells #[] 113)).ownsRow w5.heap.size 113 4 (.slice (some ⟨w5.heap.size,0,none⟩) 0 0) 0 []:=mown_empty w5
 have hll:(mcells ms).length=ml*4:=by rw [mcells_len,(uH RM).1]
 have hone:=mcells_one ms
 have cp1:=(uH CP).below hb1
 have a6:=cp1.r0.at 6
 simp at a6
 obtain ⟨i0,hi,hz0,hz1,hz2⟩:=info_parts Tryz.infoMachine
 clear cp1
 go_wp2_with (at_builtin;refine wpList_append_opt _ rfl _ _ 33 rfl w5.heap.size 113 i0 (.agg #[.string ByteArray.empty,.int .i64 0,.int .i64 0,.int .i64 0]) 4 40 Tryz.underlying33 hi hz0 hz1 hz2 rfl (by decide) _ _ _ rfl hown ma ml mc (mcells ms) rfl (uH RMN) hll (uH HNW) hone ?c3 ?c4 ?c5 ?_)
 case c3=>unfold maxLen;omega
 case c4=>omega
 case c5=>simp
 intro v w6 hown' hgrow _
 have hbB:Below w5.heap.size w5 w6:=hb1.grown hgrow (by simp) (fun k e=>by simp [Value.ownBlock] at e;omega)
 have hoo:MOwn (w.heap.size+3) w6 v ms:=by
  refine mown_base (B:=w5.heap.size) ?_ (uH CP).z
  unfold MOwn
  rw [←(uH RM).1]
  simpa using hown'
 obtain ⟨mo,md,rfl,hcap,hhas⟩:=mown_has hoo
 obtain ⟨nm,hnl⟩:∃n,ms.length=n:=⟨_,rfl⟩
 rw [hnl] at hhas ⊢
 have HH6:=hide hhas
 have HMb:=hide (RmL.cons (own1_of hoo) ((uH HM).below hbB))
 have CPb:=hide ((uH CP).below hbB)
 have HNL6:=hide hnl
 have HCAP6:=hide (show nm≤md by omega)
 have HH0b:=hide ((uH HH0).below hbB)
 have d6:=(uH CPb).r2.at 6
 have f6:=(uH CPb).r2.f 6
 simp at d6
 clear hown' hgrow hown hone hll HNW a6 hhas hoo hb1 hbB hnl hcap hi hz0 hz1 hz2 CP
 go_upto_region 4 with fail
 have CP:=hide (show CpS w _ #[.slice qo nq qd,.int .i64 clock,.int .i64 epoch,.int .i64 next,.int .i64 serial,.slice aa al ac,.slice mo nm md,.slice ca cl cc] (w6.setCell ⟨w.heap.size+2,6,none⟩ (.slice mo nm md)) from (uH CPb).sc 6 (.slice mo nm md))
 have HMn:=hide ((uH HMb).sc (w.heap.size+2) 6 (.slice mo nm md))
 have HHn6:=hide ((uH HH6).sc (k:=w.heap.size+2) (j:=6) (v:=.slice mo nm md) (by omega))
 have HH0n:=hide ((uH HH0b).sc (k:=w.heap.size+2) (j:=6) (v:=.slice mo nm md) (by omega))
 generalize w6.setCell ⟨w.heap.size+2,6,none⟩ (.slice mo nm md)=w7 at CP HMn HHn6 HH0n ⊢
 clear d6 f6 CPb HH6 i0 HM HMb HH0 HH0b
 have HM:=HMn
 clear HMn
 have HH0:=HH0n
 clear HH0n
 have HH6:=HHn6
 clear HHn6
 have hb1:=yA (yH _ w7) (.cells #[] 58)
 have HNW:=hide (show ∀ad,ca=some ad→∀j u,(ccells cs)[j]? = some u→(w7.alloc (.cells #[] 58)).cell? (ad.add j)=some u from fun ad he j u hj=>by
  have hr:=(((uH RC).below (uH CP).b).below hb1)
  rcases hr.2 with e | ⟨b,off,e,_⟩
  ·have hl:=ccells_len cs
   have h2:=(List.getElem?_eq_some_iff.1 hj).1
   have h3:=hr.1
   rw [hl] at h2
   omega
  ·obtain rfl:=Option.some.inj (he.symm.trans e)
   rw [e] at hr
   have:=ccells_row hr j u hj
   rw [Lib.add_plain]
   exact this)
 have hown:(w7.alloc (.cells #[] 58)).ownsRow w7.heap.size 58 5 (.slice (some ⟨w7.heap.size,0,none⟩) 0 0) 0 []:=cown_empty w7
 have hll:(ccells cs).length=cl*5:=by rw [ccells_len,(uH RC).1]
 have hone:=ccells_one cs
 have cp1:=(uH CP).below hb1
 have a7:=cp1.r0.at 7
 simp at a7
 obtain ⟨i0,hi,hz0,hz1,hz2⟩:=info_parts Tryz.infoCont
 clear cp1
 go_wp2_with (at_builtin;refine wpList_append_opt _ rfl _ _ 34 rfl w7.heap.size 58 i0 (.agg #[.int .i64 0,.int .i64 0,.string ByteArray.empty,.int .i64 0,.int .i64 0]) 5 48 Tryz.underlying34 hi hz0 hz1 hz2 rfl (by decide) _ _ _ rfl hown ca cl cc (ccells cs) rfl (uH RCN) hll (uH HNW) hone ?c3 ?c4 ?c5 ?_)
 case c3=>unfold maxLen;omega
 case c4=>omega
 case c5=>simp
 intro v w8 hown' hgrow hnz
 have hvn:v≠.slice none 0 0:=hnz
 have hbB:Below w7.heap.size w7 w8:=hb1.grown hgrow (by simp) (fun k e=>by simp [Value.ownBlock] at e;omega)
 have hoo:COwn (w.heap.size+3) w8 v cs:=by
  refine cown_base (B:=w7.heap.size) ?_ (uH CP).z
  unfold COwn
  rw [←(uH RC).1]
  simpa using hown'
 obtain ⟨co,cd,rfl,hcap,hhas⟩:=cown_has hoo
 have HNZ7:=hide (show ∃g,co=some ⟨g,0,none⟩ from by
  rcases hoo.2 with ⟨e,_⟩ | ⟨g,cap,cur,e,_⟩
  ·exact absurd e hvn
  ·cases e;exact ⟨g,rfl⟩)
 clear hvn hnz
 obtain ⟨nc,hnl⟩:∃n,cs.length=n:=⟨_,rfl⟩
 rw [hnl] at hhas ⊢
 have HH7:=hide hhas
 have HMb:=hide (RmL.cons (own1_of hoo) ((uH HM).below hbB))
 have CPb:=hide ((uH CP).below hbB)
 have HNL7:=hide hnl
 have HCAP7:=hide (show nc≤cd by omega)
 have HH0b:=hide ((uH HH0).below hbB)
 have HH6b:=hide ((uH HH6).below hbB)
 have d7:=(uH CPb).r2.at 7
 have f7:=(uH CPb).r2.f 7
 simp at d7
 clear hown' hgrow hown hone hll HNW a7 hhas hoo hb1 hbB hnl hcap hi hz0 hz1 hz2 CP
 go_upto_region 5 with fail
 have CP:=hide (show CpS w _ #[.slice qo nq qd,.int .i64 clock,.int .i64 epoch,.int .i64 next,.int .i64 serial,.slice aa al ac,.slice mo nm md,.slice co nc cd] (w8.setCell ⟨w.heap.size+2,7,none⟩ (.slice co nc cd)) from (uH CPb).sc 7 (.slice co nc cd))
 have HMn:=hide ((uH HMb).sc (w.heap.size+2) 7 (.slice co nc cd))
 have HHn7:=hide ((uH HH7).sc (k:=w.heap.size+2) (j:=7) (v:=.slice co nc cd) (by omega))
 have HH0n:=hide ((uH HH0b).sc (k:=w.heap.size+2) (j:=7) (v:=.slice co nc cd) (by omega))
 have HH6n:=hide ((uH HH6b).sc (k:=w.heap.size+2) (j:=7) (v:=.slice co nc cd) (by omega))
 generalize w8.setCell ⟨w.heap.size+2,7,none⟩ (.slice co nc cd)=w9 at CP HMn HHn7 HH0n HH6n ⊢
 clear d7 f7 CPb HH7 i0 HM HMb HH0 HH6 HH0b HH6b
 have HM:=HMn
 clear HMn
 have HH0:=HH0n
 have HH6:=HH6n
 clear HH0n HH6n
 have HH7:=HHn7
 clear HHn7
 have hb1:=yA (yH _ w9) (.cells #[] 106)
 have PO:=hide (show POwn w9.heap.size (w9.alloc (.cells #[] 106)) (.slice (some ⟨w9.heap.size,0,none⟩) 0 0) [] from pown_empty w9)
 have CPb:=hide ((uH CP).below hb1)
 have HMb:=hide ((uH HM).below hb1)
 have H0b:=hide ((uH HH0).below hb1)
 have H6b:=hide ((uH HH6).below hb1)
 have H7b:=hide ((uH HH7).below hb1)
 have d5:=(uH CPb).r2.at 5
 have f5:=(uH CPb).r2.f 5
 simp at d5
 have hz9:=(uH CP).z
 obtain ⟨g0,hg0⟩:∃g,w9.heap.size=g:=⟨_,rfl⟩
 have HG0:=hide hg0
 rw [hg0] at PO hz9
 clear hb1 CP HH0 HH6 HH7 hg0 HM
 go_upto_region 6 with fail
 rw [uH HG0]
 have CP:=hide (show CpS w #[.slice qa ql qc,.int .i64 clock,.int .i64 epoch,.int .i64 next,.int .i64 serial,.slice aa al ac,.slice ma ml mc,.slice ca cl cc] #[.slice qo nq qd,.int .i64 clock,.int .i64 epoch,.int .i64 next,.int .i64 serial,.slice (some ⟨g0,0,none⟩) 0 0,.slice mo nm md,.slice co nc cd] ((w9.alloc (.cells #[] 106)).setCell ⟨w.heap.size+2,5,none⟩ (.slice (some ⟨g0,0,none⟩) 0 0)) from (uH CPb).sc 5 _)
 have HM:=hide ((uH HMb).sc (w.heap.size+2) 5 (.slice (some ⟨g0,0,none⟩) 0 0))
 have H0:=hide ((uH H0b).sc (k:=w.heap.size+2) (j:=5) (v:=.slice (some ⟨g0,0,none⟩) 0 0) (by omega))
 have H6:=hide ((uH H6b).sc (k:=w.heap.size+2) (j:=5) (v:=.slice (some ⟨g0,0,none⟩) 0 0) (by omega))
 have H7:=hide ((uH H7b).sc (k:=w.heap.size+2) (j:=5) (v:=.slice (some ⟨g0,0,none⟩) 0 0) (by omega))
 have PO2:=hide (pown_base (pown_other (uH PO) (w.heap.size+2) 5 (.slice (some ⟨g0,0,none⟩) 0 0) (by omega)) hz9)
 generalize (w9.alloc (.cells #[] 106)).setCell ⟨w.heap.size+2,5,none⟩ (.slice (some ⟨g0,0,none⟩) 0 0)=w10 at CP HM H0 H6 H7 PO2 ⊢
 clear CPb HMb H0b H6b H7b d5 f5 PO hz9
 go_wp2
 go_loopw [4] (fun i wr=>∃(k:Nat),k≤al∧i=.int .i64 k∧Hid (∃po pd ns,POwn (w.heap.size+3) wr (.slice po k pd) ns∧ns.length=k∧KHas (w.heap.size+3) wr ns (apps.take k)∧RmL (w.heap.size+3) wr (RL4 co cd mo md qo qd ns)∧CpS w #[.slice qa ql qc,.int .i64 clock,.int .i64 epoch,.int .i64 next,.int .i64 serial,.slice aa al ac,.slice ma ml mc,.slice ca cl cc] #[.slice qo nq qd,.int .i64 clock,.int .i64 epoch,.int .i64 next,.int .i64 serial,.slice po k pd,.slice mo nm md,.slice co nc cd] wr)∧Hid (QHas (w.heap.size+3) wr qo nq qs)∧Hid (MHas (w.heap.size+3) wr mo nm ms)∧Hid (CHas (w.heap.size+3) wr co nc cs)) (fun i _=>al - (intOf i).toNat)
 case atStart=>exact ⟨0,Nat.zero_le _,rfl,hide ⟨some ⟨g0,0,none⟩,0,[],uH PO2,rfl,by simpa using KHas.nil _ _,by simpa [RL4] using uH HM,uH CP⟩,H0,H6,H7⟩
 case round=>
  clear CP H0 H6 H7 PO2 HM
  obtain ⟨k,hk,rfl,HX,H0,H6,H7⟩:=hrel
  obtain ⟨po,pd,ns,hpo,hns,hkh,hrm,hcp⟩:=uH HX
  have HC:=hide hcp
  have HNS:=hide hns
  have a5:=hcp.r0.at 5
  simp at a5
  by_cases hlt:k<al
  ·have hk0:k<hs0.length:=by have:=uH HAL;omega
   have hk1:k<apps.length:=by have:=(uH SH).1;omega
   obtain ⟨b,off,rfl,hat⟩:=((uH SV).below hcp.b).at hlt
   obtain ⟨c0,c1,c2⟩:=hat hk0
   obtain ⟨e0,e1,e2,e3⟩:=(uH SH).2 k hk0 hk1
   have hfa:=(uH HF).2.1.2 apps[k] (yM hk1)
   have haad:=uH HSS hs0[k] (yM hk0)
   obtain ⟨⟨ai,aq,ak⟩,hap⟩:∃a,apps[k]=a:=⟨_,rfl⟩
   obtain ⟨⟨vi,vq,va,vl,vc⟩,hv⟩:∃v,hs0[k]=v:=⟨_,rfl⟩
   have htk:apps.take (k+1)=apps.take k++[⟨ai,aq,ak⟩]:=by rw [List.take_succ_eq_append_getElem hk1,hap]
   rw [hap] at e0 e1 e2 hfa
   rw [hv] at c0 c1 c2 e0 e1 e2 e3 haad
   simp only at c0 c1 c2 e0 e1 e2 e3 haad
   subst e0 e1
   have HAD:=hide haad
   clear haad
   have hvl:vl≤1048576:=by have:=e2.1;have:ak.length≤1048576:=hfa.2.1;omega
   have hrow:=e2.below hcp.b
   have HTK:=hide htk
   have HPO:=hide hpo
   have HKH:=hide hkh
   have HW:=hide (yA (yH _ wr) (.cells #[.int .i64 vi,.string (bs vq),.slice va vl vc] 106))
   have X0:=hide (hcp.below (uH HW))
   have XP:=hide (pown_below hpo (uH HW))
   have XK:=hide (hkh.below (uH HW))
   have XM:=hide (hrm.below (uH HW))
   have Y0:=hide ((uH H0).below (uH HW))
   have Y6:=hide ((uH H6).below (uH HW))
   have Y7:=hide ((uH H7).below (uH HW))
   have XA:=hide (yD wr #[.int .i64 vi,.string (bs vq),.slice va vl vc] 106)
   have XR:=hide (hrow.below (uH HW))
   obtain ⟨ba,hba⟩:∃b,wr.heap.size=b:=⟨_,rfl⟩
   have HBA:=hide hba
   have HPLT:=hide (show ∀kk,(Value.slice po k pd).ownBlock=some kk→kk<ba from fun kk e=>by have:=(World.ownsRow.lt hpo kk e).2;omega)
   rw [hba] at XA
   have hzb:w.heap.size+3≤ba:=by have:=hcp.z;omega
   have k0:(0:Int)≤k:=by omega
   have k1:(k:Int)<al:=by omega
   clear hpo hkh hrm hcp hat hap hv htk hrow e3 hfa hk0 hk1 hns HX H0 H6 H7 hba
   go_upto_region 10 with fail
   rw [uH HBA]
   have XZ:=hide (show (wr.alloc (.cells #[.int .i64 vi,.string (bs vq),.slice va vl vc] 106)).heap.size=ba+1 by rw [yE,uH HBA])
   generalize wr.alloc (.cells #[.int .i64 vi,.string (bs vq),.slice va vl vc] 106)=W at X0 XP XK XM Y0 Y6 Y7 XA XR XZ ⊢
   clear HW HC HPO HKH c0 c1 c2 a5 e2
   have hb1:=yA (yH _ W) (.cells #[] 140)
   have HNW:=hide (show ∀ad,va=some ad→∀j u,(acells ak)[j]? = some u→(W.alloc (.cells #[] 140)).cell? (ad.add j)=some u from fun ad he j u hj=>by
    have hr:=(uH XR).below hb1
    rcases hr.2 with e | ⟨b,off,e,_⟩
    ·have hl:=acells_len ak
     have h2:=(List.getElem?_eq_some_iff.1 hj).1
     have h3:=hr.1
     rw [hl] at h2
     omega
    ·obtain rfl:=Option.some.inj (he.symm.trans e)
     rw [e] at hr
     have:=acells_row hr j u hj
     rw [Lib.add_plain]
     exact this)
   have hown:(W.alloc (.cells #[] 140)).ownsRow W.heap.size 140 5 (.slice (some ⟨W.heap.size,0,none⟩) 0 0) 0 []:=aown_empty W
   have hll:(acells ak).length=vl*5:=by rw [acells_len,(uH XR).1]
   have hone:=acells_one ak
   have xa2:=((uH XA).below hb1).at 2
   simp at xa2
   obtain ⟨i0,hi,hz0,hz1,hz2⟩:=info_parts Tryz.infoA
   go_wp2_with (at_builtin;refine wpList_append_opt _ rfl _ _ 104 rfl W.heap.size 140 i0 (.agg #[.int .i64 0,.int .i64 0,.int .i64 0,.string ByteArray.empty,.int .i64 0]) 5 48 Tryz.underlying104 hi hz0 hz1 hz2 rfl (by decide) _ _ _ rfl hown va vl vc (acells ak) rfl (uH HAD) hll (uH HNW) hone ?c3 ?c4 ?c5 ?_)
   case c3=>unfold maxLen;omega
   case c4=>omega
   case c5=>simp
   intro v w11 hown' hgrow _
   have hbB:Below W.heap.size W w11:=hb1.grown hgrow (by simp) (fun k e=>by simp [Value.ownBlock] at e;omega)
   have hoo:AOwn W.heap.size w11 v ak:=by
    unfold AOwn
    rw [←(uH XR).1]
    simpa using hown'
   obtain ⟨no,nd,rfl,hnd,hnr,hno⟩:=aown_has hoo
   obtain ⟨nl,hnl⟩:∃n,ak.length=n:=⟨_,rfl⟩
   have HNL:=hide hnl
   have HND:=hide hnd
   have HNR:=hide hnr
   have HAM:=hide ((own1_of hoo).mono (show w.heap.size+3≤W.heap.size by have:=uH XZ;omega) (yJ _))
   have HNO:=hide hno
   rw [hnl]
   have HBW:=hide hbB
   have XAb:=hide ((uH XA).below hbB)
   have xd2:=(uH XAb).at 2
   have xf2:=(uH XAb).f 2
   simp at xd2
   clear hown' hgrow hown hone hll HNW xa2 hoo hb1 hbB hnl hnd hnr hno hi hz0 hz1 hz2
   go_upto_region 11 with fail
   have N2:Mks (fun k=>k=ba) w11 (w11.setCell ⟨ba,2,none⟩ (.slice no nl nd)):=Mks.one _ _ _ _ _ rfl
   have hcel:Cel w11 106 ba 3:=⟨_,uH XAb,rfl⟩
   have X0n:=hide (show CpS w _ #[.slice qo nq qd,.int .i64 clock,.int .i64 epoch,.int .i64 next,.int .i64 serial,.slice po k pd,.slice mo nm md,.slice co nc cd] (w11.setCell ⟨ba,2,none⟩ (.slice no nl nd)) from by
    have hx:=(uH X0).below (uH HBW)
    exact ⟨hx.r0.other _ _ _ (by omega),hx.r1.other _ _ _ (by omega),hx.r2.other _ _ _ (by omega),yC hx.b _ _ _ (by omega),by rw [set_size];exact hx.z⟩)
   have XPn:=hide (show POwn (w.heap.size+3) (w11.setCell ⟨ba,2,none⟩ (.slice no nl nd)) (.slice po k pd) ns from ownsRow_setCell_other (pown_below (uH XP) (uH HBW)) (a:=⟨ba,2,none⟩) (fun e=>by have:=uH HPLT ba e;omega) _)
   have XKn:=hide (show KHas (w.heap.size+3) (w11.setCell ⟨ba,2,none⟩ (.slice no nl nd)) (ns++[⟨vi,vq,no,nl,nd⟩]) (apps.take (k+1)) from by
    rw [uH HTK,←uH HNL]
    exact ((uH XK).snoc (uH HBW) (by have:=uH XZ;omega) vi vq no nd ak (uH HND) (uH HNR) (uH HNO)).sc (.inr ⟨_,_,hcel,by decide⟩))
   have XMn:=hide (show RmL (w.heap.size+3) (w11.setCell ⟨ba,2,none⟩ (.slice no nl nd)) (RL4 co cd mo md qo qd (ns++[⟨vi,vq,no,nl,nd⟩])) from ((RmL.cons (uH HAM) ((uH XM).below (uH HBW))).sub (rl4_snoc co cd mo md qo qd ns ⟨vi,vq,no,nl,nd⟩)).sc ba 2 _)
   have hr1:∀k,some ba=some k→∃N,Cel w11 106 k N:=fun k e=>⟨3,by rw [←Option.some.inj e];exact hcel⟩
   have Y0n:=hide (((uH Y0).below (uH HBW)).grown (grown_sc w11 ba 2 (.slice no nl nd)) hr1 (by decide))
   have Y6n:=hide (((uH Y6).below (uH HBW)).grown (grown_sc w11 ba 2 (.slice no nl nd)) hr1 (by decide))
   have Y7n:=hide (((uH Y7).below (uH HBW)).grown (grown_sc w11 ba 2 (.slice no nl nd)) hr1 (by decide))
   have XAn:=hide (show Blk (w11.setCell ⟨ba,2,none⟩ (.slice no nl nd)) ba #[.int .i64 vi,.string (bs vq),.slice no nl nd] 106 from (uH XAb).set 2 _)
   generalize w11.setCell ⟨ba,2,none⟩ (.slice no nl nd)=w12 at X0n XPn XKn XMn Y0n Y6n Y7n XAn ⊢
   clear N2 hcel hr1 xd2 xf2 XAb HAM XM X0 XP XK Y0 Y6 Y7 XA XR XZ HBW HNR HNO HND HNL
   have hb2:=yA (yH _ w12) (.cells #[.int .i64 vi,.string (bs vq),.slice no nl nd] 106)
   have g5:=(uH X0n).r2.at 5
   have q0:=(uH XAn).at 0
   have q1:=(uH XAn).at 1
   have q2:=(uH XAn).at 2
   simp at g5 q0 q1 q2
   have hzz:=(uH X0n).z
   have hown:w12.ownsRow (w.heap.size+3) 106 3 (.slice po k pd) k (pcells ns):=by have:=uH XPn;unfold POwn at this;rwa [uH HNS] at this
   have HOW:=hide hown
   obtain ⟨i0,hi,hz0,hz1,hz2⟩:=info_parts Tryz.infoApp
   go_wp2_with (at_builtin;refine wpList_append_own _ rfl _ _ 32 rfl (w.heap.size+3) 106 i0 (.agg #[.int .i64 0,.string ByteArray.empty,.slice none 0 0]) 3 48 Tryz.underlying32 hi hz0 hz1 hz2 rfl (by decide) _ _ _ rfl (hown.alloc _) ⟨w12.heap.size,0,none⟩ 1 1 (pcell ⟨vi,vq,no,nl,nd⟩) rfl rfl ?c1 ?c2 ?c3 ?c4 ?c5 ?_)
   case c1=>exact World.news_of_block (yD w12 #[.int .i64 vi,.string (bs vq),.slice no nl nd] 106)
   case c2=>intro u hu;simp at hu;rcases hu with rfl | rfl | rfl<;>rfl
   case c3=>unfold maxLen;omega
   case c4=>omega
   case c5=>simp;omega
   intro v' w13 hown' hgrow _
   obtain ⟨ng,ncap,rfl,_,_⟩:=World.ownsRow.form hown' (by omega)
   have hr2:∀kk,(Value.slice po k pd).ownBlock=some kk→w.heap.size≤kk∧∃N,Cel (w12.alloc (.cells #[.int .i64 vi,.string (bs vq),.slice no nl nd] 106)) 106 kk N:=fun kk e=>by
    have h1:=(World.ownsRow.lt (uH HOW) kk e).1
    obtain ⟨N,hc⟩:=owns_cel (uH HOW) kk e
    exact ⟨by omega,N,hc.below hb2⟩
   have X0m:=hide (((uH X0n).below hb2).grown hgrow hr2 (by decide))
   have Y0m:=hide (((uH Y0n).below hb2).grown hgrow (fun kk e=>(hr2 kk e).2) (by decide))
   have Y6m:=hide (((uH Y6n).below hb2).grown hgrow (fun kk e=>(hr2 kk e).2) (by decide))
   have Y7m:=hide (((uH Y7n).below hb2).grown hgrow (fun kk e=>(hr2 kk e).2) (by decide))
   have XKm:=hide (((uH XKn).below hb2).grown hgrow (fun kk e=>(hr2 kk e).2) (by decide))
   have XMm:=hide (((uH XMn).below hb2).grown hgrow (fun kk e=>(hr2 kk e).2) (rl4_app co cd mo md qo qd _))
   have XPm:=hide (show POwn (w.heap.size+3) w13 (.slice (some ⟨ng,0,none⟩) (k+1) ncap) (ns++[⟨vi,vq,no,nl,nd⟩]) by
    unfold POwn
    rw [pcells_app,List.length_append,uH HNS]
    exact hown')
   have d5:=(uH X0m).r2.at 5
   have f5:=(uH X0m).r2.f 5
   simp at d5
   clear hown hown' hgrow hr2 hb2 g5 q0 q1 q2 HOW X0n XPn XKn XMn Y0n Y6n Y7n XAn hi hz0 hz1 hz2
   go_wp2
   go_roundw
   case rel=>
    refine ⟨k+1,by omega,by go_num,hide ⟨some ⟨ng,0,none⟩,ncap,ns++[⟨vi,vq,no,nl,nd⟩],pown_other (uH XPm) _ _ _ (by omega),by simp [uH HNS],(uH XKm).sc (.inl (by omega)),(uH XMm).sc _ _ _,(uH X0m).sc 5 _⟩,hide ((uH Y0m).sc (by omega)),hide ((uH Y6m).sc (by omega)),hide ((uH Y7m).sc (by omega))⟩
   case measure=>simp [intOf];omega
  ·obtain rfl:k=al:=by omega
   have HC:=hide hcp
   have htk:apps.take k=apps:=List.take_of_length_le (by have:=(uH SH).1;have:=uH HAL;omega)
   have HPM:=hide (own1_of hpo)
   have HRM:=hide hrm
   obtain ⟨_,_,e,hpc,hph⟩:=pown_has hpo
   rw [htk] at hkh
   rw [hns] at hph e hpc
   cases e
   have HPC:=hide hpc
   have HP:=hide hph
   have HK:=hide hkh
   have k1:¬(k:Int)<k:=by omega
   have b0:=hcp.r2.at 0;have b1:=hcp.r2.at 1;have b2:=hcp.r2.at 2;have b3:=hcp.r2.at 3;have b4:=hcp.r2.at 4;have b5:=hcp.r2.at 5;have b6:=hcp.r2.at 6;have b7:=hcp.r2.at 7
   have c0:=hcp.r1.at 0;have c1:=hcp.r1.at 1;have c2:=hcp.r1.at 2;have c3:=hcp.r1.at 3;have c4:=hcp.r1.at 4;have c5:=hcp.r1.at 5;have c6:=hcp.r1.at 6;have c7:=hcp.r1.at 7
   have f0:=hcp.r1.f 0;have f1:=hcp.r1.f 1;have f2:=hcp.r1.f 2;have f3:=hcp.r1.f 3;have f4:=hcp.r1.f 4;have f5:=hcp.r1.f 5;have f6:=hcp.r1.f 6;have f7:=hcp.r1.f 7
   simp at b0 b1 b2 b3 b4 b5 b6 b7 c0 c1 c2 c3 c4 c5 c6 c7
   clear hpo hkh hrm hcp htk hlt hns hph HX hpc
   go_wp2
   have R9:=hide (show Blk ((((((((wr.setCell ⟨w.heap.size+1,0,none⟩ (.slice qo nq qd)).setCell ⟨w.heap.size+1,1,none⟩ (.int .i64 clock)).setCell ⟨w.heap.size+1,2,none⟩ (.int .i64 epoch)).setCell ⟨w.heap.size+1,3,none⟩ (.int .i64 next)).setCell ⟨w.heap.size+1,4,none⟩ (.int .i64 serial)).setCell ⟨w.heap.size+1,5,none⟩ (.slice po k pd)).setCell ⟨w.heap.size+1,6,none⟩ (.slice mo nm md)).setCell ⟨w.heap.size+1,7,none⟩ (.slice co nc cd)) (w.heap.size+1) #[.slice qo nq qd,.int .i64 clock,.int .i64 epoch,.int .i64 next,.int .i64 serial,.slice po k pd,.slice mo nm md,.slice co nc cd] 36 from (((((((((uH HC).r1.set 0 (.slice qo nq qd)).set 1 (.int .i64 clock)).set 2 (.int .i64 epoch)).set 3 (.int .i64 next)).set 4 (.int .i64 serial)).set 5 (.slice po k pd)).set 6 (.slice mo nm md)).set 7 (.slice co nc cd)))
   have Q9:=hide (((((((((uH H0).sc (k:=w.heap.size+1) (j:=0) (v:=.slice qo nq qd) (by omega)).sc (k:=w.heap.size+1) (j:=1) (v:=.int .i64 clock) (by omega)).sc (k:=w.heap.size+1) (j:=2) (v:=.int .i64 epoch) (by omega)).sc (k:=w.heap.size+1) (j:=3) (v:=.int .i64 next) (by omega)).sc (k:=w.heap.size+1) (j:=4) (v:=.int .i64 serial) (by omega)).sc (k:=w.heap.size+1) (j:=5) (v:=.slice po k pd) (by omega)).sc (k:=w.heap.size+1) (j:=6) (v:=.slice mo nm md) (by omega)).sc (k:=w.heap.size+1) (j:=7) (v:=.slice co nc cd) (by omega))
   have P9:=hide (((((((((uH HP).sc (k:=w.heap.size+1) (j:=0) (v:=.slice qo nq qd) (by omega)).sc (k:=w.heap.size+1) (j:=1) (v:=.int .i64 clock) (by omega)).sc (k:=w.heap.size+1) (j:=2) (v:=.int .i64 epoch) (by omega)).sc (k:=w.heap.size+1) (j:=3) (v:=.int .i64 next) (by omega)).sc (k:=w.heap.size+1) (j:=4) (v:=.int .i64 serial) (by omega)).sc (k:=w.heap.size+1) (j:=5) (v:=.slice po k pd) (by omega)).sc (k:=w.heap.size+1) (j:=6) (v:=.slice mo nm md) (by omega)).sc (k:=w.heap.size+1) (j:=7) (v:=.slice co nc cd) (by omega))
   have K9:=hide (((((((((uH HK).sc (k:=w.heap.size+1) (j:=0) (v:=.slice qo nq qd) (.inl (by omega))).sc (k:=w.heap.size+1) (j:=1) (v:=.int .i64 clock) (.inl (by omega))).sc (k:=w.heap.size+1) (j:=2) (v:=.int .i64 epoch) (.inl (by omega))).sc (k:=w.heap.size+1) (j:=3) (v:=.int .i64 next) (.inl (by omega))).sc (k:=w.heap.size+1) (j:=4) (v:=.int .i64 serial) (.inl (by omega))).sc (k:=w.heap.size+1) (j:=5) (v:=.slice po k pd) (.inl (by omega))).sc (k:=w.heap.size+1) (j:=6) (v:=.slice mo nm md) (.inl (by omega))).sc (k:=w.heap.size+1) (j:=7) (v:=.slice co nc cd) (.inl (by omega)))
   have M9:=hide (((((((((uH H6).sc (k:=w.heap.size+1) (j:=0) (v:=.slice qo nq qd) (by omega)).sc (k:=w.heap.size+1) (j:=1) (v:=.int .i64 clock) (by omega)).sc (k:=w.heap.size+1) (j:=2) (v:=.int .i64 epoch) (by omega)).sc (k:=w.heap.size+1) (j:=3) (v:=.int .i64 next) (by omega)).sc (k:=w.heap.size+1) (j:=4) (v:=.int .i64 serial) (by omega)).sc (k:=w.heap.size+1) (j:=5) (v:=.slice po k pd) (by omega)).sc (k:=w.heap.size+1) (j:=6) (v:=.slice mo nm md) (by omega)).sc (k:=w.heap.size+1) (j:=7) (v:=.slice co nc cd) (by omega))
   have C9:=hide (((((((((uH H7).sc (k:=w.heap.size+1) (j:=0) (v:=.slice qo nq qd) (by omega)).sc (k:=w.heap.size+1) (j:=1) (v:=.int .i64 clock) (by omega)).sc (k:=w.heap.size+1) (j:=2) (v:=.int .i64 epoch) (by omega)).sc (k:=w.heap.size+1) (j:=3) (v:=.int .i64 next) (by omega)).sc (k:=w.heap.size+1) (j:=4) (v:=.int .i64 serial) (by omega)).sc (k:=w.heap.size+1) (j:=5) (v:=.slice po k pd) (by omega)).sc (k:=w.heap.size+1) (j:=6) (v:=.slice mo nm md) (by omega)).sc (k:=w.heap.size+1) (j:=7) (v:=.slice co nc cd) (by omega))
   have B9:=hide (yC (yC (yC (yC (yC (yC (yC (yC (uH HC).b (w.heap.size+1) 0 (.slice qo nq qd) (by omega)) (w.heap.size+1) 1 (.int .i64 clock) (by omega)) (w.heap.size+1) 2 (.int .i64 epoch) (by omega)) (w.heap.size+1) 3 (.int .i64 next) (by omega)) (w.heap.size+1) 4 (.int .i64 serial) (by omega)) (w.heap.size+1) 5 (.slice po k pd) (by omega)) (w.heap.size+1) 6 (.slice mo nm md) (by omega)) (w.heap.size+1) 7 (.slice co nc cd) (by omega))
   have N9:=hide (((((((((uH HRM).sc (w.heap.size+1) 0 (.slice qo nq qd)).sc (w.heap.size+1) 1 (.int .i64 clock)).sc (w.heap.size+1) 2 (.int .i64 epoch)).sc (w.heap.size+1) 3 (.int .i64 next)).sc (w.heap.size+1) 4 (.int .i64 serial)).sc (w.heap.size+1) 5 (.slice po k pd)).sc (w.heap.size+1) 6 (.slice mo nm md)).sc (w.heap.size+1) 7 (.slice co nc cd))
   have L9:=hide (own1_sc (own1_sc (own1_sc (own1_sc (own1_sc (own1_sc (own1_sc (own1_sc (uH HPM) (w.heap.size+1) 0 (.slice qo nq qd)) (w.heap.size+1) 1 (.int .i64 clock)) (w.heap.size+1) 2 (.int .i64 epoch)) (w.heap.size+1) 3 (.int .i64 next)) (w.heap.size+1) 4 (.int .i64 serial)) (w.heap.size+1) 5 (.slice po k pd)) (w.heap.size+1) 6 (.slice mo nm md)) (w.heap.size+1) 7 (.slice co nc cd))
   generalize ((((((((wr.setCell ⟨w.heap.size+1,0,none⟩ (.slice qo nq qd)).setCell ⟨w.heap.size+1,1,none⟩ (.int .i64 clock)).setCell ⟨w.heap.size+1,2,none⟩ (.int .i64 epoch)).setCell ⟨w.heap.size+1,3,none⟩ (.int .i64 next)).setCell ⟨w.heap.size+1,4,none⟩ (.int .i64 serial)).setCell ⟨w.heap.size+1,5,none⟩ (.slice po k pd)).setCell ⟨w.heap.size+1,6,none⟩ (.slice mo nm md)).setCell ⟨w.heap.size+1,7,none⟩ (.slice co nc cd))=W9 at R9 Q9 P9 K9 M9 C9 B9 N9 L9 ⊢
   obtain ⟨z0,z1,z2,z3,z4,z5,z6,z7⟩:=zq (uH R9)
   refine bodyPost_ret (v:=.agg #[.slice qo nq qd,.int .i64 clock,.int .i64 epoch,.int .i64 next,.int .i64 serial,.slice po k pd,.slice mo nm md,.slice co nc cd]) (by simp [results,Tryz.results21,go_sem,z0,z1,z2,z3,z4,z5,z6,z7]) rfl (show CopyAnsS w _ _ _ from ⟨⟨qo,nq,qd,po,k,pd,mo,nm,md,co,nc,cd⟩,ns,rfl,?_,uH B9,uH HNZ7⟩)
   exact (sans_of (x:=⟨qo,nq,qd,po,k,pd,mo,nm,md,co,nc,cd⟩) (s:=⟨qs,clock,epoch,next,serial,apps,ms,cs⟩) (uH Q9) (uH P9) (uH K9) (uH M9) (uH C9) ⟨uH HCAP0,uH HPC,uH HCAP6,uH HCAP7⟩ (rms_of (uH N9) (uH L9))).mono (by omega) (yJ _)
end
section
open Go.RowKit Go.Maps
theorem specOver_any (x:Sls) (s:St) (nm:List UInt8) (w:World) (h:SRow w x s) (hf:FitSt s) :
  Calls Tryz.prog 67 #[sv x s,.string (bs nm)] w fun e w'=>e=.returned (.bool (overV s nm))∧Below w.heap.size w w':=by
 have hql:x.ql≤1048576:=h.ql hf
 have hml:x.ml≤1048576:=h.ml hf
 have CL:=hide (fun wx (hb:Below w.heap.size w wx)=>specLeaf_any x.qa x.ql x.qc s.qs nm wx (h.1.below hb) hql (fun q hq=>(hf.1.2 q hq).1))
 have CT:=hide (fun wx (hb:Below w.heap.size w wx)=>specTotal_any x s wx (h.2.2.1.below hb) hml)
 have CD:=hide (fun wx (hb:Below w.heap.size w wx)=>show Calls Tryz.prog 60 #[.slice x.qa x.ql x.qc,.string (bs nm),rv (totalV s).1 (totalV s).2] wx (fun e w'=>e=.returned (rv (dueV s nm).1 (dueV s nm).2)∧Below wx.heap.size wx w') from specDueOf_any x.qa x.ql x.qc s.qs nm (totalV s).1 (totalV s).2 wx (h.1.below hb) hql (fun q hq=>(hf.1.2 q hq).1))
 have CU:=hide (fun wx (hb:Below w.heap.size w wx)=>specUsedBy_any x s nm wx (h.below hb) hf)
 obtain ⟨lf,hlf⟩:∃b,leaf s.qs nm=b:=⟨_,rfl⟩
 obtain ⟨⟨tx,ty⟩,ht⟩:∃t,totalV s=t:=⟨_,rfl⟩
 obtain ⟨⟨dx,dy⟩,hd⟩:∃t,dueV s nm=t:=⟨_,rfl⟩
 obtain ⟨⟨ux,uy⟩,hu⟩:∃t,usedByV s nm=t:=⟨_,rfl⟩
 obtain ⟨wi,hwi⟩:∃b,within ux uy dx dy=b:=⟨_,rfl⟩
 have CW:=hide (fun wx=>by have:=specWithin_any ux uy dx dy wx;rw [hwi] at this;exact this)
 have HO:overV s nm=(lf&&!wi):=by simp only [overV,hlf,hu,hd,hwi]
 rw [HO]
 rw [show (sumR (capsOf s.ms)).1=tx from congrArg Prod.fst ht,show (sumR (capsOf s.ms)).2.1=ty from congrArg Prod.snd ht] at CT
 rw [hlf] at CL
 rw [ht,hd] at CD
 rw [hu] at CU
 simp only at CD CU
 clear h hf hlf ht hd hu hwi HO
 obtain ⟨qa,ql,qc,aa,al,ac,ma,ml,mc,ca,cl,cc⟩:=x
 obtain ⟨qs,clock,epoch,next,serial,apps,ms,cs⟩:=s
 simp only at CL CT CD CU hql hml
 have HB0:=hide (boxW_below w (svc ⟨qa,ql,qc,aa,al,ac,ma,ml,mc,ca,cl,cc⟩ ⟨qs,clock,epoch,next,serial,apps,ms,cs⟩))
 have P0:=hide (boxW_blk w (svc ⟨qa,ql,qc,aa,al,ac,ma,ml,mc,ca,cl,cc⟩ ⟨qs,clock,epoch,next,serial,apps,ms,cs⟩))
 obtain ⟨q0,q1,q2,q3,q4,q5,q6,q7⟩:_∧_∧_∧_∧_∧_∧_∧_:=⟨(uH P0).at 0,(uH P0).at 1,(uH P0).at 2,(uH P0).at 3,(uH P0).at 4,(uH P0).at 5,(uH P0).at 6,(uH P0).at 7⟩
 simp at q0 q1 q2 q3 q4 q5 q6 q7
 obtain ⟨W0,hW0⟩:∃W,boxW w (svc ⟨qa,ql,qc,aa,al,ac,ma,ml,mc,ca,cl,cc⟩ ⟨qs,clock,epoch,next,serial,apps,ms,cs⟩)=W:=⟨_,rfl⟩
 rw [hW0] at HB0 q0 q1 q2 q3 q4 q5 q6 q7
 have R:∀wx,Kp W0 wx→wx.cell? ⟨w.heap.size,0,none⟩=some (.slice qa ql qc)∧wx.cell? ⟨w.heap.size,1,none⟩=some (.int .i64 clock)∧wx.cell? ⟨w.heap.size,2,none⟩=some (.int .i64 epoch)∧wx.cell? ⟨w.heap.size,3,none⟩=some (.int .i64 next)∧wx.cell? ⟨w.heap.size,4,none⟩=some (.int .i64 serial)∧wx.cell? ⟨w.heap.size,5,none⟩=some (.slice aa al ac)∧wx.cell? ⟨w.heap.size,6,none⟩=some (.slice ma ml mc)∧wx.cell? ⟨w.heap.size,7,none⟩=some (.slice ca cl cc):=fun wx h=>
  ⟨h.cell q0,h.cell q1,h.cell q2,h.cell q3,h.cell q4,h.cell q5,h.cell q6,h.cell q7⟩
 have A0:=hide (Kp.new W0)
 have HS:=hide (kp_holds W0)
 clear q0 q1 q2 q3 q4 q5 q6 q7 P0
 go_enter Tryz.func67,Tryz.ntmps67
 go_wp2_with fail
 change Code.wp _ _ _ _ (boxW w (svc ⟨qa,ql,qc,aa,al,ac,ma,ml,mc,ca,cl,cc⟩ ⟨qs,clock,epoch,next,serial,apps,ms,cs⟩))
 rw [hW0]
 clear hW0
 cases lf
 case true=>
  go_region_held3 (fun wx=>Kp W0 wx)
   (first | (with_reducible assumption) | exact uH SA | exact (uH HS).drew (uH A0) | exact (uH HS).call (by assumption) (by assumption))
   (first
   | (go_at_call 61;refine (uH CL _ ?_).mono ?_;(exact yB (uH HB0) ((uH HS).below (by assumption)));rintro e wt ⟨rfl,hb⟩;have SA:=hide ((uH HS).call (by assumption) hb))
   | (go_at_call 59;refine (uH CU _ ?_).mono ?_;(exact yB (uH HB0) ((uH HS).below (by assumption)));rintro e wt ⟨rfl,hb⟩;have SA:=hide ((uH HS).call (by assumption) hb))
   | (go_at_call 58;refine (uH CT _ ?_).mono ?_;(exact yB (uH HB0) ((uH HS).below (by assumption)));rintro e wt ⟨rfl,hb⟩;have SA:=hide ((uH HS).call (by assumption) hb))
   | (go_at_call 60;refine (uH CD _ ?_).mono ?_;(exact yB (uH HB0) ((uH HS).below (by assumption)));rintro e wt ⟨rfl,hb⟩;have SA:=hide ((uH HS).call (by assumption) hb))
   | (go_at_call 22;refine (uH CW _).mono ?_;rintro e wt ⟨rfl,hb⟩;have SA:=hide ((uH HS).call (by assumption) hb)))
  all_goals
   have HB9:=hide (yB (uH HB0) ((uH HS).below (by first | exact uH SA | assumption)))
   go_wp2
   go_ret
   exact ⟨rfl,uH HB9⟩
 case false=>
  refine wp_region_held_drew (S:=fun wx=>Kp W0 wx) (by kernel_rfl) ((uH HS).drew (uH A0)) (fun S0=>?_)
  refine takeD (i:=0) (d:=some 5) (v:=.pointer (some ⟨w.heap.size,0,none⟩)) rfl rfl (by kernel_rfl) (by kernel_rfl) (by kernel_rfl) (fun _ _ _ h=>h) (Or.inl ⟨by rfl,fun wz hz=>by go_simp⟩) S0 ?_
  try simp only [zW]
  refine takeD (i:=1) (d:=some 6) (v:=.slice qa ql qc) rfl rfl (by kernel_rfl) (by kernel_rfl) (by kernel_rfl) (fun _ _ _ h=>h) (Or.inl ⟨by rfl,fun wz hz=>by obtain ⟨r0,_⟩:=R wz hz;go_simp⟩) S0 ?_
  try simp only [zW]
  refine takeD (i:=2) (d:=some 7) (v:=.string (bs nm)) rfl rfl (by kernel_rfl) (by kernel_rfl) (by kernel_rfl) (fun _ _ _ h=>h) (Or.inl ⟨by rfl,fun wz hz=>by go_simp⟩) S0 ?_
  try simp only [zW]
  refine wpAnyH_ready (rs:=[3]) (by kernel_rfl) (by simp) (AllReadyH.cons rfl (fun K hK=>?_) AllReadyH.nil)
  go_simp
  refine (uH CL _ (yB (uH HB0) ((uH HS).below S0))).mono ?_
  rintro e wt ⟨rfl,hb⟩
  have S1:=(uH HS).call S0 hb
  go_wp2_with fail
  refine hK.out _ _ S1 (fun S0=>?_)
  clear hK K
  refine takeD (i:=4) (d:=some 9) (v:=.bool false) rfl rfl (by kernel_rfl) (by kernel_rfl) (by kernel_rfl) (fun _ _ _ h=>h) (Or.inl ⟨by rfl,fun wz hz=>by go_simp⟩) S0 ?_
  try simp only [zW]
  refine tU 5 10 S0 ?_
  try simp only [zW]
  refine tU 6 11 S0 ?_
  try simp only [zW]
  refine tU 7 12 S0 ?_
  try simp only [zW]
  refine tU 8 13 S0 ?_
  try simp only [zW]
  refine tU 9 14 S0 ?_
  try simp only [zW]
  refine tU 10 15 S0 ?_
  try simp only [zW]
  refine tU 11 16 S0 ?_
  try simp only [zW]
  refine tU 12 17 S0 ?_
  try simp only [zW]
  refine tU 13 18 S0 ?_
  try simp only [zW]
  refine tU 14 19 S0 ?_
  try simp only [zW]
  refine tU 15 20 S0 ?_
  try simp only [zW]
  refine takeD (i:=16) (d:=some 21) (v:=.bool false) rfl rfl (by kernel_rfl) (by kernel_rfl) (by kernel_rfl) (fun _ _ _ h=>h) (Or.inl ⟨by rfl,fun wz hz=>by go_simp⟩) S0 ?_
  try simp only [zW]
  refine takeD (i:=17) (d:=some 4) (v:=.bool false) rfl rfl (by kernel_rfl) (by kernel_rfl) (by kernel_rfl) (fun _ _ _ h=>h) (Or.inl ⟨by rfl,fun wz hz=>by go_simp⟩) S0 ?_
  try simp only [zW]
  refine wpAnyH_done (by kernel_rfl) ?_ _
  have HB9:=hide (yB (uH HB0) ((uH HS).below S0))
  go_wp2
  go_ret
  exact ⟨rfl,uH HB9⟩
end
end Go.Proofs.YtokabeokclpljaaGreat
