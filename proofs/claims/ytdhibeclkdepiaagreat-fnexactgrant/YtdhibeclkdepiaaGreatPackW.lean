/-
  bI in one: UsedByS, RoomS.
-/
import Derived.Test.YtdhibeclkdepiaaGreatPackT
set_option maxRecDepth 100000
set_option maxHeartbeats 16000000
set_option linter.unusedVariables false
set_option linter.unusedSimpArgs false
namespace Go.Proofs.YtdhibeclkdepiaaGreat
section
open Go.RowKit Go.Maps
theorem aAu {p:Con→Bool} (l:List Con):(aT p l).length≤l.length:=by simp [aT];exact List.length_filter_le _ _
theorem aEj (l:List Q) (nm:List UInt8) (h:l.length≤1048575):(path l nm).length≤1048576:=by
 have key:∀(n:Nat) (p:Int),(dQ l n p).length≤n:=by
  intro n
  induction n with
  | zero=>intro p;simp [dQ]
  | succ n ih=>
   intro p
   rw [dQ]
   split
   ·simp;exact ih _
   ·simp
 rw [path]
 split
 ·exact Nat.le_trans (key _ _) (by omega)
 ·simp
theorem nR (x:Sls) (s:St) (nm:List UInt8) (w:World) (h:iJ w x s) (hf:bS s) :
  Calls Tryz.prog 164 #[sv x s,.string (bs nm)] w fun e w'=>e=.returned (rv (aL s nm).1 (aL s nm).2)∧Below w.heap.size w w':=by
 obtain ⟨i0,hi,hz0,hz1,hz2⟩:=info_parts Tryz.infoR
 have hql:x.ql≤1048576:=by have:=h.len.1;have:=hf.1.1;omega
 have hal:x.al≤1048576:=by have:=h.len.2.1;have:=hf.2.1.1;omega
 have hcl:x.cl≤1048576:=by have:=h.len.2.2.2;have:=hf.2.2.2.1;omega
 have HR:=aA h.2.2.2
 have HL:=aA h.2.2.2.1
 have HAR:=aA h.2.1
 have HAL:=aA h.2.1.1
 have CA:=aA (fun wx (hb:Below w.heap.size w wx) (id:Int)=>zN x s id wx (h.2.1.below hb) hal)
 have CP:=aA (fun wx (hb:Below w.heap.size w wx) (qu:List UInt8)=>mI x.qa x.ql x.qc s.qs qu wx (h.1.below hb) hql (fun q hq=>(hf.1.2 q hq).1))
 have HPL:=aA (fun qu:List UInt8=>show (path s.qs qu).length≤1048576 by
  cases ho:aG s.qs with
  | false=>simp [path,ho]
  | true=>
   refine aEj _ _ ?_
   have h2:=(qQ.1 (by have:=jV s.qs;rw [ho] at this;simp at this;exact this.1)).2.2
   omega)
 obtain ⟨⟨⟨sx,sy,so⟩,hsum⟩,hlc⟩:(∃y,gN (aT (byQ s nm) s.cs)=y)∧(aT (byQ s nm) s.cs).length≤1048576:=⟨⟨_,rfl⟩,by have:=aAu (p:=byQ s nm) s.cs;have:=h.len.2.2.2;omega⟩
 have CS:=aA (fun ao cap wx (h:aF9 wx ao (aT (byQ s nm) s.cs).length (aT (byQ s nm) s.cs))=>by have:=kU ao _ cap (aT (byQ s nm) s.cs) wx h hlc;rw [hsum] at this;exact this)
 have HBQ:=aA (fun q:Con=>show byQ s nm q=match dY q.app s.apps with | none=>false | some a=>(path s.qs a.queue).any (fun x=>decide (x=nm)) from rfl)
 rw [show (aL s nm).1=sx by rw [aL,hsum],show (aL s nm).2=sy by rw [aL,hsum]]
 have HFP:=aA (fun id:Int=>aCS id s.apps)
 obtain ⟨p,hp⟩:∃p,byQ s nm=p:=⟨_,rfl⟩
 rw [hp] at HBQ CS
 have HLC:=aA (fun k=>show (aT p (s.cs.take k)).length≤1048576 by have:=aAu (p:=p) (s.cs.take k);have:=h.len.2.2.2;simp only [List.length_take] at *;omega)
 clear h hf hsum hp hlc
 obtain ⟨qa,ql,qc,aa,al,ac,ma,ml,mc,ca,cl,cc⟩:=x
 obtain ⟨qs,clock,epoch,next,serial,apps,ms,cs⟩:=s
 simp only at CA CP CS HBQ HR HL HAR HAL HLC HFP HPL hql hal hcl
 have HB0:=aA (bV w (svc ⟨qa,ql,qc,aa,al,ac,ma,ml,mc,ca,cl,cc⟩ ⟨qs,clock,epoch,next,serial,apps,ms,cs⟩))
 have V0:=aA (gL w (svc ⟨qa,ql,qc,aa,al,ac,ma,ml,mc,ca,cl,cc⟩ ⟨qs,clock,epoch,next,serial,apps,ms,cs⟩))
 have P0:=aA ((eO w (svc ⟨qa,ql,qc,aa,al,ac,ma,ml,mc,ca,cl,cc⟩ ⟨qs,clock,epoch,next,serial,apps,ms,cs⟩)).al (.cells #[.int .i64 0,.int .i64 0] 36))
 have HO0:=aA (qN (rC w (svc ⟨qa,ql,qc,aa,al,ac,ma,ml,mc,ca,cl,cc⟩ ⟨qs,clock,epoch,next,serial,apps,ms,cs⟩)))
 obtain ⟨W0,hW0⟩:∃W,rC w (svc ⟨qa,ql,qc,aa,al,ac,ma,ml,mc,ca,cl,cc⟩ ⟨qs,clock,epoch,next,serial,apps,ms,cs⟩)=W:=⟨_,rfl⟩
 have P0:=aA (show Blk W0 w.heap.size (svc ⟨qa,ql,qc,aa,al,ac,ma,ml,mc,ca,cl,cc⟩ ⟨qs,clock,epoch,next,serial,apps,ms,cs⟩) 34 by rw [←hW0];exact uH P0)
 have hsz0:W0.heap.size=w.heap.size+1+1:=by rw [←hW0];exact qE _ _
 rw [hW0] at HB0 V0 HO0
 have HW0:=aA hW0
 have HSZ:=aA hsz0
 clear hW0 hsz0
 go_enter Tryz.func164,Tryz.ntmps164
 go_wp2
 go_loopw [5,6] (fun v i wr=>∃(k:Nat),k≤cl∧i=.int .i64 k∧Hid (wU W0.heap.size wr v (aT p (cs.take k)))∧Hid (Below W0.heap.size W0 wr)) (fun _ i _=>cl - (intOf i).toNat)
 case atStart=>
  obtain rfl:=uH HW0
  refine ⟨0,Nat.zero_le _,rfl,aA ?_,aA (yA (Below.refl _ _) _)⟩
  have:=uH HO0
  rw [uH HSZ] at this ⊢
  exact this
 case round=>
  obtain ⟨k,hk,rfl,HO,HB⟩:=hrel
  have PB:=(uH P0).below (uH HB)
  have HPB:=aA PB
  obtain ⟨q0,q1,q2,q3,q4,q5,q6,q7⟩:_∧_∧_∧_∧_∧_∧_∧_:=⟨PB.at 0,PB.at 1,PB.at 2,PB.at 3,PB.at 4,PB.at 5,PB.at 6,PB.at 7⟩
  simp at q0 q1 q2 q3 q4 q5 q6 q7
  have HBw:=aA (yB (uH HB0) (uH HB))
  clear PB
  by_cases hlt:k<cl
  ·obtain ⟨b,off,rfl,hq⟩:=((uH HR).below (uH HBw)).at hlt
   have hkl:k<cs.length:=by have:=uH HL;omega
   have hst:=mZ (p:=p) hkl
   have HQ:=aA (hq hkl)
   obtain ⟨m,hs⟩:∃q,cs[k]=q:=⟨_,rfl⟩
   rw [hs] at HQ hst
   have hal2:=uH HLC k
   obtain ⟨acc,hacc⟩:∃a,aT p (cs.take k)=a:=⟨_,rfl⟩
   rw [hacc] at hst hal2 HO
   obtain ⟨id,ap,no,me,cp⟩:=m
   obtain ⟨c0,c1,c2,c3,c4⟩:=uH HQ
   simp only at c0 c1 c2 c3 c4
   have hbq:=uH HBQ ⟨id,ap,no,me,cp⟩
   simp only at hbq
   have hfp:=uH HFP ap
   obtain ⟨at0,ha⟩:∃a,aI2 apps ap=a:=⟨_,rfl⟩
   have CAk:=aA (fun wx (hb:Below w.heap.size w wx)=>by have:=uH CA wx hb ap;rw [ha] at this;exact this)
   rw [ha] at hfp
   have k0:(0:Int)≤k:=by omega
   have k1:(k:Int)<cl:=by omega
   have HFP2:=aA hfp
   have HBQ2:=aA hbq
   have HST:=aA hst
   have R:∀wx,Kp wr wx→wx.cell? ⟨w.heap.size,0,none⟩=some (.slice qa ql qc)∧wx.cell? ⟨w.heap.size,1,none⟩=some (.int .i64 clock)∧wx.cell? ⟨w.heap.size,2,none⟩=some (.int .i64 epoch)∧wx.cell? ⟨w.heap.size,3,none⟩=some (.int .i64 next)∧wx.cell? ⟨w.heap.size,4,none⟩=some (.int .i64 serial)∧wx.cell? ⟨w.heap.size,5,none⟩=some (.slice aa al ac)∧wx.cell? ⟨w.heap.size,6,none⟩=some (.slice ma ml mc)∧wx.cell? ⟨w.heap.size,7,none⟩=some (.slice (some ⟨b,off,none⟩) cl cc)∧wx.cell? ⟨b,off+k*5+1,none⟩=some (.int .i64 ap):=fun wx h=>
    ⟨h.cell q0,h.cell q1,h.cell q2,h.cell q3,h.cell q4,h.cell q5,h.cell q6,h.cell q7,h.cell c1⟩
   have A0:=aA (Kp.new wr)
   have HS:=aA (cB wr)
   clear hq hs hkl hacc ha hfp hbq hst
   go_wp2_with fail
   go_cut [7] from 18 to 25 (fun v7 wx=>v7=.int .i64 at0∧Kp wr wx)
   case first=>
    go_region_held3 (fun wx=>Kp wr wx)
     (first | (with_reducible assumption) | exact uH SA | exact (uH HS).drew (uH A0) | exact (uH HS).call (by assumption) (by assumption))
     (first
     | (go_at_call 55;refine (uH CAk _ ?_).mono ?_;(exact yB (uH HBw) ((uH HS).below (by assumption)));rintro e wt ⟨rfl,hb⟩;have SA:=aA ((uH HS).call (by assumption) hb)))
    all_goals
     go_wp2_with fail
     go_meet
     exact ⟨rfl,by first | assumption | exact uH SA⟩
   case rest=>
    obtain ⟨rfl,hA⟩:=hcut
    obtain ⟨w4,rfl⟩:∃w4,w4=wc:=⟨wc,rfl⟩
    have HAw:=aA (yB (uH HBw) hA)
    have HAk:=aA hA
    have g0:=hA.cell q0
    have g5:=hA.cell q5
    have g7:=hA.cell q7
    have d3:=hA.cell c3
    have d4:=hA.cell c4
    have HO4:=aA ((uH HO).below hA)
    have HB4:=aA (yB (uH HB) hA)
    clear A0 R HS CAk q0 q1 q2 q3 q4 q5 q6 q7 c0 c1 c2 c3 c4 hA HO HB HQ
    have HS:=aA (cB w4)
    have A0:=aA (Kp.new w4)
    obtain ⟨pv,hpv⟩:∃o,p ⟨id,ap,no,me,cp⟩=o:=⟨_,rfl⟩
    rw [hpv] at HST HBQ2
    clear hpv
    go_wp2_with fail
    go_cut [40] from 26 to 39 (fun v40 wx=>v40=.bool pv∧Kp w4 wx)
    case first=>
     rcases uH HFP2 with ⟨hfn,rfl⟩ | ⟨j,hj,hfn,rfl⟩
     ·rw [hfn] at HBQ2
      obtain rfl:pv=false:=uH HBQ2
      clear hfn
      go_quiet (fail)
      all_goals
       go_wp2_with fail
       go_meet
       exact ⟨rfl,jB (Below.refl _ _) _⟩
     ·rw [hfn] at HBQ2
      have hjl:j<al:=by have:=uH HAL;omega
      obtain ⟨ab,ao,rfl,hq⟩:=((uH HAR).below (uH HAw)).at hjl
      obtain ⟨xo,xl,xc,hxx⟩:=hq hj
      have e1:=hxx.2.1
      obtain ⟨⟨ai,qu,asks⟩,hs⟩:∃a,apps[j]=a:=⟨_,rfl⟩
      rw [hs] at e1 HBQ2
      simp only at e1
      have HPQ:=aA (uH HPL qu)
      have HBQ3:=aA (show pv=(path qs qu).any (fun x=>decide (x=nm)) from uH HBQ2)
      have CPq:=aA (fun wx hb=>uH CP wx hb qu)
      obtain ⟨ps,hps⟩:∃ps,path qs qu=ps:=⟨_,rfl⟩
      rw [hps] at HPQ HBQ3 CPq
      have CH:=aA (fun (v:Value) (B:Nat) wx (h:bI B wx v ps)=>by have:=aFH v ps nm B wx h (uH HPQ);rw [←uH HBQ3] at this;exact this)
      have j0:(0:Int)≤j:=by omega
      have j1:(j:Int)<al:=by omega
      have R:∀wx,Kp w4 wx→wx.cell? ⟨w.heap.size,0,none⟩=some (.slice qa ql qc)∧wx.cell? ⟨w.heap.size,5,none⟩=some (.slice (some ⟨ab,ao,none⟩) al ac)∧wx.cell? ⟨ab,ao+j*3+1,none⟩=some (.string (bs qu)):=fun wx h=>⟨h.cell g0,h.cell g5,h.cell e1⟩
      clear hfn hq hxx hs hps e1 hj
      go_region_held3 (fun wx=>Kp w4 wx)
       (first | (with_reducible assumption) | exact uH SA | exact (uH HS).drew (uH A0) | exact (uH HS).call (by assumption) (by assumption))
       (first
       | (go_at_call 162;refine (uH CPq _ ?_).mono ?_;(exact yB (uH HAw) ((uH HS).below (by assumption)));rintro e wt ⟨v,rfl,htx,hb⟩;have HTX:=aA htx;have SA:=aA ((uH HS).call (by assumption) hb))
       | (go_at_call 185;refine (uH CH _ _ _ (uH HTX)).mono ?_;rintro e wt2 ⟨rfl,rfl⟩))
      all_goals
       go_wp2_with fail
       go_meet
       exact ⟨rfl,by first | assumption | exact uH SA⟩
    case rest=>
     obtain ⟨rfl,hA⟩:=hcut
     obtain ⟨w5,rfl⟩:∃w5,w5=wc:=⟨wc,rfl⟩
     have z7:=hA.cell g7
     have z3:=hA.cell d3
     have z4:=hA.cell d4
     have HO5:=aA ((uH HO4).below hA)
     have HB5:=aA (yB (uH HB4) hA)
     clear g0 g5 g7 d3 d4 hA HO4 HB4 HS A0 HAk HAw HFP2 HBQ2
     cases pv with
     | true=>
      rw [if_pos rfl] at HST
      have hs2:W0.heap.size≤w5.heap.size:=(uH HB5).size
      have hown:w5.ownsRow W0.heap.size 36 2 _ acc.length (gH acc):=uH HO5
      go_wp2_with (at_builtin;refine wpList_append_own _ rfl _ _ 141 rfl W0.heap.size 36 i0 (.agg #[.int .i64 0,.int .i64 0]) 2 16 Tryz.underlying141 hi hz0 hz1 hz2 rfl (by decide) _ _ _ rfl (hown.alloc _) ⟨w5.heap.size,0,none⟩ 1 1 (xB (me,cp)) rfl rfl ?c1 ?c2 ?c3 ?c4 ?c5 ?_)
      case c1=>
       intro j x hj
       match j,hj with
       | 0,hj=>simp at hj;subst hj;simp [Addr.add]
       | 1,hj=>simp at hj;subst hj;simp [Addr.add]
       | _+2,hj=>simp at hj
      case c2=>intro x hx;simp at hx;rcases hx with rfl | rfl<;>rfl
      case c3=>unfold maxLen;omega
      case c4=>omega
      case c5=>simp at hs2 ⊢;omega
      intro v' w6 hown' hgrow _
      have R:=kR (q:=(me,cp)) (uH HB5) (uH HO5) hown' hgrow hs2
      have HR3:=aA R
      clear hown' hgrow hown R z3 z4 z7
      go_wp2
      go_roundw
      case rel=>exact ⟨k+1,by omega,by go_num,aA (by rw [uH HST];exact (uH HR3).1),aA (uH HR3).2⟩
      case measure=>simp [intOf];omega
     | false=>
      rw [if_neg (by simp)] at HST
      go_wp2
      go_roundw
      case rel=>exact ⟨k+1,by omega,by go_num,aA (by rw [uH HST];exact uH HO5),HB5⟩
      case measure=>simp [intOf];omega
  ·have htk:cs.take k=cs:=List.take_of_length_le (by have:=uH HL;omega)
   rw [htk] at HO
   obtain ⟨so',scp,rfl,hrow,_⟩:=(uH HO).row
   have HROW:=aA hrow
   have HV1:=aA ((uH V0).below (uH HB))
   obtain ⟨n,hn⟩:∃n,(aT p cs).length=n:=⟨_,rfl⟩
   rw [hn] at CS HROW ⊢
   clear hrow hn htk HO HB q0 q1 q2 q3 q4 q5 q6
   go_wp2_with fail
   refine (uH CS _ _ _ (uH HROW)).mono ?_
   rintro e w2 ⟨rfl,hb⟩
   have V1:=(uH HV1).below hb
   have HB2:=aA (yB (uH HBw) hb)
   have V2:=V1.al (.cells #[.int .i64 sx,.int .i64 sy] 36)
   have t0:=V2.c0
   have t1:=V2.c1
   have f0:=V2.f 0
   have f1:=V2.f 1
   have VG:=V2.set sx sy
   have k6:=VG.c0
   have k7:=VG.c1
   clear hb V1 V2 VG CS HV1 HROW
   go_wp2
   refine bodyPost_ret (v:=rv sx sy) (by simp [results,Tryz.results164,go_sem,k6,k7]) rfl ⟨rfl,?_⟩
   repeat (first | exact uH HB2 | refine yA ?_ _ | refine yC ?_ _ _ _ (by omega))
theorem aE1 {B:Nat} {w:World} {v:Value} {ps:List (List UInt8)} (h:bI B w v ps):∃ao cap,v=.slice ao ps.length cap∧∀j (hj:j<ps.length),∃g,ao=some ⟨g,0,none⟩∧w.cell? ⟨g,j,none⟩=some (.string (bs ps[j])):=by
  by_cases hp:ps=[]
  · subst hp
    obtain ⟨a,cap,rfl⟩:=jD h
    exact ⟨a,cap,rfl,fun j hj=>by simp at hj⟩
  · obtain ⟨g,cap,rfl,hs,_⟩:=jC h hp
    exact ⟨_,cap,rfl,fun j hj=>⟨g,rfl,hs.text hj⟩⟩
theorem aEl (s:St) (nm:List UInt8):(path s.qs nm).length≤1048576:=by
  cases ho:aG s.qs with
  | false=>simp [path,ho]
  | true=>
    have h2:=(qQ.1 (by have:=jV s.qs;rw [ho] at this;simp at this;exact this.1)).2.2
    have:=aAT s.qs nm
    omega
theorem aBF (x:Sls) (s:St) (nm:List UInt8) (rx ry:Int) (w:World) (h:iJ w x s) (hf:bS s) :
    Calls Tryz.prog 132 #[sv x s,.string (bs nm),rv rx ry] w fun e w'=>e=.returned (.bool (aCi s nm rx ry))∧Below w.heap.size w w':=by
  have hql:x.ql≤1048576:=h.ql hf
  have hml:x.ml≤1048576:=h.ml hf
  have CPath:=aA (fun wx (hb:Below w.heap.size w wx)=>mI x.qa x.ql x.qc s.qs nm wx (h.1.below hb) hql (fun q hq=>(hf.1.2 q hq).1))
  have CT:=aA (fun wx (hb:Below w.heap.size w wx)=>oP x s wx (h.2.2.1.below hb) hml)
  have CM:=aA (fun wx (hb:Below w.heap.size w wx) (n:List UInt8)=>show Calls Tryz.prog 165 #[.slice x.qa x.ql x.qc,.string (bs n),rv (dM s).1 (dM s).2] wx (fun e w'=>e=.returned (rv (iG s n).1 (iG s n).2)∧Below wx.heap.size wx w') from wZ x.qa x.ql x.qc s.qs n (dM s).1 (dM s).2 wx (h.1.below hb) hql (fun q hq=>(hf.1.2 q hq).1))
  have CU:=aA (fun wx (hb:Below w.heap.size w wx) (n:List UInt8)=>nR x s n wx (h.below hb) hf)
  have HPL:=aA (aEl s nm)
  have HRA:=aA (fun n:List UInt8=>show o8 s rx ry n=(aK 1 (aL s n).1 (aL s n).2 rx ry&&within ((aL s n).1+1*rx) ((aL s n).2+1*ry) (iG s n).1 (iG s n).2) from rfl)
  obtain ⟨⟨tx,ty⟩,ht⟩:∃t,dM s=t:=⟨_,rfl⟩
  rw [show (gN (aX s.ms)).1=tx from congrArg Prod.fst ht,show (gN (aX s.ms)).2.1=ty from congrArg Prod.snd ht] at CT
  rw [ht] at CM
  obtain ⟨o,ho⟩:∃o,aCi s nm rx ry=o:=⟨_,rfl⟩
  have HO:=aA (show (decide (0<(path s.qs nm).length)&&(path s.qs nm).all (o8 s rx ry))=o from ho)
  rw [ho]
  obtain ⟨ps,hps⟩:∃p,path s.qs nm=p:=⟨_,rfl⟩
  rw [hps] at CPath HPL HO
  obtain ⟨rf,hrf⟩:∃f,o8 s rx ry=f:=⟨_,rfl⟩
  rw [hrf] at HRA HO
  obtain ⟨mf,hmf⟩:∃f,iG s=f:=⟨_,rfl⟩
  rw [hmf] at CM HRA
  obtain ⟨uf,huf⟩:∃f,aL s=f:=⟨_,rfl⟩
  rw [huf] at CU HRA
  clear h hf ht hps ho hrf hmf huf
  obtain ⟨qa,ql,qc,aa,al,ac,ma,ml,mc,ca,cl,cc⟩:=x
  obtain ⟨qs,clock,epoch,next,serial,apps,ms,cs⟩:=s
  simp only at CM CU CT CPath hql hml
  have HB0:=aA (aCh w (svc ⟨qa,ql,qc,aa,al,ac,ma,ml,mc,ca,cl,cc⟩ ⟨qs,clock,epoch,next,serial,apps,ms,cs⟩) rx ry)
  have V0:=aA (aGF w (svc ⟨qa,ql,qc,aa,al,ac,ma,ml,mc,ca,cl,cc⟩ ⟨qs,clock,epoch,next,serial,apps,ms,cs⟩) rx ry)
  have P0:=aA (aGG w (svc ⟨qa,ql,qc,aa,al,ac,ma,ml,mc,ca,cl,cc⟩ ⟨qs,clock,epoch,next,serial,apps,ms,cs⟩) rx ry)
  go_enter Tryz.func132,Tryz.ntmps132
  go_wp2_with fail
  refine (uH CPath _ (uH HB0)).mono ?_
  rintro e w1 ⟨v,rfl,htx,hb⟩
  have HB1:=aA (yB (uH HB0) hb)
  have V1:=aA ((uH V0).below hb)
  have P1:=aA ((uH P0).below hb)
  have HTX:=aA htx
  obtain ⟨q0,q1,q2,q3,q4,q5,q6,q7⟩:_∧_∧_∧_∧_∧_∧_∧_:=⟨(uH P1).at 0,(uH P1).at 1,(uH P1).at 2,(uH P1).at 3,(uH P1).at 4,(uH P1).at 5,(uH P1).at 6,(uH P1).at 7⟩
  simp at q0 q1 q2 q3 q4 q5 q6 q7
  clear hb HB0 V0 P0 CPath htx
  go_wp2_with fail
  refine (uH CT _ (uH HB1)).mono ?_
  rintro e w2 ⟨rfl,hb⟩
  have HB2:=aA (yA (yB (uH HB1) hb) (.cells #[.int .i64 tx,.int .i64 ty] 36))
  have V2:=aA (((uH V1).below hb).al (.cells #[.int .i64 tx,.int .i64 ty] 36))
  have P2:=aA (((uH P1).below hb).al (.cells #[.int .i64 tx,.int .i64 ty] 36))
  have hX2:=((uH HTX).below hb).below (yA (Below.refl _ _) (.cells #[.int .i64 tx,.int .i64 ty] 36))
  have T2:=aA (aJ w2 36 tx ty)
  obtain ⟨po,pc,rfl,hcell⟩:=aE1 hX2
  have HC:=aA hcell
  clear hb q0 q1 q2 q3 q4 q5 q6 q7 V1 P1 HTX HB1 CT hX2 hcell
  obtain ⟨n,hn⟩:∃n,ps.length=n:=⟨_,rfl⟩
  rw [hn] at HPL HO ⊢
  have HN:=aA hn
  have hn2:n≤1048576:=uH HPL
  clear hn HPL
  obtain ⟨W2,hW2⟩:∃W,w2.alloc (.cells #[.int .i64 tx,.int .i64 ty] 36)=W:=⟨_,rfl⟩
  rw [hW2] at HB2 V2 P2 T2 HC
  have HW2:=aA hW2
  clear hW2
  go_wp2
  go_loopw [9] (fun i wr=>∃(k:Nat),k≤n∧i=.int .i64 k∧Hid ((decide (0<n)&&(ps.drop k).all rf)=o)∧Hid (Kp W2 wr)) (fun i _=>n - (intOf i).toNat)
  case atStart=>
    obtain rfl:=uH HW2
    exact ⟨0,Nat.zero_le _,rfl,HO,aA (Kp.new _)⟩
  case round=>
    obtain ⟨k,hk,rfl,HQ,HK⟩:=hrel
    have kq:=uH HK
    obtain ⟨q0,q1,q2,q3,q4,q5,q6,q7⟩:_∧_∧_∧_∧_∧_∧_∧_:=⟨kq.cell ((uH P2).at 0),kq.cell ((uH P2).at 1),kq.cell ((uH P2).at 2),kq.cell ((uH P2).at 3),kq.cell ((uH P2).at 4),kq.cell ((uH P2).at 5),kq.cell ((uH P2).at 6),kq.cell ((uH P2).at 7)⟩
    have r0:=kq.cell (uH V2).c0
    have r1:=kq.cell (uH V2).c1
    have t0:=kq.cell (uH T2).c0
    have t1:=kq.cell (uH T2).c1
    have HBr:=aA (yB (uH HB2) kq)
    clear kq
    by_cases hlt:k<n
    · have hkl:k<ps.length:=by have:=uH HN;omega
      obtain ⟨pg,rfl,hc0⟩:=uH HC k hkl
      have c0:=(uH HK).cell hc0
      have hst:(ps.drop k).all rf=(rf ps[k]&&(ps.drop (k+1)).all rf):=by rw [List.drop_eq_getElem_cons hkl,List.all_cons]
      have HST:=aA hst
      obtain ⟨nx,hs⟩:∃s,ps[k]=s:=⟨_,rfl⟩
      rw [hs] at c0 HST
      have HRF:=aA (uH HRA nx)
      have CUk:=aA (fun wx hb=>uH CU wx hb nx)
      have CMk:=aA (fun wx hb=>uH CM wx hb nx)
      obtain ⟨⟨ux,uy⟩,hu⟩:∃u,uf nx=u:=⟨_,rfl⟩
      obtain ⟨⟨mx,my⟩,hm⟩:∃u,mf nx=u:=⟨_,rfl⟩
      rw [hu] at CUk HRF
      rw [hm] at CMk HRF
      simp only at CUk CMk HRF
      have k0:(0:Int)≤k:=by omega
      have k1:(k:Int)<n:=by omega
      have CA:=aA (fun wx=>uN ux uy rx ry wx)
      obtain ⟨x',y',ok,hv⟩:∃x' y' ok,jA 1 ux uy rx ry=rv x' y'∧aK 1 ux uy rx ry=ok∧(ok=true→x'=ux+1*rx∧y'=uy+1*ry):=by
        cases hb:aK 1 ux uy rx ry
        · exact ⟨0,0,_,jS hb,rfl,by simp⟩
        · exact ⟨_,_,_,kC hb,rfl,fun _=>⟨rfl,rfl⟩⟩
      have HVV:=aA hv.2.2
      rw [hv.1,hv.2.1] at CA
      rw [hv.2.1] at HRF
      have R:∀wx,Kp wr wx→wx.cell? ⟨w.heap.size,0,none⟩=some (.slice qa ql qc)∧wx.cell? ⟨w.heap.size,1,none⟩=some (.int .i64 clock)∧wx.cell? ⟨w.heap.size,2,none⟩=some (.int .i64 epoch)∧wx.cell? ⟨w.heap.size,3,none⟩=some (.int .i64 next)∧wx.cell? ⟨w.heap.size,4,none⟩=some (.int .i64 serial)∧wx.cell? ⟨w.heap.size,5,none⟩=some (.slice aa al ac)∧wx.cell? ⟨w.heap.size,6,none⟩=some (.slice ma ml mc)∧wx.cell? ⟨w.heap.size,7,none⟩=some (.slice ca cl cc)∧wx.cell? ⟨w.heap.size+1,0,none⟩=some (.int .i64 rx)∧wx.cell? ⟨w.heap.size+1,1,none⟩=some (.int .i64 ry)∧wx.cell? ⟨pg,k,none⟩=some (.string (bs nx)):=fun wx h=>
        ⟨h.cell q0,h.cell q1,h.cell q2,h.cell q3,h.cell q4,h.cell q5,h.cell q6,h.cell q7,h.cell r0,h.cell r1,h.cell c0⟩
      have A0:=aA (Kp.new wr)
      have HS:=aA (cB wr)
      have hwr:w.heap.size+1<wr.heap.size:=yG r0
      clear hc0 hkl hs hu hm hv hst
      go_wp2_with fail
      go_cut [10,11] from 24 to 34 (fun v7 v8 wx=>∃g,v7=.pointer (some ⟨g,0,none⟩)∧v8=.bool ok∧Kp wr wx∧Var wx 36 g x' y')
      case first=>
        go_region_held3 (fun wx=>Kp wr wx)
          (first | (with_reducible assumption) | exact uH SA | exact (uH HS).drew (uH A0) | exact (uH HS).al (uH SA) _ | exact (uH HS).al (by assumption) _ | exact (uH HS).al ((uH HS).drew (uH A0)) _ | exact (uH HS).call (by assumption) (by assumption) | exact (uH HS).set2 (uH SA) _ _ _ (by first | omega | (simp<;>omega)) | exact (uH HS).set2 (by assumption) _ _ _ (by first | omega | (simp<;>omega)))
          (first
          | (go_at_call 164;refine (uH CUk _ ?_).mono ?_;(exact yB (uH HBr) ((uH HS).below (by assumption)));rintro e wt ⟨rfl,hb⟩;have SA:=aA ((uH HS).call (by assumption) hb);have sz:=(uH HS).size (uH SA)
             first
               | (have V5:=(aJ _ 36 0 0).below hb;(try simp at V5);have c50:=V5.c0;have c51:=V5.c1;have f50:=V5.f 0;have f51:=V5.f 1;have V5:=aA V5)
               | (have V5:=(aJ _ 36 0 0).drew.below hb;(try simp at V5);have c50:=V5.c0;have c51:=V5.c1;have f50:=V5.f 0;have f51:=V5.f 1;have V5:=aA V5)
               | skip)
          | (go_at_call 129;refine (uH CA _).mono ?_;rintro e wt ⟨rfl,hb⟩;have SA:=aA ((uH HS).call (by assumption) hb);have sz:=(uH HS).size (uH SA)
             first
               | (have V5:=(aJ _ 36 0 0).below hb;(try simp at V5);have c50:=V5.c0;have c51:=V5.c1;have f50:=V5.f 0;have f51:=V5.f 1;have V5:=aA V5)
               | (have V5:=(aJ _ 36 0 0).drew.below hb;(try simp at V5);have c50:=V5.c0;have c51:=V5.c1;have f50:=V5.f 0;have f51:=V5.f 1;have V5:=aA V5)
               | (have V5:=aA ((uH V5).below hb);have c50:=(uH V5).c0;have c51:=(uH V5).c1;have f50:=(uH V5).f 0;have f51:=(uH V5).f 1)
               | skip))
        all_goals
          go_wp2_with fail
          go_meet
          exact ⟨_,rfl,rfl,by first | assumption | exact uH SA | exact (uH HS).al (uH SA) _,by first | exact aJ _ _ _ _ | exact (uH V5).set _ _⟩
      case rest=>
        obtain ⟨g,rfl,rfl,hA,hV⟩:=hcut
        obtain ⟨w4,rfl⟩:∃w4,w4=wc:=⟨wc,rfl⟩
        have HK4:=aA (show Kp W2 w4 from yB (uH HK) hA)
        have HB4:=aA (yB (uH HBr) hA)
        have g0:=hA.cell q0
        have e0:=hA.cell t0
        have e1:=hA.cell t1
        have d0:=hA.cell c0
        have s0:=hV.c0
        have s1:=hV.c1
        clear hA hV A0 HS R CA CUk q0 q1 q2 q3 q4 q5 q6 q7 r0 r1 t0 t1 c0
        have A0:=aA (Kp.new w4)
        have HS:=aA (cB w4)
        obtain ⟨pv,hpv⟩:∃o,rf nx=o:=⟨_,rfl⟩
        rw [hpv] at HST HRF
        clear hpv
        go_wp2_with fail
        go_cut [49] from 35 to 48 (fun v49 wx=>v49=.bool (!pv)∧Kp w4 wx)
        case first=>
          cases ok with
          | false=>
            obtain rfl:pv=false:=by rw [uH HRF];rfl
            go_quiet (fail)
            all_goals
              go_wp2_with fail
              go_meet
              exact ⟨rfl,jB (Below.refl _ _) _⟩
          | true=>
            obtain ⟨rfl,rfl⟩:=uH HVV rfl
            have HRF2:=aA (show pv=within (ux+1*rx) (uy+1*ry) mx my by rw [uH HRF];rfl)
            have CW:=aA (fun wx=>by have:=d9 (ux+1*rx) (uy+1*ry) mx my wx;rw [←uH HRF2] at this;exact this)
            obtain ⟨sx,hsx⟩:∃a,ux+1*rx=a:=⟨_,rfl⟩
            obtain ⟨sy,hsy⟩:∃a,uy+1*ry=a:=⟨_,rfl⟩
            rw [hsx] at s0 CW
            rw [hsy] at s1 CW
            have R:∀wx,Kp w4 wx→wx.cell? ⟨w.heap.size,0,none⟩=some (.slice qa ql qc)∧wx.cell? ⟨w2.heap.size,0,none⟩=some (.int .i64 tx)∧wx.cell? ⟨w2.heap.size,1,none⟩=some (.int .i64 ty)∧wx.cell? ⟨pg,k,none⟩=some (.string (bs nx))∧wx.cell? ⟨g,0,none⟩=some (.int .i64 sx)∧wx.cell? ⟨g,1,none⟩=some (.int .i64 sy):=fun wx h=>⟨h.cell g0,h.cell e0,h.cell e1,h.cell d0,h.cell s0,h.cell s1⟩
            clear hsx hsy HRF HRF2 HVV
            go_region_held3 (fun wx=>Kp w4 wx)
              (first | (with_reducible assumption) | exact uH SA | exact (uH HS).drew (uH A0) | exact (uH HS).call (by assumption) (by assumption))
              (first
              | (go_at_call 165;refine (uH CMk _ ?_).mono ?_;(exact yB (uH HB4) ((uH HS).below (by assumption)));rintro e wt ⟨rfl,hb⟩;have SA:=aA ((uH HS).call (by assumption) hb))
              | (go_at_call 95;refine (uH CW _).mono ?_;rintro e wt2 ⟨rfl,hb⟩;have SA:=aA ((uH HS).call (by assumption) hb)))
            all_goals
              go_wp2_with fail
              go_meet
              exact ⟨rfl,by first | assumption | exact uH SA⟩
        case rest=>
          obtain ⟨rfl,hA⟩:=hcut
          have HK5:=aA (show Kp W2 wc from yB (uH HK4) hA)
          have HB5:=aA (yB (uH HB4) hA)
          clear hA g0 e0 e1 d0 s0 s1 A0 HS HVV
          cases pv with
          | true=>
            have HQ2:=aA (show (decide (0<n)&&(ps.drop (k+1)).all rf)=o by have:=uH HQ;rw [uH HST] at this;simpa using this)
            go_wp2
            go_roundw
            case rel=>exact ⟨k+1,by omega,by go_num,HQ2,HK5⟩
            case measure=>simp [intOf];omega
          | false=>
            obtain rfl:o=false:=by have:=uH HQ;rw [uH HST] at this;simpa using this.symm
            go_wp2
            go_ret
            exact ⟨rfl,uH HB5⟩
    · have ho:o=decide (0<n):=by have:=uH HQ;rw [List.drop_of_length_le (by have:=uH HN;omega)] at this;simpa using this.symm
      subst ho
      clear q0 q1 q2 q3 q4 q5 q6 q7 r0 r1 t0 t1
      go_wp2
      go_ret
      exact ⟨rfl,uH HBr⟩
end
end Go.Proofs.YtdhibeclkdepiaaGreat
