/-
  Texts in one: OkG, OnS.
-/
import Derived.Test.YtdhibeclkdepiaaGreatPackM
set_option maxRecDepth 100000
set_option maxHeartbeats 16000000
set_option linter.unusedVariables false
set_option linter.unusedSimpArgs false
namespace Go.Proofs.YtdhibeclkdepiaaGreat
section
open Go.RowKit
theorem asksOk_all (l:List Ask):asksOk l=(decide (l.length≤10)&&l.all askOk):=rfl
theorem all_step {p:Ask→Bool} {l:List Ask} {k:Nat} (h:k<l.length):(l.drop k).all p=(p l[k]&&(l.drop (k+1)).all p):=by
 rw [List.drop_eq_getElem_cons h,List.all_cons]
theorem l04Apps_any (x:Sls) (s:St) (w:World) (h:SRow w x s) (hf:FitSt s) (hq:queuesOk s.qs=true) (hn1:1≤s.next) (hn2:s.next≤1000000000) :
  Calls Tryz.prog 53 #[sv x s] w fun e w'=>e=.returned (.bool (appsOkV s))∧Below w.heap.size w w':=by
 have hql:x.ql≤1048576:=by have:=h.len.1;have:=hf.1.1;omega
 have hal:x.al≤1048576:=by have:=h.len.2.1;have:=hf.2.1.1;omega
 have HR:=hide h.2.1
 have HL:=hide h.2.1.1
 have HFA:=hide hf.2.1
 have CLF:=hide (fun wx (hb:Below w.heap.size w wx) (nm:List UInt8)=>by have:=specLeaf_any x.qa x.ql x.qc s.qs nm wx (h.1.below hb) hql (fun q hq=>(hf.1.2 q hq).1);rw [leaf_lone,hq,Bool.true_and] at this;exact this)
 have HS0:=hide (show appsOkV s=(appsFrom s.qs s.next 0 (s.apps.drop 0)&&decide (x.al≤40)) by rw [appsOkV,←h.2.1.1,Bool.and_comm];rfl)
 obtain ⟨o,ho⟩:∃o,appsOkV s=o:=⟨_,rfl⟩
 rw [ho] at HS0 ⊢
 clear h hf ho hq
 obtain ⟨qa,ql,qc,aa,al,ac,ma,ml,mc,ca,cl,cc⟩:=x
 obtain ⟨qs,clock,epoch,next,serial,apps,ms,cs⟩:=s
 simp only at hql hal HR HL HFA CLF HS0 hn1 hn2
 have HB0:=hide (boxW_below w (svc ⟨qa,ql,qc,aa,al,ac,ma,ml,mc,ca,cl,cc⟩ ⟨qs,clock,epoch,next,serial,apps,ms,cs⟩))
 have P0:=hide (boxW_blk w (svc ⟨qa,ql,qc,aa,al,ac,ma,ml,mc,ca,cl,cc⟩ ⟨qs,clock,epoch,next,serial,apps,ms,cs⟩))
 have q0:=(uH P0).at 0
 have q3:=(uH P0).at 3
 have q5:=(uH P0).at 5
 simp at q0 q3 q5
 obtain ⟨W0,hW0⟩:∃W,boxW w (svc ⟨qa,ql,qc,aa,al,ac,ma,ml,mc,ca,cl,cc⟩ ⟨qs,clock,epoch,next,serial,apps,ms,cs⟩)=W:=⟨_,rfl⟩
 rw [hW0] at HB0 q0 q3 q5
 have Q0:=hide q0
 have Q3:=hide q3
 have Q5:=hide q5
 have hnw:IntKind.i64.wrap (next - 1)=next - 1:=by rw [IntKind.wrap_i64];omega
 clear P0 q0 q3 q5
 go_enter Tryz.func53,Tryz.ntmps53
 go_wp2
 change Code.wp _ _ _ _ (boxW w (svc ⟨qa,ql,qc,aa,al,ac,ma,ml,mc,ca,cl,cc⟩ ⟨qs,clock,epoch,next,serial,apps,ms,cs⟩))
 rw [hW0]
 clear hW0
 go_loopw [3] (fun i wr=>∃(k:Nat) (last:Int),k≤al∧i=.int .i64 k∧Hid (o=(appsFrom qs next last (apps.drop k)&&decide (al≤40)))∧Hid (0≤last∧(k=0→last=0)∧∀(k':Nat) (hk':k'<apps.length),k=k'+1→last=apps[k'].id)∧Hid (Kp W0 wr)) (fun i _=>al - (intOf i).toNat)
 case atStart=>exact ⟨0,0,Nat.zero_le _,rfl,HS0,hide ⟨by omega,fun _=>rfl,fun k' _ e=>by omega⟩,hide (Kp.new W0)⟩
 case round=>
  obtain ⟨k,last,hk,rfl,HO,HLA,HK⟩:=hrel
  obtain ⟨wo,rfl⟩:∃wo:World,wo=wr:=⟨_,rfl⟩
  clear HS0
  have q0:=(uH HK).cell (uH Q0)
  have q3:=(uH HK).cell (uH Q3)
  have q5:=(uH HK).cell (uH Q5)
  have KW:=hide (show Kp w wo from yB (uH HB0) (uH HK))
  by_cases hlt:k<al
  case neg=>
   have HO2:=hide (show o=decide (al≤40) by rw [uH HO,appsFrom_end (by have:=uH HL;omega),Bool.true_and])
   have k1:¬(k:Int)<al:=by omega
   have h40:decide ((al:Int)≤40)=decide (al≤40):=by simp;omega
   go_wp2
   go_ret
   exact ⟨yF (by rw [uH HO2];try exact h40),uH KW⟩
  obtain ⟨b,off,rfl,hq⟩:=(uH HR).at hlt
  have hkl:k<apps.length:=by have:=uH HL;omega
  have hst:=appsFrom_step (qs:=qs) (nx:=next) (last:=last) (l:=apps) (k:=k) hkl
  have hfa:=(uH HFA).2 _ (List.getElem_mem hkl)
  obtain ⟨xo,xl,xc,c0,c1,c2,hrow,_⟩:=hq hkl
  replace c0:=(uH KW).cell c0
  replace c1:=(uH KW).cell c1
  replace c2:=(uH KW).cell c2
  have HPV:=hide (fun (k':Nat) (e:k=k'+1)=>show wo.cell? ⟨b,off+k'*3,none⟩=some (.int .i64 last) by
   have hk'':k'<apps.length:=by omega
   obtain ⟨b',off',eb,hq'⟩:=(uH HR).at (show k'<al by omega)
   obtain ⟨rfl,rfl⟩:b=b'∧off=off':=by simpa using eb
   obtain ⟨_,_,_,d0,_⟩:=hq' hk''
   rw [(uH HLA).2.2 k' hk'' e]
   exact (uH KW).cell d0)
  obtain ⟨⟨id,qu,asks⟩,hs⟩:∃s,apps[k]=s:=⟨_,rfl⟩
  have HNX:=hide (show ∀(k':Nat) (hk':k'<apps.length),k+1=k'+1→id=apps[k'].id from fun k' hk' e=>by
   have:k=k':=by omega
   subst this
   rw [hs])
  rw [hs] at c0 c1 hst hrow hfa
  simp only at c0 c1 hst hrow
  have hxl:xl≤1048576:=by have h1:=hrow.1;have h2:=hfa.2.1;simp only at h2;omega
  have HA:=hide hrow
  have HAL:=hide hrow.1
  have HNA:=hide hfa.2.2
  have k0:(0:Int)≤k:=by omega
  have k1:(k:Int)<al:=by omega
  rw [asksOk_all,←hrow.1] at hst
  obtain ⟨lo,hlo⟩:∃b,lone qs qu=b:=⟨_,rfl⟩
  have CL:=hide (fun wx (hb:Below w.heap.size w wx)=>by have:=uH CLF wx hb qu;rw [hlo] at this;exact this)
  rw [hlo] at hst
  have HO2:=hide ((uH HO).trans (congrArg (· && decide (al≤40)) hst))
  obtain ⟨ib,hib⟩:∃b,inB id 1 (next - 1)=b:=⟨_,rfl⟩
  obtain ⟨hl0,hlz,_⟩:=uH HLA
  clear hq hs hkl hrow hfa hst hlo HO CLF
  have b4:=yA (Below.refl _ wo) (.cells #[.int .i64 id,.string (bs qu),.slice xo xl xc] 74)
  have HB4:=hide (yB (uH KW) b4)
  have P4:=hide (yD wo #[.int .i64 id,.string (bs qu),.slice xo xl xc] 74)
  obtain ⟨W4,hW4⟩:∃W,wo.alloc (.cells #[.int .i64 id,.string (bs qu),.slice xo xl xc] 74)=W:=⟨_,rfl⟩
  rw [hW4] at b4 HB4 P4
  have HK4:=hide (show Kp W0 W4 from yB (uH HK) b4)
  have r0:=Kp.cell b4 q0
  have r3:=Kp.cell b4 q3
  have r5:=Kp.cell b4 q5
  have a0:=(uH P4).at 0
  have a1:=(uH P4).at 1
  have a2:=(uH P4).at 2
  simp at a0 a1 a2
  have R:∀wx,Kp W4 wx→wx.cell? ⟨w.heap.size,0,none⟩=some (.slice qa ql qc)∧wx.cell? ⟨w.heap.size,3,none⟩=some (.int .i64 next)∧wx.cell? ⟨w.heap.size,5,none⟩=some (.slice (some ⟨b,off,none⟩) al ac)∧wx.cell? ⟨wo.heap.size,0,none⟩=some (.int .i64 id)∧wx.cell? ⟨wo.heap.size,1,none⟩=some (.string (bs qu))∧wx.cell? ⟨wo.heap.size,2,none⟩=some (.slice xo xl xc):=fun wx h=>
   ⟨h.cell r0,h.cell r3,h.cell r5,h.cell a0,h.cell a1,h.cell a2⟩
  have HPV4:=hide (fun (k':Nat) (e:k=k'+1)=>Kp.cell b4 (uH HPV k' e))
  have A0:=hide (Kp.new W4)
  have HS:=hide (kp_holds W4)
  clear b4 HPV
  go_wp2_with fail
  first | (change Code.wp _ _ _ _ (wo.alloc (.cells #[.int .i64 id,.string (bs qu),.slice xo xl xc] 74));rw [hW4]) | skip
  clear hW4 c0 c1 c2 q0 q3 q5 r0 r3 r5 a0 a1 a2
  refine wp_region_held_drew (S:=fun wx=>Kp W4 wx) (by kernel_rfl) ((uH HS).drew (uH A0)) (fun S0=>?_)
  refine takeW 0 18 _ rfl rfl S0 ?_
  try simp only [Act.put,sA,sB,sC]
  refine takeW 1 19 _ rfl rfl S0 ?_
  try simp only [Act.put,sA,sB,sC]
  refine takeW 2 20 _ rfl rfl S0 ?_
  try simp only [Act.put,sA,sB,sC]
  refine takeW 3 21 _ rfl rfl S0 ?_
  try simp only [Act.put,sA,sB,sC]
  refine takeW 4 22 (.int .i64 (next - 1)) rfl rfl S0 ?_
  try simp only [Act.put,sA,sB,sC]
  cases ib
  case false=>
   refine wpAnyH_ready (rs:=[5]) (by kernel_rfl) (by simp) (AllReadyH.cons rfl (fun K hK=>?_) AllReadyH.nil)
   go_simp
   refine (l01In_any id 1 (next - 1) _).mono ?_
   rw [hib]
   rintro e wt ⟨rfl,rfl⟩
   have S1:=S0
   go_wp2_with fail
   refine hK.out _ _ S1 (fun S0=>?_)
   clear hK K S1
   try simp only [Act.put,sA,sB,sC]
   refine takeW 6 24 (.bool true) rfl rfl S0 ?_
   try simp only [Act.put,sA,sB,sC]
   refine takeW 7 25 (.bool true) rfl rfl S0 ?_
   try simp only [Act.put,sA,sB,sC]
   refine takeU 8 26 rfl rfl S0 <| takeU 9 27 rfl rfl S0 <| takeU 10 28 rfl rfl S0 <| takeU 11 29 rfl rfl S0 <| takeU 12 30 rfl rfl S0 <| takeU 13 31 rfl rfl S0 <| takeU 14 32 rfl rfl S0 <| takeU 15 33 rfl rfl S0 <| takeU 16 34 rfl rfl S0 <| takeU 17 35 rfl rfl S0 <| takeU 18 36 rfl rfl S0 <| takeU 19 37 rfl rfl S0 <| takeU 20 38 rfl rfl S0 <| takeU 21 39 rfl rfl S0 <| ?_
   try simp only [Act.put,sA,sB,sC]
   refine takeW 22 40 (.bool true) rfl rfl S0 ?_
   try simp only [Act.put,sA,sB,sC]
   refine takeW 23 41 (.bool true) rfl rfl S0 ?_
   try simp only [Act.put,sA,sB,sC]
   refine takeU 24 42 rfl rfl S0 <| takeU 25 43 rfl rfl S0 <| takeU 26 44 rfl rfl S0 <| takeU 27 45 rfl rfl S0 <| takeU 28 46 rfl rfl S0 <| takeU 29 47 rfl rfl S0 <| ?_
   try simp only [Act.put,sA,sB,sC]
   refine takeW 30 48 (.bool true) rfl rfl S0 ?_
   try simp only [Act.put,sA,sB,sC]
   refine takeW 31 49 (.bool true) rfl rfl S0 ?_
   try simp only [Act.put,sA,sB,sC]
   refine takeU 32 50 rfl rfl S0 <| takeU 33 51 rfl rfl S0 <| takeU 34 52 rfl rfl S0 <| takeU 35 53 rfl rfl S0 <| ?_
   try simp only [Act.put,sA,sB,sC]
   refine takeW 36 54 (.bool true) rfl rfl S0 ?_
   try simp only [Act.put,sA,sB,sC]
   refine wpAnyH_done (by kernel_rfl) ?_ _
   have HB9:=hide (yB (uH HB4) ((uH HS).below S0))
   have HF:=hide (show o=false by
    have hc:¬(1≤id∧id≤next - 1):=fun hc=>by rw [inB_true hc.1 hc.2] at hib;cases hib
    have hz:decide (last<id)=false∨decide (id<next)=false:=by simp only [decide_eq_false_iff_not];omega
    rw [uH HO2];rcases hz with hz | hz<;>rw [hz]<;>simp)
   go_wp2
   go_ret
   exact ⟨yF (uH HF).symm,uH HB9⟩
  have hin:1≤id∧id≤next - 1:=by simpa [inB] using hib
  refine wpAnyH_ready (rs:=[5]) (by kernel_rfl) (by simp) (AllReadyH.cons rfl (fun K hK=>?_) AllReadyH.nil)
  go_simp
  refine (l01In_any id 1 (next - 1) _).mono ?_
  rw [hib]
  rintro e wt ⟨rfl,rfl⟩
  have S1:=S0
  go_wp2_with fail
  refine hK.out _ _ S1 (fun S0=>?_)
  clear hK K S1
  try simp only [Act.put,sA,sB,sC]
  refine takeW 6 24 (.bool false) rfl rfl S0 ?_
  try simp only [Act.put,sA,sB,sC]
  refine takeW 7 25 (.bool false) rfl rfl S0 ?_
  try simp only [Act.put,sA,sB,sC]
  by_cases hk0:k=0
  ·obtain rfl:=hk0
   obtain rfl:=hlz rfl
   refine takeW 8 26 _ rfl rfl S0 ?_
   try simp only [Act.put,sA,sB,sC]
   refine takeW 9 27 (.bool false) rfl rfl S0 ?_
   try simp only [Act.put,sA,sB,sC]
   refine takeW 10 28 (.bool false) rfl rfl S0 ?_
   try simp only [Act.put,sA,sB,sC]
   refine takeU 11 29 rfl rfl S0 <| takeU 12 30 rfl rfl S0 <| takeU 13 31 rfl rfl S0 <| takeU 14 32 rfl rfl S0 <| takeU 15 33 rfl rfl S0 <| takeU 16 34 rfl rfl S0 <| takeU 17 35 rfl rfl S0 <| takeU 18 36 rfl rfl S0 <| takeU 19 37 rfl rfl S0 <| takeU 20 38 rfl rfl S0 <| ?_
   try simp only [Act.put,sA,sB,sC]
   refine takeW 21 39 (.bool false) rfl rfl S0 ?_
   try simp only [Act.put,sA,sB,sC]
   refine takeW 22 40 (.bool false) rfl rfl S0 ?_
   try simp only [Act.put,sA,sB,sC]
   refine takeW 23 41 (.bool false) rfl rfl S0 ?_
   try simp only [Act.put,sA,sB,sC]
   refine takeW 24 42 _ rfl rfl S0 ?_
   try simp only [Act.put,sA,sB,sC]
   refine takeW 25 43 _ rfl rfl S0 ?_
   try simp only [Act.put,sA,sB,sC]
   refine takeW 26 44 _ rfl rfl S0 ?_
   try simp only [Act.put,sA,sB,sC]
   refine takeW 27 45 _ rfl rfl S0 ?_
   try simp only [Act.put,sA,sB,sC]
   cases lo
   case false=>
    refine wpAnyH_ready (rs:=[28]) (by kernel_rfl) (by simp) (AllReadyH.cons rfl (fun K hK=>?_) AllReadyH.nil)
    go_simp
    refine (uH CL _ (yB (uH HB4) ((uH HS).below S0))).mono ?_
    rintro e wt ⟨rfl,hb⟩
    have S1:=(uH HS).call S0 hb
    clear hb
    go_wp2_with fail
    refine hK.out _ _ S1 (fun S0=>?_)
    clear hK K S1
    try simp only [Act.put,sA,sB,sC]
    refine takeW 29 47 (.bool true) rfl rfl S0 ?_
    try simp only [Act.put,sA,sB,sC]
    refine takeW 30 48 (.bool true) rfl rfl S0 ?_
    try simp only [Act.put,sA,sB,sC]
    refine takeW 31 49 (.bool true) rfl rfl S0 ?_
    try simp only [Act.put,sA,sB,sC]
    refine takeU 32 50 rfl rfl S0 <| takeU 33 51 rfl rfl S0 <| takeU 34 52 rfl rfl S0 <| takeU 35 53 rfl rfl S0 <| ?_
    try simp only [Act.put,sA,sB,sC]
    refine takeW 36 54 (.bool true) rfl rfl S0 ?_
    try simp only [Act.put,sA,sB,sC]
    refine wpAnyH_done (by kernel_rfl) ?_ _
    have HB9:=hide (yB (uH HB4) ((uH HS).below S0))
    have HF:=hide (show o=false by
     rw [uH HO2];simp)
    go_wp2
    go_ret
    exact ⟨yF (uH HF).symm,uH HB9⟩
   refine wpAnyH_ready (rs:=[28]) (by kernel_rfl) (by simp) (AllReadyH.cons rfl (fun K hK=>?_) AllReadyH.nil)
   go_simp
   refine (uH CL _ (yB (uH HB4) ((uH HS).below S0))).mono ?_
   rintro e wt ⟨rfl,hb⟩
   have S1:=(uH HS).call S0 hb
   clear hb
   go_wp2_with fail
   refine hK.out _ _ S1 (fun S0=>?_)
   clear hK K S1
   try simp only [Act.put,sA,sB,sC]
   refine takeW 29 47 (.bool false) rfl rfl S0 ?_
   try simp only [Act.put,sA,sB,sC]
   refine takeW 30 48 (.bool false) rfl rfl S0 ?_
   try simp only [Act.put,sA,sB,sC]
   refine takeW 31 49 (.bool false) rfl rfl S0 ?_
   try simp only [Act.put,sA,sB,sC]
   refine takeW 32 50 _ rfl rfl S0 ?_
   try simp only [Act.put,sA,sB,sC]
   refine takeW 33 51 _ rfl rfl S0 ?_
   try simp only [Act.put,sA,sB,sC]
   by_cases h10:10<xl
   ·have h10i:(10:Int)<xl:=by omega
    refine takeW 34 52 (.int .i64 xl) rfl rfl S0 ?_
    try simp only [Act.put,sA,sB,sC]
    refine takeW 35 53 (.bool true) rfl rfl S0 ?_
    try simp only [Act.put,sA,sB,sC]
    refine takeW 36 54 (.bool true) rfl rfl S0 ?_
    try simp only [Act.put,sA,sB,sC]
    refine wpAnyH_done (by kernel_rfl) ?_ _
    have HB9:=hide (yB (uH HB4) ((uH HS).below S0))
    have HF:=hide (show o=false by
     rw [uH HO2,decide_eq_false (show ¬xl≤10 by omega)];simp)
    go_wp2
    go_ret
    exact ⟨yF (uH HF).symm,uH HB9⟩
   have h10i:¬(10:Int)<xl:=by omega
   refine takeW 34 52 (.int .i64 xl) rfl rfl S0 ?_
   try simp only [Act.put,sA,sB,sC]
   refine takeW 35 53 (.bool false) rfl rfl S0 ?_
   try simp only [Act.put,sA,sB,sC]
   refine takeW 36 54 (.bool false) rfl rfl S0 ?_
   try simp only [Act.put,sA,sB,sC]
   refine wpAnyH_done (by kernel_rfl) ?_ _
   have HO3:=hide (show o=((asks.drop 0).all askOk&&(appsFrom qs next id (apps.drop (0+1))&&decide (al≤40))) by rw [uH HO2,decide_eq_true (show 0<id by omega),decide_eq_true (show id<next by omega),decide_eq_true (show xl≤10 by omega)];simp [Bool.and_assoc])
   have HQ:=hide S0
   have z2:=(R _ S0).2.2.2.2.2
   clear HO2 A0 HS R S0 CL HPV4
   go_wp2
   go_loopw [5] (fun i wr=>∃(j:Nat),j≤xl∧i=.int .i64 j∧Hid (o=((asks.drop j).all askOk&&(appsFrom qs next id (apps.drop (0+1))&&decide (al≤40))))∧Hid (Kp W4 wr)) (fun i _=>xl - (intOf i).toNat)
   case atStart=>exact ⟨0,Nat.zero_le _,rfl,HO3,HQ⟩
   case round=>
    obtain ⟨j,hj,rfl,HOj,HKj⟩:=hrel
    clear HO3 HQ z2
    have z2:=(uH HKj).cell ((uH P4).at 2:W4.cell? ⟨wo.heap.size,2,none⟩=some (.slice xo xl xc))
    have HBj:=hide (yB (uH HB4) (uH HKj))
    by_cases hjl:j<xl
    case neg=>
     have j1:¬(j:Int)<xl:=by omega
     have HO4:=hide (show o=(appsFrom qs next id (apps.drop (0+1))&&decide (al≤40)) by rw [uH HOj,List.drop_of_length_le (by have:=uH HAL;omega)];simp)
     go_wp2
     go_roundw
     case rel=>exact ⟨0+1,id,by omega,by go_num,HO4,hide ⟨by omega,fun e=>by omega,uH HNX⟩,hide (yB (uH HK4) (uH HKj))⟩
     case measure=>simp [intOf];omega
    have j0:(0:Int)≤j:=by omega
    have j1:(j:Int)<xl:=by omega
    obtain ⟨ab,aoff,rfl,ha⟩:=((uH HA).below (uH HBj)).at hjl
    have hjk:j<asks.length:=by have:=uH HAL;omega
    have hst:=all_step (p:=askOk) hjk
    have hnd:=uH HNA _ (List.getElem_mem hjk)
    obtain ⟨d0,d1,d2,d3,d4⟩:=ha hjk
    obtain ⟨q,hs⟩:∃s,asks[j]=s:=⟨_,rfl⟩
    rw [hs] at d0 d1 d2 d3 d4 hst hnd
    have CA:=hide (fun wx=>l04Ask_any q wx hnd)
    obtain ⟨ok,hok⟩:∃b,askOk q=b:=⟨_,rfl⟩
    rw [hok] at CA hst
    have HO5:=hide (show o=(ok&&((asks.drop (j+1)).all askOk&&(appsFrom qs next id (apps.drop (0+1))&&decide (al≤40)))) by rw [uH HOj,hst,Bool.and_assoc])
    clear ha hs hjk hnd hst hok HOj
    obtain ⟨me,cp,ct,nd,mi⟩:=q
    simp only at d0 d1 d2 d3 d4
    go_wp2_with fail
    refine (uH CA _).mono ?_
    rintro e w5 ⟨rfl,hb⟩
    have HK5:=hide (show Kp W4 _ from yB (uH HKj) hb)
    have HB5:=hide (yB (uH HBj) hb)
    clear hb CA d0 d1 d2 d3 d4 z2
    cases ok
    case false=>
     go_wp2
     go_ret
     exact ⟨yF (by rw [uH HO5];simp),uH HB5⟩
    go_wp2
    go_roundw
    case rel=>exact ⟨j+1,by omega,by go_num,hide (by rw [uH HO5];simp),HK5⟩
    case measure=>simp [intOf];omega
  obtain ⟨k',rfl⟩:∃k',k=k'+1:=⟨k - 1,by omega⟩
  have hpv:=uH HPV4 k' rfl
  have R2:∀wx,Kp W4 wx→wx.cell? ⟨b,off+k'*3,none⟩=some (.int .i64 last):=fun wx h=>h.cell hpv
  have hkw:IntKind.i64.wrap (k':Int)=k':=by rw [IntKind.wrap_i64];omega
  have kp0:(0:Int)≤k':=by omega
  have kp1:(k':Int)<al:=by omega
  have kp2:(0:Int)<((k'+1:Nat):Int):=by omega
  refine takeW 8 26 _ rfl rfl S0 ?_
  try simp only [Act.put,sA,sB,sC]
  refine takeW 9 27 (.bool true) rfl rfl S0 ?_
  try simp only [Act.put,sA,sB,sC]
  refine takeW 10 28 (.bool true) rfl rfl S0 ?_
  try simp only [Act.put,sA,sB,sC]
  refine takeW 11 29 _ rfl rfl S0 ?_
  try simp only [Act.put,sA,sB,sC]
  refine takeW 12 30 _ rfl rfl S0 ?_
  try simp only [Act.put,sA,sB,sC]
  refine takeW 13 31 _ rfl rfl S0 ?_
  try simp only [Act.put,sA,sB,sC]
  refine takeW 14 32 _ rfl rfl S0 ?_
  try simp only [Act.put,sA,sB,sC]
  refine takeW 15 33 _ rfl rfl S0 ?_
  try simp only [Act.put,sA,sB,sC]
  refine takeW 16 34 (.int .i64 k') rfl rfl S0 ?_
  try simp only [Act.put,sA,sB,sC]
  refine takeW 17 35 (.pointer (some ⟨b,off+k'*3,none⟩)) rfl rfl S0 ?_
  try simp only [Act.put,sA,sB,sC]
  refine takeW 18 36 _ rfl rfl S0 ?_
  try simp only [Act.put,sA,sB,sC]
  refine takeW 19 37 (.int .i64 last) rfl rfl S0 ?_
  try simp only [Act.put,sA,sB,sC]
  by_cases hle:id≤last
  ·
   refine takeW 20 38 (.bool true) rfl rfl S0 ?_
   try simp only [Act.put,sA,sB,sC]
   refine takeW 21 39 (.bool true) rfl rfl S0 ?_
   try simp only [Act.put,sA,sB,sC]
   refine takeW 22 40 (.bool true) rfl rfl S0 ?_
   try simp only [Act.put,sA,sB,sC]
   refine takeW 23 41 (.bool true) rfl rfl S0 ?_
   try simp only [Act.put,sA,sB,sC]
   refine takeU 24 42 rfl rfl S0 <| takeU 25 43 rfl rfl S0 <| takeU 26 44 rfl rfl S0 <| takeU 27 45 rfl rfl S0 <| takeU 28 46 rfl rfl S0 <| takeU 29 47 rfl rfl S0 <| ?_
   try simp only [Act.put,sA,sB,sC]
   refine takeW 30 48 (.bool true) rfl rfl S0 ?_
   try simp only [Act.put,sA,sB,sC]
   refine takeW 31 49 (.bool true) rfl rfl S0 ?_
   try simp only [Act.put,sA,sB,sC]
   refine takeU 32 50 rfl rfl S0 <| takeU 33 51 rfl rfl S0 <| takeU 34 52 rfl rfl S0 <| takeU 35 53 rfl rfl S0 <| ?_
   try simp only [Act.put,sA,sB,sC]
   refine takeW 36 54 (.bool true) rfl rfl S0 ?_
   try simp only [Act.put,sA,sB,sC]
   refine wpAnyH_done (by kernel_rfl) ?_ _
   have HB9:=hide (yB (uH HB4) ((uH HS).below S0))
   have HF:=hide (show o=false by
    rw [uH HO2,decide_eq_false (show ¬last<id by omega)];simp)
   go_wp2
   go_ret
   exact ⟨yF (uH HF).symm,uH HB9⟩
  refine takeW 20 38 (.bool false) rfl rfl S0 ?_
  try simp only [Act.put,sA,sB,sC]
  refine takeW 21 39 (.bool false) rfl rfl S0 ?_
  try simp only [Act.put,sA,sB,sC]
  refine takeW 22 40 (.bool false) rfl rfl S0 ?_
  try simp only [Act.put,sA,sB,sC]
  refine takeW 23 41 (.bool false) rfl rfl S0 ?_
  try simp only [Act.put,sA,sB,sC]
  refine takeW 24 42 _ rfl rfl S0 ?_
  try simp only [Act.put,sA,sB,sC]
  refine takeW 25 43 _ rfl rfl S0 ?_
  try simp only [Act.put,sA,sB,sC]
  refine takeW 26 44 _ rfl rfl S0 ?_
  try simp only [Act.put,sA,sB,sC]
  refine takeW 27 45 _ rfl rfl S0 ?_
  try simp only [Act.put,sA,sB,sC]
  cases lo
  case false=>
   refine wpAnyH_ready (rs:=[28]) (by kernel_rfl) (by simp) (AllReadyH.cons rfl (fun K hK=>?_) AllReadyH.nil)
   go_simp
   refine (uH CL _ (yB (uH HB4) ((uH HS).below S0))).mono ?_
   rintro e wt ⟨rfl,hb⟩
   have S1:=(uH HS).call S0 hb
   clear hb
   go_wp2_with fail
   refine hK.out _ _ S1 (fun S0=>?_)
   clear hK K S1
   try simp only [Act.put,sA,sB,sC]
   refine takeW 29 47 (.bool true) rfl rfl S0 ?_
   try simp only [Act.put,sA,sB,sC]
   refine takeW 30 48 (.bool true) rfl rfl S0 ?_
   try simp only [Act.put,sA,sB,sC]
   refine takeW 31 49 (.bool true) rfl rfl S0 ?_
   try simp only [Act.put,sA,sB,sC]
   refine takeU 32 50 rfl rfl S0 <| takeU 33 51 rfl rfl S0 <| takeU 34 52 rfl rfl S0 <| takeU 35 53 rfl rfl S0 <| ?_
   try simp only [Act.put,sA,sB,sC]
   refine takeW 36 54 (.bool true) rfl rfl S0 ?_
   try simp only [Act.put,sA,sB,sC]
   refine wpAnyH_done (by kernel_rfl) ?_ _
   have HB9:=hide (yB (uH HB4) ((uH HS).below S0))
   have HF:=hide (show o=false by
    rw [uH HO2];simp)
   go_wp2
   go_ret
   exact ⟨yF (uH HF).symm,uH HB9⟩
  refine wpAnyH_ready (rs:=[28]) (by kernel_rfl) (by simp) (AllReadyH.cons rfl (fun K hK=>?_) AllReadyH.nil)
  go_simp
  refine (uH CL _ (yB (uH HB4) ((uH HS).below S0))).mono ?_
  rintro e wt ⟨rfl,hb⟩
  have S1:=(uH HS).call S0 hb
  clear hb
  go_wp2_with fail
  refine hK.out _ _ S1 (fun S0=>?_)
  clear hK K S1
  try simp only [Act.put,sA,sB,sC]
  refine takeW 29 47 (.bool false) rfl rfl S0 ?_
  try simp only [Act.put,sA,sB,sC]
  refine takeW 30 48 (.bool false) rfl rfl S0 ?_
  try simp only [Act.put,sA,sB,sC]
  refine takeW 31 49 (.bool false) rfl rfl S0 ?_
  try simp only [Act.put,sA,sB,sC]
  refine takeW 32 50 _ rfl rfl S0 ?_
  try simp only [Act.put,sA,sB,sC]
  refine takeW 33 51 _ rfl rfl S0 ?_
  try simp only [Act.put,sA,sB,sC]
  by_cases h10:10<xl
  ·have h10i:(10:Int)<xl:=by omega
   refine takeW 34 52 (.int .i64 xl) rfl rfl S0 ?_
   try simp only [Act.put,sA,sB,sC]
   refine takeW 35 53 (.bool true) rfl rfl S0 ?_
   try simp only [Act.put,sA,sB,sC]
   refine takeW 36 54 (.bool true) rfl rfl S0 ?_
   try simp only [Act.put,sA,sB,sC]
   refine wpAnyH_done (by kernel_rfl) ?_ _
   have HB9:=hide (yB (uH HB4) ((uH HS).below S0))
   have HF:=hide (show o=false by
    rw [uH HO2,decide_eq_false (show ¬xl≤10 by omega)];simp)
   go_wp2
   go_ret
   exact ⟨yF (uH HF).symm,uH HB9⟩
  have h10i:¬(10:Int)<xl:=by omega
  refine takeW 34 52 (.int .i64 xl) rfl rfl S0 ?_
  try simp only [Act.put,sA,sB,sC]
  refine takeW 35 53 (.bool false) rfl rfl S0 ?_
  try simp only [Act.put,sA,sB,sC]
  refine takeW 36 54 (.bool false) rfl rfl S0 ?_
  try simp only [Act.put,sA,sB,sC]
  refine wpAnyH_done (by kernel_rfl) ?_ _
  have HO3:=hide (show o=((asks.drop 0).all askOk&&(appsFrom qs next id (apps.drop (k'+1+1))&&decide (al≤40))) by rw [uH HO2,decide_eq_true (show last<id by omega),decide_eq_true (show id<next by omega),decide_eq_true (show xl≤10 by omega)];simp [Bool.and_assoc])
  have HQ:=hide S0
  have z2:=(R _ S0).2.2.2.2.2
  clear HO2 A0 HS R S0 CL HPV4
  go_wp2
  go_loopw [5] (fun i wr=>∃(j:Nat),j≤xl∧i=.int .i64 j∧Hid (o=((asks.drop j).all askOk&&(appsFrom qs next id (apps.drop (k'+1+1))&&decide (al≤40))))∧Hid (Kp W4 wr)) (fun i _=>xl - (intOf i).toNat)
  case atStart=>exact ⟨0,Nat.zero_le _,rfl,HO3,HQ⟩
  case round=>
   obtain ⟨j,hj,rfl,HOj,HKj⟩:=hrel
   clear HO3 HQ z2
   have z2:=(uH HKj).cell ((uH P4).at 2:W4.cell? ⟨wo.heap.size,2,none⟩=some (.slice xo xl xc))
   have HBj:=hide (yB (uH HB4) (uH HKj))
   by_cases hjl:j<xl
   case neg=>
    have j1:¬(j:Int)<xl:=by omega
    have HO4:=hide (show o=(appsFrom qs next id (apps.drop (k'+1+1))&&decide (al≤40)) by rw [uH HOj,List.drop_of_length_le (by have:=uH HAL;omega)];simp)
    go_wp2
    go_roundw
    case rel=>exact ⟨k'+1+1,id,by omega,by go_num,HO4,hide ⟨by omega,fun e=>by omega,uH HNX⟩,hide (yB (uH HK4) (uH HKj))⟩
    case measure=>simp [intOf];omega
   have j0:(0:Int)≤j:=by omega
   have j1:(j:Int)<xl:=by omega
   obtain ⟨ab,aoff,rfl,ha⟩:=((uH HA).below (uH HBj)).at hjl
   have hjk:j<asks.length:=by have:=uH HAL;omega
   have hst:=all_step (p:=askOk) hjk
   have hnd:=uH HNA _ (List.getElem_mem hjk)
   obtain ⟨d0,d1,d2,d3,d4⟩:=ha hjk
   obtain ⟨q,hs⟩:∃s,asks[j]=s:=⟨_,rfl⟩
   rw [hs] at d0 d1 d2 d3 d4 hst hnd
   have CA:=hide (fun wx=>l04Ask_any q wx hnd)
   obtain ⟨ok,hok⟩:∃b,askOk q=b:=⟨_,rfl⟩
   rw [hok] at CA hst
   have HO5:=hide (show o=(ok&&((asks.drop (j+1)).all askOk&&(appsFrom qs next id (apps.drop (k'+1+1))&&decide (al≤40)))) by rw [uH HOj,hst,Bool.and_assoc])
   clear ha hs hjk hnd hst hok HOj
   obtain ⟨me,cp,ct,nd,mi⟩:=q
   simp only at d0 d1 d2 d3 d4
   go_wp2_with fail
   refine (uH CA _).mono ?_
   rintro e w5 ⟨rfl,hb⟩
   have HK5:=hide (show Kp W4 _ from yB (uH HKj) hb)
   have HB5:=hide (yB (uH HBj) hb)
   clear hb CA d0 d1 d2 d3 d4 z2
   cases ok
   case false=>
    go_wp2
    go_ret
    exact ⟨yF (by rw [uH HO5];simp),uH HB5⟩
   go_wp2
   go_roundw
   case rel=>exact ⟨j+1,by omega,by go_num,hide (by rw [uH HO5];simp),HK5⟩
   case measure=>simp [intOf];omega
theorem l04On_any (x:Sls) (s:St) (nd:List UInt8) (w:World) (h:ConRow w x.ca x.cl s.cs) (hl:x.cl≤1048576) :
  Calls Tryz.prog 93 #[sv x s,.string (bs nd)] w fun e w'=>∃v,e=.returned v∧ROwn w.heap.size w' v (usedL (fun q=>decide (q.node=nd)) s.cs)∧Below w.heap.size w w':=by
 obtain ⟨i0,hi,hz0,hz1,hz2⟩:=info_parts Tryz.infoR
 obtain ⟨qa,ql,qc,aa,al,ac,ma,ml,mc,ca,cl,cc⟩:=x
 obtain ⟨qs,clock,epoch,next,serial,apps,ms,cs⟩:=s
 simp only at h hl ⊢
 have HR:=hide h
 have HL:=hide h.1
 have HB0:=hide (boxW_below w #[.slice qa ql qc,.int .i64 clock,.int .i64 epoch,.int .i64 next,.int .i64 serial,.slice aa al ac,.slice ma ml mc,.slice ca cl cc])
 have P0:=hide (boxW_blk w #[.slice qa ql qc,.int .i64 clock,.int .i64 epoch,.int .i64 next,.int .i64 serial,.slice aa al ac,.slice ma ml mc,.slice ca cl cc])
 have HW:=hide (boxW_size w #[.slice qa ql qc,.int .i64 clock,.int .i64 epoch,.int .i64 next,.int .i64 serial,.slice aa al ac,.slice ma ml mc,.slice ca cl cc])
 have HO0:=hide (rown_empty (boxW w #[.slice qa ql qc,.int .i64 clock,.int .i64 epoch,.int .i64 next,.int .i64 serial,.slice aa al ac,.slice ma ml mc,.slice ca cl cc]))
 obtain ⟨c,hc⟩:∃c:Array Value,#[.slice qa ql qc,.int .i64 clock,.int .i64 epoch,.int .i64 next,.int .i64 serial,.slice aa al ac,.slice ma ml mc,.slice ca cl cc]=c:=⟨_,rfl⟩
 rw [hc] at HB0 HW HO0
 have P0:=hide (show Blk (boxW w c) w.heap.size #[.slice qa ql qc,.int .i64 clock,.int .i64 epoch,.int .i64 next,.int .i64 serial,.slice aa al ac,.slice ma ml mc,.slice ca cl cc] 34 by rw [hc];exact boxW_blk w c)
 have HC:=hide hc
 clear h hc
 go_enter Tryz.func93,Tryz.ntmps93
 go_wp2
 go_loopw [5,6] (fun v i wr=>∃(k:Nat),k≤cl∧i=.int .i64 k∧Hid (ROwn (boxW w c).heap.size wr v (usedL (fun q=>decide (q.node=nd)) (cs.take k)))∧Hid (Below (boxW w c).heap.size (boxW w c) wr)) (fun _ i _=>cl - (intOf i).toNat)
 case atStart=>
  obtain rfl:=uH HC
  have h1:=uH HW
  refine ⟨0,Nat.zero_le _,rfl,hide ?_,hide (yA (Below.refl _ _) _)⟩
  have:=uH HO0
  rw [h1] at this
  rw [h1]
  exact this
 case round=>
  obtain ⟨k,hk,rfl,HO,HB⟩:=hrel
  have hn1:w.heap.size<(boxW w c).heap.size:=by have:=uH HW;omega
  have p7:=Blk.at (show Blk wr w.heap.size _ 34 from ((uH HB).block _ hn1).trans (uH P0)) 7
  simp at p7
  by_cases hlt:k<cl
  ·obtain ⟨b,off,rfl,hq⟩:=(((uH HR).below (uH HB0)).below (uH HB)).at hlt
   have hkl:k<cs.length:=by have:=uH HL;omega
   have hst:=usedL_step (p:=fun q=>decide (q.node=nd)) hkl
   obtain ⟨c0,c1,c2,c3,c4⟩:=hq hkl
   obtain ⟨m,hs⟩:∃q,cs[k]=q:=⟨_,rfl⟩
   rw [hs] at c0 c1 c2 c3 c4 hst
   have hal:(usedL (fun q=>decide (q.node=nd)) (cs.take k)).length≤1048576:=by have:(usedL (fun q:Con=>decide (q.node=nd)) (cs.take k)).length≤(cs.take k).length:=(by simp only [usedL,List.length_map];exact List.length_filter_le _ _);simp at this;omega
   obtain ⟨acc,hacc⟩:∃a,usedL (fun q=>decide (q.node=nd)) (cs.take k)=a:=⟨_,rfl⟩
   rw [hacc] at hst hal HO
   obtain ⟨id,ap,no,me,cp⟩:=m
   simp only at c0 c1 c2 c3 c4 hst
   have hs2:(boxW w c).heap.size≤wr.heap.size:=(uH HB).size
   have hown:wr.ownsRow (boxW w c).heap.size 36 2 _ acc.length (rcells acc):=uH HO
   have hbe:=bs_eq no nd
   clear hq hs hkl hacc
   by_cases hnd:no=nd
   ·rw [decide_eq_true hnd] at hbe hst
    have HST:=hide (show usedL (fun q=>decide (q.node=nd)) (cs.take (k+1))=acc++[(me,cp)] by have:=hst;rw [if_pos rfl] at this;exact this)
    clear hst hnd
    go_wp2_with (at_builtin;refine wpList_append_own _ rfl _ _ 141 rfl (boxW w c).heap.size 36 i0 (.agg #[.int .i64 0,.int .i64 0]) 2 16 Tryz.underlying141 hi hz0 hz1 hz2 rfl (by decide) _ _ _ rfl (hown.alloc _) ⟨wr.heap.size,0,none⟩ 1 1 (rcell (me,cp)) rfl rfl ?c1 ?c2 ?c3 ?c4 ?c5 ?_)
    case c1=>
     intro j x hj
     match j,hj with
     | 0,hj=>simp at hj;subst hj;simp [Addr.add]
     | 1,hj=>simp at hj;subst hj;simp [Addr.add]
     | _+2,hj=>simp at hj
    case c2=>intro x hx;simp at hx;rcases hx with rfl | rfl<;>rfl
    case c3=>unfold maxLen;omega
    case c4=>omega
    case c5=>simp at hs2 ⊢;omega
    intro v' w3 hown' hgrow _
    have R:=rown_step (q:=(me,cp)) (uH HB) (uH HO) hown' hgrow hs2
    have HR3:=hide R
    clear hown' hgrow hown c0 c1 c2 c3 c4 R p7
    go_wp2
    go_roundw
    case rel=>exact ⟨k+1,by omega,by go_num,hide (by rw [uH HST];exact (uH HR3).1),hide (uH HR3).2⟩
    case measure=>simp [intOf];omega
   ·rw [decide_eq_false hnd] at hbe hst
    have HST:=hide (show usedL (fun q=>decide (q.node=nd)) (cs.take (k+1))=acc by have:=hst;rw [if_neg (by simp)] at this;exact this)
    clear hst hnd hown
    go_wp2
    go_roundw
    case rel=>exact ⟨k+1,by omega,by go_num,hide (by rw [uH HST];exact uH HO),HB⟩
    case measure=>simp [intOf];omega
  ·have htk:cs.take k=cs:=List.take_of_length_le (by have:=uH HL;omega)
   rw [htk] at HO
   go_wp2
   go_ret
   exact ⟨_,rfl,(uH HO).base (by omega),yB (uH HB0) (uH HB)⟩
end
end Go.Proofs.YtdhibeclkdepiaaGreat
