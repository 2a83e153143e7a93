/-
  The applications of a state are right, by the model: l04Apps; a walk over the dump.
-/
import Derived.Test.YtjkfappkpopbdaaGreatSackS
set_option maxRecDepth 100000
set_option maxHeartbeats 16000000
set_option linter.unusedVariables false
set_option linter.unusedSimpArgs false
namespace Go.Proofs.YtjkfappkpopbdaaGreat
section
open Go.RowKit
theorem asksOk_all (l:List Ask):asksOk l=(decide (l.length≤10)&&l.all askOk):=rfl
theorem all_step {p:Ask→Bool} {l:List Ask} {k:Nat} (h:k<l.length):(l.drop k).all p=(p l[k]&&(l.drop (k+1)).all p):=by
 rw [List.drop_eq_getElem_cons h,List.all_cons]
theorem l04Apps_any (x:Sls) (s:St) (w:World) (h:SRow w x s) (hf:FitSt s) (hq:queuesOk s.qs=true) (hn1:1≤s.next) (hn2:s.next≤1000000000) :
  Calls Tryz.prog 115 #[sv x s] w fun e w'=>e=.returned (.bool (appsOkV s))∧Below w.heap.size w w':=by
 have hql:x.ql≤1048576:=by have:=h.len.1;have:=hf.1.1;omega
 have hal:x.al≤1048576:=by have:=h.len.2.1;have:=hf.2.1.1;omega
 have HR:=hide h.2.1
 have HL:=hide h.2.1.1
 have HFA:=hide hf.2.1
 have CLF:=hide (fun wx (hb:Below w.heap.size w wx) (nm:List UInt8)=>by have:=specLeaf_any x.qa x.ql x.qc s.qs nm wx (h.1.below hb) hql (fun q hq=>(hf.1.2 q hq).1);rw [leaf_lone,hq,Bool.true_and] at this;exact this)
 have HS0:=hide (show appsOkV s=(appsFrom s.qs s.next 0 (s.apps.drop 0)&&decide (x.al≤40)) by rw [appsOkV,←h.2.1.1,Bool.and_comm];rfl)
 obtain ⟨o,ho⟩:∃o,appsOkV s=o:=⟨_,rfl⟩
 rw [ho] at HS0 ⊢
 clear h hf ho hq
 obtain ⟨qa,ql,qc,aa,al,ac,ma,ml,mc,ca,cl,cc⟩:=x
 obtain ⟨qs,clock,epoch,next,serial,apps,ms,cs⟩:=s
 simp only at hql hal HR HL HFA CLF HS0 hn1 hn2
 have HB0:=hide (boxW_below w (svc ⟨qa,ql,qc,aa,al,ac,ma,ml,mc,ca,cl,cc⟩ ⟨qs,clock,epoch,next,serial,apps,ms,cs⟩))
 have P0:=hide (boxW_blk w (svc ⟨qa,ql,qc,aa,al,ac,ma,ml,mc,ca,cl,cc⟩ ⟨qs,clock,epoch,next,serial,apps,ms,cs⟩))
 have q0:=(uH P0).at 0
 have q3:=(uH P0).at 3
 have q5:=(uH P0).at 5
 simp at q0 q3 q5
 obtain ⟨W0,hW0⟩:∃W,boxW w (svc ⟨qa,ql,qc,aa,al,ac,ma,ml,mc,ca,cl,cc⟩ ⟨qs,clock,epoch,next,serial,apps,ms,cs⟩)=W:=⟨_,rfl⟩
 rw [hW0] at HB0 q0 q3 q5
 have Q0:=hide q0
 have Q3:=hide q3
 have Q5:=hide q5
 have hnw:IntKind.i64.wrap (next - 1)=next - 1:=by rw [IntKind.wrap_i64];omega
 clear P0 q0 q3 q5
 go_enter Tryz.func115,Tryz.ntmps115
 go_wp2
 change Code.wp _ _ _ _ (boxW w (svc ⟨qa,ql,qc,aa,al,ac,ma,ml,mc,ca,cl,cc⟩ ⟨qs,clock,epoch,next,serial,apps,ms,cs⟩))
 rw [hW0]
 clear hW0
 go_loopw [3] (fun i wr=>∃(k:Nat) (last:Int),k≤al∧i=.int .i64 k∧Hid (o=(appsFrom qs next last (apps.drop k)&&decide (al≤40)))∧Hid (0≤last∧(k=0→last=0)∧∀(k':Nat) (hk':k'<apps.length),k=k'+1→last=apps[k'].id)∧Hid (Kp W0 wr)) (fun i _=>al - (intOf i).toNat)
 case atStart=>exact ⟨0,0,Nat.zero_le _,rfl,HS0,hide ⟨by omega,fun _=>rfl,fun k' _ e=>by omega⟩,hide (Kp.new W0)⟩
 case round=>
  obtain ⟨k,last,hk,rfl,HO,HLA,HK⟩:=hrel
  obtain ⟨wo,rfl⟩:∃wo:World,wo=wr:=⟨_,rfl⟩
  clear HS0
  have q0:=(uH HK).cell (uH Q0)
  have q3:=(uH HK).cell (uH Q3)
  have q5:=(uH HK).cell (uH Q5)
  have KW:=hide (show Kp w wo from yB (uH HB0) (uH HK))
  by_cases hlt:k<al
  case neg=>
   have HO2:=hide (show o=decide (al≤40) by rw [uH HO,appsFrom_end (by have:=uH HL;omega),Bool.true_and])
   have k1:¬(k:Int)<al:=by omega
   have h40:decide ((al:Int)≤40)=decide (al≤40):=by simp;omega
   go_wp2
   go_ret
   exact ⟨yF (by rw [uH HO2];try exact h40),uH KW⟩
  obtain ⟨b,off,rfl,hq⟩:=(uH HR).at hlt
  have hkl:k<apps.length:=by have:=uH HL;omega
  have hst:=appsFrom_step (qs:=qs) (nx:=next) (last:=last) (l:=apps) (k:=k) hkl
  have hfa:=(uH HFA).2 _ (yM hkl)
  obtain ⟨xo,xl,xc,c0,c1,c2,hrow,_⟩:=hq hkl
  replace c0:=(uH KW).cell c0
  replace c1:=(uH KW).cell c1
  replace c2:=(uH KW).cell c2
  have HPV:=hide (fun (k':Nat) (e:k=k'+1)=>show wo.cell? ⟨b,off+k'*3,none⟩=some (.int .i64 last) by
   have hk'':k'<apps.length:=by omega
   obtain ⟨b',off',eb,hq'⟩:=(uH HR).at (show k'<al by omega)
   obtain ⟨rfl,rfl⟩:b=b'∧off=off':=by simpa using eb
   obtain ⟨_,_,_,d0,_⟩:=hq' hk''
   rw [(uH HLA).2.2 k' hk'' e]
   exact (uH KW).cell d0)
  obtain ⟨⟨id,qu,asks⟩,hs⟩:∃s,apps[k]=s:=⟨_,rfl⟩
  have HNX:=hide (show ∀(k':Nat) (hk':k'<apps.length),k+1=k'+1→id=apps[k'].id from fun k' hk' e=>by
   have:k=k':=by omega
   subst this
   rw [hs])
  rw [hs] at c0 c1 hst hrow hfa
  simp only at c0 c1 hst hrow
  have hxl:xl≤1048576:=by have h1:=hrow.1;have h2:=hfa.2.1;simp only at h2;omega
  have HA:=hide hrow
  have HAL:=hide hrow.1
  have HNA:=hide hfa.2.2
  have k0:(0:Int)≤k:=by omega
  have k1:(k:Int)<al:=by omega
  rw [asksOk_all,←hrow.1] at hst
  obtain ⟨lo,hlo⟩:∃b,lone qs qu=b:=⟨_,rfl⟩
  have CL:=hide (fun wx (hb:Below w.heap.size w wx)=>by have:=uH CLF wx hb qu;rw [hlo] at this;exact this)
  rw [hlo] at hst
  have HO2:=hide ((uH HO).trans (congrArg (· && decide (al≤40)) hst))
  obtain ⟨ib,hib⟩:∃b,inB id 1 (next - 1)=b:=⟨_,rfl⟩
  obtain ⟨hl0,hlz,_⟩:=uH HLA
  clear hq hs hkl hrow hfa hst hlo HO CLF
  have b4:=yA (yH _ wo) (.cells #[.int .i64 id,.string (bs qu),.slice xo xl xc] 139)
  have HB4:=hide (yB (uH KW) b4)
  have P4:=hide (yD wo #[.int .i64 id,.string (bs qu),.slice xo xl xc] 139)
  obtain ⟨W4,hW4⟩:∃W,wo.alloc (.cells #[.int .i64 id,.string (bs qu),.slice xo xl xc] 139)=W:=⟨_,rfl⟩
  rw [hW4] at b4 HB4 P4
  have HK4:=hide (show Kp W0 W4 from yB (uH HK) b4)
  have r0:=Kp.cell b4 q0
  have r3:=Kp.cell b4 q3
  have r5:=Kp.cell b4 q5
  have a0:=(uH P4).at 0
  have a1:=(uH P4).at 1
  have a2:=(uH P4).at 2
  simp at a0 a1 a2
  have R:∀wx,Kp W4 wx→wx.cell? ⟨w.heap.size,0,none⟩=some (.slice qa ql qc)∧wx.cell? ⟨w.heap.size,3,none⟩=some (.int .i64 next)∧wx.cell? ⟨w.heap.size,5,none⟩=some (.slice (some ⟨b,off,none⟩) al ac)∧wx.cell? ⟨wo.heap.size,0,none⟩=some (.int .i64 id)∧wx.cell? ⟨wo.heap.size,1,none⟩=some (.string (bs qu))∧wx.cell? ⟨wo.heap.size,2,none⟩=some (.slice xo xl xc):=fun wx h=>
   ⟨h.cell r0,h.cell r3,h.cell r5,h.cell a0,h.cell a1,h.cell a2⟩
  have HPV4:=hide (fun (k':Nat) (e:k=k'+1)=>Kp.cell b4 (uH HPV k' e))
  have A0:=hide (Kp.new W4)
  have HS:=hide (kp_holds W4)
  clear b4 HPV
  go_wp2_with fail
  first | (change Code.wp _ _ _ _ (wo.alloc (.cells #[.int .i64 id,.string (bs qu),.slice xo xl xc] 139));rw [hW4]) | skip
  clear hW4 c0 c1 c2 q0 q3 q5 r0 r3 r5 a0 a1 a2
  refine wp_region_held_drew (S:=fun wx=>Kp W4 wx) (by kernel_rfl) ((uH HS).drew (uH A0)) (fun S0=>?_)
  refine tW 0 18 _ S0 ?_
  try simp only [zW]
  refine tW 1 19 _ S0 ?_
  try simp only [zW]
  refine tW 2 20 _ S0 ?_
  try simp only [zW]
  refine tW 3 21 _ S0 ?_
  try simp only [zW]
  refine tW 4 22 (.int .i64 (next - 1)) S0 ?_
  try simp only [zW]
  cases ib
  case false=>
   refine wpAnyH_ready (rs:=[5]) (by kernel_rfl) (by simp) (AllReadyH.cons rfl (fun K hK=>?_) AllReadyH.nil)
   go_simp
   refine (l01In_any id 1 (next - 1) _).mono ?_
   rw [hib]
   rintro e wt ⟨rfl,rfl⟩
   have S1:=S0
   go_wp2_with fail
   refine hK.out _ _ S1 (fun S0=>?_)
   clear hK K S1
   try simp only [zW]
   refine tW 6 24 (.bool true) S0 ?_
   try simp only [zW]
   refine tW 7 25 (.bool true) S0 ?_
   try simp only [zW]
   refine tU 8 26 S0 <| tU 9 27 S0 <| tU 10 28 S0 <| tU 11 29 S0 <| tU 12 30 S0 <| tU 13 31 S0 <| tU 14 32 S0 <| tU 15 33 S0 <| tU 16 34 S0 <| tU 17 35 S0 <| tU 18 36 S0 <| tU 19 37 S0 <| tU 20 38 S0 <| tU 21 39 S0 <| ?_
   try simp only [zW]
   refine tW 22 40 (.bool true) S0 ?_
   try simp only [zW]
   refine tW 23 41 (.bool true) S0 ?_
   try simp only [zW]
   refine tU 24 42 S0 <| tU 25 43 S0 <| tU 26 44 S0 <| tU 27 45 S0 <| tU 28 46 S0 <| tU 29 47 S0 <| ?_
   try simp only [zW]
   refine tW 30 48 (.bool true) S0 ?_
   try simp only [zW]
   refine tW 31 49 (.bool true) S0 ?_
   try simp only [zW]
   refine tU 32 50 S0 <| tU 33 51 S0 <| tU 34 52 S0 <| tU 35 53 S0 <| ?_
   try simp only [zW]
   refine tW 36 54 (.bool true) S0 ?_
   try simp only [zW]
   refine wpAnyH_done (by kernel_rfl) ?_ _
   have HB9:=hide (yB (uH HB4) ((uH HS).below S0))
   have HF:=hide (show o=false by
    have hc:¬(1≤id∧id≤next - 1):=fun hc=>by rw [inB_true hc.1 hc.2] at hib;cases hib
    have hz:decide (last<id)=false∨decide (id<next)=false:=by simp only [decide_eq_false_iff_not];omega
    rw [uH HO2];rcases hz with hz | hz<;>rw [hz]<;>simp)
   go_wp2
   go_ret
   exact ⟨yF (uH HF).symm,uH HB9⟩
  have hin:1≤id∧id≤next - 1:=by simpa [inB] using hib
  refine wpAnyH_ready (rs:=[5]) (by kernel_rfl) (by simp) (AllReadyH.cons rfl (fun K hK=>?_) AllReadyH.nil)
  go_simp
  refine (l01In_any id 1 (next - 1) _).mono ?_
  rw [hib]
  rintro e wt ⟨rfl,rfl⟩
  have S1:=S0
  go_wp2_with fail
  refine hK.out _ _ S1 (fun S0=>?_)
  clear hK K S1
  try simp only [zW]
  refine tW 6 24 (.bool false) S0 ?_
  try simp only [zW]
  refine tW 7 25 (.bool false) S0 ?_
  try simp only [zW]
  by_cases hk0:k=0
  ·obtain rfl:=hk0
   obtain rfl:=hlz rfl
   refine tW 8 26 _ S0 ?_
   try simp only [zW]
   refine tW 9 27 (.bool false) S0 ?_
   try simp only [zW]
   refine tW 10 28 (.bool false) S0 ?_
   try simp only [zW]
   refine tU 11 29 S0 <| tU 12 30 S0 <| tU 13 31 S0 <| tU 14 32 S0 <| tU 15 33 S0 <| tU 16 34 S0 <| tU 17 35 S0 <| tU 18 36 S0 <| tU 19 37 S0 <| tU 20 38 S0 <| ?_
   try simp only [zW]
   refine tW 21 39 (.bool false) S0 ?_
   try simp only [zW]
   refine tW 22 40 (.bool false) S0 ?_
   try simp only [zW]
   refine tW 23 41 (.bool false) S0 ?_
   try simp only [zW]
   refine tW 24 42 _ S0 ?_
   try simp only [zW]
   refine tW 25 43 _ S0 ?_
   try simp only [zW]
   refine tW 26 44 _ S0 ?_
   try simp only [zW]
   refine tW 27 45 _ S0 ?_
   try simp only [zW]
   cases lo
   case false=>
    refine wpAnyH_ready (rs:=[28]) (by kernel_rfl) (by simp) (AllReadyH.cons rfl (fun K hK=>?_) AllReadyH.nil)
    go_simp
    refine (uH CL _ (yB (uH HB4) ((uH HS).below S0))).mono ?_
    rintro e wt ⟨rfl,hb⟩
    have S1:=(uH HS).call S0 hb
    clear hb
    go_wp2_with fail
    refine hK.out _ _ S1 (fun S0=>?_)
    clear hK K S1
    try simp only [zW]
    refine tW 29 47 (.bool true) S0 ?_
    try simp only [zW]
    refine tW 30 48 (.bool true) S0 ?_
    try simp only [zW]
    refine tW 31 49 (.bool true) S0 ?_
    try simp only [zW]
    refine tU 32 50 S0 <| tU 33 51 S0 <| tU 34 52 S0 <| tU 35 53 S0 <| ?_
    try simp only [zW]
    refine tW 36 54 (.bool true) S0 ?_
    try simp only [zW]
    refine wpAnyH_done (by kernel_rfl) ?_ _
    have HB9:=hide (yB (uH HB4) ((uH HS).below S0))
    have HF:=hide (show o=false by
     rw [uH HO2];simp)
    go_wp2
    go_ret
    exact ⟨yF (uH HF).symm,uH HB9⟩
   refine wpAnyH_ready (rs:=[28]) (by kernel_rfl) (by simp) (AllReadyH.cons rfl (fun K hK=>?_) AllReadyH.nil)
   go_simp
   refine (uH CL _ (yB (uH HB4) ((uH HS).below S0))).mono ?_
   rintro e wt ⟨rfl,hb⟩
   have S1:=(uH HS).call S0 hb
   clear hb
   go_wp2_with fail
   refine hK.out _ _ S1 (fun S0=>?_)
   clear hK K S1
   try simp only [zW]
   refine tW 29 47 (.bool false) S0 ?_
   try simp only [zW]
   refine tW 30 48 (.bool false) S0 ?_
   try simp only [zW]
   refine tW 31 49 (.bool false) S0 ?_
   try simp only [zW]
   refine tW 32 50 _ S0 ?_
   try simp only [zW]
   refine tW 33 51 _ S0 ?_
   try simp only [zW]
   by_cases h10:10<xl
   ·have h10i:(10:Int)<xl:=by omega
    refine tW 34 52 (.int .i64 xl) S0 ?_
    try simp only [zW]
    refine tW 35 53 (.bool true) S0 ?_
    try simp only [zW]
    refine tW 36 54 (.bool true) S0 ?_
    try simp only [zW]
    refine wpAnyH_done (by kernel_rfl) ?_ _
    have HB9:=hide (yB (uH HB4) ((uH HS).below S0))
    have HF:=hide (show o=false by
     rw [uH HO2,decide_eq_false (show ¬xl≤10 by omega)];simp)
    go_wp2
    go_ret
    exact ⟨yF (uH HF).symm,uH HB9⟩
   have h10i:¬(10:Int)<xl:=by omega
   refine tW 34 52 (.int .i64 xl) S0 ?_
   try simp only [zW]
   refine tW 35 53 (.bool false) S0 ?_
   try simp only [zW]
   refine tW 36 54 (.bool false) S0 ?_
   try simp only [zW]
   refine wpAnyH_done (by kernel_rfl) ?_ _
   have HO3:=hide (show o=((asks.drop 0).all askOk&&(appsFrom qs next id (apps.drop (0+1))&&decide (al≤40))) by rw [uH HO2,decide_eq_true (show 0<id by omega),decide_eq_true (show id<next by omega),decide_eq_true (show xl≤10 by omega)];simp [Bool.and_assoc])
   have HQ:=hide S0
   have z2:=(R _ S0).2.2.2.2.2
   clear HO2 A0 HS R S0 CL HPV4
   go_wp2
   go_loopw [5] (fun i wr=>∃(j:Nat),j≤xl∧i=.int .i64 j∧Hid (o=((asks.drop j).all askOk&&(appsFrom qs next id (apps.drop (0+1))&&decide (al≤40))))∧Hid (Kp W4 wr)) (fun i _=>xl - (intOf i).toNat)
   case atStart=>exact ⟨0,Nat.zero_le _,rfl,HO3,HQ⟩
   case round=>
    obtain ⟨j,hj,rfl,HOj,HKj⟩:=hrel
    clear HO3 HQ z2
    have z2:=(uH HKj).cell ((uH P4).at 2:W4.cell? ⟨wo.heap.size,2,none⟩=some (.slice xo xl xc))
    have HBj:=hide (yB (uH HB4) (uH HKj))
    by_cases hjl:j<xl
    case neg=>
     have j1:¬(j:Int)<xl:=by omega
     have HO4:=hide (show o=(appsFrom qs next id (apps.drop (0+1))&&decide (al≤40)) by rw [uH HOj,List.drop_of_length_le (by have:=uH HAL;omega)];simp)
     go_wp2
     go_roundw
     case rel=>exact ⟨0+1,id,by omega,by go_num,HO4,hide ⟨by omega,fun e=>by omega,uH HNX⟩,hide (yB (uH HK4) (uH HKj))⟩
     case measure=>simp [intOf];omega
    have j0:(0:Int)≤j:=by omega
    have j1:(j:Int)<xl:=by omega
    obtain ⟨ab,aoff,rfl,ha⟩:=((uH HA).below (uH HBj)).at hjl
    have hjk:j<asks.length:=by have:=uH HAL;omega
    have hst:=all_step (p:=askOk) hjk
    have hnd:=uH HNA _ (yM hjk)
    obtain ⟨d0,d1,d2,d3,d4⟩:=ha hjk
    obtain ⟨q,hs⟩:∃s,asks[j]=s:=⟨_,rfl⟩
    rw [hs] at d0 d1 d2 d3 d4 hst hnd
    have CA:=hide (fun wx=>l04Ask_any q wx hnd)
    obtain ⟨ok,hok⟩:∃b,askOk q=b:=⟨_,rfl⟩
    rw [hok] at CA hst
    have HO5:=hide (show o=(ok&&((asks.drop (j+1)).all askOk&&(appsFrom qs next id (apps.drop (0+1))&&decide (al≤40)))) by rw [uH HOj,hst,Bool.and_assoc])
    clear ha hs hjk hnd hst hok HOj
    obtain ⟨me,cp,ct,nd,mi⟩:=q
    simp only at d0 d1 d2 d3 d4
    go_wp2_with fail
    refine (uH CA _).mono ?_
    rintro e w5 ⟨rfl,hb⟩
    have HK5:=hide (show Kp W4 _ from yB (uH HKj) hb)
    have HB5:=hide (yB (uH HBj) hb)
    clear hb CA d0 d1 d2 d3 d4 z2
    cases ok
    case false=>
     go_wp2
     go_ret
     exact ⟨yF (by rw [uH HO5];simp),uH HB5⟩
    go_wp2
    go_roundw
    case rel=>exact ⟨j+1,by omega,by go_num,hide (by rw [uH HO5];simp),HK5⟩
    case measure=>simp [intOf];omega
  obtain ⟨k',rfl⟩:∃k',k=k'+1:=⟨k - 1,by omega⟩
  have hpv:=uH HPV4 k' rfl
  have R2:∀wx,Kp W4 wx→wx.cell? ⟨b,off+k'*3,none⟩=some (.int .i64 last):=fun wx h=>h.cell hpv
  have hkw:IntKind.i64.wrap (k':Int)=k':=by rw [IntKind.wrap_i64];omega
  have kp0:(0:Int)≤k':=by omega
  have kp1:(k':Int)<al:=by omega
  have kp2:(0:Int)<((k'+1:Nat):Int):=by omega
  refine tW 8 26 _ S0 ?_
  try simp only [zW]
  refine tW 9 27 (.bool true) S0 ?_
  try simp only [zW]
  refine tW 10 28 (.bool true) S0 ?_
  try simp only [zW]
  refine tW 11 29 _ S0 ?_
  try simp only [zW]
  refine tW 12 30 _ S0 ?_
  try simp only [zW]
  refine tW 13 31 _ S0 ?_
  try simp only [zW]
  refine tW 14 32 _ S0 ?_
  try simp only [zW]
  refine tW 15 33 _ S0 ?_
  try simp only [zW]
  refine tW 16 34 (.int .i64 k') S0 ?_
  try simp only [zW]
  refine tW 17 35 (.pointer (some ⟨b,off+k'*3,none⟩)) S0 ?_
  try simp only [zW]
  refine tW 18 36 _ S0 ?_
  try simp only [zW]
  refine tW 19 37 (.int .i64 last) S0 ?_
  try simp only [zW]
  by_cases hle:id≤last
  ·
   refine tW 20 38 (.bool true) S0 ?_
   try simp only [zW]
   refine tW 21 39 (.bool true) S0 ?_
   try simp only [zW]
   refine tW 22 40 (.bool true) S0 ?_
   try simp only [zW]
   refine tW 23 41 (.bool true) S0 ?_
   try simp only [zW]
   refine tU 24 42 S0 <| tU 25 43 S0 <| tU 26 44 S0 <| tU 27 45 S0 <| tU 28 46 S0 <| tU 29 47 S0 <| ?_
   try simp only [zW]
   refine tW 30 48 (.bool true) S0 ?_
   try simp only [zW]
   refine tW 31 49 (.bool true) S0 ?_
   try simp only [zW]
   refine tU 32 50 S0 <| tU 33 51 S0 <| tU 34 52 S0 <| tU 35 53 S0 <| ?_
   try simp only [zW]
   refine tW 36 54 (.bool true) S0 ?_
   try simp only [zW]
   refine wpAnyH_done (by kernel_rfl) ?_ _
   have HB9:=hide (yB (uH HB4) ((uH HS).below S0))
   have HF:=hide (show o=false by
    rw [uH HO2,decide_eq_false (show ¬last<id by omega)];simp)
   go_wp2
   go_ret
   exact ⟨yF (uH HF).symm,uH HB9⟩
  refine tW 20 38 (.bool false) S0 ?_
  try simp only [zW]
  refine tW 21 39 (.bool false) S0 ?_
  try simp only [zW]
  refine tW 22 40 (.bool false) S0 ?_
  try simp only [zW]
  refine tW 23 41 (.bool false) S0 ?_
  try simp only [zW]
  refine tW 24 42 _ S0 ?_
  try simp only [zW]
  refine tW 25 43 _ S0 ?_
  try simp only [zW]
  refine tW 26 44 _ S0 ?_
  try simp only [zW]
  refine tW 27 45 _ S0 ?_
  try simp only [zW]
  cases lo
  case false=>
   refine wpAnyH_ready (rs:=[28]) (by kernel_rfl) (by simp) (AllReadyH.cons rfl (fun K hK=>?_) AllReadyH.nil)
   go_simp
   refine (uH CL _ (yB (uH HB4) ((uH HS).below S0))).mono ?_
   rintro e wt ⟨rfl,hb⟩
   have S1:=(uH HS).call S0 hb
   clear hb
   go_wp2_with fail
   refine hK.out _ _ S1 (fun S0=>?_)
   clear hK K S1
   try simp only [zW]
   refine tW 29 47 (.bool true) S0 ?_
   try simp only [zW]
   refine tW 30 48 (.bool true) S0 ?_
   try simp only [zW]
   refine tW 31 49 (.bool true) S0 ?_
   try simp only [zW]
   refine tU 32 50 S0 <| tU 33 51 S0 <| tU 34 52 S0 <| tU 35 53 S0 <| ?_
   try simp only [zW]
   refine tW 36 54 (.bool true) S0 ?_
   try simp only [zW]
   refine wpAnyH_done (by kernel_rfl) ?_ _
   have HB9:=hide (yB (uH HB4) ((uH HS).below S0))
   have HF:=hide (show o=false by
    rw [uH HO2];simp)
   go_wp2
   go_ret
   exact ⟨yF (uH HF).symm,uH HB9⟩
  refine wpAnyH_ready (rs:=[28]) (by kernel_rfl) (by simp) (AllReadyH.cons rfl (fun K hK=>?_) AllReadyH.nil)
  go_simp
  refine (uH CL _ (yB (uH HB4) ((uH HS).below S0))).mono ?_
  rintro e wt ⟨rfl,hb⟩
  have S1:=(uH HS).call S0 hb
  clear hb
  go_wp2_with fail
  refine hK.out _ _ S1 (fun S0=>?_)
  clear hK K S1
  try simp only [zW]
  refine tW 29 47 (.bool false) S0 ?_
  try simp only [zW]
  refine tW 30 48 (.bool false) S0 ?_
  try simp only [zW]
  refine tW 31 49 (.bool false) S0 ?_
  try simp only [zW]
  refine tW 32 50 _ S0 ?_
  try simp only [zW]
  refine tW 33 51 _ S0 ?_
  try simp only [zW]
  by_cases h10:10<xl
  ·have h10i:(10:Int)<xl:=by omega
   refine tW 34 52 (.int .i64 xl) S0 ?_
   try simp only [zW]
   refine tW 35 53 (.bool true) S0 ?_
   try simp only [zW]
   refine tW 36 54 (.bool true) S0 ?_
   try simp only [zW]
   refine wpAnyH_done (by kernel_rfl) ?_ _
   have HB9:=hide (yB (uH HB4) ((uH HS).below S0))
   have HF:=hide (show o=false by
    rw [uH HO2,decide_eq_false (show ¬xl≤10 by omega)];simp)
   go_wp2
   go_ret
   exact ⟨yF (uH HF).symm,uH HB9⟩
  have h10i:¬(10:Int)<xl:=by omega
  refine tW 34 52 (.int .i64 xl) S0 ?_
  try simp only [zW]
  refine tW 35 53 (.bool false) S0 ?_
  try simp only [zW]
  refine tW 36 54 (.bool false) S0 ?_
  try simp only [zW]
  refine wpAnyH_done (by kernel_rfl) ?_ _
  have HO3:=hide (show o=((asks.drop 0).all askOk&&(appsFrom qs next id (apps.drop (k'+1+1))&&decide (al≤40))) by rw [uH HO2,decide_eq_true (show last<id by omega),decide_eq_true (show id<next by omega),decide_eq_true (show xl≤10 by omega)];simp [Bool.and_assoc])
  have HQ:=hide S0
  have z2:=(R _ S0).2.2.2.2.2
  clear HO2 A0 HS R S0 CL HPV4
  go_wp2
  go_loopw [5] (fun i wr=>∃(j:Nat),j≤xl∧i=.int .i64 j∧Hid (o=((asks.drop j).all askOk&&(appsFrom qs next id (apps.drop (k'+1+1))&&decide (al≤40))))∧Hid (Kp W4 wr)) (fun i _=>xl - (intOf i).toNat)
  case atStart=>exact ⟨0,Nat.zero_le _,rfl,HO3,HQ⟩
  case round=>
   obtain ⟨j,hj,rfl,HOj,HKj⟩:=hrel
   clear HO3 HQ z2
   have z2:=(uH HKj).cell ((uH P4).at 2:W4.cell? ⟨wo.heap.size,2,none⟩=some (.slice xo xl xc))
   have HBj:=hide (yB (uH HB4) (uH HKj))
   by_cases hjl:j<xl
   case neg=>
    have j1:¬(j:Int)<xl:=by omega
    have HO4:=hide (show o=(appsFrom qs next id (apps.drop (k'+1+1))&&decide (al≤40)) by rw [uH HOj,List.drop_of_length_le (by have:=uH HAL;omega)];simp)
    go_wp2
    go_roundw
    case rel=>exact ⟨k'+1+1,id,by omega,by go_num,HO4,hide ⟨by omega,fun e=>by omega,uH HNX⟩,hide (yB (uH HK4) (uH HKj))⟩
    case measure=>simp [intOf];omega
   have j0:(0:Int)≤j:=by omega
   have j1:(j:Int)<xl:=by omega
   obtain ⟨ab,aoff,rfl,ha⟩:=((uH HA).below (uH HBj)).at hjl
   have hjk:j<asks.length:=by have:=uH HAL;omega
   have hst:=all_step (p:=askOk) hjk
   have hnd:=uH HNA _ (yM hjk)
   obtain ⟨d0,d1,d2,d3,d4⟩:=ha hjk
   obtain ⟨q,hs⟩:∃s,asks[j]=s:=⟨_,rfl⟩
   rw [hs] at d0 d1 d2 d3 d4 hst hnd
   have CA:=hide (fun wx=>l04Ask_any q wx hnd)
   obtain ⟨ok,hok⟩:∃b,askOk q=b:=⟨_,rfl⟩
   rw [hok] at CA hst
   have HO5:=hide (show o=(ok&&((asks.drop (j+1)).all askOk&&(appsFrom qs next id (apps.drop (k'+1+1))&&decide (al≤40)))) by rw [uH HOj,hst,Bool.and_assoc])
   clear ha hs hjk hnd hst hok HOj
   obtain ⟨me,cp,ct,nd,mi⟩:=q
   simp only at d0 d1 d2 d3 d4
   go_wp2_with fail
   refine (uH CA _).mono ?_
   rintro e w5 ⟨rfl,hb⟩
   have HK5:=hide (show Kp W4 _ from yB (uH HKj) hb)
   have HB5:=hide (yB (uH HBj) hb)
   clear hb CA d0 d1 d2 d3 d4 z2
   cases ok
   case false=>
    go_wp2
    go_ret
    exact ⟨yF (by rw [uH HO5];simp),uH HB5⟩
   go_wp2
   go_roundw
   case rel=>exact ⟨j+1,by omega,by go_num,hide (by rw [uH HO5];simp),HK5⟩
   case measure=>simp [intOf];omega
end
end Go.Proofs.YtjkfappkpopbdaaGreat
