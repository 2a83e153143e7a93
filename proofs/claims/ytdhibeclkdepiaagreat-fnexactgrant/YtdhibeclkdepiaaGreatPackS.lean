/-
  Texts in one: HBk, NxI, DecM, MarkT, CelV, Cel, MarkFM.
-/
import Derived.Test.YtdhibeclkdepiaaGreatPackR
import Derived.Lib.ItoaLen
import Derived.Laws.IdiomStrings
import Derived.Deep.QuietTactic
set_option maxRecDepth 100000
set_option maxHeartbeats 16000000
set_option linter.unusedVariables false
set_option linter.unusedSimpArgs false
namespace Go.Proofs.YtdhibeclkdepiaaGreat
section
open Go.RowKit
def HBk (w0:World) (L:List (Nat×Array Value×TypeId)) (wx:World):Prop:=
 (∀p ∈ L,Blk wx p.1 p.2.1 p.2.2)∧Below w0.heap.size w0 wx
theorem HBk.call {w0:World} {L:List (Nat×Array Value×TypeId)} {wx wy:World} (h:HBk w0 L wx) (hb:Below wx.heap.size wx wy):HBk w0 L wy:=⟨fun p hp=>(h.1 p hp).below hb,yB h.2 hb⟩
theorem HBk.drew {w0:World} {L:List (Nat×Array Value×TypeId)} {wx:World} (h:HBk w0 L wx):HBk w0 L wx.drew:=h.call (Below.refl _ _).drew
theorem HBk.al {w0:World} {L:List (Nat×Array Value×TypeId)} {wx:World} (h:HBk w0 L wx) (o:Obj):HBk w0 L (wx.alloc o):=h.call (yA (Below.refl _ _) o)
theorem HBk.set {w0:World} {L:List (Nat×Array Value×TypeId)} {wx:World} (h:HBk w0 L wx) (k j:Nat) (v:Value) (hk:w0.heap.size≤k) (hn:∀p ∈ L,p.1≠k):HBk w0 L (wx.setCell ⟨k,j,none⟩ v):=
 ⟨fun p hp=>(h.1 p hp).other k j v (hn p hp),yC h.2 _ _ _ hk⟩
theorem HBk.blk {w0:World} {L:List (Nat×Array Value×TypeId)} {wx:World} (h:HBk w0 L wx) {g:Nat} {c:Array Value} {t:TypeId} (hp:(g,c,t) ∈ L):Blk wx g c t:=h.1 _ hp
theorem HBk.cell {w0:World} {L:List (Nat×Array Value×TypeId)} {wx:World} (h:HBk w0 L wx) {b j:Nat} {v:Value} (hc:w0.cell? ⟨b,j,none⟩=some v):wx.cell? ⟨b,j,none⟩=some v:=(Below.cell h.2 (p:=⟨b,j,none⟩) (yG hc)).trans hc
end
section
open Go.RowKit Go.Maps
theorem next_any (x:Sls) (s:St) (nd:List UInt8) (w:World) (h:SRow w x s) (hf:FitSt s) (hc:x.ql≤x.qc) (hw:WfSt s) (hnd:nd.length≤1048576) :
  Calls Tryz.prog 69 #[sv x s,.string (bs nd)] w fun e w'=>e=.returned (.tuple #[rv (atR (nextGV s nd)).1 (atR (nextGV s nd)).2,conv (conOf (nextGV s nd)),.bool (nextGV s nd).isSome])∧Below w.heap.size w w':=by
 have CK:=hide (fun wx (hb:Below w.heap.size w wx)=>implStateOk_any x s wx (h.below hb) hf hc hw)
 have CH:=hide (fun wx (hb:Below w.heap.size w wx)=>hasMachine_any x s nd wx (h.below hb) hf hnd)
 have CN:=hide (fun (ho:stateOkV s=true) wx (hb:Below w.heap.size w wx)=>nextId_any x s wx (h.below hb) hf (ok_asc ho).1 (ok_asc ho).2.1 (ok_asc ho).2.2)
 have CF:=hide (fun wx (hb:Below w.heap.size w wx)=>firstAsk_any x s nd wx (h.below hb) hf hc hw hnd)
 have HR:=hide h.2.1
 have hcl:x.cl=s.cs.length:=h.len.2.2.2
 have hcm:x.cl≤1048576:=by have:=hf.2.2.2.1;omega
 have HG:=hide (show nextGV s nd=if stateOkV s=true then (if ((findM nd s.ms).isSome&&(decide (x.cl<150)&&freeIdV s))=true then (pickV s nd).map fun r=>(r,grantC s nd r) else none) else none by rw [nextGV,nextV,mayV,hcl])
 have HP:=hide (fun (r:Nat×Nat) (hr:pickV s nd=some r)=>pick_at hr)
 have HC:=hide (fun (r:Nat×Nat) (h1:r.1<s.apps.length) (h2:r.2<s.apps[r.1].asks.length)=>grantC_at (s:=s) (nd:=nd) h1 h2)
 have HAL:=hide h.2.1.1
 have hal:x.al≤1048576:=h.al hf
 have HFA:=hide hf.2.1
 obtain ⟨gv,hgv⟩:∃g,nextGV s nd=g:=⟨_,rfl⟩
 obtain ⟨gc,hgc⟩:∃g,grantC s nd=g:=⟨_,rfl⟩
 obtain ⟨pk,hpk⟩:∃g,pickV s nd=g:=⟨_,rfl⟩
 obtain ⟨so,hso⟩:∃g,stateOkV s=g:=⟨_,rfl⟩
 obtain ⟨hm,hhm⟩:∃g,(findM nd s.ms).isSome=g:=⟨_,rfl⟩
 obtain ⟨fr,hfr⟩:∃g,freeIdV s=g:=⟨_,rfl⟩
 obtain ⟨id,hid⟩:∃g,idV s=g:=⟨_,rfl⟩
 rw [hgv,hso,hhm,hfr,hpk,hgc] at HG
 rw [hgv]
 rw [hso] at CK CN
 rw [hhm] at CH
 rw [hid,hfr] at CN
 rw [hpk] at CF HP
 rw [hgc,hid] at HC
 obtain ⟨⟨pi,pj,pb⟩,hpl⟩:∃g,plR pk=g:=⟨_,rfl⟩
 rw [hpl] at CF
 simp only at CF
 have HPL:=hide hpl
 clear hpl
 clear h hf hc hw hgv hgc hpk hso hhm hfr hid hcl
 have hs:(bs nd).size≤281474976710656:=by rw [bs_size];omega
 obtain ⟨qa,ql,qc,aa,al,ac,ma,ml,mc,ca,cl,cc⟩:=x
 obtain ⟨qs,clock,epoch,next,serial,apps,ms,cs⟩:=s
 simp only at CK CH CN CF HR HG HC HP HAL HFA hal hcm
 have HB0:=hide (yA (yA (yA (Below.refl _ w) (.cells (svc ⟨qa,ql,qc,aa,al,ac,ma,ml,mc,ca,cl,cc⟩ ⟨qs,clock,epoch,next,serial,apps,ms,cs⟩) 34)) (.cells #[.int .i64 0,.int .i64 0] 115)) (.cells #[.int .i64 0,.int .i64 0,.string ByteArray.empty,.int .i64 0,.int .i64 0] 38))
 have P0:=hide (((yD w (svc ⟨qa,ql,qc,aa,al,ac,ma,ml,mc,ca,cl,cc⟩ ⟨qs,clock,epoch,next,serial,apps,ms,cs⟩) 34).al (.cells #[.int .i64 0,.int .i64 0] 115)).al (.cells #[.int .i64 0,.int .i64 0,.string ByteArray.empty,.int .i64 0,.int .i64 0] 38))
 have R0:=hide (show Blk _ (w.heap.size+1) #[.int .i64 0,.int .i64 0] 115 by have:=(yD (w.alloc (.cells (svc ⟨qa,ql,qc,aa,al,ac,ma,ml,mc,ca,cl,cc⟩ ⟨qs,clock,epoch,next,serial,apps,ms,cs⟩) 34)) #[.int .i64 0,.int .i64 0] 115).al (.cells #[.int .i64 0,.int .i64 0,.string ByteArray.empty,.int .i64 0,.int .i64 0] 38);rw [yE] at this;exact this)
 have T0:=hide (show Blk _ (w.heap.size+1+1) #[.int .i64 0,.int .i64 0,.string ByteArray.empty,.int .i64 0,.int .i64 0] 38 by have:=yD ((w.alloc (.cells (svc ⟨qa,ql,qc,aa,al,ac,ma,ml,mc,ca,cl,cc⟩ ⟨qs,clock,epoch,next,serial,apps,ms,cs⟩) 34)).alloc (.cells #[.int .i64 0,.int .i64 0] 115)) #[.int .i64 0,.int .i64 0,.string ByteArray.empty,.int .i64 0,.int .i64 0] 38;rw [yE,yE] at this;exact this)
 go_enter Tryz.func69,Tryz.ntmps69
 go_wp2_with fail
 refine (uH CK _ (uH HB0)).mono ?_
 rintro e w1 ⟨rfl,hb⟩
 have HB1:=hide (yB (uH HB0) hb)
 have P1:=hide ((uH P0).below hb)
 have R1:=hide ((uH R0).below hb)
 have T1:=hide ((uH T0).below hb)
 clear hb HB0 P0 R0 T0 CK
 have q0:=(uH P1).at 0;have q1:=(uH P1).at 1;have q2:=(uH P1).at 2;have q3:=(uH P1).at 3;have q4:=(uH P1).at 4;have q5:=(uH P1).at 5;have q6:=(uH P1).at 6;have q7:=(uH P1).at 7
 simp at q0 q1 q2 q3 q4 q5 q6 q7
 cases so
 case false=>
  have HE:=hide (show gv=none from by rw [uH HG];rfl)
  obtain ⟨k0,k1,k2,k3,k4,k5,k6,k7,k8,k9,k10,k11,k12,k13⟩:=nx_cells (uH R1) (uH T1) (by omega) 0 0
  have HX:=hide (nx_end (uH R1) (uH T1) (by omega) 0 0 0 0 (⟨#[]⟩:ByteArray) 0 0)
  have HY:=hide (nx_below (uH HB1) (g1:=w.heap.size+1) (g2:=w.heap.size+1+1) (by omega) (by omega) 0 0 0 0 (⟨#[]⟩:ByteArray) 0 0)
  go_wp2
  generalize (((((((w1.setCell ⟨w.heap.size+1,0,none⟩ (.int .i64 0)).setCell ⟨w.heap.size+1,1,none⟩ (.int .i64 0)).setCell ⟨w.heap.size+1+1,0,none⟩ (.int .i64 0)).setCell ⟨w.heap.size+1+1,1,none⟩ (.int .i64 0)).setCell ⟨w.heap.size+1+1,2,none⟩ (.string (⟨#[]⟩:ByteArray))).setCell ⟨w.heap.size+1+1,3,none⟩ (.int .i64 0)).setCell ⟨w.heap.size+1+1,4,none⟩ (.int .i64 0))=W9 at HX HY ⊢
  have z0:=(uH HX).1.at 0;have z1:=(uH HX).1.at 1;have z2:=(uH HX).2.at 0;have z3:=(uH HX).2.at 1;have z4:=(uH HX).2.at 2;have z5:=(uH HX).2.at 3;have z6:=(uH HX).2.at 4
  simp at z0 z1 z2 z3 z4 z5 z6
  refine bodyPost_ret (v:=.tuple #[rv 0 0,conv ⟨0,0,[],0,0⟩,.bool false]) (by simp [results,Tryz.results69,go_sem,z0,z1,z2,z3,z4,z5,z6];try rfl) rfl ⟨by rw [uH HE];rfl,uH HY⟩
 case true=>
  go_wp2_with fail
  refine (uH CH _ (uH HB1)).mono ?_
  rintro e w2 ⟨rfl,hb⟩
  have HB2:=hide (yB (uH HB1) hb)
  have P2:=hide ((uH P1).below hb)
  have R2:=hide ((uH R1).below hb)
  have T2:=hide ((uH T1).below hb)
  clear hb HB1 P1 R1 T1 q0 q1 q2 q3 q4 q5 q6 q7
  clear CH
  have q0:=(uH P2).at 0;have q1:=(uH P2).at 1;have q2:=(uH P2).at 2;have q3:=(uH P2).at 3;have q4:=(uH P2).at 4;have q5:=(uH P2).at 5;have q6:=(uH P2).at 6;have q7:=(uH P2).at 7
  simp at q0 q1 q2 q3 q4 q5 q6 q7
  cases hm
  case false=>
   have HE:=hide (show gv=none from by rw [uH HG];rfl)
   obtain ⟨k0,k1,k2,k3,k4,k5,k6,k7,k8,k9,k10,k11,k12,k13⟩:=nx_cells (uH R2) (uH T2) (by omega) 0 0
   have HX:=hide (nx_end (uH R2) (uH T2) (by omega) 0 0 0 0 (⟨#[]⟩:ByteArray) 0 0)
   have HY:=hide (nx_below (uH HB2) (g1:=w.heap.size+1) (g2:=w.heap.size+1+1) (by omega) (by omega) 0 0 0 0 (⟨#[]⟩:ByteArray) 0 0)
   go_wp2
   generalize (((((((w2.setCell ⟨w.heap.size+1,0,none⟩ (.int .i64 0)).setCell ⟨w.heap.size+1,1,none⟩ (.int .i64 0)).setCell ⟨w.heap.size+1+1,0,none⟩ (.int .i64 0)).setCell ⟨w.heap.size+1+1,1,none⟩ (.int .i64 0)).setCell ⟨w.heap.size+1+1,2,none⟩ (.string (⟨#[]⟩:ByteArray))).setCell ⟨w.heap.size+1+1,3,none⟩ (.int .i64 0)).setCell ⟨w.heap.size+1+1,4,none⟩ (.int .i64 0))=W9 at HX HY ⊢
   have z0:=(uH HX).1.at 0;have z1:=(uH HX).1.at 1;have z2:=(uH HX).2.at 0;have z3:=(uH HX).2.at 1;have z4:=(uH HX).2.at 2;have z5:=(uH HX).2.at 3;have z6:=(uH HX).2.at 4
   simp at z0 z1 z2 z3 z4 z5 z6
   refine bodyPost_ret (v:=.tuple #[rv 0 0,conv ⟨0,0,[],0,0⟩,.bool false]) (by simp [results,Tryz.results69,go_sem,z0,z1,z2,z3,z4,z5,z6];try rfl) rfl ⟨by rw [uH HE];rfl,uH HY⟩
  case true=>
   by_cases hlt:cl<150
   case neg=>
    have HE:=hide (show gv=none from by rw [uH HG,decide_eq_false hlt];rfl)
    have hl1:(150:Int)≤cl:=by omega
    obtain ⟨k0,k1,k2,k3,k4,k5,k6,k7,k8,k9,k10,k11,k12,k13⟩:=nx_cells (uH R2) (uH T2) (by omega) 0 0
    have HX:=hide (nx_end (uH R2) (uH T2) (by omega) 0 0 0 0 (⟨#[]⟩:ByteArray) 0 0)
    have HY:=hide (nx_below (uH HB2) (g1:=w.heap.size+1) (g2:=w.heap.size+1+1) (by omega) (by omega) 0 0 0 0 (⟨#[]⟩:ByteArray) 0 0)
    go_wp2
    generalize (((((((w2.setCell ⟨w.heap.size+1,0,none⟩ (.int .i64 0)).setCell ⟨w.heap.size+1,1,none⟩ (.int .i64 0)).setCell ⟨w.heap.size+1+1,0,none⟩ (.int .i64 0)).setCell ⟨w.heap.size+1+1,1,none⟩ (.int .i64 0)).setCell ⟨w.heap.size+1+1,2,none⟩ (.string (⟨#[]⟩:ByteArray))).setCell ⟨w.heap.size+1+1,3,none⟩ (.int .i64 0)).setCell ⟨w.heap.size+1+1,4,none⟩ (.int .i64 0))=W9 at HX HY ⊢
    have z0:=(uH HX).1.at 0;have z1:=(uH HX).1.at 1;have z2:=(uH HX).2.at 0;have z3:=(uH HX).2.at 1;have z4:=(uH HX).2.at 2;have z5:=(uH HX).2.at 3;have z6:=(uH HX).2.at 4
    simp at z0 z1 z2 z3 z4 z5 z6
    refine bodyPost_ret (v:=.tuple #[rv 0 0,conv ⟨0,0,[],0,0⟩,.bool false]) (by simp [results,Tryz.results69,go_sem,z0,z1,z2,z3,z4,z5,z6];try rfl) rfl ⟨by rw [uH HE];rfl,uH HY⟩
   have hl1:¬(150:Int)≤cl:=by omega
   have HG2:=hide (show gv=if fr=true then pk.map (fun r=>(r,gc r)) else none from by rw [uH HG,decide_eq_true hlt];simp)
   clear HG
   go_wp2_with fail
   refine (uH CN (by first | rfl | trivial) _ (uH HB2)).mono ?_
   rintro e w3 ⟨rfl,hb⟩
   have HB3:=hide (yB (uH HB2) hb)
   have P3:=hide ((uH P2).below hb)
   have R3:=hide ((uH R2).below hb)
   have T3:=hide ((uH T2).below hb)
   clear hb HB2 P2 R2 T2 q0 q1 q2 q3 q4 q5 q6 q7
   clear CN
   have q0:=(uH P3).at 0;have q1:=(uH P3).at 1;have q2:=(uH P3).at 2;have q3:=(uH P3).at 3;have q4:=(uH P3).at 4;have q5:=(uH P3).at 5;have q6:=(uH P3).at 6;have q7:=(uH P3).at 7
   simp at q0 q1 q2 q3 q4 q5 q6 q7
   go_wp2_with fail
   refine (uH CF _ (uH HB3)).mono ?_
   rintro e w4 ⟨rfl,hb⟩
   have HB4:=hide (yB (uH HB3) hb)
   have P4:=hide ((uH P3).below hb)
   have R4:=hide ((uH R3).below hb)
   have T4:=hide ((uH T3).below hb)
   have HLT:=hide ((uH T4).lt)
   clear hb HB3 P3 R3 T3 q0 q1 q2 q3 q4 q5 q6 q7
   clear CF
   have HB5:=hide (yA (uH HB4) (.cells #[.int .i64 pi,.int .i64 pj] 115))
   have P5:=hide ((uH P4).al (.cells #[.int .i64 pi,.int .i64 pj] 115))
   have R5:=hide ((uH R4).al (.cells #[.int .i64 pi,.int .i64 pj] 115))
   have T5:=hide ((uH T4).al (.cells #[.int .i64 pi,.int .i64 pj] 115))
   have A5:=hide (yD w4 #[.int .i64 pi,.int .i64 pj] 115)
   clear HB4 P4 R4 T4
   cases fr
   case false=>
    have HE:=hide (show gv=none from by rw [uH HG2];rfl)
    obtain ⟨k0,k1,k2,k3,k4,k5,k6,k7,k8,k9,k10,k11,k12,k13⟩:=nx_cells (uH R5) (uH T5) (by omega) 0 0
    have HX:=hide (nx_end (uH R5) (uH T5) (by omega) 0 0 0 0 (⟨#[]⟩:ByteArray) 0 0)
    have HY:=hide (nx_below (uH HB5) (g1:=w.heap.size+1) (g2:=w.heap.size+1+1) (by omega) (by omega) 0 0 0 0 (⟨#[]⟩:ByteArray) 0 0)
    go_wp2
    generalize ((((((((w4.alloc (.cells #[.int .i64 pi,.int .i64 pj] 115)).setCell ⟨w.heap.size+1,0,none⟩ (.int .i64 0)).setCell ⟨w.heap.size+1,1,none⟩ (.int .i64 0)).setCell ⟨w.heap.size+1+1,0,none⟩ (.int .i64 0)).setCell ⟨w.heap.size+1+1,1,none⟩ (.int .i64 0)).setCell ⟨w.heap.size+1+1,2,none⟩ (.string (⟨#[]⟩:ByteArray))).setCell ⟨w.heap.size+1+1,3,none⟩ (.int .i64 0)).setCell ⟨w.heap.size+1+1,4,none⟩ (.int .i64 0))=W9 at HX HY ⊢
    have z0:=(uH HX).1.at 0;have z1:=(uH HX).1.at 1;have z2:=(uH HX).2.at 0;have z3:=(uH HX).2.at 1;have z4:=(uH HX).2.at 2;have z5:=(uH HX).2.at 3;have z6:=(uH HX).2.at 4
    simp at z0 z1 z2 z3 z4 z5 z6
    refine bodyPost_ret (v:=.tuple #[rv 0 0,conv ⟨0,0,[],0,0⟩,.bool false]) (by simp [results,Tryz.results69,go_sem,z0,z1,z2,z3,z4,z5,z6];try rfl) rfl ⟨by rw [uH HE];rfl,uH HY⟩
   case true=>
    cases pb
    case false=>
     have HE:=hide (show gv=none from by
      have h1:=uH HPL
      rw [uH HG2]
      cases pk with
      | none=>rfl
      | some r=>simp [plR] at h1)
     obtain ⟨k0,k1,k2,k3,k4,k5,k6,k7,k8,k9,k10,k11,k12,k13⟩:=nx_cells (uH R5) (uH T5) (by omega) 0 0
     have HX:=hide (nx_end (uH R5) (uH T5) (by omega) 0 0 0 0 (⟨#[]⟩:ByteArray) 0 0)
     have HY:=hide (nx_below (uH HB5) (g1:=w.heap.size+1) (g2:=w.heap.size+1+1) (by omega) (by omega) 0 0 0 0 (⟨#[]⟩:ByteArray) 0 0)
     go_wp2
     generalize ((((((((w4.alloc (.cells #[.int .i64 pi,.int .i64 pj] 115)).setCell ⟨w.heap.size+1,0,none⟩ (.int .i64 0)).setCell ⟨w.heap.size+1,1,none⟩ (.int .i64 0)).setCell ⟨w.heap.size+1+1,0,none⟩ (.int .i64 0)).setCell ⟨w.heap.size+1+1,1,none⟩ (.int .i64 0)).setCell ⟨w.heap.size+1+1,2,none⟩ (.string (⟨#[]⟩:ByteArray))).setCell ⟨w.heap.size+1+1,3,none⟩ (.int .i64 0)).setCell ⟨w.heap.size+1+1,4,none⟩ (.int .i64 0))=W9 at HX HY ⊢
     have z0:=(uH HX).1.at 0;have z1:=(uH HX).1.at 1;have z2:=(uH HX).2.at 0;have z3:=(uH HX).2.at 1;have z4:=(uH HX).2.at 2;have z5:=(uH HX).2.at 3;have z6:=(uH HX).2.at 4
     simp at z0 z1 z2 z3 z4 z5 z6
     refine bodyPost_ret (v:=.tuple #[rv 0 0,conv ⟨0,0,[],0,0⟩,.bool false]) (by simp [results,Tryz.results69,go_sem,z0,z1,z2,z3,z4,z5,z6];try rfl) rfl ⟨by rw [uH HE];rfl,uH HY⟩
    case true=>
     obtain ⟨i,k,HPK,rfl,rfl⟩:∃i k:Nat,Hid (pk=some (i,k))∧(i:Int)=pi∧(k:Int)=pj:=by
      have h1:=uH HPL
      cases hp:pk with
      | none=>rw [hp] at h1;simp [plR] at h1
      | some r=>rw [hp] at h1;simp only [plR,Prod.mk.injEq] at h1;exact ⟨r.1,r.2,hide rfl,h1.1,h1.2.1⟩
     obtain ⟨hkl,hjk⟩:=uH HP _ (uH HPK)
     simp only at hkl hjk
     have hgc:=uH HC (i,k) hkl hjk
     simp only at hgc
     have hil:i<al:=by have:=uH HAL;omega
     obtain ⟨bb,off,rfl,hqa⟩:=(uH HR).at hil
     have hfa:=(uH HFA).2 _ (List.getElem_mem hkl)
     obtain ⟨xo,xl,xc,c0,c1,c2,hrow,_⟩:=hqa hkl
     replace c0:=Kp.cell (uH HB5) c0
     replace c1:=Kp.cell (uH HB5) c1
     replace c2:=Kp.cell (uH HB5) c2
     obtain ⟨⟨ai,qu,asks⟩,hs'⟩:∃s,apps[i]=s:=⟨_,rfl⟩
     have hjk2:k<asks.length:=by have:=hjk;rw [hs'] at this;exact this
     have hgc2:gc (i,k)=⟨id,ai,nd,asks[k].mem,asks[k].cpu⟩:=by simp only [hgc,hs']
     rw [hs'] at c0 c1 hrow hfa
     simp only at c0 c1 hrow
     have hxl:xl≤1048576:=by have h1:=hrow.1;have h2:=hfa.2.1;simp only at h2;omega
     have hkx:k<xl:=by have:=hrow.1;omega
     have HA:=hide hrow
     have HE:=hide (show gv=some ((i,k),gc (i,k)) from by rw [uH HG2,uH HPK];rfl)
     obtain ⟨am,hsa⟩:∃s,asks[k]=s:=⟨_,rfl⟩
     rw [hsa] at hgc2
     have HGC:=hide hgc2
     have i0:(0:Int)≤i:=by omega
     have i1:(i:Int)<al:=by omega
     have j0:(0:Int)≤k:=by omega
     have j1:(k:Int)<xl:=by omega
     have a0:=(uH A5).at 0;have a1:=(uH A5).at 1
     simp at a0 a1
     have q0:=(uH P5).at 0;have q1:=(uH P5).at 1;have q2:=(uH P5).at 2;have q3:=(uH P5).at 3;have q4:=(uH P5).at 4;have q5:=(uH P5).at 5;have q6:=(uH P5).at 6;have q7:=(uH P5).at 7
     simp at q0 q1 q2 q3 q4 q5 q6 q7
     have hba:=yA (Below.refl _ (w4.alloc (.cells #[.int .i64 (i:Int),.int .i64 (k:Int)] 115))) (.cells #[.int .i64 ai,.string (bs qu),.slice xo xl xc] 74)
     have HB6:=hide (yB (uH HB5) hba)
     have R6:=hide ((uH R5).below hba)
     have T6:=hide ((uH T5).below hba)
     have A6:=hide ((uH A5).below hba)
     have B6:=hide (yD (w4.alloc (.cells #[.int .i64 (i:Int),.int .i64 (k:Int)] 115)) #[.int .i64 ai,.string (bs qu),.slice xo xl xc] 74)
     clear hqa hgc hgc2 hfa hrow hjk hba HB5 P5 R5 T5 A5
     have b0:=(uH B6).at 0;have b1:=(uH B6).at 1;have b2:=(uH B6).at 2;have a2:=(uH A6).at 0;have a3:=(uH A6).at 1
     simp at b0 b1 b2 a2 a3
     obtain ⟨ab,aoff,rfl,ha⟩:=(uH HA).at hkx
     obtain ⟨d0,d1,d2,d3,d4⟩:=ha hjk2
     rw [hsa] at d0 d1 d2 d3 d4
     obtain ⟨me,cp,ct,nx,mi⟩:=am
     simp only at d0 d1 d2 d3 d4 HGC
     have hlt4:w.heap.size+1+1<w4.heap.size:=uH HLT
     obtain ⟨g4,hg4⟩:∃g,w4.heap.size=g:=⟨_,rfl⟩
     go_wp2_with fail
     try rw [yE]
     try rw [hg4]
     rw [hg4] at hlt4 A6
     have B7:=hide (show Blk _ (g4+1) #[.int .i64 ai,.string (bs qu),.slice (some ⟨ab,aoff,none⟩) xl xc] 74 from by have:=uH B6;rw [yE,hg4] at this;exact this)
     obtain ⟨W6,hW6⟩:∃W,(w4.alloc (.cells #[.int .i64 (i:Int),.int .i64 (k:Int)] 115)).alloc (.cells #[.int .i64 ai,.string (bs qu),.slice (some ⟨ab,aoff,none⟩) xl xc] 74)=W:=⟨_,rfl⟩
     rw [hW6] at HB6 R6 T6 A6 B7
     try rw [hW6]
     clear a0 a1 a2 a3 b0 b1 b2 c0 c1 c2 q0 q1 q2 q3 q4 q5 q6 q7 ha B6 hg4 hW6
     have S6:=hide (show HBk w [(g4,#[.int .i64 (i:Int),.int .i64 (k:Int)],115),(g4+1,#[.int .i64 ai,.string (bs qu),.slice (some ⟨ab,aoff,none⟩) xl xc],74)] W6 from ⟨fun p hp=>by
      simp only [List.mem_cons,List.not_mem_nil,or_false] at hp
      rcases hp with rfl | rfl
      ·exact uH A6
      ·exact uH B7,uH HB6⟩)
     have R:∀wx,HBk w [(g4,#[.int .i64 (i:Int),.int .i64 (k:Int)],115),(g4+1,#[.int .i64 ai,.string (bs qu),.slice (some ⟨ab,aoff,none⟩) xl xc],74)] wx→wx.cell? ⟨g4,0,none⟩=some (.int .i64 (i:Int))∧wx.cell? ⟨g4,1,none⟩=some (.int .i64 (k:Int))∧wx.cell? ⟨g4+1,0,none⟩=some (.int .i64 ai)∧wx.cell? ⟨g4+1,1,none⟩=some (.string (bs qu))∧wx.cell? ⟨g4+1,2,none⟩=some (.slice (some ⟨ab,aoff,none⟩) xl xc)∧wx.cell? ⟨ab,aoff+k*5,none⟩=some (.int .i64 me)∧wx.cell? ⟨ab,aoff+k*5+1,none⟩=some (.int .i64 cp):=fun wx h=>by
      have v1:=h.blk (g:=g4) (c:=#[.int .i64 (i:Int),.int .i64 (k:Int)]) (t:=115) (by simp)
      have v2:=h.blk (g:=g4+1) (c:=#[.int .i64 ai,.string (bs qu),.slice (some ⟨ab,aoff,none⟩) xl xc]) (t:=74) (by simp)
      exact ⟨by simpa using v1.at 0,by simpa using v1.at 1,by simpa using v2.at 0,by simpa using v2.at 1,by simpa using v2.at 2,h.cell d0,h.cell d1⟩
     have hn1:∀p ∈ [(g4,#[Value.int .i64 (i:Int),.int .i64 (k:Int)],(115:TypeId)),(g4+1,#[.int .i64 ai,.string (bs qu),.slice (some ⟨ab,aoff,none⟩) xl xc],74)],p.1≠w.heap.size+1:=fun p hp=>by
      simp only [List.mem_cons,List.not_mem_nil,or_false] at hp
      rcases hp with rfl | rfl<;>simp only<;>omega
     have hn2:∀p ∈ [(g4,#[Value.int .i64 (i:Int),.int .i64 (k:Int)],(115:TypeId)),(g4+1,#[.int .i64 ai,.string (bs qu),.slice (some ⟨ab,aoff,none⟩) xl xc],74)],p.1≠w.heap.size+1+1:=fun p hp=>by
      simp only [List.mem_cons,List.not_mem_nil,or_false] at hp
      rcases hp with rfl | rfl<;>simp only<;>omega
     have HN1:=hide hn1
     have HN2:=hide hn2
     have hw1:w.heap.size≤w.heap.size+1:=by omega
     have hw2:w.heap.size≤w.heap.size+1+1:=by omega
     clear hn1 hn2 d0 d1 d2 d3 d4
     go_region_held3 (fun wx=>HBk w [(g4,#[.int .i64 (i:Int),.int .i64 (k:Int)],115),(g4+1,#[.int .i64 ai,.string (bs qu),.slice (some ⟨ab,aoff,none⟩) xl xc],74)] wx)
      (first | (with_reducible assumption) | (with_reducible exact (uH S6).drew))
      (first
      | (go_at_call 67;refine (clone_any (bs nd) _ hs).mono ?_;rintro e w7 ⟨rfl,hb⟩;have SA0:=HBk.call (uH S6).drew hb;have SA:=hide SA0;have SB1:=(show HBk w [(g4,#[.int .i64 (i:Int),.int .i64 (k:Int)],115),(g4+1,#[.int .i64 ai,.string (bs qu),.slice (some ⟨ab,aoff,none⟩) xl xc],74)] ((w7.setCell ⟨w.heap.size+1,0,none⟩ (.int .i64 (i:Int))).setCell ⟨w.heap.size+1,1,none⟩ (.int .i64 (k:Int))) from HBk.set (HBk.set SA0 _ _ _ hw1 (uH HN1)) _ _ _ hw1 (uH HN1));have SB2:=(show HBk w [(g4,#[.int .i64 (i:Int),.int .i64 (k:Int)],115),(g4+1,#[.int .i64 ai,.string (bs qu),.slice (some ⟨ab,aoff,none⟩) xl xc],74)] (((((((w7.setCell ⟨w.heap.size+1,0,none⟩ (.int .i64 (i:Int))).setCell ⟨w.heap.size+1,1,none⟩ (.int .i64 (k:Int))).setCell ⟨w.heap.size+1+1,0,none⟩ (.int .i64 id)).setCell ⟨w.heap.size+1+1,1,none⟩ (.int .i64 ai)).setCell ⟨w.heap.size+1+1,2,none⟩ (.string (bs nd))).setCell ⟨w.heap.size+1+1,3,none⟩ (.int .i64 me)).setCell ⟨w.heap.size+1+1,4,none⟩ (.int .i64 cp)) from HBk.set (HBk.set (HBk.set (HBk.set (HBk.set SB1 _ _ _ hw2 (uH HN2)) _ _ _ hw2 (uH HN2)) _ _ _ hw2 (uH HN2)) _ _ _ hw2 (uH HN2)) _ _ _ hw2 (uH HN2));have R7:=hide ((uH R6).drew.below hb);have T7:=hide ((uH T6).drew.below hb);obtain ⟨k0,k1,k2,k3,k4,k5,k6,k7,k8,k9,k10,k11,k12,k13⟩:=nx_cells (uH R7) (uH T7) (by omega) (i:Int) (k:Int)))
     have HX:=hide (nx_end (uH R7) (uH T7) (by omega) (i:Int) (k:Int) id ai (bs nd) me cp)
     have HY:=hide (nx_below (uH SA).2 (g1:=w.heap.size+1) (g2:=w.heap.size+1+1) (by omega) (by omega) (i:Int) (k:Int) id ai (bs nd) me cp)
     go_wp2
     generalize (((((((w7.setCell ⟨w.heap.size+1,0,none⟩ (.int .i64 (i:Int))).setCell ⟨w.heap.size+1,1,none⟩ (.int .i64 (k:Int))).setCell ⟨w.heap.size+1+1,0,none⟩ (.int .i64 id)).setCell ⟨w.heap.size+1+1,1,none⟩ (.int .i64 ai)).setCell ⟨w.heap.size+1+1,2,none⟩ (.string (bs nd))).setCell ⟨w.heap.size+1+1,3,none⟩ (.int .i64 me)).setCell ⟨w.heap.size+1+1,4,none⟩ (.int .i64 cp))=W9 at HX HY ⊢
     have z0:=(uH HX).1.at 0;have z1:=(uH HX).1.at 1;have z2:=(uH HX).2.at 0;have z3:=(uH HX).2.at 1;have z4:=(uH HX).2.at 2;have z5:=(uH HX).2.at 3;have z6:=(uH HX).2.at 4
     simp at z0 z1 z2 z3 z4 z5 z6
     refine bodyPost_ret (v:=.tuple #[rv (i:Int) (k:Int),conv ⟨id,ai,nd,me,cp⟩,.bool true]) (by simp [results,Tryz.results69,go_sem,z0,z1,z2,z3,z4,z5,z6];try rfl) rfl ⟨by rw [uH HE,uH HGC];rfl,uH HY⟩
end
section
open Go.RowKit
def dgs (u:Nat):List UInt8:=if u=0 then [] else Lib.decDigits u
theorem dgs_zero:dgs 0=[]:=rfl
theorem dgs_pos {u:Nat} (h:u≠0):dgs u=Lib.decDigits u:=by rw [dgs,if_neg h]
theorem dgs_step {u:Nat} (h:u≠0):dgs u=dgs (u / 10)++[UInt8.ofNat (48+u % 10)]:=by
 rw [dgs_pos h,Lib.decDigits]
 by_cases h10:u<10
 ·rw [dif_pos h10]
  have e:u / 10=0:=by omega
  rw [e,dgs_zero,Nat.mod_eq_of_lt h10];rfl
 ·rw [dif_neg h10,dgs_pos (by omega)]
def dch (d:Nat):UInt8:=UInt8.ofNat (48+d)
def mk (N:Nat):ByteArray:=bs (109::dgs N)
theorem markText_any (N:Nat) (w:World) (h0:0<N) (hN:(N:Int)≤9223372036854775807) :
  Calls Tryz.prog 47 #[.int .i64 (N:Int)] w fun e w'=>e=.returned (.string (mk N))∧Below w.heap.size w w':=by
 have hlen2:(dgs N).length≤20:=by rw [dgs_pos (by omega),Lib.decDigits_length];exact Lib.nDigits_le20 N (by omega)
 have hcv:∀(wr:World) (x:Nat),x<10→(convert 134 9 (.slice (some ⟨wr.heap.size,0,none⟩) 1 1)).run Tryz.prog (wr.alloc (.cells #[.int .u8 (48+(x:Int))] 5))=.ok (.string ⟨#[dch x]⟩) (wr.alloc (.cells #[.int .u8 (48+(x:Int))] 5)):=by
  intro wr x hx
  refine run_convert_bytes_back _ 134 9 5 ⟨wr.heap.size,0,none⟩ 1 [dch x] Tryz.underlying134 Tryz.underlying5 Tryz.underlying9 (fun j hj=>?_)
  match j,hj with
  | 0,_=>simp [Addr.add,dch];omega
 go_enter Tryz.func47,Tryz.ntmps47
 go_wp2
 go_loopw [0,3] (fun m o wr=>∃(u:Nat) (l:List UInt8),u≤N∧m=.int .i64 (u:Int)∧o=.string (bs l)∧dgs u++l=dgs N∧Below w.heap.size w wr) (fun m _ _=>(intOf m).toNat)
 case atStart=>exact ⟨N,[],Nat.le_refl _,rfl,rfl,by simp,Below.refl _ _⟩
 case round=>
  obtain ⟨u,l,hu,rfl,rfl,hcat,hbel⟩:=hrel
  have hl:l.length≤20:=by have:=congrArg List.length hcat;simp only [List.length_append] at this;omega
  have hl2:(bs l).size≤20:=by rw [bs_size];exact hl
  have hsz:=hbel.size
  have HC:=hide hcat
  have HB:=hide hbel
  clear hcat hl hbel
  by_cases hu0:u=0
  ·subst hu0
   clear hcv
   go_wp2
   go_ret
   exact ⟨ret_str (by rw [cons_bs,mk];exact congrArg bs (congrArg (fun t=>109::t) (uH HC))),uH HB⟩
  ·have hcw:=hcv wr (u % 10) (by omega)
   rw [show ((u % 10:Nat):Int)=(u:Int) % 10 from by omega] at hcw
   clear hcv
   have hcs:(ByteArray.mk #[dch (u % 10)]).size=1:=rfl
   go_wp2
   go_roundw
   case rel=>exact ⟨u / 10,dch (u % 10)::l,by omega,by go_num,str_eq (cons_bs _ _),by rw [←uH HC,dgs_step hu0,dch];simp,(uH HB).alloc hsz _⟩
   case measure=>simp [intOf];omega
theorem markText_int (x:Int) (w:World) (h0:0<x) (hN:x≤9223372036854775807) :
  Calls Tryz.prog 47 #[.int .i64 x] w fun e w'=>e=.returned (.string (mk x.toNat))∧Below w.heap.size w w':=by
 obtain ⟨N,rfl⟩:=Int.eq_ofNat_of_zero_le (a:=x) (by omega)
 rw [Int.toNat_natCast]
 exact markText_any N w (by omega) hN
def marks (k:Nat):Nat→List ByteArray
 | 0=>[]
 | n+1=>mk k::marks (k+1) n
def marked (k:Nat) (xs:List ByteArray) (j:Nat):List ByteArray:=(marks k xs.length).take j++xs.drop j
def Cel (w:World) (t:TypeId) (g N:Nat):Prop:=∃arr:Array Value,w.heap[g]? = some (.cells arr t (0,0))∧arr.size=N
theorem Cel.lt {w:World} {t:TypeId} {g N:Nat} (h:Cel w t g N):g<w.heap.size:=let ⟨_,h,_⟩:=h;lt_of_block h
theorem Cel.of_block {w w':World} {t:TypeId} {g N:Nat} (h:Cel w t g N) (e:w'.heap[g]? = w.heap[g]?):Cel w' t g N:=by
 obtain ⟨arr,h1,h2⟩:=h
 exact ⟨arr,e.trans h1,h2⟩
theorem Cel.below {w w':World} {t:TypeId} {g N:Nat} (h:Cel w t g N) (hb:Below w.heap.size w w'):Cel w' t g N:=h.of_block (hb.block g h.lt)
theorem Cel.set {w:World} {t:TypeId} {g N:Nat} (h:Cel w t g N) (b j:Nat) (v:Value):Cel (w.setCell ⟨b,j,none⟩ v) t g N:=by
 by_cases e:g=b
 ·subst e
  obtain ⟨arr,h1,h2⟩:=h
  exact ⟨_,heap_setCell_same w g j _ _ v h1,by simp [h2]⟩
 ·exact h.of_block (heap_setCell_other w ⟨b,j,none⟩ g v e)
theorem Cel.cell {w:World} {t:TypeId} {g N:Nat} (h:Cel w t g N) {j:Nat} (hj:j<N):∃v,w.cell? ⟨g,j,none⟩=some v:=by
 obtain ⟨arr,h1,h2⟩:=h
 exact ⟨arr[j]'(by omega),by simp [World.cell?,h1,Array.getElem?_eq_getElem (show j<arr.size by omega)]⟩
theorem Cel.frozen {w:World} {t:TypeId} {g N:Nat} (h:Cel w t g N) (j:Nat):w.frozen? ⟨g,j,none⟩=false:=by
 obtain ⟨arr,h1,h2⟩:=h
 simp [World.frozen?,h1]
structure Mkd (B E:Nat) (w w':World):Prop where
 os:w'.os=w.os
 tape:w'.tape=w.tape
 output:w'.output=w.output
 size:w.heap.size≤w'.heap.size
 block:∀k,k<w.heap.size→(k<B∨E≤k)→w'.heap[k]? = w.heap[k]?
 cel:∀t g N,Cel w t g N→Cel w' t g N
theorem Mkd.refl (B E:Nat) (w:World):Mkd B E w w:=⟨rfl,rfl,rfl,Nat.le_refl _,fun _ _ _=>rfl,fun _ _ _ h=>h⟩
theorem Mkd.trans {B E:Nat} {a b c:World} (h:Mkd B E a b) (k:Mkd B E b c):Mkd B E a c:=
 ⟨k.os.trans h.os,k.tape.trans h.tape,k.output.trans h.output,Nat.le_trans h.size k.size,fun i hi ho=>(k.block i (Nat.lt_of_lt_of_le hi h.size) ho).trans (h.block i hi ho),fun t g N x=>k.cel t g N (h.cel t g N x)⟩
theorem Mkd.mono {B E B' E':Nat} {a b:World} (h:Mkd B E a b) (h1:B'≤B) (h2:E≤E'):Mkd B' E' a b:=
 ⟨h.os,h.tape,h.output,h.size,fun i hi ho=>h.block i hi (by omega),h.cel⟩
theorem Mkd.of_below {B E:Nat} {w w':World} (hb:Below w.heap.size w w'):Mkd B E w w':=⟨hb.os,hb.tape,hb.output,hb.size,fun i hi _=>hb.block i hi,fun t g N x=>x.below hb⟩
theorem Mkd.on {B E:Nat} {a w w':World} (h:Mkd B E a w) (hb:Below w.heap.size w w'):Mkd B E a w':=h.trans (.of_below hb)
theorem Mkd.sc {B E:Nat} {a w:World} (h:Mkd B E a w) (g j:Nat) (v:Value) (h1:B≤g) (h2:g<E):Mkd B E a (w.setCell ⟨g,j,none⟩ v):=
 h.trans ⟨rfl,rfl,rfl,by simp [World.setCell],fun k _ ho=>Below.heap_setCell _ _ _ _ (by show k≠g;omega),fun t g' N x=>x.set g j v⟩
theorem Mkd.below {B E:Nat} {a w:World} (h:Mkd B E a w) (hB:B≤a.heap.size):Below B a w:=⟨h.os,h.tape,h.output,h.size,fun k hk=>h.block k (by omega) (.inl hk)⟩
theorem Mkd.blk {B E g:Nat} {a w:World} {arr:Array Value} {t:TypeId} (h:Mkd B E a w) (hb:Blk a g arr t) (ho:g<B∨E≤g):Blk w g arr t:=(h.block g hb.lt ho).trans hb
theorem QBlk.cel {w:World} {t:TypeId} {g n k:Nat} {l:List Q} (h:QBlk w t g n k l):Cel w t g (n*4):=let ⟨arr,h1,h2,_⟩:=h;⟨arr,h1,h2⟩
theorem AskBlk.cel {w:World} {t:TypeId} {g n k:Nat} {l:List Ask} (h:AskBlk w t g n k l):Cel w t g (n*5):=let ⟨arr,h1,h2,_⟩:=h;⟨arr,h1,h2⟩
theorem MacBlk.cel {w:World} {t:TypeId} {g n k:Nat} {l:List Mac} (h:MacBlk w t g n k l):Cel w t g (n*4):=let ⟨arr,h1,h2,_⟩:=h;⟨arr,h1,h2⟩
theorem ConBlk.cel {w:World} {t:TypeId} {g n k:Nat} {l:List Con} (h:ConBlk w t g n k l):Cel w t g (n*5):=let ⟨arr,h1,h2,_⟩:=h;⟨arr,h1,h2⟩
theorem ApplBlk.cel {w:World} {t:TypeId} {g n k:Nat} {l:List Appl} (h:ApplBlk w t g n k l):Cel w t g (n*3):=let ⟨arr,h1,h2,_⟩:=h;⟨arr,h1,h2⟩
def markM (k j:Nat):Mac:=⟨109::dgs (k+4*j),(k:Int)+4*(j:Int)+1,(k:Int)+4*(j:Int)+1+1,(k:Int)+4*(j:Int)+1+1+1⟩
def marksM (k n:Nat):List Mac:=(List.range n).map (markM k)
theorem marksM_len (k n:Nat):(marksM k n).length=n:=by simp [marksM]
theorem marksM_at (k n j:Nat) (h:j<(marksM k n).length):(marksM k n)[j]=markM k j:=by simp [marksM]
theorem MacBlk.tail {w:World} {t:TypeId} {g n k:Nat} {l:List Mac} (h:MacBlk w t g n k l) {p:Nat} (hp:k*4≤p) (v:Value):MacBlk (w.setCell ⟨g,p,none⟩ v) t g n k l:=by
 obtain ⟨arr,h1,h2,h3⟩:=h
 refine ⟨_,heap_setCell_same w g p _ _ v h1,by simp [h2],fun i hi hik=>?_⟩
 obtain ⟨a,b,c,d⟩:=h3 i hi hik
 refine ⟨?_,?_,?_,?_⟩
 ·rw [←a,Array.getElem?_setIfInBounds,if_neg (by omega)]
 ·rw [←b,Array.getElem?_setIfInBounds,if_neg (by omega)]
 ·rw [←c,Array.getElem?_setIfInBounds,if_neg (by omega)]
 ·rw [←d,Array.getElem?_setIfInBounds,if_neg (by omega)]
theorem MacBlk.next {w:World} {t:TypeId} {g n k:Nat} {l:List Mac} (h:MacBlk w t g n k l) (c:∀hk:k<l.length,MacAt w g (k*4) l[k]):MacBlk w t g n (k+1) l:=by
 obtain ⟨arr,h1,h2,h3⟩:=h
 refine ⟨arr,h1,h2,fun i hi hik=>?_⟩
 by_cases e:i=k
 ·subst e
  obtain ⟨c0,c1,c2,c3⟩:=c hi
  simp [World.cell?,h1] at c0 c1 c2 c3
  exact ⟨c0,c1,c2,c3⟩
 ·exact h3 i hi (by omega)
theorem MacBlk.rowOf {w:World} {t:TypeId} {g c n:Nat} {l:List Mac} (h:MacBlk w t g c n l) (hl:n=l.length):MacRow w (some ⟨g,0,none⟩) n l:=by
 obtain ⟨arr,h1,h2,h3⟩:=h
 refine ⟨hl,.inr ⟨g,0,rfl,fun i hi=>?_⟩⟩
 obtain ⟨a,b,c,d⟩:=h3 i hi (by omega)
 unfold MacAt
 simp only [Nat.zero_add]
 exact ⟨by simp [World.cell?,h1,a],by simp [World.cell?,h1,b],by simp [World.cell?,h1,c],by simp [World.cell?,h1,d]⟩
theorem cellKeepM {w:World} {g p q:Nat} {u v:Value} (h:w.cell? ⟨g,p,none⟩=some u) (hne:q≠p):(w.setCell ⟨g,q,none⟩ v).cell? ⟨g,p,none⟩=some u:=
 (World.cell?_setCell_other _ _ _ _ (fun e=>hne (congrArg Addr.off e))).trans h
theorem markMachineS_full (g n c K:Nat) {d:Nat} (w:World) (h:Cel w 104 g (c*4)) (hc:n≤c) (hn:n≤1048576) (h0:0<K) (h1:K≤1000000000000000) :
  Calls Tryz.prog 37 #[.slice (some ⟨g,0,none⟩) n d,.int .i64 (K:Int)] w fun e w'=>e=.returned (.int .i64 ((K:Int)+4*(n:Int)))∧MacRow w' (some ⟨g,0,none⟩) n (marksM K n)∧Mkd g (g+1) w w':=by
 have HQ0:=hide (show MacBlk w 104 g c 0 (marksM K n) by obtain ⟨arr,h1,h2⟩:=h;exact ⟨arr,h1,h2,fun i _ h=>absurd h (by omega)⟩)
 clear h
 go_enter Tryz.func37,Tryz.ntmps37
 go_wp2
 go_loopw [1,5] (fun s i wr=>∃(j:Nat) (k:Int),j≤n∧i=.int .i64 j∧s=.int .i64 k∧k=(K:Int)+4*(j:Int)∧Hid (MacBlk wr 104 g c j (marksM K n))∧Hid (Mkd g (g+1) w wr)) (fun _ i _=>n - (intOf i).toNat)
 case atStart=>exact ⟨0,K,Nat.zero_le _,rfl,rfl,by omega,HQ0,hide (Mkd.refl _ _ _)⟩
 case round=>
  obtain ⟨j,k,hj,rfl,rfl,hk,HQ,HG⟩:=hrel
  by_cases hlt:j<n
  ·have HK:=hide hk
   have hk0:0<k:=by omega
   have hk1:k≤1000000010000000:=by omega
   clear hk
   go_wp2_with fail
   refine (markText_int (k) _ (by omega) (by omega)).mono ?_
   rintro e w1 ⟨rfl,hb⟩
   have HQt:=hide ((uH HQ).below hb)
   have HGt:=hide ((uH HG).on hb)
   clear HQ HG hb
   obtain ⟨v0,d0⟩:=(uH HQt).cell (j:=j*4) (by omega)
   have f0:=(uH HQt).frozen (j*4)
   have Z0_1:=hide (World.cell?_setCell_same _ ⟨g,j*4,none⟩ (.string (mk (k).toNat)) d0)
   have HQ1z:=hide ((uH HQt).tail (p:=j*4) (by omega) (.string (mk (k).toNat)))
   have HG1z:=hide ((uH HGt).sc g (j*4) (.string (mk (k).toNat)) (Nat.le_refl _) (by omega))
   obtain ⟨v1,d1⟩:=(uH HQ1z).cell (j:=j*4+1) (by omega)
   have f1:=(uH HQ1z).frozen (j*4+1)
   have Z0_2:=hide (cellKeepM (q:=j*4+1) (v:=.int .i64 (k+1)) (uH Z0_1) (by omega))
   have Z1_3:=hide (World.cell?_setCell_same _ ⟨g,j*4+1,none⟩ (.int .i64 (k+1)) d1)
   have HQ2z:=hide ((uH HQ1z).tail (p:=j*4+1) (by omega) (.int .i64 (k+1)))
   have HG2z:=hide ((uH HG1z).sc g (j*4+1) (.int .i64 (k+1)) (Nat.le_refl _) (by omega))
   obtain ⟨v2,d2⟩:=(uH HQ2z).cell (j:=j*4+2) (by omega)
   have f2:=(uH HQ2z).frozen (j*4+2)
   have Z0_4:=hide (cellKeepM (q:=j*4+2) (v:=.int .i64 (k+1+1)) (uH Z0_2) (by omega))
   have Z1_5:=hide (cellKeepM (q:=j*4+2) (v:=.int .i64 (k+1+1)) (uH Z1_3) (by omega))
   have Z2_6:=hide (World.cell?_setCell_same _ ⟨g,j*4+2,none⟩ (.int .i64 (k+1+1)) d2)
   have HQ3z:=hide ((uH HQ2z).tail (p:=j*4+2) (by omega) (.int .i64 (k+1+1)))
   have HG3z:=hide ((uH HG2z).sc g (j*4+2) (.int .i64 (k+1+1)) (Nat.le_refl _) (by omega))
   obtain ⟨v3,d3⟩:=(uH HQ3z).cell (j:=j*4+3) (by omega)
   have f3:=(uH HQ3z).frozen (j*4+3)
   have HN:=hide (show MacBlk _ 104 g c (j+1) (marksM K n) from ((uH HQ3z).tail (p:=j*4+3) (by omega) (.int .i64 (k+1+1+1))).next (fun hj'=>by
    rw [marksM_at]
    have e1:(k).toNat=K+4*j:=by have:=uH HK;omega
    have e3:=uH HK
    have y0:=cellKeepM (q:=j*4+3) (v:=.int .i64 (k+1+1+1)) (uH Z0_4) (by omega)
    have y1:=cellKeepM (q:=j*4+3) (v:=.int .i64 (k+1+1+1)) (uH Z1_5) (by omega)
    have y2:=cellKeepM (q:=j*4+3) (v:=.int .i64 (k+1+1+1)) (uH Z2_6) (by omega)
    have y3:=World.cell?_setCell_same _ ⟨g,j*4+3,none⟩ (.int .i64 (k+1+1+1)) d3
    refine ⟨y0.trans ?_,y1.trans ?_,y2.trans ?_,y3.trans ?_⟩
    ·rw [e1];rfl
    ·rw [e3];rfl
    ·rw [e3];rfl
    ·rw [e3];rfl))
   have HGn:=hide ((uH HG3z).sc g (j*4+3) (.int .i64 (k+1+1+1)) (Nat.le_refl _) (by omega))
   clear HQt HGt Z0_1 HQ1z HG1z Z0_2 Z1_3 HQ2z HG2z HG3z Z0_4 Z1_5 Z2_6
   go_wp2
   go_roundw
   case rel=>exact ⟨j+1,k+1+1+1+1,by omega,by go_num,by go_num,by have:=uH HK;omega,HN,HGn⟩
   case measure=>simp [intOf];omega
  ·have hjn:j=n:=by omega
   subst hjn
   go_wp2
   go_ret
   exact ⟨ret_int (by omega),(uH HQ).rowOf (by rw [marksM_len]),uH HG⟩
def MacOne (w0:World) (b p:Nat) (q:Mac) (w:World):Prop:=MacAt w b p q∧Below w0.heap.size w0 w
theorem MacOne.call {w0 w w':World} {b p:Nat} {q:Mac} (h:MacOne w0 b p q w) (hb:Below w.heap.size w w'):MacOne w0 b p q w':=⟨h.1.below hb,yB h.2 hb⟩
theorem MacOne.drew {w0 w:World} {b p:Nat} {q:Mac} (h:MacOne w0 b p q w):MacOne w0 b p q w.drew:=h.call (Below.refl _ _).drew
theorem MacOne.read (w0:World) (b p:Nat) (q:Mac):∀wx,MacOne w0 b p q wx→wx.cell? ⟨b,p,none⟩=some (.string (bs q.name))∧wx.cell? ⟨b,p+1,none⟩=some (.int .i64 q.mem)∧wx.cell? ⟨b,p+2,none⟩=some (.int .i64 q.cpu)∧wx.cell? ⟨b,p+3,none⟩=some (.int .i64 q.seen):=fun wx h=>h.1
theorem heldMachineS_any (ao:Option Addr) (n c K:Nat) (w:World) (h:MacRow w ao n (marksM K n)) (hn:n≤1048576) (h0:0<K) (h1:K≤1000000000000000) :
  Calls Tryz.prog 40 #[.slice ao n c,.int .i64 (K:Int)] w fun e w'=>e=.returned (.int .i64 ((K:Int)+4*(n:Int)))∧Below w.heap.size w w':=by
 have HR:=hide h
 clear h
 go_enter Tryz.func40,Tryz.ntmps40
 go_wp2
 go_loopw [1,5] (fun s i wr=>∃(j:Nat) (k:Int),j≤n∧i=.int .i64 j∧s=.int .i64 k∧k=(K:Int)+4*(j:Int)∧Hid (Below w.heap.size w wr)) (fun _ i _=>n - (intOf i).toNat)
 case atStart=>exact ⟨0,K,Nat.zero_le _,rfl,rfl,by omega,hide (Below.refl _ _)⟩
 case round=>
  obtain ⟨j,k,hj,rfl,rfl,hk,HB⟩:=hrel
  by_cases hlt:j<n
  ·obtain ⟨b,off,rfl,hq⟩:=((uH HR).below (uH HB)).at hlt
   have hqq:=hq (by rw [marksM_len];exact hlt)
   rw [marksM_at] at hqq
   have T0:∀wx,Calls Tryz.prog 47 #[.int .i64 (k)] wx fun e w'=>e=.returned (.string (bs (markM K j).name))∧Below wx.heap.size wx w':=fun wx=>by
    have:=markText_int (k) wx (by omega) (by omega)
    rw [show (k).toNat=K+4*j by omega] at this
    exact this
   have h_1:(markM K j).mem=k+1:=by rw [hk];rfl
   have h_2:(markM K j).cpu=k+1+1:=by rw [hk];rfl
   have h_3:(markM K j).seen=k+1+1+1:=by rw [hk];rfl
   obtain ⟨q,hqe⟩:∃q,markM K j=q:=⟨_,rfl⟩
   rw [hqe] at hqq T0 h_1 h_2 h_3
   have A0:=hide (show MacOne w b (off+j*4) q wr from ⟨hqq,uH HB⟩)
   have C0:=hide T0
   have HK:=hide hk
   have H_1:=hide h_1
   have H_2:=hide h_2
   have H_3:=hide h_3
   have R:=MacOne.read w b (off+j*4) q
   have R':=hide R
   obtain ⟨_,_,_,_⟩:=R _ (uH A0)
   have j0:(0:Int)≤j:=by omega
   have j1:(j:Int)<n:=by omega
   have hk0:0<k:=by omega
   have hk1:k≤1000000010000000:=by omega
   clear hq hqq T0 hqe hk h_1 h_2 h_3 R
   go_wp2_with fail
   have R:=uH R'
   go_region_held3 (fun wx=>MacOne w b (off+j*4) q wx)
    (first | (with_reducible assumption) | exact (uH A0).drew | exact MacOne.call (by assumption) (by assumption))
    (first
    | (go_at_call 47;refine (uH C0 _).mono ?_;rintro e wt ⟨rfl,hb⟩;have SA:=MacOne.call (w0:=w) (b:=b) (p:=off+j*4) (q:=q) (by assumption) hb))
   obtain ⟨_,r1,r2,r3⟩:=R _ SA
   rw [uH H_1] at r1
   rw [uH H_2] at r2
   rw [uH H_3] at r3
   have HB2:=hide SA.2
   clear SA A0 R C0 R'
   go_wp2
   go_roundw
   case rel=>exact ⟨j+1,k+1+1+1+1,by omega,by go_num,by go_num,by have:=uH HK;omega,HB2⟩
   case measure=>simp [intOf];omega
  ·have hjn:j=n:=by omega
   subst hjn
   go_wp2
   go_ret
   exact ⟨ret_int (by omega),uH HB⟩
end
end Go.Proofs.YtdhibeclkdepiaaGreat
