/-
  Texts in one: OfQD, OverI.
-/
import Derived.Test.YtokabeokclpljaaGreatSackT
set_option maxRecDepth 100000
set_option maxHeartbeats 16000000
set_option linter.unusedVariables false
set_option linter.unusedSimpArgs false
namespace Go.Proofs.YtokabeokclpljaaGreat
section
open Go.RowKit
theorem dueFn_any (w:World) (q:Q) :
  Calls Tryz.prog 131 #[qv q] w fun e w'=>e=.returned (.int .i64 (fieldOf false q))∧Below w.heap.size w w':=by
 go_enter Tryz.func131,Tryz.ntmps131
 go_wp2
 go_ret
 exact ⟨rfl,yA (yH _ _) _⟩
theorem implDueOf_any (ao:Option Addr) (len cap:Nat) (l:List Q) (nm:List UInt8) (a b:Int) (w:World) (h:QRow w ao len l) (hl:len≤1048576) (hn:∀q ∈ l,q.name.length≤1048576) (hc:len≤cap) :
  Calls Tryz.prog 82 #[.slice ao len cap,.string (bs nm),rv a b] w fun e w'=>e=.returned (rv (ofR l nm a b false).1 (ofR l nm a b false).2)∧Below w.heap.size w w':=by
 have hmf:∀(fn:Fn) (first cap:Array Value) (w:World),(Instr.makeFunc fn first cap).run Tryz.prog w=.ok (.func fn first cap) w:=fun _ _ _ _=>rfl
 have HB0:=hide (yA (yA (yH _ w) (.cells #[.int .i64 a,.int .i64 b] 52)) (.cells #[.int .i64 0,.int .i64 0] 52))
 have HV2:=hide (var_new2 w 52 52 a b 0 0)
 have C:=hide (partOf_any 131 (enters_of Tryz.func131 (by kernel_rfl) rfl) false (fun wx q=>dueFn_any wx q) ao len cap l nm a b _ (h.below (uH HB0)) hl hn hc)
 obtain ⟨⟨x,y⟩,hxy⟩:∃p,ofR l nm a b false=p:=⟨_,rfl⟩
 rw [hxy] at C ⊢
 clear hxy h hn
 go_enter Tryz.func82,Tryz.ntmps82
 go_wp2_with fail
 refine (uH C).mono ?_
 rintro e w1 ⟨rfl,hb⟩
 have V2:=(uH HV2).below hb
 have k0:=V2.c0
 have k1:=V2.c1
 have k2:=V2.f 0
 have k3:=V2.f 1
 have k4:=V2.s0 (.int .i64 x)
 have k5:=V2.s1 (.int .i64 x) (.int .i64 y)
 have HB:=hide (yB (uH HB0) hb)
 clear hb V2 HV2 HB0 C
 go_wp2
 refine bodyPost_ret (v:=rv x y) (by simp [results,Tryz.results82,go_sem,k4,k5]) rfl ⟨rfl,?_⟩
 repeat (first | exact uH HB | refine yA ?_ _ | refine Below.drew ?_ | refine yC ?_ _ _ _ (by omega))
end
section
open Go.RowKit Go.Maps
theorem implOver_any (x:Sls) (s:St) (nm:List UInt8) (w:World) (h:SRow w x s) (hf:FitSt s) (hc:x.ql≤x.qc) (hw:WfSt s) :
  Calls Tryz.prog 92 #[sv x s,.string (bs nm)] w fun e w'=>e=.returned (.bool (overV s nm))∧Below w.heap.size w w':=by
 have hql:x.ql≤1048576:=h.ql hf
 have hml:x.ml≤1048576:=h.ml hf
 have CL:=hide (fun wx (hb:Below w.heap.size w wx)=>implLeaf_any x.qa x.ql x.qc s.qs nm wx (h.1.below hb) hql (fun q hq=>(hf.1.2 q hq).1) hc)
 have CT:=hide (fun wx (hb:Below w.heap.size w wx)=>implTotal_any x s wx (h.2.2.1.below hb) hml)
 have CD:=hide (fun wx (hb:Below w.heap.size w wx)=>show Calls Tryz.prog 82 #[.slice x.qa x.ql x.qc,.string (bs nm),rv (totalV s).1 (totalV s).2] wx (fun e w'=>e=.returned (rv (dueV s nm).1 (dueV s nm).2)∧Below wx.heap.size wx w') from implDueOf_any x.qa x.ql x.qc s.qs nm (totalV s).1 (totalV s).2 wx (h.1.below hb) hql (fun q hq=>(hf.1.2 q hq).1) hc)
 have CU:=hide (fun wx (hb:Below w.heap.size w wx)=>implUsedBy_any x s nm wx (h.below hb) hf hc hw)
 obtain ⟨lf,hlf⟩:∃b,leaf s.qs nm=b:=⟨_,rfl⟩
 obtain ⟨⟨tx,ty⟩,ht⟩:∃t,totalV s=t:=⟨_,rfl⟩
 obtain ⟨⟨dx,dy⟩,hd⟩:∃t,dueV s nm=t:=⟨_,rfl⟩
 obtain ⟨⟨ux,uy⟩,hu⟩:∃t,usedByV s nm=t:=⟨_,rfl⟩
 obtain ⟨wi,hwi⟩:∃b,within ux uy dx dy=b:=⟨_,rfl⟩
 have CW:=hide (fun wx=>by have:=implWithin_any ux uy dx dy wx;rw [hwi] at this;exact this)
 have HO:overV s nm=(lf&&!wi):=by simp only [overV,hlf,hu,hd,hwi]
 rw [HO]
 rw [show (sumR (capsOf s.ms)).1=tx from congrArg Prod.fst ht,show (sumR (capsOf s.ms)).2.1=ty from congrArg Prod.snd ht] at CT
 rw [hlf] at CL
 rw [ht,hd] at CD
 rw [hu] at CU
 simp only at CD CU
 clear h hf hc hw hlf ht hd hu hwi HO
 obtain ⟨qa,ql,qc,aa,al,ac,ma,ml,mc,ca,cl,cc⟩:=x
 obtain ⟨qs,clock,epoch,next,serial,apps,ms,cs⟩:=s
 simp only at CL CT CD CU hql hml
 have HB0:=hide (boxW_below w (svc ⟨qa,ql,qc,aa,al,ac,ma,ml,mc,ca,cl,cc⟩ ⟨qs,clock,epoch,next,serial,apps,ms,cs⟩))
 have P0:=hide (boxW_blk w (svc ⟨qa,ql,qc,aa,al,ac,ma,ml,mc,ca,cl,cc⟩ ⟨qs,clock,epoch,next,serial,apps,ms,cs⟩))
 obtain ⟨q0,q1,q2,q3,q4,q5,q6,q7⟩:_∧_∧_∧_∧_∧_∧_∧_:=⟨(uH P0).at 0,(uH P0).at 1,(uH P0).at 2,(uH P0).at 3,(uH P0).at 4,(uH P0).at 5,(uH P0).at 6,(uH P0).at 7⟩
 simp at q0 q1 q2 q3 q4 q5 q6 q7
 obtain ⟨W0,hW0⟩:∃W,boxW w (svc ⟨qa,ql,qc,aa,al,ac,ma,ml,mc,ca,cl,cc⟩ ⟨qs,clock,epoch,next,serial,apps,ms,cs⟩)=W:=⟨_,rfl⟩
 rw [hW0] at HB0 q0 q1 q2 q3 q4 q5 q6 q7
 have R:∀wx,Kp W0 wx→wx.cell? ⟨w.heap.size,0,none⟩=some (.slice qa ql qc)∧wx.cell? ⟨w.heap.size,1,none⟩=some (.int .i64 clock)∧wx.cell? ⟨w.heap.size,2,none⟩=some (.int .i64 epoch)∧wx.cell? ⟨w.heap.size,3,none⟩=some (.int .i64 next)∧wx.cell? ⟨w.heap.size,4,none⟩=some (.int .i64 serial)∧wx.cell? ⟨w.heap.size,5,none⟩=some (.slice aa al ac)∧wx.cell? ⟨w.heap.size,6,none⟩=some (.slice ma ml mc)∧wx.cell? ⟨w.heap.size,7,none⟩=some (.slice ca cl cc):=fun wx h=>
  ⟨h.cell q0,h.cell q1,h.cell q2,h.cell q3,h.cell q4,h.cell q5,h.cell q6,h.cell q7⟩
 have A0:=hide (Kp.new W0)
 have HS:=hide (kp_holds W0)
 clear q0 q1 q2 q3 q4 q5 q6 q7 P0
 go_enter Tryz.func92,Tryz.ntmps92
 go_wp2_with fail
 change Code.wp _ _ _ _ (boxW w (svc ⟨qa,ql,qc,aa,al,ac,ma,ml,mc,ca,cl,cc⟩ ⟨qs,clock,epoch,next,serial,apps,ms,cs⟩))
 rw [hW0]
 clear hW0
 cases lf
 case true=>
  go_region_held3 (fun wx=>Kp W0 wx)
   (first | (with_reducible assumption) | exact uH SA | exact (uH HS).drew (uH A0) | exact (uH HS).call (by assumption) (by assumption))
   (first
   | (go_at_call 86;refine (uH CL _ ?_).mono ?_;(exact yB (uH HB0) ((uH HS).below (by assumption)));rintro e wt ⟨rfl,hb⟩;have SA:=hide ((uH HS).call (by assumption) hb))
   | (go_at_call 81;refine (uH CU _ ?_).mono ?_;(exact yB (uH HB0) ((uH HS).below (by assumption)));rintro e wt ⟨rfl,hb⟩;have SA:=hide ((uH HS).call (by assumption) hb))
   | (go_at_call 83;refine (uH CT _ ?_).mono ?_;(exact yB (uH HB0) ((uH HS).below (by assumption)));rintro e wt ⟨rfl,hb⟩;have SA:=hide ((uH HS).call (by assumption) hb))
   | (go_at_call 82;refine (uH CD _ ?_).mono ?_;(exact yB (uH HB0) ((uH HS).below (by assumption)));rintro e wt ⟨rfl,hb⟩;have SA:=hide ((uH HS).call (by assumption) hb))
   | (go_at_call 34;refine (uH CW _).mono ?_;rintro e wt ⟨rfl,hb⟩;have SA:=hide ((uH HS).call (by assumption) hb)))
  all_goals
   have HB9:=hide (yB (uH HB0) ((uH HS).below (by first | exact uH SA | assumption)))
   go_wp2
   go_ret
   exact ⟨rfl,uH HB9⟩
 case false=>
  refine wp_region_held_drew (S:=fun wx=>Kp W0 wx) (by kernel_rfl) ((uH HS).drew (uH A0)) (fun S0=>?_)
  refine takeD (i:=0) (d:=some 5) (v:=.pointer (some ⟨w.heap.size,0,none⟩)) rfl rfl (by kernel_rfl) (by kernel_rfl) (by kernel_rfl) (fun _ _ _ h=>h) (Or.inl ⟨by rfl,fun wz hz=>by go_simp⟩) S0 ?_
  try simp only [zW]
  refine takeD (i:=1) (d:=some 6) (v:=.slice qa ql qc) rfl rfl (by kernel_rfl) (by kernel_rfl) (by kernel_rfl) (fun _ _ _ h=>h) (Or.inl ⟨by rfl,fun wz hz=>by obtain ⟨r0,_⟩:=R wz hz;go_simp⟩) S0 ?_
  try simp only [zW]
  refine takeD (i:=2) (d:=some 7) (v:=.string (bs nm)) rfl rfl (by kernel_rfl) (by kernel_rfl) (by kernel_rfl) (fun _ _ _ h=>h) (Or.inl ⟨by rfl,fun wz hz=>by go_simp⟩) S0 ?_
  try simp only [zW]
  refine wpAnyH_ready (rs:=[3]) (by kernel_rfl) (by simp) (AllReadyH.cons rfl (fun K hK=>?_) AllReadyH.nil)
  go_simp
  refine (uH CL _ (yB (uH HB0) ((uH HS).below S0))).mono ?_
  rintro e wt ⟨rfl,hb⟩
  have S1:=(uH HS).call S0 hb
  go_wp2_with fail
  refine hK.out _ _ S1 (fun S0=>?_)
  clear hK K
  refine takeD (i:=4) (d:=some 9) (v:=.bool false) rfl rfl (by kernel_rfl) (by kernel_rfl) (by kernel_rfl) (fun _ _ _ h=>h) (Or.inl ⟨by rfl,fun wz hz=>by go_simp⟩) S0 ?_
  try simp only [zW]
  refine tU 5 10 S0 ?_
  try simp only [zW]
  refine tU 6 11 S0 ?_
  try simp only [zW]
  refine tU 7 12 S0 ?_
  try simp only [zW]
  refine tU 8 13 S0 ?_
  try simp only [zW]
  refine tU 9 14 S0 ?_
  try simp only [zW]
  refine tU 10 15 S0 ?_
  try simp only [zW]
  refine tU 11 16 S0 ?_
  try simp only [zW]
  refine tU 12 17 S0 ?_
  try simp only [zW]
  refine tU 13 18 S0 ?_
  try simp only [zW]
  refine tU 14 19 S0 ?_
  try simp only [zW]
  refine tU 15 20 S0 ?_
  try simp only [zW]
  refine takeD (i:=16) (d:=some 21) (v:=.bool false) rfl rfl (by kernel_rfl) (by kernel_rfl) (by kernel_rfl) (fun _ _ _ h=>h) (Or.inl ⟨by rfl,fun wz hz=>by go_simp⟩) S0 ?_
  try simp only [zW]
  refine takeD (i:=17) (d:=some 4) (v:=.bool false) rfl rfl (by kernel_rfl) (by kernel_rfl) (by kernel_rfl) (fun _ _ _ h=>h) (Or.inl ⟨by rfl,fun wz hz=>by go_simp⟩) S0 ?_
  try simp only [zW]
  refine wpAnyH_done (by kernel_rfl) ?_ _
  have HB9:=hide (yB (uH HB0) ((uH HS).below S0))
  go_wp2
  go_ret
  exact ⟨rfl,uH HB9⟩
end
end Go.Proofs.YtokabeokclpljaaGreat
