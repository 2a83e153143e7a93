/-
  A state is right: StateOk, by the program; a aAC over the dump.
-/
import Derived.Test.YtdhibeclkdepiaaGreatPackAA
set_option maxRecDepth 100000
set_option maxHeartbeats 16000000
set_option linter.unusedVariables false
set_option linter.unusedSimpArgs false
namespace Go.Proofs.YtdhibeclkdepiaaGreat
section
open Go.RowKit
def oO (s:St):Bool:=aG s.qs&&(aBW s&&(iA s&&(lU s&&l5 s)))
theorem aBB (x:Sls) (s:St) (w:World) (h:iJ w x s) (hf:bS s) (hc:x.ql≤x.qc) (hw:aEP s) :
  Calls Tryz.prog 44 #[sv x s] w fun e w'=>e=.returned (.bool (oO s))∧Below w.heap.size w w':=by
 have hql:x.ql≤1048576:=by have:=h.len.1;have:=hf.1.1;omega
 have C1:=aA (fun wx (hb:Below w.heap.size w wx)=>dX x.qa x.ql x.qc s.qs wx (h.1.below hb) hql (fun q hq=>(hf.1.2 q hq).1) hc)
 have C2:=aA (fun wx=>aAX x s wx)
 have C3:=aA (fun wx (hb:Below w.heap.size w wx)=>aF3 x s wx (h.below hb) hf)
 have C4:=aA (fun wx (hb:Below w.heap.size w wx)=>xL x s wx (h.below hb) hf)
 have C5:=aA (fun wx (hb:Below w.heap.size w wx)=>aDZ x s wx (h.below hb) hf hw)
 obtain ⟨b1,e1⟩:∃b,aG s.qs=b:=⟨_,rfl⟩
 obtain ⟨b2,e2⟩:∃b,aBW s=b:=⟨_,rfl⟩
 obtain ⟨b3,e3⟩:∃b,iA s=b:=⟨_,rfl⟩
 obtain ⟨b4,e4⟩:∃b,lU s=b:=⟨_,rfl⟩
 obtain ⟨b5,e5⟩:∃b,l5 s=b:=⟨_,rfl⟩
 rw [show oO s=(b1&&(b2&&(b3&&(b4&&b5)))) by rw [oO,e1,e2,e3,e4,e5]]
 rw [e1] at C1
 rw [e2] at C2
 rw [e3] at C3
 rw [e4] at C4
 rw [e5] at C5
 clear h hf hc hw e1 e2 e3 e4 e5
 obtain ⟨qa,ql,qc,aa,al,ac,ma,ml,mc,ca,cl,cc⟩:=x
 obtain ⟨qs,clock,epoch,next,serial,apps,ms,cs⟩:=s
 simp only at C1 C2 C3 C4 C5 hql
 have HB0:=aA (gZ w (svc ⟨qa,ql,qc,aa,al,ac,ma,ml,mc,ca,cl,cc⟩ ⟨qs,clock,epoch,next,serial,apps,ms,cs⟩))
 have P0:=aA (eO w (svc ⟨qa,ql,qc,aa,al,ac,ma,ml,mc,ca,cl,cc⟩ ⟨qs,clock,epoch,next,serial,apps,ms,cs⟩))
 go_enter Tryz.func44,Tryz.ntmps44
 go_wp2_with fail
 refine (uH C1 _ (uH HB0)).mono ?_
 rintro e w1 ⟨rfl,hb⟩
 have HB1:=aA (yB (uH HB0) hb)
 have P1:=aA ((uH P0).below hb)
 clear hb HB0 P0 C1
 cases b1 with
 | false=>
  go_wp2
  go_ret
  exact ⟨rfl,uH HB1⟩
 | true=>
 obtain ⟨q0,q1,q2,q3,q4,q5,q6,q7⟩:_∧_∧_∧_∧_∧_∧_∧_:=⟨(uH P1).at 0,(uH P1).at 1,(uH P1).at 2,(uH P1).at 3,(uH P1).at 4,(uH P1).at 5,(uH P1).at 6,(uH P1).at 7⟩
 simp at q0 q1 q2 q3 q4 q5 q6 q7
 go_wp2_with fail
 refine (uH C2 _).mono ?_
 rintro e w2 ⟨rfl,hb⟩
 have HB2:=aA (yB (uH HB1) hb)
 have P2:=aA ((uH P1).below hb)
 clear hb HB1 P1 C2 q0 q1 q2 q3 q4 q5 q6 q7
 cases b2 with
 | false=>
  go_wp2
  go_ret
  exact ⟨rfl,uH HB2⟩
 | true=>
 obtain ⟨q0,q1,q2,q3,q4,q5,q6,q7⟩:_∧_∧_∧_∧_∧_∧_∧_:=⟨(uH P2).at 0,(uH P2).at 1,(uH P2).at 2,(uH P2).at 3,(uH P2).at 4,(uH P2).at 5,(uH P2).at 6,(uH P2).at 7⟩
 simp at q0 q1 q2 q3 q4 q5 q6 q7
 go_wp2_with fail
 refine (uH C3 _ (uH HB2)).mono ?_
 rintro e w3 ⟨rfl,hb⟩
 have HB3:=aA (yB (uH HB2) hb)
 have P3:=aA ((uH P2).below hb)
 clear hb HB2 P2 C3 q0 q1 q2 q3 q4 q5 q6 q7
 cases b3 with
 | false=>
  go_wp2
  go_ret
  exact ⟨rfl,uH HB3⟩
 | true=>
 obtain ⟨q0,q1,q2,q3,q4,q5,q6,q7⟩:_∧_∧_∧_∧_∧_∧_∧_:=⟨(uH P3).at 0,(uH P3).at 1,(uH P3).at 2,(uH P3).at 3,(uH P3).at 4,(uH P3).at 5,(uH P3).at 6,(uH P3).at 7⟩
 simp at q0 q1 q2 q3 q4 q5 q6 q7
 go_wp2_with fail
 refine (uH C4 _ (uH HB3)).mono ?_
 rintro e w4 ⟨rfl,hb⟩
 have HB4:=aA (yB (uH HB3) hb)
 have P4:=aA ((uH P3).below hb)
 clear hb HB3 P3 C4 q0 q1 q2 q3 q4 q5 q6 q7
 cases b4 with
 | false=>
  go_wp2
  go_ret
  exact ⟨rfl,uH HB4⟩
 | true=>
 obtain ⟨q0,q1,q2,q3,q4,q5,q6,q7⟩:_∧_∧_∧_∧_∧_∧_∧_:=⟨(uH P4).at 0,(uH P4).at 1,(uH P4).at 2,(uH P4).at 3,(uH P4).at 4,(uH P4).at 5,(uH P4).at 6,(uH P4).at 7⟩
 simp at q0 q1 q2 q3 q4 q5 q6 q7
 go_wp2_with fail
 refine (uH C5 _ (uH HB4)).mono ?_
 rintro e w5 ⟨rfl,hb⟩
 have HB5:=aA (yB (uH HB4) hb)
 clear hb HB4 P4 C5 q0 q1 q2 q3 q4 q5 q6 q7
 cases b5
 all_goals
  go_wp2
  go_ret
  exact ⟨rfl,uH HB5⟩
end
end Go.Proofs.YtdhibeclkdepiaaGreat
