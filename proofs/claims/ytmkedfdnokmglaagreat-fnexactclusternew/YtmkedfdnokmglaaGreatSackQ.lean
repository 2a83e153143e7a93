/-
  A state is right: StateOk, by the program; a walk over the dump.
-/
import Derived.Test.YtmkedfdnokmglaaGreatSackN
set_option maxRecDepth 100000
set_option maxHeartbeats 16000000
set_option linter.unusedVariables false
set_option linter.unusedSimpArgs false
namespace Go.Proofs.YtmkedfdnokmglaaGreat
section
open Go.RowKit
def stateOkI (s:St):Bool:=queuesOk s.qs&&(numsOk s&&(appsOkV s&&(machsOkV s&&contsOkV s)))
theorem stateOkI_any (x:Sls) (s:St) (w:World) (h:SRow w x s) (hf:FitSt s) (hc:x.ql≤x.qc) (hw:WfSt s) :
  Calls Tryz.prog 106 #[sv x s] w fun e w'=>e=.returned (.bool (stateOkI s))∧Below w.heap.size w w':=by
 have hql:x.ql≤1048576:=by have:=h.len.1;have:=hf.1.1;omega
 have C1:=hide (fun wx (hb:Below w.heap.size w wx)=>implQueuesOk_any x.qa x.ql x.qc s.qs wx (h.1.below hb) hql (fun q hq=>(hf.1.2 q hq).1) hc)
 have C2:=hide (fun wx=>numbersOk_any x s wx)
 have C3:=hide (fun wx (hb:Below w.heap.size w wx)=>appsOk_any x s wx (h.below hb) hf)
 have C4:=hide (fun wx (hb:Below w.heap.size w wx)=>machinesOk_any x s wx (h.below hb) hf)
 have C5:=hide (fun wx (hb:Below w.heap.size w wx)=>contsOk_any x s wx (h.below hb) hf hw)
 obtain ⟨b1,e1⟩:∃b,queuesOk s.qs=b:=⟨_,rfl⟩
 obtain ⟨b2,e2⟩:∃b,numsOk s=b:=⟨_,rfl⟩
 obtain ⟨b3,e3⟩:∃b,appsOkV s=b:=⟨_,rfl⟩
 obtain ⟨b4,e4⟩:∃b,machsOkV s=b:=⟨_,rfl⟩
 obtain ⟨b5,e5⟩:∃b,contsOkV s=b:=⟨_,rfl⟩
 rw [show stateOkI s=(b1&&(b2&&(b3&&(b4&&b5)))) by rw [stateOkI,e1,e2,e3,e4,e5]]
 rw [e1] at C1
 rw [e2] at C2
 rw [e3] at C3
 rw [e4] at C4
 rw [e5] at C5
 clear h hf hc hw e1 e2 e3 e4 e5
 obtain ⟨qa,ql,qc,aa,al,ac,ma,ml,mc,ca,cl,cc⟩:=x
 obtain ⟨qs,clock,epoch,next,serial,apps,ms,cs⟩:=s
 simp only at C1 C2 C3 C4 C5 hql
 have HB0:=hide (boxW_below w (svc ⟨qa,ql,qc,aa,al,ac,ma,ml,mc,ca,cl,cc⟩ ⟨qs,clock,epoch,next,serial,apps,ms,cs⟩))
 have P0:=hide (boxW_blk w (svc ⟨qa,ql,qc,aa,al,ac,ma,ml,mc,ca,cl,cc⟩ ⟨qs,clock,epoch,next,serial,apps,ms,cs⟩))
 go_enter Tryz.func106,Tryz.ntmps106
 go_wp2_with fail
 refine (uH C1 _ (uH HB0)).mono ?_
 rintro e w1 ⟨rfl,hb⟩
 have HB1:=hide (yB (uH HB0) hb)
 have P1:=hide ((uH P0).below hb)
 clear hb HB0 P0 C1
 cases b1 with
 | false=>
  go_wp2
  go_ret
  exact ⟨rfl,uH HB1⟩
 | true=>
 obtain ⟨q0,q1,q2,q3,q4,q5,q6,q7⟩:_∧_∧_∧_∧_∧_∧_∧_:=⟨(uH P1).at 0,(uH P1).at 1,(uH P1).at 2,(uH P1).at 3,(uH P1).at 4,(uH P1).at 5,(uH P1).at 6,(uH P1).at 7⟩
 simp at q0 q1 q2 q3 q4 q5 q6 q7
 go_wp2_with fail
 refine (uH C2 _).mono ?_
 rintro e w2 ⟨rfl,hb⟩
 have HB2:=hide (yB (uH HB1) hb)
 have P2:=hide ((uH P1).below hb)
 clear hb HB1 P1 C2 q0 q1 q2 q3 q4 q5 q6 q7
 cases b2 with
 | false=>
  go_wp2
  go_ret
  exact ⟨rfl,uH HB2⟩
 | true=>
 obtain ⟨q0,q1,q2,q3,q4,q5,q6,q7⟩:_∧_∧_∧_∧_∧_∧_∧_:=⟨(uH P2).at 0,(uH P2).at 1,(uH P2).at 2,(uH P2).at 3,(uH P2).at 4,(uH P2).at 5,(uH P2).at 6,(uH P2).at 7⟩
 simp at q0 q1 q2 q3 q4 q5 q6 q7
 go_wp2_with fail
 refine (uH C3 _ (uH HB2)).mono ?_
 rintro e w3 ⟨rfl,hb⟩
 have HB3:=hide (yB (uH HB2) hb)
 have P3:=hide ((uH P2).below hb)
 clear hb HB2 P2 C3 q0 q1 q2 q3 q4 q5 q6 q7
 cases b3 with
 | false=>
  go_wp2
  go_ret
  exact ⟨rfl,uH HB3⟩
 | true=>
 obtain ⟨q0,q1,q2,q3,q4,q5,q6,q7⟩:_∧_∧_∧_∧_∧_∧_∧_:=⟨(uH P3).at 0,(uH P3).at 1,(uH P3).at 2,(uH P3).at 3,(uH P3).at 4,(uH P3).at 5,(uH P3).at 6,(uH P3).at 7⟩
 simp at q0 q1 q2 q3 q4 q5 q6 q7
 go_wp2_with fail
 refine (uH C4 _ (uH HB3)).mono ?_
 rintro e w4 ⟨rfl,hb⟩
 have HB4:=hide (yB (uH HB3) hb)
 have P4:=hide ((uH P3).below hb)
 clear hb HB3 P3 C4 q0 q1 q2 q3 q4 q5 q6 q7
 cases b4 with
 | false=>
  go_wp2
  go_ret
  exact ⟨rfl,uH HB4⟩
 | true=>
 obtain ⟨q0,q1,q2,q3,q4,q5,q6,q7⟩:_∧_∧_∧_∧_∧_∧_∧_:=⟨(uH P4).at 0,(uH P4).at 1,(uH P4).at 2,(uH P4).at 3,(uH P4).at 4,(uH P4).at 5,(uH P4).at 6,(uH P4).at 7⟩
 simp at q0 q1 q2 q3 q4 q5 q6 q7
 go_wp2_with fail
 refine (uH C5 _ (uH HB4)).mono ?_
 rintro e w5 ⟨rfl,hb⟩
 have HB5:=hide (yB (uH HB4) hb)
 clear hb HB4 P4 C5 q0 q1 q2 q3 q4 q5 q6 q7
 cases b5
 all_goals
  go_wp2
  go_ret
  exact ⟨rfl,uH HB5⟩
end
end Go.Proofs.YtmkedfdnokmglaaGreat
