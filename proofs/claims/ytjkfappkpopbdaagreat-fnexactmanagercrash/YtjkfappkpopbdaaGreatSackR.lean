/-
  The closure that Read defers: it recovers what the reader panics with; walks over the dump.
-/
import Derived.Test.YtjkfappkpopbdaaGreatSackH
set_option maxRecDepth 100000
set_option maxHeartbeats 16000000
set_option linter.unusedVariables false
set_option linter.unusedSimpArgs false
namespace Go.Proofs.YtjkfappkpopbdaaGreat
section
open Go.RowKit
theorem catchR_panicking (g:Nat) (x0:Int) (bg:Int) (older:List PanicEntry) (w:World) (h1:Blk w g #[.int .i64 x0] 3) :
  CallsD Tryz.prog 96 #[.pointer (some ⟨g,0,none⟩)] (.panicking (perr bg::older)) w fun e u' w'=>
   e=.returned (.tuple #[])∧u'=.panicking ({ perr bg with recovered:=true } :: older)∧Blk w' g #[.int .i64 bg] 3∧w.grownBy w' (some g):=by
 have H1:=hide h1
 clear h1
 refine callsD_of_wpS Tryz.func96 rfl fun c₀ cs hu=>?_
 apply wpS_seq
 apply wpS_region
 rw [Tryz.ntmps96,show ∀x:Value,#[x]++Array.replicate (11 - #[x].size) undef=#[x,undef,undef,undef,undef,undef,undef,undef,undef,undef,undef] from fun _=>rfl]
 simp only [List.size_toArray,List.length_cons,List.length_nil,Nat.zero_add,Nat.reduceAdd,List.range,List.range.loop]
 refine opsS_rec (w':=w) (d:=some 4) rfl rfl rfl (by simp [go_sem]) (v:=.iface 160 (.agg #[.int .i64 bg])) (cs':={ c₀ with mode:=.panicking ({ perr bg with recovered:=true } :: older) } :: cs) (by simp [recoverD,hu]) ?_
 simp only [zW]
 refine opsS_call (w':=w) (f:=97) (args:=#[.iface 160 (.agg #[.int .i64 bg])]) (d:=some 5) rfl rfl rfl (by simp [go_sem]) (failure_yes bg w) ?_
 rintro e w1 ⟨rfl,hb⟩
 refine ⟨_,rfl,?_⟩
 have HB:=hide hb
 have G1:=hide ((uH H1).below hb)
 clear hb
 simp only [zW]
 refine opsS_val (v:=.tuple #[.agg #[.int .i64 bg],.bool true]) (w':=w1) (d:=some 3) rfl rfl rfl (by simp [go_sem]) ?_
 simp only [zW]
 refine opsS_val (v:=.agg #[.int .i64 bg]) (w':=w1) (d:=some 6) rfl rfl rfl (by simp [go_sem]) ?_
 simp only [zW]
 refine opsS_val (v:=.bool true) (w':=w1) (d:=some 7) rfl rfl rfl (by simp [go_sem]) ?_
 simp only [zW]
 refine opsS_val (v:=.pointer (some ⟨w1.heap.size,0,none⟩)) (w':=w1.alloc (.cells #[.int .i64 0] 160)) (d:=some 1) rfl rfl rfl (by simp [go_sem]) ?_
 simp only [zW]
 refine opsS_skip (w':=w1.alloc (.cells #[.int .i64 bg] 160)) (d:=none) rfl rfl rfl (by simp [go_sem]) ?_
 simp only [zW]
 refine opsS_val (v:=.bool true) (w':=w1.alloc (.cells #[.int .i64 bg] 160)) (d:=some 2) rfl rfl rfl (by simp [go_sem]) ?_
 simp only [zW]
 refine opsS_nil ?_
 refine wpS_of_wp ?_
 have k0:=((uH G1).al (.cells #[.int .i64 bg] 160)).at 0
 have f0:=((uH G1).al (.cells #[.int .i64 bg] 160)).f 0
 have W1:=hide ((uH G1).al (.cells #[.int .i64 bg] 160))
 have e0:=(yD w1 #[.int .i64 bg] 160).at 0
 have HBL:=hide (gby_below (r:=some g) (yA (uH HB) (.cells #[.int .i64 bg] 160)))
 simp only [List.getElem?_toArray,List.getElem?_cons_succ,List.getElem?_cons_zero] at k0 e0
 obtain ⟨W,hW⟩:∃W,w1.alloc (.cells #[.int .i64 bg] 160)=W:=⟨_,rfl⟩
 rw [hW] at k0 f0 e0 W1 HBL ⊢
 clear hW HB G1 H1
 go_wp2
 refine ⟨rfl,_,rfl,.tuple #[],by simp [results,Tryz.results96,go_sem],rfl,rfl,?_,grownBy_set (uH HBL) _ _⟩
 simpa using (uH W1).set 0 (.int .i64 bg)
theorem catchR_idle (g:Nat) (x0:Int) (w:World) (h1:Blk w g #[.int .i64 x0] 3) :
  CallsD Tryz.prog 96 #[.pointer (some ⟨g,0,none⟩)] .returning w fun e u' w'=>
   e=.returned (.tuple #[])∧u'=.returning∧Below w.heap.size w w':=by
 have H1:=hide h1
 clear h1
 refine callsD_of_wpS Tryz.func96 rfl fun c₀ cs hu=>?_
 apply wpS_seq
 apply wpS_region
 rw [Tryz.ntmps96,show ∀x:Value,#[x]++Array.replicate (11 - #[x].size) undef=#[x,undef,undef,undef,undef,undef,undef,undef,undef,undef,undef] from fun _=>rfl]
 simp only [List.size_toArray,List.length_cons,List.length_nil,Nat.zero_add,Nat.reduceAdd,List.range,List.range.loop]
 refine opsS_rec0 (w':=w) (d:=some 4) rfl rfl rfl (by simp [go_sem]) (by simp [recoverD,hu]) ?_
 simp only [zW]
 refine opsS_call (w':=w) (f:=97) (args:=#[.nilIface]) (d:=some 5) rfl rfl rfl (by simp [go_sem]) (failure_no w) ?_
 rintro e w1 ⟨rfl,hb⟩
 refine ⟨_,rfl,?_⟩
 have HB:=hide hb
 have G1:=hide ((uH H1).below hb)
 clear hb
 simp only [zW]
 refine opsS_val (v:=.tuple #[.agg #[.int .i64 0],.bool false]) (w':=w1) (d:=some 3) rfl rfl rfl (by simp [go_sem]) ?_
 simp only [zW]
 refine opsS_val (v:=.agg #[.int .i64 0]) (w':=w1) (d:=some 6) rfl rfl rfl (by simp [go_sem]) ?_
 simp only [zW]
 refine opsS_val (v:=.bool false) (w':=w1) (d:=some 7) rfl rfl rfl (by simp [go_sem]) ?_
 simp only [zW]
 refine opsS_val (v:=.pointer (some ⟨w1.heap.size,0,none⟩)) (w':=w1.alloc (.cells #[.int .i64 0] 160)) (d:=some 1) rfl rfl rfl (by simp [go_sem]) ?_
 simp only [zW]
 refine opsS_skip (w':=w1.alloc (.cells #[.int .i64 0] 160)) (d:=none) rfl rfl rfl (by simp [go_sem]) ?_
 simp only [zW]
 refine opsS_val (v:=.bool false) (w':=w1.alloc (.cells #[.int .i64 0] 160)) (d:=some 2) rfl rfl rfl (by simp [go_sem]) ?_
 simp only [zW]
 refine opsS_nil ?_
 refine wpS_of_wp ?_
 have HBL:=hide (yA (uH HB) (.cells #[.int .i64 0] 160))
 go_wp2
 refine ⟨rfl,.returning,?_,.tuple #[],by simp [results,Tryz.results96,go_sem],rfl,rfl,uH HBL⟩
 cases c₀
 simp_all
end
end Go.Proofs.YtjkfappkpopbdaaGreat
