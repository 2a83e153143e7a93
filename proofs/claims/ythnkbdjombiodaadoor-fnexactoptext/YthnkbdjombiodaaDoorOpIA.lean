/-
  The words of an event that is an ask: what the program's method answers; a walk over the dump.
-/
import Derived.Test.YthnkbdjombiodaaDoorOpS
import Derived.Test.YthnkbdjombiodaaDoorOpIW
import Derived.Test.YthnkbdjombiodaaDoorResTextI
namespace Go.Proofs.YthnkbdjombiodaaDoor
open Go.RowKit
set_option linter.unusedVariables false
set_option linter.unusedSimpArgs false

/-- the event's own block stands, and nothing below has turned -/
def EBx (w : World) (t : TypeId) (arr : Array Value) (wx : World) : Prop := Blk wx w.heap.size arr t ∧ Below w.heap.size w wx
theorem EBx.call {w w1 w2 : World} {t : TypeId} {arr : Array Value} (h : EBx w t arr w1) (hb : Below w1.heap.size w1 w2) : EBx w t arr w2 := ⟨h.1.below hb, below_on h.2 hb⟩
theorem EBx.drew {w w1 : World} {t : TypeId} {arr : Array Value} (h : EBx w t arr w1) : EBx w t arr w1.drew := h.call (Below.refl _ _).drew
theorem EBx.al {w w1 : World} {t : TypeId} {arr : Array Value} (h : EBx w t arr w1) (o : Obj) : EBx w t arr (w1.alloc o) := h.call (below_al (Below.refl _ _) o)
theorem EBx.new (w : World) (t : TypeId) (arr : Array Value) : EBx w t arr (w.alloc (.cells arr t)) := ⟨blk_new w _ _, below_al (Below.refl _ w) _⟩

set_option maxRecDepth 100000 in
set_option maxHeartbeats 4000000 in
theorem askWords_any (app am ac an ai : Int) (ad : List UInt8) (w : World) (h1 : -9223372036854775808 ≤ app ∧ app ≤ 9223372036854775807) (h2 : -9223372036854775808 ≤ am ∧ am ≤ 9223372036854775807) (h3 : -9223372036854775808 ≤ ac ∧ ac ≤ 9223372036854775807) (h4 : -9223372036854775808 ≤ an ∧ an ≤ 9223372036854775807) (htab : Lib.TabIs Tryd.prog w "internal/strconv.uint64pow10" .u64 Lib.pow10Tab) :
    Calls Tryd.prog 58 #[.agg #[.int .i64 app, .int .i64 am, .int .i64 ac, .int .i64 an, .string (bs ad), .int .i64 ai]] w fun e w' => WAns w ([[97, 115, 107], Lib.itoa app, resL am ac, Lib.itoa an] ++ (if ad = [] then [] else [ad])) e w' := by
  have A0 := hide (EBx.new w 106 #[.int .i64 app, .int .i64 am, .int .i64 ac, .int .i64 an, .string (bs ad), .int .i64 ai])
  have R : ∀ wx, EBx w 106 #[.int .i64 app, .int .i64 am, .int .i64 ac, .int .i64 an, .string (bs ad), .int .i64 ai] wx → wx.cell? ⟨w.heap.size, 0, none⟩ = some (.int .i64 app) ∧ wx.cell? ⟨w.heap.size, 1, none⟩ = some (.int .i64 am) ∧ wx.cell? ⟨w.heap.size, 2, none⟩ = some (.int .i64 ac) ∧ wx.cell? ⟨w.heap.size, 3, none⟩ = some (.int .i64 an) :=
    fun wx h => ⟨by simpa using h.1.at 0, by simpa using h.1.at 1, by simpa using h.1.at 2, by simpa using h.1.at 3⟩
  have D1 := hide (fun wx (hb : Below w.heap.size w wx) => implDecText_any app wx h1.1 h1.2 (tab_on htab hb))
  have D2 := hide (fun wx (hb : Below w.heap.size w wx) => by have := implResText_any am ac wx h2.1 h2.2 h3.1 h3.2 (tab_on htab hb); rw [resText_bs] at this; exact this)
  have D3 := hide (fun wx (hb : Below w.heap.size w wx) => implDecText_any an wx h4.1 h4.2 (tab_on htab hb))
  have hbe := bs_empty ad
  obtain ⟨full, hfull⟩ : ∃ l, [[97, 115, 107], Lib.itoa app, resL am ac, Lib.itoa an] ++ (if ad = [] then [] else [ad]) = l := ⟨_, rfl⟩
  have F0 := hide (fun (h : ad = []) => show full = [[97, 115, 107], Lib.itoa app, resL am ac, Lib.itoa an] by rw [← hfull, if_pos h, List.append_nil])
  have F1 := hide (fun (h : ¬ ad = []) => show full = [[97, 115, 107], Lib.itoa app, resL am ac, Lib.itoa an] ++ [ad] by rw [← hfull, if_neg h])
  rw [hfull]
  clear hfull
  obtain ⟨i0, hi, hz0, hz1, hz2⟩ := info_parts Tryd.infoS
  clear htab h1 h2 h3 h4
  go_enter Tryd.func58, Tryd.ntmps58
  go_wp2_with fail
  go_region_held3 (fun wx => EBx w 106 #[.int .i64 app, .int .i64 am, .int .i64 ac, .int .i64 an, .string (bs ad), .int .i64 ai] wx)
    (first | (with_reducible assumption) | exact (unhide A0).drew | exact EBx.call (by assumption) (by assumption) | exact EBx.al (by assumption) _ | exact EBx.drew (EBx.al (by assumption) _))
    (first
    | (go_at_call_of 20 app; refine (unhide D1 _ (EBx.call (w := w) (t := 106) (arr := #[.int .i64 app, .int .i64 am, .int .i64 ac, .int .i64 an, .string (bs ad), .int .i64 ai]) (by assumption) (Below.refl _ _)).2).mono ?_; rintro e wt ⟨rfl, hb⟩; have SA := EBx.call (w := w) (t := 106) (arr := #[.int .i64 app, .int .i64 am, .int .i64 ac, .int .i64 an, .string (bs ad), .int .i64 ai]) (by assumption) hb)
    | (go_at_call_of 20 an; refine (unhide D3 _ (EBx.call (w := w) (t := 106) (arr := #[.int .i64 app, .int .i64 am, .int .i64 ac, .int .i64 an, .string (bs ad), .int .i64 ai]) (by assumption) (Below.refl _ _)).2).mono ?_; rintro e wt ⟨rfl, hb⟩; have SA := EBx.call (w := w) (t := 106) (arr := #[.int .i64 app, .int .i64 am, .int .i64 ac, .int .i64 an, .string (bs ad), .int .i64 ai]) (by assumption) hb)
    | (go_at_call 68; refine (unhide D2 _ (EBx.call (w := w) (t := 106) (arr := #[.int .i64 app, .int .i64 am, .int .i64 ac, .int .i64 an, .string (bs ad), .int .i64 ai]) (by assumption) (Below.refl _ _)).2).mono ?_; rintro e wt ⟨rfl, hb⟩; have SA := EBx.call (w := w) (t := 106) (arr := #[.int .i64 app, .int .i64 am, .int .i64 ac, .int .i64 an, .string (bs ad), .int .i64 ai]) (by assumption) hb))
  have HE := hide (SA.al (.cells #[.string ⟨#[97, 115, 107]⟩, .string (bs (Lib.itoa app)), .string (bs (resL am ac)), .string (bs (Lib.itoa an))] 9))
  have HT := hide (show Texts w.heap.size (wt.alloc (.cells #[.string ⟨#[97, 115, 107]⟩, .string (bs (Lib.itoa app)), .string (bs (resL am ac)), .string (bs (Lib.itoa an))] 9)) (.slice (some ⟨wt.heap.size, 0, none⟩) 4 4) [[97, 115, 107], Lib.itoa app, resL am ac, Lib.itoa an] from texts_made w.heap.size wt SA.2.size [[97, 115, 107], Lib.itoa app, resL am ac, Lib.itoa an] (by simp))
  clear SA R A0 D1 D2 D3
  generalize (wt.alloc (.cells #[.string ⟨#[97, 115, 107]⟩, .string (bs (Lib.itoa app)), .string (bs (resL am ac)), .string (bs (Lib.itoa an))] 9)) = w3 at HE HT ⊢
  have k4 := (unhide HE).1.at 4
  simp at k4
  by_cases hz : ad = []
  · rw [decide_eq_true hz] at hbe
    have HX := hide (show Texts w.heap.size w3 (.slice (some ⟨wt.heap.size, 0, none⟩) 4 4) full by rw [unhide F0 hz]; exact unhide HT)
    clear hz HT F0 F1
    go_wp2
    go_ret
    exact ⟨.slice (some ⟨wt.heap.size, 0, none⟩) 4 4, rfl, unhide HX, (unhide HE).2⟩
  · rw [decide_eq_false hz] at hbe
    have HZ := hide hz
    have hown : w3.ownsRow w.heap.size 9 1 (.slice (some ⟨wt.heap.size, 0, none⟩) 4 4) 4 (scells ([[97, 115, 107], Lib.itoa app, resL am ac, Lib.itoa an].map bs)) := unhide HT
    have hsz : w.heap.size ≤ w3.heap.size := (unhide HE).2.size
    clear hz HT
    go_wp2_with (at_builtin; refine wpList_append_own _ rfl _ _ 49 rfl w.heap.size 9 i0 (.string ByteArray.empty) 1 16 Tryd.underlying49 hi hz0 hz1 hz2 rfl (by decide) _ _ _ rfl (hown.alloc _) ⟨w3.heap.size, 0, none⟩ 1 1 [.string (bs ad)] rfl rfl ?c1 ?c2 ?c3 ?c4 ?c5 ?_)
    case c1 => intro j v hj; match j, hj with | 0, hj => simp at hj; subst hj; simp [Addr.add]
    case c2 => intro v hv; simp at hv; subst hv; rfl
    case c3 => unfold maxLen; omega
    case c4 => omega
    case c5 => simp; omega
    intro v' w4 hown' hgrow _
    have R := srow_step (o := [[97, 115, 107], Lib.itoa app, resL am ac, Lib.itoa an].map bs) (x := bs ad) (unhide HE).2 hown hown' hgrow (by omega)
    have HX := hide (show Texts w.heap.size w4 v' full by rw [unhide F1 (unhide HZ)]; exact Texts.of R.1 (by simp))
    have HY := hide R.2
    clear hown' hgrow hown R k4 HE
    go_wp2
    go_ret
    exact ⟨v', rfl, unhide HX, unhide HY⟩
end Go.Proofs.YthnkbdjombiodaaDoor
