/-
  The text of queues: what the program's QueuesText answers; a walk over the dump.
-/
import Derived.Test.YtebaejokhpdbkaaGreatDoorLineI
import Derived.Test.YtebaejokhpdbkaaGreatDoorBuildI
import Derived.Test.YtebaejokhpdbkaaGreatDoorQueuesOkI
namespace Go.Proofs.YtebaejokhpdbkaaGreatDoor
open Go.RowKit
set_option linter.unusedVariables false

theorem built_new (w : World) : Lib.IsBuilder 64 5 w.heap.size w.heap.size (Lib.byteCells []) (w.alloc (.cells #[.pointer none, .slice none 0 0] 64)) :=
  .inl ⟨Nat.le_refl _, .slice none 0 0, by show (w.heap.push _)[w.heap.size]? = _; simp, World.ownsRow_nil _ _ _ _, by simp [Value.ownBlock]⟩
theorem built_below {w w' : World} {B b : Nat} {xs : List Value} (h : Lib.IsBuilder 64 5 B b xs w) (hb : Below w.heap.size w w') : Lib.IsBuilder 64 5 B b xs w' := by
  have key : ∀ p, Lib.BuilderAt 64 5 B b p xs w → Lib.BuilderAt 64 5 B b p xs w' := fun p ⟨h1, v, h2, h3, h4⟩ =>
    ⟨h1, v, (hb.block b (lt_of_block h2)).trans h2, h3.kept (grownBy_below (grownBy_refl w none) hb) (by by_cases e : v.ownBlock = none; exact .inl e; exact .inr e), h4⟩
  rcases h with h | h
  · exact .inl (key _ h)
  · exact .inr (key _ h)

set_option maxRecDepth 100000 in
set_option maxHeartbeats 4000000 in
theorem implQueuesText_any (ao : Option Addr) (len cap : Nat) (l : List Q) (w : World) (h : QRow w ao len l) (hl : len ≤ 1048576) (hn : ∀ q ∈ l, q.name.length ≤ 1048576) (hc : len ≤ cap) (htab : Lib.TabIs Tryz.prog w "internal/strconv.uint64pow10" .u64 Lib.pow10Tab) :
    Calls Tryz.prog 11 #[.slice ao len cap] w fun e w' => e = .returned (.string (bs (qtext l))) ∧ Below w.heap.size w w' := by
  have HR := hide h
  have HL := hide h.1
  have CQ := hide (implQueuesOk_any ao len cap l w h hl hn hc)
  have HQ := hide (show qtext l = if queuesOk l then textL l else [] from rfl)
  have HF := hide (fun ho : queuesOk l = true => ok_fields ho)
  have HT := hide (fun ho : queuesOk l = true => textL_len ho)
  have HN := hide (fun ho : queuesOk l = true => ok_len ho)
  have HTAB := hide htab
  obtain ⟨o, ho⟩ : ∃ o, queuesOk l = o := ⟨_, rfl⟩
  rw [ho] at CQ HQ HF HT HN
  obtain ⟨r, hr⟩ : ∃ r, qtext l = r := ⟨_, rfl⟩
  rw [hr] at HQ ⊢
  clear h hn ho hr htab
  go_enter Tryz.func11, Tryz.ntmps11
  go_wp2_with fail
  refine (unhide CQ).mono ?_
  rintro e w1 ⟨rfl, hb⟩
  have HB1 := hide hb
  clear hb CQ
  cases o with
  | false =>
    go_wp2
    go_ret
    exact ⟨by rw [unhide HQ]; rfl, unhide HB1⟩
  | true =>
    have hf := unhide HF (by first | rfl | trivial)
    have ht := unhide HT (by first | rfl | trivial)
    have hl20 := unhide HN (by first | rfl | trivial)
    have HF' := hide hf
    have HT' := hide ht
    have hw1 := (unhide HB1).size
    have HI0 := hide (built_new w1)
    have HB2 := hide (below_al (unhide HB1) (.cells #[.pointer none, .slice none 0 0] 64))
    clear HF HT HN hf ht
    go_wp2
    go_loopw [5, 11] (fun _ i wr => ∃ k : Nat, k ≤ len ∧ i = .int .i64 k ∧ Hid (Lib.IsBuilder 64 5 w1.heap.size w1.heap.size (Lib.byteCells (textL (l.take k))) wr) ∧ Hid (Below w.heap.size w wr) ∧ w1.heap.size ≤ wr.heap.size) (fun _ i _ => len - (intOf i).toNat)
    case atStart => exact ⟨0, Nat.zero_le _, rfl, HI0, HB2, by simp⟩
    case round =>
      obtain ⟨k, hk, rfl, HI, HB, hsz⟩ := hrel
      by_cases hlt : k < len
      · obtain ⟨b, off, rfl, hq⟩ := ((unhide HR).below (unhide HB)).at hlt
        have hkl : k < l.length := by have := unhide HL; omega
        have hst := hide (textL_step (l := l) (k := k) hkl)
        have hfq := unhide HF' l[k] (List.getElem_mem _)
        have htl := unhide HT' k (by omega)
        have hll := lineL_len hfq
        obtain ⟨c0, c1, c2, c3⟩ := hq hkl
        clear hq
        obtain ⟨⟨nm, pa, du, mo⟩, hs⟩ : ∃ s, l[k] = s := ⟨_, rfl⟩
        rw [hs] at c0 c1 c2 c3 hst hfq hll
        simp only at c0 c1 c2 c3
        have HA := hide (QBox.new wr ⟨nm, pa, du, mo⟩)
        have HBa := hide (below_al (unhide HB) (qobj ⟨nm, pa, du, mo⟩))
        have HIa := hide (built_below (unhide HI) (below_al (Below.refl _ wr) (qobj ⟨nm, pa, du, mo⟩)))
        have CL := hide (line_any ⟨nm, pa, du, mo⟩ (wr.alloc (qobj ⟨nm, pa, du, mo⟩)) hfq (tab_on (unhide HTAB) (unhide HBa)))
        have k0 := (unhide HA).c0
        have k1 := (unhide HA).c1
        have k2 := (unhide HA).c2
        have k3 := (unhide HA).c3
        simp only at k0 k1 k2 k3
        have HLL := hide hll
        have HTL := hide htl
        clear hs hkl hfq hll htl HI HB
        go_wp2_with fail
        refine (unhide CL).mono ?_
        rintro e w2 ⟨rfl, hb⟩
        have HB3 := hide (below_on (unhide HBa) hb)
        have HI3 := hide (built_below (unhide HIa) hb)
        have hsz3 : w1.heap.size ≤ w2.heap.size := by have := hb.size; simp at this; omega
        clear hb CL HBa HIa c0 c1 c2 c3 k0 k1 k2 k3 HA
        go_wp2_with fail
        refine (writeString_any w1.heap.size w1.heap.size _ (bs (lineL ⟨nm, pa, du, mo⟩)) w2 (unhide HI3) ?_ hsz3).mono ?_
        · have := unhide HLL
          have := unhide HTL
          rw [bs_size]
          simp [Lib.byteCells]
          omega
        rintro e w3 ⟨rfl, hat, hb⟩
        have HB4 := hide ((unhide HB3).trans (hb.mono hw1))
        have HI4 := hide (show Lib.IsBuilder 64 5 w1.heap.size w1.heap.size (Lib.byteCells (textL (l.take (k + 1)))) w3 from .inr (by
          rw [unhide hst]
          have e : Lib.byteCells (textL (l.take k) ++ lineL ⟨nm, pa, du, mo⟩) = Lib.byteCells (textL (l.take k)) ++ Lib.strCells (bs (lineL ⟨nm, pa, du, mo⟩)) := by simp [Lib.byteCells, Lib.strCells, bs]
          rw [e]
          exact hat))
        have hsz4 : w1.heap.size ≤ w3.heap.size := Nat.le_trans hsz3 hb.size
        clear hat hb HB3 HI3
        go_wp2
        go_roundw
        case rel => exact ⟨k + 1, by omega, by go_num, HI4, HB4, hsz4⟩
        case measure => simp [intOf]; omega
      · have HIF := hide (show Lib.IsBuilder 64 5 w1.heap.size w1.heap.size (Lib.byteCells (textL l)) wr from by
          have e : k = l.length := by have := unhide HL; omega
          have := unhide HI
          rw [e, List.take_length] at this
          exact this)
        have hrr := hide (show textL l = r by rw [unhide HQ]; rfl)
        clear HI
        go_wp2_with fail
        refine (Tryz.Builder_String_any w1.heap.size w1.heap.size (textL l) wr (unhide HIF) hsz).mono ?_
        rintro e w2 ⟨rfl, hb⟩
        have HB5 := hide ((unhide HB).trans (hb.mono hw1))
        clear hb
        go_wp2
        go_ret
        exact ⟨by have e := unhide hrr; subst e; rfl, unhide HB5⟩
end Go.Proofs.YtebaejokhpdbkaaGreatDoor
