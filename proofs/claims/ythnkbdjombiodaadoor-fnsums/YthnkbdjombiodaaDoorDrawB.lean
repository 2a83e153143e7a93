/-
  Texts of so many bytes, drawn; lists of ints; walks over the dump.
-/
import Derived.Test.YthnkbdjombiodaaDoorDraw2
import Derived.Test.YthnkbdjombiodaaDoorBytes
namespace Go.Proofs.YthnkbdjombiodaaDoor
open Go.RowKit
set_option linter.unusedVariables false

theorem own_str' {w1 : World} {B : Nat} {v : Value} {l : List UInt8} (h : w1.ownsRow B 5 1 v l.length (cells l)) (hv : v ≠ .slice none 0 0) :
    (convert 40 9 v).run Tryd.prog w1 = .ok (.string (bs l)) w1 := by
  rcases h.2 with ⟨h0, _⟩ | ⟨g, cap, cur, rfl, _⟩
  · exact absurd h0 hv
  · exact run_convert_bytes_back w1 40 9 5 ⟨g, 0, none⟩ cap l Tryd.underlying40 Tryd.underlying5 Tryd.underlying9 (fun j hj => by
      have := h.cellAt j (by omega)
      rw [Lib.add_plain, Nat.zero_add, this]
      simp [cells, hj])
theorem St.appended {w0 w w1 : World} {B g : Nat} {ao : Option Addr} {len cap : Nat} {o : Obj} {v : Value} {b n : Nat} {xs : List Value} {t : TypeId} (h : St w0 B g ao len cap w) (hown : w.ownsRow b t 1 v n xs) (hg : (w.alloc o).grownBy w1 v.ownBlock) (hb : w0.heap.size ≤ b) (hgb : g < b) : St w0 B g ao len cap w1 := by
  have ha := h.alloc o
  have hne : ∀ k, v.ownBlock = some k → b ≤ k := by
    intro k hk
    rcases hown.2 with ⟨rfl, _⟩ | ⟨q, c, cur, rfl, hq, _⟩
    · simp [Value.ownBlock] at hk
    · simp [Value.ownBlock] at hk; omega
  have hsz : b ≤ (w.alloc o).heap.size ∨ v.ownBlock = none := by
    rcases hown.2 with ⟨rfl, _⟩ | ⟨q, c, cur, rfl, hq, hh, _⟩
    · exact .inr rfl
    · have := lt_of_block hh
      exact .inl (by simp; omega)
  have hbw : ∀ k, k < b → k < (w.alloc o).heap.size → w1.heap[k]? = (w.alloc o).heap[k]? := fun k hk hs => hg.block k hs (fun e => by have := hne k e.symm; omega)
  refine ⟨?_, ?_, ?_, h.2.2.2⟩
  · obtain ⟨i, x, h1, h2⟩ := ha.1
    exact ⟨i, x, (hbw g hgb ha.1.lt).trans h1, h2⟩
  · refine ⟨Nat.le_trans ha.2.1.1 hg.size, ha.2.1.2.1, ?_⟩
    rcases ha.2.1.2.2 with h0 | ⟨q, off, zs, h1, h2, h3, h4⟩
    · exact .inl h0
    · exact .inr ⟨q, off, zs, h1, h2, fun j hj => (World.cell?_of_block (w := w.alloc o) (a := ⟨q, off + j, none⟩) (hbw q (by have := h.2.2.2; omega) (by have := ha.2.1.1; omega))).trans (h3 j hj), h4⟩
  · have hw := ha.2.2.1
    exact ⟨hg.os.trans hw.os, hg.tape.trans hw.tape, hg.output.trans hw.output, Nat.le_trans hw.size hg.size, fun k hk hn => (hbw k (by omega) (Nat.lt_of_lt_of_le hk hw.size)).trans (hw.block k hk hn)⟩

set_option maxRecDepth 100000 in
set_option maxHeartbeats 1000000 in
theorem bytes_st {w0 : World} {B g : Nat} {ao : Option Addr} {len cap : Nat} (n : Nat) (w : World) (h : St w0 B g ao len cap w) (hn : n ≤ 3000) :
    Calls Tryd.prog 41 #[.pointer (some ⟨g, 0, none⟩), .int .i64 (n : Int)] w fun e w' => ∃ s : ByteArray, e = .returned (.string s) ∧ s.size = n ∧ St w0 B g ao len cap w' := by
  obtain ⟨i0, hi, hz0, hz1, hz2⟩ := info_parts Tryd.info5
  have hw0 : w0.heap.size ≤ w.heap.size := h.2.2.1.size
  have hgl : g < w.heap.size := h.1.lt
  have HS := hide h
  clear h
  go_enter Tryd.func41, Tryd.ntmps41
  go_wp2
  go_loopw [5, 6] (fun v i wr => ∃ l : List UInt8, l.length ≤ n ∧ i = .int .i64 (l.length : Int) ∧ wr.ownsRow w.heap.size 5 1 v l.length (cells l) ∧ v ≠ .slice none 0 0 ∧ w.heap.size ≤ wr.heap.size ∧ St w0 B g ao len cap wr) (fun _ i _ => n - (intOf i).toNat)
  case atStart => exact ⟨[], Nat.zero_le _, rfl, own_empty w 5, by simp, by simp, (unhide HS).alloc _⟩
  case round =>
    obtain ⟨l, hl, rfl, hown, hnn, hsz, hst⟩ := hrel
    have HST := hide hst
    have HNN := hide hnn
    clear hst hnn
    by_cases hlt : l.length < n
    · go_wp2_with fail
      refine (below_st 256 _ (unhide HST) (by decide) (by decide)).mono ?_
      rintro e w1 ⟨x, rfl, hx0, hx1, hs1, hg1⟩
      obtain ⟨X, rfl⟩ := Int.eq_ofNat_of_zero_le hx0
      have hown1 : w1.ownsRow w.heap.size 5 1 _ l.length (cells l) := hown.kept hg1 (by
        rcases hown.2 with ⟨rfl, _⟩ | ⟨q, c, cur, rfl, hq, _⟩
        · exact .inl rfl
        · exact .inr (by simp [Value.ownBlock]; omega))
      have hsz1 : w.heap.size ≤ w1.heap.size := Nat.le_trans hsz hg1.size
      have HS1 := hide hs1
      have hxx : Hid (((UInt8.ofNat X).toNat : Int) = (X : Int)) := hide (byteOf X (by omega))
      clear hs1 hg1 hown
      go_wp2_with (at_builtin; refine wpList_append_own _ rfl _ _ 40 rfl w.heap.size 5 i0 (.int .u8 0) 1 1 Tryd.underlying40 hi hz0 hz1 hz2 rfl (by decide) _ _ _ rfl (hown1.alloc _) ⟨w1.heap.size, 0, none⟩ 1 1 [.int .u8 (X : Int)] rfl rfl ?c1 ?c2 ?c3 ?c4 ?c5 ?_)
      case c1 => intro j v hj; match j, hj with | 0, hj => simp at hj; subst hj; simp [Addr.add]
      case c2 => intro v hv; simp at hv; subst hv; rfl
      case c3 => unfold maxLen; omega
      case c4 => omega
      case c5 => simp; omega
      intro v' w2 hown2 hgrow hnil
      have hst2 := (unhide HS1).appended hown1 hgrow hw0 hgl
      have hown3 : w2.ownsRow w.heap.size 5 1 v' (l ++ [UInt8.ofNat X]).length (cells (l ++ [UInt8.ofNat X])) := by
        rw [cells_snoc l (UInt8.ofNat X) X (unhide hxx)] at hown2; simpa using hown2
      have hnn2 : v' ≠ .slice none 0 0 := hnil
      have hsz2 : w.heap.size ≤ w2.heap.size := by have := hgrow.size; simp at this; omega
      have R := hide (And.intro hown3 (And.intro hnn2 (And.intro hsz2 hst2)))
      clear hown2 hgrow hnil hown1 hst2 hown3 hnn2
      go_wp2
      go_roundw
      case rel => exact ⟨l ++ [UInt8.ofNat X], by simp; omega, by simp, (unhide R).1, (unhide R).2.1, (unhide R).2.2.1, (unhide R).2.2.2⟩
      case measure => simp [intOf]; omega
    · have hc := own_str' hown (unhide HNN)
      have he : Hid (l.length = n) := hide (by omega)
      clear hown
      go_wp2
      go_ret
      exact ⟨bs l, rfl, by rw [bs_size]; exact unhide he, unhide HST⟩

theorem bytes_int {w0 : World} {B g : Nat} {ao : Option Addr} {len cap : Nat} (x : Int) (w : World) (h : St w0 B g ao len cap w) (h0 : 0 ≤ x) (h1 : x ≤ 3000) :
    Calls Tryd.prog 41 #[.pointer (some ⟨g, 0, none⟩), .int .i64 x] w fun e w' => ∃ s : ByteArray, e = .returned (.string s) ∧ (s.size : Int) = x ∧ St w0 B g ao len cap w' := by
  obtain ⟨n, rfl⟩ := Int.eq_ofNat_of_zero_le h0
  exact (bytes_st n w h (by omega)).mono fun e w' ⟨s, h1, h2, h3⟩ => ⟨s, h1, by rw [h2], h3⟩
end Go.Proofs.YthnkbdjombiodaaDoor
