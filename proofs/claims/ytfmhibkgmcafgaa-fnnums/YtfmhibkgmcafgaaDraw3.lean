/-
  Texts and numbers drawn for the first chapter; walks over the dump.
-/
import Derived.Test.YtfmhibkgmcafgaaDraw2
import Derived.Test.YtfmhibkgmcafgaaPutS
namespace Go.Proofs.Ytfmhibkgmcafgaa
open Go.RowKit
set_option linter.unusedVariables false

theorem own_str' {w1 : World} {B : Nat} {v : Value} {l : List UInt8} (h : w1.ownsRow B 5 1 v l.length (cells l)) (hv : v ≠ .slice none 0 0) :
    (convert 22 9 v).run Try.prog w1 = .ok (.string (bs l)) w1 := by
  rcases h.2 with ⟨h0, _⟩ | ⟨g, cap, cur, rfl, _⟩
  · exact absurd h0 hv
  · exact run_convert_bytes_back w1 22 9 5 ⟨g, 0, none⟩ cap l Try.underlying22 Try.underlying5 Try.underlying9 (fun j hj => by
      have := h.cellAt j (by omega)
      rw [Lib.add_plain, Nat.zero_add, this]
      simp [cells, hj])
theorem St.appended {w0 w w1 : World} {B g : Nat} {ao : Option Addr} {len cap : Nat} {o : Obj} {v : Value} {b n : Nat} {xs : List Value} {t : TypeId} (h : St w0 B g ao len cap w) (hown : w.ownsRow b t 1 v n xs) (hg : (w.alloc o).grownBy w1 v.ownBlock) (hb : w0.heap.size ≤ b) (hgb : g < b) : St w0 B g ao len cap w1 := by
  have ha := h.alloc o
  have hne : ∀ k, v.ownBlock = some k → b ≤ k := by
    intro k hk
    rcases hown.2 with ⟨rfl, _⟩ | ⟨q, c, cur, rfl, hq, _⟩
    · simp [Value.ownBlock] at hk
    · simp [Value.ownBlock] at hk; omega
  have hsz : b ≤ (w.alloc o).heap.size ∨ v.ownBlock = none := by
    rcases hown.2 with ⟨rfl, _⟩ | ⟨q, c, cur, rfl, hq, hh, _⟩
    · exact .inr rfl
    · have := lt_of_block hh
      exact .inl (by simp; omega)
  have hbw : ∀ k, k < b → k < (w.alloc o).heap.size → w1.heap[k]? = (w.alloc o).heap[k]? := fun k hk hs => hg.block k hs (fun e => by have := hne k e.symm; omega)
  refine ⟨?_, ?_, ?_, h.2.2.2⟩
  · obtain ⟨i, x, h1, h2⟩ := ha.1
    exact ⟨i, x, (hbw g hgb ha.1.lt).trans h1, h2⟩
  · refine ⟨Nat.le_trans ha.2.1.1 hg.size, ha.2.1.2.1, ?_⟩
    rcases ha.2.1.2.2 with h0 | ⟨q, off, zs, h1, h2, h3, h4⟩
    · exact .inl h0
    · exact .inr ⟨q, off, zs, h1, h2, fun j hj => (World.cell?_of_block (w := w.alloc o) (a := ⟨q, off + j, none⟩) (hbw q (by have := h.2.2.2; omega) (by have := ha.2.1.1; omega))).trans (h3 j hj), h4⟩
  · have hw := ha.2.2.1
    exact ⟨hg.os.trans hw.os, hg.tape.trans hw.tape, hg.output.trans hw.output, Nat.le_trans hw.size hg.size, fun k hk hn => (hbw k (by omega) (Nat.lt_of_lt_of_le hk hw.size)).trans (hw.block k hk hn)⟩

set_option maxRecDepth 100000 in
set_option maxHeartbeats 1000000 in
theorem bytes_st {w0 : World} {B g : Nat} {ao : Option Addr} {len cap : Nat} (n : Nat) (w : World) (h : St w0 B g ao len cap w) (hn : n ≤ 3000) :
    Calls Try.prog 20 #[.pointer (some ⟨g, 0, none⟩), .int .i64 (n : Int)] w fun e w' => ∃ s : ByteArray, e = .returned (.string s) ∧ s.size = n ∧ St w0 B g ao len cap w' := by
  obtain ⟨i0, hi, hz0, hz1, hz2⟩ := info_parts Try.info5
  have hw0 : w0.heap.size ≤ w.heap.size := h.2.2.1.size
  have hgl : g < w.heap.size := h.1.lt
  have HS := hide h
  clear h
  go_enter Try.func20, Try.ntmps20
  go_wp2
  go_loopw [5, 6] (fun v i wr => ∃ l : List UInt8, l.length ≤ n ∧ i = .int .i64 (l.length : Int) ∧ wr.ownsRow w.heap.size 5 1 v l.length (cells l) ∧ v ≠ .slice none 0 0 ∧ w.heap.size ≤ wr.heap.size ∧ St w0 B g ao len cap wr) (fun _ i _ => n - (intOf i).toNat)
  case atStart => exact ⟨[], Nat.zero_le _, rfl, own_empty w 5, by simp, by simp, (unhide HS).alloc _⟩
  case round =>
    obtain ⟨l, hl, rfl, hown, hnn, hsz, hst⟩ := hrel
    have HST := hide hst
    have HNN := hide hnn
    clear hst hnn
    by_cases hlt : l.length < n
    · go_wp2_with fail
      refine (below_st 256 _ (unhide HST) (by decide) (by decide)).mono ?_
      rintro e w1 ⟨x, rfl, hx0, hx1, hs1, hg1⟩
      obtain ⟨X, rfl⟩ := Int.eq_ofNat_of_zero_le hx0
      have hown1 : w1.ownsRow w.heap.size 5 1 _ l.length (cells l) := hown.kept hg1 (by
        rcases hown.2 with ⟨rfl, _⟩ | ⟨q, c, cur, rfl, hq, _⟩
        · exact .inl rfl
        · exact .inr (by simp [Value.ownBlock]; omega))
      have hsz1 : w.heap.size ≤ w1.heap.size := Nat.le_trans hsz hg1.size
      have HS1 := hide hs1
      have hxx : Hid (((UInt8.ofNat X).toNat : Int) = (X : Int)) := hide (byteOf X (by omega))
      clear hs1 hg1 hown
      go_wp2_with (at_builtin; refine wpList_append_own _ rfl _ _ 22 rfl w.heap.size 5 i0 (.int .u8 0) 1 1 Try.underlying22 hi hz0 hz1 hz2 rfl (by decide) _ _ _ rfl (hown1.alloc _) ⟨w1.heap.size, 0, none⟩ 1 1 [.int .u8 (X : Int)] rfl rfl ?c1 ?c2 ?c3 ?c4 ?c5 ?_)
      case c1 => intro j v hj; match j, hj with | 0, hj => simp at hj; subst hj; simp [Addr.add]
      case c2 => intro v hv; simp at hv; subst hv; rfl
      case c3 => unfold maxLen; omega
      case c4 => omega
      case c5 => simp; omega
      intro v' w2 hown2 hgrow hnil
      have hst2 := (unhide HS1).appended hown1 hgrow hw0 hgl
      have hown3 : w2.ownsRow w.heap.size 5 1 v' (l ++ [UInt8.ofNat X]).length (cells (l ++ [UInt8.ofNat X])) := by
        rw [cells_snoc l (UInt8.ofNat X) X (unhide hxx)] at hown2; simpa using hown2
      have hnn2 : v' ≠ .slice none 0 0 := hnil
      have hsz2 : w.heap.size ≤ w2.heap.size := by have := hgrow.size; simp at this; omega
      have R := hide (And.intro hown3 (And.intro hnn2 (And.intro hsz2 hst2)))
      clear hown2 hgrow hnil hown1 hst2 hown3 hnn2
      go_wp2
      go_roundw
      case rel => exact ⟨l ++ [UInt8.ofNat X], by simp; omega, by simp, (unhide R).1, (unhide R).2.1, (unhide R).2.2.1, (unhide R).2.2.2⟩
      case measure => simp [intOf]; omega
    · have hc := own_str' hown (unhide HNN)
      have he : Hid (l.length = n) := hide (by omega)
      clear hown
      go_wp2
      go_ret
      exact ⟨bs l, rfl, by rw [bs_size]; exact unhide he, unhide HST⟩

theorem putNum_le5 (x : Int) : (putNum x).length ≤ 5 := by
  rw [putNum]
  split
  · exact put_le5 (by omega)
  · simp
theorem bytes_int {w0 : World} {B g : Nat} {ao : Option Addr} {len cap : Nat} (x : Int) (w : World) (h : St w0 B g ao len cap w) (h0 : 0 ≤ x) (h1 : x ≤ 3000) :
    Calls Try.prog 20 #[.pointer (some ⟨g, 0, none⟩), .int .i64 x] w fun e w' => ∃ s : ByteArray, e = .returned (.string s) ∧ (s.size : Int) = x ∧ St w0 B g ao len cap w' := by
  obtain ⟨n, rfl⟩ := Int.eq_ofNat_of_zero_le h0
  exact (bytes_st n w h (by omega)).mono fun e w' ⟨s, h1, h2, h3⟩ => ⟨s, h1, by rw [h2], h3⟩
theorem ints_alloc (w : World) (t : TypeId) (zs : List Int) (h : zs.all (fun z => decide (-9223372036854775808 ≤ z) && decide (z ≤ 9223372036854775807)) = true) : Ints (w.alloc (.cells (zs.map (Value.int .i64)).toArray t)) w.heap.size zs.length := by
  refine ⟨by simp, fun j hj => ⟨zs[j], ?_, ?_⟩⟩
  · rw [World.cell?_alloc_mark]; simp [hj]
  · have := List.all_eq_true.1 h zs[j] (List.getElem_mem hj)
    simpa using this

set_option maxRecDepth 100000 in
set_option maxHeartbeats 1000000 in
theorem num_st {w0 : World} {B g : Nat} {ao : Option Addr} {len cap : Nat} (w : World) (h : St w0 B g ao len cap w) :
    Calls Try.prog 17 #[.pointer (some ⟨g, 0, none⟩)] w fun e w' => ∃ x : Int, e = .returned (.int .i64 x) ∧ -9223372036854775808 ≤ x ∧ x ≤ 9223372036854775807 ∧ St w0 B g ao len cap w' := by
  have HS := hide h
  clear h
  go_enter Try.func17, Try.ntmps17
  go_wp2_with fail
  refine (once_st 3 _ (unhide HS) (by decide) (by decide)).mono ?_
  rintro e w1 ⟨x, rfl, hs1⟩
  have HS1 := hide hs1
  have hne : Hid (w1.heap.size ≠ g) := hide (by have := hs1.1.lt; omega)
  clear hs1
  cases x with
  | true =>
    have hq := hide (ints_alloc w1 3 [0, 127, 128, 16383, 16384, 1000000000, 1000000001, 4000000000, 4000000001, -1, 9223372036854775807] (by decide))
    go_wp2_with fail
    refine (pick_st w1.heap.size 11 11 _ ((unhide HS1).alloc _) (unhide hq) (unhide hne) (by decide) (by decide)).mono ?_
    rintro e w2 ⟨x, rfl, hx0, hx1, hs2⟩
    have HS2 := hide hs2
    clear hs2
    go_wp2
    go_ret
    exact ⟨x, rfl, hx0, hx1, unhide HS2⟩
  | false =>
    go_wp2_with fail
    refine (below_st 1000 _ (unhide HS1) (by decide) (by decide)).mono ?_
    rintro e w2 ⟨x, rfl, hx0, hx1, hs2, _⟩
    have HS2 := hide hs2
    clear hs2
    go_wp2
    go_ret
    exact ⟨x, rfl, by omega, by omega, unhide HS2⟩

set_option maxHeartbeats 400000 in
theorem drawPutNum_any (B : Nat) (ao : Option Addr) (len cap : Nat) (w : World) (hcode : Code w B ao len) :
    Calls Try.prog 5 #[.slice ao len cap] w fun e w' => ∃ x : Int, e = .returned (.int .i64 x) ∧ -9223372036854775808 ≤ x ∧ x ≤ 9223372036854775807 ∧ Below w.heap.size w w' := by
  have HK := hide hcode
  clear hcode
  go_enter Try.func5, Try.ntmps5
  go_wp2_with fail
  refine (new_st B ao len cap _ (unhide HK)).mono ?_
  rintro e w1 ⟨rfl, hs1⟩
  have HS1 := hide hs1
  clear hs1
  go_wp2_with fail
  refine (num_st _ (unhide HS1)).mono ?_
  rintro e w2 ⟨x, rfl, hx0, hx1, hs2⟩
  have HB := hide (hs2.done (Nat.le_refl _))
  clear hs2
  go_wp2
  go_ret
  exact ⟨x, rfl, hx0, hx1, unhide HB⟩

set_option maxRecDepth 100000 in
set_option maxHeartbeats 1000000 in
theorem drawGetNum_any (B : Nat) (ao : Option Addr) (len cap : Nat) (w : World) (hcode : Code w B ao len) :
    Calls Try.prog 7 #[.slice ao len cap] w fun e w' => ∃ (s : ByteArray) (x : Int), e = .returned (.tuple #[.string s, .int .i64 x]) ∧ s.size ≤ 3000 ∧ -9223372036854775808 ≤ x ∧ x ≤ 9223372036854775807 ∧ Below w.heap.size w w' := by
  have HK := hide hcode
  clear hcode
  go_enter Try.func7, Try.ntmps7
  go_wp2_with fail
  refine (new_st B ao len cap _ (unhide HK)).mono ?_
  rintro e w1 ⟨rfl, hs1⟩
  have HS1 := hide hs1
  clear hs1
  go_wp2_with fail
  refine (num_st _ (unhide HS1)).mono ?_
  rintro e w2 ⟨x, rfl, hx0, hx1, hs2⟩
  have HS2 := hide hs2
  clear hs2
  go_wp2_with fail
  refine (specPutNum_any _ _).mono ?_
  rintro e w3 ⟨rfl, hb3⟩
  have HS3 := hide ((unhide HS2).below hb3)
  have hpl : (bs (putNum x)).size ≤ 5 := by rw [bs_size]; exact putNum_le5 x
  have hcs : (ByteArray.mk #[120]).size = 1 := rfl
  have hcs2 : (ByteArray.mk #[121]).size = 1 := rfl
  clear hb3
  go_wp2_with fail
  refine (once_st 3 _ (unhide HS3) (by decide) (by decide)).mono ?_
  rintro e w4 ⟨y, rfl, hs4⟩
  have HS4 := hide hs4
  clear hs4
  cases y with
  | true =>
    go_wp2_with fail
    refine (below_st 7 _ (unhide HS4) (by decide) (by decide)).mono ?_
    rintro e w5 ⟨z, rfl, hz0, hz1, hs5, _⟩
    have HS5 := hide hs5
    clear hs5
    go_wp2_with fail
    refine (bytes_int z _ (unhide HS5) (by omega) (by omega)).mono ?_
    rintro e w6 ⟨s, rfl, hsz, hs6⟩
    have HS6 := hide hs6
    have HSZ := hide hsz
    have hne : Hid (w6.heap.size ≠ w.heap.size) := hide (by have := hs6.1.lt; omega)
    have hq := hide (ints_alloc w6 3 [0, 1, -1, 9] (by decide))
    clear hs6 hsz
    go_wp2_with fail
    refine (pick_st w6.heap.size 4 4 _ ((unhide HS6).alloc _) (unhide hq) (unhide hne) (by decide) (by decide)).mono ?_
    rintro e w7 ⟨x7, rfl, hx70, hx71, hs7⟩
    have HB := hide (hs7.done (Nat.le_refl _))
    clear hs7
    go_wp2
    go_ret2
    exact ⟨s, x7, rfl, by have := unhide HSZ; omega, hx70, hx71, unhide HB⟩
  | false =>
    have HB := hide ((unhide HS4).done (Nat.le_refl _))
    go_wp2
    go_ret2
    exact ⟨_, 1, rfl, by simp only [ByteArray.size_append]; omega, by decide, by decide, unhide HB⟩
end Go.Proofs.Ytfmhibkgmcafgaa
