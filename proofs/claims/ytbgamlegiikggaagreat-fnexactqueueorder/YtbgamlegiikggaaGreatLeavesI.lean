/-
  The names of the leaves: what the program's leaves answers; a walk over the dump.
-/
import Derived.Test.YtbgamlegiikggaaGreatStvM
import Derived.Test.YtbgamlegiikggaaGreatPackC
import Derived.Test.YtbgamlegiikggaaGreatClone
import Derived.Laws.AppendOwn
namespace Go.Proofs.YtbgamlegiikggaaGreat
open Go.RowKit
set_option linter.unusedVariables false

theorem texts_nil (B : Nat) (w : World) : Texts B w (.slice none 0 0) [] := World.ownsRow_nil _ _ _ _
theorem Texts.open {B : Nat} {w : World} {v : Value} {ps : List (List UInt8)} (h : Texts B w v ps) : ∃ ao cap, v = .slice ao ps.length cap ∧ ∀ j (hj : j < ps.length), ∃ g, ao = some ⟨g, 0, none⟩ ∧ w.cell? ⟨g, j, none⟩ = some (.string (bs ps[j])) := by
  by_cases hp : ps = []
  · subst hp
    obtain ⟨a, c, rfl⟩ := texts_none h
    exact ⟨a, c, rfl, fun j hj => by simp at hj⟩
  · obtain ⟨g, c, rfl, hs, _⟩ := texts_some h hp
    exact ⟨_, c, rfl, fun j hj => ⟨g, rfl, hs.text hj⟩⟩

set_option maxRecDepth 100000 in
set_option maxHeartbeats 4000000 in
theorem leaves_any (ao : Option Addr) (len cap : Nat) (l : List Q) (w : World) (h : QRow w ao len l) (hl : len ≤ 1048576) (hn : ∀ q ∈ l, q.name.length ≤ 1048576) (hc : len ≤ cap) :
    Calls Tryz.prog 27 #[.slice ao len cap] w fun e w' => ∃ v, e = .returned v ∧ Texts w.heap.size w' v (leavesOf l) ∧ Below w.heap.size w w' := by
  obtain ⟨i0, hi, hz0, hz1, hz2⟩ := info_parts Tryz.infoS
  have HR := hide h
  have HL := hide h.1
  have HN := hide hn
  have CQ := hide (implQueuesOk_any ao len cap l w h hl hn hc)
  have CL := hide (fun x wx (hb : Below w.heap.size w wx) => lone_any ao len cap l x wx (h.below hb) hl)
  have HLF := hide (fun x => leaf_lone l x)
  obtain ⟨ok, hok⟩ : ∃ ok, queuesOk l = ok := ⟨_, rfl⟩
  rw [hok] at CQ HLF
  have HOK := hide hok
  clear h hn hok
  go_enter Tryz.func27, Tryz.ntmps27
  go_wp2_with fail
  refine (unhide CQ).mono ?_
  rintro e w1 ⟨rfl, hb⟩
  have HB1 := hide hb
  clear hb CQ
  cases ok
  case false =>
    go_wp2
    go_ret
    exact ⟨_, rfl, by rw [leavesOf_bad (unhide HOK)]; exact texts_nil _ _, unhide HB1⟩
  go_wp2
  go_loopw [3, 5, 11] (fun v _ i wr => ∃ (k : Nat) (o : List ByteArray), k ≤ len ∧ i = .int .i64 k ∧ o.length ≤ k ∧ Hid (o = (((l.take k).map Q.name).filter (leaf l)).map bs) ∧ Hid (wr.ownsRow w.heap.size 9 1 v o.length (scells o)) ∧ Hid (Below w.heap.size w wr)) (fun _ _ i _ => len - (intOf i).toNat)
  case atStart => exact ⟨0, [], Nat.zero_le _, rfl, Nat.le_refl _, hide (by simp), hide (World.ownsRow_nil _ _ _ _), HB1⟩
  case round =>
    obtain ⟨k, o, hk, rfl, hol, HO, HS, HB⟩ := hrel
    by_cases hlt : k < len
    · have HR2 := hide ((unhide HR).below (unhide HB))
      obtain ⟨b, off, rfl, hq⟩ := (unhide HR2).at hlt
      have hkl : k < l.length := by have := unhide HL; omega
      obtain ⟨c0, c1, c2, c3⟩ := hq hkl
      have hz := unhide HN l[k] (List.getElem_mem _)
      have htk := List.take_succ_eq_append_getElem hkl
      clear hq
      obtain ⟨⟨nm, pa, du, mo⟩, hs⟩ : ∃ s, l[k] = s := ⟨_, rfl⟩
      rw [hs] at c0 c1 c2 c3 hz htk
      simp only at c0 c1 c2 c3 hz
      have HTK := hide htk
      have HA := hide (QBox.new wr ⟨nm, pa, du, mo⟩)
      have HB2 := hide (below_al (unhide HB) (qobj ⟨nm, pa, du, mo⟩))
      have HS2 := hide ((unhide HS).alloc (qobj ⟨nm, pa, du, mo⟩))
      obtain ⟨f, hf⟩ : ∃ f, lone l nm = f := ⟨_, rfl⟩
      have CL1 := hide (fun wx hb => by have := unhide CL nm wx hb; rw [hf] at this; exact this)
      have HLF1 := hide (show leaf l nm = f by rw [unhide HLF, hf]; rfl)
      have hsz : (bs nm).size ≤ 281474976710656 := by rw [bs_size]; omega
      have k0 := (unhide HA).c0
      simp only at k0
      clear hs hkl hf htk hz HR2
      go_wp2_with fail
      refine (unhide CL1 _ (unhide HB2)).mono ?_
      rintro e w2 ⟨rfl, hb⟩
      have HA3 := hide ((unhide HA).below hb)
      have HB3 := hide (below_on (unhide HB2) hb)
      have HS3 := hide (sown_below (unhide HS2) hb)
      clear hb HA HB2 HS2 k0 HB HS
      cases f with
      | false =>
        go_wp2
        go_roundw
        case rel => exact ⟨k + 1, o, by omega, by go_num, by omega, hide (by rw [unhide HTK, List.map_append, List.filter_append]; simp only [List.map_cons, List.map_nil, List.filter_cons, unhide HLF1, List.filter_nil]; rw [if_neg (by simp), List.append_nil]; exact unhide HO), HS3, HB3⟩
        case measure => simp [intOf]; omega
      | true =>
        have k0 := (unhide HA3).c0
        simp only at k0
        go_wp2_with fail
        refine (clone_any (bs nm) _ hsz).mono ?_
        rintro e w3 ⟨rfl, hb⟩
        have hown := sown_below (unhide HS3) hb
        have hbel := below_on (unhide HB3) hb
        have hwz := hbel.size
        clear hb HA3 HB3 HS3 k0
        go_wp2_with (at_builtin; refine wpList_append_own _ rfl _ _ 29 rfl w.heap.size 9 i0 (.string ByteArray.empty) 1 16 Tryz.underlying29 hi hz0 hz1 hz2 rfl (by decide) _ _ _ rfl (hown.alloc _) ⟨w3.heap.size, 0, none⟩ 1 1 [.string (bs nm)] rfl rfl ?c1 ?c2 ?c3 ?c4 ?c5 ?_)
        case c1 => intro j v hj; match j, hj with | 0, hj => simp at hj; subst hj; simp [Addr.add]
        case c2 => intro v hv; simp at hv; subst hv; rfl
        case c3 => unfold maxLen; omega
        case c4 => omega
        case c5 => simp; omega
        intro v' w4 hown' hgrow _
        have R := hide (srow_step hbel hown hown' hgrow (by omega))
        clear hown' hgrow hown hbel
        go_wp2
        go_roundw
        case rel => exact ⟨k + 1, o ++ [bs nm], by omega, by go_num, by simp; omega, hide (by rw [unhide HTK, List.map_append, List.filter_append]; simp only [List.map_cons, List.map_nil, List.filter_cons, unhide HLF1, List.filter_nil]; rw [if_pos (by first | rfl | trivial), List.map_append, ← unhide HO]; rfl), hide (unhide R).1, hide (unhide R).2⟩
        case measure => simp [intOf]; omega
    · have hkk : k = len := by omega
      subst hkk
      go_wp2
      go_ret
      refine ⟨_, rfl, Texts.of (unhide HS) ?_, unhide HB⟩
      rw [unhide HO, List.take_of_length_le (by have := unhide HL; omega)]
      rfl
end Go.Proofs.YtbgamlegiikggaaGreat
