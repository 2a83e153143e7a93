/-
  The queue, its parent, and so on up to the first one: what the model's Path answers; a walk over the dump.
-/
import Derived.Test.YtebaejokhpdbkaaGreatDoorPackC
import Derived.Test.YtebaejokhpdbkaaGreatDoorQueuesOkS
import Derived.Test.YtebaejokhpdbkaaGreatDoorPackD
namespace Go.Proofs.YtebaejokhpdbkaaGreatDoor
open Go.RowKit
set_option linter.unusedVariables false

set_option maxRecDepth 100000 in
set_option maxHeartbeats 2000000 in
theorem specPath_any (ao : Option Addr) (len cap : Nat) (l : List Q) (nm : List UInt8) (w : World) (h : QRow w ao len l) (hl : len ≤ 1048576) (hn : ∀ q ∈ l, q.name.length ≤ 1048576) :
    Calls Tryz.prog 13 #[.slice ao len cap, .string (bs nm)] w fun e w' => ∃ v, e = .returned v ∧ Texts w.heap.size w' v (path l nm) ∧ Below w.heap.size w w' := by
  obtain ⟨i0, hi, hz0, hz1, hz2⟩ := info_parts Tryz.infoS
  have HR := hide h
  have HL := hide h.1
  have hlw := h.1
  have CQ := hide (fun wx (hb : Below w.heap.size w wx) => specQueuesOk_any ao len cap l wx (h.below hb) hl hn)
  have CP := hide (fun (x : List UInt8) wx (hb : Below w.heap.size w wx) => l03Place_any ao len cap l x wx (h.below hb) hl)
  obtain ⟨p0, hp0⟩ : ∃ p, place l nm = p := ⟨_, rfl⟩
  have hpr : p0 = -1 ∨ (0 ≤ p0 ∧ p0 < len) := by have := place_range l nm; rw [hp0] at this; omega
  have HP0 := hide hp0
  have CP0 := hide (by have := (unhide CP) nm (w.alloc (.cells #[] 9)) (below_al (Below.refl _ _) _); rw [hp0] at this; exact this)
  obtain ⟨ok, hok⟩ : ∃ ok, queuesOk l = ok := ⟨_, rfl⟩
  rw [hok] at CQ
  have HOK := hide hok
  have HS0 := hide (sown_empty w)
  clear h hn hp0 hok hlw
  go_enter Tryz.func13, Tryz.ntmps13
  go_wp2_with fail
  refine (unhide CP0).mono ?_
  rintro e w1 ⟨rfl, rfl⟩
  clear CP0
  go_wp2
  go_loopw [5, 6] (fun v i wr => ∃ (p : Int) (o : List ByteArray), i = .int .i64 p ∧ (p = -1 ∨ (0 ≤ p ∧ p < len)) ∧ o.length + p < len + 1 ∧ Hid (ok = true → o ++ (pathAt l (l.length + 1) p).map bs = (path l nm).map bs) ∧ Hid (ok = false → o = []) ∧ Hid (wr.ownsRow w.heap.size 9 1 v o.length (scells o)) ∧ Hid (Below w.heap.size w wr)) (fun _ i _ => (intOf i + 1).toNat)
  case atStart =>
    refine ⟨p0, [], rfl, hpr, by simp; omega, hide (fun e => ?_), hide (fun _ => rfl), HS0, hide (below_al (Below.refl _ _) _)⟩
    rw [path, unhide HOK, e, if_pos rfl, unhide HP0]; rfl
  case round =>
    obtain ⟨p, o, rfl, hp, ho, HO, HE, HS, HB⟩ := hrel
    by_cases h0 : 0 ≤ p
    · obtain ⟨k, rfl⟩ : ∃ k : Nat, p = k := ⟨p.toNat, by omega⟩
      have hlt : k < len := by omega
      cases ok with
      | false =>
        go_wp2_with fail
        refine (unhide CQ _ (unhide HB)).mono ?_
        rintro e w2 ⟨rfl, hb⟩
        have HB2 := hide (below_on (unhide HB) hb)
        have HS2 := hide (sown_below (unhide HS) hb)
        clear hb
        go_wp2
        go_ret
        refine ⟨_, rfl, Texts.of (unhide HS2) ?_, unhide HB2⟩
        rw [unhide HE (by first | rfl | trivial), show path l nm = [] by rw [path, unhide HOK]; rfl]
        rfl
      | true =>
        have hkl : k < l.length := by have := unhide HL; omega
        have hahead := parent_ahead (unhide HOK) hkl
        have hstep := path_step (unhide HOK) hkl (n := l.length + 1) (by omega)
        obtain ⟨b, off, rfl, hq⟩ := (unhide HR).at hlt
        have hqq := hq hkl
        obtain ⟨q, hs⟩ : ∃ q, l[k] = q := ⟨_, rfl⟩
        rw [hs] at hqq hahead hstep
        obtain ⟨pn, hpn⟩ : ∃ p, place l q.parent = p := ⟨_, rfl⟩
        have hpr2 : pn = -1 ∨ (0 ≤ pn ∧ pn < len) := by have := place_range l q.parent; rw [hpn] at this; have := unhide HL; omega
        rw [hpn] at hahead hstep
        have HQQ := hide hqq
        have HST := hide hstep
        have HPN := hide hpn
        clear hq hqq hs hkl hstep hpn
        go_wp2_with fail
        refine (unhide CQ _ (unhide HB)).mono ?_
        rintro e w2 ⟨rfl, hb⟩
        have hown := sown_below (unhide HS) hb
        have hbel := below_on (unhide HB) hb
        have HC := hide ((unhide HQQ).below hbel)
        have c0 := (unhide HC).1
        have hsz := hbel.size
        have hol : o.length ≤ 1048576 := by omega
        clear hb HS HB CQ
        go_wp2_with (at_builtin; refine wpList_append_own _ rfl _ _ 27 rfl w.heap.size 9 i0 (.string ByteArray.empty) 1 16 Tryz.underlying27 hi hz0 hz1 hz2 rfl (by decide) _ _ _ rfl (hown.alloc _) ⟨w2.heap.size, 0, none⟩ 1 1 [.string (bs q.name)] rfl rfl ?c1 ?c2 ?c3 ?c4 ?c5 ?_)
        case c1 => intro j v hj; match j, hj with | 0, hj => simp at hj; subst hj; simp [Addr.add]
        case c2 => intro v hv; simp at hv; subst hv; rfl
        case c3 => unfold maxLen; omega
        case c4 => omega
        case c5 => simp; omega
        intro v' w3 hown' hgrow _
        have R := srow_step hbel hown hown' hgrow (by omega)
        have HR3 := hide R
        have c1 := (show QAt w3 b (off + k * 4) q from (unhide HQQ).below R.2).2.1
        clear hown' hgrow hown hbel c0 R HC
        go_wp2_with fail
        refine (unhide CP q.parent _ (unhide HR3).2).mono ?_
        rintro e w4 ⟨rfl, rfl⟩
        rw [unhide HPN]
        go_wp2
        go_roundw
        case rel => exact ⟨pn, o ++ [bs q.name], rfl, hpr2, by simp; omega, hide (fun _ => by have := unhide HO (by first | rfl | trivial); rw [unhide HST] at this; simpa using this), hide (fun e => by cases e), hide (unhide HR3).1, hide (unhide HR3).2⟩
        case measure => simp [intOf]; omega
    · have hp1 : p = -1 := by omega
      subst hp1
      go_wp2
      go_ret
      refine ⟨_, rfl, Texts.of (unhide HS) ?_, unhide HB⟩
      cases ok with
      | true =>
        have := unhide HO (by first | rfl | trivial)
        rw [path_end (by omega)] at this
        simpa using this
      | false =>
        rw [unhide HE (by first | rfl | trivial), show path l nm = [] by rw [path, unhide HOK]; rfl]
        rfl
end Go.Proofs.YtebaejokhpdbkaaGreatDoor
