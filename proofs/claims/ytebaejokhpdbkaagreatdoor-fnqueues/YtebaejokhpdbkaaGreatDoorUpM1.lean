/-
  A queue, its parent, and so on, each looked for ahead of its kid: in plain words, without shares.
-/
import Derived.Test.YtebaejokhpdbkaaGreatDoorPackC
namespace Go.Proofs.YtebaejokhpdbkaaGreatDoor
open Go.RowKit
set_option linter.unusedVariables false

def upsFrom : Nat → List Q → List UInt8 → List Q
  | 0, _, _ => []
  | n + 1, l, nm => if h : 0 ≤ place l nm ∧ (place l nm).toNat < l.length then l[(place l nm).toNat] :: upsFrom n (l.take (place l nm).toNat) l[(place l nm).toNat].parent else []
def ups (l : List Q) (nm : List UInt8) : List Q := upsFrom (l.length + 1) l nm
theorem upsFrom_more : ∀ (n m : Nat) (l : List Q) (nm : List UInt8), l.length < n → l.length < m → upsFrom n l nm = upsFrom m l nm
  | 0, _, _, _, h, _ => by omega
  | _ + 1, 0, _, _, _, h => by omega
  | n + 1, m + 1, l, nm, h1, h2 => by
    rw [upsFrom, upsFrom]
    split
    · rename_i h
      rw [upsFrom_more n m _ _ (by simp; omega) (by simp; omega)]
    · rfl
theorem ups_none {l : List Q} {nm : List UInt8} (h : place l nm < 0) : ups l nm = [] := by
  rw [ups, upsFrom, dif_neg (by omega)]
theorem ups_step {l : List Q} {nm : List UInt8} {k : Nat} (hk : k < l.length) (h : place l nm = k) : ups l nm = l[k] :: ups (l.take k) l[k].parent := by
  rw [ups, upsFrom]
  simp only [h, Int.toNat_natCast]
  rw [dif_pos (by simp; omega), ups, upsFrom_more l.length ((l.take k).length + 1) _ _ (by simp; omega) (by simp)]
theorem ups_len : ∀ (n : Nat) (l : List Q) (nm : List UInt8), (upsFrom n l nm).length ≤ l.length
  | 0, l, nm => by simp [upsFrom]
  | n + 1, l, nm => by
    rw [upsFrom]
    split
    · rename_i h
      have := ups_len n (l.take (place l nm).toNat) l[(place l nm).toNat].parent
      simp at this ⊢
      omega
    · simp
theorem ups_mem : ∀ (n : Nat) (l : List Q) (nm : List UInt8), ∀ q ∈ upsFrom n l nm, q ∈ l
  | 0, l, nm, q, h => by simp [upsFrom] at h
  | n + 1, l, nm, q, h => by
    rw [upsFrom] at h
    split at h
    · rcases List.mem_cons.1 h with rfl | h
      · exact List.getElem_mem _
      · exact List.mem_of_mem_take (ups_mem n _ _ q h)
    · simp at h
theorem placeFrom_take (nm : List UInt8) : ∀ (l : List Q) (k j : Nat), placeFrom nm (l.take j) k = if placeFrom nm l k < ((k + j : Nat) : Int) then placeFrom nm l k else -1
  | [], k, j => by simp [placeFrom]; omega
  | x :: t, k, 0 => by
    rw [List.take_zero, placeFrom]
    rcases placeFrom_range nm (x :: t) k with h | h
    · rw [h, if_pos (by omega)]
    · rw [if_neg (by omega)]
  | x :: t, k, j + 1 => by
    rw [List.take_succ_cons, placeFrom, placeFrom]
    by_cases h : x.name = nm
    · rw [if_pos h, if_pos h, if_pos (by omega)]
    · rw [if_neg h, if_neg h, placeFrom_take nm t (k + 1) j, show k + 1 + j = k + (j + 1) by omega]
theorem place_take (l : List Q) (nm : List UInt8) (j : Nat) : place (l.take j) nm = if place l nm < j then place l nm else -1 := by
  have := placeFrom_take nm l 0 j
  rw [Nat.zero_add] at this
  exact this
/-- in a tree: what is told from the queue at place p on, up to the first one -/
def upAt (l : List Q) : Nat → Int → List Q
  | 0, _ => []
  | n + 1, p => if h : 0 ≤ p ∧ p.toNat < l.length then l[p.toNat] :: upAt l n (place l l[p.toNat].parent) else []
theorem upAt_names (l : List Q) : ∀ (n : Nat) (p : Int), (upAt l n p).map Q.name = pathAt l n p
  | 0, _ => rfl
  | n + 1, p => by
    rw [upAt, pathAt]
    split
    · rw [List.map_cons, upAt_names l n]
    · rfl
theorem upsFrom_upAt {l : List Q} (h : queuesOk l = true) : ∀ (n j : Nat) (nm : List UInt8), place l nm < j → upsFrom n (l.take j) nm = upAt l n (place l nm)
  | 0, _, _, _ => rfl
  | n + 1, j, nm, hj => by
    have hp : place (l.take j) nm = place l nm := by rw [place_take, if_pos hj]
    have hr := place_range l nm
    rw [upsFrom, upAt]
    simp only [hp]
    by_cases h0 : 0 ≤ place l nm
    · rw [dif_pos ⟨h0, by simp; omega⟩, dif_pos ⟨h0, by omega⟩]
      rw [List.getElem_take, List.take_take, show min (place l nm).toNat j = (place l nm).toNat by omega]
      rw [upsFrom_upAt h n _ _ (parent_ahead h (by omega))]
    · rw [dif_neg (by omega), dif_neg (by omega)]
theorem ups_up {l : List Q} (h : queuesOk l = true) (nm : List UInt8) : ups l nm = upAt l (l.length + 1) (place l nm) := by
  have hr := place_range l nm
  have := upsFrom_upAt h (l.length + 1) l.length nm (by omega)
  rwa [List.take_length] at this
theorem ups_path {l : List Q} (h : queuesOk l = true) (nm : List UInt8) : (ups l nm).map Q.name = path l nm := by
  rw [ups_up h, upAt_names, path, h]; rfl
end Go.Proofs.YtebaejokhpdbkaaGreatDoor
