/-
  Several texts of this claim in one: MarkO, CopyN (pack.py put them together); each says in its own remark what is proved.
-/
import Derived.Test.YtgdndekmkaknlaaGreatPackB
import Derived.Test.YtgdndekmkaknlaaGreatPackC
import Derived.Laws.CopyOwn
import Derived.Deep.RegionLaw
import Derived.Deep.AppendLies
/-
  Rows that an answer owns; what the laws' own marks turn in them, and leave alone; walks over the dump.
-/
namespace Go.Proofs.YtgdndekmkaknlaaGreat
open Go.RowKit
set_option linter.unusedVariables false
theorem Cel.type {w : World} {t t' : TypeId} {g N N' : Nat} (h : Cel w t g N) (h' : Cel w t' g N') : t = t' := by
  obtain ⟨a, h1, _⟩ := h
  obtain ⟨b, h2, _⟩ := h'
  rw [h1] at h2
  cases h2
  rfl
/-- of all that was there nothing has turned but cells of the blocks of S -/
structure Mks (S : Nat → Prop) (w w' : World) : Prop where
  os : w'.os = w.os
  tape : w'.tape = w.tape
  output : w'.output = w.output
  size : w.heap.size ≤ w'.heap.size
  block : ∀ k, k < w.heap.size → ¬ S k → w'.heap[k]? = w.heap[k]?
  cel : ∀ t g N, Cel w t g N → Cel w' t g N
theorem Mks.refl (S : Nat → Prop) (w : World) : Mks S w w := ⟨rfl, rfl, rfl, Nat.le_refl _, fun _ _ _ => rfl, fun _ _ _ h => h⟩
theorem Mks.trans {S : Nat → Prop} {a b c : World} (h : Mks S a b) (k : Mks S b c) : Mks S a c :=
  ⟨k.os.trans h.os, k.tape.trans h.tape, k.output.trans h.output, Nat.le_trans h.size k.size, fun i hi ho => (k.block i (Nat.lt_of_lt_of_le hi h.size) ho).trans (h.block i hi ho), fun t g N x => k.cel t g N (h.cel t g N x)⟩
theorem Mks.mono {S S' : Nat → Prop} {a b : World} (h : Mks S a b) (hs : ∀ k, S k → S' k) : Mks S' a b :=
  ⟨h.os, h.tape, h.output, h.size, fun i hi ho => h.block i hi (fun hk => ho (hs i hk)), h.cel⟩
theorem Mks.of_below {S : Nat → Prop} {w w' : World} (hb : Below w.heap.size w w') : Mks S w w' := ⟨hb.os, hb.tape, hb.output, hb.size, fun i hi _ => hb.block i hi, fun t g N x => x.below hb⟩
theorem Mks.on {S : Nat → Prop} {a w w' : World} (h : Mks S a w) (hb : Below w.heap.size w w') : Mks S a w' := h.trans (.of_below hb)
theorem Mks.one (S : Nat → Prop) (w : World) (g j : Nat) (v : Value) (hg : S g) : Mks S w (w.setCell ⟨g, j, none⟩ v) :=
  ⟨rfl, rfl, rfl, by simp [World.setCell], fun k _ ho => Below.heap_setCell _ _ _ _ (by show k ≠ g; intro e; exact ho (e ▸ hg)), fun t g' N x => x.set g j v⟩
theorem Mks.sc {S : Nat → Prop} {a w : World} (h : Mks S a w) (g j : Nat) (v : Value) (hg : S g) : Mks S a (w.setCell ⟨g, j, none⟩ v) := h.trans (.one S w g j v hg)
theorem Mkd.mks {g : Nat} {w w' : World} (h : Mkd g (g + 1) w w') : Mks (fun k => k = g) w w' := ⟨h.os, h.tape, h.output, h.size, fun i hi ho => h.block i hi (by omega), h.cel⟩
theorem Mks.below {S : Nat → Prop} {B : Nat} {a w : World} (h : Mks S a w) (hS : ∀ k, S k → B ≤ k) (hB : B ≤ a.heap.size) : Below B a w :=
  ⟨h.os, h.tape, h.output, h.size, fun k hk => h.block k (by omega) (fun hs => by have := hS k hs; omega)⟩
theorem Mks.blk {S : Nat → Prop} {g : Nat} {a w : World} {arr : Array Value} {t : TypeId} (h : Mks S a w) (hb : Blk a g arr t) (ho : ¬ S g) : Blk w g arr t := (h.block g hb.lt ho).trans hb

/-- the block of a row of n things -/
def inR (ao : Option Addr) (n : Nat) (k : Nat) : Prop := n ≠ 0 ∧ ∃ o, ao = some ⟨k, o, none⟩
/-- a row of n things of sz cells in a block of its own, from B on and below E -/
def Own1 (B E : Nat) (w : World) (t : TypeId) (sz : Nat) (ao : Option Addr) (n : Nat) : Prop := n = 0 ∨ ∃ g M, ao = some ⟨g, 0, none⟩ ∧ B ≤ g ∧ g < E ∧ Cel w t g (M * sz) ∧ n ≤ M
/-- a row that is owned has room for as many as its capacity says -/
theorem own1_of {w : World} {B sz n n' c : Nat} {e : TypeId} {ao : Option Addr} {xs : List Value} (h : w.ownsRow B e sz (.slice ao n c) n' xs) : Own1 B w.heap.size w e sz ao c := by
  rcases h.2 with ⟨h1, _⟩ | ⟨g, cap, cur, h1, h2, h3, _, _, h4, _⟩
  · cases h1; exact .inl rfl
  · cases h1; exact .inr ⟨g, c, rfl, h2, lt_of_block h3, ⟨cur, h3, h4⟩, Nat.le_refl _⟩
theorem Own1.below {B E : Nat} {w w' : World} {t : TypeId} {sz n : Nat} {ao : Option Addr} (h : Own1 B E w t sz ao n) (hb : Below w.heap.size w w') : Own1 B E w' t sz ao n := by
  rcases h with h | ⟨g, M, h1, h2, h3, h4, h5⟩
  · exact .inl h
  · exact .inr ⟨g, M, h1, h2, h3, h4.below hb, h5⟩
theorem Own1.mks {B E : Nat} {w w' : World} {t : TypeId} {sz n : Nat} {ao : Option Addr} {S : Nat → Prop} (h : Own1 B E w t sz ao n) (hb : Mks S w w') : Own1 B E w' t sz ao n := by
  rcases h with h | ⟨g, M, h1, h2, h3, h4, h5⟩
  · exact .inl h
  · exact .inr ⟨g, M, h1, h2, h3, hb.cel _ _ _ h4, h5⟩
theorem Own1.sc {B E : Nat} {w : World} {t : TypeId} {sz n : Nat} {ao : Option Addr} (h : Own1 B E w t sz ao n) (k j : Nat) (v : Value) : Own1 B E (w.setCell ⟨k, j, none⟩ v) t sz ao n := by
  rcases h with h | ⟨g, M, h1, h2, h3, h4, h5⟩
  · exact .inl h
  · exact .inr ⟨g, M, h1, h2, h3, h4.set k j v, h5⟩
theorem Own1.mono {B E B' E' : Nat} {w : World} {t : TypeId} {sz n : Nat} {ao : Option Addr} (h : Own1 B E w t sz ao n) (h1 : B' ≤ B) (h2 : E ≤ E') : Own1 B' E' w t sz ao n := by
  rcases h with h | ⟨g, M, a, b, c, d⟩
  · exact .inl h
  · exact .inr ⟨g, M, a, by omega, by omega, d⟩
theorem Own1.lies {B E : Nat} {w : World} {t : TypeId} {sz n : Nat} {ao : Option Addr} (h : Own1 B E w t sz ao n) : ∀ k, inR ao n k → B ≤ k ∧ k < E ∧ ∃ N, Cel w t k N := by
  rintro k ⟨hn, o, e⟩
  rcases h with h | ⟨g, M, h1, h2, h3, h4, h5⟩
  · exact absurd h hn
  · rw [h1] at e
    cases e
    exact ⟨h2, h3, _, h4⟩
/-- rows of two types lie apart -/
theorem Own1.apart {B E B' E' : Nat} {w : World} {t t' : TypeId} {sz sz' n n' : Nat} {ao bo : Option Addr} (h : Own1 B E w t sz ao n) (h' : Own1 B' E' w t' sz' bo n') (ht : t ≠ t') : ∀ k, inR ao n k → ¬ inR bo n' k := fun k hk hk' => by
  obtain ⟨_, _, N, h1⟩ := h.lies k hk
  obtain ⟨_, _, N', h2⟩ := h'.lies k hk'
  exact ht (h1.type h2)

theorem cellMks {S : Nat → Prop} {w w' : World} {g p : Nat} {u : Value} (h : w.cell? ⟨g, p, none⟩ = some u) (hm : Mks S w w') (hg : ¬ S g) : w'.cell? ⟨g, p, none⟩ = some u :=
  (World.cell?_of_block (w := w) (a := ⟨g, p, none⟩) (hm.block g (cell_lt h) hg)).trans h
theorem QRow.mks {S : Nat → Prop} {w w' : World} {ao : Option Addr} {len : Nat} {l : List Q} (h : QRow w ao len l) (hm : Mks S w w') (hs : ∀ k, inR ao len k → ¬ S k) : QRow w' ao len l := by
  obtain ⟨h1, h2⟩ := h
  refine ⟨h1, ?_⟩
  rcases h2 with h2 | ⟨b, off, h3, h4⟩
  · exact .inl h2
  · by_cases hz : len = 0
    · exact .inl hz
    · have hb := hs b ⟨hz, off, h3⟩
      exact .inr ⟨b, off, h3, fun i h => let ⟨a, c, d, e⟩ := h4 i h; ⟨cellMks a hm hb, cellMks c hm hb, cellMks d hm hb, cellMks e hm hb⟩⟩
theorem MacRow.mks {S : Nat → Prop} {w w' : World} {ao : Option Addr} {len : Nat} {l : List Mac} (h : MacRow w ao len l) (hm : Mks S w w') (hs : ∀ k, inR ao len k → ¬ S k) : MacRow w' ao len l := by
  obtain ⟨h1, h2⟩ := h
  refine ⟨h1, ?_⟩
  rcases h2 with h2 | ⟨b, off, h3, h4⟩
  · exact .inl h2
  · by_cases hz : len = 0
    · exact .inl hz
    · have hb := hs b ⟨hz, off, h3⟩
      exact .inr ⟨b, off, h3, fun i h => let ⟨a, c, d, e⟩ := h4 i h; ⟨cellMks a hm hb, cellMks c hm hb, cellMks d hm hb, cellMks e hm hb⟩⟩
theorem ConRow.mks {S : Nat → Prop} {w w' : World} {ao : Option Addr} {len : Nat} {l : List Con} (h : ConRow w ao len l) (hm : Mks S w w') (hs : ∀ k, inR ao len k → ¬ S k) : ConRow w' ao len l := by
  obtain ⟨h1, h2⟩ := h
  refine ⟨h1, ?_⟩
  rcases h2 with h2 | ⟨b, off, h3, h4⟩
  · exact .inl h2
  · by_cases hz : len = 0
    · exact .inl hz
    · have hb := hs b ⟨hz, off, h3⟩
      exact .inr ⟨b, off, h3, fun i h => let ⟨a, c, d, e, f⟩ := h4 i h; ⟨cellMks a hm hb, cellMks c hm hb, cellMks d hm hb, cellMks e hm hb, cellMks f hm hb⟩⟩
theorem AskRow.mks {S : Nat → Prop} {w w' : World} {ao : Option Addr} {len : Nat} {l : List Ask} (h : AskRow w ao len l) (hm : Mks S w w') (hs : ∀ k, inR ao len k → ¬ S k) : AskRow w' ao len l := by
  obtain ⟨h1, h2⟩ := h
  refine ⟨h1, ?_⟩
  rcases h2 with h2 | ⟨b, off, h3, h4⟩
  · exact .inl h2
  · by_cases hz : len = 0
    · exact .inl hz
    · have hb := hs b ⟨hz, off, h3⟩
      exact .inr ⟨b, off, h3, fun i h => let ⟨a, c, d, e, f⟩ := h4 i h; ⟨cellMks a hm hb, cellMks c hm hb, cellMks d hm hb, cellMks e hm hb, cellMks f hm hb⟩⟩
theorem AVRow.mks {S : Nat → Prop} {w w' : World} {ao : Option Addr} {len : Nat} {l : List AV} (h : AVRow w ao len l) (hm : Mks S w w') (hs : ∀ k, inR ao len k → ¬ S k) : AVRow w' ao len l := by
  obtain ⟨h1, h2⟩ := h
  refine ⟨h1, ?_⟩
  rcases h2 with h2 | ⟨b, off, h3, h4⟩
  · exact .inl h2
  · by_cases hz : len = 0
    · exact .inl hz
    · have hb := hs b ⟨hz, off, h3⟩
      exact .inr ⟨b, off, h3, fun i h => let ⟨a, c, d⟩ := h4 i h; ⟨cellMks a hm hb, cellMks c hm hb, cellMks d hm hb⟩⟩
theorem AsksM.mks {S : Nat → Prop} {w w' : World} (hm : Mks S w w') : ∀ (l : List AV) (K : Nat), AsksM w K l → (∀ v ∈ l, ∀ k, inR v.ao v.len k → ¬ S k) → AsksM w' K l
  | [], _, _, _ => trivial
  | v :: t, K, h, hs => ⟨h.1.mks hm (hs v (by simp)), AsksM.mks hm t _ h.2 (fun u hu => hs u (by simp [hu]))⟩
theorem AsksM_snoc {w : World} : ∀ (l : List AV) (K : Nat) (v : AV), AsksM w K l → AskRow w v.ao v.len (marksA (endM K l + 2) v.len) → AsksM w K (l ++ [v])
  | [], K, v, _, h => ⟨h, trivial⟩
  | u :: t, K, v, h, h' => ⟨h.1, AsksM_snoc t _ v h.2 h'⟩
theorem hsM_snoc : ∀ (l : List AV) (K : Nat) (v : AV), hsM K (l ++ [v]) = hsM K l ++ [⟨(endM K l : Int), 109 :: dgs (endM K l + 1), v.ao, v.len, v.cap⟩]
  | [], K, v => rfl
  | u :: t, K, v => by simp only [List.cons_append, hsM, endM, hsM_snoc t]
theorem endM_mono : ∀ (l : List AV) (K j : Nat), endM K (l.take j) ≤ endM K l
  | [], K, j => by simp
  | v :: t, K, 0 => by simp only [List.take_zero, endM]; have := endM_ge t (K + 2 + 5 * v.len); omega
  | v :: t, K, j + 1 => by simp only [List.take_succ_cons, endM]; exact endM_mono t _ _
theorem endM_le : ∀ (l : List AV) (K m : Nat), (∀ v ∈ l, v.len ≤ m) → endM K l ≤ K + l.length * (2 + 5 * m)
  | [], K, m, _ => by simp [endM]
  | v :: t, K, m, h => by
    have h1 := endM_le t (K + 2 + 5 * v.len) m (fun u hu => h u (by simp [hu]))
    have h2 := h v (by simp)
    simp only [endM, List.length_cons, Nat.add_mul]
    omega
/-- the asks of two applications lie apart -/
def Apart (u v : AV) : Prop := u.len = 0 ∨ v.len = 0 ∨ u.ao ≠ v.ao

set_option maxRecDepth 100000 in
set_option maxHeartbeats 1000000 in
theorem markMachineS_zero (ao : Option Addr) (c : Nat) (K : Int) (w : World) :
    Calls Tryz.prog 26 #[.slice ao 0 c, .int .i64 K] w fun e w' => e = .returned (.int .i64 K) ∧ w = w' := by
  go_enter Tryz.func26, Tryz.ntmps26
  go_wp2
  go_loopw [1, 5] (fun s i wr => i = .int .i64 0 ∧ s = .int .i64 K ∧ wr = w) (fun _ _ _ => 0)
  case atStart => exact ⟨rfl, rfl, rfl⟩
  case round =>
    obtain ⟨rfl, rfl, rfl⟩ := hrel
    go_wp2
    go_ret
    exact ⟨rfl, rfl⟩
set_option maxRecDepth 100000 in
set_option maxHeartbeats 1000000 in
theorem markContS_zero (ao : Option Addr) (c : Nat) (K : Int) (w : World) :
    Calls Tryz.prog 27 #[.slice ao 0 c, .int .i64 K] w fun e w' => e = .returned (.int .i64 K) ∧ w = w' := by
  go_enter Tryz.func27, Tryz.ntmps27
  go_wp2
  go_loopw [1, 5] (fun s i wr => i = .int .i64 0 ∧ s = .int .i64 K ∧ wr = w) (fun _ _ _ => 0)
  case atStart => exact ⟨rfl, rfl, rfl⟩
  case round =>
    obtain ⟨rfl, rfl, rfl⟩ := hrel
    go_wp2
    go_ret
    exact ⟨rfl, rfl⟩
set_option maxRecDepth 100000 in
set_option maxHeartbeats 1000000 in
theorem markAskS_zero (ao : Option Addr) (c : Nat) (K : Int) (w : World) :
    Calls Tryz.prog 49 #[.slice ao 0 c, .int .i64 K] w fun e w' => e = .returned (.int .i64 K) ∧ w = w' := by
  go_enter Tryz.func49, Tryz.ntmps49
  go_wp2
  go_loopw [1, 5] (fun s i wr => i = .int .i64 0 ∧ s = .int .i64 K ∧ wr = w) (fun _ _ _ => 0)
  case atStart => exact ⟨rfl, rfl, rfl⟩
  case round =>
    obtain ⟨rfl, rfl, rfl⟩ := hrel
    go_wp2
    go_ret
    exact ⟨rfl, rfl⟩
set_option maxRecDepth 100000 in
set_option maxHeartbeats 1000000 in
theorem markAppS_zero (ao : Option Addr) (c : Nat) (K : Int) (w : World) :
    Calls Tryz.prog 25 #[.slice ao 0 c, .int .i64 K] w fun e w' => e = .returned (.int .i64 K) ∧ w = w' := by
  go_enter Tryz.func25, Tryz.ntmps25
  go_wp2
  go_loopw [1, 5] (fun s i wr => i = .int .i64 0 ∧ s = .int .i64 K ∧ wr = w) (fun _ _ _ => 0)
  case atStart => exact ⟨rfl, rfl, rfl⟩
  case round =>
    obtain ⟨rfl, rfl, rfl⟩ := hrel
    go_wp2
    go_ret
    exact ⟨rfl, rfl⟩

theorem markQueueS_own {B E n c : Nat} {ao : Option Addr} {w : World} (h : Own1 B E w 48 4 ao n) (hn : n ≤ 1048576) :
    Calls Tryz.prog 10 #[.slice ao n c, .int .i64 1] w fun e w' => e = .returned (.int .i64 (1 + 4 * (n : Int))) ∧ QRow w' ao n (marksQ n) ∧ Mks (inR ao n) w w' := by
  by_cases hz : n = 0
  · subst hz
    refine (markQueueS_zero ao c w).mono ?_
    rintro e w' ⟨rfl, rfl⟩
    exact ⟨rfl, ⟨rfl, .inl rfl⟩, .refl _ _⟩
  · rcases h with h | ⟨g, M, rfl, h2, h3, h4, h5⟩
    · exact absurd h hz
    · have ha : QAny w 48 g M := by obtain ⟨arr, h1, h2⟩ := h4; exact ⟨arr, h1, h2, fun i hi => absurd hi (by simp)⟩
      refine (markQueueS_full g n M (d := c) w ha h5 hn).mono ?_
      rintro e w' ⟨rfl, hq, hg⟩
      refine ⟨rfl, hq.rowOf (marksQ_len _).symm, hg.os, hg.tape, hg.output, hg.size, fun k hk hs => hg.block k hk (fun e => hs ⟨hz, 0, by rw [Option.some.inj e]⟩), fun t g' N x => ?_⟩
      by_cases e : g' = g
      · subst e
        obtain rfl := x.type h4
        obtain ⟨a1, h1, h6, _⟩ := hq
        obtain ⟨a2, h2', h3'⟩ := x
        obtain ⟨a3, h4', h5'⟩ := h4
        rw [h2'] at h4'
        cases h4'
        exact ⟨a1, h1, by omega⟩
      · exact x.of_block (hg.block g' x.lt (fun e' => e (Option.some.inj e')))
theorem markMachineS_own {B E n c : Nat} {ao : Option Addr} {w : World} (K : Nat) (h : Own1 B E w 102 4 ao n) (hn : n ≤ 1048576) (h0 : 0 < K) (h1 : K ≤ 1000000000000000) :
    Calls Tryz.prog 26 #[.slice ao n c, .int .i64 (K : Int)] w fun e w' => e = .returned (.int .i64 ((K : Int) + 4 * (n : Int))) ∧ MacRow w' ao n (marksM K n) ∧ Mks (inR ao n) w w' := by
  by_cases hz : n = 0
  · subst hz
    refine (markMachineS_zero ao c K w).mono ?_
    rintro e w' ⟨rfl, rfl⟩
    exact ⟨by simp, ⟨by simp [marksM], .inl rfl⟩, .refl _ _⟩
  · rcases h with h | ⟨g, M, rfl, h2, h3, h4, h5⟩
    · exact absurd h hz
    · refine (markMachineS_full g n M K (d := c) w h4 h5 hn h0 h1).mono ?_
      rintro e w' ⟨rfl, hq, hg⟩
      exact ⟨rfl, hq, hg.mks.mono (fun k e => ⟨hz, 0, by rw [e]⟩)⟩
theorem markContS_own {B E n c : Nat} {ao : Option Addr} {w : World} (K : Nat) (h : Own1 B E w 105 5 ao n) (hn : n ≤ 1048576) (h0 : 0 < K) (h1 : K ≤ 1000000000000000) :
    Calls Tryz.prog 27 #[.slice ao n c, .int .i64 (K : Int)] w fun e w' => e = .returned (.int .i64 ((K : Int) + 5 * (n : Int))) ∧ ConRow w' ao n (marksC K n) ∧ Mks (inR ao n) w w' := by
  by_cases hz : n = 0
  · subst hz
    refine (markContS_zero ao c K w).mono ?_
    rintro e w' ⟨rfl, rfl⟩
    exact ⟨by simp, ⟨by simp [marksC], .inl rfl⟩, .refl _ _⟩
  · rcases h with h | ⟨g, M, rfl, h2, h3, h4, h5⟩
    · exact absurd h hz
    · refine (markContS_full g n M K (d := c) w h4 h5 hn h0 h1).mono ?_
      rintro e w' ⟨rfl, hq, hg⟩
      exact ⟨rfl, hq, hg.mks.mono (fun k e => ⟨hz, 0, by rw [e]⟩)⟩
theorem markAskS_own {B E n c : Nat} {ao : Option Addr} {w : World} (K : Nat) (h : Own1 B E w 128 5 ao n) (hn : n ≤ 1048576) (h0 : 0 < K) (h1 : K ≤ 1000000000000000) :
    Calls Tryz.prog 49 #[.slice ao n c, .int .i64 (K : Int)] w fun e w' => e = .returned (.int .i64 ((K : Int) + 5 * (n : Int))) ∧ AskRow w' ao n (marksA K n) ∧ Mks (inR ao n) w w' := by
  by_cases hz : n = 0
  · subst hz
    refine (markAskS_zero ao c K w).mono ?_
    rintro e w' ⟨rfl, rfl⟩
    exact ⟨by simp, ⟨by simp [marksA], .inl rfl⟩, .refl _ _⟩
  · rcases h with h | ⟨g, M, rfl, h2, h3, h4, h5⟩
    · exact absurd h hz
    · refine (markAskS_from g n M K (d := c) w h4 h5 hn h0 h1).mono ?_
      rintro e w' ⟨rfl, hq, hg⟩
      exact ⟨rfl, hq, hg.mks.mono (fun k e => ⟨hz, 0, by rw [e]⟩)⟩

/-- block g is M heads of applications, of which these are the first -/
def AVBlk (w : World) (g M : Nat) (l : List AV) : Prop := Cel w 71 g (M * 3) ∧ l.length ≤ M ∧ ∀ i (h : i < l.length), AVAt w g (i * 3) l[i]
theorem AVBlk.below {w w' : World} {g M : Nat} {l : List AV} (h : AVBlk w g M l) (hb : Below w.heap.size w w') : AVBlk w' g M l := ⟨h.1.below hb, h.2.1, fun i hi => (h.2.2 i hi).below hb⟩
theorem AVBlk.mks {S : Nat → Prop} {w w' : World} {g M : Nat} {l : List AV} (h : AVBlk w g M l) (hm : Mks S w w') (hs : ¬ S g) : AVBlk w' g M l :=
  ⟨hm.cel _ _ _ h.1, h.2.1, fun i hi => let ⟨a, b, c⟩ := h.2.2 i hi; ⟨cellMks a hm hs, cellMks b hm hs, cellMks c hm hs⟩⟩
theorem AVBlk.id {w : World} {g M i : Nat} {l : List AV} (h : AVBlk w g M l) (hi : i < l.length) (x : Int) : AVBlk (w.setCell ⟨g, i * 3, none⟩ (.int .i64 x)) g M (l.set i ⟨x, l[i].queue, l[i].ao, l[i].len, l[i].cap⟩) := by
  refine ⟨h.1.set _ _ _, by simpa using h.2.1, fun j hj => ?_⟩
  have hj' : j < l.length := by simpa using hj
  obtain ⟨a, b, c⟩ := h.2.2 j hj'
  by_cases e : i = j
  · subst e
    simp only [List.getElem_set_self]
    exact ⟨World.cell?_setCell_same _ ⟨g, i * 3, none⟩ _ a, cellKeep b (by omega), cellKeep c (by omega)⟩
  · rw [List.getElem_set_ne e]
    exact ⟨cellKeep a (by omega), cellKeep b (by omega), cellKeep c (by omega)⟩
theorem AVBlk.qu {w : World} {g M i : Nat} {l : List AV} (h : AVBlk w g M l) (hi : i < l.length) (x : List UInt8) : AVBlk (w.setCell ⟨g, i * 3 + 1, none⟩ (.string (bs x))) g M (l.set i ⟨l[i].id, x, l[i].ao, l[i].len, l[i].cap⟩) := by
  refine ⟨h.1.set _ _ _, by simpa using h.2.1, fun j hj => ?_⟩
  have hj' : j < l.length := by simpa using hj
  obtain ⟨a, b, c⟩ := h.2.2 j hj'
  by_cases e : i = j
  · subst e
    simp only [List.getElem_set_self]
    exact ⟨cellKeep a (by omega), World.cell?_setCell_same _ ⟨g, i * 3 + 1, none⟩ _ b, cellKeep c (by omega)⟩
  · rw [List.getElem_set_ne e]
    exact ⟨cellKeep a (by omega), cellKeep b (by omega), cellKeep c (by omega)⟩
theorem AVBlk.row {w : World} {g M : Nat} {l : List AV} (h : AVBlk w g M l) : AVRow w (some ⟨g, 0, none⟩) l.length l := ⟨rfl, .inr ⟨g, 0, rfl, fun i hi => by rw [Nat.zero_add]; exact h.2.2 i hi⟩⟩

set_option maxRecDepth 100000 in
set_option maxHeartbeats 4000000 in
theorem markAppS_own {B E n c : Nat} {ao : Option Addr} {w : World} (K : Nat) (hs : List AV) (h : Own1 B E w 71 3 ao n) (hr : AVRow w ao n hs) (ha : ∀ v ∈ hs, Own1 B E w 128 5 v.ao v.len ∧ v.len ≤ 1048576) (hp : hs.Pairwise Apart) (hn : n ≤ 1048576) (h0 : 0 < K) (h1 : endM K hs ≤ 100000000000000) :
    Calls Tryz.prog 25 #[.slice ao n c, .int .i64 (K : Int)] w fun e w' => e = .returned (.int .i64 (endM K hs : Int)) ∧ AVRow w' ao n (hsM K hs) ∧ AsksM w' K hs ∧ Mks (fun k => inR ao n k ∨ ∃ v ∈ hs, inR v.ao v.len k) w w' := by
  by_cases hz : n = 0
  · subst hz
    have hl : hs = [] := List.length_eq_zero_iff.1 hr.1.symm
    subst hl
    refine (markAppS_zero ao c K w).mono ?_
    rintro e w' ⟨rfl, rfl⟩
    exact ⟨rfl, ⟨rfl, .inl rfl⟩, trivial, .refl _ _⟩
  rcases h with h | ⟨g, M, rfl, h2, h3, h4, h5⟩
  · exact absurd h hz
  have HLN := hide hr.1
  have HA := hide ha
  have HP := hide hp
  have HV := hide (show AVBlk w g M (hsM K (hs.take 0) ++ hs.drop 0) from by
    refine ⟨h4, ?_, fun i hi => ?_⟩
    · simp [hsM]; have := hr.1; omega
    · simp only [List.take_zero, hsM, List.nil_append, List.drop_zero] at hi ⊢
      rcases hr.2 with e | ⟨b, off, e, hh⟩
      · exact absurd e hz
      · cases e
        have := hh i hi
        rwa [Nat.zero_add] at this)
  have HE := hide (fun j => endM_mono hs K j)
  have HG := hide (fun j => endM_ge (hs.take j) K)
  obtain ⟨S, hS⟩ : ∃ S : Nat → Prop, S = (fun k => inR (some ⟨g, 0, none⟩) n k ∨ ∃ v ∈ hs, inR v.ao v.len k) := ⟨_, rfl⟩
  have HSg := hide (show S g by rw [hS]; exact .inl ⟨hz, 0, rfl⟩)
  have HSv := hide (show ∀ v ∈ hs, ∀ k, inR v.ao v.len k → S k by rw [hS]; exact fun v hv k hk => .inr ⟨v, hv, hk⟩)
  rw [← hS]
  clear hr ha hp h4 hS h2 h3
  go_enter Tryz.func25, Tryz.ntmps25
  go_wp2
  go_loopw [1, 5] (fun s i wr => ∃ (j : Nat) (k : Nat), j ≤ n ∧ i = .int .i64 j ∧ s = .int .i64 (k : Int) ∧ Hid (k = endM K (hs.take j)) ∧ Hid (AVBlk wr g M (hsM K (hs.take j) ++ hs.drop j)) ∧ Hid (AsksM wr K (hs.take j)) ∧ Hid (Mks S w wr)) (fun _ i _ => n - (intOf i).toNat)
  case atStart => exact ⟨0, K, Nat.zero_le _, rfl, rfl, hide (by simp [endM]), HV, hide (by simp [AsksM]), hide (Mks.refl _ _)⟩
  case round =>
    obtain ⟨j, k, hj, rfl, rfl, HK, HQ, HM, HS⟩ := hrel
    by_cases hlt : j < n
    · have hjl : j < hs.length := by have := unhide HLN; omega
      have hst := endM_step hs K j hjl
      have hle := unhide HE (j + 1)
      have hgk := unhide HG j
      rw [← unhide HK] at hst hgk
      have hjL : j < (hsM K (hs.take j) ++ hs.drop j).length := by rw [List.length_append, hsM_len, List.length_take, List.length_drop]; omega
      have hLj : (hsM K (hs.take j) ++ hs.drop j)[j] = hs[j] := by
        rw [List.getElem_append_right (by rw [hsM_len, List.length_take]; omega)]
        simp [hsM_len, Nat.min_eq_left (Nat.le_of_lt hjl)]
      have hcel := (unhide HQ).1
      obtain ⟨v0, d0⟩ := hcel.cell (j := j * 3) (by have := (unhide HQ).2.1; omega)
      have f0 := hcel.frozen (j * 3)
      have HQ1 := hide ((unhide HQ).id hjL (k : Int))
      have HG1 := hide ((unhide HS).sc g (j * 3) (.int .i64 (k : Int)) (unhide HSg))
      have HM1 := hide ((unhide HM).mks (Mks.one (fun x => x = g) _ g (j * 3) (.int .i64 (k : Int)) rfl) _ _ (fun v hv x hx e => by
        have hv' := ((unhide HA v (List.mem_of_mem_take hv)).1.mks (unhide HS))
        obtain ⟨_, _, N, hc⟩ := hv'.lies x hx
        subst e
        exact absurd (hc.type hcel) (by decide)))
      have hk0 : 0 < k := by omega
      have hvl := (unhide HA _ (List.getElem_mem hjl)).2
      have hk1 : k ≤ 100000000000000 := by omega
      obtain ⟨⟨vi, vq, va, vl, vc⟩, hv⟩ : ∃ v, hs[j] = v := ⟨_, rfl⟩
      have HVV := hide hv
      rw [hv] at hst hvl
      rw [hLj, hv] at HQ1
      simp only at hst hvl HQ1
      have HN := hide (show (k + 2 + 5 * vl : Nat) = endM K (hs.take (j + 1)) from hst.symm)
      clear hst hle hgk hLj hv hcel HQ HM HS hjL
      go_wp2_with fail
      refine (markText_int ((k : Int) + 1) _ (by omega) (by omega)).mono ?_
      rintro e w1 ⟨rfl, hb⟩
      have HQ2 := hide ((unhide HQ1).below hb)
      have HG2 := hide ((unhide HG1).on hb)
      have HM2 := hide (AsksM.below hb _ _ (unhide HM1))
      clear hb d0 f0 HQ1 HG1 HM1
      have hjL : j < ((hsM K (hs.take j) ++ hs.drop j).set j ⟨(k : Int), vq, va, vl, vc⟩).length := by rw [List.length_set, List.length_append, hsM_len, List.length_take, List.length_drop]; have := unhide HLN; omega
      have hcel := (unhide HQ2).1
      obtain ⟨v1, d1⟩ := hcel.cell (j := j * 3 + 1) (by have := (unhide HQ2).2.1; omega)
      have f1 := hcel.frozen (j * 3 + 1)
      have HQ3 := hide (show AVBlk _ g M _ from (unhide HQ2).qu hjL (109 :: dgs (k + 1)))
      simp only [List.getElem_set_self, List.set_set] at HQ3
      have HG3 := hide ((unhide HG2).sc g (j * 3 + 1) (.string (bs (109 :: dgs (k + 1)))) (unhide HSg))
      have HM3 := hide ((unhide HM2).mks (Mks.one (fun x => x = g) _ g (j * 3 + 1) (.string (bs (109 :: dgs (k + 1)))) rfl) _ _ (fun v hv x hx e => by
        have hv' := ((unhide HA v (List.mem_of_mem_take hv)).1.mks (unhide HG2))
        obtain ⟨_, _, N, hc⟩ := hv'.lies x hx
        subst e
        exact absurd (hc.type hcel) (by decide)))
      have hmk : mk ((k : Int) + 1).toNat = bs (109 :: dgs (k + 1)) := by rw [show ((k : Int) + 1).toNat = k + 1 by omega]; rfl
      have hjL3 : j < ((hsM K (hs.take j) ++ hs.drop j).set j ⟨(k : Int), 109 :: dgs (k + 1), va, vl, vc⟩).length := by rw [List.length_set, List.length_append, hsM_len, List.length_take, List.length_drop]; have := unhide HLN; omega
      have d2 := ((unhide HQ3).2.2 j hjL3).2.2
      simp only [List.getElem_set_self] at d2
      have hown := (unhide HA _ (List.getElem_mem (show j < hs.length by have := unhide HLN; omega))).1.mks (unhide HG3)
      rw [unhide HVV] at hown
      simp only at hown
      have CA := hide (by have := markAskS_own (c := vc) (k + 2) hown hvl (by omega) (by omega); rw [show ((k + 2 : Nat) : Int) = (k : Int) + 1 + 1 by omega] at this; exact this)
      have HOW := hide hown
      rw [hmk]
      clear hcel HQ2 HG2 HM2 hjL hjL3 hown hmk
      go_wp2_with fail
      refine (unhide CA).mono ?_
      rintro e w2 ⟨rfl, hrow, hm⟩
      have HR4 := hide hrow
      have HQ4 := hide ((unhide HQ3).mks hm (fun hk => by
        obtain ⟨_, _, N, hc⟩ := (unhide HOW).lies g hk
        exact absurd (hc.type (unhide HQ3).1) (by decide)))
      have HG4 := hide ((unhide HG3).trans (hm.mono (fun x hx => unhide HSv hs[j] (List.getElem_mem (show j < hs.length by have := unhide HLN; omega)) x (by rw [unhide HVV]; exact hx))))
      have HM4 := hide ((unhide HM3).mks hm _ _ (fun v hv x hx hx' => by
        obtain ⟨i, hi, rfl⟩ := List.getElem_of_mem hv
        have hi' : i < j ∧ i < hs.length := by rw [List.length_take] at hi; omega
        have hap := (List.pairwise_iff_getElem.1 (unhide HP)) i j hi'.2 (by have := unhide HLN; omega) hi'.1
        rw [List.getElem_take] at hx
        rw [unhide HVV] at hap
        obtain ⟨hn1, o1, e1⟩ := hx
        obtain ⟨hn2, o2, e2⟩ := hx'
        rcases hap with e | e | e
        · exact hn1 e
        · exact hn2 e
        · have hi1 := (unhide HA hs[i] (List.getElem_mem hi'.2)).1
          have hi2 := unhide HOW
          rcases hi1 with z | ⟨g1, M1, z, _⟩
          · exact hn1 z
          · rcases hi2 with y | ⟨g2, M2, y, _⟩
            · exact hn2 y
            · rw [z] at e1
              rw [y] at e2
              cases e1
              cases e2
              exact e (z.trans y.symm)))
      clear hrow hm CA HQ3 HG3 HM3 d1 f1 d2
      go_wp2
      go_roundw
      case rel =>
        have hjl : j < hs.length := by have := unhide HLN; omega
        have htk : hs.take (j + 1) = hs.take j ++ [hs[j]] := by rw [List.take_succ_eq_append_getElem hjl]
        refine ⟨j + 1, k + 2 + 5 * vl, by omega, by go_num, by refine congrArg _ ?_; omega, HN, hide ?_, hide ?_, HG4⟩
        · have := unhide HQ4
          rw [List.drop_eq_getElem_cons hjl] at this
          rw [htk, hsM_snoc, unhide HVV, ← unhide HK]
          rw [List.set_append_right _ _ (by rw [hsM_len, List.length_take]; omega)] at this
          rw [hsM_len, List.length_take, Nat.min_eq_left (by omega), Nat.sub_self, List.set_cons_zero] at this
          rw [List.append_assoc]
          exact this
        · rw [htk]
          refine AsksM_snoc _ _ _ (unhide HM4) ?_
          rw [unhide HVV, ← unhide HK]
          exact unhide HR4
      case measure => simp [intOf]; omega
    · have hjn : j = n := by omega
      have hth : hs.take j = hs := List.take_of_length_le (by have := unhide HLN; omega)
      have hdr : hs.drop j = [] := List.drop_of_length_le (by have := unhide HLN; omega)
      have j1 : ¬ (j : Int) < n := by omega
      have hke : k = endM K hs := by rw [unhide HK, hth]
      go_wp2
      go_ret
      refine ⟨rfl, ?_, by have := unhide HM; rwa [hth] at this, unhide HS⟩
      have := (unhide HQ).row
      rw [hth, hdr, List.append_nil, hsM_len, ← unhide HLN] at this
      exact this
end Go.Proofs.YtgdndekmkaknlaaGreat

/-
  The builtin copy over elements of several cells: as a law for the walk; rows of cells by what they begin with.
-/
namespace Go.Proofs.YtgdndekmkaknlaaGreat
open Go.RowKit
set_option linter.unusedVariables false
theorem run_copy_many {P : Program} (w : World) (dT sT ty elem : TypeId) (g o dLen dCap : Nat) (a : Addr) (sLen sCap : Nat) (cur : Array Value) (t : TypeId) (cs : List Value) (sz : Nat)
    (hu : P.underlying dT = some (.slice elem)) (hs : (P.info? elem).map (·.size) = some sz)
    (hg : w.heap[g]? = some (.cells cur t (0, 0))) (hn : cs.length = Nat.min sLen dLen * sz)
    (hsrc : ∀ j v, cs[j]? = some v → w.cell? (a.add j) = some v) (hfit : o + cs.length ≤ cur.size) (h1 : ∀ v ∈ cs, v.oneCell' = true) :
    (Builtin.copy_ #[dT, sT] ty #[.slice (some ⟨g, o, none⟩) dLen dCap, .slice (some a) sLen sCap]).run P w =
      .ok (goInt (Nat.min sLen dLen)) (w.setRow g (cur.toList.take o ++ cs ++ cur.toList.drop (o + cs.length)).toArray) := by
  have hl := run_loadCells_list (P := P) w a cs hsrc
  have hst := run_storeCells_at P g o t cs 0 cur w hg (by simpa using hfit) h1
  obtain ⟨m, hm⟩ : ∃ m, Nat.min sLen dLen = m := ⟨_, rfl⟩
  rw [hm] at hn ⊢
  cases hq : P.info? elem with
  | none => simp [hq] at hs
  | some i =>
    have hi : i.size = sz := by simpa [hq] using hs
    rw [hn] at hl
    simp [Builtin.copy_, run_underlying hu, Builtin.lenOf, Builtin.firstCells, sizeOf, typeInfo, hq, hi, hm, hl, hst]
theorem run_copy_zero {P : Program} (w : World) (dT sT ty elem : TypeId) (d a : Option Addr) (dLen dCap sLen sCap sz : Nat) (hu : P.underlying dT = some (.slice elem)) (hs : (P.info? elem).map (·.size) = some sz) (hn : Nat.min sLen dLen = 0) :
    (Builtin.copy_ #[dT, sT] ty #[.slice d dLen dCap, .slice a sLen sCap]).run P w = .ok (goInt 0) w := by
  cases hq : P.info? elem with
  | none => simp [hq] at hs
  | some i =>
    have hl : ∀ (x : Addr), (loadCells x 0).run P w = .ok #[] w := fun x => by simpa using run_loadCells_list (P := P) w x [] (by simp)
    cases d <;> cases a <;> simp [Builtin.copy_, run_underlying hu, Builtin.lenOf, Builtin.firstCells, sizeOf, typeInfo, hq, hn, storeCells, hl]

theorem mks_setRow (w : World) (g : Nat) (cur : List Value) (new : List Value) (t : TypeId) (hg : w.heap[g]? = some (.cells cur.toArray t (0, 0))) (hl : new.length = cur.length) : Mks (fun k => k = g) w (w.setRow g new.toArray) := by
  refine ⟨rfl, rfl, rfl, by simp [World.setRow], fun k _ hk => setRow_other w g k _ (by omega), fun t' g' N h => ?_⟩
  by_cases e : g' = g
  · subst e
    obtain ⟨arr, h1, h2⟩ := h
    rw [hg] at h1
    cases h1
    exact ⟨_, setRow_heap w g' _ _ t _ hg, by simpa [hl] using h2⟩
  · exact h.of_block (setRow_other w g g' _ e)

theorem wp_copy_many {P : Program} {w : World} {o : Oper} {a : Act} {K : Act → World → Prop} {Q : Exit → Act → World → Prop} (d s : Operand) (dT sT : TypeId)
    (ho : o.op = .call { callee := .builtin .copy, args := #[d, s], argTypes := #[dT, sT] }) (elem : TypeId) (sz : Nat) (hu : P.underlying dT = some (.slice elem)) (hsz : (P.info? elem).map (·.size) = some sz)
    (dp sp : Option Addr) (dLen dCap sLen sCap : Nat) (hd : a.eval d = .slice dp dLen dCap) (hs : a.eval s = .slice sp sLen sCap)
    (g off : Nat) (cur : List Value) (t : TypeId) (hg : w.heap[g]? = some (.cells cur.toArray t (0, 0))) (cs : List Value) (m : Nat) (hm : m = Nat.min sLen dLen) (hn : cs.length = m * sz)
    (hpos : m ≠ 0 → dp = some ⟨g, off, none⟩ ∧ ∃ ad, sp = some ad ∧ ∀ j v, cs[j]? = some v → w.cell? (ad.add j) = some v)
    (hfit : off + cs.length ≤ cur.length) (h1 : ∀ v ∈ cs, v.oneCell' = true)
    (h : ∀ w', Hid (w'.heap[g]? = some (.cells (splice cur off cs).toArray t (0, 0))) → Hid (Mks (fun k => k = g) w w') → w'.heap.size = w.heap.size → K (a.put o.dst (goInt m)) w') :
    Oper.wp P o a w K Q := by
  by_cases h0 : m = 0
  · subst h0
    obtain rfl : cs = [] := List.eq_nil_of_length_eq_zero (by simpa using hn)
    have hrun := run_copy_zero (P := P) w dT sT o.type elem dp sp dLen dCap sLen sCap sz hu hsz hm.symm
    unfold Oper.wp
    simp [execOp, ho, resolve, invoke, builtin, hd, hs, hrun, Result.andThen]
    exact h w (show _ = _ by simpa [splice] using hg) (Mks.refl _ _) rfl
  · obtain ⟨rfl, ad, rfl, hsrc⟩ := hpos h0
    have hrun := run_copy_many (P := P) w dT sT o.type elem g off dLen dCap ad sLen sCap cur.toArray t cs sz hu hsz hg (by rw [hn, hm]) hsrc (by simpa using hfit) h1
    unfold Oper.wp
    rw [← hm] at hrun
    simp [execOp, ho, resolve, invoke, builtin, hd, hs, hrun, Result.andThen]
    have e : (List.take off cur ++ (cs ++ List.drop (off + cs.length) cur)) = splice cur off cs := rfl
    have hh := h (w.setRow g (splice cur off cs).toArray) (show _ = _ from setRow_heap w g _ _ t _ hg) (mks_setRow w g cur _ t hg (length_splice cur off cs hfit)) (by simp [World.setRow])
    rw [← e] at hh
    exact hh
theorem wpList_copy_many {P : Program} {w : World} {ops : Array Oper} {rest : List Oper} {o : Oper} {a : Act} {Q : Exit → Act → World → Prop} (hgd : o.guard = none) (d s : Operand) (dT sT : TypeId)
    (ho : o.op = .call { callee := .builtin .copy, args := #[d, s], argTypes := #[dT, sT] }) (elem : TypeId) (sz : Nat) (hu : P.underlying dT = some (.slice elem)) (hsz : (P.info? elem).map (·.size) = some sz)
    (dp sp : Option Addr) (dLen dCap sLen sCap : Nat) (hd : a.eval d = .slice dp dLen dCap) (hs : a.eval s = .slice sp sLen sCap)
    (g off : Nat) (cur : List Value) (t : TypeId) (hg : w.heap[g]? = some (.cells cur.toArray t (0, 0))) (cs : List Value) (m : Nat) (hm : m = Nat.min sLen dLen) (hn : cs.length = m * sz)
    (hpos : m ≠ 0 → dp = some ⟨g, off, none⟩ ∧ ∃ ad, sp = some ad ∧ ∀ j v, cs[j]? = some v → w.cell? (ad.add j) = some v)
    (hfit : off + cs.length ≤ cur.length) (h1 : ∀ v ∈ cs, v.oneCell' = true)
    (h : ∀ w', Hid (w'.heap[g]? = some (.cells (splice cur off cs).toArray t (0, 0))) → Hid (Mks (fun k => k = g) w w') → w'.heap.size = w.heap.size → wpList P ops Q rest (a.put o.dst (goInt m)) w') :
    wpList P ops Q (o :: rest) a w :=
  wpList_plain hgd fun _ hK => wp_copy_many d s dT sT ho elem sz hu hsz dp sp dLen dCap sLen sCap hd hs g off cur t hg cs m hm hn hpos hfit h1 fun w' a1 a2 a3 => hK _ _ (h w' a1 a2 a3)
theorem step_copy_many {P : Program} {w : World} {ops : Array Oper} {o : Oper} {a : Act} {K : Act → World → Prop} {Q : Exit → Act → World → Prop} {E : Prop} (hgd : o.guard = none) (d s : Operand) (dT sT : TypeId)
    (ho : o.op = .call { callee := .builtin .copy, args := #[d, s], argTypes := #[dT, sT] }) (elem : TypeId) (sz : Nat) (hu : P.underlying dT = some (.slice elem)) (hsz : (P.info? elem).map (·.size) = some sz)
    (dp sp : Option Addr) (dLen dCap sLen sCap : Nat) (hd : a.eval d = .slice dp dLen dCap) (hs : a.eval s = .slice sp sLen sCap)
    (g off : Nat) (cur : List Value) (t : TypeId) (hg : w.heap[g]? = some (.cells cur.toArray t (0, 0))) (cs : List Value) (m : Nat) (hm : m = Nat.min sLen dLen) (hn : cs.length = m * sz)
    (hpos : m ≠ 0 → dp = some ⟨g, off, none⟩ ∧ ∃ ad, sp = some ad ∧ ∀ j v, cs[j]? = some v → w.cell? (ad.add j) = some v)
    (hfit : off + cs.length ≤ cur.length) (h1 : ∀ v ∈ cs, v.oneCell' = true)
    (h : ∀ w', Hid (w'.heap[g]? = some (.cells (splice cur off cs).toArray t (0, 0))) → Hid (Mks (fun k => k = g) w w') → w'.heap.size = w.heap.size → K (a.put o.dst (goInt m)) w') :
    if Region.wanted o (yielded ops a.tmps) = true then Oper.wp P o a w K Q else E := by
  have hw : Region.wanted o (yielded ops a.tmps) = true := by simp [Region.wanted, hgd]
  rw [if_pos hw]
  exact wp_copy_many d s dT sT ho elem sz hu hsz dp sp dLen dCap sLen sCap hd hs g off cur t hg cs m hm hn hpos hfit h1 h

/-- block g is M cells of type t that may be written, of which these are the first -/
def Lay (w : World) (t : TypeId) (g M : Nat) (cs : List Value) : Prop := ∃ R : List Value, w.heap[g]? = some (.cells (cs ++ R).toArray t (0, 0)) ∧ (cs ++ R).length = M
theorem Lay.lt {w : World} {t : TypeId} {g M : Nat} {cs : List Value} (h : Lay w t g M cs) : g < w.heap.size := let ⟨_, h, _⟩ := h; lt_of_block h
theorem Lay.of_block {w w' : World} {t : TypeId} {g M : Nat} {cs : List Value} (h : Lay w t g M cs) (e : w'.heap[g]? = w.heap[g]?) : Lay w' t g M cs := let ⟨R, h1, h2⟩ := h; ⟨R, e.trans h1, h2⟩
theorem Lay.below {w w' : World} {t : TypeId} {g M : Nat} {cs : List Value} (h : Lay w t g M cs) (hb : Below w.heap.size w w') : Lay w' t g M cs := h.of_block (hb.block g h.lt)
theorem Lay.other {w : World} {t : TypeId} {g M : Nat} {cs : List Value} (h : Lay w t g M cs) (k j : Nat) (v : Value) (hk : g ≠ k) : Lay (w.setCell ⟨k, j, none⟩ v) t g M cs := h.of_block (heap_setCell_other w ⟨k, j, none⟩ g v hk)
theorem Lay.cel {w : World} {t : TypeId} {g M : Nat} {cs : List Value} (h : Lay w t g M cs) : Cel w t g M := let ⟨R, h1, h2⟩ := h; ⟨_, h1, by simpa using h2⟩
theorem Lay.cell {w : World} {t : TypeId} {g M : Nat} {cs : List Value} (h : Lay w t g M cs) {j : Nat} {u : Value} (hj : cs[j]? = some u) : w.cell? ⟨g, j, none⟩ = some u := by
  obtain ⟨R, h1, h2⟩ := h
  have hl : j < cs.length := (List.getElem?_eq_some_iff.1 hj).1
  simp [World.cell?, h1, List.getElem?_append_left hl, hj]
end Go.Proofs.YtgdndekmkaknlaaGreat
