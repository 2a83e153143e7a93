/-
  Several texts of this claim in one: MarkO, CopyN, MarkV, ScS, HeldK, OwnM (pack.py put them together); each says in its own remark what is proved.
-/
import Derived.Test.YtbkchepelhkjlaaGreatPackB
import Derived.Laws.CopyOwn
import Derived.Deep.RegionLaw
import Derived.Deep.AppendLies
import Derived.Test.YtbkchepelhkjlaaGreatPackA
import Derived.Test.YtbkchepelhkjlaaGreatStAll
import Derived.Laws.AppendOwn
import Derived.Lib.SliceRun
import Derived.Deep.RegionWith
/-
 Rows that an answer owns; what the laws' own marks turn in them, and leave alone; walks over the dump.
-/
namespace Go.Proofs.YtbkchepelhkjlaaGreat
open Go.RowKit
set_option linter.unusedVariables false
theorem Cel.type {w : World} {t t' : TypeId} {g N N' : Nat} (h : Cel w t g N) (h' : Cel w t' g N') : t = t' := by
 obtain ⟨a, h1, _⟩ := h
 obtain ⟨b, h2, _⟩ := h'
 rw [h1] at h2
 cases h2
 rfl
/-- of all that was there nothing has turned but cells of the blocks of S -/
structure Mks (S : Nat → Prop) (w w' : World) : Prop where
 os : w'.os = w.os
 tape : w'.tape = w.tape
 output : w'.output = w.output
 size : w.heap.size ≤ w'.heap.size
 block : ∀ k, k < w.heap.size → ¬ S k → w'.heap[k]? = w.heap[k]?
 cel : ∀ t g N, Cel w t g N → Cel w' t g N
theorem Mks.refl (S : Nat → Prop) (w : World) : Mks S w w := ⟨rfl, rfl, rfl, Nat.le_refl _, fun _ _ _ => rfl, fun _ _ _ h => h⟩
theorem Mks.trans {S : Nat → Prop} {a b c : World} (h : Mks S a b) (k : Mks S b c) : Mks S a c :=
 ⟨k.os.trans h.os, k.tape.trans h.tape, k.output.trans h.output, Nat.le_trans h.size k.size, fun i hi ho => (k.block i (Nat.lt_of_lt_of_le hi h.size) ho).trans (h.block i hi ho), fun t g N x => k.cel t g N (h.cel t g N x)⟩
theorem Mks.mono {S S' : Nat → Prop} {a b : World} (h : Mks S a b) (hs : ∀ k, S k → S' k) : Mks S' a b :=
 ⟨h.os, h.tape, h.output, h.size, fun i hi ho => h.block i hi (fun hk => ho (hs i hk)), h.cel⟩
theorem Mks.of_below {S : Nat → Prop} {w w' : World} (hb : Below w.heap.size w w') : Mks S w w' := ⟨hb.os, hb.tape, hb.output, hb.size, fun i hi _ => hb.block i hi, fun t g N x => x.below hb⟩
theorem Mks.on {S : Nat → Prop} {a w w' : World} (h : Mks S a w) (hb : Below w.heap.size w w') : Mks S a w' := h.trans (.of_below hb)
theorem Mks.one (S : Nat → Prop) (w : World) (g j : Nat) (v : Value) (hg : S g) : Mks S w (w.setCell ⟨g, j, none⟩ v) :=
 ⟨rfl, rfl, rfl, by simp [World.setCell], fun k _ ho => Below.heap_setCell _ _ _ _ (by show k ≠ g; intro e; exact ho (e ▸ hg)), fun t g' N x => x.set g j v⟩
theorem Mks.sc {S : Nat → Prop} {a w : World} (h : Mks S a w) (g j : Nat) (v : Value) (hg : S g) : Mks S a (w.setCell ⟨g, j, none⟩ v) := h.trans (.one S w g j v hg)
theorem Mkd.mks {g : Nat} {w w' : World} (h : Mkd g (g + 1) w w') : Mks (fun k => k = g) w w' := ⟨h.os, h.tape, h.output, h.size, fun i hi ho => h.block i hi (by omega), h.cel⟩
theorem Mks.below {S : Nat → Prop} {B : Nat} {a w : World} (h : Mks S a w) (hS : ∀ k, S k → B ≤ k) (hB : B ≤ a.heap.size) : Below B a w :=
 ⟨h.os, h.tape, h.output, h.size, fun k hk => h.block k (by omega) (fun hs => by have := hS k hs; omega)⟩
theorem Mks.blk {S : Nat → Prop} {g : Nat} {a w : World} {arr : Array Value} {t : TypeId} (h : Mks S a w) (hb : Blk a g arr t) (ho : ¬ S g) : Blk w g arr t := (h.block g hb.lt ho).trans hb

/-- the block of a row of n things -/
def inR (ao : Option Addr) (n : Nat) (k : Nat) : Prop := n ≠ 0 ∧ ∃ o, ao = some ⟨k, o, none⟩
/-- a row of n things of sz cells in a block of its own, from B on and below E -/
def Own1 (B E : Nat) (w : World) (t : TypeId) (sz : Nat) (ao : Option Addr) (n : Nat) : Prop := n = 0 ∨ ∃ g M, ao = some ⟨g, 0, none⟩ ∧ B ≤ g ∧ g < E ∧ Cel w t g (M * sz) ∧ n ≤ M
/-- a row that is owned has room for as many as its capacity says -/
theorem own1_of {w : World} {B sz n n' c : Nat} {e : TypeId} {ao : Option Addr} {xs : List Value} (h : w.ownsRow B e sz (.slice ao n c) n' xs) : Own1 B w.heap.size w e sz ao c := by
 rcases h.2 with ⟨h1, _⟩ | ⟨g, cap, cur, h1, h2, h3, _, _, h4, _⟩
 ·cases h1; exact .inl rfl
 ·cases h1; exact .inr ⟨g, c, rfl, h2, lt_of_block h3, ⟨cur, h3, h4⟩, Nat.le_refl _⟩
theorem Own1.below {B E : Nat} {w w' : World} {t : TypeId} {sz n : Nat} {ao : Option Addr} (h : Own1 B E w t sz ao n) (hb : Below w.heap.size w w') : Own1 B E w' t sz ao n := by
 rcases h with h | ⟨g, M, h1, h2, h3, h4, h5⟩
 ·exact .inl h
 ·exact .inr ⟨g, M, h1, h2, h3, h4.below hb, h5⟩
theorem Own1.mks {B E : Nat} {w w' : World} {t : TypeId} {sz n : Nat} {ao : Option Addr} {S : Nat → Prop} (h : Own1 B E w t sz ao n) (hb : Mks S w w') : Own1 B E w' t sz ao n := by
 rcases h with h | ⟨g, M, h1, h2, h3, h4, h5⟩
 ·exact .inl h
 ·exact .inr ⟨g, M, h1, h2, h3, hb.cel _ _ _ h4, h5⟩
theorem Own1.sc {B E : Nat} {w : World} {t : TypeId} {sz n : Nat} {ao : Option Addr} (h : Own1 B E w t sz ao n) (k j : Nat) (v : Value) : Own1 B E (w.setCell ⟨k, j, none⟩ v) t sz ao n := by
 rcases h with h | ⟨g, M, h1, h2, h3, h4, h5⟩
 ·exact .inl h
 ·exact .inr ⟨g, M, h1, h2, h3, h4.set k j v, h5⟩
theorem Own1.mono {B E B' E' : Nat} {w : World} {t : TypeId} {sz n : Nat} {ao : Option Addr} (h : Own1 B E w t sz ao n) (h1 : B' ≤ B) (h2 : E ≤ E') : Own1 B' E' w t sz ao n := by
 rcases h with h | ⟨g, M, a, b, c, d⟩
 ·exact .inl h
 ·exact .inr ⟨g, M, a, by omega, by omega, d⟩
theorem Own1.lies {B E : Nat} {w : World} {t : TypeId} {sz n : Nat} {ao : Option Addr} (h : Own1 B E w t sz ao n) : ∀ k, inR ao n k → B ≤ k ∧ k < E ∧ ∃ N, Cel w t k N := by
 rintro k ⟨hn, o, e⟩
 rcases h with h | ⟨g, M, h1, h2, h3, h4, h5⟩
 ·exact absurd h hn
 ·rw [h1] at e
  cases e
  exact ⟨h2, h3, _, h4⟩
/-- rows of two types lie apart -/
theorem Own1.apart {B E B' E' : Nat} {w : World} {t t' : TypeId} {sz sz' n n' : Nat} {ao bo : Option Addr} (h : Own1 B E w t sz ao n) (h' : Own1 B' E' w t' sz' bo n') (ht : t ≠ t') : ∀ k, inR ao n k → ¬ inR bo n' k := fun k hk hk' => by
 obtain ⟨_, _, N, h1⟩ := h.lies k hk
 obtain ⟨_, _, N', h2⟩ := h'.lies k hk'
 exact ht (h1.type h2)

theorem cellMks {S : Nat → Prop} {w w' : World} {g p : Nat} {u : Value} (h : w.cell? ⟨g, p, none⟩ = some u) (hm : Mks S w w') (hg : ¬ S g) : w'.cell? ⟨g, p, none⟩ = some u :=
 (World.cell?_of_block (w := w) (a := ⟨g, p, none⟩) (hm.block g (cell_lt h) hg)).trans h
theorem QRow.mks {S : Nat → Prop} {w w' : World} {ao : Option Addr} {len : Nat} {l : List Q} (h : QRow w ao len l) (hm : Mks S w w') (hs : ∀ k, inR ao len k → ¬ S k) : QRow w' ao len l := by
 obtain ⟨h1, h2⟩ := h
 refine ⟨h1, ?_⟩
 rcases h2 with h2 | ⟨b, off, h3, h4⟩
 ·exact .inl h2
 ·by_cases hz : len = 0
  ·exact .inl hz
  ·have hb := hs b ⟨hz, off, h3⟩
   exact .inr ⟨b, off, h3, fun i h => let ⟨a, c, d, e⟩ := h4 i h; ⟨cellMks a hm hb, cellMks c hm hb, cellMks d hm hb, cellMks e hm hb⟩⟩
theorem MacRow.mks {S : Nat → Prop} {w w' : World} {ao : Option Addr} {len : Nat} {l : List Mac} (h : MacRow w ao len l) (hm : Mks S w w') (hs : ∀ k, inR ao len k → ¬ S k) : MacRow w' ao len l := by
 obtain ⟨h1, h2⟩ := h
 refine ⟨h1, ?_⟩
 rcases h2 with h2 | ⟨b, off, h3, h4⟩
 ·exact .inl h2
 ·by_cases hz : len = 0
  ·exact .inl hz
  ·have hb := hs b ⟨hz, off, h3⟩
   exact .inr ⟨b, off, h3, fun i h => let ⟨a, c, d, e⟩ := h4 i h; ⟨cellMks a hm hb, cellMks c hm hb, cellMks d hm hb, cellMks e hm hb⟩⟩
theorem ConRow.mks {S : Nat → Prop} {w w' : World} {ao : Option Addr} {len : Nat} {l : List Con} (h : ConRow w ao len l) (hm : Mks S w w') (hs : ∀ k, inR ao len k → ¬ S k) : ConRow w' ao len l := by
 obtain ⟨h1, h2⟩ := h
 refine ⟨h1, ?_⟩
 rcases h2 with h2 | ⟨b, off, h3, h4⟩
 ·exact .inl h2
 ·by_cases hz : len = 0
  ·exact .inl hz
  ·have hb := hs b ⟨hz, off, h3⟩
   exact .inr ⟨b, off, h3, fun i h => let ⟨a, c, d, e, f⟩ := h4 i h; ⟨cellMks a hm hb, cellMks c hm hb, cellMks d hm hb, cellMks e hm hb, cellMks f hm hb⟩⟩
theorem AskRow.mks {S : Nat → Prop} {w w' : World} {ao : Option Addr} {len : Nat} {l : List Ask} (h : AskRow w ao len l) (hm : Mks S w w') (hs : ∀ k, inR ao len k → ¬ S k) : AskRow w' ao len l := by
 obtain ⟨h1, h2⟩ := h
 refine ⟨h1, ?_⟩
 rcases h2 with h2 | ⟨b, off, h3, h4⟩
 ·exact .inl h2
 ·by_cases hz : len = 0
  ·exact .inl hz
  ·have hb := hs b ⟨hz, off, h3⟩
   exact .inr ⟨b, off, h3, fun i h => let ⟨a, c, d, e, f⟩ := h4 i h; ⟨cellMks a hm hb, cellMks c hm hb, cellMks d hm hb, cellMks e hm hb, cellMks f hm hb⟩⟩
theorem AVRow.mks {S : Nat → Prop} {w w' : World} {ao : Option Addr} {len : Nat} {l : List AV} (h : AVRow w ao len l) (hm : Mks S w w') (hs : ∀ k, inR ao len k → ¬ S k) : AVRow w' ao len l := by
 obtain ⟨h1, h2⟩ := h
 refine ⟨h1, ?_⟩
 rcases h2 with h2 | ⟨b, off, h3, h4⟩
 ·exact .inl h2
 ·by_cases hz : len = 0
  ·exact .inl hz
  ·have hb := hs b ⟨hz, off, h3⟩
   exact .inr ⟨b, off, h3, fun i h => let ⟨a, c, d⟩ := h4 i h; ⟨cellMks a hm hb, cellMks c hm hb, cellMks d hm hb⟩⟩
theorem AsksM.mks {S : Nat → Prop} {w w' : World} (hm : Mks S w w') : ∀ (l : List AV) (K : Nat), AsksM w K l → (∀ v ∈ l, ∀ k, inR v.ao v.len k → ¬ S k) → AsksM w' K l
 | [], _, _, _ => trivial
 | v :: t, K, h, hs => ⟨h.1.mks hm (hs v (by simp)), AsksM.mks hm t _ h.2 (fun u hu => hs u (by simp [hu]))⟩
theorem endM_le : ∀ (l : List AV) (K m : Nat), (∀ v ∈ l, v.len ≤ m) → endM K l ≤ K + l.length * (2 + 5 * m)
 | [], K, m, _ => by simp [endM]
 | v :: t, K, m, h => by
  have h1 := endM_le t (K + 2 + 5 * v.len) m (fun u hu => h u (by simp [hu]))
  have h2 := h v (by simp)
  simp only [endM, List.length_cons, Nat.add_mul]
  omega
/-- the asks of two applications lie apart -/
def Apart (u v : AV) : Prop := u.len = 0 ∨ v.len = 0 ∨ u.ao ≠ v.ao

/-- block g is M heads of applications, of which these are the first -/
def AVBlk (w : World) (g M : Nat) (l : List AV) : Prop := Cel w 41 g (M * 3) ∧ l.length ≤ M ∧ ∀ i (h : i < l.length), AVAt w g (i * 3) l[i]
theorem AVBlk.below {w w' : World} {g M : Nat} {l : List AV} (h : AVBlk w g M l) (hb : Below w.heap.size w w') : AVBlk w' g M l := ⟨h.1.below hb, h.2.1, fun i hi => (h.2.2 i hi).below hb⟩
theorem AVBlk.mks {S : Nat → Prop} {w w' : World} {g M : Nat} {l : List AV} (h : AVBlk w g M l) (hm : Mks S w w') (hs : ¬ S g) : AVBlk w' g M l :=
 ⟨hm.cel _ _ _ h.1, h.2.1, fun i hi => let ⟨a, b, c⟩ := h.2.2 i hi; ⟨cellMks a hm hs, cellMks b hm hs, cellMks c hm hs⟩⟩
theorem AVBlk.id {w : World} {g M i : Nat} {l : List AV} (h : AVBlk w g M l) (hi : i < l.length) (x : Int) : AVBlk (w.setCell ⟨g, i * 3, none⟩ (.int .i64 x)) g M (l.set i ⟨x, l[i].queue, l[i].ao, l[i].len, l[i].cap⟩) := by
 refine ⟨h.1.set _ _ _, by simpa using h.2.1, fun j hj => ?_⟩
 have hj' : j < l.length := by simpa using hj
 obtain ⟨a, b, c⟩ := h.2.2 j hj'
 by_cases e : i = j
 ·subst e
  simp only [List.getElem_set_self]
  exact ⟨World.cell?_setCell_same _ ⟨g, i * 3, none⟩ _ a, cellKeep b (by omega), cellKeep c (by omega)⟩
 ·rw [List.getElem_set_ne e]
  exact ⟨cellKeep a (by omega), cellKeep b (by omega), cellKeep c (by omega)⟩
theorem AVBlk.row {w : World} {g M : Nat} {l : List AV} (h : AVBlk w g M l) : AVRow w (some ⟨g, 0, none⟩) l.length l := ⟨rfl, .inr ⟨g, 0, rfl, fun i hi => by rw [Nat.zero_add]; exact h.2.2 i hi⟩⟩

end Go.Proofs.YtbkchepelhkjlaaGreat

/-
 The builtin copy over elements of several cells: as a law for the walk; rows of cells by what they begin with.
-/
namespace Go.Proofs.YtbkchepelhkjlaaGreat
open Go.RowKit
set_option linter.unusedVariables false
theorem run_copy_many {P : Program} (w : World) (dT sT ty elem : TypeId) (g o dLen dCap : Nat) (a : Addr) (sLen sCap : Nat) (cur : Array Value) (t : TypeId) (cs : List Value) (sz : Nat)
  (hu : P.underlying dT = some (.slice elem)) (hs : (P.info? elem).map (·.size) = some sz)
  (hg : w.heap[g]? = some (.cells cur t (0, 0))) (hn : cs.length = Nat.min sLen dLen * sz)
  (hsrc : ∀ j v, cs[j]? = some v → w.cell? (a.add j) = some v) (hfit : o + cs.length ≤ cur.size) (h1 : ∀ v ∈ cs, v.oneCell' = true) :
  (Builtin.copy_ #[dT, sT] ty #[.slice (some ⟨g, o, none⟩) dLen dCap, .slice (some a) sLen sCap]).run P w =
   .ok (goInt (Nat.min sLen dLen)) (w.setRow g (cur.toList.take o ++ cs ++ cur.toList.drop (o + cs.length)).toArray) := by
 have hl := run_loadCells_list (P := P) w a cs hsrc
 have hst := run_storeCells_at P g o t cs 0 cur w hg (by simpa using hfit) h1
 obtain ⟨m, hm⟩ : ∃ m, Nat.min sLen dLen = m := ⟨_, rfl⟩
 rw [hm] at hn ⊢
 cases hq : P.info? elem with
 | none => simp [hq] at hs
 | some i =>
  have hi : i.size = sz := by simpa [hq] using hs
  rw [hn] at hl
  simp [Builtin.copy_, run_underlying hu, Builtin.lenOf, Builtin.firstCells, sizeOf, typeInfo, hq, hi, hm, hl, hst]
theorem run_copy_zero {P : Program} (w : World) (dT sT ty elem : TypeId) (d a : Option Addr) (dLen dCap sLen sCap sz : Nat) (hu : P.underlying dT = some (.slice elem)) (hs : (P.info? elem).map (·.size) = some sz) (hn : Nat.min sLen dLen = 0) :
  (Builtin.copy_ #[dT, sT] ty #[.slice d dLen dCap, .slice a sLen sCap]).run P w = .ok (goInt 0) w := by
 cases hq : P.info? elem with
 | none => simp [hq] at hs
 | some i =>
  have hl : ∀ (x : Addr), (loadCells x 0).run P w = .ok #[] w := fun x => by simpa using run_loadCells_list (P := P) w x [] (by simp)
  cases d <;> cases a <;> simp [Builtin.copy_, run_underlying hu, Builtin.lenOf, Builtin.firstCells, sizeOf, typeInfo, hq, hn, storeCells, hl]

theorem mks_setRow (w : World) (g : Nat) (cur : List Value) (new : List Value) (t : TypeId) (hg : w.heap[g]? = some (.cells cur.toArray t (0, 0))) (hl : new.length = cur.length) : Mks (fun k => k = g) w (w.setRow g new.toArray) := by
 refine ⟨rfl, rfl, rfl, by simp [World.setRow], fun k _ hk => setRow_other w g k _ (by omega), fun t' g' N h => ?_⟩
 by_cases e : g' = g
 ·subst e
  obtain ⟨arr, h1, h2⟩ := h
  rw [hg] at h1
  cases h1
  exact ⟨_, setRow_heap w g' _ _ t _ hg, by simpa [hl] using h2⟩
 ·exact h.of_block (setRow_other w g g' _ e)

theorem wp_copy_many {P : Program} {w : World} {o : Oper} {a : Act} {K : Act → World → Prop} {Q : Exit → Act → World → Prop} (d s : Operand) (dT sT : TypeId)
  (ho : o.op = .call { callee := .builtin .copy, args := #[d, s], argTypes := #[dT, sT] }) (elem : TypeId) (sz : Nat) (hu : P.underlying dT = some (.slice elem)) (hsz : (P.info? elem).map (·.size) = some sz)
  (dp sp : Option Addr) (dLen dCap sLen sCap : Nat) (hd : a.eval d = .slice dp dLen dCap) (hs : a.eval s = .slice sp sLen sCap)
  (g off : Nat) (cur : List Value) (t : TypeId) (hg : w.heap[g]? = some (.cells cur.toArray t (0, 0))) (cs : List Value) (m : Nat) (hm : m = Nat.min sLen dLen) (hn : cs.length = m * sz)
  (hpos : m ≠ 0 → dp = some ⟨g, off, none⟩ ∧ ∃ ad, sp = some ad ∧ ∀ j v, cs[j]? = some v → w.cell? (ad.add j) = some v)
  (hfit : off + cs.length ≤ cur.length) (h1 : ∀ v ∈ cs, v.oneCell' = true)
  (h : ∀ w', Hid (w'.heap[g]? = some (.cells (splice cur off cs).toArray t (0, 0))) → Hid (Mks (fun k => k = g) w w') → w'.heap.size = w.heap.size → K (a.put o.dst (goInt m)) w') :
  Oper.wp P o a w K Q := by
 by_cases h0 : m = 0
 ·subst h0
  obtain rfl : cs = [] := List.eq_nil_of_length_eq_zero (by simpa using hn)
  have hrun := run_copy_zero (P := P) w dT sT o.type elem dp sp dLen dCap sLen sCap sz hu hsz hm.symm
  unfold Oper.wp
  simp [execOp, ho, resolve, invoke, builtin, hd, hs, hrun, Result.andThen]
  exact h w (show _ = _ by simpa [splice] using hg) (Mks.refl _ _) rfl
 ·obtain ⟨rfl, ad, rfl, hsrc⟩ := hpos h0
  have hrun := run_copy_many (P := P) w dT sT o.type elem g off dLen dCap ad sLen sCap cur.toArray t cs sz hu hsz hg (by rw [hn, hm]) hsrc (by simpa using hfit) h1
  unfold Oper.wp
  rw [← hm] at hrun
  simp [execOp, ho, resolve, invoke, builtin, hd, hs, hrun, Result.andThen]
  have e : (List.take off cur ++ (cs ++ List.drop (off + cs.length) cur)) = splice cur off cs := rfl
  have hh := h (w.setRow g (splice cur off cs).toArray) (show _ = _ from setRow_heap w g _ _ t _ hg) (mks_setRow w g cur _ t hg (length_splice cur off cs hfit)) (by simp [World.setRow])
  rw [← e] at hh
  exact hh
theorem wpList_copy_many {P : Program} {w : World} {ops : Array Oper} {rest : List Oper} {o : Oper} {a : Act} {Q : Exit → Act → World → Prop} (hgd : o.guard = none) (d s : Operand) (dT sT : TypeId)
  (ho : o.op = .call { callee := .builtin .copy, args := #[d, s], argTypes := #[dT, sT] }) (elem : TypeId) (sz : Nat) (hu : P.underlying dT = some (.slice elem)) (hsz : (P.info? elem).map (·.size) = some sz)
  (dp sp : Option Addr) (dLen dCap sLen sCap : Nat) (hd : a.eval d = .slice dp dLen dCap) (hs : a.eval s = .slice sp sLen sCap)
  (g off : Nat) (cur : List Value) (t : TypeId) (hg : w.heap[g]? = some (.cells cur.toArray t (0, 0))) (cs : List Value) (m : Nat) (hm : m = Nat.min sLen dLen) (hn : cs.length = m * sz)
  (hpos : m ≠ 0 → dp = some ⟨g, off, none⟩ ∧ ∃ ad, sp = some ad ∧ ∀ j v, cs[j]? = some v → w.cell? (ad.add j) = some v)
  (hfit : off + cs.length ≤ cur.length) (h1 : ∀ v ∈ cs, v.oneCell' = true)
  (h : ∀ w', Hid (w'.heap[g]? = some (.cells (splice cur off cs).toArray t (0, 0))) → Hid (Mks (fun k => k = g) w w') → w'.heap.size = w.heap.size → wpList P ops Q rest (a.put o.dst (goInt m)) w') :
  wpList P ops Q (o :: rest) a w :=
 wpList_plain hgd fun _ hK => wp_copy_many d s dT sT ho elem sz hu hsz dp sp dLen dCap sLen sCap hd hs g off cur t hg cs m hm hn hpos hfit h1 fun w' a1 a2 a3 => hK _ _ (h w' a1 a2 a3)
theorem step_copy_many {P : Program} {w : World} {ops : Array Oper} {o : Oper} {a : Act} {K : Act → World → Prop} {Q : Exit → Act → World → Prop} {E : Prop} (hgd : o.guard = none) (d s : Operand) (dT sT : TypeId)
  (ho : o.op = .call { callee := .builtin .copy, args := #[d, s], argTypes := #[dT, sT] }) (elem : TypeId) (sz : Nat) (hu : P.underlying dT = some (.slice elem)) (hsz : (P.info? elem).map (·.size) = some sz)
  (dp sp : Option Addr) (dLen dCap sLen sCap : Nat) (hd : a.eval d = .slice dp dLen dCap) (hs : a.eval s = .slice sp sLen sCap)
  (g off : Nat) (cur : List Value) (t : TypeId) (hg : w.heap[g]? = some (.cells cur.toArray t (0, 0))) (cs : List Value) (m : Nat) (hm : m = Nat.min sLen dLen) (hn : cs.length = m * sz)
  (hpos : m ≠ 0 → dp = some ⟨g, off, none⟩ ∧ ∃ ad, sp = some ad ∧ ∀ j v, cs[j]? = some v → w.cell? (ad.add j) = some v)
  (hfit : off + cs.length ≤ cur.length) (h1 : ∀ v ∈ cs, v.oneCell' = true)
  (h : ∀ w', Hid (w'.heap[g]? = some (.cells (splice cur off cs).toArray t (0, 0))) → Hid (Mks (fun k => k = g) w w') → w'.heap.size = w.heap.size → K (a.put o.dst (goInt m)) w') :
  if Region.wanted o (yielded ops a.tmps) = true then Oper.wp P o a w K Q else E := by
 have hw : Region.wanted o (yielded ops a.tmps) = true := by simp [Region.wanted, hgd]
 rw [if_pos hw]
 exact wp_copy_many d s dT sT ho elem sz hu hsz dp sp dLen dCap sLen sCap hd hs g off cur t hg cs m hm hn hpos hfit h1 h

/-- block g is M cells of type t that may be written, of which these are the first -/
def Lay (w : World) (t : TypeId) (g M : Nat) (cs : List Value) : Prop := ∃ R : List Value, w.heap[g]? = some (.cells (cs ++ R).toArray t (0, 0)) ∧ (cs ++ R).length = M
theorem Lay.lt {w : World} {t : TypeId} {g M : Nat} {cs : List Value} (h : Lay w t g M cs) : g < w.heap.size := let ⟨_, h, _⟩ := h; lt_of_block h
theorem Lay.of_block {w w' : World} {t : TypeId} {g M : Nat} {cs : List Value} (h : Lay w t g M cs) (e : w'.heap[g]? = w.heap[g]?) : Lay w' t g M cs := let ⟨R, h1, h2⟩ := h; ⟨R, e.trans h1, h2⟩
theorem Lay.below {w w' : World} {t : TypeId} {g M : Nat} {cs : List Value} (h : Lay w t g M cs) (hb : Below w.heap.size w w') : Lay w' t g M cs := h.of_block (hb.block g h.lt)
theorem Lay.other {w : World} {t : TypeId} {g M : Nat} {cs : List Value} (h : Lay w t g M cs) (k j : Nat) (v : Value) (hk : g ≠ k) : Lay (w.setCell ⟨k, j, none⟩ v) t g M cs := h.of_block (heap_setCell_other w ⟨k, j, none⟩ g v hk)
theorem Lay.cel {w : World} {t : TypeId} {g M : Nat} {cs : List Value} (h : Lay w t g M cs) : Cel w t g M := let ⟨R, h1, h2⟩ := h; ⟨_, h1, by simpa using h2⟩
theorem Lay.cell {w : World} {t : TypeId} {g M : Nat} {cs : List Value} (h : Lay w t g M cs) {j : Nat} {u : Value} (hj : cs[j]? = some u) : w.cell? ⟨g, j, none⟩ = some u := by
 obtain ⟨R, h1, h2⟩ := h
 have hl : j < cs.length := (List.getElem?_eq_some_iff.1 hj).1
 simp [World.cell?, h1, List.getElem?_append_left hl, hj]
end Go.Proofs.YtbkchepelhkjlaaGreat

/-
 A state that is an answer and owns its memory: what the laws' own markState turns in it, and heldState finds again; walks over the dump.
-/
namespace Go.Proofs.YtbkchepelhkjlaaGreat
open Go.RowKit
set_option linter.unusedVariables false
/-- what is there of a list is no more than its room -/
structure SCap (x : Sls) : Prop where
 q : x.ql ≤ x.qc
 a : x.al ≤ x.ac
 m : x.ml ≤ x.mc
 c : x.cl ≤ x.cc
/-- each list's block has the room that the list says -/
def RmS (B E : Nat) (w : World) (x : Sls) (hs : List AV) : Prop := Own1 B E w 59 4 x.qa x.qc ∧ Own1 B E w 41 3 x.aa x.ac ∧ Own1 B E w 56 4 x.ma x.mc ∧ Own1 B E w 70 5 x.ca x.cc ∧ ∀ v ∈ hs, Own1 B E w 106 5 v.ao v.cap
theorem RmS.map {B E B' E' : Nat} {w w' : World} {x : Sls} {hs : List AV} (h : RmS B E w x hs) (f : ∀ {t : TypeId} {sz n : Nat} {ao : Option Addr}, Own1 B E w t sz ao n → Own1 B' E' w' t sz ao n) : RmS B' E' w' x hs := ⟨f h.1, f h.2.1, f h.2.2.1, f h.2.2.2.1, fun v hv => f (h.2.2.2.2 v hv)⟩
theorem RmS.below {B E : Nat} {w w' : World} {x : Sls} {hs : List AV} (h : RmS B E w x hs) (hb : Below w.heap.size w w') : RmS B E w' x hs := h.map (fun k => k.below hb)
theorem RmS.mono {B E B' E' : Nat} {w : World} {x : Sls} {hs : List AV} (h : RmS B E w x hs) (h1 : B' ≤ B) (h2 : E ≤ E') : RmS B' E' w x hs := h.map (fun k => k.mono h1 h2)
theorem RmS.mks {B E : Nat} {S : Nat → Prop} {w w' : World} {x : Sls} {hs : List AV} (h : RmS B E w x hs) (hm : Mks S w w') : RmS B E w' x hs := h.map (fun k => k.mks hm)
theorem RmS.sc {B E : Nat} {w : World} {x : Sls} {hs : List AV} (h : RmS B E w x hs) (k j : Nat) (v : Value) : RmS B E (w.setCell ⟨k, j, none⟩ v) x hs := h.map (fun o => o.sc k j v)
/-- a state whose lists lie in blocks of their own, from B on and below E -/
structure SAns (B E : Nat) (w : World) (x : Sls) (s : St) (hs : List AV) : Prop where
 row : SRow w x s
 q : Own1 B E w 59 4 x.qa x.ql
 a : Own1 B E w 41 3 x.aa x.al
 m : Own1 B E w 56 4 x.ma x.ml
 c : Own1 B E w 70 5 x.ca x.cl
 av : AVRow w x.aa x.al hs
 heads : Heads w hs s.apps
 asks : ∀ v ∈ hs, Own1 B E w 106 5 v.ao v.len
 apart : hs.Pairwise Apart
 cap : SCap x
 rm : RmS B E w x hs
theorem Heads.below {w w' : World} {hs : List AV} {l : List Appl} (h : Heads w hs l) (hb : Below w.heap.size w w') : Heads w' hs l := ⟨h.1, fun i h1 h2 => let ⟨a, b, c, d⟩ := h.2 i h1 h2; ⟨a, b, c.below hb, d⟩⟩
theorem SAns.below {B E : Nat} {w w' : World} {x : Sls} {s : St} {hs : List AV} (h : SAns B E w x s hs) (hb : Below w.heap.size w w') : SAns B E w' x s hs :=
 ⟨h.row.below hb, h.q.below hb, h.a.below hb, h.m.below hb, h.c.below hb, h.av.below hb, h.heads.below hb, fun v hv => (h.asks v hv).below hb, h.apart, h.cap, h.rm.below hb⟩
theorem SAns.mono {B E B' E' : Nat} {w : World} {x : Sls} {s : St} {hs : List AV} (h : SAns B E w x s hs) (h1 : B' ≤ B) (h2 : E ≤ E') : SAns B' E' w x s hs :=
 ⟨h.row, h.q.mono h1 h2, h.a.mono h1 h2, h.m.mono h1 h2, h.c.mono h1 h2, h.av, h.heads, fun v hv => (h.asks v hv).mono h1 h2, h.apart, h.cap, h.rm.mono h1 h2⟩
/-- what is turned lies outside of it -/
theorem SAns.mks {B E : Nat} {S : Nat → Prop} {w w' : World} {x : Sls} {s : St} {hs : List AV} (h : SAns B E w x s hs) (hm : Mks S w w') (hS : ∀ k, S k → k < B ∨ E ≤ k) : SAns B E w' x s hs := by
 have key : ∀ {t : TypeId} {sz n : Nat} {ao : Option Addr}, Own1 B E w t sz ao n → ∀ k, inR ao n k → ¬ S k := fun ho k hk hs => by
  obtain ⟨h1, h2, _⟩ := ho.lies k hk
  have := hS k hs
  omega
 have hrow : Heads w' hs s.apps := ⟨h.heads.1, fun i h1 h2 => by
  obtain ⟨a, b, c, d⟩ := h.heads.2 i h1 h2
  exact ⟨a, b, c.mks hm (key (h.asks _ (List.getElem_mem h1))), d⟩⟩
 have hav := h.av.mks hm (key h.a)
 refine ⟨⟨h.row.1.mks hm (key h.q), ?_, h.row.2.2.1.mks hm (key h.m), h.row.2.2.2.mks hm (key h.c)⟩, h.q.mks hm, h.a.mks hm, h.m.mks hm, h.c.mks hm, hav, hrow, fun v hv => (h.asks v hv).mks hm, h.apart, h.cap, h.rm.mks hm⟩
 refine ⟨h.row.2.1.1, ?_⟩
 rcases hav.2 with e | ⟨b, off, e, hh⟩
 ·exact .inl e
 ·refine .inr ⟨b, off, e, fun i hi => ?_⟩
  have hi' : i < hs.length := by rw [h.heads.1]; exact hi
  obtain ⟨a1, a2, a3, a4⟩ := hrow.2 i hi' hi
  obtain ⟨c1, c2, c3⟩ := hh i hi'
  rw [a1] at c1
  rw [a2] at c2
  exact ⟨hs[i].ao, hs[i].len, hs[i].cap, c1, c2, c3, a3, a4⟩
/-- a state that bears its marks -/
structure SMk (w : World) (x : Sls) (hs : List AV) : Prop where
 q : QRow w x.qa x.ql (marksQ x.ql)
 a : AVRow w x.aa x.al (hsM (1 + 4 * x.ql) hs)
 k : AsksM w (1 + 4 * x.ql) hs
 m : MacRow w x.ma x.ml (marksM (endM (1 + 4 * x.ql) hs) x.ml)
 c : ConRow w x.ca x.cl (marksC (endM (1 + 4 * x.ql) hs + 4 * x.ml) x.cl)
 z : x.ql = 0 ∨ ∃ g, x.qa = some ⟨g, 0, none⟩
theorem SMk.below {w w' : World} {x : Sls} {hs : List AV} (h : SMk w x hs) (hb : Below w.heap.size w w') : SMk w' x hs := ⟨h.q.below hb, h.a.below hb, AsksM.below hb _ _ h.k, h.m.below hb, h.c.below hb, h.z⟩
/-- the number behind all marks of a state -/
def endS (x : Sls) (hs : List AV) : Nat := endM (1 + 4 * x.ql) hs + 4 * x.ml + 5 * x.cl
structure SLim (x : Sls) (hs : List AV) : Prop where
 q : x.ql ≤ 1048576
 a : x.al ≤ 1048576
 m : x.ml ≤ 1048576
 c : x.cl ≤ 1048576
 k : ∀ v ∈ hs, v.len ≤ 1048576
 n : hs.length = x.al
theorem SLim.e {x : Sls} {hs : List AV} (h : SLim x hs) : 1 + 4 * x.ql ≤ endM (1 + 4 * x.ql) hs ∧ endM (1 + 4 * x.ql) hs ≤ 10000000000000 := by
 have h1 := endM_ge hs (1 + 4 * x.ql)
 have h2 := endM_le hs (1 + 4 * x.ql) 1048576 h.k
 have h3 := h.q
 have h4 : hs.length * (2 + 5 * 1048576) ≤ 1048576 * (2 + 5 * 1048576) := Nat.mul_le_mul_right _ (by have := h.n; have := h.a; omega)
 omega

end Go.Proofs.YtbkchepelhkjlaaGreat

/-
 A cell written with what stands there: the same world.
-/
namespace Go.Proofs.YtbkchepelhkjlaaGreat
open Go.RowKit
set_option linter.unusedVariables false
theorem set_idemS {arr : Array Value} {j : Nat} {x : Value} (h : arr[j]? = some x) : arr.setIfInBounds j x = arr := by
 apply Array.ext
 ·simp
 ·intro i h1 h2
  rw [Array.getElem_setIfInBounds]
  split
  ·rename_i e
   subst e
   rw [Array.getElem?_eq_getElem h2] at h
   exact (Option.some.inj h).symm
  ·rfl
/-- a cell that is written with what stands there: nothing turns -/
theorem sc_same {w : World} {g j : Nat} {x : Value} (h : w.cell? ⟨g, j, none⟩ = some x) : w.setCell ⟨g, j, none⟩ x = w := by
 cases ho : w.heap[g]? with
 | none => simp [World.cell?, ho] at h
 | some o =>
  cases o with
  | cells cur t fr =>
   have hx : cur[j]? = some x := by simpa [World.cell?, ho] using h
   rw [setCell_eq_setRow w g j cur t fr x ho, set_idemS hx]
   exact setRow_self w g cur t fr ho
  | _ => simp [World.cell?, ho] at h
end Go.Proofs.YtbkchepelhkjlaaGreat

/-
 Words on worlds that calls and stores behind them keep; all that was there stands.
-/
namespace Go.Proofs.YtbkchepelhkjlaaGreat
open Go.RowKit
set_option linter.unusedVariables false
/-- what a word on worlds bears -/
structure Holds (S : World → Prop) (w0 : World) (n : Nat) : Prop where
 call : ∀ {wx wy : World}, S wx → Below wx.heap.size wx wy → S wy
 set : ∀ {wx : World} (k j : Nat) (v : Value), S wx → n ≤ k → S (wx.setCell ⟨k, j, none⟩ v)
 size : ∀ {wx : World}, S wx → n ≤ wx.heap.size
 below : ∀ {wx : World}, S wx → Below w0.heap.size w0 wx
theorem Holds.drew {S : World → Prop} {w0 : World} {n : Nat} (h : Holds S w0 n) {wx : World} (hs : S wx) : S wx.drew := h.call hs (Below.refl _ _).drew
theorem Holds.al {S : World → Prop} {w0 : World} {n : Nat} (h : Holds S w0 n) {wx : World} (hs : S wx) (o : Obj) : S (wx.alloc o) := h.call hs (below_al (Below.refl _ _) o)
theorem Holds.set2 {S : World → Prop} {w0 : World} {n : Nat} (h : Holds S w0 n) {wx : World} (hs : S wx) (k : Nat) (a b : Value) (hk : n ≤ k) : S ((wx.setCell ⟨k, 0, none⟩ a).setCell ⟨k, 1, none⟩ b) := h.set k 1 b (h.set k 0 a hs hk) hk
/-- all that was there stands -/
def Kp (w1 wx : World) : Prop := Below w1.heap.size w1 wx
theorem kp_holds (w1 : World) : Holds (Kp w1) w1 w1.heap.size where
 call := fun h hb => below_on h hb
 set := fun k j v h hk => below_sc h _ _ _ hk
 size := fun h => h.size
 below := fun h => h
theorem Kp.cell {w1 wx : World} (h : Kp w1 wx) {b j : Nat} {v : Value} (hc : w1.cell? ⟨b, j, none⟩ = some v) : wx.cell? ⟨b, j, none⟩ = some v := (Below.cell h (p := ⟨b, j, none⟩) (cell_lt hc)).trans hc
theorem Kp.new (w1 : World) : Kp w1 w1 := Below.refl _ _
end Go.Proofs.YtbkchepelhkjlaaGreat

/-
 Lists of machines that own their memory; the library's Clone of them (mkown.py wrote this); walks over the dump.
-/
namespace Go.Proofs.YtbkchepelhkjlaaGreat
open Go.RowKit
set_option linter.unusedVariables false
abbrev mcell (q : Mac) : List Value := [.string (bs q.name), .int .i64 q.mem, .int .i64 q.cpu, .int .i64 q.seen]
def mcells : List Mac → List Value
 | [] => []
 | q :: t => mcell q ++ mcells t
theorem mcells_app (a : List Mac) (q : Mac) : mcells (a ++ [q]) = mcells a ++ mcell q := by
 induction a with
 | nil => rfl
 | cons x t ih => rw [List.cons_append, mcells, mcells, ih, List.append_assoc]
theorem mcells_len : ∀ l : List Mac, (mcells l).length = l.length * 4
 | [] => rfl
 | q :: t => by rw [mcells, List.length_append, mcells_len t]; simp; omega
theorem mcells_at : ∀ (l : List Mac) (i : Nat) (h : i < l.length), (mcells l)[i * 4]? = some (.string (bs l[i].name)) ∧ (mcells l)[i * 4 + 1]? = some (.int .i64 l[i].mem) ∧ (mcells l)[i * 4 + 2]? = some (.int .i64 l[i].cpu) ∧ (mcells l)[i * 4 + 3]? = some (.int .i64 l[i].seen)
 | q :: t, 0, _ => ⟨rfl, rfl, rfl, rfl⟩
 | q :: t, i + 1, h => by
  have e := mcells_at t i (by simpa using h)
  have k : ∀ j, (mcells (q :: t))[(i + 1) * 4 + j]? = (mcells t)[i * 4 + j]? := fun j => by
   rw [mcells, show (i + 1) * 4 + j = (mcell q).length + (i * 4 + j) by simp; omega, List.getElem?_append_right (by omega)]
   congr 1
   omega
  have k0 := k 0
  simp only [Nat.add_zero] at k0
  rw [k0, k 1, k 2, k 3]
  simpa using e
theorem mcells_row {w : World} {b off len : Nat} {l : List Mac} (h : MacRow w (some ⟨b, off, none⟩) len l) : ∀ j u, (mcells l)[j]? = some u → w.cell? ⟨b, off + j, none⟩ = some u := fun j u hj => by
 have hjl : j < l.length * 4 := by rw [← mcells_len]; exact (List.getElem?_eq_some_iff.1 hj).1
 obtain ⟨h1, h2⟩ := h
 rcases h2 with h2 | ⟨b', off', e, h4⟩
 ·omega
 ·cases e
  have hi : j / 4 < l.length := by omega
  obtain ⟨a0, a1, a2, a3⟩ := mcells_at l (j / 4) hi
  obtain ⟨c0, c1, c2, c3⟩ := h4 (j / 4) hi
  rcases (show j % 4 = 0 ∨ j % 4 = 1 ∨ j % 4 = 2 ∨ j % 4 = 3 by omega) with e | e | e | e
  ·rw [show j = j / 4 * 4 by omega] at hj ⊢; rw [a0] at hj; cases hj; exact c0
  ·rw [show j = j / 4 * 4 + 1 by omega] at hj ⊢; rw [a1] at hj; cases hj; rw [← Nat.add_assoc]; exact c1
  ·rw [show j = j / 4 * 4 + 2 by omega] at hj ⊢; rw [a2] at hj; cases hj; rw [← Nat.add_assoc]; exact c2
  ·rw [show j = j / 4 * 4 + 3 by omega] at hj ⊢; rw [a3] at hj; cases hj; rw [← Nat.add_assoc]; exact c3
theorem mcells_one : ∀ (l : List Mac), ∀ u ∈ mcells l, u.oneCell' = true
 | [], u, h => by simp [mcells] at h
 | q :: t, u, h => by
  rw [mcells, List.mem_append] at h
  rcases h with h | h
  ·simp at h
   rcases h with rfl | rfl | rfl | rfl <;> rfl
  ·exact mcells_one t u h
/-- v is a list of these machines, in memory of its own from block B on -/
def MOwn (B : Nat) (w : World) (v : Value) (l : List Mac) : Prop := w.ownsRow B 56 4 v l.length (mcells l)
theorem mown_nil (B : Nat) (w : World) : MOwn B w (.slice none 0 0) [] := World.ownsRow_nil _ _ _ _
theorem mown_empty (w : World) : w.alloc (.cells #[] 56) |>.ownsRow w.heap.size 56 4 (.slice (some ⟨w.heap.size, 0, none⟩) 0 0) 0 [] :=
 ⟨rfl, .inr ⟨w.heap.size, 0, #[], rfl, Nat.le_refl _, by show (w.heap.push _)[w.heap.size]? = _; simp, Nat.le_refl _, by unfold maxLen; omega, rfl, rfl⟩⟩
theorem mown_below {w w' : World} {B : Nat} {v : Value} {l : List Mac} (h : MOwn B w v l) (hb : Below w.heap.size w w') : MOwn B w' v l :=
 World.ownsRow.kept h (grownBy_below (grownBy_refl w none) hb) (by by_cases e : v.ownBlock = none; exact .inl e; exact .inr e)
theorem mown_base {w : World} {B B' : Nat} {v : Value} {l : List Mac} (h : MOwn B w v l) (hb : B' ≤ B) : MOwn B' w v l := by
 obtain ⟨h1, h2⟩ := h
 refine ⟨h1, ?_⟩
 rcases h2 with h2 | ⟨g, cap, cur, a, b, c⟩
 ·exact .inl h2
 ·exact .inr ⟨g, cap, cur, a, Nat.le_trans hb b, c⟩
theorem mown_row {w : World} {B : Nat} {v : Value} {l : List Mac} (h : MOwn B w v l) : ∃ ao cap, v = .slice ao l.length cap ∧ MacRow w ao l.length l ∧ l.length ≤ cap ∧ (l ≠ [] → ∃ g cur, ao = some ⟨g, 0, none⟩ ∧ B ≤ g ∧ w.heap[g]? = some (.cells cur 56 (0, 0)) ∧ cur.size = cap * 4) := by
 rcases h.2 with ⟨rfl, h0⟩ | ⟨g, cap, cur, rfl, h1, h2, h3, h4, h5, h6⟩
 ·exact ⟨none, 0, by rw [h0], ⟨rfl, .inl h0⟩, by omega, fun hn => absurd (List.length_eq_zero_iff.1 h0) hn⟩
 ·refine ⟨some ⟨g, 0, none⟩, cap, rfl, ⟨rfl, .inr ⟨g, 0, rfl, fun i hi => ?_⟩⟩, h3, fun _ => ⟨g, cur, rfl, h1, h2, h5⟩⟩
  obtain ⟨a, b, c, d⟩ := mcells_at l i hi
  have k : ∀ j (v : Value), j < l.length * 4 → (mcells l)[j]? = some v → w.cell? ⟨g, j, none⟩ = some v := fun j v hj hv => by
   rw [← h6, List.getElem?_take_of_lt hj] at hv
   simp [World.cell?, h2]
   simpa using hv
  unfold MacAt
  rw [Nat.zero_add]
  exact ⟨k _ _ (by omega) a, k _ _ (by omega) b, k _ _ (by omega) c, k _ _ (by omega) d⟩
theorem mown_other {w : World} {B : Nat} {v : Value} {l : List Mac} (h : MOwn B w v l) (k j : Nat) (x : Value) (hk : k < B) : MOwn B (w.setCell ⟨k, j, none⟩ x) v l := by
 obtain ⟨h1, h2⟩ := h
 refine ⟨h1, ?_⟩
 rcases h2 with h2 | ⟨g, cap, cur, a, b, c, d⟩
 ·exact .inl h2
 ·exact .inr ⟨g, cap, cur, a, b, (heap_setCell_other w ⟨k, j, none⟩ g x (show g ≠ k by omega)).trans c, d⟩
theorem Tryz.infoMachine : (Tryz.prog.info? 56).map (fun i => (i.zero, i.size, i.bytes)) = some (some (.agg #[.string ByteArray.empty, .int .i64 0, .int .i64 0, .int .i64 0]), 4, 40) := by kernel_rfl

set_option maxRecDepth 100000 in
set_option maxHeartbeats 2000000 in
theorem cloneMachine_any (ao : Option Addr) (len cap : Nat) (l : List Mac) (w : World) (h : MacRow w ao len l) (hl : len ≤ 1048576) :
  Calls Tryz.prog 136 #[.slice ao len cap] w fun e w' => ∃ v, e = .returned v ∧ MOwn w.heap.size w' v l ∧ Below w.heap.size w w' := by
 obtain ⟨i0, hi, hz0, hz1, hz2⟩ := info_parts Tryz.infoMachine
 cases ao with
 | none =>
  have hn : len = 0 := by rcases h.2 with h | ⟨b, off, e, _⟩; exact h; cases e
  subst hn
  have hl0 : l = [] := List.length_eq_zero_iff.1 h.1.symm
  subst hl0
  have hnl : ∀ wx, (binOp .eql 26 (.slice none 0 cap) (.slice none 0 0)).run Tryz.prog wx = .ok (.bool true) wx := fun wx => Lib.run_eql_slice_nil wx _ _ none 0 cap 0 0 Tryz.underlying26
  clear h hl
  go_enter Tryz.func136, Tryz.ntmps136
  go_wp2
  go_ret
  exact ⟨_, rfl, mown_nil _ _, Below.refl _ _⟩
 | some ad =>
  have hnew : ∀ j u, (mcells l)[j]? = some u → (w.alloc (.cells #[] 56)).cell? (ad.add j) = some u := fun j u hj => by
   have hjl : j < l.length * 4 := by rw [← mcells_len]; exact (List.getElem?_eq_some_iff.1 hj).1
   rcases h.2 with h0 | ⟨b, off, e, _⟩
   ·have := h.1; omega
   ·cases e
    have := mcells_row (h.below (below_al (Below.refl _ w) (.cells #[] 56))) j u hj
    rw [Lib.add_plain]
    exact this
  have HNW := hide hnew
  have HLN := hide h.1
  have hown := mown_empty w
  have hll : (mcells l).length = len * 4 := by rw [mcells_len, h.1]
  have hone := mcells_one l
  have hnl : ∀ wx, (binOp .eql 26 (.slice (some ad) len cap) (.slice none 0 0)).run Tryz.prog wx = .ok (.bool false) wx := fun wx => Lib.run_eql_slice_nil wx _ _ (some ad) len cap 0 0 Tryz.underlying26
  clear h hnew
  go_enter Tryz.func136, Tryz.ntmps136
  go_wp2_with (at_builtin; refine wpList_append_own _ rfl _ _ 26 rfl w.heap.size 56 i0 (.agg #[.string ByteArray.empty, .int .i64 0, .int .i64 0, .int .i64 0]) 4 40 Tryz.underlying26 hi hz0 hz1 hz2 rfl (by decide) _ _ _ rfl hown ad len cap (mcells l) rfl hll (unhide HNW) hone ?c3 ?c4 ?c5 ?_)
  case c3 => unfold maxLen; omega
  case c4 => omega
  case c5 => simp
  intro v' w3 hown' hgrow _
  have HO := hide (show MOwn w.heap.size w3 v' l by
   unfold MOwn
   rw [← unhide HLN]
   simpa using hown')
  have HB := hide (show Below w.heap.size w w3 from (below_al (Below.refl _ w) (.cells #[] 56)).grown hgrow (by simp) (fun k e => by simp [Value.ownBlock] at e; omega))
  clear hown' hgrow hown hone hll
  go_wp2
  go_ret
  exact ⟨_, rfl, unhide HO, unhide HB⟩
end Go.Proofs.YtbkchepelhkjlaaGreat
