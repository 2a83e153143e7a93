/-
  A whole slice appended in a region that draws; what is left of heads.
-/
import Derived.Test.YtdkgmfogeabaoaaGreatDropM
import Derived.Test.YtdkgmfogeabaoaaGreatStLaw
import Derived.Test.YtdkgmfogeabaoaaGreatMacAt
import Derived.Test.YtdkgmfogeabaoaaGreatPackI
namespace Go.Proofs.YtdkgmfogeabaoaaGreat
open Go.RowKit
set_option linter.unusedVariables false
set_option linter.unusedSimpArgs false

theorem step_append_own {P : Program} {w : World} {ops : Array Oper} {o : Oper} {a : Act} {K : Act → World → Prop} {Q : Exit → Act → World → Prop} {E : Prop} (hgd : o.guard = none) (s x : Operand) (t : TypeId)
    (ho : o.op = .call { callee := .builtin .append, args := #[s, x], argTypes := #[t, t] })
    (base : Nat) (e : TypeId) (i : TypeInfo) (z : Value) (size bytes : Nat) (ht : P.underlying t = some (.slice e)) (hi : P.info? e = some i) (hz : i.zero = some z)
    (hsize : i.size = size) (hby : i.bytes = bytes) (hzs : z.cells.size = size) (hsz : 0 < size)
    (v : Value) (n : Nat) (xs : List Value) (hs : a.eval s = v) (hown : w.ownsRow base e size v n xs)
    (ad : Addr) (m c : Nat) (news : List Value) (hx : a.eval x = .slice (some ad) m c) (hl : news.length = m * size) (hnews : ∀ j u, news[j]? = some u → w.cell? (ad.add j) = some u) (h1 : ∀ u ∈ news, u.oneCell' = true)
    (h63 : n + m ≤ maxLen) (hbytes : (n + m) * bytes ≤ 140737488355328) (hbase : base ≤ w.heap.size)
    (h : ∀ v' w', w'.ownsRow base e size v' (n + m) (xs ++ news) → w.grownBy w' v.ownBlock → (v' = .slice none 0 0 ↔ v = .slice none 0 0 ∧ m = 0) → K (a.put o.dst v') w') :
    if Region.wanted o (yielded ops a.tmps) = true then Oper.wp P o a w K Q else E := by
  have hw : Region.wanted o (yielded ops a.tmps) = true := by simp [Region.wanted, hgd]
  rw [if_pos hw]
  exact wp_append_own w s x t ho base e i z size bytes ht hi hz hsize hby hzs hsz v n xs hs hown ad m c news hx hl hnews h1 h63 hbytes hbase h
theorem owns_recount {w : World} {B sz n n' : Nat} {e : TypeId} {v : Value} {xs xs' : List Value} (h : w.ownsRow B e sz v n xs) (hn : n = n') (hx : xs = xs') : w.ownsRow B e sz v n' xs' := by subst hn hx; exact h
theorem owns_some {w : World} {B sz n : Nat} {e : TypeId} {v : Value} {xs : List Value} (h : w.ownsRow B e sz v n xs) (hv : v ≠ .slice none 0 0) : ∃ g cap, v = .slice (some ⟨g, 0, none⟩) n cap := by
  rcases h.2 with ⟨e, _⟩ | ⟨g, cap, cur, e, _⟩
  · exact absurd e hv
  · exact ⟨g, cap, e⟩
theorem heads_erase {w : World} : ∀ (hs : List AV) (l : List Appl) (j : Nat), Heads w hs l → Heads w (hs.eraseIdx j) (l.eraseIdx j)
  | [], [], j, _ => heads_nil w
  | [], a :: s, j, h => absurd h.1 (by simp)
  | v :: t, [], j, h => absurd h.1 (by simp)
  | v :: t, a :: s, 0, h => (heads_cons h).2
  | v :: t, a :: s, j + 1, h => heads_put (heads_cons h).1 (heads_erase t s j (heads_cons h).2)
theorem KHas.erase {B : Nat} {w : World} {hs : List AV} {l : List Appl} (h : KHas B w hs l) (j : Nat) : KHas B w (hs.eraseIdx j) (l.eraseIdx j) :=
  ⟨heads_erase hs l j h.heads, fun v hv => h.own v (List.mem_of_mem_eraseIdx hv), h.apart.sublist (List.eraseIdx_sublist _ _)⟩
end Go.Proofs.YtdkgmfogeabaoaaGreat
