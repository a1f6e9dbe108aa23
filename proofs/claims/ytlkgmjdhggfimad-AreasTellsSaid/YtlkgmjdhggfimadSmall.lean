/- Small laws that several packages want. -/
import Derived.Test.YtlkgmjdhggfimadStay
import Derived.Test.YtlkgmjdhggfimadLaxI
import Derived.BigQuiet
import Derived.WalkSmall
import Derived.Deep.Cut
namespace Go.Proofs.Ytlkgmjdhggfimad
open Go.RowKit

def bel (m n : Int) : Bool := decide (0 ≤ m) && decide (m < n)
theorem bel_iff {m n : Int} : bel m n = true ↔ 0 ≤ m ∧ m < n := by simp [bel]
theorem bel_no {m n : Int} (h : ¬ (0 ≤ m ∧ m < n)) : bel m n = false := by
  cases hb : bel m n with
  | false => rfl
  | true => exact absurd (bel_iff.1 hb) h

theorem anyAt {α : Type} {p : α → Bool} {fs : List α} {k : Nat} {q : α} (h : fs[k]? = some q) (hq : p q = true) : fs.any p = true := List.any_eq_true.2 ⟨q, List.mem_of_getElem? h, hq⟩
theorem anyNo {α : Type} {p : α → Bool} {fs : List α} (hb : ∀ (j : Nat) x, fs[j]? = some x → p x = false) : fs.any p = false := List.any_eq_false.2 fun x hx => by
  obtain ⟨j, hj⟩ := List.getElem?_of_mem hx
  rw [hb j x hj]
  decide

theorem drop_cons {α : Type} {l : List α} {k : Nat} {q : α} (h : l[k]? = some q) : l.drop k = q :: l.drop (k + 1) := by
  obtain ⟨hlt, rfl⟩ := List.getElem?_eq_some_iff.1 h
  exact List.drop_eq_getElem_cons hlt
theorem take_snoc {α : Type} {l : List α} {k : Nat} {q : α} (h : l[k]? = some q) : l.take (k + 1) = l.take k ++ [q] := by
  rw [List.take_add_one, h]
  rfl
theorem look1 {α : Type} {A : α} {p k : Nat} {s : α} (h : List.lookup k [(p, A)] = some s) : k = p ∧ s = A := by
  by_cases h1 : k = p
  · subst h1
    simp at h
    exact ⟨rfl, h.symm⟩
  · have e1 : (k == p) = false := by simpa using h1
    simp [List.lookup, e1] at h

theorem OwnRow.out {α : Type} {E : Elt α} {base B0 B1 : Nat} {w w' : World} {v : Value} {l : List α} (h : OwnRow E base w v l) (k : Out B0 B1 w w') (hb : ∀ g, v.ownBlock = some g → g < B0 ∨ B1 ≤ g) : OwnRow E base w' v l := by
  refine ⟨⟨h.1.1, ?_⟩, h.2⟩
  rcases h.1.2 with h1 | ⟨g, cap, cur, rfl, h2, h3, h4⟩
  · exact .inl h1
  · exact .inr ⟨g, cap, cur, rfl, h2, by rw [k.block g (Array.getElem?_eq_some_iff.1 h3).1 (hb g rfl)]; exact h3, h4⟩

theorem look2 {α : Type} {A B : α} {p q k : Nat} {s : α} (h : List.lookup k [(p, A), (q, B)] = some s) : (k = p ∧ s = A) ∨ (k = q ∧ s = B) := by
  by_cases h1 : k = p
  · subst h1
    simp at h
    exact .inl ⟨rfl, h.symm⟩
  · by_cases h2 : k = q
    · subst h2
      have e1 : (k == p) = false := by simpa using h1
      simp [List.lookup, e1] at h
      exact .inr ⟨rfl, h.symm⟩
    · have e1 : (k == p) = false := by simpa using h1
      have e2 : (k == q) = false := by simpa using h2
      simp [List.lookup, e1, e2] at h

theorem RowAt.beside {α : Type} {E : Elt α} {w w' : World} {row : Option Nat} {v : Value} {l : List α} (h : RowAt E w v l) (hg : w.grownBy w' row) (hn : ∀ x n c, v = .slice (some x) n c → some x.block ≠ row) : RowAt E w' v l := by
  obtain ⟨⟨a, c, h1, h2, h3⟩, h4⟩ := h
  refine ⟨⟨a, c, h1, h2, fun x hx j u hj => ?_⟩, h4⟩
  subst hx
  exact hg.cell (h3 x rfl j u hj) (by rw [add_block]; exact hn x _ _ h1)

theorem set_same {α : Type} {l : List α} {i : Nat} {v : α} (h : l[i]? = some v) : l.set i v = l := by
  apply List.ext_getElem?
  intro j
  by_cases e : j = i
  · subst e
    rw [List.getElem?_set_self (List.getElem?_eq_some_iff.1 h).1, h]
  · rw [List.getElem?_set_ne (fun h => e h.symm)]

theorem grown_trans {a b c : World} {row : Option Nat} (h : a.grownBy b row) (k : b.grownBy c row) : a.grownBy c row :=
  ⟨k.os.trans h.os, k.tape.trans h.tape, k.output.trans h.output, Nat.le_trans h.size k.size, fun i hi hr => (k.block i (Nat.lt_of_lt_of_le hi h.size) hr).trans (h.block i hi hr)⟩
theorem grew_by {a b : World} (h : Grew a b) (row : Option Nat) : a.grownBy b row := ⟨Below.os h, Below.tape h, Below.output h, Below.size h, fun i hi _ => Below.block h i hi⟩
end Go.Proofs.Ytlkgmjdhggfimad
