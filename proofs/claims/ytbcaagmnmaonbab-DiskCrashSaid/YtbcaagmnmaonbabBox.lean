/- Variables in memory of their own: what they hold, carried on. No condition: laws of the model. -/
import Derived.Test.YtbcaagmnmaonbabSettle
import Derived.Laws.OwnMore
namespace Go.Proofs.Ytbcaagmnmaonbab
open Go.RowKit

/-- The block b holds the cells cs, and may be written. -/
def Box (w : World) (b : Nat) (cs : List Value) : Prop := ∃ t, w.heap[b]? = some (.cells cs.toArray t (0, 0))

theorem Box.lt {w : World} {b : Nat} {cs : List Value} (h : Box w b cs) : b < w.heap.size := by
  obtain ⟨t, h⟩ := h
  exact (Array.getElem?_eq_some_iff.1 h).1
theorem Box.c {w : World} {b : Nat} {cs : List Value} (h : Box w b cs) (i : Nat) {u : Value} (hi : cs[i]? = some u) : w.cell? ⟨b, i, none⟩ = some u := by
  obtain ⟨t, h⟩ := h
  simp [World.cell?, h, hi]
theorem Box.f {w : World} {b : Nat} {cs : List Value} (h : Box w b cs) (i : Nat) : w.frozen? ⟨b, i, none⟩ = false := by
  obtain ⟨t, h⟩ := h
  simp [World.frozen?, h]
theorem Box.below {w w' : World} {b B : Nat} {cs : List Value} (h : Box w b cs) (hg : Below B w w') (hb : b < B) : Box w' b cs := by
  obtain ⟨t, h⟩ := h
  exact ⟨t, by rw [hg.block b hb]; exact h⟩
theorem Box.grew {w w' : World} {b : Nat} {cs : List Value} (h : Box w b cs) (hg : Grew w w') : Box w' b cs := h.below hg h.lt
theorem Box.top (w : World) (cs : List Value) (t : TypeId) {b : Nat} (hb : b = w.heap.size) : Box (w.alloc (.cells cs.toArray t)) b cs := by
  subst hb
  refine ⟨t, ?_⟩
  show (w.heap.push _)[w.heap.size]? = _
  simp
theorem Box.alloc {w : World} {b : Nat} {cs : List Value} (h : Box w b cs) (o : Obj) : Box (w.alloc o) b cs := h.grew (grew_alloc _ _)
theorem Box.grown {w w' : World} {b g : Nat} {cs : List Value} (h : Box w b cs) (hg : w.grownBy w' (some g)) (hb : b ≠ g) : Box w' b cs := by
  have hlt := h.lt
  obtain ⟨t, h⟩ := h
  exact ⟨t, by rw [hg.block b hlt (fun e => hb (by cases e; rfl))]; exact h⟩
theorem Box.other {w : World} {b : Nat} {cs : List Value} (h : Box w b cs) {a : Addr} (ha : b ≠ a.block) (u : Value) : Box (w.setCell a u) b cs := by
  obtain ⟨t, h⟩ := h
  exact ⟨t, by rw [Below.heap_setCell _ _ _ _ ha]; exact h⟩
theorem Box.set {w : World} {b : Nat} {cs : List Value} (h : Box w b cs) (i : Nat) (u : Value) : Box (w.setCell ⟨b, i, none⟩ u) b (cs.set i u) := by
  have hlt := h.lt
  obtain ⟨t, h⟩ := h
  refine ⟨t, ?_⟩
  obtain ⟨_, h2⟩ := Array.getElem?_eq_some_iff.1 h
  unfold World.setCell
  rw [Array.getElem?_eq_getElem (by simpa using hlt)]
  simp [Array.getElem_modify, h2]

end Go.Proofs.Ytbcaagmnmaonbab
