/- A map from numbers to bools that the call makes, as a set. -/
import Derived.Test.YtodbgjhdfjpcpadTbOps2
import Derived.Maps.OwnSet
namespace Go.Proofs.Ytodbgjhdfjpcpad
open Go.RowKit
open Go.Maps (int_keyed keyOf_int_mk setOf setOf_snoc has_setOf atKey_of_not_has)

theorem Try.keyInt : Go.Maps.Keyed Try.prog 3 := int_keyed Try.underlying3

/-- Block b is the set of the numbers L. -/
def SetAt (w : World) (b : Nat) (L : List Int) : Prop := w.ownsMap Try.prog 3 (plainElem (H := Unit) Try.prog 4) b L.length (setOf (.lit (.bool true)) (L.map (Lit.int .i64)))

theorem SetAt.lt {w : World} {b : Nat} {L : List Int} (h : SetAt w b L) : b < w.heap.size := World.ownsMap.lt h
theorem SetAt.made (w : World) : SetAt (w.alloc (.map #[] 0)) w.heap.size [] := World.ownsMap_made _ _ _ _
theorem SetAt.kept {w w' : World} {b : Nat} {L : List Int} {row : Option Nat} (h : SetAt w b L) (hg : w.grownBy w' row) (hne : some b ≠ row) : SetAt w' b L := World.ownsMap.kept h hg hne
theorem SetAt.grew {w w' : World} {b : Nat} {L : List Int} (h : SetAt w b L) (hg : Grew w w') : SetAt w' b L := by
  have hlt := h.lt
  obtain ⟨es, clock, h1, h2⟩ := h
  exact ⟨es, clock, (Below.block hg b hlt).trans h1, h2⟩
theorem SetAt.setCell {w : World} {b : Nat} {L : List Int} (h : SetAt w b L) {a : Addr} (ha : b ≠ a.block) (u : Value) : SetAt (w.setCell a u) b L := World.ownsMap.setCell h ha u

theorem wf64 {x : Int} (h0 : 0 ≤ x) (h1 : x ≤ 1000) : (Lit.int .i64 x).wf = true := by
  simp [Lit.wf]
  have : IntKind.i64.min = -9223372036854775808 := by decide
  omega

theorem SetAt.put {w : World} {b : Nat} {L : List Int} (h : SetAt w b L) {x : Int} (hx : (Lit.int .i64 x).wf = true) (hl : L.length ≤ 1000) : ∃ w', (Instr.mapUpdate 32 (.map (some b)) (.int .i64 x) (.bool true)).run Try.prog w = .ok () w' ∧ SetAt w' b (L ++ [x]) ∧ w.grownBy w' (some b) := by
  obtain ⟨w', h1, h2, h3⟩ := World.ownsMap.update h Try.keyInt Try.underlying32 (by unfold maxLen; omega) (keyOf_int_mk Try.underlying3 hx) (plainElem_bool (H := Unit) Try.underlying4 true)
  refine ⟨w', h1, ?_, h3⟩
  unfold SetAt
  rw [List.map_append, List.map_cons, List.map_nil, setOf_snoc, List.length_append]
  exact h2

theorem SetAt.miss {w : World} {b : Nat} {L : List Int} (h : SetAt w b L) {x : Int} (hx : (Lit.int .i64 x).wf = true) (hn : x ∉ L) (hz : (zeroValue 4).run Try.prog w = .ok (.bool false) w) : (Instr.lookup 32 (.map (some b)) (.int .i64 x) false).run Try.prog w = .ok (.bool false) w := by
  obtain ⟨v, ps, h1, h2⟩ := World.ownsMap.lookup h Try.keyInt Try.underlying32 hz (plainElem_bool (H := Unit) Try.underlying4 false) (keyOf_int_mk Try.underlying3 hx)
  have hk : Go.Maps.has (setOf (H := Unit) (.lit (.bool true)) (L.map (Lit.int .i64))) (.int .i64 x) = false := by
    rw [has_setOf _ _ _ (fun y hy => by obtain ⟨z, _, rfl⟩ := List.mem_map.1 hy; trivial)]
    rw [List.any_eq_false]
    intro y hy
    obtain ⟨z, hz', rfl⟩ := List.mem_map.1 hy
    intro hc
    have := Go.WideAt.sameKey_eq hc
    cases this
    exact hn hz'
  rw [atKey_of_not_has hk] at h2
  rw [h1]
  have hv : v = .bool false := by
    unfold plainElem at h2
    rw [Try.underlying4] at h2
    cases v <;> simp at h2
    rw [h2.1]
  rw [hv]

theorem wpList_insert_set {w : World} {ops : Array Oper} {rest : List Oper} {o : Oper} {a : Act} {Q : Exit → Act → World → Prop} (hg : o.guard = none) (m x v : Operand) (hop : o.op = .insert 32 m x v ∨ o.op = .mapUpdate 32 m x v) (b : Nat) (L : List Int) (h : SetAt w b L) (y : Int) (hy : (Lit.int .i64 y).wf = true) (hl : L.length ≤ 1000)
    (hm : a.eval m = .map (some b)) (hx : a.eval x = .int .i64 y) (hv : a.eval v = .bool true)
    (hK : ∀ w', SetAt w' b (L ++ [y]) → w.grownBy w' (some b) → wpList Try.prog ops Q rest (a.put o.dst undef) w') : wpList Try.prog ops Q (o :: rest) a w := by
  refine wpList_plain hg fun K' hK' => ?_
  obtain ⟨w', hrun, r1, r2⟩ := h.put hy hl
  unfold Oper.wp
  rcases hop with hop | hop <;> simp [execOp, hop, hm, hx, hv, hrun, Result.andThen] <;> exact hK' _ _ (hK w' r1 r2)

end Go.Proofs.Ytodbgjhdfjpcpad
