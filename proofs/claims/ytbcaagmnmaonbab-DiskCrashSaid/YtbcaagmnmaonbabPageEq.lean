/- What '==' answers of two arrays of integers: whether all their places are the same. -/
import Derived.WalkKit
import Derived.ChangeKeysEq
namespace Go.Proofs.Ytbcaagmnmaonbab
open Go.RowKit

/-- The rounds of '==' over arrays of one-cell integers. -/
theorem run_eqItems_ints {P : Program} (w : World) (E : TypeId) (k : IntKind) (d : Nat) (xs ys : Array Value) (i : TypeInfo) (hE : P.underlying E = some (.int k)) (hi : P.info? E = some i) (hs : i.size = 1) :
    ∀ (a b : List Int) (o : Nat), a.length = b.length → (∀ j v, a[j]? = some v → xs[o + j]? = some (.int k v)) → (∀ j v, b[j]? = some v → ys[o + j]? = some (.int k v)) →
      (Op.eqItems (d + 1) E 1 xs ys (List.range' o a.length)).run P w = .ok (decide (a = b)) w
  | [], [], _, _, _, _ => by simp [Op.eqItems]
  | [], _ :: _, _, h, _, _ => by simp at h
  | _ :: _, [], _, h, _, _ => by simp at h
  | x :: a, y :: b, o, h, hx, hy => by
    have h1 := hx 0 x rfl
    have h2 := hy 0 y rfl
    have hp : ∀ (zs : Array Value) v, zs[o + 0]? = some (.int k v) → (part E zs (o * 1)).run P w = .ok (.int k v) w := fun zs v hz => by
      rw [Nat.mul_one]
      exact run_part_plain w (by simp [Program.plainKey, hE]) hz
    have ih := run_eqItems_ints w E k d xs ys i hE hi hs a b (o + 1) (by simpa using h) (fun j v hj => by rw [Nat.add_assoc, Nat.add_comm 1 j]; exact hx (j + 1) v (by simpa using hj)) (fun j v hj => by rw [Nat.add_assoc, Nat.add_comm 1 j]; exact hy (j + 1) v (by simpa using hj))
    simp only [List.length_cons, List.range'_succ, Op.eqItems, Sem.run_bind, hp xs x h1, hp ys y h2, Result.andThen_ok, run_equalIn_int w d E k k x y hE]
    by_cases hxy : x = y
    · subst hxy
      simp [ih]
    · have : (x == y) = false := by simpa using hxy
      simp [this, hxy]

theorem run_equal_ints {P : Program} (w : World) (T E : TypeId) (k : IntKind) (d n : Nat) (a b : List Int) (i : TypeInfo) (hT : P.underlying T = some (.array n E)) (hE : P.underlying E = some (.int k)) (hi : P.info? E = some i) (hs : i.size = 1)
    (ha : a.length = n) (hb : b.length = n) :
    (Op.equalIn (d + 2) T (.agg (a.map (Value.int k)).toArray) (.agg (b.map (Value.int k)).toArray)).run P w = .ok (decide (a = b)) w := by
  have hc : P.cellsOf E = 1 := by simp [Program.cellsOf, hi, hs]
  rw [run_equalIn_array w (d + 1) _ _ hT hi, hc, List.range_eq_range', ← ha]
  exact run_eqItems_ints w E k d _ _ i hE hi hs a b 0 (by omega) (fun j v hj => by simp [hj]) (fun j v hj => by simp [hj])
end Go.Proofs.Ytbcaagmnmaonbab
