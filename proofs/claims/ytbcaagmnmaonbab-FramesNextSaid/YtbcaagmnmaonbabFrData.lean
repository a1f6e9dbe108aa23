/- Frames as data: their cells, when two are the same. -/
import Derived.Test.YtbcaagmnmaonbabRow
namespace Go.Proofs.Ytbcaagmnmaonbab
open Go.RowKit

structure Pg where
  (b0 b1 b2 b3 b4 b5 b6 b7 : Int)

structure Fr where
  p : Pg
  r : Int
  u : Bool
  d : Bool
  f : Int
  x : Int

def pgv (p : Pg) : List Value := [.int .u8 p.b0, .int .u8 p.b1, .int .u8 p.b2, .int .u8 p.b3, .int .u8 p.b4, .int .u8 p.b5, .int .u8 p.b6, .int .u8 p.b7]
def frv (a : Fr) : List Value := [.int .u8 a.p.b0, .int .u8 a.p.b1, .int .u8 a.p.b2, .int .u8 a.p.b3, .int .u8 a.p.b4, .int .u8 a.p.b5, .int .u8 a.p.b6, .int .u8 a.p.b7, .int .i64 a.r, .bool a.u, .bool a.d, .int .i64 a.f, .int .i64 a.x]

def pg0 : Pg := ⟨0, 0, 0, 0, 0, 0, 0, 0⟩
def fr0 : Fr := ⟨pg0, 0, false, false, 0, 0⟩
/-- A free frame. -/
def frF : Fr := ⟨pg0, 0, false, false, -1, 0⟩

theorem Try.infoFrame : (Try.prog.info? 47).map (fun i => (i.zero, i.size, i.bytes)) = some (some (.agg #[.int .u8 0, .int .u8 0, .int .u8 0, .int .u8 0, .int .u8 0, .int .u8 0, .int .u8 0, .int .u8 0, .int .i64 0, .bool false, .bool false, .int .i64 0, .int .i64 0]), 13, 40) := by kernel_rfl

def frz : Value := .agg #[.int .u8 0, .int .u8 0, .int .u8 0, .int .u8 0, .int .u8 0, .int .u8 0, .int .u8 0, .int .u8 0, .int .i64 0, .bool false, .bool false, .int .i64 0, .int .i64 0]
theorem frz_ok : frz.cells = (frv fr0).toArray := rfl
theorem frv_len (a : Fr) : (frv a).length = 13 := rfl
theorem frv_one (a : Fr) : ∀ u ∈ frv a, u.oneCell' = true := fun u hu => by
  simp only [frv, List.mem_cons, List.not_mem_nil, or_false] at hu
  rcases hu with rfl | rfl | rfl | rfl | rfl | rfl | rfl | rfl | rfl | rfl | rfl | rfl | rfl <;> rfl
theorem frv_few : 13 ≤ 40 := by decide
theorem frv_pos : 0 < 13 := by decide

def pgEqB (p q : Pg) : Bool := (p.b0 == q.b0) && (p.b1 == q.b1) && (p.b2 == q.b2) && (p.b3 == q.b3) && (p.b4 == q.b4) && (p.b5 == q.b5) && (p.b6 == q.b6) && (p.b7 == q.b7)
theorem pgEqB_iff (p q : Pg) : pgEqB p q = true ↔ p = q := by
  obtain ⟨a0, a1, a2, a3, a4, a5, a6, a7⟩ := p
  obtain ⟨c0, c1, c2, c3, c4, c5, c6, c7⟩ := q
  simp [pgEqB, and_assoc]
theorem pgEqB_self (p : Pg) : pgEqB p p = true := (pgEqB_iff p p).2 rfl
def frEqB (a b : Fr) : Bool := pgEqB a.p b.p && (a.r == b.r) && (a.u == b.u) && (a.d == b.d) && (a.f == b.f) && (a.x == b.x)
theorem frEqB_iff (a b : Fr) : frEqB a b = true ↔ a = b := by
  obtain ⟨p, r, u, d, f, x⟩ := a
  obtain ⟨p', r', u', d', f', x'⟩ := b
  simp [frEqB, pgEqB_iff, and_assoc]
theorem frEqB_eq {a b : Fr} (h : frEqB a b = true) : a = b := (frEqB_iff a b).1 h
theorem frEqB_self (a : Fr) : frEqB a a = true := (frEqB_iff a a).2 rfl
theorem frEqB_ne {a b : Fr} (h : a ≠ b) : frEqB a b = false := by
  cases hb : frEqB a b with
  | false => rfl
  | true => exact absurd (frEqB_eq hb) h

end Go.Proofs.Ytbcaagmnmaonbab
