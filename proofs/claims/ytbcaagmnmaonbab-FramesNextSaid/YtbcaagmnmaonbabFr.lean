/- Frames as data: their cells, what '==' answers of two, how a memory lies. -/
import Derived.Test.YtbcaagmnmaonbabElt
import Derived.Test.YtbcaagmnmaonbabPageEq
import Derived.Laws.StructEq
import Derived.BigQuiet
import Derived.WalkSmall
namespace Go.Proofs.Ytbcaagmnmaonbab
open Go.RowKit

/-- The thirteen cells of a frame, as a load meets them. -/
def FrCells (W : World) (y : Addr) (a : Fr) : Prop :=
  W.cell? y = some (.int .u8 a.p.b0) ∧ W.cell? { block := y.block, off := y.off + 1 } = some (.int .u8 a.p.b1) ∧ W.cell? { block := y.block, off := y.off + 2 } = some (.int .u8 a.p.b2) ∧ W.cell? { block := y.block, off := y.off + 3 } = some (.int .u8 a.p.b3) ∧
  W.cell? { block := y.block, off := y.off + 4 } = some (.int .u8 a.p.b4) ∧ W.cell? { block := y.block, off := y.off + 5 } = some (.int .u8 a.p.b5) ∧ W.cell? { block := y.block, off := y.off + 6 } = some (.int .u8 a.p.b6) ∧ W.cell? { block := y.block, off := y.off + 7 } = some (.int .u8 a.p.b7) ∧
  W.cell? { block := y.block, off := y.off + 8 } = some (.int .i64 a.r) ∧ W.cell? { block := y.block, off := y.off + 9 } = some (.bool a.u) ∧ W.cell? { block := y.block, off := y.off + 10 } = some (.bool a.d) ∧ W.cell? { block := y.block, off := y.off + 11 } = some (.int .i64 a.f) ∧ W.cell? { block := y.block, off := y.off + 12 } = some (.int .i64 a.x)

theorem Cells.fr {W : World} {y : Addr} {a : Fr} (h : Cells W y (frv a)) : FrCells W y a :=
  ⟨h 0 _ rfl, h 1 _ rfl, h 2 _ rfl, h 3 _ rfl, h 4 _ rfl, h 5 _ rfl, h 6 _ rfl, h 7 _ rfl, h 8 _ rfl, h 9 _ rfl, h 10 _ rfl, h 11 _ rfl, h 12 _ rfl⟩

def FrRows (w : World) (a : Option Addr) (l : List Fr) : Prop := ∀ (j : Nat) x, l[j]? = some x → ∃ ad, a = some ad ∧ ∀ W, Grew w W → FrCells W (ad.add (j * 13)) x

theorem RowAt.frs {w : World} {v : Value} {l : List Fr} (h : RowAt w v l) : ∃ a c, v = .slice a l.length c ∧ FrRows w a l := by
  obtain ⟨a, c, h1, h2⟩ := h.rows
  refine ⟨a, c, h1, fun j x hj => ?_⟩
  obtain ⟨ad, h3, h4⟩ := h2 j x hj
  exact ⟨ad, h3, fun W hW => (h4 W hW).fr⟩

/-- The memory that is the value m. -/
def MemAt (w : World) (m : Value) (fs : List Fr) (h : Int) : Prop := ∃ b, m = .agg #[b, .int .i64 h] ∧ RowAt w b fs
theorem MemAt.grew {w w' : World} {m : Value} {fs : List Fr} {h : Int} (k : MemAt w m fs h) (hg : Grew w w') : MemAt w' m fs h := by
  obtain ⟨b, h1, h2⟩ := k
  exact ⟨b, h1, h2.grew hg⟩
/-- A memory in new memory. -/
def NewMem (base : Nat) (w : World) (m : Value) (fs : List Fr) (h : Int) : Prop := ∃ b, m = .agg #[b, .int .i64 h] ∧ NewRow base w b fs
theorem NewMem.at {base : Nat} {w : World} {m : Value} {fs : List Fr} {h : Int} (k : NewMem base w m fs h) : MemAt w m fs h := by
  obtain ⟨b, h1, h2⟩ := k
  exact ⟨b, h1, h2.1⟩
theorem NewMem.grew {base : Nat} {w w' : World} {m : Value} {fs : List Fr} {h : Int} (k : NewMem base w m fs h) (hg : Grew w w') : NewMem base w' m fs h := by
  obtain ⟨b, h1, h2⟩ := k
  exact ⟨b, h1, h2.grew hg⟩
theorem NewMem.base {base base' : Nat} {w : World} {m : Value} {fs : List Fr} {h : Int} (k : NewMem base w m fs h) (hb : base' ≤ base) : NewMem base' w m fs h := by
  obtain ⟨b, h1, h2⟩ := k
  exact ⟨b, h1, h2.base hb⟩
theorem NewMem.setCell {base : Nat} {w : World} {m : Value} {fs : List Fr} {h : Int} (k : NewMem base w m fs h) {a : Addr} (ha : a.block < base) (u : Value) : NewMem base (w.setCell a u) m fs h := by
  obtain ⟨b, h1, h2⟩ := k
  exact ⟨b, h1, h2.setCell ha u⟩
theorem NewMem.open {base : Nat} {w : World} {m : Value} {fs : List Fr} {h : Int} (k : NewMem base w m fs h) : ∃ a c, m = .agg #[.slice a fs.length c, .int .i64 h] ∧ NewMem base w (.agg #[.slice a fs.length c, .int .i64 h]) fs h := by
  obtain ⟨b, rfl, h2⟩ := k
  obtain ⟨a, c, rfl, _⟩ := h2.1.rows
  exact ⟨a, c, rfl, _, rfl, h2⟩
theorem NewMem.nil (base : Nat) (w : World) (h : Int) : NewMem base w (.agg #[.slice none 0 0, .int .i64 h]) [] h := ⟨_, rfl, NewRow.nil _ _⟩

theorem Try.infoU8 : (Try.prog.info? 5).map (fun i => (i.zero, i.size, i.bytes)) = some (some (.int .u8 0), 1, 1) := by kernel_rfl

theorem page_eq_at (k : Nat) (b0 b1 b2 b3 b4 b5 b6 b7 c0 c1 c2 c3 c4 c5 c6 c7 : Int) (x : World) : (Op.equalIn (k + 2) 31 (.agg #[.int .u8 b0, .int .u8 b1, .int .u8 b2, .int .u8 b3, .int .u8 b4, .int .u8 b5, .int .u8 b6, .int .u8 b7]) (.agg #[.int .u8 c0, .int .u8 c1, .int .u8 c2, .int .u8 c3, .int .u8 c4, .int .u8 c5, .int .u8 c6, .int .u8 c7])).run Try.prog x = .ok (pgEqB ⟨b0, b1, b2, b3, b4, b5, b6, b7⟩ ⟨c0, c1, c2, c3, c4, c5, c6, c7⟩) x := by
  obtain ⟨i5, hi5, _, hz1, _⟩ := info_parts Try.infoU8
  have := run_equal_ints (P := Try.prog) x 31 5 .u8 k 8 [b0, b1, b2, b3, b4, b5, b6, b7] [c0, c1, c2, c3, c4, c5, c6, c7] i5 Try.underlying31 Try.underlying5 hi5 hz1 rfl rfl
  rw [show pgEqB ⟨b0, b1, b2, b3, b4, b5, b6, b7⟩ ⟨c0, c1, c2, c3, c4, c5, c6, c7⟩ = decide ([b0, b1, b2, b3, b4, b5, b6, b7] = [c0, c1, c2, c3, c4, c5, c6, c7]) from by
    rw [Bool.eq_iff_iff, pgEqB_iff, decide_eq_true_iff]
    simp only [Pg.mk.injEq, List.cons.injEq, and_true]]
  exact this

/-- Two frames are the same if all their places are. -/
theorem fr_eq (b0 b1 b2 b3 b4 b5 b6 b7 r : Int) (u d : Bool) (f x : Int) (c0 c1 c2 c3 c4 c5 c6 c7 r' : Int) (u' d' : Bool) (f' x' : Int) (W : World) :
    (Op.equalIn 10000 47 (.agg #[.int .u8 b0, .int .u8 b1, .int .u8 b2, .int .u8 b3, .int .u8 b4, .int .u8 b5, .int .u8 b6, .int .u8 b7, .int .i64 r, .bool u, .bool d, .int .i64 f, .int .i64 x]) (.agg #[.int .u8 c0, .int .u8 c1, .int .u8 c2, .int .u8 c3, .int .u8 c4, .int .u8 c5, .int .u8 c6, .int .u8 c7, .int .i64 r', .bool u', .bool d', .int .i64 f', .int .i64 x'])).run Try.prog W
      = .ok (frEqB ⟨⟨b0, b1, b2, b3, b4, b5, b6, b7⟩, r, u, d, f, x⟩ ⟨⟨c0, c1, c2, c3, c4, c5, c6, c7⟩, r', u', d', f', x'⟩) W := by
  have hS : Try.prog.underlying 47 = some (.struct (Try.prog.fieldsOf 47)) := by kernel_rfl
  have hp : Try.prog.stoodInHeld 47 = false := by kernel_rfl
  have hpg := page_eq_at 9997 b0 b1 b2 b3 b4 b5 b6 b7 c0 c1 c2 c3 c4 c5 c6 c7
  have u3 := Try.underlying3
  have a3 := Try.isAgg3
  have z3 := Try.sizeOf3
  have u4 := Try.underlying4
  have a4 := Try.isAgg4
  have z4 := Try.sizeOf4
  have a23 := Try.isAgg31
  have z23 := Try.sizeOf31
  rw [show frEqB ⟨⟨b0, b1, b2, b3, b4, b5, b6, b7⟩, r, u, d, f, x⟩ ⟨⟨c0, c1, c2, c3, c4, c5, c6, c7⟩, r', u', d', f', x'⟩ = (pgEqB ⟨b0, b1, b2, b3, b4, b5, b6, b7⟩ ⟨c0, c1, c2, c3, c4, c5, c6, c7⟩ && (r == r') && (u == u') && (d == d') && (f == f') && (x == x')) from rfl]
  generalize pgEqB ⟨b0, b1, b2, b3, b4, b5, b6, b7⟩ ⟨c0, c1, c2, c3, c4, c5, c6, c7⟩ = P at hpg ⊢
  rw [show (10000 : Nat) = 9999 + 1 from rfl, run_equalIn_agg W 9999 47 _ _ hS hp]
  simp only [Program.fieldsOf, Try.underlying47]
  go_simp
  cases P
  · simp
  by_cases h1 : r = r' <;> by_cases h2 : u = u' <;> by_cases h3 : d = d' <;> by_cases h4 : f = f' <;> by_cases h5 : x = x' <;> simp [h1, h2, h3, h4, h5]

end Go.Proofs.Ytbcaagmnmaonbab
