/- What '==' answers of two that wait. -/
import Derived.Test.YtbcaagmnmaonbaaReads
import Derived.Laws.StructEq
namespace Go.Proofs.Ytbcaagmnmaonbaa
open Go.RowKit

theorem page_same_at (d : Nat) (b0 b1 b2 b3 b4 b5 b6 b7 : Int) (x : World) : (Op.equalIn (d + 2) 23 (.agg #[.int .u8 b0, .int .u8 b1, .int .u8 b2, .int .u8 b3, .int .u8 b4, .int .u8 b5, .int .u8 b6, .int .u8 b7]) (.agg #[.int .u8 b0, .int .u8 b1, .int .u8 b2, .int .u8 b3, .int .u8 b4, .int .u8 b5, .int .u8 b6, .int .u8 b7])).run Try.prog x = .ok true x := by
  obtain ⟨i5, hi5, _, hz1, _⟩ := info_parts Try.infoU8
  have := run_equal_ints (P := Try.prog) x 23 5 .u8 d 8 [b0, b1, b2, b3, b4, b5, b6, b7] [b0, b1, b2, b3, b4, b5, b6, b7] i5 Try.underlying23 Try.underlying5 hi5 hz1 rfl rfl
  rw [decide_eq_true rfl] at this
  exact this

/-- One that waits is the same as itself. -/
theorem put_same (m b0 b1 b2 b3 b4 b5 b6 b7 : Int) (x : World) : (Op.equalIn 10000 56 (.agg #[.int .i64 m, .int .u8 b0, .int .u8 b1, .int .u8 b2, .int .u8 b3, .int .u8 b4, .int .u8 b5, .int .u8 b6, .int .u8 b7]) (.agg #[.int .i64 m, .int .u8 b0, .int .u8 b1, .int .u8 b2, .int .u8 b3, .int .u8 b4, .int .u8 b5, .int .u8 b6, .int .u8 b7])).run Try.prog x = .ok true x := by
  have hS : Try.prog.underlying 56 = some (.struct (Try.prog.fieldsOf 56)) := by kernel_rfl
  have hp : Try.prog.stoodInHeld 56 = false := by kernel_rfl
  have hpg := page_same_at 9997 b0 b1 b2 b3 b4 b5 b6 b7
  have u3 := Try.underlying3
  have a3 := Try.isAgg3
  have z3 := Try.sizeOf3
  have a23 := Try.isAgg23
  have z23 := Try.sizeOf23
  rw [show (10000 : Nat) = 9999 + 1 from rfl, run_equalIn_agg x 9999 56 _ _ hS hp]
  simp only [Program.fieldsOf, Try.underlying56]
  go_simp

end Go.Proofs.Ytbcaagmnmaonbaa
