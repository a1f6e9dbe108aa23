/- An entry of all entries by value; all entries out of their block, in a region that draws its order. No condition: laws of the model. -/
import Derived.Test.YtodbgjhdfjpcpacTbFlat
import Derived.Test.YtodbgjhdfjpcpacLaxTail
import Derived.BigQuiet
namespace Go.Proofs.Ytodbgjhdfjpcpac
open Go.RowKit

theorem run_flatAt {w : World} {l : List En} (i : Nat) (hi : i < 64) {e : En} (he : l[i]? = some e) : (Instr.index 63 (.agg (cellsL l).toArray) (.int .i64 (i : Int))).run Try.prog w = .ok (.agg #[.int .i64 e.kind, .int .i64 e.n, .bool e.wr]) w := by
  have ha : (isAgg 57).run Try.prog w = .ok true w := by
    unfold isAgg
    rw [Sem.run_bind, run_underlying Try.underlying57 w]
    rfl
  have hs : (Go.sizeOf 57).run Try.prog w = .ok 3 w := by
    obtain ⟨i0, h1, h2⟩ : ∃ i0, Try.prog.info? 57 = some i0 ∧ i0.size = 3 := by
      have : (Try.prog.info? 57).map (·.size) = some 3 := by kernel_rfl
      cases hq : Try.prog.info? 57 with
      | none => rw [hq] at this; cases this
      | some i0 => rw [hq] at this; exact ⟨i0, rfl, by simpa using this⟩
    simp [Go.sizeOf, typeInfo, h1, h2]
  have hlt : (0 : Int) ≤ (i : Int) ∧ (i : Int) < ((64 : Nat) : Int) := by omega
  obtain ⟨c0, c1, c2⟩ := cellsL_at he
  have hx : (cellsL l).toArray.extract (i * 3) (i * 3 + 3) = #[.int .i64 e.kind, .int .i64 e.n, .bool e.wr] := by
    apply Array.ext_getElem?
    intro j
    rw [Array.getElem?_extract]
    have hlen : i * 3 + 3 ≤ (cellsL l).toArray.size := by
      have := (List.getElem?_eq_some_iff.1 c2).1
      simp
      omega
    by_cases hj : j < 3
    · rw [if_pos (by omega)]
      obtain rfl | rfl | rfl : j = 0 ∨ j = 1 ∨ j = 2 := by omega
      · simpa using c0
      · simpa using c1
      · simpa using c2
    · rw [if_neg (by omega)]
      simp
      omega
  simp only [Instr.index, asIntOf, Sem.run_bind, Sem.run_pure, Result.andThen_ok, run_underlying Try.underlying63]
  rw [if_pos hlt]
  simp only [Sem.run_bind, hs, Result.andThen_ok, part, ha, if_true, Int.toNat_natCast, Sem.run_pure, hx]

theorem wp_flatAt {ops : Array Oper} {rest : List Oper} {o : Oper} {a : Act} {w : World} {Q : Exit → Act → World → Prop} (hgd : o.guard = none) (x ix : Operand) (ho : o.op = .index 63 x ix) (l : List En) (hx : a.eval x = .agg (cellsL l).toArray) (i : Nat) (hix : a.eval ix = .int .i64 (i : Int)) (hi : i < 64) {e : En} (he : l[i]? = some e)
    (h : wpList Try.prog ops Q rest (a.put o.dst (.agg #[.int .i64 e.kind, .int .i64 e.n, .bool e.wr])) w) : wpList Try.prog ops Q (o :: rest) a w := by
  refine wpList_plain hgd fun K hK => ?_
  unfold Oper.wp execOp
  simp only [ho, hx, hix, Sem.run_bind, Sem.run_pure, Result.andThen_ok, run_flatAt i hi he]
  exact hK _ _ h

theorem run_loadFlat {a : Act} {o : Oper} (x : Operand) (ho : o.op = .load 63 x) (b : Nat) (hx : a.eval x = .pointer (some ⟨b, 0, none⟩)) {vs : List Value} {w : World} (hb : Box w b vs) (hl : vs.length = 192) : (execOp a.eval o).run Try.prog w = .ok (.value (.agg vs.toArray)) w := by
  have := run_loadAt_mid (P := Try.prog) w b 0 63 vs _ hb.range Try.underlying63 rfl (by rw [hl]; exact Try.sizeFlat)
  simp only [execOp, ho, hx, Sem.run_bind, this, Result.andThen_ok, Sem.run_pure]

end Go.Proofs.Ytodbgjhdfjpcpac
