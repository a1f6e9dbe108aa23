/- Loads, stores and places of whole tables. No condition: laws of the model. -/
import Derived.Test.YtodbgjhdfjpcpacTbLeaf
import Derived.Deep.MidRow
namespace Go.Proofs.Ytodbgjhdfjpcpac
open Go.RowKit

theorem Box.range {w : World} {b : Nat} {cs : List Value} (h : Box w b cs) : w.rangeAt b 0 cs := fun j v hj => by
  rw [Nat.zero_add]
  exact h.c j hj
theorem Box.there {w : World} {b : Nat} {cs : List Value} (h : Box w b cs) : w.there b 0 cs.length := fun j hj => by
  rw [Nat.zero_add]
  exact ⟨by rw [h.c j (List.getElem?_eq_getElem hj)]; rfl, h.f j⟩
theorem Try.sizeTable : (Try.prog.info? 55).map (·.size) = some 8 := by kernel_rfl

/-- A block whose cells are all stored over. -/
theorem Box.all {w : World} {b : Nat} : ∀ {cs : List Value} (ds : List Value), Box w b cs → ds.length = cs.length → Box (w.setCells b 0 ds) b ds := by
  have key : ∀ (ds pre rest : List Value) (w : World), Box w b (pre ++ rest) → ds.length = rest.length → Box (w.setCells b pre.length ds) b (pre ++ ds) := fun ds => by
    induction ds with
    | nil =>
      intro pre rest w h hl
      have : rest = [] := List.length_eq_zero_iff.1 hl.symm
      subst this
      exact h
    | cons d ds ih =>
      intro pre rest w h hl
      cases rest with
      | nil => simp at hl
      | cons r rest =>
        have h1 := h.set pre.length d
        rw [List.set_append_right _ _ (Nat.le_refl _), Nat.sub_self, List.set_cons_zero] at h1
        have h2 := ih (pre ++ [d]) rest (w.setCell ⟨b, pre.length, none⟩ d) (by simpa using h1) (by simpa using hl)
        simpa [World.setCells] using h2
  intro cs ds h hl
  exact key ds [] cs w (by simpa using h) hl

/-- The whole table out of its block. -/
theorem wp_loadTab {ops : Array Oper} {rest : List Oper} {o : Oper} {a : Act} {w : World} {Q : Exit → Act → World → Prop} (hgd : o.guard = none) (x : Operand) (ho : o.op = .load 55 x) (b : Nat) (hx : a.eval x = .pointer (some ⟨b, 0, none⟩)) {vs : List Value} (hb : Box w b vs) (hl : vs.length = 8)
    (h : wpList Try.prog ops Q rest (a.put o.dst (.agg vs.toArray)) w) : wpList Try.prog ops Q (o :: rest) a w :=
  wpList_load_mid hgd 55 x ho b 0 hx vs _ hb.range Try.underlying55 rfl (by rw [hl]; exact Try.sizeTable) h

/-- Half i of a table by value. -/
theorem run_half {w : World} {vs : List Value} (i : Nat) (hi : i < 8) {v : Value} (hv : vs[i]? = some v) : (Instr.index 55 (.agg vs.toArray) (.int .i64 (i : Int))).run Try.prog w = .ok v w := by
  have ha : (isAgg 53).run Try.prog w = .ok false w := by
    unfold isAgg
    rw [Sem.run_bind, run_underlying Try.underlying53 w]
    rfl
  have hs : (Go.sizeOf 53).run Try.prog w = .ok 1 w := by
    obtain ⟨i0, h1, h2⟩ : ∃ i0, Try.prog.info? 53 = some i0 ∧ i0.size = 1 := by
      have : (Try.prog.info? 53).map (·.size) = some 1 := by kernel_rfl
      cases hq : Try.prog.info? 53 with
      | none => rw [hq] at this; cases this
      | some i0 => rw [hq] at this; exact ⟨i0, rfl, by simpa using this⟩
    simp [Go.sizeOf, typeInfo, h1, h2]
  have hlt : (0 : Int) ≤ (i : Int) ∧ (i : Int) < ((8 : Nat) : Int) := by omega
  simp only [Instr.index, asIntOf, Sem.run_bind, Sem.run_pure, Result.andThen_ok, run_underlying Try.underlying55]
  rw [if_pos hlt]
  simp only [Sem.run_bind, hs, Result.andThen_ok, part, ha, Nat.mul_one, Int.toNat_natCast]
  simp [hv]

theorem wp_half {ops : Array Oper} {rest : List Oper} {o : Oper} {a : Act} {w : World} {Q : Exit → Act → World → Prop} (hgd : o.guard = none) (x ix : Operand) (ho : o.op = .index 55 x ix) (vs : List Value) (hx : a.eval x = .agg vs.toArray) (i : Nat) (hix : a.eval ix = .int .i64 (i : Int)) (hi : i < 8) {v : Value} (hv : vs[i]? = some v)
    (h : wpList Try.prog ops Q rest (a.put o.dst v) w) : wpList Try.prog ops Q (o :: rest) a w := by
  refine wpList_plain hgd fun K hK => ?_
  unfold Oper.wp execOp
  simp only [ho, hx, hix, Sem.run_bind, Sem.run_pure, Result.andThen_ok, run_half i hi hv]
  exact hK _ _ h

end Go.Proofs.Ytodbgjhdfjpcpac
