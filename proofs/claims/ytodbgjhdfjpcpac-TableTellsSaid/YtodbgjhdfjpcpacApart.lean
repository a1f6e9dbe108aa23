/- append onto a row of the call's own: what it leaves lies where it lay, or in new memory. No condition: a law of the model. -/
import Derived.Test.YtodbgjhdfjpcpacKeep
namespace Go.Proofs.Ytodbgjhdfjpcpac
open Go.RowKit

section
variable {α : Type} {E : Elt α}

theorem run_append_apart {w : World} {base : Nat} {v : Value} {l0 : List α} (ty : TypeId) (h0 : OwnRow E base w v l0) (vx : Value) (l : List α) (hv : RowAt E w vx l) (hb : (l0.length + l.length) * E.bytes ≤ 140737488355328) (hbase : base ≤ w.heap.size) :
    ∃ v' w', (Builtin.append_ #[E.st, E.st] ty #[v, vx]).run Try.prog w = .ok v' w' ∧ OwnRow E base w' v' (l0 ++ l) ∧ w.grownBy w' v.ownBlock ∧ ∀ g, v'.ownBlock = some g → v.ownBlock = some g ∨ w.heap.size ≤ g := by
  obtain ⟨i0, hi, hz0, hz1, hz2⟩ := info_parts E.info
  obtain ⟨⟨ax, c, rfl, hnone, hcells⟩, hby⟩ := hv
  have h2 : (l0.length + l.length) * 1 ≤ (l0.length + l.length) * E.bytes := Nat.mul_le_mul_left _ (Nat.le_trans E.pos E.few)
  cases ax with
  | none =>
    have hps := hnone rfl
    subst hps
    exact ⟨v, w, run_append_none ty h0 c, by simpa using h0, World.grownBy.rfl' _ _, fun g h => .inl h⟩
  | some ad =>
    rcases h0.1.2 with ⟨rfl, hn0⟩ | ⟨g, cap, cur, rfl, hgb, hgc, hnc, hcm, hcs, hct⟩
    · have hl0 : l0 = [] := List.eq_nil_of_length_eq_zero hn0
      subst hl0
      obtain ⟨v', w', hr, ho, hg, _⟩ := run_append_own (P := Try.prog) w w.heap.size E.st ty E.ty i0 _ E.k E.bytes E.und hi hz0 hz1 hz2 (zsize E) E.pos _ 0 [] (World.ownsRow_nil _ _ _ _) ad l.length c (l.flatMap E.enc) (row_len E l) (hcells ad rfl) (flatMap_one E.one l) (maxLen_of (by simp at h2 hb ⊢; omega)) (by simpa using hb) (Nat.le_refl _)
      have ho' : OwnRow E w.heap.size w' v' ([] ++ l) := ⟨by simpa using ho, by simpa using hb⟩
      exact ⟨v', w', hr, ho'.base hbase, hg, fun g h => .inr (ho'.lt g h).1⟩
    · by_cases hroom : l0.length + l.length ≤ cap
      · obtain ⟨w', hr, ho, hg⟩ := run_append_fits (P := Try.prog) w base E.st ty E.ty i0 E.k E.und hi hz1 g l0.length cap _ h0.1 ad l.length c (l.flatMap E.enc) (row_len E l) (hcells ad rfl) (flatMap_one E.one l) hroom
        exact ⟨_, w', hr, ⟨by rw [List.length_append, List.flatMap_append]; exact ho, by rw [List.length_append]; exact hb⟩, hg, fun g' h => .inl h⟩
      · obtain ⟨v', w', hr, ho, hg⟩ := run_append_arg_grows (P := Try.prog) w E.st ty E.ty i0 _ E.k E.bytes E.und hi hz0 hz1 hz2 (zsize E) E.pos ⟨g, 0, none⟩ l0.length cap (l0.flatMap E.enc) (row_len E l0) (h0.1.cells rfl) ad l.length c (l.flatMap E.enc) (row_len E l) (hcells ad rfl) (by omega) (maxLen_of (by omega)) hb
        have ho' : OwnRow E w.heap.size w' v' (l0 ++ l) := ⟨by rw [List.length_append, List.flatMap_append]; exact ho, by rw [List.length_append]; exact hb⟩
        exact ⟨v', w', hr, ho'.base hbase, ⟨hg.os, hg.tape, hg.output, hg.size, fun k hk _ => hg.block k hk (by simp)⟩, fun g' h => .inr (ho'.lt g' h).1⟩

theorem wpList_append_apart {w : World} {ops : Array Oper} {rest : List Oper} {o : Oper} {a : Act} {Q : Exit → Act → World → Prop} (hgd : o.guard = none) (s x : Operand) (ho : o.op = .call { callee := .builtin .append, args := #[s, x], argTypes := #[E.st, E.st] })
    (base : Nat) (vs : Value) (l0 : List α) (hs : a.eval s = vs) (hown : OwnRow E base w vs l0) (vx : Value) (l : List α) (hx : a.eval x = vx) (hv : RowAt E w vx l) (hb : (l0.length + l.length) * E.bytes ≤ 140737488355328) (hbase : base ≤ w.heap.size)
    (h : ∀ v' w', OwnRow E base w' v' (l0 ++ l) → w.grownBy w' vs.ownBlock → (∀ g, v'.ownBlock = some g → vs.ownBlock = some g ∨ w.heap.size ≤ g) → wpList Try.prog ops Q rest (a.put o.dst v') w') : wpList Try.prog ops Q (o :: rest) a w := by
  refine wpList_plain hgd fun K hK => ?_
  obtain ⟨v', w', hrun, h1, h2, h3⟩ := run_append_apart o.type hown vx l hv hb hbase
  unfold Oper.wp execOp
  simp only [ho, resolve, invoke, builtin, Sem.run_bind, Sem.run_pure, Result.andThen_ok, List.map_toArray, List.map_cons, List.map_nil, hs, hx, hrun]
  exact hK _ _ (h v' w' h1 h2 h3)
end


end Go.Proofs.Ytodbgjhdfjpcpac
