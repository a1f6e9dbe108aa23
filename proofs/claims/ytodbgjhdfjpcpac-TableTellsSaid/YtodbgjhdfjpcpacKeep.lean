/- append onto a new slice without room, and onto a row of the call's own: what it leaves. No condition: laws of the model. -/
import Derived.Test.YtodbgjhdfjpcpacLaxI
import Derived.Test.YtodbgjhdfjpcpacStay
import Derived.ArgAppend
import Derived.Laws.OwnMore
namespace Go.Proofs.Ytodbgjhdfjpcpac
open Go.RowKit

theorem Does.step {P : Program} {o : Oper} {a : Act} {w w' : World} {v : Value} {K : Value → World → Prop} (hr : (execOp a.eval o).run P w = .ok (.value v) w') (h : K v w') : Does P o a w K := by
  unfold Does
  rw [hr]
  exact h

section
variable {α : Type} {E : Elt α}

/-- A row, appended onto a new slice without room: in new memory; nothing appended, it is that slice. -/
theorem run_append_new {w : World} {base g : Nat} (ty : TypeId) (h0 : OwnRow E base w (.slice (some ⟨g, 0, none⟩) 0 0) ([] : List α)) (vx : Value) (l : List α) (hv : RowAt E w vx l) (hbase : base ≤ w.heap.size) :
    ∃ v' w', (Builtin.append_ #[E.st, E.st] ty #[.slice (some ⟨g, 0, none⟩) 0 0, vx]).run Try.prog w = .ok v' w' ∧ OwnRow E base w' v' l ∧ Grew w w' ∧ (l = [] → v' = .slice (some ⟨g, 0, none⟩) 0 0) := by
  obtain ⟨i0, hi, hz0, hz1, hz2⟩ := info_parts E.info
  obtain ⟨⟨ax, c, rfl, hnone, hcells⟩, hb⟩ := hv
  by_cases hq : l = []
  · subst hq
    refine ⟨_, w, ?_, h0, Grew.refl w, fun _ => rfl⟩
    cases ax with
    | none => simp [Builtin.append_, run_underlying E.und, sizeOf, typeInfo, hi, Builtin.lenOf, Builtin.firstCells, storeCells]
    | some x => simp [Builtin.append_, run_underlying E.und, sizeOf, typeInfo, hi, Builtin.lenOf, Builtin.firstCells, loadCells, loadCellsFrom, storeCells]
  · cases ax with
    | none => exact absurd (hnone rfl) hq
    | some ad =>
      have hpos : 0 < l.length := List.length_pos_iff.2 hq
      have h2 : l.length * 1 ≤ l.length * E.bytes := Nat.mul_le_mul_left _ (Nat.le_trans E.pos E.few)
      obtain ⟨v', w', hr, ho, hg⟩ := run_append_arg_grows (P := Try.prog) w E.st ty E.ty i0 _ E.k E.bytes E.und hi hz0 hz1 hz2 (zsize E) E.pos ⟨g, 0, none⟩ 0 0 [] (by simp) (fun j u hj => by simp at hj) ad l.length c (l.flatMap E.enc) (row_len E l) (hcells ad rfl) (by omega) (maxLen_of (by omega)) (by simpa using hb)
      refine ⟨v', w', hr, ⟨ownsRow_base (by simpa using ho) hbase, hb⟩, ⟨hg.os, hg.tape, hg.output, hg.size, fun k hk => hg.block k hk (by simp)⟩, fun h => absurd h hq⟩

/-- A row, appended onto a row of the call's own: all own rows that are not longer stay. -/
theorem run_append_keeps {w : World} {base : Nat} {v : Value} {l0 : List α} (ty : TypeId) (h0 : OwnRow E base w v l0) (vx : Value) (l : List α) (hv : RowAt E w vx l) (hb : (l0.length + l.length) * E.bytes ≤ 140737488355328) (hbase : base ≤ w.heap.size) :
    ∃ v' w', (Builtin.append_ #[E.st, E.st] ty #[v, vx]).run Try.prog w = .ok v' w' ∧ OwnRow E base w' v' (l0 ++ l) ∧ w.grownBy w' v.ownBlock ∧ ∀ u m, m.length ≤ l0.length → OwnRow E base w u m → OwnRow E base w' u m := by
  obtain ⟨i0, hi, hz0, hz1, hz2⟩ := info_parts E.info
  obtain ⟨⟨ax, c, rfl, hnone, hcells⟩, hby⟩ := hv
  have h2 : (l0.length + l.length) * 1 ≤ (l0.length + l.length) * E.bytes := Nat.mul_le_mul_left _ (Nat.le_trans E.pos E.few)
  cases ax with
  | none =>
    have hps := hnone rfl
    subst hps
    exact ⟨v, w, run_append_none ty h0 c, by simpa using h0, World.grownBy.rfl' _ _, fun u m _ h => h⟩
  | some ad =>
    rcases h0.1.2 with ⟨rfl, hn0⟩ | ⟨g, cap, cur, rfl, hgb, hgc, hnc, hcm, hcs, hct⟩
    · obtain ⟨v', w', hr, ho, hg, _⟩ := run_append_own (P := Try.prog) w base E.st ty E.ty i0 _ E.k E.bytes E.und hi hz0 hz1 hz2 (zsize E) E.pos _ l0.length _ h0.1 ad l.length c (l.flatMap E.enc) (row_len E l) (hcells ad rfl) (flatMap_one E.one l) (maxLen_of (by omega)) hb hbase
      refine ⟨v', w', hr, ⟨by rw [List.length_append, List.flatMap_append]; exact ho, by rw [List.length_append]; exact hb⟩, hg, fun u m _ h => h.grown hg (fun g' _ e => by cases e)⟩
    · by_cases hroom : l0.length + l.length ≤ cap
      · obtain ⟨w', hr, ho, hg⟩ := run_append_fits (P := Try.prog) w base E.st ty E.ty i0 E.k E.und hi hz1 g l0.length cap _ h0.1 ad l.length c (l.flatMap E.enc) (row_len E l) (hcells ad rfl) (flatMap_one E.one l) hroom
        refine ⟨_, w', hr, ⟨by rw [List.length_append, List.flatMap_append]; exact ho, by rw [List.length_append]; exact hb⟩, hg, fun u m hm h => ?_⟩
        by_cases he : u.ownBlock = some g
        · rcases h.1.2 with ⟨rfl, _⟩ | ⟨g', cap', cur', rfl, k1, k2, k3, k4, k5, k6⟩
          · cases he
          · simp only [Value.ownBlock, Option.some.injEq] at he
            subst he
            rw [hgc] at k2
            simp only [Option.some.injEq, Obj.cells.injEq, and_true] at k2
            obtain rfl := k2
            have hcc : cap' = cap := Nat.eq_of_mul_eq_mul_right E.pos (k5.symm.trans hcs)
            subst hcc
            rcases ho.2 with ⟨hx, _⟩ | ⟨g2, cap2, cur2, e1, _, e3, e4, e5, e6, e7⟩
            · cases hx
            · cases e1
              refine ⟨⟨h.1.1, .inr ⟨g', cap', cur2, rfl, k1, e3, k3, k4, e6, ?_⟩⟩, h.2⟩
              have hle : m.length * E.k ≤ l0.length * E.k := Nat.mul_le_mul_right _ hm
              have hl0 : (l0.flatMap E.enc).length = l0.length * E.k := row_len E l0
              have ht : cur2.toList.take (m.length * E.k) = (cur2.toList.take ((l0.length + l.length) * E.k)).take (m.length * E.k) := by
                rw [List.take_take, Nat.min_eq_left (by rw [Nat.add_mul]; omega)]
              rw [ht, e7, List.take_append_of_le_length (by rw [hl0]; exact hle), ← hct, List.take_take, Nat.min_eq_left hle]
              exact k6
        · exact h.grown hg (fun g' hg' e => by cases e; exact he hg')
      · obtain ⟨v', w', hr, ho, hg⟩ := run_append_arg_grows (P := Try.prog) w E.st ty E.ty i0 _ E.k E.bytes E.und hi hz0 hz1 hz2 (zsize E) E.pos ⟨g, 0, none⟩ l0.length cap (l0.flatMap E.enc) (row_len E l0) (h0.1.cells rfl) ad l.length c (l.flatMap E.enc) (row_len E l) (hcells ad rfl) (by omega) (maxLen_of (by omega)) hb
        refine ⟨v', w', hr, ⟨by rw [List.length_append, List.flatMap_append]; exact ownsRow_base ho hbase, by rw [List.length_append]; exact hb⟩, ⟨hg.os, hg.tape, hg.output, hg.size, fun k hk _ => hg.block k hk (by simp)⟩, fun u m _ h => h.grown hg (fun g' _ e => by cases e)⟩
end

end Go.Proofs.Ytodbgjhdfjpcpac
