/- append onto rows of the call's own, of whatever came in. No condition: laws of the model. -/
import Derived.Test.YtbcaagmnmaonbaaDeleteOne
namespace Go.Proofs.Ytbcaagmnmaonbaa
open Go.RowKit

theorem run_append_none_pages {w : World} {base : Nat} {v : Value} {ps0 : List (List Int)} (ty : TypeId) (hown : OwnPages base w v ps0) (c : Nat) : (Builtin.append_ #[33, 33] ty #[v, .slice none 0 c]).run Try.prog w = .ok v w := by
  obtain ⟨i0, hi, _, hz1, _⟩ := info_parts Try.infoPage
  rcases hown.1.2 with ⟨rfl, _⟩ | ⟨g, cap, cur, rfl, _, _, hnc, _⟩
  · simp [Builtin.append_, run_underlying Try.underlying33, sizeOf, typeInfo, hi, Builtin.lenOf, Builtin.firstCells]
  · simp [Builtin.append_, run_underlying Try.underlying33, sizeOf, typeInfo, hi, Builtin.lenOf, Builtin.firstCells, hnc, storeCells]

theorem wpList_append_pages {w : World} {ops : Array Oper} {rest : List Oper} {o : Oper} {a : Act} {Q : Exit → Act → World → Prop} (hgd : o.guard = none) (s x : Operand) (ho : o.op = .call { callee := .builtin .append, args := #[s, x], argTypes := #[33, 33] })
    (base : Nat) (vs : Value) (ps0 : List (List Int)) (hs : a.eval s = vs) (hown : OwnPages base w vs ps0) (vx : Value) (ps : List (List Int)) (hx : a.eval x = vx) (hv : PagesAt w vx ps) (hb : (ps0.length + ps.length) * 8 ≤ 140737488355328) (hbase : base ≤ w.heap.size)
    (h : ∀ v' w', OwnPages base w' v' (ps0 ++ ps) → w.grownBy w' vs.ownBlock → wpList Try.prog ops Q rest (a.put o.dst v') w') : wpList Try.prog ops Q (o :: rest) a w := by
  obtain ⟨⟨ax, c, rfl, hnone, hcells⟩, h8, _⟩ := hv
  cases ax with
  | none =>
    have hps := hnone rfl
    subst hps
    refine wpList_plain hgd fun K hK => ?_
    have hrun := run_append_none_pages o.type hown c
    unfold Oper.wp execOp
    simp only [ho, resolve, invoke, builtin, Sem.run_bind, Sem.run_pure, Result.andThen_ok, List.map_toArray, List.map_cons, List.map_nil, hs, hx, List.length_nil, hrun]
    exact hK _ _ (h vs w (by rw [List.append_nil]; exact hown) (World.grownBy.rfl' _ _))
  | some ad =>
    obtain ⟨i0, hi, hz0, hz1, hz2⟩ := info_parts Try.infoPage
    refine wpList_append_own w hgd s x 33 ho base 23 i0 _ 8 8 Try.underlying33 hi hz0 hz1 hz2 rfl (by decide) vs ps0.length _ hs hown.1 ad ps.length c (ps.flatMap pgc) hx (flatMap_len ps fun p hp => by rw [pgc_len, h8 p hp]) (hcells ad rfl) (flatMap_one pgc_one ps) (maxLen_of (by omega)) hb hbase fun v' w' h1 h2 _ => ?_
    refine h v' w' ⟨by rw [List.length_append, List.flatMap_append]; exact h1, fun p hp => ?_, by rw [List.length_append]; exact hb⟩ h2
    rcases List.mem_append.1 hp with h3 | h3
    · exact hown.2.1 p h3
    · exact h8 p h3

theorem run_append_none_puts {w : World} {base : Nat} {v : Value} {ps0 : List (Int × List Int)} (ty : TypeId) (hown : OwnPuts base w v ps0) (c : Nat) : (Builtin.append_ #[34, 34] ty #[v, .slice none 0 c]).run Try.prog w = .ok v w := by
  obtain ⟨i0, hi, _, hz1, _⟩ := info_parts Try.infoPut
  rcases hown.1.2 with ⟨rfl, _⟩ | ⟨g, cap, cur, rfl, _, _, hnc, _⟩
  · simp [Builtin.append_, run_underlying Try.underlying34, sizeOf, typeInfo, hi, Builtin.lenOf, Builtin.firstCells]
  · simp [Builtin.append_, run_underlying Try.underlying34, sizeOf, typeInfo, hi, Builtin.lenOf, Builtin.firstCells, hnc, storeCells]

theorem wpList_append_puts {w : World} {ops : Array Oper} {rest : List Oper} {o : Oper} {a : Act} {Q : Exit → Act → World → Prop} (hgd : o.guard = none) (s x : Operand) (ho : o.op = .call { callee := .builtin .append, args := #[s, x], argTypes := #[34, 34] })
    (base : Nat) (vs : Value) (ps0 : List (Int × List Int)) (hs : a.eval s = vs) (hown : OwnPuts base w vs ps0) (vx : Value) (ps : List (Int × List Int)) (hx : a.eval x = vx) (hv : PutsAt w vx ps) (hb : (ps0.length + ps.length) * 16 ≤ 140737488355328) (hbase : base ≤ w.heap.size)
    (h : ∀ v' w', OwnPuts base w' v' (ps0 ++ ps) → w.grownBy w' vs.ownBlock → wpList Try.prog ops Q rest (a.put o.dst v') w') : wpList Try.prog ops Q (o :: rest) a w := by
  obtain ⟨⟨ax, c, rfl, hnone, hcells⟩, h8, _⟩ := hv
  cases ax with
  | none =>
    have hps := hnone rfl
    subst hps
    refine wpList_plain hgd fun K hK => ?_
    have hrun := run_append_none_puts o.type hown c
    unfold Oper.wp execOp
    simp only [ho, resolve, invoke, builtin, Sem.run_bind, Sem.run_pure, Result.andThen_ok, List.map_toArray, List.map_cons, List.map_nil, hs, hx, List.length_nil, hrun]
    exact hK _ _ (h vs w (by rw [List.append_nil]; exact hown) (World.grownBy.rfl' _ _))
  | some ad =>
    obtain ⟨i0, hi, hz0, hz1, hz2⟩ := info_parts Try.infoPut
    refine wpList_append_own w hgd s x 34 ho base 56 i0 _ 9 16 Try.underlying34 hi hz0 hz1 hz2 rfl (by decide) vs ps0.length _ hs hown.1 ad ps.length c (ps.flatMap ptc) hx (flatMap_len ps fun p hp => by rw [ptc_len, h8 p hp]) (hcells ad rfl) (flatMap_one ptc_one ps) (maxLen_of (by omega)) hb hbase fun v' w' h1 h2 _ => ?_
    refine h v' w' ⟨by rw [List.length_append, List.flatMap_append]; exact h1, fun p hp => ?_, by rw [List.length_append]; exact hb⟩ h2
    rcases List.mem_append.1 hp with h3 | h3
    · exact hown.2.1 p h3
    · exact h8 p h3

theorem ownPages_made (w : World) : OwnPages w.heap.size (w.alloc (.cells #[] 23)) (.slice (some ⟨w.heap.size, 0, none⟩) 0 0) [] := ⟨World.ownsRow_made w #[] 0 (Nat.le_refl _) (Nat.zero_le _) (by simp), by simp, by simp⟩
theorem ownPuts_made (w : World) : OwnPuts w.heap.size (w.alloc (.cells #[] 56)) (.slice (some ⟨w.heap.size, 0, none⟩) 0 0) [] := ⟨World.ownsRow_made w #[] 0 (Nat.le_refl _) (Nat.zero_le _) (by simp), by simp, by simp⟩

end Go.Proofs.Ytbcaagmnmaonbaa
