/- Contract of slices.Delete(s, 0, 1) of what waits, in memory of the call's own: the first one is gone. -/
import Derived.Test.YtbcaagmnmaonbabRead
namespace Go.Proofs.Ytbcaagmnmaonbab
open Go.RowKit

theorem World.grownBy.rfl' (w : World) (row : Option Nat) : w.grownBy w row := ⟨rfl, rfl, rfl, Nat.le_refl _, fun _ _ _ => rfl⟩

/-- What an own row is. -/
theorem OwnPuts.block {base : Nat} {w : World} {g n cap : Nat} {qs : List (Int × List Int)} (h : OwnPuts base w (.slice (some ⟨g, 0, none⟩) n cap) qs) :
    n = qs.length ∧ base ≤ g ∧ qs.length ≤ cap ∧ cap ≤ maxLen ∧ ∃ cur, w.heap[g]? = some (.cells cur 35 (0, 0)) ∧ cur.size = cap * 9 ∧ cur.toList.take (qs.length * 9) = qs.flatMap ptc := by
  rcases h.1.2 with ⟨h0, _⟩ | ⟨g', cap', cur, h0, h1, h2, h3, h4, h5, h6⟩
  · cases h0
  · cases h0
    exact ⟨rfl, h1, h3, h4, cur, h2, h5, h6⟩

/-- An own row, made of its block. -/
theorem OwnPuts.mk {base : Nat} {w : World} {g cap : Nat} {qs : List (Int × List Int)} {cur : Array Value} (hb : base ≤ g) (hh : w.heap[g]? = some (.cells cur 35 (0, 0))) (hn : qs.length ≤ cap) (hm : cap ≤ maxLen) (hs : cur.size = cap * 9) (ht : cur.toList.take (qs.length * 9) = qs.flatMap ptc)
    (h8 : ∀ q ∈ qs, q.2.length = 8) (hbytes : qs.length * 16 ≤ 140737488355328) : OwnPuts base w (.slice (some ⟨g, 0, none⟩) qs.length cap) qs :=
  ⟨⟨flatMap_len qs fun q hq => by rw [ptc_len, h8 q hq], .inr ⟨g, cap, cur, rfl, hb, hh, hn, hm, hs, ht⟩⟩, h8, hbytes⟩

theorem wpList_append_shift {w : World} {ops : Array Oper} {rest : List Oper} {o : Oper} {a : Act} {Q : Exit → Act → World → Prop} (hgd : o.guard = none) (s x : Operand) (ho : o.op = .call { callee := .builtin .append, args := #[s, x], argTypes := #[23, 23] })
    (base g cap n : Nat) (q0 : Int × List Int) (r : List (Int × List Int)) (hown : OwnPuts base w (.slice (some ⟨g, 0, none⟩) n cap) (q0 :: r)) (hs : a.eval s = .slice (some ⟨g, 0, none⟩) 0 cap) (c' : Nat) (hx : a.eval x = .slice (some ⟨g, 9, none⟩) r.length c')
    (h : ∀ w', OwnPuts base w' (.slice (some ⟨g, 0, none⟩) r.length cap) r → w.grownBy w' (some g) → w'.heap.size = w.heap.size → wpList Try.prog ops Q rest (a.put o.dst (.slice (some ⟨g, 0, none⟩) r.length cap)) w') : wpList Try.prog ops Q (o :: rest) a w := by
  refine wpList_plain hgd fun K hK => ?_
  obtain ⟨hn, hb, hnc, hm, cur, hh, hsz, ht⟩ := hown.block
  obtain ⟨i0, hi, hz0, hz1, hz2⟩ := info_parts Try.infoPut
  have h8 := hown.2.1
  have hl : (r.flatMap ptc).length = r.length * 9 := flatMap_len r fun q hq => by rw [ptc_len, h8 q (by simp [hq])]
  have hl0 : (ptc q0).length = 9 := by rw [ptc_len, h8 q0 (by simp)]
  simp only [List.length_cons] at hnc ht
  have hcells : ∀ j u, (r.flatMap ptc)[j]? = some u → w.cell? ((⟨g, 9, none⟩ : Addr).add j) = some u := fun j u hj => by
    have hjl : j < r.length * 9 := by rw [← hl]; exact (List.getElem?_eq_some_iff.1 hj).1
    rw [Addr.add_lit]
    have h1 : (cur.toList.take ((r.length + 1) * 9))[9 + j]? = some u := by
      rw [ht, List.flatMap_cons, List.getElem?_append_right (by omega), hl0]
      simpa using hj
    rw [List.getElem?_take_of_lt (by omega)] at h1
    simp only [World.cell?, hh]
    simpa using h1
  have hrun := run_append_room (P := Try.prog) w 23 o.type 35 i0 Try.underlying23 hi g 0 cap cur hh ⟨g, 9, none⟩ r.length c' (r.flatMap ptc) (by rw [hz1]; exact hl) hcells (flatMap_one ptc_one r) (by omega) (by rw [hl]; simp; omega)
  simp only [Nat.zero_mul, List.take_zero, List.nil_append, Nat.zero_add] at hrun
  unfold Oper.wp execOp
  simp only [ho, resolve, invoke, builtin, Sem.run_bind, Sem.run_pure, Result.andThen_ok, List.map_toArray, List.map_cons, List.map_nil, hs, hx, hrun]
  refine hK _ _ (h _ (OwnPuts.mk hb (setRow_heap w g cur _ 35 _ hh) (by omega) hm ?_ ?_ (fun q hq => h8 q (by simp [hq])) (by have := hown.2.2; simp at this; omega)) (setRow_grown _ _ _) (by simp [World.setRow]))
  · simp [hl]; omega
  · rw [← hl]
    simp

theorem zeroCells_one (n : Nat) : ∀ u ∈ (Builtin.zeroCells #[.int .i64 0, .int .u8 0, .int .u8 0, .int .u8 0, .int .u8 0, .int .u8 0, .int .u8 0, .int .u8 0, .int .u8 0] n).toList, u.oneCell' = true := fun u hu => by
  simp only [Builtin.zeroCells, Array.toList_map, List.mem_map, Array.toList_range, List.mem_range] at hu
  obtain ⟨i, _, rfl⟩ := hu
  have h9 : i % 9 < 9 := Nat.mod_lt _ (by decide)
  show (#[Value.int .i64 0, .int .u8 0, .int .u8 0, .int .u8 0, .int .u8 0, .int .u8 0, .int .u8 0, .int .u8 0, .int .u8 0] : Array Value)[i % 9]!.oneCell' = true
  generalize i % 9 = k at h9
  match k, h9 with
  | 0, _ => rfl
  | 1, _ => rfl
  | 2, _ => rfl
  | 3, _ => rfl
  | 4, _ => rfl
  | 5, _ => rfl
  | 6, _ => rfl
  | 7, _ => rfl
  | 8, _ => rfl

theorem wpList_clear_row {w : World} {ops : Array Oper} {rest : List Oper} {o : Oper} {a : Act} {Q : Exit → Act → World → Prop} (hgd : o.guard = none) (x : Operand) (ho : o.op = .call { callee := .builtin .clear, args := #[x], argTypes := #[23] })
    (base g cap n : Nat) (qs : List (Int × List Int)) (hown : OwnPuts base w (.slice (some ⟨g, 0, none⟩) n cap) qs) (ad : Addr) (k c' : Nat) (hx : a.eval x = .slice (some ad) k c') (hk : qs.length + k ≤ cap) (had : 0 < k → ad = ⟨g, qs.length * 9, none⟩)
    (h : ∀ w', OwnPuts base w' (.slice (some ⟨g, 0, none⟩) n cap) qs → w.grownBy w' (some g) → w'.heap.size = w.heap.size → wpList Try.prog ops Q rest (a.put o.dst (.tuple #[])) w') : wpList Try.prog ops Q (o :: rest) a w := by
  refine wpList_plain hgd fun K hK => ?_
  cases k with
  | zero =>
    have hrun : (Builtin.clear_ #[23] o.type #[.slice (some ad) 0 c']).run Try.prog w = .ok (.tuple #[]) w := by
      simp [Builtin.clear_, run_underlying Try.underlying23]
    unfold Oper.wp execOp
    simp only [ho, resolve, invoke, builtin, Sem.run_bind, Sem.run_pure, Result.andThen_ok, List.map_toArray, List.map_cons, List.map_nil, hx, hrun]
    exact hK _ _ (h w hown (World.grownBy.rfl' _ _) rfl)
  | succ k =>
    have had' := had (by omega)
    subst had'
    obtain ⟨hn, hb, hnc, hm, cur, hh, hsz, ht⟩ := hown.block
    obtain ⟨Z, hZ⟩ : ∃ Z, (Builtin.zeroCells #[.int .i64 0, .int .u8 0, .int .u8 0, .int .u8 0, .int .u8 0, .int .u8 0, .int .u8 0, .int .u8 0, .int .u8 0] (k + 1)).toList = Z := ⟨_, rfl⟩
    have hzl : Z.length = (k + 1) * 9 := by
      rw [← hZ, Array.length_toList, size_zeroCells]; rfl
    have hone : ∀ u ∈ Z, u.oneCell' = true := by rw [← hZ]; exact zeroCells_one _
    have hst := run_storeCells_at Try.prog g (qs.length * 9) 35 Z 0 cur w hh (by rw [hzl, hsz]; omega) hone
    simp only [Nat.add_zero] at hst
    have hrun : (Builtin.clear_ #[23] o.type #[.slice (some ⟨g, qs.length * 9, none⟩) (k + 1) c']).run Try.prog w = .ok (.tuple #[]) (w.setRow g (cur.toList.take (qs.length * 9) ++ Z ++ cur.toList.drop (qs.length * 9 + Z.length)).toArray) := by
      simp only [Builtin.clear_]
      simp [run_underlying Try.underlying23, Try.zeroValue35, Value.cells, hZ, hst]
    unfold Oper.wp execOp
    simp only [ho, resolve, invoke, builtin, Sem.run_bind, Sem.run_pure, Result.andThen_ok, List.map_toArray, List.map_cons, List.map_nil, hx, hrun]
    subst hn
    have hcl : cur.toList.length = cap * 9 := by simpa using hsz
    refine hK _ _ (h _ (OwnPuts.mk hb (setRow_heap w g cur _ 35 _ hh) hnc hm ?_ ?_ hown.2.1 hown.2.2) (setRow_grown _ _ _) (by simp [World.setRow]))
    · simp only [List.size_toArray, List.length_append, List.length_take, List.length_drop, hzl, hcl]
      omega
    · rw [List.append_assoc, List.take_left' (by rw [List.length_take, hcl]; omega)]
      exact ht

end Go.Proofs.Ytbcaagmnmaonbab
