/- Stores of whole elements into rows of the call's own. No condition: laws of the model. -/
import Derived.Test.YtbcaagmnmaonbabOwn
import Derived.Laws.CopyRow
import Derived.Laws.CopyOwn
namespace Go.Proofs.Ytbcaagmnmaonbab
open Go.RowKit

theorem setRow_grown (w : World) (g : Nat) (cs : Array Value) : w.grownBy (w.setRow g cs) (some g) := by
  refine ⟨rfl, rfl, rfl, by simp [World.setRow], fun k hk hne => ?_⟩
  have : g ≠ k := fun e => hne (by rw [e])
  unfold World.setRow
  simp [Array.getElem?_modify, this]

/-- A row, stored over from a place on. -/
theorem run_storeCells_row {P : Program} {w : World} {base size n : Nat} {e : TypeId} {v : Value} {xs : List Value} (h : w.ownsRow base e size v n xs) {g : Nat} (hg : v.ownBlock = some g) (off : Nat) (cs : List Value) (hfit : off + cs.length ≤ n * size) (h1 : ∀ u ∈ cs, u.oneCell' = true) :
    ∃ w', (storeCells ⟨g, off, none⟩ cs 0).run P w = .ok () w' ∧ w'.ownsRow base e size v n (splice xs off cs) ∧ w.grownBy w' (some g) ∧ w'.heap.size = w.heap.size := by
  obtain ⟨hl, h2⟩ := h
  rcases h2 with ⟨rfl, hn⟩ | ⟨g', cap, cur, rfl, hb, hh, hn, hm, hs, ht⟩
  · simp [Value.ownBlock] at hg
  · simp [Value.ownBlock] at hg
    subst hg
    have hle : n * size ≤ cur.size := by rw [hs]; exact Nat.mul_le_mul_right _ hn
    refine ⟨_, run_storeCells_at P g' off e cs 0 cur w hh (by omega) h1, ⟨by rw [length_splice _ _ _ (by omega)]; exact hl, .inr ⟨g', cap, _, rfl, hb, setRow_heap w g' cur _ e _ hh, hn, hm, ?_, ?_⟩⟩, setRow_grown _ _ _, by simp [World.setRow]⟩
    · simp; omega
    · subst ht
      apply List.ext_getElem?
      intro j
      simp only [splice, Nat.add_zero]
      simp only [List.getElem?_take, List.getElem?_append, List.getElem?_drop, List.length_take, List.length_append, Array.length_toList]
      have e1 : min off cur.size = off := by omega
      have e2 : min off (min (n * size) cur.size) = off := by omega
      simp only [e1, e2]
      split <;> split <;> (try split) <;> (try split) <;> (try split) <;> first | rfl | omega | (congr 1; omega) | skip

theorem wpList_store_row {P : Program} {w : World} {ops : Array Oper} {rest : List Oper} {o : Oper} {a : Act} {Q : Exit → Act → World → Prop} (hgd : o.guard = none) (p x : Operand) (t : TypeId) (ho : o.op = .store t p x) (k : Nat) (hk : (P.info? t).map (·.size) = some k)
    (base : Nat) (v : Value) (n : Nat) (xs : List Value) (hown : w.ownsRow base t k v n xs) (g i : Nat) (hg : v.ownBlock = some g) (hi : i < n) (cs : List Value) (hcs : cs.length = k) (h1 : ∀ u ∈ cs, u.oneCell' = true)
    (ad : Addr) (hp : a.eval p = .pointer (some ad)) (had : ad = ⟨g, i * k, none⟩) (hx : a.eval x = .agg cs.toArray)
    (h : ∀ w', w'.ownsRow base t k v n (splice xs (i * k) cs) → w.grownBy w' (some g) → w'.heap.size = w.heap.size → wpList P ops Q rest (a.put o.dst undef) w') : wpList P ops Q (o :: rest) a w := by
  subst had
  refine wpList_plain hgd fun K hK => ?_
  have hfit : i * k + cs.length ≤ n * k := by
    rw [hcs, ← Nat.succ_mul]
    exact Nat.mul_le_mul_right _ hi
  obtain ⟨w', hr, h2, h3, h4⟩ := run_storeCells_row (P := P) hown hg (i * k) cs hfit h1
  have hsz : (Go.sizeOf t).run P w = .ok k w := by
    cases hq : P.info? t with
    | none => simp [hq] at hk
    | some i => simp [hq] at hk; simp [Go.sizeOf, typeInfo, hq, hk]
  have hall : (Instr.storeAt t (.pointer (some ⟨g, i * k, none⟩)) (.agg cs.toArray)).run P w = .ok () w' := by
    simp [Instr.storeAt, Instr.sureAddr, storeVar, Sem.run_bind, hsz, Result.andThen, Value.cells, hcs, hr]
  unfold Oper.wp
  simp only [execOp, ho, hp, hx, Sem.run_bind, hall, Result.andThen, Sem.run_pure, Oper.upon]
  exact hK _ _ (h w' h2 h3 h4)

theorem splice_set {α : Type} {enc : α → List Value} {k : Nat} (x : α) (hx : (enc x).length = k) : ∀ (l : List α) (i : Nat), (∀ a ∈ l, (enc a).length = k) → i < l.length → splice (l.flatMap enc) (i * k) (enc x) = (l.set i x).flatMap enc
  | [], i, _, hi => by simp at hi
  | a :: l, 0, h, _ => by
    simp only [splice, List.flatMap_cons, Nat.zero_mul, List.take_zero, List.nil_append, Nat.zero_add, List.set_cons_zero]
    rw [List.drop_append_of_le_length (by rw [hx, h a (by simp)]; exact Nat.le_refl _), List.drop_of_length_le (by rw [hx, h a (by simp)]; exact Nat.le_refl _), List.nil_append]
  | a :: l, i + 1, h, hi => by
    have ha := h a (by simp)
    have ih := splice_set x hx l i (fun b hb => h b (by simp [hb])) (by simpa using hi)
    simp only [splice, List.flatMap_cons, List.set_cons_succ] at ih ⊢
    rw [← ih, Nat.succ_mul, Nat.add_comm (i * k) k, ← ha, List.take_length_add_append, Nat.add_assoc, List.drop_length_add_append, List.append_assoc]

theorem mem_set_len {ps : List (List Int)} {i : Nat} {l : List Int} (h : ∀ p ∈ ps, p.length = 8) (hl : l.length = 8) : ∀ p ∈ ps.set i l, p.length = 8 := fun p hp => by
  rcases List.mem_or_eq_of_mem_set hp with h1 | h1
  · exact h p h1
  · rw [h1]; exact hl

theorem wpList_store_page {w : World} {ops : Array Oper} {rest : List Oper} {o : Oper} {a : Act} {Q : Exit → Act → World → Prop} (hgd : o.guard = none) (p x : Operand) (ho : o.op = .store 31 p x)
    (base : Nat) (v : Value) (ps : List (List Int)) (hown : OwnPages base w v ps) (g i : Nat) (hg : v.ownBlock = some g) (hi : i < ps.length) (l : List Int) (hl : l.length = 8)
    (ad : Addr) (hp : a.eval p = .pointer (some ad)) (had : ad = ⟨g, i * 8, none⟩) (hx : a.eval x = .agg (pgc l).toArray)
    (h : ∀ w', OwnPages base w' v (ps.set i l) → w.grownBy w' (some g) → w'.heap.size = w.heap.size → wpList Try.prog ops Q rest (a.put o.dst undef) w') : wpList Try.prog ops Q (o :: rest) a w := by
  refine wpList_store_row hgd p x 31 ho 8 (by kernel_rfl) base v ps.length _ hown.1 g i hg hi (pgc l) (by rw [pgc_len, hl]) (pgc_one l) ad hp had hx fun w' h1 h2 h3 => ?_
  rw [splice_set l (by rw [pgc_len, hl]) ps i (fun b hb => by rw [pgc_len, hown.2.1 b hb]) hi] at h1
  refine h w' ⟨by rw [List.length_set]; exact h1, mem_set_len hown.2.1 hl, by rw [List.length_set]; exact hown.2.2⟩ h2 h3

end Go.Proofs.Ytbcaagmnmaonbab
