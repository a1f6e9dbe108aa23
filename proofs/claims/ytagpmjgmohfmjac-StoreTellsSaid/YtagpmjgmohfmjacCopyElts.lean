/- copy into a row of the call's own, of whatever elements. No condition: a law of the model. -/
import Derived.Test.YtagpmjgmohfmjacElts
namespace Go.Proofs.Ytagpmjgmohfmjac
open Go.RowKit

section
variable {α : Type} {E : Elt α}
theorem splice_row (m : List α) : ∀ (l : List α) (off : Nat), off + m.length ≤ l.length → splice (l.flatMap E.enc) (off * E.k) (m.flatMap E.enc) = (l.take off ++ (m ++ l.drop (off + m.length))).flatMap E.enc := fun l off h => by
  have h1 : ∀ (l : List α) (j : Nat), j ≤ l.length → (l.flatMap E.enc).take (j * E.k) = (l.take j).flatMap E.enc ∧ (l.flatMap E.enc).drop (j * E.k) = (l.drop j).flatMap E.enc := fun l j hj => by
    have he : l.flatMap E.enc = (l.take j).flatMap E.enc ++ (l.drop j).flatMap E.enc := by rw [← List.flatMap_append, List.take_append_drop]
    have hl : ((l.take j).flatMap E.enc).length = j * E.k := by rw [row_len E, List.length_take, Nat.min_eq_left hj]
    constructor
    · rw [he, ← hl, List.take_left]
    · rw [he, ← hl, List.drop_left]
  unfold splice
  rw [row_len E m, ← Nat.add_mul, (h1 l off (by omega)).1, (h1 l (off + m.length) h).2, List.flatMap_append, List.flatMap_append]

theorem run_copy_elts {w : World} (ty : TypeId) (base : Nat) (v : Value) (l : List α) (hown : OwnRow E base w v l) (g : Nat) (hg : v.ownBlock = some g) (off dLen dCap : Nat) (ad : Addr) (sLen sCap : Nat)
    (m : List α) (hm : m.length = Nat.min sLen dLen) (hsrc : Cells w ad (m.flatMap E.enc)) (hfit : off + m.length ≤ l.length) :
    ∃ w', (Builtin.copy_ #[E.st, E.st] ty #[.slice (some ⟨g, off * E.k, none⟩) dLen dCap, .slice (some ad) sLen sCap]).run Try.prog w = .ok (goInt m.length) w' ∧ OwnRow E base w' v (l.take off ++ (m ++ l.drop (off + m.length))) ∧ w.grownBy w' (some g) ∧ w'.heap.size = w.heap.size := by
  obtain ⟨i0, hi, _, hz1, _⟩ := info_parts E.info
  have hcl : (m.flatMap E.enc).length = m.length * E.k := row_len E m
  have hfit' : off * E.k + (m.flatMap E.enc).length ≤ l.length * E.k := by
    rw [hcl, ← Nat.add_mul]
    exact Nat.mul_le_mul_right _ hfit
  obtain ⟨w', hr, h2, h3, h4⟩ := run_storeCells_row (P := Try.prog) hown.1 hg (off * E.k) (m.flatMap E.enc) hfit' (flatMap_one E.one m)
  have hl := run_loadCells_list (P := Try.prog) w ad (m.flatMap E.enc) hsrc
  rw [hcl] at hl
  rw [splice_row m l off hfit] at h2
  have hlen : (l.take off ++ (m ++ l.drop (off + m.length))).length = l.length := by simp; omega
  refine ⟨w', ?_, ⟨by rw [hlen]; exact h2, by rw [hlen]; exact hown.2⟩, h3, h4⟩
  simp [Builtin.copy_, run_underlying E.und, Builtin.lenOf, Builtin.firstCells, sizeOf, typeInfo, hi, hz1, ← hm, hl, hr]

theorem wpList_copy_elts {w : World} {ops : Array Oper} {rest : List Oper} {o : Oper} {a : Act} {Q : Exit → Act → World → Prop} (hgd : o.guard = none) (d s : Operand) (ho : o.op = .call { callee := .builtin .copy, args := #[d, s], argTypes := #[E.st, E.st] })
    (base : Nat) (v : Value) (l : List α) (hown : OwnRow E base w v l) (g : Nat) (hg : v.ownBlock = some g) (off dLen dCap : Nat) (dp : Addr) (hd : a.eval d = .slice (some dp) dLen dCap) (hdp : dp = ⟨g, off * E.k, none⟩) (ad : Addr) (sLen sCap : Nat) (hs : a.eval s = .slice (some ad) sLen sCap)
    (m : List α) (hm : m.length = Nat.min sLen dLen) (hsrc : Cells w ad (m.flatMap E.enc)) (hfit : off + m.length ≤ l.length)
    (h : ∀ w', OwnRow E base w' v (l.take off ++ (m ++ l.drop (off + m.length))) → w.grownBy w' (some g) → w'.heap.size = w.heap.size → wpList Try.prog ops Q rest (a.put o.dst (goInt m.length)) w') : wpList Try.prog ops Q (o :: rest) a w := by
  subst hdp
  refine wpList_plain hgd fun K hK => ?_
  obtain ⟨w', hrun, h2, h3, h4⟩ := run_copy_elts o.type base v l hown g hg off dLen dCap ad sLen sCap m hm hsrc hfit
  unfold Oper.wp
  simp [execOp, ho, resolve, invoke, builtin, hd, hs, hrun, Result.andThen]
  exact hK _ _ (h w' h2 h3 h4)
end

end Go.Proofs.Ytagpmjgmohfmjac
