/- copy into a row of the call's own. No condition: a law of the model. -/
import Derived.Test.YtbcaagmnmaonbabElt
namespace Go.Proofs.Ytbcaagmnmaonbab
open Go.RowKit

theorem splice_row (m : List Fr) : ∀ (l : List Fr) (off : Nat), off + m.length ≤ l.length → splice (l.flatMap frv) (off * 13) (m.flatMap frv) = (l.take off ++ (m ++ l.drop (off + m.length))).flatMap frv := fun l off h => by
  have h1 : ∀ (l : List Fr) (j : Nat), j ≤ l.length → (l.flatMap frv).take (j * 13) = (l.take j).flatMap frv ∧ (l.flatMap frv).drop (j * 13) = (l.drop j).flatMap frv := fun l j hj => by
    have he : l.flatMap frv = (l.take j).flatMap frv ++ (l.drop j).flatMap frv := by rw [← List.flatMap_append, List.take_append_drop]
    have hl : ((l.take j).flatMap frv).length = j * 13 := by rw [row_len, List.length_take, Nat.min_eq_left hj]
    constructor
    · rw [he, ← hl, List.take_left]
    · rw [he, ← hl, List.drop_left]
  unfold splice
  rw [row_len m, ← Nat.add_mul, (h1 l off (by omega)).1, (h1 l (off + m.length) h).2, List.flatMap_append, List.flatMap_append]

theorem run_copy_elts {w : World} (ty : TypeId) (base : Nat) (v : Value) (l : List Fr) (hown : OwnRow base w v l) (g : Nat) (hg : v.ownBlock = some g) (off dLen dCap : Nat) (ad : Addr) (sLen sCap : Nat)
    (m : List Fr) (hm : m.length = Nat.min sLen dLen) (hsrc : Cells w ad (m.flatMap frv)) (hfit : off + m.length ≤ l.length) :
    ∃ w', (Builtin.copy_ #[37, 37] ty #[.slice (some ⟨g, off * 13, none⟩) dLen dCap, .slice (some ad) sLen sCap]).run Try.prog w = .ok (goInt m.length) w' ∧ OwnRow base w' v (l.take off ++ (m ++ l.drop (off + m.length))) ∧ w.grownBy w' (some g) ∧ w'.heap.size = w.heap.size := by
  obtain ⟨i0, hi, _, hz1, _⟩ := info_parts Try.infoFrame
  have hcl : (m.flatMap frv).length = m.length * 13 := row_len m
  have hfit' : off * 13 + (m.flatMap frv).length ≤ l.length * 13 := by
    rw [hcl, ← Nat.add_mul]
    exact Nat.mul_le_mul_right _ hfit
  obtain ⟨w', hr, h2, h3, h4⟩ := run_storeCells_row (P := Try.prog) hown.1 hg (off * 13) (m.flatMap frv) hfit' (flatMap_one frv_one m)
  have hl := run_loadCells_list (P := Try.prog) w ad (m.flatMap frv) hsrc
  rw [hcl] at hl
  rw [splice_row m l off hfit] at h2
  have hlen : (l.take off ++ (m ++ l.drop (off + m.length))).length = l.length := by simp; omega
  refine ⟨w', ?_, ⟨by rw [hlen]; exact h2, by rw [hlen]; exact hown.2⟩, h3, h4⟩
  simp [Builtin.copy_, run_underlying Try.underlying37, Builtin.lenOf, Builtin.firstCells, sizeOf, typeInfo, hi, hz1, ← hm, hl, hr]

theorem wpList_copy_elts {w : World} {ops : Array Oper} {rest : List Oper} {o : Oper} {a : Act} {Q : Exit → Act → World → Prop} (hgd : o.guard = none) (d s : Operand) (ho : o.op = .call { callee := .builtin .copy, args := #[d, s], argTypes := #[37, 37] })
    (base : Nat) (v : Value) (l : List Fr) (hown : OwnRow base w v l) (g : Nat) (hg : v.ownBlock = some g) (off dLen dCap : Nat) (dp : Addr) (hd : a.eval d = .slice (some dp) dLen dCap) (hdp : dp = ⟨g, off * 13, none⟩) (ad : Addr) (sLen sCap : Nat) (hs : a.eval s = .slice (some ad) sLen sCap)
    (m : List Fr) (hm : m.length = Nat.min sLen dLen) (hsrc : Cells w ad (m.flatMap frv)) (hfit : off + m.length ≤ l.length)
    (h : ∀ w', OwnRow base w' v (l.take off ++ (m ++ l.drop (off + m.length))) → w.grownBy w' (some g) → w'.heap.size = w.heap.size → wpList Try.prog ops Q rest (a.put o.dst (goInt m.length)) w') : wpList Try.prog ops Q (o :: rest) a w := by
  subst hdp
  refine wpList_plain hgd fun K hK => ?_
  obtain ⟨w', hrun, h2, h3, h4⟩ := run_copy_elts o.type base v l hown g hg off dLen dCap ad sLen sCap m hm hsrc hfit
  unfold Oper.wp
  simp [execOp, ho, resolve, invoke, builtin, hd, hs, hrun, Result.andThen]
  exact hK _ _ (h w' h2 h3 h4)

end Go.Proofs.Ytbcaagmnmaonbab
