/- What the law FramesNext asks, as lists. -/
import Derived.Test.YtbcaagmnmaonbabRefNext2
import Derived.Test.YtbcaagmnmaonbabHoldLaw
namespace Go.Proofs.Ytbcaagmnmaonbab
open Go.RowKit

/-- No frame is another one but for its mark. -/
def Marks (fs gs : List Fr) : Prop := gs.length = fs.length ∧ ∀ (i : Nat) q, fs[i]? = some q → ∃ q', gs[i]? = some q' ∧ (q' = q ∨ q' = frU q)

theorem Marks.refl (fs : List Fr) : Marks fs fs := ⟨rfl, fun _ q h => ⟨q, h, .inl rfl⟩⟩

theorem Marks.set {fs gs : List Fr} (h : Marks fs gs) (i : Nat) : Marks fs (gs.set i (frU (gs.getD i fr0))) := by
  refine ⟨by rw [List.length_set]; exact h.1, fun j q hj => ?_⟩
  obtain ⟨q', h1, h2⟩ := h.2 j q hj
  by_cases e : j = i
  · subst e
    have hl : j < gs.length := (List.getElem?_eq_some_iff.1 h1).1
    refine ⟨frU q', ?_, ?_⟩
    · rw [List.getElem?_set_self hl, List.getD_eq_getElem?_getD, h1]
      rfl
    · right
      rcases h2 with rfl | rfl <;> rfl
  · exact ⟨q', by rw [List.getElem?_set_ne (Ne.symm e)]; exact h1, h2⟩

/-- Where the hand stops. -/
theorem nextGo_stop : ∀ (m : Nat) (fs gs : List Fr) (h : Nat), Marks fs gs → h < gs.length → ∀ (gs' : List Fr) (h' : Nat) (r : Int), nextGo m gs h = (gs', h', r) → Marks fs gs' ∧ h' < gs'.length ∧ (r = -1 ∨ ∃ (k : Nat) (q : Fr), r = (k : Int) ∧ fs[k]? = some q ∧ 0 < q.r ∧ gs'[k]? = some (frU q) ∧ h' = (k + 1) % fs.length)
  | 0, fs, gs, h, hm, hh, gs', h', r, e => by
    rw [nextGo] at e
    cases e
    exact ⟨hm, hh, .inl rfl⟩
  | m + 1, fs, gs, h, hm, hh, gs', h', r, e => by
    rw [nextGo] at e
    have hm' := hm.set h
    have hl' : (h + 1) % gs.length < (gs.set h (frU (gs.getD h fr0))).length := by
      rw [List.length_set]
      exact Nat.mod_lt _ (by omega)
    by_cases hi : idle (gs.getD h fr0) = true
    · rw [if_pos hi] at e
      cases e
      refine ⟨hm', hl', .inr ?_⟩
      have hfl : h < fs.length := by rw [← hm.1]; exact hh
      obtain ⟨q', h1, h2⟩ := hm.2 h fs[h] (List.getElem?_eq_getElem hfl)
      have hg : gs.getD h fr0 = q' := by rw [List.getD_eq_getElem?_getD, h1]; rfl
      rw [hg] at hi
      have hr : 0 < q'.r := by unfold idle at hi; simp at hi; exact hi.1
      refine ⟨h, fs[h], rfl, List.getElem?_eq_getElem hfl, ?_, ?_, by rw [hm.1]⟩
      · rcases h2 with rfl | rfl
        · exact hr
        · exact hr
      · rw [List.getElem?_set_self hh, hg]
        rcases h2 with rfl | rfl <;> rfl
    · rw [if_neg hi] at e
      exact nextGo_stop m fs _ _ hm' hl' gs' h' r e

/-- Once no frame is marked the hand goes by those that are free, and stops at the first one that is held. -/
theorem nextGo_find : ∀ (d m : Nat) (fs : List Fr) (h : Nat), (∀ q ∈ fs, q.u = false) → h < fs.length → d < m → (∀ j, j < d → held (fs.getD ((h + j) % fs.length) fr0) = false) → held (fs.getD ((h + d) % fs.length) fr0) = true → nextGo m fs h = (fs, (h + d + 1) % fs.length, (((h + d) % fs.length : Nat) : Int))
  | d, 0, _, _, _, _, hm, _, _ => by omega
  | d, m + 1, fs, h, hu, hh, hm, hb, hd => by
    have hq : fs[h]? = some (fs.getD h fr0) := by rw [List.getD_eq_getElem?_getD, List.getElem?_eq_getElem hh]; rfl
    have hqu : (fs.getD h fr0).u = false := hu _ (List.mem_of_getElem? hq)
    have hs : fs.set h (frU (fs.getD h fr0)) = fs := by
      apply List.ext_getElem?
      intro j
      by_cases hj : j = h
      · subst hj
        rw [List.getElem?_set_self hh, hq]
        generalize fs.getD j fr0 = q at hqu
        obtain ⟨p, r, u, d, f, x⟩ := q
        simp only at hqu
        subst hqu
        rfl
      · rw [List.getElem?_set_ne (Ne.symm hj)]
    have hid : idle (fs.getD h fr0) = held (fs.getD h fr0) := by unfold idle held; rw [hqu]; simp
    rw [nextGo, hs, hid]
    cases d with
    | zero =>
      rw [Nat.add_zero, Nat.mod_eq_of_lt hh] at hd
      rw [if_pos hd]
      simp [Nat.mod_eq_of_lt hh]
    | succ d =>
      have h0 := hb 0 (by omega)
      rw [Nat.add_zero, Nat.mod_eq_of_lt hh] at h0
      rw [if_neg (by rw [h0]; decide)]
      have k1 : ∀ j, j < d → held (fs.getD (((h + 1) % fs.length + j) % fs.length) fr0) = false := fun j hj => by
        rw [Nat.mod_add_mod, show h + 1 + j = h + (j + 1) by omega]
        exact hb (j + 1) (by omega)
      have k2 : held (fs.getD (((h + 1) % fs.length + d) % fs.length) fr0) = true := by
        rw [Nat.mod_add_mod, show h + 1 + d = h + (d + 1) by omega]
        exact hd
      rw [nextGo_find d m fs ((h + 1) % fs.length) hu (Nat.mod_lt _ (by omega)) (by omega) k1 k2]
      rw [Nat.mod_add_mod, show h + 1 + d = h + (d + 1) by omega]
      rw [show (h + 1) % fs.length + d + 1 = (h + 1) % fs.length + (d + 1) by omega, Nat.mod_add_mod, show h + 1 + (d + 1) = h + (d + 1) + 1 by omega]

/-- The frames from k on, the first ones behind the last. -/
def turn (fs : List Fr) (k : Nat) : List Fr := fs.drop k ++ fs.take k

theorem turn_len {fs : List Fr} {k : Nat} (hk : k < fs.length) : (turn fs k).length = fs.length := by
  unfold turn
  rw [List.length_append, List.length_drop, List.length_take]
  omega

theorem turn_count (fs : List Fr) (k : Nat) : (turn fs k).countP held = fs.countP held := by
  unfold turn
  rw [List.countP_append, Nat.add_comm, ← List.countP_append, List.take_append_drop]

theorem turn_at {fs : List Fr} {k p : Nat} (hk : k < fs.length) (hp : p < fs.length) : (turn fs k)[p]? = fs[(k + p) % fs.length]? := by
  unfold turn
  by_cases h : p < fs.length - k
  · rw [List.getElem?_append_left (by rw [List.length_drop]; exact h), List.getElem?_drop, Nat.mod_eq_of_lt (by omega)]
  · rw [List.getElem?_append_right (by rw [List.length_drop]; omega), List.length_drop, List.getElem?_take_of_lt (by omega)]
    rw [Nat.mod_eq_sub_mod (by omega), Nat.mod_eq_of_lt (by omega)]
    congr 1
    omega

theorem held_count {fs : List Fr} (h0 : ∀ q ∈ fs, 0 ≤ q.r) : fs.countP held + freeN fs = fs.length := by
  induction fs with
  | nil => rfl
  | cons a l ih =>
    have h1 := ih fun q hq => h0 q (by simp [hq])
    have h2 := h0 a (by simp)
    unfold freeN at h1 ⊢
    rw [List.countP_cons, List.countP_cons, List.length_cons]
    by_cases h3 : a.r = 0
    · rw [if_neg (by unfold held; simp; omega), if_pos (by simp [h3])]
      omega
    · rw [if_pos (by unfold held; simp; omega), if_neg (by simp [h3])]
      omega

/-- One more is held behind place P: where the hand stops next. -/
theorem next_step {fs : List Fr} {k P t : Nat} (hu : ∀ q ∈ fs, q.u = false) (hk : k < fs.length) (hP : P < fs.length) (ht : ((turn fs k).take (P + 1)).countP held = t) (hmore : t < fs.countP held) :
    ∃ P', P < P' ∧ P' < fs.length ∧ ((turn fs k).take (P' + 1)).countP held = t + 1 ∧ nextGo (2 * fs.length) fs ((k + P + 1) % fs.length) = (fs, (k + P' + 1) % fs.length, (((k + P') % fs.length : Nat) : Int)) := by
  have hl := turn_len hk
  have hsplit : ((turn fs k).take (P + 1)).countP held + ((turn fs k).drop (P + 1)).countP held = fs.countP held := by
    rw [← List.countP_append, List.take_append_drop, turn_count]
  obtain ⟨q, hqm, hqh⟩ : ∃ q ∈ (turn fs k).drop (P + 1), held q = true := List.countP_pos_iff.1 (by omega)
  have hd : ((turn fs k).drop (P + 1)).findIdx held < ((turn fs k).drop (P + 1)).length := List.findIdx_lt_length_of_exists ⟨q, hqm, hqh⟩
  obtain ⟨d, hdd⟩ : ∃ d, ((turn fs k).drop (P + 1)).findIdx held = d := ⟨_, rfl⟩
  have hat : held (((turn fs k).drop (P + 1))[d]'(by rw [← hdd]; exact hd)) = true := by
    have := List.findIdx_getElem (w := hd)
    simp only [hdd] at this
    exact this
  have hbef : ∀ j (hj : j < d), held (((turn fs k).drop (P + 1))[j]'(by omega)) = false := fun j hj => by
    have := List.not_of_lt_findIdx (p := held) (xs := (turn fs k).drop (P + 1)) (i := j) (by omega)
    simpa using this
  have hdl : d < (turn fs k).length - (P + 1) := by rw [hdd, List.length_drop] at hd; exact hd
  have hget : ∀ j, j ≤ d → fs.getD (((k + P + 1) % fs.length + j) % fs.length) fr0 = ((turn fs k).getD (P + 1 + j) fr0) := fun j hj => by
    rw [Nat.mod_add_mod, List.getD_eq_getElem?_getD, List.getD_eq_getElem?_getD, turn_at hk (by omega), show k + (P + 1 + j) = k + P + 1 + j by omega]
  have hgd : ∀ j (hj : j < (turn fs k).length - (P + 1)), (turn fs k).getD (P + 1 + j) fr0 = ((turn fs k).drop (P + 1))[j]'(by rw [List.length_drop]; exact hj) := fun j hj => by
    rw [List.getD_eq_getElem?_getD, List.getElem_drop, List.getElem?_eq_getElem (by omega)]
    rfl
  refine ⟨P + 1 + d, by omega, by omega, ?_, ?_⟩
  · have e1 : (turn fs k).take (P + 1 + d + 1) = (turn fs k).take (P + 1) ++ ((turn fs k).drop (P + 1)).take (d + 1) := by
      rw [show P + 1 + d + 1 = (P + 1) + (d + 1) by omega, List.take_add]
    rw [e1, List.countP_append, ht]
    have e2 : ((turn fs k).drop (P + 1)).take (d + 1) = ((turn fs k).drop (P + 1)).take d ++ [((turn fs k).drop (P + 1))[d]'(by rw [← hdd]; exact hd)] := List.take_succ_eq_append_getElem _
    rw [e2, List.countP_append, List.countP_cons, hat, List.countP_nil]
    have e3 : (((turn fs k).drop (P + 1)).take d).countP held = 0 := by
      rw [List.countP_eq_zero]
      intro x hx
      obtain ⟨j, hj⟩ := List.getElem?_of_mem hx
      have hjd : j < d := by
        have := (List.getElem?_eq_some_iff.1 hj).1
        rw [List.length_take] at this
        omega
      rw [List.getElem?_take_of_lt hjd, List.getElem?_eq_getElem (by rw [List.length_drop]; omega)] at hj
      cases hj
      rw [hbef j hjd]
      decide
    rw [e3]
    simp
  · rw [nextGo_find d (2 * fs.length) fs ((k + P + 1) % fs.length) hu (Nat.mod_lt _ (by omega)) (by omega) (fun j hj => by rw [hget j (by omega), hgd j (by omega)]; exact hbef j hj) (by rw [hget d (Nat.le_refl _), hgd d hdl]; exact hat)]
    rw [Nat.mod_add_mod, show k + P + 1 + d = k + (P + 1 + d) by omega]
    rw [show (k + P + 1) % fs.length + d + 1 = (k + P + 1) % fs.length + (d + 1) by omega, Nat.mod_add_mod, show k + P + 1 + (d + 1) = k + (P + 1 + d) + 1 by omega]

theorem mod_inj {k p p' n : Nat} (hk : k < n) (hp : p < n) (hp' : p' < n) (h : (k + p) % n = (k + p') % n) : p = p' := by
  have f : ∀ p, p < n → (k + p) % n = if k + p < n then k + p else k + p - n := fun p hp => by
    split
    · exact Nat.mod_eq_of_lt (by omega)
    · rw [Nat.mod_eq_sub_mod (by omega), Nat.mod_eq_of_lt (by omega)]
  rw [f p hp, f p' hp'] at h
  split at h <;> split at h <;> omega

end Go.Proofs.Ytbcaagmnmaonbab
