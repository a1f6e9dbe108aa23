/- What the law FramesNext asks, as lists (more). -/
import Derived.Test.YtbcaagmnmaonbabNextLaw
namespace Go.Proofs.Ytbcaagmnmaonbab
open Go.RowKit

/-- A held frame that is not marked, d places on, is hit. -/
theorem nextGo_hit : ∀ (d m : Nat) (gs : List Fr) (h : Nat), h < gs.length → d < m → held (gs.getD ((h + d) % gs.length) fr0) = true → (gs.getD ((h + d) % gs.length) fr0).u = false → (nextGo m gs h).2.2 ≠ -1
  | d, 0, _, _, _, hm, _, _ => by omega
  | d, m + 1, gs, h, hh, hm, hd, hu => by
    rw [nextGo]
    by_cases hi : idle (gs.getD h fr0) = true
    · rw [if_pos hi]
      simp only
      omega
    · rw [if_neg hi]
      cases d with
      | zero =>
        rw [Nat.add_zero, Nat.mod_eq_of_lt hh] at hd hu
        unfold idle at hi
        unfold held at hd
        rw [hd, hu] at hi
        exact absurd rfl hi
      | succ d =>
        have hl : (gs.set h (frU (gs.getD h fr0))).length = gs.length := List.length_set
        have hne : ∀ i, (gs.set h (frU (gs.getD h fr0))).getD i fr0 = if i = h ∧ h < gs.length then frU (gs.getD h fr0) else gs.getD i fr0 := fun i => by
          rw [List.getD_eq_getElem?_getD]
          by_cases e : i = h
          · subst e
            rw [if_pos ⟨rfl, hh⟩, List.getElem?_set_self hh]
            rfl
          · rw [if_neg (by omega), List.getElem?_set_ne (Ne.symm e), ← List.getD_eq_getElem?_getD]
        have e1 : ((h + 1) % gs.length + d) % gs.length = (h + (d + 1)) % gs.length := by rw [Nat.mod_add_mod, show h + 1 + d = h + (d + 1) by omega]
        refine nextGo_hit d m _ _ (by rw [hl]; exact Nat.mod_lt _ (by omega)) (by omega) ?_ ?_
        · rw [hl, e1, hne]
          split
          · rename_i e
            rw [e.1] at hd
            exact hd
          · exact hd
        · rw [hl, e1, hne]
          split
          · rfl
          · exact hu

theorem nextGo_hit2 : ∀ (d m : Nat) (gs : List Fr) (h : Nat), h < gs.length → d + gs.length < m → held (gs.getD ((h + d) % gs.length) fr0) = true → (nextGo m gs h).2.2 ≠ -1
  | d, 0, _, _, _, hm, _ => by omega
  | d, m + 1, gs, h, hh, hm, hd => by
    rw [nextGo]
    by_cases hi : idle (gs.getD h fr0) = true
    · rw [if_pos hi]
      simp only
      omega
    · rw [if_neg hi]
      have hl : (gs.set h (frU (gs.getD h fr0))).length = gs.length := List.length_set
      have hne : ∀ i, (gs.set h (frU (gs.getD h fr0))).getD i fr0 = if i = h ∧ h < gs.length then frU (gs.getD h fr0) else gs.getD i fr0 := fun i => by
        rw [List.getD_eq_getElem?_getD]
        by_cases e : i = h
        · subst e
          rw [if_pos ⟨rfl, hh⟩, List.getElem?_set_self hh]
          rfl
        · rw [if_neg (by omega), List.getElem?_set_ne (Ne.symm e), ← List.getD_eq_getElem?_getD]
      cases d with
      | zero =>
        rw [Nat.add_zero, Nat.mod_eq_of_lt hh] at hd
        have e1 : ((h + 1) % gs.length + (gs.length - 1)) % gs.length = h := by
          rw [Nat.mod_add_mod, show h + 1 + (gs.length - 1) = h + gs.length by omega, Nat.add_mod_right, Nat.mod_eq_of_lt hh]
        refine nextGo_hit (gs.length - 1) m _ _ (by rw [hl]; exact Nat.mod_lt _ (by omega)) (by omega) ?_ ?_
        · rw [hl, e1, hne, if_pos ⟨rfl, hh⟩]
          exact hd
        · rw [hl, e1, hne, if_pos ⟨rfl, hh⟩]
          rfl
      | succ d =>
        have e1 : ((h + 1) % gs.length + d) % gs.length = (h + (d + 1)) % gs.length := by rw [Nat.mod_add_mod, show h + 1 + d = h + (d + 1) by omega]
        refine nextGo_hit2 d m _ _ (by rw [hl]; exact Nat.mod_lt _ (by omega)) (by rw [hl]; omega) ?_
        rw [hl, e1, hne]
        split
        · rename_i e
          rw [e.1] at hd
          exact hd
        · exact hd

/-- What the first call answers. -/
theorem next_first {fs : List Fr} {h : Int} (hz : memW fs h = 0) :
    (nextI fs h = -1 ∧ freeN fs = fs.length) ∨ ∃ (k : Nat) (q : Fr), nextI fs h = (k : Int) ∧ fs[k]? = some q ∧ 0 < q.r ∧ Marks fs (nextF fs h) ∧ (nextF fs h)[k]? = some (frU q) ∧ nextH fs h = (((k + 1) % fs.length : Nat) : Int) := by
  obtain ⟨h40, hfw, hh0, hh1⟩ := memW_zero hz
  have hI : nextI fs h = (nextR fs h).2.2 := if_pos hz
  have hF : nextF fs h = (nextR fs h).1 := if_pos hz
  have hH : nextH fs h = ((nextR fs h).2.1 : Int) := if_pos hz
  cases hn : fs.any held with
  | false =>
    left
    rw [hI, nextR_none hz hn]
    refine ⟨rfl, ?_⟩
    have h1 := held_count (fs := fs) (fun q hq => (frW_zero (hfw q hq)).1)
    have h2 : fs.countP held = 0 := by
      rw [List.countP_eq_zero]
      intro a ha
      have := List.any_eq_false.1 hn a ha
      simpa using this
    omega
  | true =>
    right
    obtain ⟨q0, hq0, hqh⟩ := List.any_eq_true.1 hn
    obtain ⟨i, hi⟩ := List.getElem?_of_mem hq0
    have hil : i < fs.length := (List.getElem?_eq_some_iff.1 hi).1
    have hht : h.toNat < fs.length := by omega
    obtain ⟨gs', h', r, e⟩ : ∃ gs' h' r, nextGo (2 * fs.length) fs h.toNat = (gs', h', r) := ⟨_, _, _, rfl⟩
    have hne : r ≠ -1 := by
      have hhit := nextGo_hit2 ((i + fs.length - h.toNat) % fs.length) (2 * fs.length) fs h.toNat hht (by have := Nat.mod_lt (i + fs.length - h.toNat) (show 0 < fs.length by omega); omega) (by
        rw [Nat.add_mod_mod, show h.toNat + (i + fs.length - h.toNat) = i + fs.length by omega, Nat.add_mod_right, Nat.mod_eq_of_lt hil, List.getD_eq_getElem?_getD, hi]
        exact hqh)
      rw [e] at hhit
      exact hhit
    obtain ⟨hm, hl, hs⟩ := nextGo_stop (2 * fs.length) fs fs h.toNat (Marks.refl fs) hht gs' h' r e
    rcases hs with hs | ⟨k, q, rfl, hq, hr, hg, rfl⟩
    · exact absurd hs hne
    · refine ⟨k, q, ?_, hq, hr, ?_, ?_, ?_⟩
      · rw [hI]; unfold nextR; rw [e]
      · rw [hF]; unfold nextR; rw [e]; exact hm
      · rw [hF]; unfold nextR; rw [e]; exact hg
      · rw [hH]; unfold nextR; rw [e]

theorem frW_mark {q : Fr} (h : frW q = 0) : frW (frU q) = 0 := by
  by_cases hr : q.r = 0
  · have hq := free_is h hr
    subst hq
    exact h
  · obtain ⟨p, r, u, d, f, x⟩ := q
    simp only at hr
    have e1 : (r == 0) = false := by simpa using hr
    unfold frW frU at *
    simp only [e1, Bool.false_and] at h ⊢
    exact h

/-- With no mark left. -/
def clean (fs : List Fr) : List Fr := fs.map frU

theorem clean_len (fs : List Fr) : (clean fs).length = fs.length := List.length_map _
theorem clean_u (fs : List Fr) : ∀ q ∈ clean fs, q.u = false := fun q hq => by
  obtain ⟨x, _, rfl⟩ := List.mem_map.1 hq
  rfl
theorem clean_count (fs : List Fr) : (clean fs).countP held = fs.countP held := by
  unfold clean
  rw [List.countP_map]
  rfl
theorem clean_wrong {fs : List Fr} {h : Int} (hz : memW fs h = 0) (i : Nat) (hi : i < max fs.length 1) : memW (clean fs) (i : Int) = 0 := by
  obtain ⟨h40, hfw, _, _⟩ := memW_zero hz
  refine memW_mk (by rw [clean_len]; exact h40) (fun q hq => ?_) (by omega) (by rw [clean_len]; omega)
  obtain ⟨x, hx, rfl⟩ := List.mem_map.1 hq
  exact frW_mark (hfw x hx)

/-- What a later call answers. -/
theorem next_later {fs : List Fr} {h : Int} (hz : memW fs h = 0) {k P t : Nat} (hk : k < fs.length) (hP : P < fs.length) (ht : ((turn (clean fs) k).take (P + 1)).countP held = t) (hmore : t < fs.countP held) :
    ∃ P', P < P' ∧ P' < fs.length ∧ ((turn (clean fs) k).take (P' + 1)).countP held = t + 1 ∧ memW (clean fs) (((k + P + 1) % fs.length : Nat) : Int) = 0 ∧ nextF (clean fs) (((k + P + 1) % fs.length : Nat) : Int) = clean fs ∧ nextH (clean fs) (((k + P + 1) % fs.length : Nat) : Int) = (((k + P' + 1) % fs.length : Nat) : Int) ∧ nextI (clean fs) (((k + P + 1) % fs.length : Nat) : Int) = (((k + P') % fs.length : Nat) : Int) := by
  have hl := clean_len fs
  obtain ⟨P', h1, h2, h3, h4⟩ := next_step (fs := clean fs) (k := k) (P := P) (t := t) (clean_u fs) (by rw [hl]; exact hk) (by rw [hl]; exact hP) ht (by rw [clean_count]; exact hmore)
  rw [hl] at h2 h4
  have hw : memW (clean fs) (((k + P + 1) % fs.length : Nat) : Int) = 0 := clean_wrong hz _ (by have := Nat.mod_lt (k + P + 1) (show 0 < fs.length by omega); omega)
  have hR : nextR (clean fs) (((k + P + 1) % fs.length : Nat) : Int) = (clean fs, (k + P' + 1) % fs.length, (((k + P') % fs.length : Nat) : Int)) := by
    unfold nextR
    rw [Int.toNat_natCast, hl]
    exact h4
  refine ⟨P', h1, h2, h3, hw, ?_, ?_, ?_⟩
  · unfold nextF; rw [if_pos hw, hR]
  · unfold nextH; rw [if_pos hw, hR]
  · unfold nextI; rw [if_pos hw, hR]

end Go.Proofs.Ytbcaagmnmaonbab
