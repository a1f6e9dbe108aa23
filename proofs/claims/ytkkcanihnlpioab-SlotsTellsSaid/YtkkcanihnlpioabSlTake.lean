/- Contract of Take (package slots). -/
import Derived.Test.YtkkcanihnlpioabSlFree
namespace Go.Proofs.Ytkkcanihnlpioab
open Go.RowKit

def takeSE (s : List Int) (n : Int) : Int := if slW s = 0 then (if 1 ≤ n ∧ n ≤ 1000 then (if s.findIdx isZ < s.length then 0 else 10) else 3) else slW s
def takeSL (s : List Int) (n : Int) : List Int := if takeSE s n = 0 then s.set (s.findIdx isZ) n else []
def takeSI (s : List Int) (n : Int) : Int := if takeSE s n = 0 then (s.findIdx isZ : Int) else 0

theorem takeS_no {s : List Int} {n z : Int} (h : takeSE s n = z) (hz : z ≠ 0) : takeSL s n = [] ∧ takeSI s n = 0 := by
  have : takeSE s n ≠ 0 := by rw [h]; exact hz
  exact ⟨if_neg this, if_neg this⟩

theorem slW_cases (s : List Int) : slW s = 0 ∨ slW s = 3 ∨ slW s = 4 := by
  unfold slW
  split
  · exact .inr (.inr rfl)
  · split
    · exact .inr (.inl rfl)
    · exact .inl rfl

theorem takeS_cases (s : List Int) (m : Int) :
    (slW s ≠ 0 ∧ takeSE s m = slW s ∧ takeSL s m = [] ∧ takeSI s m = 0) ∨ (slW s = 0 ∧ ¬ (1 ≤ m ∧ m ≤ 1000) ∧ takeSE s m = 3 ∧ takeSL s m = [] ∧ takeSI s m = 0) ∨
    (slW s = 0 ∧ (1 ≤ m ∧ m ≤ 1000) ∧ ¬ s.findIdx isZ < s.length ∧ takeSE s m = 10 ∧ takeSL s m = [] ∧ takeSI s m = 0) ∨
    (slW s = 0 ∧ (1 ≤ m ∧ m ≤ 1000) ∧ s.findIdx isZ < s.length ∧ takeSE s m = 0 ∧ takeSL s m = s.set (s.findIdx isZ) m ∧ takeSI s m = (s.findIdx isZ : Int)) := by
  by_cases h1 : slW s = 0
  · by_cases h2 : 1 ≤ m ∧ m ≤ 1000
    · by_cases h3 : s.findIdx isZ < s.length
      · have h : takeSE s m = 0 := by unfold takeSE; rw [if_pos h1, if_pos h2, if_pos h3]
        exact .inr (.inr (.inr ⟨h1, h2, h3, h, if_pos h, if_pos h⟩))
      · have h : takeSE s m = 10 := by unfold takeSE; rw [if_pos h1, if_pos h2, if_neg h3]
        exact .inr (.inr (.inl ⟨h1, h2, h3, h, takeS_no h (by decide)⟩))
    · have h : takeSE s m = 3 := by unfold takeSE; rw [if_pos h1, if_neg h2]
      exact .inr (.inl ⟨h1, h2, h, takeS_no h (by decide)⟩)
  · have h : takeSE s m = slW s := by unfold takeSE; rw [if_neg h1]
    exact .inl ⟨h1, h, takeS_no h h1⟩

set_option maxRecDepth 100000 in
set_option maxHeartbeats 1000000 in
theorem takeS_any (a : Option Addr) (c : Nat) (s : List Int) (m : Int) (w : World) (hv : RowAt slE w (.slice a s.length c) s) :
    Calls Try.prog 29 #[.slice a s.length c, .int .i64 m] w fun e w' => ∃ a' c', e = .returned (.tuple #[.slice a' (takeSL s m).length c', .int .i64 (takeSI s m), .int .i64 (takeSE s m)]) ∧ NewRow slE w.heap.size w' (.slice a' (takeSL s m).length c') (takeSL s m) ∧ Grew w w' := by
  have h1 := wrongS_any a c s w hv
  have h2 : ∀ W, Grew w W → Calls Try.prog 53 #[.slice a s.length c, .int .i64 0] W fun e w' => e = .returned (.int .i64 (idxS s)) ∧ Grew W w' := fun W hW => indexS_any _ s W (hv.grew hW)
  have h3 : ∀ W, Grew w W → Calls Try.prog 54 #[.slice a s.length c] W fun e w' => ∃ v', e = .returned v' ∧ OwnRow slE W.heap.size w' v' s ∧ Grew W w' := fun W hW => cloneS_any _ s W (hv.grew hW)
  have hbig := hv.short
  obtain ⟨n, HN⟩ : ∃ n, Hid (s.length = n) := ⟨_, rfl⟩
  clear hv
  rcases takeS_cases s m with ⟨hw, e1, e2, e3⟩ | ⟨hw, hm, e1, e2, e3⟩ | ⟨hw, hm, hi, e1, e2, e3⟩ | ⟨hw, hm, hi, e1, e2, e3⟩
  · rw [e1, e2, e3]
    clear e1 e2 e3 h2 h3
    generalize slW s = z at h1 hw ⊢
    have hzb : (z != 0) = true := by simpa using hw
    rw [HN.out] at h1 hbig ⊢
    go_enter Try.func29, Try.ntmps29
    go_wp2_with fail
    refine h1.mono ?_
    rintro e W1 ⟨rfl, g1⟩
    have G1 : Hid (Grew w W1) := g1
    clear g1 h1 hw
    go_wp2
    refine bodyPost_ret (v := .tuple #[.slice none 0 0, .int .i64 0, .int .i64 z]) (by simp [results, Try.results29, go_sem, *]) rfl ⟨none, 0, rfl, NewRow.nil _ _ _, G1.out⟩
  · rw [hw] at h1
    rw [e1, e2, e3]
    clear e1 e2 e3 h2 h3 hw
    rw [HN.out] at h1 hbig ⊢
    by_cases hm1 : m < 1
    · go_enter Try.func29, Try.ntmps29
      go_wp2_with fail
      refine h1.mono ?_
      rintro e W1 ⟨rfl, g1⟩
      have G1 : Hid (Grew w W1) := g1
      clear g1 h1 hm
      go_wp2
      refine bodyPost_ret (v := .tuple #[.slice none 0 0, .int .i64 0, .int .i64 3]) (by simp [results, Try.results29, go_sem, *]) rfl ⟨none, 0, rfl, NewRow.nil _ _ _, G1.out⟩
    · have hm2 : 1000 < m := by omega
      go_enter Try.func29, Try.ntmps29
      go_wp2_with fail
      refine h1.mono ?_
      rintro e W1 ⟨rfl, g1⟩
      have G1 : Hid (Grew w W1) := g1
      clear g1 h1 hm
      go_wp2
      refine bodyPost_ret (v := .tuple #[.slice none 0 0, .int .i64 0, .int .i64 3]) (by simp [results, Try.results29, go_sem, *]) rfl ⟨none, 0, rfl, NewRow.nil _ _ _, G1.out⟩
  · rw [hw] at h1
    rw [show idxS s = -1 from if_neg hi] at h2
    rw [e1, e2, e3]
    clear e1 e2 e3 h3 hw hi
    rw [HN.out] at h1 h2 hbig ⊢
    have hm1 : ¬ m < 1 := by omega
    have hm2 : ¬ 1000 < m := by omega
    clear hm
    go_enter Try.func29, Try.ntmps29
    go_wp2_with fail
    refine h1.mono ?_
    rintro e W1 ⟨rfl, g1⟩
    have G1 : Hid (Grew w W1) := g1
    clear g1 h1
    go_wp2_with fail
    refine (h2 _ G1.out).mono ?_
    rintro e W2 ⟨rfl, g2⟩
    have G2 : Hid (Grew w W2) := G1.out.trans g2
    clear g2 h2
    go_wp2
    refine bodyPost_ret (v := .tuple #[.slice none 0 0, .int .i64 0, .int .i64 10]) (by simp [results, Try.results29, go_sem, *]) rfl ⟨none, 0, rfl, NewRow.nil _ _ _, G2.out⟩
  · rw [hw] at h1
    rw [show idxS s = (s.findIdx isZ : Int) from if_pos hi] at h2
    rw [e1, e2, e3, List.length_set]
    clear e1 e2 e3 hw
    obtain ⟨i, HI⟩ : ∃ i, Hid (s.findIdx isZ = i) := ⟨_, rfl⟩
    rw [HI.out] at hi h2 ⊢
    rw [HN.out] at h1 h2 h3 hi hbig ⊢
    have hm1 : ¬ m < 1 := by omega
    have hm2 : ¬ 1000 < m := by omega
    have hiz : (i : Int) < (n : Int) := by omega
    clear hm
    go_enter Try.func29, Try.ntmps29
    go_wp2_with fail
    refine h1.mono ?_
    rintro e W1 ⟨rfl, g1⟩
    have G1 : Hid (Grew w W1) := g1
    clear g1 h1
    go_wp2_with fail
    refine (h2 _ G1.out).mono ?_
    rintro e W2 ⟨rfl, g2⟩
    have G2 : Hid (Grew w W2) := G1.out.trans g2
    clear g2 h2
    go_wp2_with fail
    refine (h3 _ G2.out).mono ?_
    rintro e W3 ⟨v', rfl, ow, g3⟩
    obtain ⟨g, cv, rfl⟩ := ow.formS (by rw [HN.out]; omega)
    rw [HN.out] at ow ⊢
    have OW : Hid (OwnRow slE W2.heap.size W3 (.slice (some ⟨g, 0, none⟩) n cv) s) := ow
    have G3 : Hid (Grew W2 W3) := g3
    clear g3 h3 ow
    go_wp2_with (refine wpList_store_elt (E := slE) rfl (.tmp 30) (.tmp 29) rfl W2.heap.size _ s OW.out g i rfl m (by rw [HN.out]; exact hi) _ rfl (by simp [slE]) _ rfl rfl ?_)
    intro w4 ow4 gr4 _
    have hg2 := (OW.out.lt g rfl).1
    have OW4 : Hid (OwnRow slE W2.heap.size w4 (.slice (some ⟨g, 0, none⟩) n cv) (s.set i m)) := ow4
    have G4 : Hid (Grew W2 w4) := grew_grown G3.out gr4 hg2
    clear ow4 gr4
    go_wp2
    refine bodyPost_ret (v := .tuple #[.slice (some ⟨g, 0, none⟩) n cv, .int .i64 (i : Int), .int .i64 0]) (by simp [results, Try.results29, go_sem, *]) rfl ⟨_, _, rfl, OW4.out.new.base (Below.size G2.out), G2.out.trans G4.out⟩

end Go.Proofs.Ytkkcanihnlpioab
