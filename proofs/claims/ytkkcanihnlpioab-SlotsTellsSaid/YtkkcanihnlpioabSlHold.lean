/- Contract of Hold (package slots). -/
import Derived.Test.YtkkcanihnlpioabSlTake
namespace Go.Proofs.Ytkkcanihnlpioab
open Go.RowKit

/-- What slot k is; 0 if there is none. -/
def atS (s : List Int) (k : Int) : Int := if 0 ≤ k then s.getD k.toNat 0 else 0
def holdSE (s : List Int) (k m : Int) : Int := if slW s = 0 then (if atS s k = 0 then 5 else if 0 ≤ atS s k + m ∧ atS s k + m ≤ 1000 then 0 else 3) else slW s
def holdSL (s : List Int) (k m : Int) : List Int := if holdSE s k m = 0 then s.set k.toNat (atS s k + m) else []

theorem slW_range {s : List Int} (h : slW s = 0) {k : Nat} {q : Int} (hq : s[k]? = some q) : 0 ≤ q ∧ q ≤ 1000 := by
  have h2 : s.any badS = false := by
    cases hb : s.any badS with
    | false => rfl
    | true =>
      unfold slW at h
      rw [hb] at h
      split at h
      · cases h
      · cases h
  have h3 := List.any_eq_false.1 h2 q (List.mem_of_getElem? hq)
  simp [badS] at h3
  omega

theorem slW_len {s : List Int} (h : slW s = 0) : s.length ≤ 60 := by
  unfold slW at h
  split at h
  · cases h
  · omega

theorem holdS_cases (s : List Int) (k m : Int) :
    (slW s ≠ 0 ∧ holdSE s k m = slW s ∧ holdSL s k m = []) ∨
    (slW s = 0 ∧ (k < 0 ∨ (s.length : Int) ≤ k) ∧ holdSE s k m = 5 ∧ holdSL s k m = []) ∨
    (slW s = 0 ∧ ∃ i : Nat, k = (i : Int) ∧ s[i]? = some 0 ∧ holdSE s k m = 5 ∧ holdSL s k m = []) ∨
    (slW s = 0 ∧ ∃ (i : Nat) (q : Int), k = (i : Int) ∧ s[i]? = some q ∧ q ≠ 0 ∧ 0 ≤ q ∧ q ≤ 1000 ∧ ¬ (0 ≤ q + m ∧ q + m ≤ 1000) ∧ holdSE s k m = 3 ∧ holdSL s k m = []) ∨
    (slW s = 0 ∧ ∃ (i : Nat) (q : Int), k = (i : Int) ∧ s[i]? = some q ∧ q ≠ 0 ∧ 0 ≤ q ∧ q ≤ 1000 ∧ (0 ≤ q + m ∧ q + m ≤ 1000) ∧ holdSE s k m = 0 ∧ holdSL s k m = s.set i (q + m)) := by
  have no : ∀ z, holdSE s k m = z → z ≠ 0 → holdSL s k m = [] := fun z h hz => if_neg (by rw [h]; exact hz)
  by_cases h1 : slW s = 0
  · by_cases h2 : k < 0 ∨ (s.length : Int) ≤ k
    · have hat : atS s k = 0 := by
        unfold atS
        split
        · rw [List.getD_eq_getElem?_getD, List.getElem?_eq_none (by omega)]
          rfl
        · rfl
      have h : holdSE s k m = 5 := by unfold holdSE; rw [if_pos h1, if_pos hat]
      exact .inr (.inl ⟨h1, h2, h, no _ h (by decide)⟩)
    · obtain ⟨i, rfl⟩ : ∃ i : Nat, k = (i : Int) := ⟨k.toNat, by omega⟩
      have hil : i < s.length := by omega
      obtain ⟨q, hq⟩ : ∃ q, s[i]? = some q := ⟨_, List.getElem?_eq_getElem hil⟩
      have hat : atS s (i : Int) = q := by
        unfold atS
        rw [if_pos (by omega), List.getD_eq_getElem?_getD, Int.toNat_natCast, hq]
        rfl
      by_cases h0 : q = 0
      · subst h0
        have h : holdSE s i m = 5 := by unfold holdSE; rw [if_pos h1, if_pos hat]
        exact .inr (.inr (.inl ⟨h1, i, rfl, hq, h, no _ h (by decide)⟩))
      · have hr := slW_range h1 hq
        by_cases h3 : 0 ≤ q + m ∧ q + m ≤ 1000
        · have h : holdSE s i m = 0 := by unfold holdSE; rw [if_pos h1, hat, if_neg h0, if_pos h3]
          exact .inr (.inr (.inr (.inr ⟨h1, i, q, rfl, hq, h0, hr.1, hr.2, h3, h, by unfold holdSL; rw [if_pos h, hat, Int.toNat_natCast]⟩)))
        · have h : holdSE s i m = 3 := by unfold holdSE; rw [if_pos h1, hat, if_neg h0, if_neg h3]
          exact .inr (.inr (.inr (.inl ⟨h1, i, q, rfl, hq, h0, hr.1, hr.2, h3, h, no _ h (by decide)⟩)))
  · have h : holdSE s k m = slW s := by unfold holdSE; rw [if_neg h1]
    exact .inl ⟨h1, h, no _ h h1⟩

set_option maxRecDepth 100000 in
set_option maxHeartbeats 1000000 in
theorem holdS_any (a : Option Addr) (c : Nat) (s : List Int) (k m : Int) (w : World) (hv : RowAt slE w (.slice a s.length c) s) :
    Calls Try.prog 32 #[.slice a s.length c, .int .i64 k, .int .i64 m] w fun e w' => ∃ a' c', e = .returned (.tuple #[.slice a' (holdSL s k m).length c', .int .i64 (holdSE s k m)]) ∧ NewRow slE w.heap.size w' (.slice a' (holdSL s k m).length c') (holdSL s k m) ∧ Grew w w' := by
  have h1 := wrongS_any a c s w hv
  have h3 : ∀ W, Grew w W → Calls Try.prog 54 #[.slice a s.length c] W fun e w' => ∃ v', e = .returned v' ∧ OwnRow slE W.heap.size w' v' s ∧ Grew W w' := fun W hW => cloneS_any _ s W (hv.grew hW)
  have hbig := hv.short
  obtain ⟨a', c', heq, hrow⟩ := hv.sls
  cases heq
  have HR : Hid (SlRows w a s) := hrow
  clear hrow hv
  obtain ⟨n, HN⟩ : ∃ n, Hid (s.length = n) := ⟨_, rfl⟩
  rcases holdS_cases s k m with ⟨hw, e1, e2⟩ | ⟨hw, hk, e1, e2⟩ | ⟨hw, i, rfl, hq, e1, e2⟩ | ⟨hw, i, q, rfl, hq, h0, hr0, hr1, hno, e1, e2⟩ | ⟨hw, i, q, rfl, hq, h0, hr0, hr1, hyes, e1, e2⟩
  · rw [e1, e2]
    clear e1 e2 h3
    generalize slW s = z at h1 hw ⊢
    have hzb : (z != 0) = true := by simpa using hw
    rw [HN.out] at h1 hbig ⊢
    go_enter Try.func32, Try.ntmps32
    go_wp2_with fail
    refine h1.mono ?_
    rintro e W1 ⟨rfl, g1⟩
    have G1 : Hid (Grew w W1) := g1
    clear g1 h1 hw
    go_wp2
    refine bodyPost_ret (v := .tuple #[.slice none 0 0, .int .i64 z]) (by simp [results, Try.results32, go_sem, *]) rfl ⟨none, 0, rfl, NewRow.nil _ _ _, G1.out⟩
  · rw [hw] at h1
    rw [e1, e2]
    clear e1 e2 h3 hw
    rw [HN.out] at h1 hbig hk ⊢
    by_cases hk0 : k < 0
    · go_enter Try.func32, Try.ntmps32
      go_wp2_with fail
      refine h1.mono ?_
      rintro e W1 ⟨rfl, g1⟩
      have G1 : Hid (Grew w W1) := g1
      clear g1 h1 hk
      go_wp2
      refine bodyPost_ret (v := .tuple #[.slice none 0 0, .int .i64 5]) (by simp [results, Try.results32, go_sem, *]) rfl ⟨none, 0, rfl, NewRow.nil _ _ _, G1.out⟩
    · have hkn : (n : Int) ≤ k := by omega
      go_enter Try.func32, Try.ntmps32
      go_wp2_with fail
      refine h1.mono ?_
      rintro e W1 ⟨rfl, g1⟩
      have G1 : Hid (Grew w W1) := g1
      clear g1 h1 hk
      go_wp2
      refine bodyPost_ret (v := .tuple #[.slice none 0 0, .int .i64 5]) (by simp [results, Try.results32, go_sem, *]) rfl ⟨none, 0, rfl, NewRow.nil _ _ _, G1.out⟩
  · rw [hw] at h1
    rw [e1, e2]
    clear e1 e2 h3 hw
    have hil : i < n := by rw [← HN.out]; exact (List.getElem?_eq_some_iff.1 hq).1
    rw [HN.out] at h1 hbig ⊢
    have hilz : ¬ (n : Int) ≤ (i : Int) := by omega
    have hi0 : ¬ (i : Int) < 0 := by omega
    have hilz' : (i : Int) < (n : Int) := by omega
    obtain ⟨ad, rfl, hl⟩ := HR.out i 0 hq
    clear hq
    go_enter Try.func32, Try.ntmps32
    go_wp2_with fail
    refine h1.mono ?_
    rintro e W1 ⟨rfl, g1⟩
    have G1 : Hid (Grew w W1) := g1
    have d0 := hl W1 g1
    clear g1 h1 hl
    go_wp2
    refine bodyPost_ret (v := .tuple #[.slice none 0 0, .int .i64 5]) (by simp [results, Try.results32, go_sem, *]) rfl ⟨none, 0, rfl, NewRow.nil _ _ _, G1.out⟩
  · rw [hw] at h1
    rw [e1, e2]
    clear e1 e2 h3 hw
    have hil : i < n := by rw [← HN.out]; exact (List.getElem?_eq_some_iff.1 hq).1
    rw [HN.out] at h1 hbig ⊢
    have hilz : ¬ (n : Int) ≤ (i : Int) := by omega
    have hi0 : ¬ (i : Int) < 0 := by omega
    have hilz' : (i : Int) < (n : Int) := by omega
    obtain ⟨ad, rfl, hl⟩ := HR.out i q hq
    have hqb : (q == 0) = false := by simpa using h0
    by_cases hlo : m < -q
    · clear hq h0 hno
      go_enter Try.func32, Try.ntmps32
      go_wp2_with fail
      refine h1.mono ?_
      rintro e W1 ⟨rfl, g1⟩
      have G1 : Hid (Grew w W1) := g1
      have d0 := hl W1 g1
      clear g1 h1 hl
      go_wp2
      refine bodyPost_ret (v := .tuple #[.slice none 0 0, .int .i64 3]) (by simp [results, Try.results32, go_sem, *]) rfl ⟨none, 0, rfl, NewRow.nil _ _ _, G1.out⟩
    · have hhi : 1000 - q < m := by omega
      clear hq h0 hno
      go_enter Try.func32, Try.ntmps32
      go_wp2_with fail
      refine h1.mono ?_
      rintro e W1 ⟨rfl, g1⟩
      have G1 : Hid (Grew w W1) := g1
      have d0 := hl W1 g1
      clear g1 h1 hl
      go_wp2
      refine bodyPost_ret (v := .tuple #[.slice none 0 0, .int .i64 3]) (by simp [results, Try.results32, go_sem, *]) rfl ⟨none, 0, rfl, NewRow.nil _ _ _, G1.out⟩
  · rw [hw] at h1
    rw [e1, e2, List.length_set]
    clear e1 e2 hw
    have hil : i < n := by rw [← HN.out]; exact (List.getElem?_eq_some_iff.1 hq).1
    rw [HN.out] at h1 h3 hbig ⊢
    have hilz : ¬ (n : Int) ≤ (i : Int) := by omega
    have hi0 : ¬ (i : Int) < 0 := by omega
    have hilz' : (i : Int) < (n : Int) := by omega
    obtain ⟨ad, rfl, hl⟩ := HR.out i q hq
    have hqb : (q == 0) = false := by simpa using h0
    have hlo : ¬ m < -q := by omega
    have hhi : ¬ 1000 - q < m := by omega
    have HQ : Hid (s[i]? = some q) := hq
    clear hq h0
    go_enter Try.func32, Try.ntmps32
    go_wp2_with fail
    refine h1.mono ?_
    rintro e W1 ⟨rfl, g1⟩
    have G1 : Hid (Grew w W1) := g1
    have d0 := hl W1 g1
    clear g1 h1 hl
    go_wp2_with fail
    refine (h3 _ G1.out).mono ?_
    rintro e W3 ⟨v', rfl, ow, g3⟩
    obtain ⟨g, cv, rfl⟩ := ow.formS (by rw [HN.out]; omega)
    rw [HN.out] at ow ⊢
    have OW : Hid (OwnRow slE W1.heap.size W3 (.slice (some ⟨g, 0, none⟩) n cv) s) := ow
    have G3 : Hid (Grew W1 W3) := g3
    have d1 : W3.cell? ⟨g, i, none⟩ = some (.int .i64 q) := by
      obtain ⟨x, y, he, hr⟩ := ow.at.sls
      cases he
      obtain ⟨x', he, hr⟩ := hr i q HQ.out
      cases he
      have := hr W3 (Grew.refl _)
      rw [Addr.add_lit, Nat.zero_add] at this
      exact this
    clear g3 h3 ow d0
    go_wp2_with (refine wpList_store_elt (E := slE) rfl (.tmp 54) (.tmp 53) rfl W1.heap.size _ s OW.out g i rfl (q + m) (by rw [HN.out]; exact hil) _ rfl (by simp [slE]) _ rfl rfl ?_)
    intro w4 ow4 gr4 _
    have hg2 := (OW.out.lt g rfl).1
    have OW4 : Hid (OwnRow slE W1.heap.size w4 (.slice (some ⟨g, 0, none⟩) n cv) (s.set i (q + m))) := ow4
    have G4 : Hid (Grew W1 w4) := grew_grown G3.out gr4 hg2
    clear ow4 gr4 d1
    go_wp2
    refine bodyPost_ret (v := .tuple #[.slice (some ⟨g, 0, none⟩) n cv, .int .i64 0]) (by simp [results, Try.results32, go_sem, *]) rfl ⟨_, _, rfl, OW4.out.new.base (Below.size G1.out), G1.out.trans G4.out⟩

end Go.Proofs.Ytkkcanihnlpioab
