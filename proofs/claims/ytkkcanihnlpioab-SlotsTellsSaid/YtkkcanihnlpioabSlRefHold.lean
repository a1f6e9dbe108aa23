/- Contract of HoldSlot (the document's answer). -/
import Derived.Test.YtkkcanihnlpioabSlSlot
namespace Go.Proofs.Ytkkcanihnlpioab
open Go.RowKit

set_option maxRecDepth 100000 in
set_option maxHeartbeats 2000000 in
theorem refHoldS_any (a : Option Addr) (c : Nat) (s : List Int) (k m : Int) (w : World) (hv : RowAt slE w (.slice a s.length c) s) :
    Calls Try.prog 33 #[.slice a s.length c, .int .i64 k, .int .i64 m] w fun e w' => ∃ a' c', e = .returned (.tuple #[.slice a' (holdSL s k m).length c', .int .i64 (holdSE s k m)]) ∧ NewRow slE w.heap.size w' (.slice a' (holdSL s k m).length c') (holdSL s k m) ∧ Grew w w' := by
  have h1 := refWrongS_any a c s w hv
  have h3 : ∀ W i x, Grew w W → i < s.length → Calls Try.prog 55 #[.slice a s.length c, .int .i64 (i : Int), .int .i64 x] W fun e w' => ∃ a' c', e = .returned (.slice a' s.length c') ∧ NewRow slE W.heap.size w' (.slice a' s.length c') (s.set i x) ∧ Grew W w' := fun W i x hW hi => slot_any a c s i hi x W (hv.grew hW)
  have hbig := hv.short
  obtain ⟨a', c', heq, hrow⟩ := hv.sls
  cases heq
  have HR : Hid (SlRows w a s) := hrow
  clear hrow hv
  obtain ⟨n, HN⟩ : ∃ n, Hid (s.length = n) := ⟨_, rfl⟩
  rcases holdS_cases s k m with ⟨hw, e1, e2⟩ | ⟨hw, hk, e1, e2⟩ | ⟨hw, i, rfl, hq, e1, e2⟩ | ⟨hw, i, q, rfl, hq, h0, hr0, hr1, hno, e1, e2⟩ | ⟨hw, i, q, rfl, hq, h0, hr0, hr1, hyes, e1, e2⟩
  · rw [e1, e2]
    clear e1 e2 h3
    generalize slW s = z at h1 hw ⊢
    have hzb : (z != 0) = true := by simpa using hw
    rw [HN.out] at h1 hbig ⊢
    go_enter Try.func33, Try.ntmps33
    go_wp2_with fail
    refine h1.mono ?_
    rintro e W1 ⟨rfl, g1⟩
    have G1 : Hid (Grew w W1) := g1
    clear g1 h1 hw
    go_wp2
    refine bodyPost_ret (v := .tuple #[.slice none 0 0, .int .i64 z]) (by simp [results, Try.results33, go_sem, *]) rfl ⟨none, 0, rfl, NewRow.nil _ _ _, G1.out⟩
  · rw [hw] at h1
    rw [e1, e2]
    clear e1 e2 h3 hw
    rw [HN.out] at h1 hbig hk ⊢
    by_cases hk0 : k < 0
    · clear hk
      go_enter Try.func33, Try.ntmps33
      go_wp2_with fail
      refine h1.mono ?_
      rintro e W1 ⟨rfl, g1⟩
      have G1 : Hid (Grew w W1) := g1
      clear g1 h1
      go_wp2
      refine bodyPost_ret (v := .tuple #[.slice none 0 0, .int .i64 5]) (by simp [results, Try.results33, go_sem, *]) rfl ⟨none, 0, rfl, NewRow.nil _ _ _, G1.out⟩
    · have hkn : (n : Int) ≤ k := by omega
      clear hk
      go_enter Try.func33, Try.ntmps33
      go_wp2_with fail
      refine h1.mono ?_
      rintro e W1 ⟨rfl, g1⟩
      have G1 : Hid (Grew w W1) := g1
      clear g1 h1
      go_wp2
      refine bodyPost_ret (v := .tuple #[.slice none 0 0, .int .i64 5]) (by simp [results, Try.results33, go_sem, *]) rfl ⟨none, 0, rfl, NewRow.nil _ _ _, G1.out⟩
  · rw [hw] at h1
    rw [e1, e2]
    clear e1 e2 h3 hw
    have hil : i < n := by rw [← HN.out]; exact (List.getElem?_eq_some_iff.1 hq).1
    rw [HN.out] at h1 hbig ⊢
    have hilz : ¬ (n : Int) ≤ (i : Int) := by omega
    have hi0 : ¬ (i : Int) < 0 := by omega
    have hilz' : (i : Int) < (n : Int) := by omega
    obtain ⟨ad, rfl, hl⟩ := HR.out i 0 hq
    clear hq
    go_enter Try.func33, Try.ntmps33
    go_wp2_with fail
    refine h1.mono ?_
    rintro e W1 ⟨rfl, g1⟩
    have G1 : Hid (Grew w W1) := g1
    have d0 := hl W1 g1
    clear g1 h1 hl
    go_wp2
    refine bodyPost_ret (v := .tuple #[.slice none 0 0, .int .i64 5]) (by simp [results, Try.results33, go_sem, *]) rfl ⟨none, 0, rfl, NewRow.nil _ _ _, G1.out⟩
  · rw [hw] at h1
    rw [e1, e2]
    clear e1 e2 h3 hw
    have hil : i < n := by rw [← HN.out]; exact (List.getElem?_eq_some_iff.1 hq).1
    rw [HN.out] at h1 hbig ⊢
    have hilz : ¬ (n : Int) ≤ (i : Int) := by omega
    have hi0 : ¬ (i : Int) < 0 := by omega
    have hilz' : (i : Int) < (n : Int) := by omega
    obtain ⟨ad, rfl, hl⟩ := HR.out i q hq
    have hqb : (q == 0) = false := by simpa using h0
    by_cases hlo : m < -1000
    · clear hq h0 hno
      go_enter Try.func33, Try.ntmps33
      go_wp2_with fail
      refine h1.mono ?_
      rintro e W1 ⟨rfl, g1⟩
      have G1 : Hid (Grew w W1) := g1
      have d0 := hl W1 g1
      clear g1 h1 hl
      go_wp2
      refine bodyPost_ret (v := .tuple #[.slice none 0 0, .int .i64 3]) (by simp [results, Try.results33, go_sem, *]) rfl ⟨none, 0, rfl, NewRow.nil _ _ _, G1.out⟩
    · by_cases hhi : 1000 < m
      · clear hq h0 hno
        go_enter Try.func33, Try.ntmps33
        go_wp2_with fail
        refine h1.mono ?_
        rintro e W1 ⟨rfl, g1⟩
        have G1 : Hid (Grew w W1) := g1
        have d0 := hl W1 g1
        clear g1 h1 hl
        go_wp2
        refine bodyPost_ret (v := .tuple #[.slice none 0 0, .int .i64 3]) (by simp [results, Try.results33, go_sem, *]) rfl ⟨none, 0, rfl, NewRow.nil _ _ _, G1.out⟩
      · by_cases hlo2 : q + m < 0
        · clear hq h0 hno
          go_enter Try.func33, Try.ntmps33
          go_wp2_with fail
          refine h1.mono ?_
          rintro e W1 ⟨rfl, g1⟩
          have G1 : Hid (Grew w W1) := g1
          have d0 := hl W1 g1
          clear g1 h1 hl
          go_wp2
          refine bodyPost_ret (v := .tuple #[.slice none 0 0, .int .i64 3]) (by simp [results, Try.results33, go_sem, *]) rfl ⟨none, 0, rfl, NewRow.nil _ _ _, G1.out⟩
        · have hhi2 : 1000 < q + m := by omega
          clear hq h0 hno
          go_enter Try.func33, Try.ntmps33
          go_wp2_with fail
          refine h1.mono ?_
          rintro e W1 ⟨rfl, g1⟩
          have G1 : Hid (Grew w W1) := g1
          have d0 := hl W1 g1
          clear g1 h1 hl
          go_wp2
          refine bodyPost_ret (v := .tuple #[.slice none 0 0, .int .i64 3]) (by simp [results, Try.results33, go_sem, *]) rfl ⟨none, 0, rfl, NewRow.nil _ _ _, G1.out⟩
  · rw [hw] at h1
    rw [e1, e2, List.length_set]
    clear e1 e2 hw
    have hil : i < n := by rw [← HN.out]; exact (List.getElem?_eq_some_iff.1 hq).1
    rw [HN.out] at h1 h3 hbig ⊢
    have hilz : ¬ (n : Int) ≤ (i : Int) := by omega
    have hi0 : ¬ (i : Int) < 0 := by omega
    have hilz' : (i : Int) < (n : Int) := by omega
    obtain ⟨ad, rfl, hl⟩ := HR.out i q hq
    have hqb : (q == 0) = false := by simpa using h0
    have hlo : ¬ m < -1000 := by omega
    have hhi : ¬ 1000 < m := by omega
    have hlo2 : ¬ q + m < 0 := by omega
    have hhi2 : ¬ 1000 < q + m := by omega
    have h4 := fun W hW => h3 W i (q + m) hW hil
    clear hq h0 h3
    go_enter Try.func33, Try.ntmps33
    go_wp2_with fail
    refine h1.mono ?_
    rintro e W1 ⟨rfl, g1⟩
    have G1 : Hid (Grew w W1) := g1
    have d0 := hl W1 g1
    clear g1 h1 hl
    go_wp2_with fail
    refine (h4 _ G1.out).mono ?_
    rintro e W2 ⟨a2, c2, rfl, nr, g2⟩
    have NR : Hid (NewRow slE W1.heap.size W2 (.slice a2 n c2) (s.set i (q + m))) := nr
    have G2 : Hid (Grew w W2) := G1.out.trans g2
    clear nr g2 h4 d0
    go_wp2
    refine bodyPost_ret (v := .tuple #[.slice a2 n c2, .int .i64 0]) (by simp [results, Try.results33, go_sem, *]) rfl ⟨_, _, rfl, NR.out.base (Below.size G1.out), G2.out⟩

end Go.Proofs.Ytkkcanihnlpioab
