/- Contract of WrongTable (the document's answer). -/
import Derived.Test.YtodbgjhdfjpcpacTbWrong
namespace Go.Proofs.Ytodbgjhdfjpcpac
open Go.RowKit

set_option maxRecDepth 100000 in
set_option maxHeartbeats 4000000 in
theorem refWrongTb_any (vs : List Value) (t : List (List En)) (w : World) (hv : TabAt w vs t) :
    Calls Try.prog 31 #[.agg vs.toArray] w fun e w' => e = .returned (.int .i64 (tbW t)) ∧ Grew w w' := by
  have HV : Hid (TabAt w vs t) := hv
  have HL : Hid (vs.length = 8) := hv.len
  clear hv
  obtain ⟨Z, HZ⟩ : ∃ Z, Hid (tbW t = Z) := ⟨_, rfl⟩
  rw [HZ.out]
  obtain ⟨W0, hW0⟩ : ∃ W0, w.alloc (.cells vs.toArray 55) = W0 := ⟨_, rfl⟩
  have HG0 : Hid (Grew w W0) := show Grew w W0 by rw [← hW0]; exact grew_alloc _ _
  have X0 : Hid (Box W0 w.heap.size vs) := show Box _ _ _ by rw [← hW0]; exact Box.top w _ _ rfl
  have HW0 : Hid (_ = W0) := hW0
  clear hW0
  go_enter Try.func31, Try.ntmps31
  go_upto_region 1 with fail
  rw [HW0.out]
  go_wp2_with (refine wp_loadTab rfl (.tmp 1) rfl w.heap.size rfl X0.out HL.out ?_)
  go_loopg [9] 8 (fun gg s9 wr => ∃ kk : Nat, kk ≤ 8 ∧ 8 - kk ≤ gg ∧ s9 = .int .i64 kk ∧ Hid (Grew w wr) ∧ Hid (tbW (t.drop kk) = tbW t))
  case atStart => exact ⟨0, Nat.zero_le _, by omega, rfl, HG0.out, rfl⟩
  case round =>
    obtain ⟨kk, hkk, hg, rfl, BW, AW⟩ := hrel
    by_cases hlt : kk < 8
    · have hltz : (kk : Int) < 8 := by omega
      obtain ⟨xa, xc, q, hq, hvk, hr⟩ := HV.out.half hlt
      have HQ : Hid (t[kk]? = some q) := hq
      have hqbig := hr.short
      obtain ⟨_, _, heq, hens⟩ := hr.ens
      cases heq
      have HE : Hid (EnRows w xa q) := hens
      obtain ⟨nq, HNQ⟩ : ∃ nq, Hid (q.length = nq) := ⟨_, rfl⟩
      rw [HNQ.out] at hvk hqbig
      have HVK : Hid (vs[kk]? = some (.slice xa nq xc)) := hvk
      have HST : Hid (tbW (t.drop kk) = if haW q = 0 then tbW (t.drop (kk + 1)) else haW q) := show _ = _ by rw [drop_cons HQ.out, tbW_cons]
      have badG : Hid (∀ z : Int, z ≠ 0 → haW q = z → Z = z) := show ∀ z : Int, _ from fun z hz h => by
        have h1 := AW.out
        rw [HST.out, h, if_neg hz] at h1
        rw [← HZ.out, ← h1]
      have goodH : Hid (haW q = 0 → tbW (t.drop (kk + 1)) = tbW t) := show _ → _ from fun h => by rw [← AW.out, HST.out, if_pos h]
      clear hens hr hq hvk
      go_upto_region 4 with (refine wp_half rfl (.tmp 8) (.tmp 9) rfl vs rfl kk rfl hlt HVK.out ?_)
      by_cases h0 : nq = 0
      · have hne0 : ((nq : Int) != 0) = false := by simp [h0]
        have heq8 : ((nq : Int) == 8) = false := by simp [h0]
        have H0 : Hid (nq = 0) := h0
        clear h0
        have badH : Hid (∀ z : Int, z ≠ 0 → esW q = z → Z = z) := show ∀ z : Int, _ from fun z hz h => by
          have : q = [] := List.length_eq_zero_iff.1 (by rw [HNQ.out]; exact H0.out)
          rw [this] at h
          exact absurd h.symm hz
        go_wp2
        go_loopg [5, 22] nq (fun g2 s5 s22 wr2 => ∃ (k2 c : Nat), k2 ≤ nq ∧ nq - k2 ≤ g2 ∧ s22 = .int .i64 k2 ∧ s5 = .int .i64 c ∧ c ≤ k2 ∧ Hid (Grew w wr2) ∧ Hid (esW (q.drop k2) = esW q) ∧ Hid (c = 0 ↔ anyS (q.take k2) = false))
        case atStart => exact ⟨0, 0, Nat.zero_le _, by omega, rfl, rfl, Nat.le_refl _, BW.out, rfl, show (0 = 0 ↔ anyS (q.take 0) = false) from by simp [anyS]⟩
        case round =>
          obtain ⟨k2, c, hk2', hg2, rfl, rfl, hck, BW2, AW2, CW⟩ := hrel
          by_cases hlt2 : k2 < nq
          · have hltz2 : (k2 : Int) < (nq : Int) := by omega
            obtain ⟨x, hx⟩ : ∃ x, q[k2]? = some x := ⟨_, List.getElem?_eq_getElem (by rw [HNQ.out]; exact hlt2)⟩
            obtain ⟨ad, rfl, hl2⟩ := HE.out k2 x hx
            obtain ⟨d0, d1, d2⟩ := hl2 wr BW2.out
            obtain ⟨k, m, b⟩ := x
            have HX : Hid (q[k2]? = some ⟨k, m, b⟩) := hx
            simp only at d0 d1 d2
            have HST : Hid (esW (q.drop k2) = if enW ⟨k, m, b⟩ = 0 then esW (q.drop (k2 + 1)) else enW ⟨k, m, b⟩) := show _ = _ by rw [drop_cons HX.out, esW_cons]
            have bad : ∀ z : Int, z ≠ 0 → enW ⟨k, m, b⟩ = z → Z = z := fun z hz h => by
              have h1 := AW2.out
              rw [HST.out, h, if_neg hz] at h1
              exact badH.out z hz h1.symm
            have good : enW ⟨k, m, b⟩ = 0 → esW (q.drop (k2 + 1)) = esW q := fun h => by
              rw [← AW2.out, HST.out, if_pos h]
            clear hl2 hx
            go_upto_region 10 with fail
            obtain ⟨px, hpx⟩ : ∃ px, wr.heap.size = px := ⟨_, rfl⟩
            obtain ⟨W2, hW2⟩ : ∃ W2, wr.alloc (.cells #[.int .i64 k, .int .i64 m, .bool b] 57) = W2 := ⟨_, rfl⟩
            have G2 : Hid (Grew w W2) := show Grew _ _ by rw [← hW2]; exact BW2.out.trans (grew_alloc _ _)
            have GE : Hid (Grew w W2) := G2.out
            have P2 : Hid (Box W2 px [.int .i64 k, .int .i64 m, .bool b]) := show Box _ _ _ by rw [← hW2]; exact Box.top _ _ _ hpx.symm
            rw [hW2]
            rw [hpx]
            clear hW2 hpx d0 d1 d2
            have p0 := P2.out.c 0 rfl
            have p1 := P2.out.c 1 rfl
            have p2 := P2.out.c 2 rfl
            by_cases hk0 : k < 0
            · have HF : Hid (Z = 1) := bad 1 (by decide) (enW_kind (by simp only; omega))
              clear bad good
              go_wp2
              go_ret
              exact ⟨by rw [HF.out]; rfl, GE.out⟩
            · have hk0d : decide (k < 0) = false := decide_eq_false hk0
              by_cases hk2 : 2 < k
              · have HF : Hid (Z = 1) := bad 1 (by decide) (enW_kind (by simp only; omega))
                clear bad good
                go_wp2
                go_ret
                exact ⟨by rw [HF.out]; rfl, GE.out⟩
              · have hk2d : decide (2 < k) = false := decide_eq_false hk2
                by_cases hn0 : m < 0
                · have HF : Hid (Z = 3) := bad 3 (by decide) (enW_range (by simp only; omega) (by simp only; omega))
                  clear bad good
                  go_wp2
                  go_ret
                  exact ⟨by rw [HF.out]; rfl, GE.out⟩
                · have hn0d : decide (m < 0) = false := decide_eq_false hn0
                  by_cases hn59 : 59 < m
                  · have HF : Hid (Z = 3) := bad 3 (by decide) (enW_range (by simp only; omega) (by simp only; omega))
                    clear bad good
                    go_wp2
                    go_ret
                    exact ⟨by rw [HF.out]; rfl, GE.out⟩
                  · have hn59d : decide (59 < m) = false := decide_eq_false hn59
                    obtain rfl | rfl | rfl : k = 0 ∨ k = 1 ∨ k = 2 := by omega
                    · by_cases hm : 0 < m
                      · have HF : Hid (Z = 7) := bad 7 (by decide) (enW_fit (by simp only; omega) (by simp only; omega) (.inl ⟨rfl, .inl (by simp only; omega)⟩))
                        clear bad good
                        go_wp2
                        go_ret
                        exact ⟨by rw [HF.out]; rfl, GE.out⟩
                      · obtain rfl : m = 0 := by omega
                        cases b with
                        | true =>
                          have HF : Hid (Z = 7) := bad 7 (by decide) (enW_fit (by simp only; omega) (by simp only; omega) (.inl ⟨rfl, .inr rfl⟩))
                          clear bad good
                          go_wp2
                          go_ret
                          exact ⟨by rw [HF.out]; rfl, GE.out⟩
                        | false =>
                          have HA : Hid (esW (q.drop (k2 + 1)) = esW q) := good (enW_of (by simp only; omega) (by simp only; omega) (by simp))
                          have HC : Hid (anyS (q.take (k2 + 1)) = anyS (q.take k2)) := show _ = _ by
                            rw [take_snoc HX.out]
                            unfold anyS
                            rw [List.any_append]
                            simp [enS]
                          clear bad good
                          go_wp2
                          go_roundg (nq - (k2 + 1))
                          case measure => omega
                          case rel => exact ⟨k2 + 1, c, by omega, by omega, by go_num, by go_num, by omega, G2.out, HA.out, by rw [HC.out]; exact CW.out⟩
                    · by_cases hn39 : 39 < m
                      · have HF : Hid (Z = 3) := bad 3 (by decide) (enW_range (by simp only; omega) (fun h => by have := h.2.2 rfl; simp only at this; omega))
                        clear bad good
                        go_wp2
                        go_ret
                        exact ⟨by rw [HF.out]; rfl, GE.out⟩
                      · have hn39d : decide (39 < m) = false := decide_eq_false hn39
                        have HA : Hid (esW (q.drop (k2 + 1)) = esW q) := good (enW_of (by simp only; omega) (by simp only; omega) (by simp))
                        have HC : Hid (anyS (q.take (k2 + 1)) = true) := show _ = _ by
                          rw [take_snoc HX.out]
                          unfold anyS
                          rw [List.any_append]
                          simp [enS]
                        clear bad good
                        go_wp2
                        go_roundg (nq - (k2 + 1))
                        case measure => omega
                        case rel => exact ⟨k2 + 1, c + 1, by omega, by omega, by go_num, by go_num, by omega, G2.out, HA.out, show (c + 1 = 0 ↔ anyS (q.take (k2 + 1)) = false) from by rw [HC.out]; simp⟩
                    · cases b with
                      | true =>
                        have HF : Hid (Z = 7) := bad 7 (by decide) (enW_fit (by simp only; omega) (by simp only; omega) (.inr ⟨rfl, rfl⟩))
                        clear bad good
                        go_wp2
                        go_ret
                        exact ⟨by rw [HF.out]; rfl, GE.out⟩
                      | false =>
                        have HA : Hid (esW (q.drop (k2 + 1)) = esW q) := good (enW_of (by simp only; omega) (by simp only; omega) (by simp))
                        have HC : Hid (anyS (q.take (k2 + 1)) = true) := show _ = _ by
                          rw [take_snoc HX.out]
                          unfold anyS
                          rw [List.any_append]
                          simp [enS]
                        clear bad good
                        go_wp2
                        go_roundg (nq - (k2 + 1))
                        case measure => omega
                        case rel => exact ⟨k2 + 1, c + 1, by omega, by omega, by go_num, by go_num, by omega, G2.out, HA.out, show (c + 1 = 0 ↔ anyS (q.take (k2 + 1)) = false) from by rw [HC.out]; simp⟩
          · have hltz2 : ¬ (k2 : Int) < (nq : Int) := by omega
            have : k2 = nq := by omega
            subst this
            have HEZ : Hid (esW q = 0) := show _ = _ by
              rw [← AW2.out, List.drop_of_length_le (by rw [HNQ.out]; exact Nat.le_refl _)]
              rfl
            have CQ : Hid (c = 0 ↔ anyS q = false) := show _ ↔ _ by
              have := CW.out
              rw [List.take_of_length_le (by rw [HNQ.out]; exact Nat.le_refl _)] at this
              exact this
            have HA : Hid (tbW (t.drop (kk + 1)) = tbW t) := goodH.out (by unfold haW; rw [if_pos (by rw [HNQ.out]; exact H0.out)])
            go_wp2
            go_roundg (8 - (kk + 1))
            case measure => omega
            case rel => exact ⟨kk + 1, by omega, by omega, by go_num, BW2.out, HA.out⟩
      · have hne0 : ((nq : Int) != 0) = true := by simpa using h0
        by_cases h8 : nq = 8
        · have hne8 : ((nq : Int) != 8) = false := by simp [h8]
          have heq8 : ((nq : Int) == 8) = true := by simp [h8]
          have H8 : Hid (nq = 8) := h8
          clear h0 h8
          have badH : Hid (∀ z : Int, z ≠ 0 → esW q = z → Z = z) := show ∀ z : Int, _ from fun z hz h => badG.out z hz (by rw [haW_8 (by rw [HNQ.out]; exact H8.out), if_neg (by rw [h]; exact hz)]; exact h)
          go_wp2
          go_loopg [5, 22] nq (fun g2 s5 s22 wr2 => ∃ (k2 c : Nat), k2 ≤ nq ∧ nq - k2 ≤ g2 ∧ s22 = .int .i64 k2 ∧ s5 = .int .i64 c ∧ c ≤ k2 ∧ Hid (Grew w wr2) ∧ Hid (esW (q.drop k2) = esW q) ∧ Hid (c = 0 ↔ anyS (q.take k2) = false))
          case atStart => exact ⟨0, 0, Nat.zero_le _, by omega, rfl, rfl, Nat.le_refl _, BW.out, rfl, show (0 = 0 ↔ anyS (q.take 0) = false) from by simp [anyS]⟩
          case round =>
            obtain ⟨k2, c, hk2', hg2, rfl, rfl, hck, BW2, AW2, CW⟩ := hrel
            by_cases hlt2 : k2 < nq
            · have hltz2 : (k2 : Int) < (nq : Int) := by omega
              obtain ⟨x, hx⟩ : ∃ x, q[k2]? = some x := ⟨_, List.getElem?_eq_getElem (by rw [HNQ.out]; exact hlt2)⟩
              obtain ⟨ad, rfl, hl2⟩ := HE.out k2 x hx
              obtain ⟨d0, d1, d2⟩ := hl2 wr BW2.out
              obtain ⟨k, m, b⟩ := x
              have HX : Hid (q[k2]? = some ⟨k, m, b⟩) := hx
              simp only at d0 d1 d2
              have HST : Hid (esW (q.drop k2) = if enW ⟨k, m, b⟩ = 0 then esW (q.drop (k2 + 1)) else enW ⟨k, m, b⟩) := show _ = _ by rw [drop_cons HX.out, esW_cons]
              have bad : ∀ z : Int, z ≠ 0 → enW ⟨k, m, b⟩ = z → Z = z := fun z hz h => by
                have h1 := AW2.out
                rw [HST.out, h, if_neg hz] at h1
                exact badH.out z hz h1.symm
              have good : enW ⟨k, m, b⟩ = 0 → esW (q.drop (k2 + 1)) = esW q := fun h => by
                rw [← AW2.out, HST.out, if_pos h]
              clear hl2 hx
              go_upto_region 10 with fail
              obtain ⟨px, hpx⟩ : ∃ px, wr.heap.size = px := ⟨_, rfl⟩
              obtain ⟨W2, hW2⟩ : ∃ W2, wr.alloc (.cells #[.int .i64 k, .int .i64 m, .bool b] 57) = W2 := ⟨_, rfl⟩
              have G2 : Hid (Grew w W2) := show Grew _ _ by rw [← hW2]; exact BW2.out.trans (grew_alloc _ _)
              have GE : Hid (Grew w W2) := G2.out
              have P2 : Hid (Box W2 px [.int .i64 k, .int .i64 m, .bool b]) := show Box _ _ _ by rw [← hW2]; exact Box.top _ _ _ hpx.symm
              rw [hW2]
              rw [hpx]
              clear hW2 hpx d0 d1 d2
              have p0 := P2.out.c 0 rfl
              have p1 := P2.out.c 1 rfl
              have p2 := P2.out.c 2 rfl
              by_cases hk0 : k < 0
              · have HF : Hid (Z = 1) := bad 1 (by decide) (enW_kind (by simp only; omega))
                clear bad good
                go_wp2
                go_ret
                exact ⟨by rw [HF.out]; rfl, GE.out⟩
              · have hk0d : decide (k < 0) = false := decide_eq_false hk0
                by_cases hk2 : 2 < k
                · have HF : Hid (Z = 1) := bad 1 (by decide) (enW_kind (by simp only; omega))
                  clear bad good
                  go_wp2
                  go_ret
                  exact ⟨by rw [HF.out]; rfl, GE.out⟩
                · have hk2d : decide (2 < k) = false := decide_eq_false hk2
                  by_cases hn0 : m < 0
                  · have HF : Hid (Z = 3) := bad 3 (by decide) (enW_range (by simp only; omega) (by simp only; omega))
                    clear bad good
                    go_wp2
                    go_ret
                    exact ⟨by rw [HF.out]; rfl, GE.out⟩
                  · have hn0d : decide (m < 0) = false := decide_eq_false hn0
                    by_cases hn59 : 59 < m
                    · have HF : Hid (Z = 3) := bad 3 (by decide) (enW_range (by simp only; omega) (by simp only; omega))
                      clear bad good
                      go_wp2
                      go_ret
                      exact ⟨by rw [HF.out]; rfl, GE.out⟩
                    · have hn59d : decide (59 < m) = false := decide_eq_false hn59
                      obtain rfl | rfl | rfl : k = 0 ∨ k = 1 ∨ k = 2 := by omega
                      · by_cases hm : 0 < m
                        · have HF : Hid (Z = 7) := bad 7 (by decide) (enW_fit (by simp only; omega) (by simp only; omega) (.inl ⟨rfl, .inl (by simp only; omega)⟩))
                          clear bad good
                          go_wp2
                          go_ret
                          exact ⟨by rw [HF.out]; rfl, GE.out⟩
                        · obtain rfl : m = 0 := by omega
                          cases b with
                          | true =>
                            have HF : Hid (Z = 7) := bad 7 (by decide) (enW_fit (by simp only; omega) (by simp only; omega) (.inl ⟨rfl, .inr rfl⟩))
                            clear bad good
                            go_wp2
                            go_ret
                            exact ⟨by rw [HF.out]; rfl, GE.out⟩
                          | false =>
                            have HA : Hid (esW (q.drop (k2 + 1)) = esW q) := good (enW_of (by simp only; omega) (by simp only; omega) (by simp))
                            have HC : Hid (anyS (q.take (k2 + 1)) = anyS (q.take k2)) := show _ = _ by
                              rw [take_snoc HX.out]
                              unfold anyS
                              rw [List.any_append]
                              simp [enS]
                            clear bad good
                            go_wp2
                            go_roundg (nq - (k2 + 1))
                            case measure => omega
                            case rel => exact ⟨k2 + 1, c, by omega, by omega, by go_num, by go_num, by omega, G2.out, HA.out, by rw [HC.out]; exact CW.out⟩
                      · by_cases hn39 : 39 < m
                        · have HF : Hid (Z = 3) := bad 3 (by decide) (enW_range (by simp only; omega) (fun h => by have := h.2.2 rfl; simp only at this; omega))
                          clear bad good
                          go_wp2
                          go_ret
                          exact ⟨by rw [HF.out]; rfl, GE.out⟩
                        · have hn39d : decide (39 < m) = false := decide_eq_false hn39
                          have HA : Hid (esW (q.drop (k2 + 1)) = esW q) := good (enW_of (by simp only; omega) (by simp only; omega) (by simp))
                          have HC : Hid (anyS (q.take (k2 + 1)) = true) := show _ = _ by
                            rw [take_snoc HX.out]
                            unfold anyS
                            rw [List.any_append]
                            simp [enS]
                          clear bad good
                          go_wp2
                          go_roundg (nq - (k2 + 1))
                          case measure => omega
                          case rel => exact ⟨k2 + 1, c + 1, by omega, by omega, by go_num, by go_num, by omega, G2.out, HA.out, show (c + 1 = 0 ↔ anyS (q.take (k2 + 1)) = false) from by rw [HC.out]; simp⟩
                      · cases b with
                        | true =>
                          have HF : Hid (Z = 7) := bad 7 (by decide) (enW_fit (by simp only; omega) (by simp only; omega) (.inr ⟨rfl, rfl⟩))
                          clear bad good
                          go_wp2
                          go_ret
                          exact ⟨by rw [HF.out]; rfl, GE.out⟩
                        | false =>
                          have HA : Hid (esW (q.drop (k2 + 1)) = esW q) := good (enW_of (by simp only; omega) (by simp only; omega) (by simp))
                          have HC : Hid (anyS (q.take (k2 + 1)) = true) := show _ = _ by
                            rw [take_snoc HX.out]
                            unfold anyS
                            rw [List.any_append]
                            simp [enS]
                          clear bad good
                          go_wp2
                          go_roundg (nq - (k2 + 1))
                          case measure => omega
                          case rel => exact ⟨k2 + 1, c + 1, by omega, by omega, by go_num, by go_num, by omega, G2.out, HA.out, show (c + 1 = 0 ↔ anyS (q.take (k2 + 1)) = false) from by rw [HC.out]; simp⟩
            · have hltz2 : ¬ (k2 : Int) < (nq : Int) := by omega
              have : k2 = nq := by omega
              subst this
              have HEZ : Hid (esW q = 0) := show _ = _ by
                rw [← AW2.out, List.drop_of_length_le (by rw [HNQ.out]; exact Nat.le_refl _)]
                rfl
              have CQ : Hid (c = 0 ↔ anyS q = false) := show _ ↔ _ by
                have := CW.out
                rw [List.take_of_length_le (by rw [HNQ.out]; exact Nat.le_refl _)] at this
                exact this
              by_cases hc : c = 0
              · have HF : Hid (Z = 2) := badG.out 2 (by decide) (by rw [haW_8 (by rw [HNQ.out]; exact H8.out), HEZ.out, if_pos rfl, CQ.out.1 hc]; rfl)
                have hcb : ((c : Int) == 0) = true := by simpa using hc
                clear hc
                go_wp2
                go_ret
                exact ⟨by rw [HF.out]; rfl, BW2.out⟩
              · have HA : Hid (tbW (t.drop (kk + 1)) = tbW t) := goodH.out (by
                  rw [haW_8 (by rw [HNQ.out]; exact H8.out), HEZ.out, if_pos rfl]
                  cases ha : anyS q with
                  | true => rfl
                  | false => exact absurd (CQ.out.2 ha) hc)
                have hcb : ((c : Int) == 0) = false := by simpa using hc
                clear hc
                go_wp2
                go_roundg (8 - (kk + 1))
                case measure => omega
                case rel => exact ⟨kk + 1, by omega, by omega, by go_num, BW2.out, HA.out⟩
        · have hne8 : ((nq : Int) != 8) = true := by simp; omega
          have HF : Hid (Z = 2) := badG.out 2 (by decide) (by unfold haW; rw [if_neg (by rw [HNQ.out]; exact h0), if_neg (by rw [HNQ.out]; exact h8)])
          clear h0 h8
          go_wp2
          go_ret
          exact ⟨by rw [HF.out]; rfl, BW.out⟩
    · have hltz : ¬ (kk : Int) < 8 := by omega
      have : kk = 8 := by omega
      subst this
      have HF : Hid (Z = 0) := show _ = _ by
        rw [← HZ.out, ← AW.out, List.drop_of_length_le (by rw [HV.out.tlen]; exact Nat.le_refl _)]
        rfl
      go_wp2
      go_ret
      exact ⟨by rw [HF.out]; rfl, BW.out⟩

end Go.Proofs.Ytodbgjhdfjpcpac
