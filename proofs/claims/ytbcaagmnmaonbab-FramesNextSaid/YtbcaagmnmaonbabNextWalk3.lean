/- The walk of the law FramesNext: the hand stops. -/
import Derived.Test.YtbcaagmnmaonbabNextLaw2
import Derived.Test.YtbcaagmnmaonbabMemNextO
import Derived.Test.YtbcaagmnmaonbabMemAlive
import Derived.Test.YtbcaagmnmaonbabSetMap
import Derived.Test.YtbcaagmnmaonbabMemSame
namespace Go.Proofs.Ytbcaagmnmaonbab
open Go.RowKit

set_option maxRecDepth 100000 in
set_option maxHeartbeats 4000000 in
theorem nl3 (a : Option Addr) (c : Nat) (fs : List Fr) (h : Int) (w : World) (hv : RowAt w (.slice a fs.length c) fs) (hz : memW fs h = 0) (k : Nat) (q0 : Fr) (hI : nextI fs h = (k : Int)) (hq : fs[k]? = some q0) (hr : 0 < q0.r) (hM : Marks fs (nextF fs h)) (hK : (nextF fs h)[k]? = some (frU q0)) (hH : nextH fs h = (((k + 1) % fs.length : Nat) : Int)) :
    Calls Try.prog 7 #[.agg #[.slice a fs.length c, .int .i64 h]] w fun e w' => e = .returned (.bool true) ∧ Grew w w' := by
  have HV : Hid (RowAt w (.slice a fs.length c) fs) := hv
  have hbig := hv.short
  have h1 : ∀ W, Grew w W → Calls Try.prog 21 #[.agg #[.slice a fs.length c, .int .i64 h]] W fun e w' => ∃ a' c', e = .returned (.tuple #[.agg #[.slice a' (nextF fs h).length c', .int .i64 (nextH fs h)], .int .i64 (nextI fs h), .int .i64 (memW fs h)]) ∧ OwnRow W.heap.size w' (.slice a' (nextF fs h).length c') (nextF fs h) ∧ Grew W w' := fun W hW => (nextO_any a c fs h W (HV.out.grew hW)).mono (by
    rintro e w' ⟨b, rfl, hb, hg⟩
    obtain ⟨a', c', rfl⟩ := hb.form
    exact ⟨a', c', rfl, hb, hg⟩)
  have hfr : ∀ W, Grew w W → Calls Try.prog 16 #[.agg #[.slice a fs.length c, .int .i64 h]] W fun e w' => e = .returned (.int .i64 (freeN fs)) ∧ Grew W w' := fun W hW => free_any a c fs h W (HV.out.grew hW)
  obtain ⟨n, HN⟩ : ∃ n, Hid (fs.length = n) := ⟨_, rfl⟩
  have hm40 := (memW_zero hz).1
  have hkl : k < fs.length := (List.getElem?_eq_some_iff.1 hq).1
  have hcnt : fs.countP held + freeN fs = fs.length := held_count (fun x hx => (frW_zero ((memW_zero hz).2.1 x hx)).1)
  have hc0 : 1 ≤ fs.countP held := List.countP_pos_iff.2 ⟨q0, List.mem_of_getElem? hq, by unfold held; simp; exact hr⟩
  have hlater : ∀ (P t : Nat), P < fs.length → ((turn (clean fs) k).take (P + 1)).countP held = t → t < fs.countP held → ∃ P', P < P' ∧ P' < fs.length ∧ ((turn (clean fs) k).take (P' + 1)).countP held = t + 1 ∧ memW (clean fs) (((k + P + 1) % fs.length : Nat) : Int) = 0 ∧ nextF (clean fs) (((k + P + 1) % fs.length : Nat) : Int) = clean fs ∧ nextH (clean fs) (((k + P + 1) % fs.length : Nat) : Int) = (((k + P' + 1) % fs.length : Nat) : Int) ∧ nextI (clean fs) (((k + P + 1) % fs.length : Nat) : Int) = (((k + P') % fs.length : Nat) : Int) := fun P t hP ht hm => next_later hz hkl hP ht hm
  have hturn : ((turn (clean fs) k).take (0 + 1)).countP held = 1 := by
    have h2 : (turn (clean fs) k)[0]? = some (frU q0) := by
      rw [turn_at (by rw [clean_len]; exact hkl) (by rw [clean_len]; omega), Nat.add_zero, clean_len, Nat.mod_eq_of_lt hkl]
      unfold clean
      rw [List.getElem?_map, hq]
      rfl
    obtain ⟨hl0, hx0⟩ := List.getElem?_eq_some_iff.1 h2
    rw [List.take_succ_eq_append_getElem hl0, hx0]
    simp [held, frU, hr]
  rw [hM.1, hI, hH, hz] at h1
  obtain ⟨X, hX⟩ : ∃ X, nextF fs h = X := ⟨_, rfl⟩
  rw [hX] at h1 hM hK
  obtain ⟨fN, HFN⟩ : ∃ fN, Hid (freeN fs = fN) := ⟨_, rfl⟩
  obtain ⟨cn, HCN⟩ : ∃ cn, Hid (fs.countP held = cn) := ⟨_, rfl⟩
  rw [HCN.out, HFN.out] at hcnt
  rw [HCN.out] at hc0
  simp only [HCN.out] at hlater
  rw [HFN.out] at hfr
  obtain ⟨a0, c0, heq, hrow⟩ := hv.frs
  cases heq
  have HRW : Hid (FrRows w a fs) := hrow
  obtain ⟨ad, rfl, hl0⟩ := hrow k q0 hq
  have HL0 : Hid (∀ W, Grew w W → FrCells W (ad.add (k * 13)) q0) := hl0
  have HLA : Hid (∀ (P t : Nat), P < fs.length → ((turn (clean fs) k).take (P + 1)).countP held = t → t < cn → ∃ P', P < P' ∧ P' < fs.length ∧ ((turn (clean fs) k).take (P' + 1)).countP held = t + 1 ∧ memW (clean fs) (((k + P + 1) % fs.length : Nat) : Int) = 0 ∧ nextF (clean fs) (((k + P + 1) % fs.length : Nat) : Int) = clean fs ∧ nextH (clean fs) (((k + P + 1) % fs.length : Nat) : Int) = (((k + P' + 1) % fs.length : Nat) : Int) ∧ nextI (clean fs) (((k + P + 1) % fs.length : Nat) : Int) = (((k + P') % fs.length : Nat) : Int)) := hlater
  have HTU : Hid (((turn (clean fs) k).take (0 + 1)).countP held = 1) := hturn
  have HM : Hid (Marks fs X) := hM
  have HK : Hid (X[k]? = some (frU q0)) := hK
  have HQ0 : Hid (fs[k]? = some q0) := hq
  have hrb : (q0.r == 0) = false := by simp; omega
  clear hv hrow hl0 hlater hturn hM hK hq hX hI hH hz
  simp only [HN.out] at h1 HV hfr hbig hm40 hkl hcnt ⊢
  obtain ⟨hd, HHD⟩ : ∃ hd, Hid ((k + 1) % n = hd) := ⟨_, rfl⟩
  rw [HHD.out] at h1
  have hkz : (k : Int) < (n : Int) := by omega
  have hkn : ¬ (n : Int) ≤ (k : Int) := by omega
  have hk0 : ¬ (k : Int) < 0 := by omega
  have hknn : decide (n ≤ k) = false := decide_eq_false (by omega)
  obtain ⟨W0, hW0⟩ : ∃ W0, w.alloc (.cells #[.slice (some ad) n c, .int .i64 h] 39) = W0 := ⟨_, rfl⟩
  have HG0 : Hid (Grew w W0) := show Grew w W0 by rw [← hW0]; exact grew_alloc _ _
  have X0 : Hid (Box W0 w.heap.size [.slice (some ad) n c, .int .i64 h]) := show Box _ _ _ by rw [← hW0]; exact Box.top w _ _ rfl
  have HW0 : Hid (_ = W0) := hW0
  clear hW0
  go_enter Try.func7, Try.ntmps7
  go_upto_region 1 with fail
  rw [HW0.out]
  go_wp2_with fail
  refine (alive_any _).mono ?_
  rintro e W1 ⟨rfl, g1⟩
  have G1 : Hid (Grew W0 W1) := g1
  clear g1
  have e0 := (X0.out.grew G1.out).c 0 rfl
  have e1 := (X0.out.grew G1.out).c 1 rfl
  go_wp2_with fail
  refine (h1 _ (HG0.out.trans G1.out)).mono ?_
  rintro e W2 ⟨a2, c2, rfl, ow2, g2⟩
  have G2 : Hid (Grew W0 W2) := G1.out.trans g2
  obtain ⟨g, cg, hgs⟩ := ow2.formS (by rw [HM.out.1, HN.out]; omega)
  rw [HM.out.1, HN.out] at hgs
  cases hgs
  have OW2 : Hid (OwnRow W1.heap.size W2 (.slice (some ⟨g, 0, none⟩) n c2) X) := ow2
  have hgl := OW2.out.lt g rfl
  have HS12 : Hid (W1.heap.size ≤ W2.heap.size) := Below.size g2
  have HS01 : Hid (W0.heap.size ≤ W1.heap.size) := Below.size G1.out
  clear ow2 g2 e0 e1 h1
  obtain ⟨W3, hW3⟩ : ∃ W3, W2.alloc (.cells #[.slice (some ⟨g, 0, none⟩) n c2, .int .i64 (hd : Int)] 39) = W3 := ⟨_, rfl⟩
  have G3 : Hid (Grew W0 W3) := show Grew _ _ by rw [← hW3]; exact G2.out.trans (grew_alloc _ _)
  have X3 : Hid (Box W3 W2.heap.size [.slice (some ⟨g, 0, none⟩) n c2, .int .i64 (hd : Int)]) := show Box _ _ _ by rw [← hW3]; exact Box.top W2 _ _ rfl
  have OW3 : Hid (OwnRow W1.heap.size W3 (.slice (some ⟨g, 0, none⟩) n c2) X) := show OwnRow _ _ _ _ by rw [← hW3]; exact OW2.out.grew (grew_alloc _ _)
  have HW3 : Hid (_ = W3) := hW3
  clear hW3
  go_upto_region 4 with fail
  rw [HW3.out]
  have e0 := (X0.out.grew G3.out).c 0 rfl
  have x0 := X3.out.c 0 rfl
  obtain ⟨-, -, -, -, -, -, -, -, d8, -, -, -, -⟩ := HL0.out W3 (HG0.out.trans G3.out)
  have u9 := OW3.out.frc HK.out 9 rfl
  simp only [frU] at u9
  go_wp2
  clear e0 x0 d8 u9
  go_loopg [6, 7, 8, 62] n (fun gg _ _ _ s62 wr => ∃ (ii : Nat) (Xi : List Fr), ii ≤ n ∧ n - ii ≤ gg ∧ s62 = .int .i64 ii ∧ Hid (Grew W0 wr) ∧ Hid (Box wr W2.heap.size [.slice (some ⟨g, 0, none⟩) n c2, .int .i64 (hd : Int)]) ∧ Hid (OwnRow W1.heap.size wr (.slice (some ⟨g, 0, none⟩) n c2) Xi) ∧ Hid (Xi.length = n) ∧ Hid (∀ j, j < ii → Xi[j]? = (clean fs)[j]?) ∧ Hid (∀ j, ii ≤ j → Xi[j]? = X[j]?))
  case atStart => exact ⟨0, X, Nat.zero_le _, by omega, rfl, G3.out, X3.out, OW3.out, (show X.length = n by rw [HM.out.1]; exact HN.out), (show ∀ j, j < 0 → _ from fun j hj => absurd hj (Nat.not_lt_zero _)), (show ∀ j, 0 ≤ j → _ from fun j _ => rfl)⟩
  case round =>
    obtain ⟨ii, Xi, hii, hg, rfl, GW, BX, OX, HL, A1, A2⟩ := hrel
    by_cases hlt : ii < n
    · have hltz : (ii : Int) < (n : Int) := by omega
      obtain ⟨q, HQ⟩ : ∃ q, Hid (fs[ii]? = some q) := ⟨_, List.getElem?_eq_getElem (by rw [HN.out]; exact hlt)⟩
      obtain ⟨ad', he', hl⟩ := HRW.out ii q HQ.out
      cases he'
      obtain ⟨d0, d1, d2, d3, d4, d5, d6, d7, d8, d9, d10, d11, d12⟩ := hl wr (HG0.out.trans GW.out)
      clear hl
      obtain ⟨ub, HUB, HU2⟩ : ∃ ub, Hid (Xi[ii]? = some { q with u := ub }) ∧ Hid (ub = true → q.u = true) := by
        obtain ⟨q', h2, h3⟩ := HM.out.2 ii q HQ.out
        rw [← A2.out ii (Nat.le_refl _)] at h2
        rcases h3 with rfl | rfl
        · exact ⟨q'.u, h2, fun h => h⟩
        · exact ⟨false, h2, fun h => (by cases h)⟩
      have u0 : wr.cell? ⟨g, ii * 13, none⟩ = some (.int .u8 q.p.b0) := OX.out.frc HUB.out 0 rfl
      have u1 := OX.out.frc HUB.out 1 rfl
      have u2 := OX.out.frc HUB.out 2 rfl
      have u3 := OX.out.frc HUB.out 3 rfl
      have u4 := OX.out.frc HUB.out 4 rfl
      have u5 := OX.out.frc HUB.out 5 rfl
      have u6 := OX.out.frc HUB.out 6 rfl
      have u7 := OX.out.frc HUB.out 7 rfl
      have u8 := OX.out.frc HUB.out 8 rfl
      have u9 := OX.out.frc HUB.out 9 rfl
      have u10 := OX.out.frc HUB.out 10 rfl
      have u11 := OX.out.frc HUB.out 11 rfl
      have u12 := OX.out.frc HUB.out 12 rfl
      have e0 := (X0.out.grew GW.out).c 0 rfl
      have x0 := BX.out.c 0 rfl
      have hlw := (X0.out.grew GW.out).lt
      have hlx := BX.out.lt
      have hlg := (OX.out.lt g rfl).2
      have hla : (ad.add (ii * 13)).block < wr.heap.size := World.block_lt_of_cell? _ _ d0
      simp only at u1 u2 u3 u4 u5 u6 u7 u8 u9 u10 u11 u12
      have pe : ∀ W, (Op.equalIn 10000 47 (.agg #[.int .u8 q.p.b0, .int .u8 q.p.b1, .int .u8 q.p.b2, .int .u8 q.p.b3, .int .u8 q.p.b4, .int .u8 q.p.b5, .int .u8 q.p.b6, .int .u8 q.p.b7, .int .i64 q.r, .bool false, .bool q.d, .int .i64 q.f, .int .i64 q.x]) (.agg #[.int .u8 q.p.b0, .int .u8 q.p.b1, .int .u8 q.p.b2, .int .u8 q.p.b3, .int .u8 q.p.b4, .int .u8 q.p.b5, .int .u8 q.p.b6, .int .u8 q.p.b7, .int .i64 q.r, .bool false, .bool q.d, .int .i64 q.f, .int .i64 q.x])).run Try.prog W = .ok true W := fun W => fr_same (frU q) W
      go_wp2
      go_region
      all_goals
        clear u0 u1 u2 u3 u4 u5 u6 u7 u8 u9 u10 u11 u12 d0 d1 d2 d3 d4 d5 d6 d7 d8 d9 d10 d11 d12 e0
        cases ub with
        | false =>
          go_wp2_with (refine wpList_store_part rfl (.tmp 91) (.const (.bool false)) 4 rfl W1.heap.size (.slice (some ⟨g, 0, none⟩) n c2) Xi (OX.out.grew (show Below _ _ _ by repeat first | exact Below.refl _ _ | refine Below.drew ?_ | refine Below.alloc ?_ (by simp) _ | refine Below.setCell ?_ (by simp) _)) g ii 9 rfl _ (frU q) HUB.out [.bool false] (by kernel_rfl) rfl (Nat.le_of_ble_eq_true rfl) (by intro u hu; simp at hu; subst hu; rfl) _ rfl (by simp) _ rfl rfl ?_)
          intro W5 ow5 gr5 _
          go_wp2
          go_roundg (n - (ii + 1))
          case measure => omega
          case rel =>
            refine ⟨ii + 1, Xi.set ii (frU q), by omega, by omega, by go_num, grew_beside (GW.out.trans (show Below _ _ _ by repeat first | exact Below.refl _ _ | refine Below.drew ?_ | refine Below.alloc ?_ (by simp) _ | refine Below.setCell ?_ (by simp) _)) gr5 (fun g' hg' => by cases hg'; have := HS01.out; omega), (BX.out.grew (show Below _ _ _ by repeat first | exact Below.refl _ _ | refine Below.drew ?_ | refine Below.alloc ?_ (by simp) _ | refine Below.setCell ?_ (by simp) _)).beside gr5 (fun g' hg' => by cases hg'; omega), ow5, (show (Xi.set ii (frU q)).length = n by rw [List.length_set]; exact HL.out), (show ∀ j, j < ii + 1 → _ from fun j hj => ?_), (show ∀ j, ii + 1 ≤ j → _ from fun j hj => ?_)⟩
            · by_cases e : j = ii
              · subst e
                rw [List.getElem?_set_self (by rw [HL.out]; exact hlt)]
                unfold clean
                rw [List.getElem?_map, HQ.out]
                rfl
              · rw [List.getElem?_set_ne (Ne.symm e)]
                exact A1.out j (by omega)
            · rw [List.getElem?_set_ne (by omega)]
              exact A2.out j (by omega)
        | true =>
          have hqu : q.u = true := HU2.out rfl
          have HQU : Hid (q.u = true) := hqu
          go_wp2_with (refine wpList_store_part rfl (.tmp 91) (.const (.bool false)) 4 rfl W1.heap.size (.slice (some ⟨g, 0, none⟩) n c2) Xi (OX.out.grew (show Below _ _ _ by repeat first | exact Below.refl _ _ | refine Below.drew ?_ | refine Below.alloc ?_ (by simp) _ | refine Below.setCell ?_ (by simp) _)) g ii 9 rfl _ (frU q) HUB.out [.bool false] (by kernel_rfl) rfl (Nat.le_of_ble_eq_true rfl) (by intro u hu; simp at hu; subst hu; rfl) _ rfl (by simp) _ rfl rfl ?_)
          intro W5 ow5 gr5 _
          go_wp2
          go_roundg (n - (ii + 1))
          case measure => omega
          case rel =>
            refine ⟨ii + 1, Xi.set ii (frU q), by omega, by omega, by go_num, grew_beside (GW.out.trans (show Below _ _ _ by repeat first | exact Below.refl _ _ | refine Below.drew ?_ | refine Below.alloc ?_ (by simp) _ | refine Below.setCell ?_ (by simp) _)) gr5 (fun g' hg' => by cases hg'; have := HS01.out; omega), (BX.out.grew (show Below _ _ _ by repeat first | exact Below.refl _ _ | refine Below.drew ?_ | refine Below.alloc ?_ (by simp) _ | refine Below.setCell ?_ (by simp) _)).beside gr5 (fun g' hg' => by cases hg'; omega), ow5, (show (Xi.set ii (frU q)).length = n by rw [List.length_set]; exact HL.out), (show ∀ j, j < ii + 1 → _ from fun j hj => ?_), (show ∀ j, ii + 1 ≤ j → _ from fun j hj => ?_)⟩
            · by_cases e : j = ii
              · subst e
                rw [List.getElem?_set_self (by rw [HL.out]; exact hlt)]
                unfold clean
                rw [List.getElem?_map, HQ.out]
                rfl
              · rw [List.getElem?_set_ne (Ne.symm e)]
                exact A1.out j (by omega)
            · rw [List.getElem?_set_ne (by omega)]
              exact A2.out j (by omega)
    · have hltz : ¬ (ii : Int) < (n : Int) := by omega
      have hin : ii = n := by omega
      have HXC : Hid (Xi = clean fs) := show _ = _ by
        apply List.ext_getElem?
        intro j
        by_cases hj : j < ii
        · exact A1.out j hj
        · rw [List.getElem?_eq_none (by rw [HL.out]; omega), List.getElem?_eq_none (by rw [clean_len, HN.out]; omega)]
      subst hin
      rw [HXC.out] at OX
      clear HXC A1 A2 HL
      obtain ⟨MB, HMB⟩ : ∃ MB, Hid (wr.heap.size = MB) := ⟨_, rfl⟩
      have hmm := @run_makeMap Try.prog
      have hxm := BX.out.lt
      have hgm := (OX.out.lt g rfl).2
      go_wp2_with (refine wpList_insert_set rfl (.tmp 93) (.tmp 94) (.const (.bool true)) (.inl rfl) wr.heap.size [] (SetAt.made wr) (k : Int) (wf64 (by omega) (by omega)) (by simp) rfl rfl rfl ?_; intro W4 s4 gr4)
      rw [HMB.out]
      have G4 : Hid (Grew W0 W4) := grew_beside (GW.out.trans (grew_alloc _ _)) gr4 (fun g' hg' => by cases hg'; exact Below.size GW.out)
      have B4 : Hid (Box W4 W2.heap.size [.slice (some ⟨g, 0, none⟩) ii c2, .int .i64 (hd : Int)]) := (BX.out.alloc _).beside gr4 (fun g' hg' => by cases hg'; omega)
      have R4 : Hid (RowAt W4 (.slice (some ⟨g, 0, none⟩) ii c2) (clean fs)) := ((OX.out.grew (grew_alloc _ _)).grown gr4 (fun g' hg' => by cases hg'; simp; omega)).at
      have S4 : Hid (SetAt W4 MB [(k : Int)]) := show SetAt _ _ _ by rw [← HMB.out]; exact s4
      have HXM : Hid (W2.heap.size < MB) := show _ < _ by rw [← HMB.out]; exact hxm
      clear gr4 s4 hmm hxm hgm
      have hm0 : ∀ y : GrownW W4, y.world.cell? ⟨w.heap.size, 0, none⟩ = some (.slice (some ad) ii c) := fun y => (X0.out.grew (G4.out.trans y.grew)).c 0 rfl
      have hm1 : ∀ y : GrownW W4, y.world.cell? ⟨w.heap.size, 1, none⟩ = some (.int .i64 h) := fun y => (X0.out.grew (G4.out.trans y.grew)).c 1 rfl
      have hne : Nonempty (GrownW W4) := ⟨⟨_, Grew.refl _⟩⟩
      have hcz : (0 : Int) ≤ (fN : Int) := by omega
      have hcz2 : (fN : Int) ≤ (ii : Int) := by omega
      refine wp_lax [(4, ⟨fun v => v = .int .i64 (fN : Int), fun _ _ => True⟩)] mixed (by kernel_rfl) ?_ ?_ ?_
      · intro x hx
        simp at hx
        subst hx
        exact ⟨_, rfl⟩
      · intro x hx
        simp at hx
        subst hx
        exact fun _ _ _ _ h => h
      iterate 4 (refine lax_quiet rfl rfl rfl (fun K hK => ?_); go_big_quiet_op; refine hK _ ?_; clear hK K)
      refine lax_spec rfl rfl (fun w' hg hF => ?_) (fun v1 hv => ?_)
      · refine Does.call [.agg #[.slice (some ad) ii c, .int .i64 h]] rfl Try.func16 rfl rfl rfl ?_
        refine (hfr w' (HG0.out.trans (G4.out.trans hg))).mono ?_
        rintro e w'' ⟨rfl, hg2⟩
        exact ⟨_, rfl, hg2, rfl, trivial⟩
      subst hv
      simp only [Act.put, List.setIfInBounds_toArray, List.set_cons_succ, List.set_cons_zero]
      iterate 3 (refine lax_quiet rfl rfl rfl (fun K hK => ?_); go_big_quiet_op; refine hK _ ?_; clear hK K)
      refine lax_nil fun W5 hg5 hF => ?_
      have G5 : Hid (Grew W0 W5) := G4.out.trans hg5
      have B5 : Hid (Box W5 W2.heap.size [.slice (some ⟨g, 0, none⟩) ii c2, .int .i64 (hd : Int)]) := B4.out.grew hg5
      have R5 : Hid (RowAt W5 (.slice (some ⟨g, 0, none⟩) ii c2) (clean fs)) := R4.out.grew hg5
      have S5 : Hid (SetAt W5 MB [(k : Int)]) := S4.out.grew hg5
      clear hF hg5 hm0 hm1 hne
      go_wp2
      have hz4 : ∀ W : World, (zeroValue 4).run Try.prog W = .ok (.bool false) W := fun W => by kernel_rfl
      go_loopg [10, 11, 12, 103] cn (fun gg _ _ _ s103 wq => ∃ (jj P : Nat) (Ls : List Int) (av : Option Addr) (cv : Nat), jj + 1 ≤ cn ∧ cn - jj ≤ gg ∧ s103 = .int .i64 jj ∧ P < ii ∧ Hid (Grew W0 wq) ∧ Hid (Box wq W2.heap.size [.slice av ii cv, .int .i64 (((k + P + 1) % ii : Nat) : Int)]) ∧ Hid (RowAt wq (.slice av ii cv) (clean fs)) ∧ Hid (SetAt wq MB Ls) ∧ Hid (Ls.length = jj + 1) ∧ Hid (∀ x ∈ Ls, ∃ p, p ≤ P ∧ x = (((k + p) % ii : Nat) : Int)) ∧ Hid (((turn (clean fs) k).take (P + 1)).countP held = jj + 1))
      case atStart =>
        refine ⟨0, 0, [(k : Int)], some ⟨g, 0, none⟩, c2, hc0, Nat.sub_le _ _, rfl, by omega, G5.out, ?_, R5.out, S5.out, (show [(k : Int)].length = 0 + 1 from rfl), (show ∀ x ∈ [(k : Int)], _ from fun x hx => ?_), HTU.out⟩
        · show Box _ _ _
          rw [Nat.add_zero, HHD.out]
          exact B5.out
        · simp at hx
          subst hx
          exact ⟨0, Nat.le_refl _, by rw [Nat.add_zero, Nat.mod_eq_of_lt hkl]⟩
      case round =>
        obtain ⟨jj, P, Ls, av, cv, hjj, hgg, rfl, hP, GW2, BX2, RX2, ST2, LL, LM, CT⟩ := hrel
        by_cases hmore : jj + 1 < cn
        · have hltz2 : (jj : Int) < (ii : Int) - (fN : Int) - 1 := by omega
          obtain ⟨P', hp1, hp2, hp3, hp4, hp5, hp6, hp7⟩ := HLA.out P (jj + 1) (by rw [HN.out]; exact hP) CT.out hmore
          rw [HN.out] at hp2 hp4 hp5 hp6 hp7
          obtain ⟨hn1, HH1⟩ : ∃ x, Hid ((k + P + 1) % ii = x) := ⟨_, rfl⟩
          obtain ⟨hn2, HH2⟩ : ∃ x, Hid ((k + P' + 1) % ii = x) := ⟨_, rfl⟩
          obtain ⟨jn, HJN⟩ : ∃ x, Hid ((k + P') % ii = x) := ⟨_, rfl⟩
          rw [HH1.out] at hp4 hp5 hp6 hp7 BX2
          rw [HH2.out] at hp6
          rw [HJN.out] at hp7
          have hjl : jn < ii := by rw [← HJN.out]; exact Nat.mod_lt _ (by omega)
          have HJM : Hid ((jn : Int) ∉ Ls) := show ¬ _ from fun hm => by
            obtain ⟨p, h2, h3⟩ := LM.out _ hm
            have h4 : (k + P') % ii = (k + p) % ii := by rw [HJN.out]; omega
            have := mod_inj hkl hp2 (by omega) h4
            omega
          have HCT : Hid (((turn (clean fs) k).take (P' + 1)).countP held = (jj + 1) + 1) := hp3
          have HLM : Hid (∀ x ∈ Ls ++ [(jn : Int)], ∃ p, p ≤ P' ∧ x = (((k + p) % ii : Nat) : Int)) := show ∀ x ∈ _, _ from fun x hx => by
            rcases List.mem_append.1 hx with h2 | h2
            · obtain ⟨p, h3, h4⟩ := LM.out x h2
              exact ⟨p, by omega, h4⟩
            · simp at h2
              subst h2
              exact ⟨P', Nat.le_refl _, by rw [HJN.out]⟩
          have hnx : ∀ W, RowAt W (.slice av ii cv) (clean fs) → Calls Try.prog 21 #[.agg #[.slice av ii cv, .int .i64 (hn1 : Int)]] W fun e w' => ∃ a' c', e = .returned (.tuple #[.agg #[.slice a' ii c', .int .i64 (hn2 : Int)], .int .i64 (jn : Int), .int .i64 0]) ∧ OwnRow W.heap.size w' (.slice a' ii c') (clean fs) ∧ Grew W w' := fun W hR => by
            have hc := nextO_any av cv (clean fs) (hn1 : Int) W (by rw [clean_len, HN.out]; exact hR)
            rw [hp4, hp5, hp6, hp7, clean_len, HN.out] at hc
            refine Calls.mono hc ?_
            rintro e w' ⟨b, rfl, hb, hg⟩
            obtain ⟨a', c', rfl⟩ := hb.form
            rw [clean_len, HN.out] at hb ⊢
            exact ⟨a', c', rfl, hb, hg⟩
          clear hp3 hp4 hp5 hp6 hp7 LM CT
          have hj0 : ¬ (jn : Int) < 0 := by omega
          have x0 := BX2.out.c 0 rfl
          have x1 := BX2.out.c 1 rfl
          go_wp2_with fail
          refine (hnx _ RX2.out).mono ?_
          rintro e W7 ⟨a7, c7, rfl, ow7, g7⟩
          have hS7 := ST2.out.lt
          have hX7 := BX2.out.lt
          have hgs := Below.size g7
          have G7 : Hid (Grew W0 W7) := GW2.out.trans g7
          have X7 : Hid (Box W7 W2.heap.size [.slice av ii cv, .int .i64 (hn1 : Int)]) := BX2.out.grew g7
          have S7 : Hid (SetAt W7 MB Ls) := ST2.out.grew g7
          have O7 : Hid (OwnRow wr.heap.size W7 (.slice a7 ii c7) (clean fs)) := ow7
          clear ow7 g7 x0 x1 hnx
          obtain ⟨W8, hW8⟩ : ∃ W8, W7.alloc (.cells #[.slice a7 ii c7, .int .i64 (hn2 : Int)] 39) = W8 := ⟨_, rfl⟩
          have G8 : Hid (Grew W0 W8) := show Grew _ _ by rw [← hW8]; exact G7.out.trans (grew_alloc _ _)
          have X8 : Hid (Box W8 W2.heap.size [.slice av ii cv, .int .i64 (hn1 : Int)]) := show Box _ _ _ by rw [← hW8]; exact X7.out.alloc _
          have Y8 : Hid (Box W8 W7.heap.size [.slice a7 ii c7, .int .i64 (hn2 : Int)]) := show Box _ _ _ by rw [← hW8]; exact Box.top W7 _ _ rfl
          have S8 : Hid (SetAt W8 MB Ls) := show SetAt _ _ _ by rw [← hW8]; exact S7.out.grew (grew_alloc _ _)
          have O8 : Hid (OwnRow wr.heap.size W8 (.slice a7 ii c7) (clean fs)) := show OwnRow _ _ _ _ by rw [← hW8]; exact O7.out.grew (grew_alloc _ _)
          have HW8 : Hid (_ = W8) := hW8
          clear hW8
          have hwf : (Lit.int .i64 (jn : Int)).wf = true := wf64 (by omega) (by omega)
          have HWF : Hid ((Lit.int .i64 (jn : Int)).wf = true) := hwf
          have hmiss := S8.out.miss hwf HJM.out (hz4 W8)
          have hlen := LL.out
          have hl1000 : Ls.length ≤ 1000 := by omega
          have HL1000 : Hid (Ls.length ≤ 1000) := hl1000
          clear hwf hlen hl1000
          go_upto_region 23 with fail
          rw [HW8.out]
          go_wp2_with
            (refine wpList_insert_set rfl (.tmp 122) (.tmp 123) (.const (.bool true)) (.inr rfl) MB Ls S8.out (jn : Int) HWF.out HL1000.out rfl rfl rfl ?_
             intro W9 s9 gr9
             have G9 : Hid (Grew W0 W9) := grew_beside G8.out gr9 (fun g' hg' => by cases hg'; have h2 := HXM.out; have h3 := Below.size G2.out; omega)
             have X9 : Hid (Box W9 W2.heap.size [.slice av ii cv, .int .i64 (hn1 : Int)]) := X8.out.beside gr9 (fun g' hg' => by cases hg'; have h2 := HXM.out; omega)
             have Y9 : Hid (Box W9 W7.heap.size [.slice a7 ii c7, .int .i64 (hn2 : Int)]) := Y8.out.beside gr9 (fun g' hg' => by cases hg'; omega)
             have O9 : Hid (OwnRow wr.heap.size W9 (.slice a7 ii c7) (clean fs)) := O8.out.grown gr9 (fun g' hg' he => by have h2 := (O8.out.lt g' hg').1; cases he; omega)
             have S9 : Hid (SetAt W9 MB (Ls ++ [(jn : Int)])) := s9
             clear gr9 s9 hmiss
             have y0 := Y9.out.c 0 rfl
             have y1 := Y9.out.c 1 rfl
             have x0 := X9.out.c 0 rfl
             have x1 := X9.out.c 1 rfl
             have xf := X9.out.f)
          go_roundg (cn - (jj + 1))
          case measure => omega
          case rel =>
            have hx2 := HXM.out
            refine ⟨jj + 1, P', Ls ++ [(jn : Int)], a7, c7, by omega, Nat.le_refl _, by go_num, hp2, grew_set (grew_set G9.out (Below.size G2.out) _) (Below.size G2.out) _, ?_, ?_, ?_, ?_, HLM.out, HCT.out⟩
            · show Box _ _ _
              rw [HH2.out]
              exact (X9.out.set 0 _).set 1 _
            · show RowAt _ _ _
              exact ((O9.out.setCell (a := ⟨W2.heap.size, 0, none⟩) hX7 _).setCell (a := ⟨W2.heap.size, 1, none⟩) hX7 _).at
            · show SetAt _ _ _
              exact (S9.out.setCell (a := ⟨W2.heap.size, 0, none⟩) (by show MB ≠ W2.heap.size; omega) _).setCell (a := ⟨W2.heap.size, 1, none⟩) (by show MB ≠ W2.heap.size; omega) _
            · show (Ls ++ [(jn : Int)]).length = jj + 1 + 1
              rw [List.length_append, LL.out]
              rfl
        · have hltz2 : ¬ (jj : Int) < (ii : Int) - (fN : Int) - 1 := by omega
          go_wp2
          go_ret
          exact ⟨rfl, HG0.out.trans GW2.out⟩

end Go.Proofs.Ytbcaagmnmaonbab
