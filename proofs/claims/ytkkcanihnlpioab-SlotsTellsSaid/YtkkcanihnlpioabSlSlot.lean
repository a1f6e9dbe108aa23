/- Contracts of Slot, TakeSlot and HoldSlot (the document's answer). -/
import Derived.Test.YtkkcanihnlpioabSlHold
import Derived.Test.YtkkcanihnlpioabSlRefWrong
namespace Go.Proofs.Ytkkcanihnlpioab
open Go.RowKit

set_option maxRecDepth 100000 in
set_option maxHeartbeats 1000000 in
theorem slot_any (a : Option Addr) (c : Nat) (s : List Int) (i : Nat) (hi : i < s.length) (m : Int) (w : World) (hv : RowAt slE w (.slice a s.length c) s) :
    Calls Try.prog 55 #[.slice a s.length c, .int .i64 (i : Int), .int .i64 m] w fun e w' => ∃ a' c', e = .returned (.slice a' s.length c') ∧ NewRow slE w.heap.size w' (.slice a' s.length c') (s.set i m) ∧ Grew w w' := by
  have HV : Hid (RowAt slE w (.slice a s.length c) s) := hv
  have hbig := hv.short
  have HB : Hid (s.length * 8 ≤ 140737488355328) := hv.2
  clear hv
  obtain ⟨n, HN⟩ : ∃ n, Hid (s.length = n) := ⟨_, rfl⟩
  rw [HN.out] at HV hi hbig HB ⊢
  have hiz : (i : Int) < (n : Int) := by omega
  go_enter Try.func55, Try.ntmps55
  go_wp2_with (at_builtin; refine wpList_append_row (E := slE) rfl (.tmp 8) (.tmp 9) rfl w.heap.size _ [] rfl (OwnRow.made slE w) _ s rfl (HV.out.grew (grew_alloc _ _)) ?qb (by simp) ?_)
  case qb => rw [List.length_nil, Nat.zero_add, HN.out]; exact HB.out
  intro v' w1 hown hgrow
  obtain ⟨g, cv, rfl⟩ := hown.formS (by rw [HN.out]; omega)
  rw [HN.out] at hown
  rw [HN.out]
  have OW : Hid (OwnRow slE w.heap.size w1 (.slice (some ⟨g, 0, none⟩) n cv) s) := hown
  have HG1 : Hid (Grew w w1) := show Grew _ _ from ((Below.refl _ w).alloc (Nat.le_refl _) _).grown hgrow (by simp) (by intro k hk; simp [Value.ownBlock] at hk; omega)
  clear hown hgrow
  go_wp2_with (refine wpList_store_elt (E := slE) rfl (.tmp 14) (.tmp 13) rfl w.heap.size _ s OW.out g i rfl m (by rw [HN.out]; exact hi) _ rfl (by simp [slE]) _ rfl rfl ?_)
  intro w2 ow2 gr2 _
  have hg2 := (OW.out.lt g rfl).1
  have OW2 : Hid (OwnRow slE w.heap.size w2 (.slice (some ⟨g, 0, none⟩) n cv) (s.set i m)) := ow2
  have HG2 : Hid (Grew w w2) := grew_grown HG1.out gr2 hg2
  clear ow2 gr2
  go_wp2
  refine bodyPost_ret (v := .slice (some ⟨g, 0, none⟩) n cv) (by simp [results, Try.results55, go_sem, *]) rfl ⟨_, _, rfl, OW2.out.new, HG2.out⟩

set_option maxRecDepth 100000 in
set_option maxHeartbeats 1000000 in
theorem refTakeS_any (a : Option Addr) (c : Nat) (s : List Int) (m : Int) (w : World) (hv : RowAt slE w (.slice a s.length c) s) :
    Calls Try.prog 30 #[.slice a s.length c, .int .i64 m] w fun e w' => ∃ a' c', e = .returned (.tuple #[.slice a' (takeSL s m).length c', .int .i64 (takeSI s m), .int .i64 (takeSE s m)]) ∧ NewRow slE w.heap.size w' (.slice a' (takeSL s m).length c') (takeSL s m) ∧ Grew w w' := by
  have h1 := refWrongS_any a c s w hv
  have h3 : ∀ W i, Grew w W → i < s.length → Calls Try.prog 55 #[.slice a s.length c, .int .i64 (i : Int), .int .i64 m] W fun e w' => ∃ a' c', e = .returned (.slice a' s.length c') ∧ NewRow slE W.heap.size w' (.slice a' s.length c') (s.set i m) ∧ Grew W w' := fun W i hW hi => slot_any a c s i hi m W (hv.grew hW)
  have hbig := hv.short
  obtain ⟨a', c', heq, hrow⟩ := hv.sls
  cases heq
  have HR : Hid (SlRows w a s) := hrow
  clear hrow hv
  obtain ⟨n, HN⟩ : ∃ n, Hid (s.length = n) := ⟨_, rfl⟩
  by_cases hw : slW s = 0
  · by_cases hm : 1 ≤ m ∧ m ≤ 1000
    · have HF : Hid (∀ i, s.findIdx isZ = i → i < s.length → takeSE s m = 0 ∧ takeSL s m = s.set i m ∧ takeSI s m = (i : Int)) := show ∀ i, _ from fun i hi hl => by
        subst hi
        have h : takeSE s m = 0 := by unfold takeSE; rw [if_pos hw, if_pos hm, if_pos hl]
        exact ⟨h, if_pos h, if_pos h⟩
      have HE : Hid (s.findIdx isZ = s.length → takeSE s m = 10 ∧ takeSL s m = [] ∧ takeSI s m = 0) := show _ → _ from fun hi => by
        have h : takeSE s m = 10 := by unfold takeSE; rw [if_pos hw, if_pos hm, if_neg (by omega)]
        exact ⟨h, takeS_no h (by decide)⟩
      rw [hw] at h1
      generalize takeSL s m = L at *
      generalize takeSE s m = E at *
      generalize takeSI s m = I at *
      rw [HN.out] at h1 h3 hbig HF HE ⊢
      have hm1 : ¬ m < 1 := by omega
      have hm2 : ¬ 1000 < m := by omega
      clear hm hw
      go_enter Try.func30, Try.ntmps30
      go_wp2_with fail
      refine h1.mono ?_
      rintro e W1 ⟨rfl, g1⟩
      have G1 : Hid (Grew w W1) := g1
      clear g1 h1
      go_wp2
      go_loopg [9, 23] n (fun gg _ s8 wr => ∃ kk : Nat, kk ≤ n ∧ n - kk ≤ gg ∧ s8 = .int .i64 kk ∧ Hid (Grew w wr) ∧ Hid (∀ j q, j < kk → s[j]? = some q → isZ q = false))
      case atStart => exact ⟨0, Nat.zero_le _, by omega, rfl, G1.out, fun j q hj => absurd hj (Nat.not_lt_zero _)⟩
      case round =>
        obtain ⟨kk, hkk, hg, rfl, BW, A⟩ := hrel
        by_cases hlt : kk < n
        · have hltz : (kk : Int) < (n : Int) := by omega
          obtain ⟨q, HQ⟩ : ∃ q, Hid (s[kk]? = some q) := ⟨_, List.getElem?_eq_getElem (by rw [HN.out]; exact hlt)⟩
          obtain ⟨ad, rfl, hl⟩ := HR.out kk q HQ.out
          have d0 := hl wr BW.out
          have h4 := h3 wr kk BW.out hlt
          clear hl
          by_cases hz : q = 0
          · obtain ⟨hE, hL, hI⟩ := HF.out kk (first_at HQ.out (by simp [isZ, hz]) A.out) hlt
            have hzb : (q == 0) = true := by simp [hz]
            have HZ : Hid (q = 0) := hz
            have YE : Hid (E = 0) := hE
            have YL : Hid (L = s.set kk m) := hL
            have YI : Hid (I = (kk : Int)) := hI
            clear hz A h3 HF HE hE hL hI
            go_wp2_with fail
            refine h4.mono ?_
            rintro e W2 ⟨a2, c2, rfl, nr, g2⟩
            have NR : Hid (NewRow slE wr.heap.size W2 (.slice a2 n c2) (s.set kk m)) := nr
            have G2 : Hid (Grew w W2) := BW.out.trans g2
            clear nr g2 h4 d0
            go_wp2
            refine bodyPost_ret (v := .tuple #[.slice a2 n c2, .int .i64 (kk : Int), .int .i64 0]) (by simp [results, Try.results30, go_sem, *]) rfl ⟨a2, c2, by rw [YE.out, YL.out, YI.out, List.length_set, HN.out], by rw [YL.out, List.length_set, HN.out]; exact NR.out.base (Below.size BW.out), G2.out⟩
          · have HA : Hid (∀ (j : Nat) q, j < kk + 1 → s[j]? = some q → isZ q = false) := show ∀ (j : Nat) q, _ from fun j q' hj hq' => by
              by_cases e : j = kk
              · subst e
                rw [HQ.out] at hq'
                cases hq'
                simpa [isZ] using hz
              · exact A.out j q' (by omega) hq'
            have hzb : (q == 0) = false := by simp [hz]
            clear hz A h3 h4
            go_wp2
            go_roundg (n - (kk + 1))
            case measure => omega
            case rel => exact ⟨kk + 1, by omega, by omega, by go_num, BW.out, HA.out⟩
        · have hltz : ¬ (kk : Int) < (n : Int) := by omega
          have : kk = n := by omega
          subst this
          obtain ⟨hE, hL, hI⟩ := HE.out (by rw [← HN.out]; exact first_no (fun j q hj => A.out j q (by rw [← HN.out]; exact (List.getElem?_eq_some_iff.1 hj).1) hj))
          have YE : Hid (E = 10) := hE
          have YL : Hid (L = []) := hL
          have YI : Hid (I = 0) := hI
          clear hE hL hI A HF HE h3
          go_wp2
          refine bodyPost_ret (v := .tuple #[.slice none 0 0, .int .i64 0, .int .i64 10]) (by simp [results, Try.results30, go_sem, *]) rfl ⟨none, 0, by rw [YE.out, YL.out, YI.out]; rfl, by rw [YL.out]; exact NewRow.nil _ _ _, BW.out⟩
    · have h : takeSE s m = 3 := by unfold takeSE; rw [if_pos hw, if_neg hm]
      obtain ⟨hL, hI⟩ := takeS_no h (by decide)
      rw [hw] at h1
      rw [h, hL, hI]
      clear h hL hI h3 hw
      rw [HN.out] at h1 hbig ⊢
      by_cases hm1 : m < 1
      · clear hm
        go_enter Try.func30, Try.ntmps30
        go_wp2_with fail
        refine h1.mono ?_
        rintro e W1 ⟨rfl, g1⟩
        have G1 : Hid (Grew w W1) := g1
        clear g1 h1
        go_wp2
        refine bodyPost_ret (v := .tuple #[.slice none 0 0, .int .i64 0, .int .i64 3]) (by simp [results, Try.results30, go_sem, *]) rfl ⟨none, 0, rfl, NewRow.nil _ _ _, G1.out⟩
      · have hm2 : 1000 < m := by omega
        clear hm
        go_enter Try.func30, Try.ntmps30
        go_wp2_with fail
        refine h1.mono ?_
        rintro e W1 ⟨rfl, g1⟩
        have G1 : Hid (Grew w W1) := g1
        clear g1 h1
        go_wp2
        refine bodyPost_ret (v := .tuple #[.slice none 0 0, .int .i64 0, .int .i64 3]) (by simp [results, Try.results30, go_sem, *]) rfl ⟨none, 0, rfl, NewRow.nil _ _ _, G1.out⟩
  · have h : takeSE s m = slW s := by unfold takeSE; rw [if_neg hw]
    obtain ⟨hL, hI⟩ := takeS_no h hw
    rw [h, hL, hI]
    clear h hL hI h3
    generalize slW s = z at h1 hw ⊢
    have hzb : (z != 0) = true := by simpa using hw
    rw [HN.out] at h1 hbig ⊢
    go_enter Try.func30, Try.ntmps30
    go_wp2_with fail
    refine h1.mono ?_
    rintro e W1 ⟨rfl, g1⟩
    have G1 : Hid (Grew w W1) := g1
    clear g1 h1 hw
    go_wp2
    refine bodyPost_ret (v := .tuple #[.slice none 0 0, .int .i64 0, .int .i64 z]) (by simp [results, Try.results30, go_sem, *]) rfl ⟨none, 0, rfl, NewRow.nil _ _ _, G1.out⟩

end Go.Proofs.Ytkkcanihnlpioab
