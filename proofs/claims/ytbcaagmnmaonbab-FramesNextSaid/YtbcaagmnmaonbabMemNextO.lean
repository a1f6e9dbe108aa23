/- Contract of Next (package frames): what it answers is the call's own, and may be written. -/
import Derived.Test.YtbcaagmnmaonbabMemNext
namespace Go.Proofs.Ytbcaagmnmaonbab
open Go.RowKit

set_option maxRecDepth 100000 in
set_option maxHeartbeats 1000000 in
theorem nextAO (a : Option Addr) (c : Nat) (fs : List Fr) (h : Int) (w : World) (hv : RowAt w (.slice a fs.length c) fs) (z : Int) (hz : memW fs h = z) (hzb : (z != 0) = true) :
    Calls Try.prog 21 #[.agg #[.slice a fs.length c, .int .i64 h]] w fun e w' => ∃ b, e = .returned (.tuple #[.agg #[b, .int .i64 0], .int .i64 0, .int .i64 z]) ∧ OwnRow w.heap.size w' b ([] : List Fr) ∧ Grew w w' := by
  have HV : Hid (RowAt w (.slice a fs.length c) fs) := hv
  have hw : ∀ W, Grew w W → Calls Try.prog 11 #[.agg #[.slice a fs.length c, .int .i64 h]] W fun e w' => e = .returned (.int .i64 (memW fs h)) ∧ Grew W w' := fun W hW => wrongMem_any a c fs h W (HV.out.grew hW)
  clear hv
  obtain ⟨n, HN⟩ : ∃ n, Hid (fs.length = n) := ⟨_, rfl⟩
  simp only [HN.out, hz] at hw HV ⊢
  clear hz
  obtain ⟨W0, hW0⟩ : ∃ W0, (w.alloc (.cells #[.slice a n c, .int .i64 h] 39)).alloc (.cells #[.slice none 0 0, .int .i64 0] 39) = W0 := ⟨_, rfl⟩
  have HG0 : Hid (Grew w W0) := show Grew w W0 by rw [← hW0]; exact (grew_alloc _ _).trans (grew_alloc _ _)
  have X0 : Hid (Box W0 w.heap.size [.slice a n c, .int .i64 h]) := show Box _ _ _ by rw [← hW0]; exact (Box.top w _ _ rfl).alloc _
  have X2 : Hid (Box W0 (w.heap.size + 1) [.slice none 0 0, .int .i64 0]) := show Box _ _ _ by rw [← hW0]; exact Box.top _ _ _ (by simp)
  have HW0 : Hid (_ = W0) := hW0
  clear hW0
  go_enter Try.func21, Try.ntmps21
  go_upto_region 1 with fail
  rw [HW0.out]
  have e0 := X0.out.c 0 rfl
  have e1 := X0.out.c 1 rfl
  go_wp2_with fail
  refine (hw _ HG0.out).mono ?_
  rintro e W1 ⟨rfl, g1⟩
  have G1 : Hid (Grew W0 W1) := g1
  clear g1 e0 e1 hw
  have r0 := (X2.out.grew G1.out).c 0 rfl
  have r1 := (X2.out.grew G1.out).c 1 rfl
  have rf := (X2.out.grew G1.out).f
  go_wp2
  refine bodyPost_ret (v := .tuple #[.agg #[.slice none 0 0, .int .i64 0], .int .i64 0, .int .i64 z]) (by simp [results, Try.results21, go_sem, *]) rfl ⟨_, rfl, OwnRow.nil _ _, ?_⟩
  exact grew_set (grew_set (HG0.out.trans G1.out) (by simp) _) (by simp) _

set_option maxRecDepth 100000 in
set_option maxHeartbeats 1000000 in
theorem nextBO (a : Option Addr) (c : Nat) (fs : List Fr) (i0 : Nat) (w : World) (hv : RowAt w (.slice a fs.length c) fs) (hz : memW fs (i0 : Int) = 0) :
    Calls Try.prog 21 #[.agg #[.slice a fs.length c, .int .i64 (i0 : Int)]] w fun e w' => ∃ b, e = .returned (.tuple #[.agg #[b, .int .i64 ((nextGo (2 * fs.length) fs i0).2.1 : Int)], .int .i64 (nextGo (2 * fs.length) fs i0).2.2, .int .i64 0]) ∧ OwnRow w.heap.size w' b (nextGo (2 * fs.length) fs i0).1 ∧ Grew w w' := by
  have HV : Hid (RowAt w (.slice a fs.length c) fs) := hv
  have hw : ∀ W, Grew w W → Calls Try.prog 11 #[.agg #[.slice a fs.length c, .int .i64 (i0 : Int)]] W fun e w' => e = .returned (.int .i64 (memW fs (i0 : Int))) ∧ Grew W w' := fun W hW => wrongMem_any a c fs _ W (HV.out.grew hW)
  have ho : ∀ W, Grew w W → Calls Try.prog 14 #[.agg #[.slice a fs.length c, .int .i64 (i0 : Int)]] W fun e w' => ∃ b, e = .returned (.agg #[b, .int .i64 (i0 : Int)]) ∧ OwnRow W.heap.size w' b fs ∧ Grew W w' := fun W hW => ownMem_any a c fs _ W (HV.out.grew hW)
  obtain ⟨h40, _, _, hhand⟩ := memW_zero hz
  have eg := enters_of Try.func40 (by kernel_rfl) rfl
  clear hv
  obtain ⟨n, HN⟩ : ∃ n, Hid (fs.length = n) := ⟨_, rfl⟩
  simp only [HN.out, hz] at hw HV ho h40 hhand ⊢
  clear hz
  obtain ⟨R, HRR⟩ : ∃ R, Hid (nextGo (2 * n) fs i0 = R) := ⟨_, rfl⟩
  rw [HRR.out]
  obtain ⟨W0, hW0⟩ : ∃ W0, (w.alloc (.cells #[.slice a n c, .int .i64 (i0 : Int)] 39)).alloc (.cells #[.slice none 0 0, .int .i64 0] 39) = W0 := ⟨_, rfl⟩
  have HG0 : Hid (Grew w W0) := show Grew w W0 by rw [← hW0]; exact (grew_alloc _ _).trans (grew_alloc _ _)
  have X0 : Hid (Box W0 w.heap.size [.slice a n c, .int .i64 (i0 : Int)]) := show Box _ _ _ by rw [← hW0]; exact (Box.top w _ _ rfl).alloc _
  have X2 : Hid (Box W0 (w.heap.size + 1) [.slice none 0 0, .int .i64 0]) := show Box _ _ _ by rw [← hW0]; exact Box.top _ _ _ (by simp)
  have HW0 : Hid (_ = W0) := hW0
  clear hW0
  go_enter Try.func21, Try.ntmps21
  go_upto_region 1 with fail
  rw [HW0.out]
  have e0 := X0.out.c 0 rfl
  have e1 := X0.out.c 1 rfl
  go_wp2_with fail
  refine (hw _ HG0.out).mono ?_
  rintro e W1 ⟨rfl, g1⟩
  have G1 : Hid (Grew W0 W1) := g1
  clear g1 e0 e1 hw
  have e0 := (X0.out.grew G1.out).c 0 rfl
  have e1 := (X0.out.grew G1.out).c 1 rfl
  go_wp2_with fail
  refine (ho _ (HG0.out.trans G1.out)).mono ?_
  rintro e W4 ⟨b, rfl, hown, g4⟩
  obtain ⟨av, cv, rfl⟩ := hown.form
  rw [HN.out] at hown ⊢
  have OW : Hid (OwnRow W1.heap.size W4 (.slice av n cv) fs) := hown
  have G4 : Hid (Grew W0 W4) := G1.out.trans g4
  have g34 : Hid (W1.heap.size ≤ W4.heap.size) := Below.size g4
  have HX2 : Hid (w.heap.size + 1 < W1.heap.size) := (X2.out.grew G1.out).lt
  have HWW : Hid (w.heap.size ≤ W1.heap.size) := Below.size (HG0.out.trans G1.out)
  clear hown g4 e0 e1 ho
  obtain ⟨W5, hW5⟩ : ∃ W5, W4.alloc (.cells #[.slice av n cv, .int .i64 (i0 : Int)] 39) = W5 := ⟨_, rfl⟩
  have XO : Hid (BoxT W5 W4.heap.size 39 [.slice av n cv, .int .i64 (i0 : Int)]) := show BoxT _ _ _ _ by rw [← hW5]; exact BoxT.top W4 _ _ rfl
  have OW5 : Hid (OwnRow W1.heap.size W5 (.slice av n cv) fs) := show OwnRow _ _ _ _ by rw [← hW5]; exact OW.out.grew (grew_alloc _ _)
  have X25 : Hid (Box W5 (w.heap.size + 1) [.slice none 0 0, .int .i64 0]) := show Box _ _ _ by rw [← hW5]; exact (X2.out.grew G4.out).alloc _
  have G5 : Hid (Grew w W5) := show Grew _ _ by rw [← hW5]; exact (HG0.out.trans G4.out).trans (grew_alloc _ _)
  have HW5 : Hid (_ = W5) := hW5
  clear hW5
  go_wp2
  rw [HW5.out]
  go_loopg [8, 9, 23] (2 * n) (fun gg _ _ s23 wr => ∃ (kk hk : Nat) (fk : List Fr), kk ≤ 2 * n ∧ 2 * n - kk ≤ gg ∧ s23 = .int .i64 kk ∧ hk < max n 1 ∧ Hid (fk.length = n) ∧ Hid (Box wr W4.heap.size [.slice av n cv, .int .i64 (hk : Int)]) ∧ Hid (OwnRow W1.heap.size wr (.slice av n cv) fk) ∧ Hid (Below W1.heap.size W5 wr) ∧ Hid (nextGo (2 * n - kk) fk hk = R))
  case atStart => exact ⟨0, i0, fs, Nat.zero_le _, by omega, rfl, by omega, HN.out, XO.out.box, OW5.out, Below.refl _ _, HRR.out⟩
  case round =>
    obtain ⟨kk, hk, fk, hkk, hg, rfl, hhk, HL, BO, OF, BL, A⟩ := hrel
    have hx2 := HX2.out
    have hww := HWW.out
    have X2r : Hid (Box wr (w.heap.size + 1) [.slice none 0 0, .int .i64 0]) := X25.out.below BL.out hx2
    have GW : Hid (Grew w wr) := show Grew w wr from Below.trans G5.out (BL.out.mono hww)
    by_cases hlt : kk < 2 * n
    · have hltz : (kk : Int) < 2 * (n : Int) := by omega
      obtain ⟨g, cg, hs⟩ := OF.out.formS (by rw [HL.out]; omega)
      rw [HL.out] at hs
      cases hs
      obtain ⟨q, HQ⟩ : ∃ q, Hid (fk[hk]? = some q) := ⟨_, List.getElem?_eq_getElem (by rw [HL.out]; omega)⟩
      have hgl := OF.out.lt g rfl
      have HNE : Hid (W4.heap.size ≠ g) := (OW5.out.ne XO.out (by decide) g rfl)
      have hpass := pass_any W4.heap.size g n cv hk W1.heap.size W1.heap.size fk q wr HL.out h40 HQ.out BO.out OF.out HNE.out g34.out hgl.1
      have hgd : fk.getD hk fr0 = q := by rw [List.getD_eq_getElem?_getD, HQ.out]; rfl
      have HST : Hid (nextGo (2 * n - kk) fk hk = if idle q then (fk.set hk (frU q), (hk + 1) % n, (hk : Int)) else nextGo (2 * n - (kk + 1)) (fk.set hk (frU q)) ((hk + 1) % n)) := show _ = _ by
        rw [show 2 * n - kk = (2 * n - (kk + 1)) + 1 by omega, nextGo, hgd, HL.out]
      clear hgd
      cases hi : idle q with
      | true =>
        rw [hi] at hpass
        have HF : Hid (R = (fk.set hk (frU q), (hk + 1) % n, (hk : Int))) := show _ = _ by rw [← A.out, HST.out, hi, if_pos rfl]
        clear hi HST A
        go_wp2_with (go_at_call 40; refine hpass.mono ?_; rintro e W6 ⟨rfl, b6, o6, l6⟩; have r0 := (X2r.out.below l6 hx2).c 0 rfl; have r1 := (X2r.out.below l6 hx2).c 1 rfl; have rf := (X2r.out.below l6 hx2).f; have o0 := b6.c 0 rfl; have o1 := b6.c 1 rfl; have O6 : Hid (OwnRow W1.heap.size W6 (.slice (some ⟨g, 0, none⟩) n cv) (fk.set hk (frU q))) := o6; have GW6 : Hid (Grew w W6) := show Grew w W6 from Below.trans GW.out (l6.mono hww); clear o6 l6)
        refine bodyPost_ret (v := .tuple #[.agg #[.slice (some ⟨g, 0, none⟩) n cv, .int .i64 (((hk + 1) % n : Nat) : Int)], .int .i64 (hk : Int), .int .i64 0]) (by simp [results, Try.results21, go_sem, *]) rfl ⟨.slice (some ⟨g, 0, none⟩) n cv, ?_, ?_, ?_⟩
        · rw [HF.out]
        · rw [HF.out]
          exact ((O6.out.setCell (a := ⟨w.heap.size + 1, 0, none⟩) (by show w.heap.size + 1 < _; omega) _).setCell (a := ⟨w.heap.size + 1, 1, none⟩) (by show w.heap.size + 1 < _; omega) _).base hww
        · exact grew_set (grew_set GW6.out (by simp) _) (by simp) _
      | false =>
        rw [hi] at hpass
        have HA : Hid (nextGo (2 * n - (kk + 1)) (fk.set hk (frU q)) ((hk + 1) % n) = R) := show _ = _ by rw [← A.out, HST.out, hi]; rfl
        clear hi HST A
        go_wp2_with (go_at_call 40; refine hpass.mono ?_; rintro e W6 ⟨rfl, b6, o6, l6⟩; have B6 : Hid (Box W6 W4.heap.size [.slice (some ⟨g, 0, none⟩) n cv, .int .i64 (((hk + 1) % n : Nat) : Int)]) := b6; have O6 : Hid (OwnRow W1.heap.size W6 (.slice (some ⟨g, 0, none⟩) n cv) (fk.set hk (frU q))) := o6; have L6 : Hid (Below W1.heap.size W5 W6) := Below.trans BL.out l6; clear b6 o6 l6)
        go_roundg (2 * n - (kk + 1))
        case measure => omega
        case rel => exact ⟨kk + 1, (hk + 1) % n, fk.set hk (frU q), by omega, by omega, by go_num, (by have := Nat.mod_lt (hk + 1) (show 0 < n by omega); omega), (show (fk.set hk (frU q)).length = n by rw [List.length_set]; exact HL.out), B6.out, O6.out, L6.out, HA.out⟩
    · have hltz : ¬ (kk : Int) < 2 * (n : Int) := by omega
      have : kk = 2 * n := by omega
      subst this
      have HF : Hid (R = (fk, hk, -1)) := show _ = _ by rw [← A.out, Nat.sub_self]; rfl
      have r0 := X2r.out.c 0 rfl
      have r1 := X2r.out.c 1 rfl
      have rf := X2r.out.f
      have o0 := BO.out.c 0 rfl
      have o1 := BO.out.c 1 rfl
      clear A
      go_wp2
      refine bodyPost_ret (v := .tuple #[.agg #[.slice av n cv, .int .i64 (hk : Int)], .int .i64 (-1), .int .i64 0]) (by simp [results, Try.results21, go_sem, *]) rfl ⟨.slice av n cv, ?_, ?_, ?_⟩
      · rw [HF.out]
      · rw [HF.out]
        exact ((OF.out.setCell (a := ⟨w.heap.size + 1, 0, none⟩) (by show w.heap.size + 1 < _; omega) _).setCell (a := ⟨w.heap.size + 1, 1, none⟩) (by show w.heap.size + 1 < _; omega) _).base hww
      · exact grew_set (grew_set GW.out (by simp) _) (by simp) _

theorem nextO_any (a : Option Addr) (c : Nat) (fs : List Fr) (h : Int) (w : World) (hv : RowAt w (.slice a fs.length c) fs) :
    Calls Try.prog 21 #[.agg #[.slice a fs.length c, .int .i64 h]] w fun e w' => ∃ b, e = .returned (.tuple #[.agg #[b, .int .i64 (nextH fs h)], .int .i64 (nextI fs h), .int .i64 (memW fs h)]) ∧ OwnRow w.heap.size w' b (nextF fs h) ∧ Grew w w' := by
  unfold nextH nextI nextF nextR
  by_cases hz : memW fs h = 0
  · rw [if_pos hz, if_pos hz, if_pos hz]
    obtain ⟨i0, rfl⟩ := Int.eq_ofNat_of_zero_le (memW_zero hz).2.2.1
    rw [Int.toNat_natCast, hz]
    exact nextBO a c fs i0 w hv hz
  · rw [if_neg hz, if_neg hz, if_neg hz]
    exact nextAO a c fs h w hv _ rfl (by simpa using hz)

end Go.Proofs.Ytbcaagmnmaonbab
