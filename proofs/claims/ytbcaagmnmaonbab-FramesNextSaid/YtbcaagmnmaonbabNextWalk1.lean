/- The walk of the law FramesNext: the first call refuses, or finds none. -/
import Derived.Test.YtbcaagmnmaonbabNextLaw2
import Derived.Test.YtbcaagmnmaonbabMemNextO
import Derived.Test.YtbcaagmnmaonbabMemAlive
import Derived.Test.YtbcaagmnmaonbabSetMap
namespace Go.Proofs.Ytbcaagmnmaonbab
open Go.RowKit

set_option maxRecDepth 100000 in
set_option maxHeartbeats 4000000 in
theorem nl1 (a : Option Addr) (c : Nat) (fs : List Fr) (h : Int) (w : World) (hv : RowAt w (.slice a fs.length c) fs) (z : Int) (hz : memW fs h = z) (hz0 : z ≠ 0) :
    Calls Try.prog 7 #[.agg #[.slice a fs.length c, .int .i64 h]] w fun e w' => e = .returned (.bool true) ∧ Grew w w' := by
  have HV : Hid (RowAt w (.slice a fs.length c) fs) := hv
  have hbig := hv.short
  have h1 : ∀ W, Grew w W → Calls Try.prog 21 #[.agg #[.slice a fs.length c, .int .i64 h]] W fun e w' => ∃ a' c', e = .returned (.tuple #[.agg #[.slice a' (nextF fs h).length c', .int .i64 (nextH fs h)], .int .i64 (nextI fs h), .int .i64 (memW fs h)]) ∧ OwnRow W.heap.size w' (.slice a' (nextF fs h).length c') (nextF fs h) ∧ Grew W w' := fun W hW => (nextO_any a c fs h W (HV.out.grew hW)).mono (by
    rintro e w' ⟨b, rfl, hb, hg⟩
    obtain ⟨a', c', rfl⟩ := hb.form
    exact ⟨a', c', rfl, hb, hg⟩)
  have hfr : ∀ W, Grew w W → Calls Try.prog 16 #[.agg #[.slice a fs.length c, .int .i64 h]] W fun e w' => e = .returned (.int .i64 (freeN fs)) ∧ Grew W w' := fun W hW => free_any a c fs h W (HV.out.grew hW)
  obtain ⟨n, HN⟩ : ∃ n, Hid (fs.length = n) := ⟨_, rfl⟩
  have hF : nextF fs h = [] := if_neg (by rw [hz]; exact hz0)
  have hH : nextH fs h = 0 := if_neg (by rw [hz]; exact hz0)
  have hI : nextI fs h = 0 := if_neg (by rw [hz]; exact hz0)
  rw [hF, hH, hI, hz] at h1
  have hzb : (z != 0) = true := by simpa using hz0
  obtain ⟨fN, HFN⟩ : ∃ fN, Hid (freeN fs = fN) := ⟨_, rfl⟩
  clear hv hbig hfr hF hH hI hz hz0
  simp only [HN.out, List.length_nil] at h1 HV ⊢
  obtain ⟨W0, hW0⟩ : ∃ W0, w.alloc (.cells #[.slice a n c, .int .i64 h] 39) = W0 := ⟨_, rfl⟩
  have HG0 : Hid (Grew w W0) := show Grew w W0 by rw [← hW0]; exact grew_alloc _ _
  have X0 : Hid (Box W0 w.heap.size [.slice a n c, .int .i64 h]) := show Box _ _ _ by rw [← hW0]; exact Box.top w _ _ rfl
  have HW0 : Hid (_ = W0) := hW0
  clear hW0
  go_enter Try.func7, Try.ntmps7
  go_upto_region 1 with fail
  rw [HW0.out]
  go_wp2_with fail
  refine (alive_any _).mono ?_
  rintro e W1 ⟨rfl, g1⟩
  have G1 : Hid (Grew W0 W1) := g1
  clear g1
  have e0 := (X0.out.grew G1.out).c 0 rfl
  have e1 := (X0.out.grew G1.out).c 1 rfl
  go_wp2_with fail
  refine (h1 _ (HG0.out.trans G1.out)).mono ?_
  rintro e W2 ⟨a2, c2, rfl, ow2, g2⟩
  have G2 : Hid (Grew W0 W2) := G1.out.trans g2
  clear ow2 g2 e0 e1
  go_wp2_with fail
  obtain ⟨W3, hW3⟩ : ∃ W3, W2.alloc (.cells #[.slice a2 0 c2, .int .i64 0] 39) = W3 := ⟨_, rfl⟩
  have G3 : Hid (Grew W0 W3) := show Grew _ _ by rw [← hW3]; exact G2.out.trans (grew_alloc _ _)
  rw [hW3]
  clear hW3
  have hx0 : ∀ y : GrownW W3, y.world.cell? ⟨w.heap.size, 0, none⟩ = some (.slice a n c) := fun y => (X0.out.grew (G3.out.trans y.grew)).c 0 rfl
  have hx1 : ∀ y : GrownW W3, y.world.cell? ⟨w.heap.size, 1, none⟩ = some (.int .i64 h) := fun y => (X0.out.grew (G3.out.trans y.grew)).c 1 rfl
  have hne : Nonempty (GrownW W3) := ⟨⟨_, Grew.refl _⟩⟩
  refine wp_lax_tail 10 [(4, ⟨fun v => v = .int .i64 (fN : Int), fun _ _ => True⟩)] mixed (by kernel_rfl) rfl rfl (by decide) ?_ ?_ ?_
  · intro x hx
    simp at hx
    subst hx
    exact ⟨_, rfl⟩
  · intro x hx
    simp at hx
    subst hx
    exact fun _ _ _ _ h => h
  simp only [List.take, List.drop]
  iterate 3 (refine lax_quiet rfl rfl rfl (fun K hK => ?_); go_big_quiet_op; refine hK _ ?_; clear hK K)
  iterate 6 (refine lax_skip ?_ ?_; kernel_rfl; simp only [Act.put, List.setIfInBounds_toArray, List.set_cons_succ, List.set_cons_zero])
  iterate 1 (refine lax_quiet rfl rfl rfl (fun K hK => ?_); go_big_quiet_op; refine hK _ ?_; clear hK K)
  refine lax_nil fun W4 hg4 hF => ?_
  have G4 : Hid (Grew w W4) := HG0.out.trans (G3.out.trans hg4)
  clear hF hg4 hx0 hx1 hne
  go_wp2
  go_ret
  exact ⟨rfl, G4.out⟩

set_option maxRecDepth 100000 in
set_option maxHeartbeats 4000000 in
theorem nl2 (a : Option Addr) (c : Nat) (fs : List Fr) (h : Int) (w : World) (hv : RowAt w (.slice a fs.length c) fs) (hz : memW fs h = 0) (hI : nextI fs h = -1) (hfn : freeN fs = fs.length) :
    Calls Try.prog 7 #[.agg #[.slice a fs.length c, .int .i64 h]] w fun e w' => e = .returned (.bool true) ∧ Grew w w' := by
  have HV : Hid (RowAt w (.slice a fs.length c) fs) := hv
  have hbig := hv.short
  have h1 : ∀ W, Grew w W → Calls Try.prog 21 #[.agg #[.slice a fs.length c, .int .i64 h]] W fun e w' => ∃ a' c', e = .returned (.tuple #[.agg #[.slice a' (nextF fs h).length c', .int .i64 (nextH fs h)], .int .i64 (nextI fs h), .int .i64 (memW fs h)]) ∧ OwnRow W.heap.size w' (.slice a' (nextF fs h).length c') (nextF fs h) ∧ Grew W w' := fun W hW => (nextO_any a c fs h W (HV.out.grew hW)).mono (by
    rintro e w' ⟨b, rfl, hb, hg⟩
    obtain ⟨a', c', rfl⟩ := hb.form
    exact ⟨a', c', rfl, hb, hg⟩)
  have hfr : ∀ W, Grew w W → Calls Try.prog 16 #[.agg #[.slice a fs.length c, .int .i64 h]] W fun e w' => e = .returned (.int .i64 (freeN fs)) ∧ Grew W w' := fun W hW => free_any a c fs h W (HV.out.grew hW)
  obtain ⟨n, HN⟩ : ∃ n, Hid (fs.length = n) := ⟨_, rfl⟩
  obtain ⟨F, hF⟩ : ∃ F, nextF fs h = F := ⟨_, rfl⟩
  obtain ⟨hh, hH⟩ : ∃ hh, nextH fs h = hh := ⟨_, rfl⟩
  obtain ⟨l, HL⟩ : ∃ l, Hid (F.length = l) := ⟨_, rfl⟩
  rw [hF, hH, hI, hz, HL.out] at h1
  rw [hfn] at hfr
  clear hv hfn hF hH hI hz
  simp only [HN.out] at h1 HV hfr hbig ⊢
  have hnn : ((n : Int) == (n : Int)) = true := by simp
  obtain ⟨W0, hW0⟩ : ∃ W0, w.alloc (.cells #[.slice a n c, .int .i64 h] 39) = W0 := ⟨_, rfl⟩
  have HG0 : Hid (Grew w W0) := show Grew w W0 by rw [← hW0]; exact grew_alloc _ _
  have X0 : Hid (Box W0 w.heap.size [.slice a n c, .int .i64 h]) := show Box _ _ _ by rw [← hW0]; exact Box.top w _ _ rfl
  have HW0 : Hid (_ = W0) := hW0
  clear hW0
  go_enter Try.func7, Try.ntmps7
  go_upto_region 1 with fail
  rw [HW0.out]
  go_wp2_with fail
  refine (alive_any _).mono ?_
  rintro e W1 ⟨rfl, g1⟩
  have G1 : Hid (Grew W0 W1) := g1
  clear g1
  have e0 := (X0.out.grew G1.out).c 0 rfl
  have e1 := (X0.out.grew G1.out).c 1 rfl
  go_wp2_with fail
  refine (h1 _ (HG0.out.trans G1.out)).mono ?_
  rintro e W2 ⟨a2, c2, rfl, ow2, g2⟩
  have G2 : Hid (Grew W0 W2) := G1.out.trans g2
  clear ow2 g2 e0 e1
  go_wp2_with fail
  obtain ⟨W3, hW3⟩ : ∃ W3, W2.alloc (.cells #[.slice a2 l c2, .int .i64 hh] 39) = W3 := ⟨_, rfl⟩
  have G3 : Hid (Grew W0 W3) := show Grew _ _ by rw [← hW3]; exact G2.out.trans (grew_alloc _ _)
  rw [hW3]
  clear hW3
  have hx0 : ∀ y : GrownW W3, y.world.cell? ⟨w.heap.size, 0, none⟩ = some (.slice a n c) := fun y => (X0.out.grew (G3.out.trans y.grew)).c 0 rfl
  have hx1 : ∀ y : GrownW W3, y.world.cell? ⟨w.heap.size, 1, none⟩ = some (.int .i64 h) := fun y => (X0.out.grew (G3.out.trans y.grew)).c 1 rfl
  have hne : Nonempty (GrownW W3) := ⟨⟨_, Grew.refl _⟩⟩
  refine wp_lax_tail 10 [(4, ⟨fun v => v = .int .i64 (n : Int), fun _ _ => True⟩)] mixed (by kernel_rfl) rfl rfl (by decide) ?_ ?_ ?_
  · intro x hx
    simp at hx
    subst hx
    exact ⟨_, rfl⟩
  · intro x hx
    simp at hx
    subst hx
    exact fun _ _ _ _ h => h
  simp only [List.take, List.drop]
  iterate 4 (refine lax_quiet rfl rfl rfl (fun K hK => ?_); go_big_quiet_op; refine hK _ ?_; clear hK K)
  refine lax_spec rfl rfl (fun w' hg hF => ?_) (fun v1 hv => ?_)
  · refine Does.call [.agg #[.slice a n c, .int .i64 h]] rfl Try.func16 rfl rfl rfl ?_
    refine (hfr w' (HG0.out.trans (G3.out.trans hg))).mono ?_
    rintro e w'' ⟨rfl, hg2⟩
    exact ⟨_, rfl, hg2, rfl, trivial⟩
  subst hv
  simp only [Act.put, List.setIfInBounds_toArray, List.set_cons_succ, List.set_cons_zero]
  iterate 5 (refine lax_quiet rfl rfl rfl (fun K hK => ?_); go_big_quiet_op; refine hK _ ?_; clear hK K)
  refine lax_nil fun W4 hg4 hF => ?_
  have G4 : Hid (Grew w W4) := HG0.out.trans (G3.out.trans hg4)
  clear hF hg4 hx0 hx1 hne
  go_wp2
  go_ret
  exact ⟨rfl, G4.out⟩

end Go.Proofs.Ytbcaagmnmaonbab
