/- The walk of the law FramesTells (New has room). -/
import Derived.Test.YtbcaagmnmaonbabMemAlive
import Derived.Test.YtbcaagmnmaonbabMemSame
import Derived.Test.YtbcaagmnmaonbabHoldLaw
import Derived.Test.YtbcaagmnmaonbabRefTake
import Derived.Test.YtbcaagmnmaonbabRefHold
import Derived.Test.YtbcaagmnmaonbabRefNext2
namespace Go.Proofs.Ytbcaagmnmaonbab
open Go.RowKit

set_option maxRecDepth 100000 in
set_option maxHeartbeats 4000000 in
theorem ftells_ok (a : Option Addr) (c : Nat) (fs : List Fr) (h : Int) (p : Pg) (fi ix kx : Int) (k : Nat) (hk : k ≤ 40) (w : World) (hv : RowAt w (.slice a fs.length c) fs) :
    Calls Try.prog 4 #[.agg #[.slice a fs.length c, .int .i64 h], .agg (pgv p).toArray, .int .i64 fi, .int .i64 ix, .int .i64 kx, .int .i64 (k : Int)] w fun e w' => e = .returned (.bool true) ∧ Grew w w' := by
  have HV : Hid (RowAt w (.slice a fs.length c) fs) := hv
  have hbig := hv.short
  have c1 : ∀ W, Grew w W → Calls Try.prog 11 #[.agg #[.slice a fs.length c, .int .i64 h]] W fun e w' => e = .returned (.int .i64 (memW fs h)) ∧ Grew W w' := fun W hW => wrongMem_any a c fs h W (HV.out.grew hW)
  have c2 : ∀ W, Grew w W → Calls Try.prog 12 #[.agg #[.slice a fs.length c, .int .i64 h]] W fun e w' => e = .returned (.int .i64 (memW fs h)) ∧ Grew W w' := fun W hW => refWrongMem_any a c fs h W (HV.out.grew hW)
  have c3 : ∀ W, Grew w W → Calls Try.prog 14 #[.agg #[.slice a fs.length c, .int .i64 h]] W fun e w' => ∃ a' c', e = .returned (.agg #[.slice a' fs.length c', .int .i64 h]) ∧ RowAt w' (.slice a' fs.length c') fs ∧ Grew W w' := fun W hW => (ownMem_any a c fs h W (HV.out.grew hW)).mono (by
    rintro e w' ⟨b, rfl, hb, hg⟩
    obtain ⟨a', c', rfl⟩ := hb.form
    exact ⟨a', c', rfl, hb.at, hg⟩)
  have c4 : ∀ W, Grew w W → Calls Try.prog 16 #[.agg #[.slice a fs.length c, .int .i64 h]] W fun e w' => e = .returned (.int .i64 (freeN fs)) ∧ Grew W w' := fun W hW => free_any a c fs h W (HV.out.grew hW)
  have c5 : ∀ W, Grew w W → Calls Try.prog 17 #[.agg #[.slice a fs.length c, .int .i64 h], .agg #[.int .u8 p.b0, .int .u8 p.b1, .int .u8 p.b2, .int .u8 p.b3, .int .u8 p.b4, .int .u8 p.b5, .int .u8 p.b6, .int .u8 p.b7], .int .i64 fi, .int .i64 ix] W fun e w' => ∃ a' c', e = .returned (.tuple #[.agg #[.slice a' (takeF fs h (frT p fi ix)).length c', .int .i64 (takeH fs h (frT p fi ix))], .int .i64 (takeI fs h (frT p fi ix)), .int .i64 (takeE fs h (frT p fi ix))]) ∧ NewRow W.heap.size w' (.slice a' (takeF fs h (frT p fi ix)).length c') (takeF fs h (frT p fi ix)) ∧ Grew W w' := fun W hW => (take_any a c fs h p fi ix W (HV.out.grew hW)).mono (by
    rintro e w' ⟨b, rfl, hb, hg⟩
    obtain ⟨a', c', rfl, _⟩ := hb.1.rows
    exact ⟨a', c', rfl, hb, hg⟩)
  have c6 : ∀ W, Grew w W → Calls Try.prog 18 #[.agg #[.slice a fs.length c, .int .i64 h], .agg #[.int .u8 p.b0, .int .u8 p.b1, .int .u8 p.b2, .int .u8 p.b3, .int .u8 p.b4, .int .u8 p.b5, .int .u8 p.b6, .int .u8 p.b7], .int .i64 fi, .int .i64 ix] W fun e w' => ∃ a' c', e = .returned (.tuple #[.agg #[.slice a' (takeF fs h (frT p fi ix)).length c', .int .i64 (takeH fs h (frT p fi ix))], .int .i64 (takeI fs h (frT p fi ix)), .int .i64 (takeE fs h (frT p fi ix))]) ∧ NewRow W.heap.size w' (.slice a' (takeF fs h (frT p fi ix)).length c') (takeF fs h (frT p fi ix)) ∧ Grew W w' := fun W hW => (refTake_any a c fs h p fi ix W (HV.out.grew hW)).mono (by
    rintro e w' ⟨b, rfl, hb, hg⟩
    obtain ⟨a', c', rfl, _⟩ := hb.1.rows
    exact ⟨a', c', rfl, hb, hg⟩)
  have c7 : ∀ W, Grew w W → Calls Try.prog 19 #[.agg #[.slice a fs.length c, .int .i64 h], .int .i64 kx, .int .i64 (k : Int)] W fun e w' => ∃ a' c', e = .returned (.tuple #[.agg #[.slice a' (holdF fs h kx (k : Int)).length c', .int .i64 (holdH fs h kx (k : Int))], .int .i64 (holdE fs h kx (k : Int))]) ∧ NewRow W.heap.size w' (.slice a' (holdF fs h kx (k : Int)).length c') (holdF fs h kx (k : Int)) ∧ Grew W w' := fun W hW => (hold_any a c fs h kx (k : Int) W (HV.out.grew hW)).mono (by
    rintro e w' ⟨b, rfl, hb, hg⟩
    obtain ⟨a', c', rfl, _⟩ := hb.1.rows
    exact ⟨a', c', rfl, hb, hg⟩)
  have c8 : ∀ W, Grew w W → Calls Try.prog 20 #[.agg #[.slice a fs.length c, .int .i64 h], .int .i64 kx, .int .i64 (k : Int)] W fun e w' => ∃ a' c', e = .returned (.tuple #[.agg #[.slice a' (holdF fs h kx (k : Int)).length c', .int .i64 (holdH fs h kx (k : Int))], .int .i64 (holdE fs h kx (k : Int))]) ∧ NewRow W.heap.size w' (.slice a' (holdF fs h kx (k : Int)).length c') (holdF fs h kx (k : Int)) ∧ Grew W w' := fun W hW => (refHold_any a c fs h kx (k : Int) W (HV.out.grew hW)).mono (by
    rintro e w' ⟨b, rfl, hb, hg⟩
    obtain ⟨a', c', rfl, _⟩ := hb.1.rows
    exact ⟨a', c', rfl, hb, hg⟩)
  have c9 : ∀ W, Grew w W → Calls Try.prog 21 #[.agg #[.slice a fs.length c, .int .i64 h]] W fun e w' => ∃ a' c', e = .returned (.tuple #[.agg #[.slice a' (nextF fs h).length c', .int .i64 (nextH fs h)], .int .i64 (nextI fs h), .int .i64 (memW fs h)]) ∧ NewRow W.heap.size w' (.slice a' (nextF fs h).length c') (nextF fs h) ∧ Grew W w' := fun W hW => (next_any a c fs h W (HV.out.grew hW)).mono (by
    rintro e w' ⟨b, rfl, hb, hg⟩
    obtain ⟨a', c', rfl, _⟩ := hb.1.rows
    exact ⟨a', c', rfl, hb, hg⟩)
  have c10 : ∀ W, Grew w W → Calls Try.prog 22 #[.agg #[.slice a fs.length c, .int .i64 h]] W fun e w' => ∃ a' c', e = .returned (.tuple #[.agg #[.slice a' (nextF fs h).length c', .int .i64 (nextH fs h)], .int .i64 (nextI fs h), .int .i64 (memW fs h)]) ∧ (NewRow W.heap.size w' (.slice a' (nextF fs h).length c') (nextF fs h) ∨ (a' = a ∧ c' = c ∧ (nextF fs h) = fs)) ∧ Grew W w' := fun W hW => refNext_any a c fs h W (HV.out.grew hW)
  have cn : ∀ W, Calls Try.prog 15 #[.int .i64 (k : Int)] W fun e w' => ∃ a' c', e = .returned (.tuple #[.agg #[.slice a' k c', .int .i64 0], .int .i64 0]) ∧ RowAt w' (.slice a' k c') (List.replicate k frF) ∧ Grew W w' := fun W => (newMem_nat k hk W).mono (by
    rintro e w' ⟨b, rfl, hb, hg⟩
    obtain ⟨a', c', rfl, _⟩ := hb.1.rows
    have hb' := hb.1
    rw [List.length_replicate] at hb' ⊢
    exact ⟨a', c', rfl, hb', hg⟩)
  have cf : ∀ a' c' W, RowAt W (.slice a' k c') (List.replicate k frF) → Calls Try.prog 16 #[.agg #[.slice a' k c', .int .i64 0]] W fun e w' => e = .returned (.int .i64 (k : Int)) ∧ Grew W w' := fun a' c' W hR => by
    have hc := free_any a' c' (List.replicate k frF) 0 W (by rw [List.length_replicate]; exact hR)
    rw [List.length_replicate, show freeN (List.replicate k frF) = k from by unfold freeN; rw [List.countP_replicate]; rfl] at hc
    exact hc
  have cw : ∀ a' c' W, RowAt W (.slice a' k c') (List.replicate k frF) → Calls Try.prog 11 #[.agg #[.slice a' k c', .int .i64 0]] W fun e w' => e = .returned (.int .i64 0) ∧ Grew W w' := fun a' c' W hR => by
    have hc := wrongMem_any a' c' (List.replicate k frF) 0 W (by rw [List.length_replicate]; exact hR)
    rw [List.length_replicate, show memW (List.replicate k frF) 0 = 0 from memW_mk (by rw [List.length_replicate]; exact hk) (fun q hq => by rw [List.eq_of_mem_replicate hq]; decide +kernel) (Int.le_refl _) (by omega)] at hc
    exact hc
  generalize takeF fs h (frT p fi ix) = F1 at c5 c6
  generalize takeH fs h (frT p fi ix) = H1 at c5 c6
  generalize takeI fs h (frT p fi ix) = I1 at c5 c6
  generalize takeE fs h (frT p fi ix) = E1 at c5 c6
  generalize holdF fs h kx (k : Int) = F2 at c7 c8
  generalize holdH fs h kx (k : Int) = H2 at c7 c8
  generalize holdE fs h kx (k : Int) = E2 at c7 c8
  generalize nextF fs h = F3 at c9 c10
  generalize nextH fs h = H3 at c9 c10
  generalize nextI fs h = I3 at c9 c10
  generalize memW fs h = E3 at c1 c2 c9 c10
  obtain ⟨l1, L1⟩ : ∃ l, Hid (F1.length = l) := ⟨_, rfl⟩
  obtain ⟨l2, L2⟩ : ∃ l, Hid (F2.length = l) := ⟨_, rfl⟩
  obtain ⟨l3, L3⟩ : ∃ l, Hid (F3.length = l) := ⟨_, rfl⟩
  rw [L1.out] at c5 c6
  rw [L2.out] at c7 c8
  rw [L3.out] at c9 c10
  obtain ⟨n, HN⟩ : ∃ n, Hid (fs.length = n) := ⟨_, rfl⟩
  obtain ⟨a0, c0, heq, hrow⟩ := hv.frs
  cases heq
  have HRW : Hid (FrRows w a fs) := hrow
  clear hrow hv
  have HFR : Hid (∀ j q, fs[j]? = some q → freeN (fs.take (j + 1)) = freeN (fs.take j) + if q.r = 0 then 1 else 0) := show ∀ j q, _ from fun j q hq => freeN_step hq
  obtain ⟨fr, HF⟩ : ∃ fr, Hid (freeN fs = fr) := ⟨_, rfl⟩
  simp only [HF.out] at c4
  simp only [HN.out] at c1 c2 c3 c4 c5 c6 c7 c8 c9 c10 HV hbig ⊢
  show Calls Try.prog 4 #[.agg #[.slice a n c, .int .i64 h], .agg #[.int .u8 p.b0, .int .u8 p.b1, .int .u8 p.b2, .int .u8 p.b3, .int .u8 p.b4, .int .u8 p.b5, .int .u8 p.b6, .int .u8 p.b7], .int .i64 fi, .int .i64 ix, .int .i64 kx, .int .i64 (k : Int)] w _
  obtain ⟨W0, hW0⟩ : ∃ W0, (w.alloc (.cells #[.slice a n c, .int .i64 h] 39)).alloc (.cells #[.int .u8 p.b0, .int .u8 p.b1, .int .u8 p.b2, .int .u8 p.b3, .int .u8 p.b4, .int .u8 p.b5, .int .u8 p.b6, .int .u8 p.b7] 31) = W0 := ⟨_, rfl⟩
  have HG0 : Hid (Grew w W0) := show Grew w W0 by rw [← hW0]; exact (grew_alloc _ _).trans (grew_alloc _ _)
  have X0 : Hid (Box W0 w.heap.size [.slice a n c, .int .i64 h]) := show Box _ _ _ by rw [← hW0]; exact (Box.top w _ _ rfl).alloc _
  have XP : Hid (Box W0 (w.heap.size + 1) [.int .u8 p.b0, .int .u8 p.b1, .int .u8 p.b2, .int .u8 p.b3, .int .u8 p.b4, .int .u8 p.b5, .int .u8 p.b6, .int .u8 p.b7]) := show Box _ _ _ by rw [← hW0]; exact Box.top _ _ _ (by simp)
  have HW0 : Hid (_ = W0) := hW0
  clear hW0
  have hee : (E3 != E3) = false := by simp
  go_enter Try.func4, Try.ntmps4
  go_wp2
  rw [HW0.out]
  have hx0 : ∀ y : GrownW W0, y.world.cell? ⟨w.heap.size, 0, none⟩ = some (.slice a n c) := fun y => (X0.out.grew y.grew).c 0 rfl
  have hx1 : ∀ y : GrownW W0, y.world.cell? ⟨w.heap.size, 1, none⟩ = some (.int .i64 h) := fun y => (X0.out.grew y.grew).c 1 rfl
  have hne : Nonempty (GrownW W0) := ⟨⟨_, Grew.refl _⟩⟩
  refine wp_lax [(1, ⟨fun v => v = .int .i64 E3, fun _ _ => True⟩), (3, ⟨fun v => v = .int .i64 E3, fun _ _ => True⟩), (7, ⟨fun v => ∃ a' c', v = .agg #[.slice a' n c', .int .i64 h], fun v w' => MemAt w' v fs h⟩), (9, ⟨fun v => v = .bool true, fun _ _ => True⟩)] mixed (by kernel_rfl) ?_ ?_ ?_
  · intro x hx
    simp at hx
    rcases hx with rfl | rfl | rfl | rfl
    · exact ⟨_, rfl⟩
    · exact ⟨_, rfl⟩
    · exact ⟨_, none, 0, rfl⟩
    · exact ⟨_, rfl⟩
  · intro x hx
    simp at hx
    rcases hx with rfl | rfl | rfl | rfl
    · exact fun _ _ _ _ h => h
    · exact fun _ _ _ _ h => h
    · exact fun _ _ _ hg h => h.grew hg
    · exact fun _ _ _ _ h => h
  iterate 1 (refine lax_quiet rfl rfl rfl (fun K hK => ?_); go_big_quiet_op; refine hK _ ?_; clear hK K)
  refine lax_spec rfl rfl (fun w' hg hF => ?_) (fun v1 hv => ?_)
  · refine Does.call [.agg #[.slice a n c, .int .i64 h]] rfl Try.func11 rfl rfl rfl ?_
    refine (c1 w' (HG0.out.trans hg)).mono ?_
    rintro e w'' ⟨rfl, hg2⟩
    exact ⟨_, rfl, hg2, rfl, trivial⟩
  subst hv
  simp only [Act.put, List.setIfInBounds_toArray, List.set_cons_succ, List.set_cons_zero]
  iterate 1 (refine lax_quiet rfl rfl rfl (fun K hK => ?_); go_big_quiet_op; refine hK _ ?_; clear hK K)
  refine lax_spec rfl rfl (fun w' hg hF => ?_) (fun v1 hv => ?_)
  · refine Does.call [.agg #[.slice a n c, .int .i64 h]] rfl Try.func12 rfl rfl rfl ?_
    refine (c2 w' (HG0.out.trans hg)).mono ?_
    rintro e w'' ⟨rfl, hg2⟩
    exact ⟨_, rfl, hg2, rfl, trivial⟩
  subst hv
  simp only [Act.put, List.setIfInBounds_toArray, List.set_cons_succ, List.set_cons_zero]
  iterate 3 (refine lax_quiet rfl rfl rfl (fun K hK => ?_); go_big_quiet_op; refine hK _ ?_; clear hK K)
  refine lax_spec rfl rfl (fun w' hg hF => ?_) (fun v1 hv => ?_)
  · refine Does.call [.agg #[.slice a n c, .int .i64 h]] rfl Try.func14 rfl rfl rfl ?_
    refine (c3 w' (HG0.out.trans hg)).mono ?_
    rintro e w'' ⟨ya, yc, rfl, nd, hg2⟩
    exact ⟨_, rfl, hg2, ⟨ya, yc, rfl⟩, ⟨_, rfl, nd⟩⟩
  obtain ⟨ya, yc, rfl⟩ := hv
  simp only [Act.put, List.setIfInBounds_toArray, List.set_cons_succ, List.set_cons_zero]
  iterate 1 (refine lax_quiet rfl rfl rfl (fun K hK => ?_); go_big_quiet_op; refine hK _ ?_; clear hK K)
  refine lax_spec rfl rfl (fun w' hg hF => ?_) (fun v1 hv => ?_)
  · have h7 : MemAt w' (.agg #[.slice ya n yc, .int .i64 h]) fs h := hF 7 (by kernel_rfl)
    refine Does.call [.agg #[.slice ya n yc, .int .i64 h], .agg #[.slice a n c, .int .i64 h]] rfl Try.func13 rfl rfl rfl ?_
    refine (sameMem_any _ _ fs h w' h7 ⟨_, rfl, HV.out.grew (HG0.out.trans hg)⟩).mono ?_
    rintro e w'' ⟨rfl, hg2⟩
    exact ⟨_, rfl, hg2, rfl, trivial⟩
  subst hv
  simp only [Act.put, List.setIfInBounds_toArray, List.set_cons_succ, List.set_cons_zero]
  iterate 2 (refine lax_quiet rfl rfl rfl (fun K hK => ?_); go_big_quiet_op; refine hK _ ?_; clear hK K)
  refine lax_nil fun W1 hg1 hF => ?_
  have G1 : Hid (Grew W0 W1) := hg1
  clear hF hg1 hx0 hx1 hne
  have h80 : (k : Int) ≤ 40 := by omega
  have h00 : (0 : Int) ≤ (k : Int) := by omega
  have hkk : ((k : Int) != (k : Int)) = false := by simp
  go_wp2_with fail
  refine (cn _).mono ?_
  rintro e W2 ⟨na, nc, rfl, nr, g2⟩
  have NR : Hid (RowAt W2 (.slice na k nc) (List.replicate k frF)) := nr
  have G2 : Hid (Grew W0 W2) := G1.out.trans g2
  clear nr g2
  go_wp2_with fail
  refine (cf _ _ _ (NR.out.grew (grew_alloc _ _))).mono ?_
  rintro e W3 ⟨rfl, g3⟩
  have X3 : Hid (Box W3 W2.heap.size [.slice na k nc, .int .i64 0]) := (Box.top W2 _ _ rfl).grew g3
  have G3 : Hid (Grew W0 W3) := (G2.out.trans (grew_alloc _ _)).trans g3
  have NR3 : Hid (RowAt W3 (.slice na k nc) (List.replicate k frF)) := (NR.out.grew (grew_alloc _ _)).grew g3
  clear g3
  have x0 := X3.out.c 0 rfl
  have x1 := X3.out.c 1 rfl
  go_wp2_with fail
  refine (cw _ _ _ NR3.out).mono ?_
  rintro e W4 ⟨rfl, g4⟩
  have G4 : Hid (Grew W0 W4) := G3.out.trans g4
  clear g4 x0 x1 h80 h00 hkk
  have e0 := (X0.out.grew G4.out).c 0 rfl
  go_wp2
  clear e0
  go_loopg [15, 17, 74] n (fun gg s15 _ s74 wr => ∃ (kk m : Nat), kk ≤ n ∧ n - kk ≤ gg ∧ m ≤ kk ∧ s74 = .int .i64 kk ∧ s15 = .int .i64 m ∧ Hid (Grew W4 wr) ∧ Hid (freeN (fs.take kk) = m))
  case atStart => exact ⟨0, 0, Nat.zero_le _, by omega, Nat.le_refl _, rfl, rfl, Grew.refl _, rfl⟩
  case round =>
    obtain ⟨kk, m, hkk, hg, hm, rfl, rfl, BW, A⟩ := hrel
    by_cases hlt : kk < n
    · have hltz : (kk : Int) < (n : Int) := by omega
      obtain ⟨q, HQ⟩ : ∃ q, Hid (fs[kk]? = some q) := ⟨_, List.getElem?_eq_getElem (by rw [HN.out]; exact hlt)⟩
      obtain ⟨ad, rfl, hl⟩ := HRW.out kk q HQ.out
      obtain ⟨d0, d1, d2, d3, d4, d5, d6, d7, d8, d9, d10, d11, d12⟩ := hl wr (HG0.out.trans (G4.out.trans BW.out))
      have HST : Hid (freeN (fs.take (kk + 1)) = freeN (fs.take kk) + if q.r = 0 then 1 else 0) := HFR.out kk q HQ.out
      clear hl
      by_cases hz : q.r = 0
      · have HA : Hid (freeN (fs.take (kk + 1)) = m + 1) := show _ = _ by rw [HST.out, A.out, if_pos hz]
        have hzb : (q.r == 0) = true := by simp [hz]
        have HZ : Hid (q.r = 0) := hz
        clear HST hz
        go_wp2
        go_roundg (n - (kk + 1))
        case measure => omega
        case rel => exact ⟨kk + 1, m + 1, by omega, by omega, by omega, by go_num, by go_num, BW.out.trans (grew_alloc _ _), HA.out⟩
      · have HA : Hid (freeN (fs.take (kk + 1)) = m) := show _ = _ by rw [HST.out, A.out, if_neg hz]; rfl
        have hzb : (q.r == 0) = false := by simp [hz]
        clear HST
        go_wp2
        go_roundg (n - (kk + 1))
        case measure => omega
        case rel => exact ⟨kk + 1, m, by omega, by omega, by omega, by go_num, rfl, BW.out.trans (grew_alloc _ _), HA.out⟩
    · have hltz : ¬ (kk : Int) < (n : Int) := by omega
      have hkn : n = kk := by omega
      subst hkn
      have hfm : fr = m := by rw [← HF.out, ← A.out, List.take_of_length_le (by rw [HN.out]; exact Nat.le_refl _)]
      subst hfm
      have G5 : Hid (Grew W0 wr) := G4.out.trans BW.out
      clear A
      have e0 := (X0.out.grew G5.out).c 0 rfl
      have e1 := (X0.out.grew G5.out).c 1 rfl
      have p0 := (XP.out.grew G5.out).c 0 rfl
      have p1 := (XP.out.grew G5.out).c 1 rfl
      have p2 := (XP.out.grew G5.out).c 2 rfl
      have p3 := (XP.out.grew G5.out).c 3 rfl
      have p4 := (XP.out.grew G5.out).c 4 rfl
      have p5 := (XP.out.grew G5.out).c 5 rfl
      have p6 := (XP.out.grew G5.out).c 6 rfl
      have p7 := (XP.out.grew G5.out).c 7 rfl
      have hff : ((fr : Int) != (fr : Int)) = false := by simp
      have hE1 : (E1 != E1) = false := by simp
      have hE2 : (E2 != E2) = false := by simp
      have hI1 : (I1 != I1) = false := by simp
      have hI3 : (I3 == I3) = true := by simp
      have hE3 : (E3 == E3) = true := by simp
      have ep := (XP.out.grew G5.out).lt
      have el := (X0.out.grew G5.out).lt
      go_wp2_with fail
      refine (c5 _ (HG0.out.trans G5.out)).mono ?_
      rintro e W6 ⟨a6, k6, rfl, nb6, g6⟩
      have N6 : Hid (NewRow W0.heap.size W6 (.slice a6 l1 k6) F1) := nb6.base (Below.size G5.out)
      have G6 : Hid (Grew W0 W6) := G5.out.trans g6
      clear nb6 g6 e0 e1 el ep p0 p1 p2 p3 p4 p5 p6 p7
      have e0 := (X0.out.grew G6.out).c 0 rfl
      have e1 := (X0.out.grew G6.out).c 1 rfl
      have p0 := (XP.out.grew G6.out).c 0 rfl
      have p1 := (XP.out.grew G6.out).c 1 rfl
      have p2 := (XP.out.grew G6.out).c 2 rfl
      have p3 := (XP.out.grew G6.out).c 3 rfl
      have p4 := (XP.out.grew G6.out).c 4 rfl
      have p5 := (XP.out.grew G6.out).c 5 rfl
      have p6 := (XP.out.grew G6.out).c 6 rfl
      have p7 := (XP.out.grew G6.out).c 7 rfl
      have ep := (XP.out.grew G6.out).lt
      have el := (X0.out.grew G6.out).lt
      go_wp2_with fail
      refine (c6 _ ((HG0.out.trans G6.out).trans (grew_alloc _ _))).mono ?_
      rintro e W7 ⟨a7, k7, rfl, nb7, g7⟩
      have N7 : Hid (RowAt W7 (.slice a7 l1 k7) F1) := nb7.1
      have M7 : Hid (RowAt W7 (.slice a6 l1 k6) F1) := (N6.out.1.grew (grew_alloc _ _)).grew g7
      have G7 : Hid (Grew W0 W7) := (G6.out.trans (grew_alloc _ _)).trans g7
      have XA7 : Hid (Box W7 W6.heap.size [.slice a6 l1 k6, .int .i64 H1]) := (Box.top W6 _ _ rfl).grew g7
      clear nb7 g7 e0 e1 el ep p0 p1 p2 p3 p4 p5 p6 p7
      have e0 := (X0.out.grew G7.out).c 0 rfl
      have e1 := (X0.out.grew G7.out).c 1 rfl
      have el := (X0.out.grew G7.out).lt
      go_wp2_with fail
      refine (c4 _ ((HG0.out.trans G7.out).trans (grew_alloc _ _))).mono ?_
      rintro e W8 ⟨rfl, g8⟩
      have GG8 : Hid (Grew W7 W8) := (grew_alloc _ _).trans g8
      have XA8 : Hid (Box W8 W6.heap.size [.slice a6 l1 k6, .int .i64 H1]) := XA7.out.grew GG8.out
      have XB8 : Hid (Box W8 W7.heap.size [.slice a7 l1 k7, .int .i64 H1]) := (Box.top W7 _ _ rfl).grew g8
      have G8 : Hid (Grew W0 W8) := G7.out.trans GG8.out
      clear g8 e0 e1 el
      have x0 := XA8.out.c 0 rfl
      have x1 := XA8.out.c 1 rfl
      have y0 := XB8.out.c 0 rfl
      have y1 := XB8.out.c 1 rfl
      go_wp2_with fail
      refine (sameMem_any (.agg #[.slice a6 l1 k6, .int .i64 H1]) (.agg #[.slice a7 l1 k7, .int .i64 H1]) F1 H1 _ ⟨_, rfl, M7.out.grew GG8.out⟩ ⟨_, rfl, N7.out.grew GG8.out⟩).mono ?_
      rintro e W9 ⟨rfl, g9⟩
      have G9 : Hid (Grew W0 W9) := G8.out.trans g9
      have XA9 : Hid (Box W9 W6.heap.size [.slice a6 l1 k6, .int .i64 H1]) := XA8.out.grew g9
      have XB9 : Hid (Box W9 W7.heap.size [.slice a7 l1 k7, .int .i64 H1]) := XB8.out.grew g9
      have hab : W6.heap.size < W7.heap.size := XA7.out.lt
      have h06 : w.heap.size + 1 < W6.heap.size := (XP.out.grew G6.out).lt
      clear g9 x0 x1 y0 y1 N6 M7 N7 GG8 XA7 XA8 XB8
      have e0 := (X0.out.grew G9.out).c 0 rfl
      have e1 := (X0.out.grew G9.out).c 1 rfl
      go_wp2_with fail
      refine (c7 _ (HG0.out.trans G9.out)).mono ?_
      rintro e W10 ⟨a10, k10, rfl, nb10, g10⟩
      have G10 : Hid (Grew W0 W10) := G9.out.trans g10
      have XA10 : Hid (Box W10 W6.heap.size [.slice a6 l1 k6, .int .i64 H1]) := XA9.out.grew g10
      have XB10 : Hid (Box W10 W7.heap.size [.slice a7 l1 k7, .int .i64 H1]) := XB9.out.grew g10
      have ND10 : Hid (NewRow W9.heap.size W10 (.slice a10 l2 k10) F2) := nb10
      have ha10 : W6.heap.size < W9.heap.size := XA9.out.lt
      have hb10 : W7.heap.size < W9.heap.size := XB9.out.lt
      clear nb10 g10 e0 e1
      obtain ⟨W11, hW11⟩ : ∃ W11, (W10.setCell ⟨W6.heap.size, 0, none⟩ (.slice a10 l2 k10)).setCell ⟨W6.heap.size, 1, none⟩ (.int .i64 H2) = W11 := ⟨_, rfl⟩
      have ND11 : Hid (NewRow W9.heap.size W11 (.slice a10 l2 k10) F2) := show NewRow _ _ _ _ by rw [← hW11]; exact (ND10.out.setCell (a := ⟨W6.heap.size, 0, none⟩) ha10 _).setCell (a := ⟨W6.heap.size, 1, none⟩) ha10 _
      have XA11 : Hid (Box W11 W6.heap.size [.slice a10 l2 k10, .int .i64 H2]) := show Box _ _ _ by rw [← hW11]; exact (XA10.out.set 0 _).set 1 _
      have XB11 : Hid (Box W11 W7.heap.size [.slice a7 l1 k7, .int .i64 H1]) := show Box _ _ _ by rw [← hW11]; exact (XB10.out.other (by show W7.heap.size ≠ W6.heap.size; omega) _).other (by show W7.heap.size ≠ W6.heap.size; omega) _
      have X011 : Hid (Box W11 w.heap.size [.slice a n c, .int .i64 h]) := show Box _ _ _ by rw [← hW11]; exact ((X0.out.grew G10.out).other (by show w.heap.size ≠ W6.heap.size; omega) _).other (by show w.heap.size ≠ W6.heap.size; omega) _
      have GW11 : Hid (Grew w W11) := show Grew _ _ by rw [← hW11]; exact grew_set (grew_set (HG0.out.trans G10.out) (by show w.heap.size ≤ W6.heap.size; omega) _) (by show w.heap.size ≤ W6.heap.size; omega) _
      have GB11 : Hid (Grew W0 W11) := show Grew _ _ by rw [← hW11]; exact grew_set (grew_set G10.out (Below.size G6.out) _) (Below.size G6.out) _
      have HW11 : Hid (_ = W11) := hW11
      clear hW11
      have x0 := XA10.out.c 0 rfl
      have x1 := XA10.out.c 1 rfl
      have xf := XA10.out.f
      go_upto_region 18 with fail
      rw [HW11.out]
      clear x0 x1 xf
      have e0 := X011.out.c 0 rfl
      have e1 := X011.out.c 1 rfl
      go_wp2_with fail
      refine (c8 _ GW11.out).mono ?_
      rintro e W12 ⟨a12, k12, rfl, nb12, g12⟩
      have GB12 : Hid (Grew W0 W12) := GB11.out.trans g12
      have GW12 : Hid (Grew w W12) := GW11.out.trans g12
      have XA12 : Hid (Box W12 W6.heap.size [.slice a10 l2 k10, .int .i64 H2]) := XA11.out.grew g12
      have XB12 : Hid (Box W12 W7.heap.size [.slice a7 l1 k7, .int .i64 H1]) := XB11.out.grew g12
      have ND12 : Hid (NewRow W9.heap.size W12 (.slice a10 l2 k10) F2) := ND11.out.grew g12
      have hb12 : W7.heap.size < W11.heap.size := XB11.out.lt
      have NE12 : Hid (NewRow W11.heap.size W12 (.slice a12 l2 k12) F2) := nb12
      clear nb12 g12 e0 e1
      obtain ⟨W13, hW13⟩ : ∃ W13, (W12.setCell ⟨W7.heap.size, 0, none⟩ (.slice a12 l2 k12)).setCell ⟨W7.heap.size, 1, none⟩ (.int .i64 H2) = W13 := ⟨_, rfl⟩
      have NA13 : Hid (RowAt W13 (.slice a10 l2 k10) F2) := show RowAt _ _ _ by rw [← hW13]; exact ((ND12.out.setCell (a := ⟨W7.heap.size, 0, none⟩) hb10 _).setCell (a := ⟨W7.heap.size, 1, none⟩) hb10 _).1
      have GW13 : Hid (Grew w W13) := show Grew _ _ by rw [← hW13]; exact grew_set (grew_set GW12.out (by show w.heap.size ≤ W7.heap.size; omega) _) (by show w.heap.size ≤ W7.heap.size; omega) _
      have G13 : Hid (Grew W0 W13) := show Grew _ _ by rw [← hW13]; exact grew_set (grew_set GB12.out (Below.size G7.out) _) (Below.size G7.out) _
      have NB13 : Hid (RowAt W13 (.slice a12 l2 k12) F2) := show RowAt _ _ _ by rw [← hW13]; exact ((NE12.out.setCell (a := ⟨W7.heap.size, 0, none⟩) hb12 _).setCell (a := ⟨W7.heap.size, 1, none⟩) hb12 _).1
      have XA13 : Hid (Box W13 W6.heap.size [.slice a10 l2 k10, .int .i64 H2]) := show Box _ _ _ by rw [← hW13]; exact (XA12.out.other (by show W6.heap.size ≠ W7.heap.size; omega) _).other (by show W6.heap.size ≠ W7.heap.size; omega) _
      have XB13 : Hid (Box W13 W7.heap.size [.slice a12 l2 k12, .int .i64 H2]) := show Box _ _ _ by rw [← hW13]; exact (XB12.out.set 0 _).set 1 _
      have HW13 : Hid (_ = W13) := hW13
      clear hW13
      have y0 := XB12.out.c 0 rfl
      have y1 := XB12.out.c 1 rfl
      have yf := XB12.out.f
      go_upto_region 19 with fail
      rw [HW13.out]
      clear y0 y1 yf
      have x0 := XA13.out.c 0 rfl
      have x1 := XA13.out.c 1 rfl
      have y0 := XB13.out.c 0 rfl
      have y1 := XB13.out.c 1 rfl
      go_wp2_with fail
      refine (sameMem_any (.agg #[.slice a10 l2 k10, .int .i64 H2]) (.agg #[.slice a12 l2 k12, .int .i64 H2]) F2 H2 _ ⟨_, rfl, NA13.out⟩ ⟨_, rfl, NB13.out⟩).mono ?_
      rintro e W14 ⟨rfl, g14⟩
      have G14 : Hid (Grew W0 W14) := G13.out.trans g14
      have XA14 : Hid (Box W14 W6.heap.size [.slice a10 l2 k10, .int .i64 H2]) := XA13.out.grew g14
      have XB14 : Hid (Box W14 W7.heap.size [.slice a12 l2 k12, .int .i64 H2]) := XB13.out.grew g14
      clear g14 x0 x1 y0 y1
      have e0 := (X0.out.grew G14.out).c 0 rfl
      have e1 := (X0.out.grew G14.out).c 1 rfl
      go_wp2_with fail
      refine (c9 _ (HG0.out.trans G14.out)).mono ?_
      rintro e W15 ⟨a15, k15, rfl, nb15, g15⟩
      have G15 : Hid (Grew W0 W15) := G14.out.trans g15
      have XA15 : Hid (Box W15 W6.heap.size [.slice a10 l2 k10, .int .i64 H2]) := XA14.out.grew g15
      have XB15 : Hid (Box W15 W7.heap.size [.slice a12 l2 k12, .int .i64 H2]) := XB14.out.grew g15
      have ND15 : Hid (NewRow W14.heap.size W15 (.slice a15 l3 k15) F3) := nb15
      have ha15 : W6.heap.size < W14.heap.size := XA14.out.lt
      have hb15 : W7.heap.size < W14.heap.size := XB14.out.lt
      clear nb15 g15 e0 e1
      obtain ⟨W16, hW16⟩ : ∃ W16, (W15.setCell ⟨W6.heap.size, 0, none⟩ (.slice a15 l3 k15)).setCell ⟨W6.heap.size, 1, none⟩ (.int .i64 H3) = W16 := ⟨_, rfl⟩
      have ND16 : Hid (NewRow W14.heap.size W16 (.slice a15 l3 k15) F3) := show NewRow _ _ _ _ by rw [← hW16]; exact (ND15.out.setCell (a := ⟨W6.heap.size, 0, none⟩) ha15 _).setCell (a := ⟨W6.heap.size, 1, none⟩) ha15 _
      have XA16 : Hid (Box W16 W6.heap.size [.slice a15 l3 k15, .int .i64 H3]) := show Box _ _ _ by rw [← hW16]; exact (XA15.out.set 0 _).set 1 _
      have XB16 : Hid (Box W16 W7.heap.size [.slice a12 l2 k12, .int .i64 H2]) := show Box _ _ _ by rw [← hW16]; exact (XB15.out.other (by show W7.heap.size ≠ W6.heap.size; omega) _).other (by show W7.heap.size ≠ W6.heap.size; omega) _
      have X016 : Hid (Box W16 w.heap.size [.slice a n c, .int .i64 h]) := show Box _ _ _ by rw [← hW16]; exact ((X0.out.grew G15.out).other (by show w.heap.size ≠ W6.heap.size; omega) _).other (by show w.heap.size ≠ W6.heap.size; omega) _
      have GW16 : Hid (Grew w W16) := show Grew _ _ by rw [← hW16]; exact grew_set (grew_set (HG0.out.trans G15.out) (by show w.heap.size ≤ W6.heap.size; omega) _) (by show w.heap.size ≤ W6.heap.size; omega) _
      have GB16 : Hid (Grew W0 W16) := show Grew _ _ by rw [← hW16]; exact grew_set (grew_set G15.out (Below.size G6.out) _) (Below.size G6.out) _
      have HW16 : Hid (_ = W16) := hW16
      clear hW16
      have x0 := XA15.out.c 0 rfl
      have x1 := XA15.out.c 1 rfl
      have xf := XA15.out.f
      go_upto_region 22 with fail
      rw [HW16.out]
      clear x0 x1 xf
      have e0 := X016.out.c 0 rfl
      have e1 := X016.out.c 1 rfl
      go_wp2_with fail
      refine (c10 _ GW16.out).mono ?_
      rintro e W17 ⟨a17, k17, rfl, nb17, g17⟩
      have GB17 : Hid (Grew W0 W17) := GB16.out.trans g17
      have GW17 : Hid (Grew w W17) := GW16.out.trans g17
      have XA17 : Hid (Box W17 W6.heap.size [.slice a15 l3 k15, .int .i64 H3]) := XA16.out.grew g17
      have XB17 : Hid (Box W17 W7.heap.size [.slice a12 l2 k12, .int .i64 H2]) := XB16.out.grew g17
      have ND17 : Hid (NewRow W14.heap.size W17 (.slice a15 l3 k15) F3) := ND16.out.grew g17
      have hb17 : W7.heap.size < W16.heap.size := XB16.out.lt
      have NE17 : Hid (NewRow W16.heap.size W17 (.slice a17 l3 k17) F3 ∨ (a17 = a ∧ k17 = c ∧ F3 = fs)) := nb17
      clear nb17 g17 e0 e1
      obtain ⟨W18, hW18⟩ : ∃ W18, (W17.setCell ⟨W7.heap.size, 0, none⟩ (.slice a17 l3 k17)).setCell ⟨W7.heap.size, 1, none⟩ (.int .i64 H3) = W18 := ⟨_, rfl⟩
      have NA18 : Hid (RowAt W18 (.slice a15 l3 k15) F3) := show RowAt _ _ _ by rw [← hW18]; exact ((ND17.out.setCell (a := ⟨W7.heap.size, 0, none⟩) hb15 _).setCell (a := ⟨W7.heap.size, 1, none⟩) hb15 _).1
      have GW18 : Hid (Grew w W18) := show Grew _ _ by rw [← hW18]; exact grew_set (grew_set GW17.out (by show w.heap.size ≤ W7.heap.size; omega) _) (by show w.heap.size ≤ W7.heap.size; omega) _
      have G18 : Hid (Grew W0 W18) := show Grew _ _ by rw [← hW18]; exact grew_set (grew_set GB17.out (Below.size G7.out) _) (Below.size G7.out) _
      have NB18 : Hid (RowAt W18 (.slice a17 l3 k17) F3) := show RowAt _ _ _ by
        rcases NE17.out with h1 | ⟨h1, h2, h3⟩
        · rw [← hW18]
          exact ((h1.setCell (a := ⟨W7.heap.size, 0, none⟩) hb17 _).setCell (a := ⟨W7.heap.size, 1, none⟩) hb17 _).1
        · have h4 : l3 = n := by rw [← L3.out, h3, HN.out]
          rw [h1, h2, h3, h4]
          exact HV.out.grew GW18.out
      have XA18 : Hid (Box W18 W6.heap.size [.slice a15 l3 k15, .int .i64 H3]) := show Box _ _ _ by rw [← hW18]; exact (XA17.out.other (by show W6.heap.size ≠ W7.heap.size; omega) _).other (by show W6.heap.size ≠ W7.heap.size; omega) _
      have XB18 : Hid (Box W18 W7.heap.size [.slice a17 l3 k17, .int .i64 H3]) := show Box _ _ _ by rw [← hW18]; exact (XB17.out.set 0 _).set 1 _
      have HW18 : Hid (_ = W18) := hW18
      clear hW18
      have y0 := XB17.out.c 0 rfl
      have y1 := XB17.out.c 1 rfl
      have yf := XB17.out.f
      go_upto_region 23 with fail
      rw [HW18.out]
      clear y0 y1 yf
      have x0 := XA18.out.c 0 rfl
      have x1 := XA18.out.c 1 rfl
      have y0 := XB18.out.c 0 rfl
      have y1 := XB18.out.c 1 rfl
      go_wp2_with fail
      refine (sameMem_any (.agg #[.slice a15 l3 k15, .int .i64 H3]) (.agg #[.slice a17 l3 k17, .int .i64 H3]) F3 H3 _ ⟨_, rfl, NA18.out⟩ ⟨_, rfl, NB18.out⟩).mono ?_
      rintro e W19 ⟨rfl, g19⟩
      have G19 : Hid (Grew W0 W19) := G18.out.trans g19
      have XA19 : Hid (Box W19 W6.heap.size [.slice a15 l3 k15, .int .i64 H3]) := XA18.out.grew g19
      have XB19 : Hid (Box W19 W7.heap.size [.slice a17 l3 k17, .int .i64 H3]) := XB18.out.grew g19
      clear g19 x0 x1 y0 y1
      go_wp2
      go_ret
      exact ⟨rfl, HG0.out.trans G19.out⟩

end Go.Proofs.Ytbcaagmnmaonbab
