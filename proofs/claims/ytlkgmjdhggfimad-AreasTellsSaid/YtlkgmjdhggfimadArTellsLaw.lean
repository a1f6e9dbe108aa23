/- Law AreasTells: the program tells what the document asks. -/
import Derived.Test.YtlkgmjdhggfimadArOps
import Derived.Test.YtlkgmjdhggfimadArAlive
import Derived.Test.YtlkgmjdhggfimadArSame
import Derived.Test.YtlkgmjdhggfimadArRefMap
import Derived.Test.YtlkgmjdhggfimadArRefUn
namespace Go.Proofs.Ytlkgmjdhggfimad
open Go.RowKit

theorem field_some (x : On) (w : World) : (Instr.field 48 (.agg #[.bool x.is, .bool x.rd, .bool x.wr, .bool x.sh, .int .i64 x.file, .int .i64 x.page]) 0).run Try.prog w = .ok (.bool x.is) w := by
  simp only [Instr.field, Sem.run_bind, run_underlying Try.underlying48, Result.andThen_ok, asAgg]
  exact run_part_plain w (by simp [Program.plainKey, Try.underlying4]) rfl
theorem finds_none {l : List Ar} {s z : Int} (hl : CanP none l) (hs : s < 0 ∨ 64 ≤ s) (h : FindsZ l s z) : z = -1 := by
  rcases h with ⟨k, a, rfl, h1, h2⟩ | ⟨rfl, h1⟩
  · have hk := hl.all a (List.mem_of_getElem? h1)
    unfold ArOk at hk
    have := inZ_iff.1 h2
    omega
  · rfl

set_option maxRecDepth 100000 in
set_option maxHeartbeats 8000000 in
theorem tellsLaw_any (v : Value) (l : List Ar) (a : Ar) (s n : Int) (r u : Bool) (w : World) (hv : RowAt arE w v l) (hcap : Cap v) (hs : s ≤ 9223372036854775807) (hn : n ≤ 9223372036854775807) :
    Calls Try.prog 4 #[v, .agg #[.int .i64 a.fr, .int .i64 a.to, .bool a.rd, .bool a.wr, .bool a.sh, .int .i64 a.file, .int .i64 a.base], .int .i64 s, .int .i64 n, .bool r, .bool u] w fun e w' => e = .returned (.bool true) ∧ Grew w w' := by
  have HV : Hid (RowAt arE w v l) := hv
  have hfe := field_err
  have hfa := fun W => fa_eq (wrL l).1 (wrL l).1 (wrL l).2 (wrL l).2 W
  rw [faEqB_self] at hfa
  have HW : Hid (∀ W, Grew w W → Calls Try.prog 12 #[v] W fun e w' => e = .returned (.agg #[.int .i64 (wrL l).1, .int .i64 (wrL l).2]) ∧ Grew W w') := fun W hW => wrongAr_any v l W (HV.out.grew hW)
  have HRW : Hid (∀ W, Grew w W → Calls Try.prog 13 #[v] W fun e w' => e = .returned (.agg #[.int .i64 (wrL l).1, .int .i64 (wrL l).2]) ∧ Grew W w') := fun W hW => refWrongAr_any v l W (HV.out.grew hW) hcap
  have HM : Hid (∀ W, Grew w W → Calls Try.prog 14 #[v, .agg #[.int .i64 a.fr, .int .i64 a.to, .bool a.rd, .bool a.wr, .bool a.sh, .int .i64 a.file, .int .i64 a.base]] W (Gives (mapA l a) W)) := fun W hW => map_any v l a W (HV.out.grew hW)
  have HRM : Hid (∀ W, Grew w W → Calls Try.prog 15 #[v, .agg #[.int .i64 a.fr, .int .i64 a.to, .bool a.rd, .bool a.wr, .bool a.sh, .int .i64 a.file, .int .i64 a.base]] W (Gives (mapA l a) W)) := fun W hW => refMap_any v l a W (HV.out.grew hW) hcap
  have HU : Hid (∀ W, Grew w W → Calls Try.prog 17 #[v, .int .i64 s, .int .i64 n] W (Gives (unA l s n) W)) := fun W hW => unmap_any v l s n W (HV.out.grew hW) hs
  have HRU : Hid (∀ W, Grew w W → Calls Try.prog 18 #[v, .int .i64 s, .int .i64 n] W (Gives (unA l s n) W)) := fun W hW => refUnmap_any v l s n W (HV.out.grew hW) hcap hs
  have HP : Hid (∀ W, Grew w W → Calls Try.prog 19 #[v, .int .i64 s, .int .i64 n, .bool r, .bool u] W (Gives (prA l s n r u) W)) := fun W hW => protect_any v l s n r u W (HV.out.grew hW) hs
  have HRP : Hid (∀ W, Grew w W → Calls Try.prog 20 #[v, .int .i64 s, .int .i64 n, .bool r, .bool u] W (Gives (prA l s n r u) W)) := fun W hW => refProtect_any v l s n r u W (HV.out.grew hW) hcap hs
  have HFI : Hid (∀ W, Grew w W → Calls Try.prog 21 #[v, .int .i64 s] W fun e w' => (∃ z : Int, e = .returned (.int .i64 z) ∧ FindsZ l s z) ∧ Grew W w') := fun W hW => find_any v l s W (HV.out.grew hW)
  have HRO : Hid ((wrL l).1 = 0 → ∀ W, Grew w W → Calls Try.prog 23 #[v, .int .i64 n] W fun e w' => e = .returned (.int .i64 (roomL l n)) ∧ Grew W w') := fun hz W hW => room_any v l n W (HV.out.grew hW) hz hn
  have HRR : Hid ((wrL l).1 = 0 → ∀ W, Grew w W → Calls Try.prog 24 #[v, .int .i64 n] W fun e w' => e = .returned (.int .i64 (roomL l n)) ∧ Grew W w') := fun hz W hW => refRoom_any v l n W (HV.out.grew hW) (wrL_zero.1 hz).2
  have HON : Hid ((wrL l).1 = 0 → ∀ W, Grew w W → Calls Try.prog 22 #[v] W fun e w' => e = .returned (.agg (cellsO (tab (onAt l))).toArray) ∧ Grew W w') := fun hz W hW => refOnes_any v l W (HV.out.grew hW) (wrL_zero.1 hz).2.lies
  have HCAN : Hid ((wrL l).1 = 0 → CanP none l) := fun hz => (wrL_zero.1 hz).2
  clear hv hcap
  generalize mapA l a = N1 at HM HRM
  generalize unA l s n = N2 at HU HRU
  generalize prA l s n r u = N3 at HP HRP
  generalize roomL l n = R at HRO HRR
  obtain ⟨L1, E1⟩ := N1
  obtain ⟨L2, E2⟩ := N2
  obtain ⟨L3, E3⟩ := N3
  generalize (wrL l).2 = I at HW HRW hfa
  generalize (wrL l).1 = E at *
  have n1 : (E1 != E1) = false := by simp
  have n2 : (E2 != E2) = false := by simp
  have n3 : (E3 != E3) = false := by simp
  have nR : (R == R) = true := by simp
  obtain ⟨W0, hW0⟩ : ∃ W0, w.alloc (.cells #[.int .i64 a.fr, .int .i64 a.to, .bool a.rd, .bool a.wr, .bool a.sh, .int .i64 a.file, .int .i64 a.base] 37) = W0 := ⟨_, rfl⟩
  have G0 : Hid (Grew w W0) := show Grew w W0 by rw [← hW0]; exact grew_alloc _ _
  have X0 : Hid (Box W0 w.heap.size [.int .i64 a.fr, .int .i64 a.to, .bool a.rd, .bool a.wr, .bool a.sh, .int .i64 a.file, .int .i64 a.base]) := show Box _ _ _ by rw [← hW0]; exact Box.top w _ _ rfl
  have HW0 : Hid (_ = W0) := hW0
  clear hW0
  by_cases hz : E = 0
  case neg =>
    have hzb : (E != 0) = true := by simp [hz]
    clear hz
    go_enter Try.func4, Try.ntmps4
    go_upto_region 1 with fail
    rw [HW0.out]
    go_wp2_with fail
    refine (HW.out W0 G0.out).mono ?_
    rintro e W1 ⟨rfl, g⟩
    have G1 : Hid (Grew w W1) := G0.out.trans g
    have X1 : Hid (Box W1 w.heap.size [.int .i64 a.fr, .int .i64 a.to, .bool a.rd, .bool a.wr, .bool a.sh, .int .i64 a.file, .int .i64 a.base]) := X0.out.grew g
    clear g
    go_wp2_with fail
    refine (HRW.out W1 G1.out).mono ?_
    rintro e W2 ⟨rfl, g⟩
    have G2 : Hid (Grew w W2) := G1.out.trans g
    have X2 : Hid (Box W2 w.heap.size [.int .i64 a.fr, .int .i64 a.to, .bool a.rd, .bool a.wr, .bool a.sh, .int .i64 a.file, .int .i64 a.base]) := X1.out.grew g
    clear g
    go_wp2_with (refine wp_loadAll rfl 37 (.tmp 7) rfl w.heap.size rfl X2.out Try.underlying37 rfl Try.sizeArea ?_)
    refine (HM.out W2 G2.out).mono ?_
    intro e W3 hgv
    obtain ⟨xa, xc, rfl, ow, g⟩ := hgv.slice
    have G3 : Hid (Grew w W3) := G2.out.trans g
    have X3 : Hid (Box W3 w.heap.size [.int .i64 a.fr, .int .i64 a.to, .bool a.rd, .bool a.wr, .bool a.sh, .int .i64 a.file, .int .i64 a.base]) := X2.out.grew g
    have Rx3 : Hid (RowAt arE W3 (.slice xa L1.length xc) L1) := ow.at
    clear g ow hgv
    go_wp2_with (refine wp_loadAll rfl 37 (.tmp 7) rfl w.heap.size rfl X3.out Try.underlying37 rfl Try.sizeArea ?_)
    refine (HRM.out W3 G3.out).mono ?_
    intro e W4 hgv
    obtain ⟨ya, yc, rfl, ow, g⟩ := hgv.slice
    have G4 : Hid (Grew w W4) := G3.out.trans g
    have X4 : Hid (Box W4 w.heap.size [.int .i64 a.fr, .int .i64 a.to, .bool a.rd, .bool a.wr, .bool a.sh, .int .i64 a.file, .int .i64 a.base]) := X3.out.grew g
    have Rx4 : Hid (RowAt arE W4 (.slice xa L1.length xc) L1) := Rx3.out.grew g
    have Ry4 : Hid (RowAt arE W4 (.slice ya L1.length yc) L1) := ow.at
    clear g ow hgv
    go_wp2_with fail
    refine (sameAr_any _ _ L1 W4 Rx4.out Ry4.out).mono ?_
    rintro e W5 ⟨rfl, g⟩
    have G5 : Hid (Grew w W5) := G4.out.trans g
    have X5 : Hid (Box W5 w.heap.size [.int .i64 a.fr, .int .i64 a.to, .bool a.rd, .bool a.wr, .bool a.sh, .int .i64 a.file, .int .i64 a.base]) := X4.out.grew g
    clear g
    go_wp2_with fail
    refine (HU.out W5 G5.out).mono ?_
    intro e W6 hgv
    obtain ⟨pa, pc, rfl, ow, g⟩ := hgv.slice
    have G6 : Hid (Grew w W6) := G5.out.trans g
    have X6 : Hid (Box W6 w.heap.size [.int .i64 a.fr, .int .i64 a.to, .bool a.rd, .bool a.wr, .bool a.sh, .int .i64 a.file, .int .i64 a.base]) := X5.out.grew g
    have Rp6 : Hid (RowAt arE W6 (.slice pa L2.length pc) L2) := ow.at
    clear g ow hgv
    go_wp2_with fail
    refine (HRU.out W6 G6.out).mono ?_
    intro e W7 hgv
    obtain ⟨qa, qc, rfl, ow, g⟩ := hgv.slice
    have G7 : Hid (Grew w W7) := G6.out.trans g
    have X7 : Hid (Box W7 w.heap.size [.int .i64 a.fr, .int .i64 a.to, .bool a.rd, .bool a.wr, .bool a.sh, .int .i64 a.file, .int .i64 a.base]) := X6.out.grew g
    have Rp7 : Hid (RowAt arE W7 (.slice pa L2.length pc) L2) := Rp6.out.grew g
    have Rq7 : Hid (RowAt arE W7 (.slice qa L2.length qc) L2) := ow.at
    clear g ow hgv
    go_wp2_with fail
    refine (sameAr_any _ _ L2 W7 Rp7.out Rq7.out).mono ?_
    rintro e W8 ⟨rfl, g⟩
    have G8 : Hid (Grew w W8) := G7.out.trans g
    have X8 : Hid (Box W8 w.heap.size [.int .i64 a.fr, .int .i64 a.to, .bool a.rd, .bool a.wr, .bool a.sh, .int .i64 a.file, .int .i64 a.base]) := X7.out.grew g
    clear g
    go_wp2_with fail
    refine (HP.out W8 G8.out).mono ?_
    intro e W9 hgv
    obtain ⟨ka, kc, rfl, ow, g⟩ := hgv.slice
    have G9 : Hid (Grew w W9) := G8.out.trans g
    have X9 : Hid (Box W9 w.heap.size [.int .i64 a.fr, .int .i64 a.to, .bool a.rd, .bool a.wr, .bool a.sh, .int .i64 a.file, .int .i64 a.base]) := X8.out.grew g
    have Rk9 : Hid (RowAt arE W9 (.slice ka L3.length kc) L3) := ow.at
    clear g ow hgv
    go_wp2_with fail
    refine (HRP.out W9 G9.out).mono ?_
    intro e W10 hgv
    obtain ⟨ta, tc, rfl, ow, g⟩ := hgv.slice
    have G10 : Hid (Grew w W10) := G9.out.trans g
    have X10 : Hid (Box W10 w.heap.size [.int .i64 a.fr, .int .i64 a.to, .bool a.rd, .bool a.wr, .bool a.sh, .int .i64 a.file, .int .i64 a.base]) := X9.out.grew g
    have Rk10 : Hid (RowAt arE W10 (.slice ka L3.length kc) L3) := Rk9.out.grew g
    have Rt10 : Hid (RowAt arE W10 (.slice ta L3.length tc) L3) := ow.at
    clear g ow hgv
    go_wp2_with fail
    refine (sameAr_any _ _ L3 W10 Rk10.out Rt10.out).mono ?_
    rintro e W11 ⟨rfl, g⟩
    have G11 : Hid (Grew w W11) := G10.out.trans g
    have X11 : Hid (Box W11 w.heap.size [.int .i64 a.fr, .int .i64 a.to, .bool a.rd, .bool a.wr, .bool a.sh, .int .i64 a.file, .int .i64 a.base]) := X10.out.grew g
    clear g
    go_wp2_with fail
    refine (HRW.out W11 G11.out).mono ?_
    rintro e W12 ⟨rfl, g⟩
    have G12 : Hid (Grew w W12) := G11.out.trans g
    have X12 : Hid (Box W12 w.heap.size [.int .i64 a.fr, .int .i64 a.to, .bool a.rd, .bool a.wr, .bool a.sh, .int .i64 a.file, .int .i64 a.base]) := X11.out.grew g
    clear g
    go_wp2
    go_ret
    exact ⟨rfl, G12.out⟩
  case pos =>
  subst hz
  have HCAN' : Hid (CanP none l) := HCAN.out rfl
  have HRO' : Hid _ := HRO.out rfl
  have HRR' : Hid _ := HRR.out rfl
  have HON' : Hid _ := HON.out rfl
  clear HCAN HRO HRR HON
  by_cases c0 : s < 0
  · have HZN : Hid (∀ z, FindsZ l s z → z = -1) := fun z h => finds_none HCAN'.out (by omega) h
    have c0n : ¬ 0 ≤ s := by omega
    clear c0
    have hm1 : (false == false) = true := rfl
    go_enter Try.func4, Try.ntmps4
    go_upto_region 1 with fail
    rw [HW0.out]
    go_wp2_with fail
    refine (HW.out W0 G0.out).mono ?_
    rintro e W1 ⟨rfl, g⟩
    have G1 : Hid (Grew w W1) := G0.out.trans g
    have X1 : Hid (Box W1 w.heap.size [.int .i64 a.fr, .int .i64 a.to, .bool a.rd, .bool a.wr, .bool a.sh, .int .i64 a.file, .int .i64 a.base]) := X0.out.grew g
    clear g
    go_wp2_with fail
    refine (HRW.out W1 G1.out).mono ?_
    rintro e W2 ⟨rfl, g⟩
    have G2 : Hid (Grew w W2) := G1.out.trans g
    have X2 : Hid (Box W2 w.heap.size [.int .i64 a.fr, .int .i64 a.to, .bool a.rd, .bool a.wr, .bool a.sh, .int .i64 a.file, .int .i64 a.base]) := X1.out.grew g
    clear g
    go_wp2_with (refine wp_loadAll rfl 37 (.tmp 7) rfl w.heap.size rfl X2.out Try.underlying37 rfl Try.sizeArea ?_)
    refine (HM.out W2 G2.out).mono ?_
    intro e W3 hgv
    obtain ⟨xa, xc, rfl, ow, g⟩ := hgv.slice
    have G3 : Hid (Grew w W3) := G2.out.trans g
    have X3 : Hid (Box W3 w.heap.size [.int .i64 a.fr, .int .i64 a.to, .bool a.rd, .bool a.wr, .bool a.sh, .int .i64 a.file, .int .i64 a.base]) := X2.out.grew g
    have Rx3 : Hid (RowAt arE W3 (.slice xa L1.length xc) L1) := ow.at
    clear g ow hgv
    go_wp2_with (refine wp_loadAll rfl 37 (.tmp 7) rfl w.heap.size rfl X3.out Try.underlying37 rfl Try.sizeArea ?_)
    refine (HRM.out W3 G3.out).mono ?_
    intro e W4 hgv
    obtain ⟨ya, yc, rfl, ow, g⟩ := hgv.slice
    have G4 : Hid (Grew w W4) := G3.out.trans g
    have X4 : Hid (Box W4 w.heap.size [.int .i64 a.fr, .int .i64 a.to, .bool a.rd, .bool a.wr, .bool a.sh, .int .i64 a.file, .int .i64 a.base]) := X3.out.grew g
    have Rx4 : Hid (RowAt arE W4 (.slice xa L1.length xc) L1) := Rx3.out.grew g
    have Ry4 : Hid (RowAt arE W4 (.slice ya L1.length yc) L1) := ow.at
    clear g ow hgv
    go_wp2_with fail
    refine (sameAr_any _ _ L1 W4 Rx4.out Ry4.out).mono ?_
    rintro e W5 ⟨rfl, g⟩
    have G5 : Hid (Grew w W5) := G4.out.trans g
    have X5 : Hid (Box W5 w.heap.size [.int .i64 a.fr, .int .i64 a.to, .bool a.rd, .bool a.wr, .bool a.sh, .int .i64 a.file, .int .i64 a.base]) := X4.out.grew g
    clear g
    go_wp2_with fail
    refine (HU.out W5 G5.out).mono ?_
    intro e W6 hgv
    obtain ⟨pa, pc, rfl, ow, g⟩ := hgv.slice
    have G6 : Hid (Grew w W6) := G5.out.trans g
    have X6 : Hid (Box W6 w.heap.size [.int .i64 a.fr, .int .i64 a.to, .bool a.rd, .bool a.wr, .bool a.sh, .int .i64 a.file, .int .i64 a.base]) := X5.out.grew g
    have Rp6 : Hid (RowAt arE W6 (.slice pa L2.length pc) L2) := ow.at
    clear g ow hgv
    go_wp2_with fail
    refine (HRU.out W6 G6.out).mono ?_
    intro e W7 hgv
    obtain ⟨qa, qc, rfl, ow, g⟩ := hgv.slice
    have G7 : Hid (Grew w W7) := G6.out.trans g
    have X7 : Hid (Box W7 w.heap.size [.int .i64 a.fr, .int .i64 a.to, .bool a.rd, .bool a.wr, .bool a.sh, .int .i64 a.file, .int .i64 a.base]) := X6.out.grew g
    have Rp7 : Hid (RowAt arE W7 (.slice pa L2.length pc) L2) := Rp6.out.grew g
    have Rq7 : Hid (RowAt arE W7 (.slice qa L2.length qc) L2) := ow.at
    clear g ow hgv
    go_wp2_with fail
    refine (sameAr_any _ _ L2 W7 Rp7.out Rq7.out).mono ?_
    rintro e W8 ⟨rfl, g⟩
    have G8 : Hid (Grew w W8) := G7.out.trans g
    have X8 : Hid (Box W8 w.heap.size [.int .i64 a.fr, .int .i64 a.to, .bool a.rd, .bool a.wr, .bool a.sh, .int .i64 a.file, .int .i64 a.base]) := X7.out.grew g
    clear g
    go_wp2_with fail
    refine (HP.out W8 G8.out).mono ?_
    intro e W9 hgv
    obtain ⟨ka, kc, rfl, ow, g⟩ := hgv.slice
    have G9 : Hid (Grew w W9) := G8.out.trans g
    have X9 : Hid (Box W9 w.heap.size [.int .i64 a.fr, .int .i64 a.to, .bool a.rd, .bool a.wr, .bool a.sh, .int .i64 a.file, .int .i64 a.base]) := X8.out.grew g
    have Rk9 : Hid (RowAt arE W9 (.slice ka L3.length kc) L3) := ow.at
    clear g ow hgv
    go_wp2_with fail
    refine (HRP.out W9 G9.out).mono ?_
    intro e W10 hgv
    obtain ⟨ta, tc, rfl, ow, g⟩ := hgv.slice
    have G10 : Hid (Grew w W10) := G9.out.trans g
    have X10 : Hid (Box W10 w.heap.size [.int .i64 a.fr, .int .i64 a.to, .bool a.rd, .bool a.wr, .bool a.sh, .int .i64 a.file, .int .i64 a.base]) := X9.out.grew g
    have Rk10 : Hid (RowAt arE W10 (.slice ka L3.length kc) L3) := Rk9.out.grew g
    have Rt10 : Hid (RowAt arE W10 (.slice ta L3.length tc) L3) := ow.at
    clear g ow hgv
    go_wp2_with fail
    refine (sameAr_any _ _ L3 W10 Rk10.out Rt10.out).mono ?_
    rintro e W11 ⟨rfl, g⟩
    have G11 : Hid (Grew w W11) := G10.out.trans g
    have X11 : Hid (Box W11 w.heap.size [.int .i64 a.fr, .int .i64 a.to, .bool a.rd, .bool a.wr, .bool a.sh, .int .i64 a.file, .int .i64 a.base]) := X10.out.grew g
    clear g
    go_wp2_with fail
    refine (HRW.out W11 G11.out).mono ?_
    rintro e W12 ⟨rfl, g⟩
    have G12 : Hid (Grew w W12) := G11.out.trans g
    have X12 : Hid (Box W12 w.heap.size [.int .i64 a.fr, .int .i64 a.to, .bool a.rd, .bool a.wr, .bool a.sh, .int .i64 a.file, .int .i64 a.base]) := X11.out.grew g
    clear g
    go_wp2_with fail
    refine (HFI.out W12 G12.out).mono ?_
    rintro e W13 ⟨⟨z, rfl, hz⟩, g⟩
    obtain rfl := HZN.out z hz
    have G13 : Hid (Grew w W13) := G12.out.trans g
    clear g hz
    go_wp2_with fail
    refine (HRO'.out W13 G13.out).mono ?_
    rintro e W14 ⟨rfl, g⟩
    have G14 : Hid (Grew w W14) := G13.out.trans g
    clear g
    go_wp2_with fail
    refine (HRR'.out W14 G14.out).mono ?_
    rintro e W15 ⟨rfl, g⟩
    have G15 : Hid (Grew w W15) := G14.out.trans g
    clear g
    go_wp2
    go_ret
    exact ⟨rfl, G15.out⟩
  by_cases c1 : 64 ≤ s
  · have HZN : Hid (∀ z, FindsZ l s z → z = -1) := fun z h => finds_none HCAN'.out (by omega) h
    have c1g : 0 ≤ s := by omega
    have c1n : ¬ s < 64 := by omega
    clear c1
    have hm1 : (false == false) = true := rfl
    go_enter Try.func4, Try.ntmps4
    go_upto_region 1 with fail
    rw [HW0.out]
    go_wp2_with fail
    refine (HW.out W0 G0.out).mono ?_
    rintro e W1 ⟨rfl, g⟩
    have G1 : Hid (Grew w W1) := G0.out.trans g
    have X1 : Hid (Box W1 w.heap.size [.int .i64 a.fr, .int .i64 a.to, .bool a.rd, .bool a.wr, .bool a.sh, .int .i64 a.file, .int .i64 a.base]) := X0.out.grew g
    clear g
    go_wp2_with fail
    refine (HRW.out W1 G1.out).mono ?_
    rintro e W2 ⟨rfl, g⟩
    have G2 : Hid (Grew w W2) := G1.out.trans g
    have X2 : Hid (Box W2 w.heap.size [.int .i64 a.fr, .int .i64 a.to, .bool a.rd, .bool a.wr, .bool a.sh, .int .i64 a.file, .int .i64 a.base]) := X1.out.grew g
    clear g
    go_wp2_with (refine wp_loadAll rfl 37 (.tmp 7) rfl w.heap.size rfl X2.out Try.underlying37 rfl Try.sizeArea ?_)
    refine (HM.out W2 G2.out).mono ?_
    intro e W3 hgv
    obtain ⟨xa, xc, rfl, ow, g⟩ := hgv.slice
    have G3 : Hid (Grew w W3) := G2.out.trans g
    have X3 : Hid (Box W3 w.heap.size [.int .i64 a.fr, .int .i64 a.to, .bool a.rd, .bool a.wr, .bool a.sh, .int .i64 a.file, .int .i64 a.base]) := X2.out.grew g
    have Rx3 : Hid (RowAt arE W3 (.slice xa L1.length xc) L1) := ow.at
    clear g ow hgv
    go_wp2_with (refine wp_loadAll rfl 37 (.tmp 7) rfl w.heap.size rfl X3.out Try.underlying37 rfl Try.sizeArea ?_)
    refine (HRM.out W3 G3.out).mono ?_
    intro e W4 hgv
    obtain ⟨ya, yc, rfl, ow, g⟩ := hgv.slice
    have G4 : Hid (Grew w W4) := G3.out.trans g
    have X4 : Hid (Box W4 w.heap.size [.int .i64 a.fr, .int .i64 a.to, .bool a.rd, .bool a.wr, .bool a.sh, .int .i64 a.file, .int .i64 a.base]) := X3.out.grew g
    have Rx4 : Hid (RowAt arE W4 (.slice xa L1.length xc) L1) := Rx3.out.grew g
    have Ry4 : Hid (RowAt arE W4 (.slice ya L1.length yc) L1) := ow.at
    clear g ow hgv
    go_wp2_with fail
    refine (sameAr_any _ _ L1 W4 Rx4.out Ry4.out).mono ?_
    rintro e W5 ⟨rfl, g⟩
    have G5 : Hid (Grew w W5) := G4.out.trans g
    have X5 : Hid (Box W5 w.heap.size [.int .i64 a.fr, .int .i64 a.to, .bool a.rd, .bool a.wr, .bool a.sh, .int .i64 a.file, .int .i64 a.base]) := X4.out.grew g
    clear g
    go_wp2_with fail
    refine (HU.out W5 G5.out).mono ?_
    intro e W6 hgv
    obtain ⟨pa, pc, rfl, ow, g⟩ := hgv.slice
    have G6 : Hid (Grew w W6) := G5.out.trans g
    have X6 : Hid (Box W6 w.heap.size [.int .i64 a.fr, .int .i64 a.to, .bool a.rd, .bool a.wr, .bool a.sh, .int .i64 a.file, .int .i64 a.base]) := X5.out.grew g
    have Rp6 : Hid (RowAt arE W6 (.slice pa L2.length pc) L2) := ow.at
    clear g ow hgv
    go_wp2_with fail
    refine (HRU.out W6 G6.out).mono ?_
    intro e W7 hgv
    obtain ⟨qa, qc, rfl, ow, g⟩ := hgv.slice
    have G7 : Hid (Grew w W7) := G6.out.trans g
    have X7 : Hid (Box W7 w.heap.size [.int .i64 a.fr, .int .i64 a.to, .bool a.rd, .bool a.wr, .bool a.sh, .int .i64 a.file, .int .i64 a.base]) := X6.out.grew g
    have Rp7 : Hid (RowAt arE W7 (.slice pa L2.length pc) L2) := Rp6.out.grew g
    have Rq7 : Hid (RowAt arE W7 (.slice qa L2.length qc) L2) := ow.at
    clear g ow hgv
    go_wp2_with fail
    refine (sameAr_any _ _ L2 W7 Rp7.out Rq7.out).mono ?_
    rintro e W8 ⟨rfl, g⟩
    have G8 : Hid (Grew w W8) := G7.out.trans g
    have X8 : Hid (Box W8 w.heap.size [.int .i64 a.fr, .int .i64 a.to, .bool a.rd, .bool a.wr, .bool a.sh, .int .i64 a.file, .int .i64 a.base]) := X7.out.grew g
    clear g
    go_wp2_with fail
    refine (HP.out W8 G8.out).mono ?_
    intro e W9 hgv
    obtain ⟨ka, kc, rfl, ow, g⟩ := hgv.slice
    have G9 : Hid (Grew w W9) := G8.out.trans g
    have X9 : Hid (Box W9 w.heap.size [.int .i64 a.fr, .int .i64 a.to, .bool a.rd, .bool a.wr, .bool a.sh, .int .i64 a.file, .int .i64 a.base]) := X8.out.grew g
    have Rk9 : Hid (RowAt arE W9 (.slice ka L3.length kc) L3) := ow.at
    clear g ow hgv
    go_wp2_with fail
    refine (HRP.out W9 G9.out).mono ?_
    intro e W10 hgv
    obtain ⟨ta, tc, rfl, ow, g⟩ := hgv.slice
    have G10 : Hid (Grew w W10) := G9.out.trans g
    have X10 : Hid (Box W10 w.heap.size [.int .i64 a.fr, .int .i64 a.to, .bool a.rd, .bool a.wr, .bool a.sh, .int .i64 a.file, .int .i64 a.base]) := X9.out.grew g
    have Rk10 : Hid (RowAt arE W10 (.slice ka L3.length kc) L3) := Rk9.out.grew g
    have Rt10 : Hid (RowAt arE W10 (.slice ta L3.length tc) L3) := ow.at
    clear g ow hgv
    go_wp2_with fail
    refine (sameAr_any _ _ L3 W10 Rk10.out Rt10.out).mono ?_
    rintro e W11 ⟨rfl, g⟩
    have G11 : Hid (Grew w W11) := G10.out.trans g
    have X11 : Hid (Box W11 w.heap.size [.int .i64 a.fr, .int .i64 a.to, .bool a.rd, .bool a.wr, .bool a.sh, .int .i64 a.file, .int .i64 a.base]) := X10.out.grew g
    clear g
    go_wp2_with fail
    refine (HRW.out W11 G11.out).mono ?_
    rintro e W12 ⟨rfl, g⟩
    have G12 : Hid (Grew w W12) := G11.out.trans g
    have X12 : Hid (Box W12 w.heap.size [.int .i64 a.fr, .int .i64 a.to, .bool a.rd, .bool a.wr, .bool a.sh, .int .i64 a.file, .int .i64 a.base]) := X11.out.grew g
    clear g
    go_wp2_with fail
    refine (HFI.out W12 G12.out).mono ?_
    rintro e W13 ⟨⟨z, rfl, hz⟩, g⟩
    obtain rfl := HZN.out z hz
    have G13 : Hid (Grew w W13) := G12.out.trans g
    clear g hz
    go_wp2_with fail
    refine (HRO'.out W13 G13.out).mono ?_
    rintro e W14 ⟨rfl, g⟩
    have G14 : Hid (Grew w W14) := G13.out.trans g
    clear g
    go_wp2_with fail
    refine (HRR'.out W14 G14.out).mono ?_
    rintro e W15 ⟨rfl, g⟩
    have G15 : Hid (Grew w W15) := G14.out.trans g
    clear g
    go_wp2
    go_ret
    exact ⟨rfl, G15.out⟩
  have c0g : 0 ≤ s := by omega
  have c1g : s < 64 := by omega
  obtain ⟨k, hk⟩ : ∃ k : Nat, (k : Int) = s := ⟨s.toNat, by omega⟩
  have hk64 : k < 64 := by omega
  obtain ⟨x, HX⟩ : ∃ x, Hid (onAt l k = x) := ⟨_, rfl⟩
  have hidx : ∀ W, (Instr.index 49 (.agg (cellsO (tab (onAt l))).toArray) (.int .i64 s)).run Try.prog W = .ok (.agg #[.bool x.is, .bool x.rd, .bool x.wr, .bool x.sh, .int .i64 x.file, .int .i64 x.page]) W := fun W => by
    have := run_idxO (w := W) (f := onAt l) k hk64
    rw [hk, HX.out] at this
    exact this
  have hfo := field_some x
  cases his : x.is with
  | false =>
    rw [his] at hfo hidx
    have HZN : Hid (∀ z, FindsZ l s z → z = -1) := fun z h => by
      have h' := h
      rw [← hk] at h'
      have := finds_is h'
      rw [HX.out, his] at this
      rcases h with ⟨j, b, rfl, h1, h2⟩ | ⟨rfl, h1⟩
      · simp at this
      · rfl
    clear his c0 c1 hk
    generalize cellsO (tab (onAt l)) = C at HON' hidx
    go_enter Try.func4, Try.ntmps4
    go_upto_region 1 with fail
    rw [HW0.out]
    go_wp2_with fail
    refine (HW.out W0 G0.out).mono ?_
    rintro e W1 ⟨rfl, g⟩
    have G1 : Hid (Grew w W1) := G0.out.trans g
    have X1 : Hid (Box W1 w.heap.size [.int .i64 a.fr, .int .i64 a.to, .bool a.rd, .bool a.wr, .bool a.sh, .int .i64 a.file, .int .i64 a.base]) := X0.out.grew g
    clear g
    go_wp2_with fail
    refine (HRW.out W1 G1.out).mono ?_
    rintro e W2 ⟨rfl, g⟩
    have G2 : Hid (Grew w W2) := G1.out.trans g
    have X2 : Hid (Box W2 w.heap.size [.int .i64 a.fr, .int .i64 a.to, .bool a.rd, .bool a.wr, .bool a.sh, .int .i64 a.file, .int .i64 a.base]) := X1.out.grew g
    clear g
    go_wp2_with (refine wp_loadAll rfl 37 (.tmp 7) rfl w.heap.size rfl X2.out Try.underlying37 rfl Try.sizeArea ?_)
    refine (HM.out W2 G2.out).mono ?_
    intro e W3 hgv
    obtain ⟨xa, xc, rfl, ow, g⟩ := hgv.slice
    have G3 : Hid (Grew w W3) := G2.out.trans g
    have X3 : Hid (Box W3 w.heap.size [.int .i64 a.fr, .int .i64 a.to, .bool a.rd, .bool a.wr, .bool a.sh, .int .i64 a.file, .int .i64 a.base]) := X2.out.grew g
    have Rx3 : Hid (RowAt arE W3 (.slice xa L1.length xc) L1) := ow.at
    clear g ow hgv
    go_wp2_with (refine wp_loadAll rfl 37 (.tmp 7) rfl w.heap.size rfl X3.out Try.underlying37 rfl Try.sizeArea ?_)
    refine (HRM.out W3 G3.out).mono ?_
    intro e W4 hgv
    obtain ⟨ya, yc, rfl, ow, g⟩ := hgv.slice
    have G4 : Hid (Grew w W4) := G3.out.trans g
    have X4 : Hid (Box W4 w.heap.size [.int .i64 a.fr, .int .i64 a.to, .bool a.rd, .bool a.wr, .bool a.sh, .int .i64 a.file, .int .i64 a.base]) := X3.out.grew g
    have Rx4 : Hid (RowAt arE W4 (.slice xa L1.length xc) L1) := Rx3.out.grew g
    have Ry4 : Hid (RowAt arE W4 (.slice ya L1.length yc) L1) := ow.at
    clear g ow hgv
    go_wp2_with fail
    refine (sameAr_any _ _ L1 W4 Rx4.out Ry4.out).mono ?_
    rintro e W5 ⟨rfl, g⟩
    have G5 : Hid (Grew w W5) := G4.out.trans g
    have X5 : Hid (Box W5 w.heap.size [.int .i64 a.fr, .int .i64 a.to, .bool a.rd, .bool a.wr, .bool a.sh, .int .i64 a.file, .int .i64 a.base]) := X4.out.grew g
    clear g
    go_wp2_with fail
    refine (HU.out W5 G5.out).mono ?_
    intro e W6 hgv
    obtain ⟨pa, pc, rfl, ow, g⟩ := hgv.slice
    have G6 : Hid (Grew w W6) := G5.out.trans g
    have X6 : Hid (Box W6 w.heap.size [.int .i64 a.fr, .int .i64 a.to, .bool a.rd, .bool a.wr, .bool a.sh, .int .i64 a.file, .int .i64 a.base]) := X5.out.grew g
    have Rp6 : Hid (RowAt arE W6 (.slice pa L2.length pc) L2) := ow.at
    clear g ow hgv
    go_wp2_with fail
    refine (HRU.out W6 G6.out).mono ?_
    intro e W7 hgv
    obtain ⟨qa, qc, rfl, ow, g⟩ := hgv.slice
    have G7 : Hid (Grew w W7) := G6.out.trans g
    have X7 : Hid (Box W7 w.heap.size [.int .i64 a.fr, .int .i64 a.to, .bool a.rd, .bool a.wr, .bool a.sh, .int .i64 a.file, .int .i64 a.base]) := X6.out.grew g
    have Rp7 : Hid (RowAt arE W7 (.slice pa L2.length pc) L2) := Rp6.out.grew g
    have Rq7 : Hid (RowAt arE W7 (.slice qa L2.length qc) L2) := ow.at
    clear g ow hgv
    go_wp2_with fail
    refine (sameAr_any _ _ L2 W7 Rp7.out Rq7.out).mono ?_
    rintro e W8 ⟨rfl, g⟩
    have G8 : Hid (Grew w W8) := G7.out.trans g
    have X8 : Hid (Box W8 w.heap.size [.int .i64 a.fr, .int .i64 a.to, .bool a.rd, .bool a.wr, .bool a.sh, .int .i64 a.file, .int .i64 a.base]) := X7.out.grew g
    clear g
    go_wp2_with fail
    refine (HP.out W8 G8.out).mono ?_
    intro e W9 hgv
    obtain ⟨ka, kc, rfl, ow, g⟩ := hgv.slice
    have G9 : Hid (Grew w W9) := G8.out.trans g
    have X9 : Hid (Box W9 w.heap.size [.int .i64 a.fr, .int .i64 a.to, .bool a.rd, .bool a.wr, .bool a.sh, .int .i64 a.file, .int .i64 a.base]) := X8.out.grew g
    have Rk9 : Hid (RowAt arE W9 (.slice ka L3.length kc) L3) := ow.at
    clear g ow hgv
    go_wp2_with fail
    refine (HRP.out W9 G9.out).mono ?_
    intro e W10 hgv
    obtain ⟨ta, tc, rfl, ow, g⟩ := hgv.slice
    have G10 : Hid (Grew w W10) := G9.out.trans g
    have X10 : Hid (Box W10 w.heap.size [.int .i64 a.fr, .int .i64 a.to, .bool a.rd, .bool a.wr, .bool a.sh, .int .i64 a.file, .int .i64 a.base]) := X9.out.grew g
    have Rk10 : Hid (RowAt arE W10 (.slice ka L3.length kc) L3) := Rk9.out.grew g
    have Rt10 : Hid (RowAt arE W10 (.slice ta L3.length tc) L3) := ow.at
    clear g ow hgv
    go_wp2_with fail
    refine (sameAr_any _ _ L3 W10 Rk10.out Rt10.out).mono ?_
    rintro e W11 ⟨rfl, g⟩
    have G11 : Hid (Grew w W11) := G10.out.trans g
    have X11 : Hid (Box W11 w.heap.size [.int .i64 a.fr, .int .i64 a.to, .bool a.rd, .bool a.wr, .bool a.sh, .int .i64 a.file, .int .i64 a.base]) := X10.out.grew g
    clear g
    go_wp2_with fail
    refine (HRW.out W11 G11.out).mono ?_
    rintro e W12 ⟨rfl, g⟩
    have G12 : Hid (Grew w W12) := G11.out.trans g
    have X12 : Hid (Box W12 w.heap.size [.int .i64 a.fr, .int .i64 a.to, .bool a.rd, .bool a.wr, .bool a.sh, .int .i64 a.file, .int .i64 a.base]) := X11.out.grew g
    clear g
    go_wp2_with fail
    refine (HFI.out W12 G12.out).mono ?_
    rintro e W13 ⟨⟨z, rfl, hz⟩, g⟩
    obtain rfl := HZN.out z hz
    have G13 : Hid (Grew w W13) := G12.out.trans g
    clear g hz
    go_wp2_with fail
    refine (HON'.out W13 G13.out).mono ?_
    rintro e W14 ⟨rfl, g⟩
    have G14 : Hid (Grew w W14) := G13.out.trans g
    clear g
    go_wp2_with fail
    refine (HRO'.out W14 G14.out).mono ?_
    rintro e W15 ⟨rfl, g⟩
    have G15 : Hid (Grew w W15) := G14.out.trans g
    clear g
    go_wp2_with fail
    refine (HRR'.out W15 G15.out).mono ?_
    rintro e W16 ⟨rfl, g⟩
    have G16 : Hid (Grew w W16) := G15.out.trans g
    clear g
    go_wp2
    go_ret
    exact ⟨rfl, G16.out⟩
  | true =>
    rw [his] at hfo hidx
    have HZN : Hid (∀ z, FindsZ l s z → ∃ (j : Nat) (b : Ar), z = j ∧ l[j]? = some b ∧ b.fr ≤ s ∧ s < b.to) := fun z h => by
      have h' := h
      rw [← hk] at h'
      have := finds_is h'
      rw [HX.out, his] at this
      rcases h with ⟨j, b, rfl, h1, h2⟩ | ⟨rfl, h1⟩
      · exact ⟨j, b, rfl, h1, (inZ_iff.1 h2).1, (inZ_iff.1 h2).2⟩
      · simp at this
    clear his c0 c1 hk
    generalize cellsO (tab (onAt l)) = C at HON' hidx
    obtain ⟨va, vc, hve, hrow⟩ := HV.out.ars
    subst hve
    have HROW : Hid (ArRows w va l) := hrow
    have hbig := HV.out.short
    clear hrow
    obtain ⟨m, HMM⟩ : ∃ m, Hid (l.length = m) := ⟨_, rfl⟩
    have HLTM : Hid (∀ (j : Nat) b, l[j]? = some b → j < m) := fun j b h => by rw [← HMM.out]; exact (List.getElem?_eq_some_iff.1 h).1
    simp only [HMM.out] at HW HRW HM HRM HU HRU HP HRP HFI HRO' HRR' HON' hbig ⊢
    go_enter Try.func4, Try.ntmps4
    go_upto_region 1 with fail
    rw [HW0.out]
    go_wp2_with fail
    refine (HW.out W0 G0.out).mono ?_
    rintro e W1 ⟨rfl, g⟩
    have G1 : Hid (Grew w W1) := G0.out.trans g
    have X1 : Hid (Box W1 w.heap.size [.int .i64 a.fr, .int .i64 a.to, .bool a.rd, .bool a.wr, .bool a.sh, .int .i64 a.file, .int .i64 a.base]) := X0.out.grew g
    clear g
    go_wp2_with fail
    refine (HRW.out W1 G1.out).mono ?_
    rintro e W2 ⟨rfl, g⟩
    have G2 : Hid (Grew w W2) := G1.out.trans g
    have X2 : Hid (Box W2 w.heap.size [.int .i64 a.fr, .int .i64 a.to, .bool a.rd, .bool a.wr, .bool a.sh, .int .i64 a.file, .int .i64 a.base]) := X1.out.grew g
    clear g
    go_wp2_with (refine wp_loadAll rfl 37 (.tmp 7) rfl w.heap.size rfl X2.out Try.underlying37 rfl Try.sizeArea ?_)
    refine (HM.out W2 G2.out).mono ?_
    intro e W3 hgv
    obtain ⟨xa, xc, rfl, ow, g⟩ := hgv.slice
    have G3 : Hid (Grew w W3) := G2.out.trans g
    have X3 : Hid (Box W3 w.heap.size [.int .i64 a.fr, .int .i64 a.to, .bool a.rd, .bool a.wr, .bool a.sh, .int .i64 a.file, .int .i64 a.base]) := X2.out.grew g
    have Rx3 : Hid (RowAt arE W3 (.slice xa L1.length xc) L1) := ow.at
    clear g ow hgv
    go_wp2_with (refine wp_loadAll rfl 37 (.tmp 7) rfl w.heap.size rfl X3.out Try.underlying37 rfl Try.sizeArea ?_)
    refine (HRM.out W3 G3.out).mono ?_
    intro e W4 hgv
    obtain ⟨ya, yc, rfl, ow, g⟩ := hgv.slice
    have G4 : Hid (Grew w W4) := G3.out.trans g
    have X4 : Hid (Box W4 w.heap.size [.int .i64 a.fr, .int .i64 a.to, .bool a.rd, .bool a.wr, .bool a.sh, .int .i64 a.file, .int .i64 a.base]) := X3.out.grew g
    have Rx4 : Hid (RowAt arE W4 (.slice xa L1.length xc) L1) := Rx3.out.grew g
    have Ry4 : Hid (RowAt arE W4 (.slice ya L1.length yc) L1) := ow.at
    clear g ow hgv
    go_wp2_with fail
    refine (sameAr_any _ _ L1 W4 Rx4.out Ry4.out).mono ?_
    rintro e W5 ⟨rfl, g⟩
    have G5 : Hid (Grew w W5) := G4.out.trans g
    have X5 : Hid (Box W5 w.heap.size [.int .i64 a.fr, .int .i64 a.to, .bool a.rd, .bool a.wr, .bool a.sh, .int .i64 a.file, .int .i64 a.base]) := X4.out.grew g
    clear g
    go_wp2_with fail
    refine (HU.out W5 G5.out).mono ?_
    intro e W6 hgv
    obtain ⟨pa, pc, rfl, ow, g⟩ := hgv.slice
    have G6 : Hid (Grew w W6) := G5.out.trans g
    have X6 : Hid (Box W6 w.heap.size [.int .i64 a.fr, .int .i64 a.to, .bool a.rd, .bool a.wr, .bool a.sh, .int .i64 a.file, .int .i64 a.base]) := X5.out.grew g
    have Rp6 : Hid (RowAt arE W6 (.slice pa L2.length pc) L2) := ow.at
    clear g ow hgv
    go_wp2_with fail
    refine (HRU.out W6 G6.out).mono ?_
    intro e W7 hgv
    obtain ⟨qa, qc, rfl, ow, g⟩ := hgv.slice
    have G7 : Hid (Grew w W7) := G6.out.trans g
    have X7 : Hid (Box W7 w.heap.size [.int .i64 a.fr, .int .i64 a.to, .bool a.rd, .bool a.wr, .bool a.sh, .int .i64 a.file, .int .i64 a.base]) := X6.out.grew g
    have Rp7 : Hid (RowAt arE W7 (.slice pa L2.length pc) L2) := Rp6.out.grew g
    have Rq7 : Hid (RowAt arE W7 (.slice qa L2.length qc) L2) := ow.at
    clear g ow hgv
    go_wp2_with fail
    refine (sameAr_any _ _ L2 W7 Rp7.out Rq7.out).mono ?_
    rintro e W8 ⟨rfl, g⟩
    have G8 : Hid (Grew w W8) := G7.out.trans g
    have X8 : Hid (Box W8 w.heap.size [.int .i64 a.fr, .int .i64 a.to, .bool a.rd, .bool a.wr, .bool a.sh, .int .i64 a.file, .int .i64 a.base]) := X7.out.grew g
    clear g
    go_wp2_with fail
    refine (HP.out W8 G8.out).mono ?_
    intro e W9 hgv
    obtain ⟨ka, kc, rfl, ow, g⟩ := hgv.slice
    have G9 : Hid (Grew w W9) := G8.out.trans g
    have X9 : Hid (Box W9 w.heap.size [.int .i64 a.fr, .int .i64 a.to, .bool a.rd, .bool a.wr, .bool a.sh, .int .i64 a.file, .int .i64 a.base]) := X8.out.grew g
    have Rk9 : Hid (RowAt arE W9 (.slice ka L3.length kc) L3) := ow.at
    clear g ow hgv
    go_wp2_with fail
    refine (HRP.out W9 G9.out).mono ?_
    intro e W10 hgv
    obtain ⟨ta, tc, rfl, ow, g⟩ := hgv.slice
    have G10 : Hid (Grew w W10) := G9.out.trans g
    have X10 : Hid (Box W10 w.heap.size [.int .i64 a.fr, .int .i64 a.to, .bool a.rd, .bool a.wr, .bool a.sh, .int .i64 a.file, .int .i64 a.base]) := X9.out.grew g
    have Rk10 : Hid (RowAt arE W10 (.slice ka L3.length kc) L3) := Rk9.out.grew g
    have Rt10 : Hid (RowAt arE W10 (.slice ta L3.length tc) L3) := ow.at
    clear g ow hgv
    go_wp2_with fail
    refine (sameAr_any _ _ L3 W10 Rk10.out Rt10.out).mono ?_
    rintro e W11 ⟨rfl, g⟩
    have G11 : Hid (Grew w W11) := G10.out.trans g
    have X11 : Hid (Box W11 w.heap.size [.int .i64 a.fr, .int .i64 a.to, .bool a.rd, .bool a.wr, .bool a.sh, .int .i64 a.file, .int .i64 a.base]) := X10.out.grew g
    clear g
    go_wp2_with fail
    refine (HRW.out W11 G11.out).mono ?_
    rintro e W12 ⟨rfl, g⟩
    have G12 : Hid (Grew w W12) := G11.out.trans g
    have X12 : Hid (Box W12 w.heap.size [.int .i64 a.fr, .int .i64 a.to, .bool a.rd, .bool a.wr, .bool a.sh, .int .i64 a.file, .int .i64 a.base]) := X11.out.grew g
    clear g
    go_wp2_with fail
    refine (HFI.out W12 G12.out).mono ?_
    rintro e W13 ⟨⟨z, rfl, hz⟩, g⟩
    obtain ⟨j, b, rfl, hjb, hb1, hb2⟩ := HZN.out z hz
    have G13 : Hid (Grew w W13) := G12.out.trans g
    have hjm := HLTM.out j b hjb
    have hjmz : (j : Int) < (m : Int) := by omega
    have hj0 : (0 : Int) ≤ (j : Int) := by omega
    obtain ⟨ad, rfl, hl⟩ := HROW.out j b hjb
    have HCB : Hid (∀ W, Grew w W → ArCells W (ad.add (j * 7)) b) := hl
    clear g hz hjb hl
    go_wp2_with fail
    refine (HON'.out W13 G13.out).mono ?_
    rintro e W14 ⟨rfl, g⟩
    have G14 : Hid (Grew w W14) := G13.out.trans g
    clear g
    go_wp2_with fail
    refine (HRO'.out W14 G14.out).mono ?_
    rintro e W15 ⟨rfl, g⟩
    have G15 : Hid (Grew w W15) := G14.out.trans g
    clear g
    go_wp2_with fail
    refine (HRR'.out W15 G15.out).mono ?_
    rintro e W16 ⟨rfl, g⟩
    have G16 : Hid (Grew w W16) := G15.out.trans g
    clear g
    obtain ⟨d0, d1, d2, d3, d4, d5, d6⟩ := HCB.out W16 G16.out
    go_wp2
    go_ret
    exact ⟨rfl, G16.out⟩

end Go.Proofs.Ytlkgmjdhggfimad
