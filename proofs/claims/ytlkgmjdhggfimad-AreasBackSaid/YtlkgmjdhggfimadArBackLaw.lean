/- Law AreasBack: mapped, and unmapped. -/
import Derived.Test.YtlkgmjdhggfimadArAlive
import Derived.Test.YtlkgmjdhggfimadArSame
namespace Go.Proofs.Ytlkgmjdhggfimad
open Go.RowKit

set_option maxRecDepth 100000 in
set_option maxHeartbeats 2000000 in
theorem backLaw_any (v : Value) (l : List Ar) (a : Ar) (w : World) (hv : RowAt arE w v l) :
    Calls Try.prog 5 #[v, .agg #[.int .i64 a.fr, .int .i64 a.to, .bool a.rd, .bool a.wr, .bool a.sh, .int .i64 a.file, .int .i64 a.base]] w fun e w' => e = .returned (.bool true) ∧ Grew w w' := by
  have HV : Hid (RowAt arE w v l) := hv
  have hfe := field_err
  have HAL : Hid (∀ W, Calls Try.prog 25 #[] W fun e w' => e = .returned (.bool true) ∧ Grew W w') := fun W => aliveAr_any W
  have HM : Hid (∀ W, Grew w W → Calls Try.prog 14 #[v, .agg #[.int .i64 a.fr, .int .i64 a.to, .bool a.rd, .bool a.wr, .bool a.sh, .int .i64 a.file, .int .i64 a.base]] W (Gives (mapA l a) W)) := fun W hW => map_any v l a W (HV.out.grew hW)
  clear hv
  obtain ⟨W0, hW0⟩ : ∃ W0, w.alloc (.cells #[.int .i64 a.fr, .int .i64 a.to, .bool a.rd, .bool a.wr, .bool a.sh, .int .i64 a.file, .int .i64 a.base] 37) = W0 := ⟨_, rfl⟩
  have HG0 : Hid (Grew w W0) := show Grew w W0 by rw [← hW0]; exact grew_alloc _ _
  have X0 : Hid (Box W0 w.heap.size [.int .i64 a.fr, .int .i64 a.to, .bool a.rd, .bool a.wr, .bool a.sh, .int .i64 a.file, .int .i64 a.base]) := show Box _ _ _ by rw [← hW0]; exact Box.top w _ _ rfl
  have HW0 : Hid (_ = W0) := hW0
  clear hW0
  by_cases hz : (mapA l a).2 = 0
  · obtain ⟨b1, b2⟩ := back_law hz
    have HOK := arW_zero.1 (mapA_ok hz).2.1
    have hbd : 0 ≤ a.fr ∧ a.fr < a.to ∧ a.to ≤ 64 := by unfold ArOk at HOK; omega
    obtain ⟨q1, q2, q3⟩ := hbd
    clear HOK
    have HU : Hid (∀ u W, RowAt arE W u (mapA l a).1 → Calls Try.prog 17 #[u, .int .i64 a.fr, .int .i64 (a.to - a.fr)] W (Gives (l, 0) W)) := fun u W hu => by
      have := unmap_any u _ a.fr (a.to - a.fr) W hu (by omega)
      rw [b2] at this
      exact this
    have HWR : Hid (∀ u W, RowAt arE W u (mapA l a).1 → Calls Try.prog 12 #[u] W fun e w' => e = .returned (.agg #[.int .i64 0, .int .i64 (wrL (mapA l a).1).2]) ∧ Grew W w') := fun u W hu => by
      have := wrongAr_any u _ W hu
      rw [b1] at this
      exact this
    rw [show mapA l a = ((mapA l a).1, (0 : Int)) from by rw [← hz]] at HM
    clear b1 b2 hz
    generalize (wrL (mapA l a).1).2 = I at HWR
    generalize (mapA l a).1 = M at *
    have e04 : ((0 : Int) == 4) = false := by decide
    go_enter Try.func5, Try.ntmps5
    go_upto_region 1 with fail
    rw [HW0.out]
    go_wp2_with fail
    refine (HAL.out W0).mono ?_
    rintro e W1 ⟨rfl, g1⟩
    have G1 : Hid (Grew w W1) := HG0.out.trans g1
    have X1 : Hid (Box W1 w.heap.size [.int .i64 a.fr, .int .i64 a.to, .bool a.rd, .bool a.wr, .bool a.sh, .int .i64 a.file, .int .i64 a.base]) := X0.out.grew g1
    clear g1
    go_wp2_with (refine wp_loadAll rfl 37 (.tmp 3) rfl w.heap.size rfl X1.out Try.underlying37 rfl Try.sizeArea ?_)
    refine (HM.out W1 G1.out).mono ?_
    intro e W2 hgv
    obtain ⟨xa, xc, rfl, ow2, g2⟩ := hgv.slice
    have G2 : Hid (Grew w W2) := G1.out.trans g2
    have X2 : Hid (Box W2 w.heap.size [.int .i64 a.fr, .int .i64 a.to, .bool a.rd, .bool a.wr, .bool a.sh, .int .i64 a.file, .int .i64 a.base]) := X1.out.grew g2
    have R2 : Hid (RowAt arE W2 (.slice xa M.length xc) M) := ow2.at
    clear g2 ow2 hgv
    have x0 := X2.out.c 0 rfl
    have x1 := X2.out.c 1 rfl
    go_wp2_with fail
    refine (HU.out _ W2 R2.out).mono ?_
    intro e W3 hgv
    obtain ⟨ya, yc, rfl, ow3, g3⟩ := hgv.slice
    have G3 : Hid (Grew w W3) := G2.out.trans g3
    have R3 : Hid (RowAt arE W3 (.slice xa M.length xc) M) := R2.out.grew g3
    have S3 : Hid (RowAt arE W3 (.slice ya l.length yc) l) := ow3.at
    clear g3 ow3 hgv x0 x1
    go_wp2_with fail
    refine (HWR.out _ W3 R3.out).mono ?_
    rintro e W4 ⟨rfl, g4⟩
    have G4 : Hid (Grew w W4) := G3.out.trans g4
    have S4 : Hid (RowAt arE W4 (.slice ya l.length yc) l) := S3.out.grew g4
    clear g4
    go_wp2_with fail
    refine (sameAr_any _ _ l W4 S4.out (HV.out.grew G4.out)).mono ?_
    rintro e W5 ⟨rfl, g5⟩
    have G5 : Hid (Grew w W5) := G4.out.trans g5
    clear g5
    go_wp2
    go_ret
    exact ⟨rfl, G5.out⟩
  · have hzb : ((mapA l a).2 != 0) = true := by simp [hz]
    have hnil := mapA_err hz
    rw [show mapA l a = (([] : List Ar), (mapA l a).2) from by rw [← hnil]] at HM
    clear hz hnil
    generalize (mapA l a).2 = E at *
    go_enter Try.func5, Try.ntmps5
    go_upto_region 1 with fail
    rw [HW0.out]
    go_wp2_with fail
    refine (HAL.out W0).mono ?_
    rintro e W1 ⟨rfl, g1⟩
    have G1 : Hid (Grew w W1) := HG0.out.trans g1
    have X1 : Hid (Box W1 w.heap.size [.int .i64 a.fr, .int .i64 a.to, .bool a.rd, .bool a.wr, .bool a.sh, .int .i64 a.file, .int .i64 a.base]) := X0.out.grew g1
    clear g1
    go_wp2_with (refine wp_loadAll rfl 37 (.tmp 3) rfl w.heap.size rfl X1.out Try.underlying37 rfl Try.sizeArea ?_)
    refine (HM.out W1 G1.out).mono ?_
    intro e W2 hgv
    obtain ⟨xa, xc, rfl, ow2, g2⟩ := hgv.slice
    have G2 : Hid (Grew w W2) := G1.out.trans g2
    clear g2 ow2 hgv
    go_wp2
    go_ret
    exact ⟨rfl, G2.out⟩

end Go.Proofs.Ytlkgmjdhggfimad
