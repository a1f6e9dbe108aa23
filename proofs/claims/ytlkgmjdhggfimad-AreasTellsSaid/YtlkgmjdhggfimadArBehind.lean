/- Contracts of behind, only and goesOn (package areas). -/
import Derived.Test.YtlkgmjdhggfimadArLeaf
namespace Go.Proofs.Ytlkgmjdhggfimad
open Go.RowKit

def behindA (a : Ar) (n : Int) : Ar := { a with fr := n, base := if 0 ≤ a.file then a.base + (n - a.fr) else a.base }

set_option maxRecDepth 100000 in
set_option maxHeartbeats 1000000 in
theorem behind_any (a : Ar) (n : Int) (w : World) (ha : ArOk a) (hn : 0 ≤ n ∧ n ≤ 64) : Calls Try.prog 56 #[.agg #[.int .i64 a.fr, .int .i64 a.to, .bool a.rd, .bool a.wr, .bool a.sh, .int .i64 a.file, .int .i64 a.base], .int .i64 n] w fun e w' => e = .returned (arA (behindA a n)) ∧ Grew w w' := by
  have HA : Hid (ArOk a) := ha
  unfold ArOk at ha
  obtain ⟨h1, h2, h3, h4, h5, h6, h7, h8⟩ := ha
  obtain ⟨fr, to, rd, wr, sh, file, base⟩ := a
  simp only at h1 h2 h3 h4 h5 h6 h7 h8 ⊢
  have hb : base ≤ 12 := by
    by_cases h : 0 ≤ file
    · have := h8 h; omega
    · have := h7 (by omega); omega
  clear h7 h8
  obtain ⟨n1, n2⟩ := hn
  obtain ⟨W0, hW0⟩ : ∃ W0, (w.alloc (.cells #[.int .i64 fr, .int .i64 to, .bool rd, .bool wr, .bool sh, .int .i64 file, .int .i64 base] 37)).alloc (.cells #[.int .i64 0, .int .i64 0, .bool false, .bool false, .bool false, .int .i64 0, .int .i64 0] 37) = W0 := ⟨_, rfl⟩
  have HG0 : Hid (Grew w W0) := show Grew w W0 by rw [← hW0]; exact (grew_alloc _ _).trans (grew_alloc _ _)
  have X0 : Hid (Box W0 w.heap.size [.int .i64 fr, .int .i64 to, .bool rd, .bool wr, .bool sh, .int .i64 file, .int .i64 base]) := show Box _ _ _ by rw [← hW0]; exact (Box.top w _ _ rfl).alloc _
  have Y0 : Hid (Box W0 (w.heap.size + 1) [.int .i64 0, .int .i64 0, .bool false, .bool false, .bool false, .int .i64 0, .int .i64 0]) := show Box _ _ _ by rw [← hW0]; exact Box.top _ _ _ (by simp)
  have HW0 : Hid (_ = W0) := hW0
  clear hW0
  by_cases hf : 0 ≤ file
  · have HR : Hid (behindA ⟨fr, to, rd, wr, sh, file, base⟩ n = ⟨n, to, rd, wr, sh, file, base + (n - fr)⟩) := show _ = _ by unfold behindA; simp only; rw [if_pos hf]
    go_enter Try.func56, Try.ntmps56
    go_upto_region 1 with fail
    rw [HW0.out]
    have x0 := X0.out.c 0 rfl
    have x5 := X0.out.c 5 rfl
    have x6 := X0.out.c 6 rfl
    have xf := X0.out.f
    go_upto_region 4 with fail
    obtain ⟨W1, hW1⟩ : ∃ W1, (W0.setCell ⟨w.heap.size, 6, none⟩ (.int .i64 (base + (n - fr)))).setCell ⟨w.heap.size, 0, none⟩ (.int .i64 n) = W1 := ⟨_, rfl⟩
    have X1 : Hid (Box W1 w.heap.size [.int .i64 n, .int .i64 to, .bool rd, .bool wr, .bool sh, .int .i64 file, .int .i64 (base + (n - fr))]) := show Box _ _ _ by rw [← hW1]; exact (X0.out.set 6 _).set 0 _
    have Y1 : Hid (Box W1 (w.heap.size + 1) [.int .i64 0, .int .i64 0, .bool false, .bool false, .bool false, .int .i64 0, .int .i64 0]) := show Box _ _ _ by rw [← hW1]; exact (Y0.out.other (by simp) _).other (by simp) _
    have HG1 : Hid (Grew w W1) := show Grew _ _ by rw [← hW1]; exact grew_set (grew_set HG0.out (by simp) _) (by simp) _
    rw [hW1]
    clear hW1 x0 x5 x6 xf
    go_wp2_with (first | refine wp_loadAll rfl 37 (.tmp 2) rfl w.heap.size rfl X1.out Try.underlying37 rfl Try.sizeArea ?_ | refine wp_storeAll rfl 37 (.tmp 4) (.tmp 18) rfl (w.heap.size + 1) rfl _ rfl Y1.out rfl Try.sizeArea (arE.one ⟨n, to, rd, wr, sh, file, base + (n - fr)⟩) ?_)
    intro W2 b2 g2 s2
    have G2 : Hid (Grew w W2) := grew_grown HG1.out g2 (by simp)
    have B2 : Hid (Box W2 (w.heap.size + 1) [.int .i64 n, .int .i64 to, .bool rd, .bool wr, .bool sh, .int .i64 file, .int .i64 (base + (n - fr))]) := b2
    clear b2 g2 s2
    go_wp2
    refine bodyPost_ret (ret_cell rfl _ rfl B2.out Try.underlying37 rfl Try.sizeArea) rfl ⟨by rw [HR.out]; rfl, G2.out⟩
  · have HR : Hid (behindA ⟨fr, to, rd, wr, sh, file, base⟩ n = ⟨n, to, rd, wr, sh, file, base⟩) := show _ = _ by unfold behindA; simp only; rw [if_neg hf]
    go_enter Try.func56, Try.ntmps56
    go_upto_region 1 with fail
    rw [HW0.out]
    have x0 := X0.out.c 0 rfl
    have x5 := X0.out.c 5 rfl
    have xf := X0.out.f
    go_upto_region 4 with fail
    obtain ⟨W1, hW1⟩ : ∃ W1, W0.setCell ⟨w.heap.size, 0, none⟩ (.int .i64 n) = W1 := ⟨_, rfl⟩
    have X1 : Hid (Box W1 w.heap.size [.int .i64 n, .int .i64 to, .bool rd, .bool wr, .bool sh, .int .i64 file, .int .i64 base]) := show Box _ _ _ by rw [← hW1]; exact X0.out.set 0 _
    have Y1 : Hid (Box W1 (w.heap.size + 1) [.int .i64 0, .int .i64 0, .bool false, .bool false, .bool false, .int .i64 0, .int .i64 0]) := show Box _ _ _ by rw [← hW1]; exact Y0.out.other (by simp) _
    have HG1 : Hid (Grew w W1) := show Grew _ _ by rw [← hW1]; exact grew_set HG0.out (by simp) _
    rw [hW1]
    clear hW1 x0 x5 xf
    go_wp2_with (first | refine wp_loadAll rfl 37 (.tmp 2) rfl w.heap.size rfl X1.out Try.underlying37 rfl Try.sizeArea ?_ | refine wp_storeAll rfl 37 (.tmp 4) (.tmp 18) rfl (w.heap.size + 1) rfl _ rfl Y1.out rfl Try.sizeArea (arE.one ⟨n, to, rd, wr, sh, file, base⟩) ?_)
    intro W2 b2 g2 s2
    have G2 : Hid (Grew w W2) := grew_grown HG1.out g2 (by simp)
    have B2 : Hid (Box W2 (w.heap.size + 1) [.int .i64 n, .int .i64 to, .bool rd, .bool wr, .bool sh, .int .i64 file, .int .i64 base]) := b2
    clear b2 g2 s2
    go_wp2
    refine bodyPost_ret (ret_cell rfl _ rfl B2.out Try.underlying37 rfl Try.sizeArea) rfl ⟨by rw [HR.out]; rfl, G2.out⟩

end Go.Proofs.Ytlkgmjdhggfimad
