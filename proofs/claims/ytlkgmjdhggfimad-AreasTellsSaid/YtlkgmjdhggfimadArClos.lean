/- Contracts of the functions that Map, Unmap and Protect hand to changed (package areas). -/
import Derived.Test.YtlkgmjdhggfimadArChanged
namespace Go.Proofs.Ytlkgmjdhggfimad
open Go.RowKit

set_option maxRecDepth 100000 in
set_option maxHeartbeats 1000000 in
theorem mapC_any (a q : Ar) (k pa : Nat) (w : World) (hb : Box w pa [.int .i64 a.fr, .int .i64 a.to, .bool a.rd, .bool a.wr, .bool a.sh, .int .i64 a.file, .int .i64 a.base]) (ha : ArOk a) (hk : k < 64) :
    Calls Try.prog 42 #[.int .i64 (k : Int), .agg #[.int .i64 q.fr, .int .i64 q.to, .bool q.rd, .bool q.wr, .bool q.sh, .int .i64 q.file, .int .i64 q.base], .pointer (some ⟨pa, 0, none⟩)] w fun e w' => e = .returned (arA (arOf k (oneOf a k))) ∧ Grew w w' := by
  have HO : ∀ W, Calls Try.prog 43 #[.agg #[.int .i64 a.fr, .int .i64 a.to, .bool a.rd, .bool a.wr, .bool a.sh, .int .i64 a.file, .int .i64 a.base], .int .i64 (k : Int)] W fun e w' => e = .returned (arA (arOf k (oneOf a k))) ∧ Grew W w' := fun W => only_any a k W ha hk
  obtain ⟨x, hx⟩ : ∃ x, arOf k (oneOf a k) = x := ⟨_, rfl⟩
  simp only [hx] at HO ⊢
  clear hx ha hk
  obtain ⟨W0, hW0⟩ : ∃ W0, (w.alloc (.cells #[.int .i64 q.fr, .int .i64 q.to, .bool q.rd, .bool q.wr, .bool q.sh, .int .i64 q.file, .int .i64 q.base] 37)).alloc (.cells #[.int .i64 0, .int .i64 0, .bool false, .bool false, .bool false, .int .i64 0, .int .i64 0] 37) = W0 := ⟨_, rfl⟩
  have HG0 : Hid (Grew w W0) := show Grew w W0 by rw [← hW0]; exact (grew_alloc _ _).trans (grew_alloc _ _)
  have X0 : Hid (Box W0 pa [.int .i64 a.fr, .int .i64 a.to, .bool a.rd, .bool a.wr, .bool a.sh, .int .i64 a.file, .int .i64 a.base]) := show Box _ _ _ by rw [← hW0]; exact (hb.alloc _).alloc _
  have Y0 : Hid (Box W0 (w.heap.size + 1) [.int .i64 0, .int .i64 0, .bool false, .bool false, .bool false, .int .i64 0, .int .i64 0]) := show Box _ _ _ by rw [← hW0]; exact Box.top _ _ _ (by simp)
  have HW0 : Hid (_ = W0) := hW0
  clear hW0 hb
  go_enter Try.func42, Try.ntmps42
  go_upto_region 1 with fail
  rw [HW0.out]
  go_wp2_with (refine wp_loadAll rfl 37 (.tmp 2) rfl pa rfl X0.out Try.underlying37 rfl Try.sizeArea ?_)
  refine (HO _).mono ?_
  rintro e W1 ⟨rfl, g1⟩
  have G1 : Hid (Grew w W1) := HG0.out.trans g1
  have Y1 : Hid (Box W1 (w.heap.size + 1) [.int .i64 0, .int .i64 0, .bool false, .bool false, .bool false, .int .i64 0, .int .i64 0]) := Y0.out.grew g1
  clear g1 HO
  go_wp2_with (refine wp_storeAll rfl 37 (.tmp 5) (.tmp 8) rfl (w.heap.size + 1) rfl (arv x) rfl Y1.out rfl Try.sizeArea (arE.one x) ?_)
  intro W2 b2 g2 s2
  have G2 : Hid (Grew w W2) := grew_grown G1.out g2 (by simp)
  have B2 : Hid (Box W2 (w.heap.size + 1) (arv x)) := b2
  clear b2 g2 s2
  go_wp2
  refine bodyPost_ret (ret_cell rfl _ rfl B2.out Try.underlying37 rfl Try.sizeArea) rfl ⟨rfl, G2.out⟩

set_option maxRecDepth 100000 in
set_option maxHeartbeats 1000000 in
theorem unC_any (q : Ar) (k : Int) (w : World) :
    Calls Try.prog 46 #[.int .i64 k, .agg #[.int .i64 q.fr, .int .i64 q.to, .bool q.rd, .bool q.wr, .bool q.sh, .int .i64 q.file, .int .i64 q.base]] w fun e w' => e = .returned (arA ar0) ∧ Grew w w' := by
  obtain ⟨W0, hW0⟩ : ∃ W0, (w.alloc (.cells #[.int .i64 q.fr, .int .i64 q.to, .bool q.rd, .bool q.wr, .bool q.sh, .int .i64 q.file, .int .i64 q.base] 37)).alloc (.cells #[.int .i64 0, .int .i64 0, .bool false, .bool false, .bool false, .int .i64 0, .int .i64 0] 37) = W0 := ⟨_, rfl⟩
  have HG0 : Hid (Grew w W0) := show Grew w W0 by rw [← hW0]; exact (grew_alloc _ _).trans (grew_alloc _ _)
  have Y0 : Hid (Box W0 (w.heap.size + 1) [.int .i64 0, .int .i64 0, .bool false, .bool false, .bool false, .int .i64 0, .int .i64 0]) := show Box _ _ _ by rw [← hW0]; exact Box.top _ _ _ (by simp)
  have HW0 : Hid (_ = W0) := hW0
  clear hW0
  go_enter Try.func46, Try.ntmps46
  go_upto_region 1 with fail
  rw [HW0.out]
  go_wp2_with (refine wp_storeAll rfl 37 (.tmp 4) (.tmp 5) rfl (w.heap.size + 1) rfl (arv ar0) rfl Y0.out rfl Try.sizeArea (arE.one ar0) ?_)
  intro W2 b2 g2 s2
  have G2 : Hid (Grew w W2) := grew_grown HG0.out g2 (by simp)
  have B2 : Hid (Box W2 (w.heap.size + 1) (arv ar0)) := b2
  clear b2 g2 s2
  go_wp2
  refine bodyPost_ret (ret_cell rfl _ rfl B2.out Try.underlying37 rfl Try.sizeArea) rfl ⟨rfl, G2.out⟩

set_option maxRecDepth 100000 in
set_option maxHeartbeats 1000000 in
theorem prC_any (q : Ar) (k : Int) (r u : Bool) (pr pu : Nat) (w : World) (hr : Box w pr [.bool r]) (hu : Box w pu [.bool u]) :
    Calls Try.prog 48 #[.int .i64 k, .agg #[.int .i64 q.fr, .int .i64 q.to, .bool q.rd, .bool q.wr, .bool q.sh, .int .i64 q.file, .int .i64 q.base], .pointer (some ⟨pr, 0, none⟩), .pointer (some ⟨pu, 0, none⟩)] w fun e w' => e = .returned (arA { q with rd := r, wr := u }) ∧ Grew w w' := by
  obtain ⟨W0, hW0⟩ : ∃ W0, (w.alloc (.cells #[.int .i64 q.fr, .int .i64 q.to, .bool q.rd, .bool q.wr, .bool q.sh, .int .i64 q.file, .int .i64 q.base] 37)).alloc (.cells #[.int .i64 0, .int .i64 0, .bool false, .bool false, .bool false, .int .i64 0, .int .i64 0] 37) = W0 := ⟨_, rfl⟩
  have HG0 : Hid (Grew w W0) := show Grew w W0 by rw [← hW0]; exact (grew_alloc _ _).trans (grew_alloc _ _)
  have X0 : Hid (Box W0 w.heap.size [.int .i64 q.fr, .int .i64 q.to, .bool q.rd, .bool q.wr, .bool q.sh, .int .i64 q.file, .int .i64 q.base]) := show Box _ _ _ by rw [← hW0]; exact (Box.top w _ _ rfl).alloc _
  have Y0 : Hid (Box W0 (w.heap.size + 1) [.int .i64 0, .int .i64 0, .bool false, .bool false, .bool false, .int .i64 0, .int .i64 0]) := show Box _ _ _ by rw [← hW0]; exact Box.top _ _ _ (by simp)
  have R0 : Hid (Box W0 pr [.bool r]) := show Box _ _ _ by rw [← hW0]; exact (hr.alloc _).alloc _
  have U0 : Hid (Box W0 pu [.bool u]) := show Box _ _ _ by rw [← hW0]; exact (hu.alloc _).alloc _
  have hn1 : pr ≠ w.heap.size := by have := hr.lt; omega
  have hn2 : pu ≠ w.heap.size := by have := hu.lt; omega
  have hn3 : w.heap.size ≠ pr := by omega
  have hn4 : w.heap.size ≠ pu := by omega
  have HW0 : Hid (_ = W0) := hW0
  clear hW0 hr hu
  go_enter Try.func48, Try.ntmps48
  go_upto_region 1 with fail
  rw [HW0.out]
  have x2 := X0.out.c 2 rfl
  have x3 := X0.out.c 3 rfl
  have xf := X0.out.f
  have r0 := R0.out.c 0 rfl
  have u0 := U0.out.c 0 rfl
  go_region
  all_goals
    obtain ⟨W1, hW1⟩ : ∃ W1, ((W0.setCell ⟨w.heap.size, 2, none⟩ (.bool r)).setCell ⟨w.heap.size, 3, none⟩ (.bool u)).drew = W1 := ⟨_, rfl⟩
    have X1 : Hid (Box W1 w.heap.size (arv { q with rd := r, wr := u })) := show Box _ _ _ by rw [← hW1]; exact ((X0.out.set 2 _).set 3 _).grew (show Below _ _ _ from Below.drew (Below.refl _ _))
    have Y1 : Hid (Box W1 (w.heap.size + 1) [.int .i64 0, .int .i64 0, .bool false, .bool false, .bool false, .int .i64 0, .int .i64 0]) := show Box _ _ _ by rw [← hW1]; exact ((Y0.out.other (by simp) _).other (by simp) _).grew (show Below _ _ _ from Below.drew (Below.refl _ _))
    have G1 : Hid (Grew w W1) := show Grew _ _ by rw [← hW1]; exact (grew_set (grew_set HG0.out (by simp) _) (by simp) _).trans (show Below _ _ _ from Below.drew (Below.refl _ _))
    rw [hW1]
    clear hW1 x2 x3 xf r0 u0
    go_wp2_with (first | refine wp_loadAll rfl 37 (.tmp 5) rfl w.heap.size rfl X1.out Try.underlying37 rfl Try.sizeArea ?_ | refine wp_storeAll rfl 37 (.tmp 6) (.tmp 11) rfl (w.heap.size + 1) rfl (arv { q with rd := r, wr := u }) rfl Y1.out rfl Try.sizeArea (arE.one { q with rd := r, wr := u }) ?_)
    intro W2 b2 g2 s2
    have G2 : Hid (Grew w W2) := grew_grown G1.out g2 (by simp)
    have B2 : Hid (Box W2 (w.heap.size + 1) (arv { q with rd := r, wr := u })) := b2
    clear b2 g2 s2
    go_wp2
    refine bodyPost_ret (ret_cell rfl _ rfl B2.out Try.underlying37 rfl Try.sizeArea) rfl ⟨rfl, G2.out⟩

end Go.Proofs.Ytlkgmjdhggfimad
