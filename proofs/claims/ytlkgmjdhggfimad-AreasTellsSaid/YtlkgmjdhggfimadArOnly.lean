/- Contracts of only and goesOn (package areas). -/
import Derived.Test.YtlkgmjdhggfimadArBehind
import Derived.Test.YtlkgmjdhggfimadArEq
namespace Go.Proofs.Ytlkgmjdhggfimad
open Go.RowKit

theorem only_eq {a : Ar} (ha : ArOk a) (n : Nat) : (⟨n, (n : Int) + 1, a.rd, a.wr, a.sh, a.file, (behindA a n).base⟩ : Ar) = arOf n (oneOf a n) := by
  unfold arOf
  rw [if_pos (oneOf_is a n)]
  unfold oneOf behindA
  simp only [Ar.mk.injEq, true_and]
  split
  · rfl
  · exact (ha.2.2.2.2.2.2.1 (by omega)).1

theorem goes_eq {a b : Ar} : arEqB a ⟨b.to, a.to, b.rd, b.wr, b.sh, b.file, (behindA b b.to).base⟩ = goB a b := by
  unfold arEqB goB behindA
  simp only [beq_self_eq_true, Bool.and_true]
  have hd : ∀ x y : Int, (x == y) = decide (x = y) := fun x y => rfl
  simp only [hd]

theorem behindA_form (a : Ar) (n : Int) : arA (behindA a n) = .agg #[.int .i64 n, .int .i64 a.to, .bool a.rd, .bool a.wr, .bool a.sh, .int .i64 a.file, .int .i64 (behindA a n).base] := rfl

set_option maxRecDepth 100000 in
set_option maxHeartbeats 1000000 in
theorem only_any (a : Ar) (n : Nat) (w : World) (ha : ArOk a) (hn : n < 64) : Calls Try.prog 43 #[.agg #[.int .i64 a.fr, .int .i64 a.to, .bool a.rd, .bool a.wr, .bool a.sh, .int .i64 a.file, .int .i64 a.base], .int .i64 (n : Int)] w fun e w' => e = .returned (arA (arOf n (oneOf a n))) ∧ Grew w w' := by
  have hb : ∀ W, Calls Try.prog 56 #[.agg #[.int .i64 a.fr, .int .i64 a.to, .bool a.rd, .bool a.wr, .bool a.sh, .int .i64 a.file, .int .i64 a.base], .int .i64 (n : Int)] W fun e w' => e = .returned (arA (behindA a n)) ∧ Grew W w' := fun W => behind_any a n W ha (by omega)
  rw [← only_eq ha n]
  rw [behindA_form] at hb
  generalize (behindA a n).base = nb at hb ⊢
  clear ha
  obtain ⟨W0, hW0⟩ : ∃ W0, (w.alloc (.cells #[.int .i64 a.fr, .int .i64 a.to, .bool a.rd, .bool a.wr, .bool a.sh, .int .i64 a.file, .int .i64 a.base] 37)).alloc (.cells #[.int .i64 0, .int .i64 0, .bool false, .bool false, .bool false, .int .i64 0, .int .i64 0] 37) = W0 := ⟨_, rfl⟩
  have HG0 : Hid (Grew w W0) := show Grew w W0 by rw [← hW0]; exact (grew_alloc _ _).trans (grew_alloc _ _)
  have X0 : Hid (Box W0 w.heap.size [.int .i64 a.fr, .int .i64 a.to, .bool a.rd, .bool a.wr, .bool a.sh, .int .i64 a.file, .int .i64 a.base]) := show Box _ _ _ by rw [← hW0]; exact (Box.top w _ _ rfl).alloc _
  have Y0 : Hid (Box W0 (w.heap.size + 1) [.int .i64 0, .int .i64 0, .bool false, .bool false, .bool false, .int .i64 0, .int .i64 0]) := show Box _ _ _ by rw [← hW0]; exact Box.top _ _ _ (by simp)
  have HW0 : Hid (_ = W0) := hW0
  clear hW0
  go_enter Try.func43, Try.ntmps43
  go_upto_region 1 with fail
  rw [HW0.out]
  go_wp2_with (refine wp_loadAll rfl 37 (.tmp 2) rfl w.heap.size rfl X0.out Try.underlying37 rfl Try.sizeArea ?_)
  refine (hb _).mono ?_
  rintro e W1 ⟨rfl, g1⟩
  have G1 : Hid (Grew w W1) := HG0.out.trans g1
  have Y1 : Hid (Box W1 (w.heap.size + 1) [.int .i64 0, .int .i64 0, .bool false, .bool false, .bool false, .int .i64 0, .int .i64 0]) := Y0.out.grew g1
  clear g1 hb
  obtain ⟨p, HP⟩ : ∃ p, Hid (W1.heap.size = p) := ⟨_, rfl⟩
  have HL : Hid (w.heap.size + 1 < p) := show _ < _ by rw [← HP.out]; exact Y1.out.lt
  go_upto_region 2 with fail
  obtain ⟨W2, hW2⟩ : ∃ W2, W1.alloc (.cells #[.int .i64 (n : Int), .int .i64 a.to, .bool a.rd, .bool a.wr, .bool a.sh, .int .i64 a.file, .int .i64 nb] 37) = W2 := ⟨_, rfl⟩
  have G2 : Hid (Grew w W2) := show Grew _ _ by rw [← hW2]; exact G1.out.trans (grew_alloc _ _)
  have Y2 : Hid (Box W2 (w.heap.size + 1) [.int .i64 0, .int .i64 0, .bool false, .bool false, .bool false, .int .i64 0, .int .i64 0]) := show Box _ _ _ by rw [← hW2]; exact Y1.out.alloc _
  have Z2 : Hid (Box W2 p [.int .i64 (n : Int), .int .i64 a.to, .bool a.rd, .bool a.wr, .bool a.sh, .int .i64 a.file, .int .i64 nb]) := show Box _ _ _ by rw [← hW2]; exact Box.top _ _ _ HP.out.symm
  rw [hW2, HP.out]
  clear hW2
  have z1 := Z2.out.c 1 rfl
  have zf := Z2.out.f
  go_upto_region 3 with fail
  obtain ⟨W3, hW3⟩ : ∃ W3, W2.setCell ⟨p, 1, none⟩ (.int .i64 ((n : Int) + 1)) = W3 := ⟨_, rfl⟩
  have G3 : Hid (Grew w W3) := show Grew _ _ by rw [← hW3]; exact grew_set G2.out (by have := HL.out; simp; omega) _
  have Y3 : Hid (Box W3 (w.heap.size + 1) [.int .i64 0, .int .i64 0, .bool false, .bool false, .bool false, .int .i64 0, .int .i64 0]) := show Box _ _ _ by rw [← hW3]; exact Y2.out.other (by have := HL.out; simp; omega) _
  have Z3 : Hid (Box W3 p [.int .i64 (n : Int), .int .i64 ((n : Int) + 1), .bool a.rd, .bool a.wr, .bool a.sh, .int .i64 a.file, .int .i64 nb]) := show Box _ _ _ by rw [← hW3]; exact Z2.out.set 1 _
  rw [hW3]
  clear hW3 z1 zf
  go_wp2_with (first | refine wp_loadAll rfl 37 (.tmp 5) rfl p rfl Z3.out Try.underlying37 rfl Try.sizeArea ?_ | refine wp_storeAll rfl 37 (.tmp 4) (.tmp 12) rfl (w.heap.size + 1) rfl _ rfl Y3.out rfl Try.sizeArea (arE.one ⟨n, (n : Int) + 1, a.rd, a.wr, a.sh, a.file, nb⟩) ?_)
  intro W4 b4 g4 s4
  have G4 : Hid (Grew w W4) := grew_grown G3.out g4 (by simp)
  have B4 : Hid (Box W4 (w.heap.size + 1) [.int .i64 (n : Int), .int .i64 ((n : Int) + 1), .bool a.rd, .bool a.wr, .bool a.sh, .int .i64 a.file, .int .i64 nb]) := b4
  clear b4 g4 s4
  go_wp2
  refine bodyPost_ret (ret_cell rfl _ rfl B4.out Try.underlying37 rfl Try.sizeArea) rfl ⟨rfl, G4.out⟩

set_option maxRecDepth 100000 in
set_option maxHeartbeats 1000000 in
theorem goesOn_any (a b : Ar) (w : World) (hbk : ArOk b) : Calls Try.prog 37 #[.agg #[.int .i64 a.fr, .int .i64 a.to, .bool a.rd, .bool a.wr, .bool a.sh, .int .i64 a.file, .int .i64 a.base], .agg #[.int .i64 b.fr, .int .i64 b.to, .bool b.rd, .bool b.wr, .bool b.sh, .int .i64 b.file, .int .i64 b.base]] w fun e w' => e = .returned (.bool (goB a b)) ∧ Grew w w' := by
  have hb : ∀ W, Calls Try.prog 56 #[.agg #[.int .i64 b.fr, .int .i64 b.to, .bool b.rd, .bool b.wr, .bool b.sh, .int .i64 b.file, .int .i64 b.base], .int .i64 b.to] W fun e w' => e = .returned (arA (behindA b b.to)) ∧ Grew W w' := fun W => behind_any b b.to W hbk (by have := hbk; unfold ArOk at this; omega)
  have hq := fun W => ar_eq a.fr b.to a.to a.to a.rd b.rd a.wr b.wr a.sh b.sh a.file b.file a.base (behindA b b.to).base W
  have he := goes_eq (a := a) (b := b)
  rw [show (⟨a.fr, a.to, a.rd, a.wr, a.sh, a.file, a.base⟩ : Ar) = a from rfl] at hq
  rw [he] at hq
  rw [behindA_form] at hb
  generalize (behindA b b.to).base = nb at hb hq
  clear he hbk
  generalize goB a b = R at hq ⊢
  obtain ⟨W0, hW0⟩ : ∃ W0, (w.alloc (.cells #[.int .i64 a.fr, .int .i64 a.to, .bool a.rd, .bool a.wr, .bool a.sh, .int .i64 a.file, .int .i64 a.base] 37)).alloc (.cells #[.int .i64 b.fr, .int .i64 b.to, .bool b.rd, .bool b.wr, .bool b.sh, .int .i64 b.file, .int .i64 b.base] 37) = W0 := ⟨_, rfl⟩
  have HG0 : Hid (Grew w W0) := show Grew w W0 by rw [← hW0]; exact (grew_alloc _ _).trans (grew_alloc _ _)
  have X0 : Hid (Box W0 w.heap.size [.int .i64 a.fr, .int .i64 a.to, .bool a.rd, .bool a.wr, .bool a.sh, .int .i64 a.file, .int .i64 a.base]) := show Box _ _ _ by rw [← hW0]; exact (Box.top w _ _ rfl).alloc _
  have Y0 : Hid (Box W0 (w.heap.size + 1) [.int .i64 b.fr, .int .i64 b.to, .bool b.rd, .bool b.wr, .bool b.sh, .int .i64 b.file, .int .i64 b.base]) := show Box _ _ _ by rw [← hW0]; exact Box.top _ _ _ (by simp)
  have HW0 : Hid (_ = W0) := hW0
  clear hW0
  go_enter Try.func37, Try.ntmps37
  go_upto_region 1 with fail
  rw [HW0.out]
  have y1 := Y0.out.c 1 rfl
  go_wp2_with (refine wp_loadAll rfl 37 (.tmp 3) rfl (w.heap.size + 1) rfl Y0.out Try.underlying37 rfl Try.sizeArea ?_)
  refine (hb _).mono ?_
  rintro e W1 ⟨rfl, g1⟩
  have G1 : Hid (Grew w W1) := HG0.out.trans g1
  have X1 : Hid (Box W1 w.heap.size [.int .i64 a.fr, .int .i64 a.to, .bool a.rd, .bool a.wr, .bool a.sh, .int .i64 a.file, .int .i64 a.base]) := X0.out.grew g1
  clear g1 hb y1
  obtain ⟨p, HP⟩ : ∃ p, Hid (W1.heap.size = p) := ⟨_, rfl⟩
  have HL : Hid (w.heap.size < p) := show _ < _ by rw [← HP.out]; exact X1.out.lt
  go_upto_region 2 with fail
  obtain ⟨W2, hW2⟩ : ∃ W2, W1.alloc (.cells #[.int .i64 b.to, .int .i64 b.to, .bool b.rd, .bool b.wr, .bool b.sh, .int .i64 b.file, .int .i64 nb] 37) = W2 := ⟨_, rfl⟩
  have G2 : Hid (Grew w W2) := show Grew _ _ by rw [← hW2]; exact G1.out.trans (grew_alloc _ _)
  have X2 : Hid (Box W2 w.heap.size [.int .i64 a.fr, .int .i64 a.to, .bool a.rd, .bool a.wr, .bool a.sh, .int .i64 a.file, .int .i64 a.base]) := show Box _ _ _ by rw [← hW2]; exact X1.out.alloc _
  have Z2 : Hid (Box W2 p [.int .i64 b.to, .int .i64 b.to, .bool b.rd, .bool b.wr, .bool b.sh, .int .i64 b.file, .int .i64 nb]) := show Box _ _ _ by rw [← hW2]; exact Box.top _ _ _ HP.out.symm
  rw [hW2, HP.out]
  clear hW2
  have x1 := X2.out.c 1 rfl
  have z1 := Z2.out.c 1 rfl
  have zf := Z2.out.f
  go_upto_region 3 with fail
  obtain ⟨W3, hW3⟩ : ∃ W3, W2.setCell ⟨p, 1, none⟩ (.int .i64 a.to) = W3 := ⟨_, rfl⟩
  have G3 : Hid (Grew w W3) := show Grew _ _ by rw [← hW3]; exact grew_set G2.out (by have := HL.out; simp; omega) _
  have X3 : Hid (Box W3 w.heap.size [.int .i64 a.fr, .int .i64 a.to, .bool a.rd, .bool a.wr, .bool a.sh, .int .i64 a.file, .int .i64 a.base]) := show Box _ _ _ by rw [← hW3]; exact X2.out.other (by have := HL.out; simp; omega) _
  have Z3 : Hid (Box W3 p [.int .i64 b.to, .int .i64 a.to, .bool b.rd, .bool b.wr, .bool b.sh, .int .i64 b.file, .int .i64 nb]) := show Box _ _ _ by rw [← hW3]; exact Z2.out.set 1 _
  rw [hW3]
  clear hW3 x1 z1 zf
  go_wp2_with (first | refine wp_loadAll rfl 37 (.tmp 5) rfl p rfl Z3.out Try.underlying37 rfl Try.sizeArea ?_ | refine wp_loadAll rfl 37 (.tmp 2) rfl w.heap.size rfl X3.out Try.underlying37 rfl Try.sizeArea ?_)
  go_ret
  exact ⟨rfl, G3.out⟩

end Go.Proofs.Ytlkgmjdhggfimad
