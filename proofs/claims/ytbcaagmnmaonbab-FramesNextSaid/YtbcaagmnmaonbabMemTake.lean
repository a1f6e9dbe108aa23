/- Contract of Take (package frames). -/
import Derived.Test.YtbcaagmnmaonbabMemIndex
namespace Go.Proofs.Ytbcaagmnmaonbab
open Go.RowKit

set_option maxRecDepth 100000 in
set_option maxHeartbeats 1000000 in
theorem takeA (a : Option Addr) (c : Nat) (fs : List Fr) (h : Int) (p : Pg) (fi ix : Int) (w : World) (hv : RowAt w (.slice a fs.length c) fs) (z : Int) (hz : memW fs h = z) (hzb : (z != 0) = true) :
    Calls Try.prog 17 #[.agg #[.slice a fs.length c, .int .i64 h], .agg (pgv p).toArray, .int .i64 fi, .int .i64 ix] w fun e w' => ∃ b, e = .returned (.tuple #[.agg #[b, .int .i64 0], .int .i64 0, .int .i64 z]) ∧ NewRow w.heap.size w' b ([] : List Fr) ∧ Grew w w' := by
  have HV : Hid (RowAt w (.slice a fs.length c) fs) := hv
  have hw : ∀ W, Grew w W → Calls Try.prog 11 #[.agg #[.slice a fs.length c, .int .i64 h]] W fun e w' => e = .returned (.int .i64 (memW fs h)) ∧ Grew W w' := fun W hW => wrongMem_any a c fs h W (HV.out.grew hW)
  have hf : ∀ W, Calls Try.prog 31 #[.agg #[.int .u8 p.b0, .int .u8 p.b1, .int .u8 p.b2, .int .u8 p.b3, .int .u8 p.b4, .int .u8 p.b5, .int .u8 p.b6, .int .u8 p.b7, .int .i64 1, .bool true, .bool false, .int .i64 fi, .int .i64 ix]] W fun e w' => e = .returned (.int .i64 (frW (frT p fi ix))) ∧ Grew W w' := fun W => wrongFrame_any (frT p fi ix) W
  have hx : ∀ W, Grew w W → Calls Try.prog 37 #[.slice a fs.length c, .func (.func 38) #[] #[]] W fun e w' => e = .returned (.int .i64 (idxI fs)) ∧ Grew W w' := fun W hW => indexFrames_any _ fs W (HV.out.grew hW)
  have ho : ∀ W, Grew w W → Calls Try.prog 14 #[.agg #[.slice a fs.length c, .int .i64 h]] W fun e w' => ∃ b, e = .returned (.agg #[b, .int .i64 h]) ∧ OwnRow W.heap.size w' b fs ∧ Grew W w' := fun W hW => ownMem_any a c fs h W (HV.out.grew hW)
  clear hv
  obtain ⟨n, HN⟩ : ∃ n, Hid (fs.length = n) := ⟨_, rfl⟩
  simp only [HN.out] at hw hx ho HV ⊢
  simp only [hz] at hw
  clear hz
  show Calls Try.prog 17 #[.agg #[.slice a n c, .int .i64 h], .agg #[.int .u8 p.b0, .int .u8 p.b1, .int .u8 p.b2, .int .u8 p.b3, .int .u8 p.b4, .int .u8 p.b5, .int .u8 p.b6, .int .u8 p.b7], .int .i64 fi, .int .i64 ix] w _
  obtain ⟨W0, hW0⟩ : ∃ W0, (((w.alloc (.cells #[.slice a n c, .int .i64 h] 39)).alloc (.cells #[.int .u8 p.b0, .int .u8 p.b1, .int .u8 p.b2, .int .u8 p.b3, .int .u8 p.b4, .int .u8 p.b5, .int .u8 p.b6, .int .u8 p.b7] 31)).alloc (.cells #[.slice none 0 0, .int .i64 0] 39)) = W0 := ⟨_, rfl⟩
  have HG0 : Hid (Grew w W0) := show Grew w W0 by rw [← hW0]; exact ((grew_alloc _ _).trans (grew_alloc _ _)).trans (grew_alloc _ _)
  have X0 : Hid (Box W0 w.heap.size [.slice a n c, .int .i64 h]) := show Box _ _ _ by rw [← hW0]; exact ((Box.top w _ _ rfl).alloc _).alloc _
  have X1 : Hid (Box W0 (w.heap.size + 1) [.int .u8 p.b0, .int .u8 p.b1, .int .u8 p.b2, .int .u8 p.b3, .int .u8 p.b4, .int .u8 p.b5, .int .u8 p.b6, .int .u8 p.b7]) := show Box _ _ _ by rw [← hW0]; exact (Box.top _ _ _ (by simp)).alloc _
  have X2 : Hid (Box W0 (w.heap.size + 2) [.slice none 0 0, .int .i64 0]) := show Box _ _ _ by rw [← hW0]; exact Box.top _ _ _ (by simp)
  have HW0 : Hid (_ = W0) := hW0
  clear hW0
  go_enter Try.func17, Try.ntmps17
  go_upto_region 1 with fail
  rw [HW0.out]
  have e0 := X0.out.c 0 rfl
  have e1 := X0.out.c 1 rfl
  go_wp2_with fail
  refine (hw _ HG0.out).mono ?_
  rintro e W1 ⟨rfl, g1⟩
  have G1 : Hid (Grew W0 W1) := g1
  clear g1 e0 e1 hw
  have r0 := (X2.out.grew G1.out).c 0 rfl
  have r1 := (X2.out.grew G1.out).c 1 rfl
  have rf := (X2.out.grew G1.out).f
  go_wp2
  refine bodyPost_ret (v := .tuple #[.agg #[.slice none 0 0, .int .i64 0], .int .i64 0, .int .i64 z]) (by simp [results, Try.results17, go_sem, *]) rfl ⟨_, rfl, NewRow.nil _ _, ?_⟩
  exact grew_set (grew_set (HG0.out.trans G1.out) (by simp; omega) _) (by simp; omega) _

set_option maxRecDepth 100000 in
set_option maxHeartbeats 1000000 in
theorem takeB (a : Option Addr) (c : Nat) (fs : List Fr) (h : Int) (p : Pg) (fi ix : Int) (w : World) (hv : RowAt w (.slice a fs.length c) fs) (hz : memW fs h = 0) (z : Int) (hy : frW (frT p fi ix) = z) (hzb : (z != 0) = true) :
    Calls Try.prog 17 #[.agg #[.slice a fs.length c, .int .i64 h], .agg (pgv p).toArray, .int .i64 fi, .int .i64 ix] w fun e w' => ∃ b, e = .returned (.tuple #[.agg #[b, .int .i64 0], .int .i64 0, .int .i64 z]) ∧ NewRow w.heap.size w' b ([] : List Fr) ∧ Grew w w' := by
  have HV : Hid (RowAt w (.slice a fs.length c) fs) := hv
  have hw : ∀ W, Grew w W → Calls Try.prog 11 #[.agg #[.slice a fs.length c, .int .i64 h]] W fun e w' => e = .returned (.int .i64 (memW fs h)) ∧ Grew W w' := fun W hW => wrongMem_any a c fs h W (HV.out.grew hW)
  have hf : ∀ W, Calls Try.prog 31 #[.agg #[.int .u8 p.b0, .int .u8 p.b1, .int .u8 p.b2, .int .u8 p.b3, .int .u8 p.b4, .int .u8 p.b5, .int .u8 p.b6, .int .u8 p.b7, .int .i64 1, .bool true, .bool false, .int .i64 fi, .int .i64 ix]] W fun e w' => e = .returned (.int .i64 (frW (frT p fi ix))) ∧ Grew W w' := fun W => wrongFrame_any (frT p fi ix) W
  have hx : ∀ W, Grew w W → Calls Try.prog 37 #[.slice a fs.length c, .func (.func 38) #[] #[]] W fun e w' => e = .returned (.int .i64 (idxI fs)) ∧ Grew W w' := fun W hW => indexFrames_any _ fs W (HV.out.grew hW)
  have ho : ∀ W, Grew w W → Calls Try.prog 14 #[.agg #[.slice a fs.length c, .int .i64 h]] W fun e w' => ∃ b, e = .returned (.agg #[b, .int .i64 h]) ∧ OwnRow W.heap.size w' b fs ∧ Grew W w' := fun W hW => ownMem_any a c fs h W (HV.out.grew hW)
  clear hv
  obtain ⟨n, HN⟩ : ∃ n, Hid (fs.length = n) := ⟨_, rfl⟩
  simp only [HN.out] at hw hx ho HV ⊢
  simp only [hz] at hw
  clear hz
  simp only [hy] at hf
  clear hy
  show Calls Try.prog 17 #[.agg #[.slice a n c, .int .i64 h], .agg #[.int .u8 p.b0, .int .u8 p.b1, .int .u8 p.b2, .int .u8 p.b3, .int .u8 p.b4, .int .u8 p.b5, .int .u8 p.b6, .int .u8 p.b7], .int .i64 fi, .int .i64 ix] w _
  obtain ⟨W0, hW0⟩ : ∃ W0, (((w.alloc (.cells #[.slice a n c, .int .i64 h] 39)).alloc (.cells #[.int .u8 p.b0, .int .u8 p.b1, .int .u8 p.b2, .int .u8 p.b3, .int .u8 p.b4, .int .u8 p.b5, .int .u8 p.b6, .int .u8 p.b7] 31)).alloc (.cells #[.slice none 0 0, .int .i64 0] 39)) = W0 := ⟨_, rfl⟩
  have HG0 : Hid (Grew w W0) := show Grew w W0 by rw [← hW0]; exact ((grew_alloc _ _).trans (grew_alloc _ _)).trans (grew_alloc _ _)
  have X0 : Hid (Box W0 w.heap.size [.slice a n c, .int .i64 h]) := show Box _ _ _ by rw [← hW0]; exact ((Box.top w _ _ rfl).alloc _).alloc _
  have X1 : Hid (Box W0 (w.heap.size + 1) [.int .u8 p.b0, .int .u8 p.b1, .int .u8 p.b2, .int .u8 p.b3, .int .u8 p.b4, .int .u8 p.b5, .int .u8 p.b6, .int .u8 p.b7]) := show Box _ _ _ by rw [← hW0]; exact (Box.top _ _ _ (by simp)).alloc _
  have X2 : Hid (Box W0 (w.heap.size + 2) [.slice none 0 0, .int .i64 0]) := show Box _ _ _ by rw [← hW0]; exact Box.top _ _ _ (by simp)
  have HW0 : Hid (_ = W0) := hW0
  clear hW0
  go_enter Try.func17, Try.ntmps17
  go_upto_region 1 with fail
  rw [HW0.out]
  have e0 := X0.out.c 0 rfl
  have e1 := X0.out.c 1 rfl
  go_wp2_with fail
  refine (hw _ HG0.out).mono ?_
  rintro e W1 ⟨rfl, g1⟩
  have G1 : Hid (Grew W0 W1) := g1
  clear g1 e0 e1 hw
  have p0 := (X1.out.grew G1.out).c 0 rfl
  have p1 := (X1.out.grew G1.out).c 1 rfl
  have p2 := (X1.out.grew G1.out).c 2 rfl
  have p3 := (X1.out.grew G1.out).c 3 rfl
  have p4 := (X1.out.grew G1.out).c 4 rfl
  have p5 := (X1.out.grew G1.out).c 5 rfl
  have p6 := (X1.out.grew G1.out).c 6 rfl
  have p7 := (X1.out.grew G1.out).c 7 rfl
  go_wp2_with fail
  refine (hf _).mono ?_
  rintro e W2 ⟨rfl, g2⟩
  have XT : Hid (Box W2 W1.heap.size [.int .u8 p.b0, .int .u8 p.b1, .int .u8 p.b2, .int .u8 p.b3, .int .u8 p.b4, .int .u8 p.b5, .int .u8 p.b6, .int .u8 p.b7, .int .i64 1, .bool true, .bool false, .int .i64 fi, .int .i64 ix]) := (Box.top W1 [.int .u8 p.b0, .int .u8 p.b1, .int .u8 p.b2, .int .u8 p.b3, .int .u8 p.b4, .int .u8 p.b5, .int .u8 p.b6, .int .u8 p.b7, .int .i64 1, .bool true, .bool false, .int .i64 fi, .int .i64 ix] _ rfl).grew g2
  have G2 : Hid (Grew W0 W2) := (G1.out.trans (grew_alloc _ _)).trans g2
  clear g2 p0 p1 p2 p3 p4 p5 p6 p7 hf
  have r0 := (X2.out.grew G2.out).c 0 rfl
  have r1 := (X2.out.grew G2.out).c 1 rfl
  have rf := (X2.out.grew G2.out).f
  go_wp2
  refine bodyPost_ret (v := .tuple #[.agg #[.slice none 0 0, .int .i64 0], .int .i64 0, .int .i64 z]) (by simp [results, Try.results17, go_sem, *]) rfl ⟨_, rfl, NewRow.nil _ _, ?_⟩
  exact grew_set (grew_set (HG0.out.trans G2.out) (by simp; omega) _) (by simp; omega) _

set_option maxRecDepth 100000 in
set_option maxHeartbeats 1000000 in
theorem takeC (a : Option Addr) (c : Nat) (fs : List Fr) (h : Int) (p : Pg) (fi ix : Int) (w : World) (hv : RowAt w (.slice a fs.length c) fs) (hz : memW fs h = 0) (hy : frW (frT p fi ix) = 0) (hk : idxI fs = -1) :
    Calls Try.prog 17 #[.agg #[.slice a fs.length c, .int .i64 h], .agg (pgv p).toArray, .int .i64 fi, .int .i64 ix] w fun e w' => ∃ b, e = .returned (.tuple #[.agg #[b, .int .i64 0], .int .i64 0, .int .i64 10]) ∧ NewRow w.heap.size w' b ([] : List Fr) ∧ Grew w w' := by
  have HV : Hid (RowAt w (.slice a fs.length c) fs) := hv
  have hw : ∀ W, Grew w W → Calls Try.prog 11 #[.agg #[.slice a fs.length c, .int .i64 h]] W fun e w' => e = .returned (.int .i64 (memW fs h)) ∧ Grew W w' := fun W hW => wrongMem_any a c fs h W (HV.out.grew hW)
  have hf : ∀ W, Calls Try.prog 31 #[.agg #[.int .u8 p.b0, .int .u8 p.b1, .int .u8 p.b2, .int .u8 p.b3, .int .u8 p.b4, .int .u8 p.b5, .int .u8 p.b6, .int .u8 p.b7, .int .i64 1, .bool true, .bool false, .int .i64 fi, .int .i64 ix]] W fun e w' => e = .returned (.int .i64 (frW (frT p fi ix))) ∧ Grew W w' := fun W => wrongFrame_any (frT p fi ix) W
  have hx : ∀ W, Grew w W → Calls Try.prog 37 #[.slice a fs.length c, .func (.func 38) #[] #[]] W fun e w' => e = .returned (.int .i64 (idxI fs)) ∧ Grew W w' := fun W hW => indexFrames_any _ fs W (HV.out.grew hW)
  have ho : ∀ W, Grew w W → Calls Try.prog 14 #[.agg #[.slice a fs.length c, .int .i64 h]] W fun e w' => ∃ b, e = .returned (.agg #[b, .int .i64 h]) ∧ OwnRow W.heap.size w' b fs ∧ Grew W w' := fun W hW => ownMem_any a c fs h W (HV.out.grew hW)
  clear hv
  obtain ⟨n, HN⟩ : ∃ n, Hid (fs.length = n) := ⟨_, rfl⟩
  simp only [HN.out] at hw hx ho HV ⊢
  simp only [hz] at hw
  clear hz
  simp only [hy] at hf
  clear hy
  simp only [hk] at hx
  clear hk
  show Calls Try.prog 17 #[.agg #[.slice a n c, .int .i64 h], .agg #[.int .u8 p.b0, .int .u8 p.b1, .int .u8 p.b2, .int .u8 p.b3, .int .u8 p.b4, .int .u8 p.b5, .int .u8 p.b6, .int .u8 p.b7], .int .i64 fi, .int .i64 ix] w _
  obtain ⟨W0, hW0⟩ : ∃ W0, (((w.alloc (.cells #[.slice a n c, .int .i64 h] 39)).alloc (.cells #[.int .u8 p.b0, .int .u8 p.b1, .int .u8 p.b2, .int .u8 p.b3, .int .u8 p.b4, .int .u8 p.b5, .int .u8 p.b6, .int .u8 p.b7] 31)).alloc (.cells #[.slice none 0 0, .int .i64 0] 39)) = W0 := ⟨_, rfl⟩
  have HG0 : Hid (Grew w W0) := show Grew w W0 by rw [← hW0]; exact ((grew_alloc _ _).trans (grew_alloc _ _)).trans (grew_alloc _ _)
  have X0 : Hid (Box W0 w.heap.size [.slice a n c, .int .i64 h]) := show Box _ _ _ by rw [← hW0]; exact ((Box.top w _ _ rfl).alloc _).alloc _
  have X1 : Hid (Box W0 (w.heap.size + 1) [.int .u8 p.b0, .int .u8 p.b1, .int .u8 p.b2, .int .u8 p.b3, .int .u8 p.b4, .int .u8 p.b5, .int .u8 p.b6, .int .u8 p.b7]) := show Box _ _ _ by rw [← hW0]; exact (Box.top _ _ _ (by simp)).alloc _
  have X2 : Hid (Box W0 (w.heap.size + 2) [.slice none 0 0, .int .i64 0]) := show Box _ _ _ by rw [← hW0]; exact Box.top _ _ _ (by simp)
  have HW0 : Hid (_ = W0) := hW0
  clear hW0
  go_enter Try.func17, Try.ntmps17
  go_upto_region 1 with fail
  rw [HW0.out]
  have e0 := X0.out.c 0 rfl
  have e1 := X0.out.c 1 rfl
  go_wp2_with fail
  refine (hw _ HG0.out).mono ?_
  rintro e W1 ⟨rfl, g1⟩
  have G1 : Hid (Grew W0 W1) := g1
  clear g1 e0 e1 hw
  have p0 := (X1.out.grew G1.out).c 0 rfl
  have p1 := (X1.out.grew G1.out).c 1 rfl
  have p2 := (X1.out.grew G1.out).c 2 rfl
  have p3 := (X1.out.grew G1.out).c 3 rfl
  have p4 := (X1.out.grew G1.out).c 4 rfl
  have p5 := (X1.out.grew G1.out).c 5 rfl
  have p6 := (X1.out.grew G1.out).c 6 rfl
  have p7 := (X1.out.grew G1.out).c 7 rfl
  go_wp2_with fail
  refine (hf _).mono ?_
  rintro e W2 ⟨rfl, g2⟩
  have XT : Hid (Box W2 W1.heap.size [.int .u8 p.b0, .int .u8 p.b1, .int .u8 p.b2, .int .u8 p.b3, .int .u8 p.b4, .int .u8 p.b5, .int .u8 p.b6, .int .u8 p.b7, .int .i64 1, .bool true, .bool false, .int .i64 fi, .int .i64 ix]) := (Box.top W1 [.int .u8 p.b0, .int .u8 p.b1, .int .u8 p.b2, .int .u8 p.b3, .int .u8 p.b4, .int .u8 p.b5, .int .u8 p.b6, .int .u8 p.b7, .int .i64 1, .bool true, .bool false, .int .i64 fi, .int .i64 ix] _ rfl).grew g2
  have G2 : Hid (Grew W0 W2) := (G1.out.trans (grew_alloc _ _)).trans g2
  clear g2 p0 p1 p2 p3 p4 p5 p6 p7 hf
  have e0 := (X0.out.grew G2.out).c 0 rfl
  go_wp2_with fail
  refine (hx _ (HG0.out.trans G2.out)).mono ?_
  rintro e W3 ⟨rfl, g3⟩
  have G3 : Hid (Grew W0 W3) := G2.out.trans g3
  have XT3 := XT.out.grew g3
  clear g3 e0 hx
  clear XT3
  have r0 := (X2.out.grew G3.out).c 0 rfl
  have r1 := (X2.out.grew G3.out).c 1 rfl
  have rf := (X2.out.grew G3.out).f
  go_wp2
  refine bodyPost_ret (v := .tuple #[.agg #[.slice none 0 0, .int .i64 0], .int .i64 0, .int .i64 10]) (by simp [results, Try.results17, go_sem, *]) rfl ⟨_, rfl, NewRow.nil _ _, ?_⟩
  exact grew_set (grew_set (HG0.out.trans G3.out) (by simp; omega) _) (by simp; omega) _

set_option maxRecDepth 100000 in
set_option maxHeartbeats 1000000 in
theorem takeD (a : Option Addr) (c : Nat) (fs : List Fr) (h : Int) (p : Pg) (fi ix : Int) (w : World) (hv : RowAt w (.slice a fs.length c) fs) (hz : memW fs h = 0) (hy : frW (frT p fi ix) = 0) (k : Nat) (hk : idxI fs = (k : Int)) (hkl : k < fs.length) :
    Calls Try.prog 17 #[.agg #[.slice a fs.length c, .int .i64 h], .agg (pgv p).toArray, .int .i64 fi, .int .i64 ix] w fun e w' => ∃ b, e = .returned (.tuple #[.agg #[b, .int .i64 h], .int .i64 (k : Int), .int .i64 0]) ∧ NewRow w.heap.size w' b (fs.set k (frT p fi ix)) ∧ Grew w w' := by
  have HV : Hid (RowAt w (.slice a fs.length c) fs) := hv
  have hw : ∀ W, Grew w W → Calls Try.prog 11 #[.agg #[.slice a fs.length c, .int .i64 h]] W fun e w' => e = .returned (.int .i64 (memW fs h)) ∧ Grew W w' := fun W hW => wrongMem_any a c fs h W (HV.out.grew hW)
  have hf : ∀ W, Calls Try.prog 31 #[.agg #[.int .u8 p.b0, .int .u8 p.b1, .int .u8 p.b2, .int .u8 p.b3, .int .u8 p.b4, .int .u8 p.b5, .int .u8 p.b6, .int .u8 p.b7, .int .i64 1, .bool true, .bool false, .int .i64 fi, .int .i64 ix]] W fun e w' => e = .returned (.int .i64 (frW (frT p fi ix))) ∧ Grew W w' := fun W => wrongFrame_any (frT p fi ix) W
  have hx : ∀ W, Grew w W → Calls Try.prog 37 #[.slice a fs.length c, .func (.func 38) #[] #[]] W fun e w' => e = .returned (.int .i64 (idxI fs)) ∧ Grew W w' := fun W hW => indexFrames_any _ fs W (HV.out.grew hW)
  have ho : ∀ W, Grew w W → Calls Try.prog 14 #[.agg #[.slice a fs.length c, .int .i64 h]] W fun e w' => ∃ b, e = .returned (.agg #[b, .int .i64 h]) ∧ OwnRow W.heap.size w' b fs ∧ Grew W w' := fun W hW => ownMem_any a c fs h W (HV.out.grew hW)
  clear hv
  obtain ⟨n, HN⟩ : ∃ n, Hid (fs.length = n) := ⟨_, rfl⟩
  simp only [HN.out] at hw hx ho HV ⊢
  simp only [hz] at hw
  clear hz
  simp only [hy] at hf
  clear hy
  simp only [hk] at hx
  clear hk
  rw [HN.out] at hkl
  have hkz : (k : Int) < (n : Int) := by omega
  have hbig : n ≤ 9223372036854775807 := by have := HV.out.short; rw [HN.out] at this; exact this
  show Calls Try.prog 17 #[.agg #[.slice a n c, .int .i64 h], .agg #[.int .u8 p.b0, .int .u8 p.b1, .int .u8 p.b2, .int .u8 p.b3, .int .u8 p.b4, .int .u8 p.b5, .int .u8 p.b6, .int .u8 p.b7], .int .i64 fi, .int .i64 ix] w _
  obtain ⟨W0, hW0⟩ : ∃ W0, (((w.alloc (.cells #[.slice a n c, .int .i64 h] 39)).alloc (.cells #[.int .u8 p.b0, .int .u8 p.b1, .int .u8 p.b2, .int .u8 p.b3, .int .u8 p.b4, .int .u8 p.b5, .int .u8 p.b6, .int .u8 p.b7] 31)).alloc (.cells #[.slice none 0 0, .int .i64 0] 39)) = W0 := ⟨_, rfl⟩
  have HG0 : Hid (Grew w W0) := show Grew w W0 by rw [← hW0]; exact ((grew_alloc _ _).trans (grew_alloc _ _)).trans (grew_alloc _ _)
  have X0 : Hid (Box W0 w.heap.size [.slice a n c, .int .i64 h]) := show Box _ _ _ by rw [← hW0]; exact ((Box.top w _ _ rfl).alloc _).alloc _
  have X1 : Hid (Box W0 (w.heap.size + 1) [.int .u8 p.b0, .int .u8 p.b1, .int .u8 p.b2, .int .u8 p.b3, .int .u8 p.b4, .int .u8 p.b5, .int .u8 p.b6, .int .u8 p.b7]) := show Box _ _ _ by rw [← hW0]; exact (Box.top _ _ _ (by simp)).alloc _
  have X2 : Hid (Box W0 (w.heap.size + 2) [.slice none 0 0, .int .i64 0]) := show Box _ _ _ by rw [← hW0]; exact Box.top _ _ _ (by simp)
  have HW0 : Hid (_ = W0) := hW0
  clear hW0
  go_enter Try.func17, Try.ntmps17
  go_upto_region 1 with fail
  rw [HW0.out]
  have e0 := X0.out.c 0 rfl
  have e1 := X0.out.c 1 rfl
  go_wp2_with fail
  refine (hw _ HG0.out).mono ?_
  rintro e W1 ⟨rfl, g1⟩
  have G1 : Hid (Grew W0 W1) := g1
  clear g1 e0 e1 hw
  have p0 := (X1.out.grew G1.out).c 0 rfl
  have p1 := (X1.out.grew G1.out).c 1 rfl
  have p2 := (X1.out.grew G1.out).c 2 rfl
  have p3 := (X1.out.grew G1.out).c 3 rfl
  have p4 := (X1.out.grew G1.out).c 4 rfl
  have p5 := (X1.out.grew G1.out).c 5 rfl
  have p6 := (X1.out.grew G1.out).c 6 rfl
  have p7 := (X1.out.grew G1.out).c 7 rfl
  go_wp2_with fail
  refine (hf _).mono ?_
  rintro e W2 ⟨rfl, g2⟩
  have XT : Hid (Box W2 W1.heap.size [.int .u8 p.b0, .int .u8 p.b1, .int .u8 p.b2, .int .u8 p.b3, .int .u8 p.b4, .int .u8 p.b5, .int .u8 p.b6, .int .u8 p.b7, .int .i64 1, .bool true, .bool false, .int .i64 fi, .int .i64 ix]) := (Box.top W1 [.int .u8 p.b0, .int .u8 p.b1, .int .u8 p.b2, .int .u8 p.b3, .int .u8 p.b4, .int .u8 p.b5, .int .u8 p.b6, .int .u8 p.b7, .int .i64 1, .bool true, .bool false, .int .i64 fi, .int .i64 ix] _ rfl).grew g2
  have G2 : Hid (Grew W0 W2) := (G1.out.trans (grew_alloc _ _)).trans g2
  clear g2 p0 p1 p2 p3 p4 p5 p6 p7 hf
  have e0 := (X0.out.grew G2.out).c 0 rfl
  go_wp2_with fail
  refine (hx _ (HG0.out.trans G2.out)).mono ?_
  rintro e W3 ⟨rfl, g3⟩
  have G3 : Hid (Grew W0 W3) := G2.out.trans g3
  have XT3 := XT.out.grew g3
  clear g3 e0 hx
  have XT4 : Hid (Box W3 W1.heap.size [.int .u8 p.b0, .int .u8 p.b1, .int .u8 p.b2, .int .u8 p.b3, .int .u8 p.b4, .int .u8 p.b5, .int .u8 p.b6, .int .u8 p.b7, .int .i64 1, .bool true, .bool false, .int .i64 fi, .int .i64 ix]) := XT3
  have e0 := (X0.out.grew G3.out).c 0 rfl
  have e1 := (X0.out.grew G3.out).c 1 rfl
  clear XT3
  go_wp2_with fail
  refine (ho _ (HG0.out.trans G3.out)).mono ?_
  rintro e W4 ⟨b, rfl, hown, g4⟩
  obtain ⟨g, cv, rfl⟩ := hown.formS (by rw [HN.out]; omega)
  rw [HN.out] at hown ⊢
  have OW : Hid (OwnRow W3.heap.size W4 (.slice (some ⟨g, 0, none⟩) n cv) fs) := hown
  have G4 : Hid (Grew W0 W4) := G3.out.trans g4
  have XT5 : Hid (Box W4 W1.heap.size [.int .u8 p.b0, .int .u8 p.b1, .int .u8 p.b2, .int .u8 p.b3, .int .u8 p.b4, .int .u8 p.b5, .int .u8 p.b6, .int .u8 p.b7, .int .i64 1, .bool true, .bool false, .int .i64 fi, .int .i64 ix]) := XT4.out.grew g4
  have g34 : Hid (W3.heap.size ≤ W4.heap.size) := Below.size g4
  have hxt := XT4.out.lt
  clear hown g4 e0 e1 ho
  have hxt' := XT5.out.lt
  have x0 := XT5.out.c 0 rfl
  have x1 := XT5.out.c 1 rfl
  have x2 := XT5.out.c 2 rfl
  have x3 := XT5.out.c 3 rfl
  have x4 := XT5.out.c 4 rfl
  have x5 := XT5.out.c 5 rfl
  have x6 := XT5.out.c 6 rfl
  have x7 := XT5.out.c 7 rfl
  have x8 := XT5.out.c 8 rfl
  have x9 := XT5.out.c 9 rfl
  have x10 := XT5.out.c 10 rfl
  have x11 := XT5.out.c 11 rfl
  have x12 := XT5.out.c 12 rfl
  have hgl := OW.out.lt g rfl
  go_wp2_with (refine wpList_store_elt rfl (.tmp 44) (.tmp 43) rfl W3.heap.size _ fs (OW.out.grew (grew_alloc _ _)) g k rfl (frT p fi ix) (by rw [HN.out]; exact hkl) _ rfl (by simp) _ rfl rfl ?_)
  intro W5 ow5 gr5 sz5
  have OW5 : Hid (OwnRow W3.heap.size W5 (.slice (some ⟨g, 0, none⟩) n cv) (fs.set k (frT p fi ix))) := ow5
  have h34 := g34.out
  have hw4 : W0.heap.size ≤ W4.heap.size := Below.size G4.out
  have h03 : W0.heap.size ≤ W3.heap.size := Below.size G3.out
  have hx2 := X2.out.lt
  have XO : Hid (Box W5 W4.heap.size [.slice (some ⟨g, 0, none⟩) n cv, .int .i64 h]) := (Box.top W4 _ _ rfl).beside gr5 (fun g' hg' => by cases hg'; omega)
  have X25 : Hid (Box W5 (w.heap.size + 2) [.slice none 0 0, .int .i64 0]) := ((X2.out.grew G4.out).alloc _).beside gr5 (fun g' hg' => by cases hg'; omega)
  have G5 : Hid (Grew W0 W5) := grew_beside (G4.out.trans (grew_alloc _ _)) gr5 (fun g' hg' => by cases hg'; omega)
  clear ow5 gr5 sz5 x0 x1 x2 x3 x4 x5 x6 x7 x8 x9 x10 x11 x12 hxt hxt'
  have o0 := XO.out.c 0 rfl
  have o1 := XO.out.c 1 rfl
  have r0 := X25.out.c 0 rfl
  have r1 := X25.out.c 1 rfl
  have rf := X25.out.f
  go_wp2
  refine bodyPost_ret (v := .tuple #[.agg #[.slice (some ⟨g, 0, none⟩) n cv, .int .i64 h], .int .i64 (k : Int), .int .i64 0]) (by simp [results, Try.results17, go_sem, *]) rfl ⟨_, rfl, ?_, ?_⟩
  · exact ((OW5.out.new.setCell (a := ⟨w.heap.size + 2, 0, none⟩) (by show w.heap.size + 2 < _; omega) _).setCell (a := ⟨w.heap.size + 2, 1, none⟩) (by show w.heap.size + 2 < _; omega) _).base (by have := Below.size HG0.out; omega)
  · exact grew_set (grew_set (HG0.out.trans G5.out) (by simp; omega) _) (by simp; omega) _

theorem take_any (a : Option Addr) (c : Nat) (fs : List Fr) (h : Int) (p : Pg) (fi ix : Int) (w : World) (hv : RowAt w (.slice a fs.length c) fs) :
    Calls Try.prog 17 #[.agg #[.slice a fs.length c, .int .i64 h], .agg (pgv p).toArray, .int .i64 fi, .int .i64 ix] w fun e w' => ∃ b, e = .returned (.tuple #[.agg #[b, .int .i64 (takeH fs h (frT p fi ix))], .int .i64 (takeI fs h (frT p fi ix)), .int .i64 (takeE fs h (frT p fi ix))]) ∧ NewRow w.heap.size w' b (takeF fs h (frT p fi ix)) ∧ Grew w w' := by
  unfold takeH takeI takeF
  by_cases hz : memW fs h = 0
  · by_cases hy : frW (frT p fi ix) = 0
    · by_cases hk : fs.findIdx isF < fs.length
      · rw [show takeE fs h (frT p fi ix) = 0 from by unfold takeE; rw [if_pos hz, if_pos hy, if_pos hk], if_pos rfl, if_pos rfl, if_pos rfl]
        exact takeD a c fs h p fi ix w hv hz hy _ (by unfold idxI; rw [if_pos hk]) hk
      · rw [show takeE fs h (frT p fi ix) = 10 from by unfold takeE; rw [if_pos hz, if_pos hy, if_neg hk], if_neg (by decide), if_neg (by decide), if_neg (by decide)]
        exact takeC a c fs h p fi ix w hv hz hy (by unfold idxI; rw [if_neg hk])
    · rw [show takeE fs h (frT p fi ix) = frW (frT p fi ix) from by unfold takeE; rw [if_pos hz, if_neg hy], if_neg hy, if_neg hy, if_neg hy]
      exact takeB a c fs h p fi ix w hv hz _ rfl (by simpa using hy)
  · rw [show takeE fs h (frT p fi ix) = memW fs h from by unfold takeE; rw [if_neg hz], if_neg hz, if_neg hz, if_neg hz]
    exact takeA a c fs h p fi ix w hv _ rfl (by simpa using hz)

end Go.Proofs.Ytbcaagmnmaonbab
