/- Contract of HoldFrame (the document's answer). -/
import Derived.Test.YtbcaagmnmaonbabMemHold
import Derived.Test.YtbcaagmnmaonbabMemWith
import Derived.Test.YtbcaagmnmaonbabMemRefWrong
namespace Go.Proofs.Ytbcaagmnmaonbab
open Go.RowKit

set_option maxRecDepth 100000 in
set_option maxHeartbeats 1000000 in
theorem rhdA (a : Option Addr) (c : Nat) (fs : List Fr) (h : Int) (k : Int) (nn : Int) (w : World) (hv : RowAt w (.slice a fs.length c) fs) (z : Int) (hz : memW fs h = z) (hzb : (z != 0) = true) :
    Calls Try.prog 20 #[.agg #[.slice a fs.length c, .int .i64 h], .int .i64 k, .int .i64 nn] w fun e w' => ∃ b, e = .returned (.tuple #[.agg #[b, .int .i64 0], .int .i64 z]) ∧ NewRow w.heap.size w' b ([] : List Fr) ∧ Grew w w' := by
  have HV : Hid (RowAt w (.slice a fs.length c) fs) := hv
  have hw : ∀ W, Grew w W → Calls Try.prog 12 #[.agg #[.slice a fs.length c, .int .i64 h]] W fun e w' => e = .returned (.int .i64 (memW fs h)) ∧ Grew W w' := fun W hW => refWrongMem_any a c fs h W (HV.out.grew hW)
  clear hv
  simp only [hz] at hw
  clear hz
  obtain ⟨n, HN⟩ : ∃ n, Hid (fs.length = n) := ⟨_, rfl⟩
  simp only [HN.out] at hw HV ⊢
  obtain ⟨W0, hW0⟩ : ∃ W0, (w.alloc (.cells #[.slice a n c, .int .i64 h] 39)).alloc (.cells #[.slice none 0 0, .int .i64 0] 39) = W0 := ⟨_, rfl⟩
  have HG0 : Hid (Grew w W0) := show Grew w W0 by rw [← hW0]; exact (grew_alloc _ _).trans (grew_alloc _ _)
  have X0 : Hid (Box W0 w.heap.size [.slice a n c, .int .i64 h]) := show Box _ _ _ by rw [← hW0]; exact (Box.top w _ _ rfl).alloc _
  have X2 : Hid (Box W0 (w.heap.size + 1) [.slice none 0 0, .int .i64 0]) := show Box _ _ _ by rw [← hW0]; exact Box.top _ _ _ (by simp)
  have HW0 : Hid (_ = W0) := hW0
  clear hW0
  go_enter Try.func20, Try.ntmps20
  go_upto_region 1 with fail
  rw [HW0.out]
  have e0 := X0.out.c 0 rfl
  have e1 := X0.out.c 1 rfl
  go_wp2_with fail
  refine (hw _ HG0.out).mono ?_
  rintro e W1 ⟨rfl, g1⟩
  have G1 : Hid (Grew W0 W1) := g1
  clear g1 e0 e1 hw
  have r0 := (X2.out.grew G1.out).c 0 rfl
  have r1 := (X2.out.grew G1.out).c 1 rfl
  have rf := (X2.out.grew G1.out).f
  go_wp2
  refine bodyPost_ret (v := .tuple #[.agg #[.slice none 0 0, .int .i64 0], .int .i64 z]) (by simp [results, Try.results20, go_sem, *]) rfl ⟨_, rfl, NewRow.nil _ _, ?_⟩
  exact (grew_set (grew_set (HG0.out.trans G1.out) (by simp) _) (by simp) _)

set_option maxRecDepth 100000 in
set_option maxHeartbeats 1000000 in
theorem rhdB (a : Option Addr) (c : Nat) (fs : List Fr) (h : Int) (k : Int) (nn : Int) (w : World) (hv : RowAt w (.slice a fs.length c) fs) (hz : memW fs h = 0) (hkb : k < 0) :
    Calls Try.prog 20 #[.agg #[.slice a fs.length c, .int .i64 h], .int .i64 k, .int .i64 nn] w fun e w' => ∃ b, e = .returned (.tuple #[.agg #[b, .int .i64 0], .int .i64 5]) ∧ NewRow w.heap.size w' b ([] : List Fr) ∧ Grew w w' := by
  have HV : Hid (RowAt w (.slice a fs.length c) fs) := hv
  have hw : ∀ W, Grew w W → Calls Try.prog 12 #[.agg #[.slice a fs.length c, .int .i64 h]] W fun e w' => e = .returned (.int .i64 (memW fs h)) ∧ Grew W w' := fun W hW => refWrongMem_any a c fs h W (HV.out.grew hW)
  clear hv
  simp only [hz] at hw
  clear hz
  obtain ⟨n, HN⟩ : ∃ n, Hid (fs.length = n) := ⟨_, rfl⟩
  simp only [HN.out] at hw HV ⊢
  obtain ⟨W0, hW0⟩ : ∃ W0, (w.alloc (.cells #[.slice a n c, .int .i64 h] 39)).alloc (.cells #[.slice none 0 0, .int .i64 0] 39) = W0 := ⟨_, rfl⟩
  have HG0 : Hid (Grew w W0) := show Grew w W0 by rw [← hW0]; exact (grew_alloc _ _).trans (grew_alloc _ _)
  have X0 : Hid (Box W0 w.heap.size [.slice a n c, .int .i64 h]) := show Box _ _ _ by rw [← hW0]; exact (Box.top w _ _ rfl).alloc _
  have X2 : Hid (Box W0 (w.heap.size + 1) [.slice none 0 0, .int .i64 0]) := show Box _ _ _ by rw [← hW0]; exact Box.top _ _ _ (by simp)
  have HW0 : Hid (_ = W0) := hW0
  clear hW0
  go_enter Try.func20, Try.ntmps20
  go_upto_region 1 with fail
  rw [HW0.out]
  have e0 := X0.out.c 0 rfl
  have e1 := X0.out.c 1 rfl
  go_wp2_with fail
  refine (hw _ HG0.out).mono ?_
  rintro e W1 ⟨rfl, g1⟩
  have G1 : Hid (Grew W0 W1) := g1
  clear g1 e0 e1 hw
  have e0 := (X0.out.grew G1.out).c 0 rfl
  have r0 := (X2.out.grew G1.out).c 0 rfl
  have r1 := (X2.out.grew G1.out).c 1 rfl
  have rf := (X2.out.grew G1.out).f
  go_wp2
  refine bodyPost_ret (v := .tuple #[.agg #[.slice none 0 0, .int .i64 0], .int .i64 5]) (by simp [results, Try.results20, go_sem, *]) rfl ⟨_, rfl, NewRow.nil _ _, ?_⟩
  exact (grew_set (grew_set (HG0.out.trans G1.out) (by simp) _) (by simp) _)

set_option maxRecDepth 100000 in
set_option maxHeartbeats 1000000 in
theorem rhdB2 (a : Option Addr) (c : Nat) (fs : List Fr) (h : Int) (k : Int) (nn : Int) (w : World) (hv : RowAt w (.slice a fs.length c) fs) (hz : memW fs h = 0) (hkb : ¬ k < 0) (hkc : (fs.length : Int) ≤ k) :
    Calls Try.prog 20 #[.agg #[.slice a fs.length c, .int .i64 h], .int .i64 k, .int .i64 nn] w fun e w' => ∃ b, e = .returned (.tuple #[.agg #[b, .int .i64 0], .int .i64 5]) ∧ NewRow w.heap.size w' b ([] : List Fr) ∧ Grew w w' := by
  have HV : Hid (RowAt w (.slice a fs.length c) fs) := hv
  have hw : ∀ W, Grew w W → Calls Try.prog 12 #[.agg #[.slice a fs.length c, .int .i64 h]] W fun e w' => e = .returned (.int .i64 (memW fs h)) ∧ Grew W w' := fun W hW => refWrongMem_any a c fs h W (HV.out.grew hW)
  have hbig := hv.short
  clear hv
  simp only [hz] at hw
  clear hz
  obtain ⟨n, HN⟩ : ∃ n, Hid (fs.length = n) := ⟨_, rfl⟩
  simp only [HN.out] at hw HV hbig hkc ⊢
  obtain ⟨W0, hW0⟩ : ∃ W0, (w.alloc (.cells #[.slice a n c, .int .i64 h] 39)).alloc (.cells #[.slice none 0 0, .int .i64 0] 39) = W0 := ⟨_, rfl⟩
  have HG0 : Hid (Grew w W0) := show Grew w W0 by rw [← hW0]; exact (grew_alloc _ _).trans (grew_alloc _ _)
  have X0 : Hid (Box W0 w.heap.size [.slice a n c, .int .i64 h]) := show Box _ _ _ by rw [← hW0]; exact (Box.top w _ _ rfl).alloc _
  have X2 : Hid (Box W0 (w.heap.size + 1) [.slice none 0 0, .int .i64 0]) := show Box _ _ _ by rw [← hW0]; exact Box.top _ _ _ (by simp)
  have HW0 : Hid (_ = W0) := hW0
  clear hW0
  go_enter Try.func20, Try.ntmps20
  go_upto_region 1 with fail
  rw [HW0.out]
  have e0 := X0.out.c 0 rfl
  have e1 := X0.out.c 1 rfl
  go_wp2_with fail
  refine (hw _ HG0.out).mono ?_
  rintro e W1 ⟨rfl, g1⟩
  have G1 : Hid (Grew W0 W1) := g1
  clear g1 e0 e1 hw
  have e0 := (X0.out.grew G1.out).c 0 rfl
  have r0 := (X2.out.grew G1.out).c 0 rfl
  have r1 := (X2.out.grew G1.out).c 1 rfl
  have rf := (X2.out.grew G1.out).f
  go_wp2
  refine bodyPost_ret (v := .tuple #[.agg #[.slice none 0 0, .int .i64 0], .int .i64 5]) (by simp [results, Try.results20, go_sem, *]) rfl ⟨_, rfl, NewRow.nil _ _, ?_⟩
  exact (grew_set (grew_set (HG0.out.trans G1.out) (by simp) _) (by simp) _)

set_option maxRecDepth 100000 in
set_option maxHeartbeats 1000000 in
theorem rhdC (a : Option Addr) (c : Nat) (fs : List Fr) (h : Int) (i : Nat) (q : Fr) (nn : Int) (w : World) (hv : RowAt w (.slice a fs.length c) fs) (hz : memW fs h = 0) (hq : fs[i]? = some q) (hr : (q.r == 0) = true) :
    Calls Try.prog 20 #[.agg #[.slice a fs.length c, .int .i64 h], .int .i64 (i : Int), .int .i64 nn] w fun e w' => ∃ b, e = .returned (.tuple #[.agg #[b, .int .i64 0], .int .i64 5]) ∧ NewRow w.heap.size w' b ([] : List Fr) ∧ Grew w w' := by
  have HV : Hid (RowAt w (.slice a fs.length c) fs) := hv
  have hw : ∀ W, Grew w W → Calls Try.prog 12 #[.agg #[.slice a fs.length c, .int .i64 h]] W fun e w' => e = .returned (.int .i64 (memW fs h)) ∧ Grew W w' := fun W hW => refWrongMem_any a c fs h W (HV.out.grew hW)
  have hb1000 := frW_zero ((memW_zero hz).2.1 q (List.mem_of_getElem? hq))
  have hil : i < fs.length := (List.getElem?_eq_some_iff.1 hq).1
  obtain ⟨a', c', heq, hrow⟩ := hv.frs
  cases heq
  obtain ⟨ad, rfl, hl⟩ := hrow i q hq
  have HL : Hid (∀ W, Grew w W → FrCells W (ad.add (i * 13)) q) := hl
  clear hrow hl hq
  have hbig := hv.short
  clear hv
  simp only [hz] at hw
  clear hz
  obtain ⟨n, HN⟩ : ∃ n, Hid (fs.length = n) := ⟨_, rfl⟩
  simp only [HN.out] at hw HV hbig hil ⊢
  have hiz : ¬ (n : Int) ≤ (i : Int) := by omega
  have hi0 : ¬ (i : Int) < 0 := by omega
  have hiz' : (i : Int) < (n : Int) := by omega
  obtain ⟨hb1, hb2⟩ := hb1000
  obtain ⟨W0, hW0⟩ : ∃ W0, (w.alloc (.cells #[.slice (some ad) n c, .int .i64 h] 39)).alloc (.cells #[.slice none 0 0, .int .i64 0] 39) = W0 := ⟨_, rfl⟩
  have HG0 : Hid (Grew w W0) := show Grew w W0 by rw [← hW0]; exact (grew_alloc _ _).trans (grew_alloc _ _)
  have X0 : Hid (Box W0 w.heap.size [.slice (some ad) n c, .int .i64 h]) := show Box _ _ _ by rw [← hW0]; exact (Box.top w _ _ rfl).alloc _
  have X2 : Hid (Box W0 (w.heap.size + 1) [.slice none 0 0, .int .i64 0]) := show Box _ _ _ by rw [← hW0]; exact Box.top _ _ _ (by simp)
  have HW0 : Hid (_ = W0) := hW0
  clear hW0
  go_enter Try.func20, Try.ntmps20
  go_upto_region 1 with fail
  rw [HW0.out]
  have e0 := X0.out.c 0 rfl
  have e1 := X0.out.c 1 rfl
  go_wp2_with fail
  refine (hw _ HG0.out).mono ?_
  rintro e W1 ⟨rfl, g1⟩
  have G1 : Hid (Grew W0 W1) := g1
  clear g1 e0 e1 hw
  obtain ⟨-, -, -, -, -, -, -, -, d8, -, -, -, -⟩ := HL.out W1 (HG0.out.trans G1.out)
  have e0 := (X0.out.grew G1.out).c 0 rfl
  have r0 := (X2.out.grew G1.out).c 0 rfl
  have r1 := (X2.out.grew G1.out).c 1 rfl
  have rf := (X2.out.grew G1.out).f
  go_wp2
  refine bodyPost_ret (v := .tuple #[.agg #[.slice none 0 0, .int .i64 0], .int .i64 5]) (by simp [results, Try.results20, go_sem, *]) rfl ⟨_, rfl, NewRow.nil _ _, ?_⟩
  exact (grew_set (grew_set (HG0.out.trans G1.out) (by simp) _) (by simp) _)

set_option maxRecDepth 100000 in
set_option maxHeartbeats 1000000 in
theorem rhdD (a : Option Addr) (c : Nat) (fs : List Fr) (h : Int) (i : Nat) (q : Fr) (nn : Int) (w : World) (hv : RowAt w (.slice a fs.length c) fs) (hz : memW fs h = 0) (hq : fs[i]? = some q) (hr : (q.r == 0) = false) (hn : nn < -1000) :
    Calls Try.prog 20 #[.agg #[.slice a fs.length c, .int .i64 h], .int .i64 (i : Int), .int .i64 nn] w fun e w' => ∃ b, e = .returned (.tuple #[.agg #[b, .int .i64 0], .int .i64 3]) ∧ NewRow w.heap.size w' b ([] : List Fr) ∧ Grew w w' := by
  have HV : Hid (RowAt w (.slice a fs.length c) fs) := hv
  have hw : ∀ W, Grew w W → Calls Try.prog 12 #[.agg #[.slice a fs.length c, .int .i64 h]] W fun e w' => e = .returned (.int .i64 (memW fs h)) ∧ Grew W w' := fun W hW => refWrongMem_any a c fs h W (HV.out.grew hW)
  have hb1000 := frW_zero ((memW_zero hz).2.1 q (List.mem_of_getElem? hq))
  have hil : i < fs.length := (List.getElem?_eq_some_iff.1 hq).1
  obtain ⟨a', c', heq, hrow⟩ := hv.frs
  cases heq
  obtain ⟨ad, rfl, hl⟩ := hrow i q hq
  have HL : Hid (∀ W, Grew w W → FrCells W (ad.add (i * 13)) q) := hl
  clear hrow hl hq
  have hbig := hv.short
  clear hv
  simp only [hz] at hw
  clear hz
  obtain ⟨n, HN⟩ : ∃ n, Hid (fs.length = n) := ⟨_, rfl⟩
  simp only [HN.out] at hw HV hbig hil ⊢
  have hiz : ¬ (n : Int) ≤ (i : Int) := by omega
  have hi0 : ¬ (i : Int) < 0 := by omega
  have hiz' : (i : Int) < (n : Int) := by omega
  obtain ⟨hb1, hb2⟩ := hb1000
  obtain ⟨W0, hW0⟩ : ∃ W0, (w.alloc (.cells #[.slice (some ad) n c, .int .i64 h] 39)).alloc (.cells #[.slice none 0 0, .int .i64 0] 39) = W0 := ⟨_, rfl⟩
  have HG0 : Hid (Grew w W0) := show Grew w W0 by rw [← hW0]; exact (grew_alloc _ _).trans (grew_alloc _ _)
  have X0 : Hid (Box W0 w.heap.size [.slice (some ad) n c, .int .i64 h]) := show Box _ _ _ by rw [← hW0]; exact (Box.top w _ _ rfl).alloc _
  have X2 : Hid (Box W0 (w.heap.size + 1) [.slice none 0 0, .int .i64 0]) := show Box _ _ _ by rw [← hW0]; exact Box.top _ _ _ (by simp)
  have HW0 : Hid (_ = W0) := hW0
  clear hW0
  go_enter Try.func20, Try.ntmps20
  go_upto_region 1 with fail
  rw [HW0.out]
  have e0 := X0.out.c 0 rfl
  have e1 := X0.out.c 1 rfl
  go_wp2_with fail
  refine (hw _ HG0.out).mono ?_
  rintro e W1 ⟨rfl, g1⟩
  have G1 : Hid (Grew W0 W1) := g1
  clear g1 e0 e1 hw
  obtain ⟨d0, d1, d2, d3, d4, d5, d6, d7, d8, d9, d10, d11, d12⟩ := HL.out W1 (HG0.out.trans G1.out)
  have e0 := (X0.out.grew G1.out).c 0 rfl
  have r0 := (X2.out.grew G1.out).c 0 rfl
  have r1 := (X2.out.grew G1.out).c 1 rfl
  have rf := (X2.out.grew G1.out).f
  have rl := (X2.out.grew G1.out).lt
  go_wp2
  refine bodyPost_ret (v := .tuple #[.agg #[.slice none 0 0, .int .i64 0], .int .i64 3]) (by simp [results, Try.results20, go_sem, *]) rfl ⟨_, rfl, NewRow.nil _ _, ?_⟩
  exact by repeat first | exact HG0.out.trans G1.out | refine Grew.trans ?_ (grew_alloc _ _) | refine grew_set ?_ (by simp) _

set_option maxRecDepth 100000 in
set_option maxHeartbeats 1000000 in
theorem rhdD2 (a : Option Addr) (c : Nat) (fs : List Fr) (h : Int) (i : Nat) (q : Fr) (nn : Int) (w : World) (hv : RowAt w (.slice a fs.length c) fs) (hz : memW fs h = 0) (hq : fs[i]? = some q) (hr : (q.r == 0) = false) (hn : ¬ nn < -1000) (hn2 : 1000 < nn) :
    Calls Try.prog 20 #[.agg #[.slice a fs.length c, .int .i64 h], .int .i64 (i : Int), .int .i64 nn] w fun e w' => ∃ b, e = .returned (.tuple #[.agg #[b, .int .i64 0], .int .i64 3]) ∧ NewRow w.heap.size w' b ([] : List Fr) ∧ Grew w w' := by
  have HV : Hid (RowAt w (.slice a fs.length c) fs) := hv
  have hw : ∀ W, Grew w W → Calls Try.prog 12 #[.agg #[.slice a fs.length c, .int .i64 h]] W fun e w' => e = .returned (.int .i64 (memW fs h)) ∧ Grew W w' := fun W hW => refWrongMem_any a c fs h W (HV.out.grew hW)
  have hb1000 := frW_zero ((memW_zero hz).2.1 q (List.mem_of_getElem? hq))
  have hil : i < fs.length := (List.getElem?_eq_some_iff.1 hq).1
  obtain ⟨a', c', heq, hrow⟩ := hv.frs
  cases heq
  obtain ⟨ad, rfl, hl⟩ := hrow i q hq
  have HL : Hid (∀ W, Grew w W → FrCells W (ad.add (i * 13)) q) := hl
  clear hrow hl hq
  have hbig := hv.short
  clear hv
  simp only [hz] at hw
  clear hz
  obtain ⟨n, HN⟩ : ∃ n, Hid (fs.length = n) := ⟨_, rfl⟩
  simp only [HN.out] at hw HV hbig hil ⊢
  have hiz : ¬ (n : Int) ≤ (i : Int) := by omega
  have hi0 : ¬ (i : Int) < 0 := by omega
  have hiz' : (i : Int) < (n : Int) := by omega
  obtain ⟨hb1, hb2⟩ := hb1000
  obtain ⟨W0, hW0⟩ : ∃ W0, (w.alloc (.cells #[.slice (some ad) n c, .int .i64 h] 39)).alloc (.cells #[.slice none 0 0, .int .i64 0] 39) = W0 := ⟨_, rfl⟩
  have HG0 : Hid (Grew w W0) := show Grew w W0 by rw [← hW0]; exact (grew_alloc _ _).trans (grew_alloc _ _)
  have X0 : Hid (Box W0 w.heap.size [.slice (some ad) n c, .int .i64 h]) := show Box _ _ _ by rw [← hW0]; exact (Box.top w _ _ rfl).alloc _
  have X2 : Hid (Box W0 (w.heap.size + 1) [.slice none 0 0, .int .i64 0]) := show Box _ _ _ by rw [← hW0]; exact Box.top _ _ _ (by simp)
  have HW0 : Hid (_ = W0) := hW0
  clear hW0
  go_enter Try.func20, Try.ntmps20
  go_upto_region 1 with fail
  rw [HW0.out]
  have e0 := X0.out.c 0 rfl
  have e1 := X0.out.c 1 rfl
  go_wp2_with fail
  refine (hw _ HG0.out).mono ?_
  rintro e W1 ⟨rfl, g1⟩
  have G1 : Hid (Grew W0 W1) := g1
  clear g1 e0 e1 hw
  obtain ⟨d0, d1, d2, d3, d4, d5, d6, d7, d8, d9, d10, d11, d12⟩ := HL.out W1 (HG0.out.trans G1.out)
  have e0 := (X0.out.grew G1.out).c 0 rfl
  have r0 := (X2.out.grew G1.out).c 0 rfl
  have r1 := (X2.out.grew G1.out).c 1 rfl
  have rf := (X2.out.grew G1.out).f
  have rl := (X2.out.grew G1.out).lt
  go_wp2
  refine bodyPost_ret (v := .tuple #[.agg #[.slice none 0 0, .int .i64 0], .int .i64 3]) (by simp [results, Try.results20, go_sem, *]) rfl ⟨_, rfl, NewRow.nil _ _, ?_⟩
  exact by repeat first | exact HG0.out.trans G1.out | refine Grew.trans ?_ (grew_alloc _ _) | refine grew_set ?_ (by simp) _

set_option maxRecDepth 100000 in
set_option maxHeartbeats 1000000 in
theorem rhdE (a : Option Addr) (c : Nat) (fs : List Fr) (h : Int) (i : Nat) (q : Fr) (nn : Int) (w : World) (hv : RowAt w (.slice a fs.length c) fs) (hz : memW fs h = 0) (hq : fs[i]? = some q) (hr : (q.r == 0) = false) (hn : ¬ nn < -1000) (hn2 : ¬ 1000 < nn) (hn3 : q.r + nn < 0) :
    Calls Try.prog 20 #[.agg #[.slice a fs.length c, .int .i64 h], .int .i64 (i : Int), .int .i64 nn] w fun e w' => ∃ b, e = .returned (.tuple #[.agg #[b, .int .i64 0], .int .i64 3]) ∧ NewRow w.heap.size w' b ([] : List Fr) ∧ Grew w w' := by
  have HV : Hid (RowAt w (.slice a fs.length c) fs) := hv
  have hw : ∀ W, Grew w W → Calls Try.prog 12 #[.agg #[.slice a fs.length c, .int .i64 h]] W fun e w' => e = .returned (.int .i64 (memW fs h)) ∧ Grew W w' := fun W hW => refWrongMem_any a c fs h W (HV.out.grew hW)
  have hb1000 := frW_zero ((memW_zero hz).2.1 q (List.mem_of_getElem? hq))
  have hil : i < fs.length := (List.getElem?_eq_some_iff.1 hq).1
  obtain ⟨a', c', heq, hrow⟩ := hv.frs
  cases heq
  obtain ⟨ad, rfl, hl⟩ := hrow i q hq
  have HL : Hid (∀ W, Grew w W → FrCells W (ad.add (i * 13)) q) := hl
  clear hrow hl hq
  have hbig := hv.short
  clear hv
  simp only [hz] at hw
  clear hz
  obtain ⟨n, HN⟩ : ∃ n, Hid (fs.length = n) := ⟨_, rfl⟩
  simp only [HN.out] at hw HV hbig hil ⊢
  have hiz : ¬ (n : Int) ≤ (i : Int) := by omega
  have hi0 : ¬ (i : Int) < 0 := by omega
  have hiz' : (i : Int) < (n : Int) := by omega
  obtain ⟨hb1, hb2⟩ := hb1000
  obtain ⟨W0, hW0⟩ : ∃ W0, (w.alloc (.cells #[.slice (some ad) n c, .int .i64 h] 39)).alloc (.cells #[.slice none 0 0, .int .i64 0] 39) = W0 := ⟨_, rfl⟩
  have HG0 : Hid (Grew w W0) := show Grew w W0 by rw [← hW0]; exact (grew_alloc _ _).trans (grew_alloc _ _)
  have X0 : Hid (Box W0 w.heap.size [.slice (some ad) n c, .int .i64 h]) := show Box _ _ _ by rw [← hW0]; exact (Box.top w _ _ rfl).alloc _
  have X2 : Hid (Box W0 (w.heap.size + 1) [.slice none 0 0, .int .i64 0]) := show Box _ _ _ by rw [← hW0]; exact Box.top _ _ _ (by simp)
  have HW0 : Hid (_ = W0) := hW0
  clear hW0
  go_enter Try.func20, Try.ntmps20
  go_upto_region 1 with fail
  rw [HW0.out]
  have e0 := X0.out.c 0 rfl
  have e1 := X0.out.c 1 rfl
  go_wp2_with fail
  refine (hw _ HG0.out).mono ?_
  rintro e W1 ⟨rfl, g1⟩
  have G1 : Hid (Grew W0 W1) := g1
  clear g1 e0 e1 hw
  obtain ⟨d0, d1, d2, d3, d4, d5, d6, d7, d8, d9, d10, d11, d12⟩ := HL.out W1 (HG0.out.trans G1.out)
  have e0 := (X0.out.grew G1.out).c 0 rfl
  have r0 := (X2.out.grew G1.out).c 0 rfl
  have r1 := (X2.out.grew G1.out).c 1 rfl
  have rf := (X2.out.grew G1.out).f
  have rl := (X2.out.grew G1.out).lt
  go_wp2
  refine bodyPost_ret (v := .tuple #[.agg #[.slice none 0 0, .int .i64 0], .int .i64 3]) (by simp [results, Try.results20, go_sem, *]) rfl ⟨_, rfl, NewRow.nil _ _, ?_⟩
  exact by repeat first | exact HG0.out.trans G1.out | refine Grew.trans ?_ (grew_alloc _ _) | refine grew_set ?_ (by simp) _

set_option maxRecDepth 100000 in
set_option maxHeartbeats 1000000 in
theorem rhdE2 (a : Option Addr) (c : Nat) (fs : List Fr) (h : Int) (i : Nat) (q : Fr) (nn : Int) (w : World) (hv : RowAt w (.slice a fs.length c) fs) (hz : memW fs h = 0) (hq : fs[i]? = some q) (hr : (q.r == 0) = false) (hn : ¬ nn < -1000) (hn2 : ¬ 1000 < nn) (hn3 : ¬ q.r + nn < 0) (hn4 : 1000 < q.r + nn) :
    Calls Try.prog 20 #[.agg #[.slice a fs.length c, .int .i64 h], .int .i64 (i : Int), .int .i64 nn] w fun e w' => ∃ b, e = .returned (.tuple #[.agg #[b, .int .i64 0], .int .i64 3]) ∧ NewRow w.heap.size w' b ([] : List Fr) ∧ Grew w w' := by
  have HV : Hid (RowAt w (.slice a fs.length c) fs) := hv
  have hw : ∀ W, Grew w W → Calls Try.prog 12 #[.agg #[.slice a fs.length c, .int .i64 h]] W fun e w' => e = .returned (.int .i64 (memW fs h)) ∧ Grew W w' := fun W hW => refWrongMem_any a c fs h W (HV.out.grew hW)
  have hb1000 := frW_zero ((memW_zero hz).2.1 q (List.mem_of_getElem? hq))
  have hil : i < fs.length := (List.getElem?_eq_some_iff.1 hq).1
  obtain ⟨a', c', heq, hrow⟩ := hv.frs
  cases heq
  obtain ⟨ad, rfl, hl⟩ := hrow i q hq
  have HL : Hid (∀ W, Grew w W → FrCells W (ad.add (i * 13)) q) := hl
  clear hrow hl hq
  have hbig := hv.short
  clear hv
  simp only [hz] at hw
  clear hz
  obtain ⟨n, HN⟩ : ∃ n, Hid (fs.length = n) := ⟨_, rfl⟩
  simp only [HN.out] at hw HV hbig hil ⊢
  have hiz : ¬ (n : Int) ≤ (i : Int) := by omega
  have hi0 : ¬ (i : Int) < 0 := by omega
  have hiz' : (i : Int) < (n : Int) := by omega
  obtain ⟨hb1, hb2⟩ := hb1000
  obtain ⟨W0, hW0⟩ : ∃ W0, (w.alloc (.cells #[.slice (some ad) n c, .int .i64 h] 39)).alloc (.cells #[.slice none 0 0, .int .i64 0] 39) = W0 := ⟨_, rfl⟩
  have HG0 : Hid (Grew w W0) := show Grew w W0 by rw [← hW0]; exact (grew_alloc _ _).trans (grew_alloc _ _)
  have X0 : Hid (Box W0 w.heap.size [.slice (some ad) n c, .int .i64 h]) := show Box _ _ _ by rw [← hW0]; exact (Box.top w _ _ rfl).alloc _
  have X2 : Hid (Box W0 (w.heap.size + 1) [.slice none 0 0, .int .i64 0]) := show Box _ _ _ by rw [← hW0]; exact Box.top _ _ _ (by simp)
  have HW0 : Hid (_ = W0) := hW0
  clear hW0
  go_enter Try.func20, Try.ntmps20
  go_upto_region 1 with fail
  rw [HW0.out]
  have e0 := X0.out.c 0 rfl
  have e1 := X0.out.c 1 rfl
  go_wp2_with fail
  refine (hw _ HG0.out).mono ?_
  rintro e W1 ⟨rfl, g1⟩
  have G1 : Hid (Grew W0 W1) := g1
  clear g1 e0 e1 hw
  obtain ⟨d0, d1, d2, d3, d4, d5, d6, d7, d8, d9, d10, d11, d12⟩ := HL.out W1 (HG0.out.trans G1.out)
  have e0 := (X0.out.grew G1.out).c 0 rfl
  have r0 := (X2.out.grew G1.out).c 0 rfl
  have r1 := (X2.out.grew G1.out).c 1 rfl
  have rf := (X2.out.grew G1.out).f
  have rl := (X2.out.grew G1.out).lt
  go_wp2
  refine bodyPost_ret (v := .tuple #[.agg #[.slice none 0 0, .int .i64 0], .int .i64 3]) (by simp [results, Try.results20, go_sem, *]) rfl ⟨_, rfl, NewRow.nil _ _, ?_⟩
  exact by repeat first | exact HG0.out.trans G1.out | refine Grew.trans ?_ (grew_alloc _ _) | refine grew_set ?_ (by simp) _

set_option maxRecDepth 100000 in
set_option maxHeartbeats 1000000 in
theorem rhdF (a : Option Addr) (c : Nat) (fs : List Fr) (h : Int) (i : Nat) (q : Fr) (nn : Int) (w : World) (hv : RowAt w (.slice a fs.length c) fs) (hz : memW fs h = 0) (hq : fs[i]? = some q) (hr : (q.r == 0) = false) (hn : ¬ nn < -1000) (hn2 : ¬ 1000 < nn) (hn3 : ¬ q.r + nn < 0) (hn4 : ¬ 1000 < q.r + nn) (hs : (q.r + nn == 0) = true) :
    Calls Try.prog 20 #[.agg #[.slice a fs.length c, .int .i64 h], .int .i64 (i : Int), .int .i64 nn] w fun e w' => ∃ b, e = .returned (.tuple #[.agg #[b, .int .i64 h], .int .i64 0]) ∧ NewRow w.heap.size w' b (fs.set i frF) ∧ Grew w w' := by
  have HV : Hid (RowAt w (.slice a fs.length c) fs) := hv
  have hw : ∀ W, Grew w W → Calls Try.prog 12 #[.agg #[.slice a fs.length c, .int .i64 h]] W fun e w' => e = .returned (.int .i64 (memW fs h)) ∧ Grew W w' := fun W hW => refWrongMem_any a c fs h W (HV.out.grew hW)
  have hb1000 := frW_zero ((memW_zero hz).2.1 q (List.mem_of_getElem? hq))
  have hil : i < fs.length := (List.getElem?_eq_some_iff.1 hq).1
  obtain ⟨a', c', heq, hrow⟩ := hv.frs
  cases heq
  obtain ⟨ad, rfl, hl⟩ := hrow i q hq
  have HL : Hid (∀ W, Grew w W → FrCells W (ad.add (i * 13)) q) := hl
  clear hrow hl hq
  have hbig := hv.short
  clear hv
  simp only [hz] at hw
  clear hz
  obtain ⟨n, HN⟩ : ∃ n, Hid (fs.length = n) := ⟨_, rfl⟩
  simp only [HN.out] at hw HV hbig hil ⊢
  have hiz : ¬ (n : Int) ≤ (i : Int) := by omega
  have hi0 : ¬ (i : Int) < 0 := by omega
  have hiz' : (i : Int) < (n : Int) := by omega
  obtain ⟨hb1, hb2⟩ := hb1000
  have hwith : ∀ W, Grew w W → Calls Try.prog 39 #[.agg #[.slice (some ad) n c, .int .i64 h], .int .i64 (i : Int), .agg #[.int .u8 0, .int .u8 0, .int .u8 0, .int .u8 0, .int .u8 0, .int .u8 0, .int .u8 0, .int .u8 0, .int .i64 0, .bool false, .bool false, .int .i64 (-1), .int .i64 0]] W fun e w' => ∃ a2 c2, e = .returned (.agg #[.slice a2 n c2, .int .i64 h]) ∧ NewRow W.heap.size w' (.slice a2 n c2) (fs.set i frF) ∧ Grew W w' := fun W hW => by
    have hc := with_any (some ad) c fs h i (by rw [HN.out]; exact hil) frF W (by rw [HN.out]; exact HV.out.grew hW)
    rw [HN.out] at hc
    refine Calls.mono hc ?_
    rintro e w' ⟨b, rfl, hb, hg⟩
    obtain ⟨a2, c2, rfl, _⟩ := hb.1.rows
    rw [List.length_set, HN.out] at hb ⊢
    exact ⟨a2, c2, rfl, hb, hg⟩
  obtain ⟨W0, hW0⟩ : ∃ W0, (w.alloc (.cells #[.slice (some ad) n c, .int .i64 h] 39)).alloc (.cells #[.slice none 0 0, .int .i64 0] 39) = W0 := ⟨_, rfl⟩
  have HG0 : Hid (Grew w W0) := show Grew w W0 by rw [← hW0]; exact (grew_alloc _ _).trans (grew_alloc _ _)
  have X0 : Hid (Box W0 w.heap.size [.slice (some ad) n c, .int .i64 h]) := show Box _ _ _ by rw [← hW0]; exact (Box.top w _ _ rfl).alloc _
  have X2 : Hid (Box W0 (w.heap.size + 1) [.slice none 0 0, .int .i64 0]) := show Box _ _ _ by rw [← hW0]; exact Box.top _ _ _ (by simp)
  have HW0 : Hid (_ = W0) := hW0
  clear hW0
  go_enter Try.func20, Try.ntmps20
  go_upto_region 1 with fail
  rw [HW0.out]
  have e0 := X0.out.c 0 rfl
  have e1 := X0.out.c 1 rfl
  go_wp2_with fail
  refine (hw _ HG0.out).mono ?_
  rintro e W1 ⟨rfl, g1⟩
  have G1 : Hid (Grew W0 W1) := g1
  clear g1 e0 e1 hw
  obtain ⟨d0, d1, d2, d3, d4, d5, d6, d7, d8, d9, d10, d11, d12⟩ := HL.out W1 (HG0.out.trans G1.out)
  have e0 := (X0.out.grew G1.out).c 0 rfl
  have e1 := (X0.out.grew G1.out).c 1 rfl
  have el := (X0.out.grew G1.out).lt
  go_wp2_with fail
  refine (hwith _ (by first | exact (HG0.out.trans G1.out).trans (grew_alloc _ _) | (refine grew_set ((HG0.out.trans G1.out).trans (grew_alloc _ _)) ?_ _; simp; omega))).mono ?_
  rintro e W5 ⟨a5, c5, rfl, hb5, g5⟩
  have hs1 : W0.heap.size ≤ W1.heap.size := Below.size G1.out
  have GG : Hid (Grew W0 W5) := (G1.out.trans (grew_alloc _ _)).trans g5
  have hx2 := X2.out.lt
  have NB5 : Hid (NewRow W0.heap.size W5 (.slice a5 n c5) (fs.set i frF)) := hb5.base (by simp; omega)
  clear hb5 g5 e0 e1 el d0 d1 d2 d3 d4 d5 d6 d7 d8 d9 d10 d11 d12 hwith
  have r0 := (X2.out.grew GG.out).c 0 rfl
  have r1 := (X2.out.grew GG.out).c 1 rfl
  have rf := (X2.out.grew GG.out).f
  go_wp2
  refine bodyPost_ret (v := .tuple #[.agg #[.slice a5 n c5, .int .i64 h], .int .i64 0]) (by simp [results, Try.results20, go_sem, *]) rfl ⟨_, rfl, ?_, ?_⟩
  · exact ((NB5.out.setCell (a := ⟨w.heap.size + 1, 0, none⟩) hx2 _).setCell (a := ⟨w.heap.size + 1, 1, none⟩) hx2 _).base (Below.size HG0.out)
  · exact grew_set (grew_set (HG0.out.trans GG.out) (by simp) _) (by simp) _

set_option maxRecDepth 100000 in
set_option maxHeartbeats 1000000 in
theorem rhdG (a : Option Addr) (c : Nat) (fs : List Fr) (h : Int) (i : Nat) (q : Fr) (nn : Int) (w : World) (hv : RowAt w (.slice a fs.length c) fs) (hz : memW fs h = 0) (hq : fs[i]? = some q) (hr : (q.r == 0) = false) (hn : ¬ nn < -1000) (hn2 : ¬ 1000 < nn) (hn3 : ¬ q.r + nn < 0) (hn4 : ¬ 1000 < q.r + nn) (hs : (q.r + nn == 0) = false) :
    Calls Try.prog 20 #[.agg #[.slice a fs.length c, .int .i64 h], .int .i64 (i : Int), .int .i64 nn] w fun e w' => ∃ b, e = .returned (.tuple #[.agg #[b, .int .i64 h], .int .i64 0]) ∧ NewRow w.heap.size w' b (fs.set i { q with r := q.r + nn }) ∧ Grew w w' := by
  have HV : Hid (RowAt w (.slice a fs.length c) fs) := hv
  have hw : ∀ W, Grew w W → Calls Try.prog 12 #[.agg #[.slice a fs.length c, .int .i64 h]] W fun e w' => e = .returned (.int .i64 (memW fs h)) ∧ Grew W w' := fun W hW => refWrongMem_any a c fs h W (HV.out.grew hW)
  have hb1000 := frW_zero ((memW_zero hz).2.1 q (List.mem_of_getElem? hq))
  have hil : i < fs.length := (List.getElem?_eq_some_iff.1 hq).1
  obtain ⟨a', c', heq, hrow⟩ := hv.frs
  cases heq
  obtain ⟨ad, rfl, hl⟩ := hrow i q hq
  have HL : Hid (∀ W, Grew w W → FrCells W (ad.add (i * 13)) q) := hl
  clear hrow hl hq
  have hbig := hv.short
  clear hv
  simp only [hz] at hw
  clear hz
  obtain ⟨n, HN⟩ : ∃ n, Hid (fs.length = n) := ⟨_, rfl⟩
  simp only [HN.out] at hw HV hbig hil ⊢
  have hiz : ¬ (n : Int) ≤ (i : Int) := by omega
  have hi0 : ¬ (i : Int) < 0 := by omega
  have hiz' : (i : Int) < (n : Int) := by omega
  obtain ⟨hb1, hb2⟩ := hb1000
  have hwith : ∀ W, Grew w W → Calls Try.prog 39 #[.agg #[.slice (some ad) n c, .int .i64 h], .int .i64 (i : Int), .agg #[.int .u8 q.p.b0, .int .u8 q.p.b1, .int .u8 q.p.b2, .int .u8 q.p.b3, .int .u8 q.p.b4, .int .u8 q.p.b5, .int .u8 q.p.b6, .int .u8 q.p.b7, .int .i64 (q.r + nn), .bool q.u, .bool q.d, .int .i64 q.f, .int .i64 q.x]] W fun e w' => ∃ a2 c2, e = .returned (.agg #[.slice a2 n c2, .int .i64 h]) ∧ NewRow W.heap.size w' (.slice a2 n c2) (fs.set i { q with r := q.r + nn }) ∧ Grew W w' := fun W hW => by
    have hc := with_any (some ad) c fs h i (by rw [HN.out]; exact hil) { q with r := q.r + nn } W (by rw [HN.out]; exact HV.out.grew hW)
    rw [HN.out] at hc
    refine Calls.mono hc ?_
    rintro e w' ⟨b, rfl, hb, hg⟩
    obtain ⟨a2, c2, rfl, _⟩ := hb.1.rows
    rw [List.length_set, HN.out] at hb ⊢
    exact ⟨a2, c2, rfl, hb, hg⟩
  obtain ⟨W0, hW0⟩ : ∃ W0, (w.alloc (.cells #[.slice (some ad) n c, .int .i64 h] 39)).alloc (.cells #[.slice none 0 0, .int .i64 0] 39) = W0 := ⟨_, rfl⟩
  have HG0 : Hid (Grew w W0) := show Grew w W0 by rw [← hW0]; exact (grew_alloc _ _).trans (grew_alloc _ _)
  have X0 : Hid (Box W0 w.heap.size [.slice (some ad) n c, .int .i64 h]) := show Box _ _ _ by rw [← hW0]; exact (Box.top w _ _ rfl).alloc _
  have X2 : Hid (Box W0 (w.heap.size + 1) [.slice none 0 0, .int .i64 0]) := show Box _ _ _ by rw [← hW0]; exact Box.top _ _ _ (by simp)
  have HW0 : Hid (_ = W0) := hW0
  clear hW0
  go_enter Try.func20, Try.ntmps20
  go_upto_region 1 with fail
  rw [HW0.out]
  have e0 := X0.out.c 0 rfl
  have e1 := X0.out.c 1 rfl
  go_wp2_with fail
  refine (hw _ HG0.out).mono ?_
  rintro e W1 ⟨rfl, g1⟩
  have G1 : Hid (Grew W0 W1) := g1
  clear g1 e0 e1 hw
  obtain ⟨d0, d1, d2, d3, d4, d5, d6, d7, d8, d9, d10, d11, d12⟩ := HL.out W1 (HG0.out.trans G1.out)
  have e0 := (X0.out.grew G1.out).c 0 rfl
  have e1 := (X0.out.grew G1.out).c 1 rfl
  have el := (X0.out.grew G1.out).lt
  go_wp2_with fail
  refine (hwith _ (by first | exact (HG0.out.trans G1.out).trans (grew_alloc _ _) | (refine grew_set ((HG0.out.trans G1.out).trans (grew_alloc _ _)) ?_ _; simp; omega))).mono ?_
  rintro e W5 ⟨a5, c5, rfl, hb5, g5⟩
  have hs1 : W0.heap.size ≤ W1.heap.size := Below.size G1.out
  have GG : Hid (Grew W0 W5) := (G1.out.trans (grew_alloc _ _)).trans g5
  have hx2 := X2.out.lt
  have NB5 : Hid (NewRow W0.heap.size W5 (.slice a5 n c5) (fs.set i { q with r := q.r + nn })) := hb5.base (by simp; omega)
  clear hb5 g5 e0 e1 el d0 d1 d2 d3 d4 d5 d6 d7 d8 d9 d10 d11 d12 hwith
  have r0 := (X2.out.grew GG.out).c 0 rfl
  have r1 := (X2.out.grew GG.out).c 1 rfl
  have rf := (X2.out.grew GG.out).f
  go_wp2
  refine bodyPost_ret (v := .tuple #[.agg #[.slice a5 n c5, .int .i64 h], .int .i64 0]) (by simp [results, Try.results20, go_sem, *]) rfl ⟨_, rfl, ?_, ?_⟩
  · exact ((NB5.out.setCell (a := ⟨w.heap.size + 1, 0, none⟩) hx2 _).setCell (a := ⟨w.heap.size + 1, 1, none⟩) hx2 _).base (Below.size HG0.out)
  · exact grew_set (grew_set (HG0.out.trans GG.out) (by simp) _) (by simp) _

theorem refHold_any (a : Option Addr) (c : Nat) (fs : List Fr) (h k nn : Int) (w : World) (hv : RowAt w (.slice a fs.length c) fs) :
    Calls Try.prog 20 #[.agg #[.slice a fs.length c, .int .i64 h], .int .i64 k, .int .i64 nn] w fun e w' => ∃ b, e = .returned (.tuple #[.agg #[b, .int .i64 (holdH fs h k nn)], .int .i64 (holdE fs h k nn)]) ∧ NewRow w.heap.size w' b (holdF fs h k nn) ∧ Grew w w' := by
  unfold holdH holdF
  by_cases hz : memW fs h = 0
  · by_cases hk0 : k < 0
    · have hkb : inB k fs.length = false := by unfold inB; simp; omega
      rw [show holdE fs h k nn = 5 from by unfold holdE; rw [if_pos hz, hkb]; rfl, if_neg (by decide), if_neg (by decide)]
      exact rhdB a c fs h k nn w hv hz hk0
    by_cases hk1 : (fs.length : Int) ≤ k
    · have hkb : inB k fs.length = false := by unfold inB; simp; omega
      rw [show holdE fs h k nn = 5 from by unfold holdE; rw [if_pos hz, hkb]; rfl, if_neg (by decide), if_neg (by decide)]
      exact rhdB2 a c fs h k nn w hv hz hk0 hk1
    have hkb : inB k fs.length = true := by unfold inB; simp; omega
    obtain ⟨i, rfl⟩ := Int.eq_ofNat_of_zero_le (Int.not_lt.1 hk0)
    have hil : i < fs.length := by omega
    obtain ⟨q, hq⟩ : ∃ q, fs[i]? = some q := ⟨_, List.getElem?_eq_getElem hil⟩
    have hgd : fs.getD (i : Int).toNat fr0 = q := by rw [Int.toNat_natCast, List.getD_eq_getElem?_getD, hq]; rfl
    obtain ⟨hr0, hr1⟩ := frW_zero ((memW_zero hz).2.1 q (List.mem_of_getElem? hq))
    cases hr : (q.r == 0) with
    | true =>
      rw [show holdE fs h i nn = 5 from by unfold holdE; rw [if_pos hz, hkb, hgd, hr]; rfl, if_neg (by decide), if_neg (by decide)]
      exact rhdC a c fs h i q nn w hv hz hq hr
    | false =>
      have h3 : ∀ (_ : ¬ (-q.r ≤ nn ∧ nn ≤ 1000 - q.r)), holdE fs h i nn = 3 := fun hh => by unfold holdE; rw [if_pos hz, hkb, hgd, hr, if_pos (by decide), if_neg hh]
      by_cases h1 : nn < -1000
      · rw [h3 (by omega), if_neg (by decide), if_neg (by decide)]
        exact rhdD a c fs h i q nn w hv hz hq hr h1
      by_cases h2 : 1000 < nn
      · rw [h3 (by omega), if_neg (by decide), if_neg (by decide)]
        exact rhdD2 a c fs h i q nn w hv hz hq hr h1 h2
      by_cases h4 : q.r + nn < 0
      · rw [h3 (by omega), if_neg (by decide), if_neg (by decide)]
        exact rhdE a c fs h i q nn w hv hz hq hr h1 h2 h4
      by_cases h5 : 1000 < q.r + nn
      · rw [h3 (by omega), if_neg (by decide), if_neg (by decide)]
        exact rhdE2 a c fs h i q nn w hv hz hq hr h1 h2 h4 h5
      rw [show holdE fs h i nn = 0 from by unfold holdE; rw [if_pos hz, hkb, hgd, hr, if_pos (by decide), if_pos (by omega)], if_pos rfl, if_pos rfl, hgd, Int.toNat_natCast]
      by_cases h6 : q.r + nn = 0
      · rw [show frH q nn = frF from if_pos h6]
        exact rhdF a c fs h i q nn w hv hz hq hr h1 h2 h4 h5 (by simpa using h6)
      · rw [show frH q nn = { q with r := q.r + nn } from if_neg h6]
        exact rhdG a c fs h i q nn w hv hz hq hr h1 h2 h4 h5 (by simpa using h6)
  · rw [show holdE fs h k nn = memW fs h from by unfold holdE; rw [if_neg hz], if_neg hz, if_neg hz]
    exact rhdA a c fs h k nn w hv _ rfl (by simpa using hz)

end Go.Proofs.Ytbcaagmnmaonbab
