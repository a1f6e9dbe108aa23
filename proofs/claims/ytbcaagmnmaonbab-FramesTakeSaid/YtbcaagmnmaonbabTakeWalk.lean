/- The walk of the law FramesTake. -/
import Derived.Test.YtbcaagmnmaonbabTakeLaw
import Derived.Test.YtbcaagmnmaonbabMemSame
namespace Go.Proofs.Ytbcaagmnmaonbab
open Go.RowKit

theorem pg_same (p : Pg) (W : World) : (Op.equalIn 10000 31 (.agg #[.int .u8 p.b0, .int .u8 p.b1, .int .u8 p.b2, .int .u8 p.b3, .int .u8 p.b4, .int .u8 p.b5, .int .u8 p.b6, .int .u8 p.b7]) (.agg #[.int .u8 p.b0, .int .u8 p.b1, .int .u8 p.b2, .int .u8 p.b3, .int .u8 p.b4, .int .u8 p.b5, .int .u8 p.b6, .int .u8 p.b7])).run Try.prog W = .ok true W := by
  have h := page_eq_at 9998 p.b0 p.b1 p.b2 p.b3 p.b4 p.b5 p.b6 p.b7 p.b0 p.b1 p.b2 p.b3 p.b4 p.b5 p.b6 p.b7 W
  rw [pgEqB_self] at h
  exact h

set_option maxRecDepth 100000 in
set_option maxHeartbeats 2000000 in
theorem takeLaw1 (a : Option Addr) (c : Nat) (fs : List Fr) (h : Int) (p : Pg) (fi ix : Int) (w : World) (hv : RowAt w (.slice a fs.length c) fs) (he : takeE fs h (frT p fi ix) = 10) :
    Calls Try.prog 5 #[.agg #[.slice a fs.length c, .int .i64 h], .agg (pgv p).toArray, .int .i64 fi, .int .i64 ix] w fun e w' => e = .returned (.bool true) ∧ Grew w w' := by
  have HV : Hid (RowAt w (.slice a fs.length c) fs) := hv
  have h1 : ∀ W, Grew w W → Calls Try.prog 17 #[.agg #[.slice a fs.length c, .int .i64 h], .agg #[.int .u8 p.b0, .int .u8 p.b1, .int .u8 p.b2, .int .u8 p.b3, .int .u8 p.b4, .int .u8 p.b5, .int .u8 p.b6, .int .u8 p.b7], .int .i64 fi, .int .i64 ix] W fun e w' => ∃ a' c', e = .returned (.tuple #[.agg #[.slice a' (takeF fs h (frT p fi ix)).length c', .int .i64 (takeH fs h (frT p fi ix))], .int .i64 (takeI fs h (frT p fi ix)), .int .i64 (takeE fs h (frT p fi ix))]) ∧ NewRow W.heap.size w' (.slice a' (takeF fs h (frT p fi ix)).length c') (takeF fs h (frT p fi ix)) ∧ Grew W w' := fun W hW => (take_any a c fs h p fi ix W (HV.out.grew hW)).mono (by
    rintro e w' ⟨b, rfl, hb, hg⟩
    obtain ⟨a', c', rfl, _⟩ := hb.1.rows
    exact ⟨a', c', rfl, hb, hg⟩)
  clear hv
  obtain ⟨n, HN⟩ : ∃ n, Hid (fs.length = n) := ⟨_, rfl⟩
  have h0 := takeE_ne10 he
  have hF : takeF fs h (frT p fi ix) = [] := if_neg (by rw [he]; decide)
  have hH : takeH fs h (frT p fi ix) = 0 := if_neg (by rw [he]; decide)
  have hI : takeI fs h (frT p fi ix) = 0 := if_neg (by rw [he]; decide)
  rw [he, hF, hH, hI] at h1
  have hfr : ∀ W, Grew w W → Calls Try.prog 16 #[.agg #[.slice a fs.length c, .int .i64 h]] W fun e w' => e = .returned (.int .i64 0) ∧ Grew W w' := fun W hW => by
    have hc := free_any a c fs h W (HV.out.grew hW)
    rw [h0] at hc
    exact hc
  clear he h0 hF hH hI
  rw [HN.out] at hfr
  simp only [List.length_nil] at h1
  rw [HN.out] at HV h1 ⊢
  show Calls Try.prog 5 #[.agg #[.slice a n c, .int .i64 h], .agg #[.int .u8 p.b0, .int .u8 p.b1, .int .u8 p.b2, .int .u8 p.b3, .int .u8 p.b4, .int .u8 p.b5, .int .u8 p.b6, .int .u8 p.b7], .int .i64 fi, .int .i64 ix] w _
  obtain ⟨W0, hW0⟩ : ∃ W0, (w.alloc (.cells #[.slice a n c, .int .i64 h] 39)).alloc (.cells #[.int .u8 p.b0, .int .u8 p.b1, .int .u8 p.b2, .int .u8 p.b3, .int .u8 p.b4, .int .u8 p.b5, .int .u8 p.b6, .int .u8 p.b7] 31) = W0 := ⟨_, rfl⟩
  have HG0 : Hid (Grew w W0) := show Grew w W0 by rw [← hW0]; exact (grew_alloc _ _).trans (grew_alloc _ _)
  have X0 : Hid (Box W0 w.heap.size [.slice a n c, .int .i64 h]) := show Box _ _ _ by rw [← hW0]; exact (Box.top w _ _ rfl).alloc _
  have XP : Hid (Box W0 (w.heap.size + 1) [.int .u8 p.b0, .int .u8 p.b1, .int .u8 p.b2, .int .u8 p.b3, .int .u8 p.b4, .int .u8 p.b5, .int .u8 p.b6, .int .u8 p.b7]) := show Box _ _ _ by rw [← hW0]; exact Box.top _ _ _ (by simp)
  have HW0 : Hid (_ = W0) := hW0
  clear hW0
  go_enter Try.func5, Try.ntmps5
  go_upto_region 1 with fail
  rw [HW0.out]
  go_wp2_with fail
  refine (alive_any _).mono ?_
  rintro e W1 ⟨rfl, g1⟩
  have G1 : Hid (Grew W0 W1) := g1
  clear g1
  have e0 := (X0.out.grew G1.out).c 0 rfl
  have e1 := (X0.out.grew G1.out).c 1 rfl
  have p0 := (XP.out.grew G1.out).c 0 rfl
  have p1 := (XP.out.grew G1.out).c 1 rfl
  have p2 := (XP.out.grew G1.out).c 2 rfl
  have p3 := (XP.out.grew G1.out).c 3 rfl
  have p4 := (XP.out.grew G1.out).c 4 rfl
  have p5 := (XP.out.grew G1.out).c 5 rfl
  have p6 := (XP.out.grew G1.out).c 6 rfl
  have p7 := (XP.out.grew G1.out).c 7 rfl
  go_wp2_with fail
  refine (h1 _ (HG0.out.trans G1.out)).mono ?_
  rintro e W2 ⟨a2, c2, rfl, hb2, g2⟩
  have NB2 : Hid (RowAt W2 (.slice a2 0 c2) ([] : List Fr)) := hb2.1
  have G2 : Hid (Grew W0 W2) := G1.out.trans g2
  clear hb2 g2 e0 e1 p0 p1 p2 p3 p4 p5 p6 p7 h1
  have e0 := (X0.out.grew G2.out).c 0 rfl
  have e1 := (X0.out.grew G2.out).c 1 rfl
  have el := (X0.out.grew G2.out).lt
  clear NB2
  go_wp2_with fail
  refine (hfr _ ((HG0.out.trans G2.out).trans (grew_alloc _ _))).mono ?_
  rintro e W3 ⟨rfl, g3⟩
  have G3 : Hid (Grew w W3) := ((HG0.out.trans G2.out).trans (grew_alloc _ _)).trans g3
  clear g3 e0 e1 el
  go_wp2
  go_ret
  exact ⟨rfl, G3.out⟩

set_option maxRecDepth 100000 in
set_option maxHeartbeats 2000000 in
theorem takeLaw2 (a : Option Addr) (c : Nat) (fs : List Fr) (h : Int) (p : Pg) (fi ix : Int) (w : World) (hv : RowAt w (.slice a fs.length c) fs) (z : Int) (he : takeE fs h (frT p fi ix) = z) (hz0 : z ≠ 0) (hz1 : z ≠ 10) :
    Calls Try.prog 5 #[.agg #[.slice a fs.length c, .int .i64 h], .agg (pgv p).toArray, .int .i64 fi, .int .i64 ix] w fun e w' => e = .returned (.bool true) ∧ Grew w w' := by
  have HV : Hid (RowAt w (.slice a fs.length c) fs) := hv
  have h1 : ∀ W, Grew w W → Calls Try.prog 17 #[.agg #[.slice a fs.length c, .int .i64 h], .agg #[.int .u8 p.b0, .int .u8 p.b1, .int .u8 p.b2, .int .u8 p.b3, .int .u8 p.b4, .int .u8 p.b5, .int .u8 p.b6, .int .u8 p.b7], .int .i64 fi, .int .i64 ix] W fun e w' => ∃ a' c', e = .returned (.tuple #[.agg #[.slice a' (takeF fs h (frT p fi ix)).length c', .int .i64 (takeH fs h (frT p fi ix))], .int .i64 (takeI fs h (frT p fi ix)), .int .i64 (takeE fs h (frT p fi ix))]) ∧ NewRow W.heap.size w' (.slice a' (takeF fs h (frT p fi ix)).length c') (takeF fs h (frT p fi ix)) ∧ Grew W w' := fun W hW => (take_any a c fs h p fi ix W (HV.out.grew hW)).mono (by
    rintro e w' ⟨b, rfl, hb, hg⟩
    obtain ⟨a', c', rfl, _⟩ := hb.1.rows
    exact ⟨a', c', rfl, hb, hg⟩)
  clear hv
  obtain ⟨n, HN⟩ : ∃ n, Hid (fs.length = n) := ⟨_, rfl⟩
  have hF : takeF fs h (frT p fi ix) = [] := if_neg (by rw [he]; exact hz0)
  have hH : takeH fs h (frT p fi ix) = 0 := if_neg (by rw [he]; exact hz0)
  have hI : takeI fs h (frT p fi ix) = 0 := if_neg (by rw [he]; exact hz0)
  rw [he, hF, hH, hI] at h1
  have hb0 : (z != 0) = true := by simpa using hz0
  have hb1 : (z == 10) = false := by simpa using hz1
  clear he hF hH hI hz0 hz1
  simp only [List.length_nil] at h1
  rw [HN.out] at HV h1 ⊢
  show Calls Try.prog 5 #[.agg #[.slice a n c, .int .i64 h], .agg #[.int .u8 p.b0, .int .u8 p.b1, .int .u8 p.b2, .int .u8 p.b3, .int .u8 p.b4, .int .u8 p.b5, .int .u8 p.b6, .int .u8 p.b7], .int .i64 fi, .int .i64 ix] w _
  obtain ⟨W0, hW0⟩ : ∃ W0, (w.alloc (.cells #[.slice a n c, .int .i64 h] 39)).alloc (.cells #[.int .u8 p.b0, .int .u8 p.b1, .int .u8 p.b2, .int .u8 p.b3, .int .u8 p.b4, .int .u8 p.b5, .int .u8 p.b6, .int .u8 p.b7] 31) = W0 := ⟨_, rfl⟩
  have HG0 : Hid (Grew w W0) := show Grew w W0 by rw [← hW0]; exact (grew_alloc _ _).trans (grew_alloc _ _)
  have X0 : Hid (Box W0 w.heap.size [.slice a n c, .int .i64 h]) := show Box _ _ _ by rw [← hW0]; exact (Box.top w _ _ rfl).alloc _
  have XP : Hid (Box W0 (w.heap.size + 1) [.int .u8 p.b0, .int .u8 p.b1, .int .u8 p.b2, .int .u8 p.b3, .int .u8 p.b4, .int .u8 p.b5, .int .u8 p.b6, .int .u8 p.b7]) := show Box _ _ _ by rw [← hW0]; exact Box.top _ _ _ (by simp)
  have HW0 : Hid (_ = W0) := hW0
  clear hW0
  go_enter Try.func5, Try.ntmps5
  go_upto_region 1 with fail
  rw [HW0.out]
  go_wp2_with fail
  refine (alive_any _).mono ?_
  rintro e W1 ⟨rfl, g1⟩
  have G1 : Hid (Grew W0 W1) := g1
  clear g1
  have e0 := (X0.out.grew G1.out).c 0 rfl
  have e1 := (X0.out.grew G1.out).c 1 rfl
  have p0 := (XP.out.grew G1.out).c 0 rfl
  have p1 := (XP.out.grew G1.out).c 1 rfl
  have p2 := (XP.out.grew G1.out).c 2 rfl
  have p3 := (XP.out.grew G1.out).c 3 rfl
  have p4 := (XP.out.grew G1.out).c 4 rfl
  have p5 := (XP.out.grew G1.out).c 5 rfl
  have p6 := (XP.out.grew G1.out).c 6 rfl
  have p7 := (XP.out.grew G1.out).c 7 rfl
  go_wp2_with fail
  refine (h1 _ (HG0.out.trans G1.out)).mono ?_
  rintro e W2 ⟨a2, c2, rfl, hb2, g2⟩
  have NB2 : Hid (RowAt W2 (.slice a2 0 c2) ([] : List Fr)) := hb2.1
  have G2 : Hid (Grew W0 W2) := G1.out.trans g2
  clear hb2 g2 e0 e1 p0 p1 p2 p3 p4 p5 p6 p7 h1
  clear NB2
  go_wp2
  go_ret
  exact ⟨rfl, (HG0.out.trans G2.out).trans (grew_alloc _ _)⟩

set_option maxRecDepth 100000 in
set_option maxHeartbeats 2000000 in
theorem takeLaw3 (a : Option Addr) (c : Nat) (fs : List Fr) (h : Int) (p : Pg) (fi ix : Int) (w : World) (hv : RowAt w (.slice a fs.length c) fs) (he : takeE fs h (frT p fi ix) = 0) :
    Calls Try.prog 5 #[.agg #[.slice a fs.length c, .int .i64 h], .agg (pgv p).toArray, .int .i64 fi, .int .i64 ix] w fun e w' => e = .returned (.bool true) ∧ Grew w w' := by
  have HV : Hid (RowAt w (.slice a fs.length c) fs) := hv
  have h1 : ∀ W, Grew w W → Calls Try.prog 17 #[.agg #[.slice a fs.length c, .int .i64 h], .agg #[.int .u8 p.b0, .int .u8 p.b1, .int .u8 p.b2, .int .u8 p.b3, .int .u8 p.b4, .int .u8 p.b5, .int .u8 p.b6, .int .u8 p.b7], .int .i64 fi, .int .i64 ix] W fun e w' => ∃ a' c', e = .returned (.tuple #[.agg #[.slice a' (takeF fs h (frT p fi ix)).length c', .int .i64 (takeH fs h (frT p fi ix))], .int .i64 (takeI fs h (frT p fi ix)), .int .i64 (takeE fs h (frT p fi ix))]) ∧ NewRow W.heap.size w' (.slice a' (takeF fs h (frT p fi ix)).length c') (takeF fs h (frT p fi ix)) ∧ Grew W w' := fun W hW => (take_any a c fs h p fi ix W (HV.out.grew hW)).mono (by
    rintro e w' ⟨b, rfl, hb, hg⟩
    obtain ⟨a', c', rfl, _⟩ := hb.1.rows
    exact ⟨a', c', rfl, hb, hg⟩)
  clear hv
  obtain ⟨n, HN⟩ : ∃ n, Hid (fs.length = n) := ⟨_, rfl⟩
  obtain ⟨k, q, hI, hkl, hq, hr, hF, hH, hm, hfree, hE2, hF2, hH2⟩ := take_back he
  rw [he, hF, hH, hI, List.length_set] at h1
  have hb40 := (memW_zero hm).1
  rw [List.length_set, HN.out] at hb40
  have hf40 := freeN_le fs
  rw [HN.out] at hf40
  obtain ⟨f1, HF1⟩ : ∃ f1, Hid (freeN (fs.set k (frT p fi ix)) = f1) := ⟨_, rfl⟩
  rw [HF1.out] at hfree
  rw [hfree] at hf40
  have hc1 : ∀ a' c' W, RowAt W (.slice a' n c') (fs.set k (frT p fi ix)) → Calls Try.prog 11 #[.agg #[.slice a' n c', .int .i64 h]] W fun e w' => e = .returned (.int .i64 0) ∧ Grew W w' := fun a' c' W hR => by
    have hc := wrongMem_any a' c' (fs.set k (frT p fi ix)) h W (by rw [List.length_set, HN.out]; exact hR)
    rw [hm, List.length_set, HN.out] at hc
    exact hc
  have hc2 : ∀ a' c' W, RowAt W (.slice a' n c') (fs.set k (frT p fi ix)) → Calls Try.prog 16 #[.agg #[.slice a' n c', .int .i64 h]] W fun e w' => e = .returned (.int .i64 (f1 : Int)) ∧ Grew W w' := fun a' c' W hR => by
    have hc := free_any a' c' (fs.set k (frT p fi ix)) h W (by rw [List.length_set, HN.out]; exact hR)
    rw [HF1.out, List.length_set, HN.out] at hc
    exact hc
  have hc3 : ∀ W, Grew w W → Calls Try.prog 16 #[.agg #[.slice a n c, .int .i64 h]] W fun e w' => e = .returned (.int .i64 ((f1 : Int) + 1)) ∧ Grew W w' := fun W hW => by
    have hc := free_any a c fs h W (HV.out.grew hW)
    rw [hfree, HN.out] at hc
    exact hc
  have hc4 : ∀ a' c' W, RowAt W (.slice a' n c') (fs.set k (frT p fi ix)) → Calls Try.prog 19 #[.agg #[.slice a' n c', .int .i64 h], .int .i64 (k : Int), .int .i64 (-1)] W fun e w' => ∃ a2 c2, e = .returned (.tuple #[.agg #[.slice a2 n c2, .int .i64 h], .int .i64 0]) ∧ NewRow W.heap.size w' (.slice a2 n c2) fs ∧ Grew W w' := fun a' c' W hR => by
    have hc := hold_any a' c' (fs.set k (frT p fi ix)) h k (-1) W (by rw [List.length_set, HN.out]; exact hR)
    rw [hE2, hF2, hH2, List.length_set, HN.out] at hc
    refine hc.mono ?_
    rintro e w' ⟨b, rfl, hb, hg⟩
    obtain ⟨a2, c2, rfl, _⟩ := hb.1.rows
    rw [HN.out] at hb ⊢
    exact ⟨a2, c2, rfl, hb, hg⟩
  obtain ⟨a0, c0, heq, hrow⟩ := HV.out.frs
  cases heq
  obtain ⟨ad, rfl, hl⟩ := hrow k q hq
  have HL : Hid (∀ W, Grew w W → W.cell? { block := (ad.add (k * 13)).block, off := (ad.add (k * 13)).off + 8 } = some (.int .i64 0)) := show ∀ W, _ from fun W hW => by
    obtain ⟨-, -, -, -, -, -, -, -, d8, -⟩ := hl W hW
    rw [hr] at d8
    exact d8
  have HQ2 : Hid ((fs.set k (frT p fi ix))[k]? = some (frT p fi ix)) := show _ = _ by rw [List.getElem?_set_self hkl]
  clear he hI hF hH hm hE2 hF2 hH2 hq hr hl hrow hfree
  rw [HN.out] at hkl
  have hkz : (k : Int) < (n : Int) := by omega
  have hkn : ¬ (n : Int) ≤ (k : Int) := by omega
  have hk0 : ¬ (k : Int) < 0 := by omega
  have hknb : decide ((n : Int) ≤ (k : Int)) = false := decide_eq_false hkn
  have hknn : decide (n ≤ k) = false := decide_eq_false (by omega)
  have hk0b : decide ((k : Int) < 0) = false := decide_eq_false hk0
  have hff : ((f1 : Int) != (f1 : Int)) = false := by simp
  have psame := pg_same p
  rw [HN.out] at HV h1 ⊢
  show Calls Try.prog 5 #[.agg #[.slice (some ad) n c, .int .i64 h], .agg #[.int .u8 p.b0, .int .u8 p.b1, .int .u8 p.b2, .int .u8 p.b3, .int .u8 p.b4, .int .u8 p.b5, .int .u8 p.b6, .int .u8 p.b7], .int .i64 fi, .int .i64 ix] w _
  obtain ⟨W0, hW0⟩ : ∃ W0, (w.alloc (.cells #[.slice (some ad) n c, .int .i64 h] 39)).alloc (.cells #[.int .u8 p.b0, .int .u8 p.b1, .int .u8 p.b2, .int .u8 p.b3, .int .u8 p.b4, .int .u8 p.b5, .int .u8 p.b6, .int .u8 p.b7] 31) = W0 := ⟨_, rfl⟩
  have HG0 : Hid (Grew w W0) := show Grew w W0 by rw [← hW0]; exact (grew_alloc _ _).trans (grew_alloc _ _)
  have X0 : Hid (Box W0 w.heap.size [.slice (some ad) n c, .int .i64 h]) := show Box _ _ _ by rw [← hW0]; exact (Box.top w _ _ rfl).alloc _
  have XP : Hid (Box W0 (w.heap.size + 1) [.int .u8 p.b0, .int .u8 p.b1, .int .u8 p.b2, .int .u8 p.b3, .int .u8 p.b4, .int .u8 p.b5, .int .u8 p.b6, .int .u8 p.b7]) := show Box _ _ _ by rw [← hW0]; exact Box.top _ _ _ (by simp)
  have HW0 : Hid (_ = W0) := hW0
  clear hW0
  go_enter Try.func5, Try.ntmps5
  go_upto_region 1 with fail
  rw [HW0.out]
  go_wp2_with fail
  refine (alive_any _).mono ?_
  rintro e W1 ⟨rfl, g1⟩
  have G1 : Hid (Grew W0 W1) := g1
  clear g1
  have e0 := (X0.out.grew G1.out).c 0 rfl
  have e1 := (X0.out.grew G1.out).c 1 rfl
  have p0 := (XP.out.grew G1.out).c 0 rfl
  have p1 := (XP.out.grew G1.out).c 1 rfl
  have p2 := (XP.out.grew G1.out).c 2 rfl
  have p3 := (XP.out.grew G1.out).c 3 rfl
  have p4 := (XP.out.grew G1.out).c 4 rfl
  have p5 := (XP.out.grew G1.out).c 5 rfl
  have p6 := (XP.out.grew G1.out).c 6 rfl
  have p7 := (XP.out.grew G1.out).c 7 rfl
  go_wp2_with fail
  refine (h1 _ (HG0.out.trans G1.out)).mono ?_
  rintro e W2 ⟨a2, c2, rfl, hb2, g2⟩
  have NB2 : Hid (RowAt W2 (.slice a2 n c2) (fs.set k (frT p fi ix))) := hb2.1
  have G2 : Hid (Grew W0 W2) := G1.out.trans g2
  clear hb2 g2 e0 e1 p0 p1 p2 p3 p4 p5 p6 p7 h1
  have el2 := (X0.out.grew G2.out).lt
  go_upto_region 8 with fail
  obtain ⟨W3, hW3⟩ : ∃ W3, W2.alloc (.cells #[.slice a2 n c2, .int .i64 h] 39) = W3 := ⟨_, rfl⟩
  have X3 : Hid (Box W3 W2.heap.size [.slice a2 n c2, .int .i64 h]) := show Box _ _ _ by rw [← hW3]; exact Box.top W2 _ _ rfl
  have G3 : Hid (Grew W0 W3) := show Grew _ _ by rw [← hW3]; exact G2.out.trans (grew_alloc _ _)
  have R3 : Hid (RowAt W3 (.slice a2 n c2) (fs.set k (frT p fi ix))) := show RowAt _ _ _ by rw [← hW3]; exact NB2.out.grew (grew_alloc _ _)
  rw [hW3]
  clear hW3
  obtain ⟨b0, c0', heq, hrow2⟩ := R3.out.frs
  rw [List.length_set, HN.out] at heq
  cases heq
  obtain ⟨ad2, rfl, hl2⟩ := hrow2 k _ HQ2.out
  have HL2 : Hid (∀ W, Grew W3 W → FrCells W (ad2.add (k * 13)) (frT p fi ix)) := hl2
  clear hrow2 hl2
  have hm0 : ∀ y : GrownW W3, y.world.cell? ⟨w.heap.size, 0, none⟩ = some (.slice (some ad) n c) := fun y => (X0.out.grew (G3.out.trans y.grew)).c 0 rfl
  have hm1 : ∀ y : GrownW W3, y.world.cell? ⟨w.heap.size, 1, none⟩ = some (.int .i64 h) := fun y => (X0.out.grew (G3.out.trans y.grew)).c 1 rfl
  have hx0 : ∀ y : GrownW W3, y.world.cell? ⟨W2.heap.size, 0, none⟩ = some (.slice (some ad2) n c2) := fun y => (X3.out.grew y.grew).c 0 rfl
  have hx1 : ∀ y : GrownW W3, y.world.cell? ⟨W2.heap.size, 1, none⟩ = some (.int .i64 h) := fun y => (X3.out.grew y.grew).c 1 rfl
  have hr8 : ∀ y : GrownW W3, y.world.cell? { block := (ad.add (k * 13)).block, off := (ad.add (k * 13)).off + 8 } = some (.int .i64 0) := fun y => HL.out _ (HG0.out.trans (G3.out.trans y.grew))
  have hp0 : ∀ y : GrownW W3, y.world.cell? ⟨w.heap.size + 1, 0, none⟩ = some (.int .u8 p.b0) := fun y => (XP.out.grew (G3.out.trans y.grew)).c 0 rfl
  have hp1 : ∀ y : GrownW W3, y.world.cell? ⟨w.heap.size + 1, 1, none⟩ = some (.int .u8 p.b1) := fun y => (XP.out.grew (G3.out.trans y.grew)).c 1 rfl
  have hp2 : ∀ y : GrownW W3, y.world.cell? ⟨w.heap.size + 1, 2, none⟩ = some (.int .u8 p.b2) := fun y => (XP.out.grew (G3.out.trans y.grew)).c 2 rfl
  have hp3 : ∀ y : GrownW W3, y.world.cell? ⟨w.heap.size + 1, 3, none⟩ = some (.int .u8 p.b3) := fun y => (XP.out.grew (G3.out.trans y.grew)).c 3 rfl
  have hp4 : ∀ y : GrownW W3, y.world.cell? ⟨w.heap.size + 1, 4, none⟩ = some (.int .u8 p.b4) := fun y => (XP.out.grew (G3.out.trans y.grew)).c 4 rfl
  have hp5 : ∀ y : GrownW W3, y.world.cell? ⟨w.heap.size + 1, 5, none⟩ = some (.int .u8 p.b5) := fun y => (XP.out.grew (G3.out.trans y.grew)).c 5 rfl
  have hp6 : ∀ y : GrownW W3, y.world.cell? ⟨w.heap.size + 1, 6, none⟩ = some (.int .u8 p.b6) := fun y => (XP.out.grew (G3.out.trans y.grew)).c 6 rfl
  have hp7 : ∀ y : GrownW W3, y.world.cell? ⟨w.heap.size + 1, 7, none⟩ = some (.int .u8 p.b7) := fun y => (XP.out.grew (G3.out.trans y.grew)).c 7 rfl
  have hs0 : ∀ y : GrownW W3, y.world.cell? (ad2.add (k * 13)) = some (.int .u8 p.b0) := fun y => (HL2.out _ y.grew).1
  have hs1 : ∀ y : GrownW W3, y.world.cell? { block := (ad2.add (k * 13)).block, off := (ad2.add (k * 13)).off + 1 } = some (.int .u8 p.b1) := fun y => (HL2.out _ y.grew).2.1
  have hs2 : ∀ y : GrownW W3, y.world.cell? { block := (ad2.add (k * 13)).block, off := (ad2.add (k * 13)).off + 2 } = some (.int .u8 p.b2) := fun y => (HL2.out _ y.grew).2.2.1
  have hs3 : ∀ y : GrownW W3, y.world.cell? { block := (ad2.add (k * 13)).block, off := (ad2.add (k * 13)).off + 3 } = some (.int .u8 p.b3) := fun y => (HL2.out _ y.grew).2.2.2.1
  have hs4 : ∀ y : GrownW W3, y.world.cell? { block := (ad2.add (k * 13)).block, off := (ad2.add (k * 13)).off + 4 } = some (.int .u8 p.b4) := fun y => (HL2.out _ y.grew).2.2.2.2.1
  have hs5 : ∀ y : GrownW W3, y.world.cell? { block := (ad2.add (k * 13)).block, off := (ad2.add (k * 13)).off + 5 } = some (.int .u8 p.b5) := fun y => (HL2.out _ y.grew).2.2.2.2.2.1
  have hs6 : ∀ y : GrownW W3, y.world.cell? { block := (ad2.add (k * 13)).block, off := (ad2.add (k * 13)).off + 6 } = some (.int .u8 p.b6) := fun y => (HL2.out _ y.grew).2.2.2.2.2.2.1
  have hs7 : ∀ y : GrownW W3, y.world.cell? { block := (ad2.add (k * 13)).block, off := (ad2.add (k * 13)).off + 7 } = some (.int .u8 p.b7) := fun y => (HL2.out _ y.grew).2.2.2.2.2.2.2.1
  have hne : Nonempty (GrownW W3) := ⟨⟨_, Grew.refl _⟩⟩
  refine wp_lax [(1, ⟨fun v => v = .int .i64 0, fun _ _ => True⟩), (35, ⟨fun v => v = .int .i64 (f1 : Int), fun _ _ => True⟩), (37, ⟨fun v => v = .int .i64 ((f1 : Int) + 1), fun _ _ => True⟩)] mixed (by kernel_rfl) ?_ ?_ ?_
  · intro x hx
    simp at hx
    rcases hx with rfl | rfl | rfl
    · exact ⟨_, rfl⟩
    · exact ⟨_, rfl⟩
    · exact ⟨_, rfl⟩
  · intro x hx
    simp at hx
    rcases hx with rfl | rfl | rfl
    · exact fun _ _ _ _ h => h
    · exact fun _ _ _ _ h => h
    · exact fun _ _ _ _ h => h
  iterate 1 (refine lax_quiet rfl rfl rfl (fun K hK => ?_); go_big_quiet_op; refine hK _ ?_; clear hK K)
  refine lax_spec rfl rfl (fun w' hg hF => ?_) (fun v1 hv => ?_)
  · refine Does.call [.agg #[.slice (some ad2) n c2, .int .i64 h]] rfl Try.func11 rfl rfl rfl ?_
    refine (hc1 _ _ w' (R3.out.grew hg)).mono ?_
    rintro e w'' ⟨rfl, hg2⟩
    exact ⟨_, rfl, hg2, rfl, trivial⟩
  subst hv
  simp only [Act.put, List.setIfInBounds_toArray, List.set_cons_succ, List.set_cons_zero]
  iterate 33 (refine lax_quiet rfl rfl rfl (fun K hK => ?_); go_big_quiet_op; refine hK _ ?_; clear hK K)
  refine lax_spec rfl rfl (fun w' hg hF => ?_) (fun v1 hv => ?_)
  · refine Does.call [.agg #[.slice (some ad2) n c2, .int .i64 h]] rfl Try.func16 rfl rfl rfl ?_
    refine (hc2 _ _ w' (R3.out.grew hg)).mono ?_
    rintro e w'' ⟨rfl, hg2⟩
    exact ⟨_, rfl, hg2, rfl, trivial⟩
  subst hv
  simp only [Act.put, List.setIfInBounds_toArray, List.set_cons_succ, List.set_cons_zero]
  iterate 1 (refine lax_quiet rfl rfl rfl (fun K hK => ?_); go_big_quiet_op; refine hK _ ?_; clear hK K)
  refine lax_spec rfl rfl (fun w' hg hF => ?_) (fun v1 hv => ?_)
  · refine Does.call [.agg #[.slice (some ad) n c, .int .i64 h]] rfl Try.func16 rfl rfl rfl ?_
    refine (hc3 w' (HG0.out.trans (G3.out.trans hg))).mono ?_
    rintro e w'' ⟨rfl, hg2⟩
    exact ⟨_, rfl, hg2, rfl, trivial⟩
  subst hv
  simp only [Act.put, List.setIfInBounds_toArray, List.set_cons_succ, List.set_cons_zero]
  iterate 3 (refine lax_quiet rfl rfl rfl (fun K hK => ?_); go_big_quiet_op; refine hK _ ?_; clear hK K)
  refine lax_nil fun W4 hg4 hF => ?_
  have GG4 : Hid (Grew W3 W4) := hg4
  clear hF hg4 hm0 hm1 hx0 hx1 hr8 hp0 hp1 hp2 hp3 hp4 hp5 hp6 hp7 hs0 hs1 hs2 hs3 hs4 hs5 hs6 hs7 hne
  have x0 := (X3.out.grew GG4.out).c 0 rfl
  have x1 := (X3.out.grew GG4.out).c 1 rfl
  go_wp2_with fail
  refine (hc4 _ _ _ (R3.out.grew GG4.out)).mono ?_
  rintro e W5 ⟨a5, c5, rfl, hb5, g5⟩
  have NB5 : Hid (RowAt W5 (.slice a5 n c5) fs) := hb5.1
  have G5 : Hid (Grew W0 W5) := (G3.out.trans GG4.out).trans g5
  clear hb5 g5 x0 x1
  have e0 := (X0.out.grew G5.out).c 0 rfl
  have e1 := (X0.out.grew G5.out).c 1 rfl
  have el := (X0.out.grew G5.out).lt
  go_wp2_with fail
  refine (sameMem_any (.agg #[.slice (some ad) n c, .int .i64 h]) (.agg #[.slice a5 n c5, .int .i64 h]) fs h _ ⟨_, rfl, (HV.out.grew (HG0.out.trans G5.out)).grew (grew_alloc _ _)⟩ ⟨_, rfl, NB5.out.grew (grew_alloc _ _)⟩).mono ?_
  rintro e W6 ⟨rfl, g6⟩
  have G6 : Hid (Grew w W6) := ((HG0.out.trans G5.out).trans (grew_alloc _ _)).trans g6
  clear g6 e0 e1 el
  go_wp2
  go_ret
  exact ⟨rfl, G6.out⟩

theorem takeLaw_any (a : Option Addr) (c : Nat) (fs : List Fr) (h : Int) (p : Pg) (fi ix : Int) (w : World) (hv : RowAt w (.slice a fs.length c) fs) :
    Calls Try.prog 5 #[.agg #[.slice a fs.length c, .int .i64 h], .agg (pgv p).toArray, .int .i64 fi, .int .i64 ix] w fun e w' => e = .returned (.bool true) ∧ Grew w w' := by
  by_cases h0 : takeE fs h (frT p fi ix) = 0
  · exact takeLaw3 a c fs h p fi ix w hv h0
  by_cases h1 : takeE fs h (frT p fi ix) = 10
  · exact takeLaw1 a c fs h p fi ix w hv h1
  exact takeLaw2 a c fs h p fi ix w hv _ rfl h0 h1

end Go.Proofs.Ytbcaagmnmaonbab
