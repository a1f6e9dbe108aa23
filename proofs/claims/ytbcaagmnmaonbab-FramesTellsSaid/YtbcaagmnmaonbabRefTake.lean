/- Contract of TakeFrame (the document's answer). -/
import Derived.Test.YtbcaagmnmaonbabMemIndex
import Derived.Test.YtbcaagmnmaonbabMemWith
import Derived.Test.YtbcaagmnmaonbabMemRefWrong
namespace Go.Proofs.Ytbcaagmnmaonbab
open Go.RowKit

set_option maxRecDepth 100000 in
set_option maxHeartbeats 2000000 in
theorem rtakeA (a : Option Addr) (c : Nat) (fs : List Fr) (h : Int) (p : Pg) (fi ix : Int) (w : World) (hv : RowAt w (.slice a fs.length c) fs) (z : Int) (hz : memW fs h = z) (hzb : (z != 0) = true) :
    Calls Try.prog 18 #[.agg #[.slice a fs.length c, .int .i64 h], .agg (pgv p).toArray, .int .i64 fi, .int .i64 ix] w fun e w' => ∃ b, e = .returned (.tuple #[.agg #[b, .int .i64 0], .int .i64 0, .int .i64 z]) ∧ NewRow w.heap.size w' b ([] : List Fr) ∧ Grew w w' := by
  have HV : Hid (RowAt w (.slice a fs.length c) fs) := hv
  have hw : ∀ W, Grew w W → Calls Try.prog 12 #[.agg #[.slice a fs.length c, .int .i64 h]] W fun e w' => e = .returned (.int .i64 (memW fs h)) ∧ Grew W w' := fun W hW => refWrongMem_any a c fs h W (HV.out.grew hW)
  have hf : ∀ W, Calls Try.prog 33 #[.agg #[.int .u8 p.b0, .int .u8 p.b1, .int .u8 p.b2, .int .u8 p.b3, .int .u8 p.b4, .int .u8 p.b5, .int .u8 p.b6, .int .u8 p.b7, .int .i64 1, .bool true, .bool false, .int .i64 fi, .int .i64 ix]] W fun e w' => e = .returned (.int .i64 (frW (frT p fi ix))) ∧ Grew W w' := fun W => refWrongFrame_any (frT p fi ix) W
  clear hv
  obtain ⟨n, HN⟩ : ∃ n, Hid (fs.length = n) := ⟨_, rfl⟩
  simp only [HN.out] at hw HV ⊢
  simp only [hz] at hw
  clear hz hf
  show Calls Try.prog 18 #[.agg #[.slice a n c, .int .i64 h], .agg #[.int .u8 p.b0, .int .u8 p.b1, .int .u8 p.b2, .int .u8 p.b3, .int .u8 p.b4, .int .u8 p.b5, .int .u8 p.b6, .int .u8 p.b7], .int .i64 fi, .int .i64 ix] w _
  obtain ⟨W0, hW0⟩ : ∃ W0, (((w.alloc (.cells #[.slice a n c, .int .i64 h] 39)).alloc (.cells #[.int .u8 p.b0, .int .u8 p.b1, .int .u8 p.b2, .int .u8 p.b3, .int .u8 p.b4, .int .u8 p.b5, .int .u8 p.b6, .int .u8 p.b7] 31)).alloc (.cells #[.slice none 0 0, .int .i64 0] 39)) = W0 := ⟨_, rfl⟩
  have HG0 : Hid (Grew w W0) := show Grew w W0 by rw [← hW0]; exact ((grew_alloc _ _).trans (grew_alloc _ _)).trans (grew_alloc _ _)
  have X0 : Hid (Box W0 w.heap.size [.slice a n c, .int .i64 h]) := show Box _ _ _ by rw [← hW0]; exact ((Box.top w _ _ rfl).alloc _).alloc _
  have X1 : Hid (Box W0 (w.heap.size + 1) [.int .u8 p.b0, .int .u8 p.b1, .int .u8 p.b2, .int .u8 p.b3, .int .u8 p.b4, .int .u8 p.b5, .int .u8 p.b6, .int .u8 p.b7]) := show Box _ _ _ by rw [← hW0]; exact (Box.top _ _ _ (by simp)).alloc _
  have X2 : Hid (Box W0 (w.heap.size + 2) [.slice none 0 0, .int .i64 0]) := show Box _ _ _ by rw [← hW0]; exact Box.top _ _ _ (by simp)
  have HW0 : Hid (_ = W0) := hW0
  clear hW0
  go_enter Try.func18, Try.ntmps18
  go_upto_region 1 with fail
  rw [HW0.out]
  have e0 := X0.out.c 0 rfl
  have e1 := X0.out.c 1 rfl
  go_wp2_with fail
  refine (hw _ HG0.out).mono ?_
  rintro e W1 ⟨rfl, g1⟩
  have G1 : Hid (Grew W0 W1) := g1
  clear g1 e0 e1 hw
  have r0 := (X2.out.grew G1.out).c 0 rfl
  have r1 := (X2.out.grew G1.out).c 1 rfl
  have rf := (X2.out.grew G1.out).f
  go_wp2
  refine bodyPost_ret (v := .tuple #[.agg #[.slice none 0 0, .int .i64 0], .int .i64 0, .int .i64 z]) (by simp [results, Try.results18, go_sem, *]) rfl ⟨_, rfl, NewRow.nil _ _, ?_⟩
  exact grew_set (grew_set (HG0.out.trans G1.out) (by simp; omega) _) (by simp; omega) _

set_option maxRecDepth 100000 in
set_option maxHeartbeats 2000000 in
theorem rtakeB (a : Option Addr) (c : Nat) (fs : List Fr) (h : Int) (p : Pg) (fi ix : Int) (w : World) (hv : RowAt w (.slice a fs.length c) fs) (hz : memW fs h = 0) (z : Int) (hy : frW (frT p fi ix) = z) (hzb : (z != 0) = true) :
    Calls Try.prog 18 #[.agg #[.slice a fs.length c, .int .i64 h], .agg (pgv p).toArray, .int .i64 fi, .int .i64 ix] w fun e w' => ∃ b, e = .returned (.tuple #[.agg #[b, .int .i64 0], .int .i64 0, .int .i64 z]) ∧ NewRow w.heap.size w' b ([] : List Fr) ∧ Grew w w' := by
  have HV : Hid (RowAt w (.slice a fs.length c) fs) := hv
  have hw : ∀ W, Grew w W → Calls Try.prog 12 #[.agg #[.slice a fs.length c, .int .i64 h]] W fun e w' => e = .returned (.int .i64 (memW fs h)) ∧ Grew W w' := fun W hW => refWrongMem_any a c fs h W (HV.out.grew hW)
  have hf : ∀ W, Calls Try.prog 33 #[.agg #[.int .u8 p.b0, .int .u8 p.b1, .int .u8 p.b2, .int .u8 p.b3, .int .u8 p.b4, .int .u8 p.b5, .int .u8 p.b6, .int .u8 p.b7, .int .i64 1, .bool true, .bool false, .int .i64 fi, .int .i64 ix]] W fun e w' => e = .returned (.int .i64 (frW (frT p fi ix))) ∧ Grew W w' := fun W => refWrongFrame_any (frT p fi ix) W
  clear hv
  obtain ⟨n, HN⟩ : ∃ n, Hid (fs.length = n) := ⟨_, rfl⟩
  simp only [HN.out] at hw HV ⊢
  simp only [hz] at hw
  clear hz
  simp only [hy] at hf
  clear hy
  show Calls Try.prog 18 #[.agg #[.slice a n c, .int .i64 h], .agg #[.int .u8 p.b0, .int .u8 p.b1, .int .u8 p.b2, .int .u8 p.b3, .int .u8 p.b4, .int .u8 p.b5, .int .u8 p.b6, .int .u8 p.b7], .int .i64 fi, .int .i64 ix] w _
  obtain ⟨W0, hW0⟩ : ∃ W0, (((w.alloc (.cells #[.slice a n c, .int .i64 h] 39)).alloc (.cells #[.int .u8 p.b0, .int .u8 p.b1, .int .u8 p.b2, .int .u8 p.b3, .int .u8 p.b4, .int .u8 p.b5, .int .u8 p.b6, .int .u8 p.b7] 31)).alloc (.cells #[.slice none 0 0, .int .i64 0] 39)) = W0 := ⟨_, rfl⟩
  have HG0 : Hid (Grew w W0) := show Grew w W0 by rw [← hW0]; exact ((grew_alloc _ _).trans (grew_alloc _ _)).trans (grew_alloc _ _)
  have X0 : Hid (Box W0 w.heap.size [.slice a n c, .int .i64 h]) := show Box _ _ _ by rw [← hW0]; exact ((Box.top w _ _ rfl).alloc _).alloc _
  have X1 : Hid (Box W0 (w.heap.size + 1) [.int .u8 p.b0, .int .u8 p.b1, .int .u8 p.b2, .int .u8 p.b3, .int .u8 p.b4, .int .u8 p.b5, .int .u8 p.b6, .int .u8 p.b7]) := show Box _ _ _ by rw [← hW0]; exact (Box.top _ _ _ (by simp)).alloc _
  have X2 : Hid (Box W0 (w.heap.size + 2) [.slice none 0 0, .int .i64 0]) := show Box _ _ _ by rw [← hW0]; exact Box.top _ _ _ (by simp)
  have HW0 : Hid (_ = W0) := hW0
  clear hW0
  go_enter Try.func18, Try.ntmps18
  go_upto_region 1 with fail
  rw [HW0.out]
  have e0 := X0.out.c 0 rfl
  have e1 := X0.out.c 1 rfl
  go_wp2_with fail
  refine (hw _ HG0.out).mono ?_
  rintro e W1 ⟨rfl, g1⟩
  have G1 : Hid (Grew W0 W1) := g1
  clear g1 e0 e1 hw
  have p0 := (X1.out.grew G1.out).c 0 rfl
  have p1 := (X1.out.grew G1.out).c 1 rfl
  have p2 := (X1.out.grew G1.out).c 2 rfl
  have p3 := (X1.out.grew G1.out).c 3 rfl
  have p4 := (X1.out.grew G1.out).c 4 rfl
  have p5 := (X1.out.grew G1.out).c 5 rfl
  have p6 := (X1.out.grew G1.out).c 6 rfl
  have p7 := (X1.out.grew G1.out).c 7 rfl
  go_wp2_with fail
  refine (hf _).mono ?_
  rintro e W2 ⟨rfl, g2⟩
  have XT : Hid (Box W2 W1.heap.size [.int .u8 p.b0, .int .u8 p.b1, .int .u8 p.b2, .int .u8 p.b3, .int .u8 p.b4, .int .u8 p.b5, .int .u8 p.b6, .int .u8 p.b7, .int .i64 1, .bool true, .bool false, .int .i64 fi, .int .i64 ix]) := (Box.top W1 [.int .u8 p.b0, .int .u8 p.b1, .int .u8 p.b2, .int .u8 p.b3, .int .u8 p.b4, .int .u8 p.b5, .int .u8 p.b6, .int .u8 p.b7, .int .i64 1, .bool true, .bool false, .int .i64 fi, .int .i64 ix] _ rfl).grew g2
  have G2 : Hid (Grew W0 W2) := (G1.out.trans (grew_alloc _ _)).trans g2
  clear g2 p0 p1 p2 p3 p4 p5 p6 p7 hf
  have r0 := (X2.out.grew G2.out).c 0 rfl
  have r1 := (X2.out.grew G2.out).c 1 rfl
  have rf := (X2.out.grew G2.out).f
  go_wp2
  refine bodyPost_ret (v := .tuple #[.agg #[.slice none 0 0, .int .i64 0], .int .i64 0, .int .i64 z]) (by simp [results, Try.results18, go_sem, *]) rfl ⟨_, rfl, NewRow.nil _ _, ?_⟩
  exact grew_set (grew_set (HG0.out.trans G2.out) (by simp; omega) _) (by simp; omega) _

set_option maxRecDepth 100000 in
set_option maxHeartbeats 2000000 in
theorem rtakeC (a : Option Addr) (c : Nat) (fs : List Fr) (h : Int) (p : Pg) (fi ix : Int) (w : World) (hv : RowAt w (.slice a fs.length c) fs) (hz : memW fs h = 0) (hy : frW (frT p fi ix) = 0) (R : List Fr × Int × Int × Int) (hR0 : ∀ k q, fs[k]? = some q → isF q = true → (∀ (j : Nat) x, j < k → fs[j]? = some x → isF x = false) → R = (fs.set k (frT p fi ix), h, (k : Int), 0)) (hR1 : (∀ (j : Nat) x, fs[j]? = some x → isF x = false) → R = ([], 0, 0, 10)) :
    Calls Try.prog 18 #[.agg #[.slice a fs.length c, .int .i64 h], .agg (pgv p).toArray, .int .i64 fi, .int .i64 ix] w fun e w' => ∃ b, e = .returned (.tuple #[.agg #[b, .int .i64 R.2.1], .int .i64 R.2.2.1, .int .i64 R.2.2.2]) ∧ NewRow w.heap.size w' b R.1 ∧ Grew w w' := by
  have HV : Hid (RowAt w (.slice a fs.length c) fs) := hv
  have hw : ∀ W, Grew w W → Calls Try.prog 12 #[.agg #[.slice a fs.length c, .int .i64 h]] W fun e w' => e = .returned (.int .i64 (memW fs h)) ∧ Grew W w' := fun W hW => refWrongMem_any a c fs h W (HV.out.grew hW)
  have hf : ∀ W, Calls Try.prog 33 #[.agg #[.int .u8 p.b0, .int .u8 p.b1, .int .u8 p.b2, .int .u8 p.b3, .int .u8 p.b4, .int .u8 p.b5, .int .u8 p.b6, .int .u8 p.b7, .int .i64 1, .bool true, .bool false, .int .i64 fi, .int .i64 ix]] W fun e w' => e = .returned (.int .i64 (frW (frT p fi ix))) ∧ Grew W w' := fun W => refWrongFrame_any (frT p fi ix) W
  clear hv
  obtain ⟨n, HN⟩ : ∃ n, Hid (fs.length = n) := ⟨_, rfl⟩
  simp only [HN.out] at hw HV ⊢
  simp only [hz] at hw
  clear hz
  simp only [hy] at hf
  clear hy
  have hbig : n ≤ 9223372036854775807 := by have := HV.out.short; rw [HN.out] at this; exact this
  have HR0 : Hid (∀ k q, fs[k]? = some q → isF q = true → (∀ (j : Nat) x, j < k → fs[j]? = some x → isF x = false) → R = (fs.set k (frT p fi ix), h, (k : Int), 0)) := hR0
  have HR1 : Hid ((∀ (j : Nat) x, fs[j]? = some x → isF x = false) → R = ([], 0, 0, 10)) := hR1
  obtain ⟨a0, c0, heq, hrow⟩ := HV.out.frs
  rw [HN.out] at heq
  cases heq
  have HRW : Hid (FrRows w a fs) := hrow
  clear hrow hR0 hR1
  show Calls Try.prog 18 #[.agg #[.slice a n c, .int .i64 h], .agg #[.int .u8 p.b0, .int .u8 p.b1, .int .u8 p.b2, .int .u8 p.b3, .int .u8 p.b4, .int .u8 p.b5, .int .u8 p.b6, .int .u8 p.b7], .int .i64 fi, .int .i64 ix] w _
  obtain ⟨W0, hW0⟩ : ∃ W0, (((w.alloc (.cells #[.slice a n c, .int .i64 h] 39)).alloc (.cells #[.int .u8 p.b0, .int .u8 p.b1, .int .u8 p.b2, .int .u8 p.b3, .int .u8 p.b4, .int .u8 p.b5, .int .u8 p.b6, .int .u8 p.b7] 31)).alloc (.cells #[.slice none 0 0, .int .i64 0] 39)) = W0 := ⟨_, rfl⟩
  have HG0 : Hid (Grew w W0) := show Grew w W0 by rw [← hW0]; exact ((grew_alloc _ _).trans (grew_alloc _ _)).trans (grew_alloc _ _)
  have X0 : Hid (Box W0 w.heap.size [.slice a n c, .int .i64 h]) := show Box _ _ _ by rw [← hW0]; exact ((Box.top w _ _ rfl).alloc _).alloc _
  have X1 : Hid (Box W0 (w.heap.size + 1) [.int .u8 p.b0, .int .u8 p.b1, .int .u8 p.b2, .int .u8 p.b3, .int .u8 p.b4, .int .u8 p.b5, .int .u8 p.b6, .int .u8 p.b7]) := show Box _ _ _ by rw [← hW0]; exact (Box.top _ _ _ (by simp)).alloc _
  have X2 : Hid (Box W0 (w.heap.size + 2) [.slice none 0 0, .int .i64 0]) := show Box _ _ _ by rw [← hW0]; exact Box.top _ _ _ (by simp)
  have HW0 : Hid (_ = W0) := hW0
  clear hW0
  go_enter Try.func18, Try.ntmps18
  go_upto_region 1 with fail
  rw [HW0.out]
  have e0 := X0.out.c 0 rfl
  have e1 := X0.out.c 1 rfl
  go_wp2_with fail
  refine (hw _ HG0.out).mono ?_
  rintro e W1 ⟨rfl, g1⟩
  have G1 : Hid (Grew W0 W1) := g1
  clear g1 e0 e1 hw
  have p0 := (X1.out.grew G1.out).c 0 rfl
  have p1 := (X1.out.grew G1.out).c 1 rfl
  have p2 := (X1.out.grew G1.out).c 2 rfl
  have p3 := (X1.out.grew G1.out).c 3 rfl
  have p4 := (X1.out.grew G1.out).c 4 rfl
  have p5 := (X1.out.grew G1.out).c 5 rfl
  have p6 := (X1.out.grew G1.out).c 6 rfl
  have p7 := (X1.out.grew G1.out).c 7 rfl
  go_wp2_with fail
  refine (hf _).mono ?_
  rintro e W2 ⟨rfl, g2⟩
  have XT : Hid (Box W2 W1.heap.size [.int .u8 p.b0, .int .u8 p.b1, .int .u8 p.b2, .int .u8 p.b3, .int .u8 p.b4, .int .u8 p.b5, .int .u8 p.b6, .int .u8 p.b7, .int .i64 1, .bool true, .bool false, .int .i64 fi, .int .i64 ix]) := (Box.top W1 [.int .u8 p.b0, .int .u8 p.b1, .int .u8 p.b2, .int .u8 p.b3, .int .u8 p.b4, .int .u8 p.b5, .int .u8 p.b6, .int .u8 p.b7, .int .i64 1, .bool true, .bool false, .int .i64 fi, .int .i64 ix] _ rfl).grew g2
  have G2 : Hid (Grew W0 W2) := (G1.out.trans (grew_alloc _ _)).trans g2
  clear g2 p0 p1 p2 p3 p4 p5 p6 p7 hf
  have e0 := (X0.out.grew G2.out).c 0 rfl
  go_wp2
  clear e0
  go_loopg [14, 15, 35] n (fun gg _ _ s35 wr => ∃ kk : Nat, kk ≤ n ∧ n - kk ≤ gg ∧ s35 = .int .i64 kk ∧ Hid (Grew W2 wr) ∧ Hid (∀ (j : Nat) x, j < kk → fs[j]? = some x → isF x = false))
  case atStart => exact ⟨0, Nat.zero_le _, by omega, rfl, Grew.refl _, fun j q hj => absurd hj (Nat.not_lt_zero _)⟩
  case round =>
    obtain ⟨kk, hkk, hg, rfl, BW, A⟩ := hrel
    by_cases hlt : kk < n
    · have hltz : (kk : Int) < (n : Int) := by omega
      obtain ⟨q, HQ⟩ : ∃ q, Hid (fs[kk]? = some q) := ⟨_, List.getElem?_eq_getElem (by rw [HN.out]; exact hlt)⟩
      obtain ⟨ad, rfl, hl⟩ := HRW.out kk q HQ.out
      obtain ⟨d0, d1, d2, d3, d4, d5, d6, d7, d8, d9, d10, d11, d12⟩ := hl wr (HG0.out.trans (G2.out.trans BW.out))
      clear hl
      cases hq : isF q with
      | true =>
        have HF : Hid (R = (fs.set kk (frT p fi ix), h, (kk : Int), 0)) := HR0.out kk q HQ.out hq A.out
        have hrb : (q.r == 0) = true := hq
        clear hq
        have e0 := (X0.out.grew (G2.out.trans BW.out)).c 0 rfl
        have e1 := (X0.out.grew (G2.out.trans BW.out)).c 1 rfl
        have el := (X0.out.grew (G2.out.trans BW.out)).lt
        have xl := (XT.out.grew BW.out).lt
        have x0 := (XT.out.grew BW.out).c 0 rfl
        have x1 := (XT.out.grew BW.out).c 1 rfl
        have x2 := (XT.out.grew BW.out).c 2 rfl
        have x3 := (XT.out.grew BW.out).c 3 rfl
        have x4 := (XT.out.grew BW.out).c 4 rfl
        have x5 := (XT.out.grew BW.out).c 5 rfl
        have x6 := (XT.out.grew BW.out).c 6 rfl
        have x7 := (XT.out.grew BW.out).c 7 rfl
        have x8 := (XT.out.grew BW.out).c 8 rfl
        have x9 := (XT.out.grew BW.out).c 9 rfl
        have x10 := (XT.out.grew BW.out).c 10 rfl
        have x11 := (XT.out.grew BW.out).c 11 rfl
        have x12 := (XT.out.grew BW.out).c 12 rfl
        have hwith : ∀ W, Grew w W → Calls Try.prog 39 #[.agg #[.slice (some ad) n c, .int .i64 h], .int .i64 (kk : Int), .agg #[.int .u8 p.b0, .int .u8 p.b1, .int .u8 p.b2, .int .u8 p.b3, .int .u8 p.b4, .int .u8 p.b5, .int .u8 p.b6, .int .u8 p.b7, .int .i64 1, .bool true, .bool false, .int .i64 fi, .int .i64 ix]] W fun e w' => ∃ a2 c2, e = .returned (.agg #[.slice a2 n c2, .int .i64 h]) ∧ NewRow W.heap.size w' (.slice a2 n c2) (fs.set kk (frT p fi ix)) ∧ Grew W w' := fun W hW => by
          have hc := with_any (some ad) c fs h kk (by rw [HN.out]; exact hlt) (frT p fi ix) W (by rw [HN.out]; exact HV.out.grew hW)
          rw [HN.out] at hc
          refine hc.mono ?_
          rintro e w' ⟨b, rfl, hb, hg⟩
          obtain ⟨a2, c2, rfl, _⟩ := hb.1.rows
          rw [List.length_set, HN.out] at hb ⊢
          exact ⟨a2, c2, rfl, hb, hg⟩
        go_wp2_with fail
        refine (hwith _ ((HG0.out.trans (G2.out.trans BW.out)).trans (grew_alloc _ _))).mono ?_
        rintro e W5 ⟨a5, c5, rfl, hb5, g5⟩
        have GG : Hid (Grew W0 W5) := ((G2.out.trans BW.out).trans (grew_alloc _ _)).trans g5
        have hx2 := X2.out.lt
        have hs2 : W0.heap.size ≤ W2.heap.size := Below.size G2.out
        have hs3 : W2.heap.size ≤ wr.heap.size := Below.size BW.out
        have NB5 : Hid (NewRow W0.heap.size W5 (.slice a5 n c5) (fs.set kk (frT p fi ix))) := hb5.base (by simp; omega)
        clear hb5 g5 x0 x1 x2 x3 x4 x5 x6 x7 x8 x9 x10 x11 x12 e0 e1 el xl d0 d1 d2 d3 d4 d5 d6 d7 d8 d9 d10 d11 d12 hwith
        have r0 := (X2.out.grew GG.out).c 0 rfl
        have r1 := (X2.out.grew GG.out).c 1 rfl
        have rf := (X2.out.grew GG.out).f
        go_wp2
        refine bodyPost_ret (v := .tuple #[.agg #[.slice a5 n c5, .int .i64 h], .int .i64 (kk : Int), .int .i64 0]) (by simp [results, Try.results18, go_sem, *]) rfl ⟨.slice a5 n c5, ?_, ?_, ?_⟩
        · rw [HF.out]
        · rw [HF.out]
          exact ((NB5.out.setCell (a := ⟨w.heap.size + 2, 0, none⟩) hx2 _).setCell (a := ⟨w.heap.size + 2, 1, none⟩) hx2 _).base (Below.size HG0.out)
        · exact grew_set (grew_set (HG0.out.trans GG.out) (by simp; omega) _) (by simp; omega) _
      | false =>
        have HA : Hid (∀ (j : Nat) x, j < kk + 1 → fs[j]? = some x → isF x = false) := show ∀ (j : Nat) x, _ from fun j q' hj hq' => by
          by_cases e : j = kk
          · subst e
            rw [HQ.out] at hq'
            cases hq'
            exact hq
          · exact A.out j q' (by omega) hq'
        have hrb : (q.r == 0) = false := hq
        clear hq
        go_wp2
        go_roundg (n - (kk + 1))
        case measure => omega
        case rel => exact ⟨kk + 1, by omega, by omega, by go_num, BW.out.trans (grew_alloc _ _), HA.out⟩
    · have hltz : ¬ (kk : Int) < (n : Int) := by omega
      have : kk = n := by omega
      subst this
      have HF : Hid (R = ([], 0, 0, 10)) := HR1.out (fun j x hj => A.out j x (by rw [← HN.out]; exact (List.getElem?_eq_some_iff.1 hj).1) hj)
      have GG : Hid (Grew W0 wr) := G2.out.trans BW.out
      have r0 := (X2.out.grew GG.out).c 0 rfl
      have r1 := (X2.out.grew GG.out).c 1 rfl
      have rf := (X2.out.grew GG.out).f
      go_wp2
      refine bodyPost_ret (v := .tuple #[.agg #[.slice none 0 0, .int .i64 0], .int .i64 0, .int .i64 10]) (by simp [results, Try.results18, go_sem, *]) rfl ⟨.slice none 0 0, ?_, ?_, ?_⟩
      · rw [HF.out]
      · rw [HF.out]
        exact NewRow.nil _ _
      · exact grew_set (grew_set (HG0.out.trans GG.out) (by simp; omega) _) (by simp; omega) _

theorem refTake_any (a : Option Addr) (c : Nat) (fs : List Fr) (h : Int) (p : Pg) (fi ix : Int) (w : World) (hv : RowAt w (.slice a fs.length c) fs) :
    Calls Try.prog 18 #[.agg #[.slice a fs.length c, .int .i64 h], .agg (pgv p).toArray, .int .i64 fi, .int .i64 ix] w fun e w' => ∃ b, e = .returned (.tuple #[.agg #[b, .int .i64 (takeH fs h (frT p fi ix))], .int .i64 (takeI fs h (frT p fi ix)), .int .i64 (takeE fs h (frT p fi ix))]) ∧ NewRow w.heap.size w' b (takeF fs h (frT p fi ix)) ∧ Grew w w' := by
  by_cases hz : memW fs h = 0
  · by_cases hy : frW (frT p fi ix) = 0
    · refine rtakeC a c fs h p fi ix w hv hz hy (takeF fs h (frT p fi ix), takeH fs h (frT p fi ix), takeI fs h (frT p fi ix), takeE fs h (frT p fi ix)) (fun k q hq hF hb => ?_) (fun hb => ?_)
      · have hk := findIdx_at hq hF hb
        have hkl : fs.findIdx isF < fs.length := by rw [hk]; exact (List.getElem?_eq_some_iff.1 hq).1
        unfold takeF takeH takeI
        rw [show takeE fs h (frT p fi ix) = 0 from by unfold takeE; rw [if_pos hz, if_pos hy, if_pos hkl], if_pos rfl, if_pos rfl, if_pos rfl, hk]
      · have hk := findIdx_no hb
        unfold takeF takeH takeI
        rw [show takeE fs h (frT p fi ix) = 10 from by unfold takeE; rw [if_pos hz, if_pos hy, if_neg (by omega)], if_neg (by decide), if_neg (by decide), if_neg (by decide)]
    · unfold takeH takeI takeF
      rw [show takeE fs h (frT p fi ix) = frW (frT p fi ix) from by unfold takeE; rw [if_pos hz, if_neg hy], if_neg hy, if_neg hy, if_neg hy]
      exact rtakeB a c fs h p fi ix w hv hz _ rfl (by simpa using hy)
  · unfold takeH takeI takeF
    rw [show takeE fs h (frT p fi ix) = memW fs h from by unfold takeE; rw [if_neg hz], if_neg hz, if_neg hz, if_neg hz]
    exact rtakeA a c fs h p fi ix w hv _ rfl (by simpa using hz)

end Go.Proofs.Ytbcaagmnmaonbab
