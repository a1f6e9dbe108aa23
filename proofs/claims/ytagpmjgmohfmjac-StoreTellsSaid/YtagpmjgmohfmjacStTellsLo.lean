/- The walk of the law StoreTells (Lo). -/
import Derived.Test.YtagpmjgmohfmjacStRefBlock
import Derived.Test.YtagpmjgmohfmjacStRefSize
import Derived.Test.YtagpmjgmohfmjacStRefCreate
import Derived.Test.YtagpmjgmohfmjacStSame
namespace Go.Proofs.Ytagpmjgmohfmjac
open Go.RowKit

set_option maxRecDepth 100000 in
set_option maxHeartbeats 4000000 in
theorem tellsLo_any (v : Value) (fs : List Fl) (cnt k x n : Int) (hn0 : n < 0) (w : World) (hv : FilesAt w v fs) :
    Calls Try.prog 4 #[.agg #[v, .int .i64 cnt], .int .i64 k, .int .i64 x, .int .i64 n] w fun e w' => e = .returned (.bool true) ∧ Grew w w' := by
  have hnew : ∀ W, Calls Try.prog 13 #[.int .i64 n] W fun e w' => e = .returned (.tuple #[.agg #[.slice none 0 0, .int .i64 0], .int .i64 4]) ∧ Grew W w' := fun W => by
    have := newSt_any n W
    rw [if_neg (by omega), if_neg (by omega)] at this
    exact this
  have hn0' : ¬ 0 ≤ n := by omega
  have hn0d : decide (0 ≤ n) = false := decide_eq_false hn0'
  have HV : Hid (FilesAt w v fs) := hv
  have HVD : Hid (∀ W, Grew w W → FilesD (fun q => w.heap.size ≤ q ∧ q < W.heap.size) W v fs) := show ∀ W, _ from fun W hW => hv.d.more hW (fun q hq => .inr hq.1)
  have c1 : ∀ W, Grew w W → Calls Try.prog 14 #[.agg #[v, .int .i64 cnt]] W fun e w' => e = .returned (.int .i64 (stW fs cnt)) ∧ Grew W w' := fun W hW => wrongSt_any v fs cnt W (hv.grew hW)
  have c2 : ∀ W, Grew w W → Calls Try.prog 15 #[.agg #[v, .int .i64 cnt]] W fun e w' => e = .returned (.int .i64 (stW fs cnt)) ∧ Grew W w' := fun W hW => refWrongSt_any v fs cnt W (hv.grew hW)
  have c3 : ∀ W, Grew w W → Calls Try.prog 17 #[.agg #[v, .int .i64 cnt]] W fun e w' => ∃ b, e = .returned (.agg #[b, .int .i64 cnt]) ∧ FilesAt w' b fs ∧ Grew W w' := fun W hW => (ownSt_any v fs cnt W (hv.grew hW)).mono (by
    rintro e w' ⟨b, he, h1, h2, _⟩
    exact ⟨b, he, h1.new.at, h2⟩)
  have c5 : ∀ W, Grew w W → Calls Try.prog 18 #[.agg #[v, .int .i64 cnt]] W fun e w' => ∃ b, e = .returned (.tuple #[.agg #[b, .int .i64 (creC fs cnt)], .int .i64 (creI fs cnt), .int .i64 (creE fs cnt)]) ∧ FilesS 0 W.heap.size w' b (creF fs cnt) ∧ Grew W w' := fun W hW => createSt_any v fs cnt W (hv.grew hW)
  have c6 : ∀ W, Grew w W → Calls Try.prog 19 #[.agg #[v, .int .i64 cnt]] W fun e w' => ∃ b, e = .returned (.tuple #[.agg #[b, .int .i64 (creC fs cnt)], .int .i64 (creI fs cnt), .int .i64 (creE fs cnt)]) ∧ FilesD (fun q => w.heap.size ≤ q ∧ q < W.heap.size) w' b (creF fs cnt) ∧ Grew W w' := fun W hW => refCreate_any v fs cnt _ W (HVD.out W hW) (fun q hq => hq.2)
  have c7 : ∀ W, Grew w W → Calls Try.prog 20 #[.agg #[v, .int .i64 cnt], .int .i64 k, .int .i64 n] W fun e w' => ∃ b, e = .returned (.tuple #[.agg #[b, .int .i64 (sizC fs cnt k n)], .int .i64 (sizE fs cnt k n)]) ∧ FilesS 0 W.heap.size w' b (sizF fs cnt k n) ∧ Grew W w' := fun W hW => sizeSt_any v fs cnt k n W (hv.grew hW)
  have c8 : ∀ W, Grew w W → Calls Try.prog 21 #[.agg #[v, .int .i64 cnt], .int .i64 k, .int .i64 n] W fun e w' => ∃ b, e = .returned (.tuple #[.agg #[b, .int .i64 (sizC fs cnt k n)], .int .i64 (sizE fs cnt k n)]) ∧ FilesD (fun q => w.heap.size ≤ q ∧ q < W.heap.size) w' b (sizF fs cnt k n) ∧ Grew W w' := fun W hW => refSize_any v fs cnt k n _ W (HVD.out W hW) (fun q hq => hq.2)
  have c9 : ∀ W, Grew w W → Calls Try.prog 22 #[.agg #[v, .int .i64 cnt], .int .i64 k, .int .i64 x] W fun e w' => ∃ b, e = .returned (.tuple #[.agg #[b, .int .i64 (blkC fs cnt k x)], .int .i64 (blkI fs cnt k x), .int .i64 (blkE fs cnt k x)]) ∧ FilesS 0 W.heap.size w' b (blkF fs cnt k x) ∧ Grew W w' := fun W hW => blockSt_any v fs cnt k x W (hv.grew hW)
  have c10 : ∀ W, Grew w W → Calls Try.prog 23 #[.agg #[v, .int .i64 cnt], .int .i64 k, .int .i64 x] W fun e w' => ∃ b, e = .returned (.tuple #[.agg #[b, .int .i64 (blkC fs cnt k x)], .int .i64 (blkI fs cnt k x), .int .i64 (blkE fs cnt k x)]) ∧ FilesD (fun q => w.heap.size ≤ q ∧ q < W.heap.size) w' b (blkF fs cnt k x) ∧ Grew W w' := fun W hW => refBlock_any v fs cnt k x _ W (HVD.out W hW) (fun q hq => hq.2)
  have c11 : ∀ (q : Nat) W, Grew w W → Calls Try.prog 24 #[.agg #[v, .int .i64 cnt], .int .i64 (q : Int)] W fun e w' => e = .returned (.bool (usedB fs (q : Int))) ∧ Grew W w' := fun q W hW => used_any v fs cnt (q : Int) W (hv.grew hW)
  have c12 : ∀ W, Grew w W → Calls Try.prog 25 #[.agg #[v, .int .i64 cnt]] W fun e w' => e = .returned (.int .i64 (leftN fs cnt : Int)) ∧ Grew W w' := fun W hW => leftN_any v fs cnt W (hv.grew hW)
  have HLN : Hid (stW fs cnt = 0 → (0 ≤ cnt ∧ cnt ≤ 80) ∧ leftN fs cnt = (leftTo fs cnt.toNat).length) := show _ → _ from fun h => by
    have h1 := ((stW_zero fs cnt).1 h).1
    refine ⟨h1.2, ?_⟩
    unfold leftN
    rw [if_pos h, show leftTo fs cnt.toNat = (leftL fs ((cnt.toNat : Nat) : Int)).map fun (b : Nat) => (b : Int) from leftTo_all fs _, List.length_map, show ((cnt.toNat : Nat) : Int) = cnt by omega]
  clear HVD
  obtain ⟨a, c, rfl, hbig, _⟩ := hv.rows
  clear hv
  generalize creC fs cnt = C1 at c5 c6
  generalize creI fs cnt = I1 at c5 c6
  generalize creE fs cnt = E1 at c5 c6
  generalize creF fs cnt = F1 at c5 c6
  generalize sizC fs cnt k n = C2 at c7 c8
  generalize sizE fs cnt k n = E2 at c7 c8
  generalize sizF fs cnt k n = F2 at c7 c8
  generalize blkC fs cnt k x = C3 at c9 c10
  generalize blkI fs cnt k x = I3 at c9 c10
  generalize blkE fs cnt k x = E3 at c9 c10
  generalize blkF fs cnt k x = F3 at c9 c10
  generalize stW fs cnt = S at c1 c2 HLN
  generalize leftN fs cnt = LN at c12 HLN
  obtain ⟨nF, HN⟩ : ∃ nF, Hid (fs.length = nF) := ⟨_, rfl⟩
  simp only [HN.out] at c1 c2 c3 c5 c6 c7 c8 c9 c10 c11 c12 HV hbig ⊢
  have hss : (S != S) = false := by simp
  have he1 : (E1 != E1) = false := by simp
  have hi1 : (I1 != I1) = false := by simp
  have he2 : (E2 != E2) = false := by simp
  have he3 : (E3 != E3) = false := by simp
  have hi3 : (I3 != I3) = false := by simp
  obtain ⟨W0, hW0⟩ : ∃ W0, w.alloc (.cells #[.slice a nF c, .int .i64 cnt] 36) = W0 := ⟨_, rfl⟩
  have HG0 : Hid (Grew w W0) := show Grew w W0 by rw [← hW0]; exact grew_alloc _ _
  have X0 : Hid (Box W0 w.heap.size [.slice a nF c, .int .i64 cnt]) := show Box _ _ _ by rw [← hW0]; exact Box.top w _ _ rfl
  have HW0 : Hid (_ = W0) := hW0
  clear hW0
  go_enter Try.func4, Try.ntmps4
  go_wp2_with fail
  rw [HW0.out]
  refine (hnew _).mono ?_
  rintro e W1 ⟨rfl, g1⟩
  have G1 : Hid (Grew w W1) := HG0.out.trans g1
  have X1 : Hid (Box W1 w.heap.size [.slice a nF c, .int .i64 cnt]) := X0.out.grew g1
  clear g1 hnew
  go_upto_region 2 with fail
  obtain ⟨px, hpx⟩ : ∃ px, W1.heap.size = px := ⟨_, rfl⟩
  obtain ⟨W2, hW2⟩ : ∃ W2, W1.alloc (.cells #[.slice none 0 0, .int .i64 0] 36) = W2 := ⟨_, rfl⟩
  have G2 : Hid (Grew w W2) := show Grew _ _ by rw [← hW2]; exact G1.out.trans (grew_alloc _ _)
  have X2 : Hid (Box W2 w.heap.size [.slice a nF c, .int .i64 cnt]) := show Box _ _ _ by rw [← hW2]; exact X1.out.alloc _
  have P2 : Hid (Box W2 px [.slice none 0 0, .int .i64 0]) := show Box _ _ _ by rw [← hW2]; exact Box.top _ _ _ hpx.symm
  rw [hW2]
  rw [hpx]
  clear hW2 hpx X1
  have hx0 : ∀ y : GrownW W2, y.world.cell? ⟨w.heap.size, 0, none⟩ = some (.slice a nF c) := fun y => (X2.out.grew y.grew).c 0 rfl
  have hx1 : ∀ y : GrownW W2, y.world.cell? ⟨w.heap.size, 1, none⟩ = some (.int .i64 cnt) := fun y => (X2.out.grew y.grew).c 1 rfl
  have hp0 : ∀ y : GrownW W2, y.world.cell? ⟨px, 0, none⟩ = some (.slice none 0 0) := fun y => (P2.out.grew y.grew).c 0 rfl
  have hp1 : ∀ y : GrownW W2, y.world.cell? ⟨px, 1, none⟩ = some (.int .i64 0) := fun y => (P2.out.grew y.grew).c 1 rfl
  have hne : Nonempty (GrownW W2) := ⟨⟨_, Grew.refl _⟩⟩
  refine wp_lax [(1, ⟨fun v => v = .int .i64 S, fun _ _ => True⟩), (3, ⟨fun v => v = .int .i64 S, fun _ _ => True⟩), (7, ⟨fun v => ∃ a' c', v = .agg #[.slice a' nF c', .int .i64 cnt], fun v w' => ∃ b, v = .agg #[b, .int .i64 cnt] ∧ FilesAt w' b fs⟩), (9, ⟨fun v => v = .bool true, fun _ _ => True⟩)] mixed (by kernel_rfl) ?_ ?_ ?_
  · intro x hx
    simp at hx
    rcases hx with rfl | rfl | rfl | rfl
    · exact ⟨_, rfl⟩
    · exact ⟨_, rfl⟩
    · exact ⟨_, none, 0, rfl⟩
    · exact ⟨_, rfl⟩
  · intro x hx
    simp at hx
    rcases hx with rfl | rfl | rfl | rfl
    · exact fun _ _ _ _ h => h
    · exact fun _ _ _ _ h => h
    · exact fun _ _ _ hg ⟨b, h1, h2⟩ => ⟨b, h1, h2.grew hg⟩
    · exact fun _ _ _ _ h => h
  iterate 1 (refine lax_quiet rfl rfl rfl (fun K hK => ?_); go_big_quiet_op; refine hK _ ?_; clear hK K)
  refine lax_spec rfl rfl (fun w' hg hF => ?_) (fun v1 hv => ?_)
  · refine Does.call [.agg #[.slice a nF c, .int .i64 cnt]] rfl Try.func14 rfl rfl rfl ?_
    refine (c1 w' (G2.out.trans hg)).mono ?_
    rintro e w'' ⟨rfl, hg2⟩
    exact ⟨_, rfl, hg2, rfl, trivial⟩
  subst hv
  simp only [Act.put, List.setIfInBounds_toArray, List.set_cons_succ, List.set_cons_zero]
  iterate 1 (refine lax_quiet rfl rfl rfl (fun K hK => ?_); go_big_quiet_op; refine hK _ ?_; clear hK K)
  refine lax_spec rfl rfl (fun w' hg hF => ?_) (fun v1 hv => ?_)
  · refine Does.call [.agg #[.slice a nF c, .int .i64 cnt]] rfl Try.func15 rfl rfl rfl ?_
    refine (c2 w' (G2.out.trans hg)).mono ?_
    rintro e w'' ⟨rfl, hg2⟩
    exact ⟨_, rfl, hg2, rfl, trivial⟩
  subst hv
  simp only [Act.put, List.setIfInBounds_toArray, List.set_cons_succ, List.set_cons_zero]
  iterate 3 (refine lax_quiet rfl rfl rfl (fun K hK => ?_); go_big_quiet_op; refine hK _ ?_; clear hK K)
  refine lax_spec rfl rfl (fun w' hg hF => ?_) (fun v1 hv => ?_)
  · refine Does.call [.agg #[.slice a nF c, .int .i64 cnt]] rfl Try.func17 rfl rfl rfl ?_
    refine (c3 w' (G2.out.trans hg)).mono ?_
    rintro e w'' ⟨b, rfl, fb, hg2⟩
    obtain ⟨ya, yc, rfl, _, _⟩ := fb.rows
    rw [HN.out] at fb ⊢
    exact ⟨_, rfl, hg2, ⟨ya, yc, rfl⟩, ⟨_, rfl, fb⟩⟩
  obtain ⟨ya, yc, rfl⟩ := hv
  simp only [Act.put, List.setIfInBounds_toArray, List.set_cons_succ, List.set_cons_zero]
  iterate 1 (refine lax_quiet rfl rfl rfl (fun K hK => ?_); go_big_quiet_op; refine hK _ ?_; clear hK K)
  refine lax_spec rfl rfl (fun w' hg hF => ?_) (fun v1 hv => ?_)
  · obtain ⟨b, hb, h7⟩ : ∃ b, (Value.agg #[.slice ya nF yc, .int .i64 cnt]) = .agg #[b, .int .i64 cnt] ∧ FilesAt w' b fs := hF 7 (by kernel_rfl)
    cases hb
    refine Does.call [.agg #[.slice ya nF yc, .int .i64 cnt], .agg #[.slice a nF c, .int .i64 cnt]] rfl Try.func16 rfl rfl rfl ?_
    refine (sameSt_any _ _ fs cnt w' h7 (HV.out.grew (G2.out.trans hg))).mono ?_
    rintro e w'' ⟨rfl, hg2⟩
    exact ⟨_, rfl, hg2, rfl, trivial⟩
  subst hv
  simp only [Act.put, List.setIfInBounds_toArray, List.set_cons_succ, List.set_cons_zero]
  iterate 8 (refine lax_quiet rfl rfl rfl (fun K hK => ?_); go_big_quiet_op; refine hK _ ?_; clear hK K)
  refine lax_skip ?_ ?_
  · kernel_rfl
  simp only [Act.put, List.setIfInBounds_toArray, List.set_cons_succ, List.set_cons_zero]
  refine lax_skip ?_ ?_
  · kernel_rfl
  simp only [Act.put, List.setIfInBounds_toArray, List.set_cons_succ, List.set_cons_zero]
  iterate 7 (refine lax_quiet rfl rfl rfl (fun K hK => ?_); go_big_quiet_op; refine hK _ ?_; clear hK K)
  refine lax_skip ?_ ?_
  · kernel_rfl
  simp only [Act.put, List.setIfInBounds_toArray, List.set_cons_succ, List.set_cons_zero]
  refine lax_skip ?_ ?_
  · kernel_rfl
  simp only [Act.put, List.setIfInBounds_toArray, List.set_cons_succ, List.set_cons_zero]
  refine lax_skip ?_ ?_
  · kernel_rfl
  simp only [Act.put, List.setIfInBounds_toArray, List.set_cons_succ, List.set_cons_zero]
  refine lax_skip ?_ ?_
  · kernel_rfl
  simp only [Act.put, List.setIfInBounds_toArray, List.set_cons_succ, List.set_cons_zero]
  refine lax_skip ?_ ?_
  · kernel_rfl
  simp only [Act.put, List.setIfInBounds_toArray, List.set_cons_succ, List.set_cons_zero]
  refine lax_skip ?_ ?_
  · kernel_rfl
  simp only [Act.put, List.setIfInBounds_toArray, List.set_cons_succ, List.set_cons_zero]
  refine lax_skip ?_ ?_
  · kernel_rfl
  simp only [Act.put, List.setIfInBounds_toArray, List.set_cons_succ, List.set_cons_zero]
  refine lax_skip ?_ ?_
  · kernel_rfl
  simp only [Act.put, List.setIfInBounds_toArray, List.set_cons_succ, List.set_cons_zero]
  refine lax_skip ?_ ?_
  · kernel_rfl
  simp only [Act.put, List.setIfInBounds_toArray, List.set_cons_succ, List.set_cons_zero]
  refine lax_skip ?_ ?_
  · kernel_rfl
  simp only [Act.put, List.setIfInBounds_toArray, List.set_cons_succ, List.set_cons_zero]
  iterate 2 (refine lax_quiet rfl rfl rfl (fun K hK => ?_); go_big_quiet_op; refine hK _ ?_; clear hK K)
  refine lax_nil fun W3 hg3 hF => ?_
  have G3 : Hid (Grew w W3) := G2.out.trans hg3
  have X3 : Hid (Box W3 w.heap.size [.slice a nF c, .int .i64 cnt]) := X2.out.grew hg3
  clear hF hg3 hx0 hx1 hp0 hp1 hne c1 c3 X2 P2
  have x0 := X3.out.c 0 rfl
  have x1 := X3.out.c 1 rfl
  go_wp2_with fail
  refine (c5 _ G3.out).mono ?_
  rintro e W4 ⟨va, rfl, f4, g4⟩
  have F4 : Hid (FilesS 0 W3.heap.size W4 va F1) := f4
  obtain ⟨aa, ac, rfl, _, _⟩ := f4.at.rows
  obtain ⟨l1, L1⟩ : ∃ l, Hid (F1.length = l) := ⟨_, rfl⟩
  rw [L1.out] at F4 ⊢
  have G4 : Hid (Grew w W4) := G3.out.trans g4
  have X4 : Hid (Box W4 w.heap.size [.slice a nF c, .int .i64 cnt]) := X3.out.grew g4
  clear f4 g4 x0 x1 c5 X3
  go_upto_region 5 with fail
  obtain ⟨pa, hpa⟩ : ∃ pa, W4.heap.size = pa := ⟨_, rfl⟩
  obtain ⟨W5, hW5⟩ : ∃ W5, W4.alloc (.cells #[.slice aa l1 ac, .int .i64 C1] 36) = W5 := ⟨_, rfl⟩
  have G5 : Hid (Grew w W5) := show Grew _ _ by rw [← hW5]; exact G4.out.trans (grew_alloc _ _)
  have X5 : Hid (Box W5 w.heap.size [.slice a nF c, .int .i64 cnt]) := show Box _ _ _ by rw [← hW5]; exact X4.out.alloc _
  have A5 : Hid (Box W5 pa [.slice aa l1 ac, .int .i64 C1]) := show Box _ _ _ by rw [← hW5]; exact Box.top _ _ _ hpa.symm
  have F5 : Hid (FilesAt W5 (.slice aa l1 ac) F1) := show FilesAt _ _ _ by rw [← hW5]; exact F4.out.at.grew (grew_alloc _ _)
  have HPA : Hid (w.heap.size < pa) := show _ < _ by rw [← hpa]; exact X4.out.lt
  rw [hW5]
  rw [hpa]
  clear hW5 hpa X4 F4
  have x0 := X5.out.c 0 rfl
  have x1 := X5.out.c 1 rfl
  go_wp2_with fail
  refine (c6 _ G5.out).mono ?_
  rintro e W6 ⟨vb, rfl, f6, g6⟩
  have F6b : Hid (FilesAt W6 vb F1) := f6.at
  obtain ⟨ba, bc, rfl, _, _⟩ := f6.at.rows
  rw [L1.out] at F6b ⊢
  have G6 : Hid (Grew w W6) := G5.out.trans g6
  have X6 : Hid (Box W6 w.heap.size [.slice a nF c, .int .i64 cnt]) := X5.out.grew g6
  have A6 : Hid (Box W6 pa [.slice aa l1 ac, .int .i64 C1]) := A5.out.grew g6
  have F6 : Hid (FilesAt W6 (.slice aa l1 ac) F1) := F5.out.grew g6
  clear f6 g6 x0 x1 c6 X5 A5 F5
  go_upto_region 6 with fail
  obtain ⟨pb, hpb⟩ : ∃ pb, W6.heap.size = pb := ⟨_, rfl⟩
  obtain ⟨W7, hW7⟩ : ∃ W7, W6.alloc (.cells #[.slice ba l1 bc, .int .i64 C1] 36) = W7 := ⟨_, rfl⟩
  have G7 : Hid (Grew w W7) := show Grew _ _ by rw [← hW7]; exact G6.out.trans (grew_alloc _ _)
  have X7 : Hid (Box W7 w.heap.size [.slice a nF c, .int .i64 cnt]) := show Box _ _ _ by rw [← hW7]; exact X6.out.alloc _
  have A7 : Hid (Box W7 pa [.slice aa l1 ac, .int .i64 C1]) := show Box _ _ _ by rw [← hW7]; exact A6.out.alloc _
  have B7 : Hid (Box W7 pb [.slice ba l1 bc, .int .i64 C1]) := show Box _ _ _ by rw [← hW7]; exact Box.top _ _ _ hpb.symm
  have F7 : Hid (FilesAt W7 (.slice aa l1 ac) F1) := show FilesAt _ _ _ by rw [← hW7]; exact F6.out.grew (grew_alloc _ _)
  have F7b : Hid (FilesAt W7 (.slice ba l1 bc) F1) := show FilesAt _ _ _ by rw [← hW7]; exact F6b.out.grew (grew_alloc _ _)
  have HPB : Hid (pa < pb) := show _ < _ by rw [← hpb]; exact A6.out.lt
  rw [hW7]
  rw [hpb]
  clear hW7 hpb X6 A6 F6 F6b
  have q0 := A7.out.c 0 rfl
  have q1 := A7.out.c 1 rfl
  have r0 := B7.out.c 0 rfl
  have r1 := B7.out.c 1 rfl
  go_wp2_with fail
  refine (sameSt_any _ _ F1 C1 _ F7.out F7b.out).mono ?_
  rintro e W8 ⟨rfl, g8⟩
  have G8 : Hid (Grew w W8) := G7.out.trans g8
  have X8 : Hid (Box W8 w.heap.size [.slice a nF c, .int .i64 cnt]) := X7.out.grew g8
  have A8 : Hid (Box W8 pa [.slice aa l1 ac, .int .i64 C1]) := A7.out.grew g8
  have B8 : Hid (Box W8 pb [.slice ba l1 bc, .int .i64 C1]) := B7.out.grew g8
  clear g8 q0 q1 r0 r1 X7 A7 B7 F7 F7b
  have x0 := X8.out.c 0 rfl
  have x1 := X8.out.c 1 rfl
  go_wp2_with fail
  refine (c7 _ G8.out).mono ?_
  rintro e W9 ⟨va2, rfl, fa, ga⟩
  have F9 : Hid (FilesS 0 W8.heap.size W9 va2 F2) := fa
  obtain ⟨aa2, ac2, rfl, _, _⟩ := fa.at.rows
  obtain ⟨l2, L2⟩ : ∃ l, Hid (F2.length = l) := ⟨_, rfl⟩
  rw [L2.out] at F9 ⊢
  have G9 : Hid (Grew w W9) := G8.out.trans ga
  have X9 : Hid (Box W9 w.heap.size [.slice a nF c, .int .i64 cnt]) := X8.out.grew ga
  have A9 : Hid (Box W9 pa [.slice aa l1 ac, .int .i64 C1]) := A8.out.grew ga
  have B9 : Hid (Box W9 pb [.slice ba l1 bc, .int .i64 C1]) := B8.out.grew ga
  have HL8 : Hid (pa < W8.heap.size ∧ pb < W8.heap.size) := ⟨A8.out.lt, B8.out.lt⟩
  clear fa ga x0 x1 c7 X8 A8 B8
  have q0 := A9.out.c 0 rfl
  have q1 := A9.out.c 1 rfl
  have qf := A9.out.f
  go_upto_region 9 with fail
  obtain ⟨W10, hW⟩ : ∃ W10, (W9.setCell ⟨pa, 0, none⟩ (.slice aa2 l2 ac2)).setCell ⟨pa, 1, none⟩ (.int .i64 C2) = W10 := ⟨_, rfl⟩
  have G10 : Hid (Grew w W10) := show Grew _ _ by rw [← hW]; exact grew_two G9.out (by have := HPA.out; omega) _ _
  have X10 : Hid (Box W10 w.heap.size [.slice a nF c, .int .i64 cnt]) := show Box _ _ _ by rw [← hW]; exact (X9.out.other (by have := HPA.out; show w.heap.size ≠ pa; omega) _).other (by have := HPA.out; show w.heap.size ≠ pa; omega) _
  have A10 : Hid (Box W10 pa [.slice aa2 l2 ac2, .int .i64 C2]) := show Box _ _ _ by rw [← hW]; exact A9.out.two _ _
  have B10 : Hid (Box W10 pb [.slice ba l1 bc, .int .i64 C1]) := show Box _ _ _ by rw [← hW]; exact (B9.out.other (by have := HPB.out; show pb ≠ pa; omega) _).other (by have := HPB.out; show pb ≠ pa; omega) _
  have F10 : Hid (FilesS 0 W8.heap.size W10 (.slice aa2 l2 ac2) F2) := show FilesS _ _ _ _ _ by rw [← hW]; exact F9.out.two (Nat.zero_le _) HL8.out.1 _ _
  rw [hW]
  clear hW q0 q1 qf X9 A9 B9 F9
  have x0 := X10.out.c 0 rfl
  have x1 := X10.out.c 1 rfl
  go_wp2_with fail
  refine (c8 _ G10.out).mono ?_
  rintro e W11 ⟨vb2, rfl, fb, gb⟩
  have D11 : Hid (FilesD (fun q => w.heap.size ≤ q ∧ q < W10.heap.size) W11 vb2 F2) := fb
  obtain ⟨ba2, bc2, rfl, _, _⟩ := fb.at.rows
  rw [L2.out] at D11 ⊢
  have G11 : Hid (Grew w W11) := G10.out.trans gb
  have X11 : Hid (Box W11 w.heap.size [.slice a nF c, .int .i64 cnt]) := X10.out.grew gb
  have A11 : Hid (Box W11 pa [.slice aa2 l2 ac2, .int .i64 C2]) := A10.out.grew gb
  have B11 : Hid (Box W11 pb [.slice ba l1 bc, .int .i64 C1]) := B10.out.grew gb
  have F11 : Hid (FilesS 0 W8.heap.size W11 (.slice aa2 l2 ac2) F2) := F10.out.grew gb
  have HM8 : Hid (pb < W10.heap.size) := B10.out.lt
  clear fb gb x0 x1 c8 X10 A10 B10 F10
  have q0 := B11.out.c 0 rfl
  have q1 := B11.out.c 1 rfl
  have qf := B11.out.f
  go_upto_region 10 with fail
  obtain ⟨W12, hW⟩ : ∃ W12, (W11.setCell ⟨pb, 0, none⟩ (.slice ba2 l2 bc2)).setCell ⟨pb, 1, none⟩ (.int .i64 C2) = W12 := ⟨_, rfl⟩
  have G12 : Hid (Grew w W12) := show Grew _ _ by rw [← hW]; exact grew_two G11.out (by have := HPA.out; have := HPB.out; omega) _ _
  have X12 : Hid (Box W12 w.heap.size [.slice a nF c, .int .i64 cnt]) := show Box _ _ _ by rw [← hW]; exact (X11.out.other (by have := HPA.out; have := HPB.out; show w.heap.size ≠ pb; omega) _).other (by have := HPA.out; have := HPB.out; show w.heap.size ≠ pb; omega) _
  have A12 : Hid (Box W12 pa [.slice aa2 l2 ac2, .int .i64 C2]) := show Box _ _ _ by rw [← hW]; exact (A11.out.other (by have := HPB.out; show pa ≠ pb; omega) _).other (by have := HPB.out; show pa ≠ pb; omega) _
  have B12 : Hid (Box W12 pb [.slice ba2 l2 bc2, .int .i64 C2]) := show Box _ _ _ by rw [← hW]; exact B11.out.two _ _
  have F12 : Hid (FilesAt W12 (.slice aa2 l2 ac2) F2) := show FilesAt _ _ _ by rw [← hW]; exact (F11.out.two (Nat.zero_le _) HL8.out.2 _ _).at
  have D12 : Hid (FilesAt W12 (.slice ba2 l2 bc2) F2) := show FilesAt _ _ _ by rw [← hW]; exact (D11.out.two ⟨by have := HPA.out; have := HPB.out; omega, HM8.out⟩ _ _).at
  rw [hW]
  clear hW q0 q1 qf X11 A11 B11 F11 D11
  have q0 := A12.out.c 0 rfl
  have q1 := A12.out.c 1 rfl
  have r0 := B12.out.c 0 rfl
  have r1 := B12.out.c 1 rfl
  go_wp2_with fail
  refine (sameSt_any _ _ F2 C2 _ F12.out D12.out).mono ?_
  rintro e W13 ⟨rfl, gs⟩
  have G13 : Hid (Grew w W13) := G12.out.trans gs
  have X13 : Hid (Box W13 w.heap.size [.slice a nF c, .int .i64 cnt]) := X12.out.grew gs
  have A13 : Hid (Box W13 pa [.slice aa2 l2 ac2, .int .i64 C2]) := A12.out.grew gs
  have B13 : Hid (Box W13 pb [.slice ba2 l2 bc2, .int .i64 C2]) := B12.out.grew gs
  clear gs q0 q1 r0 r1 X12 A12 B12 F12 D12
  have x0 := X13.out.c 0 rfl
  have x1 := X13.out.c 1 rfl
  go_wp2_with fail
  refine (c9 _ G13.out).mono ?_
  rintro e W14 ⟨va3, rfl, fa, ga⟩
  have F14 : Hid (FilesS 0 W13.heap.size W14 va3 F3) := fa
  obtain ⟨aa3, ac3, rfl, _, _⟩ := fa.at.rows
  obtain ⟨l3, L3⟩ : ∃ l, Hid (F3.length = l) := ⟨_, rfl⟩
  rw [L3.out] at F14 ⊢
  have G14 : Hid (Grew w W14) := G13.out.trans ga
  have X14 : Hid (Box W14 w.heap.size [.slice a nF c, .int .i64 cnt]) := X13.out.grew ga
  have A14 : Hid (Box W14 pa [.slice aa2 l2 ac2, .int .i64 C2]) := A13.out.grew ga
  have B14 : Hid (Box W14 pb [.slice ba2 l2 bc2, .int .i64 C2]) := B13.out.grew ga
  have HL13 : Hid (pa < W13.heap.size ∧ pb < W13.heap.size) := ⟨A13.out.lt, B13.out.lt⟩
  clear fa ga x0 x1 c9 X13 A13 B13
  have q0 := A14.out.c 0 rfl
  have q1 := A14.out.c 1 rfl
  have qf := A14.out.f
  go_upto_region 13 with fail
  obtain ⟨W15, hW⟩ : ∃ W15, (W14.setCell ⟨pa, 0, none⟩ (.slice aa3 l3 ac3)).setCell ⟨pa, 1, none⟩ (.int .i64 C3) = W15 := ⟨_, rfl⟩
  have G15 : Hid (Grew w W15) := show Grew _ _ by rw [← hW]; exact grew_two G14.out (by have := HPA.out; omega) _ _
  have X15 : Hid (Box W15 w.heap.size [.slice a nF c, .int .i64 cnt]) := show Box _ _ _ by rw [← hW]; exact (X14.out.other (by have := HPA.out; show w.heap.size ≠ pa; omega) _).other (by have := HPA.out; show w.heap.size ≠ pa; omega) _
  have A15 : Hid (Box W15 pa [.slice aa3 l3 ac3, .int .i64 C3]) := show Box _ _ _ by rw [← hW]; exact A14.out.two _ _
  have B15 : Hid (Box W15 pb [.slice ba2 l2 bc2, .int .i64 C2]) := show Box _ _ _ by rw [← hW]; exact (B14.out.other (by have := HPB.out; show pb ≠ pa; omega) _).other (by have := HPB.out; show pb ≠ pa; omega) _
  have F15 : Hid (FilesS 0 W13.heap.size W15 (.slice aa3 l3 ac3) F3) := show FilesS _ _ _ _ _ by rw [← hW]; exact F14.out.two (Nat.zero_le _) HL13.out.1 _ _
  rw [hW]
  clear hW q0 q1 qf X14 A14 B14 F14
  have x0 := X15.out.c 0 rfl
  have x1 := X15.out.c 1 rfl
  go_wp2_with fail
  refine (c10 _ G15.out).mono ?_
  rintro e W16 ⟨vb3, rfl, fb, gb⟩
  have D16 : Hid (FilesD (fun q => w.heap.size ≤ q ∧ q < W15.heap.size) W16 vb3 F3) := fb
  obtain ⟨ba3, bc3, rfl, _, _⟩ := fb.at.rows
  rw [L3.out] at D16 ⊢
  have G16 : Hid (Grew w W16) := G15.out.trans gb
  have X16 : Hid (Box W16 w.heap.size [.slice a nF c, .int .i64 cnt]) := X15.out.grew gb
  have A16 : Hid (Box W16 pa [.slice aa3 l3 ac3, .int .i64 C3]) := A15.out.grew gb
  have B16 : Hid (Box W16 pb [.slice ba2 l2 bc2, .int .i64 C2]) := B15.out.grew gb
  have F16 : Hid (FilesS 0 W13.heap.size W16 (.slice aa3 l3 ac3) F3) := F15.out.grew gb
  have HM13 : Hid (pb < W15.heap.size) := B15.out.lt
  clear fb gb x0 x1 c10 X15 A15 B15 F15
  have q0 := B16.out.c 0 rfl
  have q1 := B16.out.c 1 rfl
  have qf := B16.out.f
  go_upto_region 14 with fail
  obtain ⟨W17, hW⟩ : ∃ W17, (W16.setCell ⟨pb, 0, none⟩ (.slice ba3 l3 bc3)).setCell ⟨pb, 1, none⟩ (.int .i64 C3) = W17 := ⟨_, rfl⟩
  have G17 : Hid (Grew w W17) := show Grew _ _ by rw [← hW]; exact grew_two G16.out (by have := HPA.out; have := HPB.out; omega) _ _
  have X17 : Hid (Box W17 w.heap.size [.slice a nF c, .int .i64 cnt]) := show Box _ _ _ by rw [← hW]; exact (X16.out.other (by have := HPA.out; have := HPB.out; show w.heap.size ≠ pb; omega) _).other (by have := HPA.out; have := HPB.out; show w.heap.size ≠ pb; omega) _
  have A17 : Hid (Box W17 pa [.slice aa3 l3 ac3, .int .i64 C3]) := show Box _ _ _ by rw [← hW]; exact (A16.out.other (by have := HPB.out; show pa ≠ pb; omega) _).other (by have := HPB.out; show pa ≠ pb; omega) _
  have B17 : Hid (Box W17 pb [.slice ba3 l3 bc3, .int .i64 C3]) := show Box _ _ _ by rw [← hW]; exact B16.out.two _ _
  have F17 : Hid (FilesAt W17 (.slice aa3 l3 ac3) F3) := show FilesAt _ _ _ by rw [← hW]; exact (F16.out.two (Nat.zero_le _) HL13.out.2 _ _).at
  have D17 : Hid (FilesAt W17 (.slice ba3 l3 bc3) F3) := show FilesAt _ _ _ by rw [← hW]; exact (D16.out.two ⟨by have := HPA.out; have := HPB.out; omega, HM13.out⟩ _ _).at
  rw [hW]
  clear hW q0 q1 qf X16 A16 B16 F16 D16
  have q0 := A17.out.c 0 rfl
  have q1 := A17.out.c 1 rfl
  have r0 := B17.out.c 0 rfl
  have r1 := B17.out.c 1 rfl
  go_wp2_with fail
  refine (sameSt_any _ _ F3 C3 _ F17.out D17.out).mono ?_
  rintro e W18 ⟨rfl, gs⟩
  have G18 : Hid (Grew w W18) := G17.out.trans gs
  have X18 : Hid (Box W18 w.heap.size [.slice a nF c, .int .i64 cnt]) := X17.out.grew gs
  have A18 : Hid (Box W18 pa [.slice aa3 l3 ac3, .int .i64 C3]) := A17.out.grew gs
  have B18 : Hid (Box W18 pb [.slice ba3 l3 bc3, .int .i64 C3]) := B17.out.grew gs
  clear gs q0 q1 r0 r1 X17 A17 B17 F17 D17
  have x0 := X18.out.c 0 rfl
  have x1 := X18.out.c 1 rfl
  go_wp2_with fail
  refine (c2 _ G18.out).mono ?_
  rintro e W19 ⟨rfl, g19⟩
  have G19 : Hid (Grew w W19) := G18.out.trans g19
  have X19 : Hid (Box W19 w.heap.size [.slice a nF c, .int .i64 cnt]) := X18.out.grew g19
  clear g19 x0 x1 c2 X18 A18 B18
  by_cases hS : S = 0
  · subst hS
    obtain ⟨hcr, hln⟩ := HLN.out rfl
    obtain ⟨m, rfl⟩ : ∃ m : Nat, cnt = (m : Int) := ⟨cnt.toNat, by omega⟩
    rw [Int.toNat_natCast] at hln
    have HLL : Hid (LN = (leftTo fs m).length) := hln
    have hm80 : m ≤ 80 := by omega
    clear hln HLN
    have x1 := X19.out.c 1 rfl
    go_wp2
    go_loopg [16, 146] m (fun gg s16 s146 wr => ∃ kk : Nat, kk ≤ m ∧ m - kk ≤ gg ∧ s146 = .int .i64 kk ∧ s16 = .int .i64 ((leftTo fs kk).length : Nat) ∧ Hid (Grew W19 wr))
    case atStart => exact ⟨0, Nat.zero_le _, by omega, rfl, rfl, Grew.refl _⟩
    case round =>
      obtain ⟨kk, hkk, hgg, rfl, rfl, BW⟩ := hrel
      clear x1
      have x0 := (X19.out.grew BW.out).c 0 rfl
      have x1 := (X19.out.grew BW.out).c 1 rfl
      have GW : Hid (Grew w wr) := G19.out.trans BW.out
      have hle : (leftTo fs kk).length ≤ kk := leftTo_len fs kk
      by_cases hlt : kk < m
      · have hltz : (kk : Int) < (m : Int) := by omega
        have hc := c11 kk wr GW.out
        have HST := leftTo_succ fs kk
        clear c11 c12
        cases hu : usedB fs (kk : Int) with
        | true =>
          rw [hu] at hc HST
          rw [if_pos rfl] at HST
          have HLE : Hid ((leftTo fs (kk + 1)).length = (leftTo fs kk).length) := show _ = _ by rw [HST]
          clear HST hu
          obtain ⟨z, HZ⟩ : ∃ z, Hid ((leftTo fs kk).length = z) := ⟨_, rfl⟩
          rw [HZ.out] at hle ⊢
          go_wp2_with fail
          refine hc.mono ?_
          rintro e W20 ⟨rfl, g20⟩
          have G20 : Hid (Grew W19 W20) := BW.out.trans g20
          clear g20 hc x0 x1
          go_wp2
          go_roundg (m - (kk + 1))
          case measure => omega
          case rel => exact ⟨kk + 1, by omega, by omega, by go_num, by rw [HLE.out, HZ.out], G20.out⟩
        | false =>
          rw [hu] at hc HST
          rw [if_neg (by decide)] at HST
          have HLE : Hid ((leftTo fs (kk + 1)).length = (leftTo fs kk).length + 1) := show _ = _ by rw [HST]; simp
          clear HST hu
          obtain ⟨z, HZ⟩ : ∃ z, Hid ((leftTo fs kk).length = z) := ⟨_, rfl⟩
          rw [HZ.out] at hle ⊢
          go_wp2_with fail
          refine hc.mono ?_
          rintro e W20 ⟨rfl, g20⟩
          have G20 : Hid (Grew W19 W20) := BW.out.trans g20
          clear g20 hc x0 x1
          go_wp2
          go_roundg (m - (kk + 1))
          case measure => omega
          case rel => exact ⟨kk + 1, by omega, by omega, by go_num, by rw [HLE.out, HZ.out]; go_num, G20.out⟩
      · have hltz : ¬ (kk : Int) < (m : Int) := by omega
        have : kk = m := by omega
        subst this
        have hc := c12 wr GW.out
        rw [HLL.out] at hc
        clear c11 c12
        obtain ⟨z, HZ⟩ : ∃ z, Hid ((leftTo fs kk).length = z) := ⟨_, rfl⟩
        rw [HZ.out] at hc ⊢
        have hzz : ((z : Int) == (z : Int)) = true := by simp
        go_wp2_with fail
        refine hc.mono ?_
        rintro e W20 ⟨rfl, g20⟩
        have G20 : Hid (Grew w W20) := GW.out.trans g20
        clear g20 hc x0 x1
        go_wp2
        go_ret
        exact ⟨rfl, G20.out⟩
  · have hSb : (S != 0) = true := by simpa using hS
    go_wp2
    go_ret
    exact ⟨rfl, G19.out⟩

end Go.Proofs.Ytagpmjgmohfmjac
