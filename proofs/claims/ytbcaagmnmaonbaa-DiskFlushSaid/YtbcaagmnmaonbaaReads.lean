/- The walk of the law DiskReads. -/
import Derived.Test.YtbcaagmnmaonbaaPure
import Derived.Test.YtbcaagmnmaonbaaPageEq
namespace Go.Proofs.Ytbcaagmnmaonbaa
open Go.RowKit

theorem Try.infoU8 : (Try.prog.info? 5).map (fun i => (i.zero, i.size, i.bytes)) = some (some (.int .u8 0), 1, 1) := by kernel_rfl

/-- What '==' answers of two pages. -/
theorem page_eq (a b : List Int) (ha : a.length = 8) (hb : b.length = 8) (x : World) : (Op.equalIn 10000 23 (.agg (pgc a).toArray) (.agg (pgc b).toArray)).run Try.prog x = .ok (decide (a = b)) x := by
  obtain ⟨i5, hi5, _, hz1, _⟩ := info_parts Try.infoU8
  exact run_equal_ints (P := Try.prog) x 23 5 .u8 9998 8 a b i5 Try.underlying23 Try.underlying5 hi5 hz1 ha hb

theorem page_same (b0 b1 b2 b3 b4 b5 b6 b7 : Int) (x : World) : (Op.equalIn 10000 23 (.agg #[.int .u8 b0, .int .u8 b1, .int .u8 b2, .int .u8 b3, .int .u8 b4, .int .u8 b5, .int .u8 b6, .int .u8 b7]) (.agg #[.int .u8 b0, .int .u8 b1, .int .u8 b2, .int .u8 b3, .int .u8 b4, .int .u8 b5, .int .u8 b6, .int .u8 b7])).run Try.prog x = .ok true x := by
  have := page_eq [b0, b1, b2, b3, b4, b5, b6, b7] [b0, b1, b2, b3, b4, b5, b6, b7] rfl rfl x
  rw [decide_eq_true rfl] at this
  exact this

/-- Read, in whatever grows. -/
theorem read_at {w : World} {d : Value} {ps : List (List Int)} {qs : List (Int × List Int)} (hd : DiskAt w d ps qs) (m e : Int) (b0 b1 b2 b3 b4 b5 b6 b7 : Int) (he : wrongAtL ps.length qs m = e) (hb : readL ps qs m = [b0, b1, b2, b3, b4, b5, b6, b7]) :
    ∀ W, Grew w W → Calls Try.prog 23 #[d, .int .i64 m] W fun x w' => x = .returned (.tuple #[.agg #[.int .u8 b0, .int .u8 b1, .int .u8 b2, .int .u8 b3, .int .u8 b4, .int .u8 b5, .int .u8 b6, .int .u8 b7], .int .i64 e]) ∧ Grew W w' := fun W hW => by
  have h := read_any d ps qs m W (hd.grew hW)
  rw [he, hb] at h
  exact h

set_option maxRecDepth 100000 in
set_option maxHeartbeats 400000 in
theorem reads_err (d : Value) (ps : List (List Int)) (qs : List (Int × List Int)) (m : Int) (p : List Int) (hp : p.length = 8) (o : Int) (w : World) (hd : DiskAt w d ps qs) (hr : ¬ wrongAtL ps.length qs m = 0) :
    Calls Try.prog 6 #[d, .int .i64 m, .agg (pgc p).toArray, .int .i64 o] w fun e w' => e = .returned (.bool true) ∧ Grew w w' := by
  obtain ⟨p0, p1, p2, p3, p4, p5, p6, p7, rfl⟩ := len8 p hp
  have HD : Hid (DiskAt w d ps qs) := hd
  obtain ⟨b, q, rfl, hb, hq⟩ := hd
  obtain ⟨ab, cb, rfl, _⟩ := hb.rows
  obtain ⟨aq, cq, rfl, _⟩ := hq.rows
  clear hb hq hp
  show Calls Try.prog 6 #[.agg #[.slice ab ps.length cb, .slice aq qs.length cq], .int .i64 m, .agg #[.int .u8 p0, .int .u8 p1, .int .u8 p2, .int .u8 p3, .int .u8 p4, .int .u8 p5, .int .u8 p6, .int .u8 p7], .int .i64 o] w _
  obtain ⟨W0, hW0⟩ : ∃ W0, (w.alloc (.cells #[.slice ab ps.length cb, .slice aq qs.length cq] 36)).alloc (.cells #[.int .u8 p0, .int .u8 p1, .int .u8 p2, .int .u8 p3, .int .u8 p4, .int .u8 p5, .int .u8 p6, .int .u8 p7] 23) = W0 := ⟨_, rfl⟩
  have HG0 : Hid (Grew w W0) := show Grew w W0 by rw [← hW0]; exact (grew_alloc _ _).trans (grew_alloc _ _)
  have X0 : Hid (Box W0 w.heap.size [.slice ab ps.length cb, .slice aq qs.length cq]) := show Box _ _ _ by rw [← hW0]; exact (Box.top w [.slice ab ps.length cb, .slice aq qs.length cq] _ rfl).alloc _
  have X1 : Hid (Box W0 (w.heap.size + 1) [.int .u8 p0, .int .u8 p1, .int .u8 p2, .int .u8 p3, .int .u8 p4, .int .u8 p5, .int .u8 p6, .int .u8 p7]) := show Box _ _ _ by rw [← hW0]; exact Box.top _ [.int .u8 p0, .int .u8 p1, .int .u8 p2, .int .u8 p3, .int .u8 p4, .int .u8 p5, .int .u8 p6, .int .u8 p7] _ (by simp)
  have hwr : ∀ W, Grew w W → Calls Try.prog 25 #[.agg #[.slice ab ps.length cb, .slice aq qs.length cq], .int .i64 m, .agg #[.int .u8 p0, .int .u8 p1, .int .u8 p2, .int .u8 p3, .int .u8 p4, .int .u8 p5, .int .u8 p6, .int .u8 p7]] W fun e w' => ∃ d', e = .returned (.tuple #[d', .int .i64 (wrongAtL ps.length qs m)]) ∧ NewDisk W.heap.size w' d' [] [] ∧ Grew W w' := fun W hW => by
    have h := write_any _ ps qs m [p0, p1, p2, p3, p4, p5, p6, p7] rfl W (HD.out.grew hW)
    rw [show writeDP ps qs m = [] from if_neg hr, show writeDQ ps qs m [p0, p1, p2, p3, p4, p5, p6, p7] = [] from if_neg hr] at h
    exact h
  obtain ⟨r, HR⟩ : ∃ r, Hid (wrongAtL ps.length qs m = r) := ⟨_, rfl⟩
  rw [HR.out] at hr
  simp only [HR.out] at hwr
  have hne : (r != 0) = true := by simpa using hr
  obtain ⟨nb, HNB⟩ : ∃ nb, Hid (ps.length = nb) := ⟨_, rfl⟩
  obtain ⟨nq, HNQ⟩ : ∃ nq, Hid (qs.length = nq) := ⟨_, rfl⟩
  rw [HNB.out, HNQ.out] at hW0 X0 ⊢
  simp only [HNB.out, HNQ.out] at hwr
  have HW0 : Hid (_ = W0) := hW0
  clear hW0
  go_enter Try.func6, Try.ntmps6
  go_wp2_with (first
    | (go_at_call 32; rw [HW0.out]; refine (aliveDisk_any W0).mono ?_; rintro e W1 ⟨rfl, g1⟩
       have G1 : Hid (Grew W0 W1) := g1
       have e0 := (X0.out.grew g1).c 0 rfl
       have e1 := (X0.out.grew g1).c 1 rfl
       have P1 := X1.out.grew g1
       have u0 := P1.c 0 rfl
       have u1 := P1.c 1 rfl
       have u2 := P1.c 2 rfl
       have u3 := P1.c 3 rfl
       have u4 := P1.c 4 rfl
       have u5 := P1.c 5 rfl
       have u6 := P1.c 6 rfl
       have u7 := P1.c 7 rfl
       clear P1)
    | (go_at_call 25; refine (hwr W1 (HG0.out.trans G1.out)).mono ?_; rintro e W2 ⟨d2, rfl, nd2, g2⟩
       obtain ⟨yb, db, yq, dq, rfl, nd2⟩ := nd2.open
       have G2 : Hid (Grew W1 W2) := g2))
  go_ret
  exact ⟨rfl, ((HG0.out.trans G1.out).trans G2.out).trans (grew_alloc _ _)⟩

set_option maxRecDepth 100000 in
set_option maxHeartbeats 400000 in
theorem reads_ok (d : Value) (ps : List (List Int)) (qs : List (Int × List Int)) (m : Int) (p : List Int) (hp : p.length = 8) (o : Int) (w : World) (hd : DiskAt w d ps qs) (hr : wrongAtL ps.length qs m = 0) :
    Calls Try.prog 6 #[d, .int .i64 m, .agg (pgc p).toArray, .int .i64 o] w fun e w' => e = .returned (.bool true) ∧ Grew w w' := by
  obtain ⟨p0, p1, p2, p3, p4, p5, p6, p7, rfl⟩ := len8 p hp
  have HD : Hid (DiskAt w d ps qs) := hd
  obtain ⟨b, q, rfl, hb, hq⟩ := hd
  obtain ⟨ab, cb, rfl, _⟩ := hb.rows
  obtain ⟨aq, cq, rfl, _⟩ := hq.rows
  clear hb hq hp
  show Calls Try.prog 6 #[.agg #[.slice ab ps.length cb, .slice aq qs.length cq], .int .i64 m, .agg #[.int .u8 p0, .int .u8 p1, .int .u8 p2, .int .u8 p3, .int .u8 p4, .int .u8 p5, .int .u8 p6, .int .u8 p7], .int .i64 o] w _
  obtain ⟨W0, hW0⟩ : ∃ W0, (w.alloc (.cells #[.slice ab ps.length cb, .slice aq qs.length cq] 36)).alloc (.cells #[.int .u8 p0, .int .u8 p1, .int .u8 p2, .int .u8 p3, .int .u8 p4, .int .u8 p5, .int .u8 p6, .int .u8 p7] 23) = W0 := ⟨_, rfl⟩
  have HG0 : Hid (Grew w W0) := show Grew w W0 by rw [← hW0]; exact (grew_alloc _ _).trans (grew_alloc _ _)
  have X0 : Hid (Box W0 w.heap.size [.slice ab ps.length cb, .slice aq qs.length cq]) := show Box _ _ _ by rw [← hW0]; exact (Box.top w [.slice ab ps.length cb, .slice aq qs.length cq] _ rfl).alloc _
  have X1 : Hid (Box W0 (w.heap.size + 1) [.int .u8 p0, .int .u8 p1, .int .u8 p2, .int .u8 p3, .int .u8 p4, .int .u8 p5, .int .u8 p6, .int .u8 p7]) := show Box _ _ _ by rw [← hW0]; exact Box.top _ [.int .u8 p0, .int .u8 p1, .int .u8 p2, .int .u8 p3, .int .u8 p4, .int .u8 p5, .int .u8 p6, .int .u8 p7] _ (by simp)
  have hwr : ∀ W, Grew w W → Calls Try.prog 25 #[.agg #[.slice ab ps.length cb, .slice aq qs.length cq], .int .i64 m, .agg #[.int .u8 p0, .int .u8 p1, .int .u8 p2, .int .u8 p3, .int .u8 p4, .int .u8 p5, .int .u8 p6, .int .u8 p7]] W fun e w' => ∃ d', e = .returned (.tuple #[d', .int .i64 0]) ∧ NewDisk W.heap.size w' d' (writeB ps qs) (writeQ qs m [p0, p1, p2, p3, p4, p5, p6, p7]) ∧ Grew W w' := fun W hW => by
    have h := write_any _ ps qs m [p0, p1, p2, p3, p4, p5, p6, p7] rfl W (HD.out.grew hW)
    rw [show writeDP ps qs m = writeB ps qs from if_pos hr, show writeDQ ps qs m [p0, p1, p2, p3, p4, p5, p6, p7] = writeQ qs m [p0, p1, p2, p3, p4, p5, p6, p7] from if_pos hr, hr] at h
    exact h
  obtain ⟨b0, b1, b2, b3, b4, b5, b6, b7, hbb⟩ := len8 (readL ps qs o) (readL_len HD.out.ok8 o)
  obtain ⟨eo, heo⟩ : ∃ eo, wrongAtL ps.length qs o = eo := ⟨_, rfl⟩
  have heq : (eo == eo) = true := by simp
  have HWS := write_same (p := [p0, p1, p2, p3, p4, p5, p6, p7]) hr
  have HS : Hid (wrongAtL (writeB ps qs).length (writeQ qs m [p0, p1, p2, p3, p4, p5, p6, p7]) m = 0 ∧ readL (writeB ps qs) (writeQ qs m [p0, p1, p2, p3, p4, p5, p6, p7]) m = [p0, p1, p2, p3, p4, p5, p6, p7]) := HWS
  have HE : Hid (wrongAtL (writeB ps qs).length (writeQ qs m [p0, p1, p2, p3, p4, p5, p6, p7]) o = eo) := (write_other_err hr o).trans heo
  obtain ⟨c0, c1, c2, c3, c4, c5, c6, c7, HC, HOM⟩ : ∃ c0 c1 c2 c3 c4 c5 c6 c7, Hid (readL (writeB ps qs) (writeQ qs m [p0, p1, p2, p3, p4, p5, p6, p7]) o = [c0, c1, c2, c3, c4, c5, c6, c7]) ∧ Hid (¬ o = m → [c0, c1, c2, c3, c4, c5, c6, c7] = [b0, b1, b2, b3, b4, b5, b6, b7]) := by
    by_cases hom : o = m
    · subst hom
      exact ⟨_, _, _, _, _, _, _, _, HWS.2, fun h => absurd rfl h⟩
    · exact ⟨_, _, _, _, _, _, _, _, (write_other hr hom).trans hbb, fun _ => rfl⟩
  have rd2 := read_at HD.out o eo b0 b1 b2 b3 b4 b5 b6 b7 heo hbb
  obtain ⟨nb, HNB⟩ : ∃ nb, Hid (ps.length = nb) := ⟨_, rfl⟩
  obtain ⟨nq, HNQ⟩ : ∃ nq, Hid (qs.length = nq) := ⟨_, rfl⟩
  rw [HNB.out, HNQ.out] at hW0 X0 ⊢
  simp only [HNB.out, HNQ.out] at hwr rd2
  have HW0 : Hid (_ = W0) := hW0
  clear hW0 heo hbb HWS hr
  have pe1 := page_same p0 p1 p2 p3 p4 p5 p6 p7
  have pe2 := page_same b0 b1 b2 b3 b4 b5 b6 b7
  by_cases hom : o = m
  · have hom' := hom.symm
    subst hom'
    have hob : (m == m) = true := by simp
    go_enter Try.func6, Try.ntmps6
    go_wp2_with (first
      | (go_at_call 32; rw [HW0.out]; refine (aliveDisk_any W0).mono ?_; rintro e W1 ⟨rfl, g1⟩
         have G1 : Hid (Grew W0 W1) := g1
         have e0 := (X0.out.grew g1).c 0 rfl
         have e1 := (X0.out.grew g1).c 1 rfl
         have P1 := X1.out.grew g1
         have u0 := P1.c 0 rfl
         have u1 := P1.c 1 rfl
         have u2 := P1.c 2 rfl
         have u3 := P1.c 3 rfl
         have u4 := P1.c 4 rfl
         have u5 := P1.c 5 rfl
         have u6 := P1.c 6 rfl
         have u7 := P1.c 7 rfl
         clear P1)
      | (go_at_call 25; refine (hwr W1 (HG0.out.trans G1.out)).mono ?_; rintro e W2 ⟨d2, rfl, nd2, g2⟩
         obtain ⟨yb, db, yq, dq, rfl, nd2⟩ := nd2.open
         have G2 : Hid (Grew W1 W2) := g2
         have rd1 := read_at nd2.at m 0 p0 p1 p2 p3 p4 p5 p6 p7 HS.out.1 HS.out.2
         have rd3 := read_at nd2.at m eo c0 c1 c2 c3 c4 c5 c6 c7 HE.out HC.out
         clear nd2 e0 e1 u0 u1 u2 u3 u4 u5 u6 u7 hwr
         generalize (writeB ps qs).length = lb at *
         generalize (writeQ qs m [p0, p1, p2, p3, p4, p5, p6, p7]).length = lq at *)
      | (go_at_call_of 23 yb; refine (rd1 _ (grew_alloc W2 _)).mono ?_; clear rd1; rintro e W3 ⟨rfl, g3⟩
         have G3 : Hid (Grew W2 W3) := (grew_alloc W2 _).trans g3
         have x0 := ((X0.out.grew (G1.out.trans G2.out)).grew G3.out).c 0 rfl
         have x1 := ((X0.out.grew (G1.out.trans G2.out)).grew G3.out).c 1 rfl
         have xl := ((X0.out.grew (G1.out.trans G2.out)).grew G3.out).lt
         have B3 : Hid (Box W3 W2.heap.size [.slice yb lb db, .slice yq lq dq]) := (Box.top W2 [.slice yb lb db, .slice yq lq dq] _ rfl).grew g3)
      | (go_at_call_of 23 ab; refine (rd2 _ (((HG0.out.trans (G1.out.trans G2.out)).trans G3.out).trans (grew_alloc W3 _))).mono ?_; clear rd2; rintro e W4 ⟨rfl, g4⟩
         have G4 : Hid (Grew W3 W4) := (grew_alloc W3 _).trans g4
         clear x0 x1 xl
         have B4 := B3.out.grew G4.out
         have x0 := B4.c 0 rfl
         have x1 := B4.c 1 rfl
         have xl := B4.lt
         have A4 : Hid (Box W4 W3.heap.size [.int .u8 p0, .int .u8 p1, .int .u8 p2, .int .u8 p3, .int .u8 p4, .int .u8 p5, .int .u8 p6, .int .u8 p7]) := (Box.top W3 [.int .u8 p0, .int .u8 p1, .int .u8 p2, .int .u8 p3, .int .u8 p4, .int .u8 p5, .int .u8 p6, .int .u8 p7] _ rfl).grew g4
         clear B4)
      | (go_at_call_of 23 yb; refine (rd3 _ ((G3.out.trans G4.out).trans (grew_alloc W4 _))).mono ?_; clear rd3; rintro e W5 ⟨rfl, g5⟩
         have G5 : Hid (Grew W4 W5) := (grew_alloc W4 _).trans g5
         clear x0 x1 xl
         have A5 := A4.out.grew G5.out
         have C5 : Box W5 W4.heap.size [.int .u8 b0, .int .u8 b1, .int .u8 b2, .int .u8 b3, .int .u8 b4, .int .u8 b5, .int .u8 b6, .int .u8 b7] := (Box.top W4 [.int .u8 b0, .int .u8 b1, .int .u8 b2, .int .u8 b3, .int .u8 b4, .int .u8 b5, .int .u8 b6, .int .u8 b7] _ rfl).grew g5
         have P5 := X1.out.grew (((G1.out.trans G2.out).trans (G3.out.trans G4.out)).trans G5.out)
         have al := A5.lt
         have cl := C5.lt
         have pl := P5.lt
         have a0 := A5.c 0 rfl
         have a1 := A5.c 1 rfl
         have a2 := A5.c 2 rfl
         have a3 := A5.c 3 rfl
         have a4 := A5.c 4 rfl
         have a5 := A5.c 5 rfl
         have a6 := A5.c 6 rfl
         have a7 := A5.c 7 rfl
         have s0 := C5.c 0 rfl
         have s1 := C5.c 1 rfl
         have s2 := C5.c 2 rfl
         have s3 := C5.c 3 rfl
         have s4 := C5.c 4 rfl
         have s5 := C5.c 5 rfl
         have s6 := C5.c 6 rfl
         have s7 := C5.c 7 rfl
         have t0 := P5.c 0 rfl
         have t1 := P5.c 1 rfl
         have t2 := P5.c 2 rfl
         have t3 := P5.c 3 rfl
         have t4 := P5.c 4 rfl
         have t5 := P5.c 5 rfl
         have t6 := P5.c 6 rfl
         have t7 := P5.c 7 rfl
         clear A5 C5 P5))
    go_ret
    exact ⟨rfl, ((HG0.out.trans ((G1.out.trans G2.out).trans (G3.out.trans G4.out))).trans G5.out).trans (grew_alloc _ _)⟩
  · have hob : (o == m) = false := by simpa using hom
    have HC2 : Hid (readL (writeB ps qs) (writeQ qs m [p0, p1, p2, p3, p4, p5, p6, p7]) o = [b0, b1, b2, b3, b4, b5, b6, b7]) := HC.out.trans (HOM.out hom)
    go_enter Try.func6, Try.ntmps6
    go_wp2_with (first
      | (go_at_call 32; rw [HW0.out]; refine (aliveDisk_any W0).mono ?_; rintro e W1 ⟨rfl, g1⟩
         have G1 : Hid (Grew W0 W1) := g1
         have e0 := (X0.out.grew g1).c 0 rfl
         have e1 := (X0.out.grew g1).c 1 rfl
         have P1 := X1.out.grew g1
         have u0 := P1.c 0 rfl
         have u1 := P1.c 1 rfl
         have u2 := P1.c 2 rfl
         have u3 := P1.c 3 rfl
         have u4 := P1.c 4 rfl
         have u5 := P1.c 5 rfl
         have u6 := P1.c 6 rfl
         have u7 := P1.c 7 rfl
         clear P1)
      | (go_at_call 25; refine (hwr W1 (HG0.out.trans G1.out)).mono ?_; rintro e W2 ⟨d2, rfl, nd2, g2⟩
         obtain ⟨yb, db, yq, dq, rfl, nd2⟩ := nd2.open
         have G2 : Hid (Grew W1 W2) := g2
         have rd1 := read_at nd2.at m 0 p0 p1 p2 p3 p4 p5 p6 p7 HS.out.1 HS.out.2
         have rd3 := read_at nd2.at o eo b0 b1 b2 b3 b4 b5 b6 b7 HE.out HC2.out
         clear nd2 e0 e1 u0 u1 u2 u3 u4 u5 u6 u7 hwr
         generalize (writeB ps qs).length = lb at *
         generalize (writeQ qs m [p0, p1, p2, p3, p4, p5, p6, p7]).length = lq at *)
      | (go_at_call_of 23 yb; refine (rd1 _ (grew_alloc W2 _)).mono ?_; clear rd1; rintro e W3 ⟨rfl, g3⟩
         have G3 : Hid (Grew W2 W3) := (grew_alloc W2 _).trans g3
         have x0 := ((X0.out.grew (G1.out.trans G2.out)).grew G3.out).c 0 rfl
         have x1 := ((X0.out.grew (G1.out.trans G2.out)).grew G3.out).c 1 rfl
         have xl := ((X0.out.grew (G1.out.trans G2.out)).grew G3.out).lt
         have B3 : Hid (Box W3 W2.heap.size [.slice yb lb db, .slice yq lq dq]) := (Box.top W2 [.slice yb lb db, .slice yq lq dq] _ rfl).grew g3)
      | (go_at_call_of 23 ab; refine (rd2 _ (((HG0.out.trans (G1.out.trans G2.out)).trans G3.out).trans (grew_alloc W3 _))).mono ?_; clear rd2; rintro e W4 ⟨rfl, g4⟩
         have G4 : Hid (Grew W3 W4) := (grew_alloc W3 _).trans g4
         clear x0 x1 xl
         have B4 := B3.out.grew G4.out
         have x0 := B4.c 0 rfl
         have x1 := B4.c 1 rfl
         have xl := B4.lt
         have A4 : Hid (Box W4 W3.heap.size [.int .u8 p0, .int .u8 p1, .int .u8 p2, .int .u8 p3, .int .u8 p4, .int .u8 p5, .int .u8 p6, .int .u8 p7]) := (Box.top W3 [.int .u8 p0, .int .u8 p1, .int .u8 p2, .int .u8 p3, .int .u8 p4, .int .u8 p5, .int .u8 p6, .int .u8 p7] _ rfl).grew g4
         clear B4)
      | (go_at_call_of 23 yb; refine (rd3 _ ((G3.out.trans G4.out).trans (grew_alloc W4 _))).mono ?_; clear rd3; rintro e W5 ⟨rfl, g5⟩
         have G5 : Hid (Grew W4 W5) := (grew_alloc W4 _).trans g5
         clear x0 x1 xl
         have A5 := A4.out.grew G5.out
         have C5 : Box W5 W4.heap.size [.int .u8 b0, .int .u8 b1, .int .u8 b2, .int .u8 b3, .int .u8 b4, .int .u8 b5, .int .u8 b6, .int .u8 b7] := (Box.top W4 [.int .u8 b0, .int .u8 b1, .int .u8 b2, .int .u8 b3, .int .u8 b4, .int .u8 b5, .int .u8 b6, .int .u8 b7] _ rfl).grew g5
         have P5 := X1.out.grew (((G1.out.trans G2.out).trans (G3.out.trans G4.out)).trans G5.out)
         have al := A5.lt
         have cl := C5.lt
         have pl := P5.lt
         have a0 := A5.c 0 rfl
         have a1 := A5.c 1 rfl
         have a2 := A5.c 2 rfl
         have a3 := A5.c 3 rfl
         have a4 := A5.c 4 rfl
         have a5 := A5.c 5 rfl
         have a6 := A5.c 6 rfl
         have a7 := A5.c 7 rfl
         have s0 := C5.c 0 rfl
         have s1 := C5.c 1 rfl
         have s2 := C5.c 2 rfl
         have s3 := C5.c 3 rfl
         have s4 := C5.c 4 rfl
         have s5 := C5.c 5 rfl
         have s6 := C5.c 6 rfl
         have s7 := C5.c 7 rfl
         have t0 := P5.c 0 rfl
         have t1 := P5.c 1 rfl
         have t2 := P5.c 2 rfl
         have t3 := P5.c 3 rfl
         have t4 := P5.c 4 rfl
         have t5 := P5.c 5 rfl
         have t6 := P5.c 6 rfl
         have t7 := P5.c 7 rfl
         clear A5 C5 P5))
    go_ret
    exact ⟨rfl, ((HG0.out.trans ((G1.out.trans G2.out).trans (G3.out.trans G4.out))).trans G5.out).trans (grew_alloc _ _)⟩

theorem reads_walk (d : Value) (ps : List (List Int)) (qs : List (Int × List Int)) (m : Int) (p : List Int) (hp : p.length = 8) (o : Int) (w : World) (hd : DiskAt w d ps qs) :
    Calls Try.prog 6 #[d, .int .i64 m, .agg (pgc p).toArray, .int .i64 o] w fun e w' => e = .returned (.bool true) ∧ Grew w w' := by
  by_cases hr : wrongAtL ps.length qs m = 0
  · exact reads_ok d ps qs m p hp o w hd hr
  · exact reads_err d ps qs m p hp o w hd hr

end Go.Proofs.Ytbcaagmnmaonbaa
