/- Contract of alive: the closed fact that the laws of chapter 5 ask first. -/
import Derived.Test.YtagpmjgmohfmjacStBlock
import Derived.Test.YtagpmjgmohfmjacStCreate
namespace Go.Proofs.Ytagpmjgmohfmjac
open Go.RowKit

theorem Box.two {W : World} {p : Nat} {a0 a1 : Value} (h : Box W p [a0, a1]) (u v : Value) : Box ((W.setCell ⟨p, 0, none⟩ u).setCell ⟨p, 1, none⟩ v) p [u, v] := by
  simpa using (h.set 0 u).set 1 v
theorem FilesS.two {B0 B1 : Nat} {W : World} {b : Value} {fs : List Fl} (h : FilesS B0 B1 W b fs) {p : Nat} (h0 : B0 ≤ p) (h1 : p < B1) (u v : Value) : FilesS B0 B1 ((W.setCell ⟨p, 0, none⟩ u).setCell ⟨p, 1, none⟩ v) b fs :=
  (h.out (Out.setCell _ _ _ (p := ⟨p, 0, none⟩) h0 h1 _)).out (Out.setCell _ _ _ (p := ⟨p, 1, none⟩) h0 h1 _)
theorem grew_two {w W : World} (h : Grew w W) {p : Nat} (h0 : w.heap.size ≤ p) (u v : Value) : Grew w ((W.setCell ⟨p, 0, none⟩ u).setCell ⟨p, 1, none⟩ v) :=
  Below.setCell (Below.setCell h (p := ⟨p, 0, none⟩) h0 _) (p := ⟨p, 1, none⟩) h0 _

set_option maxRecDepth 100000 in
theorem al_pure : creE [] 3 = 0 ∧ creF [] 3 = [⟨0, []⟩] ∧ creC [] 3 = 3 ∧ creI [] 3 = 0 ∧ sizE [⟨0, []⟩] 3 0 9 = 0 ∧ sizF [⟨0, []⟩] 3 0 9 = [⟨9, [-1, -1]⟩] ∧ sizC [⟨0, []⟩] 3 0 9 = 3 ∧ blkE [⟨9, [-1, -1]⟩] 3 0 1 = 0 ∧ blkF [⟨9, [-1, -1]⟩] 3 0 1 = [⟨9, [-1, 0]⟩] ∧ blkC [⟨9, [-1, -1]⟩] 3 0 1 = 3 ∧ blkI [⟨9, [-1, -1]⟩] 3 0 1 = 0 ∧ leftN [⟨9, [-1, 0]⟩] 3 = 2 ∧ stW [⟨9, [-1, 0]⟩] 3 = 0 :=
  ⟨rfl, rfl, rfl, rfl, rfl, rfl, rfl, rfl, rfl, rfl, rfl, rfl, rfl⟩

set_option maxRecDepth 100000 in
set_option maxHeartbeats 2000000 in
theorem aliveSt_any (w : World) : Calls Try.prog 26 #[] w fun e w' => e = .returned (.bool true) ∧ Grew w w' := by
  obtain ⟨a1, a2, a3, a4, a5, a6, a7, a8, a9, a10, a11, a12, a13⟩ := al_pure
  have hnew : ∀ W, Calls Try.prog 13 #[.int .i64 3] W fun e w' => e = .returned (.tuple #[.agg #[.slice none 0 0, .int .i64 3], .int .i64 0]) ∧ Grew W w' := fun W => newSt_any 3 W
  have hcre : ∀ W, Calls Try.prog 18 #[.agg #[.slice none 0 0, .int .i64 3]] W fun e w' => ∃ b, e = .returned (.tuple #[.agg #[b, .int .i64 3], .int .i64 0, .int .i64 0]) ∧ FilesS 0 W.heap.size w' b [⟨0, []⟩] ∧ Grew W w' := fun W => by
    have := createSt_any _ [] 3 W (FilesS.nil 0 0 W)
    rw [a1, a2, a3, a4] at this
    exact this
  have hsiz : ∀ v W, FilesAt W v [⟨0, []⟩] → Calls Try.prog 20 #[.agg #[v, .int .i64 3], .int .i64 0, .int .i64 9] W fun e w' => ∃ b, e = .returned (.tuple #[.agg #[b, .int .i64 3], .int .i64 0]) ∧ FilesS 0 W.heap.size w' b [⟨9, [-1, -1]⟩] ∧ Grew W w' := fun v W hv => by
    have := sizeSt_any v [⟨0, []⟩] 3 0 9 W hv
    rw [a5, a6, a7] at this
    exact this
  have hblk : ∀ v W, FilesAt W v [⟨9, [-1, -1]⟩] → Calls Try.prog 22 #[.agg #[v, .int .i64 3], .int .i64 0, .int .i64 1] W fun e w' => ∃ b, e = .returned (.tuple #[.agg #[b, .int .i64 3], .int .i64 0, .int .i64 0]) ∧ FilesS 0 W.heap.size w' b [⟨9, [-1, 0]⟩] ∧ Grew W w' := fun v W hv => by
    have := blockSt_any v [⟨9, [-1, -1]⟩] 3 0 1 W hv
    rw [a8, a9, a10, a11] at this
    exact this
  have hlef : ∀ v W, FilesAt W v [⟨9, [-1, 0]⟩] → Calls Try.prog 25 #[.agg #[v, .int .i64 3]] W fun e w' => e = .returned (.int .i64 2) ∧ Grew W w' := fun v W hv => by
    have := leftN_any v [⟨9, [-1, 0]⟩] 3 W hv
    rw [a12] at this
    exact this
  have hwro : ∀ v W, FilesAt W v [⟨9, [-1, 0]⟩] → Calls Try.prog 14 #[.agg #[v, .int .i64 3]] W fun e w' => e = .returned (.int .i64 0) ∧ Grew W w' := fun v W hv => by
    have := wrongSt_any v [⟨9, [-1, 0]⟩] 3 W hv
    rw [a13] at this
    exact this
  clear a1 a2 a3 a4 a5 a6 a7 a8 a9 a10 a11 a12 a13
  go_enter Try.func26, Try.ntmps26
  go_wp2_with fail
  refine (hnew _).mono ?_
  rintro e W1 ⟨rfl, g1⟩
  have G1 : Hid (Grew w W1) := g1
  clear g1 hnew
  go_upto_region 2 with fail
  obtain ⟨p, HP⟩ : ∃ p, Hid (W1.heap.size = p) := ⟨_, rfl⟩
  obtain ⟨W2, hW2⟩ : ∃ W2, W1.alloc (.cells #[.slice none 0 0, .int .i64 3] 36) = W2 := ⟨_, rfl⟩
  have G2 : Hid (Grew w W2) := show Grew _ _ by rw [← hW2]; exact G1.out.trans (grew_alloc _ _)
  have B2 : Hid (Box W2 p [.slice none 0 0, .int .i64 3]) := show Box _ _ _ by rw [← hW2]; exact Box.top _ _ _ HP.out.symm
  have HWP : Hid (w.heap.size ≤ p) := show _ ≤ _ by rw [← HP.out]; exact Below.size G1.out
  rw [hW2, HP.out]
  clear hW2
  have b0 := B2.out.c 0 rfl
  have b1 := B2.out.c 1 rfl
  go_wp2_with fail
  refine (hcre _).mono ?_
  rintro e W3 ⟨v3, rfl, f3, g3⟩
  have F3 : Hid (FilesS 0 W2.heap.size W3 v3 [⟨0, []⟩]) := f3
  obtain ⟨x3, c3, rfl, _, _⟩ := f3.at.rows
  have B3 : Hid (Box W3 p [.slice none 0 0, .int .i64 3]) := B2.out.grew g3
  have G3 : Hid (Grew w W3) := G2.out.trans g3
  clear f3 g3 hcre b0 b1
  have b0 := B3.out.c 0 rfl
  have b1 := B3.out.c 1 rfl
  have bf := B3.out.f
  simp only [List.length_cons, List.length_nil, Nat.zero_add] at F3 ⊢
  go_upto_region 3 with fail
  obtain ⟨W4, hW4⟩ : ∃ W4, (W3.setCell ⟨p, 0, none⟩ (.slice x3 1 c3)).setCell ⟨p, 1, none⟩ (.int .i64 3) = W4 := ⟨_, rfl⟩
  have B4 : Hid (Box W4 p [.slice x3 1 c3, .int .i64 3]) := show Box _ _ _ by rw [← hW4]; exact B3.out.two _ _
  have F4 : Hid (FilesAt W4 (.slice x3 1 c3) [⟨0, []⟩]) := show FilesAt _ _ _ by rw [← hW4]; exact (F3.out.two (Nat.zero_le _) B2.out.lt _ _).at
  have G4 : Hid (Grew w W4) := show Grew _ _ by rw [← hW4]; exact grew_two G3.out HWP.out _ _
  rw [hW4]
  clear hW4 b0 b1 bf
  have b0 := B4.out.c 0 rfl
  have b1 := B4.out.c 1 rfl
  go_wp2_with fail
  refine (hsiz _ _ F4.out).mono ?_
  rintro e W5 ⟨v5, rfl, f5, g5⟩
  have F5 : Hid (FilesS 0 W4.heap.size W5 v5 [⟨9, [-1, -1]⟩]) := f5
  obtain ⟨x5, c5, rfl, _, _⟩ := f5.at.rows
  have B5 : Hid (Box W5 p [.slice x3 1 c3, .int .i64 3]) := B4.out.grew g5
  have G5 : Hid (Grew w W5) := G4.out.trans g5
  clear f5 g5 hsiz b0 b1
  have b0 := B5.out.c 0 rfl
  have b1 := B5.out.c 1 rfl
  have bf := B5.out.f
  simp only [List.length_cons, List.length_nil, Nat.zero_add] at F5 ⊢
  go_upto_region 4 with fail
  obtain ⟨W6, hW6⟩ : ∃ W6, (W5.setCell ⟨p, 0, none⟩ (.slice x5 1 c5)).setCell ⟨p, 1, none⟩ (.int .i64 3) = W6 := ⟨_, rfl⟩
  have B6 : Hid (Box W6 p [.slice x5 1 c5, .int .i64 3]) := show Box _ _ _ by rw [← hW6]; exact B5.out.two _ _
  have F6 : Hid (FilesAt W6 (.slice x5 1 c5) [⟨9, [-1, -1]⟩]) := show FilesAt _ _ _ by rw [← hW6]; exact (F5.out.two (Nat.zero_le _) B4.out.lt _ _).at
  have G6 : Hid (Grew w W6) := show Grew _ _ by rw [← hW6]; exact grew_two G5.out HWP.out _ _
  rw [hW6]
  clear hW6 b0 b1 bf
  have b0 := B6.out.c 0 rfl
  have b1 := B6.out.c 1 rfl
  go_wp2_with fail
  refine (hblk _ _ F6.out).mono ?_
  rintro e W7 ⟨v7, rfl, f7, g7⟩
  have F7 : Hid (FilesS 0 W6.heap.size W7 v7 [⟨9, [-1, 0]⟩]) := f7
  obtain ⟨x7, c7, rfl, _, _⟩ := f7.at.rows
  have B7 : Hid (Box W7 p [.slice x5 1 c5, .int .i64 3]) := B6.out.grew g7
  have G7 : Hid (Grew w W7) := G6.out.trans g7
  clear f7 g7 hblk b0 b1
  have b0 := B7.out.c 0 rfl
  have b1 := B7.out.c 1 rfl
  have bf := B7.out.f
  simp only [List.length_cons, List.length_nil, Nat.zero_add] at F7 ⊢
  go_upto_region 5 with fail
  obtain ⟨W8, hW8⟩ : ∃ W8, (W7.setCell ⟨p, 0, none⟩ (.slice x7 1 c7)).setCell ⟨p, 1, none⟩ (.int .i64 3) = W8 := ⟨_, rfl⟩
  have B8 : Hid (Box W8 p [.slice x7 1 c7, .int .i64 3]) := show Box _ _ _ by rw [← hW8]; exact B7.out.two _ _
  have F8 : Hid (FilesAt W8 (.slice x7 1 c7) [⟨9, [-1, 0]⟩]) := show FilesAt _ _ _ by rw [← hW8]; exact (F7.out.two (Nat.zero_le _) B6.out.lt _ _).at
  have G8 : Hid (Grew w W8) := show Grew _ _ by rw [← hW8]; exact grew_two G7.out HWP.out _ _
  rw [hW8]
  clear hW8 b0 b1 bf
  have b0 := B8.out.c 0 rfl
  have b1 := B8.out.c 1 rfl
  go_wp2_with fail
  refine (hlef _ _ F8.out).mono ?_
  rintro e W9 ⟨rfl, g9⟩
  have B9 : Hid (Box W9 p [.slice x7 1 c7, .int .i64 3]) := B8.out.grew g9
  have F9 : Hid (FilesAt W9 (.slice x7 1 c7) [⟨9, [-1, 0]⟩]) := F8.out.grew g9
  have G9 : Hid (Grew w W9) := G8.out.trans g9
  clear g9 hlef b0 b1
  have b0 := B9.out.c 0 rfl
  have b1 := B9.out.c 1 rfl
  go_wp2_with fail
  refine (hwro _ _ F9.out).mono ?_
  rintro e W10 ⟨rfl, g10⟩
  have B10 : Hid (Box W10 p [.slice x7 1 c7, .int .i64 3]) := B9.out.grew g10
  have F10 : Hid (FilesAt W10 (.slice x7 1 c7) [⟨9, [-1, 0]⟩]) := F9.out.grew g10
  have G10 : Hid (Grew w W10) := G9.out.trans g10
  clear g10 hwro b0 b1
  have b0 := B10.out.c 0 rfl
  obtain ⟨_, _, heq, _, hrow⟩ := F10.out.rows
  cases heq
  obtain ⟨ad, rfl, xa, xc, _, hl⟩ := hrow 0 _ rfl
  obtain ⟨_, d1⟩ := hl W10 (Grew.refl _)
  clear hl hrow
  simp only [List.length_cons, List.length_nil, Nat.zero_add] at d1
  rw [show ad.add (0 * 2) = ad from rfl] at d1
  go_wp2
  go_ret
  exact ⟨rfl, G10.out⟩

end Go.Proofs.Ytagpmjgmohfmjac
