/- Contracts of New, wrongNumber and Left (package store). -/
import Derived.Test.YtagpmjgmohfmjacStWrong
import Derived.Test.YtagpmjgmohfmjacStLeft
namespace Go.Proofs.Ytagpmjgmohfmjac
open Go.RowKit

set_option maxHeartbeats 1000000 in
theorem newSt_any (n : Int) (w : World) :
    Calls Try.prog 13 #[.int .i64 n] w fun e w' => e = .returned (.tuple #[.agg #[.slice none 0 0, .int .i64 (if 0 ≤ n ∧ n ≤ 80 then n else 0)], .int .i64 (if 0 ≤ n ∧ n ≤ 80 then 0 else 4)]) ∧ Grew w w' := by
  by_cases h : 0 ≤ n ∧ n ≤ 80
  · rw [if_pos h, if_pos h]
    have hb := fun W => below_yes (m := n) (n := 81) h.1 (by omega) W
    clear h
    go_enter Try.func13, Try.ntmps13
    go_wp2_with (go_at_call 33; refine (hb _).mono ?_; rintro e w' ⟨rfl, rfl⟩)
    refine bodyPost_ret (v := .tuple #[.agg #[.slice none 0 0, .int .i64 n], .int .i64 0]) (by simp [results, Try.results13, go_sem, *]) rfl ⟨rfl, ?_⟩
    first | exact grew_alloc _ _ | exact Below.setCell (Below.setCell (grew_alloc _ _) (p := ⟨w.heap.size, 0, none⟩) (by simp) _) (p := ⟨w.heap.size, 1, none⟩) (by simp) _
  · rw [if_neg h, if_neg h]
    have hb := fun W => below_no (m := n) (n := 81) (by omega) W
    clear h
    go_enter Try.func13, Try.ntmps13
    go_wp2_with (go_at_call 33; refine (hb _).mono ?_; rintro e w' ⟨rfl, rfl⟩)
    refine bodyPost_ret (v := .tuple #[.agg #[.slice none 0 0, .int .i64 0], .int .i64 4]) (by simp [results, Try.results13, go_sem, *]) rfl ⟨rfl, ?_⟩
    first | exact grew_alloc _ _ | exact Below.setCell (Below.setCell (grew_alloc _ _) (p := ⟨w.heap.size, 0, none⟩) (by simp) _) (p := ⟨w.heap.size, 1, none⟩) (by simp) _

/-- What is wrong with a store, or that it has no file k. -/
def numW (fs : List Fl) (cnt k : Int) : Int := if stW fs cnt = 0 then (if inL fs.length k = true then 0 else 5) else stW fs cnt

set_option maxHeartbeats 1000000 in
theorem wrongNum_any (v : Value) (fs : List Fl) (cnt k : Int) (w : World) (hv : FilesAt w v fs) :
    Calls Try.prog 39 #[.agg #[v, .int .i64 cnt], .int .i64 k] w fun e w' => e = .returned (.int .i64 (numW fs cnt k)) ∧ Grew w w' := by
  have h1 : ∀ W, Grew w W → Calls Try.prog 14 #[.agg #[v, .int .i64 cnt]] W fun e w' => e = .returned (.int .i64 (stW fs cnt)) ∧ Grew W w' := fun W hW => wrongSt_any v fs cnt W (hv.grew hW)
  obtain ⟨a, c, rfl, hbig, _⟩ := hv.rows
  clear hv
  have HD : Hid (numW fs cnt k = if stW fs cnt = 0 then (if inL fs.length k = true then 0 else 5) else stW fs cnt) := rfl
  have hbel : ∀ W, Calls Try.prog 33 #[.int .i64 k, .int .i64 (fs.length : Int)] W fun e w' => e = .returned (.bool (inL fs.length k)) ∧ w' = W := fun W => below_any k _ W
  generalize numW fs cnt k = Z at HD ⊢
  generalize inL fs.length k = B at HD hbel
  generalize stW fs cnt = S at HD h1
  generalize fs.length = n at *
  obtain ⟨W0, hW0⟩ : ∃ W0, w.alloc (.cells #[.slice a n c, .int .i64 cnt] 36) = W0 := ⟨_, rfl⟩
  have HG0 : Hid (Grew w W0) := show Grew w W0 by rw [← hW0]; exact grew_alloc _ _
  have X0 : Hid (Box W0 w.heap.size [.slice a n c, .int .i64 cnt]) := show Box _ _ _ by rw [← hW0]; exact Box.top w _ _ rfl
  have HW0 : Hid (_ = W0) := hW0
  clear hW0
  by_cases hs : S = 0
  · rw [if_pos hs] at HD
    subst hs
    cases B with
    | true =>
      rw [if_pos rfl] at HD
      go_enter Try.func39, Try.ntmps39
      go_wp2_with fail
      rw [HW0.out]
      refine (h1 _ HG0.out).mono ?_
      rintro e W1 ⟨rfl, g1⟩
      have G1 : Hid (Grew w W1) := HG0.out.trans g1
      have x0 := (X0.out.grew g1).c 0 rfl
      clear g1 h1
      go_wp2_with (go_at_call 33; refine (hbel _).mono ?_; rintro e w' ⟨rfl, rfl⟩)
      go_ret
      exact ⟨by rw [HD.out]; rfl, G1.out⟩
    | false =>
      rw [if_neg (by decide)] at HD
      go_enter Try.func39, Try.ntmps39
      go_wp2_with fail
      rw [HW0.out]
      refine (h1 _ HG0.out).mono ?_
      rintro e W1 ⟨rfl, g1⟩
      have G1 : Hid (Grew w W1) := HG0.out.trans g1
      have x0 := (X0.out.grew g1).c 0 rfl
      clear g1 h1
      go_wp2_with (go_at_call 33; refine (hbel _).mono ?_; rintro e w' ⟨rfl, rfl⟩)
      go_ret
      exact ⟨by rw [HD.out]; rfl, G1.out⟩
  · rw [if_neg hs] at HD
    have hzb : (S != 0) = true := by simpa using hs
    go_enter Try.func39, Try.ntmps39
    go_wp2_with fail
    rw [HW0.out]
    refine (h1 _ HG0.out).mono ?_
    rintro e W1 ⟨rfl, g1⟩
    have G1 : Hid (Grew w W1) := HG0.out.trans g1
    clear g1 h1
    go_wp2
    go_ret
    exact ⟨by rw [HD.out]; rfl, G1.out⟩

/-- How many blocks are left; none of a wrong store. -/
def leftN (fs : List Fl) (cnt : Int) : Nat := if stW fs cnt = 0 then (leftL fs cnt).length else 0

set_option maxHeartbeats 1000000 in
theorem leftN_any (v : Value) (fs : List Fl) (cnt : Int) (w : World) (hv : FilesAt w v fs) :
    Calls Try.prog 25 #[.agg #[v, .int .i64 cnt]] w fun e w' => e = .returned (.int .i64 (leftN fs cnt : Int)) ∧ Grew w w' := by
  have h1 : ∀ W, Grew w W → Calls Try.prog 14 #[.agg #[v, .int .i64 cnt]] W fun e w' => e = .returned (.int .i64 (stW fs cnt)) ∧ Grew W w' := fun W hW => wrongSt_any v fs cnt W (hv.grew hW)
  have HV : Hid (FilesAt w v fs) := hv
  obtain ⟨a, c, rfl, hbig, _⟩ := hv.rows
  clear hv
  obtain ⟨n, HN⟩ : ∃ n, Hid (fs.length = n) := ⟨_, rfl⟩
  rw [HN.out] at HV h1 hbig ⊢
  obtain ⟨W0, hW0⟩ : ∃ W0, w.alloc (.cells #[.slice a n c, .int .i64 cnt] 36) = W0 := ⟨_, rfl⟩
  have HG0 : Hid (Grew w W0) := show Grew w W0 by rw [← hW0]; exact grew_alloc _ _
  have X0 : Hid (Box W0 w.heap.size [.slice a n c, .int .i64 cnt]) := show Box _ _ _ by rw [← hW0]; exact Box.top w _ _ rfl
  have HW0 : Hid (_ = W0) := hW0
  clear hW0
  by_cases hs : stW fs cnt = 0
  · have hr := ((stW_zero fs cnt).1 hs).1
    have HD : Hid (leftN fs cnt = (leftL fs cnt).length) := show _ = _ by unfold leftN; rw [if_pos hs]
    rw [hs] at h1
    clear hs
    obtain ⟨m, rfl⟩ : ∃ m : Nat, cnt = (m : Int) := ⟨cnt.toNat, by omega⟩
    have h2 : ∀ W, Grew w W → Calls Try.prog 42 #[.agg #[.slice a n c, .int .i64 (m : Int)]] W fun e w' => ∃ b, e = .returned b ∧ OwnRow blE (W.heap.size + 1) w' b (leftTo fs m) ∧ Grew W w' := fun W hW => left_any _ fs m (by omega) W (HV.out.grew hW)
    clear hr
    go_enter Try.func25, Try.ntmps25
    go_wp2_with fail
    rw [HW0.out]
    refine (h1 _ HG0.out).mono ?_
    rintro e W1 ⟨rfl, g1⟩
    have G1 : Hid (Grew w W1) := HG0.out.trans g1
    have x0 := (X0.out.grew g1).c 0 rfl
    have x1 := (X0.out.grew g1).c 1 rfl
    clear g1 h1
    go_wp2_with fail
    refine (h2 _ G1.out).mono ?_
    rintro e W2 ⟨b, rfl, ow, g2⟩
    obtain ⟨ba, bc, rfl⟩ := ow.form
    have G2 : Hid (Grew w W2) := G1.out.trans g2
    have HE : Hid (leftN fs (m : Int) = (leftTo fs m).length) := show _ = _ by rw [HD.out, leftTo_all, List.length_map]
    clear g2 ow h2 x0 x1 HD
    go_wp2
    go_ret
    exact ⟨by rw [HE.out]; rfl, G2.out⟩
  · have HD : Hid (leftN fs cnt = 0) := show _ = _ by unfold leftN; rw [if_neg hs]
    have hzb : (stW fs cnt != 0) = true := by simpa using hs
    generalize stW fs cnt = S at *
    go_enter Try.func25, Try.ntmps25
    go_wp2_with fail
    rw [HW0.out]
    refine (h1 _ HG0.out).mono ?_
    rintro e W1 ⟨rfl, g1⟩
    have G1 : Hid (Grew w W1) := HG0.out.trans g1
    clear g1 h1
    go_wp2
    go_ret
    exact ⟨by rw [HD.out]; rfl, G1.out⟩

end Go.Proofs.Ytagpmjgmohfmjac
