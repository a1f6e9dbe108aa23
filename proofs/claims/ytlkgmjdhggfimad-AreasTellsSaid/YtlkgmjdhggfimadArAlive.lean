/- Contract of alive: the closed fact that the laws of chapter 7 ask first. -/
import Derived.Test.YtlkgmjdhggfimadArOps
namespace Go.Proofs.Ytlkgmjdhggfimad
open Go.RowKit

theorem Gives.slice {R : List Ar × Int} {w : World} {e : Ending} {w' : World} (h : Gives R w e w') : ∃ a c, e = .returned (.tuple #[.slice a R.1.length c, .int .i64 R.2]) ∧ OwnRow arE w.heap.size w' (.slice a R.1.length c) R.1 ∧ Grew w w' := by
  obtain ⟨⟨u, h1, h2⟩, h3⟩ := h
  obtain ⟨a, c, rfl⟩ := h2.form
  exact ⟨a, c, h1, h2, h3⟩

def A0 : Ar := ⟨2, 8, true, false, false, -1, 0⟩
def A1 : List Ar := [⟨2, 4, true, false, false, -1, 0⟩, ⟨5, 8, true, false, false, -1, 0⟩]
def A2 : List Ar := [⟨2, 4, true, true, false, -1, 0⟩, ⟨4, 8, true, false, false, -1, 0⟩]
set_option maxRecDepth 100000 in
theorem al_map : mapA [] A0 = ([A0], 0) := by rfl
set_option maxRecDepth 100000 in
theorem al_un : unA [A0] 4 1 = (A1, 0) := by rfl
set_option maxRecDepth 100000 in
theorem al_pr : prA [A0] 2 2 true true = (A2, 0) := by rfl
set_option maxRecDepth 100000 in
theorem al_room : roomL [A0] 3 = 8 := by rfl
theorem al_wr : (wrL [A0]).1 = 0 := by rfl
theorem al_find7 {z : Int} (h : FindsZ [A0] 7 z) : z = 0 := by
  rcases h with ⟨k, a, rfl, h1, h2⟩ | ⟨rfl, h1⟩
  · have : k < 1 := (List.getElem?_eq_some_iff.1 h1).1
    omega
  · have := h1 A0 (by simp)
    cases this
theorem al_find8 {z : Int} (h : FindsZ [A0] 8 z) : z = -1 := by
  rcases h with ⟨k, a, rfl, h1, h2⟩ | ⟨rfl, h1⟩
  · have : a ∈ [A0] := List.mem_of_getElem? h1
    rw [List.mem_singleton] at this
    subst this
    cases h2
  · rfl

set_option maxRecDepth 100000 in
set_option maxHeartbeats 2000000 in
theorem aliveAr_any (w : World) : Calls Try.prog 25 #[] w fun e w' => e = .returned (.bool true) ∧ Grew w w' := by
  have hfe := field_err
  have hm : Calls Try.prog 14 #[.slice none 0 0, .agg #[.int .i64 2, .int .i64 8, .bool true, .bool false, .bool false, .int .i64 (-1), .int .i64 0]] w fun e w' => ∃ a c, e = .returned (.tuple #[.slice a 1 c, .int .i64 0]) ∧ RowAt arE w' (.slice a 1 c) [A0] ∧ Grew w w' := (map_any (.slice none 0 0) [] A0 w (RowAt.nil _ _)).mono (by
    intro e w' h
    rw [al_map] at h
    obtain ⟨a, c, h1, h2, h3⟩ := h.slice
    exact ⟨a, c, h1, h2.at, h3⟩)
  have hu : Hid (∀ v W, RowAt arE W v [A0] → Calls Try.prog 17 #[v, .int .i64 4, .int .i64 1] W fun e w' => ∃ a c, e = .returned (.tuple #[.slice a 2 c, .int .i64 0]) ∧ Grew W w') := fun v W hv => (unmap_any v [A0] 4 1 W hv (by omega)).mono (by
    intro e w' h
    rw [al_un] at h
    obtain ⟨a, c, h1, h2, h3⟩ := h.slice
    exact ⟨a, c, h1, h3⟩)
  have hp : Hid (∀ v W, RowAt arE W v [A0] → Calls Try.prog 19 #[v, .int .i64 2, .int .i64 2, .bool true, .bool true] W fun e w' => ∃ a c, e = .returned (.tuple #[.slice a 2 c, .int .i64 0]) ∧ Grew W w') := fun v W hv => (protect_any v [A0] 2 2 true true W hv (by omega)).mono (by
    intro e w' h
    rw [al_pr] at h
    obtain ⟨a, c, h1, h2, h3⟩ := h.slice
    exact ⟨a, c, h1, h3⟩)
  have h7 : Hid (∀ v W, RowAt arE W v [A0] → Calls Try.prog 21 #[v, .int .i64 7] W fun e w' => e = .returned (.int .i64 0) ∧ Grew W w') := fun v W hv => (find_any v [A0] 7 W hv).mono (by
    rintro e w' ⟨⟨z, rfl, hz⟩, g⟩
    rw [al_find7 hz]
    exact ⟨rfl, g⟩)
  have h8 : Hid (∀ v W, RowAt arE W v [A0] → Calls Try.prog 21 #[v, .int .i64 8] W fun e w' => e = .returned (.int .i64 (-1)) ∧ Grew W w') := fun v W hv => (find_any v [A0] 8 W hv).mono (by
    rintro e w' ⟨⟨z, rfl, hz⟩, g⟩
    rw [al_find8 hz]
    exact ⟨rfl, g⟩)
  have hr : Hid (∀ v W, RowAt arE W v [A0] → Calls Try.prog 23 #[v, .int .i64 3] W fun e w' => e = .returned (.int .i64 8) ∧ Grew W w') := fun v W hv => by
    have := room_any v [A0] 3 W hv al_wr (by omega)
    rw [al_room] at this
    exact this
  have hw : Hid (∀ v W, RowAt arE W v [A0] → Calls Try.prog 12 #[v] W fun e w' => e = .returned (.agg #[.int .i64 0, .int .i64 (wrL [A0]).2]) ∧ Grew W w') := fun v W hv => by
    have := wrongAr_any v [A0] W hv
    rw [al_wr] at this
    exact this
  generalize (wrL [A0]).2 = I at hw
  go_enter Try.func25, Try.ntmps25
  go_wp2_with fail
  refine hm.mono ?_
  rintro e W1 ⟨a1, c1, rfl, r1, g1⟩
  have G1 : Hid (Grew w W1) := g1
  have R1 : Hid (RowAt arE W1 (.slice a1 1 c1) [A0]) := r1
  clear g1 r1 hm
  go_wp2_with fail
  refine (hu.out _ _ R1.out).mono ?_
  rintro e W2 ⟨a2, c2, rfl, g2⟩
  have G2 : Hid (Grew w W2) := G1.out.trans g2
  have R2 : Hid (RowAt arE W2 (.slice a1 1 c1) [A0]) := R1.out.grew g2
  clear g2
  go_wp2_with fail
  refine (hp.out _ _ R2.out).mono ?_
  rintro e W3 ⟨a3, c3, rfl, g3⟩
  have G3 : Hid (Grew w W3) := G2.out.trans g3
  have R3 : Hid (RowAt arE W3 (.slice a1 1 c1) [A0]) := R2.out.grew g3
  clear g3
  go_wp2_with fail
  refine (h7.out _ _ R3.out).mono ?_
  rintro e W4 ⟨rfl, g4⟩
  have G4 : Hid (Grew w W4) := G3.out.trans g4
  have R4 : Hid (RowAt arE W4 (.slice a1 1 c1) [A0]) := R3.out.grew g4
  clear g4
  go_wp2_with fail
  refine (h8.out _ _ R4.out).mono ?_
  rintro e W5 ⟨rfl, g5⟩
  have G5 : Hid (Grew w W5) := G4.out.trans g5
  have R5 : Hid (RowAt arE W5 (.slice a1 1 c1) [A0]) := R4.out.grew g5
  clear g5
  go_wp2_with fail
  refine (hr.out _ _ R5.out).mono ?_
  rintro e W6 ⟨rfl, g6⟩
  have G6 : Hid (Grew w W6) := G5.out.trans g6
  have R6 : Hid (RowAt arE W6 (.slice a1 1 c1) [A0]) := R5.out.grew g6
  clear g6
  go_wp2_with fail
  refine (hw.out _ _ R6.out).mono ?_
  rintro e W7 ⟨rfl, g7⟩
  have G7 : Hid (Grew w W7) := G6.out.trans g7
  clear g7
  go_wp2
  go_ret
  exact ⟨rfl, G7.out⟩

end Go.Proofs.Ytlkgmjdhggfimad
