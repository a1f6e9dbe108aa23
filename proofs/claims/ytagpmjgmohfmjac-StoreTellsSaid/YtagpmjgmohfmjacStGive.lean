/- Contracts of giver, and of the function that it answers (package store). -/
import Derived.Test.YtagpmjgmohfmjacStLeaf
namespace Go.Proofs.Ytagpmjgmohfmjac
open Go.RowKit

/-- Which blocks were given, in cells. -/
def marks (n : Nat) (g : List Int) : List Value := (List.range n).map fun (i : Nat) => .bool (g.contains (i : Int))
theorem marks_at {n : Nat} (g : List Int) {i : Nat} (hi : i < n) : (marks n g)[i]? = some (.bool (g.contains (i : Int))) := by
  unfold marks
  rw [List.getElem?_map, List.getElem?_range hi]
  rfl
theorem marks_set {n : Nat} (g : List Int) {i : Nat} (hi : i < n) : (marks n g).set i (.bool true) = marks n ((i : Int) :: g) := by
  apply List.ext_getElem?
  intro j
  by_cases e : j = i
  · subst e
    rw [List.getElem?_set_self (by simp [marks, hi]), marks_at _ hi]
    simp
  · rw [List.getElem?_set_ne (fun h => e h.symm)]
    rcases Nat.lt_or_ge j n with hj | hj
    · rw [marks_at _ hj, marks_at _ hj]
      have : ¬ ((j : Int) = (i : Int)) := by omega
      simp [this]
    · rw [List.getElem?_eq_none (by simp [marks, hj]), List.getElem?_eq_none (by simp [marks, hj])]
theorem marks_nil : marks 80 [] = List.replicate 80 (.bool false) := by
  unfold marks
  simp [List.map_const']

set_option maxRecDepth 100000 in
set_option maxHeartbeats 1000000 in
theorem give_any (b cnt : Int) (g : List Int) (pc pg : Nat) (w : World) (hc : Box w pc [.int .i64 cnt]) (hg : Box w pg (marks 80 g)) (hn : cnt ≤ 80) :
    Calls Try.prog 44 #[.int .i64 b, .pointer (some ⟨pc, 0, none⟩), .pointer (some ⟨pg, 0, none⟩)] w fun e w' => e = .returned (.int .i64 (giveE cnt g b)) ∧ (giveE cnt g b = 0 → Box w' pg (marks 80 (giveG g b))) ∧ w.grownBy w' (some pg) ∧ w'.heap.size = w.heap.size := by
  have c0 := hc.c 0 rfl
  have HG : Hid (Box w pg (marks 80 g)) := hg
  rcases giveE_cases cnt g b with ⟨h1, h2, h3⟩ | ⟨h1, h2, h3⟩ | ⟨i, h1, h2, h3, h4⟩ | ⟨i, h1, h2, h3, h4, h5⟩
  · rw [h2]
    have HP : Hid (Box w pg (marks 80 (giveG g b))) := show Box _ _ _ by rw [h3]; exact hg
    subst h1
    clear hc hg h2 h3
    generalize giveG g (-1) = gg at HP ⊢
    go_enter Try.func44, Try.ntmps44
    go_wp2
    go_ret
    exact ⟨rfl, fun _ => HP.out, World.grownBy.rfl' _ _, rfl⟩
  · rw [h3]
    have hb := below_no h2 w
    have hb1 : (b == -1) = false := by simpa using h1
    clear hc hg h2 h3
    generalize giveG g b = gg
    go_enter Try.func44, Try.ntmps44
    go_wp2_with (go_at_call 33; refine hb.mono ?_; rintro e w' ⟨rfl, rfl⟩)
    go_ret
    exact ⟨rfl, fun h => by omega, World.grownBy.rfl' _ _, rfl⟩
  · rw [h4]
    subst h1
    have hi : i < 80 := by omega
    have hb := below_yes (m := (i : Int)) (n := cnt) (by omega) h2 w
    have hb1 : ((i : Int) == -1) = false := by simp
    have d0 := hg.c i (marks_at g hi)
    rw [h3] at d0
    generalize giveG g (i : Int) = gg
    clear hc hg h2 h3 h4
    go_enter Try.func44, Try.ntmps44
    go_wp2_with (go_at_call 33; refine hb.mono ?_; rintro e w' ⟨rfl, rfl⟩)
    go_ret
    exact ⟨rfl, fun h => by omega, World.grownBy.rfl' _ _, rfl⟩
  · rw [h4]
    subst h1
    have hi : i < 80 := by omega
    have hb := below_yes (m := (i : Int)) (n := cnt) (by omega) h2 w
    have hb1 : ((i : Int) == -1) = false := by simp
    have d0 := hg.c i (marks_at g hi)
    have f0 := hg.f
    rw [h3] at d0
    have HP : Hid (Box (w.setCell ⟨pg, i, none⟩ (.bool true)) pg (marks 80 (giveG g (i : Int)))) := show Box _ _ _ by
      rw [h5, ← marks_set g hi]
      exact hg.set i _
    generalize giveG g (i : Int) = gg at HP
    clear hc hg h2 h3 h4 h5
    go_enter Try.func44, Try.ntmps44
    go_wp2_with (go_at_call 33; refine hb.mono ?_; rintro e w' ⟨rfl, rfl⟩)
    go_ret
    exact ⟨rfl, fun _ => HP.out, ⟨rfl, rfl, rfl, by simp [World.setCell], fun k hk hne => Below.heap_setCell _ _ _ _ (fun e => hne (by rw [e]))⟩, by simp [World.setCell]⟩

def zGiven : Array Value := (List.replicate 80 (.bool false)).toArray
set_option maxRecDepth 100000 in
theorem zGiven_info : (Try.prog.info? 70).map (fun i => i.zero) = some (some (.agg zGiven)) := by kernel_rfl
theorem run_zGiven (w : World) : (zeroValue 70).run Try.prog w = .ok (.agg zGiven) w := by
  have h := zGiven_info
  cases hq : Try.prog.info? 70 with
  | none => simp [hq] at h
  | some i =>
    simp [hq] at h
    simp [zeroValue, typeInfo, hq, h]

set_option maxRecDepth 100000 in
theorem giver_any (cnt : Int) (w : World) :
    Calls Try.prog 34 #[.int .i64 cnt] w fun e w' => e = .returned (.func (.func 44) #[] #[.pointer (some ⟨w.heap.size, 0, none⟩), .pointer (some ⟨w.heap.size + 1, 0, none⟩)]) ∧ Box w' w.heap.size [.int .i64 cnt] ∧ Box w' (w.heap.size + 1) (marks 80 []) ∧ Grew w w' ∧ w'.heap.size = w.heap.size + 2 := by
  have hmf : ∀ (fn : Fn) (first cap : Array Value) (w : World), (Instr.makeFunc fn first cap).run Try.prog w = .ok (.func fn first cap) w := fun _ _ _ _ => rfl
  have hz := run_zGiven
  rw [marks_nil]
  go_enter Try.func34, Try.ntmps34
  go_wp2
  go_ret
  exact ⟨rfl, (Box.top w _ _ rfl).alloc _, Box.top _ (List.replicate 80 (.bool false)) _ (by simp), (grew_alloc _ _).trans (grew_alloc _ _), by simp⟩

end Go.Proofs.Ytagpmjgmohfmjac
