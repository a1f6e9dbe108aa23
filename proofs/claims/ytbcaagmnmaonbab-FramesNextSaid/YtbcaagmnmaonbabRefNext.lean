/- Contract of NextFrame (the document's answer). -/
import Derived.Test.YtbcaagmnmaonbabMemNext
import Derived.Test.YtbcaagmnmaonbabMemWith
import Derived.Test.YtbcaagmnmaonbabMemRefWrong
namespace Go.Proofs.Ytbcaagmnmaonbab
open Go.RowKit

set_option maxRecDepth 100000 in
set_option maxHeartbeats 1000000 in
theorem rnextA (a : Option Addr) (c : Nat) (fs : List Fr) (h : Int) (w : World) (hv : RowAt w (.slice a fs.length c) fs) (z : Int) (hz : memW fs h = z) (hzb : (z != 0) = true) :
    Calls Try.prog 22 #[.agg #[.slice a fs.length c, .int .i64 h]] w fun e w' => ∃ b, e = .returned (.tuple #[.agg #[b, .int .i64 0], .int .i64 0, .int .i64 z]) ∧ NewRow w.heap.size w' b ([] : List Fr) ∧ Grew w w' := by
  have HV : Hid (RowAt w (.slice a fs.length c) fs) := hv
  have hw : ∀ W, Grew w W → Calls Try.prog 12 #[.agg #[.slice a fs.length c, .int .i64 h]] W fun e w' => e = .returned (.int .i64 (memW fs h)) ∧ Grew W w' := fun W hW => refWrongMem_any a c fs _ W (HV.out.grew hW)
  clear hv
  obtain ⟨n, HN⟩ : ∃ n, Hid (fs.length = n) := ⟨_, rfl⟩
  simp only [HN.out, hz] at hw HV ⊢
  clear hz
  obtain ⟨W0, hW0⟩ : ∃ W0, (w.alloc (.cells #[.slice a n c, .int .i64 h] 39)).alloc (.cells #[.slice none 0 0, .int .i64 0] 39) = W0 := ⟨_, rfl⟩
  have HG0 : Hid (Grew w W0) := show Grew w W0 by rw [← hW0]; exact (grew_alloc _ _).trans (grew_alloc _ _)
  have X0 : Hid (Box W0 w.heap.size [.slice a n c, .int .i64 h]) := show Box _ _ _ by rw [← hW0]; exact (Box.top w _ _ rfl).alloc _
  have X2 : Hid (Box W0 (w.heap.size + 1) [.slice none 0 0, .int .i64 0]) := show Box _ _ _ by rw [← hW0]; exact Box.top _ _ _ (by simp)
  have HW0 : Hid (_ = W0) := hW0
  clear hW0
  go_enter Try.func22, Try.ntmps22
  go_upto_region 1 with fail
  rw [HW0.out]
  have e0 := X0.out.c 0 rfl
  have e1 := X0.out.c 1 rfl
  go_wp2_with fail
  refine (hw _ HG0.out).mono ?_
  rintro e W1 ⟨rfl, g1⟩
  have G1 : Hid (Grew W0 W1) := g1
  clear g1 e0 e1 hw
  have r0 := (X2.out.grew G1.out).c 0 rfl
  have r1 := (X2.out.grew G1.out).c 1 rfl
  have rf := (X2.out.grew G1.out).f
  go_wp2
  refine bodyPost_ret (v := .tuple #[.agg #[.slice none 0 0, .int .i64 0], .int .i64 0, .int .i64 z]) (by simp [results, Try.results22, go_sem, *]) rfl ⟨_, rfl, NewRow.nil _ _, ?_⟩
  exact grew_set (grew_set (HG0.out.trans G1.out) (by simp) _) (by simp) _

theorem next_none : ∀ (m : Nat) (fs : List Fr) (h : Nat), h < fs.length → (∀ q ∈ fs, q = frF) → nextGo m fs h = (fs, (h + m) % fs.length, -1)
  | 0, fs, h, hh, _ => by
    rw [nextGo, Nat.add_zero, Nat.mod_eq_of_lt hh]
  | m + 1, fs, h, hh, hf => by
    have hq : fs.getD h fr0 = frF := by
      rw [List.getD_eq_getElem?_getD, List.getElem?_eq_getElem hh]
      exact hf _ (List.getElem_mem hh)
    have hs : fs.set h (frU frF) = fs := by
      apply List.ext_getElem?
      intro j
      by_cases hj : j = h
      · subst hj
        rw [List.getElem?_set_self hh, List.getElem?_eq_getElem hh, hf _ (List.getElem_mem hh)]
        rfl
      · rw [List.getElem?_set_ne (Ne.symm hj)]
    rw [nextGo, hq, show idle frF = false from rfl, hs]
    rw [if_neg (by decide), next_none m fs ((h + 1) % fs.length) (Nat.mod_lt _ (by omega)) hf]
    rw [Nat.mod_add_mod, Nat.add_assoc, Nat.add_comm 1 m]

theorem free_is {q : Fr} (h1 : frW q = 0) (hr : q.r = 0) : q = frF := by
  unfold frW at h1
  by_cases h2 : (inB q.r 1001 && inB q.x 12) = false
  · rw [if_pos h2] at h1; omega
  · rw [if_neg h2] at h1
    by_cases h3 : (!(q.f == -1) && !inB q.f 5) = true
    · rw [if_pos h3] at h1; omega
    · rw [if_neg h3] at h1
      by_cases h4 : (q.r == 0 && !frEqB q frF || q.f == -1 && !(q.x == 0)) = true
      · rw [if_pos h4] at h1; omega
      · simp [hr] at h4
        exact frEqB_eq h4.1

def held (q : Fr) : Bool := decide (0 < q.r)

theorem nextR_none {fs : List Fr} {h : Int} (hz : memW fs h = 0) (hn : fs.any held = false) : nextR fs h = (fs, h.toNat, -1) := by
  obtain ⟨h1, h2, h3, h4⟩ := memW_zero hz
  have hall : ∀ q ∈ fs, q = frF := fun q hq => by
    have h5 := List.any_eq_false.1 hn q hq
    unfold held at h5
    have h6 := (frW_zero (h2 q hq)).1
    exact free_is (h2 q hq) (by simp at h5; omega)
  unfold nextR
  by_cases hl : fs.length = 0
  · rw [hl]
    rfl
  · rw [next_none _ fs h.toNat (by omega) hall, Nat.add_comm, Nat.two_mul, Nat.add_assoc, Nat.add_mod_left, Nat.add_mod_left, Nat.mod_eq_of_lt (by omega)]

theorem any_step {fs : List Fr} {k : Nat} {q : Fr} (h : fs[k]? = some q) : (fs.take (k + 1)).any held = ((fs.take k).any held || held q) := by
  obtain ⟨hlt, rfl⟩ := List.getElem?_eq_some_iff.1 h
  rw [List.take_succ_eq_append_getElem hlt, List.any_append]
  simp

end Go.Proofs.Ytbcaagmnmaonbab
