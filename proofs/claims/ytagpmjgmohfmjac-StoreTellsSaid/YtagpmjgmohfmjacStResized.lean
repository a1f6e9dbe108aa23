/- Contract of resized (package store). -/
import Derived.Test.YtagpmjgmohfmjacStRepeat
import Derived.Test.YtagpmjgmohfmjacStOwn
namespace Go.Proofs.Ytagpmjgmohfmjac
open Go.RowKit

theorem grownBy_trans {w w1 w2 : World} {row : Option Nat} (h : Grew w w1) (k : w1.grownBy w2 row) : w.grownBy w2 row :=
  ⟨k.os.trans (Below.os h), k.tape.trans (Below.tape h), k.output.trans (Below.output h), Nat.le_trans (Below.size h) k.size, fun i hi hne => (k.block i (Nat.lt_of_lt_of_le hi (Below.size h)) hne).trans (Below.block h i hi)⟩

set_option maxRecDepth 100000 in
set_option maxHeartbeats 1000000 in
theorem resized_any (a : Option Addr) (c : Nat) (l : List Int) (n : Nat) (hn : n ≤ 12) (hl : l.length ≤ 12) (base : Nat) (w : World) (hown : OwnRow blE base w (.slice a l.length c) l) (hb : base ≤ w.heap.size) :
    Calls Try.prog 40 #[.slice a l.length c, .int .i64 (n : Int)] w fun e w' => ∃ a' c', e = .returned (.slice a' n c') ∧ NewRow blE base w' (.slice a' n c') (sized l n) ∧ (∀ x, a' = some x → ∃ cs, w'.heap[x.block]? = some (.cells cs blE.ty (0, 0))) ∧ w.grownBy w' (Value.slice a l.length c).ownBlock := by
  have OW : Hid (OwnRow blE base w (.slice a l.length c) l) := hown
  obtain ⟨m, HM⟩ : ∃ m, Hid (l.length = m) := ⟨_, rfl⟩
  have HO : Hid (∀ x, a = some x → ∃ cs, w.heap[x.block]? = some (.cells cs blE.ty (0, 0))) := show ∀ x, _ from fun x hx => hown.obj (by rw [hx]; rfl)
  by_cases hle : n ≤ l.length
  · have hcap : l.length ≤ c := by
      rcases hown.1.2 with ⟨h0, _⟩ | ⟨g, cap, cur, h0, _, _, h4, _⟩
      · have h1 := congrArg (fun v => match v with | .slice _ n _ => n | _ => 0) h0
        simp at h1
        simp [h1]
      · have h1 := congrArg (fun v => match v with | .slice _ _ n => n | _ => 0) h0
        simp at h1
        rw [h1]
        exact h4
    have hs : sized l n = l.take n := by
      unfold sized
      rw [show n - l.length = 0 by omega]
      simp
    have NR : Hid (NewRow blE base w (.slice a n c) (sized l n)) := show NewRow _ _ _ _ _ by
      obtain ⟨⟨⟨x, c', e1, e2, e3⟩, e4⟩, e5⟩ := hown.new
      cases e1
      rw [hs]
      refine ⟨⟨⟨a, c, by rw [List.length_take, Nat.min_eq_left hle], fun h => by rw [e2 h]; simp, fun y hy j u hj => ?_⟩, ?_⟩, fun x k c' e => ?_⟩
      · refine e3 y hy j u ?_
        rw [← List.take_append_drop n l, List.flatMap_append, List.getElem?_append_left (List.getElem?_eq_some_iff.1 hj).1]
        exact hj
      · rw [List.length_take, Nat.min_eq_left hle]
        show n * 8 ≤ _
        omega
      · cases e
        exact e5 x _ _ rfl
    have hz : (n : Int) ≤ (l.length : Int) := by omega
    have hz2 : (n : Int) ≤ (c : Int) := by omega
    rw [HM.out] at hz ⊢
    clear hown hs
    rcases a with _ | x
    · have h0 : m = 0 := by
        rw [← HM.out]
        have h1 := OW.out.1.2
        rcases h1 with ⟨h0, h3⟩ | ⟨g, cap, cur, h0, _⟩
        · exact h3
        · cases h0
      subst h0
      have hn0 : n = 0 := by omega
      subst hn0
      go_enter Try.func40, Try.ntmps40
      go_wp2
      refine bodyPost_ret (v := .slice none 0 c) (by simp [results, Try.results40, go_sem, *]) rfl ⟨_, _, rfl, NR.out, HO.out, World.grownBy.rfl' _ _⟩
    · go_enter Try.func40, Try.ntmps40
      go_wp2
      refine bodyPost_ret (v := .slice (some x) n c) (by simp [results, Try.results40, go_sem, *]) rfl ⟨_, _, rfl, NR.out, HO.out, World.grownBy.rfl' _ _⟩
  · obtain ⟨k, hk⟩ : ∃ k, n = l.length + k := ⟨n - l.length, by omega⟩
    have hs : sized l n = l ++ List.replicate k (-1) := by
      unfold sized
      rw [List.take_of_length_le (by omega), show n - l.length = k by omega]
    have HS : Hid (sized l n = l ++ List.replicate k (-1)) := hs
    have hk1 : 1 ≤ k := by omega
    have hk2 : k ≤ 40 := by omega
    have hz : ¬ (n : Int) ≤ (l.length : Int) := by omega
    have hsub : (n : Int) - (l.length : Int) = (k : Int) := by omega
    have HB : Hid (base ≤ w.heap.size) := hb
    have HBY : Hid ((l.length + (List.replicate k (-1 : Int)).length) * blE.bytes ≤ 140737488355328) := show (_ + _) * 8 ≤ _ by rw [List.length_replicate]; omega
    have HNK : Hid ((l ++ List.replicate k (-1 : Int)).length = n) := show _ = _ by rw [List.length_append, List.length_replicate]; omega
    rw [HM.out] at hz hsub HBY OW ⊢
    clear hown hs hb hle hk
    obtain ⟨W0, hW0⟩ : ∃ W0, w.alloc (.cells #[.int .i64 (-1)] 3) = W0 := ⟨_, rfl⟩
    have HG0 : Hid (Grew w W0) := show Grew w W0 by rw [← hW0]; exact grew_alloc _ _
    have R0 : Hid (RowAt blE W0 (.slice (some ⟨w.heap.size, 0, none⟩) 1 1) [-1]) := show RowAt _ _ _ _ by rw [← hW0]; exact one_row blE w (-1) _ _ rfl (by show 8 ≤ _; omega)
    have HW0 : Hid (_ = W0) := hW0
    clear hW0
    go_enter Try.func40, Try.ntmps40
    go_wp2_with fail
    rw [HW0.out]
    refine (repeat_any (-1) w.heap.size 1 k hk2 hk1 W0 R0.out).mono ?_
    rintro e W1 ⟨b, rfl, nr, g1⟩
    have G1 : Hid (Grew w W1) := HG0.out.trans g1
    have NR : Hid (RowAt blE W1 b (List.replicate k (-1))) := nr.1
    obtain ⟨ba, bc, hbb, _⟩ := nr.1.nums
    rw [List.length_replicate] at hbb
    subst hbb
    have O1 : Hid (OwnRow blE base W1 (.slice a m c) l) := OW.out.grew G1.out
    have HB1 : Hid (base ≤ W1.heap.size) := Nat.le_trans HB.out (Below.size G1.out)
    clear nr g1
    go_wp2_with (at_builtin; refine wpList_append_row (E := blE) rfl (.tmp 12) (.tmp 18) rfl base _ l rfl O1.out _ (List.replicate k (-1)) rfl NR.out ?qb HB1.out ?_)
    case qb => rw [HM.out]; exact HBY.out
    intro v2 W2 ow2 gr2
    obtain ⟨xa, xc, rfl⟩ := ow2.form
    rw [HNK.out] at ow2 ⊢
    have N2 : Hid (NewRow blE base W2 (.slice xa n xc) (sized l n)) := show NewRow _ _ _ _ _ by rw [HS.out]; exact ow2.new
    have HO2 : Hid (∀ x, xa = some x → ∃ cs, W2.heap[x.block]? = some (.cells cs blE.ty (0, 0))) := show ∀ x, _ from fun x hx => ow2.obj (by rw [hx]; rfl)
    have GB : Hid (w.grownBy W2 (Value.slice a m c).ownBlock) := grownBy_trans G1.out gr2
    clear ow2 gr2
    go_wp2
    refine bodyPost_ret (v := .slice xa n xc) (by simp [results, Try.results40, go_sem, *]) rfl ⟨_, _, rfl, N2.out, HO2.out, GB.out⟩

end Go.Proofs.Ytagpmjgmohfmjac
