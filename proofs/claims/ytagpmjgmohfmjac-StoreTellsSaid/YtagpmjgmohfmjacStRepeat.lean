/- Contract of slices.Repeat at one number. -/
import Derived.Test.YtagpmjgmohfmjacStMul
import Derived.Test.YtagpmjgmohfmjacCopyElts
import Derived.Deep.Cut
namespace Go.Proofs.Ytagpmjgmohfmjac
open Go.RowKit

theorem rep_step (q : Int) (n m z : Nat) (_h : m ≤ n) (hz : z = Nat.min m (n - m)) : (List.replicate m q ++ List.replicate (n - m) (0 : Int)).take m ++ (List.replicate z q ++ (List.replicate m q ++ List.replicate (n - m) (0 : Int)).drop (m + z)) = List.replicate (m + z) q ++ List.replicate (n - (m + z)) (0 : Int) := by
  have hzz : z ≤ n - m := by rw [hz]; exact Nat.min_le_right _ _
  rw [List.take_append_of_le_length (by simp), List.take_of_length_le (by simp), List.drop_append, List.drop_of_length_le (by simp), List.nil_append, List.length_replicate, List.drop_replicate, ← List.append_assoc, List.replicate_append_replicate]
  congr 2
  omega

set_option maxRecDepth 100000 in
set_option maxHeartbeats 1000000 in
theorem repeat_any (q : Int) (x : Nat) (c n : Nat) (hn : n ≤ 40) (hn1 : 1 ≤ n) (w : World) (hv : RowAt blE w (.slice (some ⟨x, 0, none⟩) 1 c) [q]) :
    Calls Try.prog 45 #[.slice (some ⟨x, 0, none⟩) 1 c, .int .i64 (n : Int)] w fun e w' => ∃ b, e = .returned b ∧ NewRow blE w.heap.size w' b (List.replicate n q) ∧ Grew w w' := by
  have HC : Hid (Cells w ⟨x, 0, none⟩ ([q].flatMap blE.enc)) := by
    obtain ⟨⟨a, c', h1, _, h3⟩, _⟩ := hv
    cases h1
    exact h3 _ rfl
  clear hv
  have hm := mul_one n hn w
  have hnz : ¬ (n : Int) < 0 := by omega
  have hn2 : ¬ (9223372036854775807 : Int) < (n : Int) := by omega
  go_enter Try.func45, Try.ntmps45
  go_wp2_with (first
    | (go_at_call 49; refine hm.mono ?_; rintro e w' ⟨rfl, hw⟩; rw [hw])
    | (refine wpList_make_row blE rfl (.tmp 29) rfl n rfl (by show n * 8 ≤ _; omega) ?_; intro C ow; have OW : Hid (OwnRow blE w.heap.size (w.alloc (.cells C 3)) (.slice (some ⟨w.heap.size, 0, none⟩) n n) (List.replicate n (0 : Int))) := ow; clear ow)
    | (refine wpList_copy_elts (E := blE) rfl (.tmp 31) (.tmp 32) rfl w.heap.size (.slice (some ⟨w.heap.size, 0, none⟩) n n) (List.replicate n (0 : Int)) OW.out w.heap.size rfl 0 n n _ rfl ?a1 _ 1 c rfl [q] ?a2 ?a3 ?a4 ?_))
  case a1 => simp
  case a2 => show 1 = Nat.min 1 n; exact (Nat.min_eq_left hn1).symm
  case a3 => exact HC.out.grew (grew_alloc _ _)
  case a4 => simp; omega
  intro W1 ow1 gr1 _
  have OW1 : Hid (OwnRow blE w.heap.size W1 (.slice (some ⟨w.heap.size, 0, none⟩) n n) (List.replicate 1 q ++ List.replicate (n - 1) (0 : Int))) := show OwnRow _ _ _ _ (List.replicate 1 q ++ List.replicate (n - 1) (0 : Int)) by simpa [List.drop_replicate] using ow1
  have G1 : Hid (Grew w W1) := grew_grown (grew_alloc _ _) gr1 (Nat.le_refl _)
  clear ow1 gr1
  go_wp2
  go_loopg [8] n (fun gg s8 wr => ∃ m : Nat, 1 ≤ m ∧ m ≤ n ∧ n - m ≤ gg ∧ s8 = .int .i64 m ∧ Hid (OwnRow blE w.heap.size wr (.slice (some ⟨w.heap.size, 0, none⟩) n n) (List.replicate m q ++ List.replicate (n - m) (0 : Int))) ∧ Hid (Grew w wr))
  case atStart => exact ⟨1, Nat.le_refl _, hn1, by omega, rfl, OW1.out, G1.out⟩
  case round =>
    obtain ⟨m, hm1, hmn, hg, rfl, OF, GW⟩ := hrel
    by_cases hlt : m < n
    · have hltz : (m : Int) < (n : Int) := by omega
      have hmnz : (m : Int) ≤ (n : Int) := by omega
      have OFd : Hid (OwnRow blE w.heap.size wr.drew (.slice (some ⟨w.heap.size, 0, none⟩) n n) (List.replicate m q ++ List.replicate (n - m) (0 : Int))) := show OwnRow _ _ _ _ _ from OF.out.grew (show Below _ _ _ from (Below.refl _ _).drew)
      obtain ⟨z, HZ⟩ : ∃ z, Hid (z = Nat.min m (n - m)) := ⟨_, rfl⟩
      have hz0 : z = min m (n - m) := HZ.out
      have hz1 : 1 ≤ z := by omega
      have hz2 : z ≤ m := by omega
      have hz3 : z ≤ n - m := by omega
      clear hz0
      have hsrc : Cells wr.drew ⟨w.heap.size, 0, none⟩ ((List.replicate z q).flatMap blE.enc) := fun j u hj => by
        have h1 := OFd.out.1.cells rfl
        refine h1 j u ?_
        rw [List.flatMap_append, List.getElem?_append_left]
        · rw [show m = z + (m - z) by omega, ← List.replicate_append_replicate, List.flatMap_append, List.getElem?_append_left (List.getElem?_eq_some_iff.1 hj).1]
          exact hj
        · have h3 := (List.getElem?_eq_some_iff.1 hj).1
          rw [row_len blE] at h3 ⊢
          simp only [List.length_replicate] at h3 ⊢
          exact Nat.lt_of_lt_of_le h3 (Nat.mul_le_mul_right _ hz2)
      obtain ⟨W2, hrun, ow2, gr2, _⟩ := run_copy_elts (E := blE) 3 w.heap.size _ _ OFd.out w.heap.size rfl m (n - m) (n - m) ⟨w.heap.size, 0, none⟩ m n (List.replicate z q) (by rw [List.length_replicate]; exact HZ.out) hsrc (by simp; omega)
      have hcopy : (Builtin.copy_ #[22, 22] 3 #[.slice (some ⟨w.heap.size, m, none⟩) (n - m) (n - m), .slice (some ⟨w.heap.size, 0, none⟩) m n]).run Try.prog wr.drew = .ok (.int .i64 (z : Int)) W2 := by
        have h1 := hrun
        rw [List.length_replicate, show m * blE.k = m from Nat.mul_one m] at h1
        exact h1
      have OW2 : Hid (OwnRow blE w.heap.size W2 (.slice (some ⟨w.heap.size, 0, none⟩) n n) (List.replicate (m + z) q ++ List.replicate (n - (m + z)) (0 : Int))) := show OwnRow _ _ _ _ _ by
        rw [← rep_step q n m z (by omega) HZ.out]
        rw [List.length_replicate] at ow2
        exact ow2
      have GW2 : Hid (Grew w W2) := grew_grown (GW.out.trans (show Below _ _ _ from (Below.refl _ _).drew)) gr2 (Nat.le_refl _)
      clear hsrc hrun ow2 gr2
      go_wp2
      go_region
      go_wp2
      go_roundg (n - (m + z))
      case measure => omega
      case rel => exact ⟨m + z, by omega, by omega, Nat.le_refl _, by go_num, OW2.out, GW2.out⟩
    · have hltz : ¬ (m : Int) < (n : Int) := by omega
      have : m = n := by omega
      subst this
      have HO : Hid (OwnRow blE w.heap.size wr (.slice (some ⟨w.heap.size, 0, none⟩) m m) (List.replicate m q)) := show OwnRow _ _ _ _ (List.replicate m q) by have := OF.out; simpa using this
      go_wp2
      go_ret
      exact ⟨_, rfl, HO.out.new, GW.out⟩

end Go.Proofs.Ytagpmjgmohfmjac
