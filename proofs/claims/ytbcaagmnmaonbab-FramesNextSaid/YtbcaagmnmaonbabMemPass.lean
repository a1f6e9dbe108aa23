/- Contract of Next's closure (package frames): the hand comes by one frame. -/
import Derived.Test.YtbcaagmnmaonbabMemHold
namespace Go.Proofs.Ytbcaagmnmaonbab
open Go.RowKit

/-- The frame behind the hand. -/
def frU (q : Fr) : Fr := { q with u := false }
def idle (q : Fr) : Bool := decide (0 < q.r) && !q.u

theorem below_set {b : Nat} {w W : World} (h : Below b w W) {a : Addr} (ha : b ≤ a.block) (u : Value) : Below b w (W.setCell a u) := Below.setCell h ha u

set_option maxRecDepth 100000 in
set_option maxHeartbeats 1000000 in
theorem pass_any (B g n cv i base b0 : Nat) (fs : List Fr) (q : Fr) (W : World) (hn : fs.length = n) (h40 : n ≤ 40) (hq : fs[i]? = some q) (hB : Box W B [.slice (some ⟨g, 0, none⟩) n cv, .int .i64 (i : Int)]) (ow : OwnRow base W (.slice (some ⟨g, 0, none⟩) n cv) fs) (hBg : B ≠ g) (h1 : b0 ≤ B) (h2 : b0 ≤ g) :
    Calls Try.prog 40 #[.pointer (some ⟨B, 0, none⟩)] W fun e W' => e = .returned (.tuple #[.int .i64 (i : Int), .bool (idle q)]) ∧ Box W' B [.slice (some ⟨g, 0, none⟩) n cv, .int .i64 (((i + 1) % n : Nat) : Int)] ∧ OwnRow base W' (.slice (some ⟨g, 0, none⟩) n cv) (fs.set i (frU q)) ∧ Below b0 W W' := by
  have OW : Hid (OwnRow base W (.slice (some ⟨g, 0, none⟩) n cv) fs) := ow
  have HB : Hid (Box W B [.slice (some ⟨g, 0, none⟩) n cv, .int .i64 (i : Int)]) := hB
  have HQ : Hid (fs[i]? = some q) := hq
  have hil : i < n := by rw [← hn]; exact (List.getElem?_eq_some_iff.1 hq).1
  have HN : Hid (fs.length = n) := hn
  clear ow hB hq hn
  have hiz : (i : Int) < (n : Int) := by omega
  have hn0 : (0 : Int) < (n : Int) := by omega
  have hnn : ¬ (n : Int) = 0 := by omega
  have hmod : (((i : Int) + 1) % (n : Int)) = (((i + 1) % n : Nat) : Int) := by simp
  have HMOD : Hid (((i : Int) + 1) % (n : Int) = (((i + 1) % n : Nat) : Int)) := hmod
  clear hmod
  have hgB : g ≠ B := Ne.symm hBg
  have e0 := HB.out.c 0 rfl
  have e1 := HB.out.c 1 rfl
  have ef := HB.out.f
  have eB := HB.out.lt
  have hgl := (OW.out.lt g rfl).2
  have u8 := OW.out.frc HQ.out 8 rfl
  have u9 := OW.out.frc HQ.out 9 rfl
  go_enter Try.func40, Try.ntmps40
  go_upto_region 3 with fail
  obtain ⟨W1, hW1⟩ : ∃ W1, W.setCell ⟨B, 1, none⟩ (.int .i64 (((i : Int) + 1) % (n : Int))) = W1 := ⟨_, rfl⟩
  rw [hW1]
  have HB1 : Hid (Box W1 B [.slice (some ⟨g, 0, none⟩) n cv, .int .i64 (((i : Int) + 1) % (n : Int))]) := show Box _ _ _ by rw [← hW1]; exact HB.out.set 1 _
  have OW1 : Hid (OwnRow base W1 (.slice (some ⟨g, 0, none⟩) n cv) fs) := show OwnRow _ _ _ _ by rw [← hW1]; exact OW.out.setOther (fun g' hg' => by cases hg'; exact hBg) _
  have BL1 : Hid (Below b0 W W1) := show Below _ _ _ by rw [← hW1]; exact below_set (Below.refl _ _) h1 _
  clear hW1 e0 e1 ef eB u8 u9
  have e0 := HB1.out.c 0 rfl
  have u8 := OW1.out.frc HQ.out 8 rfl
  have u9 := OW1.out.frc HQ.out 9 rfl
  have HI : Hid (idle q = (decide (0 < q.r) && !q.u)) := rfl
  obtain ⟨r, HRR⟩ : ∃ r, Hid (q.r = r) := ⟨_, rfl⟩
  obtain ⟨u, HUU⟩ : ∃ u, Hid (q.u = u) := ⟨_, rfl⟩
  rw [HRR.out] at u8 HI
  rw [HUU.out] at u9 HI
  by_cases hr : 0 < r
  · cases u with
    | true => 
      have HF : Hid (idle q = false) := show _ = _ by rw [HI.out]; simp [hr]
      clear HI
      go_wp2_with (refine wpList_store_part rfl (.tmp 32) (.const (.bool false)) 4 rfl base (.slice (some ⟨g, 0, none⟩) n cv) fs OW1.out g i 9 rfl q (frU q) HQ.out [.bool false] (by kernel_rfl) rfl (Nat.le_of_ble_eq_true rfl) (by intro u hu; simp at hu; subst hu; rfl) _ rfl (by simp) _ rfl rfl ?_)
      intro W2 ow2 gr2 _
      have OW2 : Hid (OwnRow base W2 (.slice (some ⟨g, 0, none⟩) n cv) (fs.set i (frU q))) := ow2
      have HB2 : Hid (Box W2 B [.slice (some ⟨g, 0, none⟩) n cv, .int .i64 (((i : Int) + 1) % (n : Int))]) := HB1.out.beside gr2 (fun g' hg' => by cases hg'; exact hBg)
      have BL2 : Hid (Below b0 W W2) := Below.grown BL1.out gr2 (by have := Below.size BL1.out; omega) (fun g' hg' => by cases hg'; exact h2)
      clear ow2 gr2 u8 u9 e0
      go_wp2
      go_ret2
      exact ⟨by rw [HF.out]; rfl, by rw [← HMOD.out]; exact HB2.out, OW2.out, BL2.out⟩
    | false =>
      have HF : Hid (idle q = true) := show _ = _ by rw [HI.out]; simp [hr]
      clear HI
      go_wp2_with (refine wpList_store_part rfl (.tmp 32) (.const (.bool false)) 4 rfl base (.slice (some ⟨g, 0, none⟩) n cv) fs OW1.out g i 9 rfl q (frU q) HQ.out [.bool false] (by kernel_rfl) rfl (Nat.le_of_ble_eq_true rfl) (by intro u hu; simp at hu; subst hu; rfl) _ rfl (by simp) _ rfl rfl ?_)
      intro W2 ow2 gr2 _
      have OW2 : Hid (OwnRow base W2 (.slice (some ⟨g, 0, none⟩) n cv) (fs.set i (frU q))) := ow2
      have HB2 : Hid (Box W2 B [.slice (some ⟨g, 0, none⟩) n cv, .int .i64 (((i : Int) + 1) % (n : Int))]) := HB1.out.beside gr2 (fun g' hg' => by cases hg'; exact hBg)
      have BL2 : Hid (Below b0 W W2) := Below.grown BL1.out gr2 (by have := Below.size BL1.out; omega) (fun g' hg' => by cases hg'; exact h2)
      clear ow2 gr2 u8 u9 e0
      go_wp2
      go_ret2
      exact ⟨by rw [HF.out]; rfl, by rw [← HMOD.out]; exact HB2.out, OW2.out, BL2.out⟩
  ·
    have HF : Hid (idle q = false) := show _ = _ by rw [HI.out]; simp [hr]
    clear HI
    go_wp2_with (refine wpList_store_part rfl (.tmp 32) (.const (.bool false)) 4 rfl base (.slice (some ⟨g, 0, none⟩) n cv) fs OW1.out g i 9 rfl q (frU q) HQ.out [.bool false] (by kernel_rfl) rfl (Nat.le_of_ble_eq_true rfl) (by intro u hu; simp at hu; subst hu; rfl) _ rfl (by simp) _ rfl rfl ?_)
    intro W2 ow2 gr2 _
    have OW2 : Hid (OwnRow base W2 (.slice (some ⟨g, 0, none⟩) n cv) (fs.set i (frU q))) := ow2
    have HB2 : Hid (Box W2 B [.slice (some ⟨g, 0, none⟩) n cv, .int .i64 (((i : Int) + 1) % (n : Int))]) := HB1.out.beside gr2 (fun g' hg' => by cases hg'; exact hBg)
    have BL2 : Hid (Below b0 W W2) := Below.grown BL1.out gr2 (by have := Below.size BL1.out; omega) (fun g' hg' => by cases hg'; exact h2)
    clear ow2 gr2 u8 u9 e0
    go_wp2
    go_ret2
    exact ⟨by rw [HF.out]; rfl, by rw [← HMOD.out]; exact HB2.out, OW2.out, BL2.out⟩
end Go.Proofs.Ytbcaagmnmaonbab
