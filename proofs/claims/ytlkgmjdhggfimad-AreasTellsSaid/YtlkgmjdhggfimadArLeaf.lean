/- Contracts of wrongArea (package areas) and WrongArea (the document's answer). -/
import Derived.Test.YtlkgmjdhggfimadArData
namespace Go.Proofs.Ytlkgmjdhggfimad
open Go.RowKit

set_option maxRecDepth 100000 in
set_option maxHeartbeats 1000000 in
theorem wrongArea_any (a : Ar) (w : World) : Calls Try.prog 36 #[.agg #[.int .i64 a.fr, .int .i64 a.to, .bool a.rd, .bool a.wr, .bool a.sh, .int .i64 a.file, .int .i64 a.base]] w fun e w' => e = .returned (.int .i64 (arW a)) ∧ Grew w w' := by
  obtain ⟨fr, to, rd, wr, sh, file, base⟩ := a
  by_cases c1 : fr < 0
  · have hz : arW ⟨fr, to, rd, wr, sh, file, base⟩ = 3 := by unfold arW; simp only; rw [if_pos (by omega)]
    rw [hz]
    clear hz
    go_enter Try.func36, Try.ntmps36
    go_wp2
    go_ret
    exact ⟨rfl, grew_alloc _ _⟩
  by_cases c2 : to ≤ fr
  · have hz : arW ⟨fr, to, rd, wr, sh, file, base⟩ = 3 := by unfold arW; simp only; rw [if_pos (by omega)]
    rw [hz]
    clear hz
    go_enter Try.func36, Try.ntmps36
    go_wp2
    go_ret
    exact ⟨rfl, grew_alloc _ _⟩
  by_cases c3 : 64 < to
  · have hz : arW ⟨fr, to, rd, wr, sh, file, base⟩ = 3 := by unfold arW; simp only; rw [if_pos (by omega)]
    rw [hz]
    clear hz
    go_enter Try.func36, Try.ntmps36
    go_wp2
    go_ret
    exact ⟨rfl, grew_alloc _ _⟩
  by_cases c4 : file < -1
  · have hz : arW ⟨fr, to, rd, wr, sh, file, base⟩ = 3 := by unfold arW; simp only; rw [if_pos (by omega)]
    rw [hz]
    clear hz
    go_enter Try.func36, Try.ntmps36
    go_wp2
    go_ret
    exact ⟨rfl, grew_alloc _ _⟩
  by_cases c5 : 5 ≤ file
  · have hz : arW ⟨fr, to, rd, wr, sh, file, base⟩ = 3 := by unfold arW; simp only; rw [if_pos (by omega)]
    rw [hz]
    clear hz
    go_enter Try.func36, Try.ntmps36
    go_wp2
    go_ret
    exact ⟨rfl, grew_alloc _ _⟩
  by_cases c6 : base < 0
  · have hz : arW ⟨fr, to, rd, wr, sh, file, base⟩ = 3 := by unfold arW; simp only; rw [if_pos (by omega)]
    rw [hz]
    clear hz
    go_enter Try.func36, Try.ntmps36
    go_wp2
    go_ret
    exact ⟨rfl, grew_alloc _ _⟩
  have hn : ¬ (fr < 0 ∨ to ≤ fr ∨ 64 < to ∨ file < -1 ∨ 5 ≤ file ∨ base < 0) := by omega
  by_cases d1 : file < 0
  · by_cases d2 : base = 0
    · cases sh
      · have hz : arW ⟨fr, to, rd, wr, false, file, base⟩ = 0 := by unfold arW; simp only; rw [if_neg hn, if_pos d1, if_neg (by simp [d2])]
        rw [hz]
        clear hz
        have d2e : (base != 0) = false := by simp [d2]
        have d2g : ¬ 0 < base := by omega
        clear d2 hn
        go_enter Try.func36, Try.ntmps36
        go_wp2
        go_ret
        exact ⟨rfl, grew_alloc _ _⟩
      · have hz : arW ⟨fr, to, rd, wr, true, file, base⟩ = 7 := by unfold arW; simp only; rw [if_neg hn, if_pos d1, if_pos (by simp)]
        rw [hz]
        clear hz
        have d2e : (base != 0) = false := by simp [d2]
        have d2g : ¬ 0 < base := by omega
        clear d2 hn
        go_enter Try.func36, Try.ntmps36
        go_wp2
        go_ret
        exact ⟨rfl, grew_alloc _ _⟩
    · have hz : arW ⟨fr, to, rd, wr, sh, file, base⟩ = 7 := by unfold arW; simp only; rw [if_neg hn, if_pos d1, if_pos (by simp [d2])]
      rw [hz]
      clear hz
      have d2e : (base != 0) = true := by simp [d2]
      have d2g : 0 < base := by omega
      clear d2 hn
      go_enter Try.func36, Try.ntmps36
      go_wp2
      go_ret
      exact ⟨rfl, grew_alloc _ _⟩
  · by_cases d2 : 12 - (to - fr) < base
    · have hz : arW ⟨fr, to, rd, wr, sh, file, base⟩ = 7 := by unfold arW; simp only; rw [if_neg hn, if_neg d1, if_pos d2]
      rw [hz]
      clear hz
      clear hn
      go_enter Try.func36, Try.ntmps36
      go_wp2
      go_ret
      exact ⟨rfl, grew_alloc _ _⟩
    · have hz : arW ⟨fr, to, rd, wr, sh, file, base⟩ = 0 := by unfold arW; simp only; rw [if_neg hn, if_neg d1, if_neg d2]
      rw [hz]
      clear hz
      clear hn
      go_enter Try.func36, Try.ntmps36
      go_wp2
      go_ret
      exact ⟨rfl, grew_alloc _ _⟩

set_option maxRecDepth 100000 in
set_option maxHeartbeats 1000000 in
theorem refWrongArea_any (a : Ar) (w : World) : Calls Try.prog 38 #[.agg #[.int .i64 a.fr, .int .i64 a.to, .bool a.rd, .bool a.wr, .bool a.sh, .int .i64 a.file, .int .i64 a.base]] w fun e w' => e = .returned (.int .i64 (arW a)) ∧ Grew w w' := by
  obtain ⟨fr, to, rd, wr, sh, file, base⟩ := a
  by_cases c1 : fr < 0
  · have hz : arW ⟨fr, to, rd, wr, sh, file, base⟩ = 3 := by unfold arW; simp only; rw [if_pos (by omega)]
    rw [hz]
    clear hz
    go_enter Try.func38, Try.ntmps38
    go_wp2
    go_ret
    exact ⟨rfl, grew_alloc _ _⟩
  by_cases c3 : 64 < to
  · have hz : arW ⟨fr, to, rd, wr, sh, file, base⟩ = 3 := by unfold arW; simp only; rw [if_pos (by omega)]
    rw [hz]
    clear hz
    go_enter Try.func38, Try.ntmps38
    go_wp2
    go_ret
    exact ⟨rfl, grew_alloc _ _⟩
  by_cases c2 : to ≤ fr
  · have hz : arW ⟨fr, to, rd, wr, sh, file, base⟩ = 3 := by unfold arW; simp only; rw [if_pos (by omega)]
    rw [hz]
    clear hz
    go_enter Try.func38, Try.ntmps38
    go_wp2
    go_ret
    exact ⟨rfl, grew_alloc _ _⟩
  by_cases c4 : file < -1
  · have hz : arW ⟨fr, to, rd, wr, sh, file, base⟩ = 3 := by unfold arW; simp only; rw [if_pos (by omega)]
    rw [hz]
    clear hz
    go_enter Try.func38, Try.ntmps38
    go_wp2
    go_ret
    exact ⟨rfl, grew_alloc _ _⟩
  by_cases c5 : 4 < file
  · have hz : arW ⟨fr, to, rd, wr, sh, file, base⟩ = 3 := by unfold arW; simp only; rw [if_pos (by omega)]
    rw [hz]
    clear hz
    go_enter Try.func38, Try.ntmps38
    go_wp2
    go_ret
    exact ⟨rfl, grew_alloc _ _⟩
  by_cases c6 : base < 0
  · have hz : arW ⟨fr, to, rd, wr, sh, file, base⟩ = 3 := by unfold arW; simp only; rw [if_pos (by omega)]
    rw [hz]
    clear hz
    go_enter Try.func38, Try.ntmps38
    go_wp2
    go_ret
    exact ⟨rfl, grew_alloc _ _⟩
  have hn : ¬ (fr < 0 ∨ to ≤ fr ∨ 64 < to ∨ file < -1 ∨ 5 ≤ file ∨ base < 0) := by omega
  by_cases d1 : file < 0
  · by_cases d2 : base = 0
    · cases sh
      · have hz : arW ⟨fr, to, rd, wr, false, file, base⟩ = 0 := by unfold arW; simp only; rw [if_neg hn, if_pos d1, if_neg (by simp [d2])]
        rw [hz]
        clear hz
        have d1e : (file == -1) = true := by simp; omega
        have d1n : ¬ 0 ≤ file := by omega
        have d2e : (base != 0) = false := by simp [d2]
        have d2g : ¬ 0 < base := by omega
        clear d2 hn
        go_enter Try.func38, Try.ntmps38
        go_wp2
        go_ret
        exact ⟨rfl, grew_alloc _ _⟩
      · have hz : arW ⟨fr, to, rd, wr, true, file, base⟩ = 7 := by unfold arW; simp only; rw [if_neg hn, if_pos d1, if_pos (by simp)]
        rw [hz]
        clear hz
        have d1e : (file == -1) = true := by simp; omega
        have d1n : ¬ 0 ≤ file := by omega
        have d2e : (base != 0) = false := by simp [d2]
        have d2g : ¬ 0 < base := by omega
        clear d2 hn
        go_enter Try.func38, Try.ntmps38
        go_wp2
        go_ret
        exact ⟨rfl, grew_alloc _ _⟩
    · have hz : arW ⟨fr, to, rd, wr, sh, file, base⟩ = 7 := by unfold arW; simp only; rw [if_neg hn, if_pos d1, if_pos (by simp [d2])]
      rw [hz]
      clear hz
      have d1e : (file == -1) = true := by simp; omega
      have d1n : ¬ 0 ≤ file := by omega
      have d2e : (base != 0) = true := by simp [d2]
      have d2g : 0 < base := by omega
      clear d2 hn
      go_enter Try.func38, Try.ntmps38
      go_wp2
      go_ret
      exact ⟨rfl, grew_alloc _ _⟩
  · by_cases d2 : 12 - (to - fr) < base
    · have hz : arW ⟨fr, to, rd, wr, sh, file, base⟩ = 7 := by unfold arW; simp only; rw [if_neg hn, if_neg d1, if_pos d2]
      rw [hz]
      clear hz
      have d1e : (file == -1) = false := by simp; omega
      have d1n : 0 ≤ file := by omega
      clear hn
      go_enter Try.func38, Try.ntmps38
      go_wp2
      go_ret
      exact ⟨rfl, grew_alloc _ _⟩
    · have hz : arW ⟨fr, to, rd, wr, sh, file, base⟩ = 0 := by unfold arW; simp only; rw [if_neg hn, if_neg d1, if_neg d2]
      rw [hz]
      clear hz
      have d1e : (file == -1) = false := by simp; omega
      have d1n : 0 ≤ file := by omega
      clear hn
      go_enter Try.func38, Try.ntmps38
      go_wp2
      go_ret
      exact ⟨rfl, grew_alloc _ _⟩

end Go.Proofs.Ytlkgmjdhggfimad
