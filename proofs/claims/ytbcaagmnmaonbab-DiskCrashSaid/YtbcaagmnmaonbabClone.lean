/- Contracts: slices.Clone of pages, and of what waits: the same elements, in new memory. -/
import Derived.Test.YtbcaagmnmaonbabWrongDisk
import Derived.Lib.Walk
import Derived.Lib.SliceRun
namespace Go.Proofs.Ytbcaagmnmaonbab
open Go.RowKit

theorem Try.infoPage : (Try.prog.info? 31).map (fun i => (i.zero, i.size, i.bytes)) = some (some (.agg #[.int .u8 0, .int .u8 0, .int .u8 0, .int .u8 0, .int .u8 0, .int .u8 0, .int .u8 0, .int .u8 0]), 8, 8) := by kernel_rfl
theorem Try.infoPut : (Try.prog.info? 35).map (fun i => (i.zero, i.size, i.bytes)) = some (some (.agg #[.int .i64 0, .int .u8 0, .int .u8 0, .int .u8 0, .int .u8 0, .int .u8 0, .int .u8 0, .int .u8 0, .int .u8 0]), 9, 16) := by kernel_rfl

theorem flatMap_one {α : Type} {enc : α → List Value} (h : ∀ a, ∀ u ∈ enc a, u.oneCell' = true) (l : List α) : ∀ u ∈ l.flatMap enc, u.oneCell' = true := fun u hu => by
  obtain ⟨a, _, ha⟩ := List.mem_flatMap.1 hu
  exact h a u ha

theorem maxLen_of {n : Nat} (h : n ≤ 140737488355328) : n ≤ maxLen := by simp [maxLen]; omega

set_option maxHeartbeats 1000000 in
theorem clonePages_any (v : Value) (ps : List (List Int)) (w : World) (hv : PagesAt w v ps) :
    Calls Try.prog 46 #[v] w fun e w' => ∃ v', e = .returned v' ∧ OwnPages w.heap.size w' v' ps ∧ Grew w w' := by
  obtain ⟨⟨a, c, rfl, hnone, hcells⟩, h8, hbytes⟩ := hv
  have q22 : ∀ (w : World) (a : Option Addr) (n c n' c' : Nat), (binOp .eql 22 (.slice a n c) (.slice none n' c')).run Try.prog w = .ok (.bool a.isNone) w := fun w a n c n' c' => Lib.run_eql_slice_nil w _ _ a n c n' c' Try.underlying22
  cases a with
  | none =>
    have hps := hnone rfl
    subst hps
    clear hcells hnone h8 hbytes
    go_enter Try.func46, Try.ntmps46
    go_wp2
    go_ret
    exact ⟨_, rfl, ⟨World.ownsRow_nil _ _ _ _, by simp, by simp⟩, Grew.refl w⟩
  | some x =>
    have A := hcells x rfl
    have HA : Hid (Cells w x (ps.flatMap pgc)) := A
    have HB : Hid (ps.length * 8 ≤ 140737488355328) := hbytes
    have H8 : Hid (∀ p ∈ ps, p.length = 8) := h8
    clear A hcells hnone hbytes h8
    obtain ⟨i0, hi, hz0, hz1, hz2⟩ := info_parts Try.infoPage
    go_enter Try.func46, Try.ntmps46
    go_wp2_with (at_builtin; refine wpList_append_own _ rfl _ _ 22 rfl w.heap.size 31 i0 _ 8 8 Try.underlying22 hi hz0 hz1 hz2 rfl (by decide) _ _ _ rfl (World.ownsRow_made w #[] 0 (Nat.le_refl _) (Nat.zero_le _) (by simp)) x ps.length c (ps.flatMap pgc) rfl ?qc1 ?qc2 ?qc3 ?qc4 ?qc5 ?qc6 ?_)
    case qc1 => exact flatMap_len ps fun p hp => by rw [pgc_len, H8.out p hp]
    case qc2 => exact HA.out.grew (grew_alloc _ _)
    case qc3 => exact flatMap_one pgc_one ps
    case qc4 => rw [Nat.zero_add]; exact maxLen_of (by have := HB.out; omega)
    case qc5 => rw [Nat.zero_add]; exact HB.out
    case qc6 => simp
    intro v' w1 hown hgrow hnil
    go_wp2
    go_ret
    exact ⟨v', rfl, ⟨by simpa using hown, H8.out, HB.out⟩, ((Below.refl _ w).alloc (Nat.le_refl _) _).grown hgrow (by simp) (by intro k hk; simp [Value.ownBlock] at hk; omega)⟩

set_option maxHeartbeats 1000000 in
theorem clonePuts_any (v : Value) (qs : List (Int × List Int)) (w : World) (hv : PutsAt w v qs) :
    Calls Try.prog 49 #[v] w fun e w' => ∃ v', e = .returned v' ∧ OwnPuts w.heap.size w' v' qs ∧ Grew w w' := by
  obtain ⟨⟨a, c, rfl, hnone, hcells⟩, h8, hbytes⟩ := hv
  have q22 : ∀ (w : World) (a : Option Addr) (n c n' c' : Nat), (binOp .eql 23 (.slice a n c) (.slice none n' c')).run Try.prog w = .ok (.bool a.isNone) w := fun w a n c n' c' => Lib.run_eql_slice_nil w _ _ a n c n' c' Try.underlying23
  cases a with
  | none =>
    have hps := hnone rfl
    subst hps
    clear hcells hnone h8 hbytes
    go_enter Try.func49, Try.ntmps49
    go_wp2
    go_ret
    exact ⟨_, rfl, ⟨World.ownsRow_nil _ _ _ _, by simp, by simp⟩, Grew.refl w⟩
  | some x =>
    have A := hcells x rfl
    have HA : Hid (Cells w x (qs.flatMap ptc)) := A
    have HB : Hid (qs.length * 16 ≤ 140737488355328) := hbytes
    have H8 : Hid (∀ q ∈ qs, q.2.length = 8) := h8
    clear A hcells hnone hbytes h8
    obtain ⟨i0, hi, hz0, hz1, hz2⟩ := info_parts Try.infoPut
    go_enter Try.func49, Try.ntmps49
    go_wp2_with (at_builtin; refine wpList_append_own _ rfl _ _ 23 rfl w.heap.size 35 i0 _ 9 16 Try.underlying23 hi hz0 hz1 hz2 rfl (by decide) _ _ _ rfl (World.ownsRow_made w #[] 0 (Nat.le_refl _) (Nat.zero_le _) (by simp)) x qs.length c (qs.flatMap ptc) rfl ?qc1 ?qc2 ?qc3 ?qc4 ?qc5 ?qc6 ?_)
    case qc1 => exact flatMap_len qs fun p hp => by rw [ptc_len, H8.out p hp]
    case qc2 => exact HA.out.grew (grew_alloc _ _)
    case qc3 => exact flatMap_one ptc_one qs
    case qc4 => rw [Nat.zero_add]; exact maxLen_of (by have := HB.out; omega)
    case qc5 => rw [Nat.zero_add]; exact HB.out
    case qc6 => simp
    intro v' w1 hown hgrow hnil
    go_wp2
    go_ret
    exact ⟨v', rfl, ⟨by simpa using hown, H8.out, HB.out⟩, ((Below.refl _ w).alloc (Nat.le_refl _) _).grown hgrow (by simp) (by intro k hk; simp [Value.ownBlock] at hk; omega)⟩

end Go.Proofs.Ytbcaagmnmaonbab
