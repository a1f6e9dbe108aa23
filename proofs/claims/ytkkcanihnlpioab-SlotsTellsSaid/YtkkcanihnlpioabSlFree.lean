/- Contracts: how many slots are free; the first that is; a copy (package slots). -/
import Derived.Test.YtkkcanihnlpioabSlWrong
namespace Go.Proofs.Ytkkcanihnlpioab
open Go.RowKit

def isZ (z : Int) : Bool := z == 0
/-- How many are free. -/
def freeS (s : List Int) : Nat := s.countP isZ

theorem freeS_step {fs : List Int} {k : Nat} {q : Int} (h : fs[k]? = some q) : freeS (fs.take (k + 1)) = freeS (fs.take k) + if q = 0 then 1 else 0 := by
  obtain ⟨hlt, rfl⟩ := List.getElem?_eq_some_iff.1 h
  rw [List.take_succ_eq_append_getElem hlt]
  unfold freeS
  rw [List.countP_append, List.countP_cons, List.countP_nil]
  simp [isZ]

set_option maxRecDepth 100000 in
set_option maxHeartbeats 1000000 in
theorem freeS_any (a : Option Addr) (c : Nat) (fs : List Int) (w : World) (hv : RowAt slE w (.slice a fs.length c) fs) :
    Calls Try.prog 28 #[.slice a fs.length c] w fun e w' => e = .returned (.int .i64 (freeS fs)) ∧ Grew w w' := by
  have hbig := hv.short
  obtain ⟨a', c', heq, hrow⟩ := hv.sls
  cases heq
  have HR : Hid (SlRows w a fs) := hrow
  clear hrow hv
  obtain ⟨n, HN⟩ : ∃ n, Hid (fs.length = n) := ⟨_, rfl⟩
  rw [HN.out] at hbig ⊢
  go_enter Try.func28, Try.ntmps28
  go_wp2
  go_loopg [3, 5, 8] n (fun gg s3 _ s9 wr => ∃ (kk m : Nat), kk ≤ n ∧ n - kk ≤ gg ∧ m ≤ kk ∧ s9 = .int .i64 kk ∧ s3 = .int .i64 m ∧ Hid (Grew w wr) ∧ Hid (freeS (fs.take kk) = m))
  case atStart => exact ⟨0, 0, Nat.zero_le _, by omega, Nat.le_refl _, rfl, rfl, Grew.refl _, rfl⟩
  case round =>
    obtain ⟨kk, m, hkk, hg, hm, rfl, rfl, BW, A⟩ := hrel
    by_cases hlt : kk < n
    · have hltz : (kk : Int) < (n : Int) := by omega
      obtain ⟨q, HQ⟩ : ∃ q, Hid (fs[kk]? = some q) := ⟨_, List.getElem?_eq_getElem (by rw [HN.out]; exact hlt)⟩
      obtain ⟨ad, rfl, hl⟩ := HR.out kk q HQ.out
      have d0 := hl wr BW.out
      have HST : Hid (freeS (fs.take (kk + 1)) = freeS (fs.take kk) + if q = 0 then 1 else 0) := freeS_step HQ.out
      clear hl
      by_cases hz : q = 0
      · have HA : Hid (freeS (fs.take (kk + 1)) = m + 1) := show _ = _ by rw [HST.out, A.out, if_pos hz]
        have hzb : (q == 0) = true := by simp [hz]
        have HZ : Hid (q = 0) := hz
        clear HST hz
        go_wp2
        go_roundg (n - (kk + 1))
        case measure => omega
        case rel => exact ⟨kk + 1, m + 1, by omega, by omega, by omega, by go_num, by go_num, BW.out, HA.out⟩
      · have HA : Hid (freeS (fs.take (kk + 1)) = m) := show _ = _ by rw [HST.out, A.out, if_neg hz]; rfl
        have hzb : (q == 0) = false := by simp [hz]
        clear HST
        go_wp2
        go_roundg (n - (kk + 1))
        case measure => omega
        case rel => exact ⟨kk + 1, m, by omega, by omega, by omega, by go_num, rfl, BW.out, HA.out⟩
    · have hltz : ¬ (kk : Int) < (n : Int) := by omega
      have : kk = n := by omega
      subst this
      have HA : Hid (freeS fs = m) := show _ = _ by rw [← A.out, List.take_of_length_le (by rw [HN.out]; exact Nat.le_refl _)]
      clear A
      go_wp2
      go_ret
      exact ⟨by rw [HA.out]; rfl, BW.out⟩

/-- The number of the first one that is free; -1 if none is. -/
def idxS (fs : List Int) : Int := if fs.findIdx isZ < fs.length then (fs.findIdx isZ : Int) else -1

set_option maxRecDepth 100000 in
set_option maxHeartbeats 1000000 in
theorem indexS_any (v : Value) (fs : List Int) (w : World) (hv : RowAt slE w v fs) :
    Calls Try.prog 53 #[v, .int .i64 0] w fun e w' => e = .returned (.int .i64 (idxS fs)) ∧ Grew w w' := by
  have hbig := hv.short
  obtain ⟨a, c, rfl, hrow⟩ := hv.sls
  have HR : Hid (SlRows w a fs) := hrow
  clear hrow hv
  obtain ⟨n, HN⟩ : ∃ n, Hid (fs.length = n) := ⟨_, rfl⟩
  rw [HN.out] at hbig ⊢
  go_enter Try.func53, Try.ntmps53
  go_wp2
  go_loopg [5, 8] n (fun gg _ s8 wr => ∃ kk : Nat, kk ≤ n ∧ n - kk ≤ gg ∧ s8 = .int .i64 kk ∧ Hid (Grew w wr) ∧ Hid (∀ j q, j < kk → fs[j]? = some q → isZ q = false))
  case atStart => exact ⟨0, Nat.zero_le _, by omega, rfl, Grew.refl w, fun j q hj => absurd hj (Nat.not_lt_zero _)⟩
  case round =>
    obtain ⟨kk, hkk, hg, rfl, BW, A⟩ := hrel
    by_cases hlt : kk < n
    · have hltz : (kk : Int) < (n : Int) := by omega
      obtain ⟨q, HQ⟩ : ∃ q, Hid (fs[kk]? = some q) := ⟨_, List.getElem?_eq_getElem (by rw [HN.out]; exact hlt)⟩
      obtain ⟨ad, rfl, hl⟩ := HR.out kk q HQ.out
      have d0 := hl wr BW.out
      clear hl
      by_cases hz : q = 0
      · have HF : Hid (idxS fs = (kk : Int)) := show _ = _ by unfold idxS; rw [first_at HQ.out (by simp [isZ, hz]) A.out, HN.out, if_pos hlt]
        have hzb : (q == 0) = true := by simp [hz]
        have hzb' : ((0 : Int) == q) = true := by simp [hz]
        clear hz A
        go_wp2
        go_ret
        exact ⟨by rw [HF.out]; rfl, BW.out⟩
      · have HA : Hid (∀ (j : Nat) q, j < kk + 1 → fs[j]? = some q → isZ q = false) := show ∀ (j : Nat) q, _ from fun j q' hj hq' => by
          by_cases e : j = kk
          · subst e
            rw [HQ.out] at hq'
            cases hq'
            simpa [isZ] using hz
          · exact A.out j q' (by omega) hq'
        have hzb : (q == 0) = false := by simp [hz]
        have hzb' : ((0 : Int) == q) = false := by simp; omega
        clear hz A
        go_wp2
        go_roundg (n - (kk + 1))
        case measure => omega
        case rel => exact ⟨kk + 1, by omega, by omega, by go_num, BW.out, HA.out⟩
    · have hltz : ¬ (kk : Int) < (n : Int) := by omega
      have : kk = n := by omega
      subst this
      have HF : Hid (idxS fs = -1) := show _ = _ by
        unfold idxS
        rw [first_no (fun j q hj => A.out j q (by rw [← HN.out]; exact (List.getElem?_eq_some_iff.1 hj).1) hj), if_neg (Nat.lt_irrefl _)]
      go_wp2
      go_ret
      exact ⟨by rw [HF.out]; rfl, BW.out⟩

set_option maxHeartbeats 1000000 in
theorem cloneS_any (v : Value) (fs : List Int) (w : World) (hv : RowAt slE w v fs) :
    Calls Try.prog 54 #[v] w fun e w' => ∃ v', e = .returned v' ∧ OwnRow slE w.heap.size w' v' fs ∧ Grew w w' := by
  have HV : Hid (RowAt slE w v fs) := hv
  obtain ⟨⟨a, c, rfl, hnone, hcells⟩, hbytes⟩ := hv
  have q22 : ∀ (w : World) (a : Option Addr) (n c n' c' : Nat), (binOp .eql 58 (.slice a n c) (.slice none n' c')).run Try.prog w = .ok (.bool a.isNone) w := fun w a n c n' c' => Lib.run_eql_slice_nil w _ _ a n c n' c' Try.underlying58
  cases a with
  | none =>
    have hps := hnone rfl
    subst hps
    clear hcells hnone hbytes HV
    go_enter Try.func54, Try.ntmps54
    go_wp2
    go_ret
    exact ⟨_, rfl, OwnRow.nil _ _ _, Grew.refl w⟩
  | some x =>
    have HB : Hid (fs.length * 8 ≤ 140737488355328) := hbytes
    clear hcells hnone hbytes
    go_enter Try.func54, Try.ntmps54
    go_wp2_with (at_builtin; refine wpList_append_row (E := slE) rfl (.tmp 5) (.tmp 6) rfl w.heap.size _ [] rfl (OwnRow.made slE w) _ fs rfl (HV.out.grew (grew_alloc _ _)) ?qb (by simp) ?_)
    case qb => rw [List.length_nil, Nat.zero_add]; exact HB.out
    intro v' w1 hown hgrow
    go_wp2
    go_ret
    exact ⟨v', rfl, by simpa using hown, ((Below.refl _ w).alloc (Nat.le_refl _) _).grown hgrow (by simp) (by intro k hk; simp [Value.ownBlock] at hk; omega)⟩

end Go.Proofs.Ytkkcanihnlpioab
