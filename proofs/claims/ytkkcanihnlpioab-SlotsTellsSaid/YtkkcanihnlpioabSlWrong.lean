/- Contracts: what is wrong with slots (package slots). -/
import Derived.Test.YtkkcanihnlpioabSlData
import Derived.BigQuiet
import Derived.WalkSmall
import Derived.Deep.Cut
namespace Go.Proofs.Ytkkcanihnlpioab
open Go.RowKit

def badS (z : Int) : Bool := decide (z < 0) || decide (1000 < z)
/-- What is wrong with slots. -/
def slW (s : List Int) : Int := if 60 < s.length then 4 else if s.any badS then 3 else 0

theorem wrong1_any (z : Int) (w : World) :
    Calls Try.prog 52 #[.int .i64 z] w fun e w' => e = .returned (.bool (badS z)) ∧ Grew w w' := by
  by_cases h0 : z < 0
  · have HF : Hid (badS z = true) := show _ = _ by simp [badS, h0]
    go_enter Try.func52, Try.ntmps52
    go_wp2
    go_ret
    exact ⟨by rw [HF.out]; rfl, Grew.refl _⟩
  · by_cases h1 : 1000 < z
    · have HF : Hid (badS z = true) := show _ = _ by simp [badS, h1]
      go_enter Try.func52, Try.ntmps52
      go_wp2
      go_ret
      exact ⟨by rw [HF.out]; rfl, Grew.refl _⟩
    · have HF : Hid (badS z = false) := show _ = _ by simp [badS]; omega
      go_enter Try.func52, Try.ntmps52
      go_wp2
      go_ret
      exact ⟨by rw [HF.out]; rfl, Grew.refl _⟩

theorem first_at {p : Int → Bool} {fs : List Int} {k : Nat} {q : Int} (h : fs[k]? = some q) (hq : p q = true) (hb : ∀ (j : Nat) x, j < k → fs[j]? = some x → p x = false) : fs.findIdx p = k := by
  obtain ⟨hlt, rfl⟩ := List.getElem?_eq_some_iff.1 h
  refine (List.findIdx_eq hlt).2 ⟨hq, fun j hj => ?_⟩
  exact hb j _ hj (List.getElem?_eq_getElem (by omega))

theorem first_no {p : Int → Bool} {fs : List Int} (hb : ∀ (j : Nat) x, fs[j]? = some x → p x = false) : fs.findIdx p = fs.length := by
  refine List.findIdx_eq_length.2 fun x hx => ?_
  obtain ⟨j, hj⟩ := List.getElem?_of_mem hx
  exact hb j x hj

theorem any_at {p : Int → Bool} {fs : List Int} {k : Nat} {q : Int} (h : fs[k]? = some q) (hq : p q = true) : fs.any p = true := List.any_eq_true.2 ⟨q, List.mem_of_getElem? h, hq⟩
theorem any_no {p : Int → Bool} {fs : List Int} (hb : ∀ (j : Nat) x, fs[j]? = some x → p x = false) : fs.any p = false := List.any_eq_false.2 fun x hx => by
  obtain ⟨j, hj⟩ := List.getElem?_of_mem hx
  rw [hb j x hj]
  decide

set_option maxRecDepth 100000 in
set_option maxHeartbeats 1000000 in
theorem indexBad_any (v : Value) (fs : List Int) (w : World) (hv : RowAt slE w v fs) :
    Calls Try.prog 64 #[v, .func (.func 52) #[] #[]] w fun e w' => (∃ z : Int, e = .returned (.int .i64 z) ∧ decide (0 ≤ z) = fs.any badS) ∧ Grew w w' := by
  have hbig := hv.short
  obtain ⟨a, c, rfl, hrow⟩ := hv.sls
  have HR : Hid (SlRows w a fs) := hrow
  have eg := enters_of Try.func52 (by kernel_rfl) rfl
  clear hrow hv
  obtain ⟨n, HN⟩ : ∃ n, Hid (fs.length = n) := ⟨_, rfl⟩
  rw [HN.out] at hbig ⊢
  go_enter Try.func64, Try.ntmps64
  go_wp2
  go_loopg [5, 8] n (fun gg _ s8 wr => ∃ kk : Nat, kk ≤ n ∧ n - kk ≤ gg ∧ s8 = .int .i64 kk ∧ Hid (Grew w wr) ∧ Hid (∀ j q, j < kk → fs[j]? = some q → badS q = false))
  case atStart => exact ⟨0, Nat.zero_le _, by omega, rfl, Grew.refl w, fun j q hj => absurd hj (Nat.not_lt_zero _)⟩
  case round =>
    obtain ⟨kk, hkk, hg, rfl, BW, A⟩ := hrel
    by_cases hlt : kk < n
    · have hltz : (kk : Int) < (n : Int) := by omega
      obtain ⟨q, HQ⟩ : ∃ q, Hid (fs[kk]? = some q) := ⟨_, List.getElem?_eq_getElem (by rw [HN.out]; exact hlt)⟩
      obtain ⟨ad, rfl, hl⟩ := HR.out kk q HQ.out
      have d0 := hl wr BW.out
      have hcall : Calls Try.prog 52 #[.int .i64 q] wr fun e w' => e = .returned (.bool (badS q)) ∧ Grew wr w' := wrong1_any q wr
      clear hl
      cases hq : badS q with
      | true =>
        rw [hq] at hcall
        have HF : Hid (decide (0 ≤ (kk : Int)) = fs.any badS) := show _ = _ by rw [any_at HQ.out hq]; simp
        clear hq
        go_wp2_with (go_at_call 52; refine hcall.mono ?_; rintro e w' ⟨rfl, hb'⟩)
        go_ret
        exact ⟨⟨_, rfl, HF.out⟩, BW.out.trans hb'⟩
      | false =>
        rw [hq] at hcall
        have HA : Hid (∀ (j : Nat) q, j < kk + 1 → fs[j]? = some q → badS q = false) := show ∀ (j : Nat) q, _ from fun j q' hj hq' => by
          by_cases e : j = kk
          · subst e
            rw [HQ.out] at hq'
            cases hq'
            exact hq
          · exact A.out j q' (by omega) hq'
        clear hq
        go_wp2_with (go_at_call 52; refine hcall.mono ?_; rintro e w' ⟨rfl, hb'⟩)
        go_roundg (n - (kk + 1))
        case measure => omega
        case rel => exact ⟨kk + 1, by omega, by omega, by go_num, BW.out.trans hb', HA.out⟩
    · have hltz : ¬ (kk : Int) < (n : Int) := by omega
      have : kk = n := by omega
      subst this
      have HF : Hid (decide (0 ≤ (-1 : Int)) = fs.any badS) := show _ = _ by
        rw [any_no (fun j q hj => A.out j q (by rw [← HN.out]; exact (List.getElem?_eq_some_iff.1 hj).1) hj)]
        rfl
      go_wp2
      go_ret
      exact ⟨⟨_, rfl, HF.out⟩, BW.out⟩

set_option maxHeartbeats 1000000 in
theorem anyBad_any (v : Value) (fs : List Int) (w : World) (hv : RowAt slE w v fs) :
    Calls Try.prog 51 #[v, .func (.func 52) #[] #[]] w fun e w' => e = .returned (.bool (fs.any badS)) ∧ Grew w w' := by
  have h1 := indexBad_any v fs w hv
  obtain ⟨a, c, rfl, _⟩ := hv.sls
  clear hv
  generalize fs.any badS = bb at h1 ⊢
  go_enter Try.func51, Try.ntmps51
  go_wp2_with fail
  refine h1.mono ?_
  rintro e W1 ⟨⟨z, rfl, hz⟩, g1⟩
  have G1 : Hid (Grew w W1) := g1
  have HF : Hid (decide (0 ≤ z) = bb) := hz
  clear g1 hz h1
  go_wp2
  go_ret
  exact ⟨by rw [HF.out]; rfl, G1.out⟩

set_option maxHeartbeats 1000000 in
theorem wrongS_any (a : Option Addr) (c : Nat) (s : List Int) (w : World) (hv : RowAt slE w (.slice a s.length c) s) :
    Calls Try.prog 26 #[.slice a s.length c] w fun e w' => e = .returned (.int .i64 (slW s)) ∧ Grew w w' := by
  have h1 := anyBad_any _ s w hv
  have HM : Hid (slW s = if 60 < s.length then 4 else if s.any badS then 3 else 0) := rfl
  have hbig := hv.short
  obtain ⟨n, HN⟩ : ∃ n, Hid (s.length = n) := ⟨_, rfl⟩
  rw [HN.out] at h1 HM hbig ⊢
  clear hv
  generalize s.any badS = bb at h1 HM
  by_cases h60 : 60 < n
  · have h60z : (60 : Int) < (n : Int) := by omega
    have HF : Hid (slW s = 4) := show _ = _ by rw [HM.out, if_pos h60]
    clear HM h1
    go_enter Try.func26, Try.ntmps26
    go_wp2
    go_ret
    exact ⟨by rw [HF.out]; rfl, Grew.refl _⟩
  · have h60z : ¬ (60 : Int) < (n : Int) := by omega
    rw [if_neg h60] at HM
    cases bb with
    | true =>
      have HF : Hid (slW s = 3) := HM.out
      clear HM
      go_enter Try.func26, Try.ntmps26
      go_wp2_with fail
      refine h1.mono ?_
      rintro e W1 ⟨rfl, g1⟩
      have G1 : Hid (Grew w W1) := g1
      clear g1 h1
      go_wp2
      go_ret
      exact ⟨by rw [HF.out]; rfl, G1.out⟩
    | false =>
      have HF : Hid (slW s = 0) := HM.out
      clear HM
      go_enter Try.func26, Try.ntmps26
      go_wp2_with fail
      refine h1.mono ?_
      rintro e W1 ⟨rfl, g1⟩
      have G1 : Hid (Grew w W1) := g1
      clear g1 h1
      go_wp2
      go_ret
      exact ⟨by rw [HF.out]; rfl, G1.out⟩

end Go.Proofs.Ytkkcanihnlpioab
