/- Contracts: whether a number is of a block; what is wrong with a disk (package disk, and the document's answer). -/
import Derived.Test.YtbcaagmnmaonbabMem
import Derived.Shelf.Abstract
namespace Go.Proofs.Ytbcaagmnmaonbab
open Go.RowKit

/-- Whether at is one of n blocks. -/
def inB (at_ : Int) (n : Nat) : Bool := decide (0 ≤ at_) && decide (at_ < n)

theorem hasBlock_any (a : Option Addr) (n c : Nat) (q : Value) (m : Int) (w : World) :
    Calls Try.prog 45 #[.agg #[.slice a n c, q], .int .i64 m] w fun e w' => e = .returned (.bool (inB m n)) ∧ Grew w w' := by
  have H : Hid (inB m n = (decide (0 ≤ m) && decide (m < n))) := rfl
  by_cases h0 : 0 ≤ m
  · by_cases h1 : m < n
    · go_enter Try.func45, Try.ntmps45
      go_wp2
      go_ret
      exact ⟨by rw [H.out]; simp [*], (Below.refl _ _).alloc (Nat.le_refl _) _⟩
    · go_enter Try.func45, Try.ntmps45
      go_wp2
      go_ret
      exact ⟨by rw [H.out]; simp [*], (Below.refl _ _).alloc (Nat.le_refl _) _⟩
  · go_enter Try.func45, Try.ntmps45
    go_wp2
    go_ret
    exact ⟨by rw [H.out]; simp; omega, (Below.refl _ _).alloc (Nat.le_refl _) _⟩

/-- The closure of Wrong: the disk lies in the cells of block B. -/
theorem wrong1_any (a : Option Addr) (n c : Nat) (qv : Value) (B : Nat) (q : Int × List Int) (hq : q.2.length = 8) (w : World) (hc0 : w.cell? ⟨B, 0, none⟩ = some (.slice a n c)) (hc1 : w.cell? ⟨B, 1, none⟩ = some qv) :
    Calls Try.prog 44 #[.agg (ptc q).toArray, .pointer (some ⟨B, 0, none⟩)] w fun e w' => e = .returned (.bool (!inB q.1 n)) ∧ Grew w w' := by
  obtain ⟨m, l⟩ := q
  obtain ⟨b0, b1, b2, b3, b4, b5, b6, b7, rfl⟩ := len8 l hq
  have hB := World.block_lt_of_cell? _ _ hc0
  have hne : B ≠ w.heap.size := by simp at hB; omega
  show Calls Try.prog 44 #[.agg #[.int .i64 m, .int .u8 b0, .int .u8 b1, .int .u8 b2, .int .u8 b3, .int .u8 b4, .int .u8 b5, .int .u8 b6, .int .u8 b7], .pointer (some ⟨B, 0, none⟩)] w _
  go_enter Try.func44, Try.ntmps44
  go_wp2_with (go_at_call 45; refine (hasBlock_any _ _ _ _ _ _).mono ?_; rintro e w' ⟨rfl, hg⟩)
  go_ret
  exact ⟨rfl, Grew.trans ((Below.refl _ _).alloc (Nat.le_refl _) _) hg⟩

/-- What slices.IndexFunc answers. -/
def IdxP (p : Int × List Int → Bool) (qs : List (Int × List Int)) (r : Int) : Prop :=
  (r = -1 ∧ ∀ (j : Nat) q, qs[j]? = some q → p q = false) ∨ ∃ (k : Nat) (q : Int × List Int), r = (k : Int) ∧ qs[k]? = some q ∧ p q = true ∧ ∀ (j : Nat) q', j < k → qs[j]? = some q' → p q' = false

/-- What is asked of a predicate: it answers p, and turns nothing that was there. -/
def PredOk (g : Nat) (lb : Array Value) (p : Int × List Int → Bool) (w : World) : Prop :=
  ∀ W q, Grew w W → q.2.length = 8 → Calls Try.prog g (#[.agg (ptc q).toArray] ++ lb) W fun e W' => e = .returned (.bool (p q)) ∧ Grew W W'

set_option maxHeartbeats 1000000 in
theorem indexFunc_any (p : Int × List Int → Bool) (g : Nat) (lb : Array Value) (eg : ∀ args w, (callFunc g args).run Try.prog w = .ok (.enter g args) w) (v : Value) (qs : List (Int × List Int)) (w : World) (hv : PutsAt w v qs) (hp : PredOk g lb p w) :
    Calls Try.prog 50 #[v, .func (.func g) #[] lb] w fun e w' => ∃ r : Int, e = .returned (.int .i64 r) ∧ Grew w w' ∧ IdxP p qs r := by
  obtain ⟨a, c, rfl, hrow⟩ := hv.rows
  have hbig : qs.length ≤ 9223372036854775807 := by have := hv.2.2; omega
  have HR : Hid (PutRows w a qs) := hrow
  have HP : Hid (PredOk g lb p w) := hp
  clear hrow hp hv
  obtain ⟨n, hn⟩ : ∃ n, qs.length = n := ⟨_, rfl⟩
  have HN : Hid (qs.length = n) := hn
  rw [hn] at hbig ⊢
  clear hn
  go_enter Try.func50, Try.ntmps50
  go_wp2
  go_loopg [5, 8] n (fun gg _ s8 wr => ∃ kk : Nat, kk ≤ n ∧ n - kk ≤ gg ∧ s8 = .int .i64 kk ∧ Hid (Grew w wr) ∧ Hid (∀ j q, j < kk → qs[j]? = some q → p q = false))
  case atStart => exact ⟨0, Nat.zero_le _, by omega, rfl, Grew.refl w, fun j q hj => absurd hj (Nat.not_lt_zero _)⟩
  case round =>
    obtain ⟨kk, hkk, hg, rfl, BW, A⟩ := hrel
    by_cases hlt : kk < n
    · have hltz : (kk : Int) < (n : Int) := by omega
      have hkq : kk < qs.length := by rw [HN.out]; exact hlt
      obtain ⟨q, HQ⟩ : ∃ q, Hid (qs[kk]? = some q) := ⟨_, List.getElem?_eq_getElem hkq⟩
      obtain ⟨x, m, b0, b1, b2, b3, b4, b5, b6, b7, rfl, rfl, hl⟩ := HR.out kk q HQ.out
      obtain ⟨d0, d1, d2, d3, d4, d5, d6, d7, d8⟩ := hl wr BW.out
      have hcall := HP.out wr (m, [b0, b1, b2, b3, b4, b5, b6, b7]) BW.out rfl
      clear hl hkq
      cases hq : p (m, [b0, b1, b2, b3, b4, b5, b6, b7]) with
      | true =>
        rw [hq] at hcall
        go_wp2_with (go_at_fn g; refine hcall.mono ?_; rintro e w' ⟨rfl, hb'⟩)
        go_ret
        exact ⟨_, rfl, BW.out.trans hb',   .inr ⟨kk, _, rfl, HQ.out, hq, A.out⟩⟩
      | false =>
        rw [hq] at hcall
        go_wp2_with (go_at_fn g; refine hcall.mono ?_; rintro e w' ⟨rfl, hb'⟩)
        go_roundg (n - (kk + 1))
        case measure => omega
        case rel =>
          refine ⟨kk + 1, by omega, by omega, by go_num, BW.out.trans hb', (show Hid _ from fun j q' hj hq' => ?_)⟩
          by_cases e : j = kk
          · subst e
            rw [HQ.out] at hq'
            cases hq'
            exact hq
          · exact A.out j q' (by omega) hq'
    · have hltz : ¬ (kk : Int) < (n : Int) := by omega
      have : kk = n := by omega
      subst this
      go_wp2
      go_ret
      refine ⟨_, rfl, BW.out, .inl ⟨rfl, fun j q hj => A.out j q ?_ hj⟩⟩
      have := (List.getElem?_eq_some_iff.1 hj).1
      rw [HN.out] at this
      exact this

theorem containsFunc_any (p : Int × List Int → Bool) (g : Nat) (lb : Array Value) (eg : ∀ args w, (callFunc g args).run Try.prog w = .ok (.enter g args) w) (v : Value) (qs : List (Int × List Int)) (w : World) (hv : PutsAt w v qs) (hp : PredOk g lb p w) :
    Calls Try.prog 43 #[v, .func (.func g) #[] lb] w fun e w' => e = .returned (.bool (qs.any p)) ∧ Grew w w' := by
  have hcon := indexFunc_any p g lb eg v qs w hv hp
  clear hv hp eg
  go_enter Try.func43, Try.ntmps43
  go_wp2_with (go_at_call 50; refine hcon.mono ?_; rintro e w' ⟨r, rfl, hg, hr⟩)
  go_ret
  have hb : qs.any p = decide (0 ≤ r) := by
    rcases hr with ⟨rfl, h⟩ | ⟨k, q, rfl, h1, h2, _⟩
    · rw [show decide ((0 : Int) ≤ -1) = false from rfl, List.any_eq_false]
      intro q hq
      obtain ⟨j, hj⟩ := List.getElem?_of_mem hq
      rw [h j q hj]
      simp
    · rw [show decide ((0 : Int) ≤ (k : Int)) = true from by simp, List.any_eq_true]
      exact ⟨q, List.mem_of_getElem? h1, h2⟩
  rw [hb]
  exact ⟨rfl, hg⟩

end Go.Proofs.Ytbcaagmnmaonbab
