/- Contracts: slices.IndexFunc over frames; Take (package frames). -/
import Derived.Test.YtbcaagmnmaonbabMemOwn
import Derived.Deep.Cut
namespace Go.Proofs.Ytbcaagmnmaonbab
open Go.RowKit

def isF (a : Fr) : Bool := a.r == 0
def frT (p : Pg) (fi ix : Int) : Fr := ⟨p, 1, true, false, fi, ix⟩
def takeE (fs : List Fr) (h : Int) (x : Fr) : Int := if memW fs h = 0 then (if frW x = 0 then (if fs.findIdx isF < fs.length then 0 else 10) else frW x) else memW fs h
def takeF (fs : List Fr) (h : Int) (x : Fr) : List Fr := if takeE fs h x = 0 then fs.set (fs.findIdx isF) x else []
def takeH (fs : List Fr) (h : Int) (x : Fr) : Int := if takeE fs h x = 0 then h else 0
def takeI (fs : List Fr) (h : Int) (x : Fr) : Int := if takeE fs h x = 0 then (fs.findIdx isF : Int) else 0

theorem take1_any (q : Fr) (w : World) :
    Calls Try.prog 38 #[.agg (frv q).toArray] w fun e w' => e = .returned (.bool (isF q)) ∧ Grew w w' := by
  show Calls Try.prog 38 #[.agg #[.int .u8 q.p.b0, .int .u8 q.p.b1, .int .u8 q.p.b2, .int .u8 q.p.b3, .int .u8 q.p.b4, .int .u8 q.p.b5, .int .u8 q.p.b6, .int .u8 q.p.b7, .int .i64 q.r, .bool q.u, .bool q.d, .int .i64 q.f, .int .i64 q.x]] w _
  go_enter Try.func38, Try.ntmps38
  go_wp2
  go_ret
  exact ⟨rfl, (Below.refl _ _).alloc (Nat.le_refl _) _⟩

/-- The number of the first one that is free; -1 if none is. -/
def idxI (fs : List Fr) : Int := if fs.findIdx isF < fs.length then (fs.findIdx isF : Int) else -1

theorem findIdx_at {fs : List Fr} {k : Nat} {q : Fr} (h : fs[k]? = some q) (hq : isF q = true) (hb : ∀ (j : Nat) x, j < k → fs[j]? = some x → isF x = false) : fs.findIdx isF = k := by
  obtain ⟨hlt, rfl⟩ := List.getElem?_eq_some_iff.1 h
  refine (List.findIdx_eq hlt).2 ⟨hq, fun j hj => ?_⟩
  exact hb j _ hj (List.getElem?_eq_getElem (by omega))

theorem findIdx_no {fs : List Fr} (hb : ∀ (j : Nat) x, fs[j]? = some x → isF x = false) : fs.findIdx isF = fs.length := by
  refine List.findIdx_eq_length.2 fun x hx => ?_
  obtain ⟨j, hj⟩ := List.getElem?_of_mem hx
  exact hb j x hj

set_option maxRecDepth 100000 in
set_option maxHeartbeats 1000000 in
theorem indexFrames_any (v : Value) (fs : List Fr) (w : World) (hv : RowAt w v fs) :
    Calls Try.prog 37 #[v, .func (.func 38) #[] #[]] w fun e w' => e = .returned (.int .i64 (idxI fs)) ∧ Grew w w' := by
  have hbig := hv.short
  obtain ⟨a, c, rfl, hrow⟩ := hv.frs
  have HR : Hid (FrRows w a fs) := hrow
  have eg := enters_of Try.func38 (by kernel_rfl) rfl
  clear hrow hv
  obtain ⟨n, HN⟩ : ∃ n, Hid (fs.length = n) := ⟨_, rfl⟩
  rw [HN.out] at hbig ⊢
  go_enter Try.func37, Try.ntmps37
  go_wp2
  go_loopg [5, 8] n (fun gg _ s8 wr => ∃ kk : Nat, kk ≤ n ∧ n - kk ≤ gg ∧ s8 = .int .i64 kk ∧ Hid (Grew w wr) ∧ Hid (∀ j q, j < kk → fs[j]? = some q → isF q = false))
  case atStart => exact ⟨0, Nat.zero_le _, by omega, rfl, Grew.refl w, fun j q hj => absurd hj (Nat.not_lt_zero _)⟩
  case round =>
    obtain ⟨kk, hkk, hg, rfl, BW, A⟩ := hrel
    by_cases hlt : kk < n
    · have hltz : (kk : Int) < (n : Int) := by omega
      obtain ⟨q, HQ⟩ : ∃ q, Hid (fs[kk]? = some q) := ⟨_, List.getElem?_eq_getElem (by rw [HN.out]; exact hlt)⟩
      obtain ⟨ad, rfl, hl⟩ := HR.out kk q HQ.out
      obtain ⟨d0, d1, d2, d3, d4, d5, d6, d7, d8, d9, d10, d11, d12⟩ := hl wr BW.out
      have hcall : Calls Try.prog 38 #[.agg #[.int .u8 q.p.b0, .int .u8 q.p.b1, .int .u8 q.p.b2, .int .u8 q.p.b3, .int .u8 q.p.b4, .int .u8 q.p.b5, .int .u8 q.p.b6, .int .u8 q.p.b7, .int .i64 q.r, .bool q.u, .bool q.d, .int .i64 q.f, .int .i64 q.x]] wr fun e w' => e = .returned (.bool (isF q)) ∧ Grew wr w' := take1_any q wr
      clear hl
      cases hq : isF q with
      | true =>
        rw [hq] at hcall
        have HF : Hid (idxI fs = (kk : Int)) := show _ = _ by unfold idxI; rw [findIdx_at HQ.out hq A.out, HN.out, if_pos hlt]
        clear hq
        go_wp2_with (go_at_call 38; refine hcall.mono ?_; rintro e w' ⟨rfl, hb'⟩)
        go_ret
        exact ⟨by rw [HF.out]; rfl, BW.out.trans hb'⟩
      | false =>
        rw [hq] at hcall
        have HA : Hid (∀ (j : Nat) q, j < kk + 1 → fs[j]? = some q → isF q = false) := show ∀ (j : Nat) q, _ from fun j q' hj hq' => by
          by_cases e : j = kk
          · subst e
            rw [HQ.out] at hq'
            cases hq'
            exact hq
          · exact A.out j q' (by omega) hq'
        clear hq
        go_wp2_with (go_at_call 38; refine hcall.mono ?_; rintro e w' ⟨rfl, hb'⟩)
        go_roundg (n - (kk + 1))
        case measure => omega
        case rel => exact ⟨kk + 1, by omega, by omega, by go_num, BW.out.trans hb', HA.out⟩
    · have hltz : ¬ (kk : Int) < (n : Int) := by omega
      have : kk = n := by omega
      subst this
      have HF : Hid (idxI fs = -1) := show _ = _ by
        unfold idxI
        rw [findIdx_no (fun j q hj => A.out j q (by rw [← HN.out]; exact (List.getElem?_eq_some_iff.1 hj).1) hj), if_neg (Nat.lt_irrefl _)]
      go_wp2
      go_ret
      exact ⟨by rw [HF.out]; rfl, BW.out⟩

end Go.Proofs.Ytbcaagmnmaonbab
