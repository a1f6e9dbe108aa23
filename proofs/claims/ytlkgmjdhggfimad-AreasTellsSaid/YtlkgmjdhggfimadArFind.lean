/- Contracts of Find and taken (package areas), and of slices.IndexFunc as Find calls it. -/
import Derived.Test.YtlkgmjdhggfimadArOnly
namespace Go.Proofs.Ytlkgmjdhggfimad
open Go.RowKit

def inZ (a : Ar) (n : Int) : Bool := decide (a.fr ≤ n) && decide (n < a.to)
theorem inZ_iff {a : Ar} {n : Int} : inZ a n = true ↔ a.fr ≤ n ∧ n < a.to := by simp [inZ]
theorem inZ_nat (a : Ar) (n : Nat) : inZ a (n : Int) = inB a n := rfl
/-- Z: the number of the first area that has page n, or -1. -/
def FindsZ (l : List Ar) (n z : Int) : Prop := (∃ (k : Nat) (a : Ar), z = k ∧ l[k]? = some a ∧ inZ a n = true) ∨ (z = -1 ∧ ∀ a ∈ l, inZ a n = false)

theorem finds_is {l : List Ar} {k : Nat} {z : Int} (h : FindsZ l k z) : decide (0 ≤ z) = (onAt l k).is := by
  rcases h with ⟨j, a, rfl, h1, h2⟩ | ⟨rfl, h1⟩
  · have : ∀ (m : List Ar), a ∈ m → (onAt m k).is = true := by
      intro m
      induction m with
      | nil => intro hx; cases hx
      | cons c m ih =>
        intro hx
        by_cases hc : inB c k = true
        · rw [onAt, if_pos hc]; rfl
        · rw [onAt, if_neg hc]
          rcases List.mem_cons.1 hx with e | hx
          · rw [e, inZ_nat] at h2
            exact absurd h2 hc
          · exact ih hx
    rw [this l (List.mem_of_getElem? h1)]
    simp
  · rw [onAt_none (fun a ha => h1 a ha)]
    rfl

set_option maxHeartbeats 1000000 in
theorem findF_any (a : Ar) (n : Int) (p : Nat) (w : World) (hb : Box w p [.int .i64 n]) :
    Calls Try.prog 50 #[.agg #[.int .i64 a.fr, .int .i64 a.to, .bool a.rd, .bool a.wr, .bool a.sh, .int .i64 a.file, .int .i64 a.base], .pointer (some ⟨p, 0, none⟩)] w fun e w' => e = .returned (.bool (inZ a n)) ∧ Grew w w' := by
  have H : Hid (inZ a n = (decide (a.fr ≤ n) && decide (n < a.to))) := rfl
  obtain ⟨W0, hW0⟩ : ∃ W0, w.alloc (.cells #[.int .i64 a.fr, .int .i64 a.to, .bool a.rd, .bool a.wr, .bool a.sh, .int .i64 a.file, .int .i64 a.base] 37) = W0 := ⟨_, rfl⟩
  have HG0 : Hid (Grew w W0) := show Grew w W0 by rw [← hW0]; exact grew_alloc _ _
  have X0 : Hid (Box W0 w.heap.size [.int .i64 a.fr, .int .i64 a.to, .bool a.rd, .bool a.wr, .bool a.sh, .int .i64 a.file, .int .i64 a.base]) := show Box _ _ _ by rw [← hW0]; exact Box.top w _ _ rfl
  have B0 : Hid (Box W0 p [.int .i64 n]) := show Box _ _ _ by rw [← hW0]; exact hb.alloc _
  have HW0 : Hid (_ = W0) := hW0
  clear hW0 hb
  by_cases h0 : a.fr ≤ n
  · by_cases h1 : n < a.to
    · go_enter Try.func50, Try.ntmps50
      go_upto_region 1 with fail
      rw [HW0.out]
      have x0 := X0.out.c 0 rfl
      have x1 := X0.out.c 1 rfl
      have b0 := B0.out.c 0 rfl
      go_wp2
      go_ret
      exact ⟨by rw [H.out]; simp [*], HG0.out⟩
    · go_enter Try.func50, Try.ntmps50
      go_upto_region 1 with fail
      rw [HW0.out]
      have x0 := X0.out.c 0 rfl
      have x1 := X0.out.c 1 rfl
      have b0 := B0.out.c 0 rfl
      go_wp2
      go_ret
      exact ⟨by rw [H.out]; simp [*], HG0.out⟩
  · go_enter Try.func50, Try.ntmps50
    go_upto_region 1 with fail
    rw [HW0.out]
    have x0 := X0.out.c 0 rfl
    have x1 := X0.out.c 1 rfl
    have b0 := B0.out.c 0 rfl
    go_wp2
    go_ret
    exact ⟨by rw [H.out]; simp; omega, HG0.out⟩

set_option maxRecDepth 100000 in
set_option maxHeartbeats 1000000 in
theorem indexArea_any (v : Value) (l : List Ar) (m : Int) (p : Nat) (w : World) (hb : Box w p [.int .i64 m]) (hv : RowAt arE w v l) :
    Calls Try.prog 49 #[v, .func (.func 50) #[] #[.pointer (some ⟨p, 0, none⟩)]] w fun e w' => (∃ z : Int, e = .returned (.int .i64 z) ∧ FindsZ l m z) ∧ Grew w w' := by
  have hbig := hv.short
  obtain ⟨a, c, rfl, hrow⟩ := hv.ars
  have HR : Hid (ArRows w a l) := hrow
  have HB : Hid (Box w p [.int .i64 m]) := hb
  have eg := enters_of Try.func50 (by kernel_rfl) rfl
  clear hrow hv hb
  obtain ⟨n, HN⟩ : ∃ n, Hid (l.length = n) := ⟨_, rfl⟩
  rw [HN.out] at hbig ⊢
  obtain ⟨ANS, HANS⟩ : ∃ ANS : Int → Prop, Hid (∀ z, FindsZ l m z = ANS z) := ⟨FindsZ l m, fun _ => rfl⟩
  simp only [HANS.out]
  go_enter Try.func49, Try.ntmps49
  go_wp2
  go_loopg [5, 8] n (fun gg _ s8 wr => ∃ kk : Nat, kk ≤ n ∧ n - kk ≤ gg ∧ s8 = .int .i64 kk ∧ Hid (Grew w wr) ∧ Hid (∀ (j : Nat) (q : Ar), j < kk → l[j]? = some q → inZ q m = false))
  case atStart => exact ⟨0, Nat.zero_le _, by omega, rfl, Grew.refl w, fun j q hj => absurd hj (Nat.not_lt_zero _)⟩
  case round =>
    obtain ⟨kk, hkk, hg, rfl, BW, A⟩ := hrel
    by_cases hlt : kk < n
    · have hltz : (kk : Int) < (n : Int) := by omega
      obtain ⟨q, HQ⟩ : ∃ q, Hid (l[kk]? = some q) := ⟨_, List.getElem?_eq_getElem (by rw [HN.out]; exact hlt)⟩
      obtain ⟨ad, rfl, hl⟩ := HR.out kk q HQ.out
      obtain ⟨d0, d1, d2, d3, d4, d5, d6⟩ := hl wr BW.out
      have hcall := findF_any q m p wr (HB.out.grew BW.out)
      clear hl
      cases hq : inZ q m with
      | true =>
        rw [hq] at hcall
        have HF : Hid (ANS (kk : Int)) := show ANS _ by
          rw [← HANS.out]
          exact .inl ⟨kk, q, rfl, HQ.out, hq⟩
        clear hq
        go_wp2_with fail
        refine hcall.mono ?_
        rintro e W2 ⟨rfl, g2⟩
        have G2 : Hid (Grew w W2) := BW.out.trans g2
        clear g2 hcall d0 d1 d2 d3 d4 d5 d6
        go_wp2
        go_ret
        exact ⟨⟨_, rfl, HF.out⟩, G2.out⟩
      | false =>
        rw [hq] at hcall
        have HA : Hid (∀ (j : Nat) (q : Ar), j < kk + 1 → l[j]? = some q → inZ q m = false) := show ∀ (j : Nat) (q : Ar), _ from fun j q' hj hq' => by
          by_cases e : j = kk
          · subst e
            rw [HQ.out] at hq'
            cases hq'
            exact hq
          · exact A.out j q' (by omega) hq'
        clear hq
        go_wp2_with fail
        refine hcall.mono ?_
        rintro e W2 ⟨rfl, g2⟩
        have G2 : Hid (Grew w W2) := BW.out.trans g2
        clear g2 hcall d0 d1 d2 d3 d4 d5 d6
        go_wp2
        go_roundg (n - (kk + 1))
        case measure => omega
        case rel => exact ⟨kk + 1, by omega, by omega, by go_num, G2.out, HA.out⟩
    · have hltz : ¬ (kk : Int) < (n : Int) := by omega
      have : kk = n := by omega
      subst this
      have HF : Hid (ANS (-1 : Int)) := show ANS _ by
        rw [← HANS.out]
        refine .inr ⟨rfl, fun x hx => ?_⟩
        obtain ⟨j, hj⟩ := List.getElem?_of_mem hx
        exact A.out j x (by rw [← HN.out]; exact (List.getElem?_eq_some_iff.1 hj).1) hj
      go_wp2
      go_ret
      exact ⟨⟨_, rfl, HF.out⟩, BW.out⟩

set_option maxRecDepth 100000 in
set_option maxHeartbeats 1000000 in
theorem find_any (v : Value) (l : List Ar) (m : Int) (w : World) (hv : RowAt arE w v l) :
    Calls Try.prog 21 #[v, .int .i64 m] w fun e w' => (∃ z : Int, e = .returned (.int .i64 z) ∧ FindsZ l m z) ∧ Grew w w' := by
  have hmf : ∀ (fn : Fn) (first cap : Array Value) (w : World), (Instr.makeFunc fn first cap).run Try.prog w = .ok (.func fn first cap) w := fun _ _ _ _ => rfl
  have h1 : Calls Try.prog 49 #[v, .func (.func 50) #[] #[.pointer (some ⟨w.heap.size, 0, none⟩)]] (w.alloc (.cells #[.int .i64 m] 3)) fun e w' => (∃ z : Int, e = .returned (.int .i64 z) ∧ FindsZ l m z) ∧ Grew (w.alloc (.cells #[.int .i64 m] 3)) w' := indexArea_any v l m _ _ (Box.top w _ _ rfl) (hv.grew (grew_alloc _ _))
  obtain ⟨a, c, rfl, _⟩ := hv.ars
  clear hv
  generalize l.length = n at h1 ⊢
  go_enter Try.func21, Try.ntmps21
  go_wp2_with fail
  refine h1.mono ?_
  rintro e W1 ⟨⟨z, rfl, hz⟩, g1⟩
  have G1 : Hid (Grew w W1) := (grew_alloc _ _).trans g1
  have HZ : Hid (FindsZ l m z) := hz
  clear g1 h1 hz
  go_wp2
  go_ret
  exact ⟨⟨_, rfl, HZ.out⟩, G1.out⟩

/-- How many pages from s on, n of them, lie in an area. -/
def countA (l : List Ar) (s : Nat) : Nat → Nat
  | 0 => 0
  | n + 1 => countA l s n + if (onAt l (s + n)).is = true then 1 else 0
theorem countA_le (l : List Ar) (s : Nat) : ∀ n, countA l s n ≤ n
  | 0 => Nat.le_refl _
  | n + 1 => by
    have := countA_le l s n
    unfold countA
    split <;> omega
theorem countA_zero {l : List Ar} {s : Nat} : ∀ {n : Nat}, countA l s n = 0 ↔ ∀ j, j < n → (onAt l (s + j)).is = false
  | 0 => by simp [countA]
  | n + 1 => by
    unfold countA
    have ih := countA_zero (l := l) (s := s) (n := n)
    constructor
    · intro h j hj
      by_cases e : j = n
      · subst e
        cases hq : (onAt l (s + j)).is with
        | false => rfl
        | true => rw [hq] at h; simp at h
      · exact ih.1 (by omega) j (by omega)
    · intro h
      rw [ih.2 fun j hj => h j (by omega), h n (by omega)]
      simp
theorem countA_full {l : List Ar} {s : Nat} : ∀ {n : Nat}, countA l s n = n ↔ ∀ j, j < n → (onAt l (s + j)).is = true
  | 0 => by simp [countA]
  | n + 1 => by
    have hle := countA_le l s n
    unfold countA
    have ih := countA_full (l := l) (s := s) (n := n)
    constructor
    · intro h
      cases hq : (onAt l (s + n)).is with
      | false => rw [hq] at h; simp at h; omega
      | true =>
        rw [hq] at h
        simp at h
        intro j hj
        by_cases e : j = n
        · rw [e]; exact hq
        · exact ih.1 h j (by omega)
    · intro h
      rw [ih.2 fun j hj => h j (by omega), h n (by omega)]
      simp
theorem count_hit {l : List Ar} {s n : Nat} (h : s + n ≤ 64) : countA l s n = 0 ↔ hitB l s n = false := by
  rw [countA_zero, hitB_no]
  constructor
  · intro h1 k hk h2
    have := h1 (k - s) (by omega)
    rw [show s + (k - s) = k by omega] at this
    exact this
  · intro h1 j hj
    exact h1 (s + j) (by omega) (by omega)
theorem count_gap {l : List Ar} {s n : Nat} (h : s + n ≤ 64) : countA l s n = n ↔ gapB l s n = false := by
  rw [countA_full, gapB_no]
  constructor
  · intro h1 k hk h2
    have := h1 (k - s) (by omega)
    rw [show s + (k - s) = k by omega] at this
    exact this
  · intro h1 j hj
    exact h1 (s + j) (by omega) (by omega)

set_option maxRecDepth 100000 in
set_option maxHeartbeats 1000000 in
theorem taken_any (v : Value) (l : List Ar) (s n : Nat) (w : World) (hv : RowAt arE w v l) (hs : s + n ≤ 64) :
    Calls Try.prog 40 #[v, .int .i64 (s : Int), .int .i64 ((s : Int) + (n : Int))] w fun e w' => e = .returned (.int .i64 (countA l s n : Int)) ∧ Grew w w' := by
  have HV : Hid (RowAt arE w v l) := hv
  have hf : ∀ W (k : Int), Grew w W → Calls Try.prog 21 #[v, .int .i64 k] W fun e w' => (∃ z : Int, e = .returned (.int .i64 z) ∧ FindsZ l k z) ∧ Grew W w' := fun W k hW => find_any v l k W (HV.out.grew hW)
  have HF : Hid _ := hf
  clear hv hf
  obtain ⟨ANS, HANS⟩ : ∃ ANS : Nat, Hid (countA l s n = ANS) := ⟨_, rfl⟩
  rw [HANS.out]
  go_enter Try.func40, Try.ntmps40
  go_wp2
  go_loopg [7, 8] n (fun gg s7 s8 wr => ∃ (kk C : Nat), kk ≤ n ∧ n - kk ≤ gg ∧ s8 = .int .i64 ((s : Int) + (kk : Int)) ∧ s7 = .int .i64 (C : Int) ∧ C ≤ kk ∧ Hid (Grew w wr) ∧ Hid (countA l s kk = C))
  case atStart => exact ⟨0, 0, Nat.zero_le _, by omega, by simp, rfl, Nat.le_refl _, Grew.refl w, rfl⟩
  case round =>
    obtain ⟨kk, C, hkk, hg, rfl, rfl, hC, BW, A⟩ := hrel
    by_cases hlt : kk < n
    · have hltz : (s : Int) + (kk : Int) < (s : Int) + (n : Int) := by omega
      go_wp2_with fail
      refine (HF.out wr _ BW.out).mono ?_
      rintro e W2 ⟨⟨z, rfl, hz⟩, g2⟩
      have G2 : Hid (Grew w W2) := BW.out.trans g2
      rw [show (s : Int) + (kk : Int) = ((s + kk : Nat) : Int) by omega] at hz
      have hzi := finds_is hz
      clear g2 hz
      cases hq : (onAt l (s + kk)).is with
      | true =>
        rw [hq] at hzi
        have hz0 : 0 ≤ z := by simpa using hzi
        have HA : Hid (countA l s (kk + 1) = C + 1) := show _ = _ by unfold countA; rw [hq, A.out]; rfl
        clear hq hzi
        go_wp2
        go_roundg (n - (kk + 1))
        case measure => omega
        case rel => exact ⟨kk + 1, C + 1, by omega, by omega, by go_num, by go_num, by omega, G2.out, HA.out⟩
      | false =>
        rw [hq] at hzi
        have hz0 : ¬ 0 ≤ z := by simpa using hzi
        have HA : Hid (countA l s (kk + 1) = C) := show _ = _ by unfold countA; rw [hq, A.out]; rfl
        clear hq hzi
        go_wp2
        go_roundg (n - (kk + 1))
        case measure => omega
        case rel => exact ⟨kk + 1, C, by omega, by omega, by go_num, rfl, by omega, G2.out, HA.out⟩
    · have hltz : ¬ (s : Int) + (kk : Int) < (s : Int) + (n : Int) := by omega
      have : kk = n := by omega
      subst this
      have HE : Hid ((C : Int) = (ANS : Int)) := show _ = _ by rw [← HANS.out, A.out]
      go_wp2
      go_ret
      exact ⟨by rw [HE.out]; rfl, BW.out⟩

end Go.Proofs.Ytlkgmjdhggfimad
