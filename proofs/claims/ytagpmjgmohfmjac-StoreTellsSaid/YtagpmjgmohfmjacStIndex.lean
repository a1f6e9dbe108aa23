/- Contracts of slices.Index and slices.Contains of numbers; of IndexFunc and ContainsFunc of files that have a block. -/
import Derived.Test.YtagpmjgmohfmjacStLeaf
import Derived.BigQuiet
import Derived.WalkSmall
import Derived.Deep.Cut
namespace Go.Proofs.Ytagpmjgmohfmjac
open Go.RowKit

theorem anyAt {α : Type} {p : α → Bool} {fs : List α} {k : Nat} {q : α} (h : fs[k]? = some q) (hq : p q = true) : fs.any p = true := List.any_eq_true.2 ⟨q, List.mem_of_getElem? h, hq⟩
theorem anyNo {α : Type} {p : α → Bool} {fs : List α} (hb : ∀ (j : Nat) x, fs[j]? = some x → p x = false) : fs.any p = false := List.any_eq_false.2 fun x hx => by
  obtain ⟨j, hj⟩ := List.getElem?_of_mem hx
  rw [hb j x hj]
  decide

set_option maxRecDepth 100000 in
set_option maxHeartbeats 1000000 in
theorem indexInt_any (v : Value) (fs : List Int) (b : Int) (w : World) (hv : RowAt blE w v fs) :
    Calls Try.prog 50 #[v, .int .i64 b] w fun e w' => (∃ z : Int, e = .returned (.int .i64 z) ∧ decide (0 ≤ z) = fs.contains b) ∧ Grew w w' := by
  have hbig := hv.short
  obtain ⟨a, c, rfl, hrow⟩ := hv.nums
  have HR : Hid (NumRows w a fs) := hrow
  clear hrow hv
  obtain ⟨n, HN⟩ : ∃ n, Hid (fs.length = n) := ⟨_, rfl⟩
  rw [HN.out] at hbig ⊢
  obtain ⟨ANS, HANS⟩ : ∃ ANS, Hid (fs.contains b = ANS) := ⟨_, rfl⟩
  rw [HANS.out]
  go_enter Try.func50, Try.ntmps50
  go_wp2
  go_loopg [5, 8] n (fun gg _ s8 wr => ∃ kk : Nat, kk ≤ n ∧ n - kk ≤ gg ∧ s8 = .int .i64 kk ∧ Hid (Grew w wr) ∧ Hid (∀ (j : Nat) q, j < kk → fs[j]? = some q → ¬ b = q))
  case atStart => exact ⟨0, Nat.zero_le _, by omega, rfl, Grew.refl w, fun j q hj => absurd hj (Nat.not_lt_zero _)⟩
  case round =>
    obtain ⟨kk, hkk, hg, rfl, BW, A⟩ := hrel
    by_cases hlt : kk < n
    · have hltz : (kk : Int) < (n : Int) := by omega
      obtain ⟨q, HQ⟩ : ∃ q, Hid (fs[kk]? = some q) := ⟨_, List.getElem?_eq_getElem (by rw [HN.out]; exact hlt)⟩
      obtain ⟨ad, rfl, hl⟩ := HR.out kk q HQ.out
      have d0 := hl wr BW.out
      clear hl
      by_cases hq : b = q
      · have hqb : (b == q) = true := by simpa using hq
        have HF : Hid (decide (0 ≤ (kk : Int)) = ANS) := show _ = _ by
          rw [← HANS.out, hq, List.contains_iff_mem.2 (List.mem_of_getElem? HQ.out)]
          simp
        clear hq
        go_wp2
        go_ret
        exact ⟨⟨_, rfl, HF.out⟩, BW.out⟩
      · have hqb : (b == q) = false := by simpa using hq
        have HA : Hid (∀ (j : Nat) q, j < kk + 1 → fs[j]? = some q → ¬ b = q) := show ∀ (j : Nat) q, _ from fun j q' hj hq' => by
          by_cases e : j = kk
          · subst e
            rw [HQ.out] at hq'
            cases hq'
            exact hq
          · exact A.out j q' (by omega) hq'
        clear hq
        go_wp2
        go_roundg (n - (kk + 1))
        case measure => omega
        case rel => exact ⟨kk + 1, by omega, by omega, by go_num, BW.out, HA.out⟩
    · have hltz : ¬ (kk : Int) < (n : Int) := by omega
      have : kk = n := by omega
      subst this
      have HF : Hid (decide (0 ≤ (-1 : Int)) = ANS) := show _ = _ by
        have : fs.contains b = false := by
          cases hb : fs.contains b with
          | false => rfl
          | true =>
            obtain ⟨j, hj⟩ := List.getElem?_of_mem (List.contains_iff_mem.1 hb)
            exact absurd rfl (A.out j b (by rw [← HN.out]; exact (List.getElem?_eq_some_iff.1 hj).1) hj)
        rw [← HANS.out, this]
        rfl
      go_wp2
      go_ret
      exact ⟨⟨_, rfl, HF.out⟩, BW.out⟩

set_option maxHeartbeats 1000000 in
theorem containsInt_any (v : Value) (fs : List Int) (b : Int) (w : World) (hv : RowAt blE w v fs) :
    Calls Try.prog 47 #[v, .int .i64 b] w fun e w' => e = .returned (.bool (fs.contains b)) ∧ Grew w w' := by
  have h1 := indexInt_any v fs b w hv
  obtain ⟨a, c, rfl, _⟩ := hv.nums
  clear hv
  generalize fs.contains b = ANS at h1 ⊢
  generalize fs.length = n at h1 ⊢
  go_enter Try.func47, Try.ntmps47
  go_wp2_with fail
  refine h1.mono ?_
  rintro e W1 ⟨⟨z, rfl, hz⟩, g1⟩
  have G1 : Hid (Grew w W1) := g1
  clear g1 h1
  have HZ : Hid (decide (0 ≤ z) = ANS) := hz
  clear hz
  go_wp2
  go_ret
  exact ⟨by rw [← HZ.out]; rfl, G1.out⟩

set_option maxHeartbeats 1000000 in
theorem has_any (f : Fl) (xa : Option Addr) (xc : Nat) (b : Int) (p : Nat) (w : World) (hb : Box w p [.int .i64 b]) (hr : RowAt blE w (.slice xa f.bl.length xc) f.bl) :
    Calls Try.prog 46 #[.agg #[.int .i64 f.size, .slice xa f.bl.length xc], .pointer (some ⟨p, 0, none⟩)] w fun e w' => e = .returned (.bool (f.bl.contains b)) ∧ Grew w w' := by
  have h1 : ∀ W, Grew w W → Calls Try.prog 47 #[.slice xa f.bl.length xc, .int .i64 b] W fun e w' => e = .returned (.bool (f.bl.contains b)) ∧ Grew W w' := fun W hW => containsInt_any _ f.bl b W (hr.grew hW)
  have hlt := hb.lt
  have hpne : p ≠ w.heap.size := by omega
  have hpne' : w.heap.size ≠ p := by omega
  obtain ⟨W0, hW0⟩ : ∃ W0, w.alloc (.cells #[.int .i64 f.size, .slice xa f.bl.length xc] 50) = W0 := ⟨_, rfl⟩
  have HG0 : Hid (Grew w W0) := show Grew w W0 by rw [← hW0]; exact grew_alloc _ _
  have c0 : W0.cell? ⟨p, 0, none⟩ = some (.int .i64 b) := (hb.grew HG0.out).c 0 rfl
  have c1 : (w.alloc (.cells #[.int .i64 f.size, .slice xa f.bl.length xc] 50)).cell? ⟨p, 0, none⟩ = some (.int .i64 b) := by rw [hW0]; exact c0
  have HW0 : Hid (_ = W0) := hW0
  clear hW0 hr hb
  generalize f.bl.contains b = ANS at h1 ⊢
  generalize f.bl.length = n at *
  generalize f.size = sz at *
  have c2 := World.cell?_of_block (w := w) (w' := w.alloc (.cells #[.int .i64 sz, .slice xa n xc] 50)) (a := ⟨p, 0, none⟩) (Below.heap_alloc _ _ _ hlt)
  rw [c1] at c2
  have c3 := c2.symm
  clear c0 c1 c2
  go_enter Try.func46, Try.ntmps46
  go_wp2_with fail
  rw [HW0.out]
  refine (h1 _ HG0.out).mono ?_
  rintro e W1 ⟨rfl, g1⟩
  have G1 : Hid (Grew w W1) := HG0.out.trans g1
  clear g1 h1
  go_wp2
  go_ret
  exact ⟨rfl, G1.out⟩

set_option maxRecDepth 100000 in
set_option maxHeartbeats 1000000 in
theorem indexFile_any (v : Value) (fs : List Fl) (b : Int) (p : Nat) (w : World) (hb : Box w p [.int .i64 b]) (hv : FilesAt w v fs) :
    Calls Try.prog 51 #[v, .func (.func 46) #[] #[.pointer (some ⟨p, 0, none⟩)]] w fun e w' => (∃ z : Int, e = .returned (.int .i64 z) ∧ decide (0 ≤ z) = usedB fs b) ∧ Grew w w' := by
  obtain ⟨a, c, rfl, hbig, hrow⟩ := hv.rows
  have HR : Hid (FlRows w a fs) := hrow
  have HB : Hid (Box w p [.int .i64 b]) := hb
  have eg := enters_of Try.func46 (by kernel_rfl) rfl
  clear hrow hv hb
  obtain ⟨n, HN⟩ : ∃ n, Hid (fs.length = n) := ⟨_, rfl⟩
  rw [HN.out] at hbig ⊢
  obtain ⟨ANS, HANS⟩ : ∃ ANS, Hid (usedB fs b = ANS) := ⟨_, rfl⟩
  rw [HANS.out]
  go_enter Try.func51, Try.ntmps51
  go_wp2
  go_loopg [5, 8] n (fun gg _ s8 wr => ∃ kk : Nat, kk ≤ n ∧ n - kk ≤ gg ∧ s8 = .int .i64 kk ∧ Hid (Grew w wr) ∧ Hid (∀ (j : Nat) (q : Fl), j < kk → fs[j]? = some q → q.bl.contains b = false))
  case atStart => exact ⟨0, Nat.zero_le _, by omega, rfl, Grew.refl w, fun j q hj => absurd hj (Nat.not_lt_zero _)⟩
  case round =>
    obtain ⟨kk, hkk, hg, rfl, BW, A⟩ := hrel
    by_cases hlt : kk < n
    · have hltz : (kk : Int) < (n : Int) := by omega
      obtain ⟨q, HQ⟩ : ∃ q, Hid (fs[kk]? = some q) := ⟨_, List.getElem?_eq_getElem (by rw [HN.out]; exact hlt)⟩
      obtain ⟨ad, rfl, xa, xc, hra, hl⟩ := HR.out kk q HQ.out
      obtain ⟨d0, d1⟩ := hl wr BW.out
      have hcall := has_any q xa xc b p wr (HB.out.grew BW.out) (hra.grew BW.out)
      clear hl hra
      cases hq : q.bl.contains b with
      | true =>
        rw [hq] at hcall
        have HF : Hid (decide (0 ≤ (kk : Int)) = ANS) := show _ = _ by
          rw [← HANS.out]
          unfold usedB
          rw [anyAt HQ.out hq]
          simp
        clear hq
        go_wp2_with fail
        refine hcall.mono ?_
        rintro e W2 ⟨rfl, g2⟩
        have G2 : Hid (Grew w W2) := BW.out.trans g2
        clear g2 hcall
        go_wp2
        go_ret
        exact ⟨⟨_, rfl, HF.out⟩, G2.out⟩
      | false =>
        rw [hq] at hcall
        have HA : Hid (∀ (j : Nat) (q : Fl), j < kk + 1 → fs[j]? = some q → q.bl.contains b = false) := show ∀ (j : Nat) (q : Fl), _ from fun j q' hj hq' => by
          by_cases e : j = kk
          · subst e
            rw [HQ.out] at hq'
            cases hq'
            exact hq
          · exact A.out j q' (by omega) hq'
        clear hq
        go_wp2_with fail
        refine hcall.mono ?_
        rintro e W2 ⟨rfl, g2⟩
        have G2 : Hid (Grew w W2) := BW.out.trans g2
        clear g2 hcall
        go_wp2
        go_roundg (n - (kk + 1))
        case measure => omega
        case rel => exact ⟨kk + 1, by omega, by omega, by go_num, G2.out, HA.out⟩
    · have hltz : ¬ (kk : Int) < (n : Int) := by omega
      have : kk = n := by omega
      subst this
      have HF : Hid (decide (0 ≤ (-1 : Int)) = ANS) := show _ = _ by
        rw [← HANS.out]
        unfold usedB
        rw [anyNo (fun j q hj => A.out j q (by rw [← HN.out]; exact (List.getElem?_eq_some_iff.1 hj).1) hj)]
        rfl
      go_wp2
      go_ret
      exact ⟨⟨_, rfl, HF.out⟩, BW.out⟩

set_option maxHeartbeats 1000000 in
theorem containsFile_any (v : Value) (fs : List Fl) (b : Int) (p : Nat) (w : World) (hb : Box w p [.int .i64 b]) (hv : FilesAt w v fs) :
    Calls Try.prog 48 #[v, .func (.func 46) #[] #[.pointer (some ⟨p, 0, none⟩)]] w fun e w' => e = .returned (.bool (usedB fs b)) ∧ Grew w w' := by
  have h1 := indexFile_any v fs b p w hb hv
  obtain ⟨a, c, rfl, _⟩ := hv.rows
  clear hv hb
  generalize usedB fs b = ANS at h1 ⊢
  generalize fs.length = n at h1 ⊢
  go_enter Try.func48, Try.ntmps48
  go_wp2_with fail
  refine h1.mono ?_
  rintro e W1 ⟨⟨z, rfl, hz⟩, g1⟩
  have G1 : Hid (Grew w W1) := g1
  clear g1 h1
  have HZ : Hid (decide (0 ≤ z) = ANS) := hz
  clear hz
  go_wp2
  go_ret
  exact ⟨by rw [← HZ.out]; rfl, G1.out⟩

end Go.Proofs.Ytagpmjgmohfmjac
