/- Contract of parted (package areas): right areas, page by page. -/
import Derived.Test.YtlkgmjdhggfimadArTab
import Derived.Test.YtlkgmjdhggfimadArFind
import Derived.Test.YtlkgmjdhggfimadSmall
namespace Go.Proofs.Ytlkgmjdhggfimad
open Go.RowKit

/-- The pages of areas, as areas. -/
def partF (f : Nat → On) : Nat → Ar := fun n => arOf n (f n)
/-- Pages of the areas below number i, and of area i those below n. -/
def midF (l : List Ar) (i : Nat) (a : Ar) (n : Nat) : Nat → On := fun j => if a.fr ≤ (j : Int) ∧ (j : Int) < (n : Int) then oneOf a j else onAt (l.take i) j

theorem CanP.take : ∀ {l : List Ar} {p : Option Ar}, CanP p l → ∀ i, CanP p (l.take i)
  | [], _, _, i => by simp [CanP]
  | a :: l, p, h, 0 => by simp [CanP]
  | a :: l, p, h, i + 1 => ⟨h.1, h.2.1, h.2.2.take i⟩
theorem CanP.free {l : List Ar} (h : CanP none l) {i : Nat} {a : Ar} (ha : l[i]? = some a) {j : Nat} (hj : a.fr ≤ (j : Int)) : onAt (l.take i) j = on0 := by
  refine onAt_none fun x hx => inB_no ?_
  have h1 := h.take (i + 1)
  rw [take_snoc ha] at h1
  obtain ⟨c1, c2, c3⟩ := canP_snoc.1 h1
  cases hl : lastP none (l.take i) with
  | none =>
    unfold lastP at hl
    cases hq : l.take i with
    | nil => rw [hq] at hx; cases hx
    | cons y ys => rw [hq] at hl; simp [List.getLast?_cons] at hl
  | some y =>
    have q := (c3 y hl).1
    have hy : ArOk y := c1.all y (by
      unfold lastP at hl
      split at hl
      · rename_i b hb
        cases hl
        exact List.mem_of_getLast? hb
      · cases hl)
    unfold ArOk at hy
    rcases last_to _ none c1 x hx y hl with e | e
    · rw [e]; omega
    · omega

theorem mid_start {l : List Ar} {i : Nat} {a : Ar} {n : Nat} (hn : (n : Int) = a.fr) : midF l i a n = onAt (l.take i) := by
  funext j
  unfold midF
  rw [if_neg (by omega)]
theorem mid_step {l : List Ar} {i : Nat} {a : Ar} {n : Nat} (hn : a.fr ≤ (n : Int)) : upd (partF (midF l i a n)) n (arOf n (oneOf a n)) = partF (midF l i a (n + 1)) := by
  funext j
  unfold upd partF midF
  by_cases e : j = n
  · subst e
    rw [if_pos rfl, if_pos (by omega)]
  · rw [if_neg e]
    congr 1
    by_cases h : a.fr ≤ (j : Int) ∧ (j : Int) < (n : Int)
    · rw [if_pos h, if_pos (by omega)]
    · rw [if_neg h, if_neg (by omega)]
theorem mid_end {l : List Ar} {i : Nat} {a : Ar} {n : Nat} (h : CanP none l) (ha : l[i]? = some a) (hn : (n : Int) = a.to) : midF l i a n = onAt (l.take (i + 1)) := by
  funext j
  unfold midF
  rw [take_snoc ha, onAt_snoc]
  · by_cases h1 : a.fr ≤ (j : Int) ∧ (j : Int) < (n : Int)
    · rw [if_pos h1, if_pos (inB_iff.2 (by omega))]
    · rw [if_neg h1, if_neg (fun h2 => h1 (by have := inB_iff.1 h2; omega))]
  · by_cases h1 : a.fr ≤ (j : Int)
    · exact .inl (h.free ha h1)
    · exact .inr (inB_no (by omega))
theorem part_none : partF (onAt ([] : List Ar)) = fun _ => ar0 := by
  funext j
  rfl

set_option maxRecDepth 100000 in
set_option maxHeartbeats 2000000 in
theorem parted_any (v : Value) (l : List Ar) (w : World) (hv : RowAt arE w v l) (hok : CanP none l) :
    Calls Try.prog 57 #[v] w fun e w' => e = .returned (.agg (cellsA (tab (partF (onAt l)))).toArray) ∧ Grew w w' := by
  have hbig := hv.short
  obtain ⟨a, c, rfl, hrow⟩ := hv.ars
  have HR : Hid (ArRows w a l) := hrow
  have HOK : Hid (CanP none l) := hok
  have HON : Hid (∀ (q : Ar) (k : Nat) W, ArOk q → k < 64 → Calls Try.prog 43 #[.agg #[.int .i64 q.fr, .int .i64 q.to, .bool q.rd, .bool q.wr, .bool q.sh, .int .i64 q.file, .int .i64 q.base], .int .i64 (k : Int)] W fun e w' => e = .returned (arA (arOf k (oneOf q k))) ∧ Grew W w') := fun q k W h1 h2 => only_any q k W h1 h2
  clear hrow hv hok
  have hz := run_zeroA
  obtain ⟨Z0, HZ0⟩ : ∃ Z0, Hid (cellsA (tab fun _ => ar0) = Z0) := ⟨_, rfl⟩
  rw [HZ0.out] at hz
  have HZL : Hid (Z0.length = 448) := show _ = _ by rw [← HZ0.out, tabA_len]
  obtain ⟨C, HC⟩ : ∃ C, Hid (cellsA (tab (partF (onAt l))) = C) := ⟨_, rfl⟩
  rw [HC.out]
  obtain ⟨n, HN⟩ : ∃ n, Hid (l.length = n) := ⟨_, rfl⟩
  rw [HN.out] at hbig ⊢
  obtain ⟨W0, hW0⟩ : ∃ W0, (w.alloc (.cells Z0.toArray 80)).alloc (.cells Z0.toArray 80) = W0 := ⟨_, rfl⟩
  have HG0 : Hid (Grew w W0) := show Grew w W0 by rw [← hW0]; exact (grew_alloc _ _).trans (grew_alloc _ _)
  have Y0 : Hid (Box W0 w.heap.size Z0) := show Box _ _ _ by rw [← hW0]; exact (Box.top _ _ _ (by simp)).alloc _
  have L0 : Hid (Box W0 (w.heap.size + 1) (cellsA (tab (partF (onAt (l.take 0)))))) := show Box _ _ _ by rw [← hW0, List.take_zero, part_none, HZ0.out]; exact Box.top _ _ _ (by simp)
  have HW0 : Hid (_ = W0) := hW0
  clear hW0
  go_enter Try.func57, Try.ntmps57
  go_upto_region 2 with fail
  rw [HW0.out]
  clear hz
  go_wp2
  go_loopg [9] n (fun gg s9 wr => ∃ kk : Nat, kk ≤ n ∧ n - kk ≤ gg ∧ s9 = .int .i64 kk ∧ Hid (Grew w wr) ∧ Hid (Box wr w.heap.size Z0) ∧ Hid (Box wr (w.heap.size + 1) (cellsA (tab (partF (onAt (l.take kk)))))))
  case atStart => exact ⟨0, Nat.zero_le _, by omega, rfl, HG0.out, Y0.out, L0.out⟩
  case round =>
    obtain ⟨kk, hkk, hg, rfl, BW, YW, LW⟩ := hrel
    by_cases hlt : kk < n
    · have hltz : (kk : Int) < (n : Int) := by omega
      obtain ⟨q, HQ⟩ : ∃ q, Hid (l[kk]? = some q) := ⟨_, List.getElem?_eq_getElem (by rw [HN.out]; exact hlt)⟩
      obtain ⟨ad, rfl, hl⟩ := HR.out kk q HQ.out
      obtain ⟨d0, d1, d2, d3, d4, d5, d6⟩ := hl wr BW.out
      have HQK : Hid (ArOk q) := HOK.out.all q (List.mem_of_getElem? HQ.out)
      have hqb : 0 ≤ q.fr ∧ q.fr < q.to ∧ q.to ≤ 64 := by have := HQK.out; unfold ArOk at this; omega
      obtain ⟨hq1, hq2, hq3⟩ := hqb
      obtain ⟨p, HP⟩ : ∃ p, Hid (wr.heap.size = p) := ⟨_, rfl⟩
      have HLP : Hid (w.heap.size + 1 < p) := show _ < _ by rw [← HP.out]; exact LW.out.lt
      clear hl
      go_upto_region 5 with fail
      obtain ⟨W1, hW1⟩ : ∃ W1, wr.alloc (.cells #[.int .i64 q.fr, .int .i64 q.to, .bool q.rd, .bool q.wr, .bool q.sh, .int .i64 q.file, .int .i64 q.base] 37) = W1 := ⟨_, rfl⟩
      have G1 : Hid (Grew w W1) := show Grew _ _ by rw [← hW1]; exact BW.out.trans (grew_alloc _ _)
      have Y1 : Hid (Box W1 w.heap.size Z0) := show Box _ _ _ by rw [← hW1]; exact YW.out.alloc _
      obtain ⟨f0, hf0⟩ : ∃ f0 : Nat, (f0 : Int) = q.fr := ⟨q.fr.toNat, by omega⟩
      have L1 : Hid (Box W1 (w.heap.size + 1) (cellsA (tab (partF (midF l kk q f0))))) := show Box _ _ _ by rw [← hW1, mid_start hf0]; exact LW.out.alloc _
      have P1 : Hid (Box W1 p [.int .i64 q.fr, .int .i64 q.to, .bool q.rd, .bool q.wr, .bool q.sh, .int .i64 q.file, .int .i64 q.base]) := show Box _ _ _ by rw [← hW1]; exact Box.top _ _ _ HP.out.symm
      rw [hW1, HP.out]
      clear hW1 d0 d1 d2 d3 d4 d5 d6
      have p0 := P1.out.c 0 rfl
      go_wp2
      go_loopg [6] (q.to.toNat - f0) (fun g2 s6 wr2 => ∃ k2 : Nat, f0 ≤ k2 ∧ (k2 : Int) ≤ q.to ∧ q.to.toNat - k2 ≤ g2 ∧ s6 = .int .i64 k2 ∧ Hid (Grew w wr2) ∧ Hid (Box wr2 w.heap.size Z0) ∧ Hid (Box wr2 (w.heap.size + 1) (cellsA (tab (partF (midF l kk q k2))))) ∧ Hid (Box wr2 p [.int .i64 q.fr, .int .i64 q.to, .bool q.rd, .bool q.wr, .bool q.sh, .int .i64 q.file, .int .i64 q.base]))
      case atStart => exact ⟨f0, Nat.le_refl _, by omega, by omega, by rw [hf0], G1.out, Y1.out, L1.out, P1.out⟩
      case round =>
        obtain ⟨k2, hk2, hk2', hg2, rfl, BW2, YW2, LW2, PW2⟩ := hrel
        clear p0
        have p1 := PW2.out.c 1 rfl
        by_cases hlt2 : (k2 : Int) < q.to
        · have hi64 : k2 < 64 := by omega
          have hi64z : (k2 : Int) < 64 := by omega
          have HST : Hid (upd (partF (midF l kk q k2)) k2 (arOf k2 (oneOf q k2)) = partF (midF l kk q (k2 + 1))) := mid_step (l := l) (i := kk) (a := q) (n := k2) (by omega)
          go_wp2_with (refine wp_loadAll rfl 37 (.tmp 5) rfl p rfl PW2.out Try.underlying37 rfl Try.sizeArea ?_)
          refine (HON.out q k2 wr HQK.out hi64).mono ?_
          rintro e W2 ⟨rfl, g2⟩
          have G2 : Hid (Grew w W2) := BW2.out.trans g2
          have Y2 : Hid (Box W2 w.heap.size Z0) := YW2.out.grew g2
          have L2 : Hid (Box W2 (w.heap.size + 1) (cellsA (tab (partF (midF l kk q k2))))) := LW2.out.grew g2
          have P2 : Hid (Box W2 p [.int .i64 q.fr, .int .i64 q.to, .bool q.rd, .bool q.wr, .bool q.sh, .int .i64 q.file, .int .i64 q.base]) := PW2.out.grew g2
          clear g2 p1
          go_wp2_with (refine wp_storeAr rfl (.tmp 25) (.tmp 24) rfl (w.heap.size + 1) k2 hi64 rfl (arOf k2 (oneOf q k2)) rfl L2.out ?_)
          intro W3 b3 g3 s3
          have L3 : Hid (Box W3 (w.heap.size + 1) (cellsA (tab (partF (midF l kk q (k2 + 1)))))) := show Box _ _ _ by rw [← HST.out]; exact b3
          have G3 : Hid (Grew w W3) := grew_grown G2.out g3 (by simp)
          have Y3 : Hid (Box W3 w.heap.size Z0) := Y2.out.beside g3 (by intro g hg; cases hg; simp)
          have P3 : Hid (Box W3 p [.int .i64 q.fr, .int .i64 q.to, .bool q.rd, .bool q.wr, .bool q.sh, .int .i64 q.file, .int .i64 q.base]) := P2.out.beside g3 (by intro g hg; cases hg; have := HLP.out; omega)
          clear b3 g3 s3 HST
          go_wp2
          go_roundg (q.to.toNat - (k2 + 1))
          case measure => omega
          case rel => exact ⟨k2 + 1, by omega, by omega, by omega, by go_num, G3.out, Y3.out, L3.out, P3.out⟩
        · have hke : (k2 : Int) = q.to := by omega
          have LE : Hid (Box wr (w.heap.size + 1) (cellsA (tab (partF (onAt (l.take (kk + 1))))))) := show Box _ _ _ by rw [← mid_end HOK.out HQ.out hke]; exact LW2.out
          go_wp2
          go_roundg (n - (kk + 1))
          case measure => omega
          case rel => exact ⟨kk + 1, by omega, by omega, by go_num, BW2.out, YW2.out, LE.out⟩
    · have hltz : ¬ (kk : Int) < (n : Int) := by omega
      have : kk = n := by omega
      subst this
      have LE : Hid (Box wr (w.heap.size + 1) C) := show Box _ _ _ by rw [← HC.out]; have := LW.out; rw [← HN.out, List.take_length] at this; exact this
      have HFL : Hid (C.length = 448) := show _ = _ by rw [← HC.out, tabA_len]
      have HFO : Hid (∀ v ∈ C, v.oneCell' = true) := show ∀ v ∈ C, _ by rw [← HC.out]; exact cellsA_one _
      go_wp2_with (first | refine wp_loadAll rfl 80 (.tmp 3) rfl (w.heap.size + 1) rfl LE.out Try.underlying80 rfl (by rw [HFL.out]; exact Try.sizePgs) ?_ | refine wp_storeAll rfl 80 (.tmp 2) (.tmp 27) rfl w.heap.size rfl C rfl YW.out (by rw [HFL.out, HZL.out]) (by rw [HZL.out]; exact Try.sizePgs) HFO.out ?_)
      intro W3 b3 g3 s3
      have G3 : Hid (Grew w W3) := show Grew _ _ from grew_grown BW.out g3 (by simp)
      have B3 : Hid (Box W3 w.heap.size C) := b3
      clear b3 g3 s3
      go_wp2
      refine bodyPost_ret (ret_cell rfl _ rfl B3.out Try.underlying80 rfl (by rw [HFL.out]; exact Try.sizePgs)) rfl ⟨rfl, G3.out⟩

end Go.Proofs.Ytlkgmjdhggfimad
