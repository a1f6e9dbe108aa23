/- Contracts of span and Ones (the document's answer): areas, page by page. -/
import Derived.Test.YtlkgmjdhggfimadArParted
namespace Go.Proofs.Ytlkgmjdhggfimad
open Go.RowKit

set_option maxRecDepth 100000 in
theorem span_any (s n : Int) (w : World) (hs : s ≤ 9223372036854775807) : Calls Try.prog 47 #[.int .i64 s, .int .i64 n] w fun e w' => e = .returned (.bool (spanB s n)) ∧ w' = w := by
  by_cases h0 : 0 ≤ s
  case neg =>
    have HF : Hid (spanB s n = false) := show _ = _ by
      cases hb : spanB s n with
      | false => rfl
      | true => have := spanB_iff.1 hb; omega
    go_enter Try.func47, Try.ntmps47
    go_wp2
    go_ret
    exact ⟨by rw [HF.out]; rfl, rfl⟩
  case pos =>
  by_cases h1 : s < 64
  case neg =>
    have HF : Hid (spanB s n = false) := show _ = _ by
      cases hb : spanB s n with
      | false => rfl
      | true => have := spanB_iff.1 hb; omega
    go_enter Try.func47, Try.ntmps47
    go_wp2
    go_ret
    exact ⟨by rw [HF.out]; rfl, rfl⟩
  case pos =>
  by_cases h2 : 1 ≤ n
  case neg =>
    have HF : Hid (spanB s n = false) := show _ = _ by
      cases hb : spanB s n with
      | false => rfl
      | true => have := spanB_iff.1 hb; omega
    go_enter Try.func47, Try.ntmps47
    go_wp2
    go_ret
    exact ⟨by rw [HF.out]; rfl, rfl⟩
  case pos =>
  by_cases h3 : n ≤ 64 - s
  case neg =>
    have HF : Hid (spanB s n = false) := show _ = _ by
      cases hb : spanB s n with
      | false => rfl
      | true => have := spanB_iff.1 hb; omega
    go_enter Try.func47, Try.ntmps47
    go_wp2
    go_ret
    exact ⟨by rw [HF.out]; rfl, rfl⟩
  case pos =>
    have HF : Hid (spanB s n = true) := spanB_iff.2 ⟨h0, h2, h3⟩
    go_enter Try.func47, Try.ntmps47
    go_wp2
    go_ret
    exact ⟨by rw [HF.out]; rfl, rfl⟩

/-- Right areas of which none begins ahead of the end of one ahead. -/
def Lies (l : List Ar) : Prop := (∀ a ∈ l, ArOk a) ∧ ∀ (i : Nat) a, l[i]? = some a → ∀ j : Nat, a.fr ≤ (j : Int) → onAt (l.take i) j = on0
theorem CanP.lies {l : List Ar} (h : CanP none l) : Lies l := ⟨h.all, fun _ _ ha _ hj => h.free ha hj⟩
theorem lies_two {b a : Ar} (hb : ArOk b) (ha : ArOk a) (hf : b.to ≤ a.fr) : Lies [b, a] := by
  refine ⟨fun x hx => ?_, fun i x hx j hj => ?_⟩
  · simp at hx
    rcases hx with rfl | rfl
    · exact hb
    · exact ha
  · match i with
    | 0 => rfl
    | 1 =>
      simp at hx
      subst hx
      show onAt [b] j = on0
      rw [onAt_out (.inr (by omega))]
      rfl
    | k + 2 => simp at hx
theorem lies_one {a : Ar} (ha : ArOk a) : Lies [a] := by
  refine ⟨fun x hx => ?_, fun i x hx j hj => ?_⟩
  · simp at hx
    subst hx
    exact ha
  · match i with
    | 0 => rfl
    | k + 1 => simp at hx

theorem midO_step {l : List Ar} {i : Nat} {a : Ar} {n : Nat} (hn : a.fr ≤ (n : Int)) : upd (midF l i a n) n (oneOf a n) = midF l i a (n + 1) := by
  funext j
  unfold upd midF
  by_cases e : j = n
  · subst e
    rw [if_pos rfl, if_pos (by omega)]
  · rw [if_neg e]
    by_cases h : a.fr ≤ (j : Int) ∧ (j : Int) < (n : Int)
    · rw [if_pos h, if_pos (by omega)]
    · rw [if_neg h, if_neg (by omega)]
theorem midO_end {l : List Ar} {i : Nat} {a : Ar} {n : Nat} (h : Lies l) (ha : l[i]? = some a) (hn : (n : Int) = a.to) : midF l i a n = onAt (l.take (i + 1)) := by
  funext j
  unfold midF
  rw [take_snoc ha, onAt_snoc]
  · by_cases h1 : a.fr ≤ (j : Int) ∧ (j : Int) < (n : Int)
    · rw [if_pos h1, if_pos (inB_iff.2 (by omega))]
    · rw [if_neg h1, if_neg (fun h2 => h1 (by have := inB_iff.1 h2; omega))]
  · by_cases h1 : a.fr ≤ (j : Int)
    · exact .inl (h.2 i a ha j h1)
    · exact .inr (inB_no (by omega))
theorem upd_upd {α : Type} (f : Nat → α) (k : Nat) (x y : α) : upd (upd f k x) k y = upd f k y := by
  funext j
  unfold upd
  by_cases e : j = k
  · rw [if_pos e, if_pos e]
  · rw [if_neg e, if_neg e, if_neg e]

set_option maxRecDepth 100000 in
set_option maxHeartbeats 2000000 in
theorem refOnes_any (v : Value) (l : List Ar) (w : World) (hv : RowAt arE w v l) (hok : Lies l) :
    Calls Try.prog 22 #[v] w fun e w' => e = .returned (.agg (cellsO (tab (onAt l))).toArray) ∧ Grew w w' := by
  have hbig := hv.short
  obtain ⟨a, c, rfl, hrow⟩ := hv.ars
  have HR : Hid (ArRows w a l) := hrow
  have HOK : Hid (Lies l) := hok
  clear hrow hv hok
  have hz := run_zeroO
  obtain ⟨Z0, HZ0⟩ : ∃ Z0, Hid (cellsO (tab fun _ => on0) = Z0) := ⟨_, rfl⟩
  rw [HZ0.out] at hz
  have HZL : Hid (Z0.length = 384) := show _ = _ by rw [← HZ0.out, tabO_len]
  obtain ⟨C, HC⟩ : ∃ C, Hid (cellsO (tab (onAt l)) = C) := ⟨_, rfl⟩
  rw [HC.out]
  obtain ⟨n, HN⟩ : ∃ n, Hid (l.length = n) := ⟨_, rfl⟩
  rw [HN.out] at hbig ⊢
  obtain ⟨W0, hW0⟩ : ∃ W0, (w.alloc (.cells Z0.toArray 49)).alloc (.cells Z0.toArray 49) = W0 := ⟨_, rfl⟩
  have HG0 : Hid (Grew w W0) := show Grew w W0 by rw [← hW0]; exact (grew_alloc _ _).trans (grew_alloc _ _)
  have Y0 : Hid (Box W0 w.heap.size Z0) := show Box _ _ _ by rw [← hW0]; exact (Box.top _ _ _ (by simp)).alloc _
  have L0 : Hid (Box W0 (w.heap.size + 1) (cellsO (tab (onAt (l.take 0))))) := show Box _ _ _ by rw [← hW0, List.take_zero, show onAt ([] : List Ar) = fun _ => on0 from rfl, HZ0.out]; exact Box.top _ _ _ (by simp)
  have HW0 : Hid (_ = W0) := hW0
  clear hW0
  go_enter Try.func22, Try.ntmps22
  go_upto_region 2 with fail
  rw [HW0.out]
  clear hz
  go_wp2
  go_loopg [9] n (fun gg s9 wr => ∃ kk : Nat, kk ≤ n ∧ n - kk ≤ gg ∧ s9 = .int .i64 kk ∧ Hid (Grew w wr) ∧ Hid (Box wr w.heap.size Z0) ∧ Hid (Box wr (w.heap.size + 1) (cellsO (tab (onAt (l.take kk))))))
  case atStart => exact ⟨0, Nat.zero_le _, by omega, rfl, HG0.out, Y0.out, L0.out⟩
  case round =>
    obtain ⟨kk, hkk, hg, rfl, BW, YW, LW⟩ := hrel
    by_cases hlt : kk < n
    · have hltz : (kk : Int) < (n : Int) := by omega
      obtain ⟨q, HQ⟩ : ∃ q, Hid (l[kk]? = some q) := ⟨_, List.getElem?_eq_getElem (by rw [HN.out]; exact hlt)⟩
      obtain ⟨ad, rfl, hl⟩ := HR.out kk q HQ.out
      obtain ⟨d0, d1, d2, d3, d4, d5, d6⟩ := hl wr BW.out
      have HQK : Hid (ArOk q) := HOK.out.1 q (List.mem_of_getElem? HQ.out)
      have hqb : 0 ≤ q.fr ∧ q.fr < q.to ∧ q.to ≤ 64 ∧ 0 ≤ q.base ∧ q.base ≤ 12 := by
        have := HQK.out
        unfold ArOk at this
        rcases Int.lt_or_le q.file 0 with h | h
        · omega
        · omega
      obtain ⟨hq1, hq2, hq3, hq4, hq5⟩ := hqb
      obtain ⟨p, HP⟩ : ∃ p, Hid (wr.heap.size = p) := ⟨_, rfl⟩
      have HLP : Hid (w.heap.size + 1 < p) := show _ < _ by rw [← HP.out]; exact LW.out.lt
      clear hl
      go_upto_region 5 with fail
      obtain ⟨W1, hW1⟩ : ∃ W1, wr.alloc (.cells #[.int .i64 q.fr, .int .i64 q.to, .bool q.rd, .bool q.wr, .bool q.sh, .int .i64 q.file, .int .i64 q.base] 37) = W1 := ⟨_, rfl⟩
      have G1 : Hid (Grew w W1) := show Grew _ _ by rw [← hW1]; exact BW.out.trans (grew_alloc _ _)
      have Y1 : Hid (Box W1 w.heap.size Z0) := show Box _ _ _ by rw [← hW1]; exact YW.out.alloc _
      obtain ⟨f0, hf0⟩ : ∃ f0 : Nat, (f0 : Int) = q.fr := ⟨q.fr.toNat, by omega⟩
      have L1 : Hid (Box W1 (w.heap.size + 1) (cellsO (tab (midF l kk q f0)))) := show Box _ _ _ by rw [← hW1, mid_start hf0]; exact LW.out.alloc _
      have P1 : Hid (Box W1 p [.int .i64 q.fr, .int .i64 q.to, .bool q.rd, .bool q.wr, .bool q.sh, .int .i64 q.file, .int .i64 q.base]) := show Box _ _ _ by rw [← hW1]; exact Box.top _ _ _ HP.out.symm
      rw [hW1, HP.out]
      clear hW1 d0 d1 d2 d3 d4 d5 d6
      have p0 := P1.out.c 0 rfl
      go_wp2
      go_loopg [6] (q.to.toNat - f0) (fun g2 s6 wr2 => ∃ k2 : Nat, f0 ≤ k2 ∧ (k2 : Int) ≤ q.to ∧ q.to.toNat - k2 ≤ g2 ∧ s6 = .int .i64 k2 ∧ Hid (Grew w wr2) ∧ Hid (Box wr2 w.heap.size Z0) ∧ Hid (Box wr2 (w.heap.size + 1) (cellsO (tab (midF l kk q k2)))) ∧ Hid (Box wr2 p [.int .i64 q.fr, .int .i64 q.to, .bool q.rd, .bool q.wr, .bool q.sh, .int .i64 q.file, .int .i64 q.base]))
      case atStart => exact ⟨f0, Nat.le_refl _, by omega, by omega, by rw [hf0], G1.out, Y1.out, L1.out, P1.out⟩
      case round =>
        obtain ⟨k2, hk2, hk2', hg2, rfl, BW2, YW2, LW2, PW2⟩ := hrel
        clear p0
        have p1 := PW2.out.c 1 rfl
        by_cases hlt2 : (k2 : Int) < q.to
        · have hi64 : k2 < 64 := by omega
          have hi64z : (k2 : Int) < 64 := by omega
          have HST : Hid (upd (midF l kk q k2) k2 (oneOf q k2) = midF l kk q (k2 + 1)) := midO_step (l := l) (i := kk) (a := q) (n := k2) (by omega)
          have p2 := PW2.out.c 2 rfl
          have p3 := PW2.out.c 3 rfl
          have p4 := PW2.out.c 4 rfl
          have p5 := PW2.out.c 5 rfl
          go_wp2_with (refine wp_storeOn rfl (.tmp 31) (.tmp 30) rfl (w.heap.size + 1) k2 hi64 rfl ⟨true, q.rd, q.wr, q.sh, q.file, 0⟩ rfl LW2.out ?_)
          intro W3 b3 g3 s3
          have L3 : Hid (Box W3 (w.heap.size + 1) (cellsO (tab (upd (midF l kk q k2) k2 ⟨true, q.rd, q.wr, q.sh, q.file, 0⟩)))) := b3
          have G3 : Hid (Grew w W3) := grew_grown BW2.out g3 (by simp)
          have Y3 : Hid (Box W3 w.heap.size Z0) := YW2.out.beside g3 (by intro g hg; cases hg; simp)
          have P3 : Hid (Box W3 p [.int .i64 q.fr, .int .i64 q.to, .bool q.rd, .bool q.wr, .bool q.sh, .int .i64 q.file, .int .i64 q.base]) := PW2.out.beside g3 (by intro g hg; cases hg; have := HLP.out; omega)
          clear b3 g3 s3 p1 p2 p3 p4 p5
          have p5 := P3.out.c 5 rfl
          by_cases hfile : 0 ≤ q.file
          · have HONE : Hid (oneOf q k2 = ⟨true, q.rd, q.wr, q.sh, q.file, q.base + (k2 : Int) - q.fr⟩) := show _ = _ by
              unfold oneOf
              rw [if_pos hfile]
              congr 1
              omega
            have p0 := P3.out.c 0 rfl
            have p6 := P3.out.c 6 rfl
            have l5 := L3.out.c (k2 * 6 + 5) (cellsO_at (tab_at hi64) 5 (.int .i64 0) (by unfold upd; rw [if_pos rfl]; rfl))
            have lf := L3.out.f
            go_upto_region 7 with fail
            obtain ⟨W4, hW4⟩ : ∃ W4, W3.setCell ⟨w.heap.size + 1, k2 * 6 + 5, none⟩ (.int .i64 (q.base + (k2 : Int) - q.fr)) = W4 := ⟨_, rfl⟩
            have L4 : Hid (Box W4 (w.heap.size + 1) (cellsO (tab (midF l kk q (k2 + 1))))) := show Box _ _ _ by
              rw [← hW4]
              have := L3.out.onCell hi64 5 (.int .i64 (q.base + (k2 : Int) - q.fr)) (oneOf q k2) (by rw [HONE.out]; unfold upd; rw [if_pos rfl]; rfl) (by omega)
              rw [upd_upd, HST.out] at this
              exact this
            have G4 : Hid (Grew w W4) := show Grew _ _ by rw [← hW4]; exact grew_set G3.out (by simp) _
            have Y4 : Hid (Box W4 w.heap.size Z0) := show Box _ _ _ by rw [← hW4]; exact Y3.out.other (by simp) _
            have P4 : Hid (Box W4 p [.int .i64 q.fr, .int .i64 q.to, .bool q.rd, .bool q.wr, .bool q.sh, .int .i64 q.file, .int .i64 q.base]) := show Box _ _ _ by rw [← hW4]; exact P3.out.other (by have := HLP.out; simp; omega) _
            rw [hW4]
            clear hW4 l5 lf p0 p5 p6
            go_wp2
            go_roundg (q.to.toNat - (k2 + 1))
            case measure => omega
            case rel => exact ⟨k2 + 1, by omega, by omega, by omega, by go_num, G4.out, Y4.out, L4.out, P4.out⟩
          · have HONE : Hid (oneOf q k2 = ⟨true, q.rd, q.wr, q.sh, q.file, 0⟩) := show _ = _ by
              unfold oneOf
              rw [if_neg hfile]
            have L4 : Hid (Box W3 (w.heap.size + 1) (cellsO (tab (midF l kk q (k2 + 1))))) := show Box _ _ _ by rw [← HST.out, HONE.out]; exact L3.out
            go_wp2
            go_roundg (q.to.toNat - (k2 + 1))
            case measure => omega
            case rel => exact ⟨k2 + 1, by omega, by omega, by omega, by go_num, G3.out, Y3.out, L4.out, P3.out⟩
        · have hke : (k2 : Int) = q.to := by omega
          have LE : Hid (Box wr (w.heap.size + 1) (cellsO (tab (onAt (l.take (kk + 1)))))) := show Box _ _ _ by rw [← midO_end HOK.out HQ.out hke]; exact LW2.out
          go_wp2
          go_roundg (n - (kk + 1))
          case measure => omega
          case rel => exact ⟨kk + 1, by omega, by omega, by go_num, BW2.out, YW2.out, LE.out⟩
    · have hltz : ¬ (kk : Int) < (n : Int) := by omega
      have : kk = n := by omega
      subst this
      have LE : Hid (Box wr (w.heap.size + 1) C) := show Box _ _ _ by rw [← HC.out]; have := LW.out; rw [← HN.out, List.take_length] at this; exact this
      have HFL : Hid (C.length = 384) := show _ = _ by rw [← HC.out, tabO_len]
      have HFO : Hid (∀ v ∈ C, v.oneCell' = true) := show ∀ v ∈ C, _ by rw [← HC.out]; exact cellsO_one _
      go_wp2_with (first | refine wp_loadAll rfl 49 (.tmp 3) rfl (w.heap.size + 1) rfl LE.out Try.underlying49 rfl (by rw [HFL.out]; exact Try.sizeOnes) ?_ | refine wp_storeAll rfl 49 (.tmp 2) (.tmp 46) rfl w.heap.size rfl C rfl YW.out (by rw [HFL.out, HZL.out]) (by rw [HZL.out]; exact Try.sizeOnes) HFO.out ?_)
      intro W3 b3 g3 s3
      have G3 : Hid (Grew w W3) := show Grew _ _ from grew_grown BW.out g3 (by simp)
      have B3 : Hid (Box W3 w.heap.size C) := b3
      clear b3 g3 s3
      go_wp2
      refine bodyPost_ret (ret_cell rfl _ rfl B3.out Try.underlying49 rfl (by rw [HFL.out]; exact Try.sizeOnes)) rfl ⟨rfl, G3.out⟩

end Go.Proofs.Ytlkgmjdhggfimad
