/- The walk of the law DiskCrash. -/
import Derived.Test.YtbcaagmnmaonbabPure
import Derived.Test.YtbcaagmnmaonbabPageEq
import Derived.BigQuiet
import Derived.WalkSmall
namespace Go.Proofs.Ytbcaagmnmaonbab
open Go.RowKit

theorem Try.infoU8 : (Try.prog.info? 5).map (fun i => (i.zero, i.size, i.bytes)) = some (some (.int .u8 0), 1, 1) := by kernel_rfl

/-- What '==' answers of two pages. -/
theorem page_eq (a b : List Int) (ha : a.length = 8) (hb : b.length = 8) (x : World) : (Op.equalIn 10000 31 (.agg (pgc a).toArray) (.agg (pgc b).toArray)).run Try.prog x = .ok (decide (a = b)) x := by
  obtain ⟨i5, hi5, _, hz1, _⟩ := info_parts Try.infoU8
  exact run_equal_ints (P := Try.prog) x 31 5 .u8 9998 8 a b i5 Try.underlying31 Try.underlying5 hi5 hz1 ha hb

theorem settle_len (keep : Nat → Bool) : ∀ (qs : List (Int × List Int)) (j : Nat) (ps : List (List Int)), (settleL keep qs j ps).length = ps.length
  | [], _, _ => rfl
  | q :: r, j, ps => by
    unfold settleL
    rw [settle_len keep r]
    split <;> simp

/-- A block is old, or one that was written. -/
theorem settle_old (keep : Nat → Bool) (i : Nat) : ∀ (qs : List (Int × List Int)) (j : Nat) (ps : List (List Int)), (settleL keep qs j ps)[i]? = ps[i]? ∨ ∃ q ∈ qs, q.1.toNat = i ∧ (settleL keep qs j ps)[i]? = some q.2
  | [], _, _ => .inl rfl
  | q :: r, j, ps => by
    unfold settleL
    rcases settle_old keep i r (j + 1) (if keep j then ps.set q.1.toNat q.2 else ps) with h | ⟨x, hx, h1, h2⟩
    · by_cases hk : keep j = true
      · rw [if_pos hk] at h ⊢
        by_cases hq : q.1.toNat = i
        · rcases Nat.lt_or_ge i ps.length with hlt | hge
          · right
            refine ⟨q, by simp, hq, ?_⟩
            rw [h, hq]
            simp [hlt]
          · left
            rw [h, List.getElem?_eq_none (by simpa using hge), List.getElem?_eq_none hge]
        · left
          rw [h, List.getElem?_set_ne hq]
      · rw [if_neg hk] at h ⊢
        exact .inl h
    · exact .inr ⟨x, by simp [hx], h1, h2⟩

theorem settle_ok8 {ps : List (List Int)} {qs : List (Int × List Int)} (keep : Nat → Bool) (h : Ok8 ps qs) (j : Nat) : Ok8 (settleL keep qs j ps) [] := by
  refine ⟨fun p hp => ?_, by simp⟩
  obtain ⟨k, hk⟩ := List.getElem?_of_mem hp
  rcases settle_old keep k qs j ps with h2 | ⟨q, hq, _, h3⟩
  · rw [h2] at hk
    exact h.1 p (List.mem_of_getElem? hk)
  · rw [h3] at hk
    cases hk
    exact h.2 q hq

/-- What is read behind a crash. -/
theorem crash_read {ps : List (List Int)} {qs : List (Int × List Int)} (keep : Nat → Bool) (h : wrongL ps.length qs = 0) {i : Nat} (hi : i < ps.length) {pg : List Int} (hpg : ps[i]? = some pg) :
    wrongAtL (settleL keep qs 0 ps).length [] (i : Int) = 0 ∧ ∃ P, readL (settleL keep qs 0 ps) [] (i : Int) = P ∧ (P = pg ∨ ∃ q ∈ qs, q.1 = (i : Int) ∧ q.2 = P) := by
  have h1 : wrongAtL (settleL keep qs 0 ps).length [] (i : Int) = 0 := wrongAtL_ok (wrongL_ok (by rw [settle_len]; exact (wrongL_zero h).1) (by simp) (by simp)) rfl (by rw [settle_len]; exact hi)
  refine ⟨h1, _, rfl, ?_⟩
  rw [readL_of h1]
  simp only [List.reverse_nil, List.find?_nil, pickQ, Int.toNat_natCast, List.getD_eq_getElem?_getD]
  rcases settle_old keep i qs 0 ps with h2 | ⟨q, hq, h2, h3⟩
  · left
    rw [h2, hpg]
    rfl
  · right
    obtain ⟨k, hk, _⟩ := (wrongL_zero h).2.2 q hq
    refine ⟨q, hq, ?_, by rw [h3]; rfl⟩
    rw [hk] at h2 ⊢
    simp only [Int.toNat_natCast] at h2
    rw [h2]

set_option maxRecDepth 100000 in
set_option maxHeartbeats 600000 in
theorem crashLaw_out (d : Value) (ps : List (List Int)) (qs : List (Int × List Int)) (bits_ m : Int) (w : World) (hd : DiskAt w d ps qs) (ho : ¬ wrongL ps.length qs = 0 ∨ m < 0 ∨ (ps.length : Int) ≤ m) :
    Calls Try.prog 3 #[d, .int .i64 bits_, .int .i64 m] w fun e w' => e = .returned (.bool true) ∧ Grew w w' := by
  have HD : Hid (DiskAt w d ps qs) := hd
  obtain ⟨b, q, rfl, hb, hq⟩ := hd
  obtain ⟨ab, cb, rfl, _⟩ := hb.rows
  obtain ⟨aq, cq, rfl, _⟩ := hq.rows
  clear hb hq
  obtain ⟨W0, hW0⟩ : ∃ W0, w.alloc (.cells #[.slice ab ps.length cb, .slice aq qs.length cq] 25) = W0 := ⟨_, rfl⟩
  have HG0 : Hid (Grew w W0) := show Grew w W0 by rw [← hW0]; exact grew_alloc _ _
  have X0 : Hid (Box W0 w.heap.size [.slice ab ps.length cb, .slice aq qs.length cq]) := show Box _ _ _ by rw [← hW0]; exact Box.top w [.slice ab ps.length cb, .slice aq qs.length cq] _ rfl
  have hcr : ∀ W, Grew w W → Calls Try.prog 9 #[.agg #[.slice ab ps.length cb, .slice aq qs.length cq], .int .i64 bits_] W fun e w' => ∃ d', e = .returned (.tuple #[d', .int .i64 (wrongL ps.length qs)]) ∧ NewDisk W.heap.size w' d' (keepD (crashK bits_) ps qs) [] ∧ Grew W w' := fun W hW => crash_any _ ps qs bits_ W (HD.out.grew hW)
  obtain ⟨r, HR⟩ : ∃ r, Hid (wrongL ps.length qs = r) := ⟨_, rfl⟩
  rw [HR.out] at ho
  simp only [HR.out] at hcr
  obtain ⟨nb, HNB⟩ : ∃ nb, Hid (ps.length = nb) := ⟨_, rfl⟩
  obtain ⟨nq, HNQ⟩ : ∃ nq, Hid (qs.length = nq) := ⟨_, rfl⟩
  rw [HNB.out] at ho
  rw [HNB.out, HNQ.out] at hW0 X0 ⊢
  simp only [HNB.out, HNQ.out] at hcr
  have HW0 : Hid (_ = W0) := hW0
  clear hW0
  have hcases : (r != 0) = true ∨ ((r != 0) = false ∧ m < 0) ∨ ((r != 0) = false ∧ ¬ m < 0 ∧ (nb : Int) ≤ m) := by
    by_cases h1 : r = 0
    · subst h1
      by_cases h2 : m < 0
      · exact .inr (.inl ⟨rfl, h2⟩)
      · exact .inr (.inr ⟨rfl, h2, by omega⟩)
    · exact .inl (by simpa using h1)
  clear ho
  rcases hcases with h1 | ⟨h1, h2⟩ | ⟨h1, h2, h3⟩
  all_goals
    go_enter Try.func3, Try.ntmps3
    go_wp2_with (first
      | (go_at_call 8; rw [HW0.out]; refine (aliveDisk_any W0).mono ?_; rintro e W1 ⟨rfl, g1⟩
         have G1 : Hid (Grew W0 W1) := g1
         have e0 := (X0.out.grew g1).c 0 rfl
         have e1 := (X0.out.grew g1).c 1 rfl)
      | (go_at_call 9; refine (hcr W1 (HG0.out.trans G1.out)).mono ?_; rintro e W2 ⟨d2, rfl, nd2, g2⟩
         obtain ⟨yb, db, yq, dq, rfl, nd2⟩ := nd2.open
         have G2 : Hid (Grew W1 W2) := g2
         clear e0 e1
         have e0 := ((X0.out.grew G1.out).grew g2).c 0 rfl
         have el := ((X0.out.grew G1.out).grew g2).lt))
    go_ret
    exact ⟨rfl, ((HG0.out.trans G1.out).trans G2.out).trans (grew_alloc _ _)⟩

set_option maxRecDepth 100000 in
set_option maxHeartbeats 1000000 in
theorem crashLaw_in (d : Value) (ps : List (List Int)) (qs : List (Int × List Int)) (bits_ : Int) (i : Nat) (w : World) (hd : DiskAt w d ps qs) (h0 : wrongL ps.length qs = 0) (hi : i < ps.length) :
    Calls Try.prog 3 #[d, .int .i64 bits_, .int .i64 (i : Int)] w fun e w' => e = .returned (.bool true) ∧ Grew w w' := by
  have HD : Hid (DiskAt w d ps qs) := hd
  obtain ⟨b, q, rfl, hb, hq⟩ := hd
  obtain ⟨ab, cb, rfl, hrb⟩ := hb.rows
  obtain ⟨aq, cq, rfl, hrq⟩ := hq.rows
  have HRQ : Hid (PutRows w aq qs) := hrq
  obtain ⟨pg, hpg⟩ : ∃ pg, ps[i]? = some pg := ⟨_, List.getElem?_eq_getElem hi⟩
  obtain ⟨hcw, P, hcr1, hor⟩ := crash_read (crashK bits_) h0 hi hpg
  obtain ⟨P0, P1, P2, P3, P4, P5, P6, P7, rfl⟩ := len8 P (by rw [← hcr1]; exact readL_len (settle_ok8 (crashK bits_) ⟨hb.2.1, hq.2.1⟩ 0) _)
  obtain ⟨xa, b0, b1, b2, b3, b4, b5, b6, b7, hxa, rfl, hrow⟩ := hrb i pg hpg
  subst hxa
  have HROW : Hid (∀ W, Grew w W → PageCells W (xa.add (i * 8)) b0 b1 b2 b3 b4 b5 b6 b7) := hrow
  have HOR : Hid ([P0, P1, P2, P3, P4, P5, P6, P7] = [b0, b1, b2, b3, b4, b5, b6, b7] ∨ ∃ q ∈ qs, q.1 = (i : Int) ∧ q.2 = [P0, P1, P2, P3, P4, P5, P6, P7]) := hor
  have hbig : qs.length ≤ 9223372036854775807 := by have := hq.2.2; omega
  clear hb hq hrb hrq hor hrow hpg
  obtain ⟨W0, hW0⟩ : ∃ W0, w.alloc (.cells #[.slice (some xa) ps.length cb, .slice aq qs.length cq] 25) = W0 := ⟨_, rfl⟩
  have HG0 : Hid (Grew w W0) := show Grew w W0 by rw [← hW0]; exact grew_alloc _ _
  have X0 : Hid (Box W0 w.heap.size [.slice (some xa) ps.length cb, .slice aq qs.length cq]) := show Box _ _ _ by rw [← hW0]; exact Box.top w [.slice (some xa) ps.length cb, .slice aq qs.length cq] _ rfl
  have hcr : ∀ W, Grew w W → Calls Try.prog 9 #[.agg #[.slice (some xa) ps.length cb, .slice aq qs.length cq], .int .i64 bits_] W fun e w' => ∃ d', e = .returned (.tuple #[d', .int .i64 0]) ∧ NewDisk W.heap.size w' d' (settleL (crashK bits_) qs 0 ps) [] ∧ Grew W w' := fun W hW => by
    have h := crash_any _ ps qs bits_ W (HD.out.grew hW)
    rw [show keepD (crashK bits_) ps qs = settleL (crashK bits_) qs 0 ps from if_pos h0, h0] at h
    exact h
  have HCW : Hid (wrongAtL (settleL (crashK bits_) qs 0 ps).length [] (i : Int) = 0 ∧ readL (settleL (crashK bits_) qs 0 ps) [] (i : Int) = [P0, P1, P2, P3, P4, P5, P6, P7]) := ⟨hcw, hcr1⟩
  obtain ⟨nb, HNB⟩ : ∃ nb, Hid (ps.length = nb) := ⟨_, rfl⟩
  obtain ⟨kq, HNQ⟩ : ∃ kq, Hid (qs.length = kq) := ⟨_, rfl⟩
  rw [HNB.out] at hi
  rw [HNQ.out] at hbig
  rw [HNB.out, HNQ.out] at hW0 X0 ⊢
  simp only [HNB.out, HNQ.out] at hcr
  have HW0 : Hid (_ = W0) := hW0
  have hib : (i : Int) < (nb : Int) := by omega
  have hi0 : ¬ (i : Int) < 0 := by omega
  have hig : ¬ (nb : Int) ≤ (i : Int) := by omega
  clear hW0 hcw hcr1 h0 hi
  go_enter Try.func3, Try.ntmps3
  go_wp2_with (first
    | (go_at_call 8; rw [HW0.out]; refine (aliveDisk_any W0).mono ?_; rintro e W1 ⟨rfl, g1⟩
       have G1 : Hid (Grew W0 W1) := g1
       have e0 := (X0.out.grew g1).c 0 rfl
       have e1 := (X0.out.grew g1).c 1 rfl)
    | (go_at_call 9; refine (hcr W1 (HG0.out.trans G1.out)).mono ?_; rintro e W2 ⟨d2, rfl, nd2, g2⟩
       obtain ⟨yb, db, yq, dq, rfl, nd2⟩ := nd2.open
       have G2 : Hid (Grew W1 W2) := g2
       have rd : ∀ W, Grew W2 W → Calls Try.prog 10 #[.agg #[.slice yb (settleL (crashK bits_) qs 0 ps).length db, .slice yq 0 dq], .int .i64 (i : Int)] W fun x w' => x = .returned (.tuple #[.agg #[.int .u8 P0, .int .u8 P1, .int .u8 P2, .int .u8 P3, .int .u8 P4, .int .u8 P5, .int .u8 P6, .int .u8 P7], .int .i64 0]) ∧ Grew W w' := (fun W hW => by
         have h := read_any _ _ [] (i : Int) W (nd2.at.grew hW)
         rw [HCW.out.1, HCW.out.2] at h
         exact h)
       clear e0 e1 hcr
       have e0 := ((X0.out.grew G1.out).grew g2).c 0 rfl
       have el := ((X0.out.grew G1.out).grew g2).lt
       generalize (settleL (crashK bits_) qs 0 ps).length = lb at *)
    | (go_at_call 10; refine (rd _ (grew_alloc W2 _)).mono ?_; clear rd; rintro e W3 ⟨rfl, g3⟩
       have G3 : Hid (Grew W2 W3) := (grew_alloc W2 _).trans g3
       have B3 := (Box.top W2 [.slice yb lb db, .slice yq 0 dq] 25 rfl).grew g3
       clear e0 el
       have y1 := B3.c 1 rfl
       have yl := B3.lt
       clear B3))
  obtain ⟨V, hV⟩ : ∃ V, W3.alloc (.cells #[.int .u8 P0, .int .u8 P1, .int .u8 P2, .int .u8 P3, .int .u8 P4, .int .u8 P5, .int .u8 P6, .int .u8 P7] 31) = V := ⟨_, rfl⟩
  have GV : Hid (Grew w V) := show Grew w V by rw [← hV]; exact ((HG0.out.trans (G1.out.trans G2.out)).trans G3.out).trans (grew_alloc _ _)
  have BP : Hid (Box V W3.heap.size [.int .u8 P0, .int .u8 P1, .int .u8 P2, .int .u8 P3, .int .u8 P4, .int .u8 P5, .int .u8 P6, .int .u8 P7]) := show Box _ _ _ by rw [← hV]; exact Box.top W3 [.int .u8 P0, .int .u8 P1, .int .u8 P2, .int .u8 P3, .int .u8 P4, .int .u8 P5, .int .u8 P6, .int .u8 P7] _ rfl
  have BD : Hid (Box V w.heap.size [.slice (some xa) nb cb, .slice aq kq cq]) := show Box _ _ _ by rw [← hV]; exact (((X0.out.grew G1.out).grew G2.out).grew G3.out).alloc _
  rw [hV]
  clear hV y1 yl
  obtain ⟨d0, d1, d2, d3, d4, d5, d6, d7⟩ := HROW.out V GV.out
  have v0 := BD.out.c 0 rfl
  have v1 := BD.out.c 1 rfl
  have p0 := BP.out.c 0 rfl
  have p1 := BP.out.c 1 rfl
  have p2 := BP.out.c 2 rfl
  have p3 := BP.out.c 3 rfl
  have p4 := BP.out.c 4 rfl
  have p5 := BP.out.c 5 rfl
  have p6 := BP.out.c 6 rfl
  have p7 := BP.out.c 7 rfl
  have pe := page_eq [P0, P1, P2, P3, P4, P5, P6, P7] [b0, b1, b2, b3, b4, b5, b6, b7] rfl rfl
  change ∀ x, (Op.equalIn 10000 31 (.agg #[.int .u8 P0, .int .u8 P1, .int .u8 P2, .int .u8 P3, .int .u8 P4, .int .u8 P5, .int .u8 P6, .int .u8 P7]) (.agg #[.int .u8 b0, .int .u8 b1, .int .u8 b2, .int .u8 b3, .int .u8 b4, .int .u8 b5, .int .u8 b6, .int .u8 b7])).run Try.prog x = .ok (decide ([P0, P1, P2, P3, P4, P5, P6, P7] = [b0, b1, b2, b3, b4, b5, b6, b7])) x at pe
  by_cases he : [P0, P1, P2, P3, P4, P5, P6, P7] = [b0, b1, b2, b3, b4, b5, b6, b7]
  · rw [decide_eq_true he] at pe
    clear he
    go_quiet (fail)
    go_wp2
    go_ret
    exact ⟨rfl, GV.out.trans (show Below _ _ _ from Go.below_drewN (Below.refl _ _) nq)⟩
  · rw [decide_eq_false he] at pe
    obtain ⟨q, hqm, hq1, hq2⟩ := HOR.out.resolve_left he
    obtain ⟨jq, hjq⟩ := List.getElem?_of_mem hqm
    have HQ : Hid (qs[jq]? = some q ∧ q.1 = (i : Int) ∧ q.2 = [P0, P1, P2, P3, P4, P5, P6, P7]) := ⟨hjq, hq1, hq2⟩
    clear he hqm hq1 hq2 hjq
    go_quiet (fail)
    go_wp2
    have HGN : Hid (Grew V (V.drewN nq)) := show Grew _ _ from (show Below _ _ _ from Go.below_drewN (Below.refl _ _) nq)
    clear v0 v1 p0 p1 p2 p3 p4 p5 p6 p7 d0 d1 d2 d3 d4 d5 d6 d7 pe
    go_loopg [11, 57] kq (fun gg _ s57 wr => ∃ kk : Nat, kk ≤ kq ∧ kq - kk ≤ gg ∧ s57 = .int .i64 kk ∧ Hid (Grew V wr) ∧ Hid (kk ≤ jq))
    case atStart => exact ⟨0, Nat.zero_le _, by omega, rfl, HGN.out, Nat.zero_le _⟩
    case round =>
      obtain ⟨kk, hkk, hg, rfl, BW, A⟩ := hrel
      have hjl : jq < kq := by rw [← HNQ.out]; exact (List.getElem?_eq_some_iff.1 HQ.out.1).1
      have hlt : kk < kq := Nat.lt_of_le_of_lt A.out hjl
      have hltz : (kk : Int) < (kq : Int) := by omega
      obtain ⟨q', HQK⟩ : ∃ q', Hid (qs[kk]? = some q') := ⟨_, List.getElem?_eq_getElem (by rw [HNQ.out]; exact hlt)⟩
      obtain ⟨x, m, c0, c1, c2, c3, c4, c5, c6, c7, rfl, rfl, hl⟩ := HRQ.out kk q' HQK.out
      obtain ⟨d0, d1, d2, d3, d4, d5, d6, d7, d8⟩ := hl wr (GV.out.trans BW.out)
      have BPW := BP.out.grew BW.out
      have pl := BPW.lt
      have p0 := BPW.c 0 rfl
      have p1 := BPW.c 1 rfl
      have p2 := BPW.c 2 rfl
      have p3 := BPW.c 3 rfl
      have p4 := BPW.c 4 rfl
      have p5 := BPW.c 5 rfl
      have p6 := BPW.c 6 rfl
      have p7 := BPW.c 7 rfl
      clear BPW hl
      have pe := page_eq [c0, c1, c2, c3, c4, c5, c6, c7] [P0, P1, P2, P3, P4, P5, P6, P7] rfl rfl
      change ∀ x, (Op.equalIn 10000 31 (.agg #[.int .u8 c0, .int .u8 c1, .int .u8 c2, .int .u8 c3, .int .u8 c4, .int .u8 c5, .int .u8 c6, .int .u8 c7]) (.agg #[.int .u8 P0, .int .u8 P1, .int .u8 P2, .int .u8 P3, .int .u8 P4, .int .u8 P5, .int .u8 P6, .int .u8 P7])).run Try.prog x = .ok (decide ([c0, c1, c2, c3, c4, c5, c6, c7] = [P0, P1, P2, P3, P4, P5, P6, P7])) x at pe
      by_cases hm : m = (i : Int)
      · subst hm
        by_cases he : [c0, c1, c2, c3, c4, c5, c6, c7] = [P0, P1, P2, P3, P4, P5, P6, P7]
        · rw [decide_eq_true he] at pe
          clear he
          go_wp2
          go_ret
          exact ⟨rfl, (GV.out.trans BW.out).trans (grew_alloc _ _)⟩
        · have hne : ¬ kk = jq := fun e => by
            subst e
            have := HQK.out.symm.trans HQ.out.1
            cases this
            exact he HQ.out.2.2
          rw [decide_eq_false he] at pe
          clear he
          go_wp2
          go_roundg (kq - (kk + 1))
          case measure => omega
          case rel => exact ⟨kk + 1, by omega, by omega, by go_num, BW.out.trans (grew_alloc _ _), (show _ ≤ _ from by have := A.out; omega)⟩
      · have hmb : (m == (i : Int)) = false := by simpa using hm
        have hne : ¬ kk = jq := fun e => by
          subst e
          have := HQK.out.symm.trans HQ.out.1
          cases this
          exact hm HQ.out.2.1
        clear hm pe
        go_wp2
        go_roundg (kq - (kk + 1))
        case measure => omega
        case rel => exact ⟨kk + 1, by omega, by omega, by go_num, BW.out.trans (grew_alloc _ _), (show _ ≤ _ from by have := A.out; omega)⟩

theorem crashLaw_walk (d : Value) (ps : List (List Int)) (qs : List (Int × List Int)) (bits_ m : Int) (w : World) (hd : DiskAt w d ps qs) :
    Calls Try.prog 3 #[d, .int .i64 bits_, .int .i64 m] w fun e w' => e = .returned (.bool true) ∧ Grew w w' := by
  by_cases ho : ¬ wrongL ps.length qs = 0 ∨ m < 0 ∨ (ps.length : Int) ≤ m
  · exact crashLaw_out d ps qs bits_ m w hd ho
  · obtain ⟨i, rfl⟩ := Int.eq_ofNat_of_zero_le (show 0 ≤ m by omega)
    exact crashLaw_in d ps qs bits_ i w hd (by omega) (by omega)

end Go.Proofs.Ytbcaagmnmaonbab
