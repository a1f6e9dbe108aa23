/- Contract of settle (package disk): what waits is there for good where the predicate says so, in turn. -/
import Derived.Test.YtbcaagmnmaonbabStore
namespace Go.Proofs.Ytbcaagmnmaonbab
open Go.RowKit

/-- What comes of blocks: those of qs whose number (from j on) keep holds of, in turn. -/
def settleL (keep : Nat → Bool) : List (Int × List Int) → Nat → List (List Int) → List (List Int)
  | [], _, ps => ps
  | q :: r, j, ps => settleL keep r (j + 1) (if keep j then ps.set q.1.toNat q.2 else ps)

def keepD (keep : Nat → Bool) (ps : List (List Int)) (qs : List (Int × List Int)) : List (List Int) := if wrongL ps.length qs = 0 then settleL keep qs 0 ps else []

def StaysOk (g : Nat) (lb : Array Value) (keep : Nat → Bool) (w : World) : Prop :=
  ∀ W (j : Nat), Grew w W → j ≤ 400 → Calls Try.prog g (#[.int .i64 (j : Int)] ++ lb) W fun e W' => e = .returned (.bool (keep j)) ∧ Grew W W'

theorem wrongL_zero {n : Nat} {qs : List (Int × List Int)} (h : wrongL n qs = 0) : n ≤ 80 ∧ qs.length ≤ 400 ∧ ∀ q ∈ qs, ∃ i : Nat, q.1 = (i : Int) ∧ i < n := by
  unfold wrongL at h
  by_cases h1 : 80 < n
  · rw [if_pos h1] at h; omega
  · rw [if_neg h1] at h
    by_cases h2 : 400 < qs.length
    · rw [if_pos h2] at h; omega
    · rw [if_neg h2] at h
      by_cases h3 : (qs.any fun q => !inB q.1 n) = true
      · rw [if_pos h3] at h; omega
      · refine ⟨by omega, by omega, fun q hq => ?_⟩
        have h4 : inB q.1 n = true := by
          cases hb : inB q.1 n with
          | true => rfl
          | false => exact absurd (List.any_eq_true.2 ⟨q, hq, by simp [hb]⟩) h3
        unfold inB at h4
        simp at h4
        obtain ⟨i, hi⟩ := Int.eq_ofNat_of_zero_le h4.1
        exact ⟨i, hi, by omega⟩

theorem nilDisk (base : Nat) (w : World) : NewDisk base w (.agg #[.slice none 0 0, .slice none 0 0]) [] [] :=
  ⟨_, _, rfl, ⟨⟨none, 0, rfl, fun _ => rfl, fun x hx => by cases hx⟩, by simp, by simp⟩, ⟨⟨none, 0, rfl, fun _ => rfl, fun x hx => by cases hx⟩, by simp, by simp⟩, fresh_nil _, fresh_nil _⟩

theorem nilPuts (w : World) : PutsAt w (.slice none 0 0) [] := ⟨⟨none, 0, rfl, fun _ => rfl, fun x hx => by cases hx⟩, by simp, by simp⟩

theorem grew_grown {w W W' : World} {g : Nat} (h : Grew w W) (hg : W.grownBy W' (some g)) (hb : w.heap.size ≤ g) : Grew w W' :=
  Below.grown h hg (Below.size h) (fun k hk => by cases hk; exact hb)

theorem bel_grew {B : Nat} {a w w' : World} (h : Below B a w) (hB : B ≤ w.heap.size) (hg : Grew w w') : Below B a w' := h.trans (Below.mono hg hB)

set_option maxHeartbeats 4000000 in
theorem settle_any (keep : Nat → Bool) (g : Nat) (lb : Array Value) (eg : ∀ args w, (callFunc g args).run Try.prog w = .ok (.enter g args) w) (d : Value) (ps : List (List Int)) (qs : List (Int × List Int)) (w : World) (hd : DiskAt w d ps qs) (hs : StaysOk g lb keep w) :
    Calls Try.prog 27 #[d, .func (.func g) #[] lb] w fun e w' => ∃ d', e = .returned (.tuple #[d', .int .i64 (wrongL ps.length qs)]) ∧ NewDisk w.heap.size w' d' (keepD keep ps qs) [] ∧ Grew w w' := by
  obtain ⟨b, q, rfl, hb, hq⟩ := hd
  have HB : Hid (PagesAt w b ps) := hb
  have HQ : Hid (PutsAt w q qs) := hq
  have HS : Hid (StaysOk g lb keep w) := hs
  obtain ⟨ab, cb, rfl, _⟩ := hb.rows
  obtain ⟨aq, cq, rfl, hrow⟩ := hq.rows
  have HR : Hid (PutRows w aq qs) := hrow
  clear hb hq hs hrow
  have HK : Hid (keepD keep ps qs = if wrongL ps.length qs = 0 then settleL keep qs 0 ps else []) := rfl
  obtain ⟨nb, HNB⟩ : ∃ nb, Hid (ps.length = nb) := ⟨_, rfl⟩
  obtain ⟨nq, HNQ⟩ : ∃ nq, Hid (qs.length = nq) := ⟨_, rfl⟩
  have hcon : ∀ W, Grew w W → Calls Try.prog 26 #[.agg #[.slice ab nb cb, .slice aq nq cq]] W fun e w' => e = .returned (.int .i64 (wrongL ps.length qs)) ∧ Grew W w' := fun W hW => by
    rw [← HNB.out, ← HNQ.out]
    exact wrong_any ab ps.length cb _ qs W (HQ.out.grew hW)
  have hclone : ∀ W, Grew w W → Calls Try.prog 46 #[.slice ab nb cb] W fun e w' => ∃ v', e = .returned v' ∧ OwnPages W.heap.size w' v' ps ∧ Grew W w' := fun W hW => by
    rw [← HNB.out]
    exact clonePages_any _ ps W (HB.out.grew hW)
  rw [HNB.out, HNQ.out]
  obtain ⟨r, HW⟩ : ∃ r, Hid (wrongL ps.length qs = r) := ⟨_, rfl⟩
  rw [HW.out] at HK
  simp only [HW.out] at hcon
  have HW' : Hid (wrongL nb qs = r) := show wrongL nb qs = r by rw [← HNB.out]; exact HW.out
  rw [HW'.out]
  have HG0 : Hid (Grew w ((w.alloc (.cells #[.slice ab nb cb, .slice aq nq cq] 25)).alloc (.cells #[.slice none 0 0, .slice none 0 0] 25))) := show Grew _ _ from (grew_alloc _ _).trans (grew_alloc _ _)
  by_cases hr : r = 0
  · subst hr
    rw [if_pos rfl] at HK
    obtain ⟨hn80, hq400, hin⟩ := wrongL_zero HW.out
    have HIN : Hid (∀ q ∈ qs, ∃ i : Nat, q.1 = (i : Int) ∧ i < ps.length) := hin
    have hnq : nq ≤ 400 := by rw [← HNQ.out]; exact hq400
    clear hin hq400 hn80
    go_enter Try.func27, Try.ntmps27
    go_wp2_with (first
      | (go_at_call 26; refine (hcon _ HG0.out).mono ?_; rintro e W1 ⟨rfl, hg1⟩; have e0 : W1.cell? ⟨w.heap.size, 0, none⟩ = some (.slice ab nb cb) := (Below.cell hg1 (by simp; omega)).trans (by simp); have e1 : W1.cell? ⟨w.heap.size, 1, none⟩ = some (.slice aq nq cq) := (Below.cell hg1 (by simp; omega)).trans (by simp); have HG1 : Hid (Grew w W1) := HG0.out.trans hg1)
      | (go_at_call 46; refine (hclone _ HG1.out).mono ?_; rintro e W2 ⟨v, rfl, ow, hg2⟩; have j1 : W2.cell? ⟨w.heap.size, 1, none⟩ = some (.slice aq nq cq) := (Below.cell hg2 (World.block_lt_of_cell? _ _ e1)).trans e1; have OW : Hid (OwnPages W1.heap.size W2 v ps) := ow; have HG2 : Hid (Grew w W2) := HG1.out.trans hg2))
    have HS1 : Hid (w.heap.size + 2 ≤ W1.heap.size) := show _ ≤ _ by have := Below.size hg1; simpa using this
    have HS2 : Hid (W1.heap.size ≤ W2.heap.size) := Below.size hg2
    have c2 : W2.cell? ⟨w.heap.size + 1, 0, none⟩ = some (.slice none 0 0) := (Below.cell (hg1.trans hg2) (by simp)).trans (by simp)
    have c3 : W2.cell? ⟨w.heap.size + 1, 1, none⟩ = some (.slice none 0 0) := (Below.cell (hg1.trans hg2) (by simp)).trans (by simp)
    have f2 : W2.frozen? ⟨w.heap.size + 1, 0, none⟩ = false := (Below.frozen (hg1.trans hg2) (by simp)).trans (by simp)
    have f3 : W2.frozen? ⟨w.heap.size + 1, 1, none⟩ = false := (Below.frozen (hg1.trans hg2) (by simp)).trans (by simp)
    have C2 : Hid (W2.cell? ⟨w.heap.size + 1, 0, none⟩ = some (.slice none 0 0)) := c2
    have C3 : Hid (W2.cell? ⟨w.heap.size + 1, 1, none⟩ = some (.slice none 0 0)) := c3
    have F2 : Hid (W2.frozen? ⟨w.heap.size + 1, 0, none⟩ = false) := f2
    have F3 : Hid (W2.frozen? ⟨w.heap.size + 1, 1, none⟩ = false) := f3
    have HL : Hid (∀ (j : Nat) q, qs[j]? = some q → qs.drop j = q :: qs.drop (j + 1)) := show ∀ (j : Nat) q, _ from fun j q h => by
      obtain ⟨hlt, rfl⟩ := List.getElem?_eq_some_iff.1 h
      exact List.drop_eq_getElem_cons hlt
    clear e0 e1 j1 hg1 hg2 c2 c3 f2 f3 hcon hclone ow
    go_loopg [8, 9, 22] nq (fun gg _ _ s22 wr => ∃ (kk : Nat) (pk : List (List Int)), kk ≤ nq ∧ nq - kk ≤ gg ∧ s22 = .int .i64 kk ∧ Hid (Below W1.heap.size W2 wr) ∧ Hid (OwnPages W1.heap.size wr v pk) ∧ Hid (pk.length = nb) ∧ Hid (settleL keep (qs.drop kk) kk pk = settleL keep qs 0 ps))
    case atStart => exact ⟨0, ps, Nat.zero_le _, by omega, rfl, Below.refl _ _, OW.out, HNB.out, rfl⟩
    case round =>
      obtain ⟨kk, pk, hkk, hgg, rfl, BW, OP, HP, HST⟩ := hrel
      have GW : Hid (Grew w wr) := show Grew w wr from Below.trans HG2.out (BW.out.mono (by have := HS1.out; omega))
      by_cases hlt : kk < nq
      · have hltz : (kk : Int) < (nq : Int) := by omega
        obtain ⟨q, HQK⟩ : ∃ q, Hid (qs[kk]? = some q) := ⟨_, List.getElem?_eq_getElem (by rw [HNQ.out]; exact hlt)⟩
        obtain ⟨x, m, b0, b1, b2, b3, b4, b5, b6, b7, rfl, rfl, hl⟩ := HR.out kk q HQK.out
        obtain ⟨d0, d1, d2, d3, d4, d5, d6, d7, d8⟩ := hl wr GW.out
        obtain ⟨i, hmi, hi⟩ := HIN.out _ (List.mem_of_getElem? HQK.out)
        simp only at hmi
        subst hmi
        have hinb : i < nb := by rw [← HNB.out]; exact hi
        have hib : (i : Int) < (nb : Int) := by omega
        have hi0 : (0 : Int) ≤ (i : Int) := by omega
        have hcall := HS.out (wr.alloc (.cells #[.int .i64 (i : Int), .int .u8 b0, .int .u8 b1, .int .u8 b2, .int .u8 b3, .int .u8 b4, .int .u8 b5, .int .u8 b6, .int .u8 b7] 35)) kk (GW.out.trans (grew_alloc _ _)) (by omega)
        have hnext := HL.out kk _ HQK.out
        have HN : Hid (qs.drop kk = ((i : Int), [b0, b1, b2, b3, b4, b5, b6, b7]) :: qs.drop (kk + 1)) := hnext
        clear hl hnext hi
        obtain ⟨gv, cap, rfl, hgv⟩ : ∃ gv cap, v = .slice (some ⟨gv, 0, none⟩) nb cap ∧ W1.heap.size ≤ gv := by
          rcases OP.out.1.2 with ⟨_, h0⟩ | ⟨gv, cap, cur, h0, h1, _⟩
          · have := HP.out; omega
          · exact ⟨gv, cap, by rw [h0, HP.out], h1⟩
        have HGV : Hid (W1.heap.size ≤ gv) := hgv
        clear hgv
        cases hk : keep kk with
        | true =>
          rw [hk] at hcall
          go_wp2_with (first
            | (go_at_fn g; refine hcall.mono ?_; rintro e W3 ⟨rfl, hg3⟩
               have a0 : W3.cell? ⟨wr.heap.size, 0, none⟩ = some (.int .i64 (i : Int)) := (Below.cell hg3 (by simp)).trans (by simp)
               have a1 : W3.cell? ⟨wr.heap.size, 1, none⟩ = some (.int .u8 b0) := (Below.cell hg3 (by simp)).trans (by simp)
               have a2 : W3.cell? ⟨wr.heap.size, 2, none⟩ = some (.int .u8 b1) := (Below.cell hg3 (by simp)).trans (by simp)
               have a3 : W3.cell? ⟨wr.heap.size, 3, none⟩ = some (.int .u8 b2) := (Below.cell hg3 (by simp)).trans (by simp)
               have a4 : W3.cell? ⟨wr.heap.size, 4, none⟩ = some (.int .u8 b3) := (Below.cell hg3 (by simp)).trans (by simp)
               have a5 : W3.cell? ⟨wr.heap.size, 5, none⟩ = some (.int .u8 b4) := (Below.cell hg3 (by simp)).trans (by simp)
               have a6 : W3.cell? ⟨wr.heap.size, 6, none⟩ = some (.int .u8 b5) := (Below.cell hg3 (by simp)).trans (by simp)
               have a7 : W3.cell? ⟨wr.heap.size, 7, none⟩ = some (.int .u8 b6) := (Below.cell hg3 (by simp)).trans (by simp)
               have a8 : W3.cell? ⟨wr.heap.size, 8, none⟩ = some (.int .u8 b7) := (Below.cell hg3 (by simp)).trans (by simp)
               have OP3 : Hid (OwnPages W1.heap.size W3 (.slice (some ⟨gv, 0, none⟩) nb cap) pk) := OP.out.grew ((grew_alloc _ _).trans hg3))
            | (refine wpList_store_page rfl (.tmp 35) (.tmp 34) rfl W1.heap.size _ pk OP3.out gv i rfl (by rw [HP.out]; exact hinb) [b0, b1, b2, b3, b4, b5, b6, b7] rfl _ rfl (by simp) rfl ?_; intro W4 ow4 gr4 sz4))
          go_roundg (nq - (kk + 1))
          case measure => omega
          case rel =>
            refine ⟨kk + 1, pk.set i [b0, b1, b2, b3, b4, b5, b6, b7], by omega, by omega, by go_num, ?_, ow4, (show Hid _ from by rw [List.length_set]; exact HP.out), ?_⟩
            · exact Below.grown (bel_grew BW.out (by have := BW.out.size; have := HS2.out; omega) ((grew_alloc _ _).trans hg3)) gr4 (by have := BW.out.size; have := HS2.out; have := Below.size ((grew_alloc wr _).trans hg3); omega) (fun k hk => by cases hk; exact HGV.out)
            · show settleL keep (qs.drop (kk + 1)) (kk + 1) (pk.set i _) = _
              rw [← HST.out, HN.out]
              simp [settleL, hk]
        | false =>
          rw [hk] at hcall
          go_wp2_with (go_at_fn g; refine hcall.mono ?_; rintro e W3 ⟨rfl, hg3⟩)
          go_roundg (nq - (kk + 1))
          case measure => omega
          case rel =>
            refine ⟨kk + 1, pk, by omega, by omega, by go_num, ?_, OP.out.grew ((grew_alloc _ _).trans hg3), HP.out, ?_⟩
            · exact bel_grew BW.out (by have := BW.out.size; have := HS2.out; omega) ((grew_alloc _ _).trans hg3)
            · show settleL keep (qs.drop (kk + 1)) (kk + 1) pk = _
              rw [← HST.out, HN.out]
              simp [settleL, hk]
      · have hltz : ¬ (kk : Int) < (nq : Int) := by omega
        have : kk = nq := by omega
        subst this
        have c2 : wr.cell? ⟨w.heap.size + 1, 0, none⟩ = some (.slice none 0 0) := (Below.cell BW.out (p := ⟨w.heap.size + 1, 0, none⟩) (by have := HS1.out; show w.heap.size + 1 < _; omega)).trans C2.out
        have c3 : wr.cell? ⟨w.heap.size + 1, 1, none⟩ = some (.slice none 0 0) := (Below.cell BW.out (p := ⟨w.heap.size + 1, 1, none⟩) (by have := HS1.out; show w.heap.size + 1 < _; omega)).trans C3.out
        have f2 : wr.frozen? ⟨w.heap.size + 1, 0, none⟩ = false := (Below.frozen BW.out (p := ⟨w.heap.size + 1, 0, none⟩) (by have := HS1.out; show w.heap.size + 1 < _; omega)).trans F2.out
        have f3 : wr.frozen? ⟨w.heap.size + 1, 1, none⟩ = false := (Below.frozen BW.out (p := ⟨w.heap.size + 1, 1, none⟩) (by have := HS1.out; show w.heap.size + 1 < _; omega)).trans F3.out
        obtain ⟨av, nv, cv, rfl⟩ := OP.out.slice
        go_wp2
        refine bodyPost_ret (v := .tuple #[.agg #[.slice av nv cv, .slice none 0 0], .int .i64 0]) (by simp [results, Try.results27, go_sem, *]) rfl ⟨_, rfl, ⟨_, _, rfl, ?_, nilPuts _, fun x n c e => Nat.le_trans (by have := HS1.out; omega) (OP.out.fresh x n c e), fresh_nil _⟩, ?_⟩
        · rw [HK.out]
          have e : settleL keep qs 0 ps = pk := by
            rw [← HST.out, List.drop_of_length_le (by rw [HNQ.out]; exact Nat.le_refl _)]
            rfl
          rw [e]
          exact ((OP.out.setCell (by have := HS1.out; show w.heap.size + 1 < _; omega) _).setCell (by have := HS1.out; show w.heap.size + 1 < _; omega) _).at
        · exact Below.setCell (Below.setCell GW.out (p := ⟨w.heap.size + 1, 0, none⟩) (by simp) _) (p := ⟨w.heap.size + 1, 1, none⟩) (by simp) _
  · have hne : (r != 0) = true := by simpa using hr
    rw [if_neg hr] at HK
    go_enter Try.func27, Try.ntmps27
    go_wp2_with (go_at_call 26; refine (hcon _ HG0.out).mono ?_; rintro e W1 ⟨rfl, hg1⟩
                 have c2 : W1.cell? ⟨w.heap.size + 1, 0, none⟩ = some (.slice none 0 0) := (Below.cell hg1 (by simp)).trans (by simp)
                 have c3 : W1.cell? ⟨w.heap.size + 1, 1, none⟩ = some (.slice none 0 0) := (Below.cell hg1 (by simp)).trans (by simp)
                 have f2 : W1.frozen? ⟨w.heap.size + 1, 0, none⟩ = false := (Below.frozen hg1 (by simp)).trans (by simp)
                 have f3 : W1.frozen? ⟨w.heap.size + 1, 1, none⟩ = false := (Below.frozen hg1 (by simp)).trans (by simp)
                 have HG1 : Hid (Grew w W1) := HG0.out.trans hg1)
    refine bodyPost_ret (v := .tuple #[.agg #[.slice none 0 0, .slice none 0 0], .int .i64 r]) (by simp [results, Try.results27, go_sem, *]) rfl ⟨_, rfl, ?_, ?_⟩
    · rw [HK.out]
      exact nilDisk _ _
    · exact Below.setCell (Below.setCell HG1.out (p := ⟨w.heap.size + 1, 0, none⟩) (by simp) _) (p := ⟨w.heap.size + 1, 1, none⟩) (by simp) _

end Go.Proofs.Ytbcaagmnmaonbab
