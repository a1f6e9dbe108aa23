/- Contract of Get (package table). -/
import Derived.Test.YtodbgjhdfjpcpacTbOps2
namespace Go.Proofs.Ytodbgjhdfjpcpac
open Go.RowKit

/-- An entry by value. -/
def enV (e : En) : Value := .agg #[.int .i64 e.kind, .int .i64 e.n, .bool e.wr]

theorem page_split {n : Int} (h0 : 0 ≤ n) (h1 : n < 64) : ∃ i k : Nat, i < 8 ∧ k < 8 ∧ n = 8 * i + k ∧ n / 8 = (i : Int) ∧ n % 8 = (k : Int) ∧ n.tdiv 8 = (i : Int) ∧ n.tmod 8 = (k : Int) ∧ n.toNat / 8 = i ∧ n.toNat % 8 = k := by
  refine ⟨n.toNat / 8, n.toNat % 8, by omega, by omega, by omega, by omega, by omega, ?_, ?_, rfl, rfl⟩
  · rw [Int.tdiv_eq_ediv_of_nonneg h0]; omega
  · rw [Int.tmod_eq_emod_of_nonneg h0]; omega

set_option maxRecDepth 100000 in
set_option maxHeartbeats 1000000 in
theorem getTb_any (vs : List Value) (t : List (List En)) (n : Int) (w : World) (hv : TabAt w vs t) :
    Calls Try.prog 37 #[.agg vs.toArray, .int .i64 n] w fun e w' => e = .returned (enV (getT t n)) ∧ Grew w w' := by
  have HV : Hid (TabAt w vs t) := hv
  have HL : Hid (vs.length = 8) := hv.len
  clear hv
  obtain ⟨Z, HZ⟩ : ∃ Z, Hid (getT t n = Z) := ⟨_, rfl⟩
  rw [HZ.out]
  obtain ⟨W0, hW0⟩ : ∃ W0, (w.alloc (.cells vs.toArray 55)).alloc (.cells #[.int .i64 0, .int .i64 0, .bool false] 57) = W0 := ⟨_, rfl⟩
  have HG0 : Hid (Grew w W0) := show Grew w W0 by rw [← hW0]; exact (grew_alloc _ _).trans (grew_alloc _ _)
  have X0 : Hid (Box W0 w.heap.size vs) := show Box _ _ _ by rw [← hW0]; exact (Box.top w _ _ rfl).alloc _
  have Y0 : Hid (Box W0 (w.heap.size + 1) [.int .i64 0, .int .i64 0, .bool false]) := show Box _ _ _ by rw [← hW0]; exact Box.top _ _ _ (by simp)
  have HW0 : Hid (_ = W0) := hW0
  clear hW0
  have three : ∀ (W : World) (u v x : Value), Box W (w.heap.size + 1) [.int .i64 0, .int .i64 0, .bool false] → Grew w W → Grew w (((W.setCell ⟨w.heap.size + 1, 0, none⟩ u).setCell ⟨w.heap.size + 1, 1, none⟩ v).setCell ⟨w.heap.size + 1, 2, none⟩ x) := fun W u v x _ hg =>
    Below.setCell (Below.setCell (Below.setCell hg (p := ⟨w.heap.size + 1, 0, none⟩) (by simp) _) (p := ⟨w.heap.size + 1, 1, none⟩) (by simp) _) (p := ⟨w.heap.size + 1, 2, none⟩) (by simp) _
  have HT : Hid (∀ (W : World) (u v x : Value), Box W (w.heap.size + 1) [.int .i64 0, .int .i64 0, .bool false] → Grew w W → Grew w (((W.setCell ⟨w.heap.size + 1, 0, none⟩ u).setCell ⟨w.heap.size + 1, 1, none⟩ v).setCell ⟨w.heap.size + 1, 2, none⟩ x)) := three
  clear three
  have y0 := Y0.out.c 0 rfl
  have y1 := Y0.out.c 1 rfl
  have y2 := Y0.out.c 2 rfl
  have yf := Y0.out.f
  by_cases hn : 0 ≤ n ∧ n < 64
  · obtain ⟨h0, h1⟩ := hn
    obtain ⟨i, k, hi, hk, hnk, q1, q2, q3, q4, q5, q6⟩ := page_split h0 h1
    have hb := fun W => belowT_yes (m := n) (n := 64) h0 h1 W
    obtain ⟨xa, xc, q, hq, hvk, hr⟩ := HV.out.half hi
    have HF : Hid (Z = q[k]?.getD en0) := show _ = _ by
      rw [← HZ.out]
      unfold getT
      rw [if_pos ⟨h0, h1⟩, q5, q6]
      unfold getN
      rw [hq]
      rfl
    have x0 := X0.out.c i hvk
    obtain ⟨_, _, heq, hens⟩ := hr.ens
    cases heq
    have HE : Hid (EnRows w xa q) := hens
    have hiz : (i : Int) < 8 := by omega
    clear hens hr hq hvk q5 q6 hnk
    obtain ⟨nq, HNQ⟩ : ∃ nq, Hid (q.length = nq) := ⟨_, rfl⟩
    rw [HNQ.out] at x0
    by_cases hkq : k < nq
    · obtain ⟨e, HE1⟩ : ∃ e, Hid (q[k]? = some e) := ⟨_, List.getElem?_eq_getElem (by rw [HNQ.out]; exact hkq)⟩
      obtain ⟨ad, rfl, hl⟩ := HE.out k e HE1.out
      obtain ⟨d0, d1, d2⟩ := hl W0 HG0.out
      have HF' : Hid (Z = e) := show _ = _ by rw [HF.out, HE1.out]; rfl
      have hkz : ¬ (nq : Int) ≤ (k : Int) := by omega
      have hkd : decide ((nq : Int) ≤ (k : Int)) = false := decide_eq_false hkz
      have hklt : (k : Int) < (nq : Int) := by omega
      clear hl
      go_enter Try.func37, Try.ntmps37
      go_wp2_with fail
      rw [HW0.out]
      refine (hb _).mono ?_
      rintro e w' ⟨rfl, hw'⟩
      rw [hw']
      clear hw' w'
      go_wp2
      refine bodyPost_ret (v := .agg #[.int .i64 e.kind, .int .i64 e.n, .bool e.wr]) (by simp [results, Try.results37, go_sem, *]) rfl ⟨?_, ?_⟩
      · rw [HF'.out]; rfl
      · exact HT.out _ _ _ _ Y0.out HG0.out
    · have HF' : Hid (Z = en0) := show _ = _ by rw [HF.out, List.getElem?_eq_none (by rw [HNQ.out]; omega)]; rfl
      have hkz : (nq : Int) ≤ (k : Int) := by omega
      go_enter Try.func37, Try.ntmps37
      go_wp2_with fail
      rw [HW0.out]
      refine (hb _).mono ?_
      rintro e w' ⟨rfl, hw'⟩
      rw [hw']
      clear hw' w'
      go_wp2
      refine bodyPost_ret (v := .agg #[.int .i64 0, .int .i64 0, .bool false]) (by simp [results, Try.results37, go_sem, *]) rfl ⟨?_, ?_⟩
      · rw [HF'.out]; rfl
      · exact HT.out _ _ _ _ Y0.out HG0.out
  · have hb := fun W => belowT_no (m := n) (n := 64) hn W
    have HF : Hid (Z = en0) := show _ = _ by rw [← HZ.out]; unfold getT; rw [if_neg hn]
    clear hn
    go_enter Try.func37, Try.ntmps37
    go_wp2_with fail
    rw [HW0.out]
    refine (hb _).mono ?_
    rintro e w' ⟨rfl, hw'⟩
    rw [hw']
    clear hw' w'
    go_wp2
    refine bodyPost_ret (v := .agg #[.int .i64 0, .int .i64 0, .bool false]) (by simp [results, Try.results37, go_sem, *]) rfl ⟨?_, ?_⟩
    · rw [HF.out]; rfl
    · exact HT.out _ _ _ _ Y0.out HG0.out

end Go.Proofs.Ytodbgjhdfjpcpac
