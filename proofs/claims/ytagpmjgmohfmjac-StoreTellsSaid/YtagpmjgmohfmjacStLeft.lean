/- Contract of left (package store). -/
import Derived.Test.YtagpmjgmohfmjacStIndex
namespace Go.Proofs.Ytagpmjgmohfmjac
open Go.RowKit

/-- The blocks below k that no page has, as numbers. -/
def leftTo (fs : List Fl) (k : Nat) : List Int := ((List.range k).filter fun (b : Nat) => !usedB fs (b : Int)).map fun (b : Nat) => (b : Int)
theorem leftTo_succ (fs : List Fl) (k : Nat) : leftTo fs (k + 1) = if usedB fs (k : Int) = true then leftTo fs k else leftTo fs k ++ [(k : Int)] := by
  unfold leftTo
  rw [List.range_succ, List.filter_append]
  cases h : usedB fs (k : Int) with
  | true => simp [h]
  | false => simp [h]
theorem leftTo_all (fs : List Fl) (n : Nat) : leftTo fs n = (leftL fs (n : Int)).map fun (b : Nat) => (b : Int) := by
  unfold leftTo leftL
  rw [Int.toNat_natCast]
theorem leftTo_len (fs : List Fl) (k : Nat) : (leftTo fs k).length ≤ k := by
  unfold leftTo
  rw [List.length_map]
  exact Nat.le_trans (List.length_filter_le _ _) (by simp)

set_option maxRecDepth 100000 in
set_option maxHeartbeats 1000000 in
theorem left_any (v : Value) (fs : List Fl) (m : Nat) (hm : m ≤ 80) (w : World) (hv : FilesAt w v fs) :
    Calls Try.prog 42 #[.agg #[v, .int .i64 (m : Int)]] w fun e w' => ∃ b, e = .returned b ∧ OwnRow blE (w.heap.size + 1) w' b (leftTo fs m) ∧ Grew w w' := by
  have HV : Hid (FilesAt w v fs) := hv
  obtain ⟨a, c, rfl, hbig, _⟩ := hv.rows
  clear hv
  obtain ⟨n, HN⟩ : ∃ n, Hid (fs.length = n) := ⟨_, rfl⟩
  rw [HN.out] at hbig HV ⊢
  have hmf : ∀ (fn : Fn) (first cap : Array Value) (w : World), (Instr.makeFunc fn first cap).run Try.prog w = .ok (.func fn first cap) w := fun _ _ _ _ => rfl
  obtain ⟨W0, hW0⟩ : ∃ W0, w.alloc (.cells #[.slice a n c, .int .i64 (m : Int)] 36) = W0 := ⟨_, rfl⟩
  have HG0 : Hid (Grew w W0) := show Grew w W0 by rw [← hW0]; exact grew_alloc _ _
  have X0 : Hid (Box W0 w.heap.size [.slice a n c, .int .i64 (m : Int)]) := show Box _ _ _ by rw [← hW0]; exact Box.top w _ _ rfl
  have HS0 : Hid (W0.heap.size = w.heap.size + 1) := show _ = _ by rw [← hW0]; simp
  have HW0 : Hid (_ = W0) := hW0
  clear hW0
  go_enter Try.func42, Try.ntmps42
  go_wp2
  rw [HW0.out]
  go_loopg [3, 4, 5, 8] m (fun gg s3 _ _ s8 wr => ∃ (kk : Nat) (xa : Option Addr) (xc : Nat), kk ≤ m ∧ m - kk ≤ gg ∧ s8 = .int .i64 kk ∧ s3 = .slice xa (leftTo fs kk).length xc ∧ Hid (Grew W0 wr) ∧ Hid (OwnRow blE (w.heap.size + 1) wr (.slice xa (leftTo fs kk).length xc) (leftTo fs kk)))
  case atStart => exact ⟨0, none, 0, Nat.zero_le _, by omega, rfl, rfl, Grew.refl _, OwnRow.nil _ _ _⟩
  case round =>
    obtain ⟨kk, xa, xc, hkk, hgg, rfl, rfl, BW, OW⟩ := hrel
    by_cases hlt : kk < m
    · have hltz : (kk : Int) < (m : Int) := by omega
      obtain ⟨W2, hW2⟩ : ∃ W2, wr.alloc (.cells #[.int .i64 (kk : Int)] 3) = W2 := ⟨_, rfl⟩
      have GA : Hid (Grew wr W2) := show Grew _ _ by rw [← hW2]; exact grew_alloc _ _
      have B2 : Hid (Box W2 wr.heap.size [.int .i64 (kk : Int)]) := show Box _ _ _ by rw [← hW2]; exact Box.top _ _ _ rfl
      have hcall := containsFile_any _ fs (kk : Int) wr.heap.size W2 B2.out (HV.out.grew ((HG0.out.trans BW.out).trans GA.out))
      have O2 : Hid (OwnRow blE (w.heap.size + 1) W2 (.slice xa (leftTo fs kk).length xc) (leftTo fs kk)) := OW.out.grew GA.out
      have HW2 : Hid (_ = W2) := hW2
      have HST := leftTo_succ fs kk
      have HL : Hid ((leftTo fs kk).length ≤ kk) := leftTo_len fs kk
      clear hW2
      go_upto_region 5 with fail
      rw [HW2.out]
      have x0 := (X0.out.grew (BW.out.trans GA.out)).c 0 rfl
      have x1 := (X0.out.grew (BW.out.trans GA.out)).c 1 rfl
      have HB : Hid (wr.heap.size < W2.heap.size) := B2.out.lt
      obtain ⟨pb, hpb⟩ : ∃ pb, wr.heap.size = pb := ⟨_, rfl⟩
      rw [hpb] at hcall B2 HB ⊢
      clear hpb
      cases hu : usedB fs (kk : Int) with
      | true =>
        rw [hu] at hcall HST
        rw [if_pos rfl] at HST
        have HST' : Hid (leftTo fs (kk + 1) = leftTo fs kk) := HST
        clear HST hu
        go_wp2_with fail
        refine hcall.mono ?_
        rintro e W3 ⟨rfl, g3⟩
        have G3 : Hid (Grew W0 W3) := (BW.out.trans GA.out).trans g3
        have O3 : Hid (OwnRow blE (w.heap.size + 1) W3 (.slice xa (leftTo fs (kk + 1)).length xc) (leftTo fs (kk + 1))) := show OwnRow _ _ _ _ _ by rw [HST'.out]; exact O2.out.grew g3
        have HEQ : Hid ((leftTo fs (kk + 1)).length = (leftTo fs kk).length) := show _ = _ by rw [HST'.out]
        rw [← HEQ.out]
        clear g3 hcall x0 x1
        go_wp2
        go_roundg (m - (kk + 1))
        case measure => omega
        case rel => exact ⟨kk + 1, xa, xc, by omega, by omega, by go_num, rfl, G3.out, O3.out⟩
      | false =>
        rw [hu] at hcall HST
        rw [if_neg (by decide)] at HST
        have HST' : Hid (leftTo fs (kk + 1) = leftTo fs kk ++ [(kk : Int)]) := HST
        clear HST hu
        go_wp2_with fail
        refine hcall.mono ?_
        rintro e W3 ⟨rfl, g3⟩
        have G3 : Hid (Grew W0 W3) := (BW.out.trans GA.out).trans g3
        have O3 : Hid (OwnRow blE (w.heap.size + 1) W3 (.slice xa (leftTo fs kk).length xc) (leftTo fs kk)) := O2.out.grew g3
        have y0 := (B2.out.grew g3).c 0 rfl
        clear g3 hcall x0 x1
        have HSZ : Hid (w.heap.size + 1 ≤ W3.heap.size) := show _ ≤ _ by
          have := Below.size G3.out
          rw [HS0.out] at this
          exact this
        go_wp2_with (at_builtin; refine wpList_append_row (E := blE) rfl (.tmp 17) (.tmp 19) rfl (w.heap.size + 1) _ (leftTo fs kk) rfl (O3.out.grew (grew_alloc _ _)) _ [(kk : Int)] rfl (one_row blE W3 (kk : Int) _ _ rfl (by show 8 ≤ _; omega)) ?qb ?qc ?_)
        case qb =>
          have := HL.out
          show (_ + 1) * 8 ≤ _
          omega
        case qc => simp; have := HSZ.out; omega
        intro v4 W4 ow4 gr4
        obtain ⟨xa4, xc4, rfl⟩ := ow4.form
        have O4 : Hid (OwnRow blE (w.heap.size + 1) W4 (.slice xa4 (leftTo fs (kk + 1)).length xc4) (leftTo fs (kk + 1))) := show OwnRow _ _ _ _ _ by rw [HST'.out]; exact ow4
        have G4 : Hid (Grew W0 W4) := show Grew _ _ from grew_beside (G3.out.trans (grew_alloc _ _)) gr4 (fun g hg => by
          have h1 := (O3.out.lt g hg).1
          rw [HS0.out]
          exact h1)
        rw [← HST'.out]
        clear ow4 gr4
        go_wp2
        go_roundg (m - (kk + 1))
        case measure => omega
        case rel => exact ⟨kk + 1, xa4, xc4, by omega, by omega, by go_num, rfl, G4.out, O4.out⟩
    · have hltz : ¬ (kk : Int) < (m : Int) := by omega
      have : kk = m := by omega
      subst this
      have GE : Hid (Grew w wr) := HG0.out.trans BW.out
      go_wp2
      go_ret
      exact ⟨_, rfl, OW.out, GE.out⟩

end Go.Proofs.Ytagpmjgmohfmjac
