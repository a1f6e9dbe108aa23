/- Contract of Wrong (package store). -/
import Derived.Test.YtagpmjgmohfmjacStWrongFile
namespace Go.Proofs.Ytagpmjgmohfmjac
open Go.RowKit

def flsG (g : List Int) (fs : List Fl) : List Int := fs.foldl (fun g f => blG g f.bl) g
theorem flsG_snoc (g : List Int) (fs : List Fl) (f : Fl) : flsG g (fs ++ [f]) = blG (flsG g fs) f.bl := by
  unfold flsG
  rw [List.foldl_append]
  rfl
theorem take_snocF {l : List Fl} {k : Nat} {q : Fl} (h : l[k]? = some q) : l.take (k + 1) = l.take k ++ [q] := by
  rw [List.take_add_one, h]
  rfl

set_option maxRecDepth 100000 in
set_option maxHeartbeats 1000000 in
theorem wrongSt_any (v : Value) (fs : List Fl) (cnt : Int) (w : World) (hv : FilesAt w v fs) :
    Calls Try.prog 14 #[.agg #[v, .int .i64 cnt]] w fun e w' => e = .returned (.int .i64 (stW fs cnt)) ∧ Grew w w' := by
  obtain ⟨a, c, rfl, hbig, hrow⟩ := hv.rows
  have HR : Hid (FlRows w a fs) := hrow
  have HD : Hid (stW fs cnt = if fs.length ≤ 5 ∧ 0 ≤ cnt ∧ cnt ≤ 80 then flsW cnt [] fs else 4) := rfl
  clear hrow hv
  generalize stW fs cnt = Z at HD ⊢
  obtain ⟨n, HN⟩ : ∃ n, Hid (fs.length = n) := ⟨_, rfl⟩
  rw [HN.out] at hbig HD ⊢
  obtain ⟨W0, hW0⟩ : ∃ W0, w.alloc (.cells #[.slice a n c, .int .i64 cnt] 36) = W0 := ⟨_, rfl⟩
  have HG0 : Hid (Grew w W0) := show Grew w W0 by rw [← hW0]; exact grew_alloc _ _
  have X0 : Hid (Box W0 w.heap.size [.slice a n c, .int .i64 cnt]) := show Box _ _ _ by rw [← hW0]; exact Box.top w _ _ rfl
  have HS0 : Hid (W0.heap.size = w.heap.size + 1) := show _ = _ by rw [← hW0]; simp
  have HW0 : Hid (_ = W0) := hW0
  clear hW0
  by_cases h5 : n ≤ 5
  · have h5z : ¬ (5 : Int) < (n : Int) := by omega
    have h5d : decide ((5 : Int) < (n : Int)) = false := decide_eq_false h5z
    by_cases hc : 0 ≤ cnt ∧ cnt ≤ 80
    · rw [if_pos ⟨h5, hc⟩] at HD
      have hb := fun W => below_yes (m := cnt) (n := 81) hc.1 (by omega) W
      have hc80 : cnt ≤ 80 := hc.2
      clear hc
      go_enter Try.func14, Try.ntmps14
      go_wp2_with (go_at_call 33; refine (hb _).mono ?_; rintro e w' ⟨rfl, rfl⟩)
      rw [HW0.out]
      refine (giver_any cnt W0).mono ?_
      rintro e W1 ⟨rfl, k1, k2, k3, k4⟩
      obtain ⟨pc, hpc⟩ : ∃ pc, W0.heap.size = pc := ⟨_, rfl⟩
      rw [hpc] at k1 k2 k4 HS0 ⊢
      have HPC : Hid (pc = w.heap.size + 1) := HS0
      have C1 : Hid (Box W1 pc [.int .i64 cnt]) := k1
      have G1 : Hid (Box W1 (pc + 1) (marks 80 [])) := k2
      have GR1 : Hid (Grew w W1) := HG0.out.trans k3
      have X1 : Hid (Box W1 w.heap.size [.slice a n c, .int .i64 cnt]) := X0.out.grew k3
      clear hpc k1 k2 k3 k4 hb HS0 X0 HG0 HW0
      have x0 := X1.out.c 0 rfl
      have x1 := X1.out.c 1 rfl
      go_wp2
      go_loopg [5, 6, 23] n (fun gg _ _ s23 wr => ∃ kk : Nat, kk ≤ n ∧ n - kk ≤ gg ∧ s23 = .int .i64 kk ∧ Hid (Grew w wr) ∧ Hid (Box wr pc [.int .i64 cnt]) ∧ Hid (Box wr (pc + 1) (marks 80 (flsG [] (fs.take kk)))) ∧ Hid (flsW cnt (flsG [] (fs.take kk)) (fs.drop kk) = flsW cnt [] fs))
      case atStart => exact ⟨0, Nat.zero_le _, by omega, rfl, GR1.out, C1.out, G1.out, rfl⟩
      case round =>
        obtain ⟨kk, hkk, hgg, rfl, BW, CW, GW, AW⟩ := hrel
        clear x0 x1 X1 C1 G1 GR1
        by_cases hlt : kk < n
        · have hltz : (kk : Int) < (n : Int) := by omega
          obtain ⟨q, HQ⟩ : ∃ q, Hid (fs[kk]? = some q) := ⟨_, List.getElem?_eq_getElem (by rw [HN.out]; exact hlt)⟩
          obtain ⟨ad, rfl, xa, xc, hra, hl⟩ := HR.out kk q HQ.out
          obtain ⟨d0, d1⟩ := hl wr BW.out
          obtain ⟨W2, hW2⟩ : ∃ W2, wr.alloc (.cells #[.int .i64 q.size, .slice xa q.bl.length xc] 50) = W2 := ⟨_, rfl⟩
          have GA : Hid (Grew wr W2) := show Grew _ _ by rw [← hW2]; exact grew_alloc _ _
          have hcall := wrongFile_any q xa xc cnt (flsG [] (fs.take kk)) pc (pc + 1) W2 (CW.out.grew GA.out) (GW.out.grew GA.out) (by omega) hc80 (hra.stays (pc + 2) (by have := HPC.out; omega) (BW.out.trans GA.out))
          have C2 : Hid (Box W2 pc [.int .i64 cnt]) := CW.out.grew GA.out
          have B2 : Hid (Grew w W2) := BW.out.trans GA.out
          have HW2 : Hid (_ = W2) := hW2
          have HST : Hid (flsW cnt (flsG [] (fs.take kk)) (fs.drop kk) = if flW cnt (flsG [] (fs.take kk)) q = 0 then flsW cnt (flsG [] (fs.take (kk + 1))) (fs.drop (kk + 1)) else flW cnt (flsG [] (fs.take kk)) q) := show _ = _ by
            rw [drop_cons HQ.out, take_snocF HQ.out, flsG_snoc]
            rfl
          rw [← flsG_snoc, ← take_snocF HQ.out] at hcall
          clear hl hW2 hra
          generalize flW cnt (flsG [] (fs.take kk)) q = z at hcall HST
          have hql := q.bl.length
          by_cases hz : z = 0
          · have HA : Hid (flsW cnt (flsG [] (fs.take (kk + 1))) (fs.drop (kk + 1)) = flsW cnt [] fs) := show _ = _ by rw [← AW.out, HST.out, if_pos hz]
            subst hz
            clear HST
            go_wp2_with fail
            rw [HW2.out]
            refine hcall.mono ?_
            rintro e W3 ⟨rfl, k1, k2⟩
            have G3 : Hid (Box W3 (pc + 1) (marks 80 (flsG [] (fs.take (kk + 1))))) := k1 (by first | exact rfl | exact trivial)
            have B3 : Hid (Grew w W3) := show Grew _ _ from Out.grew_of B2.out (by have := HPC.out; omega) k2
            have C3 : Hid (Box W3 pc [.int .i64 cnt]) := C2.out.out k2 (by omega)
            clear k1 k2 hcall
            go_wp2
            go_roundg (n - (kk + 1))
            case measure => omega
            case rel => exact ⟨kk + 1, by omega, by omega, by go_num, B3.out, C3.out, G3.out, HA.out⟩
          · have hzb : (z != 0) = true := by simpa using hz
            have HF : Hid (Z = z) := show _ = _ by
              have h1 := AW.out
              rw [HST.out, if_neg hz] at h1
              rw [HD.out, ← h1]
            clear HST
            go_wp2_with fail
            rw [HW2.out]
            refine hcall.mono ?_
            rintro e W3 ⟨rfl, k1, k2⟩
            have B3 : Hid (Grew w W3) := show Grew _ _ from Out.grew_of B2.out (by have := HPC.out; omega) k2
            clear k1 k2 hcall
            go_wp2
            go_ret
            exact ⟨by rw [HF.out]; rfl, B3.out⟩
        · have hltz : ¬ (kk : Int) < (n : Int) := by omega
          have : kk = n := by omega
          subst this
          have HF : Hid (Z = 0) := show _ = _ by
            rw [HD.out, ← AW.out, List.drop_of_length_le (by rw [HN.out]; exact Nat.le_refl _)]
            rfl
          go_wp2
          go_ret
          exact ⟨by rw [HF.out]; rfl, BW.out⟩
    · rw [if_neg (fun h => hc h.2)] at HD
      have hb := fun W => below_no (m := cnt) (n := 81) (by omega) W
      clear hc
      go_enter Try.func14, Try.ntmps14
      go_wp2_with (go_at_call 33; refine (hb _).mono ?_; rintro e w' ⟨rfl, rfl⟩)
      rw [HW0.out]
      go_ret
      exact ⟨by rw [HD.out]; rfl, HG0.out⟩
  · rw [if_neg (fun h => h5 h.1)] at HD
    have h5z : (5 : Int) < (n : Int) := by omega
    go_enter Try.func14, Try.ntmps14
    go_wp2
    rw [HW0.out]
    go_ret
    exact ⟨by rw [HD.out]; rfl, HG0.out⟩

end Go.Proofs.Ytagpmjgmohfmjac
