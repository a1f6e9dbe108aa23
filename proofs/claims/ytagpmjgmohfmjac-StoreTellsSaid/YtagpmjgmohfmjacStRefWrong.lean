/- Contract of WrongStore (the document's answer). -/
import Derived.Test.YtagpmjgmohfmjacStWrong
namespace Go.Proofs.Ytagpmjgmohfmjac
open Go.RowKit

def bov (b : Bool) : List Value := [.bool b]
theorem Try.infoBool : (Try.prog.info? 4).map (fun i => (i.zero, i.size, i.bytes)) = some (some (.bool false), 1, 1) := by kernel_rfl

/-- Rows of Booleans. -/
def boE : Elt Bool where
  enc := bov
  k := 1
  ty := 4
  st := 62
  bytes := 1
  zv := .bool false
  zero := false
  len := fun _ => rfl
  one := fun a u hu => by
    simp only [bov, List.mem_cons, List.not_mem_nil, or_false] at hu
    subst hu
    rfl
  und := Try.underlying62
  info := Try.infoBool
  zok := rfl
  few := by decide
  pos := by decide

def markB (n : Nat) (g : List Int) : List Bool := (List.range n).map fun (i : Nat) => g.contains (i : Int)
theorem markB_at {n : Nat} (g : List Int) {i : Nat} (hi : i < n) : (markB n g)[i]? = some (g.contains (i : Int)) := by
  unfold markB
  rw [List.getElem?_map, List.getElem?_range hi]
  rfl
theorem markB_len (n : Nat) (g : List Int) : (markB n g).length = n := by simp [markB]
theorem markB_set {n : Nat} (g : List Int) {i : Nat} (hi : i < n) : (markB n g).set i true = markB n ((i : Int) :: g) := by
  apply List.ext_getElem?
  intro j
  by_cases e : j = i
  · subst e
    rw [List.getElem?_set_self (by rw [markB_len]; exact hi), markB_at _ hi]
    simp
  · rw [List.getElem?_set_ne (fun h => e h.symm)]
    rcases Nat.lt_or_ge j n with hj | hj
    · rw [markB_at _ hj, markB_at _ hj]
      have : ¬ ((j : Int) = (i : Int)) := by omega
      simp [this]
    · rw [List.getElem?_eq_none (by rw [markB_len]; exact hj), List.getElem?_eq_none (by rw [markB_len]; exact hj)]
theorem markB_nil (n : Nat) : markB n [] = List.replicate n false := by
  unfold markB
  simp [List.map_const']

theorem OwnRow.one {α : Type} {E : Elt α} {base g n c : Nat} {w : World} {l : List α} (h : OwnRow E base w (.slice (some ⟨g, 0, none⟩) n c) l) {i : Nat} {x : α} (hx : l[i]? = some x) : Cells w ((Addr.mk g 0 none).add (i * E.k)) (E.enc x) := by
  obtain ⟨a0, c0, hsl, hrows⟩ := h.at.rows
  obtain ⟨ad, had, hce⟩ := hrows i _ hx
  cases hsl
  cases had
  exact hce w (Grew.refl _)

set_option maxRecDepth 100000 in
set_option maxHeartbeats 2000000 in
theorem refWrongSt_any (v : Value) (fs : List Fl) (cnt : Int) (w : World) (hv : FilesAt w v fs) :
    Calls Try.prog 15 #[.agg #[v, .int .i64 cnt]] w fun e w' => e = .returned (.int .i64 (stW fs cnt)) ∧ Grew w w' := by
  obtain ⟨a, c, rfl, hbig, hrow⟩ := hv.rows
  have HR : Hid (FlRows w a fs) := hrow
  have HD : Hid (stW fs cnt = if fs.length ≤ 5 ∧ 0 ≤ cnt ∧ cnt ≤ 80 then flsW cnt [] fs else 4) := rfl
  clear hrow hv
  generalize stW fs cnt = Z at HD ⊢
  obtain ⟨n, HN⟩ : ∃ n, Hid (fs.length = n) := ⟨_, rfl⟩
  rw [HN.out] at hbig HD ⊢
  obtain ⟨W0, hW0⟩ : ∃ W0, w.alloc (.cells #[.slice a n c, .int .i64 cnt] 36) = W0 := ⟨_, rfl⟩
  have HG0 : Hid (Grew w W0) := show Grew w W0 by rw [← hW0]; exact grew_alloc _ _
  have X0 : Hid (Box W0 w.heap.size [.slice a n c, .int .i64 cnt]) := show Box _ _ _ by rw [← hW0]; exact Box.top w _ _ rfl
  have HW0 : Hid (_ = W0) := hW0
  clear hW0
  by_cases h5 : n ≤ 5
  · have h5z : ¬ (5 : Int) < (n : Int) := by omega
    have h5d : decide ((5 : Int) < (n : Int)) = false := decide_eq_false h5z
    have h5e : decide (5 < n) = false := decide_eq_false (by omega)
    by_cases hc : 0 ≤ cnt ∧ cnt ≤ 80
    · rw [if_pos ⟨h5, hc⟩] at HD
      obtain ⟨m, rfl⟩ : ∃ m : Nat, cnt = (m : Int) := ⟨cnt.toNat, by omega⟩
      have hm80 : m ≤ 80 := by omega
      have hc0 : ¬ (m : Int) < 0 := by omega
      have hc0d : decide ((m : Int) < 0) = false := decide_eq_false hc0
      have hc8 : ¬ (80 : Int) < (m : Int) := by omega
      have hc8d : decide ((80 : Int) < (m : Int)) = false := decide_eq_false hc8
      clear hc
      go_enter Try.func15, Try.ntmps15
      go_upto_region 3 with fail
      rw [HW0.out]
      have x0 := X0.out.c 0 rfl
      have x1 := X0.out.c 1 rfl
      go_wp2_with (refine wpList_make_row boE rfl (.tmp 23) rfl m rfl (by show m * 1 ≤ _; omega) ?_)
      intro C ow
      rw [show List.replicate m boE.zero = markB m [] from (markB_nil m).symm] at ow
      show wpList _ _ _ _ _ (W0.alloc (.cells C 4))
      obtain ⟨W1, hW1⟩ : ∃ W1, W0.alloc (.cells C 4) = W1 := ⟨_, rfl⟩
      have ow' : OwnRow boE W0.heap.size (W0.alloc (.cells C 4)) (.slice (some ⟨W0.heap.size, 0, none⟩) m m) (markB m []) := ow
      have G01 : Hid (Grew W0 W1) := show Grew _ _ by rw [← hW1]; exact grew_alloc _ _
      rw [hW1] at ow' ⊢
      obtain ⟨gh, HGH⟩ : ∃ gh, Hid (W0.heap.size = gh) := ⟨_, rfl⟩
      have O1 : Hid (OwnRow boE W0.heap.size W1 (.slice (some ⟨gh, 0, none⟩) m m) (markB m [])) := show OwnRow _ _ _ _ _ by rw [← HGH.out]; exact ow'
      rw [HGH.out]
      clear hW1 ow ow' x0 x1
      have x0 := (X0.out.grew G01.out).c 0 rfl
      have x1 := (X0.out.grew G01.out).c 1 rfl
      go_wp2
      go_loopg [28] n (fun gg s28 wr => ∃ kk : Nat, kk ≤ n ∧ n - kk ≤ gg ∧ s28 = .int .i64 kk ∧ Hid (Grew W0 wr) ∧ Hid (OwnRow boE W0.heap.size wr (.slice (some ⟨gh, 0, none⟩) m m) (markB m (flsG [] (fs.take kk)))) ∧ Hid (flsW (m : Int) (flsG [] (fs.take kk)) (fs.drop kk) = flsW (m : Int) [] fs))
      case atStart => exact ⟨0, Nat.zero_le _, by omega, rfl, G01.out, O1.out, rfl⟩
      case round =>
        obtain ⟨kk, hkk, hgg, rfl, BW, OW, AW⟩ := hrel
        clear x0 x1 O1
        by_cases hlt : kk < n
        · have hltz : (kk : Int) < (n : Int) := by omega
          obtain ⟨q, HQ⟩ : ∃ q, Hid (fs[kk]? = some q) := ⟨_, List.getElem?_eq_getElem (by rw [HN.out]; exact hlt)⟩
          obtain ⟨ad, rfl, xa, xc, hra, hl⟩ := HR.out kk q HQ.out
          obtain ⟨d0, d1⟩ := hl wr (HG0.out.trans BW.out)
          have hnbig := hra.short
          obtain ⟨_, _, heq, hnum⟩ := hra.nums
          cases heq
          have HNUM : Hid (NumRows w xa q.bl) := hnum
          obtain ⟨nb, HNB⟩ : ∃ nb, Hid (q.bl.length = nb) := ⟨_, rfl⟩
          rw [HNB.out] at d1 hnbig
          clear hl hra hnum
          have HST : Hid (flsW (m : Int) (flsG [] (fs.take kk)) (fs.drop kk) = if flW (m : Int) (flsG [] (fs.take kk)) q = 0 then flsW (m : Int) (flsG [] (fs.take (kk + 1))) (fs.drop (kk + 1)) else flW (m : Int) (flsG [] (fs.take kk)) q) := show _ = _ by
            rw [drop_cons HQ.out, take_snocF HQ.out, flsG_snoc]
            rfl
          have HGK : Hid (flsG [] (fs.take (kk + 1)) = blG (flsG [] (fs.take kk)) q.bl) := show _ = _ by rw [take_snocF HQ.out, flsG_snoc]
          have HFD : Hid (flW (m : Int) (flsG [] (fs.take kk)) q = if 0 ≤ q.size ∧ q.size ≤ 96 then (if (q.bl.length : Int) = cntP q.size then blW (m : Int) (flsG [] (fs.take kk)) q.bl else 2) else 3) := rfl
          obtain ⟨g0, HG⟩ : ∃ g0, Hid (flsG [] (fs.take kk) = g0) := ⟨_, rfl⟩
          rw [HG.out] at HST HGK HFD OW
          have bad : ∀ z : Int, z ≠ 0 → flW (m : Int) g0 q = z → Z = z := fun z hz h => by
            have h1 := AW.out
            rw [HG.out, HST.out, h, if_neg hz] at h1
            rw [HD.out, ← h1]
          obtain ⟨W2, hW2⟩ : ∃ W2, wr.alloc (.cells #[.int .i64 q.size, .slice xa nb xc] 50) = W2 := ⟨_, rfl⟩
          have G2 : Hid (Grew W0 W2) := show Grew _ _ by rw [← hW2]; exact BW.out.trans (grew_alloc _ _)
          have P2 : Hid (Box W2 wr.heap.size [.int .i64 q.size, .slice xa nb xc]) := show Box _ _ _ by rw [← hW2]; exact Box.top _ _ _ rfl
          have O2 : Hid (OwnRow boE W0.heap.size W2 (.slice (some ⟨gh, 0, none⟩) m m) (markB m g0)) := show OwnRow _ _ _ _ _ by rw [← hW2]; exact OW.out.grew (grew_alloc _ _)
          have HW2 : Hid (_ = W2) := hW2
          clear hW2
          by_cases hs0 : q.size < 0
          · have HF : Hid (Z = 3) := bad 3 (by decide) (by rw [HFD.out, if_neg (by omega)])
            have GE : Hid (Grew w W2) := HG0.out.trans G2.out
            clear bad
            go_wp2
            rw [HW2.out]
            go_ret
            exact ⟨by rw [HF.out]; rfl, GE.out⟩
          · have hs0d : decide (q.size < 0) = false := decide_eq_false hs0
            by_cases hs1 : 96 < q.size
            · have HF : Hid (Z = 3) := bad 3 (by decide) (by rw [HFD.out, if_neg (by omega)])
              have GE : Hid (Grew w W2) := HG0.out.trans G2.out
              clear bad
              go_wp2
              rw [HW2.out]
              go_ret
              exact ⟨by rw [HF.out]; rfl, GE.out⟩
            · have hs1d : decide (96 < q.size) = false := decide_eq_false hs1
              have hcn := fun W => refCount_any q.size W (by omega) (by omega)
              by_cases hcp : (nb : Int) = cntP q.size
              · rw [← hcp] at hcn
                have hnn : ((nb : Int) != (nb : Int)) = false := by simp
                have HFB : Hid (flW (m : Int) g0 q = blW (m : Int) g0 q.bl) := show _ = _ by rw [HFD.out, if_pos (by omega), HNB.out, if_pos hcp]
                clear hcp
                have p0 := P2.out.c 0 rfl
                have p1 := P2.out.c 1 rfl
                go_upto_region 9 with fail
                rw [HW2.out]
                go_quiet (first | (go_at_call 36; exact Calls.quiet_of_same (hcn _)))
                obtain ⟨W3, hW3⟩ : ∃ W3, W2.drewN nq = W3 := ⟨_, rfl⟩
                have G23 : Hid (Grew W2 W3) := show Grew _ _ by rw [← hW3]; exact (show Below _ _ _ from Go.below_drewN (Below.refl _ _) _)
                rw [hW3]
                clear hW3 p0 p1 hcn d0 d1
                have p0 := (P2.out.grew G23.out).c 0 rfl
                have p1 := (P2.out.grew G23.out).c 1 rfl
                go_wp2
                go_loopg [50] nb (fun g2 s50 wr2 => ∃ k2 : Nat, k2 ≤ nb ∧ nb - k2 ≤ g2 ∧ s50 = .int .i64 k2 ∧ Hid (Grew W0 wr2) ∧ Hid (OwnRow boE W0.heap.size wr2 (.slice (some ⟨gh, 0, none⟩) m m) (markB m (blG g0 (q.bl.take k2)))) ∧ Hid (blW (m : Int) (blG g0 (q.bl.take k2)) (q.bl.drop k2) = blW (m : Int) g0 q.bl))
                case atStart => exact ⟨0, Nat.zero_le _, by omega, rfl, G2.out.trans G23.out, O2.out.grew G23.out, rfl⟩
                case round =>
                  obtain ⟨k2, hk2, hg2, rfl, BW2, OW2, AW2⟩ := hrel
                  clear p0 p1
                  have x1 := (X0.out.grew BW2.out).c 1 rfl
                  have GE : Hid (Grew w _) := HG0.out.trans BW2.out
                  by_cases hlt2 : k2 < nb
                  · have hltz2 : (k2 : Int) < (nb : Int) := by omega
                    obtain ⟨b, HB⟩ : ∃ b, Hid (q.bl[k2]? = some b) := ⟨_, List.getElem?_eq_getElem (by rw [HNB.out]; exact hlt2)⟩
                    obtain ⟨ay, rfl, hly⟩ := HNUM.out k2 b HB.out
                    have d2 := hly _ GE.out
                    have HS2 : Hid (blW (m : Int) (blG g0 (q.bl.take k2)) (q.bl.drop k2) = if giveE (m : Int) (blG g0 (q.bl.take k2)) b = 0 then blW (m : Int) (blG g0 (q.bl.take (k2 + 1))) (q.bl.drop (k2 + 1)) else giveE (m : Int) (blG g0 (q.bl.take k2)) b) := show _ = _ by
                      rw [drop_cons HB.out, take_snoc HB.out, blG_snoc]
                      rfl
                    have HGB : Hid (blG g0 (q.bl.take (k2 + 1)) = giveG (blG g0 (q.bl.take k2)) b) := show _ = _ by rw [take_snoc HB.out, blG_snoc]
                    clear hly
                    obtain ⟨g1, HG1⟩ : ∃ g1, Hid (blG g0 (q.bl.take k2) = g1) := ⟨_, rfl⟩
                    rw [HG1.out] at HS2 HGB OW2
                    have bad2 : ∀ z : Int, z ≠ 0 → giveE (m : Int) g1 b = z → Z = z := fun z hz h => bad z hz (by
                      have h1 := AW2.out
                      rw [HG1.out, HS2.out, h, if_neg hz] at h1
                      rw [HFB.out, ← h1])
                    have good2 : giveE (m : Int) g1 b = 0 → blW (m : Int) (blG g0 (q.bl.take (k2 + 1))) (q.bl.drop (k2 + 1)) = blW (m : Int) g0 q.bl := fun h => by
                      rw [← AW2.out, HG1.out, HS2.out, if_pos h]
                    rcases giveE_cases (m : Int) g1 b with ⟨h1, h2, h3⟩ | ⟨h1, h2, h3⟩ | ⟨i, h1, h2, h3, h4⟩ | ⟨i, h1, h2, h3, h4, h5⟩
                    · subst h1
                      have HA : Hid (blW (m : Int) (blG g0 (q.bl.take (k2 + 1))) (q.bl.drop (k2 + 1)) = blW (m : Int) g0 q.bl) := good2 h2
                      have HO : Hid (OwnRow boE W0.heap.size _ (.slice (some ⟨gh, 0, none⟩) m m) (markB m (blG g0 (q.bl.take (k2 + 1))))) := show OwnRow _ _ _ _ _ by rw [HGB.out, h3]; exact OW2.out
                      have hmz : ¬ (m : Int) ≤ -1 := by omega
                      have hmd : decide ((m : Int) ≤ -1) = false := decide_eq_false hmz
                      clear bad bad2 good2 h2 h3
                      go_wp2
                      go_roundg (nb - (k2 + 1))
                      case measure => omega
                      case rel => exact ⟨k2 + 1, by omega, by omega, by go_num, BW2.out, HO.out, HA.out⟩
                    · have HF : Hid (Z = 3) := bad2 3 (by decide) h3
                      clear bad bad2 good2 h3
                      by_cases hb1 : b < -1
                      · go_wp2
                        go_ret
                        exact ⟨by rw [HF.out]; rfl, GE.out⟩
                      · have hb1d : decide (b < -1) = false := decide_eq_false hb1
                        have hb2 : (m : Int) ≤ b := by omega
                        clear h2
                        go_wp2
                        go_ret
                        exact ⟨by rw [HF.out]; rfl, GE.out⟩
                    · subst h1
                      have HF : Hid (Z = 7) := bad2 7 (by decide) h4
                      have him : i < m := by omega
                      have hb1 : ¬ (i : Int) < -1 := by omega
                      have hb1d : decide ((i : Int) < -1) = false := decide_eq_false hb1
                      have hb2 : ¬ (m : Int) ≤ (i : Int) := by omega
                      have hb2d : decide ((m : Int) ≤ (i : Int)) = false := decide_eq_false hb2
                      have hb2e : decide (m ≤ i) = false := decide_eq_false (by omega)
                      have hb3 : ¬ (i : Int) < 0 := by omega
                      have d3 : wr.cell? ⟨gh, i, none⟩ = some (.bool true) := by
                        have := OW2.out.one (markB_at g1 him) 0 _ rfl
                        rw [add_add', Addr.add_lit, Nat.zero_add, h3] at this
                        simpa [boE] using this
                      clear bad bad2 good2 h3 h4
                      go_wp2
                      go_ret
                      exact ⟨by rw [HF.out]; rfl, GE.out⟩
                    · subst h1
                      have HA : Hid (blW (m : Int) (blG g0 (q.bl.take (k2 + 1))) (q.bl.drop (k2 + 1)) = blW (m : Int) g0 q.bl) := good2 h4
                      have him : i < m := by omega
                      have hb1 : ¬ (i : Int) < -1 := by omega
                      have hb1d : decide ((i : Int) < -1) = false := decide_eq_false hb1
                      have hb2 : ¬ (m : Int) ≤ (i : Int) := by omega
                      have hb2d : decide ((m : Int) ≤ (i : Int)) = false := decide_eq_false hb2
                      have hb2e : decide (m ≤ i) = false := decide_eq_false (by omega)
                      have hb3 : ¬ (i : Int) < 0 := by omega
                      have d3 : wr.cell? ⟨gh, i, none⟩ = some (.bool false) := by
                        have := OW2.out.one (markB_at g1 him) 0 _ rfl
                        rw [add_add', Addr.add_lit, Nat.zero_add, h3] at this
                        simpa [boE] using this
                      have HH5 : Hid (giveG g1 (i : Int) = (i : Int) :: g1) := h5
                      clear bad bad2 good2 h3 h4 h5
                      go_wp2_with (refine wpList_store_elt (E := boE) rfl (.tmp 70) (.const (.bool true)) rfl W0.heap.size _ (markB m g1) OW2.out gh i rfl true ?t1 ⟨gh, i, none⟩ rfl ?t2 (.bool true) rfl rfl ?_)
                      case t1 => rw [markB_len]; exact him
                      case t2 => first | exact (Nat.mul_one i).symm | (show _ = Addr.mk gh (i * 1) none; rw [Nat.mul_one])
                      intro W5 ow5 gr5 _
                      have HO : Hid (OwnRow boE W0.heap.size W5 (.slice (some ⟨gh, 0, none⟩) m m) (markB m (blG g0 (q.bl.take (k2 + 1))))) := show OwnRow _ _ _ _ _ by rw [HGB.out, HH5.out, ← markB_set g1 him]; exact ow5
                      have G5 : Hid (Grew W0 W5) := show Grew _ _ from grew_grown BW2.out gr5 (by rw [HGH.out]; exact Nat.le_refl _)
                      clear ow5 gr5 d3 d2 x1
                      go_wp2
                      go_roundg (nb - (k2 + 1))
                      case measure => omega
                      case rel => exact ⟨k2 + 1, by omega, by omega, by go_num, G5.out, HO.out, HA.out⟩
                  · have hltz2 : ¬ (k2 : Int) < (nb : Int) := by omega
                    have : k2 = nb := by omega
                    subst this
                    have hz : flW (m : Int) g0 q = 0 := by
                      rw [HFB.out, ← AW2.out, List.drop_of_length_le (by rw [HNB.out]; exact Nat.le_refl _)]
                      rfl
                    have HA : Hid (flsW (m : Int) (flsG [] (fs.take (kk + 1))) (fs.drop (kk + 1)) = flsW (m : Int) [] fs) := show _ = _ by rw [← AW.out, HG.out, HST.out, if_pos hz]
                    have HO : Hid (OwnRow boE W0.heap.size wr (.slice (some ⟨gh, 0, none⟩) m m) (markB m (flsG [] (fs.take (kk + 1))))) := show OwnRow _ _ _ _ _ by
                      rw [HGK.out]
                      have := OW2.out
                      rw [List.take_of_length_le (by rw [HNB.out]; exact Nat.le_refl _)] at this
                      exact this
                    clear bad hz
                    go_wp2
                    go_roundg (n - (kk + 1))
                    case measure => omega
                    case rel => exact ⟨kk + 1, by omega, by omega, by go_num, BW2.out, HO.out, HA.out⟩
              · have HF : Hid (Z = 2) := bad 2 (by decide) (by rw [HFD.out, if_pos (by omega), HNB.out, if_neg hcp])
                have hnn : ((nb : Int) != cntP q.size) = true := by simpa using hcp
                clear bad hcp
                generalize cntP q.size = cp at *
                have p0 := P2.out.c 0 rfl
                have p1 := P2.out.c 1 rfl
                go_upto_region 9 with fail
                rw [HW2.out]
                go_quiet (first | (go_at_call 36; exact Calls.quiet_of_same (hcn _)))
                obtain ⟨W3, hW3⟩ : ∃ W3, W2.drewN nq = W3 := ⟨_, rfl⟩
                have GE : Hid (Grew w W3) := show Grew _ _ by rw [← hW3]; exact (HG0.out.trans G2.out).trans (show Below _ _ _ from Go.below_drewN (Below.refl _ _) _)
                rw [hW3]
                clear hW3
                go_wp2
                go_ret
                exact ⟨by rw [HF.out]; rfl, GE.out⟩
        · have hltz : ¬ (kk : Int) < (n : Int) := by omega
          have : kk = n := by omega
          subst this
          have HF : Hid (Z = 0) := show _ = _ by
            rw [HD.out, ← AW.out, List.drop_of_length_le (by rw [HN.out]; exact Nat.le_refl _)]
            rfl
          have GE : Hid (Grew w wr) := HG0.out.trans BW.out
          go_wp2
          go_ret
          exact ⟨by rw [HF.out]; rfl, GE.out⟩
    · rw [if_neg (fun h => hc h.2)] at HD
      by_cases hc0 : cnt < 0
      · go_enter Try.func15, Try.ntmps15
        go_wp2
        rw [HW0.out]
        go_ret
        exact ⟨by rw [HD.out]; rfl, HG0.out⟩
      · have hc0d : decide (cnt < 0) = false := decide_eq_false hc0
        have hc8 : 80 < cnt := by omega
        clear hc
        go_enter Try.func15, Try.ntmps15
        go_wp2
        rw [HW0.out]
        go_ret
        exact ⟨by rw [HD.out]; rfl, HG0.out⟩
  · rw [if_neg (fun h => h5 h.1)] at HD
    have h5z : (5 : Int) < (n : Int) := by omega
    go_enter Try.func15, Try.ntmps15
    go_wp2
    rw [HW0.out]
    go_ret
    exact ⟨by rw [HD.out]; rfl, HG0.out⟩

end Go.Proofs.Ytagpmjgmohfmjac
