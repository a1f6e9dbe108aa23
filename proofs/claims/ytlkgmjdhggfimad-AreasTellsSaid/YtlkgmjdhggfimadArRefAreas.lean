/- Contracts of Areas and Few (the document's answer): pages joined to areas. -/
import Derived.Test.YtlkgmjdhggfimadArJoined
namespace Go.Proofs.Ytlkgmjdhggfimad
open Go.RowKit

theorem goJ_eq (x y : On) : onEqB ⟨y.is, y.rd, y.wr, y.sh, y.file, if 0 ≤ x.file then y.page + 1 else y.page⟩ x = goJ x y := by
  unfold onEqB goJ
  have hd : ∀ x y : Int, (x == y) = decide (x = y) := fun x y => rfl
  simp only [hd]

set_option maxRecDepth 100000 in
set_option maxHeartbeats 2000000 in
theorem refAreas_any (f : Nat → On) (w : World) (hg : Good f) :
    Calls Try.prog 39 #[.agg (cellsO (tab f)).toArray] w fun e w' => (∃ v, e = .returned v ∧ OwnRow arE (w.heap.size + 1) w' v (joinL f)) ∧ Grew w w' := by
  have HGD : Hid (Good f) := hg
  clear hg
  have HCL : Hid ((cellsO (tab f)).length = 384) := tabO_len _
  obtain ⟨W0, hW0⟩ : ∃ W0, w.alloc (.cells (cellsO (tab f)).toArray 49) = W0 := ⟨_, rfl⟩
  have HG0 : Hid (Grew w W0) := show Grew w W0 by rw [← hW0]; exact grew_alloc _ _
  have X0 : Hid (Box W0 w.heap.size (cellsO (tab f))) := show Box _ _ _ by rw [← hW0]; exact Box.top w _ _ rfl
  have HS0 : Hid (W0.heap.size = w.heap.size + 1) := show _ = _ by rw [← hW0]; simp
  have HW0 : Hid (_ = W0) := hW0
  clear hW0
  go_enter Try.func39, Try.ntmps39
  go_upto_region 1 with fail
  rw [HW0.out]
  go_wp2_with (refine wp_loadAll rfl 49 (.tmp 1) rfl w.heap.size rfl X0.out Try.underlying49 rfl (by rw [HCL.out]; exact Try.sizeOnes) ?_)
  go_loopg [3, 9] 64 (fun gg s3 s9 wr => ∃ (kk : Nat) (acc : List Ar) (xa : Option Addr) (xc : Nat), kk ≤ 64 ∧ 64 - kk ≤ gg ∧ s9 = .int .i64 kk ∧ s3 = .slice xa acc.length xc ∧ Hid (Grew W0 wr) ∧ Hid (OwnRow arE (w.heap.size + 1) wr (.slice xa acc.length xc) acc) ∧ Hid (J f kk acc))
  case atStart => exact ⟨0, [], none, 0, Nat.zero_le _, by omega, rfl, rfl, Grew.refl _, OwnRow.nil _ _ _, J.zero f⟩
  case round =>
    obtain ⟨kk, acc, xa, xc, hkk, hgg, rfl, rfl, BW, OW, JW⟩ := hrel
    by_cases hlt : kk < 64
    · have hltz : (kk : Int) < 64 := by omega
      have HLEN : Hid (acc.length ≤ kk) := JW.out.len
      have XW : Hid (Box wr w.heap.size (cellsO (tab f))) := X0.out.grew BW.out
      obtain ⟨p, HP⟩ : ∃ p, Hid (wr.heap.size = p) := ⟨_, rfl⟩
      have HPW : Hid (wr.heap.size ≤ p) := show _ ≤ _ by rw [HP.out]; exact Nat.le_refl _
      cases hs : (f kk).is with
      | false =>
        have HIV : Hid (Value.agg (onv (f kk)).toArray = .agg #[.bool false, .bool (f kk).rd, .bool (f kk).wr, .bool (f kk).sh, .int .i64 (f kk).file, .int .i64 (f kk).page]) := show _ = _ by rw [← hs]; rfl
        have J2 : Hid (J f (kk + 1) acc) := JW.out.skip ((HGD.out kk hlt).1 hs)
        clear hs
        go_wp2_with (refine wp_idxOv rfl (.tmp 8) (.tmp 9) rfl f rfl kk rfl hlt HIV.out ?_)
        go_roundg (64 - (kk + 1))
        case measure => omega
        case rel => exact ⟨kk + 1, acc, xa, xc, by omega, by omega, by go_num, rfl, BW.out.trans (grew_alloc _ _), OW.out.grew (grew_alloc _ _), J2.out⟩
      | true =>
        have HS : Hid ((f kk).is = true) := hs
        have HPF : Hid (arOf kk (f kk) = ⟨kk, (kk : Int) + 1, (f kk).rd, (f kk).wr, (f kk).sh, (f kk).file, (f kk).page⟩) := partF_is hs
        have HNEW : Hid ((∀ b, acc.getLast? = some b → goB (arOf kk (f kk)) b = false) → J f (kk + 1) (acc ++ [arOf kk (f kk)])) := fun h => JW.out.new HGD.out hlt HS.out h
        have HEXT : Hid (∀ i b, acc = i ++ [b] → goB (arOf kk (f kk)) b = true → J f (kk + 1) (i ++ [{ b with to := (kk : Int) + 1 }])) := fun i b h1 h2 => by
          have := JW.out
          rw [h1] at this
          exact this.ext HGD.out hlt HS.out h2
        have HIV : Hid (Value.agg (onv (f kk)).toArray = .agg #[.bool true, .bool (f kk).rd, .bool (f kk).wr, .bool (f kk).sh, .int .i64 (f kk).file, .int .i64 (f kk).page]) := show _ = _ by rw [← hs]; rfl
        clear hs
        obtain ⟨x, HX⟩ : ∃ x, Hid (f kk = x) := ⟨_, rfl⟩
        rw [HX.out] at HIV
        have HIV2 : Hid (Value.agg (onv (f kk)).toArray = .agg #[.bool true, .bool x.rd, .bool x.wr, .bool x.sh, .int .i64 x.file, .int .i64 x.page]) := show _ = _ by rw [HX.out]; exact HIV.out
        go_upto_region 5 with (refine wp_idxOv rfl (.tmp 8) (.tmp 9) rfl f rfl kk rfl hlt HIV2.out ?_)
        obtain ⟨W1, hW1⟩ : ∃ W1, wr.alloc (.cells #[.bool true, .bool x.rd, .bool x.wr, .bool x.sh, .int .i64 x.file, .int .i64 x.page] 48) = W1 := ⟨_, rfl⟩
        have G1 : Hid (Grew W0 W1) := show Grew _ _ by rw [← hW1]; exact BW.out.trans (grew_alloc _ _)
        have O1 : Hid (OwnRow arE (w.heap.size + 1) W1 (.slice xa acc.length xc) acc) := show OwnRow _ _ _ _ _ by rw [← hW1]; exact OW.out.grew (grew_alloc _ _)
        have P1 : Hid (Box W1 p [.bool true, .bool x.rd, .bool x.wr, .bool x.sh, .int .i64 x.file, .int .i64 x.page]) := show Box _ _ _ by rw [← hW1]; exact Box.top _ _ _ HP.out.symm
        have X1 : Hid (Box W1 w.heap.size (cellsO (tab f))) := show Box _ _ _ by rw [← hW1]; exact XW.out.alloc _
        rw [hW1, HP.out]
        clear hW1 HP
        have p0 := P1.out.c 0 rfl
        cases kk with
        | zero =>
          have HNIL : Hid (acc = []) := JW.out.first
          have J2 : Hid (J f (0 + 1) (acc ++ [⟨((0 : Nat) : Int), ((0 : Nat) : Int) + 1, x.rd, x.wr, x.sh, x.file, x.page⟩])) := show J _ _ _ by
            have := HNEW.out (fun b hb => by rw [HNIL.out] at hb; cases hb)
            rw [HPF.out, HX.out] at this
            exact this
          go_upto_region 14 with fail
          clear p0
          have HSZ : Hid (w.heap.size + 1 ≤ W1.heap.size) := show _ ≤ _ by rw [← HS0.out]; exact Below.size G1.out
          have p1 := P1.out.c 1 rfl
          have p2 := P1.out.c 2 rfl
          have p3 := P1.out.c 3 rfl
          have p4 := P1.out.c 4 rfl
          have p5 := P1.out.c 5 rfl
          go_wp2_with (at_builtin; refine wpList_append_row (E := arE) rfl (.tmp 41) (.tmp 56) rfl (w.heap.size + 1) _ acc rfl (O1.out.grew (grew_alloc _ _)) _ [⟨((0 : Nat) : Int), ((0 : Nat) : Int) + 1, x.rd, x.wr, x.sh, x.file, x.page⟩] rfl (one_row arE W1 ⟨((0 : Nat) : Int), ((0 : Nat) : Int) + 1, x.rd, x.wr, x.sh, x.file, x.page⟩ _ _ rfl (by show 40 ≤ _; omega)) ?qb ?qc ?_)
          case qb =>
            show (acc.length + 1) * 40 ≤ _
            have := HLEN.out
            omega
          case qc => first | exact HSZ.out | exact Nat.le_trans HSZ.out (Nat.le_succ _) | (have := HSZ.out; omega) | (simp; have := HSZ.out; omega)
          intro vn Wn own grn
          obtain ⟨xan, xcn, rfl⟩ := own.form
          have On' : Hid (OwnRow arE (w.heap.size + 1) Wn (.slice xan (acc ++ [(⟨((0 : Nat) : Int), ((0 : Nat) : Int) + 1, x.rd, x.wr, x.sh, x.file, x.page⟩ : Ar)]).length xcn) (acc ++ [⟨((0 : Nat) : Int), ((0 : Nat) : Int) + 1, x.rd, x.wr, x.sh, x.file, x.page⟩])) := own
          have Gn : Hid (Grew W0 Wn) := show Grew _ _ from grew_beside (G1.out.trans (grew_alloc _ _)) grn (fun g hg => by
            have h1 := (O1.out.lt g hg).1
            rw [HS0.out]
            exact h1)
          have Xn : Hid (Box Wn w.heap.size (cellsO (tab f))) := X0.out.grew Gn.out
          clear own grn p1 p2 p3 p4 p5
          go_wp2
          go_roundg (64 - (0 + 1))
          case measure => omega
          case rel => exact ⟨0 + 1, acc ++ [(⟨((0 : Nat) : Int), ((0 : Nat) : Int) + 1, x.rd, x.wr, x.sh, x.file, x.page⟩ : Ar)], xan, xcn, by omega, by omega, by go_num, rfl, Gn.out, On'.out, J2.out⟩
        | succ j =>
          have hj64 : j < 64 := by omega
          have hj64z : (j : Int) < 64 := by omega
          have hjz : (0 : Int) < ((j + 1 : Nat) : Int) := by omega
          have hj1 : ((j + 1 : Nat) : Int) - 1 = (j : Int) := by omega
          have HGO := JW.out.go HS.out
          obtain ⟨y, HY⟩ : ∃ y, Hid (f j = y) := ⟨_, rfl⟩
          have hyp : 0 ≤ y.page ∧ y.page ≤ 12 := by
            rw [← HY.out]
            have h1 := HGD.out j hj64
            cases hq : (f j).is with
            | false => rw [h1.1 hq]; exact ⟨by decide, by decide⟩
            | true =>
              have h2 := h1.2 hq
              unfold ArOk arOf at h2
              rw [if_pos hq] at h2
              simp only at h2
              rcases Int.lt_or_le (f j).file 0 with h | h
              · omega
              · omega
          obtain ⟨hy0, hy1⟩ := hyp
          have HYV : Hid (Value.agg (onv (f j)).toArray = .agg #[.bool y.is, .bool y.rd, .bool y.wr, .bool y.sh, .int .i64 y.file, .int .i64 y.page]) := show _ = _ by rw [HY.out]; rfl
          have HGJ := goJ_eq x y
          rw [HX.out, HY.out] at HGO
          have HGO' : Hid _ := HGO
          clear HGO
          obtain ⟨p7, HP7⟩ : ∃ p7, Hid (W1.heap.size = p7) := ⟨_, rfl⟩
          have HPP : Hid (p < p7) := show _ < _ by rw [← HP7.out]; exact P1.out.lt
          go_upto_region 9 with (refine wp_loadOnv rfl (.tmp 20) rfl w.heap.size j hj64 rfl X1.out HYV.out ?_)
          clear p0
          obtain ⟨W2, hW2⟩ : ∃ W2, W1.alloc (.cells #[.bool y.is, .bool y.rd, .bool y.wr, .bool y.sh, .int .i64 y.file, .int .i64 y.page] 48) = W2 := ⟨_, rfl⟩
          have G2 : Hid (Grew W0 W2) := show Grew _ _ by rw [← hW2]; exact G1.out.trans (grew_alloc _ _)
          have O2 : Hid (OwnRow arE (w.heap.size + 1) W2 (.slice xa acc.length xc) acc) := show OwnRow _ _ _ _ _ by rw [← hW2]; exact O1.out.grew (grew_alloc _ _)
          have P2 : Hid (Box W2 p [.bool true, .bool x.rd, .bool x.wr, .bool x.sh, .int .i64 x.file, .int .i64 x.page]) := show Box _ _ _ by rw [← hW2]; exact P1.out.alloc _
          have Y2 : Hid (BoxT W2 p7 48 [.bool y.is, .bool y.rd, .bool y.wr, .bool y.sh, .int .i64 y.file, .int .i64 y.page]) := show BoxT _ _ _ _ by rw [← hW2]; exact BoxT.top _ _ _ HP7.out.symm
          rw [hW2, HP7.out]
          clear hW2 HP7
          have p4 := P2.out.c 4 rfl
          by_cases hfile : 0 ≤ x.file
          · rw [if_pos hfile] at HGJ
            have HQ := fun W => on_eq y.is true y.rd x.rd y.wr x.wr y.sh x.sh y.file x.file (y.page + 1) x.page W
            have HXT : Hid ((⟨true, x.rd, x.wr, x.sh, x.file, x.page⟩ : On) = x) := show _ = _ by
              have h := HS.out
              rw [HX.out] at h
              rw [← h]
            rw [HXT.out, HGJ] at HQ
            clear HGJ
            obtain ⟨R, HR⟩ : ∃ R, Hid (goJ x y = R) := ⟨_, rfl⟩
            rw [HR.out] at HQ HGO'
            have y5 := Y2.out.box.c 5 rfl
            have yf := Y2.out.box.f
            go_upto_region 11 with fail
            obtain ⟨W3, hW3⟩ : ∃ W3, W2.setCell ⟨p7, 5, none⟩ (.int .i64 (y.page + 1)) = W3 := ⟨_, rfl⟩
            have HW0P : Hid (W0.heap.size ≤ p7) := show _ ≤ _ by have h1 := HPP.out; have h2 := Below.size BW.out; have h3 := HPW.out; omega
            have G3 : Hid (Grew W0 W3) := show Grew _ _ by rw [← hW3]; exact grew_set G2.out HW0P.out _
            have O3 : Hid (OwnRow arE (w.heap.size + 1) W3 (.slice xa acc.length xc) acc) := show OwnRow _ _ _ _ _ by rw [← hW3]; exact O2.out.setOther (fun g hg => O2.out.ne Y2.out (by decide) g hg) _
            have P3 : Hid (Box W3 p [.bool true, .bool x.rd, .bool x.wr, .bool x.sh, .int .i64 x.file, .int .i64 x.page]) := show Box _ _ _ by rw [← hW3]; exact P2.out.other (by have := HPP.out; simp; omega) _
            have Y3 : Hid (Box W3 p7 [.bool y.is, .bool y.rd, .bool y.wr, .bool y.sh, .int .i64 y.file, .int .i64 (y.page + 1)]) := show Box _ _ _ by rw [← hW3]; exact Y2.out.box.set 5 _
            rw [hW3]
            clear hW3 y5 yf p4
            cases R with
            | true =>
              obtain ⟨b, hlast, hgb⟩ := HGO'.out.1 rfl
              have hacc := snoc_of hlast
              obtain ⟨ini, hini⟩ : ∃ ini, acc.dropLast = ini := ⟨_, rfl⟩
              rw [hini] at hacc
              have HACC : Hid (acc = ini ++ [b]) := hacc
              have J2 : Hid (J f (j + 1 + 1) (ini ++ [{ b with to := ((j + 1 : Nat) : Int) + 1 }])) := HEXT.out ini b hacc (by rw [HX.out]; exact hgb)
              obtain ⟨m, HM⟩ : ∃ m, Hid (ini.length = m) := ⟨_, rfl⟩
              have HAL : Hid (acc.length = m + 1) := show _ = _ by rw [HACC.out, ← HM.out]; simp
              have HBI : Hid (acc[m]? = some b) := show _ = _ by rw [HACC.out, ← HM.out]; simp
              obtain ⟨g, xc', hxe⟩ := O3.out.formS (by rw [HAL.out]; omega)
              cases hxe
              have hmm : ((m + 1 : Nat) : Int) - 1 = (m : Int) := by omega
              have hm0 : (0 : Int) ≤ (m : Int) := by omega
              have hmlt : (m : Int) < ((m + 1 : Nat) : Int) := by omega
              have hmk : m + 1 ≤ 64 := by have := HLEN.out; rw [HAL.out] at this; omega
              clear hlast hgb hacc hini
              rw [HAL.out] at O3 ⊢
              have HSET : Hid (acc.set m { b with to := ((j + 1 : Nat) : Int) + 1 } = ini ++ [{ b with to := ((j + 1 : Nat) : Int) + 1 }]) := show _ = _ by rw [HACC.out, List.set_append_right _ _ (by rw [HM.out]; exact Nat.le_refl _), HM.out, Nat.sub_self]; rfl
              go_wp2_with (first | refine wp_loadAll rfl 48 (.tmp 7) rfl p7 rfl Y3.out Try.underlying48 rfl Try.sizeOne ?_ | refine wp_loadAll rfl 48 (.tmp 5) rfl p rfl P3.out Try.underlying48 rfl Try.sizeOne ?_ | refine wpList_store_part (E := arE) rfl (.tmp 40) (.tmp 38) 3 rfl (w.heap.size + 1) (.slice (some ⟨g, 0, none⟩) (m + 1) xc) acc O3.out g m 1 rfl b { b with to := ((j + 1 : Nat) : Int) + 1 } HBI.out [.int .i64 (((j + 1 : Nat) : Int) + 1)] (by kernel_rfl) rfl (Nat.le_of_ble_eq_true rfl) (by intro u hu; simp at hu; subst hu; rfl) _ rfl (by simp; rfl) _ rfl rfl ?_)
              intro W4 ow4 gr4 sz4
              have HBG := O3.out.lt g rfl
              have G4 : Hid (Grew W0 W4) := show Grew _ _ from grew_grown G3.out gr4 (by rw [HS0.out]; exact HBG.1)
              have HL4 : Hid ((ini ++ [({ b with to := ((j + 1 : Nat) : Int) + 1 } : Ar)]).length = m + 1) := show _ = _ by simp [HM.out]
              have O4 : Hid (OwnRow arE (w.heap.size + 1) W4 (.slice (some ⟨g, 0, none⟩) (ini ++ [({ b with to := ((j + 1 : Nat) : Int) + 1 } : Ar)]).length xc) (ini ++ [{ b with to := ((j + 1 : Nat) : Int) + 1 }])) := show OwnRow _ _ _ _ _ by rw [HL4.out, ← HSET.out]; exact ow4
              clear ow4 gr4 sz4 HBG
              rw [← HL4.out]
              go_wp2
              go_roundg (64 - (j + 1 + 1))
              case measure => omega
              case rel => exact ⟨j + 1 + 1, ini ++ [({ b with to := ((j + 1 : Nat) : Int) + 1 } : Ar)], some ⟨g, 0, none⟩, xc, by omega, by omega, by go_num, rfl, G4.out, O4.out, J2.out⟩
            | false =>
              have J2 : Hid (J f (j + 1 + 1) (acc ++ [⟨((j + 1 : Nat)), (((j + 1 : Nat)) : Int) + 1, x.rd, x.wr, x.sh, x.file, x.page⟩])) := show J _ _ _ by
                have := HNEW.out (fun b hb => by rw [HX.out]; exact HGO'.out.2 rfl b hb)
                rw [HPF.out, HX.out] at this
                exact this
              go_upto_region 14 with (first | refine wp_loadAll rfl 48 (.tmp 7) rfl p7 rfl Y3.out Try.underlying48 rfl Try.sizeOne ?_ | refine wp_loadAll rfl 48 (.tmp 5) rfl p rfl P3.out Try.underlying48 rfl Try.sizeOne ?_)
              have HSZ : Hid (w.heap.size + 1 ≤ W3.heap.size) := show _ ≤ _ by rw [← HS0.out]; exact Below.size G3.out
              have p1 := P3.out.c 1 rfl
              have p2 := P3.out.c 2 rfl
              have p3 := P3.out.c 3 rfl
              have p4 := P3.out.c 4 rfl
              have p5 := P3.out.c 5 rfl
              go_wp2_with (at_builtin; refine wpList_append_row (E := arE) rfl (.tmp 41) (.tmp 56) rfl (w.heap.size + 1) _ acc rfl (O3.out.grew (grew_alloc _ _)) _ [⟨((j + 1 : Nat) : Int), ((j + 1 : Nat) : Int) + 1, x.rd, x.wr, x.sh, x.file, x.page⟩] rfl (one_row arE W3 ⟨((j + 1 : Nat) : Int), ((j + 1 : Nat) : Int) + 1, x.rd, x.wr, x.sh, x.file, x.page⟩ _ _ rfl (by show 40 ≤ _; omega)) ?qb ?qc ?_)
              case qb =>
                show (acc.length + 1) * 40 ≤ _
                have := HLEN.out
                omega
              case qc => first | exact HSZ.out | exact Nat.le_trans HSZ.out (Nat.le_succ _) | (have := HSZ.out; omega) | (simp; have := HSZ.out; omega)
              intro vn Wn own grn
              obtain ⟨xan, xcn, rfl⟩ := own.form
              have On' : Hid (OwnRow arE (w.heap.size + 1) Wn (.slice xan (acc ++ [(⟨((j + 1 : Nat) : Int), ((j + 1 : Nat) : Int) + 1, x.rd, x.wr, x.sh, x.file, x.page⟩ : Ar)]).length xcn) (acc ++ [⟨((j + 1 : Nat) : Int), ((j + 1 : Nat) : Int) + 1, x.rd, x.wr, x.sh, x.file, x.page⟩])) := own
              have Gn : Hid (Grew W0 Wn) := show Grew _ _ from grew_beside (G3.out.trans (grew_alloc _ _)) grn (fun g hg => by
                have h1 := (O3.out.lt g hg).1
                rw [HS0.out]
                exact h1)
              have Xn : Hid (Box Wn w.heap.size (cellsO (tab f))) := X0.out.grew Gn.out
              clear own grn p1 p2 p3 p4 p5
              go_wp2
              go_roundg (64 - ((j + 1) + 1))
              case measure => omega
              case rel => exact ⟨(j + 1) + 1, acc ++ [(⟨((j + 1 : Nat) : Int), ((j + 1 : Nat) : Int) + 1, x.rd, x.wr, x.sh, x.file, x.page⟩ : Ar)], xan, xcn, by omega, by omega, by go_num, rfl, Gn.out, On'.out, J2.out⟩
          · rw [if_neg hfile] at HGJ
            have HQ := fun W => on_eq y.is true y.rd x.rd y.wr x.wr y.sh x.sh y.file x.file y.page x.page W
            have HXT : Hid ((⟨true, x.rd, x.wr, x.sh, x.file, x.page⟩ : On) = x) := show _ = _ by
              have h := HS.out
              rw [HX.out] at h
              rw [← h]
            rw [HXT.out, HGJ] at HQ
            clear HGJ
            obtain ⟨R, HR⟩ : ∃ R, Hid (goJ x y = R) := ⟨_, rfl⟩
            rw [HR.out] at HQ HGO'
            go_upto_region 11 with fail
            clear p4
            have G3 : Hid (Grew W0 W2) := G2
            have O3 : Hid (OwnRow arE (w.heap.size + 1) W2 (.slice xa acc.length xc) acc) := O2
            have P3 : Hid (Box W2 p [.bool true, .bool x.rd, .bool x.wr, .bool x.sh, .int .i64 x.file, .int .i64 x.page]) := P2
            have Y3 : Hid (Box W2 p7 [.bool y.is, .bool y.rd, .bool y.wr, .bool y.sh, .int .i64 y.file, .int .i64 y.page]) := Y2.out.box
            obtain ⟨W3, hW3⟩ : ∃ W3, W2 = W3 := ⟨_, rfl⟩
            rw [hW3] at G3 O3 P3 Y3 ⊢
            clear hW3
            cases R with
            | true =>
              obtain ⟨b, hlast, hgb⟩ := HGO'.out.1 rfl
              have hacc := snoc_of hlast
              obtain ⟨ini, hini⟩ : ∃ ini, acc.dropLast = ini := ⟨_, rfl⟩
              rw [hini] at hacc
              have HACC : Hid (acc = ini ++ [b]) := hacc
              have J2 : Hid (J f (j + 1 + 1) (ini ++ [{ b with to := ((j + 1 : Nat) : Int) + 1 }])) := HEXT.out ini b hacc (by rw [HX.out]; exact hgb)
              obtain ⟨m, HM⟩ : ∃ m, Hid (ini.length = m) := ⟨_, rfl⟩
              have HAL : Hid (acc.length = m + 1) := show _ = _ by rw [HACC.out, ← HM.out]; simp
              have HBI : Hid (acc[m]? = some b) := show _ = _ by rw [HACC.out, ← HM.out]; simp
              obtain ⟨g, xc', hxe⟩ := O3.out.formS (by rw [HAL.out]; omega)
              cases hxe
              have hmm : ((m + 1 : Nat) : Int) - 1 = (m : Int) := by omega
              have hm0 : (0 : Int) ≤ (m : Int) := by omega
              have hmlt : (m : Int) < ((m + 1 : Nat) : Int) := by omega
              have hmk : m + 1 ≤ 64 := by have := HLEN.out; rw [HAL.out] at this; omega
              clear hlast hgb hacc hini
              rw [HAL.out] at O3 ⊢
              have HSET : Hid (acc.set m { b with to := ((j + 1 : Nat) : Int) + 1 } = ini ++ [{ b with to := ((j + 1 : Nat) : Int) + 1 }]) := show _ = _ by rw [HACC.out, List.set_append_right _ _ (by rw [HM.out]; exact Nat.le_refl _), HM.out, Nat.sub_self]; rfl
              go_wp2_with (first | refine wp_loadAll rfl 48 (.tmp 7) rfl p7 rfl Y3.out Try.underlying48 rfl Try.sizeOne ?_ | refine wp_loadAll rfl 48 (.tmp 5) rfl p rfl P3.out Try.underlying48 rfl Try.sizeOne ?_ | refine wpList_store_part (E := arE) rfl (.tmp 40) (.tmp 38) 3 rfl (w.heap.size + 1) (.slice (some ⟨g, 0, none⟩) (m + 1) xc) acc O3.out g m 1 rfl b { b with to := ((j + 1 : Nat) : Int) + 1 } HBI.out [.int .i64 (((j + 1 : Nat) : Int) + 1)] (by kernel_rfl) rfl (Nat.le_of_ble_eq_true rfl) (by intro u hu; simp at hu; subst hu; rfl) _ rfl (by simp; rfl) _ rfl rfl ?_)
              intro W4 ow4 gr4 sz4
              have HBG := O3.out.lt g rfl
              have G4 : Hid (Grew W0 W4) := show Grew _ _ from grew_grown G3.out gr4 (by rw [HS0.out]; exact HBG.1)
              have HL4 : Hid ((ini ++ [({ b with to := ((j + 1 : Nat) : Int) + 1 } : Ar)]).length = m + 1) := show _ = _ by simp [HM.out]
              have O4 : Hid (OwnRow arE (w.heap.size + 1) W4 (.slice (some ⟨g, 0, none⟩) (ini ++ [({ b with to := ((j + 1 : Nat) : Int) + 1 } : Ar)]).length xc) (ini ++ [{ b with to := ((j + 1 : Nat) : Int) + 1 }])) := show OwnRow _ _ _ _ _ by rw [HL4.out, ← HSET.out]; exact ow4
              clear ow4 gr4 sz4 HBG
              rw [← HL4.out]
              go_wp2
              go_roundg (64 - (j + 1 + 1))
              case measure => omega
              case rel => exact ⟨j + 1 + 1, ini ++ [({ b with to := ((j + 1 : Nat) : Int) + 1 } : Ar)], some ⟨g, 0, none⟩, xc, by omega, by omega, by go_num, rfl, G4.out, O4.out, J2.out⟩
            | false =>
              have J2 : Hid (J f (j + 1 + 1) (acc ++ [⟨((j + 1 : Nat)), (((j + 1 : Nat)) : Int) + 1, x.rd, x.wr, x.sh, x.file, x.page⟩])) := show J _ _ _ by
                have := HNEW.out (fun b hb => by rw [HX.out]; exact HGO'.out.2 rfl b hb)
                rw [HPF.out, HX.out] at this
                exact this
              go_upto_region 14 with (first | refine wp_loadAll rfl 48 (.tmp 7) rfl p7 rfl Y3.out Try.underlying48 rfl Try.sizeOne ?_ | refine wp_loadAll rfl 48 (.tmp 5) rfl p rfl P3.out Try.underlying48 rfl Try.sizeOne ?_)
              have HSZ : Hid (w.heap.size + 1 ≤ W3.heap.size) := show _ ≤ _ by rw [← HS0.out]; exact Below.size G3.out
              have p1 := P3.out.c 1 rfl
              have p2 := P3.out.c 2 rfl
              have p3 := P3.out.c 3 rfl
              have p4 := P3.out.c 4 rfl
              have p5 := P3.out.c 5 rfl
              go_wp2_with (at_builtin; refine wpList_append_row (E := arE) rfl (.tmp 41) (.tmp 56) rfl (w.heap.size + 1) _ acc rfl (O3.out.grew (grew_alloc _ _)) _ [⟨((j + 1 : Nat) : Int), ((j + 1 : Nat) : Int) + 1, x.rd, x.wr, x.sh, x.file, x.page⟩] rfl (one_row arE W3 ⟨((j + 1 : Nat) : Int), ((j + 1 : Nat) : Int) + 1, x.rd, x.wr, x.sh, x.file, x.page⟩ _ _ rfl (by show 40 ≤ _; omega)) ?qb ?qc ?_)
              case qb =>
                show (acc.length + 1) * 40 ≤ _
                have := HLEN.out
                omega
              case qc => first | exact HSZ.out | exact Nat.le_trans HSZ.out (Nat.le_succ _) | (have := HSZ.out; omega) | (simp; have := HSZ.out; omega)
              intro vn Wn own grn
              obtain ⟨xan, xcn, rfl⟩ := own.form
              have On' : Hid (OwnRow arE (w.heap.size + 1) Wn (.slice xan (acc ++ [(⟨((j + 1 : Nat) : Int), ((j + 1 : Nat) : Int) + 1, x.rd, x.wr, x.sh, x.file, x.page⟩ : Ar)]).length xcn) (acc ++ [⟨((j + 1 : Nat) : Int), ((j + 1 : Nat) : Int) + 1, x.rd, x.wr, x.sh, x.file, x.page⟩])) := own
              have Gn : Hid (Grew W0 Wn) := show Grew _ _ from grew_beside (G3.out.trans (grew_alloc _ _)) grn (fun g hg => by
                have h1 := (O3.out.lt g hg).1
                rw [HS0.out]
                exact h1)
              have Xn : Hid (Box Wn w.heap.size (cellsO (tab f))) := X0.out.grew Gn.out
              clear own grn p1 p2 p3 p4 p5
              go_wp2
              go_roundg (64 - ((j + 1) + 1))
              case measure => omega
              case rel => exact ⟨(j + 1) + 1, acc ++ [(⟨((j + 1 : Nat) : Int), ((j + 1 : Nat) : Int) + 1, x.rd, x.wr, x.sh, x.file, x.page⟩ : Ar)], xan, xcn, by omega, by omega, by go_num, rfl, Gn.out, On'.out, J2.out⟩
    · have hltz : ¬ (kk : Int) < 64 := by omega
      have : kk = 64 := by omega
      subst this
      have HE : Hid (acc = joinL f) := JW.out.all HGD.out
      have OE : Hid (OwnRow arE (w.heap.size + 1) wr (.slice xa acc.length xc) (joinL f)) := show OwnRow _ _ _ _ _ by rw [← HE.out]; exact OW.out
      have GE : Hid (Grew w wr) := HG0.out.trans BW.out
      go_wp2
      go_ret
      exact ⟨⟨_, rfl, OE.out⟩, GE.out⟩

set_option maxRecDepth 100000 in
set_option maxHeartbeats 1000000 in
theorem refFew_any (f : Nat → On) (w : World) (hg : Good f) :
    Calls Try.prog 44 #[.agg (cellsO (tab f)).toArray] w fun e w' => (∃ u, e = .returned (.tuple #[u, .int .i64 (fewL f).2]) ∧ OwnRow arE w.heap.size w' u (fewL f).1) ∧ Grew w w' := by
  have HA : Hid (∀ W, Calls Try.prog 39 #[.agg (cellsO (tab f)).toArray] W fun e w' => (∃ v, e = .returned v ∧ OwnRow arE (W.heap.size + 1) w' v (joinL f)) ∧ Grew W w') := fun W => refAreas_any f W hg
  have HFW : Hid (¬ 16 < (joinL f).length → fewL f = (joinL f, 0)) := fun h => by unfold fewL; rw [if_neg h]
  have HFM : Hid (16 < (joinL f).length → fewL f = ([], 4)) := fun h => by unfold fewL; rw [if_pos h]
  have HJS : Hid ((joinL f).length ≤ 64) := (joinL_J hg).len
  clear hg
  obtain ⟨FW, HFE⟩ : ∃ FW, Hid (fewL f = FW) := ⟨_, rfl⟩
  simp only [HFE.out] at HFW HFM ⊢
  obtain ⟨JL, HJL⟩ : ∃ JL, Hid (joinL f = JL) := ⟨_, rfl⟩
  simp only [HJL.out] at HFW HFM HJS HA
  clear HFE HJL
  have HCL : Hid ((cellsO (tab f)).length = 384) := tabO_len _
  generalize cellsO (tab f) = C at HA HCL ⊢
  obtain ⟨W0, hW0⟩ : ∃ W0, w.alloc (.cells C.toArray 49) = W0 := ⟨_, rfl⟩
  have HG0 : Hid (Grew w W0) := show Grew w W0 by rw [← hW0]; exact grew_alloc _ _
  have X0 : Hid (Box W0 w.heap.size C) := show Box _ _ _ by rw [← hW0]; exact Box.top w _ _ rfl
  have HW0 : Hid (_ = W0) := hW0
  clear hW0
  go_enter Try.func44, Try.ntmps44
  go_upto_region 1 with fail
  rw [HW0.out]
  go_wp2_with (refine wp_loadAll rfl 49 (.tmp 1) rfl w.heap.size rfl X0.out Try.underlying49 rfl (by rw [HCL.out]; exact Try.sizeOnes) ?_)
  refine (HA.out W0).mono ?_
  rintro e W5 ⟨⟨u, rfl, ow5⟩, g5⟩
  obtain ⟨xa, xc, rfl⟩ := ow5.form
  have G5 : Hid (Grew w W5) := HG0.out.trans g5
  have O5 : Hid (OwnRow arE w.heap.size W5 (.slice xa JL.length xc) JL) := ow5.base (Nat.le_trans (Below.size HG0.out) (Nat.le_succ _))
  clear g5 ow5
  obtain ⟨m, HM⟩ : ∃ m, Hid (JL.length = m) := ⟨_, rfl⟩
  rw [HM.out] at HFW HFM HJS O5 ⊢
  have hm64 : m ≤ 64 := HJS.out
  by_cases hmany : 16 < m
  · have hmz : (16 : Int) < (m : Int) := by omega
    have HR : Hid (FW = ([], 4)) := HFM.out hmany
    go_wp2
    refine bodyPost_ret (results_tmp2 rfl _ _ _) rfl ?_
    rw [HR.out]
    exact ⟨⟨_, rfl, OwnRow.nil _ _ _⟩, G5.out⟩
  · have hmz : ¬ (16 : Int) < (m : Int) := by omega
    have HR : Hid (FW = (JL, 0)) := HFW.out hmany
    go_wp2
    refine bodyPost_ret (results_tmp2 rfl _ _ _) rfl ?_
    rw [HR.out]
    exact ⟨⟨_, rfl, O5.out⟩, G5.out⟩

end Go.Proofs.Ytlkgmjdhggfimad
