/- Contract of SetEntry (the document's answer). -/
import Derived.Test.YtodbgjhdfjpcpacTbTable
import Derived.Test.YtodbgjhdfjpcpacTbRefWrong
namespace Go.Proofs.Ytodbgjhdfjpcpac
open Go.RowKit

set_option maxRecDepth 100000 in
set_option maxHeartbeats 4000000 in
theorem refSetTb_any (vs : List Value) (t : List (List En)) (n : Int) (x : En) (w : World) (hv : TabAt w vs t) :
    Calls Try.prog 35 #[.agg vs.toArray, .int .i64 n, .agg #[.int .i64 x.kind, .int .i64 x.n, .bool x.wr]] w fun e w' => ∃ us, e = .returned (.tuple #[.agg us.toArray, .int .i64 (setE t n x)]) ∧ TabAt w' us (setR t n x) ∧ Grew w w' := by
  have HL : Hid (vs.length = 8) := hv.len
  have HT8 : Hid (t.length = 8) := hv.tlen
  have HV : Hid (TabAt w vs t) := hv
  have h1 : ∀ W, Grew w W → Calls Try.prog 31 #[.agg vs.toArray] W fun e w' => e = .returned (.int .i64 (tbW t)) ∧ Grew W w' := fun W hW => refWrongTb_any vs t W (hv.grew hW)
  clear hv
  obtain ⟨W0, hW0⟩ : ∃ W0, ((w.alloc (.cells vs.toArray 55)).alloc (.cells #[.int .i64 x.kind, .int .i64 x.n, .bool x.wr] 57)).alloc (.cells #[.slice none 0 0, .slice none 0 0, .slice none 0 0, .slice none 0 0, .slice none 0 0, .slice none 0 0, .slice none 0 0, .slice none 0 0] 55) = W0 := ⟨_, rfl⟩
  have HG0 : Hid (Grew w W0) := show Grew w W0 by rw [← hW0]; exact ((grew_alloc _ _).trans (grew_alloc _ _)).trans (grew_alloc _ _)
  have X0 : Hid (Box W0 w.heap.size vs) := show Box _ _ _ by rw [← hW0]; exact ((Box.top w _ _ rfl).alloc _).alloc _
  have E0 : Hid (Box W0 (w.heap.size + 1) [.int .i64 x.kind, .int .i64 x.n, .bool x.wr]) := show Box _ _ _ by rw [← hW0]; exact (Box.top _ _ _ (by simp)).alloc _
  have Y0 : Hid (Box W0 (w.heap.size + 2) nil8) := show Box _ _ _ by rw [← hW0]; exact Box.top _ nil8 _ (by simp)
  have HW0 : Hid (_ = W0) := hW0
  clear hW0
  by_cases hz : tbW t = 0
  · rw [hz] at h1
    by_cases hn : 0 ≤ n ∧ n < 64
    · obtain ⟨nn, rfl⟩ : ∃ nn : Nat, n = (nn : Int) := ⟨n.toNat, by omega⟩
      have HZT : Hid (tbW t = 0) := hz
      have HNN : Hid (0 ≤ (nn : Int) ∧ (nn : Int) < 64) := hn
      have hni : nn < 64 := by omega
      have HNI : Hid (nn < 64) := hni
      have HTB : Hid (TbOk t) := show TbOk t from ⟨HT8.out, tbW_zero.1 hz⟩
      have hfl : ∀ W, Grew w W → Calls Try.prog 36 #[.agg vs.toArray] W fun e w' => e = .returned (.agg (cellsL (flatT t)).toArray) ∧ Grew W w' := fun W hW => flatTb_any vs t W (HV.out.grew hW) (fun h hh => by
        rcases HTB.out.ok h hh with h1 | h1
        · rw [h1]; exact Nat.zero_le _
        · rw [h1.1]; exact Nat.le_refl _)
      obtain ⟨SE, HSE⟩ : ∃ SE, Hid (setE t (nn : Int) x = SE) := ⟨_, rfl⟩
      obtain ⟨SR, HSR⟩ : ∃ SR, Hid (setR t (nn : Int) x = SR) := ⟨_, rfl⟩
      rw [HSE.out, HSR.out]
      obtain ⟨LS, HLS⟩ : ∃ LS, Hid ((flatT t).set nn x = LS) := ⟨_, rfl⟩
      have HLSL : Hid (LS.length = 64) := show _ = _ by rw [← HLS.out, List.length_set, flatT_len]
      obtain ⟨CF, HCFE⟩ : ∃ CF, Hid (cellsL (flatT t) = CF) := ⟨_, rfl⟩
      have HCF : Hid (CF.length = 192) := show _ = _ by rw [← HCFE.out, cellsL_len, flatT_len]
      have HCO : Hid (∀ v ∈ CF, v.oneCell' = true) := show ∀ v ∈ CF, _ by rw [← HCFE.out]; exact cellsL_one _
      obtain ⟨CS, HCSL⟩ : ∃ CS, Hid (cellsL LS = CS) := ⟨_, rfl⟩
      have HCSN : Hid (CS.length = 192) := show _ = _ by rw [← HCSL.out, cellsL_len, HLSL.out]
      have HCS : Hid (((CF.set (nn * 3) (.int .i64 x.kind)).set (nn * 3 + 1) (.int .i64 x.n)).set (nn * 3 + 2) (.bool x.wr) = CS) := show _ = _ by rw [← HCFE.out, cellsL_set x (by rw [flatT_len]; exact hni), HLS.out, HCSL.out]
      obtain ⟨y, HC0⟩ : ∃ y : En, Hid (CF[nn * 3]? = some (.int .i64 y.kind) ∧ CF[nn * 3 + 1]? = some (.int .i64 y.n) ∧ CF[nn * 3 + 2]? = some (.bool y.wr)) := ⟨_, show _ ∧ _ by rw [← HCFE.out]; exact cellsL_at (flatT_at t hni)⟩
      rw [HCFE.out] at hfl
      have hz := run_zeroFlat
      obtain ⟨Z0, HZ0⟩ : ∃ Z0, Hid (cellsL flat0 = Z0) := ⟨_, rfl⟩
      rw [HZ0.out] at hz
      have HZL : Hid (Z0.length = 192) := show _ = _ by rw [← HZ0.out, cellsL_len]; rfl
      have hn0 : ¬ (nn : Int) < 0 := by omega
      have hn0d : decide ((nn : Int) < 0) = false := decide_eq_false hn0
      have hn63 : ¬ (63 : Int) < (nn : Int) := by omega
      have hn63d : decide ((63 : Int) < (nn : Int)) = false := decide_eq_false hn63
      have hn63n : decide (63 < nn) = false := decide_eq_false (by omega)
      have hniz : (nn : Int) < 64 := by omega
      clear hn
      go_enter Try.func35, Try.ntmps35
      go_upto_region 1 with fail
      rw [HW0.out]
      go_wp2_with (refine wp_loadTab rfl (.tmp 3) rfl w.heap.size rfl X0.out HL.out ?_)
      refine (h1 W0 HG0.out).mono ?_
      rintro e W1 ⟨rfl, g1⟩
      have G1 : Hid (Grew w W1) := HG0.out.trans g1
      have X1 : Hid (Box W1 w.heap.size vs) := X0.out.grew g1
      have E1 : Hid (Box W1 (w.heap.size + 1) [.int .i64 x.kind, .int .i64 x.n, .bool x.wr]) := E0.out.grew g1
      have Y1 : Hid (Box W1 (w.heap.size + 2) nil8) := Y0.out.grew g1
      clear g1 h1
      go_wp2_with (refine wp_loadTab rfl (.tmp 3) rfl w.heap.size rfl X1.out HL.out ?_)
      refine (hfl W1 G1.out).mono ?_
      rintro e W2 ⟨rfl, g2⟩
      have G2 : Hid (Grew w W2) := G1.out.trans g2
      have E2 : Hid (Box W2 (w.heap.size + 1) [.int .i64 x.kind, .int .i64 x.n, .bool x.wr]) := E1.out.grew g2
      have Y2 : Hid (Box W2 (w.heap.size + 2) nil8) := Y1.out.grew g2
      clear g2 hfl
      obtain ⟨pF, HPF⟩ : ∃ pF, Hid (W2.heap.size = pF) := ⟨_, rfl⟩
      go_wp2_with (refine wp_storeAll rfl 63 (.tmp 9) (.tmp 26) rfl W2.heap.size rfl CF rfl (Box.top W2 Z0 63 rfl) (by rw [HCF.out, HZL.out]) (by rw [HZL.out]; exact Try.sizeFlat) HCO.out ?_)
      intro W3 b3 g3 s3
      rw [HPF.out] at b3 g3 ⊢
      have G23 : Hid (Grew W2 W3) := show Grew _ _ from grew_grown (grew_alloc W2 _) g3 (by rw [HPF.out]; exact Nat.le_refl _)
      have F3 : Hid (Box W3 pF CF) := b3
      have G3 : Hid (Grew w W3) := G2.out.trans G23.out
      have E3 : Hid (Box W3 (w.heap.size + 1) [.int .i64 x.kind, .int .i64 x.n, .bool x.wr]) := E2.out.grew G23.out
      have Y3 : Hid (Box W3 (w.heap.size + 2) nil8) := Y2.out.grew G23.out
      have HPW : Hid (w.heap.size + 3 ≤ pF) := show _ ≤ _ by rw [← HPF.out]; exact Y2.out.lt
      clear b3 g3 s3 hz
      have e0 := E3.out.c 0 rfl
      have e1 := E3.out.c 1 rfl
      have e2 := E3.out.c 2 rfl
      have l0 := F3.out.c _ HC0.out.1
      have l1 := F3.out.c _ HC0.out.2.1
      have l2 := F3.out.c _ HC0.out.2.2
      have lf := F3.out.f
      go_upto_region 8 with fail
      obtain ⟨W4, hW4⟩ : ∃ W4, ((W3.setCell ⟨pF, nn * 3, none⟩ (.int .i64 x.kind)).setCell ⟨pF, nn * 3 + 1, none⟩ (.int .i64 x.n)).setCell ⟨pF, nn * 3 + 2, none⟩ (.bool x.wr) = W4 := ⟨_, rfl⟩
      have F4 : Hid (Box W4 pF CS) := show Box _ _ _ by
        rw [← hW4, ← HCS.out]
        exact ((F3.out.set _ _).set _ _).set _ _
      have hpn : w.heap.size + 3 ≤ pF := HPW.out
      have E4 : Hid (Box W4 (w.heap.size + 1) [.int .i64 x.kind, .int .i64 x.n, .bool x.wr]) := show Box _ _ _ by
        rw [← hW4]
        exact ((E3.out.other (by simp; omega) _).other (by simp; omega) _).other (by simp; omega) _
      have Y4 : Hid (Box W4 (w.heap.size + 2) nil8) := show Box _ _ _ by
        rw [← hW4]
        exact ((Y3.out.other (by simp; omega) _).other (by simp; omega) _).other (by simp; omega) _
      have G4 : Hid (Grew w W4) := show Grew _ _ by
        rw [← hW4]
        exact Below.setCell (Below.setCell (Below.setCell G3.out (p := ⟨pF, nn * 3, none⟩) (by simp; omega) _) (p := ⟨pF, nn * 3 + 1, none⟩) (by simp; omega) _) (p := ⟨pF, nn * 3 + 2, none⟩) (by simp; omega) _
      rw [hW4]
      clear hW4 e0 e1 e2 l0 l1 l2 lf hpn
      go_upto_region 9 with fail
      obtain ⟨pO, hpO⟩ : ∃ pO, W4.heap.size = pO := ⟨_, rfl⟩
      obtain ⟨W5, hW5⟩ : ∃ W5, W4.alloc (.cells #[.slice none 0 0, .slice none 0 0, .slice none 0 0, .slice none 0 0, .slice none 0 0, .slice none 0 0, .slice none 0 0, .slice none 0 0] 55) = W5 := ⟨_, rfl⟩
      have G45 : Hid (Grew W4 W5) := show Grew _ _ by rw [← hW5]; exact grew_alloc _ _
      have P5 : Hid (Box W5 pO [.slice none 0 0, .slice none 0 0, .slice none 0 0, .slice none 0 0, .slice none 0 0, .slice none 0 0, .slice none 0 0, .slice none 0 0]) := show Box _ _ _ by rw [← hW5]; exact Box.top _ _ _ hpO.symm
      have HPO : Hid (w.heap.size + 3 ≤ pO ∧ pF < pO) := show _ ∧ _ by rw [← hpO]; exact ⟨Y4.out.lt, F4.out.lt⟩
      rw [hW5]
      rw [hpO]
      clear hW5 hpO
      have E5 : Hid (Box W5 (w.heap.size + 1) [.int .i64 x.kind, .int .i64 x.n, .bool x.wr]) := E4.out.grew G45.out
      have e0 : ∀ o : Obj, (W5.alloc o).cell? ⟨w.heap.size + 1, 0, none⟩ = some (.int .i64 x.kind) := fun o => (E5.out.alloc o).c 0 rfl
      have e0' := E5.out.c 0 rfl
      have e1' := E5.out.c 1 rfl
      have e2' := E5.out.c 2 rfl
      have p0 : ∀ o : Obj, (W5.alloc o).cell? ⟨pO, 0, none⟩ = some (.slice none 0 0) := fun o => (P5.out.alloc o).c 0 rfl
      have pf : ∀ (o : Obj) (i : Nat), (W5.alloc o).frozen? ⟨pO, i, none⟩ = false := fun o i => (P5.out.alloc o).f i
      go_upto_region 10 with fail
      obtain ⟨pB, hpB⟩ : ∃ pB, W5.heap.size = pB := ⟨_, rfl⟩
      obtain ⟨W6, hW6⟩ : ∃ W6, (W5.alloc (.cells #[.int .i64 x.kind, .int .i64 x.n, .bool x.wr, .int .i64 1, .int .i64 0, .bool false, .int .i64 0, .int .i64 0, .bool false, .int .i64 0, .int .i64 0, .bool false, .int .i64 0, .int .i64 0, .bool false, .int .i64 0, .int .i64 0, .bool false, .int .i64 0, .int .i64 0, .bool false, .int .i64 0, .int .i64 0, .bool false] 57)).setCell ⟨pO, 0, none⟩ (.slice (some ⟨W5.heap.size, 0, none⟩) 8 8) = W6 := ⟨_, rfl⟩
      have HPB : Hid (pO < pB) := show _ < _ by rw [← hpB]; exact P5.out.lt
      have R6 : Hid (RowAt enE W6 (.slice (some ⟨pB, 0, none⟩) 8 8) [x, ⟨1, 0, false⟩, en0, en0, en0, en0, en0, en0]) := show RowAt _ _ _ _ by
        have h1 : NewRow enE pB (W5.alloc (.cells #[.int .i64 x.kind, .int .i64 x.n, .bool x.wr, .int .i64 1, .int .i64 0, .bool false, .int .i64 0, .int .i64 0, .bool false, .int .i64 0, .int .i64 0, .bool false, .int .i64 0, .int .i64 0, .bool false, .int .i64 0, .int .i64 0, .bool false, .int .i64 0, .int .i64 0, .bool false, .int .i64 0, .int .i64 0, .bool false] 57)) (.slice (some ⟨pB, 0, none⟩) 8 8) [x, ⟨1, 0, false⟩, en0, en0, en0, en0, en0, en0] := ⟨⟨⟨_, 8, rfl, fun h => (by cases h), fun y hy => (by cases hy; exact Cells.top W5 [.int .i64 x.kind, .int .i64 x.n, .bool x.wr, .int .i64 1, .int .i64 0, .bool false, .int .i64 0, .int .i64 0, .bool false, .int .i64 0, .int .i64 0, .bool false, .int .i64 0, .int .i64 0, .bool false, .int .i64 0, .int .i64 0, .bool false, .int .i64 0, .int .i64 0, .bool false, .int .i64 0, .int .i64 0, .bool false] 57 hpB.symm)⟩, by show 8 * 24 ≤ _; decide⟩, fun y m c' hy => by cases hy; exact Nat.le_refl _⟩
        rw [← hW6]
        exact (h1.setCell (a := ⟨pO, 0, none⟩) HPB.out _).1
      have P6 : Hid (Box W6 pO [.slice (some ⟨pB, 0, none⟩) 8 8, .slice none 0 0, .slice none 0 0, .slice none 0 0, .slice none 0 0, .slice none 0 0, .slice none 0 0, .slice none 0 0]) := show Box _ _ _ by rw [← hW6, ← hpB]; simpa using (P5.out.alloc _).set 0 (.slice (some ⟨W5.heap.size, 0, none⟩) 8 8)
      have G6 : Hid (Grew w W6) := show Grew _ _ by rw [← hW6]; exact Below.setCell ((G4.out.trans G45.out).trans (grew_alloc _ _)) (p := ⟨pO, 0, none⟩) (by have := HPO.out; simp; omega) _
      have F6 : Hid (Box W6 pF CS) := show Box _ _ _ by rw [← hW6]; exact (((F4.out.grew G45.out).alloc _).other (by have := HPO.out; simp; omega) _)
      have Y6 : Hid (Box W6 (w.heap.size + 2) nil8) := show Box _ _ _ by rw [← hW6]; exact (((Y4.out.grew G45.out).alloc _).other (by have := HPO.out; simp; omega) _)
      have T6 : Hid (TabAt W6 [.slice (some ⟨pB, 0, none⟩) 8 8, .slice none 0 0, .slice none 0 0, .slice none 0 0, .slice none 0 0, .slice none 0 0, .slice none 0 0, .slice none 0 0] [[x, ⟨1, 0, false⟩, en0, en0, en0, en0, en0, en0], [], [], [], [], [], [], []]) := show TabAt _ _ _ from ⟨rfl, rfl, fun i v h hv hh => by
        cases i with
        | zero =>
          cases hv
          cases hh
          exact R6.out.s0
        | succ i =>
          have h1 := List.mem_of_getElem? (show [Value.slice none 0 0, .slice none 0 0, .slice none 0 0, .slice none 0 0, .slice none 0 0, .slice none 0 0, .slice none 0 0][i]? = some v from hv)
          have h2 := List.mem_of_getElem? (show [([] : List En), [], [], [], [], [], []][i]? = some h from hh)
          simp at h1 h2
          rw [h1, h2]
          exact (RowAt.nil enE W6).s0⟩
      rw [hW6]
      clear hW6 hpB e0 e0' e1' e2' p0 pf
      have hwo := refWrongTb_any _ _ W6 T6.out
      rw [one_wrong] at hwo
      go_wp2_with (refine wp_loadTab rfl (.tmp 10) rfl pO rfl P6.out rfl ?_)
      refine hwo.mono ?_
      rintro e W7 ⟨rfl, g7⟩
      have G7 : Hid (Grew w W7) := G6.out.trans g7
      have F7 : Hid (Box W7 pF CS) := F6.out.grew g7
      have Y7 : Hid (Box W7 (w.heap.size + 2) nil8) := Y6.out.grew g7
      clear g7 hwo
      by_cases hx : enW x = 0
      · have HS : Hid (SE = 0) := show _ = _ by rw [← HSE.out]; unfold setE; rw [if_pos HZT.out, if_pos HNN.out]; exact hx
        have HR : Hid (tableOf LS = SR) := show _ = _ by
          rw [← HSR.out, ← HLS.out]
          unfold setR
          rw [HSE.out, HS.out, if_pos rfl, Int.toNat_natCast]
          exact tableOf_set HTB.out HNI.out hx
        have hto := tableOf_any LS W7 HLSL.out (show ∀ e ∈ LS, 0 ≤ e.kind by
          rw [← HLS.out]
          intro e he
          rcases List.mem_or_eq_of_mem_set he with h | h
          · unfold flatT at h
            obtain ⟨j, _, rfl⟩ := List.mem_map.1 h
            exact (enW_zero (HTB.out.get _ _)).1.1
          · rw [h]
            exact (enW_zero hx).1.1)
        rw [HR.out, HCSL.out] at hto
        rw [hx]
        clear hx
        go_wp2_with (refine wp_loadAll rfl 63 (.tmp 9) rfl pF rfl F7.out Try.underlying63 rfl (by rw [HCSN.out]; exact Try.sizeFlat) ?_)
        refine hto.mono ?_
        rintro e W8 ⟨us, rfl, ts, g8⟩
        have TS : Hid (TabS 0 W7.heap.size W8 us SR) := ts
        have G8 : Hid (Grew w W8) := G7.out.trans g8
        have Y8 : Hid (Box W8 (w.heap.size + 2) nil8) := Y7.out.grew g8
        have HW7 : Hid (w.heap.size + 3 ≤ W7.heap.size) := Y7.out.lt
        clear ts g8 hto
        go_wp2_with (refine wp_storeAll rfl 55 (.tmp 6) (.tmp 47) rfl (w.heap.size + 2) rfl us rfl Y8.out TS.out.len Try.sizeTable TS.out.one ?_)
        intro W9 b9 g9 s9
        have B9 : Hid (Box W9 (w.heap.size + 2) us) := b9
        have G9 : Hid (Grew w W9) := show Grew _ _ from grew_grown G8.out g9 (by simp)
        have T9 : Hid (TabAt W9 us SR) := (TS.out.out (Out.grown g9 (fun g h => by cases h; have := HW7.out; omega))).now
        clear b9 g9 s9
        go_wp2
        refine bodyPost_ret (ret_cell_tmp rfl _ rfl B9.out Try.underlying55 rfl (by rw [TS.out.len]; exact Try.sizeTable)) rfl ⟨us, by rw [HS.out]; rfl, T9.out, G9.out⟩
      · have hxb : (enW x != 0) = true := by simpa using hx
        have HS : Hid (SE = enW x) := show _ = _ by rw [← HSE.out]; unfold setE; rw [if_pos HZT.out, if_pos HNN.out]
        have HR : Hid (SR = none8) := show _ = _ by rw [← HSR.out]; unfold setR; rw [HSE.out, HS.out, if_neg hx]
        clear hx
        generalize enW x = z at hxb HS ⊢
        go_wp2_with (refine wp_storeAll rfl 55 (.tmp 6) (.tmp 44) rfl (w.heap.size + 2) rfl nil8 rfl Y7.out rfl Try.sizeTable nil8_one ?_)
        intro W9 b9 g9 s9
        have B9 : Hid (Box W9 (w.heap.size + 2) nil8) := b9
        have G9 : Hid (Grew w W9) := show Grew _ _ from grew_grown G7.out g9 (by simp)
        clear b9 g9 s9
        go_wp2
        refine bodyPost_ret (ret_cell_tmp rfl _ rfl B9.out Try.underlying55 rfl Try.sizeTable) rfl ⟨nil8, by rw [HS.out]; rfl, by rw [HR.out]; exact TabS.nil 0 0 _, G9.out⟩
    · have HS : Hid (setE t n x = 3) := show _ = _ by unfold setE; rw [if_pos hz, if_neg hn]
      have HR : Hid (setR t n x = none8) := show _ = _ by unfold setR; rw [HS.out, if_neg (by decide)]
      rw [HS.out, HR.out]
      by_cases h0 : n < 0
      · clear hz hn
        go_enter Try.func35, Try.ntmps35
        go_upto_region 1 with fail
        rw [HW0.out]
        go_wp2_with (refine wp_loadTab rfl (.tmp 3) rfl w.heap.size rfl X0.out HL.out ?_)
        refine (h1 W0 HG0.out).mono ?_
        rintro e W1 ⟨rfl, g1⟩
        have G1 : Hid (Grew w W1) := HG0.out.trans g1
        have X1 : Hid (Box W1 w.heap.size vs) := X0.out.grew g1
        have E1 : Hid (Box W1 (w.heap.size + 1) [.int .i64 x.kind, .int .i64 x.n, .bool x.wr]) := E0.out.grew g1
        have Y1 : Hid (Box W1 (w.heap.size + 2) nil8) := Y0.out.grew g1
        clear g1 h1
        go_wp2_with (refine wp_storeAll rfl 55 (.tmp 6) (.tmp 24) rfl (w.heap.size + 2) rfl nil8 rfl Y1.out rfl Try.sizeTable nil8_one ?_)
        intro W9 b9 g9 s9
        have B9 : Hid (Box W9 (w.heap.size + 2) nil8) := b9
        have G9 : Hid (Grew w W9) := show Grew _ _ from grew_grown G1.out g9 (by simp)
        clear b9 g9 s9
        go_wp2
        refine bodyPost_ret (ret_cell_tmp rfl _ rfl B9.out Try.underlying55 rfl Try.sizeTable) rfl ⟨nil8, rfl, TabS.nil 0 0 _, G9.out⟩
      · have h0d : decide (n < 0) = false := decide_eq_false h0
        have h63 : 63 < n := by omega
        clear hz hn
        go_enter Try.func35, Try.ntmps35
        go_upto_region 1 with fail
        rw [HW0.out]
        go_wp2_with (refine wp_loadTab rfl (.tmp 3) rfl w.heap.size rfl X0.out HL.out ?_)
        refine (h1 W0 HG0.out).mono ?_
        rintro e W1 ⟨rfl, g1⟩
        have G1 : Hid (Grew w W1) := HG0.out.trans g1
        have X1 : Hid (Box W1 w.heap.size vs) := X0.out.grew g1
        have E1 : Hid (Box W1 (w.heap.size + 1) [.int .i64 x.kind, .int .i64 x.n, .bool x.wr]) := E0.out.grew g1
        have Y1 : Hid (Box W1 (w.heap.size + 2) nil8) := Y0.out.grew g1
        clear g1 h1
        go_wp2_with (refine wp_storeAll rfl 55 (.tmp 6) (.tmp 24) rfl (w.heap.size + 2) rfl nil8 rfl Y1.out rfl Try.sizeTable nil8_one ?_)
        intro W9 b9 g9 s9
        have B9 : Hid (Box W9 (w.heap.size + 2) nil8) := b9
        have G9 : Hid (Grew w W9) := show Grew _ _ from grew_grown G1.out g9 (by simp)
        clear b9 g9 s9
        go_wp2
        refine bodyPost_ret (ret_cell_tmp rfl _ rfl B9.out Try.underlying55 rfl Try.sizeTable) rfl ⟨nil8, rfl, TabS.nil 0 0 _, G9.out⟩
  · have HS : Hid (setE t n x = tbW t) := show _ = _ by unfold setE; rw [if_neg hz]
    have HR : Hid (setR t n x = none8) := show _ = _ by unfold setR; rw [HS.out, if_neg hz]
    rw [HS.out, HR.out]
    have hzb : (tbW t != 0) = true := by simpa using hz
    clear hz HS HR
    generalize tbW t = z at h1 hzb ⊢
    go_enter Try.func35, Try.ntmps35
    go_upto_region 1 with fail
    rw [HW0.out]
    go_wp2_with (refine wp_loadTab rfl (.tmp 3) rfl w.heap.size rfl X0.out HL.out ?_)
    refine (h1 W0 HG0.out).mono ?_
    rintro e W1 ⟨rfl, g1⟩
    have G1 : Hid (Grew w W1) := HG0.out.trans g1
    have X1 : Hid (Box W1 w.heap.size vs) := X0.out.grew g1
    have E1 : Hid (Box W1 (w.heap.size + 1) [.int .i64 x.kind, .int .i64 x.n, .bool x.wr]) := E0.out.grew g1
    have Y1 : Hid (Box W1 (w.heap.size + 2) nil8) := Y0.out.grew g1
    clear g1 h1
    go_wp2_with (refine wp_storeAll rfl 55 (.tmp 6) (.tmp 16) rfl (w.heap.size + 2) rfl nil8 rfl Y1.out rfl Try.sizeTable nil8_one ?_)
    intro W9 b9 g9 s9
    have B9 : Hid (Box W9 (w.heap.size + 2) nil8) := b9
    have G9 : Hid (Grew w W9) := show Grew _ _ from grew_grown G1.out g9 (by simp)
    clear b9 g9 s9
    go_wp2
    refine bodyPost_ret (ret_cell_tmp rfl _ rfl B9.out Try.underlying55 rfl Try.sizeTable) rfl ⟨nil8, rfl, TabS.nil 0 0 _, G9.out⟩

end Go.Proofs.Ytodbgjhdfjpcpac
