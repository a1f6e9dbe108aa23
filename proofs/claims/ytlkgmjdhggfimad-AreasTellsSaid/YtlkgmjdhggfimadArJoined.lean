/- Contract of joined (package areas): pages joined to areas. -/
import Derived.Test.YtlkgmjdhggfimadArParted
import Derived.Test.YtlkgmjdhggfimadLaxTail
namespace Go.Proofs.Ytlkgmjdhggfimad
open Go.RowKit

/-- The cells of an area in a row of the call's own. -/
theorem OwnRow.arc {base : Nat} {w : World} {g n c : Nat} {fs : List Ar} (h : OwnRow arE base w (.slice (some ⟨g, 0, none⟩) n c) fs) {i : Nat} {q : Ar} (hq : fs[i]? = some q) (j : Nat) {u : Value} (hu : (arv q)[j]? = some u) : w.cell? ⟨g, i * 7 + j, none⟩ = some u := by
  have := h.one hq j u hu
  rw [add_add', Addr.add_lit, Nat.zero_add] at this
  exact this

theorem partF_is {f : Nat → On} {k : Nat} (h : (f k).is = true) : partF f k = ⟨k, (k : Int) + 1, (f k).rd, (f k).wr, (f k).sh, (f k).file, (f k).page⟩ := by
  unfold partF arOf
  rw [if_pos h]
theorem partF_no {f : Nat → On} {k : Nat} (h : (f k).is = false) : partF f k = ar0 := by
  unfold partF arOf
  rw [if_neg (by rw [h]; decide)]

set_option maxRecDepth 100000 in
set_option maxHeartbeats 2000000 in
theorem joined_any (f : Nat → On) (w : World) (hg : Good f) :
    Calls Try.prog 58 #[.agg (cellsA (tab (partF f))).toArray] w fun e w' => (∃ v, e = .returned v ∧ OwnRow arE (w.heap.size + 1) w' v (joinL f)) ∧ Grew w w' := by
  have HGD : Hid (Good f) := hg
  have hgo : Hid (∀ (q b : Ar) W, ArOk b → Calls Try.prog 37 #[.agg #[.int .i64 q.fr, .int .i64 q.to, .bool q.rd, .bool q.wr, .bool q.sh, .int .i64 q.file, .int .i64 q.base], .agg #[.int .i64 b.fr, .int .i64 b.to, .bool b.rd, .bool b.wr, .bool b.sh, .int .i64 b.file, .int .i64 b.base]] W fun e w' => e = .returned (.bool (goB q b)) ∧ Grew W w') := fun q b W h => goesOn_any q b W h
  have HIX : Hid (∀ {ops : Array Oper} {rest : List Oper} {o : Oper} {a : Act} {w : World} {Q : Exit → Act → World → Prop} (_ : o.guard = none) (x ix : Operand) (_ : o.op = .index 80 x ix) (_ : a.eval x = .agg (cellsA (tab (partF f))).toArray) (i : Nat) (_ : a.eval ix = .int .i64 (i : Int)) (_ : i < 64) {v : Value} (_ : arA (partF f i) = v)
    (_ : wpList Try.prog ops Q rest (a.put o.dst v) w), wpList Try.prog ops Q (o :: rest) a w) := fun h1 x ix h2 h3 i h4 h5 _ h6 h7 => wp_idxAv h1 x ix h2 (partF f) h3 i h4 h5 h6 h7
  clear hg
  have HCL : Hid ((cellsA (tab (partF f))).length = 448) := tabA_len _
  generalize cellsA (tab (partF f)) = C at HIX HCL ⊢
  obtain ⟨W0, hW0⟩ : ∃ W0, w.alloc (.cells C.toArray 80) = W0 := ⟨_, rfl⟩
  have HG0 : Hid (Grew w W0) := show Grew w W0 by rw [← hW0]; exact grew_alloc _ _
  have X0 : Hid (Box W0 w.heap.size C) := show Box _ _ _ by rw [← hW0]; exact Box.top w _ _ rfl
  have HS0 : Hid (W0.heap.size = w.heap.size + 1) := show _ = _ by rw [← hW0]; simp
  have HW0 : Hid (_ = W0) := hW0
  clear hW0
  go_enter Try.func58, Try.ntmps58
  go_upto_region 1 with fail
  rw [HW0.out]
  go_wp2_with (refine wp_loadAll rfl 80 (.tmp 1) rfl w.heap.size rfl X0.out Try.underlying80 rfl (by rw [HCL.out]; exact Try.sizePgs) ?_)
  go_loopg [3, 8] 64 (fun gg s3 s8 wr => ∃ (kk : Nat) (acc : List Ar) (xa : Option Addr) (xc : Nat), kk ≤ 64 ∧ 64 - kk ≤ gg ∧ s8 = .int .i64 kk ∧ s3 = .slice xa acc.length xc ∧ Hid (Grew W0 wr) ∧ Hid (OwnRow arE (w.heap.size + 1) wr (.slice xa acc.length xc) acc) ∧ Hid (J f kk acc))
  case atStart => exact ⟨0, [], none, 0, Nat.zero_le _, by omega, rfl, rfl, Grew.refl _, OwnRow.nil _ _ _, J.zero f⟩
  case round =>
    obtain ⟨kk, acc, xa, xc, hkk, hgg, rfl, rfl, BW, OW, JW⟩ := hrel
    by_cases hlt : kk < 64
    · have hltz : (kk : Int) < 64 := by omega
      have HLEN : Hid (acc.length ≤ kk) := JW.out.len
      obtain ⟨p, HP⟩ : ∃ p, Hid (wr.heap.size = p) := ⟨_, rfl⟩
      cases hs : (f kk).is with
      | false =>
        have HIV : Hid (arA (partF f kk) = .agg #[.int .i64 0, .int .i64 0, .bool false, .bool false, .bool false, .int .i64 0, .int .i64 0]) := show _ = _ by rw [partF_no hs]; rfl
        have J2 : Hid (J f (kk + 1) acc) := JW.out.skip ((HGD.out kk hlt).1 hs)
        clear hs
        go_wp2_with (refine HIX.out rfl (.tmp 7) (.tmp 8) rfl rfl kk rfl hlt HIV.out ?_)
        go_roundg (64 - (kk + 1))
        case measure => omega
        case rel => exact ⟨kk + 1, acc, xa, xc, by omega, by omega, by go_num, rfl, BW.out.trans (grew_alloc _ _), OW.out.grew (grew_alloc _ _), J2.out⟩
      | true =>
        have HS : Hid ((f kk).is = true) := hs
        have HPF : Hid (partF f kk = ⟨kk, (kk : Int) + 1, (f kk).rd, (f kk).wr, (f kk).sh, (f kk).file, (f kk).page⟩) := partF_is hs
        have HNEW : Hid ((∀ b, acc.getLast? = some b → goB (partF f kk) b = false) → J f (kk + 1) (acc ++ [partF f kk])) := fun h => JW.out.new HGD.out hlt HS.out h
        have HEXT : Hid (∀ i b, acc = i ++ [b] → goB (partF f kk) b = true → J f (kk + 1) (i ++ [{ b with to := (kk : Int) + 1 }])) := fun i b h1 h2 => by
          have := JW.out
          rw [h1] at this
          exact this.ext HGD.out hlt HS.out h2
        clear hs
        rw [HPF.out] at HNEW HEXT
        have HIV : Hid (arA (partF f kk) = .agg #[.int .i64 (kk : Int), .int .i64 ((kk : Int) + 1), .bool (f kk).rd, .bool (f kk).wr, .bool (f kk).sh, .int .i64 (f kk).file, .int .i64 (f kk).page]) := show _ = _ by rw [HPF.out]; rfl
        generalize f kk = x at HNEW HEXT HIV
        have hne1 : ((kk : Int) == (kk : Int) + 1) = false := by simp; omega
        go_upto_region 5 with (refine HIX.out rfl (.tmp 7) (.tmp 8) rfl rfl kk rfl hlt HIV.out ?_)
        obtain ⟨W1, hW1⟩ : ∃ W1, wr.alloc (.cells #[.int .i64 (kk : Int), .int .i64 ((kk : Int) + 1), .bool x.rd, .bool x.wr, .bool x.sh, .int .i64 x.file, .int .i64 x.page] 37) = W1 := ⟨_, rfl⟩
        have G1 : Hid (Grew W0 W1) := show Grew _ _ by rw [← hW1]; exact BW.out.trans (grew_alloc _ _)
        have O1 : Hid (OwnRow arE (w.heap.size + 1) W1 (.slice xa acc.length xc) acc) := show OwnRow _ _ _ _ _ by rw [← hW1]; exact OW.out.grew (grew_alloc _ _)
        have P1 : Hid (BoxT W1 p 37 [.int .i64 (kk : Int), .int .i64 ((kk : Int) + 1), .bool x.rd, .bool x.wr, .bool x.sh, .int .i64 x.file, .int .i64 x.page]) := show BoxT _ _ _ _ by rw [← hW1]; exact BoxT.top _ _ _ HP.out.symm
        rw [hW1, HP.out]
        clear hW1 HP
        rcases List.eq_nil_or_concat acc with hnil | ⟨ini, b, hacc⟩
        · subst hnil
          have J2 : Hid (J f (kk + 1) [⟨kk, (kk : Int) + 1, x.rd, x.wr, x.sh, x.file, x.page⟩]) := HNEW.out (fun b hb => by cases hb)
          have p0 := P1.out.box.c 0 rfl
          have p1 := P1.out.box.c 1 rfl
          have hm1 : decide ((0 : Int) ≤ -1) = false := by decide
          go_upto_region 7 with fail
          go_quiet (fail)
          obtain ⟨W2, hW2⟩ : ∃ W2, W1.drewN nq = W2 := ⟨_, rfl⟩
          have G2 : Hid (Grew W0 W2) := show Grew _ _ by rw [← hW2]; exact G1.out.trans (show Below _ _ _ from Go.below_drewN (Below.refl _ _) _)
          have P2 : Hid (BoxT W2 p 37 [.int .i64 (kk : Int), .int .i64 ((kk : Int) + 1), .bool x.rd, .bool x.wr, .bool x.sh, .int .i64 x.file, .int .i64 x.page]) := show BoxT _ _ _ _ by rw [← hW2]; exact P1.out.grew (show Below _ _ _ from Go.below_drewN (Below.refl _ _) _)
          have O2 : Hid (OwnRow arE (w.heap.size + 1) W2 (.slice xa 0 xc) []) := show OwnRow _ _ _ _ _ by rw [← hW2]; exact O1.out.grew (show Below _ _ _ from Go.below_drewN (Below.refl _ _) _)
          rw [hW2]
          clear hW2 p0 p1
          have HSZ : Hid (w.heap.size + 1 ≤ W2.heap.size) := show _ ≤ _ by rw [← HS0.out]; exact Below.size G2.out
          go_wp2_with (first | refine wp_loadAll rfl 37 (.tmp 5) rfl p rfl P2.out.box Try.underlying37 rfl Try.sizeArea ?_ | (at_builtin; refine wpList_append_row (E := arE) rfl (.tmp 35) (.tmp 37) rfl (w.heap.size + 1) _ [] rfl (O2.out.grew (grew_alloc _ _)) _ [⟨kk, (kk : Int) + 1, x.rd, x.wr, x.sh, x.file, x.page⟩] rfl (one_row arE W2 ⟨kk, (kk : Int) + 1, x.rd, x.wr, x.sh, x.file, x.page⟩ _ _ rfl (by show 40 ≤ _; omega)) ?qb ?qc ?_))
          case qb =>
            show (0 + 1) * 40 ≤ _
            omega
          case qc => simp; have := HSZ.out; omega
          intro v4 W4 ow4 gr4
          obtain ⟨xa4, xc4, rfl⟩ := ow4.form
          have O4 : Hid (OwnRow arE (w.heap.size + 1) W4 (.slice xa4 ([] ++ [(⟨kk, (kk : Int) + 1, x.rd, x.wr, x.sh, x.file, x.page⟩ : Ar)]).length xc4) ([] ++ [⟨kk, (kk : Int) + 1, x.rd, x.wr, x.sh, x.file, x.page⟩])) := ow4
          have G4 : Hid (Grew W0 W4) := show Grew _ _ from grew_beside (G2.out.trans (grew_alloc _ _)) gr4 (fun g hg => by
            have h1 := (O2.out.lt g hg).1
            rw [HS0.out]
            exact h1)
          clear ow4 gr4
          go_wp2
          go_roundg (64 - (kk + 1))
          case measure => omega
          case rel => exact ⟨kk + 1, [] ++ [(⟨kk, (kk : Int) + 1, x.rd, x.wr, x.sh, x.file, x.page⟩ : Ar)], xa4, xc4, by omega, by omega, by go_num, rfl, G4.out, O4.out, J2.out⟩
        · rw [List.concat_eq_append] at hacc
          have HACC : Hid (acc = ini ++ [b]) := hacc
          obtain ⟨m, HM⟩ : ∃ m, Hid (ini.length = m) := ⟨_, rfl⟩
          have HAL : Hid (acc.length = m + 1) := show _ = _ by rw [HACC.out, ← HM.out]; simp
          have HBI : Hid (acc[m]? = some b) := show _ = _ by rw [HACC.out, ← HM.out]; simp
          have HBK : Hid (ArOk b) := JW.out.1.all b (by rw [HACC.out]; simp)
          obtain ⟨g, xc', hxe⟩ := O1.out.formS (by rw [HAL.out]; omega)
          cases hxe
          have hmm : ((m + 1 : Nat) : Int) - 1 = (m : Int) := by omega
          have hm0 : (0 : Int) ≤ (m : Int) := by omega
          have hmd : decide ((0 : Int) ≤ (m : Int)) = true := by simp
          have hmlt : (m : Int) < ((m + 1 : Nat) : Int) := by omega
          have HML : Hid (m + 1 ≤ kk) := show _ ≤ _ by rw [← HAL.out]; exact HLEN.out
          have hmk : m + 1 ≤ 64 := by have := HML.out; omega
          clear hacc
          rw [HAL.out] at O1 OW ⊢
          have p0 := P1.out.box.c 0 rfl
          have p1 := P1.out.box.c 1 rfl
          go_upto_region 7 with fail
          clear p0 p1
          have hx0 : ∀ y : GrownW W1, y.world.cell? ⟨p, 0, none⟩ = some (.int .i64 (kk : Int)) := fun y => (P1.out.box.grew y.grew).c 0 rfl
          have hx1 : ∀ y : GrownW W1, y.world.cell? ⟨p, 1, none⟩ = some (.int .i64 ((kk : Int) + 1)) := fun y => (P1.out.box.grew y.grew).c 1 rfl
          have hx2 : ∀ y : GrownW W1, y.world.cell? ⟨p, 2, none⟩ = some (.bool x.rd) := fun y => (P1.out.box.grew y.grew).c 2 rfl
          have hx3 : ∀ y : GrownW W1, y.world.cell? ⟨p, 3, none⟩ = some (.bool x.wr) := fun y => (P1.out.box.grew y.grew).c 3 rfl
          have hx4 : ∀ y : GrownW W1, y.world.cell? ⟨p, 4, none⟩ = some (.bool x.sh) := fun y => (P1.out.box.grew y.grew).c 4 rfl
          have hx5 : ∀ y : GrownW W1, y.world.cell? ⟨p, 5, none⟩ = some (.int .i64 x.file) := fun y => (P1.out.box.grew y.grew).c 5 rfl
          have hx6 : ∀ y : GrownW W1, y.world.cell? ⟨p, 6, none⟩ = some (.int .i64 x.page) := fun y => (P1.out.box.grew y.grew).c 6 rfl
          have hy0 : ∀ y : GrownW W1, y.world.cell? ⟨g, m * 7, none⟩ = some (.int .i64 b.fr) := fun y => (O1.out.grew y.grew).arc HBI.out 0 rfl
          have hy1 : ∀ y : GrownW W1, y.world.cell? ⟨g, m * 7 + 1, none⟩ = some (.int .i64 b.to) := fun y => (O1.out.grew y.grew).arc HBI.out 1 rfl
          have hy2 : ∀ y : GrownW W1, y.world.cell? ⟨g, m * 7 + 2, none⟩ = some (.bool b.rd) := fun y => (O1.out.grew y.grew).arc HBI.out 2 rfl
          have hy3 : ∀ y : GrownW W1, y.world.cell? ⟨g, m * 7 + 3, none⟩ = some (.bool b.wr) := fun y => (O1.out.grew y.grew).arc HBI.out 3 rfl
          have hy4 : ∀ y : GrownW W1, y.world.cell? ⟨g, m * 7 + 4, none⟩ = some (.bool b.sh) := fun y => (O1.out.grew y.grew).arc HBI.out 4 rfl
          have hy5 : ∀ y : GrownW W1, y.world.cell? ⟨g, m * 7 + 5, none⟩ = some (.int .i64 b.file) := fun y => (O1.out.grew y.grew).arc HBI.out 5 rfl
          have hy6 : ∀ y : GrownW W1, y.world.cell? ⟨g, m * 7 + 6, none⟩ = some (.int .i64 b.base) := fun y => (O1.out.grew y.grew).arc HBI.out 6 rfl
          have hne : Nonempty (GrownW W1) := ⟨⟨_, Grew.refl _⟩⟩
          obtain ⟨R, HRR⟩ : ∃ R, Hid (goB ⟨kk, (kk : Int) + 1, x.rd, x.wr, x.sh, x.file, x.page⟩ b = R) := ⟨_, rfl⟩
          refine wp_lax [(8, ⟨fun v => v = .bool R, fun _ _ => True⟩)] mixed (by kernel_rfl) ?_ ?_ ?_
          · intro x hx
            simp at hx
            subst hx
            exact ⟨_, rfl⟩
          · intro x hx
            simp at hx
            subst hx
            exact fun _ _ _ _ h => h
          iterate 8 (refine lax_quiet rfl rfl rfl (fun K hK => ?_); go_big_quiet_op; refine hK _ ?_; clear hK K)
          refine lax_spec rfl rfl (fun w' hg hF => ?_) (fun v1 hv => ?_)
          · refine Does.call [.agg #[.int .i64 (kk : Int), .int .i64 ((kk : Int) + 1), .bool x.rd, .bool x.wr, .bool x.sh, .int .i64 x.file, .int .i64 x.page], .agg #[.int .i64 b.fr, .int .i64 b.to, .bool b.rd, .bool b.wr, .bool b.sh, .int .i64 b.file, .int .i64 b.base]] rfl Try.func37 rfl rfl rfl ?_
            refine (hgo.out ⟨kk, (kk : Int) + 1, x.rd, x.wr, x.sh, x.file, x.page⟩ b w' HBK.out).mono ?_
            rintro e w'' ⟨rfl, hg2⟩
            exact ⟨_, rfl, hg2, by rw [← HRR.out], trivial⟩
          subst hv
          simp only [Act.put, List.setIfInBounds_toArray, List.set_cons_succ, List.set_cons_zero]
          iterate 1 (refine lax_quiet rfl rfl rfl (fun K hK => ?_); go_big_quiet_op; refine hK _ ?_; clear hK K)
          refine lax_nil fun W2 hg1 hF => ?_
          have G2 : Hid (Grew W0 W2) := G1.out.trans hg1
          have P2 : Hid (BoxT W2 p 37 [.int .i64 (kk : Int), .int .i64 ((kk : Int) + 1), .bool x.rd, .bool x.wr, .bool x.sh, .int .i64 x.file, .int .i64 x.page]) := P1.out.grew hg1
          have O2 : Hid (OwnRow arE (w.heap.size + 1) W2 (.slice (some ⟨g, 0, none⟩) (m + 1) xc) acc) := O1.out.grew hg1
          clear hg1 hF hx0 hx1 hx2 hx3 hx4 hx5 hx6 hy0 hy1 hy2 hy3 hy4 hy5 hy6 hne
          cases R with
          | true =>
            have J2 : Hid (J f (kk + 1) (ini ++ [{ b with to := (kk : Int) + 1 }])) := HEXT.out ini b HACC.out HRR.out
            have HSET : Hid (acc.set m { b with to := (kk : Int) + 1 } = ini ++ [{ b with to := (kk : Int) + 1 }]) := show _ = _ by rw [HACC.out, List.set_append_right _ _ (by rw [HM.out]; exact Nat.le_refl _), HM.out, Nat.sub_self]; rfl
            have p1 := P2.out.box.c 1 rfl
            go_wp2_with (refine wpList_store_part (E := arE) rfl (.tmp 34) (.tmp 32) 3 rfl (w.heap.size + 1) (.slice (some ⟨g, 0, none⟩) (m + 1) xc) acc O2.out g m 1 rfl b { b with to := (kk : Int) + 1 } HBI.out [.int .i64 ((kk : Int) + 1)] (by kernel_rfl) rfl (Nat.le_of_ble_eq_true rfl) (by intro u hu; simp at hu; subst hu; rfl) _ rfl (by simp; rfl) _ rfl rfl ?_)
            intro W3 ow3 gr3 sz3
            have HBG := O2.out.lt g rfl
            have G3 : Hid (Grew W0 W3) := show Grew _ _ from grew_grown G2.out gr3 (by rw [HS0.out]; exact HBG.1)
            have HL3 : Hid ((ini ++ [{ b with to := (kk : Int) + 1 }]).length = m + 1) := show _ = _ by simp [HM.out]
            have O3 : Hid (OwnRow arE (w.heap.size + 1) W3 (.slice (some ⟨g, 0, none⟩) (ini ++ [{ b with to := (kk : Int) + 1 }]).length xc) (ini ++ [{ b with to := (kk : Int) + 1 }])) := show OwnRow _ _ _ _ _ by rw [HL3.out, ← HSET.out]; exact ow3
            clear ow3 gr3 sz3 HBG p1
            rw [← HL3.out]
            go_wp2
            go_roundg (64 - (kk + 1))
            case measure => omega
            case rel => exact ⟨kk + 1, ini ++ [({ b with to := (kk : Int) + 1 } : Ar)], some ⟨g, 0, none⟩, xc, by omega, by omega, by go_num, rfl, G3.out, O3.out, J2.out⟩
          | false =>
            have J2 : Hid (J f (kk + 1) (acc ++ [⟨kk, (kk : Int) + 1, x.rd, x.wr, x.sh, x.file, x.page⟩])) := HNEW.out (fun c hc => by
              rw [HACC.out] at hc
              simp at hc
              subst hc
              exact HRR.out)
            have HSZ : Hid (w.heap.size + 1 ≤ W2.heap.size) := show _ ≤ _ by rw [← HS0.out]; exact Below.size G2.out
            go_wp2_with (first | refine wp_loadAll rfl 37 (.tmp 5) rfl p rfl P2.out.box Try.underlying37 rfl Try.sizeArea ?_ | (at_builtin; refine wpList_append_row (E := arE) rfl (.tmp 35) (.tmp 37) rfl (w.heap.size + 1) _ acc rfl (O2.out.grew (grew_alloc _ _)) _ [⟨kk, (kk : Int) + 1, x.rd, x.wr, x.sh, x.file, x.page⟩] rfl (one_row arE W2 ⟨kk, (kk : Int) + 1, x.rd, x.wr, x.sh, x.file, x.page⟩ _ _ rfl (by show 40 ≤ _; omega)) ?qb ?qc ?_))
            case qb =>
              show (acc.length + 1) * 40 ≤ _
              rw [HAL.out]
              omega
            case qc => simp; have := HSZ.out; omega
            intro v4 W4 ow4 gr4
            obtain ⟨xa4, xc4, rfl⟩ := ow4.form
            have O4 : Hid (OwnRow arE (w.heap.size + 1) W4 (.slice xa4 (acc ++ [(⟨kk, (kk : Int) + 1, x.rd, x.wr, x.sh, x.file, x.page⟩ : Ar)]).length xc4) (acc ++ [⟨kk, (kk : Int) + 1, x.rd, x.wr, x.sh, x.file, x.page⟩])) := ow4
            have G4 : Hid (Grew W0 W4) := show Grew _ _ from grew_beside (G2.out.trans (grew_alloc _ _)) gr4 (fun g hg => by
              have h1 := (O2.out.lt g hg).1
              rw [HS0.out]
              exact h1)
            clear ow4 gr4
            go_wp2
            go_roundg (64 - (kk + 1))
            case measure => omega
            case rel => exact ⟨kk + 1, acc ++ [(⟨kk, (kk : Int) + 1, x.rd, x.wr, x.sh, x.file, x.page⟩ : Ar)], xa4, xc4, by omega, by omega, by go_num, rfl, G4.out, O4.out, J2.out⟩
    · have hltz : ¬ (kk : Int) < 64 := by omega
      have : kk = 64 := by omega
      subst this
      have HE : Hid (acc = joinL f) := JW.out.all HGD.out
      have OE : Hid (OwnRow arE (w.heap.size + 1) wr (.slice xa acc.length xc) (joinL f)) := show OwnRow _ _ _ _ _ by rw [← HE.out]; exact OW.out
      have GE : Hid (Grew w wr) := HG0.out.trans BW.out
      go_wp2
      go_ret
      exact ⟨⟨_, rfl, OE.out⟩, GE.out⟩

end Go.Proofs.Ytlkgmjdhggfimad
