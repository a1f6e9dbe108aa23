/- Contracts of Map, Unmap, Protect and Room (the document's answer). -/
import Derived.Test.YtlkgmjdhggfimadArRefWrong
import Derived.Test.YtlkgmjdhggfimadArRefMapR
import Derived.Test.YtlkgmjdhggfimadArOps
namespace Go.Proofs.Ytlkgmjdhggfimad
open Go.RowKit

/-- Pages when those below k have been looked at. -/
def curF (l : List Ar) (a : Ar) (k : Nat) : Nat → On := fun j => if j < k ∧ inB a j = true then oneOf a j else onAt l j
theorem cur_zero (l : List Ar) (a : Ar) : curF l a 0 = onAt l := by
  funext j
  unfold curF
  rw [if_neg (by omega)]
theorem cur_at (l : List Ar) (a : Ar) (k : Nat) : curF l a k k = onAt l k := by
  unfold curF
  rw [if_neg (by omega)]
theorem cur_set {l : List Ar} {a : Ar} {k : Nat} (h : inB a k = true) : upd (curF l a k) k (oneOf a k) = curF l a (k + 1) := by
  funext j
  unfold upd curF
  by_cases e : j = k
  · subst e
    rw [if_pos rfl, if_pos ⟨by omega, h⟩]
  · rw [if_neg e]
    by_cases h1 : j < k ∧ inB a j = true
    · rw [if_pos h1, if_pos ⟨by omega, h1.2⟩]
    · rw [if_neg h1, if_neg (fun h2 => h1 ⟨by omega, h2.2⟩)]
theorem cur_skip {l : List Ar} {a : Ar} {k : Nat} (h : inB a k = false) : curF l a k = curF l a (k + 1) := by
  funext j
  unfold curF
  by_cases h1 : j < k ∧ inB a j = true
  · rw [if_pos h1, if_pos ⟨by omega, h1.2⟩]
  · rw [if_neg h1]
    by_cases h2 : j < k + 1 ∧ inB a j = true
    · have : j = k := by
        rcases Nat.lt_or_ge j k with h3 | h3
        · exact absurd ⟨h3, h2.2⟩ h1
        · omega
      rw [this, h] at h2
      cases h2.2
    · rw [if_neg h2]
theorem cur_all (l : List Ar) (a : Ar) : tab (curF l a 64) = tab (mapF l a) := tab_ext fun k hk => by
  unfold curF mapF
  by_cases h : inB a k = true
  · rw [if_pos ⟨hk, h⟩, if_pos h]
  · rw [if_neg (fun h1 => h h1.2), if_neg h]
theorem on_one (a : Ar) (k : Nat) : onAt [a] k = if inB a k = true then oneOf a k else on0 := rfl
theorem on_one_is (a : Ar) (k : Nat) : (onAt [a] k).is = inB a k := by
  rw [on_one]
  cases h : inB a k with
  | true => rfl
  | false => rfl
theorem hit_in {l : List Ar} {a : Ar} {k : Nat} (hk : k < 64) (h : inB a k = true) (h' : (onAt l k).is = true) : hitB l a.fr (a.to - a.fr) = true := hitB_iff.2 ⟨k, hk, by have := inB_iff.1 h; omega, h'⟩
theorem hit_none {l : List Ar} {a : Ar} (h : ∀ k, k < 64 → inB a k = true → (onAt l k).is = false) : hitB l a.fr (a.to - a.fr) = false := hitB_no.2 fun k hk hw => h k hk (inB_iff.2 (by omega))

set_option maxRecDepth 100000 in
set_option maxHeartbeats 4000000 in
theorem refMap_any (v : Value) (l : List Ar) (a : Ar) (w : World) (hv : RowAt arE w v l) (hcap : Cap v) :
    Calls Try.prog 15 #[v, .agg #[.int .i64 a.fr, .int .i64 a.to, .bool a.rd, .bool a.wr, .bool a.sh, .int .i64 a.file, .int .i64 a.base]] w (Gives (mapA l a) w) := by
  have HV : Hid (RowAt arE w v l) := hv
  have HW : Hid (∀ W, Grew w W → Calls Try.prog 13 #[v] W fun e w' => e = .returned (.agg #[.int .i64 (wrL l).1, .int .i64 (wrL l).2]) ∧ Grew W w') := fun W hW => refWrongAr_any v l W (HV.out.grew hW) hcap
  have HWA : Hid (∀ W, Calls Try.prog 38 #[.agg #[.int .i64 a.fr, .int .i64 a.to, .bool a.rd, .bool a.wr, .bool a.sh, .int .i64 a.file, .int .i64 a.base]] W fun e w' => e = .returned (.int .i64 (arW a)) ∧ Grew W w') := fun W => refWrongArea_any a W
  clear hv hcap
  obtain ⟨W0, hW0⟩ : ∃ W0, w.alloc (.cells #[.int .i64 a.fr, .int .i64 a.to, .bool a.rd, .bool a.wr, .bool a.sh, .int .i64 a.file, .int .i64 a.base] 37) = W0 := ⟨_, rfl⟩
  have G0 : Hid (Grew w W0) := show Grew w W0 by rw [← hW0]; exact grew_alloc _ _
  have X0 : Hid (Box W0 w.heap.size [.int .i64 a.fr, .int .i64 a.to, .bool a.rd, .bool a.wr, .bool a.sh, .int .i64 a.file, .int .i64 a.base]) := show Box _ _ _ by rw [← hW0]; exact Box.top w _ _ rfl
  have HW0 : Hid (_ = W0) := hW0
  clear hW0
  by_cases hz : (wrL l).1 = 0
  · rw [hz] at HW
    generalize (wrL l).2 = I at HW
    by_cases hza : arW a = 0
    · rw [hza] at HWA
      have HL : Hid (l.length ≤ 16 ∧ CanP none l) := wrL_zero.1 hz
      have HA : Hid (ArOk a) := arW_zero.1 hza
      have HR0 : Hid (mapA l a = if hitB l a.fr (a.to - a.fr) = true then ([], 6) else fewL (mapF l a)) := show _ = _ by unfold mapA; rw [if_neg (fun h => h hz), if_neg (fun h => h hza)]
      have HFEW : Hid (∀ W, Calls Try.prog 44 #[.agg (cellsO (tab (curF l a 64))).toArray] W fun e w' => (∃ u, e = .returned (.tuple #[u, .int .i64 (fewL (mapF l a)).2]) ∧ OwnRow arE W.heap.size w' u (fewL (mapF l a)).1) ∧ Grew W w') := fun W => by
        rw [cur_all]
        exact refFew_any (mapF l a) W (mapF_good HL.out.2 HA.out)
      clear hz hza
      go_enter Try.func15, Try.ntmps15
      go_upto_region 1 with fail
      rw [HW0.out]
      go_wp2_with fail
      refine (HW.out W0 G0.out).mono ?_
      rintro e W1 ⟨rfl, g⟩
      have G1 : Hid (Grew w W1) := G0.out.trans g
      have X1 : Hid (Box W1 w.heap.size [.int .i64 a.fr, .int .i64 a.to, .bool a.rd, .bool a.wr, .bool a.sh, .int .i64 a.file, .int .i64 a.base]) := X0.out.grew g
      clear g
      obtain ⟨pf, HPF⟩ : ∃ pf, Hid (W1.heap.size = pf) := ⟨_, rfl⟩
      go_upto_region 2 with fail
      obtain ⟨W2, hWf⟩ : ∃ W2, W1.alloc (.cells #[.int .i64 0, .int .i64 I] 39) = W2 := ⟨_, rfl⟩
      have G2 : Hid (Grew w W2) := show Grew _ _ by rw [← hWf]; exact G1.out.trans (grew_alloc _ _)
      have F2 : Hid (Box W2 pf [.int .i64 0, .int .i64 I]) := show Box _ _ _ by rw [← hWf]; exact Box.top _ _ _ HPF.out.symm
      have X2 : Hid (Box W2 w.heap.size [.int .i64 a.fr, .int .i64 a.to, .bool a.rd, .bool a.wr, .bool a.sh, .int .i64 a.file, .int .i64 a.base]) := show Box _ _ _ by rw [← hWf]; exact X1.out.alloc _
      rw [hWf, HPF.out]
      clear hWf
      have f0 := F2.out.c 0 rfl
      go_wp2_with (refine wp_loadAll rfl 37 (.tmp 3) rfl w.heap.size rfl X2.out Try.underlying37 rfl Try.sizeArea ?_)
      refine (HWA.out W2).mono ?_
      rintro e W3 ⟨rfl, g⟩
      have G3 : Hid (Grew w W3) := G2.out.trans g
      have X3 : Hid (Box W3 w.heap.size (arv a)) := X2.out.grew g
      clear g f0
      go_upto_region 7 with fail
      refine map_region (v := v) (q := a) (pa := w.heap.size) (l := l) (fun x23 x24 x25 x26 x27 x8 x9 => ⟨#[_, _, _, _, _, _, _, _, x8, x9, _, _, _, _, _, _, _, _, _, _, _, _, _, x23, x24, x25, x26, x27, _, _, _, _, _, _, _, _, _, _, _, _, _, _, _, _, _, _, _, _, _, _, _, _, _, _, _], []⟩) (fun _ _ _ _ _ _ _ => rfl) (fun _ _ _ _ _ _ _ => rfl) (fun _ _ _ _ _ _ _ => rfl) (fun _ _ _ _ _ _ _ => rfl) (fun _ _ _ _ _ _ _ => rfl) (fun _ _ _ _ _ _ _ => rfl) (fun _ _ _ _ _ _ _ => rfl) (fun _ _ _ _ _ _ _ => rfl) (fun _ _ _ _ _ _ _ => rfl) (fun _ _ _ _ _ _ _ _ => rfl) (fun _ _ _ _ _ _ _ _ => rfl) (fun _ _ _ _ _ _ _ _ => rfl) (fun _ _ _ _ _ _ _ _ => rfl) (fun _ _ _ _ _ _ _ _ => rfl) (fun _ _ _ _ _ _ _ _ => rfl) (fun _ _ _ _ _ _ _ _ => rfl) (fun _ _ _ _ _ _ _ _ => rfl) (HV.out.grew G3.out) HL.out.2.lies HA.out X3.out ?_ _ _ _ _ _ _ _
      intro W4 b8 b9 x26 hbne g4 hb8 hb9 hs8 hs9
      have G4 : Hid (Grew w W4) := G3.out.trans g4
      have B8 : Hid (Box W4 b8 (cellsO (tab (curF l a 0)))) := show Box _ _ _ by rw [cur_zero]; exact hb8
      have B9 : Hid (Box W4 b9 (cellsO (tab (onAt [a])))) := hb9
      have HS8 : Hid (w.heap.size ≤ b8) := Nat.le_trans (Below.size G3.out) hs8
      have hbne' : b9 ≠ b8 := fun e => hbne e.symm
      have HNE : Hid (b9 ≠ b8) := hbne'
      clear g4 hb8 hb9 hs8 hs9
      go_wp2
      go_loopg [28] 64 (fun gg s28 wr => ∃ kk : Nat, kk ≤ 64 ∧ 64 - kk ≤ gg ∧ s28 = .int .i64 kk ∧ Hid (Grew w wr) ∧ Hid (Box wr b8 (cellsO (tab (curF l a kk)))) ∧ Hid (Box wr b9 (cellsO (tab (onAt [a])))) ∧ Hid (∀ j : Nat, j < kk → inB a j = true → (onAt l j).is = false))
      case atStart => exact ⟨0, Nat.zero_le _, by omega, rfl, G4.out, B8.out, B9.out, fun j hj => absurd hj (Nat.not_lt_zero _)⟩
      case round =>
        obtain ⟨kk, hkk, hg, rfl, BW, LW, RW, HH⟩ := hrel
        by_cases hlt : kk < 64
        · have hltz : (kk : Int) < 64 := by omega
          have d8 := LW.out.c (kk * 6) (cellsO_at (tab_at hlt) 0 (.bool (onAt l kk).is) (by rw [cur_at]; rfl))
          have d9 := RW.out.c (kk * 6) (cellsO_at (tab_at hlt) 0 (.bool (inB a kk)) (by rw [← on_one_is]; rfl))
          cases hin : inB a kk with
          | true =>
            cases his : (onAt l kk).is with
            | true =>
              have HR : Hid (mapA l a = ([], 6)) := show _ = _ by rw [HR0.out, hit_in hlt hin his, if_pos rfl]
              rw [his] at d8
              rw [hin] at d9
              clear hin his
              go_wp2
              refine bodyPost_ret (results_tmp2 rfl _ _ _) rfl ?_
              rw [HR.out]
              exact ⟨⟨_, rfl, OwnRow.nil _ _ _⟩, BW.out⟩
            | false =>
              have HST : Hid (upd (curF l a kk) kk (oneOf a kk) = curF l a (kk + 1)) := cur_set hin
              have HON : Hid (onAt [a] kk = oneOf a kk) := show _ = _ by rw [on_one, if_pos hin]
              have HH2 : Hid (∀ j : Nat, j < kk + 1 → inB a j = true → (onAt l j).is = false) := show ∀ j : Nat, _ from fun j hj h => by
                by_cases e : j = kk
                · rw [e]; exact his
                · exact HH.out j (by omega) h
              rw [his] at d8
              rw [hin] at d9
              clear hin his
              have HLV : Hid (Value.agg (onv (onAt [a] kk)).toArray = .agg (onv (oneOf a kk)).toArray) := show _ = _ by rw [HON.out]
              go_wp2_with (first | refine wp_loadOnv rfl (.tmp 47) rfl b9 kk hlt rfl RW.out HLV.out ?_ | refine wp_storeOn rfl (.tmp 49) (.tmp 48) rfl b8 kk hlt rfl (oneOf a kk) rfl LW.out ?_)
              intro W5 b5 g5 s5
              have L5 : Hid (Box W5 b8 (cellsO (tab (curF l a (kk + 1))))) := show Box _ _ _ by rw [← HST.out]; exact b5
              have R5 : Hid (Box W5 b9 (cellsO (tab (onAt [a])))) := RW.out.grown g5 HNE.out
              have G5 : Hid (Grew w W5) := grew_grown BW.out g5 HS8.out
              clear b5 g5 s5 d8 d9
              go_wp2
              go_roundg (64 - (kk + 1))
              case measure => omega
              case rel => exact ⟨kk + 1, by omega, by omega, by go_num, G5.out, L5.out, R5.out, HH2.out⟩
          | false =>
            have L5 : Hid (Box wr b8 (cellsO (tab (curF l a (kk + 1))))) := show Box _ _ _ by rw [← cur_skip hin]; exact LW.out
            have HH2 : Hid (∀ j : Nat, j < kk + 1 → inB a j = true → (onAt l j).is = false) := show ∀ j : Nat, _ from fun j hj h => by
              by_cases e : j = kk
              · rw [e, hin] at h; cases h
              · exact HH.out j (by omega) h
            rw [hin] at d9
            clear hin
            cases his : (onAt l kk).is with
            | true =>
              rw [his] at d8
              clear his
              go_wp2
              go_roundg (64 - (kk + 1))
              case measure => omega
              case rel => exact ⟨kk + 1, by omega, by omega, by go_num, BW.out, L5.out, RW.out, HH2.out⟩
            | false =>
              rw [his] at d8
              clear his
              go_wp2
              go_roundg (64 - (kk + 1))
              case measure => omega
              case rel => exact ⟨kk + 1, by omega, by omega, by go_num, BW.out, L5.out, RW.out, HH2.out⟩
        · have hltz : ¬ (kk : Int) < 64 := by omega
          have : kk = 64 := by omega
          subst this
          have HR : Hid (mapA l a = fewL (mapF l a)) := show _ = _ by rw [HR0.out, hit_none HH.out, if_neg (by decide)]
          have HCL : Hid ((cellsO (tab (curF l a 64))).length = 384) := tabO_len _
          go_wp2_with (refine wp_loadAll rfl 49 (.tmp 8) rfl b8 rfl LW.out Try.underlying49 rfl (by rw [HCL.out]; exact Try.sizeOnes) ?_)
          refine (HFEW.out wr).mono ?_
          rintro e W6 ⟨⟨u, rfl, ow⟩, g6⟩
          have G6 : Hid (Grew w W6) := BW.out.trans g6
          have O6 : Hid (OwnRow arE w.heap.size W6 u (fewL (mapF l a)).1) := ow.base (Below.size BW.out)
          clear g6 ow
          go_wp2
          refine bodyPost_ret (results_tmp2 rfl _ _ _) rfl ?_
          rw [HR.out]
          exact ⟨⟨_, rfl, O6.out⟩, G6.out⟩
    · have hzb : (arW a != 0) = true := by simp [hza]
      have HR : Hid (mapA l a = ([], arW a)) := show _ = _ by unfold mapA; rw [if_neg (fun h => h hz), if_pos hza]
      clear hz hza
      generalize arW a = E at *
      go_enter Try.func15, Try.ntmps15
      go_upto_region 1 with fail
      rw [HW0.out]
      go_wp2_with fail
      refine (HW.out W0 G0.out).mono ?_
      rintro e W1 ⟨rfl, g⟩
      have G1 : Hid (Grew w W1) := G0.out.trans g
      have X1 : Hid (Box W1 w.heap.size [.int .i64 a.fr, .int .i64 a.to, .bool a.rd, .bool a.wr, .bool a.sh, .int .i64 a.file, .int .i64 a.base]) := X0.out.grew g
      clear g
      obtain ⟨pf, HPF⟩ : ∃ pf, Hid (W1.heap.size = pf) := ⟨_, rfl⟩
      go_upto_region 2 with fail
      obtain ⟨W2, hWf⟩ : ∃ W2, W1.alloc (.cells #[.int .i64 0, .int .i64 I] 39) = W2 := ⟨_, rfl⟩
      have G2 : Hid (Grew w W2) := show Grew _ _ by rw [← hWf]; exact G1.out.trans (grew_alloc _ _)
      have F2 : Hid (Box W2 pf [.int .i64 0, .int .i64 I]) := show Box _ _ _ by rw [← hWf]; exact Box.top _ _ _ HPF.out.symm
      have X2 : Hid (Box W2 w.heap.size [.int .i64 a.fr, .int .i64 a.to, .bool a.rd, .bool a.wr, .bool a.sh, .int .i64 a.file, .int .i64 a.base]) := show Box _ _ _ by rw [← hWf]; exact X1.out.alloc _
      rw [hWf, HPF.out]
      clear hWf
      have f0 := F2.out.c 0 rfl
      go_wp2_with (refine wp_loadAll rfl 37 (.tmp 3) rfl w.heap.size rfl X2.out Try.underlying37 rfl Try.sizeArea ?_)
      refine (HWA.out W2).mono ?_
      rintro e W3 ⟨rfl, g⟩
      have G3 : Hid (Grew w W3) := G2.out.trans g
      clear g f0
      go_wp2
      refine bodyPost_ret (results_tmp2 rfl _ _ _) rfl ?_
      rw [HR.out]
      exact ⟨⟨_, rfl, OwnRow.nil _ _ _⟩, G3.out⟩
  · have hzb : ((wrL l).1 != 0) = true := by simp [hz]
    have HR : Hid (mapA l a = ([], (wrL l).1)) := show _ = _ by unfold mapA; rw [if_pos hz]
    clear hz
    generalize (wrL l).2 = I at HW
    generalize (wrL l).1 = E at *
    go_enter Try.func15, Try.ntmps15
    go_upto_region 1 with fail
    rw [HW0.out]
    go_wp2_with fail
    refine (HW.out W0 G0.out).mono ?_
    rintro e W1 ⟨rfl, g⟩
    have G1 : Hid (Grew w W1) := G0.out.trans g
    clear g
    obtain ⟨pf, HPF⟩ : ∃ pf, Hid (W1.heap.size = pf) := ⟨_, rfl⟩
    go_upto_region 2 with fail
    obtain ⟨W2, hWf⟩ : ∃ W2, W1.alloc (.cells #[.int .i64 E, .int .i64 I] 39) = W2 := ⟨_, rfl⟩
    have G2 : Hid (Grew w W2) := show Grew _ _ by rw [← hWf]; exact G1.out.trans (grew_alloc _ _)
    have F2 : Hid (Box W2 pf [.int .i64 E, .int .i64 I]) := show Box _ _ _ by rw [← hWf]; exact Box.top _ _ _ HPF.out.symm
    rw [hWf, HPF.out]
    clear hWf
    have f0 := F2.out.c 0 rfl
    go_upto_region 3 with fail
    go_quiet (fail)
    obtain ⟨Wq, hWq⟩ : ∃ Wq, W2.drewN nq = Wq := ⟨_, rfl⟩
    have Gq : Hid (Grew w Wq) := show Grew _ _ by rw [← hWq]; exact G2.out.trans (show Below _ _ _ from Go.below_drewN (Below.refl _ _) _)
    rw [hWq]
    clear hWq f0
    go_wp2
    refine bodyPost_ret (results_tmp2 rfl _ _ _) rfl ?_
    rw [HR.out]
    exact ⟨⟨_, rfl, OwnRow.nil _ _ _⟩, Gq.out⟩

end Go.Proofs.Ytlkgmjdhggfimad
