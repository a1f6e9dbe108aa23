/- Contracts of Unmap, Protect and Room (the document's answer). -/
import Derived.Test.YtlkgmjdhggfimadArRefWrong
import Derived.Test.YtlkgmjdhggfimadArOps
namespace Go.Proofs.Ytlkgmjdhggfimad
open Go.RowKit

theorem un_step (f : Nat → On) {s k : Nat} (h : s ≤ k) : upd (chF f (fun _ => on0) s k) k on0 = chF f (fun _ => on0) s (k + 1) := by
  funext j
  unfold upd chF
  by_cases e : j = k
  · subst e
    rw [if_pos rfl, if_pos (by omega)]
  · rw [if_neg e]
    by_cases h : s ≤ j ∧ j < k
    · rw [if_pos h, if_pos (by omega)]
    · rw [if_neg h, if_neg (by omega)]
theorem pr_step (f : Nat → On) (r u : Bool) {s k : Nat} (h : s ≤ k) : upd (chF f (fun k => { f k with rd := r, wr := u }) s k) k { f k with rd := r, wr := u } = chF f (fun k => { f k with rd := r, wr := u }) s (k + 1) := by
  funext j
  unfold upd chF
  by_cases e : j = k
  · subst e
    rw [if_pos rfl, if_pos (by omega)]
  · rw [if_neg e]
    by_cases h : s ≤ j ∧ j < k
    · rw [if_pos h, if_pos (by omega)]
    · rw [if_neg h, if_neg (by omega)]
theorem ch_self (f g : Nat → On) (s k : Nat) : chF f g s k k = f k := by
  unfold chF
  rw [if_neg (by omega)]

set_option maxRecDepth 100000 in
set_option maxHeartbeats 4000000 in
theorem refUnmap_any (v : Value) (l : List Ar) (s n : Int) (w : World) (hv : RowAt arE w v l) (hcap : Cap v) (hs : s ≤ 9223372036854775807) :
    Calls Try.prog 18 #[v, .int .i64 s, .int .i64 n] w (Gives (unA l s n) w) := by
  have HV : Hid (RowAt arE w v l) := hv
  have HW : Hid (∀ W, Grew w W → Calls Try.prog 13 #[v] W fun e w' => e = .returned (.agg #[.int .i64 (wrL l).1, .int .i64 (wrL l).2]) ∧ Grew W w') := fun W hW => refWrongAr_any v l W (HV.out.grew hW) hcap
  have HSP : Hid (∀ W, Calls Try.prog 47 #[.int .i64 s, .int .i64 n] W fun e w' => e = .returned (.bool (spanB s n)) ∧ w' = W) := fun W => span_any s n W hs
  clear hv hcap
  have G0 : Hid (Grew w w) := Grew.refl _
  by_cases hz : (wrL l).1 = 0
  case neg =>
    have hzb : ((wrL l).1 != 0) = true := by simp [hz]
    have HR : Hid (unA l s n = ([], (wrL l).1)) := show _ = _ by unfold unA; rw [if_pos hz]
    clear hz
    generalize (wrL l).2 = I at HW
    generalize (wrL l).1 = E at *
    go_enter Try.func18, Try.ntmps18
    go_upto_region 1 with fail
    go_wp2_with fail
    refine (HW.out w G0.out).mono ?_
    rintro e W1 ⟨rfl, g⟩
    have G1 : Hid (Grew w W1) := G0.out.trans g
    clear g
    obtain ⟨pf, HPF⟩ : ∃ pf, Hid (W1.heap.size = pf) := ⟨_, rfl⟩
    go_upto_region 2 with fail
    obtain ⟨W2, hWf⟩ : ∃ W2, W1.alloc (.cells #[.int .i64 E, .int .i64 I] 39) = W2 := ⟨_, rfl⟩
    have G2 : Hid (Grew w W2) := show Grew _ _ by rw [← hWf]; exact G1.out.trans (grew_alloc _ _)
    have F2 : Hid (Box W2 pf [.int .i64 E, .int .i64 I]) := show Box _ _ _ by rw [← hWf]; exact Box.top _ _ _ HPF.out.symm
    rw [hWf, HPF.out]
    clear hWf
    have f0 := F2.out.c 0 rfl
    go_upto_region 3 with fail
    go_quiet (fail)
    obtain ⟨Wq, hWq⟩ : ∃ Wq, W2.drewN nq = Wq := ⟨_, rfl⟩
    have Gq : Hid (Grew w Wq) := show Grew _ _ by rw [← hWq]; exact G2.out.trans (show Below _ _ _ from Go.below_drewN (Below.refl _ _) _)
    rw [hWq]
    clear hWq f0
    go_wp2
    refine bodyPost_ret (results_tmp2 rfl _ _ _) rfl ?_
    rw [HR.out]
    exact ⟨⟨_, rfl, OwnRow.nil _ _ _⟩, Gq.out⟩
  case pos =>
  have HZ : Hid ((wrL l).1 = 0) := hz
  rw [hz] at HW
  generalize (wrL l).2 = I at HW
  clear hz
  cases hsp : spanB s n with
  | false =>
    have HR : Hid (unA l s n = ([], 3)) := show _ = _ by unfold unA; rw [if_neg (fun h => h HZ.out), hsp, if_pos rfl]
    rw [hsp] at HSP
    clear hsp
    go_enter Try.func18, Try.ntmps18
    go_upto_region 1 with fail
    go_wp2_with fail
    refine (HW.out w G0.out).mono ?_
    rintro e W1 ⟨rfl, g⟩
    have G1 : Hid (Grew w W1) := G0.out.trans g
    clear g
    obtain ⟨pf, HPF⟩ : ∃ pf, Hid (W1.heap.size = pf) := ⟨_, rfl⟩
    go_upto_region 2 with fail
    obtain ⟨W2, hWf⟩ : ∃ W2, W1.alloc (.cells #[.int .i64 0, .int .i64 I] 39) = W2 := ⟨_, rfl⟩
    have G2 : Hid (Grew w W2) := show Grew _ _ by rw [← hWf]; exact G1.out.trans (grew_alloc _ _)
    have F2 : Hid (Box W2 pf [.int .i64 0, .int .i64 I]) := show Box _ _ _ by rw [← hWf]; exact Box.top _ _ _ HPF.out.symm
    rw [hWf, HPF.out]
    clear hWf
    have f0 := F2.out.c 0 rfl
    go_wp2_with fail
    refine (HSP.out W2).mono ?_
    rintro e w' ⟨rfl, hw'⟩
    rw [hw']
    clear hw' w' f0
    go_wp2
    refine bodyPost_ret (results_tmp2 rfl _ _ _) rfl ?_
    rw [HR.out]
    exact ⟨⟨_, rfl, OwnRow.nil _ _ _⟩, G2.out⟩
  | true =>
    have hs' := spanB_iff.1 hsp
    have HSPT : Hid (spanB s n = true) := hsp
    rw [hsp] at HSP
    clear hsp
    obtain ⟨q1, q2, q3⟩ := hs'
    obtain ⟨s, rfl⟩ : ∃ s' : Nat, (s' : Int) = s := ⟨s.toNat, by omega⟩
    obtain ⟨n, rfl⟩ : ∃ n' : Nat, (n' : Int) = n := ⟨n.toNat, by omega⟩
    have HL : Hid (l.length ≤ 16 ∧ CanP none l) := wrL_zero.1 HZ.out
    have HON : Hid (∀ W, Grew w W → Calls Try.prog 22 #[v] W fun e w' => e = .returned (.agg (cellsO (tab (onAt l))).toArray) ∧ Grew W w') := fun W hW => refOnes_any v l W (HV.out.grew hW) HL.out.2.lies
    have hz := run_zeroO
    obtain ⟨Z0, HZ0⟩ : ∃ Z0, Hid (cellsO (tab fun _ => on0) = Z0) := ⟨_, rfl⟩
    rw [HZ0.out] at hz
    have HZL : Hid (Z0.length = 384) := show _ = _ by rw [← HZ0.out, tabO_len]
    have HPL : Hid ((cellsO (tab (onAt l))).length = 384) := tabO_len _
    have HPO : Hid (∀ v ∈ cellsO (tab (onAt l)), v.oneCell' = true) := cellsO_one _
    have HR : Hid (unA l s n = fewL (unF (onAt l) s n)) := unA_of HZ.out HSPT.out
    have HFEW : Hid (∀ W, Calls Try.prog 44 #[.agg (cellsO (tab (chF (onAt l) (fun _ => on0) s (s + n)))).toArray] W fun e w' => (∃ u, e = .returned (.tuple #[u, .int .i64 (fewL (unF (onAt l) s n)).2]) ∧ OwnRow arE W.heap.size w' u (fewL (unF (onAt l) s n)).1) ∧ Grew W w') := fun W => by
      rw [ch_un]
      exact refFew_any _ W (unF_good HL.out.2.good _ _)
    go_enter Try.func18, Try.ntmps18
    go_upto_region 1 with fail
    go_wp2_with fail
    refine (HW.out w G0.out).mono ?_
    rintro e W1 ⟨rfl, g⟩
    have G1 : Hid (Grew w W1) := G0.out.trans g
    clear g
    obtain ⟨pf, HPF⟩ : ∃ pf, Hid (W1.heap.size = pf) := ⟨_, rfl⟩
    go_upto_region 2 with fail
    obtain ⟨W2, hWf⟩ : ∃ W2, W1.alloc (.cells #[.int .i64 0, .int .i64 I] 39) = W2 := ⟨_, rfl⟩
    have G2 : Hid (Grew w W2) := show Grew _ _ by rw [← hWf]; exact G1.out.trans (grew_alloc _ _)
    have F2 : Hid (Box W2 pf [.int .i64 0, .int .i64 I]) := show Box _ _ _ by rw [← hWf]; exact Box.top _ _ _ HPF.out.symm
    rw [hWf, HPF.out]
    clear hWf
    have f0 := F2.out.c 0 rfl
    go_wp2_with fail
    refine (HSP.out W2).mono ?_
    rintro e w' ⟨rfl, hw'⟩
    rw [hw']
    clear hw' w'
    go_wp2_with fail
    refine (HON.out W2 G2.out).mono ?_
    rintro e W3 ⟨rfl, g⟩
    have G3 : Hid (Grew w W3) := G2.out.trans g
    clear g f0
    obtain ⟨p, HP⟩ : ∃ p, Hid (W3.heap.size = p) := ⟨_, rfl⟩
    have HLP : Hid (w.heap.size ≤ p) := show _ ≤ _ by rw [← HP.out]; exact Below.size G3.out
    go_upto_region 7 with (refine wp_storeAll rfl 49 (.tmp 9) (.tmp 23) rfl W3.heap.size rfl (cellsO (tab (onAt l))) rfl (Box.top W3 Z0 49 rfl) (by rw [HPL.out, HZL.out]) (by rw [HZL.out]; exact Try.sizeOnes) HPO.out ?_)
    intro W4 b4 g4 s4
    rw [HP.out] at b4 g4 ⊢
    have G4 : Hid (Grew w W4) := grew_grown (G3.out.trans (grew_alloc _ _)) g4 HLP.out
    have L4 : Hid (Box W4 p (cellsO (tab (chF (onAt l) (fun _ => on0) s s)))) := show Box _ _ _ by rw [chF_zero]; exact b4
    clear b4 g4 s4 hz
    go_wp2
    go_loopg [10] n (fun gg s10 wr => ∃ kk : Nat, s ≤ kk ∧ kk ≤ s + n ∧ s + n - kk ≤ gg ∧ s10 = .int .i64 kk ∧ Hid (Grew w wr) ∧ Hid (Box wr p (cellsO (tab (chF (onAt l) (fun _ => on0) s kk)))))
    case atStart => exact ⟨s, Nat.le_refl _, by omega, by omega, rfl, G4.out, L4.out⟩
    case round =>
      obtain ⟨kk, hk0, hkk, hg, rfl, BW, LW⟩ := hrel
      by_cases hlt : kk < s + n
      · have hltz : (kk : Int) < (s : Int) + (n : Int) := by omega
        have h64 : kk < 64 := by omega
        have h64z : (kk : Int) < 64 := by omega
        have HST : Hid (upd (chF (onAt l) (fun _ => on0) s kk) kk on0 = chF (onAt l) (fun _ => on0) s (kk + 1)) := un_step _ hk0
        go_wp2_with (refine wp_storeOn rfl (.tmp 34) (.tmp 33) rfl p kk h64 rfl on0 rfl LW.out ?_)
        intro W5 b5 g5 s5
        have L5 : Hid (Box W5 p (cellsO (tab (chF (onAt l) (fun _ => on0) s (kk + 1))))) := show Box _ _ _ by rw [← HST.out]; exact b5
        have G5 : Hid (Grew w W5) := grew_grown BW.out g5 HLP.out
        clear b5 g5 s5
        go_wp2
        go_roundg (s + n - (kk + 1))
        case measure => omega
        case rel => exact ⟨kk + 1, by omega, by omega, by omega, by go_num, G5.out, L5.out⟩
      · have hltz : ¬ (kk : Int) < (s : Int) + (n : Int) := by omega
        have : kk = s + n := by omega
        subst this
        have HCL : Hid ((cellsO (tab (chF (onAt l) (fun _ => on0) s (s + n)))).length = 384) := tabO_len _
        go_wp2_with (refine wp_loadAll rfl 49 (.tmp 9) rfl p rfl LW.out Try.underlying49 rfl (by rw [HCL.out]; exact Try.sizeOnes) ?_)
        refine (HFEW.out wr).mono ?_
        rintro e W6 ⟨⟨u, rfl, ow⟩, g6⟩
        have G6 : Hid (Grew w W6) := BW.out.trans g6
        have O6 : Hid (OwnRow arE w.heap.size W6 u (fewL (unF (onAt l) s n)).1) := ow.base (Below.size BW.out)
        clear g6 ow
        go_wp2
        refine bodyPost_ret (results_tmp2 rfl _ _ _) rfl ?_
        rw [HR.out]
        exact ⟨⟨_, rfl, O6.out⟩, G6.out⟩

set_option maxRecDepth 100000 in
set_option maxHeartbeats 4000000 in
theorem refProtect_any (v : Value) (l : List Ar) (s n : Int) (r u : Bool) (w : World) (hv : RowAt arE w v l) (hcap : Cap v) (hs : s ≤ 9223372036854775807) :
    Calls Try.prog 20 #[v, .int .i64 s, .int .i64 n, .bool r, .bool u] w (Gives (prA l s n r u) w) := by
  have HV : Hid (RowAt arE w v l) := hv
  have HW : Hid (∀ W, Grew w W → Calls Try.prog 13 #[v] W fun e w' => e = .returned (.agg #[.int .i64 (wrL l).1, .int .i64 (wrL l).2]) ∧ Grew W w') := fun W hW => refWrongAr_any v l W (HV.out.grew hW) hcap
  have HSP : Hid (∀ W, Calls Try.prog 47 #[.int .i64 s, .int .i64 n] W fun e w' => e = .returned (.bool (spanB s n)) ∧ w' = W) := fun W => span_any s n W hs
  clear hv hcap
  have G0 : Hid (Grew w w) := Grew.refl _
  by_cases hz : (wrL l).1 = 0
  case neg =>
    have hzb : ((wrL l).1 != 0) = true := by simp [hz]
    have HR : Hid (prA l s n r u = ([], (wrL l).1)) := show _ = _ by unfold prA; rw [if_pos hz]
    clear hz
    generalize (wrL l).2 = I at HW
    generalize (wrL l).1 = E at *
    go_enter Try.func20, Try.ntmps20
    go_upto_region 1 with fail
    go_wp2_with fail
    refine (HW.out w G0.out).mono ?_
    rintro e W1 ⟨rfl, g⟩
    have G1 : Hid (Grew w W1) := G0.out.trans g
    clear g
    obtain ⟨pf, HPF⟩ : ∃ pf, Hid (W1.heap.size = pf) := ⟨_, rfl⟩
    go_upto_region 2 with fail
    obtain ⟨W2, hWf⟩ : ∃ W2, W1.alloc (.cells #[.int .i64 E, .int .i64 I] 39) = W2 := ⟨_, rfl⟩
    have G2 : Hid (Grew w W2) := show Grew _ _ by rw [← hWf]; exact G1.out.trans (grew_alloc _ _)
    have F2 : Hid (Box W2 pf [.int .i64 E, .int .i64 I]) := show Box _ _ _ by rw [← hWf]; exact Box.top _ _ _ HPF.out.symm
    rw [hWf, HPF.out]
    clear hWf
    have f0 := F2.out.c 0 rfl
    go_upto_region 3 with fail
    go_quiet (fail)
    obtain ⟨Wq, hWq⟩ : ∃ Wq, W2.drewN nq = Wq := ⟨_, rfl⟩
    have Gq : Hid (Grew w Wq) := show Grew _ _ by rw [← hWq]; exact G2.out.trans (show Below _ _ _ from Go.below_drewN (Below.refl _ _) _)
    rw [hWq]
    clear hWq f0
    go_wp2
    refine bodyPost_ret (results_tmp2 rfl _ _ _) rfl ?_
    rw [HR.out]
    exact ⟨⟨_, rfl, OwnRow.nil _ _ _⟩, Gq.out⟩
  case pos =>
  have HZ : Hid ((wrL l).1 = 0) := hz
  rw [hz] at HW
  generalize (wrL l).2 = I at HW
  clear hz
  cases hsp : spanB s n with
  | false =>
    have HR : Hid (prA l s n r u = ([], 3)) := show _ = _ by unfold prA; rw [if_neg (fun h => h HZ.out), hsp, if_pos rfl]
    rw [hsp] at HSP
    clear hsp
    go_enter Try.func20, Try.ntmps20
    go_upto_region 1 with fail
    go_wp2_with fail
    refine (HW.out w G0.out).mono ?_
    rintro e W1 ⟨rfl, g⟩
    have G1 : Hid (Grew w W1) := G0.out.trans g
    clear g
    obtain ⟨pf, HPF⟩ : ∃ pf, Hid (W1.heap.size = pf) := ⟨_, rfl⟩
    go_upto_region 2 with fail
    obtain ⟨W2, hWf⟩ : ∃ W2, W1.alloc (.cells #[.int .i64 0, .int .i64 I] 39) = W2 := ⟨_, rfl⟩
    have G2 : Hid (Grew w W2) := show Grew _ _ by rw [← hWf]; exact G1.out.trans (grew_alloc _ _)
    have F2 : Hid (Box W2 pf [.int .i64 0, .int .i64 I]) := show Box _ _ _ by rw [← hWf]; exact Box.top _ _ _ HPF.out.symm
    rw [hWf, HPF.out]
    clear hWf
    have f0 := F2.out.c 0 rfl
    go_wp2_with fail
    refine (HSP.out W2).mono ?_
    rintro e w' ⟨rfl, hw'⟩
    rw [hw']
    clear hw' w' f0
    go_wp2
    refine bodyPost_ret (results_tmp2 rfl _ _ _) rfl ?_
    rw [HR.out]
    exact ⟨⟨_, rfl, OwnRow.nil _ _ _⟩, G2.out⟩
  | true =>
    have hs' := spanB_iff.1 hsp
    have HSPT : Hid (spanB s n = true) := hsp
    rw [hsp] at HSP
    clear hsp
    obtain ⟨q1, q2, q3⟩ := hs'
    obtain ⟨s, rfl⟩ : ∃ s' : Nat, (s' : Int) = s := ⟨s.toNat, by omega⟩
    obtain ⟨n, rfl⟩ : ∃ n' : Nat, (n' : Int) = n := ⟨n.toNat, by omega⟩
    have HL : Hid (l.length ≤ 16 ∧ CanP none l) := wrL_zero.1 HZ.out
    have HON : Hid (∀ W, Grew w W → Calls Try.prog 22 #[v] W fun e w' => e = .returned (.agg (cellsO (tab (onAt l))).toArray) ∧ Grew W w') := fun W hW => refOnes_any v l W (HV.out.grew hW) HL.out.2.lies
    have hz := run_zeroO
    obtain ⟨Z0, HZ0⟩ : ∃ Z0, Hid (cellsO (tab fun _ => on0) = Z0) := ⟨_, rfl⟩
    rw [HZ0.out] at hz
    have HZL : Hid (Z0.length = 384) := show _ = _ by rw [← HZ0.out, tabO_len]
    have HPL : Hid ((cellsO (tab (onAt l))).length = 384) := tabO_len _
    have HPO : Hid (∀ v ∈ cellsO (tab (onAt l)), v.oneCell' = true) := cellsO_one _
    have HR0 : Hid (prA l s n r u = if gapB l s n = true then ([], 5) else fewL (prF (onAt l) s n r u)) := show _ = _ by unfold prA; rw [if_neg (fun h => h HZ.out), HSPT.out, if_neg (by decide)]
    have HFEW : Hid (gapB l s n = false → ∀ W, Calls Try.prog 44 #[.agg (cellsO (tab (chF (onAt l) (fun k => { onAt l k with rd := r, wr := u }) s (s + n)))).toArray] W fun e w' => (∃ x, e = .returned (.tuple #[x, .int .i64 (fewL (prF (onAt l) s n r u)).2]) ∧ OwnRow arE W.heap.size w' x (fewL (prF (onAt l) s n r u)).1) ∧ Grew W w') := fun hgap W => by
      rw [ch_pr]
      exact refFew_any _ W (pr_good HL.out.2 hgap)
    go_enter Try.func20, Try.ntmps20
    go_upto_region 1 with fail
    go_wp2_with fail
    refine (HW.out w G0.out).mono ?_
    rintro e W1 ⟨rfl, g⟩
    have G1 : Hid (Grew w W1) := G0.out.trans g
    clear g
    obtain ⟨pf, HPF⟩ : ∃ pf, Hid (W1.heap.size = pf) := ⟨_, rfl⟩
    go_upto_region 2 with fail
    obtain ⟨W2, hWf⟩ : ∃ W2, W1.alloc (.cells #[.int .i64 0, .int .i64 I] 39) = W2 := ⟨_, rfl⟩
    have G2 : Hid (Grew w W2) := show Grew _ _ by rw [← hWf]; exact G1.out.trans (grew_alloc _ _)
    have F2 : Hid (Box W2 pf [.int .i64 0, .int .i64 I]) := show Box _ _ _ by rw [← hWf]; exact Box.top _ _ _ HPF.out.symm
    rw [hWf, HPF.out]
    clear hWf
    have f0 := F2.out.c 0 rfl
    go_wp2_with fail
    refine (HSP.out W2).mono ?_
    rintro e w' ⟨rfl, hw'⟩
    rw [hw']
    clear hw' w'
    go_wp2_with fail
    refine (HON.out W2 G2.out).mono ?_
    rintro e W3 ⟨rfl, g⟩
    have G3 : Hid (Grew w W3) := G2.out.trans g
    clear g f0
    obtain ⟨p, HP⟩ : ∃ p, Hid (W3.heap.size = p) := ⟨_, rfl⟩
    have HLP : Hid (w.heap.size ≤ p) := show _ ≤ _ by rw [← HP.out]; exact Below.size G3.out
    go_upto_region 7 with (refine wp_storeAll rfl 49 (.tmp 13) (.tmp 27) rfl W3.heap.size rfl (cellsO (tab (onAt l))) rfl (Box.top W3 Z0 49 rfl) (by rw [HPL.out, HZL.out]) (by rw [HZL.out]; exact Try.sizeOnes) HPO.out ?_)
    intro W4 b4 g4 s4
    rw [HP.out] at b4 g4 ⊢
    have G4 : Hid (Grew w W4) := grew_grown (G3.out.trans (grew_alloc _ _)) g4 HLP.out
    have L4 : Hid (Box W4 p (cellsO (tab (chF (onAt l) (fun k => { onAt l k with rd := r, wr := u }) s s)))) := show Box _ _ _ by rw [chF_zero]; exact b4
    clear b4 g4 s4 hz
    go_wp2
    go_loopg [14] n (fun gg s14 wr => ∃ kk : Nat, s ≤ kk ∧ kk ≤ s + n ∧ s + n - kk ≤ gg ∧ s14 = .int .i64 kk ∧ Hid (Grew w wr) ∧ Hid (Box wr p (cellsO (tab (chF (onAt l) (fun k => { onAt l k with rd := r, wr := u }) s kk)))) ∧ Hid (∀ j : Nat, s ≤ j → j < kk → (onAt l j).is = true))
    case atStart => exact ⟨s, Nat.le_refl _, by omega, by omega, rfl, G4.out, L4.out, fun j h1 h2 => absurd h1 (Nat.not_le.2 h2)⟩
    case round =>
      obtain ⟨kk, hk0, hkk, hg, rfl, BW, LW, HH⟩ := hrel
      by_cases hlt : kk < s + n
      · have hltz : (kk : Int) < (s : Int) + (n : Int) := by omega
        have h64 : kk < 64 := by omega
        have h64z : (kk : Int) < 64 := by omega
        have HSELF : Hid (chF (onAt l) (fun k => { onAt l k with rd := r, wr := u }) s kk kk = onAt l kk) := ch_self _ _ _ _
        have d0 := LW.out.c (kk * 6) (cellsO_at (tab_at h64) 0 (.bool (onAt l kk).is) (by rw [HSELF.out]; rfl))
        cases his : (onAt l kk).is with
        | false =>
          have HR : Hid (prA l s n r u = ([], 5)) := show _ = _ by rw [HR0.out, gapB_iff.2 ⟨kk, h64, by omega, his⟩, if_pos rfl]
          rw [his] at d0
          clear his
          go_wp2
          refine bodyPost_ret (results_tmp2 rfl _ _ _) rfl ?_
          rw [HR.out]
          exact ⟨⟨_, rfl, OwnRow.nil _ _ _⟩, BW.out⟩
        | true =>
          have HH2 : Hid (∀ j : Nat, s ≤ j → j < kk + 1 → (onAt l j).is = true) := show ∀ j : Nat, _ from fun j h1 h2 => by
            by_cases e : j = kk
            · rw [e]; exact his
            · exact HH.out j h1 (by omega)
          rw [his] at d0
          clear his
          have HST : Hid (upd (chF (onAt l) (fun k => { onAt l k with rd := r, wr := u }) s kk) kk { onAt l kk with rd := r, wr := u } = chF (onAt l) (fun k => { onAt l k with rd := r, wr := u }) s (kk + 1)) := pr_step _ _ _ hk0
          have d1 := LW.out.c (kk * 6 + 1) (cellsO_at (tab_at h64) 1 (.bool (onAt l kk).rd) (by rw [HSELF.out]; rfl))
          have d2 := LW.out.c (kk * 6 + 2) (cellsO_at (tab_at h64) 2 (.bool (onAt l kk).wr) (by rw [HSELF.out]; rfl))
          have lf := LW.out.f
          go_upto_region 9 with fail
          obtain ⟨W5, hW5⟩ : ∃ W5, (wr.setCell ⟨p, kk * 6 + 1, none⟩ (.bool r)).setCell ⟨p, kk * 6 + 2, none⟩ (.bool u) = W5 := ⟨_, rfl⟩
          have L5 : Hid (Box W5 p (cellsO (tab (chF (onAt l) (fun k => { onAt l k with rd := r, wr := u }) s (kk + 1))))) := show Box _ _ _ by
            rw [← hW5]
            have h1 := LW.out.onCell h64 1 (.bool r) { onAt l kk with rd := r } (by rw [HSELF.out]; rfl) (by omega)
            have h2 := h1.onCell h64 2 (.bool u) { onAt l kk with rd := r, wr := u } (by unfold upd; rw [if_pos rfl]; rfl) (by omega)
            rw [upd_upd, HST.out] at h2
            exact h2
          have G5 : Hid (Grew w W5) := show Grew _ _ by rw [← hW5]; exact grew_set (grew_set BW.out HLP.out _) HLP.out _
          rw [hW5]
          clear hW5 d0 d1 d2 lf
          go_wp2
          go_roundg (s + n - (kk + 1))
          case measure => omega
          case rel => exact ⟨kk + 1, by omega, by omega, by omega, by go_num, G5.out, L5.out, HH2.out⟩
      · have hltz : ¬ (kk : Int) < (s : Int) + (n : Int) := by omega
        have : kk = s + n := by omega
        subst this
        have HCL : Hid ((cellsO (tab (chF (onAt l) (fun k => { onAt l k with rd := r, wr := u }) s (s + n)))).length = 384) := tabO_len _
        have HGAP : Hid (gapB l s n = false) := gapB_no.2 fun k hk h => HH.out k (by omega) (by omega)
        have HR : Hid (prA l s n r u = fewL (prF (onAt l) s n r u)) := show _ = _ by rw [HR0.out, HGAP.out, if_neg (by decide)]
        go_wp2_with (refine wp_loadAll rfl 49 (.tmp 13) rfl p rfl LW.out Try.underlying49 rfl (by rw [HCL.out]; exact Try.sizeOnes) ?_)
        refine (HFEW.out HGAP.out wr).mono ?_
        rintro e W6 ⟨⟨x, rfl, ow⟩, g6⟩
        have G6 : Hid (Grew w W6) := BW.out.trans g6
        have O6 : Hid (OwnRow arE w.heap.size W6 x (fewL (prF (onAt l) s n r u)).1) := ow.base (Below.size BW.out)
        clear g6 ow
        go_wp2
        refine bodyPost_ret (results_tmp2 rfl _ _ _) rfl ?_
        rw [HR.out]
        exact ⟨⟨_, rfl, O6.out⟩, G6.out⟩

set_option maxRecDepth 100000 in
set_option maxHeartbeats 4000000 in
theorem refRoom_any (v : Value) (l : List Ar) (n : Int) (w : World) (hv : RowAt arE w v l) (hl : CanP none l) :
    Calls Try.prog 24 #[v, .int .i64 n] w fun e w' => e = .returned (.int .i64 (roomL l n)) ∧ Grew w w' := by
  have HON : Hid (Calls Try.prog 22 #[v] w fun e w' => e = .returned (.agg (cellsO (tab (onAt l))).toArray) ∧ Grew w w') := refOnes_any v l w hv hl.lies
  have HHIT : Hid (1 ≤ n → ∀ k : Nat, (k : Int) ≤ 64 - n → hitB l k n = false → (∀ j : Nat, j < k → hitB l j n = true) → roomL l n = k) := fun h1 k h2 h3 h4 => roomL_hit h1 h2 h3 h4
  have HMISS : Hid ((1 ≤ n → ∀ j : Nat, (j : Int) ≤ 64 - n → hitB l j n = true) → roomL l n = -1) := roomL_miss
  clear hv hl
  generalize roomL l n = R at HHIT HMISS ⊢
  have hz := run_zeroO
  obtain ⟨Z0, HZ0⟩ : ∃ Z0, Hid (cellsO (tab fun _ => on0) = Z0) := ⟨_, rfl⟩
  rw [HZ0.out] at hz
  have HZL : Hid (Z0.length = 384) := show _ = _ by rw [← HZ0.out, tabO_len]
  have HPL : Hid ((cellsO (tab (onAt l))).length = 384) := tabO_len _
  have HPO : Hid (∀ v ∈ cellsO (tab (onAt l)), v.oneCell' = true) := cellsO_one _
  go_enter Try.func24, Try.ntmps24
  go_wp2_with fail
  refine HON.out.mono ?_
  rintro e W1 ⟨rfl, g⟩
  have G1 : Hid (Grew w W1) := g
  clear g
  obtain ⟨p, HP⟩ : ∃ p, Hid (W1.heap.size = p) := ⟨_, rfl⟩
  have HLP : Hid (w.heap.size ≤ p) := show _ ≤ _ by rw [← HP.out]; exact Below.size G1.out
  go_upto_region 2 with (refine wp_storeAll rfl 49 (.tmp 5) (.tmp 10) rfl W1.heap.size rfl (cellsO (tab (onAt l))) rfl (Box.top W1 Z0 49 rfl) (by rw [HPL.out, HZL.out]) (by rw [HZL.out]; exact Try.sizeOnes) HPO.out ?_)
  intro W2 b2 g2 s2
  rw [HP.out] at b2 g2 ⊢
  have G2 : Hid (Grew w W2) := grew_grown (G1.out.trans (grew_alloc _ _)) g2 HLP.out
  have L2 : Hid (Box W2 p (cellsO (tab (onAt l)))) := b2
  clear b2 g2 s2 hz
  by_cases c1 : 1 ≤ n
  case neg =>
    have HF : Hid (R = -1) := HMISS.out fun h => absurd h c1
    go_wp2
    go_loopg [6] 1 (fun gg s6 wr => s6 = .int .i64 ((0 : Nat) : Int) ∧ Hid (Grew w wr))
    case atStart => exact ⟨rfl, G2.out⟩
    case round =>
      obtain ⟨rfl, BW⟩ := hrel
      go_wp2
      go_ret
      exact ⟨by rw [HF.out]; rfl, BW.out⟩
  case pos =>
  by_cases c2 : n ≤ 64
  case neg =>
    have HF : Hid (R = -1) := HMISS.out fun h j hj => by omega
    go_wp2
    go_loopg [6] 1 (fun gg s6 wr => s6 = .int .i64 ((0 : Nat) : Int) ∧ Hid (Grew w wr))
    case atStart => exact ⟨rfl, G2.out⟩
    case round =>
      obtain ⟨rfl, BW⟩ := hrel
      go_wp2
      go_ret
      exact ⟨by rw [HF.out]; rfl, BW.out⟩
  case pos =>
  obtain ⟨n, rfl⟩ : ∃ n' : Nat, (n' : Int) = n := ⟨n.toNat, by omega⟩
  go_wp2
  go_loopg [6] (65 - n) (fun gg s6 wr => ∃ kk : Nat, kk ≤ 65 - n ∧ 65 - n - kk ≤ gg ∧ s6 = .int .i64 kk ∧ Hid (Grew w wr) ∧ Hid (Box wr p (cellsO (tab (onAt l)))) ∧ Hid (∀ j : Nat, j < kk → hitB l j n = true))
  case atStart => exact ⟨0, Nat.zero_le _, by omega, rfl, G2.out, L2.out, fun j hj => absurd hj (Nat.not_lt_zero _)⟩
  case round =>
    obtain ⟨kk, hkk, hg, rfl, BW, LW, A⟩ := hrel
    by_cases hlt : (kk : Int) ≤ 64 - (n : Int)
    · go_wp2
      go_loopg [7, 8] n (fun g2 s7 s8 wr2 => ∃ (k2 : Nat) (B : Bool), kk ≤ k2 ∧ k2 ≤ kk + n ∧ kk + n - k2 ≤ g2 ∧ s8 = .int .i64 k2 ∧ s7 = .bool B ∧ Hid (Grew w wr2) ∧ Hid (Box wr2 p (cellsO (tab (onAt l)))) ∧ Hid (B = true ↔ ∀ j : Nat, kk ≤ j → j < k2 → (onAt l j).is = false))
      case atStart => exact ⟨kk, true, Nat.le_refl _, by omega, by omega, rfl, rfl, BW.out, LW.out, ⟨fun _ j h1 h2 => absurd h1 (Nat.not_le.2 h2), fun _ => rfl⟩⟩
      case round =>
        obtain ⟨k2, B, hk0, hk2, hg2, rfl, rfl, BW2, LW2, HB⟩ := hrel
        by_cases hlt2 : k2 < kk + n
        · have hltz : (k2 : Int) < (kk : Int) + (n : Int) := by omega
          have h64 : k2 < 64 := by omega
          have h64z : (k2 : Int) < 64 := by omega
          have d0 := LW2.out.c (k2 * 6) (cellsO_at (tab_at h64) 0 (.bool (onAt l k2).is) rfl)
          cases B with
          | true =>
            have HB2 : Hid ((!(onAt l k2).is) = true ↔ ∀ j : Nat, kk ≤ j → j < k2 + 1 → (onAt l j).is = false) := show _ ↔ _ by
              constructor
              · intro h j h1 h2
                by_cases e : j = k2
                · rw [e]; simpa using h
                · exact HB.out.1 rfl j h1 (by omega)
              · intro h
                rw [h k2 hk0 (by omega)]
                rfl
            go_wp2
            go_roundg (kk + n - (k2 + 1))
            case measure => omega
            case rel => exact ⟨k2 + 1, !(onAt l k2).is, by omega, by omega, by omega, by go_num, rfl, BW2.out, LW2.out, HB2.out⟩
          | false =>
            have HB2 : Hid (false = true ↔ ∀ j : Nat, kk ≤ j → j < k2 + 1 → (onAt l j).is = false) := show _ ↔ _ by
              constructor
              · intro h; cases h
              · intro h; exact HB.out.2 fun j h1 h2 => h j h1 (by omega)
            go_wp2
            go_roundg (kk + n - (k2 + 1))
            case measure => omega
            case rel => exact ⟨k2 + 1, false, by omega, by omega, by omega, by go_num, rfl, BW2.out, LW2.out, HB2.out⟩
        · have hltz : ¬ (k2 : Int) < (kk : Int) + (n : Int) := by omega
          have : k2 = kk + n := by omega
          subst this
          cases B with
          | true =>
            have HF : Hid (R = (kk : Int)) := HHIT.out c1 kk hlt (hitB_no.2 fun k hk h => HB.out.1 rfl k (by omega) (by omega)) A.out
            go_wp2
            go_ret
            exact ⟨by rw [HF.out]; rfl, BW2.out⟩
          | false =>
            have HA : Hid (∀ j : Nat, j < kk + 1 → hitB l j n = true) := show ∀ j : Nat, _ from fun j hj => by
              by_cases e : j = kk
              · subst e
                cases hq : hitB l j n with
                | true => rfl
                | false =>
                  have := HB.out.2 fun k h1 h2 => hitB_no.1 hq k (by omega) (by omega)
                  cases this
              · exact A.out j (by omega)
            go_wp2
            go_roundg (65 - n - (kk + 1))
            case measure => omega
            case rel => exact ⟨kk + 1, by omega, by omega, by go_num, BW2.out, LW2.out, HA.out⟩
    · have HF : Hid (R = -1) := HMISS.out fun _ j hj => A.out j (by omega)
      go_wp2
      go_ret
      exact ⟨by rw [HF.out]; rfl, BW.out⟩

end Go.Proofs.Ytlkgmjdhggfimad
