/- Contract of changed (package areas), whatever function says what a page is then. -/
import Derived.Test.YtlkgmjdhggfimadArJoined
namespace Go.Proofs.Ytlkgmjdhggfimad
open Go.RowKit

/-- The pages from s on, below e, are those of g; all others of f. -/
def chF (f g : Nat → On) (s e : Nat) : Nat → On := fun j => if s ≤ j ∧ j < e then g j else f j
theorem chF_zero (f g : Nat → On) (s : Nat) : chF f g s s = f := by
  funext j
  unfold chF
  rw [if_neg (by omega)]
theorem chF_at (f g : Nat → On) (s k : Nat) : partF (chF f g s k) k = partF f k := by
  unfold partF chF
  rw [if_neg (by omega)]
theorem chF_step (f g : Nat → On) {s k : Nat} (h : s ≤ k) : upd (partF (chF f g s k)) k (arOf k (g k)) = partF (chF f g s (k + 1)) := by
  funext j
  unfold upd partF chF
  by_cases e : j = k
  · subst e
    rw [if_pos rfl, if_pos (by omega)]
  · rw [if_neg e]
    congr 1
    by_cases h : s ≤ j ∧ j < k
    · rw [if_pos h, if_pos (by omega)]
    · rw [if_neg h, if_neg (by omega)]

set_option maxRecDepth 100000 in
set_option maxHeartbeats 2000000 in
theorem changed_any (v : Value) (l : List Ar) (s n : Nat) (F : Nat) (caps : Array Value) (g : Nat → On) (w : World) (hv : RowAt arE w v l) (hok : CanP none l) (hsn : s ≤ n) (hn : n ≤ 64) (hgd : Good (chF (onAt l) g s n)) (eg : Enters Try.prog F)
    (hcall : ∀ W (k : Nat), Grew w W → s ≤ k → k < n → Calls Try.prog F (#[.int .i64 (k : Int), arA (partF (onAt l) k)] ++ caps) W fun e w' => e = .returned (arA (arOf k (g k))) ∧ Grew W w') :
    Calls Try.prog 41 #[v, .int .i64 (s : Int), .int .i64 (n : Int), .func (.func F) #[] caps] w fun e w' => (∃ u, e = .returned (.tuple #[u, .int .i64 (fewL (chF (onAt l) g s n)).2]) ∧ OwnRow arE w.heap.size w' u (fewL (chF (onAt l) g s n)).1) ∧ Grew w w' := by
  have HPA := parted_any v l w hv hok
  have HJO : Hid (∀ W, Calls Try.prog 58 #[.agg (cellsA (tab (partF (chF (onAt l) g s n)))).toArray] W fun e w' => (∃ v, e = .returned v ∧ OwnRow arE (W.heap.size + 1) w' v (joinL (chF (onAt l) g s n))) ∧ Grew W w') := fun W => joined_any _ W hgd
  have HCA : Hid _ := hcall
  have EG : Hid (∀ (args : Array Value) (w : World), (callFunc F args).run Try.prog w = .ok (.enter F args) w) := eg
  have HFW : Hid (¬ 16 < (joinL (chF (onAt l) g s n)).length → fewL (chF (onAt l) g s n) = (joinL (chF (onAt l) g s n), 0)) := fun h => by unfold fewL; rw [if_neg h]
  have HFM : Hid (16 < (joinL (chF (onAt l) g s n)).length → fewL (chF (onAt l) g s n) = ([], 4)) := fun h => by unfold fewL; rw [if_pos h]
  have HJS : Hid ((joinL (chF (onAt l) g s n)).length ≤ 64) := (joinL_J hgd).len
  have HZF : Hid (partF (onAt l) = partF (chF (onAt l) g s s)) := show _ = _ by rw [chF_zero]
  clear hv hok hgd hcall eg
  obtain ⟨FW, HFE⟩ : ∃ FW, Hid (fewL (chF (onAt l) g s n) = FW) := ⟨_, rfl⟩
  simp only [HFE.out] at HFW HFM ⊢
  obtain ⟨JL, HJL⟩ : ∃ JL, Hid (joinL (chF (onAt l) g s n) = JL) := ⟨_, rfl⟩
  simp only [HJL.out] at HFW HFM HJS HJO
  clear HFE HJL
  have hz := run_zeroA
  obtain ⟨Z0, HZ0⟩ : ∃ Z0, Hid (cellsA (tab fun _ => ar0) = Z0) := ⟨_, rfl⟩
  rw [HZ0.out] at hz
  have HZL : Hid (Z0.length = 448) := show _ = _ by rw [← HZ0.out, tabA_len]
  have HPL : Hid ((cellsA (tab (partF (onAt l)))).length = 448) := tabA_len _
  have HPO : Hid (∀ v ∈ cellsA (tab (partF (onAt l))), v.oneCell' = true) := cellsA_one _
  go_enter Try.func41, Try.ntmps41
  go_wp2_with fail
  refine HPA.mono ?_
  rintro e W1 ⟨rfl, g1⟩
  have G1 : Hid (Grew w W1) := g1
  clear g1 HPA
  obtain ⟨p, HP⟩ : ∃ p, Hid (W1.heap.size = p) := ⟨_, rfl⟩
  have HLP : Hid (w.heap.size ≤ p) := show _ ≤ _ by rw [← HP.out]; exact Below.size G1.out
  go_upto_region 2 with (refine wp_storeAll rfl 80 (.tmp 10) (.tmp 14) rfl W1.heap.size rfl (cellsA (tab (partF (onAt l)))) rfl (Box.top W1 Z0 80 rfl) (by rw [HPL.out, HZL.out]) (by rw [HZL.out]; exact Try.sizePgs) HPO.out ?_)
  intro W2 b2 g2 s2
  rw [HP.out] at b2 g2 ⊢
  have G2 : Hid (Grew w W2) := grew_grown (G1.out.trans (grew_alloc _ _)) g2 HLP.out
  have L2 : Hid (Box W2 p (cellsA (tab (partF (chF (onAt l) g s s))))) := show Box _ _ _ by rw [← HZF.out]; exact b2
  clear b2 g2 s2 hz
  go_wp2
  go_loopg [11] (n - s) (fun gg s11 wr => ∃ kk : Nat, s ≤ kk ∧ kk ≤ n ∧ n - kk ≤ gg ∧ s11 = .int .i64 kk ∧ Hid (Grew w wr) ∧ Hid (Box wr p (cellsA (tab (partF (chF (onAt l) g s kk))))))
  case atStart => exact ⟨s, Nat.le_refl _, hsn, by omega, rfl, G2.out, L2.out⟩
  case round =>
    obtain ⟨kk, hk0, hkk, hg, rfl, BW, LW⟩ := hrel
    by_cases hlt : kk < n
    · have hltz : (kk : Int) < (n : Int) := by omega
      have h64 : kk < 64 := by omega
      have h64z : (kk : Int) < 64 := by omega
      have HV : Hid (arA (partF (chF (onAt l) g s kk) kk) = arA (partF (onAt l) kk)) := show _ = _ by rw [chF_at]
      have HST : Hid (upd (partF (chF (onAt l) g s kk)) kk (arOf kk (g kk)) = partF (chF (onAt l) g s (kk + 1))) := chF_step _ _ hk0
      go_wp2_with (refine wp_loadArv rfl (.tmp 25) rfl p kk h64 rfl LW.out HV.out ?_)
      rw [EG.out]
      refine (HCA.out wr kk BW.out hk0 hlt).mono ?_
      rintro e W3 ⟨rfl, g3⟩
      have G3 : Hid (Grew w W3) := BW.out.trans g3
      have L3 : Hid (Box W3 p (cellsA (tab (partF (chF (onAt l) g s kk))))) := LW.out.grew g3
      clear g3
      go_wp2_with (refine wp_storeAr rfl (.tmp 28) (.tmp 27) rfl p kk h64 rfl (arOf kk (g kk)) rfl L3.out ?_)
      intro W4 b4 g4 s4
      have L4 : Hid (Box W4 p (cellsA (tab (partF (chF (onAt l) g s (kk + 1)))))) := show Box _ _ _ by rw [← HST.out]; exact b4
      have G4 : Hid (Grew w W4) := grew_grown G3.out g4 HLP.out
      clear b4 g4 s4
      go_wp2
      go_roundg (n - (kk + 1))
      case measure => omega
      case rel => exact ⟨kk + 1, by omega, by omega, by omega, by go_num, G4.out, L4.out⟩
    · have hltz : ¬ (kk : Int) < (n : Int) := by omega
      have : kk = n := by omega
      subst this
      have HCL : Hid ((cellsA (tab (partF (chF (onAt l) g s kk)))).length = 448) := tabA_len _
      go_wp2_with (refine wp_loadAll rfl 80 (.tmp 10) rfl p rfl LW.out Try.underlying80 rfl (by rw [HCL.out]; exact Try.sizePgs) ?_)
      refine (HJO.out wr).mono ?_
      rintro e W5 ⟨⟨u, rfl, ow5⟩, g5⟩
      obtain ⟨xa, xc, rfl⟩ := ow5.form
      have G5 : Hid (Grew w W5) := BW.out.trans g5
      have O5 : Hid (OwnRow arE w.heap.size W5 (.slice xa JL.length xc) JL) := ow5.base (Nat.le_trans (Below.size BW.out) (Nat.le_succ _))
      clear g5 ow5
      obtain ⟨m, HM⟩ : ∃ m, Hid (JL.length = m) := ⟨_, rfl⟩
      rw [HM.out] at HFW HFM HJS O5 ⊢
      have hm64 : m ≤ 64 := HJS.out
      by_cases hmany : 16 < m
      · have hmz : (16 : Int) < (m : Int) := by omega
        have HR : Hid (FW = ([], 4)) := HFM.out hmany
        go_wp2
        refine bodyPost_ret (v := .tuple #[.slice none 0 0, .int .i64 4]) (by simp [results, Try.results41]) rfl ?_
        rw [HR.out]
        exact ⟨⟨_, rfl, OwnRow.nil _ _ _⟩, G5.out⟩
      · have hmz : ¬ (16 : Int) < (m : Int) := by omega
        have HR : Hid (FW = (JL, 0)) := HFW.out hmany
        go_wp2
        refine bodyPost_ret (v := .tuple #[.slice xa m xc, .int .i64 0]) (by simp [results, Try.results41]) rfl ?_
        rw [HR.out]
        exact ⟨⟨_, rfl, O5.out⟩, G5.out⟩

end Go.Proofs.Ytlkgmjdhggfimad
