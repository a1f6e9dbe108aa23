/- Contracts of Map, Unmap and Protect (package areas). -/
import Derived.Test.YtlkgmjdhggfimadArClos
import Derived.Test.YtlkgmjdhggfimadArRoom
namespace Go.Proofs.Ytlkgmjdhggfimad
open Go.RowKit

theorem ch_map (l : List Ar) {a : Ar} (ha : ArOk a) : chF (onAt l) (oneOf a) a.fr.toNat a.to.toNat = mapF l a := by
  unfold ArOk at ha
  funext j
  unfold chF mapF
  by_cases h : inB a j = true
  · have := inB_iff.1 h
    rw [if_pos h, if_pos (by omega)]
  · have h1 : ¬ (a.fr ≤ (j : Int) ∧ (j : Int) < a.to) := fun h2 => h (inB_iff.2 h2)
    rw [if_neg h, if_neg (by omega)]
theorem ch_un (f : Nat → On) (s n : Nat) : chF f (fun _ => on0) s (s + n) = unF f s n := by
  funext j
  unfold chF unF
  by_cases h : within s n j = true
  · have := within_iff.1 h
    rw [if_pos h, if_pos (by omega)]
  · have h1 : ¬ ((s : Int) ≤ (j : Int) ∧ (j : Int) < (s : Int) + (n : Int)) := fun h2 => h (within_iff.2 h2)
    rw [if_neg h, if_neg (by omega)]
theorem ch_pr (f : Nat → On) (s n : Nat) (r u : Bool) : chF f (fun k => { f k with rd := r, wr := u }) s (s + n) = prF f s n r u := by
  funext j
  unfold chF prF
  by_cases h : within s n j = true
  · have := within_iff.1 h
    rw [if_pos h, if_pos (by omega)]
  · have h1 : ¬ ((s : Int) ≤ (j : Int) ∧ (j : Int) < (s : Int) + (n : Int)) := fun h2 => h (within_iff.2 h2)
    rw [if_neg h, if_neg (by omega)]

/-- What Map, Unmap and Protect answer. -/
def Gives (R : List Ar × Int) (w : World) (e : Ending) (w' : World) : Prop := (∃ u, e = .returned (.tuple #[u, .int .i64 R.2]) ∧ OwnRow arE w.heap.size w' u R.1) ∧ Grew w w'
theorem OwnRow.form' {base : Nat} {w : World} {v : Value} {l : List Ar} (h : OwnRow arE base w v l) : ∃ a c, v = .slice a l.length c := h.form

theorem mapCh {l : List Ar} {a : Ar} {v : Value} {w W : World} {pa : Nat} (hv : RowAt arE w v l) (hl : CanP none l) (ha : ArOk a) (hW : Grew w W) (hb : Box W pa [.int .i64 a.fr, .int .i64 a.to, .bool a.rd, .bool a.wr, .bool a.sh, .int .i64 a.file, .int .i64 a.base]) :
    Calls Try.prog 41 #[v, .int .i64 a.fr, .int .i64 a.to, .func (.func 42) #[] #[.pointer (some ⟨pa, 0, none⟩)]] W fun e w' => (∃ u, e = .returned (.tuple #[u, .int .i64 (fewL (mapF l a)).2]) ∧ OwnRow arE W.heap.size w' u (fewL (mapF l a)).1) ∧ Grew W w' := by
  have ha' := ha
  unfold ArOk at ha'
  have h := changed_any v l a.fr.toNat a.to.toNat 42 #[.pointer (some ⟨pa, 0, none⟩)] (oneOf a) W (hv.grew hW) hl (by omega) (by omega) (by rw [ch_map l ha]; exact mapF_good hl ha) (enters_of Try.func42 (by kernel_rfl) rfl) (fun W' k h1 h2 h3 => mapC_any a (partF (onAt l) k) k pa W' (hb.grew h1) ha (by omega))
  rw [ch_map l ha, show ((a.fr.toNat : Nat) : Int) = a.fr by omega, show ((a.to.toNat : Nat) : Int) = a.to by omega] at h
  exact h
theorem unCh {l : List Ar} {v : Value} {w W : World} (hv : RowAt arE w v l) (hl : CanP none l) {s n : Int} (hs : spanB s n = true) (hW : Grew w W) :
    Calls Try.prog 41 #[v, .int .i64 s, .int .i64 (s + n), .func (.func 46) #[] #[]] W fun e w' => (∃ u, e = .returned (.tuple #[u, .int .i64 (fewL (unF (onAt l) s n)).2]) ∧ OwnRow arE W.heap.size w' u (fewL (unF (onAt l) s n)).1) ∧ Grew W w' := by
  have hs' := spanB_iff.1 hs
  obtain ⟨s, rfl⟩ : ∃ s' : Nat, (s' : Int) = s := ⟨s.toNat, by omega⟩
  obtain ⟨n, rfl⟩ : ∃ n' : Nat, (n' : Int) = n := ⟨n.toNat, by omega⟩
  have h := changed_any v l s (s + n) 46 #[] (fun _ => on0) W (hv.grew hW) hl (by omega) (by omega) (by rw [ch_un]; exact unF_good hl.good _ _) (enters_of Try.func46 (by kernel_rfl) rfl) (fun W' k h1 h2 h3 => unC_any (partF (onAt l) k) k W')
  rw [ch_un, show ((s + n : Nat) : Int) = (s : Int) + (n : Int) by omega] at h
  exact h
theorem prCh {l : List Ar} {v : Value} {w W : World} (hv : RowAt arE w v l) (hl : CanP none l) {s n : Int} {r u : Bool} {pr pu : Nat} (hs : spanB s n = true) (hgap : gapB l s n = false) (hW : Grew w W) (hr : Box W pr [.bool r]) (hu : Box W pu [.bool u]) :
    Calls Try.prog 41 #[v, .int .i64 s, .int .i64 (s + n), .func (.func 48) #[] #[.pointer (some ⟨pr, 0, none⟩), .pointer (some ⟨pu, 0, none⟩)]] W fun e w' => (∃ x, e = .returned (.tuple #[x, .int .i64 (fewL (prF (onAt l) s n r u)).2]) ∧ OwnRow arE W.heap.size w' x (fewL (prF (onAt l) s n r u)).1) ∧ Grew W w' := by
  have hs' := spanB_iff.1 hs
  obtain ⟨s, rfl⟩ : ∃ s' : Nat, (s' : Int) = s := ⟨s.toNat, by omega⟩
  obtain ⟨n, rfl⟩ : ∃ n' : Nat, (n' : Int) = n := ⟨n.toNat, by omega⟩
  have hg := pr_good (r := r) (w := u) hl hgap
  have h := changed_any v l s (s + n) 48 #[.pointer (some ⟨pr, 0, none⟩), .pointer (some ⟨pu, 0, none⟩)] (fun k => { onAt l k with rd := r, wr := u }) W (hv.grew hW) hl (by omega) (by omega) (by rw [ch_pr]; exact hg) (enters_of Try.func48 (by kernel_rfl) rfl) (fun W' k h1 h2 h3 => by
    have his : (onAt l k).is = true := gapB_no.1 hgap k (by omega) (by omega)
    have hc := prC_any (partF (onAt l) k) k r u pr pu W' (hr.grew h1) (hu.grew h1)
    have he : ({ partF (onAt l) k with rd := r, wr := u } : Ar) = arOf k { onAt l k with rd := r, wr := u } := by
      rw [partF_is his]
      unfold arOf
      rw [if_pos his]
    rw [he] at hc
    exact hc)
  rw [ch_pr, show ((s + n : Nat) : Int) = (s : Int) + (n : Int) by omega] at h
  exact h

set_option maxRecDepth 100000 in
set_option maxHeartbeats 2000000 in
theorem map_any (v : Value) (l : List Ar) (a : Ar) (w : World) (hv : RowAt arE w v l) :
    Calls Try.prog 14 #[v, .agg #[.int .i64 a.fr, .int .i64 a.to, .bool a.rd, .bool a.wr, .bool a.sh, .int .i64 a.file, .int .i64 a.base]] w (Gives (mapA l a) w) := by
  have HV : Hid (RowAt arE w v l) := hv
  have hfe := field_err
  have hmf : ∀ (fn : Fn) (first cap : Array Value) (w : World), (Instr.makeFunc fn first cap).run Try.prog w = .ok (.func fn first cap) w := fun _ _ _ _ => rfl
  have HW : Hid (∀ W, Grew w W → Calls Try.prog 12 #[v] W fun e w' => e = .returned (.agg #[.int .i64 (wrL l).1, .int .i64 (wrL l).2]) ∧ Grew W w') := fun W hW => wrongAr_any v l W (HV.out.grew hW)
  have HWA : Hid (∀ W, Calls Try.prog 36 #[.agg #[.int .i64 a.fr, .int .i64 a.to, .bool a.rd, .bool a.wr, .bool a.sh, .int .i64 a.file, .int .i64 a.base]] W fun e w' => e = .returned (.int .i64 (arW a)) ∧ Grew W w') := fun W => wrongArea_any a W
  clear hv
  obtain ⟨W0, hW0⟩ : ∃ W0, w.alloc (.cells #[.int .i64 a.fr, .int .i64 a.to, .bool a.rd, .bool a.wr, .bool a.sh, .int .i64 a.file, .int .i64 a.base] 37) = W0 := ⟨_, rfl⟩
  have HG0 : Hid (Grew w W0) := show Grew w W0 by rw [← hW0]; exact grew_alloc _ _
  have X0 : Hid (Box W0 w.heap.size [.int .i64 a.fr, .int .i64 a.to, .bool a.rd, .bool a.wr, .bool a.sh, .int .i64 a.file, .int .i64 a.base]) := show Box _ _ _ by rw [← hW0]; exact Box.top w _ _ rfl
  have HW0 : Hid (_ = W0) := hW0
  clear hW0
  by_cases hz : (wrL l).1 = 0
  · rw [hz] at HW
    generalize (wrL l).2 = I at HW
    by_cases hza : arW a = 0
    · rw [hza] at HWA
      have HL : Hid (l.length ≤ 16 ∧ CanP none l) := wrL_zero.1 hz
      have HA : Hid (ArOk a) := arW_zero.1 hza
      obtain ⟨s, n, hs, he, hsn, hn1⟩ : ∃ s n : Nat, (s : Int) = a.fr ∧ (s : Int) + (n : Int) = a.to ∧ s + n ≤ 64 ∧ 1 ≤ n := ⟨a.fr.toNat, a.to.toNat - a.fr.toNat, by have := HA.out; unfold ArOk at this; omega⟩
      have HT : Hid (∀ W, Grew w W → Calls Try.prog 40 #[v, .int .i64 a.fr, .int .i64 a.to] W fun e w' => e = .returned (.int .i64 (countA l s n : Int)) ∧ Grew W w') := fun W hW => by
        have := taken_any v l s n W (HV.out.grew hW) hsn
        rw [he, hs] at this
        exact this
      have hch := count_hit (l := l) hsn
      rw [hs, show (n : Int) = a.to - a.fr by omega] at hch
      have hc64 := countA_le l s n
      have HC : Hid (∀ W, Grew w W → Box W w.heap.size [.int .i64 a.fr, .int .i64 a.to, .bool a.rd, .bool a.wr, .bool a.sh, .int .i64 a.file, .int .i64 a.base] → Calls Try.prog 41 #[v, .int .i64 a.fr, .int .i64 a.to, .func (.func 42) #[] #[.pointer (some ⟨w.heap.size, 0, none⟩)]] W fun e w' => (∃ u, e = .returned (.tuple #[u, .int .i64 (fewL (mapF l a)).2]) ∧ OwnRow arE W.heap.size w' u (fewL (mapF l a)).1) ∧ Grew W w') := fun W hW hb => mapCh HV.out HL.out.2 HA.out hW hb
      have HR : Hid (mapA l a = if hitB l a.fr (a.to - a.fr) = true then ([], 6) else fewL (mapF l a)) := show _ = _ by unfold mapA; rw [if_neg (fun h => h hz), if_neg (fun h => h hza)]
      clear hz hza hs he hsn hn1
      go_enter Try.func14, Try.ntmps14
      go_upto_region 1 with fail
      rw [HW0.out]
      go_wp2_with fail
      refine (HW.out W0 HG0.out).mono ?_
      rintro e W1 ⟨rfl, g1⟩
      have G1 : Hid (Grew w W1) := HG0.out.trans g1
      have X1 : Hid (Box W1 w.heap.size [.int .i64 a.fr, .int .i64 a.to, .bool a.rd, .bool a.wr, .bool a.sh, .int .i64 a.file, .int .i64 a.base]) := X0.out.grew g1
      clear g1
      go_wp2_with (refine wp_loadAll rfl 37 (.tmp 3) rfl w.heap.size rfl X1.out Try.underlying37 rfl Try.sizeArea ?_)
      refine (HWA.out W1).mono ?_
      rintro e W2 ⟨rfl, g2⟩
      have G2 : Hid (Grew w W2) := G1.out.trans g2
      have X2 : Hid (Box W2 w.heap.size [.int .i64 a.fr, .int .i64 a.to, .bool a.rd, .bool a.wr, .bool a.sh, .int .i64 a.file, .int .i64 a.base]) := X1.out.grew g2
      clear g2
      have x0 := X2.out.c 0 rfl
      have x1 := X2.out.c 1 rfl
      go_wp2_with fail
      refine (HT.out W2 G2.out).mono ?_
      rintro e W3 ⟨rfl, g3⟩
      have G3 : Hid (Grew w W3) := G2.out.trans g3
      have X3 : Hid (Box W3 w.heap.size [.int .i64 a.fr, .int .i64 a.to, .bool a.rd, .bool a.wr, .bool a.sh, .int .i64 a.file, .int .i64 a.base]) := X2.out.grew g3
      clear g3 x0 x1
      cases hh : hitB l a.fr (a.to - a.fr) with
      | true =>
        have hcp : (0 : Int) < (countA l s n : Int) := by
          have : countA l s n ≠ 0 := fun h => by rw [hch.1 h] at hh; cases hh
          omega
        have HE : Hid (mapA l a = ([], 6)) := show _ = _ by rw [HR.out, hh, if_pos rfl]
        clear hh hch hc64
        generalize countA l s n = C at hcp
        go_wp2
        refine bodyPost_ret (results_tmp2 rfl _ _ _) rfl ?_
        rw [HE.out]
        exact ⟨⟨_, rfl, OwnRow.nil _ _ _⟩, G3.out⟩
      | false =>
        have hc0 : countA l s n = 0 := hch.2 hh
        have hcp : ¬ (0 : Int) < (countA l s n : Int) := by omega
        have HE : Hid (mapA l a = fewL (mapF l a)) := show _ = _ by rw [HR.out, hh, if_neg (by decide)]
        clear hh hch hc64 hc0
        generalize countA l s n = C at hcp
        have x0 := X3.out.c 0 rfl
        have x1 := X3.out.c 1 rfl
        go_wp2_with fail
        refine (HC.out W3 G3.out X3.out).mono ?_
        rintro e W4 ⟨⟨u, rfl, ow⟩, g4⟩
        have G4 : Hid (Grew w W4) := G3.out.trans g4
        have O4 : Hid (OwnRow arE w.heap.size W4 u (fewL (mapF l a)).1) := ow.base (Below.size G3.out)
        clear g4 ow x0 x1
        go_wp2
        refine bodyPost_ret (results_tmp2 rfl _ _ _) rfl ?_
        rw [HE.out]
        exact ⟨⟨_, rfl, O4.out⟩, G4.out⟩
    · have hzb : (arW a != 0) = true := by simp [hza]
      have HR : Hid (mapA l a = ([], arW a)) := show _ = _ by unfold mapA; rw [if_neg (fun h => h hz), if_pos hza]
      clear hz hza
      generalize arW a = E at *
      go_enter Try.func14, Try.ntmps14
      go_upto_region 1 with fail
      rw [HW0.out]
      go_wp2_with fail
      refine (HW.out W0 HG0.out).mono ?_
      rintro e W1 ⟨rfl, g1⟩
      have G1 : Hid (Grew w W1) := HG0.out.trans g1
      have X1 : Hid (Box W1 w.heap.size [.int .i64 a.fr, .int .i64 a.to, .bool a.rd, .bool a.wr, .bool a.sh, .int .i64 a.file, .int .i64 a.base]) := X0.out.grew g1
      clear g1
      go_wp2_with (refine wp_loadAll rfl 37 (.tmp 3) rfl w.heap.size rfl X1.out Try.underlying37 rfl Try.sizeArea ?_)
      refine (HWA.out W1).mono ?_
      rintro e W2 ⟨rfl, g2⟩
      have G2 : Hid (Grew w W2) := G1.out.trans g2
      clear g2
      go_wp2
      refine bodyPost_ret (results_tmp2 rfl _ _ _) rfl ?_
      rw [HR.out]
      exact ⟨⟨_, rfl, OwnRow.nil _ _ _⟩, G2.out⟩
  · have hzb : ((wrL l).1 != 0) = true := by simp [hz]
    have HR : Hid (mapA l a = ([], (wrL l).1)) := show _ = _ by unfold mapA; rw [if_pos hz]
    clear hz
    generalize (wrL l).2 = I at HW
    generalize (wrL l).1 = E at *
    go_enter Try.func14, Try.ntmps14
    go_upto_region 1 with fail
    rw [HW0.out]
    go_wp2_with fail
    refine (HW.out W0 HG0.out).mono ?_
    rintro e W1 ⟨rfl, g1⟩
    have G1 : Hid (Grew w W1) := HG0.out.trans g1
    clear g1
    go_wp2
    refine bodyPost_ret (results_tmp2 rfl _ _ _) rfl ?_
    rw [HR.out]
    exact ⟨⟨_, rfl, OwnRow.nil _ _ _⟩, G1.out⟩

set_option maxRecDepth 100000 in
set_option maxHeartbeats 2000000 in
theorem unmap_any (v : Value) (l : List Ar) (s n : Int) (w : World) (hv : RowAt arE w v l) (hs : s ≤ 9223372036854775807) :
    Calls Try.prog 17 #[v, .int .i64 s, .int .i64 n] w (Gives (unA l s n) w) := by
  have HV : Hid (RowAt arE w v l) := hv
  have HP : Hid (Calls Try.prog 45 #[v, .int .i64 s, .int .i64 n] w fun e w' => e = .returned (.int .i64 (wpE l s n)) ∧ Grew w w') := wrongPages_any v l s n w hv hs
  clear hv
  by_cases hz : wpE l s n = 0
  · obtain ⟨hz1, hsp⟩ : (wrL l).1 = 0 ∧ spanB s n = true := by
      unfold wpE at hz
      split at hz
      · exact absurd hz (by assumption)
      · rename_i h1
        split at hz
        · rename_i h2
          exact ⟨by simpa using h1, h2⟩
        · cases hz
    have HL : Hid (l.length ≤ 16 ∧ CanP none l) := wrL_zero.1 hz1
    have HR : Hid (unA l s n = fewL (unF (onAt l) s n)) := unA_of hz1 hsp
    have HC : Hid (∀ W, Grew w W → Calls Try.prog 41 #[v, .int .i64 s, .int .i64 (s + n), .func (.func 46) #[] #[]] W fun e w' => (∃ u, e = .returned (.tuple #[u, .int .i64 (fewL (unF (onAt l) s n)).2]) ∧ OwnRow arE W.heap.size w' u (fewL (unF (onAt l) s n)).1) ∧ Grew W w') := fun W hW => unCh HV.out HL.out.2 hsp hW
    have hs' := spanB_iff.1 hsp
    obtain ⟨h1, h2, h3⟩ := hs'
    rw [hz] at HP
    clear hz hz1 hsp
    go_enter Try.func17, Try.ntmps17
    go_wp2_with fail
    refine HP.out.mono ?_
    rintro e W1 ⟨rfl, g1⟩
    have G1 : Hid (Grew w W1) := g1
    clear g1
    go_wp2_with fail
    refine (HC.out W1 G1.out).mono ?_
    rintro e W4 ⟨⟨u, rfl, ow⟩, g4⟩
    have G4 : Hid (Grew w W4) := G1.out.trans g4
    have O4 : Hid (OwnRow arE w.heap.size W4 u (fewL (unF (onAt l) s n)).1) := ow.base (Below.size G1.out)
    clear g4 ow
    go_wp2
    refine bodyPost_ret (results_tmp2 rfl _ _ _) rfl ?_
    rw [HR.out]
    exact ⟨⟨_, rfl, O4.out⟩, G4.out⟩
  · have hzb : (wpE l s n != 0) = true := by simp [hz]
    have HR : Hid (unA l s n = ([], wpE l s n)) := show _ = _ by
      unfold wpE at hz ⊢
      unfold unA
      split
      · rfl
      · rename_i h1
        rw [if_neg h1] at hz
        cases h2 : spanB s n with
        | true => rw [h2] at hz; simp at hz
        | false => simp
    clear hz
    generalize wpE l s n = E at *
    go_enter Try.func17, Try.ntmps17
    go_wp2_with fail
    refine HP.out.mono ?_
    rintro e W1 ⟨rfl, g1⟩
    have G1 : Hid (Grew w W1) := g1
    clear g1
    go_wp2
    refine bodyPost_ret (results_tmp2 rfl _ _ _) rfl ?_
    rw [HR.out]
    exact ⟨⟨_, rfl, OwnRow.nil _ _ _⟩, G1.out⟩

set_option maxRecDepth 100000 in
set_option maxHeartbeats 2000000 in
theorem protect_any (v : Value) (l : List Ar) (s n : Int) (r u : Bool) (w : World) (hv : RowAt arE w v l) (hs : s ≤ 9223372036854775807) :
    Calls Try.prog 19 #[v, .int .i64 s, .int .i64 n, .bool r, .bool u] w (Gives (prA l s n r u) w) := by
  have HV : Hid (RowAt arE w v l) := hv
  have hmf : ∀ (fn : Fn) (first cap : Array Value) (w : World), (Instr.makeFunc fn first cap).run Try.prog w = .ok (.func fn first cap) w := fun _ _ _ _ => rfl
  have HP : Hid (∀ W, Grew w W → Calls Try.prog 45 #[v, .int .i64 s, .int .i64 n] W fun e w' => e = .returned (.int .i64 (wpE l s n)) ∧ Grew W w') := fun W hW => wrongPages_any v l s n W (HV.out.grew hW) hs
  clear hv
  obtain ⟨W0, hW0⟩ : ∃ W0, (w.alloc (.cells #[.bool r] 4)).alloc (.cells #[.bool u] 4) = W0 := ⟨_, rfl⟩
  have HG0 : Hid (Grew w W0) := show Grew w W0 by rw [← hW0]; exact (grew_alloc _ _).trans (grew_alloc _ _)
  have X0 : Hid (Box W0 w.heap.size [.bool r]) := show Box _ _ _ by rw [← hW0]; exact (Box.top w _ _ rfl).alloc _
  have Y0 : Hid (Box W0 (w.heap.size + 1) [.bool u]) := show Box _ _ _ by rw [← hW0]; exact Box.top _ _ _ (by simp)
  have HW0 : Hid (_ = W0) := hW0
  clear hW0
  by_cases hz : wpE l s n = 0
  · obtain ⟨hz1, hsp⟩ : (wrL l).1 = 0 ∧ spanB s n = true := by
      unfold wpE at hz
      split at hz
      · exact absurd hz (by assumption)
      · rename_i h1
        split at hz
        · rename_i h2
          exact ⟨by simpa using h1, h2⟩
        · cases hz
    have HL : Hid (l.length ≤ 16 ∧ CanP none l) := wrL_zero.1 hz1
    have HR : Hid (prA l s n r u = if gapB l s n = true then ([], 5) else fewL (prF (onAt l) s n r u)) := show _ = _ by unfold prA; rw [if_neg (fun h => h hz1), hsp, if_neg (by decide)]
    have HC : Hid (gapB l s n = false → ∀ W, Grew w W → Box W w.heap.size [.bool r] → Box W (w.heap.size + 1) [.bool u] → Calls Try.prog 41 #[v, .int .i64 s, .int .i64 (s + n), .func (.func 48) #[] #[.pointer (some ⟨w.heap.size, 0, none⟩), .pointer (some ⟨w.heap.size + 1, 0, none⟩)]] W fun e w' => (∃ x, e = .returned (.tuple #[x, .int .i64 (fewL (prF (onAt l) s n r u)).2]) ∧ OwnRow arE W.heap.size w' x (fewL (prF (onAt l) s n r u)).1) ∧ Grew W w') := fun hg W hW h1 h2 => prCh HV.out HL.out.2 hsp hg hW h1 h2
    have hs' := spanB_iff.1 hsp
    obtain ⟨h1, h2, h3⟩ := hs'
    obtain ⟨s', hs1⟩ : ∃ s' : Nat, (s' : Int) = s := ⟨s.toNat, by omega⟩
    obtain ⟨n', hn1⟩ : ∃ n' : Nat, (n' : Int) = n := ⟨n.toNat, by omega⟩
    have HT : Hid (∀ W, Grew w W → Calls Try.prog 40 #[v, .int .i64 s, .int .i64 (s + n)] W fun e w' => e = .returned (.int .i64 (countA l s' n' : Int)) ∧ Grew W w') := fun W hW => by
      have := taken_any v l s' n' W (HV.out.grew hW) (by omega)
      rw [hs1, hn1] at this
      exact this
    have hcg := count_gap (l := l) (s := s') (n := n') (by omega)
    rw [hs1, hn1] at hcg
    have hcl := countA_le l s' n'
    rw [hz] at HP
    clear hz hz1 hsp
    go_enter Try.func19, Try.ntmps19
    go_upto_region 1 with fail
    rw [HW0.out]
    go_wp2_with fail
    refine (HP.out W0 HG0.out).mono ?_
    rintro e W1 ⟨rfl, g1⟩
    have G1 : Hid (Grew w W1) := HG0.out.trans g1
    have X1 : Hid (Box W1 w.heap.size [.bool r]) := X0.out.grew g1
    have Y1 : Hid (Box W1 (w.heap.size + 1) [.bool u]) := Y0.out.grew g1
    clear g1
    go_wp2_with fail
    refine (HT.out W1 G1.out).mono ?_
    rintro e W2 ⟨rfl, g2⟩
    have G2 : Hid (Grew w W2) := G1.out.trans g2
    have X2 : Hid (Box W2 w.heap.size [.bool r]) := X1.out.grew g2
    have Y2 : Hid (Box W2 (w.heap.size + 1) [.bool u]) := Y1.out.grew g2
    clear g2
    cases hh : gapB l s n with
    | true =>
      have hcp : (countA l s' n' : Int) < n := by
        have : countA l s' n' ≠ n' := fun h => by rw [hcg.1 h] at hh; cases hh
        omega
      have HE : Hid (prA l s n r u = ([], 5)) := show _ = _ by rw [HR.out, hh, if_pos rfl]
      clear hh hcg hcl hs1 hn1
      generalize countA l s' n' = C at hcp
      go_wp2
      refine bodyPost_ret (results_tmp2 rfl _ _ _) rfl ?_
      rw [HE.out]
      exact ⟨⟨_, rfl, OwnRow.nil _ _ _⟩, G2.out⟩
    | false =>
      have hcp : ¬ (countA l s' n' : Int) < n := by
        have : countA l s' n' = n' := hcg.2 hh
        omega
      have HE : Hid (prA l s n r u = fewL (prF (onAt l) s n r u)) := show _ = _ by rw [HR.out, hh, if_neg (by decide)]
      have HC' := HC.out hh
      have HC2 : Hid _ := HC'
      clear hh hcg hcl hs1 hn1 HC HC'
      generalize countA l s' n' = C at hcp
      go_wp2_with fail
      refine (HC2.out W2 G2.out X2.out Y2.out).mono ?_
      rintro e W4 ⟨⟨x, rfl, ow⟩, g4⟩
      have G4 : Hid (Grew w W4) := G2.out.trans g4
      have O4 : Hid (OwnRow arE w.heap.size W4 x (fewL (prF (onAt l) s n r u)).1) := ow.base (Below.size G2.out)
      clear g4 ow
      go_wp2
      refine bodyPost_ret (results_tmp2 rfl _ _ _) rfl ?_
      rw [HE.out]
      exact ⟨⟨_, rfl, O4.out⟩, G4.out⟩
  · have hzb : (wpE l s n != 0) = true := by simp [hz]
    have HR : Hid (prA l s n r u = ([], wpE l s n)) := show _ = _ by
      unfold wpE at hz ⊢
      unfold prA
      split
      · rfl
      · rename_i h1
        rw [if_neg h1] at hz
        cases h2 : spanB s n with
        | true => rw [h2] at hz; simp at hz
        | false => simp
    clear hz
    generalize wpE l s n = E at *
    go_enter Try.func19, Try.ntmps19
    go_upto_region 1 with fail
    rw [HW0.out]
    go_wp2_with fail
    refine (HP.out W0 HG0.out).mono ?_
    rintro e W1 ⟨rfl, g1⟩
    have G1 : Hid (Grew w W1) := HG0.out.trans g1
    clear g1
    go_wp2
    refine bodyPost_ret (results_tmp2 rfl _ _ _) rfl ?_
    rw [HR.out]
    exact ⟨⟨_, rfl, OwnRow.nil _ _ _⟩, G1.out⟩

end Go.Proofs.Ytlkgmjdhggfimad
