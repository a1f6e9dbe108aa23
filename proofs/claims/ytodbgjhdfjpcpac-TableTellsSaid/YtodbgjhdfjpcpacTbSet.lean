/- Contract of Set (package table). -/
import Derived.Test.YtodbgjhdfjpcpacTbWith
import Derived.Test.YtodbgjhdfjpcpacTbOwn
import Derived.Test.YtodbgjhdfjpcpacTbWrong
import Derived.Test.YtodbgjhdfjpcpacLaxI
namespace Go.Proofs.Ytodbgjhdfjpcpac
open Go.RowKit

theorem look1 {α : Type} {A : α} {p k : Nat} {s : α} (h : List.lookup k [(p, A)] = some s) : k = p ∧ s = A := by
  by_cases h1 : k = p
  · subst h1
    simp at h
    exact ⟨rfl, h.symm⟩
  · have e1 : (k == p) = false := by simpa using h1
    simp [List.lookup, e1] at h

theorem OwnRow.out {α : Type} {E : Elt α} {base B0 B1 : Nat} {w w' : World} {v : Value} {l : List α} (h : OwnRow E base w v l) (k : Out B0 B1 w w') (hb : ∀ g, v.ownBlock = some g → g < B0 ∨ B1 ≤ g) : OwnRow E base w' v l := by
  refine ⟨⟨h.1.1, ?_⟩, h.2⟩
  rcases h.1.2 with h1 | ⟨g, cap, cur, rfl, h2, h3, h4⟩
  · exact .inl h1
  · exact .inr ⟨g, cap, cur, rfl, h2, by rw [k.block g (Array.getElem?_eq_some_iff.1 h3).1 (hb g rfl)]; exact h3, h4⟩

theorem nil8_one : ∀ v ∈ nil8, v.oneCell' = true := fun v hv => by
  rw [nil8, List.mem_replicate] at hv
  rw [hv.2]
  rfl

theorem set_cases (t : List (List En)) (n : Int) (x : En) :
    (tbW t ≠ 0 ∧ setE t n x = tbW t ∧ setR t n x = none8) ∨
    (tbW t = 0 ∧ ¬ (0 ≤ n ∧ n < 64) ∧ setE t n x = 3 ∧ setR t n x = none8) ∨
    (tbW t = 0 ∧ (0 ≤ n ∧ n < 64) ∧ enW x ≠ 0 ∧ setE t n x = enW x ∧ setR t n x = none8) ∨
    (tbW t = 0 ∧ (0 ≤ n ∧ n < 64) ∧ enW x = 0 ∧ setE t n x = 0 ∧ setR t n x = setT t n.toNat x) := by
  by_cases h1 : tbW t = 0
  · by_cases h2 : 0 ≤ n ∧ n < 64
    · have e : setE t n x = enW x := by unfold setE; rw [if_pos h1, if_pos h2]
      by_cases h3 : enW x = 0
      · exact .inr (.inr (.inr ⟨h1, h2, h3, e.trans h3, by unfold setR; rw [if_pos (e.trans h3)]⟩))
      · exact .inr (.inr (.inl ⟨h1, h2, h3, e, by unfold setR; rw [if_neg (by rw [e]; exact h3)]⟩))
    · have e : setE t n x = 3 := by unfold setE; rw [if_pos h1, if_neg h2]
      exact .inr (.inl ⟨h1, h2, e, by unfold setR; rw [if_neg (by rw [e]; decide)]⟩)
  · have e : setE t n x = tbW t := by unfold setE; rw [if_neg h1]
    exact .inl ⟨h1, e, by unfold setR; rw [if_neg (by rw [e]; exact h1)]⟩

set_option maxRecDepth 100000 in
set_option maxHeartbeats 2000000 in
theorem setTb_any (vs : List Value) (t : List (List En)) (n : Int) (x : En) (w : World) (hv : TabAt w vs t) :
    Calls Try.prog 34 #[.agg vs.toArray, .int .i64 n, .agg #[.int .i64 x.kind, .int .i64 x.n, .bool x.wr]] w fun e w' => ∃ us, e = .returned (.tuple #[.agg us.toArray, .int .i64 (setE t n x)]) ∧ TabS 0 w.heap.size w' us (setR t n x) ∧ Grew w w' := by
  have HL : Hid (vs.length = 8) := hv.len
  have HT8 : Hid (t.length = 8) := hv.tlen
  have h1 : ∀ W, Grew w W → Calls Try.prog 30 #[.agg vs.toArray] W fun e w' => e = .returned (.int .i64 (tbW t)) ∧ Grew W w' := fun W hW => wrongTb_any vs t W (hv.grew hW)
  have h2 : ∀ W, Grew w W → Calls Try.prog 33 #[.agg vs.toArray] W fun e w' => ∃ us, e = .returned (.agg us.toArray) ∧ OwnTab (W.heap.size + 2) w' us t ∧ Grew W w' ∧ W.heap.size + 2 ≤ w'.heap.size := fun W hW => ownTb_any vs t W (hv.grew hW)
  have h3 := fun W => wrongEntry_any x.kind x.n x.wr W
  clear hv
  obtain ⟨W0, hW0⟩ : ∃ W0, ((w.alloc (.cells vs.toArray 55)).alloc (.cells #[.int .i64 x.kind, .int .i64 x.n, .bool x.wr] 57)).alloc (.cells #[.slice none 0 0, .slice none 0 0, .slice none 0 0, .slice none 0 0, .slice none 0 0, .slice none 0 0, .slice none 0 0, .slice none 0 0] 55) = W0 := ⟨_, rfl⟩
  have HG0 : Hid (Grew w W0) := show Grew w W0 by rw [← hW0]; exact ((grew_alloc _ _).trans (grew_alloc _ _)).trans (grew_alloc _ _)
  have X0 : Hid (Box W0 w.heap.size vs) := show Box _ _ _ by rw [← hW0]; exact ((Box.top w _ _ rfl).alloc _).alloc _
  have E0 : Hid (Box W0 (w.heap.size + 1) [.int .i64 x.kind, .int .i64 x.n, .bool x.wr]) := show Box _ _ _ by rw [← hW0]; exact (Box.top _ _ _ (by simp)).alloc _
  have Y0 : Hid (Box W0 (w.heap.size + 2) nil8) := show Box _ _ _ by rw [← hW0]; exact Box.top _ nil8 _ (by simp)
  have HW0 : Hid (_ = W0) := hW0
  clear hW0
  rcases set_cases t n x with ⟨hz, e1, e2⟩ | ⟨hz, hn, e1, e2⟩ | ⟨hz, hn, hx, e1, e2⟩ | ⟨hz, hn, hx, e1, e2⟩
  · rw [e1, e2]
    have hzb : (tbW t != 0) = true := by simpa using hz
    clear e1 e2 hz h2 h3
    generalize tbW t = z at h1 hzb ⊢
    go_enter Try.func34, Try.ntmps34
    go_upto_region 1 with fail
    rw [HW0.out]
    go_wp2_with (refine wp_loadTab rfl (.tmp 3) rfl w.heap.size rfl X0.out HL.out ?_)
    refine (h1 W0 HG0.out).mono ?_
    rintro e W1 ⟨rfl, g1⟩
    have G1 : Hid (Grew w W1) := HG0.out.trans g1
    have X1 : Hid (Box W1 w.heap.size vs) := X0.out.grew g1
    have E1 : Hid (Box W1 (w.heap.size + 1) [.int .i64 x.kind, .int .i64 x.n, .bool x.wr]) := E0.out.grew g1
    have Y1 : Hid (Box W1 (w.heap.size + 2) nil8) := Y0.out.grew g1
    clear g1 h1
    go_wp2_with (refine wp_storeAll rfl 55 (.tmp 6) (.tmp 15) rfl (w.heap.size + 2) rfl nil8 rfl Y1.out rfl Try.sizeTable nil8_one ?_)
    intro W9 b9 g9 s9
    have B9 : Hid (Box W9 (w.heap.size + 2) nil8) := b9
    have G9 : Hid (Grew w W9) := show Grew _ _ from grew_grown G1.out g9 (by simp)
    clear b9 g9 s9
    go_wp2
    refine bodyPost_ret (ret_cell_tmp rfl _ rfl B9.out Try.underlying55 rfl Try.sizeTable) rfl ⟨nil8, rfl, TabS.nil _ _ _, G9.out⟩
  · rw [e1, e2]
    rw [hz] at h1
    have hb := fun W => belowT_no (m := n) (n := 64) hn W
    clear e1 e2 hz hn h2 h3
    go_enter Try.func34, Try.ntmps34
    go_upto_region 1 with fail
    rw [HW0.out]
    go_wp2_with (refine wp_loadTab rfl (.tmp 3) rfl w.heap.size rfl X0.out HL.out ?_)
    refine (h1 W0 HG0.out).mono ?_
    rintro e W1 ⟨rfl, g1⟩
    have G1 : Hid (Grew w W1) := HG0.out.trans g1
    have X1 : Hid (Box W1 w.heap.size vs) := X0.out.grew g1
    have E1 : Hid (Box W1 (w.heap.size + 1) [.int .i64 x.kind, .int .i64 x.n, .bool x.wr]) := E0.out.grew g1
    have Y1 : Hid (Box W1 (w.heap.size + 2) nil8) := Y0.out.grew g1
    clear g1 h1
    go_wp2_with fail
    refine (hb _).mono ?_
    rintro e w' ⟨rfl, hw'⟩
    rw [hw']
    clear hw' w'
    go_wp2_with (refine wp_storeAll rfl 55 (.tmp 6) (.tmp 20) rfl (w.heap.size + 2) rfl nil8 rfl Y1.out rfl Try.sizeTable nil8_one ?_)
    intro W9 b9 g9 s9
    have B9 : Hid (Box W9 (w.heap.size + 2) nil8) := b9
    have G9 : Hid (Grew w W9) := show Grew _ _ from grew_grown G1.out g9 (by simp)
    clear b9 g9 s9
    go_wp2
    refine bodyPost_ret (ret_cell_tmp rfl _ rfl B9.out Try.underlying55 rfl Try.sizeTable) rfl ⟨nil8, rfl, TabS.nil _ _ _, G9.out⟩
  · rw [e1, e2]
    rw [hz] at h1
    have hb := fun W => belowT_yes (m := n) (n := 64) hn.1 hn.2 W
    change ∀ W, Calls Try.prog 62 _ W fun e w' => e = .returned (.int .i64 (enW x)) ∧ Grew W w' at h3
    have hzb : (enW x != 0) = true := by simpa using hx
    clear e1 e2 hz hn hx h2
    generalize enW x = z at h3 hzb ⊢
    go_enter Try.func34, Try.ntmps34
    go_upto_region 1 with fail
    rw [HW0.out]
    go_wp2_with (refine wp_loadTab rfl (.tmp 3) rfl w.heap.size rfl X0.out HL.out ?_)
    refine (h1 W0 HG0.out).mono ?_
    rintro e W1 ⟨rfl, g1⟩
    have G1 : Hid (Grew w W1) := HG0.out.trans g1
    have X1 : Hid (Box W1 w.heap.size vs) := X0.out.grew g1
    have E1 : Hid (Box W1 (w.heap.size + 1) [.int .i64 x.kind, .int .i64 x.n, .bool x.wr]) := E0.out.grew g1
    have Y1 : Hid (Box W1 (w.heap.size + 2) nil8) := Y0.out.grew g1
    clear g1 h1
    go_wp2_with fail
    refine (hb _).mono ?_
    rintro e w' ⟨rfl, hw'⟩
    rw [hw']
    clear hw' w'
    have e0 := E1.out.c 0 rfl
    have e1 := E1.out.c 1 rfl
    have e2 := E1.out.c 2 rfl
    go_wp2_with fail
    refine (h3 W1).mono ?_
    rintro e W2 ⟨rfl, g2⟩
    have G2 : Hid (Grew w W2) := G1.out.trans g2
    have X2 : Hid (Box W2 w.heap.size vs) := X1.out.grew g2
    have E2 : Hid (Box W2 (w.heap.size + 1) [.int .i64 x.kind, .int .i64 x.n, .bool x.wr]) := E1.out.grew g2
    have Y2 : Hid (Box W2 (w.heap.size + 2) nil8) := Y1.out.grew g2
    clear g2 h3 e0 e1 e2
    go_wp2_with (refine wp_storeAll rfl 55 (.tmp 6) (.tmp 25) rfl (w.heap.size + 2) rfl nil8 rfl Y2.out rfl Try.sizeTable nil8_one ?_)
    intro W9 b9 g9 s9
    have B9 : Hid (Box W9 (w.heap.size + 2) nil8) := b9
    have G9 : Hid (Grew w W9) := show Grew _ _ from grew_grown G2.out g9 (by simp)
    clear b9 g9 s9
    go_wp2
    refine bodyPost_ret (ret_cell_tmp rfl _ rfl B9.out Try.underlying55 rfl Try.sizeTable) rfl ⟨nil8, rfl, TabS.nil _ _ _, G9.out⟩
  · rw [e1, e2]
    rw [hz] at h1
    have hb := fun W => belowT_yes (m := n) (n := 64) hn.1 hn.2 W
    change ∀ W, Calls Try.prog 62 _ W fun e w' => e = .returned (.int .i64 (enW x)) ∧ Grew W w' at h3
    rw [hx] at h3
    obtain ⟨i, k, hi, hk, hnk, q1, q2, q3, q4, q5, q6⟩ := page_split hn.1 hn.2
    obtain ⟨q, HQ⟩ : ∃ q, Hid (t[i]? = some q) := ⟨_, List.getElem?_eq_getElem (by rw [HT8.out]; exact hi)⟩
    have H8 : Hid (q.length = 0 ∨ q.length = 8) := show _ ∨ _ by
      rcases tbW_zero.1 hz q (List.mem_of_getElem? HQ.out) with h | ⟨h, _⟩
      · exact .inl (by rw [h]; rfl)
      · exact .inr h
    have HM : Hid (setT t n.toNat x = t.set i (mk ((full q).set k x))) := show _ = _ by
      unfold setT
      rw [q5, q6, HQ.out]
      rfl
    rw [HM.out]
    obtain ⟨M, HMM⟩ : ∃ M, Hid (mk ((full q).set k x) = M) := ⟨_, rfl⟩
    rw [HMM.out]
    have hn0 := hn.1
    have hiz : (i : Int) < 8 := by omega
    clear e1 e2 hz hn hx hnk q5 q6
    go_enter Try.func34, Try.ntmps34
    go_upto_region 1 with fail
    rw [HW0.out]
    go_wp2_with (refine wp_loadTab rfl (.tmp 3) rfl w.heap.size rfl X0.out HL.out ?_)
    refine (h1 W0 HG0.out).mono ?_
    rintro e W1 ⟨rfl, g1⟩
    have G1 : Hid (Grew w W1) := HG0.out.trans g1
    have X1 : Hid (Box W1 w.heap.size vs) := X0.out.grew g1
    have E1 : Hid (Box W1 (w.heap.size + 1) [.int .i64 x.kind, .int .i64 x.n, .bool x.wr]) := E0.out.grew g1
    have Y1 : Hid (Box W1 (w.heap.size + 2) nil8) := Y0.out.grew g1
    clear g1 h1
    go_wp2_with fail
    refine (hb _).mono ?_
    rintro e w' ⟨rfl, hw'⟩
    rw [hw']
    clear hw' w'
    have e0 := E1.out.c 0 rfl
    have e1 := E1.out.c 1 rfl
    have e2 := E1.out.c 2 rfl
    go_wp2_with fail
    refine (h3 W1).mono ?_
    rintro e W2 ⟨rfl, g2⟩
    have G2 : Hid (Grew w W2) := G1.out.trans g2
    have X2 : Hid (Box W2 w.heap.size vs) := X1.out.grew g2
    have E2 : Hid (Box W2 (w.heap.size + 1) [.int .i64 x.kind, .int .i64 x.n, .bool x.wr]) := E1.out.grew g2
    have Y2 : Hid (Box W2 (w.heap.size + 2) nil8) := Y1.out.grew g2
    clear g2 h3 e0 e1 e2
    go_wp2_with (refine wp_loadTab rfl (.tmp 3) rfl w.heap.size rfl X2.out HL.out ?_)
    refine (h2 W2 G2.out).mono ?_
    rintro e W3 ⟨us, rfl, ot3, g3, s3⟩
    have OT3 : Hid (OwnTab (W2.heap.size + 2) W3 us t) := ot3
    have G23 : Hid (Grew W2 W3) := g3
    have HB3 : Hid (W2.heap.size + 2 ≤ W3.heap.size) := s3
    have HB2 : Hid (w.heap.size + 3 ≤ W2.heap.size) := Y2.out.lt
    clear ot3 g3 s3 h2
    obtain ⟨po, HPO⟩ : ∃ po, Hid (W3.heap.size = po) := ⟨_, rfl⟩
    go_wp2_with (refine wp_storeAll rfl 55 (.tmp 10) (.tmp 28) rfl W3.heap.size rfl us rfl (Box.top W3 nil8 55 rfl) OT3.out.len Try.sizeTable OT3.out.new.one ?_)
    intro W4 b4 g4 s4
    rw [HPO.out] at b4 g4 ⊢
    have P4 : Hid (Box W4 po us) := b4
    have G34 : Hid (Grew W3 W4) := show Grew _ _ from grew_grown (grew_alloc W3 _) g4 (by rw [HPO.out]; exact Nat.le_refl _)
    have HS4 : Hid (po < W4.heap.size) := b4.lt
    clear b4 g4 s4
    have OT4 : Hid (OwnTab (W2.heap.size + 2) W4 us t) := OT3.out.grew G34.out
    have E4 : Hid (Box W4 (w.heap.size + 1) [.int .i64 x.kind, .int .i64 x.n, .bool x.wr]) := (E2.out.grew G23.out).grew G34.out
    have Y4 : Hid (Box W4 (w.heap.size + 2) nil8) := (Y2.out.grew G23.out).grew G34.out
    have G4 : Hid (Grew w W4) := (G2.out.trans G23.out).trans G34.out
    have HLT : Hid (∀ (j : Nat) u, us[j]? = some u → ∀ g, u.ownBlock = some g → W2.heap.size + 2 ≤ g ∧ g < po) := show ∀ (j : Nat) u, _ from fun j u hu g hg => by
      obtain ⟨y, hy⟩ : ∃ y, t[j]? = some y := ⟨_, List.getElem?_eq_getElem (by rw [HT8.out, ← OT3.out.len]; exact (List.getElem?_eq_some_iff.1 hu).1)⟩
      rw [← HPO.out]
      exact (OT3.out.row j u y hu hy).lt g hg
    obtain ⟨xa, xc, q', hq', hvk, ho4⟩ := OT4.out.half hi
    obtain rfl : q = q' := by rw [HQ.out] at hq'; cases hq'; rfl
    have HVK : Hid (us[i]? = some (.slice xa q.length xc)) := hvk
    have O4 : Hid (OwnRow enE (W2.heap.size + 2) W4 (.slice xa q.length xc) q) := ho4
    clear hq' hvk ho4
    go_upto_region 10 with fail
    -- the one block that may be written
    obtain ⟨g, hg1, hg3, hg4, hg5⟩ : ∃ g, (∀ g', (Value.slice xa q.length xc).ownBlock = some g' → g' = g) ∧ g ≠ po ∧ W2.heap.size + 2 ≤ g ∧ ((Value.slice xa q.length xc).ownBlock = none → W4.heap.size ≤ g) := by
      cases ho : (Value.slice xa q.length xc).ownBlock with
      | none => exact ⟨W4.heap.size, fun g' h => (by cases h), by have := HS4.out; omega, by have := HS4.out; have := HPO.out; have := HB3.out; omega, fun _ => Nat.le_refl _⟩
      | some g =>
        have := HLT.out i _ HVK.out g ho
        exact ⟨g, fun g' h => by cases h; rfl, by omega, by omega, fun h => by cases h⟩
    have HWP : Hid (W2.heap.size + 2 ≤ W4.heap.size) := show _ ≤ _ by have := HS4.out; have := HPO.out; have := HB3.out; omega
    obtain ⟨I, HI⟩ : ∃ I : World → Prop, Hid (∀ w, I w ↔ Out g (g + 1) W4 w) := ⟨fun w => Out g (g + 1) W4 w, fun _ => Iff.rfl⟩
    obtain ⟨nq, HNQ⟩ : ∃ nq, Hid (q.length = nq) := ⟨_, rfl⟩
    rw [HNQ.out] at hg1 hg5 HVK O4
    have hx0 : ∀ y : HoldI I, y.world.cell? ⟨po, i, none⟩ = some (.slice xa nq xc) := fun y => (P4.out.out ((HI.out _).1 y.holds) (by omega)).c i HVK.out
    have hgE : w.heap.size + 1 < g := by have := HB2.out; omega
    have hx1 : ∀ y : HoldI I, y.world.cell? ⟨w.heap.size + 1, 0, none⟩ = some (.int .i64 x.kind) := fun y => (E4.out.out ((HI.out _).1 y.holds) (by omega)).c 0 rfl
    have hx2 : ∀ y : HoldI I, y.world.cell? ⟨w.heap.size + 1, 1, none⟩ = some (.int .i64 x.n) := fun y => (E4.out.out ((HI.out _).1 y.holds) (by omega)).c 1 rfl
    have hx3 : ∀ y : HoldI I, y.world.cell? ⟨w.heap.size + 1, 2, none⟩ = some (.bool x.wr) := fun y => (E4.out.out ((HI.out _).1 y.holds) (by omega)).c 2 rfl
    have hne : Nonempty (HoldI I) := ⟨⟨W4, (HI.out _).2 (Out.refl _ _ _)⟩⟩
    obtain ⟨nm, HNM⟩ : ∃ nm, Hid (M.length = nm) := ⟨_, rfl⟩
    refine wp_lax_tailI (I := I) 11 [(9, ⟨fun v => ∃ a' c', v = .slice a' nm c', fun v w' => OwnRow enE (W2.heap.size + 2) w' v M ∧ ∀ g', v.ownBlock = some g' → (Value.slice xa nq xc).ownBlock = some g' ∨ W4.heap.size ≤ g', fun w w' => w.grownBy w' (Value.slice xa nq xc).ownBlock, fun w => OwnRow enE (W2.heap.size + 2) w (.slice xa nq xc) q ∧ W4.heap.size ≤ w.heap.size⟩)] ((HI.out _).2 (Out.drew _)) mixed (by kernel_rfl) rfl rfl (by decide) ?hS ?hp ?hpre ?hpr0 ?_
    case hS =>
      intro y hy
      simp at hy
      subst hy
      exact ⟨_, none, 0, rfl⟩
    case hp =>
      intro k' s j t' hk' hj hjk _ v w w' hst hpo
      have a1 := (look1 hk').1
      have a2 := (look1 hj).1
      exact absurd (a2.trans a1.symm) hjk
    case hpre =>
      intro j t' k' s hj hk' hjk w w' hst hpr
      have a1 := (look1 hk').1
      have a2 := (look1 hj).1
      exact absurd (a2.trans a1.symm) hjk
    case hpr0 =>
      intro k' t' hk'
      obtain ⟨rfl, rfl⟩ := look1 hk'
      exact ⟨O4.out.grew (show Below _ _ _ from (Below.refl _ _).drew), Nat.le_refl _⟩
    simp only [List.take, List.drop]
    iterate 9 (refine laxI_quiet rfl rfl rfl (fun K hK => ?_); go_big_quiet_op; refine hK _ ?_; clear hK K)
    refine laxI_spec rfl rfl (fun w' hI' hpr hF => ?_) (fun v1 hv => ?_)
    · refine Does.call [.slice xa nq xc, .int .i64 (k : Int), .agg #[.int .i64 x.kind, .int .i64 x.n, .bool x.wr]] rfl Try.func63 rfl rfl rfl ?_
      have hpr' : OwnRow enE (W2.heap.size + 2) w' (.slice xa nq xc) q ∧ W4.heap.size ≤ w'.heap.size := hpr
      have hcall := withEntry_any xa xc q k hk x (W2.heap.size + 2) w' (by rw [HNQ.out]; exact hpr'.1) (Nat.le_trans HWP.out hpr'.2) H8.out
      rw [HNQ.out, HMM.out, HNM.out] at hcall
      refine hcall.mono ?_
      rintro e w'' ⟨a', c', rfl, nr, gb, ho⟩
      refine ⟨_, rfl, (HI.out _).2 (((HI.out _).1 hI').trans (Out.grown gb (fun g' h => by have := hg1 g' h; omega))), gb, ⟨a', c', rfl⟩, nr, fun g' hg' => ?_⟩
      rcases ho g' hg' with h | h
      · exact .inl h
      · exact .inr (Nat.le_trans hpr'.2 h)
    obtain ⟨ra, rc, rfl⟩ := hv
    simp only [Act.put, List.setIfInBounds_toArray, List.set_cons_succ, List.set_cons_zero]
    iterate 1 (refine laxI_quiet rfl rfl rfl (fun K hK => ?_); go_big_quiet_op; refine hK _ ?_; clear hK K)
    refine laxI_nil fun W5 hI5 hF => ?_
    have f9 : OwnRow enE (W2.heap.size + 2) W5 (.slice ra nm rc) M ∧ ∀ g', (Value.slice ra nm rc).ownBlock = some g' → (Value.slice xa nq xc).ownBlock = some g' ∨ W4.heap.size ≤ g' := hF 9
    have O5 : Hid (Out g (g + 1) W4 W5) := (HI.out _).1 hI5
    have OT5 : Hid (OwnTab (W2.heap.size + 2) W5 (us.set i (.slice ra nm rc)) (t.set i M)) := OT4.out.one hi HVK.out (by
      cases ho : (Value.slice xa nq xc).ownBlock with
      | none => exact ⟨O5.out.os, O5.out.tape, O5.out.output, O5.out.size, fun j hj _ => O5.out.block j hj (.inl (Nat.lt_of_lt_of_le hj (hg5 ho)))⟩
      | some g0 =>
        have := hg1 g0 ho
        subst this
        exact ⟨O5.out.os, O5.out.tape, O5.out.output, O5.out.size, fun j hj hne => O5.out.block j hj (by
          have : j ≠ g0 := fun e => hne (by rw [e])
          omega)⟩) f9.1 f9.2
    have HNE : Hid (∀ (j : Nat) u, (us.set i (.slice ra nm rc))[j]? = some u → ∀ g', u.ownBlock = some g' → po ≠ g') := show ∀ (j : Nat) u, _ from fun j u hu g' hg' => by
      by_cases e : j = i
      · subst e
        rw [List.getElem?_set_self (by rw [OT4.out.len]; exact hi)] at hu
        cases hu
        rcases f9.2 g' hg' with h | h
        · have := HLT.out j _ HVK.out g' h
          omega
        · have := HS4.out
          omega
      · rw [List.getElem?_set_ne (fun h => e h.symm)] at hu
        have := HLT.out j u hu g' hg'
        omega
    have P5 : Hid (Box W5 po us) := P4.out.out O5.out (by omega)
    have Y5 : Hid (Box W5 (w.heap.size + 2) nil8) := Y4.out.out O5.out (by have := HB2.out; omega)
    have G5 : Hid (Grew w W5) := show Grew _ _ from Out.grew_of G4.out (by have := HB2.out; omega) O5.out
    clear hF hx0 hx1 hx2 hx3 hI5 hne f9 hg1 hg5
    have p0 := P5.out.c i HVK.out
    have pf := P5.out.f
    go_upto_region 11 with fail
    have hlen : (us.set i (.slice ra nm rc)).length = 8 := by rw [List.length_set]; exact OT4.out.len
    have HLEN : Hid ((us.set i (.slice ra nm rc)).length = 8) := hlen
    clear hlen
    obtain ⟨W6, hW6⟩ : ∃ W6, W5.setCell ⟨po, i, none⟩ (.slice ra nm rc) = W6 := ⟨_, rfl⟩
    have P6 : Hid (Box W6 po (us.set i (.slice ra nm rc))) := show Box _ _ _ by rw [← hW6]; exact P5.out.set i _
    have Y6 : Hid (Box W6 (w.heap.size + 2) nil8) := show Box _ _ _ by rw [← hW6]; exact Y5.out.other (by have := HPO.out; have := HB3.out; have := HB2.out; simp; omega) _
    have G6 : Hid (Grew w W6) := show Grew _ _ by rw [← hW6]; exact Below.setCell G5.out (p := ⟨po, i, none⟩) (by have := HPO.out; have := HB3.out; have := HB2.out; simp; omega) _
    have OT6 : Hid (OwnTab (W2.heap.size + 2) W6 (us.set i (.slice ra nm rc)) (t.set i M)) := show OwnTab _ _ _ _ by
      rw [← hW6]
      exact ⟨OT5.out.len, OT5.out.tlen, fun j v h hv hh => (OT5.out.row j v h hv hh).setOther (fun g' hg' => HNE.out j v hv g' hg') _, OT5.out.two⟩
    rw [hW6]
    clear hW6 p0 pf
    go_wp2_with (first | refine wp_loadTab rfl (.tmp 10) rfl po rfl P6.out HLEN.out ?_ | refine wp_storeAll rfl 55 (.tmp 6) (.tmp 40) rfl (w.heap.size + 2) rfl _ rfl Y6.out HLEN.out Try.sizeTable OT6.out.new.one ?_)
    intro W7 b7 g7 s7
    have B7 : Hid (Box W7 (w.heap.size + 2) (us.set i (.slice ra nm rc))) := b7
    have G7 : Hid (Grew w W7) := show Grew _ _ from grew_grown G6.out g7 (by simp)
    have T7 : Hid (TabS 0 w.heap.size W7 (us.set i (.slice ra nm rc)) (t.set i M)) := show TabS _ _ _ _ _ from
      ⟨OT6.out.len, OT6.out.tlen, fun j v h hv hh => (((OT6.out.row j v h hv hh).grown g7 (fun g' hg' e => by
        cases e
        have := ((OT6.out.row j v h hv hh).lt _ hg').1
        have := HB2.out
        omega)).new.stays).less (Nat.le_refl _) (by have := HB2.out; omega)⟩
    clear b7 g7 s7
    go_wp2
    refine bodyPost_ret (ret_cell_tmp rfl _ rfl B7.out Try.underlying55 rfl (by rw [HLEN.out]; exact Try.sizeTable)) rfl ⟨_, rfl, T7.out, G7.out⟩

end Go.Proofs.Ytodbgjhdfjpcpac
