/- Contract of Hold (package frames). -/
import Derived.Test.YtbcaagmnmaonbabMemOwn
import Derived.Deep.Cut
namespace Go.Proofs.Ytbcaagmnmaonbab
open Go.RowKit

/-- The frame held n times more. -/
def frH (q : Fr) (n : Int) : Fr := if q.r + n = 0 then frF else { q with r := q.r + n }
def holdE (fs : List Fr) (h k n : Int) : Int := if memW fs h = 0 then (if inB k fs.length && !((fs.getD k.toNat fr0).r == 0) then (if -(fs.getD k.toNat fr0).r ≤ n ∧ n ≤ 1000 - (fs.getD k.toNat fr0).r then 0 else 3) else 5) else memW fs h
def holdF (fs : List Fr) (h k n : Int) : List Fr := if holdE fs h k n = 0 then fs.set k.toNat (frH (fs.getD k.toNat fr0) n) else []
def holdH (fs : List Fr) (h k n : Int) : Int := if holdE fs h k n = 0 then h else 0

theorem frsW_all : ∀ {fs : List Fr}, frsW fs = 0 → ∀ q ∈ fs, frW q = 0
  | [], _, _, hq => by cases hq
  | a :: l, h, q, hq => by
    unfold frsW at h
    by_cases h0 : frW a = 0
    · rw [if_pos h0] at h
      rcases List.mem_cons.1 hq with rfl | h1
      · exact h0
      · exact frsW_all h q h1
    · rw [if_neg h0] at h
      exact absurd h h0

theorem memW_zero {fs : List Fr} {h : Int} (hz : memW fs h = 0) : fs.length ≤ 40 ∧ (∀ q ∈ fs, frW q = 0) ∧ 0 ≤ h ∧ h < max (fs.length : Int) 1 := by
  unfold memW at hz
  by_cases h1 : 40 < fs.length
  · rw [if_pos h1] at hz; omega
  · rw [if_neg h1] at hz
    by_cases h2 : frsW fs = 0
    · rw [if_pos h2] at hz
      cases hb : inB h (max fs.length 1) with
      | false => rw [hb] at hz; simp at hz
      | true =>
        unfold inB at hb
        simp at hb
        exact ⟨by omega, frsW_all h2, by omega, by omega⟩
    · rw [if_neg h2] at hz
      exact absurd hz h2

theorem frW_zero {q : Fr} (h : frW q = 0) : 0 ≤ q.r ∧ q.r ≤ 1000 := by
  unfold frW at h
  by_cases h1 : (inB q.r 1001 && inB q.x 12) = false
  · rw [if_pos h1] at h; omega
  · have h2 : inB q.r 1001 = true := by
      cases hb : inB q.r 1001 with
      | true => rfl
      | false => rw [hb] at h1; simp at h1
    unfold inB at h2
    simp at h2
    omega

/-- The cells of a frame in a row of the call's own. -/
theorem OwnRow.frc {base : Nat} {w : World} {g n c : Nat} {fs : List Fr} (h : OwnRow base w (.slice (some ⟨g, 0, none⟩) n c) fs) {i : Nat} {q : Fr} (hq : fs[i]? = some q) (j : Nat) {u : Value} (hu : (frv q)[j]? = some u) : w.cell? ⟨g, i * 13 + j, none⟩ = some u := by
  obtain ⟨a', c', he, hr⟩ := h.at.rows
  obtain ⟨ad, he2, hc⟩ := hr i q hq
  cases he
  cases he2
  have := hc w (Grew.refl _) j u hu
  rw [add_add', Addr.add_lit, Nat.zero_add] at this
  exact this
theorem OwnRow.frz {base : Nat} {w : World} {g n c : Nat} {fs : List Fr} (h : OwnRow base w (.slice (some ⟨g, 0, none⟩) n c) fs) (o : Nat) : w.frozen? ⟨g, o, none⟩ = false := by
  rcases h.1.2 with ⟨h0, _⟩ | ⟨g', cap, cur, h0, _, h3, _⟩
  · cases h0
  · cases h0
    simp [World.frozen?, h3]

set_option maxRecDepth 100000 in
set_option maxHeartbeats 1000000 in
theorem hdA (a : Option Addr) (c : Nat) (fs : List Fr) (h : Int) (k : Int) (nn : Int) (w : World) (hv : RowAt w (.slice a fs.length c) fs) (z : Int) (hz : memW fs h = z) (hzb : (z != 0) = true) :
    Calls Try.prog 19 #[.agg #[.slice a fs.length c, .int .i64 h], .int .i64 k, .int .i64 nn] w fun e w' => ∃ b, e = .returned (.tuple #[.agg #[b, .int .i64 0], .int .i64 z]) ∧ NewRow w.heap.size w' b ([] : List Fr) ∧ Grew w w' := by
  have HV : Hid (RowAt w (.slice a fs.length c) fs) := hv
  have hw : ∀ W, Grew w W → Calls Try.prog 11 #[.agg #[.slice a fs.length c, .int .i64 h]] W fun e w' => e = .returned (.int .i64 (memW fs h)) ∧ Grew W w' := fun W hW => wrongMem_any a c fs h W (HV.out.grew hW)
  clear hv
  simp only [hz] at hw
  clear hz
  obtain ⟨n, HN⟩ : ∃ n, Hid (fs.length = n) := ⟨_, rfl⟩
  simp only [HN.out] at hw HV ⊢
  obtain ⟨W0, hW0⟩ : ∃ W0, (w.alloc (.cells #[.slice a n c, .int .i64 h] 39)).alloc (.cells #[.slice none 0 0, .int .i64 0] 39) = W0 := ⟨_, rfl⟩
  have HG0 : Hid (Grew w W0) := show Grew w W0 by rw [← hW0]; exact (grew_alloc _ _).trans (grew_alloc _ _)
  have X0 : Hid (Box W0 w.heap.size [.slice a n c, .int .i64 h]) := show Box _ _ _ by rw [← hW0]; exact (Box.top w _ _ rfl).alloc _
  have X2 : Hid (Box W0 (w.heap.size + 1) [.slice none 0 0, .int .i64 0]) := show Box _ _ _ by rw [← hW0]; exact Box.top _ _ _ (by simp)
  have HW0 : Hid (_ = W0) := hW0
  clear hW0
  go_enter Try.func19, Try.ntmps19
  go_upto_region 1 with fail
  rw [HW0.out]
  have e0 := X0.out.c 0 rfl
  have e1 := X0.out.c 1 rfl
  go_wp2_with fail
  refine (hw _ HG0.out).mono ?_
  rintro e W1 ⟨rfl, g1⟩
  have G1 : Hid (Grew W0 W1) := g1
  clear g1 e0 e1 hw
  have r0 := (X2.out.grew G1.out).c 0 rfl
  have r1 := (X2.out.grew G1.out).c 1 rfl
  have rf := (X2.out.grew G1.out).f
  go_wp2
  refine bodyPost_ret (v := .tuple #[.agg #[.slice none 0 0, .int .i64 0], .int .i64 z]) (by simp [results, Try.results19, go_sem, *]) rfl ⟨_, rfl, NewRow.nil _ _, ?_⟩
  exact grew_set (grew_set (HG0.out.trans G1.out) (by simp) _) (by simp) _

set_option maxRecDepth 100000 in
set_option maxHeartbeats 1000000 in
theorem hdB (a : Option Addr) (c : Nat) (fs : List Fr) (h : Int) (k : Int) (nn : Int) (w : World) (hv : RowAt w (.slice a fs.length c) fs) (hz : memW fs h = 0) (hkb : inB k fs.length = false) :
    Calls Try.prog 19 #[.agg #[.slice a fs.length c, .int .i64 h], .int .i64 k, .int .i64 nn] w fun e w' => ∃ b, e = .returned (.tuple #[.agg #[b, .int .i64 0], .int .i64 5]) ∧ NewRow w.heap.size w' b ([] : List Fr) ∧ Grew w w' := by
  have HV : Hid (RowAt w (.slice a fs.length c) fs) := hv
  have hw : ∀ W, Grew w W → Calls Try.prog 11 #[.agg #[.slice a fs.length c, .int .i64 h]] W fun e w' => e = .returned (.int .i64 (memW fs h)) ∧ Grew W w' := fun W hW => wrongMem_any a c fs h W (HV.out.grew hW)
  have hbl : ∀ W, Calls Try.prog 32 #[.int .i64 k, .int .i64 (fs.length : Int)] W fun e w' => e = .returned (.bool (inB k fs.length)) ∧ w' = W := fun W => below_any k _ W
  simp only [hkb] at hbl
  clear hkb
  have hbig := hv.short
  clear hv
  simp only [hz] at hw
  clear hz
  obtain ⟨n, HN⟩ : ∃ n, Hid (fs.length = n) := ⟨_, rfl⟩
  simp only [HN.out] at hw HV hbig hbl ⊢
  obtain ⟨W0, hW0⟩ : ∃ W0, (w.alloc (.cells #[.slice a n c, .int .i64 h] 39)).alloc (.cells #[.slice none 0 0, .int .i64 0] 39) = W0 := ⟨_, rfl⟩
  have HG0 : Hid (Grew w W0) := show Grew w W0 by rw [← hW0]; exact (grew_alloc _ _).trans (grew_alloc _ _)
  have X0 : Hid (Box W0 w.heap.size [.slice a n c, .int .i64 h]) := show Box _ _ _ by rw [← hW0]; exact (Box.top w _ _ rfl).alloc _
  have X2 : Hid (Box W0 (w.heap.size + 1) [.slice none 0 0, .int .i64 0]) := show Box _ _ _ by rw [← hW0]; exact Box.top _ _ _ (by simp)
  have HW0 : Hid (_ = W0) := hW0
  clear hW0
  go_enter Try.func19, Try.ntmps19
  go_upto_region 1 with fail
  rw [HW0.out]
  have e0 := X0.out.c 0 rfl
  have e1 := X0.out.c 1 rfl
  go_wp2_with fail
  refine (hw _ HG0.out).mono ?_
  rintro e W1 ⟨rfl, g1⟩
  have G1 : Hid (Grew W0 W1) := g1
  clear g1 e0 e1 hw
  have e0 := (X0.out.grew G1.out).c 0 rfl
  have r0 := (X2.out.grew G1.out).c 0 rfl
  have r1 := (X2.out.grew G1.out).c 1 rfl
  have rf := (X2.out.grew G1.out).f
  go_wp2_with (go_at_call 32; refine (hbl _).mono ?_; rintro e w' ⟨rfl, hw'⟩; rw [hw']; clear hw' w')
  refine bodyPost_ret (v := .tuple #[.agg #[.slice none 0 0, .int .i64 0], .int .i64 5]) (by simp [results, Try.results19, go_sem, *]) rfl ⟨_, rfl, NewRow.nil _ _, ?_⟩
  exact grew_set (grew_set (HG0.out.trans G1.out) (by simp) _) (by simp) _

set_option maxRecDepth 100000 in
set_option maxHeartbeats 1000000 in
theorem hdC (a : Option Addr) (c : Nat) (fs : List Fr) (h : Int) (i : Nat) (q : Fr) (nn : Int) (w : World) (hv : RowAt w (.slice a fs.length c) fs) (hz : memW fs h = 0) (hq : fs[i]? = some q) (hr : (q.r == 0) = true) :
    Calls Try.prog 19 #[.agg #[.slice a fs.length c, .int .i64 h], .int .i64 (i : Int), .int .i64 nn] w fun e w' => ∃ b, e = .returned (.tuple #[.agg #[b, .int .i64 0], .int .i64 5]) ∧ NewRow w.heap.size w' b ([] : List Fr) ∧ Grew w w' := by
  have HV : Hid (RowAt w (.slice a fs.length c) fs) := hv
  have hw : ∀ W, Grew w W → Calls Try.prog 11 #[.agg #[.slice a fs.length c, .int .i64 h]] W fun e w' => e = .returned (.int .i64 (memW fs h)) ∧ Grew W w' := fun W hW => wrongMem_any a c fs h W (HV.out.grew hW)
  have hbl : ∀ W, Calls Try.prog 32 #[.int .i64 (i : Int), .int .i64 (fs.length : Int)] W fun e w' => e = .returned (.bool (inB (i : Int) fs.length)) ∧ w' = W := fun W => below_any (i : Int) _ W
  have hb1000 := frW_zero ((memW_zero hz).2.1 q (List.mem_of_getElem? hq))
  have hil : i < fs.length := (List.getElem?_eq_some_iff.1 hq).1
  obtain ⟨a', c', heq, hrow⟩ := hv.frs
  cases heq
  obtain ⟨ad, rfl, hl⟩ := hrow i q hq
  have HL : Hid (∀ W, Grew w W → FrCells W (ad.add (i * 13)) q) := hl
  have HQ : Hid (fs[i]? = some q) := hq
  clear hrow hl hq
  simp only [show inB (i : Int) fs.length = true from by simp [inB]; exact hil] at hbl
  have hbig := hv.short
  clear hv
  simp only [hz] at hw
  clear hz
  obtain ⟨n, HN⟩ : ∃ n, Hid (fs.length = n) := ⟨_, rfl⟩
  simp only [HN.out] at hw HV hbig hbl hil ⊢
  have hiz : (i : Int) < (n : Int) := by omega
  obtain ⟨hb1, hb2⟩ := hb1000
  obtain ⟨W0, hW0⟩ : ∃ W0, (w.alloc (.cells #[.slice (some ad) n c, .int .i64 h] 39)).alloc (.cells #[.slice none 0 0, .int .i64 0] 39) = W0 := ⟨_, rfl⟩
  have HG0 : Hid (Grew w W0) := show Grew w W0 by rw [← hW0]; exact (grew_alloc _ _).trans (grew_alloc _ _)
  have X0 : Hid (Box W0 w.heap.size [.slice (some ad) n c, .int .i64 h]) := show Box _ _ _ by rw [← hW0]; exact (Box.top w _ _ rfl).alloc _
  have X2 : Hid (Box W0 (w.heap.size + 1) [.slice none 0 0, .int .i64 0]) := show Box _ _ _ by rw [← hW0]; exact Box.top _ _ _ (by simp)
  have HW0 : Hid (_ = W0) := hW0
  clear hW0
  go_enter Try.func19, Try.ntmps19
  go_upto_region 1 with fail
  rw [HW0.out]
  have e0 := X0.out.c 0 rfl
  have e1 := X0.out.c 1 rfl
  go_wp2_with fail
  refine (hw _ HG0.out).mono ?_
  rintro e W1 ⟨rfl, g1⟩
  have G1 : Hid (Grew W0 W1) := g1
  clear g1 e0 e1 hw
  obtain ⟨-, -, -, -, -, -, -, -, d8, -, -, -, -⟩ := HL.out W1 (HG0.out.trans G1.out)
  have e0 := (X0.out.grew G1.out).c 0 rfl
  have r0 := (X2.out.grew G1.out).c 0 rfl
  have r1 := (X2.out.grew G1.out).c 1 rfl
  have rf := (X2.out.grew G1.out).f
  go_wp2_with (go_at_call 32; refine (hbl _).mono ?_; rintro e w' ⟨rfl, hw'⟩; rw [hw']; clear hw' w')
  refine bodyPost_ret (v := .tuple #[.agg #[.slice none 0 0, .int .i64 0], .int .i64 5]) (by simp [results, Try.results19, go_sem, *]) rfl ⟨_, rfl, NewRow.nil _ _, ?_⟩
  exact grew_set (grew_set (HG0.out.trans G1.out) (by simp) _) (by simp) _

set_option maxRecDepth 100000 in
set_option maxHeartbeats 1000000 in
theorem hdD (a : Option Addr) (c : Nat) (fs : List Fr) (h : Int) (i : Nat) (q : Fr) (nn : Int) (w : World) (hv : RowAt w (.slice a fs.length c) fs) (hz : memW fs h = 0) (hq : fs[i]? = some q) (hr : (q.r == 0) = false) (hn : nn < -q.r) :
    Calls Try.prog 19 #[.agg #[.slice a fs.length c, .int .i64 h], .int .i64 (i : Int), .int .i64 nn] w fun e w' => ∃ b, e = .returned (.tuple #[.agg #[b, .int .i64 0], .int .i64 3]) ∧ NewRow w.heap.size w' b ([] : List Fr) ∧ Grew w w' := by
  have HV : Hid (RowAt w (.slice a fs.length c) fs) := hv
  have hw : ∀ W, Grew w W → Calls Try.prog 11 #[.agg #[.slice a fs.length c, .int .i64 h]] W fun e w' => e = .returned (.int .i64 (memW fs h)) ∧ Grew W w' := fun W hW => wrongMem_any a c fs h W (HV.out.grew hW)
  have hbl : ∀ W, Calls Try.prog 32 #[.int .i64 (i : Int), .int .i64 (fs.length : Int)] W fun e w' => e = .returned (.bool (inB (i : Int) fs.length)) ∧ w' = W := fun W => below_any (i : Int) _ W
  have hb1000 := frW_zero ((memW_zero hz).2.1 q (List.mem_of_getElem? hq))
  have hil : i < fs.length := (List.getElem?_eq_some_iff.1 hq).1
  obtain ⟨a', c', heq, hrow⟩ := hv.frs
  cases heq
  obtain ⟨ad, rfl, hl⟩ := hrow i q hq
  have HL : Hid (∀ W, Grew w W → FrCells W (ad.add (i * 13)) q) := hl
  have HQ : Hid (fs[i]? = some q) := hq
  clear hrow hl hq
  simp only [show inB (i : Int) fs.length = true from by simp [inB]; exact hil] at hbl
  have hbig := hv.short
  clear hv
  simp only [hz] at hw
  clear hz
  obtain ⟨n, HN⟩ : ∃ n, Hid (fs.length = n) := ⟨_, rfl⟩
  simp only [HN.out] at hw HV hbig hbl hil ⊢
  have hiz : (i : Int) < (n : Int) := by omega
  obtain ⟨hb1, hb2⟩ := hb1000
  obtain ⟨W0, hW0⟩ : ∃ W0, (w.alloc (.cells #[.slice (some ad) n c, .int .i64 h] 39)).alloc (.cells #[.slice none 0 0, .int .i64 0] 39) = W0 := ⟨_, rfl⟩
  have HG0 : Hid (Grew w W0) := show Grew w W0 by rw [← hW0]; exact (grew_alloc _ _).trans (grew_alloc _ _)
  have X0 : Hid (Box W0 w.heap.size [.slice (some ad) n c, .int .i64 h]) := show Box _ _ _ by rw [← hW0]; exact (Box.top w _ _ rfl).alloc _
  have X2 : Hid (Box W0 (w.heap.size + 1) [.slice none 0 0, .int .i64 0]) := show Box _ _ _ by rw [← hW0]; exact Box.top _ _ _ (by simp)
  have HW0 : Hid (_ = W0) := hW0
  clear hW0
  go_enter Try.func19, Try.ntmps19
  go_upto_region 1 with fail
  rw [HW0.out]
  have e0 := X0.out.c 0 rfl
  have e1 := X0.out.c 1 rfl
  go_wp2_with fail
  refine (hw _ HG0.out).mono ?_
  rintro e W1 ⟨rfl, g1⟩
  have G1 : Hid (Grew W0 W1) := g1
  clear g1 e0 e1 hw
  obtain ⟨-, -, -, -, -, -, -, -, d8, -, -, -, -⟩ := HL.out W1 (HG0.out.trans G1.out)
  have e0 := (X0.out.grew G1.out).c 0 rfl
  have r0 := (X2.out.grew G1.out).c 0 rfl
  have r1 := (X2.out.grew G1.out).c 1 rfl
  have rf := (X2.out.grew G1.out).f
  go_wp2_with (go_at_call 32; refine (hbl _).mono ?_; rintro e w' ⟨rfl, hw'⟩; rw [hw']; clear hw' w')
  refine bodyPost_ret (v := .tuple #[.agg #[.slice none 0 0, .int .i64 0], .int .i64 3]) (by simp [results, Try.results19, go_sem, *]) rfl ⟨_, rfl, NewRow.nil _ _, ?_⟩
  exact grew_set (grew_set (HG0.out.trans G1.out) (by simp) _) (by simp) _

set_option maxRecDepth 100000 in
set_option maxHeartbeats 1000000 in
theorem hdE (a : Option Addr) (c : Nat) (fs : List Fr) (h : Int) (i : Nat) (q : Fr) (nn : Int) (w : World) (hv : RowAt w (.slice a fs.length c) fs) (hz : memW fs h = 0) (hq : fs[i]? = some q) (hr : (q.r == 0) = false) (hn : ¬ nn < -q.r) (hn2 : 1000 - q.r < nn) :
    Calls Try.prog 19 #[.agg #[.slice a fs.length c, .int .i64 h], .int .i64 (i : Int), .int .i64 nn] w fun e w' => ∃ b, e = .returned (.tuple #[.agg #[b, .int .i64 0], .int .i64 3]) ∧ NewRow w.heap.size w' b ([] : List Fr) ∧ Grew w w' := by
  have HV : Hid (RowAt w (.slice a fs.length c) fs) := hv
  have hw : ∀ W, Grew w W → Calls Try.prog 11 #[.agg #[.slice a fs.length c, .int .i64 h]] W fun e w' => e = .returned (.int .i64 (memW fs h)) ∧ Grew W w' := fun W hW => wrongMem_any a c fs h W (HV.out.grew hW)
  have hbl : ∀ W, Calls Try.prog 32 #[.int .i64 (i : Int), .int .i64 (fs.length : Int)] W fun e w' => e = .returned (.bool (inB (i : Int) fs.length)) ∧ w' = W := fun W => below_any (i : Int) _ W
  have hb1000 := frW_zero ((memW_zero hz).2.1 q (List.mem_of_getElem? hq))
  have hil : i < fs.length := (List.getElem?_eq_some_iff.1 hq).1
  obtain ⟨a', c', heq, hrow⟩ := hv.frs
  cases heq
  obtain ⟨ad, rfl, hl⟩ := hrow i q hq
  have HL : Hid (∀ W, Grew w W → FrCells W (ad.add (i * 13)) q) := hl
  have HQ : Hid (fs[i]? = some q) := hq
  clear hrow hl hq
  simp only [show inB (i : Int) fs.length = true from by simp [inB]; exact hil] at hbl
  have hbig := hv.short
  clear hv
  simp only [hz] at hw
  clear hz
  obtain ⟨n, HN⟩ : ∃ n, Hid (fs.length = n) := ⟨_, rfl⟩
  simp only [HN.out] at hw HV hbig hbl hil ⊢
  have hiz : (i : Int) < (n : Int) := by omega
  obtain ⟨hb1, hb2⟩ := hb1000
  obtain ⟨W0, hW0⟩ : ∃ W0, (w.alloc (.cells #[.slice (some ad) n c, .int .i64 h] 39)).alloc (.cells #[.slice none 0 0, .int .i64 0] 39) = W0 := ⟨_, rfl⟩
  have HG0 : Hid (Grew w W0) := show Grew w W0 by rw [← hW0]; exact (grew_alloc _ _).trans (grew_alloc _ _)
  have X0 : Hid (Box W0 w.heap.size [.slice (some ad) n c, .int .i64 h]) := show Box _ _ _ by rw [← hW0]; exact (Box.top w _ _ rfl).alloc _
  have X2 : Hid (Box W0 (w.heap.size + 1) [.slice none 0 0, .int .i64 0]) := show Box _ _ _ by rw [← hW0]; exact Box.top _ _ _ (by simp)
  have HW0 : Hid (_ = W0) := hW0
  clear hW0
  go_enter Try.func19, Try.ntmps19
  go_upto_region 1 with fail
  rw [HW0.out]
  have e0 := X0.out.c 0 rfl
  have e1 := X0.out.c 1 rfl
  go_wp2_with fail
  refine (hw _ HG0.out).mono ?_
  rintro e W1 ⟨rfl, g1⟩
  have G1 : Hid (Grew W0 W1) := g1
  clear g1 e0 e1 hw
  obtain ⟨-, -, -, -, -, -, -, -, d8, -, -, -, -⟩ := HL.out W1 (HG0.out.trans G1.out)
  have e0 := (X0.out.grew G1.out).c 0 rfl
  have r0 := (X2.out.grew G1.out).c 0 rfl
  have r1 := (X2.out.grew G1.out).c 1 rfl
  have rf := (X2.out.grew G1.out).f
  go_wp2_with (go_at_call 32; refine (hbl _).mono ?_; rintro e w' ⟨rfl, hw'⟩; rw [hw']; clear hw' w')
  refine bodyPost_ret (v := .tuple #[.agg #[.slice none 0 0, .int .i64 0], .int .i64 3]) (by simp [results, Try.results19, go_sem, *]) rfl ⟨_, rfl, NewRow.nil _ _, ?_⟩
  exact grew_set (grew_set (HG0.out.trans G1.out) (by simp) _) (by simp) _

set_option maxRecDepth 100000 in
set_option maxHeartbeats 1000000 in
theorem hdF (a : Option Addr) (c : Nat) (fs : List Fr) (h : Int) (i : Nat) (q : Fr) (nn : Int) (w : World) (hv : RowAt w (.slice a fs.length c) fs) (hz : memW fs h = 0) (hq : fs[i]? = some q) (hr : (q.r == 0) = false) (hn : ¬ nn < -q.r) (hn2 : ¬ 1000 - q.r < nn) (hs : q.r + nn = 0) :
    Calls Try.prog 19 #[.agg #[.slice a fs.length c, .int .i64 h], .int .i64 (i : Int), .int .i64 nn] w fun e w' => ∃ b, e = .returned (.tuple #[.agg #[b, .int .i64 h], .int .i64 0]) ∧ NewRow w.heap.size w' b (fs.set i frF) ∧ Grew w w' := by
  have HV : Hid (RowAt w (.slice a fs.length c) fs) := hv
  have HS : Hid (q.r + nn = 0) := hs
  clear hs
  have hw : ∀ W, Grew w W → Calls Try.prog 11 #[.agg #[.slice a fs.length c, .int .i64 h]] W fun e w' => e = .returned (.int .i64 (memW fs h)) ∧ Grew W w' := fun W hW => wrongMem_any a c fs h W (HV.out.grew hW)
  have hbl : ∀ W, Calls Try.prog 32 #[.int .i64 (i : Int), .int .i64 (fs.length : Int)] W fun e w' => e = .returned (.bool (inB (i : Int) fs.length)) ∧ w' = W := fun W => below_any (i : Int) _ W
  have ho : ∀ W, Grew w W → Calls Try.prog 14 #[.agg #[.slice a fs.length c, .int .i64 h]] W fun e w' => ∃ b, e = .returned (.agg #[b, .int .i64 h]) ∧ OwnRow W.heap.size w' b fs ∧ Grew W w' := fun W hW => ownMem_any a c fs h W (HV.out.grew hW)
  have hb1000 := frW_zero ((memW_zero hz).2.1 q (List.mem_of_getElem? hq))
  have hil : i < fs.length := (List.getElem?_eq_some_iff.1 hq).1
  obtain ⟨a', c', heq, hrow⟩ := hv.frs
  cases heq
  obtain ⟨ad, rfl, hl⟩ := hrow i q hq
  have HL : Hid (∀ W, Grew w W → FrCells W (ad.add (i * 13)) q) := hl
  have HQ : Hid (fs[i]? = some q) := hq
  clear hrow hl hq
  simp only [show inB (i : Int) fs.length = true from by simp [inB]; exact hil] at hbl
  have hbig := hv.short
  clear hv
  simp only [hz] at hw
  clear hz
  obtain ⟨n, HN⟩ : ∃ n, Hid (fs.length = n) := ⟨_, rfl⟩
  simp only [HN.out] at hw HV hbig hbl ho hil ⊢
  have hiz : (i : Int) < (n : Int) := by omega
  obtain ⟨hb1, hb2⟩ := hb1000
  obtain ⟨W0, hW0⟩ : ∃ W0, (w.alloc (.cells #[.slice (some ad) n c, .int .i64 h] 39)).alloc (.cells #[.slice none 0 0, .int .i64 0] 39) = W0 := ⟨_, rfl⟩
  have HG0 : Hid (Grew w W0) := show Grew w W0 by rw [← hW0]; exact (grew_alloc _ _).trans (grew_alloc _ _)
  have X0 : Hid (Box W0 w.heap.size [.slice (some ad) n c, .int .i64 h]) := show Box _ _ _ by rw [← hW0]; exact (Box.top w _ _ rfl).alloc _
  have X2 : Hid (Box W0 (w.heap.size + 1) [.slice none 0 0, .int .i64 0]) := show Box _ _ _ by rw [← hW0]; exact Box.top _ _ _ (by simp)
  have HW0 : Hid (_ = W0) := hW0
  clear hW0
  go_enter Try.func19, Try.ntmps19
  go_upto_region 1 with fail
  rw [HW0.out]
  have e0 := X0.out.c 0 rfl
  have e1 := X0.out.c 1 rfl
  go_wp2_with fail
  refine (hw _ HG0.out).mono ?_
  rintro e W1 ⟨rfl, g1⟩
  have G1 : Hid (Grew W0 W1) := g1
  clear g1 e0 e1 hw
  obtain ⟨-, -, -, -, -, -, -, -, d8, -, -, -, -⟩ := HL.out W1 (HG0.out.trans G1.out)
  have e0 := (X0.out.grew G1.out).c 0 rfl
  have e1 := (X0.out.grew G1.out).c 1 rfl
  go_wp2_with (go_at_call 32; refine (hbl _).mono ?_; rintro e w' ⟨rfl, hw'⟩; rw [hw']; clear hw' w')
  refine (ho _ (HG0.out.trans G1.out)).mono ?_
  rintro e W4 ⟨b, rfl, hown, g4⟩
  obtain ⟨g, cv, rfl⟩ := hown.formS (by rw [HN.out]; omega)
  rw [HN.out] at hown ⊢
  have OW : Hid (OwnRow W1.heap.size W4 (.slice (some ⟨g, 0, none⟩) n cv) fs) := hown
  have G4 : Hid (Grew W0 W4) := G1.out.trans g4
  have g34 : Hid (W1.heap.size ≤ W4.heap.size) := Below.size g4
  clear hown g4 e0 e1 ho d8
  have hgl := OW.out.lt g rfl
  have hne : g ≠ W4.heap.size := by omega
  have u8 := (OW.out.grew (grew_alloc W4 (.cells #[.slice (some ⟨g, 0, none⟩) n cv, .int .i64 h] 39))).frc HQ.out 8 rfl
  go_wp2_with (refine wpList_store_part rfl (.tmp 61) (.tmp 59) 3 rfl W1.heap.size (.slice (some ⟨g, 0, none⟩) n cv) fs (OW.out.grew (grew_alloc _ _)) g i 8 rfl q { q with r := q.r + nn } HQ.out [.int .i64 (q.r + nn)] (by kernel_rfl) rfl (Nat.le_of_ble_eq_true rfl) (by intro u hu; simp at hu; subst hu; rfl) _ rfl (by simp) _ rfl rfl ?_)
  intro W5 ow5 gr5 sz5
  have OW5 : Hid (OwnRow W1.heap.size W5 (.slice (some ⟨g, 0, none⟩) n cv) (fs.set i { q with r := q.r + nn })) := ow5
  have h34 := g34.out
  have h03 : W0.heap.size ≤ W1.heap.size := Below.size G1.out
  have hx2 := X2.out.lt
  have XO : Hid (Box W5 W4.heap.size [.slice (some ⟨g, 0, none⟩) n cv, .int .i64 h]) := (Box.top W4 _ _ rfl).beside gr5 (fun g' hg' => by cases hg'; omega)
  have X25 : Hid (Box W5 (w.heap.size + 1) [.slice none 0 0, .int .i64 0]) := ((X2.out.grew G4.out).alloc _).beside gr5 (fun g' hg' => by cases hg'; omega)
  have G5 : Hid (Grew W0 W5) := grew_beside (G4.out.trans (grew_alloc _ _)) gr5 (fun g' hg' => by cases hg'; omega)
  have HQ5 : Hid ((fs.set i { q with r := q.r + nn })[i]? = some { q with r := q.r + nn }) := show _ = _ by rw [List.getElem?_set_self (by rw [HN.out]; exact hil)]
  clear ow5 gr5 sz5 u8
  have u8 := OW5.out.frc HQ5.out 8 rfl
  have o0 := XO.out.c 0 rfl
  have o1 := XO.out.c 1 rfl
  have r0 := X25.out.c 0 rfl
  have r1 := X25.out.c 1 rfl
  have rf := X25.out.f
  simp only at u8
  have hsb : (q.r + nn == 0) = true := by simp [HS.out]
  go_wp2
  have hx0 : ∀ x : GrownW W5, x.world.cell? ⟨W4.heap.size, 0, none⟩ = some (.slice (some ⟨g, 0, none⟩) n cv) := fun x => (XO.out.grew x.grew).c 0 rfl
  have hne5 : Nonempty (GrownW W5) := ⟨⟨_, Grew.refl _⟩⟩
  clear u8 o0 o1 r0 r1 rf
  refine wp_lax_tail 5 [(3, ⟨fun v => v = .agg (frv frF).toArray, fun _ _ => True⟩)] mixed (by kernel_rfl) rfl rfl (by decide) ?_ ?_ ?_
  · intro x hx
    simp at hx
    subst hx
    exact ⟨_, rfl⟩
  · intro x hx
    simp at hx
    subst hx
    exact fun _ _ _ _ h => h
  simp only [List.take, List.drop]
  iterate 3 (refine lax_quiet rfl rfl rfl (fun K hK => ?_); go_big_quiet_op; refine hK _ ?_; clear hK K)
  refine lax_spec rfl rfl (fun w' hg hF => ?_) (fun v1 hv => ?_)
  · refine Does.call [] rfl Try.func36 rfl rfl rfl ?_
    refine (freeFrame_any w').mono ?_
    rintro e w'' ⟨rfl, hg2⟩
    exact ⟨_, rfl, hg2, rfl, trivial⟩
  subst hv
  simp only [Act.put, List.setIfInBounds_toArray, List.set_cons_succ, List.set_cons_zero, frv, frF, pg0]
  iterate 1 (refine lax_quiet rfl rfl rfl (fun K hK => ?_); go_big_quiet_op; refine hK _ ?_; clear hK K)
  refine lax_nil fun W6 hg6 hF => ?_
  have OW6 : Hid (OwnRow W1.heap.size W6 (.slice (some ⟨g, 0, none⟩) n cv) (fs.set i { q with r := q.r + nn })) := OW5.out.grew hg6
  have XO6 : Hid (Box W6 W4.heap.size [.slice (some ⟨g, 0, none⟩) n cv, .int .i64 h]) := XO.out.grew hg6
  have X26 : Hid (Box W6 (w.heap.size + 1) [.slice none 0 0, .int .i64 0]) := X25.out.grew hg6
  have G6 : Hid (Grew W0 W6) := G5.out.trans hg6
  clear hF hx0 hg6 hne5
  go_wp2_with (refine wpList_store_elt rfl (.tmp 73) (.tmp 72) rfl W1.heap.size _ _ OW6.out g i rfl frF (by rw [List.length_set, HN.out]; exact hil) _ rfl (by simp) _ rfl rfl ?_)
  intro W7 ow7 gr7 sz7
  have OW7 : Hid (OwnRow W1.heap.size W7 (.slice (some ⟨g, 0, none⟩) n cv) (fs.set i frF)) := ow7
  have XO7 : Hid (Box W7 W4.heap.size [.slice (some ⟨g, 0, none⟩) n cv, .int .i64 h]) := XO6.out.beside gr7 (fun g' hg' => by cases hg'; omega)
  have X27 : Hid (Box W7 (w.heap.size + 1) [.slice none 0 0, .int .i64 0]) := X26.out.beside gr7 (fun g' hg' => by cases hg'; omega)
  have G7 : Hid (Grew W0 W7) := grew_beside G6.out gr7 (fun g' hg' => by cases hg'; omega)
  clear ow7 gr7 sz7
  have o0 := XO7.out.c 0 rfl
  have o1 := XO7.out.c 1 rfl
  have r0 := X27.out.c 0 rfl
  have r1 := X27.out.c 1 rfl
  have rf := X27.out.f
  go_wp2
  refine bodyPost_ret (v := .tuple #[.agg #[.slice (some ⟨g, 0, none⟩) n cv, .int .i64 h], .int .i64 0]) (by simp [results, Try.results19, go_sem, *]) rfl ⟨_, rfl, ?_, ?_⟩
  · exact ((OW7.out.new.setCell (a := ⟨w.heap.size + 1, 0, none⟩) (by show w.heap.size + 1 < _; omega) _).setCell (a := ⟨w.heap.size + 1, 1, none⟩) (by show w.heap.size + 1 < _; omega) _).base (by have := Below.size HG0.out; omega)
  · exact grew_set (grew_set (HG0.out.trans G7.out) (by simp) _) (by simp) _

set_option maxRecDepth 100000 in
set_option maxHeartbeats 1000000 in
theorem hdG (a : Option Addr) (c : Nat) (fs : List Fr) (h : Int) (i : Nat) (q : Fr) (nn : Int) (w : World) (hv : RowAt w (.slice a fs.length c) fs) (hz : memW fs h = 0) (hq : fs[i]? = some q) (hr : (q.r == 0) = false) (hn : ¬ nn < -q.r) (hn2 : ¬ 1000 - q.r < nn) (hs : (q.r + nn == 0) = false) :
    Calls Try.prog 19 #[.agg #[.slice a fs.length c, .int .i64 h], .int .i64 (i : Int), .int .i64 nn] w fun e w' => ∃ b, e = .returned (.tuple #[.agg #[b, .int .i64 h], .int .i64 0]) ∧ NewRow w.heap.size w' b (fs.set i { q with r := q.r + nn }) ∧ Grew w w' := by
  have HV : Hid (RowAt w (.slice a fs.length c) fs) := hv
  have hw : ∀ W, Grew w W → Calls Try.prog 11 #[.agg #[.slice a fs.length c, .int .i64 h]] W fun e w' => e = .returned (.int .i64 (memW fs h)) ∧ Grew W w' := fun W hW => wrongMem_any a c fs h W (HV.out.grew hW)
  have hbl : ∀ W, Calls Try.prog 32 #[.int .i64 (i : Int), .int .i64 (fs.length : Int)] W fun e w' => e = .returned (.bool (inB (i : Int) fs.length)) ∧ w' = W := fun W => below_any (i : Int) _ W
  have ho : ∀ W, Grew w W → Calls Try.prog 14 #[.agg #[.slice a fs.length c, .int .i64 h]] W fun e w' => ∃ b, e = .returned (.agg #[b, .int .i64 h]) ∧ OwnRow W.heap.size w' b fs ∧ Grew W w' := fun W hW => ownMem_any a c fs h W (HV.out.grew hW)
  have hb1000 := frW_zero ((memW_zero hz).2.1 q (List.mem_of_getElem? hq))
  have hil : i < fs.length := (List.getElem?_eq_some_iff.1 hq).1
  obtain ⟨a', c', heq, hrow⟩ := hv.frs
  cases heq
  obtain ⟨ad, rfl, hl⟩ := hrow i q hq
  have HL : Hid (∀ W, Grew w W → FrCells W (ad.add (i * 13)) q) := hl
  have HQ : Hid (fs[i]? = some q) := hq
  clear hrow hl hq
  simp only [show inB (i : Int) fs.length = true from by simp [inB]; exact hil] at hbl
  have hbig := hv.short
  clear hv
  simp only [hz] at hw
  clear hz
  obtain ⟨n, HN⟩ : ∃ n, Hid (fs.length = n) := ⟨_, rfl⟩
  simp only [HN.out] at hw HV hbig hbl ho hil ⊢
  have hiz : (i : Int) < (n : Int) := by omega
  obtain ⟨hb1, hb2⟩ := hb1000
  obtain ⟨W0, hW0⟩ : ∃ W0, (w.alloc (.cells #[.slice (some ad) n c, .int .i64 h] 39)).alloc (.cells #[.slice none 0 0, .int .i64 0] 39) = W0 := ⟨_, rfl⟩
  have HG0 : Hid (Grew w W0) := show Grew w W0 by rw [← hW0]; exact (grew_alloc _ _).trans (grew_alloc _ _)
  have X0 : Hid (Box W0 w.heap.size [.slice (some ad) n c, .int .i64 h]) := show Box _ _ _ by rw [← hW0]; exact (Box.top w _ _ rfl).alloc _
  have X2 : Hid (Box W0 (w.heap.size + 1) [.slice none 0 0, .int .i64 0]) := show Box _ _ _ by rw [← hW0]; exact Box.top _ _ _ (by simp)
  have HW0 : Hid (_ = W0) := hW0
  clear hW0
  go_enter Try.func19, Try.ntmps19
  go_upto_region 1 with fail
  rw [HW0.out]
  have e0 := X0.out.c 0 rfl
  have e1 := X0.out.c 1 rfl
  go_wp2_with fail
  refine (hw _ HG0.out).mono ?_
  rintro e W1 ⟨rfl, g1⟩
  have G1 : Hid (Grew W0 W1) := g1
  clear g1 e0 e1 hw
  obtain ⟨-, -, -, -, -, -, -, -, d8, -, -, -, -⟩ := HL.out W1 (HG0.out.trans G1.out)
  have e0 := (X0.out.grew G1.out).c 0 rfl
  have e1 := (X0.out.grew G1.out).c 1 rfl
  go_wp2_with (go_at_call 32; refine (hbl _).mono ?_; rintro e w' ⟨rfl, hw'⟩; rw [hw']; clear hw' w')
  refine (ho _ (HG0.out.trans G1.out)).mono ?_
  rintro e W4 ⟨b, rfl, hown, g4⟩
  obtain ⟨g, cv, rfl⟩ := hown.formS (by rw [HN.out]; omega)
  rw [HN.out] at hown ⊢
  have OW : Hid (OwnRow W1.heap.size W4 (.slice (some ⟨g, 0, none⟩) n cv) fs) := hown
  have G4 : Hid (Grew W0 W4) := G1.out.trans g4
  have g34 : Hid (W1.heap.size ≤ W4.heap.size) := Below.size g4
  clear hown g4 e0 e1 ho d8
  have hgl := OW.out.lt g rfl
  have hne : g ≠ W4.heap.size := by omega
  have u8 := (OW.out.grew (grew_alloc W4 (.cells #[.slice (some ⟨g, 0, none⟩) n cv, .int .i64 h] 39))).frc HQ.out 8 rfl
  go_wp2_with (refine wpList_store_part rfl (.tmp 61) (.tmp 59) 3 rfl W1.heap.size (.slice (some ⟨g, 0, none⟩) n cv) fs (OW.out.grew (grew_alloc _ _)) g i 8 rfl q { q with r := q.r + nn } HQ.out [.int .i64 (q.r + nn)] (by kernel_rfl) rfl (Nat.le_of_ble_eq_true rfl) (by intro u hu; simp at hu; subst hu; rfl) _ rfl (by simp) _ rfl rfl ?_)
  intro W5 ow5 gr5 sz5
  have OW5 : Hid (OwnRow W1.heap.size W5 (.slice (some ⟨g, 0, none⟩) n cv) (fs.set i { q with r := q.r + nn })) := ow5
  have h34 := g34.out
  have h03 : W0.heap.size ≤ W1.heap.size := Below.size G1.out
  have hx2 := X2.out.lt
  have XO : Hid (Box W5 W4.heap.size [.slice (some ⟨g, 0, none⟩) n cv, .int .i64 h]) := (Box.top W4 _ _ rfl).beside gr5 (fun g' hg' => by cases hg'; omega)
  have X25 : Hid (Box W5 (w.heap.size + 1) [.slice none 0 0, .int .i64 0]) := ((X2.out.grew G4.out).alloc _).beside gr5 (fun g' hg' => by cases hg'; omega)
  have G5 : Hid (Grew W0 W5) := grew_beside (G4.out.trans (grew_alloc _ _)) gr5 (fun g' hg' => by cases hg'; omega)
  have HQ5 : Hid ((fs.set i { q with r := q.r + nn })[i]? = some { q with r := q.r + nn }) := show _ = _ by rw [List.getElem?_set_self (by rw [HN.out]; exact hil)]
  clear ow5 gr5 sz5 u8
  have u8 := OW5.out.frc HQ5.out 8 rfl
  have o0 := XO.out.c 0 rfl
  have o1 := XO.out.c 1 rfl
  have r0 := X25.out.c 0 rfl
  have r1 := X25.out.c 1 rfl
  have rf := X25.out.f
  simp only at u8
  go_wp2
  refine bodyPost_ret (v := .tuple #[.agg #[.slice (some ⟨g, 0, none⟩) n cv, .int .i64 h], .int .i64 0]) (by simp [results, Try.results19, go_sem, *]) rfl ⟨_, rfl, ?_, ?_⟩
  · exact ((OW5.out.new.setCell (a := ⟨w.heap.size + 1, 0, none⟩) (by show w.heap.size + 1 < _; omega) _).setCell (a := ⟨w.heap.size + 1, 1, none⟩) (by show w.heap.size + 1 < _; omega) _).base (by have := Below.size HG0.out; omega)
  · exact grew_set (grew_set (HG0.out.trans G5.out) (by simp) _) (by simp) _

theorem hold_any (a : Option Addr) (c : Nat) (fs : List Fr) (h k nn : Int) (w : World) (hv : RowAt w (.slice a fs.length c) fs) :
    Calls Try.prog 19 #[.agg #[.slice a fs.length c, .int .i64 h], .int .i64 k, .int .i64 nn] w fun e w' => ∃ b, e = .returned (.tuple #[.agg #[b, .int .i64 (holdH fs h k nn)], .int .i64 (holdE fs h k nn)]) ∧ NewRow w.heap.size w' b (holdF fs h k nn) ∧ Grew w w' := by
  unfold holdH holdF
  by_cases hz : memW fs h = 0
  · cases hkb : inB k fs.length with
    | false =>
      rw [show holdE fs h k nn = 5 from by unfold holdE; rw [if_pos hz, hkb]; rfl, if_neg (by decide), if_neg (by decide)]
      exact hdB a c fs h k nn w hv hz hkb
    | true =>
      have hkb' := hkb
      unfold inB at hkb'
      simp at hkb'
      obtain ⟨i, rfl⟩ := Int.eq_ofNat_of_zero_le hkb'.1
      have hil : i < fs.length := by omega
      obtain ⟨q, hq⟩ : ∃ q, fs[i]? = some q := ⟨_, List.getElem?_eq_getElem hil⟩
      have hgd : fs.getD (i : Int).toNat fr0 = q := by rw [Int.toNat_natCast, List.getD_eq_getElem?_getD, hq]; rfl
      cases hr : (q.r == 0) with
      | true =>
        rw [show holdE fs h i nn = 5 from by unfold holdE; rw [if_pos hz, hkb, hgd, hr]; rfl, if_neg (by decide), if_neg (by decide)]
        exact hdC a c fs h i q nn w hv hz hq hr
      | false =>
        by_cases h1 : nn < -q.r
        · rw [show holdE fs h i nn = 3 from by unfold holdE; rw [if_pos hz, hkb, hgd, hr, if_pos (by decide), if_neg (by omega)], if_neg (by decide), if_neg (by decide)]
          exact hdD a c fs h i q nn w hv hz hq hr h1
        by_cases h2 : 1000 - q.r < nn
        · rw [show holdE fs h i nn = 3 from by unfold holdE; rw [if_pos hz, hkb, hgd, hr, if_pos (by decide), if_neg (by omega)], if_neg (by decide), if_neg (by decide)]
          exact hdE a c fs h i q nn w hv hz hq hr h1 h2
        rw [show holdE fs h i nn = 0 from by unfold holdE; rw [if_pos hz, hkb, hgd, hr, if_pos (by decide), if_pos (by omega)], if_pos rfl, if_pos rfl, hgd, Int.toNat_natCast]
        by_cases h3 : q.r + nn = 0
        · rw [show frH q nn = frF from if_pos h3]
          exact hdF a c fs h i q nn w hv hz hq hr h1 h2 h3
        · rw [show frH q nn = { q with r := q.r + nn } from if_neg h3]
          exact hdG a c fs h i q nn w hv hz hq hr h1 h2 (by simpa using h3)
  · rw [show holdE fs h k nn = memW fs h from by unfold holdE; rw [if_neg hz], if_neg hz, if_neg hz]
    exact hdA a c fs h k nn w hv _ rfl (by simpa using hz)

end Go.Proofs.Ytbcaagmnmaonbab
