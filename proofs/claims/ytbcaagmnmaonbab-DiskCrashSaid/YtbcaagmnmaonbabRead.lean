/- Contract of Read (package disk): the last one that waits for the block, or the block. -/
import Derived.Test.YtbcaagmnmaonbabBack
namespace Go.Proofs.Ytbcaagmnmaonbab
open Go.RowKit Go.Shelf

attribute [local go_sem] Oper.semAt_some

/-- What is read of block m. -/
def readL (ps : List (List Int)) (qs : List (Int × List Int)) (m : Int) : List Int :=
  if wrongAtL ps.length qs m = 0 then (match qs.reverse.find? (fun q => q.1 == m) with | some q => q.2 | none => ps.getD m.toNat zero8) else zero8

theorem box_own {β : Type} (B : Nat) (f : β → List Value) : Own (fun s W => Box W B (f s)) := fun s X Y row hs hg hrow => by
  have hlt := hs.lt
  obtain ⟨t, h⟩ := hs
  refine ⟨t, ?_⟩
  rw [hg.block B hlt (fun e => ?_)]
  · exact h
  · obtain ⟨o, ho, hc⟩ := hrow B e.symm
    rw [h] at ho
    cases ho
    cases hc

theorem Box.put {W : World} {b D : Nat} {cs : List Value} {o : Obj} (h : Box W b cs) (o' : Obj) (hD : W.heap[D]? = some o) (ho : o.isCells = false) : Box (W.putObj D o') b cs :=
  box_own b (fun _ : Unit => cs) () W _ (some D) h (grownBy_putObj' W D o') (fun r e => by cases e; exact ⟨o, hD, ho⟩)

theorem keeps_set {A B : World} (h : KeepsOthers A B) (a : Addr) (u : Value) : KeepsOthers A (B.setCell a u) := h.trans (KeepsOthers.setCell _ _ _)

/-- Nothing waits for the block. -/
theorem find_none {qs : List (Int × List Int)} {ys : List P9} {m : Int} (h : ys.map P9.q = qs.reverse) (hne : ∀ x ∈ ys, x.m ≠ m) : qs.reverse.find? (fun q => q.1 == m) = none := by
  rw [← h, List.find?_eq_none]
  intro q hq
  obtain ⟨x, hx, rfl⟩ := List.mem_map.1 hq
  simpa [P9.q] using hne x hx

/-- The last one that waits for it. -/
theorem find_some {qs : List (Int × List Int)} {ini : List P9} {x : P9} {m : Int} (h : (ini ++ [x]).map P9.q <+: qs.reverse) (hne : ∀ y ∈ ini, y.m ≠ m) (hx : x.m = m) : qs.reverse.find? (fun q => q.1 == m) = some x.q := by
  obtain ⟨t, ht⟩ := h
  rw [← ht, List.map_append, List.append_assoc, List.find?_append]
  have h1 : (ini.map P9.q).find? (fun q => q.1 == m) = none := by
    rw [List.find?_eq_none]
    intro q hq
    obtain ⟨y, hy, rfl⟩ := List.mem_map.1 hq
    simpa [P9.q] using hne y hy
  rw [h1]
  simp [P9.q, hx]

theorem wrongAtL_zero {n : Nat} {qs : List (Int × List Int)} {m : Int} (h : wrongAtL n qs m = 0) : wrongL n qs = 0 ∧ ∃ i : Nat, m = (i : Int) ∧ i < n := by
  unfold wrongAtL at h
  by_cases h1 : wrongL n qs = 0
  · rw [if_pos h1] at h
    refine ⟨h1, ?_⟩
    cases hb : inB m n with
    | false => rw [hb] at h; simp at h
    | true =>
      unfold inB at hb
      simp at hb
      obtain ⟨i, hi⟩ := Int.eq_ofNat_of_zero_le hb.1
      exact ⟨i, hi, by omega⟩
  · rw [if_neg h1] at h; exact absurd h h1

theorem grew_set {w W : World} (h : Grew w W) {a : Addr} (ha : w.heap.size ≤ a.block) (u : Value) : Grew w (W.setCell a u) := Below.setCell h ha u

set_option maxRecDepth 100000 in
set_option maxHeartbeats 4000000 in
theorem read_any (d : Value) (ps : List (List Int)) (qs : List (Int × List Int)) (m : Int) (w : World) (hd : DiskAt w d ps qs) :
    Calls Try.prog 10 #[d, .int .i64 m] w fun e w' => e = .returned (.tuple #[.agg (pgc (readL ps qs m)).toArray, .int .i64 (wrongAtL ps.length qs m)]) ∧ Grew w w' := by
  obtain ⟨b, q, rfl, hb, hq⟩ := hd
  have HB : Hid (PagesAt w b ps) := hb
  have HQ : Hid (PutsAt w q qs) := hq
  obtain ⟨ab, cb, rfl, hrb⟩ := hb.rows
  obtain ⟨aq, cq, rfl, hrq⟩ := hq.rows
  have HRB : Hid (PageRows w ab ps) := hrb
  have HRQ : Hid (PutRows w aq qs) := hrq
  clear hb hq hrb hrq
  have HL : Hid (readL ps qs m = if wrongAtL ps.length qs m = 0 then (match qs.reverse.find? (fun q => q.1 == m) with | some q => q.2 | none => ps.getD m.toNat zero8) else zero8) := rfl
  obtain ⟨W0, hW0⟩ : ∃ W0, (((w.alloc (.cells #[.slice ab ps.length cb, .slice aq qs.length cq] 25)).alloc (.cells #[.int .i64 m] 3)).alloc (.cells #[.int .u8 0, .int .u8 0, .int .u8 0, .int .u8 0, .int .u8 0, .int .u8 0, .int .u8 0, .int .u8 0] 31)).alloc (.cells #[.int .i64 0] 27) = W0 := ⟨_, rfl⟩
  have HG0 : Hid (Grew w W0) := show Grew w W0 by rw [← hW0]; exact (((grew_alloc _ _).trans (grew_alloc _ _)).trans (grew_alloc _ _)).trans (grew_alloc _ _)
  have X0 : Hid (Box W0 w.heap.size [.slice ab ps.length cb, .slice aq qs.length cq]) := show Box _ _ _ by rw [← hW0]; exact (((Box.top w [.slice ab ps.length cb, .slice aq qs.length cq] _ rfl).alloc _).alloc _).alloc _
  have X1 : Hid (Box W0 (w.heap.size + 1) [.int .i64 m]) := show Box _ _ _ by rw [← hW0]; exact ((Box.top _ [.int .i64 m] _ (by simp)).alloc _).alloc _
  have X2 : Hid (Box W0 (w.heap.size + 1 + 1) [.int .u8 0, .int .u8 0, .int .u8 0, .int .u8 0, .int .u8 0, .int .u8 0, .int .u8 0, .int .u8 0]) := show Box _ _ _ by rw [← hW0]; exact (Box.top _ [.int .u8 0, .int .u8 0, .int .u8 0, .int .u8 0, .int .u8 0, .int .u8 0, .int .u8 0, .int .u8 0] _ (by simp)).alloc _
  have X3 : Hid (Box W0 (w.heap.size + 1 + 1 + 1) [.int .i64 0]) := show Box _ _ _ by rw [← hW0]; exact Box.top _ [.int .i64 0] _ (by simp)
  have hcon := wrongAt_any ab ps.length cb (.slice aq qs.length cq) qs m W0 (HQ.out.grew HG0.out)
  have hqbig : qs.length ≤ 9223372036854775807 := by have := HQ.out.2.2; omega
  obtain ⟨r, HW⟩ : ∃ r, Hid (wrongAtL ps.length qs m = r) := ⟨_, rfl⟩
  rw [HW.out] at hcon HL ⊢
  obtain ⟨nb, HNB⟩ : ∃ nb, Hid (ps.length = nb) := ⟨_, rfl⟩
  obtain ⟨nq, HNQ⟩ : ∃ nq, Hid (qs.length = nq) := ⟨_, rfl⟩
  rw [HNB.out, HNQ.out] at hcon hW0 X0 ⊢
  have HW0 : Hid (_ = W0) := hW0
  clear hW0
  by_cases hr : r = 0
  · subst hr
    rw [if_pos rfl] at HL
    refine (callsIn_wide (n := 5)).1 ?_
    refine callsIn_of_wp_marks Try.func10 rfl trivial ?_ rfl
    simp only [Try.ntmps10, List.size_toArray, List.length_cons, List.length_nil, Nat.reduceAdd, Nat.reduceSub, Array.replicate_succ, Array.replicate_zero, List.push_toArray, List.append_toArray, List.nil_append, List.cons_append]
    gi_wp2_with (first
      | (refine ⟨trivial, ?_⟩; gi_at_call 29; rw [HW0.out]; refine (callsIn_wide.2 hcon).mono ?_; rintro e W1 ⟨rfl, hg1⟩
         have HG1 : Hid (Grew W0 W1) := hg1
         have e0 := (X0.out.grew hg1).c 0 rfl
         have e1 := (X0.out.grew hg1).c 1 rfl)
      | (refine ⟨trivial, ?_⟩; gi_at_call 30; refine (back_in Fence.wide _ trivial rfl _ _ _ _).mono ?_; rintro e W2 ⟨rfl, hW2⟩
         have HW2 : Hid (W2 = W1.alloc (.cells #[.slice aq nq cq] 23)) := hW2; clear hW2))
    have HG2 : Hid (Grew w W2) := show Grew w W2 by rw [HW2.out]; exact (HG0.out.trans HG1.out).trans (grew_alloc _ _)
    have HGW2 : Hid (Grew W0 W2) := show Grew W0 W2 by rw [HW2.out]; exact HG1.out.trans (grew_alloc _ _)
    have HSZ : Hid (w.heap.size + 4 ≤ W1.heap.size ∧ W2.heap.size = W1.heap.size + 1) := show _ ∧ _ from ⟨by have h1 := Below.size HG1.out; have h2 := X3.out.lt; omega, by rw [HW2.out]; simp⟩
    have bS : Box W2 W1.heap.size [.slice aq nq cq] := by rw [HW2.out]; exact Box.top _ [.slice aq nq cq] _ rfl
    have HC := bS.c 0 rfl
    obtain ⟨_, i, hmi, hib⟩ := wrongAtL_zero HW.out
    have HI : Hid (m = (i : Int) ∧ i < ps.length) := ⟨hmi, hib⟩
    clear e0 e1 hcon hg1 hmi hib bS
    refine wpIn_rangeFunc_ownH rfl (by decide) (gf := 47) (lb := #[.pointer (some ⟨W1.heap.size, 0, none⟩)]) rfl trivial (enters_of Try.func47 (by kernel_rfl) rfl)
      (back_stops Fence.wide 4 trivial rfl (by decide) W1.heap.size W2.heap.size w aq cq qs HRQ.out hqbig W2 HG2.out (by have := HSZ.out.2; omega) rfl (by rw [HNQ.out]; exact HC)) belowK_t (belowK_b (Nat.le_refl _)) (Below.refl _ _) (fun _ => rfl)
      (fun pre W => (∀ x ∈ pre, x.m ≠ m) ∧ Below W2.heap.size W2 W)
      (fun c pre W => (c = .ret ∧ ∃ ini last, pre = ini ++ [last] ∧ (∀ x ∈ ini, x.m ≠ m) ∧ last.m = m ∧ Box W (w.heap.size + 1 + 1) [.int .u8 last.b0, .int .u8 last.b1, .int .u8 last.b2, .int .u8 last.b3, .int .u8 last.b4, .int .u8 last.b5, .int .u8 last.b6, .int .u8 last.b7] ∧ Box W (w.heap.size + 1 + 1 + 1) [.int .i64 0]) ∧ Below w.heap.size w W)
      (OwnFrom.and (fun s X Y row hs hg hr => hs) (ownFrom_below (Nat.le_refl _) (Nat.le_refl _)))
      (fun c => OwnFrom.and (Own.from (fun s X Y row hs hg hr => by
        obtain ⟨hc, ini, last, e1, e2, e3, e4, e5⟩ := hs
        exact ⟨hc, ini, last, e1, e2, e3, box_own _ (fun _ : Unit => _) () X Y row e4 hg hr, box_own _ (fun _ : Unit => _) () X Y row e5 hg hr⟩) _) (ownFrom_below (Nat.le_refl _) (Below.size HG2.out)))
      ⟨by simp, Below.refl _ _⟩
      (fun x a' W => ∃ Bx, W2.heap.size ≤ Bx ∧ Box W Bx [.int .i64 x.m, .int .u8 x.b0, .int .u8 x.b1, .int .u8 x.b2, .int .u8 x.b3, .int .u8 x.b4, .int .u8 x.b5, .int .u8 x.b6, .int .u8 x.b7] ∧
        a' = { tmps := #[.agg #[.slice ab nb cb, .slice aq nq cq], .int .i64 m, .pointer (some ⟨w.heap.size, 0, none⟩), .pointer (some ⟨w.heap.size + 1, 0, none⟩), .pointer (some ⟨w.heap.size + 1 + 1, 0, none⟩), .pointer (some ⟨w.heap.size + 1 + 1 + 1, 0, none⟩), .int .i64 0, undef, .pointer (some ⟨Bx, 0, none⟩),
          .agg #[.slice ab nb cb, .slice aq nq cq], .int .i64 m, .int .i64 0, .int .i64 0, .bool false, undef, undef, .pointer (some ⟨w.heap.size, 1, none⟩), .slice aq nq cq, .func (.func 47) #[] #[.pointer (some ⟨W1.heap.size, 0, none⟩)], .int .i64 x.i,
          .agg #[.int .i64 x.m, .int .u8 x.b0, .int .u8 x.b1, .int .u8 x.b2, .int .u8 x.b3, .int .u8 x.b4, .int .u8 x.b5, .int .u8 x.b6, .int .u8 x.b7], undef, undef, undef, undef, undef, undef, undef, undef, undef, undef, undef], defers := [] })
      (fun x a' _ X Y row hs hg hr => by obtain ⟨Bx, h1, h2, h3⟩ := hs; exact ⟨Bx, h1, box_own Bx (fun _ : Unit => _) () X Y row h2 hg (fun r e => (hr r e).2), h3⟩)
      ?assign ?body ?done ?stop
    case assign =>
      rintro l pre x W K ⟨hp, hB⟩ hK
      simp only [P9.encs]
      gi_wp2
      exact hK _ _ ((KeepsOthers.alloc _ _).from _) ((Below.refl _ W).alloc hB.size _) ⟨hp, hB.alloc hB.size _⟩ ⟨W.heap.size, hB.size, Box.top W [.int .i64 x.m, .int .u8 x.b0, .int .u8 x.b1, .int .u8 x.b2, .int .u8 x.b3, .int .u8 x.b4, .int .u8 x.b5, .int .u8 x.b6, .int .u8 x.b7] _ rfl, rfl⟩
    case body =>
      rintro l pre x a' W hl ⟨rr, hrr⟩ ⟨hp, hB⟩ ⟨Bx, hBx, bX, rfl⟩ hlt
      have Z1 := (X1.out.grew HGW2.out).below hB ((X1.out.grew HGW2.out).lt)
      have Z2 := (X2.out.grew HGW2.out).below hB ((X2.out.grew HGW2.out).lt)
      have Z3 := (X3.out.grew HGW2.out).below hB ((X3.out.grew HGW2.out).lt)
      have HZ2 : Hid (Box W _ _) := Z2
      have HZ3 : Hid (Box W _ _) := Z3
      have HBW : Hid (Below W2.heap.size W2 W) := hB
      have c0 := Z2.c 0 rfl
      have c1 := Z2.c 1 rfl
      have c2 := Z2.c 2 rfl
      have c3 := Z2.c 3 rfl
      have c4 := Z2.c 4 rfl
      have c5 := Z2.c 5 rfl
      have c6 := Z2.c 6 rfl
      have c7 := Z2.c 7 rfl
      have f0 := Z2.f
      have c8 := Z3.c 0 rfl
      have f1 := Z3.f 0
      have cm := Z1.c 0 rfl
      have x0 := bX.c 0 rfl
      have x1 := bX.c 1 rfl
      have x2 := bX.c 2 rfl
      have x3 := bX.c 3 rfl
      have x4 := bX.c 4 rfl
      have x5 := bX.c 5 rfl
      have x6 := bX.c 6 rfl
      have x7 := bX.c 7 rfl
      have x8 := bX.c 8 rfl
      have HP : Hid (∀ x ∈ pre, x.m ≠ m) := hp
      clear hp Z1 Z2 Z3 bX hB hrr
      by_cases hx : x.m = m
      · have hxb : (x.m == m) = true := by simpa using hx
        gi_wp2
        refine ⟨KeepsOthers.from ?_ _, ⟨rfl, pre, x, rfl, HP.out, hx, ?_, ?_⟩, ?_⟩
        · iterate 9 (refine keeps_set ?_ _ _)
          exact KeepsOthers.refl _
        · exact ((((((((HZ2.out.set 0 _).set 1 _).set 2 _).set 3 _).set 4 _).set 5 _).set 6 _).set 7 _).other (by simp) _
        · refine Box.set (cs := [.int .i64 0]) ?_ 0 _
          iterate 8 (refine Box.other ?_ (by simp) _)
          exact HZ3.out
        · iterate 9 (refine grew_set ?_ (by simp; omega) _)
          exact Below.trans HG2.out (HBW.out.mono (Below.size HG2.out))
      · have hxb : (x.m == m) = false := by simpa using hx
        gi_wp2
        exact ⟨KeepsFrom.refl _ _, Below.refl _ _, fun y hy => (List.mem_append.1 hy).elim (HP.out y) (fun e => by simp at e; subst e; exact hx), HBW.out⟩
    case done =>
      rintro D ys W hD hS ⟨hp, hB⟩ hK
      have Z0 := (X0.out.grew HGW2.out).below hB ((X0.out.grew HGW2.out).lt)
      have Z1 := (X1.out.grew HGW2.out).below hB ((X1.out.grew HGW2.out).lt)
      have Z2 := (X2.out.grew HGW2.out).below hB ((X2.out.grew HGW2.out).lt)
      have Z3 := (X3.out.grew HGW2.out).below hB ((X3.out.grew HGW2.out).lt)
      have HZ2 : Hid (Box W _ _) := Z2
      have HZ3 : Hid (Box W _ _) := Z3
      have HGW : Hid (Grew w W) := show Grew w W from Below.trans HG2.out (hB.mono (Below.size HG2.out))
      have HF := find_none hS hp
      obtain ⟨rfl, hib⟩ := HI.out
      obtain ⟨pg, hpg⟩ : ∃ pg, ps[i]? = some pg := ⟨_, List.getElem?_eq_getElem hib⟩
      obtain ⟨xa, b0, b1, b2, b3, b4, b5, b6, b7, rfl, rfl, hl⟩ := HRB.out i pg hpg
      obtain ⟨d0, d1, d2, d3, d4, d5, d6, d7⟩ := hl W HGW.out
      have hib' : (i : Int) < (nb : Int) := by rw [← HNB.out]; omega
      rw [HF, show ps.getD (Int.toNat (i : Int)) zero8 = [b0, b1, b2, b3, b4, b5, b6, b7] from by simp [hpg]] at HL
      have z0 := Z0.c 0 rfl
      have z1 := Z1.c 0 rfl
      have c0 := Z2.c 0 rfl
      have c1 := Z2.c 1 rfl
      have c2 := Z2.c 2 rfl
      have c3 := Z2.c 3 rfl
      have c4 := Z2.c 4 rfl
      have c5 := Z2.c 5 rfl
      have c6 := Z2.c 6 rfl
      have c7 := Z2.c 7 rfl
      have f0 := Z2.f
      have c8 := Z3.c 0 rfl
      have f1 := Z3.f 0
      have HKD : Hid (W.heap[D]? = some (.deferred (some []))) := hK
      clear hl hpg hib HF hS hp Z0 Z1 Z2 Z3 hK hB
      gi_wp2
      clear c0 c1 c2 c3 c4 c5 c6 c7 c8 f0 f1 z0 z1 d0 d1 d2 d3 d4 d5 d6 d7
      have hK' := (show KeepsOthers W _ from keeps_set (keeps_set (keeps_set (keeps_set (keeps_set (keeps_set (keeps_set (keeps_set (keeps_set (KeepsOthers.refl W) ⟨w.heap.size + 1 + 1, 0, none⟩ (.int .u8 b0)) ⟨w.heap.size + 1 + 1, 1, none⟩ (.int .u8 b1)) ⟨w.heap.size + 1 + 1, 2, none⟩ (.int .u8 b2)) ⟨w.heap.size + 1 + 1, 3, none⟩ (.int .u8 b3)) ⟨w.heap.size + 1 + 1, 4, none⟩ (.int .u8 b4)) ⟨w.heap.size + 1 + 1, 5, none⟩ (.int .u8 b5)) ⟨w.heap.size + 1 + 1, 6, none⟩ (.int .u8 b6)) ⟨w.heap.size + 1 + 1, 7, none⟩ (.int .u8 b7)) ⟨w.heap.size + 1 + 1 + 1, 0, none⟩ (.int .i64 0)).same D _ HKD.out rfl
      refine ⟨by simp, .inl ⟨_, _, rfl, run_takeDeferred hK', ?_⟩⟩
      have B2 := (((((((((HZ2.out.set 0 (.int .u8 b0)).set 1 (.int .u8 b1)).set 2 (.int .u8 b2)).set 3 (.int .u8 b3)).set 4 (.int .u8 b4)).set 5 (.int .u8 b5)).set 6 (.int .u8 b6)).set 7 (.int .u8 b7)).other (a := ⟨w.heap.size + 1 + 1 + 1, 0, none⟩) (by simp) (.int .i64 0)).put (.deferred none) hK' rfl
      have B3 := ((((((((((HZ3.out.other (a := ⟨w.heap.size + 1 + 1, 0, none⟩) (by simp) (.int .u8 b0)).other (a := ⟨w.heap.size + 1 + 1, 1, none⟩) (by simp) (.int .u8 b1)).other (a := ⟨w.heap.size + 1 + 1, 2, none⟩) (by simp) (.int .u8 b2)).other (a := ⟨w.heap.size + 1 + 1, 3, none⟩) (by simp) (.int .u8 b3)).other (a := ⟨w.heap.size + 1 + 1, 4, none⟩) (by simp) (.int .u8 b4)).other (a := ⟨w.heap.size + 1 + 1, 5, none⟩) (by simp) (.int .u8 b5)).other (a := ⟨w.heap.size + 1 + 1, 6, none⟩) (by simp) (.int .u8 b6)).other (a := ⟨w.heap.size + 1 + 1, 7, none⟩) (by simp) (.int .u8 b7)).set 0 (.int .i64 0)).put (.deferred none) hK' rfl)
      have r0 := B2.c 0 rfl
      have r1 := B2.c 1 rfl
      have r2 := B2.c 2 rfl
      have r3 := B2.c 3 rfl
      have r4 := B2.c 4 rfl
      have r5 := B2.c 5 rfl
      have r6 := B2.c 6 rfl
      have r7 := B2.c 7 rfl
      have r8 := B3.c 0 rfl
      refine ⟨.tuple #[.agg #[.int .u8 b0, .int .u8 b1, .int .u8 b2, .int .u8 b3, .int .u8 b4, .int .u8 b5, .int .u8 b6, .int .u8 b7], .int .i64 0], by simp [results, Try.f10, go_sem, r0, r1, r2, r3, r4, r5, r6, r7, r8], ?_, ?_⟩
      · rw [HL.out]; rfl
      · refine Below.trans ?_ (belowK_b (w := W2) (n₀ := w.heap.size) (Below.size HG2.out) _ D _ _ hD hK' rfl rfl)
        iterate 9 (refine grew_set ?_ (by simp; omega) _)
        exact HGW.out
    case stop =>
      rintro D c pre W hD hS ⟨⟨rfl, ini, last, e1, e2, e3, b2, b3⟩, hB⟩ hK
      gi_wp2
      have B2 := b2.put (.deferred none) hK rfl
      have B3 := b3.put (.deferred none) hK rfl
      have r0 := B2.c 0 rfl
      have r1 := B2.c 1 rfl
      have r2 := B2.c 2 rfl
      have r3 := B2.c 3 rfl
      have r4 := B2.c 4 rfl
      have r5 := B2.c 5 rfl
      have r6 := B2.c 6 rfl
      have r7 := B2.c 7 rfl
      have r8 := B3.c 0 rfl
      refine ⟨by simp, .inl ⟨_, _, rfl, run_takeDeferred hK, ?_⟩⟩
      refine ⟨.tuple #[.agg #[.int .u8 last.b0, .int .u8 last.b1, .int .u8 last.b2, .int .u8 last.b3, .int .u8 last.b4, .int .u8 last.b5, .int .u8 last.b6, .int .u8 last.b7], .int .i64 0], by simp [results, Try.f10, go_sem, r0, r1, r2, r3, r4, r5, r6, r7, r8], ?_, ?_⟩
      · subst e1
        rw [HL.out, find_some hS e2 e3]
        rfl
      · exact Below.trans hB (belowK_b (w := W2) (n₀ := w.heap.size) (Below.size HG2.out) W D _ _ hD hK rfl rfl)
  · have hne : (r != 0) = true := by simpa using hr
    rw [if_neg hr] at HL
    rw [HL.out]
    refine (callsIn_wide (n := 5)).1 ?_
    refine callsIn_of_wp_marks Try.func10 rfl trivial ?_ rfl
    simp only [Try.ntmps10, List.size_toArray, List.length_cons, List.length_nil, Nat.reduceAdd, Nat.reduceSub, Array.replicate_succ, Array.replicate_zero, List.push_toArray, List.append_toArray, List.nil_append, List.cons_append]
    gi_wp2_with (refine ⟨trivial, ?_⟩; gi_at_call 29; rw [HW0.out]; refine (callsIn_wide.2 hcon).mono ?_; rintro e W1 ⟨rfl, hg1⟩
                 have Y2 : Hid (Box W1 (w.heap.size + 1 + 1) [.int .u8 0, .int .u8 0, .int .u8 0, .int .u8 0, .int .u8 0, .int .u8 0, .int .u8 0, .int .u8 0]) := X2.out.grew hg1
                 have Y3 : Hid (Box W1 (w.heap.size + 1 + 1 + 1) [.int .i64 0]) := X3.out.grew hg1
                 have c0 := Y2.out.c 0 rfl
                 have c1 := Y2.out.c 1 rfl
                 have c2 := Y2.out.c 2 rfl
                 have c3 := Y2.out.c 3 rfl
                 have c4 := Y2.out.c 4 rfl
                 have c5 := Y2.out.c 5 rfl
                 have c6 := Y2.out.c 6 rfl
                 have c7 := Y2.out.c 7 rfl
                 have f0 := Y2.out.f
                 have c8 := Y3.out.c 0 rfl
                 have f1 := Y3.out.f 0)
    refine ⟨.tuple #[.agg #[.int .u8 0, .int .u8 0, .int .u8 0, .int .u8 0, .int .u8 0, .int .u8 0, .int .u8 0, .int .u8 0], .int .i64 r], by simp [results, Try.f10, go_sem, *], rfl, ?_⟩
    have HG1 : Grew w W1 := HG0.out.trans hg1
    iterate 9 (refine grew_set ?_ (by simp; omega) _)
    exact HG1

end Go.Proofs.Ytbcaagmnmaonbab
