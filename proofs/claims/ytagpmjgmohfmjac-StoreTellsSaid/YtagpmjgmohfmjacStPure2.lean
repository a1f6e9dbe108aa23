/- Stores as plain data: Create, Size, Block; what holds of what they make. Pure: no program. -/
import Derived.Test.YtagpmjgmohfmjacStPure
namespace Go.Proofs.Ytagpmjgmohfmjac

/-- The error, files, count and number that Create answers. -/
def creE (fs : List Fl) (cnt : Int) : Int := if stW fs cnt = 0 then (if fs.length = 5 then 4 else 0) else stW fs cnt
def creF (fs : List Fl) (cnt : Int) : List Fl := if creE fs cnt = 0 then fs ++ [⟨0, []⟩] else []
def creC (fs : List Fl) (cnt : Int) : Int := if creE fs cnt = 0 then cnt else 0
def creI (fs : List Fl) (cnt : Int) : Int := if creE fs cnt = 0 then (fs.length : Int) else 0

def inL (n : Nat) (k : Int) : Bool := decide (0 ≤ k) && decide (k < (n : Int))
def blOf (fs : List Fl) (k : Int) : List Int := match fs[k.toNat]? with | some f => f.bl | none => []
def szOf (fs : List Fl) (k : Int) : Int := match fs[k.toNat]? with | some f => f.size | none => 0

def sizE (fs : List Fl) (cnt k n : Int) : Int := if stW fs cnt = 0 then (if inL fs.length k = true then (if 0 ≤ n ∧ n ≤ 96 then 0 else 3) else 5) else stW fs cnt
def sizF (fs : List Fl) (cnt k n : Int) : List Fl := if sizE fs cnt k n = 0 then fs.set k.toNat ⟨n, sized (blOf fs k) (cntP n).toNat⟩ else []
def sizC (fs : List Fl) (cnt k n : Int) : Int := if sizE fs cnt k n = 0 then cnt else 0

def blkE (fs : List Fl) (cnt k x : Int) : Int := if stW fs cnt = 0 then (if inL fs.length k = true then (if inL (blOf fs k).length x = true then (if (blOf fs k).getD x.toNat 0 = -1 then (if leftL fs cnt = [] then 10 else 0) else 0) else 9) else 5) else stW fs cnt
/-- The block that the page has then. -/
def blkB (fs : List Fl) (cnt k x : Int) : Int := if (blOf fs k).getD x.toNat 0 = -1 then (((leftL fs cnt).headD 0 : Nat) : Int) else (blOf fs k).getD x.toNat 0
def blkI (fs : List Fl) (cnt k x : Int) : Int := if blkE fs cnt k x = 0 then blkB fs cnt k x else 0
def blkF (fs : List Fl) (cnt k x : Int) : List Fl := if blkE fs cnt k x = 0 then fs.set k.toNat ⟨szOf fs k, (blOf fs k).set x.toNat (blkB fs cnt k x)⟩ else []
def blkC (fs : List Fl) (cnt k x : Int) : Int := if blkE fs cnt k x = 0 then cnt else 0

theorem inL_iff {n : Nat} {k : Int} : inL n k = true ↔ 0 ≤ k ∧ k < (n : Int) := by simp [inL]

theorem cre_cases (fs : List Fl) (cnt : Int) :
    (stW fs cnt ≠ 0 ∧ creE fs cnt = stW fs cnt ∧ creF fs cnt = [] ∧ creC fs cnt = 0 ∧ creI fs cnt = 0) ∨
    (stW fs cnt = 0 ∧ fs.length = 5 ∧ creE fs cnt = 4 ∧ creF fs cnt = [] ∧ creC fs cnt = 0 ∧ creI fs cnt = 0) ∨
    (stW fs cnt = 0 ∧ fs.length < 5 ∧ creE fs cnt = 0 ∧ creF fs cnt = fs ++ [⟨0, []⟩] ∧ creC fs cnt = cnt ∧ creI fs cnt = (fs.length : Int)) := by
  have no : ∀ z, creE fs cnt = z → z ≠ 0 → creF fs cnt = [] ∧ creC fs cnt = 0 ∧ creI fs cnt = 0 := fun z h hz => by
    have : ¬ creE fs cnt = 0 := by omega
    exact ⟨if_neg this, if_neg this, if_neg this⟩
  by_cases h1 : stW fs cnt = 0
  · have h5 := ((stW_zero fs cnt).1 h1).1.1
    by_cases h2 : fs.length = 5
    · have h : creE fs cnt = 4 := by unfold creE; rw [if_pos h1, if_pos h2]
      exact .inr (.inl ⟨h1, h2, h, no _ h (by decide)⟩)
    · have h : creE fs cnt = 0 := by unfold creE; rw [if_pos h1, if_neg h2]
      exact .inr (.inr ⟨h1, by omega, h, if_pos h, if_pos h, if_pos h⟩)
  · have h : creE fs cnt = stW fs cnt := by unfold creE; rw [if_neg h1]
    exact .inl ⟨h1, h, no _ h h1⟩

theorem siz_cases (fs : List Fl) (cnt k n : Int) :
    (stW fs cnt ≠ 0 ∧ sizE fs cnt k n = stW fs cnt ∧ sizF fs cnt k n = [] ∧ sizC fs cnt k n = 0) ∨
    (stW fs cnt = 0 ∧ ¬ (0 ≤ k ∧ k < (fs.length : Int)) ∧ sizE fs cnt k n = 5 ∧ sizF fs cnt k n = [] ∧ sizC fs cnt k n = 0) ∨
    (stW fs cnt = 0 ∧ ∃ (i : Nat) (f : Fl), k = (i : Int) ∧ fs[i]? = some f ∧ ¬ (0 ≤ n ∧ n ≤ 96) ∧ sizE fs cnt k n = 3 ∧ sizF fs cnt k n = [] ∧ sizC fs cnt k n = 0) ∨
    (stW fs cnt = 0 ∧ ∃ (i : Nat) (f : Fl), k = (i : Int) ∧ fs[i]? = some f ∧ (0 ≤ n ∧ n ≤ 96) ∧ sizE fs cnt k n = 0 ∧ sizF fs cnt k n = fs.set i ⟨n, sized f.bl (cntP n).toNat⟩ ∧ sizC fs cnt k n = cnt) := by
  have no : ∀ z, sizE fs cnt k n = z → z ≠ 0 → sizF fs cnt k n = [] ∧ sizC fs cnt k n = 0 := fun z h hz => by
    have : ¬ sizE fs cnt k n = 0 := by omega
    exact ⟨if_neg this, if_neg this⟩
  by_cases h1 : stW fs cnt = 0
  · by_cases h2 : 0 ≤ k ∧ k < (fs.length : Int)
    · obtain ⟨i, rfl⟩ : ∃ i : Nat, k = (i : Int) := ⟨k.toNat, by omega⟩
      obtain ⟨f, hf⟩ : ∃ f, fs[i]? = some f := ⟨_, List.getElem?_eq_getElem (by omega)⟩
      have hl : inL fs.length (i : Int) = true := inL_iff.2 h2
      by_cases h3 : 0 ≤ n ∧ n ≤ 96
      · have h : sizE fs cnt i n = 0 := by unfold sizE; rw [if_pos h1, if_pos hl, if_pos h3]
        refine .inr (.inr (.inr ⟨h1, i, f, rfl, hf, h3, h, ?_, if_pos h⟩))
        unfold sizF blOf
        rw [if_pos h, Int.toNat_natCast, hf]
      · have h : sizE fs cnt i n = 3 := by unfold sizE; rw [if_pos h1, if_pos hl, if_neg h3]
        exact .inr (.inr (.inl ⟨h1, i, f, rfl, hf, h3, h, no _ h (by decide)⟩))
    · have h : sizE fs cnt k n = 5 := by unfold sizE; rw [if_pos h1, if_neg (by rw [inL_iff]; exact h2)]
      exact .inr (.inl ⟨h1, h2, h, no _ h (by decide)⟩)
  · have h : sizE fs cnt k n = stW fs cnt := by unfold sizE; rw [if_neg h1]
    exact .inl ⟨h1, h, no _ h h1⟩

theorem blk_cases (fs : List Fl) (cnt k x : Int) :
    (stW fs cnt ≠ 0 ∧ blkE fs cnt k x = stW fs cnt ∧ blkF fs cnt k x = [] ∧ blkC fs cnt k x = 0 ∧ blkI fs cnt k x = 0) ∨
    (stW fs cnt = 0 ∧ ¬ (0 ≤ k ∧ k < (fs.length : Int)) ∧ blkE fs cnt k x = 5 ∧ blkF fs cnt k x = [] ∧ blkC fs cnt k x = 0 ∧ blkI fs cnt k x = 0) ∨
    (stW fs cnt = 0 ∧ ∃ (i : Nat) (f : Fl), k = (i : Int) ∧ fs[i]? = some f ∧ ¬ (0 ≤ x ∧ x < (f.bl.length : Int)) ∧ blkE fs cnt k x = 9 ∧ blkF fs cnt k x = [] ∧ blkC fs cnt k x = 0 ∧ blkI fs cnt k x = 0) ∨
    (stW fs cnt = 0 ∧ ∃ (i : Nat) (f : Fl) (j : Nat) (b : Int), k = (i : Int) ∧ fs[i]? = some f ∧ x = (j : Int) ∧ f.bl[j]? = some b ∧ 0 ≤ b ∧ b < cnt ∧ blkE fs cnt k x = 0 ∧ blkF fs cnt k x = fs ∧ blkC fs cnt k x = cnt ∧ blkI fs cnt k x = b) ∨
    (stW fs cnt = 0 ∧ ∃ (i : Nat) (f : Fl) (j : Nat), k = (i : Int) ∧ fs[i]? = some f ∧ x = (j : Int) ∧ f.bl[j]? = some (-1) ∧ leftL fs cnt = [] ∧ blkE fs cnt k x = 10 ∧ blkF fs cnt k x = [] ∧ blkC fs cnt k x = 0 ∧ blkI fs cnt k x = 0) ∨
    (stW fs cnt = 0 ∧ ∃ (i : Nat) (f : Fl) (j : Nat) (b : Nat) (l : List Nat), k = (i : Int) ∧ fs[i]? = some f ∧ x = (j : Int) ∧ f.bl[j]? = some (-1) ∧ leftL fs cnt = b :: l ∧ blkE fs cnt k x = 0 ∧ blkF fs cnt k x = fs.set i ⟨f.size, f.bl.set j (b : Int)⟩ ∧ blkC fs cnt k x = cnt ∧ blkI fs cnt k x = (b : Int)) := by
  have no : ∀ z, blkE fs cnt k x = z → z ≠ 0 → blkF fs cnt k x = [] ∧ blkC fs cnt k x = 0 ∧ blkI fs cnt k x = 0 := fun z h hz => by
    have : ¬ blkE fs cnt k x = 0 := by omega
    exact ⟨if_neg this, if_neg this, if_neg this⟩
  by_cases h1 : stW fs cnt = 0
  · by_cases h2 : 0 ≤ k ∧ k < (fs.length : Int)
    · obtain ⟨i, rfl⟩ : ∃ i : Nat, k = (i : Int) := ⟨k.toNat, by omega⟩
      obtain ⟨f, hf⟩ : ∃ f, fs[i]? = some f := ⟨_, List.getElem?_eq_getElem (by omega)⟩
      have hl : inL fs.length (i : Int) = true := inL_iff.2 h2
      have hb : blOf fs (i : Int) = f.bl := by unfold blOf; rw [Int.toNat_natCast, hf]
      have hs : szOf fs (i : Int) = f.size := by unfold szOf; rw [Int.toNat_natCast, hf]
      by_cases h3 : 0 ≤ x ∧ x < (f.bl.length : Int)
      · obtain ⟨j, rfl⟩ : ∃ j : Nat, x = (j : Int) := ⟨x.toNat, by omega⟩
        obtain ⟨b, hj⟩ : ∃ b, f.bl[j]? = some b := ⟨_, List.getElem?_eq_getElem (by omega)⟩
        have hl2 : inL f.bl.length (j : Int) = true := inL_iff.2 h3
        have hd : f.bl.getD (j : Int).toNat 0 = b := by rw [Int.toNat_natCast, List.getD_eq_getElem?_getD, hj]; rfl
        by_cases h4 : b = -1
        · subst h4
          cases h5 : leftL fs cnt with
          | nil =>
            have h : blkE fs cnt i j = 10 := by unfold blkE; rw [if_pos h1, if_pos hl, hb, if_pos hl2, hd, if_pos rfl, if_pos h5]
            exact .inr (.inr (.inr (.inr (.inl ⟨h1, i, f, j, rfl, hf, rfl, hj, rfl, h, no _ h (by decide)⟩))))
          | cons b l =>
            have h : blkE fs cnt i j = 0 := by unfold blkE; rw [if_pos h1, if_pos hl, hb, if_pos hl2, hd, if_pos rfl, if_neg (by rw [h5]; simp)]
            have hB : blkB fs cnt i j = (b : Int) := by unfold blkB; rw [hb, hd, if_pos rfl, h5]; rfl
            refine .inr (.inr (.inr (.inr (.inr ⟨h1, i, f, j, b, l, rfl, hf, rfl, hj, rfl, h, ?_, if_pos h, ?_⟩))))
            · unfold blkF
              rw [if_pos h, hB, hb, hs, Int.toNat_natCast, Int.toNat_natCast]
            · unfold blkI
              rw [if_pos h, hB]
        · have h : blkE fs cnt i j = 0 := by unfold blkE; rw [if_pos h1, if_pos hl, hb, if_pos hl2, hd, if_neg h4]
          have hB : blkB fs cnt i j = b := by unfold blkB; rw [hb, hd, if_neg h4]
          have hr := (((stW_zero fs cnt).1 h1).2.1 f (List.mem_of_getElem? hf)).2.2 b (List.mem_of_getElem? hj)
          refine .inr (.inr (.inr (.inl ⟨h1, i, f, j, b, rfl, hf, rfl, hj, by omega, by omega, h, ?_, if_pos h, ?_⟩)))
          · unfold blkF
            rw [if_pos h, hB, hb, hs, Int.toNat_natCast, Int.toNat_natCast]
            have e1 : f.bl.set j b = f.bl := by
              obtain ⟨hh, rfl⟩ := List.getElem?_eq_some_iff.1 hj
              exact List.set_getElem_self hh
            rw [e1]
            obtain ⟨hh, rfl⟩ := List.getElem?_eq_some_iff.1 hf
            exact List.set_getElem_self hh
          · unfold blkI
            rw [if_pos h, hB]
      · have h : blkE fs cnt i x = 9 := by unfold blkE; rw [if_pos h1, if_pos hl, hb, if_neg (by rw [inL_iff]; exact h3)]
        exact .inr (.inr (.inl ⟨h1, i, f, rfl, hf, h3, h, no _ h (by decide)⟩))
    · have h : blkE fs cnt k x = 5 := by unfold blkE; rw [if_pos h1, if_neg (by rw [inL_iff]; exact h2)]
      exact .inr (.inl ⟨h1, h2, h, no _ h (by decide)⟩)
  · have h : blkE fs cnt k x = stW fs cnt := by unfold blkE; rw [if_neg h1]
    exact .inl ⟨h1, h, no _ h h1⟩

theorem allB_mid (f : Fl) : ∀ (fs : List Fl) (i : Nat) (f0 : Fl), fs[i]? = some f0 → allB (fs.set i f) = allB (fs.take i) ++ (f.bl ++ allB (fs.drop (i + 1))) ∧ allB fs = allB (fs.take i) ++ (f0.bl ++ allB (fs.drop (i + 1)))
  | [], i, f0, h => by simp at h
  | a :: l, 0, f0, h => by
    simp at h
    subst h
    simp [allB]
  | a :: l, i + 1, f0, h => by
    obtain ⟨h1, h2⟩ := allB_mid f l i f0 (by simpa using h)
    unfold allB at h1 h2 ⊢
    simp only [List.set_cons_succ, List.flatMap_cons, List.take_succ_cons, List.drop_succ_cons, List.append_assoc]
    rw [h1, ← h2]
    exact ⟨rfl, rfl⟩

theorem allB_sub (fs : List Fl) (i : Nat) (f f0 : Fl) (hf : fs[i]? = some f0) : allB fs = allB (fs.take i) ++ (f0.bl ++ allB (fs.drop (i + 1))) := (allB_mid f fs i f0 hf).2

theorem left_mem {fs : List Fl} {cnt : Int} {b : Nat} (h : b ∈ leftL fs cnt) : (b : Int) < cnt ∧ (b : Int) ∉ allB fs := by
  unfold leftL at h
  obtain ⟨h1, h2⟩ := List.mem_filter.1 h
  have := List.mem_range.1 h1
  refine ⟨by omega, fun h => ?_⟩
  rw [(used_iff fs _).2 h] at h2
  cases h2

theorem mid_set {A C l : List Int} {j : Nat} {b : Int} (hj : l[j]? = some (-1)) : ∀ x, x ≠ -1 → (x ∈ A ++ (l.set j b ++ C) ↔ (x ∈ A ++ (l ++ C) ∨ x = b)) := fun x hx => by
  have hlt := (List.getElem?_eq_some_iff.1 hj).1
  have : x ∈ l.set j b ↔ x ∈ l ∨ x = b := by
    constructor
    · intro h
      exact (List.mem_or_eq_of_mem_set h)
    · rintro (h | rfl)
      · obtain ⟨i, hi⟩ := List.getElem?_of_mem h
        by_cases e : i = j
        · subst e; rw [hj] at hi; cases hi; exact absurd rfl hx
        · exact List.mem_of_getElem? (i := i) (by rw [List.getElem?_set_ne (fun h => e h.symm)]; exact hi)
      · exact List.mem_of_getElem? (i := j) (by rw [List.getElem?_set_self hlt])
  simp only [List.mem_append, this]
  constructor
  · rintro (h | (h | h) | h) <;> simp [h]
  · rintro ((h | h | h) | h) <;> simp [h]

theorem real_split {l : List Int} {j : Nat} (b : Int) (hb : b ≠ -1) (hj : l[j]? = some (-1)) : real (l.set j b) = real (l.take j) ++ (b :: real (l.drop (j + 1))) ∧ real l = real (l.take j) ++ real (l.drop (j + 1)) := by
  obtain ⟨hlt, he⟩ := List.getElem?_eq_some_iff.1 hj
  have e1 : l.set j b = l.take j ++ b :: l.drop (j + 1) := List.set_eq_take_append_cons_drop.trans (if_pos hlt)
  have e2 : l = l.take j ++ (-1) :: l.drop (j + 1) := by
    rw [← he, List.getElem_cons_drop, List.take_append_drop]
  unfold real
  constructor
  · rw [e1, List.filter_append, List.filter_cons_of_pos (by simpa using hb)]
  · conv => lhs; rw [e2]
    rw [List.filter_append, List.filter_cons_of_neg (by simp)]

theorem nodup_mid {A B C : List Int} {b : Int} (h : (A ++ (B ++ C)).Nodup) (h1 : b ∉ A) (h2 : b ∉ B ++ C) : (A ++ ((B ++ (b :: C)))).Nodup := by
  rw [List.nodup_append] at h ⊢
  obtain ⟨k1, k2, k3⟩ := h
  have k2' := k2
  rw [List.nodup_append] at k2
  obtain ⟨m1, m2, m3⟩ := k2
  have hB : b ∉ B := fun h => h2 (List.mem_append.2 (.inl h))
  have hC : b ∉ C := fun h => h2 (List.mem_append.2 (.inr h))
  refine ⟨k1, ?_, fun x hx y hy => ?_⟩
  · rw [List.nodup_append]
    refine ⟨m1, List.nodup_cons.2 ⟨hC, m2⟩, fun x hx y hy => ?_⟩
    rcases List.mem_cons.1 hy with rfl | hy
    · exact fun e => hB (e ▸ hx)
    · exact m3 x hx y hy
  · rcases List.mem_append.1 hy with hy | hy
    · exact k3 x hx y (List.mem_append.2 (.inl hy))
    · rcases List.mem_cons.1 hy with rfl | hy
      · exact fun e => h1 (e ▸ hx)
      · exact k3 x hx y (List.mem_append.2 (.inr hy))

/-- A block that is given: the store is right, and one block less is left. -/
theorem give_right {fs : List Fl} {cnt : Int} {i j b : Nat} {f : Fl} (h : stW fs cnt = 0) (hf : fs[i]? = some f) (hj : f.bl[j]? = some (-1)) (hb : b ∈ leftL fs cnt) :
    stW (fs.set i ⟨f.size, f.bl.set j (b : Int)⟩) cnt = 0 ∧ (leftL (fs.set i ⟨f.size, f.bl.set j (b : Int)⟩) cnt).length + 1 = (leftL fs cnt).length := by
  obtain ⟨hb1, hb2⟩ := left_mem hb
  obtain ⟨⟨h1, h2, h3⟩, h4, h5⟩ := (stW_zero fs cnt).1 h
  obtain ⟨e1, e2⟩ := allB_mid ⟨f.size, f.bl.set j (b : Int)⟩ fs i f hf
  have hbn : (b : Int) ≠ -1 := by omega
  constructor
  · refine (stW_zero _ _).2 ⟨⟨by rw [List.length_set]; exact h1, h2, h3⟩, fun f' hf' => ?_, ?_⟩
    · rcases List.mem_or_eq_of_mem_set hf' with hf' | rfl
      · exact h4 f' hf'
      · obtain ⟨k1, k2, k3⟩ := h4 f (List.mem_of_getElem? hf)
        refine ⟨k1, by simp only [List.length_set]; exact k2, fun c hc => ?_⟩
        rcases List.mem_or_eq_of_mem_set hc with hc | rfl
        · exact k3 c hc
        · exact .inr ⟨by omega, hb1⟩
    · obtain ⟨r1, r2⟩ := real_split (b : Int) hbn hj
      have hr : ∀ A B : List Int, real (A ++ B) = real A ++ real B := fun A B => List.filter_append ..
      rw [e1, hr, hr, r1, List.append_assoc]
      rw [e2, hr, hr, r2, List.append_assoc] at h5
      rw [e2] at hb2
      have hm : ∀ L : List Int, (b : Int) ∉ L → (b : Int) ∉ real L := fun L h h' => h (List.mem_filter.1 h').1
      have hb3 : (b : Int) ∉ real (f.bl.take j) ++ (real (f.bl.drop (j + 1)) ++ real (allB (fs.drop (i + 1)))) := by
        intro h
        refine hm _ (fun h => hb2 (List.mem_append.2 (.inr h))) (?_ : (b : Int) ∈ real (f.bl ++ allB (fs.drop (i + 1))))
        rw [hr, r2, List.append_assoc]
        exact h
      exact nodup_mid h5 (hm _ (fun h => hb2 (List.mem_append.2 (.inl h)))) hb3
  · have hu : ∀ c : Nat, usedB (fs.set i ⟨f.size, f.bl.set j (b : Int)⟩) (c : Int) = (usedB fs (c : Int) || decide (c = b)) := fun c => by
      rw [Bool.eq_iff_iff, Bool.or_eq_true, used_iff, used_iff, e1, e2, mid_set hj _ (by omega), decide_eq_true_eq, Int.ofNat_inj]
    have hl : leftL (fs.set i ⟨f.size, f.bl.set j (b : Int)⟩) cnt = (leftL fs cnt).erase b := by
      have nd : (leftL fs cnt).Nodup := List.Nodup.sublist List.filter_sublist List.nodup_range
      rw [List.Nodup.erase_eq_filter nd]
      unfold leftL
      rw [List.filter_filter]
      congr 1
      funext c
      rw [hu c]
      by_cases hc : c = b <;> simp [hc]
    rw [hl, List.length_erase_of_mem hb]
    have := List.length_pos_of_mem hb
    omega

theorem sized_get {l : List Int} {n i : Nat} {b : Int} (h : (sized l n)[i]? = some b) : i < n ∧ (i < l.length → l[i]? = some b) ∧ (l.length ≤ i → b = -1) := by
  unfold sized at h
  have hl := (List.getElem?_eq_some_iff.1 h).1
  simp at hl
  rw [List.getElem?_append] at h
  simp only [List.length_take, List.getElem?_take, List.getElem?_replicate] at h
  split at h
  · rename_i h1
    rw [if_pos (by omega)] at h
    exact ⟨by omega, fun _ => h, fun _ => by omega⟩
  · rename_i h1
    split at h
    · cases h
      exact ⟨by omega, fun _ => by omega, fun _ => rfl⟩
    · cases h

theorem sized_len (l : List Int) (n : Nat) : (sized l n).length = n := by
  unfold sized
  simp
  omega

theorem real_sized (l : List Int) (n : Nat) : (real (sized l n)) = real (l.take n) := by
  unfold sized real
  rw [List.filter_append]
  have : (List.replicate (n - l.length) (-1 : Int)).filter (fun x => decide (x ≠ -1)) = [] := by
    rw [List.filter_eq_nil_iff]
    intro a ha
    rw [List.eq_of_mem_replicate ha]
    simp
  rw [this, List.append_nil]

/-- A file that is made longer, or cut: the store is right. -/
theorem size_right {fs : List Fl} {cnt n : Int} {i : Nat} {f : Fl} (h : stW fs cnt = 0) (hf : fs[i]? = some f) (h0 : 0 ≤ n) (h1 : n ≤ 96) :
    stW (fs.set i ⟨n, sized f.bl (cntP n).toNat⟩) cnt = 0 := by
  obtain ⟨⟨k1, k2, k3⟩, k4, k5⟩ := (stW_zero fs cnt).1 h
  obtain ⟨e1, e2⟩ := allB_mid ⟨n, sized f.bl (cntP n).toNat⟩ fs i f hf
  have hc := cntP_nat h0 h1
  refine (stW_zero _ _).2 ⟨⟨by rw [List.length_set]; exact k1, k2, k3⟩, fun f' hf' => ?_, ?_⟩
  · rcases List.mem_or_eq_of_mem_set hf' with hf' | rfl
    · exact k4 f' hf'
    · refine ⟨⟨h0, h1⟩, by simp only [sized_len]; omega, fun b hb => ?_⟩
      obtain ⟨j, hj⟩ := List.getElem?_of_mem hb
      obtain ⟨_, q2, q3⟩ := sized_get hj
      rcases Nat.lt_or_ge j f.bl.length with hlt | hge
      · exact (k4 f (List.mem_of_getElem? hf)).2.2 b (List.mem_of_getElem? (q2 hlt))
      · exact .inl (q3 hge)
  · have hr : ∀ A B : List Int, real (A ++ B) = real A ++ real B := fun A B => List.filter_append ..
    rw [e1, hr, hr, real_sized]
    rw [e2, hr, hr] at k5
    refine List.Nodup.sublist ?_ k5
    exact List.Sublist.append (List.Sublist.refl _) (List.Sublist.append (List.Sublist.filter _ (List.take_sublist _ _)) (List.Sublist.refl _))

end Go.Proofs.Ytagpmjgmohfmjac
