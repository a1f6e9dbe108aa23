/- Stores as plain data: what is wrong with them, what is left, and what the calls make of them. Pure: no program. -/
namespace Go.Proofs.Ytagpmjgmohfmjac

/-- A file: its size, and the blocks of its pages. -/
structure Fl where
  size : Int
  bl : List Int

/-- How many pages n bytes take. -/
def cntP (n : Int) : Int := if n < 1 then 0 else (n - 1) / 8 + 1

def giveE (cnt : Int) (g : List Int) (b : Int) : Int := if b = -1 then 0 else if 0 ≤ b ∧ b < cnt then (if g.contains b then 7 else 0) else 3
def giveG (g : List Int) (b : Int) : List Int := if b = -1 then g else b :: g
def blW (cnt : Int) : List Int → List Int → Int
  | _, [] => 0
  | g, b :: l => if giveE cnt g b = 0 then blW cnt (giveG g b) l else giveE cnt g b
def blG (g : List Int) (l : List Int) : List Int := l.foldl giveG g
def flW (cnt : Int) (g : List Int) (f : Fl) : Int := if 0 ≤ f.size ∧ f.size ≤ 96 then (if (f.bl.length : Int) = cntP f.size then blW cnt g f.bl else 2) else 3
def flsW (cnt : Int) : List Int → List Fl → Int
  | _, [] => 0
  | g, f :: l => if flW cnt g f = 0 then flsW cnt (blG g f.bl) l else flW cnt g f
def stW (fs : List Fl) (cnt : Int) : Int := if fs.length ≤ 5 ∧ 0 ≤ cnt ∧ cnt ≤ 80 then flsW cnt [] fs else 4

/-- Is block b some page's? -/
def usedB (fs : List Fl) (b : Int) : Bool := fs.any fun f => f.bl.contains b
/-- The blocks that no page has. -/
def leftL (fs : List Fl) (cnt : Int) : List Nat := (List.range cnt.toNat).filter fun b => !usedB fs (b : Int)
/-- n blocks: those of l first, none behind them. -/
def sized (l : List Int) (n : Nat) : List Int := l.take n ++ List.replicate (n - l.length) (-1)

theorem cntP_nat {n : Int} (h0 : 0 ≤ n) (h1 : n ≤ 96) : 0 ≤ cntP n ∧ cntP n ≤ 12 := by
  unfold cntP
  split <;> omega

theorem giveE_cases (cnt : Int) (g : List Int) (b : Int) :
    (b = -1 ∧ giveE cnt g b = 0 ∧ giveG g b = g) ∨
    (b ≠ -1 ∧ ¬ (0 ≤ b ∧ b < cnt) ∧ giveE cnt g b = 3) ∨
    (∃ i : Nat, b = (i : Int) ∧ b < cnt ∧ g.contains b = true ∧ giveE cnt g b = 7) ∨
    (∃ i : Nat, b = (i : Int) ∧ b < cnt ∧ g.contains b = false ∧ giveE cnt g b = 0 ∧ giveG g b = b :: g) := by
  by_cases h1 : b = -1
  · exact .inl ⟨h1, by unfold giveE; rw [if_pos h1], by unfold giveG; rw [if_pos h1]⟩
  · by_cases h2 : 0 ≤ b ∧ b < cnt
    · obtain ⟨i, hi⟩ : ∃ i : Nat, b = (i : Int) := ⟨b.toNat, by omega⟩
      cases h3 : g.contains b with
      | true => exact .inr (.inr (.inl ⟨i, hi, h2.2, rfl, by unfold giveE; rw [if_neg h1, if_pos h2, if_pos h3]⟩))
      | false => exact .inr (.inr (.inr ⟨i, hi, h2.2, rfl, by unfold giveE; rw [if_neg h1, if_pos h2, if_neg (by rw [h3]; decide)], by unfold giveG; rw [if_neg h1]⟩))
    · exact .inr (.inl ⟨h1, h2, by unfold giveE; rw [if_neg h1, if_neg h2]⟩)

theorem giveE_range (cnt : Int) (g : List Int) (b : Int) : giveE cnt g b = 0 ∨ giveE cnt g b = 3 ∨ giveE cnt g b = 7 := by
  rcases giveE_cases cnt g b with ⟨_, h, _⟩ | ⟨_, _, h⟩ | ⟨_, _, _, _, h⟩ | ⟨_, _, _, _, h, _⟩ <;> omega

theorem blW_range (cnt : Int) : ∀ (l g : List Int), blW cnt g l = 0 ∨ blW cnt g l = 3 ∨ blW cnt g l = 7
  | [], g => .inl rfl
  | b :: l, g => by
    unfold blW
    split
    · exact blW_range cnt l _
    · exact giveE_range cnt g b

theorem flW_range (cnt : Int) (g : List Int) (f : Fl) : 0 ≤ flW cnt g f ∧ flW cnt g f ≤ 7 := by
  have := blW_range cnt f.bl g
  unfold flW
  split
  · split <;> omega
  · omega

theorem flsW_range (cnt : Int) : ∀ (l : List Fl) (g : List Int), 0 ≤ flsW cnt g l ∧ flsW cnt g l ≤ 7
  | [], g => by simp [flsW]
  | f :: l, g => by
    unfold flsW
    split
    · exact flsW_range cnt l _
    · exact flW_range cnt g f

theorem stW_range (fs : List Fl) (cnt : Int) : 0 ≤ stW fs cnt ∧ stW fs cnt ≤ 7 := by
  unfold stW
  split
  · exact flsW_range cnt fs []
  · omega

/-- Blocks that some page has. -/
def real (l : List Int) : List Int := l.filter (· ≠ -1)

theorem mem_blG (b : Int) (hb : b ≠ -1) : ∀ (l g : List Int), b ∈ blG g l ↔ b ∈ g ∨ b ∈ l
  | [], g => by simp [blG]
  | c :: l, g => by
    have ih := mem_blG b hb l (giveG g c)
    unfold blG at ih ⊢
    rw [List.foldl_cons, ih]
    unfold giveG
    split
    · rename_i h
      simp
      constructor
      · rintro (h | h) <;> simp [h]
      · rintro (h1 | h1 | h1)
        · exact .inl h1
        · exact absurd (h1.trans h) hb
        · exact .inr h1
    · simp
      constructor
      · rintro ((h | h) | h) <;> simp [h]
      · rintro (h | h | h) <;> simp [h]

/-- What blW = 0 says. -/
theorem blW_zero (cnt : Int) : ∀ (l g : List Int), blW cnt g l = 0 ↔ (∀ b ∈ l, b = -1 ∨ (0 ≤ b ∧ b < cnt)) ∧ (∀ b ∈ l, b ≠ -1 → b ∉ g) ∧ (real l).Nodup
  | [], g => by simp [blW, real]
  | b :: l, g => by
    unfold blW
    rcases giveE_cases cnt g b with ⟨h1, h2, h3⟩ | ⟨h1, h2, h3⟩ | ⟨i, h1, h2, h3, h4⟩ | ⟨i, h1, h2, h3, h4, h5⟩
    · rw [if_pos h2, h3, blW_zero cnt l g]
      subst h1
      simp [real]
    · rw [if_neg (by omega), h3]
      constructor
      · intro h; omega
      · rintro ⟨h, _⟩
        rcases h b (by simp) with h | h
        · exact absurd h h1
        · exact absurd h h2
    · rw [if_neg (by omega), h4]
      constructor
      · intro h; omega
      · rintro ⟨_, h, _⟩
        exact absurd (by simpa using h3) (h b (by simp) (by omega))
    · rw [if_pos h4, h5, blW_zero cnt l (b :: g)]
      have hb : b ≠ -1 := by omega
      have hg : b ∉ g := by simpa using h3
      constructor
      · rintro ⟨k1, k2, k3⟩
        refine ⟨fun c hc => ?_, fun c hc h => ?_, ?_⟩
        · rcases List.mem_cons.1 hc with rfl | hc
          · exact .inr ⟨by omega, h2⟩
          · exact k1 c hc
        · rcases List.mem_cons.1 hc with rfl | hc
          · exact hg
          · exact fun h' => k2 c hc h (by simp [h'])
        · unfold real
          rw [List.filter_cons_of_pos (by simpa using hb)]
          refine List.nodup_cons.2 ⟨fun h => ?_, k3⟩
          obtain ⟨h', _⟩ := List.mem_filter.1 h
          exact k2 b h' hb (by simp)
      · rintro ⟨k1, k2, k3⟩
        unfold real at k3
        rw [List.filter_cons_of_pos (by simpa using hb)] at k3
        obtain ⟨k4, k5⟩ := List.nodup_cons.1 k3
        refine ⟨fun c hc => k1 c (by simp [hc]), fun c hc h h' => ?_, k5⟩
        rcases List.mem_cons.1 h' with rfl | h'
        · exact k4 (List.mem_filter.2 ⟨hc, by simpa using hb⟩)
        · exact k2 c (by simp [hc]) h h'

/-- What flsW = 0 says. -/
def FlOk (cnt : Int) (f : Fl) : Prop := (0 ≤ f.size ∧ f.size ≤ 96) ∧ (f.bl.length : Int) = cntP f.size ∧ ∀ b ∈ f.bl, b = -1 ∨ (0 ≤ b ∧ b < cnt)
def allB (fs : List Fl) : List Int := fs.flatMap fun f => f.bl

theorem flW_zero (cnt : Int) (g : List Int) (f : Fl) : flW cnt g f = 0 ↔ FlOk cnt f ∧ (∀ b ∈ f.bl, b ≠ -1 → b ∉ g) ∧ (real f.bl).Nodup := by
  unfold flW FlOk
  constructor
  · intro h
    split at h
    · rename_i h1
      split at h
      · rename_i h2
        have := (blW_zero cnt f.bl g).1 h
        exact ⟨⟨h1, h2, this.1⟩, this.2⟩
      · omega
    · omega
  · rintro ⟨⟨h1, h2, h3⟩, h4⟩
    rw [if_pos h1, if_pos h2]
    exact (blW_zero cnt f.bl g).2 ⟨h3, h4⟩

theorem flsW_zero (cnt : Int) : ∀ (fs : List Fl) (g : List Int), flsW cnt g fs = 0 ↔ (∀ f ∈ fs, FlOk cnt f) ∧ (∀ b ∈ allB fs, b ≠ -1 → b ∉ g) ∧ (real (allB fs)).Nodup
  | [], g => by simp [flsW, allB, real]
  | f :: l, g => by
    unfold flsW
    have key : (flW cnt g f = 0 ∧ flsW cnt (blG g f.bl) l = 0) ↔ (∀ f' ∈ f :: l, FlOk cnt f') ∧ (∀ b ∈ allB (f :: l), b ≠ -1 → b ∉ g) ∧ (real (allB (f :: l))).Nodup := by
      rw [flW_zero, flsW_zero cnt l]
      unfold allB real
      rw [List.flatMap_cons, List.filter_append, List.nodup_append]
      constructor
      · rintro ⟨⟨h1, h2, h3⟩, h4, h5, h6⟩
        refine ⟨fun f' hf => ?_, fun b hb hb1 => ?_, h3, h6, fun a ha b hb => ?_⟩
        · rcases List.mem_cons.1 hf with rfl | hf
          · exact h1
          · exact h4 f' hf
        · rcases List.mem_append.1 hb with hb | hb
          · exact h2 b hb hb1
          · exact fun h => h5 b hb hb1 ((mem_blG b hb1 _ _).2 (.inl h))
        · rintro rfl
          obtain ⟨ha1, ha2⟩ := List.mem_filter.1 ha
          obtain ⟨hb1, _⟩ := List.mem_filter.1 hb
          have hn : a ≠ -1 := by simpa using ha2
          exact h5 a hb1 hn ((mem_blG a hn _ _).2 (.inr ha1))
      · rintro ⟨h1, h2, h3, h4, h5⟩
        refine ⟨⟨h1 f (by simp), fun b hb => h2 b (List.mem_append.2 (.inl hb)), h3⟩, fun f' hf => h1 f' (by simp [hf]), fun b hb hb1 h => ?_, h4⟩
        rcases (mem_blG b hb1 _ _).1 h with h | h
        · exact h2 b (List.mem_append.2 (.inr hb)) hb1 h
        · exact h5 b (List.mem_filter.2 ⟨h, by simpa using hb1⟩) b (List.mem_filter.2 ⟨hb, by simpa using hb1⟩) rfl
    split
    · rename_i h
      rw [← key]
      exact ⟨fun h' => ⟨h, h'⟩, fun h' => h'.2⟩
    · rename_i h
      rw [← key]
      exact ⟨fun h' => absurd h' h, fun h' => absurd h'.1 h⟩

theorem stW_zero (fs : List Fl) (cnt : Int) : stW fs cnt = 0 ↔ (fs.length ≤ 5 ∧ 0 ≤ cnt ∧ cnt ≤ 80) ∧ (∀ f ∈ fs, FlOk cnt f) ∧ (real (allB fs)).Nodup := by
  unfold stW
  split
  · rename_i h
    rw [flsW_zero]
    simp [h]
  · rename_i h
    simp [h]

theorem used_iff (fs : List Fl) (b : Int) : usedB fs b = true ↔ b ∈ allB fs := by
  simp [usedB, allB]

end Go.Proofs.Ytagpmjgmohfmjac
