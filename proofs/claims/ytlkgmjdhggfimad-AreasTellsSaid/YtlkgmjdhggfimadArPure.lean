/- Areas as plain data: what is wrong with them, what they are page by page, and which areas pages make. -/
namespace Go.Proofs.Ytlkgmjdhggfimad

structure Ar where
  fr : Int
  to : Int
  rd : Bool
  wr : Bool
  sh : Bool
  file : Int
  base : Int

structure On where
  is : Bool
  rd : Bool
  wr : Bool
  sh : Bool
  file : Int
  page : Int

def on0 : On := ⟨false, false, false, false, 0, 0⟩
def ar0 : Ar := ⟨0, 0, false, false, false, 0, 0⟩

/-- A right area. -/
def ArOk (a : Ar) : Prop := 0 ≤ a.fr ∧ a.fr < a.to ∧ a.to ≤ 64 ∧ -1 ≤ a.file ∧ a.file < 5 ∧ 0 ≤ a.base ∧ (a.file < 0 → a.base = 0 ∧ a.sh = false) ∧ (0 ≤ a.file → a.base ≤ 12 - (a.to - a.fr))

/-- What is wrong with an area. -/
def arW (a : Ar) : Int :=
  if a.fr < 0 ∨ a.to ≤ a.fr ∨ 64 < a.to ∨ a.file < -1 ∨ 5 ≤ a.file ∨ a.base < 0 then 3
  else if a.file < 0 then (if a.base ≠ 0 ∨ a.sh = true then 7 else 0)
  else if 12 - (a.to - a.fr) < a.base then 7 else 0

theorem arW_zero {a : Ar} : arW a = 0 ↔ ArOk a := by
  unfold arW ArOk
  obtain ⟨fr, to, rd, wr, sh, file, base⟩ := a
  simp only
  constructor
  · intro h
    (repeat' split at h) <;> first | omega | skip
    · rename_i h1 h2 h3
      cases sh
      · simp at h3 ⊢
        omega
      · simp at h3
  · intro ⟨h1, h2, h3, h4, h5, h6, h7, h8⟩
    rw [if_neg (by omega)]
    by_cases h9 : file < 0
    · rw [if_pos h9, if_neg (by rintro (h | h); exact h (h7 h9).1; rw [(h7 h9).2] at h; cases h)]
    · rw [if_neg h9, if_neg (by omega)]
theorem arW_cases (a : Ar) : arW a = 0 ∨ arW a = 3 ∨ arW a = 7 := by
  unfold arW
  (repeat' split) <;> simp

/-- One goes on with another one. -/
def goB (a b : Ar) : Bool := decide (a.fr = b.to) && (a.rd == b.rd) && (a.wr == b.wr) && (a.sh == b.sh) && decide (a.file = b.file) && decide (a.base = if 0 ≤ b.file then b.base + (b.to - b.fr) else b.base)
theorem goB_iff {a b : Ar} : goB a b = true ↔ a.fr = b.to ∧ a.rd = b.rd ∧ a.wr = b.wr ∧ a.sh = b.sh ∧ a.file = b.file ∧ a.base = if 0 ≤ b.file then b.base + (b.to - b.fr) else b.base := by
  simp [goB, and_assoc]

def Link (b a : Ar) : Prop := b.to ≤ a.fr ∧ goB a b = false

/-- Areas with which nothing is wrong, behind one (but for how many they are). -/
def CanP : Option Ar → List Ar → Prop
  | _, [] => True
  | p, a :: l => ArOk a ∧ (∀ b, p = some b → Link b a) ∧ CanP (some a) l

def inB (a : Ar) (n : Nat) : Bool := decide (a.fr ≤ (n : Int)) && decide ((n : Int) < a.to)
theorem inB_iff {a : Ar} {n : Nat} : inB a n = true ↔ a.fr ≤ (n : Int) ∧ (n : Int) < a.to := by simp [inB]
theorem inB_no {a : Ar} {n : Nat} (h : ¬ (a.fr ≤ (n : Int) ∧ (n : Int) < a.to)) : inB a n = false := by
  cases hb : inB a n with
  | false => rfl
  | true => exact absurd (inB_iff.1 hb) h

/-- One page of an area. -/
def oneOf (a : Ar) (n : Nat) : On := ⟨true, a.rd, a.wr, a.sh, a.file, if 0 ≤ a.file then a.base + ((n : Int) - a.fr) else 0⟩

/-- Areas, page by page. -/
def onAt : List Ar → Nat → On
  | [], _ => on0
  | a :: l, n => if inB a n = true then oneOf a n else onAt l n

/-- A page, as an area. -/
def arOf (n : Nat) (x : On) : Ar := if x.is = true then ⟨n, n + 1, x.rd, x.wr, x.sh, x.file, x.page⟩ else ar0

theorem CanP.low : ∀ {l : List Ar} {p : Option Ar} {a : Ar} {n : Nat}, CanP p l → p = some a → (n : Int) < a.to → onAt l n = on0
  | [], _, _, _, _, _, _ => rfl
  | b :: l, p, a, n, h, hp, hn => by
    have h1 := h.2.1 a hp
    have h2 := h.1
    unfold Link at h1
    unfold ArOk at h2
    unfold onAt
    rw [if_neg (by rw [inB_iff]; omega)]
    exact h.2.2.low rfl (by omega)
theorem CanP.head {l : List Ar} {p : Option Ar} {a : Ar} {n : Nat} (h : CanP p (a :: l)) (hn : (n : Int) < a.fr) : onAt (a :: l) n = on0 := by
  have h2 := h.1
  unfold ArOk at h2
  unfold onAt
  rw [if_neg (by rw [inB_iff]; omega)]
  exact h.2.2.low rfl (by omega)
theorem onAt_in {a : Ar} {l : List Ar} {n : Nat} (h : a.fr ≤ (n : Int)) (h' : (n : Int) < a.to) : onAt (a :: l) n = oneOf a n := by
  unfold onAt
  rw [if_pos (by rw [inB_iff]; omega)]
theorem onAt_out {a : Ar} {l : List Ar} {n : Nat} (h : (n : Int) < a.fr ∨ a.to ≤ (n : Int)) : onAt (a :: l) n = onAt l n := by
  rw [onAt, if_neg (by rw [inB_iff]; omega)]

theorem on0_is : on0.is = false := rfl
theorem oneOf_is (a : Ar) (n : Nat) : (oneOf a n).is = true := rfl
theorem on_ne {a : Ar} {n : Nat} (h : oneOf a n = on0) : False := by
  have := congrArg On.is h
  simp [on0, oneOf] at this

/-- One that is seen at once behind another one begins there. -/
theorem CanP.next {l : List Ar} {a b : Ar} {n : Nat} (h : CanP (some a) l) (hn : (n : Int) = a.to) (hb : onAt l n = oneOf b n) : ∃ c m, l = c :: m ∧ c.fr = (n : Int) ∧ oneOf c n = oneOf b n ∧ Link a c := by
  cases l with
  | nil => exact (on_ne hb.symm).elim
  | cons c m =>
    have h1 := h.2.1 a rfl
    have h3 := h.1
    unfold ArOk at h3
    by_cases h2 : (n : Int) < c.fr
    · rw [h.head h2] at hb
      exact (on_ne hb.symm).elim
    · have : c.fr = (n : Int) := by unfold Link at h1; omega
      rw [onAt_in (by omega) (by omega)] at hb
      exact ⟨c, m, rfl, this, hb, h1⟩

theorem oneOf_eq {a b : Ar} {n : Nat} (h : oneOf a n = oneOf b n) : a.rd = b.rd ∧ a.wr = b.wr ∧ a.sh = b.sh ∧ a.file = b.file ∧ (0 ≤ a.file → a.base + ((n : Int) - a.fr) = b.base + ((n : Int) - b.fr)) := by
  unfold oneOf at h
  simp only [On.mk.injEq, true_and] at h
  obtain ⟨h1, h2, h3, h4, h5⟩ := h
  refine ⟨h1, h2, h3, h4, fun h6 => ?_⟩
  rw [if_pos h6, if_pos (by omega)] at h5
  exact h5

theorem ext_to {p : Option Ar} {l m : List Ar} {a b : Ar} (ha : CanP p (a :: l)) (hb : CanP p (b :: m)) (he : ∀ n : Nat, n < 64 → onAt (a :: l) n = onAt (b :: m) n) (hf : a.fr = b.fr) (h1 : a.rd = b.rd ∧ a.wr = b.wr ∧ a.sh = b.sh ∧ a.file = b.file ∧ a.base = b.base) : ¬ a.to < b.to := by
  intro hlt
  have h2 := ha.1
  have h3 := hb.1
  unfold ArOk at h2 h3
  obtain ⟨n, hn⟩ : ∃ n : Nat, (n : Int) = a.to := ⟨a.to.toNat, by omega⟩
  have h4 := he n (by omega)
  rw [onAt_out (by omega), onAt_in (a := b) (by omega) (by omega)] at h4
  obtain ⟨c, k, rfl, h5, h6, h7⟩ := ha.2.2.next hn h4
  obtain ⟨g1, g2, g3, g4, g5⟩ := oneOf_eq h6
  have h8 := ha.2.2.1
  unfold ArOk at h8
  have : goB c a = true := by
    rw [goB_iff]
    refine ⟨by omega, by rw [g1, h1.1], by rw [g2, h1.2.1], by rw [g3, h1.2.2.1], by omega, ?_⟩
    split <;> omega
  rw [h7.2] at this
  cases this

/-- Right areas are what they are page by page. -/
theorem can_ext : ∀ {l m : List Ar} {p : Option Ar}, CanP p l → CanP p m → (∀ n : Nat, n < 64 → onAt l n = onAt m n) → l = m
  | [], [], _, _, _, _ => rfl
  | [], b :: m, _, _, hm, he => by
    have h3 := hm.1
    unfold ArOk at h3
    have := he b.fr.toNat (by omega)
    rw [onAt_in (a := b) (by omega) (by omega)] at this
    exact (on_ne this.symm).elim
  | a :: l, [], _, hl, _, he => by
    have h3 := hl.1
    unfold ArOk at h3
    have := he a.fr.toNat (by omega)
    rw [onAt_in (a := a) (by omega) (by omega)] at this
    exact (on_ne this).elim
  | a :: l, b :: m, p, hl, hm, he => by
    have h2 := hl.1
    have h3 := hm.1
    unfold ArOk at h2 h3
    have hf : a.fr = b.fr := by
      rcases Int.lt_trichotomy a.fr b.fr with h | h | h
      · have := he a.fr.toNat (by omega)
        rw [onAt_in (a := a) (by omega) (by omega), hm.head (by omega)] at this
        exact (on_ne this).elim
      · exact h
      · have := he b.fr.toNat (by omega)
        rw [onAt_in (a := b) (by omega) (by omega), hl.head (by omega)] at this
        exact (on_ne this.symm).elim
    have h4 := he a.fr.toNat (by omega)
    rw [onAt_in (a := a) (by omega) (by omega), onAt_in (a := b) (by omega) (by omega)] at h4
    obtain ⟨g1, g2, g3, g4, g5⟩ := oneOf_eq h4
    have hb : a.base = b.base := by
      rcases Int.lt_or_le a.file 0 with h | h
      · omega
      · have := g5 h; omega
    have ht : a.to = b.to := by
      have t1 := ext_to hl hm he hf ⟨g1, g2, g3, g4, hb⟩
      have t2 := ext_to hm hl (fun n hn => (he n hn).symm) hf.symm ⟨g1.symm, g2.symm, g3.symm, g4.symm, hb.symm⟩
      omega
    have hab : a = b := by
      obtain ⟨_, _, _, _, _, _, _⟩ := a
      obtain ⟨_, _, _, _, _, _, _⟩ := b
      simp only at hf ht g1 g2 g3 g4 hb
      subst hf ht g1 g2 g3 g4 hb
      rfl
    subst hab
    have : l = m := can_ext hl.2.2 hm.2.2 fun n hn => by
      by_cases h : (n : Int) < a.to
      · rw [hl.2.2.low rfl h, hm.2.2.low rfl h]
      · have := he n hn
        rw [onAt_out (by omega), onAt_out (by omega)] at this
        exact this
    rw [this]

/-- The last one of p and l. -/
def lastP (p : Option Ar) (l : List Ar) : Option Ar := match l.getLast? with | some b => some b | none => p
theorem lastP_cons (p : Option Ar) (a : Ar) (l : List Ar) : lastP p (a :: l) = lastP (some a) l := by
  unfold lastP
  cases l with
  | nil => simp
  | cons b m => simp [List.getLast?_cons]
theorem lastP_snoc (p : Option Ar) (a : Ar) (l : List Ar) : lastP p (l ++ [a]) = some a := by simp [lastP]

theorem canP_snoc {x : Ar} : ∀ {l : List Ar} {p : Option Ar}, CanP p (l ++ [x]) ↔ CanP p l ∧ ArOk x ∧ ∀ b, lastP p l = some b → Link b x
  | [], p => by simp [CanP, lastP]
  | a :: l, p => by
    simp only [List.cons_append, CanP, lastP_cons, canP_snoc (l := l) (p := some a), and_assoc]

theorem onAt_snoc {x : Ar} {n : Nat} : ∀ {l : List Ar}, onAt l n = on0 ∨ inB x n = false → onAt (l ++ [x]) n = if inB x n = true then oneOf x n else onAt l n
  | [], _ => by simp [onAt]
  | a :: l, h => by
    simp only [List.cons_append, onAt]
    by_cases h1 : inB a n = true
    · rcases h with h | h
      · rw [onAt, if_pos h1] at h
        exact (on_ne h).elim
      · simp [h1, h]
    · rw [if_neg h1, if_neg h1]
      exact onAt_snoc (h.imp (fun h => by rwa [onAt, if_neg h1] at h) id)

theorem onAt_none {n : Nat} : ∀ {l : List Ar}, (∀ a ∈ l, inB a n = false) → onAt l n = on0
  | [], _ => rfl
  | a :: l, h => by
    rw [onAt, if_neg (by rw [h a (by simp)]; simp)]
    exact onAt_none fun b hb => h b (by simp [hb])
theorem onAt_some {n : Nat} : ∀ {l : List Ar}, (onAt l n).is = true → ∃ (i : Nat) (a : Ar), l[i]? = some a ∧ inB a n = true ∧ onAt l n = oneOf a n
  | [], h => by cases h
  | a :: l, h => by
    by_cases h1 : inB a n = true
    · exact ⟨0, a, rfl, h1, by rw [onAt, if_pos h1]⟩
    · rw [onAt, if_neg h1] at h
      obtain ⟨i, b, h2, h3, h4⟩ := onAt_some h
      exact ⟨i + 1, b, h2, h3, by rw [onAt, if_neg h1, h4]⟩
theorem onAt_no {n : Nat} : ∀ {l : List Ar}, (onAt l n).is = false → onAt l n = on0
  | [], _ => rfl
  | a :: l, h => by
    by_cases h1 : inB a n = true
    · rw [onAt, if_pos h1] at h
      cases h
    · rw [onAt, if_neg h1] at h ⊢
      exact onAt_no h

theorem CanP.all {l : List Ar} : ∀ {p : Option Ar}, CanP p l → ∀ a ∈ l, ArOk a := by
  induction l with
  | nil => intro p _ a ha; cases ha
  | cons b l ih =>
    intro p h x hx
    rcases List.mem_cons.1 hx with e | hx
    · rw [e]; exact h.1
    · exact ih h.2.2 _ hx

/-- Pages that areas can be. -/
def Good (f : Nat → On) : Prop := ∀ k : Nat, k < 64 → ((f k).is = false → f k = on0) ∧ ((f k).is = true → ArOk (arOf k (f k)))
theorem oneOf_ok {a : Ar} {n : Nat} (h : ArOk a) (hn : inB a n = true) : ArOk (arOf n (oneOf a n)) := by
  have := inB_iff.1 hn
  unfold ArOk at h ⊢
  unfold arOf
  rw [if_pos (oneOf_is a n)]
  unfold oneOf
  refine ⟨by simp, by simp; omega, by simp; omega, h.2.2.2.1, h.2.2.2.2.1, ?_, fun h1 => ⟨?_, (h.2.2.2.2.2.2.1 h1).2⟩, fun h1 => ?_⟩
  · simp only
    split <;> omega
  · simp only at h1 ⊢
    rw [if_neg (by omega)]
  · simp only at h1 ⊢
    rw [if_pos h1]
    omega
theorem CanP.good {l : List Ar} {p : Option Ar} (h : CanP p l) : Good (onAt l) := fun k _ => ⟨onAt_no, fun h1 => by
  obtain ⟨i, a, h2, h3, h4⟩ := onAt_some h1
  rw [h4]
  exact oneOf_ok (h.all a (List.mem_of_getElem? h2)) h3⟩

/-- acc: the areas of the pages below n. -/
def J (f : Nat → On) (n : Nat) (acc : List Ar) : Prop := CanP none acc ∧ (∀ a ∈ acc, a.to ≤ (n : Int)) ∧ ∀ k : Nat, onAt acc k = if k < n then f k else on0
theorem J.zero (f : Nat → On) : J f 0 [] := ⟨trivial, by simp, fun k => by simp [onAt]⟩
theorem J.skip {f : Nat → On} {n : Nat} {acc : List Ar} (h : J f n acc) (h0 : f n = on0) : J f (n + 1) acc := by
  refine ⟨h.1, fun a ha => by have := h.2.1 a ha; omega, fun k => ?_⟩
  rw [h.2.2 k]
  by_cases h1 : k < n
  · rw [if_pos h1, if_pos (by omega)]
  · rw [if_neg h1]
    by_cases h2 : k = n
    · subst h2; rw [if_pos (by omega), h0]
    · rw [if_neg (by omega)]
theorem arOf_one (n : Nat) (x : On) (h : x.is = true) (hp : x.file < 0 → x.page = 0) : oneOf (arOf n x) n = x := by
  unfold arOf
  rw [if_pos h]
  unfold oneOf
  obtain ⟨_, _, _, _, _, _⟩ := x
  simp only at h hp ⊢
  subst h
  simp only [On.mk.injEq, true_and]
  split
  · omega
  · exact (hp (by omega)).symm
theorem arOf_in {n k : Nat} {x : On} (h : x.is = true) : inB (arOf n x) k = true ↔ k = n := by
  rw [inB_iff]
  unfold arOf
  rw [if_pos h]
  simp only
  omega
theorem J.new {f : Nat → On} {n : Nat} {acc : List Ar} (h : J f n acc) (hg : Good f) (hn : n < 64) (hs : (f n).is = true) (hl : ∀ b, acc.getLast? = some b → goB (arOf n (f n)) b = false) : J f (n + 1) (acc ++ [arOf n (f n)]) := by
  have hok := (hg n hn).2 hs
  have hone : oneOf (arOf n (f n)) n = f n := arOf_one n _ hs fun hf => by
    unfold ArOk arOf at hok
    rw [if_pos hs] at hok
    exact (hok.2.2.2.2.2.2.1 hf).1
  refine ⟨canP_snoc.2 ⟨h.1, hok, fun b hb => ?_⟩, fun a ha => ?_, fun k => ?_⟩
  · have hb' : acc.getLast? = some b := by
      unfold lastP at hb
      split at hb
      · rename_i h1; rw [h1]; exact hb
      · cases hb
    refine ⟨?_, hl b hb'⟩
    have := h.2.1 b (List.mem_of_getLast? hb')
    unfold arOf
    rw [if_pos hs]
    exact this
  · rcases List.mem_append.1 ha with ha | ha
    · have := h.2.1 a ha; omega
    · rw [List.mem_singleton] at ha
      subst ha
      unfold arOf
      rw [if_pos hs]
      simp
  · have h1 := h.2.2 k
    rw [onAt_snoc]
    · by_cases e : k = n
      · subst e
        rw [if_pos ((arOf_in hs).2 rfl), if_pos (by omega), hone]
      · rw [if_neg (fun h2 => e ((arOf_in hs).1 h2)), h1]
        by_cases h3 : k < n
        · rw [if_pos h3, if_pos (by omega)]
        · rw [if_neg h3, if_neg (by omega)]
    · by_cases e : k = n
      · left; rw [h1, if_neg (by omega)]
      · right
        cases h4 : inB (arOf n (f n)) k with
        | false => rfl
        | true => exact absurd ((arOf_in hs).1 h4) e

theorem goB_to {a b : Ar} (t : Int) : goB { a with to := t } b = goB a b := rfl

theorem J.ext {f : Nat → On} {n : Nat} {i : List Ar} {b : Ar} (h : J f n (i ++ [b])) (hg : Good f) (hn : n < 64) (hs : (f n).is = true) (hgo : goB (arOf n (f n)) b = true) : J f (n + 1) (i ++ [{ b with to := (n : Int) + 1 }]) := by
  have hok := (hg n hn).2 hs
  obtain ⟨h1, h2, h3⟩ := h
  obtain ⟨c1, c2, c3⟩ := canP_snoc.1 h1
  have hgo' := goB_iff.1 hgo
  unfold arOf at hgo' hok
  rw [if_pos hs] at hgo' hok
  simp only at hgo'
  obtain ⟨g1, g2, g3, g4, g5, g6⟩ := hgo'
  have c2' := c2
  unfold ArOk at c2' hok
  simp only at hok
  have hlow : ∀ k : Nat, b.fr ≤ (k : Int) → onAt i k = on0 := fun k hk => by
    refine onAt_none fun a ha => inB_no ?_
    have : a.to ≤ b.fr := by
      have hstep : ∀ (l : List Ar) (p : Option Ar), CanP p l → ∀ x ∈ l, ∀ y, lastP p l = some y → x.to ≤ y.to := by
        intro l
        induction l with
        | nil => intro p _ x hx; cases hx
        | cons c m ih =>
          intro p hc x hx y hy
          rw [lastP_cons] at hy
          rcases List.mem_cons.1 hx with rfl | hx
          · cases m with
            | nil => simp [lastP] at hy; subst hy; exact Int.le_refl _
            | cons d k' =>
              have q1 := ih (some x) hc.2.2 d (by simp) y hy
              have q2 := hc.2.2.2.1 x rfl
              have q3 := hc.2.2.1
              unfold Link at q2
              unfold ArOk at q3
              omega
          · exact ih (some c) hc.2.2 x hx y hy
      cases hlast : lastP none i with
      | none =>
        unfold lastP at hlast
        cases i with
        | nil => cases ha
        | cons _ _ => simp [List.getLast?_cons] at hlast
      | some y =>
        have q1 := hstep i none c1 a ha y hlast
        have q2 := (c3 y hlast).1
        omega
    omega
  refine ⟨canP_snoc.2 ⟨c1, ?_, fun y hy => ?_⟩, fun a ha => ?_, fun k => ?_⟩
  · unfold ArOk
    simp only
    refine ⟨by omega, by omega, by omega, by omega, by omega, by omega, fun h => c2'.2.2.2.2.2.2.1 h, fun h => ?_⟩
    rw [if_pos h] at g6
    omega
  · exact ⟨(c3 y hy).1, (c3 y hy).2⟩
  · rcases List.mem_append.1 ha with ha | ha
    · have := h2 a (by simp [ha]); omega
    · rw [List.mem_singleton] at ha
      subst ha
      simp
  · have e1 := h3 k
    rw [onAt_snoc (by
      by_cases hk : b.fr ≤ (k : Int)
      · exact .inl (hlow k hk)
      · exact .inr (inB_no (by omega)))] at e1
    rw [onAt_snoc (by
      by_cases hk : b.fr ≤ (k : Int)
      · exact .inl (hlow k hk)
      · exact .inr (inB_no (by simp only; omega)))]
    by_cases hk : k = n
    · subst hk
      rw [if_pos (by rw [inB_iff]; simp only; omega), if_pos (by omega)]
      unfold oneOf
      simp only
      have hx := hok.2.2.2.2.2.2.1
      revert hs g2 g3 g4 g5 g6 hx
      generalize f k = x
      obtain ⟨_, _, _, _, _, _⟩ := x
      intro hs g2 g3 g4 g5 g6 hx
      simp only at hs g2 g3 g4 g5 g6 hx ⊢
      subst hs g2 g3 g4
      simp only [On.mk.injEq, true_and]
      refine ⟨g5.symm, ?_⟩
      split
      · rename_i h; rw [if_pos h] at g6; omega
      · exact (hx (by omega)).1.symm
    · have e2 : inB { b with to := (n : Int) + 1 } k = inB b k := by
        unfold inB
        simp only
        congr 1
        apply decide_eq_decide.2
        omega
      rw [e2]
      have e3 : oneOf { b with to := (n : Int) + 1 } k = oneOf b k := rfl
      rw [e3, e1]
      by_cases h5 : k < n
      · rw [if_pos h5, if_pos (by omega)]
      · rw [if_neg h5, if_neg (by omega)]

/-- The areas of pages. -/
def joinN (f : Nat → On) : Nat → List Ar
  | 0 => []
  | n + 1 =>
    if (f n).is = true then
      match (joinN f n).getLast? with
      | some b => if goB (arOf n (f n)) b = true then (joinN f n).dropLast ++ [{ b with to := (n : Int) + 1 }] else joinN f n ++ [arOf n (f n)]
      | none => joinN f n ++ [arOf n (f n)]
    else joinN f n
theorem snoc_of {l : List Ar} {b : Ar} (h : l.getLast? = some b) : l = l.dropLast ++ [b] := by
  cases l with
  | nil => cases h
  | cons a m =>
    rw [List.getLast?_eq_some_getLast (List.cons_ne_nil a m)] at h
    cases h
    exact (List.dropLast_concat_getLast _).symm
theorem joinN_J {f : Nat → On} (hg : Good f) : ∀ n : Nat, n ≤ 64 → J f n (joinN f n)
  | 0, _ => J.zero f
  | n + 1, hn => by
    have ih := joinN_J hg n (by omega)
    unfold joinN
    by_cases hs : (f n).is = true
    · rw [if_pos hs]
      cases hl : (joinN f n).getLast? with
      | none => exact ih.new hg (by omega) hs (fun b hb => by rw [hl] at hb; cases hb)
      | some b =>
        simp only
        by_cases hgo : goB (arOf n (f n)) b = true
        · rw [if_pos hgo]
          rw [snoc_of hl] at ih
          exact ih.ext hg (by omega) hs hgo
        · rw [if_neg hgo]
          refine ih.new hg (by omega) hs (fun c hc => ?_)
          rw [hl] at hc
          cases hc
          simpa using hgo
    · rw [if_neg hs]
      exact ih.skip ((hg n (by omega)).1 (by simpa using hs))
def joinL (f : Nat → On) : List Ar := joinN f 64
theorem joinL_J {f : Nat → On} (hg : Good f) : J f 64 (joinL f) := joinN_J hg 64 (Nat.le_refl _)
/-- Whatever has been joined so is joinL. -/
theorem J.all {f : Nat → On} {acc : List Ar} (h : J f 64 acc) (hg : Good f) : acc = joinL f :=
  can_ext h.1 (joinL_J hg).1 fun n _ => by rw [h.2.2, (joinL_J hg).2.2]
theorem joinL_can {f : Nat → On} (hg : Good f) : CanP none (joinL f) := (joinL_J hg).1
theorem joinL_at {f : Nat → On} (hg : Good f) {k : Nat} (hk : k < 64) : onAt (joinL f) k = f k := by rw [(joinL_J hg).2.2, if_pos hk]
theorem joinL_of {f : Nat → On} {l : List Ar} (hg : Good f) (hl : CanP none l) (he : ∀ k, k < 64 → f k = onAt l k) : joinL f = l :=
  can_ext (joinL_can hg) hl fun n hn => by rw [joinL_at hg hn, he n hn]
theorem joinL_congr {f g : Nat → On} (hf : Good f) (hg : Good g) (he : ∀ k, k < 64 → f k = g k) : joinL f = joinL g :=
  can_ext (joinL_can hf) (joinL_can hg) fun n hn => by rw [joinL_at hf hn, joinL_at hg hn, he n hn]
theorem J.len {f : Nat → On} {n : Nat} {acc : List Ar} (h : J f n acc) : acc.length ≤ n := by
  have key : ∀ (l : List Ar) (p : Option Ar) (c : Int), CanP p l → (∀ b, p = some b → c ≤ b.to) → (p = none → c ≤ 0) → (∀ a ∈ l, a.to ≤ (n : Int)) → c ≤ n → c + l.length ≤ n := by
    intro l
    induction l with
    | nil => intro p c _ _ _ _ hc; simpa using hc
    | cons a l ih =>
      intro p c hl hp hp0 ha hc
      have h1 := hl.1
      unfold ArOk at h1
      have h2 : c ≤ a.fr := by
        cases p with
        | none => have := hp0 rfl; omega
        | some b => have := hp b rfl; have := (hl.2.1 b rfl).1; omega
      have h3 := ih (some a) (c + 1) hl.2.2 (fun b hb => by cases hb; omega) (fun hb => by cases hb) (fun x hx => ha x (by simp [hx])) (by have := ha a (by simp); omega)
      rw [List.length_cons]
      omega
  have := key acc none 0 h.1 (fun b hb => by cases hb) (fun _ => by omega) h.2.1 (by omega)
  omega

/-- Of two pages: one goes on with the one ahead. -/
def goJ (x y : On) : Bool := y.is == x.is && y.rd == x.rd && y.wr == x.wr && y.sh == x.sh && decide (y.file = x.file) && decide ((if 0 ≤ x.file then y.page + 1 else y.page) = x.page)
theorem goJ_iff {x y : On} : goJ x y = true ↔ y.is = x.is ∧ y.rd = x.rd ∧ y.wr = x.wr ∧ y.sh = x.sh ∧ y.file = x.file ∧ (if 0 ≤ x.file then y.page + 1 else y.page) = x.page := by
  simp [goJ, and_assoc]

theorem last_to : ∀ (l : List Ar) (p : Option Ar), CanP p l → ∀ x ∈ l, ∀ y, lastP p l = some y → x = y ∨ x.to ≤ y.fr
  | [], _, _, _, hx, _, _ => by cases hx
  | c :: m, p, hc, x, hx, y, hy => by
    rw [lastP_cons] at hy
    rcases List.mem_cons.1 hx with e | hx
    · cases m with
      | nil => simp [lastP] at hy; left; rw [e, hy]
      | cons d k' =>
        right
        have q2 := hc.2.2.2.1 c rfl
        have q3 := hc.2.2.1
        unfold Link at q2
        unfold ArOk at q3
        rw [e]
        rcases last_to (d :: k') (some c) hc.2.2 d (by simp) y hy with q1 | q1
        · rw [← q1]; exact q2.1
        · omega
    · exact last_to m (some c) hc.2.2 x hx y hy

/-- What is joined last ends at n, and has page n - 1, if that is one's. -/
theorem J.last {f : Nat → On} {n : Nat} {acc : List Ar} (h : J f (n + 1) acc) (hs : (f n).is = true) : ∃ b, acc.getLast? = some b ∧ b.to = (n : Int) + 1 ∧ f n = oneOf b n ∧ ArOk b := by
  have h1 := h.2.2 n
  rw [if_pos (by omega)] at h1
  obtain ⟨i, a, h2, h3, h4⟩ := onAt_some (l := acc) (n := n) (by rw [h1]; exact hs)
  have h5 := inB_iff.1 h3
  have ha := List.mem_of_getElem? h2
  have h6 := h.2.1 a ha
  have hto : a.to = (n : Int) + 1 := by omega
  cases hl : acc.getLast? with
  | none => rw [List.getLast?_eq_none_iff] at hl; rw [hl] at ha; cases ha
  | some y =>
    have hy : lastP none acc = some y := by unfold lastP; rw [hl]
    have hay : a = y := by
      rcases last_to acc none h.1 a ha y hy with q | q
      · exact q
      · have q1 := h.1.all y (List.mem_of_getLast? hl)
        have q2 := h.2.1 y (List.mem_of_getLast? hl)
        unfold ArOk at q1
        omega
    subst hay
    exact ⟨a, rfl, hto, by rw [← h1, h4], h.1.all a ha⟩

theorem J.go {f : Nat → On} {n : Nat} {acc : List Ar} (h : J f (n + 1) acc) (hs : (f (n + 1)).is = true) : (goJ (f (n + 1)) (f n) = true → ∃ b, acc.getLast? = some b ∧ goB (arOf (n + 1) (f (n + 1))) b = true) ∧ (goJ (f (n + 1)) (f n) = false → ∀ b, acc.getLast? = some b → goB (arOf (n + 1) (f (n + 1))) b = false) := by
  constructor
  · intro hg
    obtain ⟨g1, g2, g3, g4, g5, g6⟩ := goJ_iff.1 hg
    obtain ⟨b, h1, h2, h3, h4⟩ := h.last (by rw [g1]; exact hs)
    refine ⟨b, h1, goB_iff.2 ?_⟩
    unfold arOf
    rw [if_pos hs]
    rw [h3] at g2 g3 g4 g5 g6
    unfold oneOf at g2 g3 g4 g5 g6
    unfold ArOk at h4
    simp only at g2 g3 g4 g5 g6 ⊢
    refine ⟨by omega, g2.symm, g3.symm, g4.symm, g5.symm, ?_⟩
    rw [← g5] at g6
    by_cases h7 : 0 ≤ b.file
    · rw [if_pos h7, if_pos h7] at g6
      rw [if_pos h7]
      omega
    · rw [if_neg h7, if_neg h7] at g6
      rw [if_neg h7]
      omega
  · intro hg b hb
    cases hq : goB (arOf (n + 1) (f (n + 1))) b with
    | false => rfl
    | true =>
      exfalso
      have hq' := goB_iff.1 hq
      unfold arOf at hq'
      rw [if_pos hs] at hq'
      simp only at hq'
      obtain ⟨q1, q2, q3, q4, q5, q6⟩ := hq'
      have hmem := List.mem_of_getLast? hb
      have hbk := h.1.all b hmem
      have hbk' := hbk
      unfold ArOk at hbk'
      have hin : (f n).is = true := by
        have e1 := h.2.2 n
        rw [if_pos (by omega)] at e1
        cases hz : (f n).is with
        | true => rfl
        | false =>
          exfalso
          have : ∀ (l : List Ar), b ∈ l → (onAt l n).is = true := by
            intro l
            induction l with
            | nil => intro hx; cases hx
            | cons c m ih =>
              intro hx
              by_cases hc : inB c n = true
              · rw [onAt, if_pos hc]; rfl
              · rw [onAt, if_neg hc]
                rcases List.mem_cons.1 hx with e | hx
                · subst e
                  exact absurd (inB_iff.2 (by omega)) hc
                · exact ih hx
          have := this acc hmem
          rw [e1, hz] at this
          cases this
      obtain ⟨b', h1, h2, h3, h4⟩ := h.last hin
      rw [hb] at h1
      cases h1
      have : goJ (f (n + 1)) (f n) = true := by
        rw [goJ_iff, h3]
        unfold oneOf
        simp only
        refine ⟨hs.symm, q2.symm, q3.symm, q4.symm, q5.symm, ?_⟩
        rw [q5]
        by_cases h7 : 0 ≤ b.file
        · rw [if_pos h7] at q6
          rw [if_pos h7, if_pos h7]
          omega
        · rw [if_neg h7] at q6
          rw [if_neg h7, if_neg h7]
          omega
      rw [this] at hg
      cases hg
theorem J.first {f : Nat → On} {acc : List Ar} (h : J f 0 acc) : acc = [] := List.length_eq_zero_iff.1 (by have := h.len; omega)

end Go.Proofs.Ytlkgmjdhggfimad
