/- Tables as plain data: what is wrong with them, what they have, and what the calls make of them. Pure: no program. -/
namespace Go.Proofs.Ytodbgjhdfjpcpac

/-- An entry. -/
structure En where
  kind : Int
  n : Int
  wr : Bool

def en0 : En := ⟨0, 0, false⟩
def enS (e : En) : Bool := e.kind != 0
def enW (e : En) : Int :=
  if 0 ≤ e.kind ∧ e.kind ≤ 2 then
    (if 0 ≤ e.n ∧ e.n ≤ 59 ∧ (e.kind = 1 → e.n ≤ 39) then
      (if (e.kind = 0 ∧ (e.n ≠ 0 ∨ e.wr = true)) ∨ (e.kind = 2 ∧ e.wr = true) then 7 else 0)
    else 3)
  else 1
/-- The first error of l. -/
def esW : List En → Int
  | [] => 0
  | e :: l => if enW e = 0 then esW l else enW e
def anyS (l : List En) : Bool := l.any enS
def haW (h : List En) : Int := if h.length = 0 then 0 else if h.length = 8 then (if esW h = 0 then (if anyS h = true then 0 else 2) else esW h) else 2
def tbW : List (List En) → Int
  | [] => 0
  | h :: t => if haW h = 0 then tbW t else haW h

/-- Entry k of half i. -/
def getN (t : List (List En)) (i k : Nat) : En := ((t[i]?.getD [])[k]?).getD en0
def getT (t : List (List En)) (n : Int) : En := if 0 ≤ n ∧ n < 64 then getN t (n.toNat / 8) (n.toNat % 8) else en0
/-- A half of these entries: none, if they are all None. -/
def mk (l : List En) : List En := if anyS l = true then l else []
/-- h, or Fan entries that are None. -/
def full (h : List En) : List En := if h.length = 0 then List.replicate 8 en0 else h
def setT (t : List (List En)) (n : Nat) (e : En) : List (List En) := t.set (n / 8) (mk ((full (t[n / 8]?.getD [])).set (n % 8) e))
def setE (t : List (List En)) (n : Int) (e : En) : Int := if tbW t = 0 then (if 0 ≤ n ∧ n < 64 then enW e else 3) else tbW t
def none8 : List (List En) := List.replicate 8 []
def setR (t : List (List En)) (n : Int) (e : En) : List (List En) := if setE t n e = 0 then setT t n.toNat e else none8
def flatT (t : List (List En)) : List En := (List.range 64).map fun j => getN t (j / 8) (j % 8)
def chunk (l : List En) (i : Nat) : List En := (List.range 8).map fun k => l[8 * i + k]?.getD en0
def tableOf (l : List En) : List (List En) := (List.range 8).map fun i => mk (chunk l i)
def enG (e : En) : En := ⟨e.kind, e.n, false⟩
def guardT (t : List (List En)) : List (List En) := t.map fun h => h.map enG

/-- The pages below m whose entries are not None and fit. -/
def pagesTo (t : List (List En)) (f : En → Bool) (m : Nat) : List Int := ((List.range m).filter fun n => enS (getN t (n / 8) (n % 8)) && f (getN t (n / 8) (n % 8))).map fun (n : Nat) => (n : Int)

theorem enS_iff (e : En) : enS e = true ↔ e.kind ≠ 0 := by simp [enS]
theorem enS_0 : enS en0 = false := rfl

theorem enW_zero {e : En} (h : enW e = 0) : (0 ≤ e.kind ∧ e.kind ≤ 2) ∧ (0 ≤ e.n ∧ e.n ≤ 59 ∧ (e.kind = 1 → e.n ≤ 39)) ∧ ¬ ((e.kind = 0 ∧ (e.n ≠ 0 ∨ e.wr = true)) ∨ (e.kind = 2 ∧ e.wr = true)) := by
  unfold enW at h
  by_cases h1 : 0 ≤ e.kind ∧ e.kind ≤ 2
  · rw [if_pos h1] at h
    by_cases h2 : 0 ≤ e.n ∧ e.n ≤ 59 ∧ (e.kind = 1 → e.n ≤ 39)
    · rw [if_pos h2] at h
      by_cases h3 : (e.kind = 0 ∧ (e.n ≠ 0 ∨ e.wr = true)) ∨ (e.kind = 2 ∧ e.wr = true)
      · rw [if_pos h3] at h
        omega
      · exact ⟨h1, h2, h3⟩
    · rw [if_neg h2] at h
      omega
  · rw [if_neg h1] at h
    omega
theorem enW_of {e : En} (h1 : 0 ≤ e.kind ∧ e.kind ≤ 2) (h2 : 0 ≤ e.n ∧ e.n ≤ 59 ∧ (e.kind = 1 → e.n ≤ 39)) (h3 : ¬ ((e.kind = 0 ∧ (e.n ≠ 0 ∨ e.wr = true)) ∨ (e.kind = 2 ∧ e.wr = true))) : enW e = 0 := by
  unfold enW
  rw [if_pos h1, if_pos h2, if_neg h3]
theorem enW_0 : enW en0 = 0 := by decide
/-- A right entry that is None is nothing. -/
theorem en_none {e : En} (h : enW e = 0) (hs : enS e = false) : e = en0 := by
  obtain ⟨h1, h2, h3⟩ := enW_zero h
  obtain ⟨k, n, w⟩ := e
  simp [enS] at hs
  subst hs
  simp at h3
  obtain ⟨rfl, h4⟩ := h3
  cases w
  · rfl
  · simp at h4

theorem esW_zero {l : List En} : esW l = 0 ↔ ∀ e ∈ l, enW e = 0 := by
  induction l with
  | nil => simp [esW]
  | cons e l ih =>
    unfold esW
    by_cases h : enW e = 0
    · rw [if_pos h, ih]
      simp [h]
    · rw [if_neg h]
      simp [h]

/-- A right half. -/
def HaOk (h : List En) : Prop := h = [] ∨ (h.length = 8 ∧ (∀ e ∈ h, enW e = 0) ∧ anyS h = true)
theorem haW_zero {h : List En} : haW h = 0 ↔ HaOk h := by
  unfold haW HaOk
  by_cases h0 : h.length = 0
  · rw [if_pos h0]
    have : h = [] := List.length_eq_zero_iff.1 h0
    simp [this]
  · have hn : h ≠ [] := fun e => h0 (by rw [e]; rfl)
    rw [if_neg h0]
    by_cases h8 : h.length = 8
    · rw [if_pos h8]
      by_cases h1 : esW h = 0
      · rw [if_pos h1]
        have h2 := esW_zero.1 h1
        by_cases h3 : anyS h = true
        · rw [if_pos h3]
          simp [h8, h3, hn]
          exact h2
        · rw [if_neg h3]
          simp [hn, h3]
      · rw [if_neg h1]
        simp only [h1, hn, false_or, false_iff]
        exact fun h => h1 (esW_zero.2 h.2.1)
    · rw [if_neg h8]
      simp [hn, h8]
theorem tbW_zero {t : List (List En)} : tbW t = 0 ↔ ∀ h ∈ t, HaOk h := by
  induction t with
  | nil => simp [tbW]
  | cons h t ih =>
    unfold tbW
    by_cases h0 : haW h = 0
    · rw [if_pos h0, ih]
      simp [haW_zero.1 h0]
    · rw [if_neg h0]
      simp only [h0, List.mem_cons, forall_eq_or_imp, false_iff]
      exact fun hh => h0 (haW_zero.2 hh.1)

/-- A right table. -/
structure TbOk (t : List (List En)) : Prop where
  len : t.length = 8
  ok : ∀ h ∈ t, HaOk h
theorem TbOk.half {t : List (List En)} (h : TbOk t) (i : Nat) : HaOk (t[i]?.getD []) := by
  cases hq : t[i]? with
  | none => exact .inl rfl
  | some x => exact h.ok x (List.mem_of_getElem? hq)

theorem HaOk.get {h : List En} (hh : HaOk h) (k : Nat) : enW (h[k]?.getD en0) = 0 := by
  rcases hh with rfl | ⟨_, h2, _⟩
  · exact enW_0
  · cases hq : h[k]? with
    | none => exact enW_0
    | some x => exact h2 x (List.mem_of_getElem? hq)
theorem TbOk.get {t : List (List En)} (h : TbOk t) (i k : Nat) : enW (getN t i k) = 0 := (h.half i).get k

theorem full_len {h : List En} (hh : HaOk h) : (full h).length = 8 := by
  unfold full
  rcases hh with rfl | ⟨h1, _⟩
  · rfl
  · rw [if_neg (by omega)]
    exact h1
theorem full_at (h : List En) (hh : HaOk h) {k : Nat} (hk : k < 8) : (full h)[k]? = some (h[k]?.getD en0) := by
  unfold full
  rcases hh with rfl | ⟨h1, _⟩
  · rw [if_pos (show ([] : List En).length = 0 from rfl), List.getElem?_replicate, if_pos hk]
    rfl
  · rw [if_neg (by omega), List.getElem?_eq_getElem (by omega)]
    rfl
theorem full_get (h : List En) (k : Nat) : (full h)[k]?.getD en0 = h[k]?.getD en0 := by
  unfold full
  by_cases h0 : h.length = 0
  · rw [if_pos h0]
    have : h = [] := List.length_eq_zero_iff.1 h0
    subst this
    rw [List.getElem?_replicate]
    split <;> rfl
  · rw [if_neg h0]
theorem mk_get (l : List En) (hl : ∀ e ∈ l, enW e = 0) (k : Nat) : (mk l)[k]?.getD en0 = l[k]?.getD en0 := by
  unfold mk
  by_cases h : anyS l = true
  · rw [if_pos h]
  · rw [if_neg h]
    cases hq : l[k]? with
    | none => simp
    | some x =>
      have hm := List.mem_of_getElem? hq
      have : enS x = false := by
        cases hs : enS x with
        | false => rfl
        | true => exact absurd (List.any_eq_true.2 ⟨x, hm, hs⟩) h
      simp [en_none (hl x hm) this]
theorem mk_ok {l : List En} (h8 : l.length = 8) (hl : ∀ e ∈ l, enW e = 0) : HaOk (mk l) := by
  unfold mk
  by_cases h : anyS l = true
  · rw [if_pos h]
    exact .inr ⟨h8, hl, h⟩
  · rw [if_neg h]
    exact .inl rfl
/-- Of a right half its entries make it again. -/
theorem mk_full {h : List En} (hh : HaOk h) : mk (full h) = h := by
  unfold mk full
  rcases hh with rfl | ⟨h1, _, h3⟩
  · rfl
  · rw [if_neg (show ¬ h.length = 0 by omega), if_pos h3]

theorem full_right {h : List En} (hh : HaOk h) : ∀ e ∈ full h, enW e = 0 := fun e he => by
  unfold full at he
  rcases hh with rfl | ⟨h1, h2, _⟩
  · simp at he
    rw [he]
    exact enW_0
  · rw [if_neg (by omega)] at he
    exact h2 e he
theorem set_right {l : List En} {k : Nat} {e : En} (hl : ∀ x ∈ l, enW x = 0) (he : enW e = 0) : ∀ x ∈ l.set k e, enW x = 0 := fun x hx => by
  rcases List.mem_or_eq_of_mem_set hx with h | h
  · exact hl x h
  · rw [h]
    exact he

theorem setT_ok {t : List (List En)} (h : TbOk t) {n : Nat} {e : En} (he : enW e = 0) : TbOk (setT t n e) := by
  refine ⟨by simp [setT, h.len], fun x hx => ?_⟩
  rcases List.mem_or_eq_of_mem_set hx with h1 | h1
  · exact h.ok x h1
  · rw [h1]
    have hh := h.half (n / 8)
    exact mk_ok (by rw [List.length_set]; exact full_len hh) (set_right (full_right hh) he)

theorem getN_set {t : List (List En)} (h : TbOk t) {n : Nat} (hn : n < 64) {e : En} (he : enW e = 0) (i k : Nat) (hk : k < 8) : getN (setT t n e) i k = if i = n / 8 ∧ k = n % 8 then e else getN t i k := by
  unfold getN setT
  have hh := h.half (n / 8)
  by_cases hi : i = n / 8
  · subst hi
    rw [List.getElem?_set_self (by rw [h.len]; omega)]
    simp only [Option.getD_some]
    rw [mk_get _ (set_right (full_right hh) he)]
    by_cases hk' : k = n % 8
    · subst hk'
      rw [List.getElem?_set_self (by rw [full_len hh]; exact hk)]
      simp
    · rw [List.getElem?_set_ne (fun h => hk' h.symm), if_neg (fun h => hk' h.2)]
      exact full_get _ k
  · rw [List.getElem?_set_ne (fun h => hi h.symm), if_neg (fun h => hi h.1)]

theorem getT_set_self {t : List (List En)} (h : TbOk t) {n : Int} (h0 : 0 ≤ n) (h1 : n < 64) {e : En} (he : enW e = 0) : getT (setT t n.toNat e) n = e := by
  unfold getT
  rw [if_pos ⟨h0, h1⟩, getN_set h (by omega) he _ _ (by omega), if_pos ⟨rfl, rfl⟩]
theorem getT_set_ne {t : List (List En)} (h : TbOk t) {n m : Int} (h0 : 0 ≤ n) (h1 : n < 64) (hm : m ≠ n) {e : En} (he : enW e = 0) : getT (setT t n.toNat e) m = getT t m := by
  unfold getT
  by_cases h2 : 0 ≤ m ∧ m < 64
  · rw [if_pos h2, if_pos h2, getN_set h (by omega) he _ _ (by omega), if_neg (by omega)]
  · rw [if_neg h2, if_neg h2]

/-- Set back, it is the table that it was. -/
theorem setT_back {t : List (List En)} (h : TbOk t) {n : Nat} (hn : n < 64) {e : En} (he : enW e = 0) : setT (setT t n e) n (getN t (n / 8) (n % 8)) = t := by
  have hh := h.half (n / 8)
  obtain ⟨x, hx⟩ : ∃ x, t[n / 8]? = some x := ⟨_, List.getElem?_eq_getElem (by rw [h.len]; omega)⟩
  have hset : (setT t n e)[n / 8]?.getD [] = mk ((full x).set (n % 8) e) := by
    unfold setT
    rw [List.getElem?_set_self (by rw [h.len]; omega), hx]
    rfl
  rw [hx] at hh
  simp only [Option.getD_some] at hh
  have hfl : full (mk ((full x).set (n % 8) e)) = (full x).set (n % 8) e ∨ (full (mk ((full x).set (n % 8) e)) = List.replicate 8 en0 ∧ ∀ y ∈ (full x).set (n % 8) e, y = en0) := by
    by_cases ha : anyS ((full x).set (n % 8) e) = true
    · left
      unfold mk
      rw [if_pos ha]
      unfold full
      rw [if_neg]
      rw [List.length_set]
      have := full_len hh
      unfold full at this
      omega
    · right
      unfold mk
      rw [if_neg ha]
      refine ⟨rfl, fun y hy => ?_⟩
      refine en_none (set_right (full_right hh) he y hy) ?_
      cases hs : enS y with
      | false => rfl
      | true => exact absurd (List.any_eq_true.2 ⟨y, hy, hs⟩) ha
  have hlen := full_len hh
  have hk : n % 8 < 8 := by omega
  have hback : (full (mk ((full x).set (n % 8) e))).set (n % 8) (getN t (n / 8) (n % 8)) = full x := by
    have hg : getN t (n / 8) (n % 8) = (full x)[n % 8]?.getD en0 := by
      unfold getN
      rw [hx, full_get]
      rfl
    apply List.ext_getElem?
    intro j
    have hl2 : (full (mk ((full x).set (n % 8) e))).length = 8 := full_len (mk_ok (by rw [List.length_set]; exact hlen) (set_right (full_right hh) he))
    by_cases hj : j < 8
    · by_cases hjk : j = n % 8
      · subst hjk
        rw [List.getElem?_set_self (by rw [hl2]; exact hk), hg, List.getElem?_eq_getElem (by rw [hlen]; exact hk)]
        rfl
      · rw [List.getElem?_set_ne (fun h => hjk h.symm)]
        rcases hfl with h1 | ⟨h1, h2⟩
        · rw [h1, List.getElem?_set_ne (fun h => hjk h.symm)]
        · rw [h1, List.getElem?_replicate, if_pos hj]
          have hf : (full x)[j]? = some ((full x)[j]'(by rw [hlen]; exact hj)) := List.getElem?_eq_getElem _
          rw [hf]
          congr 1
          symm
          apply h2
          refine List.mem_of_getElem? (i := j) ?_
          rw [List.getElem?_set_ne (fun h => hjk h.symm)]
          exact hf
    · rw [List.getElem?_eq_none (by rw [List.length_set, hl2]; omega), List.getElem?_eq_none (by rw [hlen]; omega)]
  show (setT t n e).set (n / 8) (mk ((full ((setT t n e)[n / 8]?.getD [])).set (n % 8) (getN t (n / 8) (n % 8)))) = t
  rw [hset, hback, mk_full hh]
  unfold setT
  rw [List.set_set]
  apply List.ext_getElem?
  intro j
  by_cases e : j = n / 8
  · subst e
    rw [List.getElem?_set_self (by rw [h.len]; omega), hx]
  · rw [List.getElem?_set_ne (fun h => e h.symm)]

/-- Entries make a right table again. -/
theorem flatT_len (t : List (List En)) : (flatT t).length = 64 := by simp [flatT]
theorem flatT_at (t : List (List En)) {j : Nat} (hj : j < 64) : (flatT t)[j]? = some (getN t (j / 8) (j % 8)) := by
  unfold flatT
  rw [List.getElem?_map, List.getElem?_range hj]
  rfl
theorem chunk_full {l : List En} {h : List En} (hh : HaOk h) {i : Nat} (hl : ∀ k, k < 8 → l[8 * i + k]? = some (h[k]?.getD en0)) : chunk l i = full h := by
  apply List.ext_getElem?
  intro k
  by_cases hk : k < 8
  · unfold chunk
    rw [List.getElem?_map, List.getElem?_range hk, full_at h hh hk]
    simp [hl k hk]
  · rw [List.getElem?_eq_none (by simp [chunk]; omega), List.getElem?_eq_none (by rw [full_len hh]; omega)]

theorem tableOf_eq {l : List En} {t : List (List En)} (h : TbOk t) (hl : ∀ j, j < 64 → l[j]? = some (getN t (j / 8) (j % 8))) : tableOf l = t := by
  apply List.ext_getElem?
  intro i
  by_cases hi : i < 8
  · unfold tableOf
    rw [List.getElem?_map, List.getElem?_range hi]
    obtain ⟨x, hx⟩ : ∃ x, t[i]? = some x := ⟨_, List.getElem?_eq_getElem (by rw [h.len]; omega)⟩
    have hh := h.half i
    rw [hx] at hh ⊢
    simp only [Option.getD_some] at hh
    have : chunk l i = full x := chunk_full hh (fun k hk => by
      rw [hl _ (by omega), show (8 * i + k) / 8 = i by omega, show (8 * i + k) % 8 = k by omega]
      unfold getN
      rw [hx]
      rfl)
    simp [this, mk_full hh]
  · rw [List.getElem?_eq_none (by simp [tableOf]; omega), List.getElem?_eq_none (by rw [h.len]; omega)]

theorem tableOf_set {t : List (List En)} (h : TbOk t) {n : Nat} (hn : n < 64) {e : En} (he : enW e = 0) : tableOf ((flatT t).set n e) = setT t n e := by
  refine tableOf_eq (setT_ok h he) (fun j hj => ?_)
  rw [getN_set h hn he _ _ (by omega)]
  by_cases e1 : j = n
  · subst e1
    rw [List.getElem?_set_self (by rw [flatT_len]; exact hj), if_pos ⟨rfl, rfl⟩]
  · rw [List.getElem?_set_ne (fun h => e1 h.symm), flatT_at t hj, if_neg (by omega)]

theorem enG_right {e : En} (h : enW e = 0) : enW (enG e) = 0 := by
  obtain ⟨h1, h2, h3⟩ := enW_zero h
  refine enW_of h1 h2 ?_
  simp only [enG] at *
  intro h4
  rcases h4 with ⟨h5, h6 | h6⟩ | ⟨_, h6⟩
  · exact h3 (.inl ⟨h5, .inl h6⟩)
  · cases h6
  · cases h6
theorem anyS_guard (h : List En) : anyS (h.map enG) = anyS h := by
  unfold anyS
  rw [List.any_map]
  rfl
theorem guard_ok {t : List (List En)} (h : TbOk t) : TbOk (guardT t) := by
  refine ⟨by simp [guardT, h.len], fun x hx => ?_⟩
  obtain ⟨y, hy, rfl⟩ := List.mem_map.1 hx
  rcases h.ok y hy with rfl | ⟨h1, h2, h3⟩
  · exact .inl rfl
  · refine .inr ⟨by simpa using h1, fun e he => ?_, by rw [anyS_guard]; exact h3⟩
    obtain ⟨z, hz, rfl⟩ := List.mem_map.1 he
    exact enG_right (h2 z hz)
theorem getN_guard (t : List (List En)) (i k : Nat) : getN (guardT t) i k = enG (getN t i k) := by
  unfold getN guardT
  rw [List.getElem?_map]
  cases t[i]? with
  | none => rfl
  | some x =>
    simp only [Option.map_some, Option.getD_some]
    rw [List.getElem?_map]
    cases x[k]? with
    | none => rfl
    | some y => rfl
theorem tableOf_guard {t : List (List En)} (h : TbOk t) : tableOf ((flatT t).map enG) = guardT t := by
  refine tableOf_eq (guard_ok h) (fun j hj => ?_)
  rw [List.getElem?_map, flatT_at t hj, getN_guard]
  rfl

/-- What is wrong with an entry alone. -/
theorem one_wrong (e : En) : tbW [[e, ⟨1, 0, false⟩, en0, en0, en0, en0, en0, en0], [], [], [], [], [], [], []] = enW e := by
  have h2 : enW ⟨1, 0, false⟩ = 0 := by decide
  unfold tbW
  have hr : tbW [[], [], [], [], [], [], []] = 0 := by decide
  have hh : haW [e, ⟨1, 0, false⟩, en0, en0, en0, en0, en0, en0] = enW e := by
    unfold haW
    rw [if_neg (by simp), if_pos (by simp)]
    have hes : esW [e, ⟨1, 0, false⟩, en0, en0, en0, en0, en0, en0] = enW e := by
      unfold esW
      by_cases h : enW e = 0
      · rw [if_pos h, h]
        decide
      · rw [if_neg h]
    rw [hes]
    by_cases h : enW e = 0
    · rw [if_pos h, if_pos (by simp [anyS, enS]), h]
    · rw [if_neg h]
  rw [hh, hr]
  by_cases h : enW e = 0
  · rw [if_pos h, h]
  · rw [if_neg h]

theorem pagesTo_succ (t : List (List En)) (f : En → Bool) (m : Nat) : pagesTo t f (m + 1) = if enS (getN t (m / 8) (m % 8)) && f (getN t (m / 8) (m % 8)) then pagesTo t f m ++ [(m : Int)] else pagesTo t f m := by
  unfold pagesTo
  rw [List.range_succ, List.filter_append, List.map_append]
  split
  · rename_i h
    simp [h]
  · rename_i h
    simp [h]
theorem pagesTo_len (t : List (List En)) (f : En → Bool) : ∀ m, (pagesTo t f m).length ≤ m
  | 0 => by simp [pagesTo]
  | m + 1 => by
    rw [pagesTo_succ]
    have := pagesTo_len t f m
    split
    · simp; omega
    · omega
theorem pagesTo_mem (t : List (List En)) (f : En → Bool) (m : Nat) (z : Int) : z ∈ pagesTo t f m ↔ ∃ n : Nat, z = n ∧ n < m ∧ (enS (getN t (n / 8) (n % 8)) && f (getN t (n / 8) (n % 8))) = true := by
  unfold pagesTo
  simp only [List.mem_map, List.mem_filter, List.mem_range]
  constructor
  · rintro ⟨n, ⟨h1, h2⟩, rfl⟩
    exact ⟨n, rfl, h1, h2⟩
  · rintro ⟨n, rfl, h1, h2⟩
    exact ⟨n, ⟨h1, h2⟩, rfl⟩

/-- A half has entries if and only if a page of it has one. -/
theorem half_some {t : List (List En)} (h : TbOk t) {i : Nat} (hi : i < 8) : 0 < (t[i]?.getD []).length ↔ ∃ z ∈ pagesTo t (fun _ => true) 64, z / 8 = (i : Int) := by
  constructor
  · intro hl
    rcases h.half i with h0 | ⟨h1, _, h3⟩
    · rw [h0] at hl; simp at hl
    · obtain ⟨x, hx, hs⟩ := List.any_eq_true.1 h3
      obtain ⟨k, hk⟩ := List.getElem?_of_mem hx
      have hk8 : k < 8 := by
        have := (List.getElem?_eq_some_iff.1 hk).1
        omega
      refine ⟨((8 * i + k : Nat) : Int), (pagesTo_mem _ _ _ _).2 ⟨8 * i + k, rfl, by omega, ?_⟩, by omega⟩
      rw [show (8 * i + k) / 8 = i by omega, show (8 * i + k) % 8 = k by omega]
      unfold getN
      rw [hk]
      simp [hs]
  · rintro ⟨z, hz, hd⟩
    obtain ⟨n, rfl, hn, hs⟩ := (pagesTo_mem _ _ _ _).1 hz
    have hni : n / 8 = i := by omega
    rw [hni] at hs
    rcases h.half i with h0 | ⟨h1, _⟩
    · unfold getN at hs
      rw [h0] at hs
      simp [enS, en0] at hs
    · omega

end Go.Proofs.Ytodbgjhdfjpcpac
