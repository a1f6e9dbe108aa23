/- A statement whose order is left open, whose operations keep something true of the world: one walk in the order of the text serves every order.
   No condition: these are laws of the model. -/
import Derived.Test.YtlkgmjdhggfimadLaxTail
namespace Go.Proofs.Ytlkgmjdhggfimad
open Go.RowKit

/-- What is known of a value, and what its step does to the world. -/
structure SpecI where
  pv : Value → Prop
  post : Value → World → Prop
  step : World → World → Prop
  pre : World → Prop := fun _ => True

/-- A world of which I holds. -/
structure HoldI (I : World → Prop) where
  world : World
  holds : I world

section
variable (I : World → Prop) (P : Program) (ops : Array Oper) (S : Nat → Option SpecI)

def ClauseI (i : Nat) (F : Nat → World → Prop) (a : Act) (K : (Nat → World → Prop) → Act → Prop) : Prop :=
  match ops[i]? with
  | none => False
  | some o =>
    if Region.wanted o (yielded ops a.tmps) then
      match S i with
      | none => ∃ v, (∀ w, I w → (∀ m, anc ops 3 m i = true → F m w) → (execOp a.eval o).run P w = .ok (.value v) w) ∧ K F (a.put o.dst v)
      | some s => (∀ w, I w → s.pre w → (∀ m, anc ops 3 m i = true → F m w) → Does P o a w fun v w' => I w' ∧ s.step w w' ∧ s.pv v ∧ s.post v w') ∧ ∀ v, s.pv v → K (fset F i (s.post v)) (a.put o.dst v)
    else K F (a.put o.dst undef)

def LexI (Q : Act → World → Prop) : List Nat → (Nat → World → Prop) → Act → Prop
  | [], F, a => ∀ w, I w → (∀ i, F i w) → Q a w
  | i :: l, F, a => ClauseI I P ops S i F a (LexI Q l)
end

section
variable {I : World → Prop} {P : Program} {ops : Array Oper} {S : Nat → Option SpecI} {T : Nat}

theorem ClauseI.mono {i : Nat} {F : Nat → World → Prop} {a : Act} {K K' : (Nat → World → Prop) → Act → Prop}
    (h : ∀ F' a', (∀ m, m ≠ i → F' m = F m) → K F' a' → K' F' a') (hc : ClauseI I P ops S i F a K) : ClauseI I P ops S i F a K' := by
  unfold ClauseI at *
  split
  · rename_i ho; simp only [ho] at hc
  · rename_i o ho
    simp only [ho] at hc
    split
    · rename_i hw
      simp only [hw, if_true] at hc
      split
      · rename_i hs
        simp only [hs] at hc
        obtain ⟨v, h1, h2⟩ := hc
        exact ⟨v, h1, h _ _ (fun _ _ => rfl) h2⟩
      · rename_i s hs
        simp only [hs] at hc
        exact ⟨hc.1, fun v hv => h _ _ (fun m hm => fset_other hm) (hc.2 v hv)⟩
    · rename_i hw
      simp only [hw] at hc
      exact h _ _ (fun _ _ => rfl) hc

/-- Two that are apart may change places. -/
theorem ClauseI.swap {i j : Nat} {oi oj : Oper} {F : Nat → World → Prop} {a : Act} {K : (Nat → World → Prop) → Act → Prop} {w : World}
    (hi : ops[i]? = some oi) (hj : ops[j]? = some oj) (hne : i ≠ j) (hap : oi.apart ops oj = true)
    (hsi : ∀ cs b, oi.op ≠ .select cs b) (hsj : ∀ cs b, oj.op ≠ .select cs b)
    (hij : anc ops 3 i j = false) (hji : anc ops 3 j i = false) (hS : ∀ s, S i = some s → ∃ v, s.pv v)
    (hw0 : I w) (hF : ∀ m, anc ops 3 m j = true → F m w)
    (h : ClauseI I P ops S i F a fun F' a' => ClauseI I P ops S j F' a' K) : ClauseI I P ops S j F a fun F' a' => ClauseI I P ops S i F' a' K := by
  obtain ⟨h1, h2, h3⟩ := Oper.apart_spec hap
  have ei : ∀ v, execOp (a.put oj.dst v).eval oi = execOp a.eval oi := fun v => execOp_put oi hsi a oj.dst v h3
  have ej : ∀ v, execOp (a.put oi.dst v).eval oj = execOp a.eval oj := fun v => execOp_put oj hsj a oi.dst v h1
  have wi : ∀ v, Region.wanted oi (yielded ops (a.put oj.dst v).tmps) = Region.wanted oi (yielded ops a.tmps) := fun v => wanted_put oi a oj.dst v h3
  have wj : ∀ v, Region.wanted oj (yielded ops (a.put oi.dst v).tmps) = Region.wanted oj (yielded ops a.tmps) := fun v => wanted_put oj a oi.dst v h1
  have di : ∀ v w K, Does P oi (a.put oj.dst v) w K = Does P oi a w K := fun v w K => by unfold Does; rw [ei]
  have dj : ∀ v w K, Does P oj (a.put oi.dst v) w K = Does P oj a w K := fun v w K => by unfold Does; rw [ej]
  have pc : ∀ v u, (a.put oi.dst v).put oj.dst u = (a.put oj.dst u).put oi.dst v := fun v u => Act.put_comm a v u h2
  have fi : ∀ p, (fun m => anc ops 3 m i = true → fset F j p m w = F m w) = fun _ => True := fun p => by
    funext m
    simp only [eq_iff_iff, iff_true]
    intro hm
    rw [fset_other (fun e => by subst e; rw [hji] at hm; cases hm)]
  have faci : ∀ p w', (∀ m, anc ops 3 m i = true → fset F j p m w') ↔ (∀ m, anc ops 3 m i = true → F m w') := fun p w' => by
    constructor <;> intro hh m hm <;> have := hh m hm
    · rwa [fset_other (fun e => by subst e; rw [hji] at hm; cases hm)] at this
    · rwa [fset_other (fun e => by subst e; rw [hji] at hm; cases hm)]
  have facj : ∀ p w', (∀ m, anc ops 3 m j = true → fset F i p m w') ↔ (∀ m, anc ops 3 m j = true → F m w') := fun p w' => by
    constructor <;> intro hh m hm <;> have := hh m hm
    · rwa [fset_other (fun e => by subst e; rw [hij] at hm; cases hm)] at this
    · rwa [fset_other (fun e => by subst e; rw [hij] at hm; cases hm)]
  clear fi
  unfold ClauseI at h ⊢
  simp only [hi, hj, ei, ej, wi, wj, di, dj, pc] at h ⊢
  cases hwi : Region.wanted oi (yielded ops a.tmps) <;> cases hwj : Region.wanted oj (yielded ops a.tmps) <;>
    simp only [hwi, hwj, if_true, if_false, Bool.false_eq_true] at h ⊢
  · exact h
  · cases hsj' : S j with
    | none => simp only [hsj'] at h ⊢; exact h
    | some s => simp only [hsj'] at h ⊢; exact h
  · cases hsi' : S i with
    | none => simp only [hsi'] at h ⊢; exact h
    | some s => simp only [hsi'] at h ⊢; exact h
  · cases hsi' : S i with
    | none =>
      simp only [hsi'] at h
      obtain ⟨vi, hri, h⟩ := h
      cases hsj' : S j with
      | none =>
        simp only [hsj'] at h ⊢
        obtain ⟨vj, hrj, h⟩ := h
        exact ⟨vj, hrj, vi, hri, h⟩
      | some s =>
        simp only [hsj'] at h ⊢
        exact ⟨h.1, fun vj hvj => ⟨vi, fun w' hw' hf => hri w' hw' ((faci _ _).1 hf), h.2 vj hvj⟩⟩
    | some si =>
      simp only [hsi'] at h
      obtain ⟨hdi, h⟩ := h
      obtain ⟨v1, hv1⟩ := hS si hsi'
      cases hsj' : S j with
      | none =>
        simp only [hsj'] at h ⊢
        obtain ⟨vj, hrj, _⟩ := h v1 hv1
        refine ⟨vj, fun w' hw' hf => hrj w' hw' ((facj _ _).2 hf), hdi, fun vi hvi => ?_⟩
        obtain ⟨vj', hrj', hl⟩ := h vi hvi
        have e1 := hrj w hw0 ((facj _ _).2 hF)
        have e2 := hrj' w hw0 ((facj _ _).2 hF)
        rw [e1] at e2
        simp only [Result.ok.injEq, Next.value.injEq, and_true] at e2
        subst e2
        exact hl
      | some sj =>
        simp only [hsj'] at h ⊢
        refine ⟨fun w' hw' hpr hf => (h v1 hv1).1 w' hw' hpr ((facj _ _).2 hf), fun vj hvj => ⟨fun w' hw' hpr hf => hdi w' hw' hpr ((faci _ _).1 hf), fun vi hvi => ?_⟩⟩
        have := (h vi hvi).2 vj hvj
        rwa [fset_comm hne] at this

theorem LexI.commute {Q : Act → World → Prop} {j : Nat} {oj : Oper} {w : World} (hj : ops[j]? = some oj) (hw0 : I w)
    (hsel : ∀ (k : Nat) (o : Oper) cs b, ops[k]? = some o → o.op ≠ .select cs b) (hS : ∀ k s, S k = some s → ∃ v, s.pv v) :
    ∀ (l : List Nat) (F : Nat → World → Prop) (a : Act), l.Nodup → j ∈ l →
      (∀ i ∈ l, i ≠ j → ∃ oi, ops[i]? = some oi ∧ (i < j → oi.apart ops oj = true) ∧ anc ops 3 i j = false ∧ (i < j → anc ops 3 j i = false)) →
      (l.Pairwise (· < ·)) → (∀ m, anc ops 3 m j = true → F m w) → LexI I P ops S Q l F a → LexI I P ops S Q (j :: l.filter (· != j)) F a
  | [], _, _, _, hm, _, _, _, _ => by cases hm
  | i :: l, F, a, hnd, hm, hall, hsorted, hF, h => by
    by_cases hij : i = j
    · subst hij
      have : (i :: l).filter (· != i) = l := by
        rw [List.filter_cons]
        simp only [bne_self_eq_false, Bool.false_eq_true, if_false]
        refine List.filter_eq_self.2 fun x hx => ?_
        have : x ≠ i := fun e => (List.nodup_cons.1 hnd).1 (e ▸ hx)
        simpa using this
      rw [this]
      exact h
    · have hjl : j ∈ l := by
        rcases List.mem_cons.1 hm with e | e
        · exact absurd e.symm hij
        · exact e
      have hlt : i < j := (List.pairwise_cons.1 hsorted).1 j hjl
      obtain ⟨oi, hoi, hap, haij, haji⟩ := hall i (by simp) hij
      have hf : (i :: l).filter (· != j) = i :: l.filter (· != j) := by
        rw [List.filter_cons]
        have : (i != j) = true := by simpa using hij
        simp [this]
      rw [hf]
      refine ClauseI.swap hoi hj hij (hap hlt) (fun cs b => hsel i oi cs b hoi) (fun cs b => hsel j oj cs b hj) haij (haji hlt) (hS i) hw0 hF ?_
      refine ClauseI.mono (fun F' a' hF' hl => ?_) h
      refine LexI.commute hj hw0 hsel hS l F' a' (List.nodup_cons.1 hnd).2 hjl (fun k hk => hall k (by simp [hk])) (List.pairwise_cons.1 hsorted).2 (fun m hma => ?_) hl
      rw [hF' m (fun e => by subst e; rw [haij] at hma; cases hma)]
      exact hF m hma

theorem wpAny_of_lexI {Q : Act → World → Prop} {Q' : Exit → Act → World → Prop} {l : List Oper} {m : Nat} (hB : laxTB ops T = true) (hTl : T + m = ops.size) (hll : l.length = m) (hops : ∀ j, l[j]? = ops[T + j]?) (hS : ∀ k s, S k = some s → ∃ v, s.pv v)
    (hp : ∀ k s j t, S k = some s → S j = some t → j ≠ k → anc ops 3 j k = false → ∀ v w w', t.step w w' → s.post v w → s.post v w') (hpre : ∀ j t k s, S j = some t → S k = some s → j ≠ k → ∀ w w', s.step w w' → t.pre w → t.pre w') (hQ : ∀ a w, Q a w → wpList P ops Q' l a w) :
    ∀ (fuel : Nat) (listed : Array Bool) (F : Nat → World → Prop) (a : Act) (w : World), listed.size = ops.size → (∀ i, T ≤ i → i < ops.size → listed.getD i true = false) → (unlistedT listed T).length = fuel → closed ops listed → I w →
      (∀ i, F i w) → (∀ i, (∀ w, F i w) ∨ ∃ s v, S i = some s ∧ F i = s.post v ∧ listed.getD i false = true) → (∀ k t, S k = some t → listed.getD k true = false → t.pre w) → LexI I P ops S Q (unlistedT listed T) F a → wpAny P .any ops Q' (fuel + m) listed a w := by
  have hsel := Region.noSelect_spec (ops := ops) (by simp only [laxTB, Bool.and_eq_true] at hB; exact hB.1.1)
  intro fuel
  induction fuel with
  | zero =>
    intro listed F a w hsz hout hl hc hw hF hFp hPre h
    have hnil : unlistedT listed T = [] := List.eq_nil_of_length_eq_zero hl
    rw [hnil] at h
    rw [Nat.zero_add]
    refine wpAny_last hB m l T listed a w (Nat.le_refl _) hsz hTl hll hops (fun i hi => ?_) hout (hQ _ _ (h w hw hF))
    cases hg : listed.getD i true with
    | true => rfl
    | false =>
      have : i ∈ unlistedT listed T := List.mem_filter.2 ⟨List.mem_range.2 hi, by simp only [hg, beq_self_eq_true]⟩
      rw [hnil] at this
      cases this
  | succ fuel ih =>
    intro listed F a w hsz hout hl hc hw hF hFp hPre h
    rw [Nat.add_right_comm]
    refine ⟨fun hr => ?_, fun j hj => ?_⟩
    · exfalso
      cases hu : unlistedT listed T with
      | nil => simp [hu] at hl
      | cons x xs =>
        have hx : x ∈ unlistedT listed T := by rw [hu]; simp
        have hx' := List.mem_filter.1 hx
        have hxT : x < T := List.mem_range.1 hx'.1
        have hxs : x < ops.size := by omega
        have ho : ops[x]? = some ops[x] := Array.getElem?_eq_getElem hxs
        have hsorted : (unlistedT listed T).Pairwise (· < ·) := List.Pairwise.filter _ List.pairwise_lt_range
        have : x ∈ Region.ready .any ops listed := by
          refine mem_ready.2 ⟨by simpa using hx'.2, ops[x], ho, fun e he hb => ?_⟩
          have hed : edge ops e.on x = true := (edge_of ho).2 ⟨e, he, hb, rfl⟩
          have hlt := laxTB_edge hB ho _ hed
          cases hg : listed.getD e.on true with
          | true => exact getD_up (by omega) hg
          | false =>
            have hmem : e.on ∈ unlistedT listed T := List.mem_filter.2 ⟨List.mem_range.2 (by omega), by simp only [hg, beq_self_eq_true]⟩
            rw [hu] at hmem hsorted
            rcases List.mem_cons.1 hmem with e1 | e1
            · omega
            · have := (List.pairwise_cons.1 hsorted).1 _ e1
              omega
        rw [hr] at this
        cases this
    · obtain ⟨h0, oj, hoj, hall⟩ := mem_ready.1 hj
      have hjs : j < ops.size := (Array.getElem?_eq_some_iff.1 hoj).1
      have hdir : ∀ k, edge ops k j = true → listed.getD k false = true := fun k hk => by
        obtain ⟨e, he, hb, rfl⟩ := (edge_of hoj).1 hk
        exact hall e he hb
      have hjT : j < T := by
        rcases Nat.lt_or_ge j T with h1 | h1
        · exact h1
        · exfalso
          cases hu : unlistedT listed T with
          | nil => simp [hu] at hl
          | cons x xs =>
            have hx : x ∈ unlistedT listed T := by rw [hu]; simp
            have hx' := List.mem_filter.1 hx
            have hxT : x < T := List.mem_range.1 hx'.1
            have := anc_listed hc j x j hdir (laxTB_last hB hoj h1 x (by omega))
            rw [getD_flip (by simpa using hx'.2)] at this
            cases this
      have hju : j ∈ unlistedT listed T := List.mem_filter.2 ⟨List.mem_range.2 hjT, by simp only [h0, beq_self_eq_true]⟩
      have hnd : (unlistedT listed T).Nodup := List.Pairwise.filter _ List.nodup_range
      have hsorted : (unlistedT listed T).Pairwise (· < ·) := List.Pairwise.filter _ List.pairwise_lt_range
      have hcm := LexI.commute hoj hw hsel hS (unlistedT listed T) F a hnd hju (fun i hi hij => by
        have hi' := List.mem_filter.1 hi
        have hun : listed.getD i false = false := getD_flip (by simpa using hi'.2)
        have his : i < ops.size := by have := List.mem_range.1 hi'.1; omega
        have hoi : ops[i]? = some ops[i] := Array.getElem?_eq_getElem his
        refine ⟨ops[i], hoi, fun hlt => ?_, ?_, fun hlt => ?_⟩
        · rcases laxTB_apart hB hoj hjT i hlt with he | ⟨oi, hoi', hap⟩
          · have := hdir i he
            rw [hun] at this
            cases this
          · rw [hoi] at hoi'
            cases hoi'
            exact hap
        · cases ha : anc ops 3 i j with
          | false => rfl
          | true =>
            have := anc_listed hc 3 i j hdir ha
            rw [hun] at this
            cases this
        · cases ha : anc ops 3 j i with
          | false => rfl
          | true =>
            have := ancT_lt hB 3 j i ha
            omega) hsorted (fun m _ => hF m) h
      have hsz' : (listed.setIfInBounds j true).size = ops.size := by simp [hsz]
      have hout' : ∀ i, T ≤ i → i < ops.size → (listed.setIfInBounds j true).getD i true = false := fun i hi hi' => by rw [getD_set_ne true (by omega)]; exact hout i hi hi'
      have hlen' : (unlistedT (listed.setIfInBounds j true) T).length = fuel := by
        rw [unlistedT_set (by omega)]
        have he : (unlistedT listed T).filter (· != j) = (unlistedT listed T).erase j := by
          rw [List.Nodup.erase_eq_filter hnd]
        rw [he, List.length_erase_of_mem hju]
        omega
      have hc' : closed ops (listed.setIfInBounds j true) := fun i k hk hik => by
        by_cases hkj : j = k
        · subst hkj
          exact getD_set_true (hdir i hik)
        · rw [getD_set_ne false hkj] at hk
          exact getD_set_true (hc i k hk hik)
      have hFs : (∀ i, (∀ w, F i w) ∨ ∃ s v, S i = some s ∧ F i = s.post v ∧ listed.getD i false = true) → ∀ i, (∀ w, F i w) ∨ ∃ s v, S i = some s ∧ F i = s.post v ∧ (listed.setIfInBounds j true).getD i false = true := fun h i => by
        rcases h i with h1 | ⟨s1, v1, e1, e2, e3⟩
        · exact .inl h1
        · refine .inr ⟨s1, v1, e1, e2, ?_⟩
          by_cases hij : j = i
          · subst hij
            simp [show j < listed.size by omega]
          · rw [getD_set_ne false hij]
            exact e3
      have hPs : ∀ k, (listed.setIfInBounds j true).getD k true = false → k ≠ j ∧ listed.getD k true = false := fun k hl' => by
        by_cases hkj : j = k
        · subst hkj
          simp [show j < listed.size by omega] at hl'
        · rw [getD_set_ne true hkj] at hl'
          exact ⟨fun e => hkj e.symm, hl'⟩
      unfold wpOp
      simp only [hoj]
      simp only [LexI, ClauseI, hoj] at hcm
      rw [← unlistedT_set (by omega)] at hcm
      split
      · rename_i hwant
        simp only [hwant, if_true] at hcm
        refine .inl ?_
        cases hs : S j with
        | none =>
          simp only [hs] at hcm
          obtain ⟨v, hrun, hk⟩ := hcm
          have hr := hrun w hw (fun m _ => hF m)
          unfold Oper.wp
          rw [hr]
          exact ih _ F _ w hsz' hout' hlen' hc' hw hF (hFs hFp) (fun k t hk' hl' => (hPs k hl').elim fun _ q => hPre k t hk' q) hk
        | some s =>
          simp only [hs] at hcm
          refine (hcm.1 w hw (hPre j s hs h0) (fun m _ => hF m)).wp fun v w' ⟨hi', hstep, hpv, hpost⟩ => ?_
          refine ih _ (fset F j (s.post v)) _ w' hsz' hout' hlen' hc' hi' (fun i => ?_) (fun i => ?_) (fun k t hk' hl' => (hPs k hl').elim fun q1 q2 => hpre k t j s hk' hs q1 w w' hstep (hPre k t hk' q2)) (hcm.2 v hpv)
          · unfold fset
            split
            · exact hpost
            · rename_i hij
              rcases hFp i with h1 | ⟨s1, v1, e1, e2, e3⟩
              · exact h1 w'
              · rw [e2]
                refine hp i s1 j s e1 hs (fun e => hij e.symm) ?_ v1 w w' hstep ?_
                · cases ha : anc ops 3 j i with
                  | false => rfl
                  | true =>
                    have h1 := anc_listed hc 3 j i (fun k hk => hc k i e3 hk) ha
                    rw [getD_flip h0] at h1
                    cases h1
                have := hF i
                rw [e2] at this
                exact this
          · by_cases hij : i = j
            · subst hij
              refine .inr ⟨s, v, hs, ?_, ?_⟩
              · unfold fset
                rw [if_pos rfl]
              · simp [show i < listed.size by omega]
            · rcases hFp i with h1 | ⟨s1, v1, e1, e2, e3⟩
              · refine .inl fun w => ?_
                unfold fset
                rw [if_neg hij]
                exact h1 w
              · refine .inr ⟨s1, v1, e1, ?_, ?_⟩
                · unfold fset
                  rw [if_neg hij]
                  exact e2
                · rw [getD_set_ne false (fun e => hij e.symm)]
                  exact e3
      · rename_i hwant
        simp only [hwant] at hcm
        exact ih _ F _ w hsz' hout' hlen' hc' hw hF (hFs hFp) (fun k t hk' hl' => (hPs k hl').elim fun _ q => hPre k t hk' q) hcm

end
section
variable {I : World → Prop} {P : Program} {ops : Array Oper} {S : Nat → Option SpecI} {Q : Act → World → Prop}

variable (I P ops S Q) in
def wpLaxI : List Oper → Nat → (Nat → World → Prop) → Act → Prop
  | [], _, F, a => ∀ w, I w → (∀ i, F i w) → Q a w
  | o :: rest, k, F, a =>
    if Region.wanted o (yielded ops a.tmps) then
      match S k with
      | none => ∃ v, (∀ w, I w → (∀ m, anc ops 3 m k = true → F m w) → (execOp a.eval o).run P w = .ok (.value v) w) ∧ wpLaxI rest (k + 1) F (a.put o.dst v)
      | some s => (∀ w, I w → s.pre w → (∀ m, anc ops 3 m k = true → F m w) → Does P o a w fun v w' => I w' ∧ s.step w w' ∧ s.pv v ∧ s.post v w') ∧ ∀ v, s.pv v → wpLaxI rest (k + 1) (fset F k (s.post v)) (a.put o.dst v)
    else wpLaxI rest (k + 1) F (a.put o.dst undef)

theorem lexI_of_lax : ∀ (l : List Oper) (k : Nat) (F : Nat → World → Prop) (a : Act), (∀ j, l[j]? = ops[k + j]? ∨ l.length ≤ j) → wpLaxI I P ops S Q l k F a → LexI I P ops S Q (List.range' k l.length) F a
  | [], _, _, _, _, h => h
  | o :: l, k, F, a, hl, h => by
    have h0 : ops[k]? = some o := by
      rcases hl 0 with e | e
      · simpa using e.symm
      · simp at e
    have hnext : ∀ j, l[j]? = ops[k + 1 + j]? ∨ l.length ≤ j := fun j => by
      rcases hl (j + 1) with e | e
      · left; rw [List.getElem?_cons_succ] at e; rw [e]; congr 1; omega
      · right; simpa using e
    simp only [List.length_cons, List.range'_succ, LexI, ClauseI, h0]
    unfold wpLaxI at h
    split
    · rename_i hw
      simp only [hw, if_true] at h
      cases hs : S k with
      | none =>
        simp only [hs] at h
        obtain ⟨v, h1, h2⟩ := h
        exact ⟨v, h1, lexI_of_lax l (k + 1) _ _ hnext h2⟩
      | some s =>
        simp only [hs] at h
        exact ⟨h.1, fun v hv => lexI_of_lax l (k + 1) _ _ hnext (h.2 v hv)⟩
    · rename_i hw
      simp only [hw] at h
      exact lexI_of_lax l (k + 1) _ _ hnext h

variable (I P ops S Q) in
/-- The same, shut: Lean does not look into it. -/
structure WLaxI (l : List Oper) (k : Nat) (F : Nat → World → Prop) (a : Act) : Prop where
  out : wpLaxI I P ops S Q l k F a

/-- ONE WALK IN THE ORDER OF THE TEXT, then the last ones. -/
theorem wp_lax_tailI {id : Nat} {Q : Exit → Act → World → Prop} {a : Act} {w : World} {L l r : List Oper} (T : Nat) (S : List (Nat × SpecI)) (hI : I w.drew) (hm : P.follows .mixedOrders = true) (hB : laxTB L.toArray T = true) (hl : L.take T = l) (hr : L.drop T = r) (hT : T ≤ L.length)
    (hS : ∀ x ∈ S, ∃ v, x.2.pv v) (hp : ∀ k s j t, S.lookup k = some s → S.lookup j = some t → j ≠ k → anc L.toArray 3 j k = false → ∀ v w w', t.step w w' → s.post v w → s.post v w') (hpre : ∀ j t k s, S.lookup j = some t → S.lookup k = some s → j ≠ k → ∀ w w', s.step w w' → t.pre w → t.pre w') (hpr0 : ∀ k t, S.lookup k = some t → t.pre w.drew)
    (h : WLaxI I P L.toArray (fun k => S.lookup k) (fun a w => wpList P L.toArray Q r a w) l 0 (fun _ _ => True) a) : (Code.region id L.toArray true).wp P Q a w := by
  have hlook : ∀ (S : List (Nat × SpecI)) k s, S.lookup k = some s → ∃ x ∈ S, x.2 = s := by
    intro S
    induction S with
    | nil => intro k s h; simp at h
    | cons x S ih =>
      intro k s h
      rw [List.lookup_cons] at h
      split at h
      · exact ⟨x, by simp, by simpa using h⟩
      · obtain ⟨y, hy, he⟩ := ih k s h; exact ⟨y, by simp [hy], he⟩
  have hlT : l.length = T := by rw [← hl, List.length_take]; omega
  have hrT : r.length = L.length - T := by rw [← hr, List.length_drop]
  refine wp_region_any hm ?_
  have hu : unlistedT (Array.replicate L.toArray.size false) T = List.range T := by
    unfold unlistedT
    refine List.filter_eq_self.2 fun i hi => ?_
    have : i < T := by simpa using hi
    simp [show i < L.length by omega]
  have h' := lexI_of_lax (ops := L.toArray) l 0 _ a (fun j => by
    rcases Nat.lt_or_ge j T with hj | hj
    · left; rw [← hl, List.getElem?_take_of_lt hj]; simp
    · right; omega) h.out
  rw [hlT, ← List.range_eq_range'] at h'
  have hfin := wpAny_of_lexI (I := I) (P := P) (S := fun k => S.lookup k) (F := fun _ _ => True) (ops := L.toArray) (T := T) (l := r) (m := L.length - T) (Q := fun a w => wpList P L.toArray Q r a w) (Q' := Q) hB (by simp; omega) hrT (fun j => by rw [← hr, List.getElem?_drop]; simp) (fun k s hs => by obtain ⟨x, hx, rfl⟩ := hlook S k s hs; exact hS x hx) hp hpre (fun _ _ h => h)
    T (Array.replicate L.toArray.size false) a w.drew (by simp) (fun i hi hi' => by simp at hi'; simp [hi']) (by rw [hu]; simp) (fun i j hj _ => by
      exfalso
      rw [Array.getD_eq_getD_getElem?, Array.getElem?_replicate] at hj
      split at hj <;> simp at hj)
    hI (fun _ => trivial) (fun _ => .inl fun _ => trivial) (fun k t hk _ => hpr0 k t hk) (by rw [hu]; exact h')
  have hsz : T + (L.length - T) = L.toArray.size := by simp; omega
  rw [hsz] at hfin
  exact hfin

variable {o : Oper} {rest : List Oper} {k : Nat} {F : Nat → World → Prop} {a : Act}

/-- An operation that only reads. -/
theorem laxI_quiet (ht : tame o = true) (hw : Region.wanted o (yielded ops a.tmps) = true) (hS : S k = none)
    (h : ∀ K : Act → Prop, (∀ a, WLaxI I P ops S Q rest (k + 1) F a → K a) → o.quiet P a (fun w' => ∃ x : HoldI I, w' = x.world) K) : WLaxI I P ops S Q (o :: rest) k F a := by
  obtain ⟨v, h1, h2⟩ := h _ fun _ h => h
  constructor
  unfold wpLaxI
  rw [if_pos hw]
  simp only [hS]
  refine ⟨v, fun w hg _ => ?_, h2.out⟩
  have h3 := h1 w ⟨⟨w, hg⟩, rfl⟩
  unfold Oper.quietAt at h3
  have hne := fun n w' => @tame_value P o ht a.eval w w' n
  generalize (execOp a.eval o).run P w = r at *
  cases r with
  | ok n w' =>
    cases n <;> simp only [Oper.quietUpon] at h3
    case value u => rw [h3.1, h3.2]
    case skip => obtain ⟨_, he⟩ := hne _ _ rfl; cases he
    case enter f args => obtain ⟨_, he⟩ := hne _ _ rfl; cases he
  | halt x w' => simp only [Oper.quietUpon] at h3

theorem laxI_skip (hw : Region.wanted o (yielded ops a.tmps) = false) (h : WLaxI I P ops S Q rest (k + 1) F (a.put o.dst undef)) : WLaxI I P ops S Q (o :: rest) k F a := by
  constructor
  unfold wpLaxI
  rw [if_neg (by rw [hw]; exact Bool.false_ne_true)]
  exact h.out

theorem laxI_spec {s : SpecI} (hw : Region.wanted o (yielded ops a.tmps) = true) (hS : S k = some s)
    (h : ∀ w, I w → s.pre w → (∀ m, anc ops 3 m k = true → F m w) → Does P o a w fun v w' => I w' ∧ s.step w w' ∧ s.pv v ∧ s.post v w')
    (hn : ∀ v, s.pv v → WLaxI I P ops S Q rest (k + 1) (fset F k (s.post v)) (a.put o.dst v)) : WLaxI I P ops S Q (o :: rest) k F a := by
  constructor
  unfold wpLaxI
  rw [if_pos hw]
  simp only [hS]
  exact ⟨h, fun v hv => (hn v hv).out⟩

theorem laxI_nil (h : ∀ w, I w → (∀ i, F i w) → Q a w) : WLaxI I P ops S Q [] k F a := ⟨h⟩

end
end Go.Proofs.Ytlkgmjdhggfimad
