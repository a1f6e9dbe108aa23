/- A statement whose order is left open, whose operations write nothing that was there: one walk in the order of the text serves every order, also where calls hand back new memory.
   No condition: these are laws of the model. -/
import Derived.Orders
import Derived.Below
namespace Go.Proofs.Ytlkgmjdhggfimad
open Go.RowKit

/-- All that was there is as it was. -/
def Grew (w w' : World) : Prop := Below w.heap.size w w'
theorem Grew.refl (w : World) : Grew w w := Below.refl _ _
theorem Grew.trans {a b c : World} (h : Grew a b) (k : Grew b c) : Grew a c := Below.trans h (k.mono h.size)

/-- What is known of a value whose address the order leaves open: 'pv' whatever the world, 'post' in the world behind it and in all that grow out of it. -/
structure Spec where
  pv : Value → Prop
  post : Value → World → Prop

def Does (P : Program) (o : Oper) (a : Act) (w : World) (K : Value → World → Prop) : Prop :=
  match (execOp a.eval o).run P w with
  | .ok (.value v) w' => K v w'
  | .ok .skip w' => K undef w'
  | .ok (.enter f args) w' => Calls P f args w' fun e w'' => ∃ v, e = .returned v ∧ K v w''
  | _ => False

theorem Does.wp {P : Program} {o : Oper} {a : Act} {w : World} {K : Value → World → Prop} {next : Act → World → Prop} {Q : Exit → Act → World → Prop}
    (h : Does P o a w K) (hn : ∀ v w', K v w' → next (a.put o.dst v) w') : o.wp P a w next Q := by
  unfold Does at h
  unfold Oper.wp
  generalize (execOp a.eval o).run P w = r at *
  cases r with
  | ok n w' =>
    cases n <;> simp only [Oper.upon] at h ⊢
    case value v => exact hn _ _ h
    case skip => exact hn _ _ h
    case enter f args => exact h.mono fun e w'' ⟨v, he, hk⟩ => by subst he; exact hn _ _ hk
  | halt x w' => simp only at h

/-- j waits for i, at once or by steps. -/
def edge (ops : Array Oper) (i j : Nat) : Bool := ((ops[j]?).map fun o => o.after.any fun e => Region.binds .any e && e.on == i).getD false
def anc (ops : Array Oper) : Nat → Nat → Nat → Bool
  | 0, _, _ => false
  | f + 1, i, j => edge ops i j || (List.range j).any fun k => edge ops k j && anc ops f i k

def fset (F : Nat → World → Prop) (k : Nat) (p : World → Prop) : Nat → World → Prop := fun i => if i = k then p else F i

section
variable (P : Program) (ops : Array Oper) (w0 : World) (S : Nat → Option Spec)

def Clause (i : Nat) (F : Nat → World → Prop) (a : Act) (K : (Nat → World → Prop) → Act → Prop) : Prop :=
  match ops[i]? with
  | none => False
  | some o =>
    if Region.wanted o (yielded ops a.tmps) then
      match S i with
      | none => ∃ v, (∀ w, Grew w0 w → (∀ m, anc ops 3 m i = true → F m w) → (execOp a.eval o).run P w = .ok (.value v) w) ∧ K F (a.put o.dst v)
      | some s => (∀ w, Grew w0 w → (∀ m, anc ops 3 m i = true → F m w) → Does P o a w fun v w' => Grew w w' ∧ s.pv v ∧ s.post v w') ∧ ∀ v, s.pv v → K (fset F i (s.post v)) (a.put o.dst v)
    else K F (a.put o.dst undef)

def LexR (Q : Act → World → Prop) : List Nat → (Nat → World → Prop) → Act → Prop
  | [], F, a => ∀ w, Grew w0 w → (∀ i, F i w) → Q a w
  | i :: l, F, a => Clause P ops w0 S i F a (LexR Q l)
end

section
variable {P : Program} {ops : Array Oper} {w0 : World} {S : Nat → Option Spec}

theorem fset_other {F : Nat → World → Prop} {k m : Nat} {p : World → Prop} (h : m ≠ k) : fset F k p m = F m := by simp [fset, h]
theorem fset_comm {F : Nat → World → Prop} {i j : Nat} {p q : World → Prop} (h : i ≠ j) : fset (fset F i p) j q = fset (fset F j q) i p := by
  funext m
  simp only [fset]
  by_cases h1 : m = j
  · by_cases h2 : m = i
    · omega
    · simp [h1]; intro h3; omega
  · simp [h1]

theorem Clause.mono {i : Nat} {F : Nat → World → Prop} {a : Act} {K K' : (Nat → World → Prop) → Act → Prop}
    (h : ∀ F' a', (∀ m, m ≠ i → F' m = F m) → K F' a' → K' F' a') (hc : Clause P ops w0 S i F a K) : Clause P ops w0 S i F a K' := by
  unfold Clause at *
  split
  · rename_i ho; simp only [ho] at hc
  · rename_i o ho
    simp only [ho] at hc
    split
    · rename_i hw
      simp only [hw, if_true] at hc
      split
      · rename_i hs
        simp only [hs] at hc
        obtain ⟨v, h1, h2⟩ := hc
        exact ⟨v, h1, h _ _ (fun _ _ => rfl) h2⟩
      · rename_i s hs
        simp only [hs] at hc
        exact ⟨hc.1, fun v hv => h _ _ (fun m hm => fset_other hm) (hc.2 v hv)⟩
    · rename_i hw
      simp only [hw] at hc
      exact h _ _ (fun _ _ => rfl) hc

/-- Two that are apart may change places. -/
theorem Clause.swap {i j : Nat} {oi oj : Oper} {F : Nat → World → Prop} {a : Act} {K : (Nat → World → Prop) → Act → Prop} {w : World}
    (hi : ops[i]? = some oi) (hj : ops[j]? = some oj) (hne : i ≠ j) (hap : oi.apart ops oj = true)
    (hsi : ∀ cs b, oi.op ≠ .select cs b) (hsj : ∀ cs b, oj.op ≠ .select cs b)
    (hij : anc ops 3 i j = false) (hji : anc ops 3 j i = false) (hS : ∀ s, S i = some s → ∃ v, s.pv v)
    (hw0 : Grew w0 w) (hF : ∀ m, anc ops 3 m j = true → F m w)
    (h : Clause P ops w0 S i F a fun F' a' => Clause P ops w0 S j F' a' K) : Clause P ops w0 S j F a fun F' a' => Clause P ops w0 S i F' a' K := by
  obtain ⟨h1, h2, h3⟩ := Oper.apart_spec hap
  have ei : ∀ v, execOp (a.put oj.dst v).eval oi = execOp a.eval oi := fun v => execOp_put oi hsi a oj.dst v h3
  have ej : ∀ v, execOp (a.put oi.dst v).eval oj = execOp a.eval oj := fun v => execOp_put oj hsj a oi.dst v h1
  have wi : ∀ v, Region.wanted oi (yielded ops (a.put oj.dst v).tmps) = Region.wanted oi (yielded ops a.tmps) := fun v => wanted_put oi a oj.dst v h3
  have wj : ∀ v, Region.wanted oj (yielded ops (a.put oi.dst v).tmps) = Region.wanted oj (yielded ops a.tmps) := fun v => wanted_put oj a oi.dst v h1
  have di : ∀ v w K, Does P oi (a.put oj.dst v) w K = Does P oi a w K := fun v w K => by unfold Does; rw [ei]
  have dj : ∀ v w K, Does P oj (a.put oi.dst v) w K = Does P oj a w K := fun v w K => by unfold Does; rw [ej]
  have pc : ∀ v u, (a.put oi.dst v).put oj.dst u = (a.put oj.dst u).put oi.dst v := fun v u => Act.put_comm a v u h2
  have fi : ∀ p, (fun m => anc ops 3 m i = true → fset F j p m w = F m w) = fun _ => True := fun p => by
    funext m
    simp only [eq_iff_iff, iff_true]
    intro hm
    rw [fset_other (fun e => by subst e; rw [hji] at hm; cases hm)]
  have faci : ∀ p w', (∀ m, anc ops 3 m i = true → fset F j p m w') ↔ (∀ m, anc ops 3 m i = true → F m w') := fun p w' => by
    constructor <;> intro hh m hm <;> have := hh m hm
    · rwa [fset_other (fun e => by subst e; rw [hji] at hm; cases hm)] at this
    · rwa [fset_other (fun e => by subst e; rw [hji] at hm; cases hm)]
  have facj : ∀ p w', (∀ m, anc ops 3 m j = true → fset F i p m w') ↔ (∀ m, anc ops 3 m j = true → F m w') := fun p w' => by
    constructor <;> intro hh m hm <;> have := hh m hm
    · rwa [fset_other (fun e => by subst e; rw [hij] at hm; cases hm)] at this
    · rwa [fset_other (fun e => by subst e; rw [hij] at hm; cases hm)]
  clear fi
  unfold Clause at h ⊢
  simp only [hi, hj, ei, ej, wi, wj, di, dj, pc] at h ⊢
  cases hwi : Region.wanted oi (yielded ops a.tmps) <;> cases hwj : Region.wanted oj (yielded ops a.tmps) <;>
    simp only [hwi, hwj, if_true, if_false, Bool.false_eq_true] at h ⊢
  · exact h
  · cases hsj' : S j with
    | none => simp only [hsj'] at h ⊢; exact h
    | some s => simp only [hsj'] at h ⊢; exact h
  · cases hsi' : S i with
    | none => simp only [hsi'] at h ⊢; exact h
    | some s => simp only [hsi'] at h ⊢; exact h
  · cases hsi' : S i with
    | none =>
      simp only [hsi'] at h
      obtain ⟨vi, hri, h⟩ := h
      cases hsj' : S j with
      | none =>
        simp only [hsj'] at h ⊢
        obtain ⟨vj, hrj, h⟩ := h
        exact ⟨vj, hrj, vi, hri, h⟩
      | some s =>
        simp only [hsj'] at h ⊢
        exact ⟨h.1, fun vj hvj => ⟨vi, fun w' hw' hf => hri w' hw' ((faci _ _).1 hf), h.2 vj hvj⟩⟩
    | some si =>
      simp only [hsi'] at h
      obtain ⟨hdi, h⟩ := h
      obtain ⟨v1, hv1⟩ := hS si hsi'
      cases hsj' : S j with
      | none =>
        simp only [hsj'] at h ⊢
        obtain ⟨vj, hrj, _⟩ := h v1 hv1
        refine ⟨vj, fun w' hw' hf => hrj w' hw' ((facj _ _).2 hf), hdi, fun vi hvi => ?_⟩
        obtain ⟨vj', hrj', hl⟩ := h vi hvi
        have e1 := hrj w hw0 ((facj _ _).2 hF)
        have e2 := hrj' w hw0 ((facj _ _).2 hF)
        rw [e1] at e2
        simp only [Result.ok.injEq, Next.value.injEq, and_true] at e2
        subst e2
        exact hl
      | some sj =>
        simp only [hsj'] at h ⊢
        refine ⟨fun w' hw' hf => (h v1 hv1).1 w' hw' ((facj _ _).2 hf), fun vj hvj => ⟨fun w' hw' hf => hdi w' hw' ((faci _ _).1 hf), fun vi hvi => ?_⟩⟩
        have := (h vi hvi).2 vj hvj
        rwa [fset_comm hne] at this

theorem LexR.commute {Q : Act → World → Prop} {j : Nat} {oj : Oper} {w : World} (hj : ops[j]? = some oj) (hw0 : Grew w0 w)
    (hsel : ∀ (k : Nat) (o : Oper) cs b, ops[k]? = some o → o.op ≠ .select cs b) (hS : ∀ k s, S k = some s → ∃ v, s.pv v) :
    ∀ (l : List Nat) (F : Nat → World → Prop) (a : Act), l.Nodup → j ∈ l →
      (∀ i ∈ l, i ≠ j → ∃ oi, ops[i]? = some oi ∧ (i < j → oi.apart ops oj = true) ∧ anc ops 3 i j = false ∧ (i < j → anc ops 3 j i = false)) →
      (l.Pairwise (· < ·)) → (∀ m, anc ops 3 m j = true → F m w) → LexR P ops w0 S Q l F a → LexR P ops w0 S Q (j :: l.filter (· != j)) F a
  | [], _, _, _, hm, _, _, _, _ => by cases hm
  | i :: l, F, a, hnd, hm, hall, hsorted, hF, h => by
    by_cases hij : i = j
    · subst hij
      have : (i :: l).filter (· != i) = l := by
        rw [List.filter_cons]
        simp only [bne_self_eq_false, Bool.false_eq_true, if_false]
        refine List.filter_eq_self.2 fun x hx => ?_
        have : x ≠ i := fun e => (List.nodup_cons.1 hnd).1 (e ▸ hx)
        simpa using this
      rw [this]
      exact h
    · have hjl : j ∈ l := by
        rcases List.mem_cons.1 hm with e | e
        · exact absurd e.symm hij
        · exact e
      have hlt : i < j := (List.pairwise_cons.1 hsorted).1 j hjl
      obtain ⟨oi, hoi, hap, haij, haji⟩ := hall i (by simp) hij
      have hf : (i :: l).filter (· != j) = i :: l.filter (· != j) := by
        rw [List.filter_cons]
        have : (i != j) = true := by simpa using hij
        simp [this]
      rw [hf]
      refine Clause.swap hoi hj hij (hap hlt) (fun cs b => hsel i oi cs b hoi) (fun cs b => hsel j oj cs b hj) haij (haji hlt) (hS i) hw0 hF ?_
      refine Clause.mono (fun F' a' hF' hl => ?_) h
      refine LexR.commute hj hw0 hsel hS l F' a' (List.nodup_cons.1 hnd).2 hjl (fun k hk => hall k (by simp [hk])) (List.pairwise_cons.1 hsorted).2 (fun m hma => ?_) hl
      rw [hF' m (fun e => by subst e; rw [haij] at hma; cases hma)]
      exact hF m hma

/-- The order of the text is one of the orders, and whatever doesn't wait for another is apart from it. -/
def laxB (ops : Array Oper) : Bool :=
  Region.noSelect ops && (List.range ops.size).all fun j => match ops[j]? with
    | none => false
    | some oj => oj.after.all (fun e => !Region.binds .any e || decide (e.on < j)) && (List.range j).all fun i => edge ops i j || (match ops[i]? with | some oi => oi.apart ops oj | none => false)

def unlisted (ops : Array Oper) (listed : Array Bool) : List Nat := (List.range ops.size).filter fun i => listed.getD i true == false

theorem edge_of {i j : Nat} {o : Oper} (ho : ops[j]? = some o) : edge ops i j = true ↔ ∃ e ∈ o.after, Region.binds .any e = true ∧ e.on = i := by
  unfold edge
  rw [ho, Option.map_some, Option.getD_some, Array.any_eq_true']
  simp

theorem laxB_spec (hB : laxB ops = true) {j : Nat} {oj : Oper} (hj : ops[j]? = some oj) :
    (∀ i, edge ops i j = true → i < j) ∧ ∀ i, i < j → edge ops i j = true ∨ ∃ oi, ops[i]? = some oi ∧ oi.apart ops oj = true := by
  simp only [laxB, Bool.and_eq_true, List.all_eq_true, List.mem_range] at hB
  have h := hB.2 j (Array.getElem?_eq_some_iff.1 hj).1
  simp only [hj, Bool.and_eq_true, List.all_eq_true, List.mem_range] at h
  refine ⟨fun i hi => ?_, fun i hi => ?_⟩
  · obtain ⟨e, he, hb, rfl⟩ := (edge_of hj).1 hi
    have := Array.all_eq_true_iff_forall_mem.1 h.1 e he
    simpa [hb] using this
  · have := h.2 i hi
    rw [Bool.or_eq_true] at this
    rcases this with h1 | h1
    · exact Or.inl h1
    · right
      cases ho : ops[i]? with
      | none => simp [ho] at h1
      | some oi => simp only [ho] at h1; exact ⟨oi, rfl, h1⟩

theorem edge_some {i j : Nat} (h : edge ops i j = true) : ∃ oj, ops[j]? = some oj := by
  cases hj : ops[j]? with
  | none => simp [edge, hj] at h
  | some oj => exact ⟨oj, rfl⟩

theorem anc_lt (hB : laxB ops = true) : ∀ (f i j : Nat), anc ops f i j = true → i < j
  | 0, _, _, h => by simp [anc] at h
  | f + 1, i, j, h => by
    simp only [anc, Bool.or_eq_true, List.any_eq_true, List.mem_range, Bool.and_eq_true] at h
    rcases h with h | ⟨k, hk, _, h⟩
    · obtain ⟨oj, hj⟩ := edge_some h
      exact (laxB_spec hB hj).1 i h
    · have := anc_lt hB f i k h
      omega

/-- What has come up has come up with all that it waits for. -/
def closed (ops : Array Oper) (listed : Array Bool) : Prop := ∀ i j, listed.getD j false = true → edge ops i j = true → listed.getD i false = true

theorem anc_listed {listed : Array Bool} (hc : closed ops listed) : ∀ (f i j : Nat), (∀ k, edge ops k j = true → listed.getD k false = true) → anc ops f i j = true → listed.getD i false = true
  | 0, _, _, _, h => by simp [anc] at h
  | f + 1, i, j, hj, h => by
    simp only [anc, Bool.or_eq_true, List.any_eq_true, List.mem_range, Bool.and_eq_true] at h
    rcases h with h | ⟨k, _, hkj, h⟩
    · exact hj i h
    · exact anc_listed hc f i k (fun m hm => hc m k (hj k hkj) hm) h

theorem getD_flip {listed : Array Bool} {i : Nat} (h : listed.getD i true = false) : listed.getD i false = false := by
  rcases Nat.lt_or_ge i listed.size with h' | h'
  · simp [h'] at h ⊢; exact h
  · simp [Array.getElem?_eq_none h'] at h

theorem unlisted_set {listed : Array Bool} {j : Nat} (hsz : listed.size = ops.size) (hj : j < ops.size) :
    unlisted ops (listed.setIfInBounds j true) = (unlisted ops listed).filter (· != j) := by
  unfold unlisted
  rw [List.filter_filter]
  refine List.filter_congr fun i hi => ?_
  by_cases h : j = i
  · subst h
    simp [hsz, hj]
  · rw [getD_set_ne true h]
    have : (i != j) = true := by simpa using Ne.symm h
    rw [this, Bool.true_and]

theorem wpAny_of_lexR {Q : Act → World → Prop} {Q' : Exit → Act → World → Prop} (hB : laxB ops = true) (hS : ∀ k s, S k = some s → ∃ v, s.pv v)
    (hp : ∀ k s, S k = some s → ∀ v w w', Grew w w' → s.post v w → s.post v w') (hQ : ∀ a w, Q a w → Q' .normal a w) :
    ∀ (fuel : Nat) (listed : Array Bool) (F : Nat → World → Prop) (a : Act) (w : World), listed.size = ops.size → (unlisted ops listed).length = fuel → closed ops listed → Grew w0 w →
      (∀ i, F i w) → (∀ i w w', Grew w w' → F i w → F i w') → LexR P ops w0 S Q (unlisted ops listed) F a → wpAny P .any ops Q' fuel listed a w := by
  have hsel := Region.noSelect_spec (ops := ops) (by simp only [laxB, Bool.and_eq_true] at hB; exact hB.1)
  intro fuel
  induction fuel with
  | zero =>
    intro listed F a w hsz hl hc hw hF hFp h
    have hnil : unlisted ops listed = [] := List.eq_nil_of_length_eq_zero hl
    rw [hnil] at h
    refine ⟨?_, hQ _ _ (h w hw hF)⟩
    cases hr : Region.ready .any ops listed with
    | nil => rfl
    | cons x xs =>
      have hx : x ∈ Region.ready .any ops listed := by rw [hr]; simp
      obtain ⟨h0, o, ho, _⟩ := mem_ready.1 hx
      have : x ∈ unlisted ops listed := List.mem_filter.2 ⟨List.mem_range.2 (Array.getElem?_eq_some_iff.1 ho).1, by simp only [h0, beq_self_eq_true]⟩
      rw [hnil] at this
      cases this
  | succ fuel ih =>
    intro listed F a w hsz hl hc hw hF hFp h
    refine ⟨fun hr => ?_, fun j hj => ?_⟩
    · exfalso
      cases hu : unlisted ops listed with
      | nil => simp [hu] at hl
      | cons x xs =>
        have hx : x ∈ unlisted ops listed := by rw [hu]; simp
        have hx' := List.mem_filter.1 hx
        have hxs : x < ops.size := List.mem_range.1 hx'.1
        have ho : ops[x]? = some ops[x] := Array.getElem?_eq_getElem hxs
        have hsorted : (unlisted ops listed).Pairwise (· < ·) := List.Pairwise.filter _ List.pairwise_lt_range
        have : x ∈ Region.ready .any ops listed := by
          refine mem_ready.2 ⟨by simpa using hx'.2, ops[x], ho, fun e he hb => ?_⟩
          have hed : edge ops e.on x = true := (edge_of ho).2 ⟨e, he, hb, rfl⟩
          have hlt := (laxB_spec hB ho).1 _ hed
          cases hg : listed.getD e.on true with
          | true =>
            have : e.on < listed.size := by omega
            simp [this] at hg ⊢
            exact hg
          | false =>
            have hmem : e.on ∈ unlisted ops listed := List.mem_filter.2 ⟨List.mem_range.2 (by omega), by simp only [hg, beq_self_eq_true]⟩
            rw [hu] at hmem hsorted
            rcases List.mem_cons.1 hmem with e1 | e1
            · omega
            · have := (List.pairwise_cons.1 hsorted).1 _ e1
              omega
        rw [hr] at this
        cases this
    · obtain ⟨h0, oj, hoj, hall⟩ := mem_ready.1 hj
      have hjs : j < ops.size := (Array.getElem?_eq_some_iff.1 hoj).1
      have hju : j ∈ unlisted ops listed := List.mem_filter.2 ⟨List.mem_range.2 hjs, by simp only [h0, beq_self_eq_true]⟩
      have hdir : ∀ k, edge ops k j = true → listed.getD k false = true := fun k hk => by
        obtain ⟨e, he, hb, rfl⟩ := (edge_of hoj).1 hk
        exact hall e he hb
      have hnd : (unlisted ops listed).Nodup := List.Pairwise.filter _ List.nodup_range
      have hsorted : (unlisted ops listed).Pairwise (· < ·) := List.Pairwise.filter _ List.pairwise_lt_range
      have hcm := LexR.commute hoj hw hsel hS (unlisted ops listed) F a hnd hju (fun i hi hij => by
        have hi' := List.mem_filter.1 hi
        have hun : listed.getD i false = false := getD_flip (by simpa using hi'.2)
        have his : i < ops.size := List.mem_range.1 hi'.1
        have hoi : ops[i]? = some ops[i] := Array.getElem?_eq_getElem his
        refine ⟨ops[i], hoi, fun hlt => ?_, ?_, fun hlt => ?_⟩
        · rcases (laxB_spec hB hoj).2 i hlt with he | ⟨oi, hoi', hap⟩
          · have := hdir i he
            rw [hun] at this
            cases this
          · rw [hoi] at hoi'
            cases hoi'
            exact hap
        · cases ha : anc ops 3 i j with
          | false => rfl
          | true =>
            have := anc_listed hc 3 i j hdir ha
            rw [hun] at this
            cases this
        · cases ha : anc ops 3 j i with
          | false => rfl
          | true =>
            have := anc_lt hB 3 j i ha
            omega) hsorted (fun m _ => hF m) h
      have hsz' : (listed.setIfInBounds j true).size = ops.size := by simp [hsz]
      have hlen' : (unlisted ops (listed.setIfInBounds j true)).length = fuel := by
        rw [unlisted_set hsz hjs]
        have he : (unlisted ops listed).filter (· != j) = (unlisted ops listed).erase j := by
          rw [List.Nodup.erase_eq_filter hnd]
        rw [he, List.length_erase_of_mem hju]
        omega
      have hc' : closed ops (listed.setIfInBounds j true) := fun i k hk hik => by
        by_cases hkj : j = k
        · subst hkj
          exact getD_set_true (hdir i hik)
        · rw [getD_set_ne false hkj] at hk
          exact getD_set_true (hc i k hk hik)
      unfold wpOp
      simp only [hoj]
      simp only [LexR, Clause, hoj] at hcm
      rw [← unlisted_set hsz hjs] at hcm
      split
      · rename_i hwant
        simp only [hwant, if_true] at hcm
        refine .inl ?_
        cases hs : S j with
        | none =>
          simp only [hs] at hcm
          obtain ⟨v, hrun, hk⟩ := hcm
          have hr := hrun w hw (fun m _ => hF m)
          unfold Oper.wp
          rw [hr]
          exact ih _ F _ w hsz' hlen' hc' hw hF hFp hk
        | some s =>
          simp only [hs] at hcm
          refine (hcm.1 w hw (fun m _ => hF m)).wp fun v w' ⟨hg, hpv, hpost⟩ => ?_
          refine ih _ (fset F j (s.post v)) _ w' hsz' hlen' hc' (hw.trans hg) (fun i => ?_) (fun i x y hxy hx => ?_) (hcm.2 v hpv)
          · unfold fset
            split
            · exact hpost
            · exact hFp i w w' hg (hF i)
          · unfold fset at *
            split
            · rename_i he; simp only [he, if_true] at hx; exact hp j s hs v x y hxy hx
            · rename_i he; simp only [he, if_false] at hx; exact hFp i x y hxy hx
      · rename_i hwant
        simp only [hwant] at hcm
        exact ih _ F _ w hsz' hlen' hc' hw hF hFp hcm

/-- ONE WALK IN THE ORDER OF THE TEXT: the region's operations, written out. -/
theorem wp_region_lax {id : Nat} {Q : Exit → Act → World → Prop} {a : Act} {w : World} {l : List Oper} (S : List (Nat × Spec)) (hm : P.follows .mixedOrders = true) (hB : laxB l.toArray = true)
    (hS : ∀ x ∈ S, ∃ v, x.2.pv v) (hp : ∀ x ∈ S, ∀ v w w', Grew w w' → x.2.post v w → x.2.post v w')
    (h : LexR P l.toArray w (fun k => S.lookup k) (fun a w => Q .normal a w) (List.range l.length) (fun _ _ => True) a) : (Code.region id l.toArray true).wp P Q a w := by
  have hlook : ∀ (S : List (Nat × Spec)) k s, S.lookup k = some s → ∃ x ∈ S, x.2 = s := by
    intro S
    induction S with
    | nil => intro k s h; simp at h
    | cons x S ih =>
      intro k s h
      rw [List.lookup_cons] at h
      split at h
      · exact ⟨x, by simp, by simpa using h⟩
      · obtain ⟨y, hy, he⟩ := ih k s h; exact ⟨y, by simp [hy], he⟩
  refine wp_region_any hm ?_
  have hu : unlisted l.toArray (Array.replicate l.toArray.size false) = List.range l.length := by
    unfold unlisted
    refine (List.filter_eq_self.2 fun i hi => ?_).trans (by simp)
    have : i < l.length := by simpa using hi
    simp [this]
  refine wpAny_of_lexR (w0 := w) (S := fun k => S.lookup k) (F := fun _ _ => True) hB (fun k s hs => ?_) (fun k s hs => ?_) (Q := fun a w => Q .normal a w) (fun _ _ h => h) _ _ a _ (by simp) (by rw [hu]; simp) (fun i j hj _ => ?_)
    (show Below _ _ _ from (Below.refl _ _).drew) (fun _ => trivial) (fun _ _ _ _ _ => trivial) (by rw [hu]; exact h)
  · obtain ⟨x, hx, rfl⟩ := hlook S k s hs; exact hS x hx
  · obtain ⟨x, hx, rfl⟩ := hlook S k s hs; exact hp x hx
  · exfalso
    rw [Array.getD_eq_getD_getElem?, Array.getElem?_replicate] at hj
    split at hj <;> simp at hj

end
end Go.Proofs.Ytlkgmjdhggfimad
