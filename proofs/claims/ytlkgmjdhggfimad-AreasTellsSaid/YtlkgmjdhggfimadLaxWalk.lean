/- The walk of a statement whose order is left open, operation by operation, in the order of the text.
   No condition: these are laws of the model. -/
import Derived.Test.YtlkgmjdhggfimadLax
import Derived.Deep.QuietTactic
import Derived.BigQuiet
namespace Go.Proofs.Ytlkgmjdhggfimad
open Go.RowKit

/-- A world that grew out of w0. -/
structure GrownW (w0 : World) where
  world : World
  grew : Grew w0 world

/-- Operations that enter no function. -/
def tame (o : Oper) : Bool :=
  match o.op with
  | .move _ | .assign _ | .pick .. | .build .. | .load .. | .binOp .. | .unOp .. | .convert .. | .fieldAddr .. | .field .. | .indexAddr .. | .index .. | .extract .. | .slice .. | .lookup .. => true
  | .call { callee := .builtin .len, .. } | .call { callee := .builtin .cap, .. } | .call { callee := .builtin .max, .. } | .call { callee := .builtin .min, .. } => true
  | _ => false

theorem value_only {P : Program} {α : Type} {s : Sem α} {g : α → Value} {w w' : World} {n : Next} : (s >>= fun v => pure (Next.value (g v))).run P w = .ok n w' → ∃ v, n = .value v := by
  intro h
  rw [Sem.run_bind] at h
  cases hs : s.run P w with
  | ok x w1 => simp [hs, Result.andThen, Sem.run_pure] at h; exact ⟨_, h.1.symm⟩
  | halt x w1 => simp [hs, Result.andThen] at h

section
variable {P : Program} {ops : Array Oper} {w0 : World} {S : Nat → Option Spec} {Q : Act → World → Prop}

variable (P ops w0 S Q) in
def wpLax : List Oper → Nat → (Nat → World → Prop) → Act → Prop
  | [], _, F, a => ∀ w, Grew w0 w → (∀ i, F i w) → Q a w
  | o :: rest, k, F, a =>
    if Region.wanted o (yielded ops a.tmps) then
      match S k with
      | none => ∃ v, (∀ w, Grew w0 w → (∀ m, anc ops 3 m k = true → F m w) → (execOp a.eval o).run P w = .ok (.value v) w) ∧ wpLax rest (k + 1) F (a.put o.dst v)
      | some s => (∀ w, Grew w0 w → (∀ m, anc ops 3 m k = true → F m w) → Does P o a w fun v w' => Grew w w' ∧ s.pv v ∧ s.post v w') ∧ ∀ v, s.pv v → wpLax rest (k + 1) (fset F k (s.post v)) (a.put o.dst v)
    else wpLax rest (k + 1) F (a.put o.dst undef)

theorem lexR_of_lax : ∀ (l : List Oper) (k : Nat) (F : Nat → World → Prop) (a : Act), (∀ j, l[j]? = ops[k + j]? ∨ l.length ≤ j) → wpLax P ops w0 S Q l k F a → LexR P ops w0 S Q (List.range' k l.length) F a
  | [], _, _, _, _, h => h
  | o :: l, k, F, a, hl, h => by
    have h0 : ops[k]? = some o := by
      rcases hl 0 with e | e
      · simpa using e.symm
      · simp at e
    have hnext : ∀ j, l[j]? = ops[k + 1 + j]? ∨ l.length ≤ j := fun j => by
      rcases hl (j + 1) with e | e
      · left; rw [List.getElem?_cons_succ] at e; rw [e]; congr 1; omega
      · right; simpa using e
    simp only [List.length_cons, List.range'_succ, LexR, Clause, h0]
    unfold wpLax at h
    split
    · rename_i hw
      simp only [hw, if_true] at h
      cases hs : S k with
      | none =>
        simp only [hs] at h
        obtain ⟨v, h1, h2⟩ := h
        exact ⟨v, h1, lexR_of_lax l (k + 1) _ _ hnext h2⟩
      | some s =>
        simp only [hs] at h
        exact ⟨h.1, fun v hv => lexR_of_lax l (k + 1) _ _ hnext (h.2 v hv)⟩
    · rename_i hw
      simp only [hw] at h
      exact lexR_of_lax l (k + 1) _ _ hnext h

variable (P ops w0 S Q) in
/-- The same, shut: Lean does not look into it. -/
structure WLax (l : List Oper) (k : Nat) (F : Nat → World → Prop) (a : Act) : Prop where
  out : wpLax P ops w0 S Q l k F a

theorem wp_lax {id : Nat} {Q : Exit → Act → World → Prop} {a : Act} {w : World} {l : List Oper} (S : List (Nat × Spec)) (hm : P.follows .mixedOrders = true) (hB : laxB l.toArray = true)
    (hS : ∀ x ∈ S, ∃ v, x.2.pv v) (hp : ∀ x ∈ S, ∀ v w w', Grew w w' → x.2.post v w → x.2.post v w')
    (h : WLax P l.toArray w (fun k => S.lookup k) (fun a w => Q .normal a w) l 0 (fun _ _ => True) a) : (Code.region id l.toArray true).wp P Q a w := by
  refine wp_region_lax S hm hB hS hp ?_
  have := lexR_of_lax (ops := l.toArray) l 0 _ a (fun j => by simp) h.out
  rwa [List.range_eq_range']

variable {o : Oper} {rest : List Oper} {k : Nat} {F : Nat → World → Prop} {a : Act}

theorem tame_value (ht : tame o = true) {ρ : Operand → Value} {w w' : World} {n : Next} : (execOp ρ o).run P w = .ok n w' → ∃ v, n = .value v := by
  obtain ⟨dst, op, type, pos, after, guard⟩ := o
  cases op <;> simp only [tame, Bool.false_eq_true] at ht <;> simp only [execOp]
  all_goals first
    | exact value_only (g := id)
    | exact value_only
    | (intro h; simp [Sem.run_pure] at h; exact ⟨_, h.1.symm⟩)
    | skip
  rename_i c
  obtain ⟨callee, as, ts⟩ := c
  cases callee with
  | value _ => simp at ht
  | invoke _ _ => simp at ht
  | builtin b =>
    cases b <;> simp only [Bool.false_eq_true] at ht <;> simp only [resolve, pure_bind, invoke, builtin] <;> exact value_only (g := id)

/-- An operation that only reads. -/
theorem lax_quiet (ht : tame o = true) (hw : Region.wanted o (yielded ops a.tmps) = true) (hS : S k = none)
    (h : ∀ K : Act → Prop, (∀ a, WLax P ops w0 S Q rest (k + 1) F a → K a) → o.quiet P a (fun w' => ∃ x : GrownW w0, w' = x.world) K) : WLax P ops w0 S Q (o :: rest) k F a := by
  obtain ⟨v, h1, h2⟩ := h _ fun _ h => h
  constructor
  unfold wpLax
  rw [if_pos hw]
  simp only [hS]
  refine ⟨v, fun w hg _ => ?_, h2.out⟩
  have h3 := h1 w ⟨⟨w, hg⟩, rfl⟩
  unfold Oper.quietAt at h3
  have hne := fun n w' => @tame_value P o ht a.eval w w' n
  generalize (execOp a.eval o).run P w = r at *
  cases r with
  | ok n w' =>
    cases n <;> simp only [Oper.quietUpon] at h3
    case value u => rw [h3.1, h3.2]
    case skip => obtain ⟨_, he⟩ := hne _ _ rfl; cases he
    case enter f args => obtain ⟨_, he⟩ := hne _ _ rfl; cases he
  | halt x w' => simp only [Oper.quietUpon] at h3

theorem lax_skip (hw : Region.wanted o (yielded ops a.tmps) = false) (h : WLax P ops w0 S Q rest (k + 1) F (a.put o.dst undef)) : WLax P ops w0 S Q (o :: rest) k F a := by
  constructor
  unfold wpLax
  rw [if_neg (by rw [hw]; exact Bool.false_ne_true)]
  exact h.out

theorem lax_spec {s : Spec} (hw : Region.wanted o (yielded ops a.tmps) = true) (hS : S k = some s)
    (h : ∀ w, Grew w0 w → (∀ m, anc ops 3 m k = true → F m w) → Does P o a w fun v w' => Grew w w' ∧ s.pv v ∧ s.post v w')
    (hn : ∀ v, s.pv v → WLax P ops w0 S Q rest (k + 1) (fset F k (s.post v)) (a.put o.dst v)) : WLax P ops w0 S Q (o :: rest) k F a := by
  constructor
  unfold wpLax
  rw [if_pos hw]
  simp only [hS]
  exact ⟨h, fun v hv => (hn v hv).out⟩

theorem lax_nil (h : ∀ w, Grew w0 w → (∀ i, F i w) → Q a w) : WLax P ops w0 S Q [] k F a := ⟨h⟩

/-- A call of a Go function, by its contract. -/
theorem Does.call {w : World} {K : Value → World → Prop} {f : FuncId} {xs : List Operand} {ts : Array TypeId} {fn : Func} (args : List Value)
    (ho : o.op = .call { callee := .value (.func f), args := xs.toArray, argTypes := ts }) (hf : P.funcs[f]? = some fn) (hb : fn.body.isNone = false) (hn : (fn.name == "runtime.NumGoroutine") = false)
    (ha : xs.map a.eval = args) (h : Calls P f args.toArray w fun e w' => ∃ v, e = .returned v ∧ K v w') : Does P o a w K := by
  have hr : (execOp a.eval o).run P w = .ok (.enter f args.toArray) w := by
    have he : a.eval (.func f) = .func (.func f) #[] #[] := rfl
    simp only [execOp, ho, resolve, he, List.map_toArray, ha, Deferred.ofValue, pure_bind, invoke]
    have hn' : fn.name ≠ "runtime.NumGoroutine" := by simpa using hn
    have hb' : fn.body ≠ none := fun e => by rw [e] at hb; cases hb
    simp [callFunc, hf, hb', hn', program, Sem.run_bind, Sem.run]
  unfold Does
  rw [hr]
  exact h

theorem Does.convert {w : World} {K : Value → World → Prop} {src dst : TypeId} {x : Operand} {v : Value} (ho : o.op = .convert src dst x) (hr : (Go.convert src dst (a.eval x)).run P w = .ok v w) (h : K v w) : Does P o a w K := by
  have hr' : (execOp a.eval o).run P w = .ok (.value v) w := by
    simp only [execOp, ho, Sem.run_bind, hr, Result.andThen, Sem.run_pure]
  unfold Does
  rw [hr']
  exact h

theorem Does.value {w : World} {K : Value → World → Prop} {v : Value} (hr : (execOp a.eval o).run P w = .ok (.value v) w) (h : K v w) : Does P o a w K := by
  unfold Does
  rw [hr]
  exact h

end
end Go.Proofs.Ytlkgmjdhggfimad
