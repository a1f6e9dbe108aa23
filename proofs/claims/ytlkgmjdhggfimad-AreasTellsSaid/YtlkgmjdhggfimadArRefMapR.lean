/- The region of Map (the document's answer) in which two answers of Ones are laid into two variables, in whatever order. -/
import Derived.Test.YtlkgmjdhggfimadArRefOnes
import Derived.Test.YtlkgmjdhggfimadLaxTail
import Derived.OrdersHeld
namespace Go.Proofs.Ytlkgmjdhggfimad
open Go.RowKit

theorem wpOp_does {P : Program} {ops : Array Oper} {Q : Exit → Act → World → Prop} {i : Nat} {o : Oper} {a : Act} {w : World} {next : Act → World → Prop} (d : Option Tmp) (K : Value → World → Prop) (hi : ops[i]? = some o) (hd : o.dst = d) (hw : Region.wanted o (yielded ops a.tmps) = true) (h : Does P o a w K) (hn : ∀ v w', K v w' → next (a.put d v) w') : wpOp P ops Q i next a w := by
  subst hd
  unfold wpOp
  simp only [hi, hw, if_true]
  exact .inl (h.wp hn)
theorem Does.allocOnes {o : Oper} {a : Act} {w : World} {K : Value → World → Prop} (ho : o.op = .alloc 49) (h : K (.pointer (some ⟨w.heap.size, 0, none⟩)) (w.alloc (.cells (cellsO (tab fun _ => on0)).toArray 49))) : Does Try.prog o a w K := by
  have hz := run_zeroO w
  generalize cellsO (tab fun _ => on0) = Z at hz h
  unfold Does
  have : (execOp a.eval o).run Try.prog w = .ok (.value (.pointer (some ⟨w.heap.size, 0, none⟩))) (w.alloc (.cells Z.toArray 49)) := by
    simp [execOp, ho, go_sem, hz]
  rw [this]
  exact h
theorem Does.storeAll {o : Oper} {a : Act} {w : World} {K : Value → World → Prop} (ty : TypeId) (p x : Operand) (ho : o.op = .store ty p x) (b : Nat) (hp : a.eval p = .pointer (some ⟨b, 0, none⟩)) (vs : List Value) (hx : a.eval x = .agg vs.toArray)
    {cs : List Value} (hb : Box w b cs) (hl : vs.length = cs.length) (hi : (Try.prog.info? ty).map (·.size) = some cs.length) (h1 : ∀ v ∈ vs, v.oneCell' = true)
    (h : ∀ w', Box w' b vs → w.grownBy w' (some b) → w'.heap.size = w.heap.size → K undef w') : Does Try.prog o a w K := by
  unfold Does
  have hr : (execOp a.eval o).run Try.prog w = .ok .skip (w.setCells b 0 vs) := by
    have := run_storeAt_mid (P := Try.prog) w b 0 ty vs.toArray (by simpa [hl] using hb.there) (by simpa [hl] using hi) (all_oneCell_toArray h1)
    simp only [execOp, ho, hp, hx, Sem.run_bind, this, Result.andThen_ok, Sem.run_pure]
  rw [hr]
  have hp := hb.part (ds := vs) (o := 0) (by omega)
  rw [splice_all hl] at hp
  exact h _ hp (setCells_grown b vs 0 w).1 (setCells_grown b vs 0 w).2
theorem Does.oneArea {o : Oper} {a : Act} {w : World} {K : Value → World → Prop} (x : Operand) (ho : o.op = .buildSlice 35 1 #[(0, x)]) (q : Ar) (hx : a.eval x = arA q) (h : K (.slice (some ⟨w.heap.size, 0, none⟩) 1 1) (w.alloc (.cells (arv q).toArray 37))) : Does Try.prog o a w K := by
  unfold Does
  have : (execOp a.eval o).run Try.prog w = .ok (.value (.slice (some ⟨w.heap.size, 0, none⟩) 1 1)) (w.alloc (.cells (arv q).toArray 37)) := by
    simp only [execOp, ho, List.map_toArray, List.map_cons, List.map_nil, hx]
    simp [go_sem, arA, arv]
  rw [this]
  exact h
theorem Does.val {o : Oper} {a : Act} {w : World} {K : Value → World → Prop} {v : Value} (hr : (execOp a.eval o).run Try.prog w = .ok (.value v) w) (h : K v w) : Does Try.prog o a w K := by
  unfold Does
  rw [hr]
  exact h

theorem run_loadA {a : Act} {o : Oper} (x : Operand) (ho : o.op = .load 37 x) (b : Nat) (hx : a.eval x = .pointer (some ⟨b, 0, none⟩)) {q : Ar} {w : World} (hb : Box w b (arv q)) : (execOp a.eval o).run Try.prog w = .ok (.value (arA q)) w := by
  have := run_loadAt_mid (P := Try.prog) w b 0 37 (arv q) _ hb.range Try.underlying37 rfl Try.sizeArea
  simp only [execOp, ho, hx, Sem.run_bind, this, Result.andThen_ok, Sem.run_pure]
  rfl

def mapOps : List Oper := [
  { dst := some 23, op := .move (.tmp 0), type := 35, pos := "ref.go:325", after := #[], guard := none },
  { dst := some 24, op := .call { callee := .value (.func 22), args := #[.tmp 23], argTypes := #[35] }, type := 49, pos := "ref.go:325", after := #[{ on := 0, ground := .data }], guard := none },
  { dst := some 25, op := .load 37 (.tmp 3), type := 37, pos := "ref.go:325", after := #[], guard := none },
  { dst := some 26, op := .buildSlice 35 1 #[(0, .tmp 25)], type := 35, pos := "ref.go:325", after := #[{ on := 2, ground := .data }], guard := none },
  { dst := some 27, op := .call { callee := .value (.func 22), args := #[.tmp 26], argTypes := #[35] }, type := 49, pos := "ref.go:325", after := #[{ on := 3, ground := .data }, { on := 1, ground := .chain }], guard := none },
  { dst := some 8, op := .alloc 49, type := 0, pos := "ref.go:325", after := #[], guard := none },
  { dst := some 9, op := .alloc 49, type := 0, pos := "ref.go:325", after := #[], guard := none },
  { dst := none, op := .store 49 (.tmp 8) (.tmp 24), type := 0, pos := "ref.go:325", after := #[{ on := 5, ground := .data }, { on := 1, ground := .data }, { on := 4, ground := .chain }, { on := 0, ground := .phase }, { on := 1, ground := .phase }, { on := 2, ground := .textOnly .lateStores }, { on := 3, ground := .textOnly .lateStores }, { on := 4, ground := .textOnly .lateStoresUnsure }, { on := 5, ground := .phase }, { on := 6, ground := .phase }], guard := none },
  { dst := none, op := .store 49 (.tmp 9) (.tmp 27), type := 0, pos := "ref.go:325", after := #[{ on := 6, ground := .data }, { on := 4, ground := .data }, { on := 7, ground := .chain }, { on := 0, ground := .phase }, { on := 1, ground := .phase }, { on := 2, ground := .phase }, { on := 3, ground := .phase }, { on := 4, ground := .phase }, { on := 5, ground := .phase }, { on := 6, ground := .phase }, { on := 7, ground := .phase }], guard := none }]

theorem map_some : ∀ l0 l1 l2 l3 l4 l5 l6 : Bool, (Region.ready .any mapOps.toArray #[l0, l1, l2, l3, l4, l5, l6, false, false]).isEmpty = false ∨ (l4 = true ∧ (l1 = false ∨ l3 = false)) ∨ (l1 = true ∧ l0 = false) ∨ (l3 = true ∧ l2 = false) := by decide +kernel
theorem map_nextB : ∀ l0 l1 l2 l3 l4 l5 l6 : Bool, (!((!l1 || l0) && (!l3 || l2) && (!l4 || (l1 && l3))) || (Region.ready .any mapOps.toArray #[l0, l1, l2, l3, l4, l5, l6, false, false]).all fun i => (i == 0 && !l0) || (i == 1 && !l1 && l0) || (i == 2 && !l2) || (i == 3 && !l3 && l2) || (i == 4 && !l4 && l1 && l3) || (i == 5 && !l5) || (i == 6 && !l6) || (i == 7 && l0 && l1 && l2 && l3 && l4 && l5 && l6)) = true := by decide +kernel
theorem map_next (l0 l1 l2 l3 l4 l5 l6 : Bool) (i : Nat) (c1 : l1 = true → l0 = true) (c3 : l3 = true → l2 = true) (c4 : l4 = true → l1 = true ∧ l3 = true) (hi : i ∈ Region.ready .any mapOps.toArray #[l0, l1, l2, l3, l4, l5, l6, false, false]) : (i = 0 ∧ l0 = false) ∨ (i = 1 ∧ l1 = false ∧ l0 = true) ∨ (i = 2 ∧ l2 = false) ∨ (i = 3 ∧ l3 = false ∧ l2 = true) ∨ (i = 4 ∧ l4 = false ∧ l1 = true ∧ l3 = true) ∨ (i = 5 ∧ l5 = false) ∨ (i = 6 ∧ l6 = false) ∨ (i = 7 ∧ l0 = true ∧ l1 = true ∧ l2 = true ∧ l3 = true ∧ l4 = true ∧ l5 = true ∧ l6 = true) := by
  have hc : ((!l1 || l0) && (!l3 || l2) && (!l4 || (l1 && l3))) = true := by
    cases l0 <;> cases l1 <;> cases l2 <;> cases l3 <;> cases l4 <;> simp at c1 c3 c4 ⊢
  have hb := map_nextB l0 l1 l2 l3 l4 l5 l6
  rw [hc, Bool.not_true, Bool.false_or] at hb
  have h := List.all_eq_true.1 hb i hi
  simpa [and_assoc, or_assoc] using h

/-- What holds when some of the operations have come up. -/
structure MapInv (W0 : World) (v : Value) (q : Ar) (O1 O2 Z0 : List Value) (l0 l1 l2 l3 l4 l5 l6 : Bool) (t23 t24 t25 t26 t27 t8 t9 : Value) (W : World) : Prop where
  g : Grew W0 W
  h0 : l0 = true → t23 = v
  h1 : l1 = true → t24 = .agg O1.toArray
  h2 : l2 = true → t25 = arA q
  h3 : l3 = true → RowAt arE W t26 [q]
  h4 : l4 = true → t27 = .agg O2.toArray
  h5 : l5 = true → ∃ b, t8 = .pointer (some ⟨b, 0, none⟩) ∧ Box W b Z0 ∧ W0.heap.size ≤ b
  h6 : l6 = true → ∃ b, t9 = .pointer (some ⟨b, 0, none⟩) ∧ Box W b Z0 ∧ W0.heap.size ≤ b
  ne : l5 = true → l6 = true → t8 ≠ t9
  c1 : l1 = true → l0 = true
  c3 : l3 = true → l2 = true
  c4 : l4 = true → l1 = true ∧ l3 = true

section
variable {W0 : World} {v : Value} {q : Ar} {O1 O2 Z0 : List Value} {l0 l1 l2 l3 l4 l5 l6 : Bool} {t23 t24 t25 t26 t27 t8 t9 : Value} {W W' : World}
theorem MapInv.grew (h : MapInv W0 v q O1 O2 Z0 l0 l1 l2 l3 l4 l5 l6 t23 t24 t25 t26 t27 t8 t9 W) (k : Grew W W') : MapInv W0 v q O1 O2 Z0 l0 l1 l2 l3 l4 l5 l6 t23 t24 t25 t26 t27 t8 t9 W' :=
  ⟨h.g.trans k, h.h0, h.h1, h.h2, fun e => (h.h3 e).grew k, h.h4, fun e => by obtain ⟨b, x, y, z⟩ := h.h5 e; exact ⟨b, x, y.grew k, z⟩, fun e => by obtain ⟨b, x, y, z⟩ := h.h6 e; exact ⟨b, x, y.grew k, z⟩, h.ne, h.c1, h.c3, h.c4⟩

def mapLeft (l0 l1 l2 l3 l4 l5 l6 : Bool) : Nat := (!l0).toNat + (!l1).toNat + (!l2).toNat + (!l3).toNat + (!l4).toNat + (!l5).toNat + (!l6).toNat

set_option maxRecDepth 100000 in
set_option maxHeartbeats 2000000 in
theorem map_region {id : Nat} {Q : Exit → Act → World → Prop} {pa : Nat} {l : List Ar} (A : Value → Value → Value → Value → Value → Value → Value → Act)
    (e0 : ∀ x23 x24 x25 x26 x27 x8 x9, (A x23 x24 x25 x26 x27 x8 x9).eval (.tmp 0) = v) (e3 : ∀ x23 x24 x25 x26 x27 x8 x9, (A x23 x24 x25 x26 x27 x8 x9).eval (.tmp 3) = .pointer (some ⟨pa, 0, none⟩))
    (e23 : ∀ x23 x24 x25 x26 x27 x8 x9, (A x23 x24 x25 x26 x27 x8 x9).eval (.tmp 23) = x23) (e24 : ∀ x23 x24 x25 x26 x27 x8 x9, (A x23 x24 x25 x26 x27 x8 x9).eval (.tmp 24) = x24) (e25 : ∀ x23 x24 x25 x26 x27 x8 x9, (A x23 x24 x25 x26 x27 x8 x9).eval (.tmp 25) = x25) (e26 : ∀ x23 x24 x25 x26 x27 x8 x9, (A x23 x24 x25 x26 x27 x8 x9).eval (.tmp 26) = x26) (e27 : ∀ x23 x24 x25 x26 x27 x8 x9, (A x23 x24 x25 x26 x27 x8 x9).eval (.tmp 27) = x27) (e8 : ∀ x23 x24 x25 x26 x27 x8 x9, (A x23 x24 x25 x26 x27 x8 x9).eval (.tmp 8) = x8) (e9 : ∀ x23 x24 x25 x26 x27 x8 x9, (A x23 x24 x25 x26 x27 x8 x9).eval (.tmp 9) = x9)
    (p23 : ∀ x23 x24 x25 x26 x27 x8 x9 y, (A x23 x24 x25 x26 x27 x8 x9).put (some 23) y = A y x24 x25 x26 x27 x8 x9) (p24 : ∀ x23 x24 x25 x26 x27 x8 x9 y, (A x23 x24 x25 x26 x27 x8 x9).put (some 24) y = A x23 y x25 x26 x27 x8 x9) (p25 : ∀ x23 x24 x25 x26 x27 x8 x9 y, (A x23 x24 x25 x26 x27 x8 x9).put (some 25) y = A x23 x24 y x26 x27 x8 x9) (p26 : ∀ x23 x24 x25 x26 x27 x8 x9 y, (A x23 x24 x25 x26 x27 x8 x9).put (some 26) y = A x23 x24 x25 y x27 x8 x9) (p27 : ∀ x23 x24 x25 x26 x27 x8 x9 y, (A x23 x24 x25 x26 x27 x8 x9).put (some 27) y = A x23 x24 x25 x26 y x8 x9) (p8 : ∀ x23 x24 x25 x26 x27 x8 x9 y, (A x23 x24 x25 x26 x27 x8 x9).put (some 8) y = A x23 x24 x25 x26 x27 y x9) (p9 : ∀ x23 x24 x25 x26 x27 x8 x9 y, (A x23 x24 x25 x26 x27 x8 x9).put (some 9) y = A x23 x24 x25 x26 x27 x8 y)
    (pn : ∀ x23 x24 x25 x26 x27 x8 x9 y, (A x23 x24 x25 x26 x27 x8 x9).put none y = A x23 x24 x25 x26 x27 x8 x9)
    (hv : RowAt arE W0 v l) (hl : Lies l) (ha : ArOk q) (hb : Box W0 pa (arv q))
    (hQ : ∀ W b8 b9 x26, b8 ≠ b9 → Grew W0 W → Box W b8 (cellsO (tab (onAt l))) → Box W b9 (cellsO (tab (onAt [q]))) → W0.heap.size ≤ b8 → W0.heap.size ≤ b9 → Q .normal (A v (.agg (cellsO (tab (onAt l))).toArray) (arA q) x26 (.agg (cellsO (tab (onAt [q]))).toArray) (.pointer (some ⟨b8, 0, none⟩)) (.pointer (some ⟨b9, 0, none⟩))) W)
    (x23 x24 x25 x26 x27 x8 x9 : Value) : (Code.region id mapOps.toArray true).wp Try.prog Q (A x23 x24 x25 x26 x27 x8 x9) W0 := by
  have hO1 : (cellsO (tab (onAt l))).length = 384 := tabO_len _
  have hO2 : (cellsO (tab (onAt [q]))).length = 384 := tabO_len _
  have hZ : (cellsO (tab fun _ => on0)).length = 384 := tabO_len _
  have hc1 : ∀ W, Grew W0 W → Calls Try.prog 22 #[v] W fun e w' => e = .returned (.agg (cellsO (tab (onAt l))).toArray) ∧ Grew W w' := fun W hW => refOnes_any v l W (hv.grew hW) hl
  have hc2 : ∀ W u, RowAt arE W u [q] → Calls Try.prog 22 #[u] W fun e w' => e = .returned (.agg (cellsO (tab (onAt [q]))).toArray) ∧ Grew W w' := fun W u hu => refOnes_any u [q] W hu (lies_one ha)
  have hn1 := cellsO_one (tab (onAt l))
  have hn2 := cellsO_one (tab (onAt [q]))
  have hal : ∀ W : World, Box (W.alloc (.cells (cellsO (tab fun _ => on0)).toArray 49)) W.heap.size (cellsO (tab fun _ => on0)) := fun W => Box.top _ _ _ rfl
  generalize cellsO (tab (onAt l)) = O1 at *
  generalize cellsO (tab (onAt [q])) = O2 at *
  have main : ∀ (n : Nat) (l0 l1 l2 l3 l4 l5 l6 : Bool) (x23 x24 x25 x26 x27 x8 x9 : Value) (W : World), mapLeft l0 l1 l2 l3 l4 l5 l6 = n → MapInv W0 v q O1 O2 (cellsO (tab fun _ => on0)) l0 l1 l2 l3 l4 l5 l6 x23 x24 x25 x26 x27 x8 x9 W → wpAnyH Try.prog .any mapOps.toArray Q (fun _ => True) (n + 2) #[l0, l1, l2, l3, l4, l5, l6, false, false] (A x23 x24 x25 x26 x27 x8 x9) W := by
    intro n
    induction n with
    | zero =>
      intro l0 l1 l2 l3 l4 l5 l6 x23 x24 x25 x26 x27 x8 x9 W hcnt inv
      obtain ⟨rfl, rfl, rfl, rfl, rfl, rfl, rfl⟩ : l0 = true ∧ l1 = true ∧ l2 = true ∧ l3 = true ∧ l4 = true ∧ l5 = true ∧ l6 = true := by
        revert hcnt
        unfold mapLeft
        cases l0 <;> cases l1 <;> cases l2 <;> cases l3 <;> cases l4 <;> cases l5 <;> cases l6 <;> simp
      obtain ⟨b8, rfl, hb8, hs8⟩ := inv.h5 rfl
      obtain ⟨b9, rfl, hb9, hs9⟩ := inv.h6 rfl
      have hne : b8 ≠ b9 := fun e => inv.ne rfl rfl (by rw [e])
      obtain rfl := inv.h0 rfl
      obtain rfl := inv.h1 rfl
      obtain rfl := inv.h2 rfl
      obtain rfl := inv.h4 rfl
      refine wpAnyH_all (rs := [7]) (by kernel_rfl) (by simp) ?_
      intro j hj
      rw [List.mem_singleton] at hj
      subst hj
      refine wpOp_does none (fun _ w' => Box w' b8 O1 ∧ Box w' b9 (cellsO (tab fun _ => on0)) ∧ Grew W0 w') rfl rfl rfl (Does.storeAll 49 (.tmp 8) (.tmp 24) rfl b8 (e8 ..) O1 (e24 ..) hb8 (by rw [hO1, hZ]) (by rw [hZ]; exact Try.sizeOnes) hn1 (fun w' b' g' s' => ⟨b', hb9.grown g' (fun e => hne e.symm), grew_grown inv.g g' hs8⟩)) ?_
      rintro y W1 ⟨h1, h2, h3⟩
      rw [pn]
      refine ⟨trivial, ?_⟩
      refine wpAnyH_all (rs := [8]) (by kernel_rfl) (by simp) ?_
      intro j hj
      rw [List.mem_singleton] at hj
      subst hj
      refine wpOp_does none (fun _ w' => Box w' b8 O1 ∧ Box w' b9 O2 ∧ Grew W0 w') rfl rfl rfl (Does.storeAll 49 (.tmp 9) (.tmp 27) rfl b9 (e9 ..) O2 (e27 ..) h2 (by rw [hO2, hZ]) (by rw [hZ]; exact Try.sizeOnes) hn2 (fun w' b' g' s' => ⟨h1.grown g' hne, b', grew_grown h3 g' hs9⟩)) ?_
      rintro y W2 ⟨h4, h5, h6⟩
      rw [pn]
      refine ⟨trivial, ?_⟩
      exact wpAnyH_done (by kernel_rfl) (hQ W2 b8 b9 _ hne h6 h4 h5 hs8 hs9) _
    | succ n ih =>
      intro l0 l1 l2 l3 l4 l5 l6 x23 x24 x25 x26 x27 x8 x9 W hcnt inv
      refine ⟨fun h0 => ?_, fun i hi => ?_⟩
      · rcases map_some l0 l1 l2 l3 l4 l5 l6 with h | ⟨h, h'⟩ | ⟨h, h'⟩ | ⟨h, h'⟩
        · rw [h0] at h; cases h
        · have := inv.c4 h
          rcases h' with h' | h'
          · rw [this.1] at h'; cases h'
          · rw [this.2] at h'; cases h'
        · rw [inv.c1 h] at h'; cases h'
        · rw [inv.c3 h] at h'; cases h'
      · rcases map_next l0 l1 l2 l3 l4 l5 l6 i inv.c1 inv.c3 inv.c4 hi with ⟨rfl, rfl⟩ | ⟨rfl, rfl, rfl⟩ | ⟨rfl, rfl⟩ | ⟨rfl, rfl, rfl⟩ | ⟨rfl, rfl, rfl, rfl⟩ | ⟨rfl, rfl⟩ | ⟨rfl, rfl⟩ | ⟨rfl, rfl, rfl, rfl, rfl, rfl, rfl, rfl⟩
        · refine wpOp_does (some 23) (fun y w' => y = v ∧ w' = W) rfl rfl rfl (Does.val (v := v) (by rw [← e0 x23 x24 x25 x26 x27 x8 x9]; rfl) ⟨rfl, rfl⟩) ?_
          rintro y w' ⟨rfl, rfl⟩
          rw [p23]
          refine ⟨trivial, ih true l1 l2 l3 l4 l5 l6 _ _ _ _ _ _ _ _ (by unfold mapLeft at hcnt ⊢; simp at hcnt ⊢; omega) ⟨inv.g, fun _ => rfl, inv.h1, inv.h2, inv.h3, inv.h4, inv.h5, inv.h6, inv.ne, fun _ => rfl, inv.c3, inv.c4⟩⟩
        · refine wpOp_does (some 24) (fun y w' => y = .agg O1.toArray ∧ Grew W w') rfl rfl rfl (Does.call [v] rfl Try.func22 rfl rfl (by rw [List.map_cons, List.map_nil, e23, inv.h0 rfl]) ((hc1 W inv.g).mono (fun e w' h => ⟨_, h.1, rfl, h.2⟩))) ?_
          rintro y w' ⟨rfl, hg⟩
          rw [p24]
          have inv' := inv.grew hg
          refine ⟨trivial, ih true true l2 l3 l4 l5 l6 _ _ _ _ _ _ _ _ (by unfold mapLeft at hcnt ⊢; simp at hcnt ⊢; omega) ⟨inv'.g, inv'.h0, fun _ => rfl, inv'.h2, inv'.h3, inv'.h4, inv'.h5, inv'.h6, inv'.ne, fun _ => rfl, inv'.c3, fun h => ⟨rfl, (inv'.c4 h).2⟩⟩⟩
        · refine wpOp_does (some 25) (fun y w' => y = arA q ∧ w' = W) rfl rfl rfl (Does.val (v := arA q) (run_loadA (.tmp 3) rfl pa (e3 ..) (hb.grew inv.g)) ⟨rfl, rfl⟩) ?_
          rintro y w' ⟨rfl, rfl⟩
          rw [p25]
          refine ⟨trivial, ih l0 l1 true l3 l4 l5 l6 _ _ _ _ _ _ _ _ (by unfold mapLeft at hcnt ⊢; simp at hcnt ⊢; omega) ⟨inv.g, inv.h0, inv.h1, fun _ => rfl, inv.h3, inv.h4, inv.h5, inv.h6, inv.ne, inv.c1, fun _ => rfl, inv.c4⟩⟩
        · refine wpOp_does (some 26) (fun y w' => RowAt arE w' y [q] ∧ Grew W w') rfl rfl rfl (Does.oneArea (.tmp 25) rfl q (by rw [e25, inv.h2 rfl]) ⟨one_row arE W q _ _ rfl (by show 40 ≤ _; omega), grew_alloc _ _⟩) ?_
          rintro y w' ⟨hr, hg⟩
          rw [p26]
          have inv' := inv.grew hg
          refine ⟨trivial, ih l0 l1 true true l4 l5 l6 _ _ _ _ _ _ _ _ (by unfold mapLeft at hcnt ⊢; simp at hcnt ⊢; omega) ⟨inv'.g, inv'.h0, inv'.h1, inv'.h2, fun _ => hr, inv'.h4, inv'.h5, inv'.h6, inv'.ne, inv'.c1, fun _ => rfl, fun h => ⟨(inv'.c4 h).1, rfl⟩⟩⟩
        · refine wpOp_does (some 27) (fun y w' => y = .agg O2.toArray ∧ Grew W w') rfl rfl rfl (Does.call [x26] rfl Try.func22 rfl rfl (by rw [List.map_cons, List.map_nil, e26]) ((hc2 W x26 (inv.h3 rfl)).mono (fun e w' h => ⟨_, h.1, rfl, h.2⟩))) ?_
          rintro y w' ⟨rfl, hg⟩
          rw [p27]
          have inv' := inv.grew hg
          refine ⟨trivial, ih l0 true l2 true true l5 l6 _ _ _ _ _ _ _ _ (by unfold mapLeft at hcnt ⊢; simp at hcnt ⊢; omega) ⟨inv'.g, inv'.h0, inv'.h1, inv'.h2, inv'.h3, fun _ => rfl, inv'.h5, inv'.h6, inv'.ne, inv'.c1, inv'.c3, fun _ => ⟨rfl, rfl⟩⟩⟩
        · refine wpOp_does (some 8) (fun y w' => y = .pointer (some ⟨W.heap.size, 0, none⟩) ∧ Box w' W.heap.size (cellsO (tab fun _ => on0)) ∧ Grew W w') rfl rfl rfl (Does.allocOnes rfl ⟨rfl, hal W, grew_alloc _ _⟩) ?_
          rintro y w' ⟨rfl, hbx, hg⟩
          rw [p8]
          have inv' := inv.grew hg
          refine ⟨trivial, ih l0 l1 l2 l3 l4 true l6 _ _ _ _ _ _ _ _ (by unfold mapLeft at hcnt ⊢; simp at hcnt ⊢; omega) ⟨inv'.g, inv'.h0, inv'.h1, inv'.h2, inv'.h3, inv'.h4, fun _ => ⟨_, rfl, hbx, Below.size inv.g⟩, inv'.h6, fun _ h6 => ?_, inv'.c1, inv'.c3, inv'.c4⟩⟩
          obtain ⟨b, rfl, h2, _⟩ := inv.h6 h6
          intro e
          cases e
          exact absurd h2.lt (Nat.lt_irrefl _)
        · refine wpOp_does (some 9) (fun y w' => y = .pointer (some ⟨W.heap.size, 0, none⟩) ∧ Box w' W.heap.size (cellsO (tab fun _ => on0)) ∧ Grew W w') rfl rfl rfl (Does.allocOnes rfl ⟨rfl, hal W, grew_alloc _ _⟩) ?_
          rintro y w' ⟨rfl, hbx, hg⟩
          rw [p9]
          have inv' := inv.grew hg
          refine ⟨trivial, ih l0 l1 l2 l3 l4 l5 true _ _ _ _ _ _ _ _ (by unfold mapLeft at hcnt ⊢; simp at hcnt ⊢; omega) ⟨inv'.g, inv'.h0, inv'.h1, inv'.h2, inv'.h3, inv'.h4, inv'.h5, fun _ => ⟨_, rfl, hbx, Below.size inv.g⟩, fun h5 _ => ?_, inv'.c1, inv'.c3, inv'.c4⟩⟩
          obtain ⟨b, rfl, h2, _⟩ := inv.h5 h5
          intro e
          cases e
          exact absurd h2.lt (Nat.lt_irrefl _)
        · unfold mapLeft at hcnt
          simp at hcnt
  refine wp_region_held (S := fun _ => True) mixed ?_
  have hd : Grew W0 { W0 with drawn := W0.drawn + 1 } := show Below _ _ _ from Below.drew (Below.refl _ _)
  exact main 7 false false false false false false false x23 x24 x25 x26 x27 x8 x9 _ rfl ⟨hd, fun h => (by cases h), fun h => (by cases h), fun h => (by cases h), fun h => (by cases h), fun h => (by cases h), fun h => (by cases h), fun h => (by cases h), fun h => (by cases h), fun h => (by cases h), fun h => (by cases h), fun h => (by cases h)⟩

end
end Go.Proofs.Ytlkgmjdhggfimad
