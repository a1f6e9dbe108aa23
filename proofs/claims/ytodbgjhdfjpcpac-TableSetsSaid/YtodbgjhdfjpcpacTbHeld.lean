/- Operations of a drawn region, one by one: a call, an alloc, a store of a whole table. No condition: laws of the model. -/
import Derived.Test.YtodbgjhdfjpcpacTbOps2
import Derived.Test.YtodbgjhdfjpcpacLaxTail
import Derived.OrdersHeld
namespace Go.Proofs.Ytodbgjhdfjpcpac
open Go.RowKit

theorem wpOp_does {P : Program} {ops : Array Oper} {Q : Exit → Act → World → Prop} {i : Nat} {o : Oper} {a : Act} {w : World} {next : Act → World → Prop} (d : Option Tmp) (K : Value → World → Prop) (hi : ops[i]? = some o) (hd : o.dst = d) (hw : Region.wanted o (yielded ops a.tmps) = true) (h : Does P o a w K) (hn : ∀ v w', K v w' → next (a.put d v) w') : wpOp P ops Q i next a w := by
  subst hd
  unfold wpOp
  simp only [hi, hw, if_true]
  exact .inl (h.wp hn)

theorem takeH {P : Program} {ops : Array Oper} {Q : Exit → Act → World → Prop} {md : Region.Mode} {S : World → Prop} (i : Nat) {oi : Oper} (d : Option Tmp) (v : Value) {fuel : Nat} {listed : Array Bool} {a : Act} {w : World} (hi : ops[i]? = some oi) (hd : oi.dst = d)
    (hs : Region.noSelect ops = true) (hf : Region.free md ops listed i = true) (hr : (Region.ready md ops listed).contains i = true)
    (hQ : ∀ c a w, Q (.panic c) (a.put d v) w → Q (.panic c) a w) (hy : YieldsIf P ops S oi v a) (hS : S w)
    (h : wpAnyH P md ops Q S fuel (listed.setIfInBounds i true) (a.put d v) w) : wpAnyH P md ops Q S (fuel + 1) listed a w := by
  subst hd
  exact wpAnyH_take hi hs hf hr hQ hy hS h

theorem Try.zeroTable : (Try.prog.info? 55).map (·.zero) = some (some (.agg nil8.toArray)) := by kernel_rfl
theorem Does.allocTab {o : Oper} {a : Act} {w : World} {K : Value → World → Prop} (ho : o.op = .alloc 55) (h : K (.pointer (some ⟨w.heap.size, 0, none⟩)) (w.alloc (.cells nil8.toArray 55))) : Does Try.prog o a w K := by
  have hz : (zeroValue 55).run Try.prog w = .ok (.agg nil8.toArray) w := by
    have h := Try.zeroTable
    cases hq : Try.prog.info? 55 with
    | none => simp [hq] at h
    | some i =>
      simp [hq] at h
      simp [zeroValue, typeInfo, hq, h]
  unfold Does
  have : (execOp a.eval o).run Try.prog w = .ok (.value (.pointer (some ⟨w.heap.size, 0, none⟩))) (w.alloc (.cells nil8.toArray 55)) := by
    simp [execOp, ho, go_sem, hz]
  rw [this]
  exact h
theorem Does.storeAll {o : Oper} {a : Act} {w : World} {K : Value → World → Prop} (ty : TypeId) (p x : Operand) (ho : o.op = .store ty p x) (b : Nat) (hp : a.eval p = .pointer (some ⟨b, 0, none⟩)) (vs : List Value) (hx : a.eval x = .agg vs.toArray)
    {cs : List Value} (hb : Box w b cs) (hl : vs.length = cs.length) (hi : (Try.prog.info? ty).map (·.size) = some cs.length) (h1 : ∀ v ∈ vs, v.oneCell' = true)
    (h : ∀ w', Box w' b vs → w.grownBy w' (some b) → w'.heap.size = w.heap.size → K undef w') : Does Try.prog o a w K := by
  unfold Does
  have hr : (execOp a.eval o).run Try.prog w = .ok .skip (w.setCells b 0 vs) := by
    have := run_storeAt_mid (P := Try.prog) w b 0 ty vs.toArray (by simpa [hl] using hb.there) (by simpa [hl] using hi) (all_oneCell_toArray h1)
    simp only [execOp, ho, hp, hx, Sem.run_bind, this, Result.andThen_ok, Sem.run_pure]
  rw [hr]
  exact h _ (hb.all vs hl) (setCells_grown b vs 0 w).1 (setCells_grown b vs 0 w).2

end Go.Proofs.Ytodbgjhdfjpcpac
