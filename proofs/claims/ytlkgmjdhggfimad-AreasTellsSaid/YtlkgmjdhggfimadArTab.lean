/- 64 areas, or pages, by value and in a block: an element read, and stored over. No condition: laws of the model. -/
import Derived.Test.YtlkgmjdhggfimadArData
namespace Go.Proofs.Ytlkgmjdhggfimad
open Go.RowKit

theorem cellsA_set {l : List Ar} {j : Nat} (y : Ar) (h : j < l.length) : splice (cellsA l) (j * 7) (arv y) = cellsA (l.set j y) := splice_set (enc := arv) (k := 7) y rfl l j (fun _ _ => rfl) h
theorem cellsO_set {l : List On} {j : Nat} (y : On) (h : j < l.length) : splice (cellsO l) (j * 6) (onv y) = cellsO (l.set j y) := splice_set (enc := onv) (k := 6) y rfl l j (fun _ _ => rfl) h
theorem cellsA_at {l : List Ar} {j : Nat} {e : Ar} (h : l[j]? = some e) (i : Nat) (u : Value) (hu : (arv e)[i]? = some u) : (cellsA l)[j * 7 + i]? = some u := flatMap_elem (enc := arv) (k := 7) l j e (fun _ _ => rfl) h i u hu
theorem cellsO_at {l : List On} {j : Nat} {e : On} (h : l[j]? = some e) (i : Nat) (u : Value) (hu : (onv e)[i]? = some u) : (cellsO l)[j * 6 + i]? = some u := flatMap_elem (enc := onv) (k := 6) l j e (fun _ _ => rfl) h i u hu
theorem tabA_len (f : Nat → Ar) : (cellsA (tab f)).length = 448 := by rw [cellsA_len, tab_len]
theorem tabO_len (f : Nat → On) : (cellsO (tab f)).length = 384 := by rw [cellsO_len, tab_len]

/-- One element stored over. -/
theorem wp_storeAr {ops : Array Oper} {rest : List Oper} {op : Oper} {a : Act} {w : World} {Q : Exit → Act → World → Prop} (hgd : op.guard = none) (p x : Operand) (ho : op.op = .store 37 p x) (b k : Nat) (hk : k < 64) (hp : a.eval p = .pointer (some ⟨b, k * 7, none⟩)) (y : Ar) (hx : a.eval x = arA y)
    {f : Nat → Ar} (hb : Box w b (cellsA (tab f)))
    (h : ∀ w', Box w' b (cellsA (tab (upd f k y))) → w.grownBy w' (some b) → w'.heap.size = w.heap.size → wpList Try.prog ops Q rest (a.put op.dst undef) w') : wpList Try.prog ops Q (op :: rest) a w := by
  refine wp_storeMid hgd 37 p x ho b (k * 7) hp (arv y) hx hb (by rw [tabA_len]; show _ + 7 ≤ _; omega) Try.sizeArea (arE.one y) fun w' h1 h2 h3 => h w' ?_ h2 h3
  rw [cellsA_set y (by rw [tab_len]; exact hk), tab_set] at h1
  exact h1
theorem wp_storeOn {ops : Array Oper} {rest : List Oper} {op : Oper} {a : Act} {w : World} {Q : Exit → Act → World → Prop} (hgd : op.guard = none) (p x : Operand) (ho : op.op = .store 48 p x) (b k : Nat) (hk : k < 64) (hp : a.eval p = .pointer (some ⟨b, k * 6, none⟩)) (y : On) (hx : a.eval x = .agg (onv y).toArray)
    {f : Nat → On} (hb : Box w b (cellsO (tab f)))
    (h : ∀ w', Box w' b (cellsO (tab (upd f k y))) → w.grownBy w' (some b) → w'.heap.size = w.heap.size → wpList Try.prog ops Q rest (a.put op.dst undef) w') : wpList Try.prog ops Q (op :: rest) a w := by
  refine wp_storeMid hgd 48 p x ho b (k * 6) hp (onv y) hx hb (by rw [tabO_len]; show _ + 6 ≤ _; omega) Try.sizeOne (onv_one y) fun w' h1 h2 h3 => h w' ?_ h2 h3
  rw [cellsO_set y (by rw [tab_len]; exact hk), tab_set] at h1
  exact h1

/-- One cell of an element stored over. -/
theorem Box.onCell {w : World} {b k : Nat} {f : Nat → On} (h : Box w b (cellsO (tab f))) (hk : k < 64) (i : Nat) (u : Value) (y : On) (hy : (onv (f k)).set i u = onv y) (hi : i < 6) : Box (w.setCell ⟨b, k * 6 + i, none⟩ u) b (cellsO (tab (upd f k y))) := by
  have h1 := h.set (k * 6 + i) u
  have : (cellsO (tab f)).set (k * 6 + i) u = cellsO (tab (upd f k y)) := by
    rw [← tab_set, ← cellsO_set y (by rw [tab_len]; exact hk), ← hy]
    have hl : (cellsO (tab f)).length = 384 := tabO_len f
    apply List.ext_getElem?
    intro j
    unfold splice
    have e6 : ((onv (f k)).set i u).length = 6 := by simp [onv]
    rw [e6]
    by_cases h1 : j < k * 6
    · rw [List.getElem?_set_ne (by omega), List.getElem?_append_left (by simp; omega), List.getElem?_take_of_lt h1]
    · have hl2 : ((cellsO (tab f)).take (k * 6)).length = k * 6 := by simp; omega
      rw [List.getElem?_append_right (by omega), hl2]
      by_cases h2 : j < k * 6 + 6
      · rw [List.getElem?_append_left (by rw [e6]; omega)]
        have hc : ∀ i', i' < 6 → (cellsO (tab f))[k * 6 + i']? = (onv (f k))[i']? := fun i' hi' => by
          obtain ⟨v, hv⟩ : ∃ v, (onv (f k))[i']? = some v := ⟨_, List.getElem?_eq_getElem (by simpa [onv] using hi')⟩
          rw [hv]
          exact cellsO_at (tab_at hk) i' v hv
        by_cases e : j = k * 6 + i
        · subst e
          rw [List.getElem?_set_self (by omega), show k * 6 + i - k * 6 = i by omega, List.getElem?_set_self (by simpa [onv] using hi)]
        · rw [List.getElem?_set_ne (fun h => e h.symm), List.getElem?_set_ne (by omega), ← hc _ (by omega), show k * 6 + (j - k * 6) = j by omega]
      · rw [List.getElem?_set_ne (by omega), List.getElem?_append_right (by rw [e6]; omega), e6, List.getElem?_drop]
        congr 1
        omega
  rw [this] at h1
  exact h1

theorem extract_elem {cs vs : List Value} {o k : Nat} (hl : vs.length = k) (h : ∀ (i : Nat) u, vs[i]? = some u → cs[o + i]? = some u) : cs.toArray.extract o (o + k) = vs.toArray := by
  apply Array.ext_getElem?
  intro j
  rw [Array.getElem?_extract]
  by_cases hj : j < k
  · obtain ⟨u, hu⟩ : ∃ u, vs[j]? = some u := ⟨_, List.getElem?_eq_getElem (by omega)⟩
    have h1 := h j u hu
    have h2 := (List.getElem?_eq_some_iff.1 h1).1
    rw [if_pos (by simp; omega)]
    simp [h1, hu]
  · rw [if_neg (by omega)]
    simp
    omega

/-- One element of a value. -/
theorem run_idxA {w : World} {f : Nat → Ar} (i : Nat) (hi : i < 64) : (Instr.index 80 (.agg (cellsA (tab f)).toArray) (.int .i64 (i : Int))).run Try.prog w = .ok (arA (f i)) w := by
  have ha : (isAgg 37).run Try.prog w = .ok true w := by
    unfold isAgg
    rw [Sem.run_bind, run_underlying Try.underlying37 w]
    rfl
  have hs : (Go.sizeOf 37).run Try.prog w = .ok 7 w := by
    obtain ⟨i0, h1, h2⟩ : ∃ i0, Try.prog.info? 37 = some i0 ∧ i0.size = 7 := by
      have := Try.sizeArea
      cases hq : Try.prog.info? 37 with
      | none => rw [hq] at this; cases this
      | some i0 => rw [hq] at this; exact ⟨i0, rfl, by simpa using this⟩
    simp [Go.sizeOf, typeInfo, h1, h2]
  have hlt : (0 : Int) ≤ (i : Int) ∧ (i : Int) < ((64 : Nat) : Int) := by omega
  have hx : (cellsA (tab f)).toArray.extract (i * 7) (i * 7 + 7) = (arv (f i)).toArray := extract_elem rfl fun j u hu => cellsA_at (tab_at hi) j u hu
  simp only [Instr.index, asIntOf, Sem.run_bind, Sem.run_pure, Result.andThen_ok, run_underlying Try.underlying80]
  rw [if_pos hlt]
  simp only [Sem.run_bind, hs, Result.andThen_ok, part, ha, if_true, Int.toNat_natCast, Sem.run_pure, hx]
  rfl
theorem run_idxO {w : World} {f : Nat → On} (i : Nat) (hi : i < 64) : (Instr.index 49 (.agg (cellsO (tab f)).toArray) (.int .i64 (i : Int))).run Try.prog w = .ok (.agg (onv (f i)).toArray) w := by
  have ha : (isAgg 48).run Try.prog w = .ok true w := by
    unfold isAgg
    rw [Sem.run_bind, run_underlying Try.underlying48 w]
    rfl
  have hs : (Go.sizeOf 48).run Try.prog w = .ok 6 w := by
    obtain ⟨i0, h1, h2⟩ : ∃ i0, Try.prog.info? 48 = some i0 ∧ i0.size = 6 := by
      have := Try.sizeOne
      cases hq : Try.prog.info? 48 with
      | none => rw [hq] at this; cases this
      | some i0 => rw [hq] at this; exact ⟨i0, rfl, by simpa using this⟩
    simp [Go.sizeOf, typeInfo, h1, h2]
  have hlt : (0 : Int) ≤ (i : Int) ∧ (i : Int) < ((64 : Nat) : Int) := by omega
  have hx : (cellsO (tab f)).toArray.extract (i * 6) (i * 6 + 6) = (onv (f i)).toArray := extract_elem rfl fun j u hu => cellsO_at (tab_at hi) j u hu
  simp only [Instr.index, asIntOf, Sem.run_bind, Sem.run_pure, Result.andThen_ok, run_underlying Try.underlying49]
  rw [if_pos hlt]
  simp only [Sem.run_bind, hs, Result.andThen_ok, part, ha, if_true, Int.toNat_natCast, Sem.run_pure, hx]
theorem wp_idxA {ops : Array Oper} {rest : List Oper} {o : Oper} {a : Act} {w : World} {Q : Exit → Act → World → Prop} (hgd : o.guard = none) (x ix : Operand) (ho : o.op = .index 80 x ix) (f : Nat → Ar) (hx : a.eval x = .agg (cellsA (tab f)).toArray) (i : Nat) (hix : a.eval ix = .int .i64 (i : Int)) (hi : i < 64)
    (h : wpList Try.prog ops Q rest (a.put o.dst (arA (f i))) w) : wpList Try.prog ops Q (o :: rest) a w := by
  refine wpList_plain hgd fun K hK => ?_
  unfold Oper.wp execOp
  simp only [ho, hx, hix, Sem.run_bind, Sem.run_pure, Result.andThen_ok, run_idxA i hi]
  exact hK _ _ h
theorem wp_idxO {ops : Array Oper} {rest : List Oper} {o : Oper} {a : Act} {w : World} {Q : Exit → Act → World → Prop} (hgd : o.guard = none) (x ix : Operand) (ho : o.op = .index 49 x ix) (f : Nat → On) (hx : a.eval x = .agg (cellsO (tab f)).toArray) (i : Nat) (hix : a.eval ix = .int .i64 (i : Int)) (hi : i < 64)
    (h : wpList Try.prog ops Q rest (a.put o.dst (.agg (onv (f i)).toArray)) w) : wpList Try.prog ops Q (o :: rest) a w := by
  refine wpList_plain hgd fun K hK => ?_
  unfold Oper.wp execOp
  simp only [ho, hx, hix, Sem.run_bind, Sem.run_pure, Result.andThen_ok, run_idxO i hi]
  exact hK _ _ h

theorem wp_idxAv {ops : Array Oper} {rest : List Oper} {o : Oper} {a : Act} {w : World} {Q : Exit → Act → World → Prop} (hgd : o.guard = none) (x ix : Operand) (ho : o.op = .index 80 x ix) (f : Nat → Ar) (hx : a.eval x = .agg (cellsA (tab f)).toArray) (i : Nat) (hix : a.eval ix = .int .i64 (i : Int)) (hi : i < 64) {v : Value} (hv : arA (f i) = v)
    (h : wpList Try.prog ops Q rest (a.put o.dst v) w) : wpList Try.prog ops Q (o :: rest) a w := wp_idxA hgd x ix ho f hx i hix hi (by rw [hv]; exact h)

theorem wp_idxOv {ops : Array Oper} {rest : List Oper} {o : Oper} {a : Act} {w : World} {Q : Exit → Act → World → Prop} (hgd : o.guard = none) (x ix : Operand) (ho : o.op = .index 49 x ix) (f : Nat → On) (hx : a.eval x = .agg (cellsO (tab f)).toArray) (i : Nat) (hix : a.eval ix = .int .i64 (i : Int)) (hi : i < 64) {v : Value} (hv : .agg (onv (f i)).toArray = v)
    (h : wpList Try.prog ops Q rest (a.put o.dst v) w) : wpList Try.prog ops Q (o :: rest) a w := wp_idxO hgd x ix ho f hx i hix hi (by rw [hv]; exact h)

/-- One element out of its block. -/
theorem wp_loadAr {ops : Array Oper} {rest : List Oper} {o : Oper} {a : Act} {w : World} {Q : Exit → Act → World → Prop} (hgd : o.guard = none) (x : Operand) (ho : o.op = .load 37 x) (b k : Nat) (hk : k < 64) (hx : a.eval x = .pointer (some ⟨b, k * 7, none⟩)) {f : Nat → Ar} (hb : Box w b (cellsA (tab f)))
    (h : wpList Try.prog ops Q rest (a.put o.dst (arA (f k))) w) : wpList Try.prog ops Q (o :: rest) a w :=
  wpList_load_mid hgd 37 x ho b (k * 7) hx (arv (f k)) _ (hb.mid _ fun j u hu => cellsA_at (tab_at hk) j u hu) Try.underlying37 rfl Try.sizeArea h
theorem wp_loadArv {ops : Array Oper} {rest : List Oper} {o : Oper} {a : Act} {w : World} {Q : Exit → Act → World → Prop} (hgd : o.guard = none) (x : Operand) (ho : o.op = .load 37 x) (b k : Nat) (hk : k < 64) (hx : a.eval x = .pointer (some ⟨b, k * 7, none⟩)) {f : Nat → Ar} (hb : Box w b (cellsA (tab f))) {v : Value} (hv : arA (f k) = v)
    (h : wpList Try.prog ops Q rest (a.put o.dst v) w) : wpList Try.prog ops Q (o :: rest) a w := wp_loadAr hgd x ho b k hk hx hb (by rw [hv]; exact h)
theorem wp_loadOn {ops : Array Oper} {rest : List Oper} {o : Oper} {a : Act} {w : World} {Q : Exit → Act → World → Prop} (hgd : o.guard = none) (x : Operand) (ho : o.op = .load 48 x) (b k : Nat) (hk : k < 64) (hx : a.eval x = .pointer (some ⟨b, k * 6, none⟩)) {f : Nat → On} (hb : Box w b (cellsO (tab f)))
    (h : wpList Try.prog ops Q rest (a.put o.dst (.agg (onv (f k)).toArray)) w) : wpList Try.prog ops Q (o :: rest) a w :=
  wpList_load_mid hgd 48 x ho b (k * 6) hx (onv (f k)) _ (hb.mid _ fun j u hu => cellsO_at (tab_at hk) j u hu) Try.underlying48 rfl Try.sizeOne h

theorem wp_loadOnv {ops : Array Oper} {rest : List Oper} {o : Oper} {a : Act} {w : World} {Q : Exit → Act → World → Prop} (hgd : o.guard = none) (x : Operand) (ho : o.op = .load 48 x) (b k : Nat) (hk : k < 64) (hx : a.eval x = .pointer (some ⟨b, k * 6, none⟩)) {f : Nat → On} (hb : Box w b (cellsO (tab f))) {v : Value} (hv : .agg (onv (f k)).toArray = v)
    (h : wpList Try.prog ops Q rest (a.put o.dst v) w) : wpList Try.prog ops Q (o :: rest) a w := wp_loadOn hgd x ho b k hk hx hb (by rw [hv]; exact h)

theorem zeroA : (Try.prog.info? 80).map (·.zero) = some (some (.agg (cellsA (tab fun _ => ar0)).toArray)) := by kernel_rfl
theorem run_zeroA (w : World) : (zeroValue 80).run Try.prog w = .ok (.agg (cellsA (tab fun _ => ar0)).toArray) w := by
  have h := zeroA
  cases hq : Try.prog.info? 80 with
  | none => simp [hq] at h
  | some i =>
    simp [hq] at h
    simp [zeroValue, typeInfo, hq, h]
theorem zeroO : (Try.prog.info? 49).map (·.zero) = some (some (.agg (cellsO (tab fun _ => on0)).toArray)) := by kernel_rfl
theorem run_zeroO (w : World) : (zeroValue 49).run Try.prog w = .ok (.agg (cellsO (tab fun _ => on0)).toArray) w := by
  have h := zeroO
  cases hq : Try.prog.info? 49 with
  | none => simp [hq] at h
  | some i =>
    simp [hq] at h
    simp [zeroValue, typeInfo, hq, h]

end Go.Proofs.Ytlkgmjdhggfimad
