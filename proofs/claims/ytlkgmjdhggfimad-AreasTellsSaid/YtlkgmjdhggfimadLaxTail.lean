/- A statement whose order is left open, whose last operations (a store ..) wait for all others: one walk in the order of the text; what was there is written by these last ones alone.
   No condition: these are laws of the model. -/
import Derived.Test.YtlkgmjdhggfimadLaxWalk
namespace Go.Proofs.Ytlkgmjdhggfimad
open Go.RowKit

/-- The order of the text is one of the orders; what doesn't wait for another is apart from it, up to T; all from T on wait for all ahead of them. -/
def laxTB (ops : Array Oper) (T : Nat) : Bool :=
  Region.noSelect ops && decide (T ≤ ops.size) && (List.range ops.size).all fun j => match ops[j]? with
    | none => false
    | some oj => oj.after.all (fun e => !Region.binds .any e || decide (e.on < j)) &&
        (if j < T then (List.range j).all fun i => edge ops i j || (match ops[i]? with | some oi => oi.apart ops oj | none => false) else (List.range j).all fun i => anc ops j i j)

def unlistedT (listed : Array Bool) (T : Nat) : List Nat := (List.range T).filter fun i => listed.getD i true == false

section
variable {P : Program} {ops : Array Oper} {w0 : World} {S : Nat → Option Spec} {T : Nat}

theorem laxTB_edge (hB : laxTB ops T = true) {j : Nat} {oj : Oper} (hj : ops[j]? = some oj) : ∀ i, edge ops i j = true → i < j := by
  simp only [laxTB, Bool.and_eq_true, List.all_eq_true, List.mem_range] at hB
  have h := hB.2 j (Array.getElem?_eq_some_iff.1 hj).1
  simp only [hj, Bool.and_eq_true] at h
  intro i hi
  obtain ⟨e, he, hb, rfl⟩ := (edge_of hj).1 hi
  have := Array.all_eq_true_iff_forall_mem.1 h.1 e he
  simpa [hb] using this

theorem laxTB_apart (hB : laxTB ops T = true) {j : Nat} {oj : Oper} (hj : ops[j]? = some oj) (hT : j < T) : ∀ i, i < j → edge ops i j = true ∨ ∃ oi, ops[i]? = some oi ∧ oi.apart ops oj = true := by
  simp only [laxTB, Bool.and_eq_true, List.all_eq_true, List.mem_range] at hB
  have h := hB.2 j (Array.getElem?_eq_some_iff.1 hj).1
  simp only [hj, Bool.and_eq_true, if_pos hT, List.all_eq_true, List.mem_range] at h
  intro i hi
  have := h.2 i hi
  rw [Bool.or_eq_true] at this
  rcases this with h1 | h1
  · exact Or.inl h1
  · right
    cases ho : ops[i]? with
    | none => simp [ho] at h1
    | some oi => simp only [ho] at h1; exact ⟨oi, rfl, h1⟩

theorem laxTB_last (hB : laxTB ops T = true) {j : Nat} {oj : Oper} (hj : ops[j]? = some oj) (hT : T ≤ j) : ∀ i, i < j → anc ops j i j = true := by
  simp only [laxTB, Bool.and_eq_true, List.all_eq_true, List.mem_range] at hB
  have h := hB.2 j (Array.getElem?_eq_some_iff.1 hj).1
  simp only [hj, Bool.and_eq_true, if_neg (Nat.not_lt.2 hT), List.all_eq_true, List.mem_range] at h
  exact h.2

theorem ancT_lt (hB : laxTB ops T = true) : ∀ (f i j : Nat), anc ops f i j = true → i < j
  | 0, _, _, h => by simp [anc] at h
  | f + 1, i, j, h => by
    simp only [anc, Bool.or_eq_true, List.any_eq_true, List.mem_range, Bool.and_eq_true] at h
    rcases h with h | ⟨k, hk, _, h⟩
    · obtain ⟨oj, hj⟩ := edge_some h
      exact laxTB_edge hB hj i h
    · have := ancT_lt hB f i k h
      omega

theorem unlistedT_set {listed : Array Bool} {j : Nat} (hl : j < listed.size) : unlistedT (listed.setIfInBounds j true) T = (unlistedT listed T).filter (· != j) := by
  unfold unlistedT
  rw [List.filter_filter]
  refine List.filter_congr fun i hi => ?_
  by_cases h : j = i
  · subst h
    simp [hl]
  · rw [getD_set_ne true h]
    have : (i != j) = true := by simpa using Ne.symm h
    rw [this, Bool.true_and]

theorem getD_up {listed : Array Bool} {i : Nat} (hi : i < listed.size) (h : listed.getD i true = true) : listed.getD i false = true := by
  simp [hi] at h ⊢; exact h

/-- The last ones, one behind the other. -/
theorem wpAny_last {Q : Exit → Act → World → Prop} (hB : laxTB ops T = true) : ∀ (m : Nat) (l : List Oper) (k : Nat) (listed : Array Bool) (a : Act) (w : World), T ≤ k → listed.size = ops.size → k + m = ops.size → l.length = m → (∀ j, l[j]? = ops[k + j]?) →
    (∀ i, i < k → listed.getD i true = true) → (∀ i, k ≤ i → i < ops.size → listed.getD i true = false) → wpList P ops Q l a w → wpAny P .any ops Q m listed a w := by
  intro m
  induction m with
  | zero =>
    intro l k listed a w hT hsz hk hl hops hin hout h
    have : l = [] := List.eq_nil_of_length_eq_zero hl
    subst this
    refine ⟨?_, h⟩
    cases hr : Region.ready .any ops listed with
    | nil => rfl
    | cons x xs =>
      have hx : x ∈ Region.ready .any ops listed := by rw [hr]; simp
      obtain ⟨h0, o, ho, _⟩ := mem_ready.1 hx
      have hxs := (Array.getElem?_eq_some_iff.1 ho).1
      rw [hin x (by omega)] at h0
      cases h0
  | succ m ih =>
    intro l k listed a w hT hsz hk hl hops hin hout h
    obtain ⟨o, l', rfl⟩ : ∃ o l', l = o :: l' := by
      cases l with
      | nil => simp at hl
      | cons o l' => exact ⟨o, l', rfl⟩
    have hok : ops[k]? = some o := by have := hops 0; simpa using this.symm
    have hkr : k ∈ Region.ready .any ops listed := by
      refine mem_ready.2 ⟨hout k (Nat.le_refl _) (by omega), o, hok, fun e he hb => ?_⟩
      have hlt := laxTB_edge hB hok e.on ((edge_of hok).2 ⟨e, he, hb, rfl⟩)
      exact getD_up (by omega) (hin e.on hlt)
    refine ⟨fun hr => ?_, fun j hj => ?_⟩
    · rw [hr] at hkr
      cases hkr
    · obtain ⟨h0, oj, hoj, hall⟩ := mem_ready.1 hj
      have hjs := (Array.getElem?_eq_some_iff.1 hoj).1
      have hjk : k ≤ j := by
        rcases Nat.lt_or_ge j k with h1 | h1
        · rw [hin j h1] at h0; cases h0
        · exact h1
      have hj' : j = k := by
        rcases Nat.lt_or_ge k j with h1 | h1
        · exfalso
          have ha := laxTB_last hB hoj (by omega) k h1
          have hc : closed ops listed := fun i q hq hiq => by
            obtain ⟨oq, hoq⟩ := edge_some hiq
            have hlt := laxTB_edge hB hoq i hiq
            have hqk : q < k := by
              rcases Nat.lt_or_ge q k with h2 | h2
              · exact h2
              · have := getD_flip (hout q h2 (Array.getElem?_eq_some_iff.1 hoq).1)
                rw [this] at hq; cases hq
            exact getD_up (by omega) (hin i (by omega))
          have := anc_listed hc j k j (fun q hq => by
            obtain ⟨e, he, hb, rfl⟩ := (edge_of hoj).1 hq
            exact hall e he hb) ha
          rw [getD_flip (hout k (Nat.le_refl _) (by omega))] at this
          cases this
        · omega
      subst hj'
      rw [hok] at hoj
      cases hoj
      unfold wpList at h
      unfold wpOp
      simp only [hok]
      have hnext : ∀ a w, wpList P ops Q l' a w → wpAny P .any ops Q m (listed.setIfInBounds j true) a w := fun a w h' =>
        ih l' (j + 1) _ a w (by omega) (by simp [hsz]) (by omega) (by simpa using hl) (fun q => by have := hops (q + 1); rw [List.getElem?_cons_succ] at this; rw [this]; congr 1; omega)
          (fun i hi => by
            by_cases e : j = i
            · subst e
              simp [show j < listed.size by omega]
            · rw [getD_set_ne true e]; exact hin i (by omega))
          (fun i hi hi' => by rw [getD_set_ne true (by omega)]; exact hout i (by omega) hi') h'
      split
      · rename_i hw
        rw [if_pos hw] at h
        rcases h with h | h
        · exact .inl (Oper.wp_mono hnext h)
        · exact .inr h
      · rename_i hw
        rw [if_neg hw] at h
        exact hnext _ _ h

theorem wpAny_of_lexT {Q : Act → World → Prop} {Q' : Exit → Act → World → Prop} {l : List Oper} {m : Nat} (hB : laxTB ops T = true) (hTl : T + m = ops.size) (hll : l.length = m) (hops : ∀ j, l[j]? = ops[T + j]?) (hS : ∀ k s, S k = some s → ∃ v, s.pv v)
    (hp : ∀ k s, S k = some s → ∀ v w w', Grew w w' → s.post v w → s.post v w') (hQ : ∀ a w, Q a w → wpList P ops Q' l a w) :
    ∀ (fuel : Nat) (listed : Array Bool) (F : Nat → World → Prop) (a : Act) (w : World), listed.size = ops.size → (∀ i, T ≤ i → i < ops.size → listed.getD i true = false) → (unlistedT listed T).length = fuel → closed ops listed → Grew w0 w →
      (∀ i, F i w) → (∀ i w w', Grew w w' → F i w → F i w') → LexR P ops w0 S Q (unlistedT listed T) F a → wpAny P .any ops Q' (fuel + m) listed a w := by
  have hsel := Region.noSelect_spec (ops := ops) (by simp only [laxTB, Bool.and_eq_true] at hB; exact hB.1.1)
  intro fuel
  induction fuel with
  | zero =>
    intro listed F a w hsz hout hl hc hw hF hFp h
    have hnil : unlistedT listed T = [] := List.eq_nil_of_length_eq_zero hl
    rw [hnil] at h
    rw [Nat.zero_add]
    refine wpAny_last hB m l T listed a w (Nat.le_refl _) hsz hTl hll hops (fun i hi => ?_) hout (hQ _ _ (h w hw hF))
    cases hg : listed.getD i true with
    | true => rfl
    | false =>
      have : i ∈ unlistedT listed T := List.mem_filter.2 ⟨List.mem_range.2 hi, by simp only [hg, beq_self_eq_true]⟩
      rw [hnil] at this
      cases this
  | succ fuel ih =>
    intro listed F a w hsz hout hl hc hw hF hFp h
    rw [Nat.add_right_comm]
    refine ⟨fun hr => ?_, fun j hj => ?_⟩
    · exfalso
      cases hu : unlistedT listed T with
      | nil => simp [hu] at hl
      | cons x xs =>
        have hx : x ∈ unlistedT listed T := by rw [hu]; simp
        have hx' := List.mem_filter.1 hx
        have hxT : x < T := List.mem_range.1 hx'.1
        have hxs : x < ops.size := by omega
        have ho : ops[x]? = some ops[x] := Array.getElem?_eq_getElem hxs
        have hsorted : (unlistedT listed T).Pairwise (· < ·) := List.Pairwise.filter _ List.pairwise_lt_range
        have : x ∈ Region.ready .any ops listed := by
          refine mem_ready.2 ⟨by simpa using hx'.2, ops[x], ho, fun e he hb => ?_⟩
          have hed : edge ops e.on x = true := (edge_of ho).2 ⟨e, he, hb, rfl⟩
          have hlt := laxTB_edge hB ho _ hed
          cases hg : listed.getD e.on true with
          | true => exact getD_up (by omega) hg
          | false =>
            have hmem : e.on ∈ unlistedT listed T := List.mem_filter.2 ⟨List.mem_range.2 (by omega), by simp only [hg, beq_self_eq_true]⟩
            rw [hu] at hmem hsorted
            rcases List.mem_cons.1 hmem with e1 | e1
            · omega
            · have := (List.pairwise_cons.1 hsorted).1 _ e1
              omega
        rw [hr] at this
        cases this
    · obtain ⟨h0, oj, hoj, hall⟩ := mem_ready.1 hj
      have hjs : j < ops.size := (Array.getElem?_eq_some_iff.1 hoj).1
      have hdir : ∀ k, edge ops k j = true → listed.getD k false = true := fun k hk => by
        obtain ⟨e, he, hb, rfl⟩ := (edge_of hoj).1 hk
        exact hall e he hb
      have hjT : j < T := by
        rcases Nat.lt_or_ge j T with h1 | h1
        · exact h1
        · exfalso
          cases hu : unlistedT listed T with
          | nil => simp [hu] at hl
          | cons x xs =>
            have hx : x ∈ unlistedT listed T := by rw [hu]; simp
            have hx' := List.mem_filter.1 hx
            have hxT : x < T := List.mem_range.1 hx'.1
            have := anc_listed hc j x j hdir (laxTB_last hB hoj h1 x (by omega))
            rw [getD_flip (by simpa using hx'.2)] at this
            cases this
      have hju : j ∈ unlistedT listed T := List.mem_filter.2 ⟨List.mem_range.2 hjT, by simp only [h0, beq_self_eq_true]⟩
      have hnd : (unlistedT listed T).Nodup := List.Pairwise.filter _ List.nodup_range
      have hsorted : (unlistedT listed T).Pairwise (· < ·) := List.Pairwise.filter _ List.pairwise_lt_range
      have hcm := LexR.commute hoj hw hsel hS (unlistedT listed T) F a hnd hju (fun i hi hij => by
        have hi' := List.mem_filter.1 hi
        have hun : listed.getD i false = false := getD_flip (by simpa using hi'.2)
        have his : i < ops.size := by have := List.mem_range.1 hi'.1; omega
        have hoi : ops[i]? = some ops[i] := Array.getElem?_eq_getElem his
        refine ⟨ops[i], hoi, fun hlt => ?_, ?_, fun hlt => ?_⟩
        · rcases laxTB_apart hB hoj hjT i hlt with he | ⟨oi, hoi', hap⟩
          · have := hdir i he
            rw [hun] at this
            cases this
          · rw [hoi] at hoi'
            cases hoi'
            exact hap
        · cases ha : anc ops 3 i j with
          | false => rfl
          | true =>
            have := anc_listed hc 3 i j hdir ha
            rw [hun] at this
            cases this
        · cases ha : anc ops 3 j i with
          | false => rfl
          | true =>
            have := ancT_lt hB 3 j i ha
            omega) hsorted (fun m _ => hF m) h
      have hsz' : (listed.setIfInBounds j true).size = ops.size := by simp [hsz]
      have hout' : ∀ i, T ≤ i → i < ops.size → (listed.setIfInBounds j true).getD i true = false := fun i hi hi' => by rw [getD_set_ne true (by omega)]; exact hout i hi hi'
      have hlen' : (unlistedT (listed.setIfInBounds j true) T).length = fuel := by
        rw [unlistedT_set (by omega)]
        have he : (unlistedT listed T).filter (· != j) = (unlistedT listed T).erase j := by
          rw [List.Nodup.erase_eq_filter hnd]
        rw [he, List.length_erase_of_mem hju]
        omega
      have hc' : closed ops (listed.setIfInBounds j true) := fun i k hk hik => by
        by_cases hkj : j = k
        · subst hkj
          exact getD_set_true (hdir i hik)
        · rw [getD_set_ne false hkj] at hk
          exact getD_set_true (hc i k hk hik)
      unfold wpOp
      simp only [hoj]
      simp only [LexR, Clause, hoj] at hcm
      rw [← unlistedT_set (by omega)] at hcm
      split
      · rename_i hwant
        simp only [hwant, if_true] at hcm
        refine .inl ?_
        cases hs : S j with
        | none =>
          simp only [hs] at hcm
          obtain ⟨v, hrun, hk⟩ := hcm
          have hr := hrun w hw (fun m _ => hF m)
          unfold Oper.wp
          rw [hr]
          exact ih _ F _ w hsz' hout' hlen' hc' hw hF hFp hk
        | some s =>
          simp only [hs] at hcm
          refine (hcm.1 w hw (fun m _ => hF m)).wp fun v w' ⟨hg, hpv, hpost⟩ => ?_
          refine ih _ (fset F j (s.post v)) _ w' hsz' hout' hlen' hc' (hw.trans hg) (fun i => ?_) (fun i x y hxy hx => ?_) (hcm.2 v hpv)
          · unfold fset
            split
            · exact hpost
            · exact hFp i w w' hg (hF i)
          · unfold fset at *
            split
            · rename_i he; simp only [he, if_true] at hx; exact hp j s hs v x y hxy hx
            · rename_i he; simp only [he, if_false] at hx; exact hFp i x y hxy hx
      · rename_i hwant
        simp only [hwant] at hcm
        exact ih _ F _ w hsz' hout' hlen' hc' hw hF hFp hcm

/-- ONE WALK IN THE ORDER OF THE TEXT, then the last ones. -/
theorem wp_lax_tail {id : Nat} {Q : Exit → Act → World → Prop} {a : Act} {w : World} {L l r : List Oper} (T : Nat) (S : List (Nat × Spec)) (hm : P.follows .mixedOrders = true) (hB : laxTB L.toArray T = true) (hl : L.take T = l) (hr : L.drop T = r) (hT : T ≤ L.length)
    (hS : ∀ x ∈ S, ∃ v, x.2.pv v) (hp : ∀ x ∈ S, ∀ v w w', Grew w w' → x.2.post v w → x.2.post v w')
    (h : WLax P L.toArray w (fun k => S.lookup k) (fun a w => wpList P L.toArray Q r a w) l 0 (fun _ _ => True) a) : (Code.region id L.toArray true).wp P Q a w := by
  have hlook : ∀ (S : List (Nat × Spec)) k s, S.lookup k = some s → ∃ x ∈ S, x.2 = s := by
    intro S
    induction S with
    | nil => intro k s h; simp at h
    | cons x S ih =>
      intro k s h
      rw [List.lookup_cons] at h
      split at h
      · exact ⟨x, by simp, by simpa using h⟩
      · obtain ⟨y, hy, he⟩ := ih k s h; exact ⟨y, by simp [hy], he⟩
  have hlT : l.length = T := by rw [← hl, List.length_take]; omega
  have hrT : r.length = L.length - T := by rw [← hr, List.length_drop]
  refine wp_region_any hm ?_
  have hu : unlistedT (Array.replicate L.toArray.size false) T = List.range T := by
    unfold unlistedT
    refine List.filter_eq_self.2 fun i hi => ?_
    have : i < T := by simpa using hi
    simp [show i < L.length by omega]
  have h' := lexR_of_lax (ops := L.toArray) l 0 _ a (fun j => by
    rcases Nat.lt_or_ge j T with hj | hj
    · left; rw [← hl, List.getElem?_take_of_lt hj]; simp
    · right; omega) h.out
  rw [hlT, ← List.range_eq_range'] at h'
  have hfin := wpAny_of_lexT (P := P) (w0 := w) (S := fun k => S.lookup k) (F := fun _ _ => True) (ops := L.toArray) (T := T) (l := r) (m := L.length - T) (Q := fun a w => wpList P L.toArray Q r a w) (Q' := Q) hB (by simp; omega) hrT (fun j => by rw [← hr, List.getElem?_drop]; simp) (fun k s hs => by obtain ⟨x, hx, rfl⟩ := hlook S k s hs; exact hS x hx) (fun k s hs => by obtain ⟨x, hx, rfl⟩ := hlook S k s hs; exact hp x hx) (fun _ _ h => h)
    T (Array.replicate L.toArray.size false) a w.drew (by simp) (fun i hi hi' => by simp at hi'; simp [hi']) (by rw [hu]; simp) (fun i j hj _ => by
      exfalso
      rw [Array.getD_eq_getD_getElem?, Array.getElem?_replicate] at hj
      split at hj <;> simp at hj)
    (show Below _ _ _ from (Below.refl _ _).drew) (fun _ => trivial) (fun _ _ _ _ _ => trivial) (by rw [hu]; exact h')
  have hsz : T + (L.length - T) = L.toArray.size := by simp; omega
  rw [hsz] at hfin
  exact hfin

end
end Go.Proofs.Ytlkgmjdhggfimad
