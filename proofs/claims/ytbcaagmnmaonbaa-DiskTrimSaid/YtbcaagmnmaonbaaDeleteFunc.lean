/- Contract of slices.DeleteFunc of what waits for a block, in memory of the call's own (Trim's call). -/
import Derived.Test.YtbcaagmnmaonbaaDeleteOne
namespace Go.Proofs.Ytbcaagmnmaonbaa
open Go.RowKit

theorem mem_set_len2 {qs : List (Int × List Int)} {i : Nat} {q : Int × List Int} (h : ∀ p ∈ qs, p.2.length = 8) (hl : q.2.length = 8) : ∀ p ∈ qs.set i q, p.2.length = 8 := fun p hp => by
  rcases List.mem_or_eq_of_mem_set hp with h1 | h1
  · exact h p h1
  · rw [h1]; exact hl

theorem wpList_store_put {w : World} {ops : Array Oper} {rest : List Oper} {o : Oper} {a : Act} {Q : Exit → Act → World → Prop} (hgd : o.guard = none) (p x : Operand) (ho : o.op = .store 56 p x)
    (base : Nat) (v : Value) (qs : List (Int × List Int)) (hown : OwnPuts base w v qs) (g i : Nat) (hg : v.ownBlock = some g) (hi : i < qs.length) (q : Int × List Int) (hl : q.2.length = 8)
    (ad : Addr) (hp : a.eval p = .pointer (some ad)) (had : ad = ⟨g, i * 9, none⟩) (hx : a.eval x = .agg (ptc q).toArray)
    (h : ∀ w', OwnPuts base w' v (qs.set i q) → w.grownBy w' (some g) → w'.heap.size = w.heap.size → wpList Try.prog ops Q rest (a.put o.dst undef) w') : wpList Try.prog ops Q (o :: rest) a w := by
  refine wpList_store_row hgd p x 56 ho 9 (by kernel_rfl) base v qs.length _ hown.1 g i hg hi (ptc q) (by rw [ptc_len, hl]) (ptc_one q) ad hp had hx fun w' h1 h2 h3 => ?_
  rw [splice_set q (by rw [ptc_len, hl]) qs i (fun b hb => by rw [ptc_len, hown.2.1 b hb]) hi] at h1
  exact h w' ⟨by rw [List.length_set]; exact h1, mem_set_len2 hown.2.1 hl, by rw [List.length_set]; exact hown.2.2⟩ h2 h3

/-- Fewer of an own row. -/
theorem OwnPuts.shrink {base : Nat} {w : World} {g n cap : Nat} {L : List (Int × List Int)} (h : OwnPuts base w (.slice (some ⟨g, 0, none⟩) n cap) L) (i : Nat) (hi : i ≤ L.length) : OwnPuts base w (.slice (some ⟨g, 0, none⟩) i cap) (L.take i) := by
  obtain ⟨hn, hb, hnc, hm, cur, hh, hsz, ht⟩ := h.block
  have hl : (L.take i).length = i := by rw [List.length_take]; omega
  have := OwnPuts.mk (base := base) (w := w) (g := g) (cap := cap) (qs := L.take i) (cur := cur) hb hh (by omega) hm hsz (by
    rw [hl]
    have h1 : (cur.toList.take (L.length * 9)).take (i * 9) = cur.toList.take (i * 9) := by rw [List.take_take, Nat.min_eq_left (by omega)]
    rw [← h1, ht]
    conv => lhs; rw [← List.take_append_drop i L, List.flatMap_append]
    rw [List.take_left' (by rw [flatMap_len (k := 9) _ (fun q hq => by rw [ptc_len, h.2.1 q (List.mem_of_mem_take hq)]), hl])]) (fun q hq => h.2.1 q (List.mem_of_mem_take hq)) (by have := h.2.2; omega)
  rw [hl] at this
  exact this

theorem trim1_any (m : Int) (B : Nat) (q : Int × List Int) (hq : q.2.length = 8) (w : World) (hc : Box w B [.int .i64 m]) :
    Calls Try.prog 43 #[.agg (ptc q).toArray, .pointer (some ⟨B, 0, none⟩)] w fun e w' => e = .returned (.bool (q.1 == m)) ∧ Grew w w' := by
  obtain ⟨m', l⟩ := q
  obtain ⟨b0, b1, b2, b3, b4, b5, b6, b7, rfl⟩ := len8 l hq
  have hc0 := hc.c 0 rfl
  have hB := hc.lt
  clear hc hq
  show Calls Try.prog 43 #[.agg #[.int .i64 m', .int .u8 b0, .int .u8 b1, .int .u8 b2, .int .u8 b3, .int .u8 b4, .int .u8 b5, .int .u8 b6, .int .u8 b7], .pointer (some ⟨B, 0, none⟩)] w _
  go_enter Try.func43, Try.ntmps43
  go_wp2
  go_ret
  exact ⟨rfl, grew_alloc _ _⟩

theorem pred_trim1 (m : Int) (B : Nat) (w : World) (hc : Box w B [.int .i64 m]) : PredOk 43 #[.pointer (some ⟨B, 0, none⟩)] (fun q => q.1 == m) w := fun W q hW h8 => trim1_any m B q h8 W (hc.grew hW)

theorem filter_all {α : Type} {p : α → Bool} {l : List α} (h : ∀ (j : Nat) q, l[j]? = some q → p q = false) : l.filter (fun q => !p q) = l := by
  rw [List.filter_eq_self]
  intro q hq
  obtain ⟨j, hj⟩ := List.getElem?_of_mem hq
  simp [h j q hj]

theorem take_filter_all {α : Type} {p : α → Bool} {l : List α} {k : Nat} (h : ∀ (j : Nat) q, j < k → l[j]? = some q → p q = false) : (l.take k).filter (fun q => !p q) = l.take k := by
  refine filter_all (p := p) fun j q hj => ?_
  rw [List.getElem?_take] at hj
  split at hj
  · exact h j q (by assumption) hj
  · cases hj

theorem grew_to_grown {w w' : World} (h : Grew w w') (row : Option Nat) : w.grownBy w' row := ⟨h.os, h.tape, h.output, h.size, fun k hk _ => h.block k hk⟩

set_option maxRecDepth 100000 in
set_option maxHeartbeats 1000000 in
theorem deleteFunc_any (m : Int) (B base : Nat) (v : Value) (qs : List (Int × List Int)) (w : World) (hown : OwnPuts base w v qs) (hB : Box w B [.int .i64 m]) (hBb : B < base) (h400 : qs.length ≤ 400) :
    Calls Try.prog 42 #[v, .func (.func 43) #[] #[.pointer (some ⟨B, 0, none⟩)]] w fun e w' => ∃ v', e = .returned v' ∧ OwnPuts base w' v' (qs.filter fun q => !(q.1 == m)) ∧ w.grownBy w' v.ownBlock ∧ v'.ownBlock = v.ownBlock := by
  have hix := indexFunc_any (fun q => q.1 == m) 43 #[.pointer (some ⟨B, 0, none⟩)] (enters_of Try.func43 (by kernel_rfl) rfl) v qs w hown.at (pred_trim1 m B w hB)
  have HO : Hid (OwnPuts base w v qs) := hown
  have HB : Hid (Box w B [.int .i64 m]) := hB
  obtain ⟨a, c, rfl⟩ := hown.form
  clear hB hown
  obtain ⟨nq, HNQ⟩ : ∃ nq, Hid (qs.length = nq) := ⟨_, rfl⟩
  rw [HNQ.out] at hix h400 HO ⊢
  go_enter Try.func42, Try.ntmps42
  go_wp2_with (go_at_call 47; refine hix.mono ?_; clear hix; rintro e W1 ⟨r, rfl, hg1, hr⟩
               have HG1 : Hid (Grew w W1) := hg1
               have HR : Hid (IdxP (fun q => q.1 == m) qs r) := hr
               clear hg1 hr)
  · have hm1 : (r == -1) = true := by assumption
    have hr1 : r = -1 := by simpa using hm1
    go_ret
    rcases HR.out with ⟨_, hall⟩ | ⟨k, q, hk, _⟩
    · refine ⟨_, rfl, ?_, grew_to_grown HG1.out _, rfl⟩
      rw [filter_all (p := fun q : Int × List Int => q.1 == m) hall]
      exact HO.out.grew HG1.out
    · omega
  · have hm1 : (r == -1) = false := by assumption
    rcases HR.out with ⟨hk, _⟩ | ⟨k, q0, rfl, hq0, hp0, hbefore⟩
    · subst hk
      exact absurd hm1 (by decide)
    · have hkl : k < nq := by rw [← HNQ.out]; exact (List.getElem?_eq_some_iff.1 hq0).1
      obtain ⟨g, HA, HGB⟩ : ∃ g, Hid (a = some ⟨g, 0, none⟩) ∧ Hid (base ≤ g ∧ nq ≤ c ∧ c ≤ maxLen) := by
        rcases HO.out.1.2 with ⟨_, h0⟩ | ⟨gv, cap, cur, h0, h1, _, h3, h4, _⟩
        · have := HNQ.out; omega
        · rw [HNQ.out] at h3
          cases h0
          exact ⟨gv, rfl, h1, h3, h4⟩
      have ha := HA.out
      subst ha
      have H1 : Hid (OwnPuts base W1 (.slice (some ⟨g, 0, none⟩) nq c) qs) := HO.out.grew HG1.out
      have HGR : Hid (w.grownBy W1 (some g)) := grew_to_grown HG1.out _
      have HBX : Hid (Box W1 B [.int .i64 m]) := HB.out.grew HG1.out
      have hnc : nq ≤ c := HGB.out.2.1
      have hcm : c ≤ 9223372036854775807 := by have := HGB.out.2.2; simpa [maxLen] using this
      have HT0 : Hid (qs.take k = (qs.take (k + 1)).filter fun q => !(q.1 == m)) := show _ = _ by
        rw [List.take_succ_eq_append_getElem (by rw [HNQ.out]; exact hkl), List.filter_append, take_filter_all (p := fun q : Int × List Int => q.1 == m) hbefore]
        have : qs[k]'(by rw [HNQ.out]; exact hkl) = q0 := by
          have := List.getElem?_eq_getElem (l := qs) (i := k) (by rw [HNQ.out]; exact hkl)
          rw [hq0] at this
          exact (Option.some.inj this).symm
        rw [this]
        simp [hp0]
      clear hm1 HR hq0 hp0 hbefore
      go_loopg [5, 6, 7] nq (fun gg s5 s6 _ wr => ∃ (i j : Nat) (L : List (Int × List Int)), s5 = .int .i64 i ∧ s6 = .int .i64 j ∧ i < j ∧ j ≤ nq ∧ nq - j ≤ gg ∧ Hid (OwnPuts base wr (.slice (some ⟨g, 0, none⟩) nq c) L) ∧ Hid (L.length = nq) ∧ Hid (L.take i = (qs.take j).filter fun q => !(q.1 == m)) ∧ Hid (L.drop j = qs.drop j) ∧ Hid (w.grownBy wr (some g)) ∧ Hid (Box wr B [.int .i64 m]))
      case atStart => exact ⟨k, k + 1, qs, rfl, by rw [show wrap64 ((k : Int) + 1) = (k : Int) + 1 from by unfold wrap64; omega]; rfl, by omega, by omega, by omega, H1.out, HNQ.out, HT0.out, rfl, HGR.out, HBX.out⟩
      case round =>
        obtain ⟨i, j, L, rfl, rfl, hij, hjn, hgg, OP, HLL, HTK, HDR, HGW, HBW⟩ := hrel
        by_cases hlt : j < nq
        · have hltz : (j : Int) < (nq : Int) := by omega
          have hlti : (i : Int) < (nq : Int) := by omega
          obtain ⟨q, hqj⟩ : ∃ q, qs[j]? = some q := ⟨_, List.getElem?_eq_getElem (by rw [HNQ.out]; exact hlt)⟩
          have hLj : L[j]? = some q := by
            have h1 := congrArg (fun l => l[0]?) HDR.out
            simp only [List.getElem?_drop, Nat.add_zero] at h1
            rw [h1]
            exact hqj
          obtain ⟨a', c', hsl, hrows⟩ := OP.out.at.rows
          rw [HLL.out] at hsl
          cases hsl
          obtain ⟨x, m', b0, b1, b2, b3, b4, b5, b6, b7, hx, rfl, hl⟩ := hrows j q hLj
          cases hx
          have hcells := hl wr (Grew.refl _)
          simp only [Addr.add_lit, Nat.zero_add] at hcells
          obtain ⟨d0, d1, d2, d3, d4, d5, d6, d7, d8⟩ := hcells
          have hcall := trim1_any m B (m', [b0, b1, b2, b3, b4, b5, b6, b7]) rfl (wr.alloc (.cells #[.int .i64 m', .int .u8 b0, .int .u8 b1, .int .u8 b2, .int .u8 b3, .int .u8 b4, .int .u8 b5, .int .u8 b6, .int .u8 b7] 56)) (HBW.out.alloc _)
          have HQJ : Hid (qs[j]? = some (m', [b0, b1, b2, b3, b4, b5, b6, b7])) := hqj
          have HTS : Hid ((qs.take (j + 1)).filter (fun q => !(q.1 == m)) = (qs.take j).filter (fun q => !(q.1 == m)) ++ [(m', [b0, b1, b2, b3, b4, b5, b6, b7])].filter (fun q => !(q.1 == m))) := show _ = _ by
            have hjl : j < qs.length := by rw [HNQ.out]; exact hlt
            rw [List.take_succ_eq_append_getElem hjl, List.filter_append]
            have : qs[j]'hjl = (m', [b0, b1, b2, b3, b4, b5, b6, b7]) := by
              have := List.getElem?_eq_getElem (l := qs) (i := j) hjl
              rw [HQJ.out] at this
              exact (Option.some.inj this).symm
            rw [this]
          have HDS : Hid (L.drop (j + 1) = qs.drop (j + 1)) := show _ = _ by
            have := congrArg (List.drop 1) HDR.out
            simpa [List.drop_drop] using this
          clear hl hrows hLj hqj
          cases hd : (m' == m) with
          | true =>
            rw [show (((m', [b0, b1, b2, b3, b4, b5, b6, b7]) : Int × List Int).1 == m) = true from hd] at hcall
            go_wp2_with (go_at_call 43; refine hcall.mono ?_; clear hcall; rintro e W3 ⟨rfl, g3⟩)
            go_roundg (nq - (j + 1))
            case measure => omega
            case rel =>
              refine ⟨i, j + 1, L, rfl, by go_num, by omega, by omega, by omega, OP.out.grew ((grew_alloc _ _).trans g3), HLL.out, ?_, HDS.out, grown_grew HGW.out ((grew_alloc _ _).trans g3), HBW.out.grew ((grew_alloc _ _).trans g3)⟩
              show L.take i = _
              rw [HTS.out, HTK.out]
              simp [hd]
          | false =>
            rw [show (((m', [b0, b1, b2, b3, b4, b5, b6, b7]) : Int × List Int).1 == m) = false from hd] at hcall
            go_wp2_with (first
              | (go_at_call 43; refine hcall.mono ?_; clear hcall; rintro e W3 ⟨rfl, g3⟩
                 have b3 := (Box.top wr [.int .i64 m', .int .u8 b0, .int .u8 b1, .int .u8 b2, .int .u8 b3, .int .u8 b4, .int .u8 b5, .int .u8 b6, .int .u8 b7] 56 rfl).grew g3
                 have y0 := b3.c 0 rfl
                 have y1 := b3.c 1 rfl
                 have y2 := b3.c 2 rfl
                 have y3 := b3.c 3 rfl
                 have y4 := b3.c 4 rfl
                 have y5 := b3.c 5 rfl
                 have y6 := b3.c 6 rfl
                 have y7 := b3.c 7 rfl
                 have y8 := b3.c 8 rfl
                 have O3 : Hid (OwnPuts base W3 (.slice (some ⟨g, 0, none⟩) nq c) L) := OP.out.grew ((grew_alloc _ _).trans g3)
                 have G3 : Hid (w.grownBy W3 (some g)) := grown_grew HGW.out ((grew_alloc _ _).trans g3)
                 have X3 : Hid (Box W3 B [.int .i64 m]) := HBW.out.grew ((grew_alloc _ _).trans g3)
                 clear b3)
              | (refine wpList_store_put rfl (.tmp 33) (.tmp 32) rfl base _ L O3.out g i rfl (by rw [HLL.out]; omega) (m', [b0, b1, b2, b3, b4, b5, b6, b7]) rfl _ rfl (by simp) rfl ?_; intro W4 ow4 gr4 _))
            go_roundg (nq - (j + 1))
            case measure => omega
            case rel =>
              refine ⟨i + 1, j + 1, L.set i (m', [b0, b1, b2, b3, b4, b5, b6, b7]), by go_num, by go_num, by omega, by omega, by omega, ow4, (show Hid _ from by rw [List.length_set]; exact HLL.out), ?_, ?_, grown_trans G3.out gr4, X3.out.grown gr4 (by have := HGB.out.1; omega)⟩
              · show (L.set i _).take (i + 1) = _
                rw [HTS.out, ← HTK.out, List.take_succ_eq_append_getElem (by rw [List.length_set, HLL.out]; omega)]
                simp [hd]
                apply List.ext_getElem?
                intro t
                rw [List.getElem?_take, List.getElem?_take]
                split
                · rw [List.getElem?_set_ne (by omega)]
                · rfl
              · show (L.set i _).drop (j + 1) = _
                rw [List.drop_set_of_lt (by omega)]
                exact HDS.out
        · have hltz : ¬ (j : Int) < (nq : Int) := by omega
          have hjn' : j = nq := by omega
          subst hjn'
          have hin : i < j := hij
          have HS : Hid (OwnPuts base wr (.slice (some ⟨g, 0, none⟩) i c) (L.take i)) := OP.out.shrink i (by rw [HLL.out]; omega)
          have HLI : Hid ((L.take i).length = i) := show _ = _ by rw [List.length_take, HLL.out]; omega
          have HF : Hid (L.take i = qs.filter fun q => !(q.1 == m)) := show _ = _ by rw [HTK.out, List.take_of_length_le (by rw [HNQ.out]; exact Nat.le_refl _)]
          have h1 : (i : Int) ≤ (j : Int) := by omega
          have h2 : ¬ c = i := by omega
          go_wp2_with (refine wpList_clear_row rfl (.tmp 38) rfl base g c i (L.take i) HS.out _ (j - i) _ rfl (by rw [HLI.out]; omega) (fun _ => by rw [HLI.out]) ?_; intro W3 ow3 gr3 _
                       have O3 : Hid (OwnPuts base W3 (.slice (some ⟨g, 0, none⟩) i c) (L.take i)) := ow3
                       have G3 : Hid (wr.grownBy W3 (some g)) := gr3
                       clear ow3 gr3)
          go_ret
          exact ⟨_, rfl, by rw [← HF.out]; exact O3.out, grown_trans HGW.out G3.out, rfl⟩

end Go.Proofs.Ytbcaagmnmaonbaa
