/- Contract of Guard (package table). -/
import Derived.Test.YtodbgjhdfjpcpacTbOwn
namespace Go.Proofs.Ytodbgjhdfjpcpac
open Go.RowKit

theorem set_same {α : Type} {l : List α} {i : Nat} {v : α} (h : l[i]? = some v) : l.set i v = l := by
  apply List.ext_getElem?
  intro j
  by_cases e : j = i
  · subst e
    rw [List.getElem?_set_self (List.getElem?_eq_some_iff.1 h).1, h]
  · rw [List.getElem?_set_ne (fun h => e h.symm)]

/-- The first kk are done to by f. -/
def Upto {α : Type} (f : α → α) (kk : Nat) (l m : List α) : Prop := ∀ i, m[i]? = if i < kk then (l[i]?).map f else l[i]?
theorem Upto.zero {α : Type} (f : α → α) (l : List α) : Upto f 0 l l := fun i => by rw [if_neg (Nat.not_lt_zero _)]
theorem Upto.step {α : Type} {f : α → α} {kk : Nat} {l m : List α} (h : Upto f kk l m) {x : α} (hx : l[kk]? = some x) : Upto f (kk + 1) l (m.set kk (f x)) := fun i => by
  have hm : m[kk]? = some x := by rw [h kk, if_neg (Nat.lt_irrefl _), hx]
  by_cases e : i = kk
  · subst e
    rw [List.getElem?_set_self (List.getElem?_eq_some_iff.1 hm).1, if_pos (Nat.lt_succ_self _), hx]
    rfl
  · rw [List.getElem?_set_ne (fun h => e h.symm), h i]
    by_cases h1 : i < kk
    · rw [if_pos h1, if_pos (by omega)]
    · rw [if_neg h1, if_neg (by omega)]
theorem Upto.all {α : Type} {f : α → α} {kk : Nat} {l m : List α} (h : Upto f kk l m) (hl : l.length ≤ kk) : m = l.map f := by
  apply List.ext_getElem?
  intro i
  rw [h i, List.getElem?_map]
  by_cases h1 : i < kk
  · rw [if_pos h1]
  · rw [if_neg h1, List.getElem?_eq_none (by omega)]
    rfl
theorem Upto.len {α : Type} {f : α → α} {kk : Nat} {l m : List α} (h : Upto f kk l m) (hk : kk ≤ l.length) : m.length = l.length := by
  have key : ∀ i, i < m.length ↔ i < l.length := fun i => by
    have h1 := h i
    constructor
    · intro hi
      by_cases e : i < l.length
      · exact e
      · rw [List.getElem?_eq_getElem hi, if_neg (by omega), List.getElem?_eq_none (by omega)] at h1
        cases h1
    · intro hi
      by_cases e : i < m.length
      · exact e
      · rw [List.getElem?_eq_none (by omega), List.getElem?_eq_getElem hi] at h1
        split at h1 <;> cases h1
  have h1 := key m.length
  have h2 := key l.length
  omega

set_option maxRecDepth 100000 in
set_option maxHeartbeats 2000000 in
theorem guardTb_any (vs : List Value) (t : List (List En)) (w : World) (hv : TabAt w vs t) :
    Calls Try.prog 41 #[.agg vs.toArray] w fun e w' => ∃ us, e = .returned (.agg us.toArray) ∧ TabS 0 w.heap.size w' us (guardT t) ∧ Grew w w' := by
  have HL : Hid (vs.length = 8) := hv.len
  have HT8 : Hid (t.length = 8) := hv.tlen
  have h2 : ∀ W, Grew w W → Calls Try.prog 33 #[.agg vs.toArray] W fun e w' => ∃ us, e = .returned (.agg us.toArray) ∧ OwnTab (W.heap.size + 2) w' us t ∧ Grew W w' ∧ W.heap.size + 2 ≤ w'.heap.size := fun W hW => ownTb_any vs t W (hv.grew hW)
  clear hv
  obtain ⟨GT, HGT⟩ : ∃ GT, Hid (guardT t = GT) := ⟨_, rfl⟩
  rw [HGT.out]
  obtain ⟨W0, hW0⟩ : ∃ W0, (w.alloc (.cells vs.toArray 55)).alloc (.cells #[.slice none 0 0, .slice none 0 0, .slice none 0 0, .slice none 0 0, .slice none 0 0, .slice none 0 0, .slice none 0 0, .slice none 0 0] 55) = W0 := ⟨_, rfl⟩
  have HG0 : Hid (Grew w W0) := show Grew w W0 by rw [← hW0]; exact (grew_alloc _ _).trans (grew_alloc _ _)
  have X0 : Hid (Box W0 w.heap.size vs) := show Box _ _ _ by rw [← hW0]; exact (Box.top w _ _ rfl).alloc _
  have Y0 : Hid (Box W0 (w.heap.size + 1) nil8) := show Box _ _ _ by rw [← hW0]; exact Box.top _ nil8 _ (by simp)
  have HS0 : Hid (W0.heap.size = w.heap.size + 2) := show _ = _ by rw [← hW0]; simp
  have HW0 : Hid (_ = W0) := hW0
  clear hW0
  go_enter Try.func41, Try.ntmps41
  go_upto_region 1 with fail
  rw [HW0.out]
  go_wp2_with (refine wp_loadTab rfl (.tmp 1) rfl w.heap.size rfl X0.out HL.out ?_)
  refine (h2 W0 HG0.out).mono ?_
  rintro e W1 ⟨us, rfl, ot1, g1, s1⟩
  have OT1 : Hid (OwnTab (w.heap.size + 4) W1 us t) := show OwnTab _ _ _ _ by rw [HS0.out] at ot1; exact ot1
  have G01 : Hid (Grew W0 W1) := g1
  have HB1 : Hid (w.heap.size + 4 ≤ W1.heap.size) := show _ ≤ _ by rw [HS0.out] at s1; exact s1
  have HLU : Hid (us.length = 8) := ot1.len
  clear ot1 g1 s1 h2
  obtain ⟨po, HPO⟩ : ∃ po, Hid (W1.heap.size = po) := ⟨_, rfl⟩
  go_wp2_with (refine wp_storeAll rfl 55 (.tmp 3) (.tmp 8) rfl W1.heap.size rfl us rfl (Box.top W1 nil8 55 rfl) HLU.out Try.sizeTable OT1.out.new.one ?_)
  intro W2 b2 g2 s2
  rw [HPO.out] at b2 g2 ⊢
  have P2 : Hid (Box W2 po us) := b2
  have G12 : Hid (Grew W1 W2) := show Grew _ _ from grew_grown (grew_alloc W1 _) g2 (by rw [HPO.out]; exact Nat.le_refl _)
  clear b2 g2 s2
  have OT2 : Hid (OwnTab (w.heap.size + 4) W2 us t) := OT1.out.grew G12.out
  have Y2 : Hid (Box W2 (w.heap.size + 1) nil8) := (Y0.out.grew G01.out).grew G12.out
  have G2 : Hid (Grew w W2) := (HG0.out.trans G01.out).trans G12.out
  have HLT : Hid (∀ (j : Nat) u, us[j]? = some u → ∀ g, u.ownBlock = some g → w.heap.size + 4 ≤ g ∧ g < po) := show ∀ (j : Nat) u, _ from fun j u hu g hg => by
    obtain ⟨y, hy⟩ : ∃ y, t[j]? = some y := ⟨_, List.getElem?_eq_getElem (by rw [HT8.out, ← HLU.out]; exact (List.getElem?_eq_some_iff.1 hu).1)⟩
    rw [← HPO.out]
    exact (OT1.out.row j u y hu hy).lt g hg
  go_wp2_with (refine wp_loadTab rfl (.tmp 3) rfl po rfl P2.out HLU.out ?_)
  go_loopg [10] 8 (fun gg s10 wr => ∃ (kk : Nat) (t' : List (List En)), kk ≤ 8 ∧ 8 - kk ≤ gg ∧ s10 = .int .i64 kk ∧ Hid (Grew w wr) ∧ Hid (OwnTab (w.heap.size + 4) wr us t') ∧ Hid (Box wr po us) ∧ Hid (Box wr (w.heap.size + 1) nil8) ∧ Hid (Upto (List.map enG) kk t t'))
  case atStart => exact ⟨0, t, Nat.zero_le _, by omega, rfl, G2.out, OT2.out, P2.out, Y2.out, Upto.zero _ _⟩
  case round =>
    obtain ⟨kk, t', hkk, hg, rfl, BW, OW, PW, YW, UW⟩ := hrel
    by_cases hlt : kk < 8
    · have hltz : (kk : Int) < 8 := by omega
      obtain ⟨q, HQ⟩ : ∃ q, Hid (t[kk]? = some q) := ⟨_, List.getElem?_eq_getElem (by rw [HT8.out]; exact hlt)⟩
      have HQ' : Hid (t'[kk]? = some q) := show _ = _ by rw [UW.out kk, if_neg (Nat.lt_irrefl _)]; exact HQ.out
      obtain ⟨xa, xc, q', hq', hvk, ho⟩ := OW.out.half hlt
      obtain rfl : q = q' := by rw [HQ'.out] at hq'; cases hq'; rfl
      have hqbig := ho.at.short
      obtain ⟨nq, HNQ⟩ : ∃ nq, Hid (q.length = nq) := ⟨_, rfl⟩
      rw [HNQ.out] at hvk hqbig
      have HVK : Hid (us[kk]? = some (.slice xa nq xc)) := hvk
      have OW' : Hid (OwnTab (w.heap.size + 4) wr us (t'.set kk q)) := show OwnTab _ _ _ _ by rw [set_same HQ'.out]; exact OW.out
      clear hq' hvk ho
      go_wp2_with (refine wp_half rfl (.tmp 9) (.tmp 10) rfl us rfl kk rfl hlt HVK.out ?_)
      go_loopg [15] nq (fun g2 s15 wr2 => ∃ (k2 : Nat) (x' : List En), k2 ≤ nq ∧ nq - k2 ≤ g2 ∧ s15 = .int .i64 k2 ∧ Hid (Grew w wr2) ∧ Hid (OwnTab (w.heap.size + 4) wr2 us (t'.set kk x')) ∧ Hid (Box wr2 po us) ∧ Hid (Box wr2 (w.heap.size + 1) nil8) ∧ Hid (Upto enG k2 q x'))
      case atStart => exact ⟨0, q, Nat.zero_le _, by omega, rfl, BW.out, OW'.out, PW.out, YW.out, Upto.zero _ _⟩
      case round =>
        obtain ⟨k2, x', hk2, hg2, rfl, BW2, OW2, PW2, YW2, UW2⟩ := hrel
        by_cases hlt2 : k2 < nq
        · have hltz2 : (k2 : Int) < (nq : Int) := by omega
          obtain ⟨z, HZ⟩ : ∃ z, Hid (q[k2]? = some z) := ⟨_, List.getElem?_eq_getElem (by rw [HNQ.out]; exact hlt2)⟩
          have HZ' : Hid (x'[k2]? = some z) := show _ = _ by rw [UW2.out k2, if_neg (Nat.lt_irrefl _)]; exact HZ.out
          have HXL : Hid (x'.length = nq) := show _ = _ by rw [UW2.out.len (by rw [HNQ.out]; omega), HNQ.out]
          have ho := OW2.out.row kk _ x' HVK.out (List.getElem?_set_self (by rw [UW.out.len (by rw [HT8.out]; omega), HT8.out]; exact hlt))
          obtain ⟨g, xc', heq⟩ := ho.formS (by rw [HXL.out]; omega)
          rw [HXL.out] at heq
          cases heq
          have O2 : Hid (OwnRow enE (w.heap.size + 4) _ (.slice (some ⟨g, 0, none⟩) nq xc) x') := ho
          have hgb := HLT.out kk _ HVK.out g rfl
          clear ho
          go_wp2_with (refine wpList_store_part (E := enE) rfl (.tmp 21) (.const (.bool false)) 4 rfl (w.heap.size + 4) _ x' O2.out g k2 2 rfl z (enG z) HZ'.out [.bool false] ?s1 rfl ?s2 ?s3 ⟨g, k2 * 3 + 2, none⟩ rfl rfl (.bool false) rfl rfl ?_)
          case s1 => kernel_rfl
          case s2 => exact Nat.le_refl 3
          case s3 => simp; rfl
          intro W3 ow3 gr3 _
          have OT3 : Hid (OwnTab (w.heap.size + 4) W3 us (t'.set kk (x'.set k2 (enG z)))) := show OwnTab _ _ _ _ by
            have h1 := OW2.out.one hlt HVK.out (show World.grownBy _ _ _ from gr3) ow3 (fun g' h => .inl h)
            rw [set_same HVK.out, List.set_set] at h1
            exact h1
          have P3 : Hid (Box W3 po us) := PW2.out.grown gr3 (by omega)
          have Y3 : Hid (Box W3 (w.heap.size + 1) nil8) := YW2.out.grown gr3 (by omega)
          have G3 : Hid (Grew w W3) := show Grew _ _ from grew_grown BW2.out gr3 (by omega)
          have U3 : Hid (Upto enG (k2 + 1) q (x'.set k2 (enG z))) := UW2.out.step HZ.out
          clear ow3 gr3
          go_wp2
          go_roundg (nq - (k2 + 1))
          case measure => omega
          case rel => exact ⟨k2 + 1, _, by omega, by omega, by go_num, G3.out, OT3.out, P3.out, Y3.out, U3.out⟩
        · have hltz2 : ¬ (k2 : Int) < (nq : Int) := by omega
          have : k2 = nq := by omega
          subst this
          have HX : Hid (x' = q.map enG) := UW2.out.all (by rw [HNQ.out]; exact Nat.le_refl _)
          have U3 : Hid (Upto (List.map enG) (kk + 1) t (t'.set kk x')) := show Upto _ _ _ _ by rw [HX.out]; exact UW.out.step HQ.out
          go_wp2
          go_roundg (8 - (kk + 1))
          case measure => omega
          case rel => exact ⟨kk + 1, _, by omega, by omega, by go_num, BW2.out, OW2.out, PW2.out, YW2.out, U3.out⟩
    · have hltz : ¬ (kk : Int) < 8 := by omega
      have : kk = 8 := by omega
      subst this
      have HE : Hid (t' = GT) := show _ = _ by rw [← HGT.out]; exact UW.out.all (by rw [HT8.out]; exact Nat.le_refl _)
      have OE : Hid (OwnTab (w.heap.size + 4) wr us GT) := show OwnTab _ _ _ _ by rw [← HE.out]; exact OW.out
      go_wp2_with (first | refine wp_loadTab rfl (.tmp 3) rfl po rfl PW.out HLU.out ?_ | refine wp_storeAll rfl 55 (.tmp 2) (.tmp 24) rfl (w.heap.size + 1) rfl us rfl YW.out HLU.out Try.sizeTable OE.out.new.one ?_)
      intro W3 b3 g3 s3
      have T3 : Hid (TabS 0 w.heap.size W3 us GT) := show TabS _ _ _ _ _ from ⟨OE.out.len, OE.out.tlen, fun i v h hv' hh => (((OE.out.row i v h hv' hh).grown g3 (fun g hg e => by
        cases e
        have := ((OE.out.row i v h hv' hh).lt _ hg).1
        omega)).new.stays).less (Nat.le_refl _) (by omega)⟩
      have G3 : Hid (Grew w W3) := show Grew _ _ from grew_grown BW.out g3 (by simp)
      have B3 : Hid (Box W3 (w.heap.size + 1) us) := b3
      clear b3 g3 s3
      go_wp2
      refine bodyPost_ret (ret_cell rfl _ rfl B3.out Try.underlying55 rfl (by rw [HLU.out]; exact Try.sizeTable)) rfl ⟨us, rfl, T3.out, G3.out⟩

end Go.Proofs.Ytodbgjhdfjpcpac
