/- Contract of Table (the document's answer): a table of entries. -/
import Derived.Test.YtodbgjhdfjpcpacTbFlat
import Derived.Test.YtodbgjhdfjpcpacTbSet
import Derived.Test.YtodbgjhdfjpcpacKeep
import Derived.Test.YtodbgjhdfjpcpacTbGuard
namespace Go.Proofs.Ytodbgjhdfjpcpac
open Go.RowKit

theorem look2 {α : Type} {A B : α} {p q k : Nat} {s : α} (h : List.lookup k [(p, A), (q, B)] = some s) : (k = p ∧ s = A) ∨ (k = q ∧ s = B) := by
  by_cases h1 : k = p
  · subst h1
    simp at h
    exact .inl ⟨rfl, h.symm⟩
  · by_cases h2 : k = q
    · subst h2
      have e1 : (k == p) = false := by simpa using h1
      simp [List.lookup, e1] at h
      exact .inr ⟨rfl, h.symm⟩
    · have e1 : (k == p) = false := by simpa using h1
      have e2 : (k == q) = false := by simpa using h2
      simp [List.lookup, e1, e2] at h

theorem RowAt.beside {α : Type} {E : Elt α} {w w' : World} {row : Option Nat} {v : Value} {l : List α} (h : RowAt E w v l) (hg : w.grownBy w' row) (hn : ∀ x n c, v = .slice (some x) n c → some x.block ≠ row) : RowAt E w' v l := by
  obtain ⟨⟨a, c, h1, h2, h3⟩, h4⟩ := h
  refine ⟨⟨a, c, h1, h2, fun x hx j u hj => ?_⟩, h4⟩
  subst hx
  exact hg.cell (h3 x rfl j u hj) (by rw [add_block]; exact hn x _ _ h1)

theorem chunk_len (l : List En) (i : Nat) : (chunk l i).length = 8 := by simp [chunk]
theorem chunk_at (l : List En) {i k : Nat} (hk : k < 8) : (chunk l i)[k]? = some (l[8 * i + k]?.getD en0) := by
  unfold chunk
  rw [List.getElem?_map, List.getElem?_range hk]
  rfl

/-- The first kk halves are there. -/
structure Made (l : List En) (kk : Nat) (t : List (List En)) : Prop where
  len : t.length = 8
  at' : ∀ j, j < 8 → t[j]? = some (if j < kk then mk (chunk l j) else [])
theorem made_zero (l : List En) : Made l 0 none8 := ⟨rfl, fun j hj => by rw [if_neg (Nat.not_lt_zero _), none8, List.getElem?_replicate, if_pos hj]⟩
theorem made_step {l : List En} {kk : Nat} {t : List (List En)} (h : Made l kk t) (hk : kk < 8) : Made l (kk + 1) (t.set kk (mk (chunk l kk))) := by
  refine ⟨by simp [h.len], fun j hj => ?_⟩
  by_cases e : j = kk
  · subst e
    rw [List.getElem?_set_self (by rw [h.len]; exact hj), if_pos (Nat.lt_succ_self _)]
  · rw [List.getElem?_set_ne (fun h => e h.symm), h.at' j hj]
    by_cases h1 : j < kk
    · rw [if_pos h1, if_pos (by omega)]
    · rw [if_neg h1, if_neg (by omega)]
theorem made_all {l : List En} {t : List (List En)} (h : Made l 8 t) : t = tableOf l := by
  apply List.ext_getElem?
  intro j
  by_cases hj : j < 8
  · rw [h.at' j hj, if_pos hj]
    unfold tableOf
    rw [List.getElem?_map, List.getElem?_range hj]
    rfl
  · rw [List.getElem?_eq_none (by rw [h.len]; omega), List.getElem?_eq_none (by simp [tableOf]; omega)]

set_option maxRecDepth 100000 in
set_option maxHeartbeats 4000000 in
theorem tableOf_any (l : List En) (w : World) (hl : l.length = 64) (hk : ∀ e ∈ l, 0 ≤ e.kind) :
    Calls Try.prog 42 #[.agg (cellsL l).toArray] w fun e w' => ∃ us, e = .returned (.agg us.toArray) ∧ TabS 0 w.heap.size w' us (tableOf l) ∧ Grew w w' := by
  have HLL : Hid (l.length = 64) := hl
  have HK : Hid (∀ e ∈ l, 0 ≤ e.kind) := hk
  have HC : Hid (∀ (j : Nat) e, l[j]? = some e → (cellsL l)[j * 3]? = some (.int .i64 e.kind) ∧ (cellsL l)[j * 3 + 1]? = some (.int .i64 e.n) ∧ (cellsL l)[j * 3 + 2]? = some (.bool e.wr)) := show ∀ (j : Nat) e, _ from fun j e h => cellsL_at h
  clear hl hk
  obtain ⟨TT, HTT⟩ : ∃ TT, Hid (tableOf l = TT) := ⟨_, rfl⟩
  rw [HTT.out]
  generalize cellsL l = C at HC ⊢
  obtain ⟨W0, hW0⟩ : ∃ W0, ((w.alloc (.cells C.toArray 63)).alloc (.cells #[.slice none 0 0, .slice none 0 0, .slice none 0 0, .slice none 0 0, .slice none 0 0, .slice none 0 0, .slice none 0 0, .slice none 0 0] 55)).alloc (.cells #[.slice none 0 0, .slice none 0 0, .slice none 0 0, .slice none 0 0, .slice none 0 0, .slice none 0 0, .slice none 0 0, .slice none 0 0] 55) = W0 := ⟨_, rfl⟩
  have HG0 : Hid (Grew w W0) := show Grew w W0 by rw [← hW0]; exact ((grew_alloc _ _).trans (grew_alloc _ _)).trans (grew_alloc _ _)
  have X0 : Hid (Box W0 w.heap.size C) := show Box _ _ _ by rw [← hW0]; exact ((Box.top w _ _ rfl).alloc _).alloc _
  have Y0 : Hid (Box W0 (w.heap.size + 1) nil8) := show Box _ _ _ by rw [← hW0]; exact (Box.top _ nil8 _ (by simp)).alloc _
  have T0 : Hid (Box W0 (w.heap.size + 2) nil8) := show Box _ _ _ by rw [← hW0]; exact Box.top _ nil8 _ (by simp)
  have HW0 : Hid (_ = W0) := hW0
  clear hW0
  obtain ⟨b2, HB2⟩ : ∃ b2, Hid (w.heap.size + 2 = b2) := ⟨_, rfl⟩
  go_enter Try.func42, Try.ntmps42
  go_upto_region 2 with fail
  rw [HW0.out]
  go_wp2
  go_loopg [8] 8 (fun gg s8 wr => ∃ (kk : Nat) (us : List Value) (t : List (List En)), kk ≤ 8 ∧ 8 - kk ≤ gg ∧ s8 = .int .i64 kk ∧ Hid (Grew w wr) ∧ Hid (Box wr w.heap.size C) ∧ Hid (Box wr (w.heap.size + 1) nil8) ∧ Hid (Box wr (w.heap.size + 2) us) ∧ Hid (TabS 0 (w.heap.size + 3) wr us t) ∧ Hid (Made l kk t) ∧ Hid (∀ j, kk ≤ j → j < 8 → us[j]? = some (.slice none 0 0)))
  case atStart => exact ⟨0, nil8, none8, Nat.zero_le _, by omega, rfl, HG0.out, X0.out, Y0.out, T0.out, TabS.nil _ _ _, made_zero l, show ∀ j, _ from fun j _ hj => by rw [nil8, List.getElem?_replicate, if_pos hj]⟩
  case round =>
    obtain ⟨kk, us, t, hkk, hg, rfl, BW, XW, YW, TW, SW, MW, NW⟩ := hrel
    by_cases hlt : kk < 8
    · have hltz : (kk : Int) < 8 := by omega
      obtain ⟨Ch, HCH⟩ : ∃ Ch, Hid (chunk l kk = Ch) := ⟨_, rfl⟩
      have HCL : Hid (Ch.length = 8) := show _ = _ by rw [← HCH.out]; exact chunk_len _ _
      have HCA : Hid (∀ k, k < 8 → ∃ e, Ch[k]? = some e ∧ l[8 * kk + k]? = some e ∧ 0 ≤ e.kind) := show ∀ k, _ from fun k hk => by
        obtain ⟨e, he⟩ : ∃ e, l[8 * kk + k]? = some e := ⟨_, List.getElem?_eq_getElem (by rw [HLL.out]; omega)⟩
        exact ⟨e, by rw [← HCH.out, chunk_at l hk, he]; rfl, he, HK.out e (List.mem_of_getElem? he)⟩
      obtain ⟨WB, rfl⟩ : ∃ WB, WB = wr := ⟨_, rfl⟩
      go_wp2
      go_loopg [5, 6] 8 (fun g2 s5 s6 wr2 => ∃ (k2 : Nat) (sm : Bool), k2 ≤ 8 ∧ 8 - k2 ≤ g2 ∧ s6 = .int .i64 k2 ∧ s5 = .bool sm ∧ Hid (sm = anyS (Ch.take k2)) ∧ Hid (wr2 = WB))
      case atStart => exact ⟨0, false, Nat.zero_le _, by omega, rfl, rfl, rfl, rfl⟩
      case round =>
        obtain ⟨k2, sm, hk2, hg2, rfl, rfl, AW2, EW⟩ := hrel
        rw [EW.out]
        by_cases hlt2 : k2 < 8
        · have hltz2 : (k2 : Int) < 8 := by omega
          obtain ⟨e, he1, he2, he3⟩ := HCA.out k2 hlt2
          have HT : Hid (anyS (Ch.take (k2 + 1)) = (sm || enS e)) := show _ = _ by
            rw [take_snoc he1, AW2.out]
            unfold anyS
            rw [List.any_append]
            simp
          cases sm with
          | true =>
            have HS : Hid (true = anyS (Ch.take (k2 + 1))) := show _ = _ by rw [HT.out]; rfl
            clear he1 he2 he3
            go_wp2
            go_roundg (8 - (k2 + 1))
            case measure => omega
            case rel => exact ⟨k2 + 1, true, by omega, by omega, by go_num, rfl, HS.out, rfl⟩
          | false =>
            have hidx : (8 : Int) * (kk : Int) + (k2 : Int) = ((8 * kk + k2 : Nat) : Int) := by omega
            have hi64 : 8 * kk + k2 < 64 := by omega
            obtain ⟨c0, _, _⟩ := HC.out _ e he2
            obtain ⟨ix, HIX⟩ : ∃ ix, Hid (8 * kk + k2 = ix) := ⟨_, rfl⟩
            rw [HIX.out] at hidx hi64 c0
            have hi64z : (ix : Int) < 64 := by omega
            have x0 := XW.out.c _ c0
            clear c0 he1 he2
            obtain ⟨B, HBB⟩ : ∃ B, Hid (enS e = B) := ⟨_, rfl⟩
            have hB : decide (0 < e.kind) = B := by
              rw [← HBB.out]
              unfold enS
              by_cases h : e.kind = 0
              · rw [h]; rfl
              · have : 0 < e.kind := by omega
                rw [decide_eq_true this]
                simpa using h
            have HS : Hid (B = anyS (Ch.take (k2 + 1))) := show _ = _ by rw [HT.out, HBB.out]; rfl
            clear he3
            go_wp2
            go_roundg (8 - (k2 + 1))
            case measure => omega
            case rel => exact ⟨k2 + 1, B, by omega, by omega, by go_num, by first | rfl | rw [hB], HS.out, rfl⟩
        · have hltz2 : ¬ (k2 : Int) < 8 := by omega
          have : k2 = 8 := by omega
          subst this
          have HSM : Hid (sm = anyS Ch) := show _ = _ by rw [AW2.out, List.take_of_length_le (by rw [HCL.out]; exact Nat.le_refl _)]
          cases sm with
          | false =>
            have HMK : Hid (mk (chunk l kk) = []) := show _ = _ by rw [HCH.out]; unfold mk; rw [← HSM.out, if_neg (by decide)]
            have HTK : Hid (t.set kk (mk (chunk l kk)) = t) := show _ = _ by
              rw [HMK.out]
              refine set_same ?_
              rw [MW.out.at' kk hlt, if_neg (Nat.lt_irrefl _)]
            have M2 : Hid (Made l (kk + 1) t) := show Made _ _ _ by rw [← HTK.out]; exact made_step MW.out hlt
            go_wp2
            go_loopg [7] 1 (fun g3 s7 wr3 => 1 ≤ g3 ∧ s7 = .int .i64 0 ∧ Hid (wr3 = WB))
            case atStart => exact ⟨Nat.le_refl _, rfl, rfl⟩
            case round =>
              obtain ⟨hg3, rfl, EW3⟩ := hrel
              rw [EW3.out]
              go_wp2
              go_roundg (8 - (kk + 1))
              case measure => omega
              case rel => exact ⟨kk + 1, us, t, by omega, by omega, by go_num, BW.out, XW.out, YW.out, TW.out, SW.out, M2.out, show ∀ j, _ from fun j h1 h2 => NW.out j (by omega) h2⟩
          | true =>
            have HMK : Hid (mk (chunk l kk) = Ch) := show _ = _ by rw [HCH.out]; unfold mk; rw [← HSM.out, if_pos rfl]
            have HU8 : Hid (us.length = 8) := SW.out.len
            go_wp2
            go_loopg [7] 8 (fun g3 s7 wr3 => ∃ (k3 c : Nat) (a : Option Addr), k3 ≤ 8 ∧ 8 - k3 ≤ g3 ∧ s7 = .int .i64 k3 ∧ Hid (Out (w.heap.size + 2) (w.heap.size + 3) WB wr3) ∧ Hid (Box wr3 (w.heap.size + 2) (us.set kk (.slice a k3 c))) ∧ Hid (OwnRow enE WB.heap.size wr3 (.slice a k3 c) (Ch.take k3)))
            case atStart => exact ⟨0, 0, none, Nat.zero_le _, by omega, rfl, Out.refl _ _ _, by rw [set_same (NW.out kk (Nat.le_refl _) hlt)]; exact TW.out, OwnRow.nil _ _ _⟩
            case round =>
              obtain ⟨k3, c, a, hk3, hg3, rfl, OW3, TW3, RW3⟩ := hrel
              have HLB : Hid (w.heap.size + 3 ≤ WB.heap.size) := TW.out.lt
              by_cases hlt3 : k3 < 8
              · have hltz3 : (k3 : Int) < 8 := by omega
                obtain ⟨e, he1, he2, _⟩ := HCA.out k3 hlt3
                have hidx : (8 : Int) * (kk : Int) + (k3 : Int) = ((8 * kk + k3 : Nat) : Int) := by omega
                have hi64 : 8 * kk + k3 < 64 := by omega
                obtain ⟨c0, c1, c2⟩ := HC.out _ e he2
                obtain ⟨ix, HIX⟩ : ∃ ix, Hid (8 * kk + k3 = ix) := ⟨_, rfl⟩
                rw [HIX.out] at hidx hi64 c0 c1 c2
                have hi64z : (ix : Int) < 64 := by omega
                have HTK : Hid (Ch.take (k3 + 1) = Ch.take k3 ++ [e]) := take_snoc he1
                have HTL : Hid ((Ch.take k3).length = k3) := show _ = _ by rw [List.length_take, HCL.out]; omega
                have HXB : Hid (Box wr w.heap.size C) := XW.out.out OW3.out (by omega)
                have HYB : Hid (Box wr (w.heap.size + 1) nil8) := YW.out.out OW3.out (by omega)
                have hgo : ∀ g, (Value.slice a k3 c).ownBlock = some g → WB.heap.size ≤ g ∧ g < wr.heap.size := RW3.out.lt
                have HGO : Hid (∀ g, (Value.slice a k3 c).ownBlock = some g → WB.heap.size ≤ g ∧ g < wr.heap.size) := hgo
                clear hgo he1 he2
                obtain ⟨w3, rfl⟩ : ∃ w3, w3 = wr := ⟨_, rfl⟩
                obtain ⟨I, HI⟩ : ∃ I : World → Prop, Hid (∀ u, I u ↔ (Box u w.heap.size C ∧ Box u (w.heap.size + 1) nil8 ∧ Box u (w.heap.size + 2) (us.set kk (.slice a k3 c)) ∧ Out (w.heap.size + 2) (w.heap.size + 3) WB u ∧ w3.heap.size ≤ u.heap.size)) := ⟨fun u => (Box u w.heap.size C ∧ Box u (w.heap.size + 1) nil8 ∧ Box u (w.heap.size + 2) (us.set kk (.slice a k3 c)) ∧ Out (w.heap.size + 2) (w.heap.size + 3) WB u ∧ w3.heap.size ≤ u.heap.size), fun _ => Iff.rfl⟩
                go_upto_region 13 with fail
                have hxt : ∀ y : HoldI I, y.world.cell? ⟨w.heap.size + 2, kk, none⟩ = some (.slice a k3 c) := fun y => ((HI.out _).1 y.holds).2.2.1.c kk (List.getElem?_set_self (by rw [HU8.out]; exact hlt))
                have hx0 : ∀ y : HoldI I, y.world.cell? ⟨w.heap.size, ix * 3, none⟩ = some (.int .i64 e.kind) := fun y => ((HI.out _).1 y.holds).1.c _ c0
                have hx1 : ∀ y : HoldI I, y.world.cell? ⟨w.heap.size, ix * 3 + 1, none⟩ = some (.int .i64 e.n) := fun y => ((HI.out _).1 y.holds).1.c _ c1
                have hx2 : ∀ y : HoldI I, y.world.cell? ⟨w.heap.size, ix * 3 + 2, none⟩ = some (.bool e.wr) := fun y => ((HI.out _).1 y.holds).1.c _ c2
                have hI0 : I w3.drew := (HI.out _).2 ⟨HXB.out.grew (show Below _ _ _ from (Below.refl _ _).drew), HYB.out.grew (show Below _ _ _ from (Below.refl _ _).drew), TW3.out.grew (show Below _ _ _ from (Below.refl _ _).drew), OW3.out.trans (Out.drew _), Nat.le_refl _⟩
                have hne : Nonempty (HoldI I) := ⟨⟨_, hI0⟩⟩
                clear c0 c1 c2
                refine wp_lax_tailI (I := I) 13 [(10, ⟨fun v => ∃ g, v = .slice (some ⟨g, 0, none⟩) 1 1, fun v w' => NewRow enE w3.heap.size w' v [e], fun p q => Grew p q, fun _ => True⟩), (11, ⟨fun v => ∃ a' c', v = .slice a' (k3 + 1) c', fun v w' => OwnRow enE WB.heap.size w' v (Ch.take k3 ++ [e]), fun p q => p.grownBy q (Value.slice a k3 c).ownBlock, fun u => OwnRow enE WB.heap.size u (.slice a k3 c) (Ch.take k3)⟩)] hI0 mixed (by kernel_rfl) rfl rfl (by decide) ?hS ?hp ?hpre ?hpr0 ?_
                case hS =>
                  intro y hy
                  simp at hy
                  rcases hy with rfl | rfl
                  · exact ⟨_, 0, rfl⟩
                  · exact ⟨_, none, 0, rfl⟩
                case hp =>
                  intro k s j t' hk hj hjk _ v p q hst hpo
                  rcases look2 hk with ⟨rfl, rfl⟩ | ⟨rfl, rfl⟩
                  · rcases look2 hj with ⟨rfl, rfl⟩ | ⟨rfl, rfl⟩
                    · exact absurd rfl hjk
                    · have h1 : NewRow enE w3.heap.size p v [e] := hpo
                      exact ⟨h1.1.beside hst (fun x n c' hx h => by
                        have h2 := h1.2 x n c' hx
                        have h3 := (HGO.out x.block h.symm).2
                        omega), h1.2⟩
                  · rcases look2 hj with ⟨rfl, rfl⟩ | ⟨rfl, rfl⟩
                    · exact OwnRow.grew hpo hst
                    · exact absurd rfl hjk
                case hpre =>
                  intro j t' k s hj hk hjk p q hst hpr
                  rcases look2 hj with ⟨rfl, rfl⟩ | ⟨rfl, rfl⟩
                  · trivial
                  · rcases look2 hk with ⟨rfl, rfl⟩ | ⟨rfl, rfl⟩
                    · exact OwnRow.grew hpr hst
                    · exact absurd rfl hjk
                case hpr0 =>
                  intro k t' hk
                  rcases look2 hk with ⟨rfl, rfl⟩ | ⟨rfl, rfl⟩
                  · trivial
                  · exact RW3.out.grew (show Below _ _ _ from (Below.refl _ _).drew)
                simp only [List.take, List.drop]
                iterate 10 (refine laxI_quiet rfl rfl rfl (fun K hK => ?_); go_big_quiet_op; refine hK _ ?_; clear hK K)
                refine laxI_spec rfl rfl (fun w' hI' hpr hF => ?_) (fun v1 hv => ?_)
                · obtain ⟨i1, i2, i3, i4, i5⟩ := (HI.out _).1 hI'
                  have hnew : NewRow enE w3.heap.size (w'.alloc (.cells #[.int .i64 e.kind, .int .i64 e.n, .bool e.wr] 57)) (.slice (some ⟨w'.heap.size, 0, none⟩) 1 1) [e] := ⟨one_row enE w' e _ _ rfl (by decide), fun x n c' hx => by cases hx; exact i5⟩
                  clear hxt hx0 hx1 hx2 hne
                  refine Does.step (v := .slice (some ⟨w'.heap.size, 0, none⟩) 1 1) (w' := w'.alloc (.cells #[.int .i64 e.kind, .int .i64 e.n, .bool e.wr] 57)) (by simp only [execOp]; go_simp) ⟨(HI.out _).2 ⟨i1.alloc _, i2.alloc _, i3.alloc _, i4.trans (Out.grew (grew_alloc _ _)), Nat.le_trans i5 (Below.size (grew_alloc _ _))⟩, grew_alloc _ _, ⟨_, rfl⟩, hnew⟩
                obtain ⟨g10, rfl⟩ := hv
                simp only [Act.put, List.setIfInBounds_toArray, List.set_cons_succ, List.set_cons_zero]
                refine laxI_spec rfl rfl (fun w' hI' hpr hF => ?_) (fun v1 hv => ?_)
                · obtain ⟨i1, i2, i3, i4, i5⟩ := (HI.out _).1 hI'
                  have h10 : NewRow enE w3.heap.size w' (.slice (some ⟨g10, 0, none⟩) 1 1) [e] := hF 10 (by kernel_rfl)
                  have hpr' : OwnRow enE WB.heap.size w' (.slice a k3 c) (Ch.take k3) := hpr
                  obtain ⟨v', w2, hrun, ho, hgr, _⟩ := run_append_keeps (E := enE) (w := w') 53 hpr' (.slice (some ⟨g10, 0, none⟩) 1 1) [e] h10.1 (by rw [HTL.out]; show (k3 + 1) * 24 ≤ _; omega) i4.size
                  obtain ⟨a', c', rfl⟩ := ho.form
                  have hln : (Ch.take k3 ++ [e]).length = k3 + 1 := by rw [List.length_append, HTL.out]; rfl
                  rw [hln] at ho hrun
                  have hne' : ∀ b, b < w.heap.size + 3 → ∀ g, (Value.slice a k3 c).ownBlock = some g → b ≠ g := fun b hb g hg => by
                    have := (HGO.out g hg).1
                    have := HLB.out
                    omega
                  refine Does.step (v := .slice a' (k3 + 1) c') (w' := w2) ?_ ⟨(HI.out _).2 ⟨i1.beside hgr (hne' _ (by omega)), i2.beside hgr (hne' _ (by omega)), i3.beside hgr (hne' _ (by omega)), ⟨hgr.os.trans i4.os, hgr.tape.trans i4.tape, hgr.output.trans i4.output, Nat.le_trans i4.size hgr.size, fun k hk hb => (hgr.block k (Nat.lt_of_lt_of_le hk i4.size) (fun h => by have := (HGO.out k h.symm).1; omega)).trans (i4.block k hk hb)⟩, Nat.le_trans i5 hgr.size⟩, hgr, ⟨a', c', rfl⟩, ho⟩
                  simp only [execOp, resolve, invoke, builtin, pure_bind, Sem.run_bind, Sem.run_pure, List.map_toArray, List.map_cons, List.map_nil]
                  exact Eq.trans (congrArg (fun r => Result.andThen r (fun a w' => Result.ok (Next.value a) w')) hrun) rfl
                obtain ⟨a11, c11, rfl⟩ := hv
                simp only [Act.put, List.setIfInBounds_toArray, List.set_cons_succ, List.set_cons_zero]
                iterate 1 (refine laxI_quiet rfl rfl rfl (fun K hK => ?_); go_big_quiet_op; refine hK _ ?_; clear hK K)
                refine laxI_nil fun W4 hI4 hF => ?_
                have o11 : OwnRow enE WB.heap.size W4 (.slice a11 (k3 + 1) c11) (Ch.take k3 ++ [e]) := hF 11
                obtain ⟨i1, i2, i3, i4, i5⟩ := (HI.out _).1 hI4
                have O4 : Hid (OwnRow enE WB.heap.size W4 (.slice a11 (k3 + 1) c11) (Ch.take (k3 + 1))) := show OwnRow _ _ _ _ _ by rw [HTK.out]; exact o11
                have T4 : Hid (Box W4 (w.heap.size + 2) (us.set kk (.slice a k3 c))) := i3
                have Out4 : Hid (Out (w.heap.size + 2) (w.heap.size + 3) WB W4) := i4
                clear hF hxt hx0 hx1 hx2 hI4 hne hI0 o11 i1 i2 i3 i4 i5 HI
                have t0 := T4.out.c kk (List.getElem?_set_self (by rw [HU8.out]; exact hlt))
                have tf := T4.out.f
                go_upto_region 12 with fail
                have T5 : Hid (Box (W4.setCell ⟨w.heap.size + 2, kk, none⟩ (.slice a11 (k3 + 1) c11)) (w.heap.size + 2) (us.set kk (.slice a11 (k3 + 1) c11))) := show Box _ _ _ by
                  have := T4.out.set kk (.slice a11 (k3 + 1) c11)
                  rw [List.set_set] at this
                  exact this
                have O5 : Hid (OwnRow enE WB.heap.size (W4.setCell ⟨w.heap.size + 2, kk, none⟩ (.slice a11 (k3 + 1) c11)) (.slice a11 (k3 + 1) c11) (Ch.take (k3 + 1))) := O4.out.setCell (by have := HLB.out; simp; omega) _
                have Out5 : Hid (Out (w.heap.size + 2) (w.heap.size + 3) WB (W4.setCell ⟨w.heap.size + 2, kk, none⟩ (.slice a11 (k3 + 1) c11))) := Out4.out.trans (Out.setCell _ _ _ (p := ⟨w.heap.size + 2, kk, none⟩) (Nat.le_refl _) (Nat.lt_succ_self _) _)
                clear t0 tf
                go_wp2
                go_roundg (8 - (k3 + 1))
                case measure => omega
                case rel => exact ⟨k3 + 1, c11, a11, by omega, by omega, by go_num, Out5.out, T5.out, O5.out⟩
              · have hltz3 : ¬ (k3 : Int) < 8 := by omega
                have : k3 = 8 := by omega
                subst this
                have R8 : Hid (OwnRow enE WB.heap.size wr (.slice a 8 c) Ch) := show OwnRow _ _ _ _ _ by
                  have := RW3.out
                  rw [List.take_of_length_le (by rw [HCL.out]; exact Nat.le_refl _)] at this
                  exact this
                have S9 : Hid (TabS 0 (w.heap.size + 3) wr (us.set kk (.slice a 8 c)) (t.set kk Ch)) := show TabS _ _ _ _ _ from ⟨by simp [HU8.out], by simp [MW.out.len], fun j v h hv hh => by
                  by_cases e : j = kk
                  · subst e
                    rw [List.getElem?_set_self (by rw [HU8.out]; exact hlt)] at hv
                    rw [List.getElem?_set_self (by rw [MW.out.len]; exact hlt)] at hh
                    cases hv
                    cases hh
                    exact R8.out.new.stays.less (Nat.zero_le _) HLB.out
                  · rw [List.getElem?_set_ne (fun h => e h.symm)] at hv hh
                    exact (SW.out.row j v h hv hh).out (OW3.out.wide (by omega) (by omega))⟩
                have M9 : Hid (Made l (kk + 1) (t.set kk Ch)) := show Made _ _ _ by rw [← HMK.out]; exact made_step MW.out hlt
                have X9 : Hid (Box wr w.heap.size C) := XW.out.out OW3.out (by omega)
                have Y9 : Hid (Box wr (w.heap.size + 1) nil8) := YW.out.out OW3.out (by omega)
                have G9 : Hid (Grew w wr) := show Grew _ _ from Out.grew_of BW.out (by omega) OW3.out
                have N9 : Hid (∀ j, kk + 1 ≤ j → j < 8 → (us.set kk (.slice a 8 c))[j]? = some (.slice none 0 0)) := show ∀ j, _ from fun j h1 h2 => by rw [List.getElem?_set_ne (by omega)]; exact NW.out j (by omega) h2
                go_wp2
                go_roundg (8 - (kk + 1))
                case measure => omega
                case rel => exact ⟨kk + 1, _, _, by omega, by omega, by go_num, G9.out, X9.out, Y9.out, TW3.out, S9.out, M9.out, N9.out⟩
    · have hltz : ¬ (kk : Int) < 8 := by omega
      have : kk = 8 := by omega
      subst this
      have SE : Hid (TabS 0 (w.heap.size + 3) wr us TT) := show TabS _ _ _ _ _ by rw [← HTT.out, ← made_all MW.out]; exact SW.out
      have HU8 : Hid (us.length = 8) := SW.out.len
      go_wp2_with (first | refine wp_loadTab rfl (.tmp 3) rfl (w.heap.size + 2) rfl TW.out HU8.out ?_ | refine wp_storeAll rfl 55 (.tmp 2) (.tmp 47) rfl (w.heap.size + 1) rfl us rfl YW.out HU8.out Try.sizeTable SE.out.one ?_)
      intro W3 b3 g3 s3
      have G3 : Hid (Grew w W3) := show Grew _ _ from grew_grown BW.out g3 (by simp)
      have B3 : Hid (Box W3 (w.heap.size + 1) us) := b3
      have T3 : Hid (TabS 0 w.heap.size W3 us TT) := (SE.out.out (Out.grown g3 (fun g h => by cases h; omega))).less (Nat.le_refl _) (by omega)
      clear b3 g3 s3
      go_wp2
      refine bodyPost_ret (ret_cell rfl _ rfl B3.out Try.underlying55 rfl (by rw [HU8.out]; exact Try.sizeTable)) rfl ⟨us, rfl, T3.out, G3.out⟩

end Go.Proofs.Ytodbgjhdfjpcpac
