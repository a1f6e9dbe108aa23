/- Contract of withEntry (package table). -/
import Derived.Test.YtodbgjhdfjpcpacTbGet
namespace Go.Proofs.Ytodbgjhdfjpcpac
open Go.RowKit

set_option maxRecDepth 100000 in
set_option maxHeartbeats 1000000 in
theorem withEntry_any (xa : Option Addr) (xc : Nat) (h : List En) (k : Nat) (hk : k < 8) (x : En) (base : Nat) (w : World) (hown : OwnRow enE base w (.slice xa h.length xc) h) (hb : base ≤ w.heap.size) (h8 : h.length = 0 ∨ h.length = 8) :
    Calls Try.prog 63 #[.slice xa h.length xc, .int .i64 (k : Int), .agg #[.int .i64 x.kind, .int .i64 x.n, .bool x.wr]] w fun e w' => ∃ a' c', e = .returned (.slice a' (mk ((full h).set k x)).length c') ∧ OwnRow enE base w' (.slice a' (mk ((full h).set k x)).length c') (mk ((full h).set k x)) ∧ w.grownBy w' (Value.slice xa h.length xc).ownBlock ∧ (∀ g, (Value.slice a' (mk ((full h).set k x)).length c').ownBlock = some g → (Value.slice xa h.length xc).ownBlock = some g ∨ w.heap.size ≤ g) := by
  have HOWN : Hid (OwnRow enE base w (.slice xa h.length xc) h) := hown
  have HB : Hid (base ≤ w.heap.size) := hb
  have HMK : Hid (mk ((full h).set k x) = if anyS ((full h).set k x) = true then (full h).set k x else []) := rfl
  clear hown hb
  obtain ⟨W0, hW0⟩ : ∃ W0, w.alloc (.cells #[.int .i64 x.kind, .int .i64 x.n, .bool x.wr] 57) = W0 := ⟨_, rfl⟩
  have HG0 : Hid (Grew w W0) := show Grew w W0 by rw [← hW0]; exact grew_alloc _ _
  have X0 : Hid (Box W0 w.heap.size [.int .i64 x.kind, .int .i64 x.n, .bool x.wr]) := show Box _ _ _ by rw [← hW0]; exact Box.top w _ _ rfl
  have HS0 : Hid (W0.heap.size = w.heap.size + 1) := show _ = _ by rw [← hW0]; simp
  have HW0 : Hid (_ = W0) := hW0
  clear hW0
  have hkz : (k : Int) < 8 := by omega
  rcases h8 with h0 | h8
  · have hnil : h = [] := List.length_eq_zero_iff.1 h0
    subst hnil
    obtain ⟨L, HL⟩ : ∃ L, Hid ((full []).set k x = L) := ⟨_, rfl⟩
    have HLL : Hid (L.length = 8) := show _ = _ by rw [← HL.out]; simp [full]
    rw [HL.out] at HMK ⊢
    generalize mk L = M at HMK ⊢
    simp only [List.length_nil] at HOWN ⊢
    clear h0
    go_enter Try.func63, Try.ntmps63
    go_upto_region 1 with fail
    rw [HW0.out]
    go_wp2_with (refine wpList_make_row enE rfl (.const (.int .i64 8)) rfl 8 rfl (by decide) ?_)
    intro C ow
    show wpList _ _ _ _ _ (W0.alloc (.cells C 57))
    have ow' : OwnRow enE W0.heap.size (W0.alloc (.cells C 57)) (.slice (some ⟨W0.heap.size, 0, none⟩) 8 8) (full []) := ow
    obtain ⟨W1, hW1⟩ : ∃ W1, W0.alloc (.cells C 57) = W1 := ⟨_, rfl⟩
    have G1 : Hid (Grew W0 W1) := show Grew _ _ by rw [← hW1]; exact grew_alloc _ _
    rw [hW1] at ow' ⊢
    obtain ⟨g, HGG⟩ : ∃ g, Hid (W0.heap.size = g) := ⟨_, rfl⟩
    rw [HGG.out] at ow' ⊢
    have O1 : Hid (OwnRow enE g W1 (.slice (some ⟨g, 0, none⟩) 8 8) (full [])) := ow'
    have X1 : Hid (Box W1 w.heap.size [.int .i64 x.kind, .int .i64 x.n, .bool x.wr]) := X0.out.grew G1.out
    have HBG : Hid (base ≤ g ∧ w.heap.size ≤ g) := show _ ∧ _ by
      have := HS0.out
      have := HB.out
      have := HGG.out
      constructor <;> omega
    clear hW1 ow ow'
    have x0 := X1.out.c 0 rfl
    have x1 := X1.out.c 1 rfl
    have x2 := X1.out.c 2 rfl
    go_wp2_with (refine wpList_store_elt (E := enE) rfl (.tmp 14) (.tmp 13) rfl g _ (full []) O1.out g k rfl x ?t1 ⟨g, k * 3, none⟩ rfl rfl (.agg #[.int .i64 x.kind, .int .i64 x.n, .bool x.wr]) rfl rfl ?_)
    case t1 => exact hk
    intro W2 ow2 gr2 sz2
    rw [HL.out] at ow2
    have O2 : Hid (OwnRow enE base W2 (.slice (some ⟨g, 0, none⟩) 8 8) L) := ow2.base HBG.out.1
    have G2 : Hid (Grew w W2) := show Grew _ _ from grew_grown (HG0.out.trans G1.out) gr2 HBG.out.2
    have hcall := containsSome_any _ L W2 ow2.at
    clear ow2 gr2 sz2 x0 x1 x2
    generalize anyS L = A at hcall HMK
    cases A with
    | true =>
      have HM : Hid (M = L) := show _ = _ by rw [HMK.out, if_pos rfl]
      go_wp2_with fail
      refine hcall.mono ?_
      rintro e W3 ⟨rfl, k1⟩
      have G3 : Hid (w.grownBy W3 _) := show World.grownBy _ _ (Value.ownBlock (.slice xa 0 xc)) from grew_by (G2.out.trans k1) _
      have O3 : Hid (OwnRow enE base W3 (.slice (some ⟨g, 0, none⟩) 8 8) L) := O2.out.grew k1
      clear k1 hcall
      go_wp2
      go_ret
      rw [HM.out, HLL.out]
      exact ⟨some ⟨g, 0, none⟩, 8, rfl, O3.out, G3.out, fun g' hg => .inr (by cases hg; exact HBG.out.2)⟩
    | false =>
      have HM : Hid (M = []) := show _ = _ by rw [HMK.out, if_neg (by decide)]
      go_wp2_with fail
      refine hcall.mono ?_
      rintro e W3 ⟨rfl, k1⟩
      have G3 : Hid (w.grownBy W3 _) := show World.grownBy _ _ (Value.ownBlock (.slice xa 0 xc)) from grew_by (G2.out.trans k1) _
      clear k1 hcall
      go_wp2
      go_ret
      rw [HM.out]
      exact ⟨none, 0, rfl, OwnRow.nil _ _ _, G3.out, fun g' hg => by cases hg⟩
  · obtain ⟨L, HL⟩ : ∃ L, Hid ((full h).set k x = L) := ⟨_, rfl⟩
    have HFU : Hid (full h = h) := show _ = _ by unfold full; rw [if_neg (by omega)]
    have HLL : Hid (L.length = 8) := show _ = _ by rw [← HL.out, HFU.out]; simp [h8]
    rw [HL.out] at HMK ⊢
    generalize mk L = M at HMK ⊢
    have HH8 : Hid (h.length = 8) := h8
    obtain ⟨g, c', heq⟩ := HOWN.out.formS (by omega)
    cases heq
    rw [h8] at HOWN ⊢
    clear h8
    go_enter Try.func63, Try.ntmps63
    go_upto_region 1 with fail
    rw [HW0.out]
    have O1 : Hid (OwnRow enE base W0 (.slice (some ⟨g, 0, none⟩) 8 xc) h) := HOWN.out.grew HG0.out
    have x0 := X0.out.c 0 rfl
    have x1 := X0.out.c 1 rfl
    have x2 := X0.out.c 2 rfl
    go_wp2_with (refine wpList_store_elt (E := enE) rfl (.tmp 14) (.tmp 13) rfl base _ h O1.out g k rfl x ?t1 ⟨g, k * 3, none⟩ rfl rfl (.agg #[.int .i64 x.kind, .int .i64 x.n, .bool x.wr]) rfl rfl ?_)
    case t1 => rw [HH8.out]; exact hk
    intro W2 ow2 gr2 sz2
    rw [HFU.out] at HL
    rw [HL.out] at ow2
    have O2 : Hid (OwnRow enE base W2 (.slice (some ⟨g, 0, none⟩) 8 xc) L) := ow2
    have G2 : Hid (w.grownBy W2 (some g)) := show World.grownBy _ _ _ from grown_trans (grew_by HG0.out _) gr2
    have hcall := containsSome_any _ L W2 ow2.at
    clear ow2 gr2 sz2 x0 x1 x2
    generalize anyS L = A at hcall HMK
    cases A with
    | true =>
      have HM : Hid (M = L) := show _ = _ by rw [HMK.out, if_pos rfl]
      go_wp2_with fail
      refine hcall.mono ?_
      rintro e W3 ⟨rfl, k1⟩
      have G3 : Hid (w.grownBy W3 _) := show World.grownBy _ _ (Value.ownBlock (.slice (some ⟨g, 0, none⟩) 8 xc)) from grown_trans G2.out (grew_by k1 _)
      have O3 : Hid (OwnRow enE base W3 (.slice (some ⟨g, 0, none⟩) 8 xc) L) := O2.out.grew k1
      clear k1 hcall
      go_wp2
      go_ret
      rw [HM.out, HLL.out]
      exact ⟨some ⟨g, 0, none⟩, xc, rfl, O3.out, G3.out, fun g' hg => .inl hg⟩
    | false =>
      have HM : Hid (M = []) := show _ = _ by rw [HMK.out, if_neg (by decide)]
      go_wp2_with fail
      refine hcall.mono ?_
      rintro e W3 ⟨rfl, k1⟩
      have G3 : Hid (w.grownBy W3 _) := show World.grownBy _ _ (Value.ownBlock (.slice (some ⟨g, 0, none⟩) 8 xc)) from grown_trans G2.out (grew_by k1 _)
      clear k1 hcall
      go_wp2
      go_ret
      rw [HM.out]
      exact ⟨none, 0, rfl, OwnRow.nil _ _ _, G3.out, fun g' hg => by cases hg⟩
end Go.Proofs.Ytodbgjhdfjpcpac
