/- Contract of Own (package table): a copy that may be written. -/
import Derived.Test.YtodbgjhdfjpcpacTbOps2
namespace Go.Proofs.Ytodbgjhdfjpcpac
open Go.RowKit

/-- The first kk of us are the call's own, the others are as they were. -/
structure HalfT (base : Nat) (w : World) (kk : Nat) (vs us : List Value) (t : List (List En)) : Prop where
  len : us.length = 8
  own : ∀ (i : Nat) v h, i < kk → us[i]? = some v → t[i]? = some h → OwnRow enE base w v h
  two : ∀ (i j : Nat) u v, i < kk → j < kk → i ≠ j → us[i]? = some u → us[j]? = some v → ∀ g, u.ownBlock = some g → v.ownBlock ≠ some g
  one : ∀ v ∈ us, v.oneCell' = true

theorem HalfT.step {base : Nat} {w w1 : World} {kk : Nat} {vs us : List Value} {t : List (List En)} (h : HalfT base w kk vs us t) (ht : t.length = 8) (hg : Grew w w1) {x : List En} {v : Value} (hk : kk < 8) (hx : t[kk]? = some x) (hown : OwnRow enE w.heap.size w1 v x) (hb : base ≤ w.heap.size) {p : Addr} (hp : p.block < base) (u : Value) : HalfT base (w1.setCell p u) (kk + 1) vs (us.set kk v) t := by
  have hlt : ∀ (j : Nat) u, j < kk → us[j]? = some u → ∀ g, u.ownBlock = some g → g < w.heap.size := fun j u hj hu g hg => by
    obtain ⟨y, hy⟩ : ∃ y, t[j]? = some y := ⟨_, List.getElem?_eq_getElem (by rw [ht, ← h.len]; exact (List.getElem?_eq_some_iff.1 hu).1)⟩
    exact ((h.own j u y hj hu hy).lt g hg).2
  refine ⟨by simp [h.len], fun i y f hi hy hf => ?_, fun i j p' q hi hj hij hp' hq g h1 h2 => ?_, fun y hy => ?_⟩
  · by_cases e : i = kk
    · subst e
      rw [List.getElem?_set_self (by rw [h.len]; exact hk)] at hy
      cases hy
      rw [hx] at hf
      cases hf
      exact (hown.base hb).setCell hp u
    · rw [List.getElem?_set_ne (fun h => e h.symm)] at hy
      exact ((h.own i y f (by omega) hy hf).grew hg).setCell hp u
  · by_cases e1 : i = kk
    · subst e1
      rw [List.getElem?_set_self (by rw [h.len]; exact hk)] at hp'
      cases hp'
      rw [List.getElem?_set_ne hij] at hq
      have := hlt j q (by omega) hq g h2
      have := (hown.lt g h1).1
      omega
    · rw [List.getElem?_set_ne (fun h => e1 h.symm)] at hp'
      by_cases e2 : j = kk
      · subst e2
        rw [List.getElem?_set_self (by rw [h.len]; exact hk)] at hq
        cases hq
        have := hlt i p' (by omega) hp' g h1
        have := (hown.lt g h2).1
        omega
      · rw [List.getElem?_set_ne (fun h => e2 h.symm)] at hq
        exact h.two i j p' q (by omega) (by omega) hij hp' hq g h1 h2
  · rcases List.mem_or_eq_of_mem_set hy with h1 | h1
    · exact h.one y h1
    · subst h1
      obtain ⟨a, c, rfl⟩ := hown.form
      rfl

theorem nil8_zero : (#[.slice none 0 0, .slice none 0 0, .slice none 0 0, .slice none 0 0, .slice none 0 0, .slice none 0 0, .slice none 0 0, .slice none 0 0] : Array Value) = nil8.toArray := rfl

set_option maxRecDepth 100000 in
set_option maxHeartbeats 1000000 in
theorem ownTb_any (vs : List Value) (t : List (List En)) (w : World) (hv : TabAt w vs t) :
    Calls Try.prog 33 #[.agg vs.toArray] w fun e w' => ∃ us, e = .returned (.agg us.toArray) ∧ OwnTab (w.heap.size + 2) w' us t ∧ Grew w w' ∧ w.heap.size + 2 ≤ w'.heap.size := by
  have HV : Hid (TabAt w vs t) := hv
  have HL : Hid (vs.length = 8) := hv.len
  clear hv
  obtain ⟨W0, hW0⟩ : ∃ W0, (w.alloc (.cells vs.toArray 55)).alloc (.cells #[.slice none 0 0, .slice none 0 0, .slice none 0 0, .slice none 0 0, .slice none 0 0, .slice none 0 0, .slice none 0 0, .slice none 0 0] 55) = W0 := ⟨_, rfl⟩
  have HG0 : Hid (Grew w W0) := show Grew w W0 by rw [← hW0]; exact (grew_alloc _ _).trans (grew_alloc _ _)
  have X0 : Hid (Box W0 w.heap.size vs) := show Box _ _ _ by rw [← hW0]; exact (Box.top w _ _ rfl).alloc _
  have Y0 : Hid (Box W0 (w.heap.size + 1) nil8) := show Box _ _ _ by rw [← hW0]; exact Box.top _ nil8 _ (by simp)
  have HS0 : Hid (W0.heap.size = w.heap.size + 2) := show _ = _ by rw [← hW0]; simp
  have HW0 : Hid (_ = W0) := hW0
  clear hW0
  go_enter Try.func33, Try.ntmps33
  go_upto_region 1 with fail
  rw [HW0.out]
  go_wp2_with (refine wp_loadTab rfl (.tmp 1) rfl w.heap.size rfl X0.out HL.out ?_)
  go_loopg [6] 8 (fun gg s6 wr => ∃ (kk : Nat) (us : List Value), kk ≤ 8 ∧ 8 - kk ≤ gg ∧ s6 = .int .i64 kk ∧ Hid (Grew w wr) ∧ Hid (w.heap.size + 2 ≤ wr.heap.size) ∧ Hid (Box wr w.heap.size us) ∧ Hid (Box wr (w.heap.size + 1) nil8) ∧ Hid (HalfT (w.heap.size + 2) wr kk vs us t))
  case atStart => exact ⟨0, vs, Nat.zero_le _, by omega, rfl, HG0.out, by rw [HS0.out]; exact Nat.le_refl _, X0.out, Y0.out, ⟨HL.out, fun i v h hi => absurd hi (Nat.not_lt_zero _), fun i j u v hi => absurd hi (Nat.not_lt_zero _), HV.out.one⟩⟩
  case round =>
    obtain ⟨kk, us, hkk, hg, rfl, BW, SW, XW, YW, HH⟩ := hrel
    by_cases hlt : kk < 8
    · have hltz : (kk : Int) < 8 := by omega
      obtain ⟨xa, xc, q, hq, hvk, hr⟩ := HV.out.half hlt
      have HQ : Hid (t[kk]? = some q) := hq
      have HVK : Hid (vs[kk]? = some (.slice xa q.length xc)) := hvk
      have hcall := cloneEntry_any (.slice xa q.length xc) q wr (hr.grew BW.out)
      clear hq hvk hr
      generalize q.length = nq at hcall HVK
      go_wp2_with (refine wp_half rfl (.tmp 5) (.tmp 6) rfl vs rfl kk rfl hlt HVK.out ?_)
      refine hcall.mono ?_
      rintro e W2 ⟨v2, rfl, ow2, g2⟩
      obtain ⟨a2, c2, rfl⟩ := ow2.form
      have O2 : Hid (OwnRow enE wr.heap.size W2 (.slice a2 q.length c2) q) := ow2
      have G2 : Hid (Grew wr W2) := g2
      have X2 : Hid (Box W2 w.heap.size us) := XW.out.grew g2
      clear ow2 g2 hcall
      generalize q.length = nb at O2 ⊢
      obtain ⟨uk, huk⟩ : ∃ uk, us[kk]? = some uk := ⟨_, List.getElem?_eq_getElem (by rw [HH.out.len]; exact hlt)⟩
      have x0 := X2.out.c kk huk
      have xf := X2.out.f
      clear huk
      go_wp2
      have HH3 : Hid (HalfT (w.heap.size + 2) (W2.setCell ⟨w.heap.size, kk, none⟩ (.slice a2 nb c2)) (kk + 1) vs (us.set kk (.slice a2 nb c2)) t) := HH.out.step HV.out.tlen G2.out hlt HQ.out O2.out SW.out (by simp) _
      have X3 : Hid (Box (W2.setCell ⟨w.heap.size, kk, none⟩ (.slice a2 nb c2)) w.heap.size (us.set kk (.slice a2 nb c2))) := X2.out.set kk _
      have Y3 : Hid (Box (W2.setCell ⟨w.heap.size, kk, none⟩ (.slice a2 nb c2)) (w.heap.size + 1) nil8) := (YW.out.grew G2.out).other (by simp) _
      have G3 : Hid (Grew w (W2.setCell ⟨w.heap.size, kk, none⟩ (.slice a2 nb c2))) := show Grew _ _ from Below.setCell (BW.out.trans G2.out) (p := ⟨w.heap.size, kk, none⟩) (by simp) _
      have S3 : Hid (w.heap.size + 2 ≤ (W2.setCell ⟨w.heap.size, kk, none⟩ (.slice a2 nb c2)).heap.size) := show _ ≤ _ by
        have := Below.size G2.out
        have := SW.out
        simp [World.setCell]
        omega
      go_roundg (8 - (kk + 1))
      case measure => omega
      case rel => exact ⟨kk + 1, _, by omega, by omega, by go_num, G3.out, S3.out, X3.out, Y3.out, HH3.out⟩
    · have hltz : ¬ (kk : Int) < 8 := by omega
      have : kk = 8 := by omega
      subst this
      have OA : Hid (OwnTab (w.heap.size + 2) wr us t) := show OwnTab _ _ _ _ from ⟨HH.out.len, HV.out.tlen, fun i v h hv' hh => HH.out.own i v h (by rw [← HH.out.len]; exact (List.getElem?_eq_some_iff.1 hv').1) hv' hh, fun i j u v hij hu hv' => HH.out.two i j u v (by rw [← HH.out.len]; exact (List.getElem?_eq_some_iff.1 hu).1) (by rw [← HH.out.len]; exact (List.getElem?_eq_some_iff.1 hv').1) hij hu hv'⟩
      go_wp2_with (first | refine wp_loadTab rfl (.tmp 1) rfl w.heap.size rfl XW.out HH.out.len ?_ | refine wp_storeAll rfl 55 (.tmp 2) (.tmp 15) rfl (w.heap.size + 1) rfl us rfl YW.out HH.out.len Try.sizeTable HH.out.one ?_)
      intro W3 b3 g3 s3
      have OB : Hid (OwnTab (w.heap.size + 2) W3 us t) := show OwnTab _ _ _ _ from ⟨OA.out.len, OA.out.tlen, fun i v h hv' hh => (OA.out.row i v h hv' hh).grown g3 (fun g hg e => by
        cases e
        have := ((OA.out.row i v h hv' hh).lt _ hg).1
        omega), OA.out.two⟩
      have G3 : Hid (Grew w W3) := show Grew _ _ from grew_grown BW.out g3 (by simp)
      have S3 : Hid (w.heap.size + 2 ≤ W3.heap.size) := show _ ≤ _ by rw [s3]; exact SW.out
      have B3 : Hid (Box W3 (w.heap.size + 1) us) := b3
      clear b3 g3 s3
      go_wp2
      refine bodyPost_ret (ret_cell rfl _ rfl B3.out Try.underlying55 rfl (by rw [HH.out.len]; exact Try.sizeTable)) rfl ⟨us, rfl, OB.out, G3.out, S3.out⟩

end Go.Proofs.Ytodbgjhdfjpcpac
