/- Contract of Flat (the document's answer): all entries of a right table. -/
import Derived.Test.YtodbgjhdfjpcpacTbGet
namespace Go.Proofs.Ytodbgjhdfjpcpac
open Go.RowKit

theorem Try.sizeFlat : (Try.prog.info? 63).map (·.size) = some 192 := by kernel_rfl
/-- Entries, in cells. -/
def cellsL (l : List En) : List Value := l.flatMap env
theorem cellsL_len (l : List En) : (cellsL l).length = l.length * 3 := flatMap_len l (fun _ _ => rfl)
theorem cellsL_one (l : List En) : ∀ v ∈ cellsL l, v.oneCell' = true := flatMap_one enE.one l
theorem cellsL_at {l : List En} {j : Nat} {e : En} (h : l[j]? = some e) : (cellsL l)[j * 3]? = some (.int .i64 e.kind) ∧ (cellsL l)[j * 3 + 1]? = some (.int .i64 e.n) ∧ (cellsL l)[j * 3 + 2]? = some (.bool e.wr) :=
  ⟨flatMap_elem (enc := env) (k := 3) l j e (fun _ _ => rfl) h 0 _ rfl, flatMap_elem (enc := env) (k := 3) l j e (fun _ _ => rfl) h 1 _ rfl, flatMap_elem (enc := env) (k := 3) l j e (fun _ _ => rfl) h 2 _ rfl⟩
theorem set_three {cs : List Value} {j : Nat} (a b c : Value) (h : j + 3 ≤ cs.length) : ((cs.set j a).set (j + 1) b).set (j + 2) c = splice cs j [a, b, c] := by
  apply List.ext_getElem?
  intro i
  unfold splice
  by_cases h1 : i < j
  · rw [List.getElem?_set_ne (by omega), List.getElem?_set_ne (by omega), List.getElem?_set_ne (by omega), List.getElem?_append_left (by simp; omega), List.getElem?_take_of_lt h1]
  · have hl : (cs.take j).length = j := by simp; omega
    rw [List.getElem?_append_right (by omega), hl]
    by_cases h2 : i = j
    · subst h2
      rw [List.getElem?_set_ne (by omega), List.getElem?_set_ne (by omega), List.getElem?_set_self (by omega), Nat.sub_self]
      rfl
    · by_cases h3 : i = j + 1
      · subst h3
        rw [List.getElem?_set_ne (by omega), List.getElem?_set_self (by simp; omega), show j + 1 - j = 1 by omega]
        rfl
      · by_cases h4 : i = j + 2
        · subst h4
          rw [List.getElem?_set_self (by simp; omega), show j + 2 - j = 2 by omega]
          rfl
        · rw [List.getElem?_set_ne (by omega), List.getElem?_set_ne (by omega), List.getElem?_set_ne (by omega), List.getElem?_append_right (by simp; omega), List.getElem?_drop]
          congr 1
          simp
          omega
theorem cellsL_set {l : List En} {j : Nat} (e : En) (h : j < l.length) : (((cellsL l).set (j * 3) (.int .i64 e.kind)).set (j * 3 + 1) (.int .i64 e.n)).set (j * 3 + 2) (.bool e.wr) = cellsL (l.set j e) := by
  rw [set_three _ _ _ (by rw [cellsL_len]; omega)]
  exact splice_set (enc := env) (k := 3) e rfl l j (fun _ _ => rfl) h

def flat0 : List En := List.replicate 64 en0
theorem flat0_zero : (Try.prog.info? 63).map (·.zero) = some (some (.agg (cellsL flat0).toArray)) := by kernel_rfl
theorem run_zeroFlat (w : World) : (zeroValue 63).run Try.prog w = .ok (.agg (cellsL flat0).toArray) w := by
  have h := flat0_zero
  cases hq : Try.prog.info? 63 with
  | none => simp [hq] at h
  | some i =>
    simp [hq] at h
    simp [zeroValue, typeInfo, hq, h]

/-- What lies in the flat ones when the halves below i, and of half i the entries below k, are there. -/
def Laid (t : List (List En)) (i k : Nat) (l : List En) : Prop := l.length = 64 ∧ ∀ a b, a < 8 → b < 8 → l[8 * a + b]? = some (if a < i ∨ (a = i ∧ b < k) then getN t a b else en0)
theorem Laid.zero (t : List (List En)) : Laid t 0 0 flat0 := ⟨by simp [flat0], fun a b ha hb => by
  rw [if_neg (by omega), flat0, List.getElem?_replicate, if_pos (by omega)]⟩
theorem Laid.step {t : List (List En)} {i k : Nat} {l : List En} (h : Laid t i k l) (hi : i < 8) (hk : k < 8) : Laid t i (k + 1) (l.set (8 * i + k) (getN t i k)) := by
  refine ⟨by simp [h.1], fun a b ha hb => ?_⟩
  by_cases e : a = i ∧ b = k
  · obtain ⟨rfl, rfl⟩ := e
    rw [List.getElem?_set_self (by rw [h.1]; omega), if_pos (by omega)]
  · rw [List.getElem?_set_ne (by omega), h.2 a b ha hb]
    by_cases h1 : a < i ∨ (a = i ∧ b < k)
    · rw [if_pos h1, if_pos (by omega)]
    · rw [if_neg h1, if_neg (by omega)]
theorem Laid.next {t : List (List En)} {i : Nat} {l : List En} {n : Nat} (h : Laid t i n l) (hn : ∀ b, n ≤ b → getN t i b = en0) : Laid t (i + 1) 0 l := by
  refine ⟨h.1, fun a b ha hb => ?_⟩
  rw [h.2 a b ha hb]
  by_cases h1 : a < i ∨ (a = i ∧ b < n)
  · rw [if_pos h1, if_pos (by omega)]
  · rw [if_neg h1]
    by_cases h2 : a = i
    · subst h2
      rw [if_pos (by omega), hn b (by omega)]
    · rw [if_neg (by omega)]
theorem Laid.all {t : List (List En)} {l : List En} (h : Laid t 8 0 l) : l = flatT t := by
  apply List.ext_getElem?
  intro j
  by_cases hj : j < 64
  · have := h.2 (j / 8) (j % 8) (by omega) (by omega)
    rw [if_pos (by omega), show 8 * (j / 8) + j % 8 = j by omega] at this
    rw [this, flatT_at t hj]
  · rw [List.getElem?_eq_none (by rw [h.1]; omega), List.getElem?_eq_none (by rw [flatT_len]; omega)]

set_option maxRecDepth 100000 in
set_option maxHeartbeats 2000000 in
theorem flatTb_any (vs : List Value) (t : List (List En)) (w : World) (hv : TabAt w vs t) (hok : ∀ h ∈ t, h.length ≤ 8) :
    Calls Try.prog 36 #[.agg vs.toArray] w fun e w' => e = .returned (.agg (cellsL (flatT t)).toArray) ∧ Grew w w' := by
  have HV : Hid (TabAt w vs t) := hv
  have HL : Hid (vs.length = 8) := hv.len
  have HOK : Hid (∀ h ∈ t, h.length ≤ 8) := hok
  clear hv hok
  have hz := run_zeroFlat
  obtain ⟨Z0, HZ0⟩ : ∃ Z0, Hid (cellsL flat0 = Z0) := ⟨_, rfl⟩
  rw [HZ0.out] at hz
  have HZL : Hid (Z0.length = 192) := show _ = _ by rw [← HZ0.out, cellsL_len]; rfl
  obtain ⟨C, HC⟩ : ∃ C, Hid (cellsL (flatT t) = C) := ⟨_, rfl⟩
  rw [HC.out]
  obtain ⟨W0, hW0⟩ : ∃ W0, ((w.alloc (.cells vs.toArray 55)).alloc (.cells Z0.toArray 63)).alloc (.cells Z0.toArray 63) = W0 := ⟨_, rfl⟩
  have HG0 : Hid (Grew w W0) := show Grew w W0 by rw [← hW0]; exact ((grew_alloc _ _).trans (grew_alloc _ _)).trans (grew_alloc _ _)
  have X0 : Hid (Box W0 w.heap.size vs) := show Box _ _ _ by rw [← hW0]; exact ((Box.top w _ _ rfl).alloc _).alloc _
  have Y0 : Hid (Box W0 (w.heap.size + 1) Z0) := show Box _ _ _ by rw [← hW0]; exact (Box.top _ _ _ (by simp)).alloc _
  have L0 : Hid (Box W0 (w.heap.size + 2) (cellsL flat0)) := show Box _ _ _ by rw [← hW0, HZ0.out]; exact Box.top _ _ _ (by simp)
  have HW0 : Hid (_ = W0) := hW0
  clear hW0
  go_enter Try.func36, Try.ntmps36
  go_upto_region 2 with fail
  rw [HW0.out]
  clear hz
  go_wp2_with (refine wp_loadTab rfl (.tmp 1) rfl w.heap.size rfl X0.out HL.out ?_)
  go_loopg [9] 8 (fun gg s9 wr => ∃ (kk : Nat) (l : List En), kk ≤ 8 ∧ 8 - kk ≤ gg ∧ s9 = .int .i64 kk ∧ Hid (Grew w wr) ∧ Hid (Box wr (w.heap.size + 1) Z0) ∧ Hid (Box wr (w.heap.size + 2) (cellsL l)) ∧ Hid (Laid t kk 0 l))
  case atStart => exact ⟨0, flat0, Nat.zero_le _, by omega, rfl, HG0.out, Y0.out, L0.out, Laid.zero t⟩
  case round =>
    obtain ⟨kk, l, hkk, hg, rfl, BW, YW, LW, DW⟩ := hrel
    by_cases hlt : kk < 8
    · have hltz : (kk : Int) < 8 := by omega
      obtain ⟨xa, xc, q, hq, hvk, hr⟩ := HV.out.half hlt
      have hq8 := HOK.out q (List.mem_of_getElem? hq)
      have HGN : Hid (∀ b, getN t kk b = q[b]?.getD en0) := show ∀ b, _ from fun b => by unfold getN; rw [hq]; rfl
      obtain ⟨_, _, heq, hens⟩ := hr.ens
      cases heq
      have HE : Hid (EnRows w xa q) := hens
      obtain ⟨nq, HNQ⟩ : ∃ nq, Hid (q.length = nq) := ⟨_, rfl⟩
      rw [HNQ.out] at hvk hq8
      have HVK : Hid (vs[kk]? = some (.slice xa nq xc)) := hvk
      clear hens hr hq hvk
      go_wp2_with (refine wp_half rfl (.tmp 8) (.tmp 9) rfl vs rfl kk rfl hlt HVK.out ?_)
      go_loopg [15] nq (fun g2 s15 wr2 => ∃ (k2 : Nat) (l2 : List En), k2 ≤ nq ∧ nq - k2 ≤ g2 ∧ s15 = .int .i64 k2 ∧ Hid (Grew w wr2) ∧ Hid (Box wr2 (w.heap.size + 1) Z0) ∧ Hid (Box wr2 (w.heap.size + 2) (cellsL l2)) ∧ Hid (Laid t kk k2 l2))
      case atStart => exact ⟨0, l, Nat.zero_le _, by omega, rfl, BW.out, YW.out, LW.out, DW.out⟩
      case round =>
        obtain ⟨k2, l2, hk2, hg2, rfl, BW2, YW2, LW2, DW2⟩ := hrel
        by_cases hlt2 : k2 < nq
        · have hltz2 : (k2 : Int) < (nq : Int) := by omega
          obtain ⟨z, HZ⟩ : ∃ z, Hid (q[k2]? = some z) := ⟨_, List.getElem?_eq_getElem (by rw [HNQ.out]; exact hlt2)⟩
          obtain ⟨ad, rfl, hl2⟩ := HE.out k2 z HZ.out
          obtain ⟨d0, d1, d2⟩ := hl2 wr BW2.out
          clear hl2
          go_upto_region 8 with fail
          obtain ⟨px, hpx⟩ : ∃ px, wr.heap.size = px := ⟨_, rfl⟩
          obtain ⟨W3, hW3⟩ : ∃ W3, wr.alloc (.cells #[.int .i64 z.kind, .int .i64 z.n, .bool z.wr] 57) = W3 := ⟨_, rfl⟩
          have G3 : Hid (Grew w W3) := show Grew _ _ by rw [← hW3]; exact BW2.out.trans (grew_alloc _ _)
          have P3 : Hid (Box W3 px [.int .i64 z.kind, .int .i64 z.n, .bool z.wr]) := show Box _ _ _ by rw [← hW3]; exact Box.top _ _ _ hpx.symm
          have Y3 : Hid (Box W3 (w.heap.size + 1) Z0) := show Box _ _ _ by rw [← hW3]; exact YW2.out.alloc _
          have L3 : Hid (Box W3 (w.heap.size + 2) (cellsL l2)) := show Box _ _ _ by rw [← hW3]; exact LW2.out.alloc _
          rw [hW3]
          rw [hpx]
          clear hW3 hpx d0 d1 d2
          have p0 := P3.out.c 0 rfl
          have p1 := P3.out.c 1 rfl
          have p2 := P3.out.c 2 rfl
          have hidx : (8 : Int) * (kk : Int) + (k2 : Int) = ((8 * kk + k2 : Nat) : Int) := by omega
          have hi64 : 8 * kk + k2 < 64 := by omega
          obtain ⟨ix, HIX⟩ : ∃ ix, Hid (8 * kk + k2 = ix) := ⟨_, rfl⟩
          rw [HIX.out] at hidx hi64
          have hi64z : (ix : Int) < 64 := by omega
          obtain ⟨z0, hz0⟩ : ∃ z0, l2[ix]? = some z0 := ⟨_, List.getElem?_eq_getElem (by rw [DW2.out.1]; exact hi64)⟩
          obtain ⟨c0, c1, c2⟩ := cellsL_at hz0
          have l0 := L3.out.c _ c0
          have l1 := L3.out.c _ c1
          have l2' := L3.out.c _ c2
          have lf := L3.out.f
          clear c0 c1 c2 hz0
          go_upto_region 9 with fail
          obtain ⟨W4, hW4⟩ : ∃ W4, ((W3.setCell ⟨w.heap.size + 2, ix * 3, none⟩ (.int .i64 z.kind)).setCell ⟨w.heap.size + 2, ix * 3 + 1, none⟩ (.int .i64 z.n)).setCell ⟨w.heap.size + 2, ix * 3 + 2, none⟩ (.bool z.wr) = W4 := ⟨_, rfl⟩
          have L4 : Hid (Box W4 (w.heap.size + 2) (cellsL (l2.set ix z))) := show Box _ _ _ by
            rw [← hW4, ← cellsL_set z (by rw [DW2.out.1]; exact hi64)]
            exact ((L3.out.set _ _).set _ _).set _ _
          have Y4 : Hid (Box W4 (w.heap.size + 1) Z0) := show Box _ _ _ by
            rw [← hW4]
            exact ((Y3.out.other (by simp) _).other (by simp) _).other (by simp) _
          have G4 : Hid (Grew w W4) := show Grew _ _ by
            rw [← hW4]
            exact Below.setCell (Below.setCell (Below.setCell G3.out (p := ⟨w.heap.size + 2, ix * 3, none⟩) (by simp) _) (p := ⟨w.heap.size + 2, ix * 3 + 1, none⟩) (by simp) _) (p := ⟨w.heap.size + 2, ix * 3 + 2, none⟩) (by simp) _
          have D4 : Hid (Laid t kk (k2 + 1) (l2.set ix z)) := show Laid _ _ _ _ by
            have h1 := DW2.out.step hlt (show k2 < 8 by omega)
            rw [HGN.out, HZ.out, HIX.out] at h1
            exact h1
          rw [hW4]
          clear hW4 l0 l1 l2' lf p0 p1 p2 hidx
          go_wp2
          go_roundg (nq - (k2 + 1))
          case measure => omega
          case rel => exact ⟨k2 + 1, _, by omega, by omega, by go_num, G4.out, Y4.out, L4.out, D4.out⟩
        · have hltz2 : ¬ (k2 : Int) < (nq : Int) := by omega
          have : k2 = nq := by omega
          subst this
          have D4 : Hid (Laid t (kk + 1) 0 l2) := DW2.out.next (fun b hb => by rw [HGN.out, List.getElem?_eq_none (by rw [HNQ.out]; exact hb)]; rfl)
          go_wp2
          go_roundg (8 - (kk + 1))
          case measure => omega
          case rel => exact ⟨kk + 1, l2, by omega, by omega, by go_num, BW2.out, YW2.out, LW2.out, D4.out⟩
    · have hltz : ¬ (kk : Int) < 8 := by omega
      have : kk = 8 := by omega
      subst this
      have LE : Hid (Box wr (w.heap.size + 2) C) := show Box _ _ _ by rw [← HC.out, ← DW.out.all]; exact LW.out
      have HFL : Hid (C.length = 192) := show _ = _ by rw [← HC.out, cellsL_len, flatT_len]
      have HFO : Hid (∀ v ∈ C, v.oneCell' = true) := show ∀ v ∈ C, _ by rw [← HC.out]; exact cellsL_one _
      go_wp2_with (first | refine wp_loadAll rfl 63 (.tmp 3) rfl (w.heap.size + 2) rfl LE.out Try.underlying63 rfl (by rw [HFL.out]; exact Try.sizeFlat) ?_ | refine wp_storeAll rfl 63 (.tmp 2) (.tmp 28) rfl (w.heap.size + 1) rfl C rfl YW.out (by rw [HFL.out, HZL.out]) (by rw [HZL.out]; exact Try.sizeFlat) HFO.out ?_)
      intro W3 b3 g3 s3
      have G3 : Hid (Grew w W3) := show Grew _ _ from grew_grown BW.out g3 (by simp)
      have B3 : Hid (Box W3 (w.heap.size + 1) C) := b3
      clear b3 g3 s3
      go_wp2
      refine bodyPost_ret (ret_cell rfl _ rfl B3.out Try.underlying63 rfl (by rw [HFL.out]; exact Try.sizeFlat)) rfl ⟨rfl, G3.out⟩

end Go.Proofs.Ytodbgjhdfjpcpac
