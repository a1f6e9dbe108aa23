/- Contract of the document's answer Get: for every page and numbers it answers the bytes that lie there, in new memory or none, and writes nothing that was there. -/
import Derived.Test.YtbapaldfgmidpaaGet
namespace Go.Proofs.Ytbapaldfgmidpaa
open Go.RowKit

theorem getL_len (b0 b1 b2 b3 b4 b5 b6 b7 : Int) (i k : Nat) (h : i + k ≤ 8) : (getL [b0, b1, b2, b3, b4, b5, b6, b7] i k).length = k := by
  unfold getL
  rw [if_pos (by omega)]
  simp
  omega
theorem getL_at (b0 b1 b2 b3 b4 b5 b6 b7 : Int) (i k j : Nat) (h : i + k ≤ 8) (hj : j < k) :
    (#[.int .u8 b0, .int .u8 b1, .int .u8 b2, .int .u8 b3, .int .u8 b4, .int .u8 b5, .int .u8 b6, .int .u8 b7] : Array Value)[i + j]? = some (.int .u8 ((getL [b0, b1, b2, b3, b4, b5, b6, b7] i k).getD j 0)) := by
  unfold getL
  rw [if_pos (by omega)]
  have e : (#[.int .u8 b0, .int .u8 b1, .int .u8 b2, .int .u8 b3, .int .u8 b4, .int .u8 b5, .int .u8 b6, .int .u8 b7] : Array Value)[i + j]? = (([b0, b1, b2, b3, b4, b5, b6, b7] : List Int).map (Value.int .u8))[i + j]? := by simp
  rw [e, List.getElem?_map, List.getD_eq_getElem?_getD, Int.toNat_natCast, Int.toNat_natCast, List.getElem?_take_of_lt hj, List.getElem?_drop]
  have : i + j < ([b0, b1, b2, b3, b4, b5, b6, b7] : List Int).length := by simp; omega
  rw [List.getElem?_eq_getElem this]
  rfl

set_option maxHeartbeats 400000 in
theorem refGet_any (b0 b1 b2 b3 b4 b5 b6 b7 : Int) (m n : Int) (w : World) (h1 : -9223372036854775808 ≤ m) (h2 : m ≤ 9223372036854775807) (h3 : -9223372036854775808 ≤ n) (h4 : n ≤ 9223372036854775807) :
    Calls Try.prog 8 #[.agg #[.int .u8 b0, .int .u8 b1, .int .u8 b2, .int .u8 b3, .int .u8 b4, .int .u8 b5, .int .u8 b6, .int .u8 b7], .int .i64 m, .int .i64 n] w fun e w' =>
      ∃ v, e = .returned v ∧ BytesAt w' v (getL [b0, b1, b2, b3, b4, b5, b6, b7] m n) ∧ Grew w w' := by
  by_cases hm : m < 0
  · have H : Hid (getL [b0, b1, b2, b3, b4, b5, b6, b7] m n = []) := show getL _ _ _ = _ by unfold getL; rw [if_neg (by omega)]
    go_enter Try.func8, Try.ntmps8
    go_wp2
    go_ret
    exact ⟨_, rfl, by rw [H.out]; exact ⟨none, 0, rfl, fun _ => rfl, fun x hx => by cases hx⟩, (Below.refl _ _).alloc (Nat.le_refl _) _⟩
  · by_cases hn : n < 0
    · have H : Hid (getL [b0, b1, b2, b3, b4, b5, b6, b7] m n = []) := show getL _ _ _ = _ by unfold getL; rw [if_neg (by omega)]
      go_enter Try.func8, Try.ntmps8
      go_wp2
      go_ret
      exact ⟨_, rfl, by rw [H.out]; exact ⟨none, 0, rfl, fun _ => rfl, fun x hx => by cases hx⟩, (Below.refl _ _).alloc (Nat.le_refl _) _⟩
    · by_cases hm8 : 8 < m
      · have H : Hid (getL [b0, b1, b2, b3, b4, b5, b6, b7] m n = []) := show getL _ _ _ = _ by unfold getL; rw [if_neg (by omega)]
        go_enter Try.func8, Try.ntmps8
        go_wp2
        go_ret
        exact ⟨_, rfl, by rw [H.out]; exact ⟨none, 0, rfl, fun _ => rfl, fun x hx => by cases hx⟩, (Below.refl _ _).alloc (Nat.le_refl _) _⟩
      · by_cases hb : 8 - m < n
        · have H : Hid (getL [b0, b1, b2, b3, b4, b5, b6, b7] m n = []) := show getL _ _ _ = _ by unfold getL; rw [if_neg (by omega)]
          go_enter Try.func8, Try.ntmps8
          go_wp2
          go_ret
          exact ⟨_, rfl, by rw [H.out]; exact ⟨none, 0, rfl, fun _ => rfl, fun x hx => by cases hx⟩, (Below.refl _ _).alloc (Nat.le_refl _) _⟩
        · obtain ⟨i, rfl⟩ := Int.eq_ofNat_of_zero_le (show 0 ≤ m by omega)
          obtain ⟨k, rfl⟩ := Int.eq_ofNat_of_zero_le (show 0 ≤ n by omega)
          obtain ⟨L, hL⟩ : ∃ L, getL [b0, b1, b2, b3, b4, b5, b6, b7] i k = L := ⟨_, rfl⟩
          have HLl : Hid (L.length = k) := hL ▸ getL_len b0 b1 b2 b3 b4 b5 b6 b7 i k (by omega)
          have HLa : Hid (∀ j, j < k → (#[.int .u8 b0, .int .u8 b1, .int .u8 b2, .int .u8 b3, .int .u8 b4, .int .u8 b5, .int .u8 b6, .int .u8 b7] : Array Value)[i + j]? = some (.int .u8 (L.getD j 0))) :=
            fun j hj => hL ▸ getL_at b0 b1 b2 b3 b4 b5 b6 b7 i k j (by omega) hj
          have HL : Hid (getL [b0, b1, b2, b3, b4, b5, b6, b7] i k = L) := hL
          clear hL
          obtain ⟨i5, hi5, hz0, hz1, hz2⟩ := info_parts Try.info5
          go_enter Try.func8, Try.ntmps8
          go_wp2
          go_loopw [7, 8] (fun v c wr => ∃ j : Nat, c = .int .i64 j ∧ j ≤ k ∧ wr.ownsRow (w.heap.size + 1) 5 1 v j ((L.take j).map (Value.int .u8)) ∧
              Below (w.heap.size + 1) (w.alloc (Obj.cells #[.int .u8 b0, .int .u8 b1, .int .u8 b2, .int .u8 b3, .int .u8 b4, .int .u8 b5, .int .u8 b6, .int .u8 b7] 23)) wr) (fun _ c _ => k - (intOf c).toNat)
          case atStart => exact ⟨0, rfl, Nat.zero_le _, World.ownsRow_nil _ _ _ _, Below.refl _ _⟩
          case round =>
            obtain ⟨j, rfl, hj, hown, hbel⟩ := hrel
            by_cases hlt : j < k
            · have hcell : wr.cell? ⟨w.heap.size, i + j, none⟩ = some (.int .u8 (L.getD j 0)) := by
                rw [hbel.cell (by simp), World.cell?_alloc_new]
                exact HLa.out j hlt
              have hgrow0 := hbel.size
              rw [World.size_alloc] at hgrow0
              have HG : Hid (w.heap.size + 1 ≤ wr.heap.size) := hgrow0
              clear hgrow0
              go_wp2_with (at_builtin; refine wpList_append_own _ rfl (.tmp 30) (.tmp 36) 24 rfl (w.heap.size + 1) 5 i5 (.int .u8 0) 1 1 Try.underlying24 hi5 hz0 hz1 hz2 rfl (by decide) _ _ _ rfl (hown.alloc _) ⟨wr.heap.size, 0, none⟩ 1 1 [.int .u8 (L.getD j 0)] rfl rfl (fun t u ht => ?c1) (fun u hu => ?c2) (by unfold maxLen; omega) (by omega) (by simp; have := HG.out; omega) ?_)
              case c1 =>
                match t, ht with
                | 0, ht => simp at ht; subst ht; simp [Addr.add]
              case c2 => simp at hu; subst hu; rfl
              intro v' w1 hown' hgrow' _
              have hb1 : Below (w.heap.size + 1) (w.alloc (Obj.cells #[.int .u8 b0, .int .u8 b1, .int .u8 b2, .int .u8 b3, .int .u8 b4, .int .u8 b5, .int .u8 b6, .int .u8 b7] 23)) w1 :=
                (hbel.alloc HG.out _).grown hgrow' (by have := HG.out; simp; omega) (fun q hq => (hown.lt q hq).1)
              have hl : (L.take j).map (Value.int .u8) ++ [Value.int .u8 (L.getD j 0)] = (L.take (j + 1)).map (Value.int .u8) := by
                rw [List.take_succ_eq_append_getElem (by rw [HLl.out]; exact hlt), List.map_append, List.getD_eq_getElem?_getD, List.getElem?_eq_getElem (by rw [HLl.out]; exact hlt)]
                rfl
              have ho2 : w1.ownsRow (w.heap.size + 1) 5 1 v' (j + 1) ((L.take (j + 1)).map (Value.int .u8)) := by rw [← hl]; simpa [List.map_take, List.getD_eq_getElem?_getD] using hown'
              clear hown' hgrow' hown hl hbel hcell
              go_wp2
              go_roundw
              case rel => exact ⟨j + 1, by go_num, by omega, ho2, hb1⟩
              case measure => simp [intOf]; omega
            · go_wp2
              go_ret
              refine ⟨_, rfl, ?_, (show Below _ _ _ from ((Below.refl _ _).alloc (Nat.le_refl _) _).trans (hbel.mono (by omega)))⟩
              have hjk : j = k := by omega
              subst hjk
              rw [HL.out]
              have ht : L.take j = L := List.take_of_length_le (by rw [HLl.out]; exact Nat.le_refl _)
              rw [ht] at hown
              obtain ⟨_, ⟨hv, h0⟩ | ⟨g, cap, cur, hv, _, hg, _, _, _, hxs⟩⟩ := hown
              · subst h0
                exact ⟨none, 0, by rw [HLl.out]; exact hv, fun _ => List.eq_nil_of_length_eq_zero HLl.out, fun x hx => by cases hx⟩
              · refine ⟨some ⟨g, 0, none⟩, cap, by rw [HLl.out]; exact hv, fun h => (by cases h), fun y hy t u ht => ?_⟩
                cases hy
                have hg' : wr.heap[g]? = some (.cells cur.toList.toArray 5 (0, 0)) := by simpa using hg
                rw [cells_of_block hg', Nat.zero_add]
                rw [← hxs, List.getElem?_take] at ht
                split at ht
                · exact ht
                · cases ht
end Go.Proofs.Ytbapaldfgmidpaa
