/- Contract of the document's answer Set: for every page, number and bytes it answers the page with the bytes laid over it, and writes nothing that was there. -/
import Derived.Test.YtbapaldfgmidpaaSet
namespace Go.Proofs.Ytbapaldfgmidpaa
open Go.RowKit

theorem splice_step {p ns : List Int} {i k : Nat} (hp : p.length = 8) (hi : i + k < 8) (hk : k < ns.length) :
    (splice p i (ns.take k)).set (i + k) (ns.getD k 0) = splice p i (ns.take (k + 1)) := by
  have hl : (ns.take k).length = k := by rw [List.length_take]; omega
  have hl1 : (ns.take (k + 1)).length = k + 1 := by rw [List.length_take]; omega
  have hlp : (p.take i).length = i := by rw [List.length_take]; omega
  unfold splice
  rw [hl, hl1, List.set_append_right _ _ (by omega), hlp, Nat.add_sub_cancel_left, List.set_append_right _ _ (by omega), hl, Nat.sub_self]
  rw [List.drop_eq_getElem_cons (by omega), List.set_cons_zero, List.take_succ_eq_append_getElem hk, List.getD_eq_getElem?_getD, List.getElem?_eq_getElem hk, Nat.add_assoc, List.append_assoc]
  rfl

theorem setCell_alloc2 (w : World) (cur : Array Value) (t : TypeId) (o : Obj) (j : Nat) (v : Value) : ((w.alloc (.cells cur t)).alloc o).setCell ⟨w.heap.size, j, none⟩ v = (w.alloc (.cells (cur.setIfInBounds j v) t)).alloc o := by
  rw [setCell_eq_setRow _ w.heap.size j cur t (0, 0) v (by rw [Below.heap_alloc _ _ _ (by simp)]; exact heap_top _ _ _ rfl), setRow_alloc2]

def setW (w : World) (l : List Int) : World :=
  (w.alloc (.cells (l.map (Value.int .u8)).toArray 23)).alloc (.cells #[.int .u8 0, .int .u8 0, .int .u8 0, .int .u8 0, .int .u8 0, .int .u8 0, .int .u8 0, .int .u8 0] 23)

theorem setW_set (w : World) (l : List Int) (j : Nat) (n : Int) : (setW w l).setCell ⟨w.heap.size, j, none⟩ (.int .u8 n) = setW w (l.set j n) := by
  unfold setW
  rw [setCell_alloc2]
  simp

theorem setW_cell (w : World) (l : List Int) (x : Addr) (u : Value) (h : w.cell? x = some u) : (setW w l).cell? x = some u := by
  have hlt := World.block_lt_of_cell? _ _ h
  unfold setW
  rw [World.cell?_alloc_lt _ _ _ (by simp; omega), World.cell?_alloc_lt _ _ _ hlt]
  exact h
theorem setW_has (w : World) (l : List Int) (j : Nat) (h : j < l.length) : (setW w l).cell? ⟨w.heap.size, j, none⟩ = some (.int .u8 (l.getD j 0)) := by
  unfold setW
  rw [World.cell?_alloc_lt _ _ _ (by simp), World.cell?_alloc_new]
  simp [h]
theorem setW_frozen (w : World) (l : List Int) (j : Nat) : (setW w l).frozen? ⟨w.heap.size, j, none⟩ = false := by
  unfold setW
  rw [World.frozen?_alloc_old _ _ _ (by simp), World.frozen?_alloc_new]

set_option maxHeartbeats 400000 in
theorem refSet_any (b0 b1 b2 b3 b4 b5 b6 b7 c0 c1 c2 c3 c4 c5 c6 c7 : Int) (m : Int) (ns : List Int) (v : Value) (w : World) (h1 : -9223372036854775808 ≤ m) (h2 : m ≤ 9223372036854775807) (hv : BytesAt w v ns)
    (hc : setL [b0, b1, b2, b3, b4, b5, b6, b7] m ns = [c0, c1, c2, c3, c4, c5, c6, c7]) (hlen : ns.length ≤ maxLen) :
    Calls Try.prog 10 #[.agg #[.int .u8 b0, .int .u8 b1, .int .u8 b2, .int .u8 b3, .int .u8 b4, .int .u8 b5, .int .u8 b6, .int .u8 b7], .int .i64 m, v] w fun e w' =>
      e = .returned (.agg #[.int .u8 c0, .int .u8 c1, .int .u8 c2, .int .u8 c3, .int .u8 c4, .int .u8 c5, .int .u8 c6, .int .u8 c7]) ∧ Grew w w' := by
  obtain ⟨a, cap, rfl, hnone, hsome⟩ := hv
  obtain ⟨len, hl⟩ : ∃ len, ns.length = len := ⟨_, rfl⟩
  have HLn : Hid (ns.length = len) := hl
  rw [hl] at hlen ⊢
  unfold maxLen at hlen
  clear hl
  have HP : Hid ([b0, b1, b2, b3, b4, b5, b6, b7].length = 8) := rfl
  obtain ⟨p, hp⟩ : ∃ p, p = [b0, b1, b2, b3, b4, b5, b6, b7] := ⟨_, rfl⟩
  by_cases hm : 0 ≤ m ∧ m < 8
  · obtain ⟨i, rfl⟩ := Int.eq_ofNat_of_zero_le hm.1
    have hi : i < 8 := by omega
    unfold setL at hc
    rw [if_pos hm, Int.toNat_natCast, ← hp] at hc
    have HC : Hid (splice p i (ns.take (8 - i)) = [c0, c1, c2, c3, c4, c5, c6, c7]) := hc
    have HQ : Hid (p = [b0, b1, b2, b3, b4, b5, b6, b7]) := hp
    have hpl : p.length = 8 := by rw [hp]; rfl
    have HPl : Hid (p.length = 8) := hpl
    have HCell : Hid (∀ k, k < len → ∃ b off, a = some ⟨b, off, none⟩ ∧ w.cell? ⟨b, off + k, none⟩ = some (.int .u8 (ns.getD k 0))) := fun k hk => by
      cases a with
      | none => have := hnone rfl; rw [← HLn.out, this] at hk; simp at hk
      | some x =>
        have hk' : k < ns.length := by rw [HLn.out]; exact hk
        have h0 := hsome x rfl 0 (.int .u8 (ns.getD 0 0)) (by rw [List.getElem?_map, List.getD_eq_getElem?_getD, List.getElem?_eq_getElem (by omega)]; rfl)
        have hk1 := hsome x rfl k (.int .u8 (ns.getD k 0)) (by rw [List.getElem?_map, List.getD_eq_getElem?_getD, List.getElem?_eq_getElem hk']; rfl)
        obtain ⟨b, off, spot⟩ := x
        have hs : spot = none := by simpa [Addr.add] using World.cell?_spot h0
        subst hs
        rw [Addr_add_none] at hk1
        exact ⟨b, off, rfl, hk1⟩
    clear hsome hnone hc hp hm
    go_enter Try.func10, Try.ntmps10
    go_wp2
    go_loopw [7] (fun c wr => ∃ k : Nat, c = .int .i64 k ∧ k ≤ len ∧ i + k ≤ 8 ∧ wr = setW w (splice p i (ns.take k))) (fun c _ => len - (intOf c).toNat)
    case atStart => exact ⟨0, rfl, Nat.zero_le _, by omega, by rw [HQ.out]; simp [setW, splice]⟩
    case round =>
      obtain ⟨k, rfl, hk, hik, rfl⟩ := hrel
      by_cases hlt : k < len ∧ i + k < 8
      · obtain ⟨hlt, h8⟩ := hlt
        obtain ⟨b, off, rfl, hcl⟩ := HCell.out k hlt
        have hcell := setW_cell w (splice p i (ns.take k)) _ _ hcl
        have hpl : (splice p i (ns.take k)).length = 8 := by rw [length_splice, HPl.out]; rw [List.length_take, HPl.out]; omega
        have hdst := setW_has w (splice p i (ns.take k)) (i + k) (by omega)
        have hfz := setW_frozen w (splice p i (ns.take k)) (i + k)
        have hst := setW_set w (splice p i (ns.take k)) (i + k) (ns.getD k 0)
        rw [splice_step HPl.out h8 (by rw [HLn.out]; exact hlt)] at hst
        have HT : Hid ((setW w (splice p i (ns.take k))).setCell ⟨w.heap.size, i + k, none⟩ (.int .u8 (ns.getD k 0)) = setW w (splice p i (ns.take (k + 1)))) := hst
        obtain ⟨W, hW⟩ : ∃ W, W = setW w (splice p i (ns.take k)) := ⟨_, rfl⟩
        rw [← hW] at hcell hdst hfz HT ⊢
        clear hW hpl hcl hst
        go_wp2
        refine ⟨⟨k + 1, by go_num, by omega, by omega, ?_⟩, by simp [intOf]; omega⟩
        rw [← HT.out, List.getD_eq_getElem?_getD]
      · have hE : splice p i (ns.take k) = [c0, c1, c2, c3, c4, c5, c6, c7] := by
          rw [← HC.out]
          congr 1
          by_cases h8 : i + k = 8
          · rw [show 8 - i = k by omega]
          · have hkl : k = ns.length := by rw [HLn.out]; omega
            rw [List.take_of_length_le (by omega), List.take_of_length_le (by omega)]
        rw [hE]
        clear hE HCell
        unfold setW
        by_cases hkl : k < len
        all_goals
          go_wp2
          exact bodyPost_ret (v := .agg #[.int .u8 c0, .int .u8 c1, .int .u8 c2, .int .u8 c3, .int .u8 c4, .int .u8 c5, .int .u8 c6, .int .u8 c7]) (by simp [results, Try.results10, go_sem]) rfl ⟨rfl, (show Below _ _ _ from ((Below.refl _ _).alloc (Nat.le_refl _) _).alloc (by simp) _)⟩
  · unfold setL at hc
    rw [if_neg hm] at hc
    simp only [List.cons.injEq, and_true] at hc
    obtain ⟨rfl, rfl, rfl, rfl, rfl, rfl, rfl, rfl⟩ := hc
    clear hsome hnone hp
    go_enter Try.func10, Try.ntmps10
    go_wp2
    go_loop [7] (fun c => c = .int .i64 0) (fun _ => 0)
    case atStart => rfl
    case round =>
      subst hrel
      by_cases hlt : 0 < len
      · by_cases h0 : 0 ≤ m
        · have h8 : ¬ m < 8 := by omega
          go_wp2
          exact bodyPost_ret (v := .agg #[.int .u8 b0, .int .u8 b1, .int .u8 b2, .int .u8 b3, .int .u8 b4, .int .u8 b5, .int .u8 b6, .int .u8 b7]) (by simp [results, Try.results10, go_sem]) rfl ⟨rfl, (show Below _ _ _ from ((Below.refl _ _).alloc (Nat.le_refl _) _).alloc (by simp) _)⟩
        · go_wp2
          exact bodyPost_ret (v := .agg #[.int .u8 b0, .int .u8 b1, .int .u8 b2, .int .u8 b3, .int .u8 b4, .int .u8 b5, .int .u8 b6, .int .u8 b7]) (by simp [results, Try.results10, go_sem]) rfl ⟨rfl, (show Below _ _ _ from ((Below.refl _ _).alloc (Nat.le_refl _) _).alloc (by simp) _)⟩
      · go_wp2
        exact bodyPost_ret (v := .agg #[.int .u8 b0, .int .u8 b1, .int .u8 b2, .int .u8 b3, .int .u8 b4, .int .u8 b5, .int .u8 b6, .int .u8 b7]) (by simp [results, Try.results10, go_sem]) rfl ⟨rfl, (show Below _ _ _ from ((Below.refl _ _).alloc (Nat.le_refl _) _).alloc (by simp) _)⟩
end Go.Proofs.Ytbapaldfgmidpaa
