/- Contracts of Get (package page, and the document's answer): for every page and numbers they answer the bytes that lie there, in new memory or none, and write nothing that was there. -/
import Derived.Test.YtbapaldfgmidpaaProg
import Derived.Test.YtbapaldfgmidpaaLax
import Derived.WalkKit
import Derived.Laws.CopyOwn
import Derived.Laws.BytesArg
namespace Go.Proofs.Ytbapaldfgmidpaa
open Go.RowKit

/-- The bytes ns lie where the slice v leads to. -/
def BytesAt (w : World) (v : Value) (ns : List Int) : Prop :=
  ∃ a c, v = .slice a ns.length c ∧ (a = none → ns = []) ∧ ∀ x, a = some x → ∀ j u, (ns.map (Value.int .u8))[j]? = some u → w.cell? (x.add j) = some u

theorem BytesAt.grew {w w' : World} {v : Value} {ns : List Int} (h : BytesAt w v ns) (hg : Grew w w') : BytesAt w' v ns := by
  obtain ⟨a, c, rfl, hn, hc⟩ := h
  refine ⟨a, c, rfl, hn, fun x hx j u hj => ?_⟩
  have h1 := hc x hx j u hj
  rw [Below.cell hg (World.block_lt_of_cell? _ _ h1)]
  exact h1

theorem BytesAt.string {P : Program} {w : World} {v : Value} {ns : List Int} (h : BytesAt w v ns) (src e dst : TypeId) (hs : P.underlying src = some (.slice e)) (he : P.underlying e = some (.int .u8)) (hd : P.underlying dst = some .string) :
    (convert src dst v).run P w = .ok (.string (strOfNums ns)) w := by
  obtain ⟨a, c, rfl, hn, hc⟩ := h
  cases a with
  | none =>
    rw [hn rfl, run_convert_bytes_nil w src e hs he _ _ dst hd]
    rfl
  | some x =>
    have hl := run_loadCells_list (P := P) w x (ns.map (Value.int .u8)) (hc x rfl)
    rw [List.length_map] at hl
    rw [run_convert_bytes_string w src dst e _ _ c hs he hd, run_bytesToString w x ns.length c ns hl, foldl_push_bytes]
    simp [strOfNums, ByteArray.empty, ByteArray.emptyWithCapacity]
    rfl

def getL (p : List Int) (m n : Int) : List Int := if 0 ≤ m ∧ 0 ≤ n ∧ n ≤ 8 - m then (p.drop m.toNat).take n.toNat else []

theorem Try.info5 : (Try.prog.info? 5).map (fun i => (i.zero, i.size, i.bytes)) = some (some (.int .u8 0), 1, 1) := by kernel_rfl

/-- 'make([]T, n)': the world behind it, written out. -/
theorem wpList_make_alloc {P : Program} {w : World} {ops : Array Oper} {rest : List Oper} {o : Oper} {a : Act} {Q : Exit → Act → World → Prop}
    (hg : o.guard = none) (l c : Operand) (t : TypeId) (hop : o.op = Op.makeSlice t l c)
    (e : TypeId) (i : TypeInfo) (z : Value) (h1 : P.underlying t = some (.slice e)) (h2 : P.info? e = some i) (h3 : i.zero = some z) (h4 : i.size = 1) (hz : z.cells = #[z])
    (kl kc : IntKind) (n : Nat) (hl : a.eval l = .int kl n) (hc : a.eval c = .int kc n) (b2 : i.bytes * n ≤ 281474976710656) (b3 : n ≤ maxLen)
    (hK : wpList P ops Q rest (a.put o.dst (.slice (some ⟨w.heap.size, 0, none⟩) n n)) (w.alloc (.cells (List.replicate n z).toArray e))) :
    wpList P ops Q (o :: rest) a w := by
  refine wpList_plain hg fun K hK' => ?_
  have h63 : (n : Int) ≤ 9223372036854775807 := by simp [maxLen] at b3; omega
  have hb' : (i.bytes : Int) * (n : Int) ≤ 281474976710656 := by
    have h : ((i.bytes * n : Nat) : Int) ≤ 281474976710656 := by omega
    rwa [Int.natCast_mul] at h
  have hrun := run_make (P := P) w t e i z h1 h2 h3 kl kc n n (by omega) (Int.le_refl _) hb' h63
  rw [h4, hz, Int.toNat_natCast, Nat.mul_one] at hrun
  have hm : madeCells #[z] n = (List.replicate n z).toArray := by rw [← toList_madeCells_one]
  rw [hm] at hrun
  unfold Oper.wp
  simp only [execOp, hop, hl, hc, Sem.run_bind, hrun, Result.andThen, Sem.run_pure, Oper.upon]
  exact hK' _ _ hK

theorem Try.len23 : Try.prog.arrayLen 23 = 8 := by kernel_rfl
theorem Try.elem23 : Try.prog.elem 23 = 5 := by kernel_rfl
theorem Try.arr23 : Try.prog.underlying 23 = some (.array (Try.prog.arrayLen 23) (Try.prog.elem 23)) := by kernel_rfl

/-- A page's bytes from byte i on, as a slice. -/
theorem slice8 (B i : Nat) (hi : i ≤ 8) : ∃ x, (∀ w, (Instr.sliceAt 23 (.pointer (some ⟨B, 0, none⟩)) (some (.int .i64 i)) none none).run Try.prog w = .ok (.slice (some x) (8 - i) (8 - i)) w) ∧ (i < 8 → x = ⟨B, i, none⟩) := by
  refine ⟨if 8 = i then ⟨B, 0, none⟩ else (⟨B, 0, none⟩ : Addr).add (i * 1), fun w => ?_, fun h => ?_⟩
  · obtain ⟨i5, hi5, hz0, hz1, hz2⟩ := info_parts Try.info5
    rw [run_sliceAt_array_l w 23 ⟨B, 0, none⟩ Try.arr23 .i64 (i : Int) (by omega) (by rw [Try.len23]; omega), Try.len23, Try.elem23]
    simp [sizeOf, typeInfo, hi5, hz1, slicedAt, Result.andThen]
  · rw [if_neg (by omega)]
    unfold Addr.add
    split <;> simp_all

theorem heap_top (w : World) (o : Obj) (n : Nat) (h : n = w.heap.size) : (w.alloc o).heap[n]? = some o := by
  subst h
  show (w.heap.push o)[w.heap.size]? = some o
  simp

theorem Addr_add_none (b o j : Nat) : (⟨b, o, none⟩ : Addr).add j = ⟨b, o + j, none⟩ := by unfold Addr.add; split <;> simp_all

theorem cells_of_block {w : World} {b : Nat} {cs : List Value} {t : TypeId} (h : w.heap[b]? = some (.cells cs.toArray t (0, 0))) (o j : Nat) : w.cell? ((⟨b, o, none⟩ : Addr).add j) = cs[o + j]? := by
  rw [Addr_add_none]
  simp [World.cell?, h]

set_option maxHeartbeats 400000 in
theorem get_any (b0 b1 b2 b3 b4 b5 b6 b7 : Int) (m n : Int) (w : World) (h1 : -9223372036854775808 ≤ m) (h2 : m ≤ 9223372036854775807) (h3 : -9223372036854775808 ≤ n) (h4 : n ≤ 9223372036854775807) :
    Calls Try.prog 7 #[.agg #[.int .u8 b0, .int .u8 b1, .int .u8 b2, .int .u8 b3, .int .u8 b4, .int .u8 b5, .int .u8 b6, .int .u8 b7], .int .i64 m, .int .i64 n] w fun e w' =>
      ∃ v, e = .returned v ∧ BytesAt w' v (getL [b0, b1, b2, b3, b4, b5, b6, b7] m n) ∧ Grew w w' := by
  by_cases hm : m < 0
  · have H : Hid (getL [b0, b1, b2, b3, b4, b5, b6, b7] m n = []) := show getL _ _ _ = _ by unfold getL; rw [if_neg (by omega)]
    go_enter Try.func7, Try.ntmps7
    go_wp2
    go_ret
    exact ⟨_, rfl, by rw [H.out]; exact ⟨none, 0, rfl, fun _ => rfl, fun x hx => by cases hx⟩, (Below.refl _ _).alloc (Nat.le_refl _) _⟩
  · by_cases hn : n < 0
    · have H : Hid (getL [b0, b1, b2, b3, b4, b5, b6, b7] m n = []) := show getL _ _ _ = _ by unfold getL; rw [if_neg (by omega)]
      go_enter Try.func7, Try.ntmps7
      go_wp2
      go_ret
      exact ⟨_, rfl, by rw [H.out]; exact ⟨none, 0, rfl, fun _ => rfl, fun x hx => by cases hx⟩, (Below.refl _ _).alloc (Nat.le_refl _) _⟩
    · by_cases hb : 8 - m < n
      · have H : Hid (getL [b0, b1, b2, b3, b4, b5, b6, b7] m n = []) := show getL _ _ _ = _ by unfold getL; rw [if_neg (by omega)]
        go_enter Try.func7, Try.ntmps7
        go_wp2
        go_ret
        exact ⟨_, rfl, by rw [H.out]; exact ⟨none, 0, rfl, fun _ => rfl, fun x hx => by cases hx⟩, (Below.refl _ _).alloc (Nat.le_refl _) _⟩
      · obtain ⟨i, rfl⟩ := Int.eq_ofNat_of_zero_le (show 0 ≤ m by omega)
        obtain ⟨k, rfl⟩ := Int.eq_ofNat_of_zero_le (show 0 ≤ n by omega)
        obtain ⟨L, hL⟩ : ∃ L, getL [b0, b1, b2, b3, b4, b5, b6, b7] i k = L := ⟨_, rfl⟩
        have hLe : L = (([b0, b1, b2, b3, b4, b5, b6, b7] : List Int).drop i).take k := by rw [← hL]; unfold getL; rw [if_pos (by omega)]; simp
        have hLl : L.length = k := by rw [hLe]; simp; omega
        have HL : Hid (getL [b0, b1, b2, b3, b4, b5, b6, b7] i k = L) := hL
        have HLe : Hid (L = (([b0, b1, b2, b3, b4, b5, b6, b7] : List Int).drop i).take k) := hLe
        have HLl : Hid (L.length = k) := hLl
        clear hL hLe hLl
        obtain ⟨i5, hi5, hz0, hz1, hz2⟩ := info_parts Try.info5
        go_enter Try.func7, Try.ntmps7
        obtain ⟨x, hx, hx'⟩ := slice8 w.heap.size i (by omega)
        have HX : Hid (i < 8 → x = ⟨w.heap.size, i, none⟩) := hx'
        clear hx'
        go_wp2_with (first
          | (at_make; refine wpList_make_alloc rfl (.tmp 20) (.tmp 20) 24 rfl 5 i5 (.int .u8 0) Try.underlying24 hi5 hz0 hz1 rfl .i64 .i64 k rfl rfl (by rw [hz2]; omega) (by unfold maxLen; omega) ?_)
          | (refine wpList_copy_splice rfl (.tmp 22) (.tmp 24) 24 24 rfl 5 Try.underlying24 (by kernel_rfl) _ _ _ _ _ _ rfl rfl (w.heap.size + 1) 0 (List.replicate k (.int .u8 0)) 5 (by rw [heap_top _ _ _ (by simp)]; rfl) (L.map (Value.int .u8)) ?h2 ?h3 ?h4 ?h5 w.heap.size w ?h6 (by omega) ?_))
        case h2 => rw [HLl.out]; show k = min (8 - i) k; omega
        case h3 =>
          intro hpos j u hj
          rw [HX.out (by rw [HLl.out] at hpos; omega), Addr_add_none]
          have hk : j < k := by
            rcases Nat.lt_or_ge j k with h | h
            · exact h
            · rw [List.getElem?_eq_none (by rw [HLl.out]; exact h)] at hj; cases hj
          rw [HLe.out, List.getElem?_take_of_lt hk, List.getElem?_drop] at hj
          rw [World.cell?_alloc_lt _ _ _ (by simp), World.cell?_alloc_new]
          have : (([b0, b1, b2, b3, b4, b5, b6, b7] : List Int).map (Value.int .u8))[i + j]? = some (.int .u8 u) := by rw [List.getElem?_map, hj]; rfl
          simpa using this
        case h4 => rw [HLl.out]; exact Nat.le_refl _
        case h5 => intro u _; rfl
        case h6 => exact ((Below.refl _ _).alloc (Nat.le_refl _) _).alloc (by simp) _
        intro w2 HG2 hB2
        go_wp2
        go_ret
        refine ⟨_, rfl, ?_, hB2⟩
        rw [HL.out]
        have hg := HG2.out
        refine ⟨some ⟨w.heap.size + 1, 0, none⟩, k, by rw [HLl.out]; rfl, fun h => (by cases h), fun y hy j u hj => ?_⟩
        cases hy
        have e : splice (List.replicate k (Value.int .u8 0)) 0 (L.map (Value.int .u8)) = L.map (Value.int .u8) := by
          simp [splice, HLl.out]
        rw [e] at hg
        rw [cells_of_block hg, Nat.zero_add]
        exact hj
end Go.Proofs.Ytbapaldfgmidpaa
