/- Contract of slices.Backward over what waits: from the last one to the first, or a part of them. -/
import Derived.RangeFuncNested
import Derived.RangeFuncBound
import Derived.RangeFuncCalls
import Derived.RangeFuncLeaves
import Derived.Shelf.Abstract
import Derived.Shelf.RegionOpen
import Derived.WalkKit
import Derived.OwnWalkIn
import Derived.TacticsInMore
import Derived.LoopNIn
import Derived.LoopIn
import Derived.Test.YtbcaagmnmaonbabNew
namespace Go.Proofs.Ytbcaagmnmaonbab
open Go.RowKit Go.Shelf

attribute [local go_sem] Oper.semAt_some

/-- What a round is handed: a number, and one that waits. -/
structure P9 where
  (i m b0 b1 b2 b3 b4 b5 b6 b7 : Int)
def P9.q (x : P9) : Int × List Int := (x.m, [x.b0, x.b1, x.b2, x.b3, x.b4, x.b5, x.b6, x.b7])
def P9.encs (x : P9) : Array Value := #[.int .i64 x.i, .agg #[.int .i64 x.m, .int .u8 x.b0, .int .u8 x.b1, .int .u8 x.b2, .int .u8 x.b3, .int .u8 x.b4, .int .u8 x.b5, .int .u8 x.b6, .int .u8 x.b7]]

theorem drop_rev {α : Type} (l : List α) (k : Nat) (q : α) (h : l[k]? = some q) : (l.drop k).reverse = (l.drop (k + 1)).reverse ++ [q] := by
  obtain ⟨hlt, rfl⟩ := List.getElem?_eq_some_iff.1 h
  rw [List.drop_eq_getElem_cons hlt, List.reverse_cons]

theorem drop_pre {α : Type} (l : List α) (k : Nat) : (l.drop k).reverse <+: l.reverse := by
  refine ⟨(l.take k).reverse, ?_⟩
  rw [← List.reverse_append, List.take_append_drop]

set_option maxRecDepth 100000 in
set_option maxHeartbeats 2000000 in
theorem back1_in (F : Fence) (n : Nat) (hF : F.fn 47) (hro : F.round = none) (hn : 1 ≤ n) (l Bs n₀ : Nat) (w : World) (a : Option Addr) (c : Nat) (qs : List (Int × List Int)) (hr : PutRows w a qs) (hbig : qs.length ≤ 9223372036854775807) (hw : w.heap.size ≤ n₀) (hBn : Bs < n₀) (J Jx : List P9 → World → Prop)
    (hY : ∀ pre x W, J pre W → pre.length < qs.length → YieldAt F (n - 1) Try.prog l (P9.encs x) W fun e W' =>
      (e = .returned (.bool true) ∧ J (pre ++ [x]) W' ∧ Below n₀ W W') ∨ (e = .returned (.bool false) ∧ Jx (pre ++ [x]) W'))
    (W : World) (hgW : Grew w W) (hBs : W.cell? ⟨Bs, 0, none⟩ = some (.slice a qs.length c)) (h0 : J [] W) :
    CallsIn F n Try.prog 47 #[.func (.yield l) #[] #[], .pointer (some ⟨Bs, 0, none⟩)] W fun e W' => (∃ v, e = .returned v) ∧
      ((∃ ys, ys.map P9.q = qs.reverse ∧ J ys W') ∨ (∃ pre, pre.map P9.q <+: qs.reverse ∧ Jx pre W')) := by
  have HR : Hid (PutRows w a qs) := hr
  have HY : Hid _ := hY
  obtain ⟨nq, HN⟩ : ∃ nq, Hid (qs.length = nq) := ⟨_, rfl⟩
  rw [HN.out] at hbig hBs
  have HBS : Hid (W.cell? ⟨Bs, 0, none⟩ = some (.slice a nq c)) := hBs
  have HGW : Hid (Grew w W) := hgW
  clear hr hY hgW
  refine callsIn_of_wp Try.func47 rfl hF ?_ hro
  simp only [Try.ntmps47, List.size_toArray, List.length_cons, List.length_nil, Nat.reduceAdd, Nat.reduceSub, Array.replicate_succ, Array.replicate_zero, List.push_toArray, List.append_toArray, List.nil_append, List.cons_append]
  gi_wp2
  clear hBs
  gi_loopw [3] (fun p wr => ∃ (r : Nat) (pre : List P9), r ≤ nq ∧ p = .int .i64 ((r : Int) - 1) ∧ Hid (pre.map P9.q = (qs.drop r).reverse) ∧ Hid (J pre wr) ∧ Hid (Below n₀ W wr))
    (fun p _ => ((intOf p) + 1).toNat)
  case atStart => exact ⟨nq, [], Nat.le_refl _, by go_num, (show Hid _ from by rw [List.drop_of_length_le (by rw [HN.out]; exact Nat.le_refl _)]; rfl), h0, Below.refl _ _⟩
  case round =>
    obtain ⟨r, pre, hrn, rfl, HP, HJ, HB⟩ := hrel
    cases r with
    | zero =>
      gi_wp2
      go_end0
      exact ⟨⟨_, rfl⟩, .inl ⟨pre, by rw [HP.out]; rfl, HJ.out⟩⟩
    | succ k =>
      obtain ⟨q, HQ⟩ : ∃ q, Hid (qs[k]? = some q) := ⟨_, List.getElem?_eq_getElem (by rw [HN.out]; omega)⟩
      obtain ⟨x, m, b0, b1, b2, b3, b4, b5, b6, b7, rfl, rfl, hl⟩ := HR.out k q HQ.out
      obtain ⟨d0, d1, d2, d3, d4, d5, d6, d7, d8⟩ := hl wr (Below.trans HGW.out (HB.out.mono hw))
      have hbs : wr.cell? ⟨Bs, 0, none⟩ = some (.slice (some x) nq c) := (HB.out.cell (p := ⟨Bs, 0, none⟩) hBn).trans HBS.out
      have hlen : pre.length < qs.length := by
        have := congrArg List.length HP.out
        rw [List.length_map, List.length_reverse, List.length_drop] at this
        have := HN.out
        omega
      obtain ⟨fn, tmps, assign, body, hy, hR⟩ := HY.out pre ⟨k, m, b0, b1, b2, b3, b4, b5, b6, b7⟩ wr HJ.out hlen
      simp only [P9.encs] at hy
      have hk1 : ((k + 1 : Nat) : Int) - 1 = (k : Int) := by omega
      have hkn : (k : Int) < (nq : Int) := by omega
      rw [hk1]
      clear hl
      gi_wp2
      refine hR.mono ?_
      rintro e W3 (⟨rfl, hJ3, hk3⟩ | ⟨rfl, hJx3⟩)
      · gi_wp2
        go_roundw
        case rel => exact ⟨k, _, by omega, by go_num, (show Hid _ from by rw [List.map_append, HP.out, drop_rev qs k _ HQ.out]; rfl), hJ3, (show Hid _ from HB.out.trans hk3)⟩
        case measure => simp [intOf]
      · gi_wp2
        refine bodyPost_ret (results_none rfl _ _ _) rfl ?_
        refine ⟨⟨_, rfl⟩, .inr ⟨_, ?_, hJx3⟩⟩
        rw [List.map_append, HP.out]
        have := drop_pre qs k
        rw [drop_rev qs k _ HQ.out] at this
        exact this

set_option maxHeartbeats 1000000 in
theorem back_in (F : Fence) (n : Nat) (hF : F.fn 30) (hro : F.round = none) (a : Option Addr) (len cap : Nat) (w : World) :
    CallsIn F n Try.prog 30 #[.slice a len cap] w fun e w' => e = .returned (.func (.func 47) #[] #[.pointer (some ⟨w.heap.size, 0, none⟩)]) ∧ w' = w.alloc (.cells #[.slice a len cap] 23) := by
  refine callsIn_of_wp Try.func30 rfl hF ?_ hro
  simp only [Try.ntmps30, List.size_toArray, List.length_cons, List.length_nil, Nat.reduceAdd, Nat.reduceSub, Array.replicate_succ, Array.replicate_zero, List.push_toArray, List.append_toArray, List.nil_append, List.cons_append]
  gi_wp2
  go_ret
  exact ⟨rfl, rfl⟩

theorem back_stops (F : Fence) (n : Nat) (hF : F.fn 47) (hro : F.round = none) (hn : 1 ≤ n) (Bs n₀ : Nat) (w0 : World) (a : Option Addr) (c : Nat) (qs : List (Int × List Int)) (hr : PutRows w0 a qs) (hbig : qs.length ≤ 9223372036854775807) (w : World) (hg : Grew w0 w) (hBs : Bs < n₀) (hn₀ : n₀ = w.heap.size)
    (hc : w.cell? ⟨Bs, 0, none⟩ = some (.slice a qs.length c)) :
    SeqStopsK F n Try.prog 47 #[.pointer (some ⟨Bs, 0, none⟩)] P9.encs (Below n₀) (fun ys => ys.map P9.q = qs.reverse) (fun pre => pre.map P9.q <+: qs.reverse) qs.length w := fun l J Jx W hW _ _ hY h0 => by
  subst hn₀
  exact back1_in F n hF hro hn l Bs w.heap.size w0 a c qs hr hbig (Below.size hg) hBs J Jx hY W (hg.trans hW) ((hW.cell (p := ⟨Bs, 0, none⟩) hBs).trans hc) h0

end Go.Proofs.Ytbcaagmnmaonbab
