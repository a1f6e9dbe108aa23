/- Contracts of Set (package page, and the document's answer): for every page, number and bytes they answer the page with the bytes laid over it, and write nothing that was there. -/
import Derived.Test.YtbapaldfgmidpaaGet
import Derived.Test.YtbapaldfgmidpaaLeaves
namespace Go.Proofs.Ytbapaldfgmidpaa
open Go.RowKit

def setL (p : List Int) (m : Int) (ns : List Int) : List Int := if 0 ≤ m ∧ m < 8 then splice p m.toNat (ns.take (8 - m.toNat)) else p

theorem setL_len (p : List Int) (m : Int) (ns : List Int) (hp : p.length = 8) : (setL p m ns).length = 8 := by
  unfold setL
  split
  · rw [length_splice]
    · exact hp
    · rw [List.length_take, hp]; omega
  · exact hp

theorem len8 (l : List Int) (h : l.length = 8) : ∃ c0 c1 c2 c3 c4 c5 c6 c7, l = [c0, c1, c2, c3, c4, c5, c6, c7] := by
  match l, h with
  | [c0, c1, c2, c3, c4, c5, c6, c7], _ => exact ⟨c0, c1, c2, c3, c4, c5, c6, c7, rfl⟩

theorem map_splice {α β : Type} (f : α → β) (L : List α) (off : Nat) (cs : List α) : (splice L off cs).map f = splice (L.map f) off (cs.map f) := by
  simp [splice, List.map_take, List.map_drop]

theorem setRow_alloc2 (w : World) (cur cs : Array Value) (t : TypeId) (o : Obj) : ((w.alloc (.cells cur t)).alloc o).setRow w.heap.size cs = (w.alloc (.cells cs t)).alloc o := by
  unfold World.setRow World.alloc
  congr 1
  apply Array.ext
  · simp
  · intro i h1 h2
    simp only [Array.getElem_modify, Array.getElem_push, Array.size_push]
    simp only [Array.size_modify, Array.size_push] at h1
    by_cases h3 : i = w.heap.size
    · subst h3; simp
    · by_cases h4 : i < w.heap.size
      · simp [h4, Ne.symm h3]
      · have : i = w.heap.size + 1 := by omega
        subst this
        simp

/-- 'copy' into the box of a page. -/
theorem wpList_copy_box {P : Program} {w : World} {ops : Array Oper} {rest : List Oper} {o : Oper} {a : Act} {Q : Exit → Act → World → Prop} (hgd : o.guard = none) (d s : Operand) (dT sT : TypeId)
    (ho : o.op = .call { callee := .builtin .copy, args := #[d, s], argTypes := #[dT, sT] }) (elem : TypeId) (hu : P.underlying dT = some (.slice elem)) (hsz : (P.info? elem).map (·.size) = some 1)
    (dp sp : Option Addr) (dLen dCap sLen sCap : Nat) (hd : a.eval d = .slice dp dLen dCap) (hs : a.eval s = .slice sp sLen sCap)
    (off : Nat) (cur : List Value) (t : TypeId) (o2 : Obj) (cs : List Value) (hn : cs.length = Nat.min sLen dLen)
    (hpos : 0 < cs.length → dp = some ⟨w.heap.size, off, none⟩ ∧ ∃ ad, sp = some ad ∧ ∀ j v, cs[j]? = some v → w.cell? (ad.add j) = some v)
    (hfit : off + cs.length ≤ cur.length) (h1 : ∀ v ∈ cs, v.oneCell' = true) (res : List Value) (hres : splice cur off cs = res)
    (h : wpList P ops Q rest (a.put o.dst (goInt cs.length)) ((w.alloc (.cells res.toArray t)).alloc o2)) :
    wpList P ops Q (o :: rest) a ((w.alloc (.cells cur.toArray t)).alloc o2) := by
  subst hres
  by_cases h0 : cs.length = 0
  · obtain rfl : cs = [] := List.eq_nil_of_length_eq_zero h0
    refine wpList_copy_nothing hgd d s dT sT ho elem hu hsz dp sp dLen dCap sLen sCap hd hs (by simpa using hn.symm) ?_
    simpa [splice] using h
  · obtain ⟨rfl, ad, rfl, hsrc⟩ := hpos (by omega)
    refine wpList_copy_own hgd d s dT sT ho elem hu hsz w.heap.size off dLen dCap ad sLen sCap hd hs cur.toArray t ?_ cs hn (fun j v hj => ?_) (by simpa using hfit) h1 ?_
    · rw [Below.heap_alloc _ _ _ (by simp)]
      exact heap_top _ _ _ rfl
    · have hc := hsrc j v hj
      have hlt := World.block_lt_of_cell? _ _ hc
      rw [World.cell?_alloc_lt _ _ _ (by simp; omega), World.cell?_alloc_lt _ _ _ hlt]
      exact hc
    · rw [setRow_alloc2]
      simpa [splice] using h

set_option maxHeartbeats 400000 in
theorem set_any (b0 b1 b2 b3 b4 b5 b6 b7 c0 c1 c2 c3 c4 c5 c6 c7 : Int) (m : Int) (ns : List Int) (v : Value) (w : World) (h1 : -9223372036854775808 ≤ m) (h2 : m ≤ 9223372036854775807) (hv : BytesAt w v ns)
    (hc : setL [b0, b1, b2, b3, b4, b5, b6, b7] m ns = [c0, c1, c2, c3, c4, c5, c6, c7]) :
    Calls Try.prog 9 #[.agg #[.int .u8 b0, .int .u8 b1, .int .u8 b2, .int .u8 b3, .int .u8 b4, .int .u8 b5, .int .u8 b6, .int .u8 b7], .int .i64 m, v] w fun e w' =>
      e = .returned (.agg #[.int .u8 c0, .int .u8 c1, .int .u8 c2, .int .u8 c3, .int .u8 c4, .int .u8 c5, .int .u8 c6, .int .u8 c7]) ∧ Grew w w' := by
  obtain ⟨a, cap, rfl, hnone, hsome⟩ := hv
  by_cases hm : 0 ≤ m ∧ m < 8
  · obtain ⟨i, rfl⟩ := Int.eq_ofNat_of_zero_le hm.1
    have hi : i < 8 := by omega
    have hh : hasByte i = true := by unfold hasByte; simp; omega
    have HH : Hid (hasByte i = true) := hh
    unfold setL at hc
    rw [if_pos hm, Int.toNat_natCast] at hc
    have hcv : splice ([b0, b1, b2, b3, b4, b5, b6, b7].map (Value.int .u8)) i ((ns.take (8 - i)).map (Value.int .u8)) = [.int .u8 c0, .int .u8 c1, .int .u8 c2, .int .u8 c3, .int .u8 c4, .int .u8 c5, .int .u8 c6, .int .u8 c7] := by
      rw [← map_splice, hc]; rfl
    have HC : Hid (splice ([b0, b1, b2, b3, b4, b5, b6, b7].map (Value.int .u8)) i ((ns.take (8 - i)).map (Value.int .u8)) = [.int .u8 c0, .int .u8 c1, .int .u8 c2, .int .u8 c3, .int .u8 c4, .int .u8 c5, .int .u8 c6, .int .u8 c7]) := hcv
    obtain ⟨x, hx, hx'⟩ := slice8 w.heap.size i (by omega)
    have HX : Hid (i < 8 → x = ⟨w.heap.size, i, none⟩) := hx'
    have HP : Hid (0 < ((ns.take (8 - i)).map (Value.int .u8)).length → ∃ ad, a = some ad ∧ ∀ j v, ((ns.take (8 - i)).map (Value.int .u8))[j]? = some v → w.cell? (ad.add j) = some v) := fun hpos => by
      cases a with
      | none => rw [hnone rfl] at hpos; simp at hpos
      | some ad =>
        refine ⟨ad, rfl, fun j u hj => hsome ad rfl j u ?_⟩
        rw [List.map_take, List.getElem?_take] at hj
        split at hj
        · exact hj
        · cases hj
    clear hx' hsome hnone hcv hc hh hm
    go_enter Try.func9, Try.ntmps9
    go_wp2_with (first
      | (go_at_call 14; refine (hasByte_any _ _).mono ?_; rintro e w' ⟨rfl, rfl⟩; rw [HH.out])
      | (refine wpList_copy_box (w := w) rfl (.tmp 12) (.tmp 13) 24 24 rfl 5 Try.underlying24 (by kernel_rfl) _ _ _ _ _ _ rfl rfl i ([b0, b1, b2, b3, b4, b5, b6, b7].map (Value.int .u8)) 23 _ ((ns.take (8 - i)).map (Value.int .u8)) (by simp; show min _ _ = min _ _; omega) (fun hp => ⟨congrArg some (HX.out hi), HP.out hp⟩) (by simp; omega) (ints_oneCell _ _) _ HC.out ?_))
    exact bodyPost_ret (v := .agg #[.int .u8 c0, .int .u8 c1, .int .u8 c2, .int .u8 c3, .int .u8 c4, .int .u8 c5, .int .u8 c6, .int .u8 c7]) (by simp [results, Try.results9, go_sem]) rfl ⟨rfl, (show Below _ _ _ from ((Below.refl _ _).alloc (Nat.le_refl _) _).alloc (by simp) _)⟩
  · have hh : Hid (hasByte m = false) := show hasByte m = false by unfold hasByte; simp; omega
    unfold setL at hc
    rw [if_neg hm] at hc
    simp only [List.cons.injEq, and_true] at hc
    obtain ⟨rfl, rfl, rfl, rfl, rfl, rfl, rfl, rfl⟩ := hc
    clear hsome hnone
    go_enter Try.func9, Try.ntmps9
    go_wp2_with (go_at_call 14; refine (hasByte_any _ _).mono ?_; rintro e w' ⟨rfl, rfl⟩; rw [hh.out])
    exact bodyPost_ret (v := .agg #[.int .u8 b0, .int .u8 b1, .int .u8 b2, .int .u8 b3, .int .u8 b4, .int .u8 b5, .int .u8 b6, .int .u8 b7]) (by simp [results, Try.results9, go_sem]) rfl ⟨rfl, (show Below _ _ _ from ((Below.refl _ _).alloc (Nat.le_refl _) _).alloc (by simp) _)⟩
end Go.Proofs.Ytbapaldfgmidpaa
