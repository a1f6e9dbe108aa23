/- Contract of New (package disk). -/
import Derived.Test.YtbcaagmnmaonbabBox
import Derived.Laws.MakeOwn
namespace Go.Proofs.Ytbcaagmnmaonbab
open Go.RowKit

def zero8 : List Int := [0, 0, 0, 0, 0, 0, 0, 0]
def newErr (n : Int) : Int := if 0 ≤ n ∧ n ≤ 80 then 0 else 4
def newD (n : Int) : List (List Int) := if 0 ≤ n ∧ n ≤ 80 then List.replicate n.toNat zero8 else []

theorem made_pages (n : Nat) : (madeCells #[.int .u8 0, .int .u8 0, .int .u8 0, .int .u8 0, .int .u8 0, .int .u8 0, .int .u8 0, .int .u8 0] (n * 8)).toList = (List.replicate n zero8).flatMap pgc := by
  have hl : ((List.replicate n zero8).flatMap pgc).length = n * 8 := by rw [flatMap_len (k := 8) _ (fun a ha => by rw [List.eq_of_mem_replicate ha]; rfl)]; simp
  apply List.ext_getElem?
  intro j
  rcases Nat.lt_or_ge j (n * 8) with h | h
  · have hj : j = j / 8 * 8 + j % 8 := by omega
    have h8 : j % 8 < 8 := Nat.mod_lt _ (by decide)
    have hq : j / 8 < n := by omega
    have hz : (pgc zero8)[j % 8]? = some (.int .u8 0) := by
      generalize j % 8 = k at h8
      match k, h8 with
      | 0, _ => rfl
      | 1, _ => rfl
      | 2, _ => rfl
      | 3, _ => rfl
      | 4, _ => rfl
      | 5, _ => rfl
      | 6, _ => rfl
      | 7, _ => rfl
    have h1 := flatMap_elem (enc := pgc) (k := 8) (List.replicate n zero8) (j / 8) zero8 (fun a ha => by rw [List.eq_of_mem_replicate ha]; rfl) (by simp [hq]) (j % 8) _ hz
    rw [← hj] at h1
    rw [h1]
    have : (#[Value.int .u8 0, .int .u8 0, .int .u8 0, .int .u8 0, .int .u8 0, .int .u8 0, .int .u8 0, .int .u8 0] : Array Value)[j % 8]! = .int .u8 0 := by
      generalize j % 8 = k at h8
      match k, h8 with
      | 0, _ => rfl
      | 1, _ => rfl
      | 2, _ => rfl
      | 3, _ => rfl
      | 4, _ => rfl
      | 5, _ => rfl
      | 6, _ => rfl
      | 7, _ => rfl
    simp [madeCells, h]
    simpa using this
  · rw [List.getElem?_eq_none (by simp [madeCells]; exact h), List.getElem?_eq_none (by rw [hl]; exact h)]

theorem wpList_make_pages {w : World} {ops : Array Oper} {rest : List Oper} {o : Oper} {a : Act} {Q : Exit → Act → World → Prop} (hgd : o.guard = none) (l : Operand) (ho : o.op = .makeSlice 22 l l) (n : Nat) (hl : a.eval l = .int .i64 n) (hn : n ≤ 80)
    (h : ∀ C, OwnPages w.heap.size (w.alloc (.cells C 31)) (.slice (some ⟨w.heap.size, 0, none⟩) n n) (List.replicate n zero8) → wpList Try.prog ops Q rest (a.put o.dst (.slice (some ⟨w.heap.size, 0, none⟩) n n)) (w.alloc (.cells C 31))) : wpList Try.prog ops Q (o :: rest) a w := by
  refine wpList_plain hgd fun K hK => ?_
  obtain ⟨i0, hi, hz0, hz1, hz2⟩ := info_parts Try.infoPage
  have hrun := run_make (P := Try.prog) w 22 31 i0 _ Try.underlying22 hi hz0 .i64 .i64 n n (by omega) (Int.le_refl _) (by rw [hz2]; omega) (by omega)
  rw [hz1, Int.toNat_natCast] at hrun
  unfold Oper.wp
  simp only [execOp, ho, hl, Sem.run_bind, hrun, Result.andThen, Sem.run_pure, Oper.upon]
  refine hK _ _ (h _ ⟨⟨?_, .inr ⟨w.heap.size, n, madeCells #[.int .u8 0, .int .u8 0, .int .u8 0, .int .u8 0, .int .u8 0, .int .u8 0, .int .u8 0, .int .u8 0] (n * 8), by rw [List.length_replicate], Nat.le_refl _, ?_, ?_, ?_, ?_, ?_⟩⟩, fun p hp => by rw [List.eq_of_mem_replicate hp]; rfl, by rw [List.length_replicate]; omega⟩)
  · rw [flatMap_len (k := 8) _ (fun a ha => by rw [List.eq_of_mem_replicate ha]; rfl)]
  · show (w.heap.push _)[w.heap.size]? = _
    simp [Value.cells]
  · rw [List.length_replicate]; exact Nat.le_refl _
  · exact maxLen_of (by omega)
  · rw [size_madeCells]
  · rw [List.length_replicate]
    show (madeCells #[.int .u8 0, .int .u8 0, .int .u8 0, .int .u8 0, .int .u8 0, .int .u8 0, .int .u8 0, .int .u8 0] (n * 8)).toList.take (n * 8) = _
    rw [List.take_of_length_le (by simp [madeCells]), made_pages]

theorem ownsRow_same {w w' : World} {base size n : Nat} {e : TypeId} {v : Value} {xs : List Value} (h : w.ownsRow base e size v n xs) (hs : ∀ k, base ≤ k → w'.heap[k]? = w.heap[k]?) : w'.ownsRow base e size v n xs := by
  refine ⟨h.1, ?_⟩
  rcases h.2 with h1 | ⟨g, cap, cur, rfl, h2, h3, h4⟩
  · exact .inl h1
  · exact .inr ⟨g, cap, cur, rfl, h2, by rw [hs g h2]; exact h3, h4⟩

theorem alloc2_same (w : World) (A B C : Obj) (k : Nat) (hk : w.heap.size + 1 ≤ k) : ((w.alloc A).alloc C).heap[k]? = ((w.alloc B).alloc C).heap[k]? := by
  show ((w.heap.push A).push C)[k]? = ((w.heap.push B).push C)[k]?
  simp only [Array.getElem?_push, Array.size_push]
  split
  · rfl
  · rw [if_neg (by omega), if_neg (by omega)]

set_option maxHeartbeats 1000000 in
theorem new_any (n : Int) (w : World) :
    Calls Try.prog 24 #[.int .i64 n] w fun e w' => ∃ d', e = .returned (.tuple #[d', .int .i64 (newErr n)]) ∧ NewDisk w.heap.size w' d' (newD n) [] ∧ Grew w w' := by
  by_cases h : 0 ≤ n ∧ n ≤ 80
  · have HE : Hid (newErr n = 0) := show newErr n = 0 by unfold newErr; rw [if_pos h]
    have HD : Hid (newD n = List.replicate n.toNat zero8) := show newD n = _ by unfold newD; rw [if_pos h]
    obtain ⟨k, rfl⟩ := Int.eq_ofNat_of_zero_le h.1
    have h0 : ¬ (k : Int) < 0 := by omega
    have h1 : ¬ (80 : Int) < (k : Int) := by omega
    have hk : k ≤ 80 := by omega
    have HG0 : Hid (Grew w (w.alloc (.cells #[.slice none 0 0, .slice none 0 0] 25))) := grew_alloc _ _
    rw [HE.out]
    go_enter Try.func24, Try.ntmps24
    go_wp2_with (refine wpList_make_pages rfl (.tmp 11) rfl k rfl hk ?_; intro C ow; have OW : Hid (OwnPages (w.alloc (.cells #[.slice none 0 0, .slice none 0 0] 25)).heap.size ((w.alloc (.cells #[.slice none 0 0, .slice none 0 0] 25)).alloc (.cells C 31)) (.slice (some ⟨(w.alloc (.cells #[.slice none 0 0, .slice none 0 0] 25)).heap.size, 0, none⟩) k k) (List.replicate k zero8)) := ow; clear ow)
    refine bodyPost_ret (v := .tuple #[.agg #[.slice (some ⟨w.heap.size + 1, 0, none⟩) k k, .slice none 0 0], .int .i64 0]) (by simp [results, Try.results24, go_sem, *]) rfl ⟨_, rfl, ?_, ?_⟩
    · rw [HD.out]
      have ho := OW.out
      rw [World.size_alloc] at ho
      exact ⟨_, _, rfl, OwnPages.at (base := w.heap.size + 1) ⟨ownsRow_same ho.1 (fun k hk => alloc2_same w _ _ _ k hk), ho.2⟩, nilPuts _, fun x n c e => by cases e; simp, fresh_nil _⟩
    · exact (grew_alloc _ _).trans (grew_alloc _ _)
  · have HE : Hid (newErr n = 4) := show newErr n = 4 by unfold newErr; rw [if_neg h]
    have HD : Hid (newD n = []) := show newD n = _ by unfold newD; rw [if_neg h]
    rw [HE.out, HD.out]
    by_cases h0 : n < 0
    · clear h
      go_enter Try.func24, Try.ntmps24
      go_wp2
      refine bodyPost_ret (v := .tuple #[.agg #[.slice none 0 0, .slice none 0 0], .int .i64 4]) (by simp [results, Try.results24, go_sem]) rfl ⟨_, rfl, nilDisk _ _, ?_⟩
      exact grew_alloc _ _
    · have h1 : (80 : Int) < n := by omega
      clear h
      go_enter Try.func24, Try.ntmps24
      go_wp2
      refine bodyPost_ret (v := .tuple #[.agg #[.slice none 0 0, .slice none 0 0], .int .i64 4]) (by simp [results, Try.results24, go_sem]) rfl ⟨_, rfl, nilDisk _ _, ?_⟩
      exact grew_alloc _ _

end Go.Proofs.Ytbcaagmnmaonbab
