/- Plain facts on pages as lists: what is set is got; nothing else is another one; set twice it is as set the last time. -/
import Derived.Test.YtbapaldfgmidpaaSet
namespace Go.Proofs.Ytbapaldfgmidpaa

theorem setL_nat (p : List Int) (i : Nat) (ns : List Int) (_hp : p.length = 8) (h : i + ns.length ≤ 8) : setL p i ns = splice p i ns := by
  unfold setL
  split
  · rw [Int.toNat_natCast, List.take_of_length_le (by omega)]
  · have h0 : ns = [] := List.eq_nil_of_length_eq_zero (by omega)
    subst h0
    simp [splice]

theorem getL_nat (p : List Int) (i k : Nat) (h : i + k ≤ 8) : getL p i k = (p.drop i).take k := by
  unfold getL
  rw [if_pos (by omega), Int.toNat_natCast, Int.toNat_natCast]

theorem splice_get (p : List Int) (i : Nat) (ns : List Int) (hp : p.length = 8) (h : i + ns.length ≤ 8) : ((splice p i ns).drop i).take ns.length = ns := by
  have hl : (p.take i).length = i := by rw [List.length_take]; omega
  unfold splice
  rw [List.drop_append_of_le_length (by omega), List.drop_of_length_le (by omega), List.nil_append, List.take_append_of_le_length (by omega), List.take_of_length_le (by omega)]

theorem splice_ahead (p : List Int) (i : Nat) (ns : List Int) (hp : p.length = 8) (h : i + ns.length ≤ 8) : (splice p i ns).take i = p.take i := by
  have hl : (p.take i).length = i := by rw [List.length_take]; omega
  unfold splice
  rw [List.take_append_of_le_length (by omega), List.take_of_length_le (by omega)]

theorem splice_behind (p : List Int) (i : Nat) (ns : List Int) (hp : p.length = 8) (h : i + ns.length ≤ 8) : (splice p i ns).drop (i + ns.length) = p.drop (i + ns.length) := by
  have hl : (p.take i).length = i := by rw [List.length_take]; omega
  unfold splice
  rw [← List.append_assoc, List.drop_append, List.drop_of_length_le (by rw [List.length_append]; omega), List.nil_append, List.length_append, hl, Nat.sub_self, List.drop_zero]

theorem splice_twice (p : List Int) (i : Nat) (ns cs : List Int) (hp : p.length = 8) (h : i + ns.length ≤ 8) (hc : cs.length = ns.length) : splice (splice p i ns) i cs = splice p i cs := by
  have h1 := splice_ahead p i ns hp h
  have h2 := splice_behind p i ns hp h
  unfold splice at h1 h2 ⊢
  rw [hc, h1, h2]

theorem sets_got (p q ns : List Int) (i : Nat) (hp : p.length = 8) (h : i + ns.length ≤ 8) (hq : setL p i ns = q) : getL q i ns.length = ns := by
  rw [getL_nat _ _ _ h, ← hq, setL_nat p i ns hp h, splice_get p i ns hp h]

theorem sets_ahead (p q ns : List Int) (i : Nat) (hp : p.length = 8) (h : i + ns.length ≤ 8) (hq : setL p i ns = q) : getL q 0 i = getL p 0 i := by
  have e := getL_nat q 0 i (by omega)
  have e' := getL_nat p 0 i (by omega)
  simp only [Int.natCast_zero] at e e'
  rw [e, e', ← hq, setL_nat p i ns hp h, List.drop_zero, List.drop_zero, splice_ahead p i ns hp h]

theorem sets_behind (p q ns : List Int) (i : Nat) (hp : p.length = 8) (h : i + ns.length ≤ 8) (hq : setL p i ns = q) (k : Nat) (hk : i + ns.length + k ≤ 8) : getL q (i + ns.length : Nat) k = getL p (i + ns.length : Nat) k := by
  rw [getL_nat _ _ _ hk, getL_nat _ _ _ hk, ← hq, setL_nat p i ns hp h, splice_behind p i ns hp h]

theorem sets_twice (p q ns cs : List Int) (i : Nat) (hp : p.length = 8) (h : i + ns.length ≤ 8) (hc : cs.length = ns.length) (hq : setL p i ns = q) : setL q i cs = setL p i cs := by
  have hql : q.length = 8 := by rw [← hq]; exact setL_len p i ns hp
  rw [setL_nat q i cs hql (by omega), setL_nat p i cs hp (by omega), ← hq, setL_nat p i ns hp h, splice_twice p i ns cs hp h hc]
end Go.Proofs.Ytbapaldfgmidpaa
