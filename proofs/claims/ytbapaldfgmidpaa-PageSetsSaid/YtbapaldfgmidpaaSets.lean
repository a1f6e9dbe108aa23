/- The walk of the law PageSets: for every page, number and bytes it returns true and writes nothing that was there. -/
import Derived.Test.YtbapaldfgmidpaaTells
import Derived.Test.YtbapaldfgmidpaaAlive
import Derived.Test.YtbapaldfgmidpaaLists
namespace Go.Proofs.Ytbapaldfgmidpaa
open Go.RowKit

theorem grown_cell {W : World} {x : Addr} {u : Value} (y : GrownW W) (h : W.cell? x = some u) : y.world.cell? x = some u := by
  rw [Below.cell y.grew (World.block_lt_of_cell? _ _ h)]
  exact h

theorem page_cell {w : World} {b : Nat} (cs : List Value) (t : TypeId) (h : w.heap[b]? = some (.cells cs.toArray t (0, 0))) (j : Nat) (u : Value) (hj : cs[j]? = some u) : w.cell? ⟨b, j, none⟩ = some u := by
  have := cells_of_block h 0 j
  rw [Addr_add_none, Nat.zero_add] at this
  rw [this]
  exact hj

/-- The way on which the law's conditions hold: what stands behind 'q := page.Set(p, at, b)'. -/
def SetsFacts (p q ns cs e L0 L1 : List Int) (i len : Nat) : Prop :=
  getL q i len = ns ∧ setL q i cs = e ∧ setL p i cs = e ∧ getL q 0 i = L0 ∧ getL p 0 i = L0 ∧ getL q ((i : Int) + len) (8 - i - len) = L1 ∧ getL p ((i : Int) + len) (8 - i - len) = L1

theorem sets_facts (p q ns cs : List Int) (i len : Nat) (hp : p.length = 8) (hl : ns.length = len) (hc : cs.length = len) (h : i + len ≤ 8) (hq : setL p i ns = q) :
    ∃ e L0 L1, e.length = 8 ∧ SetsFacts p q ns cs e L0 L1 i len := by
  subst hl
  have hk : ((8 : Int) - i - ns.length) = ((8 - i - ns.length : Nat) : Int) := by omega
  have hn : ((i : Int) + ns.length) = ((i + ns.length : Nat) : Int) := by omega
  refine ⟨setL p i cs, getL p 0 i, getL p ((i : Int) + ns.length) (8 - i - ns.length), setL_len _ _ _ hp, sets_got p q ns i hp h hq, sets_twice p q ns cs i hp h hc hq, rfl, sets_ahead p q ns i hp h hq, rfl, ?_, rfl⟩
  rw [hk, hn]
  exact sets_behind p q ns i hp h hq _ (by omega)

set_option maxHeartbeats 2000000 in
theorem sets_walk (b0 b1 b2 b3 b4 b5 b6 b7 m : Int) (ns cs : List Int) (v u : Value) (w : World) (h1 : -9223372036854775808 ≤ m) (h2 : m ≤ 9223372036854775807)
    (hv : BytesAt w v ns) (hu : BytesAt w u cs) (hlen : ns.length ≤ maxLen) (hclen : cs.length ≤ maxLen) :
    Calls Try.prog 4 #[.agg #[.int .u8 b0, .int .u8 b1, .int .u8 b2, .int .u8 b3, .int .u8 b4, .int .u8 b5, .int .u8 b6, .int .u8 b7], .int .i64 m, v, u] w fun e w' => e = .returned (.bool true) ∧ Grew w w' := by
  obtain ⟨len, hl⟩ : ∃ len, ns.length = len := ⟨_, rfl⟩
  obtain ⟨clen, hcl⟩ : ∃ clen, cs.length = clen := ⟨_, rfl⟩
  have hv2 := hv
  have hu2 := hu
  obtain ⟨va, vcap, rfl, _, _⟩ := hv2
  obtain ⟨ua, ucap, rfl, _, _⟩ := hu2
  rw [hl] at hv hlen ⊢
  rw [hcl] at hu hclen ⊢
  unfold maxLen at hlen hclen
  have HV : Hid (BytesAt w (.slice va len vcap) ns) := hv
  have HU : Hid (BytesAt w (.slice ua clen ucap) cs) := hu
  have HLn : Hid (ns.length = len) := hl
  have HCn : Hid (cs.length = clen) := hcl
  have ga : ∀ o, Grew w (w.alloc o) := fun o => (Below.refl _ _).alloc (Nat.le_refl _) _
  have GA : Hid (∀ o, Grew w (w.alloc o)) := ga
  clear hv hu hl hcl ga
  have hways : m < 0 ∨ (0 ≤ m ∧ 8 < m) ∨ (0 ≤ m ∧ m ≤ 8 ∧ 8 - m < len) ∨ (0 ≤ m ∧ m ≤ 8 ∧ (len : Int) ≤ 8 - m ∧ clen ≠ len) ∨ (0 ≤ m ∧ m ≤ 8 ∧ (len : Int) ≤ 8 - m ∧ clen = len) := by omega
  rcases hways with hw | ⟨hw, hw1⟩ | ⟨hw, hw1, hw2⟩ | ⟨hw, hw1, hw2, hw3⟩ | ⟨hw, hw1, hw2, hw3⟩
  case inr.inr.inr.inr =>
    subst hw3
    obtain ⟨i, rfl⟩ := Int.eq_ofNat_of_zero_le hw
    obtain ⟨c0, c1, c2, c3, c4, c5, c6, c7, hset⟩ := len8 (setL [b0, b1, b2, b3, b4, b5, b6, b7] i ns) (setL_len _ _ _ rfl)
    obtain ⟨e, L0, L1, he8, hfacts⟩ := sets_facts [b0, b1, b2, b3, b4, b5, b6, b7] [c0, c1, c2, c3, c4, c5, c6, c7] ns cs i clen rfl HLn.out HCn.out (by omega) hset
    obtain ⟨e0, e1, e2, e3, e4, e5, e6, e7, rfl⟩ := len8 e he8
    obtain ⟨f1, f2, f3, f4, f5, f6, f7⟩ := hfacts
    have HSet : Hid (setL [b0, b1, b2, b3, b4, b5, b6, b7] i ns = [c0, c1, c2, c3, c4, c5, c6, c7]) := hset
    have F1 : Hid (getL [c0, c1, c2, c3, c4, c5, c6, c7] i clen = ns) := f1
    have F2 : Hid (setL [c0, c1, c2, c3, c4, c5, c6, c7] i cs = [e0, e1, e2, e3, e4, e5, e6, e7]) := f2
    have F3 : Hid (setL [b0, b1, b2, b3, b4, b5, b6, b7] i cs = [e0, e1, e2, e3, e4, e5, e6, e7]) := f3
    have F4 : Hid (getL [c0, c1, c2, c3, c4, c5, c6, c7] 0 i = L0) := f4
    have F5 : Hid (getL [b0, b1, b2, b3, b4, b5, b6, b7] 0 i = L0) := f5
    have F6 : Hid (getL [c0, c1, c2, c3, c4, c5, c6, c7] ((i : Int) + clen) (8 - i - clen) = L1) := f6
    have F7 : Hid (getL [b0, b1, b2, b3, b4, b5, b6, b7] ((i : Int) + clen) (8 - i - clen) = L1) := f7
    clear f1 f2 f3 f4 f5 f6 f7 hset he8
    have hne : ((clen : Int) != (clen : Int)) = false := by simp
    go_enter Try.func4, Try.ntmps4
    go_wp2_with (first
      | (go_at_call 13; refine (alive_any _).mono ?_; rintro e w0 ⟨rfl, hg0⟩; have hc0 := fun o => Below.cell hg0 (p := ⟨w.heap.size, o, none⟩) (by simp))
      | (go_at_call 9; refine (set_any b0 b1 b2 b3 b4 b5 b6 b7 c0 c1 c2 c3 c4 c5 c6 c7 i ns _ _ (by omega) (by omega) (HV.out.grew ((GA.out _).trans hg0)) HSet.out).mono ?_; rintro e w1 ⟨rfl, hg1⟩))
    obtain ⟨W, hW⟩ : ∃ W, W = w1.alloc (Obj.cells #[.int .u8 c0, .int .u8 c1, .int .u8 c2, .int .u8 c3, .int .u8 c4, .int .u8 c5, .int .u8 c6, .int .u8 c7] 23) := ⟨_, rfl⟩
    rw [← hW]
    have hsz0 : w.heap.size + 1 ≤ w0.heap.size := by have := hg0.size; rwa [World.size_alloc] at this
    have hsz1 : w0.heap.size ≤ w1.heap.size := hg1.size
    have hG : Grew w W := by
      rw [hW]
      exact (((GA.out _).trans hg0).trans hg1).trans ((Below.refl _ _).alloc (Nat.le_refl _) _)
    have HG : Hid (Grew w W) := hG
    have hp0 : ∀ x : GrownW W, x.world.cell? ⟨w.heap.size, 0, none⟩ = some (.int .u8 b0) := fun x => grown_cell x (by rw [hW, World.cell?_alloc_lt _ _ _ (by simp; omega), Below.cell hg1 (by simp; omega), hc0]; simp)
    have hq0 : ∀ x : GrownW W, x.world.cell? ⟨w1.heap.size, 0, none⟩ = some (.int .u8 c0) := fun x => grown_cell x (by rw [hW, World.cell?_alloc_new]; simp)
    have hp1 : ∀ x : GrownW W, x.world.cell? ⟨w.heap.size, 1, none⟩ = some (.int .u8 b1) := fun x => grown_cell x (by rw [hW, World.cell?_alloc_lt _ _ _ (by simp; omega), Below.cell hg1 (by simp; omega), hc0]; simp)
    have hq1 : ∀ x : GrownW W, x.world.cell? ⟨w1.heap.size, 1, none⟩ = some (.int .u8 c1) := fun x => grown_cell x (by rw [hW, World.cell?_alloc_new]; simp)
    have hp2 : ∀ x : GrownW W, x.world.cell? ⟨w.heap.size, 2, none⟩ = some (.int .u8 b2) := fun x => grown_cell x (by rw [hW, World.cell?_alloc_lt _ _ _ (by simp; omega), Below.cell hg1 (by simp; omega), hc0]; simp)
    have hq2 : ∀ x : GrownW W, x.world.cell? ⟨w1.heap.size, 2, none⟩ = some (.int .u8 c2) := fun x => grown_cell x (by rw [hW, World.cell?_alloc_new]; simp)
    have hp3 : ∀ x : GrownW W, x.world.cell? ⟨w.heap.size, 3, none⟩ = some (.int .u8 b3) := fun x => grown_cell x (by rw [hW, World.cell?_alloc_lt _ _ _ (by simp; omega), Below.cell hg1 (by simp; omega), hc0]; simp)
    have hq3 : ∀ x : GrownW W, x.world.cell? ⟨w1.heap.size, 3, none⟩ = some (.int .u8 c3) := fun x => grown_cell x (by rw [hW, World.cell?_alloc_new]; simp)
    have hp4 : ∀ x : GrownW W, x.world.cell? ⟨w.heap.size, 4, none⟩ = some (.int .u8 b4) := fun x => grown_cell x (by rw [hW, World.cell?_alloc_lt _ _ _ (by simp; omega), Below.cell hg1 (by simp; omega), hc0]; simp)
    have hq4 : ∀ x : GrownW W, x.world.cell? ⟨w1.heap.size, 4, none⟩ = some (.int .u8 c4) := fun x => grown_cell x (by rw [hW, World.cell?_alloc_new]; simp)
    have hp5 : ∀ x : GrownW W, x.world.cell? ⟨w.heap.size, 5, none⟩ = some (.int .u8 b5) := fun x => grown_cell x (by rw [hW, World.cell?_alloc_lt _ _ _ (by simp; omega), Below.cell hg1 (by simp; omega), hc0]; simp)
    have hq5 : ∀ x : GrownW W, x.world.cell? ⟨w1.heap.size, 5, none⟩ = some (.int .u8 c5) := fun x => grown_cell x (by rw [hW, World.cell?_alloc_new]; simp)
    have hp6 : ∀ x : GrownW W, x.world.cell? ⟨w.heap.size, 6, none⟩ = some (.int .u8 b6) := fun x => grown_cell x (by rw [hW, World.cell?_alloc_lt _ _ _ (by simp; omega), Below.cell hg1 (by simp; omega), hc0]; simp)
    have hq6 : ∀ x : GrownW W, x.world.cell? ⟨w1.heap.size, 6, none⟩ = some (.int .u8 c6) := fun x => grown_cell x (by rw [hW, World.cell?_alloc_new]; simp)
    have hp7 : ∀ x : GrownW W, x.world.cell? ⟨w.heap.size, 7, none⟩ = some (.int .u8 b7) := fun x => grown_cell x (by rw [hW, World.cell?_alloc_lt _ _ _ (by simp; omega), Below.cell hg1 (by simp; omega), hc0]; simp)
    have hq7 : ∀ x : GrownW W, x.world.cell? ⟨w1.heap.size, 7, none⟩ = some (.int .u8 c7) := fun x => grown_cell x (by rw [hW, World.cell?_alloc_new]; simp)
    clear hG hW hc0 hg0 hg1 hsz0 hsz1
    have hne2 : Nonempty (GrownW W) := ⟨⟨_, Grew.refl _⟩⟩
    have heq : ∀ x : World, (Op.equalIn 10000 23 (.agg #[.int .u8 e0, .int .u8 e1, .int .u8 e2, .int .u8 e3, .int .u8 e4, .int .u8 e5, .int .u8 e6, .int .u8 e7]) (.agg #[.int .u8 e0, .int .u8 e1, .int .u8 e2, .int .u8 e3, .int .u8 e4, .int .u8 e5, .int .u8 e6, .int .u8 e7])).run Try.prog x = .ok true x := fun x => by
      obtain ⟨i5, hi5, _, hz1, _⟩ := info_parts Try.info5
      have := run_equal_ints (P := Try.prog) x 23 5 .u8 9998 8 [e0, e1, e2, e3, e4, e5, e6, e7] [e0, e1, e2, e3, e4, e5, e6, e7] i5 Try.underlying23 Try.underlying5 hi5 hz1 rfl rfl
      rw [decide_eq_true rfl] at this
      exact this
    refine wp_lax [(4, bspec ns), (5, vspec (.string (strOfNums ns))), (7, vspec (.string (strOfNums ns))), (13, vspec (.agg #[.int .u8 e0, .int .u8 e1, .int .u8 e2, .int .u8 e3, .int .u8 e4, .int .u8 e5, .int .u8 e6, .int .u8 e7])), (17, vspec (.agg #[.int .u8 e0, .int .u8 e1, .int .u8 e2, .int .u8 e3, .int .u8 e4, .int .u8 e5, .int .u8 e6, .int .u8 e7]))] (by kernel_rfl) (by kernel_rfl) ?_ ?_ ?_
    · intro x hx
      simp only [List.mem_cons, List.not_mem_nil, or_false] at hx
      rcases hx with rfl | rfl | rfl | rfl | rfl <;> first | exact ⟨_, rfl⟩ | exact ⟨.slice none _ 0, none, 0, rfl⟩
    · intro x hx
      simp only [List.mem_cons, List.not_mem_nil, or_false] at hx
      rcases hx with rfl | rfl | rfl | rfl | rfl <;> first | exact fun _ _ _ _ h => h | exact fun _ _ _ hg h => BytesAt.grew h hg
    iterate 4 (refine lax_quiet rfl rfl rfl (fun K hK => ?_); go_big_quiet_op; refine hK _ ?_; clear hK K)
    refine lax_spec rfl rfl (fun w' hg hF => ?_) (fun v1 hv => ?_)
    · refine Does.call [.agg #[.int .u8 c0, .int .u8 c1, .int .u8 c2, .int .u8 c3, .int .u8 c4, .int .u8 c5, .int .u8 c6, .int .u8 c7], .int .i64 i, .int .i64 clen] rfl Try.func7 rfl rfl rfl ?_
      refine (get_any c0 c1 c2 c3 c4 c5 c6 c7 i clen w' (by omega) (by omega) (by omega) (by omega)).mono ?_
      rintro e w'' ⟨v2, rfl, hb, hg⟩
      rw [F1.out] at hb
      exact ⟨_, rfl, hg, (by obtain ⟨a, c, rfl, _⟩ := hb; exact ⟨a, c, rfl⟩), hb⟩
    obtain ⟨a1, cap1, rfl⟩ := hv
    simp only [Act.put, List.setIfInBounds_toArray, List.set_cons_succ, List.set_cons_zero]
    refine lax_spec rfl rfl (fun w' hg hF => ?_) (fun v1 hv => ?_)
    · have hb : BytesAt w' (.slice a1 ns.length cap1) ns := hF 4 (by kernel_rfl)
      exact Does.convert rfl (hb.string 24 5 9 Try.underlying24 Try.underlying5 Try.underlying9) ⟨Grew.refl _, rfl, trivial⟩
    obtain rfl := hv
    simp only [Act.put, List.setIfInBounds_toArray, List.set_cons_succ, List.set_cons_zero]
    iterate 1 (refine lax_quiet rfl rfl rfl (fun K hK => ?_); go_big_quiet_op; refine hK _ ?_; clear hK K)
    refine lax_spec rfl rfl (fun w' hg hF => ?_) (fun v1 hv => ?_)
    · exact Does.convert rfl ((HV.out.grew (HG.out.trans hg)).string 24 5 9 Try.underlying24 Try.underlying5 Try.underlying9) ⟨Grew.refl _, rfl, trivial⟩
    obtain rfl := hv
    simp only [Act.put, List.setIfInBounds_toArray, List.set_cons_succ, List.set_cons_zero]
    iterate 5 (refine lax_quiet rfl rfl rfl (fun K hK => ?_); go_big_quiet_op; refine hK _ ?_; clear hK K)
    refine lax_spec rfl rfl (fun w' hg hF => ?_) (fun v1 hv => ?_)
    · refine Does.call [.agg #[.int .u8 c0, .int .u8 c1, .int .u8 c2, .int .u8 c3, .int .u8 c4, .int .u8 c5, .int .u8 c6, .int .u8 c7], .int .i64 i, .slice ua clen ucap] rfl Try.func9 rfl rfl rfl ?_
      refine (set_any c0 c1 c2 c3 c4 c5 c6 c7 e0 e1 e2 e3 e4 e5 e6 e7 i cs _ w' (by omega) (by omega) (HU.out.grew (HG.out.trans hg)) F2.out).mono ?_
      rintro e w'' ⟨rfl, hg⟩
      exact ⟨_, rfl, hg, rfl, trivial⟩
    obtain rfl := hv
    simp only [Act.put, List.setIfInBounds_toArray, List.set_cons_succ, List.set_cons_zero]
    iterate 3 (refine lax_quiet rfl rfl rfl (fun K hK => ?_); go_big_quiet_op; refine hK _ ?_; clear hK K)
    refine lax_spec rfl rfl (fun w' hg hF => ?_) (fun v1 hv => ?_)
    · refine Does.call [.agg #[.int .u8 b0, .int .u8 b1, .int .u8 b2, .int .u8 b3, .int .u8 b4, .int .u8 b5, .int .u8 b6, .int .u8 b7], .int .i64 i, .slice ua clen ucap] rfl Try.func9 rfl rfl rfl ?_
      refine (set_any b0 b1 b2 b3 b4 b5 b6 b7 e0 e1 e2 e3 e4 e5 e6 e7 i cs _ w' (by omega) (by omega) (HU.out.grew (HG.out.trans hg)) F3.out).mono ?_
      rintro e w'' ⟨rfl, hg⟩
      exact ⟨_, rfl, hg, rfl, trivial⟩
    obtain rfl := hv
    simp only [Act.put, List.setIfInBounds_toArray, List.set_cons_succ, List.set_cons_zero]
    iterate 2 (refine lax_quiet rfl rfl rfl (fun K hK => ?_); go_big_quiet_op; refine hK _ ?_; clear hK K)
    refine lax_nil fun w2 hg2 _ => ?_
    have hr0 : ∀ x : GrownW w2, x.world.cell? ⟨w.heap.size, 0, none⟩ = some (.int .u8 b0) := fun x => hp0 ⟨x.world, hg2.trans x.grew⟩
    have hs0 : ∀ x : GrownW w2, x.world.cell? ⟨w1.heap.size, 0, none⟩ = some (.int .u8 c0) := fun x => hq0 ⟨x.world, hg2.trans x.grew⟩
    have hr1 : ∀ x : GrownW w2, x.world.cell? ⟨w.heap.size, 1, none⟩ = some (.int .u8 b1) := fun x => hp1 ⟨x.world, hg2.trans x.grew⟩
    have hs1 : ∀ x : GrownW w2, x.world.cell? ⟨w1.heap.size, 1, none⟩ = some (.int .u8 c1) := fun x => hq1 ⟨x.world, hg2.trans x.grew⟩
    have hr2 : ∀ x : GrownW w2, x.world.cell? ⟨w.heap.size, 2, none⟩ = some (.int .u8 b2) := fun x => hp2 ⟨x.world, hg2.trans x.grew⟩
    have hs2 : ∀ x : GrownW w2, x.world.cell? ⟨w1.heap.size, 2, none⟩ = some (.int .u8 c2) := fun x => hq2 ⟨x.world, hg2.trans x.grew⟩
    have hr3 : ∀ x : GrownW w2, x.world.cell? ⟨w.heap.size, 3, none⟩ = some (.int .u8 b3) := fun x => hp3 ⟨x.world, hg2.trans x.grew⟩
    have hs3 : ∀ x : GrownW w2, x.world.cell? ⟨w1.heap.size, 3, none⟩ = some (.int .u8 c3) := fun x => hq3 ⟨x.world, hg2.trans x.grew⟩
    have hr4 : ∀ x : GrownW w2, x.world.cell? ⟨w.heap.size, 4, none⟩ = some (.int .u8 b4) := fun x => hp4 ⟨x.world, hg2.trans x.grew⟩
    have hs4 : ∀ x : GrownW w2, x.world.cell? ⟨w1.heap.size, 4, none⟩ = some (.int .u8 c4) := fun x => hq4 ⟨x.world, hg2.trans x.grew⟩
    have hr5 : ∀ x : GrownW w2, x.world.cell? ⟨w.heap.size, 5, none⟩ = some (.int .u8 b5) := fun x => hp5 ⟨x.world, hg2.trans x.grew⟩
    have hs5 : ∀ x : GrownW w2, x.world.cell? ⟨w1.heap.size, 5, none⟩ = some (.int .u8 c5) := fun x => hq5 ⟨x.world, hg2.trans x.grew⟩
    have hr6 : ∀ x : GrownW w2, x.world.cell? ⟨w.heap.size, 6, none⟩ = some (.int .u8 b6) := fun x => hp6 ⟨x.world, hg2.trans x.grew⟩
    have hs6 : ∀ x : GrownW w2, x.world.cell? ⟨w1.heap.size, 6, none⟩ = some (.int .u8 c6) := fun x => hq6 ⟨x.world, hg2.trans x.grew⟩
    have hr7 : ∀ x : GrownW w2, x.world.cell? ⟨w.heap.size, 7, none⟩ = some (.int .u8 b7) := fun x => hp7 ⟨x.world, hg2.trans x.grew⟩
    have hs7 : ∀ x : GrownW w2, x.world.cell? ⟨w1.heap.size, 7, none⟩ = some (.int .u8 c7) := fun x => hq7 ⟨x.world, hg2.trans x.grew⟩
    have HG2 : Hid (Grew w w2) := HG.out.trans hg2
    clear hp0 hq0 hp1 hq1 hp2 hq2 hp3 hq3 hp4 hq4 hp5 hq5 hp6 hq6 hp7 hq7 hne2 hg2
    have hne3 : Nonempty (GrownW w2) := ⟨⟨_, Grew.refl _⟩⟩
    go_wp2
    refine wp_lax [(2, bspec L0), (3, vspec (.string (strOfNums L0))), (6, bspec L0), (7, vspec (.string (strOfNums L0))), (20, bspec L1), (21, vspec (.string (strOfNums L1))), (32, bspec L1), (33, vspec (.string (strOfNums L1)))] (by kernel_rfl) (by kernel_rfl) ?_ ?_ ?_
    · intro x hx
      simp only [List.mem_cons, List.not_mem_nil, or_false] at hx
      rcases hx with rfl | rfl | rfl | rfl | rfl | rfl | rfl | rfl <;> first | exact ⟨_, rfl⟩ | exact ⟨.slice none _ 0, none, 0, rfl⟩
    · intro x hx
      simp only [List.mem_cons, List.not_mem_nil, or_false] at hx
      rcases hx with rfl | rfl | rfl | rfl | rfl | rfl | rfl | rfl <;> first | exact fun _ _ _ _ h => h | exact fun _ _ _ hg h => BytesAt.grew h hg
    iterate 2 (refine lax_quiet rfl rfl rfl (fun K hK => ?_); go_big_quiet_op; refine hK _ ?_; clear hK K)
    refine lax_spec rfl rfl (fun w' hg hF => ?_) (fun v1 hv => ?_)
    · refine Does.call [.agg #[.int .u8 c0, .int .u8 c1, .int .u8 c2, .int .u8 c3, .int .u8 c4, .int .u8 c5, .int .u8 c6, .int .u8 c7], .int .i64 0, .int .i64 i] rfl Try.func7 rfl rfl rfl ?_
      refine (get_any c0 c1 c2 c3 c4 c5 c6 c7 0 i w' (by omega) (by omega) (by omega) (by omega)).mono ?_
      rintro e w'' ⟨v2, rfl, hb, hg⟩
      rw [F4.out] at hb
      exact ⟨_, rfl, hg, (by obtain ⟨a, c, rfl, _⟩ := hb; exact ⟨a, c, rfl⟩), hb⟩
    obtain ⟨a2, cap2, rfl⟩ := hv
    simp only [Act.put, List.setIfInBounds_toArray, List.set_cons_succ, List.set_cons_zero]
    refine lax_spec rfl rfl (fun w' hg hF => ?_) (fun v1 hv => ?_)
    · have hb : BytesAt w' (.slice a2 L0.length cap2) L0 := hF 2 (by kernel_rfl)
      exact Does.convert rfl (hb.string 24 5 9 Try.underlying24 Try.underlying5 Try.underlying9) ⟨Grew.refl _, rfl, trivial⟩
    obtain rfl := hv
    simp only [Act.put, List.setIfInBounds_toArray, List.set_cons_succ, List.set_cons_zero]
    iterate 2 (refine lax_quiet rfl rfl rfl (fun K hK => ?_); go_big_quiet_op; refine hK _ ?_; clear hK K)
    refine lax_spec rfl rfl (fun w' hg hF => ?_) (fun v1 hv => ?_)
    · refine Does.call [.agg #[.int .u8 b0, .int .u8 b1, .int .u8 b2, .int .u8 b3, .int .u8 b4, .int .u8 b5, .int .u8 b6, .int .u8 b7], .int .i64 0, .int .i64 i] rfl Try.func7 rfl rfl rfl ?_
      refine (get_any b0 b1 b2 b3 b4 b5 b6 b7 0 i w' (by omega) (by omega) (by omega) (by omega)).mono ?_
      rintro e w'' ⟨v2, rfl, hb, hg⟩
      rw [F5.out] at hb
      exact ⟨_, rfl, hg, (by obtain ⟨a, c, rfl, _⟩ := hb; exact ⟨a, c, rfl⟩), hb⟩
    obtain ⟨a3, cap3, rfl⟩ := hv
    simp only [Act.put, List.setIfInBounds_toArray, List.set_cons_succ, List.set_cons_zero]
    refine lax_spec rfl rfl (fun w' hg hF => ?_) (fun v1 hv => ?_)
    · have hb : BytesAt w' (.slice a3 L0.length cap3) L0 := hF 6 (by kernel_rfl)
      exact Does.convert rfl (hb.string 24 5 9 Try.underlying24 Try.underlying5 Try.underlying9) ⟨Grew.refl _, rfl, trivial⟩
    obtain rfl := hv
    simp only [Act.put, List.setIfInBounds_toArray, List.set_cons_succ, List.set_cons_zero]
    iterate 12 (refine lax_quiet rfl rfl rfl (fun K hK => ?_); go_big_quiet_op; refine hK _ ?_; clear hK K)
    refine lax_spec rfl rfl (fun w' hg hF => ?_) (fun v1 hv => ?_)
    · refine Does.call [.agg #[.int .u8 c0, .int .u8 c1, .int .u8 c2, .int .u8 c3, .int .u8 c4, .int .u8 c5, .int .u8 c6, .int .u8 c7], .int .i64 ((i : Int) + clen), .int .i64 (8 - i - clen)] rfl Try.func7 rfl rfl rfl ?_
      refine (get_any c0 c1 c2 c3 c4 c5 c6 c7 ((i : Int) + clen) (8 - i - clen) w' (by omega) (by omega) (by omega) (by omega)).mono ?_
      rintro e w'' ⟨v2, rfl, hb, hg⟩
      rw [F6.out] at hb
      exact ⟨_, rfl, hg, (by obtain ⟨a, c, rfl, _⟩ := hb; exact ⟨a, c, rfl⟩), hb⟩
    obtain ⟨a4, cap4, rfl⟩ := hv
    simp only [Act.put, List.setIfInBounds_toArray, List.set_cons_succ, List.set_cons_zero]
    refine lax_spec rfl rfl (fun w' hg hF => ?_) (fun v1 hv => ?_)
    · have hb : BytesAt w' (.slice a4 L1.length cap4) L1 := hF 20 (by kernel_rfl)
      exact Does.convert rfl (hb.string 24 5 9 Try.underlying24 Try.underlying5 Try.underlying9) ⟨Grew.refl _, rfl, trivial⟩
    obtain rfl := hv
    simp only [Act.put, List.setIfInBounds_toArray, List.set_cons_succ, List.set_cons_zero]
    iterate 10 (refine lax_quiet rfl rfl rfl (fun K hK => ?_); go_big_quiet_op; refine hK _ ?_; clear hK K)
    refine lax_spec rfl rfl (fun w' hg hF => ?_) (fun v1 hv => ?_)
    · refine Does.call [.agg #[.int .u8 b0, .int .u8 b1, .int .u8 b2, .int .u8 b3, .int .u8 b4, .int .u8 b5, .int .u8 b6, .int .u8 b7], .int .i64 ((i : Int) + clen), .int .i64 (8 - i - clen)] rfl Try.func7 rfl rfl rfl ?_
      refine (get_any b0 b1 b2 b3 b4 b5 b6 b7 ((i : Int) + clen) (8 - i - clen) w' (by omega) (by omega) (by omega) (by omega)).mono ?_
      rintro e w'' ⟨v2, rfl, hb, hg⟩
      rw [F7.out] at hb
      exact ⟨_, rfl, hg, (by obtain ⟨a, c, rfl, _⟩ := hb; exact ⟨a, c, rfl⟩), hb⟩
    obtain ⟨a5, cap5, rfl⟩ := hv
    simp only [Act.put, List.setIfInBounds_toArray, List.set_cons_succ, List.set_cons_zero]
    refine lax_spec rfl rfl (fun w' hg hF => ?_) (fun v1 hv => ?_)
    · have hb : BytesAt w' (.slice a5 L1.length cap5) L1 := hF 32 (by kernel_rfl)
      exact Does.convert rfl (hb.string 24 5 9 Try.underlying24 Try.underlying5 Try.underlying9) ⟨Grew.refl _, rfl, trivial⟩
    obtain rfl := hv
    simp only [Act.put, List.setIfInBounds_toArray, List.set_cons_succ, List.set_cons_zero]
    iterate 3 (refine lax_quiet rfl rfl rfl (fun K hK => ?_); go_big_quiet_op; refine hK _ ?_; clear hK K)
    refine lax_nil fun w3 hg3 _ => ?_
    go_wp2
    go_ret
    exact ⟨rfl, HG2.out.trans hg3⟩
  case inl =>
    have d1 : decide (m < 0) = true := decide_eq_true hw
    go_enter Try.func4, Try.ntmps4
    go_wp2_with (go_at_call 13; refine (alive_any _).mono ?_; rintro e w0 ⟨rfl, hg0⟩)
    go_ret
    exact ⟨rfl, (GA.out _).trans hg0⟩
  case inr.inl =>
    have d1 : decide (m < 0) = false := decide_eq_false (by omega)
    have d2 : decide (8 < m) = true := decide_eq_true hw1
    go_enter Try.func4, Try.ntmps4
    go_wp2_with (go_at_call 13; refine (alive_any _).mono ?_; rintro e w0 ⟨rfl, hg0⟩)
    go_ret
    exact ⟨rfl, (GA.out _).trans hg0⟩
  case inr.inr.inl =>
    have d1 : decide (m < 0) = false := decide_eq_false (by omega)
    have d2 : decide (8 < m) = false := decide_eq_false (by omega)
    have d3 : decide (8 - m < (len : Int)) = true := decide_eq_true hw2
    go_enter Try.func4, Try.ntmps4
    go_wp2_with (go_at_call 13; refine (alive_any _).mono ?_; rintro e w0 ⟨rfl, hg0⟩)
    go_ret
    exact ⟨rfl, (GA.out _).trans hg0⟩
  case inr.inr.inr.inl =>
    have d1 : decide (m < 0) = false := decide_eq_false (by omega)
    have d2 : decide (8 < m) = false := decide_eq_false (by omega)
    have d3 : decide (8 - m < (len : Int)) = false := decide_eq_false (by omega)
    have d4 : ((clen : Int) != (len : Int)) = true := by rw [bne_iff_ne]; omega
    go_enter Try.func4, Try.ntmps4
    go_wp2_with (go_at_call 13; refine (alive_any _).mono ?_; rintro e w0 ⟨rfl, hg0⟩)
    go_ret
    exact ⟨rfl, (GA.out _).trans hg0⟩
end Go.Proofs.Ytbapaldfgmidpaa
