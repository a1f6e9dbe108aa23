/- Contracts: a copy of frames, of a memory; how many are free (package frames). -/
import Derived.Test.YtbcaagmnmaonbabMemWrong
namespace Go.Proofs.Ytbcaagmnmaonbab
open Go.RowKit

set_option maxHeartbeats 1000000 in
theorem cloneFrames_any (v : Value) (fs : List Fr) (w : World) (hv : RowAt w v fs) :
    Calls Try.prog 34 #[v] w fun e w' => ∃ v', e = .returned v' ∧ OwnRow w.heap.size w' v' fs ∧ Grew w w' := by
  have HV : Hid (RowAt w v fs) := hv
  obtain ⟨⟨a, c, rfl, hnone, hcells⟩, hbytes⟩ := hv
  have q22 : ∀ (w : World) (a : Option Addr) (n c n' c' : Nat), (binOp .eql 37 (.slice a n c) (.slice none n' c')).run Try.prog w = .ok (.bool a.isNone) w := fun w a n c n' c' => Lib.run_eql_slice_nil w _ _ a n c n' c' Try.underlying37
  cases a with
  | none =>
    have hps := hnone rfl
    subst hps
    clear hcells hnone hbytes HV
    go_enter Try.func34, Try.ntmps34
    go_wp2
    go_ret
    exact ⟨_, rfl, OwnRow.nil _ _, Grew.refl w⟩
  | some x =>
    have HB : Hid (fs.length * 40 ≤ 140737488355328) := hbytes
    clear hcells hnone hbytes
    go_enter Try.func34, Try.ntmps34
    go_wp2_with (at_builtin; refine wpList_append_row rfl (.tmp 5) (.tmp 6) rfl w.heap.size _ [] rfl (OwnRow.made w) _ fs rfl (HV.out.grew (grew_alloc _ _)) ?qb (by simp) ?_)
    case qb => rw [List.length_nil, Nat.zero_add]; exact HB.out
    intro v' w1 hown hgrow
    go_wp2
    go_ret
    exact ⟨v', rfl, by simpa using hown, ((Below.refl _ w).alloc (Nat.le_refl _) _).grown hgrow (by simp) (by intro k hk; simp [Value.ownBlock] at hk; omega)⟩

/-- A memory of the call's own. -/
def OwnMem (base : Nat) (w : World) (m : Value) (fs : List Fr) (h : Int) : Prop := ∃ b, m = .agg #[b, .int .i64 h] ∧ OwnRow base w b fs
theorem OwnMem.new {base : Nat} {w : World} {m : Value} {fs : List Fr} {h : Int} (k : OwnMem base w m fs h) : NewMem base w m fs h := by
  obtain ⟨b, h1, h2⟩ := k
  exact ⟨b, h1, h2.new⟩

theorem memEq : Try.prog.underlying 39 = some (.struct (Try.prog.fieldsOf 39)) := by kernel_rfl

set_option maxHeartbeats 1000000 in
theorem ownMem_any (a : Option Addr) (c : Nat) (fs : List Fr) (h : Int) (w : World) (hv : RowAt w (.slice a fs.length c) fs) :
    Calls Try.prog 14 #[.agg #[.slice a fs.length c, .int .i64 h]] w fun e w' => ∃ b, e = .returned (.agg #[b, .int .i64 h]) ∧ OwnRow w.heap.size w' b fs ∧ Grew w w' := by
  have HV : Hid (RowAt w (.slice a fs.length c) fs) := hv
  clear hv
  obtain ⟨n, HN⟩ : ∃ n, Hid (fs.length = n) := ⟨_, rfl⟩
  rw [HN.out] at HV ⊢
  go_enter Try.func14, Try.ntmps14
  go_wp2
  obtain ⟨W1, hW⟩ : ∃ W1, (w.alloc (.cells #[.slice a n c, .int .i64 h] 39)).alloc (.cells #[.slice none 0 0, .int .i64 0] 39) = W1 := ⟨_, rfl⟩
  have hg1 : Hid (Grew w W1) := show Grew w W1 by rw [← hW]; exact (grew_alloc _ _).trans (grew_alloc _ _)
  have hsz : Hid (W1.heap.size = w.heap.size + 2) := show W1.heap.size = _ by rw [← hW]; simp
  have X0 : Hid (Box W1 w.heap.size [.slice a n c, .int .i64 h]) := show Box _ _ _ by rw [← hW]; exact (Box.top w _ _ rfl).alloc _
  have X1 : Hid (Box W1 (w.heap.size + 1) [.slice none 0 0, .int .i64 0]) := show Box _ _ _ by rw [← hW]; exact Box.top _ _ _ (by simp)
  rw [hW]
  clear hW
  have hx0 : ∀ x : GrownW W1, x.world.cell? ⟨w.heap.size, 0, none⟩ = some (.slice a n c) := fun x => (X0.out.grew x.grew).c 0 rfl
  have hx1 : ∀ x : GrownW W1, x.world.cell? ⟨w.heap.size, 1, none⟩ = some (.int .i64 h) := fun x => (X0.out.grew x.grew).c 1 rfl
  have hne : Nonempty (GrownW W1) := ⟨⟨_, Grew.refl _⟩⟩
  refine wp_lax_tail 6 [(2, ⟨fun v => ∃ a n c, v = .slice a n c, fun v w' => OwnRow (w.heap.size + 2) w' v fs⟩)] mixed (by kernel_rfl) rfl rfl (by decide) ?_ ?_ ?_
  · intro x hx
    simp at hx
    subst hx
    exact ⟨_, none, 0, 0, rfl⟩
  · intro x hx
    simp at hx
    subst hx
    intro v w1 w2 hg h; exact h.grew hg
  simp only [List.take, List.drop]
  iterate 2 (refine lax_quiet rfl rfl rfl (fun K hK => ?_); go_big_quiet_op; refine hK _ ?_; clear hK K)
  refine lax_spec rfl rfl (fun w' hg hF => ?_) (fun v1 hv => ?_)
  · refine Does.call [.slice a n c] rfl Try.func34 rfl rfl rfl ?_
    refine (cloneFrames_any _ fs w' (HV.out.grew (hg1.out.trans hg))).mono ?_
    rintro e w'' ⟨v2, rfl, hb, hg2⟩
    obtain ⟨a2, c2, rfl⟩ := hb.form
    exact ⟨_, rfl, hg2, ⟨_, _, _, rfl⟩, hb.base (by have := Below.size hg; rw [hsz.out] at this; exact this)⟩
  obtain ⟨a1, n1, c1, rfl⟩ := hv
  simp only [Act.put, List.setIfInBounds_toArray, List.set_cons_succ, List.set_cons_zero]
  iterate 3 (refine lax_quiet rfl rfl rfl (fun K hK => ?_); go_big_quiet_op; refine hK _ ?_; clear hK K)
  refine lax_nil fun w' hg hF => ?_
  have ow1 : Hid (OwnRow (w.heap.size + 2) w' (.slice a1 n1 c1) fs) := hF 2
  have X2 := X1.out.grew hg
  have m2 := X2.c 0 rfl
  have m3 := X2.c 1 rfl
  have g2 := X2.f
  have HG : Hid (Grew w w') := hg1.out.trans hg
  clear hF hx0 hx1 hg hne X2
  go_wp2
  refine bodyPost_ret (v := .agg #[.slice a1 n1 c1, .int .i64 h]) (by simp [results, Try.results14, go_sem, *]) rfl ⟨_, rfl, ((ow1.out.setCell (by simp) _).setCell (by simp) _).base (by omega), ?_⟩
  exact Below.setCell (Below.setCell HG.out (p := ⟨w.heap.size + 1, 0, none⟩) (by simp) _) (p := ⟨w.heap.size + 1, 1, none⟩) (by simp) _

end Go.Proofs.Ytbcaagmnmaonbab
