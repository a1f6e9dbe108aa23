/- Contract of WithFile (the document's answer). -/
import Derived.Test.YtagpmjgmohfmjacStKeep
import Derived.Test.YtagpmjgmohfmjacStDeep
namespace Go.Proofs.Ytagpmjgmohfmjac
open Go.RowKit

set_option maxRecDepth 100000 in
set_option maxHeartbeats 1000000 in
theorem withFile_any (v : Value) (fs : List Fl) (cnt : Int) (i : Nat) (fz : Int) (fa : Option Addr) (fc : Nat) (fb : List Int) (D : Nat → Prop) (w : World) (hv : FilesD D w v fs) (hf : RowD blE D w (.slice fa fb.length fc) fb) (hi : i < fs.length) (hB : ∀ k, D k → k < w.heap.size) (h5 : fs.length ≤ 5) :
    Calls Try.prog 41 #[.agg #[v, .int .i64 cnt], .int .i64 (i : Int), .agg #[.int .i64 fz, .slice fa fb.length fc]] w fun e w' => ∃ b, e = .returned (.agg #[b, .int .i64 cnt]) ∧ FilesD D w' b (fs.set i ⟨fz, fb⟩) ∧ Grew w w' := by
  obtain ⟨_, xs, k1, k2, k3⟩ := hv
  have HX : Hid (RowAt fvE w v xs) := k1.now
  have HK : Hid (∀ (i : Nat) x f, xs[i]? = some x → fs[i]? = some f → x.size = f.size ∧ RowD blE D w (.slice x.a x.n x.c) f.bl) := k3
  have HF : Hid (RowD blE D w (.slice fa fb.length fc) fb) := hf
  have HL : Hid (xs.length = fs.length) := k2
  obtain ⟨a, c, rfl, _⟩ := k1.now.rows
  obtain ⟨nF, HN⟩ : ∃ nF, Hid (fs.length = nF) := ⟨_, rfl⟩
  rw [k2, HN.out] at HX ⊢
  rw [HN.out] at hi h5
  have hiz : (i : Int) < (nF : Int) := by omega
  have HB : Hid (∀ k, D k → k < w.heap.size) := hB
  clear k1 k2 k3 hf hB
  obtain ⟨nb, HNB⟩ : ∃ nb, Hid (fb.length = nb) := ⟨_, rfl⟩
  rw [HNB.out] at HF ⊢
  obtain ⟨W0, hW0⟩ : ∃ W0, ((w.alloc (.cells #[.slice a nF c, .int .i64 cnt] 36)).alloc (.cells #[.int .i64 fz, .slice fa nb fc] 50)).alloc (.cells #[.slice none 0 0, .int .i64 0] 36) = W0 := ⟨_, rfl⟩
  have HG0 : Hid (Grew w W0) := show Grew w W0 by rw [← hW0]; exact ((grew_alloc _ _).trans (grew_alloc _ _)).trans (grew_alloc _ _)
  have X0 : Hid (Box W0 w.heap.size [.slice a nF c, .int .i64 cnt]) := show Box _ _ _ by rw [← hW0]; exact ((Box.top w _ _ rfl).alloc _).alloc _
  have P0 : Hid (Box W0 (w.heap.size + 1) [.int .i64 fz, .slice fa nb fc]) := show Box _ _ _ by rw [← hW0]; exact (Box.top _ _ _ (by simp)).alloc _
  have Y0 : Hid (Box W0 (w.heap.size + 2) [.slice none 0 0, .int .i64 0]) := show Box _ _ _ by rw [← hW0]; exact Box.top _ _ _ (by simp)
  have HS0 : Hid (W0.heap.size = w.heap.size + 3) := show _ = _ by rw [← hW0]; simp
  have HW0 : Hid (_ = W0) := hW0
  clear hW0
  go_enter Try.func41, Try.ntmps41
  go_upto_region 1 with fail
  rw [HW0.out]
  have x0 := X0.out.c 0 rfl
  have x0a : ∀ o : Obj, (W0.alloc o).cell? ⟨w.heap.size, 0, none⟩ = some (.slice a nF c) := fun o => (X0.out.alloc o).c 0 rfl
  go_wp2_with (at_builtin; refine wpList_append_row (E := fvE) rfl (.tmp 8) (.tmp 10) rfl W0.heap.size _ [] rfl (OwnRow.made fvE W0) _ xs rfl (HX.out.grew (HG0.out.trans (grew_alloc _ _))) ?qb (by simp) ?_)
  case qb =>
    rw [List.length_nil, Nat.zero_add, HL.out, HN.out]
    show nF * 32 ≤ _
    omega
  intro v1 W1 ow1 gr1
  try rw [List.nil_append] at ow1
  obtain ⟨G, bc, rfl⟩ := ow1.formS (by rw [HL.out, HN.out]; omega)
  rw [HL.out, HN.out] at ow1 ⊢
  have O1 : Hid (OwnRow fvE W0.heap.size W1 (.slice (some ⟨G, 0, none⟩) nF bc) xs) := ow1
  have G01 : Hid (Grew W0 W1) := show Grew _ _ from grew_beside (grew_alloc _ _) gr1 (fun g hg => by simp [Value.ownBlock] at hg; omega)
  clear ow1 gr1 x0 x0a
  have x1 := (X0.out.grew G01.out).c 1 rfl
  have p0 := (P0.out.grew G01.out).c 0 rfl
  have p1 := (P0.out.grew G01.out).c 1 rfl
  go_wp2_with (refine wpList_store_elt (E := fvE) rfl (.tmp 15) (.tmp 14) rfl W0.heap.size _ xs O1.out G i rfl ⟨fz, fa, nb, fc⟩ ?t1 ⟨G, i * 2, none⟩ rfl rfl (.agg #[.int .i64 fz, .slice fa nb fc]) rfl rfl ?_)
  case t1 => rw [HL.out, HN.out]; exact hi
  intro W2 ow2 gr2 _
  have hGb : W0.heap.size ≤ G := (O1.out.lt G rfl).1
  have O2 : Hid (OwnRow fvE W0.heap.size W2 (.slice (some ⟨G, 0, none⟩) nF bc) (xs.set i ⟨fz, fa, nb, fc⟩)) := ow2
  have G02 : Hid (Grew W0 W2) := show Grew _ _ from grew_grown G01.out gr2 hGb
  clear ow2 gr2 x1 p0 p1
  have x1 := (X0.out.grew G02.out).c 1 rfl
  have Y2 := Y0.out.grew G02.out
  have y0 := Y2.c 0 rfl
  have y1 := Y2.c 1 rfl
  have yf := Y2.f
  have HG : Hid (Grew w W2) := HG0.out.trans G02.out
  clear Y2
  go_wp2
  have HGE : Grew w ((W2.setCell ⟨w.heap.size + 2, 0, none⟩ (.slice (some ⟨G, 0, none⟩) nF bc)).setCell ⟨w.heap.size + 2, 1, none⟩ (.int .i64 cnt)) := Below.setCell (Below.setCell HG.out (p := ⟨w.heap.size + 2, 0, none⟩) (by simp) _) (p := ⟨w.heap.size + 2, 1, none⟩) (by simp) _
  refine bodyPost_ret (v := .agg #[.slice (some ⟨G, 0, none⟩) nF bc, .int .i64 cnt]) (by simp [results, Try.results41, go_sem, *]) rfl ⟨_, rfl, ?_, HGE⟩
  have O3 := (O2.out.setCell (a := ⟨w.heap.size + 2, 0, none⟩) (by have := HS0.out; simp; omega) (.slice (some ⟨G, 0, none⟩) nF bc)).setCell (a := ⟨w.heap.size + 2, 1, none⟩) (by have := HS0.out; simp; omega) (.int .i64 cnt)
  refine ⟨O3.cap, _, O3.new.staysD (fun k hk => by have := HS0.out; have := HB.out k hk; omega), by simp [HL.out], fun j x f' hx hf' => ?_⟩
  by_cases e : j = i
  · subst e
    rw [List.getElem?_set_self (by rw [HL.out, HN.out]; exact hi)] at hx
    rw [List.getElem?_set_self (by rw [HN.out]; exact hi)] at hf'
    cases hx
    cases hf'
    exact ⟨rfl, HF.out.out (OutD.grew HGE)⟩
  · rw [List.getElem?_set_ne (fun h => e h.symm)] at hx hf'
    obtain ⟨q1, q2⟩ := HK.out j x f' hx hf'
    exact ⟨q1, q2.out (OutD.grew HGE)⟩

end Go.Proofs.Ytagpmjgmohfmjac
