/- Contract of alive (the laws of chapter 2): it answers true. -/
import Derived.Test.YtbcaagmnmaonbabWriteFull
import Derived.Test.YtbcaagmnmaonbabCrash
namespace Go.Proofs.Ytbcaagmnmaonbab
open Go.RowKit

def five8 : List Int := [5, 0, 0, 0, 0, 0, 0, 0]
theorem al1 : newErr 3 = 0 := by decide
theorem al2 : newD 3 = [zero8, zero8, zero8] := by decide
theorem al3 : wrongAtL [zero8, zero8, zero8].length [] 1 = 0 := by decide
theorem al4 : writeDP [zero8, zero8, zero8] [] 1 = [zero8, zero8, zero8] := by decide
theorem al5 : writeDQ [zero8, zero8, zero8] [] 1 five8 = [(1, five8)] := by decide
theorem al6 : wrongAtL [zero8, zero8, zero8].length [(1, five8)] 1 = 0 := by decide
theorem al7 : readL [zero8, zero8, zero8] [(1, five8)] 1 = five8 := by decide
theorem al8 : wrongL [zero8, zero8, zero8].length [(1, five8)] = 0 := by decide
theorem al9 : keepD (crashK 0) [zero8, zero8, zero8] [(1, five8)] = [zero8, zero8, zero8] := by decide
theorem al10 : readL [zero8, zero8, zero8] [] 1 = zero8 := by decide

/-- A disk of new memory, opened. -/
theorem NewDisk.open {base : Nat} {w : World} {d : Value} {ps : List (List Int)} {qs : List (Int × List Int)} (h : NewDisk base w d ps qs) : ∃ a c a' c', d = .agg #[.slice a ps.length c, .slice a' qs.length c'] ∧ NewDisk base w (.agg #[.slice a ps.length c, .slice a' qs.length c']) ps qs := by
  have h0 := h
  obtain ⟨b, q, rfl, hb, hq, _⟩ := h
  obtain ⟨a, c, rfl, _⟩ := hb.rows
  obtain ⟨a', c', rfl, _⟩ := hq.rows
  exact ⟨a, c, a', c', rfl, h0⟩

set_option maxRecDepth 100000 in
set_option maxHeartbeats 1000000 in
theorem aliveDisk_any (w : World) : Calls Try.prog 8 #[] w fun e w' => e = .returned (.bool true) ∧ Grew w w' := by
  have h1 := new_any 3 w
  rw [al1, al2] at h1
  go_enter Try.func8, Try.ntmps8
  go_wp2_with (first
    | (go_at_call 24; refine h1.mono ?_; rintro e W1 ⟨d1, rfl, nd1, g1⟩
       obtain ⟨xb, cb, xq, cq, rfl, nd1⟩ := nd1.open
       have N1 : Hid (NewDisk w.heap.size W1 (.agg #[.slice xb 3 cb, .slice xq 0 cq]) [zero8, zero8, zero8] []) := nd1
       have G1 : Hid (Grew w W1) := g1
       clear nd1 g1 h1)
    | (go_at_call 25
       have h2 := write_any (.agg #[.slice xb 3 cb, .slice xq 0 cq]) [zero8, zero8, zero8] [] 1 five8 rfl (W1.alloc (.cells #[.slice xb 3 cb, .slice xq 0 cq] 25)) (N1.out.at.grew (grew_alloc _ _))
       rw [al3, al4, al5] at h2
       refine h2.mono ?_
       rintro e W2 ⟨d2, rfl, nd2, g2⟩
       obtain ⟨yb, db, yq, dq, rfl, nd2⟩ := nd2.open
       have G2 : Hid (Grew (W1.alloc (.cells #[.slice xb 3 cb, .slice xq 0 cq] 25)) W2) := g2
       have B2 : Hid (Box W2 W1.heap.size [.slice xb 3 cb, .slice xq 0 cq]) := (Box.top W1 [.slice xb 3 cb, .slice xq 0 cq] _ rfl).grew g2
       have N2 : Hid (NewDisk (W1.alloc (.cells #[.slice xb 3 cb, .slice xq 0 cq] 25)).heap.size W2 (.agg #[.slice yb 3 db, .slice yq 1 dq]) [zero8, zero8, zero8] [(1, five8)]) := nd2
       have k0 := B2.out.c 0 rfl
       have k1 := B2.out.c 1 rfl
       have kf := B2.out.f
       clear h2 nd2 g2)
    | (go_at_call 10; clear k0 k1 kf
       have n3 := (N2.out.setCell (a := ⟨W1.heap.size, 0, none⟩) (by simp) (.slice yb 3 db)).setCell (a := ⟨W1.heap.size, 1, none⟩) (by simp) (.slice yq 1 dq)
       have h3 := read_any (.agg #[.slice yb 3 db, .slice yq 1 dq]) [zero8, zero8, zero8] [(1, five8)] 1 ((W2.setCell ⟨W1.heap.size, 0, none⟩ (.slice yb 3 db)).setCell ⟨W1.heap.size, 1, none⟩ (.slice yq 1 dq)) n3.at
       rw [al6, al7] at h3
       refine h3.mono ?_
       rintro e W3 ⟨rfl, g3⟩
       have b3 : Box W3 W1.heap.size [.slice yb 3 db, .slice yq 1 dq] := ((B2.out.set 0 (.slice yb 3 db)).set 1 (.slice yq 1 dq)).grew g3
       have B3 : Hid (Box W3 W1.heap.size [.slice yb 3 db, .slice yq 1 dq]) := b3
       have N3 : Hid (DiskAt W3 (.agg #[.slice yb 3 db, .slice yq 1 dq]) [zero8, zero8, zero8] [(1, five8)]) := n3.at.grew g3
       have G3 : Hid (Grew w W3) := (show Grew w _ from (grew_set (grew_set ((G1.out.trans (grew_alloc _ _)).trans G2.out) (Below.size G1.out) _) (Below.size G1.out) _)).trans g3
       have k0 := b3.c 0 rfl
       have k1 := b3.c 1 rfl
       have kl := b3.lt
       clear h3 n3 g3 b3 N2 B2 G2 N1
       simp only [pgc, five8, List.map_cons, List.map_nil])
    | (go_at_call 9; clear k0 k1 kl
       have h4 := crash_any (.agg #[.slice yb 3 db, .slice yq 1 dq]) [zero8, zero8, zero8] [(1, five8)] 0 (W3.alloc (.cells #[.int .u8 5, .int .u8 0, .int .u8 0, .int .u8 0, .int .u8 0, .int .u8 0, .int .u8 0, .int .u8 0] 31)) (N3.out.grew (grew_alloc _ _))
       rw [al8, al9] at h4
       refine h4.mono ?_
       rintro e W4 ⟨d4, rfl, nd4, g4⟩
       obtain ⟨zb, eb, zq, eq, rfl, nd4⟩ := nd4.open
       have N4 : Hid (NewDisk _ W4 (.agg #[.slice zb 3 eb, .slice zq 0 eq]) [zero8, zero8, zero8] []) := nd4
       have M4 : Hid (DiskAt W4 (.agg #[.slice yb 3 db, .slice yq 1 dq]) [zero8, zero8, zero8] [(1, five8)]) := (N3.out.grew (grew_alloc _ _)).grew g4
       have B4 : Hid (Box W4 W1.heap.size [.slice yb 3 db, .slice yq 1 dq]) := (B3.out.grew (grew_alloc _ _)).grew g4
       have A4 : Hid (Box W4 W3.heap.size [.int .u8 5, .int .u8 0, .int .u8 0, .int .u8 0, .int .u8 0, .int .u8 0, .int .u8 0, .int .u8 0]) := (Box.top W3 [.int .u8 5, .int .u8 0, .int .u8 0, .int .u8 0, .int .u8 0, .int .u8 0, .int .u8 0, .int .u8 0] _ rfl).grew g4
       have G4 : Hid (Grew w W4) := (G3.out.trans (grew_alloc _ _)).trans g4
       clear h4 g4 N3 B3 G3)
    | (go_at_call 10
       have h5 := read_any (.agg #[.slice zb 3 eb, .slice zq 0 eq]) [zero8, zero8, zero8] [] 1 (W4.alloc (.cells #[.slice zb 3 eb, .slice zq 0 eq] 25)) (N4.out.at.grew (grew_alloc _ _))
       rw [al3, al10] at h5
       refine h5.mono ?_
       rintro e W5 ⟨rfl, g5⟩
       have M5 : Hid (DiskAt W5 (.agg #[.slice yb 3 db, .slice yq 1 dq]) [zero8, zero8, zero8] [(1, five8)]) := (M4.out.grew (grew_alloc _ _)).grew g5
       have b5 := (B4.out.grew (grew_alloc _ (.cells #[.slice zb 3 eb, .slice zq 0 eq] 25))).grew g5
       have a5 := (A4.out.grew (grew_alloc _ (.cells #[.slice zb 3 eb, .slice zq 0 eq] 25))).grew g5
       have G5 : Hid (Grew w W5) := (G4.out.trans (grew_alloc _ _)).trans g5
       have k0 := b5.c 0 rfl
       have k1 := b5.c 1 rfl
       have kl := b5.lt
       have j0 := a5.c 0 rfl
       have jl := a5.lt
       clear h5 g5 N4 B4 G4 A4 M4 b5 a5
       simp only [pgc, zero8, List.map_cons, List.map_nil])
    | (go_at_call 26
       have h6 := wrong_any yb 3 db (.slice yq 1 dq) [(1, five8)] (W5.alloc (.cells #[.int .u8 0, .int .u8 0, .int .u8 0, .int .u8 0, .int .u8 0, .int .u8 0, .int .u8 0, .int .u8 0] 31)) (by obtain ⟨b, q, hbq, _, hq⟩ := M5.out.grew (grew_alloc W5 (.cells #[.int .u8 0, .int .u8 0, .int .u8 0, .int .u8 0, .int .u8 0, .int .u8 0, .int .u8 0, .int .u8 0] 31)); cases hbq; exact hq)
       rw [show wrongL 3 [(1, five8)] = 0 from al8] at h6
       refine h6.mono ?_
       rintro e W6 ⟨rfl, g6⟩))
  go_ret
  exact ⟨rfl, (G5.out.trans (grew_alloc _ _)).trans g6⟩

end Go.Proofs.Ytbcaagmnmaonbab
