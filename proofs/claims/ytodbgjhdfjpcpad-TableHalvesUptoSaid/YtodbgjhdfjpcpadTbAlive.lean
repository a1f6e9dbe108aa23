/- Contract of alive: the closed fact that the laws of chapter 6 ask first. -/
import Derived.Test.YtodbgjhdfjpcpadTbSet
import Derived.Test.YtodbgjhdfjpcpadTbPages
import Derived.Test.YtodbgjhdfjpcpadTbGuard
namespace Go.Proofs.Ytodbgjhdfjpcpad
open Go.RowKit

theorem field_n (k n : Int) (b : Bool) (w : World) : (Instr.field 28 (.agg #[.int .i64 k, .int .i64 n, .bool b]) 1).run Try.prog w = .ok (.int .i64 n) w := by
  simp only [Instr.field, Sem.run_bind, run_underlying Try.underlying28, Result.andThen_ok, asAgg]
  exact run_part_plain w (by simp [Program.plainKey, Try.underlying3]) rfl
theorem field_w (k n : Int) (b : Bool) (w : World) : (Instr.field 28 (.agg #[.int .i64 k, .int .i64 n, .bool b]) 2).run Try.prog w = .ok (.bool b) w := by
  simp only [Instr.field, Sem.run_bind, run_underlying Try.underlying28, Result.andThen_ok, asAgg]
  exact run_part_plain w (by simp [Program.plainKey, Try.underlying4]) rfl

def T1 : List (List En) := [[], [en0, ⟨1, 3, true⟩, en0, en0, en0, en0, en0, en0], [], [], [], [], [], []]
def T2 : List (List En) := [[], [en0, ⟨1, 3, false⟩, en0, en0, en0, en0, en0, en0], [], [], [], [], [], []]
set_option maxRecDepth 100000 in
theorem al_pure : setE none8 9 ⟨1, 3, true⟩ = 0 ∧ setR none8 9 ⟨1, 3, true⟩ = T1 ∧ getT T1 9 = ⟨1, 3, true⟩ ∧ (pagesTo T1 allB 64).length = 1 ∧ (pagesTo T1 (fitB 1 3) 64).length = 1 ∧ guardT T1 = T2 ∧ getT T2 9 = ⟨1, 3, false⟩ ∧ tbW T1 = 0 :=
  ⟨rfl, rfl, rfl, rfl, rfl, rfl, rfl, rfl⟩

set_option maxRecDepth 100000 in
set_option maxHeartbeats 2000000 in
theorem aliveTb_any (w : World) : Calls Try.prog 4 #[] w fun e w' => e = .returned (.bool true) ∧ Grew w w' := by
  obtain ⟨a1, a2, a3, a4, a5, a6, a7, a8⟩ := al_pure
  have hset : ∀ W, Calls Try.prog 5 #[.agg #[.slice none 0 0, .slice none 0 0, .slice none 0 0, .slice none 0 0, .slice none 0 0, .slice none 0 0, .slice none 0 0, .slice none 0 0], .int .i64 9, .agg #[.int .i64 1, .int .i64 3, .bool true]] W fun e w' => ∃ us, e = .returned (.tuple #[.agg us.toArray, .int .i64 0]) ∧ TabS 0 W.heap.size w' us T1 ∧ Grew W w' := fun W => by
    have := setTb_any nil8 none8 9 ⟨1, 3, true⟩ W (TabS.nil 0 0 W)
    rw [a1, a2] at this
    exact this
  have hget : ∀ us W, TabAt W us T1 → Calls Try.prog 7 #[.agg us.toArray, .int .i64 9] W fun e w' => e = .returned (.agg #[.int .i64 1, .int .i64 3, .bool true]) ∧ Grew W w' := fun us W hv => by
    have := getTb_any us T1 9 W hv
    rw [a3] at this
    exact this
  have hge2 : ∀ us W, TabAt W us T2 → Calls Try.prog 7 #[.agg us.toArray, .int .i64 9] W fun e w' => e = .returned (.agg #[.int .i64 1, .int .i64 3, .bool false]) ∧ Grew W w' := fun us W hv => by
    have := getTb_any us T2 9 W hv
    rw [a7] at this
    exact this
  have hpag : ∀ us W, TabAt W us T1 → Calls Try.prog 6 #[.agg us.toArray] W fun e w' => ∃ a c, e = .returned (.slice a 1 c) ∧ Grew W w' := fun us W hv => (pagesTb_any us T1 W hv).mono (by
    rintro e w' ⟨v, rfl, ow, g⟩
    obtain ⟨a, c, rfl⟩ := ow.form
    rw [a4]
    exact ⟨a, c, rfl, g⟩)
  have hfin : ∀ us W, TabAt W us T1 → Calls Try.prog 8 #[.agg us.toArray, .int .i64 1, .int .i64 3] W fun e w' => ∃ a c, e = .returned (.slice a 1 c) ∧ Grew W w' := fun us W hv => (findTb_any us T1 1 3 W hv).mono (by
    rintro e w' ⟨v, rfl, ow, g⟩
    obtain ⟨a, c, rfl⟩ := ow.form
    rw [a5]
    exact ⟨a, c, rfl, g⟩)
  have hgua : ∀ us W, TabAt W us T1 → Calls Try.prog 9 #[.agg us.toArray] W fun e w' => ∃ ys, e = .returned (.agg ys.toArray) ∧ TabS 0 W.heap.size w' ys T2 ∧ Grew W w' := fun us W hv => by
    have := guardTb_any us T1 W hv
    rw [a6] at this
    exact this
  have hwro : ∀ us W, TabAt W us T1 → Calls Try.prog 10 #[.agg us.toArray] W fun e w' => e = .returned (.int .i64 0) ∧ Grew W w' := fun us W hv => by
    have := wrongTb_any us T1 W hv
    rw [a8] at this
    exact this
  clear a1 a2 a3 a4 a5 a6 a7 a8
  have fn := field_n
  have fw := field_w
  generalize T1 = T1 at *
  generalize T2 = T2 at *
  go_enter Try.func4, Try.ntmps4
  go_wp2_with fail
  refine (hset _).mono ?_
  rintro e W1 ⟨us, rfl, ts, g1⟩
  have G1 : Hid (Grew w W1) := g1
  have TS : Hid (TabAt W1 us T1) := ts.now
  clear ts g1 hset
  obtain ⟨p, HP⟩ : ∃ p, Hid (W1.heap.size = p) := ⟨_, rfl⟩
  go_wp2_with (refine wp_storeAll rfl 26 (.tmp 1) (.tmp 7) rfl W1.heap.size rfl us rfl (Box.top W1 nil8 26 rfl) TS.out.len Try.sizeTable TS.out.one ?_)
  intro W2 b2 g2 s2
  rw [HP.out] at b2 g2 ⊢
  have G12 : Hid (Grew W1 W2) := show Grew _ _ from grew_grown (grew_alloc W1 _) g2 (by rw [HP.out]; exact Nat.le_refl _)
  obtain ⟨v0, v1, v2, v3, v4, v5, v6, v7, rfl⟩ := eight TS.out.len
  have G2 : Hid (Grew w W2) := G1.out.trans G12.out
  have P2 : Hid (Box W2 p [v0, v1, v2, v3, v4, v5, v6, v7]) := b2
  have T2' : Hid (TabAt W2 [v0, v1, v2, v3, v4, v5, v6, v7] T1) := TS.out.grew G12.out
  clear b2 g2 s2
  have b0 := P2.out.c 0 rfl
  have b1 := P2.out.c 1 rfl
  have b2 := P2.out.c 2 rfl
  have b3 := P2.out.c 3 rfl
  have b4 := P2.out.c 4 rfl
  have b5 := P2.out.c 5 rfl
  have b6 := P2.out.c 6 rfl
  have b7 := P2.out.c 7 rfl
  go_wp2_with fail
  refine (hget _ _ T2'.out).mono ?_
  rintro e W3 ⟨rfl, g3⟩
  have G3 : Hid (Grew w W3) := G2.out.trans g3
  have P3 : Hid (Box W3 p [v0, v1, v2, v3, v4, v5, v6, v7]) := P2.out.grew g3
  have T3 : Hid (TabAt W3 [v0, v1, v2, v3, v4, v5, v6, v7] T1) := T2'.out.grew g3
  clear g3 b0 b1 b2 b3 b4 b5 b6 b7
  have b0 := P3.out.c 0 rfl
  have b1 := P3.out.c 1 rfl
  have b2 := P3.out.c 2 rfl
  have b3 := P3.out.c 3 rfl
  have b4 := P3.out.c 4 rfl
  have b5 := P3.out.c 5 rfl
  have b6 := P3.out.c 6 rfl
  have b7 := P3.out.c 7 rfl
  go_wp2_with fail
  refine (hpag _ _ T3.out).mono ?_
  rintro e W4 ⟨pa, pc, rfl, g4⟩
  have G4 : Hid (Grew w W4) := G3.out.trans g4
  have P4 : Hid (Box W4 p [v0, v1, v2, v3, v4, v5, v6, v7]) := P3.out.grew g4
  have T4 : Hid (TabAt W4 [v0, v1, v2, v3, v4, v5, v6, v7] T1) := T3.out.grew g4
  clear g4 b0 b1 b2 b3 b4 b5 b6 b7
  have b0 := P4.out.c 0 rfl
  have b1 := P4.out.c 1 rfl
  have b2 := P4.out.c 2 rfl
  have b3 := P4.out.c 3 rfl
  have b4 := P4.out.c 4 rfl
  have b5 := P4.out.c 5 rfl
  have b6 := P4.out.c 6 rfl
  have b7 := P4.out.c 7 rfl
  go_wp2_with fail
  refine (hfin _ _ T4.out).mono ?_
  rintro e W5 ⟨fa, fc, rfl, g5⟩
  have G5 : Hid (Grew w W5) := G4.out.trans g5
  have P5 : Hid (Box W5 p [v0, v1, v2, v3, v4, v5, v6, v7]) := P4.out.grew g5
  have T5 : Hid (TabAt W5 [v0, v1, v2, v3, v4, v5, v6, v7] T1) := T4.out.grew g5
  clear g5 b0 b1 b2 b3 b4 b5 b6 b7
  have b0 := P5.out.c 0 rfl
  have b1 := P5.out.c 1 rfl
  have b2 := P5.out.c 2 rfl
  have b3 := P5.out.c 3 rfl
  have b4 := P5.out.c 4 rfl
  have b5 := P5.out.c 5 rfl
  have b6 := P5.out.c 6 rfl
  have b7 := P5.out.c 7 rfl
  go_wp2_with fail
  refine (hgua _ _ T5.out).mono ?_
  rintro e W6 ⟨ys, rfl, ty, g6⟩
  have G6 : Hid (Grew w W6) := G5.out.trans g6
  have P6 : Hid (Box W6 p [v0, v1, v2, v3, v4, v5, v6, v7]) := P5.out.grew g6
  have T6 : Hid (TabAt W6 [v0, v1, v2, v3, v4, v5, v6, v7] T1) := T5.out.grew g6
  have TY6 : Hid (TabAt W6 ys T2) := ty.now
  clear ty
  clear g6 b0 b1 b2 b3 b4 b5 b6 b7
  have b0 := P6.out.c 0 rfl
  have b1 := P6.out.c 1 rfl
  have b2 := P6.out.c 2 rfl
  have b3 := P6.out.c 3 rfl
  have b4 := P6.out.c 4 rfl
  have b5 := P6.out.c 5 rfl
  have b6 := P6.out.c 6 rfl
  have b7 := P6.out.c 7 rfl
  go_wp2_with fail
  refine (hge2 _ _ TY6.out).mono ?_
  rintro e W7 ⟨rfl, g7⟩
  have G7 : Hid (Grew w W7) := G6.out.trans g7
  have P7 : Hid (Box W7 p [v0, v1, v2, v3, v4, v5, v6, v7]) := P6.out.grew g7
  have T7 : Hid (TabAt W7 [v0, v1, v2, v3, v4, v5, v6, v7] T1) := T6.out.grew g7
  clear g7 b0 b1 b2 b3 b4 b5 b6 b7
  have b0 := P7.out.c 0 rfl
  have b1 := P7.out.c 1 rfl
  have b2 := P7.out.c 2 rfl
  have b3 := P7.out.c 3 rfl
  have b4 := P7.out.c 4 rfl
  have b5 := P7.out.c 5 rfl
  have b6 := P7.out.c 6 rfl
  have b7 := P7.out.c 7 rfl
  go_wp2_with fail
  refine (hwro _ _ T7.out).mono ?_
  rintro e W8 ⟨rfl, g8⟩
  have G8 : Hid (Grew w W8) := G7.out.trans g8
  have P8 : Hid (Box W8 p [v0, v1, v2, v3, v4, v5, v6, v7]) := P7.out.grew g8
  have T8 : Hid (TabAt W8 [v0, v1, v2, v3, v4, v5, v6, v7] T1) := T7.out.grew g8
  clear g8 b0 b1 b2 b3 b4 b5 b6 b7
  have b0 := P8.out.c 0 rfl
  have b1 := P8.out.c 1 rfl
  have b2 := P8.out.c 2 rfl
  have b3 := P8.out.c 3 rfl
  have b4 := P8.out.c 4 rfl
  have b5 := P8.out.c 5 rfl
  have b6 := P8.out.c 6 rfl
  have b7 := P8.out.c 7 rfl
  go_wp2
  go_ret
  exact ⟨rfl, G8.out⟩

end Go.Proofs.Ytodbgjhdfjpcpad
