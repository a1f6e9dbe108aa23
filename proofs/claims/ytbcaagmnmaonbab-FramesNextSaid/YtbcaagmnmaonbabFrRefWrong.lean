/- Contract of WrongFrame (the document's answer). -/
import Derived.Test.YtbcaagmnmaonbabFrWrong1
namespace Go.Proofs.Ytbcaagmnmaonbab
open Go.RowKit

set_option maxRecDepth 100000 in
set_option maxHeartbeats 1000000 in
theorem rw1 (b0 b1 b2 b3 b4 b5 b6 b7 r : Int) (u d : Bool) (f x : Int) (w : World) (_h : r < 0) :
    Calls Try.prog 33 #[.agg #[.int .u8 b0, .int .u8 b1, .int .u8 b2, .int .u8 b3, .int .u8 b4, .int .u8 b5, .int .u8 b6, .int .u8 b7, .int .i64 r, .bool u, .bool d, .int .i64 f, .int .i64 x]] w fun e w' => e = .returned (.int .i64 3) ∧ Grew w w' := by
  go_enter Try.func33, Try.ntmps33
  go_wp2
  go_ret
  exact ⟨rfl, (Below.refl _ _).alloc (Nat.le_refl _) _⟩

set_option maxRecDepth 100000 in
set_option maxHeartbeats 1000000 in
theorem rw2 (b0 b1 b2 b3 b4 b5 b6 b7 r : Int) (u d : Bool) (f x : Int) (w : World) (_h : ¬ r < 0) (_h2 : 1000 < r) :
    Calls Try.prog 33 #[.agg #[.int .u8 b0, .int .u8 b1, .int .u8 b2, .int .u8 b3, .int .u8 b4, .int .u8 b5, .int .u8 b6, .int .u8 b7, .int .i64 r, .bool u, .bool d, .int .i64 f, .int .i64 x]] w fun e w' => e = .returned (.int .i64 3) ∧ Grew w w' := by
  go_enter Try.func33, Try.ntmps33
  go_wp2
  go_ret
  exact ⟨rfl, (Below.refl _ _).alloc (Nat.le_refl _) _⟩

set_option maxRecDepth 100000 in
set_option maxHeartbeats 1000000 in
theorem rw3 (b0 b1 b2 b3 b4 b5 b6 b7 r : Int) (u d : Bool) (f x : Int) (w : World) (_h : ¬ r < 0) (_h2 : ¬ 1000 < r) (_h3 : f < -1) :
    Calls Try.prog 33 #[.agg #[.int .u8 b0, .int .u8 b1, .int .u8 b2, .int .u8 b3, .int .u8 b4, .int .u8 b5, .int .u8 b6, .int .u8 b7, .int .i64 r, .bool u, .bool d, .int .i64 f, .int .i64 x]] w fun e w' => e = .returned (.int .i64 3) ∧ Grew w w' := by
  go_enter Try.func33, Try.ntmps33
  go_wp2
  go_ret
  exact ⟨rfl, (Below.refl _ _).alloc (Nat.le_refl _) _⟩

set_option maxRecDepth 100000 in
set_option maxHeartbeats 1000000 in
theorem rw4 (b0 b1 b2 b3 b4 b5 b6 b7 r : Int) (u d : Bool) (f x : Int) (w : World) (_h : ¬ r < 0) (_h2 : ¬ 1000 < r) (_h3 : ¬ f < -1) (_h4 : 4 < f) :
    Calls Try.prog 33 #[.agg #[.int .u8 b0, .int .u8 b1, .int .u8 b2, .int .u8 b3, .int .u8 b4, .int .u8 b5, .int .u8 b6, .int .u8 b7, .int .i64 r, .bool u, .bool d, .int .i64 f, .int .i64 x]] w fun e w' => e = .returned (.int .i64 3) ∧ Grew w w' := by
  go_enter Try.func33, Try.ntmps33
  go_wp2
  go_ret
  exact ⟨rfl, (Below.refl _ _).alloc (Nat.le_refl _) _⟩

set_option maxRecDepth 100000 in
set_option maxHeartbeats 1000000 in
theorem rw5 (b0 b1 b2 b3 b4 b5 b6 b7 r : Int) (u d : Bool) (f x : Int) (w : World) (_h : ¬ r < 0) (_h2 : ¬ 1000 < r) (_h3 : ¬ f < -1) (_h4 : ¬ 4 < f) (_h5 : x < 0) :
    Calls Try.prog 33 #[.agg #[.int .u8 b0, .int .u8 b1, .int .u8 b2, .int .u8 b3, .int .u8 b4, .int .u8 b5, .int .u8 b6, .int .u8 b7, .int .i64 r, .bool u, .bool d, .int .i64 f, .int .i64 x]] w fun e w' => e = .returned (.int .i64 3) ∧ Grew w w' := by
  go_enter Try.func33, Try.ntmps33
  go_wp2
  go_ret
  exact ⟨rfl, (Below.refl _ _).alloc (Nat.le_refl _) _⟩

set_option maxRecDepth 100000 in
set_option maxHeartbeats 1000000 in
theorem rw6 (b0 b1 b2 b3 b4 b5 b6 b7 r : Int) (u d : Bool) (f x : Int) (w : World) (_h : ¬ r < 0) (_h2 : ¬ 1000 < r) (_h3 : ¬ f < -1) (_h4 : ¬ 4 < f) (_h5 : ¬ x < 0) (_h6 : 11 < x) :
    Calls Try.prog 33 #[.agg #[.int .u8 b0, .int .u8 b1, .int .u8 b2, .int .u8 b3, .int .u8 b4, .int .u8 b5, .int .u8 b6, .int .u8 b7, .int .i64 r, .bool u, .bool d, .int .i64 f, .int .i64 x]] w fun e w' => e = .returned (.int .i64 3) ∧ Grew w w' := by
  go_enter Try.func33, Try.ntmps33
  go_wp2
  go_ret
  exact ⟨rfl, (Below.refl _ _).alloc (Nat.le_refl _) _⟩

set_option maxRecDepth 100000 in
set_option maxHeartbeats 1000000 in
theorem rw7 (b0 b1 b2 b3 b4 b5 b6 b7 r : Int) (u d : Bool) (f x : Int) (w : World) (_h : ¬ r < 0) (_h2 : ¬ 1000 < r) (_h3 : ¬ f < -1) (_h4 : ¬ 4 < f) (_h5 : ¬ x < 0) (_h6 : ¬ 11 < x) (_h7 : (r == 0) = false) (_h8 : f < 0) (_h9 : 0 < x) :
    Calls Try.prog 33 #[.agg #[.int .u8 b0, .int .u8 b1, .int .u8 b2, .int .u8 b3, .int .u8 b4, .int .u8 b5, .int .u8 b6, .int .u8 b7, .int .i64 r, .bool u, .bool d, .int .i64 f, .int .i64 x]] w fun e w' => e = .returned (.int .i64 7) ∧ Grew w w' := by
  go_enter Try.func33, Try.ntmps33
  go_wp2
  go_ret
  exact ⟨rfl, (Below.refl _ _).alloc (Nat.le_refl _) _⟩

set_option maxRecDepth 100000 in
set_option maxHeartbeats 1000000 in
theorem rw8 (b0 b1 b2 b3 b4 b5 b6 b7 r : Int) (u d : Bool) (f x : Int) (w : World) (_h : ¬ r < 0) (_h2 : ¬ 1000 < r) (_h3 : ¬ f < -1) (_h4 : ¬ 4 < f) (_h5 : ¬ x < 0) (_h6 : ¬ 11 < x) (_h7 : (r == 0) = false) (_h8 : f < 0) (_h9 : ¬ 0 < x) :
    Calls Try.prog 33 #[.agg #[.int .u8 b0, .int .u8 b1, .int .u8 b2, .int .u8 b3, .int .u8 b4, .int .u8 b5, .int .u8 b6, .int .u8 b7, .int .i64 r, .bool u, .bool d, .int .i64 f, .int .i64 x]] w fun e w' => e = .returned (.int .i64 0) ∧ Grew w w' := by
  go_enter Try.func33, Try.ntmps33
  go_wp2
  go_ret
  exact ⟨rfl, (Below.refl _ _).alloc (Nat.le_refl _) _⟩

set_option maxRecDepth 100000 in
set_option maxHeartbeats 1000000 in
theorem rw9 (b0 b1 b2 b3 b4 b5 b6 b7 r : Int) (u d : Bool) (f x : Int) (w : World) (_h : ¬ r < 0) (_h2 : ¬ 1000 < r) (_h3 : ¬ f < -1) (_h4 : ¬ 4 < f) (_h5 : ¬ x < 0) (_h6 : ¬ 11 < x) (_h7 : (r == 0) = false) (_h8 : ¬ f < 0) :
    Calls Try.prog 33 #[.agg #[.int .u8 b0, .int .u8 b1, .int .u8 b2, .int .u8 b3, .int .u8 b4, .int .u8 b5, .int .u8 b6, .int .u8 b7, .int .i64 r, .bool u, .bool d, .int .i64 f, .int .i64 x]] w fun e w' => e = .returned (.int .i64 0) ∧ Grew w w' := by
  go_enter Try.func33, Try.ntmps33
  go_wp2
  go_ret
  exact ⟨rfl, (Below.refl _ _).alloc (Nat.le_refl _) _⟩

set_option maxRecDepth 100000 in
set_option maxHeartbeats 1000000 in
theorem rw10 (b0 b1 b2 b3 b4 b5 b6 b7 r : Int) (u d : Bool) (f x : Int) (w : World) (_h : ¬ r < 0) (_h2 : ¬ 1000 < r) (_h3 : ¬ f < -1) (_h4 : ¬ 4 < f) (_h5 : ¬ x < 0) (_h6 : ¬ 11 < x) (_h7 : (r == 0) = true) (hfr : frEqB (⟨⟨b0, b1, b2, b3, b4, b5, b6, b7⟩, r, u, d, f, x⟩ : Fr) frF = true) (_h8 : f < 0) (_h9 : ¬ 0 < x) :
    Calls Try.prog 33 #[.agg #[.int .u8 b0, .int .u8 b1, .int .u8 b2, .int .u8 b3, .int .u8 b4, .int .u8 b5, .int .u8 b6, .int .u8 b7, .int .i64 r, .bool u, .bool d, .int .i64 f, .int .i64 x]] w fun e w' => e = .returned (.int .i64 0) ∧ Grew w w' := by
  have hq := fun W => fr_eq b0 b1 b2 b3 b4 b5 b6 b7 r u d f x 0 0 0 0 0 0 0 0 0 false false (-1) 0 W
  simp only [show (⟨⟨0, 0, 0, 0, 0, 0, 0, 0⟩, 0, false, false, -1, 0⟩ : Fr) = frF from rfl, hfr] at hq
  clear hfr
  go_enter Try.func33, Try.ntmps33
  go_wp2
  go_ret
  exact ⟨rfl, (Below.refl _ _).alloc (Nat.le_refl _) _⟩

set_option maxRecDepth 100000 in
set_option maxHeartbeats 1000000 in
theorem rw11 (b0 b1 b2 b3 b4 b5 b6 b7 r : Int) (u d : Bool) (f x : Int) (w : World) (_h : ¬ r < 0) (_h2 : ¬ 1000 < r) (_h3 : ¬ f < -1) (_h4 : ¬ 4 < f) (_h5 : ¬ x < 0) (_h6 : ¬ 11 < x) (_h7 : (r == 0) = true) (hfr : frEqB (⟨⟨b0, b1, b2, b3, b4, b5, b6, b7⟩, r, u, d, f, x⟩ : Fr) frF = false) (_h8 : (f == -1) = false) :
    Calls Try.prog 33 #[.agg #[.int .u8 b0, .int .u8 b1, .int .u8 b2, .int .u8 b3, .int .u8 b4, .int .u8 b5, .int .u8 b6, .int .u8 b7, .int .i64 r, .bool u, .bool d, .int .i64 f, .int .i64 x]] w fun e w' => e = .returned (.int .i64 7) ∧ Grew w w' := by
  have hq := fun W => fr_eq b0 b1 b2 b3 b4 b5 b6 b7 r u d f x 0 0 0 0 0 0 0 0 0 false false (-1) 0 W
  simp only [show (⟨⟨0, 0, 0, 0, 0, 0, 0, 0⟩, 0, false, false, -1, 0⟩ : Fr) = frF from rfl, hfr] at hq
  clear hfr
  go_enter Try.func33, Try.ntmps33
  go_wp2
  go_ret
  exact ⟨rfl, (Below.refl _ _).alloc (Nat.le_refl _) _⟩

set_option maxRecDepth 100000 in
set_option maxHeartbeats 1000000 in
theorem rw12 (b0 b1 b2 b3 b4 b5 b6 b7 r : Int) (u d : Bool) (f x : Int) (w : World) (_h : ¬ r < 0) (_h2 : ¬ 1000 < r) (_h3 : ¬ f < -1) (_h4 : ¬ 4 < f) (_h5 : ¬ x < 0) (_h6 : ¬ 11 < x) (_h7 : (r == 0) = true) (hfr : frEqB (⟨⟨b0, b1, b2, b3, b4, b5, b6, b7⟩, r, u, d, f, x⟩ : Fr) frF = false) (_h8 : (f == -1) = true) (_h9 : ¬ 0 < x) :
    Calls Try.prog 33 #[.agg #[.int .u8 b0, .int .u8 b1, .int .u8 b2, .int .u8 b3, .int .u8 b4, .int .u8 b5, .int .u8 b6, .int .u8 b7, .int .i64 r, .bool u, .bool d, .int .i64 f, .int .i64 x]] w fun e w' => e = .returned (.int .i64 7) ∧ Grew w w' := by
  have hq := fun W => fr_eq b0 b1 b2 b3 b4 b5 b6 b7 r u d f x 0 0 0 0 0 0 0 0 0 false false (-1) 0 W
  simp only [show (⟨⟨0, 0, 0, 0, 0, 0, 0, 0⟩, 0, false, false, -1, 0⟩ : Fr) = frF from rfl, hfr] at hq
  clear hfr
  go_enter Try.func33, Try.ntmps33
  go_wp2
  go_ret
  exact ⟨rfl, (Below.refl _ _).alloc (Nat.le_refl _) _⟩

set_option maxRecDepth 100000 in
set_option maxHeartbeats 1000000 in
theorem rw13 (b0 b1 b2 b3 b4 b5 b6 b7 r : Int) (d : Bool) (f x : Int) (w : World) (_h : ¬ r < 0) (_h2 : ¬ 1000 < r) (_h3 : ¬ f < -1) (_h4 : ¬ 4 < f) (_h5 : ¬ x < 0) (_h6 : ¬ 11 < x) (_h7 : (r == 0) = true) (hfr : frEqB (⟨⟨b0, b1, b2, b3, b4, b5, b6, b7⟩, r, true, d, f, x⟩ : Fr) frF = false) (_h8 : (f == -1) = true) (_h9 : 0 < x)  :
    Calls Try.prog 33 #[.agg #[.int .u8 b0, .int .u8 b1, .int .u8 b2, .int .u8 b3, .int .u8 b4, .int .u8 b5, .int .u8 b6, .int .u8 b7, .int .i64 r, .bool true, .bool d, .int .i64 f, .int .i64 x]] w fun e w' => e = .returned (.int .i64 7) ∧ Grew w w' := by
  have hq := fun W => fr_eq b0 b1 b2 b3 b4 b5 b6 b7 r true d f x 0 0 0 0 0 0 0 0 0 false false (-1) 0 W
  simp only [show (⟨⟨0, 0, 0, 0, 0, 0, 0, 0⟩, 0, false, false, -1, 0⟩ : Fr) = frF from rfl, hfr] at hq
  clear hfr
  go_enter Try.func33, Try.ntmps33
  go_wp2
  go_ret
  exact ⟨rfl, (Below.refl _ _).alloc (Nat.le_refl _) _⟩

set_option maxRecDepth 100000 in
set_option maxHeartbeats 1000000 in
theorem rw14 (b0 b1 b2 b3 b4 b5 b6 b7 r : Int) (f x : Int) (w : World) (_h : ¬ r < 0) (_h2 : ¬ 1000 < r) (_h3 : ¬ f < -1) (_h4 : ¬ 4 < f) (_h5 : ¬ x < 0) (_h6 : ¬ 11 < x) (_h7 : (r == 0) = true) (hfr : frEqB (⟨⟨b0, b1, b2, b3, b4, b5, b6, b7⟩, r, false, true, f, x⟩ : Fr) frF = false) (_h8 : (f == -1) = true) (_h9 : 0 < x)  :
    Calls Try.prog 33 #[.agg #[.int .u8 b0, .int .u8 b1, .int .u8 b2, .int .u8 b3, .int .u8 b4, .int .u8 b5, .int .u8 b6, .int .u8 b7, .int .i64 r, .bool false, .bool true, .int .i64 f, .int .i64 x]] w fun e w' => e = .returned (.int .i64 7) ∧ Grew w w' := by
  have hq := fun W => fr_eq b0 b1 b2 b3 b4 b5 b6 b7 r false true f x 0 0 0 0 0 0 0 0 0 false false (-1) 0 W
  simp only [show (⟨⟨0, 0, 0, 0, 0, 0, 0, 0⟩, 0, false, false, -1, 0⟩ : Fr) = frF from rfl, hfr] at hq
  clear hfr
  go_enter Try.func33, Try.ntmps33
  go_wp2
  go_ret
  exact ⟨rfl, (Below.refl _ _).alloc (Nat.le_refl _) _⟩

set_option maxRecDepth 100000 in
set_option maxHeartbeats 1000000 in
theorem rw15 (b0 b1 b2 b3 b4 b5 b6 b7 r : Int) (f x : Int) (w : World) (_h : ¬ r < 0) (_h2 : ¬ 1000 < r) (_h3 : ¬ f < -1) (_h4 : ¬ 4 < f) (_h5 : ¬ x < 0) (_h6 : ¬ 11 < x) (_h7 : (r == 0) = true) (hfr : frEqB (⟨⟨b0, b1, b2, b3, b4, b5, b6, b7⟩, r, false, false, f, x⟩ : Fr) frF = false) (_h8 : (f == -1) = true) (_h9 : 0 < x) (hpp : pgEqB (⟨b0, b1, b2, b3, b4, b5, b6, b7⟩ : Pg) pg0 = false) :
    Calls Try.prog 33 #[.agg #[.int .u8 b0, .int .u8 b1, .int .u8 b2, .int .u8 b3, .int .u8 b4, .int .u8 b5, .int .u8 b6, .int .u8 b7, .int .i64 r, .bool false, .bool false, .int .i64 f, .int .i64 x]] w fun e w' => e = .returned (.int .i64 7) ∧ Grew w w' := by
  have hq := fun W => fr_eq b0 b1 b2 b3 b4 b5 b6 b7 r false false f x 0 0 0 0 0 0 0 0 0 false false (-1) 0 W
  simp only [show (⟨⟨0, 0, 0, 0, 0, 0, 0, 0⟩, 0, false, false, -1, 0⟩ : Fr) = frF from rfl, hfr] at hq
  clear hfr
  have hqp := fun W => page_eq_at 9998 b0 b1 b2 b3 b4 b5 b6 b7 0 0 0 0 0 0 0 0 W
  simp only [show (⟨0, 0, 0, 0, 0, 0, 0, 0⟩ : Pg) = pg0 from rfl, hpp] at hqp
  clear hpp
  go_enter Try.func33, Try.ntmps33
  go_wp2
  go_ret
  exact ⟨rfl, (Below.refl _ _).alloc (Nat.le_refl _) _⟩

set_option maxRecDepth 100000 in
set_option maxHeartbeats 1000000 in
theorem rw16 (b0 b1 b2 b3 b4 b5 b6 b7 r : Int) (f x : Int) (w : World) (_h : ¬ r < 0) (_h2 : ¬ 1000 < r) (_h3 : ¬ f < -1) (_h4 : ¬ 4 < f) (_h5 : ¬ x < 0) (_h6 : ¬ 11 < x) (_h7 : (r == 0) = true) (hfr : frEqB (⟨⟨b0, b1, b2, b3, b4, b5, b6, b7⟩, r, false, false, f, x⟩ : Fr) frF = false) (_h8 : (f == -1) = true) (_h9 : 0 < x) (_h10 : f < 0) (hpp : pgEqB (⟨b0, b1, b2, b3, b4, b5, b6, b7⟩ : Pg) pg0 = true) :
    Calls Try.prog 33 #[.agg #[.int .u8 b0, .int .u8 b1, .int .u8 b2, .int .u8 b3, .int .u8 b4, .int .u8 b5, .int .u8 b6, .int .u8 b7, .int .i64 r, .bool false, .bool false, .int .i64 f, .int .i64 x]] w fun e w' => e = .returned (.int .i64 7) ∧ Grew w w' := by
  have hq := fun W => fr_eq b0 b1 b2 b3 b4 b5 b6 b7 r false false f x 0 0 0 0 0 0 0 0 0 false false (-1) 0 W
  simp only [show (⟨⟨0, 0, 0, 0, 0, 0, 0, 0⟩, 0, false, false, -1, 0⟩ : Fr) = frF from rfl, hfr] at hq
  clear hfr
  have hqp := fun W => page_eq_at 9998 b0 b1 b2 b3 b4 b5 b6 b7 0 0 0 0 0 0 0 0 W
  simp only [show (⟨0, 0, 0, 0, 0, 0, 0, 0⟩ : Pg) = pg0 from rfl, hpp] at hqp
  clear hpp
  go_enter Try.func33, Try.ntmps33
  go_wp2
  go_ret
  exact ⟨rfl, (Below.refl _ _).alloc (Nat.le_refl _) _⟩

theorem refWrongFrame_any (a : Fr) (w : World) : Calls Try.prog 33 #[.agg (frv a).toArray] w fun e w' => e = .returned (.int .i64 (frW a)) ∧ Grew w w' := by
  obtain ⟨⟨b0, b1, b2, b3, b4, b5, b6, b7⟩, r, u, d, f, x⟩ := a
  show Calls Try.prog 33 #[.agg #[.int .u8 b0, .int .u8 b1, .int .u8 b2, .int .u8 b3, .int .u8 b4, .int .u8 b5, .int .u8 b6, .int .u8 b7, .int .i64 r, .bool u, .bool d, .int .i64 f, .int .i64 x]] w _
  by_cases h1 : r < 0
  · rw [show frW (⟨⟨b0, b1, b2, b3, b4, b5, b6, b7⟩, r, u, d, f, x⟩ : Fr) = 3 from by simp [frW, inB]; omega]; exact rw1 _ _ _ _ _ _ _ _ _ _ _ _ _ w h1
  by_cases h2 : 1000 < r
  · rw [show frW (⟨⟨b0, b1, b2, b3, b4, b5, b6, b7⟩, r, u, d, f, x⟩ : Fr) = 3 from by simp [frW, inB]; omega]; exact rw2 _ _ _ _ _ _ _ _ _ _ _ _ _ w h1 h2
  have hb1 : inB r 1001 = true := by simp [inB]; omega
  by_cases h5 : x < 0
  · have hb2 : inB x 12 = false := by simp [inB]; omega
    rw [show frW (⟨⟨b0, b1, b2, b3, b4, b5, b6, b7⟩, r, u, d, f, x⟩ : Fr) = 3 from by simp [frW, hb1, hb2]]
    by_cases h3 : f < -1
    · exact rw3 _ _ _ _ _ _ _ _ _ _ _ _ _ w h1 h2 h3
    by_cases h4 : 4 < f
    · exact rw4 _ _ _ _ _ _ _ _ _ _ _ _ _ w h1 h2 h3 h4
    exact rw5 _ _ _ _ _ _ _ _ _ _ _ _ _ w h1 h2 h3 h4 h5
  by_cases h6 : 11 < x
  · have hb2 : inB x 12 = false := by simp [inB]; omega
    rw [show frW (⟨⟨b0, b1, b2, b3, b4, b5, b6, b7⟩, r, u, d, f, x⟩ : Fr) = 3 from by simp [frW, hb1, hb2]]
    by_cases h3 : f < -1
    · exact rw3 _ _ _ _ _ _ _ _ _ _ _ _ _ w h1 h2 h3
    by_cases h4 : 4 < f
    · exact rw4 _ _ _ _ _ _ _ _ _ _ _ _ _ w h1 h2 h3 h4
    exact rw6 _ _ _ _ _ _ _ _ _ _ _ _ _ w h1 h2 h3 h4 h5 h6
  have hb2 : inB x 12 = true := by simp [inB]; omega
  by_cases h3 : f < -1
  · have hf : (f == -1) = false := by simp; omega
    have hb3 : inB f 5 = false := by simp [inB]; omega
    rw [show frW (⟨⟨b0, b1, b2, b3, b4, b5, b6, b7⟩, r, u, d, f, x⟩ : Fr) = 3 from by simp only [frW, hb1, hb2, hf, hb3]; rfl]
    exact rw3 _ _ _ _ _ _ _ _ _ _ _ _ _ w h1 h2 h3
  by_cases h4 : 4 < f
  · have hf : (f == -1) = false := by simp; omega
    have hb3 : inB f 5 = false := by simp [inB]; omega
    rw [show frW (⟨⟨b0, b1, b2, b3, b4, b5, b6, b7⟩, r, u, d, f, x⟩ : Fr) = 3 from by simp only [frW, hb1, hb2, hf, hb3]; rfl]
    exact rw4 _ _ _ _ _ _ _ _ _ _ _ _ _ w h1 h2 h3 h4
  by_cases h7 : r = 0
  · have hre : (r == 0) = true := by simp [h7]
    cases hfr : frEqB (⟨⟨b0, b1, b2, b3, b4, b5, b6, b7⟩, r, u, d, f, x⟩ : Fr) frF with
    | true =>
      have hh := frEqB_eq hfr
      simp only [frF, Fr.mk.injEq] at hh
      have hf : (f == -1) = true := by simp [hh.2.2.2.2.1]
      have hx : (x == 0) = true := by simp [hh.2.2.2.2.2]
      rw [show frW (⟨⟨b0, b1, b2, b3, b4, b5, b6, b7⟩, r, u, d, f, x⟩ : Fr) = 0 from by simp only [frW, hb1, hb2, hf, hre, hfr, hx]; rfl]
      exact rw10 _ _ _ _ _ _ _ _ _ _ _ _ _ w h1 h2 h3 h4 h5 h6 hre hfr (by omega) (by omega)
    | false =>
      by_cases hf : f = -1
      · have hfe : (f == -1) = true := by simp [hf]
        rw [show frW (⟨⟨b0, b1, b2, b3, b4, b5, b6, b7⟩, r, u, d, f, x⟩ : Fr) = 7 from by simp only [frW, hb1, hb2, hfe, hre, hfr]; rfl]
        by_cases h9 : 0 < x
        · cases u with
          | true => exact rw13 _ _ _ _ _ _ _ _ _ _ _ _ w h1 h2 h3 h4 h5 h6 hre hfr hfe h9
          | false =>
            cases d with
            | true => exact rw14 _ _ _ _ _ _ _ _ _ _ _ w h1 h2 h3 h4 h5 h6 hre hfr hfe h9
            | false =>
              cases hpp : pgEqB (⟨b0, b1, b2, b3, b4, b5, b6, b7⟩ : Pg) pg0 with
              | true => exact rw16 _ _ _ _ _ _ _ _ _ _ _ w h1 h2 h3 h4 h5 h6 hre hfr hfe h9 (by omega) hpp
              | false => exact rw15 _ _ _ _ _ _ _ _ _ _ _ w h1 h2 h3 h4 h5 h6 hre hfr hfe h9 hpp
        · exact rw12 _ _ _ _ _ _ _ _ _ _ _ _ _ w h1 h2 h3 h4 h5 h6 hre hfr hfe h9
      · have hfe : (f == -1) = false := by simp [hf]
        have hb3 : inB f 5 = true := by simp [inB]; omega
        rw [show frW (⟨⟨b0, b1, b2, b3, b4, b5, b6, b7⟩, r, u, d, f, x⟩ : Fr) = 7 from by simp only [frW, hb1, hb2, hfe, hb3, hre, hfr]; rfl]
        exact rw11 _ _ _ _ _ _ _ _ _ _ _ _ _ w h1 h2 h3 h4 h5 h6 hre hfr hfe
  · have hre : (r == 0) = false := by simp [h7]
    by_cases hf : f = -1
    · have hfe : (f == -1) = true := by simp [hf]
      by_cases h9 : 0 < x
      · have hx : (x == 0) = false := by simp; omega
        rw [show frW (⟨⟨b0, b1, b2, b3, b4, b5, b6, b7⟩, r, u, d, f, x⟩ : Fr) = 7 from by simp only [frW, hb1, hb2, hfe, hre, hx]; rfl]
        exact rw7 _ _ _ _ _ _ _ _ _ _ _ _ _ w h1 h2 h3 h4 h5 h6 hre (by omega) h9
      · have hx : (x == 0) = true := by simp; omega
        rw [show frW (⟨⟨b0, b1, b2, b3, b4, b5, b6, b7⟩, r, u, d, f, x⟩ : Fr) = 0 from by simp only [frW, hb1, hb2, hfe, hre, hx]; rfl]
        exact rw8 _ _ _ _ _ _ _ _ _ _ _ _ _ w h1 h2 h3 h4 h5 h6 hre (by omega) h9
    · have hfe : (f == -1) = false := by simp [hf]
      have hb3 : inB f 5 = true := by simp [inB]; omega
      rw [show frW (⟨⟨b0, b1, b2, b3, b4, b5, b6, b7⟩, r, u, d, f, x⟩ : Fr) = 0 from by simp only [frW, hb1, hb2, hfe, hb3, hre]; rfl]
      exact rw9 _ _ _ _ _ _ _ _ _ _ _ _ _ w h1 h2 h3 h4 h5 h6 hre (by omega)

end Go.Proofs.Ytbcaagmnmaonbab
