/- When areas, pages and faults are the same. No condition: laws of the model. -/
import Derived.Test.YtlkgmjdhggfimadArData
import Derived.ChangeKeysEq
namespace Go.Proofs.Ytlkgmjdhggfimad
open Go.RowKit

def arEqB (a b : Ar) : Bool := (a.fr == b.fr) && (a.to == b.to) && (a.rd == b.rd) && (a.wr == b.wr) && (a.sh == b.sh) && (a.file == b.file) && (a.base == b.base)
theorem arEqB_self (a : Ar) : arEqB a a = true := by simp [arEqB]
theorem arEqB_iff {a b : Ar} : arEqB a b = true ↔ a = b := by
  constructor
  · intro h
    unfold arEqB at h
    simp only [Bool.and_eq_true, beq_iff_eq] at h
    obtain ⟨_, _, _, _, _, _, _⟩ := a
    obtain ⟨_, _, _, _, _, _, _⟩ := b
    simp only at h
    simp only [Ar.mk.injEq]
    simpa [and_assoc] using h
  · rintro rfl
    exact arEqB_self a

set_option maxHeartbeats 2000000 in
theorem ar_eq (x0 y0 : Int) (x1 y1 : Int) (x2 y2 : Bool) (x3 y3 : Bool) (x4 y4 : Bool) (x5 y5 : Int) (x6 y6 : Int) (w : World) : (Op.equalIn 10000 37 (.agg #[.int .i64 x0, .int .i64 x1, .bool x2, .bool x3, .bool x4, .int .i64 x5, .int .i64 x6]) (.agg #[.int .i64 y0, .int .i64 y1, .bool y2, .bool y3, .bool y4, .int .i64 y5, .int .i64 y6])).run Try.prog w = .ok (arEqB ⟨x0, x1, x2, x3, x4, x5, x6⟩ ⟨y0, y1, y2, y3, y4, y5, y6⟩) w := by
  have hf : (Try.prog.fieldsOf 37).toList.map (fun f => (f.name, f.type, f.offset)) = [("From", 3, 0), ("To", 3, 1), ("Read", 4, 2), ("Write", 4, 3), ("Shared", 4, 4), ("File", 3, 5), ("Base", 3, 6)] := by kernel_rfl
  rw [run_equalIn_struct w 9999 37 _ _ (by kernel_rfl) (by kernel_rfl)]
  obtain ⟨f0, f1, f2, f3, f4, f5, f6, hfs⟩ : ∃ f0 f1 f2 f3 f4 f5 f6, (Try.prog.fieldsOf 37).toList = [f0, f1, f2, f3, f4, f5, f6] := by
    have hl : (Try.prog.fieldsOf 37).toList.length = 7 := by have := congrArg List.length hf; simpa using this
    match hq : (Try.prog.fieldsOf 37).toList, hl with
    | [f0, f1, f2, f3, f4, f5, f6], _ => exact ⟨f0, f1, f2, f3, f4, f5, f6, rfl⟩
  rw [hfs] at hf ⊢
  simp at hf
  obtain ⟨⟨n0, t0, o0⟩, ⟨n1, t1, o1⟩, ⟨n2, t2, o2⟩, ⟨n3, t3, o3⟩, ⟨n4, t4, o4⟩, ⟨n5, t5, o5⟩, ⟨n6, t6, o6⟩⟩ := hf
  have pI : ∀ (zs : Array Value) (o : Nat) v, zs[o]? = some (.int .i64 v) → (part 3 zs o).run Try.prog w = .ok (.int .i64 v) w := fun zs o v hz => run_part_plain w (by simp [Program.plainKey, Try.underlying3]) hz
  have pB : ∀ (zs : Array Value) (o : Nat) v, zs[o]? = some (.bool v) → (part 4 zs o).run Try.prog w = .ok (.bool v) w := fun zs o v hz => run_part_plain w (by simp [Program.plainKey, Try.underlying4]) hz
  simp only [Op.eqFields, n0, t0, o0, n1, t1, o1, n2, t2, o2, n3, t3, o3, n4, t4, o4, n5, t5, o5, n6, t6, o6]
  simp [pI, pB, run_equalIn_bool' w _ _ _ _ Try.underlying4, run_equalIn_int w _ _ _ _ _ _ Try.underlying3]
  unfold arEqB
  simp only
  by_cases e0 : x0 = y0
  case neg => simp [e0]
  subst e0
  by_cases e1 : x1 = y1
  case neg => simp [e1]
  subst e1
  by_cases e2 : x2 = y2
  case neg => simp [e2]
  subst e2
  by_cases e3 : x3 = y3
  case neg => simp [e3]
  subst e3
  by_cases e4 : x4 = y4
  case neg => simp [e4]
  subst e4
  by_cases e5 : x5 = y5
  case neg => simp [e5]
  subst e5
  by_cases e6 : x6 = y6
  case neg => simp [e6]
  subst e6
  simp

def onEqB (a b : On) : Bool := (a.is == b.is) && (a.rd == b.rd) && (a.wr == b.wr) && (a.sh == b.sh) && (a.file == b.file) && (a.page == b.page)
theorem onEqB_self (a : On) : onEqB a a = true := by simp [onEqB]
theorem onEqB_iff {a b : On} : onEqB a b = true ↔ a = b := by
  constructor
  · intro h
    unfold onEqB at h
    simp only [Bool.and_eq_true, beq_iff_eq] at h
    obtain ⟨_, _, _, _, _, _⟩ := a
    obtain ⟨_, _, _, _, _, _⟩ := b
    simp only at h
    simp only [On.mk.injEq]
    simpa [and_assoc] using h
  · rintro rfl
    exact onEqB_self a

set_option maxHeartbeats 2000000 in
theorem on_eq (x0 y0 : Bool) (x1 y1 : Bool) (x2 y2 : Bool) (x3 y3 : Bool) (x4 y4 : Int) (x5 y5 : Int) (w : World) : (Op.equalIn 10000 48 (.agg #[.bool x0, .bool x1, .bool x2, .bool x3, .int .i64 x4, .int .i64 x5]) (.agg #[.bool y0, .bool y1, .bool y2, .bool y3, .int .i64 y4, .int .i64 y5])).run Try.prog w = .ok (onEqB ⟨x0, x1, x2, x3, x4, x5⟩ ⟨y0, y1, y2, y3, y4, y5⟩) w := by
  have hf : (Try.prog.fieldsOf 48).toList.map (fun f => (f.name, f.type, f.offset)) = [("Some", 4, 0), ("Read", 4, 1), ("Write", 4, 2), ("Shared", 4, 3), ("File", 3, 4), ("Page", 3, 5)] := by kernel_rfl
  rw [run_equalIn_struct w 9999 48 _ _ (by kernel_rfl) (by kernel_rfl)]
  obtain ⟨f0, f1, f2, f3, f4, f5, hfs⟩ : ∃ f0 f1 f2 f3 f4 f5, (Try.prog.fieldsOf 48).toList = [f0, f1, f2, f3, f4, f5] := by
    have hl : (Try.prog.fieldsOf 48).toList.length = 6 := by have := congrArg List.length hf; simpa using this
    match hq : (Try.prog.fieldsOf 48).toList, hl with
    | [f0, f1, f2, f3, f4, f5], _ => exact ⟨f0, f1, f2, f3, f4, f5, rfl⟩
  rw [hfs] at hf ⊢
  simp at hf
  obtain ⟨⟨n0, t0, o0⟩, ⟨n1, t1, o1⟩, ⟨n2, t2, o2⟩, ⟨n3, t3, o3⟩, ⟨n4, t4, o4⟩, ⟨n5, t5, o5⟩⟩ := hf
  have pI : ∀ (zs : Array Value) (o : Nat) v, zs[o]? = some (.int .i64 v) → (part 3 zs o).run Try.prog w = .ok (.int .i64 v) w := fun zs o v hz => run_part_plain w (by simp [Program.plainKey, Try.underlying3]) hz
  have pB : ∀ (zs : Array Value) (o : Nat) v, zs[o]? = some (.bool v) → (part 4 zs o).run Try.prog w = .ok (.bool v) w := fun zs o v hz => run_part_plain w (by simp [Program.plainKey, Try.underlying4]) hz
  simp only [Op.eqFields, n0, t0, o0, n1, t1, o1, n2, t2, o2, n3, t3, o3, n4, t4, o4, n5, t5, o5]
  simp [pI, pB, run_equalIn_bool' w _ _ _ _ Try.underlying4, run_equalIn_int w _ _ _ _ _ _ Try.underlying3]
  unfold onEqB
  simp only
  by_cases e0 : x0 = y0
  case neg => simp [e0]
  subst e0
  by_cases e1 : x1 = y1
  case neg => simp [e1]
  subst e1
  by_cases e2 : x2 = y2
  case neg => simp [e2]
  subst e2
  by_cases e3 : x3 = y3
  case neg => simp [e3]
  subst e3
  by_cases e4 : x4 = y4
  case neg => simp [e4]
  subst e4
  by_cases e5 : x5 = y5
  case neg => simp [e5]
  subst e5
  simp

def faEqB (a b : Int × Int) : Bool := (a.1 == b.1) && (a.2 == b.2)
theorem faEqB_self (a : Int × Int) : faEqB a a = true := by simp [faEqB]
set_option maxHeartbeats 2000000 in
theorem fa_eq (x0 y0 : Int) (x1 y1 : Int) (w : World) : (Op.equalIn 10000 39 (.agg #[.int .i64 x0, .int .i64 x1]) (.agg #[.int .i64 y0, .int .i64 y1])).run Try.prog w = .ok (faEqB ⟨x0, x1⟩ ⟨y0, y1⟩) w := by
  have hf : (Try.prog.fieldsOf 39).toList.map (fun f => (f.name, f.type, f.offset)) = [("Err", 29, 0), ("At", 3, 1)] := by kernel_rfl
  rw [run_equalIn_struct w 9999 39 _ _ (by kernel_rfl) (by kernel_rfl)]
  obtain ⟨f0, f1, hfs⟩ : ∃ f0 f1, (Try.prog.fieldsOf 39).toList = [f0, f1] := by
    have hl : (Try.prog.fieldsOf 39).toList.length = 2 := by have := congrArg List.length hf; simpa using this
    match hq : (Try.prog.fieldsOf 39).toList, hl with
    | [f0, f1], _ => exact ⟨f0, f1, rfl⟩
  rw [hfs] at hf ⊢
  simp at hf
  obtain ⟨⟨n0, t0, o0⟩, ⟨n1, t1, o1⟩⟩ := hf
  have pI : ∀ (zs : Array Value) (o : Nat) v, zs[o]? = some (.int .i64 v) → (part 3 zs o).run Try.prog w = .ok (.int .i64 v) w := fun zs o v hz => run_part_plain w (by simp [Program.plainKey, Try.underlying3]) hz
  have pE : ∀ (zs : Array Value) (o : Nat) v, zs[o]? = some (.int .i64 v) → (part 29 zs o).run Try.prog w = .ok (.int .i64 v) w := fun zs o v hz => run_part_plain w (by simp [Program.plainKey, Try.underlying29]) hz
  simp only [Op.eqFields, n0, t0, o0, n1, t1, o1]
  simp [pI, pE, run_equalIn_int w _ _ _ _ _ _ Try.underlying29, run_equalIn_int w _ _ _ _ _ _ Try.underlying3]
  unfold faEqB
  simp only
  by_cases e0 : x0 = y0
  case neg => simp [e0]
  subst e0
  by_cases e1 : x1 = y1
  case neg => simp [e1]
  subst e1
  simp

end Go.Proofs.Ytlkgmjdhggfimad
