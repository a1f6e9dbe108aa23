/- Contracts of the small functions: below, isSome, wrongEntry, ContainsFunc of entries that are some, Clone of entries. -/
import Derived.Test.YtodbgjhdfjpcpacTbData
import Derived.ChangeKeysEq
import Derived.BigQuiet
import Derived.WalkSmall
import Derived.Deep.Cut
namespace Go.Proofs.Ytodbgjhdfjpcpac
open Go.RowKit

def bel (m n : Int) : Bool := decide (0 ≤ m) && decide (m < n)
theorem bel_iff {m n : Int} : bel m n = true ↔ 0 ≤ m ∧ m < n := by simp [bel]
theorem bel_no {m n : Int} (h : ¬ (0 ≤ m ∧ m < n)) : bel m n = false := by
  cases hb : bel m n with
  | false => rfl
  | true => exact absurd (bel_iff.1 hb) h

theorem belowT_any (m n : Int) (w : World) :
    Calls Try.prog 61 #[.int .i64 m, .int .i64 n] w fun e w' => e = .returned (.bool (bel m n)) ∧ w' = w := by
  have H : Hid (bel m n = (decide (0 ≤ m) && decide (m < n))) := rfl
  by_cases h0 : 0 ≤ m
  · by_cases h1 : m < n
    · go_enter Try.func61, Try.ntmps61
      go_wp2
      go_ret
      exact ⟨by rw [H.out]; simp [*], rfl⟩
    · go_enter Try.func61, Try.ntmps61
      go_wp2
      go_ret
      exact ⟨by rw [H.out]; simp [*], rfl⟩
  · go_enter Try.func61, Try.ntmps61
    go_wp2
    go_ret
    exact ⟨by rw [H.out]; simp; omega, rfl⟩

theorem belowT_yes {m n : Int} (h0 : 0 ≤ m) (h1 : m < n) (w : World) : Calls Try.prog 61 #[.int .i64 m, .int .i64 n] w fun e w' => e = .returned (.bool true) ∧ w' = w := by
  have := belowT_any m n w
  rw [bel_iff.2 ⟨h0, h1⟩] at this
  exact this
theorem belowT_no {m n : Int} (h : ¬ (0 ≤ m ∧ m < n)) (w : World) : Calls Try.prog 61 #[.int .i64 m, .int .i64 n] w fun e w' => e = .returned (.bool false) ∧ w' = w := by
  have := belowT_any m n w
  rw [bel_no h] at this
  exact this

theorem isSome_any (k n : Int) (b : Bool) (w : World) :
    Calls Try.prog 74 #[.agg #[.int .i64 k, .int .i64 n, .bool b]] w fun e w' => e = .returned (.bool (enS ⟨k, n, b⟩)) ∧ Grew w w' := by
  have H : Hid (enS ⟨k, n, b⟩ = (k != 0)) := rfl
  go_enter Try.func74, Try.ntmps74
  go_wp2
  go_ret
  exact ⟨by rw [H.out]; rfl, grew_alloc _ _⟩

theorem enW_kind {e : En} (h : ¬ (0 ≤ e.kind ∧ e.kind ≤ 2)) : enW e = 1 := by unfold enW; rw [if_neg h]
theorem enW_range {e : En} (h : 0 ≤ e.kind ∧ e.kind ≤ 2) (h2 : ¬ (0 ≤ e.n ∧ e.n ≤ 59 ∧ (e.kind = 1 → e.n ≤ 39))) : enW e = 3 := by unfold enW; rw [if_pos h, if_neg h2]
theorem enW_fit {e : En} (h : 0 ≤ e.kind ∧ e.kind ≤ 2) (h2 : 0 ≤ e.n ∧ e.n ≤ 59 ∧ (e.kind = 1 → e.n ≤ 39)) (h3 : (e.kind = 0 ∧ (e.n ≠ 0 ∨ e.wr = true)) ∨ (e.kind = 2 ∧ e.wr = true)) : enW e = 7 := by unfold enW; rw [if_pos h, if_pos h2, if_pos h3]

def enEqB (a b : En) : Bool := (a.kind == b.kind) && ((a.n == b.n) && (a.wr == b.wr))
theorem enEqB_self (a : En) : enEqB a a = true := by simp [enEqB]
theorem en_eq (k n k' n' : Int) (b b' : Bool) (w : World) : (Op.equalIn 10000 57 (.agg #[.int .i64 k, .int .i64 n, .bool b]) (.agg #[.int .i64 k', .int .i64 n', .bool b'])).run Try.prog w = .ok (enEqB ⟨k, n, b⟩ ⟨k', n', b'⟩) w := by
  have hf : (Try.prog.fieldsOf 57).toList.map (fun f => (f.name, f.type, f.offset)) = [("Kind", 3, 0), ("N", 3, 1), ("Write", 4, 2)] := by kernel_rfl
  rw [run_equalIn_struct w 9999 57 _ _ (by kernel_rfl) (by kernel_rfl)]
  obtain ⟨f0, f1, f2, hfs⟩ : ∃ f0 f1 f2, (Try.prog.fieldsOf 57).toList = [f0, f1, f2] := by
    match hq : (Try.prog.fieldsOf 57).toList with
    | [f0, f1, f2] => exact ⟨f0, f1, f2, rfl⟩
    | [] => rw [hq] at hf; simp at hf
    | [_] => rw [hq] at hf; simp at hf
    | [_, _] => rw [hq] at hf; simp at hf
    | _ :: _ :: _ :: _ :: _ => rw [hq] at hf; simp at hf
  rw [hfs] at hf ⊢
  simp at hf
  obtain ⟨⟨h1, h2, h3⟩, ⟨h4, h5, h6⟩, h7, h8, h9⟩ := hf
  have pI : ∀ (zs : Array Value) (o : Nat) v, zs[o]? = some (.int .i64 v) → (part 3 zs o).run Try.prog w = .ok (.int .i64 v) w := fun zs o v hz => run_part_plain w (by simp [Program.plainKey, Try.underlying3]) hz
  have pB : ∀ (zs : Array Value) (o : Nat) v, zs[o]? = some (.bool v) → (part 4 zs o).run Try.prog w = .ok (.bool v) w := fun zs o v hz => run_part_plain w (by simp [Program.plainKey, Try.underlying4]) hz
  simp only [Op.eqFields, h1, h2, h3, h4, h5, h6, h7, h8, h9]
  simp [pI, pB, run_equalIn_int w _ _ _ _ _ _ Try.underlying3, run_equalIn_bool' w _ _ _ _ Try.underlying4]
  unfold enEqB
  by_cases e1 : k = k' <;> by_cases e2 : n = n' <;> cases b <;> cases b' <;> simp [e1, e2]

set_option maxHeartbeats 1000000 in
theorem wrongEntry_any (k n : Int) (b : Bool) (w : World) :
    Calls Try.prog 62 #[.agg #[.int .i64 k, .int .i64 n, .bool b]] w fun e w' => e = .returned (.int .i64 (enW ⟨k, n, b⟩)) ∧ Grew w w' := by
  obtain ⟨Z, HZ⟩ : ∃ Z, Hid (enW ⟨k, n, b⟩ = Z) := ⟨_, rfl⟩
  rw [HZ.out]
  by_cases h1 : 0 ≤ k ∧ k ≤ 2
  · have hb1 := fun W => belowT_yes (m := k) (n := 3) h1.1 (by omega) W
    by_cases h2 : 0 ≤ n ∧ n ≤ 59
    · have hb2 := fun W => belowT_yes (m := n) (n := 60) h2.1 (by omega) W
      by_cases h3 : k = 1 ∧ 39 < n
      · have HF : Hid (Z = 3) := show _ = _ by rw [← HZ.out]; exact enW_range h1 (fun h => by have := h.2.2 h3.1; simp at this; omega)
        obtain ⟨rfl, h3⟩ := h3
        have h4 : 40 ≤ n := by omega
        clear h1 h2 h3
        go_enter Try.func62, Try.ntmps62
        go_wp2_with fail
        refine (hb1 _).mono ?_
        rintro e w' ⟨rfl, rfl⟩
        go_wp2_with fail
        refine (hb2 _).mono ?_
        rintro e w' ⟨rfl, rfl⟩
        go_wp2
        go_ret
        exact ⟨by rw [HF.out]; rfl, grew_alloc _ _⟩
      · have hr : 0 ≤ n ∧ n ≤ 59 ∧ (k = 1 → n ≤ 39) := ⟨h2.1, h2.2, fun h => by omega⟩
        obtain rfl | rfl | rfl : k = 0 ∨ k = 1 ∨ k = 2 := by omega
        · have hq := fun W => en_eq 0 n 0 0 b false W
          by_cases hn : n = 0 ∧ b = false
          · have HF : Hid (Z = 0) := show _ = _ by rw [← HZ.out]; exact enW_of h1 hr (fun h => by simp [hn.1, hn.2] at h)
            obtain ⟨rfl, rfl⟩ := hn
            rw [show enEqB ⟨0, 0, false⟩ ⟨0, 0, false⟩ = true from rfl] at hq
            clear h1 h2 h3 hr
            go_enter Try.func62, Try.ntmps62
            go_wp2_with fail
            refine (hb1 _).mono ?_
            rintro e w' ⟨rfl, rfl⟩
            go_wp2_with fail
            refine (hb2 _).mono ?_
            rintro e w' ⟨rfl, rfl⟩
            go_wp2
            go_ret
            exact ⟨by rw [HF.out]; rfl, grew_alloc _ _⟩
          · have HF : Hid (Z = 7) := show _ = _ by
              rw [← HZ.out]
              refine enW_fit h1 hr (.inl ⟨rfl, ?_⟩)
              cases b with
              | false => exact .inl (fun h => hn ⟨h, rfl⟩)
              | true => exact .inr rfl
            have he : enEqB ⟨0, n, b⟩ ⟨0, 0, false⟩ = false := by
              unfold enEqB
              cases b with
              | false => simp; exact fun h => hn ⟨h, rfl⟩
              | true => simp
            rw [he] at hq
            clear h1 h2 h3 hr hn he
            go_enter Try.func62, Try.ntmps62
            go_wp2_with fail
            refine (hb1 _).mono ?_
            rintro e w' ⟨rfl, rfl⟩
            go_wp2_with fail
            refine (hb2 _).mono ?_
            rintro e w' ⟨rfl, rfl⟩
            go_wp2
            go_ret
            exact ⟨by rw [HF.out]; rfl, grew_alloc _ _⟩
        · have HF : Hid (Z = 0) := show _ = _ by rw [← HZ.out]; exact enW_of h1 hr (fun h => by simp at h)
          have h4 : ¬ 40 ≤ n := by omega
          clear h1 h2 h3 hr
          go_enter Try.func62, Try.ntmps62
          go_wp2_with fail
          refine (hb1 _).mono ?_
          rintro e w' ⟨rfl, rfl⟩
          go_wp2_with fail
          refine (hb2 _).mono ?_
          rintro e w' ⟨rfl, rfl⟩
          go_wp2
          go_ret
          exact ⟨by rw [HF.out]; rfl, grew_alloc _ _⟩
        · cases b with
          | false =>
            have HF : Hid (Z = 0) := show _ = _ by rw [← HZ.out]; exact enW_of h1 hr (fun h => by simp at h)
            clear h1 h2 h3 hr
            go_enter Try.func62, Try.ntmps62
            go_wp2_with fail
            refine (hb1 _).mono ?_
            rintro e w' ⟨rfl, rfl⟩
            go_wp2_with fail
            refine (hb2 _).mono ?_
            rintro e w' ⟨rfl, rfl⟩
            go_wp2
            go_ret
            exact ⟨by rw [HF.out]; rfl, grew_alloc _ _⟩
          | true =>
            have HF : Hid (Z = 7) := show _ = _ by rw [← HZ.out]; exact enW_fit h1 hr (.inr ⟨rfl, rfl⟩)
            clear h1 h2 h3 hr
            go_enter Try.func62, Try.ntmps62
            go_wp2_with fail
            refine (hb1 _).mono ?_
            rintro e w' ⟨rfl, rfl⟩
            go_wp2_with fail
            refine (hb2 _).mono ?_
            rintro e w' ⟨rfl, rfl⟩
            go_wp2
            go_ret
            exact ⟨by rw [HF.out]; rfl, grew_alloc _ _⟩
    · have HF : Hid (Z = 3) := show _ = _ by rw [← HZ.out]; exact enW_range h1 (fun h => h2 ⟨h.1, h.2.1⟩)
      have hb2 := fun W => belowT_no (m := n) (n := 60) (by omega) W
      clear h1 h2
      go_enter Try.func62, Try.ntmps62
      go_wp2_with fail
      refine (hb1 _).mono ?_
      rintro e w' ⟨rfl, rfl⟩
      go_wp2_with fail
      refine (hb2 _).mono ?_
      rintro e w' ⟨rfl, rfl⟩
      go_wp2
      go_ret
      exact ⟨by rw [HF.out]; rfl, grew_alloc _ _⟩
  · have HF : Hid (Z = 1) := show _ = _ by rw [← HZ.out]; exact enW_kind h1
    have hb1 := fun W => belowT_no (m := k) (n := 3) (by omega) W
    clear h1
    go_enter Try.func62, Try.ntmps62
    go_wp2_with fail
    refine (hb1 _).mono ?_
    rintro e w' ⟨rfl, rfl⟩
    go_wp2
    go_ret
    exact ⟨by rw [HF.out]; rfl, grew_alloc _ _⟩

theorem anyAt {α : Type} {p : α → Bool} {fs : List α} {k : Nat} {q : α} (h : fs[k]? = some q) (hq : p q = true) : fs.any p = true := List.any_eq_true.2 ⟨q, List.mem_of_getElem? h, hq⟩
theorem anyNo {α : Type} {p : α → Bool} {fs : List α} (hb : ∀ (j : Nat) x, fs[j]? = some x → p x = false) : fs.any p = false := List.any_eq_false.2 fun x hx => by
  obtain ⟨j, hj⟩ := List.getElem?_of_mem hx
  rw [hb j x hj]
  decide

set_option maxRecDepth 100000 in
set_option maxHeartbeats 1000000 in
theorem indexSome_any (v : Value) (fs : List En) (w : World) (hv : RowAt enE w v fs) :
    Calls Try.prog 78 #[v, .func (.func 74) #[] #[]] w fun e w' => (∃ z : Int, e = .returned (.int .i64 z) ∧ decide (0 ≤ z) = anyS fs) ∧ Grew w w' := by
  have hbig := hv.short
  obtain ⟨a, c, rfl, hrow⟩ := hv.ens
  have HR : Hid (EnRows w a fs) := hrow
  clear hrow hv
  obtain ⟨n, HN⟩ : ∃ n, Hid (fs.length = n) := ⟨_, rfl⟩
  rw [HN.out] at hbig ⊢
  obtain ⟨ANS, HANS⟩ : ∃ ANS, Hid (anyS fs = ANS) := ⟨_, rfl⟩
  rw [HANS.out]
  have eg := enters_of Try.func74 (by kernel_rfl) rfl
  go_enter Try.func78, Try.ntmps78
  go_wp2
  go_loopg [8] n (fun gg s8 wr => ∃ kk : Nat, kk ≤ n ∧ n - kk ≤ gg ∧ s8 = .int .i64 kk ∧ Hid (Grew w wr) ∧ Hid (∀ (j : Nat) q, j < kk → fs[j]? = some q → enS q = false))
  case atStart => exact ⟨0, Nat.zero_le _, by omega, rfl, Grew.refl w, fun j q hj => absurd hj (Nat.not_lt_zero _)⟩
  case round =>
    obtain ⟨kk, hkk, hg, rfl, BW, A⟩ := hrel
    by_cases hlt : kk < n
    · have hltz : (kk : Int) < (n : Int) := by omega
      obtain ⟨q, HQ⟩ : ∃ q, Hid (fs[kk]? = some q) := ⟨_, List.getElem?_eq_getElem (by rw [HN.out]; exact hlt)⟩
      obtain ⟨ad, rfl, hl⟩ := HR.out kk q HQ.out
      obtain ⟨d0, d1, d2⟩ := hl wr BW.out
      clear hl
      have hcall := isSome_any q.kind q.n q.wr wr
      cases hq : enS q with
      | true =>
        have HF : Hid (decide (0 ≤ (kk : Int)) = ANS) := show _ = _ by
          rw [← HANS.out, show anyS fs = true from anyAt HQ.out hq]
          simp
        rw [show enS ⟨q.kind, q.n, q.wr⟩ = true from hq] at hcall
        clear hq
        go_wp2_with fail
        refine hcall.mono ?_
        rintro e W2 ⟨rfl, k1⟩
        have G2 : Hid (Grew w W2) := BW.out.trans k1
        clear k1 hcall d0 d1 d2
        go_wp2
        go_ret
        exact ⟨⟨_, rfl, HF.out⟩, G2.out⟩
      | false =>
        have HA : Hid (∀ (j : Nat) q, j < kk + 1 → fs[j]? = some q → enS q = false) := show ∀ (j : Nat) q, _ from fun j q' hj hq' => by
          by_cases e : j = kk
          · subst e
            rw [HQ.out] at hq'
            cases hq'
            exact hq
          · exact A.out j q' (by omega) hq'
        rw [show enS ⟨q.kind, q.n, q.wr⟩ = false from hq] at hcall
        clear hq
        go_wp2_with fail
        refine hcall.mono ?_
        rintro e W2 ⟨rfl, k1⟩
        have G2 : Hid (Grew w W2) := BW.out.trans k1
        clear k1 hcall d0 d1 d2
        go_wp2
        go_roundg (n - (kk + 1))
        case measure => omega
        case rel => exact ⟨kk + 1, by omega, by omega, by go_num, G2.out, HA.out⟩
    · have hltz : ¬ (kk : Int) < (n : Int) := by omega
      have : kk = n := by omega
      subst this
      have HF : Hid (decide (0 ≤ (-1 : Int)) = ANS) := show _ = _ by
        rw [← HANS.out]
        symm
        exact anyNo (fun j x hx => A.out j x (by rw [← HN.out]; exact (List.getElem?_eq_some_iff.1 hx).1) hx)
      go_wp2
      go_ret
      exact ⟨⟨_, rfl, HF.out⟩, BW.out⟩

theorem containsSome_any (v : Value) (fs : List En) (w : World) (hv : RowAt enE w v fs) :
    Calls Try.prog 73 #[v, .func (.func 74) #[] #[]] w fun e w' => e = .returned (.bool (anyS fs)) ∧ Grew w w' := by
  have hcall := indexSome_any v fs w hv
  obtain ⟨a, c, rfl, _⟩ := hv.rows
  clear hv
  generalize fs.length = n at *
  generalize anyS fs = A at *
  go_enter Try.func73, Try.ntmps73
  go_wp2_with fail
  refine hcall.mono ?_
  rintro e W2 ⟨⟨z, rfl, hz⟩, k1⟩
  have HZ : Hid (decide (0 ≤ z) = A) := hz
  have G2 : Hid (Grew w W2) := k1
  clear hz k1 hcall
  go_wp2
  go_ret
  exact ⟨by rw [← HZ.out]; rfl, G2.out⟩

set_option maxHeartbeats 1000000 in
theorem cloneEntry_any (v : Value) (fs : List En) (w : World) (hv : RowAt enE w v fs) :
    Calls Try.prog 60 #[v] w fun e w' => ∃ v', e = .returned v' ∧ OwnRow enE w.heap.size w' v' fs ∧ Grew w w' := by
  have HV : Hid (RowAt enE w v fs) := hv
  obtain ⟨⟨a, c, rfl, hnone, hcells⟩, hbytes⟩ := hv
  have q22 : ∀ (w : World) (a : Option Addr) (n c n' c' : Nat), (binOp .eql 53 (.slice a n c) (.slice none n' c')).run Try.prog w = .ok (.bool a.isNone) w := fun w a n c n' c' => Lib.run_eql_slice_nil w _ _ a n c n' c' Try.underlying53
  cases a with
  | none =>
    have hps := hnone rfl
    subst hps
    clear hcells hnone hbytes HV
    go_enter Try.func60, Try.ntmps60
    go_wp2
    go_ret
    exact ⟨_, rfl, OwnRow.nil _ _ _, Grew.refl w⟩
  | some x =>
    have HB : Hid (fs.length * 24 ≤ 140737488355328) := hbytes
    clear hcells hnone hbytes
    go_enter Try.func60, Try.ntmps60
    go_wp2_with (at_builtin; refine wpList_append_row (E := enE) rfl (.tmp 5) (.tmp 6) rfl w.heap.size _ [] rfl (OwnRow.made enE w) _ fs rfl (HV.out.grew (grew_alloc _ _)) ?qb (by simp) ?_)
    case qb => rw [List.length_nil, Nat.zero_add]; exact HB.out
    intro v' w1 hown hgrow
    go_wp2
    go_ret
    exact ⟨v', rfl, by simpa using hown, ((Below.refl _ w).alloc (Nat.le_refl _) _).grown hgrow (by simp) (by intro k hk; simp [Value.ownBlock] at hk; omega)⟩

end Go.Proofs.Ytodbgjhdfjpcpac
