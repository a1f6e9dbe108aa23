/- Contract of Wrong (package areas). -/
import Derived.Test.YtlkgmjdhggfimadArFind
import Derived.Test.YtlkgmjdhggfimadSmall
import Derived.Test.YtlkgmjdhggfimadLaxTail
namespace Go.Proofs.Ytlkgmjdhggfimad
open Go.RowKit

def prevO (l : List Ar) : Nat → Option Ar
  | 0 => none
  | k + 1 => l[k]?
theorem wrGo_cons (p : Option Ar) (a : Ar) (l : List Ar) (i : Nat) : wrGo p (a :: l) i = if arW a ≠ 0 then (arW a, (i : Int)) else match p with | some b => if a.fr < b.to ∨ goB a b = true then (2, (i : Int)) else wrGo (some a) l (i + 1) | none => wrGo (some a) l (i + 1) := by
  cases p <;> rfl
theorem wrn_bad {l : List Ar} {k : Nat} {q : Ar} {r : Int × Int} (h : wrGo (prevO l k) (l.drop k) k = r) (hq : l[k]? = some q) (hz : arW q ≠ 0) : r = (arW q, (k : Int)) := by
  rw [drop_cons hq, wrGo_cons, if_pos hz] at h
  exact h.symm
theorem wrn_first {l : List Ar} {q : Ar} {r : Int × Int} (h : wrGo (prevO l 0) (l.drop 0) 0 = r) (hq : l[0]? = some q) (hz : arW q = 0) : wrGo (prevO l 1) (l.drop 1) 1 = r := by
  rw [drop_cons hq, wrGo_cons, if_neg (fun h => h hz)] at h
  simp only [prevO] at h ⊢
  rw [hq]
  exact h
theorem wrn_form {l : List Ar} {j : Nat} {b q : Ar} {r : Int × Int} (h : wrGo (prevO l (j + 1)) (l.drop (j + 1)) (j + 1) = r) (hb : l[j]? = some b) (hq : l[j + 1]? = some q) (hz : arW q = 0) (hc : q.fr < b.to ∨ goB q b = true) : r = (2, ((j + 1 : Nat) : Int)) := by
  rw [drop_cons hq, wrGo_cons, if_neg (fun h => h hz)] at h
  simp only [prevO, hb] at h
  rw [if_pos hc] at h
  exact h.symm
theorem wrn_next {l : List Ar} {j : Nat} {b q : Ar} {r : Int × Int} (h : wrGo (prevO l (j + 1)) (l.drop (j + 1)) (j + 1) = r) (hb : l[j]? = some b) (hq : l[j + 1]? = some q) (hz : arW q = 0) (hc : ¬ q.fr < b.to) (hc' : goB q b = false) : wrGo (prevO l (j + 1 + 1)) (l.drop (j + 1 + 1)) (j + 1 + 1) = r := by
  rw [drop_cons hq, wrGo_cons, if_neg (fun h => h hz)] at h
  simp only [prevO, hb] at h
  rw [if_neg (by rintro (h1 | h1); exact hc h1; rw [hc'] at h1; cases h1)] at h
  simp only [prevO, hq]
  exact h
theorem wrn_end {l : List Ar} {r : Int × Int} (h : wrGo (prevO l l.length) (l.drop l.length) l.length = r) : r = (0, 0) := by
  rw [List.drop_length, wrGo] at h
  exact h.symm
theorem wrL_start {l : List Ar} (h : ¬ 16 < l.length) : wrGo (prevO l 0) (l.drop 0) 0 = wrL l := by
  unfold wrL
  rw [if_neg h]
  rfl

set_option maxRecDepth 100000 in
set_option maxHeartbeats 2000000 in
theorem wrongAr_any (v : Value) (l : List Ar) (w : World) (hv : RowAt arE w v l) :
    Calls Try.prog 12 #[v] w fun e w' => e = .returned (.agg #[.int .i64 (wrL l).1, .int .i64 (wrL l).2]) ∧ Grew w w' := by
  have hbig := hv.short
  obtain ⟨a, c, rfl, hrow⟩ := hv.ars
  have HR' : Hid (ArRows w a l) := hrow
  have hwa : Hid (∀ (q : Ar) W, Calls Try.prog 36 #[.agg #[.int .i64 q.fr, .int .i64 q.to, .bool q.rd, .bool q.wr, .bool q.sh, .int .i64 q.file, .int .i64 q.base]] W fun e w' => e = .returned (.int .i64 (arW q)) ∧ Grew W w') := fun q W => wrongArea_any q W
  have hgo : Hid (∀ (q b : Ar) W, ArOk b → Calls Try.prog 37 #[.agg #[.int .i64 q.fr, .int .i64 q.to, .bool q.rd, .bool q.wr, .bool q.sh, .int .i64 q.file, .int .i64 q.base], .agg #[.int .i64 b.fr, .int .i64 b.to, .bool b.rd, .bool b.wr, .bool b.sh, .int .i64 b.file, .int .i64 b.base]] W fun e w' => e = .returned (.bool (goB q b)) ∧ Grew W w') := fun q b W h => goesOn_any q b W h
  clear hrow hv
  have HST : Hid (¬ 16 < l.length → wrGo (prevO l 0) (l.drop 0) 0 = wrL l) := wrL_start
  have HMA : Hid (16 < l.length → wrL l = (4, 0)) := fun h => by unfold wrL; rw [if_pos h]
  have HEND : Hid (∀ r, wrGo (prevO l l.length) (l.drop l.length) l.length = r → r = (0, 0)) := fun r => wrn_end
  obtain ⟨n, HN⟩ : ∃ n, Hid (l.length = n) := ⟨_, rfl⟩
  rw [HN.out] at hbig ⊢
  have HST' : Hid (¬ 16 < n → wrGo (prevO l 0) (l.drop 0) 0 = wrL l) := show _ → _ by rw [← HN.out]; exact HST.out
  have HMA' : Hid (16 < n → wrL l = (4, 0)) := show _ → _ by rw [← HN.out]; exact HMA.out
  have HEND' : Hid (∀ r, wrGo (prevO l n) (l.drop n) n = r → r = (0, 0)) := show ∀ r, _ by rw [← HN.out]; exact HEND.out
  clear HST HMA HEND
  generalize hA : wrL l = ANS at HST' HMA' ⊢
  clear hA
  obtain ⟨W0, hW0⟩ : ∃ W0, w.alloc (.cells #[.int .i64 0, .int .i64 0] 39) = W0 := ⟨_, rfl⟩
  have HG0 : Hid (Grew w W0) := show Grew w W0 by rw [← hW0]; exact grew_alloc _ _
  have X0 : Hid (Box W0 w.heap.size [.int .i64 0, .int .i64 0]) := show Box _ _ _ by rw [← hW0]; exact Box.top w _ _ rfl
  have HW0 : Hid (_ = W0) := hW0
  clear hW0
  by_cases hmany : 16 < n
  · have HR : Hid (ANS = (4, 0)) := HMA'.out hmany
    have hmz : (16 : Int) < (n : Int) := by omega
    go_enter Try.func12, Try.ntmps12
    go_upto_region 1 with fail
    rw [HW0.out]
    have f0 := X0.out.c 0 rfl
    have f1 := X0.out.c 1 rfl
    have ff := X0.out.f
    have RB : Hid (Box ((W0.setCell ⟨w.heap.size, 0, none⟩ (.int .i64 4)).setCell ⟨w.heap.size, 1, none⟩ (.int .i64 0)) w.heap.size [.int .i64 4, .int .i64 0]) := show Box _ _ _ from (X0.out.set 0 _).set 1 _
    have RG : Hid (Grew w ((W0.setCell ⟨w.heap.size, 0, none⟩ (.int .i64 4)).setCell ⟨w.heap.size, 1, none⟩ (.int .i64 0))) := show Grew _ _ from grew_set (grew_set HG0.out (by simp) _) (by simp) _
    go_wp2
    refine bodyPost_ret (ret_cell (vs := [.int .i64 4, .int .i64 0]) rfl _ rfl RB.out Try.underlying39 rfl Try.sizeFault) rfl ⟨?_, RG.out⟩
    rw [HR.out]
  · have hmz : ¬ (16 : Int) < (n : Int) := by omega
    have HI : Hid (wrGo (prevO l 0) (l.drop 0) 0 = ANS) := HST'.out hmany
    go_enter Try.func12, Try.ntmps12
    go_upto_region 1 with fail
    rw [HW0.out]
    go_wp2
    go_loopg [12] n (fun gg s12 wr => ∃ kk : Nat, kk ≤ n ∧ n - kk ≤ gg ∧ s12 = .int .i64 kk ∧ Hid (Grew w wr) ∧ Hid (Box wr w.heap.size [.int .i64 0, .int .i64 0]) ∧ Hid (wrGo (prevO l kk) (l.drop kk) kk = ANS) ∧ Hid (∀ (j : Nat) q, j < kk → l[j]? = some q → ArOk q))
    case atStart => exact ⟨0, Nat.zero_le _, by omega, rfl, HG0.out, X0.out, HI.out, fun j q hj => absurd hj (Nat.not_lt_zero _)⟩
    case round =>
      obtain ⟨kk, hkk, hg, rfl, BW, FW, IW, OW⟩ := hrel
      by_cases hlt : kk < n
      · have hltz : (kk : Int) < (n : Int) := by omega
        obtain ⟨q, HQ⟩ : ∃ q, Hid (l[kk]? = some q) := ⟨_, List.getElem?_eq_getElem (by rw [HN.out]; exact hlt)⟩
        obtain ⟨ad, rfl, hl⟩ := HR'.out kk q HQ.out
        obtain ⟨d0, d1, d2, d3, d4, d5, d6⟩ := hl wr BW.out
        have HL : Hid (w.heap.size < wr.heap.size) := FW.out.lt
        obtain ⟨p, HP⟩ : ∃ p, Hid (wr.heap.size = p) := ⟨_, rfl⟩
        have HLP : Hid (w.heap.size < p) := show _ < _ by rw [← HP.out]; exact HL.out
        clear hl HL
        go_upto_region 6 with fail
        obtain ⟨W1, hW1⟩ : ∃ W1, wr.alloc (.cells #[.int .i64 q.fr, .int .i64 q.to, .bool q.rd, .bool q.wr, .bool q.sh, .int .i64 q.file, .int .i64 q.base] 37) = W1 := ⟨_, rfl⟩
        have G1 : Hid (Grew w W1) := show Grew _ _ by rw [← hW1]; exact BW.out.trans (grew_alloc _ _)
        have F1 : Hid (Box W1 w.heap.size [.int .i64 0, .int .i64 0]) := show Box _ _ _ by rw [← hW1]; exact FW.out.alloc _
        have P1 : Hid (Box W1 p [.int .i64 q.fr, .int .i64 q.to, .bool q.rd, .bool q.wr, .bool q.sh, .int .i64 q.file, .int .i64 q.base]) := show Box _ _ _ by rw [← hW1]; exact Box.top _ _ _ HP.out.symm
        rw [hW1, HP.out]
        clear hW1 d0 d1 d2 d3 d4 d5 d6
        go_wp2_with (refine wp_loadAll rfl 37 (.tmp 4) rfl p rfl P1.out Try.underlying37 rfl Try.sizeArea ?_)
        refine (hwa.out q _).mono ?_
        rintro e W2 ⟨rfl, g2⟩
        have G2 : Hid (Grew w W2) := G1.out.trans g2
        have F2 : Hid (Box W2 w.heap.size [.int .i64 0, .int .i64 0]) := F1.out.grew g2
        have P2 : Hid (Box W2 p [.int .i64 q.fr, .int .i64 q.to, .bool q.rd, .bool q.wr, .bool q.sh, .int .i64 q.file, .int .i64 q.base]) := P1.out.grew g2
        clear g2
        have hpne : p ≠ w.heap.size := by have := HLP.out; omega
        have hpne' : w.heap.size ≠ p := by have := HLP.out; omega
        by_cases hz : arW q = 0
        · have HZ : Hid (arW q = 0) := hz
          have hzb : (arW q != 0) = false := by simp [hz]
          have HOK : Hid (ArOk q) := arW_zero.1 hz
          have OW' : Hid (∀ (j : Nat) x, j < kk + 1 → l[j]? = some x → ArOk x) := show ∀ (j : Nat) x, _ from fun j x hj hx => by
            by_cases e : j = kk
            · subst e
              rw [HQ.out] at hx
              cases hx
              exact HOK.out
            · exact OW.out j x (by omega) hx
          clear hz
          go_upto_region 9 with fail
          generalize arW q = zq
          cases kk with
          | zero =>
            have HNX : Hid (wrGo (prevO l 1) (l.drop 1) 1 = ANS) := wrn_first IW.out HQ.out HZ.out
            have hz0 : ¬ (0 : Int) < ((0 : Nat) : Int) := by decide
            have hz1 : decide ((0 : Int) < ((0 : Nat) : Int)) = false := by decide
            go_quiet (fail)
            go_wp2
            go_roundg (n - 1)
            case measure => omega
            case rel => exact ⟨1, by omega, by omega, by go_num, G2.out.trans (show Below _ _ _ from Go.below_drewN (Below.refl _ _) _), F2.out.grew (show Below _ _ _ from Go.below_drewN (Below.refl _ _) _), HNX.out, OW'.out⟩
          | succ j =>
            obtain ⟨b, HB⟩ : ∃ b, Hid (l[j]? = some b) := ⟨_, List.getElem?_eq_getElem (by rw [HN.out]; omega)⟩
            have HBK : Hid (ArOk b) := OW.out j b (by omega) HB.out
            have hz0 : (0 : Int) < ((j + 1 : Nat) : Int) := by omega
            have hz1 : decide ((0 : Int) < ((j + 1 : Nat) : Int)) = true := by simp
            have hj1 : ((j + 1 : Nat) : Int) - 1 = (j : Int) := by omega
            have hjn : (j : Int) < (n : Int) := by omega
            obtain ⟨ad', had, hl⟩ := HR'.out j b HB.out
            obtain rfl : ad = ad' := by cases had; rfl
            by_cases hc : q.fr < b.to
            · have HR : Hid (ANS = (2, ((j + 1 : Nat) : Int))) := wrn_form IW.out HB.out HQ.out HZ.out (.inl hc)
              have hcd : decide (q.fr < b.to) = true := by simpa using hc
              obtain ⟨e0, e1, e2, e3, e4, e5, e6⟩ := hl W2 G2.out
              have p0 := P2.out.c 0 rfl
              clear hl
              go_quiet (fail)
              obtain ⟨W3, hW3⟩ : ∃ W3, W2.drewN nq = W3 := ⟨_, rfl⟩
              have G3 : Hid (Grew w W3) := show Grew _ _ by rw [← hW3]; exact G2.out.trans (show Below _ _ _ from Go.below_drewN (Below.refl _ _) _)
              have F3 : Hid (Box W3 w.heap.size [.int .i64 0, .int .i64 0]) := show Box _ _ _ by rw [← hW3]; exact F2.out.grew (show Below _ _ _ from Go.below_drewN (Below.refl _ _) _)
              rw [hW3]
              clear hW3 e0 e1 e2 e3 e4 e5 e6 p0
              have f0 := F3.out.c 0 rfl
              have f1 := F3.out.c 1 rfl
              have ff := F3.out.f
              have RB : Hid (Box ((W3.setCell ⟨w.heap.size, 0, none⟩ (.int .i64 2)).setCell ⟨w.heap.size, 1, none⟩ (.int .i64 ((j + 1 : Nat) : Int))) w.heap.size [.int .i64 2, .int .i64 ((j + 1 : Nat) : Int)]) := show Box _ _ _ from (F3.out.set 0 _).set 1 _
              have RG : Hid (Grew w ((W3.setCell ⟨w.heap.size, 0, none⟩ (.int .i64 2)).setCell ⟨w.heap.size, 1, none⟩ (.int .i64 ((j + 1 : Nat) : Int)))) := show Grew _ _ from grew_set (grew_set G3.out (by simp) _) (by simp) _
              go_wp2
              refine bodyPost_ret (ret_cell (vs := [.int .i64 2, .int .i64 ((j + 1 : Nat) : Int)]) rfl _ rfl RB.out Try.underlying39 rfl Try.sizeFault) rfl ⟨?_, RG.out⟩
              rw [HR.out]
            · have hcd : decide (q.fr < b.to) = false := by simpa using hc
              have HC : Hid (¬ q.fr < b.to) := hc
              have hx0 : ∀ y : GrownW W2, y.world.cell? ⟨p, 0, none⟩ = some (.int .i64 q.fr) := fun y => (P2.out.grew y.grew).c 0 rfl
              have hx1 : ∀ y : GrownW W2, y.world.cell? ⟨p, 1, none⟩ = some (.int .i64 q.to) := fun y => (P2.out.grew y.grew).c 1 rfl
              have hx2 : ∀ y : GrownW W2, y.world.cell? ⟨p, 2, none⟩ = some (.bool q.rd) := fun y => (P2.out.grew y.grew).c 2 rfl
              have hx3 : ∀ y : GrownW W2, y.world.cell? ⟨p, 3, none⟩ = some (.bool q.wr) := fun y => (P2.out.grew y.grew).c 3 rfl
              have hx4 : ∀ y : GrownW W2, y.world.cell? ⟨p, 4, none⟩ = some (.bool q.sh) := fun y => (P2.out.grew y.grew).c 4 rfl
              have hx5 : ∀ y : GrownW W2, y.world.cell? ⟨p, 5, none⟩ = some (.int .i64 q.file) := fun y => (P2.out.grew y.grew).c 5 rfl
              have hx6 : ∀ y : GrownW W2, y.world.cell? ⟨p, 6, none⟩ = some (.int .i64 q.base) := fun y => (P2.out.grew y.grew).c 6 rfl
              have hy0 : ∀ y : GrownW W2, y.world.cell? (ad.add (j * 7)) = some (.int .i64 b.fr) := fun y => (hl _ (G2.out.trans y.grew)).1
              have hy1 : ∀ y : GrownW W2, y.world.cell? { block := (ad.add (j * 7)).block, off := (ad.add (j * 7)).off + 1 } = some (.int .i64 b.to) := fun y => (hl _ (G2.out.trans y.grew)).2.1
              have hy2 : ∀ y : GrownW W2, y.world.cell? { block := (ad.add (j * 7)).block, off := (ad.add (j * 7)).off + 2 } = some (.bool b.rd) := fun y => (hl _ (G2.out.trans y.grew)).2.2.1
              have hy3 : ∀ y : GrownW W2, y.world.cell? { block := (ad.add (j * 7)).block, off := (ad.add (j * 7)).off + 3 } = some (.bool b.wr) := fun y => (hl _ (G2.out.trans y.grew)).2.2.2.1
              have hy4 : ∀ y : GrownW W2, y.world.cell? { block := (ad.add (j * 7)).block, off := (ad.add (j * 7)).off + 4 } = some (.bool b.sh) := fun y => (hl _ (G2.out.trans y.grew)).2.2.2.2.1
              have hy5 : ∀ y : GrownW W2, y.world.cell? { block := (ad.add (j * 7)).block, off := (ad.add (j * 7)).off + 5 } = some (.int .i64 b.file) := fun y => (hl _ (G2.out.trans y.grew)).2.2.2.2.2.1
              have hy6 : ∀ y : GrownW W2, y.world.cell? { block := (ad.add (j * 7)).block, off := (ad.add (j * 7)).off + 6 } = some (.int .i64 b.base) := fun y => (hl _ (G2.out.trans y.grew)).2.2.2.2.2.2
              have hne : Nonempty (GrownW W2) := ⟨⟨_, Grew.refl _⟩⟩
              clear hl
              refine wp_lax [(19, ⟨fun v => v = .bool (goB q b), fun _ _ => True⟩)] mixed (by kernel_rfl) ?_ ?_ ?_
              · intro x hx
                simp at hx
                subst hx
                exact ⟨_, rfl⟩
              · intro x hx
                simp at hx
                subst hx
                exact fun _ _ _ _ h => h
              iterate 19 (refine lax_quiet rfl rfl rfl (fun K hK => ?_); go_big_quiet_op; refine hK _ ?_; clear hK K)
              refine lax_spec rfl rfl (fun w' hg hF => ?_) (fun v1 hv => ?_)
              · refine Does.call [.agg #[.int .i64 q.fr, .int .i64 q.to, .bool q.rd, .bool q.wr, .bool q.sh, .int .i64 q.file, .int .i64 q.base], .agg #[.int .i64 b.fr, .int .i64 b.to, .bool b.rd, .bool b.wr, .bool b.sh, .int .i64 b.file, .int .i64 b.base]] rfl Try.func37 rfl rfl rfl ?_
                refine (hgo.out q b w' HBK.out).mono ?_
                rintro e w'' ⟨rfl, hg2⟩
                exact ⟨_, rfl, hg2, rfl, trivial⟩
              subst hv
              simp only [Act.put, List.setIfInBounds_toArray, List.set_cons_succ, List.set_cons_zero]
              iterate 2 (refine lax_quiet rfl rfl rfl (fun K hK => ?_); go_big_quiet_op; refine hK _ ?_; clear hK K)
              refine lax_nil fun W3 hg1 hF => ?_
              have G3 : Hid (Grew w W3) := G2.out.trans hg1
              have F3 : Hid (Box W3 w.heap.size [.int .i64 0, .int .i64 0]) := F2.out.grew hg1
              clear hg1 hF hx0 hx1 hx2 hx3 hx4 hx5 hx6 hy0 hy1 hy2 hy3 hy4 hy5 hy6 hne
              cases hgb : goB q b with
              | true =>
                have HR : Hid (ANS = (2, ((j + 1 : Nat) : Int))) := wrn_form IW.out HB.out HQ.out HZ.out (.inr hgb)
                clear hgb
                have f0 := F3.out.c 0 rfl
                have f1 := F3.out.c 1 rfl
                have ff := F3.out.f
                have RB : Hid (Box ((W3.setCell ⟨w.heap.size, 0, none⟩ (.int .i64 2)).setCell ⟨w.heap.size, 1, none⟩ (.int .i64 ((j + 1 : Nat) : Int))) w.heap.size [.int .i64 2, .int .i64 ((j + 1 : Nat) : Int)]) := show Box _ _ _ from (F3.out.set 0 _).set 1 _
                have RG : Hid (Grew w ((W3.setCell ⟨w.heap.size, 0, none⟩ (.int .i64 2)).setCell ⟨w.heap.size, 1, none⟩ (.int .i64 ((j + 1 : Nat) : Int)))) := show Grew _ _ from grew_set (grew_set G3.out (by simp) _) (by simp) _
                go_wp2
                refine bodyPost_ret (ret_cell (vs := [.int .i64 2, .int .i64 ((j + 1 : Nat) : Int)]) rfl _ rfl RB.out Try.underlying39 rfl Try.sizeFault) rfl ⟨?_, RG.out⟩
                rw [HR.out]
              | false =>
                have HNX : Hid (wrGo (prevO l (j + 1 + 1)) (l.drop (j + 1 + 1)) (j + 1 + 1) = ANS) := wrn_next IW.out HB.out HQ.out HZ.out HC.out hgb
                clear hgb
                go_wp2
                go_roundg (n - (j + 1 + 1))
                case measure => omega
                case rel => exact ⟨j + 1 + 1, by omega, by omega, by go_num, G3.out, F3.out, HNX.out, OW'.out⟩
        · have HR : Hid (ANS = (arW q, (kk : Int))) := wrn_bad IW.out HQ.out hz
          have hzb : (arW q != 0) = true := by simp [hz]
          clear hz
          have f0 := F2.out.c 0 rfl
          have f1 := F2.out.c 1 rfl
          have ff := F2.out.f
          have RB : Hid (Box ((W2.setCell ⟨w.heap.size, 0, none⟩ (.int .i64 (arW q))).setCell ⟨w.heap.size, 1, none⟩ (.int .i64 (kk : Int))) w.heap.size [.int .i64 (arW q), .int .i64 (kk : Int)]) := show Box _ _ _ from (F2.out.set 0 _).set 1 _
          have RG : Hid (Grew w ((W2.setCell ⟨w.heap.size, 0, none⟩ (.int .i64 (arW q))).setCell ⟨w.heap.size, 1, none⟩ (.int .i64 (kk : Int)))) := show Grew _ _ from grew_set (grew_set G2.out (by simp) _) (by simp) _
          go_wp2
          refine bodyPost_ret (ret_cell (vs := [.int .i64 (arW q), .int .i64 (kk : Int)]) rfl _ rfl RB.out Try.underlying39 rfl Try.sizeFault) rfl ⟨?_, RG.out⟩
          rw [HR.out]
      · have hltz : ¬ (kk : Int) < (n : Int) := by omega
        have : kk = n := by omega
        subst this
        have HR : Hid (ANS = (0, 0)) := HEND'.out _ IW.out
        have f0 := FW.out.c 0 rfl
        have f1 := FW.out.c 1 rfl
        have ff := FW.out.f
        have RB : Hid (Box ((wr.setCell ⟨w.heap.size, 0, none⟩ (.int .i64 0)).setCell ⟨w.heap.size, 1, none⟩ (.int .i64 0)) w.heap.size [.int .i64 0, .int .i64 0]) := show Box _ _ _ from (FW.out.set 0 _).set 1 _
        have RG : Hid (Grew w ((wr.setCell ⟨w.heap.size, 0, none⟩ (.int .i64 0)).setCell ⟨w.heap.size, 1, none⟩ (.int .i64 0))) := show Grew _ _ from grew_set (grew_set BW.out (by simp) _) (by simp) _
        go_wp2
        refine bodyPost_ret (ret_cell (vs := [.int .i64 0, .int .i64 0]) rfl _ rfl RB.out Try.underlying39 rfl Try.sizeFault) rfl ⟨?_, RG.out⟩
        rw [HR.out]

end Go.Proofs.Ytlkgmjdhggfimad
