/- Contracts of pagesThat, Pages and Find (package table). -/
import Derived.Test.YtodbgjhdfjpcpacTbGet
namespace Go.Proofs.Ytodbgjhdfjpcpac
open Go.RowKit

def allB (_ : En) : Bool := true
def fitB (k n : Int) (e : En) : Bool := (e.kind == k) && (e.n == n)

theorem pages1_any (k n : Int) (b : Bool) (w : World) :
    Calls Try.prog 65 #[.agg #[.int .i64 k, .int .i64 n, .bool b]] w fun e w' => e = .returned (.bool true) ∧ Grew w w' := by
  go_enter Try.func65, Try.ntmps65
  go_wp2
  go_ret
  exact ⟨rfl, grew_alloc _ _⟩

theorem find1_any (xk xn : Int) (xb : Bool) (k n : Int) (pk pn : Nat) (w : World) (hk : Box w pk [.int .i64 k]) (hn : Box w pn [.int .i64 n]) :
    Calls Try.prog 66 #[.agg #[.int .i64 xk, .int .i64 xn, .bool xb], .pointer (some ⟨pk, 0, none⟩), .pointer (some ⟨pn, 0, none⟩)] w fun e w' => e = .returned (.bool (fitB k n ⟨xk, xn, xb⟩)) ∧ Grew w w' := by
  have H : Hid (fitB k n ⟨xk, xn, xb⟩ = ((xk == k) && (xn == n))) := rfl
  generalize fitB k n ⟨xk, xn, xb⟩ = F at H ⊢
  have c0 : ∀ o : Obj, (w.alloc o).cell? ⟨pk, 0, none⟩ = some (.int .i64 k) := fun o => (hk.alloc o).c 0 rfl
  have c1 : ∀ o : Obj, (w.alloc o).cell? ⟨pn, 0, none⟩ = some (.int .i64 n) := fun o => (hn.alloc o).c 0 rfl
  clear hk hn
  by_cases h1 : xk = k
  · have h1b : (xk == k) = true := by simpa using h1
    have HF : Hid (F = (xn == n)) := show _ = _ by rw [H.out, h1b]; rfl
    clear h1
    go_enter Try.func66, Try.ntmps66
    go_wp2
    go_ret
    exact ⟨by rw [HF.out]; rfl, grew_alloc _ _⟩
  · have h1b : (xk == k) = false := by simpa using h1
    have HF : Hid (F = false) := show _ = _ by rw [H.out, h1b]; rfl
    clear h1
    go_enter Try.func66, Try.ntmps66
    go_wp2
    go_ret
    exact ⟨by rw [HF.out]; rfl, grew_alloc _ _⟩

set_option maxRecDepth 100000 in
set_option maxHeartbeats 1000000 in
theorem thatPages_any (vs : List Value) (t : List (List En))  (w : World) (hv : TabAt w vs t) :
    Calls Try.prog 64 #[.agg vs.toArray, .func (.func 65) #[] #[]] w fun e w' => ∃ v, e = .returned v ∧ OwnRow blE w.heap.size w' v (pagesTo t allB 64) ∧ Grew w w' := by
  have HV : Hid (TabAt w vs t) := hv
  have HL : Hid (vs.length = 8) := hv.len
  clear hv

  obtain ⟨W0, hW0⟩ : ∃ W0, w.alloc (.cells vs.toArray 55) = W0 := ⟨_, rfl⟩
  have HG0 : Hid (Grew w W0) := show Grew w W0 by rw [← hW0]; exact grew_alloc _ _
  have X0 : Hid (Box W0 w.heap.size vs) := show Box _ _ _ by rw [← hW0]; exact Box.top w _ _ rfl
  have HW0 : Hid (_ = W0) := hW0
  clear hW0
  obtain ⟨PG, HPG⟩ : ∃ PG, Hid (pagesTo t allB = PG) := ⟨_, rfl⟩
  have HP0 : Hid (PG 0 = []) := show _ = _ by rw [← HPG.out]; rfl
  have HPS : Hid (∀ m : Nat, m < 64 → PG (m + 1) = if enS (getT t (m : Int)) && allB (getT t (m : Int)) then PG m ++ [(m : Int)] else PG m) := show ∀ m : Nat, _ from fun m hm => by
    rw [← HPG.out, pagesTo_succ]
    have : getT t (m : Int) = getN t (m / 8) (m % 8) := by unfold getT; rw [if_pos (by omega), Int.toNat_natCast]
    rw [this]
  have HPL : Hid (∀ m, (PG m).length ≤ m) := show ∀ m, _ from fun m => by rw [← HPG.out]; exact pagesTo_len _ _ _
  rw [HPG.out]
  have eg := enters_of Try.func65 (by kernel_rfl) rfl
  go_enter Try.func64, Try.ntmps64
  go_upto_region 1 with fail
  rw [HW0.out]
  go_wp2
  go_loopg [5, 8] 64 (fun gg s5 s8 wr => ∃ (kk : Nat) (a5 : Option Addr) (n5 c5 : Nat), kk ≤ 64 ∧ 64 - kk ≤ gg ∧ s8 = .int .i64 kk ∧ s5 = .slice a5 n5 c5 ∧ Hid (Grew W0 wr) ∧ Hid (OwnRow blE W0.heap.size wr (.slice a5 n5 c5) (PG kk)))
  case atStart => exact ⟨0, none, 0, 0, Nat.zero_le _, by omega, rfl, rfl, Grew.refl _, by rw [HP0.out]; exact OwnRow.nil _ _ _⟩
  case round =>
    obtain ⟨kk, a5, n5, c5, hkk, hg, rfl, rfl, BW, OW⟩ := hrel
    by_cases hlt : kk < 64
    · have hltz : (kk : Int) < 64 := by omega
      have hget := getTb_any vs t (kk : Int) wr (HV.out.grew (HG0.out.trans BW.out))
      have XW : Hid (Box wr w.heap.size vs) := X0.out.grew BW.out
      have HST := HPS.out kk hlt
      obtain ⟨x, HX⟩ : ∃ x, Hid (getT t (kk : Int) = x) := ⟨_, rfl⟩
      rw [HX.out] at hget HST
      have HST' : Hid (PG (kk + 1) = if enS x && allB x then PG kk ++ [(kk : Int)] else PG kk) := HST
      clear HST
      obtain ⟨xk, xn, xb⟩ := x
      go_wp2_with (refine wp_loadTab rfl (.tmp 2) rfl w.heap.size rfl XW.out HL.out ?_)
      refine hget.mono ?_
      rintro e W2 ⟨rfl, g2⟩
      have G2 : Hid (Grew W0 W2) := BW.out.trans g2
      have O2 : Hid (OwnRow blE W0.heap.size W2 (.slice a5 n5 c5) (PG kk)) := OW.out.grew g2
      clear g2 hget
      simp only [enV]
      go_upto_region 6 with fail
      obtain ⟨px, hpx⟩ : ∃ px, W2.heap.size = px := ⟨_, rfl⟩
      obtain ⟨W3, hW3⟩ : ∃ W3, W2.alloc (.cells #[.int .i64 xk, .int .i64 xn, .bool xb] 57) = W3 := ⟨_, rfl⟩
      have G3 : Hid (Grew W0 W3) := show Grew _ _ by rw [← hW3]; exact G2.out.trans (grew_alloc _ _)
      have O3 : Hid (OwnRow blE W0.heap.size W3 (.slice a5 n5 c5) (PG kk)) := show OwnRow _ _ _ _ _ by rw [← hW3]; exact O2.out.grew (grew_alloc _ _)
      have P3 : Hid (Box W3 px [.int .i64 xk, .int .i64 xn, .bool xb]) := show Box _ _ _ by rw [← hW3]; exact Box.top _ _ _ hpx.symm
      rw [hW3]
      rw [hpx]
      clear hW3 hpx
      have p0 := P3.out.c 0 rfl
      have p1 := P3.out.c 1 rfl
      have p2 := P3.out.c 2 rfl
      have his := isSome_any xk xn xb W3
      cases hs : enS ⟨xk, xn, xb⟩ with
      | false =>
        have HN : Hid (PG (kk + 1) = PG kk) := show _ = _ by rw [HST'.out, hs]; rfl
        rw [hs] at his
        clear hs
        go_wp2_with fail
        refine his.mono ?_
        rintro e W4 ⟨rfl, g4⟩
        have G4 : Hid (Grew W0 W4) := G3.out.trans g4
        have O4 : Hid (OwnRow blE W0.heap.size W4 (.slice a5 n5 c5) (PG (kk + 1))) := show OwnRow _ _ _ _ _ by rw [HN.out]; exact O3.out.grew g4
        clear g4 his p0 p1 p2
        go_wp2
        go_roundg (64 - (kk + 1))
        case measure => omega
        case rel => exact ⟨kk + 1, a5, n5, c5, by omega, by omega, by go_num, rfl, G4.out, O4.out⟩
      | true =>
        rw [hs] at his
        have HST2 : Hid (PG (kk + 1) = if allB ⟨xk, xn, xb⟩ = true then PG kk ++ [(kk : Int)] else PG kk) := show _ = _ by rw [HST'.out, hs]; rfl
        clear hs
        go_wp2_with fail
        refine his.mono ?_
        rintro e W4 ⟨rfl, g4⟩
        have G4 : Hid (Grew W0 W4) := G3.out.trans g4
        have O4 : Hid (OwnRow blE W0.heap.size W4 (.slice a5 n5 c5) (PG kk)) := O3.out.grew g4
        have P4 : Hid (Box W4 px [.int .i64 xk, .int .i64 xn, .bool xb]) := P3.out.grew g4
        clear g4 his p0 p1 p2
        have p0 := P4.out.c 0 rfl
        have p1 := P4.out.c 1 rfl
        have p2 := P4.out.c 2 rfl
        have hcl := pages1_any xk xn xb W4
        rw [if_pos (show allB ⟨xk, xn, xb⟩ = true from rfl)] at HST2
        go_wp2_with fail
        refine hcl.mono ?_
        rintro e W5 ⟨rfl, g5⟩
        have G5 : Hid (Grew W0 W5) := G4.out.trans g5
        have O5 : Hid (OwnRow blE W0.heap.size W5 (.slice a5 n5 c5) (PG kk)) := O4.out.grew g5
        clear g5 hcl p0 p1 p2
        have HR1 : Hid (RowAt blE (W5.alloc (.cells #[.int .i64 (kk : Int)] 3)) (.slice (some ⟨W5.heap.size, 0, none⟩) 1 1) [(kk : Int)]) := one_row blE W5 (kk : Int) _ _ rfl (by decide)
        go_wp2_with (at_builtin; refine wpList_append_row (E := blE) rfl (.tmp 21) (.tmp 23) rfl W0.heap.size _ (PG kk) rfl (O5.out.grew (grew_alloc _ _)) _ [(kk : Int)] rfl HR1.out ?qb ?qc ?_)
        case qb =>
          have := HPL.out kk
          show (_ + 1) * 8 ≤ _
          omega
        case qc =>
          have := Below.size G5.out
          simp
          omega
        intro v6 W6 ow6 gr6
        obtain ⟨a6, c6, rfl⟩ := ow6.form
        have O6 : Hid (OwnRow blE W0.heap.size W6 (.slice a6 (PG kk ++ [(kk : Int)]).length c6) (PG (kk + 1))) := show OwnRow _ _ _ _ _ by rw [HST2.out]; exact ow6
        have G6 : Hid (Grew W0 W6) := show Grew _ _ from grew_beside (G5.out.trans (grew_alloc _ _)) gr6 (fun g hg => (O5.out.lt g hg).1)
        clear ow6 gr6 HR1
        go_wp2
        go_roundg (64 - (kk + 1))
        case measure => omega
        case rel => exact ⟨kk + 1, _, _, _, by omega, by omega, by go_num, rfl, G6.out, O6.out⟩
    · have hltz : ¬ (kk : Int) < 64 := by omega
      have : kk = 64 := by omega
      subst this
      have OE : Hid (OwnRow blE w.heap.size wr (.slice a5 n5 c5) (PG 64)) := OW.out.base (Below.size HG0.out)
      have GE : Hid (Grew w wr) := HG0.out.trans BW.out
      go_wp2
      go_ret
      exact ⟨_, rfl, OE.out, GE.out⟩

set_option maxRecDepth 100000 in
set_option maxHeartbeats 1000000 in
theorem thatFind_any (vs : List Value) (t : List (List En)) (k n : Int) (pk pn : Nat) (w : World) (hv : TabAt w vs t) (hk : Box w pk [.int .i64 k]) (hn : Box w pn [.int .i64 n]) :
    Calls Try.prog 64 #[.agg vs.toArray, .func (.func 66) #[] #[.pointer (some ⟨pk, 0, none⟩), .pointer (some ⟨pn, 0, none⟩)]] w fun e w' => ∃ v, e = .returned v ∧ OwnRow blE w.heap.size w' v (pagesTo t (fitB k n) 64) ∧ Grew w w' := by
  have HV : Hid (TabAt w vs t) := hv
  have HL : Hid (vs.length = 8) := hv.len
  clear hv
  have HK : Hid (Box w pk [.int .i64 k]) := hk
  have HNB : Hid (Box w pn [.int .i64 n]) := hn
  clear hk hn
  obtain ⟨W0, hW0⟩ : ∃ W0, w.alloc (.cells vs.toArray 55) = W0 := ⟨_, rfl⟩
  have HG0 : Hid (Grew w W0) := show Grew w W0 by rw [← hW0]; exact grew_alloc _ _
  have X0 : Hid (Box W0 w.heap.size vs) := show Box _ _ _ by rw [← hW0]; exact Box.top w _ _ rfl
  have HW0 : Hid (_ = W0) := hW0
  clear hW0
  obtain ⟨PG, HPG⟩ : ∃ PG, Hid (pagesTo t (fitB k n) = PG) := ⟨_, rfl⟩
  have HP0 : Hid (PG 0 = []) := show _ = _ by rw [← HPG.out]; rfl
  have HPS : Hid (∀ m : Nat, m < 64 → PG (m + 1) = if enS (getT t (m : Int)) && (fitB k n) (getT t (m : Int)) then PG m ++ [(m : Int)] else PG m) := show ∀ m : Nat, _ from fun m hm => by
    rw [← HPG.out, pagesTo_succ]
    have : getT t (m : Int) = getN t (m / 8) (m % 8) := by unfold getT; rw [if_pos (by omega), Int.toNat_natCast]
    rw [this]
  have HPL : Hid (∀ m, (PG m).length ≤ m) := show ∀ m, _ from fun m => by rw [← HPG.out]; exact pagesTo_len _ _ _
  rw [HPG.out]
  have eg := enters_of Try.func66 (by kernel_rfl) rfl
  go_enter Try.func64, Try.ntmps64
  go_upto_region 1 with fail
  rw [HW0.out]
  go_wp2
  go_loopg [5, 8] 64 (fun gg s5 s8 wr => ∃ (kk : Nat) (a5 : Option Addr) (n5 c5 : Nat), kk ≤ 64 ∧ 64 - kk ≤ gg ∧ s8 = .int .i64 kk ∧ s5 = .slice a5 n5 c5 ∧ Hid (Grew W0 wr) ∧ Hid (OwnRow blE W0.heap.size wr (.slice a5 n5 c5) (PG kk)))
  case atStart => exact ⟨0, none, 0, 0, Nat.zero_le _, by omega, rfl, rfl, Grew.refl _, by rw [HP0.out]; exact OwnRow.nil _ _ _⟩
  case round =>
    obtain ⟨kk, a5, n5, c5, hkk, hg, rfl, rfl, BW, OW⟩ := hrel
    by_cases hlt : kk < 64
    · have hltz : (kk : Int) < 64 := by omega
      have hget := getTb_any vs t (kk : Int) wr (HV.out.grew (HG0.out.trans BW.out))
      have XW : Hid (Box wr w.heap.size vs) := X0.out.grew BW.out
      have HST := HPS.out kk hlt
      obtain ⟨x, HX⟩ : ∃ x, Hid (getT t (kk : Int) = x) := ⟨_, rfl⟩
      rw [HX.out] at hget HST
      have HST' : Hid (PG (kk + 1) = if enS x && (fitB k n) x then PG kk ++ [(kk : Int)] else PG kk) := HST
      clear HST
      obtain ⟨xk, xn, xb⟩ := x
      go_wp2_with (refine wp_loadTab rfl (.tmp 2) rfl w.heap.size rfl XW.out HL.out ?_)
      refine hget.mono ?_
      rintro e W2 ⟨rfl, g2⟩
      have G2 : Hid (Grew W0 W2) := BW.out.trans g2
      have O2 : Hid (OwnRow blE W0.heap.size W2 (.slice a5 n5 c5) (PG kk)) := OW.out.grew g2
      clear g2 hget
      simp only [enV]
      go_upto_region 6 with fail
      obtain ⟨px, hpx⟩ : ∃ px, W2.heap.size = px := ⟨_, rfl⟩
      obtain ⟨W3, hW3⟩ : ∃ W3, W2.alloc (.cells #[.int .i64 xk, .int .i64 xn, .bool xb] 57) = W3 := ⟨_, rfl⟩
      have G3 : Hid (Grew W0 W3) := show Grew _ _ by rw [← hW3]; exact G2.out.trans (grew_alloc _ _)
      have O3 : Hid (OwnRow blE W0.heap.size W3 (.slice a5 n5 c5) (PG kk)) := show OwnRow _ _ _ _ _ by rw [← hW3]; exact O2.out.grew (grew_alloc _ _)
      have P3 : Hid (Box W3 px [.int .i64 xk, .int .i64 xn, .bool xb]) := show Box _ _ _ by rw [← hW3]; exact Box.top _ _ _ hpx.symm
      rw [hW3]
      rw [hpx]
      clear hW3 hpx
      have p0 := P3.out.c 0 rfl
      have p1 := P3.out.c 1 rfl
      have p2 := P3.out.c 2 rfl
      have his := isSome_any xk xn xb W3
      cases hs : enS ⟨xk, xn, xb⟩ with
      | false =>
        have HN : Hid (PG (kk + 1) = PG kk) := show _ = _ by rw [HST'.out, hs]; rfl
        rw [hs] at his
        clear hs
        go_wp2_with fail
        refine his.mono ?_
        rintro e W4 ⟨rfl, g4⟩
        have G4 : Hid (Grew W0 W4) := G3.out.trans g4
        have O4 : Hid (OwnRow blE W0.heap.size W4 (.slice a5 n5 c5) (PG (kk + 1))) := show OwnRow _ _ _ _ _ by rw [HN.out]; exact O3.out.grew g4
        clear g4 his p0 p1 p2
        go_wp2
        go_roundg (64 - (kk + 1))
        case measure => omega
        case rel => exact ⟨kk + 1, a5, n5, c5, by omega, by omega, by go_num, rfl, G4.out, O4.out⟩
      | true =>
        rw [hs] at his
        have HST2 : Hid (PG (kk + 1) = if (fitB k n) ⟨xk, xn, xb⟩ = true then PG kk ++ [(kk : Int)] else PG kk) := show _ = _ by rw [HST'.out, hs]; rfl
        clear hs
        go_wp2_with fail
        refine his.mono ?_
        rintro e W4 ⟨rfl, g4⟩
        have G4 : Hid (Grew W0 W4) := G3.out.trans g4
        have O4 : Hid (OwnRow blE W0.heap.size W4 (.slice a5 n5 c5) (PG kk)) := O3.out.grew g4
        have P4 : Hid (Box W4 px [.int .i64 xk, .int .i64 xn, .bool xb]) := P3.out.grew g4
        clear g4 his p0 p1 p2
        have p0 := P4.out.c 0 rfl
        have p1 := P4.out.c 1 rfl
        have p2 := P4.out.c 2 rfl
        have hcl := find1_any xk xn xb k n pk pn W4 (HK.out.grew (HG0.out.trans G4.out)) (HNB.out.grew (HG0.out.trans G4.out))
        generalize fitB k n ⟨xk, xn, xb⟩ = F at hcl HST2
        cases F with
        | true =>
          rw [if_pos rfl] at HST2
          go_wp2_with fail
          refine hcl.mono ?_
          rintro e W5 ⟨rfl, g5⟩
          have G5 : Hid (Grew W0 W5) := G4.out.trans g5
          have O5 : Hid (OwnRow blE W0.heap.size W5 (.slice a5 n5 c5) (PG kk)) := O4.out.grew g5
          clear g5 hcl p0 p1 p2
          have HR1 : Hid (RowAt blE (W5.alloc (.cells #[.int .i64 (kk : Int)] 3)) (.slice (some ⟨W5.heap.size, 0, none⟩) 1 1) [(kk : Int)]) := one_row blE W5 (kk : Int) _ _ rfl (by decide)
          go_wp2_with (at_builtin; refine wpList_append_row (E := blE) rfl (.tmp 21) (.tmp 23) rfl W0.heap.size _ (PG kk) rfl (O5.out.grew (grew_alloc _ _)) _ [(kk : Int)] rfl HR1.out ?qb ?qc ?_)
          case qb =>
            have := HPL.out kk
            show (_ + 1) * 8 ≤ _
            omega
          case qc =>
            have := Below.size G5.out
            simp
            omega
          intro v6 W6 ow6 gr6
          obtain ⟨a6, c6, rfl⟩ := ow6.form
          have O6 : Hid (OwnRow blE W0.heap.size W6 (.slice a6 (PG kk ++ [(kk : Int)]).length c6) (PG (kk + 1))) := show OwnRow _ _ _ _ _ by rw [HST2.out]; exact ow6
          have G6 : Hid (Grew W0 W6) := show Grew _ _ from grew_beside (G5.out.trans (grew_alloc _ _)) gr6 (fun g hg => (O5.out.lt g hg).1)
          clear ow6 gr6 HR1
          go_wp2
          go_roundg (64 - (kk + 1))
          case measure => omega
          case rel => exact ⟨kk + 1, _, _, _, by omega, by omega, by go_num, rfl, G6.out, O6.out⟩
        | false =>
          rw [if_neg (by decide)] at HST2
          go_wp2_with fail
          refine hcl.mono ?_
          rintro e W5 ⟨rfl, g5⟩
          have G5 : Hid (Grew W0 W5) := G4.out.trans g5
          have O5 : Hid (OwnRow blE W0.heap.size W5 (.slice a5 n5 c5) (PG (kk + 1))) := show OwnRow _ _ _ _ _ by rw [HST2.out]; exact O4.out.grew g5
          clear g5 hcl p0 p1 p2
          go_wp2
          go_roundg (64 - (kk + 1))
          case measure => omega
          case rel => exact ⟨kk + 1, a5, n5, c5, by omega, by omega, by go_num, rfl, G5.out, O5.out⟩
    · have hltz : ¬ (kk : Int) < 64 := by omega
      have : kk = 64 := by omega
      subst this
      have OE : Hid (OwnRow blE w.heap.size wr (.slice a5 n5 c5) (PG 64)) := OW.out.base (Below.size HG0.out)
      have GE : Hid (Grew w wr) := HG0.out.trans BW.out
      go_wp2
      go_ret
      exact ⟨_, rfl, OE.out, GE.out⟩

set_option maxRecDepth 100000 in
theorem pagesTb_any (vs : List Value) (t : List (List En)) (w : World) (hv : TabAt w vs t) :
    Calls Try.prog 39 #[.agg vs.toArray] w fun e w' => ∃ v, e = .returned v ∧ OwnRow blE w.heap.size w' v (pagesTo t allB 64) ∧ Grew w w' := by
  have HL : Hid (vs.length = 8) := hv.len
  obtain ⟨W0, hW0⟩ : ∃ W0, w.alloc (.cells vs.toArray 55) = W0 := ⟨_, rfl⟩
  have HG0 : Hid (Grew w W0) := show Grew w W0 by rw [← hW0]; exact grew_alloc _ _
  have X0 : Hid (Box W0 w.heap.size vs) := show Box _ _ _ by rw [← hW0]; exact Box.top w _ _ rfl
  have hcall := thatPages_any vs t W0 (hv.grew HG0.out)
  have HW0 : Hid (_ = W0) := hW0
  clear hW0 hv
  generalize pagesTo t allB 64 = PG at hcall ⊢
  go_enter Try.func39, Try.ntmps39
  go_upto_region 1 with fail
  rw [HW0.out]
  go_wp2_with (refine wp_loadTab rfl (.tmp 1) rfl w.heap.size rfl X0.out HL.out ?_)
  refine hcall.mono ?_
  rintro e W2 ⟨v, rfl, ow, g2⟩
  have O2 : Hid (OwnRow blE w.heap.size W2 v PG) := ow.base (Below.size HG0.out)
  have G2 : Hid (Grew w W2) := HG0.out.trans g2
  clear ow g2 hcall
  go_wp2
  go_ret
  exact ⟨v, rfl, O2.out, G2.out⟩

set_option maxRecDepth 100000 in
theorem findTb_any (vs : List Value) (t : List (List En)) (k n : Int) (w : World) (hv : TabAt w vs t) :
    Calls Try.prog 40 #[.agg vs.toArray, .int .i64 k, .int .i64 n] w fun e w' => ∃ v, e = .returned v ∧ OwnRow blE w.heap.size w' v (pagesTo t (fitB k n) 64) ∧ Grew w w' := by
  have hmf : ∀ (fn : Fn) (first cap : Array Value) (w : World), (Instr.makeFunc fn first cap).run Try.prog w = .ok (.func fn first cap) w := fun _ _ _ _ => rfl
  have HL : Hid (vs.length = 8) := hv.len
  obtain ⟨W0, hW0⟩ : ∃ W0, ((w.alloc (.cells vs.toArray 55)).alloc (.cells #[.int .i64 k] 3)).alloc (.cells #[.int .i64 n] 3) = W0 := ⟨_, rfl⟩
  have HG0 : Hid (Grew w W0) := show Grew w W0 by rw [← hW0]; exact ((grew_alloc _ _).trans (grew_alloc _ _)).trans (grew_alloc _ _)
  have X0 : Hid (Box W0 w.heap.size vs) := show Box _ _ _ by rw [← hW0]; exact ((Box.top w _ _ rfl).alloc _).alloc _
  have HK : Hid (Box W0 (w.heap.size + 1) [.int .i64 k]) := show Box _ _ _ by rw [← hW0]; exact (Box.top _ _ _ (by simp)).alloc _
  have HN : Hid (Box W0 (w.heap.size + 2) [.int .i64 n]) := show Box _ _ _ by rw [← hW0]; exact Box.top _ _ _ (by simp)
  have hcall := thatFind_any vs t k n (w.heap.size + 1) (w.heap.size + 2) W0 (hv.grew HG0.out) HK.out HN.out
  have HW0 : Hid (_ = W0) := hW0
  clear hW0 hv
  generalize pagesTo t (fitB k n) 64 = PG at hcall ⊢
  go_enter Try.func40, Try.ntmps40
  go_upto_region 1 with fail
  rw [HW0.out]
  go_wp2_with (refine wp_loadTab rfl (.tmp 3) rfl w.heap.size rfl X0.out HL.out ?_)
  refine hcall.mono ?_
  rintro e W2 ⟨v, rfl, ow, g2⟩
  have O2 : Hid (OwnRow blE w.heap.size W2 v PG) := ow.base (Below.size HG0.out)
  have G2 : Hid (Grew w W2) := HG0.out.trans g2
  clear ow g2 hcall
  go_wp2
  go_ret
  exact ⟨v, rfl, O2.out, G2.out⟩

end Go.Proofs.Ytodbgjhdfjpcpac
