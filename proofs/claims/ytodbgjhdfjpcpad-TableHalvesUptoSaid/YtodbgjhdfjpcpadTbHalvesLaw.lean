/- The walk of the law TableHalves. -/
import Derived.Test.YtodbgjhdfjpcpadTbAlive
import Derived.Test.YtodbgjhdfjpcpadSetMap
namespace Go.Proofs.Ytodbgjhdfjpcpad
open Go.RowKit
open Go.Maps (int_keyed keyOf_int_mk setOf setOf_snoc tidy_setOf atKey_put_same atKey_put_other)

theorem atKey_set (u z : DataW Unit) : ∀ (n : Nat) (L : List Int) (x : Int), L.length = n → x ∈ L → (setOf u (L.map (Lit.int .i64))).atKey (.int .i64 x) z = u
  | 0, L, x, hn, hx => by
    rw [List.length_eq_zero_iff.1 hn] at hx
    cases hx
  | n + 1, L, x, hn, hx => by
    obtain ⟨M, y, rfl⟩ : ∃ M y, L = M ++ [y] := by
      have hne : L ≠ [] := fun e => by rw [e] at hn; cases hn
      exact ⟨L.dropLast, L.getLast hne, (List.dropLast_concat_getLast hne).symm⟩
    rw [List.map_append, List.map_cons, List.map_nil, setOf_snoc]
    by_cases e : x = y
    · subst e
      exact atKey_put_same (tidy_setOf u _ (fun k hk => by obtain ⟨q, _, rfl⟩ := List.mem_map.1 hk; trivial)).isMap (show Go.WideAt.IsKeyLit (.int .i64 x) from trivial) _ _
    · rw [atKey_put_other (fun h => e (by cases h; rfl))]
      refine atKey_set u z n M x (by simpa using hn) ?_
      rcases List.mem_append.1 hx with h | h
      · exact h
      · simp at h
        exact absurd h e

theorem SetAt.hit {w : World} {b : Nat} {L : List Int} (h : SetAt w b L) {x : Int} (hx : (Lit.int .i64 x).wf = true) (hn : x ∈ L) (hz : (zeroValue 4).run Try.prog w = .ok (.bool false) w) : (Instr.lookup 32 (.map (some b)) (.int .i64 x) false).run Try.prog w = .ok (.bool true) w := by
  obtain ⟨v, ps, h1, h2⟩ := World.ownsMap.lookup h Try.keyInt Try.underlying32 hz (plainElem_bool (H := Unit) Try.underlying4 false) (keyOf_int_mk Try.underlying3 hx)
  rw [atKey_set _ _ L.length L x rfl hn] at h2
  rw [h1]
  have hv : v = .bool true := by
    unfold plainElem at h2
    rw [Try.underlying4] at h2
    cases v <;> simp at h2
    rw [h2.1]
  rw [hv]

theorem set_step {t : List (List En)} (h : TbOk t) (n : Int) (x : En) (he : setE t n x = 0) : TbOk (setR t n x) := by
  rcases set_cases t n x with ⟨hz, e1, _⟩ | ⟨_, _, e1, _⟩ | ⟨_, _, hx, e1, _⟩ | ⟨hz, hn, hx, _, e2⟩
  · rw [e1] at he; exact absurd he hz
  · rw [e1] at he; cases he
  · rw [e1] at he; exact absurd he hx
  · rw [e2]; exact setT_ok h hx
theorem none8_ok : TbOk none8 := ⟨rfl, fun h hh => by
  rw [none8, List.mem_replicate] at hh
  exact .inl hh.2⟩

set_option maxRecDepth 100000 in
set_option maxHeartbeats 4000000 in
theorem tableHalves_any (la : Option Addr) (lc : Nat) (l : List Int) (da : Option Addr) (dc : Nat) (d : List Int) (w : World) (hl : RowAt blE w (.slice la l.length lc) l) (hd : RowAt blE w (.slice da d.length dc) d) (hbl : l.length ≤ 1048576) (hbd : d.length ≤ 1048576) :
    Calls Try.prog 3 #[.slice la l.length lc, .slice da d.length dc] w fun e w' => e = .returned (.bool true) ∧ Grew w w' := by
  have HRL : Hid (RowAt blE w (.slice la l.length lc) l) := hl
  have HRD : Hid (RowAt blE w (.slice da d.length dc) d) := hd
  clear hl hd
  obtain ⟨nl, HNL⟩ : ∃ nl, Hid (l.length = nl) := ⟨_, rfl⟩
  obtain ⟨nd, HND⟩ : ∃ nd, Hid (d.length = nd) := ⟨_, rfl⟩
  rw [HNL.out] at HRL hbl ⊢
  rw [HND.out] at HRD hbd ⊢
  have hset : ∀ (vs : List Value) (t : List (List En)) (n k m : Int) (b : Bool) (W : World), TabAt W vs t → Calls Try.prog 5 #[.agg vs.toArray, .int .i64 n, .agg #[.int .i64 k, .int .i64 m, .bool b]] W fun e w' => ∃ us, e = .returned (.tuple #[.agg us.toArray, .int .i64 (setE t n ⟨k, m, b⟩)]) ∧ TabS 0 W.heap.size w' us (setR t n ⟨k, m, b⟩) ∧ Grew W w' := fun vs t n k m b W hW => setTb_any vs t n ⟨k, m, b⟩ W hW
  have HSET : Hid (∀ (vs : List Value) (t : List (List En)) (n k m : Int) (b : Bool) (W : World), TabAt W vs t → Calls Try.prog 5 #[.agg vs.toArray, .int .i64 n, .agg #[.int .i64 k, .int .i64 m, .bool b]] W fun e w' => ∃ us, e = .returned (.tuple #[.agg us.toArray, .int .i64 (setE t n ⟨k, m, b⟩)]) ∧ TabS 0 W.heap.size w' us (setR t n ⟨k, m, b⟩) ∧ Grew W w') := hset
  clear hset
  go_enter Try.func3, Try.ntmps3
  go_wp2_with fail
  refine (aliveTb_any w).mono ?_
  rintro e W1 ⟨rfl, g1⟩
  have G1 : Hid (Grew w W1) := g1
  clear g1
  go_upto_region 4 with fail
  obtain ⟨pt, hpt⟩ : ∃ pt, W1.heap.size = pt := ⟨_, rfl⟩
  obtain ⟨W2, hW2⟩ : ∃ W2, W1.alloc (.cells #[.slice none 0 0, .slice none 0 0, .slice none 0 0, .slice none 0 0, .slice none 0 0, .slice none 0 0, .slice none 0 0, .slice none 0 0] 26) = W2 := ⟨_, rfl⟩
  have G2 : Hid (Grew w W2) := show Grew _ _ by rw [← hW2]; exact G1.out.trans (grew_alloc _ _)
  have P2 : Hid (Box W2 pt nil8) := show Box _ _ _ by rw [← hW2]; exact Box.top _ nil8 _ hpt.symm
  have HWP : Hid (w.heap.size ≤ pt) := show _ ≤ _ by rw [← hpt]; exact Below.size G1.out
  rw [hW2]
  rw [hpt]
  clear hW2 hpt
  go_wp2_with (at_builtin; refine wpList_append_row (E := blE) rfl (.tmp 18) (.tmp 19) rfl W2.heap.size _ [] rfl (OwnRow.made blE W2) _ l rfl (HRL.out.grew (G2.out.trans (grew_alloc _ _))) ?qb (by simp) ?_)
  case qb =>
    rw [List.length_nil, Nat.zero_add, HNL.out]
    show nl * 8 ≤ _
    omega
  intro v3 W3 ow3 gr3
  try rw [List.nil_append] at ow3
  obtain ⟨a3, c3, rfl⟩ := ow3.form
  rw [HNL.out] at ow3 ⊢
  have O3 : Hid (OwnRow blE W2.heap.size W3 (.slice a3 nl c3) l) := ow3
  have G23 : Hid (Grew W2 W3) := show Grew _ _ from grew_beside (grew_alloc _ _) gr3 (fun g hg => by simp [Value.ownBlock] at hg; omega)
  clear ow3 gr3
  go_wp2_with (at_builtin; refine wpList_append_row (E := blE) rfl (.tmp 20) (.tmp 21) rfl W2.heap.size _ l rfl O3.out _ d rfl (HRD.out.grew (G2.out.trans G23.out)) ?qb2 (Below.size G23.out) ?_)
  case qb2 =>
    rw [HNL.out, HND.out]
    show (nl + nd) * 8 ≤ _
    omega
  intro v4 W4 ow4 gr4
  obtain ⟨a4, c4, rfl⟩ := ow4.form
  rw [List.length_append, HNL.out, HND.out] at ow4 ⊢
  have R4 : Hid (RowS blE 0 (pt + 1) W4 (.slice a4 (nl + nd) c4) (l ++ d)) := show RowS _ _ _ _ _ _ from ow4.new.stays.less (Nat.le_refl _) P2.out.lt
  have G24 : Hid (Grew W2 W4) := show Grew _ _ from grew_beside G23.out gr4 (fun g hg => (O3.out.lt g hg).1)
  clear ow4 gr4
  obtain ⟨N, hN⟩ : ∃ N, nl + nd = N := ⟨_, rfl⟩
  have HNN : Hid ((l ++ d).length = N) := show _ = _ by rw [List.length_append, HNL.out, HND.out]; exact hN
  have hNb : N ≤ 2097152 := by omega
  rw [hN] at R4 ⊢
  clear hN
  go_wp2
  go_loopg [24] N (fun gg s24 wr => ∃ (kk : Nat) (vs : List Value) (t : List (List En)), kk ≤ N ∧ N - kk ≤ gg ∧ s24 = .int .i64 kk ∧ Hid (Grew w wr) ∧ Hid (Box wr pt vs) ∧ Hid (TabS 0 (pt + 1) wr vs t) ∧ Hid (TbOk t) ∧ Hid (RowS blE 0 (pt + 1) wr (.slice a4 N c4) (l ++ d)))
  case atStart => exact ⟨0, nil8, none8, Nat.zero_le _, by omega, rfl, G2.out.trans G24.out, P2.out.grew G24.out, TabS.nil _ _ _, none8_ok, R4.out⟩
  case round =>
    obtain ⟨kk, vs, t, hkk, hgg, rfl, BW, PW, TW, OKW, RW⟩ := hrel
    by_cases hlt : kk < N
    · have hltz : (kk : Int) < (N : Int) := by omega
      obtain ⟨n, HQ⟩ : ∃ n, Hid ((l ++ d)[kk]? = some n) := ⟨_, List.getElem?_eq_getElem (by rw [HNN.out]; exact hlt)⟩
      obtain ⟨_, _, heq, hnum⟩ := RW.out.now.nums
      rw [HNN.out] at heq
      cases heq
      obtain ⟨ad, rfl, hld⟩ := hnum kk n HQ.out
      have d0 := hld wr (Grew.refl _)
      clear hld hnum
      go_upto_region 8 with fail
      obtain ⟨pe, hpe⟩ : ∃ pe, wr.heap.size = pe := ⟨_, rfl⟩
      obtain ⟨W5, hW5⟩ : ∃ W5, wr.alloc (.cells #[.int .i64 1, .int .i64 1, .bool false] 28) = W5 := ⟨_, rfl⟩
      have E5 : Hid (Box W5 pe [.int .i64 1, .int .i64 1, .bool false]) := show Box _ _ _ by rw [← hW5]; exact Box.top _ _ _ hpe.symm
      have G5 : Hid (Grew wr W5) := show Grew _ _ by rw [← hW5]; exact grew_alloc _ _
      have HPE : Hid (pt + 1 ≤ pe) := show _ ≤ _ by rw [← hpe]; exact PW.out.lt
      have HPS : Hid (wr.heap.size ≤ pe) := show _ ≤ _ by rw [← hpe]; exact Nat.le_refl _
      rw [hW5]
      rw [hpe]
      clear hW5 hpe d0
      by_cases hin : kk < nl
      · have hinz : ¬ (nl : Int) ≤ (kk : Int) := by omega
        have hind : decide ((nl : Int) ≤ (kk : Int)) = false := decide_eq_false hinz
        obtain ⟨W6, HE6⟩ : ∃ W6, Hid (W5 = W6) := ⟨_, rfl⟩
        rw [HE6.out]
        have E6 : Hid (Box W6 pe [.int .i64 1, .int .i64 1, .bool false]) := show Box _ _ _ by rw [← HE6.out]; exact E5.out
        have O6 : Hid (Out 0 0 wr W6) := show Out _ _ _ _ by rw [← HE6.out]; exact Out.grew G5.out
        have GW6 : Hid (Grew wr W6) := O6.out.zero
        clear HE6 hin
        have X6 : Hid (Box W6 pt vs) := PW.out.grew GW6.out
        have T6 : Hid (TabS 0 (pt + 1) W6 vs t) := TW.out.grew GW6.out
        have R6 : Hid (RowS blE 0 (pt + 1) W6 (.slice (some ad) N c4) (l ++ d)) := RW.out.out (Out.grew GW6.out)
        have G6 : Hid (Grew w W6) := BW.out.trans GW6.out
        have e0 := E6.out.c 0 rfl
        have e1 := E6.out.c 1 rfl
        have e2 := E6.out.c 2 rfl
        go_wp2_with (refine wp_loadTab rfl (.tmp 5) rfl pt rfl X6.out T6.out.len ?_)
        refine (HSET.out vs t n 1 1 false W6 T6.out.now).mono ?_
        rintro e W7 ⟨us, rfl, ts, g7⟩
        have TS : Hid (TabS 0 (pt + 1) W7 us (setR t n ⟨1, 1, false⟩)) := ts.less (Nat.le_refl _) X6.out.lt
        have X7 : Hid (Box W7 pt vs) := X6.out.grew g7
        have T7 : Hid (TabS 0 (pt + 1) W7 vs t) := T6.out.grew g7
        have R7 : Hid (RowS blE 0 (pt + 1) W7 (.slice (some ad) N c4) (l ++ d)) := R6.out.out (Out.grew g7)
        have G7 : Hid (Grew w W7) := G6.out.trans g7
        have OKR : Hid (setE t n ⟨1, 1, false⟩ = 0 → TbOk (setR t n ⟨1, 1, false⟩)) := show _ → _ from fun h => set_step OKW.out n _ h
        clear ts g7 e0 e1 e2
        generalize setR t n ⟨1, 1, false⟩ = R at TS OKR
        generalize setE t n ⟨1, 1, false⟩ = S at OKR ⊢
        obtain ⟨px, HPX⟩ : ∃ px, Hid (W7.heap.size = px) := ⟨_, rfl⟩
        go_wp2_with (refine wp_storeAll rfl 26 (.tmp 9) (.tmp 40) rfl W7.heap.size rfl us rfl (Box.top W7 nil8 26 rfl) TS.out.len Try.sizeTable TS.out.one ?_)
        intro W8 b8 g8 s8
        rw [HPX.out] at b8 g8 ⊢
        have G78 : Hid (Grew W7 W8) := show Grew _ _ from grew_grown (grew_alloc W7 _) g8 (by rw [HPX.out]; exact Nat.le_refl _)
        have P8 : Hid (Box W8 px us) := b8
        have X8 : Hid (Box W8 pt vs) := X7.out.grew G78.out
        have T8 : Hid (TabS 0 (pt + 1) W8 vs t) := T7.out.grew G78.out
        have TS8 : Hid (TabS 0 (pt + 1) W8 us R) := TS.out.grew G78.out
        have R8 : Hid (RowS blE 0 (pt + 1) W8 (.slice (some ad) N c4) (l ++ d)) := R7.out.out (Out.grew G78.out)
        have G8 : Hid (Grew w W8) := G7.out.trans G78.out
        clear b8 g8 s8
        by_cases hS : S = 0
        · have OKS := OKR.out hS
          have OKS' : Hid (TbOk R) := OKS
          subst hS
          clear OKS
          go_wp2_with (first | refine wp_loadTab rfl (.tmp 9) rfl px rfl P8.out TS8.out.len ?_ | refine wp_storeAll rfl 26 (.tmp 5) (.tmp 44) rfl pt rfl us rfl X8.out (by rw [TS8.out.len, T8.out.len]) (by rw [T8.out.len]; exact Try.sizeTable) TS8.out.one ?_)
          intro W9 b9 g9 s9
          have OO : Hid (Out 0 (pt + 1) W8 W9) := Out.grown g9 (fun g h => by cases h; omega)
          have P9 : Hid (Box W9 pt us) := b9
          have TS9 : Hid (TabS 0 (pt + 1) W9 us R) := TS8.out.out OO.out
          have R9 : Hid (RowS blE 0 (pt + 1) W9 (.slice (some ad) N c4) (l ++ d)) := R8.out.out OO.out
          have G9 : Hid (Grew w W9) := show Grew _ _ from grew_grown G8.out g9 HWP.out
          clear b9 g9 s9
          go_wp2
          go_roundg (N - (kk + 1))
          case measure => omega
          case rel => exact ⟨kk + 1, us, R, by omega, by omega, by go_num, G9.out, P9.out, TS9.out, OKS'.out, R9.out⟩
        · have hSb : (S == 0) = false := by simpa using hS
          clear hS
          go_wp2
          go_roundg (N - (kk + 1))
          case measure => omega
          case rel => exact ⟨kk + 1, vs, t, by omega, by omega, by go_num, G8.out, X8.out, T8.out, OKW.out, R8.out⟩
      · have hinz : (nl : Int) ≤ (kk : Int) := by omega
        have e0 := E5.out.c 0 rfl
        have e1 := E5.out.c 1 rfl
        have e2 := E5.out.c 2 rfl
        have ef := E5.out.f
        go_upto_region 10 with fail
        obtain ⟨W6, hW6⟩ : ∃ W6, ((W5.setCell ⟨pe, 0, none⟩ (.int .i64 0)).setCell ⟨pe, 1, none⟩ (.int .i64 0)).setCell ⟨pe, 2, none⟩ (.bool false) = W6 := ⟨_, rfl⟩
        have E6 : Hid (Box W6 pe [.int .i64 0, .int .i64 0, .bool false]) := show Box _ _ _ by rw [← hW6]; simpa using ((E5.out.set 0 (.int .i64 0)).set 1 (.int .i64 0)).set 2 (.bool false)
        have GW6 : Hid (Grew wr W6) := show Grew _ _ by
          rw [← hW6]
          have hp : wr.heap.size ≤ pe := HPS.out
          exact Below.setCell (Below.setCell (Below.setCell G5.out (p := ⟨pe, 0, none⟩) hp _) (p := ⟨pe, 1, none⟩) hp _) (p := ⟨pe, 2, none⟩) hp _
        rw [hW6]
        clear hW6 e0 e1 e2 ef hin
        have X6 : Hid (Box W6 pt vs) := PW.out.grew GW6.out
        have T6 : Hid (TabS 0 (pt + 1) W6 vs t) := TW.out.grew GW6.out
        have R6 : Hid (RowS blE 0 (pt + 1) W6 (.slice (some ad) N c4) (l ++ d)) := RW.out.out (Out.grew GW6.out)
        have G6 : Hid (Grew w W6) := BW.out.trans GW6.out
        have e0 := E6.out.c 0 rfl
        have e1 := E6.out.c 1 rfl
        have e2 := E6.out.c 2 rfl
        go_wp2_with (refine wp_loadTab rfl (.tmp 5) rfl pt rfl X6.out T6.out.len ?_)
        refine (HSET.out vs t n 0 0 false W6 T6.out.now).mono ?_
        rintro e W7 ⟨us, rfl, ts, g7⟩
        have TS : Hid (TabS 0 (pt + 1) W7 us (setR t n ⟨0, 0, false⟩)) := ts.less (Nat.le_refl _) X6.out.lt
        have X7 : Hid (Box W7 pt vs) := X6.out.grew g7
        have T7 : Hid (TabS 0 (pt + 1) W7 vs t) := T6.out.grew g7
        have R7 : Hid (RowS blE 0 (pt + 1) W7 (.slice (some ad) N c4) (l ++ d)) := R6.out.out (Out.grew g7)
        have G7 : Hid (Grew w W7) := G6.out.trans g7
        have OKR : Hid (setE t n ⟨0, 0, false⟩ = 0 → TbOk (setR t n ⟨0, 0, false⟩)) := show _ → _ from fun h => set_step OKW.out n _ h
        clear ts g7 e0 e1 e2
        generalize setR t n ⟨0, 0, false⟩ = R at TS OKR
        generalize setE t n ⟨0, 0, false⟩ = S at OKR ⊢
        obtain ⟨px, HPX⟩ : ∃ px, Hid (W7.heap.size = px) := ⟨_, rfl⟩
        go_wp2_with (refine wp_storeAll rfl 26 (.tmp 9) (.tmp 40) rfl W7.heap.size rfl us rfl (Box.top W7 nil8 26 rfl) TS.out.len Try.sizeTable TS.out.one ?_)
        intro W8 b8 g8 s8
        rw [HPX.out] at b8 g8 ⊢
        have G78 : Hid (Grew W7 W8) := show Grew _ _ from grew_grown (grew_alloc W7 _) g8 (by rw [HPX.out]; exact Nat.le_refl _)
        have P8 : Hid (Box W8 px us) := b8
        have X8 : Hid (Box W8 pt vs) := X7.out.grew G78.out
        have T8 : Hid (TabS 0 (pt + 1) W8 vs t) := T7.out.grew G78.out
        have TS8 : Hid (TabS 0 (pt + 1) W8 us R) := TS.out.grew G78.out
        have R8 : Hid (RowS blE 0 (pt + 1) W8 (.slice (some ad) N c4) (l ++ d)) := R7.out.out (Out.grew G78.out)
        have G8 : Hid (Grew w W8) := G7.out.trans G78.out
        clear b8 g8 s8
        by_cases hS : S = 0
        · have OKS := OKR.out hS
          have OKS' : Hid (TbOk R) := OKS
          subst hS
          clear OKS
          go_wp2_with (first | refine wp_loadTab rfl (.tmp 9) rfl px rfl P8.out TS8.out.len ?_ | refine wp_storeAll rfl 26 (.tmp 5) (.tmp 44) rfl pt rfl us rfl X8.out (by rw [TS8.out.len, T8.out.len]) (by rw [T8.out.len]; exact Try.sizeTable) TS8.out.one ?_)
          intro W9 b9 g9 s9
          have OO : Hid (Out 0 (pt + 1) W8 W9) := Out.grown g9 (fun g h => by cases h; omega)
          have P9 : Hid (Box W9 pt us) := b9
          have TS9 : Hid (TabS 0 (pt + 1) W9 us R) := TS8.out.out OO.out
          have R9 : Hid (RowS blE 0 (pt + 1) W9 (.slice (some ad) N c4) (l ++ d)) := R8.out.out OO.out
          have G9 : Hid (Grew w W9) := show Grew _ _ from grew_grown G8.out g9 HWP.out
          clear b9 g9 s9
          go_wp2
          go_roundg (N - (kk + 1))
          case measure => omega
          case rel => exact ⟨kk + 1, us, R, by omega, by omega, by go_num, G9.out, P9.out, TS9.out, OKS'.out, R9.out⟩
        · have hSb : (S == 0) = false := by simpa using hS
          clear hS
          go_wp2
          go_roundg (N - (kk + 1))
          case measure => omega
          case rel => exact ⟨kk + 1, vs, t, by omega, by omega, by go_num, G8.out, X8.out, T8.out, OKW.out, R8.out⟩
    · have hltz : ¬ (kk : Int) < (N : Int) := by omega
      clear R4 G24 O3 G23
      have hmm := @run_makeMap Try.prog
      go_upto_region 15 with fail
      obtain ⟨pm, hpm⟩ : ∃ pm, wr.heap.size = pm := ⟨_, rfl⟩
      obtain ⟨W6, hW6⟩ : ∃ W6, wr.alloc (.map #[] 0) = W6 := ⟨_, rfl⟩
      have M6 : Hid (SetAt W6 pm []) := show SetAt _ _ _ by rw [← hW6, ← hpm]; exact SetAt.made wr
      have G6 : Hid (Grew wr W6) := show Grew _ _ by rw [← hW6]; exact grew_alloc _ _
      have HPM : Hid (pt < pm ∧ w.heap.size ≤ pm) := show _ ∧ _ by rw [← hpm]; exact ⟨PW.out.lt, Below.size BW.out⟩
      rw [hW6]
      rw [hpm]
      clear hW6 hpm hmm
      have P6 : Hid (Box W6 pt vs) := PW.out.grew G6.out
      have T6 : Hid (TabAt W6 vs t) := TW.out.now.grew G6.out
      have GW6 : Hid (Grew w W6) := BW.out.trans G6.out
      have hpag := pagesTb_any vs t W6 T6.out
      have HHS : Hid (∀ i : Nat, i < 8 → (0 < (t[i]?.getD []).length ↔ ∃ z ∈ pagesTo t allB 64, z / 8 = (i : Int))) := show ∀ i : Nat, _ from fun i hi => half_some OKW.out hi
      have HPM' : Hid (∀ z ∈ pagesTo t allB 64, 0 ≤ z ∧ z < 64) := show ∀ z ∈ _, _ from fun z hz => by
        obtain ⟨m, rfl, hm, _⟩ := (pagesTo_mem _ _ _ _).1 hz
        omega
      have HPL : Hid ((pagesTo t allB 64).length ≤ 64) := pagesTo_len _ _ _
      obtain ⟨PG, HPG⟩ : ∃ PG, Hid (pagesTo t allB 64 = PG) := ⟨_, rfl⟩
      rw [HPG.out] at hpag HHS HPM' HPL
      go_wp2_with (refine wp_loadTab rfl (.tmp 5) rfl pt rfl P6.out TW.out.len ?_)
      refine hpag.mono ?_
      rintro e W7 ⟨v7, rfl, ow7, g7⟩
      obtain ⟨a7, c7, rfl⟩ := ow7.form
      have O7 : Hid (RowAt blE W7 (.slice a7 PG.length c7) PG) := ow7.at
      have G7 : Hid (Grew w W7) := GW6.out.trans g7
      have M7 : Hid (SetAt W7 pm []) := M6.out.grew g7
      have P7 : Hid (Box W7 pt vs) := P6.out.grew g7
      have T7 : Hid (TabAt W7 vs t) := T6.out.grew g7
      clear ow7 g7 hpag
      obtain ⟨np, HNP⟩ : ∃ np, Hid (PG.length = np) := ⟨_, rfl⟩
      have hnp : np ≤ 64 := by have := HPL.out; have := HNP.out; omega
      rw [HNP.out] at O7 ⊢
      obtain ⟨_, _, heq, hnum⟩ := O7.out.nums
      rw [HNP.out] at heq
      cases heq
      have HNUM : Hid (NumRows W7 a7 PG) := hnum
      clear hnum
      obtain ⟨KS, HKS⟩ : ∃ KS, Hid (PG.map (· / 8) = KS) := ⟨PG.map (· / 8), show _ = _ from rfl⟩
      go_wp2
      go_loopg [50] np (fun g2 s50 wr2 => ∃ k2 : Nat, k2 ≤ np ∧ np - k2 ≤ g2 ∧ s50 = .int .i64 k2 ∧ Hid (W7.grownBy wr2 (some pm)) ∧ Hid (SetAt wr2 pm (KS.take k2)))
      case atStart => exact ⟨0, Nat.zero_le _, by omega, rfl, World.grownBy.rfl' _ _, M7.out⟩
      case round =>
        obtain ⟨k2, hk2, hg2, rfl, BW2, SW2⟩ := hrel
        by_cases hlt2 : k2 < np
        · have hltz2 : (k2 : Int) < (np : Int) := by omega
          obtain ⟨z, HZ⟩ : ∃ z, Hid (PG[k2]? = some z) := ⟨_, List.getElem?_eq_getElem (by rw [HNP.out]; exact hlt2)⟩
          obtain ⟨ad, rfl, hld⟩ := HNUM.out k2 z HZ.out
          have hz := HPM'.out z (List.mem_of_getElem? HZ.out)
          have hc7 := hld W7 (Grew.refl _)
          have d0 : World.cell? _ (ad.add k2) = some (.int .i64 z) := BW2.out.cell hc7 (by
            intro e
            simp only [Option.some.injEq, add_block] at e
            obtain ⟨es, clock, h1, _⟩ := M7.out
            have h2 := World.block_lt_of_cell? _ _ hc7
            rw [World.cell?] at hc7
            rw [add_block, e, h1] at hc7
            simp at hc7)
          obtain ⟨i, k, hi, hk, hnk, q1, q2, q3, q4, _, _⟩ := page_split hz.1 hz.2
          have hz0 := hz.1
          have S3 : Hid (∀ w', SetAt w' pm (KS.take k2 ++ [(i : Int)]) → SetAt w' pm (KS.take (k2 + 1))) := show ∀ w', _ from fun w' h => by
            have hk : KS[k2]? = some (i : Int) := by rw [← HKS.out, List.getElem?_map, HZ.out, Option.map_some, q1]
            rw [take_snoc hk]
            exact h
          clear hld hc7 hz hnk
          go_wp2_with (refine wpList_insert_set rfl (.tmp 54) (.tmp 56) (.const (.bool true)) (.inr rfl) pm (KS.take k2) SW2.out (i : Int) (wf64 (by omega) (by omega)) ?hl rfl rfl rfl ?_)
          case hl =>
            have h1 := HNP.out
            have h2 : KS.length = PG.length := by rw [← HKS.out, List.length_map]
            first | omega | (rw [List.length_take]; omega)
          intro W8 s8 gr8
          have S8 : Hid (SetAt W8 pm (KS.take (k2 + 1))) := S3.out W8 s8
          have G8 : Hid (W7.grownBy W8 (some pm)) := grown_trans BW2.out gr8
          clear s8 gr8 d0
          go_wp2
          go_roundg (np - (k2 + 1))
          case measure => omega
          case rel => exact ⟨k2 + 1, by omega, by omega, by go_num, G8.out, S8.out⟩
        · have hltz2 : ¬ (k2 : Int) < (np : Int) := by omega
          have : k2 = np := by omega
          subst this
          have S9 : Hid (SetAt _ pm (PG.map (· / 8))) := show SetAt _ _ _ by
            have := SW2.out
            rw [List.take_of_length_le (by rw [← HKS.out, List.length_map, HNP.out]; exact Nat.le_refl _), ← HKS.out] at this
            exact this
          have P9 : Hid (Box _ pt vs) := P7.out.grown BW2.out (by have := HPM.out; omega)
          have G9 : Hid (Grew w _) := show Grew _ _ from grew_grown G7.out BW2.out HPM.out.2
          obtain ⟨W9, HW9⟩ : ∃ W9, Hid (wr = W9) := ⟨_, rfl⟩
          rw [HW9.out] at S9 P9 G9 ⊢
          have hzv : (zeroValue 4).run Try.prog W9 = .ok (.bool false) W9 := by simp [go_sem]
          have HLK : Hid (∀ (i : Nat) (q : List En), i < 8 → t[i]? = some q → (Instr.lookup 32 (.map (some pm)) (.int .i64 (i : Int)) false).run Try.prog W9 = .ok (.bool (decide (0 < q.length))) W9) := show ∀ (i : Nat) (q : List En), _ from fun i q hi hq => by
            have h1 := HHS.out i hi
            rw [hq] at h1
            simp only [Option.getD_some] at h1
            by_cases hp : 0 < q.length
            · rw [decide_eq_true hp]
              obtain ⟨z, hz1, hz2⟩ := h1.1 hp
              exact S9.out.hit (wf64 (by omega) (by omega)) (List.mem_map.2 ⟨z, hz1, hz2⟩) hzv
            · rw [decide_eq_false hp]
              exact S9.out.miss (wf64 (by omega) (by omega)) (fun hm => by
                obtain ⟨z, hz1, hz2⟩ := List.mem_map.1 hm
                exact hp (h1.2 ⟨z, hz1, hz2⟩)) hzv
          clear hzv
          go_wp2_with (refine wp_loadTab rfl (.tmp 5) rfl pt rfl P9.out TW.out.len ?_)
          go_loopg [59] 8 (fun g3 s59 wr3 => ∃ k3 : Nat, k3 ≤ 8 ∧ 8 - k3 ≤ g3 ∧ s59 = .int .i64 k3 ∧ Hid (wr3 = W9))
          case atStart => exact ⟨0, Nat.zero_le _, by omega, rfl, rfl⟩
          case round =>
            obtain ⟨k3, hk3, hg3, rfl, EW⟩ := hrel
            rw [EW.out]
            by_cases hlt3 : k3 < 8
            · have hltz3 : (k3 : Int) < 8 := by omega
              obtain ⟨xa, xc, q, hq, hvk, _⟩ := TW.out.now.half hlt3
              have HVK : Hid (vs[k3]? = some (.slice xa q.length xc)) := hvk
              have hlk := HLK.out k3 q hlt3 hq
              clear hvk hq
              generalize q.length = nq at HVK hlk
              by_cases hp : 0 < nq
              · have hpz : (0 : Int) < (nq : Int) := by omega
                rw [decide_eq_true hp] at hlk
                have hpd : decide (0 < nq) = true := decide_eq_true hp
                go_wp2_with (refine wp_half rfl (.tmp 58) (.tmp 59) rfl vs rfl k3 rfl hlt3 HVK.out ?_)
                go_roundg (8 - (k3 + 1))
                case measure => omega
                case rel => exact ⟨k3 + 1, by omega, by omega, by go_num, rfl⟩
              · obtain rfl : nq = 0 := by omega
                rw [decide_eq_false hp] at hlk
                clear hp
                go_wp2_with (refine wp_half rfl (.tmp 58) (.tmp 59) rfl vs rfl k3 rfl hlt3 HVK.out ?_)
                go_roundg (8 - (k3 + 1))
                case measure => omega
                case rel => exact ⟨k3 + 1, by omega, by omega, by go_num, rfl⟩
            · have hltz3 : ¬ (k3 : Int) < 8 := by omega
              go_wp2
              go_ret
              exact ⟨rfl, G9.out⟩

end Go.Proofs.Ytodbgjhdfjpcpad
