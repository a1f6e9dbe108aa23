/- Contracts of wrongHalf and Wrong (package table). -/
import Derived.Test.YtodbgjhdfjpcpacTbOps
namespace Go.Proofs.Ytodbgjhdfjpcpac
open Go.RowKit

theorem drop_cons {α : Type} {l : List α} {k : Nat} {q : α} (h : l[k]? = some q) : l.drop k = q :: l.drop (k + 1) := by
  obtain ⟨hlt, rfl⟩ := List.getElem?_eq_some_iff.1 h
  exact List.drop_eq_getElem_cons hlt
theorem take_snoc {α : Type} {l : List α} {k : Nat} {q : α} (h : l[k]? = some q) : l.take (k + 1) = l.take k ++ [q] := by
  rw [List.take_add_one, h]
  rfl
theorem esW_cons (e : En) (l : List En) : esW (e :: l) = if enW e = 0 then esW l else enW e := rfl
theorem tbW_cons (h : List En) (t : List (List En)) : tbW (h :: t) = if haW h = 0 then tbW t else haW h := rfl
theorem haW_8 {h : List En} (h8 : h.length = 8) : haW h = if esW h = 0 then (if anyS h = true then 0 else 2) else esW h := by
  unfold haW
  rw [if_neg (by omega), if_pos h8]

set_option maxRecDepth 100000 in
set_option maxHeartbeats 1000000 in
theorem wrongHalf_any (v : Value) (fs : List En) (w : World) (hv : RowAt enE w v fs) :
    Calls Try.prog 59 #[v] w fun e w' => e = .returned (.int .i64 (haW fs)) ∧ Grew w w' := by
  have hbig := hv.short
  have HV : Hid (RowAt enE w v fs) := hv
  obtain ⟨a, c, rfl, hrow⟩ := hv.ens
  have HR : Hid (EnRows w a fs) := hrow
  clear hrow hv
  obtain ⟨n, HN⟩ : ∃ n, Hid (fs.length = n) := ⟨_, rfl⟩
  obtain ⟨Z, HZ⟩ : ∃ Z, Hid (haW fs = Z) := ⟨_, rfl⟩
  rw [HN.out] at hbig HV ⊢
  rw [HZ.out]
  by_cases h0 : n = 0
  · have HF : Hid (Z = 0) := show _ = _ by rw [← HZ.out]; unfold haW; rw [if_pos (by rw [HN.out]; exact h0)]
    subst h0
    go_enter Try.func59, Try.ntmps59
    go_wp2
    go_ret
    exact ⟨by rw [HF.out]; rfl, Grew.refl _⟩
  · have h0b : ((n : Int) == 0) = false := by simpa using h0
    by_cases h8 : n = 8
    · have H8 : Hid (fs.length = 8) := HN.out.trans h8
      have h8b : ((n : Int) != 8) = false := by simp [h8]
      clear h0 h8
      have hcon := fun W (hW : Grew w W) => containsSome_any (.slice a n c) fs W (HV.out.grew hW)
      go_enter Try.func59, Try.ntmps59
      go_wp2
      go_loopg [14] n (fun gg s14 wr => ∃ kk : Nat, kk ≤ n ∧ n - kk ≤ gg ∧ s14 = .int .i64 kk ∧ Hid (Grew w wr) ∧ Hid (esW (fs.drop kk) = esW fs))
      case atStart => exact ⟨0, Nat.zero_le _, by omega, rfl, Grew.refl w, rfl⟩
      case round =>
        obtain ⟨kk, hkk, hg, rfl, BW, AW⟩ := hrel
        by_cases hlt : kk < n
        · have hltz : (kk : Int) < (n : Int) := by omega
          obtain ⟨q, HQ⟩ : ∃ q, Hid (fs[kk]? = some q) := ⟨_, List.getElem?_eq_getElem (by rw [HN.out]; exact hlt)⟩
          obtain ⟨ad, rfl, hl⟩ := HR.out kk q HQ.out
          obtain ⟨d0, d1, d2⟩ := hl wr BW.out
          obtain ⟨W2, hW2⟩ : ∃ W2, wr.alloc (.cells #[.int .i64 q.kind, .int .i64 q.n, .bool q.wr] 57) = W2 := ⟨_, rfl⟩
          have GA : Hid (Grew w W2) := show Grew _ _ by rw [← hW2]; exact BW.out.trans (grew_alloc _ _)
          have HW2 : Hid (_ = W2) := hW2
          have hcall := wrongEntry_any q.kind q.n q.wr W2
          have HST : Hid (esW (fs.drop kk) = if enW ⟨q.kind, q.n, q.wr⟩ = 0 then esW (fs.drop (kk + 1)) else enW ⟨q.kind, q.n, q.wr⟩) := show _ = _ by rw [drop_cons HQ.out, esW_cons]
          clear hl hW2
          generalize enW ⟨q.kind, q.n, q.wr⟩ = z at hcall HST
          by_cases hz : z = 0
          · have HA : Hid (esW (fs.drop (kk + 1)) = esW fs) := show _ = _ by rw [← AW.out, HST.out, if_pos hz]
            subst hz
            clear HST
            go_wp2_with fail
            rw [HW2.out]
            refine hcall.mono ?_
            rintro e W3 ⟨rfl, k1⟩
            have G3 : Hid (Grew w W3) := GA.out.trans k1
            clear k1 hcall d0 d1 d2
            go_wp2
            go_roundg (n - (kk + 1))
            case measure => omega
            case rel => exact ⟨kk + 1, by omega, by omega, by go_num, G3.out, HA.out⟩
          · have hzb : (z != 0) = true := by simpa using hz
            have HF : Hid (Z = z) := show _ = _ by
              have h1 := AW.out
              rw [HST.out, if_neg hz] at h1
              rw [← HZ.out, haW_8 H8.out, ← h1, if_neg hz]
            clear HST
            go_wp2_with fail
            rw [HW2.out]
            refine hcall.mono ?_
            rintro e W3 ⟨rfl, k1⟩
            have G3 : Hid (Grew w W3) := GA.out.trans k1
            clear k1 hcall d0 d1 d2
            go_wp2
            go_ret
            exact ⟨by rw [HF.out]; rfl, G3.out⟩
        · have hltz : ¬ (kk : Int) < (n : Int) := by omega
          have : kk = n := by omega
          subst this
          have HE : Hid (esW fs = 0) := show _ = _ by
            rw [← AW.out, List.drop_of_length_le (by rw [HN.out]; exact Nat.le_refl _)]
            rfl
          have hcall := hcon wr BW.out
          have HST : Hid (Z = if anyS fs = true then 0 else 2) := show _ = _ by rw [← HZ.out, haW_8 H8.out, HE.out, if_pos rfl]
          generalize anyS fs = A at hcall HST
          clear hcon
          cases A with
          | true =>
            go_wp2_with fail
            refine hcall.mono ?_
            rintro e W3 ⟨rfl, k1⟩
            have G3 : Hid (Grew w W3) := BW.out.trans k1
            clear k1 hcall
            go_wp2
            go_ret
            exact ⟨by rw [HST.out]; rfl, G3.out⟩
          | false =>
            go_wp2_with fail
            refine hcall.mono ?_
            rintro e W3 ⟨rfl, k1⟩
            have G3 : Hid (Grew w W3) := BW.out.trans k1
            clear k1 hcall
            go_wp2
            go_ret
            exact ⟨by rw [HST.out]; rfl, G3.out⟩
    · have h8b : ((n : Int) != 8) = true := by simp; omega
      have HF : Hid (Z = 2) := show _ = _ by rw [← HZ.out]; unfold haW; rw [if_neg (by rw [HN.out]; exact h0), if_neg (by rw [HN.out]; exact h8)]
      clear h0 h8
      go_enter Try.func59, Try.ntmps59
      go_wp2
      go_ret
      exact ⟨by rw [HF.out]; rfl, Grew.refl _⟩

set_option maxRecDepth 100000 in
set_option maxHeartbeats 1000000 in
theorem wrongTb_any (vs : List Value) (t : List (List En)) (w : World) (hv : TabAt w vs t) :
    Calls Try.prog 30 #[.agg vs.toArray] w fun e w' => e = .returned (.int .i64 (tbW t)) ∧ Grew w w' := by
  have HV : Hid (TabAt w vs t) := hv
  have HL : Hid (vs.length = 8) := hv.len
  clear hv
  obtain ⟨Z, HZ⟩ : ∃ Z, Hid (tbW t = Z) := ⟨_, rfl⟩
  rw [HZ.out]
  obtain ⟨W0, hW0⟩ : ∃ W0, w.alloc (.cells vs.toArray 55) = W0 := ⟨_, rfl⟩
  have HG0 : Hid (Grew w W0) := show Grew w W0 by rw [← hW0]; exact grew_alloc _ _
  have X0 : Hid (Box W0 w.heap.size vs) := show Box _ _ _ by rw [← hW0]; exact Box.top w _ _ rfl
  have HW0 : Hid (_ = W0) := hW0
  clear hW0
  go_enter Try.func30, Try.ntmps30
  go_upto_region 1 with fail
  rw [HW0.out]
  go_wp2_with (refine wp_loadTab rfl (.tmp 1) rfl w.heap.size rfl X0.out HL.out ?_)
  go_loopg [7] 8 (fun gg s7 wr => ∃ kk : Nat, kk ≤ 8 ∧ 8 - kk ≤ gg ∧ s7 = .int .i64 kk ∧ Hid (Grew w wr) ∧ Hid (tbW (t.drop kk) = tbW t))
  case atStart => exact ⟨0, Nat.zero_le _, by omega, rfl, HG0.out, rfl⟩
  case round =>
    obtain ⟨kk, hkk, hg, rfl, BW, AW⟩ := hrel
    by_cases hlt : kk < 8
    · have hltz : (kk : Int) < 8 := by omega
      obtain ⟨xa, xc, q, hq, hvk, hr⟩ := HV.out.half hlt
      have HQ : Hid (t[kk]? = some q) := hq
      have HVK : Hid (vs[kk]? = some (.slice xa q.length xc)) := hvk
      have hcall := wrongHalf_any (.slice xa q.length xc) q wr (hr.grew BW.out)
      have HST : Hid (tbW (t.drop kk) = if haW q = 0 then tbW (t.drop (kk + 1)) else haW q) := show _ = _ by rw [drop_cons HQ.out, tbW_cons]
      clear hq hvk hr
      generalize haW q = z at hcall HST
      generalize q.length = nq at hcall HVK
      by_cases hz : z = 0
      · have HA : Hid (tbW (t.drop (kk + 1)) = tbW t) := show _ = _ by rw [← AW.out, HST.out, if_pos hz]
        subst hz
        clear HST
        go_wp2_with (refine wp_half rfl (.tmp 6) (.tmp 7) rfl vs rfl kk rfl hlt HVK.out ?_)
        refine hcall.mono ?_
        rintro e W3 ⟨rfl, k1⟩
        have G3 : Hid (Grew w W3) := BW.out.trans k1
        clear k1 hcall
        go_wp2
        go_roundg (8 - (kk + 1))
        case measure => omega
        case rel => exact ⟨kk + 1, by omega, by omega, by go_num, G3.out, HA.out⟩
      · have hzb : (z != 0) = true := by simpa using hz
        have HF : Hid (Z = z) := show _ = _ by
          have h1 := AW.out
          rw [HST.out, if_neg hz] at h1
          rw [← HZ.out, ← h1]
        clear HST
        go_wp2_with (refine wp_half rfl (.tmp 6) (.tmp 7) rfl vs rfl kk rfl hlt HVK.out ?_)
        refine hcall.mono ?_
        rintro e W3 ⟨rfl, k1⟩
        have G3 : Hid (Grew w W3) := BW.out.trans k1
        clear k1 hcall
        go_wp2
        go_ret
        exact ⟨by rw [HF.out]; rfl, G3.out⟩
    · have hltz : ¬ (kk : Int) < 8 := by omega
      have : kk = 8 := by omega
      subst this
      have HF : Hid (Z = 0) := show _ = _ by
        rw [← HZ.out, ← AW.out, List.drop_of_length_le (by rw [HV.out.tlen]; exact Nat.le_refl _)]
        rfl
      go_wp2
      go_ret
      exact ⟨by rw [HF.out]; rfl, BW.out⟩

end Go.Proofs.Ytodbgjhdfjpcpac
