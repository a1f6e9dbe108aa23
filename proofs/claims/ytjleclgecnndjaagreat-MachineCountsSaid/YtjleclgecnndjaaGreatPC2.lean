import Derived.Test.YtjleclgecnndjaaGreatPC1
import Derived.BigQuiet
import Derived.WalkSmall
import Derived.Deep.Cut
import Derived.ChangeKeysEq
namespace Go.Proofs.YtjleclgecnndjaaGreat
set_option maxRecDepth 100000
set_option maxHeartbeats 4000000
section
open Go.RowKit
theorem blG_snoc (g l : List Int) (b : Int) : blG g (l ++ [b]) = giveG (blG g l) b:=by
 unfold blG;rw [List.foldl_append];rfl
theorem wrongFile_any (f : Fl) (xa : Option Addr) (xc : Nat) (cnt : Int) (g : List Int) (pc pg : Nat) (w : World) (hc : Box w pc [.int .i64 cnt]) (hg : Box w pg (marks 80 g)) (hne : pc≠pg) (hn : cnt≤80) (hr : RowS blE pg (pg + 1) w (.slice xa f.bl.length xc) f.bl) :
  Calls Tryz.prog 129 #[.agg #[.int .i64 f.size,.slice xa f.bl.length xc],.func (.func 152) #[] #[.pointer (some ⟨pc,0,none⟩),.pointer (some ⟨pg,0,none⟩)]] w fun e w'=>e = .returned (.int .i64 (flW cnt g f))∧(flW cnt g f = 0→Box w' pg (marks 80 (blG g f.bl)))∧Out pg (pg + 1) w w':=by
 obtain ⟨sz,bl⟩:=f;have HD : Hid (flW cnt g ⟨sz,bl⟩ = if 0≤sz∧sz≤96 then (if (bl.length : Int) = cntP sz then blW cnt g bl else 2) else 3):=rfl;have HC : Hid (Box w pc [.int .i64 cnt]):=hc;have HG : Hid (Box w pg (marks 80 g)):=hg;have HR : Hid (RowS blE pg (pg + 1) w (.slice xa bl.length xc) bl):=hr;have HNE : Hid (pc≠pg):=hne;have hbig:=(hr.now).short;clear hc hg hr hne;simp only at hbig
 show Calls _ _ #[.agg #[.int .i64 sz,.slice xa bl.length xc],_] _ _
 generalize flW cnt g ⟨sz,bl⟩ = Z at HD ⊢
 simp only
 by_cases h1 : 0≤sz∧sz≤96
 ·rw [if_pos h1] at HD;obtain ⟨h10,h11⟩:=h1;have hb:=fun W=>below_yes (m:=sz) (n:=97) h10 (by omega) W
  have hcn:=fun W=>count_any sz W h10 h11
  by_cases h2 : (bl.length : Int) = cntP sz
  ·rw [if_pos h2] at HD;rw [←h2] at hcn;clear h10 h11 h2;obtain ⟨n,HN⟩ : ∃ n,Hid (bl.length = n):=⟨_,rfl⟩;rw [HN.out] at hbig hcn HR ⊢;obtain ⟨W0,hW0⟩ : ∃ W0,w.alloc (.cells #[.int .i64 sz,.slice xa n xc] 71) = W0:=⟨_,rfl⟩;have HW0 : Hid (_ = W0):=hW0;have HG0 : Hid (Grew w W0):=show Grew w W0 by rw [←hW0]; exact grew_alloc _ _
   clear hW0;have eg:=enters_of Tryz.func152 (by kernel_rfl) rfl
   have hnn : ((n : Int) != (n : Int)) = false:=by simp
   go_enter Tryz.func129,Tryz.ntmps129
   go_wp2_with (go_at_call 113; refine (hb _).mono ?_; rintro e w' ⟨rfl,rfl⟩)
   go_quiet (first | (go_at_call 58; exact Calls.quiet_of_same (hcn _)))
   rw [HW0.out];obtain ⟨W1,hW1⟩ : ∃ W1,W0.drewN nq = W1:=⟨_,rfl⟩;have X1 : Hid (Box W1 w.heap.size [.int .i64 sz,.slice xa n xc]):=show Box _ _ _ by rw [←hW1,←HW0.out]; exact (Box.top w _ _ rfl).grew (show Below _ _ _ from Go.below_drewN (Below.refl _ _) _)
   have O1 : Hid (Out pg (pg + 1) w W1):=show Out _ _ _ _ by rw [←hW1]; exact (Out.grew HG0.out).trans (Out.grew (show Below _ _ _ from Go.below_drewN (Below.refl _ _) _))
   have C1 : Hid (Box W1 pc [.int .i64 cnt]):=show Box _ _ _ from HC.out.out O1.out (by have:=HNE.out; omega)
   have G1 : Hid (Box W1 pg (marks 80 g)):=show Box _ _ _ by rw [←hW1]; exact (HG.out.grew HG0.out).grew (show Below _ _ _ from Go.below_drewN (Below.refl _ _) _)
   rw [hW1];clear hW1 hcn hb HC HG;have x0:=X1.out.c 0 rfl;have x1:=X1.out.c 1 rfl;go_wp2
   go_loopg [6,7,22] n (fun gg _ _ s22 wr=>∃ kk : Nat,kk≤n∧n - kk≤gg∧s22 = .int .i64 kk∧Hid (Out pg (pg + 1) w wr)∧Hid (Box wr pg (marks 80 (blG g (bl.take kk))))∧Hid (blW cnt (blG g (bl.take kk)) (bl.drop kk) = blW cnt g bl)∧Hid (Box wr pc [.int .i64 cnt]))
   case atStart=>exact ⟨0,Nat.zero_le _,by omega,rfl,O1.out,G1.out,rfl,C1.out⟩
   case round =>
    obtain ⟨kk,hkk,hgg,rfl,OW,GW,AW,CW⟩:=hrel;clear x0 x1 X1 O1 C1 G1
    by_cases hlt : kk < n
    ·have hltz : (kk : Int) < (n : Int):=by omega
     obtain ⟨q,HQ⟩ : ∃ q,Hid (bl[kk]? = some q):=⟨_,List.getElem?_eq_getElem (by rw [HN.out]; exact hlt)⟩
     obtain ⟨a',c',heq,hrow⟩:=(HR.out wr OW.out).nums;rw [HN.out] at heq;cases heq;obtain ⟨ad,rfl,hl⟩:=hrow kk q HQ.out;have d0:=hl wr (Grew.refl _);have hcall:=give_any q cnt (blG g (bl.take kk)) pc pg wr CW.out GW.out hn;have HST : Hid (blW cnt (blG g (bl.take kk)) (bl.drop kk) = if giveE cnt (blG g (bl.take kk)) q = 0 then blW cnt (blG g (bl.take (kk + 1))) (bl.drop (kk + 1)) else giveE cnt (blG g (bl.take kk)) q):=show _ = _ by
      rw [drop_cons HQ.out,take_snoc HQ.out,blG_snoc];rfl
     rw [←blG_snoc,←take_snoc HQ.out] at hcall;clear hl hrow
     generalize giveE cnt (blG g (bl.take kk)) q = z at hcall HST
     by_cases hz : z = 0
     ·have HA : Hid (blW cnt (blG g (bl.take (kk + 1))) (bl.drop (kk + 1)) = blW cnt g bl):=show _ = _ by rw [←AW.out,HST.out,if_pos hz]
      subst hz;clear HST;go_wp2_with fail;refine hcall.mono ?_;rintro e W2 ⟨rfl,k1,k2,k3⟩;have G2 : Hid (Box W2 pg (marks 80 (blG g (bl.take (kk + 1))))):=k1 (by first | exact rfl | exact trivial)
      have O2 : Hid (Out pg (pg + 1) w W2):=OW.out.trans (Out.grown k2 (fun g hg=>by cases hg; omega))
      have C2 : Hid (Box W2 pc [.int .i64 cnt]):=CW.out.grown k2 HNE.out;clear k1 k2 k3 hcall;go_wp2
      go_roundg (n - (kk + 1))
      case measure=>omega
      case rel=>exact ⟨kk + 1,by omega,by omega,by go_num,O2.out,G2.out,HA.out,C2.out⟩
     ·have hzb : (z != 0) = true:=by simpa using hz
      have HF : Hid (Z = z):=show _ = _ by
       have h1:=AW.out;rw [HST.out,if_neg hz] at h1;rw [HD.out,←h1]
      clear HST;go_wp2_with fail;refine hcall.mono ?_;rintro e W2 ⟨rfl,k1,k2,k3⟩;have O2 : Hid (Out pg (pg + 1) w W2):=OW.out.trans (Out.grown k2 (fun g hg=>by cases hg; omega))
      clear k1 k2 k3 hcall;go_wp2;go_ret;exact ⟨by rw [HF.out]; rfl,fun h=>absurd (HF.out.symm.trans h) hz,O2.out⟩
    ·have hltz : ¬ (kk : Int) < (n : Int):=by omega
     have : kk = n:=by omega
     subst this;have HF : Hid (Z = 0):=show _ = _ by
      rw [HD.out,←AW.out,List.drop_of_length_le (by rw [HN.out]; exact Nat.le_refl _)]
      rfl
     have GE : Hid (Box wr pg (marks 80 (blG g bl))):=show Box _ _ _ by
      have:=GW.out;rw [List.take_of_length_le (by rw [HN.out]; exact Nat.le_refl _)] at this
      exact this
     go_wp2;go_ret;exact ⟨by rw [HF.out]; rfl,fun _=>GE.out,OW.out⟩
  ·rw [if_neg h2] at HD;have hnn : ((bl.length : Int) != cntP sz) = true:=by simpa using h2
   clear h2 h10 h11
   generalize cntP sz = cp at *
   obtain ⟨n,HN⟩ : ∃ n,Hid (bl.length = n):=⟨_,rfl⟩;rw [HN.out] at hbig hnn HR ⊢
   go_enter Tryz.func129,Tryz.ntmps129
   go_wp2_with (go_at_call 113; refine (hb _).mono ?_; rintro e w' ⟨rfl,rfl⟩)
   go_quiet (first | (go_at_call 58; exact Calls.quiet_of_same (hcn _)))
   go_wp2;go_ret;exact ⟨by rw [HD.out]; rfl,fun h=>(by rw [HD.out] at h; cases h),(Out.grew (grew_alloc _ _)).trans (Out.grew (show Below _ _ _ from Go.below_drewN (Below.refl _ _) _))⟩
 ·rw [if_neg h1] at HD;have hb:=fun W=>below_no (m:=sz) (n:=97) (by omega) W
  clear h1;obtain ⟨n,HN⟩ : ∃ n,Hid (bl.length = n):=⟨_,rfl⟩;rw [HN.out] at hbig HR ⊢
  go_enter Tryz.func129,Tryz.ntmps129
  go_wp2_with (go_at_call 113; refine (hb _).mono ?_; rintro e w' ⟨rfl,rfl⟩)
  go_ret;exact ⟨by rw [HD.out]; rfl,fun h=>(by rw [HD.out] at h; cases h),Out.grew (grew_alloc _ _)⟩
def flsG (g : List Int) (fs : List Fl) : List Int:=fs.foldl (fun g f=>blG g f.bl) g
theorem flsG_snoc (g : List Int) (fs : List Fl) (f : Fl) : flsG g (fs ++ [f]) = blG (flsG g fs) f.bl:=by
 unfold flsG;rw [List.foldl_append];rfl
theorem take_snocF {l : List Fl} {k : Nat} {q : Fl} (h : l[k]? = some q) : l.take (k + 1) = l.take k ++ [q]:=by
 rw [List.take_add_one,h];rfl
theorem wrongSt_any (v : Value) (fs : List Fl) (cnt : Int) (w : World) (hv : FilesAt w v fs) :
  Calls Tryz.prog 80 #[.agg #[v,.int .i64 cnt]] w fun e w'=>e = .returned (.int .i64 (stW fs cnt))∧Grew w w':=by
 obtain ⟨a,c,rfl,hbig,hrow⟩:=hv.rows;have HR : Hid (FlRows w a fs):=hrow;have HD : Hid (stW fs cnt = if fs.length≤5∧0≤cnt∧cnt≤80 then flsW cnt [] fs else 4):=rfl;clear hrow hv
 generalize stW fs cnt = Z at HD ⊢
 obtain ⟨n,HN⟩ : ∃ n,Hid (fs.length = n):=⟨_,rfl⟩;rw [HN.out] at hbig HD ⊢;obtain ⟨W0,hW0⟩ : ∃ W0,w.alloc (.cells #[.slice a n c,.int .i64 cnt] 36) = W0:=⟨_,rfl⟩;have HG0 : Hid (Grew w W0):=show Grew w W0 by rw [←hW0]; exact grew_alloc _ _
 have X0 : Hid (Box W0 w.heap.size [.slice a n c,.int .i64 cnt]):=show Box _ _ _ by rw [←hW0]; exact Box.top w _ _ rfl
 have HS0 : Hid (W0.heap.size = w.heap.size + 1):=show _ = _ by rw [←hW0]; simp
 have HW0 : Hid (_ = W0):=hW0;clear hW0
 by_cases h5 : n≤5
 ·have h5z : ¬ (5 : Int) < (n : Int):=by omega
  have h5d : decide ((5 : Int) < (n : Int)) = false:=decide_eq_false h5z
  by_cases hc : 0≤cnt∧cnt≤80
  ·rw [if_pos ⟨h5,hc⟩] at HD;have hb:=fun W=>below_yes (m:=cnt) (n:=81) hc.1 (by omega) W
   have hc80 : cnt≤80:=hc.2;clear hc
   go_enter Tryz.func80,Tryz.ntmps80
   go_wp2_with (go_at_call 113; refine (hb _).mono ?_; rintro e w' ⟨rfl,rfl⟩)
   rw [HW0.out];refine (giver_any cnt W0).mono ?_;rintro e W1 ⟨rfl,k1,k2,k3,k4⟩;obtain ⟨pc,hpc⟩ : ∃ pc,W0.heap.size = pc:=⟨_,rfl⟩;rw [hpc] at k1 k2 k4 HS0 ⊢;have HPC : Hid (pc = w.heap.size + 1):=HS0;have C1 : Hid (Box W1 pc [.int .i64 cnt]):=k1;have G1 : Hid (Box W1 (pc + 1) (marks 80 [])):=k2;have GR1 : Hid (Grew w W1):=HG0.out.trans k3;have X1 : Hid (Box W1 w.heap.size [.slice a n c,.int .i64 cnt]):=X0.out.grew k3;clear hpc k1 k2 k3 k4 hb HS0 X0 HG0 HW0;have x0:=X1.out.c 0 rfl;have x1:=X1.out.c 1 rfl;go_wp2
   go_loopg [5,6,23] n (fun gg _ _ s23 wr=>∃ kk : Nat,kk≤n∧n - kk≤gg∧s23 = .int .i64 kk∧Hid (Grew w wr)∧Hid (Box wr pc [.int .i64 cnt])∧Hid (Box wr (pc + 1) (marks 80 (flsG [] (fs.take kk))))∧Hid (flsW cnt (flsG [] (fs.take kk)) (fs.drop kk) = flsW cnt [] fs))
   case atStart=>exact ⟨0,Nat.zero_le _,by omega,rfl,GR1.out,C1.out,G1.out,rfl⟩
   case round =>
    obtain ⟨kk,hkk,hgg,rfl,BW,CW,GW,AW⟩:=hrel;clear x0 x1 X1 C1 G1 GR1
    by_cases hlt : kk < n
    ·have hltz : (kk : Int) < (n : Int):=by omega
     obtain ⟨q,HQ⟩ : ∃ q,Hid (fs[kk]? = some q):=⟨_,List.getElem?_eq_getElem (by rw [HN.out]; exact hlt)⟩
     obtain ⟨ad,rfl,xa,xc,hra,hl⟩:=HR.out kk q HQ.out;obtain ⟨d0,d1⟩:=hl wr BW.out;obtain ⟨W2,hW2⟩ : ∃ W2,wr.alloc (.cells #[.int .i64 q.size,.slice xa q.bl.length xc] 71) = W2:=⟨_,rfl⟩;have GA : Hid (Grew wr W2):=show Grew _ _ by rw [←hW2]; exact grew_alloc _ _
     have hcall:=wrongFile_any q xa xc cnt (flsG [] (fs.take kk)) pc (pc + 1) W2 (CW.out.grew GA.out) (GW.out.grew GA.out) (by omega) hc80 (hra.stays (pc + 2) (by have:=HPC.out; omega) (BW.out.trans GA.out))
     have C2 : Hid (Box W2 pc [.int .i64 cnt]):=CW.out.grew GA.out;have B2 : Hid (Grew w W2):=BW.out.trans GA.out;have HW2 : Hid (_ = W2):=hW2;have HST : Hid (flsW cnt (flsG [] (fs.take kk)) (fs.drop kk) = if flW cnt (flsG [] (fs.take kk)) q = 0 then flsW cnt (flsG [] (fs.take (kk + 1))) (fs.drop (kk + 1)) else flW cnt (flsG [] (fs.take kk)) q):=show _ = _ by
      rw [drop_cons HQ.out,take_snocF HQ.out,flsG_snoc];rfl
     rw [←flsG_snoc,←take_snocF HQ.out] at hcall;clear hl hW2 hra
     generalize flW cnt (flsG [] (fs.take kk)) q = z at hcall HST
     have hql:=q.bl.length
     by_cases hz : z = 0
     ·have HA : Hid (flsW cnt (flsG [] (fs.take (kk + 1))) (fs.drop (kk + 1)) = flsW cnt [] fs):=show _ = _ by rw [←AW.out,HST.out,if_pos hz]
      subst hz;clear HST;go_wp2_with fail;rw [HW2.out];refine hcall.mono ?_;rintro e W3 ⟨rfl,k1,k2⟩;have G3 : Hid (Box W3 (pc + 1) (marks 80 (flsG [] (fs.take (kk + 1))))):=k1 (by first | exact rfl | exact trivial)
      have B3 : Hid (Grew w W3):=show Grew _ _ from Out.grew_of B2.out (by have:=HPC.out; omega) k2
      have C3 : Hid (Box W3 pc [.int .i64 cnt]):=C2.out.out k2 (by omega)
      clear k1 k2 hcall;go_wp2
      go_roundg (n - (kk + 1))
      case measure=>omega
      case rel=>exact ⟨kk + 1,by omega,by omega,by go_num,B3.out,C3.out,G3.out,HA.out⟩
     ·have hzb : (z != 0) = true:=by simpa using hz
      have HF : Hid (Z = z):=show _ = _ by
       have h1:=AW.out;rw [HST.out,if_neg hz] at h1;rw [HD.out,←h1]
      clear HST;go_wp2_with fail;rw [HW2.out];refine hcall.mono ?_;rintro e W3 ⟨rfl,k1,k2⟩;have B3 : Hid (Grew w W3):=show Grew _ _ from Out.grew_of B2.out (by have:=HPC.out; omega) k2
      clear k1 k2 hcall;go_wp2;go_ret;exact ⟨by rw [HF.out]; rfl,B3.out⟩
    ·have hltz : ¬ (kk : Int) < (n : Int):=by omega
     have : kk = n:=by omega
     subst this;have HF : Hid (Z = 0):=show _ = _ by
      rw [HD.out,←AW.out,List.drop_of_length_le (by rw [HN.out]; exact Nat.le_refl _)]
      rfl
     go_wp2;go_ret;exact ⟨by rw [HF.out]; rfl,BW.out⟩
  ·rw [if_neg (fun h=>hc h.2)] at HD
   have hb:=fun W=>below_no (m:=cnt) (n:=81) (by omega) W
   clear hc
   go_enter Tryz.func80,Tryz.ntmps80
   go_wp2_with (go_at_call 113; refine (hb _).mono ?_; rintro e w' ⟨rfl,rfl⟩)
   rw [HW0.out];go_ret;exact ⟨by rw [HD.out]; rfl,HG0.out⟩
 ·rw [if_neg (fun h=>h5 h.1)] at HD
  have h5z : (5 : Int) < (n : Int):=by omega
  go_enter Tryz.func80,Tryz.ntmps80
  go_wp2;rw [HW0.out];go_ret;exact ⟨by rw [HD.out]; rfl,HG0.out⟩
theorem mayHave_any (f : Fr) (a : Ar) (n : Nat) (w : World) (h1 : 0≤a.base∧a.base≤100) (h2 : 0≤a.fr∧a.fr≤100) (h3 : n≤64) :
  Calls Tryz.prog 134 #[.agg (frv f).toArray,.agg #[.int .i64 a.fr,.int .i64 a.tz,.bool a.rd,.bool a.wr,.bool a.sh,.int .i64 a.file,.int .i64 a.base],.int .i64 (n : Int)] w fun e w'=>e = .returned (.bool (mayHaveB f a n))∧Grew w w':=by
 have HIX : Hid (∀ W,Calls Tryz.prog 108 #[.agg #[.int .i64 a.fr,.int .i64 a.tz,.bool a.rd,.bool a.wr,.bool a.sh,.int .i64 a.file,.int .i64 a.base],.int .i64 (n : Int)] W fun e w'=>e = .returned (.int .i64 (a.base + n - a.fr))∧Grew W w'):=show ∀ W,_ from fun W=>indexOf_any a n W h1 h2 (by omega)
 clear h1 h2 h3;obtain ⟨⟨b0,b1,b2,b3,b4,b5,b6,b7⟩,r,u,d,ff,x⟩:=f;obtain ⟨fr,tz,rd,wr,sh,file,base⟩:=a;unfold frv mayHaveB;simp only
 by_cases h : ff < 0
 ·rw [if_pos h]
  go_enter Tryz.func134,Tryz.ntmps134
  go_wp2;go_ret;exact ⟨rfl,(grew_alloc _ _).trans (grew_alloc _ _)⟩
 ·rw [if_neg h];obtain ⟨W0,hW0⟩ : ∃ W0,(w.alloc (.cells #[.int .u8 b0,.int .u8 b1,.int .u8 b2,.int .u8 b3,.int .u8 b4,.int .u8 b5,.int .u8 b6,.int .u8 b7,.int .i64 r,.bool u,.bool d,.int .i64 ff,.int .i64 x] 59)).alloc (.cells #[.int .i64 fr,.int .i64 tz,.bool rd,.bool wr,.bool sh,.int .i64 file,.int .i64 base] 69) = W0:=⟨_,rfl⟩;have HG0 : Hid (Grew w W0):=show Grew w W0 by rw [←hW0]; exact (grew_alloc _ _).trans (grew_alloc _ _)
  have X0 : Hid (Box W0 w.heap.size [.int .u8 b0,.int .u8 b1,.int .u8 b2,.int .u8 b3,.int .u8 b4,.int .u8 b5,.int .u8 b6,.int .u8 b7,.int .i64 r,.bool u,.bool d,.int .i64 ff,.int .i64 x]):=show Box _ _ _ by rw [←hW0]; exact (Box.top w _ _ rfl).alloc _
  have Y0 : Hid (Box W0 (w.heap.size + 1) [.int .i64 fr,.int .i64 tz,.bool rd,.bool wr,.bool sh,.int .i64 file,.int .i64 base]):=show Box _ _ _ by rw [←hW0]; exact Box.top _ _ _ (by simp)
  have HW0 : Hid (_ = W0):=hW0;clear hW0
  by_cases he : ff = file
  ·have he1 : (ff == file) = true:=by simp [he]
   rw [he1,Bool.true_and];clear he;obtain ⟨D,HD⟩ : ∃ D,Hid ((x == base + (n : Int) - fr) = D):=⟨_,rfl⟩;rw [HD.out]
   go_enter Tryz.func134,Tryz.ntmps134
   go_upto_region 3 with fail;rw [HW0.out];have hx11 : ∀ y : GrownW W0,y.world.cell? ⟨w.heap.size,11,none⟩ = some (.int .i64 ff):=fun y=>(X0.out.grew y.grew).c 11 rfl
   have hx12 : ∀ y : GrownW W0,y.world.cell? ⟨w.heap.size,12,none⟩ = some (.int .i64 x):=fun y=>(X0.out.grew y.grew).c 12 rfl
   have hy0 : ∀ y : GrownW W0,y.world.cell? ⟨w.heap.size + 1,0,none⟩ = some (.int .i64 fr):=fun y=>(Y0.out.grew y.grew).c 0 rfl
   have hy1 : ∀ y : GrownW W0,y.world.cell? ⟨w.heap.size + 1,1,none⟩ = some (.int .i64 tz):=fun y=>(Y0.out.grew y.grew).c 1 rfl
   have hy2 : ∀ y : GrownW W0,y.world.cell? ⟨w.heap.size + 1,2,none⟩ = some (.bool rd):=fun y=>(Y0.out.grew y.grew).c 2 rfl
   have hy3 : ∀ y : GrownW W0,y.world.cell? ⟨w.heap.size + 1,3,none⟩ = some (.bool wr):=fun y=>(Y0.out.grew y.grew).c 3 rfl
   have hy4 : ∀ y : GrownW W0,y.world.cell? ⟨w.heap.size + 1,4,none⟩ = some (.bool sh):=fun y=>(Y0.out.grew y.grew).c 4 rfl
   have hy5 : ∀ y : GrownW W0,y.world.cell? ⟨w.heap.size + 1,5,none⟩ = some (.int .i64 file):=fun y=>(Y0.out.grew y.grew).c 5 rfl
   have hy6 : ∀ y : GrownW W0,y.world.cell? ⟨w.heap.size + 1,6,none⟩ = some (.int .i64 base):=fun y=>(Y0.out.grew y.grew).c 6 rfl
   have hne : Nonempty (GrownW W0):=⟨⟨_,Grew.refl _⟩⟩;refine wp_lax [(10,⟨fun v=>v = .int .i64 (base + (n : Int) - fr),fun v w'=>True⟩)] mixed (by kernel_rfl) ?hS ?hp ?_
   case hS =>
    intro x hx;simp only [List.mem_cons,List.not_mem_nil,or_false] at hx;subst hx;exact ⟨_,rfl⟩
   case hp =>
    intro x hx;simp only [List.mem_cons,List.not_mem_nil,or_false] at hx;subst hx;exact fun _ _ _ _ h=>h
   iterate 10 (refine lax_quiet rfl rfl rfl (fun K hK=>?_); go_big_quiet_op; refine hK _ ?_; clear hK K)
   refine lax_spec rfl rfl (fun w' hg hF=>?_) (fun v1 hv=>?_)
   ·refine Does.call [.agg #[.int .i64 fr,.int .i64 tz,.bool rd,.bool wr,.bool sh,.int .i64 file,.int .i64 base],.int .i64 (n : Int)] rfl Tryz.func108 rfl rfl rfl ?_;refine (HIX.out w').mono ?_;rintro e w'' ⟨rfl,hg2⟩;exact ⟨_,rfl,hg2,rfl,trivial⟩
   subst hv;simp only [Act.put,List.setIfInBounds_toArray,List.set_cons_succ,List.set_cons_zero];iterate 3 (refine lax_quiet rfl rfl rfl (fun K hK=>?_); go_big_quiet_op; refine hK _ ?_; clear hK K)
   refine lax_nil fun W3 hg1 hF=>?_
   have G3 : Hid (Grew w W3):=HG0.out.trans hg1;clear hg1 hF hx11 hx12 hy0 hy1 hy2 hy3 hy4 hy5 hy6 hne;go_wp2;go_ret;exact ⟨by rw [←HD.out]; rfl,G3.out⟩
  ·have he1 : (ff == file) = false:=by simp [he]
   rw [he1,Bool.false_and];clear he
   go_enter Tryz.func134,Tryz.ntmps134
   go_upto_region 3 with fail;rw [HW0.out];have hx11 : W0.cell? ⟨w.heap.size,11,none⟩ = some (.int .i64 ff):=X0.out.c 11 rfl;have hx12 : W0.cell? ⟨w.heap.size,12,none⟩ = some (.int .i64 x):=X0.out.c 12 rfl;have hy0 : W0.cell? ⟨w.heap.size + 1,0,none⟩ = some (.int .i64 fr):=Y0.out.c 0 rfl;have hy1 : W0.cell? ⟨w.heap.size + 1,1,none⟩ = some (.int .i64 tz):=Y0.out.c 1 rfl;have hy2 : W0.cell? ⟨w.heap.size + 1,2,none⟩ = some (.bool rd):=Y0.out.c 2 rfl;have hy3 : W0.cell? ⟨w.heap.size + 1,3,none⟩ = some (.bool wr):=Y0.out.c 3 rfl;have hy4 : W0.cell? ⟨w.heap.size + 1,4,none⟩ = some (.bool sh):=Y0.out.c 4 rfl;have hy5 : W0.cell? ⟨w.heap.size + 1,5,none⟩ = some (.int .i64 file):=Y0.out.c 5 rfl;have hy6 : W0.cell? ⟨w.heap.size + 1,6,none⟩ = some (.int .i64 base):=Y0.out.c 6 rfl;go_quiet (fail);go_wp2;go_ret;exact ⟨rfl,HG0.out.trans (show Below _ _ _ from Go.below_drewN (Below.refl _ _) _)⟩
def hasP (fl : List Fl) (file idx : Int) : Bool:=bel file fl.length && bel idx ((fl.getD file.toNat ⟨0,[]⟩).bl.length : Nat)
theorem hasPage_any (v : Value) (fl : List Fl) (cnt file idx : Int) (w : World) (hv : FilesAt w v fl) :
  Calls Tryz.prog 109 #[.agg #[v,.int .i64 cnt],.int .i64 file,.int .i64 idx] w fun e w'=>e = .returned (.bool (hasP fl file idx))∧Grew w w':=by
 obtain ⟨a,c,rfl,hbig,hrow⟩:=hv.rows;have HR : Hid (FlRows w a fl):=hrow;clear hrow hv;obtain ⟨n,HN⟩ : ∃ n,Hid (fl.length = n):=⟨_,rfl⟩;unfold hasP;rw [HN.out] at hbig ⊢;have hb:=belowM_any file n
 cases h : bel file n with
 | false =>
  rw [h] at hb;rw [Bool.false_and]
  go_enter Tryz.func109,Tryz.ntmps109
  go_wp2_with (go_at_call 56; refine (hb _).mono ?_; rintro e w' ⟨rfl,rfl⟩)
  go_ret;exact ⟨rfl,grew_alloc _ _⟩
 | true =>
  rw [h] at hb;rw [Bool.true_and];obtain ⟨h0,h1⟩:=bel_iff.1 h;obtain ⟨k,rfl⟩ : ∃ k : Nat,file = (k : Int):=⟨file.toNat,by omega⟩
  obtain ⟨f,HF⟩ : ∃ f,Hid (fl[k]? = some f):=⟨_,List.getElem?_eq_getElem (by rw [HN.out]; omega)⟩
  have hg : (fl.getD ((k : Nat) : Int).toNat ⟨0,[]⟩) = f:=by rw [Int.toNat_natCast,List.getD_eq_getElem?_getD,HF.out]; rfl
  rw [hg];clear hg;obtain ⟨ad,rfl,xa,xc,_,hl⟩:=HR.out k f HF.out;obtain ⟨d0,d1⟩:=hl (w.alloc (.cells #[.slice (some ad) n c,.int .i64 cnt] 36)) (grew_alloc _ _);obtain ⟨q,HQ⟩ : ∃ q,Hid (f.bl.length = q):=⟨_,rfl⟩;rw [HQ.out] at d1 ⊢;have hb2:=belowM_any idx q;clear hl
  go_enter Tryz.func109,Tryz.ntmps109
  go_wp2_with (go_at_call 56; first | (refine (hb _).mono ?_; clear hb; rintro e w' ⟨rfl,rfl⟩) | (refine (hb2 _).mono ?_; rintro e w' ⟨rfl,rfl⟩))
  go_ret;exact ⟨rfl,grew_alloc _ _⟩
theorem wrongEntryM_any (V : MaV) (m : Ma) (a : Ar) (n : Nat) (e : En) (w : World) (hm : MachAt w V m) (ha : ArOk a) (hn : n≤64) (he : 0≤e.n) :
  Calls Tryz.prog 86 #[.agg #[.slice V.f.a V.f.n V.f.c,.int .i64 m.hand,.slice V.s.a V.s.n V.s.c,.slice V.sb.a V.sb.n V.sb.c,.slice V.sq.a V.sq.n V.sq.c,.slice V.db.a V.db.n V.db.c,.slice V.dq.a V.dq.n V.dq.c,.slice V.fl.a V.fl.n V.fl.c,.int .i64 m.cnt,.slice V.ca.a V.ca.n V.ca.c,.slice V.sp.a V.sp.n V.sp.c],.agg #[.int .i64 a.fr,.int .i64 a.tz,.bool a.rd,.bool a.wr,.bool a.sh,.int .i64 a.file,.int .i64 a.base],.int .i64 (n : Int),.agg #[.int .i64 e.kind,.int .i64 e.n,.bool e.wr]] w fun e' w'=>e' = .returned (.int .i64 (wEntry m a n e))∧Grew w w':=by
 obtain ⟨n1,n2,-⟩:=hm.ns;have hab : (0≤a.base∧a.base≤100)∧(0≤a.fr∧a.fr≤100):=by
  obtain ⟨g1,g2,g3,g4,g5,g6,g7,g8⟩:=ha
  by_cases hf : a.file < 0
  ·have:=g7 hf; omega
  ·have:=g8 (by omega); omega
 have HMH : Hid (∀ (q : Fr) W,Calls Tryz.prog 134 #[.agg (frv q).toArray,.agg #[.int .i64 a.fr,.int .i64 a.tz,.bool a.rd,.bool a.wr,.bool a.sh,.int .i64 a.file,.int .i64 a.base],.int .i64 (n : Int)] W fun e w'=>e = .returned (.bool (mayHaveB q a n))∧Grew W w'):=show ∀ (q : Fr) W,_ from fun q W=>mayHave_any q a n W hab.1 hab.2 hn
 have HMW : Hid (∀ (q : Fr) W,Calls Tryz.prog 135 #[.agg (frv q).toArray,.agg #[.int .i64 a.fr,.int .i64 a.tz,.bool a.rd,.bool a.wr,.bool a.sh,.int .i64 a.file,.int .i64 a.base]] W fun e w'=>e = .returned (.bool (mayWriteB q a))∧Grew W w'):=show ∀ (q : Fr) W,_ from fun q W=>mayWrite_any q a W
 have HS : Hid (m.sl.length = V.s.n):=n2.symm;have HF : Hid (m.fs.length = V.f.n):=n1.symm;have HR : Hid (FrRows w V.f.a m.fs):=hm.frs;have HZ : Hid (wEntry m a n e = if e.kind = 2 then (if (V.s.n : Int)≤e.n∨a.sh = true then 7 else 0) else if (V.f.n : Int)≤e.n then 3 else if mayHaveB (frAt m e.n) a n = false∨(e.wr = true∧mayWriteB (frAt m e.n) a = false) then 7 else 0):=show _ = _ by
  unfold wEntry;rw [n1,n2]
 rw [HZ.out];clear hm ha hab n1 n2 hn;have hG3 : Grew w (((w.alloc (.cells #[.slice V.f.a V.f.n V.f.c,.int .i64 m.hand,.slice V.s.a V.s.n V.s.c,.slice V.sb.a V.sb.n V.sb.c,.slice V.sq.a V.sq.n V.sq.c,.slice V.db.a V.db.n V.db.c,.slice V.dq.a V.dq.n V.dq.c,.slice V.fl.a V.fl.n V.fl.c,.int .i64 m.cnt,.slice V.ca.a V.ca.n V.ca.c,.slice V.sp.a V.sp.n V.sp.c] 40)).alloc (.cells #[.int .i64 a.fr,.int .i64 a.tz,.bool a.rd,.bool a.wr,.bool a.sh,.int .i64 a.file,.int .i64 a.base] 69)).alloc (.cells #[.int .i64 e.kind,.int .i64 e.n,.bool e.wr] 67)):=((grew_alloc _ _).trans (grew_alloc _ _)).trans (grew_alloc _ _);have HG3 : Hid (Grew w (((w.alloc (.cells #[.slice V.f.a V.f.n V.f.c,.int .i64 m.hand,.slice V.s.a V.s.n V.s.c,.slice V.sb.a V.sb.n V.sb.c,.slice V.sq.a V.sq.n V.sq.c,.slice V.db.a V.db.n V.db.c,.slice V.dq.a V.dq.n V.dq.c,.slice V.fl.a V.fl.n V.fl.c,.int .i64 m.cnt,.slice V.ca.a V.ca.n V.ca.c,.slice V.sp.a V.sp.n V.sp.c] 40)).alloc (.cells #[.int .i64 a.fr,.int .i64 a.tz,.bool a.rd,.bool a.wr,.bool a.sh,.int .i64 a.file,.int .i64 a.base] 69)).alloc (.cells #[.int .i64 e.kind,.int .i64 e.n,.bool e.wr] 67))):=hG3;clear hG3
 by_cases hk : e.kind = 2
 ·have hke : (e.kind == 2) = true:=by simp [hk]
  rw [if_pos hk];clear hk
  by_cases h1 : (V.s.n : Int)≤e.n
  ·rw [if_pos (.inl h1)]
   go_enter Tryz.func86,Tryz.ntmps86
   go_wp2;go_ret;exact ⟨rfl,HG3.out⟩
  ·cases hs : a.sh with
   | true =>
    rw [if_pos (.inr rfl)];rw [hs] at HG3 HMH HMW
    go_enter Tryz.func86,Tryz.ntmps86
    go_wp2;go_ret;exact ⟨rfl,HG3.out⟩
   | false =>
    rw [if_neg (by simp [h1])]
    rw [hs] at HG3 HMH HMW
    go_enter Tryz.func86,Tryz.ntmps86
    go_wp2;go_ret;exact ⟨rfl,HG3.out⟩
 ·have hke : (e.kind == 2) = false:=by simp [hk]
  rw [if_neg hk];clear hk
  by_cases h1 : (V.f.n : Int)≤e.n
  ·rw [if_pos h1]
   go_enter Tryz.func86,Tryz.ntmps86
   go_wp2;go_ret;exact ⟨rfl,HG3.out⟩
  ·rw [if_neg h1];obtain ⟨ek,en,ew⟩:=e;simp only at he hke h1 HZ HG3 ⊢;clear HZ;obtain ⟨k,rfl⟩ : ∃ k : Nat,en = (k : Int):=⟨en.toNat,by omega⟩
   have hkn : k < V.f.n:=by omega
   obtain ⟨q,HQ⟩ : ∃ q,Hid (m.fs[k]? = some q):=⟨_,List.getElem?_eq_getElem (by rw [HF.out]; exact hkn)⟩
   have hfr : frAt m (k : Int) = q:=by unfold frAt; rw [Int.toNat_natCast,List.getD_eq_getElem?_getD,HQ.out]; rfl
   rw [hfr];clear hfr;obtain ⟨ad,hva,hl⟩:=HR.out k q HQ.out;rw [hva] at HG3 HR ⊢;clear hva;obtain ⟨W3,hW3⟩ : ∃ W3,((w.alloc (.cells #[.slice (some ad) V.f.n V.f.c,.int .i64 m.hand,.slice V.s.a V.s.n V.s.c,.slice V.sb.a V.sb.n V.sb.c,.slice V.sq.a V.sq.n V.sq.c,.slice V.db.a V.db.n V.db.c,.slice V.dq.a V.dq.n V.dq.c,.slice V.fl.a V.fl.n V.fl.c,.int .i64 m.cnt,.slice V.ca.a V.ca.n V.ca.c,.slice V.sp.a V.sp.n V.sp.c] 40)).alloc (.cells #[.int .i64 a.fr,.int .i64 a.tz,.bool a.rd,.bool a.wr,.bool a.sh,.int .i64 a.file,.int .i64 a.base] 69)).alloc (.cells #[.int .i64 ek,.int .i64 (k : Int),.bool ew] 67) = W3:=⟨_,rfl⟩;rw [hW3] at HG3;have Y3 : Hid (Box W3 (w.heap.size + 1) [.int .i64 a.fr,.int .i64 a.tz,.bool a.rd,.bool a.wr,.bool a.sh,.int .i64 a.file,.int .i64 a.base]):=show Box _ _ _ by rw [←hW3]; exact (Box.top _ _ _ (by simp)).alloc _
   have Z3 : Hid (Box W3 (w.heap.size + 1 + 1) [.int .i64 ek,.int .i64 (k : Int),.bool ew]):=show Box _ _ _ by rw [←hW3]; exact Box.top _ _ _ (by simp)
   have X3 : Hid (Box W3 w.heap.size [.slice (some ad) V.f.n V.f.c,.int .i64 m.hand,.slice V.s.a V.s.n V.s.c,.slice V.sb.a V.sb.n V.sb.c,.slice V.sq.a V.sq.n V.sq.c,.slice V.db.a V.db.n V.db.c,.slice V.dq.a V.dq.n V.dq.c,.slice V.fl.a V.fl.n V.fl.c,.int .i64 m.cnt,.slice V.ca.a V.ca.n V.ca.c,.slice V.sp.a V.sp.n V.sp.c]):=show Box _ _ _ by rw [←hW3]; exact ((Box.top _ _ _ rfl).alloc _).alloc _
   have x0:=X3.out.c 0 rfl;have z1:=Z3.out.c 1 rfl;have HS3 : Hid (W3.heap.size = w.heap.size + 1 + 1 + 1):=show _ = _ by rw [←hW3]; simp
   obtain ⟨d0,d1,d2,d3,d4,d5,d6,d7,d8,d9,d10,d11,d12⟩:=hl W3 HG3.out;have HW3 : Hid (_ = W3):=hW3;have HP : Hid (mayHaveB q a n = mayHaveB q a n):=rfl;clear hW3 hl
   cases hmh : mayHaveB q a n with
   | false =>
    have hmh':=HMH.out q;rw [hmh] at hmh';rw [if_pos (.inl rfl)];have HC : Hid (∀ W,Calls Tryz.prog 134 #[.agg (frv q).toArray,.agg #[.int .i64 a.fr,.int .i64 a.tz,.bool a.rd,.bool a.wr,.bool a.sh,.int .i64 a.file,.int .i64 a.base],.int .i64 (n : Int)] W fun e w'=>e = .returned (.bool false)∧Grew W w'):=hmh'
    clear hmh'
    go_enter Tryz.func86,Tryz.ntmps86
    go_upto_region 7 with fail;rw [HW3.out];go_upto_region 8 with fail;obtain ⟨W4,hW4⟩ : ∃ W4,W3.alloc (.cells #[.int .u8 q.p.b0,.int .u8 q.p.b1,.int .u8 q.p.b2,.int .u8 q.p.b3,.int .u8 q.p.b4,.int .u8 q.p.b5,.int .u8 q.p.b6,.int .u8 q.p.b7,.int .i64 q.r,.bool q.u,.bool q.d,.int .i64 q.f,.int .i64 q.x] 59) = W4:=⟨_,rfl⟩;have HG4 : Hid (Grew w W4):=show Grew _ _ by rw [←hW4]; exact HG3.out.trans (grew_alloc _ _)
    have Y4 : Box W4 (w.heap.size + 1) [.int .i64 a.fr,.int .i64 a.tz,.bool a.rd,.bool a.wr,.bool a.sh,.int .i64 a.file,.int .i64 a.base]:=by rw [←hW4]; exact Y3.out.alloc _
    have F4 : Box W4 (w.heap.size + 1 + 1 + 1) [.int .u8 q.p.b0,.int .u8 q.p.b1,.int .u8 q.p.b2,.int .u8 q.p.b3,.int .u8 q.p.b4,.int .u8 q.p.b5,.int .u8 q.p.b6,.int .u8 q.p.b7,.int .i64 q.r,.bool q.u,.bool q.d,.int .i64 q.f,.int .i64 q.x]:=by rw [←hW4]; exact Box.top _ _ _ HS3.out.symm
    rw [hW4,HS3.out];clear hW4 x0 z1 d0 d1 d2 d3 d4 d5 d6 d7 d8 d9 d10 d11 d12;have y0:=Y4.c 0 rfl;have y1:=Y4.c 1 rfl;have y2:=Y4.c 2 rfl;have y3:=Y4.c 3 rfl;have y4:=Y4.c 4 rfl;have y5:=Y4.c 5 rfl;have y6:=Y4.c 6 rfl;have f0:=F4.c 0 rfl;have f1:=F4.c 1 rfl;have f2:=F4.c 2 rfl;have f3:=F4.c 3 rfl;have f4:=F4.c 4 rfl;have f5:=F4.c 5 rfl;have f6:=F4.c 6 rfl;have f7:=F4.c 7 rfl;have f8:=F4.c 8 rfl;have f9:=F4.c 9 rfl;have f10:=F4.c 10 rfl;have f11:=F4.c 11 rfl;have f12:=F4.c 12 rfl;clear Y4 F4
    go_wp2_with (go_at_call 134; refine (HC.out _).mono ?_; clear y0 y1 y2 y3 y4 y5 y6 f0 f1 f2 f3 f4 f5 f6 f7 f8 f9 f10 f11 f12; rintro e W5 ⟨rfl,hg5⟩)
    go_ret;exact ⟨rfl,HG4.out.trans hg5⟩
   | true =>
    have hmh':=HMH.out q;rw [hmh] at hmh';have HC : Hid (∀ W,Calls Tryz.prog 134 #[.agg (frv q).toArray,.agg #[.int .i64 a.fr,.int .i64 a.tz,.bool a.rd,.bool a.wr,.bool a.sh,.int .i64 a.file,.int .i64 a.base],.int .i64 (n : Int)] W fun e w'=>e = .returned (.bool true)∧Grew W w'):=hmh'
    clear hmh'
    cases ew with
    | false =>
     rw [if_neg (by simp)]
     go_enter Tryz.func86,Tryz.ntmps86
     go_upto_region 7 with fail;rw [HW3.out];go_upto_region 8 with fail;obtain ⟨W4,hW4⟩ : ∃ W4,W3.alloc (.cells #[.int .u8 q.p.b0,.int .u8 q.p.b1,.int .u8 q.p.b2,.int .u8 q.p.b3,.int .u8 q.p.b4,.int .u8 q.p.b5,.int .u8 q.p.b6,.int .u8 q.p.b7,.int .i64 q.r,.bool q.u,.bool q.d,.int .i64 q.f,.int .i64 q.x] 59) = W4:=⟨_,rfl⟩;have HG4 : Hid (Grew w W4):=show Grew _ _ by rw [←hW4]; exact HG3.out.trans (grew_alloc _ _)
     have Y4 : Box W4 (w.heap.size + 1) [.int .i64 a.fr,.int .i64 a.tz,.bool a.rd,.bool a.wr,.bool a.sh,.int .i64 a.file,.int .i64 a.base]:=by rw [←hW4]; exact Y3.out.alloc _
     have Z4 : Hid (Box W4 (w.heap.size + 1 + 1) [.int .i64 ek,.int .i64 (k : Int),.bool false]):=show Box _ _ _ by rw [←hW4]; exact Z3.out.alloc _
     have F4 : Box W4 (w.heap.size + 1 + 1 + 1) [.int .u8 q.p.b0,.int .u8 q.p.b1,.int .u8 q.p.b2,.int .u8 q.p.b3,.int .u8 q.p.b4,.int .u8 q.p.b5,.int .u8 q.p.b6,.int .u8 q.p.b7,.int .i64 q.r,.bool q.u,.bool q.d,.int .i64 q.f,.int .i64 q.x]:=by rw [←hW4]; exact Box.top _ _ _ HS3.out.symm
     rw [hW4,HS3.out];clear hW4 x0 z1 d0 d1 d2 d3 d4 d5 d6 d7 d8 d9 d10 d11 d12;have y0:=Y4.c 0 rfl;have y1:=Y4.c 1 rfl;have y2:=Y4.c 2 rfl;have y3:=Y4.c 3 rfl;have y4:=Y4.c 4 rfl;have y5:=Y4.c 5 rfl;have y6:=Y4.c 6 rfl;have f0:=F4.c 0 rfl;have f1:=F4.c 1 rfl;have f2:=F4.c 2 rfl;have f3:=F4.c 3 rfl;have f4:=F4.c 4 rfl;have f5:=F4.c 5 rfl;have f6:=F4.c 6 rfl;have f7:=F4.c 7 rfl;have f8:=F4.c 8 rfl;have f9:=F4.c 9 rfl;have f10:=F4.c 10 rfl;have f11:=F4.c 11 rfl;have f12:=F4.c 12 rfl;clear Y4 F4
     go_wp2_with (go_at_call 134; refine (HC.out _).mono ?_; clear y0 y1 y2 y3 y4 y5 y6 f0 f1 f2 f3 f4 f5 f6 f7 f8 f9 f10 f11 f12; rintro e W5 ⟨rfl,hg5⟩; have z2:=(Z4.out.grew hg5).c 2 rfl)
     go_ret;exact ⟨rfl,HG4.out.trans hg5⟩
    | true =>
     cases hmw : mayWriteB q a with
     | false =>
      have hmw':=HMW.out q;rw [hmw] at hmw';rw [if_pos (.inr ⟨rfl,rfl⟩)];have HC2 : Hid (∀ W,Calls Tryz.prog 135 #[.agg (frv q).toArray,.agg #[.int .i64 a.fr,.int .i64 a.tz,.bool a.rd,.bool a.wr,.bool a.sh,.int .i64 a.file,.int .i64 a.base]] W fun e w'=>e = .returned (.bool false)∧Grew W w'):=hmw'
      clear hmw'
      go_enter Tryz.func86,Tryz.ntmps86
      go_upto_region 7 with fail;rw [HW3.out];go_upto_region 8 with fail;obtain ⟨W4,hW4⟩ : ∃ W4,W3.alloc (.cells #[.int .u8 q.p.b0,.int .u8 q.p.b1,.int .u8 q.p.b2,.int .u8 q.p.b3,.int .u8 q.p.b4,.int .u8 q.p.b5,.int .u8 q.p.b6,.int .u8 q.p.b7,.int .i64 q.r,.bool q.u,.bool q.d,.int .i64 q.f,.int .i64 q.x] 59) = W4:=⟨_,rfl⟩;have HG4 : Hid (Grew w W4):=show Grew _ _ by rw [←hW4]; exact HG3.out.trans (grew_alloc _ _)
      have Y4 : Hid (Box W4 (w.heap.size + 1) [.int .i64 a.fr,.int .i64 a.tz,.bool a.rd,.bool a.wr,.bool a.sh,.int .i64 a.file,.int .i64 a.base]):=show Box _ _ _ by rw [←hW4]; exact Y3.out.alloc _
      have Z4 : Hid (Box W4 (w.heap.size + 1 + 1) [.int .i64 ek,.int .i64 (k : Int),.bool true]):=show Box _ _ _ by rw [←hW4]; exact Z3.out.alloc _
      have F4 : Hid (Box W4 (w.heap.size + 1 + 1 + 1) [.int .u8 q.p.b0,.int .u8 q.p.b1,.int .u8 q.p.b2,.int .u8 q.p.b3,.int .u8 q.p.b4,.int .u8 q.p.b5,.int .u8 q.p.b6,.int .u8 q.p.b7,.int .i64 q.r,.bool q.u,.bool q.d,.int .i64 q.f,.int .i64 q.x]):=show Box _ _ _ by rw [←hW4]; exact Box.top _ _ _ HS3.out.symm
      rw [hW4,HS3.out];clear hW4 x0 z1 d0 d1 d2 d3 d4 d5 d6 d7 d8 d9 d10 d11 d12;have y0:=Y4.out.c 0 rfl;have y1:=Y4.out.c 1 rfl;have y2:=Y4.out.c 2 rfl;have y3:=Y4.out.c 3 rfl;have y4:=Y4.out.c 4 rfl;have y5:=Y4.out.c 5 rfl;have y6:=Y4.out.c 6 rfl;have f0:=F4.out.c 0 rfl;have f1:=F4.out.c 1 rfl;have f2:=F4.out.c 2 rfl;have f3:=F4.out.c 3 rfl;have f4:=F4.out.c 4 rfl;have f5:=F4.out.c 5 rfl;have f6:=F4.out.c 6 rfl;have f7:=F4.out.c 7 rfl;have f8:=F4.out.c 8 rfl;have f9:=F4.out.c 9 rfl;have f10:=F4.out.c 10 rfl;have f11:=F4.out.c 11 rfl;have f12:=F4.out.c 12 rfl;go_wp2_with fail;refine (HC.out _).mono ?_;clear y0 y1 y2 y3 y4 y5 y6 f0 f1 f2 f3 f4 f5 f6 f7 f8 f9 f10 f11 f12;rintro e W5 ⟨rfl,hg5⟩;have HG5 : Hid (Grew w W5):=HG4.out.trans hg5;have Y5:=Y4.out.grew hg5;have z2:=(Z4.out.grew hg5).c 2 rfl;have F5:=F4.out.grew hg5;clear hg5;have y0:=Y5.c 0 rfl;have y1:=Y5.c 1 rfl;have y2:=Y5.c 2 rfl;have y3:=Y5.c 3 rfl;have y4:=Y5.c 4 rfl;have y5:=Y5.c 5 rfl;have y6:=Y5.c 6 rfl;have f0:=F5.c 0 rfl;have f1:=F5.c 1 rfl;have f2:=F5.c 2 rfl;have f3:=F5.c 3 rfl;have f4:=F5.c 4 rfl;have f5:=F5.c 5 rfl;have f6:=F5.c 6 rfl;have f7:=F5.c 7 rfl;have f8:=F5.c 8 rfl;have f9:=F5.c 9 rfl;have f10:=F5.c 10 rfl;have f11:=F5.c 11 rfl;have f12:=F5.c 12 rfl;clear Y5 F5
      go_wp2_with (go_at_call 135; refine (HC2.out _).mono ?_; clear y0 y1 y2 y3 y4 y5 y6 f0 f1 f2 f3 f4 f5 f6 f7 f8 f9 f10 f11 f12 z2; rintro e W6 ⟨rfl,hg6⟩)
      go_ret;exact ⟨rfl,HG5.out.trans hg6⟩
     | true =>
      have hmw':=HMW.out q;rw [hmw] at hmw';rw [if_neg (by simp)]
      have HC2 : Hid (∀ W,Calls Tryz.prog 135 #[.agg (frv q).toArray,.agg #[.int .i64 a.fr,.int .i64 a.tz,.bool a.rd,.bool a.wr,.bool a.sh,.int .i64 a.file,.int .i64 a.base]] W fun e w'=>e = .returned (.bool true)∧Grew W w'):=hmw'
      clear hmw'
      go_enter Tryz.func86,Tryz.ntmps86
      go_upto_region 7 with fail;rw [HW3.out];go_upto_region 8 with fail;obtain ⟨W4,hW4⟩ : ∃ W4,W3.alloc (.cells #[.int .u8 q.p.b0,.int .u8 q.p.b1,.int .u8 q.p.b2,.int .u8 q.p.b3,.int .u8 q.p.b4,.int .u8 q.p.b5,.int .u8 q.p.b6,.int .u8 q.p.b7,.int .i64 q.r,.bool q.u,.bool q.d,.int .i64 q.f,.int .i64 q.x] 59) = W4:=⟨_,rfl⟩;have HG4 : Hid (Grew w W4):=show Grew _ _ by rw [←hW4]; exact HG3.out.trans (grew_alloc _ _)
      have Y4 : Hid (Box W4 (w.heap.size + 1) [.int .i64 a.fr,.int .i64 a.tz,.bool a.rd,.bool a.wr,.bool a.sh,.int .i64 a.file,.int .i64 a.base]):=show Box _ _ _ by rw [←hW4]; exact Y3.out.alloc _
      have Z4 : Hid (Box W4 (w.heap.size + 1 + 1) [.int .i64 ek,.int .i64 (k : Int),.bool true]):=show Box _ _ _ by rw [←hW4]; exact Z3.out.alloc _
      have F4 : Hid (Box W4 (w.heap.size + 1 + 1 + 1) [.int .u8 q.p.b0,.int .u8 q.p.b1,.int .u8 q.p.b2,.int .u8 q.p.b3,.int .u8 q.p.b4,.int .u8 q.p.b5,.int .u8 q.p.b6,.int .u8 q.p.b7,.int .i64 q.r,.bool q.u,.bool q.d,.int .i64 q.f,.int .i64 q.x]):=show Box _ _ _ by rw [←hW4]; exact Box.top _ _ _ HS3.out.symm
      rw [hW4,HS3.out];clear hW4 x0 z1 d0 d1 d2 d3 d4 d5 d6 d7 d8 d9 d10 d11 d12;have y0:=Y4.out.c 0 rfl;have y1:=Y4.out.c 1 rfl;have y2:=Y4.out.c 2 rfl;have y3:=Y4.out.c 3 rfl;have y4:=Y4.out.c 4 rfl;have y5:=Y4.out.c 5 rfl;have y6:=Y4.out.c 6 rfl;have f0:=F4.out.c 0 rfl;have f1:=F4.out.c 1 rfl;have f2:=F4.out.c 2 rfl;have f3:=F4.out.c 3 rfl;have f4:=F4.out.c 4 rfl;have f5:=F4.out.c 5 rfl;have f6:=F4.out.c 6 rfl;have f7:=F4.out.c 7 rfl;have f8:=F4.out.c 8 rfl;have f9:=F4.out.c 9 rfl;have f10:=F4.out.c 10 rfl;have f11:=F4.out.c 11 rfl;have f12:=F4.out.c 12 rfl;go_wp2_with fail;refine (HC.out _).mono ?_;clear y0 y1 y2 y3 y4 y5 y6 f0 f1 f2 f3 f4 f5 f6 f7 f8 f9 f10 f11 f12;rintro e W5 ⟨rfl,hg5⟩;have HG5 : Hid (Grew w W5):=HG4.out.trans hg5;have Y5:=Y4.out.grew hg5;have z2:=(Z4.out.grew hg5).c 2 rfl;have F5:=F4.out.grew hg5;clear hg5;have y0:=Y5.c 0 rfl;have y1:=Y5.c 1 rfl;have y2:=Y5.c 2 rfl;have y3:=Y5.c 3 rfl;have y4:=Y5.c 4 rfl;have y5:=Y5.c 5 rfl;have y6:=Y5.c 6 rfl;have f0:=F5.c 0 rfl;have f1:=F5.c 1 rfl;have f2:=F5.c 2 rfl;have f3:=F5.c 3 rfl;have f4:=F5.c 4 rfl;have f5:=F5.c 5 rfl;have f6:=F5.c 6 rfl;have f7:=F5.c 7 rfl;have f8:=F5.c 8 rfl;have f9:=F5.c 9 rfl;have f10:=F5.c 10 rfl;have f11:=F5.c 11 rfl;have f12:=F5.c 12 rfl;clear Y5 F5
      go_wp2_with (go_at_call 135; refine (HC2.out _).mono ?_; clear y0 y1 y2 y3 y4 y5 y6 f0 f1 f2 f3 f4 f5 f6 f7 f8 f9 f10 f11 f12 z2; rintro e W6 ⟨rfl,hg6⟩)
      go_ret;exact ⟨rfl,HG5.out.trans hg6⟩
theorem caE_prog (m : Ma) (c : Ca) : caE m none c = if hasP m.fl c.file c.idx = false∨bel c.fr m.fs.length = false then 3 else if (frAt m c.fr).r = 0∨(frAt m c.fr).f≠c.file∨(frAt m c.fr).x≠c.idx then 7 else 0:=by
 unfold caE hasP;have hb : ∀ (a b : Int),bel a b = false↔(a < 0∨b≤a):=fun a b=>by
  constructor
  ·intro h
   rcases Int.lt_or_le a 0 with h1 | h1
   ·exact .inl h1
   ·rcases Int.lt_or_le a b with h2 | h2
    ·rw [bel_iff.2 ⟨h1,h2⟩] at h; cases h
    ·exact .inr h2
  ·intro h;exact bel_no (by omega)
 have he : (c.file < 0∨(m.fl.length : Int)≤c.file∨c.idx < 0∨bkN m c.file≤c.idx∨c.fr < 0∨(m.fs.length : Int)≤c.fr)↔((bel c.file m.fl.length && bel c.idx ((m.fl.getD c.file.toNat ⟨0,[]⟩).bl.length : Nat)) = false∨bel c.fr m.fs.length = false):=by
  rw [Bool.and_eq_false_iff,hb,hb,hb];unfold bkN;omega
 simp only [he]
theorem wrongCached_any (V : MaV) (m : Ma) (c : Ca) (w : World) (hm : MachAt w V m) :
  Calls Tryz.prog 83 #[.agg #[.slice V.f.a V.f.n V.f.c,.int .i64 m.hand,.slice V.s.a V.s.n V.s.c,.slice V.sb.a V.sb.n V.sb.c,.slice V.sq.a V.sq.n V.sq.c,.slice V.db.a V.db.n V.db.c,.slice V.dq.a V.dq.n V.dq.c,.slice V.fl.a V.fl.n V.fl.c,.int .i64 m.cnt,.slice V.ca.a V.ca.n V.ca.c,.slice V.sp.a V.sp.n V.sp.c],.agg #[.int .i64 c.file,.int .i64 c.idx,.int .i64 c.fr]] w fun e w'=>e = .returned (.int .i64 (caE m none c))∧Grew w w':=by
 obtain ⟨n1,-⟩:=hm.ns;rw [caE_prog,←n1];have HHP : Hid (∀ W,Grew w W→Calls Tryz.prog 109 #[.agg #[.slice V.fl.a V.fl.n V.fl.c,.int .i64 m.cnt],.int .i64 c.file,.int .i64 c.idx] W fun e w'=>e = .returned (.bool (hasP m.fl c.file c.idx))∧Grew W w'):=show ∀ W,_ from fun W hW=>hasPage_any _ m.fl m.cnt c.file c.idx W (hm.grew hW).fl
 have HBL : Hid (∀ W,Calls Tryz.prog 56 #[.int .i64 c.fr,.int .i64 V.f.n] W fun e w'=>e = .returned (.bool (bel c.fr V.f.n))∧w' = W):=show ∀ W,_ from fun W=>belowM_any c.fr V.f.n W
 have HF : Hid (m.fs.length = V.f.n):=n1.symm;have HR : Hid (FrRows w V.f.a m.fs):=hm.frs;clear hm n1;obtain ⟨W2,hW2⟩ : ∃ W2,(w.alloc (.cells #[.slice V.f.a V.f.n V.f.c,.int .i64 m.hand,.slice V.s.a V.s.n V.s.c,.slice V.sb.a V.sb.n V.sb.c,.slice V.sq.a V.sq.n V.sq.c,.slice V.db.a V.db.n V.db.c,.slice V.dq.a V.dq.n V.dq.c,.slice V.fl.a V.fl.n V.fl.c,.int .i64 m.cnt,.slice V.ca.a V.ca.n V.ca.c,.slice V.sp.a V.sp.n V.sp.c] 40)).alloc (.cells #[.int .i64 c.file,.int .i64 c.idx,.int .i64 c.fr] 87) = W2:=⟨_,rfl⟩;have HG2 : Hid (Grew w W2):=show Grew _ _ by rw [←hW2]; exact (grew_alloc _ _).trans (grew_alloc _ _)
 have X2 : Hid (Box W2 w.heap.size [.slice V.f.a V.f.n V.f.c,.int .i64 m.hand,.slice V.s.a V.s.n V.s.c,.slice V.sb.a V.sb.n V.sb.c,.slice V.sq.a V.sq.n V.sq.c,.slice V.db.a V.db.n V.db.c,.slice V.dq.a V.dq.n V.dq.c,.slice V.fl.a V.fl.n V.fl.c,.int .i64 m.cnt,.slice V.ca.a V.ca.n V.ca.c,.slice V.sp.a V.sp.n V.sp.c]):=show Box _ _ _ by rw [←hW2]; exact (Box.top _ _ _ rfl).alloc _
 have Y2 : Hid (Box W2 (w.heap.size + 1) [.int .i64 c.file,.int .i64 c.idx,.int .i64 c.fr]):=show Box _ _ _ by rw [←hW2]; exact Box.top _ _ _ (by simp)
 have HS2 : Hid (W2.heap.size = w.heap.size + 1 + 1):=show _ = _ by rw [←hW2]; simp
 have HW2 : Hid (_ = W2):=hW2;clear hW2;have HC1:=HHP.out W2 HG2.out;clear HHP;have x7:=X2.out.c 7 rfl;have x8:=X2.out.c 8 rfl;have y0:=Y2.out.c 0 rfl;have y1:=Y2.out.c 1 rfl
 cases hp : hasP m.fl c.file c.idx with
 | false =>
  rw [hp] at HC1;rw [if_pos (.inl rfl)]
  go_enter Tryz.func83,Tryz.ntmps83
  go_upto_region 1 with fail;rw [HW2.out]
  go_wp2_with (go_at_call 109; refine HC1.mono ?_; clear HC1 x7 x8 y0 y1; rintro e W3 ⟨rfl,hg3⟩)
  go_ret;exact ⟨rfl,HG2.out.trans hg3⟩
 | true =>
  rw [hp] at HC1
  cases hb : bel c.fr V.f.n with
  | false =>
   rw [hb] at HBL;rw [if_pos (.inr rfl)]
   go_enter Tryz.func83,Tryz.ntmps83
   go_upto_region 1 with fail;rw [HW2.out];go_wp2_with fail;refine HC1.mono ?_;clear HC1 x7 x8 y0 y1;rintro e W3 ⟨rfl,hg3⟩;have HG3 : Hid (Grew w W3):=HG2.out.trans hg3;have x0:=(X2.out.grew hg3).c 0 rfl;have y2:=(Y2.out.grew hg3).c 2 rfl;clear hg3
   go_wp2_with (go_at_call 56; refine (HBL.out _).mono ?_; rintro e w' ⟨rfl,rfl⟩)
   go_ret;exact ⟨rfl,HG3.out⟩
  | true =>
   rw [hb] at HBL;rw [if_neg (by simp)]
   obtain ⟨g0,g1⟩:=bel_iff.1 hb;clear hb;obtain ⟨cf,ci,cr⟩:=c;simp only at g0 g1 HBL HC1 HG2 Y2 y0 y1 ⊢;obtain ⟨k,rfl⟩ : ∃ k : Nat,cr = (k : Int):=⟨cr.toNat,by omega⟩
   have hkn : k < V.f.n:=by omega
   obtain ⟨q,HQ⟩ : ∃ q,Hid (m.fs[k]? = some q):=⟨_,List.getElem?_eq_getElem (by rw [HF.out]; exact hkn)⟩
   have hfr : frAt m (k : Int) = q:=by unfold frAt; rw [Int.toNat_natCast,List.getD_eq_getElem?_getD,HQ.out]; rfl
   rw [hfr];clear hfr;obtain ⟨ad,hva,hl⟩:=HR.out k q HQ.out;have HL : Hid (∀ W,Grew w W→FrCells W (ad.add (k * 13)) q):=hl;have HVA : Hid (V.f.a = some ad):=hva;clear hl hva;obtain ⟨Z,HZ⟩ : ∃ Z : Int,Hid ((if q.r = 0∨q.f≠cf∨q.x≠ci then (7 : Int) else 0) = Z):=⟨_,rfl⟩;rw [HZ.out]
   go_enter Tryz.func83,Tryz.ntmps83
   go_upto_region 1 with fail;rw [HW2.out];go_wp2_with fail;refine HC1.mono ?_;clear HC1 x7 x8 y0 y1;rintro e W3 ⟨rfl,hg3⟩;have HG3 : Hid (Grew w W3):=HG2.out.trans hg3;have X3 : Hid (Box W3 w.heap.size [.slice V.f.a V.f.n V.f.c,.int .i64 m.hand,.slice V.s.a V.s.n V.s.c,.slice V.sb.a V.sb.n V.sb.c,.slice V.sq.a V.sq.n V.sq.c,.slice V.db.a V.db.n V.db.c,.slice V.dq.a V.dq.n V.dq.c,.slice V.fl.a V.fl.n V.fl.c,.int .i64 m.cnt,.slice V.ca.a V.ca.n V.ca.c,.slice V.sp.a V.sp.n V.sp.c]):=X2.out.grew hg3;have Y3 : Hid (Box W3 (w.heap.size + 1) [.int .i64 cf,.int .i64 ci,.int .i64 (k : Int)]):=Y2.out.grew hg3;have HS3 : Hid (w.heap.size + 1 + 1≤W3.heap.size):=show _≤_ by rw [←HS2.out]; exact Below.size hg3
   clear hg3;have x0:=X3.out.c 0 rfl;have y2:=Y3.out.c 2 rfl
   go_upto_region 3 with (go_at_call 56; refine (HBL.out _).mono ?_; rintro e w' ⟨rfl,hw'⟩; rw [hw']; clear hw' w')
   rw [HVA.out] at x0;obtain ⟨d0,d1,d2,d3,d4,d5,d6,d7,d8,d9,d10,d11,d12⟩:=HL.out W3 HG3.out;go_upto_region 4 with fail;obtain ⟨W4,hW4⟩ : ∃ W4,W3.alloc (.cells #[.int .u8 q.p.b0,.int .u8 q.p.b1,.int .u8 q.p.b2,.int .u8 q.p.b3,.int .u8 q.p.b4,.int .u8 q.p.b5,.int .u8 q.p.b6,.int .u8 q.p.b7,.int .i64 q.r,.bool q.u,.bool q.d,.int .i64 q.f,.int .i64 q.x] 59) = W4:=⟨_,rfl⟩;have HG4 : Hid (Grew w W4):=show Grew _ _ by rw [←hW4]; exact HG3.out.trans (grew_alloc _ _)
   have F4 : Box W4 W3.heap.size [.int .u8 q.p.b0,.int .u8 q.p.b1,.int .u8 q.p.b2,.int .u8 q.p.b3,.int .u8 q.p.b4,.int .u8 q.p.b5,.int .u8 q.p.b6,.int .u8 q.p.b7,.int .i64 q.r,.bool q.u,.bool q.d,.int .i64 q.f,.int .i64 q.x]:=by rw [←hW4]; exact Box.top _ _ _ rfl
   have Y4 : Box W4 (w.heap.size + 1) [.int .i64 cf,.int .i64 ci,.int .i64 (k : Int)]:=by rw [←hW4]; exact Y3.out.alloc _
   rw [hW4];clear hW4 x0 y2 d0 d1 d2 d3 d4 d5 d6 d7 d8 d9 d10 d11 d12;have f8:=F4.c 8 rfl;have f11:=F4.c 11 rfl;have f12:=F4.c 12 rfl;have y0:=Y4.c 0 rfl;have y1:=Y4.c 1 rfl;clear F4 Y4
   by_cases h1 : q.r = 0
   ·have h1e : (q.r == 0) = true:=by simp [h1]
    have HE : Hid (Z = 7):=show _ = _ by rw [←HZ.out,if_pos (.inl h1)]
    clear h1;go_wp2;go_ret;exact ⟨by rw [HE.out]; rfl,HG4.out⟩
   ·have h1e : (q.r == 0) = false:=by simp [h1]
    by_cases h2 : q.f = cf
    ·have h2e : (q.f != cf) = false:=by simp [h2]
     by_cases h3 : q.x = ci
     ·have h3e : (q.x != ci) = false:=by simp [h3]
      have HE : Hid (Z = 0):=show _ = _ by rw [←HZ.out,if_neg (by simp [h1,h2,h3])]
      clear h1 h2 h3;go_wp2;go_ret;exact ⟨by rw [HE.out]; rfl,HG4.out⟩
     ·have h3e : (q.x != ci) = true:=by simp [h3]
      have HE : Hid (Z = 7):=show _ = _ by rw [←HZ.out,if_pos (.inr (.inr h3))]
      clear h1 h2 h3;go_wp2;go_ret;exact ⟨by rw [HE.out]; rfl,HG4.out⟩
    ·have h2e : (q.f != cf) = true:=by simp [h2]
     have HE : Hid (Z = 7):=show _ = _ by rw [←HZ.out,if_pos (.inr (.inl h2))]
     clear h1 h2;go_wp2;go_ret;exact ⟨by rw [HE.out]; rfl,HG4.out⟩
theorem wrongParts_any (V : MaV) (m : Ma) (w : World) (hm : MachAt w V m) :
  Calls Tryz.prog 35 #[.agg #[.slice V.f.a V.f.n V.f.c,.int .i64 m.hand,.slice V.s.a V.s.n V.s.c,.slice V.sb.a V.sb.n V.sb.c,.slice V.sq.a V.sq.n V.sq.c,.slice V.db.a V.db.n V.db.c,.slice V.dq.a V.dq.n V.dq.c,.slice V.fl.a V.fl.n V.fl.c,.int .i64 m.cnt,.slice V.ca.a V.ca.n V.ca.c,.slice V.sp.a V.sp.n V.sp.c]] w fun e w'=>e = .returned (.int .i64 (firstE (wPartsL m)))∧Grew w w':=by
 obtain ⟨n1,n2,n3,n4,n5,n6,n7,-⟩:=hm.ns;have HC1 : Hid (∀ W,Grew w W→Calls Tryz.prog 77 #[.agg #[.slice V.f.a V.f.n V.f.c,.int .i64 m.hand]] W fun e w'=>e = .returned (.int .i64 (memW m.fs m.hand))∧Grew W w'):=show ∀ W,_ from fun W hW=>by
  have h:=(hm.grew hW).fs;rw [n1] at h ⊢;exact wrongMem_any _ _ m.fs m.hand W h
 have HC2 : Hid (∀ W,Grew w W→Calls Tryz.prog 78 #[.slice V.s.a V.s.n V.s.c] W fun e w'=>e = .returned (.int .i64 (slW m.sl))∧Grew W w'):=show ∀ W,_ from fun W hW=>by
  have h:=(hm.grew hW).sl;rw [n2] at h ⊢;exact wrongS_any _ _ m.sl W h
 have HC3 : Hid (∀ W,Grew w W→Calls Tryz.prog 79 #[.agg #[.slice V.sb.a V.sb.n V.sb.c,.slice V.sq.a V.sq.n V.sq.c]] W fun e w'=>e = .returned (.int .i64 (wrongL m.sb.length m.sq))∧Grew W w'):=show ∀ W,_ from fun W hW=>by
  have h:=(hm.grew hW).sq;rw [←n3];exact wrong_any _ _ _ _ m.sq W h
 have HC4 : Hid (∀ W,Grew w W→Calls Tryz.prog 79 #[.agg #[.slice V.db.a V.db.n V.db.c,.slice V.dq.a V.dq.n V.dq.c]] W fun e w'=>e = .returned (.int .i64 (wrongL m.db.length m.dq))∧Grew W w'):=show ∀ W,_ from fun W hW=>by
  have h:=(hm.grew hW).dq;rw [←n5];exact wrong_any _ _ _ _ m.dq W h
 have HC5 : Hid (∀ W,Grew w W→Calls Tryz.prog 80 #[.agg #[.slice V.fl.a V.fl.n V.fl.c,.int .i64 m.cnt]] W fun e w'=>e = .returned (.int .i64 (stW m.fl m.cnt))∧Grew W w'):=show ∀ W,_ from fun W hW=>wrongSt_any _ m.fl m.cnt W (hm.grew hW).fl
 clear n1 n2 n3 n4 n5 n6 n7 hm;obtain ⟨W0,hW0⟩ : ∃ W0,w.alloc (.cells #[.slice V.f.a V.f.n V.f.c,.int .i64 m.hand,.slice V.s.a V.s.n V.s.c,.slice V.sb.a V.sb.n V.sb.c,.slice V.sq.a V.sq.n V.sq.c,.slice V.db.a V.db.n V.db.c,.slice V.dq.a V.dq.n V.dq.c,.slice V.fl.a V.fl.n V.fl.c,.int .i64 m.cnt,.slice V.ca.a V.ca.n V.ca.c,.slice V.sp.a V.sp.n V.sp.c] 40) = W0:=⟨_,rfl⟩;have HG0 : Hid (Grew w W0):=show Grew _ _ by rw [←hW0]; exact grew_alloc _ _
 have X0 : Hid (Box W0 w.heap.size [.slice V.f.a V.f.n V.f.c,.int .i64 m.hand,.slice V.s.a V.s.n V.s.c,.slice V.sb.a V.sb.n V.sb.c,.slice V.sq.a V.sq.n V.sq.c,.slice V.db.a V.db.n V.db.c,.slice V.dq.a V.dq.n V.dq.c,.slice V.fl.a V.fl.n V.fl.c,.int .i64 m.cnt,.slice V.ca.a V.ca.n V.ca.c,.slice V.sp.a V.sp.n V.sp.c]):=show Box _ _ _ by rw [←hW0]; exact Box.top _ _ _ rfl
 have HW0 : Hid (_ = W0):=hW0;clear hW0;unfold wPartsL
 go_enter Tryz.func35,Tryz.ntmps35
 go_upto_region 1 with fail;rw [HW0.out];have hx0 : ∀ y : GrownW W0,y.world.cell? ⟨w.heap.size,0,none⟩ = some (.slice V.f.a V.f.n V.f.c):=fun y=>(X0.out.grew y.grew).c 0 rfl
 have hx1 : ∀ y : GrownW W0,y.world.cell? ⟨w.heap.size,1,none⟩ = some (.int .i64 m.hand):=fun y=>(X0.out.grew y.grew).c 1 rfl
 have hx2 : ∀ y : GrownW W0,y.world.cell? ⟨w.heap.size,2,none⟩ = some (.slice V.s.a V.s.n V.s.c):=fun y=>(X0.out.grew y.grew).c 2 rfl
 have hx3 : ∀ y : GrownW W0,y.world.cell? ⟨w.heap.size,3,none⟩ = some (.slice V.sb.a V.sb.n V.sb.c):=fun y=>(X0.out.grew y.grew).c 3 rfl
 have hx4 : ∀ y : GrownW W0,y.world.cell? ⟨w.heap.size,4,none⟩ = some (.slice V.sq.a V.sq.n V.sq.c):=fun y=>(X0.out.grew y.grew).c 4 rfl
 have hx5 : ∀ y : GrownW W0,y.world.cell? ⟨w.heap.size,5,none⟩ = some (.slice V.db.a V.db.n V.db.c):=fun y=>(X0.out.grew y.grew).c 5 rfl
 have hx6 : ∀ y : GrownW W0,y.world.cell? ⟨w.heap.size,6,none⟩ = some (.slice V.dq.a V.dq.n V.dq.c):=fun y=>(X0.out.grew y.grew).c 6 rfl
 have hx7 : ∀ y : GrownW W0,y.world.cell? ⟨w.heap.size,7,none⟩ = some (.slice V.fl.a V.fl.n V.fl.c):=fun y=>(X0.out.grew y.grew).c 7 rfl
 have hx8 : ∀ y : GrownW W0,y.world.cell? ⟨w.heap.size,8,none⟩ = some (.int .i64 m.cnt):=fun y=>(X0.out.grew y.grew).c 8 rfl
 have hne : Nonempty (GrownW W0):=⟨⟨_,Grew.refl _⟩⟩;refine wp_lax [(2,⟨fun v=>v = .int .i64 (memW m.fs m.hand),fun v w'=>True⟩),(5,⟨fun v=>v = .int .i64 (slW m.sl),fun v w'=>True⟩),(8,⟨fun v=>v = .int .i64 (wrongL m.sb.length m.sq),fun v w'=>True⟩),(11,⟨fun v=>v = .int .i64 (wrongL m.db.length m.dq),fun v w'=>True⟩),(14,⟨fun v=>v = .int .i64 (stW m.fl m.cnt),fun v w'=>True⟩),(15,⟨fun v=>∃ g,v = .slice (some ⟨g,0,none⟩) 5 5,fun v w'=>RowAt errE w' v [memW m.fs m.hand,slW m.sl,wrongL m.sb.length m.sq,wrongL m.db.length m.dq,stW m.fl m.cnt]⟩),(16,⟨fun v=>v = .int .i64 (firstE [memW m.fs m.hand,slW m.sl,wrongL m.sb.length m.sq,wrongL m.db.length m.dq,stW m.fl m.cnt]),fun v w'=>True⟩)] mixed (by kernel_rfl) ?hS ?hp ?_
 case hS =>
  intro x hx;simp only [List.mem_cons,List.not_mem_nil,or_false] at hx
  rcases hx with rfl | rfl | rfl | rfl | rfl | rfl | rfl
  ·exact ⟨_,rfl⟩
  ·exact ⟨_,rfl⟩
  ·exact ⟨_,rfl⟩
  ·exact ⟨_,rfl⟩
  ·exact ⟨_,rfl⟩
  ·exact ⟨_,0,rfl⟩
  ·exact ⟨_,rfl⟩
 case hp =>
  intro x hx;simp only [List.mem_cons,List.not_mem_nil,or_false] at hx
  rcases hx with rfl | rfl | rfl | rfl | rfl | rfl | rfl
  ·exact fun _ _ _ _ h=>h
  ·exact fun _ _ _ _ h=>h
  ·exact fun _ _ _ _ h=>h
  ·exact fun _ _ _ _ h=>h
  ·exact fun _ _ _ _ h=>h
  ·exact fun _ _ _ hg h=>RowAt.grew h hg
  ·exact fun _ _ _ _ h=>h
 iterate 2 (refine lax_quiet rfl rfl rfl (fun K hK=>?_); go_big_quiet_op; refine hK _ ?_; clear hK K)
 refine lax_spec rfl rfl (fun w' hg hF=>?_) (fun v1 hv=>?_)
 ·refine Does.call [.agg #[.slice V.f.a V.f.n V.f.c,.int .i64 m.hand]] rfl Tryz.func77 rfl rfl rfl ?_;refine (HC1.out w' (HG0.out.trans hg)).mono ?_;rintro e w'' ⟨rfl,hg2⟩;exact ⟨_,rfl,hg2,rfl,trivial⟩
 subst hv;simp only [Act.put,List.setIfInBounds_toArray,List.set_cons_succ,List.set_cons_zero];iterate 2 (refine lax_quiet rfl rfl rfl (fun K hK=>?_); go_big_quiet_op; refine hK _ ?_; clear hK K)
 refine lax_spec rfl rfl (fun w' hg hF=>?_) (fun v1 hv=>?_)
 ·refine Does.call [.slice V.s.a V.s.n V.s.c] rfl Tryz.func78 rfl rfl rfl ?_;refine (HC2.out w' (HG0.out.trans hg)).mono ?_;rintro e w'' ⟨rfl,hg2⟩;exact ⟨_,rfl,hg2,rfl,trivial⟩
 subst hv;simp only [Act.put,List.setIfInBounds_toArray,List.set_cons_succ,List.set_cons_zero];iterate 2 (refine lax_quiet rfl rfl rfl (fun K hK=>?_); go_big_quiet_op; refine hK _ ?_; clear hK K)
 refine lax_spec rfl rfl (fun w' hg hF=>?_) (fun v1 hv=>?_)
 ·refine Does.call [.agg #[.slice V.sb.a V.sb.n V.sb.c,.slice V.sq.a V.sq.n V.sq.c]] rfl Tryz.func79 rfl rfl rfl ?_;refine (HC3.out w' (HG0.out.trans hg)).mono ?_;rintro e w'' ⟨rfl,hg2⟩;exact ⟨_,rfl,hg2,rfl,trivial⟩
 subst hv;simp only [Act.put,List.setIfInBounds_toArray,List.set_cons_succ,List.set_cons_zero];iterate 2 (refine lax_quiet rfl rfl rfl (fun K hK=>?_); go_big_quiet_op; refine hK _ ?_; clear hK K)
 refine lax_spec rfl rfl (fun w' hg hF=>?_) (fun v1 hv=>?_)
 ·refine Does.call [.agg #[.slice V.db.a V.db.n V.db.c,.slice V.dq.a V.dq.n V.dq.c]] rfl Tryz.func79 rfl rfl rfl ?_;refine (HC4.out w' (HG0.out.trans hg)).mono ?_;rintro e w'' ⟨rfl,hg2⟩;exact ⟨_,rfl,hg2,rfl,trivial⟩
 subst hv;simp only [Act.put,List.setIfInBounds_toArray,List.set_cons_succ,List.set_cons_zero];iterate 2 (refine lax_quiet rfl rfl rfl (fun K hK=>?_); go_big_quiet_op; refine hK _ ?_; clear hK K)
 refine lax_spec rfl rfl (fun w' hg hF=>?_) (fun v1 hv=>?_)
 ·refine Does.call [.agg #[.slice V.fl.a V.fl.n V.fl.c,.int .i64 m.cnt]] rfl Tryz.func80 rfl rfl rfl ?_;refine (HC5.out w' (HG0.out.trans hg)).mono ?_;rintro e w'' ⟨rfl,hg2⟩;exact ⟨_,rfl,hg2,rfl,trivial⟩
 subst hv;simp only [Act.put,List.setIfInBounds_toArray,List.set_cons_succ,List.set_cons_zero];refine lax_spec rfl rfl (fun w' hg hF=>?_) (fun v1 hv=>?_)
 ·have hnew : RowAt errE (w'.alloc (.cells #[.int .i64 (memW m.fs m.hand),.int .i64 (slW m.sl),.int .i64 (wrongL m.sb.length m.sq),.int .i64 (wrongL m.db.length m.dq),.int .i64 (stW m.fl m.cnt)] 43)) (.slice (some ⟨w'.heap.size,0,none⟩) 5 5) [memW m.fs m.hand,slW m.sl,wrongL m.sb.length m.sq,wrongL m.db.length m.dq,stW m.fl m.cnt]:=row_lit errE w' [memW m.fs m.hand,slW m.sl,wrongL m.sb.length m.sq,wrongL m.db.length m.dq,stW m.fl m.cnt] _ rfl (show 5 * 8≤140737488355328 by decide)
  refine Does.step (v:= .slice (some ⟨w'.heap.size,0,none⟩) 5 5) (w':=w'.alloc (.cells #[.int .i64 (memW m.fs m.hand),.int .i64 (slW m.sl),.int .i64 (wrongL m.sb.length m.sq),.int .i64 (wrongL m.db.length m.dq),.int .i64 (stW m.fl m.cnt)] 43)) (by simp only [execOp]; go_simp) ⟨grew_alloc _ _,⟨_,rfl⟩,hnew⟩
 obtain ⟨g15,rfl⟩:=hv;simp only [Act.put,List.setIfInBounds_toArray,List.set_cons_succ,List.set_cons_zero];refine lax_spec rfl rfl (fun w' hg hF=>?_) (fun v1 hv=>?_)
 ·have h15 : RowAt errE w' (.slice (some ⟨g15,0,none⟩) 5 5) [memW m.fs m.hand,slW m.sl,wrongL m.sb.length m.sq,wrongL m.db.length m.dq,stW m.fl m.cnt]:=hF 15 (by kernel_rfl)
  refine Does.call [.slice (some ⟨g15,0,none⟩) 5 5] rfl Tryz.func70 rfl rfl rfl ?_;refine (orErr_any _ _ w' h15).mono ?_;rintro e w'' ⟨rfl,rfl⟩;exact ⟨_,rfl,Grew.refl _,rfl,trivial⟩
 subst hv;simp only [Act.put,List.setIfInBounds_toArray,List.set_cons_succ,List.set_cons_zero];iterate 1 (refine lax_quiet rfl rfl rfl (fun K hK=>?_); go_big_quiet_op; refine hK _ ?_; clear hK K)
 refine lax_nil fun W3 hg1 hF=>?_
 have G3 : Hid (Grew w W3):=HG0.out.trans hg1;clear hg1 hF hx0 hx1 hx2 hx3 hx4 hx5 hx6 hx7 hx8 hne;go_wp2;go_ret;exact ⟨rfl,G3.out⟩
theorem wrongArea_any (a : Ar) (w : World) : Calls Tryz.prog 153 #[.agg #[.int .i64 a.fr,.int .i64 a.tz,.bool a.rd,.bool a.wr,.bool a.sh,.int .i64 a.file,.int .i64 a.base]] w fun e w'=>e = .returned (.int .i64 (arW a))∧Grew w w':=by
 obtain ⟨fr,tz,rd,wr,sh,file,base⟩:=a
 by_cases c1 : fr < 0
 ·have hz : arW ⟨fr,tz,rd,wr,sh,file,base⟩ = 3:=by unfold arW; simp only; rw [if_pos (by omega)]
  rw [hz];clear hz
  go_enter Tryz.func153,Tryz.ntmps153
  go_wp2;go_ret;exact ⟨rfl,grew_alloc _ _⟩
 by_cases c2 : tz≤fr
 ·have hz : arW ⟨fr,tz,rd,wr,sh,file,base⟩ = 3:=by unfold arW; simp only; rw [if_pos (by omega)]
  rw [hz];clear hz
  go_enter Tryz.func153,Tryz.ntmps153
  go_wp2;go_ret;exact ⟨rfl,grew_alloc _ _⟩
 by_cases c3 : 64 < tz
 ·have hz : arW ⟨fr,tz,rd,wr,sh,file,base⟩ = 3:=by unfold arW; simp only; rw [if_pos (by omega)]
  rw [hz];clear hz
  go_enter Tryz.func153,Tryz.ntmps153
  go_wp2;go_ret;exact ⟨rfl,grew_alloc _ _⟩
 by_cases c4 : file < -1
 ·have hz : arW ⟨fr,tz,rd,wr,sh,file,base⟩ = 3:=by unfold arW; simp only; rw [if_pos (by omega)]
  rw [hz];clear hz
  go_enter Tryz.func153,Tryz.ntmps153
  go_wp2;go_ret;exact ⟨rfl,grew_alloc _ _⟩
 by_cases c5 : 5≤file
 ·have hz : arW ⟨fr,tz,rd,wr,sh,file,base⟩ = 3:=by unfold arW; simp only; rw [if_pos (by omega)]
  rw [hz];clear hz
  go_enter Tryz.func153,Tryz.ntmps153
  go_wp2;go_ret;exact ⟨rfl,grew_alloc _ _⟩
 by_cases c6 : base < 0
 ·have hz : arW ⟨fr,tz,rd,wr,sh,file,base⟩ = 3:=by unfold arW; simp only; rw [if_pos (by omega)]
  rw [hz];clear hz
  go_enter Tryz.func153,Tryz.ntmps153
  go_wp2;go_ret;exact ⟨rfl,grew_alloc _ _⟩
 have hn : ¬ (fr < 0∨tz≤fr∨64 < tz∨file < -1∨5≤file∨base < 0):=by omega
 by_cases d1 : file < 0
 ·by_cases d2 : base = 0
  ·cases sh
   ·have hz : arW ⟨fr,tz,rd,wr,false,file,base⟩ = 0:=by unfold arW; simp only; rw [if_neg hn,if_pos d1,if_neg (by simp [d2])]
    rw [hz];clear hz;have d2e : (base != 0) = false:=by simp [d2]
    have d2g : ¬ 0 < base:=by omega
    clear d2 hn
    go_enter Tryz.func153,Tryz.ntmps153
    go_wp2;go_ret;exact ⟨rfl,grew_alloc _ _⟩
   ·have hz : arW ⟨fr,tz,rd,wr,true,file,base⟩ = 7:=by unfold arW; simp only; rw [if_neg hn,if_pos d1,if_pos (by simp)]
    rw [hz];clear hz;have d2e : (base != 0) = false:=by simp [d2]
    have d2g : ¬ 0 < base:=by omega
    clear d2 hn
    go_enter Tryz.func153,Tryz.ntmps153
    go_wp2;go_ret;exact ⟨rfl,grew_alloc _ _⟩
  ·have hz : arW ⟨fr,tz,rd,wr,sh,file,base⟩ = 7:=by unfold arW; simp only; rw [if_neg hn,if_pos d1,if_pos (by simp [d2])]
   rw [hz];clear hz;have d2e : (base != 0) = true:=by simp [d2]
   have d2g : 0 < base:=by omega
   clear d2 hn
   go_enter Tryz.func153,Tryz.ntmps153
   go_wp2;go_ret;exact ⟨rfl,grew_alloc _ _⟩
 ·by_cases d2 : 12 - (tz - fr) < base
  ·have hz : arW ⟨fr,tz,rd,wr,sh,file,base⟩ = 7:=by unfold arW; simp only; rw [if_neg hn,if_neg d1,if_pos d2]
   rw [hz];clear hz;clear hn
   go_enter Tryz.func153,Tryz.ntmps153
   go_wp2;go_ret;exact ⟨rfl,grew_alloc _ _⟩
  ·have hz : arW ⟨fr,tz,rd,wr,sh,file,base⟩ = 0:=by unfold arW; simp only; rw [if_neg hn,if_neg d1,if_neg d2]
   rw [hz];clear hz;clear hn
   go_enter Tryz.func153,Tryz.ntmps153
   go_wp2;go_ret;exact ⟨rfl,grew_alloc _ _⟩
theorem refWrongArea_any (a : Ar) (w : World) : Calls Tryz.prog 117 #[.agg #[.int .i64 a.fr,.int .i64 a.tz,.bool a.rd,.bool a.wr,.bool a.sh,.int .i64 a.file,.int .i64 a.base]] w fun e w'=>e = .returned (.int .i64 (arW a))∧Grew w w':=by
 obtain ⟨fr,tz,rd,wr,sh,file,base⟩:=a
 by_cases c1 : fr < 0
 ·have hz : arW ⟨fr,tz,rd,wr,sh,file,base⟩ = 3:=by unfold arW; simp only; rw [if_pos (by omega)]
  rw [hz];clear hz
  go_enter Tryz.func117,Tryz.ntmps117
  go_wp2;go_ret;exact ⟨rfl,grew_alloc _ _⟩
 by_cases c3 : 64 < tz
 ·have hz : arW ⟨fr,tz,rd,wr,sh,file,base⟩ = 3:=by unfold arW; simp only; rw [if_pos (by omega)]
  rw [hz];clear hz
  go_enter Tryz.func117,Tryz.ntmps117
  go_wp2;go_ret;exact ⟨rfl,grew_alloc _ _⟩
 by_cases c2 : tz≤fr
 ·have hz : arW ⟨fr,tz,rd,wr,sh,file,base⟩ = 3:=by unfold arW; simp only; rw [if_pos (by omega)]
  rw [hz];clear hz
  go_enter Tryz.func117,Tryz.ntmps117
  go_wp2;go_ret;exact ⟨rfl,grew_alloc _ _⟩
 by_cases c4 : file < -1
 ·have hz : arW ⟨fr,tz,rd,wr,sh,file,base⟩ = 3:=by unfold arW; simp only; rw [if_pos (by omega)]
  rw [hz];clear hz
  go_enter Tryz.func117,Tryz.ntmps117
  go_wp2;go_ret;exact ⟨rfl,grew_alloc _ _⟩
 by_cases c5 : 4 < file
 ·have hz : arW ⟨fr,tz,rd,wr,sh,file,base⟩ = 3:=by unfold arW; simp only; rw [if_pos (by omega)]
  rw [hz];clear hz
  go_enter Tryz.func117,Tryz.ntmps117
  go_wp2;go_ret;exact ⟨rfl,grew_alloc _ _⟩
 by_cases c6 : base < 0
 ·have hz : arW ⟨fr,tz,rd,wr,sh,file,base⟩ = 3:=by unfold arW; simp only; rw [if_pos (by omega)]
  rw [hz];clear hz
  go_enter Tryz.func117,Tryz.ntmps117
  go_wp2;go_ret;exact ⟨rfl,grew_alloc _ _⟩
 have hn : ¬ (fr < 0∨tz≤fr∨64 < tz∨file < -1∨5≤file∨base < 0):=by omega
 by_cases d1 : file < 0
 ·by_cases d2 : base = 0
  ·cases sh
   ·have hz : arW ⟨fr,tz,rd,wr,false,file,base⟩ = 0:=by unfold arW; simp only; rw [if_neg hn,if_pos d1,if_neg (by simp [d2])]
    rw [hz];clear hz;have d1e : (file == -1) = true:=by simp; omega
    have d1n : ¬ 0≤file:=by omega
    have d2e : (base != 0) = false:=by simp [d2]
    have d2g : ¬ 0 < base:=by omega
    clear d2 hn
    go_enter Tryz.func117,Tryz.ntmps117
    go_wp2;go_ret;exact ⟨rfl,grew_alloc _ _⟩
   ·have hz : arW ⟨fr,tz,rd,wr,true,file,base⟩ = 7:=by unfold arW; simp only; rw [if_neg hn,if_pos d1,if_pos (by simp)]
    rw [hz];clear hz;have d1e : (file == -1) = true:=by simp; omega
    have d1n : ¬ 0≤file:=by omega
    have d2e : (base != 0) = false:=by simp [d2]
    have d2g : ¬ 0 < base:=by omega
    clear d2 hn
    go_enter Tryz.func117,Tryz.ntmps117
    go_wp2;go_ret;exact ⟨rfl,grew_alloc _ _⟩
  ·have hz : arW ⟨fr,tz,rd,wr,sh,file,base⟩ = 7:=by unfold arW; simp only; rw [if_neg hn,if_pos d1,if_pos (by simp [d2])]
   rw [hz];clear hz;have d1e : (file == -1) = true:=by simp; omega
   have d1n : ¬ 0≤file:=by omega
   have d2e : (base != 0) = true:=by simp [d2]
   have d2g : 0 < base:=by omega
   clear d2 hn
   go_enter Tryz.func117,Tryz.ntmps117
   go_wp2;go_ret;exact ⟨rfl,grew_alloc _ _⟩
 ·by_cases d2 : 12 - (tz - fr) < base
  ·have hz : arW ⟨fr,tz,rd,wr,sh,file,base⟩ = 7:=by unfold arW; simp only; rw [if_neg hn,if_neg d1,if_pos d2]
   rw [hz];clear hz;have d1e : (file == -1) = false:=by simp; omega
   have d1n : 0≤file:=by omega
   clear hn
   go_enter Tryz.func117,Tryz.ntmps117
   go_wp2;go_ret;exact ⟨rfl,grew_alloc _ _⟩
  ·have hz : arW ⟨fr,tz,rd,wr,sh,file,base⟩ = 0:=by unfold arW; simp only; rw [if_neg hn,if_neg d1,if_neg d2]
   rw [hz];clear hz;have d1e : (file == -1) = false:=by simp; omega
   have d1n : 0≤file:=by omega
   clear hn
   go_enter Tryz.func117,Tryz.ntmps117
   go_wp2;go_ret;exact ⟨rfl,grew_alloc _ _⟩
def behindA (a : Ar) (n : Int) : Ar:={ a with fr:=n,base:=if 0≤a.file then a.base + (n - a.fr) else a.base }
theorem behind_any (a : Ar) (n : Int) (w : World) (ha : ArOk a) (hn : 0≤n∧n≤64) : Calls Tryz.prog 166 #[.agg #[.int .i64 a.fr,.int .i64 a.tz,.bool a.rd,.bool a.wr,.bool a.sh,.int .i64 a.file,.int .i64 a.base],.int .i64 n] w fun e w'=>e = .returned (arA (behindA a n))∧Grew w w':=by
 have HA : Hid (ArOk a):=ha;unfold ArOk at ha;obtain ⟨h1,h2,h3,h4,h5,h6,h7,h8⟩:=ha;obtain ⟨fr,tz,rd,wr,sh,file,base⟩:=a;simp only at h1 h2 h3 h4 h5 h6 h7 h8 ⊢;have hb : base≤12:=by
  by_cases h : 0≤file
  ·have:=h8 h; omega
  ·have:=h7 (by omega); omega
 clear h7 h8;obtain ⟨n1,n2⟩:=hn;obtain ⟨W0,hW0⟩ : ∃ W0,(w.alloc (.cells #[.int .i64 fr,.int .i64 tz,.bool rd,.bool wr,.bool sh,.int .i64 file,.int .i64 base] 69)).alloc (.cells #[.int .i64 0,.int .i64 0,.bool false,.bool false,.bool false,.int .i64 0,.int .i64 0] 69) = W0:=⟨_,rfl⟩;have HG0 : Hid (Grew w W0):=show Grew w W0 by rw [←hW0]; exact (grew_alloc _ _).trans (grew_alloc _ _)
 have X0 : Hid (Box W0 w.heap.size [.int .i64 fr,.int .i64 tz,.bool rd,.bool wr,.bool sh,.int .i64 file,.int .i64 base]):=show Box _ _ _ by rw [←hW0]; exact (Box.top w _ _ rfl).alloc _
 have Y0 : Hid (Box W0 (w.heap.size + 1) [.int .i64 0,.int .i64 0,.bool false,.bool false,.bool false,.int .i64 0,.int .i64 0]):=show Box _ _ _ by rw [←hW0]; exact Box.top _ _ _ (by simp)
 have HW0 : Hid (_ = W0):=hW0;clear hW0
 by_cases hf : 0≤file
 ·have HR : Hid (behindA ⟨fr,tz,rd,wr,sh,file,base⟩ n = ⟨n,tz,rd,wr,sh,file,base + (n - fr)⟩):=show _ = _ by unfold behindA; simp only; rw [if_pos hf]
  go_enter Tryz.func166,Tryz.ntmps166
  go_upto_region 1 with fail;rw [HW0.out];have x0:=X0.out.c 0 rfl;have x5:=X0.out.c 5 rfl;have x6:=X0.out.c 6 rfl;have xf:=X0.out.f;go_upto_region 4 with fail;obtain ⟨W1,hW1⟩ : ∃ W1,(W0.setCell ⟨w.heap.size,6,none⟩ (.int .i64 (base + (n - fr)))).setCell ⟨w.heap.size,0,none⟩ (.int .i64 n) = W1:=⟨_,rfl⟩;have X1 : Hid (Box W1 w.heap.size [.int .i64 n,.int .i64 tz,.bool rd,.bool wr,.bool sh,.int .i64 file,.int .i64 (base + (n - fr))]):=show Box _ _ _ by rw [←hW1]; exact (X0.out.set 6 _).set 0 _
  have Y1 : Hid (Box W1 (w.heap.size + 1) [.int .i64 0,.int .i64 0,.bool false,.bool false,.bool false,.int .i64 0,.int .i64 0]):=show Box _ _ _ by rw [←hW1]; exact (Y0.out.other (by simp) _).other (by simp) _
  have HG1 : Hid (Grew w W1):=show Grew _ _ by rw [←hW1]; exact grew_set (grew_set HG0.out (by simp) _) (by simp) _
  rw [hW1];clear hW1 x0 x5 x6 xf
  go_wp2_with (first | refine wp_loadAll rfl 69 (.tmp 2) rfl w.heap.size rfl X1.out Tryz.underlying69 rfl Tryz.sizeArea ?_ | refine wp_storeAll rfl 69 (.tmp 4) (.tmp 18) rfl (w.heap.size + 1) rfl _ rfl Y1.out rfl Tryz.sizeArea (arE.one ⟨n,tz,rd,wr,sh,file,base + (n - fr)⟩) ?_)
  intro W2 b2 g2 s2;have G2 : Hid (Grew w W2):=grew_grown HG1.out g2 (by simp)
  have B2 : Hid (Box W2 (w.heap.size + 1) [.int .i64 n,.int .i64 tz,.bool rd,.bool wr,.bool sh,.int .i64 file,.int .i64 (base + (n - fr))]):=b2;clear b2 g2 s2;go_wp2;refine bodyPost_ret (ret_cell rfl _ rfl B2.out Tryz.underlying69 rfl Tryz.sizeArea) rfl ⟨by rw [HR.out]; rfl,G2.out⟩
 ·have HR : Hid (behindA ⟨fr,tz,rd,wr,sh,file,base⟩ n = ⟨n,tz,rd,wr,sh,file,base⟩):=show _ = _ by unfold behindA; simp only; rw [if_neg hf]
  go_enter Tryz.func166,Tryz.ntmps166
  go_upto_region 1 with fail;rw [HW0.out];have x0:=X0.out.c 0 rfl;have x5:=X0.out.c 5 rfl;have xf:=X0.out.f;go_upto_region 4 with fail;obtain ⟨W1,hW1⟩ : ∃ W1,W0.setCell ⟨w.heap.size,0,none⟩ (.int .i64 n) = W1:=⟨_,rfl⟩;have X1 : Hid (Box W1 w.heap.size [.int .i64 n,.int .i64 tz,.bool rd,.bool wr,.bool sh,.int .i64 file,.int .i64 base]):=show Box _ _ _ by rw [←hW1]; exact X0.out.set 0 _
  have Y1 : Hid (Box W1 (w.heap.size + 1) [.int .i64 0,.int .i64 0,.bool false,.bool false,.bool false,.int .i64 0,.int .i64 0]):=show Box _ _ _ by rw [←hW1]; exact Y0.out.other (by simp) _
  have HG1 : Hid (Grew w W1):=show Grew _ _ by rw [←hW1]; exact grew_set HG0.out (by simp) _
  rw [hW1];clear hW1 x0 x5 xf
  go_wp2_with (first | refine wp_loadAll rfl 69 (.tmp 2) rfl w.heap.size rfl X1.out Tryz.underlying69 rfl Tryz.sizeArea ?_ | refine wp_storeAll rfl 69 (.tmp 4) (.tmp 18) rfl (w.heap.size + 1) rfl _ rfl Y1.out rfl Tryz.sizeArea (arE.one ⟨n,tz,rd,wr,sh,file,base⟩) ?_)
  intro W2 b2 g2 s2;have G2 : Hid (Grew w W2):=grew_grown HG1.out g2 (by simp)
  have B2 : Hid (Box W2 (w.heap.size + 1) [.int .i64 n,.int .i64 tz,.bool rd,.bool wr,.bool sh,.int .i64 file,.int .i64 base]):=b2;clear b2 g2 s2;go_wp2;refine bodyPost_ret (ret_cell rfl _ rfl B2.out Tryz.underlying69 rfl Tryz.sizeArea) rfl ⟨by rw [HR.out]; rfl,G2.out⟩
def arEqB (a b : Ar) : Bool:=(a.fr == b.fr) && (a.tz == b.tz) && (a.rd == b.rd) && (a.wr == b.wr) && (a.sh == b.sh) && (a.file == b.file) && (a.base == b.base)
theorem ar_eq (x0 y0 : Int) (x1 y1 : Int) (x2 y2 : Bool) (x3 y3 : Bool) (x4 y4 : Bool) (x5 y5 : Int) (x6 y6 : Int) (w : World) : (Op.equalIn 10000 69 (.agg #[.int .i64 x0,.int .i64 x1,.bool x2,.bool x3,.bool x4,.int .i64 x5,.int .i64 x6]) (.agg #[.int .i64 y0,.int .i64 y1,.bool y2,.bool y3,.bool y4,.int .i64 y5,.int .i64 y6])).run Tryz.prog w = .ok (arEqB ⟨x0,x1,x2,x3,x4,x5,x6⟩ ⟨y0,y1,y2,y3,y4,y5,y6⟩) w:=by
 have hf : (Tryz.prog.fieldsOf 69).toList.map (fun f => (f.name, f.type, f.offset)) = [("From", 3, 0), ("To", 3, 1), ("Read", 4, 2), ("Write", 4, 3), ("Shared", 4, 4), ("File", 3, 5), ("Base", 3, 6)] := by kernel_rfl
 rw [run_equalIn_struct w 9999 69 _ _ (by kernel_rfl) (by kernel_rfl)]
 obtain ⟨f0,f1,f2,f3,f4,f5,f6,hfs⟩ : ∃ f0 f1 f2 f3 f4 f5 f6,(Tryz.prog.fieldsOf 69).toList = [f0,f1,f2,f3,f4,f5,f6]:=by
  have hl : (Tryz.prog.fieldsOf 69).toList.length = 7:=by have:=congrArg List.length hf; simpa using this
  match hq : (Tryz.prog.fieldsOf 69).toList,hl with
  | [f0,f1,f2,f3,f4,f5,f6],_=>exact ⟨f0,f1,f2,f3,f4,f5,f6,rfl⟩
 rw [hfs] at hf ⊢
 simp at hf
 obtain ⟨⟨n0,t0,o0⟩,⟨n1,t1,o1⟩,⟨n2,t2,o2⟩,⟨n3,t3,o3⟩,⟨n4,t4,o4⟩,⟨n5,t5,o5⟩,⟨n6,t6,o6⟩⟩:=hf;have pI : ∀ (zs : Array Value) (o : Nat) v,zs[o]? = some (.int .i64 v)→(part 3 zs o).run Tryz.prog w = .ok (.int .i64 v) w:=fun zs o v hz=>run_part_plain w (by simp [Program.plainKey,Tryz.underlying3]) hz
 have pB : ∀ (zs : Array Value) (o : Nat) v,zs[o]? = some (.bool v)→(part 4 zs o).run Tryz.prog w = .ok (.bool v) w:=fun zs o v hz=>run_part_plain w (by simp [Program.plainKey,Tryz.underlying4]) hz
 simp only [Op.eqFields,n0,t0,o0,n1,t1,o1,n2,t2,o2,n3,t3,o3,n4,t4,o4,n5,t5,o5,n6,t6,o6]
 simp [pI,pB,run_equalIn_bool' w _ _ _ _ Tryz.underlying4,run_equalIn_int w _ _ _ _ _ _ Tryz.underlying3]
 unfold arEqB;simp only
 by_cases e0 : x0 = y0
 case neg=>simp [e0]
 subst e0
 by_cases e1 : x1 = y1
 case neg=>simp [e1]
 subst e1
 by_cases e2 : x2 = y2
 case neg=>simp [e2]
 subst e2
 by_cases e3 : x3 = y3
 case neg=>simp [e3]
 subst e3
 by_cases e4 : x4 = y4
 case neg=>simp [e4]
 subst e4
 by_cases e5 : x5 = y5
 case neg=>simp [e5]
 subst e5
 by_cases e6 : x6 = y6
 case neg=>simp [e6]
 subst e6;simp
def onEqB (a b : On) : Bool:=(a.is == b.is) && (a.rd == b.rd) && (a.wr == b.wr) && (a.sh == b.sh) && (a.file == b.file) && (a.page == b.page)
theorem on_eq (x0 y0 : Bool) (x1 y1 : Bool) (x2 y2 : Bool) (x3 y3 : Bool) (x4 y4 : Int) (x5 y5 : Int) (w : World) : (Op.equalIn 10000 82 (.agg #[.bool x0,.bool x1,.bool x2,.bool x3,.int .i64 x4,.int .i64 x5]) (.agg #[.bool y0,.bool y1,.bool y2,.bool y3,.int .i64 y4,.int .i64 y5])).run Tryz.prog w = .ok (onEqB ⟨x0,x1,x2,x3,x4,x5⟩ ⟨y0,y1,y2,y3,y4,y5⟩) w:=by
 have hf : (Tryz.prog.fieldsOf 82).toList.map (fun f => (f.name, f.type, f.offset)) = [("Some", 4, 0), ("Read", 4, 1), ("Write", 4, 2), ("Shared", 4, 3), ("File", 3, 4), ("Page", 3, 5)] := by kernel_rfl
 rw [run_equalIn_struct w 9999 82 _ _ (by kernel_rfl) (by kernel_rfl)]
 obtain ⟨f0,f1,f2,f3,f4,f5,hfs⟩ : ∃ f0 f1 f2 f3 f4 f5,(Tryz.prog.fieldsOf 82).toList = [f0,f1,f2,f3,f4,f5]:=by
  have hl : (Tryz.prog.fieldsOf 82).toList.length = 6:=by have:=congrArg List.length hf; simpa using this
  match hq : (Tryz.prog.fieldsOf 82).toList,hl with
  | [f0,f1,f2,f3,f4,f5],_=>exact ⟨f0,f1,f2,f3,f4,f5,rfl⟩
 rw [hfs] at hf ⊢
 simp at hf
 obtain ⟨⟨n0,t0,o0⟩,⟨n1,t1,o1⟩,⟨n2,t2,o2⟩,⟨n3,t3,o3⟩,⟨n4,t4,o4⟩,⟨n5,t5,o5⟩⟩:=hf;have pI : ∀ (zs : Array Value) (o : Nat) v,zs[o]? = some (.int .i64 v)→(part 3 zs o).run Tryz.prog w = .ok (.int .i64 v) w:=fun zs o v hz=>run_part_plain w (by simp [Program.plainKey,Tryz.underlying3]) hz
 have pB : ∀ (zs : Array Value) (o : Nat) v,zs[o]? = some (.bool v)→(part 4 zs o).run Tryz.prog w = .ok (.bool v) w:=fun zs o v hz=>run_part_plain w (by simp [Program.plainKey,Tryz.underlying4]) hz
 simp only [Op.eqFields,n0,t0,o0,n1,t1,o1,n2,t2,o2,n3,t3,o3,n4,t4,o4,n5,t5,o5]
 simp [pI,pB,run_equalIn_bool' w _ _ _ _ Tryz.underlying4,run_equalIn_int w _ _ _ _ _ _ Tryz.underlying3]
 unfold onEqB;simp only
 by_cases e0 : x0 = y0
 case neg=>simp [e0]
 subst e0
 by_cases e1 : x1 = y1
 case neg=>simp [e1]
 subst e1
 by_cases e2 : x2 = y2
 case neg=>simp [e2]
 subst e2
 by_cases e3 : x3 = y3
 case neg=>simp [e3]
 subst e3
 by_cases e4 : x4 = y4
 case neg=>simp [e4]
 subst e4
 by_cases e5 : x5 = y5
 case neg=>simp [e5]
 subst e5;simp
theorem goes_eq {a b : Ar} : arEqB a ⟨b.tz,a.tz,b.rd,b.wr,b.sh,b.file,(behindA b b.tz).base⟩ = goB a b:=by
 unfold arEqB goB behindA;simp only [beq_self_eq_true,Bool.and_true];have hd : ∀ x y : Int,(x == y) = decide (x = y):=fun x y=>rfl
 simp only [hd]
theorem behindA_form (a : Ar) (n : Int) : arA (behindA a n) = .agg #[.int .i64 n,.int .i64 a.tz,.bool a.rd,.bool a.wr,.bool a.sh,.int .i64 a.file,.int .i64 (behindA a n).base]:=rfl
theorem goesOn_any (a b : Ar) (w : World) (hbk : ArOk b) : Calls Tryz.prog 154 #[.agg #[.int .i64 a.fr,.int .i64 a.tz,.bool a.rd,.bool a.wr,.bool a.sh,.int .i64 a.file,.int .i64 a.base],.agg #[.int .i64 b.fr,.int .i64 b.tz,.bool b.rd,.bool b.wr,.bool b.sh,.int .i64 b.file,.int .i64 b.base]] w fun e w'=>e = .returned (.bool (goB a b))∧Grew w w':=by
 have hb : ∀ W,Calls Tryz.prog 166 #[.agg #[.int .i64 b.fr,.int .i64 b.tz,.bool b.rd,.bool b.wr,.bool b.sh,.int .i64 b.file,.int .i64 b.base],.int .i64 b.tz] W fun e w'=>e = .returned (arA (behindA b b.tz))∧Grew W w':=fun W=>behind_any b b.tz W hbk (by have:=hbk; unfold ArOk at this; omega)
 have hq:=fun W=>ar_eq a.fr b.tz a.tz a.tz a.rd b.rd a.wr b.wr a.sh b.sh a.file b.file a.base (behindA b b.tz).base W
 have he:=goes_eq (a:=a) (b:=b);rw [show (⟨a.fr,a.tz,a.rd,a.wr,a.sh,a.file,a.base⟩ : Ar) = a from rfl] at hq
 rw [he] at hq;rw [behindA_form] at hb
 generalize (behindA b b.tz).base = nb at hb hq
 clear he hbk
 generalize goB a b = R at hq ⊢
 obtain ⟨W0,hW0⟩ : ∃ W0,(w.alloc (.cells #[.int .i64 a.fr,.int .i64 a.tz,.bool a.rd,.bool a.wr,.bool a.sh,.int .i64 a.file,.int .i64 a.base] 69)).alloc (.cells #[.int .i64 b.fr,.int .i64 b.tz,.bool b.rd,.bool b.wr,.bool b.sh,.int .i64 b.file,.int .i64 b.base] 69) = W0:=⟨_,rfl⟩;have HG0 : Hid (Grew w W0):=show Grew w W0 by rw [←hW0]; exact (grew_alloc _ _).trans (grew_alloc _ _)
 have X0 : Hid (Box W0 w.heap.size [.int .i64 a.fr,.int .i64 a.tz,.bool a.rd,.bool a.wr,.bool a.sh,.int .i64 a.file,.int .i64 a.base]):=show Box _ _ _ by rw [←hW0]; exact (Box.top w _ _ rfl).alloc _
 have Y0 : Hid (Box W0 (w.heap.size + 1) [.int .i64 b.fr,.int .i64 b.tz,.bool b.rd,.bool b.wr,.bool b.sh,.int .i64 b.file,.int .i64 b.base]):=show Box _ _ _ by rw [←hW0]; exact Box.top _ _ _ (by simp)
 have HW0 : Hid (_ = W0):=hW0;clear hW0
 go_enter Tryz.func154,Tryz.ntmps154
 go_upto_region 1 with fail;rw [HW0.out];have y1:=Y0.out.c 1 rfl
 go_wp2_with (refine wp_loadAll rfl 69 (.tmp 3) rfl (w.heap.size + 1) rfl Y0.out Tryz.underlying69 rfl Tryz.sizeArea ?_)
 refine (hb _).mono ?_;rintro e W1 ⟨rfl,g1⟩;have G1 : Hid (Grew w W1):=HG0.out.trans g1;have X1 : Hid (Box W1 w.heap.size [.int .i64 a.fr,.int .i64 a.tz,.bool a.rd,.bool a.wr,.bool a.sh,.int .i64 a.file,.int .i64 a.base]):=X0.out.grew g1;clear g1 hb y1;obtain ⟨p,HP⟩ : ∃ p,Hid (W1.heap.size = p):=⟨_,rfl⟩;have HL : Hid (w.heap.size < p):=show _ < _ by rw [←HP.out]; exact X1.out.lt
 go_upto_region 2 with fail;obtain ⟨W2,hW2⟩ : ∃ W2,W1.alloc (.cells #[.int .i64 b.tz,.int .i64 b.tz,.bool b.rd,.bool b.wr,.bool b.sh,.int .i64 b.file,.int .i64 nb] 69) = W2:=⟨_,rfl⟩;have G2 : Hid (Grew w W2):=show Grew _ _ by rw [←hW2]; exact G1.out.trans (grew_alloc _ _)
 have X2 : Hid (Box W2 w.heap.size [.int .i64 a.fr,.int .i64 a.tz,.bool a.rd,.bool a.wr,.bool a.sh,.int .i64 a.file,.int .i64 a.base]):=show Box _ _ _ by rw [←hW2]; exact X1.out.alloc _
 have Z2 : Hid (Box W2 p [.int .i64 b.tz,.int .i64 b.tz,.bool b.rd,.bool b.wr,.bool b.sh,.int .i64 b.file,.int .i64 nb]):=show Box _ _ _ by rw [←hW2]; exact Box.top _ _ _ HP.out.symm
 rw [hW2,HP.out];clear hW2;have x1:=X2.out.c 1 rfl;have z1:=Z2.out.c 1 rfl;have zf:=Z2.out.f;go_upto_region 3 with fail;obtain ⟨W3,hW3⟩ : ∃ W3,W2.setCell ⟨p,1,none⟩ (.int .i64 a.tz) = W3:=⟨_,rfl⟩;have G3 : Hid (Grew w W3):=show Grew _ _ by rw [←hW3]; exact grew_set G2.out (by have:=HL.out; simp; omega) _
 have X3 : Hid (Box W3 w.heap.size [.int .i64 a.fr,.int .i64 a.tz,.bool a.rd,.bool a.wr,.bool a.sh,.int .i64 a.file,.int .i64 a.base]):=show Box _ _ _ by rw [←hW3]; exact X2.out.other (by have:=HL.out; simp; omega) _
 have Z3 : Hid (Box W3 p [.int .i64 b.tz,.int .i64 a.tz,.bool b.rd,.bool b.wr,.bool b.sh,.int .i64 b.file,.int .i64 nb]):=show Box _ _ _ by rw [←hW3]; exact Z2.out.set 1 _
 rw [hW3];clear hW3 x1 z1 zf
 go_wp2_with (first | refine wp_loadAll rfl 69 (.tmp 5) rfl p rfl Z3.out Tryz.underlying69 rfl Tryz.sizeArea ?_ | refine wp_loadAll rfl 69 (.tmp 2) rfl w.heap.size rfl X3.out Tryz.underlying69 rfl Tryz.sizeArea ?_)
 go_ret;exact ⟨rfl,G3.out⟩
def inZ (a : Ar) (n : Int) : Bool:=decide (a.fr≤n) && decide (n < a.tz)
theorem inZ_nat (a : Ar) (n : Nat) : inZ a (n : Int) = arIn a n:=rfl
def FindsZ (l : List Ar) (n z : Int) : Prop:=(∃ (k : Nat) (a : Ar),z = k∧l[k]? = some a∧inZ a n = true)∨(z = -1∧∀ a∈l,inZ a n = false)
theorem finds_is {l : List Ar} {k : Nat} {z : Int} (h : FindsZ l k z) : decide (0≤z) = (onAt l k).is:=by
 rcases h with ⟨j,a,rfl,h1,h2⟩ | ⟨rfl,h1⟩
 ·have : ∀ (m : List Ar),a∈m→(onAt m k).is = true:=by
   intro m
   induction m with
   | nil=>intro hx; cases hx
   | cons c m ih =>
    intro hx
    by_cases hc : arIn c k = true
    ·rw [onAt,if_pos hc]; rfl
    ·rw [onAt,if_neg hc]
     rcases List.mem_cons.1 hx with e | hx
     ·rw [e,inZ_nat] at h2;exact absurd h2 hc
     ·exact ih hx
  rw [this l (List.mem_of_getElem? h1)];simp
 ·rw [onAt_none (fun a ha=>h1 a ha)]
  rfl
theorem findF_any (a : Ar) (n : Int) (p : Nat) (w : World) (hb : Box w p [.int .i64 n]) :
  Calls Tryz.prog 106 #[.agg #[.int .i64 a.fr,.int .i64 a.tz,.bool a.rd,.bool a.wr,.bool a.sh,.int .i64 a.file,.int .i64 a.base],.pointer (some ⟨p,0,none⟩)] w fun e w'=>e = .returned (.bool (inZ a n))∧Grew w w':=by
 have H : Hid (inZ a n = (decide (a.fr≤n) && decide (n < a.tz))):=rfl;obtain ⟨W0,hW0⟩ : ∃ W0,w.alloc (.cells #[.int .i64 a.fr,.int .i64 a.tz,.bool a.rd,.bool a.wr,.bool a.sh,.int .i64 a.file,.int .i64 a.base] 69) = W0:=⟨_,rfl⟩;have HG0 : Hid (Grew w W0):=show Grew w W0 by rw [←hW0]; exact grew_alloc _ _
 have X0 : Hid (Box W0 w.heap.size [.int .i64 a.fr,.int .i64 a.tz,.bool a.rd,.bool a.wr,.bool a.sh,.int .i64 a.file,.int .i64 a.base]):=show Box _ _ _ by rw [←hW0]; exact Box.top w _ _ rfl
 have B0 : Hid (Box W0 p [.int .i64 n]):=show Box _ _ _ by rw [←hW0]; exact hb.alloc _
 have HW0 : Hid (_ = W0):=hW0;clear hW0 hb
 by_cases h0 : a.fr≤n
 ·by_cases h1 : n < a.tz
  ·go_enter Tryz.func106,Tryz.ntmps106
   go_upto_region 1 with fail;rw [HW0.out];have x0:=X0.out.c 0 rfl;have x1:=X0.out.c 1 rfl;have b0:=B0.out.c 0 rfl;go_wp2;go_ret;exact ⟨by rw [H.out]; simp [*],HG0.out⟩
  ·go_enter Tryz.func106,Tryz.ntmps106
   go_upto_region 1 with fail;rw [HW0.out];have x0:=X0.out.c 0 rfl;have x1:=X0.out.c 1 rfl;have b0:=B0.out.c 0 rfl;go_wp2;go_ret;exact ⟨by rw [H.out]; simp [*],HG0.out⟩
 ·go_enter Tryz.func106,Tryz.ntmps106
  go_upto_region 1 with fail;rw [HW0.out];have x0:=X0.out.c 0 rfl;have x1:=X0.out.c 1 rfl;have b0:=B0.out.c 0 rfl;go_wp2;go_ret;exact ⟨by rw [H.out]; simp; omega,HG0.out⟩
theorem indexArea_any (v : Value) (l : List Ar) (m : Int) (p : Nat) (w : World) (hb : Box w p [.int .i64 m]) (hv : RowAt arE w v l) :
  Calls Tryz.prog 105 #[v,.func (.func 106) #[] #[.pointer (some ⟨p,0,none⟩)]] w fun e w'=>(∃ z : Int,e = .returned (.int .i64 z)∧FindsZ l m z)∧Grew w w':=by
 have hbig:=hv.short;obtain ⟨a,c,rfl,hrow⟩:=hv.ars;have HR : Hid (ArRows w a l):=hrow;have HB : Hid (Box w p [.int .i64 m]):=hb;have eg:=enters_of Tryz.func106 (by kernel_rfl) rfl
 clear hrow hv hb;obtain ⟨n,HN⟩ : ∃ n,Hid (l.length = n):=⟨_,rfl⟩;rw [HN.out] at hbig ⊢;obtain ⟨ANS,HANS⟩ : ∃ ANS : Int→Prop,Hid (∀ z,FindsZ l m z = ANS z):=⟨FindsZ l m,fun _=>rfl⟩
 simp only [HANS.out]
 go_enter Tryz.func105,Tryz.ntmps105
 go_wp2
 go_loopg [5,8] n (fun gg _ s8 wr=>∃ kk : Nat,kk≤n∧n - kk≤gg∧s8 = .int .i64 kk∧Hid (Grew w wr)∧Hid (∀ (j : Nat) (q : Ar),j < kk→l[j]? = some q→inZ q m = false))
 case atStart=>exact ⟨0,Nat.zero_le _,by omega,rfl,Grew.refl w,fun j q hj=>absurd hj (Nat.not_lt_zero _)⟩
 case round =>
  obtain ⟨kk,hkk,hg,rfl,BW,A⟩:=hrel
  by_cases hlt : kk < n
  ·have hltz : (kk : Int) < (n : Int):=by omega
   obtain ⟨q,HQ⟩ : ∃ q,Hid (l[kk]? = some q):=⟨_,List.getElem?_eq_getElem (by rw [HN.out]; exact hlt)⟩
   obtain ⟨ad,rfl,hl⟩:=HR.out kk q HQ.out;obtain ⟨d0,d1,d2,d3,d4,d5,d6⟩:=hl wr BW.out;have hcall:=findF_any q m p wr (HB.out.grew BW.out);clear hl
   cases hq : inZ q m with
   | true =>
    rw [hq] at hcall;have HF : Hid (ANS (kk : Int)):=show ANS _ by
     rw [←HANS.out];exact .inl ⟨kk,q,rfl,HQ.out,hq⟩
    clear hq;go_wp2_with fail;refine hcall.mono ?_;rintro e W2 ⟨rfl,g2⟩;have G2 : Hid (Grew w W2):=BW.out.trans g2;clear g2 hcall d0 d1 d2 d3 d4 d5 d6;go_wp2;go_ret;exact ⟨⟨_,rfl,HF.out⟩,G2.out⟩
   | false =>
    rw [hq] at hcall;have HA : Hid (∀ (j : Nat) (q : Ar),j < kk + 1→l[j]? = some q→inZ q m = false):=show ∀ (j : Nat) (q : Ar),_ from fun j q' hj hq'=>by
     by_cases e : j = kk
     ·subst e;rw [HQ.out] at hq';cases hq';exact hq
     ·exact A.out j q' (by omega) hq'
    clear hq;go_wp2_with fail;refine hcall.mono ?_;rintro e W2 ⟨rfl,g2⟩;have G2 : Hid (Grew w W2):=BW.out.trans g2;clear g2 hcall d0 d1 d2 d3 d4 d5 d6;go_wp2
    go_roundg (n - (kk + 1))
    case measure=>omega
    case rel=>exact ⟨kk + 1,by omega,by omega,by go_num,G2.out,HA.out⟩
  ·have hltz : ¬ (kk : Int) < (n : Int):=by omega
   have : kk = n:=by omega
   subst this;have HF : Hid (ANS (-1 : Int)):=show ANS _ by
    rw [←HANS.out];refine .inr ⟨rfl,fun x hx=>?_⟩
    obtain ⟨j,hj⟩:=List.getElem?_of_mem hx;exact A.out j x (by rw [←HN.out]; exact (List.getElem?_eq_some_iff.1 hj).1) hj
   go_wp2;go_ret;exact ⟨⟨_,rfl,HF.out⟩,BW.out⟩
theorem find_any (v : Value) (l : List Ar) (m : Int) (w : World) (hv : RowAt arE w v l) :
  Calls Tryz.prog 62 #[v,.int .i64 m] w fun e w'=>(∃ z : Int,e = .returned (.int .i64 z)∧FindsZ l m z)∧Grew w w':=by
 have hmf : ∀ (fn : Fn) (first cap : Array Value) (w : World),(Instr.makeFunc fn first cap).run Tryz.prog w = .ok (.func fn first cap) w:=fun _ _ _ _=>rfl
 have h1 : Calls Tryz.prog 105 #[v,.func (.func 106) #[] #[.pointer (some ⟨w.heap.size,0,none⟩)]] (w.alloc (.cells #[.int .i64 m] 3)) fun e w'=>(∃ z : Int,e = .returned (.int .i64 z)∧FindsZ l m z)∧Grew (w.alloc (.cells #[.int .i64 m] 3)) w':=indexArea_any v l m _ _ (Box.top w _ _ rfl) (hv.grew (grew_alloc _ _))
 obtain ⟨a,c,rfl,_⟩:=hv.ars;clear hv
 generalize l.length = n at h1 ⊢
 go_enter Tryz.func62,Tryz.ntmps62
 go_wp2_with fail;refine h1.mono ?_;rintro e W1 ⟨⟨z,rfl,hz⟩,g1⟩;have G1 : Hid (Grew w W1):=(grew_alloc _ _).trans g1;have HZ : Hid (FindsZ l m z):=hz;clear g1 h1 hz;go_wp2;go_ret;exact ⟨⟨_,rfl,HZ.out⟩,G1.out⟩
def prevO (l : List Ar) : Nat→Option Ar
 | 0=>none
 | k + 1=>l[k]?
theorem wrGo_cons (p : Option Ar) (a : Ar) (l : List Ar) (i : Nat) : wrGo p (a :: l) i = if arW a≠0 then (arW a,(i : Int)) else match p with | some b=>if a.fr < b.tz∨goB a b = true then (2,(i : Int)) else wrGo (some a) l (i + 1) | none=>wrGo (some a) l (i + 1):=by
 cases p <;> rfl
theorem wrn_bad {l : List Ar} {k : Nat} {q : Ar} {r : Int × Int} (h : wrGo (prevO l k) (l.drop k) k = r) (hq : l[k]? = some q) (hz : arW q≠0) : r = (arW q,(k : Int)):=by
 rw [drop_cons hq,wrGo_cons,if_pos hz] at h;exact h.symm
theorem wrn_first {l : List Ar} {q : Ar} {r : Int × Int} (h : wrGo (prevO l 0) (l.drop 0) 0 = r) (hq : l[0]? = some q) (hz : arW q = 0) : wrGo (prevO l 1) (l.drop 1) 1 = r:=by
 rw [drop_cons hq,wrGo_cons,if_neg (fun h=>h hz)] at h
 simp only [prevO] at h ⊢;rw [hq];exact h
theorem wrn_form {l : List Ar} {j : Nat} {b q : Ar} {r : Int × Int} (h : wrGo (prevO l (j + 1)) (l.drop (j + 1)) (j + 1) = r) (hb : l[j]? = some b) (hq : l[j + 1]? = some q) (hz : arW q = 0) (hc : q.fr < b.tz∨goB q b = true) : r = (2,((j + 1 : Nat) : Int)):=by
 rw [drop_cons hq,wrGo_cons,if_neg (fun h=>h hz)] at h
 simp only [prevO,hb] at h;rw [if_pos hc] at h;exact h.symm
theorem wrn_next {l : List Ar} {j : Nat} {b q : Ar} {r : Int × Int} (h : wrGo (prevO l (j + 1)) (l.drop (j + 1)) (j + 1) = r) (hb : l[j]? = some b) (hq : l[j + 1]? = some q) (hz : arW q = 0) (hc : ¬ q.fr < b.tz) (hc' : goB q b = false) : wrGo (prevO l (j + 1 + 1)) (l.drop (j + 1 + 1)) (j + 1 + 1) = r:=by
 rw [drop_cons hq,wrGo_cons,if_neg (fun h=>h hz)] at h
 simp only [prevO,hb] at h;rw [if_neg (by rintro (h1 | h1); exact hc h1; rw [hc'] at h1; cases h1)] at h
 simp only [prevO,hq];exact h
theorem wrn_end {l : List Ar} {r : Int × Int} (h : wrGo (prevO l l.length) (l.drop l.length) l.length = r) : r = (0,0):=by
 rw [List.drop_length,wrGo] at h;exact h.symm
theorem wrL_start {l : List Ar} (h : ¬ 16 < l.length) : wrGo (prevO l 0) (l.drop 0) 0 = wrL l:=by
 unfold wrL;rw [if_neg h];rfl
theorem wrongAr_any (v : Value) (l : List Ar) (w : World) (hv : RowAt arE w v l) :
  Calls Tryz.prog 130 #[v] w fun e w'=>e = .returned (.agg #[.int .i64 (wrL l).1,.int .i64 (wrL l).2])∧Grew w w':=by
 have hbig:=hv.short;obtain ⟨a,c,rfl,hrow⟩:=hv.ars;have HR' : Hid (ArRows w a l):=hrow;have hwa : Hid (∀ (q : Ar) W,Calls Tryz.prog 153 #[.agg #[.int .i64 q.fr,.int .i64 q.tz,.bool q.rd,.bool q.wr,.bool q.sh,.int .i64 q.file,.int .i64 q.base]] W fun e w'=>e = .returned (.int .i64 (arW q))∧Grew W w'):=fun q W=>wrongArea_any q W
 have hgo : Hid (∀ (q b : Ar) W,ArOk b→Calls Tryz.prog 154 #[.agg #[.int .i64 q.fr,.int .i64 q.tz,.bool q.rd,.bool q.wr,.bool q.sh,.int .i64 q.file,.int .i64 q.base],.agg #[.int .i64 b.fr,.int .i64 b.tz,.bool b.rd,.bool b.wr,.bool b.sh,.int .i64 b.file,.int .i64 b.base]] W fun e w'=>e = .returned (.bool (goB q b))∧Grew W w'):=fun q b W h=>goesOn_any q b W h
 clear hrow hv;have HST : Hid (¬ 16 < l.length→wrGo (prevO l 0) (l.drop 0) 0 = wrL l):=wrL_start;have HMA : Hid (16 < l.length→wrL l = (4,0)):=fun h=>by unfold wrL; rw [if_pos h]
 have HEND : Hid (∀ r,wrGo (prevO l l.length) (l.drop l.length) l.length = r→r = (0,0)):=fun r=>wrn_end
 obtain ⟨n,HN⟩ : ∃ n,Hid (l.length = n):=⟨_,rfl⟩;rw [HN.out] at hbig ⊢;have HST' : Hid (¬ 16 < n→wrGo (prevO l 0) (l.drop 0) 0 = wrL l):=show _→_ by rw [←HN.out]; exact HST.out
 have HMA' : Hid (16 < n→wrL l = (4,0)):=show _→_ by rw [←HN.out]; exact HMA.out
 have HEND' : Hid (∀ r,wrGo (prevO l n) (l.drop n) n = r→r = (0,0)):=show ∀ r,_ by rw [←HN.out]; exact HEND.out
 clear HST HMA HEND
 generalize hA : wrL l = ANS at HST' HMA' ⊢
 clear hA;obtain ⟨W0,hW0⟩ : ∃ W0,w.alloc (.cells #[.int .i64 0,.int .i64 0] 164) = W0:=⟨_,rfl⟩;have HG0 : Hid (Grew w W0):=show Grew w W0 by rw [←hW0]; exact grew_alloc _ _
 have X0 : Hid (Box W0 w.heap.size [.int .i64 0,.int .i64 0]):=show Box _ _ _ by rw [←hW0]; exact Box.top w _ _ rfl
 have HW0 : Hid (_ = W0):=hW0;clear hW0
 by_cases hmany : 16 < n
 ·have HR : Hid (ANS = (4,0)):=HMA'.out hmany;have hmz : (16 : Int) < (n : Int):=by omega
  go_enter Tryz.func130,Tryz.ntmps130
  go_upto_region 1 with fail;rw [HW0.out];have f0:=X0.out.c 0 rfl;have f1:=X0.out.c 1 rfl;have ff:=X0.out.f;have RB : Hid (Box ((W0.setCell ⟨w.heap.size,0,none⟩ (.int .i64 4)).setCell ⟨w.heap.size,1,none⟩ (.int .i64 0)) w.heap.size [.int .i64 4,.int .i64 0]):=show Box _ _ _ from (X0.out.set 0 _).set 1 _
  have RG : Hid (Grew w ((W0.setCell ⟨w.heap.size,0,none⟩ (.int .i64 4)).setCell ⟨w.heap.size,1,none⟩ (.int .i64 0))):=show Grew _ _ from grew_set (grew_set HG0.out (by simp) _) (by simp) _
  go_wp2;refine bodyPost_ret (ret_cell (vs:=[.int .i64 4,.int .i64 0]) rfl _ rfl RB.out Tryz.underlying164 rfl Tryz.sizeFault) rfl ⟨?_,RG.out⟩;rw [HR.out]
 ·have hmz : ¬ (16 : Int) < (n : Int):=by omega
  have HI : Hid (wrGo (prevO l 0) (l.drop 0) 0 = ANS):=HST'.out hmany
  go_enter Tryz.func130,Tryz.ntmps130
  go_upto_region 1 with fail;rw [HW0.out];go_wp2
  go_loopg [12] n (fun gg s12 wr=>∃ kk : Nat,kk≤n∧n - kk≤gg∧s12 = .int .i64 kk∧Hid (Grew w wr)∧Hid (Box wr w.heap.size [.int .i64 0,.int .i64 0])∧Hid (wrGo (prevO l kk) (l.drop kk) kk = ANS)∧Hid (∀ (j : Nat) q,j < kk→l[j]? = some q→ArOk q))
  case atStart=>exact ⟨0,Nat.zero_le _,by omega,rfl,HG0.out,X0.out,HI.out,fun j q hj=>absurd hj (Nat.not_lt_zero _)⟩
  case round =>
   obtain ⟨kk,hkk,hg,rfl,BW,FW,IW,OW⟩:=hrel
   by_cases hlt : kk < n
   ·have hltz : (kk : Int) < (n : Int):=by omega
    obtain ⟨q,HQ⟩ : ∃ q,Hid (l[kk]? = some q):=⟨_,List.getElem?_eq_getElem (by rw [HN.out]; exact hlt)⟩
    obtain ⟨ad,rfl,hl⟩:=HR'.out kk q HQ.out;obtain ⟨d0,d1,d2,d3,d4,d5,d6⟩:=hl wr BW.out;have HL : Hid (w.heap.size < wr.heap.size):=FW.out.lt;obtain ⟨p,HP⟩ : ∃ p,Hid (wr.heap.size = p):=⟨_,rfl⟩;have HLP : Hid (w.heap.size < p):=show _ < _ by rw [←HP.out]; exact HL.out
    clear hl HL;go_upto_region 6 with fail;obtain ⟨W1,hW1⟩ : ∃ W1,wr.alloc (.cells #[.int .i64 q.fr,.int .i64 q.tz,.bool q.rd,.bool q.wr,.bool q.sh,.int .i64 q.file,.int .i64 q.base] 69) = W1:=⟨_,rfl⟩;have G1 : Hid (Grew w W1):=show Grew _ _ by rw [←hW1]; exact BW.out.trans (grew_alloc _ _)
    have F1 : Hid (Box W1 w.heap.size [.int .i64 0,.int .i64 0]):=show Box _ _ _ by rw [←hW1]; exact FW.out.alloc _
    have P1 : Hid (Box W1 p [.int .i64 q.fr,.int .i64 q.tz,.bool q.rd,.bool q.wr,.bool q.sh,.int .i64 q.file,.int .i64 q.base]):=show Box _ _ _ by rw [←hW1]; exact Box.top _ _ _ HP.out.symm
    rw [hW1,HP.out];clear hW1 d0 d1 d2 d3 d4 d5 d6
    go_wp2_with (refine wp_loadAll rfl 69 (.tmp 4) rfl p rfl P1.out Tryz.underlying69 rfl Tryz.sizeArea ?_)
    refine (hwa.out q _).mono ?_;rintro e W2 ⟨rfl,g2⟩;have G2 : Hid (Grew w W2):=G1.out.trans g2;have F2 : Hid (Box W2 w.heap.size [.int .i64 0,.int .i64 0]):=F1.out.grew g2;have P2 : Hid (Box W2 p [.int .i64 q.fr,.int .i64 q.tz,.bool q.rd,.bool q.wr,.bool q.sh,.int .i64 q.file,.int .i64 q.base]):=P1.out.grew g2;clear g2;have hpne : p≠w.heap.size:=by have:=HLP.out; omega
    have hpne' : w.heap.size≠p:=by have:=HLP.out; omega
    by_cases hz : arW q = 0
    ·have HZ : Hid (arW q = 0):=hz;have hzb : (arW q != 0) = false:=by simp [hz]
     have HOK : Hid (ArOk q):=arW_zero.1 hz;have OW' : Hid (∀ (j : Nat) x,j < kk + 1→l[j]? = some x→ArOk x):=show ∀ (j : Nat) x,_ from fun j x hj hx=>by
      by_cases e : j = kk
      ·subst e;rw [HQ.out] at hx;cases hx;exact HOK.out
      ·exact OW.out j x (by omega) hx
     clear hz;go_upto_region 9 with fail
     generalize arW q = zq
     cases kk with
     | zero =>
      have HNX : Hid (wrGo (prevO l 1) (l.drop 1) 1 = ANS):=wrn_first IW.out HQ.out HZ.out;have hz0 : ¬ (0 : Int) < ((0 : Nat) : Int):=by decide
      have hz1 : decide ((0 : Int) < ((0 : Nat) : Int)) = false:=by decide
      go_quiet (fail);go_wp2
      go_roundg (n - 1)
      case measure=>omega
      case rel=>exact ⟨1,by omega,by omega,by go_num,G2.out.trans (show Below _ _ _ from Go.below_drewN (Below.refl _ _) _),F2.out.grew (show Below _ _ _ from Go.below_drewN (Below.refl _ _) _),HNX.out,OW'.out⟩
     | succ j =>
      obtain ⟨b,HB⟩ : ∃ b,Hid (l[j]? = some b):=⟨_,List.getElem?_eq_getElem (by rw [HN.out]; omega)⟩
      have HBK : Hid (ArOk b):=OW.out j b (by omega) HB.out
      have hz0 : (0 : Int) < ((j + 1 : Nat) : Int):=by omega
      have hz1 : decide ((0 : Int) < ((j + 1 : Nat) : Int)) = true:=by simp
      have hj1 : ((j + 1 : Nat) : Int) - 1 = (j : Int):=by omega
      have hjn : (j : Int) < (n : Int):=by omega
      obtain ⟨ad',had,hl⟩:=HR'.out j b HB.out;obtain rfl : ad = ad':=by cases had; rfl
      by_cases hc : q.fr < b.tz
      ·have HR : Hid (ANS = (2,((j + 1 : Nat) : Int))):=wrn_form IW.out HB.out HQ.out HZ.out (.inl hc);have hcd : decide (q.fr < b.tz) = true:=by simpa using hc
       obtain ⟨e0,e1,e2,e3,e4,e5,e6⟩:=hl W2 G2.out;have p0:=P2.out.c 0 rfl;clear hl;go_quiet (fail);obtain ⟨W3,hW3⟩ : ∃ W3,W2.drewN nq = W3:=⟨_,rfl⟩;have G3 : Hid (Grew w W3):=show Grew _ _ by rw [←hW3]; exact G2.out.trans (show Below _ _ _ from Go.below_drewN (Below.refl _ _) _)
       have F3 : Hid (Box W3 w.heap.size [.int .i64 0,.int .i64 0]):=show Box _ _ _ by rw [←hW3]; exact F2.out.grew (show Below _ _ _ from Go.below_drewN (Below.refl _ _) _)
       rw [hW3];clear hW3 e0 e1 e2 e3 e4 e5 e6 p0;have f0:=F3.out.c 0 rfl;have f1:=F3.out.c 1 rfl;have ff:=F3.out.f;have RB : Hid (Box ((W3.setCell ⟨w.heap.size,0,none⟩ (.int .i64 2)).setCell ⟨w.heap.size,1,none⟩ (.int .i64 ((j + 1 : Nat) : Int))) w.heap.size [.int .i64 2,.int .i64 ((j + 1 : Nat) : Int)]):=show Box _ _ _ from (F3.out.set 0 _).set 1 _
       have RG : Hid (Grew w ((W3.setCell ⟨w.heap.size,0,none⟩ (.int .i64 2)).setCell ⟨w.heap.size,1,none⟩ (.int .i64 ((j + 1 : Nat) : Int)))):=show Grew _ _ from grew_set (grew_set G3.out (by simp) _) (by simp) _
       go_wp2;refine bodyPost_ret (ret_cell (vs:=[.int .i64 2,.int .i64 ((j + 1 : Nat) : Int)]) rfl _ rfl RB.out Tryz.underlying164 rfl Tryz.sizeFault) rfl ⟨?_,RG.out⟩;rw [HR.out]
      ·have hcd : decide (q.fr < b.tz) = false:=by simpa using hc
       have HC : Hid (¬ q.fr < b.tz):=hc;have hx0 : ∀ y : GrownW W2,y.world.cell? ⟨p,0,none⟩ = some (.int .i64 q.fr):=fun y=>(P2.out.grew y.grew).c 0 rfl
       have hx1 : ∀ y : GrownW W2,y.world.cell? ⟨p,1,none⟩ = some (.int .i64 q.tz):=fun y=>(P2.out.grew y.grew).c 1 rfl
       have hx2 : ∀ y : GrownW W2,y.world.cell? ⟨p,2,none⟩ = some (.bool q.rd):=fun y=>(P2.out.grew y.grew).c 2 rfl
       have hx3 : ∀ y : GrownW W2,y.world.cell? ⟨p,3,none⟩ = some (.bool q.wr):=fun y=>(P2.out.grew y.grew).c 3 rfl
       have hx4 : ∀ y : GrownW W2,y.world.cell? ⟨p,4,none⟩ = some (.bool q.sh):=fun y=>(P2.out.grew y.grew).c 4 rfl
       have hx5 : ∀ y : GrownW W2,y.world.cell? ⟨p,5,none⟩ = some (.int .i64 q.file):=fun y=>(P2.out.grew y.grew).c 5 rfl
       have hx6 : ∀ y : GrownW W2,y.world.cell? ⟨p,6,none⟩ = some (.int .i64 q.base):=fun y=>(P2.out.grew y.grew).c 6 rfl
       have hy0 : ∀ y : GrownW W2,y.world.cell? (ad.add (j * 7)) = some (.int .i64 b.fr):=fun y=>(hl _ (G2.out.trans y.grew)).1
       have hy1 : ∀ y : GrownW W2,y.world.cell? { block:=(ad.add (j * 7)).block,off:=(ad.add (j * 7)).off + 1 } = some (.int .i64 b.tz):=fun y=>(hl _ (G2.out.trans y.grew)).2.1
       have hy2 : ∀ y : GrownW W2,y.world.cell? { block:=(ad.add (j * 7)).block,off:=(ad.add (j * 7)).off + 2 } = some (.bool b.rd):=fun y=>(hl _ (G2.out.trans y.grew)).2.2.1
       have hy3 : ∀ y : GrownW W2,y.world.cell? { block:=(ad.add (j * 7)).block,off:=(ad.add (j * 7)).off + 3 } = some (.bool b.wr):=fun y=>(hl _ (G2.out.trans y.grew)).2.2.2.1
       have hy4 : ∀ y : GrownW W2,y.world.cell? { block:=(ad.add (j * 7)).block,off:=(ad.add (j * 7)).off + 4 } = some (.bool b.sh):=fun y=>(hl _ (G2.out.trans y.grew)).2.2.2.2.1
       have hy5 : ∀ y : GrownW W2,y.world.cell? { block:=(ad.add (j * 7)).block,off:=(ad.add (j * 7)).off + 5 } = some (.int .i64 b.file):=fun y=>(hl _ (G2.out.trans y.grew)).2.2.2.2.2.1
       have hy6 : ∀ y : GrownW W2,y.world.cell? { block:=(ad.add (j * 7)).block,off:=(ad.add (j * 7)).off + 6 } = some (.int .i64 b.base):=fun y=>(hl _ (G2.out.trans y.grew)).2.2.2.2.2.2
       have hne : Nonempty (GrownW W2):=⟨⟨_,Grew.refl _⟩⟩;clear hl;refine wp_lax [(19,⟨fun v=>v = .bool (goB q b),fun _ _=>True⟩)] mixed (by kernel_rfl) ?_ ?_ ?_
       ·intro x hx
        simp at hx
        subst hx;exact ⟨_,rfl⟩
       ·intro x hx
        simp at hx
        subst hx;exact fun _ _ _ _ h=>h
       iterate 19 (refine lax_quiet rfl rfl rfl (fun K hK=>?_); go_big_quiet_op; refine hK _ ?_; clear hK K)
       refine lax_spec rfl rfl (fun w' hg hF=>?_) (fun v1 hv=>?_)
       ·refine Does.call [.agg #[.int .i64 q.fr,.int .i64 q.tz,.bool q.rd,.bool q.wr,.bool q.sh,.int .i64 q.file,.int .i64 q.base],.agg #[.int .i64 b.fr,.int .i64 b.tz,.bool b.rd,.bool b.wr,.bool b.sh,.int .i64 b.file,.int .i64 b.base]] rfl Tryz.func154 rfl rfl rfl ?_;refine (hgo.out q b w' HBK.out).mono ?_;rintro e w'' ⟨rfl,hg2⟩;exact ⟨_,rfl,hg2,rfl,trivial⟩
       subst hv;simp only [Act.put,List.setIfInBounds_toArray,List.set_cons_succ,List.set_cons_zero];iterate 2 (refine lax_quiet rfl rfl rfl (fun K hK=>?_); go_big_quiet_op; refine hK _ ?_; clear hK K)
       refine lax_nil fun W3 hg1 hF=>?_
       have G3 : Hid (Grew w W3):=G2.out.trans hg1;have F3 : Hid (Box W3 w.heap.size [.int .i64 0,.int .i64 0]):=F2.out.grew hg1;clear hg1 hF hx0 hx1 hx2 hx3 hx4 hx5 hx6 hy0 hy1 hy2 hy3 hy4 hy5 hy6 hne
       cases hgb : goB q b with
       | true =>
        have HR : Hid (ANS = (2,((j + 1 : Nat) : Int))):=wrn_form IW.out HB.out HQ.out HZ.out (.inr hgb);clear hgb;have f0:=F3.out.c 0 rfl;have f1:=F3.out.c 1 rfl;have ff:=F3.out.f;have RB : Hid (Box ((W3.setCell ⟨w.heap.size,0,none⟩ (.int .i64 2)).setCell ⟨w.heap.size,1,none⟩ (.int .i64 ((j + 1 : Nat) : Int))) w.heap.size [.int .i64 2,.int .i64 ((j + 1 : Nat) : Int)]):=show Box _ _ _ from (F3.out.set 0 _).set 1 _
        have RG : Hid (Grew w ((W3.setCell ⟨w.heap.size,0,none⟩ (.int .i64 2)).setCell ⟨w.heap.size,1,none⟩ (.int .i64 ((j + 1 : Nat) : Int)))):=show Grew _ _ from grew_set (grew_set G3.out (by simp) _) (by simp) _
        go_wp2;refine bodyPost_ret (ret_cell (vs:=[.int .i64 2,.int .i64 ((j + 1 : Nat) : Int)]) rfl _ rfl RB.out Tryz.underlying164 rfl Tryz.sizeFault) rfl ⟨?_,RG.out⟩;rw [HR.out]
       | false =>
        have HNX : Hid (wrGo (prevO l (j + 1 + 1)) (l.drop (j + 1 + 1)) (j + 1 + 1) = ANS):=wrn_next IW.out HB.out HQ.out HZ.out HC.out hgb;clear hgb;go_wp2
        go_roundg (n - (j + 1 + 1))
        case measure=>omega
        case rel=>exact ⟨j + 1 + 1,by omega,by omega,by go_num,G3.out,F3.out,HNX.out,OW'.out⟩
    ·have HR : Hid (ANS = (arW q,(kk : Int))):=wrn_bad IW.out HQ.out hz;have hzb : (arW q != 0) = true:=by simp [hz]
     clear hz;have f0:=F2.out.c 0 rfl;have f1:=F2.out.c 1 rfl;have ff:=F2.out.f;have RB : Hid (Box ((W2.setCell ⟨w.heap.size,0,none⟩ (.int .i64 (arW q))).setCell ⟨w.heap.size,1,none⟩ (.int .i64 (kk : Int))) w.heap.size [.int .i64 (arW q),.int .i64 (kk : Int)]):=show Box _ _ _ from (F2.out.set 0 _).set 1 _
     have RG : Hid (Grew w ((W2.setCell ⟨w.heap.size,0,none⟩ (.int .i64 (arW q))).setCell ⟨w.heap.size,1,none⟩ (.int .i64 (kk : Int)))):=show Grew _ _ from grew_set (grew_set G2.out (by simp) _) (by simp) _
     go_wp2;refine bodyPost_ret (ret_cell (vs:=[.int .i64 (arW q),.int .i64 (kk : Int)]) rfl _ rfl RB.out Tryz.underlying164 rfl Tryz.sizeFault) rfl ⟨?_,RG.out⟩;rw [HR.out]
   ·have hltz : ¬ (kk : Int) < (n : Int):=by omega
    have : kk = n:=by omega
    subst this;have HR : Hid (ANS = (0,0)):=HEND'.out _ IW.out;have f0:=FW.out.c 0 rfl;have f1:=FW.out.c 1 rfl;have ff:=FW.out.f;have RB : Hid (Box ((wr.setCell ⟨w.heap.size,0,none⟩ (.int .i64 0)).setCell ⟨w.heap.size,1,none⟩ (.int .i64 0)) w.heap.size [.int .i64 0,.int .i64 0]):=show Box _ _ _ from (FW.out.set 0 _).set 1 _
    have RG : Hid (Grew w ((wr.setCell ⟨w.heap.size,0,none⟩ (.int .i64 0)).setCell ⟨w.heap.size,1,none⟩ (.int .i64 0))):=show Grew _ _ from grew_set (grew_set BW.out (by simp) _) (by simp) _
    go_wp2;refine bodyPost_ret (ret_cell (vs:=[.int .i64 0,.int .i64 0]) rfl _ rfl RB.out Tryz.underlying164 rfl Tryz.sizeFault) rfl ⟨?_,RG.out⟩;rw [HR.out]
theorem esW_cons (e : En) (l : List En) : esW (e :: l) = if enW e = 0 then esW l else enW e:=rfl
theorem tbW_cons (h : List En) (t : List (List En)) : tbW (h :: t) = if haW h = 0 then tbW t else haW h:=rfl
theorem haW_8 {h : List En} (h8 : h.length = 8) : haW h = if esW h = 0 then (if anyS h = true then 0 else 2) else esW h:=by
 unfold haW;rw [if_neg (by omega),if_pos h8]
theorem wrongHalf_any (v : Value) (fs : List En) (w : World) (hv : RowAt enE w v fs) :
  Calls Tryz.prog 155 #[v] w fun e w'=>e = .returned (.int .i64 (haW fs))∧Grew w w':=by
 have hbig:=hv.short;have HV : Hid (RowAt enE w v fs):=hv;obtain ⟨a,c,rfl,hrow⟩:=hv.ens;have HR : Hid (EnRows w a fs):=hrow;clear hrow hv;obtain ⟨n,HN⟩ : ∃ n,Hid (fs.length = n):=⟨_,rfl⟩;obtain ⟨Z,HZ⟩ : ∃ Z,Hid (haW fs = Z):=⟨_,rfl⟩;rw [HN.out] at hbig HV ⊢;rw [HZ.out]
 by_cases h0 : n = 0
 ·have HF : Hid (Z = 0):=show _ = _ by rw [←HZ.out]; unfold haW; rw [if_pos (by rw [HN.out]; exact h0)]
  subst h0
  go_enter Tryz.func155,Tryz.ntmps155
  go_wp2;go_ret;exact ⟨by rw [HF.out]; rfl,Grew.refl _⟩
 ·have h0b : ((n : Int) == 0) = false:=by simpa using h0
  by_cases h8 : n = 8
  ·have H8 : Hid (fs.length = 8):=HN.out.trans h8;have h8b : ((n : Int) != 8) = false:=by simp [h8]
   clear h0 h8;have hcon:=fun W (hW : Grew w W)=>containsSome_any (.slice a n c) fs W (HV.out.grew hW)
   go_enter Tryz.func155,Tryz.ntmps155
   go_wp2
   go_loopg [14] n (fun gg s14 wr=>∃ kk : Nat,kk≤n∧n - kk≤gg∧s14 = .int .i64 kk∧Hid (Grew w wr)∧Hid (esW (fs.drop kk) = esW fs))
   case atStart=>exact ⟨0,Nat.zero_le _,by omega,rfl,Grew.refl w,rfl⟩
   case round =>
    obtain ⟨kk,hkk,hg,rfl,BW,AW⟩:=hrel
    by_cases hlt : kk < n
    ·have hltz : (kk : Int) < (n : Int):=by omega
     obtain ⟨q,HQ⟩ : ∃ q,Hid (fs[kk]? = some q):=⟨_,List.getElem?_eq_getElem (by rw [HN.out]; exact hlt)⟩
     obtain ⟨ad,rfl,hl⟩:=HR.out kk q HQ.out;obtain ⟨d0,d1,d2⟩:=hl wr BW.out;obtain ⟨W2,hW2⟩ : ∃ W2,wr.alloc (.cells #[.int .i64 q.kind,.int .i64 q.n,.bool q.wr] 67) = W2:=⟨_,rfl⟩;have GA : Hid (Grew w W2):=show Grew _ _ by rw [←hW2]; exact BW.out.trans (grew_alloc _ _)
     have HW2 : Hid (_ = W2):=hW2;have hcall:=wrongEntry_any q.kind q.n q.wr W2;have HST : Hid (esW (fs.drop kk) = if enW ⟨q.kind,q.n,q.wr⟩ = 0 then esW (fs.drop (kk + 1)) else enW ⟨q.kind,q.n,q.wr⟩):=show _ = _ by rw [drop_cons HQ.out,esW_cons]
     clear hl hW2
     generalize enW ⟨q.kind,q.n,q.wr⟩ = z at hcall HST
     by_cases hz : z = 0
     ·have HA : Hid (esW (fs.drop (kk + 1)) = esW fs):=show _ = _ by rw [←AW.out,HST.out,if_pos hz]
      subst hz;clear HST;go_wp2_with fail;rw [HW2.out];refine hcall.mono ?_;rintro e W3 ⟨rfl,k1⟩;have G3 : Hid (Grew w W3):=GA.out.trans k1;clear k1 hcall d0 d1 d2;go_wp2
      go_roundg (n - (kk + 1))
      case measure=>omega
      case rel=>exact ⟨kk + 1,by omega,by omega,by go_num,G3.out,HA.out⟩
     ·have hzb : (z != 0) = true:=by simpa using hz
      have HF : Hid (Z = z):=show _ = _ by
       have h1:=AW.out;rw [HST.out,if_neg hz] at h1;rw [←HZ.out,haW_8 H8.out,←h1,if_neg hz]
      clear HST;go_wp2_with fail;rw [HW2.out];refine hcall.mono ?_;rintro e W3 ⟨rfl,k1⟩;have G3 : Hid (Grew w W3):=GA.out.trans k1;clear k1 hcall d0 d1 d2;go_wp2;go_ret;exact ⟨by rw [HF.out]; rfl,G3.out⟩
    ·have hltz : ¬ (kk : Int) < (n : Int):=by omega
     have : kk = n:=by omega
     subst this;have HE : Hid (esW fs = 0):=show _ = _ by
      rw [←AW.out,List.drop_of_length_le (by rw [HN.out]; exact Nat.le_refl _)]
      rfl
     have hcall:=hcon wr BW.out;have HST : Hid (Z = if anyS fs = true then 0 else 2):=show _ = _ by rw [←HZ.out,haW_8 H8.out,HE.out,if_pos rfl]
     generalize anyS fs = A at hcall HST
     clear hcon
     cases A with
     | true =>
      go_wp2_with fail;refine hcall.mono ?_;rintro e W3 ⟨rfl,k1⟩;have G3 : Hid (Grew w W3):=BW.out.trans k1;clear k1 hcall;go_wp2;go_ret;exact ⟨by rw [HST.out]; rfl,G3.out⟩
     | false =>
      go_wp2_with fail;refine hcall.mono ?_;rintro e W3 ⟨rfl,k1⟩;have G3 : Hid (Grew w W3):=BW.out.trans k1;clear k1 hcall;go_wp2;go_ret;exact ⟨by rw [HST.out]; rfl,G3.out⟩
  ·have h8b : ((n : Int) != 8) = true:=by simp; omega
   have HF : Hid (Z = 2):=show _ = _ by rw [←HZ.out]; unfold haW; rw [if_neg (by rw [HN.out]; exact h0),if_neg (by rw [HN.out]; exact h8)]
   clear h0 h8
   go_enter Tryz.func155,Tryz.ntmps155
   go_wp2;go_ret;exact ⟨by rw [HF.out]; rfl,Grew.refl _⟩
theorem wrongTb_any (vs : List Value) (t : List (List En)) (w : World) (hv : TabAt w vs t) :
  Calls Tryz.prog 131 #[.agg vs.toArray] w fun e w'=>e = .returned (.int .i64 (tbW t))∧Grew w w':=by
 have HV : Hid (TabAt w vs t):=hv;have HL : Hid (vs.length = 8):=hv.len;clear hv;obtain ⟨Z,HZ⟩ : ∃ Z,Hid (tbW t = Z):=⟨_,rfl⟩;rw [HZ.out];obtain ⟨W0,hW0⟩ : ∃ W0,w.alloc (.cells vs.toArray 63) = W0:=⟨_,rfl⟩;have HG0 : Hid (Grew w W0):=show Grew w W0 by rw [←hW0]; exact grew_alloc _ _
 have X0 : Hid (Box W0 w.heap.size vs):=show Box _ _ _ by rw [←hW0]; exact Box.top w _ _ rfl
 have HW0 : Hid (_ = W0):=hW0;clear hW0
 go_enter Tryz.func131,Tryz.ntmps131
 go_upto_region 1 with fail;rw [HW0.out]
 go_wp2_with (refine wp_loadTab rfl (.tmp 1) rfl w.heap.size rfl X0.out HL.out ?_)
 go_loopg [7] 8 (fun gg s7 wr=>∃ kk : Nat,kk≤8∧8 - kk≤gg∧s7 = .int .i64 kk∧Hid (Grew w wr)∧Hid (tbW (t.drop kk) = tbW t))
 case atStart=>exact ⟨0,Nat.zero_le _,by omega,rfl,HG0.out,rfl⟩
 case round =>
  obtain ⟨kk,hkk,hg,rfl,BW,AW⟩:=hrel
  by_cases hlt : kk < 8
  ·have hltz : (kk : Int) < 8:=by omega
   obtain ⟨xa,xc,q,hq,hvk,hr⟩:=HV.out.half hlt;have HQ : Hid (t[kk]? = some q):=hq;have HVK : Hid (vs[kk]? = some (.slice xa q.length xc)):=hvk;have hcall:=wrongHalf_any (.slice xa q.length xc) q wr (hr.grew BW.out);have HST : Hid (tbW (t.drop kk) = if haW q = 0 then tbW (t.drop (kk + 1)) else haW q):=show _ = _ by rw [drop_cons HQ.out,tbW_cons]
   clear hq hvk hr
   generalize haW q = z at hcall HST
   generalize q.length = nq at hcall HVK
   by_cases hz : z = 0
   ·have HA : Hid (tbW (t.drop (kk + 1)) = tbW t):=show _ = _ by rw [←AW.out,HST.out,if_pos hz]
    subst hz;clear HST
    go_wp2_with (refine wp_half rfl (.tmp 6) (.tmp 7) rfl vs rfl kk rfl hlt HVK.out ?_)
    refine hcall.mono ?_;rintro e W3 ⟨rfl,k1⟩;have G3 : Hid (Grew w W3):=BW.out.trans k1;clear k1 hcall;go_wp2
    go_roundg (8 - (kk + 1))
    case measure=>omega
    case rel=>exact ⟨kk + 1,by omega,by omega,by go_num,G3.out,HA.out⟩
   ·have hzb : (z != 0) = true:=by simpa using hz
    have HF : Hid (Z = z):=show _ = _ by
     have h1:=AW.out;rw [HST.out,if_neg hz] at h1;rw [←HZ.out,←h1]
    clear HST
    go_wp2_with (refine wp_half rfl (.tmp 6) (.tmp 7) rfl vs rfl kk rfl hlt HVK.out ?_)
    refine hcall.mono ?_;rintro e W3 ⟨rfl,k1⟩;have G3 : Hid (Grew w W3):=BW.out.trans k1;clear k1 hcall;go_wp2;go_ret;exact ⟨by rw [HF.out]; rfl,G3.out⟩
  ·have hltz : ¬ (kk : Int) < 8:=by omega
   have : kk = 8:=by omega
   subst this;have HF : Hid (Z = 0):=show _ = _ by
    rw [←HZ.out,←AW.out,List.drop_of_length_le (by rw [HV.out.tlen]; exact Nat.le_refl _)]
    rfl
   go_wp2;go_ret;exact ⟨by rw [HF.out]; rfl,BW.out⟩
def enV (e : En) : Value:= .agg #[.int .i64 e.kind,.int .i64 e.n,.bool e.wr]
theorem page_split {n : Int} (h0 : 0≤n) (h1 : n < 64) : ∃ i k : Nat,i < 8∧k < 8∧n = 8 * i + k∧n / 8 = (i : Int)∧n % 8 = (k : Int)∧n.tdiv 8 = (i : Int)∧n.tmod 8 = (k : Int)∧n.toNat / 8 = i∧n.toNat % 8 = k:=by
 refine ⟨n.toNat / 8,n.toNat % 8,by omega,by omega,by omega,by omega,by omega,?_,?_,rfl,rfl⟩
 ·rw [Int.tdiv_eq_ediv_of_nonneg h0]; omega
 ·rw [Int.tmod_eq_emod_of_nonneg h0]; omega
theorem getTb_any (vs : List Value) (t : List (List En)) (n : Int) (w : World) (hv : TabAt w vs t) :
  Calls Tryz.prog 64 #[.agg vs.toArray,.int .i64 n] w fun e w'=>e = .returned (enV (getT t n))∧Grew w w':=by
 have HV : Hid (TabAt w vs t):=hv;have HL : Hid (vs.length = 8):=hv.len;clear hv;obtain ⟨Z,HZ⟩ : ∃ Z,Hid (getT t n = Z):=⟨_,rfl⟩;rw [HZ.out];obtain ⟨W0,hW0⟩ : ∃ W0,(w.alloc (.cells vs.toArray 63)).alloc (.cells #[.int .i64 0,.int .i64 0,.bool false] 67) = W0:=⟨_,rfl⟩;have HG0 : Hid (Grew w W0):=show Grew w W0 by rw [←hW0]; exact (grew_alloc _ _).trans (grew_alloc _ _)
 have X0 : Hid (Box W0 w.heap.size vs):=show Box _ _ _ by rw [←hW0]; exact (Box.top w _ _ rfl).alloc _
 have Y0 : Hid (Box W0 (w.heap.size + 1) [.int .i64 0,.int .i64 0,.bool false]):=show Box _ _ _ by rw [←hW0]; exact Box.top _ _ _ (by simp)
 have HW0 : Hid (_ = W0):=hW0;clear hW0;have three : ∀ (W : World) (u v x : Value),Box W (w.heap.size + 1) [.int .i64 0,.int .i64 0,.bool false]→Grew w W→Grew w (((W.setCell ⟨w.heap.size + 1,0,none⟩ u).setCell ⟨w.heap.size + 1,1,none⟩ v).setCell ⟨w.heap.size + 1,2,none⟩ x):=fun W u v x _ hg =>
  Below.setCell (Below.setCell (Below.setCell hg (p:=⟨w.heap.size + 1,0,none⟩) (by simp) _) (p:=⟨w.heap.size + 1,1,none⟩) (by simp) _) (p:=⟨w.heap.size + 1,2,none⟩) (by simp) _
 have HT : Hid (∀ (W : World) (u v x : Value),Box W (w.heap.size + 1) [.int .i64 0,.int .i64 0,.bool false]→Grew w W→Grew w (((W.setCell ⟨w.heap.size + 1,0,none⟩ u).setCell ⟨w.heap.size + 1,1,none⟩ v).setCell ⟨w.heap.size + 1,2,none⟩ x)):=three;clear three;have y0:=Y0.out.c 0 rfl;have y1:=Y0.out.c 1 rfl;have y2:=Y0.out.c 2 rfl;have yf:=Y0.out.f
 by_cases hn : 0≤n∧n < 64
 ·obtain ⟨h0,h1⟩:=hn;obtain ⟨i,k,hi,hk,hnk,q1,q2,q3,q4,q5,q6⟩:=page_split h0 h1;have hb:=fun W=>belowT_yes (m:=n) (n:=64) h0 h1 W
  obtain ⟨xa,xc,q,hq,hvk,hr⟩:=HV.out.half hi;have HF : Hid (Z = q[k]?.getD en0):=show _ = _ by
   rw [←HZ.out];unfold getT;rw [if_pos ⟨h0,h1⟩,q5,q6];unfold getN;rw [hq];rfl
  have x0:=X0.out.c i hvk;obtain ⟨_,_,heq,hens⟩:=hr.ens;cases heq;have HE : Hid (EnRows w xa q):=hens;have hiz : (i : Int) < 8:=by omega
  clear hens hr hq hvk q5 q6 hnk;obtain ⟨nq,HNQ⟩ : ∃ nq,Hid (q.length = nq):=⟨_,rfl⟩;rw [HNQ.out] at x0
  by_cases hkq : k < nq
  ·obtain ⟨e,HE1⟩ : ∃ e,Hid (q[k]? = some e):=⟨_,List.getElem?_eq_getElem (by rw [HNQ.out]; exact hkq)⟩
   obtain ⟨ad,rfl,hl⟩:=HE.out k e HE1.out;obtain ⟨d0,d1,d2⟩:=hl W0 HG0.out;have HF' : Hid (Z = e):=show _ = _ by rw [HF.out,HE1.out]; rfl
   have hkz : ¬ (nq : Int)≤(k : Int):=by omega
   have hkd : decide ((nq : Int)≤(k : Int)) = false:=decide_eq_false hkz;have hklt : (k : Int) < (nq : Int):=by omega
   clear hl
   go_enter Tryz.func64,Tryz.ntmps64
   go_wp2_with fail;rw [HW0.out];refine (hb _).mono ?_;rintro e w' ⟨rfl,hw'⟩;rw [hw'];clear hw' w';go_wp2;refine bodyPost_ret (v:= .agg #[.int .i64 e.kind,.int .i64 e.n,.bool e.wr]) (by simp [results,Tryz.results64,go_sem, *]) rfl ⟨?_,?_⟩
   ·rw [HF'.out]; rfl
   ·exact HT.out _ _ _ _ Y0.out HG0.out
  ·have HF' : Hid (Z = en0):=show _ = _ by rw [HF.out,List.getElem?_eq_none (by rw [HNQ.out]; omega)]; rfl
   have hkz : (nq : Int)≤(k : Int):=by omega
   go_enter Tryz.func64,Tryz.ntmps64
   go_wp2_with fail;rw [HW0.out];refine (hb _).mono ?_;rintro e w' ⟨rfl,hw'⟩;rw [hw'];clear hw' w';go_wp2;refine bodyPost_ret (v:= .agg #[.int .i64 0,.int .i64 0,.bool false]) (by simp [results,Tryz.results64,go_sem, *]) rfl ⟨?_,?_⟩
   ·rw [HF'.out]; rfl
   ·exact HT.out _ _ _ _ Y0.out HG0.out
 ·have hb:=fun W=>belowT_no (m:=n) (n:=64) hn W
  have HF : Hid (Z = en0):=show _ = _ by rw [←HZ.out]; unfold getT; rw [if_neg hn]
  clear hn
  go_enter Tryz.func64,Tryz.ntmps64
  go_wp2_with fail;rw [HW0.out];refine (hb _).mono ?_;rintro e w' ⟨rfl,hw'⟩;rw [hw'];clear hw' w';go_wp2;refine bodyPost_ret (v:= .agg #[.int .i64 0,.int .i64 0,.bool false]) (by simp [results,Tryz.results64,go_sem, *]) rfl ⟨?_,?_⟩
  ·rw [HF.out]; rfl
  ·exact HT.out _ _ _ _ Y0.out HG0.out
def anyEn (_ : En) : Bool:=true
theorem pages1_any (k n : Int) (b : Bool) (w : World) :
  Calls Tryz.prog 133 #[.agg #[.int .i64 k,.int .i64 n,.bool b]] w fun e w'=>e = .returned (.bool true)∧Grew w w':=by
 go_enter Tryz.func133,Tryz.ntmps133
 go_wp2;go_ret;exact ⟨rfl,grew_alloc _ _⟩
theorem thatPages_any (vs : List Value) (t : List (List En))  (w : World) (hv : TabAt w vs t) :
  Calls Tryz.prog 132 #[.agg vs.toArray,.func (.func 133) #[] #[]] w fun e w'=>∃ v,e = .returned v∧OwnRow blE w.heap.size w' v (pagesTo t anyEn 64)∧Grew w w':=by
 have HV : Hid (TabAt w vs t):=hv;have HL : Hid (vs.length = 8):=hv.len;clear hv;obtain ⟨W0,hW0⟩ : ∃ W0,w.alloc (.cells vs.toArray 63) = W0:=⟨_,rfl⟩;have HG0 : Hid (Grew w W0):=show Grew w W0 by rw [←hW0]; exact grew_alloc _ _
 have X0 : Hid (Box W0 w.heap.size vs):=show Box _ _ _ by rw [←hW0]; exact Box.top w _ _ rfl
 have HW0 : Hid (_ = W0):=hW0;clear hW0;obtain ⟨PG,HPG⟩ : ∃ PG,Hid (pagesTo t anyEn = PG):=⟨_,rfl⟩;have HP0 : Hid (PG 0 = []):=show _ = _ by rw [←HPG.out]; rfl
 have HPS : Hid (∀ m : Nat,m < 64→PG (m + 1) = if enS (getT t (m : Int)) && anyEn (getT t (m : Int)) then PG m ++ [(m : Int)] else PG m):=show ∀ m : Nat,_ from fun m hm=>by
  rw [←HPG.out,pagesTo_succ];have : getT t (m : Int) = getN t (m / 8) (m % 8):=by unfold getT; rw [if_pos (by omega),Int.toNat_natCast]
  rw [this]
 have HPL : Hid (∀ m,(PG m).length≤m):=show ∀ m,_ from fun m=>by rw [←HPG.out]; exact pagesTo_len _ _ _
 rw [HPG.out];have eg:=enters_of Tryz.func133 (by kernel_rfl) rfl
 go_enter Tryz.func132,Tryz.ntmps132
 go_upto_region 1 with fail;rw [HW0.out];go_wp2
 go_loopg [5,8] 64 (fun gg s5 s8 wr=>∃ (kk : Nat) (a5 : Option Addr) (n5 c5 : Nat),kk≤64∧64 - kk≤gg∧s8 = .int .i64 kk∧s5 = .slice a5 n5 c5∧Hid (Grew W0 wr)∧Hid (OwnRow blE W0.heap.size wr (.slice a5 n5 c5) (PG kk)))
 case atStart=>exact ⟨0,none,0,0,Nat.zero_le _,by omega,rfl,rfl,Grew.refl _,by rw [HP0.out]; exact OwnRow.nil _ _ _⟩
 case round =>
  obtain ⟨kk,a5,n5,c5,hkk,hg,rfl,rfl,BW,OW⟩:=hrel
  by_cases hlt : kk < 64
  ·have hltz : (kk : Int) < 64:=by omega
   have hget:=getTb_any vs t (kk : Int) wr (HV.out.grew (HG0.out.trans BW.out));have XW : Hid (Box wr w.heap.size vs):=X0.out.grew BW.out;have HST:=HPS.out kk hlt;obtain ⟨x,HX⟩ : ∃ x,Hid (getT t (kk : Int) = x):=⟨_,rfl⟩;rw [HX.out] at hget HST;have HST' : Hid (PG (kk + 1) = if enS x && anyEn x then PG kk ++ [(kk : Int)] else PG kk):=HST;clear HST;obtain ⟨xk,xn,xb⟩:=x
   go_wp2_with (refine wp_loadTab rfl (.tmp 2) rfl w.heap.size rfl XW.out HL.out ?_)
   refine hget.mono ?_;rintro e W2 ⟨rfl,g2⟩;have G2 : Hid (Grew W0 W2):=BW.out.trans g2;have O2 : Hid (OwnRow blE W0.heap.size W2 (.slice a5 n5 c5) (PG kk)):=OW.out.grew g2;clear g2 hget;simp only [enV];go_upto_region 6 with fail;obtain ⟨px,hpx⟩ : ∃ px,W2.heap.size = px:=⟨_,rfl⟩;obtain ⟨W3,hW3⟩ : ∃ W3,W2.alloc (.cells #[.int .i64 xk,.int .i64 xn,.bool xb] 67) = W3:=⟨_,rfl⟩;have G3 : Hid (Grew W0 W3):=show Grew _ _ by rw [←hW3]; exact G2.out.trans (grew_alloc _ _)
   have O3 : Hid (OwnRow blE W0.heap.size W3 (.slice a5 n5 c5) (PG kk)):=show OwnRow _ _ _ _ _ by rw [←hW3]; exact O2.out.grew (grew_alloc _ _)
   have P3 : Hid (Box W3 px [.int .i64 xk,.int .i64 xn,.bool xb]):=show Box _ _ _ by rw [←hW3]; exact Box.top _ _ _ hpx.symm
   rw [hW3];rw [hpx];clear hW3 hpx;have p0:=P3.out.c 0 rfl;have p1:=P3.out.c 1 rfl;have p2:=P3.out.c 2 rfl;have his:=isSome_any xk xn xb W3
   cases hs : enS ⟨xk,xn,xb⟩ with
   | false =>
    have HN : Hid (PG (kk + 1) = PG kk):=show _ = _ by rw [HST'.out,hs]; rfl
    rw [hs] at his;clear hs;go_wp2_with fail;refine his.mono ?_;rintro e W4 ⟨rfl,g4⟩;have G4 : Hid (Grew W0 W4):=G3.out.trans g4;have O4 : Hid (OwnRow blE W0.heap.size W4 (.slice a5 n5 c5) (PG (kk + 1))):=show OwnRow _ _ _ _ _ by rw [HN.out]; exact O3.out.grew g4
    clear g4 his p0 p1 p2;go_wp2
    go_roundg (64 - (kk + 1))
    case measure=>omega
    case rel=>exact ⟨kk + 1,a5,n5,c5,by omega,by omega,by go_num,rfl,G4.out,O4.out⟩
   | true =>
    rw [hs] at his;have HST2 : Hid (PG (kk + 1) = if anyEn ⟨xk,xn,xb⟩ = true then PG kk ++ [(kk : Int)] else PG kk):=show _ = _ by rw [HST'.out,hs]; rfl
    clear hs;go_wp2_with fail;refine his.mono ?_;rintro e W4 ⟨rfl,g4⟩;have G4 : Hid (Grew W0 W4):=G3.out.trans g4;have O4 : Hid (OwnRow blE W0.heap.size W4 (.slice a5 n5 c5) (PG kk)):=O3.out.grew g4;have P4 : Hid (Box W4 px [.int .i64 xk,.int .i64 xn,.bool xb]):=P3.out.grew g4;clear g4 his p0 p1 p2;have p0:=P4.out.c 0 rfl;have p1:=P4.out.c 1 rfl;have p2:=P4.out.c 2 rfl;have hcl:=pages1_any xk xn xb W4;rw [if_pos (show anyEn ⟨xk,xn,xb⟩ = true from rfl)] at HST2
    go_wp2_with fail;refine hcl.mono ?_;rintro e W5 ⟨rfl,g5⟩;have G5 : Hid (Grew W0 W5):=G4.out.trans g5;have O5 : Hid (OwnRow blE W0.heap.size W5 (.slice a5 n5 c5) (PG kk)):=O4.out.grew g5;clear g5 hcl p0 p1 p2;have HR1 : Hid (RowAt blE (W5.alloc (.cells #[.int .i64 (kk : Int)] 3)) (.slice (some ⟨W5.heap.size,0,none⟩) 1 1) [(kk : Int)]):=one_row blE W5 (kk : Int) _ _ rfl (by decide)
    go_wp2_with (at_builtin; refine wpList_append_row (E:=blE) rfl (.tmp 21) (.tmp 23) rfl W0.heap.size _ (PG kk) rfl (O5.out.grew (grew_alloc _ _)) _ [(kk : Int)] rfl HR1.out ?qb ?qc ?_)
    case qb =>
     have:=HPL.out kk
     show (_ + 1) * 8≤_
     omega
    case qc =>
     have:=Below.size G5.out;simp;omega
    intro v6 W6 ow6 gr6;obtain ⟨a6,c6,rfl⟩:=ow6.form;have O6 : Hid (OwnRow blE W0.heap.size W6 (.slice a6 (PG kk ++ [(kk : Int)]).length c6) (PG (kk + 1))):=show OwnRow _ _ _ _ _ by rw [HST2.out]; exact ow6
    have G6 : Hid (Grew W0 W6):=show Grew _ _ from grew_beside (G5.out.trans (grew_alloc _ _)) gr6 (fun g hg=>(O5.out.lt g hg).1)
    clear ow6 gr6 HR1;go_wp2
    go_roundg (64 - (kk + 1))
    case measure=>omega
    case rel=>exact ⟨kk + 1,_,_,_,by omega,by omega,by go_num,rfl,G6.out,O6.out⟩
  ·have hltz : ¬ (kk : Int) < 64:=by omega
   have : kk = 64:=by omega
   subst this;have OE : Hid (OwnRow blE w.heap.size wr (.slice a5 n5 c5) (PG 64)):=OW.out.base (Below.size HG0.out);have GE : Hid (Grew w wr):=HG0.out.trans BW.out;go_wp2;go_ret;exact ⟨_,rfl,OE.out,GE.out⟩
theorem pagesTb_any (vs : List Value) (t : List (List En)) (w : World) (hv : TabAt w vs t) :
  Calls Tryz.prog 85 #[.agg vs.toArray] w fun e w'=>∃ v,e = .returned v∧OwnRow blE w.heap.size w' v (pagesTo t anyEn 64)∧Grew w w':=by
 have HL : Hid (vs.length = 8):=hv.len;obtain ⟨W0,hW0⟩ : ∃ W0,w.alloc (.cells vs.toArray 63) = W0:=⟨_,rfl⟩;have HG0 : Hid (Grew w W0):=show Grew w W0 by rw [←hW0]; exact grew_alloc _ _
 have X0 : Hid (Box W0 w.heap.size vs):=show Box _ _ _ by rw [←hW0]; exact Box.top w _ _ rfl
 have hcall:=thatPages_any vs t W0 (hv.grew HG0.out);have HW0 : Hid (_ = W0):=hW0;clear hW0 hv
 generalize pagesTo t anyEn 64 = PG at hcall ⊢
 go_enter Tryz.func85,Tryz.ntmps85
 go_upto_region 1 with fail;rw [HW0.out]
 go_wp2_with (refine wp_loadTab rfl (.tmp 1) rfl w.heap.size rfl X0.out HL.out ?_)
 refine hcall.mono ?_;rintro e W2 ⟨v,rfl,ow,g2⟩;have O2 : Hid (OwnRow blE w.heap.size W2 v PG):=ow.base (Below.size HG0.out);have G2 : Hid (Grew w W2):=HG0.out.trans g2;clear ow g2 hcall;go_wp2;go_ret;exact ⟨v,rfl,O2.out,G2.out⟩
theorem run_fault (a b : Int) (W : World) : (Instr.field 164 (.agg #[.int .i64 a,.int .i64 b]) 0).run Tryz.prog W = .ok (.int .i64 a) W:=by
 kernel_rfl
theorem pagesTo_any (s : Sp) : pagesTo s.tb anyEn 64 = (pagesN s).map fun (n : Nat)=>(n : Int):=by
 unfold pagesTo pagesN flatN anyEn;simp
theorem spE_prog {s : Sp} (h8 : s.tb.length = 8) : spE s = if firstE [(wrL s.ars).1,tbW s.tb] = 0 then (if s.live = false∧(0 < s.ars.length∨0 < (pagesTo s.tb anyEn 64).length) then 7 else 0) else firstE [(wrL s.ars).1,tbW s.tb]:=by
 unfold spE;simp only [firstE_cons,firstE_nil]
 by_cases h1 : (wrL s.ars).1 = 0
 ·by_cases h2 : tbW s.tb = 0
  ·simp only [h1,h2,ne_eq,not_true,if_false,if_true];have hp : (0 < (pagesTo s.tb anyEn 64).length)↔¬ s.tb.all (·.isEmpty) = true:=by
    rw [pagesTo_any,List.length_map,←pagesN_empty h2 h8,List.length_pos_iff]
   have ha : (0 < s.ars.length)↔¬ s.ars.isEmpty = true:=by
    rw [List.length_pos_iff];simp
   simp only [hp,ha]
   cases s.live <;> cases s.ars.isEmpty <;> cases s.tb.all (·.isEmpty) <;> simp
  ·simp [h1,h2]
 ·simp [h1]
theorem wrongSpace_any (x : SpV) (s : Sp) (w : World) (hs : SpaceAt w x s) :
  Calls Tryz.prog 82 #[.agg #[.bool x.live,.slice x.ar.a x.ar.n x.ar.c,.slice x.t0.a x.t0.n x.t0.c,.slice x.t1.a x.t1.n x.t1.c,.slice x.t2.a x.t2.n x.t2.c,.slice x.t3.a x.t3.n x.t3.c,.slice x.t4.a x.t4.n x.t4.c,.slice x.t5.a x.t5.n x.t5.c,.slice x.t6.a x.t6.n x.t6.c,.slice x.t7.a x.t7.n x.t7.c]] w fun e w'=>e = .returned (.int .i64 (spE s))∧Grew w w':=by
 have HC1 : Hid (∀ W,Grew w W→Calls Tryz.prog 130 #[.slice x.ar.a x.ar.n x.ar.c] W fun e w'=>e = .returned (.agg #[.int .i64 (wrL s.ars).1,.int .i64 (wrL s.ars).2])∧Grew W w'):=show ∀ W,_ from fun W hW=>wrongAr_any _ s.ars W (hs.grew hW).ar
 have HC2 : Hid (∀ W,Grew w W→Calls Tryz.prog 131 #[.agg #[.slice x.t0.a x.t0.n x.t0.c,.slice x.t1.a x.t1.n x.t1.c,.slice x.t2.a x.t2.n x.t2.c,.slice x.t3.a x.t3.n x.t3.c,.slice x.t4.a x.t4.n x.t4.c,.slice x.t5.a x.t5.n x.t5.c,.slice x.t6.a x.t6.n x.t6.c,.slice x.t7.a x.t7.n x.t7.c]] W fun e w'=>e = .returned (.int .i64 (tbW s.tb))∧Grew W w'):=show ∀ W,_ from fun W hW=>wrongTb_any x.tab s.tb W (hs.grew hW).tb
 have HC3 : Hid (∀ W,Grew w W→Calls Tryz.prog 85 #[.agg #[.slice x.t0.a x.t0.n x.t0.c,.slice x.t1.a x.t1.n x.t1.c,.slice x.t2.a x.t2.n x.t2.c,.slice x.t3.a x.t3.n x.t3.c,.slice x.t4.a x.t4.n x.t4.c,.slice x.t5.a x.t5.n x.t5.c,.slice x.t6.a x.t6.n x.t6.c,.slice x.t7.a x.t7.n x.t7.c]] W fun e w'=>∃ v,e = .returned v∧OwnRow blE W.heap.size w' v (pagesTo s.tb anyEn 64)∧Grew W w'):=show ∀ W,_ from fun W hW=>pagesTb_any x.tab s.tb W (hs.grew hW).tb
 have hlv:=hs.live;have hn:=hs.ar.n;rw [spE_prog hs.tb.tlen,←hlv,←hn];clear hs;obtain ⟨E0,HE0⟩ : ∃ E0,Hid (firstE [(wrL s.ars).1,tbW s.tb] = E0):=⟨_,rfl⟩;obtain ⟨PL,HPL⟩ : ∃ PL,Hid (pagesTo s.tb anyEn 64 = PL):=⟨_,rfl⟩;rw [HE0.out,HPL.out];rw [HPL.out] at HC3;clear hlv hn;obtain ⟨W0,hW0⟩ : ∃ W0,w.alloc (.cells #[.bool x.live,.slice x.ar.a x.ar.n x.ar.c,.slice x.t0.a x.t0.n x.t0.c,.slice x.t1.a x.t1.n x.t1.c,.slice x.t2.a x.t2.n x.t2.c,.slice x.t3.a x.t3.n x.t3.c,.slice x.t4.a x.t4.n x.t4.c,.slice x.t5.a x.t5.n x.t5.c,.slice x.t6.a x.t6.n x.t6.c,.slice x.t7.a x.t7.n x.t7.c] 65) = W0:=⟨_,rfl⟩;have HG0 : Hid (Grew w W0):=show Grew _ _ by rw [←hW0]; exact grew_alloc _ _
 have X0 : Hid (Box W0 w.heap.size [.bool x.live,.slice x.ar.a x.ar.n x.ar.c,.slice x.t0.a x.t0.n x.t0.c,.slice x.t1.a x.t1.n x.t1.c,.slice x.t2.a x.t2.n x.t2.c,.slice x.t3.a x.t3.n x.t3.c,.slice x.t4.a x.t4.n x.t4.c,.slice x.t5.a x.t5.n x.t5.c,.slice x.t6.a x.t6.n x.t6.c,.slice x.t7.a x.t7.n x.t7.c]):=show Box _ _ _ by rw [←hW0]; exact Box.top _ _ _ rfl
 have HW0 : Hid (_ = W0):=hW0;clear hW0;obtain ⟨Z,HZ⟩ : ∃ Z : Int,Hid ((if E0 = 0 then (if x.live = false∧(0 < x.ar.n∨0 < PL.length) then 7 else 0) else E0) = Z):=⟨_,rfl⟩;rw [HZ.out]
 go_enter Tryz.func82,Tryz.ntmps82
 go_upto_region 1 with fail;rw [HW0.out];have hx1 : ∀ y : GrownW W0,y.world.cell? ⟨w.heap.size,1,none⟩ = some (.slice x.ar.a x.ar.n x.ar.c):=fun y=>(X0.out.grew y.grew).c 1 rfl
 have hx2 : ∀ y : GrownW W0,y.world.cell? ⟨w.heap.size,2,none⟩ = some (.slice x.t0.a x.t0.n x.t0.c):=fun y=>(X0.out.grew y.grew).c 2 rfl
 have hx3 : ∀ y : GrownW W0,y.world.cell? ⟨w.heap.size,3,none⟩ = some (.slice x.t1.a x.t1.n x.t1.c):=fun y=>(X0.out.grew y.grew).c 3 rfl
 have hx4 : ∀ y : GrownW W0,y.world.cell? ⟨w.heap.size,4,none⟩ = some (.slice x.t2.a x.t2.n x.t2.c):=fun y=>(X0.out.grew y.grew).c 4 rfl
 have hx5 : ∀ y : GrownW W0,y.world.cell? ⟨w.heap.size,5,none⟩ = some (.slice x.t3.a x.t3.n x.t3.c):=fun y=>(X0.out.grew y.grew).c 5 rfl
 have hx6 : ∀ y : GrownW W0,y.world.cell? ⟨w.heap.size,6,none⟩ = some (.slice x.t4.a x.t4.n x.t4.c):=fun y=>(X0.out.grew y.grew).c 6 rfl
 have hx7 : ∀ y : GrownW W0,y.world.cell? ⟨w.heap.size,7,none⟩ = some (.slice x.t5.a x.t5.n x.t5.c):=fun y=>(X0.out.grew y.grew).c 7 rfl
 have hx8 : ∀ y : GrownW W0,y.world.cell? ⟨w.heap.size,8,none⟩ = some (.slice x.t6.a x.t6.n x.t6.c):=fun y=>(X0.out.grew y.grew).c 8 rfl
 have hx9 : ∀ y : GrownW W0,y.world.cell? ⟨w.heap.size,9,none⟩ = some (.slice x.t7.a x.t7.n x.t7.c):=fun y=>(X0.out.grew y.grew).c 9 rfl
 have hne : Nonempty (GrownW W0):=⟨⟨_,Grew.refl _⟩⟩;have hfd:=fun (y : GrownW W0)=>run_fault (wrL s.ars).1 (wrL s.ars).2 y.world
 refine wp_lax [(2,⟨fun v=>v = .agg #[.int .i64 (wrL s.ars).1,.int .i64 (wrL s.ars).2],fun v w'=>True⟩),(6,⟨fun v=>v = .int .i64 (tbW s.tb),fun v w'=>True⟩),(7,⟨fun v=>∃ g,v = .slice (some ⟨g,0,none⟩) 2 2,fun v w'=>RowAt errE w' v [(wrL s.ars).1,tbW s.tb]⟩),(8,⟨fun v=>v = .int .i64 (firstE [(wrL s.ars).1,tbW s.tb]),fun v w'=>True⟩)] mixed (by kernel_rfl) ?hS ?hp ?_
 case hS =>
  intro x hx;simp only [List.mem_cons,List.not_mem_nil,or_false] at hx
  rcases hx with rfl | rfl | rfl | rfl
  ·exact ⟨_,rfl⟩
  ·exact ⟨_,rfl⟩
  ·exact ⟨_,0,rfl⟩
  ·exact ⟨_,rfl⟩
 case hp =>
  intro x hx;simp only [List.mem_cons,List.not_mem_nil,or_false] at hx
  rcases hx with rfl | rfl | rfl | rfl
  ·exact fun _ _ _ _ h=>h
  ·exact fun _ _ _ _ h=>h
  ·exact fun _ _ _ hg h=>RowAt.grew h hg
  ·exact fun _ _ _ _ h=>h
 iterate 2 (refine lax_quiet rfl rfl rfl (fun K hK=>?_); go_big_quiet_op; refine hK _ ?_; clear hK K)
 refine lax_spec rfl rfl (fun w' hg hF=>?_) (fun v1 hv=>?_)
 ·refine Does.call [.slice x.ar.a x.ar.n x.ar.c] rfl Tryz.func130 rfl rfl rfl ?_;refine (HC1.out w' (HG0.out.trans hg)).mono ?_;rintro e w'' ⟨rfl,hg2⟩;exact ⟨_,rfl,hg2,rfl,trivial⟩
 subst hv;simp only [Act.put,List.setIfInBounds_toArray,List.set_cons_succ,List.set_cons_zero];iterate 3 (refine lax_quiet rfl rfl rfl (fun K hK=>?_); go_big_quiet_op; refine hK _ ?_; clear hK K)
 refine lax_spec rfl rfl (fun w' hg hF=>?_) (fun v1 hv=>?_)
 ·refine Does.call [.agg #[.slice x.t0.a x.t0.n x.t0.c,.slice x.t1.a x.t1.n x.t1.c,.slice x.t2.a x.t2.n x.t2.c,.slice x.t3.a x.t3.n x.t3.c,.slice x.t4.a x.t4.n x.t4.c,.slice x.t5.a x.t5.n x.t5.c,.slice x.t6.a x.t6.n x.t6.c,.slice x.t7.a x.t7.n x.t7.c]] rfl Tryz.func131 rfl rfl rfl ?_;refine (HC2.out w' (HG0.out.trans hg)).mono ?_;rintro e w'' ⟨rfl,hg2⟩;exact ⟨_,rfl,hg2,rfl,trivial⟩
 subst hv;simp only [Act.put,List.setIfInBounds_toArray,List.set_cons_succ,List.set_cons_zero];refine lax_spec rfl rfl (fun w' hg hF=>?_) (fun v1 hv=>?_)
 ·have hnew : RowAt errE (w'.alloc (.cells #[.int .i64 ((wrL s.ars).1),.int .i64 (tbW s.tb)] 43)) (.slice (some ⟨w'.heap.size,0,none⟩) 2 2) [(wrL s.ars).1,tbW s.tb]:=row_lit errE w' [(wrL s.ars).1,tbW s.tb] _ rfl (show 2 * 8≤140737488355328 by decide)
  refine Does.step (v:= .slice (some ⟨w'.heap.size,0,none⟩) 2 2) (w':=w'.alloc (.cells #[.int .i64 ((wrL s.ars).1),.int .i64 (tbW s.tb)] 43)) (by simp only [execOp]; go_simp) ⟨grew_alloc _ _,⟨_,rfl⟩,hnew⟩
 obtain ⟨g7,rfl⟩:=hv;simp only [Act.put,List.setIfInBounds_toArray,List.set_cons_succ,List.set_cons_zero];refine lax_spec rfl rfl (fun w' hg hF=>?_) (fun v1 hv=>?_)
 ·have h7 : RowAt errE w' (.slice (some ⟨g7,0,none⟩) 2 2) [(wrL s.ars).1,tbW s.tb]:=hF 7 (by kernel_rfl)
  refine Does.call [.slice (some ⟨g7,0,none⟩) 2 2] rfl Tryz.func70 rfl rfl rfl ?_;refine (orErr_any _ _ w' h7).mono ?_;rintro e w'' ⟨rfl,rfl⟩;exact ⟨_,rfl,Grew.refl _,rfl,trivial⟩
 subst hv;simp only [Act.put,List.setIfInBounds_toArray,List.set_cons_succ,List.set_cons_zero];iterate 1 (refine lax_quiet rfl rfl rfl (fun K hK=>?_); go_big_quiet_op; refine hK _ ?_; clear hK K)
 refine lax_nil fun W3 hg1 hF=>?_
 have G3 : Hid (Grew w W3):=HG0.out.trans hg1;have X3 : Hid (Box W3 w.heap.size [.bool x.live,.slice x.ar.a x.ar.n x.ar.c,.slice x.t0.a x.t0.n x.t0.c,.slice x.t1.a x.t1.n x.t1.c,.slice x.t2.a x.t2.n x.t2.c,.slice x.t3.a x.t3.n x.t3.c,.slice x.t4.a x.t4.n x.t4.c,.slice x.t5.a x.t5.n x.t5.c,.slice x.t6.a x.t6.n x.t6.c,.slice x.t7.a x.t7.n x.t7.c]):=X0.out.grew hg1;clear hg1 hF hx1 hx2 hx3 hx4 hx5 hx6 hx7 hx8 hx9 hne hfd;rw [HE0.out]
 by_cases h0 : E0 = 0
 ·have h0e : (E0 != 0) = false:=by simp [h0]
  rw [if_pos h0] at HZ;have HE : Hid (E0 = 0):=h0;clear h0;have x0:=X3.out.c 0 rfl;have x1:=X3.out.c 1 rfl;have x2:=X3.out.c 2 rfl;have x3:=X3.out.c 3 rfl;have x4:=X3.out.c 4 rfl;have x5:=X3.out.c 5 rfl;have x6:=X3.out.c 6 rfl;have x7:=X3.out.c 7 rfl;have x8:=X3.out.c 8 rfl;have x9:=X3.out.c 9 rfl
  cases hlv : x.live with
  | true =>
   rw [hlv] at HZ x0;have HR : Hid (Z = 0):=show _ = _ by rw [←HZ.out,if_neg (by simp)]
   clear x2 x3 x4 x5 x6 x7 x8 x9;go_wp2;go_ret;exact ⟨by rw [HR.out]; rfl,G3.out⟩
  | false =>
   rw [hlv] at HZ x0
   by_cases h1 : 0 < x.ar.n
   ·have h1z : (0 : Int) < (x.ar.n : Int):=by omega
    have HR : Hid (Z = 7):=show _ = _ by rw [←HZ.out,if_pos ⟨rfl,.inl h1⟩]
    clear x2 x3 x4 x5 x6 x7 x8 x9;go_wp2;go_ret;exact ⟨by rw [HR.out]; rfl,G3.out⟩
   ·have h1z : ¬ (0 : Int) < (x.ar.n : Int):=by omega
    have hc3:=HC3.out W3 G3.out;have HN1 : Hid (¬ 0 < x.ar.n):=h1;clear h1;go_wp2_with fail;refine hc3.mono ?_;clear hc3 x0 x1 x2 x3 x4 x5 x6 x7 x8 x9;rintro e W4 ⟨v,rfl,ow4,g4⟩;have HG4 : Hid (Grew w W4):=G3.out.trans g4;obtain ⟨va,vc,rfl⟩:=ow4.form;clear ow4 g4
    by_cases h2 : 0 < PL.length
    ·have h2z : (0 : Int) < (PL.length : Int):=by omega
     have HR : Hid (Z = 7):=show _ = _ by rw [←HZ.out,if_pos (by first | exact ⟨rfl,.inr h2⟩ | exact ⟨trivial,.inr h2⟩)]
     go_wp2;go_ret;exact ⟨by rw [HR.out]; rfl,HG4.out⟩
    ·have h2z : ¬ (0 : Int) < (PL.length : Int):=by omega
     have HR : Hid (Z = 0):=show _ = _ by rw [←HZ.out,if_neg (fun h=>h.2.elim HN1.out h2)]
     go_wp2;go_ret;exact ⟨by rw [HR.out]; rfl,HG4.out⟩
 ·have h0e : (E0 != 0) = true:=by simp [h0]
  rw [if_neg h0] at HZ;clear h0;go_wp2;go_ret;exact ⟨by rw [←HZ.out]; rfl,G3.out⟩
def Sp10 (W : World) (y : Addr) (x : SpV) : Prop:=W.cell? y = some (.bool x.live)∧W.cell? { block:=y.block,off:=y.off + 1 } = some (.slice x.ar.a x.ar.n x.ar.c)∧W.cell? { block:=y.block,off:=y.off + 2 } = some (.slice x.t0.a x.t0.n x.t0.c)∧W.cell? { block:=y.block,off:=y.off + 3 } = some (.slice x.t1.a x.t1.n x.t1.c)∧W.cell? { block:=y.block,off:=y.off + 4 } = some (.slice x.t2.a x.t2.n x.t2.c)∧W.cell? { block:=y.block,off:=y.off + 5 } = some (.slice x.t3.a x.t3.n x.t3.c)∧W.cell? { block:=y.block,off:=y.off + 6 } = some (.slice x.t4.a x.t4.n x.t4.c)∧W.cell? { block:=y.block,off:=y.off + 7 } = some (.slice x.t5.a x.t5.n x.t5.c)∧W.cell? { block:=y.block,off:=y.off + 8 } = some (.slice x.t6.a x.t6.n x.t6.c)∧W.cell? { block:=y.block,off:=y.off + 9 } = some (.slice x.t7.a x.t7.n x.t7.c)
theorem Cells.sp10 {W : World} {y : Addr} {x : SpV} (h : Cells W y (spv x)) : Sp10 W y x:=⟨h 0 _ rfl,h 1 _ rfl,h 2 _ rfl,h 3 _ rfl,h 4 _ rfl,h 5 _ rfl,h 6 _ rfl,h 7 _ rfl,h 8 _ rfl,h 9 _ rfl⟩
theorem MachAt.spaces {w : World} {V : MaV} {m : Ma} (h : MachAt w V m) : ∃ xs : List SpV,xs.length = m.sp.length∧(∀ (j : Nat) x,xs[j]? = some x→∃ ad,V.sp.a = some ad∧∀ W,Grew w W→Sp10 W (ad.add (j * 10)) x)∧∀ (i : Nat) x s,xs[i]? = some x→m.sp[i]? = some s→SpaceAt w x s:=by
 obtain ⟨xs,h1,h2,h3⟩:=h.sp;refine ⟨xs,h2,fun j x hj=>?_,h3⟩
 obtain ⟨ad,h4,h5⟩:=h1.rowsAt j x hj;exact ⟨ad,h4,fun W hW=>(h5 W hW).sp10⟩
theorem wrongSpaces_any (V : MaV) (m : Ma) (w : World) (hm : MachAt w V m) :
  Calls Tryz.prog 37 #[.agg #[.slice V.f.a V.f.n V.f.c,.int .i64 m.hand,.slice V.s.a V.s.n V.s.c,.slice V.sb.a V.sb.n V.sb.c,.slice V.sq.a V.sq.n V.sq.c,.slice V.db.a V.db.n V.db.c,.slice V.dq.a V.dq.n V.dq.c,.slice V.fl.a V.fl.n V.fl.c,.int .i64 m.cnt,.slice V.ca.a V.ca.n V.ca.c,.slice V.sp.a V.sp.n V.sp.c]] w fun e w'=>e = .returned (.int .i64 (wSpaces m))∧Grew w w':=by
 obtain ⟨vf,vs,vsb,vsq,vdb,vdq,vfl,vca,⟨spa,spn,spc⟩⟩:=V;dsimp only;obtain ⟨-,-,-,-,-,-,-,-,n9⟩:=hm.ns;dsimp only at n9;obtain ⟨xs,hxl,hrow,hsp⟩:=hm.spaces;have HXL : Hid (xs.length = m.sp.length):=hxl;have HR : Hid (∀ (j : Nat) x,xs[j]? = some x→∃ ad,spa = some ad∧∀ W,Grew w W→Sp10 W (ad.add (j * 10)) x):=hrow;have HSP : Hid (∀ (i : Nat) x s,xs[i]? = some x→m.sp[i]? = some s→SpaceAt w x s):=hsp;have HN : Hid (m.sp.length = spn):=n9.symm;obtain ⟨Z,HZ⟩ : ∃ Z,Hid (wSpaces m = Z):=⟨_,rfl⟩;rw [HZ.out];have HZ2 : Hid ((if 4 < spn then 4 else firstE (m.sp.map spE)) = Z):=show _ = _ by rw [←HZ.out,←HN.out]; rfl
 clear hm hxl hrow hsp n9 HZ;obtain ⟨W0,hW0⟩ : ∃ W0,w.alloc (.cells #[.slice vf.a vf.n vf.c,.int .i64 m.hand,.slice vs.a vs.n vs.c,.slice vsb.a vsb.n vsb.c,.slice vsq.a vsq.n vsq.c,.slice vdb.a vdb.n vdb.c,.slice vdq.a vdq.n vdq.c,.slice vfl.a vfl.n vfl.c,.int .i64 m.cnt,.slice vca.a vca.n vca.c,.slice spa spn spc] 40) = W0:=⟨_,rfl⟩;have HG0 : Hid (Grew w W0):=show Grew _ _ by rw [←hW0]; exact grew_alloc _ _
 have X0 : Hid (Box W0 w.heap.size [.slice vf.a vf.n vf.c,.int .i64 m.hand,.slice vs.a vs.n vs.c,.slice vsb.a vsb.n vsb.c,.slice vsq.a vsq.n vsq.c,.slice vdb.a vdb.n vdb.c,.slice vdq.a vdq.n vdq.c,.slice vfl.a vfl.n vfl.c,.int .i64 m.cnt,.slice vca.a vca.n vca.c,.slice spa spn spc]):=show Box _ _ _ by rw [←hW0]; exact Box.top _ _ _ rfl
 have HW0 : Hid (_ = W0):=hW0;clear hW0
 by_cases h4 : 4 < spn
 ·have h4z : (4 : Int) < (spn : Int):=by omega
  have HE : Hid (Z = 4):=show _ = _ by rw [←HZ2.out,if_pos h4]
  go_enter Tryz.func37,Tryz.ntmps37
  go_upto_region 1 with fail;rw [HW0.out];have x10:=X0.out.c 10 rfl;go_wp2;go_ret;exact ⟨by rw [HE.out]; rfl,HG0.out⟩
 ·have h4z : ¬ (4 : Int) < (spn : Int):=by omega
  have hs4 : spn≤4:=by omega
  have HZ3 : Hid (firstE (m.sp.map spE) = Z):=show _ = _ by rw [←HZ2.out,if_neg h4]
  clear HZ2 h4
  go_enter Tryz.func37,Tryz.ntmps37
  go_upto_region 1 with fail;rw [HW0.out];have x10:=X0.out.c 10 rfl;go_wp2;clear x10
  go_loopg [13] spn (fun gg s13 wr=>∃ kk : Nat,kk≤spn∧spn - kk≤gg∧s13 = .int .i64 kk∧Hid (Grew w wr)∧Hid (∀ (j : Nat) s,j < kk→m.sp[j]? = some s→spE s = 0))
  case atStart=>exact ⟨0,Nat.zero_le _,by omega,rfl,HG0.out,fun j s hj=>absurd hj (Nat.not_lt_zero _)⟩
  case round =>
   obtain ⟨kk,hkk,hgg,rfl,BW,OW⟩:=hrel;clear X0
   by_cases hlt : kk < spn
   ·have hltz : (kk : Int) < (spn : Int):=by omega
    obtain ⟨s,HS⟩ : ∃ s,Hid (m.sp[kk]? = some s):=⟨_,List.getElem?_eq_getElem (by rw [HN.out]; exact hlt)⟩
    obtain ⟨x,HX⟩ : ∃ x,Hid (xs[kk]? = some x):=⟨_,List.getElem?_eq_getElem (by rw [HXL.out,HN.out]; exact hlt)⟩
    obtain ⟨ad,rfl,hl⟩:=HR.out kk x HX.out;obtain ⟨d0,d1,d2,d3,d4,d5,d6,d7,d8,d9⟩:=hl wr BW.out;have hcall:=wrongSpace_any x s _ ((HSP.out kk x s HX.out HS.out).grew (BW.out.trans (grew_alloc wr (.cells #[.bool x.live,.slice x.ar.a x.ar.n x.ar.c,.slice x.t0.a x.t0.n x.t0.c,.slice x.t1.a x.t1.n x.t1.c,.slice x.t2.a x.t2.n x.t2.c,.slice x.t3.a x.t3.n x.t3.c,.slice x.t4.a x.t4.n x.t4.c,.slice x.t5.a x.t5.n x.t5.c,.slice x.t6.a x.t6.n x.t6.c,.slice x.t7.a x.t7.n x.t7.c] 65))));clear hl;obtain ⟨e,HEE⟩ : ∃ e,Hid (spE s = e):=⟨_,rfl⟩;rw [HEE.out] at hcall;go_upto_region 6 with fail;clear d0 d1 d2 d3 d4 d5 d6 d7 d8 d9;go_wp2_with fail;refine hcall.mono ?_;clear hcall;rintro e' W4 ⟨rfl,hg4⟩;have HG4 : Hid (Grew w W4):=(BW.out.trans (grew_alloc _ _)).trans hg4;clear hg4
    by_cases h0 : e = 0
    ·have h0e : (e != 0) = false:=by simp [h0]
     have OW' : Hid (∀ (j : Nat) s,j < kk + 1→m.sp[j]? = some s→spE s = 0):=show ∀ (j : Nat) s,_ from fun j s hj hs=>by
      by_cases ej : j = kk
      ·subst ej;rw [HS.out] at hs;cases hs;rw [HEE.out];exact h0
      ·exact OW.out j s (by omega) hs
     clear h0;go_wp2
     go_roundg (spn - (kk + 1))
     case measure=>omega
     case rel=>exact ⟨kk + 1,by omega,by omega,by go_num,HG4.out,OW'.out⟩
    ·have h0e : (e != 0) = true:=by simp [h0]
     have HE : Hid (Z = e):=show _ = _ by rw [←HZ3.out,firstE_at HS.out OW.out (by rw [HEE.out]; exact h0)]; exact HEE.out
     clear h0;go_wp2;go_ret;exact ⟨by rw [HE.out]; rfl,HG4.out⟩
   ·have hltz : ¬ (kk : Int) < (spn : Int):=by omega
    have : kk = spn:=by omega
    subst this;have HE : Hid (Z = 0):=show _ = _ by rw [←HZ3.out]; exact firstE_all fun j s hs=>OW.out j s (by rw [←HN.out]; exact (List.getElem?_eq_some_iff.1 hs).1) hs
    go_wp2;go_ret;exact ⟨by rw [HE.out]; rfl,BW.out⟩
def prevC (l : List Ca) (k : Nat) : Option Ca:=match k with | 0=>none | k + 1=>l[k]?
theorem caE_err {m : Ma} {p : Option Ca} {c : Ca} (h : caE m none c≠0) : caE m p c = caE m none c:=by
 unfold caE at h ⊢
 by_cases h1 : c.file < 0∨(m.fl.length : Int)≤c.file∨c.idx < 0∨bkN m c.file≤c.idx∨c.fr < 0∨(m.fs.length : Int)≤c.fr
 ·simp only [if_pos h1]
 ·simp only [if_neg h1] at h ⊢
  by_cases h2 : (frAt m c.fr).r = 0∨(frAt m c.fr).f≠c.file∨(frAt m c.fr).x≠c.idx
  ·simp only [if_pos h2]
  ·simp only [if_neg h2] at h;exact absurd rfl h
theorem caE_order {m : Ma} {q c : Ca} (h : caE m none c = 0) : caE m (some q) c = if keyC c≤keyC q then 2 else 0:=by
 unfold caE at h ⊢
 split at h
 ·cases h
 ·rename_i h1
  rw [if_neg h1]
  split at h
  ·cases h
  ·rename_i h2
   rw [if_neg h2]
theorem caGo_err {m : Ma} {l : List Ca} {k : Nat} {c : Ca} {Z : Int} (h : caGo m (prevC l k) (l.drop k) = Z) (hc : l[k]? = some c) (hn : caE m (prevC l k) c≠0) : Z = caE m (prevC l k) c:=by
 rw [drop_cons hc] at h;unfold caGo at h;rw [if_neg hn] at h;exact h.symm
theorem caGo_next {m : Ma} {l : List Ca} {k : Nat} {c : Ca} {Z : Int} (h : caGo m (prevC l k) (l.drop k) = Z) (hc : l[k]? = some c) (hn : caE m (prevC l k) c = 0) : caGo m (prevC l (k + 1)) (l.drop (k + 1)) = Z:=by
 rw [drop_cons hc] at h;unfold caGo at h;rw [if_pos hn] at h
 show caGo m (l[k]?) _ = Z
 rw [hc];exact h
theorem wrongCache_any (V : MaV) (m : Ma) (w : World) (hm : MachAt w V m) (h1 : Right1 m) :
  Calls Tryz.prog 38 #[.agg #[.slice V.f.a V.f.n V.f.c,.int .i64 m.hand,.slice V.s.a V.s.n V.s.c,.slice V.sb.a V.sb.n V.sb.c,.slice V.sq.a V.sq.n V.sq.c,.slice V.db.a V.db.n V.db.c,.slice V.dq.a V.dq.n V.dq.c,.slice V.fl.a V.fl.n V.fl.c,.int .i64 m.cnt,.slice V.ca.a V.ca.n V.ca.c,.slice V.sp.a V.sp.n V.sp.c]] w fun e w'=>e = .returned (.int .i64 (wCache m))∧Grew w w':=by
 have HWC : Hid (∀ (c : Ca) W,Grew w W→Calls Tryz.prog 83 #[.agg #[.slice V.f.a V.f.n V.f.c,.int .i64 m.hand,.slice V.s.a V.s.n V.s.c,.slice V.sb.a V.sb.n V.sb.c,.slice V.sq.a V.sq.n V.sq.c,.slice V.db.a V.db.n V.db.c,.slice V.dq.a V.dq.n V.dq.c,.slice V.fl.a V.fl.n V.fl.c,.int .i64 m.cnt,.slice V.ca.a V.ca.n V.ca.c,.slice V.sp.a V.sp.n V.sp.c],.agg #[.int .i64 c.file,.int .i64 c.idx,.int .i64 c.fr]] W fun e w'=>e = .returned (.int .i64 (caE m none c))∧Grew W w'):=show ∀ (c : Ca) W,_ from fun c W hW=>wrongCached_any V m c W (hm.grew hW)
 obtain ⟨vf,vs,vsb,vsq,vdb,vdq,vfl,⟨caa,can,cac⟩,vsp⟩:=V;dsimp only at HWC ⊢;obtain ⟨-,-,-,-,-,-,-,n8,-⟩:=hm.ns;dsimp only at n8;have HR : Hid (CaRows w caa m.ca):=hm.cas;have HN : Hid (m.ca.length = can):=n8.symm;have hbig : can≤9223372036854775807:=by have:=hm.ca.short; omega
 have HIX : Hid (∀ c p,caE m p c = 0→0≤c.idx∧c.idx < 100):=show ∀ c p,_ from fun c p h=>caE_idx h1.st h
 obtain ⟨Z,HZ⟩ : ∃ Z,Hid (wCache m = Z):=⟨_,rfl⟩;rw [HZ.out];have HZ2 : Hid (caGo m (prevC m.ca 0) (m.ca.drop 0) = Z):=HZ.out;clear hm n8 HZ h1;obtain ⟨W0,hW0⟩ : ∃ W0,w.alloc (.cells #[.slice vf.a vf.n vf.c,.int .i64 m.hand,.slice vs.a vs.n vs.c,.slice vsb.a vsb.n vsb.c,.slice vsq.a vsq.n vsq.c,.slice vdb.a vdb.n vdb.c,.slice vdq.a vdq.n vdq.c,.slice vfl.a vfl.n vfl.c,.int .i64 m.cnt,.slice caa can cac,.slice vsp.a vsp.n vsp.c] 40) = W0:=⟨_,rfl⟩;have HG0 : Hid (Grew w W0):=show Grew _ _ by rw [←hW0]; exact grew_alloc _ _
 have X0 : Hid (Box W0 w.heap.size [.slice vf.a vf.n vf.c,.int .i64 m.hand,.slice vs.a vs.n vs.c,.slice vsb.a vsb.n vsb.c,.slice vsq.a vsq.n vsq.c,.slice vdb.a vdb.n vdb.c,.slice vdq.a vdq.n vdq.c,.slice vfl.a vfl.n vfl.c,.int .i64 m.cnt,.slice caa can cac,.slice vsp.a vsp.n vsp.c]):=show Box _ _ _ by rw [←hW0]; exact Box.top _ _ _ rfl
 have HW0 : Hid (_ = W0):=hW0;clear hW0
 go_enter Tryz.func38,Tryz.ntmps38
 go_upto_region 1 with fail;rw [HW0.out];have x9:=X0.out.c 9 rfl;go_wp2;clear x9
 go_loopg [9] can (fun gg s9 wr=>∃ kk : Nat,kk≤can∧can - kk≤gg∧s9 = .int .i64 kk∧Hid (Grew w wr)∧Hid (Box wr w.heap.size [.slice vf.a vf.n vf.c,.int .i64 m.hand,.slice vs.a vs.n vs.c,.slice vsb.a vsb.n vsb.c,.slice vsq.a vsq.n vsq.c,.slice vdb.a vdb.n vdb.c,.slice vdq.a vdq.n vdq.c,.slice vfl.a vfl.n vfl.c,.int .i64 m.cnt,.slice caa can cac,.slice vsp.a vsp.n vsp.c])∧Hid (caGo m (prevC m.ca kk) (m.ca.drop kk) = Z)∧Hid (∀ (j : Nat) c,j < kk→m.ca[j]? = some c→0≤c.idx∧c.idx < 100))
 case atStart=>exact ⟨0,Nat.zero_le _,by omega,rfl,HG0.out,X0.out,HZ2.out,fun j c hj=>absurd hj (Nat.not_lt_zero _)⟩
 case round =>
  obtain ⟨kk,hkk,hgg,rfl,BW,XW,GW,OW⟩:=hrel;clear X0 HZ2 HG0
  by_cases hlt : kk < can
  ·have hltz : (kk : Int) < (can : Int):=by omega
   obtain ⟨c,HC⟩ : ∃ c,Hid (m.ca[kk]? = some c):=⟨_,List.getElem?_eq_getElem (by rw [HN.out]; exact hlt)⟩
   obtain ⟨ad,rfl,hl⟩:=HR.out kk c HC.out;obtain ⟨d0,d1,d2⟩:=hl wr BW.out;clear hl;go_upto_region 4 with fail;obtain ⟨W1,hW1⟩ : ∃ W1,wr.alloc (.cells #[.int .i64 c.file,.int .i64 c.idx,.int .i64 c.fr] 87) = W1:=⟨_,rfl⟩;have HG1 : Hid (Grew w W1):=show Grew _ _ by rw [←hW1]; exact BW.out.trans (grew_alloc _ _)
   have X1 : Hid (Box W1 w.heap.size [.slice vf.a vf.n vf.c,.int .i64 m.hand,.slice vs.a vs.n vs.c,.slice vsb.a vsb.n vsb.c,.slice vsq.a vsq.n vsq.c,.slice vdb.a vdb.n vdb.c,.slice vdq.a vdq.n vdq.c,.slice vfl.a vfl.n vfl.c,.int .i64 m.cnt,.slice (some ad) can cac,.slice vsp.a vsp.n vsp.c]):=show Box _ _ _ by rw [←hW1]; exact XW.out.alloc _
   have C1 : Hid (Box W1 wr.heap.size [.int .i64 c.file,.int .i64 c.idx,.int .i64 c.fr]):=show Box _ _ _ by rw [←hW1]; exact Box.top _ _ _ rfl
   rw [hW1];clear hW1 d0 d1 d2;obtain ⟨pb,HPB⟩ : ∃ pb,Hid (wr.heap.size = pb):=⟨_,rfl⟩;rw [HPB.out] at C1 ⊢;have hcall:=HWC.out c W1 HG1.out;obtain ⟨e,HEE⟩ : ∃ e,Hid (caE m none c = e):=⟨_,rfl⟩;rw [HEE.out] at hcall;have x0:=X1.out.c 0 rfl;have x1:=X1.out.c 1 rfl;have x2:=X1.out.c 2 rfl;have x3:=X1.out.c 3 rfl;have x4:=X1.out.c 4 rfl;have x5:=X1.out.c 5 rfl;have x6:=X1.out.c 6 rfl;have x7:=X1.out.c 7 rfl;have x8:=X1.out.c 8 rfl;have x9:=X1.out.c 9 rfl;have x10:=X1.out.c 10 rfl;have c0:=C1.out.c 0 rfl;have c1:=C1.out.c 1 rfl;have c2:=C1.out.c 2 rfl;go_wp2_with fail;refine hcall.mono ?_;clear hcall x0 x1 x2 x3 x4 x5 x6 x7 x8 x9 x10 c0 c1 c2;rintro e' W2 ⟨rfl,hg2⟩;have HG2 : Hid (Grew w W2):=HG1.out.trans hg2;have X2 : Hid (Box W2 w.heap.size [.slice vf.a vf.n vf.c,.int .i64 m.hand,.slice vs.a vs.n vs.c,.slice vsb.a vsb.n vsb.c,.slice vsq.a vsq.n vsq.c,.slice vdb.a vdb.n vdb.c,.slice vdq.a vdq.n vdq.c,.slice vfl.a vfl.n vfl.c,.int .i64 m.cnt,.slice (some ad) can cac,.slice vsp.a vsp.n vsp.c]):=X1.out.grew hg2;have C2 : Hid (Box W2 pb [.int .i64 c.file,.int .i64 c.idx,.int .i64 c.fr]):=C1.out.grew hg2;clear hg2
   by_cases h0 : e = 0
   ·have h0e : (e != 0) = false:=by simp [h0]
    have HE0 : Hid (caE m none c = 0):=show _ = _ by rw [HEE.out]; exact h0
    have HCI : Hid (0≤c.idx∧c.idx < 100):=HIX.out c none HE0.out;have OW' : Hid (∀ (j : Nat) c,j < kk + 1→m.ca[j]? = some c→0≤c.idx∧c.idx < 100):=show ∀ (j : Nat) c,_ from fun j c' hj hc=>by
     by_cases ej : j = kk
     ·subst ej;rw [HC.out] at hc;cases hc;exact HCI.out
     ·exact OW.out j c' (by omega) hc
    clear h0;go_upto_region 7 with fail
    cases kk with
    | zero =>
     have GN : Hid (caGo m (prevC m.ca 1) (m.ca.drop 1) = Z):=caGo_next GW.out HC.out HE0.out;have hz0 : ¬ (0 : Int) < ((0 : Nat) : Int):=by decide
     have hz1 : decide ((0 : Int) < ((0 : Nat) : Int)) = false:=by decide
     go_quiet (fail);go_wp2
     go_roundg (can - 1)
     case measure=>omega
     case rel=>exact ⟨1,by omega,by omega,by go_num,HG2.out.trans (show Below _ _ _ from Go.below_drewN (Below.refl _ _) _),X2.out.grew (show Below _ _ _ from Go.below_drewN (Below.refl _ _) _),GN.out,OW'.out⟩
    | succ j =>
     obtain ⟨b,HB⟩ : ∃ b,Hid (m.ca[j]? = some b):=⟨_,List.getElem?_eq_getElem (by rw [HN.out]; omega)⟩
     have HBI : Hid (0≤b.idx∧b.idx < 100):=OW.out j b (by omega) HB.out
     have hz0 : (0 : Int) < ((j + 1 : Nat) : Int):=by omega
     have hz1 : decide ((0 : Int) < ((j + 1 : Nat) : Int)) = true:=by simp
     have hj1 : ((j + 1 : Nat) : Int) - 1 = (j : Int):=by omega
     have hjn : (j : Int) < (can : Int):=by omega
     obtain ⟨ad',had,hl⟩:=HR.out j b HB.out;obtain rfl : ad = ad':=by cases had; rfl
     have hx9 : ∀ y : GrownW W2,y.world.cell? ⟨w.heap.size,9,none⟩ = some (.slice (some ad) can cac):=fun y=>(X2.out.grew y.grew).c 9 rfl
     have hc0 : ∀ y : GrownW W2,y.world.cell? ⟨pb,0,none⟩ = some (.int .i64 c.file):=fun y=>(C2.out.grew y.grew).c 0 rfl
     have hc1 : ∀ y : GrownW W2,y.world.cell? ⟨pb,1,none⟩ = some (.int .i64 c.idx):=fun y=>(C2.out.grew y.grew).c 1 rfl
     have hc2 : ∀ y : GrownW W2,y.world.cell? ⟨pb,2,none⟩ = some (.int .i64 c.fr):=fun y=>(C2.out.grew y.grew).c 2 rfl
     have hy0 : ∀ y : GrownW W2,y.world.cell? (ad.add (j * 3)) = some (.int .i64 b.file):=fun y=>(hl _ (HG2.out.trans y.grew)).1
     have hy1 : ∀ y : GrownW W2,y.world.cell? { block:=(ad.add (j * 3)).block,off:=(ad.add (j * 3)).off + 1 } = some (.int .i64 b.idx):=fun y=>(hl _ (HG2.out.trans y.grew)).2.1
     have hy2 : ∀ y : GrownW W2,y.world.cell? { block:=(ad.add (j * 3)).block,off:=(ad.add (j * 3)).off + 2 } = some (.int .i64 b.fr):=fun y=>(hl _ (HG2.out.trans y.grew)).2.2
     have hne : Nonempty (GrownW W2):=⟨⟨_,Grew.refl _⟩⟩;clear hl had;have HAK : Hid (aheadB b c = decide (¬ keyC c≤keyC b)):=ahead_key HBI.out HCI.out;refine wp_lax [(10,⟨fun v=>v = .bool (aheadB b c),fun v w'=>True⟩)] mixed (by kernel_rfl) ?hS ?hp ?_
     case hS =>
      intro x hx;simp only [List.mem_cons,List.not_mem_nil,or_false] at hx;subst hx;exact ⟨_,rfl⟩
     case hp =>
      intro x hx;simp only [List.mem_cons,List.not_mem_nil,or_false] at hx;subst hx;exact fun _ _ _ _ h=>h
     iterate 10 (refine lax_quiet rfl rfl rfl (fun K hK=>?_); go_big_quiet_op; refine hK _ ?_; clear hK K)
     refine lax_spec rfl rfl (fun w' hg hF=>?_) (fun v1 hv=>?_)
     ·refine Does.call [.agg #[.int .i64 b.file,.int .i64 b.idx,.int .i64 b.fr],.agg #[.int .i64 c.file,.int .i64 c.idx,.int .i64 c.fr]] rfl Tryz.func84 rfl rfl rfl ?_;refine (isAhead_any b c w').mono ?_;rintro e w'' ⟨rfl,hg3⟩;exact ⟨_,rfl,hg3,rfl,trivial⟩
     subst hv;simp only [Act.put,List.setIfInBounds_toArray,List.set_cons_succ,List.set_cons_zero];iterate 2 (refine lax_quiet rfl rfl rfl (fun K hK=>?_); go_big_quiet_op; refine hK _ ?_; clear hK K)
     refine lax_nil fun W3 hg3 hF=>?_
     have HG3 : Hid (Grew w W3):=HG2.out.trans hg3;have X3 : Hid (Box W3 w.heap.size [.slice vf.a vf.n vf.c,.int .i64 m.hand,.slice vs.a vs.n vs.c,.slice vsb.a vsb.n vsb.c,.slice vsq.a vsq.n vsq.c,.slice vdb.a vdb.n vdb.c,.slice vdq.a vdq.n vdq.c,.slice vfl.a vfl.n vfl.c,.int .i64 m.cnt,.slice (some ad) can cac,.slice vsp.a vsp.n vsp.c]):=X2.out.grew hg3;clear hg3 hF hx9 hc0 hc1 hc2 hy0 hy1 hy2 hne
     cases hab : aheadB b c with
     | true =>
      have GN : Hid (caGo m (prevC m.ca (j + 1 + 1)) (m.ca.drop (j + 1 + 1)) = Z):=caGo_next GW.out HC.out (by
       have hp : prevC m.ca (j + 1) = some b:=HB.out;rw [hp,caE_order HE0.out,if_neg];have:=HAK.out;rw [hab] at this
       simpa using this)
      go_wp2
      go_roundg (can - (j + 1 + 1))
      case measure=>omega
      case rel=>exact ⟨j + 1 + 1,by omega,by omega,by go_num,HG3.out,X3.out,GN.out,OW'.out⟩
     | false =>
      have HZE : Hid (Z = 2):=show _ = _ by
       have hp : prevC m.ca (j + 1) = some b:=HB.out;have h2 : caE m (prevC m.ca (j + 1)) c = 2:=by
        rw [hp,caE_order HE0.out,if_pos];have:=HAK.out;rw [hab] at this
        simpa using this
       rw [caGo_err GW.out HC.out (by rw [h2]; decide),h2]
      go_wp2;go_ret;exact ⟨by rw [HZE.out]; rfl,HG3.out⟩
   ·have h0e : (e != 0) = true:=by simp [h0]
    have HZE : Hid (Z = e):=show _ = _ by
     have h2 : caE m (prevC m.ca kk) c = e:=by rw [caE_err (by rw [HEE.out]; exact h0),HEE.out]
     rw [caGo_err GW.out HC.out (by rw [h2]; exact h0),h2]
    clear h0;go_wp2;go_ret;exact ⟨by rw [HZE.out]; rfl,HG2.out⟩
  ·have hltz : ¬ (kk : Int) < (can : Int):=by omega
   have : kk = can:=by omega
   subst this;have HZE : Hid (Z = 0):=show _ = _ by
    rw [←GW.out,List.drop_of_length_le (by rw [HN.out]; exact Nat.le_refl _)]
    cases prevC m.ca kk <;> rfl
   go_wp2;go_ret;exact ⟨by rw [HZE.out]; rfl,BW.out⟩
structure OwnSp (lo hi : Nat) (w : World) (x : SpV) (s : Sp) : Prop where
 live : x.live = s.live
 ar : OwnRow arE lo w x.ar.v s.ars
 tb : OwnTab lo w x.tab s.tb
 arh : ∀ g,x.ar.v.ownBlock = some g→g < hi
 tbh : ∀ (i : Nat) v,x.tab[i]? = some v→∀ g,v.ownBlock = some g→g < hi
theorem OwnSp.grew {lo hi : Nat} {w w' : World} {x : SpV} {s : Sp} (h : OwnSp lo hi w x s) (k : Grew w w') : OwnSp lo hi w' x s:=⟨h.live,h.ar.grew k,h.tb.grew k,h.arh,h.tbh⟩
theorem OwnSp.at {lo hi : Nat} {w : World} {x : SpV} {s : Sp} (h : OwnSp lo hi w x s) : SpaceAt w x s:=⟨h.live,h.ar.at,h.ar.cap,h.tb.new.now⟩
theorem OwnTab.grown {base : Nat} {w w' : World} {vs : List Value} {t : List (List En)} {g : Nat} (h : OwnTab base w vs t) (hg : w.grownBy w' (some g)) (hn : ∀ (i : Nat) v,vs[i]? = some v→v.ownBlock≠some g) : OwnTab base w' vs t :=
 ⟨h.len,h.tlen,fun i v x hv hx=>(h.row i v x hv hx).grown hg (fun b hb e=>by cases e; exact hn i v hv hb),h.two⟩
theorem OwnSp.beside {lo hi : Nat} {w w' : World} {x : SpV} {s : Sp} {g : Nat} {t : TypeId} {cs : Array Value} (h : OwnSp lo hi w x s) (hg : w.grownBy w' (some g)) (ho : w.heap[g]? = some (.cells cs t (0,0))) (h1 : t≠arE.ty) (h2 : t≠enE.ty) : OwnSp lo hi w' x s:=by
 have key : ∀ {α : Type} {E : Elt α} {b : Nat} {v : Value} {l : List α},OwnRow E b w v l→t≠E.ty→∀ k,v.ownBlock = some k→some g≠some k:=fun hr hne k hk e=>by
  cases e;obtain ⟨ds,h3⟩:=hr.obj hk;rw [ho] at h3;cases h3;exact hne rfl
 refine ⟨h.live,h.ar.grown hg (key h.ar h1),h.tb.grown hg (fun i v hv e=>?_),h.arh,h.tbh⟩
 obtain ⟨y,hy⟩ : ∃ y,s.tb[i]? = some y:=⟨_,List.getElem?_eq_getElem (by rw [h.tb.tlen,←h.tb.len]; exact (List.getElem?_eq_some_iff.1 hv).1)⟩
 exact key (h.tb.row i v y hv hy) h2 g e rfl
def OwnSps (base : Nat) (w : World) (v : Value) (ss : List Sp) : Prop :=
 ∃ (xs : List SpV) (B : Nat→Nat),OwnRow spcE base w v xs∧xs.length = ss.length∧base≤B 0∧(∀ i,B i≤B (i + 1))∧∀ (i : Nat) x s,xs[i]? = some x→ss[i]? = some s→OwnSp (B i) (B (i + 1)) w x s
theorem OwnSps.at {base : Nat} {w : World} {v : Value} {ss : List Sp} (h : OwnSps base w v ss) : SpacesAt w v ss:=by
 obtain ⟨xs,B,h1,h2,_,_,h5⟩:=h;exact ⟨xs,h1.at,h2,fun i x s hx hs=>(h5 i x s hx hs).at⟩
theorem OwnSps.grew {base : Nat} {w w' : World} {v : Value} {ss : List Sp} (h : OwnSps base w v ss) (k : Grew w w') : OwnSps base w' v ss:=by
 obtain ⟨xs,B,h1,h2,h3,h4,h5⟩:=h;exact ⟨xs,B,h1.grew k,h2,h3,h4,fun i x s hx hs=>(h5 i x s hx hs).grew k⟩
theorem OwnSps.base {base base' : Nat} {w : World} {v : Value} {ss : List Sp} (h : OwnSps base w v ss) (hb : base'≤base) : OwnSps base' w v ss:=by
 obtain ⟨xs,B,h1,h2,h3,h4,h5⟩:=h;exact ⟨xs,B,h1.base hb,h2,by omega,h4,h5⟩
structure HalfS (base : Nat) (w : World) (kk : Nat) (xs ys : List SpV) (ss : List Sp) (B : Nat→Nat) : Prop where
 len : ys.length = xs.length
 own : ∀ (i : Nat) y s,i < kk→ys[i]? = some y→ss[i]? = some s→OwnSp (B i) (B (i + 1)) w y s
 rest : ∀ (i : Nat),kk≤i→ys[i]? = xs[i]?
 b0 : base≤B 0
 mono : ∀ i,B i≤B (i + 1)
 top : B kk≤w.heap.size
theorem HalfS.grew {base kk : Nat} {w w' : World} {xs ys : List SpV} {ss : List Sp} {B : Nat→Nat} (h : HalfS base w kk xs ys ss B) (k : Grew w w') : HalfS base w' kk xs ys ss B:=⟨h.len,fun i y s hi hy hs=>(h.own i y s hi hy hs).grew k,h.rest,h.b0,h.mono,Nat.le_trans h.top (Below.size k)⟩
theorem mono_le {B : Nat→Nat} (h : ∀ i,B i≤B (i + 1)) : ∀ {i j : Nat},i≤j→B i≤B j
 | i,0,hij=>by rw [show i = 0 from by omega]; exact Nat.le_refl _
 | i,j + 1,hij=>by
  by_cases e : i = j + 1
  ·subst e; exact Nat.le_refl _
  ·exact Nat.le_trans (mono_le h (by omega)) (h j)
theorem spc_kinds : spcE.ty≠arE.ty∧spcE.ty≠enE.ty:=by decide
theorem HalfS.step {base kk : Nat} {w w' : World} {xs ys : List SpV} {ss : List Sp} {B : Nat→Nat} {g : Nat} {cs : Array Value} (h : HalfS base w kk xs ys ss B) (hg : w.grownBy w' (some g)) (ho : w.heap[g]? = some (.cells cs spcE.ty (0,0))) (hsz : w'.heap.size = w.heap.size) {x : SpV} {s : Sp} (hx : xs[kk]? = some x) (hs : ss[kk]? = some s)
  {y : SpV} (hown : OwnSp (B kk) w.heap.size w' y s) : HalfS base w' (kk + 1) xs (ys.set kk y) ss (fun i=>if i≤kk then B i else w.heap.size):=by
 have hk : kk < ys.length:=by rw [h.len]; exact (List.getElem?_eq_some_iff.1 hx).1
 refine ⟨by simp [h.len],fun i z s' hi hz hs'=>?_,fun i hi=>?_,by simpa using h.b0,fun i=>?_,by rw [if_neg (by omega),hsz]; exact Nat.le_refl _⟩
 ·by_cases e : i = kk
  ·subst e;rw [List.getElem?_set_self hk] at hz;cases hz;rw [hs] at hs';cases hs';rw [if_pos (Nat.le_refl _),if_neg (by omega)]
   exact hown
  ·rw [List.getElem?_set_ne (fun h=>e h.symm)] at hz
   have h1:=(h.own i z s' (by omega) hz hs').beside hg ho spc_kinds.1 spc_kinds.2
   have e1 : i≤kk:=by omega
   have e2 : i + 1≤kk:=by omega
   simpa [e1,e2] using h1
 ·rw [List.getElem?_set_ne (by omega)]
  exact h.rest i (by omega)
 ·by_cases e1 : i + 1≤kk
  ·rw [if_pos (by omega),if_pos e1]
   exact h.mono i
  ·rw [if_neg e1]
   by_cases e2 : i≤kk
   ·rw [if_pos e2];exact Nat.le_trans (mono_le h.mono e2) h.top
   ·rw [if_neg e2];exact Nat.le_refl _
theorem HalfS.all {base : Nat} {w : World} {xs ys : List SpV} {ss : List Sp} {B : Nat→Nat} {v : Value} (h : HalfS base w xs.length xs ys ss B) (hl : xs.length = ss.length) (hv : OwnRow spcE base w v ys) : OwnSps base w v ss :=
 ⟨ys,B,hv,h.len.trans hl,h.b0,h.mono,fun i y s hy hs=>h.own i y s (by rw [←h.len]; exact (List.getElem?_eq_some_iff.1 hy).1) hy hs⟩
theorem tab_form {base : Nat} {w : World} {us : List Value} {t : List (List En)} (h : OwnTab base w us t) : ∃ t0 t1 t2 t3 t4 t5 t6 t7 : Sli,us = [t0.v,t1.v,t2.v,t3.v,t4.v,t5.v,t6.v,t7.v]:=by
 obtain ⟨u0,u1,u2,u3,u4,u5,u6,u7,rfl⟩:=eight h.len;obtain ⟨y0,y1,y2,y3,y4,y5,y6,y7,rfl⟩:=eight h.tlen;obtain ⟨a0,c0,rfl⟩:=(h.row 0 _ _ rfl rfl).form;obtain ⟨a1,c1,rfl⟩:=(h.row 1 _ _ rfl rfl).form;obtain ⟨a2,c2,rfl⟩:=(h.row 2 _ _ rfl rfl).form;obtain ⟨a3,c3,rfl⟩:=(h.row 3 _ _ rfl rfl).form;obtain ⟨a4,c4,rfl⟩:=(h.row 4 _ _ rfl rfl).form;obtain ⟨a5,c5,rfl⟩:=(h.row 5 _ _ rfl rfl).form;obtain ⟨a6,c6,rfl⟩:=(h.row 6 _ _ rfl rfl).form;obtain ⟨a7,c7,rfl⟩:=(h.row 7 _ _ rfl rfl).form;exact ⟨⟨a0,_,c0⟩,⟨a1,_,c1⟩,⟨a2,_,c2⟩,⟨a3,_,c3⟩,⟨a4,_,c4⟩,⟨a5,_,c5⟩,⟨a6,_,c6⟩,⟨a7,_,c7⟩,rfl⟩
theorem ownSpaces_any (v : Value) (ss : List Sp) (w : World) (hv : SpacesAt w v ss) :
  Calls Tryz.prog 55 #[v] w fun e w'=>∃ v',e = .returned v'∧OwnSps w.heap.size w' v' ss∧Grew w w':=by
 obtain ⟨xs,k1,k2,k3⟩:=hv;have HX : Hid (RowAt spcE w v xs):=k1;have HL : Hid (xs.length = ss.length):=k2;have HSP : Hid (∀ (i : Nat) x s,xs[i]? = some x→ss[i]? = some s→SpaceAt w x s):=k3;have hbig:=k1.short;obtain ⟨a,c,rfl,_⟩:=k1.rows;clear k1 k2 k3;obtain ⟨n,HN⟩ : ∃ n,Hid (xs.length = n):=⟨_,rfl⟩;rw [HN.out] at hbig HX ⊢;have hcl:=cloneSp_any _ xs w HX.out
 go_enter Tryz.func55,Tryz.ntmps55
 go_wp2_with fail;refine hcl.mono ?_;clear hcl;rintro e W1 ⟨v1,rfl,ow1,g1⟩;obtain ⟨xa,xc,rfl⟩:=ow1.form;rw [HN.out] at ow1 ⊢;have O1 : Hid (OwnRow spcE w.heap.size W1 (.slice xa n xc) xs):=ow1;have G1 : Hid (Grew w W1):=g1;clear ow1 g1;go_wp2
 go_loopg [10] n (fun gg s10 wr=>∃ (kk : Nat) (ys : List SpV) (B : Nat→Nat),kk≤n∧n - kk≤gg∧s10 = .int .i64 kk∧Hid (Grew w wr)∧Hid (OwnRow spcE w.heap.size wr (.slice xa n xc) ys)∧Hid (HalfS w.heap.size wr kk xs ys ss B))
 case atStart=>exact ⟨0,xs,fun _=>W1.heap.size,Nat.zero_le _,by omega,rfl,G1.out,O1.out,⟨rfl,fun i y f hi=>absurd hi (Nat.not_lt_zero _),fun i _=>rfl,Below.size G1.out,fun i=>Nat.le_refl _,Nat.le_refl _⟩⟩
 case round =>
  obtain ⟨kk,ys,B,hkk,hgg,rfl,BW,OW,HH⟩:=hrel;clear O1 G1
  by_cases hlt : kk < n
  ·have hltz : (kk : Int) < (n : Int):=by omega
   obtain ⟨x,HXK⟩ : ∃ x,Hid (xs[kk]? = some x):=⟨_,List.getElem?_eq_getElem (by rw [HN.out]; exact hlt)⟩
   obtain ⟨s,HSK⟩ : ∃ s,Hid (ss[kk]? = some s):=⟨_,List.getElem?_eq_getElem (by rw [←HL.out,HN.out]; exact hlt)⟩
   have HAT : Hid (SpaceAt w x s):=HSP.out kk x s HXK.out HSK.out;have HY : Hid (ys[kk]? = some x):=show _ = _ by rw [HH.out.rest kk (Nat.le_refl _)]; exact HXK.out
   have HYL : Hid (ys.length = n):=show _ = _ by rw [HH.out.len,HN.out]
   obtain ⟨g,xc',heq⟩:=OW.out.formS (by rw [HYL.out]; omega)
   rw [HYL.out] at heq;cases heq;have hce : Sp10 wr ((Addr.mk g 0 none).add (kk * 10)) x:=(OW.out.one HY.out).sp10;rw [Addr.add_lit,Nat.zero_add] at hce;obtain ⟨d0,d1,d2,d3,d4,d5,d6,d7,d8,d9⟩:=hce;have HGB : Hid (w.heap.size≤g):=show _≤_ from (OW.out.lt g rfl).1
   go_upto_region 5 with fail;clear d0 d1 d2 d3 d4 d5 d6 d7 d8 d9;obtain ⟨W2,hW2⟩ : ∃ W2,wr.alloc (.cells #[.bool x.live,.slice x.ar.a x.ar.n x.ar.c,.slice x.t0.a x.t0.n x.t0.c,.slice x.t1.a x.t1.n x.t1.c,.slice x.t2.a x.t2.n x.t2.c,.slice x.t3.a x.t3.n x.t3.c,.slice x.t4.a x.t4.n x.t4.c,.slice x.t5.a x.t5.n x.t5.c,.slice x.t6.a x.t6.n x.t6.c,.slice x.t7.a x.t7.n x.t7.c] 65) = W2:=⟨_,rfl⟩;have HG2 : Hid (Grew w W2):=show Grew _ _ by rw [←hW2]; exact BW.out.trans (grew_alloc _ _)
   have S2 : Hid (Box W2 wr.heap.size [.bool x.live,.slice x.ar.a x.ar.n x.ar.c,.slice x.t0.a x.t0.n x.t0.c,.slice x.t1.a x.t1.n x.t1.c,.slice x.t2.a x.t2.n x.t2.c,.slice x.t3.a x.t3.n x.t3.c,.slice x.t4.a x.t4.n x.t4.c,.slice x.t5.a x.t5.n x.t5.c,.slice x.t6.a x.t6.n x.t6.c,.slice x.t7.a x.t7.n x.t7.c]):=show Box _ _ _ by rw [←hW2]; exact Box.top _ _ _ rfl
   have OW2 : Hid (OwnRow spcE w.heap.size W2 (.slice (some ⟨g,0,none⟩) n xc) ys):=show OwnRow _ _ _ _ _ by rw [←hW2]; exact OW.out.grew (grew_alloc _ _)
   have H2 : Hid (HalfS w.heap.size W2 kk xs ys ss B):=show HalfS _ _ _ _ _ _ _ by rw [←hW2]; exact HH.out.grew (grew_alloc _ _)
   have HGL : Hid (g < wr.heap.size):=show _ < _ from (OW.out.lt g rfl).2
   rw [hW2];clear hW2;obtain ⟨pb,HPB⟩ : ∃ pb,Hid (wr.heap.size = pb):=⟨_,rfl⟩;rw [HPB.out] at S2 HGL ⊢;have s1:=S2.out.c 1 rfl;have hca:=cloneAr_any (.slice x.ar.a x.ar.n x.ar.c) s.ars W2 (HAT.out.ar.grew HG2.out);go_wp2_with fail;refine hca.mono ?_;clear hca s1;rintro e W3 ⟨v3,rfl,ow3,g3⟩;have HCP : Hid (Cap v3):=ow3.cap;obtain ⟨ra,rc,rfl⟩:=ow3.form;obtain ⟨rn,HRN⟩ : ∃ rn,Hid (s.ars.length = rn):=⟨_,rfl⟩;rw [HRN.out] at ow3 ⊢;have A3 : Hid (OwnRow arE W2.heap.size W3 (.slice ra rn rc) s.ars):=ow3;have HG3 : Hid (Grew w W3):=HG2.out.trans g3;have S3 : Hid (Box W3 pb [.bool x.live,.slice x.ar.a x.ar.n x.ar.c,.slice x.t0.a x.t0.n x.t0.c,.slice x.t1.a x.t1.n x.t1.c,.slice x.t2.a x.t2.n x.t2.c,.slice x.t3.a x.t3.n x.t3.c,.slice x.t4.a x.t4.n x.t4.c,.slice x.t5.a x.t5.n x.t5.c,.slice x.t6.a x.t6.n x.t6.c,.slice x.t7.a x.t7.n x.t7.c]):=S2.out.grew g3;have OW3 : Hid (OwnRow spcE w.heap.size W3 (.slice (some ⟨g,0,none⟩) n xc) ys):=OW2.out.grew g3;have H3 : Hid (HalfS w.heap.size W3 kk xs ys ss B):=H2.out.grew g3;have HB2 : Hid (B kk≤W2.heap.size):=H2.out.top;have HS2 : Hid (W2.heap.size≤W3.heap.size):=show _≤_ from Below.size g3
   clear ow3 g3
   go_wp2_with (refine wpList_store_part (E:=spcE) rfl (.tmp 21) (.tmp 19) 60 rfl w.heap.size _ ys OW3.out g kk 1 rfl x { x with ar:=⟨ra,rn,rc⟩ } HY.out [.slice ra rn rc] ?s1 rfl ?s2 ?s3 ⟨g,kk * 10 + 1,none⟩ rfl rfl (.slice ra rn rc) rfl rfl ?_)
   case s1=>kernel_rfl
   case s2=>show 1 + 1≤10; omega
   case s3=>simp; rfl
   intro W4 ow4 gr4 sz4;have HK4 : Hid (∃ cs,W3.heap[g]? = some (.cells cs spcE.ty (0,0))):=OW3.out.obj rfl;have HG4 : Hid (Grew w W4):=show Grew _ _ from grew_grown HG3.out gr4 HGB.out
   have S4 : Hid (Box W4 pb [.bool x.live,.slice x.ar.a x.ar.n x.ar.c,.slice x.t0.a x.t0.n x.t0.c,.slice x.t1.a x.t1.n x.t1.c,.slice x.t2.a x.t2.n x.t2.c,.slice x.t3.a x.t3.n x.t3.c,.slice x.t4.a x.t4.n x.t4.c,.slice x.t5.a x.t5.n x.t5.c,.slice x.t6.a x.t6.n x.t6.c,.slice x.t7.a x.t7.n x.t7.c]):=S3.out.grown gr4 (by have:=HGL.out; omega)
   have OW4 : Hid (OwnRow spcE w.heap.size W4 (.slice (some ⟨g,0,none⟩) n xc) (ys.set kk { x with ar:=⟨ra,rn,rc⟩ })):=ow4;have A4 : Hid (OwnRow arE W2.heap.size W4 (.slice ra rn rc) s.ars):=A3.out.grown gr4 (fun b hb e=>by
    cases e;exact OW3.out.apart A3.out spc_kinds.1 g rfl hb)
   have H4 : Hid (∀ (i : Nat) y s',i < kk→ys[i]? = some y→ss[i]? = some s'→OwnSp (B i) (B (i + 1)) W4 y s'):=show ∀ (i : Nat) y s',_ from fun i y s' hi hy hs=>by
    obtain ⟨cs,hcs⟩:=HK4.out;exact (H3.out.own i y s' hi hy hs).beside gr4 hcs spc_kinds.1 spc_kinds.2
   have HS4 : Hid (W4.heap.size = W3.heap.size):=sz4;clear ow4 gr4 sz4;have hct:=ownTb_any x.tab s.tb W4 (HAT.out.grew HG4.out).tb;have hct' : Calls Tryz.prog 102 #[.agg #[.slice x.t0.a x.t0.n x.t0.c,.slice x.t1.a x.t1.n x.t1.c,.slice x.t2.a x.t2.n x.t2.c,.slice x.t3.a x.t3.n x.t3.c,.slice x.t4.a x.t4.n x.t4.c,.slice x.t5.a x.t5.n x.t5.c,.slice x.t6.a x.t6.n x.t6.c,.slice x.t7.a x.t7.n x.t7.c]] W4 fun e w'=>∃ us,e = .returned (.agg us.toArray)∧OwnTab (W4.heap.size + 2) w' us s.tb∧Grew W4 w'∧W4.heap.size + 2≤w'.heap.size:=hct
   clear hct;have s2:=S4.out.c 2 rfl;have s3:=S4.out.c 3 rfl;have s4:=S4.out.c 4 rfl;have s5:=S4.out.c 5 rfl;have s6:=S4.out.c 6 rfl;have s7:=S4.out.c 7 rfl;have s8:=S4.out.c 8 rfl;have s9:=S4.out.c 9 rfl;go_wp2_with fail;refine hct'.mono ?_;clear hct' s2 s3 s4 s5 s6 s7 s8 s9;rintro e W5 ⟨us,rfl,ot5,g5,_⟩;obtain ⟨t0,t1,t2,t3,t4,t5,t6,t7,rfl⟩:=tab_form ot5;have T5 : Hid (OwnTab (W4.heap.size + 2) W5 [t0.v,t1.v,t2.v,t3.v,t4.v,t5.v,t6.v,t7.v] s.tb):=ot5;have HG5 : Hid (Grew w W5):=HG4.out.trans g5;have OW5 : Hid (OwnRow spcE w.heap.size W5 (.slice (some ⟨g,0,none⟩) n xc) (ys.set kk { x with ar:=⟨ra,rn,rc⟩ })):=OW4.out.grew g5;have A5 : Hid (OwnRow arE W2.heap.size W5 (.slice ra rn rc) s.ars):=A4.out.grew g5;have H5 : Hid (∀ (i : Nat) y s',i < kk→ys[i]? = some y→ss[i]? = some s'→OwnSp (B i) (B (i + 1)) W5 y s'):=show ∀ (i : Nat) y s',_ from fun i y s' hi hy hs=>(H4.out i y s' hi hy hs).grew g5
   have HS5 : Hid (W4.heap.size≤W5.heap.size):=show _≤_ from Below.size g5
   clear ot5 g5;have HYS : Hid ((ys.set kk { x with ar:=⟨ra,rn,rc⟩ })[kk]? = some { x with ar:=⟨ra,rn,rc⟩ }):=show _ = _ from List.getElem?_set_self (by rw [HYL.out]; exact hlt)
   go_wp2_with (refine wpList_store_part (E:=spcE) rfl (.tmp 28) (.tmp 26) 63 rfl w.heap.size _ _ OW5.out g kk 2 rfl { x with ar:=⟨ra,rn,rc⟩ } ⟨x.live,⟨ra,rn,rc⟩,t0,t1,t2,t3,t4,t5,t6,t7⟩ HYS.out [t0.v,t1.v,t2.v,t3.v,t4.v,t5.v,t6.v,t7.v] ?s1 rfl ?s2 ?s3 ⟨g,kk * 10 + 2,none⟩ rfl rfl _ rfl rfl ?_)
   case s1=>kernel_rfl
   case s2=>show 2 + 8≤10; omega
   case s3 =>
    intro u hu;simp only [List.mem_cons,List.not_mem_nil,or_false] at hu
    rcases hu with rfl | rfl | rfl | rfl | rfl | rfl | rfl | rfl <;> rfl
   intro W6 ow6 gr6 sz6;have HK6 : Hid (∃ cs,W5.heap[g]? = some (.cells cs spcE.ty (0,0))):=OW5.out.obj rfl;have HG6 : Hid (Grew w W6):=show Grew _ _ from grew_grown HG5.out gr6 HGB.out
   have OW6 : Hid (OwnRow spcE w.heap.size W6 (.slice (some ⟨g,0,none⟩) n xc) (ys.set kk ⟨x.live,⟨ra,rn,rc⟩,t0,t1,t2,t3,t4,t5,t6,t7⟩)):=ow6;have HF6 : Hid (HalfS w.heap.size W6 (kk + 1) xs (ys.set kk ⟨x.live,⟨ra,rn,rc⟩,t0,t1,t2,t3,t4,t5,t6,t7⟩) ss (fun i=>if i≤kk then B i else W5.heap.size)):=show HalfS _ _ _ _ _ _ _ by
    obtain ⟨cs,hcs⟩:=HK6.out;have h5 : HalfS w.heap.size W5 kk xs ys ss B:=⟨HH.out.len,H5.out,HH.out.rest,HH.out.b0,HH.out.mono,by have:=HB2.out; have:=HS2.out; have:=HS4.out; have:=HS5.out; omega⟩
    refine h5.step gr6 hcs sz6 HXK.out HSK.out ?_;have own5 : OwnSp (B kk) W5.heap.size W5 ⟨x.live,⟨ra,rn,rc⟩,t0,t1,t2,t3,t4,t5,t6,t7⟩ s:=⟨HAT.out.live,A5.out.base HB2.out,T5.out.base (by have:=HB2.out; have:=HS2.out; have:=HS4.out; omega),fun b hb=>(A5.out.lt b hb).2,fun i u hu b hb=>by
     obtain ⟨y,hy⟩ : ∃ y,s.tb[i]? = some y:=⟨_,List.getElem?_eq_getElem (by rw [T5.out.tlen,←T5.out.len]; exact (List.getElem?_eq_some_iff.1 hu).1)⟩
     exact ((T5.out.row i u y hu hy).lt b hb).2⟩
    exact own5.beside gr6 hcs spc_kinds.1 spc_kinds.2
   clear ow6 gr6 sz6;go_wp2
   go_roundg (n - (kk + 1))
   case measure=>omega
   case rel=>exact ⟨kk + 1,_,_,by omega,by omega,by go_num,HG6.out,OW6.out,HF6.out⟩
  ·have hltz : ¬ (kk : Int) < (n : Int):=by omega
   have : kk = n:=by omega
   subst this;have HA : Hid (OwnSps w.heap.size wr (.slice xa kk xc) ss):=show OwnSps _ _ _ _ by
    have h1:=HH.out;rw [←HN.out] at h1;exact h1.all HL.out OW.out
   go_wp2;go_ret;exact ⟨_,rfl,HA.out,BW.out⟩
theorem cloneFrames_any (v : Value) (fs : List Fr) (w : World) (hv : frRowAt w v fs) :
  Calls Tryz.prog 95 #[v] w fun e w'=>∃ v',e = .returned v'∧frOwnRow w.heap.size w' v' fs∧Grew w w':=by
 have HV : Hid (frRowAt w v fs):=hv;obtain ⟨⟨a,c,rfl,hnone,hcells⟩,hbytes⟩:=hv;have q22 : ∀ (w : World) (a : Option Addr) (n c n' c' : Nat),(binOp .eql 25 (.slice a n c) (.slice none n' c')).run Tryz.prog w = .ok (.bool a.isNone) w:=fun w a n c n' c'=>Lib.run_eql_slice_nil w _ _ a n c n' c' Tryz.underlying25
 cases a with
 | none =>
  have hps:=hnone rfl;subst hps;clear hcells hnone hbytes HV
  go_enter Tryz.func95,Tryz.ntmps95
  go_wp2;go_ret;exact ⟨_,rfl,frOwnRow.nil _ _,Grew.refl w⟩
 | some x =>
  have HB : Hid (fs.length * 40≤140737488355328):=hbytes;clear hcells hnone hbytes
  go_enter Tryz.func95,Tryz.ntmps95
  go_wp2_with (at_builtin; refine frWpList_append_row rfl (.tmp 5) (.tmp 6) rfl w.heap.size _ [] rfl (frOwnRow.made w) _ fs rfl (HV.out.grew (grew_alloc _ _)) ?qb (by simp) ?_)
  case qb=>rw [List.length_nil,Nat.zero_add]; exact HB.out
  intro v' w1 hown hgrow;go_wp2;go_ret;exact ⟨v',rfl,by simpa using hown,((Below.refl _ w).alloc (Nat.le_refl _) _).grown hgrow (by simp) (by intro k hk; simp [Value.ownBlock] at hk; omega)⟩
theorem ownMem_any (a : Option Addr) (c : Nat) (fs : List Fr) (h : Int) (w : World) (hv : frRowAt w (.slice a fs.length c) fs) :
  Calls Tryz.prog 50 #[.agg #[.slice a fs.length c,.int .i64 h]] w fun e w'=>∃ b,e = .returned (.agg #[b,.int .i64 h])∧frOwnRow w.heap.size w' b fs∧Grew w w':=by
 have HV : Hid (frRowAt w (.slice a fs.length c) fs):=hv;clear hv;obtain ⟨n,HN⟩ : ∃ n,Hid (fs.length = n):=⟨_,rfl⟩;rw [HN.out] at HV ⊢
 go_enter Tryz.func50,Tryz.ntmps50
 go_wp2;obtain ⟨W1,hW⟩ : ∃ W1,(w.alloc (.cells #[.slice a n c,.int .i64 h] 27)).alloc (.cells #[.slice none 0 0,.int .i64 0] 27) = W1:=⟨_,rfl⟩;have hg1 : Hid (Grew w W1):=show Grew w W1 by rw [←hW]; exact (grew_alloc _ _).trans (grew_alloc _ _)
 have hsz : Hid (W1.heap.size = w.heap.size + 2):=show W1.heap.size = _ by rw [←hW]; simp
 have X0 : Hid (Box W1 w.heap.size [.slice a n c,.int .i64 h]):=show Box _ _ _ by rw [←hW]; exact (Box.top w _ _ rfl).alloc _
 have X1 : Hid (Box W1 (w.heap.size + 1) [.slice none 0 0,.int .i64 0]):=show Box _ _ _ by rw [←hW]; exact Box.top _ _ _ (by simp)
 rw [hW];clear hW;have hx0 : ∀ x : GrownW W1,x.world.cell? ⟨w.heap.size,0,none⟩ = some (.slice a n c):=fun x=>(X0.out.grew x.grew).c 0 rfl
 have hx1 : ∀ x : GrownW W1,x.world.cell? ⟨w.heap.size,1,none⟩ = some (.int .i64 h):=fun x=>(X0.out.grew x.grew).c 1 rfl
 have hne : Nonempty (GrownW W1):=⟨⟨_,Grew.refl _⟩⟩;refine wp_lax_tail 6 [(2,⟨fun v=>∃ a n c,v = .slice a n c,fun v w'=>frOwnRow (w.heap.size + 2) w' v fs⟩)] mixed (by kernel_rfl) rfl rfl (by decide) ?_ ?_ ?_
 ·intro x hx
  simp at hx
  subst hx;exact ⟨_,none,0,0,rfl⟩
 ·intro x hx
  simp at hx
  subst hx;intro v w1 w2 hg h; exact h.grew hg
 simp only [List.take,List.drop];iterate 2 (refine lax_quiet rfl rfl rfl (fun K hK=>?_); go_big_quiet_op; refine hK _ ?_; clear hK K)
 refine lax_spec rfl rfl (fun w' hg hF=>?_) (fun v1 hv=>?_)
 ·refine Does.call [.slice a n c] rfl Tryz.func95 rfl rfl rfl ?_;refine (cloneFrames_any _ fs w' (HV.out.grew (hg1.out.trans hg))).mono ?_;rintro e w'' ⟨v2,rfl,hb,hg2⟩;obtain ⟨a2,c2,rfl⟩:=hb.form;exact ⟨_,rfl,hg2,⟨_,_,_,rfl⟩,hb.base (by have:=Below.size hg; rw [hsz.out] at this; exact this)⟩
 obtain ⟨a1,n1,c1,rfl⟩:=hv;simp only [Act.put,List.setIfInBounds_toArray,List.set_cons_succ,List.set_cons_zero];iterate 3 (refine lax_quiet rfl rfl rfl (fun K hK=>?_); go_big_quiet_op; refine hK _ ?_; clear hK K)
 refine lax_nil fun w' hg hF=>?_
 have ow1 : Hid (frOwnRow (w.heap.size + 2) w' (.slice a1 n1 c1) fs):=hF 2;have X2:=X1.out.grew hg;have m2:=X2.c 0 rfl;have m3:=X2.c 1 rfl;have g2:=X2.f;have HG : Hid (Grew w w'):=hg1.out.trans hg;clear hF hx0 hx1 hg hne X2;go_wp2;refine bodyPost_ret (v:= .agg #[.slice a1 n1 c1,.int .i64 h]) (by simp [results,Tryz.results50,go_sem, *]) rfl ⟨_,rfl,((ow1.out.setCell (by simp) _).setCell (by simp) _).base (by omega),?_⟩
 exact Below.setCell (Below.setCell HG.out (p:=⟨w.heap.size + 1,0,none⟩) (by simp) _) (p:=⟨w.heap.size + 1,1,none⟩) (by simp) _
theorem cloneS_any (v : Value) (fs : List Int) (w : World) (hv : RowAt slE w v fs) :
  Calls Tryz.prog 51 #[v] w fun e w'=>∃ v',e = .returned v'∧OwnRow slE w.heap.size w' v' fs∧Grew w w':=by
 have HV : Hid (RowAt slE w v fs):=hv;obtain ⟨⟨a,c,rfl,hnone,hcells⟩,hbytes⟩:=hv;have q22 : ∀ (w : World) (a : Option Addr) (n c n' c' : Nat),(binOp .eql 29 (.slice a n c) (.slice none n' c')).run Tryz.prog w = .ok (.bool a.isNone) w:=fun w a n c n' c'=>Lib.run_eql_slice_nil w _ _ a n c n' c' Tryz.underlying29
 cases a with
 | none =>
  have hps:=hnone rfl;subst hps;clear hcells hnone hbytes HV
  go_enter Tryz.func51,Tryz.ntmps51
  go_wp2;go_ret;exact ⟨_,rfl,OwnRow.nil _ _ _,Grew.refl w⟩
 | some x =>
  have HB : Hid (fs.length * 8≤140737488355328):=hbytes;clear hcells hnone hbytes
  go_enter Tryz.func51,Tryz.ntmps51
  go_wp2_with (at_builtin; refine wpList_append_row (E:=slE) rfl (.tmp 5) (.tmp 6) rfl w.heap.size _ [] rfl (OwnRow.made slE w) _ fs rfl (HV.out.grew (grew_alloc _ _)) ?qb (by simp) ?_)
  case qb=>rw [List.length_nil,Nat.zero_add]; exact HB.out
  intro v' w1 hown hgrow;go_wp2;go_ret;exact ⟨v',rfl,by simpa using hown,((Below.refl _ w).alloc (Nat.le_refl _) _).grown hgrow (by simp) (by intro k hk; simp [Value.ownBlock] at hk; omega)⟩
section
variable (I : World→Prop) (P : Program) (ops : Array Oper) (S : Nat→Option (Value→Prop))
def ClauseC (i : Nat) (F : Nat→World→Prop) (a : Act) (K : (Nat→World→Prop)→Act→Prop) : Prop :=
 match ops[i]? with
 | none=>False
 | some o =>
  if Region.wanted o (yielded ops a.tmps) then
   match S i with
   | none=>∃ v,(∀ w,I w→(∀ m,anc ops 9 m i = true→F m w)→(execOp a.eval o).run P w = .ok (.value v) w)∧K F (a.put o.dst v)
   | some s=>∃ p : Value→World→Prop,(∀ v w w',Grew w w'→p v w→p v w')∧(∀ w,I w→(∀ m,anc ops 9 m i = true→F m w)→Does P o a w fun v w'=>I w'∧Grew w w'∧s v∧p v w')∧∀ v,s v→K (fset F i (p v)) (a.put o.dst v)
  else K F (a.put o.dst undef)
def LexC (Q : Act→World→Prop) : List Nat→(Nat→World→Prop)→Act→Prop
 | [],F,a=>∀ w,I w→(∀ i,F i w)→Q a w
 | i :: l,F,a=>ClauseC I P ops S i F a (LexC Q l)
end
section
variable {I : World→Prop} {P : Program} {ops : Array Oper} {S : Nat→Option (Value→Prop)} {T : Nat}
theorem ClauseC.mono {i : Nat} {F : Nat→World→Prop} {a : Act} {K K' : (Nat→World→Prop)→Act→Prop}
  (h : ∀ F' a',(∀ m,m≠i→F' m = F m)→K F' a'→K' F' a') (hc : ClauseC I P ops S i F a K) : ClauseC I P ops S i F a K':=by
 unfold ClauseC at *
 split
 ·rename_i ho; simp only [ho] at hc
 ·rename_i o ho
  simp only [ho] at hc
  split
  ·rename_i hw
   simp only [hw,if_true] at hc
   split
   ·rename_i hs
    simp only [hs] at hc;obtain ⟨v,h1,h2⟩:=hc;exact ⟨v,h1,h _ _ (fun _ _=>rfl) h2⟩
   ·rename_i s hs
    simp only [hs] at hc;obtain ⟨p,hp,hd,hc⟩:=hc;exact ⟨p,hp,hd,fun v hv=>h _ _ (fun m hm=>fset_other hm) (hc v hv)⟩
  ·rename_i hw
   simp only [hw] at hc;exact h _ _ (fun _ _=>rfl) hc
theorem ClauseC.swap {i j : Nat} {oi oj : Oper} {F : Nat→World→Prop} {a : Act} {K : (Nat→World→Prop)→Act→Prop} {w : World}
  (hi : ops[i]? = some oi) (hj : ops[j]? = some oj) (hne : i≠j) (hap : oi.apart ops oj = true)
  (hsi : ∀ cs b,oi.op≠.select cs b) (hsj : ∀ cs b,oj.op≠.select cs b)
  (hij : anc ops 9 i j = false) (hji : anc ops 9 j i = false) (hS : ∀ s,S i = some s→∃ v,s v) (hch : S i≠none→S j≠none→anc ops 9 i j = true∨anc ops 9 j i = true)
  (hw0 : I w) (hF : ∀ m,anc ops 9 m j = true→F m w)
  (h : ClauseC I P ops S i F a fun F' a'=>ClauseC I P ops S j F' a' K) : ClauseC I P ops S j F a fun F' a'=>ClauseC I P ops S i F' a' K:=by
 obtain ⟨h1,h2,h3⟩:=Oper.apart_spec hap;have ei : ∀ v,execOp (a.put oj.dst v).eval oi = execOp a.eval oi:=fun v=>execOp_put oi hsi a oj.dst v h3
 have ej : ∀ v,execOp (a.put oi.dst v).eval oj = execOp a.eval oj:=fun v=>execOp_put oj hsj a oi.dst v h1
 have wi : ∀ v,Region.wanted oi (yielded ops (a.put oj.dst v).tmps) = Region.wanted oi (yielded ops a.tmps):=fun v=>wanted_put oi a oj.dst v h3
 have wj : ∀ v,Region.wanted oj (yielded ops (a.put oi.dst v).tmps) = Region.wanted oj (yielded ops a.tmps):=fun v=>wanted_put oj a oi.dst v h1
 have di : ∀ v w K,Does P oi (a.put oj.dst v) w K = Does P oi a w K:=fun v w K=>by unfold Does; rw [ei]
 have dj : ∀ v w K,Does P oj (a.put oi.dst v) w K = Does P oj a w K:=fun v w K=>by unfold Does; rw [ej]
 have pc : ∀ v u,(a.put oi.dst v).put oj.dst u = (a.put oj.dst u).put oi.dst v:=fun v u=>Act.put_comm a v u h2
 have fi : ∀ p,(fun m=>anc ops 9 m i = true→fset F j p m w = F m w) = fun _=>True:=fun p=>by
  funext m
  simp only [eq_iff_iff,iff_true];intro hm;rw [fset_other (fun e=>by subst e; rw [hji] at hm; cases hm)]
 have faci : ∀ p w',(∀ m,anc ops 9 m i = true→fset F j p m w')↔(∀ m,anc ops 9 m i = true→F m w'):=fun p w'=>by
  constructor <;> intro hh m hm <;> have:=hh m hm
  ·rwa [fset_other (fun e=>by subst e; rw [hji] at hm; cases hm)] at this
  ·rwa [fset_other (fun e=>by subst e; rw [hji] at hm; cases hm)]
 have facj : ∀ p w',(∀ m,anc ops 9 m j = true→fset F i p m w')↔(∀ m,anc ops 9 m j = true→F m w'):=fun p w'=>by
  constructor <;> intro hh m hm <;> have:=hh m hm
  ·rwa [fset_other (fun e=>by subst e; rw [hij] at hm; cases hm)] at this
  ·rwa [fset_other (fun e=>by subst e; rw [hij] at hm; cases hm)]
 clear fi;unfold ClauseC at h ⊢;simp only [hi,hj,ei,ej,wi,wj,di,dj,pc] at h ⊢
 cases hwi : Region.wanted oi (yielded ops a.tmps) <;> cases hwj : Region.wanted oj (yielded ops a.tmps) <;>
  simp only [hwi,hwj,if_true,if_false,Bool.false_eq_true] at h ⊢
 ·exact h
 ·cases hsj' : S j with
  | none=>simp only [hsj'] at h ⊢; exact h
  | some s=>simp only [hsj'] at h ⊢; exact h
 ·cases hsi' : S i with
  | none=>simp only [hsi'] at h ⊢; exact h
  | some s=>simp only [hsi'] at h ⊢; exact h
 ·cases hsi' : S i with
  | none =>
   simp only [hsi'] at h;obtain ⟨vi,hri,h⟩:=h
   cases hsj' : S j with
   | none =>
    simp only [hsj'] at h ⊢;obtain ⟨vj,hrj,h⟩:=h;exact ⟨vj,hrj,vi,hri,h⟩
   | some s =>
    simp only [hsj'] at h ⊢;obtain ⟨p,hp,hd,hk⟩:=h;exact ⟨p,hp,hd,fun vj hvj=>⟨vi,fun w' hw' hf=>hri w' hw' ((faci _ _).1 hf),hk vj hvj⟩⟩
  | some si =>
   simp only [hsi'] at h;obtain ⟨p,hp,hdi,h⟩:=h;obtain ⟨v1,hv1⟩:=hS si hsi'
   cases hsj' : S j with
   | none =>
    simp only [hsj'] at h ⊢;obtain ⟨vj,hrj,_⟩:=h v1 hv1;refine ⟨vj,fun w' hw' hf=>hrj w' hw' ((facj _ _).2 hf),p,hp,hdi,fun vi hvi=>?_⟩
    obtain ⟨vj',hrj',hl⟩:=h vi hvi;have e1:=hrj w hw0 ((facj _ _).2 hF);have e2:=hrj' w hw0 ((facj _ _).2 hF);rw [e1] at e2;simp only [Result.ok.injEq,Next.value.injEq,and_true] at e2;subst e2;exact hl
   | some sj =>
    exfalso
    rcases hch (by rw [hsi']; simp) (by rw [hsj']; simp) with h1 | h1
    ·rw [hij] at h1; cases h1
    ·rw [hji] at h1; cases h1
theorem LexC.commute {Q : Act→World→Prop} {j : Nat} {oj : Oper} {w : World} (hj : ops[j]? = some oj) (hw0 : I w)
  (hsel : ∀ (k : Nat) (o : Oper) cs b,ops[k]? = some o→o.op≠.select cs b) (hS : ∀ k s,S k = some s→∃ v,s v) (hch : ∀ i k,i < k→S i≠none→S k≠none→anc ops 9 i k = true) :
  ∀ (l : List Nat) (F : Nat→World→Prop) (a : Act),l.Nodup→j∈l →
   (∀ i∈l,i≠j→∃ oi,ops[i]? = some oi∧(i < j→oi.apart ops oj = true)∧anc ops 9 i j = false∧(i < j→anc ops 9 j i = false)) →
   (l.Pairwise (· < ·))→(∀ m,anc ops 9 m j = true→F m w)→LexC I P ops S Q l F a→LexC I P ops S Q (j :: l.filter (· != j)) F a
 | [],_,_,_,hm,_,_,_,_=>by cases hm
 | i :: l,F,a,hnd,hm,hall,hsorted,hF,h=>by
  by_cases hij : i = j
  ·subst hij;have : (i :: l).filter (· != i) = l:=by
    rw [List.filter_cons];simp only [bne_self_eq_false,Bool.false_eq_true,if_false];refine List.filter_eq_self.2 fun x hx=>?_
    have : x≠i:=fun e=>(List.nodup_cons.1 hnd).1 (e ▸ hx)
    simpa using this
   rw [this];exact h
  ·have hjl : j∈l:=by
    rcases List.mem_cons.1 hm with e | e
    ·exact absurd e.symm hij
    ·exact e
   have hlt : i < j:=(List.pairwise_cons.1 hsorted).1 j hjl;obtain ⟨oi,hoi,hap,haij,haji⟩:=hall i (by simp) hij
   have hf : (i :: l).filter (· != j) = i :: l.filter (· != j):=by
    rw [List.filter_cons];have : (i != j) = true:=by simpa using hij
    simp [this]
   rw [hf];refine ClauseC.swap hoi hj hij (hap hlt) (fun cs b=>hsel i oi cs b hoi) (fun cs b=>hsel j oj cs b hj) haij (haji hlt) (hS i) (fun q1 q2 => .inl (hch i j hlt q1 q2)) hw0 hF ?_
   refine ClauseC.mono (fun F' a' hF' hl=>?_) h
   refine LexC.commute hj hw0 hsel hS hch l F' a' (List.nodup_cons.1 hnd).2 hjl (fun k hk=>hall k (by simp [hk])) (List.pairwise_cons.1 hsorted).2 (fun m hma=>?_) hl
   rw [hF' m (fun e=>by subst e; rw [haij] at hma; cases hma)]
   exact hF m hma
theorem wpAny_of_lexC {Q : Act→World→Prop} {Q' : Exit→Act→World→Prop} {l : List Oper} {m : Nat} (hB : laxTB ops T = true) (hTl : T + m = ops.size) (hll : l.length = m) (hops : ∀ j,l[j]? = ops[T + j]?) (hS : ∀ k s,S k = some s→∃ v,s v)
  (hch : ∀ i k,i < k→S i≠none→S k≠none→anc ops 9 i k = true) (hQ : ∀ a w,Q a w→wpList P ops Q' l a w) :
  ∀ (fuel : Nat) (listed : Array Bool) (F : Nat→World→Prop) (a : Act) (w : World),listed.size = ops.size→(∀ i,T≤i→i < ops.size→listed.getD i true = false)→(unlistedT listed T).length = fuel→closed ops listed→I w →
   (∀ i,F i w)→(∀ i w w',Grew w w'→F i w→F i w')→LexC I P ops S Q (unlistedT listed T) F a→wpAny P .any ops Q' (fuel + m) listed a w:=by
 have hsel:=Region.noSelect_spec (ops:=ops) (by simp only [laxTB,Bool.and_eq_true] at hB; exact hB.1.1)
 intro fuel
 induction fuel with
 | zero =>
  intro listed F a w hsz hout hl hc hw hF hFp h;have hnil : unlistedT listed T = []:=List.eq_nil_of_length_eq_zero hl;rw [hnil] at h;rw [Nat.zero_add];refine wpAny_last hB m l T listed a w (Nat.le_refl _) hsz hTl hll hops (fun i hi=>?_) hout (hQ _ _ (h w hw hF))
  cases hg : listed.getD i true with
  | true=>rfl
  | false =>
   have : i∈unlistedT listed T:=List.mem_filter.2 ⟨List.mem_range.2 hi,by simp only [hg,beq_self_eq_true]⟩
   rw [hnil] at this;cases this
 | succ fuel ih =>
  intro listed F a w hsz hout hl hc hw hF hFp h;rw [Nat.add_right_comm];refine ⟨fun hr=>?_,fun j hj=>?_⟩
  ·exfalso
   cases hu : unlistedT listed T with
   | nil=>simp [hu] at hl
   | cons x xs =>
    have hx : x∈unlistedT listed T:=by rw [hu]; simp
    have hx':=List.mem_filter.1 hx;have hxT : x < T:=List.mem_range.1 hx'.1;have hxs : x < ops.size:=by omega
    have ho : ops[x]? = some ops[x]:=Array.getElem?_eq_getElem hxs;have hsorted : (unlistedT listed T).Pairwise (· < ·):=List.Pairwise.filter _ List.pairwise_lt_range;have : x∈Region.ready .any ops listed:=by
     refine mem_ready.2 ⟨by simpa using hx'.2,ops[x],ho,fun e he hb=>?_⟩
     have hed : edge ops e.on x = true:=(edge_of ho).2 ⟨e,he,hb,rfl⟩;have hlt:=laxTB_edge hB ho _ hed
     cases hg : listed.getD e.on true with
     | true=>exact getD_up (by omega) hg
     | false =>
      have hmem : e.on∈unlistedT listed T:=List.mem_filter.2 ⟨List.mem_range.2 (by omega),by simp only [hg,beq_self_eq_true]⟩
      rw [hu] at hmem hsorted
      rcases List.mem_cons.1 hmem with e1 | e1
      ·omega
      ·have:=(List.pairwise_cons.1 hsorted).1 _ e1;omega
    rw [hr] at this;cases this
  ·obtain ⟨h0,oj,hoj,hall⟩:=mem_ready.1 hj;have hjs : j < ops.size:=(Array.getElem?_eq_some_iff.1 hoj).1;have hdir : ∀ k,edge ops k j = true→listed.getD k false = true:=fun k hk=>by
    obtain ⟨e,he,hb,rfl⟩:=(edge_of hoj).1 hk;exact hall e he hb
   have hjT : j < T:=by
    rcases Nat.lt_or_ge j T with h1 | h1
    ·exact h1
    ·exfalso
     cases hu : unlistedT listed T with
     | nil=>simp [hu] at hl
     | cons x xs =>
      have hx : x∈unlistedT listed T:=by rw [hu]; simp
      have hx':=List.mem_filter.1 hx;have hxT : x < T:=List.mem_range.1 hx'.1;have:=anc_listed hc j x j hdir (laxTB_last hB hoj h1 x (by omega))
      rw [getD_flip (by simpa using hx'.2)] at this
      cases this
   have hju : j∈unlistedT listed T:=List.mem_filter.2 ⟨List.mem_range.2 hjT,by simp only [h0,beq_self_eq_true]⟩
   have hnd : (unlistedT listed T).Nodup:=List.Pairwise.filter _ List.nodup_range;have hsorted : (unlistedT listed T).Pairwise (· < ·):=List.Pairwise.filter _ List.pairwise_lt_range;have hcm:=LexC.commute hoj hw hsel hS hch (unlistedT listed T) F a hnd hju (fun i hi hij=>by
    have hi':=List.mem_filter.1 hi;have hun : listed.getD i false = false:=getD_flip (by simpa using hi'.2)
    have his : i < ops.size:=by have:=List.mem_range.1 hi'.1; omega
    have hoi : ops[i]? = some ops[i]:=Array.getElem?_eq_getElem his;refine ⟨ops[i],hoi,fun hlt=>?_,?_,fun hlt=>?_⟩
    ·rcases laxTB_apart hB hoj hjT i hlt with he | ⟨oi,hoi',hap⟩
     ·have:=hdir i he;rw [hun] at this;cases this
     ·rw [hoi] at hoi';cases hoi';exact hap
    ·cases ha : anc ops 9 i j with
     | false=>rfl
     | true =>
      have:=anc_listed hc 9 i j hdir ha;rw [hun] at this;cases this
    ·cases ha : anc ops 9 j i with
     | false=>rfl
     | true =>
      have:=ancT_lt hB 9 j i ha
      omega) hsorted (fun m _=>hF m) h
   have hsz' : (listed.setIfInBounds j true).size = ops.size:=by simp [hsz]
   have hout' : ∀ i,T≤i→i < ops.size→(listed.setIfInBounds j true).getD i true = false:=fun i hi hi'=>by rw [getD_set_ne true (by omega)]; exact hout i hi hi'
   have hlen' : (unlistedT (listed.setIfInBounds j true) T).length = fuel:=by
    rw [unlistedT_set (by omega)]
    have he : (unlistedT listed T).filter (· != j) = (unlistedT listed T).erase j:=by
     rw [List.Nodup.erase_eq_filter hnd]
    rw [he,List.length_erase_of_mem hju];omega
   have hc' : closed ops (listed.setIfInBounds j true):=fun i k hk hik=>by
    by_cases hkj : j = k
    ·subst hkj;exact getD_set_true (hdir i hik)
    ·rw [getD_set_ne false hkj] at hk;exact getD_set_true (hc i k hk hik)
   unfold wpOp;simp only [hoj];simp only [LexC,ClauseC,hoj] at hcm;rw [←unlistedT_set (by omega)] at hcm
   split
   ·rename_i hwant
    simp only [hwant,if_true] at hcm;refine .inl ?_
    cases hs : S j with
    | none =>
     simp only [hs] at hcm;obtain ⟨v,hrun,hk⟩:=hcm;have hr:=hrun w hw (fun m _=>hF m)
     unfold Oper.wp;rw [hr];exact ih _ F _ w hsz' hout' hlen' hc' hw hF hFp hk
    | some s =>
     simp only [hs] at hcm;obtain ⟨p,hp,hd,hk⟩:=hcm;refine (hd w hw (fun m _=>hF m)).wp fun v w' ⟨hi',hstep,hpv,hpost⟩=>?_
     refine ih _ (fset F j (p v)) _ w' hsz' hout' hlen' hc' hi' (fun i=>?_) (fun i u u' hu h1=>?_) (hk v hpv)
     ·unfold fset
      split
      ·exact hpost
      ·exact hFp i w w' hstep (hF i)
     ·unfold fset at h1 ⊢
      split at h1
      ·rename_i e
       rw [if_pos e];exact hp v u u' hu h1
      ·rename_i e
       rw [if_neg e];exact hFp i u u' hu h1
   ·rename_i hwant
    simp only [hwant] at hcm;exact ih _ F _ w hsz' hout' hlen' hc' hw hF hFp hcm
end
section
variable {I : World→Prop} {P : Program} {ops : Array Oper} {S : Nat→Option (Value→Prop)} {Q : Act→World→Prop}
variable (I P ops S Q) in
def wpLaxC : List Oper→Nat→(Nat→World→Prop)→Act→Prop
 | [],_,F,a=>∀ w,I w→(∀ i,F i w)→Q a w
 | o :: rest,k,F,a =>
  if Region.wanted o (yielded ops a.tmps) then
   match S k with
   | none=>∃ v,(∀ w,I w→(∀ m,anc ops 9 m k = true→F m w)→(execOp a.eval o).run P w = .ok (.value v) w)∧wpLaxC rest (k + 1) F (a.put o.dst v)
   | some s=>∃ p : Value→World→Prop,(∀ v w w',Grew w w'→p v w→p v w')∧(∀ w,I w→(∀ m,anc ops 9 m k = true→F m w)→Does P o a w fun v w'=>I w'∧Grew w w'∧s v∧p v w')∧∀ v,s v→wpLaxC rest (k + 1) (fset F k (p v)) (a.put o.dst v)
  else wpLaxC rest (k + 1) F (a.put o.dst undef)
theorem lexC_of_lax : ∀ (l : List Oper) (k : Nat) (F : Nat→World→Prop) (a : Act),(∀ j,l[j]? = ops[k + j]?∨l.length≤j)→wpLaxC I P ops S Q l k F a→LexC I P ops S Q (List.range' k l.length) F a
 | [],_,_,_,_,h=>h
 | o :: l,k,F,a,hl,h=>by
  have h0 : ops[k]? = some o:=by
   rcases hl 0 with e | e
   ·simpa using e.symm
   ·simp at e
  have hnext : ∀ j,l[j]? = ops[k + 1 + j]?∨l.length≤j:=fun j=>by
   rcases hl (j + 1) with e | e
   ·left; rw [List.getElem?_cons_succ] at e; rw [e]; congr 1; omega
   ·right; simpa using e
  simp only [List.length_cons,List.range'_succ,LexC,ClauseC,h0];unfold wpLaxC at h
  split
  ·rename_i hw
   simp only [hw,if_true] at h
   cases hs : S k with
   | none =>
    simp only [hs] at h;obtain ⟨v,h1,h2⟩:=h;exact ⟨v,h1,lexC_of_lax l (k + 1) _ _ hnext h2⟩
   | some s =>
    simp only [hs] at h;obtain ⟨p,hp,hd,hk⟩:=h;exact ⟨p,hp,hd,fun v hv=>lexC_of_lax l (k + 1) _ _ hnext (hk v hv)⟩
  ·rename_i hw
   simp only [hw] at h;exact lexC_of_lax l (k + 1) _ _ hnext h
variable (I P ops S Q) in
structure WLaxC (l : List Oper) (k : Nat) (F : Nat→World→Prop) (a : Act) : Prop where
 out : wpLaxC I P ops S Q l k F a
theorem wp_lax_tailC {id : Nat} {Q : Exit→Act→World→Prop} {a : Act} {w : World} {L l r : List Oper} (T : Nat) (S : List (Nat × (Value→Prop))) (hI : I w.drew) (hm : P.follows .mixedOrders = true) (hB : laxTB L.toArray T = true) (hl : L.take T = l) (hr : L.drop T = r) (hT : T≤L.length)
  (hS : ∀ x∈S,∃ v,x.2 v) (hch : ((S.map (·.1)).all fun i=>(S.map (·.1)).all fun k=>!decide (i < k) || anc L.toArray 9 i k) = true)
  (h : WLaxC I P L.toArray (fun k=>S.lookup k) (fun a w=>wpList P L.toArray Q r a w) l 0 (fun _ _=>True) a) : (Code.region id L.toArray true).wp P Q a w:=by
 have hlook : ∀ (S : List (Nat × (Value→Prop))) k s,S.lookup k = some s→∃ x∈S,x.2 = s∧x.1 = k:=by
  intro S
  induction S with
  | nil=>intro k s h; simp at h
  | cons x S ih =>
   intro k s h;rw [List.lookup_cons] at h
   split at h
   ·rename_i he
    exact ⟨x,by simp,by simpa using h,by simpa using (by simpa using he : k = x.1).symm⟩
   ·obtain ⟨y,hy,he⟩:=ih k s h; exact ⟨y,by simp [hy],he⟩
 have hlT : l.length = T:=by rw [←hl,List.length_take]; omega
 have hrT : r.length = L.length - T:=by rw [←hr,List.length_drop]
 refine wp_region_any hm ?_;have hu : unlistedT (Array.replicate L.toArray.size false) T = List.range T:=by
  unfold unlistedT;refine List.filter_eq_self.2 fun i hi=>?_
  have : i < T:=by simpa using hi
  simp [show i < L.length by omega]
 have h':=lexC_of_lax (ops:=L.toArray) l 0 _ a (fun j=>by
  rcases Nat.lt_or_ge j T with hj | hj
  ·left; rw [←hl,List.getElem?_take_of_lt hj]; simp
  ·right; omega) h.out
 rw [hlT,←List.range_eq_range'] at h';have hfin:=wpAny_of_lexC (I:=I) (P:=P) (S:=fun k=>S.lookup k) (F:=fun _ _=>True) (ops:=L.toArray) (T:=T) (l:=r) (m:=L.length - T) (Q:=fun a w=>wpList P L.toArray Q r a w) (Q':=Q) hB (by simp; omega) hrT (fun j=>by rw [←hr,List.getElem?_drop]; simp) (fun k s hs=>by obtain ⟨x,hx,rfl,_⟩:=hlook S k s hs; exact hS x hx) (fun i k hik hi hk=>by
   obtain ⟨si,hsi⟩:=Option.ne_none_iff_exists'.1 hi;obtain ⟨sk,hsk⟩:=Option.ne_none_iff_exists'.1 hk;obtain ⟨x,hx,_,rfl⟩:=hlook S i si hsi;obtain ⟨y,hy,_,rfl⟩:=hlook S k sk hsk;have h1:=List.all_eq_true.1 (List.all_eq_true.1 hch x.1 (List.mem_map.2 ⟨x,hx,rfl⟩)) y.1 (List.mem_map.2 ⟨y,hy,rfl⟩)
   simpa [hik] using h1) (fun _ _ h=>h)
  T (Array.replicate L.toArray.size false) a w.drew (by simp) (fun i hi hi'=>by simp at hi'; simp [hi']) (by rw [hu]; simp) (fun i j hj _=>by
   exfalso;rw [Array.getD_eq_getD_getElem?,Array.getElem?_replicate] at hj
   split at hj <;> simp at hj)
  hI (fun _=>trivial) (fun _ _ _ _ _=>trivial) (by rw [hu]; exact h')
 have hsz : T + (L.length - T) = L.toArray.size:=by simp; omega
 rw [hsz] at hfin;exact hfin
variable {o : Oper} {rest : List Oper} {k : Nat} {F : Nat→World→Prop} {a : Act}
theorem laxC_quiet (ht : tame o = true) (hw : Region.wanted o (yielded ops a.tmps) = true) (hS : S k = none)
  (h : ∀ K : Act→Prop,(∀ a,WLaxC I P ops S Q rest (k + 1) F a→K a)→o.quiet P a (fun w'=>∃ x : HoldI I,w' = x.world) K) : WLaxC I P ops S Q (o :: rest) k F a:=by
 obtain ⟨v,h1,h2⟩:=h _ fun _ h=>h
 constructor;unfold wpLaxC;rw [if_pos hw];simp only [hS];refine ⟨v,fun w hg _=>?_,h2.out⟩
 have h3:=h1 w ⟨⟨w,hg⟩,rfl⟩;unfold Oper.quietAt at h3;have hne:=fun n w'=>@tame_value P o ht a.eval w w' n
 generalize (execOp a.eval o).run P w = r at *
 cases r with
 | ok n w' =>
  cases n <;> simp only [Oper.quietUpon] at h3
  case value u=>rw [h3.1,h3.2]
  case skip=>obtain ⟨_,he⟩:=hne _ _ rfl; cases he
  case enter f args=>obtain ⟨_,he⟩:=hne _ _ rfl; cases he
 | halt x w'=>simp only [Oper.quietUpon] at h3
theorem laxC_spec {s : Value→Prop} (hw : Region.wanted o (yielded ops a.tmps) = true) (hS : S k = some s) (p : Value→World→Prop) (hp : ∀ v w w',Grew w w'→p v w→p v w')
  (h : ∀ w,I w→(∀ m,anc ops 9 m k = true→F m w)→Does P o a w fun v w'=>I w'∧Grew w w'∧s v∧p v w')
  (hn : ∀ v,s v→WLaxC I P ops S Q rest (k + 1) (fset F k (p v)) (a.put o.dst v)) : WLaxC I P ops S Q (o :: rest) k F a:=by
 constructor;unfold wpLaxC;rw [if_pos hw];simp only [hS];exact ⟨p,hp,h,fun v hv=>(hn v hv).out⟩
theorem laxC_nil (h : ∀ w,I w→(∀ i,F i w)→Q a w) : WLaxC I P ops S Q [] k F a:=⟨h⟩
end
end
end Go.Proofs.YtjleclgecnndjaaGreat
