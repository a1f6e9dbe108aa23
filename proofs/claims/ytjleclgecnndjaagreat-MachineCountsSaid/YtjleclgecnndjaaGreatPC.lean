/- MachineCounts: for every configuration, whatever bytes a machine is made of, every frame and every slot: held once more, or less, than it is, it is found; no condition but what the statement itself says. -/
import Derived.Test.YtjleclgecnndjaaGreatPC6
import Derived.Shelf.Bits.Mul64
import Derived.Deep.Cut
import Derived.Deep.DeepCutAuto
import Derived.Test.YtjleclgecnndjaaGreatRows
import Derived.WalkKit
import Derived.ProofKit
import Derived.OpenShut
import Derived.ShutString
import Derived.ChangeOld
import Derived.Below
import Derived.Carry
import Derived.SizedLaws
import Derived.Deep.Slices
import Derived.Test.YtjleclgecnndjaaGreatChecked
namespace Go.Proofs.YtjleclgecnndjaaGreat
set_option maxRecDepth 100000
set_option maxHeartbeats 4000000
section
open Go.RowKit
def filedTo (fl : List Fl) (i : Nat) (bl : List Int) : List Int:=(allB (fl.take i)) ++ bl
theorem marks_congr {n : Nat} {g h : List Int} (e : ∀ i : Nat,i < n→g.contains (i : Int) = h.contains (i : Int)) : marks n g = marks n h:=by
 unfold marks
 apply List.map_congr_left
 intro i hi;rw [e i (List.mem_range.1 hi)]
theorem filed_skip (fl : List Fl) (i : Nat) (bl : List Int) {b : Int} (hb : b < 0) (n : Nat) : marks n (filedTo fl i (bl ++ [b])) = marks n (filedTo fl i bl):=marks_congr fun j _=>by
 unfold filedTo;have : ¬ (j : Int) = b:=by omega
 simp [this]
theorem filed_put (fl : List Fl) (i : Nat) (bl : List Int) (b : Nat) (n : Nat) : marks n ((b : Int) :: filedTo fl i bl) = marks n (filedTo fl i (bl ++ [(b : Int)])):=marks_congr fun j _=>by
 unfold filedTo;rw [Bool.eq_iff_iff];simp only [List.contains_eq_mem,List.mem_cons,List.mem_append,List.not_mem_nil,or_false,decide_eq_true_eq];constructor
 ·rintro (h | h | h)
  ·exact .inr (.inr h)
  ·exact .inl h
  ·exact .inr (.inl h)
 ·rintro (h | h | h)
  ·exact .inr (.inl h)
  ·exact .inr (.inr h)
  ·exact .inl h
theorem filed_next {fl : List Fl} {i : Nat} {f : Fl} (hf : fl[i]? = some f) : filedTo fl i f.bl = filedTo fl (i + 1) []:=by
 unfold filedTo allB;rw [List.take_add_one,hf];simp
theorem filed_all (fl : List Fl) (b : Int) : (filedTo fl fl.length []).contains b = usedB fl b:=by
 unfold filedTo allB usedB;rw [List.take_length,List.append_nil,Bool.eq_iff_iff];simp
theorem Tryz.sizeGiven : (Tryz.prog.info? 153).map (·.size) = some 80:=by kernel_rfl
theorem marks_one (n : Nat) (g : List Int) : ∀ v∈marks n g,v.oneCell' = true:=fun v hv=>by
 unfold marks at hv;obtain ⟨i,_,rfl⟩:=List.mem_map.1 hv;rfl
theorem marks_len (n : Nat) (g : List Int) : (marks n g).length = n:=by simp [marks]
theorem filedBlocks_any (v : Value) (fl : List Fl) (cnt : Int) (w : World) (hv : FilesAt w v fl) (hst : stW fl cnt = 0) :
  Calls Tryz.prog 81 #[.agg #[v,.int .i64 cnt]] w fun e w'=>e = .returned (.agg (marks 80 (filedTo fl fl.length [])).toArray)∧Grew w w':=by
 have hz:=run_zGiven;obtain ⟨a,c,rfl,hbig,hrow⟩:=hv.rows;have HR : Hid (FlRows w a fl):=hrow;clear hrow hv;have HB : Hid (∀ f∈fl,∀ b∈f.bl,b = -1∨(0≤b∧b < 80)):=show ∀ f∈fl,_ from fun f hf b hb=>by
  obtain ⟨⟨_,_,h80⟩,h2,_⟩:=(stW_zero fl cnt).1 hst
  rcases (h2 f hf).2.2 b hb with h | h
  ·exact .inl h
  ·exact .inr (by omega)
 clear hst;obtain ⟨n,HN⟩ : ∃ n,Hid (fl.length = n):=⟨_,rfl⟩;rw [HN.out] at hbig ⊢;obtain ⟨W0,hW0⟩ : ∃ W0,((w.alloc (.cells #[.slice a n c,.int .i64 cnt] 36)).alloc (.cells zGiven 153)).alloc (.cells zGiven 153) = W0:=⟨_,rfl⟩;have HG0 : Hid (Grew w W0):=show Grew _ _ by rw [←hW0]; exact ((grew_alloc _ _).trans (grew_alloc _ _)).trans (grew_alloc _ _)
 have X0 : Hid (Box W0 w.heap.size [.slice a n c,.int .i64 cnt]):=show Box _ _ _ by rw [←hW0]; exact ((Box.top _ _ _ rfl).alloc _).alloc _
 have Y0 : Hid (Box W0 (w.heap.size + 1) (marks 80 [])):=show Box _ _ _ by rw [←hW0,marks_nil]; exact (Box.top _ (List.replicate 80 (.bool false)) _ (by simp)).alloc _
 have Z0 : Hid (Box W0 (w.heap.size + 1 + 1) (marks 80 (filedTo fl 0 []))):=show Box _ _ _ by
  have : marks 80 (filedTo fl 0 []) = marks 80 []:=marks_congr fun i _=>by simp [filedTo,allB]
  rw [←hW0,this,marks_nil];exact Box.top _ (List.replicate 80 (.bool false)) _ (by simp)
 have HW0 : Hid (_ = W0):=hW0;clear hW0
 go_enter Tryz.func81,Tryz.ntmps81
 go_upto_region 2 with fail;rw [HW0.out];clear hz;have x0:=X0.out.c 0 rfl;go_wp2;clear x0
 go_loopg [5,11] n (fun gg _ s11 wr=>∃ i : Nat,i≤n∧n - i≤gg∧s11 = .int .i64 i∧Hid (Grew w wr)∧Hid (Box wr (w.heap.size + 1) (marks 80 []))∧Hid (Box wr (w.heap.size + 1 + 1) (marks 80 (filedTo fl i []))))
 case atStart=>exact ⟨0,Nat.zero_le _,by omega,rfl,HG0.out,Y0.out,Z0.out⟩
 case round =>
  obtain ⟨i,hi,hgg,rfl,BW,YW,ZW⟩:=hrel;clear X0 Y0 Z0
  by_cases hlt : i < n
  ·have hltz : (i : Int) < (n : Int):=by omega
   obtain ⟨f,HF⟩ : ∃ f,Hid (fl[i]? = some f):=⟨_,List.getElem?_eq_getElem (by rw [HN.out]; exact hlt)⟩
   obtain ⟨ad,rfl,xa,xc,hr2,hl⟩:=HR.out i f HF.out;obtain ⟨d0,d1⟩:=hl wr BW.out;obtain ⟨_,_,heq,hnr⟩:=hr2.nums;have hq:=hr2.short;have HNR : Hid (NumRows w xa f.bl):=show NumRows _ _ _ by
    simp only [Value.slice.injEq] at heq;rw [heq.1];exact hnr
   clear heq hnr hr2 hl;obtain ⟨q,HQ⟩ : ∃ q,Hid (f.bl.length = q):=⟨_,rfl⟩;rw [HQ.out] at d1 hq;go_upto_region 5 with fail;obtain ⟨W1,hW1⟩ : ∃ W1,wr.alloc (.cells #[.int .i64 f.size,.slice xa q xc] 71) = W1:=⟨_,rfl⟩;have HG1 : Hid (Grew w W1):=show Grew _ _ by rw [←hW1]; exact BW.out.trans (grew_alloc _ _)
   have F1 : Hid (Box W1 wr.heap.size [.int .i64 f.size,.slice xa q xc]):=show Box _ _ _ by rw [←hW1]; exact Box.top _ _ _ rfl
   have Y1 : Hid (Box W1 (w.heap.size + 1) (marks 80 [])):=show Box _ _ _ by rw [←hW1]; exact YW.out.alloc _
   have Z1 : Hid (Box W1 (w.heap.size + 1 + 1) (marks 80 (filedTo fl i []))):=show Box _ _ _ by rw [←hW1]; exact ZW.out.alloc _
   rw [hW1];clear hW1 d0 d1;have f1:=F1.out.c 1 rfl;go_wp2;clear f1;have HBW : Hid (Grew w wr):=BW;clear BW YW ZW
   go_loopg [7,18] q (fun gg _ s18 wr=>∃ j : Nat,j≤q∧q - j≤gg∧s18 = .int .i64 j∧Hid (Grew w wr)∧Hid (Box wr (w.heap.size + 1) (marks 80 []))∧Hid (Box wr (w.heap.size + 1 + 1) (marks 80 (filedTo fl i (f.bl.take j)))))
   case atStart=>exact ⟨0,Nat.zero_le _,by omega,rfl,HG1.out,Y1.out,by rw [List.take_zero]; exact Z1.out⟩
   case round =>
    obtain ⟨j,hj,hg2,rfl,BW,YW,ZW⟩:=hrel;clear F1 Y1 Z1
    by_cases hlt2 : j < q
    ·have hltz2 : (j : Int) < (q : Int):=by omega
     obtain ⟨b,HBJ⟩ : ∃ b,Hid (f.bl[j]? = some b):=⟨_,List.getElem?_eq_getElem (by rw [HQ.out]; exact hlt2)⟩
     obtain ⟨ad2,rfl,hl2⟩:=HNR.out j b HBJ.out;have e0:=hl2 wr BW.out;have HRB : Hid (b = -1∨(0≤b∧b < 80)):=HB.out f (List.mem_of_getElem? HF.out) b (List.mem_of_getElem? HBJ.out);have HTS : Hid (f.bl.take (j + 1) = f.bl.take j ++ [b]):=take_snoc HBJ.out;clear hl2
     by_cases hb : 0≤b
     ·obtain ⟨k,rfl⟩ : ∃ k : Nat,b = (k : Int):=⟨b.toNat,by omega⟩
      have hk80 : k < 80:=by have:=HRB.out; omega
      have z0:=ZW.out.c k (marks_at _ hk80);have zf:=ZW.out.f;have Z2 : Hid (Box (wr.setCell ⟨w.heap.size + 1 + 1,k,none⟩ (.bool true)) (w.heap.size + 1 + 1) (marks 80 (filedTo fl i (f.bl.take (j + 1))))):=show Box _ _ _ by
       rw [HTS.out,←filed_put,←marks_set _ hk80];exact ZW.out.set k _
      have Y2 : Hid (Box (wr.setCell ⟨w.heap.size + 1 + 1,k,none⟩ (.bool true)) (w.heap.size + 1) (marks 80 [])):=show Box _ _ _ from YW.out.other (by simp) _
      have G2 : Hid (Grew w (wr.setCell ⟨w.heap.size + 1 + 1,k,none⟩ (.bool true))):=show Grew _ _ from grew_set BW.out (by simp; omega) _
      go_wp2
      go_roundg (q - (j + 1))
      case measure=>omega
      case rel=>exact ⟨j + 1,by omega,by omega,by go_num,G2.out,Y2.out,Z2.out⟩
     ·have Z2 : Hid (Box wr (w.heap.size + 1 + 1) (marks 80 (filedTo fl i (f.bl.take (j + 1))))):=show Box _ _ _ by
       rw [HTS.out,filed_skip _ _ _ (by omega)]
       exact ZW.out
      go_wp2
      go_roundg (q - (j + 1))
      case measure=>omega
      case rel=>exact ⟨j + 1,by omega,by omega,by go_num,BW.out,YW.out,Z2.out⟩
    ·have hltz2 : ¬ (j : Int) < (q : Int):=by omega
     have : j = q:=by omega
     subst this;have Z2 : Hid (Box wr (w.heap.size + 1 + 1) (marks 80 (filedTo fl (i + 1) []))):=show Box _ _ _ by
      have h1:=ZW.out;rw [List.take_of_length_le (by rw [HQ.out]; exact Nat.le_refl _),filed_next HF.out] at h1
      exact h1
     go_wp2
     go_roundg (n - (i + 1))
     case measure=>omega
     case rel=>exact ⟨i + 1,by omega,by omega,by go_num,BW.out,YW.out,Z2.out⟩
  ·have hltz : ¬ (i : Int) < (n : Int):=by omega
   have : i = n:=by omega
   subst this;obtain ⟨ms,HMS⟩ : ∃ ms,Hid (marks 80 (filedTo fl i []) = ms):=⟨_,rfl⟩;have HML : Hid (ms.length = 80):=show _ = _ by rw [←HMS.out]; exact marks_len _ _
   have HMO : Hid (∀ v∈ms,v.oneCell' = true):=show ∀ v∈ms,_ by rw [←HMS.out]; exact marks_one _ _
   rw [HMS.out] at ZW;go_upto_region 12 with fail
   go_wp2_with (first | (refine wp_loadAll rfl 153 (.tmp 3) rfl (w.heap.size + 1 + 1) rfl ZW.out Tryz.underlying153 rfl (by rw [HML.out]; exact Tryz.sizeGiven) ?_) | (refine wp_storeAll rfl 153 (.tmp 2) (.tmp 28) rfl (w.heap.size + 1) rfl ms rfl YW.out (by rw [HML.out,marks_len]) (by rw [marks_len]; exact Tryz.sizeGiven) HMO.out ?_))
   intro W5 hb5 hg5 _;have G5 : Hid (Grew w W5):=show Grew _ _ from grew_grown BW.out hg5 (by omega)
   go_wp2;refine bodyPost_ret (ret_cell rfl _ rfl hb5 Tryz.underlying153 rfl (by rw [HML.out]; exact Tryz.sizeGiven)) rfl ⟨by rw [←HMS.out],G5.out⟩
theorem zero_page (b0 b1 b2 b3 b4 b5 b6 b7 : Int) : pgEqB ⟨b0,b1,b2,b3,b4,b5,b6,b7⟩ ⟨0,0,0,0,0,0,0,0⟩ = ([b0,b1,b2,b3,b4,b5,b6,b7] == zero8):=by
 rw [Bool.eq_iff_iff,pgEqB_iff]
 simp [zero8]
def badBlk (m : Ma) (b : Nat) : Bool:=!usedB m.fl (b : Int) && !(m.db.getD b [] == zero8)
theorem blockE_no {m : Ma} (h : ∀ b,b < m.db.length→badBlk m b = false) : blockE m = 0:=by
 unfold blockE;rw [if_neg];rw [List.any_eq_true];rintro ⟨b,hb,hx⟩;have:=h b (List.mem_range.1 hb);unfold badBlk at this;rw [this] at hx;cases hx
theorem blockE_yes {m : Ma} {b : Nat} (hb : b < m.db.length) (h : badBlk m b = true) : blockE m = 7:=by
 unfold blockE;rw [if_pos];rw [List.any_eq_true];exact ⟨b,List.mem_range.2 hb,h⟩
theorem queueE_no {m : Ma} (h : ∀ (j : Nat) q,m.dq[j]? = some q→usedB m.fl q.1 = true) : queueE m = 0:=by
 unfold queueE;rw [if_neg];rw [List.any_eq_true];rintro ⟨q,hq,hx⟩;obtain ⟨j,hj⟩:=List.getElem?_of_mem hq;rw [h j q hj] at hx;cases hx
theorem queueE_yes {m : Ma} {j : Nat} {q : Int × List Int} (hq : m.dq[j]? = some q) (h : usedB m.fl q.1 = false) : queueE m = 7:=by
 unfold queueE;rw [if_pos];rw [List.any_eq_true];exact ⟨q,List.mem_of_getElem? hq,by rw [h]; rfl⟩
theorem wrongL_fine {n : Nat} {qs : List (Int × List Int)} (h : wrongL n qs = 0) : n≤80∧∀ (j : Nat) q,qs[j]? = some q→0≤q.1∧q.1 < n:=by
 unfold wrongL at h
 split at h
 ·cases h
 ·split at h
  ·cases h
  ·split at h
   ·cases h
   ·rename_i h1 h2 h3
    refine ⟨by omega,fun j q hq=>?_⟩
    have : (!dkInB q.1 n) = false:=by
     cases e : (!dkInB q.1 n) with
     | false=>rfl
     | true=>exact absurd (List.any_eq_true.2 ⟨q,List.mem_of_getElem? hq,e⟩) h3
    simp [dkInB] at this
    exact this
theorem filed_at {m : Ma} {b : Nat} (hb : b < 80) : (marks 80 (filedTo m.fl m.fl.length []))[b]? = some (.bool (usedB m.fl (b : Int))):=by
 rw [marks_at _ hb,filed_all]
theorem wrongDisks_any (V : MaV) (m : Ma) (w : World) (hm : MachAt w V m) (h1 : Right1 m) :
  Calls Tryz.prog 36 #[.agg #[.slice V.f.a V.f.n V.f.c,.int .i64 m.hand,.slice V.s.a V.s.n V.s.c,.slice V.sb.a V.sb.n V.sb.c,.slice V.sq.a V.sq.n V.sq.c,.slice V.db.a V.db.n V.db.c,.slice V.dq.a V.dq.n V.dq.c,.slice V.fl.a V.fl.n V.fl.c,.int .i64 m.cnt,.slice V.ca.a V.ca.n V.ca.c,.slice V.sp.a V.sp.n V.sp.c]] w fun e w'=>e = .returned (.int .i64 (firstE (wDisksL m)))∧Grew w w':=by
 obtain ⟨vf,vs,vsb,vsq,⟨dba,dbn,dbc⟩,⟨dqa,dqn,dqc⟩,vfl,vca,vsp⟩:=V;dsimp only;have hz:=run_zGiven;obtain ⟨-,n2,n3,-,n5,n6,-⟩:=hm.ns;dsimp only at n2 n3 n5 n6;have HFB : Hid (∀ W,Grew w W→Calls Tryz.prog 81 #[.agg #[.slice vfl.a vfl.n vfl.c,.int .i64 m.cnt]] W fun e w'=>e = .returned (.agg (marks 80 (filedTo m.fl m.fl.length [])).toArray)∧Grew W w'):=show ∀ W,_ from fun W hW=>filedBlocks_any _ m.fl m.cnt W (hm.grew hW).fl h1.st
 have HPG : Hid (PageRows w dba m.db):=hm.pgs;have HPU : Hid (PutRows w dqa m.dq):=hm.puts;obtain ⟨h80,hqs⟩:=wrongL_fine h1.dq;have HQS : Hid (∀ (j : Nat) q,m.dq[j]? = some q→0≤q.1∧q.1 < m.db.length):=hqs;have HN5 : Hid (m.db.length = dbn):=n5.symm;have HN6 : Hid (m.dq.length = dqn):=n6.symm;have hb6 : dqn≤9223372036854775807:=by have:=hm.dq.2.2; omega
 rw [HN5.out] at h80;obtain ⟨Z,HZ⟩ : ∃ Z,Hid (firstE (wDisksL m) = Z):=⟨_,rfl⟩;rw [HZ.out];have HZ2 : Hid (firstE [fitE m,blockE m,queueE m] = Z):=HZ.out;have hfit : fitE m = if vs.n≠vsb.n∨m.cnt≠(dbn : Int) then 7 else 0:=by unfold fitE; rw [n2,n3,n5]
 clear hm h1 hqs n2 n3 n5 n6;obtain ⟨W0,hW0⟩ : ∃ W0,w.alloc (.cells #[.slice vf.a vf.n vf.c,.int .i64 m.hand,.slice vs.a vs.n vs.c,.slice vsb.a vsb.n vsb.c,.slice vsq.a vsq.n vsq.c,.slice dba dbn dbc,.slice dqa dqn dqc,.slice vfl.a vfl.n vfl.c,.int .i64 m.cnt,.slice vca.a vca.n vca.c,.slice vsp.a vsp.n vsp.c] 40) = W0:=⟨_,rfl⟩;have HG0 : Hid (Grew w W0):=show Grew _ _ by rw [←hW0]; exact grew_alloc _ _
 have X0 : Hid (Box W0 w.heap.size [.slice vf.a vf.n vf.c,.int .i64 m.hand,.slice vs.a vs.n vs.c,.slice vsb.a vsb.n vsb.c,.slice vsq.a vsq.n vsq.c,.slice dba dbn dbc,.slice dqa dqn dqc,.slice vfl.a vfl.n vfl.c,.int .i64 m.cnt,.slice vca.a vca.n vca.c,.slice vsp.a vsp.n vsp.c]):=show Box _ _ _ by rw [←hW0]; exact Box.top _ _ _ rfl
 have HS0 : Hid (w.heap.size < W0.heap.size):=show _ < _ by rw [←hW0]; simp
 have HW0 : Hid (_ = W0):=hW0;clear hW0
 by_cases c1 : vsb.n = vs.n
 ·by_cases c2 : m.cnt = (dbn : Int)
  ·have HF : Hid (fitE m = 0):=show _ = _ by rw [hfit,if_neg (by omega)]
   have c1e : ((vsb.n : Int) != (vs.n : Int)) = false:=by simp [c1]
   have c2e : ((dbn : Int) != m.cnt) = false:=by simp [c2]
   have c1f : (vsb.n != vs.n) = false:=by simp [c1]
   have HB0 : Hid (∀ b,b < m.db.length→badBlk m b = true→Z = 7):=show ∀ b,_ from fun b hb h=>by rw [←HZ2.out,firstE_cons,if_pos HF.out,firstE_cons,blockE_yes hb h]; rfl
   have HB1 : Hid ((∀ b,b < m.db.length→badBlk m b = false)→∀ (j : Nat) q,m.dq[j]? = some q→usedB m.fl q.1 = false→Z = 7):=show _→_ from fun h j q hq hu=>by rw [←HZ2.out,firstE_cons,if_pos HF.out,firstE_cons,if_pos (blockE_no h),firstE_cons,queueE_yes hq hu]; rfl
   have HB2 : Hid ((∀ b,b < m.db.length→badBlk m b = false)→(∀ (j : Nat) q,m.dq[j]? = some q→usedB m.fl q.1 = true)→Z = 0):=show _→_ from fun h h'=>by rw [←HZ2.out,firstE_cons,if_pos HF.out,firstE_cons,if_pos (blockE_no h),firstE_cons,queueE_no h']; rfl
   have hFB:=HFB.out W0 HG0.out;clear hfit HFB HF HZ HZ2;have HC1 : Hid (vsb.n = vs.n):=c1;have HC2 : Hid (m.cnt = (dbn : Int)):=c2;clear c1 c2
   go_enter Tryz.func36,Tryz.ntmps36
   go_upto_region 1 with fail;rw [HW0.out];have x2:=X0.out.c 2 rfl;have x3:=X0.out.c 3 rfl;have x5:=X0.out.c 5 rfl;have x6:=X0.out.c 6 rfl;have x7:=X0.out.c 7 rfl;have x8:=X0.out.c 8 rfl;go_upto_region 3 with fail;go_wp2_with fail;refine hFB.mono ?_;clear hFB x2 x3 x5 x6 x7 x8;rintro e W1 ⟨rfl,hg1⟩;have HG1 : Hid (Grew w W1):=HG0.out.trans hg1;have X1 : Hid (Box W1 w.heap.size [.slice vf.a vf.n vf.c,.int .i64 m.hand,.slice vs.a vs.n vs.c,.slice vsb.a vsb.n vsb.c,.slice vsq.a vsq.n vsq.c,.slice dba dbn dbc,.slice dqa dqn dqc,.slice vfl.a vfl.n vfl.c,.int .i64 m.cnt,.slice vca.a vca.n vca.c,.slice vsp.a vsp.n vsp.c]):=X0.out.grew hg1;clear hg1;obtain ⟨ms,HMS⟩ : ∃ ms,Hid (marks 80 (filedTo m.fl m.fl.length []) = ms):=⟨_,rfl⟩;have HML : Hid (ms.length = 80):=show _ = _ by rw [←HMS.out]; exact marks_len _ _
   have HMO : Hid (∀ v∈ms,v.oneCell' = true):=show ∀ v∈ms,_ by rw [←HMS.out]; exact marks_one _ _
   have HMA : Hid (∀ b : Nat,b < 80→ms[b]? = some (.bool (usedB m.fl (b : Int)))):=show ∀ b : Nat,_ from fun b hb=>by rw [←HMS.out]; exact filed_at hb
   rw [HMS.out];obtain ⟨W2,hW2⟩ : ∃ W2,W1.alloc (.cells zGiven 153) = W2:=⟨_,rfl⟩;have HG2 : Hid (Grew w W2):=show Grew _ _ by rw [←hW2]; exact HG1.out.trans (grew_alloc _ _)
   have X2 : Hid (Box W2 w.heap.size [.slice vf.a vf.n vf.c,.int .i64 m.hand,.slice vs.a vs.n vs.c,.slice vsb.a vsb.n vsb.c,.slice vsq.a vsq.n vsq.c,.slice dba dbn dbc,.slice dqa dqn dqc,.slice vfl.a vfl.n vfl.c,.int .i64 m.cnt,.slice vca.a vca.n vca.c,.slice vsp.a vsp.n vsp.c]):=show Box _ _ _ by rw [←hW2]; exact X1.out.alloc _
   have Z2 : Hid (Box W2 W1.heap.size (List.replicate 80 (.bool false))):=show Box _ _ _ by rw [←hW2]; exact Box.top _ (List.replicate 80 (.bool false)) _ rfl
   have HW2 : Hid (_ = W2):=hW2;clear hW2;have HLT : Hid (w.heap.size≤W1.heap.size):=show _≤_ from Below.size HG1.out
   have HXL : Hid (w.heap.size < W1.heap.size):=show _ < _ from X1.out.lt
   go_wp2_with (first | (rw [HW2.out]; refine wp_storeAll rfl 153 (.tmp 3) (.tmp 28) rfl W1.heap.size rfl ms rfl Z2.out (by rw [HML.out]; simp) (by simpa using Tryz.sizeGiven) HMO.out ?_))
   intro W3 hb3 hg3 _;have HG3 : Hid (Grew w W3):=show Grew _ _ from grew_grown HG2.out hg3 HLT.out
   have X3 : Hid (Box W3 w.heap.size [.slice vf.a vf.n vf.c,.int .i64 m.hand,.slice vs.a vs.n vs.c,.slice vsb.a vsb.n vsb.c,.slice vsq.a vsq.n vsq.c,.slice dba dbn dbc,.slice dqa dqn dqc,.slice vfl.a vfl.n vfl.c,.int .i64 m.cnt,.slice vca.a vca.n vca.c,.slice vsp.a vsp.n vsp.c]):=X2.out.grown hg3 (by have:=HXL.out; omega)
   have Z3 : Hid (Box W3 W1.heap.size ms):=hb3;obtain ⟨p3,HP3⟩ : ∃ p3,Hid (W1.heap.size = p3):=⟨_,rfl⟩;rw [HP3.out] at Z3 ⊢;clear hb3 hg3 Z2 X2 HG2 HW2 HXL HLT hz;have x5:=X3.out.c 5 rfl;go_wp2;clear x5;obtain ⟨n,HN⟩ : ∃ n,Hid (dbn = n):=⟨_,rfl⟩;rw [HN.out] at h80 ⊢
   go_loopg [33] n (fun gg s33 wr=>∃ kk : Nat,kk≤n∧n - kk≤gg∧s33 = .int .i64 kk∧Hid (Grew w wr)∧Hid (Box wr w.heap.size [.slice vf.a vf.n vf.c,.int .i64 m.hand,.slice vs.a vs.n vs.c,.slice vsb.a vsb.n vsb.c,.slice vsq.a vsq.n vsq.c,.slice dba dbn dbc,.slice dqa dqn dqc,.slice vfl.a vfl.n vfl.c,.int .i64 m.cnt,.slice vca.a vca.n vca.c,.slice vsp.a vsp.n vsp.c])∧Hid (Box wr p3 ms)∧Hid (∀ b,b < kk→badBlk m b = false))
   case atStart=>exact ⟨0,Nat.zero_le _,by omega,rfl,HG3.out,X3.out,Z3.out,fun b hb=>absurd hb (Nat.not_lt_zero _)⟩
   case round =>
    obtain ⟨kk,hkk,hgg,rfl,BW,XW,ZW,OW⟩:=hrel;clear X3 Z3 HG3
    by_cases hlt : kk < n
    ·have hltz : (kk : Int) < (n : Int):=by omega
     have hk80 : kk < 80:=by omega
     have HKL : Hid (kk < m.db.length):=show _ < _ by rw [HN5.out,HN.out]; exact hlt
     obtain ⟨p,HP⟩ : ∃ p,Hid (m.db[kk]? = some p):=⟨_,List.getElem?_eq_getElem HKL.out⟩;obtain ⟨ad,b0,b1,b2,b3,b4,b5,b6,b7,rfl,rfl,hl⟩:=HPG.out kk p HP.out;have HBD : Hid (badBlk m kk = (!usedB m.fl (kk : Int) && !([b0,b1,b2,b3,b4,b5,b6,b7] == zero8))):=show _ = _ by unfold badBlk; rw [List.getD_eq_getElem?_getD,HP.out]; rfl
     obtain ⟨d0,d1,d2,d3,d4,d5,d6,d7⟩:=hl wr BW.out;have hqp:=fun W=>page_eq_at 9998 b0 b1 b2 b3 b4 b5 b6 b7 0 0 0 0 0 0 0 0 W
     simp only [zero_page] at hqp;obtain ⟨U,HU⟩ : ∃ U,Hid (usedB m.fl (kk : Int) = U):=⟨_,rfl⟩;have hmu:=HMA.out kk hk80;rw [HU.out] at hmu;rw [HU.out] at HBD;obtain ⟨PZ,HPZ⟩ : ∃ PZ,Hid (([b0,b1,b2,b3,b4,b5,b6,b7] == zero8) = PZ):=⟨_,rfl⟩;rw [HPZ.out] at hqp HBD;clear hl;go_upto_region 7 with fail;obtain ⟨W4,hW4⟩ : ∃ W4,wr.alloc (.cells #[.int .u8 b0,.int .u8 b1,.int .u8 b2,.int .u8 b3,.int .u8 b4,.int .u8 b5,.int .u8 b6,.int .u8 b7] 50) = W4:=⟨_,rfl⟩;have HG4 : Hid (Grew w W4):=show Grew _ _ by rw [←hW4]; exact BW.out.trans (grew_alloc _ _)
     have X4 : Hid (Box W4 w.heap.size [.slice vf.a vf.n vf.c,.int .i64 m.hand,.slice vs.a vs.n vs.c,.slice vsb.a vsb.n vsb.c,.slice vsq.a vsq.n vsq.c,.slice (some ad) dbn dbc,.slice dqa dqn dqc,.slice vfl.a vfl.n vfl.c,.int .i64 m.cnt,.slice vca.a vca.n vca.c,.slice vsp.a vsp.n vsp.c]):=show Box _ _ _ by rw [←hW4]; exact XW.out.alloc _
     have Z4 : Hid (Box W4 p3 ms):=show Box _ _ _ by rw [←hW4]; exact ZW.out.alloc _
     have P4 : Hid (Box W4 wr.heap.size [.int .u8 b0,.int .u8 b1,.int .u8 b2,.int .u8 b3,.int .u8 b4,.int .u8 b5,.int .u8 b6,.int .u8 b7]):=show Box _ _ _ by rw [←hW4]; exact Box.top _ _ _ rfl
     rw [hW4];clear hW4 d0 d1 d2 d3 d4 d5 d6 d7;have z0:=Z4.out.c kk hmu;have p0:=P4.out.c 0 rfl;have p1:=P4.out.c 1 rfl;have p2:=P4.out.c 2 rfl;have p3:=P4.out.c 3 rfl;have p4:=P4.out.c 4 rfl;have p5:=P4.out.c 5 rfl;have p6:=P4.out.c 6 rfl;have p7:=P4.out.c 7 rfl;clear hmu
     cases U with
     | true =>
      have HB : Hid (badBlk m kk = false):=show _ = _ by rw [HBD.out]; rfl
      have OW' : Hid (∀ b,b < kk + 1→badBlk m b = false):=show ∀ b,_ from fun b hb=>by
       by_cases e : b = kk
       ·rw [e]; exact HB.out
       ·exact OW.out b (by omega)
      clear p0 p1 p2 p3 p4 p5 p6 p7 hqp;go_wp2
      go_roundg (n - (kk + 1))
      case measure=>omega
      case rel=>exact ⟨kk + 1,by omega,by omega,by go_num,HG4.out,X4.out,Z4.out,OW'.out⟩
     | false =>
      cases PZ with
      | true =>
       have HB : Hid (badBlk m kk = false):=show _ = _ by rw [HBD.out]; rfl
       have OW' : Hid (∀ b,b < kk + 1→badBlk m b = false):=show ∀ b,_ from fun b hb=>by
        by_cases e : b = kk
        ·rw [e]; exact HB.out
        ·exact OW.out b (by omega)
       go_wp2
       go_roundg (n - (kk + 1))
       case measure=>omega
       case rel=>exact ⟨kk + 1,by omega,by omega,by go_num,HG4.out,X4.out,Z4.out,OW'.out⟩
      | false =>
       have HE : Hid (Z = 7):=HB0.out kk HKL.out (by rw [HBD.out]; rfl)
       go_wp2;go_ret;exact ⟨by rw [HE.out]; rfl,HG4.out⟩
    ·have hltz : ¬ (kk : Int) < (n : Int):=by omega
     have : kk = n:=by omega
     subst this;have OA : Hid (∀ b,b < m.db.length→badBlk m b = false):=show ∀ b,_ from fun b hb=>OW.out b (by rw [←HN.out,←HN5.out]; exact hb)
     have x6:=XW.out.c 6 rfl;go_wp2;clear x6;obtain ⟨n2,HN2⟩ : ∃ n2,Hid (dqn = n2):=⟨_,rfl⟩;rw [HN2.out] at hb6 ⊢;have HBW : Hid (Grew w wr):=BW;have HZW : Hid (Box wr p3 ms):=ZW;clear BW XW ZW OW
     go_loopg [52] n2 (fun gg s52 wr=>∃ j : Nat,j≤n2∧n2 - j≤gg∧s52 = .int .i64 j∧Hid (Grew w wr)∧Hid (Box wr p3 ms)∧Hid (∀ (i : Nat) q,i < j→m.dq[i]? = some q→usedB m.fl q.1 = true))
     case atStart=>exact ⟨0,Nat.zero_le _,by omega,rfl,HBW.out,HZW.out,fun i q hi=>absurd hi (Nat.not_lt_zero _)⟩
     case round =>
      obtain ⟨j,hj,hg2,rfl,BW,ZW,OW⟩:=hrel;clear HBW HZW
      by_cases hlt2 : j < n2
      ·have hltz2 : (j : Int) < (n2 : Int):=by omega
       obtain ⟨q,HQ⟩ : ∃ q,Hid (m.dq[j]? = some q):=⟨_,List.getElem?_eq_getElem (by rw [HN6.out,HN2.out]; exact hlt2)⟩
       obtain ⟨ad,mm,b0,b1,b2,b3,b4,b5,b6,b7,rfl,rfl,hl⟩:=HPU.out j q HQ.out;obtain ⟨r0,r1⟩:=HQS.out j _ HQ.out;simp only at r0 r1;obtain ⟨b,rfl⟩ : ∃ b : Nat,mm = (b : Int):=⟨mm.toNat,by omega⟩
       have hk80 : b < 80:=by rw [HN5.out,HN.out] at r1; omega
       obtain ⟨d0,d1,d2,d3,d4,d5,d6,d7,d8⟩:=hl wr BW.out;obtain ⟨U,HU⟩ : ∃ U,Hid (usedB m.fl (b : Int) = U):=⟨_,rfl⟩;have hmu:=HMA.out b hk80;rw [HU.out] at hmu;clear hl r0 r1;go_upto_region 13 with fail;obtain ⟨W4,hW4⟩ : ∃ W4,wr.alloc (.cells #[.int .i64 (b : Int),.int .u8 b0,.int .u8 b1,.int .u8 b2,.int .u8 b3,.int .u8 b4,.int .u8 b5,.int .u8 b6,.int .u8 b7] 95) = W4:=⟨_,rfl⟩;have HG4 : Hid (Grew w W4):=show Grew _ _ by rw [←hW4]; exact BW.out.trans (grew_alloc _ _)
       have Z4 : Hid (Box W4 p3 ms):=show Box _ _ _ by rw [←hW4]; exact ZW.out.alloc _
       have P4 : Hid (Box W4 wr.heap.size [.int .i64 (b : Int),.int .u8 b0,.int .u8 b1,.int .u8 b2,.int .u8 b3,.int .u8 b4,.int .u8 b5,.int .u8 b6,.int .u8 b7]):=show Box _ _ _ by rw [←hW4]; exact Box.top _ _ _ rfl
       rw [hW4];clear hW4 d0 d1 d2 d3 d4 d5 d6 d7 d8;have z0:=Z4.out.c b hmu;have p0:=P4.out.c 0 rfl;clear hmu
       cases U with
       | true =>
        have OW' : Hid (∀ (i : Nat) q,i < j + 1→m.dq[i]? = some q→usedB m.fl q.1 = true):=show ∀ (i : Nat) q,_ from fun i q hi hq=>by
         by_cases e : i = j
         ·subst e;rw [HQ.out] at hq;cases hq;exact HU.out
         ·exact OW.out i q (by omega) hq
        go_wp2
        go_roundg (n2 - (j + 1))
        case measure=>omega
        case rel=>exact ⟨j + 1,by omega,by omega,by go_num,HG4.out,Z4.out,OW'.out⟩
       | false =>
        have HE : Hid (Z = 7):=HB1.out OA.out j _ HQ.out HU.out;go_wp2;go_ret;exact ⟨by rw [HE.out]; rfl,HG4.out⟩
      ·have hltz2 : ¬ (j : Int) < (n2 : Int):=by omega
       have : j = n2:=by omega
       subst this;have HE : Hid (Z = 0):=HB2.out OA.out fun i q hq=>OW.out i q (by rw [←HN2.out,←HN6.out]; exact (List.getElem?_eq_some_iff.1 hq).1) hq
       go_wp2;go_ret;exact ⟨by rw [HE.out]; rfl,BW.out⟩
  ·have HE : Hid (Z = 7):=show _ = _ by
    have hf7 : fitE m = 7:=by rw [hfit,if_pos (.inr c2)]
    rw [←HZ2.out,firstE_cons,hf7];rfl
   have c1e : ((vsb.n : Int) != (vs.n : Int)) = false:=by simp [c1]
   have c1f : (vsb.n != vs.n) = false:=by simp [c1]
   have c2e : ((dbn : Int) != m.cnt) = true:=by simp; omega
   clear c1 c2 hfit
   go_enter Tryz.func36,Tryz.ntmps36
   go_upto_region 1 with fail;rw [HW0.out];have x2:=X0.out.c 2 rfl;have x3:=X0.out.c 3 rfl;have x5:=X0.out.c 5 rfl;have x8:=X0.out.c 8 rfl;go_wp2;go_ret;exact ⟨by rw [HE.out]; rfl,HG0.out⟩
 ·have HE : Hid (Z = 7):=show _ = _ by
   have hf7 : fitE m = 7:=by rw [hfit,if_pos (.inl (fun e=>c1 e.symm))]
   rw [←HZ2.out,firstE_cons,hf7];rfl
  have c1e : ((vsb.n : Int) != (vs.n : Int)) = true:=by simp; omega
  have c1f : (vsb.n != vs.n) = true:=by simp [c1]
  clear c1 hfit
  go_enter Tryz.func36,Tryz.ntmps36
  go_upto_region 1 with fail;rw [HW0.out];have x2:=X0.out.c 2 rfl;have x3:=X0.out.c 3 rfl;go_wp2;go_ret;exact ⟨by rw [HE.out]; rfl,HG0.out⟩
theorem frE_prog {m : Ma} (hca : caGo m none m.ca = 0) (k : Nat) : frE m k = if (frAt m k).r≠heldTo m m.sp.length [] sp00 (1,(k : Int))∨(0≤(frAt m k).f∧¬ idxG m.ca ((frAt m k).f,(frAt m k).x) = some (k : Int)) then 7 else 0:=by
 unfold frE;rw [held_all m sp00 (k : Int) (by decide : (1 : Int)≠0),if_pos rfl]
 have:=has_cached hca k
 by_cases h : cachedN m.ca k = 0
 ·have h2 : ¬ idxG m.ca ((frAt m k).f,(frAt m k).x) = some (k : Int):=fun e=>(this.1 e) h
  simp only [h,h2,not_false_iff,and_true]
 ·have h2 : idxG m.ca ((frAt m k).f,(frAt m k).x) = some (k : Int):=this.2 h;simp only [h,h2,not_true,and_false]
theorem sloE_prog (m : Ma) (k : Nat) : sloE m k = if m.sl.getD k 0≠heldTo m m.sp.length [] sp00 (2,(k : Int)) then 7 else 0:=by
 unfold sloE;have h:=held_all m sp00 (k : Int) (by decide : (2 : Int)≠0)
 have h2 : ¬ (2 : Int) = 1:=by decide
 rw [if_neg h2,Nat.add_zero] at h;rw [h]
theorem wrongCounts_any (V : MaV) (m : Ma) (w : World) (hm : MachAt w V m) (hca : caGo m none m.ca = 0) (hsp4 : m.sp.length≤4) (htb : ∀ s∈m.sp,tbW s.tb = 0) :
  Calls Tryz.prog 40 #[.agg #[.slice V.f.a V.f.n V.f.c,.int .i64 m.hand,.slice V.s.a V.s.n V.s.c,.slice V.sb.a V.sb.n V.sb.c,.slice V.sq.a V.sq.n V.sq.c,.slice V.db.a V.db.n V.db.c,.slice V.dq.a V.dq.n V.dq.c,.slice V.fl.a V.fl.n V.fl.c,.int .i64 m.cnt,.slice V.ca.a V.ca.n V.ca.c,.slice V.sp.a V.sp.n V.sp.c]] w fun e w'=>e = .returned (.int .i64 (wCounts m))∧Grew w w':=by
 have HWI : Hid (∀ W,Grew w W→Calls Tryz.prog 57 #[.agg #[.slice V.f.a V.f.n V.f.c,.int .i64 m.hand,.slice V.s.a V.s.n V.s.c,.slice V.sb.a V.sb.n V.sb.c,.slice V.sq.a V.sq.n V.sq.c,.slice V.db.a V.db.n V.db.c,.slice V.dq.a V.dq.n V.dq.c,.slice V.fl.a V.fl.n V.fl.c,.int .i64 m.cnt,.slice V.ca.a V.ca.n V.ca.c,.slice V.sp.a V.sp.n V.sp.c]] W fun e w'=>∃ B,e = .returned (.agg #[.slice V.f.a V.f.n V.f.c,.int .i64 m.hand,.slice V.s.a V.s.n V.s.c,.slice V.sb.a V.sb.n V.sb.c,.slice V.sq.a V.sq.n V.sq.c,.slice V.db.a V.db.n V.db.c,.slice V.dq.a V.dq.n V.dq.c,.slice V.fl.a V.fl.n V.fl.c,.int .i64 m.cnt,.slice V.ca.a V.ca.n V.ca.c,.slice V.sp.a V.sp.n V.sp.c,.map (some B)])∧MapF plK w' B (idxG m.ca)∧Grew W w'):=show ∀ W,_ from fun W hW=>withIndex_any V m W (hm.grew hW)
 have HHO : Hid (∀ W,Grew w W→Calls Tryz.prog 87 #[.agg #[.slice V.f.a V.f.n V.f.c,.int .i64 m.hand,.slice V.s.a V.s.n V.s.c,.slice V.sb.a V.sb.n V.sb.c,.slice V.sq.a V.sq.n V.sq.c,.slice V.db.a V.db.n V.db.c,.slice V.dq.a V.dq.n V.dq.c,.slice V.fl.a V.fl.n V.fl.c,.int .i64 m.cnt,.slice V.ca.a V.ca.n V.ca.c,.slice V.sp.a V.sp.n V.sp.c]] W fun e w'=>∃ B,e = .returned (.map (some B))∧MapH enK w' B (heldTo m m.sp.length [] sp00)∧Grew W w'):=show ∀ W,_ from fun W hW=>holders_any V m W (hm.grew hW) hsp4 htb
 have HHC : Hid (∀ (B k : Nat) W,Grew w W→k < m.fs.length→MapF plK W B (idxG m.ca)→Calls Tryz.prog 88 #[.agg #[.slice V.f.a V.f.n V.f.c,.int .i64 m.hand,.slice V.s.a V.s.n V.s.c,.slice V.sb.a V.sb.n V.sb.c,.slice V.sq.a V.sq.n V.sq.c,.slice V.db.a V.db.n V.db.c,.slice V.dq.a V.dq.n V.dq.c,.slice V.fl.a V.fl.n V.fl.c,.int .i64 m.cnt,.slice V.ca.a V.ca.n V.ca.c,.slice V.sp.a V.sp.n V.sp.c,.map (some B)],.int .i64 (k : Int)] W fun e w'=>e = .returned (.bool (decide (idxG m.ca ((frAt m k).f,(frAt m k).x) = some (k : Int))))∧Grew W w'):=show ∀ (B k : Nat) W,_ from fun B k W hW hk hM=>hasCached_any V m B k (idxG m.ca) W (hm.grew hW) hk hM
 obtain ⟨⟨fa,fn,fc⟩,⟨sa,sn,sc⟩,vsb,vsq,vdb,vdq,vfl,vca,vsp⟩:=V;dsimp only at HWI HHO HHC ⊢;obtain ⟨n1,n2,-⟩:=hm.ns;dsimp only at n1 n2;have HFR : Hid (FrRows w fa m.fs):=hm.frs;have HSL : Hid (SlRows w sa m.sl):=hm.sls;have HN1 : Hid (m.fs.length = fn):=n1.symm;have HN2 : Hid (m.sl.length = sn):=n2.symm;have hb1 : fn≤9223372036854775807:=by have:=hm.fs.short; omega
 have hb2 : sn≤9223372036854775807:=by have:=hm.sl.short; omega
 have HFE : Hid (∀ k : Nat,frE m k = if (frAt m k).r≠(heldTo m m.sp.length [] sp00) (1,(k : Int))∨(0≤(frAt m k).f∧¬ idxG m.ca ((frAt m k).f,(frAt m k).x) = some (k : Int)) then 7 else 0):=show ∀ k : Nat,_ from fun k=>frE_prog hca k
 clear hm hca hsp4 htb n1 n2;obtain ⟨Z,HZ⟩ : ∃ Z,Hid (wCounts m = Z):=⟨_,rfl⟩;rw [HZ.out];have HZ1 : Hid (∀ k : Nat,k < m.fs.length→(∀ j : Nat,j < k→frE m j = 0)→frE m k = 7→Z = 7):=show ∀ k : Nat,_ from fun k hk h1 h2=>by
  have h3:=firstE_range hk h1 (by rw [h2]; decide)
  rw [←HZ.out];unfold wCounts;rw [h3,h2,if_neg (by decide)]
 have HZ2 : Hid ((∀ j : Nat,j < m.fs.length→frE m j = 0)→∀ k : Nat,k < m.sl.length→(∀ j : Nat,j < k→sloE m j = 0)→sloE m k = 7→Z = 7):=show _→_ from fun h0 k hk h1 h2=>by
  have h3:=firstE_range hk h1 (by rw [h2]; decide)
  rw [←HZ.out];unfold wCounts;rw [firstE_range_all h0,if_pos rfl,h3,h2]
 have HZ3 : Hid ((∀ j : Nat,j < m.fs.length→frE m j = 0)→(∀ j : Nat,j < m.sl.length→sloE m j = 0)→Z = 0):=show _→_ from fun h0 h1=>by
  rw [←HZ.out];unfold wCounts;rw [firstE_range_all h0,if_pos rfl,firstE_range_all h1]
 clear HZ;obtain ⟨W0,hW0⟩ : ∃ W0,w.alloc (.cells #[.slice fa fn fc,.int .i64 m.hand,.slice sa sn sc,.slice vsb.a vsb.n vsb.c,.slice vsq.a vsq.n vsq.c,.slice vdb.a vdb.n vdb.c,.slice vdq.a vdq.n vdq.c,.slice vfl.a vfl.n vfl.c,.int .i64 m.cnt,.slice vca.a vca.n vca.c,.slice vsp.a vsp.n vsp.c] 40) = W0:=⟨_,rfl⟩;have HG0 : Hid (Grew w W0):=show Grew _ _ by rw [←hW0]; exact grew_alloc _ _
 have X0 : Hid (Box W0 w.heap.size [.slice fa fn fc,.int .i64 m.hand,.slice sa sn sc,.slice vsb.a vsb.n vsb.c,.slice vsq.a vsq.n vsq.c,.slice vdb.a vdb.n vdb.c,.slice vdq.a vdq.n vdq.c,.slice vfl.a vfl.n vfl.c,.int .i64 m.cnt,.slice vca.a vca.n vca.c,.slice vsp.a vsp.n vsp.c]):=show Box _ _ _ by rw [←hW0]; exact Box.top _ _ _ rfl
 have HW0 : Hid (_ = W0):=hW0;clear hW0
 go_enter Tryz.func40,Tryz.ntmps40
 go_upto_region 1 with fail;rw [HW0.out];have hx0 : ∀ y : GrownW W0,y.world.cell? ⟨w.heap.size,0,none⟩ = some (.slice fa fn fc):=fun y=>(X0.out.grew y.grew).c 0 rfl
 have hx1 : ∀ y : GrownW W0,y.world.cell? ⟨w.heap.size,1,none⟩ = some (.int .i64 m.hand):=fun y=>(X0.out.grew y.grew).c 1 rfl
 have hx2 : ∀ y : GrownW W0,y.world.cell? ⟨w.heap.size,2,none⟩ = some (.slice sa sn sc):=fun y=>(X0.out.grew y.grew).c 2 rfl
 have hx3 : ∀ y : GrownW W0,y.world.cell? ⟨w.heap.size,3,none⟩ = some (.slice vsb.a vsb.n vsb.c):=fun y=>(X0.out.grew y.grew).c 3 rfl
 have hx4 : ∀ y : GrownW W0,y.world.cell? ⟨w.heap.size,4,none⟩ = some (.slice vsq.a vsq.n vsq.c):=fun y=>(X0.out.grew y.grew).c 4 rfl
 have hx5 : ∀ y : GrownW W0,y.world.cell? ⟨w.heap.size,5,none⟩ = some (.slice vdb.a vdb.n vdb.c):=fun y=>(X0.out.grew y.grew).c 5 rfl
 have hx6 : ∀ y : GrownW W0,y.world.cell? ⟨w.heap.size,6,none⟩ = some (.slice vdq.a vdq.n vdq.c):=fun y=>(X0.out.grew y.grew).c 6 rfl
 have hx7 : ∀ y : GrownW W0,y.world.cell? ⟨w.heap.size,7,none⟩ = some (.slice vfl.a vfl.n vfl.c):=fun y=>(X0.out.grew y.grew).c 7 rfl
 have hx8 : ∀ y : GrownW W0,y.world.cell? ⟨w.heap.size,8,none⟩ = some (.int .i64 m.cnt):=fun y=>(X0.out.grew y.grew).c 8 rfl
 have hx9 : ∀ y : GrownW W0,y.world.cell? ⟨w.heap.size,9,none⟩ = some (.slice vca.a vca.n vca.c):=fun y=>(X0.out.grew y.grew).c 9 rfl
 have hx10 : ∀ y : GrownW W0,y.world.cell? ⟨w.heap.size,10,none⟩ = some (.slice vsp.a vsp.n vsp.c):=fun y=>(X0.out.grew y.grew).c 10 rfl
 have hne : Nonempty (GrownW W0):=⟨⟨_,Grew.refl _⟩⟩;refine wp_lax_tail 5 [(1,⟨fun v=>∃ B,v = .agg #[.slice fa fn fc,.int .i64 m.hand,.slice sa sn sc,.slice vsb.a vsb.n vsb.c,.slice vsq.a vsq.n vsq.c,.slice vdb.a vdb.n vdb.c,.slice vdq.a vdq.n vdq.c,.slice vfl.a vfl.n vfl.c,.int .i64 m.cnt,.slice vca.a vca.n vca.c,.slice vsp.a vsp.n vsp.c,.map (some B)],fun v w'=>∃ B,v = .agg #[.slice fa fn fc,.int .i64 m.hand,.slice sa sn sc,.slice vsb.a vsb.n vsb.c,.slice vsq.a vsq.n vsq.c,.slice vdb.a vdb.n vdb.c,.slice vdq.a vdq.n vdq.c,.slice vfl.a vfl.n vfl.c,.int .i64 m.cnt,.slice vca.a vca.n vca.c,.slice vsp.a vsp.n vsp.c,.map (some B)]∧MapF plK w' B (idxG m.ca)⟩),(3,⟨fun v=>∃ B,v = .map (some B),fun v w'=>∃ B,v = .map (some B)∧MapH enK w' B (heldTo m m.sp.length [] sp00)⟩),(4,⟨fun v=>∃ p,v = .pointer (some ⟨p,0,none⟩),fun v w'=>∃ p,v = .pointer (some ⟨p,0,none⟩)∧Box w' p [.slice none 0 0,.int .i64 0,.slice none 0 0,.slice none 0 0,.slice none 0 0,.slice none 0 0,.slice none 0 0,.slice none 0 0,.int .i64 0,.slice none 0 0,.slice none 0 0,.map none]∧w.heap.size≤p⟩)] mixed (by kernel_rfl) rfl rfl (by decide) ?hS ?hp ?_
 case hS =>
  intro x hx;simp only [List.mem_cons,List.not_mem_nil,or_false] at hx
  rcases hx with rfl | rfl | rfl
  ·exact ⟨_,0,rfl⟩
  ·exact ⟨_,0,rfl⟩
  ·exact ⟨_,0,rfl⟩
 case hp =>
  intro x hx;simp only [List.mem_cons,List.not_mem_nil,or_false] at hx
  rcases hx with rfl | rfl | rfl
  ·exact fun _ _ _ hg h=>by obtain ⟨B,h1,h2⟩:=h; exact ⟨B,h1,h2.grew hg⟩
  ·exact fun _ _ _ hg h=>by obtain ⟨B,h1,h2⟩:=h; exact ⟨B,h1,h2.grew hg⟩
  ·exact fun _ _ _ hg h=>by obtain ⟨p,h1,h2,h3⟩:=h; exact ⟨p,h1,h2.grew hg,h3⟩
 simp only [List.take,List.drop];iterate 1 (refine lax_quiet rfl rfl rfl (fun K hK=>?_); go_big_quiet_op; refine hK _ ?_; clear hK K)
 refine lax_spec rfl rfl (fun w' hg hF=>?_) (fun v1 hv=>?_)
 ·refine Does.call [.agg #[.slice fa fn fc,.int .i64 m.hand,.slice sa sn sc,.slice vsb.a vsb.n vsb.c,.slice vsq.a vsq.n vsq.c,.slice vdb.a vdb.n vdb.c,.slice vdq.a vdq.n vdq.c,.slice vfl.a vfl.n vfl.c,.int .i64 m.cnt,.slice vca.a vca.n vca.c,.slice vsp.a vsp.n vsp.c]] rfl Tryz.func57 rfl rfl rfl ?_;refine (HWI.out w' (HG0.out.trans hg)).mono ?_;rintro e w'' ⟨B,rfl,hM,hg2⟩;exact ⟨_,rfl,hg2,⟨B,rfl⟩,B,rfl,hM⟩
 obtain ⟨B1,rfl⟩:=hv;simp only [Act.put,List.setIfInBounds_toArray,List.set_cons_succ,List.set_cons_zero];iterate 1 (refine lax_quiet rfl rfl rfl (fun K hK=>?_); go_big_quiet_op; refine hK _ ?_; clear hK K)
 refine lax_spec rfl rfl (fun w' hg hF=>?_) (fun v1 hv=>?_)
 ·refine Does.call [.agg #[.slice fa fn fc,.int .i64 m.hand,.slice sa sn sc,.slice vsb.a vsb.n vsb.c,.slice vsq.a vsq.n vsq.c,.slice vdb.a vdb.n vdb.c,.slice vdq.a vdq.n vdq.c,.slice vfl.a vfl.n vfl.c,.int .i64 m.cnt,.slice vca.a vca.n vca.c,.slice vsp.a vsp.n vsp.c]] rfl Tryz.func87 rfl rfl rfl ?_;refine (HHO.out w' (HG0.out.trans hg)).mono ?_;rintro e w'' ⟨B,rfl,hM,hg2⟩;exact ⟨_,rfl,hg2,⟨B,rfl⟩,B,rfl,hM⟩
 obtain ⟨B2,rfl⟩:=hv;simp only [Act.put,List.setIfInBounds_toArray,List.set_cons_succ,List.set_cons_zero];refine lax_spec rfl rfl (fun w' hg hF=>?_) (fun v1 hv=>?_)
 ·have hnew : Box (w'.alloc (.cells #[.slice none 0 0,.int .i64 0,.slice none 0 0,.slice none 0 0,.slice none 0 0,.slice none 0 0,.slice none 0 0,.slice none 0 0,.int .i64 0,.slice none 0 0,.slice none 0 0,.map none] 115)) w'.heap.size [.slice none 0 0,.int .i64 0,.slice none 0 0,.slice none 0 0,.slice none 0 0,.slice none 0 0,.slice none 0 0,.slice none 0 0,.int .i64 0,.slice none 0 0,.slice none 0 0,.map none]:=Box.top _ _ _ rfl;have hle : w.heap.size≤w'.heap.size:=Below.size (HG0.out.trans hg);clear hx0 hx1 hx2 hx3 hx4 hx5 hx6 hx7 hx8 hx9 hx10 hne;refine Does.step (v:= .pointer (some ⟨w'.heap.size,0,none⟩)) (w':=w'.alloc (.cells #[.slice none 0 0,.int .i64 0,.slice none 0 0,.slice none 0 0,.slice none 0 0,.slice none 0 0,.slice none 0 0,.slice none 0 0,.int .i64 0,.slice none 0 0,.slice none 0 0,.map none] 115)) (by simp only [execOp]; go_simp) ⟨grew_alloc _ _,⟨_,rfl⟩,_,rfl,hnew,hle⟩
 obtain ⟨p3,rfl⟩:=hv;simp only [Act.put,List.setIfInBounds_toArray,List.set_cons_succ,List.set_cons_zero];refine lax_nil fun W3 hg3 hF=>?_
 obtain ⟨B1',he1,hM1⟩ : ∃ B,(Value.agg #[.slice fa fn fc,.int .i64 m.hand,.slice sa sn sc,.slice vsb.a vsb.n vsb.c,.slice vsq.a vsq.n vsq.c,.slice vdb.a vdb.n vdb.c,.slice vdq.a vdq.n vdq.c,.slice vfl.a vfl.n vfl.c,.int .i64 m.cnt,.slice vca.a vca.n vca.c,.slice vsp.a vsp.n vsp.c,.map (some B1)]) = .agg #[.slice fa fn fc,.int .i64 m.hand,.slice sa sn sc,.slice vsb.a vsb.n vsb.c,.slice vsq.a vsq.n vsq.c,.slice vdb.a vdb.n vdb.c,.slice vdq.a vdq.n vdq.c,.slice vfl.a vfl.n vfl.c,.int .i64 m.cnt,.slice vca.a vca.n vca.c,.slice vsp.a vsp.n vsp.c,.map (some B)]∧MapF plK W3 B (idxG m.ca):=hF 1;obtain ⟨B2',he2,hM2⟩ : ∃ B,(Value.map (some B2)) = .map (some B)∧MapH enK W3 B (heldTo m m.sp.length [] sp00):=hF 3;obtain ⟨p3',he3,hB3,hle3⟩ : ∃ p,(Value.pointer (some ⟨p3,0,none⟩)) = .pointer (some ⟨p,0,none⟩)∧Box W3 p [.slice none 0 0,.int .i64 0,.slice none 0 0,.slice none 0 0,.slice none 0 0,.slice none 0 0,.slice none 0 0,.slice none 0 0,.int .i64 0,.slice none 0 0,.slice none 0 0,.map none]∧w.heap.size≤p:=hF 4;have e1 : B1' = B1:=by simp at he1; exact he1.symm
 have e2 : B2' = B2:=by simp at he2; exact he2.symm
 have e3 : p3' = p3:=by simp at he3; exact he3.symm
 subst e1 e2 e3;have M1 : Hid (MapF plK W3 B1' (idxG m.ca)):=hM1;have M2 : Hid (MapH enK W3 B2' (heldTo m m.sp.length [] sp00)):=hM2;have Y3 : Hid (Box W3 p3' [.slice none 0 0,.int .i64 0,.slice none 0 0,.slice none 0 0,.slice none 0 0,.slice none 0 0,.slice none 0 0,.slice none 0 0,.int .i64 0,.slice none 0 0,.slice none 0 0,.map none]):=hB3;have HL3 : Hid (w.heap.size≤p3'):=hle3;have HG3 : Hid (Grew w W3):=HG0.out.trans hg3;have X3 : Hid (Box W3 w.heap.size [.slice fa fn fc,.int .i64 m.hand,.slice sa sn sc,.slice vsb.a vsb.n vsb.c,.slice vsq.a vsq.n vsq.c,.slice vdb.a vdb.n vdb.c,.slice vdq.a vdq.n vdq.c,.slice vfl.a vfl.n vfl.c,.int .i64 m.cnt,.slice vca.a vca.n vca.c,.slice vsp.a vsp.n vsp.c]):=X0.out.grew hg3;clear he1 he2 he3 hM1 hM2 hB3 hle3 hg3 hF hx0 hx1 hx2 hx3 hx4 hx5 hx6 hx7 hx8 hx9 hx10 hne;have HXP : Hid (w.heap.size≠p3'):=show _≠_ from fun e=>by
  obtain ⟨t1,h1⟩:=X3.out;obtain ⟨t2,h2⟩:=Y3.out;rw [←e,h1] at h2
  simp at h2
 go_wp2_with (refine wp_storeAll rfl 115 (.tmp 3) (.tmp 10) rfl p3' rfl [.slice fa fn fc,.int .i64 m.hand,.slice sa sn sc,.slice vsb.a vsb.n vsb.c,.slice vsq.a vsq.n vsq.c,.slice vdb.a vdb.n vdb.c,.slice vdq.a vdq.n vdq.c,.slice vfl.a vfl.n vfl.c,.int .i64 m.cnt,.slice vca.a vca.n vca.c,.slice vsp.a vsp.n vsp.c,.map (some B1')] rfl Y3.out rfl (by kernel_rfl) (fun v hv=>by
    simp only [List.mem_cons,List.not_mem_nil,or_false] at hv
    rcases hv with rfl | rfl | rfl | rfl | rfl | rfl | rfl | rfl | rfl | rfl | rfl | rfl <;> rfl) ?_)
 intro W4 hb4 hg4 _;have Y4 : Hid (Box W4 p3' [.slice fa fn fc,.int .i64 m.hand,.slice sa sn sc,.slice vsb.a vsb.n vsb.c,.slice vsq.a vsq.n vsq.c,.slice vdb.a vdb.n vdb.c,.slice vdq.a vdq.n vdq.c,.slice vfl.a vfl.n vfl.c,.int .i64 m.cnt,.slice vca.a vca.n vca.c,.slice vsp.a vsp.n vsp.c,.map (some B1')]):=hb4;have X4 : Hid (Box W4 w.heap.size [.slice fa fn fc,.int .i64 m.hand,.slice sa sn sc,.slice vsb.a vsb.n vsb.c,.slice vsq.a vsq.n vsq.c,.slice vdb.a vdb.n vdb.c,.slice vdq.a vdq.n vdq.c,.slice vfl.a vfl.n vfl.c,.int .i64 m.cnt,.slice vca.a vca.n vca.c,.slice vsp.a vsp.n vsp.c]):=X3.out.grown hg4 HXP.out;have N1 : Hid (MapF plK W4 B1' (idxG m.ca)):=M1.out.kept hg4 (fun e=>by cases e; exact Y3.out.ne_map M1.out rfl)
 have N2 : Hid (MapH enK W4 B2' (heldTo m m.sp.length [] sp00)):=show MapH _ _ _ _ by
  obtain ⟨g,k1,k2⟩:=M2.out;exact ⟨g,k1.kept hg4 (fun e=>by cases e; exact Y3.out.ne_map k1 rfl),k2⟩
 have HG4 : Hid (Grew w W4):=show Grew _ _ from grew_grown HG3.out hg4 HL3.out
 clear hb4 hg4 M1 M2 Y3 X3;have x0:=X4.out.c 0 rfl;go_wp2;clear x0
 go_loopg [17] fn (fun gg s17 wr=>∃ kk : Nat,kk≤fn∧fn - kk≤gg∧s17 = .int .i64 kk∧Hid (Grew W4 wr)∧Hid (∀ j : Nat,j < kk→frE m j = 0))
 case atStart=>exact ⟨0,Nat.zero_le _,by omega,rfl,Grew.refl _,fun j hj=>absurd hj (Nat.not_lt_zero _)⟩
 case round =>
  obtain ⟨kk,hkk,hgg,rfl,BW,OW⟩:=hrel
  by_cases hlt : kk < fn
  ·have hltz : (kk : Int) < (fn : Int):=by omega
   have HKL : Hid (kk < m.fs.length):=show _ < _ by rw [HN1.out]; exact hlt
   obtain ⟨q,HQ⟩ : ∃ q,Hid (m.fs[kk]? = some q):=⟨_,List.getElem?_eq_getElem HKL.out⟩;have HFQ : Hid (frAt m (kk : Int) = q):=show _ = _ by unfold frAt; rw [Int.toNat_natCast,List.getD_eq_getElem?_getD,HQ.out]; rfl
   obtain ⟨ad,rfl,hl⟩:=HFR.out kk q HQ.out;obtain ⟨d0,d1,d2,d3,d4,d5,d6,d7,d8,d9,d10,d11,d12⟩:=hl wr (HG4.out.trans BW.out);clear hl;go_upto_region 5 with fail;obtain ⟨W5,hW5⟩ : ∃ W5,wr.alloc (.cells #[.int .u8 q.p.b0,.int .u8 q.p.b1,.int .u8 q.p.b2,.int .u8 q.p.b3,.int .u8 q.p.b4,.int .u8 q.p.b5,.int .u8 q.p.b6,.int .u8 q.p.b7,.int .i64 q.r,.bool q.u,.bool q.d,.int .i64 q.f,.int .i64 q.x] 59) = W5:=⟨_,rfl⟩;have HG5 : Hid (Grew W4 W5):=show Grew _ _ by rw [←hW5]; exact BW.out.trans (grew_alloc _ _)
   have HGw5 : Hid (Grew w W5):=HG4.out.trans HG5.out;have F5 : Hid (Box W5 wr.heap.size [.int .u8 q.p.b0,.int .u8 q.p.b1,.int .u8 q.p.b2,.int .u8 q.p.b3,.int .u8 q.p.b4,.int .u8 q.p.b5,.int .u8 q.p.b6,.int .u8 q.p.b7,.int .i64 q.r,.bool q.u,.bool q.d,.int .i64 q.f,.int .i64 q.x]):=show Box _ _ _ by rw [←hW5]; exact Box.top _ _ _ rfl
   have Y5 : Hid (Box W5 p3' [.slice (some ad) fn fc,.int .i64 m.hand,.slice sa sn sc,.slice vsb.a vsb.n vsb.c,.slice vsq.a vsq.n vsq.c,.slice vdb.a vdb.n vdb.c,.slice vdq.a vdq.n vdq.c,.slice vfl.a vfl.n vfl.c,.int .i64 m.cnt,.slice vca.a vca.n vca.c,.slice vsp.a vsp.n vsp.c,.map (some B1')]):=Y4.out.grew HG5.out;rw [hW5];clear hW5 d0 d1 d2 d3 d4 d5 d6 d7 d8 d9 d10 d11 d12;obtain ⟨pf,HPF⟩ : ∃ pf,Hid (wr.heap.size = pf):=⟨_,rfl⟩;rw [HPF.out] at F5 ⊢;obtain ⟨h,HHK⟩ : ∃ h,Hid ((heldTo m m.sp.length [] sp00) (1,(kk : Int)) = h):=⟨_,rfl⟩;have hlk : ∀ y : GrownW W5,(Instr.lookup 160 (.map (some B2')) (.agg #[.int .i64 1,.int .i64 (kk : Int),.bool false]) false).run Tryz.prog y.world = .ok (.int .i64 h) y.world:=fun y=>by
    have:=(N2.out.grew (HG5.out.trans y.grew)).look (K:=enK) Tryz.underlying160 (Tryz.zeroInt _) (1,(kk : Int));rw [HHK.out] at this;exact this
   have hf8 : ∀ y : GrownW W5,y.world.cell? ⟨pf,8,none⟩ = some (.int .i64 q.r):=fun y=>(F5.out.grew y.grew).c 8 rfl
   have hf11 : ∀ y : GrownW W5,y.world.cell? ⟨pf,11,none⟩ = some (.int .i64 q.f):=fun y=>(F5.out.grew y.grew).c 11 rfl
   have hy0 : ∀ y : GrownW W5,y.world.cell? ⟨p3',0,none⟩ = some (.slice (some ad) fn fc):=fun y=>(Y5.out.grew y.grew).c 0 rfl
   have hy1 : ∀ y : GrownW W5,y.world.cell? ⟨p3',1,none⟩ = some (.int .i64 m.hand):=fun y=>(Y5.out.grew y.grew).c 1 rfl
   have hy2 : ∀ y : GrownW W5,y.world.cell? ⟨p3',2,none⟩ = some (.slice sa sn sc):=fun y=>(Y5.out.grew y.grew).c 2 rfl
   have hy3 : ∀ y : GrownW W5,y.world.cell? ⟨p3',3,none⟩ = some (.slice vsb.a vsb.n vsb.c):=fun y=>(Y5.out.grew y.grew).c 3 rfl
   have hy4 : ∀ y : GrownW W5,y.world.cell? ⟨p3',4,none⟩ = some (.slice vsq.a vsq.n vsq.c):=fun y=>(Y5.out.grew y.grew).c 4 rfl
   have hy5 : ∀ y : GrownW W5,y.world.cell? ⟨p3',5,none⟩ = some (.slice vdb.a vdb.n vdb.c):=fun y=>(Y5.out.grew y.grew).c 5 rfl
   have hy6 : ∀ y : GrownW W5,y.world.cell? ⟨p3',6,none⟩ = some (.slice vdq.a vdq.n vdq.c):=fun y=>(Y5.out.grew y.grew).c 6 rfl
   have hy7 : ∀ y : GrownW W5,y.world.cell? ⟨p3',7,none⟩ = some (.slice vfl.a vfl.n vfl.c):=fun y=>(Y5.out.grew y.grew).c 7 rfl
   have hy8 : ∀ y : GrownW W5,y.world.cell? ⟨p3',8,none⟩ = some (.int .i64 m.cnt):=fun y=>(Y5.out.grew y.grew).c 8 rfl
   have hy9 : ∀ y : GrownW W5,y.world.cell? ⟨p3',9,none⟩ = some (.slice vca.a vca.n vca.c):=fun y=>(Y5.out.grew y.grew).c 9 rfl
   have hy10 : ∀ y : GrownW W5,y.world.cell? ⟨p3',10,none⟩ = some (.slice vsp.a vsp.n vsp.c):=fun y=>(Y5.out.grew y.grew).c 10 rfl
   have hy11 : ∀ y : GrownW W5,y.world.cell? ⟨p3',11,none⟩ = some (.map (some B1')):=fun y=>(Y5.out.grew y.grew).c 11 rfl
   have hne : Nonempty (GrownW W5):=⟨⟨_,Grew.refl _⟩⟩;have HFK:=HFE.out kk;rw [HFQ.out,HHK.out] at HFK
   by_cases hr : q.r = h
   ·have hre : (q.r != h) = false:=by simp [hr]
    by_cases hf0 : 0≤q.f
    ·have hf0d : decide (0≤q.f) = true:=by simpa using hf0
     obtain ⟨U,HU⟩ : ∃ U,Hid (decide (idxG m.ca ((frAt m (kk : Int)).f,(frAt m (kk : Int)).x) = some (kk : Int)) = U):=⟨_,rfl⟩;have HUF : Hid (frE m kk = if U = true then 0 else 7):=show _ = _ by
      have h1:=HU.out;rw [HFQ.out] at h1;rw [HFK,←h1]
      by_cases hc : idxG m.ca (q.f,q.x) = some (kk : Int)
      ·rw [if_neg (by simp [hr,hc]),if_pos (by simpa using hc)]
      ·rw [if_pos (.inr ⟨hf0,hc⟩),if_neg (by simpa using hc)]
     have HCC : Hid (∀ W,Grew W4 W→Calls Tryz.prog 88 #[.agg #[.slice (some ad) fn fc,.int .i64 m.hand,.slice sa sn sc,.slice vsb.a vsb.n vsb.c,.slice vsq.a vsq.n vsq.c,.slice vdb.a vdb.n vdb.c,.slice vdq.a vdq.n vdq.c,.slice vfl.a vfl.n vfl.c,.int .i64 m.cnt,.slice vca.a vca.n vca.c,.slice vsp.a vsp.n vsp.c,.map (some B1')],.int .i64 (kk : Int)] W fun e w'=>e = .returned (.bool U)∧Grew W w'):=show ∀ W,_ from fun W hW=>by
      have h1:=HHC.out B1' kk W (HG4.out.trans hW) HKL.out (N1.out.grew hW);rw [HU.out] at h1;exact h1
     clear hr hf0 HFK;refine wp_lax [(14,⟨fun v=>v = .bool U,fun v w'=>True⟩)] mixed (by kernel_rfl) ?hS ?hp ?_
     case hS =>
      intro x hx;simp only [List.mem_cons,List.not_mem_nil,or_false] at hx;subst hx;exact ⟨_,rfl⟩
     case hp =>
      intro x hx;simp only [List.mem_cons,List.not_mem_nil,or_false] at hx;subst hx;exact fun _ _ _ _ h=>h
     iterate 14 (refine lax_quiet rfl rfl rfl (fun K hK=>?_); go_big_quiet_op; refine hK _ ?_; clear hK K)
     refine lax_spec rfl rfl (fun w' hg hF=>?_) (fun v1 hv=>?_)
     ·refine Does.call [.agg #[.slice (some ad) fn fc,.int .i64 m.hand,.slice sa sn sc,.slice vsb.a vsb.n vsb.c,.slice vsq.a vsq.n vsq.c,.slice vdb.a vdb.n vdb.c,.slice vdq.a vdq.n vdq.c,.slice vfl.a vfl.n vfl.c,.int .i64 m.cnt,.slice vca.a vca.n vca.c,.slice vsp.a vsp.n vsp.c,.map (some B1')],.int .i64 (kk : Int)] rfl Tryz.func88 rfl rfl rfl ?_;refine (HCC.out w' (HG5.out.trans hg)).mono ?_;rintro e w'' ⟨rfl,hg3⟩;exact ⟨_,rfl,hg3,rfl,trivial⟩
     subst hv;simp only [Act.put,List.setIfInBounds_toArray,List.set_cons_succ,List.set_cons_zero];iterate 3 (refine lax_quiet rfl rfl rfl (fun K hK=>?_); go_big_quiet_op; refine hK _ ?_; clear hK K)
     refine lax_nil fun W6 hg6 hF=>?_
     have HG6 : Hid (Grew W4 W6):=HG5.out.trans hg6;clear hg6 hF hlk hf8 hf11 hy0 hy1 hy2 hy3 hy4 hy5 hy6 hy7 hy8 hy9 hy10 hy11 hne
     cases U with
     | true =>
      have OW' : Hid (∀ j : Nat,j < kk + 1→frE m j = 0):=show ∀ j : Nat,_ from fun j hj=>by
       by_cases e : j = kk
       ·rw [e,HUF.out,if_pos rfl]
       ·exact OW.out j (by omega)
      go_wp2
      go_roundg (fn - (kk + 1))
      case measure=>omega
      case rel=>exact ⟨kk + 1,by omega,by omega,by go_num,HG6.out,OW'.out⟩
     | false =>
      have HZE : Hid (Z = 7):=HZ1.out kk HKL.out OW.out (by rw [HUF.out,if_neg (by decide)])
      have HGW : Hid (Grew w W6):=HG4.out.trans HG6.out;go_wp2;go_ret;exact ⟨by rw [HZE.out]; rfl,HGW.out⟩
    ·have hf0d : decide (0≤q.f) = false:=by simpa using hf0
     have HFZ : Hid (frE m kk = 0):=show _ = _ by rw [HFK,if_neg (by simp [hr,hf0])]
     have OW' : Hid (∀ j : Nat,j < kk + 1→frE m j = 0):=show ∀ j : Nat,_ from fun j hj=>by
      by_cases e : j = kk
      ·rw [e]; exact HFZ.out
      ·exact OW.out j (by omega)
     clear hr hf0 HFK;refine wp_lax [] mixed (by kernel_rfl) (by simp) (by simp) ?_
     iterate 12 (refine lax_quiet rfl rfl rfl (fun K hK=>?_); go_big_quiet_op; refine hK _ ?_; clear hK K)
     refine lax_skip ?_ ?_
     ·kernel_rfl
     simp only [Act.put,List.setIfInBounds_toArray,List.set_cons_succ,List.set_cons_zero];refine lax_skip ?_ ?_
     ·kernel_rfl
     simp only [Act.put,List.setIfInBounds_toArray,List.set_cons_succ,List.set_cons_zero];refine lax_skip ?_ ?_
     ·kernel_rfl
     simp only [Act.put,List.setIfInBounds_toArray,List.set_cons_succ,List.set_cons_zero];refine lax_skip ?_ ?_
     ·kernel_rfl
     simp only [Act.put,List.setIfInBounds_toArray,List.set_cons_succ,List.set_cons_zero];iterate 2 (refine lax_quiet rfl rfl rfl (fun K hK=>?_); go_big_quiet_op; refine hK _ ?_; clear hK K)
     refine lax_nil fun W6 hg6 hF=>?_
     have HG6 : Hid (Grew W4 W6):=HG5.out.trans hg6;clear hg6 hF hlk hf8 hf11 hy0 hy1 hy2 hy3 hy4 hy5 hy6 hy7 hy8 hy9 hy10 hy11 hne;go_wp2
     go_roundg (fn - (kk + 1))
     case measure=>omega
     case rel=>exact ⟨kk + 1,by omega,by omega,by go_num,HG6.out,OW'.out⟩
   ·have hre : (q.r != h) = true:=by simp [hr]
    have HZE : Hid (Z = 7):=HZ1.out kk HKL.out OW.out (by rw [HFK,if_pos (.inl hr)])
    clear hr HFK;refine wp_lax [] mixed (by kernel_rfl) (by simp) (by simp) ?_
    iterate 8 (refine lax_quiet rfl rfl rfl (fun K hK=>?_); go_big_quiet_op; refine hK _ ?_; clear hK K)
    refine lax_skip ?_ ?_
    ·kernel_rfl
    simp only [Act.put,List.setIfInBounds_toArray,List.set_cons_succ,List.set_cons_zero];refine lax_skip ?_ ?_
    ·kernel_rfl
    simp only [Act.put,List.setIfInBounds_toArray,List.set_cons_succ,List.set_cons_zero];refine lax_skip ?_ ?_
    ·kernel_rfl
    simp only [Act.put,List.setIfInBounds_toArray,List.set_cons_succ,List.set_cons_zero];refine lax_skip ?_ ?_
    ·kernel_rfl
    simp only [Act.put,List.setIfInBounds_toArray,List.set_cons_succ,List.set_cons_zero];refine lax_skip ?_ ?_
    ·kernel_rfl
    simp only [Act.put,List.setIfInBounds_toArray,List.set_cons_succ,List.set_cons_zero];refine lax_skip ?_ ?_
    ·kernel_rfl
    simp only [Act.put,List.setIfInBounds_toArray,List.set_cons_succ,List.set_cons_zero];refine lax_skip ?_ ?_
    ·kernel_rfl
    simp only [Act.put,List.setIfInBounds_toArray,List.set_cons_succ,List.set_cons_zero];refine lax_skip ?_ ?_
    ·kernel_rfl
    simp only [Act.put,List.setIfInBounds_toArray,List.set_cons_succ,List.set_cons_zero];refine lax_skip ?_ ?_
    ·kernel_rfl
    simp only [Act.put,List.setIfInBounds_toArray,List.set_cons_succ,List.set_cons_zero];iterate 1 (refine lax_quiet rfl rfl rfl (fun K hK=>?_); go_big_quiet_op; refine hK _ ?_; clear hK K)
    refine lax_nil fun W6 hg6 hF=>?_
    have HG6 : Hid (Grew w W6):=HGw5.out.trans hg6;clear hg6 hF hlk hf8 hf11 hy0 hy1 hy2 hy3 hy4 hy5 hy6 hy7 hy8 hy9 hy10 hy11 hne;go_wp2;go_ret;exact ⟨by rw [HZE.out]; rfl,HG6.out⟩
  ·have hltz : ¬ (kk : Int) < (fn : Int):=by omega
   have : kk = fn:=by omega
   subst this;have OA : Hid (∀ j : Nat,j < m.fs.length→frE m j = 0):=show ∀ j : Nat,_ from fun j hj=>OW.out j (by rw [←HN1.out]; exact hj)
   have x2:=(X4.out.grew BW.out).c 2 rfl;go_wp2;clear x2;have HBW : Hid (Grew W4 wr):=BW;clear BW OW
   go_loopg [44] sn (fun gg s44 wr=>∃ i : Nat,i≤sn∧sn - i≤gg∧s44 = .int .i64 i∧Hid (Grew W4 wr)∧Hid (∀ j : Nat,j < i→sloE m j = 0))
   case atStart=>exact ⟨0,Nat.zero_le _,by omega,rfl,HBW.out,fun j hj=>absurd hj (Nat.not_lt_zero _)⟩
   case round =>
    obtain ⟨i,hi,hg2,rfl,BW,OW⟩:=hrel;clear HBW
    by_cases hlt2 : i < sn
    ·have hltz2 : (i : Int) < (sn : Int):=by omega
     have HKL : Hid (i < m.sl.length):=show _ < _ by rw [HN2.out]; exact hlt2
     obtain ⟨z,HZI⟩ : ∃ z,Hid (m.sl[i]? = some z):=⟨_,List.getElem?_eq_getElem HKL.out⟩;obtain ⟨ad,rfl,hl⟩:=HSL.out i z HZI.out;have d0:=hl wr (HG4.out.trans BW.out);clear hl;obtain ⟨h,HHK⟩ : ∃ h,Hid ((heldTo m m.sp.length [] sp00) (2,(i : Int)) = h):=⟨_,rfl⟩;have hlk : (Instr.lookup 160 (.map (some B2')) (.agg #[.int .i64 2,.int .i64 (i : Int),.bool false]) false).run Tryz.prog wr = .ok (.int .i64 h) wr:=by
      have:=(N2.out.grew BW.out).look (K:=enK) Tryz.underlying160 (Tryz.zeroInt _) (2,(i : Int));rw [HHK.out] at this;exact this
     have HSE : Hid (sloE m i = if z≠h then 7 else 0):=show _ = _ by rw [sloE_prog,List.getD_eq_getElem?_getD,HZI.out,HHK.out]; rfl
     by_cases hr : z = h
     ·have hre : (z != h) = false:=by simp [hr]
      have OW' : Hid (∀ j : Nat,j < i + 1→sloE m j = 0):=show ∀ j : Nat,_ from fun j hj=>by
       by_cases e : j = i
       ·rw [e,HSE.out,if_neg (by simp [hr])]
       ·exact OW.out j (by omega)
      clear hr;go_wp2
      go_roundg (sn - (i + 1))
      case measure=>omega
      case rel=>exact ⟨i + 1,by omega,by omega,by go_num,BW.out,OW'.out⟩
     ·have hre : (z != h) = true:=by simp [hr]
      have HZE : Hid (Z = 7):=HZ2.out OA.out i HKL.out OW.out (by rw [HSE.out,if_pos hr])
      have HGW : Hid (Grew w wr):=HG4.out.trans BW.out;clear hr;go_wp2;go_ret;exact ⟨by rw [HZE.out]; rfl,HGW.out⟩
    ·have hltz2 : ¬ (i : Int) < (sn : Int):=by omega
     have : i = sn:=by omega
     subst this;have HZE : Hid (Z = 0):=HZ3.out OA.out fun j hj=>OW.out j (by rw [←HN2.out]; exact hj)
     have HGW : Hid (Grew w wr):=HG4.out.trans BW.out;go_wp2;go_ret;exact ⟨by rw [HZE.out]; rfl,HGW.out⟩
def chk : List Nat:=[35,36,37,38,39,40]
def chkE (m : Ma) : List Int:=[firstE (wPartsL m),firstE (wDisksL m),wSpaces m,wCache m,wPages m,wCounts m]
theorem wSpaces_four {m : Ma} (h : wSpaces m = 0) : m.sp.length≤4:=by
 unfold wSpaces at h
 split at h
 ·cases h
 ·omega
theorem chk_any (V : MaV) (m : Ma) (w : World) (hm : MachAt w V m) (k : Nat) (hb : ∀ j,j < k→(chkE m)[j]?.getD 0 = 0) (f : Nat) (hf : chk[k]? = some f) (e : Int) (he : (chkE m)[k]? = some e) :
  Calls Tryz.prog f #[.agg #[.slice V.f.a V.f.n V.f.c,.int .i64 m.hand,.slice V.s.a V.s.n V.s.c,.slice V.sb.a V.sb.n V.sb.c,.slice V.sq.a V.sq.n V.sq.c,.slice V.db.a V.db.n V.db.c,.slice V.dq.a V.dq.n V.dq.c,.slice V.fl.a V.fl.n V.fl.c,.int .i64 m.cnt,.slice V.ca.a V.ca.n V.ca.c,.slice V.sp.a V.sp.n V.sp.c]] w fun r w'=>r = .returned (.int .i64 e)∧Grew w w':=by
 have h1 : 1≤k→Right1 m:=fun h=>right1.1 (hb 0 (by omega))
 have h3 : 3≤k→RightSp m∧m.sp.length≤4:=fun h=>⟨rightSp (hb 2 (by omega)),wSpaces_four (hb 2 (by omega))⟩
 have h4 : 4≤k→caGo m none m.ca = 0:=fun h=>hb 3 (by omega)
 match k,hf,he with
 | 0,hf,he=>cases hf; cases he; exact wrongParts_any V m w hm
 | 1,hf,he=>cases hf; cases he; exact wrongDisks_any V m w hm (h1 (by omega))
 | 2,hf,he=>cases hf; cases he; exact wrongSpaces_any V m w hm
 | 3,hf,he=>cases hf; cases he; exact wrongCache_any V m w hm (h1 (by omega))
 | 4,hf,he=>cases hf; cases he; exact wrongPagesM_any V m w hm (h1 (by omega)) (h3 (by omega)).1
 | 5,hf,he=>cases hf; cases he; exact wrongCounts_any V m w hm (h4 (by omega)) (h3 (by omega)).2 (fun s hs=>((h3 (by omega)).1 s hs).2)
 | k + 6,hf,he=>simp [chk] at hf
theorem chk_enters (k f : Nat) (hf : chk[k]? = some f) : ∀ args w,(callFunc f args).run Tryz.prog w = .ok (.enter f args) w:=by
 match k,hf with
 | 0,hf=>cases hf; exact enters_of Tryz.func35 (by kernel_rfl) rfl
 | 1,hf=>cases hf; exact enters_of Tryz.func36 (by kernel_rfl) rfl
 | 2,hf=>cases hf; exact enters_of Tryz.func37 (by kernel_rfl) rfl
 | 3,hf=>cases hf; exact enters_of Tryz.func38 (by kernel_rfl) rfl
 | 4,hf=>cases hf; exact enters_of Tryz.func39 (by kernel_rfl) rfl
 | 5,hf=>cases hf; exact enters_of Tryz.func40 (by kernel_rfl) rfl
 | k + 6,hf=>simp [chk] at hf
def fnV (f : Nat) : Value:= .func (.func f) #[] #[]
theorem wrongM_any (V : MaV) (m : Ma) (w : World) (hm : MachAt w V m) :
  Calls Tryz.prog 11 #[.agg #[.slice V.f.a V.f.n V.f.c,.int .i64 m.hand,.slice V.s.a V.s.n V.s.c,.slice V.sb.a V.sb.n V.sb.c,.slice V.sq.a V.sq.n V.sq.c,.slice V.db.a V.db.n V.db.c,.slice V.dq.a V.dq.n V.dq.c,.slice V.fl.a V.fl.n V.fl.c,.int .i64 m.cnt,.slice V.ca.a V.ca.n V.ca.c,.slice V.sp.a V.sp.n V.sp.c]] w fun e w'=>e = .returned (.int .i64 (maW m))∧Grew w w':=by
 have HCK : Hid (∀ W,Grew w W→∀ (k : Nat),(∀ j,j < k→(chkE m)[j]?.getD 0 = 0)→∀ f,chk[k]? = some f→∀ e,(chkE m)[k]? = some e→Calls Tryz.prog f #[.agg #[.slice V.f.a V.f.n V.f.c,.int .i64 m.hand,.slice V.s.a V.s.n V.s.c,.slice V.sb.a V.sb.n V.sb.c,.slice V.sq.a V.sq.n V.sq.c,.slice V.db.a V.db.n V.db.c,.slice V.dq.a V.dq.n V.dq.c,.slice V.fl.a V.fl.n V.fl.c,.int .i64 m.cnt,.slice V.ca.a V.ca.n V.ca.c,.slice V.sp.a V.sp.n V.sp.c]] W fun r w'=>r = .returned (.int .i64 e)∧Grew W w'):=show ∀ W,_ from fun W hW k hb f hf e he=>chk_any V m W (hm.grew hW) k hb f hf e he
 clear hm;obtain ⟨Z,HZ⟩ : ∃ Z,Hid (maW m = Z):=⟨_,rfl⟩;rw [HZ.out];have HZ2 : Hid (firstE (chkE m) = Z):=show _ = _ by rw [←HZ.out,maW_six]; rfl
 clear HZ;obtain ⟨W0,hW0⟩ : ∃ W0,(w.alloc (.cells #[.slice V.f.a V.f.n V.f.c,.int .i64 m.hand,.slice V.s.a V.s.n V.s.c,.slice V.sb.a V.sb.n V.sb.c,.slice V.sq.a V.sq.n V.sq.c,.slice V.db.a V.db.n V.db.c,.slice V.dq.a V.dq.n V.dq.c,.slice V.fl.a V.fl.n V.fl.c,.int .i64 m.cnt,.slice V.ca.a V.ca.n V.ca.c,.slice V.sp.a V.sp.n V.sp.c] 40)).alloc (.cells #[.func (.func 35) #[] #[],.func (.func 36) #[] #[],.func (.func 37) #[] #[],.func (.func 38) #[] #[],.func (.func 39) #[] #[],.func (.func 40) #[] #[]] 44) = W0:=⟨_,rfl⟩;have HG0 : Hid (Grew w W0):=show Grew _ _ by rw [←hW0]; exact (grew_alloc _ _).trans (grew_alloc _ _)
 have X0 : Hid (Box W0 w.heap.size [.slice V.f.a V.f.n V.f.c,.int .i64 m.hand,.slice V.s.a V.s.n V.s.c,.slice V.sb.a V.sb.n V.sb.c,.slice V.sq.a V.sq.n V.sq.c,.slice V.db.a V.db.n V.db.c,.slice V.dq.a V.dq.n V.dq.c,.slice V.fl.a V.fl.n V.fl.c,.int .i64 m.cnt,.slice V.ca.a V.ca.n V.ca.c,.slice V.sp.a V.sp.n V.sp.c]):=show Box _ _ _ by rw [←hW0]; exact (Box.top _ _ _ rfl).alloc _
 have Y0 : Hid (Box W0 (w.heap.size + 1) (chk.map fnV)):=show Box _ _ _ by rw [←hW0]; exact Box.top _ (chk.map fnV) _ (by simp)
 have HW0 : Hid (_ = W0):=hW0;clear hW0
 go_enter Tryz.func11,Tryz.ntmps11
 go_upto_region 2 with fail;rw [HW0.out];go_wp2
 go_loopg [10] 6 (fun gg s10 wr=>∃ kk : Nat,kk≤6∧6 - kk≤gg∧s10 = .int .i64 kk∧Hid (Grew w wr)∧Hid (Box wr w.heap.size [.slice V.f.a V.f.n V.f.c,.int .i64 m.hand,.slice V.s.a V.s.n V.s.c,.slice V.sb.a V.sb.n V.sb.c,.slice V.sq.a V.sq.n V.sq.c,.slice V.db.a V.db.n V.db.c,.slice V.dq.a V.dq.n V.dq.c,.slice V.fl.a V.fl.n V.fl.c,.int .i64 m.cnt,.slice V.ca.a V.ca.n V.ca.c,.slice V.sp.a V.sp.n V.sp.c])∧Hid (Box wr (w.heap.size + 1) (chk.map fnV))∧Hid (∀ j,j < kk→(chkE m)[j]?.getD 0 = 0))
 case atStart=>exact ⟨0,Nat.zero_le _,by omega,rfl,HG0.out,X0.out,Y0.out,fun j hj=>absurd hj (Nat.not_lt_zero _)⟩
 case round =>
  obtain ⟨kk,hkk,hgg,rfl,BW,XW,YW,OW⟩:=hrel;clear X0 Y0 HG0
  by_cases hlt : kk < 6
  ·have hltz : (kk : Int) < 6:=by omega
   obtain ⟨f,HF⟩ : ∃ f,Hid (chk[kk]? = some f):=⟨_,List.getElem?_eq_getElem (by simp [chk]; exact hlt)⟩
   obtain ⟨e,HE⟩ : ∃ e,Hid ((chkE m)[kk]? = some e):=⟨_,List.getElem?_eq_getElem (by simp [chkE]; exact hlt)⟩
   have y0 : wr.cell? ⟨w.heap.size + 1,kk,none⟩ = some (.func (.func f) #[] #[]):=YW.out.c kk (by rw [List.getElem?_map,HF.out]; rfl)
   have eg:=chk_enters kk f HF.out;have hcall:=HCK.out wr BW.out kk OW.out f HF.out e HE.out;have x0:=XW.out.c 0 rfl;have x1:=XW.out.c 1 rfl;have x2:=XW.out.c 2 rfl;have x3:=XW.out.c 3 rfl;have x4:=XW.out.c 4 rfl;have x5:=XW.out.c 5 rfl;have x6:=XW.out.c 6 rfl;have x7:=XW.out.c 7 rfl;have x8:=XW.out.c 8 rfl;have x9:=XW.out.c 9 rfl;have x10:=XW.out.c 10 rfl;go_wp2_with fail;refine hcall.mono ?_;clear hcall x0 x1 x2 x3 x4 x5 x6 x7 x8 x9 x10 y0;rintro e' W2 ⟨rfl,hg2⟩;have HG2 : Hid (Grew w W2):=BW.out.trans hg2;have X2 : Hid (Box W2 w.heap.size [.slice V.f.a V.f.n V.f.c,.int .i64 m.hand,.slice V.s.a V.s.n V.s.c,.slice V.sb.a V.sb.n V.sb.c,.slice V.sq.a V.sq.n V.sq.c,.slice V.db.a V.db.n V.db.c,.slice V.dq.a V.dq.n V.dq.c,.slice V.fl.a V.fl.n V.fl.c,.int .i64 m.cnt,.slice V.ca.a V.ca.n V.ca.c,.slice V.sp.a V.sp.n V.sp.c]):=XW.out.grew hg2;have Y2 : Hid (Box W2 (w.heap.size + 1) (chk.map fnV)):=YW.out.grew hg2;clear hg2 eg
   by_cases h0 : e = 0
   ·have h0e : (e != 0) = false:=by simp [h0]
    have OW' : Hid (∀ j,j < kk + 1→(chkE m)[j]?.getD 0 = 0):=show ∀ j,_ from fun j hj=>by
     by_cases ej : j = kk
     ·rw [ej,HE.out,h0];rfl
     ·exact OW.out j (by omega)
    clear h0;go_wp2
    go_roundg (6 - (kk + 1))
    case measure=>omega
    case rel=>exact ⟨kk + 1,by omega,by omega,by go_num,HG2.out,X2.out,Y2.out,OW'.out⟩
   ·have h0e : (e != 0) = true:=by simp [h0]
    have HZE : Hid (Z = e):=show _ = _ by
     rw [←HZ2.out];exact firstE_take (fun j x hj hx=>by have:=OW.out j hj; rw [hx] at this; exact this) HE.out h0
    clear h0;go_wp2;go_ret;exact ⟨by rw [HZE.out]; rfl,HG2.out⟩
  ·have hltz : ¬ (kk : Int) < 6:=by omega
   have : kk = 6:=by omega
   subst this;have HZE : Hid (Z = 0):=show _ = _ by
    rw [←HZ2.out];refine firstE_none fun j x hx=>?_
    have hj:=(List.getElem?_eq_some_iff.1 hx).1;have:=OW.out j (by simpa [chkE] using hj)
    rw [hx] at this;exact this
   go_wp2;go_ret;exact ⟨by rw [HZE.out]; rfl,BW.out⟩
theorem frMul64_one (n : Nat) (hn : n≤40) (w : World) :
  Calls Tryz.prog 159 #[.int .u64 1,.int .u64 (n : Int)] w fun e w'=>e = .returned (.tuple #[.int .u64 0,.int .u64 (n : Int)])∧w' = w:=by
 have m1 : bits .and .u64 1 4294967295 = 1:=Mul64.maskN 1 (by omega)
 have m2 : bits .and .u64 (n : Int) 4294967295 = (n : Int):=by rw [Mul64.maskN n (by omega)]; omega
 have m0 : bits .and .u64 0 4294967295 = 0:=Mul64.maskN 0 (by omega)
 have d1 : (n : Int) / 4294967296 = 0:=by omega
 have HM1 : Hid (bits .and .u64 1 4294967295 = 1):=m1;have HM2 : Hid (bits .and .u64 (n : Int) 4294967295 = (n : Int)):=m2;have HM0 : Hid (bits .and .u64 0 4294967295 = 0):=m0;have HD1 : Hid ((n : Int) / 4294967296 = 0):=d1;clear m1 m2 m0 d1
 go_enter Tryz.func159,Tryz.ntmps159
 go_wp2;have w0 : IntKind.u64.wrap 0 = 0:=Mul64.wrapN 0 (by omega)
 have wn : IntKind.u64.wrap (n : Int) = (n : Int):=Mul64.wrapN n (by omega)
 simp only [HM1.out,HM2.out,Int.one_mul,wn,HD1.out,w0,HM0.out,Int.mul_zero,Int.add_zero,Int.zero_ediv]
 go_ret2
 exact ⟨rfl,rfl⟩
theorem frMul_one (n : Nat) (hn : n≤40) (w : World) :
  Calls Tryz.prog 142 #[.int .u64 1,.int .u64 (n : Int)] w fun e w'=>e = .returned (.tuple #[.int .u64 0,.int .u64 (n : Int)])∧w' = w:=by
 have c64:=frMul64_one n hn w
 go_enter Tryz.func142,Tryz.ntmps142
 go_wp2_with (go_at_call 159; refine c64.mono ?_; rintro e w' ⟨rfl,hw⟩; rw [hw])
 go_ret2
 exact ⟨rfl,rfl⟩
theorem frSplice_row (m : List Fr) : ∀ (l : List Fr) (off : Nat),off + m.length≤l.length→splice (l.flatMap frv) (off * 13) (m.flatMap frv) = (l.take off ++ (m ++ l.drop (off + m.length))).flatMap frv:=fun l off h=>by
 have h1 : ∀ (l : List Fr) (j : Nat),j≤l.length→(l.flatMap frv).take (j * 13) = (l.take j).flatMap frv∧(l.flatMap frv).drop (j * 13) = (l.drop j).flatMap frv:=fun l j hj=>by
  have he : l.flatMap frv = (l.take j).flatMap frv ++ (l.drop j).flatMap frv:=by rw [←List.flatMap_append,List.take_append_drop]
  have hl : ((l.take j).flatMap frv).length = j * 13:=by rw [frRow_len,List.length_take,Nat.min_eq_left hj]
  constructor
  ·rw [he,←hl,List.take_left]
  ·rw [he,←hl,List.drop_left]
 unfold splice;rw [frRow_len m,←Nat.add_mul,(h1 l off (by omega)).1,(h1 l (off + m.length) h).2,List.flatMap_append,List.flatMap_append]
theorem frRun_copy_elts {w : World} (ty : TypeId) (base : Nat) (v : Value) (l : List Fr) (hown : frOwnRow base w v l) (g : Nat) (hg : v.ownBlock = some g) (off dLen dCap : Nat) (ad : Addr) (sLen sCap : Nat)
  (m : List Fr) (hm : m.length = Nat.min sLen dLen) (hsrc : Cells w ad (m.flatMap frv)) (hfit : off + m.length≤l.length) :
  ∃ w',(Builtin.copy_ #[25,25] ty #[.slice (some ⟨g,off * 13,none⟩) dLen dCap,.slice (some ad) sLen sCap]).run Tryz.prog w = .ok (goInt m.length) w'∧frOwnRow base w' v (l.take off ++ (m ++ l.drop (off + m.length)))∧w.grownBy w' (some g)∧w'.heap.size = w.heap.size:=by
 obtain ⟨i0,hi,_,hz1,_⟩:=info_parts Tryz.infoFrame;have hcl : (m.flatMap frv).length = m.length * 13:=frRow_len m;have hfit' : off * 13 + (m.flatMap frv).length≤l.length * 13:=by
  rw [hcl,←Nat.add_mul];exact Nat.mul_le_mul_right _ hfit
 obtain ⟨w',hr,h2,h3,h4⟩:=run_storeCells_row (P:=Tryz.prog) hown.1 hg (off * 13) (m.flatMap frv) hfit' (flatMap_one frv_one m);have hl:=run_loadCells_list (P:=Tryz.prog) w ad (m.flatMap frv) hsrc;rw [hcl] at hl;rw [frSplice_row m l off hfit] at h2;have hlen : (l.take off ++ (m ++ l.drop (off + m.length))).length = l.length:=by simp; omega
 refine ⟨w',?_,⟨by rw [hlen]; exact h2,by rw [hlen]; exact hown.2⟩,h3,h4⟩
 simp [Builtin.copy_,run_underlying Tryz.underlying25,Builtin.lenOf,Builtin.firstCells,sizeOf,typeInfo,hi,hz1,←hm,hl,hr]
theorem frWpList_copy_elts {w : World} {ops : Array Oper} {rest : List Oper} {o : Oper} {a : Act} {Q : Exit→Act→World→Prop} (hgd : o.guard = none) (d s : Operand) (ho : o.op = .call { callee:= .builtin .copy,args:=#[d,s],argTypes:=#[25,25] })
  (base : Nat) (v : Value) (l : List Fr) (hown : frOwnRow base w v l) (g : Nat) (hg : v.ownBlock = some g) (off dLen dCap : Nat) (dp : Addr) (hd : a.eval d = .slice (some dp) dLen dCap) (hdp : dp = ⟨g,off * 13,none⟩) (ad : Addr) (sLen sCap : Nat) (hs : a.eval s = .slice (some ad) sLen sCap)
  (m : List Fr) (hm : m.length = Nat.min sLen dLen) (hsrc : Cells w ad (m.flatMap frv)) (hfit : off + m.length≤l.length)
  (h : ∀ w',frOwnRow base w' v (l.take off ++ (m ++ l.drop (off + m.length)))→w.grownBy w' (some g)→w'.heap.size = w.heap.size→wpList Tryz.prog ops Q rest (a.put o.dst (goInt m.length)) w') : wpList Tryz.prog ops Q (o :: rest) a w:=by
 subst hdp;refine wpList_plain hgd fun K hK=>?_
 obtain ⟨w',hrun,h2,h3,h4⟩:=frRun_copy_elts o.type base v l hown g hg off dLen dCap ad sLen sCap m hm hsrc hfit;unfold Oper.wp
 simp [execOp,ho,resolve,invoke,builtin,hd,hs,hrun,Result.andThen]
 exact hK _ _ (h w' h2 h3 h4)
theorem frRep_step (q : Fr) (n m z : Nat) (_h : m≤n) (hz : z = Nat.min m (n - m)) : (List.replicate m q ++ List.replicate (n - m) fr0).take m ++ (List.replicate z q ++ (List.replicate m q ++ List.replicate (n - m) fr0).drop (m + z)) = List.replicate (m + z) q ++ List.replicate (n - (m + z)) fr0:=by
 have hzz : z≤n - m:=by rw [hz]; exact Nat.min_le_right _ _
 rw [List.take_append_of_le_length (by simp),List.take_of_length_le (by simp),List.drop_append,List.drop_of_length_le (by simp),List.nil_append,List.length_replicate,List.drop_replicate,←List.append_assoc,List.replicate_append_replicate]
 congr 2
 omega
theorem frRepeat_any (q : Fr) (x : Nat) (c n : Nat) (hn : n≤40) (hn1 : 1≤n) (w : World) (hv : frRowAt w (.slice (some ⟨x,0,none⟩) 1 c) [q]) :
  Calls Tryz.prog 111 #[.slice (some ⟨x,0,none⟩) 1 c,.int .i64 (n : Int)] w fun e w'=>∃ b,e = .returned b∧frNewRow w.heap.size w' b (List.replicate n q)∧Grew w w':=by
 have HC : Hid (Cells w ⟨x,0,none⟩ ([q].flatMap frv)):=by
  obtain ⟨⟨a,c',h1,_,h3⟩,_⟩:=hv;cases h1;exact h3 _ rfl
 clear hv;have hm:=frMul_one n hn w;have hnz : ¬ (n : Int) < 0:=by omega
 have hn2 : ¬ (9223372036854775807 : Int) < (n : Int):=by omega
 go_enter Tryz.func111,Tryz.ntmps111
 go_wp2_with (first
  | (go_at_call 142; refine hm.mono ?_; rintro e w' ⟨rfl,hw⟩; rw [hw])
  | (refine frWpList_make_row rfl (.tmp 29) rfl n rfl (by show n * 40≤_; omega) ?_; intro C ow; have OW : Hid (frOwnRow w.heap.size (w.alloc (.cells C 59)) (.slice (some ⟨w.heap.size,0,none⟩) n n) (List.replicate n fr0)):=ow; clear ow)
  | (refine frWpList_copy_elts rfl (.tmp 31) (.tmp 32) rfl w.heap.size (.slice (some ⟨w.heap.size,0,none⟩) n n) (List.replicate n fr0) OW.out w.heap.size rfl 0 n n _ rfl ?a1 _ 1 c rfl [q] ?a2 ?a3 ?a4 ?_))
 case a1=>simp
 case a2=>show 1 = Nat.min 1 n; exact (Nat.min_eq_left hn1).symm
 case a3=>exact HC.out.grew (grew_alloc _ _)
 case a4=>simp; omega
 intro W1 ow1 gr1 _;have OW1 : Hid (frOwnRow w.heap.size W1 (.slice (some ⟨w.heap.size,0,none⟩) n n) (List.replicate 1 q ++ List.replicate (n - 1) fr0)):=show frOwnRow _ _ _ (List.replicate 1 q ++ List.replicate (n - 1) fr0) by simpa [List.drop_replicate] using ow1
 have G1 : Hid (Grew w W1):=grew_grown (grew_alloc _ _) gr1 (Nat.le_refl _);clear ow1 gr1;go_wp2
 go_loopg [8] n (fun gg s8 wr=>∃ m : Nat,1≤m∧m≤n∧n - m≤gg∧s8 = .int .i64 m∧Hid (frOwnRow w.heap.size wr (.slice (some ⟨w.heap.size,0,none⟩) n n) (List.replicate m q ++ List.replicate (n - m) fr0))∧Hid (Grew w wr))
 case atStart=>exact ⟨1,Nat.le_refl _,hn1,by omega,rfl,OW1.out,G1.out⟩
 case round =>
  obtain ⟨m,hm1,hmn,hg,rfl,OF,GW⟩:=hrel
  by_cases hlt : m < n
  ·have hltz : (m : Int) < (n : Int):=by omega
   have hmnz : (m : Int)≤(n : Int):=by omega
   have OFd : Hid (frOwnRow w.heap.size wr.drew (.slice (some ⟨w.heap.size,0,none⟩) n n) (List.replicate m q ++ List.replicate (n - m) fr0)):=show frOwnRow _ _ _ _ from OF.out.grew (show Below _ _ _ from (Below.refl _ _).drew)
   obtain ⟨z,HZ⟩ : ∃ z,Hid (z = Nat.min m (n - m)):=⟨_,rfl⟩;have hz0 : z = min m (n - m):=HZ.out;have hz1 : 1≤z:=by omega
   have hz2 : z≤m:=by omega
   have hz3 : z≤n - m:=by omega
   clear hz0;have hsrc : Cells wr.drew ⟨w.heap.size,0,none⟩ ((List.replicate z q).flatMap frv):=fun j u hj=>by
    have h1:=OFd.out.1.cells rfl;refine h1 j u ?_;rw [List.flatMap_append,List.getElem?_append_left]
    ·rw [show m = z + (m - z) by omega,←List.replicate_append_replicate,List.flatMap_append,List.getElem?_append_left (List.getElem?_eq_some_iff.1 hj).1]
     exact hj
    ·have h3:=(List.getElem?_eq_some_iff.1 hj).1;rw [frRow_len] at h3 ⊢;simp only [List.length_replicate] at h3 ⊢;exact Nat.lt_of_lt_of_le h3 (Nat.mul_le_mul_right _ hz2)
   obtain ⟨W2,hrun,ow2,gr2,_⟩:=frRun_copy_elts 3 w.heap.size _ _ OFd.out w.heap.size rfl m (n - m) (n - m) ⟨w.heap.size,0,none⟩ m n (List.replicate z q) (by rw [List.length_replicate]; exact HZ.out) hsrc (by simp; omega)
   have hcopy : (Builtin.copy_ #[25,25] 3 #[.slice (some ⟨w.heap.size,m * 13,none⟩) (n - m) (n - m),.slice (some ⟨w.heap.size,0,none⟩) m n]).run Tryz.prog wr.drew = .ok (.int .i64 (z : Int)) W2:=by
    have h1:=hrun;rw [List.length_replicate] at h1;exact h1
   have OW2 : Hid (frOwnRow w.heap.size W2 (.slice (some ⟨w.heap.size,0,none⟩) n n) (List.replicate (m + z) q ++ List.replicate (n - (m + z)) fr0)):=show frOwnRow _ _ _ _ by
    rw [←frRep_step q n m z (by omega) HZ.out]
    rw [List.length_replicate] at ow2;exact ow2
   have GW2 : Hid (Grew w W2):=grew_grown (GW.out.trans (show Below _ _ _ from (Below.refl _ _).drew)) gr2 (Nat.le_refl _)
   clear hsrc hrun ow2 gr2;go_wp2
   go_region
   go_wp2
   go_roundg (n - (m + z))
   case measure=>omega
   case rel=>exact ⟨m + z,by omega,by omega,Nat.le_refl _,by go_num,OW2.out,GW2.out⟩
  ·have hltz : ¬ (m : Int) < (n : Int):=by omega
   have : m = n:=by omega
   subst this;have HO : Hid (frOwnRow w.heap.size wr (.slice (some ⟨w.heap.size,0,none⟩) m m) (List.replicate m q)):=show frOwnRow _ _ _ (List.replicate m q) by have:=OF.out; simpa using this
   go_wp2;go_ret;exact ⟨_,rfl,HO.out.new,GW.out⟩
def newME (n : Int) : Int:=if 0≤n∧n≤40 then 0 else 4
def newMF (n : Int) : List Fr:=if 0≤n∧n≤40 then List.replicate n.toNat frF else []
theorem repeat_zero (q : Fr) (x : Nat) (c : Nat) (w : World) :
  Calls Tryz.prog 111 #[.slice (some ⟨x,0,none⟩) 1 c,.int .i64 0] w fun e w'=>∃ b,e = .returned b∧frNewRow w.heap.size w' b (List.replicate 0 q)∧Grew w w':=by
 have hm:=frMul_one 0 (by omega) w
 go_enter Tryz.func111,Tryz.ntmps111
 go_wp2_with (first
  | (go_at_call 142; refine hm.mono ?_; rintro e w' ⟨rfl,hw⟩; rw [hw])
  | (refine frWpList_make_row rfl (.tmp 29) rfl 0 rfl (by show 0 * 40≤_; omega) ?_; intro C ow; have OW : Hid (frOwnRow w.heap.size (w.alloc (.cells C 59)) (.slice (some ⟨w.heap.size,0,none⟩) 0 0) (List.replicate 0 fr0)):=ow; clear ow)
  | (refine frWpList_copy_elts rfl (.tmp 31) (.tmp 32) rfl w.heap.size (.slice (some ⟨w.heap.size,0,none⟩) 0 0) (List.replicate 0 fr0) OW.out w.heap.size rfl 0 0 0 _ rfl ?a1 _ 1 c rfl [] ?a2 ?a3 ?a4 ?_))
 case a1=>simp
 case a2=>rfl
 case a3=>intro j u hj; simp at hj
 case a4=>simp
 intro W1 ow1 gr1 _;have OW1 : Hid (frOwnRow w.heap.size W1 (.slice (some ⟨w.heap.size,0,none⟩) 0 0) (List.replicate 0 q)):=show frOwnRow _ _ _ ([] : List Fr) by simpa using ow1
 have G1 : Hid (Grew w W1):=grew_grown (grew_alloc _ _) gr1 (Nat.le_refl _);clear ow1 gr1;go_wp2
 go_loopg [8] 0 (fun _ s8 wr=>s8 = .int .i64 0∧wr = W1)
 case atStart=>exact ⟨rfl,rfl⟩
 case round =>
  obtain ⟨rfl,rfl⟩:=hrel;go_wp2;go_ret;exact ⟨_,rfl,OW1.out.new,G1.out⟩
theorem newMem_nat (n : Nat) (hn : n≤40) (w : World) :
  Calls Tryz.prog 66 #[.int .i64 (n : Int)] w fun e w'=>∃ b,e = .returned (.tuple #[.agg #[b,.int .i64 0],.int .i64 0])∧frNewRow w.heap.size w' b (List.replicate n frF)∧Grew w w':=by
 have hnz : ¬ (n : Int) < 0:=by omega
 have hn4 : ¬ (40 : Int) < (n : Int):=by omega
 have hrep : ∀ W x,Box W x (frv frF)→Calls Tryz.prog 111 #[.slice (some ⟨x,0,none⟩) 1 1,.int .i64 (n : Int)] W fun e w'=>∃ b,e = .returned b∧frNewRow W.heap.size w' b (List.replicate n frF)∧Grew W w':=fun W x hx=>by
  by_cases h1 : 1≤n
  ·refine frRepeat_any frF x 1 n hn h1 W ⟨⟨_,1,rfl,fun h=>(by cases h),fun y hy=>?_⟩,by show 1 * 40≤_; omega⟩
   cases hy;intro j u hj;rw [Addr.add_lit,Nat.zero_add];exact hx.c j (by have h:=hj; simp only [List.flatMap_cons,List.flatMap_nil,List.append_nil] at h; exact h)
  ·have : n = 0:=by omega
   subst this;exact repeat_zero frF x 1 W
 go_enter Tryz.func66,Tryz.ntmps66
 go_wp2_with fail;refine (freeFrame_any _).mono ?_;rintro e W1 ⟨rfl,g1⟩;have X2 : Hid (Box W1 w.heap.size [.slice none 0 0,.int .i64 0]):=(Box.top w [.slice none 0 0,.int .i64 0] _ rfl).grew g1;have G1 : Hid (Grew w W1):=(grew_alloc _ _).trans g1;clear g1;simp only [frv,frF,pg0];go_wp2_with fail;refine (hrep _ _ (Box.top W1 _ _ rfl)).mono ?_;rintro e W2 ⟨b,rfl,hb,g2⟩;obtain ⟨a2,c2,rfl,_⟩:=hb.1.rows;rw [List.length_replicate] at hb ⊢;have NB : Hid (frNewRow W1.heap.size W2 (.slice a2 n c2) (List.replicate n frF)):=hb.base (by simp)
 have X22:=(X2.out.alloc (.cells #[.int .u8 0,.int .u8 0,.int .u8 0,.int .u8 0,.int .u8 0,.int .u8 0,.int .u8 0,.int .u8 0,.int .i64 0,.bool false,.bool false,.int .i64 (-1),.int .i64 0] 59)).grew g2;have G2 : Hid (Grew w W2):=(G1.out.trans (grew_alloc _ _)).trans g2;have r0:=X22.c 0 rfl;have r1:=X22.c 1 rfl;have rf:=X22.f;have HX : Hid (w.heap.size < W1.heap.size):=X2.out.lt;clear hb g2 X22;go_wp2;refine bodyPost_ret (v:= .tuple #[.agg #[.slice a2 n c2,.int .i64 0],.int .i64 0]) (by simp [results,Tryz.results66,go_sem, *]) rfl ⟨_,rfl,?_,?_⟩
 ·exact ((NB.out.setCell (a:=⟨w.heap.size,0,none⟩) HX.out _).setCell (a:=⟨w.heap.size,1,none⟩) HX.out _).base (Below.size G1.out)
 ·exact grew_set (grew_set G2.out (by simp) _) (by simp) _
theorem newMem_bad (n : Int) (hn : ¬ (0≤n∧n≤40)) (w : World) :
  Calls Tryz.prog 66 #[.int .i64 n] w fun e w'=>∃ b,e = .returned (.tuple #[.agg #[b,.int .i64 0],.int .i64 4])∧frNewRow w.heap.size w' b ([] : List Fr)∧Grew w w':=by
 by_cases h0 : n < 0
 ·go_enter Tryz.func66,Tryz.ntmps66
  go_wp2;refine bodyPost_ret (v:= .tuple #[.agg #[.slice none 0 0,.int .i64 0],.int .i64 4]) (by simp [results,Tryz.results66,go_sem, *]) rfl ⟨_,rfl,frNewRow.nil _ _,?_⟩
  exact grew_alloc _ _
 ·have h1 : 40 < n:=by omega
  go_enter Tryz.func66,Tryz.ntmps66
  go_wp2;refine bodyPost_ret (v:= .tuple #[.agg #[.slice none 0 0,.int .i64 0],.int .i64 4]) (by simp [results,Tryz.results66,go_sem, *]) rfl ⟨_,rfl,frNewRow.nil _ _,?_⟩
  exact grew_alloc _ _
theorem newS_nat (n : Nat) (hn : n≤60) (w : World) :
  Calls Tryz.prog 67 #[.int .i64 (n : Int)] w fun e w'=>∃ a' c',e = .returned (.tuple #[.slice a' n c',.int .i64 0])∧NewRow slE w.heap.size w' (.slice a' n c') (List.replicate n 0)∧Grew w w':=by
 have hnz : ¬ (n : Int) < 0:=by omega
 have hn4 : ¬ (60 : Int) < (n : Int):=by omega
 go_enter Tryz.func67,Tryz.ntmps67
 go_wp2_with (refine wpList_make_row slE rfl (.tmp 10) rfl n rfl (by show n * 8≤_; omega) ?_)
 intro C ow;have OW : Hid (OwnRow slE w.heap.size (w.alloc (.cells C 3)) (.slice (some ⟨w.heap.size,0,none⟩) n n) (List.replicate n 0)):=ow;clear ow
 show wpList _ _ _ _ _ (w.alloc (.cells C 3))
 obtain ⟨W1,hW1⟩ : ∃ W1,w.alloc (.cells C 3) = W1:=⟨_,rfl⟩;have G1 : Hid (Grew w W1):=show Grew _ _ by rw [←hW1]; exact grew_alloc _ _
 rw [hW1] at OW ⊢;clear hW1;go_wp2;refine bodyPost_ret (v:= .tuple #[.slice (some ⟨w.heap.size,0,none⟩) n n,.int .i64 0]) (by simp [results,Tryz.results67,go_sem, *]) rfl ⟨_,_,rfl,OW.out.new,G1.out⟩
theorem newS_bad (n : Int) (hn : ¬ (0≤n∧n≤60)) (w : World) :
  Calls Tryz.prog 67 #[.int .i64 n] w fun e w'=>e = .returned (.tuple #[.slice none 0 0,.int .i64 4])∧Grew w w':=by
 by_cases h0 : n < 0
 ·clear hn
  go_enter Tryz.func67,Tryz.ntmps67
  go_wp2;refine bodyPost_ret (v:= .tuple #[.slice none 0 0,.int .i64 4]) (by simp [results,Tryz.results67,go_sem, *]) rfl ⟨rfl,Grew.refl _⟩
 ·have h1 : 60 < n:=by omega
  clear hn
  go_enter Tryz.func67,Tryz.ntmps67
  go_wp2;refine bodyPost_ret (v:= .tuple #[.slice none 0 0,.int .i64 4]) (by simp [results,Tryz.results67,go_sem, *]) rfl ⟨rfl,Grew.refl _⟩
theorem newSt_any (n : Int) (w : World) :
  Calls Tryz.prog 69 #[.int .i64 n] w fun e w'=>e = .returned (.tuple #[.agg #[.slice none 0 0,.int .i64 (if 0≤n∧n≤80 then n else 0)],.int .i64 (if 0≤n∧n≤80 then 0 else 4)])∧Grew w w':=by
 by_cases h : 0≤n∧n≤80
 ·rw [if_pos h,if_pos h];have hb:=fun W=>below_yes (m:=n) (n:=81) h.1 (by omega) W
  clear h
  go_enter Tryz.func69,Tryz.ntmps69
  go_wp2_with (go_at_call 113; refine (hb _).mono ?_; rintro e w' ⟨rfl,rfl⟩)
  refine bodyPost_ret (v:= .tuple #[.agg #[.slice none 0 0,.int .i64 n],.int .i64 0]) (by simp [results,Tryz.results69,go_sem, *]) rfl ⟨rfl,?_⟩
  first | exact grew_alloc _ _ | exact Below.setCell (Below.setCell (grew_alloc _ _) (p:=⟨w.heap.size,0,none⟩) (by simp) _) (p:=⟨w.heap.size,1,none⟩) (by simp) _
 ·rw [if_neg h,if_neg h];have hb:=fun W=>below_no (m:=n) (n:=81) (by omega) W
  clear h
  go_enter Tryz.func69,Tryz.ntmps69
  go_wp2_with (go_at_call 113; refine (hb _).mono ?_; rintro e w' ⟨rfl,rfl⟩)
  refine bodyPost_ret (v:= .tuple #[.agg #[.slice none 0 0,.int .i64 0],.int .i64 4]) (by simp [results,Tryz.results69,go_sem, *]) rfl ⟨rfl,?_⟩
  first | exact grew_alloc _ _ | exact Below.setCell (Below.setCell (grew_alloc _ _) (p:=⟨w.heap.size,0,none⟩) (by simp) _) (p:=⟨w.heap.size,1,none⟩) (by simp) _
def newSE (n : Int) : Int:=if 0≤n∧n≤60 then 0 else 4
def newSL (n : Int) : List Int:=if 0≤n∧n≤60 then List.replicate n.toNat 0 else []
theorem newMem_all (n : Int) (w : World) : Calls Tryz.prog 66 #[.int .i64 n] w fun e w'=>∃ s : Sli,e = .returned (.tuple #[.agg #[.slice s.a s.n s.c,.int .i64 0],.int .i64 (newME n)])∧(RowAt frmE w' (.slice s.a s.n s.c) (newMF n)∧fresh w.heap.size (.slice s.a s.n s.c))∧Grew w w':=by
 by_cases h : 0≤n∧n≤40
 ·obtain ⟨k,rfl⟩ : ∃ k : Nat,n = (k : Int):=⟨n.toNat,by omega⟩
  refine (newMem_nat k (by omega) w).mono ?_
  rintro e w' ⟨b,rfl,h1,h2⟩;obtain ⟨a,c,rfl,_⟩:=h1.1.rows;refine ⟨⟨a,(List.replicate k frF).length,c⟩,?_,⟨?_,h1.2⟩,h2⟩
  ·unfold newME; rw [if_pos h]
  ·unfold newMF; rw [if_pos h]; exact h1.1
 ·refine (newMem_bad n h w).mono ?_;rintro e w' ⟨b,rfl,h1,h2⟩;obtain ⟨a,c,rfl,_⟩:=h1.1.rows;refine ⟨⟨a,([] : List Fr).length,c⟩,?_,⟨?_,h1.2⟩,h2⟩
  ·unfold newME; rw [if_neg h]
  ·unfold newMF; rw [if_neg h]; exact h1.1
theorem newS_all (n : Int) (w : World) : Calls Tryz.prog 67 #[.int .i64 n] w fun e w'=>∃ s : Sli,e = .returned (.tuple #[.slice s.a s.n s.c,.int .i64 (newSE n)])∧(RowAt slE w' (.slice s.a s.n s.c) (newSL n)∧fresh w.heap.size (.slice s.a s.n s.c))∧Grew w w':=by
 by_cases h : 0≤n∧n≤60
 ·obtain ⟨k,rfl⟩ : ∃ k : Nat,n = (k : Int):=⟨n.toNat,by omega⟩
  refine (newS_nat k (by omega) w).mono ?_
  rintro e w' ⟨a,c,rfl,h1,h2⟩;refine ⟨⟨a,k,c⟩,?_,⟨?_,h1.2⟩,h2⟩
  ·unfold newSE; rw [if_pos h]
  ·unfold newSL; rw [if_pos h]; exact h1.1
 ·refine (newS_bad n h w).mono ?_;rintro e w' ⟨rfl,h2⟩;refine ⟨⟨none,0,0⟩,?_,⟨?_,fresh_nil _⟩,h2⟩
  ·unfold newSE; rw [if_neg h]
  ·unfold newSL; rw [if_neg h]; exact RowAt.nil slE w'
theorem newDk_all (n : Int) (w : World) : Calls Tryz.prog 68 #[.int .i64 n] w fun e w'=>∃ b q : Sli,e = .returned (.tuple #[.agg #[.slice b.a b.n b.c,.slice q.a q.n q.c],.int .i64 (newErr n)])∧(PagesAt w' (.slice b.a b.n b.c) (newD n)∧PutsAt w' (.slice q.a q.n q.c) []∧fresh w.heap.size (.slice b.a b.n b.c)∧fresh w.heap.size (.slice q.a q.n q.c))∧Grew w w':=by
 refine (new_any n w).mono ?_;rintro e w' ⟨d,rfl,⟨b,q,rfl,h1,h2,f1,f2⟩,h3⟩;obtain ⟨a,c,rfl,_⟩:=h1.rows;obtain ⟨a',c',rfl,_⟩:=h2.rows;exact ⟨⟨a,(newD n).length,c⟩,⟨a',([] : List (Int × List Int)).length,c'⟩,rfl,⟨h1,h2,f1,f2⟩,h3⟩
theorem SliceAt.beside {α : Type} {enc : α→List Value} {w w' : World} {row : Option Nat} {v : Value} {l : List α} (h : SliceAt enc w v l) (hg : w.grownBy w' row) (hn : ∀ x n c,v = .slice (some x) n c→some x.block≠row) : SliceAt enc w' v l:=by
 obtain ⟨a,c,h1,h2,h3⟩:=h;refine ⟨a,c,h1,h2,fun x hx j u hj=>?_⟩
 subst hx;have hc:=h3 x rfl j u hj;rw [World.cell?_of_block (w:=w) (hg.block _ (World.block_lt_of_cell? _ _ hc) (by rw [add_block]; exact hn x _ _ h1))]
 exact hc
def fewB (f s b : Int) : Prop:=(0≤f∧f≤40)∧(0≤s∧s≤60)∧(0≤b∧b≤80)
def newMa (f s b : Int) : Ma:=⟨List.replicate f.toNat frF,0,List.replicate s.toNat 0,List.replicate s.toNat zero8,[],List.replicate b.toNat zero8,[],[],b,[],[⟨true,[],none8⟩]⟩
def newEs (f s b : Int) : List Int:=[newME f,newSE s,newErr s,newErr b,if 0≤b∧b≤80 then 0 else 4]
theorem newEs_few {f s b : Int} (h : fewB f s b) : firstE (newEs f s b) = 0:=by
 obtain ⟨h1,h2,h3⟩:=h;unfold newEs newME newSE newErr;rw [if_pos h1,if_pos h2,if_pos (by omega),if_pos h3]
 rfl
theorem newEs_many {f s b : Int} (h : ¬ fewB f s b) : firstE (newEs f s b) = 4:=by
 unfold newEs newME newSE newErr;simp only [firstE_cons,firstE_nil]
 by_cases h1 : 0≤f∧f≤40
 ·by_cases h2 : 0≤s∧s≤60
  ·by_cases h3 : 0≤b∧b≤80
   ·exact absurd ⟨h1,h2,h3⟩ h
   ·simp [h1,h2,h3,show s≤80 by omega]
  ·simp [h1,h2]
 ·simp [h1]
theorem newM_any (cf cs cb : Int) (w : World) :
  Calls Tryz.prog 19 #[.agg #[.int .i64 cf,.int .i64 cs,.int .i64 cb]] w fun e w'=>((fewB cf cs cb∧∃ V : MaV,e = .returned (.tuple #[.agg #[.slice V.f.a V.f.n V.f.c,.int .i64 0,.slice V.s.a V.s.n V.s.c,.slice V.sb.a V.sb.n V.sb.c,.slice V.sq.a V.sq.n V.sq.c,.slice V.db.a V.db.n V.db.c,.slice V.dq.a V.dq.n V.dq.c,.slice V.fl.a V.fl.n V.fl.c,.int .i64 cb,.slice V.ca.a V.ca.n V.ca.c,.slice V.sp.a V.sp.n V.sp.c],.int .i64 0])∧MachAt w' V (newMa cf cs cb))∨(¬ fewB cf cs cb∧e = .returned (.tuple #[.agg #[.slice none 0 0,.int .i64 0,.slice none 0 0,.slice none 0 0,.slice none 0 0,.slice none 0 0,.slice none 0 0,.slice none 0 0,.int .i64 0,.slice none 0 0,.slice none 0 0],.int .i64 4])))∧Grew w w':=by
 obtain ⟨W0,hW0⟩ : ∃ W0,(w.alloc (.cells #[.int .i64 cf,.int .i64 cs,.int .i64 cb] 23)).alloc (.cells #[.slice none 0 0,.int .i64 0,.slice none 0 0,.slice none 0 0,.slice none 0 0,.slice none 0 0,.slice none 0 0,.slice none 0 0,.int .i64 0,.slice none 0 0,.slice none 0 0] 40) = W0:=⟨_,rfl⟩;have HG0 : Hid (Grew w W0):=show Grew _ _ by rw [←hW0]; exact (grew_alloc _ _).trans (grew_alloc _ _)
 have X0 : Hid (Box W0 w.heap.size [.int .i64 cf,.int .i64 cs,.int .i64 cb]):=show Box _ _ _ by rw [←hW0]; exact (Box.top _ _ _ rfl).alloc _
 have Y0 : Hid (Box W0 (w.heap.size + 1) [.slice none 0 0,.int .i64 0,.slice none 0 0,.slice none 0 0,.slice none 0 0,.slice none 0 0,.slice none 0 0,.slice none 0 0,.int .i64 0,.slice none 0 0,.slice none 0 0]):=show Box _ _ _ by rw [←hW0]; exact Box.top _ _ _ (by simp)
 have HW0 : Hid (_ = W0):=hW0;clear hW0;obtain ⟨e1,HE1⟩ : ∃ e,Hid (newME cf = e):=⟨_,rfl⟩;obtain ⟨e2,HE2⟩ : ∃ e,Hid (newSE cs = e):=⟨_,rfl⟩;obtain ⟨e3,HE3⟩ : ∃ e,Hid (newErr cs = e):=⟨_,rfl⟩;obtain ⟨e4,HE4⟩ : ∃ e,Hid (newErr cb = e):=⟨_,rfl⟩;obtain ⟨e5,HE5⟩ : ∃ e : Int,Hid ((if 0≤cb∧cb≤80 then (0 : Int) else 4) = e):=⟨_,rfl⟩;obtain ⟨z5,HZ5⟩ : ∃ e : Int,Hid ((if 0≤cb∧cb≤80 then cb else 0) = e):=⟨_,rfl⟩;have h1:=fun W=>newMem_all cf W
 have h2:=fun W=>newS_all cs W
 have h3:=fun W=>newDk_all cs W
 have h4:=fun W=>newDk_all cb W
 have h5:=fun W=>newSt_any cb W
 rw [HE1.out] at h1;rw [HE2.out] at h2;rw [HE3.out] at h3;rw [HE4.out] at h4;rw [HE5.out,HZ5.out] at h5;have HES : Hid (newEs cf cs cb = [e1,e2,e3,e4,e5]):=show _ = _ by unfold newEs; rw [HE1.out,HE2.out,HE3.out,HE4.out,HE5.out]
 have H1 : Hid (∀ W,_):=h1;have H2 : Hid (∀ W,_):=h2;have H3 : Hid (∀ W,_):=h3;have H4 : Hid (∀ W,_):=h4;have H5 : Hid (∀ W,_):=h5;clear h1 h2 h3 h4 h5
 go_enter Tryz.func19,Tryz.ntmps19
 go_upto_region 1 with fail;rw [HW0.out];have x0:=X0.out.c 0 rfl;go_wp2_with fail;refine (H1.out _).mono ?_;rintro e W1 ⟨mf,rfl,⟨r1,f1⟩,g1⟩;clear x0;have R1 : Hid (RowAt frmE W1 (.slice mf.a mf.n mf.c) (newMF cf)):=r1;have HG1 : Hid (Grew W0 W1):=g1;have FR1 : Hid (fresh W0.heap.size (.slice mf.a mf.n mf.c)):=f1;clear r1 g1 f1;go_upto_region 2 with fail;obtain ⟨W2,hW2⟩ : ∃ W2,W1.alloc (.cells #[.slice mf.a mf.n mf.c,.int .i64 0] 27) = W2:=⟨_,rfl⟩;have HG2 : Hid (Grew W1 W2):=show Grew _ _ by rw [←hW2]; exact grew_alloc _ _
 have B2 : Hid (Box W2 W1.heap.size [.slice mf.a mf.n mf.c,.int .i64 0]):=show Box _ _ _ by rw [←hW2]; exact Box.top _ _ _ rfl
 rw [hW2];clear hW2;obtain ⟨p2,HP2⟩ : ∃ p,Hid (W1.heap.size = p):=⟨_,rfl⟩;rw [HP2.out] at B2 ⊢;have x1:=(X0.out.grew (HG1.out.trans HG2.out)).c 1 rfl;go_wp2_with fail;refine (H2.out _).mono ?_;rintro e W3 ⟨ms,rfl,⟨r3,f3⟩,g3⟩;clear x1;have R3 : Hid (RowAt slE W3 (.slice ms.a ms.n ms.c) (newSL cs)):=r3;have HG3 : Hid (Grew W2 W3):=g3;have HG03 : Hid (Grew W0 W3):=(HG1.out.trans HG2.out).trans g3;have FR3 : Hid (fresh W2.heap.size (.slice ms.a ms.n ms.c)):=f3;clear r3 g3 f3;have x1:=(X0.out.grew HG03.out).c 1 rfl;go_upto_region 3 with fail;go_wp2_with fail;refine (H3.out _).mono ?_;rintro e W4 ⟨mb,mq,rfl,⟨r4,r5,f4,f5⟩,g4⟩;clear x1;have R4 : Hid (PagesAt W4 (.slice mb.a mb.n mb.c) (newD cs)):=r4;have R5 : Hid (PutsAt W4 (.slice mq.a mq.n mq.c) []):=r5;have HG4 : Hid (Grew W3 W4):=g4;have FR4 : Hid (fresh W3.heap.size (.slice mb.a mb.n mb.c)):=f4;have FR5 : Hid (fresh W3.heap.size (.slice mq.a mq.n mq.c)):=f5;clear r4 r5 g4 f4 f5;go_upto_region 4 with fail;obtain ⟨W5,hW5⟩ : ∃ W5,W4.alloc (.cells #[.slice mb.a mb.n mb.c,.slice mq.a mq.n mq.c] 33) = W5:=⟨_,rfl⟩;have HG5 : Hid (Grew W4 W5):=show Grew _ _ by rw [←hW5]; exact grew_alloc _ _
 have B5 : Hid (Box W5 W4.heap.size [.slice mb.a mb.n mb.c,.slice mq.a mq.n mq.c]):=show Box _ _ _ by rw [←hW5]; exact Box.top _ _ _ rfl
 rw [hW5];clear hW5;obtain ⟨p5,HP5⟩ : ∃ p,Hid (W4.heap.size = p):=⟨_,rfl⟩;rw [HP5.out] at B5 ⊢;have HG05 : Hid (Grew W0 W5):=(HG03.out.trans HG4.out).trans HG5.out;have x2:=(X0.out.grew HG05.out).c 2 rfl;go_wp2_with fail;refine (H4.out _).mono ?_;rintro e W6 ⟨md,me,rfl,⟨r6,r7,f6,f7⟩,g6⟩;clear x2;have R6 : Hid (PagesAt W6 (.slice md.a md.n md.c) (newD cb)):=r6;have R7 : Hid (PutsAt W6 (.slice me.a me.n me.c) []):=r7;have HG6 : Hid (Grew W5 W6):=g6;have FR6 : Hid (fresh W5.heap.size (.slice md.a md.n md.c)):=f6;have FR7 : Hid (fresh W5.heap.size (.slice me.a me.n me.c)):=f7;clear r6 r7 g6 f6 f7;go_upto_region 5 with fail;obtain ⟨W7,hW7⟩ : ∃ W7,W6.alloc (.cells #[.slice md.a md.n md.c,.slice me.a me.n me.c] 33) = W7:=⟨_,rfl⟩;have HG7 : Hid (Grew W6 W7):=show Grew _ _ by rw [←hW7]; exact grew_alloc _ _
 have B7 : Hid (Box W7 W6.heap.size [.slice md.a md.n md.c,.slice me.a me.n me.c]):=show Box _ _ _ by rw [←hW7]; exact Box.top _ _ _ rfl
 rw [hW7];clear hW7;obtain ⟨p7,HP7⟩ : ∃ p,Hid (W6.heap.size = p):=⟨_,rfl⟩;rw [HP7.out] at B7 ⊢;have HG07 : Hid (Grew W0 W7):=(HG05.out.trans HG6.out).trans HG7.out;have x2:=(X0.out.grew HG07.out).c 2 rfl;go_wp2_with fail;refine (H5.out _).mono ?_;rintro e W8 ⟨rfl,g8⟩;clear x2;have HG8 : Hid (Grew W7 W8):=g8;clear g8;go_upto_region 6 with fail;obtain ⟨W9,hW9⟩ : ∃ W9,W8.alloc (.cells #[.slice none 0 0,.int .i64 z5] 36) = W9:=⟨_,rfl⟩;have HG9 : Hid (Grew W8 W9):=show Grew _ _ by rw [←hW9]; exact grew_alloc _ _
 have B9 : Hid (Box W9 W8.heap.size [.slice none 0 0,.int .i64 z5]):=show Box _ _ _ by rw [←hW9]; exact Box.top _ _ _ rfl
 rw [hW9];clear hW9;obtain ⟨p9,HP9⟩ : ∃ p,Hid (W8.heap.size = p):=⟨_,rfl⟩;rw [HP9.out] at B9 ⊢;obtain ⟨E,HE⟩ : ∃ E,Hid (firstE [e1,e2,e3,e4,e5] = E):=⟨_,rfl⟩;have hor:=orErr_any (.slice (some ⟨W9.heap.size,0,none⟩) 5 5) [e1,e2,e3,e4,e5] _ (row_lit errE W9 [e1,e2,e3,e4,e5] #[.int .i64 e1,.int .i64 e2,.int .i64 e3,.int .i64 e4,.int .i64 e5] rfl (show 5 * 8≤140737488355328 by decide))
 rw [HE.out] at hor;go_wp2_with fail;refine hor.mono ?_;rintro e W10 ⟨rfl,hw10⟩;clear hor;have HG10 : Hid (Grew W9 W10):=show Grew _ _ by rw [hw10]; exact grew_alloc _ _
 clear hw10;have HGW : Hid (Grew W0 W10):=((HG07.out.trans HG8.out).trans HG9.out).trans HG10.out;have Y10 : Hid (Box W10 (w.heap.size + 1) [.slice none 0 0,.int .i64 0,.slice none 0 0,.slice none 0 0,.slice none 0 0,.slice none 0 0,.slice none 0 0,.slice none 0 0,.int .i64 0,.slice none 0 0,.slice none 0 0]):=Y0.out.grew HGW.out
 by_cases hfew : fewB cf cs cb
 ·have hE0 : E = 0:=by rw [←HE.out,←HES.out]; exact newEs_few hfew
  subst hE0;have b20:=(B2.out.grew ((((((HG3.out.trans HG4.out).trans HG5.out).trans HG6.out).trans HG7.out).trans HG8.out).trans (HG9.out.trans HG10.out))).c 0 rfl;have b21:=(B2.out.grew ((((((HG3.out.trans HG4.out).trans HG5.out).trans HG6.out).trans HG7.out).trans HG8.out).trans (HG9.out.trans HG10.out))).c 1 rfl;have b50:=(B5.out.grew (((HG6.out.trans HG7.out).trans HG8.out).trans (HG9.out.trans HG10.out))).c 0 rfl;have b51:=(B5.out.grew (((HG6.out.trans HG7.out).trans HG8.out).trans (HG9.out.trans HG10.out))).c 1 rfl;have b70:=(B7.out.grew ((HG8.out).trans (HG9.out.trans HG10.out))).c 0 rfl;have b71:=(B7.out.grew ((HG8.out).trans (HG9.out.trans HG10.out))).c 1 rfl;have b90:=(B9.out.grew HG10.out).c 0 rfl;have b91:=(B9.out.grew HG10.out).c 1 rfl;have HFEW : Hid (fewB cf cs cb):=hfew;clear hfew;go_upto_region 9 with fail;obtain ⟨W11,hW11⟩ : ∃ W11,W10.alloc (.cells #[.bool true,.slice none 0 0,.slice none 0 0,.slice none 0 0,.slice none 0 0,.slice none 0 0,.slice none 0 0,.slice none 0 0,.slice none 0 0,.slice none 0 0] 65) = W11:=⟨_,rfl⟩;have HG11 : Hid (Grew W10 W11):=show Grew _ _ by rw [←hW11]; exact grew_alloc _ _
  have S11 : Hid (RowAt spcE W11 (.slice (some ⟨W10.heap.size,0,none⟩) 1 1) [⟨true,sli0,sli0,sli0,sli0,sli0,sli0,sli0,sli0,sli0⟩]):=show RowAt _ _ _ _ by rw [←hW11]; exact one_row spcE W10 ⟨true,sli0,sli0,sli0,sli0,sli0,sli0,sli0,sli0,sli0⟩ _ _ rfl (by decide)
  have Y11 : Hid (Box W11 (w.heap.size + 1) [.slice none 0 0,.int .i64 0,.slice none 0 0,.slice none 0 0,.slice none 0 0,.slice none 0 0,.slice none 0 0,.slice none 0 0,.int .i64 0,.slice none 0 0,.slice none 0 0]):=Y10.out.grew HG11.out;have HW11 : Hid (_ = W11):=hW11;clear hW11;obtain ⟨ps,HPS⟩ : ∃ p,Hid (W10.heap.size = p):=⟨_,rfl⟩
  go_wp2_with (first | (rw [HW11.out]; rw [HPS.out]; refine wp_storeAll rfl 40 (.tmp 2) (.tmp 63) rfl (w.heap.size + 1) rfl [.slice mf.a mf.n mf.c,.int .i64 0,.slice ms.a ms.n ms.c,.slice mb.a mb.n mb.c,.slice mq.a mq.n mq.c,.slice md.a md.n md.c,.slice me.a me.n me.c,.slice none 0 0,.int .i64 z5,.slice none 0 0,.slice (some ⟨ps,0,none⟩) 1 1] rfl Y11.out rfl (by kernel_rfl) (fun v hv=>by
    simp only [List.mem_cons,List.not_mem_nil,or_false] at hv
    rcases hv with rfl | rfl | rfl | rfl | rfl | rfl | rfl | rfl | rfl | rfl | rfl <;> rfl) ?_))
  intro W12 hb12 hg12 _;clear b20 b21 b50 b51 b70 b71 b90 b91;have HG12 : Hid (Grew w W12):=show Grew _ _ from grew_grown ((HG0.out.trans HGW.out).trans HG11.out) hg12 (by omega)
  have HS0 : w.heap.size + 1 < W0.heap.size:=Y0.out.lt;have k1:=Below.size HG1.out;have k2:=Below.size HG2.out;have k3:=Below.size HG3.out;have k4:=Below.size HG4.out;have k5:=Below.size HG5.out;have kw:=Below.size HGW.out;have far : ∀ {b : Nat} {v : Value},W0.heap.size≤b→fresh b v→∀ x n c,v = .slice (some x) n c→some x.block≠some (w.heap.size + 1):=fun hb hf x n c hv e=>by
   have:=hf x n c hv;simp only [Option.some.injEq] at e;omega
  have t1 : Grew W1 W11:=((((((HG2.out.trans HG3.out).trans HG4.out).trans HG5.out).trans HG6.out).trans HG7.out).trans HG8.out).trans ((HG9.out.trans HG10.out).trans HG11.out);have t3 : Grew W3 W11:=((((HG4.out.trans HG5.out).trans HG6.out).trans HG7.out).trans HG8.out).trans ((HG9.out.trans HG10.out).trans HG11.out);have t4 : Grew W4 W11:=(((HG5.out.trans HG6.out).trans HG7.out).trans HG8.out).trans ((HG9.out.trans HG10.out).trans HG11.out);have t6 : Grew W6 W11:=(HG7.out.trans HG8.out).trans ((HG9.out.trans HG10.out).trans HG11.out);have HMA : Hid (MachAt W12 ⟨mf,ms,mb,mq,md,me,sli0,sli0,⟨some ⟨ps,0,none⟩,1,1⟩⟩ (newMa cf cs cb)):=show MachAt _ _ _ by
   obtain ⟨hf1,hf2,hf3⟩:=HFEW.out;refine ⟨?_,?_,?_,?_,?_,?_,?_,RowAt.nil cchE W12,?_⟩
   ·have h:=(R1.out.grew t1).beside hg12 (far (Nat.le_refl _) FR1.out);unfold newMF at h;rw [if_pos hf1] at h;exact h
   ·have h:=(R3.out.grew t3).beside hg12 (far (by omega) FR3.out)
    unfold newSL at h;rw [if_pos hf2] at h;exact h
   ·have h : PagesAt W12 (.slice mb.a mb.n mb.c) (newD cs):=⟨(R4.out.grew t4).1.beside hg12 (far (by omega) FR4.out),R4.out.2⟩
    unfold newD at h;rw [if_pos (by omega)] at h
    exact h
   ·exact ⟨(R5.out.grew t4).1.beside hg12 (far (by omega) FR5.out),R5.out.2⟩
   ·have h : PagesAt W12 (.slice md.a md.n md.c) (newD cb):=⟨(R6.out.grew t6).1.beside hg12 (far (by omega) FR6.out),R6.out.2⟩
    unfold newD at h;rw [if_pos hf3] at h;exact h
   ·exact ⟨(R7.out.grew t6).1.beside hg12 (far (by omega) FR7.out),R7.out.2⟩
   ·exact ⟨Nat.le_refl _,[],fun w' _=>RowAt.nil fvE w',rfl,fun i x f hx=>by simp at hx⟩
   ·have hs:=S11.out;rw [HPS.out] at hs;refine ⟨_,hs.beside hg12 (fun x n c hx e=>?_),rfl,fun i x s hx hs=>?_⟩
    ·cases hx;simp only [Option.some.injEq] at e;have:=HPS.out;omega
    ·cases i with
     | zero =>
      cases hx;cases hs;exact ⟨rfl,RowAt.nil arE W12,Nat.le_refl _,TabS.nil 0 0 W12⟩
     | succ i=>simp at hx
  have hz5 : z5 = cb:=by rw [←HZ5.out,if_pos HFEW.out.2.2]
  subst hz5;clear t1 t3 t4 t6 far k1 k2 k3 k4 k5 kw HS0;go_wp2;refine bodyPost_ret (ret_cell_tmp rfl _ rfl hb12 Tryz.underlying40 rfl (by kernel_rfl)) rfl ⟨.inl ⟨HFEW.out,⟨mf,ms,mb,mq,md,me,sli0,sli0,⟨some ⟨ps,0,none⟩,1,1⟩⟩,rfl,HMA.out⟩,HG12.out⟩
 ·have hE0 : E = 4:=by rw [←HE.out,←HES.out]; exact newEs_many hfew
  subst hE0;have HFEW : Hid (¬ fewB cf cs cb):=hfew;clear hfew
  go_wp2_with (refine wp_storeAll rfl 40 (.tmp 2) (.tmp 54) rfl (w.heap.size + 1) rfl [.slice none 0 0,.int .i64 0,.slice none 0 0,.slice none 0 0,.slice none 0 0,.slice none 0 0,.slice none 0 0,.slice none 0 0,.int .i64 0,.slice none 0 0,.slice none 0 0] rfl Y10.out rfl (by kernel_rfl) (fun v hv=>by
    simp only [List.mem_cons,List.not_mem_nil,or_false] at hv
    rcases hv with rfl | rfl | rfl | rfl | rfl | rfl | rfl | rfl | rfl | rfl | rfl <;> rfl) ?_)
  intro W12 hb12 hg12 _;have HG12 : Hid (Grew w W12):=show Grew _ _ from grew_grown (HG0.out.trans HGW.out) hg12 (by omega)
  go_wp2;refine bodyPost_ret (ret_cell_tmp rfl _ rfl hb12 Tryz.underlying40 rfl (by kernel_rfl)) rfl ⟨.inr ⟨HFEW.out,rfl⟩,HG12.out⟩
theorem ret_cell_tmp2 {fn : Func} {p u t : Tmp} {ty : TypeId} (h : fn.results = #[.cell p ty,.tmp u,.tmp t]) (tmps : Array Value) {w : World} {b : Nat} (hp : tmps.getD p undef = .pointer (some ⟨b,0,none⟩)) {vs : List Value} (hb : Box w b vs) {d : TypeDesc} (hu : Tryz.prog.underlying ty = some d) (hd : d.isRow = true) (hi : (Tryz.prog.info? ty).map (·.size) = some vs.length) :
  (results fn tmps).run Tryz.prog w = .ok (.tuple #[.agg vs.toArray,tmps.getD u undef,tmps.getD t undef]) w:=by
 have hp' : tmps[p]?.getD undef = .pointer (some ⟨b,0,none⟩):=by simpa using hp
 have hld:=run_loadVar_mid (P:=Tryz.prog) w b 0 ty vs d hb.range hu hd hi
 simp [results,h,hp',asAddr,hld]
theorem Tryz.sizePage : (Tryz.prog.info? 50).map (·.size) = some 8:=by kernel_rfl
theorem viewNone_any (V : MaV) (m : Ma) (p : Nat) (n : Int) (s : Sp) (w : World) (hm : MachAt w V m) (h0 : maW m = 0) (hs : m.sp[p]? = some s) (hn : ∀ a∈s.ars,inZ a n = false) :
  Calls Tryz.prog 17 #[.agg #[.slice V.f.a V.f.n V.f.c,.int .i64 m.hand,.slice V.s.a V.s.n V.s.c,.slice V.sb.a V.sb.n V.sb.c,.slice V.sq.a V.sq.n V.sq.c,.slice V.db.a V.db.n V.db.c,.slice V.dq.a V.dq.n V.dq.c,.slice V.fl.a V.fl.n V.fl.c,.int .i64 m.cnt,.slice V.ca.a V.ca.n V.ca.c,.slice V.sp.a V.sp.n V.sp.c],.int .i64 (p : Int),.int .i64 n] w fun e w'=>e = .returned (.tuple #[.agg #[.int .u8 0,.int .u8 0,.int .u8 0,.int .u8 0,.int .u8 0,.int .u8 0,.int .u8 0,.int .u8 0],.bool false,.int .i64 5])∧Grew w w':=by
 have HWR : Hid (∀ W,Grew w W→Calls Tryz.prog 11 #[.agg #[.slice V.f.a V.f.n V.f.c,.int .i64 m.hand,.slice V.s.a V.s.n V.s.c,.slice V.sb.a V.sb.n V.sb.c,.slice V.sq.a V.sq.n V.sq.c,.slice V.db.a V.db.n V.db.c,.slice V.dq.a V.dq.n V.dq.c,.slice V.fl.a V.fl.n V.fl.c,.int .i64 m.cnt,.slice V.ca.a V.ca.n V.ca.c,.slice V.sp.a V.sp.n V.sp.c]] W fun e w'=>e = .returned (.int .i64 0)∧Grew W w'):=show ∀ W,_ from fun W hW=>by
  have:=wrongM_any V m W (hm.grew hW);rw [h0] at this;exact this
 obtain ⟨vf,vs,vsb,vsq,vdb,vdq,vfl,vca,⟨spa,spn,spc⟩⟩:=V;dsimp only at HWR ⊢;obtain ⟨-,-,-,-,-,-,-,-,n9⟩:=hm.ns;dsimp only at n9;obtain ⟨xs,hxl,hrow,hsp⟩:=hm.spaces;have hpl : p < spn:=by rw [n9]; exact (List.getElem?_eq_some_iff.1 hs).1
 obtain ⟨x,hx⟩ : ∃ x,xs[p]? = some x:=⟨_,List.getElem?_eq_getElem (by rw [hxl,←n9]; exact hpl)⟩
 have HAT : Hid (SpaceAt w x s):=hsp p x s hx hs;obtain ⟨ad,hva,hl⟩:=hrow p x hx;dsimp only at hva;subst hva;have HL : Hid (∀ W,Grew w W→Sp10 W (ad.add (p * 10)) x):=hl;have HFN : Hid (∀ W,Grew w W→Calls Tryz.prog 62 #[.slice x.ar.a x.ar.n x.ar.c,.int .i64 n] W fun e w'=>e = .returned (.int .i64 (-1))∧Grew W w'):=show ∀ W,_ from fun W hW=>by
  refine (find_any _ s.ars n W (HAT.out.grew hW).ar).mono ?_;rintro e w' ⟨⟨z,rfl,hz⟩,hg⟩;refine ⟨?_,hg⟩
  rcases hz with ⟨k,a,rfl,h1,h2⟩ | ⟨rfl,_⟩
  ·rw [hn a (List.mem_of_getElem? h1)] at h2;cases h2
  ·rfl
 have hbel:=belowM_any (p : Int) (spn : Int);have hbt : bel (p : Int) (spn : Int) = true:=bel_iff.2 ⟨by omega,by omega⟩
 rw [hbt] at hbel;have HBL : Hid (∀ W,Calls Tryz.prog 56 #[.int .i64 (p : Int),.int .i64 (spn : Int)] W fun e w'=>e = .returned (.bool true)∧w' = W):=hbel
 have hpz : (p : Int) < (spn : Int):=by omega
 clear hm hs hn hrow hsp hxl hx hl hbel hbt n9 h0;obtain ⟨W0,hW0⟩ : ∃ W0,(w.alloc (.cells #[.slice vf.a vf.n vf.c,.int .i64 m.hand,.slice vs.a vs.n vs.c,.slice vsb.a vsb.n vsb.c,.slice vsq.a vsq.n vsq.c,.slice vdb.a vdb.n vdb.c,.slice vdq.a vdq.n vdq.c,.slice vfl.a vfl.n vfl.c,.int .i64 m.cnt,.slice vca.a vca.n vca.c,.slice (some ad) spn spc] 40)).alloc (.cells #[.int .u8 0,.int .u8 0,.int .u8 0,.int .u8 0,.int .u8 0,.int .u8 0,.int .u8 0,.int .u8 0] 50) = W0:=⟨_,rfl⟩;have HG0 : Hid (Grew w W0):=show Grew _ _ by rw [←hW0]; exact (grew_alloc _ _).trans (grew_alloc _ _)
 have X0 : Hid (Box W0 w.heap.size [.slice vf.a vf.n vf.c,.int .i64 m.hand,.slice vs.a vs.n vs.c,.slice vsb.a vsb.n vsb.c,.slice vsq.a vsq.n vsq.c,.slice vdb.a vdb.n vdb.c,.slice vdq.a vdq.n vdq.c,.slice vfl.a vfl.n vfl.c,.int .i64 m.cnt,.slice vca.a vca.n vca.c,.slice (some ad) spn spc]):=show Box _ _ _ by rw [←hW0]; exact (Box.top _ _ _ rfl).alloc _
 have Y0 : Hid (Box W0 (w.heap.size + 1) [.int .u8 0,.int .u8 0,.int .u8 0,.int .u8 0,.int .u8 0,.int .u8 0,.int .u8 0,.int .u8 0]):=show Box _ _ _ by rw [←hW0]; exact Box.top _ _ _ (by simp)
 have HW0 : Hid (_ = W0):=hW0;clear hW0
 go_enter Tryz.func17,Tryz.ntmps17
 go_upto_region 1 with fail;rw [HW0.out];have x0:=X0.out.c 0 rfl;have x1:=X0.out.c 1 rfl;have x2:=X0.out.c 2 rfl;have x3:=X0.out.c 3 rfl;have x4:=X0.out.c 4 rfl;have x5:=X0.out.c 5 rfl;have x6:=X0.out.c 6 rfl;have x7:=X0.out.c 7 rfl;have x8:=X0.out.c 8 rfl;have x9:=X0.out.c 9 rfl;have x10:=X0.out.c 10 rfl;go_wp2_with fail;refine (HWR.out _ HG0.out).mono ?_;clear x0 x1 x2 x3 x4 x5 x6 x7 x8 x9 x10;rintro e W1 ⟨rfl,g1⟩;have HG1 : Hid (Grew W0 W1):=g1;have HGw1 : Hid (Grew w W1):=HG0.out.trans g1;clear g1;have x10:=(X0.out.grew HG1.out).c 10 rfl
 go_upto_region 6 with (go_at_call 56; refine (HBL.out _).mono ?_; rintro e w' ⟨rfl,hw'⟩; rw [hw']; clear hw' w')
 obtain ⟨d0,d1,d2,d3,d4,d5,d6,d7,d8,d9⟩:=HL.out W1 HGw1.out;go_upto_region 7 with fail;clear d0 d1 d2 d3 d4 d5 d6 d7 d8 d9 x10;obtain ⟨W2,hW2⟩ : ∃ W2,W1.alloc (.cells #[.bool x.live,.slice x.ar.a x.ar.n x.ar.c,.slice x.t0.a x.t0.n x.t0.c,.slice x.t1.a x.t1.n x.t1.c,.slice x.t2.a x.t2.n x.t2.c,.slice x.t3.a x.t3.n x.t3.c,.slice x.t4.a x.t4.n x.t4.c,.slice x.t5.a x.t5.n x.t5.c,.slice x.t6.a x.t6.n x.t6.c,.slice x.t7.a x.t7.n x.t7.c] 65) = W2:=⟨_,rfl⟩;have HG2 : Hid (Grew W0 W2):=show Grew _ _ by rw [←hW2]; exact HG1.out.trans (grew_alloc _ _)
 have HGw2 : Hid (Grew w W2):=HG0.out.trans HG2.out;have S2 : Hid (Box W2 W1.heap.size [.bool x.live,.slice x.ar.a x.ar.n x.ar.c,.slice x.t0.a x.t0.n x.t0.c,.slice x.t1.a x.t1.n x.t1.c,.slice x.t2.a x.t2.n x.t2.c,.slice x.t3.a x.t3.n x.t3.c,.slice x.t4.a x.t4.n x.t4.c,.slice x.t5.a x.t5.n x.t5.c,.slice x.t6.a x.t6.n x.t6.c,.slice x.t7.a x.t7.n x.t7.c]):=show Box _ _ _ by rw [←hW2]; exact Box.top _ _ _ rfl
 rw [hW2];clear hW2;have s1:=S2.out.c 1 rfl;go_wp2_with fail;refine (HFN.out _ HGw2.out).mono ?_;clear s1;rintro e W3 ⟨rfl,g3⟩;have HGw3 : Hid (Grew w W3):=HGw2.out.trans g3;have Y3 : Hid (Box W3 (w.heap.size + 1) [.int .u8 0,.int .u8 0,.int .u8 0,.int .u8 0,.int .u8 0,.int .u8 0,.int .u8 0,.int .u8 0]):=Y0.out.grew (HG2.out.trans g3);clear g3
 go_wp2_with (refine wp_storeAll rfl 50 (.tmp 6) (.tmp 36) rfl (w.heap.size + 1) rfl [.int .u8 0,.int .u8 0,.int .u8 0,.int .u8 0,.int .u8 0,.int .u8 0,.int .u8 0,.int .u8 0] rfl Y3.out rfl Tryz.sizePage (fun v hv=>by
    simp only [List.mem_cons,List.not_mem_nil,or_false] at hv
    rcases hv with rfl | rfl | rfl | rfl | rfl | rfl | rfl | rfl <;> rfl) ?_)
 intro W4 hb4 hg4 _;have HG4 : Hid (Grew w W4):=show Grew _ _ from grew_grown HGw3.out hg4 (by omega)
 go_wp2;refine bodyPost_ret (ret_cell_tmp2 rfl _ rfl hb4 Tryz.underlying50 rfl Tryz.sizePage) rfl ⟨rfl,HG4.out⟩
theorem bytesNone_any (V : MaV) (m : Ma) (file : Int) (w : World) (hm : MachAt w V m) (h0 : maW m = 0) (hf : bel file m.fl.length = false) :
  Calls Tryz.prog 15 #[.agg #[.slice V.f.a V.f.n V.f.c,.int .i64 m.hand,.slice V.s.a V.s.n V.s.c,.slice V.sb.a V.sb.n V.sb.c,.slice V.sq.a V.sq.n V.sq.c,.slice V.db.a V.db.n V.db.c,.slice V.dq.a V.dq.n V.dq.c,.slice V.fl.a V.fl.n V.fl.c,.int .i64 m.cnt,.slice V.ca.a V.ca.n V.ca.c,.slice V.sp.a V.sp.n V.sp.c],.int .i64 file] w fun e w'=>e = .returned (.tuple #[.slice none 0 0,.int .i64 5])∧Grew w w':=by
 have HWR : Hid (∀ W,Grew w W→Calls Tryz.prog 11 #[.agg #[.slice V.f.a V.f.n V.f.c,.int .i64 m.hand,.slice V.s.a V.s.n V.s.c,.slice V.sb.a V.sb.n V.sb.c,.slice V.sq.a V.sq.n V.sq.c,.slice V.db.a V.db.n V.db.c,.slice V.dq.a V.dq.n V.dq.c,.slice V.fl.a V.fl.n V.fl.c,.int .i64 m.cnt,.slice V.ca.a V.ca.n V.ca.c,.slice V.sp.a V.sp.n V.sp.c]] W fun e w'=>e = .returned (.int .i64 0)∧Grew W w'):=show ∀ W,_ from fun W hW=>by
  have:=wrongM_any V m W (hm.grew hW);rw [h0] at this;exact this
 obtain ⟨-,-,-,-,-,-,n7,-⟩:=hm.ns;have hbel:=belowM_any file (V.fl.n : Int);rw [n7,hf] at hbel;rw [←n7] at hbel;have HBL : Hid (∀ W,Calls Tryz.prog 56 #[.int .i64 file,.int .i64 (V.fl.n : Int)] W fun e w'=>e = .returned (.bool false)∧w' = W):=hbel
 clear hm hf hbel n7 h0;obtain ⟨W0,hW0⟩ : ∃ W0,w.alloc (.cells #[.slice V.f.a V.f.n V.f.c,.int .i64 m.hand,.slice V.s.a V.s.n V.s.c,.slice V.sb.a V.sb.n V.sb.c,.slice V.sq.a V.sq.n V.sq.c,.slice V.db.a V.db.n V.db.c,.slice V.dq.a V.dq.n V.dq.c,.slice V.fl.a V.fl.n V.fl.c,.int .i64 m.cnt,.slice V.ca.a V.ca.n V.ca.c,.slice V.sp.a V.sp.n V.sp.c] 40) = W0:=⟨_,rfl⟩;have HG0 : Hid (Grew w W0):=show Grew _ _ by rw [←hW0]; exact grew_alloc _ _
 have X0 : Hid (Box W0 w.heap.size [.slice V.f.a V.f.n V.f.c,.int .i64 m.hand,.slice V.s.a V.s.n V.s.c,.slice V.sb.a V.sb.n V.sb.c,.slice V.sq.a V.sq.n V.sq.c,.slice V.db.a V.db.n V.db.c,.slice V.dq.a V.dq.n V.dq.c,.slice V.fl.a V.fl.n V.fl.c,.int .i64 m.cnt,.slice V.ca.a V.ca.n V.ca.c,.slice V.sp.a V.sp.n V.sp.c]):=show Box _ _ _ by rw [←hW0]; exact Box.top _ _ _ rfl
 have HW0 : Hid (_ = W0):=hW0;clear hW0
 go_enter Tryz.func15,Tryz.ntmps15
 go_upto_region 1 with fail;rw [HW0.out];have x0:=X0.out.c 0 rfl;have x1:=X0.out.c 1 rfl;have x2:=X0.out.c 2 rfl;have x3:=X0.out.c 3 rfl;have x4:=X0.out.c 4 rfl;have x5:=X0.out.c 5 rfl;have x6:=X0.out.c 6 rfl;have x7:=X0.out.c 7 rfl;have x8:=X0.out.c 8 rfl;have x9:=X0.out.c 9 rfl;have x10:=X0.out.c 10 rfl;go_wp2_with fail;refine (HWR.out _ HG0.out).mono ?_;clear x0 x1 x2 x3 x4 x5 x6 x7 x8 x9 x10;rintro e W1 ⟨rfl,g1⟩;have HGw1 : Hid (Grew w W1):=HG0.out.trans g1;have x7:=(X0.out.grew g1).c 7 rfl;clear g1
 go_wp2_with (go_at_call 56; refine (HBL.out _).mono ?_; rintro e w' ⟨rfl,hw'⟩; rw [hw']; clear hw' w')
 refine bodyPost_ret (results_tmp2 rfl _ _ _) rfl ⟨rfl,HGw1.out⟩
theorem newMa_right : maW (newMa 3 2 4) = 0:=by decide +kernel
theorem aliveM_any (w : World) : Calls Tryz.prog 20 #[] w fun e w'=>e = .returned (.bool true)∧Grew w w':=by
 have hnew:=newM_any 3 2 4 w
 go_enter Tryz.func20,Tryz.ntmps20
 go_wp2_with fail;refine hnew.mono ?_;clear hnew;rintro e W1 ⟨⟨_,V,rfl,hm1⟩ | ⟨hno,_⟩,g1⟩
 case inr=>exact absurd (show fewB 3 2 4 from ⟨by decide,by decide,by decide⟩) hno
 obtain ⟨n1,n2,-,-,n5,-,n7,-,n9⟩:=hm1.ns;have HM1 : Hid (MachAt W1 V (newMa 3 2 4)):=hm1;have HG1 : Hid (Grew w W1):=g1;have E1 : Hid (V.f.n = 3):=n1;have E2 : Hid (V.s.n = 2):=n2;have E5 : Hid (V.db.n = 4):=n5;have E9 : Hid (V.sp.n = 1):=n9;clear hm1 g1 n1 n2 n5 n7 n9;go_upto_region 2 with fail;obtain ⟨W2,hW2⟩ : ∃ W2,W1.alloc (.cells #[.slice V.f.a V.f.n V.f.c,.int .i64 0,.slice V.s.a V.s.n V.s.c,.slice V.sb.a V.sb.n V.sb.c,.slice V.sq.a V.sq.n V.sq.c,.slice V.db.a V.db.n V.db.c,.slice V.dq.a V.dq.n V.dq.c,.slice V.fl.a V.fl.n V.fl.c,.int .i64 4,.slice V.ca.a V.ca.n V.ca.c,.slice V.sp.a V.sp.n V.sp.c] 40) = W2:=⟨_,rfl⟩;have HG2 : Hid (Grew W1 W2):=show Grew _ _ by rw [←hW2]; exact grew_alloc _ _
 have X2 : Hid (Box W2 W1.heap.size [.slice V.f.a V.f.n V.f.c,.int .i64 0,.slice V.s.a V.s.n V.s.c,.slice V.sb.a V.sb.n V.sb.c,.slice V.sq.a V.sq.n V.sq.c,.slice V.db.a V.db.n V.db.c,.slice V.dq.a V.dq.n V.dq.c,.slice V.fl.a V.fl.n V.fl.c,.int .i64 4,.slice V.ca.a V.ca.n V.ca.c,.slice V.sp.a V.sp.n V.sp.c]):=show Box _ _ _ by rw [←hW2]; exact Box.top _ _ _ rfl
 rw [hW2];clear hW2;obtain ⟨pm,HPM⟩ : ∃ p,Hid (W1.heap.size = p):=⟨_,rfl⟩;rw [HPM.out] at X2 ⊢;have hvw:=viewNone_any V (newMa 3 2 4) 0 5 ⟨true,[],none8⟩ W2 (HM1.out.grew HG2.out) newMa_right rfl (fun a ha=>by cases ha)
 have hvw' : Calls Tryz.prog 17 #[.agg #[.slice V.f.a V.f.n V.f.c,.int .i64 0,.slice V.s.a V.s.n V.s.c,.slice V.sb.a V.sb.n V.sb.c,.slice V.sq.a V.sq.n V.sq.c,.slice V.db.a V.db.n V.db.c,.slice V.dq.a V.dq.n V.dq.c,.slice V.fl.a V.fl.n V.fl.c,.int .i64 4,.slice V.ca.a V.ca.n V.ca.c,.slice V.sp.a V.sp.n V.sp.c],.int .i64 0,.int .i64 5] W2 fun e w'=>e = .returned (.tuple #[.agg #[.int .u8 0,.int .u8 0,.int .u8 0,.int .u8 0,.int .u8 0,.int .u8 0,.int .u8 0,.int .u8 0],.bool false,.int .i64 5])∧Grew W2 w':=hvw
 clear hvw;have x0:=X2.out.c 0 rfl;have x1:=X2.out.c 1 rfl;have x2:=X2.out.c 2 rfl;have x3:=X2.out.c 3 rfl;have x4:=X2.out.c 4 rfl;have x5:=X2.out.c 5 rfl;have x6:=X2.out.c 6 rfl;have x7:=X2.out.c 7 rfl;have x8:=X2.out.c 8 rfl;have x9:=X2.out.c 9 rfl;have x10:=X2.out.c 10 rfl;go_wp2_with fail;refine hvw'.mono ?_;clear hvw' x0 x1 x2 x3 x4 x5 x6 x7 x8 x9 x10;rintro e W3 ⟨rfl,g3⟩;have HG3 : Hid (Grew W2 W3):=g3;clear g3;go_upto_region 3 with fail;obtain ⟨W4,hW4⟩ : ∃ W4,W3.alloc (.cells #[.int .u8 0,.int .u8 0,.int .u8 0,.int .u8 0,.int .u8 0,.int .u8 0,.int .u8 0,.int .u8 0] 50) = W4:=⟨_,rfl⟩;have HG4 : Hid (Grew W2 W4):=show Grew _ _ by rw [←hW4]; exact HG3.out.trans (grew_alloc _ _)
 have X4 : Hid (Box W4 pm [.slice V.f.a V.f.n V.f.c,.int .i64 0,.slice V.s.a V.s.n V.s.c,.slice V.sb.a V.sb.n V.sb.c,.slice V.sq.a V.sq.n V.sq.c,.slice V.db.a V.db.n V.db.c,.slice V.dq.a V.dq.n V.dq.c,.slice V.fl.a V.fl.n V.fl.c,.int .i64 4,.slice V.ca.a V.ca.n V.ca.c,.slice V.sp.a V.sp.n V.sp.c]):=X2.out.grew HG4.out;rw [hW4];clear hW4;have hby:=bytesNone_any V (newMa 3 2 4) 0 W4 (HM1.out.grew (HG2.out.trans HG4.out)) newMa_right (by decide)
 have hby' : Calls Tryz.prog 15 #[.agg #[.slice V.f.a V.f.n V.f.c,.int .i64 0,.slice V.s.a V.s.n V.s.c,.slice V.sb.a V.sb.n V.sb.c,.slice V.sq.a V.sq.n V.sq.c,.slice V.db.a V.db.n V.db.c,.slice V.dq.a V.dq.n V.dq.c,.slice V.fl.a V.fl.n V.fl.c,.int .i64 4,.slice V.ca.a V.ca.n V.ca.c,.slice V.sp.a V.sp.n V.sp.c],.int .i64 0] W4 fun e w'=>e = .returned (.tuple #[.slice none 0 0,.int .i64 5])∧Grew W4 w':=hby
 clear hby;have x0:=X4.out.c 0 rfl;have x1:=X4.out.c 1 rfl;have x2:=X4.out.c 2 rfl;have x3:=X4.out.c 3 rfl;have x4:=X4.out.c 4 rfl;have x5:=X4.out.c 5 rfl;have x6:=X4.out.c 6 rfl;have x7:=X4.out.c 7 rfl;have x8:=X4.out.c 8 rfl;have x9:=X4.out.c 9 rfl;have x10:=X4.out.c 10 rfl;go_wp2_with fail;refine hby'.mono ?_;clear hby' x0 x1 x2 x3 x4 x5 x6 x7 x8 x9 x10;rintro e W5 ⟨rfl,g5⟩;have HG5 : Hid (Grew W2 W5):=HG4.out.trans g5;have X5 : Hid (Box W5 pm [.slice V.f.a V.f.n V.f.c,.int .i64 0,.slice V.s.a V.s.n V.s.c,.slice V.sb.a V.sb.n V.sb.c,.slice V.sq.a V.sq.n V.sq.c,.slice V.db.a V.db.n V.db.c,.slice V.dq.a V.dq.n V.dq.c,.slice V.fl.a V.fl.n V.fl.c,.int .i64 4,.slice V.ca.a V.ca.n V.ca.c,.slice V.sp.a V.sp.n V.sp.c]):=X4.out.grew g5;clear g5;have hwr:=wrongM_any V (newMa 3 2 4) W5 (HM1.out.grew (HG2.out.trans HG5.out));rw [newMa_right] at hwr;have hwr' : Calls Tryz.prog 11 #[.agg #[.slice V.f.a V.f.n V.f.c,.int .i64 0,.slice V.s.a V.s.n V.s.c,.slice V.sb.a V.sb.n V.sb.c,.slice V.sq.a V.sq.n V.sq.c,.slice V.db.a V.db.n V.db.c,.slice V.dq.a V.dq.n V.dq.c,.slice V.fl.a V.fl.n V.fl.c,.int .i64 4,.slice V.ca.a V.ca.n V.ca.c,.slice V.sp.a V.sp.n V.sp.c]] W5 fun e w'=>e = .returned (.int .i64 0)∧Grew W5 w':=hwr
 clear hwr;have x0:=X5.out.c 0 rfl;have x1:=X5.out.c 1 rfl;have x2:=X5.out.c 2 rfl;have x3:=X5.out.c 3 rfl;have x4:=X5.out.c 4 rfl;have x5:=X5.out.c 5 rfl;have x6:=X5.out.c 6 rfl;have x7:=X5.out.c 7 rfl;have x8:=X5.out.c 8 rfl;have x9:=X5.out.c 9 rfl;have x10:=X5.out.c 10 rfl;go_wp2_with fail;refine hwr'.mono ?_;clear hwr' x0 x1 x2 x3 x4 x5 x6 x7 x8 x9 x10;rintro e W6 ⟨rfl,g6⟩;have HG6 : Hid (Grew w W6):=(HG1.out.trans HG2.out).trans (HG5.out.trans g6);have X6:=X5.out.grew g6;clear g6;have x0:=X6.c 0 rfl;have x2:=X6.c 2 rfl;have x5:=X6.c 5 rfl;have x10:=X6.c 10 rfl;rw [E1.out] at x0;rw [E2.out] at x2;rw [E5.out] at x5;rw [E9.out] at x10;clear X6;go_wp2;go_ret;exact ⟨rfl,HG6.out⟩
theorem round_in (a : Int) {l : Nat} (hl : 0 < l) : ∃ k : Nat,k < l∧(a.tmod l + l).tmod l = (k : Int)∧-(l : Int) < a.tmod l∧a.tmod l < l:=by
 have h1 : -(l : Int) < a.tmod l:=by
  rcases Int.le_total 0 a with h | h
  ·rw [Int.tmod_eq_emod_of_nonneg h];have:=Int.emod_nonneg a (b:=(l : Int)) (by omega)
   omega
  ·have e : a.tmod l = -((-a).tmod l):=by rw [Int.neg_tmod]; omega
   rw [e,Int.tmod_eq_emod_of_nonneg (by omega)]
   have:=Int.emod_lt_of_pos (-a) (b:=(l : Int)) (by omega)
   omega
 have h2 : a.tmod l < l:=Int.tmod_lt_of_pos a (by omega)
 have h3 : (a.tmod l + l).tmod l = (a.tmod l + l) % l:=Int.tmod_eq_emod_of_nonneg (by omega)
 have h4 : 0≤(a.tmod l + l) % (l : Int):=Int.emod_nonneg _ (by omega)
 have h5 : (a.tmod l + l) % (l : Int) < l:=Int.emod_lt_of_pos _ (by omega)
 exact ⟨((a.tmod l + l) % (l : Int)).toNat,by omega,by rw [h3]; omega,h1,h2⟩
theorem Built.at {w w' : World} {nf ns nb hi ht : Nat} {L : List Int} {V : MaV} {m : Ma} {T : List (Nat→En)} {hd : Int} {vt : Sli} (h : Built w nf ns nb L w' V m T hd hi ht vt) : MachAt w' V (finish m T hd)∧maW (finish m T hd) = 0:=⟨h.rows.mach h.inv.tl hd,h.inv.right h.hand.1 h.hand.2⟩
theorem counts_any (F S B : Int) (vl : Sli) (L : List Int) (aa : Int) (more : Bool) (w : World) (lr : RowAt byE w (.slice vl.a vl.n vl.c) L) (lc : vl.n≤vl.c) (lb : ∀ z∈L,0≤z∧z < 256) :
  Calls Tryz.prog 5 #[.agg #[.int .i64 F,.int .i64 S,.int .i64 B],.slice vl.a vl.n vl.c,.int .i64 aa,.bool more] w fun e w'=>e = .returned (.bool true)∧Grew w w':=by
 obtain ⟨W0,hW0⟩ : ∃ W0,w.alloc (.cells #[.int .i64 F,.int .i64 S,.int .i64 B] 23) = W0:=⟨_,rfl⟩;have G0 : Hid (Grew w W0):=show Grew _ _ by rw [←hW0]; exact grew_alloc _ _
 have C0 : Hid (Box W0 w.heap.size [.int .i64 F,.int .i64 S,.int .i64 B]):=show Box _ _ _ by rw [←hW0]; exact Box.top _ _ _ rfl
 have HW0 : Hid (_ = W0):=hW0;have HLR : Hid (RowAt byE w (.slice vl.a vl.n vl.c) L):=lr;have HLC : Hid (vl.n≤vl.c):=lc;have HLB : Hid (∀ z∈L,0≤z∧z < 256):=show ∀ z,_ from lb
 obtain ⟨nf,HNF⟩ : ∃ nf : Nat,Hid (max (min F 40) 0 = (nf : Int)):=⟨(max (min F 40) 0).toNat,show _ = _ by omega⟩
 obtain ⟨ns,HNS⟩ : ∃ ns : Nat,Hid (max (min S 60) 0 = (ns : Int)):=⟨(max (min S 60) 0).toNat,show _ = _ by omega⟩
 obtain ⟨nb,HNB⟩ : ∃ nb : Nat,Hid (max (min B 80) 0 = (nb : Int)):=⟨(max (min B 80) 0).toNat,show _ = _ by omega⟩
 clear hW0 lr lc lb;have hal:=aliveM_any W0
 go_enter Tryz.func5,Tryz.ntmps5
 go_wp2_with fail;rw [HW0.out];refine hal.mono ?_;clear hal;rintro e W1 ⟨rfl,g1⟩;have G1 : Hid (Grew w W1):=G0.out.trans g1;have C1 : Hid (Box W1 w.heap.size [.int .i64 F,.int .i64 S,.int .i64 B]):=C0.out.grew g1;clear g1 G0 C0 HW0;have hbu:=build_any F S B nf ns nb HNF.out HNS.out HNB.out vl L W1 (HLR.out.grew G1.out) HLC.out HLB.out;have c0:=C1.out.c 0 rfl;have c1:=C1.out.c 1 rfl;have c2:=C1.out.c 2 rfl;go_wp2_with fail;refine hbu.mono ?_;clear hbu c0 c1 c2;rintro e W2 ⟨V,m0,T,hd,hi,ht,vt,rfl,hB⟩;obtain ⟨at2,w2⟩:=hB.at;have HIN : Hid (BInv m0 T):=hB.inv;obtain ⟨m,HM⟩ : ∃ m,Hid (finish m0 T hd = m):=⟨_,rfl⟩;have A2 : Hid (MachAt W2 V m):=show MachAt _ _ _ by rw [←HM.out]; exact at2
 have HW : Hid (maW m = 0):=show _ = _ by rw [←HM.out]; exact w2
 have G2 : Hid (Grew w W2):=G1.out.trans hB.gr;have hmh : hd = m.hand:=by rw [←HM.out]; rfl
 have hmc : m0.cnt = m.cnt:=by rw [←HM.out]; rfl
 rw [hmh,hmc];clear hB at2 w2 hmh hmc HM HIN C1 G1 HLR HLB HLC;go_upto_region 4 with fail;obtain ⟨pm,HPM⟩ : ∃ pm,Hid (W2.heap.size = pm):=⟨_,rfl⟩;obtain ⟨W3,hW3⟩ : ∃ W3,W2.alloc (.cells #[.slice V.f.a V.f.n V.f.c,.int .i64 m.hand,.slice V.s.a V.s.n V.s.c,.slice V.sb.a V.sb.n V.sb.c,.slice V.sq.a V.sq.n V.sq.c,.slice V.db.a V.db.n V.db.c,.slice V.dq.a V.dq.n V.dq.c,.slice V.fl.a V.fl.n V.fl.c,.int .i64 m.cnt,.slice V.ca.a V.ca.n V.ca.c,.slice V.sp.a V.sp.n V.sp.c] 40) = W3:=⟨_,rfl⟩;have g3 : Grew W2 W3:=by rw [←hW3]; exact grew_alloc _ _
 have P3 : Hid (BoxT W3 pm 40 [.slice V.f.a V.f.n V.f.c,.int .i64 m.hand,.slice V.s.a V.s.n V.s.c,.slice V.sb.a V.sb.n V.sb.c,.slice V.sq.a V.sq.n V.sq.c,.slice V.db.a V.db.n V.db.c,.slice V.dq.a V.dq.n V.dq.c,.slice V.fl.a V.fl.n V.fl.c,.int .i64 m.cnt,.slice V.ca.a V.ca.n V.ca.c,.slice V.sp.a V.sp.n V.sp.c]):=show BoxT _ _ _ _ by rw [←hW3]; exact BoxT.top _ [.slice V.f.a V.f.n V.f.c,.int .i64 m.hand,.slice V.s.a V.s.n V.s.c,.slice V.sb.a V.sb.n V.sb.c,.slice V.sq.a V.sq.n V.sq.c,.slice V.db.a V.db.n V.db.c,.slice V.dq.a V.dq.n V.dq.c,.slice V.fl.a V.fl.n V.fl.c,.int .i64 m.cnt,.slice V.ca.a V.ca.n V.ca.c,.slice V.sp.a V.sp.n V.sp.c] _ HPM.out.symm
 have A3 : Hid (MachAt W3 V m):=A2.out.grew g3;have G3 : Hid (Grew w W3):=G2.out.trans g3;rw [hW3,HPM.out];clear hW3 g3 A2 G2 HPM;have x0:=P3.out.box.c 0 rfl;have x1:=P3.out.box.c 1 rfl;have x2:=P3.out.box.c 2 rfl;have x3:=P3.out.box.c 3 rfl;have x4:=P3.out.box.c 4 rfl;have x5:=P3.out.box.c 5 rfl;have x6:=P3.out.box.c 6 rfl;have x7:=P3.out.box.c 7 rfl;have x8:=P3.out.box.c 8 rfl;have x9:=P3.out.box.c 9 rfl;have x10:=P3.out.box.c 10 rfl;have hwr:=wrongM_any V m W3 A3.out;rw [HW.out] at hwr;go_wp2_with fail;refine hwr.mono ?_;clear hwr;clear x0 x1 x2 x3 x4 x5 x6 x7 x8 x9 x10;rintro e W4 ⟨rfl,g4⟩;have P4 : Hid (BoxT W4 pm 40 [.slice V.f.a V.f.n V.f.c,.int .i64 m.hand,.slice V.s.a V.s.n V.s.c,.slice V.sb.a V.sb.n V.sb.c,.slice V.sq.a V.sq.n V.sq.c,.slice V.db.a V.db.n V.db.c,.slice V.dq.a V.dq.n V.dq.c,.slice V.fl.a V.fl.n V.fl.c,.int .i64 m.cnt,.slice V.ca.a V.ca.n V.ca.c,.slice V.sp.a V.sp.n V.sp.c]):=P3.out.grew g4;have A4 : Hid (MachAt W4 V m):=A3.out.grew g4;have G4 : Hid (Grew w W4):=G3.out.trans g4;clear g4 P3 A3 G3;obtain ⟨n1,n2,-⟩:=A4.out.ns;have HIV : Hid (BInv m (flats m)):=(right_inv HW.out).1;have hf40 : V.f.n≤40:=by rw [n1]; exact HIV.out.fs40
 have hs60 : V.s.n≤60:=by rw [n2]; exact HIV.out.sl60
 have HN1 : Hid (V.f.n = m.fs.length):=n1;have HN2 : Hid (V.s.n = m.sl.length):=n2;clear n1 n2;obtain ⟨nn,HNN,hnn0,hnn1⟩ : ∃ nn : Int,Hid ((if more = true then 1 else -1) = nn)∧-1≤nn∧nn≤1:=⟨_,rfl,by split <;> omega,by split <;> omega⟩
 have HNE : Hid (nn≠0):=show _≠_ by rw [←HNN.out]; split <;> omega
 go_upto_if 28 with fail
 go_cut [10] (fun s10 wx=>s10 = .int .i64 nn∧wx = W4)
 case first =>
  cases more with
  | true =>
   go_wp2
   go_meet
   case rel=>exact ⟨by rw [←HNN.out]; rfl,rfl⟩
  | false =>
   go_wp2
   go_meet
   case rel=>exact ⟨by rw [←HNN.out]; rfl,rfl⟩
 case rest =>
  obtain ⟨rfl,rfl⟩:=hcut;clear HNN;have HRB : Hid (∀ (j : Nat) q,m.fs[j]? = some q→0≤q.r∧q.r≤1000):=show ∀ j,_ from fun j q hq=>by
   have h1:=(HIV.out.cf j q hq).1;have h2:=hold_le (flats m) 1 (j : Int);have h3:=cached_one HIV.out.ca (j : Int);have h4:=HIV.out.spl;have h5:=HIV.out.tl;omega
  have HSB : Hid (∀ (j : Nat) z,m.sl[j]? = some z→0≤z∧z≤1000):=show ∀ j,_ from fun j z hz=>by
   have h1:=HIV.out.cs j z hz;have h2:=hold_le (flats m) 2 (j : Int);have h4:=HIV.out.spl;have h5:=HIV.out.tl;omega
  have x0:=P4.out.box.c 0 rfl
  go_upto_if 33 with fail
  clear x0
  go_cut [11,12] (fun s11 s12 wx=>Hid (BoxT wx pm 40 [.slice V.f.a V.f.n V.f.c,.int .i64 m.hand,.slice V.s.a V.s.n V.s.c,.slice V.sb.a V.sb.n V.sb.c,.slice V.sq.a V.sq.n V.sq.c,.slice V.db.a V.db.n V.db.c,.slice V.dq.a V.dq.n V.dq.c,.slice V.fl.a V.fl.n V.fl.c,.int .i64 m.cnt,.slice V.ca.a V.ca.n V.ca.c,.slice V.sp.a V.sp.n V.sp.c])∧Hid (MachAt wx V m)∧Hid (Grew w wx))
  case first =>
   by_cases hf0 : 0 < V.f.n
   ·have hfd : decide ((0 : Int) < (V.f.n : Int)) = true:=by simp; omega
    have x0:=P4.out.box.c 0 rfl;have x1:=P4.out.box.c 1 rfl;have x2:=P4.out.box.c 2 rfl;have x3:=P4.out.box.c 3 rfl;have x4:=P4.out.box.c 4 rfl;have x5:=P4.out.box.c 5 rfl;have x6:=P4.out.box.c 6 rfl;have x7:=P4.out.box.c 7 rfl;have x8:=P4.out.box.c 8 rfl;have x9:=P4.out.box.c 9 rfl;have x10:=P4.out.box.c 10 rfl;have hown:=ownM_any V m wc A4.out;go_wp2_with fail;refine hown.mono ?_;clear hown;clear x0 x1 x2 x3 x4 x5 x6 x7 x8 x9 x10;rintro e W5 ⟨V1,rfl,own5,g5⟩;obtain ⟨gf,fcx,hfe⟩:=own5.fs.formS (by have:=HN1.out; omega)
    obtain ⟨⟨fa,fn,fc⟩,v1s,v1sb,v1sq,v1db,v1dq,v1fl,v1ca,v1sp⟩:=V1;dsimp only at hfe own5 ⊢;simp only [Value.slice.injEq] at hfe;obtain ⟨rfl,hfn,-⟩:=hfe;have HFN : Hid (fn = m.fs.length):=hfn;have hfn40 : fn≤40:=by rw [hfn,←HN1.out]; exact hf40
    have hfn0 : 0 < fn:=by rw [hfn,←HN1.out]; exact hf0
    clear hfn;go_upto_region 11 with fail;obtain ⟨pk,HPK⟩ : ∃ pk,Hid (W5.heap.size = pk):=⟨_,rfl⟩;obtain ⟨W6,hW6⟩ : ∃ W6,W5.alloc (.cells #[.slice (some ⟨gf,0,none⟩) fn fc,.int .i64 m.hand,.slice v1s.a v1s.n v1s.c,.slice v1sb.a v1sb.n v1sb.c,.slice v1sq.a v1sq.n v1sq.c,.slice v1db.a v1db.n v1db.c,.slice v1dq.a v1dq.n v1dq.c,.slice v1fl.a v1fl.n v1fl.c,.int .i64 m.cnt,.slice v1ca.a v1ca.n v1ca.c,.slice v1sp.a v1sp.n v1sp.c] 40) = W6:=⟨_,rfl⟩;have g6 : Grew W5 W6:=by rw [←hW6]; exact grew_alloc _ _
    have K6 : Hid (BoxT W6 pk 40 [.slice (some ⟨gf,0,none⟩) fn fc,.int .i64 m.hand,.slice v1s.a v1s.n v1s.c,.slice v1sb.a v1sb.n v1sb.c,.slice v1sq.a v1sq.n v1sq.c,.slice v1db.a v1db.n v1db.c,.slice v1dq.a v1dq.n v1dq.c,.slice v1fl.a v1fl.n v1fl.c,.int .i64 m.cnt,.slice v1ca.a v1ca.n v1ca.c,.slice v1sp.a v1sp.n v1sp.c]):=show BoxT _ _ _ _ by rw [←hW6]; exact BoxT.top _ [.slice (some ⟨gf,0,none⟩) fn fc,.int .i64 m.hand,.slice v1s.a v1s.n v1s.c,.slice v1sb.a v1sb.n v1sb.c,.slice v1sq.a v1sq.n v1sq.c,.slice v1db.a v1db.n v1db.c,.slice v1dq.a v1dq.n v1dq.c,.slice v1fl.a v1fl.n v1fl.c,.int .i64 m.cnt,.slice v1ca.a v1ca.n v1ca.c,.slice v1sp.a v1sp.n v1sp.c] _ HPK.out.symm
    have O6 : Hid (OwnM wc.heap.size W6 ⟨⟨some ⟨gf,0,none⟩,fn,fc⟩,v1s,v1sb,v1sq,v1db,v1dq,v1fl,v1ca,v1sp⟩ m):=own5.grew g6;have P6 : Hid (BoxT W6 pm 40 [.slice V.f.a V.f.n V.f.c,.int .i64 m.hand,.slice V.s.a V.s.n V.s.c,.slice V.sb.a V.sb.n V.sb.c,.slice V.sq.a V.sq.n V.sq.c,.slice V.db.a V.db.n V.db.c,.slice V.dq.a V.dq.n V.dq.c,.slice V.fl.a V.fl.n V.fl.c,.int .i64 m.cnt,.slice V.ca.a V.ca.n V.ca.c,.slice V.sp.a V.sp.n V.sp.c]):=(P4.out.grew g5).grew g6;have A6 : Hid (MachAt W6 V m):=(A4.out.grew g5).grew g6;have G6 : Hid (Grew w W6):=(G4.out.trans g5).trans g6;have H46 : Hid (Grew wc W6):=g5.trans g6;rw [hW6,HPK.out];clear hW6 own5 g5 g6;obtain ⟨k,hk,hr1,hr2,hr3⟩:=round_in aa hfn0;have hr4 : (aa.tmod (fn : Int) + (fn : Int)) % (fn : Int) = (k : Int):=by rw [←hr1]; exact (Int.tmod_eq_emod_of_nonneg (by omega)).symm
    have hkz : (k : Int) < (fn : Int):=by omega
    have hfz : ((fn : Int) == 0) = false:=by simp; omega
    obtain ⟨q,HQ⟩ : ∃ q,Hid (m.fs[k]? = some q):=⟨_,List.getElem?_eq_getElem (by rw [←HFN.out]; exact hk)⟩
    have k0:=K6.out.box.c 0 rfl;go_quiet (fail);clear k0 hr1 hr2 hr3 hr4 hfz;obtain ⟨W7,hW7⟩ : ∃ W7,W6.drewN nq = W7:=⟨_,rfl⟩;have g7 : Grew W6 W7:=by rw [←hW7]; exact (show Below _ _ _ from Go.below_drewN (Below.refl _ _) _)
    have K7 : Hid (BoxT W7 pk 40 [.slice (some ⟨gf,0,none⟩) fn fc,.int .i64 m.hand,.slice v1s.a v1s.n v1s.c,.slice v1sb.a v1sb.n v1sb.c,.slice v1sq.a v1sq.n v1sq.c,.slice v1db.a v1db.n v1db.c,.slice v1dq.a v1dq.n v1dq.c,.slice v1fl.a v1fl.n v1fl.c,.int .i64 m.cnt,.slice v1ca.a v1ca.n v1ca.c,.slice v1sp.a v1sp.n v1sp.c]):=K6.out.grew g7;have O7 : Hid (OwnM wc.heap.size W7 ⟨⟨some ⟨gf,0,none⟩,fn,fc⟩,v1s,v1sb,v1sq,v1db,v1dq,v1fl,v1ca,v1sp⟩ m):=O6.out.grew g7;have P7 : Hid (BoxT W7 pm 40 [.slice V.f.a V.f.n V.f.c,.int .i64 m.hand,.slice V.s.a V.s.n V.s.c,.slice V.sb.a V.sb.n V.sb.c,.slice V.sq.a V.sq.n V.sq.c,.slice V.db.a V.db.n V.db.c,.slice V.dq.a V.dq.n V.dq.c,.slice V.fl.a V.fl.n V.fl.c,.int .i64 m.cnt,.slice V.ca.a V.ca.n V.ca.c,.slice V.sp.a V.sp.n V.sp.c]):=P6.out.grew g7;have A7 : Hid (MachAt W7 V m):=A6.out.grew g7;have G7 : Hid (Grew w W7):=G6.out.trans g7;have HGW : Hid (Grew wc W7):=show Grew _ _ from H46.out.trans g7
    rw [hW7];clear hW7 g7 K6 O6 P6 A6 G6 H46;obtain ⟨b0,b1⟩:=HRB.out k q HQ.out;have R : Hid (OwnRow frmE wc.heap.size W7 (.slice (some ⟨gf,0,none⟩) fn fc) m.fs):=O7.out.fs;have d : W7.cell? ⟨gf,k * 13 + 8,none⟩ = some (.int .i64 q.r):=by
     have:=R.out.one HQ.out 8 _ rfl;rw [add_add',Addr.add_lit,Nat.zero_add] at this;exact this
    have xf:=R.out.unfrozen rfl;obtain ⟨ow,gr,sz⟩:=R.out.cell (k:=k) (o:=8) rfl HQ.out (y:={ q with r:=q.r + nn }) (u:= .int .i64 (q.r + nn)) rfl (by decide)
    have O8 : Hid (OwnM wc.heap.size (W7.setCell ⟨gf,k * 13 + 8,none⟩ (.int .i64 (q.r + nn))) ⟨⟨some ⟨gf,0,none⟩,fn,fc⟩,v1s,v1sb,v1sq,v1db,v1dq,v1fl,v1ca,v1sp⟩ { m with fs:=m.fs.set k { q with r:=q.r + nn } }):=O7.out.setF rfl gr ow;obtain ⟨cs,hc⟩:=R.out.obj (g:=gf) rfl;have hgl:=(R.out.lt gf rfl).1;have K8 : Hid (BoxT (W7.setCell ⟨gf,k * 13 + 8,none⟩ (.int .i64 (q.r + nn))) pk 40 [.slice (some ⟨gf,0,none⟩) fn fc,.int .i64 m.hand,.slice v1s.a v1s.n v1s.c,.slice v1sb.a v1sb.n v1sb.c,.slice v1sq.a v1sq.n v1sq.c,.slice v1db.a v1db.n v1db.c,.slice v1dq.a v1dq.n v1dq.c,.slice v1fl.a v1fl.n v1fl.c,.int .i64 m.cnt,.slice v1ca.a v1ca.n v1ca.c,.slice v1sp.a v1sp.n v1sp.c]):=K7.out.kind gr hc (by decide)
    have P8 : Hid (BoxT (W7.setCell ⟨gf,k * 13 + 8,none⟩ (.int .i64 (q.r + nn))) pm 40 [.slice V.f.a V.f.n V.f.c,.int .i64 m.hand,.slice V.s.a V.s.n V.s.c,.slice V.sb.a V.sb.n V.sb.c,.slice V.sq.a V.sq.n V.sq.c,.slice V.db.a V.db.n V.db.c,.slice V.dq.a V.dq.n V.dq.c,.slice V.fl.a V.fl.n V.fl.c,.int .i64 m.cnt,.slice V.ca.a V.ca.n V.ca.c,.slice V.sp.a V.sp.n V.sp.c]):=P7.out.kind gr hc (by decide)
    have G8 : Hid (Grew wc (W7.setCell ⟨gf,k * 13 + 8,none⟩ (.int .i64 (q.r + nn)))):=show Grew _ _ from grew_grown HGW.out gr hgl
    clear ow gr sz cs hc hgl;go_upto_region 13 with fail;obtain ⟨W8,HW8⟩ : ∃ W8,Hid ((W7.setCell ⟨gf,k * 13 + 8,none⟩ (.int .i64 (q.r + nn))) = W8):=⟨_,rfl⟩;rw [HW8.out] at O8 K8 P8 G8 ⊢;clear d xf HW8 R K7 O7 P7 A7 HGW;obtain ⟨m',HM'⟩ : ∃ m' : Ma,Hid (({ m with fs:=m.fs.set k { q with r:=q.r + nn } } : Ma) = m'):=⟨_,rfl⟩;have HWN : Hid (maW m'≠0):=show _≠_ by rw [←HM'.out]; exact counts_frames HW.out HQ.out HNE.out
    have hh : m.hand = m'.hand:=by rw [←HM'.out]
    have hcn : m.cnt = m'.cnt:=by rw [←HM'.out]
    rw [HM'.out] at O8;have hwr:=wrongM_any ⟨⟨some ⟨gf,0,none⟩,fn,fc⟩,v1s,v1sb,v1sq,v1db,v1dq,v1fl,v1ca,v1sp⟩ m' W8 O8.out.at;rw [←hh,←hcn] at hwr;clear hh hcn HM';have hze : (maW m' == 0) = false:=by simp [HWN.out]
    have x0:=K8.out.box.c 0 rfl;have x1:=K8.out.box.c 1 rfl;have x2:=K8.out.box.c 2 rfl;have x3:=K8.out.box.c 3 rfl;have x4:=K8.out.box.c 4 rfl;have x5:=K8.out.box.c 5 rfl;have x6:=K8.out.box.c 6 rfl;have x7:=K8.out.box.c 7 rfl;have x8:=K8.out.box.c 8 rfl;have x9:=K8.out.box.c 9 rfl;have x10:=K8.out.box.c 10 rfl;go_wp2_with fail;refine hwr.mono ?_;clear hwr;clear x0 x1 x2 x3 x4 x5 x6 x7 x8 x9 x10;rintro e W9 ⟨rfl,g9⟩;have P9 : Hid (BoxT W9 pm 40 [.slice V.f.a V.f.n V.f.c,.int .i64 m.hand,.slice V.s.a V.s.n V.s.c,.slice V.sb.a V.sb.n V.sb.c,.slice V.sq.a V.sq.n V.sq.c,.slice V.db.a V.db.n V.db.c,.slice V.dq.a V.dq.n V.dq.c,.slice V.fl.a V.fl.n V.fl.c,.int .i64 m.cnt,.slice V.ca.a V.ca.n V.ca.c,.slice V.sp.a V.sp.n V.sp.c]):=P8.out.grew g9;have A9 : Hid (MachAt W9 V m):=(A4.out.grew G8.out).grew g9;have G9 : Hid (Grew w W9):=(G4.out.trans G8.out).trans g9;clear g9;go_wp2
    go_meet
    case rel=>exact ⟨P9.out,A9.out,G9.out⟩
   ·have hfd : decide ((0 : Int) < (V.f.n : Int)) = false:=by simp; omega
    go_wp2
    go_meet
    case rel=>exact ⟨P4.out,A4.out,G4.out⟩
  case rest =>
   obtain ⟨P5,A5,G5⟩:=hcut;clear P4 A4 G4
   try clear wc_1
   have x2:=P5.out.box.c 2 rfl
   go_upto_if 71 with fail
   clear x2
   by_cases hs0 : 0 < V.s.n
   ·have hsd : decide ((0 : Int) < (V.s.n : Int)) = true:=by simp; omega
    have x0:=P5.out.box.c 0 rfl;have x1:=P5.out.box.c 1 rfl;have x2:=P5.out.box.c 2 rfl;have x3:=P5.out.box.c 3 rfl;have x4:=P5.out.box.c 4 rfl;have x5:=P5.out.box.c 5 rfl;have x6:=P5.out.box.c 6 rfl;have x7:=P5.out.box.c 7 rfl;have x8:=P5.out.box.c 8 rfl;have x9:=P5.out.box.c 9 rfl;have x10:=P5.out.box.c 10 rfl;have hown:=ownM_any V m wc A5.out;go_wp2_with fail;refine hown.mono ?_;clear hown;clear x0 x1 x2 x3 x4 x5 x6 x7 x8 x9 x10;rintro e W5 ⟨V1,rfl,own5,g5⟩;obtain ⟨gs,scx,hse⟩:=own5.sl.formS (by have:=HN2.out; omega)
    obtain ⟨v1f,⟨sa,sn,sc⟩,v1sb,v1sq,v1db,v1dq,v1fl,v1ca,v1sp⟩:=V1;dsimp only at hse own5 ⊢;simp only [Value.slice.injEq] at hse;obtain ⟨rfl,hsn,-⟩:=hse;have HSN : Hid (sn = m.sl.length):=hsn;have hsn60 : sn≤60:=by rw [hsn,←HN2.out]; exact hs60
    have hsn0 : 0 < sn:=by rw [hsn,←HN2.out]; exact hs0
    clear hsn;go_upto_region 17 with fail;obtain ⟨pk,HPK⟩ : ∃ pk,Hid (W5.heap.size = pk):=⟨_,rfl⟩;obtain ⟨W6,hW6⟩ : ∃ W6,W5.alloc (.cells #[.slice v1f.a v1f.n v1f.c,.int .i64 m.hand,.slice (some ⟨gs,0,none⟩) sn sc,.slice v1sb.a v1sb.n v1sb.c,.slice v1sq.a v1sq.n v1sq.c,.slice v1db.a v1db.n v1db.c,.slice v1dq.a v1dq.n v1dq.c,.slice v1fl.a v1fl.n v1fl.c,.int .i64 m.cnt,.slice v1ca.a v1ca.n v1ca.c,.slice v1sp.a v1sp.n v1sp.c] 40) = W6:=⟨_,rfl⟩;have g6 : Grew W5 W6:=by rw [←hW6]; exact grew_alloc _ _
    have K6 : Hid (BoxT W6 pk 40 [.slice v1f.a v1f.n v1f.c,.int .i64 m.hand,.slice (some ⟨gs,0,none⟩) sn sc,.slice v1sb.a v1sb.n v1sb.c,.slice v1sq.a v1sq.n v1sq.c,.slice v1db.a v1db.n v1db.c,.slice v1dq.a v1dq.n v1dq.c,.slice v1fl.a v1fl.n v1fl.c,.int .i64 m.cnt,.slice v1ca.a v1ca.n v1ca.c,.slice v1sp.a v1sp.n v1sp.c]):=show BoxT _ _ _ _ by rw [←hW6]; exact BoxT.top _ [.slice v1f.a v1f.n v1f.c,.int .i64 m.hand,.slice (some ⟨gs,0,none⟩) sn sc,.slice v1sb.a v1sb.n v1sb.c,.slice v1sq.a v1sq.n v1sq.c,.slice v1db.a v1db.n v1db.c,.slice v1dq.a v1dq.n v1dq.c,.slice v1fl.a v1fl.n v1fl.c,.int .i64 m.cnt,.slice v1ca.a v1ca.n v1ca.c,.slice v1sp.a v1sp.n v1sp.c] _ HPK.out.symm
    have O6 : Hid (OwnM wc.heap.size W6 ⟨v1f,⟨some ⟨gs,0,none⟩,sn,sc⟩,v1sb,v1sq,v1db,v1dq,v1fl,v1ca,v1sp⟩ m):=own5.grew g6;have H46 : Hid (Grew wc W6):=g5.trans g6;rw [hW6,HPK.out];clear hW6 own5 g5 g6;obtain ⟨k,hk,hr1,hr2,hr3⟩:=round_in aa hsn0;have hr4 : (aa.tmod (sn : Int) + (sn : Int)) % (sn : Int) = (k : Int):=by rw [←hr1]; exact (Int.tmod_eq_emod_of_nonneg (by omega)).symm
    have hkz : (k : Int) < (sn : Int):=by omega
    have hsz : ((sn : Int) == 0) = false:=by simp; omega
    obtain ⟨z,HZ⟩ : ∃ z,Hid (m.sl[k]? = some z):=⟨_,List.getElem?_eq_getElem (by rw [←HSN.out]; exact hk)⟩
    obtain ⟨b0,b1⟩:=HSB.out k z HZ.out;have R : Hid (OwnRow slE wc.heap.size W6 (.slice (some ⟨gs,0,none⟩) sn sc) m.sl):=O6.out.sl;obtain ⟨I,HI⟩ : ∃ I : World→Prop,Hid (∀ u,I u↔Grew W6 u):=⟨fun u=>Grew W6 u,fun _=>Iff.rfl⟩
    have hI0 : I W6.drew:=(HI.out _).2 (show Below _ _ _ from (Below.refl _ _).drew)
    have hk2 : ∀ y : HoldI I,y.world.cell? ⟨pk,2,none⟩ = some (.slice (some ⟨gs,0,none⟩) sn sc):=fun y=>(K6.out.box.grew ((HI.out _).1 y.holds)).c 2 rfl
    have hkz2 : ∀ y : HoldI I,y.world.cell? ⟨gs,k,none⟩ = some (.int .i64 z):=fun y=>by
     have:=(R.out.grew ((HI.out _).1 y.holds)).one HZ.out 0 _ rfl;rw [add_add',Addr.add_lit,Nat.zero_add] at this
     simpa [slE] using this
    have hne : Nonempty (HoldI I):=⟨⟨_,hI0⟩⟩;refine wp_lax_tailI (I:=I) 20 [] hI0 mixed (by kernel_rfl) rfl rfl (by decide) (fun x hx=>by cases hx) (fun k s j t hk=>by cases hk) (fun j t k s hj=>by cases hj) (fun k t hk=>by cases hk) ?_
    simp only [List.take,List.drop];iterate 20 (refine laxI_quiet rfl rfl rfl (fun K hK=>?_); go_big_quiet_op; refine hK _ ?_; clear hK K)
    refine laxI_nil fun W7 hI7 _=>?_
    have g7:=(HI.out _).1 hI7;have K7 : Hid (BoxT W7 pk 40 [.slice v1f.a v1f.n v1f.c,.int .i64 m.hand,.slice (some ⟨gs,0,none⟩) sn sc,.slice v1sb.a v1sb.n v1sb.c,.slice v1sq.a v1sq.n v1sq.c,.slice v1db.a v1db.n v1db.c,.slice v1dq.a v1dq.n v1dq.c,.slice v1fl.a v1fl.n v1fl.c,.int .i64 m.cnt,.slice v1ca.a v1ca.n v1ca.c,.slice v1sp.a v1sp.n v1sp.c]):=K6.out.grew g7;have O7 : Hid (OwnM wc.heap.size W7 ⟨v1f,⟨some ⟨gs,0,none⟩,sn,sc⟩,v1sb,v1sq,v1db,v1dq,v1fl,v1ca,v1sp⟩ m):=O6.out.grew g7;have HGW : Hid (Grew wc W7):=show Grew _ _ from H46.out.trans g7
    have R7 : Hid (OwnRow slE wc.heap.size W7 (.slice (some ⟨gs,0,none⟩) sn sc) m.sl):=O7.out.sl;clear hr1 hr2 hr3 hr4 hsz hk2 hkz2 hne hI0 hI7 g7 HI R K6 O6 H46;have d : W7.cell? ⟨gs,k,none⟩ = some (.int .i64 z):=by
     have:=R7.out.one HZ.out 0 _ rfl;rw [add_add',Addr.add_lit,Nat.zero_add] at this
     simpa [slE] using this
    have xf:=R7.out.unfrozen rfl;obtain ⟨ow,gr,sz⟩:=R7.out.cell (k:=k) (o:=0) rfl HZ.out (y:=z + nn) (u:= .int .i64 (z + nn)) rfl (by decide)
    have hoff : k * slE.k + 0 = k:=by simp [slE]
    rw [hoff] at ow gr;have O8 : Hid (OwnM wc.heap.size (W7.setCell ⟨gs,k,none⟩ (.int .i64 (z + nn))) ⟨v1f,⟨some ⟨gs,0,none⟩,sn,sc⟩,v1sb,v1sq,v1db,v1dq,v1fl,v1ca,v1sp⟩ { m with sl:=m.sl.set k (z + nn) }):=O7.out.setS rfl gr ow;obtain ⟨cs,hc⟩:=R7.out.obj (g:=gs) rfl;have hgl:=(R7.out.lt gs rfl).1;have K8 : Hid (BoxT (W7.setCell ⟨gs,k,none⟩ (.int .i64 (z + nn))) pk 40 [.slice v1f.a v1f.n v1f.c,.int .i64 m.hand,.slice (some ⟨gs,0,none⟩) sn sc,.slice v1sb.a v1sb.n v1sb.c,.slice v1sq.a v1sq.n v1sq.c,.slice v1db.a v1db.n v1db.c,.slice v1dq.a v1dq.n v1dq.c,.slice v1fl.a v1fl.n v1fl.c,.int .i64 m.cnt,.slice v1ca.a v1ca.n v1ca.c,.slice v1sp.a v1sp.n v1sp.c]):=K7.out.kind gr hc (by decide)
    have G8 : Hid (Grew wc (W7.setCell ⟨gs,k,none⟩ (.int .i64 (z + nn)))):=show Grew _ _ from grew_grown HGW.out gr hgl
    clear ow gr sz cs hc hgl hoff;go_upto_region 18 with fail;obtain ⟨W8,HW8⟩ : ∃ W8,Hid (W7.setCell ⟨gs,k,none⟩ (.int .i64 (z + nn)) = W8):=⟨_,rfl⟩;rw [HW8.out] at O8 K8 G8 ⊢;clear d xf HW8 R7 K7 O7 HGW;obtain ⟨m',HM'⟩ : ∃ m' : Ma,Hid (({ m with sl:=m.sl.set k (z + nn) } : Ma) = m'):=⟨_,rfl⟩;have HWN : Hid (maW m'≠0):=show _≠_ by rw [←HM'.out]; exact counts_slots HW.out HZ.out HNE.out
    have hh : m.hand = m'.hand:=by rw [←HM'.out]
    have hcn : m.cnt = m'.cnt:=by rw [←HM'.out]
    rw [HM'.out] at O8;have hwr:=wrongM_any ⟨v1f,⟨some ⟨gs,0,none⟩,sn,sc⟩,v1sb,v1sq,v1db,v1dq,v1fl,v1ca,v1sp⟩ m' W8 O8.out.at;rw [←hh,←hcn] at hwr;clear hh hcn HM';have hze : (maW m' == 0) = false:=by simp [HWN.out]
    have x0:=K8.out.box.c 0 rfl;have x1:=K8.out.box.c 1 rfl;have x2:=K8.out.box.c 2 rfl;have x3:=K8.out.box.c 3 rfl;have x4:=K8.out.box.c 4 rfl;have x5:=K8.out.box.c 5 rfl;have x6:=K8.out.box.c 6 rfl;have x7:=K8.out.box.c 7 rfl;have x8:=K8.out.box.c 8 rfl;have x9:=K8.out.box.c 9 rfl;have x10:=K8.out.box.c 10 rfl;go_wp2_with fail;refine hwr.mono ?_;clear hwr;clear x0 x1 x2 x3 x4 x5 x6 x7 x8 x9 x10;rintro e W9 ⟨rfl,g9⟩;have G9 : Hid (Grew w W9):=(G5.out.trans G8.out).trans g9;clear g9;go_wp2;go_ret;exact ⟨rfl,G9.out⟩
   ·have hsd : decide ((0 : Int) < (V.s.n : Int)) = false:=by simp; omega
    go_wp2;go_ret;exact ⟨rfl,G5.out⟩
end
section
open Go.ChangeShapes Go.WideShapes Go.ChangeAt Go.RowKit
theorem Tryz.cellsInt : Tryz.prog.cellsOf 3 = 1:=by kernel_rfl
theorem Tryz.cellsByte : Tryz.prog.cellsOf 5 = 1:=by kernel_rfl
theorem Tryz.cellsConfig : Tryz.prog.cellsOf 23 = 3:=by kernel_rfl
theorem Tryz.bytesByte : Tryz.prog.bytesOf 5 = 1:=by kernel_rfl
section
variable {H : Type} {enc : TypeId × Value→H} {w : World} {base : Nat} {spare : Nat→Bool} {held : Bool}
theorem cells_join {α : Type} {enc0 : α→List Value} {k : Nat} : ∀ (l : List α) (x : Addr),(∀ a∈l,(enc0 a).length = k)→(∀ (i : Nat) a,l[i]? = some a→Cells w (x.add (i * k)) (enc0 a))→Cells w x (l.flatMap enc0)
 | [],x,_,_=>fun j u hj=>by simp at hj
 | a :: l,x,hk,h=>fun j u hj=>by
  rw [List.flatMap_cons] at hj;have ha:=hk a (by simp)
  rcases Nat.lt_or_ge j k with hjk | hjk
  ·rw [List.getElem?_append_left (by omega)] at hj
   have:=h 0 a rfl j u hj;rw [add_add'] at this
   simpa using this
  ·rw [List.getElem?_append_right (by omega),ha] at hj
   have ih:=cells_join l (x.add k) (fun b hb=>hk b (by simp [hb])) (fun i b hi=>by
    have:=h (i + 1) b (by simpa using hi)
    rw [add_add'];rw [show k + i * k = (i + 1) * k by rw [Nat.add_mul]; omega]
    exact this) (j - k) u hj
   rw [add_add',show k + (j - k) = j by omega] at ih
   exact ih
theorem open_row {α : Type} [Inhabited α] (enc0 : α→List Value) (Q : α→Prop) (k : Nat) {t e : TypeId} (hu : Tryz.prog.underlying t = some (.slice e)) (hk : Tryz.prog.cellsOf e = k) (helem : ∀ n cs (x : DataW H × List MemPlace),cs.length = k→DataW.trod enc Tryz.prog w base spare held n e cs = some x→∃ a,Q a∧cs = enc0 a)
  {fuel : Nat} {cs : List Value} {x : DataW H × List MemPlace} (h : DataW.trod enc Tryz.prog w base spare held fuel t cs = some x) :
  ∃ v l,cs = [v]∧SliceAt enc0 w v l∧(∀ a∈l,Q a∧(enc0 a).length = k)∧(l = []∨∃ es sp,x.1 = .slice es sp∧es.length = l.length):=by
 rcases Go.Deep.open_slice hu h with ⟨rfl,_⟩ | ⟨a,len,cap,m,n,D,Pl,rfl,hb,hl,hm,hm',hx,hel⟩
 ·exact ⟨_,[],rfl,⟨none,0,rfl,fun _=>rfl,fun x hx=>by cases hx⟩,by simp,.inl rfl⟩
 ·have hlm : len≤m:=by rw [hm']; split <;> omega
  have hex : ∀ i,i < len→∃ a0,Q a0∧(enc0 a0).length = k∧Cells w (a.add (i * k)) (enc0 a0):=fun i hi=>by
   obtain ⟨cs',h1,h2⟩:=hel i (by omega)
   rw [hk] at h1;obtain ⟨_,hcl,hcc⟩:=World.cells?_some h1;obtain ⟨a0,hq,rfl⟩:=helem _ _ _ hcl h2;refine ⟨a0,hq,hcl,fun j u hj=>?_⟩
   have hj' : j < k:=by rw [←hcl]; exact (List.getElem?_eq_some_iff.1 hj).1
   rw [hcc j hj'];exact hj
  obtain ⟨f,hf⟩:=Go.Deep.choose_lt hex;refine ⟨_,(List.range len).map f,rfl,⟨some a,cap,by simp,fun h=>(by cases h),fun y hy=>?_⟩,fun b hb=>?_,.inr ⟨_,_,by rw [hx],by simp⟩⟩
  ·cases hy;refine cells_join (k:=k) _ _ (fun b hb=>?_) (fun i b hi=>?_)
   ·obtain ⟨i,hi,rfl⟩:=List.mem_map.1 hb;exact (hf i (List.mem_range.1 hi)).2.1
   ·have hil : i < len:=by have:=(List.getElem?_eq_some_iff.1 hi).1; simpa using this
    simp [hil] at hi
    subst hi;exact (hf i hil).2.2
  ·obtain ⟨i,hi,rfl⟩:=List.mem_map.1 hb;have:=hf i (List.mem_range.1 hi);exact ⟨this.1,this.2.1⟩
theorem open_bytes {b0 : Nat} {r : Reach} {v : Value} {d : DataW H} {p : List MemPlace} (hv : Value.okWide Tryz.prog w r b0 24 v) (h : DataW.Trod enc Tryz.prog w base spare held 24 v d p) (hw : ∀ n∈d.weights Tryz.prog 24,n≤reachBytes) :
  ∃ (vl : Sli) (s : List Int),v = .slice vl.a vl.n vl.c∧RowAt byE w (.slice vl.a vl.n vl.c) s∧vl.n≤vl.c∧∀ z∈s,0≤z∧z < 256:=by
 obtain ⟨fuel,hf⟩:=h;obtain ⟨v0,ps,e0,s0,q0,w0⟩:=open_row byE.enc (fun z=>0≤z∧z < 256) 1 Tryz.underlying24 Tryz.cellsByte (fun n cs x _ ht=>by
  obtain ⟨z,hz,hz2,hz3⟩:=DataW.trod_int Tryz.underlying5 ht;refine ⟨z,?_,hz⟩;have:=hz3;simp only [Lit.wf,Bool.and_eq_true,decide_eq_true_eq] at this;have e1 : IntKind.u8.min = 0:=rfl;have e2 : IntKind.u8.max = 255:=rfl;rw [e1,e2] at this;exact ⟨this.1,by have:=this.2; omega⟩) hf
 obtain ⟨a,c,rfl,s2,s3⟩:=s0;obtain ⟨a1,l1,c1,rfl⟩:=okWide_slice Tryz.underlying24 hv;have e1 : Value.slice a1 l1 c1 = .slice a ps.length c:=by simpa [Value.cells] using e0
 cases e1;refine ⟨⟨a,ps.length,c⟩,ps,rfl,⟨⟨a,c,rfl,s2,s3⟩,?_⟩,?_,fun z hz=>(q0 z hz).1⟩
 ·rcases w0 with rfl | ⟨es,sp,he,hel⟩
  ·show 0 * 1≤_
   omega
  ·have he' : d = .slice es sp:=he;have:=hw ((es.length + sp.length) * Tryz.prog.bytesOf 5) (by rw [he']; simp [DataW.weights,Tryz.underlying24])
   rw [Tryz.bytesByte] at this;unfold reachBytes at this
   show ps.length * 1≤_
   omega
 ·rcases Go.Deep.open_slice Tryz.underlying24 hf with ⟨h1,_⟩ | ⟨a',len,cap,_,_,_,_,h1,_,hl,_⟩
  ·have e2 : Value.slice a ps.length c = .slice none 0 0:=by simpa [Value.cells] using h1
   simp only [Value.slice.injEq] at e2
   show ps.length≤c
   omega
  ·have e2 : Value.slice a ps.length c = .slice (some a') len cap:=by simpa [Value.cells] using h1
   simp only [Value.slice.injEq] at e2
   show ps.length≤c
   omega
theorem open_config {b0 : Nat} {r : Reach} {v : Value} {d : DataW H} {p : List MemPlace} (hv : Value.okWide Tryz.prog w r b0 23 v) (h : DataW.Trod enc Tryz.prog w base spare held 23 v d p) : ∃ F S B : Int,v = .agg #[.int .i64 F,.int .i64 S,.int .i64 B]:=by
 obtain ⟨cs,rfl,hsz,_⟩ : ∃ cs,v = .agg cs∧cs.size = Tryz.prog.cellsOf 23∧Row.okWide Tryz.prog w r b0 23 cs:=by
  simpa [Value.okWide,Tryz.underlying23] using hv
 obtain ⟨fuel,hf⟩:=h;obtain ⟨xs,n,_,_,hlen,hl,hf⟩:=DataW.trod_struct Tryz.underlying23 hf;rw [Tryz.cellsConfig] at hlen;have hxl : xs.length = 3:=hl;obtain ⟨cs⟩:=cs;simp only [Value.cells] at hlen hf;have h0 : DataW.trod enc Tryz.prog w base spare held n 3 ((cs.drop 0).take (Tryz.prog.cellsOf 3)) = xs[0]?:=hf 0 _ rfl;have h1 : DataW.trod enc Tryz.prog w base spare held n 3 ((cs.drop 1).take (Tryz.prog.cellsOf 3)) = xs[1]?:=hf 1 _ rfl;have h2 : DataW.trod enc Tryz.prog w base spare held n 3 ((cs.drop 2).take (Tryz.prog.cellsOf 3)) = xs[2]?:=hf 2 _ rfl;rw [Tryz.cellsInt] at h0 h1 h2;rw [List.getElem?_eq_getElem (by omega)] at h0 h1 h2
 obtain ⟨r0,e0,_,_⟩:=DataW.trod_int Tryz.underlying3 h0;obtain ⟨r1,e1,_,_⟩:=DataW.trod_int Tryz.underlying3 h1;obtain ⟨r2,e2,_,_⟩:=DataW.trod_int Tryz.underlying3 h2;obtain ⟨c0,c1,c2,rfl⟩ : ∃ c0 c1 c2,cs = [c0,c1,c2]:=by
  match cs,hlen with
  | [c0,c1,c2],_=>exact ⟨c0,c1,c2,rfl⟩
 simp only [List.drop_succ_cons,List.drop_zero,List.take_succ_cons,List.take_zero,List.cons.injEq,and_true] at e0 e1 e2;subst e0 e1 e2;exact ⟨r0,r1,r2,rfl⟩
end
theorem own : ownKnob Tryz.prog.godebug = none:=by kernel_rfl
theorem laidOut : laidOutB Tryz.prog = true:=by kernel_rfl
theorem machineCounts_lifted (os : Os) (started : os.Started) (H : Type) (enc : TypeId × Value→H) :
  ReturnsInHanded {} Tryz.checked os 5 .any (Rows.machineCountsSpec.pre6 enc Tryz.prog Tryz.f5 Rows.machineCountsRow.domain false) (Rows.machineCountsSpec.post enc Tryz.prog Tryz.f5 false true false false):=by
 refine returnsInHanded_of_change_sized (C:=Tryz.checked) own started (by kernel_rfl) Tryz.func5
  (ChangeSpec.witness6 (enc:=enc) (C:=Tryz.checked) false ⟨#[],#[.agg #[.int .i64 0,.int .i64 0,.int .i64 0],.slice none 0 0,.int .i64 0,.bool false],[]⟩ 8 (by kernel_rfl) (by kernel_rfl) (by kernel_rfl) (by kernel_rfl)) ?_
 intro W base args ds gs before hval0 hW hcnd hsz0 _;have hsz : (DataW.weightsEach Tryz.prog (Tryz.f5.params.toList ++ Rows.machineCountsSpec.plain.varTypes Tryz.prog) (ds ++ gs)).all (·≤reachBytes) = true:=hsz0;have hval : ∀ (j : Nat) t v,Tryz.f5.params[j]? = some t→args[j]? = some v→Value.okWide Tryz.prog W .any base t v:=hval0;have hW':=hW;obtain ⟨p,q,hA0,hV,rfl,hfz,hnd⟩:=hW;have hA : DataW.TrodAll enc Tryz.prog W 0 (fun _=>true) true Tryz.f5.params.toList args.toList ds p:=hA0
 rw [Tryz.params5] at hA hval hsz;obtain ⟨v0,vs0,d0,ds0,p0,q0,hargs,rfl,rfl,k0,r0⟩:=trodAll_cons hA;obtain ⟨v1,vs1,d1,ds1,p1,q1,rfl,rfl,rfl,k1,r1⟩:=trodAll_cons r0;obtain ⟨v2,vs2,d2,ds2,p2,q2,rfl,rfl,rfl,k2,r2⟩:=trodAll_cons r1;obtain ⟨v3,vs3,d3,ds3,p3,q3,rfl,rfl,rfl,k3,r3⟩:=trodAll_cons r2;obtain ⟨rfl,rfl,rfl⟩:=trodAll_nil r3;obtain rfl : args = #[v0,v1,v2,v3]:=by cases args; simp_all
 obtain ⟨rfl,rfl⟩:=trodVars_none hV;have lt0 : ∀ x∈p0,x.block < W.heap.size:=by obtain ⟨m,hm⟩:=k0; exact DataW.trod_lt m _ _ _ hm
 have lt1 : ∀ x∈p1,x.block < W.heap.size:=by obtain ⟨m,hm⟩:=k1; exact DataW.trod_lt m _ _ _ hm
 have lt2 : ∀ x∈p2,x.block < W.heap.size:=by obtain ⟨m,hm⟩:=k2; exact DataW.trod_lt m _ _ _ hm
 have lt3 : ∀ x∈p3,x.block < W.heap.size:=by obtain ⟨m,hm⟩:=k3; exact DataW.trod_lt m _ _ _ hm
 obtain ⟨cF,cS,cB,hce⟩:=open_config (hval 0 23 v0 rfl rfl) k0;subst hce;obtain ⟨vl,ll,hvl,hrow,hcap,hbyt⟩:=open_bytes (hval 1 24 v1 rfl rfl) k1 (fun n hn=>by
  have:=List.all_eq_true.1 hsz n (DataW.weights_mem_each (j:=1) (t:=24) (d:=d1) rfl rfl n hn)
  simpa using this)
 subst hvl;have k2':=k2;have k3':=k3;obtain ⟨n2,rfl,rfl,rfl,w2⟩:=open_int Tryz.underlying3 (hval 2 3 v2 rfl rfl) k2;obtain ⟨n3,rfl,rfl,rfl⟩:=open_bool Tryz.underlying4 (hval 3 4 v3 rfl rfl) k3;clear hA0 hval0 hsz0;refine (counts_any cF cS cB vl ll n2 n3 W hrow hcap hbyt).mono fun e W' ⟨he,bel⟩=>?_
 subst he;have stay : ∀ {t : TypeId} {v : Value} {d : DataW H} {ps : List MemPlace},Tryz.prog.readableRec t = true→t < Tryz.prog.types.size→DataW.Trod enc Tryz.prog W 0 (fun _=>true) true t v d ps→(∀ x∈ps,x.block < W.heap.size)→DataW.Trod enc Tryz.prog W' 0 (fun b=>decide (b < W.heap.size)) true t v d ps :=
  fun h1 h2 h3 h4=>Below.trod laidOut h1 h2 h3 bel h4
 exact ⟨_,rfl,_,_,_,[],_,[],hW',trodAll_mk1 (shut_bool Tryz.underlying4 _),(trodAll_cons_mk (stay (by kernel_rfl) (of_decide_eq_true (by kernel_rfl)) k0 lt0) (trodAll_cons_mk (stay (by kernel_rfl) (of_decide_eq_true (by kernel_rfl)) k1 lt1) (trodAll_cons_mk (stay (by kernel_rfl) (of_decide_eq_true (by kernel_rfl)) k2' lt2) (trodAll_cons_mk (stay (by kernel_rfl) (of_decide_eq_true (by kernel_rfl)) k3' lt3) trodAll_mk0)))),rfl,Below.frame bel _,fun h=>by cases h⟩
theorem machineCounts_over : Rows.machineCountsRow.holds Tryz.pinned (OpenSpec.ofChange Rows.machineCountsSpec) :=
 OpenClaim.holds_of_wide 5 Tryz.f5 rfl rfl rfl rfl rfl rfl rfl ⟨rfl,rfl,rfl,rfl,rfl⟩ rfl rfl rfl rfl rfl (by kernel_rfl) Tryz.func5 (by kernel_rfl)
  (of_decide_eq_true (by kernel_rfl)) (by unfold Func.isWrapper; first | (rw [if_pos (by decide +kernel)]; kernel_rfl) | (rw [if_neg (by decide +kernel)]; exact ⟨rfl,rfl⟩))
  (fun os started H enc _=>machineCounts_lifted os started H enc)
theorem machineCounts_holds : Rows.MachineCountsSaid:=machineCounts_over
#print axioms machineCounts_holds
end
end Go.Proofs.YtjleclgecnndjaaGreat
