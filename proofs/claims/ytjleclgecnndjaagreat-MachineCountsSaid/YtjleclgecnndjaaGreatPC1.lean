import Derived.Test.YtjleclgecnndjaaGreatPC0
import Derived.BigQuiet
import Derived.WalkSmall
import Derived.Deep.Cut
import Derived.ChangeKeysEq
import Derived.Deep.MidRow
import Derived.Laws.ResultCell
import Derived.OrdersHeld
import Derived.Deep.QuietTactic
namespace Go.Proofs.YtjleclgecnndjaaGreat
set_option maxRecDepth 100000
set_option maxHeartbeats 4000000
section
open Go.RowKit
def OwnDisk (base : Nat) (w : World) (d : Value) (ps : List (List Int)) (qs : List (Int × List Int)) : Prop:=∃ b q,d = .agg #[b,q]∧OwnPages base w b ps∧OwnPuts base w q qs
theorem OwnPages.grew {base : Nat} {w w' : World} {v : Value} {ps : List (List Int)} (h : OwnPages base w v ps) (hg : Grew w w') : OwnPages base w' v ps:=⟨ownsRow_grew h.1 hg,h.2⟩
theorem OwnPuts.grew {base : Nat} {w w' : World} {v : Value} {qs : List (Int × List Int)} (h : OwnPuts base w v qs) (hg : Grew w w') : OwnPuts base w' v qs:=⟨ownsRow_grew h.1 hg,h.2⟩
theorem OwnPages.base {base base' : Nat} {w : World} {v : Value} {ps : List (List Int)} (h : OwnPages base w v ps) (hb : base'≤base) : OwnPages base' w v ps:=⟨ownsRow_base h.1 hb,h.2⟩
theorem OwnPuts.base {base base' : Nat} {w : World} {v : Value} {qs : List (Int × List Int)} (h : OwnPuts base w v qs) (hb : base'≤base) : OwnPuts base' w v qs:=⟨ownsRow_base h.1 hb,h.2⟩
theorem OwnPages.slice {base : Nat} {w : World} {v : Value} {ps : List (List Int)} (h : OwnPages base w v ps) : ∃ a n c,v = .slice a n c:=by
 rcases h.1.2 with ⟨rfl,_⟩ | ⟨g,cap,cur,rfl,_⟩
 ·exact ⟨_,_,_,rfl⟩
 ·exact ⟨_,_,_,rfl⟩
theorem OwnPuts.slice {base : Nat} {w : World} {v : Value} {qs : List (Int × List Int)} (h : OwnPuts base w v qs) : ∃ a n c,v = .slice a n c:=by
 rcases h.1.2 with ⟨rfl,_⟩ | ⟨g,cap,cur,rfl,_⟩
 ·exact ⟨_,_,_,rfl⟩
 ·exact ⟨_,_,_,rfl⟩
theorem OwnPages.setCell {base : Nat} {w : World} {v : Value} {ps : List (List Int)} (h : OwnPages base w v ps) {a : Addr} (ha : a.block < base) (u : Value) : OwnPages base (w.setCell a u) v ps:=⟨ownsRow_setCell_below h.1 ha u,h.2⟩
theorem OwnPuts.setCell {base : Nat} {w : World} {v : Value} {qs : List (Int × List Int)} (h : OwnPuts base w v qs) {a : Addr} (ha : a.block < base) (u : Value) : OwnPuts base (w.setCell a u) v qs:=⟨ownsRow_setCell_below h.1 ha u,h.2⟩
def NewDisk (base : Nat) (w : World) (d : Value) (ps : List (List Int)) (qs : List (Int × List Int)) : Prop:=∃ b q,d = .agg #[b,q]∧PagesAt w b ps∧PutsAt w q qs∧fresh base b∧fresh base q
theorem own_any (d : Value) (ps : List (List Int)) (qs : List (Int × List Int)) (w : World) (hd : DiskAt w d ps qs) :
  Calls Tryz.prog 52 #[d] w fun e w'=>∃ d',e = .returned d'∧OwnDisk w.heap.size w' d' ps qs∧Grew w w':=by
 obtain ⟨b,q,rfl,hb,hq⟩:=hd;have HB : Hid (PagesAt w b ps):=hb;have HQ : Hid (PutsAt w q qs):=hq;obtain ⟨ab,cb,rfl,_⟩:=hb.rows;obtain ⟨aq,cq,rfl,_⟩:=hq.rows;clear hb hq
 go_enter Tryz.func52,Tryz.ntmps52
 go_wp2;obtain ⟨W1,hW⟩ : ∃ W1,(w.alloc (.cells #[.slice ab ps.length cb,.slice aq qs.length cq] 33)).alloc (.cells #[.slice none 0 0,.slice none 0 0] 33) = W1:=⟨_,rfl⟩;have hg1 : Hid (Grew w W1):=show Grew w W1 by rw [←hW]; exact (grew_alloc _ _).trans (grew_alloc _ _)
 have hsz : Hid (W1.heap.size = w.heap.size + 2):=show W1.heap.size = _ by rw [←hW]; simp
 have k0 : W1.cell? ⟨w.heap.size,0,none⟩ = some (.slice ab ps.length cb):=by rw [←hW]; simp
 have k1 : W1.cell? ⟨w.heap.size,1,none⟩ = some (.slice aq qs.length cq):=by rw [←hW]; simp
 have k2 : W1.cell? ⟨w.heap.size + 1,0,none⟩ = some (.slice none 0 0):=by rw [←hW]; simp
 have k3 : W1.cell? ⟨w.heap.size + 1,1,none⟩ = some (.slice none 0 0):=by rw [←hW]; simp
 have f2 : W1.frozen? ⟨w.heap.size + 1,0,none⟩ = false:=by rw [←hW]; simp
 have f3 : W1.frozen? ⟨w.heap.size + 1,1,none⟩ = false:=by rw [←hW]; simp
 rw [hW];have hx0 : ∀ x : GrownW W1,x.world.cell? ⟨w.heap.size,0,none⟩ = some (.slice ab ps.length cb):=fun x=>(Below.cell x.grew (World.block_lt_of_cell? _ _ k0)).trans k0
 have hx1 : ∀ x : GrownW W1,x.world.cell? ⟨w.heap.size,1,none⟩ = some (.slice aq qs.length cq):=fun x=>(Below.cell x.grew (World.block_lt_of_cell? _ _ k1)).trans k1
 have hne : Nonempty (GrownW W1):=⟨⟨_,Grew.refl _⟩⟩;refine wp_lax_tail 7 [(2,⟨fun v=>∃ a n c,v = .slice a n c,fun v w'=>OwnPages (w.heap.size + 2) w' v ps⟩),(5,⟨fun v=>∃ a n c,v = .slice a n c,fun v w'=>OwnPuts (w.heap.size + 2) w' v qs⟩)] mixed (by kernel_rfl) rfl rfl (by decide) ?_ ?_ ?_
 ·intro x hx
  simp at hx
  rcases hx with rfl | rfl
  ·exact ⟨_,none,0,0,rfl⟩
  ·exact ⟨_,none,0,0,rfl⟩
 ·intro x hx
  simp at hx
  rcases hx with rfl | rfl
  ·intro v w1 w2 hg h; exact h.grew hg
  ·intro v w1 w2 hg h; exact h.grew hg
 simp only [List.take,List.drop];iterate 2 (refine lax_quiet rfl rfl rfl (fun K hK=>?_); go_big_quiet_op; refine hK _ ?_; clear hK K)
 refine lax_spec rfl rfl (fun w' hg hF=>?_) (fun v1 hv=>?_)
 ·refine Does.call [.slice ab ps.length cb] rfl Tryz.func96 rfl rfl rfl ?_;refine (clonePages_any _ ps w' (HB.out.grew (hg1.out.trans hg))).mono ?_;rintro e w'' ⟨v2,rfl,hb,hg2⟩;exact ⟨_,rfl,hg2,hb.slice,hb.base (by have:=Below.size hg; rw [hsz.out] at this; exact this)⟩
 obtain ⟨a1,n1,c1,rfl⟩:=hv;simp only [Act.put,List.setIfInBounds_toArray,List.set_cons_succ,List.set_cons_zero];iterate 2 (refine lax_quiet rfl rfl rfl (fun K hK=>?_); go_big_quiet_op; refine hK _ ?_; clear hK K)
 refine lax_spec rfl rfl (fun w' hg hF=>?_) (fun v1 hv=>?_)
 ·refine Does.call [.slice aq qs.length cq] rfl Tryz.func97 rfl rfl rfl ?_;refine (clonePuts_any _ qs w' (HQ.out.grew (hg1.out.trans hg))).mono ?_;rintro e w'' ⟨v2,rfl,hb,hg2⟩;exact ⟨_,rfl,hg2,hb.slice,hb.base (by have:=Below.size hg; rw [hsz.out] at this; exact this)⟩
 obtain ⟨a2,n2,c2,rfl⟩:=hv;simp only [Act.put,List.setIfInBounds_toArray,List.set_cons_succ,List.set_cons_zero];iterate 1 (refine lax_quiet rfl rfl rfl (fun K hK=>?_); go_big_quiet_op; refine hK _ ?_; clear hK K)
 refine lax_nil fun w' hg hF=>?_
 have ow1 : Hid (OwnPages (w.heap.size + 2) w' (.slice a1 n1 c1) ps):=hF 2;have ow2 : Hid (OwnPuts (w.heap.size + 2) w' (.slice a2 n2 c2) qs):=hF 5;have m2 : w'.cell? ⟨w.heap.size + 1,0,none⟩ = some (.slice none 0 0):=(Below.cell hg (World.block_lt_of_cell? _ _ k2)).trans k2;have m3 : w'.cell? ⟨w.heap.size + 1,1,none⟩ = some (.slice none 0 0):=(Below.cell hg (World.block_lt_of_cell? _ _ k3)).trans k3;have g2 : w'.frozen? ⟨w.heap.size + 1,0,none⟩ = false:=(Below.frozen hg (World.block_lt_of_cell? _ _ k2)).trans f2;have g3 : w'.frozen? ⟨w.heap.size + 1,1,none⟩ = false:=(Below.frozen hg (World.block_lt_of_cell? _ _ k3)).trans f3;have HG : Hid (Grew w w'):=hg1.out.trans hg;clear hF k0 k1 k2 k3 f2 f3 hx0 hx1 hW hg hne;go_wp2;refine bodyPost_ret (v:= .agg #[.slice a1 n1 c1,.slice a2 n2 c2]) (by simp [results,Tryz.results52,go_sem, *]) rfl ⟨_,rfl,⟨_,_,rfl,((ow1.out.setCell (by simp) _).setCell (by simp) _).base (by omega),((ow2.out.setCell (by simp) _).setCell (by simp) _).base (by omega)⟩,?_⟩
 exact Below.setCell (Below.setCell HG.out (p:=⟨w.heap.size + 1,0,none⟩) (by simp) _) (p:=⟨w.heap.size + 1,1,none⟩) (by simp) _
def siv (z : Int) : List Value:=[.int .i64 z]
theorem Tryz.infoInt : (Tryz.prog.info? 3).map (fun i=>(i.zero,i.size,i.bytes)) = some (some (.int .i64 0),1,8):=by kernel_rfl
def slE : Elt Int where
 enc:=siv
 k:=1
 ty:=3
 st:=29
 bytes:=8
 zv:= .int .i64 0
 zero:=0
 len:=fun _=>rfl
 one:=fun a u hu=>by
  simp only [siv,List.mem_cons,List.not_mem_nil,or_false] at hu;subst hu;rfl
 und:=Tryz.underlying29
 info:=Tryz.infoInt
 zok:=rfl
 few:=by decide
 pos:=by decide
def SlRows (w : World) (a : Option Addr) (l : List Int) : Prop:=∀ (j : Nat) x,l[j]? = some x→∃ ad,a = some ad∧∀ W,Grew w W→W.cell? (ad.add j) = some (.int .i64 x)
theorem RowAt.sls {w : World} {v : Value} {l : List Int} (h : RowAt slE w v l) : ∃ a c,v = .slice a l.length c∧SlRows w a l:=by
 obtain ⟨a,c,h1,h2⟩:=h.rows;refine ⟨a,c,h1,fun j x hj=>?_⟩
 obtain ⟨ad,h3,h4⟩:=h2 j x hj;refine ⟨ad,h3,fun W hW=>?_⟩
 have:=h4 W hW 0 _ rfl;rw [add_add',show j * slE.k + 0 = j from by show j * 1 + 0 = j; omega] at this
 exact this
def niv (z : Int) : List Value:=[.int .i64 z]
theorem Tryz.infoNum : (Tryz.prog.info? 3).map (fun i=>(i.zero,i.size,i.bytes)) = some (some (.int .i64 0),1,8):=by kernel_rfl
def blE : Elt Int where
 enc:=niv
 k:=1
 ty:=3
 st:=28
 bytes:=8
 zv:= .int .i64 0
 zero:=0
 len:=fun _=>rfl
 one:=fun a u hu=>by
  simp only [niv,List.mem_cons,List.not_mem_nil,or_false] at hu;subst hu;rfl
 und:=Tryz.underlying28
 info:=Tryz.infoNum
 zok:=rfl
 few:=by decide
 pos:=by decide
def NumRows (w : World) (a : Option Addr) (l : List Int) : Prop:=∀ (j : Nat) x,l[j]? = some x→∃ ad,a = some ad∧∀ W,Grew w W→W.cell? (ad.add j) = some (.int .i64 x)
theorem RowAt.nums {w : World} {v : Value} {l : List Int} (h : RowAt blE w v l) : ∃ a c,v = .slice a l.length c∧NumRows w a l:=by
 obtain ⟨a,c,h1,h2⟩:=h.rows;refine ⟨a,c,h1,fun j x hj=>?_⟩
 obtain ⟨ad,h3,h4⟩:=h2 j x hj;refine ⟨ad,h3,fun W hW=>?_⟩
 have:=h4 W hW 0 _ rfl;rw [add_add',show j * blE.k + 0 = j from by show j * 1 + 0 = j; omega] at this
 exact this
structure FlV where
 size : Int
 a : Option Addr
 n : Nat
 c : Nat
def FlV.v (x : FlV) : Value:= .slice x.a x.n x.c
def flv (x : FlV) : List Value:=[.int .i64 x.size,.slice x.a x.n x.c]
theorem Tryz.infoFile : (Tryz.prog.info? 71).map (fun i=>(i.zero,i.size,i.bytes)) = some (some (.agg #[.int .i64 0,.slice none 0 0]),2,32):=by kernel_rfl
def fvE : Elt FlV where
 enc:=flv
 k:=2
 ty:=71
 st:=34
 bytes:=32
 zv:= .agg #[.int .i64 0,.slice none 0 0]
 zero:=⟨0,none,0,0⟩
 len:=fun _=>rfl
 one:=fun a u hu=>by
  simp only [flv,List.mem_cons,List.not_mem_nil,or_false] at hu
  rcases hu with rfl | rfl <;> rfl
 und:=Tryz.underlying34
 info:=Tryz.infoFile
 zok:=rfl
 few:=by decide
 pos:=by decide
def FilesS (B0 B1 : Nat) (w : World) (v : Value) (fs : List Fl) : Prop :=
 Cap v∧∃ xs : List FlV,RowS fvE B0 B1 w v xs∧xs.length = fs.length∧∀ (i : Nat) x f,xs[i]? = some x→fs[i]? = some f→x.size = f.size∧RowS blE B0 B1 w (.slice x.a x.n x.c) f.bl
def FilesAt (w : World) (v : Value) (fs : List Fl) : Prop:=FilesS 0 0 w v fs
theorem FilesS.out {B0 B1 : Nat} {w w' : World} {v : Value} {fs : List Fl} (h : FilesS B0 B1 w v fs) (k : Out B0 B1 w w') : FilesS B0 B1 w' v fs:=by
 obtain ⟨hc,xs,h1,h2,h3⟩:=h;exact ⟨hc,xs,h1.out k,h2,fun i x f hx hf=>⟨(h3 i x f hx hf).1,(h3 i x f hx hf).2.out k⟩⟩
theorem FilesS.grew {B0 B1 : Nat} {w w' : World} {v : Value} {fs : List Fl} (h : FilesS B0 B1 w v fs) (k : Grew w w') : FilesS B0 B1 w' v fs:=h.out (Out.grew k)
def FlCells (W : World) (y : Addr) (s : Int) (b : Value) : Prop:=W.cell? y = some (.int .i64 s)∧W.cell? { block:=y.block,off:=y.off + 1 } = some b
def FlRows (w : World) (a : Option Addr) (fs : List Fl) : Prop:=∀ (j : Nat) f,fs[j]? = some f→∃ ad,a = some ad∧∃ xa xc,RowAt blE w (.slice xa f.bl.length xc) f.bl∧∀ W,Grew w W→FlCells W (ad.add (j * 2)) f.size (.slice xa f.bl.length xc)
theorem FilesAt.rows {w : World} {v : Value} {fs : List Fl} (h : FilesAt w v fs) : ∃ a c,v = .slice a fs.length c∧fs.length≤9223372036854775807∧FlRows w a fs:=by
 obtain ⟨_,xs,k1,k2,k3⟩:=h;obtain ⟨a,c,h1,h2⟩:=k1.now.rows;refine ⟨a,c,by rw [←k2]; exact h1,by rw [←k2]; exact k1.now.short,fun j f hf=>?_⟩
 obtain ⟨x,hx⟩ : ∃ x,xs[j]? = some x:=⟨_,List.getElem?_eq_getElem (by rw [k2]; exact (List.getElem?_eq_some_iff.1 hf).1)⟩
 obtain ⟨ad,e1,e2⟩:=h2 j x hx;obtain ⟨q1,q2⟩:=k3 j x f hx hf;have q3:=q2.now;obtain ⟨⟨a',c',q4,_⟩,_⟩:=id q3;cases x;simp only at q1 q3 q4;cases q4;subst q1;refine ⟨ad,e1,_,_,q3,fun W hW=>⟨?_,?_⟩⟩
 ·exact e2 W hW 0 _ rfl
 ·exact e2 W hW 1 _ rfl
theorem below_any (m n : Int) (w : World) :
  Calls Tryz.prog 113 #[.int .i64 m,.int .i64 n] w fun e w'=>e = .returned (.bool (bel m n))∧w' = w:=by
 have H : Hid (bel m n = (decide (0≤m) && decide (m < n))):=rfl
 by_cases h0 : 0≤m
 ·by_cases h1 : m < n
  ·go_enter Tryz.func113,Tryz.ntmps113
   go_wp2;go_ret;exact ⟨by rw [H.out]; simp [*],rfl⟩
  ·go_enter Tryz.func113,Tryz.ntmps113
   go_wp2;go_ret;exact ⟨by rw [H.out]; simp [*],rfl⟩
 ·go_enter Tryz.func113,Tryz.ntmps113
  go_wp2;go_ret;exact ⟨by rw [H.out]; simp; omega,rfl⟩
theorem below_yes {m n : Int} (h0 : 0≤m) (h1 : m < n) (w : World) : Calls Tryz.prog 113 #[.int .i64 m,.int .i64 n] w fun e w'=>e = .returned (.bool true)∧w' = w:=by
 have:=below_any m n w;rw [bel_iff.2 ⟨h0,h1⟩] at this;exact this
theorem below_no {m n : Int} (h : ¬ (0≤m∧m < n)) (w : World) : Calls Tryz.prog 113 #[.int .i64 m,.int .i64 n] w fun e w'=>e = .returned (.bool false)∧w' = w:=by
 have:=below_any m n w;rw [bel_no h] at this;exact this
theorem ret_int {a b : Int} (h : a = b) : Ending.returned (.int .i64 a) = .returned (.int .i64 b):=by rw [h]
theorem count_any (n : Int) (w : World) (h1 : 0≤n) (h2 : n≤96) :
  Calls Tryz.prog 58 #[.int .i64 n] w fun e w'=>e = .returned (.int .i64 (cntP n))∧w' = w:=by
 by_cases h : n < 1
 ·have H : Hid (cntP n = 0):=show _ = _ by unfold cntP; rw [if_pos h]
  go_enter Tryz.func58,Tryz.ntmps58
  go_wp2;go_ret;exact ⟨ret_int H.out.symm,rfl⟩
 ·have H : Hid (cntP n = (n - 1) / 8 + 1):=show _ = _ by unfold cntP; rw [if_neg h]
  go_enter Tryz.func58,Tryz.ntmps58
  go_wp2;go_ret;exact ⟨ret_int H.out.symm,rfl⟩
theorem refCount_any (n : Int) (w : World) (h1 : 0≤n) (h2 : n≤96) :
  Calls Tryz.prog 29 #[.int .i64 n] w fun e w'=>e = .returned (.int .i64 (cntP n))∧w' = w:=by
 by_cases h : n < 1
 ·have H : Hid (cntP n = 0):=show _ = _ by unfold cntP; rw [if_pos h]
  have h' : n≤0:=by omega
  go_enter Tryz.func29,Tryz.ntmps29
  go_wp2;go_ret;exact ⟨ret_int H.out.symm,rfl⟩
 ·have H : Hid (cntP n = (n - 1) / 8 + 1):=show _ = _ by unfold cntP; rw [if_neg h]
  have h' : ¬ n≤0:=by omega
  by_cases hr : 0 < n % 8
  ·have H' : Hid (cntP n = n / 8 + 1):=show _ = _ by rw [H.out]; omega
   go_enter Tryz.func29,Tryz.ntmps29
   go_wp2;go_ret;exact ⟨ret_int H'.out.symm,rfl⟩
  ·have H' : Hid (cntP n = n / 8):=show _ = _ by rw [H.out]; omega
   go_enter Tryz.func29,Tryz.ntmps29
   go_wp2;go_ret;exact ⟨ret_int H'.out.symm,rfl⟩
theorem cloneInt_any (v : Value) (fs : List Int) (w : World) (hv : RowAt blE w v fs) :
  Calls Tryz.prog 99 #[v] w fun e w'=>∃ v',e = .returned v'∧OwnRow blE w.heap.size w' v' fs∧Grew w w':=by
 have HV : Hid (RowAt blE w v fs):=hv;obtain ⟨⟨a,c,rfl,hnone,hcells⟩,hbytes⟩:=hv;have q22 : ∀ (w : World) (a : Option Addr) (n c n' c' : Nat),(binOp .eql 28 (.slice a n c) (.slice none n' c')).run Tryz.prog w = .ok (.bool a.isNone) w:=fun w a n c n' c'=>Lib.run_eql_slice_nil w _ _ a n c n' c' Tryz.underlying28
 cases a with
 | none =>
  have hps:=hnone rfl;subst hps;clear hcells hnone hbytes HV
  go_enter Tryz.func99,Tryz.ntmps99
  go_wp2;go_ret;exact ⟨_,rfl,OwnRow.nil _ _ _,Grew.refl w⟩
 | some x =>
  have HB : Hid (fs.length * 8≤140737488355328):=hbytes;clear hcells hnone hbytes
  go_enter Tryz.func99,Tryz.ntmps99
  go_wp2_with (at_builtin; refine wpList_append_row (E:=blE) rfl (.tmp 5) (.tmp 6) rfl w.heap.size _ [] rfl (OwnRow.made blE w) _ fs rfl (HV.out.grew (grew_alloc _ _)) ?qb (by simp) ?_)
  case qb=>rw [List.length_nil,Nat.zero_add]; exact HB.out
  intro v' w1 hown hgrow;go_wp2;go_ret;exact ⟨v',rfl,by simpa using hown,((Below.refl _ w).alloc (Nat.le_refl _) _).grown hgrow (by simp) (by intro k hk; simp [Value.ownBlock] at hk; omega)⟩
theorem cloneFile_any (v : Value) (fs : List FlV) (w : World) (hv : RowAt fvE w v fs) :
  Calls Tryz.prog 98 #[v] w fun e w'=>∃ v',e = .returned v'∧OwnRow fvE w.heap.size w' v' fs∧Grew w w':=by
 have HV : Hid (RowAt fvE w v fs):=hv;obtain ⟨⟨a,c,rfl,hnone,hcells⟩,hbytes⟩:=hv;have q22 : ∀ (w : World) (a : Option Addr) (n c n' c' : Nat),(binOp .eql 34 (.slice a n c) (.slice none n' c')).run Tryz.prog w = .ok (.bool a.isNone) w:=fun w a n c n' c'=>Lib.run_eql_slice_nil w _ _ a n c n' c' Tryz.underlying34
 cases a with
 | none =>
  have hps:=hnone rfl;subst hps;clear hcells hnone hbytes HV
  go_enter Tryz.func98,Tryz.ntmps98
  go_wp2;go_ret;exact ⟨_,rfl,OwnRow.nil _ _ _,Grew.refl w⟩
 | some x =>
  have HB : Hid (fs.length * 32≤140737488355328):=hbytes;clear hcells hnone hbytes
  go_enter Tryz.func98,Tryz.ntmps98
  go_wp2_with (at_builtin; refine wpList_append_row (E:=fvE) rfl (.tmp 5) (.tmp 6) rfl w.heap.size _ [] rfl (OwnRow.made fvE w) _ fs rfl (HV.out.grew (grew_alloc _ _)) ?qb (by simp) ?_)
  case qb=>rw [List.length_nil,Nat.zero_add]; exact HB.out
  intro v' w1 hown hgrow;go_wp2;go_ret;exact ⟨v',rfl,by simpa using hown,((Below.refl _ w).alloc (Nat.le_refl _) _).grown hgrow (by simp) (by intro k hk; simp [Value.ownBlock] at hk; omega)⟩
def OwnFiles (base : Nat) (w : World) (v : Value) (fs : List Fl) : Prop :=
 ∃ xs : List FlV,OwnRow fvE base w v xs∧xs.length = fs.length∧(∀ (i : Nat) x f,xs[i]? = some x→fs[i]? = some f→x.size = f.size∧OwnRow blE base w x.v f.bl) ∧
  ∀ (i j : Nat) x y,i≠j→xs[i]? = some x→xs[j]? = some y→∀ g,x.v.ownBlock = some g→y.v.ownBlock≠some g
theorem OwnFiles.new {base : Nat} {w : World} {v : Value} {fs : List Fl} (h : OwnFiles base w v fs) : FilesS 0 base w v fs:=by
 obtain ⟨xs,h1,h2,h3,_⟩:=h;exact ⟨h1.cap,xs,h1.new.stays,h2,fun i x f hx hf=>⟨(h3 i x f hx hf).1,(h3 i x f hx hf).2.new.stays⟩⟩
theorem OwnFiles.grew {base : Nat} {w w' : World} {v : Value} {fs : List Fl} (h : OwnFiles base w v fs) (k : Grew w w') : OwnFiles base w' v fs:=by
 obtain ⟨xs,h1,h2,h3,h4⟩:=h;exact ⟨xs,h1.grew k,h2,fun i x f hx hf=>⟨(h3 i x f hx hf).1,(h3 i x f hx hf).2.grew k⟩,h4⟩
theorem OwnFiles.setCell {base : Nat} {w : World} {v : Value} {fs : List Fl} (h : OwnFiles base w v fs) {a : Addr} (ha : a.block < base) (u : Value) : OwnFiles base (w.setCell a u) v fs:=by
 obtain ⟨xs,h1,h2,h3,h4⟩:=h;exact ⟨xs,h1.setCell ha u,h2,fun i x f hx hf=>⟨(h3 i x f hx hf).1,(h3 i x f hx hf).2.setCell ha u⟩,h4⟩
theorem two_kinds : blE.ty≠fvE.ty:=by decide
structure Half (base : Nat) (w : World) (kk : Nat) (xs ys : List FlV) (fs : List Fl) : Prop where
 len : ys.length = xs.length
 own : ∀ (i : Nat) y f,i < kk→ys[i]? = some y→fs[i]? = some f→y.size = f.size∧OwnRow blE base w y.v f.bl
 rest : ∀ (i : Nat),kk≤i→ys[i]? = xs[i]?
 two : ∀ (i j : Nat) x y,i < kk→j < kk→i≠j→ys[i]? = some x→ys[j]? = some y→∀ g,x.v.ownBlock = some g→y.v.ownBlock≠some g
theorem Half.step {base : Nat} {w w1 w2 : World} {kk : Nat} {xs ys : List FlV} {fs : List Fl} (h : Half base w kk xs ys fs) (hg : Grew w w1) {g : Nat} (hg2 : w1.grownBy w2 (some g)) {f : Fl} {x : FlV} (hf : fs[kk]? = some f) (hx : xs[kk]? = some x)
  (hs : x.size = f.size) {a : Option Addr} {n c : Nat} (hown : OwnRow blE w.heap.size w1 (.slice a n c) f.bl) (hb : base≤w.heap.size) {v : Value} (hv : OwnRow fvE base w1 v ys) (hvg : v.ownBlock = some g) : Half base w2 (kk + 1) xs (ys.set kk ⟨x.size,a,n,c⟩) fs:=by
 have hk : kk < ys.length:=by rw [h.len]; exact (List.getElem?_eq_some_iff.1 hx).1
 have keep : ∀ (y : FlV) (l : List Int),OwnRow blE base w1 y.v l→OwnRow blE base w2 y.v l:=fun y l o=>o.grown hg2 (fun g' h1 e=>by
  cases e;exact hv.apart o (Ne.symm two_kinds) g hvg h1)
 refine ⟨by rw [List.length_set]; exact h.len,fun i y f' hi hy hf'=>?_,fun i hi=>?_,fun i j p q hi hj hij hp hq g' hp'=>?_⟩
 ·by_cases e : i = kk
  ·subst e;rw [List.getElem?_set_self hk] at hy;cases hy;rw [hf] at hf';cases hf';exact ⟨hs,keep ⟨x.size,a,n,c⟩ _ (hown.base hb)⟩
  ·rw [List.getElem?_set_ne (fun h=>e h.symm)] at hy
   obtain ⟨q1,q2⟩:=h.own i y f' (by omega) hy hf'
   exact ⟨q1,keep y _ (q2.grew hg)⟩
 ·rw [List.getElem?_set_ne (by omega)]
  exact h.rest i (by omega)
 ·have newer : ∀ (i : Nat) y f',i < kk→ys[i]? = some y→fs[i]? = some f'→∀ b,y.v.ownBlock = some b→b < w.heap.size:=fun i y f' hi hy hf' b hb'=>((h.own i y f' hi hy hf').2.lt b hb').2
  have hfl : ∀ i,i < kk→∃ f',fs[i]? = some f':=fun i hi=>⟨_,List.getElem?_eq_getElem (by have:=(List.getElem?_eq_some_iff.1 hf).1; omega)⟩
  by_cases e1 : i = kk
  ·subst e1;rw [List.getElem?_set_self hk] at hp;cases hp;rw [List.getElem?_set_ne (by omega)] at hq
   obtain ⟨f',hf'⟩:=hfl j (by omega)
   intro hq';have h1:=newer j q f' (by omega) hq hf' g' hq'
   have h2:=(hown.lt g' hp').1;omega
  ·rw [List.getElem?_set_ne (by omega)] at hp
   by_cases e2 : j = kk
   ·subst e2;rw [List.getElem?_set_self hk] at hq;cases hq;obtain ⟨f',hf'⟩:=hfl i (by omega)
    intro hq';have h1:=newer i p f' (by omega) hp hf' g' hp'
    have h2:=(hown.lt g' hq').1;omega
   ·rw [List.getElem?_set_ne (by omega)] at hq
    exact h.two i j p q (by omega) (by omega) hij hp hq g' hp'
theorem Half.all {base : Nat} {w : World} {xs ys : List FlV} {fs : List Fl} {v : Value} (h : Half base w xs.length xs ys fs) (hl : xs.length = fs.length) (hv : OwnRow fvE base w v ys) : OwnFiles base w v fs:=by
 refine ⟨ys,hv,h.len.trans hl,fun i y f hy hf=>h.own i y f (by rw [←h.len]; exact (List.getElem?_eq_some_iff.1 hy).1) hy hf,fun i j p q hij hp hq=>h.two i j p q ?_ ?_ hij hp hq⟩
 ·rw [←h.len]; exact (List.getElem?_eq_some_iff.1 hp).1
 ·rw [←h.len]; exact (List.getElem?_eq_some_iff.1 hq).1
theorem ownSt_any (v : Value) (fs : List Fl) (cnt : Int) (w : World) (hv : FilesAt w v fs) :
  Calls Tryz.prog 53 #[.agg #[v,.int .i64 cnt]] w fun e w'=>∃ b,e = .returned (.agg #[b,.int .i64 cnt])∧OwnFiles (w.heap.size + 2) w' b fs∧Grew w w'∧w.heap.size + 2≤w'.heap.size:=by
 obtain ⟨_,xs,k1,k2,k3⟩:=hv;have HX : Hid (RowAt fvE w v xs):=k1.now;have HK : Hid (∀ (i : Nat) x f,xs[i]? = some x→fs[i]? = some f→x.size = f.size∧RowAt blE w (.slice x.a x.n x.c) f.bl):=show ∀ (i : Nat) x f,_ from fun i x f hx hf=>⟨(k3 i x f hx hf).1,(k3 i x f hx hf).2.now⟩
 have HL : Hid (xs.length = fs.length):=k2;have hbig:=k1.now.short;obtain ⟨a,c,rfl,_⟩:=k1.now.rows;clear k1 k2 k3;obtain ⟨n,HN⟩ : ∃ n,Hid (xs.length = n):=⟨_,rfl⟩;rw [HN.out] at hbig HX ⊢;obtain ⟨W0,hW0⟩ : ∃ W0,(w.alloc (.cells #[.slice a n c,.int .i64 cnt] 36)).alloc (.cells #[.slice none 0 0,.int .i64 0] 36) = W0:=⟨_,rfl⟩;have HG0 : Hid (Grew w W0):=show Grew w W0 by rw [←hW0]; exact (grew_alloc _ _).trans (grew_alloc _ _)
 have X0 : Hid (Box W0 w.heap.size [.slice a n c,.int .i64 cnt]):=show Box _ _ _ by rw [←hW0]; exact (Box.top w _ _ rfl).alloc _
 have Y0 : Hid (Box W0 (w.heap.size + 1) [.slice none 0 0,.int .i64 0]):=show Box _ _ _ by rw [←hW0]; exact Box.top _ _ _ (by simp)
 have HS0 : Hid (W0.heap.size = w.heap.size + 2):=show _ = _ by rw [←hW0]; simp
 have HW0 : Hid (_ = W0):=hW0;clear hW0
 go_enter Tryz.func53,Tryz.ntmps53
 go_wp2_with fail;rw [HW0.out];refine (cloneFile_any _ xs W0 (HX.out.grew HG0.out)).mono ?_;rintro e W1 ⟨v1,rfl,ow1,g1⟩;obtain ⟨xa,xc,rfl⟩:=ow1.form;rw [HS0.out] at ow1;rw [HN.out] at ow1 ⊢;have O1 : Hid (OwnRow fvE (w.heap.size + 2) W1 (.slice xa n xc) xs):=ow1;have G1 : Hid (Grew W0 W1):=g1;clear ow1 g1;go_wp2
 go_loopg [4,10] n (fun gg _ s10 wr=>∃ (kk : Nat) (ys : List FlV),kk≤n∧n - kk≤gg∧s10 = .int .i64 kk∧Hid (Grew W0 wr)∧Hid (OwnRow fvE (w.heap.size + 2) wr (.slice xa n xc) ys)∧Hid (Half (w.heap.size + 2) wr kk xs ys fs))
 case atStart=>exact ⟨0,xs,Nat.zero_le _,by omega,rfl,G1.out,O1.out,⟨rfl,fun i y f hi=>absurd hi (Nat.not_lt_zero _),fun i _=>rfl,fun i j x y hi=>absurd hi (Nat.not_lt_zero _)⟩⟩
 case round =>
  obtain ⟨kk,ys,hkk,hgg,rfl,BW,OW,HH⟩:=hrel;clear O1 G1
  by_cases hlt : kk < n
  ·have hltz : (kk : Int) < (n : Int):=by omega
   obtain ⟨q,HQ⟩ : ∃ q,Hid (xs[kk]? = some q):=⟨_,List.getElem?_eq_getElem (by rw [HN.out]; exact hlt)⟩
   obtain ⟨f,HF⟩ : ∃ f,Hid (fs[kk]? = some f):=⟨_,List.getElem?_eq_getElem (by rw [←HL.out,HN.out]; exact hlt)⟩
   have HY : Hid (ys[kk]? = some q):=show _ = _ by rw [HH.out.rest kk (Nat.le_refl _)]; exact HQ.out
   obtain ⟨g,xc',heq⟩:=OW.out.formS (by rw [HH.out.len,HN.out]; omega)
   rw [HH.out.len,HN.out] at heq;cases heq;obtain ⟨q1,q2⟩:=HK.out kk q f HQ.out HF.out;have Q1 : Hid (q.size = f.size):=q1;have hcl:=cloneInt_any _ f.bl wr (q2.grew (HG0.out.trans BW.out));obtain ⟨a0,c0,hsl,hrows⟩:=OW.out.at.rows;obtain ⟨ad,had,hce⟩:=hrows kk q HY.out;rw [HH.out.len,HN.out] at hsl;cases hsl;cases had;have d1 : wr.cell? ⟨g,kk * 2 + 1,none⟩ = some (.slice q.a q.n q.c):=by
    have:=hce wr (Grew.refl _) 1 _ rfl;rw [add_add',Addr.add_lit,Nat.zero_add] at this;exact this
   clear q1 q2 hrows hce;go_wp2_with fail;refine hcl.mono ?_;rintro e W2 ⟨v2,rfl,ow2,g2⟩;obtain ⟨a2,c2,rfl⟩:=ow2.form;have O2 : Hid (OwnRow blE wr.heap.size W2 (.slice a2 f.bl.length c2) f.bl):=ow2;have G2 : Hid (Grew wr W2):=g2;have OF2 : Hid (OwnRow fvE (w.heap.size + 2) W2 (.slice (some ⟨g,0,none⟩) n xc) ys):=OW.out.grew g2;have HB : Hid (w.heap.size + 2≤wr.heap.size):=show _≤_ by
    have:=Below.size BW.out;rw [HS0.out] at this;exact this
   clear ow2 g2 hcl d1
   generalize f.bl.length = nb at O2 ⊢
   go_wp2_with (refine wpList_store_part (E:=fvE) rfl (.tmp 22) (.tmp 20) 28 rfl (w.heap.size + 2) _ ys OF2.out g kk 1 rfl q ⟨q.size,a2,nb,c2⟩ HY.out [.slice a2 nb c2] ?s1 rfl ?s2 ?s3 ⟨g,kk * 2 + 1,none⟩ rfl rfl (.slice a2 nb c2) rfl rfl ?_)
   case s1=>kernel_rfl
   case s2=>exact Nat.le_refl 2
   case s3=>simp; rfl
   intro W3 ow3 gr3 _;have O3 : Hid (OwnRow fvE (w.heap.size + 2) W3 (.slice (some ⟨g,0,none⟩) n xc) (ys.set kk ⟨q.size,a2,nb,c2⟩)):=ow3;have H3 : Hid (Half (w.heap.size + 2) W3 (kk + 1) xs (ys.set kk ⟨q.size,a2,nb,c2⟩) fs):=HH.out.step G2.out gr3 HF.out HQ.out Q1.out O2.out HB.out OF2.out rfl;have G3 : Hid (Grew W0 W3):=show Grew _ _ from grew_grown (BW.out.trans G2.out) gr3 (by
    rw [HS0.out];exact (OF2.out.lt g rfl).1)
   clear ow3 gr3;go_wp2
   go_roundg (n - (kk + 1))
   case measure=>omega
   case rel=>exact ⟨kk + 1,_,by omega,by omega,by go_num,G3.out,O3.out,H3.out⟩
  ·have hltz : ¬ (kk : Int) < (n : Int):=by omega
   have : kk = n:=by omega
   subst this;have OA : Hid (OwnFiles (w.heap.size + 2) wr (.slice xa kk xc) fs):=show OwnFiles _ _ _ _ by
    have h1:=HH.out;rw [←HN.out] at h1;exact h1.all HL.out OW.out
   have x1:=(X0.out.grew BW.out).c 1 rfl;have Y1:=Y0.out.grew BW.out;have y0:=Y1.c 0 rfl;have y1:=Y1.c 1 rfl;have yf:=Y1.f;have HG : Hid (Grew w wr):=HG0.out.trans BW.out;clear Y1;go_wp2;refine bodyPost_ret (v:= .agg #[.slice xa kk xc,.int .i64 cnt]) (by simp [results,Tryz.results53,go_sem, *]) rfl ⟨_,rfl,(OA.out.setCell (by simp) _).setCell (by simp) _,?_,?_⟩
   ·exact Below.setCell (Below.setCell HG.out (p:=⟨w.heap.size + 1,0,none⟩) (by simp) _) (p:=⟨w.heap.size + 1,1,none⟩) (by simp) _
   ·have:=Below.size BW.out;rw [HS0.out] at this
    simp [World.setCell]
    exact this
def env (e : En) : List Value:=[.int .i64 e.kind,.int .i64 e.n,.bool e.wr]
theorem Tryz.infoEntry : (Tryz.prog.info? 67).map (fun i=>(i.zero,i.size,i.bytes)) = some (some (.agg #[.int .i64 0,.int .i64 0,.bool false]),3,24):=by kernel_rfl
def enE : Elt En where
 enc:=env
 k:=3
 ty:=67
 st:=61
 bytes:=24
 zv:= .agg #[.int .i64 0,.int .i64 0,.bool false]
 zero:=en0
 len:=fun _=>rfl
 one:=fun a u hu=>by
  simp only [env,List.mem_cons,List.not_mem_nil,or_false] at hu
  rcases hu with rfl | rfl | rfl <;> rfl
 und:=Tryz.underlying61
 info:=Tryz.infoEntry
 zok:=rfl
 few:=by decide
 pos:=by decide
def EnCells (W : World) (y : Addr) (e : En) : Prop:=W.cell? y = some (.int .i64 e.kind)∧W.cell? { block:=y.block,off:=y.off + 1 } = some (.int .i64 e.n)∧W.cell? { block:=y.block,off:=y.off + 2 } = some (.bool e.wr)
def EnRows (w : World) (a : Option Addr) (l : List En) : Prop:=∀ (j : Nat) e,l[j]? = some e→∃ ad,a = some ad∧∀ W,Grew w W→EnCells W (ad.add (j * 3)) e
theorem RowAt.ens {w : World} {v : Value} {l : List En} (h : RowAt enE w v l) : ∃ a c,v = .slice a l.length c∧EnRows w a l:=by
 obtain ⟨a,c,h1,h2⟩:=h.rows;refine ⟨a,c,h1,fun j x hj=>?_⟩
 obtain ⟨ad,h3,h4⟩:=h2 j x hj;exact ⟨ad,h3,fun W hW=>⟨h4 W hW 0 _ rfl,h4 W hW 1 _ rfl,h4 W hW 2 _ rfl⟩⟩
structure TabS (B0 B1 : Nat) (w : World) (vs : List Value) (t : List (List En)) : Prop where
 len : vs.length = 8
 tlen : t.length = 8
 row : ∀ (i : Nat) v h,vs[i]? = some v→t[i]? = some h→RowS enE B0 B1 w v h
def TabAt (w : World) (vs : List Value) (t : List (List En)) : Prop:=TabS 0 0 w vs t
theorem TabS.out {B0 B1 : Nat} {w w' : World} {vs : List Value} {t : List (List En)} (h : TabS B0 B1 w vs t) (k : Out B0 B1 w w') : TabS B0 B1 w' vs t:=⟨h.len,h.tlen,fun i v x hv hx=>(h.row i v x hv hx).out k⟩
theorem TabS.grew {B0 B1 : Nat} {w w' : World} {vs : List Value} {t : List (List En)} (h : TabS B0 B1 w vs t) (k : Grew w w') : TabS B0 B1 w' vs t:=h.out (Out.grew k)
theorem TabS.less {A0 A1 B0 B1 : Nat} {w : World} {vs : List Value} {t : List (List En)} (h : TabS B0 B1 w vs t) (h0 : B0≤A0) (h1 : A1≤B1) : TabS A0 A1 w vs t:=⟨h.len,h.tlen,fun i v x hv hx=>(h.row i v x hv hx).less h0 h1⟩
theorem TabS.now {B0 B1 : Nat} {w : World} {vs : List Value} {t : List (List En)} (h : TabS B0 B1 w vs t) : TabAt w vs t:=⟨h.len,h.tlen,fun i v x hv hx=>(h.row i v x hv hx).now.s0⟩
theorem TabAt.grew {w w' : World} {vs : List Value} {t : List (List En)} (h : TabAt w vs t) (k : Grew w w') : TabAt w' vs t:=TabS.grew h k
def nil8 : List Value:=List.replicate 8 (.slice none 0 0)
theorem TabS.nil (B0 B1 : Nat) (w : World) : TabS B0 B1 w nil8 none8:=⟨rfl,rfl,fun i v h hv hh=>by
 have h1:=List.mem_of_getElem? hv;have h2:=List.mem_of_getElem? hh;rw [nil8,List.mem_replicate] at h1;rw [none8,List.mem_replicate] at h2;rw [h1.2,h2.2];exact fun w' _=>RowAt.nil enE w'⟩
theorem TabAt.half {w : World} {vs : List Value} {t : List (List En)} (h : TabAt w vs t) {i : Nat} (hi : i < 8) : ∃ a c x,t[i]? = some x∧vs[i]? = some (.slice a x.length c)∧RowAt enE w (.slice a x.length c) x:=by
 obtain ⟨v,hv⟩ : ∃ v,vs[i]? = some v:=⟨_,List.getElem?_eq_getElem (by rw [h.len]; exact hi)⟩
 obtain ⟨x,hx⟩ : ∃ x,t[i]? = some x:=⟨_,List.getElem?_eq_getElem (by rw [h.tlen]; exact hi)⟩
 have hr:=(h.row i v x hv hx).now;obtain ⟨a,c,rfl,_⟩:=hr.rows;exact ⟨a,c,x,hx,hv,hr⟩
theorem eight {α : Type} : ∀ {l : List α},l.length = 8→∃ a b c d e f g h,l = [a,b,c,d,e,f,g,h]
 | [a,b,c,d,e,f,g,h],_=>⟨a,b,c,d,e,f,g,h,rfl⟩
theorem belowT_any (m n : Int) (w : World) :
  Calls Tryz.prog 110 #[.int .i64 m,.int .i64 n] w fun e w'=>e = .returned (.bool (bel m n))∧w' = w:=by
 have H : Hid (bel m n = (decide (0≤m) && decide (m < n))):=rfl
 by_cases h0 : 0≤m
 ·by_cases h1 : m < n
  ·go_enter Tryz.func110,Tryz.ntmps110
   go_wp2;go_ret;exact ⟨by rw [H.out]; simp [*],rfl⟩
  ·go_enter Tryz.func110,Tryz.ntmps110
   go_wp2;go_ret;exact ⟨by rw [H.out]; simp [*],rfl⟩
 ·go_enter Tryz.func110,Tryz.ntmps110
  go_wp2;go_ret;exact ⟨by rw [H.out]; simp; omega,rfl⟩
theorem belowT_yes {m n : Int} (h0 : 0≤m) (h1 : m < n) (w : World) : Calls Tryz.prog 110 #[.int .i64 m,.int .i64 n] w fun e w'=>e = .returned (.bool true)∧w' = w:=by
 have:=belowT_any m n w;rw [bel_iff.2 ⟨h0,h1⟩] at this;exact this
theorem belowT_no {m n : Int} (h : ¬ (0≤m∧m < n)) (w : World) : Calls Tryz.prog 110 #[.int .i64 m,.int .i64 n] w fun e w'=>e = .returned (.bool false)∧w' = w:=by
 have:=belowT_any m n w;rw [bel_no h] at this;exact this
theorem isSome_any (k n : Int) (b : Bool) (w : World) :
  Calls Tryz.prog 156 #[.agg #[.int .i64 k,.int .i64 n,.bool b]] w fun e w'=>e = .returned (.bool (enS ⟨k,n,b⟩))∧Grew w w':=by
 have H : Hid (enS ⟨k,n,b⟩ = (k != 0)):=rfl
 go_enter Tryz.func156,Tryz.ntmps156
 go_wp2;go_ret;exact ⟨by rw [H.out]; rfl,grew_alloc _ _⟩
theorem enW_kind {e : En} (h : ¬ (0≤e.kind∧e.kind≤2)) : enW e = 1:=by unfold enW; rw [if_neg h]
theorem enW_range {e : En} (h : 0≤e.kind∧e.kind≤2) (h2 : ¬ (0≤e.n∧e.n≤59∧(e.kind = 1→e.n≤39))) : enW e = 3:=by unfold enW; rw [if_pos h,if_neg h2]
theorem enW_fit {e : En} (h : 0≤e.kind∧e.kind≤2) (h2 : 0≤e.n∧e.n≤59∧(e.kind = 1→e.n≤39)) (h3 : (e.kind = 0∧(e.n≠0∨e.wr = true))∨(e.kind = 2∧e.wr = true)) : enW e = 7:=by unfold enW; rw [if_pos h,if_pos h2,if_pos h3]
def enEqB (a b : En) : Bool:=(a.kind == b.kind) && ((a.n == b.n) && (a.wr == b.wr))
theorem en_eq (k n k' n' : Int) (b b' : Bool) (w : World) : (Op.equalIn 10000 67 (.agg #[.int .i64 k,.int .i64 n,.bool b]) (.agg #[.int .i64 k',.int .i64 n',.bool b'])).run Tryz.prog w = .ok (enEqB ⟨k,n,b⟩ ⟨k',n',b'⟩) w:=by
 have hf : (Tryz.prog.fieldsOf 67).toList.map (fun f => (f.name, f.type, f.offset)) = [("Kind", 3, 0), ("N", 3, 1), ("Write", 4, 2)] := by kernel_rfl
 rw [run_equalIn_struct w 9999 67 _ _ (by kernel_rfl) (by kernel_rfl)]
 obtain ⟨f0,f1,f2,hfs⟩ : ∃ f0 f1 f2,(Tryz.prog.fieldsOf 67).toList = [f0,f1,f2]:=by
  match hq : (Tryz.prog.fieldsOf 67).toList with
  | [f0,f1,f2]=>exact ⟨f0,f1,f2,rfl⟩
  | []=>rw [hq] at hf; simp at hf
  | [_]=>rw [hq] at hf; simp at hf
  | [_,_]=>rw [hq] at hf; simp at hf
  | _ :: _ :: _ :: _ :: _=>rw [hq] at hf; simp at hf
 rw [hfs] at hf ⊢
 simp at hf
 obtain ⟨⟨h1,h2,h3⟩,⟨h4,h5,h6⟩,h7,h8,h9⟩:=hf;have pI : ∀ (zs : Array Value) (o : Nat) v,zs[o]? = some (.int .i64 v)→(part 3 zs o).run Tryz.prog w = .ok (.int .i64 v) w:=fun zs o v hz=>run_part_plain w (by simp [Program.plainKey,Tryz.underlying3]) hz
 have pB : ∀ (zs : Array Value) (o : Nat) v,zs[o]? = some (.bool v)→(part 4 zs o).run Tryz.prog w = .ok (.bool v) w:=fun zs o v hz=>run_part_plain w (by simp [Program.plainKey,Tryz.underlying4]) hz
 simp only [Op.eqFields,h1,h2,h3,h4,h5,h6,h7,h8,h9]
 simp [pI,pB,run_equalIn_int w _ _ _ _ _ _ Tryz.underlying3,run_equalIn_bool' w _ _ _ _ Tryz.underlying4]
 unfold enEqB
 by_cases e1 : k = k' <;> by_cases e2 : n = n' <;> cases b <;> cases b' <;> simp [e1,e2]
theorem wrongEntry_any (k n : Int) (b : Bool) (w : World) :
  Calls Tryz.prog 167 #[.agg #[.int .i64 k,.int .i64 n,.bool b]] w fun e w'=>e = .returned (.int .i64 (enW ⟨k,n,b⟩))∧Grew w w':=by
 obtain ⟨Z,HZ⟩ : ∃ Z,Hid (enW ⟨k,n,b⟩ = Z):=⟨_,rfl⟩;rw [HZ.out]
 by_cases h1 : 0≤k∧k≤2
 ·have hb1:=fun W=>belowT_yes (m:=k) (n:=3) h1.1 (by omega) W
  by_cases h2 : 0≤n∧n≤59
  ·have hb2:=fun W=>belowT_yes (m:=n) (n:=60) h2.1 (by omega) W
   by_cases h3 : k = 1∧39 < n
   ·have HF : Hid (Z = 3):=show _ = _ by rw [←HZ.out]; exact enW_range h1 (fun h=>by have:=h.2.2 h3.1; simp at this; omega)
    obtain ⟨rfl,h3⟩:=h3;have h4 : 40≤n:=by omega
    clear h1 h2 h3
    go_enter Tryz.func167,Tryz.ntmps167
    go_wp2_with fail;refine (hb1 _).mono ?_;rintro e w' ⟨rfl,rfl⟩;go_wp2_with fail;refine (hb2 _).mono ?_;rintro e w' ⟨rfl,rfl⟩;go_wp2;go_ret;exact ⟨by rw [HF.out]; rfl,grew_alloc _ _⟩
   ·have hr : 0≤n∧n≤59∧(k = 1→n≤39):=⟨h2.1,h2.2,fun h=>by omega⟩
    obtain rfl | rfl | rfl : k = 0∨k = 1∨k = 2:=by omega
    ·have hq:=fun W=>en_eq 0 n 0 0 b false W
     by_cases hn : n = 0∧b = false
     ·have HF : Hid (Z = 0):=show _ = _ by rw [←HZ.out]; exact enW_of h1 hr (fun h=>by simp [hn.1,hn.2] at h)
      obtain ⟨rfl,rfl⟩:=hn;rw [show enEqB ⟨0,0,false⟩ ⟨0,0,false⟩ = true from rfl] at hq
      clear h1 h2 h3 hr
      go_enter Tryz.func167,Tryz.ntmps167
      go_wp2_with fail;refine (hb1 _).mono ?_;rintro e w' ⟨rfl,rfl⟩;go_wp2_with fail;refine (hb2 _).mono ?_;rintro e w' ⟨rfl,rfl⟩;go_wp2;go_ret;exact ⟨by rw [HF.out]; rfl,grew_alloc _ _⟩
     ·have HF : Hid (Z = 7):=show _ = _ by
       rw [←HZ.out];refine enW_fit h1 hr (.inl ⟨rfl,?_⟩)
       cases b with
       | false=>exact .inl (fun h=>hn ⟨h,rfl⟩)
       | true=>exact .inr rfl
      have he : enEqB ⟨0,n,b⟩ ⟨0,0,false⟩ = false:=by
       unfold enEqB
       cases b with
       | false=>simp; exact fun h=>hn ⟨h,rfl⟩
       | true=>simp
      rw [he] at hq;clear h1 h2 h3 hr hn he
      go_enter Tryz.func167,Tryz.ntmps167
      go_wp2_with fail;refine (hb1 _).mono ?_;rintro e w' ⟨rfl,rfl⟩;go_wp2_with fail;refine (hb2 _).mono ?_;rintro e w' ⟨rfl,rfl⟩;go_wp2;go_ret;exact ⟨by rw [HF.out]; rfl,grew_alloc _ _⟩
    ·have HF : Hid (Z = 0):=show _ = _ by rw [←HZ.out]; exact enW_of h1 hr (fun h=>by simp at h)
     have h4 : ¬ 40≤n:=by omega
     clear h1 h2 h3 hr
     go_enter Tryz.func167,Tryz.ntmps167
     go_wp2_with fail;refine (hb1 _).mono ?_;rintro e w' ⟨rfl,rfl⟩;go_wp2_with fail;refine (hb2 _).mono ?_;rintro e w' ⟨rfl,rfl⟩;go_wp2;go_ret;exact ⟨by rw [HF.out]; rfl,grew_alloc _ _⟩
    ·cases b with
     | false =>
      have HF : Hid (Z = 0):=show _ = _ by rw [←HZ.out]; exact enW_of h1 hr (fun h=>by simp at h)
      clear h1 h2 h3 hr
      go_enter Tryz.func167,Tryz.ntmps167
      go_wp2_with fail;refine (hb1 _).mono ?_;rintro e w' ⟨rfl,rfl⟩;go_wp2_with fail;refine (hb2 _).mono ?_;rintro e w' ⟨rfl,rfl⟩;go_wp2;go_ret;exact ⟨by rw [HF.out]; rfl,grew_alloc _ _⟩
     | true =>
      have HF : Hid (Z = 7):=show _ = _ by rw [←HZ.out]; exact enW_fit h1 hr (.inr ⟨rfl,rfl⟩)
      clear h1 h2 h3 hr
      go_enter Tryz.func167,Tryz.ntmps167
      go_wp2_with fail;refine (hb1 _).mono ?_;rintro e w' ⟨rfl,rfl⟩;go_wp2_with fail;refine (hb2 _).mono ?_;rintro e w' ⟨rfl,rfl⟩;go_wp2;go_ret;exact ⟨by rw [HF.out]; rfl,grew_alloc _ _⟩
  ·have HF : Hid (Z = 3):=show _ = _ by rw [←HZ.out]; exact enW_range h1 (fun h=>h2 ⟨h.1,h.2.1⟩)
   have hb2:=fun W=>belowT_no (m:=n) (n:=60) (by omega) W
   clear h1 h2
   go_enter Tryz.func167,Tryz.ntmps167
   go_wp2_with fail;refine (hb1 _).mono ?_;rintro e w' ⟨rfl,rfl⟩;go_wp2_with fail;refine (hb2 _).mono ?_;rintro e w' ⟨rfl,rfl⟩;go_wp2;go_ret;exact ⟨by rw [HF.out]; rfl,grew_alloc _ _⟩
 ·have HF : Hid (Z = 1):=show _ = _ by rw [←HZ.out]; exact enW_kind h1
  have hb1:=fun W=>belowT_no (m:=k) (n:=3) (by omega) W
  clear h1
  go_enter Tryz.func167,Tryz.ntmps167
  go_wp2_with fail;refine (hb1 _).mono ?_;rintro e w' ⟨rfl,rfl⟩;go_wp2;go_ret;exact ⟨by rw [HF.out]; rfl,grew_alloc _ _⟩
theorem indexSome_any (v : Value) (fs : List En) (w : World) (hv : RowAt enE w v fs) :
  Calls Tryz.prog 181 #[v,.func (.func 156) #[] #[]] w fun e w'=>(∃ z : Int,e = .returned (.int .i64 z)∧decide (0≤z) = anyS fs)∧Grew w w':=by
 have hbig:=hv.short;obtain ⟨a,c,rfl,hrow⟩:=hv.ens;have HR : Hid (EnRows w a fs):=hrow;clear hrow hv;obtain ⟨n,HN⟩ : ∃ n,Hid (fs.length = n):=⟨_,rfl⟩;rw [HN.out] at hbig ⊢;obtain ⟨ANS,HANS⟩ : ∃ ANS,Hid (anyS fs = ANS):=⟨_,rfl⟩;rw [HANS.out];have eg:=enters_of Tryz.func156 (by kernel_rfl) rfl
 go_enter Tryz.func181,Tryz.ntmps181
 go_wp2
 go_loopg [8] n (fun gg s8 wr=>∃ kk : Nat,kk≤n∧n - kk≤gg∧s8 = .int .i64 kk∧Hid (Grew w wr)∧Hid (∀ (j : Nat) q,j < kk→fs[j]? = some q→enS q = false))
 case atStart=>exact ⟨0,Nat.zero_le _,by omega,rfl,Grew.refl w,fun j q hj=>absurd hj (Nat.not_lt_zero _)⟩
 case round =>
  obtain ⟨kk,hkk,hg,rfl,BW,A⟩:=hrel
  by_cases hlt : kk < n
  ·have hltz : (kk : Int) < (n : Int):=by omega
   obtain ⟨q,HQ⟩ : ∃ q,Hid (fs[kk]? = some q):=⟨_,List.getElem?_eq_getElem (by rw [HN.out]; exact hlt)⟩
   obtain ⟨ad,rfl,hl⟩:=HR.out kk q HQ.out;obtain ⟨d0,d1,d2⟩:=hl wr BW.out;clear hl;have hcall:=isSome_any q.kind q.n q.wr wr
   cases hq : enS q with
   | true =>
    have HF : Hid (decide (0≤(kk : Int)) = ANS):=show _ = _ by
     rw [←HANS.out,show anyS fs = true from anyAt HQ.out hq]
     simp
    rw [show enS ⟨q.kind,q.n,q.wr⟩ = true from hq] at hcall
    clear hq;go_wp2_with fail;refine hcall.mono ?_;rintro e W2 ⟨rfl,k1⟩;have G2 : Hid (Grew w W2):=BW.out.trans k1;clear k1 hcall d0 d1 d2;go_wp2;go_ret;exact ⟨⟨_,rfl,HF.out⟩,G2.out⟩
   | false =>
    have HA : Hid (∀ (j : Nat) q,j < kk + 1→fs[j]? = some q→enS q = false):=show ∀ (j : Nat) q,_ from fun j q' hj hq'=>by
     by_cases e : j = kk
     ·subst e;rw [HQ.out] at hq';cases hq';exact hq
     ·exact A.out j q' (by omega) hq'
    rw [show enS ⟨q.kind,q.n,q.wr⟩ = false from hq] at hcall
    clear hq;go_wp2_with fail;refine hcall.mono ?_;rintro e W2 ⟨rfl,k1⟩;have G2 : Hid (Grew w W2):=BW.out.trans k1;clear k1 hcall d0 d1 d2;go_wp2
    go_roundg (n - (kk + 1))
    case measure=>omega
    case rel=>exact ⟨kk + 1,by omega,by omega,by go_num,G2.out,HA.out⟩
  ·have hltz : ¬ (kk : Int) < (n : Int):=by omega
   have : kk = n:=by omega
   subst this;have HF : Hid (decide (0≤(-1 : Int)) = ANS):=show _ = _ by
    rw [←HANS.out]
    symm
    exact anyNo (fun j x hx=>A.out j x (by rw [←HN.out]; exact (List.getElem?_eq_some_iff.1 hx).1) hx)
   go_wp2;go_ret;exact ⟨⟨_,rfl,HF.out⟩,BW.out⟩
theorem containsSome_any (v : Value) (fs : List En) (w : World) (hv : RowAt enE w v fs) :
  Calls Tryz.prog 168 #[v,.func (.func 156) #[] #[]] w fun e w'=>e = .returned (.bool (anyS fs))∧Grew w w':=by
 have hcall:=indexSome_any v fs w hv;obtain ⟨a,c,rfl,_⟩:=hv.rows;clear hv
 generalize fs.length = n at *
 generalize anyS fs = A at *
 go_enter Tryz.func168,Tryz.ntmps168
 go_wp2_with fail;refine hcall.mono ?_;rintro e W2 ⟨⟨z,rfl,hz⟩,k1⟩;have HZ : Hid (decide (0≤z) = A):=hz;have G2 : Hid (Grew w W2):=k1;clear hz k1 hcall;go_wp2;go_ret;exact ⟨by rw [←HZ.out]; rfl,G2.out⟩
theorem cloneEntry_any (v : Value) (fs : List En) (w : World) (hv : RowAt enE w v fs) :
  Calls Tryz.prog 138 #[v] w fun e w'=>∃ v',e = .returned v'∧OwnRow enE w.heap.size w' v' fs∧Grew w w':=by
 have HV : Hid (RowAt enE w v fs):=hv;obtain ⟨⟨a,c,rfl,hnone,hcells⟩,hbytes⟩:=hv;have q22 : ∀ (w : World) (a : Option Addr) (n c n' c' : Nat),(binOp .eql 61 (.slice a n c) (.slice none n' c')).run Tryz.prog w = .ok (.bool a.isNone) w:=fun w a n c n' c'=>Lib.run_eql_slice_nil w _ _ a n c n' c' Tryz.underlying61
 cases a with
 | none =>
  have hps:=hnone rfl;subst hps;clear hcells hnone hbytes HV
  go_enter Tryz.func138,Tryz.ntmps138
  go_wp2;go_ret;exact ⟨_,rfl,OwnRow.nil _ _ _,Grew.refl w⟩
 | some x =>
  have HB : Hid (fs.length * 24≤140737488355328):=hbytes;clear hcells hnone hbytes
  go_enter Tryz.func138,Tryz.ntmps138
  go_wp2_with (at_builtin; refine wpList_append_row (E:=enE) rfl (.tmp 5) (.tmp 6) rfl w.heap.size _ [] rfl (OwnRow.made enE w) _ fs rfl (HV.out.grew (grew_alloc _ _)) ?qb (by simp) ?_)
  case qb=>rw [List.length_nil,Nat.zero_add]; exact HB.out
  intro v' w1 hown hgrow;go_wp2;go_ret;exact ⟨v',rfl,by simpa using hown,((Below.refl _ w).alloc (Nat.le_refl _) _).grown hgrow (by simp) (by intro k hk; simp [Value.ownBlock] at hk; omega)⟩
theorem Box.range {w : World} {b : Nat} {cs : List Value} (h : Box w b cs) : w.rangeAt b 0 cs:=fun j v hj=>by
 rw [Nat.zero_add];exact h.c j hj
theorem Box.there {w : World} {b : Nat} {cs : List Value} (h : Box w b cs) : w.there b 0 cs.length:=fun j hj=>by
 rw [Nat.zero_add];exact ⟨by rw [h.c j (List.getElem?_eq_getElem hj)]; rfl,h.f j⟩
theorem Box.part {w : World} {b : Nat} : ∀ {ds cs : List Value} {o : Nat},Box w b cs→o + ds.length≤cs.length→Box (w.setCells b o ds) b (splice cs o ds):=by
 have key : ∀ (ds cs : List Value) (o : Nat) (w : World),Box w b cs→o + ds.length≤cs.length→Box (w.setCells b o ds) b (splice cs o ds):=fun ds=>by
  induction ds with
  | nil =>
   intro cs o w h hl;have : splice cs o [] = cs:=by simp [splice]
   rw [this];exact h
  | cons d ds ih =>
   intro cs o w h hl;simp only [List.length_cons] at hl;have h1:=h.set o d;have h2:=ih (cs.set o d) (o + 1) (w.setCell ⟨b,o,none⟩ d) h1 (by simp; omega)
   have h3 : splice (cs.set o d) (o + 1) ds = splice cs o (d :: ds):=by
    unfold splice;rw [List.take_set,List.drop_set,if_pos (by omega),List.take_add_one,List.getElem?_eq_getElem (by omega)]
    simp only [List.length_cons,Option.toList_some];rw [List.set_append_right _ _ (by simp; omega),show o + 1 + ds.length = o + (ds.length + 1) by omega]
    simp [List.length_take,Nat.min_eq_left (show o≤cs.length by omega)]
   rw [h3] at h2;exact h2
 exact fun {ds cs o} h hl=>key ds cs o w h hl
theorem setCells_grown (b : Nat) : ∀ (ds : List Value) (o : Nat) (w : World),w.grownBy (w.setCells b o ds) (some b)∧(w.setCells b o ds).heap.size = w.heap.size
 | [],_,w=>⟨World.grownBy.rfl' _ _,rfl⟩
 | d :: ds,o,w=>by
  obtain ⟨h1,h2⟩:=setCells_grown b ds (o + 1) (w.setCell ⟨b,o,none⟩ d);have h3 : w.grownBy (w.setCell ⟨b,o,none⟩ d) (some b):=⟨rfl,rfl,rfl,by simp [World.setCell],fun k _ hk=>Below.heap_setCell _ _ _ _ (fun e=>hk (by rw [e]))⟩
  exact ⟨grown_trans h3 h1,h2.trans (by simp [World.setCell])⟩
theorem wp_loadAll {ops : Array Oper} {rest : List Oper} {o : Oper} {a : Act} {w : World} {Q : Exit→Act→World→Prop} (hgd : o.guard = none) (ty : TypeId) (x : Operand) (ho : o.op = .load ty x) (b : Nat) (hx : a.eval x = .pointer (some ⟨b,0,none⟩)) {vs : List Value} (hb : Box w b vs) {d : TypeDesc} (hu : Tryz.prog.underlying ty = some d) (hd : d.isRow = true) (hi : (Tryz.prog.info? ty).map (·.size) = some vs.length)
  (h : wpList Tryz.prog ops Q rest (a.put o.dst (.agg vs.toArray)) w) : wpList Tryz.prog ops Q (o :: rest) a w :=
 wpList_load_mid hgd ty x ho b 0 hx vs _ hb.range hu hd hi h
theorem splice_all {cs vs : List Value} (h : vs.length = cs.length) : splice cs 0 vs = vs:=by
 unfold splice;rw [List.take_zero,List.nil_append,Nat.zero_add,List.drop_of_length_le (by omega),List.append_nil]
theorem wp_storeAll {ops : Array Oper} {rest : List Oper} {o : Oper} {a : Act} {w : World} {Q : Exit→Act→World→Prop} (hgd : o.guard = none) (ty : TypeId) (p x : Operand) (ho : o.op = .store ty p x) (b : Nat) (hp : a.eval p = .pointer (some ⟨b,0,none⟩)) (vs : List Value) (hx : a.eval x = .agg vs.toArray)
  {cs : List Value} (hb : Box w b cs) (hl : vs.length = cs.length) (hi : (Tryz.prog.info? ty).map (·.size) = some cs.length) (h1 : ∀ v∈vs,v.oneCell' = true)
  (h : ∀ w',Box w' b vs→w.grownBy w' (some b)→w'.heap.size = w.heap.size→wpList Tryz.prog ops Q rest (a.put o.dst undef) w') : wpList Tryz.prog ops Q (o :: rest) a w:=by
 refine wpList_store_mid hgd ty p x ho b 0 vs.toArray hp hx ?_ ?_ (all_oneCell_toArray h1) ?_
 ·simpa [hl] using hb.there
 ·simpa [hl] using hi
 ·have:=hb.part (ds:=vs) (o:=0) (by omega)
  rw [splice_all hl] at this;exact h _ this (setCells_grown b vs 0 w).1 (setCells_grown b vs 0 w).2
theorem wp_storeMid {ops : Array Oper} {rest : List Oper} {op : Oper} {a : Act} {w : World} {Q : Exit→Act→World→Prop} (hgd : op.guard = none) (ty : TypeId) (p x : Operand) (ho : op.op = .store ty p x) (b o : Nat) (hp : a.eval p = .pointer (some ⟨b,o,none⟩)) (vs : List Value) (hx : a.eval x = .agg vs.toArray)
  {cs : List Value} (hb : Box w b cs) (hl : o + vs.length≤cs.length) (hi : (Tryz.prog.info? ty).map (·.size) = some vs.length) (h1 : ∀ v∈vs,v.oneCell' = true)
  (h : ∀ w',Box w' b (splice cs o vs)→w.grownBy w' (some b)→w'.heap.size = w.heap.size→wpList Tryz.prog ops Q rest (a.put op.dst undef) w') : wpList Tryz.prog ops Q (op :: rest) a w:=by
 refine wpList_store_mid hgd ty p x ho b o vs.toArray hp hx ?_ ?_ (all_oneCell_toArray h1) ?_
 ·intro j hj;have:=hb.there (o + j) (by simp at hj; omega)
  rw [Nat.zero_add] at this;exact this
 ·simpa using hi
 ·exact h _ (hb.part hl) (setCells_grown b vs o w).1 (setCells_grown b vs o w).2
theorem Box.mid {w : World} {b : Nat} {cs vs : List Value} (h : Box w b cs) (o : Nat) (hv : ∀ (j : Nat) v,vs[j]? = some v→cs[o + j]? = some v) : w.rangeAt b o vs:=fun j v hj=>h.c _ (hv j v hj)
theorem ret_cell {fn : Func} {p : Tmp} {ty : TypeId} (h : fn.results = #[.cell p ty]) (tmps : Array Value) {w : World} {b : Nat} (hp : tmps.getD p undef = .pointer (some ⟨b,0,none⟩)) {vs : List Value} (hb : Box w b vs) {d : TypeDesc} (hu : Tryz.prog.underlying ty = some d) (hd : d.isRow = true) (hi : (Tryz.prog.info? ty).map (·.size) = some vs.length) :
  (results fn tmps).run Tryz.prog w = .ok (.agg vs.toArray) w:=by
 have hp' : tmps[p]?.getD undef = .pointer (some ⟨b,0,none⟩):=by simpa using hp
 have hld:=run_loadVar_mid (P:=Tryz.prog) w b 0 ty vs d hb.range hu hd hi
 simp [results,h,hp',asAddr,hld]
theorem wpOp_does {P : Program} {ops : Array Oper} {Q : Exit→Act→World→Prop} {i : Nat} {o : Oper} {a : Act} {w : World} {next : Act→World→Prop} (d : Option Tmp) (K : Value→World→Prop) (hi : ops[i]? = some o) (hd : o.dst = d) (hw : Region.wanted o (yielded ops a.tmps) = true) (h : Does P o a w K) (hn : ∀ v w',K v w'→next (a.put d v) w') : wpOp P ops Q i next a w:=by
 subst hd;unfold wpOp;simp only [hi,hw,if_true];exact .inl (h.wp hn)
theorem Does.storeAll {o : Oper} {a : Act} {w : World} {K : Value→World→Prop} (ty : TypeId) (p x : Operand) (ho : o.op = .store ty p x) (b : Nat) (hp : a.eval p = .pointer (some ⟨b,0,none⟩)) (vs : List Value) (hx : a.eval x = .agg vs.toArray)
  {cs : List Value} (hb : Box w b cs) (hl : vs.length = cs.length) (hi : (Tryz.prog.info? ty).map (·.size) = some cs.length) (h1 : ∀ v∈vs,v.oneCell' = true)
  (h : ∀ w',Box w' b vs→w.grownBy w' (some b)→w'.heap.size = w.heap.size→K undef w') : Does Tryz.prog o a w K:=by
 unfold Does;have hr : (execOp a.eval o).run Tryz.prog w = .ok .skip (w.setCells b 0 vs):=by
  have:=run_storeAt_mid (P:=Tryz.prog) w b 0 ty vs.toArray (by simpa [hl] using hb.there) (by simpa [hl] using hi) (all_oneCell_toArray h1)
  simp only [execOp,ho,hp,hx,Sem.run_bind,this,Result.andThen_ok,Sem.run_pure]
 rw [hr];have hp:=hb.part (ds:=vs) (o:=0) (by omega)
 rw [splice_all hl] at hp;exact h _ hp (setCells_grown b vs 0 w).1 (setCells_grown b vs 0 w).2
theorem Tryz.sizeTable : (Tryz.prog.info? 63).map (·.size) = some 8:=by kernel_rfl
theorem wp_loadTab {ops : Array Oper} {rest : List Oper} {o : Oper} {a : Act} {w : World} {Q : Exit→Act→World→Prop} (hgd : o.guard = none) (x : Operand) (ho : o.op = .load 63 x) (b : Nat) (hx : a.eval x = .pointer (some ⟨b,0,none⟩)) {vs : List Value} (hb : Box w b vs) (hl : vs.length = 8)
  (h : wpList Tryz.prog ops Q rest (a.put o.dst (.agg vs.toArray)) w) : wpList Tryz.prog ops Q (o :: rest) a w :=
 wpList_load_mid hgd 63 x ho b 0 hx vs _ hb.range Tryz.underlying63 rfl (by rw [hl]; exact Tryz.sizeTable) h
theorem run_half {w : World} {vs : List Value} (i : Nat) (hi : i < 8) {v : Value} (hv : vs[i]? = some v) : (Instr.index 63 (.agg vs.toArray) (.int .i64 (i : Int))).run Tryz.prog w = .ok v w:=by
 have ha : (isAgg 61).run Tryz.prog w = .ok false w:=by
  unfold isAgg;rw [Sem.run_bind,run_underlying Tryz.underlying61 w];rfl
 have hs : (Go.sizeOf 61).run Tryz.prog w = .ok 1 w:=by
  obtain ⟨i0,h1,h2⟩ : ∃ i0,Tryz.prog.info? 61 = some i0∧i0.size = 1:=by
   have : (Tryz.prog.info? 61).map (·.size) = some 1:=by kernel_rfl
   cases hq : Tryz.prog.info? 61 with
   | none=>rw [hq] at this; cases this
   | some i0=>rw [hq] at this; exact ⟨i0,rfl,by simpa using this⟩
  simp [Go.sizeOf,typeInfo,h1,h2]
 have hlt : (0 : Int)≤(i : Int)∧(i : Int) < ((8 : Nat) : Int):=by omega
 simp only [Instr.index,asIntOf,Sem.run_bind,Sem.run_pure,Result.andThen_ok,run_underlying Tryz.underlying63];rw [if_pos hlt];simp only [Sem.run_bind,hs,Result.andThen_ok,part,ha,Nat.mul_one,Int.toNat_natCast]
 simp [hv]
theorem wp_half {ops : Array Oper} {rest : List Oper} {o : Oper} {a : Act} {w : World} {Q : Exit→Act→World→Prop} (hgd : o.guard = none) (x ix : Operand) (ho : o.op = .index 63 x ix) (vs : List Value) (hx : a.eval x = .agg vs.toArray) (i : Nat) (hix : a.eval ix = .int .i64 (i : Int)) (hi : i < 8) {v : Value} (hv : vs[i]? = some v)
  (h : wpList Tryz.prog ops Q rest (a.put o.dst v) w) : wpList Tryz.prog ops Q (o :: rest) a w:=by
 refine wpList_plain hgd fun K hK=>?_
 unfold Oper.wp execOp;simp only [ho,hx,hix,Sem.run_bind,Sem.run_pure,Result.andThen_ok,run_half i hi hv];exact hK _ _ h
theorem ret_cell_tmp {fn : Func} {p u : Tmp} {ty : TypeId} (h : fn.results = #[.cell p ty,.tmp u]) (tmps : Array Value) {w : World} {b : Nat} (hp : tmps.getD p undef = .pointer (some ⟨b,0,none⟩)) {vs : List Value} (hb : Box w b vs) {d : TypeDesc} (hu : Tryz.prog.underlying ty = some d) (hd : d.isRow = true) (hi : (Tryz.prog.info? ty).map (·.size) = some vs.length) :
  (results fn tmps).run Tryz.prog w = .ok (.tuple #[.agg vs.toArray,tmps.getD u undef]) w:=by
 have hld:=run_loadVar_mid (P:=Tryz.prog) w b 0 ty vs d hb.range hu hd hi;rw [results_cell_tmp h,hp]
 simp [asAddr,Result.andThen,hld]
theorem TabS.one {B0 B1 : Nat} {w : World} {vs : List Value} {t : List (List En)} (h : TabS B0 B1 w vs t) : ∀ v∈vs,v.oneCell' = true:=fun v hv=>by
 obtain ⟨i,hi⟩:=List.getElem?_of_mem hv;have hlt : i < 8:=by rw [←h.len]; exact (List.getElem?_eq_some_iff.1 hi).1
 obtain ⟨a,c,x,_,h2,_⟩:=h.now.half hlt;rw [h2] at hi;cases hi;rfl
structure OwnTab (base : Nat) (w : World) (vs : List Value) (t : List (List En)) : Prop where
 len : vs.length = 8
 tlen : t.length = 8
 row : ∀ (i : Nat) v h,vs[i]? = some v→t[i]? = some h→OwnRow enE base w v h
 two : ∀ (i j : Nat) u v,i≠j→vs[i]? = some u→vs[j]? = some v→∀ g,u.ownBlock = some g→v.ownBlock≠some g
theorem OwnTab.new {base : Nat} {w : World} {vs : List Value} {t : List (List En)} (h : OwnTab base w vs t) : TabS 0 base w vs t:=⟨h.len,h.tlen,fun i v x hv hx=>(h.row i v x hv hx).new.stays⟩
theorem OwnTab.grew {base : Nat} {w w' : World} {vs : List Value} {t : List (List En)} (h : OwnTab base w vs t) (k : Grew w w') : OwnTab base w' vs t:=⟨h.len,h.tlen,fun i v x hv hx=>(h.row i v x hv hx).grew k,h.two⟩
theorem OwnTab.base {base base' : Nat} {w : World} {vs : List Value} {t : List (List En)} (h : OwnTab base w vs t) (hb : base'≤base) : OwnTab base' w vs t:=⟨h.len,h.tlen,fun i v x hv hx=>(h.row i v x hv hx).base hb,h.two⟩
structure HalfT (base : Nat) (w : World) (kk : Nat) (vs us : List Value) (t : List (List En)) : Prop where
 len : us.length = 8
 own : ∀ (i : Nat) v h,i < kk→us[i]? = some v→t[i]? = some h→OwnRow enE base w v h
 two : ∀ (i j : Nat) u v,i < kk→j < kk→i≠j→us[i]? = some u→us[j]? = some v→∀ g,u.ownBlock = some g→v.ownBlock≠some g
 one : ∀ v∈us,v.oneCell' = true
theorem HalfT.step {base : Nat} {w w1 : World} {kk : Nat} {vs us : List Value} {t : List (List En)} (h : HalfT base w kk vs us t) (ht : t.length = 8) (hg : Grew w w1) {x : List En} {v : Value} (hk : kk < 8) (hx : t[kk]? = some x) (hown : OwnRow enE w.heap.size w1 v x) (hb : base≤w.heap.size) {p : Addr} (hp : p.block < base) (u : Value) : HalfT base (w1.setCell p u) (kk + 1) vs (us.set kk v) t:=by
 have hlt : ∀ (j : Nat) u,j < kk→us[j]? = some u→∀ g,u.ownBlock = some g→g < w.heap.size:=fun j u hj hu g hg=>by
  obtain ⟨y,hy⟩ : ∃ y,t[j]? = some y:=⟨_,List.getElem?_eq_getElem (by rw [ht,←h.len]; exact (List.getElem?_eq_some_iff.1 hu).1)⟩
  exact ((h.own j u y hj hu hy).lt g hg).2
 refine ⟨by simp [h.len],fun i y f hi hy hf=>?_,fun i j p' q hi hj hij hp' hq g h1 h2=>?_,fun y hy=>?_⟩
 ·by_cases e : i = kk
  ·subst e;rw [List.getElem?_set_self (by rw [h.len]; exact hk)] at hy
   cases hy;rw [hx] at hf;cases hf;exact (hown.base hb).setCell hp u
  ·rw [List.getElem?_set_ne (fun h=>e h.symm)] at hy
   exact ((h.own i y f (by omega) hy hf).grew hg).setCell hp u
 ·by_cases e1 : i = kk
  ·subst e1;rw [List.getElem?_set_self (by rw [h.len]; exact hk)] at hp'
   cases hp';rw [List.getElem?_set_ne hij] at hq;have:=hlt j q (by omega) hq g h2
   have:=(hown.lt g h1).1;omega
  ·rw [List.getElem?_set_ne (fun h=>e1 h.symm)] at hp'
   by_cases e2 : j = kk
   ·subst e2;rw [List.getElem?_set_self (by rw [h.len]; exact hk)] at hq
    cases hq;have:=hlt i p' (by omega) hp' g h1
    have:=(hown.lt g h2).1;omega
   ·rw [List.getElem?_set_ne (fun h=>e2 h.symm)] at hq
    exact h.two i j p' q (by omega) (by omega) hij hp' hq g h1 h2
 ·rcases List.mem_or_eq_of_mem_set hy with h1 | h1
  ·exact h.one y h1
  ·subst h1;obtain ⟨a,c,rfl⟩:=hown.form;rfl
theorem ownTb_any (vs : List Value) (t : List (List En)) (w : World) (hv : TabAt w vs t) :
  Calls Tryz.prog 102 #[.agg vs.toArray] w fun e w'=>∃ us,e = .returned (.agg us.toArray)∧OwnTab (w.heap.size + 2) w' us t∧Grew w w'∧w.heap.size + 2≤w'.heap.size:=by
 have HV : Hid (TabAt w vs t):=hv;have HL : Hid (vs.length = 8):=hv.len;clear hv;obtain ⟨W0,hW0⟩ : ∃ W0,(w.alloc (.cells vs.toArray 63)).alloc (.cells #[.slice none 0 0,.slice none 0 0,.slice none 0 0,.slice none 0 0,.slice none 0 0,.slice none 0 0,.slice none 0 0,.slice none 0 0] 63) = W0:=⟨_,rfl⟩;have HG0 : Hid (Grew w W0):=show Grew w W0 by rw [←hW0]; exact (grew_alloc _ _).trans (grew_alloc _ _)
 have X0 : Hid (Box W0 w.heap.size vs):=show Box _ _ _ by rw [←hW0]; exact (Box.top w _ _ rfl).alloc _
 have Y0 : Hid (Box W0 (w.heap.size + 1) nil8):=show Box _ _ _ by rw [←hW0]; exact Box.top _ nil8 _ (by simp)
 have HS0 : Hid (W0.heap.size = w.heap.size + 2):=show _ = _ by rw [←hW0]; simp
 have HW0 : Hid (_ = W0):=hW0;clear hW0
 go_enter Tryz.func102,Tryz.ntmps102
 go_upto_region 1 with fail;rw [HW0.out]
 go_wp2_with (refine wp_loadTab rfl (.tmp 1) rfl w.heap.size rfl X0.out HL.out ?_)
 go_loopg [6] 8 (fun gg s6 wr=>∃ (kk : Nat) (us : List Value),kk≤8∧8 - kk≤gg∧s6 = .int .i64 kk∧Hid (Grew w wr)∧Hid (w.heap.size + 2≤wr.heap.size)∧Hid (Box wr w.heap.size us)∧Hid (Box wr (w.heap.size + 1) nil8)∧Hid (HalfT (w.heap.size + 2) wr kk vs us t))
 case atStart=>exact ⟨0,vs,Nat.zero_le _,by omega,rfl,HG0.out,by rw [HS0.out]; exact Nat.le_refl _,X0.out,Y0.out,⟨HL.out,fun i v h hi=>absurd hi (Nat.not_lt_zero _),fun i j u v hi=>absurd hi (Nat.not_lt_zero _),HV.out.one⟩⟩
 case round =>
  obtain ⟨kk,us,hkk,hg,rfl,BW,SW,XW,YW,HH⟩:=hrel
  by_cases hlt : kk < 8
  ·have hltz : (kk : Int) < 8:=by omega
   obtain ⟨xa,xc,q,hq,hvk,hr⟩:=HV.out.half hlt;have HQ : Hid (t[kk]? = some q):=hq;have HVK : Hid (vs[kk]? = some (.slice xa q.length xc)):=hvk;have hcall:=cloneEntry_any (.slice xa q.length xc) q wr (hr.grew BW.out);clear hq hvk hr
   generalize q.length = nq at hcall HVK
   go_wp2_with (refine wp_half rfl (.tmp 5) (.tmp 6) rfl vs rfl kk rfl hlt HVK.out ?_)
   refine hcall.mono ?_;rintro e W2 ⟨v2,rfl,ow2,g2⟩;obtain ⟨a2,c2,rfl⟩:=ow2.form;have O2 : Hid (OwnRow enE wr.heap.size W2 (.slice a2 q.length c2) q):=ow2;have G2 : Hid (Grew wr W2):=g2;have X2 : Hid (Box W2 w.heap.size us):=XW.out.grew g2;clear ow2 g2 hcall
   generalize q.length = nb at O2 ⊢
   obtain ⟨uk,huk⟩ : ∃ uk,us[kk]? = some uk:=⟨_,List.getElem?_eq_getElem (by rw [HH.out.len]; exact hlt)⟩
   have x0:=X2.out.c kk huk;have xf:=X2.out.f;clear huk;go_wp2;have HH3 : Hid (HalfT (w.heap.size + 2) (W2.setCell ⟨w.heap.size,kk,none⟩ (.slice a2 nb c2)) (kk + 1) vs (us.set kk (.slice a2 nb c2)) t):=HH.out.step HV.out.tlen G2.out hlt HQ.out O2.out SW.out (by simp) _
   have X3 : Hid (Box (W2.setCell ⟨w.heap.size,kk,none⟩ (.slice a2 nb c2)) w.heap.size (us.set kk (.slice a2 nb c2))):=X2.out.set kk _;have Y3 : Hid (Box (W2.setCell ⟨w.heap.size,kk,none⟩ (.slice a2 nb c2)) (w.heap.size + 1) nil8):=(YW.out.grew G2.out).other (by simp) _
   have G3 : Hid (Grew w (W2.setCell ⟨w.heap.size,kk,none⟩ (.slice a2 nb c2))):=show Grew _ _ from Below.setCell (BW.out.trans G2.out) (p:=⟨w.heap.size,kk,none⟩) (by simp) _
   have S3 : Hid (w.heap.size + 2≤(W2.setCell ⟨w.heap.size,kk,none⟩ (.slice a2 nb c2)).heap.size):=show _≤_ by
    have:=Below.size G2.out;have:=SW.out
    simp [World.setCell]
    omega
   go_roundg (8 - (kk + 1))
   case measure=>omega
   case rel=>exact ⟨kk + 1,_,by omega,by omega,by go_num,G3.out,S3.out,X3.out,Y3.out,HH3.out⟩
  ·have hltz : ¬ (kk : Int) < 8:=by omega
   have : kk = 8:=by omega
   subst this;have OA : Hid (OwnTab (w.heap.size + 2) wr us t):=show OwnTab _ _ _ _ from ⟨HH.out.len,HV.out.tlen,fun i v h hv' hh=>HH.out.own i v h (by rw [←HH.out.len]; exact (List.getElem?_eq_some_iff.1 hv').1) hv' hh,fun i j u v hij hu hv'=>HH.out.two i j u v (by rw [←HH.out.len]; exact (List.getElem?_eq_some_iff.1 hu).1) (by rw [←HH.out.len]; exact (List.getElem?_eq_some_iff.1 hv').1) hij hu hv'⟩
   go_wp2_with (first | refine wp_loadTab rfl (.tmp 1) rfl w.heap.size rfl XW.out HH.out.len ?_ | refine wp_storeAll rfl 63 (.tmp 2) (.tmp 15) rfl (w.heap.size + 1) rfl us rfl YW.out HH.out.len Tryz.sizeTable HH.out.one ?_)
   intro W3 b3 g3 s3;have OB : Hid (OwnTab (w.heap.size + 2) W3 us t):=show OwnTab _ _ _ _ from ⟨OA.out.len,OA.out.tlen,fun i v h hv' hh=>(OA.out.row i v h hv' hh).grown g3 (fun g hg e=>by
    cases e;have:=((OA.out.row i v h hv' hh).lt _ hg).1
    omega),OA.out.two⟩
   have G3 : Hid (Grew w W3):=show Grew _ _ from grew_grown BW.out g3 (by simp)
   have S3 : Hid (w.heap.size + 2≤W3.heap.size):=show _≤_ by rw [s3]; exact SW.out
   have B3 : Hid (Box W3 (w.heap.size + 1) us):=b3;clear b3 g3 s3;go_wp2;refine bodyPost_ret (ret_cell rfl _ rfl B3.out Tryz.underlying63 rfl (by rw [HH.out.len]; exact Tryz.sizeTable)) rfl ⟨us,rfl,OB.out,G3.out,S3.out⟩
def arv (a : Ar) : List Value:=[.int .i64 a.fr,.int .i64 a.tz,.bool a.rd,.bool a.wr,.bool a.sh,.int .i64 a.file,.int .i64 a.base]
def arA (a : Ar) : Value:= .agg #[.int .i64 a.fr,.int .i64 a.tz,.bool a.rd,.bool a.wr,.bool a.sh,.int .i64 a.file,.int .i64 a.base]
theorem Tryz.infoArea : (Tryz.prog.info? 69).map (fun i=>(i.zero,i.size,i.bytes)) = some (some (.agg #[.int .i64 0,.int .i64 0,.bool false,.bool false,.bool false,.int .i64 0,.int .i64 0]),7,40):=by kernel_rfl
theorem Tryz.sizeArea : (Tryz.prog.info? 69).map (·.size) = some 7:=by kernel_rfl
theorem Tryz.sizeFault : (Tryz.prog.info? 164).map (·.size) = some 2:=by kernel_rfl
theorem Tryz.sizeOne : (Tryz.prog.info? 82).map (·.size) = some 6:=by kernel_rfl
theorem Tryz.sizeOnes : (Tryz.prog.info? 83).map (·.size) = some 384:=by kernel_rfl
def arE : Elt Ar where
 enc:=arv
 k:=7
 ty:=69
 st:=60
 bytes:=40
 zv:= .agg #[.int .i64 0,.int .i64 0,.bool false,.bool false,.bool false,.int .i64 0,.int .i64 0]
 zero:=ar0
 len:=fun _=>rfl
 one:=fun a u hu=>by
  simp only [arv,List.mem_cons,List.not_mem_nil,or_false] at hu
  rcases hu with rfl | rfl | rfl | rfl | rfl | rfl | rfl <;> rfl
 und:=Tryz.underlying60
 info:=Tryz.infoArea
 zok:=rfl
 few:=by decide
 pos:=by decide
def ArCells (W : World) (y : Addr) (e : Ar) : Prop:=W.cell? y = some (.int .i64 e.fr)∧W.cell? { block:=y.block,off:=y.off + 1 } = some (.int .i64 e.tz)∧W.cell? { block:=y.block,off:=y.off + 2 } = some (.bool e.rd)∧W.cell? { block:=y.block,off:=y.off + 3 } = some (.bool e.wr)∧W.cell? { block:=y.block,off:=y.off + 4 } = some (.bool e.sh)∧W.cell? { block:=y.block,off:=y.off + 5 } = some (.int .i64 e.file)∧W.cell? { block:=y.block,off:=y.off + 6 } = some (.int .i64 e.base)
def ArRows (w : World) (a : Option Addr) (l : List Ar) : Prop:=∀ (j : Nat) e,l[j]? = some e→∃ ad,a = some ad∧∀ W,Grew w W→ArCells W (ad.add (j * 7)) e
theorem RowAt.ars {w : World} {v : Value} {l : List Ar} (h : RowAt arE w v l) : ∃ a c,v = .slice a l.length c∧ArRows w a l:=by
 obtain ⟨a,c,h1,h2⟩:=h.rows;refine ⟨a,c,h1,fun j x hj=>?_⟩
 obtain ⟨ad,h3,h4⟩:=h2 j x hj;exact ⟨ad,h3,fun W hW=>⟨h4 W hW 0 _ rfl,h4 W hW 1 _ rfl,h4 W hW 2 _ rfl,h4 W hW 3 _ rfl,h4 W hW 4 _ rfl,h4 W hW 5 _ rfl,h4 W hW 6 _ rfl⟩⟩
def onv (x : On) : List Value:=[.bool x.is,.bool x.rd,.bool x.wr,.bool x.sh,.int .i64 x.file,.int .i64 x.page]
def tab {α : Type} (f : Nat→α) : List α:=(List.range 64).map f
theorem tab_len {α : Type} (f : Nat→α) : (tab f).length = 64:=by simp [tab]
theorem tab_at {α : Type} {f : Nat→α} {k : Nat} (h : k < 64) : (tab f)[k]? = some (f k):=by
 unfold tab;rw [List.getElem?_map,List.getElem?_range h];rfl
theorem tab_ext {α : Type} {f g : Nat→α} (h : ∀ k,k < 64→f k = g k) : tab f = tab g:=by
 unfold tab;exact List.map_congr_left fun k hk=>h k (List.mem_range.1 hk)
def upd {α : Type} (f : Nat→α) (k : Nat) (x : α) : Nat→α:=fun j=>if j = k then x else f j
theorem tab_set {α : Type} (f : Nat→α) (k : Nat) (x : α) : (tab f).set k x = tab (upd f k x):=by
 apply List.ext_getElem?
 intro j
 by_cases hj : j < 64
 ·rw [tab_at hj];unfold upd
  by_cases e : j = k
  ·subst e;rw [List.getElem?_set_self (by rw [tab_len]; exact hj),if_pos rfl]
  ·rw [List.getElem?_set_ne (fun h=>e h.symm),tab_at hj,if_neg e]
 ·rw [List.getElem?_eq_none (by simp [tab]; omega),List.getElem?_eq_none (by simp [tab]; omega)]
def cellsO (l : List On) : List Value:=l.flatMap onv
theorem cellsO_len (l : List On) : (cellsO l).length = l.length * 6:=flatMap_len l (fun _ _=>rfl)
theorem onv_one (x : On) : ∀ u∈onv x,u.oneCell' = true:=fun u hu=>by
 simp only [onv,List.mem_cons,List.not_mem_nil,or_false] at hu
 rcases hu with rfl | rfl | rfl | rfl | rfl | rfl <;> rfl
theorem cellsO_one (l : List On) : ∀ v∈cellsO l,v.oneCell' = true:=flatMap_one onv_one l
def frmE : Elt Fr where
 enc:=frv
 k:=13
 ty:=59
 st:=25
 bytes:=40
 zv:=frz
 zero:=fr0
 len:=frv_len
 one:=frv_one
 und:=Tryz.underlying25
 info:=Tryz.infoFrame
 zok:=frz_ok
 few:=by decide
 pos:=by decide
def cav (c : Ca) : List Value:=[.int .i64 c.file,.int .i64 c.idx,.int .i64 c.fr]
theorem Tryz.infoCached : (Tryz.prog.info? 87).map (fun i=>(i.zero,i.size,i.bytes)) = some (some (.agg #[.int .i64 0,.int .i64 0,.int .i64 0]),3,24):=by kernel_rfl
def cchE : Elt Ca where
 enc:=cav
 k:=3
 ty:=87
 st:=37
 bytes:=24
 zv:= .agg #[.int .i64 0,.int .i64 0,.int .i64 0]
 zero:=⟨0,0,0⟩
 len:=fun _=>rfl
 one:=fun a u hu=>by
  simp only [cav,List.mem_cons,List.not_mem_nil,or_false] at hu
  rcases hu with rfl | rfl | rfl <;> rfl
 und:=Tryz.underlying37
 info:=Tryz.infoCached
 zok:=rfl
 few:=by decide
 pos:=by decide
def CaCells (W : World) (y : Addr) (c : Ca) : Prop:=W.cell? y = some (.int .i64 c.file)∧W.cell? { block:=y.block,off:=y.off + 1 } = some (.int .i64 c.idx)∧W.cell? { block:=y.block,off:=y.off + 2 } = some (.int .i64 c.fr)
def CaRows (w : World) (a : Option Addr) (l : List Ca) : Prop:=∀ (j : Nat) c,l[j]? = some c→∃ ad,a = some ad∧∀ W,Grew w W→CaCells W (ad.add (j * 3)) c
theorem RowAt.cas {w : World} {v : Value} {l : List Ca} (h : RowAt cchE w v l) : ∃ a c,v = .slice a l.length c∧CaRows w a l:=by
 obtain ⟨a,c,h1,h2⟩:=h.rows;refine ⟨a,c,h1,fun j x hj=>?_⟩
 obtain ⟨ad,h3,h4⟩:=h2 j x hj;exact ⟨ad,h3,fun W hW=>⟨h4 W hW 0 _ rfl,h4 W hW 1 _ rfl,h4 W hW 2 _ rfl⟩⟩
structure Sli where
 a : Option Addr
 n : Nat
 c : Nat
def Sli.v (s : Sli) : Value:= .slice s.a s.n s.c
def sli0 : Sli:=⟨none,0,0⟩
theorem RowAt.n {α : Type} {E : Elt α} {w : World} {a : Option Addr} {n c : Nat} {l : List α} (h : RowAt E w (.slice a n c) l) : n = l.length:=by
 obtain ⟨_,_,h1,_⟩:=h.rows;cases h1;rfl
theorem OwnRow.n {α : Type} {E : Elt α} {b : Nat} {w : World} {a : Option Addr} {n c : Nat} {l : List α} (h : OwnRow E b w (.slice a n c) l) : n = l.length:=h.at.n
structure SpV where
 live : Bool
 ar : Sli
 (t0 t1 t2 t3 t4 t5 t6 t7 : Sli)
def SpV.tab (x : SpV) : List Value:=[x.t0.v,x.t1.v,x.t2.v,x.t3.v,x.t4.v,x.t5.v,x.t6.v,x.t7.v]
def spv (x : SpV) : List Value:=[.bool x.live,x.ar.v,x.t0.v,x.t1.v,x.t2.v,x.t3.v,x.t4.v,x.t5.v,x.t6.v,x.t7.v]
def spz : Value:= .agg #[.bool false,.slice none 0 0,.slice none 0 0,.slice none 0 0,.slice none 0 0,.slice none 0 0,.slice none 0 0,.slice none 0 0,.slice none 0 0,.slice none 0 0]
theorem Tryz.infoSpace : (Tryz.prog.info? 65).map (fun i=>(i.zero,i.size,i.bytes)) = some (some spz,10,224):=by kernel_rfl
def spcE : Elt SpV where
 enc:=spv
 k:=10
 ty:=65
 st:=38
 bytes:=224
 zv:=spz
 zero:=⟨false,sli0,sli0,sli0,sli0,sli0,sli0,sli0,sli0,sli0⟩
 len:=fun _=>rfl
 one:=fun a u hu=>by
  simp only [spv,List.mem_cons,List.not_mem_nil,or_false] at hu
  rcases hu with rfl | rfl | rfl | rfl | rfl | rfl | rfl | rfl | rfl | rfl <;> rfl
 und:=Tryz.underlying38
 info:=Tryz.infoSpace
 zok:=rfl
 few:=by decide
 pos:=by decide
structure SpaceAt (w : World) (x : SpV) (s : Sp) : Prop where
 live : x.live = s.live
 ar : RowAt arE w (.slice x.ar.a x.ar.n x.ar.c) s.ars
 cap : x.ar.n≤x.ar.c
 tb : TabAt w x.tab s.tb
theorem SpaceAt.grew {w w' : World} {x : SpV} {s : Sp} (h : SpaceAt w x s) (k : Grew w w') : SpaceAt w' x s:=⟨h.live,h.ar.grew k,h.cap,h.tb.grew k⟩
def SpacesAt (w : World) (v : Value) (ss : List Sp) : Prop:=∃ xs : List SpV,RowAt spcE w v xs∧xs.length = ss.length∧∀ (i : Nat) x s,xs[i]? = some x→ss[i]? = some s→SpaceAt w x s
theorem SpacesAt.grew {w w' : World} {v : Value} {ss : List Sp} (h : SpacesAt w v ss) (k : Grew w w') : SpacesAt w' v ss:=by
 obtain ⟨xs,h1,h2,h3⟩:=h;exact ⟨xs,h1.grew k,h2,fun i x s hx hs=>(h3 i x s hx hs).grew k⟩
structure MaV where
 (f s sb sq db dq fl ca sp : Sli)
structure MachAt (w : World) (V : MaV) (m : Ma) : Prop where
 fs : RowAt frmE w (.slice V.f.a V.f.n V.f.c) m.fs
 sl : RowAt slE w (.slice V.s.a V.s.n V.s.c) m.sl
 sb : PagesAt w (.slice V.sb.a V.sb.n V.sb.c) m.sb
 sq : PutsAt w (.slice V.sq.a V.sq.n V.sq.c) m.sq
 db : PagesAt w (.slice V.db.a V.db.n V.db.c) m.db
 dq : PutsAt w (.slice V.dq.a V.dq.n V.dq.c) m.dq
 fl : FilesAt w (.slice V.fl.a V.fl.n V.fl.c) m.fl
 ca : RowAt cchE w (.slice V.ca.a V.ca.n V.ca.c) m.ca
 sp : SpacesAt w (.slice V.sp.a V.sp.n V.sp.c) m.sp
theorem MachAt.grew {w w' : World} {V : MaV} {m : Ma} (h : MachAt w V m) (k : Grew w w') : MachAt w' V m:=⟨h.fs.grew k,h.sl.grew k,h.sb.grew k,h.sq.grew k,h.db.grew k,h.dq.grew k,FilesS.grew h.fl k,h.ca.grew k,h.sp.grew k⟩
theorem PagesAt.n {w : World} {a : Option Addr} {n c : Nat} {l : List (List Int)} (h : PagesAt w (.slice a n c) l) : n = l.length:=by
 obtain ⟨⟨_,_,h1,_⟩,_⟩:=h;cases h1;rfl
theorem PutsAt.n {w : World} {a : Option Addr} {n c : Nat} {l : List (Int × List Int)} (h : PutsAt w (.slice a n c) l) : n = l.length:=by
 obtain ⟨⟨_,_,h1,_⟩,_⟩:=h;cases h1;rfl
theorem FilesAt.n {w : World} {a : Option Addr} {n c : Nat} {l : List Fl} (h : FilesAt w (.slice a n c) l) : n = l.length:=by
 obtain ⟨_,xs,k1,k2,_⟩:=h;rw [k1.now.n,k2]
theorem SpacesAt.n {w : World} {a : Option Addr} {n c : Nat} {l : List Sp} (h : SpacesAt w (.slice a n c) l) : n = l.length:=by
 obtain ⟨xs,k1,k2,_⟩:=h;rw [k1.n,k2]
theorem MachAt.ns {w : World} {V : MaV} {m : Ma} (h : MachAt w V m) : V.f.n = m.fs.length∧V.s.n = m.sl.length∧V.sb.n = m.sb.length∧V.sq.n = m.sq.length∧V.db.n = m.db.length∧V.dq.n = m.dq.length∧V.fl.n = m.fl.length∧V.ca.n = m.ca.length∧V.sp.n = m.sp.length :=
 ⟨h.fs.n,h.sl.n,h.sb.n,h.sq.n,h.db.n,h.dq.n,FilesAt.n h.fl,h.ca.n,h.sp.n⟩
theorem RowAt.rowsAt {α : Type} {E : Elt α} {w : World} {a : Option Addr} {n c : Nat} {l : List α} (h : RowAt E w (.slice a n c) l) : RowsAt E w a l:=by
 obtain ⟨_,_,h1,h2⟩:=h.rows;cases h1;exact h2
theorem MachAt.frs {w : World} {V : MaV} {m : Ma} (h : MachAt w V m) : FrRows w V.f.a m.fs:=fun j x hj=>by
 obtain ⟨ad,h3,h4⟩:=h.fs.rowsAt j x hj;exact ⟨ad,h3,fun W hW=>(h4 W hW).fr⟩
theorem MachAt.cas {w : World} {V : MaV} {m : Ma} (h : MachAt w V m) : CaRows w V.ca.a m.ca:=by
 obtain ⟨_,_,h1,h2⟩:=h.ca.cas;simp only [Value.slice.injEq] at h1;rw [h1.1];exact h2
theorem MachAt.sls {w : World} {V : MaV} {m : Ma} (h : MachAt w V m) : SlRows w V.s.a m.sl:=by
 obtain ⟨_,_,h1,h2⟩:=h.sl.sls;simp only [Value.slice.injEq] at h1;rw [h1.1];exact h2
theorem MachAt.pgs {w : World} {V : MaV} {m : Ma} (h : MachAt w V m) : PageRows w V.db.a m.db:=by
 obtain ⟨_,_,h1,h2⟩:=h.db.rows;simp only [Value.slice.injEq] at h1;rw [h1.1];exact h2
theorem MachAt.puts {w : World} {V : MaV} {m : Ma} (h : MachAt w V m) : PutRows w V.dq.a m.dq:=by
 obtain ⟨_,_,h1,h2⟩:=h.dq.rows;simp only [Value.slice.injEq] at h1;rw [h1.1];exact h2
theorem cloneCa_any (v : Value) (fs : List Ca) (w : World) (hv : RowAt cchE w v fs) :
  Calls Tryz.prog 54 #[v] w fun e w'=>∃ v',e = .returned v'∧OwnRow cchE w.heap.size w' v' fs∧Grew w w':=by
 have HV : Hid (RowAt cchE w v fs):=hv;obtain ⟨⟨a,c,rfl,hnone,hcells⟩,hbytes⟩:=hv;have q22 : ∀ (w : World) (a : Option Addr) (n c n' c' : Nat),(binOp .eql 37 (.slice a n c) (.slice none n' c')).run Tryz.prog w = .ok (.bool a.isNone) w:=fun w a n c n' c'=>Lib.run_eql_slice_nil w _ _ a n c n' c' Tryz.underlying37
 cases a with
 | none =>
  have hps:=hnone rfl;subst hps;clear hcells hnone hbytes HV
  go_enter Tryz.func54,Tryz.ntmps54
  go_wp2;go_ret;exact ⟨_,rfl,OwnRow.nil _ _ _,Grew.refl w⟩
 | some x =>
  have HB : Hid (fs.length * 24≤140737488355328):=hbytes;clear hcells hnone hbytes
  go_enter Tryz.func54,Tryz.ntmps54
  go_wp2_with (at_builtin; refine wpList_append_row (E:=cchE) rfl (.tmp 5) (.tmp 6) rfl w.heap.size _ [] rfl (OwnRow.made cchE w) _ fs rfl (HV.out.grew (grew_alloc _ _)) ?qb (by simp) ?_)
  case qb=>rw [List.length_nil,Nat.zero_add]; exact HB.out
  intro v' w1 hown hgrow;go_wp2;go_ret;exact ⟨v',rfl,by simpa using hown,((Below.refl _ w).alloc (Nat.le_refl _) _).grown hgrow (by simp) (by intro k hk; simp [Value.ownBlock] at hk; omega)⟩
theorem cloneSp_any (v : Value) (fs : List SpV) (w : World) (hv : RowAt spcE w v fs) :
  Calls Tryz.prog 100 #[v] w fun e w'=>∃ v',e = .returned v'∧OwnRow spcE w.heap.size w' v' fs∧Grew w w':=by
 have HV : Hid (RowAt spcE w v fs):=hv;obtain ⟨⟨a,c,rfl,hnone,hcells⟩,hbytes⟩:=hv;have q22 : ∀ (w : World) (a : Option Addr) (n c n' c' : Nat),(binOp .eql 38 (.slice a n c) (.slice none n' c')).run Tryz.prog w = .ok (.bool a.isNone) w:=fun w a n c n' c'=>Lib.run_eql_slice_nil w _ _ a n c n' c' Tryz.underlying38
 cases a with
 | none =>
  have hps:=hnone rfl;subst hps;clear hcells hnone hbytes HV
  go_enter Tryz.func100,Tryz.ntmps100
  go_wp2;go_ret;exact ⟨_,rfl,OwnRow.nil _ _ _,Grew.refl w⟩
 | some x =>
  have HB : Hid (fs.length * 224≤140737488355328):=hbytes;clear hcells hnone hbytes
  go_enter Tryz.func100,Tryz.ntmps100
  go_wp2_with (at_builtin; refine wpList_append_row (E:=spcE) rfl (.tmp 5) (.tmp 6) rfl w.heap.size _ [] rfl (OwnRow.made spcE w) _ fs rfl (HV.out.grew (grew_alloc _ _)) ?qb (by simp) ?_)
  case qb=>rw [List.length_nil,Nat.zero_add]; exact HB.out
  intro v' w1 hown hgrow;go_wp2;go_ret;exact ⟨v',rfl,by simpa using hown,((Below.refl _ w).alloc (Nat.le_refl _) _).grown hgrow (by simp) (by intro k hk; simp [Value.ownBlock] at hk; omega)⟩
theorem cloneAr_any (v : Value) (fs : List Ar) (w : World) (hv : RowAt arE w v fs) :
  Calls Tryz.prog 101 #[v] w fun e w'=>∃ v',e = .returned v'∧OwnRow arE w.heap.size w' v' fs∧Grew w w':=by
 have HV : Hid (RowAt arE w v fs):=hv;obtain ⟨⟨a,c,rfl,hnone,hcells⟩,hbytes⟩:=hv;have q22 : ∀ (w : World) (a : Option Addr) (n c n' c' : Nat),(binOp .eql 60 (.slice a n c) (.slice none n' c')).run Tryz.prog w = .ok (.bool a.isNone) w:=fun w a n c n' c'=>Lib.run_eql_slice_nil w _ _ a n c n' c' Tryz.underlying60
 cases a with
 | none =>
  have hps:=hnone rfl;subst hps;clear hcells hnone hbytes HV
  go_enter Tryz.func101,Tryz.ntmps101
  go_wp2;go_ret;exact ⟨_,rfl,OwnRow.nil _ _ _,Grew.refl w⟩
 | some x =>
  have HB : Hid (fs.length * 40≤140737488355328):=hbytes;clear hcells hnone hbytes
  go_enter Tryz.func101,Tryz.ntmps101
  go_wp2_with (at_builtin; refine wpList_append_row (E:=arE) rfl (.tmp 5) (.tmp 6) rfl w.heap.size _ [] rfl (OwnRow.made arE w) _ fs rfl (HV.out.grew (grew_alloc _ _)) ?qb (by simp) ?_)
  case qb=>rw [List.length_nil,Nat.zero_add]; exact HB.out
  intro v' w1 hown hgrow;go_wp2;go_ret;exact ⟨v',rfl,by simpa using hown,((Below.refl _ w).alloc (Nat.le_refl _) _).grown hgrow (by simp) (by intro k hk; simp [Value.ownBlock] at hk; omega)⟩
end
section
def FrShape (f : Fr) : Prop:=0≤f.r∧(0≤f.x∧f.x < 12)∧(f.f = -1∨(0≤f.f∧f.f < 5))∧(f.r = 0→f = frF)∧(f.f = -1→f.x = 0)
theorem frW_shape {f : Fr} (h : FrShape f) (hr : f.r≤1000) : frW f = 0:=by
 obtain ⟨h1,h2,h3,h4,h5⟩:=h;unfold frW;have e1 : inB f.r 1001 = true:=by simp [inB]; omega
 have e2 : inB f.x 12 = true:=by simp [inB]; omega
 rw [e1,e2,if_neg (by decide)]
 have e3 : (!(f.f == -1) && !inB f.f 5) = false:=by
  rcases h3 with h | h
  ·simp [h]
  ·have : inB f.f 5 = true:=by simp [inB]; omega
   simp [this]
 rw [e3,if_neg (by decide)]
 have e4 : (f.r == 0 && !frEqB f frF) = false:=by
  by_cases h0 : f.r = 0
  ·rw [(frEqB_iff f frF).2 (h4 h0)]; simp
  ·simp [h0]
 have e5 : (f.f == -1 && !(f.x == 0)) = false:=by
  by_cases h0 : f.f = -1
  ·simp [h5 h0]
  ·simp [h0]
 rw [e4,e5];rfl
theorem frsW_zero : ∀ {l : List Fr},frsW l = 0↔∀ f∈l,frW f = 0
 | []=>by simp [frsW]
 | f :: l=>by
  unfold frsW
  by_cases h : frW f = 0
  ·rw [if_pos h,frsW_zero]
   simp [h]
  ·rw [if_neg h]
   simp [h]
def EntOk (m : Ma) (x : On) (e : En) : Prop:=enW e = 0∧e.kind≠0∧entE m x e = 0
structure BInv (m : Ma) (T : List (Nat→En)) : Prop where
 fs40 : m.fs.length≤40
 fok : ∀ f∈m.fs,FrShape f
 sl60 : m.sl.length≤60
 sbl : m.sb.length = m.sl.length
 sq : wrongL m.sb.length m.sq = 0
 dok : wrongL m.db.length m.dq = 0
 st : stW m.fl m.cnt = 0
 cnt : m.cnt = (m.db.length : Int)
 blk : ∀ b : Nat,b < m.db.length→usedB m.fl (b : Int) = false→m.db[b]? = some zero8
 que : ∀ q∈m.dq,usedB m.fl q.1 = true
 spl : m.sp.length≤4
 spok : ∀ s∈m.sp,(wrL s.ars).1 = 0∧(s.live = false→s.ars = [])
 tl : T.length = m.sp.length
 ca : caGo m none m.ca = 0
 ent : ∀ (p : Nat) s f,m.sp[p]? = some s→T[p]? = some f→∀ n : Nat,n < 64→f n = en0∨EntOk m (onAt s.ars n) (f n)
 cf : ∀ (k : Nat) f,m.fs[k]? = some f→f.r = ((holdN T 1 k + cachedN m.ca k : Nat) : Int)∧(0≤f.f→cachedN m.ca k≠0)
 cs : ∀ (k : Nat) z,m.sl[k]? = some z→z = (holdN T 2 k : Int)
theorem caGo_zero {m : Ma} : ∀ {l : List Ca} {p : Option Ca},caGo m p l = 0↔(∀ c∈l,caE m none c = 0)∧(∀ q c,p = some q→c∈l→keyC q < keyC c)∧l.Pairwise (fun a b=>keyC a < keyC b)
 | [],p=>by simp [caGo]
 | c :: l,p=>by
  unfold caGo;have hc : caE m p c = 0↔caE m none c = 0∧∀ q,p = some q→keyC q < keyC c:=by
   unfold caE
   by_cases h1 : c.file < 0∨(m.fl.length : Int)≤c.file∨c.idx < 0∨bkN m c.file≤c.idx∨c.fr < 0∨(m.fs.length : Int)≤c.fr
   ·rw [if_pos h1,if_pos h1]; simp
   ·rw [if_neg h1,if_neg h1]
    by_cases h2 : (frAt m c.fr).r = 0∨(frAt m c.fr).f≠c.file∨(frAt m c.fr).x≠c.idx
    ·rw [if_pos h2,if_pos h2]; simp
    ·rw [if_neg h2,if_neg h2]
     cases p with
     | none=>simp
     | some q =>
      simp only [Option.some.injEq,forall_eq',true_and]
      by_cases h3 : keyC c≤keyC q
      ·rw [if_pos h3];constructor
       ·intro h; cases h
       ·intro h; omega
      ·rw [if_neg h3];simp;omega
  by_cases h : caE m p c = 0
  ·rw [if_pos h,caGo_zero];obtain ⟨g1,g2⟩:=hc.1 h;constructor
   ·rintro ⟨a1,a2,a3⟩;refine ⟨?_,?_,?_⟩
    ·intro x hx
     rcases List.mem_cons.1 hx with rfl | hx
     ·exact g1
     ·exact a1 x hx
    ·intro q x hq hx
     rcases List.mem_cons.1 hx with rfl | hx
     ·exact g2 q hq
     ·have:=g2 q hq;have:=a2 c x rfl hx;omega
    ·exact List.pairwise_cons.2 ⟨fun x hx=>a2 c x rfl hx,a3⟩
   ·rintro ⟨a1,a2,a3⟩;obtain ⟨b1,b2⟩:=List.pairwise_cons.1 a3;exact ⟨fun x hx=>a1 x (by simp [hx]),fun q x hq hx=>by cases hq; exact b1 x hx,b2⟩
  ·rw [if_neg h];constructor
   ·intro h'; exact absurd h' h
   ·rintro ⟨a1,a2,a3⟩;exact absurd (hc.2 ⟨a1 c (by simp),fun q hq=>a2 q c hq (by simp)⟩) h
theorem caE_ok {m : Ma} {c : Ca} (h : caE m none c = 0) : (0≤c.file∧c.file < m.fl.length∧0≤c.idx∧c.idx < bkN m c.file∧0≤c.fr∧c.fr < m.fs.length)∧(frAt m c.fr).r≠0∧(frAt m c.fr).f = c.file∧(frAt m c.fr).x = c.idx:=by
 unfold caE at h
 split at h
 ·cases h
 ·split at h
  ·cases h
  ·rename_i h1 h2
   refine ⟨by omega,fun h=>h2 (.inl h),?_,?_⟩
   ·exact Classical.byContradiction fun h=>h2 (.inr (.inl h))
   ·exact Classical.byContradiction fun h=>h2 (.inr (.inr h))
theorem caE_of {m : Ma} {c : Ca} (h1 : 0≤c.file∧c.file < m.fl.length∧0≤c.idx∧c.idx < bkN m c.file∧0≤c.fr∧c.fr < m.fs.length) (h2 : (frAt m c.fr).r≠0) (h3 : (frAt m c.fr).f = c.file) (h4 : (frAt m c.fr).x = c.idx) : caE m none c = 0:=by
 unfold caE;rw [if_neg (by omega),if_neg (by rintro (h | h | h); exact h2 h; exact h h3; exact h h4)]
theorem cached_one {m : Ma} (h : caGo m none m.ca = 0) (k : Int) : cachedN m.ca k≤1:=by
 obtain ⟨h1,_,h3⟩:=caGo_zero.1 h;have key : ∀ (l : List Ca),(∀ c∈l,caE m none c = 0)→l.Pairwise (fun a b=>keyC a < keyC b)→cachedN l k≤1:=by
  intro l
  induction l with
  | nil=>intro _ _; simp [cachedN]
  | cons c l ih =>
   intro a1 a2;obtain ⟨b1,b2⟩:=List.pairwise_cons.1 a2;have ih':=ih (fun x hx=>a1 x (by simp [hx])) b2
   unfold cachedN at ih' ⊢;rw [List.countP_cons]
   by_cases hc : c.fr = k
   ·have : l.countP (fun c=>decide (c.fr = k)) = 0:=by
     rw [List.countP_eq_zero];intro x hx hxk;have hxk' : x.fr = k:=by simpa using hxk
     have e1:=caE_ok (a1 c (by simp))
     have e2:=caE_ok (a1 x (by simp [hx]))
     have hl:=b1 x hx;rw [hc] at e1;rw [hxk'] at e2;unfold keyC at hl;have:=e1.2.2.1;have:=e1.2.2.2;have:=e2.2.2.1;have:=e2.2.2.2;omega
    rw [this]
    simp [hc]
   ·simp [hc]
    exact ih'
 exact key m.ca h1 h3
theorem cached_pos {ca : List Ca} {c : Ca} (h : c∈ca) : cachedN ca c.fr≠0:=by
 unfold cachedN;intro h0;rw [List.countP_eq_zero] at h0;exact h0 c h (by simp)
def tabOf (f : Nat→En) : List (List En):=tableOf ((List.range 64).map f)
def finish (m : Ma) (T : List (Nat→En)) (h : Int) : Ma:={ m with hand:=h,sp:=List.zipWith (fun s f=>{ s with tb:=tabOf f }) m.sp T }
theorem tabOf_at {f : Nat→En} (h : ∀ n,n < 64→enW (f n) = 0) {n : Nat} (hn : n < 64) : getN (tabOf f) (n / 8) (n % 8) = f n:=by
 unfold tabOf getN tableOf;rw [List.getElem?_map,List.getElem?_range (by omega)]
 simp only [Option.map_some,Option.getD_some];have hc : ∀ e∈chunk ((List.range 64).map f) (n / 8),enW e = 0:=by
  intro e he;unfold chunk at he;obtain ⟨k,hk,rfl⟩:=List.mem_map.1 he;rw [List.mem_range] at hk;rw [List.getElem?_map,List.getElem?_range (by omega)]
  exact h _ (by omega)
 rw [mk_get _ hc];unfold chunk;rw [List.getElem?_map,List.getElem?_range (by omega)]
 simp only [Option.map_some,Option.getD_some];rw [List.getElem?_map,List.getElem?_range (by omega)]
 simp only [Option.map_some,Option.getD_some]
 congr 1
 omega
theorem tabOf_ok {f : Nat→En} (h : ∀ n,n < 64→enW (f n) = 0) : tbW (tabOf f) = 0:=by
 rw [tbW_zero];intro x hx;unfold tabOf tableOf at hx;obtain ⟨i,hi,rfl⟩:=List.mem_map.1 hx;rw [List.mem_range] at hi;refine mk_ok (by simp [chunk]) ?_
 intro e he;unfold chunk at he;obtain ⟨k,hk,rfl⟩:=List.mem_map.1 he;rw [List.mem_range] at hk;rw [List.getElem?_map,List.getElem?_range (by omega)]
 exact h _ (by omega)
theorem tabOf_empty {f : Nat→En} (h : ∀ n,n < 64→f n = en0) : (tabOf f).all (·.isEmpty) = true:=by
 rw [List.all_eq_true];intro x hx;unfold tabOf tableOf at hx;obtain ⟨i,hi,rfl⟩:=List.mem_map.1 hx;rw [List.mem_range] at hi;have : anyS (chunk ((List.range 64).map f) i) = false:=by
  unfold anyS;rw [List.any_eq_false];intro e he;unfold chunk at he;obtain ⟨k,hk,rfl⟩:=List.mem_map.1 he;rw [List.mem_range] at hk;rw [List.getElem?_map,List.getElem?_range (by omega)]
  simp only [Option.map_some,Option.getD_some];rw [h _ (by omega)]
  decide
 unfold mk;rw [if_neg (by rw [this]; decide)]
 rfl
theorem cnt_congr {f g : Nat→En} (kind k : Int) : ∀ {m : Nat},(∀ n,n < m→f n = g n)→cntTo f kind k m = cntTo g kind k m
 | 0,_=>rfl
 | m + 1,h=>by
  unfold cntTo;rw [cnt_congr kind k (fun n hn=>h n (by omega)),h m (by omega)]
section
variable {m : Ma} {T : List (Nat→En)}
theorem BInv.en (h : BInv m T) {p : Nat} {f : Nat→En} (hT : T[p]? = some f) {n : Nat} (hn : n < 64) : enW (f n) = 0:=by
 have hp : p < m.sp.length:=by rw [←h.tl]; exact (List.getElem?_eq_some_iff.1 hT).1
 rcases h.ent p _ f (List.getElem?_eq_getElem hp) hT n hn with h1 | h1
 ·rw [h1]; exact enW_0
 ·exact h1.1
theorem fin_sp (h : BInv m T) (hd : Int) {p : Nat} {s : Sp} (hs : (finish m T hd).sp[p]? = some s) : ∃ s0 f,m.sp[p]? = some s0∧T[p]? = some f∧s = { s0 with tb:=tabOf f }:=by
 unfold finish at hs;simp only [List.getElem?_zipWith] at hs;have hp : p < m.sp.length:=by
  rcases Nat.lt_or_ge p m.sp.length with h1 | h1
  ·exact h1
  ·rw [List.getElem?_eq_none h1] at hs;cases hs
 have hq : p < T.length:=by rw [h.tl]; exact hp
 rw [List.getElem?_eq_getElem hp,List.getElem?_eq_getElem hq] at hs;simp only [Option.some.injEq] at hs;exact ⟨_,_,List.getElem?_eq_getElem hp,List.getElem?_eq_getElem hq,hs.symm⟩
theorem fin_hold (h : BInv m T) (hd : Int) (kind k : Int) : holders (finish m T hd) kind k = holdN T kind k:=by
 have key : ∀ (S : List Sp) (T : List (Nat→En)),T.length = S.length→(∀ (p : Nat) f,T[p]? = some f→∀ n,n < 64→enW (f n) = 0)→holdN ((List.zipWith (fun s f=>({ s with tb:=tabOf f } : Sp)) S T).map flatN) kind k = holdN T kind k:=by
  intro S
  induction S with
  | nil=>intro T hl _; rw [List.length_eq_zero_iff.1 hl]; rfl
  | cons s S ih =>
   intro T hl he
   cases T with
   | nil=>simp at hl
   | cons f T =>
    have h1:=ih T (by simpa using hl) (fun p g hg=>he (p + 1) g (by simpa using hg))
    have h2 : cntTo (flatN { s with tb:=tabOf f }) kind k 64 = cntTo f kind k 64:=cnt_congr kind k fun n hn=>by
     unfold flatN;exact tabOf_at (he 0 f rfl) hn
    simp only [List.zipWith_cons_cons,List.map_cons,holdN,List.sum_cons] at h1 ⊢;rw [h1,h2]
 exact key m.sp T h.tl fun p f hf n hn=>h.en hf hn
theorem BInv.right (h : BInv m T) {hd : Int} (h0 : 0≤hd) (h1 : hd < max (m.fs.length : Int) 1) : maW (finish m T hd) = 0:=by
 have hT4 : T.length≤4:=by rw [h.tl]; exact h.spl
 unfold maW;rw [firstE_zero];intro e he;simp only [List.mem_cons,List.not_mem_nil,or_false] at he
 rcases he with rfl | rfl | rfl | rfl | rfl
 ·unfold partE;rw [firstE_zero];intro e he;simp only [List.mem_cons,List.not_mem_nil,or_false] at he
  rcases he with rfl | rfl | rfl | rfl | rfl | rfl | rfl | rfl | rfl | rfl
  ·show memW m.fs hd = 0
   unfold memW;have hfs : frsW m.fs = 0:=frsW_zero.2 fun f hf=>by
    obtain ⟨k,hk⟩:=List.getElem?_of_mem hf;refine frW_shape (h.fok f hf) ?_;rw [(h.cf k f hk).1];have:=hold_le T 1 k;have:=cached_one h.ca k;omega
   rw [if_neg (by have:=h.fs40; omega),if_pos hfs,if_pos]
   simp [inB]
   omega
  ·show slW m.sl = 0
   unfold slW;rw [if_neg (by have:=h.sl60; omega),if_neg]
   rw [List.any_eq_true];rintro ⟨z,hz,hb⟩;obtain ⟨k,hk⟩:=List.getElem?_of_mem hz;have h2:=h.cs k z hk;have:=hold_le T 2 k;unfold badS at hb
   simp at hb
   omega
  ·exact h.sq
  ·exact h.dok
  ·exact h.st
  ·show fitE m = 0
   unfold fitE;rw [if_neg];have:=h.sbl;have:=h.cnt;omega
  ·show blockE m = 0
   unfold blockE;rw [if_neg];rw [List.any_eq_true];rintro ⟨b,hb,hx⟩;rw [List.mem_range] at hb;simp only [Bool.and_eq_true,Bool.not_eq_true'] at hx;have:=h.blk b hb hx.1;rw [List.getD_eq_getElem?_getD,this] at hx
   simp at hx
  ·show queueE m = 0
   unfold queueE;rw [if_neg];rw [List.any_eq_true];rintro ⟨q,hq,hx⟩;rw [h.que q hq] at hx;cases hx
  ·have : (finish m T hd).sp.length≤4:=by
    unfold finish;simp;have:=h.spl;omega
   rw [if_neg (by omega)]
  ·rw [firstE_zero];intro e he;obtain ⟨s,hs,rfl⟩:=List.mem_map.1 he;obtain ⟨p,hp⟩:=List.getElem?_of_mem hs;obtain ⟨s0,f,a1,a2,rfl⟩:=fin_sp h hd hp;have hok:=h.spok s0 (List.mem_of_getElem? a1);unfold spE;simp only;rw [if_neg (fun h=>h hok.1),if_neg (fun h'=>h' (tabOf_ok fun n hn=>h.en a2 hn)),if_neg]
   intro hx;rw [Bool.and_eq_true] at hx;have hlive : s0.live = false:=by simpa using hx.1
   have hars:=hok.2 hlive;have hemp : (tabOf f).all (·.isEmpty) = true:=tabOf_empty fun n hn=>by
    rcases h.ent p s0 f a1 a2 n hn with e | e
    ·exact e
    ·have:=e.2.2;unfold entE at this;rw [hars,if_pos (show (onAt [] n).is = false from rfl)] at this
     cases this
   rw [hars,hemp] at hx
   simp at hx
 ·obtain ⟨a1,a2,a3⟩:=caGo_zero.1 h.ca;exact caGo_zero.2 ⟨fun c hc=>a1 c hc,fun q c hq=>(by cases hq),a3⟩
 ·rw [firstE_zero];intro e he;obtain ⟨s,hs,rfl⟩:=List.mem_map.1 he;obtain ⟨p,hp⟩:=List.getElem?_of_mem hs;obtain ⟨s0,f,a1,a2,rfl⟩:=fin_sp h hd hp;unfold spEnt;rw [firstE_zero];intro e he;obtain ⟨n,hn,rfl⟩:=List.mem_map.1 he;rw [List.mem_range] at hn;have hf : flatN { s0 with tb:=tabOf f } n = f n:=by
   unfold flatN;exact tabOf_at (fun n hn=>h.en a2 hn) hn
  rw [hf]
  rcases h.ent p s0 f a1 a2 n hn with h2 | h2
  ·rw [h2,if_pos (show en0.kind = 0 from rfl)]
  ·rw [if_neg h2.2.1];exact h2.2.2
 ·rw [firstE_zero];intro e he;obtain ⟨k,hk,rfl⟩:=List.mem_map.1 he;rw [List.mem_range] at hk;have hk' : k < m.fs.length:=hk;have hf:=h.cf k _ (List.getElem?_eq_getElem hk');unfold frE;rw [fin_hold h hd];have e1 : frAt (finish m T hd) k = m.fs[k]:=by
   show m.fs.getD (k : Int).toNat frF = _
   rw [Int.toNat_natCast,List.getD_eq_getElem?_getD,List.getElem?_eq_getElem hk'];rfl
  rw [e1,if_neg];rintro (h2 | ⟨h2,h3⟩)
  ·exact h2 hf.1
  ·exact hf.2 h2 h3
 ·rw [firstE_zero];intro e he;obtain ⟨k,hk,rfl⟩:=List.mem_map.1 he;rw [List.mem_range] at hk;have hk' : k < m.sl.length:=hk;have hs:=h.cs k _ (List.getElem?_eq_getElem hk');unfold sloE;rw [fin_hold h hd];have e1 : (finish m T hd).sl.getD k 0 = m.sl[k]:=by
   show m.sl.getD k 0 = _
   rw [List.getD_eq_getElem?_getD,List.getElem?_eq_getElem hk'];rfl
  rw [e1,if_neg (fun h2=>h2 hs)]
def flats (m : Ma) : List (Nat→En):=m.sp.map flatN
theorem right_inv {m : Ma} (h : maW m = 0) : BInv m (flats m)∧0≤m.hand∧m.hand < max (m.fs.length : Int) 1:=by
 unfold maW at h;rw [firstE_zero] at h;have h1 : partE m = 0:=h _ (by simp)
 have h2 : caGo m none m.ca = 0:=h _ (by simp)
 have h3:=firstE_zero.1 (h (firstE (m.sp.map (spEnt m))) (by simp))
 have h4:=firstE_zero.1 (h (firstE ((List.range m.fs.length).map (frE m))) (by simp))
 have h5:=firstE_zero.1 (h (firstE ((List.range m.sl.length).map (sloE m))) (by simp))
 unfold partE at h1;rw [firstE_zero] at h1;have p1 : memW m.fs m.hand = 0:=h1 _ (by simp)
 have p2 : slW m.sl = 0:=h1 _ (by simp)
 have p3 : wrongL m.sb.length m.sq = 0:=h1 _ (by simp)
 have p4 : wrongL m.db.length m.dq = 0:=h1 _ (by simp)
 have p5 : stW m.fl m.cnt = 0:=h1 _ (by simp)
 have p6 : fitE m = 0:=h1 _ (by simp)
 have p7 : blockE m = 0:=h1 _ (by simp)
 have p8 : queueE m = 0:=h1 _ (by simp)
 have p9 : (if 4 < m.sp.length then (4 : Int) else 0) = 0:=h1 _ (by simp)
 have p10:=firstE_zero.1 (h1 (firstE (m.sp.map spE)) (by simp))
 have m1 : m.fs.length≤40∧frsW m.fs = 0∧0≤m.hand∧m.hand < max (m.fs.length : Int) 1:=by
  unfold memW at p1
  split at p1
  ·cases p1
  ·split at p1
   ·rename_i a b
    split at p1
    ·rename_i c
     unfold inB at c
     simp at c
     exact ⟨by omega,b,by omega,by omega⟩
    ·cases p1
   ·rename_i a b
    exact absurd p1 b
 have s1 : m.sl.length≤60:=by
  unfold slW at p2
  split at p2
  ·cases p2
  ·omega
 have f1 : m.sl.length = m.sb.length∧m.cnt = (m.db.length : Int):=by
  unfold fitE at p6
  split at p6
  ·cases p6
  ·rename_i a
   constructor
   ·exact Classical.byContradiction fun h=>a (.inl h)
   ·exact Classical.byContradiction fun h=>a (.inr h)
 refine ⟨⟨m1.1,fun f hf=>?_,s1,f1.1.symm,p3,p4,p5,f1.2,fun b hb hu=>?_,fun q hq=>?_,?_,fun s hs=>?_,by simp [flats],h2,fun p s f hs hT n hn=>?_,fun k f hk=>?_,fun k z hk=>?_⟩,m1.2.2.1,m1.2.2.2⟩
 ·have hw:=frsW_zero.1 m1.2.1 f hf;unfold frW at hw
  split at hw
  ·cases hw
  ·rename_i a1
   split at hw
   ·cases hw
   ·rename_i a2
    split at hw
    ·cases hw
    ·rename_i a3
     have b1 : inB f.r 1001 = true∧inB f.x 12 = true:=by
      cases e1 : inB f.r 1001 <;> cases e2 : inB f.x 12 <;> simp [e1,e2] at a1 ⊢
     have b2 : f.f = -1∨inB f.f 5 = true:=by
      by_cases e : f.f = -1
      ·exact .inl e
      ·right
       cases e2 : inB f.f 5 with
       | true=>rfl
       | false=>simp [e,e2] at a2
     have b3 : (f.r = 0→f = frF)∧(f.f = -1→f.x = 0):=by
      constructor
      ·intro e
       cases e2 : frEqB f frF with
       | true=>exact (frEqB_iff f frF).1 e2
       | false=>simp [e,e2] at a3
      ·intro e
       by_cases e2 : f.x = 0
       ·exact e2
       ·simp [e,e2] at a3
     unfold inB at b1 b2
     simp at b1 b2
     exact ⟨by omega,by omega,by omega,b3.1,b3.2⟩
 ·unfold blockE at p7
  split at p7
  ·cases p7
  ·rename_i a
   have : ¬ (!usedB m.fl (b : Int) && !(m.db.getD b [] == zero8)) = true:=fun h=>a (List.any_eq_true.2 ⟨b,List.mem_range.2 hb,h⟩)
   rw [hu,List.getD_eq_getElem?_getD,List.getElem?_eq_getElem hb] at this;rw [List.getElem?_eq_getElem hb]
   simp at this
   rw [this]
 ·unfold queueE at p8
  split at p8
  ·cases p8
  ·rename_i a
   cases e : usedB m.fl q.1 with
   | true=>rfl
   | false=>exact absurd (List.any_eq_true.2 ⟨q,hq,by simp [e]⟩) a
 ·split at p9
  ·cases p9
  ·omega
 ·have hs0:=p10 (spE s) (List.mem_map.2 ⟨s,hs,rfl⟩);unfold spE at hs0
  split at hs0
  ·rename_i a; exact absurd hs0 a
  ·rename_i a
   split at hs0
   ·rename_i b; exact absurd hs0 b
   ·split at hs0
    ·cases hs0
    ·rename_i c
     refine ⟨by simpa using a,fun hl=>?_⟩
     rw [hl] at c
     cases e : s.ars with
     | nil=>rfl
     | cons x y=>rw [e] at c; simp at c
 ·unfold flats at hT;rw [List.getElem?_map,hs] at hT;cases hT;have hmem:=List.mem_of_getElem? hs;have hs0:=p10 (spE s) (List.mem_map.2 ⟨s,hmem,rfl⟩);have htb : tbW s.tb = 0:=by
   unfold spE at hs0
   split at hs0
   ·rename_i a; exact absurd hs0 a
   ·split at hs0
    ·rename_i b; exact absurd hs0 b
    ·rename_i b; simpa using b
  have hen : enW (flatN s n) = 0:=by
   unfold flatN getN;have hall:=tbW_zero.1 htb;have : HaOk (s.tb[n / 8]?.getD []):=by
    cases e : s.tb[n / 8]? with
    | none=>exact .inl rfl
    | some x=>exact hall x (List.mem_of_getElem? e)
   exact this.get (n % 8)
  have h6:=firstE_zero.1 (h3 (spEnt m s) (List.mem_map.2 ⟨s,hmem,rfl⟩)) _ (List.mem_map.2 ⟨n,List.mem_range.2 hn,rfl⟩)
  by_cases hk : (flatN s n).kind = 0
  ·left;exact en_none hen (by simp [enS,hk])
  ·right;rw [if_neg hk] at h6;exact ⟨hen,hk,h6⟩
 ·have hkl:=(List.getElem?_eq_some_iff.1 hk).1;have:=h4 (frE m k) (List.mem_map.2 ⟨k,List.mem_range.2 hkl,rfl⟩);unfold frE at this;have e1 : frAt m k = f:=by unfold frAt; rw [Int.toNat_natCast,List.getD_eq_getElem?_getD,hk]; rfl
  rw [e1] at this
  split at this
  ·cases this
  ·rename_i a
   refine ⟨Classical.byContradiction fun h=>a (.inl h),fun h1 h2=>a (.inr ⟨h1,h2⟩)⟩
 ·have hkl:=(List.getElem?_eq_some_iff.1 hk).1;have:=h5 (sloE m k) (List.mem_map.2 ⟨k,List.mem_range.2 hkl,rfl⟩);unfold sloE at this;rw [List.getD_eq_getElem?_getD,hk] at this
  split at this
  ·cases this
  ·rename_i a
   exact Classical.byContradiction fun h=>a h
end
section
variable {m : Ma} {T : List (Nat→En)}
theorem frAt_of {m : Ma} {k : Nat} {f : Fr} (h : m.fs[k]? = some f) : frAt m (k : Int) = f:=by
 unfold frAt;rw [Int.toNat_natCast,List.getD_eq_getElem?_getD,h];rfl
theorem frAt_set {m : Ma} {k : Nat} {f : Fr} (hk : k < m.fs.length) (z : Int) (hz : 0≤z) : frAt { m with fs:=m.fs.set k f } z = if z = (k : Int) then f else frAt m z:=by
 unfold frAt;simp only [List.getD_eq_getElem?_getD]
 by_cases e : z = (k : Int)
 ·subst e;rw [if_pos rfl,Int.toNat_natCast,List.getElem?_set_self hk];rfl
 ·rw [if_neg e,List.getElem?_set_ne (by omega)]
theorem entE_keep {m m' : Ma} {x : On} {e : En} (h : entE m x e = 0) (hs : m'.sl.length = m.sl.length) (hf : m'.fs.length = m.fs.length) (h1 : e.kind≠2→(frAt m' e.n).f = (frAt m e.n).f∧(frAt m' e.n).x = (frAt m e.n).x∧(e.wr = true→(frAt m e.n).f = -1→(frAt m' e.n).r≤1)) : entE m' x e = 0:=by
 unfold entE at h ⊢;rw [hs,hf]
 by_cases h0 : x.is = false
 ·rw [if_pos h0] at h; cases h
 ·rw [if_neg h0] at h ⊢
  by_cases h2 : e.kind = 2
  ·rw [if_pos h2] at h ⊢;exact h
  ·rw [if_neg h2] at h ⊢;obtain ⟨g1,g2,g3⟩:=h1 h2
   by_cases h3 : (m.fs.length : Int)≤e.n
   ·rw [if_pos h3] at h; cases h
   ·rw [if_neg h3] at h ⊢;rw [g1,g2]
    split at h
    ·cases h
    ·rename_i hn
     rw [if_neg];rintro (h4 | h4 | h4 | h4 | h4)
     ·exact hn (.inl h4)
     ·exact hn (.inr (.inl h4))
     ·exact hn (.inr (.inr (.inl h4)))
     ·exact hn (.inr (.inr (.inr (.inl h4))))
     ·have:=g3 h4.1 h4.2.1;omega
theorem entE_present {m : Ma} {x : On} {e : En} (h : EntOk m x e) (hk : e.kind≠2) : e.kind = 1∧0≤e.n∧e.n < m.fs.length∧(e.wr = true→(frAt m e.n).f = -1→(frAt m e.n).r≤1):=by
 obtain ⟨h1,h2,h3⟩:=h;obtain ⟨a1,a2,_⟩:=enW_zero h1;unfold entE at h3
 by_cases h0 : x.is = false
 ·rw [if_pos h0] at h3; cases h3
 ·rw [if_neg h0,if_neg hk] at h3
  by_cases h4 : (m.fs.length : Int)≤e.n
  ·rw [if_pos h4] at h3; cases h3
  ·rw [if_neg h4] at h3
   split at h3
   ·cases h3
   ·rename_i hn
    refine ⟨by omega,by omega,by omega,fun g1 g2=>?_⟩
    have : ¬ 1 < (frAt m e.n).r:=fun h=>hn (.inr (.inr (.inr (.inr ⟨g1,g2,h⟩))))
    omega
theorem held_of {T : List (Nat→En)} {p : Nat} {f : Nat→En} (hT : T[p]? = some f) {n : Nat} (hn : n < 64) (hk : (f n).kind = 1) : 1≤holdN T 1 (f n).n:=hold_pos hT hn (by simp [isE,hk]) (by decide)
theorem BInv.free (h : BInv m T) {j : Nat} {f : Fr} (hf : m.fs[j]? = some f) (h0 : f.r = 0) : holdN T 1 j = 0∧cachedN m.ca j = 0:=by
 have:=(h.cf j f hf).1;rw [h0] at this;omega
def insCa (ca : List Ca) (c : Ca) : List Ca:=ca.takeWhile (fun d=>decide (keyC d < keyC c)) ++ c :: ca.dropWhile (fun d=>decide (keyC d < keyC c))
theorem ins_cached (ca : List Ca) (c : Ca) (k : Int) : cachedN (insCa ca c) k = cachedN ca k + (if c.fr = k then 1 else 0):=by
 unfold insCa cachedN;have h:=List.takeWhile_append_dropWhile (p:=fun d=>decide (keyC d < keyC c)) (l:=ca)
 rw [List.countP_append,List.countP_cons]
 conv=>rhs; rw [←h,List.countP_append]
 by_cases e : c.fr = k
 ·simp [e]; omega
 ·simp [e]
theorem ins_mem {ca : List Ca} {c d : Ca} (h : d∈insCa ca c) : d = c∨d∈ca:=by
 unfold insCa at h;rw [List.mem_append,List.mem_cons] at h
 rcases h with h | h | h
 ·exact .inr ((List.takeWhile_sublist _).subset h)
 ·exact .inl h
 ·exact .inr ((List.dropWhile_sublist _).subset h)
theorem ins_sorted {c : Ca} : ∀ {ca : List Ca},ca.Pairwise (fun a b=>keyC a < keyC b)→(∀ d∈ca,keyC d≠keyC c)→(insCa ca c).Pairwise (fun a b=>keyC a < keyC b)
 | [],_,_=>by simp [insCa]
 | d :: ca,h,hne=>by
  obtain ⟨h1,h2⟩:=List.pairwise_cons.1 h
  by_cases hd : keyC d < keyC c
  ·have e : insCa (d :: ca) c = d :: insCa ca c:=by
    unfold insCa;rw [List.takeWhile_cons,List.dropWhile_cons,if_pos (by simpa using hd),if_pos (by simpa using hd)]
    rfl
   rw [e];refine List.pairwise_cons.2 ⟨fun x hx=>?_,ins_sorted h2 fun x hx=>hne x (by simp [hx])⟩
   rcases ins_mem hx with rfl | hx
   ·exact hd
   ·exact h1 x hx
  ·have e : insCa (d :: ca) c = c :: d :: ca:=by
    unfold insCa;rw [List.takeWhile_cons,List.dropWhile_cons,if_neg (by simpa using hd),if_neg (by simpa using hd)]
    rfl
   rw [e];have:=hne d (by simp)
   refine List.pairwise_cons.2 ⟨fun x hx=>?_,h⟩
   rcases List.mem_cons.1 hx with rfl | hx
   ·omega
   ·have:=h1 x hx;omega
theorem BInv.pages (h : BInv m T) {file : Int} (h0 : 0≤file) (h1 : file < m.fl.length) : bkN m file≤12∧file < 5:=by
 obtain ⟨⟨a1,a2,a3⟩,a4,a5⟩:=(stW_zero m.fl m.cnt).1 h.st;have hlt : file.toNat < m.fl.length:=by omega
 have hok:=a4 _ (List.getElem_mem hlt);unfold bkN;rw [List.getD_eq_getElem?_getD,List.getElem?_eq_getElem hlt];simp only [Option.getD_some];obtain ⟨b1,b2,b3⟩:=hok;unfold cntP at b2
 split at b2 <;> omega
theorem BInv.cache (h : BInv m T) {j : Nat} {f0 : Fr} {p : Pg} {u d : Bool} {file idx : Int} (hj : m.fs[j]? = some f0) (h0 : f0.r = 0) (hf : 0≤file∧file < m.fl.length) (hi : 0≤idx∧idx < bkN m file) (hn : ∀ c∈m.ca,¬ (c.file = file∧c.idx = idx)) :
  BInv { m with fs:=m.fs.set j ⟨p,1,u,d,file,idx⟩,ca:=insCa m.ca ⟨file,idx,j⟩ } T:=by
 have hjl:=(List.getElem?_eq_some_iff.1 hj).1;obtain ⟨z1,z2⟩:=h.free hj h0;obtain ⟨g1,g2⟩:=h.pages hf.1 hf.2;obtain ⟨a1,a2,a3⟩:=caGo_zero.1 h.ca;have hcj : ∀ c∈m.ca,c.fr≠(j : Int):=fun c hc e=>by
  have:=cached_pos hc;rw [e] at this;exact this z2
 have hkey : ∀ c∈m.ca,keyC c≠keyC ⟨file,idx,j⟩:=fun c hc e=>by
  have h1:=(caE_ok (a1 c hc)).1;have h2:=h.pages h1.1 h1.2.1;have:=hn c hc;unfold keyC at e;simp only at e;omega
 refine ⟨by simpa using h.fs40,fun f hf'=>?_,h.sl60,h.sbl,h.sq,h.dok,h.st,h.cnt,h.blk,h.que,h.spl,h.spok,h.tl,?_,fun q s f hs hT n hn'=>?_,fun k f hk=>?_,h.cs⟩
 ·rcases List.mem_or_eq_of_mem_set hf' with hf' | rfl
  ·exact h.fok f hf'
  ·refine ⟨by simp,by simp only; omega,.inr (by simp only; omega),fun h=>by simp at h,fun h=>by simp only at h; omega⟩
 ·refine caGo_zero.2 ⟨fun c hc=>?_,fun q c hq=>(by cases hq),ins_sorted a3 hkey⟩
  rcases ins_mem hc with rfl | hc
  ·refine caE_of ⟨hf.1,hf.2,hi.1,hi.2,by simp,by simpa using hjl⟩ ?_ ?_ ?_ <;> rw [show frAt { m with fs:=m.fs.set j ⟨p,1,u,d,file,idx⟩,ca:=insCa m.ca ⟨file,idx,j⟩ } (⟨file,idx,(j : Int)⟩ : Ca).fr = ⟨p,1,u,d,file,idx⟩ from by rw [show frAt { m with fs:=m.fs.set j ⟨p,1,u,d,file,idx⟩,ca:=insCa m.ca ⟨file,idx,j⟩ } (⟨file,idx,(j : Int)⟩ : Ca).fr = frAt { m with fs:=m.fs.set j ⟨p,1,u,d,file,idx⟩ } (j : Int) from rfl,frAt_set hjl _ (by omega),if_pos rfl]]
   simp
  ·obtain ⟨b1,b2,b3,b4⟩:=caE_ok (a1 c hc);have he : frAt { m with fs:=m.fs.set j ⟨p,1,u,d,file,idx⟩,ca:=insCa m.ca ⟨file,idx,j⟩ } c.fr = frAt m c.fr:=by
    rw [show frAt { m with fs:=m.fs.set j ⟨p,1,u,d,file,idx⟩,ca:=insCa m.ca ⟨file,idx,j⟩ } c.fr = frAt { m with fs:=m.fs.set j ⟨p,1,u,d,file,idx⟩ } c.fr from rfl,frAt_set hjl _ b1.2.2.2.2.1,if_neg (hcj c hc)]
   exact caE_of (by simpa [bkN] using b1) (by rw [he]; exact b2) (by rw [he]; exact b3) (by rw [he]; exact b4)
 ·rcases h.ent q s f hs hT n hn' with e | e
  ·exact .inl e
  ·refine .inr ⟨e.1,e.2.1,entE_keep e.2.2 rfl (by simp) fun hk=>?_⟩
   obtain ⟨c1,c2,c3,c4⟩:=entE_present e hk;have hne : (f n).n≠(j : Int):=fun e2=>by
    have:=held_of hT hn' c1;rw [e2] at this;omega
   have he : frAt { m with fs:=m.fs.set j ⟨p,1,u,d,file,idx⟩,ca:=insCa m.ca ⟨file,idx,j⟩ } (f n).n = frAt m (f n).n:=by
    rw [show frAt { m with fs:=m.fs.set j ⟨p,1,u,d,file,idx⟩,ca:=insCa m.ca ⟨file,idx,j⟩ } (f n).n = frAt { m with fs:=m.fs.set j ⟨p,1,u,d,file,idx⟩ } (f n).n from rfl,frAt_set hjl _ c2,if_neg hne]
   rw [he];exact ⟨rfl,rfl,c4⟩
 ·simp only at hk ⊢;rw [ins_cached]
  by_cases e : k = j
  ·subst e;rw [List.getElem?_set_self hjl] at hk;cases hk;refine ⟨?_,fun _=>by simp⟩
   simp only [if_true];omega
  ·rw [List.getElem?_set_ne (fun h=>e h.symm)] at hk
   have:=h.cf k f hk;rw [if_neg (by simp only; omega)]
   exact this
theorem ent_set {m' : Ma} {T : List (Nat→En)} {p n : Nat} {f : Nat→En} {e : En} (hp : p < T.length) (hsp : m'.sp = m.sp) (hTp : T[p]? = some f)
  (hold : ∀ (q : Nat) s g,m.sp[q]? = some s→T[q]? = some g→∀ j : Nat,j < 64→(q≠p∨j≠n)→g j = en0∨EntOk m' (onAt s.ars j) (g j)) (hnew : ∀ s,m.sp[p]? = some s→EntOk m' (onAt s.ars n) e) :
  ∀ (q : Nat) s g,m'.sp[q]? = some s→(T.set p (updF f n e))[q]? = some g→∀ j : Nat,j < 64→g j = en0∨EntOk m' (onAt s.ars j) (g j):=by
 intro q s g hs hg j hj;rw [hsp] at hs
 by_cases eq : q = p
 ·subst eq;rw [List.getElem?_set_self hp] at hg;cases hg;unfold updF
  by_cases ej : j = n
  ·subst ej;rw [if_pos rfl];exact .inr (hnew s hs)
  ·rw [if_neg ej];exact hold q s f hs hTp j hj (.inr ej)
 ·rw [List.getElem?_set_ne (fun h=>eq h.symm)] at hg
  exact hold q s g hs hg j hj (.inl eq)
theorem isE_self (k : Int) (kind : Int) (w : Bool) : isE ⟨kind,k,w⟩ kind k = true:=by simp [isE]
theorem isE_kind {kind k : Int} {e : En} (h : e.kind≠kind) : isE e kind k = false:=by simp [isE,h]
theorem isE_other {kind k : Int} {e : En} (h : e.n≠k) : isE e kind k = false:=by simp [isE,h]
theorem BInv.hold (h : BInv m T) {k p n : Nat} {fr : Fr} {f : Nat→En} {s : Sp} {w : Bool} (hk : m.fs[k]? = some fr) (hff : 0≤fr.f) (hs : m.sp[p]? = some s) (hT : T[p]? = some f) (hn : n < 64) (h0 : f n = en0)
  (hx : (onAt s.ars n).is = true) (hxf : (onAt s.ars n).file = fr.f) (hxp : (onAt s.ars n).page = fr.x) (hw : w = true→(onAt s.ars n).sh = true∧(onAt s.ars n).wr = true) :
  BInv { m with fs:=m.fs.set k { fr with r:=fr.r + 1 } } (T.set p (updF f n ⟨1,k,w⟩)):=by
 have hkl:=(List.getElem?_eq_some_iff.1 hk).1;have hpl:=(List.getElem?_eq_some_iff.1 hT).1;have hsh:=h.fok fr (List.mem_of_getElem? hk);have hfa : ∀ z : Int,0≤z→(frAt { m with fs:=m.fs.set k { fr with r:=fr.r + 1 } } z).f = (frAt m z).f∧(frAt { m with fs:=m.fs.set k { fr with r:=fr.r + 1 } } z).x = (frAt m z).x∧((frAt m z).f = -1→(frAt { m with fs:=m.fs.set k { fr with r:=fr.r + 1 } } z).r = (frAt m z).r):=fun z hz=>by
  rw [frAt_set hkl z hz]
  by_cases e : z = (k : Int)
  ·subst e;rw [if_pos rfl,frAt_of hk];exact ⟨rfl,rfl,fun h=>by omega⟩
  ·rw [if_neg e];exact ⟨rfl,rfl,fun _=>rfl⟩
 have hup : ∀ kind j : Int,holdN (T.set p (updF f n ⟨1,k,w⟩)) kind j + (isE en0 kind j).toNat = holdN T kind j + (isE ⟨1,k,w⟩ kind j).toNat:=fun kind j=>by
  have:=hold_upd ⟨1,k,w⟩ kind j hT hn;rw [h0] at this;exact this
 refine ⟨by simpa using h.fs40,fun g hg=>?_,h.sl60,h.sbl,h.sq,h.dok,h.st,h.cnt,h.blk,h.que,h.spl,h.spok,by simpa using h.tl,?_,?_,fun j g hj=>?_,fun j z hj=>?_⟩
 ·rcases List.mem_or_eq_of_mem_set hg with hg | rfl
  ·exact h.fok g hg
  ·obtain ⟨c1,c2,c3,c4,c5⟩:=hsh;exact ⟨by simp only; omega,c2,c3,fun h=>by simp only at h; omega,c5⟩
 ·obtain ⟨a1,a2,a3⟩:=caGo_zero.1 h.ca;refine caGo_zero.2 ⟨fun c hc=>?_,fun q c hq=>(by cases hq),a3⟩
  obtain ⟨b1,b2,b3,b4⟩:=caE_ok (a1 c hc);obtain ⟨e1,e2,e3⟩:=hfa c.fr b1.2.2.2.2.1;refine caE_of (by simpa [bkN] using b1) ?_ (by rw [e1]; exact b3) (by rw [e2]; exact b4)
  rw [frAt_set hkl _ b1.2.2.2.2.1]
  by_cases e : c.fr = (k : Int)
  ·rw [if_pos e];have:=hsh.1;simp only;omega
  ·rw [if_neg e];exact b2
 ·refine ent_set hpl rfl hT (fun q s g hs hg j hj hne=>?_) (fun s' hs'=>?_)
  ·rcases h.ent q s g hs hg j hj with e | e
   ·exact .inl e
   ·refine .inr ⟨e.1,e.2.1,entE_keep e.2.2 rfl (by simp) fun hk2=>?_⟩
    obtain ⟨c1,c2,c3,c4⟩:=entE_present e hk2;obtain ⟨e1,e2,e3⟩:=hfa (g j).n c2;exact ⟨e1,e2,fun g1 g2=>by rw [e3 g2]; exact c4 g1 g2⟩
  ·rw [hs] at hs';cases hs';refine ⟨enW_of (by simp) ⟨by simp,by simp only; have:=h.fs40; omega,fun _=>by simp only; have:=h.fs40; omega⟩ (by simp),by simp,?_⟩
   have ef : frAt { m with fs:=m.fs.set k { fr with r:=fr.r + 1 } } ((k : Nat) : Int) = { fr with r:=fr.r + 1 }:=by rw [frAt_set hkl _ (by omega),if_pos rfl]
   unfold entE;simp only;rw [if_neg (by rw [hx]; decide),if_neg (by decide),if_neg (by simp; omega),ef,if_neg]
   simp only;rintro (h4 | h4 | h4 | h4 | h4)
   ·exact h4.2 ⟨by omega,hxf.symm,hxp.symm⟩
   ·exact h4.2 ⟨by omega,hxf.symm,hxp.symm⟩
   ·rw [(hw h4.1).2] at h4; cases h4.2
   ·rw [(hw h4.1).1] at h4; cases h4.2.2
   ·omega
 ·simp only at hj ⊢;have hu:=hup 1 j;rw [isE_none 1 j (by decide)] at hu
  by_cases e : j = k
  ·subst e;rw [List.getElem?_set_self hkl] at hj;cases hj;rw [isE_self] at hu;have:=h.cf j fr hk;refine ⟨?_,this.2⟩
   simp at hu
   simp only;omega
  ·rw [List.getElem?_set_ne (fun h=>e h.symm)] at hj
   rw [isE_other (e:=⟨1,(k : Int),w⟩) (by simp only; omega)] at hu
   have:=h.cf j g hj;refine ⟨?_,this.2⟩
   simp at hu
   omega
 ·simp only at hj ⊢;have hu:=hup 2 j;rw [isE_none 2 j (by decide),isE_kind (e:=⟨1,(k : Int),w⟩) (by simp)] at hu
  have:=h.cs j z hj
  simp at hu
  omega
theorem BInv.mine (h : BInv m T) {j p n : Nat} {f0 : Fr} {pg : Pg} {u w : Bool} {f : Nat→En} {s : Sp} (hj : m.fs[j]? = some f0) (hr : f0.r = 0) (hs : m.sp[p]? = some s) (hT : T[p]? = some f) (hn : n < 64) (h0 : f n = en0)
  (hx : (onAt s.ars n).is = true) (hsh : (onAt s.ars n).sh = false) (hw : w = true→(onAt s.ars n).wr = true) :
  BInv { m with fs:=m.fs.set j ⟨pg,1,u,false,-1,0⟩ } (T.set p (updF f n ⟨1,j,w⟩)):=by
 have hjl:=(List.getElem?_eq_some_iff.1 hj).1;have hpl:=(List.getElem?_eq_some_iff.1 hT).1;obtain ⟨z1,z2⟩:=h.free hj hr;have hup : ∀ kind k : Int,holdN (T.set p (updF f n ⟨1,j,w⟩)) kind k + (isE en0 kind k).toNat = holdN T kind k + (isE ⟨1,j,w⟩ kind k).toNat:=fun kind k=>by
  have:=hold_upd ⟨1,j,w⟩ kind k hT hn;rw [h0] at this;exact this
 refine ⟨by simpa using h.fs40,fun g hg=>?_,h.sl60,h.sbl,h.sq,h.dok,h.st,h.cnt,h.blk,h.que,h.spl,h.spok,by simpa using h.tl,?_,?_,fun k g hk=>?_,fun k z hk=>?_⟩
 ·rcases List.mem_or_eq_of_mem_set hg with hg | rfl
  ·exact h.fok g hg
  ·exact ⟨by simp,by simp,.inl rfl,fun h=>by simp at h,fun _=>rfl⟩
 ·obtain ⟨a1,a2,a3⟩:=caGo_zero.1 h.ca;refine caGo_zero.2 ⟨fun c hc=>?_,fun q c hq=>(by cases hq),a3⟩
  obtain ⟨b1,b2,b3,b4⟩:=caE_ok (a1 c hc);have hne : c.fr≠(j : Int):=fun e=>by
   have:=cached_pos hc;rw [e] at this;exact this z2
  have he : frAt { m with fs:=m.fs.set j ⟨pg,1,u,false,-1,0⟩ } c.fr = frAt m c.fr:=by rw [frAt_set hjl _ b1.2.2.2.2.1,if_neg hne]
  exact caE_of (by simpa [bkN] using b1) (by rw [he]; exact b2) (by rw [he]; exact b3) (by rw [he]; exact b4)
 ·refine ent_set hpl rfl hT (fun q s g hs hg i hi hne=>?_) (fun s' hs'=>?_)
  ·rcases h.ent q s g hs hg i hi with e | e
   ·exact .inl e
   ·refine .inr ⟨e.1,e.2.1,entE_keep e.2.2 rfl (by simp) fun hk2=>?_⟩
    obtain ⟨c1,c2,c3,c4⟩:=entE_present e hk2;have hne : (g i).n≠(j : Int):=fun e2=>by
     have:=held_of hg hi c1;rw [e2] at this;omega
    rw [frAt_set hjl _ c2,if_neg hne];exact ⟨rfl,rfl,c4⟩
  ·rw [hs] at hs';cases hs';refine ⟨enW_of (by simp) ⟨by simp,by simp only; have:=h.fs40; omega,fun _=>by simp only; have:=h.fs40; omega⟩ (by simp),by simp,?_⟩
   have ef : frAt { m with fs:=m.fs.set j ⟨pg,1,u,false,-1,0⟩ } ((j : Nat) : Int) = ⟨pg,1,u,false,-1,0⟩:=by rw [frAt_set hjl _ (by omega),if_pos rfl]
   unfold entE;simp only;rw [if_neg (by rw [hx]; decide),if_neg (by decide),if_neg (by simp; omega),ef,if_neg]
   simp only;rintro (h4 | h4 | h4 | h4 | h4)
   ·exact h4.1 trivial
   ·rw [hsh] at h4; cases h4.1
   ·rw [hw h4.1] at h4; cases h4.2
   ·omega
   ·omega
 ·simp only at hk ⊢;have hu:=hup 1 k;rw [isE_none 1 k (by decide)] at hu
  by_cases e : k = j
  ·subst e;rw [List.getElem?_set_self hjl] at hk;cases hk;rw [isE_self] at hu;refine ⟨?_,fun h=>by simp at h⟩
   simp at hu
   simp only;omega
  ·rw [List.getElem?_set_ne (fun h=>e h.symm)] at hk
   rw [isE_other (e:=⟨1,(j : Int),w⟩) (by simp only; omega)] at hu
   have:=h.cf k g hk;refine ⟨?_,this.2⟩
   simp at hu
   omega
 ·simp only at hk ⊢;have hu:=hup 2 k;rw [isE_none 2 k (by decide),isE_kind (e:=⟨1,(j : Int),w⟩) (by simp)] at hu
  have:=h.cs k z hk
  simp at hu
  omega
theorem BInv.swap (h : BInv m T) {j p n : Nat} {b : List Int} {f : Nat→En} {s : Sp} (hj : m.sl[j]? = some 0) (hs : m.sp[p]? = some s) (hT : T[p]? = some f) (hn : n < 64) (h0 : f n = en0)
  (hx : (onAt s.ars n).is = true) (hsh : (onAt s.ars n).sh = false) :
  BInv { m with sl:=m.sl.set j 1,sb:=m.sb.set j b } (T.set p (updF f n ⟨2,j,false⟩)):=by
 have hjl:=(List.getElem?_eq_some_iff.1 hj).1;have hpl:=(List.getElem?_eq_some_iff.1 hT).1;have hup : ∀ kind k : Int,holdN (T.set p (updF f n ⟨2,j,false⟩)) kind k + (isE en0 kind k).toNat = holdN T kind k + (isE ⟨2,j,false⟩ kind k).toNat:=fun kind k=>by
  have:=hold_upd ⟨2,j,false⟩ kind k hT hn;rw [h0] at this;exact this
 refine ⟨h.fs40,h.fok,by simpa using h.sl60,by simpa using h.sbl,by simpa using h.sq,h.dok,h.st,h.cnt,h.blk,h.que,h.spl,h.spok,by simpa using h.tl,?_,?_,fun k g hk=>?_,fun k z hk=>?_⟩
 ·obtain ⟨a1,a2,a3⟩:=caGo_zero.1 h.ca;exact caGo_zero.2 ⟨fun c hc=>a1 c hc,fun q c hq=>(by cases hq),a3⟩
 ·refine ent_set hpl rfl hT (fun q s g hs hg i hi hne=>?_) (fun s' hs'=>?_)
  ·rcases h.ent q s g hs hg i hi with e | e
   ·exact .inl e
   ·refine .inr ⟨e.1,e.2.1,entE_keep e.2.2 (by simp) rfl fun hk2=>?_⟩
    obtain ⟨c1,c2,c3,c4⟩:=entE_present e hk2;exact ⟨rfl,rfl,c4⟩
  ·rw [hs] at hs';cases hs';refine ⟨enW_of (by simp) ⟨by simp,by simp only; have:=h.sl60; omega,fun h=>by simp at h⟩ (by simp),by simp,?_⟩
   unfold entE;simp only;rw [if_neg (by rw [hx]; decide),if_pos trivial,if_neg]
   rintro (h4 | h4)
   ·simp at h4; omega
   ·rw [hsh] at h4; cases h4
 ·have hu:=hup 1 k;rw [isE_none 1 k (by decide),isE_kind (e:=⟨2,(j : Int),false⟩) (by simp)] at hu
  have:=h.cf k g hk;refine ⟨?_,this.2⟩;simp only at this ⊢
  simp at hu
  omega
 ·simp only at hk ⊢;have hu:=hup 2 k;rw [isE_none 2 k (by decide)] at hu
  by_cases e : k = j
  ·subst e;rw [List.getElem?_set_self hjl] at hk;cases hk;rw [isE_self] at hu;have:=h.cs k 0 hj
   simp at hu
   omega
  ·rw [List.getElem?_set_ne (fun h=>e h.symm)] at hk
   rw [isE_other (e:=⟨2,(j : Int),false⟩) (by simp only; omega)] at hu
   have:=h.cs k z hk
   simp at hu
   omega
theorem BInv.space (h : BInv m T) {l : List Ar} (hl : (wrL l).1 = 0) (h4 : m.sp.length < 4) : BInv { m with sp:=m.sp ++ [⟨true,l,none8⟩] } (T ++ [fun _=>en0]):=by
 refine ⟨h.fs40,h.fok,h.sl60,h.sbl,h.sq,h.dok,h.st,h.cnt,h.blk,h.que,by simp; omega,fun s hs=>?_,by simpa using h.tl,?_,fun p s f hs hT n hn=>?_,fun k f hk=>?_,fun k z hk=>?_⟩
 ·rcases List.mem_append.1 hs with hs | hs
  ·exact h.spok s hs
  ·rw [List.mem_singleton] at hs;subst hs;exact ⟨hl,fun h=>by cases h⟩
 ·obtain ⟨a1,a2,a3⟩:=caGo_zero.1 h.ca;exact caGo_zero.2 ⟨fun c hc=>a1 c hc,fun q c hq=>(by cases hq),a3⟩
 ·have hp : p < m.sp.length + 1:=by
   have:=(List.getElem?_eq_some_iff.1 hs).1
   simpa using this
  by_cases e : p < m.sp.length
  ·rw [List.getElem?_append_left e] at hs;rw [List.getElem?_append_left (by rw [h.tl]; exact e)] at hT
   exact h.ent p s f hs hT n hn
  ·have : p = T.length:=by rw [h.tl]; omega
   subst this;rw [List.getElem?_append_right (Nat.le_refl _),Nat.sub_self] at hT;cases hT;exact .inl rfl
 ·rw [hold_snoc _ _ _ (by decide)]
  exact h.cf k f hk
 ·rw [hold_snoc _ _ _ (by decide)]
  exact h.cs k z hk
end
section
variable {m : Ma} {T : List (Nat→En)}
theorem isE_same {e e' : En} (h1 : e'.kind = e.kind) (h2 : e'.n = e.n) (kind k : Int) : isE e' kind k = isE e kind k:=by unfold isE; rw [h1,h2]
theorem hold_same {p n : Nat} {f : Nat→En} {e' : En} (hT : T[p]? = some f) (hn : n < 64) (h1 : e'.kind = (f n).kind) (h2 : e'.n = (f n).n) (kind k : Int) : holdN (T.set p (updF f n e')) kind k = holdN T kind k:=by
 have:=hold_upd e' kind k hT hn;rw [isE_same h1 h2] at this;omega
theorem BInv.guard (h : BInv m T) {p n : Nat} {f : Nat→En} (hT : T[p]? = some f) (hn : n < 64) (h0 : f n≠en0) : BInv m (T.set p (updF f n { f n with wr:=false })):=by
 have hpl:=(List.getElem?_eq_some_iff.1 hT).1;have hh:=hold_same (e':={ f n with wr:=false }) hT hn rfl rfl;refine ⟨h.fs40,h.fok,h.sl60,h.sbl,h.sq,h.dok,h.st,h.cnt,h.blk,h.que,h.spl,h.spok,by simpa using h.tl,h.ca,?_,fun k g hk=>?_,fun k z hk=>?_⟩
 ·refine ent_set hpl rfl hT (fun q s g hs hg j hj _=>h.ent q s g hs hg j hj) (fun s hs=>?_)
  rcases h.ent p s f hs hT n hn with e | e
  ·exact absurd e h0
  ·obtain ⟨e1,e2,e3⟩:=e;obtain ⟨a1,a2,a3⟩:=enW_zero e1;refine ⟨enW_of a1 a2 ?_,e2,?_⟩
   ·rintro (⟨g1,g2⟩ | ⟨g1,g2⟩)
    ·exact e2 g1
    ·simp at g2
   ·unfold entE at e3 ⊢;simp only at e3 ⊢
    by_cases c0 : (onAt s.ars n).is = false
    ·rw [if_pos c0] at e3; cases e3
    ·rw [if_neg c0] at e3 ⊢
     by_cases c1 : (f n).kind = 2
     ·rw [if_pos c1] at e3 ⊢; exact e3
     ·rw [if_neg c1] at e3 ⊢
      by_cases c2 : (m.fs.length : Int)≤(f n).n
      ·rw [if_pos c2] at e3; cases e3
      ·rw [if_neg c2] at e3 ⊢
       split at e3
       ·cases e3
       ·rename_i hx
        rw [if_neg];rintro (h4 | h4 | h4 | h4 | h4)
        ·exact hx (.inl h4)
        ·exact hx (.inr (.inl h4))
        ·simp at h4
        ·simp at h4
        ·simp at h4
 ·rw [hh]; exact h.cf k g hk
 ·rw [hh]; exact h.cs k z hk
theorem BInv.share (h : BInv m T) {p q n k : Nat} {fr : Fr} {f g : Nat→En} {s : Sp} {e : En} (hk : m.fs[k]? = some fr) (hp : T[p]? = some f) (hpn : f n = e) (hq : T[q]? = some g) (hpq : p≠q) (hn : n < 64) (h0 : g n = en0) (hs : m.sp[q]? = some s)
  (he : EntOk m (onAt s.ars n) e) (hek : e.kind = 1) (hen : e.n = (k : Int)) (hnm : e.wr = true→fr.f≠-1) :
  BInv { m with fs:=m.fs.set k { fr with r:=fr.r + 1 } } (T.set q (updF g n e)):=by
 have hkl:=(List.getElem?_eq_some_iff.1 hk).1;have hql:=(List.getElem?_eq_some_iff.1 hq).1;have hsh:=h.fok fr (List.mem_of_getElem? hk);have hpos : 1≤holdN T 1 k:=by
  have:=held_of hp hn (by rw [hpn]; exact hek)
  rw [hpn,hen] at this;exact this
 have hfr:=h.cf k fr hk;have hup : ∀ kind j : Int,holdN (T.set q (updF g n e)) kind j + (isE en0 kind j).toNat = holdN T kind j + (isE e kind j).toNat:=fun kind j=>by
  have:=hold_upd e kind j hq hn;rw [h0] at this;exact this
 refine ⟨by simpa using h.fs40,fun x hx=>?_,h.sl60,h.sbl,h.sq,h.dok,h.st,h.cnt,h.blk,h.que,h.spl,h.spok,by simpa using h.tl,?_,?_,fun j x hj=>?_,fun j z hj=>?_⟩
 ·rcases List.mem_or_eq_of_mem_set hx with hx | rfl
  ·exact h.fok x hx
  ·obtain ⟨c1,c2,c3,c4,c5⟩:=hsh;exact ⟨by simp only; omega,c2,c3,fun h=>by simp only at h; omega,c5⟩
 ·obtain ⟨a1,a2,a3⟩:=caGo_zero.1 h.ca;refine caGo_zero.2 ⟨fun c hc=>?_,fun q c hq=>(by cases hq),a3⟩
  obtain ⟨b1,b2,b3,b4⟩:=caE_ok (a1 c hc);have hf:=frAt_set (f:={ fr with r:=fr.r + 1 }) hkl c.fr b1.2.2.2.2.1
  by_cases ec : c.fr = (k : Int)
  ·rw [if_pos ec] at hf;rw [ec,frAt_of hk] at b2 b3 b4;refine caE_of (by simpa [bkN] using b1) ?_ ?_ ?_ <;> rw [hf]
   ·have:=hsh.1;simp only;omega
   ·exact b3
   ·exact b4
  ·rw [if_neg ec] at hf;exact caE_of (by simpa [bkN] using b1) (by rw [hf]; exact b2) (by rw [hf]; exact b3) (by rw [hf]; exact b4)
 ·have keep : ∀ (x : On) (e2 : En),EntOk m x e2→(e2.kind≠2→e2.n = (k : Int)→e2.wr = true→fr.f≠-1)→EntOk { m with fs:=m.fs.set k { fr with r:=fr.r + 1 } } x e2:=fun x e2 h2 hm=>by
   refine ⟨h2.1,h2.2.1,entE_keep h2.2.2 rfl (by simp) fun hk2=>?_⟩
   obtain ⟨c1,c2,c3,c4⟩:=entE_present h2 hk2;rw [frAt_set hkl _ c2]
   by_cases ec : e2.n = (k : Int)
   ·rw [if_pos ec,ec,frAt_of hk];exact ⟨rfl,rfl,fun g1 g2=>absurd g2 (hm hk2 ec g1)⟩
   ·rw [if_neg ec];exact ⟨rfl,rfl,c4⟩
  refine ent_set hql rfl hq (fun q2 s2 g2 hs2 hg2 j hj hne=>?_) (fun s' hs'=>?_)
  ·rcases h.ent q2 s2 g2 hs2 hg2 j hj with e2 | e2
   ·exact .inl e2
   ·refine .inr (keep _ _ e2 fun hk2 hz hw=>?_)
    obtain ⟨c1,c2,c3,c4⟩:=entE_present e2 hk2
    by_cases same : q2 = p∧j = n
    ·obtain ⟨rfl,rfl⟩:=same;rw [hp] at hg2;cases hg2;rw [hpn] at hw;exact hnm hw
    ·intro hf1;have h2:=hold_two hp hn (kind:=1) (k:=(k : Int)) (by rw [hpn]; simp [isE,hek,hen]) hg2 hj (by simp [isE,c1,hz]) (by
      by_cases e3 : p = q2
      ·right;intro e4;exact same ⟨e3.symm,e4.symm⟩
      ·exact .inl e3) (by decide)
     have h3:=c4 hw (by rw [hz,frAt_of hk]; exact hf1)
     rw [hz,frAt_of hk] at h3;omega
  ·rw [hs] at hs';cases hs';exact keep _ _ he fun _ _ hw=>hnm hw
 ·simp only at hj ⊢;have hu:=hup 1 j;rw [isE_none 1 j (by decide)] at hu
  by_cases ej : j = k
  ·subst ej;rw [List.getElem?_set_self hkl] at hj;cases hj;have : isE e 1 (j : Int) = true:=by simp [isE,hek,hen]
   rw [this] at hu;refine ⟨?_,hfr.2⟩
   simp at hu
   simp only;omega
  ·rw [List.getElem?_set_ne (fun h=>ej h.symm)] at hj
   rw [isE_other (by rw [hen]; omega)] at hu
   have:=h.cf j x hj;refine ⟨?_,this.2⟩
   simp at hu
   omega
 ·simp only at hj ⊢;have hu:=hup 2 j;rw [isE_none 2 j (by decide),isE_kind (by rw [hek]; decide)] at hu
  have:=h.cs j z hj
  simp at hu
  omega
theorem BInv.shareS (h : BInv m T) {q n k : Nat} {z : Int} {g : Nat→En} {s : Sp} {e : En} (hk : m.sl[k]? = some z) (hq : T[q]? = some g) (hn : n < 64) (h0 : g n = en0) (hs : m.sp[q]? = some s)
  (he : EntOk m (onAt s.ars n) e) (hek : e.kind = 2) (hen : e.n = (k : Int)) :
  BInv { m with sl:=m.sl.set k (z + 1) } (T.set q (updF g n e)):=by
 have hkl:=(List.getElem?_eq_some_iff.1 hk).1;have hql:=(List.getElem?_eq_some_iff.1 hq).1;have hup : ∀ kind j : Int,holdN (T.set q (updF g n e)) kind j + (isE en0 kind j).toNat = holdN T kind j + (isE e kind j).toNat:=fun kind j=>by
  have:=hold_upd e kind j hq hn;rw [h0] at this;exact this
 refine ⟨h.fs40,h.fok,by simpa using h.sl60,by simpa using h.sbl,h.sq,h.dok,h.st,h.cnt,h.blk,h.que,h.spl,h.spok,by simpa using h.tl,?_,?_,fun j x hj=>?_,fun j x hj=>?_⟩
 ·obtain ⟨a1,a2,a3⟩:=caGo_zero.1 h.ca;exact caGo_zero.2 ⟨fun c hc=>a1 c hc,fun q c hq=>(by cases hq),a3⟩
 ·have keep : ∀ (x : On) (e2 : En),EntOk m x e2→EntOk { m with sl:=m.sl.set k (z + 1) } x e2:=fun x e2 h2=>by
   refine ⟨h2.1,h2.2.1,entE_keep h2.2.2 (by simp) rfl fun hk2=>?_⟩
   obtain ⟨c1,c2,c3,c4⟩:=entE_present h2 hk2;exact ⟨rfl,rfl,c4⟩
  refine ent_set hql rfl hq (fun q2 s2 g2 hs2 hg2 j hj hne=>(h.ent q2 s2 g2 hs2 hg2 j hj).imp id (keep _ _)) (fun s' hs'=>?_)
  rw [hs] at hs';cases hs';exact keep _ _ he
 ·have hu:=hup 1 j;rw [isE_none 1 j (by decide),isE_kind (by rw [hek]; decide)] at hu
  have:=h.cf j x hj;refine ⟨?_,this.2⟩;simp only at this ⊢
  simp at hu
  omega
 ·simp only at hj ⊢;have hu:=hup 2 j;rw [isE_none 2 j (by decide)] at hu
  by_cases ej : j = k
  ·subst ej;rw [List.getElem?_set_self hkl] at hj;cases hj;have : isE e 2 (j : Int) = true:=by simp [isE,hek,hen]
   rw [this] at hu;have:=h.cs j z hk
   simp at hu
   omega
  ·rw [List.getElem?_set_ne (fun h=>ej h.symm)] at hj
   rw [isE_other (by rw [hen]; omega)] at hu
   have:=h.cs j x hj
   simp at hu
   omega
end
structure FInv (fl : List Fl) (cnt : Int) (db : List (List Int)) (dq : List (Int × List Int)) (bl : List Int) : Prop where
 st : stW fl cnt = 0
 cn : cnt = (db.length : Int)
 ql : dq.length≤(allB fl).length + bl.length
 blok : ∀ b∈bl,b = -1∨(0≤b∧b < cnt)
 nod : (real (allB fl ++ bl)).Nodup
 blk : ∀ b : Nat,b < db.length→usedB fl (b : Int) = false→(b : Int) ∉ bl→db[b]? = some zero8
 que : ∀ q∈dq,(0≤q.1∧q.1 < cnt)∧(usedB fl q.1 = true∨q.1∈bl)
theorem FInv.none {fl : List Fl} {cnt : Int} {db : List (List Int)} {dq : List (Int × List Int)} {bl : List Int} (h : FInv fl cnt db dq bl) : FInv fl cnt db dq (bl ++ [-1]):=by
 refine ⟨h.st,h.cn,by have:=h.ql; simp; omega,fun b hb=>?_,?_,fun b hb hu hn=>h.blk b hb hu (fun h2=>hn (by simp [h2])),fun q hq=>⟨(h.que q hq).1,(h.que q hq).2.imp id (fun h=>by simp [h])⟩⟩
 ·rcases List.mem_append.1 hb with hb | hb
  ·exact h.blok b hb
  ·left; simpa using hb
 ·have : real (allB fl ++ (bl ++ [-1])) = real (allB fl ++ bl):=by simp [real]
  rw [this];exact h.nod
theorem FInv.block {fl : List Fl} {cnt : Int} {db : List (List Int)} {dq : List (Int × List Int)} {bl : List Int} (h : FInv fl cnt db dq bl) {b : Nat} {p : List Int} {more : Bool} (hb : b < db.length) (hu : usedB fl (b : Int) = false) (hn : (b : Int) ∉ bl) :
  FInv fl cnt (db.set b p) (if more then dq ++ [((b : Int),p)] else dq) (bl ++ [(b : Int)]):=by
 refine ⟨h.st,by simpa using h.cn,?_,fun x hx=>?_,?_,fun x hx hux hnx=>?_,fun q hq=>?_⟩
 ·have:=h.ql
  cases more <;> simp <;> omega
 ·rcases List.mem_append.1 hx with hx | hx
  ·exact h.blok x hx
  ·right;have : x = (b : Int):=by simpa using hx
   have:=h.cn;omega
 ·have e : real (allB fl ++ (bl ++ [(b : Int)])) = real (allB fl ++ bl) ++ [(b : Int)]:=by
   unfold real;rw [←List.append_assoc,List.filter_append]
   congr 1
  rw [e,List.nodup_append];refine ⟨h.nod,by simp,fun x hx y hy=>?_⟩
  have hy' : y = (b : Int):=by simpa using hy
  subst hy';intro exy;subst exy;unfold real at hx;rw [List.mem_filter,List.mem_append] at hx
  rcases hx.1 with h1 | h1
  ·rw [(used_iff fl (b : Int)).2 h1] at hu; cases hu
  ·exact hn h1
 ·have hne : b≠x:=fun e=>hnx (by simp [e])
  rw [List.getElem?_set_ne hne];exact h.blk x (by simpa using hx) hux (fun h2=>hnx (by simp [h2]))
 ·have old : q∈dq→(0≤q.1∧q.1 < cnt)∧(usedB fl q.1 = true∨q.1∈bl ++ [(b : Int)]):=fun hq=>⟨(h.que q hq).1,(h.que q hq).2.imp id (fun h=>by simp [h])⟩
  cases more with
  | false=>exact old (by simpa using hq)
  | true =>
   rw [if_pos rfl] at hq
   rcases List.mem_append.1 hq with hq | hq
   ·exact old hq
   ·have : q = ((b : Int),p):=by simpa using hq
    subst this;have:=h.cn;exact ⟨by simp only; omega,.inr (by simp)⟩
theorem FInv.file {fl : List Fl} {cnt : Int} {db : List (List Int)} {dq : List (Int × List Int)} {bl : List Int} (h : FInv fl cnt db dq bl) {size : Int} (h5 : fl.length < 5) (hs : 0≤size∧size≤96) (hl : (bl.length : Int) = cntP size) : FInv (fl ++ [⟨size,bl⟩]) cnt db dq []:=by
 have ha : allB (fl ++ [⟨size,bl⟩]) = allB fl ++ bl:=by simp [allB]
 have hu : ∀ b,usedB (fl ++ [⟨size,bl⟩]) b = true↔usedB fl b = true∨b∈bl:=fun b=>by rw [used_iff,ha,List.mem_append,←used_iff]
 obtain ⟨⟨a1,a2,a3⟩,a4,a5⟩:=(stW_zero fl cnt).1 h.st;refine ⟨(stW_zero _ _).2 ⟨⟨by simp; omega,a2,a3⟩,fun f hf=>?_,by rw [ha]; exact h.nod⟩,h.cn,by rw [ha]; simpa using h.ql,by simp,by rw [ha]; simpa using h.nod,fun b hb hub _=>?_,fun q hq=>⟨(h.que q hq).1,.inl ((hu _).2 (h.que q hq).2)⟩⟩
 ·rcases List.mem_append.1 hf with hf | hf
  ·exact a4 f hf
  ·rw [List.mem_singleton] at hf;subst hf;exact ⟨hs,hl,h.blok⟩
 ·refine h.blk b hb ?_ ?_
  ·cases e : usedB fl (b : Int) with
   | false=>rfl
   | true=>rw [(hu _).2 (.inl e)] at hub; cases hub
  ·intro e;rw [(hu _).2 (.inr e)] at hub;cases hub
theorem FInv.zero {n : Nat} (h : n≤80) : FInv [] (n : Int) (List.replicate n zero8) [] []:=by
 refine ⟨(stW_zero _ _).2 ⟨⟨by simp,by omega,by omega⟩,by simp,by simp [allB,real]⟩,by simp,by simp,by simp,by simp [allB,real],fun b hb _ _=>?_,by simp⟩
 rw [List.getElem?_replicate,if_pos (by simpa using hb)]
theorem allB_len {cnt : Int} : ∀ {fl : List Fl},(∀ f∈fl,FlOk cnt f)→(allB fl).length≤12 * fl.length
 | [],_=>by simp [allB]
 | f :: fl,h=>by
  have h1:=allB_len (fl:=fl) fun g hg=>h g (by simp [hg])
  obtain ⟨b1,b2,b3⟩:=h f (by simp)
  unfold cntP at b2;simp only [allB,List.flatMap_cons,List.length_append,List.length_cons] at h1 ⊢
  split at b2 <;> omega
theorem FInv.start {fl : List Fl} {cnt : Int} {db : List (List Int)} {dq : List (Int × List Int)} (h : FInv fl cnt db dq []) {n k : Nat} (hn : n≤40) (hk : k≤60) (hd : Int) : BInv ⟨List.replicate n frF,hd,List.replicate k 0,List.replicate k zero8,[],db,dq,fl,cnt,[],[]⟩ []:=by
 obtain ⟨⟨a1,a2,a3⟩,a4,a5⟩:=(stW_zero fl cnt).1 h.st;refine ⟨by simpa using hn,fun f hf=>?_,by simpa using hk,by simp,?_,?_,h.st,h.cn,fun b hb hu=>h.blk b hb hu (by simp),fun q hq=>?_,by simp,by simp,rfl,rfl,fun p s f hs=>by simp at hs,fun j f hj=>?_,fun j z hj=>?_⟩
 ·have:=(List.mem_replicate.1 hf).2;subst this;exact ⟨by decide,by decide,.inl rfl,fun _=>rfl,fun _=>rfl⟩
 ·show wrongL (List.replicate k zero8).length [] = 0
  unfold wrongL;rw [if_neg (by simp; omega),if_neg (by simp)]
  rfl
 ·show wrongL db.length dq = 0
  have h1:=allB_len a4;have h2:=h.ql;have h3:=h.cn;unfold wrongL;rw [if_neg (by omega),if_neg (by simp at h2; omega),if_neg]
  rw [List.any_eq_true];rintro ⟨q,hq,hb⟩;have:=(h.que q hq).1;unfold dkInB at hb
  simp at hb
  omega
 ·exact (h.que q hq).2.resolve_right (by simp)
 ·simp only at hj;rw [List.getElem?_replicate] at hj
  split at hj
  ·cases hj;exact ⟨rfl,fun h=>by simp [frF] at h⟩
  ·cases hj
 ·simp only at hj;rw [List.getElem?_replicate] at hj
  split at hj
  ·cases hj; rfl
  ·cases hj
def pgL (p : Pg) : List Int:=[p.b0,p.b1,p.b2,p.b3,p.b4,p.b5,p.b6,p.b7]
def cutP (p : List Int) (idx size : Int) : List Int:=p.mapIdx fun i z=>if size≤8 * idx + (i : Int) then 0 else z
def blAt (m : Ma) (file idx : Int) : Int:=(m.fl.getD file.toNat ⟨0,[]⟩).bl.getD idx.toNat 0
def szAt (m : Ma) (file : Int) : Int:=(m.fl.getD file.toNat ⟨0,[]⟩).size
def hitC (file idx : Int) (c : Ca) : Bool:=decide (c.file = file) && decide (c.idx = idx)
def contL (m : Ma) (file idx : Int) : List Int :=
 match m.ca.find? (hitC file idx) with
 | some c=>pgL (frAt m c.fr).p
 | none=>if blAt m file idx < 0 then zero8 else cutP (readL m.db m.dq (blAt m file idx)) idx (szAt m file)
def FilesIn (nf : Nat) (l : List Ar) : Prop:=∀ k : Nat,k < 64→(onAt l k).is = true→(onAt l k).file < (nf : Int)
theorem filesIn_nil (nf : Nat) : FilesIn nf []:=fun k _ h=>by cases h
theorem filesIn_map {nf : Nat} {l : List Ar} {a : Ar} (hl : FilesIn nf l) (ha : a.file < (nf : Int)) (h : (mapA l a).2 = 0) : FilesIn nf (mapA l a).1:=by
 obtain ⟨h1,h2,h3,h4,h5⟩:=mapA_ok h;have hg:=mapF_good (wrL_zero.1 h1).2 (arW_zero.1 h2);intro k hk his;rw [h5,joinL_at hg hk] at his ⊢;unfold mapF at his ⊢
 by_cases e : arIn a k = true
 ·rw [if_pos e];exact ha
 ·rw [if_neg e] at his ⊢;exact hl k hk his
theorem map_wr {l : List Ar} {a : Ar} (h : (mapA l a).2 = 0) : (wrL (mapA l a).1).1 = 0:=by
 obtain ⟨h1,h2,h3,h4,h5⟩:=mapA_ok h;rw [h5];exact wr_of (mapF_good (wrL_zero.1 h1).2 (arW_zero.1 h2)) h4
theorem firstE_at {α : Type} {f : α→Int} : ∀ {l : List α} {k : Nat} {q : α},l[k]? = some q→(∀ (j : Nat) x,j < k→l[j]? = some x→f x = 0)→f q≠0→firstE (l.map f) = f q
 | [],k,q,h,_,_=>by simp at h
 | a :: l,0,q,h,_,hn=>by
  simp at h
  subst h;simp only [List.map_cons,firstE];rw [if_neg hn]
 | a :: l,k + 1,q,h,hb,hn=>by
  simp only [List.map_cons,firstE];rw [if_pos (hb 0 a (by omega) rfl)]
  exact firstE_at (by simpa using h) (fun j x hj hx=>hb (j + 1) x (by omega) (by simpa using hx)) hn
theorem firstE_all {α : Type} {f : α→Int} {l : List α} (hb : ∀ (j : Nat) x,l[j]? = some x→f x = 0) : firstE (l.map f) = 0:=by
 rw [firstE_zero];intro e he;obtain ⟨x,hx,rfl⟩:=List.mem_map.1 he;obtain ⟨j,hj⟩:=List.getElem?_of_mem hx;exact hb j x hj
theorem firstE_range {f : Nat→Int} {n k : Nat} (hk : k < n) (hb : ∀ j,j < k→f j = 0) (hn : f k≠0) : firstE ((List.range n).map f) = f k :=
 firstE_at (List.getElem?_range hk) (fun j x hj hx=>by
  rw [List.getElem?_range (by omega)] at hx
  cases hx;exact hb j hj) hn
theorem firstE_range_all {f : Nat→Int} {n : Nat} (hb : ∀ j,j < n→f j = 0) : firstE ((List.range n).map f) = 0 :=
 firstE_all fun j x hx=>by
  have hj:=(List.getElem?_eq_some_iff.1 hx).1;rw [List.getElem?_range (by simpa using hj)] at hx
  cases hx;exact hb j (by simpa using hj)
theorem firstE_filter {α : Type} {p : α→Bool} {g : α→Int} : ∀ (l : List α),firstE (l.map fun x=>if p x = true then g x else 0) = firstE ((l.filter p).map g)
 | []=>rfl
 | a :: l=>by
  simp only [List.map_cons,firstE]
  by_cases h : p a = true
  ·rw [if_pos h,List.filter_cons_of_pos h];simp only [List.map_cons,firstE];rw [firstE_filter l]
  ·rw [if_neg h,if_pos rfl,List.filter_cons_of_neg h,firstE_filter l]
theorem firstE_cons (a : Int) (l : List Int) : firstE (a :: l) = if a = 0 then firstE l else a:=rfl
theorem firstE_nil : firstE [] = 0:=rfl
def wPartsL (m : Ma) : List Int:=[memW m.fs m.hand,slW m.sl,wrongL m.sb.length m.sq,wrongL m.db.length m.dq,stW m.fl m.cnt]
def wDisksL (m : Ma) : List Int:=[fitE m,blockE m,queueE m]
def wSpaces (m : Ma) : Int:=if 4 < m.sp.length then 4 else firstE (m.sp.map spE)
def wCounts (m : Ma) : Int:=if firstE ((List.range m.fs.length).map (frE m)) = 0 then firstE ((List.range m.sl.length).map (sloE m)) else firstE ((List.range m.fs.length).map (frE m))
def wPages (m : Ma) : Int:=firstE (m.sp.map (spEnt m))
def wCache (m : Ma) : Int:=caGo m none m.ca
theorem firstE_app (l k : List Int) : firstE (l ++ k) = if firstE l = 0 then firstE k else firstE l:=by
 induction l with
 | nil=>simp [firstE]
 | cons a l ih =>
  by_cases h : a = 0
  ·have h1 : firstE (a :: l) = firstE l:=by rw [firstE_cons,if_pos h]
   have h2 : firstE (a :: l ++ k) = firstE (l ++ k):=by rw [List.cons_append,firstE_cons,if_pos h]
   rw [h1,h2,ih]
  ·have h1 : firstE (a :: l) = a:=by rw [firstE_cons,if_neg h]
   have h2 : firstE (a :: l ++ k) = a:=by rw [List.cons_append,firstE_cons,if_neg h]
   rw [h1,h2,if_neg h]
theorem maW_six (m : Ma) : maW m = firstE [firstE (wPartsL m),firstE (wDisksL m),wSpaces m,wCache m,wPages m,wCounts m]:=by
 have hp : partE m = if firstE (wPartsL m) = 0 then (if firstE (wDisksL m) = 0 then wSpaces m else firstE (wDisksL m)) else firstE (wPartsL m):=by
  have : partE m = firstE (wPartsL m ++ (wDisksL m ++ [if 4 < m.sp.length then 4 else 0,firstE (m.sp.map spE)])):=rfl;rw [this,firstE_app,firstE_app]
  congr 1
  congr 1
  unfold wSpaces;rw [firstE_cons,firstE_cons,firstE_nil]
  split <;> simp_all
 unfold maW;simp only [firstE_cons,firstE_nil,hp];unfold wCounts wPages wCache
 by_cases h1 : firstE (wPartsL m) = 0 <;> by_cases h2 : firstE (wDisksL m) = 0 <;> by_cases h3 : wSpaces m = 0 <;> simp only [h1,h2,h3,if_true,if_false] <;> (by_cases h4 : firstE ((List.range m.fs.length).map (frE m)) = 0 <;> by_cases h5 : firstE ((List.range m.sl.length).map (sloE m)) = 0 <;> simp [h4,h5])
structure Right1 (m : Ma) : Prop where
 mem : memW m.fs m.hand = 0
 sl : slW m.sl = 0
 sq : wrongL m.sb.length m.sq = 0
 dq : wrongL m.db.length m.dq = 0
 st : stW m.fl m.cnt = 0
theorem right1 {m : Ma} : firstE (wPartsL m) = 0↔Right1 m:=by
 rw [firstE_zero];unfold wPartsL;constructor
 ·intro h;exact ⟨h _ (by simp),h _ (by simp),h _ (by simp),h _ (by simp),h _ (by simp)⟩
 ·intro h e he;simp only [List.mem_cons,List.not_mem_nil,or_false] at he
  rcases he with rfl | rfl | rfl | rfl | rfl
  ·exact h.mem
  ·exact h.sl
  ·exact h.sq
  ·exact h.dq
  ·exact h.st
theorem onAt_uniq {n : Nat} : ∀ {l : List Ar} {p : Option Ar} {k : Nat} {a : Ar},CanP p l→l[k]? = some a→arIn a n = true→onAt l n = oneOf a n
 | [],_,_,_,_,h,_=>by simp at h
 | b :: l,p,0,a,_,h,hin=>by
  simp at h
  subst h;rw [arIn_iff] at hin;exact onAt_in hin.1 hin.2
 | b :: l,p,k + 1,a,hc,h,hin=>by
  have h' : l[k]? = some a:=by simpa using h
  have ih:=onAt_uniq hc.2.2 h' hin
  by_cases hb : (n : Int) < b.tz
  ·have:=hc.2.2.low rfl hb;rw [this] at ih;exact (on_ne ih.symm).elim
  ·rw [onAt_out (.inr (by omega))]
   exact ih
def pagesN (s : Sp) : List Nat:=(List.range 64).filter fun n=>enS (flatN s n)
theorem spEnt_pages (m : Ma) (s : Sp) : spEnt m s = firstE ((pagesN s).map fun n=>entE m (onAt s.ars n) (flatN s n)):=by
 unfold spEnt pagesN;rw [←firstE_filter]
 congr 1
 apply List.map_congr_left
 intro n _
 by_cases h : (flatN s n).kind = 0
 ·simp [enS,h]
 ·simp [enS,h]
theorem pagesN_empty {s : Sp} (ht : tbW s.tb = 0) (hl : s.tb.length = 8) : pagesN s = []↔s.tb.all (·.isEmpty) = true:=by
 unfold pagesN;rw [List.filter_eq_nil_iff,List.all_eq_true];constructor
 ·intro h x hx;obtain ⟨i,hi⟩:=List.getElem?_of_mem hx;have hi8 : i < 8:=by rw [←hl]; exact (List.getElem?_eq_some_iff.1 hi).1
  rcases tbW_zero.1 ht x hx with h0 | ⟨h1,h2,h3⟩
  ·rw [h0]; rfl
  ·exfalso;unfold anyS at h3;rw [List.any_eq_true] at h3;obtain ⟨e,he,hs⟩:=h3;obtain ⟨j,hj⟩:=List.getElem?_of_mem he;have hj8 : j < 8:=by rw [←h1]; exact (List.getElem?_eq_some_iff.1 hj).1
   refine h (8 * i + j) (List.mem_range.2 (by omega)) ?_
   unfold flatN getN;rw [show (8 * i + j) / 8 = i by omega,show (8 * i + j) % 8 = j by omega,hi]
   simp only [Option.getD_some];rw [hj];exact hs
 ·intro h n hn;rw [List.mem_range] at hn;unfold flatN getN
  cases e : s.tb[n / 8]? with
  | none=>simp [enS,en0]
  | some x =>
   have:=h x (List.mem_of_getElem? e);have : x = []:=by simpa using this
   subst this
   simp [enS,en0]
def mayHaveB (f : Fr) (a : Ar) (n : Nat) : Bool:=if f.f < 0 then !a.sh else f.f == a.file && f.x == a.base + (n : Int) - a.fr
def mayWriteB (f : Fr) (a : Ar) : Bool:=a.wr && (if f.f < 0 then decide (f.r≤1) else a.sh)
def wEntry (m : Ma) (a : Ar) (n : Nat) (e : En) : Int :=
 if e.kind = 2 then (if (m.sl.length : Int)≤e.n∨a.sh = true then 7 else 0)
 else if (m.fs.length : Int)≤e.n then 3
 else if mayHaveB (frAt m e.n) a n = false∨(e.wr = true∧mayWriteB (frAt m e.n) a = false) then 7 else 0
theorem frAt_ok {m : Ma} (hm : memW m.fs m.hand = 0) (k : Int) : (frAt m k).f = -1∨(0≤(frAt m k).f∧(frAt m k).f < 5):=by
 unfold frAt;rw [List.getD_eq_getElem?_getD]
 cases h : m.fs[k.toNat]? with
 | none=>left; rfl
 | some f =>
  have hfs : frsW m.fs = 0:=by
   unfold memW at hm
   split at hm
   ·cases hm
   ·split at hm
    ·rename_i h; exact h
    ·rename_i h; exact absurd hm h
  have hf:=frsW_zero.1 hfs f (List.mem_of_getElem? h);simp only [Option.getD_some];unfold frW at hf
  split at hf
  ·cases hf
  ·split at hf
   ·cases hf
   ·rename_i a
    by_cases e : f.f = -1
    ·exact .inl e
    ·right
     cases e2 : inB f.f 5 with
     | false=>simp [e,e2] at a
     | true=>simpa [inB] using e2
theorem wEntry_eq {m : Ma} {a : Ar} {n : Nat} {e : En} (hm : memW m.fs m.hand = 0) (ha : ArOk a) : entE m (oneOf a n) e = wEntry m a n e:=by
 unfold entE wEntry;rw [if_neg (by simp [oneOf])]
 by_cases hk : e.kind = 2
 ·rw [if_pos hk,if_pos hk];rfl
 ·rw [if_neg hk,if_neg hk]
  by_cases hr : (m.fs.length : Int)≤e.n
  ·rw [if_pos hr,if_pos hr]
  ·rw [if_neg hr,if_neg hr];have hf:=frAt_ok hm e.n;obtain ⟨f,hfe⟩ : ∃ f,frAt m e.n = f:=⟨_,rfl⟩;rw [hfe] at hf ⊢;unfold mayHaveB mayWriteB oneOf;simp only;obtain ⟨h1,h2,h3,h4,h5,h6,h7,h8⟩:=ha
   rcases hf with hf | hf
   ·rw [hf];have hno : ¬ (0≤a.file∧(-1 : Int) = a.file∧f.x = if 0≤a.file then a.base + ((n : Int) - a.fr) else 0):=by omega
    simp only [hno]
    cases hw : e.wr <;> cases hs : a.sh <;> cases ht : a.wr <;> simp
   ·have hn1 : ¬ f.f = -1:=by omega
    have hn2 : ¬ f.f < 0:=by omega
    rw [if_neg hn2,if_neg hn2]
    by_cases hi : f.f = a.file∧f.x = a.base + (n : Int) - a.fr
    ·have hits : 0≤a.file∧f.f = a.file∧f.x = (if 0≤a.file then a.base + ((n : Int) - a.fr) else 0):=by
      rw [if_pos (by omega)]
      omega
     have hb : (f.f == a.file && f.x == a.base + (n : Int) - a.fr) = true:=by simp [hi.1,hi.2]
     rw [hb];simp only [hits]
     cases hw : e.wr <;> cases hs : a.sh <;> cases ht : a.wr <;> simp <;> (intro; omega)
    ·have hits : ¬ (0≤a.file∧f.f = a.file∧f.x = (if 0≤a.file then a.base + ((n : Int) - a.fr) else 0)):=by
      rintro ⟨g1,g2,g3⟩;rw [if_pos g1] at g3;exact hi ⟨g2,by omega⟩
     have hb : (f.f == a.file && f.x == a.base + (n : Int) - a.fr) = false:=by
      cases h : (f.f == a.file && f.x == a.base + (n : Int) - a.fr) with
      | false=>rfl
      | true=>simp at h; exact absurd h hi
     rw [hb,if_pos (.inl ⟨hn1,hits⟩),if_pos (.inl rfl)]
def aheadB (c d : Ca) : Bool:=decide (c.file < d.file) || (c.file == d.file && decide (c.idx < d.idx))
theorem ahead_key {c d : Ca} (h1 : 0≤c.idx∧c.idx < 100) (h2 : 0≤d.idx∧d.idx < 100) : aheadB c d = decide (¬ keyC d≤keyC c):=by
 unfold aheadB keyC;rw [Bool.eq_iff_iff];simp;omega
theorem caE_idx {m : Ma} {p : Option Ca} {c : Ca} (hst : stW m.fl m.cnt = 0) (h : caE m p c = 0) : 0≤c.idx∧c.idx < 100:=by
 unfold caE at h
 split at h
 ·cases h
 ·rename_i a
  have hb : bkN m c.file≤12:=by
   unfold bkN;rw [List.getD_eq_getElem?_getD]
   cases e : m.fl[c.file.toNat]? with
   | none=>simp
   | some f =>
    have:=((stW_zero _ _).1 hst).2.1 f (List.mem_of_getElem? e);simp only [Option.getD_some];have h12:=cntP_nat this.1.1 this.1.2;rw [this.2.1];exact h12.2
  omega
theorem cnt_count (f : Nat→En) (kind k : Int) : ∀ m : Nat,cntTo f kind k m = (List.range m).countP fun n=>isE (f n) kind k
 | 0=>rfl
 | m + 1=>by
  unfold cntTo;rw [cnt_count f kind k m,List.range_succ,List.countP_append]
  cases h : isE (f m) kind k <;> simp [h]
theorem cnt_pages (s : Sp) {kind k : Int} (hk : kind≠0) : cntTo (flatN s) kind k 64 = (pagesN s).countP fun n=>isE (flatN s n) kind k:=by
 rw [cnt_count];unfold pagesN;rw [List.countP_filter]
 apply List.countP_congr
 intro n _;constructor
 ·intro h;rw [Bool.and_eq_true];refine ⟨h,?_⟩;unfold isE at h;rw [Bool.and_eq_true] at h;have : (flatN s n).kind = kind:=by simpa using h.1
  simp [enS,this,hk]
 ·intro h;rw [Bool.and_eq_true] at h;exact h.1
def heldTo (m : Ma) (i : Nat) (l : List Nat) (s : Sp) (key : Int × Int) : Int :=
 ((if key.1 = 1 then (cachedN m.ca key.2 : Nat) else 0 : Nat) : Int) + ((((m.sp.take i).map fun s=>(pagesN s).countP fun n=>isE (flatN s n) key.1 key.2).sum : Nat) : Int) + ((l.countP fun n=>isE (flatN s n) key.1 key.2 : Nat) : Int)
theorem held_page (m : Ma) (i : Nat) (l : List Nat) (s : Sp) (n : Nat) (key : Int × Int) : heldTo m i (l ++ [n]) s key = heldTo m i l s key + (if key = ((flatN s n).kind,(flatN s n).n) then 1 else 0):=by
 unfold heldTo;rw [List.countP_append]
 by_cases h : key = ((flatN s n).kind,(flatN s n).n)
 ·subst h;have : isE (flatN s n) (flatN s n).kind (flatN s n).n = true:=by simp [isE]
  simp [this]
  omega
 ·rw [if_neg h];have : isE (flatN s n) key.1 key.2 = false:=by
   cases h' : isE (flatN s n) key.1 key.2 with
   | false=>rfl
   | true =>
    unfold isE at h'
    simp at h'
    exact absurd (Prod.ext h'.1.symm h'.2.symm) h
  simp [this]
theorem held_next (m : Ma) (i : Nat) (s s' : Sp) (hs : m.sp[i]? = some s) (key : Int × Int) : heldTo m i (pagesN s) s key = heldTo m (i + 1) [] s' key:=by
 unfold heldTo;rw [List.take_add_one,hs];simp;omega
theorem held_all (m : Ma) (s : Sp) {kind : Int} (k : Int) (hk : kind≠0) : heldTo m m.sp.length [] s (kind,k) = ((holders m kind k + (if kind = 1 then cachedN m.ca k else 0) : Nat) : Int):=by
 unfold heldTo holders holdN;rw [List.take_length];have : (m.sp.map flatN).map (fun f=>cntTo f kind k 64) = m.sp.map fun s=>(pagesN s).countP fun n=>isE (flatN s n) kind k:=by
  rw [List.map_map]
  apply List.map_congr_left
  intro s _;exact cnt_pages s hk
 rw [this];simp;omega
def heldC (l : List Ca) (key : Int × Int) : Int:=if key.1 = 1 then (cachedN l key.2 : Int) else 0
theorem heldC_step (l : List Ca) (c : Ca) (key : Int × Int) : heldC (l ++ [c]) key = heldC l key + (if key = (1,c.fr) then 1 else 0):=by
 unfold heldC cachedN;obtain ⟨a,b⟩:=key;simp only [List.countP_append,Prod.mk.injEq]
 by_cases h1 : a = 1
 ·rw [if_pos h1,if_pos h1]
  by_cases h2 : b = c.fr
  ·simp [h1,h2]
  ·have : ¬ c.fr = b:=fun e=>h2 e.symm
   simp [h1,h2,this]
 ·rw [if_neg h1,if_neg h1]
  simp [h1]
theorem heldC_all (m : Ma) (s : Sp) (key : Int × Int) : heldC m.ca key = heldTo m 0 [] s key:=by
 unfold heldC heldTo;simp
 split <;> rfl
theorem heldC_nil (key : Int × Int) : heldC [] key = 0:=by
 unfold heldC cachedN;simp
def idxG : List Ca→Int × Int→Option Int
 | [],_=>none
 | c :: l,key=>match idxG l key with | some z=>some z | none=>if key = (c.file,c.idx) then some c.fr else none
theorem idxG_snoc (c : Ca) (key : Int × Int) : ∀ (l : List Ca),idxG (l ++ [c]) key = if key = (c.file,c.idx) then some c.fr else idxG l key
 | []=>by simp [idxG]
 | d :: l=>by
  simp only [List.cons_append,idxG];rw [idxG_snoc c key l]
  by_cases h : key = (c.file,c.idx)
  ·rw [if_pos h,if_pos h]
  ·rw [if_neg h,if_neg h]
theorem idxG_mem {key : Int × Int} {z : Int} : ∀ {l : List Ca},idxG l key = some z→∃ c∈l,key = (c.file,c.idx)∧c.fr = z
 | [],h=>by cases h
 | d :: l,h=>by
  unfold idxG at h
  cases e : idxG l key with
  | some y =>
   rw [e] at h;cases h;obtain ⟨c,h1,h2⟩:=idxG_mem e;exact ⟨c,List.mem_cons_of_mem _ h1,h2⟩
  | none =>
   rw [e] at h;simp only at h
   split at h
   ·rename_i h'
    cases h;exact ⟨d,List.mem_cons_self,h',rfl⟩
   ·cases h
theorem idxG_none {key : Int × Int} : ∀ {l : List Ca},idxG l key = none↔∀ c∈l,key≠(c.file,c.idx)
 | []=>by simp [idxG]
 | d :: l=>by
  unfold idxG;constructor
  ·intro h c hc
   cases e : idxG l key with
   | some y=>rw [e] at h; cases h
   | none =>
    rw [e] at h;simp only at h
    rcases List.mem_cons.1 hc with rfl | hc
    ·intro h'; rw [if_pos h'] at h; cases h
    ·exact idxG_none.1 e c hc
  ·intro h;rw [idxG_none.2 fun c hc=>h c (List.mem_cons_of_mem _ hc)]
   simp only;rw [if_neg (h d List.mem_cons_self)]
theorem ca_key_uniq {l : List Ca} (h : l.Pairwise fun a b=>keyC a < keyC b) {c d : Ca} (hc : c∈l) (hd : d∈l) (hk : keyC c = keyC d) : c = d:=by
 induction l with
 | nil=>cases hc
 | cons a l ih =>
  rw [List.pairwise_cons] at h
  rcases List.mem_cons.1 hc with rfl | hc'
  ·rcases List.mem_cons.1 hd with rfl | hd'
   ·rfl
   ·have:=h.1 d hd'; omega
  ·rcases List.mem_cons.1 hd with rfl | hd'
   ·have:=h.1 c hc'; omega
   ·exact ih h.2 hc' hd'
theorem has_cached {m : Ma} (hca : caGo m none m.ca = 0) (k : Nat) : (idxG m.ca ((frAt m k).f,(frAt m k).x) = some (k : Int))↔cachedN m.ca k≠0:=by
 obtain ⟨a1,_,a3⟩:=caGo_zero.1 hca;have hca' : ∀ c∈m.ca,(frAt m c.fr).f = c.file∧(frAt m c.fr).x = c.idx:=by
  intro c hc;have:=a1 c hc;unfold caE at this
  split at this
  ·cases this
  ·split at this
   ·cases this
   ·rename_i h
    exact ⟨Classical.byContradiction fun e=>h (.inr (.inl e)),Classical.byContradiction fun e=>h (.inr (.inr e))⟩
 have hcount : cachedN m.ca k≠0↔∃ c∈m.ca,c.fr = (k : Int):=by
  unfold cachedN;rw [Nat.ne_zero_iff_zero_lt,List.countP_pos_iff];simp
 rw [hcount];constructor
 ·intro h;obtain ⟨c,h1,_,h3⟩:=idxG_mem h;exact ⟨c,h1,h3⟩
 ·rintro ⟨c,h1,h2⟩;obtain ⟨b1,b2⟩:=hca' c h1;rw [h2] at b1 b2
  cases e : idxG m.ca ((frAt m k).f,(frAt m k).x) with
  | none =>
   have:=idxG_none.1 e c h1;rw [b1,b2] at this;exact absurd rfl this
  | some z =>
   obtain ⟨d,d1,d2,d3⟩:=idxG_mem e;rw [b1,b2] at d2;simp only [Prod.mk.injEq] at d2;have : c = d:=ca_key_uniq a3 h1 d1 (by unfold keyC; rw [d2.1,d2.2])
   rw [←d3,←this,h2]
end
section
open Go.RowKit
theorem belowM_any (m n : Int) (w : World) :
  Calls Tryz.prog 56 #[.int .i64 m,.int .i64 n] w fun e w'=>e = .returned (.bool (bel m n))∧w' = w:=by
 have H : Hid (bel m n = (decide (0≤m) && decide (m < n))):=rfl
 by_cases h0 : 0≤m
 ·by_cases h1 : m < n
  ·go_enter Tryz.func56,Tryz.ntmps56
   go_wp2;go_ret;exact ⟨by rw [H.out]; simp [*],rfl⟩
  ·go_enter Tryz.func56,Tryz.ntmps56
   go_wp2;go_ret;exact ⟨by rw [H.out]; simp [*],rfl⟩
 ·go_enter Tryz.func56,Tryz.ntmps56
  go_wp2;go_ret;exact ⟨by rw [H.out]; simp; omega,rfl⟩
theorem Tryz.infoErrno : (Tryz.prog.info? 43).map (fun i=>(i.zero,i.size,i.bytes)) = some (some (.int .i64 0),1,8):=by kernel_rfl
def errE : Elt Int where
 enc:=fun z=>[.int .i64 z]
 k:=1
 ty:=43
 st:=185
 bytes:=8
 zv:= .int .i64 0
 zero:=0
 len:=fun _=>rfl
 one:=fun a u hu=>by
  simp only [List.mem_cons,List.not_mem_nil,or_false] at hu;rw [hu];rfl
 und:=Tryz.underlying185
 info:=Tryz.infoErrno
 zok:=rfl
 few:=by decide
 pos:=by decide
theorem RowAt.errs {w : World} {v : Value} {l : List Int} (h : RowAt errE w v l) : ∃ a c,v = .slice a l.length c∧SlRows w a l:=by
 obtain ⟨a,c,h1,h2⟩:=h.rows;refine ⟨a,c,h1,fun j x hj=>?_⟩
 obtain ⟨ad,h3,h4⟩:=h2 j x hj;refine ⟨ad,h3,fun W hW=>?_⟩
 have:=h4 W hW 0 _ rfl;rw [add_add'] at this
 simpa [errE] using this
theorem row_lit {α : Type} (E : Elt α) (w : World) (l : List α) (cs : Array Value) (hcs : cs = (l.flatMap E.enc).toArray) (hb : l.length * E.bytes≤140737488355328) : RowAt E (w.alloc (.cells cs E.ty)) (.slice (some ⟨w.heap.size,0,none⟩) l.length l.length) l:=by
 subst hcs;refine ⟨⟨_,l.length,rfl,fun h=>(by cases h),fun y hy=>?_⟩,hb⟩
 cases hy;exact Cells.top w (l.flatMap E.enc) E.ty rfl
theorem firstE_take {l : List Int} {k : Nat} (hb : ∀ (j : Nat) x,j < k→l[j]? = some x→x = 0) {q : Int} (hq : l[k]? = some q) (hn : q≠0) : firstE l = q:=by
 have:=firstE_at (f:=fun x=>x) hq hb hn
 simpa using this
theorem firstE_none {l : List Int} (hb : ∀ (j : Nat) x,l[j]? = some x→x = 0) : firstE l = 0:=by
 have:=firstE_all (f:=fun x=>x) hb
 simpa using this
theorem orErr_any (v : Value) (l : List Int) (w : World) (hv : RowAt errE w v l) :
  Calls Tryz.prog 70 #[v] w fun e w'=>e = .returned (.int .i64 (firstE l))∧w' = w:=by
 have hbig:=hv.short;obtain ⟨a,c,rfl,hrow⟩:=hv.errs;have HR : Hid (SlRows w a l):=hrow;clear hrow hv;obtain ⟨n,HN⟩ : ∃ n,Hid (l.length = n):=⟨_,rfl⟩;rw [HN.out] at hbig ⊢;obtain ⟨F,HF⟩ : ∃ F,Hid (firstE l = F):=⟨_,rfl⟩;rw [HF.out]
 go_enter Tryz.func70,Tryz.ntmps70
 go_wp2
 go_loopg [5,8] n (fun gg _ s8 wr=>∃ kk : Nat,kk≤n∧n - kk≤gg∧s8 = .int .i64 kk∧wr = w∧Hid (∀ (j : Nat) x,j < kk→l[j]? = some x→x = 0))
 case atStart=>exact ⟨0,Nat.zero_le _,by omega,rfl,rfl,fun j x hj=>absurd hj (Nat.not_lt_zero _)⟩
 case round =>
  obtain ⟨kk,hkk,hgg,rfl,rfl,A⟩:=hrel
  by_cases hlt : kk < n
  ·have hltz : (kk : Int) < (n : Int):=by omega
   obtain ⟨q,HQ⟩ : ∃ q,Hid (l[kk]? = some q):=⟨_,List.getElem?_eq_getElem (by rw [HN.out]; exact hlt)⟩
   obtain ⟨x,rfl,hl⟩:=HR.out kk q HQ.out;have d0:=hl wr (Grew.refl _);clear hl
   by_cases h0 : q = 0
   ·have h0e : (q != 0) = false:=by simp [h0]
    have HA : Hid (∀ (j : Nat) x,j < kk + 1→l[j]? = some x→x = 0):=show ∀ (j : Nat) x,_ from fun j x hj hx=>by
     by_cases e : j = kk
     ·subst e;rw [HQ.out] at hx;cases hx;exact h0
     ·exact A.out j x (by omega) hx
    clear h0;go_wp2
    go_roundg (n - (kk + 1))
    case measure=>omega
    case rel=>exact ⟨kk + 1,by omega,by omega,by go_num,rfl,HA.out⟩
   ·have h0e : (q != 0) = true:=by simp [h0]
    have HE : Hid (F = q):=show _ = _ by rw [←HF.out]; exact firstE_take A.out HQ.out h0
    clear h0;go_wp2;go_ret;exact ⟨by rw [HE.out]; rfl,rfl⟩
  ·have hltz : ¬ (kk : Int) < (n : Int):=by omega
   have : kk = n:=by omega
   subst this;have HE : Hid (F = 0):=show _ = _ by
    rw [←HF.out];exact firstE_none fun j x hx=>A.out j x (by rw [←HN.out]; exact (List.getElem?_eq_some_iff.1 hx).1) hx
   go_wp2;go_ret;exact ⟨by rw [HE.out]; rfl,rfl⟩
theorem indexOf_any (a : Ar) (n : Int) (w : World) (h1 : 0≤a.base∧a.base≤100) (h2 : 0≤a.fr∧a.fr≤100) (h3 : 0≤n∧n≤100) :
  Calls Tryz.prog 108 #[.agg #[.int .i64 a.fr,.int .i64 a.tz,.bool a.rd,.bool a.wr,.bool a.sh,.int .i64 a.file,.int .i64 a.base],.int .i64 n] w fun e w'=>e = .returned (.int .i64 (a.base + n - a.fr))∧Grew w w':=by
 obtain ⟨fr,tz,rd,wr,sh,file,base⟩:=a;simp only at h1 h2
 go_enter Tryz.func108,Tryz.ntmps108
 go_wp2;go_ret;exact ⟨rfl,grew_alloc _ _⟩
theorem isAhead_any (c d : Ca) (w : World) :
  Calls Tryz.prog 84 #[.agg #[.int .i64 c.file,.int .i64 c.idx,.int .i64 c.fr],.agg #[.int .i64 d.file,.int .i64 d.idx,.int .i64 d.fr]] w fun e w'=>e = .returned (.bool (aheadB c d))∧Grew w w':=by
 obtain ⟨cf,ci,cr⟩:=c;obtain ⟨df,di,dr⟩:=d
 by_cases h1 : cf < df
 ·have hz : aheadB ⟨cf,ci,cr⟩ ⟨df,di,dr⟩ = true:=by simp [aheadB,h1]
  rw [hz];clear hz
  go_enter Tryz.func84,Tryz.ntmps84
  go_wp2;go_ret;exact ⟨rfl,(grew_alloc _ _).trans (grew_alloc _ _)⟩
 ·by_cases h2 : cf = df
  ·subst h2
   by_cases h3 : ci < di
   ·have hz : aheadB ⟨cf,ci,cr⟩ ⟨cf,di,dr⟩ = true:=by simp [aheadB,h3]
    rw [hz];clear hz
    go_enter Tryz.func84,Tryz.ntmps84
    go_wp2;go_ret;exact ⟨rfl,(grew_alloc _ _).trans (grew_alloc _ _)⟩
   ·have hz : aheadB ⟨cf,ci,cr⟩ ⟨cf,di,dr⟩ = false:=by simp [aheadB,h3]
    rw [hz];clear hz
    go_enter Tryz.func84,Tryz.ntmps84
    go_wp2;go_ret;exact ⟨rfl,(grew_alloc _ _).trans (grew_alloc _ _)⟩
  ·have hz : aheadB ⟨cf,ci,cr⟩ ⟨df,di,dr⟩ = false:=by simp [aheadB,h1,h2]
   rw [hz];clear hz;have h2e : (cf == df) = false:=by simp [h2]
   clear h2
   go_enter Tryz.func84,Tryz.ntmps84
   go_wp2;go_ret;exact ⟨rfl,(grew_alloc _ _).trans (grew_alloc _ _)⟩
theorem mayWrite_any (f : Fr) (a : Ar) (w : World) :
  Calls Tryz.prog 135 #[.agg (frv f).toArray,.agg #[.int .i64 a.fr,.int .i64 a.tz,.bool a.rd,.bool a.wr,.bool a.sh,.int .i64 a.file,.int .i64 a.base]] w fun e w'=>e = .returned (.bool (mayWriteB f a))∧Grew w w':=by
 obtain ⟨⟨b0,b1,b2,b3,b4,b5,b6,b7⟩,r,u,d,ff,x⟩:=f;obtain ⟨fr,tz,rd,wr,sh,file,base⟩:=a;unfold frv mayWriteB;simp only;cases wr
 ·simp only [Bool.false_and]
  go_enter Tryz.func135,Tryz.ntmps135
  go_wp2;go_ret;exact ⟨rfl,(grew_alloc _ _).trans (grew_alloc _ _)⟩
 ·simp only [Bool.true_and]
  by_cases h : ff < 0
  ·rw [if_pos h];obtain ⟨D,HD⟩ : ∃ D,Hid (decide (r≤1) = D):=⟨_,rfl⟩;rw [HD.out]
   go_enter Tryz.func135,Tryz.ntmps135
   go_wp2;go_ret;exact ⟨by rw [←HD.out]; rfl,(grew_alloc _ _).trans (grew_alloc _ _)⟩
  ·rw [if_neg h]
   go_enter Tryz.func135,Tryz.ntmps135
   go_wp2;go_ret;exact ⟨rfl,(grew_alloc _ _).trans (grew_alloc _ _)⟩
theorem frBelow_any (m n : Int) (w : World) :
  Calls Tryz.prog 122 #[.int .i64 m,.int .i64 n] w fun e w'=>e = .returned (.bool (inB m n))∧w' = w:=by
 have H : Hid (inB m n = (decide (0≤m) && decide (m < n))):=rfl
 by_cases h0 : 0≤m
 ·by_cases h1 : m < n
  ·go_enter Tryz.func122,Tryz.ntmps122
   go_wp2;go_ret;exact ⟨by rw [H.out]; simp [*],rfl⟩
  ·go_enter Tryz.func122,Tryz.ntmps122
   go_wp2;go_ret;exact ⟨by rw [H.out]; simp [*],rfl⟩
 ·go_enter Tryz.func122,Tryz.ntmps122
  go_wp2;go_ret;exact ⟨by rw [H.out]; simp; omega,rfl⟩
theorem freeFrame_any (w : World) :
  Calls Tryz.prog 112 #[] w fun e w'=>e = .returned (.agg (frv frF).toArray)∧Grew w w':=by
 go_enter Tryz.func112,Tryz.ntmps112
 go_wp2;refine bodyPost_ret (v:= .agg (frv frF).toArray) (by simp [results,Tryz.results112,go_sem,frv,frF,pg0]) rfl ⟨rfl,?_⟩
 exact (Below.refl _ _).alloc (Nat.le_refl _) _
theorem wf1 (b0 b1 b2 b3 b4 b5 b6 b7 r : Int) (u d : Bool) (f x : Int) (w : World) (hb1 : inB r 1001 = false) :
  Calls Tryz.prog 121 #[.agg #[.int .u8 b0,.int .u8 b1,.int .u8 b2,.int .u8 b3,.int .u8 b4,.int .u8 b5,.int .u8 b6,.int .u8 b7,.int .i64 r,.bool u,.bool d,.int .i64 f,.int .i64 x]] w fun e w'=>e = .returned (.int .i64 3)∧Grew w w':=by
 go_enter Tryz.func121,Tryz.ntmps121
 go_wp2_with (go_at_call 122; refine (frBelow_any _ _ _).mono ?_; rintro e w' ⟨rfl,rfl⟩)
 go_ret;exact ⟨rfl,(Below.refl _ _).alloc (Nat.le_refl _) _⟩
theorem wf2 (b0 b1 b2 b3 b4 b5 b6 b7 r : Int) (u d : Bool) (f x : Int) (w : World) (hb1 : inB r 1001 = true) (hb2 : inB x 12 = false) :
  Calls Tryz.prog 121 #[.agg #[.int .u8 b0,.int .u8 b1,.int .u8 b2,.int .u8 b3,.int .u8 b4,.int .u8 b5,.int .u8 b6,.int .u8 b7,.int .i64 r,.bool u,.bool d,.int .i64 f,.int .i64 x]] w fun e w'=>e = .returned (.int .i64 3)∧Grew w w':=by
 go_enter Tryz.func121,Tryz.ntmps121
 go_wp2_with (go_at_call 122; refine (frBelow_any _ _ _).mono ?_; rintro e w' ⟨rfl,rfl⟩)
 go_ret;exact ⟨rfl,(Below.refl _ _).alloc (Nat.le_refl _) _⟩
theorem wf3 (b0 b1 b2 b3 b4 b5 b6 b7 r : Int) (u d : Bool) (f x : Int) (w : World) (hb1 : inB r 1001 = true) (hb2 : inB x 12 = true) (hf : (f != -1) = true) (hb3 : inB f 5 = false) :
  Calls Tryz.prog 121 #[.agg #[.int .u8 b0,.int .u8 b1,.int .u8 b2,.int .u8 b3,.int .u8 b4,.int .u8 b5,.int .u8 b6,.int .u8 b7,.int .i64 r,.bool u,.bool d,.int .i64 f,.int .i64 x]] w fun e w'=>e = .returned (.int .i64 3)∧Grew w w':=by
 go_enter Tryz.func121,Tryz.ntmps121
 go_wp2_with (go_at_call 122; refine (frBelow_any _ _ _).mono ?_; rintro e w' ⟨rfl,rfl⟩)
 go_ret;exact ⟨rfl,(Below.refl _ _).alloc (Nat.le_refl _) _⟩
theorem wf4 (b0 b1 b2 b3 b4 b5 b6 b7 r : Int) (u d : Bool) (f x : Int) (w : World) (hb1 : inB r 1001 = true) (hb2 : inB x 12 = true) (hf : (f != -1) = true) (_hfe : (f == -1) = false) (hb3 : inB f 5 = true) (hr : (r == 0) = true) (hfr : frEqB (⟨⟨b0,b1,b2,b3,b4,b5,b6,b7⟩,r,u,d,f,x⟩ : Fr) frF = false) :
  Calls Tryz.prog 121 #[.agg #[.int .u8 b0,.int .u8 b1,.int .u8 b2,.int .u8 b3,.int .u8 b4,.int .u8 b5,.int .u8 b6,.int .u8 b7,.int .i64 r,.bool u,.bool d,.int .i64 f,.int .i64 x]] w fun e w'=>e = .returned (.int .i64 7)∧Grew w w':=by
 have HFR : Hid _:=hfr;clear hfr
 go_enter Tryz.func121,Tryz.ntmps121
 go_wp2_with (go_at_call 122; refine (frBelow_any _ _ _).mono ?_; rintro e w' ⟨rfl,rfl⟩)
 obtain ⟨W0,hW0⟩ : ∃ W0,w.alloc (.cells #[.int .u8 b0,.int .u8 b1,.int .u8 b2,.int .u8 b3,.int .u8 b4,.int .u8 b5,.int .u8 b6,.int .u8 b7,.int .i64 r,.bool u,.bool d,.int .i64 f,.int .i64 x] 59) = W0:=⟨_,rfl⟩;have HG0 : Hid (Grew w W0):=show Grew w W0 by rw [←hW0]; exact grew_alloc _ _
 have X0 : Hid (Box W0 w.heap.size [.int .u8 b0,.int .u8 b1,.int .u8 b2,.int .u8 b3,.int .u8 b4,.int .u8 b5,.int .u8 b6,.int .u8 b7,.int .i64 r,.bool u,.bool d,.int .i64 f,.int .i64 x]):=show Box _ _ _ by rw [←hW0]; exact Box.top w _ _ rfl
 rw [hW0];clear hW0;have hx0 : ∀ y : GrownW W0,y.world.cell? ⟨w.heap.size,0,none⟩ = some (.int .u8 b0):=fun y=>(X0.out.grew y.grew).c 0 rfl
 have hx1 : ∀ y : GrownW W0,y.world.cell? ⟨w.heap.size,1,none⟩ = some (.int .u8 b1):=fun y=>(X0.out.grew y.grew).c 1 rfl
 have hx2 : ∀ y : GrownW W0,y.world.cell? ⟨w.heap.size,2,none⟩ = some (.int .u8 b2):=fun y=>(X0.out.grew y.grew).c 2 rfl
 have hx3 : ∀ y : GrownW W0,y.world.cell? ⟨w.heap.size,3,none⟩ = some (.int .u8 b3):=fun y=>(X0.out.grew y.grew).c 3 rfl
 have hx4 : ∀ y : GrownW W0,y.world.cell? ⟨w.heap.size,4,none⟩ = some (.int .u8 b4):=fun y=>(X0.out.grew y.grew).c 4 rfl
 have hx5 : ∀ y : GrownW W0,y.world.cell? ⟨w.heap.size,5,none⟩ = some (.int .u8 b5):=fun y=>(X0.out.grew y.grew).c 5 rfl
 have hx6 : ∀ y : GrownW W0,y.world.cell? ⟨w.heap.size,6,none⟩ = some (.int .u8 b6):=fun y=>(X0.out.grew y.grew).c 6 rfl
 have hx7 : ∀ y : GrownW W0,y.world.cell? ⟨w.heap.size,7,none⟩ = some (.int .u8 b7):=fun y=>(X0.out.grew y.grew).c 7 rfl
 have hx8 : ∀ y : GrownW W0,y.world.cell? ⟨w.heap.size,8,none⟩ = some (.int .i64 r):=fun y=>(X0.out.grew y.grew).c 8 rfl
 have hx9 : ∀ y : GrownW W0,y.world.cell? ⟨w.heap.size,9,none⟩ = some (.bool u):=fun y=>(X0.out.grew y.grew).c 9 rfl
 have hx10 : ∀ y : GrownW W0,y.world.cell? ⟨w.heap.size,10,none⟩ = some (.bool d):=fun y=>(X0.out.grew y.grew).c 10 rfl
 have hx11 : ∀ y : GrownW W0,y.world.cell? ⟨w.heap.size,11,none⟩ = some (.int .i64 f):=fun y=>(X0.out.grew y.grew).c 11 rfl
 have hx12 : ∀ y : GrownW W0,y.world.cell? ⟨w.heap.size,12,none⟩ = some (.int .i64 x):=fun y=>(X0.out.grew y.grew).c 12 rfl
 have hne : Nonempty (GrownW W0):=⟨⟨_,Grew.refl _⟩⟩;refine wp_lax [(5,⟨fun v=>v = .agg (frv frF).toArray,fun _ _=>True⟩)] mixed (by kernel_rfl) ?_ ?_ ?_
 ·intro x hx
  simp at hx
  subst hx;exact ⟨_,rfl⟩
 ·intro x hx
  simp at hx
  subst hx;exact fun _ _ _ _ h=>h
 iterate 5 (refine lax_quiet rfl rfl rfl (fun K hK=>?_); go_big_quiet_op; refine hK _ ?_; clear hK K)
 refine lax_spec rfl rfl (fun w' hg hF=>?_) (fun v1 hv=>?_)
 ·refine Does.call [] rfl Tryz.func112 rfl rfl rfl ?_;refine (freeFrame_any w').mono ?_;rintro e w'' ⟨rfl,hg2⟩;exact ⟨_,rfl,hg2,rfl,trivial⟩
 subst hv;have hq:=fun W=>fr_eq b0 b1 b2 b3 b4 b5 b6 b7 r u d f x 0 0 0 0 0 0 0 0 0 false false (-1) 0 W
 simp only [show (⟨⟨0,0,0,0,0,0,0,0⟩,0,false,false,-1,0⟩ : Fr) = frF from rfl,HFR.out] at hq
 simp only [Act.put,List.setIfInBounds_toArray,List.set_cons_succ,List.set_cons_zero,frv,frF,pg0];iterate 3 (refine lax_quiet rfl rfl rfl (fun K hK=>?_); go_big_quiet_op; refine hK _ ?_; clear hK K)
 iterate 8 (refine lax_skip ?_ ?_; kernel_rfl; simp only [Act.put,List.setIfInBounds_toArray,List.set_cons_succ,List.set_cons_zero])
 iterate 1 (refine lax_quiet rfl rfl rfl (fun K hK=>?_); go_big_quiet_op; refine hK _ ?_; clear hK K)
 refine lax_nil fun w1 hg1 hF=>?_
 have HG1 : Hid (Grew w w1):=HG0.out.trans hg1;go_wp2;go_ret;exact ⟨rfl,HG1.out⟩
theorem wf5 (b0 b1 b2 b3 b4 b5 b6 b7 r : Int) (u d : Bool) (f x : Int) (w : World) (hb1 : inB r 1001 = true) (hb2 : inB x 12 = true) (hf : (f != -1) = true) (_hfe : (f == -1) = false) (hb3 : inB f 5 = true) (hr : (r == 0) = false) :
  Calls Tryz.prog 121 #[.agg #[.int .u8 b0,.int .u8 b1,.int .u8 b2,.int .u8 b3,.int .u8 b4,.int .u8 b5,.int .u8 b6,.int .u8 b7,.int .i64 r,.bool u,.bool d,.int .i64 f,.int .i64 x]] w fun e w'=>e = .returned (.int .i64 0)∧Grew w w':=by
 go_enter Tryz.func121,Tryz.ntmps121
 go_wp2_with (go_at_call 122; refine (frBelow_any _ _ _).mono ?_; rintro e w' ⟨rfl,rfl⟩)
 obtain ⟨W0,hW0⟩ : ∃ W0,w.alloc (.cells #[.int .u8 b0,.int .u8 b1,.int .u8 b2,.int .u8 b3,.int .u8 b4,.int .u8 b5,.int .u8 b6,.int .u8 b7,.int .i64 r,.bool u,.bool d,.int .i64 f,.int .i64 x] 59) = W0:=⟨_,rfl⟩;have HG0 : Hid (Grew w W0):=show Grew w W0 by rw [←hW0]; exact grew_alloc _ _
 have X0 : Hid (Box W0 w.heap.size [.int .u8 b0,.int .u8 b1,.int .u8 b2,.int .u8 b3,.int .u8 b4,.int .u8 b5,.int .u8 b6,.int .u8 b7,.int .i64 r,.bool u,.bool d,.int .i64 f,.int .i64 x]):=show Box _ _ _ by rw [←hW0]; exact Box.top w _ _ rfl
 rw [hW0];clear hW0;have hx0 : ∀ y : GrownW W0,y.world.cell? ⟨w.heap.size,0,none⟩ = some (.int .u8 b0):=fun y=>(X0.out.grew y.grew).c 0 rfl
 have hx1 : ∀ y : GrownW W0,y.world.cell? ⟨w.heap.size,1,none⟩ = some (.int .u8 b1):=fun y=>(X0.out.grew y.grew).c 1 rfl
 have hx2 : ∀ y : GrownW W0,y.world.cell? ⟨w.heap.size,2,none⟩ = some (.int .u8 b2):=fun y=>(X0.out.grew y.grew).c 2 rfl
 have hx3 : ∀ y : GrownW W0,y.world.cell? ⟨w.heap.size,3,none⟩ = some (.int .u8 b3):=fun y=>(X0.out.grew y.grew).c 3 rfl
 have hx4 : ∀ y : GrownW W0,y.world.cell? ⟨w.heap.size,4,none⟩ = some (.int .u8 b4):=fun y=>(X0.out.grew y.grew).c 4 rfl
 have hx5 : ∀ y : GrownW W0,y.world.cell? ⟨w.heap.size,5,none⟩ = some (.int .u8 b5):=fun y=>(X0.out.grew y.grew).c 5 rfl
 have hx6 : ∀ y : GrownW W0,y.world.cell? ⟨w.heap.size,6,none⟩ = some (.int .u8 b6):=fun y=>(X0.out.grew y.grew).c 6 rfl
 have hx7 : ∀ y : GrownW W0,y.world.cell? ⟨w.heap.size,7,none⟩ = some (.int .u8 b7):=fun y=>(X0.out.grew y.grew).c 7 rfl
 have hx8 : ∀ y : GrownW W0,y.world.cell? ⟨w.heap.size,8,none⟩ = some (.int .i64 r):=fun y=>(X0.out.grew y.grew).c 8 rfl
 have hx9 : ∀ y : GrownW W0,y.world.cell? ⟨w.heap.size,9,none⟩ = some (.bool u):=fun y=>(X0.out.grew y.grew).c 9 rfl
 have hx10 : ∀ y : GrownW W0,y.world.cell? ⟨w.heap.size,10,none⟩ = some (.bool d):=fun y=>(X0.out.grew y.grew).c 10 rfl
 have hx11 : ∀ y : GrownW W0,y.world.cell? ⟨w.heap.size,11,none⟩ = some (.int .i64 f):=fun y=>(X0.out.grew y.grew).c 11 rfl
 have hx12 : ∀ y : GrownW W0,y.world.cell? ⟨w.heap.size,12,none⟩ = some (.int .i64 x):=fun y=>(X0.out.grew y.grew).c 12 rfl
 have hne : Nonempty (GrownW W0):=⟨⟨_,Grew.refl _⟩⟩;refine wp_lax [(5,⟨fun v=>v = .agg (frv frF).toArray,fun _ _=>True⟩)] mixed (by kernel_rfl) ?_ ?_ ?_
 ·intro x hx
  simp at hx
  subst hx;exact ⟨_,rfl⟩
 ·intro x hx
  simp at hx
  subst hx;exact fun _ _ _ _ h=>h
 iterate 4 (refine lax_quiet rfl rfl rfl (fun K hK=>?_); go_big_quiet_op; refine hK _ ?_; clear hK K)
 iterate 3 (refine lax_skip ?_ ?_; kernel_rfl; simp only [Act.put,List.setIfInBounds_toArray,List.set_cons_succ,List.set_cons_zero])
 iterate 6 (refine lax_quiet rfl rfl rfl (fun K hK=>?_); go_big_quiet_op; refine hK _ ?_; clear hK K)
 iterate 3 (refine lax_skip ?_ ?_; kernel_rfl; simp only [Act.put,List.setIfInBounds_toArray,List.set_cons_succ,List.set_cons_zero])
 iterate 2 (refine lax_quiet rfl rfl rfl (fun K hK=>?_); go_big_quiet_op; refine hK _ ?_; clear hK K)
 refine lax_nil fun w1 hg1 hF=>?_
 have HG1 : Hid (Grew w w1):=HG0.out.trans hg1;go_wp2;go_ret;exact ⟨rfl,HG1.out⟩
theorem wf6 (b0 b1 b2 b3 b4 b5 b6 b7 r : Int) (u d : Bool) (f x : Int) (w : World) (hb1 : inB r 1001 = true) (hb2 : inB x 12 = true) (hf : (f != -1) = false) (_hfe : (f == -1) = true) (hr : (r == 0) = true) (hfr : frEqB (⟨⟨b0,b1,b2,b3,b4,b5,b6,b7⟩,r,u,d,f,x⟩ : Fr) frF = false) :
  Calls Tryz.prog 121 #[.agg #[.int .u8 b0,.int .u8 b1,.int .u8 b2,.int .u8 b3,.int .u8 b4,.int .u8 b5,.int .u8 b6,.int .u8 b7,.int .i64 r,.bool u,.bool d,.int .i64 f,.int .i64 x]] w fun e w'=>e = .returned (.int .i64 7)∧Grew w w':=by
 have HFR : Hid _:=hfr;clear hfr
 go_enter Tryz.func121,Tryz.ntmps121
 go_wp2_with (go_at_call 122; refine (frBelow_any _ _ _).mono ?_; rintro e w' ⟨rfl,rfl⟩)
 obtain ⟨W0,hW0⟩ : ∃ W0,w.alloc (.cells #[.int .u8 b0,.int .u8 b1,.int .u8 b2,.int .u8 b3,.int .u8 b4,.int .u8 b5,.int .u8 b6,.int .u8 b7,.int .i64 r,.bool u,.bool d,.int .i64 f,.int .i64 x] 59) = W0:=⟨_,rfl⟩;have HG0 : Hid (Grew w W0):=show Grew w W0 by rw [←hW0]; exact grew_alloc _ _
 have X0 : Hid (Box W0 w.heap.size [.int .u8 b0,.int .u8 b1,.int .u8 b2,.int .u8 b3,.int .u8 b4,.int .u8 b5,.int .u8 b6,.int .u8 b7,.int .i64 r,.bool u,.bool d,.int .i64 f,.int .i64 x]):=show Box _ _ _ by rw [←hW0]; exact Box.top w _ _ rfl
 rw [hW0];clear hW0;have hx0 : ∀ y : GrownW W0,y.world.cell? ⟨w.heap.size,0,none⟩ = some (.int .u8 b0):=fun y=>(X0.out.grew y.grew).c 0 rfl
 have hx1 : ∀ y : GrownW W0,y.world.cell? ⟨w.heap.size,1,none⟩ = some (.int .u8 b1):=fun y=>(X0.out.grew y.grew).c 1 rfl
 have hx2 : ∀ y : GrownW W0,y.world.cell? ⟨w.heap.size,2,none⟩ = some (.int .u8 b2):=fun y=>(X0.out.grew y.grew).c 2 rfl
 have hx3 : ∀ y : GrownW W0,y.world.cell? ⟨w.heap.size,3,none⟩ = some (.int .u8 b3):=fun y=>(X0.out.grew y.grew).c 3 rfl
 have hx4 : ∀ y : GrownW W0,y.world.cell? ⟨w.heap.size,4,none⟩ = some (.int .u8 b4):=fun y=>(X0.out.grew y.grew).c 4 rfl
 have hx5 : ∀ y : GrownW W0,y.world.cell? ⟨w.heap.size,5,none⟩ = some (.int .u8 b5):=fun y=>(X0.out.grew y.grew).c 5 rfl
 have hx6 : ∀ y : GrownW W0,y.world.cell? ⟨w.heap.size,6,none⟩ = some (.int .u8 b6):=fun y=>(X0.out.grew y.grew).c 6 rfl
 have hx7 : ∀ y : GrownW W0,y.world.cell? ⟨w.heap.size,7,none⟩ = some (.int .u8 b7):=fun y=>(X0.out.grew y.grew).c 7 rfl
 have hx8 : ∀ y : GrownW W0,y.world.cell? ⟨w.heap.size,8,none⟩ = some (.int .i64 r):=fun y=>(X0.out.grew y.grew).c 8 rfl
 have hx9 : ∀ y : GrownW W0,y.world.cell? ⟨w.heap.size,9,none⟩ = some (.bool u):=fun y=>(X0.out.grew y.grew).c 9 rfl
 have hx10 : ∀ y : GrownW W0,y.world.cell? ⟨w.heap.size,10,none⟩ = some (.bool d):=fun y=>(X0.out.grew y.grew).c 10 rfl
 have hx11 : ∀ y : GrownW W0,y.world.cell? ⟨w.heap.size,11,none⟩ = some (.int .i64 f):=fun y=>(X0.out.grew y.grew).c 11 rfl
 have hx12 : ∀ y : GrownW W0,y.world.cell? ⟨w.heap.size,12,none⟩ = some (.int .i64 x):=fun y=>(X0.out.grew y.grew).c 12 rfl
 have hne : Nonempty (GrownW W0):=⟨⟨_,Grew.refl _⟩⟩;refine wp_lax [(5,⟨fun v=>v = .agg (frv frF).toArray,fun _ _=>True⟩)] mixed (by kernel_rfl) ?_ ?_ ?_
 ·intro x hx
  simp at hx
  subst hx;exact ⟨_,rfl⟩
 ·intro x hx
  simp at hx
  subst hx;exact fun _ _ _ _ h=>h
 iterate 5 (refine lax_quiet rfl rfl rfl (fun K hK=>?_); go_big_quiet_op; refine hK _ ?_; clear hK K)
 refine lax_spec rfl rfl (fun w' hg hF=>?_) (fun v1 hv=>?_)
 ·refine Does.call [] rfl Tryz.func112 rfl rfl rfl ?_;refine (freeFrame_any w').mono ?_;rintro e w'' ⟨rfl,hg2⟩;exact ⟨_,rfl,hg2,rfl,trivial⟩
 subst hv;have hq:=fun W=>fr_eq b0 b1 b2 b3 b4 b5 b6 b7 r u d f x 0 0 0 0 0 0 0 0 0 false false (-1) 0 W
 simp only [show (⟨⟨0,0,0,0,0,0,0,0⟩,0,false,false,-1,0⟩ : Fr) = frF from rfl,HFR.out] at hq
 simp only [Act.put,List.setIfInBounds_toArray,List.set_cons_succ,List.set_cons_zero,frv,frF,pg0];iterate 3 (refine lax_quiet rfl rfl rfl (fun K hK=>?_); go_big_quiet_op; refine hK _ ?_; clear hK K)
 iterate 8 (refine lax_skip ?_ ?_; kernel_rfl; simp only [Act.put,List.setIfInBounds_toArray,List.set_cons_succ,List.set_cons_zero])
 iterate 1 (refine lax_quiet rfl rfl rfl (fun K hK=>?_); go_big_quiet_op; refine hK _ ?_; clear hK K)
 refine lax_nil fun w1 hg1 hF=>?_
 have HG1 : Hid (Grew w w1):=HG0.out.trans hg1;go_wp2;go_ret;exact ⟨rfl,HG1.out⟩
theorem wf7 (b0 b1 b2 b3 b4 b5 b6 b7 r : Int) (u d : Bool) (f x : Int) (w : World) (hb1 : inB r 1001 = true) (hb2 : inB x 12 = true) (hf : (f != -1) = false) (_hfe : (f == -1) = true) (hr : (r == 0) = true) (hfr : frEqB (⟨⟨b0,b1,b2,b3,b4,b5,b6,b7⟩,r,u,d,f,x⟩ : Fr) frF = true) (hx : (x != 0) = false) :
  Calls Tryz.prog 121 #[.agg #[.int .u8 b0,.int .u8 b1,.int .u8 b2,.int .u8 b3,.int .u8 b4,.int .u8 b5,.int .u8 b6,.int .u8 b7,.int .i64 r,.bool u,.bool d,.int .i64 f,.int .i64 x]] w fun e w'=>e = .returned (.int .i64 0)∧Grew w w':=by
 have HFR : Hid _:=hfr;clear hfr
 go_enter Tryz.func121,Tryz.ntmps121
 go_wp2_with (go_at_call 122; refine (frBelow_any _ _ _).mono ?_; rintro e w' ⟨rfl,rfl⟩)
 obtain ⟨W0,hW0⟩ : ∃ W0,w.alloc (.cells #[.int .u8 b0,.int .u8 b1,.int .u8 b2,.int .u8 b3,.int .u8 b4,.int .u8 b5,.int .u8 b6,.int .u8 b7,.int .i64 r,.bool u,.bool d,.int .i64 f,.int .i64 x] 59) = W0:=⟨_,rfl⟩;have HG0 : Hid (Grew w W0):=show Grew w W0 by rw [←hW0]; exact grew_alloc _ _
 have X0 : Hid (Box W0 w.heap.size [.int .u8 b0,.int .u8 b1,.int .u8 b2,.int .u8 b3,.int .u8 b4,.int .u8 b5,.int .u8 b6,.int .u8 b7,.int .i64 r,.bool u,.bool d,.int .i64 f,.int .i64 x]):=show Box _ _ _ by rw [←hW0]; exact Box.top w _ _ rfl
 rw [hW0];clear hW0;have hx0 : ∀ y : GrownW W0,y.world.cell? ⟨w.heap.size,0,none⟩ = some (.int .u8 b0):=fun y=>(X0.out.grew y.grew).c 0 rfl
 have hx1 : ∀ y : GrownW W0,y.world.cell? ⟨w.heap.size,1,none⟩ = some (.int .u8 b1):=fun y=>(X0.out.grew y.grew).c 1 rfl
 have hx2 : ∀ y : GrownW W0,y.world.cell? ⟨w.heap.size,2,none⟩ = some (.int .u8 b2):=fun y=>(X0.out.grew y.grew).c 2 rfl
 have hx3 : ∀ y : GrownW W0,y.world.cell? ⟨w.heap.size,3,none⟩ = some (.int .u8 b3):=fun y=>(X0.out.grew y.grew).c 3 rfl
 have hx4 : ∀ y : GrownW W0,y.world.cell? ⟨w.heap.size,4,none⟩ = some (.int .u8 b4):=fun y=>(X0.out.grew y.grew).c 4 rfl
 have hx5 : ∀ y : GrownW W0,y.world.cell? ⟨w.heap.size,5,none⟩ = some (.int .u8 b5):=fun y=>(X0.out.grew y.grew).c 5 rfl
 have hx6 : ∀ y : GrownW W0,y.world.cell? ⟨w.heap.size,6,none⟩ = some (.int .u8 b6):=fun y=>(X0.out.grew y.grew).c 6 rfl
 have hx7 : ∀ y : GrownW W0,y.world.cell? ⟨w.heap.size,7,none⟩ = some (.int .u8 b7):=fun y=>(X0.out.grew y.grew).c 7 rfl
 have hx8 : ∀ y : GrownW W0,y.world.cell? ⟨w.heap.size,8,none⟩ = some (.int .i64 r):=fun y=>(X0.out.grew y.grew).c 8 rfl
 have hx9 : ∀ y : GrownW W0,y.world.cell? ⟨w.heap.size,9,none⟩ = some (.bool u):=fun y=>(X0.out.grew y.grew).c 9 rfl
 have hx10 : ∀ y : GrownW W0,y.world.cell? ⟨w.heap.size,10,none⟩ = some (.bool d):=fun y=>(X0.out.grew y.grew).c 10 rfl
 have hx11 : ∀ y : GrownW W0,y.world.cell? ⟨w.heap.size,11,none⟩ = some (.int .i64 f):=fun y=>(X0.out.grew y.grew).c 11 rfl
 have hx12 : ∀ y : GrownW W0,y.world.cell? ⟨w.heap.size,12,none⟩ = some (.int .i64 x):=fun y=>(X0.out.grew y.grew).c 12 rfl
 have hne : Nonempty (GrownW W0):=⟨⟨_,Grew.refl _⟩⟩;refine wp_lax [(5,⟨fun v=>v = .agg (frv frF).toArray,fun _ _=>True⟩)] mixed (by kernel_rfl) ?_ ?_ ?_
 ·intro x hx
  simp at hx
  subst hx;exact ⟨_,rfl⟩
 ·intro x hx
  simp at hx
  subst hx;exact fun _ _ _ _ h=>h
 iterate 5 (refine lax_quiet rfl rfl rfl (fun K hK=>?_); go_big_quiet_op; refine hK _ ?_; clear hK K)
 refine lax_spec rfl rfl (fun w' hg hF=>?_) (fun v1 hv=>?_)
 ·refine Does.call [] rfl Tryz.func112 rfl rfl rfl ?_;refine (freeFrame_any w').mono ?_;rintro e w'' ⟨rfl,hg2⟩;exact ⟨_,rfl,hg2,rfl,trivial⟩
 subst hv;have hq:=fun W=>fr_eq b0 b1 b2 b3 b4 b5 b6 b7 r u d f x 0 0 0 0 0 0 0 0 0 false false (-1) 0 W
 simp only [show (⟨⟨0,0,0,0,0,0,0,0⟩,0,false,false,-1,0⟩ : Fr) = frF from rfl,HFR.out] at hq
 simp only [Act.put,List.setIfInBounds_toArray,List.set_cons_succ,List.set_cons_zero,frv,frF,pg0];iterate 12 (refine lax_quiet rfl rfl rfl (fun K hK=>?_); go_big_quiet_op; refine hK _ ?_; clear hK K)
 refine lax_nil fun w1 hg1 hF=>?_
 have HG1 : Hid (Grew w w1):=HG0.out.trans hg1;go_wp2;go_ret;exact ⟨rfl,HG1.out⟩
theorem wf8 (b0 b1 b2 b3 b4 b5 b6 b7 r : Int) (u d : Bool) (f x : Int) (w : World) (hb1 : inB r 1001 = true) (hb2 : inB x 12 = true) (hf : (f != -1) = false) (_hfe : (f == -1) = true) (hr : (r == 0) = false) (hx : (x != 0) = true) :
  Calls Tryz.prog 121 #[.agg #[.int .u8 b0,.int .u8 b1,.int .u8 b2,.int .u8 b3,.int .u8 b4,.int .u8 b5,.int .u8 b6,.int .u8 b7,.int .i64 r,.bool u,.bool d,.int .i64 f,.int .i64 x]] w fun e w'=>e = .returned (.int .i64 7)∧Grew w w':=by
 go_enter Tryz.func121,Tryz.ntmps121
 go_wp2_with (go_at_call 122; refine (frBelow_any _ _ _).mono ?_; rintro e w' ⟨rfl,rfl⟩)
 obtain ⟨W0,hW0⟩ : ∃ W0,w.alloc (.cells #[.int .u8 b0,.int .u8 b1,.int .u8 b2,.int .u8 b3,.int .u8 b4,.int .u8 b5,.int .u8 b6,.int .u8 b7,.int .i64 r,.bool u,.bool d,.int .i64 f,.int .i64 x] 59) = W0:=⟨_,rfl⟩;have HG0 : Hid (Grew w W0):=show Grew w W0 by rw [←hW0]; exact grew_alloc _ _
 have X0 : Hid (Box W0 w.heap.size [.int .u8 b0,.int .u8 b1,.int .u8 b2,.int .u8 b3,.int .u8 b4,.int .u8 b5,.int .u8 b6,.int .u8 b7,.int .i64 r,.bool u,.bool d,.int .i64 f,.int .i64 x]):=show Box _ _ _ by rw [←hW0]; exact Box.top w _ _ rfl
 rw [hW0];clear hW0;have hx0 : ∀ y : GrownW W0,y.world.cell? ⟨w.heap.size,0,none⟩ = some (.int .u8 b0):=fun y=>(X0.out.grew y.grew).c 0 rfl
 have hx1 : ∀ y : GrownW W0,y.world.cell? ⟨w.heap.size,1,none⟩ = some (.int .u8 b1):=fun y=>(X0.out.grew y.grew).c 1 rfl
 have hx2 : ∀ y : GrownW W0,y.world.cell? ⟨w.heap.size,2,none⟩ = some (.int .u8 b2):=fun y=>(X0.out.grew y.grew).c 2 rfl
 have hx3 : ∀ y : GrownW W0,y.world.cell? ⟨w.heap.size,3,none⟩ = some (.int .u8 b3):=fun y=>(X0.out.grew y.grew).c 3 rfl
 have hx4 : ∀ y : GrownW W0,y.world.cell? ⟨w.heap.size,4,none⟩ = some (.int .u8 b4):=fun y=>(X0.out.grew y.grew).c 4 rfl
 have hx5 : ∀ y : GrownW W0,y.world.cell? ⟨w.heap.size,5,none⟩ = some (.int .u8 b5):=fun y=>(X0.out.grew y.grew).c 5 rfl
 have hx6 : ∀ y : GrownW W0,y.world.cell? ⟨w.heap.size,6,none⟩ = some (.int .u8 b6):=fun y=>(X0.out.grew y.grew).c 6 rfl
 have hx7 : ∀ y : GrownW W0,y.world.cell? ⟨w.heap.size,7,none⟩ = some (.int .u8 b7):=fun y=>(X0.out.grew y.grew).c 7 rfl
 have hx8 : ∀ y : GrownW W0,y.world.cell? ⟨w.heap.size,8,none⟩ = some (.int .i64 r):=fun y=>(X0.out.grew y.grew).c 8 rfl
 have hx9 : ∀ y : GrownW W0,y.world.cell? ⟨w.heap.size,9,none⟩ = some (.bool u):=fun y=>(X0.out.grew y.grew).c 9 rfl
 have hx10 : ∀ y : GrownW W0,y.world.cell? ⟨w.heap.size,10,none⟩ = some (.bool d):=fun y=>(X0.out.grew y.grew).c 10 rfl
 have hx11 : ∀ y : GrownW W0,y.world.cell? ⟨w.heap.size,11,none⟩ = some (.int .i64 f):=fun y=>(X0.out.grew y.grew).c 11 rfl
 have hx12 : ∀ y : GrownW W0,y.world.cell? ⟨w.heap.size,12,none⟩ = some (.int .i64 x):=fun y=>(X0.out.grew y.grew).c 12 rfl
 have hne : Nonempty (GrownW W0):=⟨⟨_,Grew.refl _⟩⟩;refine wp_lax [(5,⟨fun v=>v = .agg (frv frF).toArray,fun _ _=>True⟩)] mixed (by kernel_rfl) ?_ ?_ ?_
 ·intro x hx
  simp at hx
  subst hx;exact ⟨_,rfl⟩
 ·intro x hx
  simp at hx
  subst hx;exact fun _ _ _ _ h=>h
 iterate 4 (refine lax_quiet rfl rfl rfl (fun K hK=>?_); go_big_quiet_op; refine hK _ ?_; clear hK K)
 iterate 3 (refine lax_skip ?_ ?_; kernel_rfl; simp only [Act.put,List.setIfInBounds_toArray,List.set_cons_succ,List.set_cons_zero])
 iterate 11 (refine lax_quiet rfl rfl rfl (fun K hK=>?_); go_big_quiet_op; refine hK _ ?_; clear hK K)
 refine lax_nil fun w1 hg1 hF=>?_
 have HG1 : Hid (Grew w w1):=HG0.out.trans hg1;go_wp2;go_ret;exact ⟨rfl,HG1.out⟩
theorem wf9 (b0 b1 b2 b3 b4 b5 b6 b7 r : Int) (u d : Bool) (f x : Int) (w : World) (hb1 : inB r 1001 = true) (hb2 : inB x 12 = true) (hf : (f != -1) = false) (_hfe : (f == -1) = true) (hr : (r == 0) = false) (hx : (x != 0) = false) :
  Calls Tryz.prog 121 #[.agg #[.int .u8 b0,.int .u8 b1,.int .u8 b2,.int .u8 b3,.int .u8 b4,.int .u8 b5,.int .u8 b6,.int .u8 b7,.int .i64 r,.bool u,.bool d,.int .i64 f,.int .i64 x]] w fun e w'=>e = .returned (.int .i64 0)∧Grew w w':=by
 go_enter Tryz.func121,Tryz.ntmps121
 go_wp2_with (go_at_call 122; refine (frBelow_any _ _ _).mono ?_; rintro e w' ⟨rfl,rfl⟩)
 obtain ⟨W0,hW0⟩ : ∃ W0,w.alloc (.cells #[.int .u8 b0,.int .u8 b1,.int .u8 b2,.int .u8 b3,.int .u8 b4,.int .u8 b5,.int .u8 b6,.int .u8 b7,.int .i64 r,.bool u,.bool d,.int .i64 f,.int .i64 x] 59) = W0:=⟨_,rfl⟩;have HG0 : Hid (Grew w W0):=show Grew w W0 by rw [←hW0]; exact grew_alloc _ _
 have X0 : Hid (Box W0 w.heap.size [.int .u8 b0,.int .u8 b1,.int .u8 b2,.int .u8 b3,.int .u8 b4,.int .u8 b5,.int .u8 b6,.int .u8 b7,.int .i64 r,.bool u,.bool d,.int .i64 f,.int .i64 x]):=show Box _ _ _ by rw [←hW0]; exact Box.top w _ _ rfl
 rw [hW0];clear hW0;have hx0 : ∀ y : GrownW W0,y.world.cell? ⟨w.heap.size,0,none⟩ = some (.int .u8 b0):=fun y=>(X0.out.grew y.grew).c 0 rfl
 have hx1 : ∀ y : GrownW W0,y.world.cell? ⟨w.heap.size,1,none⟩ = some (.int .u8 b1):=fun y=>(X0.out.grew y.grew).c 1 rfl
 have hx2 : ∀ y : GrownW W0,y.world.cell? ⟨w.heap.size,2,none⟩ = some (.int .u8 b2):=fun y=>(X0.out.grew y.grew).c 2 rfl
 have hx3 : ∀ y : GrownW W0,y.world.cell? ⟨w.heap.size,3,none⟩ = some (.int .u8 b3):=fun y=>(X0.out.grew y.grew).c 3 rfl
 have hx4 : ∀ y : GrownW W0,y.world.cell? ⟨w.heap.size,4,none⟩ = some (.int .u8 b4):=fun y=>(X0.out.grew y.grew).c 4 rfl
 have hx5 : ∀ y : GrownW W0,y.world.cell? ⟨w.heap.size,5,none⟩ = some (.int .u8 b5):=fun y=>(X0.out.grew y.grew).c 5 rfl
 have hx6 : ∀ y : GrownW W0,y.world.cell? ⟨w.heap.size,6,none⟩ = some (.int .u8 b6):=fun y=>(X0.out.grew y.grew).c 6 rfl
 have hx7 : ∀ y : GrownW W0,y.world.cell? ⟨w.heap.size,7,none⟩ = some (.int .u8 b7):=fun y=>(X0.out.grew y.grew).c 7 rfl
 have hx8 : ∀ y : GrownW W0,y.world.cell? ⟨w.heap.size,8,none⟩ = some (.int .i64 r):=fun y=>(X0.out.grew y.grew).c 8 rfl
 have hx9 : ∀ y : GrownW W0,y.world.cell? ⟨w.heap.size,9,none⟩ = some (.bool u):=fun y=>(X0.out.grew y.grew).c 9 rfl
 have hx10 : ∀ y : GrownW W0,y.world.cell? ⟨w.heap.size,10,none⟩ = some (.bool d):=fun y=>(X0.out.grew y.grew).c 10 rfl
 have hx11 : ∀ y : GrownW W0,y.world.cell? ⟨w.heap.size,11,none⟩ = some (.int .i64 f):=fun y=>(X0.out.grew y.grew).c 11 rfl
 have hx12 : ∀ y : GrownW W0,y.world.cell? ⟨w.heap.size,12,none⟩ = some (.int .i64 x):=fun y=>(X0.out.grew y.grew).c 12 rfl
 have hne : Nonempty (GrownW W0):=⟨⟨_,Grew.refl _⟩⟩;refine wp_lax [(5,⟨fun v=>v = .agg (frv frF).toArray,fun _ _=>True⟩)] mixed (by kernel_rfl) ?_ ?_ ?_
 ·intro x hx
  simp at hx
  subst hx;exact ⟨_,rfl⟩
 ·intro x hx
  simp at hx
  subst hx;exact fun _ _ _ _ h=>h
 iterate 4 (refine lax_quiet rfl rfl rfl (fun K hK=>?_); go_big_quiet_op; refine hK _ ?_; clear hK K)
 iterate 3 (refine lax_skip ?_ ?_; kernel_rfl; simp only [Act.put,List.setIfInBounds_toArray,List.set_cons_succ,List.set_cons_zero])
 iterate 11 (refine lax_quiet rfl rfl rfl (fun K hK=>?_); go_big_quiet_op; refine hK _ ?_; clear hK K)
 refine lax_nil fun w1 hg1 hF=>?_
 have HG1 : Hid (Grew w w1):=HG0.out.trans hg1;go_wp2;go_ret;exact ⟨rfl,HG1.out⟩
theorem wrongFrame_any (a : Fr) (w : World) : Calls Tryz.prog 121 #[.agg (frv a).toArray] w fun e w'=>e = .returned (.int .i64 (frW a))∧Grew w w':=by
 obtain ⟨⟨b0,b1,b2,b3,b4,b5,b6,b7⟩,r,u,d,f,x⟩:=a
 show Calls Tryz.prog 121 #[.agg #[.int .u8 b0,.int .u8 b1,.int .u8 b2,.int .u8 b3,.int .u8 b4,.int .u8 b5,.int .u8 b6,.int .u8 b7,.int .i64 r,.bool u,.bool d,.int .i64 f,.int .i64 x]] w _
 cases hb1 : inB r 1001 with
 | false=>rw [show frW (⟨⟨b0,b1,b2,b3,b4,b5,b6,b7⟩,r,u,d,f,x⟩ : Fr) = 3 from by simp [frW,hb1]]; exact wf1 _ _ _ _ _ _ _ _ _ _ _ _ _ w hb1
 | true =>
 cases hb2 : inB x 12 with
 | false=>rw [show frW (⟨⟨b0,b1,b2,b3,b4,b5,b6,b7⟩,r,u,d,f,x⟩ : Fr) = 3 from by simp [frW,hb1,hb2]]; exact wf2 _ _ _ _ _ _ _ _ _ _ _ _ _ w hb1 hb2
 | true =>
 by_cases hf : f = -1
 ·have hfe : (f == -1) = true:=by simp [hf]
  have hfn : (f != -1) = false:=by simp [hf]
  by_cases hr : r = 0
  ·have hre : (r == 0) = true:=by simp [hr]
   cases hfr : frEqB (⟨⟨b0,b1,b2,b3,b4,b5,b6,b7⟩,r,u,d,f,x⟩ : Fr) frF with
   | false=>rw [show frW (⟨⟨b0,b1,b2,b3,b4,b5,b6,b7⟩,r,u,d,f,x⟩ : Fr) = 7 from by simp only [frW,hb1,hb2,hfe,hre,hfr]; rfl]; exact wf6 _ _ _ _ _ _ _ _ _ _ _ _ _ w hb1 hb2 hfn hfe hre hfr
   | true =>
    have hx : x = 0:=by have:=frEqB_eq hfr; simp only [frF,Fr.mk.injEq] at this; exact this.2.2.2.2.2
    rw [show frW (⟨⟨b0,b1,b2,b3,b4,b5,b6,b7⟩,r,u,d,f,x⟩ : Fr) = 0 from by subst hx; simp only [frW,hb1,hb2,hfe,hre,hfr]; rfl]
    exact wf7 _ _ _ _ _ _ _ _ _ _ _ _ _ w hb1 hb2 hfn hfe hre hfr (by simp [hx])
  ·have hre : (r == 0) = false:=by simp [hr]
   by_cases hx : x = 0
   ·rw [show frW (⟨⟨b0,b1,b2,b3,b4,b5,b6,b7⟩,r,u,d,f,x⟩ : Fr) = 0 from by subst hx; simp only [frW,hb1,hb2,hfe,hre]; rfl]
    exact wf9 _ _ _ _ _ _ _ _ _ _ _ _ _ w hb1 hb2 hfn hfe hre (by simp [hx])
   ·have hxe : (x == 0) = false:=by simp [hx]
    rw [show frW (⟨⟨b0,b1,b2,b3,b4,b5,b6,b7⟩,r,u,d,f,x⟩ : Fr) = 7 from by simp only [frW,hb1,hb2,hfe,hre,hxe]; rfl]
    exact wf8 _ _ _ _ _ _ _ _ _ _ _ _ _ w hb1 hb2 hfn hfe hre (by simp [hx])
 ·have hfe : (f == -1) = false:=by simp [hf]
  have hfn : (f != -1) = true:=by simp [hf]
  cases hb3 : inB f 5 with
  | false=>rw [show frW (⟨⟨b0,b1,b2,b3,b4,b5,b6,b7⟩,r,u,d,f,x⟩ : Fr) = 3 from by simp only [frW,hb1,hb2,hfe,hb3]; rfl]; exact wf3 _ _ _ _ _ _ _ _ _ _ _ _ _ w hb1 hb2 hfn hb3
  | true =>
   by_cases hr : r = 0
   ·have hre : (r == 0) = true:=by simp [hr]
    have hfr : frEqB (⟨⟨b0,b1,b2,b3,b4,b5,b6,b7⟩,r,u,d,f,x⟩ : Fr) frF = false:=by
     refine frEqB_ne fun h=>?_
     simp only [frF,Fr.mk.injEq] at h;exact hf h.2.2.2.2.1
    rw [show frW (⟨⟨b0,b1,b2,b3,b4,b5,b6,b7⟩,r,u,d,f,x⟩ : Fr) = 7 from by simp only [frW,hb1,hb2,hfe,hb3,hre,hfr]; rfl]
    exact wf4 _ _ _ _ _ _ _ _ _ _ _ _ _ w hb1 hb2 hfn hfe hb3 hre hfr
   ·have hre : (r == 0) = false:=by simp [hr]
    rw [show frW (⟨⟨b0,b1,b2,b3,b4,b5,b6,b7⟩,r,u,d,f,x⟩ : Fr) = 0 from by simp only [frW,hb1,hb2,hfe,hb3,hre]; rfl]
    exact wf5 _ _ _ _ _ _ _ _ _ _ _ _ _ w hb1 hb2 hfn hfe hb3 hre
theorem wrongMem_any (a : Option Addr) (c : Nat) (fs : List Fr) (h : Int) (w : World) (hv : frRowAt w (.slice a fs.length c) fs) :
  Calls Tryz.prog 77 #[.agg #[.slice a fs.length c,.int .i64 h]] w fun e w'=>e = .returned (.int .i64 (memW fs h))∧Grew w w':=by
 have hbig:=hv.short;obtain ⟨a',c',heq,hrow⟩:=hv.frs;cases heq;have HR : Hid (FrRows w a fs):=hrow;clear hrow hv;have HM : Hid (memW fs h = if 40 < fs.length then 4 else if frsW fs = 0 then (if inB h (max fs.length 1) then 0 else 3) else frsW fs):=rfl;obtain ⟨n,HN⟩ : ∃ n,Hid (fs.length = n):=⟨_,rfl⟩;rw [HN.out] at hbig HM ⊢;obtain ⟨W0,hW0⟩ : ∃ W0,w.alloc (.cells #[.slice a n c,.int .i64 h] 27) = W0:=⟨_,rfl⟩;have HG0 : Hid (Grew w W0):=show Grew w W0 by rw [←hW0]; exact grew_alloc _ _
 have X0 : Hid (Box W0 w.heap.size [.slice a n c,.int .i64 h]):=show Box _ _ _ by rw [←hW0]; exact Box.top w _ _ rfl
 have HW0 : Hid (_ = W0):=hW0;clear hW0
 by_cases h40 : 40 < n
 ·have h40z : (40 : Int) < (n : Int):=by omega
  go_enter Tryz.func77,Tryz.ntmps77
  go_wp2;go_ret;exact ⟨by rw [HM.out,if_pos h40]; rfl,by rw [HW0.out]; exact HG0.out⟩
 ·have h40z : ¬ (40 : Int) < (n : Int):=by omega
  rw [if_neg h40] at HM
  go_enter Tryz.func77,Tryz.ntmps77
  go_wp2;rw [HW0.out]
  go_loopg [4,5,13] n (fun gg _ _ s13 wr=>∃ kk : Nat,kk≤n∧n - kk≤gg∧s13 = .int .i64 kk∧Hid (Grew W0 wr)∧Hid (frsW (fs.drop kk) = frsW fs))
  case atStart=>exact ⟨0,Nat.zero_le _,by omega,rfl,Grew.refl _,rfl⟩
  case round =>
   obtain ⟨kk,hkk,hg,rfl,BW,A⟩:=hrel
   by_cases hlt : kk < n
   ·have hltz : (kk : Int) < (n : Int):=by omega
    obtain ⟨q,HQ⟩ : ∃ q,Hid (fs[kk]? = some q):=⟨_,List.getElem?_eq_getElem (by rw [HN.out]; exact hlt)⟩
    obtain ⟨ad,rfl,hl⟩:=HR.out kk q HQ.out;obtain ⟨d0,d1,d2,d3,d4,d5,d6,d7,d8,d9,d10,d11,d12⟩:=hl wr (HG0.out.trans BW.out);have hcall : ∀ W,Calls Tryz.prog 121 #[.agg #[.int .u8 q.p.b0,.int .u8 q.p.b1,.int .u8 q.p.b2,.int .u8 q.p.b3,.int .u8 q.p.b4,.int .u8 q.p.b5,.int .u8 q.p.b6,.int .u8 q.p.b7,.int .i64 q.r,.bool q.u,.bool q.d,.int .i64 q.f,.int .i64 q.x]] W fun e w'=>e = .returned (.int .i64 (frW q))∧Grew W w':=fun W=>wrongFrame_any q W
    have HST : Hid (frsW (fs.drop kk) = if frW q = 0 then frsW (fs.drop (kk + 1)) else frW q):=show _ = _ by
     obtain ⟨hlt',rfl⟩:=List.getElem?_eq_some_iff.1 HQ.out;rw [List.drop_eq_getElem_cons hlt'];rfl
    clear hl
    generalize frW q = z at hcall HST
    by_cases hz : z = 0
    ·have HA : Hid (frsW (fs.drop (kk + 1)) = frsW fs):=show _ = _ by rw [←A.out,HST.out,if_pos hz]
     subst hz;clear HST
     go_wp2_with (go_at_call 121; refine (hcall _).mono ?_; rintro e w' ⟨rfl,hb'⟩)
     go_roundg (n - (kk + 1))
     case measure=>omega
     case rel=>exact ⟨kk + 1,by omega,by omega,by go_num,(BW.out.trans (grew_alloc _ _)).trans hb',HA.out⟩
    ·have hzb : (z != 0) = true:=by simpa using hz
     have HF : Hid (memW fs h = z):=show _ = _ by
      have h1:=A.out;rw [HST.out,if_neg hz] at h1;rw [HM.out,←h1,if_neg hz]
     clear HST A HM
     go_wp2_with (go_at_call 121; refine (hcall _).mono ?_; rintro e w' ⟨rfl,hb'⟩)
     go_ret;exact ⟨by rw [HF.out]; rfl,((HG0.out.trans BW.out).trans (grew_alloc _ _)).trans hb'⟩
   ·have hltz : ¬ (kk : Int) < (n : Int):=by omega
    have : kk = n:=by omega
    subst this;have e0:=(X0.out.grew BW.out).c 0 rfl;have e1:=(X0.out.grew BW.out).c 1 rfl;have hz : frsW fs = 0:=by rw [←A.out,List.drop_of_length_le (by rw [HN.out]; exact Nat.le_refl _)]; rfl
    have HM' : Hid (memW fs h = if inB h (max kk 1) then 0 else 3):=show _ = _ by rw [HM.out,if_pos hz]
    clear HM A hz;have hbel : ∀ W,Calls Tryz.prog 122 #[.int .i64 h,.int .i64 (max (kk : Int) 1)] W fun e w'=>e = .returned (.bool (inB h (max kk 1)))∧w' = W:=fun W=>frBelow_any h _ W
    generalize inB h (max kk 1) = bb at hbel HM'
    cases bb with
    | true =>
     have HF : Hid (memW fs h = 0):=show _ = _ by rw [HM'.out]; rfl
     clear HM'
     go_wp2_with (go_at_call 122; refine (hbel _).mono ?_; rintro e w' ⟨rfl,rfl⟩)
     go_ret;exact ⟨by rw [HF.out]; rfl,HG0.out.trans BW.out⟩
    | false =>
     have HF : Hid (memW fs h = 3):=show _ = _ by rw [HM'.out]; rfl
     clear HM'
     go_wp2_with (go_at_call 122; refine (hbel _).mono ?_; rintro e w' ⟨rfl,rfl⟩)
     go_ret;exact ⟨by rw [HF.out]; rfl,HG0.out.trans BW.out⟩
theorem slWrong1_any (z : Int) (w : World) :
  Calls Tryz.prog 124 #[.int .i64 z] w fun e w'=>e = .returned (.bool (badS z))∧Grew w w':=by
 by_cases h0 : z < 0
 ·have HF : Hid (badS z = true):=show _ = _ by simp [badS,h0]
  go_enter Tryz.func124,Tryz.ntmps124
  go_wp2;go_ret;exact ⟨by rw [HF.out]; rfl,Grew.refl _⟩
 ·by_cases h1 : 1000 < z
  ·have HF : Hid (badS z = true):=show _ = _ by simp [badS,h1]
   go_enter Tryz.func124,Tryz.ntmps124
   go_wp2;go_ret;exact ⟨by rw [HF.out]; rfl,Grew.refl _⟩
  ·have HF : Hid (badS z = false):=show _ = _ by simp [badS]; omega
   go_enter Tryz.func124,Tryz.ntmps124
   go_wp2;go_ret;exact ⟨by rw [HF.out]; rfl,Grew.refl _⟩
theorem any_at {p : Int→Bool} {fs : List Int} {k : Nat} {q : Int} (h : fs[k]? = some q) (hq : p q = true) : fs.any p = true:=List.any_eq_true.2 ⟨q,List.mem_of_getElem? h,hq⟩
theorem any_no {p : Int→Bool} {fs : List Int} (hb : ∀ (j : Nat) x,fs[j]? = some x→p x = false) : fs.any p = false:=List.any_eq_false.2 fun x hx=>by
 obtain ⟨j,hj⟩:=List.getElem?_of_mem hx;rw [hb j x hj]
 decide
theorem indexBad_any (v : Value) (fs : List Int) (w : World) (hv : RowAt slE w v fs) :
  Calls Tryz.prog 150 #[v,.func (.func 124) #[] #[]] w fun e w'=>(∃ z : Int,e = .returned (.int .i64 z)∧decide (0≤z) = fs.any badS)∧Grew w w':=by
 have hbig:=hv.short;obtain ⟨a,c,rfl,hrow⟩:=hv.sls;have HR : Hid (SlRows w a fs):=hrow;have eg:=enters_of Tryz.func124 (by kernel_rfl) rfl
 clear hrow hv;obtain ⟨n,HN⟩ : ∃ n,Hid (fs.length = n):=⟨_,rfl⟩;rw [HN.out] at hbig ⊢
 go_enter Tryz.func150,Tryz.ntmps150
 go_wp2
 go_loopg [5,8] n (fun gg _ s8 wr=>∃ kk : Nat,kk≤n∧n - kk≤gg∧s8 = .int .i64 kk∧Hid (Grew w wr)∧Hid (∀ j q,j < kk→fs[j]? = some q→badS q = false))
 case atStart=>exact ⟨0,Nat.zero_le _,by omega,rfl,Grew.refl w,fun j q hj=>absurd hj (Nat.not_lt_zero _)⟩
 case round =>
  obtain ⟨kk,hkk,hg,rfl,BW,A⟩:=hrel
  by_cases hlt : kk < n
  ·have hltz : (kk : Int) < (n : Int):=by omega
   obtain ⟨q,HQ⟩ : ∃ q,Hid (fs[kk]? = some q):=⟨_,List.getElem?_eq_getElem (by rw [HN.out]; exact hlt)⟩
   obtain ⟨ad,rfl,hl⟩:=HR.out kk q HQ.out;have d0:=hl wr BW.out;have hcall : Calls Tryz.prog 124 #[.int .i64 q] wr fun e w'=>e = .returned (.bool (badS q))∧Grew wr w':=slWrong1_any q wr
   clear hl
   cases hq : badS q with
   | true =>
    rw [hq] at hcall;have HF : Hid (decide (0≤(kk : Int)) = fs.any badS):=show _ = _ by rw [any_at HQ.out hq]; simp
    clear hq
    go_wp2_with (go_at_call 124; refine hcall.mono ?_; rintro e w' ⟨rfl,hb'⟩)
    go_ret;exact ⟨⟨_,rfl,HF.out⟩,BW.out.trans hb'⟩
   | false =>
    rw [hq] at hcall;have HA : Hid (∀ (j : Nat) q,j < kk + 1→fs[j]? = some q→badS q = false):=show ∀ (j : Nat) q,_ from fun j q' hj hq'=>by
     by_cases e : j = kk
     ·subst e;rw [HQ.out] at hq';cases hq';exact hq
     ·exact A.out j q' (by omega) hq'
    clear hq
    go_wp2_with (go_at_call 124; refine hcall.mono ?_; rintro e w' ⟨rfl,hb'⟩)
    go_roundg (n - (kk + 1))
    case measure=>omega
    case rel=>exact ⟨kk + 1,by omega,by omega,by go_num,BW.out.trans hb',HA.out⟩
  ·have hltz : ¬ (kk : Int) < (n : Int):=by omega
   have : kk = n:=by omega
   subst this;have HF : Hid (decide (0≤(-1 : Int)) = fs.any badS):=show _ = _ by
    rw [any_no (fun j q hj=>A.out j q (by rw [←HN.out]; exact (List.getElem?_eq_some_iff.1 hj).1) hj)]
    rfl
   go_wp2;go_ret;exact ⟨⟨_,rfl,HF.out⟩,BW.out⟩
theorem anyBad_any (v : Value) (fs : List Int) (w : World) (hv : RowAt slE w v fs) :
  Calls Tryz.prog 123 #[v,.func (.func 124) #[] #[]] w fun e w'=>e = .returned (.bool (fs.any badS))∧Grew w w':=by
 have h1:=indexBad_any v fs w hv;obtain ⟨a,c,rfl,_⟩:=hv.sls;clear hv
 generalize fs.any badS = bb at h1 ⊢
 go_enter Tryz.func123,Tryz.ntmps123
 go_wp2_with fail;refine h1.mono ?_;rintro e W1 ⟨⟨z,rfl,hz⟩,g1⟩;have G1 : Hid (Grew w W1):=g1;have HF : Hid (decide (0≤z) = bb):=hz;clear g1 hz h1;go_wp2;go_ret;exact ⟨by rw [HF.out]; rfl,G1.out⟩
theorem wrongS_any (a : Option Addr) (c : Nat) (s : List Int) (w : World) (hv : RowAt slE w (.slice a s.length c) s) :
  Calls Tryz.prog 78 #[.slice a s.length c] w fun e w'=>e = .returned (.int .i64 (slW s))∧Grew w w':=by
 have h1:=anyBad_any _ s w hv;have HM : Hid (slW s = if 60 < s.length then 4 else if s.any badS then 3 else 0):=rfl;have hbig:=hv.short;obtain ⟨n,HN⟩ : ∃ n,Hid (s.length = n):=⟨_,rfl⟩;rw [HN.out] at h1 HM hbig ⊢;clear hv
 generalize s.any badS = bb at h1 HM
 by_cases h60 : 60 < n
 ·have h60z : (60 : Int) < (n : Int):=by omega
  have HF : Hid (slW s = 4):=show _ = _ by rw [HM.out,if_pos h60]
  clear HM h1
  go_enter Tryz.func78,Tryz.ntmps78
  go_wp2;go_ret;exact ⟨by rw [HF.out]; rfl,Grew.refl _⟩
 ·have h60z : ¬ (60 : Int) < (n : Int):=by omega
  rw [if_neg h60] at HM
  cases bb with
  | true =>
   have HF : Hid (slW s = 3):=HM.out;clear HM
   go_enter Tryz.func78,Tryz.ntmps78
   go_wp2_with fail;refine h1.mono ?_;rintro e W1 ⟨rfl,g1⟩;have G1 : Hid (Grew w W1):=g1;clear g1 h1;go_wp2;go_ret;exact ⟨by rw [HF.out]; rfl,G1.out⟩
  | false =>
   have HF : Hid (slW s = 0):=HM.out;clear HM
   go_enter Tryz.func78,Tryz.ntmps78
   go_wp2_with fail;refine h1.mono ?_;rintro e W1 ⟨rfl,g1⟩;have G1 : Hid (Grew w W1):=g1;clear g1 h1;go_wp2;go_ret;exact ⟨by rw [HF.out]; rfl,G1.out⟩
def marks (n : Nat) (g : List Int) : List Value:=(List.range n).map fun (i : Nat) => .bool (g.contains (i : Int))
theorem marks_at {n : Nat} (g : List Int) {i : Nat} (hi : i < n) : (marks n g)[i]? = some (.bool (g.contains (i : Int))):=by
 unfold marks;rw [List.getElem?_map,List.getElem?_range hi];rfl
theorem marks_set {n : Nat} (g : List Int) {i : Nat} (hi : i < n) : (marks n g).set i (.bool true) = marks n ((i : Int) :: g):=by
 apply List.ext_getElem?
 intro j
 by_cases e : j = i
 ·subst e;rw [List.getElem?_set_self (by simp [marks,hi]),marks_at _ hi]
  simp
 ·rw [List.getElem?_set_ne (fun h=>e h.symm)]
  rcases Nat.lt_or_ge j n with hj | hj
  ·rw [marks_at _ hj,marks_at _ hj];have : ¬ ((j : Int) = (i : Int)):=by omega
   simp [this]
  ·rw [List.getElem?_eq_none (by simp [marks,hj]),List.getElem?_eq_none (by simp [marks,hj])]
theorem marks_nil : marks 80 [] = List.replicate 80 (.bool false):=by
 unfold marks
 simp [List.map_const']
theorem give_any (b cnt : Int) (g : List Int) (pc pg : Nat) (w : World) (hc : Box w pc [.int .i64 cnt]) (hg : Box w pg (marks 80 g)) (hn : cnt≤80) :
  Calls Tryz.prog 152 #[.int .i64 b,.pointer (some ⟨pc,0,none⟩),.pointer (some ⟨pg,0,none⟩)] w fun e w'=>e = .returned (.int .i64 (giveE cnt g b))∧(giveE cnt g b = 0→Box w' pg (marks 80 (giveG g b)))∧w.grownBy w' (some pg)∧w'.heap.size = w.heap.size:=by
 have c0:=hc.c 0 rfl;have HG : Hid (Box w pg (marks 80 g)):=hg
 rcases giveE_cases cnt g b with ⟨h1,h2,h3⟩ | ⟨h1,h2,h3⟩ | ⟨i,h1,h2,h3,h4⟩ | ⟨i,h1,h2,h3,h4,h5⟩
 ·rw [h2];have HP : Hid (Box w pg (marks 80 (giveG g b))):=show Box _ _ _ by rw [h3]; exact hg
  subst h1;clear hc hg h2 h3
  generalize giveG g (-1) = gg at HP ⊢
  go_enter Tryz.func152,Tryz.ntmps152
  go_wp2;go_ret;exact ⟨rfl,fun _=>HP.out,World.grownBy.rfl' _ _,rfl⟩
 ·rw [h3];have hb:=below_no h2 w;have hb1 : (b == -1) = false:=by simpa using h1
  clear hc hg h2 h3
  generalize giveG g b = gg
  go_enter Tryz.func152,Tryz.ntmps152
  go_wp2_with (go_at_call 113; refine hb.mono ?_; rintro e w' ⟨rfl,rfl⟩)
  go_ret;exact ⟨rfl,fun h=>by omega,World.grownBy.rfl' _ _,rfl⟩
 ·rw [h4];subst h1;have hi : i < 80:=by omega
  have hb:=below_yes (m:=(i : Int)) (n:=cnt) (by omega) h2 w
  have hb1 : ((i : Int) == -1) = false:=by simp
  have d0:=hg.c i (marks_at g hi);rw [h3] at d0
  generalize giveG g (i : Int) = gg
  clear hc hg h2 h3 h4
  go_enter Tryz.func152,Tryz.ntmps152
  go_wp2_with (go_at_call 113; refine hb.mono ?_; rintro e w' ⟨rfl,rfl⟩)
  go_ret;exact ⟨rfl,fun h=>by omega,World.grownBy.rfl' _ _,rfl⟩
 ·rw [h4];subst h1;have hi : i < 80:=by omega
  have hb:=below_yes (m:=(i : Int)) (n:=cnt) (by omega) h2 w
  have hb1 : ((i : Int) == -1) = false:=by simp
  have d0:=hg.c i (marks_at g hi);have f0:=hg.f;rw [h3] at d0;have HP : Hid (Box (w.setCell ⟨pg,i,none⟩ (.bool true)) pg (marks 80 (giveG g (i : Int)))):=show Box _ _ _ by
   rw [h5,←marks_set g hi];exact hg.set i _
  generalize giveG g (i : Int) = gg at HP
  clear hc hg h2 h3 h4 h5
  go_enter Tryz.func152,Tryz.ntmps152
  go_wp2_with (go_at_call 113; refine hb.mono ?_; rintro e w' ⟨rfl,rfl⟩)
  go_ret;exact ⟨rfl,fun _=>HP.out,⟨rfl,rfl,rfl,by simp [World.setCell],fun k hk hne=>Below.heap_setCell _ _ _ _ (fun e=>hne (by rw [e]))⟩,by simp [World.setCell]⟩
def zGiven : Array Value:=(List.replicate 80 (.bool false)).toArray
theorem zGiven_info : (Tryz.prog.info? 153).map (fun i=>i.zero) = some (some (.agg zGiven)):=by kernel_rfl
theorem run_zGiven (w : World) : (zeroValue 153).run Tryz.prog w = .ok (.agg zGiven) w:=by
 have h:=zGiven_info
 cases hq : Tryz.prog.info? 153 with
 | none=>simp [hq] at h
 | some i =>
  simp [hq] at h
  simp [zeroValue,typeInfo,hq,h]
theorem giver_any (cnt : Int) (w : World) :
  Calls Tryz.prog 128 #[.int .i64 cnt] w fun e w'=>e = .returned (.func (.func 152) #[] #[.pointer (some ⟨w.heap.size,0,none⟩),.pointer (some ⟨w.heap.size + 1,0,none⟩)])∧Box w' w.heap.size [.int .i64 cnt]∧Box w' (w.heap.size + 1) (marks 80 [])∧Grew w w'∧w'.heap.size = w.heap.size + 2:=by
 have hmf : ∀ (fn : Fn) (first cap : Array Value) (w : World),(Instr.makeFunc fn first cap).run Tryz.prog w = .ok (.func fn first cap) w:=fun _ _ _ _=>rfl
 have hz:=run_zGiven;rw [marks_nil]
 go_enter Tryz.func128,Tryz.ntmps128
 go_wp2;go_ret;exact ⟨rfl,(Box.top w _ _ rfl).alloc _,Box.top _ (List.replicate 80 (.bool false)) _ (by simp),(grew_alloc _ _).trans (grew_alloc _ _),by simp⟩
end
end Go.Proofs.YtjleclgecnndjaaGreat
