import Derived.Test.YtjleclgecnndjaaGreatPC3
import Derived.Deep.DeepCutAuto
import Derived.OrdersHeld
namespace Go.Proofs.YtjleclgecnndjaaGreat
set_option maxRecDepth 100000
set_option maxHeartbeats 4000000
section
open Go.RowKit
section
variable {w0 w w' : World} {hi b : Nat} {vl : Sli} {L : List Int} {V : MaV} {m : Ma} {vt : Sli} {T : List (Nat→En)}
theorem Mk.setF (h : Mk w0 hi w b vl L V m vt T) {g : Nat} (hv : (Value.slice V.f.a V.f.n V.f.c).ownBlock = some g) (hg : w.grownBy w' (some g)) (hs : w'.heap.size = w.heap.size) {fs : List Fr} (ho : OwnRow frmE w0.heap.size w' (.slice V.f.a V.f.n V.f.c) fs) : Mk w0 hi w' b vl L V { m with fs:=fs } vt T∧Keeps hi w w':=by
 refine ⟨⟨grew_grown h.gr hg (h.rows.fs.lt g hv).1,h.hb,h.box.beside hg (fun k e=>by cases e; exact h.rows.fs.ne h.box (by decide) g hv),h.lr,h.lc,h.lb,h.rows.setF hv hg hs ho⟩,?_⟩
 obtain ⟨cs,hcs⟩:=h.rows.fs.obj hv;exact Keeps.kind hg hcs (fun _ hl=>absurd rfl hl.2.1)
theorem Mk.setS (h : Mk w0 hi w b vl L V m vt T) {g : Nat} (hv : (Value.slice V.s.a V.s.n V.s.c).ownBlock = some g) (hg : w.grownBy w' (some g)) (hs : w'.heap.size = w.heap.size) {ls : List Int} (ho : OwnRow slE w0.heap.size w' (.slice V.s.a V.s.n V.s.c) ls) : Mk w0 hi w' b vl L V { m with sl:=ls } vt T∧Keeps hi w w':=by
 refine ⟨⟨grew_grown h.gr hg (h.rows.sl.lt g hv).1,h.hb,h.box.beside hg (fun k e=>by cases e; exact h.rows.sl.ne h.box (by decide) g hv),h.lr,h.lc,h.lb,h.rows.setS hv hg hs ho⟩,?_⟩
 obtain ⟨cs,hcs⟩:=h.rows.sl.obj hv;exact Keeps.kind hg hcs (fun _ hl=>absurd rfl hl.2.2.1)
theorem Mk.setT (h : Mk w0 hi w b vl L V m vt T) {g : Nat} (hv : (Value.slice vt.a vt.n vt.c).ownBlock = some g) (hg : w.grownBy w' (some g)) (hs : w'.heap.size = w.heap.size) {T' : List (Nat→En)} (ho : OwnRow flaE w0.heap.size w' (.slice vt.a vt.n vt.c) T') : Mk w0 hi w' b vl L V m vt T'∧Keeps hi w w':=by
 refine ⟨⟨grew_grown h.gr hg (h.rows.tt.lt g hv).1,h.hb,h.box.beside hg (fun k e=>by cases e; exact h.rows.tt.ne h.box (by decide) g hv),h.lr,h.lc,h.lb,h.rows.setT hv hg hs ho⟩,?_⟩
 obtain ⟨cs,hcs⟩:=h.rows.tt.obj hv;exact Keeps.kind hg hcs (fun _ hl=>absurd rfl hl.2.2.2.2.2.2.2.1)
theorem ownPages_obj {base : Nat} {v : Value} {ps : List (List Int)} (h : OwnPages base w v ps) {g : Nat} (hg : v.ownBlock = some g) : base≤g∧∃ cs,w.heap[g]? = some (.cells cs 50 (0,0)):=by
 rcases h.1.2 with ⟨rfl,_⟩ | ⟨k,cap,cur,rfl,h2,h3,_⟩
 ·cases hg
 ·simp only [Value.ownBlock,Option.some.injEq] at hg;subst hg;exact ⟨h2,cur,h3⟩
theorem Mk.setSb (h : Mk w0 hi w b vl L V m vt T) {g : Nat} (hv : (Value.slice V.sb.a V.sb.n V.sb.c).ownBlock = some g) (hg : w.grownBy w' (some g)) (hs : w'.heap.size = w.heap.size) {ls : List (List Int)} (ho : OwnPages w0.heap.size w' (.slice V.sb.a V.sb.n V.sb.c) ls) : Mk w0 hi w' b vl L V { m with sb:=ls } vt T∧Keeps hi w w':=by
 obtain ⟨h1,cs,h2⟩:=ownPages_obj h.rows.sb hv;refine ⟨⟨grew_grown h.gr hg h1,h.hb,h.box.beside hg (fun k e=>?_),h.lr,h.lc,h.lb,h.rows.setSb h2 hv hg hs ho⟩,Keeps.kind hg h2 (fun p hl=>?_)⟩
 ·cases e;intro e;subst e;have h3 : w.heap[b]? = _:=h.box;rw [h2] at h3;cases h3
 ·have:=hl.2.2.2.2.2.2.2.2 rfl;have:=h.rows.sbh g hv;omega
end
theorem splice_one (l : List Value) {i : Nat} (h : i < l.length) (u : Value) : splice l i [u] = l.set i u:=by
 rw [List.set_eq_take_append_cons_drop,if_pos h]
 simp [splice]
theorem OwnRow.box {α : Type} {E : Elt α} {w : World} {base g : Nat} {v : Value} {l : List α} (h : OwnRow E base w v l) (hg : v.ownBlock = some g) : ∃ cs,BoxT w g E.ty cs:=by
 obtain ⟨cs,h1⟩:=h.obj hg;exact ⟨cs.toList,by unfold BoxT; rw [h1]⟩
theorem OwnRow.unfrozen {α : Type} {E : Elt α} {w : World} {base g : Nat} {v : Value} {l : List α} (h : OwnRow E base w v l) (hg : v.ownBlock = some g) : ∀ j,w.frozen? ⟨g,j,none⟩ = false:=by
 obtain ⟨cs,h1⟩:=h.box hg;exact h1.box.f
theorem OwnRow.cell {α : Type} {E : Elt α} {w : World} {base g : Nat} {v : Value} {l : List α} (h : OwnRow E base w v l) {k o : Nat} (hg : v.ownBlock = some g) {x y : α} (hk : l[k]? = some x) {u : Value} (hy : E.enc y = (E.enc x).set o u) (ho : o < E.k) :
  OwnRow E base (w.setCell ⟨g,k * E.k + o,none⟩ u) v (l.set k y)∧w.grownBy (w.setCell ⟨g,k * E.k + o,none⟩ u) (some g)∧(w.setCell ⟨g,k * E.k + o,none⟩ u).heap.size = w.heap.size:=by
 refine ⟨⟨?_,by rw [List.length_set]; exact h.2⟩,⟨rfl,rfl,rfl,by simp [World.setCell],fun j _ hj=>Below.heap_setCell _ _ _ _ (fun e=>hj (by rw [e]))⟩,by simp [World.setCell]⟩
 have hkl:=(List.getElem?_eq_some_iff.1 hk).1;refine ⟨by rw [List.length_set,row_len,List.length_set],?_⟩
 rcases h.1.2 with ⟨rfl,_⟩ | ⟨g',cap,cur,rfl,h2,h3,h4,h5,h6,h7⟩
 ·cases hg
 ·simp only [Value.ownBlock,Option.some.injEq] at hg;subst hg;have hb : BoxT w g' E.ty cur.toList:=by unfold BoxT; rw [h3]
  have hb2:=hb.set (k * E.k + o) u;refine .inr ⟨g',cap,(cur.toList.set (k * E.k + o) u).toArray,by rw [List.length_set],h2,hb2,by rw [List.length_set]; exact h4,h5,by simpa using h6,?_⟩
  rw [List.length_set,List.toList_toArray,List.take_set,h7,←splice_one _ ?_ u]
  ·refine splice_part o [u] (y:=y) ?_ (by simp; omega) l k hk
   rw [hy,splice_one _ (by rw [E.len]; exact ho)]
  ·rw [row_len];have : (k + 1) * E.k≤l.length * E.k:=Nat.mul_le_mul_right _ hkl;rw [Nat.add_mul] at this;omega
theorem loc_one {hi p : Nat} : Loc hi p 82:=⟨by decide,by decide,by decide,by decide,by decide,by decide,by decide,by decide,fun h=>absurd h (by decide)⟩
theorem BInv.refs {m : Ma} {T : List (Nat→En)} (h : BInv m T) {k : Nat} {f : Fr} (hk : m.fs[k]? = some f) : 0≤f.r∧f.r≤2000:=by
 have h1:=(h.cf k f hk).1;have h2:=hold_le T 1 k;have h3 : cachedN m.ca k≤m.ca.length:=List.countP_le_length;have h4:=h.cached.2.1;have h5:=h.tl;have h6:=h.spl;omega
def Ent (w0 : World) (hi b : Nat) (w : World) (L : List Int) (m : Ma) (vt : Sli) (T : List (Nat→En)) (p n : Nat) (f : Nat→En) (w' : World) : Prop:=∃ vl' L' V' m' T',Mk w0 hi w' b vl' L' V' m' vt T'∧Less L L'∧Keeps hi w w'∧BInv m' T'∧(m'.sp = m.sp∧m'.fl = m.fl∧m'.hand = m.hand∧m'.fs.length = m.fs.length)∧(T' = T∨∃ e,T' = T.set p (updF f n e))∧(L = []→m' = m∧T' = T)
theorem Ent.same {w0 : World} {hi b : Nat} {w : World} {L : List Int} {V : MaV} {m : Ma} {vt : Sli} {T : List (Nat→En)} (p n : Nat) (f : Nat→En) {w' : World} (hb : BInv m T) (h : MkE w0 hi b w L V m vt T w') : Ent w0 hi b w L m vt T p n f w':=by
 obtain ⟨vl',L',h1,h2,h3⟩:=h;exact ⟨vl',L',V,m,T,h1,h2,h3,hb,⟨rfl,rfl,rfl,rfl⟩,.inl rfl,fun _=>⟨rfl,rfl⟩⟩
theorem enter_any {w0 : World} {hi : Nat} {b : Nat} {vl : Sli} {L : List Int} {V : MaV} {m : Ma} {vt : Sli} {T : List (Nat→En)} {w : World} (p n : Nat) (s : Sp) (f : Nat→En) (x : On) (h : Mk w0 hi w b vl L V m vt T) (hB : BInv m T) (hs : m.sp[p]? = some s) (hT : T[p]? = some f) (hn : n < 64) (h0 : f n = en0) (hx : onAt s.ars n = x) (his : x.is = true) (hfi : FilesIn m.fl.length s.ars) :
  Calls Tryz.prog 76 #[.pointer (some ⟨b,0,none⟩),.int .i64 (p : Int),.int .i64 (n : Int),.agg (onv x).toArray] w fun e w'=>(∃ v,e = .returned v)∧Ent w0 hi b w L m vt T p n f w':=by
 have hal:=hB.alone hs (n:=n) (by rw [hx]; exact his)
 have hfl : x.file < (m.fl.length : Int):=by rw [←hx]; exact hfi n hn (by rw [hx]; exact his)
 rw [hx] at hal;obtain ⟨al1,al2,al3,al4⟩:=hal;obtain ⟨xis,xrd,xwr,xsh,xfi,xpg⟩:=x;dsimp only at his al1 al2 al3 al4 hfl;subst his;have HX : Hid (onAt s.ars n = ⟨true,xrd,xwr,xsh,xfi,xpg⟩):=hx;have HM : Hid (Mk w0 hi w b vl L V m vt T):=h;have HB : Hid (BInv m T):=hB;have HS : Hid (m.sp[p]? = some s):=hs;have HT : Hid (T[p]? = some f):=hT;have H0 : Hid (f n = en0):=h0;obtain ⟨tn,HTL⟩ : ∃ tn,Hid (T.length = tn):=⟨_,rfl⟩;have hpt : p < tn:=by rw [←HTL.out]; exact (List.getElem?_eq_some_iff.1 hT).1
 have HIS : Hid ((onAt s.ars n).is = true):=show _ = _ by rw [hx]
 have HWR : Hid ((onAt s.ars n).wr = xwr):=show _ = _ by rw [hx]
 have HSE : Hid ((onAt s.ars n).sh = xsh∧(onAt s.ars n).file = xfi∧(onAt s.ars n).page = xpg):=show _∧_ by rw [hx]; exact ⟨rfl,rfl,rfl⟩
 obtain ⟨px,HPX⟩ : ∃ px,Hid (w.heap.size = px):=⟨_,rfl⟩;obtain ⟨W0,hW0⟩ : ∃ W0,w.alloc (.cells #[.bool true,.bool xrd,.bool xwr,.bool xsh,.int .i64 xfi,.int .i64 xpg] 82) = W0:=⟨_,rfl⟩;have HG0 : Hid (Grew w W0):=show Grew _ _ by rw [←hW0]; exact grew_alloc _ _
 have X0 : Hid (BoxT W0 px 82 [.bool true,.bool xrd,.bool xwr,.bool xsh,.int .i64 xfi,.int .i64 xpg]):=show BoxT _ _ _ _ by rw [←hW0]; exact BoxT.top _ [.bool true,.bool xrd,.bool xwr,.bool xsh,.int .i64 xfi,.int .i64 xpg] _ HPX.out.symm
 have M0 : Hid (Mk w0 hi W0 b vl L V m vt T):=h.grew HG0.out;have HBX : Hid (b < w.heap.size):=show _ < _ from h.box.box.lt
 have HW0 : Hid (_ = W0):=hW0;clear hW0 h hB hs hT h0 hx hfi
 go_enter Tryz.func76,Tryz.ntmps76
 go_upto_region 1 with fail;have hw : w.alloc (.cells (onv ⟨true,xrd,xwr,xsh,xfi,xpg⟩).toArray 82) = W0:=HW0.out;rw [hw,HPX.out];clear hw;have hpk:=pick_any 4 M0.out;go_wp2_with fail;refine hpk.mono ?_;clear hpk;rintro e W1 ⟨vl1,L1,y,rfl,mk1,gr1,sz1,y0,y1,yn,ll⟩;have M1 : Hid (Mk w0 hi W1 b vl1 L1 V m vt T):=mk1;have K1 : Hid (Keeps hi w W1):=(Keeps.grew HG0.out).trans (M0.out.keeps gr1);have X1 : Hid (BoxT W1 px 82 [.bool true,.bool xrd,.bool xwr,.bool xsh,.int .i64 xfi,.int .i64 xpg]):=X0.out.beside gr1 (fun g e=>by cases e; have:=HBX.out; have:=HPX.out; omega)
 have LL1 : Hid (Less L L1):=ll;have hy4 : y < 4:=by rcases y1 with h | h <;> omega
 have HYN : Hid (L = []→y = 0):=yn;clear mk1 gr1 sz1 y1 yn ll M0 X0
 by_cases hy : y = 0
 ·have hye : (y == 0) = true:=by simp [hy]
  clear hy;have HE : Hid (Ent w0 hi b w L m vt T p n f W1):=show Ent _ _ _ _ _ _ _ _ _ _ _ _ from Ent.same p n f HB.out ⟨vl1,L1,M1.out,LL1.out,K1.out⟩
  go_wp2
  (first | go_end0 | ((try simp only [Exit.inBlock,Exit.then]); refine bodyPost_ret (results_none rfl _ _ _) rfl ?_))
  first | exact HE.out | exact ⟨⟨_,rfl⟩,HE.out⟩
 ·have hye : (y == 0) = false:=by simp [hy]
  have HLN : Hid (L≠[]):=show _≠_ from fun e=>hy (HYN.out e)
  clear hy HYN;have c3:=X1.out.box.c 3 rfl;have c4:=X1.out.box.c 4 rfl;have HA4 : Hid (xfi < 0→xsh = false):=show _→_ from fun h=>al4 (by omega)
  clear al4;go_upto_region 6 with fail
  go_cut [44] (fun s44 wx=>∃ c1 : Bool,s44 = .bool c1∧wx = W1∧Hid (c1 = true→0≤xfi)∧Hid (c1 = false→xsh = false))
  case first =>
   by_cases hfz : 0≤xfi
   ·have hfd : decide ((0 : Int)≤xfi) = true:=by simpa using hfz
    cases xsh with
    | true =>
     go_wp2
     go_meet
     case rel=>exact ⟨true,rfl,rfl,fun _=>hfz,fun h=>(by cases h)⟩
    | false =>
     go_wp2
     go_meet
     case rel=>exact ⟨(y == 1),rfl,rfl,fun _=>hfz,fun _=>(by first | rfl | trivial)⟩
   ·have hfd : decide ((0 : Int)≤xfi) = false:=by simpa using hfz
    have HSF : Hid (xsh = false):=HA4.out (by omega)
    go_wp2
    go_meet
    case rel=>exact ⟨false,rfl,rfl,fun h=>(by cases h),fun _=>HSF.out⟩
  case rest =>
   obtain ⟨c1,rfl,hwc,HC1,HC0⟩:=hcut;rw [hwc];clear hwc c3 c4
   cases c1 with
   | true =>
    have hfz:=HC1.out rfl;obtain ⟨fi,rfl⟩ : ∃ fi : Nat,xfi = (fi : Int):=⟨xfi.toNat,by omega⟩
    obtain ⟨ix,rfl⟩ : ∃ ix : Nat,xpg = (ix : Int):=⟨xpg.toNat,by omega⟩
    obtain ⟨fl,HFL⟩ : ∃ fl,Hid (m.fl[fi]? = some fl):=⟨_,List.getElem?_eq_getElem (by omega)⟩
    have c3:=X1.out.box.c 3 rfl;have c4:=X1.out.box.c 4 rfl;have c5:=X1.out.box.c 5 rfl;go_upto_region 7 with fail;have x8:=M1.out.box.box.c 8 rfl;obtain ⟨_,_,hfe,_,hfr⟩:=FilesAt.rows M1.out.rows.at.fl;have hrw : FlRows W1 V.fl.a m.fl:=by
     simp only [Value.slice.injEq] at hfe;rw [hfe.1];exact hfr
    have hfn : V.fl.n = m.fl.length:=by
     simp only [Value.slice.injEq] at hfe;exact hfe.2.1
    obtain ⟨ad,hva,ba,bc,_,hlf⟩:=hrw fi fl HFL.out;obtain ⟨-,d1⟩:=hlf W1 (Grew.refl _);obtain ⟨fln,hfln⟩ : ∃ fln,V.fl.n = fln:=⟨_,rfl⟩;have hflz : (fi : Int) < (fln : Int):=by
     have:=(List.getElem?_eq_some_iff.1 HFL.out).1;omega
    rw [hva,hfln] at x8;obtain ⟨bn,HBN⟩ : ∃ bn,Hid (fl.bl.length = bn):=⟨_,rfl⟩;rw [HBN.out] at d1;clear hfe hfr hrw hfn hva hlf hfln
    by_cases hpg : bn≤ix
    ·have hpgd : decide ((bn : Int)≤(ix : Int)) = true:=by simpa using hpg
     go_quiet (fail);obtain ⟨W2,hW2⟩ : ∃ W2,W1.drewN nq = W2:=⟨_,rfl⟩;have G2 : Hid (Grew W1 W2):=show Grew _ _ by rw [←hW2]; exact (show Below _ _ _ from Go.below_drewN (Below.refl _ _) _)
     rw [hW2];clear hW2 x8 d1 c3 c4 c5;have HE : Hid (Ent w0 hi b w L m vt T p n f W2):=show Ent _ _ _ _ _ _ _ _ _ _ _ _ from Ent.same p n f HB.out ⟨vl1,L1,M1.out.grew G2.out,LL1.out,K1.out.trans (Keeps.grew G2.out)⟩
     go_wp2
     (first | go_end0 | ((try simp only [Exit.inBlock,Exit.then]); refine bodyPost_ret (results_none rfl _ _ _) rfl ?_))
     first | exact HE.out | exact ⟨⟨_,rfl⟩,HE.out⟩
    ·have hpgd : decide ((bn : Int)≤(ix : Int)) = false:=by simpa using hpg
     obtain ⟨bk,HBK⟩ : ∃ bk,Hid (fl.bl[ix]? = some bk):=⟨_,List.getElem?_eq_getElem (by rw [HBN.out]; omega)⟩
     go_quiet (fail);obtain ⟨W2,hW2⟩ : ∃ W2,W1.drewN nq = W2:=⟨_,rfl⟩;have G2 : Hid (Grew W1 W2):=show Grew _ _ by rw [←hW2]; exact (show Below _ _ _ from Go.below_drewN (Below.refl _ _) _)
     rw [hW2];clear hW2 x8 d1 c3 c4 c5;have M2 : Hid (Mk w0 hi W2 b vl1 L1 V m vt T):=M1.out.grew G2.out;have K2 : Hid (Keeps hi w W2):=K1.out.trans (Keeps.grew G2.out);have X2 : Hid (BoxT W2 px 82 [.bool true,.bool xrd,.bool xwr,.bool xsh,.int .i64 (fi : Int),.int .i64 (ix : Int)]):=X1.out.grew G2.out;clear M1 K1 X1 G2;have c4:=X2.out.box.c 4 rfl;have c5:=X2.out.box.c 5 rfl;have hcd:=cached_any fi ix fl bk M2.out HB.out.cached.1 HFL.out HBK.out (by omega) (by have:=(HB.out.pages (file:=(fi : Int)) (by omega) hfl).2; omega) HB.out.cached.2.1
     go_wp2_with fail;refine hcd.mono ?_;clear hcd c4 c5;rintro e W3 hres;have hres2 : (e = .returned (.int .i64 (-1))∧MkE w0 hi b w L V m vt T W3)∨∃ (k : Nat) (V1 : MaV) (m1 : Ma) (fr : Fr),e = .returned (.int .i64 (k : Int))∧MkE w0 hi b w L V1 m1 vt T W3∧BInv m1 T∧m1.fs[k]? = some fr∧fr.f = (fi : Int)∧fr.x = (ix : Int)∧(m1.sp = m.sp∧m1.fl = m.fl∧m1.hand = m.hand∧m1.fs.length = m.fs.length):=by
      rcases hres with ⟨he,hE⟩ | ⟨c,hc,hc1,hc2,he,hE⟩ | ⟨j,he,q,pg,u,d,sl,hj,hr,hno,hE⟩
      ·exact .inl ⟨he,hE.trans LL1.out K2.out⟩
      ·obtain ⟨k,fr,k1,k2,k3,k4⟩:=HB.out.cached.2.2 c hc;exact .inr ⟨k,V,m,fr,by rw [he,k1],hE.trans LL1.out K2.out,HB.out,k2,k3.trans hc1,k4.trans hc2,rfl,rfl,rfl,rfl⟩
      ·refine .inr ⟨j,_,_,⟨pg,1,u,d,fi,ix⟩,he,hE.trans LL1.out K2.out,HB.out.cache hj hr ⟨by omega,hfl⟩ ⟨by omega,?_⟩ hno,?_,rfl,rfl,rfl,rfl,rfl,List.length_set⟩
       ·unfold bkN;rw [Int.toNat_natCast,List.getD_eq_getElem?_getD,HFL.out];simp only [Option.getD_some];have:=HBN.out;omega
       ·exact List.getElem?_set_self (List.getElem?_eq_some_iff.1 hj).1
     have X3 : Hid (BoxT W3 px 82 [.bool true,.bool xrd,.bool xwr,.bool xsh,.int .i64 (fi : Int),.int .i64 (ix : Int)]):=show BoxT _ _ _ _ by
      rcases hres with ⟨_,_,_,_,_,hk⟩ | ⟨_,_,_,_,_,_,_,_,_,hk⟩ | ⟨_,_,_,_,_,_,_,_,_,_,_,_,_,_,hk⟩
      ·exact hk.1 _ _ _ X2.out loc_one
      ·exact hk.1 _ _ _ X2.out loc_one
      ·exact hk.1 _ _ _ X2.out loc_one
     clear hres M2 K2 X2
     rcases hres2 with ⟨rfl,hE⟩ | ⟨k,V1,m1,fr,rfl,⟨vl3,L3,mk3,ll3,kp3⟩,hb1,hk,hkf,hkx,hsame⟩
     ·have HEE : Hid (MkE w0 hi b w L V m vt T W3):=hE;clear hE;have HE : Hid (Ent w0 hi b w L m vt T p n f W3):=show Ent _ _ _ _ _ _ _ _ _ _ _ _ from Ent.same p n f HB.out HEE.out
      go_wp2
      (first | go_end0 | ((try simp only [Exit.inBlock,Exit.then]); refine bodyPost_ret (results_none rfl _ _ _) rfl ?_))
      first | exact HE.out | exact ⟨⟨_,rfl⟩,HE.out⟩
     ·have M3 : Hid (Mk w0 hi W3 b vl3 L3 V1 m1 vt T):=mk3;have K3 : Hid (Keeps hi w W3):=kp3;have LL3 : Hid (Less L L3):=ll3;have HB1 : Hid (BInv m1 T):=hb1;have HK : Hid (m1.fs[k]? = some fr):=hk;have HKF : Hid (fr.f = (fi : Int)∧fr.x = (ix : Int)):=show _∧_ from ⟨hkf,hkx⟩
      have HSM : Hid (m1.sp = m.sp∧m1.fl = m.fl∧m1.hand = m.hand∧m1.fs.length = m.fs.length):=show _∧_ from hsame
      obtain ⟨hr0,hr1⟩:=hb1.refs hk;obtain ⟨nf,HNF⟩ : ∃ nf,Hid (m1.fs.length = nf):=⟨_,rfl⟩;have hkn : k < nf:=by rw [←HNF.out]; exact (List.getElem?_eq_some_iff.1 hk).1
      have hkz : (k : Int) < (nf : Int):=by omega
      have hk0 : ¬ (k : Int) < 0:=by omega
      clear mk3 ll3 kp3 hb1 hk hkf hkx hsame;obtain ⟨g,cf,heq⟩:=M3.out.rows.fs.formS (by rw [HNF.out]; omega)
      rw [HNF.out] at heq;have HEQ : Hid (Value.slice V1.f.a V1.f.n V1.f.c = .slice (some ⟨g,0,none⟩) nf cf):=heq;have x1:=M3.out.box.box.c 1 rfl;rw [HEQ.out] at x1;have hrw:=M3.out.rows.fs;rw [HEQ.out] at hrw;have HRW : Hid (OwnRow frmE w0.heap.size W3 (.slice (some ⟨g,0,none⟩) nf cf) m1.fs):=hrw;have hce:=hrw.one HK.out;have d8 : W3.cell? ⟨g,k * 13 + 8,none⟩ = some (.int .i64 fr.r):=by
       have:=hce 8 _ rfl;rw [add_add',Addr.add_lit,Nat.zero_add] at this;exact this
      clear hce hrw heq;have xf:=HRW.out.unfrozen rfl;go_upto_region 11 with fail;obtain ⟨ow4,gr4,sz4⟩:=HRW.out.cell (k:=k) (o:=8) rfl HK.out (y:={ fr with r:=fr.r + 1 }) (u:= .int .i64 (fr.r + 1)) rfl (by decide)
      obtain ⟨W4,hW4⟩ : ∃ W4,W3.setCell ⟨g,k * 13 + 8,none⟩ (.int .i64 (fr.r + 1)) = W4:=⟨_,rfl⟩;have e4 : W3.setCell ⟨g,k * frmE.k + 8,none⟩ (.int .i64 (fr.r + 1)) = W4:=hW4;rw [e4] at ow4 gr4 sz4;rw [hW4];rw [←HEQ.out] at ow4;clear e4 hW4 xf;have hM4:=M3.out.setF (by rw [HEQ.out]; rfl) gr4 sz4 ow4
      have M4 : Hid (Mk w0 hi W4 b vl3 L3 V1 { m1 with fs:=m1.fs.set k { fr with r:=fr.r + 1 } } vt T):=hM4.1;have K4 : Hid (Keeps hi w W4):=K3.out.trans hM4.2;have X4 : Hid (BoxT W4 px 82 [.bool true,.bool xrd,.bool xwr,.bool xsh,.int .i64 (fi : Int),.int .i64 (ix : Int)]):=hM4.2.1 _ _ _ X3.out loc_one;have HBF : Hid (∀ wf : Bool,(wf = true→xsh = true∧xwr = true)→BInv { m1 with fs:=m1.fs.set k { fr with r:=fr.r + 1 } } (T.set p (updF f n ⟨1,(k : Int),wf⟩))):=show ∀ wf : Bool,_ from fun wf hwf=>HB1.out.hold HK.out (by rw [HKF.out.1]; omega) (by rw [HSM.out.1]; exact HS.out) HT.out hn H0.out HIS.out (by rw [HKF.out.1]; exact HSE.out.2.1) (by rw [HKF.out.2]; exact HSE.out.2.2) (fun e=>by rw [HSE.out.1,HWR.out]; exact hwf e)
      clear hM4 ow4 gr4 sz4 x1 d8 M3 K3 X3 HRW HEQ
      cases xsh with
      | false =>
       obtain ⟨gt,ct,hte⟩:=M4.out.rows.tt.formS (by rw [HTL.out]; omega)
       rw [HTL.out] at hte;have HTE : Hid (Value.slice vt.a vt.n vt.c = .slice (some ⟨gt,0,none⟩) tn ct):=hte;clear hte;obtain ⟨I,HI⟩ : ∃ I : World→Prop,Hid (∀ u,I u↔u.cell? ⟨b,12,none⟩ = some (.slice (some ⟨gt,0,none⟩) tn ct)∧BoxT u px 82 [.bool true,.bool xrd,.bool xwr,.bool false,.int .i64 (fi : Int),.int .i64 (ix : Int)]):=⟨fun u=>u.cell? ⟨b,12,none⟩ = some (.slice (some ⟨gt,0,none⟩) tn ct)∧BoxT u px 82 [.bool true,.bool xrd,.bool xwr,.bool false,.int .i64 (fi : Int),.int .i64 (ix : Int)],fun _=>Iff.rfl⟩
       have HIM : Hid (∀ u vl' L' V' m',Mk w0 hi u b vl' L' V' m' vt T→u.cell? ⟨b,12,none⟩ = some (.slice (some ⟨gt,0,none⟩) tn ct)):=show ∀ u,_ from fun u vl' L' V' m' hm=>by
        have:=hm.box.box.c 12 rfl;rw [HTE.out] at this;exact this
       have hI0 : I W4.drew:=(HI.out _).2 ⟨HIM.out _ _ _ _ _ (M4.out.grew (show Below _ _ _ from (Below.refl _ _).drew)),X4.out.grew (show Below _ _ _ from (Below.refl _ _).drew)⟩
       have hF0 : MkE w0 hi b w L V1 { m1 with fs:=m1.fs.set k { fr with r:=fr.r + 1 } } vt T W4.drew:=⟨vl3,L3,M4.out.grew (show Below _ _ _ from (Below.refl _ _).drew),LL3.out,K4.out.trans (Keeps.grew (show Below _ _ _ from (Below.refl _ _).drew))⟩
       have ht : ∀ y : HoldI I,y.world.cell? ⟨b,12,none⟩ = some (.slice (some ⟨gt,0,none⟩) tn ct):=fun y=>((HI.out _).1 y.holds).1
       have hx2 : ∀ y : HoldI I,y.world.cell? ⟨px,2,none⟩ = some (.bool xwr):=fun y=>((HI.out _).1 y.holds).2.box.c 2 rfl
       have hx3 : ∀ y : HoldI I,y.world.cell? ⟨px,3,none⟩ = some (.bool false):=fun y=>((HI.out _).1 y.holds).2.box.c 3 rfl
       have hne : Nonempty (HoldI I):=⟨⟨_,hI0⟩⟩;have hptz : (p : Int) < (tn : Int):=by omega
       have hnz : (n : Int) < 64:=by omega
       refine wp_lax_tailD (I:=I) 21 [(15,fun v=>∃ x : Int,v = .int .i64 x)] (fun u=>MkE w0 hi b w L V1 { m1 with fs:=m1.fs.set k { fr with r:=fr.r + 1 } } vt T u) hI0 hF0 mixed (by kernel_rfl) rfl rfl (by decide) ?hS (by kernel_rfl) ?_
       case hS =>
        intro x hx;simp only [List.mem_cons,List.not_mem_nil,or_false] at hx;subst hx;exact ⟨_,0,rfl⟩
       simp only [List.take,List.drop];iterate 1 (refine laxD_quiet rfl rfl rfl (fun K hK=>?_); go_big_quiet_op; refine hK _ ?_; clear hK K)
       refine laxD_nilc (.tmp 92) ⟨b,0,none⟩ rfl rfl rfl rfl ?_;simp only [Act.put,List.setIfInBounds_toArray,List.set_cons_succ,List.set_cons_zero];iterate 8 (refine laxD_quiet rfl rfl rfl (fun K hK=>?_); go_big_quiet_op; refine hK _ ?_; clear hK K)
       refine laxD_skip ?_ ?_
       ·kernel_rfl
       simp only [Act.put,List.setIfInBounds_toArray,List.set_cons_succ,List.set_cons_zero];refine laxD_skip ?_ ?_
       ·kernel_rfl
       simp only [Act.put,List.setIfInBounds_toArray,List.set_cons_succ,List.set_cons_zero];iterate 2 (refine laxD_quiet rfl rfl rfl (fun K hK=>?_); go_big_quiet_op; refine hK _ ?_; clear hK K)
       refine laxD_skip ?_ ?_
       ·kernel_rfl
       simp only [Act.put,List.setIfInBounds_toArray,List.set_cons_succ,List.set_cons_zero];refine laxD_skip ?_ ?_
       ·kernel_rfl
       simp only [Act.put,List.setIfInBounds_toArray,List.set_cons_succ,List.set_cons_zero];refine laxD_skip ?_ ?_
       ·kernel_rfl
       simp only [Act.put,List.setIfInBounds_toArray,List.set_cons_succ,List.set_cons_zero];iterate 4 (refine laxD_quiet rfl rfl rfl (fun K hK=>?_); go_big_quiet_op; refine hK _ ?_; clear hK K)
       refine laxD_nil fun W8 hI8 hF8=>?_
       obtain ⟨vl8,L8,mk8,ll8,kp8⟩:=hF8;have M8 : Hid (Mk w0 hi W8 b vl8 L8 V1 { m1 with fs:=m1.fs.set k { fr with r:=fr.r + 1 } } vt T):=mk8;have LL8 : Hid (Less L L8):=ll8;have K8 : Hid (Keeps hi w W8):=kp8;clear mk8 ll8 kp8 hI8 hI0 hF0 ht hx2 hx3 hne HI;have R8 : Hid (OwnRow flaE w0.heap.size W8 (.slice (some ⟨gt,0,none⟩) tn ct) T):=show OwnRow _ _ _ _ _ by rw [←HTE.out]; exact M8.out.rows.tt
       refine wpList_store_part (E:=flaE) rfl (.tmp 112) (.tmp 110) 67 rfl w0.heap.size _ T R8.out gt p (n * 3) rfl f (updF f n ⟨1,(k : Int),false⟩) HT.out (env ⟨1,(k : Int),false⟩) (by kernel_rfl) (flaE_upd f hn _) (by show n * 3 + 3≤192; omega) (enE.one _) ⟨gt,p * 192 + n * 3,none⟩ rfl rfl (.agg (env ⟨1,(k : Int),false⟩).toArray) rfl rfl ?_
       intro W9 ow9 gr9 sz9;rw [←HTE.out] at ow9;have hM9:=M8.out.setT (by rw [HTE.out]; rfl) gr9 sz9 ow9
       have M9 : Hid (Mk w0 hi W9 b vl8 L8 V1 { m1 with fs:=m1.fs.set k { fr with r:=fr.r + 1 } } vt (T.set p (updF f n ⟨1,(k : Int),false⟩))):=hM9.1;have K9 : Hid (Keeps hi w W9):=K8.out.trans hM9.2;clear hM9 ow9 gr9 sz9 R8;have HE : Hid (Ent w0 hi b w L m vt T p n f W9):=show Ent _ _ _ _ _ _ _ _ _ _ _ _ from ⟨vl8,L8,_,_,_,M9.out,LL8.out,K9.out,HBF.out _ (by intro e; first | exact ⟨rfl,rfl⟩ | cases e),⟨HSM.out.1,HSM.out.2.1,HSM.out.2.2.1,List.length_set.trans HSM.out.2.2.2⟩,.inr ⟨_,rfl⟩,fun h=>absurd h HLN.out⟩
       go_wp2
       (first | go_end0 | ((try simp only [Exit.inBlock,Exit.then]); refine bodyPost_ret (results_none rfl _ _ _) rfl ?_))
       first | exact HE.out | exact ⟨⟨_,rfl⟩,HE.out⟩
      | true =>
       cases xwr with
       | false =>
        obtain ⟨gt,ct,hte⟩:=M4.out.rows.tt.formS (by rw [HTL.out]; omega)
        rw [HTL.out] at hte;have HTE : Hid (Value.slice vt.a vt.n vt.c = .slice (some ⟨gt,0,none⟩) tn ct):=hte;clear hte;obtain ⟨I,HI⟩ : ∃ I : World→Prop,Hid (∀ u,I u↔u.cell? ⟨b,12,none⟩ = some (.slice (some ⟨gt,0,none⟩) tn ct)∧BoxT u px 82 [.bool true,.bool xrd,.bool false,.bool true,.int .i64 (fi : Int),.int .i64 (ix : Int)]):=⟨fun u=>u.cell? ⟨b,12,none⟩ = some (.slice (some ⟨gt,0,none⟩) tn ct)∧BoxT u px 82 [.bool true,.bool xrd,.bool false,.bool true,.int .i64 (fi : Int),.int .i64 (ix : Int)],fun _=>Iff.rfl⟩
        have HIM : Hid (∀ u vl' L' V' m',Mk w0 hi u b vl' L' V' m' vt T→u.cell? ⟨b,12,none⟩ = some (.slice (some ⟨gt,0,none⟩) tn ct)):=show ∀ u,_ from fun u vl' L' V' m' hm=>by
         have:=hm.box.box.c 12 rfl;rw [HTE.out] at this;exact this
        have hI0 : I W4.drew:=(HI.out _).2 ⟨HIM.out _ _ _ _ _ (M4.out.grew (show Below _ _ _ from (Below.refl _ _).drew)),X4.out.grew (show Below _ _ _ from (Below.refl _ _).drew)⟩
        have hF0 : MkE w0 hi b w L V1 { m1 with fs:=m1.fs.set k { fr with r:=fr.r + 1 } } vt T W4.drew:=⟨vl3,L3,M4.out.grew (show Below _ _ _ from (Below.refl _ _).drew),LL3.out,K4.out.trans (Keeps.grew (show Below _ _ _ from (Below.refl _ _).drew))⟩
        have ht : ∀ y : HoldI I,y.world.cell? ⟨b,12,none⟩ = some (.slice (some ⟨gt,0,none⟩) tn ct):=fun y=>((HI.out _).1 y.holds).1
        have hx2 : ∀ y : HoldI I,y.world.cell? ⟨px,2,none⟩ = some (.bool false):=fun y=>((HI.out _).1 y.holds).2.box.c 2 rfl
        have hx3 : ∀ y : HoldI I,y.world.cell? ⟨px,3,none⟩ = some (.bool true):=fun y=>((HI.out _).1 y.holds).2.box.c 3 rfl
        have hne : Nonempty (HoldI I):=⟨⟨_,hI0⟩⟩;have hptz : (p : Int) < (tn : Int):=by omega
        have hnz : (n : Int) < 64:=by omega
        refine wp_lax_tailD (I:=I) 21 [(15,fun v=>∃ x : Int,v = .int .i64 x)] (fun u=>MkE w0 hi b w L V1 { m1 with fs:=m1.fs.set k { fr with r:=fr.r + 1 } } vt T u) hI0 hF0 mixed (by kernel_rfl) rfl rfl (by decide) ?hS (by kernel_rfl) ?_
        case hS =>
         intro x hx;simp only [List.mem_cons,List.not_mem_nil,or_false] at hx;subst hx;exact ⟨_,0,rfl⟩
        simp only [List.take,List.drop];iterate 1 (refine laxD_quiet rfl rfl rfl (fun K hK=>?_); go_big_quiet_op; refine hK _ ?_; clear hK K)
        refine laxD_nilc (.tmp 92) ⟨b,0,none⟩ rfl rfl rfl rfl ?_;simp only [Act.put,List.setIfInBounds_toArray,List.set_cons_succ,List.set_cons_zero];iterate 8 (refine laxD_quiet rfl rfl rfl (fun K hK=>?_); go_big_quiet_op; refine hK _ ?_; clear hK K)
        iterate 4 (refine laxD_quiet rfl rfl rfl (fun K hK=>?_); go_big_quiet_op; refine hK _ ?_; clear hK K)
        refine laxD_skip ?_ ?_
        ·kernel_rfl
        simp only [Act.put,List.setIfInBounds_toArray,List.set_cons_succ,List.set_cons_zero];refine laxD_skip ?_ ?_
        ·kernel_rfl
        simp only [Act.put,List.setIfInBounds_toArray,List.set_cons_succ,List.set_cons_zero];refine laxD_skip ?_ ?_
        ·kernel_rfl
        simp only [Act.put,List.setIfInBounds_toArray,List.set_cons_succ,List.set_cons_zero];iterate 4 (refine laxD_quiet rfl rfl rfl (fun K hK=>?_); go_big_quiet_op; refine hK _ ?_; clear hK K)
        refine laxD_nil fun W8 hI8 hF8=>?_
        obtain ⟨vl8,L8,mk8,ll8,kp8⟩:=hF8;have M8 : Hid (Mk w0 hi W8 b vl8 L8 V1 { m1 with fs:=m1.fs.set k { fr with r:=fr.r + 1 } } vt T):=mk8;have LL8 : Hid (Less L L8):=ll8;have K8 : Hid (Keeps hi w W8):=kp8;clear mk8 ll8 kp8 hI8 hI0 hF0 ht hx2 hx3 hne HI;have R8 : Hid (OwnRow flaE w0.heap.size W8 (.slice (some ⟨gt,0,none⟩) tn ct) T):=show OwnRow _ _ _ _ _ by rw [←HTE.out]; exact M8.out.rows.tt
        refine wpList_store_part (E:=flaE) rfl (.tmp 112) (.tmp 110) 67 rfl w0.heap.size _ T R8.out gt p (n * 3) rfl f (updF f n ⟨1,(k : Int),false⟩) HT.out (env ⟨1,(k : Int),false⟩) (by kernel_rfl) (flaE_upd f hn _) (by show n * 3 + 3≤192; omega) (enE.one _) ⟨gt,p * 192 + n * 3,none⟩ rfl rfl (.agg (env ⟨1,(k : Int),false⟩).toArray) rfl rfl ?_
        intro W9 ow9 gr9 sz9;rw [←HTE.out] at ow9;have hM9:=M8.out.setT (by rw [HTE.out]; rfl) gr9 sz9 ow9
        have M9 : Hid (Mk w0 hi W9 b vl8 L8 V1 { m1 with fs:=m1.fs.set k { fr with r:=fr.r + 1 } } vt (T.set p (updF f n ⟨1,(k : Int),false⟩))):=hM9.1;have K9 : Hid (Keeps hi w W9):=K8.out.trans hM9.2;clear hM9 ow9 gr9 sz9 R8;have HE : Hid (Ent w0 hi b w L m vt T p n f W9):=show Ent _ _ _ _ _ _ _ _ _ _ _ _ from ⟨vl8,L8,_,_,_,M9.out,LL8.out,K9.out,HBF.out _ (by intro e; first | exact ⟨rfl,rfl⟩ | cases e),⟨HSM.out.1,HSM.out.2.1,HSM.out.2.2.1,List.length_set.trans HSM.out.2.2.2⟩,.inr ⟨_,rfl⟩,fun h=>absurd h HLN.out⟩
        go_wp2
        (first | go_end0 | ((try simp only [Exit.inBlock,Exit.then]); refine bodyPost_ret (results_none rfl _ _ _) rfl ?_))
        first | exact HE.out | exact ⟨⟨_,rfl⟩,HE.out⟩
       | true =>
        obtain ⟨gt,ct,hte⟩:=M4.out.rows.tt.formS (by rw [HTL.out]; omega)
        rw [HTL.out] at hte;have HTE : Hid (Value.slice vt.a vt.n vt.c = .slice (some ⟨gt,0,none⟩) tn ct):=hte;clear hte;obtain ⟨I,HI⟩ : ∃ I : World→Prop,Hid (∀ u,I u↔u.cell? ⟨b,12,none⟩ = some (.slice (some ⟨gt,0,none⟩) tn ct)∧BoxT u px 82 [.bool true,.bool xrd,.bool true,.bool true,.int .i64 (fi : Int),.int .i64 (ix : Int)]):=⟨fun u=>u.cell? ⟨b,12,none⟩ = some (.slice (some ⟨gt,0,none⟩) tn ct)∧BoxT u px 82 [.bool true,.bool xrd,.bool true,.bool true,.int .i64 (fi : Int),.int .i64 (ix : Int)],fun _=>Iff.rfl⟩
        have HIM : Hid (∀ u vl' L' V' m',Mk w0 hi u b vl' L' V' m' vt T→u.cell? ⟨b,12,none⟩ = some (.slice (some ⟨gt,0,none⟩) tn ct)):=show ∀ u,_ from fun u vl' L' V' m' hm=>by
         have:=hm.box.box.c 12 rfl;rw [HTE.out] at this;exact this
        have hI0 : I W4.drew:=(HI.out _).2 ⟨HIM.out _ _ _ _ _ (M4.out.grew (show Below _ _ _ from (Below.refl _ _).drew)),X4.out.grew (show Below _ _ _ from (Below.refl _ _).drew)⟩
        have hF0 : MkE w0 hi b w L V1 { m1 with fs:=m1.fs.set k { fr with r:=fr.r + 1 } } vt T W4.drew:=⟨vl3,L3,M4.out.grew (show Below _ _ _ from (Below.refl _ _).drew),LL3.out,K4.out.trans (Keeps.grew (show Below _ _ _ from (Below.refl _ _).drew))⟩
        have ht : ∀ y : HoldI I,y.world.cell? ⟨b,12,none⟩ = some (.slice (some ⟨gt,0,none⟩) tn ct):=fun y=>((HI.out _).1 y.holds).1
        have hx2 : ∀ y : HoldI I,y.world.cell? ⟨px,2,none⟩ = some (.bool true):=fun y=>((HI.out _).1 y.holds).2.box.c 2 rfl
        have hx3 : ∀ y : HoldI I,y.world.cell? ⟨px,3,none⟩ = some (.bool true):=fun y=>((HI.out _).1 y.holds).2.box.c 3 rfl
        have hne : Nonempty (HoldI I):=⟨⟨_,hI0⟩⟩;have hptz : (p : Int) < (tn : Int):=by omega
        have hnz : (n : Int) < 64:=by omega
        refine wp_lax_tailD (I:=I) 21 [(15,fun v=>∃ x : Int,v = .int .i64 x)] (fun u=>MkE w0 hi b w L V1 { m1 with fs:=m1.fs.set k { fr with r:=fr.r + 1 } } vt T u) hI0 hF0 mixed (by kernel_rfl) rfl rfl (by decide) ?hS (by kernel_rfl) ?_
        case hS =>
         intro x hx;simp only [List.mem_cons,List.not_mem_nil,or_false] at hx;subst hx;exact ⟨_,0,rfl⟩
        simp only [List.take,List.drop];iterate 1 (refine laxD_quiet rfl rfl rfl (fun K hK=>?_); go_big_quiet_op; refine hK _ ?_; clear hK K)
        refine laxD_nilc (.tmp 92) ⟨b,0,none⟩ rfl rfl rfl rfl ?_;simp only [Act.put,List.setIfInBounds_toArray,List.set_cons_succ,List.set_cons_zero];iterate 8 (refine laxD_quiet rfl rfl rfl (fun K hK=>?_); go_big_quiet_op; refine hK _ ?_; clear hK K)
        iterate 4 (refine laxD_quiet rfl rfl rfl (fun K hK=>?_); go_big_quiet_op; refine hK _ ?_; clear hK K)
        iterate 1 (refine laxD_quiet rfl rfl rfl (fun K hK=>?_); go_big_quiet_op; refine hK _ ?_; clear hK K)
        refine laxD_spec rfl rfl (fun _ u=>MkE w0 hi b w L V1 { m1 with fs:=m1.fs.set k { fr with r:=fr.r + 1 } } vt T u) (fun w' hI' hF'=>?_) (fun v1 hv=>?_)
        ·obtain ⟨vl',L',mk',ll',kp'⟩:=hF';refine Does.call [.pointer (some ⟨b,0,none⟩),.int .i64 2] rfl Tryz.func28 rfl rfl rfl ?_;refine (pick_any 2 mk').mono ?_;rintro e w'' ⟨vl2,L2,x,rfl,mk2,gr2,_,_,_,_,ll2⟩;exact ⟨_,rfl,(HI.out _).2 ⟨HIM.out _ _ _ _ _ mk2,(mk'.keeps gr2).1 _ _ _ ((HI.out _).1 hI').2 loc_one⟩,⟨x,rfl⟩,vl2,L2,mk2,ll'.trans ll2,kp'.trans (mk'.keeps gr2)⟩
        obtain ⟨xq,rfl⟩:=hv;simp only [Act.put,List.setIfInBounds_toArray,List.set_cons_succ,List.set_cons_zero];iterate 5 (refine laxD_quiet rfl rfl rfl (fun K hK=>?_); go_big_quiet_op; refine hK _ ?_; clear hK K)
        refine laxD_nil fun W8 hI8 hF8=>?_
        obtain ⟨vl8,L8,mk8,ll8,kp8⟩:=hF8;have M8 : Hid (Mk w0 hi W8 b vl8 L8 V1 { m1 with fs:=m1.fs.set k { fr with r:=fr.r + 1 } } vt T):=mk8;have LL8 : Hid (Less L L8):=ll8;have K8 : Hid (Keeps hi w W8):=kp8;clear mk8 ll8 kp8 hI8 hI0 hF0 ht hx2 hx3 hne HI;have R8 : Hid (OwnRow flaE w0.heap.size W8 (.slice (some ⟨gt,0,none⟩) tn ct) T):=show OwnRow _ _ _ _ _ by rw [←HTE.out]; exact M8.out.rows.tt
        refine wpList_store_part (E:=flaE) rfl (.tmp 112) (.tmp 110) 67 rfl w0.heap.size _ T R8.out gt p (n * 3) rfl f (updF f n ⟨1,(k : Int),(xq == 1)⟩) HT.out (env ⟨1,(k : Int),(xq == 1)⟩) (by kernel_rfl) (flaE_upd f hn _) (by show n * 3 + 3≤192; omega) (enE.one _) ⟨gt,p * 192 + n * 3,none⟩ rfl rfl (.agg (env ⟨1,(k : Int),(xq == 1)⟩).toArray) rfl rfl ?_
        intro W9 ow9 gr9 sz9;rw [←HTE.out] at ow9;have hM9:=M8.out.setT (by rw [HTE.out]; rfl) gr9 sz9 ow9
        have M9 : Hid (Mk w0 hi W9 b vl8 L8 V1 { m1 with fs:=m1.fs.set k { fr with r:=fr.r + 1 } } vt (T.set p (updF f n ⟨1,(k : Int),(xq == 1)⟩))):=hM9.1;have K9 : Hid (Keeps hi w W9):=K8.out.trans hM9.2;clear hM9 ow9 gr9 sz9 R8;have HE : Hid (Ent w0 hi b w L m vt T p n f W9):=show Ent _ _ _ _ _ _ _ _ _ _ _ _ from ⟨vl8,L8,_,_,_,M9.out,LL8.out,K9.out,HBF.out _ (by intro e; first | exact ⟨rfl,rfl⟩ | cases e),⟨HSM.out.1,HSM.out.2.1,HSM.out.2.2.1,List.length_set.trans HSM.out.2.2.2⟩,.inr ⟨_,rfl⟩,fun h=>absurd h HLN.out⟩
        go_wp2
        (first | go_end0 | ((try simp only [Exit.inBlock,Exit.then]); refine bodyPost_ret (results_none rfl _ _ _) rfl ?_))
        first | exact HE.out | exact ⟨⟨_,rfl⟩,HE.out⟩
   | false =>
    have hsh:=HC0.out rfl;subst hsh;have x3:=M1.out.box.box.c 3 rfl;obtain ⟨sn,hsn⟩ : ∃ sn,V.s.n = sn:=⟨_,rfl⟩;have HSL : Hid (m.sl.length = sn):=show _ = _ by rw [←hsn]; exact M1.out.rows.sl.n.symm
    rw [hsn] at x3;clear hsn;go_upto_region 12 with fail
    go_cut [113] (fun s113 wx=>∃ c2 : Bool,s113 = .bool c2∧wx = W1∧Hid (c2 = true→0 < sn))
    case first =>
     by_cases h2 : y = 2
     ·have h2e : (y == 2) = true:=by simp [h2]
      clear h2;go_wp2
      go_meet
      case rel=>exact ⟨_,rfl,rfl,fun h=>by simpa using h⟩
     ·have h2e : (y == 2) = false:=by simp [h2]
      clear h2;go_wp2
      go_meet
      case rel=>exact ⟨false,rfl,rfl,fun h=>(by cases h)⟩
    case rest =>
     obtain ⟨c2,rfl,hwc,HC2⟩:=hcut;rw [hwc];clear hwc
     cases c2 with
     | true =>
      have hs0:=HC2.out rfl;have hpk2:=pick_any (sn : Int) M1.out;go_wp2_with fail;refine hpk2.mono ?_;clear hpk2;rintro e W2 ⟨vl2,L2,z,rfl,mk2,gr2,sz2,z0,z1,_,ll2⟩;obtain ⟨k,rfl⟩ : ∃ k : Nat,z = (k : Int):=⟨z.toNat,by omega⟩
      have hks : k < sn:=by rcases z1 with h | h <;> omega
      have hksz : (k : Int) < (sn : Int):=by omega
      have M2 : Hid (Mk w0 hi W2 b vl2 L2 V m vt T):=mk2;have K2 : Hid (Keeps hi w W2):=K1.out.trans (M1.out.keeps gr2);have LL2 : Hid (Less L L2):=LL1.out.trans ll2;clear mk2 gr2 sz2 z0 z1 ll2 x3;obtain ⟨g,cs',heq⟩:=M2.out.rows.sl.formS (by rw [HSL.out]; omega)
      rw [HSL.out] at heq;have HEQ : Hid (Value.slice V.s.a V.s.n V.s.c = .slice (some ⟨g,0,none⟩) sn cs'):=heq;have x3:=M2.out.box.box.c 3 rfl;rw [HEQ.out] at x3;have hrw:=M2.out.rows.sl;rw [HEQ.out] at hrw;have HRW : Hid (OwnRow slE w0.heap.size W2 (.slice (some ⟨g,0,none⟩) sn cs') m.sl):=hrw;obtain ⟨zv,HZV⟩ : ∃ zv,Hid (m.sl[k]? = some zv):=⟨_,List.getElem?_eq_getElem (by rw [HSL.out]; exact hks)⟩
      have hce:=hrw.one HZV.out;have d0 : W2.cell? ⟨g,k,none⟩ = some (.int .i64 zv):=by
       have:=hce 0 _ rfl;rw [add_add',Addr.add_lit,Nat.zero_add] at this
       simpa [slE,Nat.mul_one] using this
      clear hce hrw heq
      by_cases hz : zv = 0
      ·have hze : (zv == 0) = true:=by simp [hz]
       have HZ0 : Hid (m.sl[k]? = some 0):=show _ = _ by rw [HZV.out,hz]
       clear hz;have xf:=HRW.out.unfrozen rfl;go_upto_region 16 with fail;obtain ⟨ow3,gr3,sz3⟩:=HRW.out.cell (k:=k) (o:=0) rfl HZV.out (y:=1) (u:= .int .i64 1) rfl (by decide)
       obtain ⟨W3,hW3⟩ : ∃ W3,W2.setCell ⟨g,k,none⟩ (.int .i64 1) = W3:=⟨_,rfl⟩;have e3 : W2.setCell ⟨g,k * slE.k + 0,none⟩ (.int .i64 1) = W3:=by rw [←hW3]; simp [slE]
       rw [e3] at ow3 gr3 sz3;rw [hW3];rw [←HEQ.out] at ow3;clear e3 hW3 xf;have hM3:=M2.out.setS (by rw [HEQ.out]; rfl) gr3 sz3 ow3
       have M3 : Hid (Mk w0 hi W3 b vl2 L2 V { m with sl:=m.sl.set k 1 } vt T):=hM3.1;have K3 : Hid (Keeps hi w W3):=K2.out.trans hM3.2;clear hM3 ow3 gr3 sz3 x3 d0 M2 K2 HRW;have HSBL : Hid (m.sb.length = sn):=show _ = _ by rw [HB.out.sbl,HSL.out]
       obtain ⟨gb,cb,hbe⟩ : ∃ gb cb,Value.slice V.sb.a V.sb.n V.sb.c = .slice (some ⟨gb,0,none⟩) sn cb:=by
        have h1:=M3.out.rows.sb.1;have hl : ({ m with sl:=m.sl.set k 1 } : Ma).sb.length = sn:=HSBL.out;rw [hl] at h1
        rcases h1.2 with ⟨_,h2⟩ | ⟨gb,cap,cur,e1,_⟩
        ·omega
        ·exact ⟨gb,cap,e1⟩
       have HBE : Hid (Value.slice V.sb.a V.sb.n V.sb.c = .slice (some ⟨gb,0,none⟩) sn cb):=hbe;clear hbe;obtain ⟨I,HI⟩ : ∃ I : World→Prop,Hid (∀ u,I u↔u.cell? ⟨b,4,none⟩ = some (.slice (some ⟨gb,0,none⟩) sn cb)):=⟨fun u=>u.cell? ⟨b,4,none⟩ = some (.slice (some ⟨gb,0,none⟩) sn cb),fun _=>Iff.rfl⟩
       have HIM : Hid (∀ u vl' L' m',Mk w0 hi u b vl' L' V m' vt T→u.cell? ⟨b,4,none⟩ = some (.slice (some ⟨gb,0,none⟩) sn cb)):=show ∀ u,_ from fun u vl' L' m' hm=>by
        have:=hm.box.box.c 4 rfl;rw [HBE.out] at this;exact this
       have hI0 : I W3.drew:=(HI.out _).2 (HIM.out _ _ _ _ (M3.out.grew (show Below _ _ _ from (Below.refl _ _).drew)))
       have hF0 : MkE w0 hi b w L V { m with sl:=m.sl.set k 1 } vt T W3.drew:=⟨vl2,L2,M3.out.grew (show Below _ _ _ from (Below.refl _ _).drew),LL2.out,K3.out.trans (Keeps.grew (show Below _ _ _ from (Below.refl _ _).drew))⟩
       have ht : ∀ y : HoldI I,y.world.cell? ⟨b,4,none⟩ = some (.slice (some ⟨gb,0,none⟩) sn cb):=fun y=>(HI.out _).1 y.holds
       have hne : Nonempty (HoldI I):=⟨⟨_,hI0⟩⟩;refine wp_lax_tailD (I:=I) 10 [(8,fun v=>∃ q : List Int,v = .agg (pgc q).toArray∧q.length = 8)] (fun u=>MkE w0 hi b w L V { m with sl:=m.sl.set k 1 } vt T u) hI0 hF0 mixed (by kernel_rfl) rfl rfl (by decide) ?hS (by kernel_rfl) ?_
       case hS =>
        intro x hx;simp only [List.mem_cons,List.not_mem_nil,or_false] at hx;subst hx;exact ⟨_,zero8,rfl,rfl⟩
       simp only [List.take,List.drop];iterate 1 (refine laxD_quiet rfl rfl rfl (fun K hK=>?_); go_big_quiet_op; refine hK _ ?_; clear hK K)
       refine laxD_nilc (.tmp 149) ⟨b,0,none⟩ rfl rfl rfl rfl ?_;simp only [Act.put,List.setIfInBounds_toArray,List.set_cons_succ,List.set_cons_zero];iterate 6 (refine laxD_quiet rfl rfl rfl (fun K hK=>?_); go_big_quiet_op; refine hK _ ?_; clear hK K)
       refine laxD_spec rfl rfl (fun _ u=>MkE w0 hi b w L V { m with sl:=m.sl.set k 1 } vt T u) (fun w' hI' hF'=>?_) (fun v1 hv=>?_)
       ·obtain ⟨vl',L',mk',ll',kp'⟩:=hF';refine Does.call [.pointer (some ⟨b,0,none⟩)] rfl Tryz.func31 rfl rfl rfl ?_;refine (page_any mk').mono ?_;rintro e w'' ⟨vl3,L3,q,rfl,ql,mk3,gr3,ll3⟩;exact ⟨_,rfl,(HI.out _).2 (HIM.out _ _ _ _ mk3),⟨q,rfl,ql⟩,vl3,L3,mk3,ll'.trans ll3,kp'.trans (mk'.keeps gr3)⟩
       obtain ⟨q6,rfl,ql6⟩:=hv;have HQL : Hid (q6.length = 8):=ql6;clear ql6;simp only [Act.put,List.setIfInBounds_toArray,List.set_cons_succ,List.set_cons_zero];iterate 1 (refine laxD_quiet rfl rfl rfl (fun K hK=>?_); go_big_quiet_op; refine hK _ ?_; clear hK K)
       refine laxD_nil fun W6 hI6 hF6=>?_
       obtain ⟨vl6,L6,mk6,ll6,kp6⟩:=hF6;have M6 : Hid (Mk w0 hi W6 b vl6 L6 V { m with sl:=m.sl.set k 1 } vt T):=mk6;have LL6 : Hid (Less L L6):=ll6;have K6 : Hid (Keeps hi w W6):=kp6;clear mk6 ll6 kp6 hI6 hI0 hF0 ht hne HI;have R6 : Hid (OwnPages w0.heap.size W6 (.slice (some ⟨gb,0,none⟩) sn cb) m.sb):=show OwnPages _ _ _ _ by rw [←HBE.out]; exact M6.out.rows.sb
       refine wpList_store_page rfl (.tmp 158) (.tmp 157) rfl w0.heap.size _ m.sb R6.out gb k rfl (by rw [HSBL.out]; exact hks) q6 HQL.out ⟨gb,k * 8,none⟩ rfl rfl rfl ?_
       intro W7 ow7 gr7 sz7;rw [←HBE.out] at ow7;have hM7:=M6.out.setSb (by rw [HBE.out]; rfl) gr7 sz7 ow7
       have M7 : Hid (Mk w0 hi W7 b vl6 L6 V { m with sl:=m.sl.set k 1,sb:=m.sb.set k q6 } vt T):=hM7.1;have K7 : Hid (Keeps hi w W7):=K6.out.trans hM7.2;clear hM7 ow7 gr7 sz7 R6 M6 K6;obtain ⟨gt,ct,hte⟩:=M7.out.rows.tt.formS (by rw [HTL.out]; omega)
       rw [HTL.out] at hte;have HTE : Hid (Value.slice vt.a vt.n vt.c = .slice (some ⟨gt,0,none⟩) tn ct):=hte;have R7 : Hid (OwnRow flaE w0.heap.size W7 (.slice (some ⟨gt,0,none⟩) tn ct) T):=show OwnRow _ _ _ _ _ by rw [←HTE.out]; exact M7.out.rows.tt
       have x12:=M7.out.box.box.c 12 rfl;rw [HTE.out] at x12;have hptz : (p : Int) < (tn : Int):=by omega
       have hnz : (n : Int) < 64:=by omega
       clear hte
       go_wp2_with (refine wpList_store_part (E:=flaE) rfl (.tmp 168) (.tmp 166) 67 rfl w0.heap.size _ T R7.out gt p (n * 3) rfl f (updF f n ⟨2,(k : Int),false⟩) HT.out (env ⟨2,(k : Int),false⟩) (by kernel_rfl) (flaE_upd f hn _) (by show n * 3 + 3≤192; omega) (enE.one _) ⟨gt,p * 192 + n * 3,none⟩ rfl rfl (.agg (env ⟨2,(k : Int),false⟩).toArray) rfl rfl ?_)
       intro W9 ow9 gr9 sz9;rw [←HTE.out] at ow9;have hM9:=M7.out.setT (by rw [HTE.out]; rfl) gr9 sz9 ow9
       have M9 : Hid (Mk w0 hi W9 b vl6 L6 V { m with sl:=m.sl.set k 1,sb:=m.sb.set k q6 } vt (T.set p (updF f n ⟨2,(k : Int),false⟩))):=hM9.1;have K9 : Hid (Keeps hi w W9):=K7.out.trans hM9.2;have HBF : Hid (BInv { m with sl:=m.sl.set k 1,sb:=m.sb.set k q6 } (T.set p (updF f n ⟨2,(k : Int),false⟩))):=HB.out.swap HZ0.out HS.out HT.out hn H0.out HIS.out HSE.out.1;clear hM9 ow9 gr9 sz9 R7 x12;have HE : Hid (Ent w0 hi b w L m vt T p n f W9):=show Ent _ _ _ _ _ _ _ _ _ _ _ _ from ⟨vl6,L6,_,_,_,M9.out,LL6.out,K9.out,HBF.out,⟨rfl,rfl,rfl,rfl⟩,.inr ⟨_,rfl⟩,fun h=>absurd h HLN.out⟩
       go_wp2
       (first | go_end0 | ((try simp only [Exit.inBlock,Exit.then]); refine bodyPost_ret (results_none rfl _ _ _) rfl ?_))
       first | exact HE.out | exact ⟨⟨_,rfl⟩,HE.out⟩
      ·have hze : (zv == 0) = false:=by simp [hz]
       clear hz;have HE : Hid (Ent w0 hi b w L m vt T p n f W2):=show Ent _ _ _ _ _ _ _ _ _ _ _ _ from Ent.same p n f HB.out ⟨vl2,L2,M2.out,LL2.out,K2.out⟩
       go_wp2
       (first | go_end0 | ((try simp only [Exit.inBlock,Exit.then]); refine bodyPost_ret (results_none rfl _ _ _) rfl ?_))
       first | exact HE.out | exact ⟨⟨_,rfl⟩,HE.out⟩
     | false =>
      go_upto_region 2 with fail;clear x3;have hpg2:=page_any M1.out;go_wp2_with fail;refine hpg2.mono ?_;clear hpg2;rintro e W5 ⟨vl5,L5,q5,rfl,ql5,mk5,gr5,ll5⟩;obtain ⟨p0,p1,p2,p3,p4,p5,p6,p7,rfl⟩:=len8 q5 ql5;simp only [pgc,List.map_cons,List.map_nil];have M5 : Hid (Mk w0 hi W5 b vl5 L5 V m vt T):=mk5;have K5 : Hid (Keeps hi w W5):=K1.out.trans (M1.out.keeps gr5);have X5 : Hid (BoxT W5 px 82 [.bool true,.bool xrd,.bool xwr,.bool false,.int .i64 xfi,.int .i64 xpg]):=(M1.out.keeps gr5).1 _ _ _ X1.out loc_one;have LL5 : Hid (Less L L5):=LL1.out.trans ll5;clear ql5 mk5 gr5 ll5;have hpk2:=pick_any 2 M5.out;go_wp2_with fail;refine hpk2.mono ?_;clear hpk2;rintro e W6 ⟨vl6,L6,z,rfl,mk6,gr6,_,_,_,_,ll6⟩;have M6 : Hid (Mk w0 hi W6 b vl6 L6 V m vt T):=mk6;have K6 : Hid (Keeps hi w W6):=K5.out.trans (M5.out.keeps gr6);have X6 : Hid (BoxT W6 px 82 [.bool true,.bool xrd,.bool xwr,.bool false,.int .i64 xfi,.int .i64 xpg]):=(M5.out.keeps gr6).1 _ _ _ X5.out loc_one;have LL6 : Hid (Less L L6):=LL5.out.trans ll6;clear mk6 gr6 ll6 M5 K5 X5;have hfm:=frame_any ⟨⟨p0,p1,p2,p3,p4,p5,p6,p7⟩,1,z == 1,false,-1,0⟩ M6.out;go_wp2_with fail;refine hfm.mono ?_;clear hfm;rintro e W7 (⟨rfl,hE⟩ | ⟨k,q,rfl,hq,hr,vl7,L7,mk7,ll7,kp7⟩)
      ·have HEE : Hid (MkE w0 hi b w L V m vt T W7):=hE.trans LL6.out K6.out;clear hE;have HE : Hid (Ent w0 hi b w L m vt T p n f W7):=show Ent _ _ _ _ _ _ _ _ _ _ _ _ from Ent.same p n f HB.out HEE.out
       go_wp2
       (first | go_end0 | ((try simp only [Exit.inBlock,Exit.then]); refine bodyPost_ret (results_none rfl _ _ _) rfl ?_))
       first | exact HE.out | exact ⟨⟨_,rfl⟩,HE.out⟩
      ·have HQ : Hid (m.fs[k]? = some q):=hq;have HR0 : Hid (q.r = 0):=hr;have M7 : Hid (Mk w0 hi W7 b vl7 L7 V { m with fs:=m.fs.set k ⟨⟨p0,p1,p2,p3,p4,p5,p6,p7⟩,1,z == 1,false,-1,0⟩ } vt T):=mk7;have K7 : Hid (Keeps hi w W7):=K6.out.trans kp7;have X7 : Hid (BoxT W7 px 82 [.bool true,.bool xrd,.bool xwr,.bool false,.int .i64 xfi,.int .i64 xpg]):=kp7.1 _ _ _ X6.out loc_one;have LL7 : Hid (Less L L7):=LL6.out.trans ll7;clear hq hr mk7 ll7 kp7 M6 K6 X6;have hk0 : (0 : Int)≤(k : Int):=by omega
       have hkd : decide ((0 : Int)≤(k : Int)) = true:=by simp
       have HBF : Hid (∀ wf : Bool,(wf = true→xwr = true)→BInv { m with fs:=m.fs.set k ⟨⟨p0,p1,p2,p3,p4,p5,p6,p7⟩,1,z == 1,false,-1,0⟩ } (T.set p (updF f n ⟨1,(k : Int),wf⟩))):=show ∀ wf : Bool,_ from fun wf hwf=>HB.out.mine HQ.out HR0.out HS.out HT.out hn H0.out HIS.out HSE.out.1 (fun e=>by rw [HWR.out]; exact hwf e)
       go_upto_region 4 with fail
       cases xwr with
       | false =>
        obtain ⟨gt,ct,hte⟩:=M7.out.rows.tt.formS (by rw [HTL.out]; omega)
        rw [HTL.out] at hte;have HTE : Hid (Value.slice vt.a vt.n vt.c = .slice (some ⟨gt,0,none⟩) tn ct):=hte;clear hte;obtain ⟨I,HI⟩ : ∃ I : World→Prop,Hid (∀ u,I u↔u.cell? ⟨b,12,none⟩ = some (.slice (some ⟨gt,0,none⟩) tn ct)∧BoxT u px 82 [.bool true,.bool xrd,.bool false,.bool false,.int .i64 xfi,.int .i64 xpg]):=⟨fun u=>u.cell? ⟨b,12,none⟩ = some (.slice (some ⟨gt,0,none⟩) tn ct)∧BoxT u px 82 [.bool true,.bool xrd,.bool false,.bool false,.int .i64 xfi,.int .i64 xpg],fun _=>Iff.rfl⟩
        have HIM : Hid (∀ u vl' L' V' m',Mk w0 hi u b vl' L' V' m' vt T→u.cell? ⟨b,12,none⟩ = some (.slice (some ⟨gt,0,none⟩) tn ct)):=show ∀ u,_ from fun u vl' L' V' m' hm=>by
         have:=hm.box.box.c 12 rfl;rw [HTE.out] at this;exact this
        have hI0 : I W7.drew:=(HI.out _).2 ⟨HIM.out _ _ _ _ _ (M7.out.grew (show Below _ _ _ from (Below.refl _ _).drew)),X7.out.grew (show Below _ _ _ from (Below.refl _ _).drew)⟩
        have hF0 : MkE w0 hi b w L V { m with fs:=m.fs.set k ⟨⟨p0,p1,p2,p3,p4,p5,p6,p7⟩,1,z == 1,false,-1,0⟩ } vt T W7.drew:=⟨vl7,L7,M7.out.grew (show Below _ _ _ from (Below.refl _ _).drew),LL7.out,K7.out.trans (Keeps.grew (show Below _ _ _ from (Below.refl _ _).drew))⟩
        have ht : ∀ y : HoldI I,y.world.cell? ⟨b,12,none⟩ = some (.slice (some ⟨gt,0,none⟩) tn ct):=fun y=>((HI.out _).1 y.holds).1
        have hx2 : ∀ y : HoldI I,y.world.cell? ⟨px,2,none⟩ = some (.bool false):=fun y=>((HI.out _).1 y.holds).2.box.c 2 rfl
        have hx3 : ∀ y : HoldI I,y.world.cell? ⟨px,3,none⟩ = some (.bool false):=fun y=>((HI.out _).1 y.holds).2.box.c 3 rfl
        have hne : Nonempty (HoldI I):=⟨⟨_,hI0⟩⟩;have hptz : (p : Int) < (tn : Int):=by omega
        have hnz : (n : Int) < 64:=by omega
        refine wp_lax_tailD (I:=I) 17 [(11,fun v=>∃ x : Int,v = .int .i64 x)] (fun u=>MkE w0 hi b w L V { m with fs:=m.fs.set k ⟨⟨p0,p1,p2,p3,p4,p5,p6,p7⟩,1,z == 1,false,-1,0⟩ } vt T u) hI0 hF0 mixed (by kernel_rfl) rfl rfl (by decide) ?hS (by kernel_rfl) ?_
        case hS =>
         intro x hx;simp only [List.mem_cons,List.not_mem_nil,or_false] at hx;subst hx;exact ⟨_,0,rfl⟩
        simp only [List.take,List.drop];iterate 1 (refine laxD_quiet rfl rfl rfl (fun K hK=>?_); go_big_quiet_op; refine hK _ ?_; clear hK K)
        refine laxD_nilc (.tmp 24) ⟨b,0,none⟩ rfl rfl rfl rfl ?_;simp only [Act.put,List.setIfInBounds_toArray,List.set_cons_succ,List.set_cons_zero];iterate 8 (refine laxD_quiet rfl rfl rfl (fun K hK=>?_); go_big_quiet_op; refine hK _ ?_; clear hK K)
        refine laxD_skip ?_ ?_
        ·kernel_rfl
        simp only [Act.put,List.setIfInBounds_toArray,List.set_cons_succ,List.set_cons_zero];refine laxD_skip ?_ ?_
        ·kernel_rfl
        simp only [Act.put,List.setIfInBounds_toArray,List.set_cons_succ,List.set_cons_zero];refine laxD_skip ?_ ?_
        ·kernel_rfl
        simp only [Act.put,List.setIfInBounds_toArray,List.set_cons_succ,List.set_cons_zero];iterate 4 (refine laxD_quiet rfl rfl rfl (fun K hK=>?_); go_big_quiet_op; refine hK _ ?_; clear hK K)
        refine laxD_nil fun W8 hI8 hF8=>?_
        obtain ⟨vl8,L8,mk8,ll8,kp8⟩:=hF8;have M8 : Hid (Mk w0 hi W8 b vl8 L8 V { m with fs:=m.fs.set k ⟨⟨p0,p1,p2,p3,p4,p5,p6,p7⟩,1,z == 1,false,-1,0⟩ } vt T):=mk8;have LL8 : Hid (Less L L8):=ll8;have K8 : Hid (Keeps hi w W8):=kp8;clear mk8 ll8 kp8 hI8 hI0 hF0 ht hx2 hx3 hne HI;have R8 : Hid (OwnRow flaE w0.heap.size W8 (.slice (some ⟨gt,0,none⟩) tn ct) T):=show OwnRow _ _ _ _ _ by rw [←HTE.out]; exact M8.out.rows.tt
        refine wpList_store_part (E:=flaE) rfl (.tmp 40) (.tmp 38) 67 rfl w0.heap.size _ T R8.out gt p (n * 3) rfl f (updF f n ⟨1,(k : Int),false⟩) HT.out (env ⟨1,(k : Int),false⟩) (by kernel_rfl) (flaE_upd f hn _) (by show n * 3 + 3≤192; omega) (enE.one _) ⟨gt,p * 192 + n * 3,none⟩ rfl rfl (.agg (env ⟨1,(k : Int),false⟩).toArray) rfl rfl ?_
        intro W9 ow9 gr9 sz9;rw [←HTE.out] at ow9;have hM9:=M8.out.setT (by rw [HTE.out]; rfl) gr9 sz9 ow9
        have M9 : Hid (Mk w0 hi W9 b vl8 L8 V { m with fs:=m.fs.set k ⟨⟨p0,p1,p2,p3,p4,p5,p6,p7⟩,1,z == 1,false,-1,0⟩ } vt (T.set p (updF f n ⟨1,(k : Int),false⟩))):=hM9.1;have K9 : Hid (Keeps hi w W9):=K8.out.trans hM9.2;clear hM9 ow9 gr9 sz9 R8;have HE : Hid (Ent w0 hi b w L m vt T p n f W9):=show Ent _ _ _ _ _ _ _ _ _ _ _ _ from ⟨vl8,L8,_,_,_,M9.out,LL8.out,K9.out,HBF.out _ (by intro e; first | rfl | cases e),⟨rfl,rfl,rfl,List.length_set⟩,.inr ⟨_,rfl⟩,fun h=>absurd h HLN.out⟩
        go_wp2
        (first | go_end0 | ((try simp only [Exit.inBlock,Exit.then]); refine bodyPost_ret (results_none rfl _ _ _) rfl ?_))
        first | exact HE.out | exact ⟨⟨_,rfl⟩,HE.out⟩
       | true =>
        obtain ⟨gt,ct,hte⟩:=M7.out.rows.tt.formS (by rw [HTL.out]; omega)
        rw [HTL.out] at hte;have HTE : Hid (Value.slice vt.a vt.n vt.c = .slice (some ⟨gt,0,none⟩) tn ct):=hte;clear hte;obtain ⟨I,HI⟩ : ∃ I : World→Prop,Hid (∀ u,I u↔u.cell? ⟨b,12,none⟩ = some (.slice (some ⟨gt,0,none⟩) tn ct)∧BoxT u px 82 [.bool true,.bool xrd,.bool true,.bool false,.int .i64 xfi,.int .i64 xpg]):=⟨fun u=>u.cell? ⟨b,12,none⟩ = some (.slice (some ⟨gt,0,none⟩) tn ct)∧BoxT u px 82 [.bool true,.bool xrd,.bool true,.bool false,.int .i64 xfi,.int .i64 xpg],fun _=>Iff.rfl⟩
        have HIM : Hid (∀ u vl' L' V' m',Mk w0 hi u b vl' L' V' m' vt T→u.cell? ⟨b,12,none⟩ = some (.slice (some ⟨gt,0,none⟩) tn ct)):=show ∀ u,_ from fun u vl' L' V' m' hm=>by
         have:=hm.box.box.c 12 rfl;rw [HTE.out] at this;exact this
        have hI0 : I W7.drew:=(HI.out _).2 ⟨HIM.out _ _ _ _ _ (M7.out.grew (show Below _ _ _ from (Below.refl _ _).drew)),X7.out.grew (show Below _ _ _ from (Below.refl _ _).drew)⟩
        have hF0 : MkE w0 hi b w L V { m with fs:=m.fs.set k ⟨⟨p0,p1,p2,p3,p4,p5,p6,p7⟩,1,z == 1,false,-1,0⟩ } vt T W7.drew:=⟨vl7,L7,M7.out.grew (show Below _ _ _ from (Below.refl _ _).drew),LL7.out,K7.out.trans (Keeps.grew (show Below _ _ _ from (Below.refl _ _).drew))⟩
        have ht : ∀ y : HoldI I,y.world.cell? ⟨b,12,none⟩ = some (.slice (some ⟨gt,0,none⟩) tn ct):=fun y=>((HI.out _).1 y.holds).1
        have hx2 : ∀ y : HoldI I,y.world.cell? ⟨px,2,none⟩ = some (.bool true):=fun y=>((HI.out _).1 y.holds).2.box.c 2 rfl
        have hx3 : ∀ y : HoldI I,y.world.cell? ⟨px,3,none⟩ = some (.bool false):=fun y=>((HI.out _).1 y.holds).2.box.c 3 rfl
        have hne : Nonempty (HoldI I):=⟨⟨_,hI0⟩⟩;have hptz : (p : Int) < (tn : Int):=by omega
        have hnz : (n : Int) < 64:=by omega
        refine wp_lax_tailD (I:=I) 17 [(11,fun v=>∃ x : Int,v = .int .i64 x)] (fun u=>MkE w0 hi b w L V { m with fs:=m.fs.set k ⟨⟨p0,p1,p2,p3,p4,p5,p6,p7⟩,1,z == 1,false,-1,0⟩ } vt T u) hI0 hF0 mixed (by kernel_rfl) rfl rfl (by decide) ?hS (by kernel_rfl) ?_
        case hS =>
         intro x hx;simp only [List.mem_cons,List.not_mem_nil,or_false] at hx;subst hx;exact ⟨_,0,rfl⟩
        simp only [List.take,List.drop];iterate 1 (refine laxD_quiet rfl rfl rfl (fun K hK=>?_); go_big_quiet_op; refine hK _ ?_; clear hK K)
        refine laxD_nilc (.tmp 24) ⟨b,0,none⟩ rfl rfl rfl rfl ?_;simp only [Act.put,List.setIfInBounds_toArray,List.set_cons_succ,List.set_cons_zero];iterate 8 (refine laxD_quiet rfl rfl rfl (fun K hK=>?_); go_big_quiet_op; refine hK _ ?_; clear hK K)
        iterate 1 (refine laxD_quiet rfl rfl rfl (fun K hK=>?_); go_big_quiet_op; refine hK _ ?_; clear hK K)
        refine laxD_spec rfl rfl (fun _ u=>MkE w0 hi b w L V { m with fs:=m.fs.set k ⟨⟨p0,p1,p2,p3,p4,p5,p6,p7⟩,1,z == 1,false,-1,0⟩ } vt T u) (fun w' hI' hF'=>?_) (fun v1 hv=>?_)
        ·obtain ⟨vl',L',mk',ll',kp'⟩:=hF';refine Does.call [.pointer (some ⟨b,0,none⟩),.int .i64 2] rfl Tryz.func28 rfl rfl rfl ?_;refine (pick_any 2 mk').mono ?_;rintro e w'' ⟨vl2,L2,x,rfl,mk2,gr2,_,_,_,_,ll2⟩;exact ⟨_,rfl,(HI.out _).2 ⟨HIM.out _ _ _ _ _ mk2,(mk'.keeps gr2).1 _ _ _ ((HI.out _).1 hI').2 loc_one⟩,⟨x,rfl⟩,vl2,L2,mk2,ll'.trans ll2,kp'.trans (mk'.keeps gr2)⟩
        obtain ⟨xq,rfl⟩:=hv;simp only [Act.put,List.setIfInBounds_toArray,List.set_cons_succ,List.set_cons_zero];iterate 5 (refine laxD_quiet rfl rfl rfl (fun K hK=>?_); go_big_quiet_op; refine hK _ ?_; clear hK K)
        refine laxD_nil fun W8 hI8 hF8=>?_
        obtain ⟨vl8,L8,mk8,ll8,kp8⟩:=hF8;have M8 : Hid (Mk w0 hi W8 b vl8 L8 V { m with fs:=m.fs.set k ⟨⟨p0,p1,p2,p3,p4,p5,p6,p7⟩,1,z == 1,false,-1,0⟩ } vt T):=mk8;have LL8 : Hid (Less L L8):=ll8;have K8 : Hid (Keeps hi w W8):=kp8;clear mk8 ll8 kp8 hI8 hI0 hF0 ht hx2 hx3 hne HI;have R8 : Hid (OwnRow flaE w0.heap.size W8 (.slice (some ⟨gt,0,none⟩) tn ct) T):=show OwnRow _ _ _ _ _ by rw [←HTE.out]; exact M8.out.rows.tt
        refine wpList_store_part (E:=flaE) rfl (.tmp 40) (.tmp 38) 67 rfl w0.heap.size _ T R8.out gt p (n * 3) rfl f (updF f n ⟨1,(k : Int),(xq == 1)⟩) HT.out (env ⟨1,(k : Int),(xq == 1)⟩) (by kernel_rfl) (flaE_upd f hn _) (by show n * 3 + 3≤192; omega) (enE.one _) ⟨gt,p * 192 + n * 3,none⟩ rfl rfl (.agg (env ⟨1,(k : Int),(xq == 1)⟩).toArray) rfl rfl ?_
        intro W9 ow9 gr9 sz9;rw [←HTE.out] at ow9;have hM9:=M8.out.setT (by rw [HTE.out]; rfl) gr9 sz9 ow9
        have M9 : Hid (Mk w0 hi W9 b vl8 L8 V { m with fs:=m.fs.set k ⟨⟨p0,p1,p2,p3,p4,p5,p6,p7⟩,1,z == 1,false,-1,0⟩ } vt (T.set p (updF f n ⟨1,(k : Int),(xq == 1)⟩))):=hM9.1;have K9 : Hid (Keeps hi w W9):=K8.out.trans hM9.2;clear hM9 ow9 gr9 sz9 R8;have HE : Hid (Ent w0 hi b w L m vt T p n f W9):=show Ent _ _ _ _ _ _ _ _ _ _ _ _ from ⟨vl8,L8,_,_,_,M9.out,LL8.out,K9.out,HBF.out _ (by intro e; first | rfl | cases e),⟨rfl,rfl,rfl,List.length_set⟩,.inr ⟨_,rfl⟩,fun h=>absurd h HLN.out⟩
        go_wp2
        (first | go_end0 | ((try simp only [Exit.inBlock,Exit.then]); refine bodyPost_ret (results_none rfl _ _ _) rfl ?_))
        first | exact HE.out | exact ⟨⟨_,rfl⟩,HE.out⟩
end
section
def yn (b : Bool) : Int:=if b = true then 121 else 110
def sumTo (g : Nat→Nat) : Nat→Nat
 | 0=>0
 | n + 1=>sumTo g n + g n
def areaTo (l : List Ar) : Nat→Nat
 | 0=>0
 | n + 1=>areaTo l n + (onAt l n).is.toNat
theorem area_map {l : List Ar} {a : Ar} (h : (mapA l a).2 = 0) : areaTo (mapA l a).1 64≤areaTo l 64 + (a.tz - a.fr).toNat:=by
 obtain ⟨h1,h2,h3,h4,h5⟩:=mapA_ok h;have ha:=arW_zero.1 h2;have hg:=mapF_good (wrL_zero.1 h1).2 ha;unfold ArOk at ha;have key : ∀ n : Nat,n≤64→areaTo (mapA l a).1 n≤areaTo l n + (min (n : Int) a.tz - min (n : Int) a.fr).toNat:=by
  intro n
  induction n with
  | zero=>intro _; simp [areaTo]
  | succ n ih =>
   intro hn;have ih':=ih (by omega)
   unfold areaTo;have e : (onAt (mapA l a).1 n).is = (mapF l a n).is:=by rw [h5,joinL_at hg (by omega)]
   rw [e];unfold mapF
   by_cases hin : arIn a n = true
   ·have:=arIn_iff.1 hin;rw [if_pos hin,oneOf_is];simp only [Bool.toNat_true];omega
   ·have hin' : ¬ (a.fr≤(n : Int)∧(n : Int) < a.tz):=fun h=>hin (arIn_iff.2 h)
    rw [if_neg hin];omega
 have:=key 64 (Nat.le_refl _);omega
end
section
open Go.RowKit
section
variable {base hi S0 : Nat} {w w' : World} {V : MaV} {m : Ma} {vt : Sli} {T : List (Nat→En)}
def SpB (base S0 : Nat) (w : World) (V : MaV) (m : Ma) : Prop:=∃ xs : List SpV,OwnRow spcE base w (.slice V.sp.a V.sp.n V.sp.c) xs∧xs.length = m.sp.length∧∀ (i : Nat) x s,xs[i]? = some x→m.sp[i]? = some s→(x.live = s.live∧OwnRow arE base w x.ar.v s.ars∧x.tab = nil8∧s.tb = none8)∧∀ g,x.ar.v.ownBlock = some g→g < S0
theorem MkR.spB (h : MkR base hi w V m vt T) : SpB base w.heap.size w V m:=by
 obtain ⟨xs,h1,h2,h3⟩:=h.sp;exact ⟨xs,h1,h2,fun i x s hx hs=>⟨h3 i x s hx hs,fun g hg=>((h3 i x s hx hs).2.1.lt g hg).2⟩⟩
theorem SpB.grew (h : SpB base S0 w V m) (k : Grew w w') : SpB base S0 w' V m:=by
 obtain ⟨xs,h1,h2,h3⟩:=h;refine ⟨xs,h1.grew k,h2,fun i x s hx hs=>?_⟩
 obtain ⟨⟨a1,a2,a3⟩,a4⟩:=h3 i x s hx hs;exact ⟨⟨a1,a2.grew k,a3⟩,a4⟩
theorem SpB.kind (h : SpB base S0 w V m) {g : Nat} {t : TypeId} {cs : Array Value} (hg : w.grownBy w' (some g)) (ho : w.heap[g]? = some (.cells cs t (0,0))) (h1 : t≠65) (h2 : t≠69∨S0≤g) : SpB base S0 w' V m:=by
 obtain ⟨xs,k1,k2,k3⟩:=h;refine ⟨xs,k1.kind hg ho h1,k2,fun i x s hx hs=>?_⟩
 obtain ⟨⟨a1,a2,a3⟩,a4⟩:=k3 i x s hx hs;refine ⟨⟨a1,?_,a3⟩,a4⟩
 rcases h2 with h2 | h2
 ·exact a2.kind hg ho h2
 ·exact a2.grown hg fun k hk e=>by cases e; have:=a4 _ hk; omega
theorem MkR.area (h : MkR base hi w V m vt T) (hs : SpB base S0 w V m) {g : Nat} {cs : Array Value} (hg : w.grownBy w' (some g)) (ho : w.heap[g]? = some (.cells cs 69 (0,0))) (hb : S0≤g) : MkR base hi w' V m vt T:=by
 obtain ⟨k1,k2,k3,k4,k5,k6,k7,k8,k9⟩:=h.kept hg ho;obtain ⟨xs,q1,q2,q3⟩:=hs.kind hg ho (by decide) (.inr hb)
 exact ⟨Nat.le_trans h.hw hg.size,h.bh,k1 (by decide),k2 (.inl (by decide)),h.slh,k3 (.inl (by decide)),h.sbh,h.sq,k4 (.inl (by decide)),h.dbh,k5 (by decide),k6 (by decide) (.inl (by decide)),k7 (by decide),⟨xs,q1,q2,fun i x s hx hs=>(q3 i x s hx hs).1⟩,k9 (by decide),h.ap⟩
theorem grown_none (h : w.grownBy w' none) : Grew w w':=grew_beside (Grew.refl _) h (fun g e=>by cases e)
theorem MkR.addSp {ys : List SpV} (h : MkR base hi w V m vt T) (s1 : OwnRow spcE base w (.slice V.sp.a V.sp.n V.sp.c) ys) (s2 : ys.length = m.sp.length) (s3 : ∀ (i : Nat) x s,ys[i]? = some x→m.sp[i]? = some s→x.live = s.live∧OwnRow arE base w x.ar.v s.ars∧x.tab = nil8∧s.tb = none8)
  (hg : w.grownBy w' (Value.slice V.sp.a V.sp.n V.sp.c).ownBlock) (s xa : Sli) {l : List Ar} (hl : OwnRow arE base w xa.v l) (ho : OwnRow spcE base w' (.slice s.a s.n s.c) (ys ++ [⟨true,xa,sli0,sli0,sli0,sli0,sli0,sli0,sli0,sli0⟩])) : MkR base hi w' { V with sp:=s } { m with sp:=m.sp ++ [⟨true,l,none8⟩] } vt T:=by
 have fin : (∀ {x : SpV} {q : Sp},OwnRow arE base w x.ar.v q.ars→OwnRow arE base w' x.ar.v q.ars)→OwnRow arE base w' xa.v l→∃ xs : List SpV,OwnRow spcE base w' (.slice s.a s.n s.c) xs∧xs.length = (m.sp ++ [(⟨true,l,none8⟩ : Sp)]).length∧∀ (i : Nat) x q,xs[i]? = some x→(m.sp ++ [(⟨true,l,none8⟩ : Sp)])[i]? = some q→x.live = q.live∧OwnRow arE base w' x.ar.v q.ars∧x.tab = nil8∧q.tb = none8:=fun k1 k2=>by
  refine ⟨_,ho,by simp [s2],fun i x q hx hq=>?_⟩
  rcases Nat.lt_or_ge i ys.length with hi | hi
  ·rw [List.getElem?_append_left hi] at hx;rw [List.getElem?_append_left (by omega)] at hq
   obtain ⟨a1,a2,a3,a4⟩:=s3 i x q hx hq;exact ⟨a1,k1 a2,a3,a4⟩
  ·rw [List.getElem?_append_right hi] at hx;rw [List.getElem?_append_right (by omega),←s2] at hq
   have hi0 : i - ys.length = 0:=by
    have:=(List.getElem?_eq_some_iff.1 hx).1
    simp at this
    omega
   rw [hi0] at hx hq;cases hx;cases hq;exact ⟨rfl,k2,rfl,rfl⟩
 cases hob : (Value.slice V.sp.a V.sp.n V.sp.c).ownBlock with
 | none =>
  rw [hob] at hg;have k:=grown_none hg;have h':=h.grew k;exact ⟨h'.hw,h'.bh,h'.fs,h'.sl,h'.slh,h'.sb,h'.sbh,h'.sq,h'.db,h'.dbh,h'.dq,h'.fl,h'.ca,fin (fun h=>h.grew k) (hl.grew k),h'.tt,h'.ap⟩
 | some g =>
  rw [hob] at hg;obtain ⟨cs,hc⟩:=s1.obj hob;obtain ⟨k1,k2,k3,k4,k5,k6,k7,k8,k9⟩:=h.kept hg hc;exact ⟨Nat.le_trans h.hw hg.size,h.bh,k1 (by decide),k2 (.inl (by decide)),h.slh,k3 (.inl (by decide)),h.sbh,h.sq,k4 (.inl (by decide)),h.dbh,k5 (by decide),k6 (by decide) (.inl (by decide)),k7 (by decide),fin (fun h=>h.kind hg hc (by decide)) (hl.kind hg hc (by decide)),k9 (by decide),h.ap⟩
theorem MkR.addT (h : MkR base hi w V m vt T) (hg : w.grownBy w' (Value.slice vt.a vt.n vt.c).ownBlock) (s : Sli) {f : Nat→En} (ho : OwnRow flaE base w' (.slice s.a s.n s.c) (T ++ [f])) : MkR base hi w' V m s (T ++ [f]):=by
 cases hob : (Value.slice vt.a vt.n vt.c).ownBlock with
 | none =>
  rw [hob] at hg;have h':=h.grew (grown_none hg);exact ⟨h'.hw,h'.bh,h'.fs,h'.sl,h'.slh,h'.sb,h'.sbh,h'.sq,h'.db,h'.dbh,h'.dq,h'.fl,h'.ca,h'.sp,ho,h'.ap⟩
 | some g =>
  rw [hob] at hg;obtain ⟨cs,hc⟩:=h.tt.obj hob;obtain ⟨k1,k2,k3,k4,k5,k6,k7,k8,k9⟩:=h.kept hg hc;exact ⟨Nat.le_trans h.hw hg.size,h.bh,k1 (by decide),k2 (.inl (by decide)),h.slh,k3 (.inl (by decide)),h.sbh,h.sq,k4 (.inl (by decide)),h.dbh,k5 (by decide),k6 (by decide) (.inl (by decide)),k7 (by decide),k8 (by decide) (by decide),ho,h.ap⟩
theorem Keeps.row {α : Type} {E : Elt α} {v : Value} {l : List α} (h : OwnRow E base w v l) (hg : w.grownBy w' v.ownBlock) (hn : ∀ p,¬ Loc hi p E.ty) : Keeps hi w w':=by
 cases hob : v.ownBlock with
 | none =>
  rw [hob] at hg;exact Keeps.grew (grown_none hg)
 | some g =>
  rw [hob] at hg;obtain ⟨cs,hc⟩:=h.obj hob;exact Keeps.kind hg hc (fun p hl=>absurd hl (hn p))
theorem BoxT.row {α : Type} {E : Elt α} {v : Value} {l : List α} {b : Nat} {t : TypeId} {cs : List Value} (h : OwnRow E base w v l) (hg : w.grownBy w' v.ownBlock) (hb : BoxT w b t cs) (ht : t≠E.ty) : BoxT w' b t cs:=hb.beside hg fun g e=>h.ne hb ht g e
theorem Grew.row {α : Type} {E : Elt α} {v : Value} {l : List α} {w0 : World} (h : OwnRow E w0.heap.size w v l) (hg : w.grownBy w' v.ownBlock) (h0 : Grew w0 w) : Grew w0 w':=grew_beside h0 hg fun g e=>(h.lt g e).1
end
section
variable {w0 w w' : World} {hi b S0 : Nat} {vl : Sli} {L : List Int} {V : MaV} {m : Ma} {vt : Sli} {T : List (Nat→En)}
theorem Mk.area (h : Mk w0 hi w b vl L V m vt T) (hs : SpB w0.heap.size S0 w V m) {g : Nat} {cs : List Value} (hg : w.grownBy w' (some g)) (ho : BoxT w g 69 cs) (hb : S0≤g) (hb2 : w0.heap.size≤g) : Mk w0 hi w' b vl L V m vt T∧SpB w0.heap.size S0 w' V m:=by
 refine ⟨⟨grew_grown h.gr hg hb2,h.hb,h.box.beside hg (fun k e=>?_),h.lr,h.lc,h.lb,h.rows.area hs hg ho hb⟩,hs.kind hg ho (by decide) (.inr hb)⟩
 cases e;intro e;subst e;have h1 : w.heap[b]? = _:=h.box;rw [show w.heap[b]? = _ from ho] at h1
 cases h1
theorem SpB.pick (hs : SpB w0.heap.size S0 w V m) (h : Mk w0 hi w b vl L V m vt T) (hg : w.grownBy w' (some b)) : SpB w0.heap.size S0 w' V m:=hs.kind hg h.box (by decide) (.inl (by decide))
theorem OwnRow.pick {l : List Ar} {v : Value} (hs : OwnRow arE w0.heap.size w v l) (h : Mk w0 hi w b vl L V m vt T) (hg : w.grownBy w' (some b)) : OwnRow arE w0.heap.size w' v l:=hs.kind hg h.box (by decide)
end
theorem loc_area {hi p : Nat} : Loc hi p 69:=⟨by decide,by decide,by decide,by decide,by decide,by decide,by decide,by decide,fun h=>absurd h (by decide)⟩
theorem set_grown (w : World) (g i : Nat) (u : Value) : w.grownBy (w.setCell ⟨g,i,none⟩ u) (some g):=⟨rfl,rfl,rfl,by simp [World.setCell],fun k _ hk=>Below.heap_setCell _ _ _ _ (fun e=>hk (by rw [e]))⟩
def Spc (w0 : World) (hi b : Nat) (w : World) (L : List Int) (m : Ma) (T : List (Nat→En)) (w' : World) : Prop:=∃ vl' L' V' m' vt' T' l,Mk w0 hi w' b vl' L' V' m' vt' T'∧Less L L'∧Keeps hi w w'∧BInv m' T'∧(m'.sp = m.sp ++ [⟨true,l,none8⟩]∧m'.fl = m.fl∧m'.hand = m.hand∧m'.fs.length = m.fs.length)∧(FilesIn m.fl.length l∧areaTo l 64≤12)∧(L = []→m' = { m with sp:=m.sp ++ [⟨true,[],none8⟩] }∧T' = T ++ [fun _=>en0])
theorem updF_self (f : Nat→En) (n : Nat) : updF f n (f n) = f:=by
 funext j
 unfold updF
 split
 ·rename_i e
  rw [e]
 ·rfl
theorem set_self {α : Type} {l : List α} {i : Nat} {x : α} (h : l[i]? = some x) : l.set i x = l:=by
 apply List.ext_getElem?
 intro j
 by_cases e : j = i
 ·subst e;rw [List.getElem?_set_self (List.getElem?_eq_some_iff.1 h).1,h]
 ·rw [List.getElem?_set_ne (fun h=>e h.symm)]
section
variable {m : Ma} {T : List (Nat→En)} {s0 s1 : Sp} {fA fB : Nat→En} {n : Nat}
theorem BInv.entry0 (h : BInv m T) (hs0 : m.sp[0]? = some s0) (hA : T[0]? = some fA) (hn : n < 64) : fA n = en0∨(∃ (k : Nat) (fr : Fr),(fA n).kind = 1∧(fA n).n = (k : Int)∧m.fs[k]? = some fr)∨(∃ (k : Nat) (z : Int),(fA n).kind = 2∧(fA n).n = (k : Int)∧m.sl[k]? = some z∧0≤z∧z≤1000):=by
 rcases h.ent 0 s0 fA hs0 hA n hn with e | e
 ·exact .inl e
 ·by_cases hk : (fA n).kind = 2
  ·refine .inr (.inr ?_);obtain ⟨h1,h2,h3⟩:=e;obtain ⟨a1,a2,a3⟩:=enW_zero h1;unfold entE at h3
   by_cases h0 : (onAt s0.ars n).is = false
   ·rw [if_pos h0] at h3; cases h3
   ·rw [if_neg h0,if_pos hk] at h3
    split at h3
    ·cases h3
    ·rename_i hno
     have hlt : (fA n).n.toNat < m.sl.length:=by
      have : ¬ (m.sl.length : Int)≤(fA n).n:=fun e=>hno (.inl e)
      omega
     have hz:=h.cs _ _ (List.getElem?_eq_getElem hlt);have hh:=hold_le T 2 ((fA n).n.toNat : Int);have h5:=h.tl;have h6:=h.spl;exact ⟨(fA n).n.toNat,m.sl[(fA n).n.toNat],hk,by omega,List.getElem?_eq_getElem hlt,by omega,by omega⟩
  ·obtain ⟨p1,p2,p3,_⟩:=entE_present e hk;have hlt : (fA n).n.toNat < m.fs.length:=by omega
   exact .inr (.inl ⟨(fA n).n.toNat,m.fs[(fA n).n.toNat],p1,by omega,List.getElem?_eq_getElem hlt⟩)
theorem BInv.forkP (h : BInv m T) (hs0 : m.sp[0]? = some s0) (hs1 : m.sp[1]? = some s1) (har : s1.ars = s0.ars) (hA : T[0]? = some fA) (hB : T[1]? = some fB) (hn : n < 64) (hBn : fB n = en0) {k : Nat} {fr : Fr} (hk : m.fs[k]? = some fr) (hkind : (fA n).kind = 1) (hen : (fA n).n = (k : Int)) {e' : En} (he : e' = if (onAt s0.ars n).sh = true then fA n else { fA n with wr:=false }) :
  BInv { m with fs:=m.fs.set k { fr with r:=fr.r + 1 } } ((T.set 0 (updF fA n e')).set 1 (updF fB n e')):=by
 have hne : fA n≠en0:=fun e=>by rw [e] at hkind; cases hkind
 have hok : EntOk m (onAt s0.ars n) (fA n):=(h.ent 0 s0 fA hs0 hA n hn).resolve_left hne
 by_cases hsh : (onAt s0.ars n).sh = true
 ·rw [if_pos hsh] at he;subst he;rw [updF_self,set_self hA];refine h.share hk hA rfl hB (by decide) hn hBn hs1 (by rw [har]; exact hok) hkind hen (fun _ hf=>?_)
  obtain ⟨h1,h2,h3⟩:=hok;unfold entE at h3
  by_cases h0 : (onAt s0.ars n).is = false
  ·rw [if_pos h0] at h3; cases h3
  ·rw [if_neg h0,if_neg (by rw [hkind]; decide)] at h3
   split at h3
   ·cases h3
   ·split at h3
    ·cases h3
    ·rename_i hno
     have hfr : frAt m (fA n).n = fr:=by rw [hen]; exact frAt_of hk
     have : 0≤(onAt s0.ars n).file∧(frAt m (fA n).n).f = (onAt s0.ars n).file∧(frAt m (fA n).n).x = (onAt s0.ars n).page:=Classical.byContradiction fun e=>hno (.inr (.inl ⟨hsh,e⟩))
     rw [hfr] at this;omega
 ·rw [if_neg hsh] at he;subst he;have g:=h.guard hA hn hne;have hA' : (T.set 0 (updF fA n { fA n with wr:=false }))[0]? = some (updF fA n { fA n with wr:=false }):=List.getElem?_set_self (List.getElem?_eq_some_iff.1 hA).1;have hB' : (T.set 0 (updF fA n { fA n with wr:=false }))[1]? = some fB:=by rw [List.getElem?_set_ne (by decide)]; exact hB
  have hv : updF fA n { fA n with wr:=false } n = { fA n with wr:=false }:=by unfold updF; rw [if_pos rfl]
  refine g.share hk hA' hv hB' (by decide) hn hBn hs1 ?_ hkind hen (fun e=>by cases e)
  rw [har];have:=g.ent 0 s0 _ hs0 hA' n hn;rw [hv] at this;refine this.resolve_left fun e=>?_
  have : ({ fA n with wr:=false } : En).kind = en0.kind:=by rw [e]
  rw [show ({ fA n with wr:=false } : En).kind = (fA n).kind from rfl,hkind] at this
  cases this
theorem BInv.forkS (h : BInv m T) (hs0 : m.sp[0]? = some s0) (hs1 : m.sp[1]? = some s1) (har : s1.ars = s0.ars) (hA : T[0]? = some fA) (hB : T[1]? = some fB) (hn : n < 64) (hBn : fB n = en0) {k : Nat} {z : Int} (hk : m.sl[k]? = some z) (hkind : (fA n).kind = 2) (hen : (fA n).n = (k : Int)) :
  BInv { m with sl:=m.sl.set k (z + 1) } ((T.set 0 (updF fA n (fA n))).set 1 (updF fB n (fA n))):=by
 have hne : fA n≠en0:=fun e=>by rw [e] at hkind; cases hkind
 rw [updF_self,set_self hA];exact h.shareS hk hB hn hBn hs1 (by rw [har]; exact (h.ent 0 s0 fA hs0 hA n hn).resolve_left hne) hkind hen
theorem fork_none (hA : T[0]? = some fA) (hB : T[1]? = some fB) (hAn : fA n = en0) (hBn : fB n = en0) : (T.set 0 (updF fA n en0)).set 1 (updF fB n en0) = T:=by
 have h1 : updF fA n en0 = fA:=by
  have:=updF_self fA n;rwa [hAn] at this
 have h2 : updF fB n en0 = fB:=by
  have:=updF_self fB n;rwa [hBn] at this
 rw [h1,h2,set_self hA,set_self hB]
end
section
variable {α : Type} {E : Elt α}
theorem run_store_part {w : World} {o : Oper} {a : Act} (p x : Operand) (t : TypeId) (ho : o.op = .store t p x) (base : Nat) (v : Value) (l : List α) (hown : OwnRow E base w v l)
  (g i j : Nat) (hg : v.ownBlock = some g) (e y : α) (hi : l[i]? = some e) (cs : List Value) (hk : (Tryz.prog.info? t).map (·.size) = some cs.length) (hy : E.enc y = splice (E.enc e) j cs) (hj : j + cs.length≤E.k) (h1 : ∀ u∈cs,u.oneCell' = true)
  (ad : Addr) (hp : a.eval p = .pointer (some ad)) (had : ad = ⟨g,i * E.k + j,none⟩) (vx : Value) (hx : a.eval x = vx) (hvx : vx.cells = cs.toArray) :
  ∃ w',(execOp a.eval o).run Tryz.prog w = .ok .skip w'∧OwnRow E base w' v (l.set i y)∧w.grownBy w' (some g)∧w'.heap.size = w.heap.size:=by
 subst had;have hil : i < l.length:=(List.getElem?_eq_some_iff.1 hi).1;have hfit : i * E.k + j + cs.length≤l.length * E.k:=by
  have : (i + 1) * E.k≤l.length * E.k:=Nat.mul_le_mul_right _ hil;rw [Nat.add_mul] at this;omega
 obtain ⟨w',hr,h2,h3,h4⟩:=run_storeCells_row (P:=Tryz.prog) hown.1 hg (i * E.k + j) cs hfit h1;have hsz : (Go.sizeOf t).run Tryz.prog w = .ok cs.length w:=by
  cases hq : Tryz.prog.info? t with
  | none=>simp [hq] at hk
  | some i=>simp [hq] at hk; simp [Go.sizeOf,typeInfo,hq,hk]
 have hall : (Instr.storeAt t (.pointer (some ⟨g,i * E.k + j,none⟩)) vx).run Tryz.prog w = .ok () w':=by
  simp [Instr.storeAt,Instr.sureAddr,storeVar,Sem.run_bind,hsz,Result.andThen,hvx,hr]
 rw [splice_part j cs hy hj l i hi] at h2;refine ⟨w',?_,⟨by rw [List.length_set]; exact h2,by rw [List.length_set]; exact hown.2⟩,h3,h4⟩
 simp only [execOp,ho,hp,hx,Sem.run_bind,hall,Result.andThen,Sem.run_pure]
theorem does_skip {P : Program} {o : Oper} {a : Act} {w w' : World} {K : Value→World→Prop} (hr : (execOp a.eval o).run P w = .ok .skip w') (h : K undef w') : Does P o a w K:=by
 unfold Does;rw [hr];exact h
end
theorem loc_entry {hi p : Nat} : Loc hi p 67:=⟨by decide,by decide,by decide,by decide,by decide,by decide,by decide,by decide,fun h=>absurd h (by decide)⟩
theorem loc_ones {hi p : Nat} : Loc hi p 83:=⟨by decide,by decide,by decide,by decide,by decide,by decide,by decide,by decide,fun h=>absurd h (by decide)⟩
theorem cellsO_set {l : List On} {j : Nat} (y : On) (h : j < l.length) : splice (cellsO l) (j * 6) (onv y) = cellsO (l.set j y):=splice_set (enc:=onv) (k:=6) y rfl l j (fun _ _=>rfl) h
theorem cellsO_at {l : List On} {j : Nat} {e : On} (h : l[j]? = some e) (i : Nat) (u : Value) (hu : (onv e)[i]? = some u) : (cellsO l)[j * 6 + i]? = some u:=flatMap_elem (enc:=onv) (k:=6) l j e (fun _ _=>rfl) h i u hu
theorem tabO_len (f : Nat→On) : (cellsO (tab f)).length = 384:=by rw [cellsO_len,tab_len]
theorem wp_storeOn {ops : Array Oper} {rest : List Oper} {op : Oper} {a : Act} {w : World} {Q : Exit→Act→World→Prop} (hgd : op.guard = none) (p x : Operand) (ho : op.op = .store 82 p x) (b k : Nat) (hk : k < 64) (hp : a.eval p = .pointer (some ⟨b,k * 6,none⟩)) (y : On) (hx : a.eval x = .agg (onv y).toArray)
  {f : Nat→On} (hb : Box w b (cellsO (tab f)))
  (h : ∀ w',Box w' b (cellsO (tab (upd f k y)))→w.grownBy w' (some b)→w'.heap.size = w.heap.size→wpList Tryz.prog ops Q rest (a.put op.dst undef) w') : wpList Tryz.prog ops Q (op :: rest) a w:=by
 refine wp_storeMid hgd 82 p x ho b (k * 6) hp (onv y) hx hb (by rw [tabO_len]; show _ + 6≤_; omega) Tryz.sizeOne (onv_one y) fun w' h1 h2 h3=>h w' ?_ h2 h3
 rw [cellsO_set y (by rw [tab_len]; exact hk),tab_set] at h1
 exact h1
theorem Box.onCell {w : World} {b k : Nat} {f : Nat→On} (h : Box w b (cellsO (tab f))) (hk : k < 64) (i : Nat) (u : Value) (y : On) (hy : (onv (f k)).set i u = onv y) (hi : i < 6) : Box (w.setCell ⟨b,k * 6 + i,none⟩ u) b (cellsO (tab (upd f k y))):=by
 have h1:=h.set (k * 6 + i) u;have : (cellsO (tab f)).set (k * 6 + i) u = cellsO (tab (upd f k y)):=by
  rw [←tab_set,←cellsO_set y (by rw [tab_len]; exact hk),←hy]
  have hl : (cellsO (tab f)).length = 384:=tabO_len f
  apply List.ext_getElem?
  intro j;unfold splice;have e6 : ((onv (f k)).set i u).length = 6:=by simp [onv]
  rw [e6]
  by_cases h1 : j < k * 6
  ·rw [List.getElem?_set_ne (by omega),List.getElem?_append_left (by simp; omega),List.getElem?_take_of_lt h1]
  ·have hl2 : ((cellsO (tab f)).take (k * 6)).length = k * 6:=by simp; omega
   rw [List.getElem?_append_right (by omega),hl2]
   by_cases h2 : j < k * 6 + 6
   ·rw [List.getElem?_append_left (by rw [e6]; omega)]
    have hc : ∀ i',i' < 6→(cellsO (tab f))[k * 6 + i']? = (onv (f k))[i']?:=fun i' hi'=>by
     obtain ⟨v,hv⟩ : ∃ v,(onv (f k))[i']? = some v:=⟨_,List.getElem?_eq_getElem (by simpa [onv] using hi')⟩
     rw [hv];exact cellsO_at (tab_at hk) i' v hv
    by_cases e : j = k * 6 + i
    ·subst e;rw [List.getElem?_set_self (by omega),show k * 6 + i - k * 6 = i by omega,List.getElem?_set_self (by simpa [onv] using hi)]
    ·rw [List.getElem?_set_ne (fun h=>e h.symm),List.getElem?_set_ne (by omega),←hc _ (by omega),show k * 6 + (j - k * 6) = j by omega]
   ·rw [List.getElem?_set_ne (by omega),List.getElem?_append_right (by rw [e6]; omega),e6,List.getElem?_drop]
    congr 1
    omega
 rw [this] at h1;exact h1
theorem extract_elem {cs vs : List Value} {o k : Nat} (hl : vs.length = k) (h : ∀ (i : Nat) u,vs[i]? = some u→cs[o + i]? = some u) : cs.toArray.extract o (o + k) = vs.toArray:=by
 apply Array.ext_getElem?
 intro j;rw [Array.getElem?_extract]
 by_cases hj : j < k
 ·obtain ⟨u,hu⟩ : ∃ u,vs[j]? = some u:=⟨_,List.getElem?_eq_getElem (by omega)⟩
  have h1:=h j u hu;have h2:=(List.getElem?_eq_some_iff.1 h1).1;rw [if_pos (by simp; omega)]
  simp [h1,hu]
 ·rw [if_neg (by omega)]
  simp;omega
theorem run_idxO {w : World} {f : Nat→On} (i : Nat) (hi : i < 64) : (Instr.index 83 (.agg (cellsO (tab f)).toArray) (.int .i64 (i : Int))).run Tryz.prog w = .ok (.agg (onv (f i)).toArray) w:=by
 have ha : (isAgg 82).run Tryz.prog w = .ok true w:=by
  unfold isAgg;rw [Sem.run_bind,run_underlying Tryz.underlying82 w];rfl
 have hs : (Go.sizeOf 82).run Tryz.prog w = .ok 6 w:=by
  obtain ⟨i0,h1,h2⟩ : ∃ i0,Tryz.prog.info? 82 = some i0∧i0.size = 6:=by
   have:=Tryz.sizeOne
   cases hq : Tryz.prog.info? 82 with
   | none=>rw [hq] at this; cases this
   | some i0=>rw [hq] at this; exact ⟨i0,rfl,by simpa using this⟩
  simp [Go.sizeOf,typeInfo,h1,h2]
 have hlt : (0 : Int)≤(i : Int)∧(i : Int) < ((64 : Nat) : Int):=by omega
 have hx : (cellsO (tab f)).toArray.extract (i * 6) (i * 6 + 6) = (onv (f i)).toArray:=extract_elem rfl fun j u hu=>cellsO_at (tab_at hi) j u hu
 simp only [Instr.index,asIntOf,Sem.run_bind,Sem.run_pure,Result.andThen_ok,run_underlying Tryz.underlying83];rw [if_pos hlt];simp only [Sem.run_bind,hs,Result.andThen_ok,part,ha,if_true,Int.toNat_natCast,Sem.run_pure,hx]
theorem wp_idxO {ops : Array Oper} {rest : List Oper} {o : Oper} {a : Act} {w : World} {Q : Exit→Act→World→Prop} (hgd : o.guard = none) (x ix : Operand) (ho : o.op = .index 83 x ix) (f : Nat→On) (hx : a.eval x = .agg (cellsO (tab f)).toArray) (i : Nat) (hix : a.eval ix = .int .i64 (i : Int)) (hi : i < 64)
  (h : wpList Tryz.prog ops Q rest (a.put o.dst (.agg (onv (f i)).toArray)) w) : wpList Tryz.prog ops Q (o :: rest) a w:=by
 refine wpList_plain hgd fun K hK=>?_
 unfold Oper.wp execOp;simp only [ho,hx,hix,Sem.run_bind,Sem.run_pure,Result.andThen_ok,run_idxO i hi];exact hK _ _ h
theorem wp_idxOv {ops : Array Oper} {rest : List Oper} {o : Oper} {a : Act} {w : World} {Q : Exit→Act→World→Prop} (hgd : o.guard = none) (x ix : Operand) (ho : o.op = .index 83 x ix) (f : Nat→On) (hx : a.eval x = .agg (cellsO (tab f)).toArray) (i : Nat) (hix : a.eval ix = .int .i64 (i : Int)) (hi : i < 64) {v : Value} (hv : .agg (onv (f i)).toArray = v)
  (h : wpList Tryz.prog ops Q rest (a.put o.dst v) w) : wpList Tryz.prog ops Q (o :: rest) a w:=wp_idxO hgd x ix ho f hx i hix hi (by rw [hv]; exact h)
theorem wp_loadOn {ops : Array Oper} {rest : List Oper} {o : Oper} {a : Act} {w : World} {Q : Exit→Act→World→Prop} (hgd : o.guard = none) (x : Operand) (ho : o.op = .load 82 x) (b k : Nat) (hk : k < 64) (hx : a.eval x = .pointer (some ⟨b,k * 6,none⟩)) {f : Nat→On} (hb : Box w b (cellsO (tab f)))
  (h : wpList Tryz.prog ops Q rest (a.put o.dst (.agg (onv (f k)).toArray)) w) : wpList Tryz.prog ops Q (o :: rest) a w :=
 wpList_load_mid hgd 82 x ho b (k * 6) hx (onv (f k)) _ (hb.mid _ fun j u hu=>cellsO_at (tab_at hk) j u hu) Tryz.underlying82 rfl Tryz.sizeOne h
theorem wp_loadOnv {ops : Array Oper} {rest : List Oper} {o : Oper} {a : Act} {w : World} {Q : Exit→Act→World→Prop} (hgd : o.guard = none) (x : Operand) (ho : o.op = .load 82 x) (b k : Nat) (hk : k < 64) (hx : a.eval x = .pointer (some ⟨b,k * 6,none⟩)) {f : Nat→On} (hb : Box w b (cellsO (tab f))) {v : Value} (hv : .agg (onv (f k)).toArray = v)
  (h : wpList Tryz.prog ops Q rest (a.put o.dst v) w) : wpList Tryz.prog ops Q (o :: rest) a w:=wp_loadOn hgd x ho b k hk hx hb (by rw [hv]; exact h)
theorem zeroO : (Tryz.prog.info? 83).map (·.zero) = some (some (.agg (cellsO (tab fun _=>on0)).toArray)):=by kernel_rfl
theorem run_zeroO (w : World) : (zeroValue 83).run Tryz.prog w = .ok (.agg (cellsO (tab fun _=>on0)).toArray) w:=by
 have h:=zeroO
 cases hq : Tryz.prog.info? 83 with
 | none=>simp [hq] at h
 | some i =>
  simp [hq] at h
  simp [zeroValue,typeInfo,hq,h]
def partF (f : Nat→On) : Nat→Ar:=fun n=>arOf n (f n)
def midF (l : List Ar) (i : Nat) (a : Ar) (n : Nat) : Nat→On:=fun j=>if a.fr≤(j : Int)∧(j : Int) < (n : Int) then oneOf a j else onAt (l.take i) j
theorem CanP.take : ∀ {l : List Ar} {p : Option Ar},CanP p l→∀ i,CanP p (l.take i)
 | [],_,_,i=>by simp [CanP]
 | a :: l,p,h,0=>by simp [CanP]
 | a :: l,p,h,i + 1=>⟨h.1,h.2.1,h.2.2.take i⟩
theorem CanP.free {l : List Ar} (h : CanP none l) {i : Nat} {a : Ar} (ha : l[i]? = some a) {j : Nat} (hj : a.fr≤(j : Int)) : onAt (l.take i) j = on0:=by
 refine onAt_none fun x hx=>arIn_no ?_
 have h1:=h.take (i + 1);rw [take_snoc ha] at h1;obtain ⟨c1,c2,c3⟩:=canP_snoc.1 h1
 cases hl : lastP none (l.take i) with
 | none =>
  unfold lastP at hl
  cases hq : l.take i with
  | nil=>rw [hq] at hx; cases hx
  | cons y ys=>rw [hq] at hl; simp [List.getLast?_cons] at hl
 | some y =>
  have q:=(c3 y hl).1;have hy : ArOk y:=c1.all y (by
   unfold lastP at hl
   split at hl
   ·rename_i b hb
    cases hl;exact List.mem_of_getLast? hb
   ·cases hl)
  unfold ArOk at hy
  rcases last_to _ none c1 x hx y hl with e | e
  ·rw [e]; omega
  ·omega
theorem mid_start {l : List Ar} {i : Nat} {a : Ar} {n : Nat} (hn : (n : Int) = a.fr) : midF l i a n = onAt (l.take i):=by
 funext j
 unfold midF;rw [if_neg (by omega)]
def Lies (l : List Ar) : Prop:=(∀ a∈l,ArOk a)∧∀ (i : Nat) a,l[i]? = some a→∀ j : Nat,a.fr≤(j : Int)→onAt (l.take i) j = on0
theorem CanP.lies {l : List Ar} (h : CanP none l) : Lies l:=⟨h.all,fun _ _ ha _ hj=>h.free ha hj⟩
theorem lies_two {b a : Ar} (hb : ArOk b) (ha : ArOk a) (hf : b.tz≤a.fr) : Lies [b,a]:=by
 refine ⟨fun x hx=>?_,fun i x hx j hj=>?_⟩
 ·simp at hx
  rcases hx with rfl | rfl
  ·exact hb
  ·exact ha
 ·match i with
  | 0=>rfl
  | 1 =>
   simp at hx
   subst hx
   show onAt [b] j = on0
   rw [onAt_out (.inr (by omega))]
   rfl
  | k + 2=>simp at hx
theorem lies_one {a : Ar} (ha : ArOk a) : Lies [a]:=by
 refine ⟨fun x hx=>?_,fun i x hx j hj=>?_⟩
 ·simp at hx
  subst hx;exact ha
 ·match i with
  | 0=>rfl
  | k + 1=>simp at hx
theorem midO_step {l : List Ar} {i : Nat} {a : Ar} {n : Nat} (hn : a.fr≤(n : Int)) : upd (midF l i a n) n (oneOf a n) = midF l i a (n + 1):=by
 funext j
 unfold upd midF
 by_cases e : j = n
 ·subst e;rw [if_pos rfl,if_pos (by omega)]
 ·rw [if_neg e]
  by_cases h : a.fr≤(j : Int)∧(j : Int) < (n : Int)
  ·rw [if_pos h,if_pos (by omega)]
  ·rw [if_neg h,if_neg (by omega)]
theorem midO_end {l : List Ar} {i : Nat} {a : Ar} {n : Nat} (h : Lies l) (ha : l[i]? = some a) (hn : (n : Int) = a.tz) : midF l i a n = onAt (l.take (i + 1)):=by
 funext j
 unfold midF;rw [take_snoc ha,onAt_snoc]
 ·by_cases h1 : a.fr≤(j : Int)∧(j : Int) < (n : Int)
  ·rw [if_pos h1,if_pos (arIn_iff.2 (by omega))]
  ·rw [if_neg h1,if_neg (fun h2=>h1 (by have:=arIn_iff.1 h2; omega))]
 ·by_cases h1 : a.fr≤(j : Int)
  ·exact .inl (h.2 i a ha j h1)
  ·exact .inr (arIn_no (by omega))
theorem upd_upd {α : Type} (f : Nat→α) (k : Nat) (x y : α) : upd (upd f k x) k y = upd f k y:=by
 funext j
 unfold upd
 by_cases e : j = k
 ·rw [if_pos e,if_pos e]
 ·rw [if_neg e,if_neg e,if_neg e]
theorem refOnes_any (v : Value) (l : List Ar) (w : World) (hv : RowAt arE w v l) (hok : Lies l) :
  Calls Tryz.prog 26 #[v] w fun e w'=>e = .returned (.agg (cellsO (tab (onAt l))).toArray)∧Grew w w':=by
 have hbig:=hv.short;obtain ⟨a,c,rfl,hrow⟩:=hv.ars;have HR : Hid (ArRows w a l):=hrow;have HOK : Hid (Lies l):=hok;clear hrow hv hok;have hz:=run_zeroO;obtain ⟨Z0,HZ0⟩ : ∃ Z0,Hid (cellsO (tab fun _=>on0) = Z0):=⟨_,rfl⟩
 rw [HZ0.out] at hz;have HZL : Hid (Z0.length = 384):=show _ = _ by rw [←HZ0.out,tabO_len]
 obtain ⟨C,HC⟩ : ∃ C,Hid (cellsO (tab (onAt l)) = C):=⟨_,rfl⟩;rw [HC.out];obtain ⟨n,HN⟩ : ∃ n,Hid (l.length = n):=⟨_,rfl⟩;rw [HN.out] at hbig ⊢;obtain ⟨W0,hW0⟩ : ∃ W0,(w.alloc (.cells Z0.toArray 83)).alloc (.cells Z0.toArray 83) = W0:=⟨_,rfl⟩;have HG0 : Hid (Grew w W0):=show Grew w W0 by rw [←hW0]; exact (grew_alloc _ _).trans (grew_alloc _ _)
 have Y0 : Hid (Box W0 w.heap.size Z0):=show Box _ _ _ by rw [←hW0]; exact (Box.top _ _ _ (by simp)).alloc _
 have L0 : Hid (Box W0 (w.heap.size + 1) (cellsO (tab (onAt (l.take 0))))):=show Box _ _ _ by rw [←hW0,List.take_zero,show onAt ([] : List Ar) = fun _=>on0 from rfl,HZ0.out]; exact Box.top _ _ _ (by simp)
 have HW0 : Hid (_ = W0):=hW0;clear hW0
 go_enter Tryz.func26,Tryz.ntmps26
 go_upto_region 2 with fail;rw [HW0.out];clear hz;go_wp2
 go_loopg [9] n (fun gg s9 wr=>∃ kk : Nat,kk≤n∧n - kk≤gg∧s9 = .int .i64 kk∧Hid (Grew w wr)∧Hid (Box wr w.heap.size Z0)∧Hid (Box wr (w.heap.size + 1) (cellsO (tab (onAt (l.take kk))))))
 case atStart=>exact ⟨0,Nat.zero_le _,by omega,rfl,HG0.out,Y0.out,L0.out⟩
 case round =>
  obtain ⟨kk,hkk,hg,rfl,BW,YW,LW⟩:=hrel
  by_cases hlt : kk < n
  ·have hltz : (kk : Int) < (n : Int):=by omega
   obtain ⟨q,HQ⟩ : ∃ q,Hid (l[kk]? = some q):=⟨_,List.getElem?_eq_getElem (by rw [HN.out]; exact hlt)⟩
   obtain ⟨ad,rfl,hl⟩:=HR.out kk q HQ.out;obtain ⟨d0,d1,d2,d3,d4,d5,d6⟩:=hl wr BW.out;have HQK : Hid (ArOk q):=HOK.out.1 q (List.mem_of_getElem? HQ.out);have hqb : 0≤q.fr∧q.fr < q.tz∧q.tz≤64∧0≤q.base∧q.base≤12:=by
    have:=HQK.out;unfold ArOk at this
    rcases Int.lt_or_le q.file 0 with h | h
    ·omega
    ·omega
   obtain ⟨hq1,hq2,hq3,hq4,hq5⟩:=hqb;obtain ⟨p,HP⟩ : ∃ p,Hid (wr.heap.size = p):=⟨_,rfl⟩;have HLP : Hid (w.heap.size + 1 < p):=show _ < _ by rw [←HP.out]; exact LW.out.lt
   clear hl;go_upto_region 5 with fail;obtain ⟨W1,hW1⟩ : ∃ W1,wr.alloc (.cells #[.int .i64 q.fr,.int .i64 q.tz,.bool q.rd,.bool q.wr,.bool q.sh,.int .i64 q.file,.int .i64 q.base] 69) = W1:=⟨_,rfl⟩;have G1 : Hid (Grew w W1):=show Grew _ _ by rw [←hW1]; exact BW.out.trans (grew_alloc _ _)
   have Y1 : Hid (Box W1 w.heap.size Z0):=show Box _ _ _ by rw [←hW1]; exact YW.out.alloc _
   obtain ⟨f0,hf0⟩ : ∃ f0 : Nat,(f0 : Int) = q.fr:=⟨q.fr.toNat,by omega⟩
   have L1 : Hid (Box W1 (w.heap.size + 1) (cellsO (tab (midF l kk q f0)))):=show Box _ _ _ by rw [←hW1,mid_start hf0]; exact LW.out.alloc _
   have P1 : Hid (Box W1 p [.int .i64 q.fr,.int .i64 q.tz,.bool q.rd,.bool q.wr,.bool q.sh,.int .i64 q.file,.int .i64 q.base]):=show Box _ _ _ by rw [←hW1]; exact Box.top _ _ _ HP.out.symm
   rw [hW1,HP.out];clear hW1 d0 d1 d2 d3 d4 d5 d6;have p0:=P1.out.c 0 rfl;go_wp2
   go_loopg [6] (q.tz.toNat - f0) (fun g2 s6 wr2=>∃ k2 : Nat,f0≤k2∧(k2 : Int)≤q.tz∧q.tz.toNat - k2≤g2∧s6 = .int .i64 k2∧Hid (Grew w wr2)∧Hid (Box wr2 w.heap.size Z0)∧Hid (Box wr2 (w.heap.size + 1) (cellsO (tab (midF l kk q k2))))∧Hid (Box wr2 p [.int .i64 q.fr,.int .i64 q.tz,.bool q.rd,.bool q.wr,.bool q.sh,.int .i64 q.file,.int .i64 q.base]))
   case atStart=>exact ⟨f0,Nat.le_refl _,by omega,by omega,by rw [hf0],G1.out,Y1.out,L1.out,P1.out⟩
   case round =>
    obtain ⟨k2,hk2,hk2',hg2,rfl,BW2,YW2,LW2,PW2⟩:=hrel;clear p0;have p1:=PW2.out.c 1 rfl
    by_cases hlt2 : (k2 : Int) < q.tz
    ·have hi64 : k2 < 64:=by omega
     have hi64z : (k2 : Int) < 64:=by omega
     have HST : Hid (upd (midF l kk q k2) k2 (oneOf q k2) = midF l kk q (k2 + 1)):=midO_step (l:=l) (i:=kk) (a:=q) (n:=k2) (by omega)
     have p2:=PW2.out.c 2 rfl;have p3:=PW2.out.c 3 rfl;have p4:=PW2.out.c 4 rfl;have p5:=PW2.out.c 5 rfl
     go_wp2_with (refine wp_storeOn rfl (.tmp 31) (.tmp 30) rfl (w.heap.size + 1) k2 hi64 rfl ⟨true,q.rd,q.wr,q.sh,q.file,0⟩ rfl LW2.out ?_)
     intro W3 b3 g3 s3;have L3 : Hid (Box W3 (w.heap.size + 1) (cellsO (tab (upd (midF l kk q k2) k2 ⟨true,q.rd,q.wr,q.sh,q.file,0⟩)))):=b3;have G3 : Hid (Grew w W3):=grew_grown BW2.out g3 (by simp)
     have Y3 : Hid (Box W3 w.heap.size Z0):=YW2.out.beside g3 (by intro g hg; cases hg; simp)
     have P3 : Hid (Box W3 p [.int .i64 q.fr,.int .i64 q.tz,.bool q.rd,.bool q.wr,.bool q.sh,.int .i64 q.file,.int .i64 q.base]):=PW2.out.beside g3 (by intro g hg; cases hg; have:=HLP.out; omega)
     clear b3 g3 s3 p1 p2 p3 p4 p5;have p5:=P3.out.c 5 rfl
     by_cases hfile : 0≤q.file
     ·have HONE : Hid (oneOf q k2 = ⟨true,q.rd,q.wr,q.sh,q.file,q.base + (k2 : Int) - q.fr⟩):=show _ = _ by
       unfold oneOf;rw [if_pos hfile]
       congr 1
       omega
      have p0:=P3.out.c 0 rfl;have p6:=P3.out.c 6 rfl;have l5:=L3.out.c (k2 * 6 + 5) (cellsO_at (tab_at hi64) 5 (.int .i64 0) (by unfold upd; rw [if_pos rfl]; rfl))
      have lf:=L3.out.f;go_upto_region 7 with fail;obtain ⟨W4,hW4⟩ : ∃ W4,W3.setCell ⟨w.heap.size + 1,k2 * 6 + 5,none⟩ (.int .i64 (q.base + (k2 : Int) - q.fr)) = W4:=⟨_,rfl⟩;have L4 : Hid (Box W4 (w.heap.size + 1) (cellsO (tab (midF l kk q (k2 + 1))))):=show Box _ _ _ by
       rw [←hW4];have:=L3.out.onCell hi64 5 (.int .i64 (q.base + (k2 : Int) - q.fr)) (oneOf q k2) (by rw [HONE.out]; unfold upd; rw [if_pos rfl]; rfl) (by omega)
       rw [upd_upd,HST.out] at this;exact this
      have G4 : Hid (Grew w W4):=show Grew _ _ by rw [←hW4]; exact grew_set G3.out (by simp) _
      have Y4 : Hid (Box W4 w.heap.size Z0):=show Box _ _ _ by rw [←hW4]; exact Y3.out.other (by simp) _
      have P4 : Hid (Box W4 p [.int .i64 q.fr,.int .i64 q.tz,.bool q.rd,.bool q.wr,.bool q.sh,.int .i64 q.file,.int .i64 q.base]):=show Box _ _ _ by rw [←hW4]; exact P3.out.other (by have:=HLP.out; simp; omega) _
      rw [hW4];clear hW4 l5 lf p0 p5 p6;go_wp2
      go_roundg (q.tz.toNat - (k2 + 1))
      case measure=>omega
      case rel=>exact ⟨k2 + 1,by omega,by omega,by omega,by go_num,G4.out,Y4.out,L4.out,P4.out⟩
     ·have HONE : Hid (oneOf q k2 = ⟨true,q.rd,q.wr,q.sh,q.file,0⟩):=show _ = _ by
       unfold oneOf;rw [if_neg hfile]
      have L4 : Hid (Box W3 (w.heap.size + 1) (cellsO (tab (midF l kk q (k2 + 1))))):=show Box _ _ _ by rw [←HST.out,HONE.out]; exact L3.out
      go_wp2
      go_roundg (q.tz.toNat - (k2 + 1))
      case measure=>omega
      case rel=>exact ⟨k2 + 1,by omega,by omega,by omega,by go_num,G3.out,Y3.out,L4.out,P3.out⟩
    ·have hke : (k2 : Int) = q.tz:=by omega
     have LE : Hid (Box wr (w.heap.size + 1) (cellsO (tab (onAt (l.take (kk + 1)))))):=show Box _ _ _ by rw [←midO_end HOK.out HQ.out hke]; exact LW2.out
     go_wp2
     go_roundg (n - (kk + 1))
     case measure=>omega
     case rel=>exact ⟨kk + 1,by omega,by omega,by go_num,BW2.out,YW2.out,LE.out⟩
  ·have hltz : ¬ (kk : Int) < (n : Int):=by omega
   have : kk = n:=by omega
   subst this;have LE : Hid (Box wr (w.heap.size + 1) C):=show Box _ _ _ by rw [←HC.out]; have:=LW.out; rw [←HN.out,List.take_length] at this; exact this
   have HFL : Hid (C.length = 384):=show _ = _ by rw [←HC.out,tabO_len]
   have HFO : Hid (∀ v∈C,v.oneCell' = true):=show ∀ v∈C,_ by rw [←HC.out]; exact cellsO_one _
   go_wp2_with (first | refine wp_loadAll rfl 83 (.tmp 3) rfl (w.heap.size + 1) rfl LE.out Tryz.underlying83 rfl (by rw [HFL.out]; exact Tryz.sizeOnes) ?_ | refine wp_storeAll rfl 83 (.tmp 2) (.tmp 46) rfl w.heap.size rfl C rfl YW.out (by rw [HFL.out,HZL.out]) (by rw [HZL.out]; exact Tryz.sizeOnes) HFO.out ?_)
   intro W3 b3 g3 s3;have G3 : Hid (Grew w W3):=show Grew _ _ from grew_grown BW.out g3 (by simp)
   have B3 : Hid (Box W3 w.heap.size C):=b3;clear b3 g3 s3;go_wp2;refine bodyPost_ret (ret_cell rfl _ rfl B3.out Tryz.underlying83 rfl (by rw [HFL.out]; exact Tryz.sizeOnes)) rfl ⟨rfl,G3.out⟩
theorem partF_is {f : Nat→On} {k : Nat} (h : (f k).is = true) : partF f k = ⟨k,(k : Int) + 1,(f k).rd,(f k).wr,(f k).sh,(f k).file,(f k).page⟩:=by
 unfold partF arOf;rw [if_pos h]
theorem goJ_eq (x y : On) : onEqB ⟨y.is,y.rd,y.wr,y.sh,y.file,if 0≤x.file then y.page + 1 else y.page⟩ x = goJ x y:=by
 unfold onEqB goJ;have hd : ∀ x y : Int,(x == y) = decide (x = y):=fun x y=>rfl
 simp only [hd]
theorem refAreas_any (f : Nat→On) (w : World) (hg : Good f) :
  Calls Tryz.prog 137 #[.agg (cellsO (tab f)).toArray] w fun e w'=>(∃ v,e = .returned v∧OwnRow arE (w.heap.size + 1) w' v (joinL f))∧Grew w w':=by
 have HGD : Hid (Good f):=hg;clear hg;have HCL : Hid ((cellsO (tab f)).length = 384):=tabO_len _;obtain ⟨W0,hW0⟩ : ∃ W0,w.alloc (.cells (cellsO (tab f)).toArray 83) = W0:=⟨_,rfl⟩;have HG0 : Hid (Grew w W0):=show Grew w W0 by rw [←hW0]; exact grew_alloc _ _
 have X0 : Hid (Box W0 w.heap.size (cellsO (tab f))):=show Box _ _ _ by rw [←hW0]; exact Box.top w _ _ rfl
 have HS0 : Hid (W0.heap.size = w.heap.size + 1):=show _ = _ by rw [←hW0]; simp
 have HW0 : Hid (_ = W0):=hW0;clear hW0
 go_enter Tryz.func137,Tryz.ntmps137
 go_upto_region 1 with fail;rw [HW0.out]
 go_wp2_with (refine wp_loadAll rfl 83 (.tmp 1) rfl w.heap.size rfl X0.out Tryz.underlying83 rfl (by rw [HCL.out]; exact Tryz.sizeOnes) ?_)
 go_loopg [3,9] 64 (fun gg s3 s9 wr=>∃ (kk : Nat) (acc : List Ar) (xa : Option Addr) (xc : Nat),kk≤64∧64 - kk≤gg∧s9 = .int .i64 kk∧s3 = .slice xa acc.length xc∧Hid (Grew W0 wr)∧Hid (OwnRow arE (w.heap.size + 1) wr (.slice xa acc.length xc) acc)∧Hid (J f kk acc))
 case atStart=>exact ⟨0,[],none,0,Nat.zero_le _,by omega,rfl,rfl,Grew.refl _,OwnRow.nil _ _ _,J.zero f⟩
 case round =>
  obtain ⟨kk,acc,xa,xc,hkk,hgg,rfl,rfl,BW,OW,JW⟩:=hrel
  by_cases hlt : kk < 64
  ·have hltz : (kk : Int) < 64:=by omega
   have HLEN : Hid (acc.length≤kk):=JW.out.len;have XW : Hid (Box wr w.heap.size (cellsO (tab f))):=X0.out.grew BW.out;obtain ⟨p,HP⟩ : ∃ p,Hid (wr.heap.size = p):=⟨_,rfl⟩;have HPW : Hid (wr.heap.size≤p):=show _≤_ by rw [HP.out]; exact Nat.le_refl _
   cases hs : (f kk).is with
   | false =>
    have HIV : Hid (Value.agg (onv (f kk)).toArray = .agg #[.bool false,.bool (f kk).rd,.bool (f kk).wr,.bool (f kk).sh,.int .i64 (f kk).file,.int .i64 (f kk).page]):=show _ = _ by rw [←hs]; rfl
    have J2 : Hid (J f (kk + 1) acc):=JW.out.skip ((HGD.out kk hlt).1 hs);clear hs
    go_wp2_with (refine wp_idxOv rfl (.tmp 8) (.tmp 9) rfl f rfl kk rfl hlt HIV.out ?_)
    go_roundg (64 - (kk + 1))
    case measure=>omega
    case rel=>exact ⟨kk + 1,acc,xa,xc,by omega,by omega,by go_num,rfl,BW.out.trans (grew_alloc _ _),OW.out.grew (grew_alloc _ _),J2.out⟩
   | true =>
    have HS : Hid ((f kk).is = true):=hs;have HPF : Hid (arOf kk (f kk) = ⟨kk,(kk : Int) + 1,(f kk).rd,(f kk).wr,(f kk).sh,(f kk).file,(f kk).page⟩):=partF_is hs;have HNEW : Hid ((∀ b,acc.getLast? = some b→goB (arOf kk (f kk)) b = false)→J f (kk + 1) (acc ++ [arOf kk (f kk)])):=fun h=>JW.out.new HGD.out hlt HS.out h
    have HEXT : Hid (∀ i b,acc = i ++ [b]→goB (arOf kk (f kk)) b = true→J f (kk + 1) (i ++ [{ b with tz:=(kk : Int) + 1 }])):=fun i b h1 h2=>by
     have:=JW.out;rw [h1] at this;exact this.ext HGD.out hlt HS.out h2
    have HIV : Hid (Value.agg (onv (f kk)).toArray = .agg #[.bool true,.bool (f kk).rd,.bool (f kk).wr,.bool (f kk).sh,.int .i64 (f kk).file,.int .i64 (f kk).page]):=show _ = _ by rw [←hs]; rfl
    clear hs;obtain ⟨x,HX⟩ : ∃ x,Hid (f kk = x):=⟨_,rfl⟩;rw [HX.out] at HIV;have HIV2 : Hid (Value.agg (onv (f kk)).toArray = .agg #[.bool true,.bool x.rd,.bool x.wr,.bool x.sh,.int .i64 x.file,.int .i64 x.page]):=show _ = _ by rw [HX.out]; exact HIV.out
    go_upto_region 5 with (refine wp_idxOv rfl (.tmp 8) (.tmp 9) rfl f rfl kk rfl hlt HIV2.out ?_)
    obtain ⟨W1,hW1⟩ : ∃ W1,wr.alloc (.cells #[.bool true,.bool x.rd,.bool x.wr,.bool x.sh,.int .i64 x.file,.int .i64 x.page] 82) = W1:=⟨_,rfl⟩;have G1 : Hid (Grew W0 W1):=show Grew _ _ by rw [←hW1]; exact BW.out.trans (grew_alloc _ _)
    have O1 : Hid (OwnRow arE (w.heap.size + 1) W1 (.slice xa acc.length xc) acc):=show OwnRow _ _ _ _ _ by rw [←hW1]; exact OW.out.grew (grew_alloc _ _)
    have P1 : Hid (Box W1 p [.bool true,.bool x.rd,.bool x.wr,.bool x.sh,.int .i64 x.file,.int .i64 x.page]):=show Box _ _ _ by rw [←hW1]; exact Box.top _ _ _ HP.out.symm
    have X1 : Hid (Box W1 w.heap.size (cellsO (tab f))):=show Box _ _ _ by rw [←hW1]; exact XW.out.alloc _
    rw [hW1,HP.out];clear hW1 HP;have p0:=P1.out.c 0 rfl
    cases kk with
    | zero =>
     have HNIL : Hid (acc = []):=JW.out.first;have J2 : Hid (J f (0 + 1) (acc ++ [⟨((0 : Nat) : Int),((0 : Nat) : Int) + 1,x.rd,x.wr,x.sh,x.file,x.page⟩])):=show J _ _ _ by
      have:=HNEW.out (fun b hb=>by rw [HNIL.out] at hb; cases hb)
      rw [HPF.out,HX.out] at this;exact this
     go_upto_region 14 with fail;clear p0;have HSZ : Hid (w.heap.size + 1≤W1.heap.size):=show _≤_ by rw [←HS0.out]; exact Below.size G1.out
     have p1:=P1.out.c 1 rfl;have p2:=P1.out.c 2 rfl;have p3:=P1.out.c 3 rfl;have p4:=P1.out.c 4 rfl;have p5:=P1.out.c 5 rfl
     go_wp2_with (at_builtin; refine wpList_append_row (E:=arE) rfl (.tmp 41) (.tmp 56) rfl (w.heap.size + 1) _ acc rfl (O1.out.grew (grew_alloc _ _)) _ [⟨((0 : Nat) : Int),((0 : Nat) : Int) + 1,x.rd,x.wr,x.sh,x.file,x.page⟩] rfl (one_row arE W1 ⟨((0 : Nat) : Int),((0 : Nat) : Int) + 1,x.rd,x.wr,x.sh,x.file,x.page⟩ _ _ rfl (by show 40≤_; omega)) ?qb ?qc ?_)
     case qb =>
      show (acc.length + 1) * 40≤_
      have:=HLEN.out;omega
     case qc=>first | exact HSZ.out | exact Nat.le_trans HSZ.out (Nat.le_succ _) | (have:=HSZ.out; omega) | (simp; have:=HSZ.out; omega)
     intro vn Wn own grn;obtain ⟨xan,xcn,rfl⟩:=own.form;have On' : Hid (OwnRow arE (w.heap.size + 1) Wn (.slice xan (acc ++ [(⟨((0 : Nat) : Int),((0 : Nat) : Int) + 1,x.rd,x.wr,x.sh,x.file,x.page⟩ : Ar)]).length xcn) (acc ++ [⟨((0 : Nat) : Int),((0 : Nat) : Int) + 1,x.rd,x.wr,x.sh,x.file,x.page⟩])):=own;have Gn : Hid (Grew W0 Wn):=show Grew _ _ from grew_beside (G1.out.trans (grew_alloc _ _)) grn (fun g hg=>by
      have h1:=(O1.out.lt g hg).1;rw [HS0.out];exact h1)
     have Xn : Hid (Box Wn w.heap.size (cellsO (tab f))):=X0.out.grew Gn.out;clear own grn p1 p2 p3 p4 p5;go_wp2
     go_roundg (64 - (0 + 1))
     case measure=>omega
     case rel=>exact ⟨0 + 1,acc ++ [(⟨((0 : Nat) : Int),((0 : Nat) : Int) + 1,x.rd,x.wr,x.sh,x.file,x.page⟩ : Ar)],xan,xcn,by omega,by omega,by go_num,rfl,Gn.out,On'.out,J2.out⟩
    | succ j =>
     have hj64 : j < 64:=by omega
     have hj64z : (j : Int) < 64:=by omega
     have hjz : (0 : Int) < ((j + 1 : Nat) : Int):=by omega
     have hj1 : ((j + 1 : Nat) : Int) - 1 = (j : Int):=by omega
     have HGO:=JW.out.go HS.out;obtain ⟨y,HY⟩ : ∃ y,Hid (f j = y):=⟨_,rfl⟩;have hyp : 0≤y.page∧y.page≤12:=by
      rw [←HY.out];have h1:=HGD.out j hj64
      cases hq : (f j).is with
      | false=>rw [h1.1 hq]; exact ⟨by decide,by decide⟩
      | true =>
       have h2:=h1.2 hq;unfold ArOk arOf at h2;rw [if_pos hq] at h2;simp only at h2
       rcases Int.lt_or_le (f j).file 0 with h | h
       ·omega
       ·omega
     obtain ⟨hy0,hy1⟩:=hyp;have HYV : Hid (Value.agg (onv (f j)).toArray = .agg #[.bool y.is,.bool y.rd,.bool y.wr,.bool y.sh,.int .i64 y.file,.int .i64 y.page]):=show _ = _ by rw [HY.out]; rfl
     have HGJ:=goJ_eq x y;rw [HX.out,HY.out] at HGO;have HGO' : Hid _:=HGO;clear HGO;obtain ⟨p7,HP7⟩ : ∃ p7,Hid (W1.heap.size = p7):=⟨_,rfl⟩;have HPP : Hid (p < p7):=show _ < _ by rw [←HP7.out]; exact P1.out.lt
     go_upto_region 9 with (refine wp_loadOnv rfl (.tmp 20) rfl w.heap.size j hj64 rfl X1.out HYV.out ?_)
     clear p0;obtain ⟨W2,hW2⟩ : ∃ W2,W1.alloc (.cells #[.bool y.is,.bool y.rd,.bool y.wr,.bool y.sh,.int .i64 y.file,.int .i64 y.page] 82) = W2:=⟨_,rfl⟩;have G2 : Hid (Grew W0 W2):=show Grew _ _ by rw [←hW2]; exact G1.out.trans (grew_alloc _ _)
     have O2 : Hid (OwnRow arE (w.heap.size + 1) W2 (.slice xa acc.length xc) acc):=show OwnRow _ _ _ _ _ by rw [←hW2]; exact O1.out.grew (grew_alloc _ _)
     have P2 : Hid (Box W2 p [.bool true,.bool x.rd,.bool x.wr,.bool x.sh,.int .i64 x.file,.int .i64 x.page]):=show Box _ _ _ by rw [←hW2]; exact P1.out.alloc _
     have Y2 : Hid (BoxT W2 p7 82 [.bool y.is,.bool y.rd,.bool y.wr,.bool y.sh,.int .i64 y.file,.int .i64 y.page]):=show BoxT _ _ _ _ by rw [←hW2]; exact BoxT.top _ _ _ HP7.out.symm
     rw [hW2,HP7.out];clear hW2 HP7;have p4:=P2.out.c 4 rfl
     by_cases hfile : 0≤x.file
     ·rw [if_pos hfile] at HGJ;have HQ:=fun W=>on_eq y.is true y.rd x.rd y.wr x.wr y.sh x.sh y.file x.file (y.page + 1) x.page W
      have HXT : Hid ((⟨true,x.rd,x.wr,x.sh,x.file,x.page⟩ : On) = x):=show _ = _ by
       have h:=HS.out;rw [HX.out] at h;rw [←h]
      rw [HXT.out,HGJ] at HQ;clear HGJ;obtain ⟨R,HR⟩ : ∃ R,Hid (goJ x y = R):=⟨_,rfl⟩;rw [HR.out] at HQ HGO';have y5:=Y2.out.box.c 5 rfl;have yf:=Y2.out.box.f;go_upto_region 11 with fail;obtain ⟨W3,hW3⟩ : ∃ W3,W2.setCell ⟨p7,5,none⟩ (.int .i64 (y.page + 1)) = W3:=⟨_,rfl⟩;have HW0P : Hid (W0.heap.size≤p7):=show _≤_ by have h1:=HPP.out; have h2:=Below.size BW.out; have h3:=HPW.out; omega
      have G3 : Hid (Grew W0 W3):=show Grew _ _ by rw [←hW3]; exact grew_set G2.out HW0P.out _
      have O3 : Hid (OwnRow arE (w.heap.size + 1) W3 (.slice xa acc.length xc) acc):=show OwnRow _ _ _ _ _ by rw [←hW3]; exact O2.out.setOther (fun g hg=>O2.out.ne Y2.out (by decide) g hg) _
      have P3 : Hid (Box W3 p [.bool true,.bool x.rd,.bool x.wr,.bool x.sh,.int .i64 x.file,.int .i64 x.page]):=show Box _ _ _ by rw [←hW3]; exact P2.out.other (by have:=HPP.out; simp; omega) _
      have Y3 : Hid (Box W3 p7 [.bool y.is,.bool y.rd,.bool y.wr,.bool y.sh,.int .i64 y.file,.int .i64 (y.page + 1)]):=show Box _ _ _ by rw [←hW3]; exact Y2.out.box.set 5 _
      rw [hW3];clear hW3 y5 yf p4
      cases R with
      | true =>
       obtain ⟨b,hlast,hgb⟩:=HGO'.out.1 rfl;have hacc:=snoc_of hlast;obtain ⟨ini,hini⟩ : ∃ ini,acc.dropLast = ini:=⟨_,rfl⟩;rw [hini] at hacc;have HACC : Hid (acc = ini ++ [b]):=hacc;have J2 : Hid (J f (j + 1 + 1) (ini ++ [{ b with tz:=((j + 1 : Nat) : Int) + 1 }])):=HEXT.out ini b hacc (by rw [HX.out]; exact hgb)
       obtain ⟨m,HM⟩ : ∃ m,Hid (ini.length = m):=⟨_,rfl⟩;have HAL : Hid (acc.length = m + 1):=show _ = _ by rw [HACC.out,←HM.out]; simp
       have HBI : Hid (acc[m]? = some b):=show _ = _ by rw [HACC.out,←HM.out]; simp
       obtain ⟨g,xc',hxe⟩:=O3.out.formS (by rw [HAL.out]; omega)
       cases hxe;have hmm : ((m + 1 : Nat) : Int) - 1 = (m : Int):=by omega
       have hm0 : (0 : Int)≤(m : Int):=by omega
       have hmlt : (m : Int) < ((m + 1 : Nat) : Int):=by omega
       have hmk : m + 1≤64:=by have:=HLEN.out; rw [HAL.out] at this; omega
       clear hlast hgb hacc hini;rw [HAL.out] at O3 ⊢;have HSET : Hid (acc.set m { b with tz:=((j + 1 : Nat) : Int) + 1 } = ini ++ [{ b with tz:=((j + 1 : Nat) : Int) + 1 }]):=show _ = _ by rw [HACC.out,List.set_append_right _ _ (by rw [HM.out]; exact Nat.le_refl _),HM.out,Nat.sub_self]; rfl
       go_wp2_with (first | refine wp_loadAll rfl 82 (.tmp 7) rfl p7 rfl Y3.out Tryz.underlying82 rfl Tryz.sizeOne ?_ | refine wp_loadAll rfl 82 (.tmp 5) rfl p rfl P3.out Tryz.underlying82 rfl Tryz.sizeOne ?_ | refine wpList_store_part (E:=arE) rfl (.tmp 40) (.tmp 38) 3 rfl (w.heap.size + 1) (.slice (some ⟨g,0,none⟩) (m + 1) xc) acc O3.out g m 1 rfl b { b with tz:=((j + 1 : Nat) : Int) + 1 } HBI.out [.int .i64 (((j + 1 : Nat) : Int) + 1)] (by kernel_rfl) rfl (Nat.le_of_ble_eq_true rfl) (by intro u hu; simp at hu; subst hu; rfl) _ rfl (by simp; rfl) _ rfl rfl ?_)
       intro W4 ow4 gr4 sz4;have HBG:=O3.out.lt g rfl;have G4 : Hid (Grew W0 W4):=show Grew _ _ from grew_grown G3.out gr4 (by rw [HS0.out]; exact HBG.1)
       have HL4 : Hid ((ini ++ [({ b with tz:=((j + 1 : Nat) : Int) + 1 } : Ar)]).length = m + 1):=show _ = _ by simp [HM.out]
       have O4 : Hid (OwnRow arE (w.heap.size + 1) W4 (.slice (some ⟨g,0,none⟩) (ini ++ [({ b with tz:=((j + 1 : Nat) : Int) + 1 } : Ar)]).length xc) (ini ++ [{ b with tz:=((j + 1 : Nat) : Int) + 1 }])):=show OwnRow _ _ _ _ _ by rw [HL4.out,←HSET.out]; exact ow4
       clear ow4 gr4 sz4 HBG;rw [←HL4.out];go_wp2
       go_roundg (64 - (j + 1 + 1))
       case measure=>omega
       case rel=>exact ⟨j + 1 + 1,ini ++ [({ b with tz:=((j + 1 : Nat) : Int) + 1 } : Ar)],some ⟨g,0,none⟩,xc,by omega,by omega,by go_num,rfl,G4.out,O4.out,J2.out⟩
      | false =>
       have J2 : Hid (J f (j + 1 + 1) (acc ++ [⟨((j + 1 : Nat)),(((j + 1 : Nat)) : Int) + 1,x.rd,x.wr,x.sh,x.file,x.page⟩])):=show J _ _ _ by
        have:=HNEW.out (fun b hb=>by rw [HX.out]; exact HGO'.out.2 rfl b hb)
        rw [HPF.out,HX.out] at this;exact this
       go_upto_region 14 with (first | refine wp_loadAll rfl 82 (.tmp 7) rfl p7 rfl Y3.out Tryz.underlying82 rfl Tryz.sizeOne ?_ | refine wp_loadAll rfl 82 (.tmp 5) rfl p rfl P3.out Tryz.underlying82 rfl Tryz.sizeOne ?_)
       have HSZ : Hid (w.heap.size + 1≤W3.heap.size):=show _≤_ by rw [←HS0.out]; exact Below.size G3.out
       have p1:=P3.out.c 1 rfl;have p2:=P3.out.c 2 rfl;have p3:=P3.out.c 3 rfl;have p4:=P3.out.c 4 rfl;have p5:=P3.out.c 5 rfl
       go_wp2_with (at_builtin; refine wpList_append_row (E:=arE) rfl (.tmp 41) (.tmp 56) rfl (w.heap.size + 1) _ acc rfl (O3.out.grew (grew_alloc _ _)) _ [⟨((j + 1 : Nat) : Int),((j + 1 : Nat) : Int) + 1,x.rd,x.wr,x.sh,x.file,x.page⟩] rfl (one_row arE W3 ⟨((j + 1 : Nat) : Int),((j + 1 : Nat) : Int) + 1,x.rd,x.wr,x.sh,x.file,x.page⟩ _ _ rfl (by show 40≤_; omega)) ?qb ?qc ?_)
       case qb =>
        show (acc.length + 1) * 40≤_
        have:=HLEN.out;omega
       case qc=>first | exact HSZ.out | exact Nat.le_trans HSZ.out (Nat.le_succ _) | (have:=HSZ.out; omega) | (simp; have:=HSZ.out; omega)
       intro vn Wn own grn;obtain ⟨xan,xcn,rfl⟩:=own.form;have On' : Hid (OwnRow arE (w.heap.size + 1) Wn (.slice xan (acc ++ [(⟨((j + 1 : Nat) : Int),((j + 1 : Nat) : Int) + 1,x.rd,x.wr,x.sh,x.file,x.page⟩ : Ar)]).length xcn) (acc ++ [⟨((j + 1 : Nat) : Int),((j + 1 : Nat) : Int) + 1,x.rd,x.wr,x.sh,x.file,x.page⟩])):=own;have Gn : Hid (Grew W0 Wn):=show Grew _ _ from grew_beside (G3.out.trans (grew_alloc _ _)) grn (fun g hg=>by
        have h1:=(O3.out.lt g hg).1;rw [HS0.out];exact h1)
       have Xn : Hid (Box Wn w.heap.size (cellsO (tab f))):=X0.out.grew Gn.out;clear own grn p1 p2 p3 p4 p5;go_wp2
       go_roundg (64 - ((j + 1) + 1))
       case measure=>omega
       case rel=>exact ⟨(j + 1) + 1,acc ++ [(⟨((j + 1 : Nat) : Int),((j + 1 : Nat) : Int) + 1,x.rd,x.wr,x.sh,x.file,x.page⟩ : Ar)],xan,xcn,by omega,by omega,by go_num,rfl,Gn.out,On'.out,J2.out⟩
     ·rw [if_neg hfile] at HGJ;have HQ:=fun W=>on_eq y.is true y.rd x.rd y.wr x.wr y.sh x.sh y.file x.file y.page x.page W
      have HXT : Hid ((⟨true,x.rd,x.wr,x.sh,x.file,x.page⟩ : On) = x):=show _ = _ by
       have h:=HS.out;rw [HX.out] at h;rw [←h]
      rw [HXT.out,HGJ] at HQ;clear HGJ;obtain ⟨R,HR⟩ : ∃ R,Hid (goJ x y = R):=⟨_,rfl⟩;rw [HR.out] at HQ HGO';go_upto_region 11 with fail;clear p4;have G3 : Hid (Grew W0 W2):=G2;have O3 : Hid (OwnRow arE (w.heap.size + 1) W2 (.slice xa acc.length xc) acc):=O2;have P3 : Hid (Box W2 p [.bool true,.bool x.rd,.bool x.wr,.bool x.sh,.int .i64 x.file,.int .i64 x.page]):=P2;have Y3 : Hid (Box W2 p7 [.bool y.is,.bool y.rd,.bool y.wr,.bool y.sh,.int .i64 y.file,.int .i64 y.page]):=Y2.out.box;obtain ⟨W3,hW3⟩ : ∃ W3,W2 = W3:=⟨_,rfl⟩;rw [hW3] at G3 O3 P3 Y3 ⊢;clear hW3
      cases R with
      | true =>
       obtain ⟨b,hlast,hgb⟩:=HGO'.out.1 rfl;have hacc:=snoc_of hlast;obtain ⟨ini,hini⟩ : ∃ ini,acc.dropLast = ini:=⟨_,rfl⟩;rw [hini] at hacc;have HACC : Hid (acc = ini ++ [b]):=hacc;have J2 : Hid (J f (j + 1 + 1) (ini ++ [{ b with tz:=((j + 1 : Nat) : Int) + 1 }])):=HEXT.out ini b hacc (by rw [HX.out]; exact hgb)
       obtain ⟨m,HM⟩ : ∃ m,Hid (ini.length = m):=⟨_,rfl⟩;have HAL : Hid (acc.length = m + 1):=show _ = _ by rw [HACC.out,←HM.out]; simp
       have HBI : Hid (acc[m]? = some b):=show _ = _ by rw [HACC.out,←HM.out]; simp
       obtain ⟨g,xc',hxe⟩:=O3.out.formS (by rw [HAL.out]; omega)
       cases hxe;have hmm : ((m + 1 : Nat) : Int) - 1 = (m : Int):=by omega
       have hm0 : (0 : Int)≤(m : Int):=by omega
       have hmlt : (m : Int) < ((m + 1 : Nat) : Int):=by omega
       have hmk : m + 1≤64:=by have:=HLEN.out; rw [HAL.out] at this; omega
       clear hlast hgb hacc hini;rw [HAL.out] at O3 ⊢;have HSET : Hid (acc.set m { b with tz:=((j + 1 : Nat) : Int) + 1 } = ini ++ [{ b with tz:=((j + 1 : Nat) : Int) + 1 }]):=show _ = _ by rw [HACC.out,List.set_append_right _ _ (by rw [HM.out]; exact Nat.le_refl _),HM.out,Nat.sub_self]; rfl
       go_wp2_with (first | refine wp_loadAll rfl 82 (.tmp 7) rfl p7 rfl Y3.out Tryz.underlying82 rfl Tryz.sizeOne ?_ | refine wp_loadAll rfl 82 (.tmp 5) rfl p rfl P3.out Tryz.underlying82 rfl Tryz.sizeOne ?_ | refine wpList_store_part (E:=arE) rfl (.tmp 40) (.tmp 38) 3 rfl (w.heap.size + 1) (.slice (some ⟨g,0,none⟩) (m + 1) xc) acc O3.out g m 1 rfl b { b with tz:=((j + 1 : Nat) : Int) + 1 } HBI.out [.int .i64 (((j + 1 : Nat) : Int) + 1)] (by kernel_rfl) rfl (Nat.le_of_ble_eq_true rfl) (by intro u hu; simp at hu; subst hu; rfl) _ rfl (by simp; rfl) _ rfl rfl ?_)
       intro W4 ow4 gr4 sz4;have HBG:=O3.out.lt g rfl;have G4 : Hid (Grew W0 W4):=show Grew _ _ from grew_grown G3.out gr4 (by rw [HS0.out]; exact HBG.1)
       have HL4 : Hid ((ini ++ [({ b with tz:=((j + 1 : Nat) : Int) + 1 } : Ar)]).length = m + 1):=show _ = _ by simp [HM.out]
       have O4 : Hid (OwnRow arE (w.heap.size + 1) W4 (.slice (some ⟨g,0,none⟩) (ini ++ [({ b with tz:=((j + 1 : Nat) : Int) + 1 } : Ar)]).length xc) (ini ++ [{ b with tz:=((j + 1 : Nat) : Int) + 1 }])):=show OwnRow _ _ _ _ _ by rw [HL4.out,←HSET.out]; exact ow4
       clear ow4 gr4 sz4 HBG;rw [←HL4.out];go_wp2
       go_roundg (64 - (j + 1 + 1))
       case measure=>omega
       case rel=>exact ⟨j + 1 + 1,ini ++ [({ b with tz:=((j + 1 : Nat) : Int) + 1 } : Ar)],some ⟨g,0,none⟩,xc,by omega,by omega,by go_num,rfl,G4.out,O4.out,J2.out⟩
      | false =>
       have J2 : Hid (J f (j + 1 + 1) (acc ++ [⟨((j + 1 : Nat)),(((j + 1 : Nat)) : Int) + 1,x.rd,x.wr,x.sh,x.file,x.page⟩])):=show J _ _ _ by
        have:=HNEW.out (fun b hb=>by rw [HX.out]; exact HGO'.out.2 rfl b hb)
        rw [HPF.out,HX.out] at this;exact this
       go_upto_region 14 with (first | refine wp_loadAll rfl 82 (.tmp 7) rfl p7 rfl Y3.out Tryz.underlying82 rfl Tryz.sizeOne ?_ | refine wp_loadAll rfl 82 (.tmp 5) rfl p rfl P3.out Tryz.underlying82 rfl Tryz.sizeOne ?_)
       have HSZ : Hid (w.heap.size + 1≤W3.heap.size):=show _≤_ by rw [←HS0.out]; exact Below.size G3.out
       have p1:=P3.out.c 1 rfl;have p2:=P3.out.c 2 rfl;have p3:=P3.out.c 3 rfl;have p4:=P3.out.c 4 rfl;have p5:=P3.out.c 5 rfl
       go_wp2_with (at_builtin; refine wpList_append_row (E:=arE) rfl (.tmp 41) (.tmp 56) rfl (w.heap.size + 1) _ acc rfl (O3.out.grew (grew_alloc _ _)) _ [⟨((j + 1 : Nat) : Int),((j + 1 : Nat) : Int) + 1,x.rd,x.wr,x.sh,x.file,x.page⟩] rfl (one_row arE W3 ⟨((j + 1 : Nat) : Int),((j + 1 : Nat) : Int) + 1,x.rd,x.wr,x.sh,x.file,x.page⟩ _ _ rfl (by show 40≤_; omega)) ?qb ?qc ?_)
       case qb =>
        show (acc.length + 1) * 40≤_
        have:=HLEN.out;omega
       case qc=>first | exact HSZ.out | exact Nat.le_trans HSZ.out (Nat.le_succ _) | (have:=HSZ.out; omega) | (simp; have:=HSZ.out; omega)
       intro vn Wn own grn;obtain ⟨xan,xcn,rfl⟩:=own.form;have On' : Hid (OwnRow arE (w.heap.size + 1) Wn (.slice xan (acc ++ [(⟨((j + 1 : Nat) : Int),((j + 1 : Nat) : Int) + 1,x.rd,x.wr,x.sh,x.file,x.page⟩ : Ar)]).length xcn) (acc ++ [⟨((j + 1 : Nat) : Int),((j + 1 : Nat) : Int) + 1,x.rd,x.wr,x.sh,x.file,x.page⟩])):=own;have Gn : Hid (Grew W0 Wn):=show Grew _ _ from grew_beside (G3.out.trans (grew_alloc _ _)) grn (fun g hg=>by
        have h1:=(O3.out.lt g hg).1;rw [HS0.out];exact h1)
       have Xn : Hid (Box Wn w.heap.size (cellsO (tab f))):=X0.out.grew Gn.out;clear own grn p1 p2 p3 p4 p5;go_wp2
       go_roundg (64 - ((j + 1) + 1))
       case measure=>omega
       case rel=>exact ⟨(j + 1) + 1,acc ++ [(⟨((j + 1 : Nat) : Int),((j + 1 : Nat) : Int) + 1,x.rd,x.wr,x.sh,x.file,x.page⟩ : Ar)],xan,xcn,by omega,by omega,by go_num,rfl,Gn.out,On'.out,J2.out⟩
  ·have hltz : ¬ (kk : Int) < 64:=by omega
   have : kk = 64:=by omega
   subst this;have HE : Hid (acc = joinL f):=JW.out.all HGD.out;have OE : Hid (OwnRow arE (w.heap.size + 1) wr (.slice xa acc.length xc) (joinL f)):=show OwnRow _ _ _ _ _ by rw [←HE.out]; exact OW.out
   have GE : Hid (Grew w wr):=HG0.out.trans BW.out;go_wp2;go_ret;exact ⟨⟨_,rfl,OE.out⟩,GE.out⟩
theorem refFew_any (f : Nat→On) (w : World) (hg : Good f) :
  Calls Tryz.prog 118 #[.agg (cellsO (tab f)).toArray] w fun e w'=>(∃ u,e = .returned (.tuple #[u,.int .i64 (fewL f).2])∧OwnRow arE w.heap.size w' u (fewL f).1)∧Grew w w':=by
 have HA : Hid (∀ W,Calls Tryz.prog 137 #[.agg (cellsO (tab f)).toArray] W fun e w'=>(∃ v,e = .returned v∧OwnRow arE (W.heap.size + 1) w' v (joinL f))∧Grew W w'):=fun W=>refAreas_any f W hg
 have HFW : Hid (¬ 16 < (joinL f).length→fewL f = (joinL f,0)):=fun h=>by unfold fewL; rw [if_neg h]
 have HFM : Hid (16 < (joinL f).length→fewL f = ([],4)):=fun h=>by unfold fewL; rw [if_pos h]
 have HJS : Hid ((joinL f).length≤64):=(joinL_J hg).len;clear hg;obtain ⟨FW,HFE⟩ : ∃ FW,Hid (fewL f = FW):=⟨_,rfl⟩;simp only [HFE.out] at HFW HFM ⊢;obtain ⟨JL,HJL⟩ : ∃ JL,Hid (joinL f = JL):=⟨_,rfl⟩;simp only [HJL.out] at HFW HFM HJS HA;clear HFE HJL;have HCL : Hid ((cellsO (tab f)).length = 384):=tabO_len _
 generalize cellsO (tab f) = C at HA HCL ⊢
 obtain ⟨W0,hW0⟩ : ∃ W0,w.alloc (.cells C.toArray 83) = W0:=⟨_,rfl⟩;have HG0 : Hid (Grew w W0):=show Grew w W0 by rw [←hW0]; exact grew_alloc _ _
 have X0 : Hid (Box W0 w.heap.size C):=show Box _ _ _ by rw [←hW0]; exact Box.top w _ _ rfl
 have HW0 : Hid (_ = W0):=hW0;clear hW0
 go_enter Tryz.func118,Tryz.ntmps118
 go_upto_region 1 with fail;rw [HW0.out]
 go_wp2_with (refine wp_loadAll rfl 83 (.tmp 1) rfl w.heap.size rfl X0.out Tryz.underlying83 rfl (by rw [HCL.out]; exact Tryz.sizeOnes) ?_)
 refine (HA.out W0).mono ?_;rintro e W5 ⟨⟨u,rfl,ow5⟩,g5⟩;obtain ⟨xa,xc,rfl⟩:=ow5.form;have G5 : Hid (Grew w W5):=HG0.out.trans g5;have O5 : Hid (OwnRow arE w.heap.size W5 (.slice xa JL.length xc) JL):=ow5.base (Nat.le_trans (Below.size HG0.out) (Nat.le_succ _));clear g5 ow5;obtain ⟨m,HM⟩ : ∃ m,Hid (JL.length = m):=⟨_,rfl⟩;rw [HM.out] at HFW HFM HJS O5 ⊢;have hm64 : m≤64:=HJS.out
 by_cases hmany : 16 < m
 ·have hmz : (16 : Int) < (m : Int):=by omega
  have HR : Hid (FW = ([],4)):=HFM.out hmany;go_wp2;refine bodyPost_ret (results_tmp2 rfl _ _ _) rfl ?_;rw [HR.out];exact ⟨⟨_,rfl,OwnRow.nil _ _ _⟩,G5.out⟩
 ·have hmz : ¬ (16 : Int) < (m : Int):=by omega
  have HR : Hid (FW = (JL,0)):=HFW.out hmany;go_wp2;refine bodyPost_ret (results_tmp2 rfl _ _ _) rfl ?_;rw [HR.out];exact ⟨⟨_,rfl,O5.out⟩,G5.out⟩
theorem two_good {b a : Ar} (hb : ArOk b) (ha : ArOk a) : Good (onAt [b,a]):=fun k _=>⟨onAt_no,fun h1=>by
 obtain ⟨i,c,h2,h3,h4⟩:=onAt_some h1;rw [h4];have : c = b∨c = a:=by simpa using List.mem_of_getElem? h2
 rcases this with e | e <;> subst e
 ·exact oneOf_ok hb h3
 ·exact oneOf_ok ha h3⟩
theorem sub_two {w : World} {ad : Addr} {n c j : Nat} {l : List Ar} {b q : Ar} (h : RowAt arE w (.slice (some ad) n c) l) (hb : l[j]? = some b) (hq : l[j + 1]? = some q) : RowAt arE w (.slice (some (ad.add (j * 7))) 2 (c - j)) [b,q]:=by
 obtain ⟨⟨a',c',h1,h2,h3⟩,h4⟩:=h;cases h1;refine ⟨⟨some (ad.add (j * 7)),c - j,rfl,fun h=>(by cases h),fun x hx k u hu=>?_⟩,by show 2 * 40≤_; omega⟩
 cases hx;rw [add_add'];refine h3 ad rfl (j * 7 + k) u ?_;have hu' : (arv b ++ arv q)[k]? = some u:=by simpa [arE] using hu
 by_cases hk : k < 7
 ·rw [List.getElem?_append_left (by simpa [arv] using hk)] at hu'
  exact flatMap_elem (enc:=arv) (k:=7) l j b (fun _ _=>rfl) hb k u hu'
 ·rw [List.getElem?_append_right (by simp [arv]; omega)] at hu'
  have:=flatMap_elem (enc:=arv) (k:=7) l (j + 1) q (fun _ _=>rfl) hq (k - 7) u (by simpa [arv] using hu')
  rw [show (j + 1) * 7 + (k - 7) = j * 7 + k by omega] at this
  exact this
theorem run_slice2 {w : World} {ad : Addr} {n c j : Nat} (hj : j + 2≤c) : (Instr.sliceAt 60 (.slice (some ad) n c) (some (.int .i64 (j : Int))) (some (.int .i64 ((j : Int) + 1 + 1))) none).run Tryz.prog w = .ok (.slice (some (ad.add (j * 7))) 2 (c - j)) w:=by
 have hs : (Go.sizeOf 69).run Tryz.prog w = .ok 7 w:=by
  obtain ⟨i0,h1,h2⟩ : ∃ i0,Tryz.prog.info? 69 = some i0∧i0.size = 7:=by
   have:=Tryz.sizeArea
   cases hq : Tryz.prog.info? 69 with
   | none=>rw [hq] at this; cases this
   | some i0=>rw [hq] at this; exact ⟨i0,rfl,by simpa using this⟩
  simp [Go.sizeOf,typeInfo,h1,h2]
 have h1 : (0 : Int)≤(j : Int) + 1 + 1∧(j : Int) + 1 + 1≤(c : Int):=by omega
 have h2 : ((j : Int) + 1 + 1).toNat = j + 2:=by omega
 have h3 : (0 : Int)≤(j : Int)∧(j : Int)≤((j + 2 : Nat) : Int):=by omega
 have h4 : ¬ c = j:=by omega
 simp only [Instr.sliceAt,Instr.slice,Instr.sliceBounds,Instr.sliceBound,asIntOf,Sem.run_bind,Sem.run_pure,Result.andThen_ok,run_underlying Tryz.underlying60];rw [if_pos h1];simp only [Sem.run_pure,Result.andThen_ok,h2];rw [if_pos h3];simp only [Sem.run_pure,Result.andThen_ok,hs,Int.toNat_natCast,if_neg h4,Option.map_some]
 congr 2
 omega
theorem refWrongAr_any (v : Value) (l : List Ar) (w : World) (hv : RowAt arE w v l) (hcap : Cap v) :
  Calls Tryz.prog 93 #[v] w fun e w'=>e = .returned (.agg #[.int .i64 (wrL l).1,.int .i64 (wrL l).2])∧Grew w w':=by
 have hbig:=hv.short;obtain ⟨a,c,rfl,hrow⟩:=hv.ars;have HR' : Hid (ArRows w a l):=hrow;have hwa : Hid (∀ (q : Ar) W,Calls Tryz.prog 117 #[.agg #[.int .i64 q.fr,.int .i64 q.tz,.bool q.rd,.bool q.wr,.bool q.sh,.int .i64 q.file,.int .i64 q.base]] W fun e w'=>e = .returned (.int .i64 (arW q))∧Grew W w'):=fun q W=>refWrongArea_any q W
 have HV : Hid (RowAt arE w (.slice a l.length c) l):=hv;have hcp : l.length≤c:=hcap;have h1 : Hid (∀ (b q : Ar) v W,RowAt arE W v [b,q]→ArOk b→ArOk q→b.tz≤q.fr→Calls Tryz.prog 26 #[v] W fun e w'=>e = .returned (.agg (cellsO (tab (onAt [b,q]))).toArray)∧Grew W w'):=fun b q v W hv hb hq hf=>refOnes_any v [b,q] W hv (lies_two hb hq hf)
 have h2 : Hid (∀ (b q : Ar) W,ArOk b→ArOk q→b.tz≤q.fr→Calls Tryz.prog 137 #[.agg (cellsO (tab (onAt [b,q]))).toArray] W fun e w'=>(∃ xa xc,e = .returned (.slice xa (joinL (onAt [b,q])).length xc))∧Grew W w'):=fun b q W hb hq hf=>(refAreas_any (onAt [b,q]) W (two_good hb hq)).mono (by
  rintro e w' ⟨⟨v,rfl,ow⟩,g⟩;obtain ⟨xa,xc,rfl⟩:=ow.form;exact ⟨⟨xa,xc,rfl⟩,g⟩)
 clear hrow hv hcap;have HST : Hid (¬ 16 < l.length→wrGo (prevO l 0) (l.drop 0) 0 = wrL l):=wrL_start;have HMA : Hid (16 < l.length→wrL l = (4,0)):=fun h=>by unfold wrL; rw [if_pos h]
 have HEND : Hid (∀ r,wrGo (prevO l l.length) (l.drop l.length) l.length = r→r = (0,0)):=fun r=>wrn_end
 obtain ⟨n,HN⟩ : ∃ n,Hid (l.length = n):=⟨_,rfl⟩;rw [HN.out] at hbig hcp HV ⊢;have HST' : Hid (¬ 16 < n→wrGo (prevO l 0) (l.drop 0) 0 = wrL l):=show _→_ by rw [←HN.out]; exact HST.out
 have HMA' : Hid (16 < n→wrL l = (4,0)):=show _→_ by rw [←HN.out]; exact HMA.out
 have HEND' : Hid (∀ r,wrGo (prevO l n) (l.drop n) n = r→r = (0,0)):=show ∀ r,_ by rw [←HN.out]; exact HEND.out
 clear HST HMA HEND
 generalize hA : wrL l = ANS at HST' HMA' ⊢
 clear hA;obtain ⟨W0,hW0⟩ : ∃ W0,w.alloc (.cells #[.int .i64 0,.int .i64 0] 164) = W0:=⟨_,rfl⟩;have HG0 : Hid (Grew w W0):=show Grew w W0 by rw [←hW0]; exact grew_alloc _ _
 have X0 : Hid (Box W0 w.heap.size [.int .i64 0,.int .i64 0]):=show Box _ _ _ by rw [←hW0]; exact Box.top w _ _ rfl
 have HW0 : Hid (_ = W0):=hW0;clear hW0
 by_cases hmany : 16 < n
 ·have HR : Hid (ANS = (4,0)):=HMA'.out hmany;have hmz : (16 : Int) < (n : Int):=by omega
  go_enter Tryz.func93,Tryz.ntmps93
  go_upto_region 1 with fail;rw [HW0.out];have f0:=X0.out.c 0 rfl;have f1:=X0.out.c 1 rfl;have ff:=X0.out.f;have RB : Hid (Box ((W0.setCell ⟨w.heap.size,0,none⟩ (.int .i64 4)).setCell ⟨w.heap.size,1,none⟩ (.int .i64 0)) w.heap.size [.int .i64 4,.int .i64 0]):=show Box _ _ _ from (X0.out.set 0 _).set 1 _
  have RG : Hid (Grew w ((W0.setCell ⟨w.heap.size,0,none⟩ (.int .i64 4)).setCell ⟨w.heap.size,1,none⟩ (.int .i64 0))):=show Grew _ _ from grew_set (grew_set HG0.out (by simp) _) (by simp) _
  go_wp2;refine bodyPost_ret (ret_cell (vs:=[.int .i64 4,.int .i64 0]) rfl _ rfl RB.out Tryz.underlying164 rfl Tryz.sizeFault) rfl ⟨?_,RG.out⟩;rw [HR.out]
 ·have hmz : ¬ (16 : Int) < (n : Int):=by omega
  have HI : Hid (wrGo (prevO l 0) (l.drop 0) 0 = ANS):=HST'.out hmany
  go_enter Tryz.func93,Tryz.ntmps93
  go_upto_region 1 with fail;rw [HW0.out];go_wp2
  go_loopg [12] n (fun gg s12 wr=>∃ kk : Nat,kk≤n∧n - kk≤gg∧s12 = .int .i64 kk∧Hid (Grew w wr)∧Hid (Box wr w.heap.size [.int .i64 0,.int .i64 0])∧Hid (wrGo (prevO l kk) (l.drop kk) kk = ANS)∧Hid (∀ (j : Nat) q,j < kk→l[j]? = some q→ArOk q))
  case atStart=>exact ⟨0,Nat.zero_le _,by omega,rfl,HG0.out,X0.out,HI.out,fun j q hj=>absurd hj (Nat.not_lt_zero _)⟩
  case round =>
   obtain ⟨kk,hkk,hg,rfl,BW,FW,IW,OW⟩:=hrel
   by_cases hlt : kk < n
   ·have hltz : (kk : Int) < (n : Int):=by omega
    obtain ⟨q,HQ⟩ : ∃ q,Hid (l[kk]? = some q):=⟨_,List.getElem?_eq_getElem (by rw [HN.out]; exact hlt)⟩
    obtain ⟨ad,rfl,hl⟩:=HR'.out kk q HQ.out;obtain ⟨d0,d1,d2,d3,d4,d5,d6⟩:=hl wr BW.out;have HL : Hid (w.heap.size < wr.heap.size):=FW.out.lt;obtain ⟨p,HP⟩ : ∃ p,Hid (wr.heap.size = p):=⟨_,rfl⟩;have HLP : Hid (w.heap.size < p):=show _ < _ by rw [←HP.out]; exact HL.out
    clear hl HL;go_upto_region 6 with fail;obtain ⟨W1,hW1⟩ : ∃ W1,wr.alloc (.cells #[.int .i64 q.fr,.int .i64 q.tz,.bool q.rd,.bool q.wr,.bool q.sh,.int .i64 q.file,.int .i64 q.base] 69) = W1:=⟨_,rfl⟩;have G1 : Hid (Grew w W1):=show Grew _ _ by rw [←hW1]; exact BW.out.trans (grew_alloc _ _)
    have F1 : Hid (Box W1 w.heap.size [.int .i64 0,.int .i64 0]):=show Box _ _ _ by rw [←hW1]; exact FW.out.alloc _
    have P1 : Hid (Box W1 p [.int .i64 q.fr,.int .i64 q.tz,.bool q.rd,.bool q.wr,.bool q.sh,.int .i64 q.file,.int .i64 q.base]):=show Box _ _ _ by rw [←hW1]; exact Box.top _ _ _ HP.out.symm
    rw [hW1,HP.out];clear hW1 d0 d1 d2 d3 d4 d5 d6
    go_wp2_with (refine wp_loadAll rfl 69 (.tmp 4) rfl p rfl P1.out Tryz.underlying69 rfl Tryz.sizeArea ?_)
    refine (hwa.out q _).mono ?_;rintro e W2 ⟨rfl,g2⟩;have G2 : Hid (Grew w W2):=G1.out.trans g2;have F2 : Hid (Box W2 w.heap.size [.int .i64 0,.int .i64 0]):=F1.out.grew g2;have P2 : Hid (Box W2 p [.int .i64 q.fr,.int .i64 q.tz,.bool q.rd,.bool q.wr,.bool q.sh,.int .i64 q.file,.int .i64 q.base]):=P1.out.grew g2;clear g2;have hpne : p≠w.heap.size:=by have:=HLP.out; omega
    have hpne' : w.heap.size≠p:=by have:=HLP.out; omega
    by_cases hz : arW q = 0
    ·have HZ : Hid (arW q = 0):=hz;have hzb : (arW q != 0) = false:=by simp [hz]
     have HOK : Hid (ArOk q):=arW_zero.1 hz;have OW' : Hid (∀ (j : Nat) x,j < kk + 1→l[j]? = some x→ArOk x):=show ∀ (j : Nat) x,_ from fun j x hj hx=>by
      by_cases e : j = kk
      ·subst e;rw [HQ.out] at hx;cases hx;exact HOK.out
      ·exact OW.out j x (by omega) hx
     clear hz;go_upto_region 9 with fail
     generalize arW q = zq
     cases kk with
     | zero =>
      have HNX : Hid (wrGo (prevO l 1) (l.drop 1) 1 = ANS):=wrn_first IW.out HQ.out HZ.out;have hz0 : ¬ (0 : Int) < ((0 : Nat) : Int):=by decide
      have hz1 : decide ((0 : Int) < ((0 : Nat) : Int)) = false:=by decide
      go_quiet (fail);go_wp2
      go_roundg (n - 1)
      case measure=>omega
      case rel=>exact ⟨1,by omega,by omega,by go_num,G2.out.trans (show Below _ _ _ from Go.below_drewN (Below.refl _ _) _),F2.out.grew (show Below _ _ _ from Go.below_drewN (Below.refl _ _) _),HNX.out,OW'.out⟩
     | succ j =>
      obtain ⟨b,HB⟩ : ∃ b,Hid (l[j]? = some b):=⟨_,List.getElem?_eq_getElem (by rw [HN.out]; omega)⟩
      have HBK : Hid (ArOk b):=OW.out j b (by omega) HB.out
      have hz0 : (0 : Int) < ((j + 1 : Nat) : Int):=by omega
      have hz1 : decide ((0 : Int) < ((j + 1 : Nat) : Int)) = true:=by simp
      have hj1 : ((j + 1 : Nat) : Int) - 1 = (j : Int):=by omega
      have hjn : (j : Int) < (n : Int):=by omega
      obtain ⟨ad',had,hl⟩:=HR'.out j b HB.out;obtain rfl : ad = ad':=by cases had; rfl
      by_cases hc : q.fr < b.tz
      ·have HR : Hid (ANS = (2,((j + 1 : Nat) : Int))):=wrn_form IW.out HB.out HQ.out HZ.out (.inl hc);have hcd : decide (q.fr < b.tz) = true:=by simpa using hc
       obtain ⟨e0,e1,e2,e3,e4,e5,e6⟩:=hl W2 G2.out;have p0:=P2.out.c 0 rfl;clear hl;go_quiet (fail);obtain ⟨W3,hW3⟩ : ∃ W3,W2.drewN nq = W3:=⟨_,rfl⟩;have G3 : Hid (Grew w W3):=show Grew _ _ by rw [←hW3]; exact G2.out.trans (show Below _ _ _ from Go.below_drewN (Below.refl _ _) _)
       have F3 : Hid (Box W3 w.heap.size [.int .i64 0,.int .i64 0]):=show Box _ _ _ by rw [←hW3]; exact F2.out.grew (show Below _ _ _ from Go.below_drewN (Below.refl _ _) _)
       rw [hW3];clear hW3 e0 e1 e2 e3 e4 e5 e6 p0;have f0:=F3.out.c 0 rfl;have f1:=F3.out.c 1 rfl;have ff:=F3.out.f;have RB : Hid (Box ((W3.setCell ⟨w.heap.size,0,none⟩ (.int .i64 2)).setCell ⟨w.heap.size,1,none⟩ (.int .i64 ((j + 1 : Nat) : Int))) w.heap.size [.int .i64 2,.int .i64 ((j + 1 : Nat) : Int)]):=show Box _ _ _ from (F3.out.set 0 _).set 1 _
       have RG : Hid (Grew w ((W3.setCell ⟨w.heap.size,0,none⟩ (.int .i64 2)).setCell ⟨w.heap.size,1,none⟩ (.int .i64 ((j + 1 : Nat) : Int)))):=show Grew _ _ from grew_set (grew_set G3.out (by simp) _) (by simp) _
       go_wp2;refine bodyPost_ret (ret_cell (vs:=[.int .i64 2,.int .i64 ((j + 1 : Nat) : Int)]) rfl _ rfl RB.out Tryz.underlying164 rfl Tryz.sizeFault) rfl ⟨?_,RG.out⟩;rw [HR.out]
      ·have hcd : decide (q.fr < b.tz) = false:=by simpa using hc
       have HC : Hid (¬ q.fr < b.tz):=hc;have hx0 : ∀ y : GrownW W2,y.world.cell? ⟨p,0,none⟩ = some (.int .i64 q.fr):=fun y=>(P2.out.grew y.grew).c 0 rfl
       have hx1 : ∀ y : GrownW W2,y.world.cell? ⟨p,1,none⟩ = some (.int .i64 q.tz):=fun y=>(P2.out.grew y.grew).c 1 rfl
       have hx2 : ∀ y : GrownW W2,y.world.cell? ⟨p,2,none⟩ = some (.bool q.rd):=fun y=>(P2.out.grew y.grew).c 2 rfl
       have hx3 : ∀ y : GrownW W2,y.world.cell? ⟨p,3,none⟩ = some (.bool q.wr):=fun y=>(P2.out.grew y.grew).c 3 rfl
       have hx4 : ∀ y : GrownW W2,y.world.cell? ⟨p,4,none⟩ = some (.bool q.sh):=fun y=>(P2.out.grew y.grew).c 4 rfl
       have hx5 : ∀ y : GrownW W2,y.world.cell? ⟨p,5,none⟩ = some (.int .i64 q.file):=fun y=>(P2.out.grew y.grew).c 5 rfl
       have hx6 : ∀ y : GrownW W2,y.world.cell? ⟨p,6,none⟩ = some (.int .i64 q.base):=fun y=>(P2.out.grew y.grew).c 6 rfl
       have hy0 : ∀ y : GrownW W2,y.world.cell? (ad.add (j * 7)) = some (.int .i64 b.fr):=fun y=>(hl _ (G2.out.trans y.grew)).1
       have hy1 : ∀ y : GrownW W2,y.world.cell? { block:=(ad.add (j * 7)).block,off:=(ad.add (j * 7)).off + 1 } = some (.int .i64 b.tz):=fun y=>(hl _ (G2.out.trans y.grew)).2.1
       have hy2 : ∀ y : GrownW W2,y.world.cell? { block:=(ad.add (j * 7)).block,off:=(ad.add (j * 7)).off + 2 } = some (.bool b.rd):=fun y=>(hl _ (G2.out.trans y.grew)).2.2.1
       have hy3 : ∀ y : GrownW W2,y.world.cell? { block:=(ad.add (j * 7)).block,off:=(ad.add (j * 7)).off + 3 } = some (.bool b.wr):=fun y=>(hl _ (G2.out.trans y.grew)).2.2.2.1
       have hy4 : ∀ y : GrownW W2,y.world.cell? { block:=(ad.add (j * 7)).block,off:=(ad.add (j * 7)).off + 4 } = some (.bool b.sh):=fun y=>(hl _ (G2.out.trans y.grew)).2.2.2.2.1
       have hy5 : ∀ y : GrownW W2,y.world.cell? { block:=(ad.add (j * 7)).block,off:=(ad.add (j * 7)).off + 5 } = some (.int .i64 b.file):=fun y=>(hl _ (G2.out.trans y.grew)).2.2.2.2.2.1
       have hy6 : ∀ y : GrownW W2,y.world.cell? { block:=(ad.add (j * 7)).block,off:=(ad.add (j * 7)).off + 6 } = some (.int .i64 b.base):=fun y=>(hl _ (G2.out.trans y.grew)).2.2.2.2.2.2
       have hne : Nonempty (GrownW W2):=⟨⟨_,Grew.refl _⟩⟩;have HSL : Hid (∀ W,Grew w W→RowAt arE W (.slice (some (ad.add (j * 7))) 2 (c - j)) [b,q]):=fun W hW=>sub_two (HV.out.grew hW) HB.out HQ.out
       have hsl:=fun W=>run_slice2 (w:=W) (ad:=ad) (n:=n) (c:=c) (j:=j) (by omega)
       obtain ⟨M,HM⟩ : ∃ M,Hid ((joinL (onAt [b,q])).length = M):=⟨_,rfl⟩;have HTG : Hid (decide (M < 2) = goB q b):=show _ = _ by rw [←HM.out]; exact two_go HBK.out HOK.out (by have:=HC.out; omega)
       have HF2 : Hid (b.tz≤q.fr):=show _≤_ by have:=HC.out; omega
       clear hl;obtain ⟨O2,HO2⟩ : ∃ O2,Hid (cellsO (tab (onAt [b,q])) = O2):=⟨_,rfl⟩;refine wp_lax [(19,⟨fun v=>v = .agg O2.toArray,fun _ _=>True⟩),(20,⟨fun v=>∃ xa xc,v = .slice xa M xc,fun _ _=>True⟩)] mixed (by kernel_rfl) ?_ ?_ ?_
       ·intro x hx
        simp at hx
        rcases hx with rfl | rfl
        ·exact ⟨_,rfl⟩
        ·exact ⟨.slice none M 0,none,0,rfl⟩
       ·intro x hx
        simp at hx
        rcases hx with rfl | rfl
        ·exact fun _ _ _ _ h=>h
        ·exact fun _ _ _ _ h=>h
       iterate 19 (refine lax_quiet rfl rfl rfl (fun K hK=>?_); go_big_quiet_op; refine hK _ ?_; clear hK K)
       refine lax_spec rfl rfl (fun w' hg hF=>?_) (fun v1 hv=>?_)
       ·refine Does.call [.slice (some (ad.add (j * 7))) 2 (c - j)] rfl Tryz.func26 rfl rfl rfl ?_;refine (h1.out b q _ w' (HSL.out w' (G2.out.trans hg)) HBK.out HOK.out HF2.out).mono ?_;rintro e w'' ⟨rfl,hg2⟩;exact ⟨_,rfl,hg2,by rw [HO2.out],trivial⟩
       subst hv;simp only [Act.put,List.setIfInBounds_toArray,List.set_cons_succ,List.set_cons_zero];refine lax_spec rfl rfl (fun w' hg hF=>?_) (fun v1 hv=>?_)
       ·refine Does.call [.agg O2.toArray] rfl Tryz.func137 rfl rfl rfl ?_;rw [←HO2.out];refine (h2.out b q w' HBK.out HOK.out HF2.out).mono ?_;rintro e w'' ⟨⟨xa,xc,rfl⟩,hg2⟩;exact ⟨_,rfl,hg2,⟨xa,xc,by rw [HM.out]⟩,trivial⟩
       obtain ⟨xa2,xc2,rfl⟩:=hv;simp only [Act.put,List.setIfInBounds_toArray,List.set_cons_succ,List.set_cons_zero];have hmz : decide ((M : Int) < 2) = goB q b:=by rw [←HTG.out]; exact decide_eq_decide.2 (by omega)
       iterate 4 (refine lax_quiet rfl rfl rfl (fun K hK=>?_); go_big_quiet_op; refine hK _ ?_; clear hK K)
       refine lax_nil fun W3 hg1 hF=>?_
       have G3 : Hid (Grew w W3):=G2.out.trans hg1;have F3 : Hid (Box W3 w.heap.size [.int .i64 0,.int .i64 0]):=F2.out.grew hg1;clear hmz hsl hg1 hF hx0 hx1 hx2 hx3 hx4 hx5 hx6 hy0 hy1 hy2 hy3 hy4 hy5 hy6 hne
       cases hgb : goB q b with
       | true =>
        have HR : Hid (ANS = (2,((j + 1 : Nat) : Int))):=wrn_form IW.out HB.out HQ.out HZ.out (.inr hgb);clear hgb;have f0:=F3.out.c 0 rfl;have f1:=F3.out.c 1 rfl;have ff:=F3.out.f;have RB : Hid (Box ((W3.setCell ⟨w.heap.size,0,none⟩ (.int .i64 2)).setCell ⟨w.heap.size,1,none⟩ (.int .i64 ((j + 1 : Nat) : Int))) w.heap.size [.int .i64 2,.int .i64 ((j + 1 : Nat) : Int)]):=show Box _ _ _ from (F3.out.set 0 _).set 1 _
        have RG : Hid (Grew w ((W3.setCell ⟨w.heap.size,0,none⟩ (.int .i64 2)).setCell ⟨w.heap.size,1,none⟩ (.int .i64 ((j + 1 : Nat) : Int)))):=show Grew _ _ from grew_set (grew_set G3.out (by simp) _) (by simp) _
        go_wp2;refine bodyPost_ret (ret_cell (vs:=[.int .i64 2,.int .i64 ((j + 1 : Nat) : Int)]) rfl _ rfl RB.out Tryz.underlying164 rfl Tryz.sizeFault) rfl ⟨?_,RG.out⟩;rw [HR.out]
       | false =>
        have HNX : Hid (wrGo (prevO l (j + 1 + 1)) (l.drop (j + 1 + 1)) (j + 1 + 1) = ANS):=wrn_next IW.out HB.out HQ.out HZ.out HC.out hgb;clear hgb;go_wp2
        go_roundg (n - (j + 1 + 1))
        case measure=>omega
        case rel=>exact ⟨j + 1 + 1,by omega,by omega,by go_num,G3.out,F3.out,HNX.out,OW'.out⟩
    ·have HR : Hid (ANS = (arW q,(kk : Int))):=wrn_bad IW.out HQ.out hz;have hzb : (arW q != 0) = true:=by simp [hz]
     clear hz;have f0:=F2.out.c 0 rfl;have f1:=F2.out.c 1 rfl;have ff:=F2.out.f;have RB : Hid (Box ((W2.setCell ⟨w.heap.size,0,none⟩ (.int .i64 (arW q))).setCell ⟨w.heap.size,1,none⟩ (.int .i64 (kk : Int))) w.heap.size [.int .i64 (arW q),.int .i64 (kk : Int)]):=show Box _ _ _ from (F2.out.set 0 _).set 1 _
     have RG : Hid (Grew w ((W2.setCell ⟨w.heap.size,0,none⟩ (.int .i64 (arW q))).setCell ⟨w.heap.size,1,none⟩ (.int .i64 (kk : Int)))):=show Grew _ _ from grew_set (grew_set G2.out (by simp) _) (by simp) _
     go_wp2;refine bodyPost_ret (ret_cell (vs:=[.int .i64 (arW q),.int .i64 (kk : Int)]) rfl _ rfl RB.out Tryz.underlying164 rfl Tryz.sizeFault) rfl ⟨?_,RG.out⟩;rw [HR.out]
   ·have hltz : ¬ (kk : Int) < (n : Int):=by omega
    have : kk = n:=by omega
    subst this;have HR : Hid (ANS = (0,0)):=HEND'.out _ IW.out;have f0:=FW.out.c 0 rfl;have f1:=FW.out.c 1 rfl;have ff:=FW.out.f;have RB : Hid (Box ((wr.setCell ⟨w.heap.size,0,none⟩ (.int .i64 0)).setCell ⟨w.heap.size,1,none⟩ (.int .i64 0)) w.heap.size [.int .i64 0,.int .i64 0]):=show Box _ _ _ from (FW.out.set 0 _).set 1 _
    have RG : Hid (Grew w ((wr.setCell ⟨w.heap.size,0,none⟩ (.int .i64 0)).setCell ⟨w.heap.size,1,none⟩ (.int .i64 0))):=show Grew _ _ from grew_set (grew_set BW.out (by simp) _) (by simp) _
    go_wp2;refine bodyPost_ret (ret_cell (vs:=[.int .i64 0,.int .i64 0]) rfl _ rfl RB.out Tryz.underlying164 rfl Tryz.sizeFault) rfl ⟨?_,RG.out⟩;rw [HR.out]
theorem Does.allocOnes {o : Oper} {a : Act} {w : World} {K : Value→World→Prop} (ho : o.op = .alloc 83) (h : K (.pointer (some ⟨w.heap.size,0,none⟩)) (w.alloc (.cells (cellsO (tab fun _=>on0)).toArray 83))) : Does Tryz.prog o a w K:=by
 have hz:=run_zeroO w
 generalize cellsO (tab fun _=>on0) = Z at hz h
 unfold Does;have : (execOp a.eval o).run Tryz.prog w = .ok (.value (.pointer (some ⟨w.heap.size,0,none⟩))) (w.alloc (.cells Z.toArray 83)):=by
  simp [execOp,ho,go_sem,hz]
 rw [this];exact h
theorem Does.oneArea {o : Oper} {a : Act} {w : World} {K : Value→World→Prop} (x : Operand) (ho : o.op = .buildSlice 60 1 #[(0,x)]) (q : Ar) (hx : a.eval x = arA q) (h : K (.slice (some ⟨w.heap.size,0,none⟩) 1 1) (w.alloc (.cells (arv q).toArray 69))) : Does Tryz.prog o a w K:=by
 unfold Does;have : (execOp a.eval o).run Tryz.prog w = .ok (.value (.slice (some ⟨w.heap.size,0,none⟩) 1 1)) (w.alloc (.cells (arv q).toArray 69)):=by
  simp only [execOp,ho,List.map_toArray,List.map_cons,List.map_nil,hx]
  simp [go_sem,arA,arv]
 rw [this];exact h
theorem Does.val {o : Oper} {a : Act} {w : World} {K : Value→World→Prop} {v : Value} (hr : (execOp a.eval o).run Tryz.prog w = .ok (.value v) w) (h : K v w) : Does Tryz.prog o a w K:=by
 unfold Does;rw [hr];exact h
theorem run_loadA {a : Act} {o : Oper} (x : Operand) (ho : o.op = .load 69 x) (b : Nat) (hx : a.eval x = .pointer (some ⟨b,0,none⟩)) {q : Ar} {w : World} (hb : Box w b (arv q)) : (execOp a.eval o).run Tryz.prog w = .ok (.value (arA q)) w:=by
 have:=run_loadAt_mid (P:=Tryz.prog) w b 0 69 (arv q) _ hb.range Tryz.underlying69 rfl Tryz.sizeArea;simp only [execOp,ho,hx,Sem.run_bind,this,Result.andThen_ok,Sem.run_pure];rfl
def mapOps : List Oper:=[
 { dst := some 23, op := .move (.tmp 0), type := 60, pos := "ref.go:325", after := #[], guard := none },
 { dst := some 24, op := .call { callee := .value (.func 26), args := #[.tmp 23], argTypes := #[60] }, type := 83, pos := "ref.go:325", after := #[{ on := 0, ground := .data }], guard := none },
 { dst := some 25, op := .load 69 (.tmp 3), type := 69, pos := "ref.go:325", after := #[], guard := none },
 { dst := some 26, op := .buildSlice 60 1 #[(0, .tmp 25)], type := 60, pos := "ref.go:325", after := #[{ on := 2, ground := .data }], guard := none },
 { dst := some 27, op := .call { callee := .value (.func 26), args := #[.tmp 26], argTypes := #[60] }, type := 83, pos := "ref.go:325", after := #[{ on := 3, ground := .data }, { on := 1, ground := .chain }], guard := none },
 { dst := some 8, op := .alloc 83, type := 0, pos := "ref.go:325", after := #[], guard := none },
 { dst := some 9, op := .alloc 83, type := 0, pos := "ref.go:325", after := #[], guard := none },
 { dst := none, op := .store 83 (.tmp 8) (.tmp 24), type := 0, pos := "ref.go:325", after := #[{ on := 5, ground := .data }, { on := 1, ground := .data }, { on := 4, ground := .chain }, { on := 0, ground := .phase }, { on := 1, ground := .phase }, { on := 2, ground := .textOnly .lateStores }, { on := 3, ground := .textOnly .lateStores }, { on := 4, ground := .textOnly .lateStoresUnsure }, { on := 5, ground := .phase }, { on := 6, ground := .phase }], guard := none },
 { dst := none, op := .store 83 (.tmp 9) (.tmp 27), type := 0, pos := "ref.go:325", after := #[{ on := 6, ground := .data }, { on := 4, ground := .data }, { on := 7, ground := .chain }, { on := 0, ground := .phase }, { on := 1, ground := .phase }, { on := 2, ground := .phase }, { on := 3, ground := .phase }, { on := 4, ground := .phase }, { on := 5, ground := .phase }, { on := 6, ground := .phase }, { on := 7, ground := .phase }], guard := none }]
theorem map_some : ∀ l0 l1 l2 l3 l4 l5 l6 : Bool,(Region.ready .any mapOps.toArray #[l0,l1,l2,l3,l4,l5,l6,false,false]).isEmpty = false∨(l4 = true∧(l1 = false∨l3 = false))∨(l1 = true∧l0 = false)∨(l3 = true∧l2 = false):=by decide +kernel
theorem map_nextB : ∀ l0 l1 l2 l3 l4 l5 l6 : Bool,(!((!l1 || l0) && (!l3 || l2) && (!l4 || (l1 && l3))) || (Region.ready .any mapOps.toArray #[l0,l1,l2,l3,l4,l5,l6,false,false]).all fun i=>(i == 0 && !l0) || (i == 1 && !l1 && l0) || (i == 2 && !l2) || (i == 3 && !l3 && l2) || (i == 4 && !l4 && l1 && l3) || (i == 5 && !l5) || (i == 6 && !l6) || (i == 7 && l0 && l1 && l2 && l3 && l4 && l5 && l6)) = true:=by decide +kernel
theorem map_next (l0 l1 l2 l3 l4 l5 l6 : Bool) (i : Nat) (c1 : l1 = true→l0 = true) (c3 : l3 = true→l2 = true) (c4 : l4 = true→l1 = true∧l3 = true) (hi : i∈Region.ready .any mapOps.toArray #[l0,l1,l2,l3,l4,l5,l6,false,false]) : (i = 0∧l0 = false)∨(i = 1∧l1 = false∧l0 = true)∨(i = 2∧l2 = false)∨(i = 3∧l3 = false∧l2 = true)∨(i = 4∧l4 = false∧l1 = true∧l3 = true)∨(i = 5∧l5 = false)∨(i = 6∧l6 = false)∨(i = 7∧l0 = true∧l1 = true∧l2 = true∧l3 = true∧l4 = true∧l5 = true∧l6 = true):=by
 have hc : ((!l1 || l0) && (!l3 || l2) && (!l4 || (l1 && l3))) = true:=by
  cases l0 <;> cases l1 <;> cases l2 <;> cases l3 <;> cases l4 <;> simp at c1 c3 c4 ⊢
 have hb:=map_nextB l0 l1 l2 l3 l4 l5 l6;rw [hc,Bool.not_true,Bool.false_or] at hb;have h:=List.all_eq_true.1 hb i hi
 simpa [and_assoc,or_assoc] using h
structure MapInv (W0 : World) (v : Value) (q : Ar) (O1 O2 Z0 : List Value) (l0 l1 l2 l3 l4 l5 l6 : Bool) (t23 t24 t25 t26 t27 t8 t9 : Value) (W : World) : Prop where
 g : Grew W0 W
 h0 : l0 = true→t23 = v
 h1 : l1 = true→t24 = .agg O1.toArray
 h2 : l2 = true→t25 = arA q
 h3 : l3 = true→RowAt arE W t26 [q]
 h4 : l4 = true→t27 = .agg O2.toArray
 h5 : l5 = true→∃ b,t8 = .pointer (some ⟨b,0,none⟩)∧Box W b Z0∧W0.heap.size≤b
 h6 : l6 = true→∃ b,t9 = .pointer (some ⟨b,0,none⟩)∧Box W b Z0∧W0.heap.size≤b
 ne : l5 = true→l6 = true→t8≠t9
 c1 : l1 = true→l0 = true
 c3 : l3 = true→l2 = true
 c4 : l4 = true→l1 = true∧l3 = true
section
variable {W0 : World} {v : Value} {q : Ar} {O1 O2 Z0 : List Value} {l0 l1 l2 l3 l4 l5 l6 : Bool} {t23 t24 t25 t26 t27 t8 t9 : Value} {W W' : World}
theorem MapInv.grew (h : MapInv W0 v q O1 O2 Z0 l0 l1 l2 l3 l4 l5 l6 t23 t24 t25 t26 t27 t8 t9 W) (k : Grew W W') : MapInv W0 v q O1 O2 Z0 l0 l1 l2 l3 l4 l5 l6 t23 t24 t25 t26 t27 t8 t9 W' :=
 ⟨h.g.trans k,h.h0,h.h1,h.h2,fun e=>(h.h3 e).grew k,h.h4,fun e=>by obtain ⟨b,x,y,z⟩:=h.h5 e; exact ⟨b,x,y.grew k,z⟩,fun e=>by obtain ⟨b,x,y,z⟩:=h.h6 e; exact ⟨b,x,y.grew k,z⟩,h.ne,h.c1,h.c3,h.c4⟩
def mapLeft (l0 l1 l2 l3 l4 l5 l6 : Bool) : Nat:=(!l0).toNat + (!l1).toNat + (!l2).toNat + (!l3).toNat + (!l4).toNat + (!l5).toNat + (!l6).toNat
theorem map_region {id : Nat} {Q : Exit→Act→World→Prop} {pa : Nat} {l : List Ar} (A : Value→Value→Value→Value→Value→Value→Value→Act)
  (e0 : ∀ x23 x24 x25 x26 x27 x8 x9,(A x23 x24 x25 x26 x27 x8 x9).eval (.tmp 0) = v) (e3 : ∀ x23 x24 x25 x26 x27 x8 x9,(A x23 x24 x25 x26 x27 x8 x9).eval (.tmp 3) = .pointer (some ⟨pa,0,none⟩))
  (e23 : ∀ x23 x24 x25 x26 x27 x8 x9,(A x23 x24 x25 x26 x27 x8 x9).eval (.tmp 23) = x23) (e24 : ∀ x23 x24 x25 x26 x27 x8 x9,(A x23 x24 x25 x26 x27 x8 x9).eval (.tmp 24) = x24) (e25 : ∀ x23 x24 x25 x26 x27 x8 x9,(A x23 x24 x25 x26 x27 x8 x9).eval (.tmp 25) = x25) (e26 : ∀ x23 x24 x25 x26 x27 x8 x9,(A x23 x24 x25 x26 x27 x8 x9).eval (.tmp 26) = x26) (e27 : ∀ x23 x24 x25 x26 x27 x8 x9,(A x23 x24 x25 x26 x27 x8 x9).eval (.tmp 27) = x27) (e8 : ∀ x23 x24 x25 x26 x27 x8 x9,(A x23 x24 x25 x26 x27 x8 x9).eval (.tmp 8) = x8) (e9 : ∀ x23 x24 x25 x26 x27 x8 x9,(A x23 x24 x25 x26 x27 x8 x9).eval (.tmp 9) = x9)
  (p23 : ∀ x23 x24 x25 x26 x27 x8 x9 y,(A x23 x24 x25 x26 x27 x8 x9).put (some 23) y = A y x24 x25 x26 x27 x8 x9) (p24 : ∀ x23 x24 x25 x26 x27 x8 x9 y,(A x23 x24 x25 x26 x27 x8 x9).put (some 24) y = A x23 y x25 x26 x27 x8 x9) (p25 : ∀ x23 x24 x25 x26 x27 x8 x9 y,(A x23 x24 x25 x26 x27 x8 x9).put (some 25) y = A x23 x24 y x26 x27 x8 x9) (p26 : ∀ x23 x24 x25 x26 x27 x8 x9 y,(A x23 x24 x25 x26 x27 x8 x9).put (some 26) y = A x23 x24 x25 y x27 x8 x9) (p27 : ∀ x23 x24 x25 x26 x27 x8 x9 y,(A x23 x24 x25 x26 x27 x8 x9).put (some 27) y = A x23 x24 x25 x26 y x8 x9) (p8 : ∀ x23 x24 x25 x26 x27 x8 x9 y,(A x23 x24 x25 x26 x27 x8 x9).put (some 8) y = A x23 x24 x25 x26 x27 y x9) (p9 : ∀ x23 x24 x25 x26 x27 x8 x9 y,(A x23 x24 x25 x26 x27 x8 x9).put (some 9) y = A x23 x24 x25 x26 x27 x8 y)
  (pn : ∀ x23 x24 x25 x26 x27 x8 x9 y,(A x23 x24 x25 x26 x27 x8 x9).put none y = A x23 x24 x25 x26 x27 x8 x9)
  (hv : RowAt arE W0 v l) (hl : Lies l) (ha : ArOk q) (hb : Box W0 pa (arv q))
  (hQ : ∀ W b8 b9 x26,b8≠b9→Grew W0 W→Box W b8 (cellsO (tab (onAt l)))→Box W b9 (cellsO (tab (onAt [q])))→W0.heap.size≤b8→W0.heap.size≤b9→Q .normal (A v (.agg (cellsO (tab (onAt l))).toArray) (arA q) x26 (.agg (cellsO (tab (onAt [q]))).toArray) (.pointer (some ⟨b8,0,none⟩)) (.pointer (some ⟨b9,0,none⟩))) W)
  (x23 x24 x25 x26 x27 x8 x9 : Value) : (Code.region id mapOps.toArray true).wp Tryz.prog Q (A x23 x24 x25 x26 x27 x8 x9) W0:=by
 have hO1 : (cellsO (tab (onAt l))).length = 384:=tabO_len _;have hO2 : (cellsO (tab (onAt [q]))).length = 384:=tabO_len _;have hZ : (cellsO (tab fun _=>on0)).length = 384:=tabO_len _
 have hc1 : ∀ W,Grew W0 W→Calls Tryz.prog 26 #[v] W fun e w'=>e = .returned (.agg (cellsO (tab (onAt l))).toArray)∧Grew W w':=fun W hW=>refOnes_any v l W (hv.grew hW) hl
 have hc2 : ∀ W u,RowAt arE W u [q]→Calls Tryz.prog 26 #[u] W fun e w'=>e = .returned (.agg (cellsO (tab (onAt [q]))).toArray)∧Grew W w':=fun W u hu=>refOnes_any u [q] W hu (lies_one ha)
 have hn1:=cellsO_one (tab (onAt l));have hn2:=cellsO_one (tab (onAt [q]));have hal : ∀ W : World,Box (W.alloc (.cells (cellsO (tab fun _=>on0)).toArray 83)) W.heap.size (cellsO (tab fun _=>on0)):=fun W=>Box.top _ _ _ rfl
 generalize cellsO (tab (onAt l)) = O1 at *
 generalize cellsO (tab (onAt [q])) = O2 at *
 have main : ∀ (n : Nat) (l0 l1 l2 l3 l4 l5 l6 : Bool) (x23 x24 x25 x26 x27 x8 x9 : Value) (W : World),mapLeft l0 l1 l2 l3 l4 l5 l6 = n→MapInv W0 v q O1 O2 (cellsO (tab fun _=>on0)) l0 l1 l2 l3 l4 l5 l6 x23 x24 x25 x26 x27 x8 x9 W→wpAnyH Tryz.prog .any mapOps.toArray Q (fun _=>True) (n + 2) #[l0,l1,l2,l3,l4,l5,l6,false,false] (A x23 x24 x25 x26 x27 x8 x9) W:=by
  intro n
  induction n with
  | zero =>
   intro l0 l1 l2 l3 l4 l5 l6 x23 x24 x25 x26 x27 x8 x9 W hcnt inv;obtain ⟨rfl,rfl,rfl,rfl,rfl,rfl,rfl⟩ : l0 = true∧l1 = true∧l2 = true∧l3 = true∧l4 = true∧l5 = true∧l6 = true:=by
    revert hcnt
    unfold mapLeft
    cases l0 <;> cases l1 <;> cases l2 <;> cases l3 <;> cases l4 <;> cases l5 <;> cases l6 <;> simp
   obtain ⟨b8,rfl,hb8,hs8⟩:=inv.h5 rfl;obtain ⟨b9,rfl,hb9,hs9⟩:=inv.h6 rfl;have hne : b8≠b9:=fun e=>inv.ne rfl rfl (by rw [e])
   obtain rfl:=inv.h0 rfl;obtain rfl:=inv.h1 rfl;obtain rfl:=inv.h2 rfl;obtain rfl:=inv.h4 rfl;refine wpAnyH_all (rs:=[7]) (by kernel_rfl) (by simp) ?_
   intro j hj;rw [List.mem_singleton] at hj;subst hj;refine wpOp_does none (fun _ w'=>Box w' b8 O1∧Box w' b9 (cellsO (tab fun _=>on0))∧Grew W0 w') rfl rfl rfl (Does.storeAll 83 (.tmp 8) (.tmp 24) rfl b8 (e8 ..) O1 (e24 ..) hb8 (by rw [hO1,hZ]) (by rw [hZ]; exact Tryz.sizeOnes) hn1 (fun w' b' g' s'=>⟨b',hb9.grown g' (fun e=>hne e.symm),grew_grown inv.g g' hs8⟩)) ?_
   rintro y W1 ⟨h1,h2,h3⟩;rw [pn];refine ⟨trivial,?_⟩;refine wpAnyH_all (rs:=[8]) (by kernel_rfl) (by simp) ?_
   intro j hj;rw [List.mem_singleton] at hj;subst hj;refine wpOp_does none (fun _ w'=>Box w' b8 O1∧Box w' b9 O2∧Grew W0 w') rfl rfl rfl (Does.storeAll 83 (.tmp 9) (.tmp 27) rfl b9 (e9 ..) O2 (e27 ..) h2 (by rw [hO2,hZ]) (by rw [hZ]; exact Tryz.sizeOnes) hn2 (fun w' b' g' s'=>⟨h1.grown g' hne,b',grew_grown h3 g' hs9⟩)) ?_
   rintro y W2 ⟨h4,h5,h6⟩;rw [pn];refine ⟨trivial,?_⟩;exact wpAnyH_done (by kernel_rfl) (hQ W2 b8 b9 _ hne h6 h4 h5 hs8 hs9) _
  | succ n ih =>
   intro l0 l1 l2 l3 l4 l5 l6 x23 x24 x25 x26 x27 x8 x9 W hcnt inv;refine ⟨fun h0=>?_,fun i hi=>?_⟩
   ·rcases map_some l0 l1 l2 l3 l4 l5 l6 with h | ⟨h,h'⟩ | ⟨h,h'⟩ | ⟨h,h'⟩
    ·rw [h0] at h; cases h
    ·have:=inv.c4 h
     rcases h' with h' | h'
     ·rw [this.1] at h'; cases h'
     ·rw [this.2] at h'; cases h'
    ·rw [inv.c1 h] at h'; cases h'
    ·rw [inv.c3 h] at h'; cases h'
   ·rcases map_next l0 l1 l2 l3 l4 l5 l6 i inv.c1 inv.c3 inv.c4 hi with ⟨rfl,rfl⟩ | ⟨rfl,rfl,rfl⟩ | ⟨rfl,rfl⟩ | ⟨rfl,rfl,rfl⟩ | ⟨rfl,rfl,rfl,rfl⟩ | ⟨rfl,rfl⟩ | ⟨rfl,rfl⟩ | ⟨rfl,rfl,rfl,rfl,rfl,rfl,rfl,rfl⟩
    ·refine wpOp_does (some 23) (fun y w'=>y = v∧w' = W) rfl rfl rfl (Does.val (v:=v) (by rw [←e0 x23 x24 x25 x26 x27 x8 x9]; rfl) ⟨rfl,rfl⟩) ?_
     rintro y w' ⟨rfl,rfl⟩;rw [p23];refine ⟨trivial,ih true l1 l2 l3 l4 l5 l6 _ _ _ _ _ _ _ _ (by unfold mapLeft at hcnt ⊢; simp at hcnt ⊢; omega) ⟨inv.g,fun _=>rfl,inv.h1,inv.h2,inv.h3,inv.h4,inv.h5,inv.h6,inv.ne,fun _=>rfl,inv.c3,inv.c4⟩⟩
    ·refine wpOp_does (some 24) (fun y w'=>y = .agg O1.toArray∧Grew W w') rfl rfl rfl (Does.call [v] rfl Tryz.func26 rfl rfl (by rw [List.map_cons,List.map_nil,e23,inv.h0 rfl]) ((hc1 W inv.g).mono (fun e w' h=>⟨_,h.1,rfl,h.2⟩))) ?_
     rintro y w' ⟨rfl,hg⟩;rw [p24];have inv':=inv.grew hg;refine ⟨trivial,ih true true l2 l3 l4 l5 l6 _ _ _ _ _ _ _ _ (by unfold mapLeft at hcnt ⊢; simp at hcnt ⊢; omega) ⟨inv'.g,inv'.h0,fun _=>rfl,inv'.h2,inv'.h3,inv'.h4,inv'.h5,inv'.h6,inv'.ne,fun _=>rfl,inv'.c3,fun h=>⟨rfl,(inv'.c4 h).2⟩⟩⟩
    ·refine wpOp_does (some 25) (fun y w'=>y = arA q∧w' = W) rfl rfl rfl (Does.val (v:=arA q) (run_loadA (.tmp 3) rfl pa (e3 ..) (hb.grew inv.g)) ⟨rfl,rfl⟩) ?_
     rintro y w' ⟨rfl,rfl⟩;rw [p25];refine ⟨trivial,ih l0 l1 true l3 l4 l5 l6 _ _ _ _ _ _ _ _ (by unfold mapLeft at hcnt ⊢; simp at hcnt ⊢; omega) ⟨inv.g,inv.h0,inv.h1,fun _=>rfl,inv.h3,inv.h4,inv.h5,inv.h6,inv.ne,inv.c1,fun _=>rfl,inv.c4⟩⟩
    ·refine wpOp_does (some 26) (fun y w'=>RowAt arE w' y [q]∧Grew W w') rfl rfl rfl (Does.oneArea (.tmp 25) rfl q (by rw [e25,inv.h2 rfl]) ⟨one_row arE W q _ _ rfl (by show 40≤_; omega),grew_alloc _ _⟩) ?_
     rintro y w' ⟨hr,hg⟩;rw [p26];have inv':=inv.grew hg;refine ⟨trivial,ih l0 l1 true true l4 l5 l6 _ _ _ _ _ _ _ _ (by unfold mapLeft at hcnt ⊢; simp at hcnt ⊢; omega) ⟨inv'.g,inv'.h0,inv'.h1,inv'.h2,fun _=>hr,inv'.h4,inv'.h5,inv'.h6,inv'.ne,inv'.c1,fun _=>rfl,fun h=>⟨(inv'.c4 h).1,rfl⟩⟩⟩
    ·refine wpOp_does (some 27) (fun y w'=>y = .agg O2.toArray∧Grew W w') rfl rfl rfl (Does.call [x26] rfl Tryz.func26 rfl rfl (by rw [List.map_cons,List.map_nil,e26]) ((hc2 W x26 (inv.h3 rfl)).mono (fun e w' h=>⟨_,h.1,rfl,h.2⟩))) ?_
     rintro y w' ⟨rfl,hg⟩;rw [p27];have inv':=inv.grew hg;refine ⟨trivial,ih l0 true l2 true true l5 l6 _ _ _ _ _ _ _ _ (by unfold mapLeft at hcnt ⊢; simp at hcnt ⊢; omega) ⟨inv'.g,inv'.h0,inv'.h1,inv'.h2,inv'.h3,fun _=>rfl,inv'.h5,inv'.h6,inv'.ne,inv'.c1,inv'.c3,fun _=>⟨rfl,rfl⟩⟩⟩
    ·refine wpOp_does (some 8) (fun y w'=>y = .pointer (some ⟨W.heap.size,0,none⟩)∧Box w' W.heap.size (cellsO (tab fun _=>on0))∧Grew W w') rfl rfl rfl (Does.allocOnes rfl ⟨rfl,hal W,grew_alloc _ _⟩) ?_
     rintro y w' ⟨rfl,hbx,hg⟩;rw [p8];have inv':=inv.grew hg;refine ⟨trivial,ih l0 l1 l2 l3 l4 true l6 _ _ _ _ _ _ _ _ (by unfold mapLeft at hcnt ⊢; simp at hcnt ⊢; omega) ⟨inv'.g,inv'.h0,inv'.h1,inv'.h2,inv'.h3,inv'.h4,fun _=>⟨_,rfl,hbx,Below.size inv.g⟩,inv'.h6,fun _ h6=>?_,inv'.c1,inv'.c3,inv'.c4⟩⟩
     obtain ⟨b,rfl,h2,_⟩:=inv.h6 h6;intro e;cases e;exact absurd h2.lt (Nat.lt_irrefl _)
    ·refine wpOp_does (some 9) (fun y w'=>y = .pointer (some ⟨W.heap.size,0,none⟩)∧Box w' W.heap.size (cellsO (tab fun _=>on0))∧Grew W w') rfl rfl rfl (Does.allocOnes rfl ⟨rfl,hal W,grew_alloc _ _⟩) ?_
     rintro y w' ⟨rfl,hbx,hg⟩;rw [p9];have inv':=inv.grew hg;refine ⟨trivial,ih l0 l1 l2 l3 l4 l5 true _ _ _ _ _ _ _ _ (by unfold mapLeft at hcnt ⊢; simp at hcnt ⊢; omega) ⟨inv'.g,inv'.h0,inv'.h1,inv'.h2,inv'.h3,inv'.h4,inv'.h5,fun _=>⟨_,rfl,hbx,Below.size inv.g⟩,fun h5 _=>?_,inv'.c1,inv'.c3,inv'.c4⟩⟩
     obtain ⟨b,rfl,h2,_⟩:=inv.h5 h5;intro e;cases e;exact absurd h2.lt (Nat.lt_irrefl _)
    ·unfold mapLeft at hcnt
     simp at hcnt
 refine wp_region_held (S:=fun _=>True) mixed ?_
 have hd : Grew W0 { W0 with drawn:=W0.drawn + 1 }:=show Below _ _ _ from Below.drew (Below.refl _ _)
 exact main 7 false false false false false false false x23 x24 x25 x26 x27 x8 x9 _ rfl ⟨hd,fun h=>(by cases h),fun h=>(by cases h),fun h=>(by cases h),fun h=>(by cases h),fun h=>(by cases h),fun h=>(by cases h),fun h=>(by cases h),fun h=>(by cases h),fun h=>(by cases h),fun h=>(by cases h),fun h=>(by cases h)⟩
end
def Gives (R : List Ar × Int) (w : World) (e : Ending) (w' : World) : Prop:=(∃ u,e = .returned (.tuple #[u,.int .i64 R.2])∧OwnRow arE w.heap.size w' u R.1)∧Grew w w'
def curF (l : List Ar) (a : Ar) (k : Nat) : Nat→On:=fun j=>if j < k∧arIn a j = true then oneOf a j else onAt l j
theorem cur_zero (l : List Ar) (a : Ar) : curF l a 0 = onAt l:=by
 funext j
 unfold curF;rw [if_neg (by omega)]
theorem cur_at (l : List Ar) (a : Ar) (k : Nat) : curF l a k k = onAt l k:=by
 unfold curF;rw [if_neg (by omega)]
theorem cur_set {l : List Ar} {a : Ar} {k : Nat} (h : arIn a k = true) : upd (curF l a k) k (oneOf a k) = curF l a (k + 1):=by
 funext j
 unfold upd curF
 by_cases e : j = k
 ·subst e;rw [if_pos rfl,if_pos ⟨by omega,h⟩]
 ·rw [if_neg e]
  by_cases h1 : j < k∧arIn a j = true
  ·rw [if_pos h1,if_pos ⟨by omega,h1.2⟩]
  ·rw [if_neg h1,if_neg (fun h2=>h1 ⟨by omega,h2.2⟩)]
theorem cur_skip {l : List Ar} {a : Ar} {k : Nat} (h : arIn a k = false) : curF l a k = curF l a (k + 1):=by
 funext j
 unfold curF
 by_cases h1 : j < k∧arIn a j = true
 ·rw [if_pos h1,if_pos ⟨by omega,h1.2⟩]
 ·rw [if_neg h1]
  by_cases h2 : j < k + 1∧arIn a j = true
  ·have : j = k:=by
    rcases Nat.lt_or_ge j k with h3 | h3
    ·exact absurd ⟨h3,h2.2⟩ h1
    ·omega
   rw [this,h] at h2
   cases h2.2
  ·rw [if_neg h2]
theorem cur_all (l : List Ar) (a : Ar) : tab (curF l a 64) = tab (mapF l a):=tab_ext fun k hk=>by
 unfold curF mapF
 by_cases h : arIn a k = true
 ·rw [if_pos ⟨hk,h⟩,if_pos h]
 ·rw [if_neg (fun h1=>h h1.2),if_neg h]
theorem on_one (a : Ar) (k : Nat) : onAt [a] k = if arIn a k = true then oneOf a k else on0:=rfl
theorem on_one_is (a : Ar) (k : Nat) : (onAt [a] k).is = arIn a k:=by
 rw [on_one]
 cases h : arIn a k with
 | true=>rfl
 | false=>rfl
theorem hit_in {l : List Ar} {a : Ar} {k : Nat} (hk : k < 64) (h : arIn a k = true) (h' : (onAt l k).is = true) : hitB l a.fr (a.tz - a.fr) = true:=hitB_iff.2 ⟨k,hk,by have:=arIn_iff.1 h; omega,h'⟩
theorem hit_none {l : List Ar} {a : Ar} (h : ∀ k,k < 64→arIn a k = true→(onAt l k).is = false) : hitB l a.fr (a.tz - a.fr) = false:=hitB_no.2 fun k hk hw=>h k hk (arIn_iff.2 (by omega))
theorem refMap_any (v : Value) (l : List Ar) (a : Ar) (w : World) (hv : RowAt arE w v l) (hcap : Cap v) :
  Calls Tryz.prog 75 #[v,.agg #[.int .i64 a.fr,.int .i64 a.tz,.bool a.rd,.bool a.wr,.bool a.sh,.int .i64 a.file,.int .i64 a.base]] w (Gives (mapA l a) w):=by
 have HV : Hid (RowAt arE w v l):=hv;have HW : Hid (∀ W,Grew w W→Calls Tryz.prog 93 #[v] W fun e w'=>e = .returned (.agg #[.int .i64 (wrL l).1,.int .i64 (wrL l).2])∧Grew W w'):=fun W hW=>refWrongAr_any v l W (HV.out.grew hW) hcap
 have HWA : Hid (∀ W,Calls Tryz.prog 117 #[.agg #[.int .i64 a.fr,.int .i64 a.tz,.bool a.rd,.bool a.wr,.bool a.sh,.int .i64 a.file,.int .i64 a.base]] W fun e w'=>e = .returned (.int .i64 (arW a))∧Grew W w'):=fun W=>refWrongArea_any a W
 clear hv hcap;obtain ⟨W0,hW0⟩ : ∃ W0,w.alloc (.cells #[.int .i64 a.fr,.int .i64 a.tz,.bool a.rd,.bool a.wr,.bool a.sh,.int .i64 a.file,.int .i64 a.base] 69) = W0:=⟨_,rfl⟩;have G0 : Hid (Grew w W0):=show Grew w W0 by rw [←hW0]; exact grew_alloc _ _
 have X0 : Hid (Box W0 w.heap.size [.int .i64 a.fr,.int .i64 a.tz,.bool a.rd,.bool a.wr,.bool a.sh,.int .i64 a.file,.int .i64 a.base]):=show Box _ _ _ by rw [←hW0]; exact Box.top w _ _ rfl
 have HW0 : Hid (_ = W0):=hW0;clear hW0
 by_cases hz : (wrL l).1 = 0
 ·rw [hz] at HW
  generalize (wrL l).2 = I at HW
  by_cases hza : arW a = 0
  ·rw [hza] at HWA;have HL : Hid (l.length≤16∧CanP none l):=wrL_zero.1 hz;have HA : Hid (ArOk a):=arW_zero.1 hza;have HR0 : Hid (mapA l a = if hitB l a.fr (a.tz - a.fr) = true then ([],6) else fewL (mapF l a)):=show _ = _ by unfold mapA; rw [if_neg (fun h=>h hz),if_neg (fun h=>h hza)]
   have HFEW : Hid (∀ W,Calls Tryz.prog 118 #[.agg (cellsO (tab (curF l a 64))).toArray] W fun e w'=>(∃ u,e = .returned (.tuple #[u,.int .i64 (fewL (mapF l a)).2])∧OwnRow arE W.heap.size w' u (fewL (mapF l a)).1)∧Grew W w'):=fun W=>by
    rw [cur_all];exact refFew_any (mapF l a) W (mapF_good HL.out.2 HA.out)
   clear hz hza
   go_enter Tryz.func75,Tryz.ntmps75
   go_upto_region 1 with fail;rw [HW0.out];go_wp2_with fail;refine (HW.out W0 G0.out).mono ?_;rintro e W1 ⟨rfl,g⟩;have G1 : Hid (Grew w W1):=G0.out.trans g;have X1 : Hid (Box W1 w.heap.size [.int .i64 a.fr,.int .i64 a.tz,.bool a.rd,.bool a.wr,.bool a.sh,.int .i64 a.file,.int .i64 a.base]):=X0.out.grew g;clear g;obtain ⟨pf,HPF⟩ : ∃ pf,Hid (W1.heap.size = pf):=⟨_,rfl⟩;go_upto_region 2 with fail;obtain ⟨W2,hWf⟩ : ∃ W2,W1.alloc (.cells #[.int .i64 0,.int .i64 I] 164) = W2:=⟨_,rfl⟩;have G2 : Hid (Grew w W2):=show Grew _ _ by rw [←hWf]; exact G1.out.trans (grew_alloc _ _)
   have F2 : Hid (Box W2 pf [.int .i64 0,.int .i64 I]):=show Box _ _ _ by rw [←hWf]; exact Box.top _ _ _ HPF.out.symm
   have X2 : Hid (Box W2 w.heap.size [.int .i64 a.fr,.int .i64 a.tz,.bool a.rd,.bool a.wr,.bool a.sh,.int .i64 a.file,.int .i64 a.base]):=show Box _ _ _ by rw [←hWf]; exact X1.out.alloc _
   rw [hWf,HPF.out];clear hWf;have f0:=F2.out.c 0 rfl
   go_wp2_with (refine wp_loadAll rfl 69 (.tmp 3) rfl w.heap.size rfl X2.out Tryz.underlying69 rfl Tryz.sizeArea ?_)
   refine (HWA.out W2).mono ?_;rintro e W3 ⟨rfl,g⟩;have G3 : Hid (Grew w W3):=G2.out.trans g;have X3 : Hid (Box W3 w.heap.size (arv a)):=X2.out.grew g;clear g f0;go_upto_region 7 with fail;refine map_region (v:=v) (q:=a) (pa:=w.heap.size) (l:=l) (fun x23 x24 x25 x26 x27 x8 x9=>⟨#[_,_,_,_,_,_,_,_,x8,x9,_,_,_,_,_,_,_,_,_,_,_,_,_,x23,x24,x25,x26,x27,_,_,_,_,_,_,_,_,_,_,_,_,_,_,_,_,_,_,_,_,_,_,_,_,_,_,_],[]⟩) (fun _ _ _ _ _ _ _=>rfl) (fun _ _ _ _ _ _ _=>rfl) (fun _ _ _ _ _ _ _=>rfl) (fun _ _ _ _ _ _ _=>rfl) (fun _ _ _ _ _ _ _=>rfl) (fun _ _ _ _ _ _ _=>rfl) (fun _ _ _ _ _ _ _=>rfl) (fun _ _ _ _ _ _ _=>rfl) (fun _ _ _ _ _ _ _=>rfl) (fun _ _ _ _ _ _ _ _=>rfl) (fun _ _ _ _ _ _ _ _=>rfl) (fun _ _ _ _ _ _ _ _=>rfl) (fun _ _ _ _ _ _ _ _=>rfl) (fun _ _ _ _ _ _ _ _=>rfl) (fun _ _ _ _ _ _ _ _=>rfl) (fun _ _ _ _ _ _ _ _=>rfl) (fun _ _ _ _ _ _ _ _=>rfl) (HV.out.grew G3.out) HL.out.2.lies HA.out X3.out ?_ _ _ _ _ _ _ _
   intro W4 b8 b9 x26 hbne g4 hb8 hb9 hs8 hs9;have G4 : Hid (Grew w W4):=G3.out.trans g4;have B8 : Hid (Box W4 b8 (cellsO (tab (curF l a 0)))):=show Box _ _ _ by rw [cur_zero]; exact hb8
   have B9 : Hid (Box W4 b9 (cellsO (tab (onAt [a])))):=hb9;have HS8 : Hid (w.heap.size≤b8):=Nat.le_trans (Below.size G3.out) hs8;have hbne' : b9≠b8:=fun e=>hbne e.symm
   have HNE : Hid (b9≠b8):=hbne';clear g4 hb8 hb9 hs8 hs9;go_wp2
   go_loopg [28] 64 (fun gg s28 wr=>∃ kk : Nat,kk≤64∧64 - kk≤gg∧s28 = .int .i64 kk∧Hid (Grew w wr)∧Hid (Box wr b8 (cellsO (tab (curF l a kk))))∧Hid (Box wr b9 (cellsO (tab (onAt [a]))))∧Hid (∀ j : Nat,j < kk→arIn a j = true→(onAt l j).is = false))
   case atStart=>exact ⟨0,Nat.zero_le _,by omega,rfl,G4.out,B8.out,B9.out,fun j hj=>absurd hj (Nat.not_lt_zero _)⟩
   case round =>
    obtain ⟨kk,hkk,hg,rfl,BW,LW,RW,HH⟩:=hrel
    by_cases hlt : kk < 64
    ·have hltz : (kk : Int) < 64:=by omega
     have d8:=LW.out.c (kk * 6) (cellsO_at (tab_at hlt) 0 (.bool (onAt l kk).is) (by rw [cur_at]; rfl))
     have d9:=RW.out.c (kk * 6) (cellsO_at (tab_at hlt) 0 (.bool (arIn a kk)) (by rw [←on_one_is]; rfl))
     cases hin : arIn a kk with
     | true =>
      cases his : (onAt l kk).is with
      | true =>
       have HR : Hid (mapA l a = ([],6)):=show _ = _ by rw [HR0.out,hit_in hlt hin his,if_pos rfl]
       rw [his] at d8;rw [hin] at d9;clear hin his;go_wp2;refine bodyPost_ret (results_tmp2 rfl _ _ _) rfl ?_;rw [HR.out];exact ⟨⟨_,rfl,OwnRow.nil _ _ _⟩,BW.out⟩
      | false =>
       have HST : Hid (upd (curF l a kk) kk (oneOf a kk) = curF l a (kk + 1)):=cur_set hin;have HON : Hid (onAt [a] kk = oneOf a kk):=show _ = _ by rw [on_one,if_pos hin]
       have HH2 : Hid (∀ j : Nat,j < kk + 1→arIn a j = true→(onAt l j).is = false):=show ∀ j : Nat,_ from fun j hj h=>by
        by_cases e : j = kk
        ·rw [e]; exact his
        ·exact HH.out j (by omega) h
       rw [his] at d8;rw [hin] at d9;clear hin his;have HLV : Hid (Value.agg (onv (onAt [a] kk)).toArray = .agg (onv (oneOf a kk)).toArray):=show _ = _ by rw [HON.out]
       go_wp2_with (first | refine wp_loadOnv rfl (.tmp 47) rfl b9 kk hlt rfl RW.out HLV.out ?_ | refine wp_storeOn rfl (.tmp 49) (.tmp 48) rfl b8 kk hlt rfl (oneOf a kk) rfl LW.out ?_)
       intro W5 b5 g5 s5;have L5 : Hid (Box W5 b8 (cellsO (tab (curF l a (kk + 1))))):=show Box _ _ _ by rw [←HST.out]; exact b5
       have R5 : Hid (Box W5 b9 (cellsO (tab (onAt [a])))):=RW.out.grown g5 HNE.out;have G5 : Hid (Grew w W5):=grew_grown BW.out g5 HS8.out;clear b5 g5 s5 d8 d9;go_wp2
       go_roundg (64 - (kk + 1))
       case measure=>omega
       case rel=>exact ⟨kk + 1,by omega,by omega,by go_num,G5.out,L5.out,R5.out,HH2.out⟩
     | false =>
      have L5 : Hid (Box wr b8 (cellsO (tab (curF l a (kk + 1))))):=show Box _ _ _ by rw [←cur_skip hin]; exact LW.out
      have HH2 : Hid (∀ j : Nat,j < kk + 1→arIn a j = true→(onAt l j).is = false):=show ∀ j : Nat,_ from fun j hj h=>by
       by_cases e : j = kk
       ·rw [e,hin] at h; cases h
       ·exact HH.out j (by omega) h
      rw [hin] at d9;clear hin
      cases his : (onAt l kk).is with
      | true =>
       rw [his] at d8;clear his;go_wp2
       go_roundg (64 - (kk + 1))
       case measure=>omega
       case rel=>exact ⟨kk + 1,by omega,by omega,by go_num,BW.out,L5.out,RW.out,HH2.out⟩
      | false =>
       rw [his] at d8;clear his;go_wp2
       go_roundg (64 - (kk + 1))
       case measure=>omega
       case rel=>exact ⟨kk + 1,by omega,by omega,by go_num,BW.out,L5.out,RW.out,HH2.out⟩
    ·have hltz : ¬ (kk : Int) < 64:=by omega
     have : kk = 64:=by omega
     subst this;have HR : Hid (mapA l a = fewL (mapF l a)):=show _ = _ by rw [HR0.out,hit_none HH.out,if_neg (by decide)]
     have HCL : Hid ((cellsO (tab (curF l a 64))).length = 384):=tabO_len _
     go_wp2_with (refine wp_loadAll rfl 83 (.tmp 8) rfl b8 rfl LW.out Tryz.underlying83 rfl (by rw [HCL.out]; exact Tryz.sizeOnes) ?_)
     refine (HFEW.out wr).mono ?_;rintro e W6 ⟨⟨u,rfl,ow⟩,g6⟩;have G6 : Hid (Grew w W6):=BW.out.trans g6;have O6 : Hid (OwnRow arE w.heap.size W6 u (fewL (mapF l a)).1):=ow.base (Below.size BW.out);clear g6 ow;go_wp2;refine bodyPost_ret (results_tmp2 rfl _ _ _) rfl ?_;rw [HR.out];exact ⟨⟨_,rfl,O6.out⟩,G6.out⟩
  ·have hzb : (arW a != 0) = true:=by simp [hza]
   have HR : Hid (mapA l a = ([],arW a)):=show _ = _ by unfold mapA; rw [if_neg (fun h=>h hz),if_pos hza]
   clear hz hza
   generalize arW a = E at *
   go_enter Tryz.func75,Tryz.ntmps75
   go_upto_region 1 with fail;rw [HW0.out];go_wp2_with fail;refine (HW.out W0 G0.out).mono ?_;rintro e W1 ⟨rfl,g⟩;have G1 : Hid (Grew w W1):=G0.out.trans g;have X1 : Hid (Box W1 w.heap.size [.int .i64 a.fr,.int .i64 a.tz,.bool a.rd,.bool a.wr,.bool a.sh,.int .i64 a.file,.int .i64 a.base]):=X0.out.grew g;clear g;obtain ⟨pf,HPF⟩ : ∃ pf,Hid (W1.heap.size = pf):=⟨_,rfl⟩;go_upto_region 2 with fail;obtain ⟨W2,hWf⟩ : ∃ W2,W1.alloc (.cells #[.int .i64 0,.int .i64 I] 164) = W2:=⟨_,rfl⟩;have G2 : Hid (Grew w W2):=show Grew _ _ by rw [←hWf]; exact G1.out.trans (grew_alloc _ _)
   have F2 : Hid (Box W2 pf [.int .i64 0,.int .i64 I]):=show Box _ _ _ by rw [←hWf]; exact Box.top _ _ _ HPF.out.symm
   have X2 : Hid (Box W2 w.heap.size [.int .i64 a.fr,.int .i64 a.tz,.bool a.rd,.bool a.wr,.bool a.sh,.int .i64 a.file,.int .i64 a.base]):=show Box _ _ _ by rw [←hWf]; exact X1.out.alloc _
   rw [hWf,HPF.out];clear hWf;have f0:=F2.out.c 0 rfl
   go_wp2_with (refine wp_loadAll rfl 69 (.tmp 3) rfl w.heap.size rfl X2.out Tryz.underlying69 rfl Tryz.sizeArea ?_)
   refine (HWA.out W2).mono ?_;rintro e W3 ⟨rfl,g⟩;have G3 : Hid (Grew w W3):=G2.out.trans g;clear g f0;go_wp2;refine bodyPost_ret (results_tmp2 rfl _ _ _) rfl ?_;rw [HR.out];exact ⟨⟨_,rfl,OwnRow.nil _ _ _⟩,G3.out⟩
 ·have hzb : ((wrL l).1 != 0) = true:=by simp [hz]
  have HR : Hid (mapA l a = ([],(wrL l).1)):=show _ = _ by unfold mapA; rw [if_pos hz]
  clear hz
  generalize (wrL l).2 = I at HW
  generalize (wrL l).1 = E at *
  go_enter Tryz.func75,Tryz.ntmps75
  go_upto_region 1 with fail;rw [HW0.out];go_wp2_with fail;refine (HW.out W0 G0.out).mono ?_;rintro e W1 ⟨rfl,g⟩;have G1 : Hid (Grew w W1):=G0.out.trans g;clear g;obtain ⟨pf,HPF⟩ : ∃ pf,Hid (W1.heap.size = pf):=⟨_,rfl⟩;go_upto_region 2 with fail;obtain ⟨W2,hWf⟩ : ∃ W2,W1.alloc (.cells #[.int .i64 E,.int .i64 I] 164) = W2:=⟨_,rfl⟩;have G2 : Hid (Grew w W2):=show Grew _ _ by rw [←hWf]; exact G1.out.trans (grew_alloc _ _)
  have F2 : Hid (Box W2 pf [.int .i64 E,.int .i64 I]):=show Box _ _ _ by rw [←hWf]; exact Box.top _ _ _ HPF.out.symm
  rw [hWf,HPF.out];clear hWf;have f0:=F2.out.c 0 rfl;go_upto_region 3 with fail;go_quiet (fail);obtain ⟨Wq,hWq⟩ : ∃ Wq,W2.drewN nq = Wq:=⟨_,rfl⟩;have Gq : Hid (Grew w Wq):=show Grew _ _ by rw [←hWq]; exact G2.out.trans (show Below _ _ _ from Go.below_drewN (Below.refl _ _) _)
  rw [hWq];clear hWq f0;go_wp2;refine bodyPost_ret (results_tmp2 rfl _ _ _) rfl ?_;rw [HR.out];exact ⟨⟨_,rfl,OwnRow.nil _ _ _⟩,Gq.out⟩
end
end Go.Proofs.YtjleclgecnndjaaGreat
