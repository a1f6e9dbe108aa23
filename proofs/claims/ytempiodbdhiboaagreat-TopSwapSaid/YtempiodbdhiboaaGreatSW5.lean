import Derived.Test.YtempiodbdhiboaaGreatSW4
import Derived.Deep.Cut
namespace Go.Proofs.YtempiodbdhiboaaGreat
open Go.Value renaming slice→O,int→Xe,bool→Xh,agg→Xi,pointer→Xj,tuple→Xm
open Go.IntKind renaming i64→Xf,u8→Xg
open Go.Obj renaming cells→Xk
open Go.Ending renaming returned→Xl
open Go renaming World→Xn,Calls→Xp,Value→Xq
open Go.RowKit renaming Hid→Xo
open Option renaming some→Xa,none→Xb
open Bool renaming true→Xc,false→Xd
open List renaming replicate→Xr
open _root_.List renaming mem_cons_self→Xs,mem_cons_of_mem→Xt,getElem?_cons_succ→Xu,ext_getElem?→Xw,getElem?_map→Xy,mem_filter→Xz,mem_map→Ya,getElem?_of_mem→Yb,getElem?_set→Yc,mem_range→Yd,length_map→Yf,flatMap_append→Yi,length_cons→Yk,countP_cons→Yl,nodup_cons→Ym,find?_eq_none→Yn,mem_or_eq_of_mem_set→Yo,mem_flatMap→Yp,take_of_length_le→Yq,length_nil→Yr,contains_iff_mem→Ys,getElem?_modify→Yt,getElem?_mapIdx→Yu,countP_eq_zero→Yv,map_congr_left→Yw,set_set→Yx,nodup_append→Yy,take_add_one→Yz
open _root_.Bool renaming and_eq_true→Xv
open Go.Sem renaming run_bind→Xx,run_pure→Yj
open Go.Addr renaming add_lit→Ye
open _root_.Nat renaming le_of_ble_eq_true→Yg
open Go.Act renaming put→Yh
set_option maxRecDepth 100000
set_option maxHeartbeats 4000000
section
theorem cont_frame {m:Ma} {k:Nat} {fr:Fr} (hk:k<m.fs.length) (hca:caGo m Xb m.ca=0) (hc:cachedN m.ca k≠0->fr.p=(frAt m k).p) (file idx:Int):contL { m with fs:=m.fs.set k fr } file idx=contL m file idx:=by
 obtain⟨a1,_,_⟩:=caGo_zero.1 hca;refine cont_same (m:=m) (m':={ m with fs:=m.fs.set k fr }) rfl rfl rfl rfl (fun c hcm=>?_) file idx
 rw[frAt_set hk c.fr (caE_ok (a1 c hcm)).1.2.2.2.2.1]
 by_cases e:c.fr=(k:Int)
 ·rw[if_pos e,e];exact hc (by have:=cached_pos hcm;rw[e]at this;exact this)
 rw[if_neg e]
theorem see_frame {m:Ma} {k:Nat} {fr:Fr} {x:On} {e:En} (hk:k<m.fs.length) (hca:caGo m Xb m.ca=0) (hc:cachedN m.ca k≠0->fr.p=(frAt m k).p) (h0:e.kind=1->0<=e.n) (he:e.kind=1->e.n=(k:Int)->fr.p=(frAt m k).p/\(fr.f<0↔(frAt m k).f<0)):seeE { m with fs:=m.fs.set k fr } x e=seeE m x e:=by
 refine see_same rfl rfl (fun h1=>?_) (fun _=>rfl) (fun _=>rfl) (cont_frame hk hca hc)
 rw[frAt_set hk e.n (h0 h1)]
 by_cases ek:e.n=(k:Int)
 ·rw[if_pos ek,ek];exact he h1 ek
 rw[if_neg ek];exact⟨rfl,Iff.rfl⟩
section
variable{m:Ma} {T:List (Nat->En)}
theorem see_free (h:BInv m T) {j:Nat} {f0 fr:Fr} (hj:m.fs[j]? =Xa f0) (h0:f0.r=0) {q n:Nat} {s:Sp} {g:Nat->En} (hg:T[q]? =Xa g) (hn:n<64):seeE { m with fs:=m.fs.set j fr } (onAt s.ars n) (g n)=seeE m (onAt s.ars n) (g n):=by
 obtain⟨z1,z2⟩:=h.free hj h0;refine see_frame (gS.1 hj).1 h.ca (fun h=>absurd z2 h) (fun h1=>?_) (fun h1 h2=>?_)
 ·have:=(enW_zero (h.en hg hn)).2.1;omega
 have:=held_of hg hn h1;rw[h2]at this;omega
theorem see_refs {k:Nat} {fr:Fr} {r:Int} {x:On} {e:En} (h:BInv m T) (hk:m.fs[k]? =Xa fr) (h0:e.kind=1->0<=e.n):seeE { m with fs:=m.fs.set k { fr with r:=r } } x e=seeE m x e:=by
 refine see_frame (gS.1 hk).1 h.ca (fun _=>by rw[frAt_of hk]) h0 (fun _ _=>by rw[frAt_of hk];exact⟨rfl,Iff.rfl⟩)
theorem see_letGo (h:BInv m T) {k p n:Nat} {fr:Fr} {f:Nat->En} (hk:m.fs[k]? =Xa fr) (hT:T[p]? =Xa f) (hn:n<64) (he:(f n).kind=1) (hen:(f n).n=(k:Int)) {q j:Nat} {s:Sp} {g:Nat->En} (hg:T[q]? =Xa g) (hj:j<64) (hne:q≠p\/j≠n):seeE { m with fs:=m.fs.set k (letGo fr) } (onAt s.ars j) (g j)=seeE m (onAt s.ars j) (g j):=by
 have hcf:=h.cf k fr hk;have hpos:1<=holdN T 1 k:=by
  have:=held_of hT hn he;rw[hen]at this;exact this
 have hgo:fr.r≠1->letGo fr={ fr with r:=fr.r - 1 }:=fun h=>by unfold letGo;rw[if_neg h]
 refine see_frame (gS.1 hk).1 h.ca (fun h1=>?_) (fun h1=>?_) (fun h1 h2=>?_)
 ·rw[hgo (by omega),frAt_of hk]
 ·have:=(enW_zero (h.en hg hj)).2.1;omega
 have h3:=hold_two hT hn (kind:=1) (k:=(k:Int)) (by simp[isE,he,hen]) hg hj (by simp[isE,h1,h2]) (by
  rcases hne with e | e
  ·exact .inl fun h=>e h.symm
  exact .inr fun h=>e h.symm) (by decide)
 rw[hgo (by omega),frAt_of hk]
 exact⟨rfl,Iff.rfl⟩
theorem cont_letGo (h:BInv m T) {k p n:Nat} {fr:Fr} {f:Nat->En} (hk:m.fs[k]? =Xa fr) (hT:T[p]? =Xa f) (hn:n<64) (he:(f n).kind=1) (hen:(f n).n=(k:Int)) (file idx:Int):contL { m with fs:=m.fs.set k (letGo fr) } file idx=contL m file idx:=by
 have hcf:=h.cf k fr hk;have hpos:1<=holdN T 1 k:=by
  have:=held_of hT hn he;rw[hen]at this;exact this
 refine cont_frame (gS.1 hk).1 h.ca (fun h1=>?_) file idx
 unfold letGo;rw[if_neg (by omega),frAt_of hk]
theorem cont_free (h:BInv m T) {j:Nat} {f0 fr:Fr} (hj:m.fs[j]? =Xa f0) (h0:f0.r=0) (file idx:Int):contL { m with fs:=m.fs.set j fr } file idx=contL m file idx:=cont_frame (gS.1 hj).1 h.ca (fun h1=>absurd (h.free hj h0).2 h1) file idx
end
structure Rt (m:Ma):Prop where
 w:maW m=0
 t8:∀s∈m.sp,s.tb.length=8
theorem Rt.inv {m:Ma} (h:Rt m):BInv m (flats m):=(right_inv h.w).1
theorem Rt.hand {m:Ma} (h:Rt m):0<=m.hand/\m.hand<max (m.fs.length:Int) 1:=(right_inv h.w).2
theorem Rt.tb {m:Ma} (h:Rt m) {s:Sp} (hs:s∈m.sp):TbOk s.tb:=by
 refine⟨h.t8 s hs,tbW_zero.1 ?_⟩;have h0:=h.w;unfold maW at h0;rw[firstE_zero]at h0;have h1:partE m=0:=h0 _ (by simp)
 unfold partE at h1;rw[firstE_zero]at h1;have p10:=firstE_zero.1 (h1 (firstE (m.sp.map spE)) (by simp)) (spE s) (Ya.2 ⟨s,hs,rfl⟩)
 unfold spE at p10
 split at p10
 ·rename_i a
  exact absurd p10 a
 split at p10
 ·rename_i a
  exact absurd p10 a
 rename_i a
 exact Classical.byContradiction a
theorem Rt.of {m:Ma} (hb:BInv m (flats m)) (ht:∀s∈m.sp,TbOk s.tb) (h0:0<=m.hand) (h1:m.hand<max (m.fs.length:Int) 1):Rt m:=by
 refine⟨?_,fun s hs=>(ht s hs).1⟩
 have:=hb.right h0 h1;rw[fin_self ht]at this;exact this
theorem flats_at {m:Ma} {p:Nat} {s:Sp} (h:m.sp[p]? =Xa s):(flats m)[p]? =Xa (flatN s):=by
 unfold flats;rw[Xy,h];rfl
theorem BInv.tabs {m:Ma} {T:List (Nat->En)} (h:BInv m T) {sp':List Sp} (hl:sp'.length=m.sp.length) (hs:∀(p:Nat) s s',m.sp[p]? =Xa s->sp'[p]? =Xa s'->s'.live=s.live/\s'.ars=s.ars):BInv { m with sp:=sp' } T:=by
 have back:∀(p:Nat) s',sp'[p]? =Xa s'->∃s,m.sp[p]? =Xa s/\s'.live=s.live/\s'.ars=s.ars:=fun p s' h'=>by
  have hp:p<m.sp.length:=by rw[<-hl];exact(gS.1 h').1
  exact⟨_,gE hp,hs p _ s' (gE hp) h'⟩
 refine⟨h.fs40,h.fok,h.sl60,h.sbl,h.sq,h.dok,h.st,h.cnt,h.blk,h.que,by show sp'.length<=4;rw[hl];exact h.spl,fun s' hs'=>?_,h.tl.trans hl.symm,?_,fun p s' f hs' hT n hn=>?_,h.cf,h.cs⟩
 ·obtain⟨p,hp⟩:=Yb hs';obtain⟨s,h1,h2,h3⟩:=back p s' hp;rw[h2,h3];exact h.spok s (mG h1)
 ·obtain⟨a1,a2,a3⟩:=caGo_zero.1 h.ca;exact caGo_zero.2 ⟨fun c hc=>a1 c hc,fun q c hq=>(by cases hq),a3⟩
 obtain⟨s,h1,h2,h3⟩:=back p s' hs';rw[h3];exact h.ent p s f h1 hT n hn
def putE (m:Ma) (p n:Nat) (e:En):Ma:={ m with sp:=m.sp.modify p fun s=>{ s with tb:=setT s.tb n e } }
theorem put_at {m:Ma} {p n:Nat} {e:En} {q:Nat}:(putE m p n e).sp[q]? =(m.sp[q]?).map fun s=>if p=q then{ s with tb:=setT s.tb n e }else s:=by
 unfold putE;simp only[Yt]
 by_cases h:p=q
 ·simp[h]
 simp[h]
theorem put_flat {s:Sp} (ht:TbOk s.tb) {n:Nat} (hn:n<64) {e:En} (he:enW e=0):flatN { s with tb:=setT s.tb n e }=updF (flatN s) n e:=by
 funext j
 unfold flatN updF;simp only;rw[getN_set ht hn he _ _ (Nat.mod_lt _ (by decide))]
 by_cases h:j=n
 ·rw[if_pos h,if_pos (by subst h;exact⟨rfl,rfl⟩)]
 rw[if_neg h,if_neg (fun k=>h (by omega))]
theorem flats_put {m:Ma} {p n:Nat} {e:En} {s:Sp} (hs:m.sp[p]? =Xa s) (ht:TbOk s.tb) (hn:n<64) (he:enW e=0):flats (putE m p n e)=(flats m).set p (updF (flatN s) n e):=by
 apply Xw
 intro q;have hpl:=(gS.1 hs).1;unfold flats;rw[Xy,put_at,Yc,Yf]
 by_cases h:p=q
 ·subst h;rw[hs,if_pos rfl,if_pos hpl];simp only[Option.map_some,if_pos,put_flat ht hn he]
 rw[if_neg h,Xy]
 cases m.sp[q]? with
 | none=>rfl
 | some x=>simp[h]
theorem put_len {m:Ma} {p n:Nat} {e:En}:(putE m p n e).sp.length=m.sp.length:=by simp[putE]
theorem putE_same {m:Ma} {p n:Nat} {e:En} {q:Nat} {s s':Sp} (hs:m.sp[q]? =Xa s) (hs':(putE m p n e).sp[q]? =Xa s'):s'.live=s.live/\s'.ars=s.ars:=by
 rw[put_at,hs]at hs';simp only[Option.map_some,Option.some.injEq]at hs';subst hs'
 split <;> exact⟨rfl,rfl⟩
theorem put_tabs {m:Ma} (ht:∀s∈m.sp,TbOk s.tb) {p n:Nat} {e:En} (he:enW e=0):∀s∈(putE m p n e).sp,TbOk s.tb:=fun s hs=>by
 obtain⟨q,hq⟩:=Yb hs;rw[put_at]at hq
 cases h:m.sp[q]? with
 | none=>rw[h]at hq;cases hq
 | some x=>
  rw[h]at hq;simp only[Option.map_some,Option.some.injEq]at hq;have hx:=ht x (mG h);subst hq
  split
  ·exact setT_ok hx he
  exact hx
theorem put_rt {m:Ma} {p n:Nat} {e:En} {s:Sp} (hs:m.sp[p]? =Xa s) (ht:∀s∈m.sp,TbOk s.tb) (hn:n<64) (he:enW e=0) (hb:BInv m ((flats m).set p (updF (flatN s) n e))) (h0:0<=m.hand/\m.hand<max (m.fs.length:Int) 1):Rt (putE m p n e):=by
 refine Rt.of ?_ (put_tabs ht he) h0.1 h0.2;rw[flats_put hs (ht s (mG hs)) hn he];exact hb.tabs put_len fun q s s' h1 h2=>putE_same h1 h2
structure Sam (S:Nat->Nat->Prop) (m m':Ma):Prop where
 spl:m'.sp.length=m.sp.length
 sp:∀(q:Nat) s s',m.sp[q]? =Xa s->m'.sp[q]? =Xa s'->s'.live=s.live/\s'.ars=s.ars
 see:∀(q n:Nat) s s',m.sp[q]? =Xa s->m'.sp[q]? =Xa s'->n<64->¬S q n->seeE m' (onAt s.ars n) (flatN s' n)=seeE m (onAt s.ars n) (flatN s n)
 fll:m'.fl.length=m.fl.length
 sz:∀f,szAt m' f=szAt m f
 bk:∀f,bkN m' f=bkN m f
 byt:∀(file k:Nat),(k:Int)<szAt m (file:Int)->(contL m' (file:Int) ((k / 8:Nat):Int)).getD (k % 8) 0=(contL m (file:Int) ((k / 8:Nat):Int)).getD (k % 8) 0
theorem Sam.refl (S:Nat->Nat->Prop) (m:Ma):Sam S m m:=⟨rfl,fun q s s' h h'=>by rw[h]at h';cases h';exact⟨rfl,rfl⟩,fun q n s s' h h' _ _=>by rw[h]at h';cases h';rfl,rfl,fun _=>rfl,fun _=>rfl,fun _ _ _=>rfl⟩
theorem Sam.trans {S S':Nat->Nat->Prop} {a b c:Ma} (h:Sam S a b) (k:Sam S' b c):Sam (fun q n=>S q n\/S' q n) a c:=by
 have mid:∀(q:Nat) s,a.sp[q]? =Xa s->∃t,b.sp[q]? =Xa t:=fun q s hs=>⟨_,gE (by rw[h.spl];exact(gS.1 hs).1)⟩
 refine⟨k.spl.trans h.spl,fun q s s' hs hs'=>?_,fun q n s s' hs hs' hn hS=>?_,k.fll.trans h.fll,fun f=>(k.sz f).trans (h.sz f),fun f=>(k.bk f).trans (h.bk f),fun file i hi=>(k.byt file i (by rw[h.sz];exact hi)).trans (h.byt file i hi)⟩
 ·obtain⟨t,ht⟩:=mid q s hs;have a1:=h.sp q s t hs ht;have a2:=k.sp q t s' ht hs';exact⟨a2.1.trans a1.1,a2.2.trans a1.2⟩
 obtain⟨t,ht⟩:=mid q s hs;have a1:=h.sp q s t hs ht;have a2:=k.see q n t s' ht hs' hn (fun e=>hS (.inr e))
 rw[a1.2]at a2;exact a2.trans (h.see q n s t hs ht hn (fun e=>hS (.inl e)))
theorem Sam.mono {S S':Nat->Nat->Prop} {a b:Ma} (h:Sam S a b) (hS:∀q n,S q n->S' q n):Sam S' a b:=⟨h.spl,h.sp,fun q n s s' hs hs' hn hn'=>h.see q n s s' hs hs' hn (fun e=>hn' (hS q n e)),h.fll,h.sz,h.bk,h.byt⟩
theorem Sam.put {m m1:Ma} {p n:Nat} {e:En} (hsp:m1.sp=m.sp) (hfl:m1.fl=m.fl) (ht:∀s∈m.sp,TbOk s.tb) (hn:n<64) (he:enW e=0) (hsee:∀(q j:Nat) s,m.sp[q]? =Xa s->j<64->(q≠p\/j≠n)->seeE m1 (onAt s.ars j) (flatN s j)=seeE m (onAt s.ars j) (flatN s j)) (hc:∀file idx,contL m1 file idx=contL m file idx):Sam (fun q j=>q=p/\j=n) m (putE m1 p n e):=by
 refine⟨by rw[put_len,hsp],fun q s s' hs hs'=>putE_same (by rw[hsp];exact hs) hs',fun q j s s' hs hs' hj hS=>?_,by show m1.fl.length=_;rw[hfl],fun f=>by show szAt m1 f=_;unfold szAt;rw[hfl],fun f=>by show bkN m1 f=_;unfold bkN;rw[hfl],fun file k _=>?_⟩
 ·rw[put_at,hsp,hs]at hs';simp only[Option.map_some,Option.some.injEq]at hs';have key:flatN s' j=flatN s j:=by
   subst hs'
   split
   ·rename_i h
    subst h;rw[put_flat (ht s (mG hs)) hn he];unfold updF;rw[if_neg (fun h=>hS ⟨rfl,h⟩)]
   rfl
  rw[key]
  show seeE m1 _ _=_
  refine hsee q j s hs hj ?_
  by_cases hq:q=p
  ·exact .inr fun h=>hS ⟨hq,h⟩
  exact .inl hq
 show(contL m1 _ _).getD _ _=_
 rw[hc]
def dropM (m:Ma) (p n:Nat):Ma:=
 let e:=flatN (m.sp.getD p ⟨Xd,[],[]⟩) n
 if e.kind=1 then putE { m with fs:=m.fs.set e.n.toNat (letGo (frAt m e.n)) } p n en0
 else if e.kind=2 then putE { m with sl:=m.sl.set e.n.toNat (m.sl.getD e.n.toNat 0 - 1) } p n en0
 else putE m p n en0
section
variable{m:Ma} {p n:Nat} {s:Sp}
theorem Rt.ent (h:Rt m) (hs:m.sp[p]? =Xa s) (hn:n<64):flatN s n=en0\/EntOk m (onAt s.ars n) (flatN s n):=h.inv.ent p s _ hs (flats_at hs) n hn
theorem Rt.present (h:Rt m) (hs:m.sp[p]? =Xa s) (hn:n<64) (hk:(flatN s n).kind=1):∃(k:Nat) (fr:Fr),(flatN s n).n=(k:Int)/\m.fs[k]? =Xa fr/\frAt m (flatN s n).n=fr/\fr.r≠0:=by
 rcases h.ent hs hn with e | e
 ·rw[e]at hk;cases hk
 obtain⟨c1,c2,c3,_⟩:=entE_present e (by omega)
 refine⟨(flatN s n).n.toNat,m.fs[(flatN s n).n.toNat]'(by omega),by omega,gE _,?_,fun h0=>?_⟩
 ·have:=frAt_of (m:=m) (k:=(flatN s n).n.toNat) (gE (by omega))
  rw[show(((flatN s n).n.toNat:Nat):Int)=(flatN s n).n by omega]at this
  exact this
 have h1:=(h.inv.free (gE (show(flatN s n).n.toNat<m.fs.length by omega)) h0).1
 have h2:=held_of (flats_at hs) hn hk;rw[show(((flatN s n).n.toNat:Nat):Int)=(flatN s n).n by omega]at h1
 omega
theorem Rt.swapped (h:Rt m) (hs:m.sp[p]? =Xa s) (hn:n<64) (hk:(flatN s n).kind=2):∃(k:Nat) (z:Int),(flatN s n).n=(k:Int)/\m.sl[k]? =Xa z/\m.sl.getD (flatN s n).n.toNat 0=z/\0<z/\(onAt s.ars n).is=Xc/\(onAt s.ars n).sh=Xd/\k<m.sb.length:=by
 rcases h.ent hs hn with e | e
 ·rw[e]at hk;cases hk
 obtain⟨e1,e2,e3⟩:=e;unfold entE at e3
 split at e3
 ·cases e3
 rename_i his
 split at e3
 ·cases e3
 rename_i hb
 have hn0:=(enW_zero e1).2.1.1;have hlt:(flatN s n).n< (m.sl.length:Int):=by
  rcases Int.lt_or_le (flatN s n).n m.sl.length with h1 | h1
  ·exact h1
  exact absurd (.inl h1) hb
 have hl:(flatN s n).n.toNat<m.sl.length:=by omega
 refine⟨(flatN s n).n.toNat,m.sl[(flatN s n).n.toNat],by omega,gE hl,?_,?_,?_,?_,?_⟩
 ·rw[gD,gE hl];rfl
 ·rw[h.inv.cs _ _ (gE hl)];have:=hold_pos (flats_at hs) hn (kind:=2) (k:=(((flatN s n).n.toNat:Nat):Int)) (by simp[isE,hk];omega) (by decide)
  omega
 ·cases hx:(onAt s.ars n).is with
  | true=>rfl
  | false=>exact absurd hx his
 ·cases hx:(onAt s.ars n).sh with
  | false=>rfl
  | true=>exact absurd (.inr hx) hb
 have:=h.inv.sbl;omega
theorem drop_ok (h:Rt m) (hs:m.sp[p]? =Xa s) (hn:n<64):Rt (dropM m p n)/\Sam (fun q j=>q=p/\j=n) m (dropM m p n):=by
 have hd:m.sp.getD p ⟨Xd,[],[]⟩=s:=by rw[gD,hs];rfl
 have ht:∀s∈m.sp,TbOk s.tb:=fun s hs=>h.tb hs
 unfold dropM;simp only[hd]
 by_cases h1:(flatN s n).kind=1
 ·rw[if_pos h1];obtain⟨k,fr,e1,e2,e3,e4⟩:=h.present hs hn h1;rw[e3,e1,tN];have hb:=h.inv.drop e2 (flats_at hs) hn h1 e1;refine⟨put_rt (m:={ m with fs:=m.fs.set k (letGo fr) }) hs ht hn enW_0 hb (by simpa using h.hand),Sam.put (m1:={ m with fs:=m.fs.set k (letGo fr) }) rfl rfl ht hn enW_0 (fun q j s' hs' hj hne=>see_letGo h.inv e2 (flats_at hs) hn h1 e1 (flats_at hs') hj hne) (fun file idx=>cont_letGo h.inv e2 (flats_at hs) hn h1 e1 file idx)⟩
 rw[if_neg h1]
 by_cases h2:(flatN s n).kind=2
 ·rw[if_pos h2];obtain⟨k,z,e1,e2,e3,e4,e5,e6,e7⟩:=h.swapped hs hn h2;rw[e3,e1,tN];have hb:=h.inv.dropS e2 (flats_at hs) hn h2 e1;exact⟨put_rt (m:={ m with sl:=m.sl.set k (z - 1) }) hs ht hn enW_0 hb h.hand,Sam.put (m1:={ m with sl:=m.sl.set k (z - 1) }) rfl rfl ht hn enW_0 (fun q j s' hs' hj hne=>rfl) (fun file idx=>rfl)⟩
 rw[if_neg h2];have he0:flatN s n=en0:=by
  rcases h.ent hs hn with e | e
  ·exact e
  have:=(enW_zero e.1).1;have:=e.2.1;omega
 refine⟨put_rt hs ht hn enW_0 ?_ h.hand,Sam.put rfl rfl ht hn enW_0 (fun q j s' hs' hj hne=>rfl) (fun file idx=>rfl)⟩
 have:updF (flatN s) n en0=flatN s:=by
  funext j
  unfold updF
  split
  ·rename_i hj
   rw[hj,he0]
  rfl
 rw[this];have:(flats m).set p (flatN s)=flats m:=by
  apply Xw
  intro q;rw[Yc]
  split
  ·rename_i hq
   subst hq;rw[if_pos (gS.1 (flats_at hs)).1,flats_at hs]
  rfl
 rw[this];exact h.inv
end
section
variable{m:Ma} {T:List (Nat->En)}
theorem BInv.joinAs (h:BInv m T) {p i q n k:Nat} {fr:Fr} {f g:Nat->En} {s:Sp} {e:En} (hk:m.fs[k]? =Xa fr) (hp:T[p]? =Xa f) (hi:i<64) (hpn:f i=e) (hq:T[q]? =Xa g) (hn:n<64) (h0:g n=en0) (hs:m.sp[q]? =Xa s)
  (he:EntOk m (onAt s.ars n) e) (hek:e.kind=1) (hen:e.n=(k:Int)) (hnm:e.wr=Xc->fr.f≠-1):
  BInv { m with fs:=m.fs.set k { fr with r:=fr.r+1 } } (T.set q (updF g n e)):=by
 have hkl:=(gS.1 hk).1;have hql:=(gS.1 hq).1;have hsh:=h.fok fr (mG hk);have hpos:1<=holdN T 1 k:=by
  have:=held_of hp hi (by rw[hpn];exact hek)
  rw[hpn,hen]at this;exact this
 have hfr:=h.cf k fr hk;have hup:∀kind j:Int,holdN (T.set q (updF g n e)) kind j+(isE en0 kind j).toNat=holdN T kind j+(isE e kind j).toNat:=fun kind j=>by
  have:=hold_upd e kind j hq hn;rw[h0]at this;exact this
 refine⟨by simpa using h.fs40,fun x hx=>?_,h.sl60,h.sbl,h.sq,h.dok,h.st,h.cnt,h.blk,h.que,h.spl,h.spok,by simpa using h.tl,?_,?_,fun j x hj=>?_,fun j z hj=>?_⟩
 ·rcases Yo hx with hx | rfl
  ·exact h.fok x hx
  obtain⟨c1,c2,c3,c4,c5⟩:=hsh;exact⟨by simp only;omega,c2,c3,fun h=>by simp only at h;omega,c5⟩
 ·obtain⟨a1,a2,a3⟩:=caGo_zero.1 h.ca;refine caGo_zero.2 ⟨fun c hc=>?_,fun q c hq=>(by cases hq),a3⟩
  obtain⟨b1,b2,b3,b4⟩:=caE_ok (a1 c hc);have hf:=frAt_set (f:={ fr with r:=fr.r+1 }) hkl c.fr b1.2.2.2.2.1
  by_cases ec:c.fr=(k:Int)
  ·rw[if_pos ec]at hf;rw[ec,frAt_of hk]at b2 b3 b4;refine caE_of (by simpa [bkN]using b1) ?_ ?_ ?_ <;> rw[hf]
   ·have:=hsh.1;simp only;omega
   ·exact b3
   exact b4
  rw[if_neg ec]at hf;exact caE_of (by simpa [bkN]using b1) (by rw[hf];exact b2) (by rw[hf];exact b3) (by rw[hf];exact b4)
 ·have keep:∀(x:On) (e2:En),EntOk m x e2->(e2.kind≠2->e2.n=(k:Int)->e2.wr=Xc->fr.f≠-1)->EntOk { m with fs:=m.fs.set k { fr with r:=fr.r+1 } } x e2:=fun x e2 h2 hm=>by
   refine⟨h2.1,h2.2.1,entE_keep h2.2.2 rfl (by simp) fun hk2=>?_⟩
   obtain⟨c1,c2,c3,c4⟩:=entE_present h2 hk2;rw[frAt_set hkl _ c2]
   by_cases ec:e2.n=(k:Int)
   ·rw[if_pos ec,ec,frAt_of hk];exact⟨rfl,rfl,fun g1 g2=>absurd g2 (hm hk2 ec g1)⟩
   rw[if_neg ec];exact⟨rfl,rfl,c4⟩
  refine ent_set hql rfl hq (fun q2 s2 g2 hs2 hg2 j hj hne=>?_) (fun s' hs'=>?_)
  ·rcases h.ent q2 s2 g2 hs2 hg2 j hj with e2 | e2
   ·exact .inl e2
   refine .inr (keep _ _ e2 fun hk2 hz hw=>?_)
   obtain⟨c1,c2,c3,c4⟩:=entE_present e2 hk2
   by_cases same:q2=p/\j=i
   ·obtain⟨rfl,rfl⟩:=same;rw[hp]at hg2;cases hg2;rw[hpn]at hw;exact hnm hw
   intro hf1;have h2:=hold_two hp hi (kind:=1) (k:=(k:Int)) (by rw[hpn];simp[isE,hek,hen]) hg2 hj (by simp[isE,c1,hz]) (by
    by_cases e3:p=q2
    ·right;intro e4;exact same ⟨e3.symm,e4.symm⟩
    exact .inl e3) (by decide)
   have h3:=c4 hw (by rw[hz,frAt_of hk];exact hf1)
   rw[hz,frAt_of hk]at h3;omega
  rw[hs]at hs';cases hs';exact keep _ _ he fun _ _ hw=>hnm hw
 ·simp only at hj⊢;have hu:=hup 1 j;rw[isE_none 1 j (by decide)]at hu
  by_cases ej:j=k
  ·subst ej;rw[sF hkl]at hj;cases hj;have:isE e 1 (j:Int)=Xc:=by simp[isE,hek,hen]
   rw[this]at hu;refine⟨?_,hfr.2⟩
   simp at hu
   simp only;omega
  rw[sN (fun h=>ej h.symm)]at hj
  rw[isE_other (by rw[hen];omega)]at hu
  have:=h.cf j x hj;refine⟨?_,this.2⟩
  simp at hu
  omega
 simp only at hj⊢;have hu:=hup 2 j;rw[isE_none 2 j (by decide),isE_kind (by rw[hek];decide)]at hu
 have:=h.cs j z hj
 simp at hu
 omega
end
def joinM (m:Ma) (k p n:Nat):Ma:=putE { m with fs:=m.fs.set k { frAt m (k:Int)with r:=(frAt m (k:Int)).r+1 } } p n ⟨1,(k:Int),Xd⟩
theorem enW_in {m:Ma} (h:BInv m (flats m)) {k:Nat} (hk:k<m.fs.length) (w:Bool):enW ⟨1,(k:Int),w⟩=0:=
 enW_of (by simp) ⟨by simp,by simp only;have:=h.fs40;omega,fun _=>by simp only;have:=h.fs40;omega⟩ (by simp)
section
variable{m:Ma} {k p n:Nat} {fr:Fr} {s:Sp}
theorem cont_refs (h:Rt m) (hk:m.fs[k]? =Xa fr) (r:Int) (file idx:Int):contL { m with fs:=m.fs.set k { fr with r:=r } } file idx=contL m file idx:=
 cont_frame (gS.1 hk).1 h.inv.ca (fun _=>by rw[frAt_of hk]) file idx
theorem Rt.kind0 (h:Rt m) (hs:m.sp[p]? =Xa s) (hn:n<64) (hk:(flatN s n).kind=1):0<=(flatN s n).n:=by
 obtain⟨k,_,e,_⟩:=h.present hs hn hk;omega
theorem join_copy (h:Rt m) (hk:m.fs[k]? =Xa fr) (hff:fr.f=-1) {q i:Nat} {t:Sp} (hq:m.sp[q]? =Xa t) (hi:i<64) (hqi:flatN t i=⟨1,(k:Int),Xd⟩) (hs:m.sp[p]? =Xa s) (hn:n<64) (h0:flatN s n=en0)
  (hx:(onAt s.ars n).is=Xc) (hsh:(onAt s.ars n).sh=Xd):
  Rt (joinM m k p n)/\Sam (fun q j=>q=p/\j=n) m (joinM m k p n):=by
 have ht:∀s∈m.sp,TbOk s.tb:=fun s hs=>h.tb hs
 have hkl:=(gS.1 hk).1;have he:=enW_in h.inv hkl Xd;unfold joinM;rw[frAt_of hk];have hent:EntOk m (onAt s.ars n) ⟨1,(k:Int),Xd⟩:=by
  refine⟨he,by simp,?_⟩
  unfold entE;simp only;rw[if_neg (by rw[hx];decide),if_neg (by decide),if_neg (by omega),frAt_of hk,if_neg]
  rintro(h4 | h4 | h4 | h4 | h4)
  ·exact h4.1 hff
  ·rw[hsh]at h4;cases h4.1
  ·cases h4.1
  ·cases h4.1
  cases h4.1
 have hb:=h.inv.joinAs hk (flats_at hq) hi hqi (flats_at hs) hn h0 hs hent rfl rfl (fun e=>by cases e)
 refine⟨put_rt (m:={ m with fs:=m.fs.set k { fr with r:=fr.r+1 } }) hs ht hn he hb (by simpa using h.hand),Sam.put (m1:={ m with fs:=m.fs.set k { fr with r:=fr.r+1 } }) rfl rfl ht hn he (fun q j s' hs' hj _=>see_refs h.inv hk (h.kind0 hs' hj)) (fun file idx=>cont_refs h hk _ file idx)⟩
theorem mine_ok (h:Rt m) (hk:m.fs[k]? =Xa fr) (hr:fr.r=0) (pg:Pg) (u:Bool) (hs:m.sp[p]? =Xa s) (hn:n<64) (h0:flatN s n=en0)
  (hx:(onAt s.ars n).is=Xc) (hsh:(onAt s.ars n).sh=Xd):
  Rt (putE { m with fs:=m.fs.set k ⟨pg,1,u,Xd,-1,0⟩ } p n ⟨1,(k:Int),Xd⟩)/\Sam (fun q j=>q=p/\j=n) m (putE { m with fs:=m.fs.set k ⟨pg,1,u,Xd,-1,0⟩ } p n ⟨1,(k:Int),Xd⟩):=by
 have ht:∀s∈m.sp,TbOk s.tb:=fun s hs=>h.tb hs
 have hkl:=(gS.1 hk).1;have he:=enW_in h.inv hkl Xd;have hb:=h.inv.mine (pg:=pg) (u:=u) (w:=false) hk hr hs (flats_at hs) hn h0 hx hsh (fun e=>by cases e)
 refine⟨put_rt (m:={ m with fs:=m.fs.set k ⟨pg,1,u,Xd,-1,0⟩ }) hs ht hn he hb (by simpa using h.hand),Sam.put (m1:={ m with fs:=m.fs.set k ⟨pg,1,u,Xd,-1,0⟩ }) rfl rfl ht hn he (fun q j s' hs' hj _=>see_free h.inv hk hr (flats_at hs') hj) (fun file idx=>cont_free h.inv hk hr file idx)⟩
theorem put_now {m1:Ma} {e:En} (ht:∀s∈m1.sp,TbOk s.tb) (hs:m1.sp[p]? =Xa s) (hn:n<64) (he:enW e=0) {s':Sp} (hs':(putE m1 p n e).sp[p]? =Xa s'):flatN s' n=e/\s'.ars=s.ars:=by
 rw[put_at,hs]at hs';simp only[Option.map_some,Option.some.injEq,if_true]at hs';subst hs';rw[put_flat (ht s (mG hs)) hn he];exact⟨by unfold updF;rw[if_pos rfl],rfl⟩
end
theorem put_other {m1:Ma} {e:En} {p n q j:Nat} {s s':Sp} (ht:∀s∈m1.sp,TbOk s.tb) (hn:n<64) (he:enW e=0) (hs:m1.sp[q]? =Xa s) (hs':(putE m1 p n e).sp[q]? =Xa s') (hne:¬(q=p/\j=n)):flatN s' j=flatN s j:=by
 rw[put_at,hs]at hs';simp only[Option.map_some,Option.some.injEq]at hs';subst hs'
 split
 ·rename_i h
  subst h;rw[put_flat (ht s (mG hs)) hn he];unfold updF;rw[if_neg (fun h=>hne ⟨rfl,h⟩)]
 rfl
def joinAll (m:Ma) (k:Nat):List (Nat × Nat)->Ma
 | []=>m
 | x :: l=>joinAll (joinM m k x.1 x.2) k l
def Bare (m:Ma) (x:Nat × Nat):Prop:=∃s,m.sp[x.1]? =Xa s/\x.2<64/\flatN s x.2=en0/\(onAt s.ars x.2).is=Xc/\(onAt s.ars x.2).sh=Xd
section
variable{k:Nat}
theorem join_fs {m:Ma} {fr:Fr} (hk:m.fs[k]? =Xa fr) (p n:Nat):(joinM m k p n).fs[k]? =Xa { fr with r:=fr.r+1 }:=by
 show(m.fs.set k _)[k]? =_
 rw[sF (gS.1 hk).1,frAt_of hk]
theorem joinAll_ok:∀(l:List (Nat × Nat)) {m:Ma} {fr:Fr},Rt m->m.fs[k]? =Xa fr->fr.f=-1->(∃(q i:Nat) (t:Sp),m.sp[q]? =Xa t/\i<64/\flatN t i=⟨1,(k:Int),Xd⟩)->(∀x∈l,Bare m x)->l.Nodup->
  Rt (joinAll m k l)/\Sam (fun q j=>(q,j)∈l) m (joinAll m k l)/\(joinAll m k l).fs[k]? =Xa { fr with r:=fr.r+(l.length:Int) }/\(∀x∈l,∀s',(joinAll m k l).sp[x.1]? =Xa s'->flatN s' x.2=⟨1,(k:Int),Xd⟩)/\∀(q j:Nat) s s',m.sp[q]? =Xa s->(joinAll m k l).sp[q]? =Xa s'->(q,j)∉l->flatN s' j=flatN s j
 | [],m,fr,h,hk,_,_,_,_=>⟨h,Sam.refl _ _,(by simp only[joinAll,Yr,Int.ofNat_zero,Int.add_zero];exact hk),fun x hx=>(by cases hx),fun q j s s' hs hs' _=>by simp only[joinAll]at hs';rw[hs]at hs';cases hs';rfl⟩
 | x :: l,m,fr,h,hk,hf,hq,hb,hd=>by
  obtain⟨q,i,t,hq,hi,hqi⟩:=hq;obtain⟨s,hs,hn,h0,hx,hsh⟩:=hb x (Xs ..);have hkl:=(gS.1 hk).1;have he:=enW_in h.inv hkl Xd;have ht:∀s∈m.sp,TbOk s.tb:=fun s hs=>h.tb hs
  obtain⟨j1,j2⟩:=join_copy h hk hf hq hi hqi hs hn h0 hx hsh;have hd':=Ym.1 hd;have at1:∀(q:Nat) s,m.sp[q]? =Xa s->∃s',(joinM m k x.1 x.2).sp[q]? =Xa s':=fun q s hs=>⟨_,gE (by rw[j2.spl];exact(gS.1 hs).1)⟩
  have oth:∀(q j:Nat) s s',m.sp[q]? =Xa s->(joinM m k x.1 x.2).sp[q]? =Xa s'->¬(q=x.1/\j=x.2)->flatN s' j=flatN s j:=fun q j s s' h1 h2 h3=>put_other (m1:={ m with fs:=m.fs.set k { frAt m (k:Int)with r:=(frAt m (k:Int)).r+1 } }) ht hn he h1 h2 h3
  obtain⟨s1,hs1⟩:=at1 x.1 s hs;have now:=(put_now (m1:={ m with fs:=m.fs.set k { frAt m (k:Int)with r:=(frAt m (k:Int)).r+1 } }) ht hs hn he hs1).1;obtain⟨r1,r2,r3,r4,r5⟩:=joinAll_ok l j1 (join_fs hk x.1 x.2) hf ⟨x.1,x.2,s1,hs1,hn,now⟩ (fun y hy=>by
   obtain⟨sy,a1,a2,a3,a4,a5⟩:=hb y (Xt _ hy);obtain⟨sy',b1⟩:=at1 y.1 sy a1;have b2:=(j2.sp y.1 sy sy' a1 b1).2;have b3:=oth y.1 y.2 sy sy' a1 b1 (fun e=>hd'.1 (by
    have:y=x:=Prod.ext e.1 e.2;rw[<-this];exact hy))
   exact⟨sy',b1,a2,by rw[b3];exact a3,by rw[b2];exact a4,by rw[b2];exact a5⟩) hd'.2
  refine⟨r1,(j2.trans r2).mono ?_,?_,fun y hy s' hs'=>?_,fun q j s s' h1 h2 h3=>?_⟩
  ·rintro q j (⟨rfl,rfl⟩ | h1)
   ·exact Xs ..
   exact Xt _ h1
  ·show(joinAll (joinM m k x.1 x.2) k l).fs[k]? =_
   rw[r3];simp only[Yk,Option.some.injEq,Fr.mk.injEq,and_true,true_and];omega
  ·rcases mC.1 hy with rfl | hy
   ·rw[r5 y.1 y.2 s1 s' hs1 hs' hd'.1];exact now
   exact r4 y hy s' hs'
  obtain⟨sq,hsq⟩:=at1 q s h1;rw[r5 q j sq s' hsq h2 (fun e=>h3 (Xt _ e))]
  exact oth q j s sq h1 hsq (fun e=>h3 (by
   have:(q,j)=x:=Prod.ext e.1 e.2;rw[this];exact Xs ..))
def spAll (k:Nat) (l:List (Nat × Nat)) (sp:List Sp):List Sp:=l.foldl (fun sp x=>sp.modify x.1 fun s=>{ s with tb:=setT s.tb x.2 ⟨1,(k:Int),Xd⟩ }) sp
theorem joinAll_eq:∀(l:List (Nat × Nat)) {m:Ma} {fr:Fr},m.fs[k]? =Xa fr->joinAll m k l={ m with fs:=m.fs.set k { fr with r:=fr.r+(l.length:Int) },sp:=spAll k l m.sp }
 | [],m,fr,hk=>by
  have:m.fs.set k { fr with r:=fr.r+(([]:List (Nat × Nat)).length:Int) }=m.fs:=by
   apply Xw
   intro q;rw[Yc]
   split
   ·rename_i hq
    subst hq;rw[if_pos (gS.1 hk).1,hk];simp
   rfl
  rw[this];rfl
 | x :: l,m,fr,hk=>by
  show joinAll (joinM m k x.1 x.2) k l=_
  rw[joinAll_eq l (join_fs hk x.1 x.2)];have e1:(joinM m k x.1 x.2).fs=m.fs.set k { fr with r:=fr.r+1 }:=by
   show m.fs.set k _=_
   rw[frAt_of hk]
  have e2:fr.r+1+(l.length:Int)=fr.r+((x :: l).length:Int):=by simp only[Yk];omega
  rw[e1,Yx];simp only[e2];rfl
def copyM (m:Ma) (k:Nat) (pg:Pg) (u:Bool) (l:List (Nat × Nat)):Ma:={ m with fs:=m.fs.set k ⟨pg,(l.length:Int),u,Xd,-1,0⟩,sp:=spAll k l m.sp }
theorem copy_ok {m:Ma} {fr:Fr} (h:Rt m) (hk:m.fs[k]? =Xa fr) (hr:fr.r=0) (pg:Pg) (u:Bool) {l:List (Nat × Nat)} (hl:l≠[]) (hb:∀x∈l,Bare m x) (hd:l.Nodup):
  Rt (copyM m k pg u l)/\Sam (fun q j=>(q,j)∈l) m (copyM m k pg u l)/\(∀x∈l,∀s',(copyM m k pg u l).sp[x.1]? =Xa s'->flatN s' x.2=⟨1,(k:Int),Xd⟩):=by
 cases l with
 | nil=>exact absurd rfl hl
 | cons x l=>
  obtain⟨s,hs,hn,h0,hx,hsh⟩:=hb x (Xs ..);have hkl:=(gS.1 hk).1;have he:=enW_in h.inv hkl Xd;have ht:∀s∈m.sp,TbOk s.tb:=fun s hs=>h.tb hs
  obtain⟨j1,j2⟩:=mine_ok h hk hr pg u hs hn h0 hx hsh;have hd':=Ym.1 hd;obtain⟨m1,hm1⟩:∃m1,putE { m with fs:=m.fs.set k ⟨pg,1,u,Xd,-1,0⟩ } x.1 x.2 ⟨1,(k:Int),Xd⟩=m1:=⟨_,rfl⟩;rw[hm1]at j1 j2;have hk1:m1.fs[k]? =Xa ⟨pg,1,u,Xd,-1,0⟩:=by
   rw[<-hm1]
   show(m.fs.set k _)[k]? =_
   rw[sF hkl]
  have at1:∀(q:Nat) s,m.sp[q]? =Xa s->∃s',m1.sp[q]? =Xa s':=fun q s hs=>⟨_,gE (by rw[j2.spl];exact(gS.1 hs).1)⟩
  have oth:∀(q j:Nat) s s',m.sp[q]? =Xa s->m1.sp[q]? =Xa s'->¬(q=x.1/\j=x.2)->flatN s' j=flatN s j:=fun q j s s' h1 h2 h3=>by
   rw[<-hm1]at h2;exact put_other (m1:={ m with fs:=m.fs.set k ⟨pg,1,u,Xd,-1,0⟩ }) ht hn he h1 h2 h3
  obtain⟨s1,hs1⟩:=at1 x.1 s hs;have now:flatN s1 x.2=⟨1,(k:Int),Xd⟩:=by
   have hs2:=hs1;rw[<-hm1]at hs2;exact(put_now (m1:={ m with fs:=m.fs.set k ⟨pg,1,u,Xd,-1,0⟩ }) ht hs hn he hs2).1
  obtain⟨r1,r2,r3,r4,r5⟩:=joinAll_ok l j1 hk1 rfl ⟨x.1,x.2,s1,hs1,hn,now⟩ (fun y hy=>by
   obtain⟨sy,a1,a2,a3,a4,a5⟩:=hb y (Xt _ hy);obtain⟨sy',b1⟩:=at1 y.1 sy a1;have b2:=(j2.sp y.1 sy sy' a1 b1).2;have b3:=oth y.1 y.2 sy sy' a1 b1 (fun e=>hd'.1 (by
    have:y=x:=Prod.ext e.1 e.2;rw[<-this];exact hy))
   exact⟨sy',b1,a2,by rw[b3];exact a3,by rw[b2];exact a4,by rw[b2];exact a5⟩) hd'.2
  have eq:joinAll m1 k l=copyM m k pg u (x :: l):=by
   rw[joinAll_eq l hk1,<-hm1];have e2:(1:Int)+(l.length:Int)=((x :: l).length:Int):=by simp only[Yk];omega
   unfold copyM putE;simp only[Yx,e2];rfl
  rw[eq]at r1 r2 r4 r5;refine⟨r1,(j2.trans r2).mono ?_,fun y hy s' hs'=>?_⟩
  ·rintro q j (⟨rfl,rfl⟩ | h1)
   ·exact Xs ..
   exact Xt _ h1
  rcases mC.1 hy with rfl | hy
  ·rw[r5 y.1 y.2 s1 s' hs1 hs' hd'.1];exact now
  exact r4 y hy s' hs'
theorem copy_way {m:Ma} {fr:Fr} (hk:m.fs[k]? =Xa fr) (pg:Pg) (u:Bool) (l:List (Nat × Nat)):
  joinAll { m with fs:=m.fs.set k ⟨pg,1,u,Xd,-1,0⟩ } k l={ m with fs:=m.fs.set k ⟨pg,1+(l.length:Int),u,Xd,-1,0⟩,sp:=spAll k l m.sp }:=by
 rw[joinAll_eq l (fr:=⟨pg,1,u,Xd,-1,0⟩) (by show(m.fs.set k _)[k]? =_;rw[sF (gS.1 hk).1])]
 simp only[Yx]
end
section
variable{m:Ma} {k p n:Nat} {fr:Fr} {s:Sp}
theorem see_in {m1:Ma} (hx:(onAt s.ars n).is=Xc) {w:Bool} (hk:m1.fs[k]? =Xa fr):seeE m1 (onAt s.ars n) ⟨1,(k:Int),w⟩=(pgL fr.p,decide (fr.f<0),0):=by
 unfold seeE;rw[if_neg (by rw[hx];decide),if_pos rfl,frAt_of hk]
theorem marks_ok (h:Rt m) (hk:m.fs[k]? =Xa fr) (hr:fr.r≠0) (u d:Bool):Rt { m with fs:=m.fs.set k { fr with u:=u,d:=d } }/\Sam (fun _ _=>False) m { m with fs:=m.fs.set k { fr with u:=u,d:=d } }:=by
 have hkl:=(gS.1 hk).1;have hc:∀file idx,contL { m with fs:=m.fs.set k { fr with u:=u,d:=d } } file idx=contL m file idx:=fun file idx=>cont_frame hkl h.inv.ca (fun _=>by rw[frAt_of hk]) file idx
 refine⟨Rt.of (h.inv.marks (p:=fr.p) (u:=u) (d:=d) hk hr) (fun s hs=>h.tb hs) h.hand.1 (by simpa using h.hand.2),rfl,fun q s s' h1 h2=>?_,fun q j s s' h1 h2 hj _=>?_,rfl,fun _=>rfl,fun _=>rfl,fun file i _=>by rw[hc]⟩
 ·have:m.sp[q]? =Xa s':=h2;rw[h1]at this;cases this;exact⟨rfl,rfl⟩
 have:m.sp[q]? =Xa s':=h2;rw[h1]at this;cases this;refine see_frame hkl h.inv.ca (fun _=>by rw[frAt_of hk]) (h.kind0 h1 hj) (fun _ _=>by rw[frAt_of hk];exact⟨rfl,Iff.rfl⟩)
theorem allow_ok (h:Rt m) (hs:m.sp[p]? =Xa s) (hn:n<64) {e:En} (hk:e.kind=(flatN s n).kind) (hen:e.n=(flatN s n).n) (he:EntOk m (onAt s.ars n) e):Rt (putE m p n e)/\Sam (fun _ _=>False) m (putE m p n e):=by
 have ht:∀s∈m.sp,TbOk s.tb:=fun s hs=>h.tb hs
 have hb:=h.inv.entry hs (flats_at hs) hn hk hen he;have hp:=Sam.put (m1:=m) (p:=p) rfl rfl ht hn he.1 (fun q j s' hs' hj _=>rfl) (fun _ _=>rfl)
 refine⟨put_rt hs ht hn he.1 hb h.hand,hp.spl,hp.sp,fun q j s1 s2 h1 h2 hj _=>?_,hp.fll,hp.sz,hp.bk,hp.byt⟩
 by_cases hS:q=p/\j=n
 ·obtain⟨rfl,rfl⟩:=hS;rw[hs]at h1;cases h1;rw[(put_now ht hs hn he.1 h2).1];exact see_same hk hen (fun _=>⟨rfl,Iff.rfl⟩) (fun _=>rfl) (fun _=>rfl) (fun _ _=>rfl)
 exact hp.see q j s1 s2 h1 h2 hj hS
end
def moveF (k:Int) (e:En) (f:Nat->En):Nat->En:=fun j=>if isE (f j) 1 k=Xc then e else f j
theorem cnt_move (k:Int) (e:En) (f:Nat->En) (kind j:Int):∀n:Nat,cntTo (moveF k e f) kind j n+(if kind=1/\j=k then cntTo f 1 k n else 0)=cntTo f kind j n+(if isE e kind j=Xc then cntTo f 1 k n else 0)
 | 0=>by simp[cntTo]
 | n+1=>by
  have ih:=cnt_move k e f kind j n;unfold cntTo;have hm:moveF k e f n=if isE (f n) 1 k=Xc then e else f n:=rfl;rw[hm]
  cases hb:isE (f n) 1 k with
  | true=>
   simp only[if_true];have hk:isE (f n) kind j=Xc↔kind=1/\j=k:=by
    simp only[isE,Xv,decide_eq_true_eq]at hb⊢;omega
   by_cases h1:kind=1/\j=k
   ·rw[if_pos h1]at ih⊢;rw[hk.2 h1]
    cases he:isE e kind j <;> simp[he]at ih⊢<;> omega
   rw[if_neg h1]at ih⊢;have:isE (f n) kind j=Xd:=by
    cases hx:isE (f n) kind j with
    | false=>rfl
    | true=>exact absurd (hk.1 hx) h1
   rw[this]
   cases he:isE e kind j <;> simp[he]at ih⊢<;> omega
  | false=>
   simp only[if_false,Bool.false_eq_true]
   by_cases h1:kind=1/\j=k
   ·rw[if_pos h1]at ih⊢;rw[h1.1,h1.2,hb];rw[h1.1,h1.2]at ih
    simp at ih⊢
    omega
   rw[if_neg h1]at ih⊢
   simp at ih⊢
   omega
theorem hold_move (k:Int) (e:En) (kind j:Int):∀T:List (Nat->En),holdN (T.map (moveF k e)) kind j+(if kind=1/\j=k then holdN T 1 k else 0)=holdN T kind j+(if isE e kind j=Xc then holdN T 1 k else 0)
 | []=>by simp[holdN]
 | f :: T=>by
  have ih:=hold_move k e kind j T;have h1:=cnt_move k e f kind j 64;simp only[holdN,mP,List.sum_cons]at ih⊢
  by_cases a:kind=1/\j=k
  ·rw[if_pos a]at ih h1⊢
   by_cases b:isE e kind j=Xc
   ·rw[if_pos b]at ih h1⊢;omega
   rw[if_neg b]at ih h1⊢;omega
  rw[if_neg a]at ih h1⊢
  by_cases b:isE e kind j=Xc
  ·rw[if_pos b]at ih h1⊢;omega
  rw[if_neg b]at ih h1⊢;omega
section
variable{m:Ma} {T:List (Nat->En)}
theorem BInv.moved (h:BInv m T) {k:Nat} {fr:Fr} (hk:m.fs[k]? =Xa fr) (e:En) (hek:e.kind≠1) {sl':List Int} {sb':List (List Int)} {sq':List (Int × List Int)} (hsl:sl'.length=m.sl.length) (hsb:sb'.length=m.sb.length) (hsq:wrongL sb'.length sq'=0)
  (hcs:∀(j:Nat) z,sl'[j]? =Xa z->z=(holdN T 2 j+(if isE e 2 (j:Int)=Xc then holdN T 1 k else 0):Nat)) (he:e=en0\/(enW e=0/\e.kind=2/\e.n<m.sl.length/\fr.f=-1)):
  BInv { m with fs:=m.fs.set k frF,ca:=m.ca.filter fun d=>!decide (d.fr=(k:Int)),sl:=sl',sb:=sb',sq:=sq' } (T.map (moveF (k:Int) e)):=by
 have hkl:=(gS.1 hk).1;have hcount:∀j:Int,j≠(k:Int)->cachedN (m.ca.filter fun d=>!decide (d.fr=(k:Int))) j=cachedN m.ca j:=fun j hj=>by
  unfold cachedN;rw[List.countP_filter]
  congr 1
  funext d
  by_cases e:d.fr=j
  ·have:d.fr≠(k:Int):=by omega
   simp[e,hj]
  simp[e]
 have hzero:cachedN (m.ca.filter fun d=>!decide (d.fr=(k:Int))) (k:Int)=0:=by
  unfold cachedN;rw[Yv];intro d hd;rw[Xz]at hd
  simpa using hd.2
 obtain⟨m',hm'⟩:∃m':Ma,{ m with fs:=m.fs.set k frF,ca:=m.ca.filter fun d=>!decide (d.fr=(k:Int)),sl:=sl',sb:=sb',sq:=sq' }=m':=⟨_,rfl⟩
 have hfa:∀z:Int,0<=z->z≠(k:Int)->frAt m' z=frAt m z:=fun z hz hne=>by
  rw[<-hm'];rw[show frAt { m with fs:=m.fs.set k frF,ca:=m.ca.filter fun d=>!decide (d.fr=(k:Int)),sl:=sl',sb:=sb',sq:=sq' } z=frAt { m with fs:=m.fs.set k frF } z from rfl,frAt_set hkl _ hz,if_neg hne]
 have hsl2:m'.sl.length=m.sl.length:=by rw[<-hm'];exact hsl
 have hfl2:m'.fs.length=m.fs.length:=by rw[<-hm'];simp
 rw[hm'];refine⟨by rw[hfl2];exact h.fs40,fun g hg=>?_,by rw[hsl2];exact h.sl60,by rw[<-hm'];show sb'.length=sl'.length;rw[hsb,hsl];exact h.sbl,by rw[<-hm'];exact hsq,by rw[<-hm'];exact h.dok,by rw[<-hm'];exact h.st,by rw[<-hm'];exact h.cnt,by rw[<-hm'];exact h.blk,by rw[<-hm'];exact h.que,by rw[<-hm'];exact h.spl,by rw[<-hm'];exact h.spok,by rw[<-hm'];simpa using h.tl,?_,fun q s g hs hg j hj=>?_,fun j g hj=>?_,fun j z hj=>?_⟩
 ·rw[<-hm']at hg
  rcases Yo hg with hg | rfl
  ·exact h.fok g hg
  exact⟨by decide,by decide,.inl rfl,fun _=>rfl,fun _=>rfl⟩
 ·obtain⟨a1,a2,a3⟩:=caGo_zero.1 h.ca;have hca:m'.ca=m.ca.filter fun d=>!decide (d.fr=(k:Int)):=by rw[<-hm']
  rw[hca];refine caGo_zero.2 ⟨fun d hd=>?_,fun q d hq=>(by cases hq),a3.filter _⟩
  have hd':=Xz.1 hd;have hne:d.fr≠(k:Int):=by simpa using hd'.2
  obtain⟨b1,b2,b3,b4⟩:=caE_ok (a1 d hd'.1);have hf:=hfa d.fr b1.2.2.2.2.1 hne;refine caE_of ?_ (by rw[hf];exact b2) (by rw[hf];exact b3) (by rw[hf];exact b4)
  rw[<-hm']
  simpa [bkN]using b1
 ·rw[Xy]at hg
  cases hT:T[q]? with
  | none=>rw[hT]at hg;cases hg
  | some g0=>
   rw[hT]at hg;simp only[Option.map_some,Option.some.injEq]at hg;subst hg;have hs0:m.sp[q]? =Xa s:=by rw[<-hm']at hs;exact hs
   unfold moveF
   by_cases hin:isE (g0 j) 1 (k:Int)=Xc
   ·rw[if_pos hin]
    rcases he with he | ⟨w1,w2,w3,w4⟩
    ·exact .inl he
    right;refine⟨w1,by omega,?_⟩
    simp only[isE,Xv,decide_eq_true_eq]at hin
    rcases h.ent q s g0 hs0 hT j hj with e0 | e0
    ·rw[e0]at hin;have:=hin.1
     simp[en0]at this
    have e3:=e0.2.2;unfold entE at e3⊢
    split at e3
    ·cases e3
    rename_i a1
    rw[if_neg a1,if_pos w2,if_neg];rw[if_neg (by omega),if_neg (by have:=(entE_present e0 (by omega)).2.2.1;omega)]at e3
    rw[hin.2,frAt_of hk]at e3
    split at e3
    ·cases e3
    rename_i a2
    rintro(h1 | h1)
    ·rw[hsl2]at h1;omega
    exact a2 (.inr (.inl ⟨h1,fun h2=>by omega⟩))
   rw[if_neg hin]
   rcases h.ent q s g0 hs0 hT j hj with e0 | e0
   ·exact .inl e0
   refine .inr ⟨e0.1,e0.2.1,entE_keep e0.2.2 hsl2 hfl2 fun hk2=>?_⟩
   obtain⟨c1,c2,c3,c4⟩:=entE_present e0 hk2;have hne:(g0 j).n≠(k:Int):=fun e2=>hin (by simp[isE,c1,e2])
   rw[hfa _ c2 hne];exact⟨rfl,rfl,c4⟩
 ·rw[<-hm']at hj⊢;simp only at hj⊢;have hu:=hold_move (k:Int) e 1 (j:Int) T;rw[if_neg (show¬isE e 1 (j:Int)=Xc by simp[isE,hek])]at hu
  by_cases e1:j=k
  ·subst e1;rw[sF hkl]at hj;cases hj;rw[if_pos ⟨rfl,rfl⟩]at hu;rw[hzero];exact⟨by simp[frF];omega,fun h=>by simp[frF]at h⟩
  rw[sN (fun h=>e1 h.symm)]at hj
  rw[if_neg (by omega)]at hu
  rw[hcount j (by omega)]
  have:=h.cf j g hj;refine⟨?_,this.2⟩;omega
 have hu:=hold_move (k:Int) e 2 (j:Int) T;rw[if_neg (by omega)]at hu
 have:sl'[j]? =Xa z:=by rw[<-hm']at hj;exact hj
 rw[hcs j z this];omega
theorem filter_none {m:Ma} {k:Nat} (h:cachedN m.ca (k:Int)=0):(m.ca.filter fun d=>!decide (d.fr=(k:Int)))=m.ca:=by
 rw[List.filter_eq_self];intro d hd;unfold cachedN at h;rw[Yv]at h;have:=h d hd
 simpa using this
theorem BInv.mine0 (h:BInv m T) {k:Nat} {fr:Fr} (hk:m.fs[k]? =Xa fr) (hf:fr.f=-1):cachedN m.ca (k:Int)=0:=by
 refine Classical.byContradiction fun hc=>?_
 obtain⟨c,hc1,hc2⟩:=cached_mem hc;obtain⟨b1,b2,b3,b4⟩:=caE_ok ((caGo_zero.1 h.ca).1 c hc1);rw[hc2,frAt_of hk]at b3;omega
end
def moveSp (k:Int) (e:En) (s:Sp):Sp:={ s with tb:=tabOf (moveF k e (flatN s)) }
theorem move_flat {m:Ma} (h:Rt m) {s:Sp} (hs:s∈m.sp) {k:Int} {e:En} (he:enW e=0):flatN (moveSp k e s)=moveF k e (flatN s):=by
 have hw:∀n,enW (moveF k e (flatN s) n)=0:=fun n=>by
  unfold moveF
  split
  ·exact he
  exact(h.tb hs).get _ _
 funext j
 by_cases hj:j<64
 ·unfold moveSp;unfold flatN;exact tabOf_at (fun n _=>hw n) hj
 have h0:flatN s j=en0:=by
  unfold flatN getN;rw[gN (l:=s.tb) (by rw[(h.tb hs).1];omega)]
  rfl
 have h1:flatN (moveSp k e s) j=en0:=by
  unfold flatN getN moveSp;simp only;rw[gN (l:=tabOf (moveF k e (flatN s))) (by simp[tabOf,tableOf];omega)]
  rfl
 rw[h1];unfold moveF;rw[h0,isE_none 1 k (by decide)]
 rfl
section
variable{m:Ma}
theorem move_tabs (h:Rt m) {k:Int} {e:En} (he:enW e=0):∀s∈m.sp.map (moveSp k e),TbOk s.tb:=fun s hs=>by
 obtain⟨s0,h0,rfl⟩:=Ya.1 hs;have hw:∀n,n<64->enW (moveF k e (flatN s0) n)=0:=fun n _=>by
  unfold moveF
  split
  ·exact he
  exact(h.tb h0).get _ _
 exact⟨by simp[moveSp,tabOf,tableOf],tbW_zero.1 (tabOf_ok hw)⟩
theorem move_at {k:Int} {e:En} {q:Nat} {s':Sp} (h:(m.sp.map (moveSp k e))[q]? =Xa s'):∃s,m.sp[q]? =Xa s/\s'=moveSp k e s:=by
 rw[Xy]at h
 cases hs:m.sp[q]? with
 | none=>rw[hs]at h;cases h
 | some s=>rw[hs]at h;simp only[Option.map_some,Option.some.injEq]at h;exact⟨s,rfl,h.symm⟩
theorem flats_move (h:Rt m) {k:Int} {e:En} (he:enW e=0) (sp':List Sp) (hsp:sp'=m.sp.map (moveSp k e)):sp'.map flatN=(flats m).map (moveF k e):=by
 rw[hsp];unfold flats;rw[List.map_map,List.map_map]
 apply Yw
 intro s hs;exact move_flat h hs he
theorem find_congr {α:Type} {p q:α->Bool}:∀{l:List α},(∀x∈l,p x=q x)->l.find? p=l.find? q
 | [],_=>rfl
 | x :: l,h=>by
  rw[List.find?_cons,List.find?_cons,h x (by simp),find_congr (l:=l) fun y hy=>h y (by simp[hy])]
theorem frAt_ne {m m':Ma} {k:Nat} {fr:Fr} (_hk:k<m.fs.length) (hf:m'.fs=m.fs.set k fr) {z:Int} (hz:0<=z) (hne:z≠(k:Int)):frAt m' z=frAt m z:=by
 unfold frAt;rw[hf,gD,gD,sN (by omega)]
def toSlot (m:Ma) (k j:Nat) (r:Int) (sb':List (List Int)) (sq':List (Int × List Int)):Ma:={ m with fs:=m.fs.set k frF,sl:=m.sl.set j r,sb:=sb',sq:=sq',sp:=m.sp.map (moveSp (k:Int) ⟨2,(j:Int),Xd⟩) }
theorem slot_ok (h:Rt m) {k j:Nat} {fr:Fr} {sb':List (List Int)} {sq':List (Int × List Int)} (hk:m.fs[k]? =Xa fr) (hf:fr.f=-1) (_hr:fr.r≠0) (hj:m.sl[j]? =Xa 0) (hsb:sb'.length=m.sb.length) (hsq:wrongL sb'.length sq'=0) (hrd:readL sb' sq' (j:Int)=pgL fr.p) (hro:∀i:Int,0<=i->i≠(j:Int)->readL sb' sq' i=readL m.sb m.sq i):
  Rt (toSlot m k j fr.r sb' sq')/\Sam (fun _ _=>False) m (toSlot m k j fr.r sb' sq'):=by
 have hkl:=(gS.1 hk).1;have hjl:=(gS.1 hj).1;have h60:=h.inv.sl60;have he:enW ⟨2,(j:Int),Xd⟩=0:=enW_of (by simp) ⟨by simp,by simp only;omega,fun h=>by simp at h⟩ (by simp)
 have hc0:=h.inv.mine0 hk hf;have hb:=h.inv.moved hk ⟨2,(j:Int),Xd⟩ (by simp) (sl':=m.sl.set j fr.r) (sb':=sb') (sq':=sq') (by simp) hsb hsq (fun i z hi=>by
  have hcf:=(h.inv.cf k fr hk).1
  by_cases e:i=j
  ·subst e;rw[sF hjl]at hi;cases hi;have:=h.inv.cs i 0 hj;rw[if_pos (by simp[isE])]
   omega
  rw[sN (fun h=>e h.symm)]at hi
  have:=h.inv.cs i z hi;rw[if_neg (by simp[isE];omega)]
  omega) (.inr ⟨he,rfl,by simp only;omega,hf⟩)
 rw[filter_none hc0]at hb;have hsp:(toSlot m k j fr.r sb' sq').sp=m.sp.map (moveSp (k:Int) ⟨2,(j:Int),Xd⟩):=rfl;have hT:=flats_move h (k:=(k:Int)) he _ hsp;have hbT:BInv (toSlot m k j fr.r sb' sq') (flats (toSlot m k j fr.r sb' sq')):=by
  unfold flats;rw[hT];refine BInv.tabs hb (sp':=(toSlot m k j fr.r sb' sq').sp) (by rw[hsp];simp) fun p s s' h1 h2=>?_
  rw[hsp]at h2;obtain⟨s0,h3,rfl⟩:=move_at h2;have h1':m.sp[p]? =Xa s:=h1;rw[h1']at h3;cases h3;exact⟨rfl,rfl⟩
 refine⟨Rt.of hbT (by rw[hsp];exact move_tabs h he) h.hand.1 (by show m.hand<max ((m.fs.set k frF).length:Int) 1;simpa using h.hand.2),?_⟩
 have hca:(toSlot m k j fr.r sb' sq').ca=m.ca:=rfl;have hcont:∀file idx,contL (toSlot m k j fr.r sb' sq') file idx=contL m file idx:=fun file idx=>by
  refine cont_same (m:=m) (m':=toSlot m k j fr.r sb' sq') rfl rfl rfl rfl (fun c hc=>?_) file idx
  have hne:c.fr≠(k:Int):=fun e=>by have:=cached_pos hc;rw[e]at this;exact this hc0
  rw[frAt_ne hkl (m':=toSlot m k j fr.r sb' sq') rfl (caE_ok ((caGo_zero.1 h.inv.ca).1 c hc)).1.2.2.2.2.1 hne]
 refine⟨by rw[hsp];simp,fun q s s' h1 h2=>?_,fun q n s s' h1 h2 hn _=>?_,rfl,fun _=>rfl,fun _=>rfl,fun file i _=>by rw[hcont]⟩
 ·rw[hsp]at h2;obtain⟨s0,h3,rfl⟩:=move_at h2;rw[h1]at h3;cases h3;exact⟨rfl,rfl⟩
 rw[hsp]at h2;obtain⟨s0,h3,rfl⟩:=move_at h2;rw[h1]at h3;cases h3;rw[move_flat h (mG h1) he];unfold moveF
 by_cases hin:isE (flatN s n) 1 (k:Int)=Xc
 ·rw[if_pos hin];simp only[isE,Xv,decide_eq_true_eq]at hin;unfold seeE
  by_cases hx:(onAt s.ars n).is=Xd
  ·rw[if_pos hx,if_pos hx]
  rw[if_neg hx,if_neg hx,if_neg (by simp),if_pos rfl,if_pos hin.1,hin.2,frAt_of hk]
  show(readL sb' sq' (j:Int),Xc,(0:Int))=_
  rw[hrd,hf];rfl
 rw[if_neg hin];have hen:=h.inv.en (flats_at h1) hn;have hn0:=(enW_zero hen).2.1.1;refine see_same rfl rfl (fun hk1=>?_) (fun hk2=>?_) (fun _=>rfl) hcont
 ·have hne:(flatN s n).n≠(k:Int):=fun e=>hin (by simp[isE,hk1,e])
  rw[frAt_ne hkl (m':=toSlot m k j fr.r sb' sq') rfl hn0 hne];exact⟨rfl,Iff.rfl⟩
 refine hro _ hn0 fun e=>?_
 have h5:=h.inv.cs j 0 hj;have h6:=hold_pos (flats_at h1) hn (kind:=2) (k:=(j:Int)) (by simp[isE,hk2,e]) (by decide)
 omega
def toFile (m:Ma) (k:Nat):Ma:={ m with fs:=m.fs.set k frF,ca:=m.ca.filter fun d=>!decide (d.fr=(k:Int)),sp:=m.sp.map (moveSp (k:Int) en0) }
theorem cut_in {p:List Int} {idx size:Int} {i:Nat} (h:8*idx+(i:Int)<size):(cutP p idx size).getD i 0=p.getD i 0:=by
 unfold cutP;rw[gD,gD,Yu]
 cases p[i]? with
 | none=>rfl
 | some z=>simp only[Option.map_some,Option.getD_some];rw[if_neg (by omega)]
theorem file_ok (h:Rt m) {k:Nat} {fr:Fr} (S:Nat->Nat->Prop) (hk:m.fs[k]? =Xa fr) (hf:0<=fr.f) (_hr:fr.r≠0) (hd:diskL m fr.f fr.x=cutP (pgL fr.p) fr.x (szAt m fr.f))
  (hS:cutP (pgL fr.p) fr.x (szAt m fr.f)=pgL fr.p\/∀(q n:Nat) s,m.sp[q]? =Xa s->n<64->(onAt s.ars n).is=Xc->(onAt s.ars n).file=fr.f->(onAt s.ars n).page=fr.x->(flatN s n).kind=0\/isE (flatN s n) 1 (k:Int)=Xc->S q n):
  Rt (toFile m k)/\Sam S m (toFile m k):=by
 have hkl:=(gS.1 hk).1;have hcf:=h.inv.cf k fr hk;obtain⟨c,hc,hcf2⟩:=cached_mem (hcf.2 hf);obtain⟨b1,b2,b3,b4⟩:=caE_ok ((caGo_zero.1 h.inv.ca).1 c hc);rw[hcf2,frAt_of hk]at b2 b3 b4;have hb:=h.inv.moved hk en0 (by decide) (sl':=m.sl) (sb':=m.sb) (sq':=m.sq) rfl rfl h.inv.sq (fun i z hi=>by
  have:=h.inv.cs i z hi;rw[if_neg (by simp[isE_none])]
  omega) (.inl rfl)
 have hsp:(toFile m k).sp=m.sp.map (moveSp (k:Int) en0):=rfl;have hT:=flats_move h (k:=(k:Int)) enW_0 _ hsp;have hbT:BInv (toFile m k) (flats (toFile m k)):=by
  unfold flats;rw[hT];refine BInv.tabs hb (sp':=(toFile m k).sp) (by rw[hsp];simp) fun p s s' h1 h2=>?_
  rw[hsp]at h2;obtain⟨s0,h3,rfl⟩:=move_at h2;have h1':m.sp[p]? =Xa s:=h1;rw[h1']at h3;cases h3;exact⟨rfl,rfl⟩
 refine⟨Rt.of hbT (by rw[hsp];exact move_tabs h enW_0) h.hand.1 (by show m.hand<max ((m.fs.set k frF).length:Int) 1;simpa using h.hand.2),?_⟩
 have hfind:∀file idx,(toFile m k).ca.find? (hitC file idx)=if file=fr.f/\idx=fr.x then Xb else m.ca.find? (hitC file idx):=fun file idx=>by
  show(m.ca.filter fun d=>!decide (d.fr=(k:Int))).find? (hitC file idx)=_
  by_cases e:file=fr.f/\idx=fr.x
  ·rw[if_pos e];rw[Yn];intro d hd hh;have hd':=Xz.1 hd;simp only[hitC,Xv,decide_eq_true_eq]at hh;have h1:=find_cached h.inv.ca hd'.1;have h2:=find_cached h.inv.ca hc;rw[hh.1,hh.2,e.1,e.2,b3,b4,h2]at h1;cases h1;have:=hd'.2
   simp[hcf2]at this
  rw[if_neg e];rw[List.find?_filter]
  apply find_congr
  intro d hd
  cases hh:hitC file idx d with
  | false=>simp
  | true=>
   simp only[hitC,Xv,decide_eq_true_eq]at hh;have:d.fr≠(k:Int):=fun h5=>by
    obtain⟨a1,a2,a3,a4⟩:=caE_ok ((caGo_zero.1 h.inv.ca).1 d hd);rw[h5,frAt_of hk]at a3 a4;exact e ⟨by rw[<-hh.1,a3],by rw[<-hh.2,a4]⟩
   simp[this]
 have hold:contL m fr.f fr.x=pgL fr.p:=by
  unfold contL;have:=find_cached h.inv.ca hc;rw[<-b3,<-b4]at this;rw[this];simp only;rw[hcf2,frAt_of hk]
 have hnew:contL (toFile m k) fr.f fr.x=cutP (pgL fr.p) fr.x (szAt m fr.f):=by
  unfold contL;rw[hfind,if_pos ⟨rfl,rfl⟩];exact hd
 have hoth:∀file idx,¬(file=fr.f/\idx=fr.x)->contL (toFile m k) file idx=contL m file idx:=fun file idx hne=>by
  unfold contL;rw[hfind,if_neg hne]
  cases hq:m.ca.find? (hitC file idx)with
  | none=>rfl
  | some d=>
   simp only;have hd1:=List.mem_of_find?_eq_some hq;obtain⟨a1,a2,a3,a4⟩:=caE_ok ((caGo_zero.1 h.inv.ca).1 d hd1);have hh:=List.find?_some hq;simp only[hitC,Xv,decide_eq_true_eq]at hh;rw[frAt_ne hkl (m':=toFile m k) rfl a1.2.2.2.2.1 (fun h5=>?_)]
   rw[h5,frAt_of hk]at a3 a4;exact hne ⟨by rw[<-hh.1,a3],by rw[<-hh.2,a4]⟩
 refine⟨by rw[hsp];simp,fun q s s' h1 h2=>?_,fun q n s s' h1 h2 hn hnS=>?_,rfl,fun _=>rfl,fun _=>rfl,fun file i hi=>?_⟩
 ·rw[hsp]at h2;obtain⟨s0,h3,rfl⟩:=move_at h2;rw[h1]at h3;cases h3;exact⟨rfl,rfl⟩
 ·rw[hsp]at h2;obtain⟨s0,h3,rfl⟩:=move_at h2;rw[h1]at h3;cases h3;rw[move_flat h (mG h1) enW_0];unfold moveF;have hbk:fr.x<bkN m fr.f:=by rw[b3,b4];exact b1.2.2.2.1
  have hcut:(onAt s.ars n).is=Xc->(onAt s.ars n).file=fr.f->(onAt s.ars n).page=fr.x->(flatN s n).kind=0\/isE (flatN s n) 1 (k:Int)=Xc->contL (toFile m k) fr.f fr.x=pgL fr.p:=fun g1 g2 g3 g4=>by
   rw[hnew]
   rcases hS with e | e
   ·exact e
   exact absurd (e q n s h1 hn g1 g2 g3 g4) hnS
  by_cases hin:isE (flatN s n) 1 (k:Int)=Xc
  ·rw[if_pos hin];have hin':=hin;simp only[isE,Xv,decide_eq_true_eq]at hin';have hent:EntOk m (onAt s.ars n) (flatN s n):=by
    rcases h.ent h1 hn with e | e
    ·rw[e]at hin';have:=hin'.1
     simp[en0]at this
    exact e
   have e3:=hent.2.2;unfold entE at e3
   split at e3
   ·cases e3
   rename_i a1
   rw[if_neg (by omega),if_neg (by have:=(entE_present hent (by omega)).2.2.1;omega),hin'.2,frAt_of hk]at e3
   split at e3
   ·cases e3
   rename_i a2
   have hit:0<=(onAt s.ars n).file/\fr.f=(onAt s.ars n).file/\fr.x=(onAt s.ars n).page:=Classical.byContradiction fun h5=>a2 (.inl ⟨by omega,h5⟩)
   have his:(onAt s.ars n).is=Xc:=by
    cases hx:(onAt s.ars n).is with
    | true=>rfl
    | false=>exact absurd hx a1
   unfold seeE;rw[if_neg a1,if_neg a1,if_neg (by decide),if_neg (by decide),if_neg (by omega),if_pos hin'.1,hin'.2,frAt_of hk,if_neg (by rw[<-hit.2.1,<-hit.2.2];show¬bkN m fr.f<=fr.x;omega),<-hit.2.1,<-hit.2.2,hcut his hit.2.1.symm hit.2.2.symm (.inr hin)]
   have:decide (fr.f<0)=Xd:=by simp;omega
   rw[this]
  rw[if_neg hin];have hen:=h.inv.en (flats_at h1) hn;have hn0:=(enW_zero hen).2.1.1;unfold seeE
  by_cases hx:(onAt s.ars n).is=Xd
  ·rw[if_pos hx,if_pos hx]
  rw[if_neg hx,if_neg hx]
  by_cases k1:(flatN s n).kind=1
  ·rw[if_pos k1,if_pos k1];have hne:(flatN s n).n≠(k:Int):=fun e=>hin (by simp[isE,k1,e])
   rw[frAt_ne hkl (m':=toFile m k) rfl hn0 hne]
  rw[if_neg k1,if_neg k1]
  by_cases k2:(flatN s n).kind=2
  ·rw[if_pos k2,if_pos k2];rfl
  rw[if_neg k2,if_neg k2];have hb0:bkN (toFile m k)=bkN m:=rfl;rw[hb0]
  by_cases k3:(onAt s.ars n).file<0
  ·rw[if_pos k3,if_pos k3]
  rw[if_neg k3,if_neg k3]
  by_cases k4:bkN m (onAt s.ars n).file<=(onAt s.ars n).page
  ·rw[if_pos k4,if_pos k4]
  rw[if_neg k4,if_neg k4]
  by_cases k5:(onAt s.ars n).file=fr.f/\(onAt s.ars n).page=fr.x
  ·have his:(onAt s.ars n).is=Xc:=by
    cases hx':(onAt s.ars n).is with
    | true=>rfl
    | false=>exact absurd hx' hx
   have hk0:(flatN s n).kind=0:=by have:=(enW_zero hen).1;omega
   have:=hcut his k5.1 k5.2 (.inl hk0);rw[k5.1,k5.2,this,hold]
  rw[hoth _ _ k5]
 by_cases e:(file:Int)=fr.f/\((i / 8:Nat):Int)=fr.x
 ·rw[e.1,e.2,hnew,hold];refine cut_in ?_;rw[e.1]at hi;rw[<-e.2];have:8*(i / 8)+i % 8=i:=by omega
  omega
 rw[hoth _ _ e]
end
theorem on_page:∀{l:List Ar} {p:Option Ar} {n:Nat},CanP p l->(onAt l n).is=Xc->0<=(onAt l n).page/\((onAt l n).page<=11\/(onAt l n).file<0)
 | [],_,_,_,h=>by cases h
 | a :: l,p,n,hc,h=>by
  unfold onAt at h⊢
  by_cases e:arIn a n=Xc
  ·rw[if_pos e]at h⊢;have ha:=hc.1;have e':=arIn_iff.1 e;unfold ArOk at ha;unfold oneOf;simp only
   split
   ·exact⟨by omega,.inl (by omega)⟩
   exact⟨by omega,.inr (by omega)⟩
  rw[if_neg e]at h⊢;exact on_page hc.2.2 h
theorem Rt.page {m:Ma} (h:Rt m) {p n:Nat} {s:Sp} (hs:m.sp[p]? =Xa s) (hx:(onAt s.ars n).is=Xc):0<=(onAt s.ars n).page:=
 (on_page (wrL_zero.1 (h.inv.spok s (mG hs)).1).2 hx).1
section
variable{m:Ma}
def putB (m:Ma) (file idx:Nat) (f:Fl) (b:Int) (db':List (List Int)) (dq':List (Int × List Int)):Ma:={ m with fl:=m.fl.set file ⟨f.size,f.bl.set idx b⟩,db:=db',dq:=dq' }
theorem blockW_ok (h:Rt m) {file idx b:Nat} {f:Fl} {db':List (List Int)} {dq':List (Int × List Int)} (hf:m.fl[file]? =Xa f) (hst:stW (m.fl.set file ⟨f.size,f.bl.set idx (b:Int)⟩) m.cnt=0)
  (hub:∀x,usedB (m.fl.set file ⟨f.size,f.bl.set idx (b:Int)⟩) x=Xc↔(usedB m.fl x=Xc/\x≠-1)\/x=(b:Int)\/(x=-1/\usedB (m.fl.set file ⟨f.size,f.bl.set idx (b:Int)⟩) x=Xc))
  (hdb:db'.length=m.db.length) (hdok:wrongL db'.length dq'=0) (hblk:∀i:Nat,db'[i]? =m.db[i]?\/∃q∈m.dq,q.1=(i:Int)) (hq:∀q∈dq',q.1=(b:Int)\/∃q'∈m.dq,q'.1=q.1) (hrd:∀i:Int,i≠(b:Int)->readL db' dq' i=readL m.db m.dq i)
  (_hb0:f.bl[idx]? =Xa (b:Int)\/(usedB m.fl (b:Int)=Xd)) (hc:∃c∈m.ca,c.file=(file:Int)/\c.idx=(idx:Int)) (hown:∀(i j:Nat) g,m.fl[i]? =Xa g->g.bl[j]? =Xa (b:Int)->i=file/\j=idx):
  (Rt (putB m file idx f (b:Int) db' dq')/\Sam (fun _ _=>False) m (putB m file idx f (b:Int) db' dq'))/\∀(i j:Nat),(j:Int)<bkN m (i:Int)->contL (putB m file idx f (b:Int) db' dq') (i:Int) (j:Int)=contL m (i:Int) (j:Int):=by
 have hfl:=(gS.1 hf).1;obtain⟨m',hm'⟩:∃m',putB m file idx f (b:Int) db' dq'=m':=⟨_,rfl⟩;have hsz:∀z,szAt m' z=szAt m z:=fun z=>by
  rw[<-hm'];unfold szAt putB;simp only[gD]
  by_cases e:z.toNat=file
  ·rw[e,sF hfl,hf];rfl
  rw[sN (fun h=>e h.symm)]
 have hbk:∀z,bkN m' z=bkN m z:=fun z=>by
  rw[<-hm'];unfold bkN putB;simp only[gD]
  by_cases e:z.toNat=file
  ·rw[e,sF hfl,hf];simp
  rw[sN (fun h=>e h.symm)]
 have hfr:∀z,frAt m' z=frAt m z:=fun z=>by rw[<-hm'];rfl
 have hfll:m'.fl.length=m.fl.length:=by rw[<-hm'];simp[putB]
 have hsp:m'.sp=m.sp:=by rw[<-hm'];rfl
 have hca:m'.ca=m.ca:=by rw[<-hm'];rfl
 have hbI:BInv m' (flats m'):=by
  have hT:flats m'=flats m:=by unfold flats;rw[hsp]
  rw[hT];have hi:=h.inv;refine⟨by rw[<-hm'];exact hi.fs40,by rw[<-hm'];exact hi.fok,by rw[<-hm'];exact hi.sl60,by rw[<-hm'];exact hi.sbl,by rw[<-hm'];exact hi.sq,by rw[<-hm'];exact hdok,by rw[<-hm'];exact hst,by rw[<-hm'];show m.cnt=(db'.length:Int);rw[hdb];exact hi.cnt,fun i hil hu=>?_,fun q hqm=>?_,by rw[hsp];exact hi.spl,by rw[hsp];exact hi.spok,by rw[hsp];exact hi.tl,?_,?_,by rw[<-hm'];exact hi.cf,by rw[<-hm'];exact hi.cs⟩
  ·rw[<-hm']at hil hu⊢;have hu':usedB m.fl (i:Int)=Xd:=by
    cases e:usedB m.fl (i:Int)with
    | false=>rfl
    | true=>
     have:=(hub (i:Int)).2 (.inl ⟨e,by omega⟩)
     have hu2:usedB (m.fl.set file ⟨f.size,f.bl.set idx (b:Int)⟩) (i:Int)=Xd:=hu;rw[hu2]at this;cases this
   show db'[i]? =_
   rcases hblk i with e | ⟨q,q1,q2⟩
   ·rw[e];exact hi.blk i (by rw[<-hdb];exact hil) hu'
   have:=hi.que q q1;rw[q2,hu']at this;cases this
  ·rw[<-hm']at hqm⊢
   show usedB (m.fl.set file ⟨f.size,f.bl.set idx (b:Int)⟩) q.1=Xc
   rcases hq q hqm with e | ⟨q',q1,q2⟩
   ·exact(hub _).2 (.inr (.inl e))
   refine(hub _).2 (.inl ⟨?_,?_⟩)
   ·rw[<-q2];exact hi.que q' q1
   have hd:=hi.dok;unfold wrongL at hd
   split at hd
   ·cases hd
   split at hd
   ·cases hd
   split at hd
   ·cases hd
   rename_i a
   intro e;refine a (List.any_eq_true.2 ⟨q',q1,?_⟩);rw[q2,e]
   simp[dkInB]
  ·obtain⟨a1,a2,a3⟩:=caGo_zero.1 hi.ca;rw[hca];refine caGo_zero.2 ⟨fun c hc=>?_,fun q c hq=>(by cases hq),a3⟩
   obtain⟨b1,b2,b3,b4⟩:=caE_ok (a1 c hc);refine caE_of ?_ (by rw[hfr];exact b2) (by rw[hfr];exact b3) (by rw[hfr];exact b4)
   rw[hfll,hbk];rw[<-hm'];exact b1
  intro p s g hs hg n hn;rw[hsp]at hs
  rcases hi.ent p s g hs hg n hn with e | e
  ·exact .inl e
  refine .inr ⟨e.1,e.2.1,entE_keep e.2.2 (by rw[<-hm'];rfl) (by rw[<-hm'];rfl) fun hk2=>?_⟩
  rw[hfr];exact⟨rfl,rfl,(entE_present e hk2).2.2.2⟩
 have hcont:∀(i j:Nat),(j:Int)<bkN m (i:Int)->contL m' (i:Int) (j:Int)=contL m (i:Int) (j:Int):=fun i j hij=>by
  unfold contL;rw[hca]
  cases hq:m.ca.find? (hitC (i:Int) (j:Int))with
  | some c=>simp only;rw[hfr]
  | none=>
   simp only;have hne:¬(i=file/\j=idx):=fun e=>by
    obtain⟨c,c1,c2,c3⟩:=hc;rw[Yn]at hq;refine hq c c1 ?_
    simp[hitC,c2,c3,e.1,e.2]
   have hbl:blAt m' (i:Int) (j:Int)=blAt m (i:Int) (j:Int):=by
    rw[<-hm'];unfold blAt putB;simp only[gD,tN]
    by_cases e:i=file
    ·subst e;rw[sF hfl,hf];simp only[Option.getD_some];rw[sN (fun h=>hne ⟨rfl,h.symm⟩)]
    rw[sN (fun h=>e h.symm)]
   rw[hbl,hsz]
   by_cases hlt:blAt m (i:Int) (j:Int)<0
   ·rw[if_pos hlt,if_pos hlt]
   rw[if_neg hlt,if_neg hlt];have hil:i<m.fl.length:=Classical.byContradiction fun h1=>by
    unfold bkN at hij;simp only[gD,tN]at hij;rw[gN (by omega)]at hij
    simp only[Option.getD_none,Yr]at hij;omega
   have hg:=gE hil;have hj:j< (m.fl[i]).bl.length:=by
    unfold bkN at hij;simp only[gD,tN,hg,Option.getD_some]at hij;omega
   have:blAt m (i:Int) (j:Int)≠(b:Int):=fun e=>by
    unfold blAt at e;simp only[gD,tN,hg,Option.getD_some,gE hj]at e;exact hne (hown i j _ hg (by rw[gE hj,e]))
   rw[show readL m'.db m'.dq (blAt m (i:Int) (j:Int))=readL db' dq' (blAt m (i:Int) (j:Int)) by rw[<-hm'];rfl,hrd _ this]
 rw[hm'];refine⟨?_,hcont⟩;refine⟨Rt.of hbI (by rw[hsp];exact fun s hs=>h.tb hs) (by rw[<-hm'];exact h.hand.1) (by rw[<-hm'];exact h.hand.2),⟨by rw[hsp],fun q s s' h1 h2=>?_,fun q n s s' h1 h2 hn _=>?_,hfll,hsz,hbk,fun fi k hk=>?_⟩⟩
 ·rw[hsp,h1]at h2;cases h2;exact⟨rfl,rfl⟩
 ·rw[hsp,h1]at h2;cases h2;unfold seeE;rw[hfr,hbk]
  by_cases hx:(onAt s.ars n).is=Xd
  ·rw[if_pos hx,if_pos hx]
  rw[if_neg hx,if_neg hx]
  by_cases k1:(flatN s n).kind=1
  ·rw[if_pos k1,if_pos k1]
  rw[if_neg k1,if_neg k1]
  by_cases k2:(flatN s n).kind=2
  ·rw[if_pos k2,if_pos k2];rw[<-hm'];rfl
  rw[if_neg k2,if_neg k2]
  by_cases k3:(onAt s.ars n).file<0
  ·rw[if_pos k3,if_pos k3]
  rw[if_neg k3,if_neg k3]
  by_cases k4:bkN m (onAt s.ars n).file<=(onAt s.ars n).page
  ·rw[if_pos k4,if_pos k4]
  rw[if_neg k4,if_neg k4];have his:(onAt s.ars n).is=Xc:=by
   cases hx':(onAt s.ars n).is with
   | true=>rfl
   | false=>exact absurd hx' hx
  have hp:=h.page h1 his;have:=hcont (onAt s.ars n).file.toNat (onAt s.ars n).page.toNat (by
   rw[show(((onAt s.ars n).file.toNat:Nat):Int)=(onAt s.ars n).file by omega,show(((onAt s.ars n).page.toNat:Nat):Int)=(onAt s.ars n).page by omega]
   omega)
  rw[show(((onAt s.ars n).file.toNat:Nat):Int)=(onAt s.ars n).file by omega,show(((onAt s.ars n).page.toNat:Nat):Int)=(onAt s.ars n).page by omega]at this
  rw[this]
 rw[hcont fi (k / 8) ?_]
 by_cases h1:fi<m.fl.length
 ·have hg:=gE h1;obtain⟨k1,k2,k3⟩:=((stW_zero _ _).1 h.inv.st).2.1 _ (mG hg);unfold szAt at hk;simp only[gD,tN,hg,Option.getD_some]at hk;unfold bkN;simp only[gD,tN,hg,Option.getD_some];unfold cntP at k2
  split at k2 <;> omega
 unfold szAt at hk;simp only[gD,tN]at hk;rw[gN (by omega)]at hk
 simp only[Option.getD_none]at hk;omega
end
def Unc (m:Ma) (file idx:Int):Prop:=∀c∈m.ca,¬(c.file=file/\c.idx=idx)
theorem Unc.find {m:Ma} {file idx:Int} (h:Unc m file idx):m.ca.find? (hitC file idx)=Xb:=by
 rw[Yn];intro c hc hh;simp only[hitC,Xv,decide_eq_true_eq]at hh;exact h c hc hh
structure Goes (S:Nat->Nat->Prop) (m m':Ma):Prop where
 rt:Rt m'
 sam:Sam S m m'
 fsl:m'.fs.length=m.fs.length
 bare:∀(q n:Nat) s s',m.sp[q]? =Xa s->m'.sp[q]? =Xa s'->n<64->flatN s n=en0->flatN s' n=en0
 unc:∀(file idx:Nat),(idx:Int)<bkN m (file:Int)->Unc m (file:Int) (idx:Int)->Unc m' (file:Int) (idx:Int)/\contL m' (file:Int) (idx:Int)=contL m (file:Int) (idx:Int)
theorem Goes.refl {S:Nat->Nat->Prop} {m:Ma} (h:Rt m):Goes S m m:=⟨h,Sam.refl S m,rfl,fun q n s s' h1 h2 _ h0=>by rw[h1]at h2;cases h2;exact h0,fun _ _ _ h=>⟨h,rfl⟩⟩
theorem Goes.trans {S:Nat->Nat->Prop} {a b c:Ma} (h:Goes S a b) (k:Goes S b c):Goes S a c:=by
 refine⟨k.rt,(h.sam.trans k.sam).mono (fun _ _ e=>e.elim id id),k.fsl.trans h.fsl,fun q n s s' h1 h2 hn h0=>?_,fun file idx hi hu=>?_⟩
 ·have:∃t,b.sp[q]? =Xa t:=⟨_,gE (by rw[h.sam.spl];exact(gS.1 h1).1)⟩
  obtain⟨t,ht⟩:=this;exact k.bare q n t s' ht h2 hn (h.bare q n s t h1 ht hn h0)
 obtain⟨u1,u2⟩:=h.unc file idx hi hu;obtain⟨v1,v2⟩:=k.unc file idx (by rw[h.sam.bk];exact hi) u1
 exact⟨v1,v2.trans u2⟩
theorem Goes.bareOk {S:Nat->Nat->Prop} {m m':Ma} (h:Goes S m m') {x:Nat × Nat} (hb:Bare m x):Bare m' x:=by
 obtain⟨s,h1,h2,h3,h4,h5⟩:=hb;have:∃t,m'.sp[x.1]? =Xa t:=⟨_,gE (by rw[h.sam.spl];exact(gS.1 h1).1)⟩
 obtain⟨t,ht⟩:=this;have e:=(h.sam.sp x.1 s t h1 ht).2;exact⟨t,ht,h2,h.bare x.1 x.2 s t h1 ht h2 h3,by rw[e];exact h4,by rw[e];exact h5⟩
section
variable{m:Ma}
theorem move_bare (h:Rt m) {k:Int} {e:En} (he:enW e=0) {q n:Nat} {s s':Sp} (h1:m.sp[q]? =Xa s) (h2:(m.sp.map (moveSp k e))[q]? =Xa s') (h0:flatN s n=en0):flatN s' n=en0:=by
 obtain⟨s0,h3,rfl⟩:=move_at h2;rw[h1]at h3;cases h3;rw[move_flat h (mG h1) he];unfold moveF;rw[h0,if_neg (by simp[isE,en0])]
theorem slot_goes (S:Nat->Nat->Prop) (h:Rt m) {k j:Nat} {fr:Fr} {sb':List (List Int)} {sq':List (Int × List Int)} (hk:m.fs[k]? =Xa fr) (hf:fr.f=-1) (hr:fr.r≠0) (hj:m.sl[j]? =Xa 0) (hsb:sb'.length=m.sb.length) (hsq:wrongL sb'.length sq'=0) (hrd:readL sb' sq' (j:Int)=pgL fr.p) (hro:∀i:Int,0<=i->i≠(j:Int)->readL sb' sq' i=readL m.sb m.sq i):
  Goes S m (toSlot m k j fr.r sb' sq'):=by
 obtain⟨r1,r2⟩:=slot_ok h hk hf hr hj hsb hsq hrd hro;have h60:=h.inv.sl60;have hjl:=(gS.1 hj).1;have he:enW ⟨2,(j:Int),Xd⟩=0:=enW_of (by simp) ⟨by simp,by simp only;omega,fun h=>by simp at h⟩ (by simp)
 refine⟨r1,r2.mono (fun _ _ e=>e.elim),by simp[toSlot],fun q n s s' h1 h2 _ h0=>move_bare h he h1 h2 h0,fun file idx _ hu=>⟨hu,?_⟩⟩
 unfold contL;rw[show(toSlot m k j fr.r sb' sq').ca.find? (hitC (file:Int) (idx:Int))=Xb from hu.find,hu.find]
 rfl
theorem file_goes (h:Rt m) {k:Nat} {fr:Fr} (S:Nat->Nat->Prop) (hk:m.fs[k]? =Xa fr) (hf:0<=fr.f) (hr:fr.r≠0) (hd:diskL m fr.f fr.x=cutP (pgL fr.p) fr.x (szAt m fr.f))
  (hS:cutP (pgL fr.p) fr.x (szAt m fr.f)=pgL fr.p\/∀(q n:Nat) s,m.sp[q]? =Xa s->n<64->(onAt s.ars n).is=Xc->(onAt s.ars n).file=fr.f->(onAt s.ars n).page=fr.x->(flatN s n).kind=0\/isE (flatN s n) 1 (k:Int)=Xc->S q n):
  Goes S m (toFile m k):=by
 obtain⟨r1,r2⟩:=file_ok h S hk hf hr hd hS;have hu':∀file idx,Unc m file idx->Unc (toFile m k) file idx:=fun file idx hu c hc=>hu c (Xz.1 hc).1
 refine⟨r1,r2,by simp[toFile],fun q n s s' h1 h2 _ h0=>move_bare h enW_0 h1 h2 h0,fun file idx _ hu=>⟨hu' _ _ hu,?_⟩⟩
 unfold contL;rw[(hu' _ _ hu).find,hu.find];rfl
theorem marks_goes (S:Nat->Nat->Prop) (h:Rt m) {k:Nat} {fr:Fr} (hk:m.fs[k]? =Xa fr) (hr:fr.r≠0) (u d:Bool):Goes S m { m with fs:=m.fs.set k { fr with u:=u,d:=d } }:=by
 obtain⟨r1,r2⟩:=marks_ok h hk hr u d;refine⟨r1,r2.mono (fun _ _ e=>e.elim),by simp,fun q n s s' h1 h2 _ h0=>?_,fun file idx _ hu=>⟨hu,?_⟩⟩
 ·have:m.sp[q]? =Xa s':=h2;rw[h1]at this;cases this;exact h0
 exact cont_frame (gS.1 hk).1 h.inv.ca (fun _=>by rw[frAt_of hk]) _ _
theorem hand_goes (S:Nat->Nat->Prop) (h:Rt m) {z:Int} (h0:0<=z) (h1:z<max (m.fs.length:Int) 1):Goes S m { m with hand:=z }:=by
 have hb:=h.inv;have hb':BInv { m with hand:=z } (flats { m with hand:=z }):=⟨hb.fs40,hb.fok,hb.sl60,hb.sbl,hb.sq,hb.dok,hb.st,hb.cnt,hb.blk,hb.que,hb.spl,hb.spok,hb.tl,caGo_zero.2 ⟨fun c hc=>(caGo_zero.1 hb.ca).1 c hc,fun _ _ hq=>(by cases hq),(caGo_zero.1 hb.ca).2.2⟩,hb.ent,hb.cf,hb.cs⟩
 refine⟨Rt.of hb' (fun s hs=>h.tb hs) h0 h1,⟨rfl,fun q s s' h1 h2=>?_,fun q n s s' h1 h2 _ _=>?_,rfl,fun _=>rfl,fun _=>rfl,fun _ _ _=>rfl⟩,rfl,fun q n s s' h1 h2 _ h3=>?_,fun file idx _ hu=>⟨hu,rfl⟩⟩
 ·have:m.sp[q]? =Xa s':=h2;rw[h1]at this;cases this;exact⟨rfl,rfl⟩
 ·have:m.sp[q]? =Xa s':=h2;rw[h1]at this;cases this;rfl
 have:m.sp[q]? =Xa s':=h2;rw[h1]at this;cases this;exact h3
end
theorem Goes.mono {S S':Nat->Nat->Prop} {a b:Ma} (h:Goes S a b) (hS:∀q n,S q n->S' q n):Goes S' a b:=⟨h.rt,h.sam.mono hS,h.fsl,h.bare,h.unc⟩
section
variable{m:Ma} {p n:Nat} {s:Sp}
theorem drop_goes (h:Rt m) (hs:m.sp[p]? =Xa s) (hn:n<64):Goes (fun q j=>q=p/\j=n) m (dropM m p n)/\(∀s',(dropM m p n).sp[p]? =Xa s'->flatN s' n=en0)/\(dropM m p n).ca=m.ca/\(dropM m p n).fl=m.fl/\∀(q j:Nat) s s',m.sp[q]? =Xa s->(dropM m p n).sp[q]? =Xa s'->¬(q=p/\j=n)->flatN s' j=flatN s j:=by
 have hd:m.sp.getD p ⟨Xd,[],[]⟩=s:=by rw[gD,hs];rfl
 have ht:∀s∈m.sp,TbOk s.tb:=fun s hs=>h.tb hs
 obtain⟨r1,r2⟩:=drop_ok h hs hn;have key:∃m1,dropM m p n=putE m1 p n en0/\m1.sp=m.sp/\m1.ca=m.ca/\m1.fl=m.fl/\m1.fs.length=m.fs.length/\∀file idx,contL m1 file idx=contL m file idx:=by
  unfold dropM;simp only[hd]
  by_cases h1:(flatN s n).kind=1
  ·rw[if_pos h1];obtain⟨k,fr,e1,e2,e3,e4⟩:=h.present hs hn h1;rw[e3,e1,tN];exact⟨_,rfl,rfl,rfl,rfl,by simp,fun file idx=>cont_letGo h.inv e2 (flats_at hs) hn h1 e1 file idx⟩
  rw[if_neg h1]
  by_cases h2:(flatN s n).kind=2
  ·rw[if_pos h2];exact⟨_,rfl,rfl,rfl,rfl,rfl,fun _ _=>rfl⟩
  rw[if_neg h2];exact⟨_,rfl,rfl,rfl,rfl,rfl,fun _ _=>rfl⟩
 obtain⟨m1,k1,k2,k3,k4,k5,k6⟩:=key;rw[k1]at r1 r2⊢;have ht1:∀s∈m1.sp,TbOk s.tb:=by rw[k2];exact ht
 have oth:∀(q j:Nat) s s',m.sp[q]? =Xa s->(putE m1 p n en0).sp[q]? =Xa s'->¬(q=p/\j=n)->flatN s' j=flatN s j:=fun q j s s' h1 h2 h3=>put_other ht1 hn enW_0 (by rw[k2];exact h1) h2 h3
 have now:∀s',(putE m1 p n en0).sp[p]? =Xa s'->flatN s' n=en0:=fun s' h1=>(put_now ht1 (by rw[k2];exact hs) hn enW_0 h1).1
 refine⟨⟨r1,r2,k5,fun q j s s' h1 h2 _ h0=>?_,fun file idx _ hu=>⟨fun c hc=>hu c (by rw[<-k3];exact hc),k6 _ _⟩⟩,now,k3,k4,oth⟩
 by_cases e:q=p/\j=n
 ·obtain⟨rfl,rfl⟩:=e;exact now s' h2
 rw[oth q j s s' h1 h2 e];exact h0
end
def dropAll (m:Ma):List (Nat × Nat)->Ma
 | []=>m
 | x :: l=>dropAll (dropM m x.1 x.2) l
theorem dropAll_goes:∀(l:List (Nat × Nat)) {m:Ma},Rt m->(∀x∈l,x.2<64/\∃s,m.sp[x.1]? =Xa s)->
  Goes (fun q j=>(q,j)∈l) m (dropAll m l)/\(∀x∈l,∀s',(dropAll m l).sp[x.1]? =Xa s'->flatN s' x.2=en0)/\(dropAll m l).ca=m.ca/\(dropAll m l).fl=m.fl/\∀(q j:Nat) s s',m.sp[q]? =Xa s->(dropAll m l).sp[q]? =Xa s'->(q,j)∉l->flatN s' j=flatN s j
 | [],m,h,_=>⟨Goes.refl h,fun x hx=>(by cases hx),rfl,rfl,fun q j s s' h1 h2 _=>by simp only[dropAll]at h2;rw[h1]at h2;cases h2;rfl⟩
 | x :: l,m,h,hl=>by
  obtain⟨hn,s,hs⟩:=hl x (Xs ..);obtain⟨g1,g2,g3,g4,g5⟩:=drop_goes h hs hn;have at1:∀(q:Nat) s,m.sp[q]? =Xa s->∃s',(dropM m x.1 x.2).sp[q]? =Xa s':=fun q s hs=>⟨_,gE (by rw[g1.sam.spl];exact(gS.1 hs).1)⟩
  obtain⟨r1,r2,r3,r4,r5⟩:=dropAll_goes l g1.rt (fun y hy=>by
   obtain⟨a1,t,a2⟩:=hl y (Xt _ hy);exact⟨a1,at1 y.1 t a2⟩)
  refine⟨(g1.mono ?_).trans (r1.mono fun q j e=>Xt _ e),fun y hy s' hs'=>?_,r3.trans g3,r4.trans g4,fun q j s s' h1 h2 h3=>?_⟩
  ·rintro q j ⟨rfl,rfl⟩;exact Xs ..
  ·by_cases hy2:y∈l
   ·exact r2 y hy2 s' hs'
   rcases mC.1 hy with rfl | e
   ·obtain⟨s1,hs1⟩:=at1 y.1 s hs;rw[r5 y.1 y.2 s1 s' hs1 hs' hy2];exact g2 s1 hs1
   exact absurd e hy2
  obtain⟨sq,hsq⟩:=at1 q s h1;rw[r5 q j sq s' hsq h2 (fun e=>h3 (Xt _ e))]
  refine g5 q j s sq h1 hsq (fun e=>h3 ?_)
  have:(q,j)=x:=Prod.ext e.1 e.2;rw[this];exact Xs ..
theorem cut_cut (p:List Int) (idx size:Int):cutP (cutP p idx size) idx size=cutP p idx size:=by
 unfold cutP
 apply Xw
 intro i;simp only[Yu]
 cases p[i]? with
 | none=>rfl
 | some z=>
  simp only[Option.map_some,Option.some.injEq]
  split <;> rfl
theorem write_disk {m:Ma} {file idx b:Nat} {f:Fl} {db':List (List Int)} {dq':List (Int × List Int)} (hf:m.fl[file]? =Xa f) (hi:idx<f.bl.length) {p:List Int} (hrd:readL db' dq' (b:Int)=cutP p (idx:Int) (szAt m (file:Int))):
  diskL (putB m file idx f (b:Int) db' dq') (file:Int) (idx:Int)=cutP p (idx:Int) (szAt m (file:Int)):=by
 have hfl:=(gS.1 hf).1;have hb:blAt (putB m file idx f (b:Int) db' dq') (file:Int) (idx:Int)=(b:Int):=by
  unfold blAt putB;simp only[gD,tN];rw[sF hfl];simp only[Option.getD_some];rw[sF hi];rfl
 have hs:szAt (putB m file idx f (b:Int) db' dq') (file:Int)=szAt m (file:Int):=by
  unfold szAt putB;simp only[gD,tN];rw[sF hfl,hf];rfl
 unfold diskL;rw[hb,hs,if_neg (by omega),show readL (putB m file idx f (b:Int) db' dq').db (putB m file idx f (b:Int) db' dq').dq (b:Int)=readL db' dq' (b:Int)from rfl,hrd,cut_cut]
theorem Sam.fill {S S':Nat->Nat->Prop} {m m':Ma} (h:Sam S m m') (hS:∀(q n:Nat) s s',m.sp[q]? =Xa s->m'.sp[q]? =Xa s'->n<64->S q n->¬S' q n->seeE m' (onAt s.ars n) (flatN s' n)=seeE m (onAt s.ars n) (flatN s n)):Sam S' m m':=by
 refine⟨h.spl,h.sp,fun q n s s' h1 h2 hn hn'=>?_,h.fll,h.sz,h.bk,h.byt⟩
 by_cases e:S q n
 ·exact hS q n s s' h1 h2 hn e hn'
 exact h.see q n s s' h1 h2 hn e
section
variable{m m2:Ma} {k:Nat} {fr:Fr}
theorem copied {l:List (Nat × Nat)} (h:Rt m) (hl:l≠[]) (hd:l.Nodup) (hx:∀x∈l,x.2<64/\∃s,m.sp[x.1]? =Xa s/\(onAt s.ars x.2).is=Xc/\(onAt s.ars x.2).sh=Xd) (hg:Goes (fun q j=>(q,j)∈l) (dropAll m l) m2) (hk:m2.fs[k]? =Xa fr) (hr:fr.r=0) (pg:Pg) (u:Bool):
  Rt (copyM m2 k pg u l)/\Sam (fun q j=>(q,j)∈l) m (copyM m2 k pg u l)/\(copyM m2 k pg u l).fs[k]? =Xa ⟨pg,(l.length:Int),u,Xd,-1,0⟩/\(∀x∈l,∀s',(copyM m2 k pg u l).sp[x.1]? =Xa s'->flatN s' x.2=⟨1,(k:Int),Xd⟩):=by
 obtain⟨d1,d2,d3,d4,d5⟩:=dropAll_goes l h (fun x hxl=>by obtain⟨a,s,b,_⟩:=hx x hxl;exact⟨a,s,b⟩)
 have hb:∀x∈l,Bare (dropAll m l) x:=fun x hxl=>by
  obtain⟨a,s,b,c,d⟩:=hx x hxl;have:∃t,(dropAll m l).sp[x.1]? =Xa t:=⟨_,gE (by rw[d1.sam.spl];exact(gS.1 b).1)⟩
  obtain⟨t,ht⟩:=this;have e:=(d1.sam.sp x.1 s t b ht).2;exact⟨t,ht,a,d2 x hxl t ht,by rw[e];exact c,by rw[e];exact d⟩
 obtain⟨c1,c2,c3⟩:=copy_ok hg.rt hk hr pg u hl (fun x hxl=>hg.bareOk (hb x hxl)) hd
 refine⟨c1,((d1.trans hg).sam.trans c2).mono (fun _ _ e=>e.elim id id),?_,c3⟩
 show(m2.fs.set k _)[k]? =_
 rw[sF (gS.1 hk).1]
theorem copied_see {l:List (Nat × Nat)} {mc:Ma} {pg:Pg} {r:Int} {u:Bool} (hs:Sam (fun q j=>(q,j)∈l) m mc) (hk:mc.fs[k]? =Xa ⟨pg,r,u,Xd,-1,0⟩) (hc:∀x∈l,∀s',mc.sp[x.1]? =Xa s'->flatN s' x.2=⟨1,(k:Int),Xd⟩)
  (S:Nat->Nat->Prop) (hv:∀(q n:Nat) s,m.sp[q]? =Xa s->n<64->(q,n)∈l->¬S q n->(onAt s.ars n).is=Xc/\seeE m (onAt s.ars n) (flatN s n)=(pgL pg,Xc,0)):Sam S m mc:=by
 refine hs.fill fun q n s s' h1 h2 hn h3 h4=>?_
 obtain⟨a,b⟩:=hv q n s h1 hn h3 h4;rw[hc (q,n) h3 s' h2,see_in a hk,b];rfl
end
section
variable{m:Ma} {k p n:Nat} {fr:Fr} {s:Sp}
theorem ent_wr (h:Rt m) {x:On} {w:Bool} (he:EntOk m x ⟨1,(k:Int),w⟩) (hk:m.fs[k]? =Xa fr) (hw:x.wr=Xc) (hc:(fr.f=-1/\fr.r<=1)\/x.sh=Xc):EntOk m x ⟨1,(k:Int),Xc⟩:=by
 have hkl:=(gS.1 hk).1;refine⟨enW_in h.inv hkl Xc,by simp,?_⟩
 have e3:=he.2.2;unfold entE at e3⊢
 split at e3
 ·cases e3
 rename_i a1
 rw[if_neg a1];simp only at e3⊢;rw[if_neg (by decide),if_neg (by omega),frAt_of hk]at e3
 rw[if_neg (by decide),if_neg (by omega),frAt_of hk]
 split at e3
 ·cases e3
 rename_i a2
 rw[if_neg];rintro(h4 | h4 | h4 | h4 | h4)
 ·exact a2 (.inl h4)
 ·exact a2 (.inr (.inl h4))
 ·rw[hw]at h4;cases h4.2
 ·rcases hc with⟨c1,c2⟩ | c
  ·have:=h4.2.1;omega
  rw[c]at h4;cases h4.2.2
 rcases hc with⟨c1,c2⟩ | c
 ·have:=h4.2.2;omega
 refine a2 (.inr (.inl ⟨c,fun hh=>?_⟩))
 have:=h4.2.1;omega
def markM (m:Ma) (p n k:Nat) (fr:Fr) (write sh:Bool):Ma:=
 if write=Xc then putE { m with fs:=m.fs.set k { fr with u:=true,d:=fr.d || sh } } p n ⟨1,(k:Int),Xc⟩
 else{ m with fs:=m.fs.set k { fr with u:=true,d:=fr.d } }
theorem mark_ok (h:Rt m) (hs:m.sp[p]? =Xa s) (hn:n<64) (hk:m.fs[k]? =Xa fr) {w:Bool} (hen:flatN s n=⟨1,(k:Int),w⟩) (write:Bool) (hw:write=Xc->(onAt s.ars n).wr=Xc/\((fr.f=-1/\fr.r<=1)\/(onAt s.ars n).sh=Xc)):
  Rt (markM m p n k fr write (onAt s.ars n).sh)/\Sam (fun _ _=>False) m (markM m p n k fr write (onAt s.ars n).sh)/\(∃u d,(markM m p n k fr write (onAt s.ars n).sh).fs[k]? =Xa { fr with u:=u,d:=d })/\∀s',(markM m p n k fr write (onAt s.ars n).sh).sp[p]? =Xa s'->flatN s' n=⟨1,(k:Int),w || write⟩:=by
 have hkl:=(gS.1 hk).1;have hr:fr.r≠0:=by
  obtain⟨k',fr',e1,e2,e3,e4⟩:=h.present hs hn (by rw[hen])
  rw[hen]at e1;have:k=k':=Int.ofNat.inj e1;subst this;rw[hk]at e2;cases e2;exact e4
 unfold markM
 cases write with
 | false=>
  rw[if_neg (by decide)]
  obtain⟨r1,r2⟩:=marks_ok h hk hr Xc fr.d;refine⟨r1,r2,⟨Xc,fr.d,by simp only;rw[sF hkl]⟩,fun s' hs'=>?_⟩
  have:m.sp[p]? =Xa s':=hs';rw[hs]at this;cases this;rw[hen,Bool.or_false]
 | true=>
  rw[if_pos rfl];obtain⟨r1,r2⟩:=marks_ok h hk hr Xc (fr.d || (onAt s.ars n).sh);obtain⟨w1,w2⟩:=hw rfl;have hk1:({ m with fs:=m.fs.set k { fr with u:=true,d:=fr.d || (onAt s.ars n).sh } }:Ma).fs[k]? =Xa { fr with u:=true,d:=fr.d || (onAt s.ars n).sh }:=by
   simp only;rw[sF hkl]
  have hent:EntOk { m with fs:=m.fs.set k { fr with u:=true,d:=fr.d || (onAt s.ars n).sh } } (onAt s.ars n) (flatN s n):=by
   rcases r1.ent (p:=p) (s:=s) hs hn with e | e
   ·rw[hen]at e;cases e
   exact e
  rw[hen]at hent;have hent2:=ent_wr r1 hent hk1 w1 w2;obtain⟨a1,a2⟩:=allow_ok r1 (p:=p) (s:=s) hs hn (e:=⟨1,(k:Int),Xc⟩) (by rw[hen]) (by rw[hen]) hent2
  refine⟨a1,(r2.trans a2).mono (fun _ _ e=>e.elim id id),⟨Xc,fr.d || (onAt s.ars n).sh,hk1⟩,fun s' hs'=>?_⟩
  rw[(put_now (m1:={ m with fs:=m.fs.set k { fr with u:=true,d:=fr.d || (onAt s.ars n).sh } }) (fun s hs=>h.tb hs) hs hn hent2.1 hs').1,Bool.or_true]
theorem page_ok (h:Rt m) (hs:m.sp[p]? =Xa s) (hn:n<64) (hk:m.fs[k]? =Xa fr) {w:Bool} (hen:flatN s n=⟨1,(k:Int),w⟩) (pg:Pg):Rt { m with fs:=m.fs.set k { fr with p:=pg } }/\viewR { m with fs:=m.fs.set k { fr with p:=pg } } (p:Int) (n:Int)=(pgL pg,decide (fr.f<0),0):=by
 have hkl:=(gS.1 hk).1;obtain⟨k',fr',e1,e2,e3,e4⟩:=h.present hs hn (by rw[hen])
 rw[hen]at e1;have:k=k':=Int.ofNat.inj e1;subst this;rw[hk]at e2;cases e2;refine⟨Rt.of (h.inv.marks (p:=pg) (u:=fr.u) (d:=fr.d) hk e4) (fun s hs=>h.tb hs) h.hand.1 (by simpa using h.hand.2),?_⟩
 have hx:(onAt s.ars n).is=Xc:=by
  rcases h.ent hs hn with e | e
  ·rw[hen]at e;cases e
  have e5:=e.2.2;unfold entE at e5
  split at e5
  ·cases e5
  rename_i a
  cases hx:(onAt s.ars n).is with
  | true=>rfl
  | false=>exact absurd hx a
 rw[view_see (m:={ m with fs:=m.fs.set k { fr with p:=pg } }) hs hn,hen,see_in hx (fr:={ fr with p:=pg }) (by simp only;rw[sF hkl])]
end
def fitN (s:Sp) (kind k:Int):List Nat:=(List.range 64).filter fun n=>enS (flatN s n) && fitB kind k (flatN s n)
def hdrTo (m:Ma) (kind k:Int) (q:Nat):List (Nat × Nat):=(List.range q).flatMap fun p=>(fitN (m.sp.getD p ⟨Xd,[],[]⟩) kind k).map fun n=>(p,n)
theorem hdrTo_zero (m:Ma) (kind k:Int):hdrTo m kind k 0=[]:=rfl
theorem hdrTo_succ (m:Ma) (kind k:Int) (q:Nat):hdrTo m kind k (q+1)=hdrTo m kind k q++(fitN (m.sp.getD q ⟨Xd,[],[]⟩) kind k).map fun n=>(q,n):=by
 unfold hdrTo;rw[List.range_succ,Yi];simp
theorem fitN_mem {s:Sp} {kind k:Int} (hk:kind≠0) {n:Nat}:n∈fitN s kind k↔n<64/\isE (flatN s n) kind k=Xc:=by
 unfold fitN;rw[Xz,Yd];refine and_congr_right fun _=>?_
 unfold enS fitB isE;simp only[Xv,decide_eq_true_eq,bne_iff_ne,ne_eq,beq_iff_eq];constructor
 ·rintro⟨_,h⟩;exact h
 rintro⟨h1,h2⟩;exact⟨by rw[h1];exact hk,h1,h2⟩
theorem hdrTo_mem {m:Ma} {kind k:Int} (hk:kind≠0) {q:Nat} (hq:q<=m.sp.length) {x:Nat × Nat}:x∈hdrTo m kind k q↔x.1<q/\x.2<64/\∃s,m.sp[x.1]? =Xa s/\isE (flatN s x.2) kind k=Xc:=by
 unfold hdrTo;rw[Yp];constructor
 ·rintro⟨p,h1,h2⟩;obtain⟨n,h3,rfl⟩:=Ya.1 h2;have hp:=Yd.1 h1;have hs:=gE (show p<m.sp.length by omega)
  rw[gD,hs,Option.getD_some,fitN_mem hk]at h3;exact⟨hp,h3.1,_,hs,h3.2⟩
 rintro⟨h1,h2,s,h3,h4⟩;refine⟨x.1,Yd.2 h1,Ya.2 ⟨x.2,?_,rfl⟩⟩;rw[gD,h3,Option.getD_some,fitN_mem hk];exact⟨h2,h4⟩
theorem fitN_nodup (s:Sp) (kind k:Int):(fitN s kind k).Nodup:=List.Nodup.sublist List.filter_sublist List.nodup_range
theorem hdrTo_nodup (m:Ma) (kind k:Int):∀q,(hdrTo m kind k q).Nodup
 | 0=>List.nodup_nil
 | q+1=>by
  rw[hdrTo_succ,Yy];refine⟨hdrTo_nodup m kind k q,?_,?_⟩
  ·exact List.Pairwise.map _ (fun a b hab e=>hab (Prod.mk.inj e).2) (fitN_nodup _ kind k)
  intro a ha b hb e;subst e;obtain⟨n,_,rfl⟩:=Ya.1 hb;unfold hdrTo at ha;obtain⟨p,h1,h2⟩:=Yp.1 ha;obtain⟨n',_,h3⟩:=Ya.1 h2;have:=Yd.1 h1;have:=(Prod.mk.inj h3).1;omega
def putAll (m:Ma) (e:En):List (Nat × Nat)->Ma
 | []=>m
 | x :: l=>putAll (putE m x.1 x.2 e) e l
theorem putAll_at {e:En} (he:enW e=0):∀(l:List (Nat × Nat)) {m:Ma},(∀s∈m.sp,TbOk s.tb)->(∀x∈l,x.2<64)->(putAll m e l).sp.length=m.sp.length/\(∀s∈(putAll m e l).sp,TbOk s.tb)/\∀(q:Nat) s s',m.sp[q]? =Xa s->(putAll m e l).sp[q]? =Xa s'->s'.live=s.live/\s'.ars=s.ars/\∀j,flatN s' j=if(q,j)∈l then e else flatN s j
 | [],m,ht,_=>⟨rfl,ht,fun q s s' h1 h2=>by
   simp only[putAll]at h2;rw[h1]at h2;cases h2;exact⟨rfl,rfl,fun j=>by simp⟩⟩
 | x :: l,m,ht,hl=>by
  have hn:=hl x (Xs ..);obtain⟨r1,r2,r3⟩:=putAll_at he l (m:=putE m x.1 x.2 e) (put_tabs ht he) (fun y hy=>hl y (Xt _ hy))
  refine⟨r1.trans put_len,r2,fun q s s' h1 h2=>?_⟩
  have:∃t,(putE m x.1 x.2 e).sp[q]? =Xa t:=⟨_,gE (by rw[put_len];exact(gS.1 h1).1)⟩
  obtain⟨t,ht1⟩:=this;obtain⟨a1,a2,a3⟩:=r3 q t s' ht1 h2;obtain⟨b1,b2⟩:=putE_same h1 ht1;refine⟨a1.trans b1,a2.trans b2,fun j=>?_⟩
  rw[a3 j]
  by_cases e1:(q,j)∈l
  ·rw[if_pos e1,if_pos (Xt _ e1)]
  rw[if_neg e1]
  by_cases e2:q=x.1/\j=x.2
  ·obtain⟨rfl,rfl⟩:=e2;rw[if_pos (Xs ..)];exact(put_now ht h1 hn he ht1).1
  rw[put_other ht hn he h1 ht1 e2,if_neg];intro h3
  rcases mC.1 h3 with h4 | h4
  ·rw[<-h4]at e2;exact e2 ⟨rfl,rfl⟩
  exact e1 h4
theorem putAll_rest (e:En):∀(l:List (Nat × Nat)) (m:Ma),putAll m e l={ m with sp:=(putAll m e l).sp }
 | [],_=>rfl
 | x :: l,m=>by
  show putAll (putE m x.1 x.2 e) e l=_
  rw[putAll_rest e l (putE m x.1 x.2 e)];rfl
theorem tb_eq {s:Sp} (h:TbOk s.tb):s.tb=tabOf (flatN s):=by
 have:=fin_self (m:=⟨[],0,[],[],[],[],[],[],0,[],[s]⟩) (fun t ht=>by
  rw[List.mem_singleton.1 ht];exact h)
 have h2:=congrArg (fun m:Ma=>m.sp) this
 simp only[finish,flats,mP,List.map_nil,List.zipWith_cons_cons,List.zipWith_nil_left,List.cons.injEq,and_true]at h2;exact(congrArg Sp.tb h2).symm
theorem leave_eq {m:Ma} (h:Rt m) {k:Nat} {e:En} (he:enW e=0):(putAll m e (hdrTo m 1 (k:Int) m.sp.length)).sp=m.sp.map (moveSp (k:Int) e):=by
 have ht:∀s∈m.sp,TbOk s.tb:=fun s hs=>h.tb hs
 have hmem:=fun x=>hdrTo_mem (m:=m) (kind:=1) (k:=(k:Int)) (by decide) (nR m.sp.length) (x:=x)
 obtain⟨r1,r2,r3⟩:=putAll_at he (hdrTo m 1 (k:Int) m.sp.length) ht (fun x hx=>((hmem x).1 hx).2.1)
 apply Xw
 intro q
 by_cases hq:q<m.sp.length
 ·have hs:=gE hq;have hs':=gE (show q< (putAll m e (hdrTo m 1 (k:Int) m.sp.length)).sp.length by rw[r1];exact hq)
  obtain⟨a1,a2,a3⟩:=r3 q _ _ hs hs';rw[hs',Xy,hs,Option.map_some]
  congr 1
  have hf:flatN ((putAll m e (hdrTo m 1 (k:Int) m.sp.length)).sp[q]'(by rw[r1];exact hq))=fun j=>if j<64 then moveF (k:Int) e (flatN m.sp[q]) j else flatN m.sp[q] j:=by
   funext j
   rw[a3 j]
   by_cases h64:j<64
   ·rw[if_pos h64];unfold moveF
    by_cases hin:isE (flatN m.sp[q] j) 1 (k:Int)=Xc
    ·rw[if_pos hin,if_pos ((hmem (q,j)).2 ⟨hq,h64,_,hs,hin⟩)]
    rw[if_neg hin,if_neg];intro h3;obtain⟨_,_,s,h4,h5⟩:=(hmem (q,j)).1 h3;rw[hs]at h4;cases h4;exact hin h5
   rw[if_neg h64,if_neg (fun h3=>h64 ((hmem (q,j)).1 h3).2.1)]
  have htb:=tb_eq (r2 _ (mG hs'));have htab:tabOf (flatN ((putAll m e (hdrTo m 1 (k:Int) m.sp.length)).sp[q]'(by rw[r1];exact hq)))=tabOf (moveF (k:Int) e (flatN m.sp[q])):=by
   rw[hf];unfold tabOf;refine congrArg tableOf (Yw fun j hj=>?_)
   exact if_pos (Yd.1 hj)
  rw[htab]at htb;unfold moveSp
  generalize(putAll m e (hdrTo m 1 (k:Int) m.sp.length)).sp[q]'(by rw[r1];exact hq)=s' at a1 a2 htb
  cases s';simp only at a1 a2 htb;rw[a1,a2,htb]
 rw[gN (by rw[r1];omega),gN (by rw[Yf];omega)]
theorem holders_slot {m:Ma} (h:Rt m) {k:Int}:∀x∈hdrTo m 2 k m.sp.length,x.2<64/\∃s,m.sp[x.1]? =Xa s/\(onAt s.ars x.2).is=Xc/\(onAt s.ars x.2).sh=Xd/\seeE m (onAt s.ars x.2) (flatN s x.2)=(readL m.sb m.sq k,Xc,0):=fun x hx=>by
 obtain⟨_,h2,s,h3,h4⟩:=(hdrTo_mem (by decide) (nR _)).1 hx
 simp only[isE,Xv,decide_eq_true_eq]at h4;obtain⟨j,z,e1,e2,e3,e4,e5,e6,e7⟩:=h.swapped h3 h2 h4.1;refine⟨h2,s,h3,e5,e6,?_⟩;unfold seeE;rw[if_neg (by rw[e5];decide),if_neg (by rw[h4.1];decide),if_pos h4.1,h4.2]
section
variable{m:Ma} {k:Nat} {fr:Fr}
theorem cache_there (h:Rt m) (hk:m.fs[k]? =Xa fr) (hf:0<=fr.f):∃(i:Nat) (c:Ca),m.ca[i]? =Xa c/\c.fr=(k:Int)/\c.file=fr.f/\c.idx=fr.x:=by
 obtain⟨c,hc,hcf⟩:=cached_mem ((h.inv.cf k fr hk).2 hf);obtain⟨i,hi⟩:=Yb hc;obtain⟨b1,b2,b3,b4⟩:=caE_ok ((caGo_zero.1 h.inv.ca).1 c hc);rw[hcf,frAt_of hk]at b3 b4;exact⟨i,c,hi,hcf,b3.symm,b4.symm⟩
end
def freeN (fs:List Fr):Nat:=fs.countP fun f=>decide (f.r=0)
theorem free_held (fs:List Fr):freeN fs+heldN fs=fs.length:=by
 unfold freeN heldN;have:=List.length_eq_countP_add_countP (fun f:Fr=>decide (f.r=0)) (l:=fs)
 have h2:fs.countP (fun f=>!decide (f.r=0))=fs.countP (fun a=>decide ¬decide (a.r=0)=Xc):=by
  refine List.countP_congr fun x _=>?_
  by_cases e:x.r=0 <;> simp[e]
 omega
section
variable{m:Ma}
theorem block_goes (S:Nat->Nat->Prop) (h:Rt m) {file idx b:Nat} {f:Fl} {db':List (List Int)} {dq':List (Int × List Int)} (hf:m.fl[file]? =Xa f) (hst:stW (m.fl.set file ⟨f.size,f.bl.set idx (b:Int)⟩) m.cnt=0)
  (hub:∀x,usedB (m.fl.set file ⟨f.size,f.bl.set idx (b:Int)⟩) x=Xc↔(usedB m.fl x=Xc/\x≠-1)\/x=(b:Int)\/(x=-1/\usedB (m.fl.set file ⟨f.size,f.bl.set idx (b:Int)⟩) x=Xc))
  (hdb:db'.length=m.db.length) (hdok:wrongL db'.length dq'=0) (hblk:∀i:Nat,db'[i]? =m.db[i]?\/∃q∈m.dq,q.1=(i:Int)) (hq:∀q∈dq',q.1=(b:Int)\/∃q'∈m.dq,q'.1=q.1) (hrd:∀i:Int,i≠(b:Int)->readL db' dq' i=readL m.db m.dq i)
  (hb0:f.bl[idx]? =Xa (b:Int)\/(usedB m.fl (b:Int)=Xd)) (hc:∃c∈m.ca,c.file=(file:Int)/\c.idx=(idx:Int)) (hown:∀(i j:Nat) g,m.fl[i]? =Xa g->g.bl[j]? =Xa (b:Int)->i=file/\j=idx):
  Goes S m (putB m file idx f (b:Int) db' dq'):=by
 obtain⟨⟨r1,r2⟩,r3⟩:=blockW_ok h hf hst hub hdb hdok hblk hq hrd hb0 hc hown;refine⟨r1,r2.mono (fun _ _ e=>e.elim),rfl,fun q n s s' h1 h2 _ h0=>?_,fun file idx hi hu=>⟨hu,r3 file idx hi⟩⟩
 have:m.sp[q]? =Xa s':=h2;rw[h1]at this;cases this;exact h0
def SeesK (k:Nat) (fr:Fr) (l:List (Nat × Nat)) (q:Nat) (s:Sp) (a:Ar) (n:Nat):Prop:=(oneOf a n).file=fr.f/\(oneOf a n).page=fr.x/\(q,n)∉l/\((flatN s n).kind=0\/isE (flatN s n) 1 (k:Int)=Xc)
theorem unseen {k:Nat} {fr:Fr} {l:List (Nat × Nat)} (h:∀(q:Nat) s (i:Nat) a (n:Nat),m.sp[q]? =Xa s->s.ars[i]? =Xa a->arIn a n=Xc->n<64->¬SeesK k fr l q s a n) (q n:Nat) (s:Sp) (hs:m.sp[q]? =Xa s) (hn:n<64) (hx:(onAt s.ars n).is=Xc) (hf:(onAt s.ars n).file=fr.f) (hp:(onAt s.ars n).page=fr.x) (he:(flatN s n).kind=0\/isE (flatN s n) 1 (k:Int)=Xc):(q,n)∈l:=by
 obtain⟨i,a,h1,h2,h3⟩:=onAt_some hx;refine Classical.byContradiction fun hne=>h q s i a n hs h1 h2 hn ⟨?_,?_,hne,he⟩
 ·rw[<-h3];exact hf
 rw[<-h3];exact hp
theorem out_goes (h:Rt m) {k:Nat} {fr:Fr} {l:List (Nat × Nat)} (hk:m.fs[k]? =Xa fr) (hf:0<=fr.f) (hr:fr.r≠0) (hd:diskL m fr.f fr.x=cutP (pgL fr.p) fr.x (szAt m fr.f))
  (hS:cutP (pgL fr.p) fr.x (szAt m fr.f)=pgL fr.p\/∀(q:Nat) s (i:Nat) a (n:Nat),m.sp[q]? =Xa s->s.ars[i]? =Xa a->arIn a n=Xc->n<64->¬SeesK k fr l q s a n):Goes (fun q j=>(q,j)∈l) m (toFile m k):=
 file_goes h _ hk hf hr hd (hS.imp id fun h1 q n s h2 h3 h4 h5 h6 h7=>unseen h1 q n s h2 h3 h4 h5 h6 h7)
theorem written_goes {l:List (Nat × Nat)} {file idx b:Nat} {f:Fl} {db':List (List Int)} {dq':List (Int × List Int)} {k:Nat} {fr:Fr} (hg:Goes (fun q j=>(q,j)∈l) m (putB m file idx f (b:Int) db' dq')) (hf:m.fl[file]? =Xa f) (hi:idx<f.bl.length) (hk:m.fs[k]? =Xa fr) (hfr:fr.f=(file:Int)) (hfx:fr.x=(idx:Int)) (hr:fr.r≠0)
  (hrd:readL db' dq' (b:Int)=cutP (pgL fr.p) (idx:Int) (szAt m (file:Int)))
  (hS:cutP (pgL fr.p) fr.x (szAt m fr.f)=pgL fr.p\/∀(q:Nat) s (i:Nat) a (n:Nat),m.sp[q]? =Xa s->s.ars[i]? =Xa a->arIn a n=Xc->n<64->¬SeesK k fr l q s a n):Goes (fun q j=>(q,j)∈l) m (toFile (putB m file idx f (b:Int) db' dq') k):=by
 refine hg.trans (out_goes hg.rt (fr:=fr) hk (by omega) hr ?_ ?_)
 ·rw[hfr,hfx,write_disk hf hi hrd,<-hg.sam.sz]
 rw[hg.sam.sz];exact hS
end
theorem Rt.parts {m:Ma} (h:Rt m):memW m.fs m.hand=0/\slW m.sl=0:=by
 have h0:=h.w;unfold maW at h0;rw[firstE_zero]at h0;have h1:partE m=0:=h0 _ (by simp)
 unfold partE at h1;rw[firstE_zero]at h1;exact⟨h1 _ (by simp),h1 _ (by simp)⟩
theorem Rt.refs {m:Ma} (h:Rt m) {k:Nat} {f:Fr} (hk:m.fs[k]? =Xa f):0<=f.r/\f.r<=300:=by
 have h1:=(h.inv.cf k f hk).1;have h2:=hold_le (flats m) 1 k;have h3:=cached_one h.inv.ca (k:Int);have h4:=h.inv.tl;have h5:=h.inv.spl;omega
theorem Rt.slots {m:Ma} (h:Rt m) {k:Nat} {z:Int} (hk:m.sl[k]? =Xa z):0<=z/\z<=300:=by
 have h1:=h.inv.cs k z hk;have h2:=hold_le (flats m) 2 k;have h4:=h.inv.tl;have h5:=h.inv.spl;omega
theorem flat_none (l:List Ar) (b:Bool):flatN ⟨b,l,none8⟩=fun _=>en0:=by
 funext n
 unfold flatN getN;simp only;have:(none8[n / 8]?.getD [])=[]:=by
  unfold none8;rw[List.getElem?_replicate]
  split <;> rfl
 rw[this];rfl
theorem getT_flat {s:Sp} {n:Nat} (hn:n<64):getT s.tb (n:Int)=flatN s n:=by
 unfold getT flatN;rw[if_pos (by omega),tN]
theorem setR_ok {t:List (List En)} (h:TbOk t) {n:Nat} (hn:n<64) {e:En} (he:enW e=0):setR t (n:Int) e=setT t n e:=by
 have h0:tbW t=0:=tbW_zero.2 h.2;have:setE t (n:Int) e=0:=by unfold setE;rw[if_pos h0,if_pos (by omega)];exact he
 unfold setR;rw[if_pos this,tN]
theorem enter_put {m:Ma} (ht:∀s∈m.sp,TbOk s.tb) {p n:Nat} (hp:p<m.sp.length) (hn:n<64) {e:En} (he:enW e=0):enterM m p (n:Int) e=putE m p n e:=by
 obtain⟨s,hs⟩:∃s,m.sp[p]? =Xa s:=⟨_,gE hp⟩;unfold enterM putE;rw[Sp.getD_of hs,setR_ok (ht s (mG hs)) hn he]
 congr 1
 apply Xw
 intro i;rw[Yc,Yt]
 by_cases e:p=i
 ·subst e;rw[if_pos rfl,if_pos hp,hs];simp
 rw[if_neg e]
 simp[e]
end
section
open Go.RowKit
theorem SliceAt.staysD {α:Type} {enc:α->List Xq} {base:Nat} {w W:Xn} {v:Xq} {l:List α} (h:SliceAt enc w v l) (hf:fresh base v) {D:Nat->Prop} (hd:∀k,D k->k<base) (k:OutD D w W):SliceAt enc W v l:=by
 obtain⟨a,c,h1,h2,h3⟩:=h;refine⟨a,c,h1,h2,fun x hx j u hj=>?_⟩
 subst hx;have hc:=h3 x rfl j u hj;have hl:=World.block_lt_of_cell? _ _ hc;have hf:=hf x _ _ h1;rw[World.cell?_of_block (w:=w) (k.block _ hl (fun e=>by have:=hd _ e;rw[add_block]at this;omega))]
 exact hc
theorem NewDisk.staysD {base:Nat} {w W:Xn} {v:Xq} {ps:List (List Int)} {qs:List (Int × List Int)} (h:NewDisk base w v ps qs) {D:Nat->Prop} (hd:∀k,D k->k<base) (k:OutD D w W):NewDisk base W v ps qs:=by
 obtain⟨b,q,h1,h2,h3,h4,h5⟩:=h;exact⟨b,q,h1,⟨h2.1.staysD h4 hd k,h2.2⟩,⟨h3.1.staysD h5 hd k,h3.2⟩,h4,h5⟩
theorem NewDisk.form {base:Nat} {w:Xn} {v:Xq} {ps:List (List Int)} {qs:List (Int × List Int)} (h:NewDisk base w v ps qs):∃d q:Sli,v= Xi #[O d.a d.n d.c,O q.a q.n q.c]/\fresh base d.v/\fresh base q.v:=by
 obtain⟨b,q,rfl,⟨⟨a,c,rfl,_⟩,_⟩,⟨⟨a',c',rfl,_⟩,_⟩,h4,h5⟩:=h;exact⟨⟨a,_,c⟩,⟨a',_,c'⟩,rfl,h4,h5⟩
theorem NewDisk.rows {base:Nat} {w:Xn} {d q:Sli} {ps:List (List Int)} {qs:List (Int × List Int)} (h:NewDisk base w (Xi #[O d.a d.n d.c,O q.a q.n q.c]) ps qs):PagesAt w (O d.a d.n d.c) ps/\PutsAt w (O q.a q.n q.c) qs:=by
 obtain⟨b,q,e,h2,h3,_⟩:=h;simp only[Value.agg.injEq,Array.mk.injEq,List.cons.injEq,and_true]at e;obtain⟨rfl,rfl⟩:=e;exact⟨h2,h3⟩
section
variable{α:Type} {E:Elt α}
theorem splice_row (m:List α):∀(l:List α) (off:Nat),off+m.length<=l.length->splice (l.flatMap E.enc) (off*E.k) (m.flatMap E.enc)=(l.take off++(m++l.drop (off+m.length))).flatMap E.enc:=fun l off h=>by
 have h1:∀(l:List α) (j:Nat),j<=l.length->(l.flatMap E.enc).take (j*E.k)=(l.take j).flatMap E.enc/\(l.flatMap E.enc).drop (j*E.k)=(l.drop j).flatMap E.enc:=fun l j hj=>by
  have he:l.flatMap E.enc=(l.take j).flatMap E.enc++(l.drop j).flatMap E.enc:=by rw[<-Yi,List.take_append_drop]
  have hl:((l.take j).flatMap E.enc).length=j*E.k:=by rw[row_len E,List.length_take,Nat.min_eq_left hj]
  constructor
  ·rw[he,<-hl,List.take_left]
  rw[he,<-hl,List.drop_left]
 unfold splice;rw[row_len E m,<-Nat.add_mul,(h1 l off (by omega)).1,(h1 l (off+m.length) h).2,Yi,Yi]
theorem run_copy_elts {w:Xn} (ty:TypeId) (base:Nat) (v:Xq) (l:List α) (hown:OwnRow E base w v l) (g:Nat) (hg:v.ownBlock=Xa g) (off dLen dCap:Nat) (ad:Addr) (sLen sCap:Nat)
  (m:List α) (hm:m.length=Nat.min sLen dLen) (hsrc:Cells w ad (m.flatMap E.enc)) (hfit:off+m.length<=l.length):
  ∃w',(Builtin.copy_ #[E.st,E.st] ty #[O (Xa ⟨g,off*E.k,Xb⟩) dLen dCap,O (Xa ad) sLen sCap]).run Tryz.prog w= .ok (goInt m.length) w'/\OwnRow E base w' v (l.take off++(m++l.drop (off+m.length)))/\w.grownBy w' (Xa g)/\w'.heap.size=w.heap.size:=by
 obtain⟨i0,hi,_,hz1,_⟩:=info_parts E.info;have hcl:(m.flatMap E.enc).length=m.length*E.k:=row_len E m;have hfit':off*E.k+(m.flatMap E.enc).length<=l.length*E.k:=by
  rw[hcl,<-Nat.add_mul];exact Nat.mul_le_mul_right _ hfit
 obtain⟨w',hr,h2,h3,h4⟩:=run_storeCells_row (P:=Tryz.prog) hown.1 hg (off*E.k) (m.flatMap E.enc) hfit' (flatMap_one E.one m);have hl:=run_loadCells_list (P:=Tryz.prog) w ad (m.flatMap E.enc) hsrc;rw[hcl]at hl;rw[splice_row m l off hfit]at h2;have hlen:(l.take off++(m++l.drop (off+m.length))).length=l.length:=by simp;omega
 refine⟨w',?_,⟨by rw[hlen];exact h2,by rw[hlen];exact hown.2⟩,h3,h4⟩
 simp[Builtin.copy_,run_underlying E.und,Builtin.lenOf,Builtin.firstCells,sizeOf,typeInfo,hi,hz1,<-hm,hl,hr]
theorem wpList_copy_elts {w:Xn} {ops:Array Oper} {rest:List Oper} {o:Oper} {a:Act} {Q:Exit->Act->Xn->Prop} (hgd:o.guard=Xb) (d s:Operand) (ho:o.op= .call { callee:= .builtin .copy,args:=#[d,s],argTypes:=#[E.st,E.st] })
  (base:Nat) (v:Xq) (l:List α) (hown:OwnRow E base w v l) (g:Nat) (hg:v.ownBlock=Xa g) (off dLen dCap:Nat) (dp:Addr) (hd:a.eval d= O (Xa dp) dLen dCap) (hdp:dp=⟨g,off*E.k,Xb⟩) (ad:Addr) (sLen sCap:Nat) (hs:a.eval s= O (Xa ad) sLen sCap)
  (m:List α) (hm:m.length=Nat.min sLen dLen) (hsrc:Cells w ad (m.flatMap E.enc)) (hfit:off+m.length<=l.length)
  (h:∀w',OwnRow E base w' v (l.take off++(m++l.drop (off+m.length)))->w.grownBy w' (Xa g)->w'.heap.size=w.heap.size->wpList Tryz.prog ops Q rest (a.put o.dst (goInt m.length)) w'):wpList Tryz.prog ops Q (o :: rest) a w:=by
 subst hdp;refine wpList_plain hgd fun K hK=>?_
 obtain⟨w',hrun,h2,h3,h4⟩:=run_copy_elts o.type base v l hown g hg off dLen dCap ad sLen sCap m hm hsrc hfit;unfold Oper.wp
 simp[execOp,ho,resolve,invoke,builtin,hd,hs,hrun,Result.andThen]
 exact hK _ _ (h w' h2 h3 h4)
end
def wrM (m:Ma) (pg:List Int) (file idx:Int):Ma:=
 if blkE m.fl m.cnt file idx=0 then{ m with fl:=blkF m.fl m.cnt file idx,cnt:=blkC m.fl m.cnt file idx,db:=writeDP m.db m.dq (blkI m.fl m.cnt file idx),dq:=writeDQ m.db m.dq (blkI m.fl m.cnt file idx) pg }else m
theorem wrM_fs (m:Ma) (pg:List Int) (file idx:Int):(wrM m pg file idx).fs=m.fs/\(wrM m pg file idx).hand=m.hand/\(wrM m pg file idx).ca=m.ca/\(wrM m pg file idx).sp=m.sp/\(wrM m pg file idx).sl=m.sl:=by
 unfold wrM
 split <;> exact⟨rfl,rfl,rfl,rfl,rfl⟩
theorem runs_load {o:Oper} {a:Act} {w:Xn} (ty:TypeId) (x:Operand) (ho:o.op= .load ty x) (b off:Nat) (hx:a.eval x= Xj (Xa ⟨b,off,Xb⟩)) (vs:List Xq) (hc:w.rangeAt b off vs) {d:TypeDesc} (hu:Tryz.prog.underlying ty=Xa d) (hd:d.isRow=Xc) (hi:(Tryz.prog.info? ty).map (·.size)=Xa vs.length):(execOp a.eval o).run Tryz.prog w= .ok (.value (Xi vs.toArray)) w:=by
 have:=run_loadAt_mid (P:=Tryz.prog) w b off ty vs d hc hu hd hi;simp only[execOp,ho,hx,Xx,this,rA,Yj]
theorem runs_load1 {o:Oper} {a:Act} {w:Xn} (ty:TypeId) (x:Operand) (ho:o.op= .load ty x) (b off:Nat) (hx:a.eval x= Xj (Xa ⟨b,off,Xb⟩)) (v:Xq) (hc:w.cell? ⟨b,off,Xb⟩=Xa v) {d:TypeDesc} (hu:Tryz.prog.underlying ty=Xa d) (hd:d.isRow=Xd):(execOp a.eval o).run Tryz.prog w= .ok (.value v) w:=by
 have hagg:(isAgg ty).run Tryz.prog w= .ok Xd w:=by
  unfold isAgg;rw[Xx,run_underlying hu w]
  cases d <;> simp_all [TypeDesc.isRow]
 have h2:(loadVar ty ⟨b,off,Xb⟩).run Tryz.prog w= .ok v w:=by simp[loadVar,Xx,hagg,hc]
 simp only[execOp,ho,hx,Instr.loadAt,Instr.sureAddr,Xx,Yj,h2,rA]
theorem cellsA_set {l:List Ar} {j:Nat} (y:Ar) (h:j<l.length):splice (cellsA l) (j*7) (arv y)=cellsA (l.set j y):=splice_set (enc:=arv) (k:=7) y rfl l j (fun _ _=>rfl) h
theorem cellsA_at {l:List Ar} {j:Nat} {e:Ar} (h:l[j]? =Xa e) (i:Nat) (u:Xq) (hu:(arv e)[i]? =Xa u):(cellsA l)[j*7+i]? =Xa u:=flatMap_elem (enc:=arv) (k:=7) l j e (fun _ _=>rfl) h i u hu
theorem tabA_len (f:Nat->Ar):(cellsA (tab f)).length=448:=by rw[cellsA_len,tab_len]
theorem wp_storeAr {ops:Array Oper} {rest:List Oper} {op:Oper} {a:Act} {w:Xn} {Q:Exit->Act->Xn->Prop} (hgd:op.guard=Xb) (p x:Operand) (ho:op.op= .store 125 p x) (b k:Nat) (hk:k<64) (hp:a.eval p= Xj (Xa ⟨b,k*7,Xb⟩)) (y:Ar) (hx:a.eval x=arA y)
  {f:Nat->Ar} (hb:Box w b (cellsA (tab f)))
  (h:∀w',Box w' b (cellsA (tab (upd f k y)))->w.grownBy w' (Xa b)->w'.heap.size=w.heap.size->wpList Tryz.prog ops Q rest (a.put op.dst undef) w'):wpList Tryz.prog ops Q (op :: rest) a w:=by
 refine wp_storeMid hgd 125 p x ho b (k*7) hp (arv y) hx hb (by rw[tabA_len];show _+7<=_;omega) Tryz.sizeArea (arE.one y) fun w' h1 h2 h3=>h w' ?_ h2 h3
 rw[cellsA_set y (by rw[tab_len];exact hk),tab_set]at h1
 exact h1
theorem extract_elem {cs vs:List Xq} {o k:Nat} (hl:vs.length=k) (h:∀(i:Nat) u,vs[i]? =Xa u->cs[o+i]? =Xa u):cs.toArray.extract o (o+k)=vs.toArray:=by
 apply Array.ext_getElem?
 intro j;rw[Array.getElem?_extract]
 by_cases hj:j<k
 ·obtain⟨u,hu⟩:∃u,vs[j]? =Xa u:=⟨_,gE (by omega)⟩
  have h1:=h j u hu;have h2:=(gS.1 h1).1;rw[if_pos (by simp;omega)]
  simp[h1,hu]
 rw[if_neg (by omega)]
 simp;omega
theorem run_idxA {w:Xn} {f:Nat->Ar} (i:Nat) (hi:i<64):(Instr.index 232 (Xi (cellsA (tab f)).toArray) (Xe Xf (i:Int))).run Tryz.prog w= .ok (arA (f i)) w:=by
 have ha:(isAgg 125).run Tryz.prog w= .ok Xc w:=by
  unfold isAgg;rw[Xx,run_underlying Tryz.underlying125 w];rfl
 have hs:(Go.sizeOf 125).run Tryz.prog w= .ok 7 w:=by
  obtain⟨i0,h1,h2⟩:∃i0,Tryz.prog.info? 125=Xa i0/\i0.size=7:=by
   have:=Tryz.sizeArea
   cases hq:Tryz.prog.info? 125 with
   | none=>rw[hq]at this;cases this
   | some i0=>rw[hq]at this;exact⟨i0,rfl,by simpa using this⟩
  simp[Go.sizeOf,typeInfo,h1,h2]
 have hlt:(0:Int)<=(i:Int)/\(i:Int)< ((64:Nat):Int):=by omega
 have hx:(cellsA (tab f)).toArray.extract (i*7) (i*7+7)=(arv (f i)).toArray:=extract_elem rfl fun j u hu=>cellsA_at (tab_at hi) j u hu
 simp only[Instr.index,asIntOf,Xx,Yj,rA,run_underlying Tryz.underlying232];rw[if_pos hlt];simp only[Xx,hs,rA,part,ha,if_true,tN,Yj,hx];rfl
theorem wp_idxA {ops:Array Oper} {rest:List Oper} {o:Oper} {a:Act} {w:Xn} {Q:Exit->Act->Xn->Prop} (hgd:o.guard=Xb) (x ix:Operand) (ho:o.op= .index 232 x ix) (f:Nat->Ar) (hx:a.eval x= Xi (cellsA (tab f)).toArray) (i:Nat) (hix:a.eval ix= Xe Xf (i:Int)) (hi:i<64)
  (h:wpList Tryz.prog ops Q rest (a.put o.dst (arA (f i))) w):wpList Tryz.prog ops Q (o :: rest) a w:=by
 refine wpList_plain hgd fun K hK=>?_
 unfold Oper.wp execOp;simp only[ho,hx,hix,Xx,Yj,rA,run_idxA i hi];exact hK _ _ h
theorem wp_idxAv {ops:Array Oper} {rest:List Oper} {o:Oper} {a:Act} {w:Xn} {Q:Exit->Act->Xn->Prop} (hgd:o.guard=Xb) (x ix:Operand) (ho:o.op= .index 232 x ix) (f:Nat->Ar) (hx:a.eval x= Xi (cellsA (tab f)).toArray) (i:Nat) (hix:a.eval ix= Xe Xf (i:Int)) (hi:i<64) {v:Xq} (hv:arA (f i)=v)
  (h:wpList Tryz.prog ops Q rest (a.put o.dst v) w):wpList Tryz.prog ops Q (o :: rest) a w:=wp_idxA hgd x ix ho f hx i hix hi (by rw[hv];exact h)
theorem wp_loadAr {ops:Array Oper} {rest:List Oper} {o:Oper} {a:Act} {w:Xn} {Q:Exit->Act->Xn->Prop} (hgd:o.guard=Xb) (x:Operand) (ho:o.op= .load 125 x) (b k:Nat) (hk:k<64) (hx:a.eval x= Xj (Xa ⟨b,k*7,Xb⟩)) {f:Nat->Ar} (hb:Box w b (cellsA (tab f)))
  (h:wpList Tryz.prog ops Q rest (a.put o.dst (arA (f k))) w):wpList Tryz.prog ops Q (o :: rest) a w:=
 wpList_load_mid hgd 125 x ho b (k*7) hx (arv (f k)) _ (hb.mid _ fun j u hu=>cellsA_at (tab_at hk) j u hu) Tryz.underlying125 rfl Tryz.sizeArea h
theorem wp_loadArv {ops:Array Oper} {rest:List Oper} {o:Oper} {a:Act} {w:Xn} {Q:Exit->Act->Xn->Prop} (hgd:o.guard=Xb) (x:Operand) (ho:o.op= .load 125 x) (b k:Nat) (hk:k<64) (hx:a.eval x= Xj (Xa ⟨b,k*7,Xb⟩)) {f:Nat->Ar} (hb:Box w b (cellsA (tab f))) {v:Xq} (hv:arA (f k)=v)
  (h:wpList Tryz.prog ops Q rest (a.put o.dst v) w):wpList Tryz.prog ops Q (o :: rest) a w:=wp_loadAr hgd x ho b k hk hx hb (by rw[hv];exact h)
theorem zeroA:(Tryz.prog.info? 232).map (·.zero)=Xa (Xa (Xi (cellsA (tab fun _=>ar0)).toArray)):=by kernel_rfl
theorem run_zeroA (w:Xn):(zeroValue 232).run Tryz.prog w= .ok (Xi (cellsA (tab fun _=>ar0)).toArray) w:=by
 have h:=zeroA
 cases hq:Tryz.prog.info? 232 with
 | none=>simp[hq]at h
 | some i=>
  simp[hq]at h
  simp[zeroValue,typeInfo,hq,h]
def partF (f:Nat->On):Nat->Ar:=fun n=>arOf n (f n)
def midF (l:List Ar) (i:Nat) (a:Ar) (n:Nat):Nat->On:=fun j=>if a.fr<=(j:Int)/\(j:Int)< (n:Int)then oneOf a j else onAt (l.take i) j
theorem CanP.take:∀{l:List Ar} {p:Option Ar},CanP p l->∀i,CanP p (l.take i)
 | [],_,_,i=>by simp[CanP]
 | a :: l,p,h,0=>by simp[CanP]
 | a :: l,p,h,i+1=>⟨h.1,h.2.1,h.2.2.take i⟩
theorem CanP.free {l:List Ar} (h:CanP Xb l) {i:Nat} {a:Ar} (ha:l[i]? =Xa a) {j:Nat} (hj:a.fr<=(j:Int)):onAt (l.take i) j=on0:=by
 refine onAt_none fun x hx=>arIn_no ?_
 have h1:=h.take (i+1);rw[take_snoc ha]at h1;obtain⟨c1,c2,c3⟩:=canP_snoc.1 h1
 cases hl:lastP Xb (l.take i)with
 | none=>
  unfold lastP at hl
  cases hq:l.take i with
  | nil=>rw[hq]at hx;cases hx
  | cons y ys=>rw[hq]at hl;simp[List.getLast?_cons]at hl
 | some y=>
  have q:=(c3 y hl).1;have hy:ArOk y:=c1.all y (by
   unfold lastP at hl
   split at hl
   ·rename_i b hb
    cases hl;exact List.mem_of_getLast? hb
   cases hl)
  unfold ArOk at hy
  rcases last_to _ Xb c1 x hx y hl with e | e
  ·rw[e];omega
  omega
theorem mid_start {l:List Ar} {i:Nat} {a:Ar} {n:Nat} (hn:(n:Int)=a.fr):midF l i a n=onAt (l.take i):=by
 funext j
 unfold midF;rw[if_neg (by omega)]
theorem mid_step {l:List Ar} {i:Nat} {a:Ar} {n:Nat} (hn:a.fr<=(n:Int)):upd (partF (midF l i a n)) n (arOf n (oneOf a n))=partF (midF l i a (n+1)):=by
 funext j
 unfold upd partF midF
 by_cases e:j=n
 ·subst e;rw[if_pos rfl,if_pos (by omega)]
 rw[if_neg e]
 congr 1
 by_cases h:a.fr<=(j:Int)/\(j:Int)< (n:Int)
 ·rw[if_pos h,if_pos (by omega)]
 rw[if_neg h,if_neg (by omega)]
theorem mid_end {l:List Ar} {i:Nat} {a:Ar} {n:Nat} (h:CanP Xb l) (ha:l[i]? =Xa a) (hn:(n:Int)=a.tz):midF l i a n=onAt (l.take (i+1)):=by
 funext j
 unfold midF;rw[take_snoc ha,onAt_snoc]
 ·by_cases h1:a.fr<=(j:Int)/\(j:Int)< (n:Int)
  ·rw[if_pos h1,if_pos (arIn_iff.2 (by omega))]
  rw[if_neg h1,if_neg (fun h2=>h1 (by have:=arIn_iff.1 h2;omega))]
 by_cases h1:a.fr<=(j:Int)
 ·exact .inl (h.free ha h1)
 exact .inr (arIn_no (by omega))
theorem part_none:partF (onAt ([]:List Ar))=fun _=>ar0:=by
 funext j
 rfl
theorem parted_any (v:Xq) (l:List Ar) (w:Xn) (hv:RowAt arE w v l) (hok:CanP Xb l):
  Xp Tryz.prog 170 #[v] w fun e w'=>e= Xl (Xi (cellsA (tab (partF (onAt l)))).toArray)/\Grew w w':=by
 have hbig:=hv.short;obtain⟨a,c,rfl,hrow⟩:=hv.ars;have HR:Xo (ArRows w a l):=hrow;have HOK:Xo (CanP Xb l):=hok;have HON:Xo (∀(q:Ar) (k:Nat) W,ArOk q->k<64->Xp Tryz.prog 132 #[Xi #[Xe Xf q.fr,Xe Xf q.tz,Xh q.rd,Xh q.wr,Xh q.sh,Xe Xf q.file,Xe Xf q.base],Xe Xf (k:Int)] W fun e w'=>e= Xl (arA (arOf k (oneOf q k)))/\Grew W w'):=fun q k W h1 h2=>only_any q k W h1 h2
 clear hrow hv hok;have hz:=run_zeroA;obtain⟨Z0,HZ0⟩:∃Z0,Xo (cellsA (tab fun _=>ar0)=Z0):=⟨_,rfl⟩
 rw[HZ0.out]at hz;have HZL:Xo (Z0.length=448):=show _=_ by rw[<-HZ0.out,tabA_len]
 obtain⟨C,HC⟩:∃C,Xo (cellsA (tab (partF (onAt l)))=C):=⟨_,rfl⟩;rw[HC.out];obtain⟨n,HN⟩:∃n,Xo (l.length=n):=⟨_,rfl⟩;rw[HN.out]at hbig⊢;obtain⟨W0,hW0⟩:∃W0,(w.alloc (Xk Z0.toArray 232)).alloc (Xk Z0.toArray 232)=W0:=⟨_,rfl⟩;have HG0:=gD2 hW0
 have Y0:Xo (Box W0 w.heap.size Z0):=show Box _ _ _ by rw[<-hW0];exact(Box.top _ _ _ (by simp)).alloc _
 have L0:Xo (Box W0 (w.heap.size+1) (cellsA (tab (partF (onAt (l.take 0)))))):=show Box _ _ _ by rw[<-hW0,List.take_zero,part_none,HZ0.out];exact Box.top _ _ _ (by simp)
 have HW0:Xo (_=W0):=hW0;clear hW0
 go_enter Tryz.func170,Tryz.ntmps170
 go_upto_region 2 with fail;rw[HW0.out];clear hz;go_wp2
 go_loopg [9] n (fun gg s9 wr=>∃kk:Nat,kk<=n/\n - kk<=gg/\s9= Xe Xf kk/\Xo (Grew w wr)/\Xo (Box wr w.heap.size Z0)/\Xo (Box wr (w.heap.size+1) (cellsA (tab (partF (onAt (l.take kk)))))))
 case atStart=>exact⟨0,nZ _,by omega,rfl,HG0.out,Y0.out,L0.out⟩
 obtain⟨kk,hkk,hg,rfl,BW,YW,LW⟩:=hrel
 by_cases hlt:kk<n
 ·have hltz:(kk:Int)< (n:Int):=by omega
  obtain⟨q,HQ⟩:∃q,Xo (l[kk]? =Xa q):=⟨_,gE (by rw[HN.out];exact hlt)⟩
  obtain⟨ad,rfl,hl⟩:=HR.out kk q HQ.out;obtain⟨d0,d1,d2,d3,d4,d5,d6⟩:=hl wr BW.out;have HQK:Xo (ArOk q):=HOK.out.all q (mG HQ.out);have hqb:0<=q.fr/\q.fr<q.tz/\q.tz<=64:=by have:=HQK.out;unfold ArOk at this;omega
  obtain⟨hq1,hq2,hq3⟩:=hqb;obtain⟨p,HP⟩:∃p,Xo (wr.heap.size=p):=⟨_,rfl⟩;have HLP:Xo (w.heap.size+1<p):=show _<_ by rw[<-HP.out];exact LW.out.lt
  clear hl;go_upto_region 5 with fail;obtain⟨W1,hW1⟩:∃W1,wr.alloc (Xk #[Xe Xf q.fr,Xe Xf q.tz,Xh q.rd,Xh q.wr,Xh q.sh,Xe Xf q.file,Xe Xf q.base] 125)=W1:=⟨_,rfl⟩;have G1:=gT hW1 BW
  have Y1:=yA hW1 YW
  obtain⟨f0,hf0⟩:∃f0:Nat,(f0:Int)=q.fr:=⟨q.fr.toNat,by omega⟩
  have L1:Xo (Box W1 (w.heap.size+1) (cellsA (tab (partF (midF l kk q f0))))):=show Box _ _ _ by rw[<-hW1,mid_start hf0];exact LW.out.alloc _
  have P1:=xP hW1 HP
  rw[hW1,HP.out];clear hW1 d0 d1 d2 d3 d4 d5 d6;have p0:=P1.out.c 0 rfl;go_wp2
  go_loopg [6] (q.tz.toNat - f0) (fun g2 s6 wr2=>∃k2:Nat,f0<=k2/\(k2:Int)<=q.tz/\q.tz.toNat - k2<=g2/\s6= Xe Xf k2/\Xo (Grew w wr2)/\Xo (Box wr2 w.heap.size Z0)/\Xo (Box wr2 (w.heap.size+1) (cellsA (tab (partF (midF l kk q k2)))))/\Xo (Box wr2 p [Xe Xf q.fr,Xe Xf q.tz,Xh q.rd,Xh q.wr,Xh q.sh,Xe Xf q.file,Xe Xf q.base]))
  case atStart=>exact⟨f0,nR _,by omega,by omega,by rw[hf0],G1.out,Y1.out,L1.out,P1.out⟩
  obtain⟨k2,hk2,hk2',hg2,rfl,BW2,YW2,LW2,PW2⟩:=hrel;clear p0;have p1:=PW2.out.c 1 rfl
  by_cases hlt2:(k2:Int)<q.tz
  ·have hi64:k2<64:=by omega
   have hi64z:(k2:Int)<64:=by omega
   have HST:Xo (upd (partF (midF l kk q k2)) k2 (arOf k2 (oneOf q k2))=partF (midF l kk q (k2+1))):=mid_step (l:=l) (i:=kk) (a:=q) (n:=k2) (by omega)
   go_wp2_with (refine wp_loadAll rfl 125 (.tmp 5) rfl p rfl PW2.out Tryz.underlying125 rfl Tryz.sizeArea ?_)
   refine(HON.out q k2 wr HQK.out hi64).mono ?_;rintro e W2 ⟨rfl,g2⟩;have G2:=dD (BW2.out.trans g2);have Y2:=dD (YW2.out.grew g2);have L2:=dD (LW2.out.grew g2);have P2:=dD (PW2.out.grew g2);clear g2 p1
   go_wp2_with (refine wp_storeAr rfl (.tmp 25) (.tmp 24) rfl (w.heap.size+1) k2 hi64 rfl (arOf k2 (oneOf q k2)) rfl L2.out ?_)
   intro W3 b3 g3 s3;have L3:Xo (Box W3 (w.heap.size+1) (cellsA (tab (partF (midF l kk q (k2+1)))))):=show Box _ _ _ by rw[<-HST.out];exact b3
   have G3:Xo (Grew w W3):=grew_grown G2.out g3 (by simp)
   have Y3:Xo (Box W3 w.heap.size Z0):=Y2.out.beside g3 (by intro g hg;cases hg;simp)
   have P3:Xo (Box W3 p [Xe Xf q.fr,Xe Xf q.tz,Xh q.rd,Xh q.wr,Xh q.sh,Xe Xf q.file,Xe Xf q.base]):=P2.out.beside g3 (by intro g hg;cases hg;have:=HLP.out;omega)
   clear b3 g3 s3 HST;go_wp2
   go_roundg (q.tz.toNat -(k2+1))
   case measure=>omega
   exact⟨k2+1,by omega,by omega,by omega,by go_num,G3.out,Y3.out,L3.out,P3.out⟩
  have hke:(k2:Int)=q.tz:=by omega
  have LE:Xo (Box wr (w.heap.size+1) (cellsA (tab (partF (onAt (l.take (kk+1))))))):=show Box _ _ _ by rw[<-mid_end HOK.out HQ.out hke];exact LW2.out
  go_wp2
  go_roundg (n -(kk+1))
  case measure=>omega
  exact⟨kk+1,by omega,by omega,by go_num,BW2.out,YW2.out,LE.out⟩
 have hltz:¬(kk:Int)< (n:Int):=by omega
 have:kk=n:=by omega
 subst this;have LE:Xo (Box wr (w.heap.size+1) C):=show Box _ _ _ by rw[<-HC.out];have:=LW.out;rw[<-HN.out,List.take_length]at this;exact this
 have HFL:Xo (C.length=448):=show _=_ by rw[<-HC.out,tabA_len]
 have HFO:Xo (∀v∈C,v.oneCell'=Xc):=show∀v∈C,_ by rw[<-HC.out];exact cellsA_one _
 go_wp2_with (first | refine wp_loadAll rfl 232 (.tmp 3) rfl (w.heap.size+1) rfl LE.out Tryz.underlying232 rfl (by rw[HFL.out];exact Tryz.sizePgs) ?_ | refine wp_storeAll rfl 232 (.tmp 2) (.tmp 27) rfl w.heap.size rfl C rfl YW.out (by rw[HFL.out,HZL.out]) (by rw[HZL.out];exact Tryz.sizePgs) HFO.out ?_)
 intro W3 b3 g3 s3;have G3:Xo (Grew w W3):=show Grew _ _ from grew_grown BW.out g3 (by simp)
 have B3:Xo (Box W3 w.heap.size C):=b3;clear b3 g3 s3;go_wp2;refine bodyPost_ret (ret_cell rfl _ rfl B3.out Tryz.underlying232 rfl (by rw[HFL.out];exact Tryz.sizePgs)) rfl ⟨rfl,G3.out⟩
theorem OwnRow.arc {base:Nat} {w:Xn} {g n c:Nat} {fs:List Ar} (h:OwnRow arE base w (O (Xa ⟨g,0,Xb⟩) n c) fs) {i:Nat} {q:Ar} (hq:fs[i]? =Xa q) (j:Nat) {u:Xq} (hu:(arv q)[j]? =Xa u):w.cell? ⟨g,i*7+j,Xb⟩=Xa u:=by
 have:=h.one hq j u hu;rw[add_add',Ye,zA]at this;exact this
theorem partF_is {f:Nat->On} {k:Nat} (h:(f k).is=Xc):partF f k=⟨k,(k:Int)+1,(f k).rd,(f k).wr,(f k).sh,(f k).file,(f k).page⟩:=by
 unfold partF arOf;rw[if_pos h]
theorem partF_no {f:Nat->On} {k:Nat} (h:(f k).is=Xd):partF f k=ar0:=by
 unfold partF arOf;rw[if_neg (by rw[h];decide)]
theorem joined_any (f:Nat->On) (w:Xn) (hg:Good f):
  Xp Tryz.prog 171 #[Xi (cellsA (tab (partF f))).toArray] w fun e w'=>(∃v,e= Xl v/\OwnRow arE (w.heap.size+1) w' v (joinL f))/\Grew w w':=by
 have HGD:Xo (Good f):=hg;have hgo:Xo (∀(q b:Ar) W,ArOk b->Xp Tryz.prog 166 #[Xi #[Xe Xf q.fr,Xe Xf q.tz,Xh q.rd,Xh q.wr,Xh q.sh,Xe Xf q.file,Xe Xf q.base],Xi #[Xe Xf b.fr,Xe Xf b.tz,Xh b.rd,Xh b.wr,Xh b.sh,Xe Xf b.file,Xe Xf b.base]] W fun e w'=>e= Xl (Xh (goB q b))/\Grew W w'):=fun q b W h=>goesOn_any q b W h
 have HIX:Xo (∀{ops:Array Oper} {rest:List Oper} {o:Oper} {a:Act} {w:Xn} {Q:Exit->Act->Xn->Prop} (_:o.guard=Xb) (x ix:Operand) (_:o.op= .index 232 x ix) (_:a.eval x= Xi (cellsA (tab (partF f))).toArray) (i:Nat) (_:a.eval ix= Xe Xf (i:Int)) (_:i<64) {v:Xq} (_:arA (partF f i)=v)
  (_:wpList Tryz.prog ops Q rest (a.put o.dst v) w),wpList Tryz.prog ops Q (o :: rest) a w):=fun h1 x ix h2 h3 i h4 h5 _ h6 h7=>wp_idxAv h1 x ix h2 (partF f) h3 i h4 h5 h6 h7
 clear hg;have HCL:Xo ((cellsA (tab (partF f))).length=448):=tabA_len _
 generalize cellsA (tab (partF f))=C at HIX HCL⊢
 obtain⟨W0,hW0⟩:∃W0,w.alloc (Xk C.toArray 232)=W0:=⟨_,rfl⟩;have HG0:=gA hW0
 have X0:=xA hW0
 have HS0:=sA hW0
 have HW0:Xo (_=W0):=hW0;clear hW0
 go_enter Tryz.func171,Tryz.ntmps171
 go_upto_region 1 with fail;rw[HW0.out]
 go_wp2_with (refine wp_loadAll rfl 232 (.tmp 1) rfl w.heap.size rfl X0.out Tryz.underlying232 rfl (by rw[HCL.out];exact Tryz.sizePgs) ?_)
 go_loopg [3,8] 64 (fun gg s3 s8 wr=>∃(kk:Nat) (acc:List Ar) (xa:Option Addr) (xc:Nat),kk<=64/\64 - kk<=gg/\s8= Xe Xf kk/\s3= O xa acc.length xc/\Xo (Grew W0 wr)/\Xo (OwnRow arE (w.heap.size+1) wr (O xa acc.length xc) acc)/\Xo (J f kk acc))
 case atStart=>exact⟨0,[],Xb,0,nZ _,by omega,rfl,rfl,Grew.refl _,OwnRow.nil _ _ _,J.zero f⟩
 obtain⟨kk,acc,xa,xc,hkk,hgg,rfl,rfl,BW,OW,JW⟩:=hrel
 by_cases hlt:kk<64
 ·have hltz:(kk:Int)<64:=by omega
  have HLEN:Xo (acc.length<=kk):=JW.out.len;obtain⟨p,HP⟩:∃p,Xo (wr.heap.size=p):=⟨_,rfl⟩
  cases hs:(f kk).is with
  | false=>
   have HIV:Xo (arA (partF f kk)= Xi #[Xe Xf 0,Xe Xf 0,Xh Xd,Xh Xd,Xh Xd,Xe Xf 0,Xe Xf 0]):=show _=_ by rw[partF_no hs];rfl
   have J2:Xo (J f (kk+1) acc):=JW.out.skip ((HGD.out kk hlt).1 hs);clear hs
   go_wp2_with (refine HIX.out rfl (.tmp 7) (.tmp 8) rfl rfl kk rfl hlt HIV.out ?_)
   go_roundg (64 -(kk+1))
   case measure=>omega
   exact⟨kk+1,acc,xa,xc,by omega,by omega,by go_num,rfl,BW.out.trans (grew_alloc _ _),OW.out.grew (grew_alloc _ _),J2.out⟩
  | true=>
   have HS:Xo ((f kk).is=Xc):=hs;have HPF:Xo (partF f kk=⟨kk,(kk:Int)+1,(f kk).rd,(f kk).wr,(f kk).sh,(f kk).file,(f kk).page⟩):=partF_is hs;have HNEW:Xo ((∀b,acc.getLast? =Xa b->goB (partF f kk) b=Xd)->J f (kk+1) (acc++ [partF f kk])):=fun h=>JW.out.new HGD.out hlt HS.out h
   have HEXT:Xo (∀i b,acc=i++ [b]->goB (partF f kk) b=Xc->J f (kk+1) (i++ [{ b with tz:=(kk:Int)+1 }])):=fun i b h1 h2=>by
    have:=JW.out;rw[h1]at this;exact this.ext HGD.out hlt HS.out h2
   clear hs;rw[HPF.out]at HNEW HEXT;have HIV:Xo (arA (partF f kk)= Xi #[Xe Xf (kk:Int),Xe Xf ((kk:Int)+1),Xh (f kk).rd,Xh (f kk).wr,Xh (f kk).sh,Xe Xf (f kk).file,Xe Xf (f kk).page]):=show _=_ by rw[HPF.out];rfl
   generalize f kk=x at HNEW HEXT HIV
   have hne1:((kk:Int) ==(kk:Int)+1)=Xd:=by simp;omega
   go_upto_region 5 with(refine HIX.out rfl (.tmp 7) (.tmp 8) rfl rfl kk rfl hlt HIV.out ?_)
   obtain⟨W1,hW1⟩:∃W1,wr.alloc (Xk #[Xe Xf (kk:Int),Xe Xf ((kk:Int)+1),Xh x.rd,Xh x.wr,Xh x.sh,Xe Xf x.file,Xe Xf x.page] 125)=W1:=⟨_,rfl⟩;have G1:=gT hW1 BW
   have O1:Xo (OwnRow arE (w.heap.size+1) W1 (O xa acc.length xc) acc):=show OwnRow _ _ _ _ _ by rw[<-hW1];exact OW.out.grew (grew_alloc _ _)
   have P1:=xPT hW1 HP
   rw[hW1,HP.out];clear hW1 HP
   rcases List.eq_nil_or_concat acc with hnil | ⟨ini,b,hacc⟩
   ·subst hnil;have J2:Xo (J f (kk+1) [⟨kk,(kk:Int)+1,x.rd,x.wr,x.sh,x.file,x.page⟩]):=HNEW.out (fun b hb=>by cases hb)
    have p0:=P1.out.box.c 0 rfl;have p1:=P1.out.box.c 1 rfl;have hm1:decide ((0:Int)<=-1)=Xd:=by decide
    go_upto_region 7 with fail;go_quiet (fail);obtain⟨W2,hW2⟩:∃W2,W1.drewN nq=W2:=⟨_,rfl⟩;have G2:Xo (Grew W0 W2):=show Grew _ _ by rw[<-hW2];exact G1.out.trans (show Below _ _ _ from bD (bR _ _) _)
    have P2:Xo (BoxT W2 p 125 [Xe Xf (kk:Int),Xe Xf ((kk:Int)+1),Xh x.rd,Xh x.wr,Xh x.sh,Xe Xf x.file,Xe Xf x.page]):=show BoxT _ _ _ _ by rw[<-hW2];exact P1.out.grew (show Below _ _ _ from bD (bR _ _) _)
    have O2:Xo (OwnRow arE (w.heap.size+1) W2 (O xa 0 xc) []):=show OwnRow _ _ _ _ _ by rw[<-hW2];exact O1.out.grew (show Below _ _ _ from bD (bR _ _) _)
    rw[hW2];clear hW2 p0 p1;have HSZ:Xo (w.heap.size+1<=W2.heap.size):=show _<=_ by rw[<-HS0.out];exact bS G2.out
    go_wp2_with (first | refine wp_loadAll rfl 125 (.tmp 5) rfl p rfl P2.out.box Tryz.underlying125 rfl Tryz.sizeArea ?_ | (at_builtin;refine wpList_append_row (E:=arE) rfl (.tmp 35) (.tmp 37) rfl (w.heap.size+1) _ [] rfl (O2.out.grew (grew_alloc _ _)) _ [⟨kk,(kk:Int)+1,x.rd,x.wr,x.sh,x.file,x.page⟩] rfl (one_row arE W2 ⟨kk,(kk:Int)+1,x.rd,x.wr,x.sh,x.file,x.page⟩ _ _ rfl (by show 40<=_;omega)) ?qb ?qc ?_))
    case qb=>
     show(0+1)*40<=_
     omega
    case qc=>simp;have:=HSZ.out;omega
    intro v4 W4 ow4 gr4;obtain⟨xa4,xc4,rfl⟩:=ow4.form;have O4:Xo (OwnRow arE (w.heap.size+1) W4 (.slice xa4 ([]++ [(⟨kk,(kk:Int)+1,x.rd,x.wr,x.sh,x.file,x.page⟩:Ar)]).length xc4) ([]++ [⟨kk,(kk:Int)+1,x.rd,x.wr,x.sh,x.file,x.page⟩])):=ow4;have G4:Xo (Grew W0 W4):=show Grew _ _ from grew_beside (G2.out.trans (grew_alloc _ _)) gr4 (fun g hg=>by
     have h1:=(O2.out.lt g hg).1;rw[HS0.out];exact h1)
    clear ow4 gr4;go_wp2
    go_roundg (64 -(kk+1))
    case measure=>omega
    exact⟨kk+1,[]++ [(⟨kk,(kk:Int)+1,x.rd,x.wr,x.sh,x.file,x.page⟩:Ar)],xa4,xc4,by omega,by omega,by go_num,rfl,G4.out,O4.out,J2.out⟩
   rw[List.concat_eq_append]at hacc;have HACC:Xo (acc=ini++ [b]):=hacc;obtain⟨m,HM⟩:∃m,Xo (ini.length=m):=⟨_,rfl⟩;have HAL:Xo (acc.length=m+1):=show _=_ by rw[HACC.out,<-HM.out];simp
   have HBI:Xo (acc[m]? =Xa b):=show _=_ by rw[HACC.out,<-HM.out];simp
   have HBK:Xo (ArOk b):=JW.out.1.all b (by rw[HACC.out];simp)
   obtain⟨g,xc',hxe⟩:=O1.out.formS (by rw[HAL.out];omega)
   cases hxe;have hmm:((m+1:Nat):Int) - 1=(m:Int):=by omega
   have hm0:(0:Int)<=(m:Int):=by omega
   have hmd:decide ((0:Int)<=(m:Int))=Xc:=by simp
   have hmlt:(m:Int)< ((m+1:Nat):Int):=by omega
   have HML:Xo (m+1<=kk):=show _<=_ by rw[<-HAL.out];exact HLEN.out
   have hmk:m+1<=64:=by have:=HML.out;omega
   clear hacc;rw[HAL.out]at O1 OW⊢;have p0:=P1.out.box.c 0 rfl;have p1:=P1.out.box.c 1 rfl;go_upto_region 7 with fail;clear p0 p1;have hx0:∀y:GrownW W1,y.world.cell? ⟨p,0,Xb⟩=Xa (Xe Xf (kk:Int)):=fun y=>(P1.out.box.grew y.grew).c 0 rfl
   have hx1:∀y:GrownW W1,y.world.cell? ⟨p,1,Xb⟩=Xa (Xe Xf ((kk:Int)+1)):=fun y=>(P1.out.box.grew y.grew).c 1 rfl
   have hx2:∀y:GrownW W1,y.world.cell? ⟨p,2,Xb⟩=Xa (Xh x.rd):=fun y=>(P1.out.box.grew y.grew).c 2 rfl
   have hx3:∀y:GrownW W1,y.world.cell? ⟨p,3,Xb⟩=Xa (Xh x.wr):=fun y=>(P1.out.box.grew y.grew).c 3 rfl
   have hx4:∀y:GrownW W1,y.world.cell? ⟨p,4,Xb⟩=Xa (Xh x.sh):=fun y=>(P1.out.box.grew y.grew).c 4 rfl
   have hx5:∀y:GrownW W1,y.world.cell? ⟨p,5,Xb⟩=Xa (Xe Xf x.file):=fun y=>(P1.out.box.grew y.grew).c 5 rfl
   have hx6:∀y:GrownW W1,y.world.cell? ⟨p,6,Xb⟩=Xa (Xe Xf x.page):=fun y=>(P1.out.box.grew y.grew).c 6 rfl
   have hy0:∀y:GrownW W1,y.world.cell? ⟨g,m*7,Xb⟩=Xa (Xe Xf b.fr):=fun y=>(O1.out.grew y.grew).arc HBI.out 0 rfl
   have hy1:∀y:GrownW W1,y.world.cell? ⟨g,m*7+1,Xb⟩=Xa (Xe Xf b.tz):=fun y=>(O1.out.grew y.grew).arc HBI.out 1 rfl
   have hy2:∀y:GrownW W1,y.world.cell? ⟨g,m*7+2,Xb⟩=Xa (Xh b.rd):=fun y=>(O1.out.grew y.grew).arc HBI.out 2 rfl
   have hy3:∀y:GrownW W1,y.world.cell? ⟨g,m*7+3,Xb⟩=Xa (Xh b.wr):=fun y=>(O1.out.grew y.grew).arc HBI.out 3 rfl
   have hy4:∀y:GrownW W1,y.world.cell? ⟨g,m*7+4,Xb⟩=Xa (Xh b.sh):=fun y=>(O1.out.grew y.grew).arc HBI.out 4 rfl
   have hy5:∀y:GrownW W1,y.world.cell? ⟨g,m*7+5,Xb⟩=Xa (Xe Xf b.file):=fun y=>(O1.out.grew y.grew).arc HBI.out 5 rfl
   have hy6:∀y:GrownW W1,y.world.cell? ⟨g,m*7+6,Xb⟩=Xa (Xe Xf b.base):=fun y=>(O1.out.grew y.grew).arc HBI.out 6 rfl
   have hne:Nonempty (GrownW W1):=⟨⟨_,Grew.refl _⟩⟩;obtain⟨R,HRR⟩:∃R,Xo (goB ⟨kk,(kk:Int)+1,x.rd,x.wr,x.sh,x.file,x.page⟩ b=R):=⟨_,rfl⟩;refine wp_lax [(8,⟨fun v=>v= Xh R,fun _ _=>True⟩)] mixed (by kernel_rfl) ?_ ?_ ?_
   ·intro x hx
    simp at hx
    subst hx;exact⟨_,rfl⟩
   ·intro x hx
    simp at hx
    subst hx;exact fun _ _ _ _ h=>h
   iterate 8 (refine lax_quiet rfl rfl rfl (fun K hK=>?_);go_big_quiet_op;refine hK _ ?_;clear hK K)
   refine lax_spec rfl rfl (fun w' hg hF=>?_) (fun v1 hv=>?_)
   ·refine Does.call [Xi #[Xe Xf (kk:Int),Xe Xf ((kk:Int)+1),Xh x.rd,Xh x.wr,Xh x.sh,Xe Xf x.file,Xe Xf x.page],Xi #[Xe Xf b.fr,Xe Xf b.tz,Xh b.rd,Xh b.wr,Xh b.sh,Xe Xf b.file,Xe Xf b.base]] rfl Tryz.func166 rfl rfl rfl ?_;refine(hgo.out ⟨kk,(kk:Int)+1,x.rd,x.wr,x.sh,x.file,x.page⟩ b w' HBK.out).mono ?_;rintro e w'' ⟨rfl,hg2⟩;exact⟨_,rfl,hg2,by rw[<-HRR.out],trivial⟩
   subst hv;simp only[Yh,sB,sS,sZ];iterate 1 (refine lax_quiet rfl rfl rfl (fun K hK=>?_);go_big_quiet_op;refine hK _ ?_;clear hK K)
   refine lax_nil fun W2 hg1 hF=>?_
   have G2:=dD (G1.out.trans hg1);have P2:=dD (P1.out.grew hg1);have O2:=dD (O1.out.grew hg1);clear hg1 hF hx0 hx1 hx2 hx3 hx4 hx5 hx6 hy0 hy1 hy2 hy3 hy4 hy5 hy6 hne
   cases R with
   | true=>
    have J2:Xo (J f (kk+1) (ini++ [{ b with tz:=(kk:Int)+1 }])):=HEXT.out ini b HACC.out HRR.out;have HSET:Xo (acc.set m { b with tz:=(kk:Int)+1 }=ini++ [{ b with tz:=(kk:Int)+1 }]):=show _=_ by rw[HACC.out,List.set_append_right _ _ (by rw[HM.out];exact nR _),HM.out,Nat.sub_self];rfl
    have p1:=P2.out.box.c 1 rfl
    go_wp2_with (refine wpList_store_part (E:=arE) rfl (.tmp 34) (.tmp 32) 3 rfl (w.heap.size+1) (O (Xa ⟨g,0,Xb⟩) (m+1) xc) acc O2.out g m 1 rfl b { b with tz:=(kk:Int)+1 } HBI.out [Xe Xf ((kk:Int)+1)] (by kernel_rfl) rfl (Yg rfl) (by intro u hu;simp at hu;subst hu;rfl) _ rfl (by simp;rfl) _ rfl rfl ?_)
    intro W3 ow3 gr3 sz3;have HBG:=O2.out.lt g rfl;have G3:Xo (Grew W0 W3):=show Grew _ _ from grew_grown G2.out gr3 (by rw[HS0.out];exact HBG.1)
    have HL3:Xo ((ini++ [{ b with tz:=(kk:Int)+1 }]).length=m+1):=show _=_ by simp[HM.out]
    have O3:Xo (OwnRow arE (w.heap.size+1) W3 (.slice (Xa ⟨g,0,Xb⟩) (ini++ [{ b with tz:=(kk:Int)+1 }]).length xc) (ini++ [{ b with tz:=(kk:Int)+1 }])):=show OwnRow _ _ _ _ _ by rw[HL3.out,<-HSET.out];exact ow3
    clear ow3 gr3 sz3 HBG p1;rw[<-HL3.out];go_wp2
    go_roundg (64 -(kk+1))
    case measure=>omega
    exact⟨kk+1,ini++ [({ b with tz:=(kk:Int)+1 }:Ar)],Xa ⟨g,0,Xb⟩,xc,by omega,by omega,by go_num,rfl,G3.out,O3.out,J2.out⟩
   | false=>
    have J2:Xo (J f (kk+1) (acc++ [⟨kk,(kk:Int)+1,x.rd,x.wr,x.sh,x.file,x.page⟩])):=HNEW.out (fun c hc=>by
     rw[HACC.out]at hc
     simp at hc
     subst hc;exact HRR.out)
    have HSZ:Xo (w.heap.size+1<=W2.heap.size):=show _<=_ by rw[<-HS0.out];exact bS G2.out
    go_wp2_with (first | refine wp_loadAll rfl 125 (.tmp 5) rfl p rfl P2.out.box Tryz.underlying125 rfl Tryz.sizeArea ?_ | (at_builtin;refine wpList_append_row (E:=arE) rfl (.tmp 35) (.tmp 37) rfl (w.heap.size+1) _ acc rfl (O2.out.grew (grew_alloc _ _)) _ [⟨kk,(kk:Int)+1,x.rd,x.wr,x.sh,x.file,x.page⟩] rfl (one_row arE W2 ⟨kk,(kk:Int)+1,x.rd,x.wr,x.sh,x.file,x.page⟩ _ _ rfl (by show 40<=_;omega)) ?qb ?qc ?_))
    case qb=>
     show(acc.length+1)*40<=_
     rw[HAL.out];omega
    case qc=>simp;have:=HSZ.out;omega
    intro v4 W4 ow4 gr4;obtain⟨xa4,xc4,rfl⟩:=ow4.form;have O4:Xo (OwnRow arE (w.heap.size+1) W4 (.slice xa4 (acc++ [(⟨kk,(kk:Int)+1,x.rd,x.wr,x.sh,x.file,x.page⟩:Ar)]).length xc4) (acc++ [⟨kk,(kk:Int)+1,x.rd,x.wr,x.sh,x.file,x.page⟩])):=ow4;have G4:Xo (Grew W0 W4):=show Grew _ _ from grew_beside (G2.out.trans (grew_alloc _ _)) gr4 (fun g hg=>by
     have h1:=(O2.out.lt g hg).1;rw[HS0.out];exact h1)
    clear ow4 gr4;go_wp2
    go_roundg (64 -(kk+1))
    case measure=>omega
    exact⟨kk+1,acc++ [(⟨kk,(kk:Int)+1,x.rd,x.wr,x.sh,x.file,x.page⟩:Ar)],xa4,xc4,by omega,by omega,by go_num,rfl,G4.out,O4.out,J2.out⟩
 have hltz:¬(kk:Int)<64:=by omega
 have:kk=64:=by omega
 subst this;have HE:Xo (acc=joinL f):=JW.out.all HGD.out;have OE:Xo (OwnRow arE (w.heap.size+1) wr (O xa acc.length xc) (joinL f)):=show OwnRow _ _ _ _ _ by rw[<-HE.out];exact OW.out
 have GE:=dD (HG0.out.trans BW.out);go_wp2;go_ret;exact⟨⟨_,rfl,OE.out⟩,GE.out⟩
structure Pts (m:Ma):Prop where
 s4:m.sp.length<=4
 f40:m.fs.length<=40
 fr:∀(k:Nat) f,m.fs[k]? =Xa f->0<=f.r/\f.r<=1000
 fl:m.fl.length<=5/\∀f∈m.fl,f.bl.length<=12
 ar:∀s∈m.sp,(wrL s.ars).1=0/\tbW s.tb=0
theorem pts_of {m:Ma} (h:partE m=0):Pts m:=by
 unfold partE at h;rw[firstE_zero]at h;have p1:memW m.fs m.hand=0:=h _ (by simp)
 have p5:stW m.fl m.cnt=0:=h _ (by simp)
 have p9:(if 4<m.sp.length then(4:Int)else 0)=0:=h _ (by simp)
 have p10:=firstE_zero.1 (h (firstE (m.sp.map spE)) (by simp))
 obtain⟨⟨a1,a2,a3⟩,a4,a5⟩:=(stW_zero _ _).1 p5;unfold memW at p1
 split at p1
 ·cases p1
 rename_i b1
 split at p1
 ·rename_i b2
  refine⟨?_,by omega,fun k f hf=>?_,⟨a1,fun f hf=>?_⟩,fun s hs=>?_⟩
  ·split at p9
   ·cases p9
   omega
  ·have hw:=frsW_zero.1 b2 f (mG hf);unfold frW at hw
   split at hw
   ·cases hw
   rename_i c1
   simp[inB]at c1
   omega
  ·obtain⟨k1,k2,k3⟩:=a4 f hf;have:=cntP_nat k1.1 k1.2;omega
  have h3:=p10 (spE s) (Ya.2 ⟨s,hs,rfl⟩);unfold spE at h3
  split at h3
  ·rename_i c
   exact absurd h3 c
  rename_i c
  split at h3
  ·rename_i d
   exact absurd h3 d
  rename_i d
  exact⟨Classical.byContradiction c,Classical.byContradiction d⟩
 rename_i b2
 exact absurd p1 b2
theorem caW_ok {m:Ma} {p:Option Ca} {c:Ca} (h:caE m p c=0):(0<=c.file/\c.file< (m.fl.length:Int)/\0<=c.idx/\c.idx<bkN m c.file/\0<=c.fr/\c.fr< (m.fs.length:Int))/\((frAt m c.fr).r≠0/\(frAt m c.fr).f=c.file/\(frAt m c.fr).x=c.idx)/\∀q,p=Xa q->¬keyC c<=keyC q:=by
 unfold caE at h
 split at h
 ·cases h
 rename_i h1
 split at h
 ·cases h
 rename_i h2
 refine⟨by omega,⟨fun e=>h2 (.inl e),Classical.byContradiction fun e=>h2 (.inr (.inl e)),Classical.byContradiction fun e=>h2 (.inr (.inr e))⟩,fun q e k=>?_⟩
 subst e;have h:(if keyC c<=keyC q then(2:Int)else 0)=0:=h;rw[if_pos k]at h;cases h
def viewV (r:List Int × Bool × Int):Xq:= Xm #[Xi (pgc r.1).toArray,Xh r.2.1,Xe Xf r.2.2]
theorem ent_all {m:Ma} (h:maW m=0):∀s∈m.sp,∀n,n<64->(if(flatN s n).kind=0 then 0 else entE m (onAt s.ars n) (flatN s n))=0:=fun s hs n hn=>by
 unfold maW at h;rw[firstE_zero]at h;have h1:=firstE_zero.1 (h (firstE (m.sp.map (spEnt m))) (by simp)) (spEnt m s) (Ya.2 ⟨s,hs,rfl⟩)
 unfold spEnt at h1;exact firstE_zero.1 h1 _ (Ya.2 ⟨n,Yd.2 hn,rfl⟩)
theorem maW_parts {m:Ma} (h:maW m=0):partE m=0:=by
 unfold maW at h;rw[firstE_zero]at h;exact h _ (by simp)
theorem fl_ok {m:Ma} (h:maW m=0) {fi:Nat} {f:Fl} (hf:m.fl[fi]? =Xa f):(0<=f.size/\f.size<=96)/\(f.bl.length:Int)=cntP f.size:=by
 have h1:=maW_parts h;unfold partE at h1;rw[firstE_zero]at h1;have h2:=((stW_zero _ _).1 (h1 (stW m.fl m.cnt) (by simp))).2.1 f (mG hf)
 exact⟨h2.1,h2.2.1⟩
theorem runs_loadA {o:Oper} {a:Act} {w:Xn} (ty:TypeId) (x:Operand) (ho:o.op= .load ty x) (ad:Addr) (hx:a.eval x= Xj (Xa ad)) (v:Xq) (hc:w.cell? ad=Xa v) {d:TypeDesc} (hu:Tryz.prog.underlying ty=Xa d) (hd:d.isRow=Xd):(execOp a.eval o).run Tryz.prog w= .ok (.value v) w:=by
 have hagg:(isAgg ty).run Tryz.prog w= .ok Xd w:=by
  unfold isAgg;rw[Xx,run_underlying hu w]
  cases d <;> simp_all [TypeDesc.isRow]
 have h2:(loadVar ty ad).run Tryz.prog w= .ok v w:=by simp[loadVar,Xx,hagg,hc]
 simp only[execOp,ho,hx,Instr.loadAt,Instr.sureAddr,Xx,Yj,h2,rA]
structure CaIs (m:Ma) (c:Ca) (k fi ix:Nat) (f:Fr) (F:Fl):Prop where
 fr:c.fr=(k:Int)
 file:c.file=(fi:Int)
 idx:c.idx=(ix:Int)
 fa:m.fs[k]? =Xa f
 ff:f.f=(fi:Int)
 fx:f.x=(ix:Int)
 fl:m.fl[fi]? =Xa F
 sz:0<=F.size/\F.size<=96
 lo:ix<=12
 r:f.r≠0
 bl:ix<F.bl.length
theorem caIs_of {m:Ma} (h0:maW m=0) {c:Ca} (hc:c∈m.ca):∃k fi ix f F,CaIs m c k fi ix f F:=by
 obtain⟨⟨a1,a2,a3,a4,a5,a6⟩,⟨b1,b2,b3⟩,-⟩:=caW_ok ((caGo_zero.1 (right_inv h0).1.ca).1 c hc);obtain⟨k,hk⟩:∃k:Nat,c.fr=(k:Int):=⟨c.fr.toNat,by omega⟩
 obtain⟨fi,hfi⟩:∃fi:Nat,c.file=(fi:Int):=⟨c.file.toNat,by omega⟩
 obtain⟨ix,hix⟩:∃ix:Nat,c.idx=(ix:Int):=⟨c.idx.toNat,by omega⟩
 obtain⟨f,hf⟩:∃f,m.fs[k]? =Xa f:=⟨_,gE (by omega)⟩
 obtain⟨F,hF⟩:∃F,m.fl[fi]? =Xa F:=⟨_,gE (by omega)⟩
 have hfa:frAt m c.fr=f:=by unfold frAt;rw[hk,tN,gD,hf];rfl
 have hbk:bkN m c.file=(F.bl.length:Int):=by unfold bkN;rw[hfi,tN,gD,hF];rfl
 rw[hfa]at b1 b2 b3;rw[hbk]at a4;obtain⟨s1,s2⟩:=fl_ok h0 hF;have:=cntP_nat s1.1 s1.2;exact⟨k,fi,ix,f,F,hk,hfi,hix,hf,b2.trans hfi,b3.trans hix,hF,s1,by omega,b1,by omega⟩
end
section
theorem count_upd {α:Type} (P:α->Bool):∀{l:List α} {k:Nat} {x y:α},l[k]? =Xa x->(l.set k y).countP P+(P x).toNat=l.countP P+(P y).toNat
 | [],k,x,y,h=>by simp at h
 | a :: l,0,x,y,h=>by
  have:a=x:=by simpa using h
  subst this;rw[sZ,Yl,Yl]
  cases P a <;> cases P y <;> simp
 | a :: l,k+1,x,y,h=>by
  have:=count_upd P (l:=l) (k:=k) (x:=x) (y:=y) (by rw[Xu]at h;exact h)
  rw[sS,Yl,Yl];omega
theorem free_out {fs:List Fr} {k:Nat} {fr:Fr} (hk:fs[k]? =Xa fr) (hr:fr.r≠0):freeN (fs.set k frF)=freeN fs+1:=by
 have h:freeN (fs.set k frF)+(decide (fr.r=0)).toNat=freeN fs+(decide (frF.r=0)).toNat:=count_upd _ hk;rw[decide_eq_false hr,show decide (frF.r=0)=Xc from rfl]at h
 exact h
theorem usedAt_iff {fs:List Fl} {b:Int}:usedB fs b=Xc↔∃(i:Nat) (f:Fl) (j:Nat),fs[i]? =Xa f/\f.bl[j]? =Xa b:=by
 unfold usedB;rw[List.any_eq_true];constructor
 ·rintro⟨f,hf,h⟩;obtain⟨i,hi⟩:=Yb hf;obtain⟨j,hj⟩:=Yb (Ys.1 h);exact⟨i,f,j,hi,hj⟩
 rintro⟨i,f,j,hi,hj⟩;exact⟨f,mG hi,Ys.2 (mG hj)⟩
theorem real_mem1 {l:List Int} {b:Int} (h:b∈l) (hb:b≠-1):b∈real l:=Xz.2 ⟨h,by simpa using hb⟩
theorem realAt_uniq {b:Int} (hb:b≠-1):∀{l:List Int} {j k:Nat},(real l).Nodup->l[j]? =Xa b->l[k]? =Xa b->j=k
 | [],j,k,_,h,_=>by simp at h
 | a :: l,j,k,hn,h1,h2=>by
  have hn':(real l).Nodup:=by
   unfold real at hn⊢;rw[List.filter_cons]at hn
   split at hn
   ·exact(Ym.1 hn).2
   exact hn
  have key:a=b->b∉l:=fun e hm=>by
   subst e;unfold real at hn;rw[List.filter_cons,if_pos (by simpa using hb)]at hn
   exact(Ym.1 hn).1 (real_mem1 hm hb)
  cases j with
  | zero=>
   cases k with
   | zero=>rfl
   | succ k=>
    rw[Xu]at h2;exact absurd (mG h2) (key (by simpa using h1))
  | succ j=>
   cases k with
   | zero=>
    rw[Xu]at h1;exact absurd (mG h1) (key (by simpa using h2))
   | succ k=>
    rw[Xu]at h1 h2;rw[realAt_uniq hb hn' h1 h2]
theorem allB_mem1 {fs:List Fl} {i j:Nat} {f:Fl} {b:Int} (h1:fs[i]? =Xa f) (h2:f.bl[j]? =Xa b):b∈allB fs:=Yp.2 ⟨f,mG h1,mG h2⟩
theorem blkAt_uniq {b:Int} (hb:b≠-1):∀{fs:List Fl} {i k j l:Nat} {f g:Fl},(real (allB fs)).Nodup->fs[i]? =Xa f->f.bl[j]? =Xa b->fs[k]? =Xa g->g.bl[l]? =Xa b->i=k/\j=l
 | [],i,k,j,l,f,g,_,h,_,_,_=>by simp at h
 | a :: fs,i,k,j,l,f,g,hn,h1,h2,h3,h4=>by
  have hsp:real (allB (a :: fs))=real a.bl++real (allB fs):=by
   unfold real allB;rw[List.flatMap_cons,List.filter_append]
  rw[hsp,Yy]at hn;obtain⟨n1,n2,n3⟩:=hn
  cases i with
  | zero=>
   have ea:a=f:=by simpa using h1
   subst ea
   cases k with
   | zero=>
    have eg:a=g:=by simpa using h3
    subst eg;exact⟨rfl,realAt_uniq hb n1 h2 h4⟩
   | succ k=>
    rw[Xu]at h3;exact absurd rfl (n3 b (real_mem1 (mG h2) hb) b (real_mem1 (allB_mem1 h3 h4) hb))
  | succ i=>
   rw[Xu]at h1
   cases k with
   | zero=>
    have eg:a=g:=by simpa using h3
    subst eg;exact absurd rfl (n3 b (real_mem1 (mG h4) hb) b (real_mem1 (allB_mem1 h1 h2) hb))
   | succ k=>
    rw[Xu]at h3;obtain⟨e1,e2⟩:=blkAt_uniq hb n2 h1 h2 h3 h4;exact⟨by rw[e1],e2⟩
theorem block_old {fs:List Fl} {cnt:Int} {file idx b:Nat} {f:Fl} (h:stW fs cnt=0) (hf:fs[file]? =Xa f) (hj:f.bl[idx]? =Xa (b:Int)):
  fs.set file ⟨f.size,f.bl.set idx (b:Int)⟩=fs/\(∀x,usedB fs x=Xc↔(usedB fs x=Xc/\x≠-1)\/x=(b:Int)\/(x=-1/\usedB fs x=Xc))/\∀(i j:Nat) g,fs[i]? =Xa g->g.bl[j]? =Xa (b:Int)->i=file/\j=idx:=by
 obtain⟨_,_,h5⟩:=(stW_zero fs cnt).1 h;have hb:(b:Int)≠-1:=by omega
 refine⟨?_,fun x=>?_,fun i j g h1 h2=>blkAt_uniq hb h5 h1 h2 hf hj⟩
 ·have e1:f.bl.set idx (b:Int)=f.bl:=by
   apply Xw
   intro q;rw[Yc]
   split
   ·rename_i e
    subst e;rw[if_pos (gS.1 hj).1,hj]
   rfl
  rw[e1]
  apply Xw
  intro q;rw[Yc]
  split
  ·rename_i e
   subst e;rw[if_pos (gS.1 hf).1,hf]
  rfl
 constructor
 ·intro hu
  by_cases e:x=-1
  ·exact .inr (.inr ⟨e,hu⟩)
  exact .inl ⟨hu,e⟩
 rintro(⟨hu,_⟩ | rfl | ⟨_,hu⟩)
 ·exact hu
 ·exact usedAt_iff.2 ⟨file,f,idx,hf,hj⟩
 exact hu
theorem block_new {fs:List Fl} {cnt:Int} {file idx b:Nat} {f:Fl} (h:stW fs cnt=0) (hf:fs[file]? =Xa f) (hj:f.bl[idx]? =Xa (-1)) (hb:b∈leftL fs cnt):
  stW (fs.set file ⟨f.size,f.bl.set idx (b:Int)⟩) cnt=0/\(∀x,usedB (fs.set file ⟨f.size,f.bl.set idx (b:Int)⟩) x=Xc↔(usedB fs x=Xc/\x≠-1)\/x=(b:Int)\/(x=-1/\usedB (fs.set file ⟨f.size,f.bl.set idx (b:Int)⟩) x=Xc))/\usedB fs (b:Int)=Xd/\∀(i j:Nat) g,fs[i]? =Xa g->g.bl[j]? =Xa (b:Int)->i=file/\j=idx:=by
 have hu:usedB fs (b:Int)=Xd:=by
  have:=(Xz.1 hb).2
  simpa using this
 have hfl:=(gS.1 hf).1;have hjl:=(gS.1 hj).1;refine⟨(give_right h hf hj hb).1,fun x=>?_,hu,fun i j g h1 h2=>?_⟩
 ·constructor
  ·intro hx
   by_cases e:x=-1
   ·exact .inr (.inr ⟨e,hx⟩)
   obtain⟨i,g,j,h1,h2⟩:=usedAt_iff.1 hx
   by_cases e1:file=i
   ·subst e1;rw[sF hfl]at h1;cases h1;simp only at h2
    by_cases e2:idx=j
    ·subst e2;rw[sF hjl]at h2;cases h2;exact .inr (.inl rfl)
    rw[sN e2]at h2;exact .inl ⟨usedAt_iff.2 ⟨file,f,j,hf,h2⟩,e⟩
   rw[sN e1]at h1;exact .inl ⟨usedAt_iff.2 ⟨i,g,j,h1,h2⟩,e⟩
  rintro(⟨hx,e⟩ | rfl | ⟨_,hx⟩)
  ·obtain⟨i,g,j,h1,h2⟩:=usedAt_iff.1 hx
   by_cases e1:i=file
   ·subst e1;rw[hf]at h1;cases h1;have hne:idx≠j:=fun e2=>by
     subst e2;rw[hj]at h2;cases h2;exact e rfl
    exact usedAt_iff.2 ⟨i,⟨f.size,f.bl.set idx (b:Int)⟩,j,by rw[sF hfl],by simp only;rw[sN hne];exact h2⟩
   exact usedAt_iff.2 ⟨i,g,j,by rw[sN (fun e2=>e1 e2.symm)];exact h1,h2⟩
  ·exact usedAt_iff.2 ⟨file,⟨f.size,f.bl.set idx (b:Int)⟩,idx,by rw[sF hfl],by simp only;rw[sF hjl]⟩
  exact hx
 have:=usedAt_iff.2 ⟨i,g,j,h1,h2⟩;rw[hu]at this;cases this
end
section
open Go.RowKit
theorem blk_of {m:Ma} (h:Rt m) {fi ix:Nat} {F:Fl} (hF:m.fl[fi]? =Xa F) (hb:ix<F.bl.length) (h0:blkE m.fl m.cnt (fi:Int) (ix:Int)=0):
  ∃b:Nat,(b:Int)<m.cnt/\blkI m.fl m.cnt (fi:Int) (ix:Int)=(b:Int)/\blkC m.fl m.cnt (fi:Int) (ix:Int)=m.cnt/\blkF m.fl m.cnt (fi:Int) (ix:Int)=m.fl.set fi ⟨F.size,F.bl.set ix (b:Int)⟩/\(F.bl[ix]? =Xa (b:Int)\/(F.bl[ix]? =Xa (-1)/\b∈leftL m.fl m.cnt)):=by
 have hst:=h.inv.st;have e1:blOf m.fl (fi:Int)=F.bl:=by unfold blOf;rw[tN,hF]
 have e2:szOf m.fl (fi:Int)=F.size:=by unfold szOf;rw[tN,hF]
 obtain⟨z,hz⟩:∃z,F.bl[ix]? =Xa z:=⟨_,gE hb⟩;have e3:F.bl.getD ix 0=z:=by rw[gD,hz];rfl
 obtain⟨c1,c2,_⟩:=(stW_zero _ _).1 hst;have key:∃b:Nat,(b:Int)<m.cnt/\blkB m.fl m.cnt (fi:Int) (ix:Int)=(b:Int)/\(z=(b:Int)\/(z=-1/\b∈leftL m.fl m.cnt)):=by
  unfold blkB;rw[e1,tN,e3]
  by_cases ez:z=-1
  ·have hl:leftL m.fl m.cnt≠[]:=fun e=>by
    unfold blkE at h0;have hfl:=(gS.1 hF).1;rw[if_pos hst,if_pos (inL_iff.2 ⟨by omega,by omega⟩),e1,if_pos (inL_iff.2 ⟨by omega,by omega⟩),tN,e3,if_pos ez,if_pos e]at h0
    cases h0
   cases hll:leftL m.fl m.cnt with
   | nil=>exact absurd hll hl
   | cons b l=>
    have hm:b∈leftL m.fl m.cnt:=by rw[hll];exact Xs ..
    have hbn:b<m.cnt.toNat:=Yd.1 (Xz.1 hm).1;refine⟨b,by omega,by rw[if_pos ez];rfl,.inr ⟨ez,Xs ..⟩⟩
  rw[if_neg ez];obtain⟨_,_,k3⟩:=c2 F (mG hF);have:=k3 z (mG hz);exact⟨z.toNat,by omega,by omega,.inl (by omega)⟩
 obtain⟨b,k1,k2,k3⟩:=key;refine⟨b,k1,?_,?_,?_,?_⟩
 ·unfold blkI;rw[if_pos h0,k2]
 ·unfold blkC;rw[if_pos h0]
 ·unfold blkF;rw[if_pos h0,e1,e2,k2,tN,tN]
 rw[hz]
 rcases k3 with e | ⟨e,e'⟩
 ·exact .inl (by rw[e])
 exact .inr ⟨by rw[e],e'⟩
theorem writeB_at (ps:List (List Int)) (qs:List (Int × List Int)) (hin:∀q∈qs,∃i:Nat,q.1=(i:Int)/\i<ps.length) (i:Nat):(writeB ps qs)[i]? =ps[i]?\/∃q∈qs,q.1=(i:Int):=by
 unfold writeB
 split
 ·rename_i h4
  cases qs with
  | nil=>cases h4
  | cons q l=>
   simp only[List.headD_cons];obtain⟨j,hj,_⟩:=hin q (Xs ..)
   by_cases e:i=j
   ·exact .inr ⟨q,Xs ..,by rw[e];exact hj⟩
   rw[hj,tN,sN (fun h=>e h.symm)]
   exact .inl rfl
 exact .inl rfl
def sptV (x:Nat × Nat):List Xq:=[Xe Xf (x.1:Int),Xe Xf (x.2:Int)]
theorem Tryz.infoSpot:(Tryz.prog.info? 141).map (fun i=>(i.zero,i.size,i.bytes))=Xa (Xa (Xi #[Xe Xf 0,Xe Xf 0]),2,16):=by kernel_rfl
theorem Tryz.underlyingSpots:Tryz.prog.underlying 254=Xa (.slice 141):=by kernel_rfl
def sptE:Elt (Nat × Nat) where
 enc:=sptV
 k:=2
 ty:=141
 st:=254
 bytes:=16
 zv:= Xi #[Xe Xf 0,Xe Xf 0]
 zero:=(0,0)
 len:=fun _=>rfl
 one:=fun a u hu=>by
  simp only[sptV,mC,nM,or_false]at hu
  rcases hu with rfl | rfl <;> rfl
 und:=Tryz.underlyingSpots
 info:=Tryz.infoSpot
 zok:=rfl
 few:=by decide
 pos:=by decide
theorem fitN_len (s:Sp) (kind k:Int):(fitN s kind k).length<=64:=by
 unfold fitN;exact nT (List.length_filter_le _ _) (by simp)
theorem hdrTo_len (m:Ma) (kind k:Int):∀q,(hdrTo m kind k q).length<=64*q
 | 0=>by simp[hdrTo_zero]
 | q+1=>by
  rw[hdrTo_succ,lA,Yf];have h1:=hdrTo_len m kind k q;have h2:=fitN_len (m.sp.getD q ⟨Xd,[],[]⟩) kind k;omega
theorem cwHolders_any {w0 w:Xn} {p:Nat} {V:MaV} {m:Ma} (h:ChW w0 p w V m) (kind k:Int) (h4:m.sp.length<=4):
  Xp Tryz.prog 233 #[Xj (Xa ⟨p,0,Xb⟩),Xe Xf kind,Xe Xf k] w fun e w'=>∃v,e= Xl v/\OwnRow sptE w.heap.size w' v (hdrTo m kind k m.sp.length)/\Grew w w':=by
 obtain⟨xs,hxl,hrow,hsp⟩:=h.at.spaces;obtain⟨-,-,-,-,-,-,-,-,n9⟩:=h.at.ns;obtain⟨spa,HSA⟩:∃spa,Xo (V.sp.a=spa):=⟨_,rfl⟩;obtain⟨sn,HSN⟩:∃sn,Xo (m.sp.length=sn):=⟨_,rfl⟩;have c10:=h.box.box.c 10 rfl;rw[n9,HSN.out,HSA.out]at c10;have HXL:Xo (xs.length=sn):=show _=_ by rw[hxl];exact HSN.out
 have HRW:Xo (∀(j:Nat) x,xs[j]? =Xa x->∃ad,spa=Xa ad/\∀W,Grew w W->Sp10 W (ad.add (j*10)) x):=show∀j,_ by rw[<-HSA.out];exact hrow
 have HSP:Xo (∀(i:Nat) x s,xs[i]? =Xa x->m.sp[i]? =Xa s->SpaceAt w x s):=show∀i,_ from hsp
 have hsn4:sn<=4:=by rw[<-HSN.out];exact h4
 rw[HSN.out];clear h hxl hrow hsp n9 h4
 go_enter Tryz.func233,Tryz.ntmps233
 go_wp2;clear c10
 go_loopg [7,18] sn (fun gg s7 s18 wr=>∃(q:Nat) (a7:Option Addr) (n7 c7:Nat),q<=sn/\sn - q<=gg/\s18= Xe Xf q/\s7= O a7 n7 c7/\Xo (Grew w wr)/\Xo (OwnRow sptE w.heap.size wr (O a7 n7 c7) (hdrTo m kind k q)))
 case atStart=>exact⟨0,Xb,0,0,nZ _,by omega,rfl,rfl,Grew.refl _,OwnRow.nil _ _ _⟩
 obtain⟨q,a7,n7,c7,hq,hgq,rfl,rfl,GW,OW⟩:=hrel
 by_cases hlt:q<sn
 ·have hltz:(q:Int)< (sn:Int):=by omega
  obtain⟨x,hx⟩:∃x,xs[q]? =Xa x:=⟨_,gE (by rw[HXL.out];exact hlt)⟩
  obtain⟨s,HS⟩:∃s,Xo (m.sp[q]? =Xa s):=⟨_,gE (by rw[HSN.out];exact hlt)⟩
  have HAT:Xo (SpaceAt w x s):=HSP.out q x s hx HS.out;obtain⟨ad,rfl,hl⟩:=HRW.out q x hx;obtain⟨d0,d1,d2,d3,d4,d5,d6,d7,d8,d9⟩:=hl wr GW.out;have HNX:Xo (hdrTo m kind k (q+1)=hdrTo m kind k q++(fitN s kind k).map fun n=>(q,n)):=show _=_ by rw[hdrTo_succ,Sp.getD_of HS.out]
  have HLE:Xo ((hdrTo m kind k q).length<=64*q):=hdrTo_len m kind k q;have HFL:Xo ((fitN s kind k).length<=64):=fitN_len s kind k;clear hl hx;go_upto_region 5 with fail;obtain⟨W5,hW5⟩:∃W5,wr.alloc (Xk #[Xh x.live,O x.ar.a x.ar.n x.ar.c,O x.t0.a x.t0.n x.t0.c,O x.t1.a x.t1.n x.t1.c,O x.t2.a x.t2.n x.t2.c,O x.t3.a x.t3.n x.t3.c,O x.t4.a x.t4.n x.t4.c,O x.t5.a x.t5.n x.t5.c,O x.t6.a x.t6.n x.t6.c,O x.t7.a x.t7.n x.t7.c] 76)=W5:=⟨_,rfl⟩;have g5:=gP hW5
  have S5:=xA hW5
  have G5:=dD (GW.out.trans g5);have O5:=dD (OW.out.grew g5);rw[hW5];clear hW5 g5 d0 d1 d2 d3 d4 d5 d6 d7 d8 d9 GW OW;have hc:Xp Tryz.prog 242 #[Xi #[O x.t0.a x.t0.n x.t0.c,O x.t1.a x.t1.n x.t1.c,O x.t2.a x.t2.n x.t2.c,O x.t3.a x.t3.n x.t3.c,O x.t4.a x.t4.n x.t4.c,O x.t5.a x.t5.n x.t5.c,O x.t6.a x.t6.n x.t6.c,O x.t7.a x.t7.n x.t7.c],Xe Xf kind,Xe Xf k] W5 fun e w'=>∃v,e= Xl v/\OwnRow blE W5.heap.size w' v ((fitN s kind k).map fun(n:Nat)=>(n:Int))/\Grew W5 w':=findTb_any x.tab s.tb kind k W5 (HAT.out.tb.grew G5.out)
  have s2:=S5.out.c 2 rfl;have s3:=S5.out.c 3 rfl;have s4:=S5.out.c 4 rfl;have s5:=S5.out.c 5 rfl;have s6:=S5.out.c 6 rfl;have s7:=S5.out.c 7 rfl;have s8:=S5.out.c 8 rfl;have s9:=S5.out.c 9 rfl;go_wp2_with fail;refine hc.mono ?_;clear hc s2 s3 s4 s5 s6 s7 s8 s9;rintro e W6 ⟨v,rfl,ow6,g6⟩;obtain⟨FN,HFN⟩:∃FN,Xo (fitN s kind k=FN):=⟨_,rfl⟩;rw[HFN.out]at ow6 HNX HFL;obtain⟨va,vc,rfl⟩:=ow6.form;rw[Yf]at ow6;have F6:Xo (OwnRow blE W5.heap.size W6 (O va FN.length vc) (FN.map fun(n:Nat)=>(n:Int))):=ow6
  have G6:=dD (G5.out.trans g6);have O6:=dD (O5.out.grew g6);rw[Yf];obtain⟨fl,HFL2⟩:∃fl,Xo (FN.length=fl):=⟨_,rfl⟩;rw[HFL2.out]at F6 HFL⊢;have hfl64:fl<=64:=HFL.out;clear ow6 g6 G5 O5 S5 HAT HFL;obtain⟨b5,HB5⟩:∃b5,Xo (W5.heap.size=b5):=⟨_,rfl⟩;have HWB:Xo (w.heap.size<=W6.heap.size):=show _<=_ from bS G6.out
  rw[HB5.out]at F6;go_wp2
  go_loopg [7,29] fl (fun gg s7 s29 wr=>∃(j:Nat) (a7:Option Addr) (n7 c7:Nat),j<=fl/\fl - j<=gg/\s29= Xe Xf j/\s7= O a7 n7 c7/\Xo (Grew w wr)/\Xo (OwnRow sptE w.heap.size wr (O a7 n7 c7) (hdrTo m kind k q++(FN.take j).map fun n=>(q,n)))/\Xo (OwnRow blE b5 wr (O va fl vc) (FN.map fun(n:Nat)=>(n:Int))))
  case atStart=>exact⟨0,a7,n7,c7,nZ _,by omega,rfl,rfl,G6.out,show OwnRow _ _ _ _ _ by simpa using O6.out,F6.out⟩
  obtain⟨j,a8,n8,c8,hj,hgj,rfl,rfl,GJ,OJ,FJ⟩:=hrel;clear G6 O6 F6
  by_cases hlj:j<fl
  ·have hljz:(j:Int)< (fl:Int):=by omega
   obtain⟨n,hn⟩:∃n,FN[j]? =Xa n:=⟨_,gE (by rw[HFL2.out];exact hlj)⟩
   have hnm:(FN.map fun(n:Nat)=>(n:Int))[j]? =Xa (n:Int):=by rw[Xy,hn];rfl
   obtain⟨_,_,hve,hrows⟩:=FJ.out.at.rows;simp only[vJ]at hve;obtain⟨ad2,had2,hl2⟩:=hrows j _ hnm;rw[<-hve.1]at had2;subst had2;have e0:wr.cell? (ad2.add (j*1))=Xa (Xe Xf (n:Int)):=by
    have:=hl2 wr (Grew.refl _) 0 _ rfl;rw[Addr.add_add]at this;exact this
   rw[Nat.mul_one]at e0;have HTK:Xo ((FN.take (j+1)).map (fun n=>(q,n))=(FN.take j).map (fun n=>(q,n))++ [(q,n)]):=show _=_ by rw[Yz,hn];simp
   have HBD:Xo (((hdrTo m kind k q++(FN.take j).map fun n=>(q,n)).length+ [(q,n)].length)*16<=140737488355328):=show _<=_ by
    rw[lA,Yf,List.length_take];have:=HLE.out;simp only[Yk,Yr];omega
   clear hn hnm hve hrows hl2;obtain⟨L0,HL0⟩:∃L0,Xo ((hdrTo m kind k q++(FN.take j).map fun n=>(q,n))=L0):=⟨_,rfl⟩
   rw[HL0.out]at OJ HBD;have O2:Xo (OwnRow sptE w.heap.size (wr.alloc (Xk #[Xe Xf (q:Int),Xe Xf (n:Int)] 141)) (O a8 n8 c8) L0):=OJ.out.grew (grew_alloc wr (Xk #[Xe Xf (q:Int),Xe Xf (n:Int)] 141));have HSZ:Xo (w.heap.size<=(wr.alloc (Xk #[Xe Xf (q:Int),Xe Xf (n:Int)] 141)).heap.size):=show _<=_ from nT (bS GJ.out) (bS (grew_alloc _ _))
   go_wp2_with (at_builtin;refine wpList_append_row (E:=sptE) rfl (.tmp 33) (.tmp 37) rfl w.heap.size (O a8 n8 c8) L0 rfl O2.out _ [(q,n)] rfl (one_row sptE wr (q,n) _ _ rfl (by decide)) HBD.out HSZ.out ?_)
   intro v9 W9 ow9 gr9;obtain⟨a9,c9,rfl⟩:=ow9.form;have O9:Xo (OwnRow sptE w.heap.size W9 _ (hdrTo m kind k q++(FN.take (j+1)).map fun n=>(q,n))):=show OwnRow _ _ _ _ _ by rw[HTK.out,<-List.append_assoc,HL0.out];exact ow9
   have ga:Grew wr (wr.alloc (Xk #[Xe Xf (q:Int),Xe Xf (n:Int)] 141)):=grew_alloc _ _;have F9:Xo (OwnRow blE b5 W9 (O (Xa ad2) fl vc) (FN.map fun(n:Nat)=>(n:Int))):=show OwnRow _ _ _ _ _ from(FJ.out.grew ga).grown gr9 (fun g hg e=>(FJ.out.grew ga).apart O2.out (by decide) g hg e)
   have G9:Xo (Grew w W9):=show Grew _ _ from grew_beside (GJ.out.trans ga) gr9 (fun g hg=>(O2.out.lt g hg).1)
   clear ow9 gr9 ga O2 e0;try simp only[Yh]
   go_wp2
   go_roundg (fl -(j+1))
   case measure=>omega
   exact⟨j+1,_,_,_,by omega,by omega,by go_num,rfl,G9.out,O9.out,F9.out⟩
  have hljz:¬(j:Int)< (fl:Int):=by omega
  have OQ:Xo (OwnRow sptE w.heap.size wr (O a8 n8 c8) (hdrTo m kind k (q+1))):=show OwnRow _ _ _ _ _ by
   rw[HNX.out];have:=OJ.out;rw[Yq (by rw[HFL2.out];omega)]at this
   exact this
  go_wp2
  go_roundg (sn -(q+1))
  case measure=>omega
  exact⟨q+1,a8,n8,c8,by omega,by omega,by go_num,rfl,GJ.out,OQ.out⟩
 have hltz:¬(q:Int)< (sn:Int):=by omega
 obtain rfl:q=sn:=by omega
 go_wp2;go_ret;exact⟨_,rfl,OW.out,GW.out⟩
theorem cwEnter_any {w0 w:Xn} {p:Nat} {V:MaV} {m:Ma} (h:ChW w0 p w V m) (q:Nat) (hq:q<m.sp.length) (n:Int) (z:En):
  Xp Tryz.prog 137 #[Xj (Xa ⟨p,0,Xb⟩),Xi #[Xe Xf (q:Int),Xe Xf n],Xi #[Xe Xf z.kind,Xe Xf z.n,Xh z.wr]] w fun e w'=>(∃v,e= Xl v)/\Chg w0 p w V (enterM m q n z) w':=by
 obtain⟨s,hs⟩:∃s,m.sp[q]? =Xa s:=⟨_,gE hq⟩;obtain⟨xs,s1,s2,s3⟩:=h.sp;obtain⟨x,hx⟩:∃x,xs[q]? =Xa x:=⟨_,gE (by rw[s2];exact hq)⟩
 have HAT:Xo (SpaceAt w x s):=s3 q x s hx hs w (OutD.refl _ _);obtain⟨xn,HXN⟩:∃xn,Xo (xs.length=xn):=⟨_,rfl⟩;obtain⟨g,c,heq⟩:=s1.formS (by omega)
 rw[HXN.out]at heq;have hqz:(q:Int)< (xn:Int):=by have:=HXN.out;omega
 have HVS:Xo (O V.sp.a V.sp.n V.sp.c= O (Xa ⟨g,0,Xb⟩) xn c):=heq;have HM:Xo (ChW w0 p w V m):=h;have HX:Xo (xs[q]? =Xa x):=hx;have HS:Xo (m.sp[q]? =Xa s):=hs;have HS2:Xo (xs.length=m.sp.length):=s2;have HS3:Xo (∀(i:Nat) x s,xs[i]? =Xa x->m.sp[i]? =Xa s->∀W,OutD (Dr w0.heap.size p V) w W->SpaceAt W x s):=s3;rw[heq]at s1;have HS1:Xo (OwnRow spcE w0.heap.size w (O (Xa ⟨g,0,Xb⟩) xn c) xs):=s1;have HCE:Xo (∀W,Grew w W->Sp10 W ⟨g,q*10,Xb⟩ x):=show∀W,_ from fun W hW=>by
  have:=((s1.grew hW).one hx).sp10;rw[Ye,zA]at this;exact this
 have HG:Xo (∀W,Grew w W->Xp Tryz.prog 175 #[Xi #[O x.t0.a x.t0.n x.t0.c,O x.t1.a x.t1.n x.t1.c,O x.t2.a x.t2.n x.t2.c,O x.t3.a x.t3.n x.t3.c,O x.t4.a x.t4.n x.t4.c,O x.t5.a x.t5.n x.t5.c,O x.t6.a x.t6.n x.t6.c,O x.t7.a x.t7.n x.t7.c],Xe Xf n,Xi #[Xe Xf z.kind,Xe Xf z.n,Xh z.wr]] W fun e w'=>∃us,e= Xl (Xm #[Xi us.toArray,Xe Xf (setE s.tb n z)])/\TabS 0 W.heap.size w' us (setR s.tb n z)/\Grew W w'):=show∀W,_ from fun W hW=>setTb_any x.tab s.tb n z W (HAT.out.tb.grew hW)
 have HEM:Xo (enterM m q n z={ m with sp:=m.sp.set q { s with tb:=setR s.tb n z } }):=show _=_ by unfold enterM;rw[Sp.getD_of hs]
 rw[HEM.out];clear h hq hs s1 s2 s3 hx heq HAT HEM;obtain⟨W1,hW1⟩:∃W1,(w.alloc (Xk #[Xe Xf (q:Int),Xe Xf n] 141)).alloc (Xk #[Xe Xf z.kind,Xe Xf z.n,Xh z.wr] 127)=W1:=⟨_,rfl⟩;have G1:=gD2 hW1
 have X1:=x2a hW1
 have Y1:=x2b hW1
 have HW1:Xo (_=W1):=hW1;clear hW1;have c10:W1.cell? ⟨p,10,Xb⟩=Xa (O (Xa ⟨g,0,Xb⟩) xn c):=by rw[<-HVS.out];exact(HM.out.box.box.grew G1.out).c 10 rfl
 have x0:=X1.out.c 0 rfl
 go_enter Tryz.func137,Tryz.ntmps137
 go_upto_region 1 with fail;rw[HW1.out];obtain⟨b,HB⟩:∃b,Xo (w.heap.size=b):=⟨_,rfl⟩;rw[HB.out]at X1 Y1 x0⊢
 go_upto_region 2 with(go_quiet (fail))
 clear c10 x0;obtain⟨W2,hW2⟩:∃W2,W1.drewN nq=W2:=⟨_,rfl⟩;have G2:Xo (Grew w W2):=show Grew _ _ by rw[<-hW2];exact G1.out.trans (show Below _ _ _ from bD (bR _ _) _)
 have X2:Xo (Box W2 b [Xe Xf (q:Int),Xe Xf n]):=show Box _ _ _ by rw[<-hW2];exact X1.out.grew (show Below _ _ _ from bD (bR _ _) _)
 have Y2:Xo (Box W2 (b+1) [Xe Xf z.kind,Xe Xf z.n,Xh z.wr]):=show Box _ _ _ by rw[<-hW2];exact Y1.out.grew (show Below _ _ _ from bD (bR _ _) _)
 rw[hW2];clear hW2 G1 X1 Y1;obtain⟨I,HI⟩:∃I:Xn->Prop,Xo (∀u,I u↔Box u b [Xe Xf (q:Int),Xe Xf n]/\Box u (b+1) [Xe Xf z.kind,Xe Xf z.n,Xh z.wr]):=⟨fun u=>Box u b [Xe Xf (q:Int),Xe Xf n]/\Box u (b+1) [Xe Xf z.kind,Xe Xf z.n,Xh z.wr],fun _=>Iff.rfl⟩
 have hI0:I W2.drew:=(HI.out _).2 ⟨X2.out.grew (gW _),Y2.out.grew (gW _)⟩
 have hF0:Grew W2 W2.drew:=show Below _ _ _ from(bR _ _).drew
 have hx1:∀y:HoldI I,y.world.cell? ⟨b,1,Xb⟩=Xa (Xe Xf n):=fun y=>((HI.out _).1 y.holds).1.c 1 rfl
 have hy0:∀y:HoldI I,y.world.cell? ⟨b+1,0,Xb⟩=Xa (Xe Xf z.kind):=fun y=>((HI.out _).1 y.holds).2.c 0 rfl
 have hy1:∀y:HoldI I,y.world.cell? ⟨b+1,1,Xb⟩=Xa (Xe Xf z.n):=fun y=>((HI.out _).1 y.holds).2.c 1 rfl
 have hy2:∀y:HoldI I,y.world.cell? ⟨b+1,2,Xb⟩=Xa (Xh z.wr):=fun y=>((HI.out _).1 y.holds).2.c 2 rfl
 have hne:Nonempty (HoldI I):=⟨⟨_,hI0⟩⟩;refine wp_lax_tailD (I:=I) 15 [(4,fun v=>v= Xi #[O x.t0.a x.t0.n x.t0.c,O x.t1.a x.t1.n x.t1.c,O x.t2.a x.t2.n x.t2.c,O x.t3.a x.t3.n x.t3.c,O x.t4.a x.t4.n x.t4.c,O x.t5.a x.t5.n x.t5.c,O x.t6.a x.t6.n x.t6.c,O x.t7.a x.t7.n x.t7.c]),(8,fun v=>∃us:List Xq,v= Xm #[Xi us.toArray,Xe Xf (setE s.tb n z)]),(14,fun _=>True)] (fun u=>Grew W2 u) hI0 hF0 mixed (by kernel_rfl) rfl rfl (by decide) ?hS (by kernel_rfl) ?_
 case hS=>
  intro x hx;simp only[mC,nM,or_false]at hx
  rcases hx with rfl | rfl | rfl
  ·exact⟨_,rfl⟩
  ·exact⟨_,[],rfl⟩
  exact⟨undef,trivial⟩
 simp only[List.take,List.drop];iterate 2 (refine laxD_quiet rfl rfl rfl (fun K hK=>?_);go_big_quiet_op;refine hK _ ?_;clear hK K)
 refine laxD_nilc (.tmp 17) ⟨g,q*10,Xb⟩ rfl rfl rfl rfl ?_;simp only[Yh,sB,sS,sZ];iterate 1 (refine laxD_quiet rfl rfl rfl (fun K hK=>?_);go_big_quiet_op;refine hK _ ?_;clear hK K)
 refine laxD_spec rfl rfl (fun _ u=>Grew W2 u) (fun w' hI' hF'=>?_) (fun v1 hv=>?_)
 ·refine does_load 74 (.tmp 19) rfl g (q*10+2) rfl [O x.t0.a x.t0.n x.t0.c,O x.t1.a x.t1.n x.t1.c,O x.t2.a x.t2.n x.t2.c,O x.t3.a x.t3.n x.t3.c,O x.t4.a x.t4.n x.t4.c,O x.t5.a x.t5.n x.t5.c,O x.t6.a x.t6.n x.t6.c,O x.t7.a x.t7.n x.t7.c] ?_ Tryz.underlying74 rfl (by kernel_rfl) ⟨hI',rfl,hF'⟩
  have hc:=HCE.out _ (G2.out.trans hF');intro j v hj;have hr:(w'.cell? ⟨g,q*10+2+j,Xb⟩)=Xa v:=by
   match j,hj with
   | 0,hj=>cases hj;exact hc.2.2.1
   | 1,hj=>cases hj;exact hc.2.2.2.1
   | 2,hj=>cases hj;exact hc.2.2.2.2.1
   | 3,hj=>cases hj;exact hc.2.2.2.2.2.1
   | 4,hj=>cases hj;exact hc.2.2.2.2.2.2.1
   | 5,hj=>cases hj;exact hc.2.2.2.2.2.2.2.1
   | 6,hj=>cases hj;exact hc.2.2.2.2.2.2.2.2.1
   | 7,hj=>cases hj;exact hc.2.2.2.2.2.2.2.2.2
  exact hr
 cases hv;simp only[Yh,sB,sS,sZ];iterate 3 (refine laxD_quiet rfl rfl rfl (fun K hK=>?_);go_big_quiet_op;refine hK _ ?_;clear hK K)
 refine laxD_spec rfl rfl (fun v u=>∃(us:List Xq) (Wa:Xn),v= Xm #[Xi us.toArray,Xe Xf (setE s.tb n z)]/\Grew W2 Wa/\Grew Wa u/\TabS 0 Wa.heap.size u us (setR s.tb n z)) (fun w' hI' hF'=>?_) (fun v1 hv=>?_)
 ·refine Does.call [Xi #[O x.t0.a x.t0.n x.t0.c,O x.t1.a x.t1.n x.t1.c,O x.t2.a x.t2.n x.t2.c,O x.t3.a x.t3.n x.t3.c,O x.t4.a x.t4.n x.t4.c,O x.t5.a x.t5.n x.t5.c,O x.t6.a x.t6.n x.t6.c,O x.t7.a x.t7.n x.t7.c],Xe Xf n,Xi #[Xe Xf z.kind,Xe Xf z.n,Xh z.wr]] rfl Tryz.func175 rfl rfl rfl ?_;refine(HG.out w' (G2.out.trans hF')).mono ?_;rintro e w'' ⟨us,rfl,t2,g2⟩;obtain⟨i1,i2⟩:=(HI.out _).1 hI';exact⟨_,rfl,(HI.out _).2 ⟨i1.grew g2,i2.grew g2⟩,⟨us,rfl⟩,us,w',rfl,hF',g2,t2⟩
 obtain⟨us,rfl⟩:=hv;simp only[Yh,sB,sS,sZ];iterate 3 (refine laxD_quiet rfl rfl rfl (fun K hK=>?_);go_big_quiet_op;refine hK _ ?_;clear hK K)
 refine laxD_nilc (.tmp 16) ⟨g,q*10,Xb⟩ rfl rfl rfl rfl ?_;simp only[Yh,sB,sS,sZ];iterate 1 (refine laxD_quiet rfl rfl rfl (fun K hK=>?_);go_big_quiet_op;refine hK _ ?_;clear hK K)
 refine laxD_spec rfl rfl (fun _ u=>Chg w0 p w V { m with sp:=m.sp.set q { s with tb:=setR s.tb n z } } u) (fun w' hI' hF'=>?_) (fun v1 hv=>?_)
 ·obtain⟨us',Wa,he,ga,gb,t8⟩:=hF';have hus:us'=us:=by simpa using he.symm
  subst hus;obtain⟨t0,t1,t2,t3,t4,t5,t6,t7,rfl⟩:=t8.form;have G8:Grew w w':=(G2.out.trans ga).trans gb;refine does_store_partC (E:=spcE) (.tmp 28) (.tmp 25) 74 rfl w0.heap.size _ xs (HS1.out.grew G8) g q 2 rfl x ⟨x.live,x.ar,t0,t1,t2,t3,t4,t5,t6,t7⟩ HX.out [t0.v,t1.v,t2.v,t3.v,t4.v,t5.v,t6.v,t7.v] (by kernel_rfl) rfl (by show 2+8<=10;omega) ?_ ⟨g,q*10+2,Xb⟩ rfl rfl (Xi #[t0.v,t1.v,t2.v,t3.v,t4.v,t5.v,t6.v,t7.v]) rfl rfl ?_
  ·intro u hu;simp only[mC,nM,or_false]at hu
   rcases hu with rfl | rfl | rfl | rfl | rfl | rfl | rfl | rfl <;> rfl
  intro W9 ow9 gr9 _;rw[<-HVS.out]at ow9;obtain⟨i1,i2⟩:=(HI.out _).1 hI';have hgl:=HS1.out.lt g rfl;refine⟨(HI.out _).2 ⟨i1.grown gr9 (by have:=HB.out;omega),i2.grown gr9 (by have:=HB.out;omega)⟩,trivial,HM.out.setT HS2.out HS3.out HX.out HS.out (by unfold oB;rw[HVS.out];rfl) G8 (t8.less (nR _) (nT (bS G2.out) (bS ga))) gr9 ow9 ⟨rfl,rfl,rfl⟩⟩
 clear hv;try simp only[Yh]
 refine laxD_nil fun W9 hI8 hF8=>?_
 have M9:Xo (Chg w0 p w V { m with sp:=m.sp.set q { s with tb:=setR s.tb n z } } W9):=hF8;clear hI8 hF8 hI0 hF0 hx1 hy0 hy1 hy2 hne HI;go_wp2
 (first | go_end0 | ((try simp only[Exit.inBlock,Exit.then]);refine bodyPost_ret (results_none rfl _ _ _) rfl ?_))
 first | exact M9.out | exact⟨⟨_,rfl⟩,M9.out⟩
theorem cwDrop_any {w0 w:Xn} {p:Nat} {V:MaV} {m:Ma} (h:ChW w0 p w V m) (q:Nat) (hq:q<m.sp.length) (n:Int) (hk:(entM m q n).kind=1->holdE m.fs m.hand (entM m q n).n (-1)=0):
  Xp Tryz.prog 78 #[Xj (Xa ⟨p,0,Xb⟩),Xi #[Xe Xf (q:Int),Xe Xf n]] w fun e w'=>(∃v,e= Xl v)/\Chg w0 p w V (dropP m q n) w':=by
 obtain⟨E,HE⟩:∃E,Xo (entM m q n=E):=⟨_,rfl⟩;have HSH:Xo (dropP m q n=enterM (holdM m E (-1)) q n ⟨0,0,Xd⟩):=show _=_ by rw[<-HE.out];rfl
 have HM:Xo (ChW w0 p w V m):=h;have HQ:Xo (q<m.sp.length):=hq;have HD:Xo (∀k,Dw p V k->k<w.heap.size):=h.dlt;have HK:Xo (E.kind=1->holdE m.fs m.hand E.n (-1)=0):=show _->_ by rw[<-HE.out];exact hk
 clear h hq hk;obtain⟨W1,hW1⟩:∃W1,w.alloc (Xk #[Xe Xf (q:Int),Xe Xf n] 141)=W1:=⟨_,rfl⟩;have G1:=gA hW1
 obtain⟨b,HB⟩:∃b,Xo (w.heap.size=b):=⟨_,rfl⟩;have X1:=xPT hW1 HB
 have HND:Xo (¬Dw p V b):=show¬_ from fun e=>by have:=HD.out _ e;have:=HB.out;omega
 have HW1:Xo (_=W1):=hW1;clear hW1;have hen:=cwEntry_any (HM.out.grew G1.out) q HQ.out n;rw[HE.out]at hen
 go_enter Tryz.func78,Tryz.ntmps78
 go_upto_region 1 with fail;rw[HW1.out,HB.out];have x0:=X1.out.box.c 0 rfl;have x1:=X1.out.box.c 1 rfl;go_wp2_with fail;refine hen.mono ?_;clear hen x0 x1;rintro e W2 ⟨rfl,g2⟩;have G2:=dD (G1.out.trans g2);have X2:=dD (X1.out.grew g2);clear g2 G1 X1 HW1;unfold enV;have hho:=cwHold_any (HM.out.grew G2.out) E (-1) HK.out;go_wp2_with fail;refine hho.mono ?_;clear hho;rintro e W4 ⟨⟨v4,rfl⟩,V4,m4,o4,d4⟩;have M4:Xo (ChW w0 p W4 V4 (holdM m E (-1))):=m4;have HS4:Xo (∀k,Dw p V4 k->Dw p V k\/w.heap.size<=k):=show∀k,_ from Chg.far G2.out d4
 have O4:Xo (OutD (Dw p V) w W4):=show OutD _ _ _ from(OutD.grew G2.out).trans o4
 have X4:Xo (BoxT W4 b 141 [Xe Xf (q:Int),Xe Xf n]):=X2.out.outD o4 HND.out;clear m4 d4 o4 X2 G2;have x0:=X4.out.box.c 0 rfl;have x1:=X4.out.box.c 1 rfl;have hen:=cwEnter_any M4.out q (by rw[holdM_sp];exact HQ.out) n ⟨0,0,Xd⟩
 go_wp2_with fail;refine hen.mono ?_;clear hen x0 x1;rintro e W6 ⟨⟨v6,rfl⟩,h6⟩;have M6:Xo (Chg w0 p w V (dropP m q n) W6):=show Chg _ _ _ _ _ _ by rw[HSH.out];exact Chg.step O4.out HS4.out h6
 clear h6;go_wp2
 (first | go_end0 | ((try simp only[Exit.inBlock,Exit.then]);refine bodyPost_ret (results_none rfl _ _ _) rfl ?_))
 first | exact M6.out | exact⟨⟨_,rfl⟩,M6.out⟩
def joinP (m:Ma) (q:Nat) (n:Int) (k:Int):Ma:=enterM (holdM m ⟨1,k,Xd⟩ 1) q n ⟨1,k,Xd⟩
theorem cwJoin_any {w0 w:Xn} {p:Nat} {V:MaV} {m:Ma} (h:ChW w0 p w V m) (q:Nat) (hq:q<m.sp.length) (n:Int) (k:Int) (hk:holdE m.fs m.hand k 1=0):
  Xp Tryz.prog 193 #[Xj (Xa ⟨p,0,Xb⟩),Xi #[Xe Xf (q:Int),Xe Xf n],Xe Xf k] w fun e w'=>(∃v,e= Xl v)/\Chg w0 p w V (joinP m q n k) w':=by
 have HM:Xo (ChW w0 p w V m):=h;have HQ:Xo (q<m.sp.length):=hq;have HK:Xo (holdE m.fs m.hand k 1=0):=hk;have HD:Xo (∀k,Dw p V k->k<w.heap.size):=h.dlt;clear h hq hk;obtain⟨W1,hW1⟩:∃W1,(w.alloc (Xk #[Xe Xf (q:Int),Xe Xf n] 141)).alloc (Xk #[Xe Xf 1,Xe Xf k,Xh Xd] 127)=W1:=⟨_,rfl⟩;have G1:=gD2 hW1
 obtain⟨b,HB⟩:∃b,Xo (w.heap.size=b):=⟨_,rfl⟩;have X1:Xo (BoxT W1 b 141 [Xe Xf (q:Int),Xe Xf n]):=show BoxT _ _ _ _ by rw[<-hW1];exact(BoxT.top w [Xe Xf (q:Int),Xe Xf n] _ HB.out.symm).grew (grew_alloc _ _)
 have Y1:Xo (BoxT W1 (b+1) 127 [Xe Xf 1,Xe Xf k,Xh Xd]):=show BoxT _ _ _ _ by rw[<-hW1];exact BoxT.top _ [Xe Xf 1,Xe Xf k,Xh Xd] _ (by have:=HB.out;simp;omega)
 have HND:Xo (¬Dw p V b/\¬Dw p V (b+1)):=show _/\_ from⟨fun e=>by have:=HD.out _ e;have:=HB.out;omega,fun e=>by have:=HD.out _ e;have:=HB.out;omega⟩
 have HW1:Xo (_=W1):=hW1;clear hW1;have hho:=cwHold_any (HM.out.grew G1.out) ⟨1,k,Xd⟩ 1 (fun _=>HK.out)
 go_enter Tryz.func193,Tryz.ntmps193
 go_upto_region 2 with fail;rw[HW1.out,HB.out];obtain⟨y0,y1,y2⟩:=Y1.out.box.c3;go_wp2_with fail;refine hho.mono ?_;clear hho y0 y1 y2;rintro e W4 ⟨⟨v4,rfl⟩,V4,m4,o4,d4⟩;have M4:Xo (ChW w0 p W4 V4 (holdM m ⟨1,k,Xd⟩ 1)):=m4;have HS4:Xo (∀k,Dw p V4 k->Dw p V k\/w.heap.size<=k):=show∀k,_ from Chg.far G1.out d4
 have O4:Xo (OutD (Dw p V) w W4):=show OutD _ _ _ from(OutD.grew G1.out).trans o4
 have X4:Xo (BoxT W4 b 141 [Xe Xf (q:Int),Xe Xf n]):=X1.out.outD o4 HND.out.1;have Y4:Xo (BoxT W4 (b+1) 127 [Xe Xf 1,Xe Xf k,Xh Xd]):=Y1.out.outD o4 HND.out.2;clear m4 d4 o4 X1 Y1 G1;have x0:=X4.out.box.c 0 rfl;have x1:=X4.out.box.c 1 rfl;obtain⟨y0,y1,y2⟩:=Y4.out.box.c3;have hen:=cwEnter_any M4.out q (by rw[holdM_sp];exact HQ.out) n ⟨1,k,Xd⟩
 go_wp2_with fail;refine hen.mono ?_;clear hen x0 x1 y0 y1 y2;rintro e W6 ⟨⟨v6,rfl⟩,h6⟩;have M6:Xo (Chg w0 p w V (joinP m q n k) W6):=show Chg _ _ _ _ _ _ from Chg.step O4.out HS4.out h6
 clear h6;go_wp2
 (first | go_end0 | ((try simp only[Exit.inBlock,Exit.then]);refine bodyPost_ret (results_none rfl _ _ _) rfl ?_))
 first | exact M6.out | exact⟨⟨_,rfl⟩,M6.out⟩
theorem cwAllow_any {w0 w:Xn} {p:Nat} {V:MaV} {m:Ma} (h:ChW w0 p w V m) (q:Nat) (hq:q<m.sp.length) (n:Int):
  Xp Tryz.prog 207 #[Xj (Xa ⟨p,0,Xb⟩),Xi #[Xe Xf (q:Int),Xe Xf n]] w fun e w'=>(∃v,e= Xl v)/\Chg w0 p w V (enterM m q n { entM m q n with wr:=true }) w':=by
 obtain⟨E,HE⟩:∃E,Xo (entM m q n=E):=⟨_,rfl⟩;rw[HE.out];have HM:Xo (ChW w0 p w V m):=h;have HQ:Xo (q<m.sp.length):=hq;clear h hq;obtain⟨W1,hW1⟩:∃W1,w.alloc (Xk #[Xe Xf (q:Int),Xe Xf n] 141)=W1:=⟨_,rfl⟩;have G1:=gA hW1
 obtain⟨b,HB⟩:∃b,Xo (w.heap.size=b):=⟨_,rfl⟩;have X1:=xPT hW1 HB
 have HW1:Xo (_=W1):=hW1;clear hW1;have hen:=cwEntry_any (HM.out.grew G1.out) q HQ.out n;rw[HE.out]at hen
 go_enter Tryz.func207,Tryz.ntmps207
 go_upto_region 1 with fail;rw[HW1.out,HB.out];have x0:=X1.out.box.c 0 rfl;have x1:=X1.out.box.c 1 rfl;go_wp2_with fail;refine hen.mono ?_;clear hen x0 x1;rintro e W2 ⟨rfl,g2⟩;unfold enV;go_upto_region 2 with fail;obtain⟨c,HC⟩:∃c,Xo (W2.heap.size=c):=⟨_,rfl⟩;obtain⟨W3,hW3⟩:∃W3,W2.alloc (Xk #[Xe Xf E.kind,Xe Xf E.n,Xh E.wr] 127)=W3:=⟨_,rfl⟩;have g3:=gP hW3
 have Y3:=xPT hW3 HC
 have X3:=dD (X1.out.grew (g2.trans g3));have G3:=dD ((G1.out.trans g2).trans g3);have HBC:Xo (b<c/\w.heap.size<=c):=show _/\_ from⟨by have:=(X1.out.grew g2).box.lt;have:=HC.out;omega,by have:=HC.out;have:=bS (G1.out.trans g2);omega⟩
 rw[hW3,HC.out];clear hW3 g3 g2 X1 G1
 go_upto_region 3 with(refine wp_storeT rfl 4 (.tmp 8) (.const (Xh Xc)) rfl c 2 rfl (Xh Xc) rfl [Xh Xc] rfl Y3.out (by simp) (by kernel_rfl) (by simp[Value.oneCell']) ?_)
 intro W4 bx4 gr4 _;have Y4:Xo (BoxT W4 c 127 [Xe Xf E.kind,Xe Xf E.n,Xh Xc]):=bx4;have X4:Xo (BoxT W4 b 141 [Xe Xf (q:Int),Xe Xf n]):=X3.out.beside gr4 (fun k e=>by cases e;have:=HBC.out;omega)
 have G4:Xo (Grew w W4):=show Grew _ _ from grew_grown G3.out gr4 HBC.out.2
 clear bx4 gr4 X3 Y3 G3;try simp only[Yh]
 have hen:=cwEnter_any (HM.out.grew G4.out) q HQ.out n ⟨E.kind,E.n,Xc⟩;have x0:=X4.out.box.c 0 rfl;have x1:=X4.out.box.c 1 rfl;obtain⟨y0,y1,y2⟩:=Y4.out.box.c3;go_wp2_with fail;refine hen.mono ?_;clear hen x0 x1 y0 y1 y2;rintro e W6 ⟨⟨v6,rfl⟩,h6⟩;have M6:Xo (Chg w0 p w V (enterM m q n { E with wr:=true }) W6):=show Chg _ _ _ _ _ _ from Chg.of_grew G4.out h6
 clear h6;go_wp2
 (first | go_end0 | ((try simp only[Exit.inBlock,Exit.then]);refine bodyPost_ret (results_none rfl _ _ _) rfl ?_))
 first | exact M6.out | exact⟨⟨_,rfl⟩,M6.out⟩
theorem ChW.off {w0 w:Xn} {p:Nat} {V:MaV} {m:Ma} (h:ChW w0 p w V m) {g:Nat} {cs:Array Xq} {t:TypeId} (ho:w.heap[g]? =Xa (Xk cs t (0,0))) (t1:88≠t) (t2:frmE.ty≠t) (t3:cchE.ty≠t) (t4:spcE.ty≠t):¬Dw p V g:=by
 have key:∀{α:Type} {E:Elt α} {base:Nat} {v:Xq} {l:List α},OwnRow E base w v l->E.ty≠t->v.ownBlock≠Xa g:=fun r ht e=>by
  obtain⟨ds,h1⟩:=r.obj e;rw[h1]at ho;cases ho;exact ht rfl
 rintro(e | e | e | e)
 ·subst e;have h1:w.heap[g]? =_:=h.box;rw[h1]at ho;cases ho;exact t1 rfl
 ·exact key h.fs t2 e
 ·exact key h.ca t3 e
 obtain⟨xs,s1,_⟩:=h.sp;exact key s1 t4 e
theorem ChW.offB {w0 w:Xn} {p b:Nat} {V:MaV} {m:Ma} {t:TypeId} {cs:List Xq} (h:ChW w0 p w V m) (ho:BoxT w b t cs) (t1:88≠t) (t2:frmE.ty≠t) (t3:cchE.ty≠t) (t4:spcE.ty≠t):¬Dw p V b:=h.off (show w.heap[b]? =_ from ho) t1 t2 t3 t4
theorem ChW.offR {w0 w:Xn} {p:Nat} {V:MaV} {m:Ma} {α:Type} {E:Elt α} {base:Nat} {v:Xq} {l:List α} (h:ChW w0 p w V m) (r:OwnRow E base w v l) (t1:88≠E.ty) (t2:frmE.ty≠E.ty) (t3:cchE.ty≠E.ty) (t4:spcE.ty≠E.ty):∀g,v.ownBlock=Xa g->¬Dw p V g:=fun g hg=>by
 obtain⟨ds,h1⟩:=r.obj hg;exact h.off h1 t1 t2 t3 t4
theorem OwnRow.chg {w w1:Xn} {p:Nat} {V:MaV} {α:Type} {E:Elt α} {base:Nat} {v:Xq} {l:List α} (r:OwnRow E base w v l) (o:OutD (Dw p V) w w1) (hn:∀g,v.ownBlock=Xa g->¬Dw p V g):OwnRow E base w1 v l:=⟨owns_outD r.1 o hn,r.2⟩
def enterL (m:Ma) (e:En) (l:List (Nat × Nat)):Ma:=l.foldl (fun m x=>enterM m x.1 (x.2:Int) e) m
theorem enterL_snoc (m:Ma) (e:En) (l:List (Nat × Nat)) (x:Nat × Nat):enterL m e (l++ [x])=enterM (enterL m e l) x.1 (x.2:Int) e:=by simp[enterL]
theorem enterL_rest (e:En):∀(l:List (Nat × Nat)) (m:Ma),(enterL m e l).sp.length=m.sp.length/\(enterL m e l).fs=m.fs/\(enterL m e l).hand=m.hand
 | [],_=>⟨rfl,rfl,rfl⟩
 | x :: l,m=>by
  have h:=enterL_rest e l (enterM m x.1 (x.2:Int) e);exact⟨h.1.trans (enterM_len _ _ _ _),h.2⟩
def leaveM (m:Ma) (k:Nat) (r:Int) (e:En):Ma:={ enterL m e (hdrTo m 1 (k:Int) m.sp.length)with fs:=holdF m.fs m.hand (k:Int) (-r),hand:=m.hand }
theorem cwLeave_any {w0 w:Xn} {p:Nat} {V:MaV} {m:Ma} (h:ChW w0 p w V m) (k:Nat) (fr:Fr) (hk:m.fs[k]? =Xa fr) (z:En) (h4:m.sp.length<=4) (hr:0<=fr.r/\fr.r<=1000) (hh:holdE m.fs m.hand (k:Int) (-fr.r)=0):
  Xp Tryz.prog 214 #[Xj (Xa ⟨p,0,Xb⟩),Xe Xf (k:Int),Xi #[Xe Xf z.kind,Xe Xf z.n,Xh z.wr]] w fun e w'=>(∃v,e= Xl v)/\Chg w0 p w V (leaveM m k fr.r z) w':=by
 have HM:Xo (ChW w0 p w V m):=h;have HK:Xo (m.fs[k]? =Xa fr):=hk;have HH:Xo (holdE m.fs m.hand (k:Int) (-fr.r)=0):=hh;have HRR:Xo (0<=fr.r/\fr.r<=1000):=hr;have H4:Xo (m.sp.length<=4):=h4;clear h hk h4 hh hr;obtain⟨W1,hW1⟩:∃W1,w.alloc (Xk #[Xe Xf z.kind,Xe Xf z.n,Xh z.wr] 127)=W1:=⟨_,rfl⟩;have G1:=gA hW1
 obtain⟨b,HB⟩:∃b,Xo (w.heap.size=b):=⟨_,rfl⟩;have Y1:=xPT hW1 HB
 have HW1:Xo (_=W1):=hW1;clear hW1;have hho:=cwHolders_any (HM.out.grew G1.out) 1 (k:Int) H4.out;obtain⟨L,HL⟩:∃L,Xo (hdrTo m 1 (k:Int) m.sp.length=L):=⟨_,rfl⟩;rw[HL.out]at hho;have HLB:Xo (L.length<=256):=show _<=_ by
  rw[<-HL.out];have h1:=hdrTo_len m 1 (k:Int) m.sp.length;have h2:=H4.out;omega
 have HLS:Xo (∀x∈L,x.1<m.sp.length):=show∀x,_ from fun x hx=>by
  rw[<-HL.out]at hx;exact((hdrTo_mem (by decide) (nR _)).1 hx).1
 go_enter Tryz.func214,Tryz.ntmps214
 go_upto_region 1 with fail;rw[HW1.out,HB.out];go_wp2_with fail;refine hho.mono ?_;clear hho;rintro e W2 ⟨v,rfl,ow2,g2⟩;obtain⟨va,vc,rfl⟩:=ow2.form;obtain⟨ln,HLN⟩:∃ln,Xo (L.length=ln):=⟨_,rfl⟩;rw[HLN.out]at ow2 HLB⊢;have hln:ln<=256:=HLB.out;obtain⟨b1,HB1⟩:∃b1,Xo (W1.heap.size=b1):=⟨_,rfl⟩;rw[HB1.out]at ow2;have R2:Xo (OwnRow sptE b1 W2 (O va ln vc) L):=ow2;have G2:=dD (G1.out.trans g2);have Y2:=dD (Y1.out.grew g2);clear ow2 g2 Y1 G1;go_wp2
 go_loopg [12] ln (fun gg s12 wr=>∃(j:Nat) (V':MaV),j<=ln/\ln - j<=gg/\s12= Xe Xf j/\Xo (ChW w0 p wr V' (enterL m z (L.take j)))/\Xo (OutD (Dw p V) w wr)/\Xo (∀k,Dw p V' k->Dw p V k\/w.heap.size<=k)/\Xo (OwnRow sptE b1 wr (O va ln vc) L)/\Xo (BoxT wr b 127 [Xe Xf z.kind,Xe Xf z.n,Xh z.wr]))
 case atStart=>exact⟨0,V,nZ _,by omega,rfl,HM.out.grew G2.out,OutD.grew G2.out,fun k hk=> .inl hk,R2.out,Y2.out⟩
 obtain⟨j,V',hj,hgj,rfl,MW,OW,DW,RW,YW⟩:=hrel;clear R2 Y2
 by_cases hlt:j<ln
 ·have hltz:(j:Int)< (ln:Int):=by omega
  obtain⟨⟨q,n⟩,hx⟩:∃x,L[j]? =Xa x:=⟨_,gE (by rw[HLN.out];exact hlt)⟩
  obtain⟨g,c9,heq⟩:=RW.out.formS (by rw[HLN.out];omega)
  simp only[vJ]at heq;obtain⟨rfl,-,-⟩:=heq;have hc:=RW.out.one hx;have e0:wr.cell? ⟨g,j*2,Xb⟩=Xa (Xe Xf (q:Int)):=by
   have:=hc 0 _ rfl;rw[Ye,Ye,zA,Nat.add_zero]at this;exact this
  have e1:wr.cell? ⟨g,j*2+1,Xb⟩=Xa (Xe Xf (n:Int)):=by
   have:=hc 1 _ rfl;rw[Ye,Ye,zA]at this;exact this
  have HQ:Xo (q<m.sp.length):=HLS.out _ (mG hx);have HTK:Xo (L.take (j+1)=L.take j++ [(q,n)]):=show _=_ by rw[Yz,hx];rfl
  clear hc hx;go_upto_region 4 with fail;clear e0 e1;obtain⟨px,HPX⟩:∃px,Xo (wr.heap.size=px):=⟨_,rfl⟩;obtain⟨W3,hW3⟩:∃W3,wr.alloc (Xk #[Xe Xf (q:Int),Xe Xf (n:Int)] 141)=W3:=⟨_,rfl⟩;have G3:=gA hW3
  have X3:=xPT hW3 HPX
  have Y3:=dD (YW.out.grew G3.out);rw[hW3,HPX.out];clear hW3 HPX;have M3:=dD (MW.out.grew G3.out);have hen:=cwEnter_any M3.out q (by rw[(enterL_rest z _ m).1];exact HQ.out) (n:Int) z
  have x0:=X3.out.box.c 0 rfl;have x1:=X3.out.box.c 1 rfl;obtain⟨y0,y1,y2⟩:=Y3.out.box.c3;go_wp2_with fail;refine hen.mono ?_;clear hen x0 x1 y0 y1 y2;rintro e W4 ⟨⟨v4,rfl⟩,V4,m4,o4,d4⟩;have M4:Xo (ChW w0 p W4 V4 (enterL m z (L.take (j+1)))):=show ChW _ _ _ _ _ by rw[HTK.out,enterL_snoc];exact m4
  have hst:=Chg.step (w0:=w0) (m':=enterL m z (L.take (j+1))) OW.out DW.out (Chg.of_grew G3.out ⟨V4,M4.out,o4,d4⟩);have R4:Xo (OwnRow sptE b1 W4 (O (Xa ⟨g,0,Xb⟩) ln vc) L):=(RW.out.grew G3.out).chg o4 (M3.out.offR (RW.out.grew G3.out) (by decide) (by decide) (by decide) (by decide))
  have Y4:Xo (BoxT W4 b 127 [Xe Xf z.kind,Xe Xf z.n,Xh z.wr]):=Y3.out.outD o4 (M3.out.offB Y3.out (by decide) (by decide) (by decide) (by decide))
  obtain⟨V5,m5,o5,d5⟩:=hst;have M5:Xo (ChW w0 p W4 V5 (enterL m z (L.take (j+1)))):=m5;have O5:Xo (OutD (Dw p V) w W4):=o5;have D5:Xo (∀k,Dw p V5 k->Dw p V k\/w.heap.size<=k):=show∀k,_ from d5
  clear m4 o4 d4 m5 o5 d5 M3 M4 X3 Y3 G3 MW OW DW RW YW;go_wp2
  go_roundg (ln -(j+1))
  case measure=>omega
  exact⟨j+1,V5,by omega,by omega,by go_num,M5.out,O5.out,D5.out,R4.out,Y4.out⟩
 have hltz:¬(j:Int)< (ln:Int):=by omega
 have HTL:Xo (L.take j=L):=show _=_ from Yq (by rw[HLN.out];omega)
 rw[HTL.out]at MW;obtain⟨M1,HM1⟩:∃M1,Xo (enterL m z L=M1):=⟨_,rfl⟩;rw[HM1.out]at MW;have HFS:Xo (M1.fs=m.fs/\M1.hand=m.hand):=show _/\_ by rw[<-HM1.out];exact(enterL_rest z L m).2
 obtain⟨g,c9,heq⟩:=MW.out.fs.formS (by rw[HFS.out.1];have:=(gS.1 HK.out).1;omega)
 obtain⟨⟨fa,fn,fc⟩,vs,vsb,vsq,vdb,vdq,vfl,vca,vsp⟩:=V';simp only[vJ]at heq;obtain⟨rfl,hfn,-⟩:=heq;have hkz:(k:Int)< (fn:Int):=by
  have h1:=(gS.1 HK.out).1;rw[hfn,HFS.out.1];omega
 have HKC:Xo (∀W,Grew wr W->W.cell? ⟨g,k*13+8,Xb⟩=Xa (Xe Xf fr.r)):=show∀W,_ from fun W hW=>by
  have:=(MW.out.fs.grew hW).one (i:=k) (x:=fr) (by rw[HFS.out.1];exact HK.out) 8 _ rfl
  rw[Ye,Ye,zA]at this;exact this
 have HC:Xo (∀W,Grew wr W->Xp Tryz.prog 173 #[Xi #[O (Xa ⟨g,0,Xb⟩) fn fc,Xe Xf m.hand],Xe Xf (k:Int),Xe Xf (-fr.r)] W fun e w'=>∃s:Sli,e= Xl (Xm #[Xi #[O s.a s.n s.c,Xe Xf m.hand],Xe Xf 0])/\OwnRow frmE W.heap.size w' (O s.a s.n s.c) (holdF m.fs m.hand (k:Int) (-fr.r))/\Grew W w'):=show∀W,_ from fun W hW=>by
  have k1:=(MW.out.at.grew hW).fs;rw[HFS.out.1]at k1 hfn;rw[hfn]at k1⊢;refine(holdO_ok (Xa ⟨g,0,Xb⟩) fc m.fs m.hand (k:Int) (-fr.r) W k1 HH.out).mono ?_;rintro e w' ⟨b,rfl,nr,g⟩;have nr':OwnRow frmE W.heap.size w' b (holdF m.fs m.hand (k:Int) (-fr.r)):=nr;obtain⟨a,c,rfl⟩:=nr'.form;exact⟨⟨a,_,c⟩,rfl,nr,g⟩
 have HBX:Xo (BoxT wr p 88 (chL ⟨⟨Xa ⟨g,0,Xb⟩,fn,fc⟩,vs,vsb,vsq,vdb,vdq,vfl,vca,vsp⟩ M1)):=MW.out.box;have HHN:Xo (M1.hand=m.hand):=HFS.out.2;clear hfn RW YW;obtain⟨r,HRE⟩:∃r,Xo (fr.r=r):=⟨_,rfl⟩;rw[HRE.out]at HKC HC HRR;obtain⟨hr0,hr1⟩:=HRR.out;go_upto_region 6 with fail;obtain⟨I,HI⟩:∃I:Xn->Prop,Xo (∀u,I u↔u.cell? ⟨g,k*13+8,Xb⟩=Xa (Xe Xf r)):=⟨fun u=>u.cell? ⟨g,k*13+8,Xb⟩=Xa (Xe Xf r),fun _=>Iff.rfl⟩
 have gd:Grew wr wr.drew:=show Below _ _ _ from(bR _ _).drew
 have hI0:I wr.drew:=(HI.out _).2 (HKC.out _ gd);have hF0:Grew wr wr.drew:=gd;have hy:∀y:HoldI I,y.world.cell? ⟨g,k*13+8,Xb⟩=Xa (Xe Xf r):=fun y=>(HI.out _).1 y.holds
 have hne:Nonempty (HoldI I):=⟨⟨_,hI0⟩⟩;refine wp_lax_tailF (I:=I) 26 [(18,fun v=>∃s:Sli,v= Xm #[Xi #[O s.a s.n s.c,Xe Xf m.hand],Xe Xf 0]),(25,fun _=>True)] [5,12] (fun u=>Grew wr u) hI0 hF0 mixed (by kernel_rfl) rfl rfl (by decide) ?hS (by kernel_rfl) (by kernel_rfl) ?_
 case hS=>
  intro x hx;simp only[mC,nM,or_false]at hx
  rcases hx with rfl | rfl
  ·exact⟨_,sli0,rfl⟩
  exact⟨undef,trivial⟩
 simp only[List.take,List.drop];iterate 2 (refine laxF_quiet rfl rfl rfl (fun K hK=>?_);go_big_quiet_op;refine hK _ ?_;clear hK K)
 refine laxF_nilc (.tmp 23) ⟨p,0,Xb⟩ rfl rfl rfl rfl ?_;simp only[Yh,sB,sS,sZ];iterate 2 (refine laxF_quiet rfl rfl rfl (fun K hK=>?_);go_big_quiet_op;refine hK _ ?_;clear hK K)
 refine laxF_read rfl rfl rfl (Xi #[O (Xa ⟨g,0,Xb⟩) fn fc,Xe Xf m.hand]) (fun w' _ hF'=>?_) ?_
 ·exact runs_load 29 (.tmp 26) rfl p 0 rfl [O (Xa ⟨g,0,Xb⟩) fn fc,Xe Xf m.hand] ((HBX.out.box.grew hF').mid 0 (fun j v hj=>by
   match j,hj with
   | 0,hj=>exact hj
   | 1,hj=>rw[<-HHN.out]at hj;exact hj)) Tryz.underlying29 rfl (by kernel_rfl)
 simp only[Yh,sB,sS,sZ];iterate 2 (refine laxF_quiet rfl rfl rfl (fun K hK=>?_);go_big_quiet_op;refine hK _ ?_;clear hK K)
 refine laxF_nilc (.tmp 29) ⟨p,0,Xb⟩ rfl rfl rfl rfl ?_;simp only[Yh,sB,sS,sZ];iterate 3 (refine laxF_quiet rfl rfl rfl (fun K hK=>?_);go_big_quiet_op;refine hK _ ?_;clear hK K)
 refine laxF_read rfl rfl rfl (O (Xa ⟨g,0,Xb⟩) fn fc) (fun w' _ hF'=>?_) ?_
 ·exact runs_load1 27 (.tmp 33) rfl p 0 rfl (O (Xa ⟨g,0,Xb⟩) fn fc) ((HBX.out.box.grew hF').c 0 rfl) Tryz.underlying27 rfl
 simp only[Yh,sB,sS,sZ];iterate 5 (refine laxF_quiet rfl rfl rfl (fun K hK=>?_);go_big_quiet_op;refine hK _ ?_;clear hK K)
 refine laxF_spec rfl rfl (fun v u=>∃(s:Sli) (Wa:Xn),v= Xm #[Xi #[O s.a s.n s.c,Xe Xf m.hand],Xe Xf 0]/\Grew wr Wa/\Grew Wa u/\OwnRow frmE Wa.heap.size u (O s.a s.n s.c) (holdF m.fs m.hand (k:Int) (-r))) (fun w' hI' hF'=>?_) (fun v1 hv=>?_)
 ·refine Does.call [Xi #[O (Xa ⟨g,0,Xb⟩) fn fc,Xe Xf m.hand],Xe Xf (k:Int),Xe Xf (-r)] rfl Tryz.func173 rfl rfl rfl ?_;refine(HC.out w' hF').mono ?_;rintro e w'' ⟨s,rfl,t2,g2⟩;exact⟨_,rfl,(HI.out _).2 (HKC.out _ (hF'.trans g2)),⟨s,rfl⟩,s,w',rfl,hF',g2,t2⟩
 obtain⟨s,rfl⟩:=hv;simp only[Yh,sB,sS,sZ];iterate 3 (refine laxF_quiet rfl rfl rfl (fun K hK=>?_);go_big_quiet_op;refine hK _ ?_;clear hK K)
 refine laxF_nilc (.tmp 22) ⟨p,0,Xb⟩ rfl rfl rfl rfl ?_;simp only[Yh,sB,sS,sZ];iterate 2 (refine laxF_quiet rfl rfl rfl (fun K hK=>?_);go_big_quiet_op;refine hK _ ?_;clear hK K)
 refine laxF_spec rfl rfl (fun _ u=>Chg w0 p w V (leaveM m k r z) u) (fun w' hI' hF'=>?_) (fun v1 hv=>?_)
 ·obtain⟨s',Wa,he,ga,gb,t8⟩:=hF';have hss:s'=s:=by
   obtain⟨a1,a2,a3⟩:=s;obtain⟨b1,b2,b3⟩:=s';simp only[Value.tuple.injEq,Array.mk.injEq,List.cons.injEq,Value.agg.injEq,vJ,and_true]at he;obtain⟨rfl,rfl,rfl⟩:=he;rfl
  subst hss;have G8:Grew wr w':=ga.trans gb;refine does_storeT 29 (.tmp 45) (.tmp 41) rfl p 0 rfl (Xi #[O s'.a s'.n s'.c,Xe Xf m.hand]) rfl [O s'.a s'.n s'.c,Xe Xf m.hand] rfl (HBX.out.grew G8) (by simp[chL]) (by kernel_rfl) (by simp[Value.oneCell']) ?_
  intro W9 bx9 gr9 _;have hpg:p≠g:=MW.out.nf g rfl;refine⟨(HI.out _).2 ?_,trivial,?_⟩
  ·have h1:=HKC.out _ G8;have hl:=World.block_lt_of_cell? _ _ h1;rw[World.cell?_of_block (w:=w') (gr9.block g hl (fun e=>by cases e;exact hpg rfl))]
   exact h1
  have hlm:leaveM m k r z={ M1 with fs:=holdF m.fs m.hand (k:Int) (-r),hand:=m.hand }:=by
   unfold leaveM;rw[HL.out,HM1.out]
  rw[hlm];exact Chg.step OW.out DW.out (MW.out.setF G8 (t8.base (bS ga)) gr9 bx9)
 clear hv;try simp only[Yh]
 refine laxF_nil fun W9 hI8 hF8=>?_
 have M9:Xo (Chg w0 p w V (leaveM m k fr.r z) W9):=show Chg _ _ _ _ _ _ by rw[HRE.out];exact hF8
 clear hI8 hF8 hI0 hF0 hy hne HI;go_wp2
 (first | go_end0 | ((try simp only[Exit.inBlock,Exit.then]);refine bodyPost_ret (results_none rfl _ _ _) rfl ?_))
 first | exact M9.out | exact⟨⟨_,rfl⟩,M9.out⟩
def frU (q:Fr):Fr:={ q with u:=false }
def idle (q:Fr):Bool:=decide (0<q.r) && !q.u
theorem below_set {b:Nat} {w W:Xn} (h:Below b w W) {a:Addr} (ha:b<=a.block) (u:Xq):Below b w (W.setCell a u):=Below.setCell h ha u
theorem pass_any (B g n cv i base b0:Nat) (fs:List Fr) (q:Fr) (W:Xn) (hn:fs.length=n) (h40:n<=40) (hq:fs[i]? =Xa q) (hB:Box W B [O (Xa ⟨g,0,Xb⟩) n cv,Xe Xf (i:Int)]) (ow:frOwnRow base W (O (Xa ⟨g,0,Xb⟩) n cv) fs) (hBg:B≠g) (h1:b0<=B) (h2:b0<=g):
  Xp Tryz.prog 228 #[Xj (Xa ⟨B,0,Xb⟩)] W fun e W'=>e= Xl (Xm #[Xe Xf (i:Int),Xh (idle q)])/\Box W' B [O (Xa ⟨g,0,Xb⟩) n cv,Xe Xf (((i+1) % n:Nat):Int)]/\frOwnRow base W' (O (Xa ⟨g,0,Xb⟩) n cv) (fs.set i (frU q))/\Below b0 W W':=by
 have OW:Xo (frOwnRow base W (O (Xa ⟨g,0,Xb⟩) n cv) fs):=ow;have HB:Xo (Box W B [O (Xa ⟨g,0,Xb⟩) n cv,Xe Xf (i:Int)]):=hB;have HQ:Xo (fs[i]? =Xa q):=hq;have hil:i<n:=by rw[<-hn];exact(gS.1 hq).1
 have HN:Xo (fs.length=n):=hn;clear ow hB hq hn;have hiz:(i:Int)< (n:Int):=by omega
 have hn0:(0:Int)< (n:Int):=by omega
 have hnn:¬(n:Int)=0:=by omega
 have hmod:(((i:Int)+1) %(n:Int))=(((i+1) % n:Nat):Int):=by simp
 have HMOD:Xo (((i:Int)+1) %(n:Int)=(((i+1) % n:Nat):Int)):=hmod;clear hmod;have hgB:g≠B:=Ne.symm hBg;have e0:=HB.out.c 0 rfl;have e1:=HB.out.c 1 rfl;have ef:=HB.out.f;have eB:=HB.out.lt;have hgl:=(OW.out.lt g rfl).2;have u8:=OW.out.frc HQ.out 8 rfl;have u9:=OW.out.frc HQ.out 9 rfl
 go_enter Tryz.func228,Tryz.ntmps228
 go_upto_region 3 with fail;obtain⟨W1,hW1⟩:∃W1,W.setCell ⟨B,1,Xb⟩ (Xe Xf (((i:Int)+1) %(n:Int)))=W1:=⟨_,rfl⟩;rw[hW1];have HB1:Xo (Box W1 B [O (Xa ⟨g,0,Xb⟩) n cv,Xe Xf (((i:Int)+1) %(n:Int))]):=show Box _ _ _ by rw[<-hW1];exact HB.out.set 1 _
 have OW1:Xo (frOwnRow base W1 (O (Xa ⟨g,0,Xb⟩) n cv) fs):=show frOwnRow _ _ _ _ by rw[<-hW1];exact OW.out.setOther (fun g' hg'=>by cases hg';exact hBg) _
 have BL1:Xo (Below b0 W W1):=show Below _ _ _ by rw[<-hW1];exact below_set (bR _ _) h1 _
 clear hW1 e0 e1 ef eB u8 u9;have e0:=HB1.out.c 0 rfl;have u8:=OW1.out.frc HQ.out 8 rfl;have u9:=OW1.out.frc HQ.out 9 rfl;have HI:Xo (idle q=(decide (0<q.r) && !q.u)):=rfl;obtain⟨r,HRR⟩:∃r,Xo (q.r=r):=⟨_,rfl⟩;obtain⟨u,HUU⟩:∃u,Xo (q.u=u):=⟨_,rfl⟩;rw[HRR.out]at u8 HI;rw[HUU.out]at u9 HI
 by_cases hr:0<r
 ·cases u with
  | true=>
   have HF:Xo (idle q=Xd):=show _=_ by rw[HI.out];simp[hr]
   clear HI
   go_wp2_with (refine frWpList_store_part rfl (.tmp 32) (.const (Xh Xd)) 4 rfl base (O (Xa ⟨g,0,Xb⟩) n cv) fs OW1.out g i 9 rfl q (frU q) HQ.out [Xh Xd] (by kernel_rfl) rfl (Yg rfl) (by intro u hu;simp at hu;subst hu;rfl) _ rfl (by simp) _ rfl rfl ?_)
   intro W2 ow2 gr2 _;have OW2:Xo (frOwnRow base W2 (O (Xa ⟨g,0,Xb⟩) n cv) (fs.set i (frU q))):=ow2;have HB2:Xo (Box W2 B [O (Xa ⟨g,0,Xb⟩) n cv,Xe Xf (((i:Int)+1) %(n:Int))]):=HB1.out.beside gr2 (fun g' hg'=>by cases hg';exact hBg)
   have BL2:Xo (Below b0 W W2):=Below.grown BL1.out gr2 (by have:=bS BL1.out;omega) (fun g' hg'=>by cases hg';exact h2)
   clear ow2 gr2 u8 u9 e0;go_wp2
   go_ret2
   exact⟨by rw[HF.out];rfl,by rw[<-HMOD.out];exact HB2.out,OW2.out,BL2.out⟩
  | false=>
   have HF:Xo (idle q=Xc):=show _=_ by rw[HI.out];simp[hr]
   clear HI
   go_wp2_with (refine frWpList_store_part rfl (.tmp 32) (.const (Xh Xd)) 4 rfl base (O (Xa ⟨g,0,Xb⟩) n cv) fs OW1.out g i 9 rfl q (frU q) HQ.out [Xh Xd] (by kernel_rfl) rfl (Yg rfl) (by intro u hu;simp at hu;subst hu;rfl) _ rfl (by simp) _ rfl rfl ?_)
   intro W2 ow2 gr2 _;have OW2:Xo (frOwnRow base W2 (O (Xa ⟨g,0,Xb⟩) n cv) (fs.set i (frU q))):=ow2;have HB2:Xo (Box W2 B [O (Xa ⟨g,0,Xb⟩) n cv,Xe Xf (((i:Int)+1) %(n:Int))]):=HB1.out.beside gr2 (fun g' hg'=>by cases hg';exact hBg)
   have BL2:Xo (Below b0 W W2):=Below.grown BL1.out gr2 (by have:=bS BL1.out;omega) (fun g' hg'=>by cases hg';exact h2)
   clear ow2 gr2 u8 u9 e0;go_wp2
   go_ret2
   exact⟨by rw[HF.out];rfl,by rw[<-HMOD.out];exact HB2.out,OW2.out,BL2.out⟩
 
 have HF:Xo (idle q=Xd):=show _=_ by rw[HI.out];simp[hr]
 clear HI
 go_wp2_with (refine frWpList_store_part rfl (.tmp 32) (.const (Xh Xd)) 4 rfl base (O (Xa ⟨g,0,Xb⟩) n cv) fs OW1.out g i 9 rfl q (frU q) HQ.out [Xh Xd] (by kernel_rfl) rfl (Yg rfl) (by intro u hu;simp at hu;subst hu;rfl) _ rfl (by simp) _ rfl rfl ?_)
 intro W2 ow2 gr2 _;have OW2:Xo (frOwnRow base W2 (O (Xa ⟨g,0,Xb⟩) n cv) (fs.set i (frU q))):=ow2;have HB2:Xo (Box W2 B [O (Xa ⟨g,0,Xb⟩) n cv,Xe Xf (((i:Int)+1) %(n:Int))]):=HB1.out.beside gr2 (fun g' hg'=>by cases hg';exact hBg)
 have BL2:Xo (Below b0 W W2):=Below.grown BL1.out gr2 (by have:=bS BL1.out;omega) (fun g' hg'=>by cases hg';exact h2)
 clear ow2 gr2 u8 u9 e0;go_wp2
 go_ret2
 exact⟨by rw[HF.out];rfl,by rw[<-HMOD.out];exact HB2.out,OW2.out,BL2.out⟩
end
end Go.Proofs.YtempiodbdhiboaaGreat
