import Derived.Test.YtempiodbdhiboaaGreatSW0
import Derived.BigQuiet
import Derived.WalkSmall
import Derived.Deep.Cut
import Derived.ChangeKeysEq
import Derived.Deep.MidRow
import Derived.Laws.ResultCell
import Derived.OrdersHeld
import Derived.Deep.QuietTactic
namespace Go.Proofs.YtempiodbdhiboaaGreat
open Go.Value renaming slice→O,int→Xe,bool→Xh,agg→Xi,pointer→Xj,tuple→Xm
open Go.IntKind renaming i64→Xf,u8→Xg
open Go.Obj renaming cells→Xk
open Go.Ending renaming returned→Xl
open Go renaming World→Xn,Calls→Xp,Value→Xq
open Go.RowKit renaming Hid→Xo
open Option renaming some→Xa,none→Xb
open Bool renaming true→Xc,false→Xd
open List renaming replicate→Xr
open _root_.List renaming getElem?_range→Xs,getElem?_of_mem→Xt,mem_range→Xu,mem_map→Xv,getElem?_map→Xw,range→Xx,any_eq_true→Xy,pairwise_cons→Xz,drop_of_length_le→Yb,length_nil→Yc,countP_append→Yf,mem_or_eq_of_mem_set→Yg,take_add_one→Yh,cons_append→Yi,zipWith→Yj,zipWith_cons_cons→Yk,mem_cons_of_mem→Yl,countP_eq_zero→Yn,countP_pos_iff→Yo,map_congr_left→Yp,mem_replicate→Yr,mem_cons_self→Ys,ext_getElem?→Yu,any_eq_false→Yv,foldl_append→Yw
open _root_.Bool renaming and_eq_true→Ya,false_and→Ym,true_and→Yq
open Go.Sem renaming run_bind→Yd,run_pure→Yt
open Go.Act renaming put→Ye
set_option maxRecDepth 100000
set_option maxHeartbeats 4000000
section
open Go.RowKit
def OwnFiles (base:Nat) (w:Xn) (v:Xq) (fs:List Fl):Prop:=
 ∃xs:List FlV,OwnRow fvE base w v xs/\xs.length=fs.length/\(∀(i:Nat) x f,xs[i]? =Xa x->fs[i]? =Xa f->x.size=f.size/\OwnRow blE base w x.v f.bl)/\
  ∀(i j:Nat) x y,i≠j->xs[i]? =Xa x->xs[j]? =Xa y->∀g,x.v.ownBlock=Xa g->y.v.ownBlock≠Xa g
theorem OwnFiles.new {base:Nat} {w:Xn} {v:Xq} {fs:List Fl} (h:OwnFiles base w v fs):FilesS 0 base w v fs:=by
 obtain⟨xs,h1,h2,h3,_⟩:=h;exact⟨h1.cap,xs,h1.new.stays,h2,fun i x f hx hf=>⟨(h3 i x f hx hf).1,(h3 i x f hx hf).2.new.stays⟩⟩
theorem OwnFiles.grew {base:Nat} {w w':Xn} {v:Xq} {fs:List Fl} (h:OwnFiles base w v fs) (k:Grew w w'):OwnFiles base w' v fs:=by
 obtain⟨xs,h1,h2,h3,h4⟩:=h;exact⟨xs,h1.grew k,h2,fun i x f hx hf=>⟨(h3 i x f hx hf).1,(h3 i x f hx hf).2.grew k⟩,h4⟩
theorem OwnFiles.setCell {base:Nat} {w:Xn} {v:Xq} {fs:List Fl} (h:OwnFiles base w v fs) {a:Addr} (ha:a.block<base) (u:Xq):OwnFiles base (w.setCell a u) v fs:=by
 obtain⟨xs,h1,h2,h3,h4⟩:=h;exact⟨xs,h1.setCell ha u,h2,fun i x f hx hf=>⟨(h3 i x f hx hf).1,(h3 i x f hx hf).2.setCell ha u⟩,h4⟩
theorem two_kinds:blE.ty≠fvE.ty:=by decide
structure Half (base:Nat) (w:Xn) (kk:Nat) (xs ys:List FlV) (fs:List Fl):Prop where
 len:ys.length=xs.length
 own:∀(i:Nat) y f,i<kk->ys[i]? =Xa y->fs[i]? =Xa f->y.size=f.size/\OwnRow blE base w y.v f.bl
 rest:∀(i:Nat),kk<=i->ys[i]? =xs[i]?
 two:∀(i j:Nat) x y,i<kk->j<kk->i≠j->ys[i]? =Xa x->ys[j]? =Xa y->∀g,x.v.ownBlock=Xa g->y.v.ownBlock≠Xa g
theorem Half.step {base:Nat} {w w1 w2:Xn} {kk:Nat} {xs ys:List FlV} {fs:List Fl} (h:Half base w kk xs ys fs) (hg:Grew w w1) {g:Nat} (hg2:w1.grownBy w2 (Xa g)) {f:Fl} {x:FlV} (hf:fs[kk]? =Xa f) (hx:xs[kk]? =Xa x)
  (hs:x.size=f.size) {a:Option Addr} {n c:Nat} (hown:OwnRow blE w.heap.size w1 (O a n c) f.bl) (hb:base<=w.heap.size) {v:Xq} (hv:OwnRow fvE base w1 v ys) (hvg:v.ownBlock=Xa g):Half base w2 (kk+1) xs (ys.set kk ⟨x.size,a,n,c⟩) fs:=by
 have hk:kk<ys.length:=by rw[h.len];exact(gS.1 hx).1
 have keep:∀(y:FlV) (l:List Int),OwnRow blE base w1 y.v l->OwnRow blE base w2 y.v l:=fun y l o=>o.grown hg2 (fun g' h1 e=>by
  cases e;exact hv.apart o (Ne.symm two_kinds) g hvg h1)
 refine⟨by rw[List.length_set];exact h.len,fun i y f' hi hy hf'=>?_,fun i hi=>?_,fun i j p q hi hj hij hp hq g' hp'=>?_⟩
 ·by_cases e:i=kk
  ·subst e;rw[sF hk]at hy;cases hy;rw[hf]at hf';cases hf';exact⟨hs,keep ⟨x.size,a,n,c⟩ _ (hown.base hb)⟩
  rw[sN (fun h=>e h.symm)]at hy
  obtain⟨q1,q2⟩:=h.own i y f' (by omega) hy hf'
  exact⟨q1,keep y _ (q2.grew hg)⟩
 ·rw[sN (by omega)]
  exact h.rest i (by omega)
 have newer:∀(i:Nat) y f',i<kk->ys[i]? =Xa y->fs[i]? =Xa f'->∀b,y.v.ownBlock=Xa b->b<w.heap.size:=fun i y f' hi hy hf' b hb'=>((h.own i y f' hi hy hf').2.lt b hb').2
 have hfl:∀i,i<kk->∃f',fs[i]? =Xa f':=fun i hi=>⟨_,gE (by have:=(gS.1 hf).1;omega)⟩
 by_cases e1:i=kk
 ·subst e1;rw[sF hk]at hp;cases hp;rw[sN (by omega)]at hq
  obtain⟨f',hf'⟩:=hfl j (by omega)
  intro hq';have h1:=newer j q f' (by omega) hq hf' g' hq'
  have h2:=(hown.lt g' hp').1;omega
 rw[sN (by omega)]at hp
 by_cases e2:j=kk
 ·subst e2;rw[sF hk]at hq;cases hq;obtain⟨f',hf'⟩:=hfl i (by omega)
  intro hq';have h1:=newer i p f' (by omega) hp hf' g' hp'
  have h2:=(hown.lt g' hq').1;omega
 rw[sN (by omega)]at hq
 exact h.two i j p q (by omega) (by omega) hij hp hq g' hp'
theorem Half.all {base:Nat} {w:Xn} {xs ys:List FlV} {fs:List Fl} {v:Xq} (h:Half base w xs.length xs ys fs) (hl:xs.length=fs.length) (hv:OwnRow fvE base w v ys):OwnFiles base w v fs:=by
 refine⟨ys,hv,h.len.trans hl,fun i y f hy hf=>h.own i y f (by rw[<-h.len];exact(gS.1 hy).1) hy hf,fun i j p q hij hp hq=>h.two i j p q ?_ ?_ hij hp hq⟩
 ·rw[<-h.len];exact(gS.1 hp).1
 rw[<-h.len];exact(gS.1 hq).1
theorem ownSt_any (v:Xq) (fs:List Fl) (cnt:Int) (w:Xn) (hv:FilesAt w v fs):
  Xp Tryz.prog 54 #[Xi #[v,Xe Xf cnt]] w fun e w'=>∃b,e= Xl (Xi #[b,Xe Xf cnt])/\OwnFiles (w.heap.size+2) w' b fs/\Grew w w'/\w.heap.size+2<=w'.heap.size:=by
 obtain⟨_,xs,k1,k2,k3⟩:=hv;have HX:Xo (RowAt fvE w v xs):=k1.now;have HK:Xo (∀(i:Nat) x f,xs[i]? =Xa x->fs[i]? =Xa f->x.size=f.size/\RowAt blE w (O x.a x.n x.c) f.bl):=show∀(i:Nat) x f,_ from fun i x f hx hf=>⟨(k3 i x f hx hf).1,(k3 i x f hx hf).2.now⟩
 have HL:Xo (xs.length=fs.length):=k2;have hbig:=k1.now.short;obtain⟨a,c,rfl,_⟩:=k1.now.rows;clear k1 k2 k3;obtain⟨n,HN⟩:∃n,Xo (xs.length=n):=⟨_,rfl⟩;rw[HN.out]at hbig HX⊢;obtain⟨W0,hW0⟩:∃W0,(w.alloc (Xk #[O a n c,Xe Xf cnt] 38)).alloc (Xk #[O Xb 0 0,Xe Xf 0] 38)=W0:=⟨_,rfl⟩;have HG0:=gD2 hW0
 have X0:=x2a hW0
 have Y0:=x2b hW0
 have HS0:Xo (W0.heap.size=w.heap.size+2):=show _=_ by rw[<-hW0];simp
 have HW0:Xo (_=W0):=hW0;clear hW0
 go_enter Tryz.func54,Tryz.ntmps54
 go_wp2_with fail;rw[HW0.out];refine(cloneFile_any _ xs W0 (HX.out.grew HG0.out)).mono ?_;rintro e W1 ⟨v1,rfl,ow1,g1⟩;obtain⟨xa,xc,rfl⟩:=ow1.form;rw[HS0.out]at ow1;rw[HN.out]at ow1⊢;have O1:Xo (OwnRow fvE (w.heap.size+2) W1 (O xa n xc) xs):=ow1;have G1:Xo (Grew W0 W1):=g1;clear ow1 g1;go_wp2
 go_loopg [4,10] n (fun gg _ s10 wr=>∃(kk:Nat) (ys:List FlV),kk<=n/\n - kk<=gg/\s10= Xe Xf kk/\Xo (Grew W0 wr)/\Xo (OwnRow fvE (w.heap.size+2) wr (O xa n xc) ys)/\Xo (Half (w.heap.size+2) wr kk xs ys fs))
 case atStart=>exact⟨0,xs,nZ _,by omega,rfl,G1.out,O1.out,⟨rfl,fun i y f hi=>absurd hi (nL _),fun i _=>rfl,fun i j x y hi=>absurd hi (nL _)⟩⟩
 obtain⟨kk,ys,hkk,hgg,rfl,BW,OW,HH⟩:=hrel;clear O1 G1
 by_cases hlt:kk<n
 ·have hltz:(kk:Int)< (n:Int):=by omega
  obtain⟨q,HQ⟩:∃q,Xo (xs[kk]? =Xa q):=⟨_,gE (by rw[HN.out];exact hlt)⟩
  obtain⟨f,HF⟩:∃f,Xo (fs[kk]? =Xa f):=⟨_,gE (by rw[<-HL.out,HN.out];exact hlt)⟩
  have HY:Xo (ys[kk]? =Xa q):=show _=_ by rw[HH.out.rest kk (nR _)];exact HQ.out
  obtain⟨g,xc',heq⟩:=OW.out.formS (by rw[HH.out.len,HN.out];omega)
  rw[HH.out.len,HN.out]at heq;cases heq;obtain⟨q1,q2⟩:=HK.out kk q f HQ.out HF.out;have Q1:Xo (q.size=f.size):=q1;have hcl:=cloneInt_any _ f.bl wr (q2.grew (HG0.out.trans BW.out));obtain⟨a0,c0,hsl,hrows⟩:=OW.out.at.rows;obtain⟨ad,had,hce⟩:=hrows kk q HY.out;rw[HH.out.len,HN.out]at hsl;cases hsl;cases had;have d1:wr.cell? ⟨g,kk*2+1,Xb⟩=Xa (O q.a q.n q.c):=by
   have:=hce wr (Grew.refl _) 1 _ rfl;rw[add_add',Addr.add_lit,zA]at this;exact this
  clear q1 q2 hrows hce;go_wp2_with fail;refine hcl.mono ?_;rintro e W2 ⟨v2,rfl,ow2,g2⟩;obtain⟨a2,c2,rfl⟩:=ow2.form;have O2:Xo (OwnRow blE wr.heap.size W2 (O a2 f.bl.length c2) f.bl):=ow2;have G2:Xo (Grew wr W2):=g2;have OF2:=dD (OW.out.grew g2);have HB:Xo (w.heap.size+2<=wr.heap.size):=show _<=_ by
   have:=bS BW.out;rw[HS0.out]at this;exact this
  clear ow2 g2 hcl d1
  generalize f.bl.length=nb at O2⊢
  go_wp2_with (refine wpList_store_part (E:=fvE) rfl (.tmp 22) (.tmp 20) 30 rfl (w.heap.size+2) _ ys OF2.out g kk 1 rfl q ⟨q.size,a2,nb,c2⟩ HY.out [O a2 nb c2] ?s1 rfl ?s2 ?s3 ⟨g,kk*2+1,Xb⟩ rfl rfl (O a2 nb c2) rfl rfl ?_)
  case s1=>kernel_rfl
  case s2=>exact nR 2
  case s3=>simp;rfl
  intro W3 ow3 gr3 _;have O3:Xo (OwnRow fvE (w.heap.size+2) W3 (O (Xa ⟨g,0,Xb⟩) n xc) (ys.set kk ⟨q.size,a2,nb,c2⟩)):=ow3;have H3:Xo (Half (w.heap.size+2) W3 (kk+1) xs (ys.set kk ⟨q.size,a2,nb,c2⟩) fs):=HH.out.step G2.out gr3 HF.out HQ.out Q1.out O2.out HB.out OF2.out rfl;have G3:Xo (Grew W0 W3):=show Grew _ _ from grew_grown (BW.out.trans G2.out) gr3 (by
   rw[HS0.out];exact(OF2.out.lt g rfl).1)
  clear ow3 gr3;go_wp2
  go_roundg (n -(kk+1))
  case measure=>omega
  exact⟨kk+1,_,by omega,by omega,by go_num,G3.out,O3.out,H3.out⟩
 have hltz:¬(kk:Int)< (n:Int):=by omega
 have:kk=n:=by omega
 subst this;have OA:Xo (OwnFiles (w.heap.size+2) wr (O xa kk xc) fs):=show OwnFiles _ _ _ _ by
  have h1:=HH.out;rw[<-HN.out]at h1;exact h1.all HL.out OW.out
 have x1:=(X0.out.grew BW.out).c 1 rfl;have Y1:=Y0.out.grew BW.out;have y0:=Y1.c 0 rfl;have y1:=Y1.c 1 rfl;have yf:=Y1.f;have HG:=dD (HG0.out.trans BW.out);clear Y1;go_wp2;refine bodyPost_ret (v:= Xi #[O xa kk xc,Xe Xf cnt]) (by simp[results,Tryz.results54,go_sem, *]) rfl ⟨_,rfl,(OA.out.setCell (by simp) _).setCell (by simp) _,?_,?_⟩
 ·exact Below.setCell (Below.setCell HG.out (p:=⟨w.heap.size+1,0,Xb⟩) (by simp) _) (p:=⟨w.heap.size+1,1,Xb⟩) (by simp) _
 have:=bS BW.out;rw[HS0.out]at this
 simp[World.setCell]
 exact this
def env (e:En):List Xq:=[Xe Xf e.kind,Xe Xf e.n,Xh e.wr]
theorem Tryz.infoEntry:(Tryz.prog.info? 127).map (fun i=>(i.zero,i.size,i.bytes))=Xa (Xa (Xi #[Xe Xf 0,Xe Xf 0,Xh Xd]),3,24):=by kernel_rfl
def enE:Elt En where
 enc:=env
 k:=3
 ty:=127
 st:=72
 bytes:=24
 zv:= Xi #[Xe Xf 0,Xe Xf 0,Xh Xd]
 zero:=en0
 len:=fun _=>rfl
 one:=fun a u hu=>by
  simp only[env,mC,nM,or_false]at hu
  rcases hu with rfl | rfl | rfl <;> rfl
 und:=Tryz.underlying72
 info:=Tryz.infoEntry
 zok:=rfl
 few:=by decide
 pos:=by decide
def EnCells (W:Xn) (y:Addr) (e:En):Prop:=W.cell? y=Xa (Xe Xf e.kind)/\W.cell? { block:=y.block,off:=y.off+1 }=Xa (Xe Xf e.n)/\W.cell? { block:=y.block,off:=y.off+2 }=Xa (Xh e.wr)
def EnRows (w:Xn) (a:Option Addr) (l:List En):Prop:=∀(j:Nat) e,l[j]? =Xa e->∃ad,a=Xa ad/\∀W,Grew w W->EnCells W (ad.add (j*3)) e
theorem RowAt.ens {w:Xn} {v:Xq} {l:List En} (h:RowAt enE w v l):∃a c,v= O a l.length c/\EnRows w a l:=by
 obtain⟨a,c,h1,h2⟩:=h.rows;refine⟨a,c,h1,fun j x hj=>?_⟩
 obtain⟨ad,h3,h4⟩:=h2 j x hj;exact⟨ad,h3,fun W hW=>⟨h4 W hW 0 _ rfl,h4 W hW 1 _ rfl,h4 W hW 2 _ rfl⟩⟩
structure TabS (B0 B1:Nat) (w:Xn) (vs:List Xq) (t:List (List En)):Prop where
 len:vs.length=8
 tlen:t.length=8
 row:∀(i:Nat) v h,vs[i]? =Xa v->t[i]? =Xa h->RowS enE B0 B1 w v h
def TabAt (w:Xn) (vs:List Xq) (t:List (List En)):Prop:=TabS 0 0 w vs t
theorem TabS.out {B0 B1:Nat} {w w':Xn} {vs:List Xq} {t:List (List En)} (h:TabS B0 B1 w vs t) (k:Out B0 B1 w w'):TabS B0 B1 w' vs t:=⟨h.len,h.tlen,fun i v x hv hx=>(h.row i v x hv hx).out k⟩
theorem TabS.grew {B0 B1:Nat} {w w':Xn} {vs:List Xq} {t:List (List En)} (h:TabS B0 B1 w vs t) (k:Grew w w'):TabS B0 B1 w' vs t:=h.out (Out.grew k)
theorem TabS.less {A0 A1 B0 B1:Nat} {w:Xn} {vs:List Xq} {t:List (List En)} (h:TabS B0 B1 w vs t) (h0:B0<=A0) (h1:A1<=B1):TabS A0 A1 w vs t:=⟨h.len,h.tlen,fun i v x hv hx=>(h.row i v x hv hx).less h0 h1⟩
theorem TabS.now {B0 B1:Nat} {w:Xn} {vs:List Xq} {t:List (List En)} (h:TabS B0 B1 w vs t):TabAt w vs t:=⟨h.len,h.tlen,fun i v x hv hx=>(h.row i v x hv hx).now.s0⟩
theorem TabAt.grew {w w':Xn} {vs:List Xq} {t:List (List En)} (h:TabAt w vs t) (k:Grew w w'):TabAt w' vs t:=TabS.grew h k
def nil8:List Xq:=Xr 8 (O Xb 0 0)
theorem TabS.nil (B0 B1:Nat) (w:Xn):TabS B0 B1 w nil8 none8:=⟨rfl,rfl,fun i v h hv hh=>by
 have h1:=mG hv;have h2:=mG hh;rw[nil8,Yr]at h1;rw[none8,Yr]at h2;rw[h1.2,h2.2];exact fun w' _=>RowAt.nil enE w'⟩
theorem TabAt.half {w:Xn} {vs:List Xq} {t:List (List En)} (h:TabAt w vs t) {i:Nat} (hi:i<8):∃a c x,t[i]? =Xa x/\vs[i]? =Xa (O a x.length c)/\RowAt enE w (O a x.length c) x:=by
 obtain⟨v,hv⟩:∃v,vs[i]? =Xa v:=⟨_,gE (by rw[h.len];exact hi)⟩
 obtain⟨x,hx⟩:∃x,t[i]? =Xa x:=⟨_,gE (by rw[h.tlen];exact hi)⟩
 have hr:=(h.row i v x hv hx).now;obtain⟨a,c,rfl,_⟩:=hr.rows;exact⟨a,c,x,hx,hv,hr⟩
theorem eight {α:Type}:∀{l:List α},l.length=8->∃a b c d e f g h,l=[a,b,c,d,e,f,g,h]
 | [a,b,c,d,e,f,g,h],_=>⟨a,b,c,d,e,f,g,h,rfl⟩
theorem belowT_any (m n:Int) (w:Xn):
  Xp Tryz.prog 127 #[Xe Xf m,Xe Xf n] w fun e w'=>e= Xl (Xh (bel m n))/\w'=w:=by
 have H:Xo (bel m n=(decide (0<=m) && decide (m<n))):=rfl
 by_cases h0:0<=m
 ·by_cases h1:m<n
  ·go_enter Tryz.func127,Tryz.ntmps127
   go_wp2;go_ret;exact⟨by rw[H.out];simp[*],rfl⟩
  go_enter Tryz.func127,Tryz.ntmps127
  go_wp2;go_ret;exact⟨by rw[H.out];simp[*],rfl⟩
 go_enter Tryz.func127,Tryz.ntmps127
 go_wp2;go_ret;exact⟨by rw[H.out];simp;omega,rfl⟩
theorem belowT_yes {m n:Int} (h0:0<=m) (h1:m<n) (w:Xn):Xp Tryz.prog 127 #[Xe Xf m,Xe Xf n] w fun e w'=>e= Xl (Xh Xc)/\w'=w:=by
 have:=belowT_any m n w;rw[bel_iff.2 ⟨h0,h1⟩]at this;exact this
theorem belowT_no {m n:Int} (h:¬(0<=m/\m<n)) (w:Xn):Xp Tryz.prog 127 #[Xe Xf m,Xe Xf n] w fun e w'=>e= Xl (Xh Xd)/\w'=w:=by
 have:=belowT_any m n w;rw[bel_no h]at this;exact this
theorem isSome_any (k n:Int) (b:Bool) (w:Xn):
  Xp Tryz.prog 168 #[Xi #[Xe Xf k,Xe Xf n,Xh b]] w fun e w'=>e= Xl (Xh (enS ⟨k,n,b⟩))/\Grew w w':=by
 have H:Xo (enS ⟨k,n,b⟩=(k != 0)):=rfl
 go_enter Tryz.func168,Tryz.ntmps168
 go_wp2;go_ret;exact⟨by rw[H.out];rfl,grew_alloc _ _⟩
theorem enW_kind {e:En} (h:¬(0<=e.kind/\e.kind<=2)):enW e=1:=by unfold enW;rw[if_neg h]
theorem enW_range {e:En} (h:0<=e.kind/\e.kind<=2) (h2:¬(0<=e.n/\e.n<=59/\(e.kind=1->e.n<=39))):enW e=3:=by unfold enW;rw[if_pos h,if_neg h2]
theorem enW_fit {e:En} (h:0<=e.kind/\e.kind<=2) (h2:0<=e.n/\e.n<=59/\(e.kind=1->e.n<=39)) (h3:(e.kind=0/\(e.n≠0\/e.wr=Xc))\/(e.kind=2/\e.wr=Xc)):enW e=7:=by unfold enW;rw[if_pos h,if_pos h2,if_pos h3]
def enEqB (a b:En):Bool:=(a.kind == b.kind) &&((a.n == b.n) &&(a.wr == b.wr))
theorem en_eq (k n k' n':Int) (b b':Bool) (w:Xn):(Op.equalIn 10000 127 (Xi #[Xe Xf k,Xe Xf n,Xh b]) (Xi #[Xe Xf k',Xe Xf n',Xh b'])).run Tryz.prog w= .ok (enEqB ⟨k,n,b⟩ ⟨k',n',b'⟩) w:=by
 have hf : (Tryz.prog.fieldsOf 127).toList.map (fun f => (f.name, f.type, f.offset)) = [("Kind", 3, 0), ("N", 3, 1), ("Write", 4, 2)] := by kernel_rfl
 rw[run_equalIn_struct w 9999 127 _ _ (by kernel_rfl) (by kernel_rfl)]
 obtain⟨f0,f1,f2,hfs⟩:∃f0 f1 f2,(Tryz.prog.fieldsOf 127).toList=[f0,f1,f2]:=by
  match hq:(Tryz.prog.fieldsOf 127).toList with
  | [f0,f1,f2]=>exact⟨f0,f1,f2,rfl⟩
  | []=>rw[hq]at hf;simp at hf
  | [_]=>rw[hq]at hf;simp at hf
  | [_,_]=>rw[hq]at hf;simp at hf
  | _ :: _ :: _ :: _ :: _=>rw[hq]at hf;simp at hf
 rw[hfs]at hf⊢
 simp at hf
 obtain⟨⟨h1,h2,h3⟩,⟨h4,h5,h6⟩,h7,h8,h9⟩:=hf;have pI:∀(zs:Array Xq) (o:Nat) v,zs[o]? =Xa (Xe Xf v)->(part 3 zs o).run Tryz.prog w= .ok (Xe Xf v) w:=fun zs o v hz=>run_part_plain w (by simp[Program.plainKey,Tryz.underlying3]) hz
 have pB:∀(zs:Array Xq) (o:Nat) v,zs[o]? =Xa (Xh v)->(part 4 zs o).run Tryz.prog w= .ok (Xh v) w:=fun zs o v hz=>run_part_plain w (by simp[Program.plainKey,Tryz.underlying4]) hz
 simp only[Op.eqFields,h1,h2,h3,h4,h5,h6,h7,h8,h9]
 simp[pI,pB,run_equalIn_int w _ _ _ _ _ _ Tryz.underlying3,run_equalIn_bool' w _ _ _ _ Tryz.underlying4]
 unfold enEqB
 by_cases e1:k=k' <;> by_cases e2:n=n' <;> cases b <;> cases b' <;> simp[e1,e2]
theorem wrongEntry_any (k n:Int) (b:Bool) (w:Xn):
  Xp Tryz.prog 201 #[Xi #[Xe Xf k,Xe Xf n,Xh b]] w fun e w'=>e= Xl (Xe Xf (enW ⟨k,n,b⟩))/\Grew w w':=by
 obtain⟨Z,HZ⟩:∃Z,Xo (enW ⟨k,n,b⟩=Z):=⟨_,rfl⟩;rw[HZ.out]
 by_cases h1:0<=k/\k<=2
 ·have hb1:=fun W=>belowT_yes (m:=k) (n:=3) h1.1 (by omega) W
  by_cases h2:0<=n/\n<=59
  ·have hb2:=fun W=>belowT_yes (m:=n) (n:=60) h2.1 (by omega) W
   by_cases h3:k=1/\39<n
   ·have HF:Xo (Z=3):=show _=_ by rw[<-HZ.out];exact enW_range h1 (fun h=>by have:=h.2.2 h3.1;simp at this;omega)
    obtain⟨rfl,h3⟩:=h3;have h4:40<=n:=by omega
    clear h1 h2 h3
    go_enter Tryz.func201,Tryz.ntmps201
    go_wp2_with fail;refine(hb1 _).mono ?_;rintro e w' ⟨rfl,rfl⟩;go_wp2_with fail;refine(hb2 _).mono ?_;rintro e w' ⟨rfl,rfl⟩;go_wp2;go_ret;exact⟨by rw[HF.out];rfl,grew_alloc _ _⟩
   have hr:0<=n/\n<=59/\(k=1->n<=39):=⟨h2.1,h2.2,fun h=>by omega⟩
   obtain rfl | rfl | rfl:k=0\/k=1\/k=2:=by omega
   ·have hq:=fun W=>en_eq 0 n 0 0 b Xd W
    by_cases hn:n=0/\b=Xd
    ·have HF:Xo (Z=0):=show _=_ by rw[<-HZ.out];exact enW_of h1 hr (fun h=>by simp[hn.1,hn.2]at h)
     obtain⟨rfl,rfl⟩:=hn;rw[show enEqB ⟨0,0,Xd⟩ ⟨0,0,Xd⟩=Xc from rfl]at hq
     clear h1 h2 h3 hr
     go_enter Tryz.func201,Tryz.ntmps201
     go_wp2_with fail;refine(hb1 _).mono ?_;rintro e w' ⟨rfl,rfl⟩;go_wp2_with fail;refine(hb2 _).mono ?_;rintro e w' ⟨rfl,rfl⟩;go_wp2;go_ret;exact⟨by rw[HF.out];rfl,grew_alloc _ _⟩
    have HF:Xo (Z=7):=show _=_ by
     rw[<-HZ.out];refine enW_fit h1 hr (.inl ⟨rfl,?_⟩)
     cases b with
     | false=>exact .inl (fun h=>hn ⟨h,rfl⟩)
     | true=>exact .inr rfl
    have he:enEqB ⟨0,n,b⟩ ⟨0,0,Xd⟩=Xd:=by
     unfold enEqB
     cases b with
     | false=>simp;exact fun h=>hn ⟨h,rfl⟩
     | true=>simp
    rw[he]at hq;clear h1 h2 h3 hr hn he
    go_enter Tryz.func201,Tryz.ntmps201
    go_wp2_with fail;refine(hb1 _).mono ?_;rintro e w' ⟨rfl,rfl⟩;go_wp2_with fail;refine(hb2 _).mono ?_;rintro e w' ⟨rfl,rfl⟩;go_wp2;go_ret;exact⟨by rw[HF.out];rfl,grew_alloc _ _⟩
   ·have HF:Xo (Z=0):=show _=_ by rw[<-HZ.out];exact enW_of h1 hr (fun h=>by simp at h)
    have h4:¬40<=n:=by omega
    clear h1 h2 h3 hr
    go_enter Tryz.func201,Tryz.ntmps201
    go_wp2_with fail;refine(hb1 _).mono ?_;rintro e w' ⟨rfl,rfl⟩;go_wp2_with fail;refine(hb2 _).mono ?_;rintro e w' ⟨rfl,rfl⟩;go_wp2;go_ret;exact⟨by rw[HF.out];rfl,grew_alloc _ _⟩
   cases b with
   | false=>
    have HF:Xo (Z=0):=show _=_ by rw[<-HZ.out];exact enW_of h1 hr (fun h=>by simp at h)
    clear h1 h2 h3 hr
    go_enter Tryz.func201,Tryz.ntmps201
    go_wp2_with fail;refine(hb1 _).mono ?_;rintro e w' ⟨rfl,rfl⟩;go_wp2_with fail;refine(hb2 _).mono ?_;rintro e w' ⟨rfl,rfl⟩;go_wp2;go_ret;exact⟨by rw[HF.out];rfl,grew_alloc _ _⟩
   | true=>
    have HF:Xo (Z=7):=show _=_ by rw[<-HZ.out];exact enW_fit h1 hr (.inr ⟨rfl,rfl⟩)
    clear h1 h2 h3 hr
    go_enter Tryz.func201,Tryz.ntmps201
    go_wp2_with fail;refine(hb1 _).mono ?_;rintro e w' ⟨rfl,rfl⟩;go_wp2_with fail;refine(hb2 _).mono ?_;rintro e w' ⟨rfl,rfl⟩;go_wp2;go_ret;exact⟨by rw[HF.out];rfl,grew_alloc _ _⟩
  have HF:Xo (Z=3):=show _=_ by rw[<-HZ.out];exact enW_range h1 (fun h=>h2 ⟨h.1,h.2.1⟩)
  have hb2:=fun W=>belowT_no (m:=n) (n:=60) (by omega) W
  clear h1 h2
  go_enter Tryz.func201,Tryz.ntmps201
  go_wp2_with fail;refine(hb1 _).mono ?_;rintro e w' ⟨rfl,rfl⟩;go_wp2_with fail;refine(hb2 _).mono ?_;rintro e w' ⟨rfl,rfl⟩;go_wp2;go_ret;exact⟨by rw[HF.out];rfl,grew_alloc _ _⟩
 have HF:Xo (Z=1):=show _=_ by rw[<-HZ.out];exact enW_kind h1
 have hb1:=fun W=>belowT_no (m:=k) (n:=3) (by omega) W
 clear h1
 go_enter Tryz.func201,Tryz.ntmps201
 go_wp2_with fail;refine(hb1 _).mono ?_;rintro e w' ⟨rfl,rfl⟩;go_wp2;go_ret;exact⟨by rw[HF.out];rfl,grew_alloc _ _⟩
theorem indexSome_any (v:Xq) (fs:List En) (w:Xn) (hv:RowAt enE w v fs):
  Xp Tryz.prog 231 #[v,.func (.func 168) #[] #[]] w fun e w'=>(∃z:Int,e= Xl (Xe Xf z)/\decide (0<=z)=anyS fs)/\Grew w w':=by
 have hbig:=hv.short;obtain⟨a,c,rfl,hrow⟩:=hv.ens;have HR:Xo (EnRows w a fs):=hrow;clear hrow hv;obtain⟨n,HN⟩:∃n,Xo (fs.length=n):=⟨_,rfl⟩;rw[HN.out]at hbig⊢;obtain⟨ANS,HANS⟩:∃ANS,Xo (anyS fs=ANS):=⟨_,rfl⟩;rw[HANS.out];have eg:=enters_of Tryz.func168 (by kernel_rfl) rfl
 go_enter Tryz.func231,Tryz.ntmps231
 go_wp2
 go_loopg [8] n (fun gg s8 wr=>∃kk:Nat,kk<=n/\n - kk<=gg/\s8= Xe Xf kk/\Xo (Grew w wr)/\Xo (∀(j:Nat) q,j<kk->fs[j]? =Xa q->enS q=Xd))
 case atStart=>exact⟨0,nZ _,by omega,rfl,Grew.refl w,fun j q hj=>absurd hj (nL _)⟩
 obtain⟨kk,hkk,hg,rfl,BW,A⟩:=hrel
 by_cases hlt:kk<n
 ·have hltz:(kk:Int)< (n:Int):=by omega
  obtain⟨q,HQ⟩:∃q,Xo (fs[kk]? =Xa q):=⟨_,gE (by rw[HN.out];exact hlt)⟩
  obtain⟨ad,rfl,hl⟩:=HR.out kk q HQ.out;obtain⟨d0,d1,d2⟩:=hl wr BW.out;clear hl;have hcall:=isSome_any q.kind q.n q.wr wr
  cases hq:enS q with
  | true=>
   have HF:Xo (decide (0<=(kk:Int))=ANS):=show _=_ by
    rw[<-HANS.out,show anyS fs=Xc from anyAt HQ.out hq]
    simp
   rw[show enS ⟨q.kind,q.n,q.wr⟩=Xc from hq]at hcall
   clear hq;go_wp2_with fail;refine hcall.mono ?_;rintro e W2 ⟨rfl,k1⟩;have G2:=dD (BW.out.trans k1);clear k1 hcall d0 d1 d2;go_wp2;go_ret;exact⟨⟨_,rfl,HF.out⟩,G2.out⟩
  | false=>
   have HA:Xo (∀(j:Nat) q,j<kk+1->fs[j]? =Xa q->enS q=Xd):=show∀(j:Nat) q,_ from fun j q' hj hq'=>by
    by_cases e:j=kk
    ·subst e;rw[HQ.out]at hq';cases hq';exact hq
    exact A.out j q' (by omega) hq'
   rw[show enS ⟨q.kind,q.n,q.wr⟩=Xd from hq]at hcall
   clear hq;go_wp2_with fail;refine hcall.mono ?_;rintro e W2 ⟨rfl,k1⟩;have G2:=dD (BW.out.trans k1);clear k1 hcall d0 d1 d2;go_wp2
   go_roundg (n -(kk+1))
   case measure=>omega
   exact⟨kk+1,by omega,by omega,by go_num,G2.out,HA.out⟩
 have hltz:¬(kk:Int)< (n:Int):=by omega
 have:kk=n:=by omega
 subst this;have HF:Xo (decide (0<=(-1:Int))=ANS):=show _=_ by
  rw[<-HANS.out]
  symm
  exact anyNo (fun j x hx=>A.out j x (by rw[<-HN.out];exact(gS.1 hx).1) hx)
 go_wp2;go_ret;exact⟨⟨_,rfl,HF.out⟩,BW.out⟩
theorem containsSome_any (v:Xq) (fs:List En) (w:Xn) (hv:RowAt enE w v fs):
  Xp Tryz.prog 202 #[v,.func (.func 168) #[] #[]] w fun e w'=>e= Xl (Xh (anyS fs))/\Grew w w':=by
 have hcall:=indexSome_any v fs w hv;obtain⟨a,c,rfl,_⟩:=hv.rows;clear hv
 generalize fs.length=n at*
 generalize anyS fs=A at*
 go_enter Tryz.func202,Tryz.ntmps202
 go_wp2_with fail;refine hcall.mono ?_;rintro e W2 ⟨⟨z,rfl,hz⟩,k1⟩;have HZ:Xo (decide (0<=z)=A):=hz;have G2:Xo (Grew w W2):=k1;clear hz k1 hcall;go_wp2;go_ret;exact⟨by rw[<-HZ.out];rfl,G2.out⟩
theorem cloneEntry_any (v:Xq) (fs:List En) (w:Xn) (hv:RowAt enE w v fs):
  Xp Tryz.prog 162 #[v] w fun e w'=>∃v',e= Xl v'/\OwnRow enE w.heap.size w' v' fs/\Grew w w':=by
 have HV:Xo (RowAt enE w v fs):=hv;obtain⟨⟨a,c,rfl,hnone,hcells⟩,hbytes⟩:=hv;have q22:∀(w:Xn) (a:Option Addr) (n c n' c':Nat),(binOp .eql 72 (O a n c) (O Xb n' c')).run Tryz.prog w= .ok (Xh a.isNone) w:=fun w a n c n' c'=>Lib.run_eql_slice_nil w _ _ a n c n' c' Tryz.underlying72
 cases a with
 | none=>
  have hps:=hnone rfl;subst hps;clear hcells hnone hbytes HV
  go_enter Tryz.func162,Tryz.ntmps162
  go_wp2;go_ret;exact⟨_,rfl,OwnRow.nil _ _ _,Grew.refl w⟩
 | some x=>
  have HB:Xo (fs.length*24<=140737488355328):=hbytes;clear hcells hnone hbytes
  go_enter Tryz.func162,Tryz.ntmps162
  go_wp2_with (at_builtin;refine wpList_append_row (E:=enE) rfl (.tmp 5) (.tmp 6) rfl w.heap.size _ [] rfl (OwnRow.made enE w) _ fs rfl (HV.out.grew (grew_alloc _ _)) ?qb (by simp) ?_)
  case qb=>rw[Yc,zA];exact HB.out
  intro v' w1 hown hgrow;go_wp2;go_ret;exact⟨v',rfl,by simpa using hown,((bR _ w).alloc (nR _) _).grown hgrow (by simp) (by intro k hk;simp[Value.ownBlock]at hk;omega)⟩
theorem Box.range {w:Xn} {b:Nat} {cs:List Xq} (h:Box w b cs):w.rangeAt b 0 cs:=fun j v hj=>by
 rw[zA];exact h.c j hj
theorem Box.there {w:Xn} {b:Nat} {cs:List Xq} (h:Box w b cs):w.there b 0 cs.length:=fun j hj=>by
 rw[zA];exact⟨by rw[h.c j (gE hj)];rfl,h.f j⟩
theorem Box.part {w:Xn} {b:Nat}:∀{ds cs:List Xq} {o:Nat},Box w b cs->o+ds.length<=cs.length->Box (w.setCells b o ds) b (splice cs o ds):=by
 have key:∀(ds cs:List Xq) (o:Nat) (w:Xn),Box w b cs->o+ds.length<=cs.length->Box (w.setCells b o ds) b (splice cs o ds):=fun ds=>by
  induction ds with
  | nil=>
   intro cs o w h hl;have:splice cs o []=cs:=by simp[splice]
   rw[this];exact h
  | cons d ds ih=>
   intro cs o w h hl;simp only[List.length_cons]at hl;have h1:=h.set o d;have h2:=ih (cs.set o d) (o+1) (w.setCell ⟨b,o,Xb⟩ d) h1 (by simp;omega)
   have h3:splice (cs.set o d) (o+1) ds=splice cs o (d :: ds):=by
    unfold splice;rw[List.take_set,List.drop_set,if_pos (by omega),Yh,gE (by omega)]
    simp only[List.length_cons,Option.toList_some];rw[List.set_append_right _ _ (by simp;omega),show o+1+ds.length=o+(ds.length+1) by omega]
    simp[List.length_take,Nat.min_eq_left (show o<=cs.length by omega)]
   rw[h3]at h2;exact h2
 exact fun{ds cs o} h hl=>key ds cs o w h hl
theorem setCells_grown (b:Nat):∀(ds:List Xq) (o:Nat) (w:Xn),w.grownBy (w.setCells b o ds) (Xa b)/\(w.setCells b o ds).heap.size=w.heap.size
 | [],_,w=>⟨World.grownBy.rfl' _ _,rfl⟩
 | d :: ds,o,w=>by
  obtain⟨h1,h2⟩:=setCells_grown b ds (o+1) (w.setCell ⟨b,o,Xb⟩ d);have h3:w.grownBy (w.setCell ⟨b,o,Xb⟩ d) (Xa b):=⟨rfl,rfl,rfl,by simp[World.setCell],fun k _ hk=>Below.heap_setCell _ _ _ _ (fun e=>hk (by rw[e]))⟩
  exact⟨grown_trans h3 h1,h2.trans (by simp[World.setCell])⟩
theorem wp_loadAll {ops:Array Oper} {rest:List Oper} {o:Oper} {a:Act} {w:Xn} {Q:Exit->Act->Xn->Prop} (hgd:o.guard=Xb) (ty:TypeId) (x:Operand) (ho:o.op= .load ty x) (b:Nat) (hx:a.eval x= Xj (Xa ⟨b,0,Xb⟩)) {vs:List Xq} (hb:Box w b vs) {d:TypeDesc} (hu:Tryz.prog.underlying ty=Xa d) (hd:d.isRow=Xc) (hi:(Tryz.prog.info? ty).map (·.size)=Xa vs.length)
  (h:wpList Tryz.prog ops Q rest (a.put o.dst (Xi vs.toArray)) w):wpList Tryz.prog ops Q (o :: rest) a w:=
 wpList_load_mid hgd ty x ho b 0 hx vs _ hb.range hu hd hi h
theorem splice_all {cs vs:List Xq} (h:vs.length=cs.length):splice cs 0 vs=vs:=by
 unfold splice;rw[List.take_zero,List.nil_append,zA,Yb (by omega),List.append_nil]
theorem wp_storeAll {ops:Array Oper} {rest:List Oper} {o:Oper} {a:Act} {w:Xn} {Q:Exit->Act->Xn->Prop} (hgd:o.guard=Xb) (ty:TypeId) (p x:Operand) (ho:o.op= .store ty p x) (b:Nat) (hp:a.eval p= Xj (Xa ⟨b,0,Xb⟩)) (vs:List Xq) (hx:a.eval x= Xi vs.toArray)
  {cs:List Xq} (hb:Box w b cs) (hl:vs.length=cs.length) (hi:(Tryz.prog.info? ty).map (·.size)=Xa cs.length) (h1:∀v∈vs,v.oneCell'=Xc)
  (h:∀w',Box w' b vs->w.grownBy w' (Xa b)->w'.heap.size=w.heap.size->wpList Tryz.prog ops Q rest (a.put o.dst undef) w'):wpList Tryz.prog ops Q (o :: rest) a w:=by
 refine wpList_store_mid hgd ty p x ho b 0 vs.toArray hp hx ?_ ?_ (all_oneCell_toArray h1) ?_
 ·simpa [hl]using hb.there
 ·simpa [hl]using hi
 have:=hb.part (ds:=vs) (o:=0) (by omega)
 rw[splice_all hl]at this;exact h _ this (setCells_grown b vs 0 w).1 (setCells_grown b vs 0 w).2
theorem wp_storeMid {ops:Array Oper} {rest:List Oper} {op:Oper} {a:Act} {w:Xn} {Q:Exit->Act->Xn->Prop} (hgd:op.guard=Xb) (ty:TypeId) (p x:Operand) (ho:op.op= .store ty p x) (b o:Nat) (hp:a.eval p= Xj (Xa ⟨b,o,Xb⟩)) (vs:List Xq) (hx:a.eval x= Xi vs.toArray)
  {cs:List Xq} (hb:Box w b cs) (hl:o+vs.length<=cs.length) (hi:(Tryz.prog.info? ty).map (·.size)=Xa vs.length) (h1:∀v∈vs,v.oneCell'=Xc)
  (h:∀w',Box w' b (splice cs o vs)->w.grownBy w' (Xa b)->w'.heap.size=w.heap.size->wpList Tryz.prog ops Q rest (a.put op.dst undef) w'):wpList Tryz.prog ops Q (op :: rest) a w:=by
 refine wpList_store_mid hgd ty p x ho b o vs.toArray hp hx ?_ ?_ (all_oneCell_toArray h1) ?_
 ·intro j hj;have:=hb.there (o+j) (by simp at hj;omega)
  rw[zA]at this;exact this
 ·simpa using hi
 exact h _ (hb.part hl) (setCells_grown b vs o w).1 (setCells_grown b vs o w).2
theorem Box.mid {w:Xn} {b:Nat} {cs vs:List Xq} (h:Box w b cs) (o:Nat) (hv:∀(j:Nat) v,vs[j]? =Xa v->cs[o+j]? =Xa v):w.rangeAt b o vs:=fun j v hj=>h.c _ (hv j v hj)
theorem ret_cell {fn:Func} {p:Tmp} {ty:TypeId} (h:fn.results=#[.cell p ty]) (tmps:Array Xq) {w:Xn} {b:Nat} (hp:tmps.getD p undef= Xj (Xa ⟨b,0,Xb⟩)) {vs:List Xq} (hb:Box w b vs) {d:TypeDesc} (hu:Tryz.prog.underlying ty=Xa d) (hd:d.isRow=Xc) (hi:(Tryz.prog.info? ty).map (·.size)=Xa vs.length):
  (results fn tmps).run Tryz.prog w= .ok (Xi vs.toArray) w:=by
 have hp':tmps[p]?.getD undef= Xj (Xa ⟨b,0,Xb⟩):=by simpa using hp
 have hld:=run_loadVar_mid (P:=Tryz.prog) w b 0 ty vs d hb.range hu hd hi
 simp[results,h,hp',asAddr,hld]
theorem wpOp_does {P:Program} {ops:Array Oper} {Q:Exit->Act->Xn->Prop} {i:Nat} {o:Oper} {a:Act} {w:Xn} {next:Act->Xn->Prop} (d:Option Tmp) (K:Xq->Xn->Prop) (hi:ops[i]? =Xa o) (hd:o.dst=d) (hw:Region.wanted o (yielded ops a.tmps)=Xc) (h:Does P o a w K) (hn:∀v w',K v w'->next (a.put d v) w'):wpOp P ops Q i next a w:=by
 subst hd;unfold wpOp;simp only[hi,hw,if_true];exact .inl (h.wp hn)
theorem Does.storeAll {o:Oper} {a:Act} {w:Xn} {K:Xq->Xn->Prop} (ty:TypeId) (p x:Operand) (ho:o.op= .store ty p x) (b:Nat) (hp:a.eval p= Xj (Xa ⟨b,0,Xb⟩)) (vs:List Xq) (hx:a.eval x= Xi vs.toArray)
  {cs:List Xq} (hb:Box w b cs) (hl:vs.length=cs.length) (hi:(Tryz.prog.info? ty).map (·.size)=Xa cs.length) (h1:∀v∈vs,v.oneCell'=Xc)
  (h:∀w',Box w' b vs->w.grownBy w' (Xa b)->w'.heap.size=w.heap.size->K undef w'):Does Tryz.prog o a w K:=by
 unfold Does;have hr:(execOp a.eval o).run Tryz.prog w= .ok .skip (w.setCells b 0 vs):=by
  have:=run_storeAt_mid (P:=Tryz.prog) w b 0 ty vs.toArray (by simpa [hl]using hb.there) (by simpa [hl]using hi) (all_oneCell_toArray h1)
  simp only[execOp,ho,hp,hx,Yd,this,rA,Yt]
 rw[hr];have hp:=hb.part (ds:=vs) (o:=0) (by omega)
 rw[splice_all hl]at hp;exact h _ hp (setCells_grown b vs 0 w).1 (setCells_grown b vs 0 w).2
theorem Tryz.sizeTable:(Tryz.prog.info? 74).map (·.size)=Xa 8:=by kernel_rfl
theorem wp_loadTab {ops:Array Oper} {rest:List Oper} {o:Oper} {a:Act} {w:Xn} {Q:Exit->Act->Xn->Prop} (hgd:o.guard=Xb) (x:Operand) (ho:o.op= .load 74 x) (b:Nat) (hx:a.eval x= Xj (Xa ⟨b,0,Xb⟩)) {vs:List Xq} (hb:Box w b vs) (hl:vs.length=8)
  (h:wpList Tryz.prog ops Q rest (a.put o.dst (Xi vs.toArray)) w):wpList Tryz.prog ops Q (o :: rest) a w:=
 wpList_load_mid hgd 74 x ho b 0 hx vs _ hb.range Tryz.underlying74 rfl (by rw[hl];exact Tryz.sizeTable) h
theorem run_half {w:Xn} {vs:List Xq} (i:Nat) (hi:i<8) {v:Xq} (hv:vs[i]? =Xa v):(Instr.index 74 (Xi vs.toArray) (Xe Xf (i:Int))).run Tryz.prog w= .ok v w:=by
 have ha:(isAgg 72).run Tryz.prog w= .ok Xd w:=by
  unfold isAgg;rw[Yd,run_underlying Tryz.underlying72 w];rfl
 have hs:(Go.sizeOf 72).run Tryz.prog w= .ok 1 w:=by
  obtain⟨i0,h1,h2⟩:∃i0,Tryz.prog.info? 72=Xa i0/\i0.size=1:=by
   have:(Tryz.prog.info? 72).map (·.size)=Xa 1:=by kernel_rfl
   cases hq:Tryz.prog.info? 72 with
   | none=>rw[hq]at this;cases this
   | some i0=>rw[hq]at this;exact⟨i0,rfl,by simpa using this⟩
  simp[Go.sizeOf,typeInfo,h1,h2]
 have hlt:(0:Int)<=(i:Int)/\(i:Int)< ((8:Nat):Int):=by omega
 simp only[Instr.index,asIntOf,Yd,Yt,rA,run_underlying Tryz.underlying74];rw[if_pos hlt];simp only[Yd,hs,rA,part,ha,Nat.mul_one,tN]
 simp[hv]
theorem wp_half {ops:Array Oper} {rest:List Oper} {o:Oper} {a:Act} {w:Xn} {Q:Exit->Act->Xn->Prop} (hgd:o.guard=Xb) (x ix:Operand) (ho:o.op= .index 74 x ix) (vs:List Xq) (hx:a.eval x= Xi vs.toArray) (i:Nat) (hix:a.eval ix= Xe Xf (i:Int)) (hi:i<8) {v:Xq} (hv:vs[i]? =Xa v)
  (h:wpList Tryz.prog ops Q rest (a.put o.dst v) w):wpList Tryz.prog ops Q (o :: rest) a w:=by
 refine wpList_plain hgd fun K hK=>?_
 unfold Oper.wp execOp;simp only[ho,hx,hix,Yd,Yt,rA,run_half i hi hv];exact hK _ _ h
theorem ret_cell_tmp {fn:Func} {p u:Tmp} {ty:TypeId} (h:fn.results=#[.cell p ty,.tmp u]) (tmps:Array Xq) {w:Xn} {b:Nat} (hp:tmps.getD p undef= Xj (Xa ⟨b,0,Xb⟩)) {vs:List Xq} (hb:Box w b vs) {d:TypeDesc} (hu:Tryz.prog.underlying ty=Xa d) (hd:d.isRow=Xc) (hi:(Tryz.prog.info? ty).map (·.size)=Xa vs.length):
  (results fn tmps).run Tryz.prog w= .ok (Xm #[Xi vs.toArray,tmps.getD u undef]) w:=by
 have hld:=run_loadVar_mid (P:=Tryz.prog) w b 0 ty vs d hb.range hu hd hi;rw[results_cell_tmp h,hp]
 simp[asAddr,Result.andThen,hld]
theorem TabS.one {B0 B1:Nat} {w:Xn} {vs:List Xq} {t:List (List En)} (h:TabS B0 B1 w vs t):∀v∈vs,v.oneCell'=Xc:=fun v hv=>by
 obtain⟨i,hi⟩:=Xt hv;have hlt:i<8:=by rw[<-h.len];exact(gS.1 hi).1
 obtain⟨a,c,x,_,h2,_⟩:=h.now.half hlt;rw[h2]at hi;cases hi;rfl
structure OwnTab (base:Nat) (w:Xn) (vs:List Xq) (t:List (List En)):Prop where
 len:vs.length=8
 tlen:t.length=8
 row:∀(i:Nat) v h,vs[i]? =Xa v->t[i]? =Xa h->OwnRow enE base w v h
 two:∀(i j:Nat) u v,i≠j->vs[i]? =Xa u->vs[j]? =Xa v->∀g,u.ownBlock=Xa g->v.ownBlock≠Xa g
theorem OwnTab.new {base:Nat} {w:Xn} {vs:List Xq} {t:List (List En)} (h:OwnTab base w vs t):TabS 0 base w vs t:=⟨h.len,h.tlen,fun i v x hv hx=>(h.row i v x hv hx).new.stays⟩
theorem OwnTab.grew {base:Nat} {w w':Xn} {vs:List Xq} {t:List (List En)} (h:OwnTab base w vs t) (k:Grew w w'):OwnTab base w' vs t:=⟨h.len,h.tlen,fun i v x hv hx=>(h.row i v x hv hx).grew k,h.two⟩
theorem OwnTab.base {base base':Nat} {w:Xn} {vs:List Xq} {t:List (List En)} (h:OwnTab base w vs t) (hb:base'<=base):OwnTab base' w vs t:=⟨h.len,h.tlen,fun i v x hv hx=>(h.row i v x hv hx).base hb,h.two⟩
theorem OwnTab.half {base:Nat} {w:Xn} {vs:List Xq} {t:List (List En)} (h:OwnTab base w vs t) {i:Nat} (hi:i<8):∃a c x,t[i]? =Xa x/\vs[i]? =Xa (O a x.length c)/\OwnRow enE base w (O a x.length c) x:=by
 obtain⟨v,hv⟩:∃v,vs[i]? =Xa v:=⟨_,gE (by rw[h.len];exact hi)⟩
 obtain⟨x,hx⟩:∃x,t[i]? =Xa x:=⟨_,gE (by rw[h.tlen];exact hi)⟩
 have hr:=h.row i v x hv hx;obtain⟨a,c,rfl⟩:=hr.form;exact⟨a,c,x,hx,hv,hr⟩
theorem OwnTab.one {base:Nat} {w w':Xn} {vs:List Xq} {t:List (List En)} (h:OwnTab base w vs t) {i:Nat} {v v':Xq} {x':List En} (hi:i<8) (hv:vs[i]? =Xa v) (hg:w.grownBy w' v.ownBlock) (ho:OwnRow enE base w' v' x') (hn:∀g,v'.ownBlock=Xa g->v.ownBlock=Xa g\/w.heap.size<=g):OwnTab base w' (vs.set i v') (t.set i x'):=by
 have hlt:∀(j:Nat) u,vs[j]? =Xa u->∀g,u.ownBlock=Xa g->g<w.heap.size:=fun j u hu g hg=>by
  obtain⟨x,hx⟩:∃x,t[j]? =Xa x:=⟨_,gE (by rw[h.tlen,<-h.len];exact(gS.1 hu).1)⟩
  exact((h.row j u x hu hx).lt g hg).2
 refine⟨by simp[h.len],by simp[h.tlen],fun j u x hu hx=>?_,fun j k p q hjk hp hq g hpg hqg=>?_⟩
 ·by_cases e:j=i
  ·subst e;rw[sF (by rw[h.len];exact hi)]at hu
   rw[sF (by rw[h.tlen];exact hi)]at hx
   cases hu;cases hx;exact ho
  rw[sN (fun h=>e h.symm)]at hu hx
  exact(h.row j u x hu hx).grown hg (fun g hu' hv'=>h.two j i u v e hu hv g hu' hv')
 by_cases e1:j=i
 ·subst e1;rw[sF (by rw[h.len];exact hi)]at hp
  cases hp;rw[sN hjk]at hq
  rcases hn g hpg with h1 | h1
  ·exact h.two j k v q hjk hv hq g h1 hqg
  have:=hlt k q hq g hqg;omega
 rw[sN (fun h=>e1 h.symm)]at hp
 by_cases e2:k=i
 ·subst e2;rw[sF (by rw[h.len];exact hi)]at hq
  cases hq
  rcases hn g hqg with h1 | h1
  ·exact h.two j k p v hjk hp hv g hpg h1
  have:=hlt j p hp g hpg;omega
 rw[sN (fun h=>e2 h.symm)]at hq
 exact h.two j k p q hjk hp hq g hpg hqg
structure HalfT (base:Nat) (w:Xn) (kk:Nat) (vs us:List Xq) (t:List (List En)):Prop where
 len:us.length=8
 own:∀(i:Nat) v h,i<kk->us[i]? =Xa v->t[i]? =Xa h->OwnRow enE base w v h
 two:∀(i j:Nat) u v,i<kk->j<kk->i≠j->us[i]? =Xa u->us[j]? =Xa v->∀g,u.ownBlock=Xa g->v.ownBlock≠Xa g
 one:∀v∈us,v.oneCell'=Xc
theorem HalfT.step {base:Nat} {w w1:Xn} {kk:Nat} {vs us:List Xq} {t:List (List En)} (h:HalfT base w kk vs us t) (ht:t.length=8) (hg:Grew w w1) {x:List En} {v:Xq} (hk:kk<8) (hx:t[kk]? =Xa x) (hown:OwnRow enE w.heap.size w1 v x) (hb:base<=w.heap.size) {p:Addr} (hp:p.block<base) (u:Xq):HalfT base (w1.setCell p u) (kk+1) vs (us.set kk v) t:=by
 have hlt:∀(j:Nat) u,j<kk->us[j]? =Xa u->∀g,u.ownBlock=Xa g->g<w.heap.size:=fun j u hj hu g hg=>by
  obtain⟨y,hy⟩:∃y,t[j]? =Xa y:=⟨_,gE (by rw[ht,<-h.len];exact(gS.1 hu).1)⟩
  exact((h.own j u y hj hu hy).lt g hg).2
 refine⟨by simp[h.len],fun i y f hi hy hf=>?_,fun i j p' q hi hj hij hp' hq g h1 h2=>?_,fun y hy=>?_⟩
 ·by_cases e:i=kk
  ·subst e;rw[sF (by rw[h.len];exact hk)]at hy
   cases hy;rw[hx]at hf;cases hf;exact(hown.base hb).setCell hp u
  rw[sN (fun h=>e h.symm)]at hy
  exact((h.own i y f (by omega) hy hf).grew hg).setCell hp u
 ·by_cases e1:i=kk
  ·subst e1;rw[sF (by rw[h.len];exact hk)]at hp'
   cases hp';rw[sN hij]at hq;have:=hlt j q (by omega) hq g h2
   have:=(hown.lt g h1).1;omega
  rw[sN (fun h=>e1 h.symm)]at hp'
  by_cases e2:j=kk
  ·subst e2;rw[sF (by rw[h.len];exact hk)]at hq
   cases hq;have:=hlt i p' (by omega) hp' g h1
   have:=(hown.lt g h2).1;omega
  rw[sN (fun h=>e2 h.symm)]at hq
  exact h.two i j p' q (by omega) (by omega) hij hp' hq g h1 h2
 rcases Yg hy with h1 | h1
 ·exact h.one y h1
 subst h1;obtain⟨a,c,rfl⟩:=hown.form;rfl
theorem ownTb_any (vs:List Xq) (t:List (List En)) (w:Xn) (hv:TabAt w vs t):
  Xp Tryz.prog 105 #[Xi vs.toArray] w fun e w'=>∃us,e= Xl (Xi us.toArray)/\OwnTab (w.heap.size+2) w' us t/\Grew w w'/\w.heap.size+2<=w'.heap.size:=by
 have HV:Xo (TabAt w vs t):=hv;have HL:Xo (vs.length=8):=hv.len;clear hv;obtain⟨W0,hW0⟩:∃W0,(w.alloc (Xk vs.toArray 74)).alloc (Xk #[O Xb 0 0,O Xb 0 0,O Xb 0 0,O Xb 0 0,O Xb 0 0,O Xb 0 0,O Xb 0 0,O Xb 0 0] 74)=W0:=⟨_,rfl⟩;have HG0:=gD2 hW0
 have X0:=x2a hW0
 have Y0:Xo (Box W0 (w.heap.size+1) nil8):=show Box _ _ _ by rw[<-hW0];exact Box.top _ nil8 _ (by simp)
 have HS0:Xo (W0.heap.size=w.heap.size+2):=show _=_ by rw[<-hW0];simp
 have HW0:Xo (_=W0):=hW0;clear hW0
 go_enter Tryz.func105,Tryz.ntmps105
 go_upto_region 1 with fail;rw[HW0.out]
 go_wp2_with (refine wp_loadTab rfl (.tmp 1) rfl w.heap.size rfl X0.out HL.out ?_)
 go_loopg [6] 8 (fun gg s6 wr=>∃(kk:Nat) (us:List Xq),kk<=8/\8 - kk<=gg/\s6= Xe Xf kk/\Xo (Grew w wr)/\Xo (w.heap.size+2<=wr.heap.size)/\Xo (Box wr w.heap.size us)/\Xo (Box wr (w.heap.size+1) nil8)/\Xo (HalfT (w.heap.size+2) wr kk vs us t))
 case atStart=>exact⟨0,vs,nZ _,by omega,rfl,HG0.out,by rw[HS0.out];exact nR _,X0.out,Y0.out,⟨HL.out,fun i v h hi=>absurd hi (nL _),fun i j u v hi=>absurd hi (nL _),HV.out.one⟩⟩
 obtain⟨kk,us,hkk,hg,rfl,BW,SW,XW,YW,HH⟩:=hrel
 by_cases hlt:kk<8
 ·have hltz:(kk:Int)<8:=by omega
  obtain⟨xa,xc,q,hq,hvk,hr⟩:=HV.out.half hlt;have HQ:Xo (t[kk]? =Xa q):=hq;have HVK:Xo (vs[kk]? =Xa (O xa q.length xc)):=hvk;have hcall:=cloneEntry_any (O xa q.length xc) q wr (hr.grew BW.out);clear hq hvk hr
  generalize q.length=nq at hcall HVK
  go_wp2_with (refine wp_half rfl (.tmp 5) (.tmp 6) rfl vs rfl kk rfl hlt HVK.out ?_)
  refine hcall.mono ?_;rintro e W2 ⟨v2,rfl,ow2,g2⟩;obtain⟨a2,c2,rfl⟩:=ow2.form;have O2:Xo (OwnRow enE wr.heap.size W2 (O a2 q.length c2) q):=ow2;have G2:Xo (Grew wr W2):=g2;have X2:=dD (XW.out.grew g2);clear ow2 g2 hcall
  generalize q.length=nb at O2⊢
  obtain⟨uk,huk⟩:∃uk,us[kk]? =Xa uk:=⟨_,gE (by rw[HH.out.len];exact hlt)⟩
  have x0:=X2.out.c kk huk;have xf:=X2.out.f;clear huk;go_wp2;have HH3:Xo (HalfT (w.heap.size+2) (W2.setCell ⟨w.heap.size,kk,Xb⟩ (O a2 nb c2)) (kk+1) vs (us.set kk (O a2 nb c2)) t):=HH.out.step HV.out.tlen G2.out hlt HQ.out O2.out SW.out (by simp) _
  have X3:Xo (Box (W2.setCell ⟨w.heap.size,kk,Xb⟩ (O a2 nb c2)) w.heap.size (us.set kk (O a2 nb c2))):=X2.out.set kk _;have Y3:Xo (Box (W2.setCell ⟨w.heap.size,kk,Xb⟩ (O a2 nb c2)) (w.heap.size+1) nil8):=(YW.out.grew G2.out).other (by simp) _
  have G3:Xo (Grew w (W2.setCell ⟨w.heap.size,kk,Xb⟩ (O a2 nb c2))):=show Grew _ _ from Below.setCell (BW.out.trans G2.out) (p:=⟨w.heap.size,kk,Xb⟩) (by simp) _
  have S3:Xo (w.heap.size+2<=(W2.setCell ⟨w.heap.size,kk,Xb⟩ (O a2 nb c2)).heap.size):=show _<=_ by
   have:=bS G2.out;have:=SW.out
   simp[World.setCell]
   omega
  go_roundg (8 -(kk+1))
  case measure=>omega
  exact⟨kk+1,_,by omega,by omega,by go_num,G3.out,S3.out,X3.out,Y3.out,HH3.out⟩
 have hltz:¬(kk:Int)<8:=by omega
 have:kk=8:=by omega
 subst this;have OA:Xo (OwnTab (w.heap.size+2) wr us t):=show OwnTab _ _ _ _ from⟨HH.out.len,HV.out.tlen,fun i v h hv' hh=>HH.out.own i v h (by rw[<-HH.out.len];exact(gS.1 hv').1) hv' hh,fun i j u v hij hu hv'=>HH.out.two i j u v (by rw[<-HH.out.len];exact(gS.1 hu).1) (by rw[<-HH.out.len];exact(gS.1 hv').1) hij hu hv'⟩
 go_wp2_with (first | refine wp_loadTab rfl (.tmp 1) rfl w.heap.size rfl XW.out HH.out.len ?_ | refine wp_storeAll rfl 74 (.tmp 2) (.tmp 15) rfl (w.heap.size+1) rfl us rfl YW.out HH.out.len Tryz.sizeTable HH.out.one ?_)
 intro W3 b3 g3 s3;have OB:Xo (OwnTab (w.heap.size+2) W3 us t):=show OwnTab _ _ _ _ from⟨OA.out.len,OA.out.tlen,fun i v h hv' hh=>(OA.out.row i v h hv' hh).grown g3 (fun g hg e=>by
  cases e;have:=((OA.out.row i v h hv' hh).lt _ hg).1
  omega),OA.out.two⟩
 have G3:Xo (Grew w W3):=show Grew _ _ from grew_grown BW.out g3 (by simp)
 have S3:Xo (w.heap.size+2<=W3.heap.size):=show _<=_ by rw[s3];exact SW.out
 have B3:Xo (Box W3 (w.heap.size+1) us):=b3;clear b3 g3 s3;go_wp2;refine bodyPost_ret (ret_cell rfl _ rfl B3.out Tryz.underlying74 rfl (by rw[HH.out.len];exact Tryz.sizeTable)) rfl ⟨us,rfl,OB.out,G3.out,S3.out⟩
def arv (a:Ar):List Xq:=[Xe Xf a.fr,Xe Xf a.tz,Xh a.rd,Xh a.wr,Xh a.sh,Xe Xf a.file,Xe Xf a.base]
def arA (a:Ar):Xq:= Xi #[Xe Xf a.fr,Xe Xf a.tz,Xh a.rd,Xh a.wr,Xh a.sh,Xe Xf a.file,Xe Xf a.base]
theorem Tryz.infoArea:(Tryz.prog.info? 125).map (fun i=>(i.zero,i.size,i.bytes))=Xa (Xa (Xi #[Xe Xf 0,Xe Xf 0,Xh Xd,Xh Xd,Xh Xd,Xe Xf 0,Xe Xf 0]),7,40):=by kernel_rfl
theorem Tryz.sizeArea:(Tryz.prog.info? 125).map (·.size)=Xa 7:=by kernel_rfl
theorem Tryz.sizeFault:(Tryz.prog.info? 186).map (·.size)=Xa 2:=by kernel_rfl
theorem Tryz.sizePgs:(Tryz.prog.info? 232).map (·.size)=Xa 448:=by kernel_rfl
def arE:Elt Ar where
 enc:=arv
 k:=7
 ty:=125
 st:=71
 bytes:=40
 zv:= Xi #[Xe Xf 0,Xe Xf 0,Xh Xd,Xh Xd,Xh Xd,Xe Xf 0,Xe Xf 0]
 zero:=ar0
 len:=fun _=>rfl
 one:=fun a u hu=>by
  simp only[arv,mC,nM,or_false]at hu
  rcases hu with rfl | rfl | rfl | rfl | rfl | rfl | rfl <;> rfl
 und:=Tryz.underlying71
 info:=Tryz.infoArea
 zok:=rfl
 few:=by decide
 pos:=by decide
def ArCells (W:Xn) (y:Addr) (e:Ar):Prop:=W.cell? y=Xa (Xe Xf e.fr)/\W.cell? { block:=y.block,off:=y.off+1 }=Xa (Xe Xf e.tz)/\W.cell? { block:=y.block,off:=y.off+2 }=Xa (Xh e.rd)/\W.cell? { block:=y.block,off:=y.off+3 }=Xa (Xh e.wr)/\W.cell? { block:=y.block,off:=y.off+4 }=Xa (Xh e.sh)/\W.cell? { block:=y.block,off:=y.off+5 }=Xa (Xe Xf e.file)/\W.cell? { block:=y.block,off:=y.off+6 }=Xa (Xe Xf e.base)
def ArRows (w:Xn) (a:Option Addr) (l:List Ar):Prop:=∀(j:Nat) e,l[j]? =Xa e->∃ad,a=Xa ad/\∀W,Grew w W->ArCells W (ad.add (j*7)) e
theorem RowAt.ars {w:Xn} {v:Xq} {l:List Ar} (h:RowAt arE w v l):∃a c,v= O a l.length c/\ArRows w a l:=by
 obtain⟨a,c,h1,h2⟩:=h.rows;refine⟨a,c,h1,fun j x hj=>?_⟩
 obtain⟨ad,h3,h4⟩:=h2 j x hj;exact⟨ad,h3,fun W hW=>⟨h4 W hW 0 _ rfl,h4 W hW 1 _ rfl,h4 W hW 2 _ rfl,h4 W hW 3 _ rfl,h4 W hW 4 _ rfl,h4 W hW 5 _ rfl,h4 W hW 6 _ rfl⟩⟩
def tab {α:Type} (f:Nat->α):List α:=(Xx 64).map f
theorem tab_len {α:Type} (f:Nat->α):(tab f).length=64:=by simp[tab]
theorem tab_at {α:Type} {f:Nat->α} {k:Nat} (h:k<64):(tab f)[k]? =Xa (f k):=by
 unfold tab;rw[Xw,Xs h];rfl
def upd {α:Type} (f:Nat->α) (k:Nat) (x:α):Nat->α:=fun j=>if j=k then x else f j
theorem tab_set {α:Type} (f:Nat->α) (k:Nat) (x:α):(tab f).set k x=tab (upd f k x):=by
 apply Yu
 intro j
 by_cases hj:j<64
 ·rw[tab_at hj];unfold upd
  by_cases e:j=k
  ·subst e;rw[sF (by rw[tab_len];exact hj),if_pos rfl]
  rw[sN (fun h=>e h.symm),tab_at hj,if_neg e]
 rw[gN (by simp[tab];omega),gN (by simp[tab];omega)]
def cellsA (l:List Ar):List Xq:=l.flatMap arv
theorem cellsA_len (l:List Ar):(cellsA l).length=l.length*7:=flatMap_len l (fun _ _=>rfl)
theorem cellsA_one (l:List Ar):∀v∈cellsA l,v.oneCell'=Xc:=flatMap_one arE.one l
def frmE:Elt Fr where
 enc:=frv
 k:=13
 ty:=93
 st:=27
 bytes:=40
 zv:=frz
 zero:=fr0
 len:=frv_len
 one:=frv_one
 und:=Tryz.underlying27
 info:=Tryz.infoFrame
 zok:=frz_ok
 few:=by decide
 pos:=by decide
def cav (c:Ca):List Xq:=[Xe Xf c.file,Xe Xf c.idx,Xe Xf c.fr]
theorem Tryz.infoCached:(Tryz.prog.info? 105).map (fun i=>(i.zero,i.size,i.bytes))=Xa (Xa (Xi #[Xe Xf 0,Xe Xf 0,Xe Xf 0]),3,24):=by kernel_rfl
def cchE:Elt Ca where
 enc:=cav
 k:=3
 ty:=105
 st:=39
 bytes:=24
 zv:= Xi #[Xe Xf 0,Xe Xf 0,Xe Xf 0]
 zero:=⟨0,0,0⟩
 len:=fun _=>rfl
 one:=fun a u hu=>by
  simp only[cav,mC,nM,or_false]at hu
  rcases hu with rfl | rfl | rfl <;> rfl
 und:=Tryz.underlying39
 info:=Tryz.infoCached
 zok:=rfl
 few:=by decide
 pos:=by decide
def CaCells (W:Xn) (y:Addr) (c:Ca):Prop:=W.cell? y=Xa (Xe Xf c.file)/\W.cell? { block:=y.block,off:=y.off+1 }=Xa (Xe Xf c.idx)/\W.cell? { block:=y.block,off:=y.off+2 }=Xa (Xe Xf c.fr)
def CaRows (w:Xn) (a:Option Addr) (l:List Ca):Prop:=∀(j:Nat) c,l[j]? =Xa c->∃ad,a=Xa ad/\∀W,Grew w W->CaCells W (ad.add (j*3)) c
theorem RowAt.cas {w:Xn} {v:Xq} {l:List Ca} (h:RowAt cchE w v l):∃a c,v= O a l.length c/\CaRows w a l:=by
 obtain⟨a,c,h1,h2⟩:=h.rows;refine⟨a,c,h1,fun j x hj=>?_⟩
 obtain⟨ad,h3,h4⟩:=h2 j x hj;exact⟨ad,h3,fun W hW=>⟨h4 W hW 0 _ rfl,h4 W hW 1 _ rfl,h4 W hW 2 _ rfl⟩⟩
structure Sli where
 a:Option Addr
 n:Nat
 c:Nat
def Sli.v (s:Sli):Xq:= O s.a s.n s.c
def sli0:Sli:=⟨Xb,0,0⟩
theorem RowAt.n {α:Type} {E:Elt α} {w:Xn} {a:Option Addr} {n c:Nat} {l:List α} (h:RowAt E w (O a n c) l):n=l.length:=by
 obtain⟨_,_,h1,_⟩:=h.rows;cases h1;rfl
structure SpV where
 live:Bool
 ar:Sli
 (t0 t1 t2 t3 t4 t5 t6 t7:Sli)
def SpV.tab (x:SpV):List Xq:=[x.t0.v,x.t1.v,x.t2.v,x.t3.v,x.t4.v,x.t5.v,x.t6.v,x.t7.v]
def spv (x:SpV):List Xq:=[Xh x.live,x.ar.v,x.t0.v,x.t1.v,x.t2.v,x.t3.v,x.t4.v,x.t5.v,x.t6.v,x.t7.v]
def spz:Xq:= Xi #[Xh Xd,O Xb 0 0,O Xb 0 0,O Xb 0 0,O Xb 0 0,O Xb 0 0,O Xb 0 0,O Xb 0 0,O Xb 0 0,O Xb 0 0]
theorem Tryz.infoSpace:(Tryz.prog.info? 76).map (fun i=>(i.zero,i.size,i.bytes))=Xa (Xa spz,10,224):=by kernel_rfl
def spcE:Elt SpV where
 enc:=spv
 k:=10
 ty:=76
 st:=40
 bytes:=224
 zv:=spz
 zero:=⟨Xd,sli0,sli0,sli0,sli0,sli0,sli0,sli0,sli0,sli0⟩
 len:=fun _=>rfl
 one:=fun a u hu=>by
  simp only[spv,mC,nM,or_false]at hu
  rcases hu with rfl | rfl | rfl | rfl | rfl | rfl | rfl | rfl | rfl | rfl <;> rfl
 und:=Tryz.underlying40
 info:=Tryz.infoSpace
 zok:=rfl
 few:=by decide
 pos:=by decide
structure SpaceAt (w:Xn) (x:SpV) (s:Sp):Prop where
 live:x.live=s.live
 ar:RowAt arE w (O x.ar.a x.ar.n x.ar.c) s.ars
 cap:x.ar.n<=x.ar.c
 tb:TabAt w x.tab s.tb
theorem SpaceAt.grew {w w':Xn} {x:SpV} {s:Sp} (h:SpaceAt w x s) (k:Grew w w'):SpaceAt w' x s:=⟨h.live,h.ar.grew k,h.cap,h.tb.grew k⟩
def SpacesAt (w:Xn) (v:Xq) (ss:List Sp):Prop:=∃xs:List SpV,RowAt spcE w v xs/\xs.length=ss.length/\∀(i:Nat) x s,xs[i]? =Xa x->ss[i]? =Xa s->SpaceAt w x s
theorem SpacesAt.grew {w w':Xn} {v:Xq} {ss:List Sp} (h:SpacesAt w v ss) (k:Grew w w'):SpacesAt w' v ss:=by
 obtain⟨xs,h1,h2,h3⟩:=h;exact⟨xs,h1.grew k,h2,fun i x s hx hs=>(h3 i x s hx hs).grew k⟩
structure MaV where
 (f s sb sq db dq fl ca sp:Sli)
structure MachAt (w:Xn) (V:MaV) (m:Ma):Prop where
 fs:RowAt frmE w (O V.f.a V.f.n V.f.c) m.fs
 sl:RowAt slE w (O V.s.a V.s.n V.s.c) m.sl
 sb:PagesAt w (O V.sb.a V.sb.n V.sb.c) m.sb
 sq:PutsAt w (O V.sq.a V.sq.n V.sq.c) m.sq
 db:PagesAt w (O V.db.a V.db.n V.db.c) m.db
 dq:PutsAt w (O V.dq.a V.dq.n V.dq.c) m.dq
 fl:FilesAt w (O V.fl.a V.fl.n V.fl.c) m.fl
 ca:RowAt cchE w (O V.ca.a V.ca.n V.ca.c) m.ca
 sp:SpacesAt w (O V.sp.a V.sp.n V.sp.c) m.sp
theorem MachAt.grew {w w':Xn} {V:MaV} {m:Ma} (h:MachAt w V m) (k:Grew w w'):MachAt w' V m:=⟨h.fs.grew k,h.sl.grew k,h.sb.grew k,h.sq.grew k,h.db.grew k,h.dq.grew k,FilesS.grew h.fl k,h.ca.grew k,h.sp.grew k⟩
theorem PagesAt.n {w:Xn} {a:Option Addr} {n c:Nat} {l:List (List Int)} (h:PagesAt w (O a n c) l):n=l.length:=by
 obtain⟨⟨_,_,h1,_⟩,_⟩:=h;cases h1;rfl
theorem PutsAt.n {w:Xn} {a:Option Addr} {n c:Nat} {l:List (Int × List Int)} (h:PutsAt w (O a n c) l):n=l.length:=by
 obtain⟨⟨_,_,h1,_⟩,_⟩:=h;cases h1;rfl
theorem FilesAt.n {w:Xn} {a:Option Addr} {n c:Nat} {l:List Fl} (h:FilesAt w (O a n c) l):n=l.length:=by
 obtain⟨_,xs,k1,k2,_⟩:=h;rw[k1.now.n,k2]
theorem SpacesAt.n {w:Xn} {a:Option Addr} {n c:Nat} {l:List Sp} (h:SpacesAt w (O a n c) l):n=l.length:=by
 obtain⟨xs,k1,k2,_⟩:=h;rw[k1.n,k2]
theorem MachAt.ns {w:Xn} {V:MaV} {m:Ma} (h:MachAt w V m):V.f.n=m.fs.length/\V.s.n=m.sl.length/\V.sb.n=m.sb.length/\V.sq.n=m.sq.length/\V.db.n=m.db.length/\V.dq.n=m.dq.length/\V.fl.n=m.fl.length/\V.ca.n=m.ca.length/\V.sp.n=m.sp.length:=
 ⟨h.fs.n,h.sl.n,h.sb.n,h.sq.n,h.db.n,h.dq.n,FilesAt.n h.fl,h.ca.n,h.sp.n⟩
theorem RowAt.rowsAt {α:Type} {E:Elt α} {w:Xn} {a:Option Addr} {n c:Nat} {l:List α} (h:RowAt E w (O a n c) l):RowsAt E w a l:=by
 obtain⟨_,_,h1,h2⟩:=h.rows;cases h1;exact h2
theorem MachAt.frs {w:Xn} {V:MaV} {m:Ma} (h:MachAt w V m):FrRows w V.f.a m.fs:=fun j x hj=>by
 obtain⟨ad,h3,h4⟩:=h.fs.rowsAt j x hj;exact⟨ad,h3,fun W hW=>(h4 W hW).fr⟩
theorem MachAt.cas {w:Xn} {V:MaV} {m:Ma} (h:MachAt w V m):CaRows w V.ca.a m.ca:=by
 obtain⟨_,_,h1,h2⟩:=h.ca.cas;simp only[vJ]at h1;rw[h1.1];exact h2
theorem MachAt.sls {w:Xn} {V:MaV} {m:Ma} (h:MachAt w V m):SlRows w V.s.a m.sl:=by
 obtain⟨_,_,h1,h2⟩:=h.sl.sls;simp only[vJ]at h1;rw[h1.1];exact h2
theorem MachAt.pgs {w:Xn} {V:MaV} {m:Ma} (h:MachAt w V m):PageRows w V.db.a m.db:=by
 obtain⟨_,_,h1,h2⟩:=h.db.rows;simp only[vJ]at h1;rw[h1.1];exact h2
theorem MachAt.puts {w:Xn} {V:MaV} {m:Ma} (h:MachAt w V m):PutRows w V.dq.a m.dq:=by
 obtain⟨_,_,h1,h2⟩:=h.dq.rows;simp only[vJ]at h1;rw[h1.1];exact h2
theorem cloneCa_any (v:Xq) (fs:List Ca) (w:Xn) (hv:RowAt cchE w v fs):
  Xp Tryz.prog 55 #[v] w fun e w'=>∃v',e= Xl v'/\OwnRow cchE w.heap.size w' v' fs/\Grew w w':=by
 have HV:Xo (RowAt cchE w v fs):=hv;obtain⟨⟨a,c,rfl,hnone,hcells⟩,hbytes⟩:=hv;have q22:∀(w:Xn) (a:Option Addr) (n c n' c':Nat),(binOp .eql 39 (O a n c) (O Xb n' c')).run Tryz.prog w= .ok (Xh a.isNone) w:=fun w a n c n' c'=>Lib.run_eql_slice_nil w _ _ a n c n' c' Tryz.underlying39
 cases a with
 | none=>
  have hps:=hnone rfl;subst hps;clear hcells hnone hbytes HV
  go_enter Tryz.func55,Tryz.ntmps55
  go_wp2;go_ret;exact⟨_,rfl,OwnRow.nil _ _ _,Grew.refl w⟩
 | some x=>
  have HB:Xo (fs.length*24<=140737488355328):=hbytes;clear hcells hnone hbytes
  go_enter Tryz.func55,Tryz.ntmps55
  go_wp2_with (at_builtin;refine wpList_append_row (E:=cchE) rfl (.tmp 5) (.tmp 6) rfl w.heap.size _ [] rfl (OwnRow.made cchE w) _ fs rfl (HV.out.grew (grew_alloc _ _)) ?qb (by simp) ?_)
  case qb=>rw[Yc,zA];exact HB.out
  intro v' w1 hown hgrow;go_wp2;go_ret;exact⟨v',rfl,by simpa using hown,((bR _ w).alloc (nR _) _).grown hgrow (by simp) (by intro k hk;simp[Value.ownBlock]at hk;omega)⟩
theorem cloneSp_any (v:Xq) (fs:List SpV) (w:Xn) (hv:RowAt spcE w v fs):
  Xp Tryz.prog 103 #[v] w fun e w'=>∃v',e= Xl v'/\OwnRow spcE w.heap.size w' v' fs/\Grew w w':=by
 have HV:Xo (RowAt spcE w v fs):=hv;obtain⟨⟨a,c,rfl,hnone,hcells⟩,hbytes⟩:=hv;have q22:∀(w:Xn) (a:Option Addr) (n c n' c':Nat),(binOp .eql 40 (O a n c) (O Xb n' c')).run Tryz.prog w= .ok (Xh a.isNone) w:=fun w a n c n' c'=>Lib.run_eql_slice_nil w _ _ a n c n' c' Tryz.underlying40
 cases a with
 | none=>
  have hps:=hnone rfl;subst hps;clear hcells hnone hbytes HV
  go_enter Tryz.func103,Tryz.ntmps103
  go_wp2;go_ret;exact⟨_,rfl,OwnRow.nil _ _ _,Grew.refl w⟩
 | some x=>
  have HB:Xo (fs.length*224<=140737488355328):=hbytes;clear hcells hnone hbytes
  go_enter Tryz.func103,Tryz.ntmps103
  go_wp2_with (at_builtin;refine wpList_append_row (E:=spcE) rfl (.tmp 5) (.tmp 6) rfl w.heap.size _ [] rfl (OwnRow.made spcE w) _ fs rfl (HV.out.grew (grew_alloc _ _)) ?qb (by simp) ?_)
  case qb=>rw[Yc,zA];exact HB.out
  intro v' w1 hown hgrow;go_wp2;go_ret;exact⟨v',rfl,by simpa using hown,((bR _ w).alloc (nR _) _).grown hgrow (by simp) (by intro k hk;simp[Value.ownBlock]at hk;omega)⟩
theorem cloneAr_any (v:Xq) (fs:List Ar) (w:Xn) (hv:RowAt arE w v fs):
  Xp Tryz.prog 104 #[v] w fun e w'=>∃v',e= Xl v'/\OwnRow arE w.heap.size w' v' fs/\Grew w w':=by
 have HV:Xo (RowAt arE w v fs):=hv;obtain⟨⟨a,c,rfl,hnone,hcells⟩,hbytes⟩:=hv;have q22:∀(w:Xn) (a:Option Addr) (n c n' c':Nat),(binOp .eql 71 (O a n c) (O Xb n' c')).run Tryz.prog w= .ok (Xh a.isNone) w:=fun w a n c n' c'=>Lib.run_eql_slice_nil w _ _ a n c n' c' Tryz.underlying71
 cases a with
 | none=>
  have hps:=hnone rfl;subst hps;clear hcells hnone hbytes HV
  go_enter Tryz.func104,Tryz.ntmps104
  go_wp2;go_ret;exact⟨_,rfl,OwnRow.nil _ _ _,Grew.refl w⟩
 | some x=>
  have HB:Xo (fs.length*40<=140737488355328):=hbytes;clear hcells hnone hbytes
  go_enter Tryz.func104,Tryz.ntmps104
  go_wp2_with (at_builtin;refine wpList_append_row (E:=arE) rfl (.tmp 5) (.tmp 6) rfl w.heap.size _ [] rfl (OwnRow.made arE w) _ fs rfl (HV.out.grew (grew_alloc _ _)) ?qb (by simp) ?_)
  case qb=>rw[Yc,zA];exact HB.out
  intro v' w1 hown hgrow;go_wp2;go_ret;exact⟨v',rfl,by simpa using hown,((bR _ w).alloc (nR _) _).grown hgrow (by simp) (by intro k hk;simp[Value.ownBlock]at hk;omega)⟩
end
section
def FrShape (f:Fr):Prop:=0<=f.r/\(0<=f.x/\f.x<12)/\(f.f=-1\/(0<=f.f/\f.f<5))/\(f.r=0->f=frF)/\(f.f=-1->f.x=0)
theorem frW_shape {f:Fr} (h:FrShape f) (hr:f.r<=1000):frW f=0:=by
 obtain⟨h1,h2,h3,h4,h5⟩:=h;unfold frW;have e1:inB f.r 1001=Xc:=by simp[inB];omega
 have e2:inB f.x 12=Xc:=by simp[inB];omega
 rw[e1,e2,if_neg (by decide)]
 have e3:(!(f.f == -1) && !inB f.f 5)=Xd:=by
  rcases h3 with h | h
  ·simp[h]
  have:inB f.f 5=Xc:=by simp[inB];omega
  simp[this]
 rw[e3,if_neg (by decide)]
 have e4:(f.r == 0 && !frEqB f frF)=Xd:=by
  by_cases h0:f.r=0
  ·rw[(frEqB_iff f frF).2 (h4 h0)];simp
  simp[h0]
 have e5:(f.f == -1 && !(f.x == 0))=Xd:=by
  by_cases h0:f.f=-1
  ·simp[h5 h0]
  simp[h0]
 rw[e4,e5];rfl
theorem frsW_zero:∀{l:List Fr},frsW l=0↔∀f∈l,frW f=0
 | []=>by simp[frsW]
 | f :: l=>by
  unfold frsW
  by_cases h:frW f=0
  ·rw[if_pos h,frsW_zero]
   simp[h]
  rw[if_neg h]
  simp[h]
def EntOk (m:Ma) (x:On) (e:En):Prop:=enW e=0/\e.kind≠0/\entE m x e=0
structure BInv (m:Ma) (T:List (Nat->En)):Prop where
 fs40:m.fs.length<=40
 fok:∀f∈m.fs,FrShape f
 sl60:m.sl.length<=60
 sbl:m.sb.length=m.sl.length
 sq:wrongL m.sb.length m.sq=0
 dok:wrongL m.db.length m.dq=0
 st:stW m.fl m.cnt=0
 cnt:m.cnt=(m.db.length:Int)
 blk:∀b:Nat,b<m.db.length->usedB m.fl (b:Int)=Xd->m.db[b]? =Xa zero8
 que:∀q∈m.dq,usedB m.fl q.1=Xc
 spl:m.sp.length<=4
 spok:∀s∈m.sp,(wrL s.ars).1=0/\(s.live=Xd->s.ars=[])
 tl:T.length=m.sp.length
 ca:caGo m Xb m.ca=0
 ent:∀(p:Nat) s f,m.sp[p]? =Xa s->T[p]? =Xa f->∀n:Nat,n<64->f n=en0\/EntOk m (onAt s.ars n) (f n)
 cf:∀(k:Nat) f,m.fs[k]? =Xa f->f.r=((holdN T 1 k+cachedN m.ca k:Nat):Int)/\(0<=f.f->cachedN m.ca k≠0)
 cs:∀(k:Nat) z,m.sl[k]? =Xa z->z=(holdN T 2 k:Int)
theorem caGo_zero {m:Ma}:∀{l:List Ca} {p:Option Ca},caGo m p l=0↔(∀c∈l,caE m Xb c=0)/\(∀q c,p=Xa q->c∈l->keyC q<keyC c)/\l.Pairwise (fun a b=>keyC a<keyC b)
 | [],p=>by simp[caGo]
 | c :: l,p=>by
  unfold caGo;have hc:caE m p c=0↔caE m Xb c=0/\∀q,p=Xa q->keyC q<keyC c:=by
   unfold caE
   by_cases h1:c.file<0\/(m.fl.length:Int)<=c.file\/c.idx<0\/bkN m c.file<=c.idx\/c.fr<0\/(m.fs.length:Int)<=c.fr
   ·rw[if_pos h1,if_pos h1];simp
   rw[if_neg h1,if_neg h1]
   by_cases h2:(frAt m c.fr).r=0\/(frAt m c.fr).f≠c.file\/(frAt m c.fr).x≠c.idx
   ·rw[if_pos h2,if_pos h2];simp
   rw[if_neg h2,if_neg h2]
   cases p with
   | none=>simp
   | some q=>
    simp only[Option.some.injEq,forall_eq',true_and]
    by_cases h3:keyC c<=keyC q
    ·rw[if_pos h3];constructor
     ·intro h;cases h
     intro h;omega
    rw[if_neg h3];simp;omega
  by_cases h:caE m p c=0
  ·rw[if_pos h,caGo_zero];obtain⟨g1,g2⟩:=hc.1 h;constructor
   ·rintro⟨a1,a2,a3⟩;refine⟨?_,?_,?_⟩
    ·intro x hx
     rcases mC.1 hx with rfl | hx
     ·exact g1
     exact a1 x hx
    ·intro q x hq hx
     rcases mC.1 hx with rfl | hx
     ·exact g2 q hq
     have:=g2 q hq;have:=a2 c x rfl hx;omega
    exact Xz.2 ⟨fun x hx=>a2 c x rfl hx,a3⟩
   rintro⟨a1,a2,a3⟩;obtain⟨b1,b2⟩:=Xz.1 a3;exact⟨fun x hx=>a1 x (by simp[hx]),fun q x hq hx=>by cases hq;exact b1 x hx,b2⟩
  rw[if_neg h];constructor
  ·intro h';exact absurd h' h
  rintro⟨a1,a2,a3⟩;exact absurd (hc.2 ⟨a1 c (by simp),fun q hq=>a2 q c hq (by simp)⟩) h
theorem caE_ok {m:Ma} {c:Ca} (h:caE m Xb c=0):(0<=c.file/\c.file<m.fl.length/\0<=c.idx/\c.idx<bkN m c.file/\0<=c.fr/\c.fr<m.fs.length)/\(frAt m c.fr).r≠0/\(frAt m c.fr).f=c.file/\(frAt m c.fr).x=c.idx:=by
 unfold caE at h
 split at h
 ·cases h
 split at h
 ·cases h
 rename_i h1 h2
 refine⟨by omega,fun h=>h2 (.inl h),?_,?_⟩
 ·exact Classical.byContradiction fun h=>h2 (.inr (.inl h))
 exact Classical.byContradiction fun h=>h2 (.inr (.inr h))
theorem caE_of {m:Ma} {c:Ca} (h1:0<=c.file/\c.file<m.fl.length/\0<=c.idx/\c.idx<bkN m c.file/\0<=c.fr/\c.fr<m.fs.length) (h2:(frAt m c.fr).r≠0) (h3:(frAt m c.fr).f=c.file) (h4:(frAt m c.fr).x=c.idx):caE m Xb c=0:=by
 unfold caE;rw[if_neg (by omega),if_neg (by rintro(h | h | h);exact h2 h;exact h h3;exact h h4)]
theorem cached_one {m:Ma} (h:caGo m Xb m.ca=0) (k:Int):cachedN m.ca k<=1:=by
 obtain⟨h1,_,h3⟩:=caGo_zero.1 h;have key:∀(l:List Ca),(∀c∈l,caE m Xb c=0)->l.Pairwise (fun a b=>keyC a<keyC b)->cachedN l k<=1:=by
  intro l
  induction l with
  | nil=>intro _ _;simp[cachedN]
  | cons c l ih=>
   intro a1 a2;obtain⟨b1,b2⟩:=Xz.1 a2;have ih':=ih (fun x hx=>a1 x (by simp[hx])) b2
   unfold cachedN at ih'⊢;rw[List.countP_cons]
   by_cases hc:c.fr=k
   ·have:l.countP (fun c=>decide (c.fr=k))=0:=by
     rw[Yn];intro x hx hxk;have hxk':x.fr=k:=by simpa using hxk
     have e1:=caE_ok (a1 c (by simp))
     have e2:=caE_ok (a1 x (by simp[hx]))
     have hl:=b1 x hx;rw[hc]at e1;rw[hxk']at e2;unfold keyC at hl;have:=e1.2.2.1;have:=e1.2.2.2;have:=e2.2.2.1;have:=e2.2.2.2;omega
    rw[this]
    simp[hc]
   simp[hc]
   exact ih'
 exact key m.ca h1 h3
theorem cached_pos {ca:List Ca} {c:Ca} (h:c∈ca):cachedN ca c.fr≠0:=by
 unfold cachedN;intro h0;rw[Yn]at h0;exact h0 c h (by simp)
theorem cached_mem {ca:List Ca} {k:Int} (h:cachedN ca k≠0):∃c∈ca,c.fr=k:=by
 unfold cachedN at h;have:0<ca.countP fun c=>decide (c.fr=k):=Nat.pos_of_ne_zero h
 rw[Yo]at this;obtain⟨c,h1,h2⟩:=this;exact⟨c,h1,by simpa using h2⟩
def tabOf (f:Nat->En):List (List En):=tableOf ((Xx 64).map f)
def finish (m:Ma) (T:List (Nat->En)) (h:Int):Ma:={ m with hand:=h,sp:=Yj (fun s f=>{ s with tb:=tabOf f }) m.sp T }
theorem tabOf_at {f:Nat->En} (h:∀n,n<64->enW (f n)=0) {n:Nat} (hn:n<64):getN (tabOf f) (n / 8) (n % 8)=f n:=by
 unfold tabOf getN tableOf;rw[Xw,Xs (by omega)]
 simp only[Option.map_some,Option.getD_some];have hc:∀e∈chunk ((Xx 64).map f) (n / 8),enW e=0:=by
  intro e he;unfold chunk at he;obtain⟨k,hk,rfl⟩:=Xv.1 he;rw[Xu]at hk;rw[Xw,Xs (by omega)]
  exact h _ (by omega)
 rw[mk_get _ hc];unfold chunk;rw[Xw,Xs (by omega)]
 simp only[Option.map_some,Option.getD_some];rw[Xw,Xs (by omega)]
 simp only[Option.map_some,Option.getD_some]
 congr 1
 omega
theorem tabOf_ok {f:Nat->En} (h:∀n,n<64->enW (f n)=0):tbW (tabOf f)=0:=by
 rw[tbW_zero];intro x hx;unfold tabOf tableOf at hx;obtain⟨i,hi,rfl⟩:=Xv.1 hx;rw[Xu]at hi;refine mk_ok (by simp[chunk]) ?_
 intro e he;unfold chunk at he;obtain⟨k,hk,rfl⟩:=Xv.1 he;rw[Xu]at hk;rw[Xw,Xs (by omega)]
 exact h _ (by omega)
theorem tabOf_empty {f:Nat->En} (h:∀n,n<64->f n=en0):(tabOf f).all (·.isEmpty)=Xc:=by
 rw[List.all_eq_true];intro x hx;unfold tabOf tableOf at hx;obtain⟨i,hi,rfl⟩:=Xv.1 hx;rw[Xu]at hi;have:anyS (chunk ((Xx 64).map f) i)=Xd:=by
  unfold anyS;rw[Yv];intro e he;unfold chunk at he;obtain⟨k,hk,rfl⟩:=Xv.1 he;rw[Xu]at hk;rw[Xw,Xs (by omega)]
  simp only[Option.map_some,Option.getD_some];rw[h _ (by omega)]
  decide
 unfold mk;rw[if_neg (by rw[this];decide)]
 rfl
theorem cnt_congr {f g:Nat->En} (kind k:Int):∀{m:Nat},(∀n,n<m->f n=g n)->cntTo f kind k m=cntTo g kind k m
 | 0,_=>rfl
 | m+1,h=>by
  unfold cntTo;rw[cnt_congr kind k (fun n hn=>h n (by omega)),h m (by omega)]
section
variable{m:Ma} {T:List (Nat->En)}
theorem BInv.en (h:BInv m T) {p:Nat} {f:Nat->En} (hT:T[p]? =Xa f) {n:Nat} (hn:n<64):enW (f n)=0:=by
 have hp:p<m.sp.length:=by rw[<-h.tl];exact(gS.1 hT).1
 rcases h.ent p _ f (gE hp) hT n hn with h1 | h1
 ·rw[h1];exact enW_0
 exact h1.1
theorem fin_sp (h:BInv m T) (hd:Int) {p:Nat} {s:Sp} (hs:(finish m T hd).sp[p]? =Xa s):∃s0 f,m.sp[p]? =Xa s0/\T[p]? =Xa f/\s={ s0 with tb:=tabOf f }:=by
 unfold finish at hs;simp only[List.getElem?_zipWith]at hs;have hp:p<m.sp.length:=by
  rcases Nat.lt_or_ge p m.sp.length with h1 | h1
  ·exact h1
  rw[gN h1]at hs;cases hs
 have hq:p<T.length:=by rw[h.tl];exact hp
 rw[gE hp,gE hq]at hs;simp only[Option.some.injEq]at hs;exact⟨_,_,gE hp,gE hq,hs.symm⟩
theorem fin_hold (h:BInv m T) (hd:Int) (kind k:Int):holders (finish m T hd) kind k=holdN T kind k:=by
 have key:∀(S:List Sp) (T:List (Nat->En)),T.length=S.length->(∀(p:Nat) f,T[p]? =Xa f->∀n,n<64->enW (f n)=0)->holdN ((Yj (fun s f=>({ s with tb:=tabOf f }:Sp)) S T).map flatN) kind k=holdN T kind k:=by
  intro S
  induction S with
  | nil=>intro T hl _;rw[List.length_eq_zero_iff.1 hl];rfl
  | cons s S ih=>
   intro T hl he
   cases T with
   | nil=>simp at hl
   | cons f T=>
    have h1:=ih T (by simpa using hl) (fun p g hg=>he (p+1) g (by simpa using hg))
    have h2:cntTo (flatN { s with tb:=tabOf f }) kind k 64=cntTo f kind k 64:=cnt_congr kind k fun n hn=>by
     unfold flatN;exact tabOf_at (he 0 f rfl) hn
    simp only[Yk,mP,holdN,List.sum_cons]at h1⊢;rw[h1,h2]
 exact key m.sp T h.tl fun p f hf n hn=>h.en hf hn
theorem BInv.right (h:BInv m T) {hd:Int} (h0:0<=hd) (h1:hd<max (m.fs.length:Int) 1):maW (finish m T hd)=0:=by
 have hT4:T.length<=4:=by rw[h.tl];exact h.spl
 unfold maW;rw[firstE_zero];intro e he;simp only[mC,nM,or_false]at he
 rcases he with rfl | rfl | rfl | rfl | rfl
 ·unfold partE;rw[firstE_zero];intro e he;simp only[mC,nM,or_false]at he
  rcases he with rfl | rfl | rfl | rfl | rfl | rfl | rfl | rfl | rfl | rfl
  ·show memW m.fs hd=0
   unfold memW;have hfs:frsW m.fs=0:=frsW_zero.2 fun f hf=>by
    obtain⟨k,hk⟩:=Xt hf;refine frW_shape (h.fok f hf) ?_;rw[(h.cf k f hk).1];have:=hold_le T 1 k;have:=cached_one h.ca k;omega
   rw[if_neg (by have:=h.fs40;omega),if_pos hfs,if_pos]
   simp[inB]
   omega
  ·show slW m.sl=0
   unfold slW;rw[if_neg (by have:=h.sl60;omega),if_neg]
   rw[Xy];rintro⟨z,hz,hb⟩;obtain⟨k,hk⟩:=Xt hz;have h2:=h.cs k z hk;have:=hold_le T 2 k;unfold badS at hb
   simp at hb
   omega
  ·exact h.sq
  ·exact h.dok
  ·exact h.st
  ·show fitE m=0
   unfold fitE;rw[if_neg];have:=h.sbl;have:=h.cnt;omega
  ·show blockE m=0
   unfold blockE;rw[if_neg];rw[Xy];rintro⟨b,hb,hx⟩;rw[Xu]at hb;simp only[Ya,Bool.not_eq_true']at hx;have:=h.blk b hb hx.1;rw[gD,this]at hx
   simp at hx
  ·show queueE m=0
   unfold queueE;rw[if_neg];rw[Xy];rintro⟨q,hq,hx⟩;rw[h.que q hq]at hx;cases hx
  ·have:(finish m T hd).sp.length<=4:=by
    unfold finish;simp;have:=h.spl;omega
   rw[if_neg (by omega)]
  rw[firstE_zero];intro e he;obtain⟨s,hs,rfl⟩:=Xv.1 he;obtain⟨p,hp⟩:=Xt hs;obtain⟨s0,f,a1,a2,rfl⟩:=fin_sp h hd hp;have hok:=h.spok s0 (mG a1);unfold spE;simp only;rw[if_neg (fun h=>h hok.1),if_neg (fun h'=>h' (tabOf_ok fun n hn=>h.en a2 hn)),if_neg]
  intro hx;rw[Ya]at hx;have hlive:s0.live=Xd:=by simpa using hx.1
  have hars:=hok.2 hlive;have hemp:(tabOf f).all (·.isEmpty)=Xc:=tabOf_empty fun n hn=>by
   rcases h.ent p s0 f a1 a2 n hn with e | e
   ·exact e
   have:=e.2.2;unfold entE at this;rw[hars,if_pos (show(onAt [] n).is=Xd from rfl)]at this
   cases this
  rw[hars,hemp]at hx
  simp at hx
 ·obtain⟨a1,a2,a3⟩:=caGo_zero.1 h.ca;exact caGo_zero.2 ⟨fun c hc=>a1 c hc,fun q c hq=>(by cases hq),a3⟩
 ·rw[firstE_zero];intro e he;obtain⟨s,hs,rfl⟩:=Xv.1 he;obtain⟨p,hp⟩:=Xt hs;obtain⟨s0,f,a1,a2,rfl⟩:=fin_sp h hd hp;unfold spEnt;rw[firstE_zero];intro e he;obtain⟨n,hn,rfl⟩:=Xv.1 he;rw[Xu]at hn;have hf:flatN { s0 with tb:=tabOf f } n=f n:=by
   unfold flatN;exact tabOf_at (fun n hn=>h.en a2 hn) hn
  rw[hf]
  rcases h.ent p s0 f a1 a2 n hn with h2 | h2
  ·rw[h2,if_pos (show en0.kind=0 from rfl)]
  rw[if_neg h2.2.1];exact h2.2.2
 ·rw[firstE_zero];intro e he;obtain⟨k,hk,rfl⟩:=Xv.1 he;rw[Xu]at hk;have hk':k<m.fs.length:=hk;have hf:=h.cf k _ (gE hk');unfold frE;rw[fin_hold h hd];have e1:frAt (finish m T hd) k=m.fs[k]:=by
   show m.fs.getD (k:Int).toNat frF=_
   rw[tN,gD,gE hk'];rfl
  rw[e1,if_neg];rintro(h2 | ⟨h2,h3⟩)
  ·exact h2 hf.1
  exact hf.2 h2 h3
 rw[firstE_zero];intro e he;obtain⟨k,hk,rfl⟩:=Xv.1 he;rw[Xu]at hk;have hk':k<m.sl.length:=hk;have hs:=h.cs k _ (gE hk');unfold sloE;rw[fin_hold h hd];have e1:(finish m T hd).sl.getD k 0=m.sl[k]:=by
  show m.sl.getD k 0=_
  rw[gD,gE hk'];rfl
 rw[e1,if_neg (fun h2=>h2 hs)]
def flats (m:Ma):List (Nat->En):=m.sp.map flatN
theorem right_inv {m:Ma} (h:maW m=0):BInv m (flats m)/\0<=m.hand/\m.hand<max (m.fs.length:Int) 1:=by
 unfold maW at h;rw[firstE_zero]at h;have h1:partE m=0:=h _ (by simp)
 have h2:caGo m Xb m.ca=0:=h _ (by simp)
 have h3:=firstE_zero.1 (h (firstE (m.sp.map (spEnt m))) (by simp))
 have h4:=firstE_zero.1 (h (firstE ((Xx m.fs.length).map (frE m))) (by simp))
 have h5:=firstE_zero.1 (h (firstE ((Xx m.sl.length).map (sloE m))) (by simp))
 unfold partE at h1;rw[firstE_zero]at h1;have p1:memW m.fs m.hand=0:=h1 _ (by simp)
 have p2:slW m.sl=0:=h1 _ (by simp)
 have p3:wrongL m.sb.length m.sq=0:=h1 _ (by simp)
 have p4:wrongL m.db.length m.dq=0:=h1 _ (by simp)
 have p5:stW m.fl m.cnt=0:=h1 _ (by simp)
 have p6:fitE m=0:=h1 _ (by simp)
 have p7:blockE m=0:=h1 _ (by simp)
 have p8:queueE m=0:=h1 _ (by simp)
 have p9:(if 4<m.sp.length then(4:Int)else 0)=0:=h1 _ (by simp)
 have p10:=firstE_zero.1 (h1 (firstE (m.sp.map spE)) (by simp))
 have m1:m.fs.length<=40/\frsW m.fs=0/\0<=m.hand/\m.hand<max (m.fs.length:Int) 1:=by
  unfold memW at p1
  split at p1
  ·cases p1
  split at p1
  ·rename_i a b
   split at p1
   ·rename_i c
    unfold inB at c
    simp at c
    exact⟨by omega,b,by omega,by omega⟩
   cases p1
  rename_i a b
  exact absurd p1 b
 have s1:m.sl.length<=60:=by
  unfold slW at p2
  split at p2
  ·cases p2
  omega
 have f1:m.sl.length=m.sb.length/\m.cnt=(m.db.length:Int):=by
  unfold fitE at p6
  split at p6
  ·cases p6
  rename_i a
  constructor
  ·exact Classical.byContradiction fun h=>a (.inl h)
  exact Classical.byContradiction fun h=>a (.inr h)
 refine⟨⟨m1.1,fun f hf=>?_,s1,f1.1.symm,p3,p4,p5,f1.2,fun b hb hu=>?_,fun q hq=>?_,?_,fun s hs=>?_,by simp[flats],h2,fun p s f hs hT n hn=>?_,fun k f hk=>?_,fun k z hk=>?_⟩,m1.2.2.1,m1.2.2.2⟩
 ·have hw:=frsW_zero.1 m1.2.1 f hf;unfold frW at hw
  split at hw
  ·cases hw
  rename_i a1
  split at hw
  ·cases hw
  rename_i a2
  split at hw
  ·cases hw
  rename_i a3
  have b1:inB f.r 1001=Xc/\inB f.x 12=Xc:=by
   cases e1:inB f.r 1001 <;> cases e2:inB f.x 12 <;> simp[e1,e2]at a1⊢
  have b2:f.f=-1\/inB f.f 5=Xc:=by
   by_cases e:f.f=-1
   ·exact .inl e
   right
   cases e2:inB f.f 5 with
   | true=>rfl
   | false=>simp[e,e2]at a2
  have b3:(f.r=0->f=frF)/\(f.f=-1->f.x=0):=by
   constructor
   ·intro e
    cases e2:frEqB f frF with
    | true=>exact(frEqB_iff f frF).1 e2
    | false=>simp[e,e2]at a3
   intro e
   by_cases e2:f.x=0
   ·exact e2
   simp[e,e2]at a3
  unfold inB at b1 b2
  simp at b1 b2
  exact⟨by omega,by omega,by omega,b3.1,b3.2⟩
 ·unfold blockE at p7
  split at p7
  ·cases p7
  rename_i a
  have:¬(!usedB m.fl (b:Int) && !(m.db.getD b [] == zero8))=Xc:=fun h=>a (Xy.2 ⟨b,Xu.2 hb,h⟩)
  rw[hu,gD,gE hb]at this;rw[gE hb]
  simp at this
  rw[this]
 ·unfold queueE at p8
  split at p8
  ·cases p8
  rename_i a
  cases e:usedB m.fl q.1 with
  | true=>rfl
  | false=>exact absurd (Xy.2 ⟨q,hq,by simp[e]⟩) a
 ·split at p9
  ·cases p9
  omega
 ·have hs0:=p10 (spE s) (Xv.2 ⟨s,hs,rfl⟩);unfold spE at hs0
  split at hs0
  ·rename_i a;exact absurd hs0 a
  rename_i a
  split at hs0
  ·rename_i b;exact absurd hs0 b
  split at hs0
  ·cases hs0
  rename_i c
  refine⟨by simpa using a,fun hl=>?_⟩
  rw[hl]at c
  cases e:s.ars with
  | nil=>rfl
  | cons x y=>rw[e]at c;simp at c
 ·unfold flats at hT;rw[Xw,hs]at hT;cases hT;have hmem:=mG hs;have hs0:=p10 (spE s) (Xv.2 ⟨s,hmem,rfl⟩);have htb:tbW s.tb=0:=by
   unfold spE at hs0
   split at hs0
   ·rename_i a;exact absurd hs0 a
   split at hs0
   ·rename_i b;exact absurd hs0 b
   rename_i b;simpa using b
  have hen:enW (flatN s n)=0:=by
   unfold flatN getN;have hall:=tbW_zero.1 htb;have:HaOk (s.tb[n / 8]?.getD []):=by
    cases e:s.tb[n / 8]? with
    | none=>exact .inl rfl
    | some x=>exact hall x (mG e)
   exact this.get (n % 8)
  have h6:=firstE_zero.1 (h3 (spEnt m s) (Xv.2 ⟨s,hmem,rfl⟩)) _ (Xv.2 ⟨n,Xu.2 hn,rfl⟩)
  by_cases hk:(flatN s n).kind=0
  ·left;exact en_none hen (by simp[enS,hk])
  right;rw[if_neg hk]at h6;exact⟨hen,hk,h6⟩
 ·have hkl:=(gS.1 hk).1;have:=h4 (frE m k) (Xv.2 ⟨k,Xu.2 hkl,rfl⟩);unfold frE at this;have e1:frAt m k=f:=by unfold frAt;rw[tN,gD,hk];rfl
  rw[e1]at this
  split at this
  ·cases this
  rename_i a
  refine⟨Classical.byContradiction fun h=>a (.inl h),fun h1 h2=>a (.inr ⟨h1,h2⟩)⟩
 have hkl:=(gS.1 hk).1;have:=h5 (sloE m k) (Xv.2 ⟨k,Xu.2 hkl,rfl⟩);unfold sloE at this;rw[gD,hk]at this
 split at this
 ·cases this
 rename_i a
 exact Classical.byContradiction fun h=>a h
end
section
variable{m:Ma} {T:List (Nat->En)}
theorem frAt_of {m:Ma} {k:Nat} {f:Fr} (h:m.fs[k]? =Xa f):frAt m (k:Int)=f:=by
 unfold frAt;rw[tN,gD,h];rfl
theorem frAt_set {m:Ma} {k:Nat} {f:Fr} (hk:k<m.fs.length) (z:Int) (hz:0<=z):frAt { m with fs:=m.fs.set k f } z=if z=(k:Int)then f else frAt m z:=by
 unfold frAt;simp only[gD]
 by_cases e:z=(k:Int)
 ·subst e;rw[if_pos rfl,tN,sF hk];rfl
 rw[if_neg e,sN (by omega)]
theorem entE_keep {m m':Ma} {x:On} {e:En} (h:entE m x e=0) (hs:m'.sl.length=m.sl.length) (hf:m'.fs.length=m.fs.length) (h1:e.kind≠2->(frAt m' e.n).f=(frAt m e.n).f/\(frAt m' e.n).x=(frAt m e.n).x/\(e.wr=Xc->(frAt m e.n).f=-1->(frAt m' e.n).r<=1)):entE m' x e=0:=by
 unfold entE at h⊢;rw[hs,hf]
 by_cases h0:x.is=Xd
 ·rw[if_pos h0]at h;cases h
 rw[if_neg h0]at h⊢
 by_cases h2:e.kind=2
 ·rw[if_pos h2]at h⊢;exact h
 rw[if_neg h2]at h⊢;obtain⟨g1,g2,g3⟩:=h1 h2
 by_cases h3:(m.fs.length:Int)<=e.n
 ·rw[if_pos h3]at h;cases h
 rw[if_neg h3]at h⊢;rw[g1,g2]
 split at h
 ·cases h
 rename_i hn
 rw[if_neg];rintro(h4 | h4 | h4 | h4 | h4)
 ·exact hn (.inl h4)
 ·exact hn (.inr (.inl h4))
 ·exact hn (.inr (.inr (.inl h4)))
 ·exact hn (.inr (.inr (.inr (.inl h4))))
 have:=g3 h4.1 h4.2.1;omega
theorem entE_present {m:Ma} {x:On} {e:En} (h:EntOk m x e) (hk:e.kind≠2):e.kind=1/\0<=e.n/\e.n<m.fs.length/\(e.wr=Xc->(frAt m e.n).f=-1->(frAt m e.n).r<=1):=by
 obtain⟨h1,h2,h3⟩:=h;obtain⟨a1,a2,_⟩:=enW_zero h1;unfold entE at h3
 by_cases h0:x.is=Xd
 ·rw[if_pos h0]at h3;cases h3
 rw[if_neg h0,if_neg hk]at h3
 by_cases h4:(m.fs.length:Int)<=e.n
 ·rw[if_pos h4]at h3;cases h3
 rw[if_neg h4]at h3
 split at h3
 ·cases h3
 rename_i hn
 refine⟨by omega,by omega,by omega,fun g1 g2=>?_⟩
 have:¬1< (frAt m e.n).r:=fun h=>hn (.inr (.inr (.inr (.inr ⟨g1,g2,h⟩))))
 omega
theorem held_of {T:List (Nat->En)} {p:Nat} {f:Nat->En} (hT:T[p]? =Xa f) {n:Nat} (hn:n<64) (hk:(f n).kind=1):1<=holdN T 1 (f n).n:=hold_pos hT hn (by simp[isE,hk]) (by decide)
theorem BInv.free (h:BInv m T) {j:Nat} {f:Fr} (hf:m.fs[j]? =Xa f) (h0:f.r=0):holdN T 1 j=0/\cachedN m.ca j=0:=by
 have:=(h.cf j f hf).1;rw[h0]at this;omega
theorem ent_set {m':Ma} {T:List (Nat->En)} {p n:Nat} {f:Nat->En} {e:En} (hp:p<T.length) (hsp:m'.sp=m.sp) (hTp:T[p]? =Xa f)
  (hold:∀(q:Nat) s g,m.sp[q]? =Xa s->T[q]? =Xa g->∀j:Nat,j<64->(q≠p\/j≠n)->g j=en0\/EntOk m' (onAt s.ars j) (g j)) (hnew:∀s,m.sp[p]? =Xa s->EntOk m' (onAt s.ars n) e):
  ∀(q:Nat) s g,m'.sp[q]? =Xa s->(T.set p (updF f n e))[q]? =Xa g->∀j:Nat,j<64->g j=en0\/EntOk m' (onAt s.ars j) (g j):=by
 intro q s g hs hg j hj;rw[hsp]at hs
 by_cases eq:q=p
 ·subst eq;rw[sF hp]at hg;cases hg;unfold updF
  by_cases ej:j=n
  ·subst ej;rw[if_pos rfl];exact .inr (hnew s hs)
  rw[if_neg ej];exact hold q s f hs hTp j hj (.inr ej)
 rw[sN (fun h=>eq h.symm)]at hg
 exact hold q s g hs hg j hj (.inl eq)
theorem isE_self (k:Int) (kind:Int) (w:Bool):isE ⟨kind,k,w⟩ kind k=Xc:=by simp[isE]
theorem isE_kind {kind k:Int} {e:En} (h:e.kind≠kind):isE e kind k=Xd:=by simp[isE,h]
theorem isE_other {kind k:Int} {e:En} (h:e.n≠k):isE e kind k=Xd:=by simp[isE,h]
theorem BInv.mine (h:BInv m T) {j p n:Nat} {f0:Fr} {pg:Pg} {u w:Bool} {f:Nat->En} {s:Sp} (hj:m.fs[j]? =Xa f0) (hr:f0.r=0) (hs:m.sp[p]? =Xa s) (hT:T[p]? =Xa f) (hn:n<64) (h0:f n=en0)
  (hx:(onAt s.ars n).is=Xc) (hsh:(onAt s.ars n).sh=Xd) (hw:w=Xc->(onAt s.ars n).wr=Xc):
  BInv { m with fs:=m.fs.set j ⟨pg,1,u,Xd,-1,0⟩ } (T.set p (updF f n ⟨1,j,w⟩)):=by
 have hjl:=(gS.1 hj).1;have hpl:=(gS.1 hT).1;obtain⟨z1,z2⟩:=h.free hj hr;have hup:∀kind k:Int,holdN (T.set p (updF f n ⟨1,j,w⟩)) kind k+(isE en0 kind k).toNat=holdN T kind k+(isE ⟨1,j,w⟩ kind k).toNat:=fun kind k=>by
  have:=hold_upd ⟨1,j,w⟩ kind k hT hn;rw[h0]at this;exact this
 refine⟨by simpa using h.fs40,fun g hg=>?_,h.sl60,h.sbl,h.sq,h.dok,h.st,h.cnt,h.blk,h.que,h.spl,h.spok,by simpa using h.tl,?_,?_,fun k g hk=>?_,fun k z hk=>?_⟩
 ·rcases Yg hg with hg | rfl
  ·exact h.fok g hg
  exact⟨by simp,by simp,.inl rfl,fun h=>by simp at h,fun _=>rfl⟩
 ·obtain⟨a1,a2,a3⟩:=caGo_zero.1 h.ca;refine caGo_zero.2 ⟨fun c hc=>?_,fun q c hq=>(by cases hq),a3⟩
  obtain⟨b1,b2,b3,b4⟩:=caE_ok (a1 c hc);have hne:c.fr≠(j:Int):=fun e=>by
   have:=cached_pos hc;rw[e]at this;exact this z2
  have he:frAt { m with fs:=m.fs.set j ⟨pg,1,u,Xd,-1,0⟩ } c.fr=frAt m c.fr:=by rw[frAt_set hjl _ b1.2.2.2.2.1,if_neg hne]
  exact caE_of (by simpa [bkN]using b1) (by rw[he];exact b2) (by rw[he];exact b3) (by rw[he];exact b4)
 ·refine ent_set hpl rfl hT (fun q s g hs hg i hi hne=>?_) (fun s' hs'=>?_)
  ·rcases h.ent q s g hs hg i hi with e | e
   ·exact .inl e
   refine .inr ⟨e.1,e.2.1,entE_keep e.2.2 rfl (by simp) fun hk2=>?_⟩
   obtain⟨c1,c2,c3,c4⟩:=entE_present e hk2;have hne:(g i).n≠(j:Int):=fun e2=>by
    have:=held_of hg hi c1;rw[e2]at this;omega
   rw[frAt_set hjl _ c2,if_neg hne];exact⟨rfl,rfl,c4⟩
  rw[hs]at hs';cases hs';refine⟨enW_of (by simp) ⟨by simp,by simp only;have:=h.fs40;omega,fun _=>by simp only;have:=h.fs40;omega⟩ (by simp),by simp,?_⟩
  have ef:frAt { m with fs:=m.fs.set j ⟨pg,1,u,Xd,-1,0⟩ } ((j:Nat):Int)=⟨pg,1,u,Xd,-1,0⟩:=by rw[frAt_set hjl _ (by omega),if_pos rfl]
  unfold entE;simp only;rw[if_neg (by rw[hx];decide),if_neg (by decide),if_neg (by simp;omega),ef,if_neg]
  simp only;rintro(h4 | h4 | h4 | h4 | h4)
  ·exact h4.1 trivial
  ·rw[hsh]at h4;cases h4.1
  ·rw[hw h4.1]at h4;cases h4.2
  ·omega
  omega
 ·simp only at hk⊢;have hu:=hup 1 k;rw[isE_none 1 k (by decide)]at hu
  by_cases e:k=j
  ·subst e;rw[sF hjl]at hk;cases hk;rw[isE_self]at hu;refine⟨?_,fun h=>by simp at h⟩
   simp at hu
   simp only;omega
  rw[sN (fun h=>e h.symm)]at hk
  rw[isE_other (e:=⟨1,(j:Int),w⟩) (by simp only;omega)]at hu
  have:=h.cf k g hk;refine⟨?_,this.2⟩
  simp at hu
  omega
 simp only at hk⊢;have hu:=hup 2 k;rw[isE_none 2 k (by decide),isE_kind (e:=⟨1,(j:Int),w⟩) (by simp)]at hu
 have:=h.cs k z hk
 simp at hu
 omega
end
section
variable{m:Ma} {T:List (Nat->En)}
theorem isE_same {e e':En} (h1:e'.kind=e.kind) (h2:e'.n=e.n) (kind k:Int):isE e' kind k=isE e kind k:=by unfold isE;rw[h1,h2]
theorem hold_same {p n:Nat} {f:Nat->En} {e':En} (hT:T[p]? =Xa f) (hn:n<64) (h1:e'.kind=(f n).kind) (h2:e'.n=(f n).n) (kind k:Int):holdN (T.set p (updF f n e')) kind k=holdN T kind k:=by
 have:=hold_upd e' kind k hT hn;rw[isE_same h1 h2]at this;omega
end
def pgL (p:Pg):List Int:=[p.b0,p.b1,p.b2,p.b3,p.b4,p.b5,p.b6,p.b7]
def cutP (p:List Int) (idx size:Int):List Int:=p.mapIdx fun i z=>if size<=8*idx+(i:Int)then 0 else z
def blAt (m:Ma) (file idx:Int):Int:=(m.fl.getD file.toNat ⟨0,[]⟩).bl.getD idx.toNat 0
def szAt (m:Ma) (file:Int):Int:=(m.fl.getD file.toNat ⟨0,[]⟩).size
def hitC (file idx:Int) (c:Ca):Bool:=decide (c.file=file) && decide (c.idx=idx)
def contL (m:Ma) (file idx:Int):List Int:=
 match m.ca.find? (hitC file idx)with
 | some c=>pgL (frAt m c.fr).p
 | none=>if blAt m file idx<0 then zero8 else cutP (readL m.db m.dq (blAt m file idx)) idx (szAt m file)
def diskL (m:Ma) (file idx:Int):List Int:=if blAt m file idx<0 then zero8 else cutP (readL m.db m.dq (blAt m file idx)) idx (szAt m file)
def viewR (m:Ma) (p n:Int):List Int × Bool × Int:=
 if p<0\/(m.sp.length:Int)<=p\/n<0\/63<n then(zero8,Xd,5)
 else
  let s:=m.sp.getD p.toNat ⟨Xd,[],[]⟩
  let x:=onAt s.ars n.toNat
  let e:=flatN s n.toNat
  if x.is=Xd then(zero8,Xd,5)
  else if e.kind=1 then(pgL (frAt m e.n).p,decide ((frAt m e.n).f<0),0)
  else if e.kind=2 then(readL m.sb m.sq e.n,Xc,0)
  else if x.file<0 then(zero8,Xd,0)
  else if bkN m x.file<=x.page then(zero8,Xd,9)
  else(contL m x.file x.page,Xd,0)
def viewL (m:Ma) (p n:Int):List Int × Bool × Int:=if maW m≠0 then(zero8,Xd,maW m)else viewR m p n
theorem fin_self {m:Ma} (h:∀s∈m.sp,TbOk s.tb):finish m (flats m) m.hand=m:=by
 have:Yj (fun s f=>({ s with tb:=tabOf f }:Sp)) m.sp (flats m)=m.sp:=by
  have key:∀l:List Sp,(∀s∈l,TbOk s.tb)->Yj (fun s f=>({ s with tb:=tabOf f }:Sp)) l (l.map flatN)=l:=by
   intro l
   induction l with
   | nil=>intro _;rfl
   | cons s l ih=>
    intro hl;have h1:=hl s (by simp)
    have h2:tabOf (flatN s)=s.tb:=by
     unfold tabOf;refine tableOf_eq h1 fun j hj=>?_
     rw[Xw,Xs hj];rfl
    rw[mP,Yk,ih (fun x hx=>hl x (by simp[hx])),h2]
  exact key m.sp h
 unfold finish;rw[this]
theorem find_cached {m:Ma} (h:caGo m Xb m.ca=0) {c:Ca} (hc:c∈m.ca):m.ca.find? (hitC c.file c.idx)=Xa c:=by
 obtain⟨a1,_,a3⟩:=caGo_zero.1 h
 cases hq:m.ca.find? (hitC c.file c.idx)with
 | none=>
  rw[List.find?_eq_none]at hq;exact absurd (by simp[hitC]) (hq c hc)
 | some d=>
  have hd:=List.mem_of_find?_eq_some hq;have hk:d.file=c.file/\d.idx=c.idx:=by
   have:=List.find?_some hq
   simpa [hitC]using this
  have hkey:keyC d=keyC c:=by unfold keyC;rw[hk.1,hk.2]
  by_cases e:d=c
  ·rw[e]
  exfalso;have:∀l:List Ca,l.Pairwise (fun a b=>keyC a<keyC b)->c∈l->d∈l->False:=by
   intro l
   induction l with
   | nil=>intro _ h1;cases h1
   | cons x l ih=>
    intro hp h1 h2;obtain⟨b1,b2⟩:=Xz.1 hp
    rcases mC.1 h1 with h1 | h1
    ·rcases mC.1 h2 with h2 | h2
     ·exact e (by rw[h1,h2])
     have:=b1 d h2;rw[<-h1]at this;omega
    rcases mC.1 h2 with h2 | h2
    ·have:=b1 c h1;rw[<-h2]at this;omega
    exact ih b2 h1 h2
  exact this m.ca a3 hc hd
theorem firstE_at {α:Type} {f:α->Int}:∀{l:List α} {k:Nat} {q:α},l[k]? =Xa q->(∀(j:Nat) x,j<k->l[j]? =Xa x->f x=0)->f q≠0->firstE (l.map f)=f q
 | [],k,q,h,_,_=>by simp at h
 | a :: l,0,q,h,_,hn=>by
  simp at h
  subst h;simp only[mP,firstE];rw[if_neg hn]
 | a :: l,k+1,q,h,hb,hn=>by
  simp only[mP,firstE];rw[if_pos (hb 0 a (by omega) rfl)]
  exact firstE_at (by simpa using h) (fun j x hj hx=>hb (j+1) x (by omega) (by simpa using hx)) hn
theorem firstE_all {α:Type} {f:α->Int} {l:List α} (hb:∀(j:Nat) x,l[j]? =Xa x->f x=0):firstE (l.map f)=0:=by
 rw[firstE_zero];intro e he;obtain⟨x,hx,rfl⟩:=Xv.1 he;obtain⟨j,hj⟩:=Xt hx;exact hb j x hj
theorem firstE_range {f:Nat->Int} {n k:Nat} (hk:k<n) (hb:∀j,j<k->f j=0) (hn:f k≠0):firstE ((Xx n).map f)=f k:=
 firstE_at (Xs hk) (fun j x hj hx=>by
  rw[Xs (by omega)]at hx
  cases hx;exact hb j hj) hn
theorem firstE_range_all {f:Nat->Int} {n:Nat} (hb:∀j,j<n->f j=0):firstE ((Xx n).map f)=0:=
 firstE_all fun j x hx=>by
  have hj:=(gS.1 hx).1;rw[Xs (by simpa using hj)]at hx
  cases hx;exact hb j (by simpa using hj)
theorem firstE_filter {α:Type} {p:α->Bool} {g:α->Int}:∀(l:List α),firstE (l.map fun x=>if p x=Xc then g x else 0)=firstE ((l.filter p).map g)
 | []=>rfl
 | a :: l=>by
  simp only[mP,firstE]
  by_cases h:p a=Xc
  ·rw[if_pos h,List.filter_cons_of_pos h];simp only[mP,firstE];rw[firstE_filter l]
  rw[if_neg h,if_pos rfl,List.filter_cons_of_neg h,firstE_filter l]
theorem firstE_cons (a:Int) (l:List Int):firstE (a :: l)=if a=0 then firstE l else a:=rfl
theorem firstE_nil:firstE []=0:=rfl
def wPartsL (m:Ma):List Int:=[memW m.fs m.hand,slW m.sl,wrongL m.sb.length m.sq,wrongL m.db.length m.dq,stW m.fl m.cnt]
def wDisksL (m:Ma):List Int:=[fitE m,blockE m,queueE m]
def wSpaces (m:Ma):Int:=if 4<m.sp.length then 4 else firstE (m.sp.map spE)
def wCounts (m:Ma):Int:=if firstE ((Xx m.fs.length).map (frE m))=0 then firstE ((Xx m.sl.length).map (sloE m))else firstE ((Xx m.fs.length).map (frE m))
def wPages (m:Ma):Int:=firstE (m.sp.map (spEnt m))
def wCache (m:Ma):Int:=caGo m Xb m.ca
theorem firstE_app (l k:List Int):firstE (l++k)=if firstE l=0 then firstE k else firstE l:=by
 induction l with
 | nil=>simp[firstE]
 | cons a l ih=>
  by_cases h:a=0
  ·have h1:firstE (a :: l)=firstE l:=by rw[firstE_cons,if_pos h]
   have h2:firstE (a :: l++k)=firstE (l++k):=by rw[Yi,firstE_cons,if_pos h]
   rw[h1,h2,ih]
  have h1:firstE (a :: l)=a:=by rw[firstE_cons,if_neg h]
  have h2:firstE (a :: l++k)=a:=by rw[Yi,firstE_cons,if_neg h]
  rw[h1,h2,if_neg h]
theorem maW_six (m:Ma):maW m=firstE [firstE (wPartsL m),firstE (wDisksL m),wSpaces m,wCache m,wPages m,wCounts m]:=by
 have hp:partE m=if firstE (wPartsL m)=0 then(if firstE (wDisksL m)=0 then wSpaces m else firstE (wDisksL m))else firstE (wPartsL m):=by
  have:partE m=firstE (wPartsL m++(wDisksL m++ [if 4<m.sp.length then 4 else 0,firstE (m.sp.map spE)])):=rfl;rw[this,firstE_app,firstE_app]
  congr 1
  congr 1
  unfold wSpaces;rw[firstE_cons,firstE_cons,firstE_nil]
  split <;> simp_all
 unfold maW;simp only[firstE_cons,firstE_nil,hp];unfold wCounts wPages wCache
 by_cases h1:firstE (wPartsL m)=0 <;> by_cases h2:firstE (wDisksL m)=0 <;> by_cases h3:wSpaces m=0 <;> simp only[h1,h2,h3,if_true,if_false] <;>(by_cases h4:firstE ((Xx m.fs.length).map (frE m))=0 <;> by_cases h5:firstE ((Xx m.sl.length).map (sloE m))=0 <;> simp[h4,h5])
structure Right1 (m:Ma):Prop where
 mem:memW m.fs m.hand=0
 sl:slW m.sl=0
 sq:wrongL m.sb.length m.sq=0
 dq:wrongL m.db.length m.dq=0
 st:stW m.fl m.cnt=0
theorem right1 {m:Ma}:firstE (wPartsL m)=0↔Right1 m:=by
 rw[firstE_zero];unfold wPartsL;constructor
 ·intro h;exact⟨h _ (by simp),h _ (by simp),h _ (by simp),h _ (by simp),h _ (by simp)⟩
 intro h e he;simp only[mC,nM,or_false]at he
 rcases he with rfl | rfl | rfl | rfl | rfl
 ·exact h.mem
 ·exact h.sl
 ·exact h.sq
 ·exact h.dq
 exact h.st
theorem onAt_uniq {n:Nat}:∀{l:List Ar} {p:Option Ar} {k:Nat} {a:Ar},CanP p l->l[k]? =Xa a->arIn a n=Xc->onAt l n=oneOf a n
 | [],_,_,_,_,h,_=>by simp at h
 | b :: l,p,0,a,_,h,hin=>by
  simp at h
  subst h;rw[arIn_iff]at hin;exact onAt_in hin.1 hin.2
 | b :: l,p,k+1,a,hc,h,hin=>by
  have h':l[k]? =Xa a:=by simpa using h
  have ih:=onAt_uniq hc.2.2 h' hin
  by_cases hb:(n:Int)<b.tz
  ·have:=hc.2.2.low rfl hb;rw[this]at ih;exact(on_ne ih.symm).elim
  rw[onAt_out (.inr (by omega))]
  exact ih
def pagesN (s:Sp):List Nat:=(Xx 64).filter fun n=>enS (flatN s n)
theorem spEnt_pages (m:Ma) (s:Sp):spEnt m s=firstE ((pagesN s).map fun n=>entE m (onAt s.ars n) (flatN s n)):=by
 unfold spEnt pagesN;rw[<-firstE_filter]
 congr 1
 apply Yp
 intro n _
 by_cases h:(flatN s n).kind=0
 ·simp[enS,h]
 simp[enS,h]
theorem pagesN_empty {s:Sp} (ht:tbW s.tb=0) (hl:s.tb.length=8):pagesN s=[]↔s.tb.all (·.isEmpty)=Xc:=by
 unfold pagesN;rw[List.filter_eq_nil_iff,List.all_eq_true];constructor
 ·intro h x hx;obtain⟨i,hi⟩:=Xt hx;have hi8:i<8:=by rw[<-hl];exact(gS.1 hi).1
  rcases tbW_zero.1 ht x hx with h0 | ⟨h1,h2,h3⟩
  ·rw[h0];rfl
  exfalso;unfold anyS at h3;rw[Xy]at h3;obtain⟨e,he,hs⟩:=h3;obtain⟨j,hj⟩:=Xt he;have hj8:j<8:=by rw[<-h1];exact(gS.1 hj).1
  refine h (8*i+j) (Xu.2 (by omega)) ?_
  unfold flatN getN;rw[show(8*i+j) / 8=i by omega,show(8*i+j) % 8=j by omega,hi]
  simp only[Option.getD_some];rw[hj];exact hs
 intro h n hn;rw[Xu]at hn;unfold flatN getN
 cases e:s.tb[n / 8]? with
 | none=>simp[enS,en0]
 | some x=>
  have:=h x (mG e);have:x=[]:=by simpa using this
  subst this
  simp[enS,en0]
def mayHaveB (f:Fr) (a:Ar) (n:Nat):Bool:=if f.f<0 then !a.sh else f.f == a.file && f.x == a.base+(n:Int) - a.fr
def mayWriteB (f:Fr) (a:Ar):Bool:=a.wr &&(if f.f<0 then decide (f.r<=1)else a.sh)
def wEntry (m:Ma) (a:Ar) (n:Nat) (e:En):Int:=
 if e.kind=2 then(if(m.sl.length:Int)<=e.n\/a.sh=Xc then 7 else 0)
 else if(m.fs.length:Int)<=e.n then 3
 else if mayHaveB (frAt m e.n) a n=Xd\/(e.wr=Xc/\mayWriteB (frAt m e.n) a=Xd)then 7 else 0
theorem frAt_ok {m:Ma} (hm:memW m.fs m.hand=0) (k:Int):(frAt m k).f=-1\/(0<=(frAt m k).f/\(frAt m k).f<5):=by
 unfold frAt;rw[gD]
 cases h:m.fs[k.toNat]? with
 | none=>left;rfl
 | some f=>
  have hfs:frsW m.fs=0:=by
   unfold memW at hm
   split at hm
   ·cases hm
   split at hm
   ·rename_i h;exact h
   rename_i h;exact absurd hm h
  have hf:=frsW_zero.1 hfs f (mG h);simp only[Option.getD_some];unfold frW at hf
  split at hf
  ·cases hf
  split at hf
  ·cases hf
  rename_i a
  by_cases e:f.f=-1
  ·exact .inl e
  right
  cases e2:inB f.f 5 with
  | false=>simp[e,e2]at a
  | true=>simpa [inB]using e2
theorem wEntry_eq {m:Ma} {a:Ar} {n:Nat} {e:En} (hm:memW m.fs m.hand=0) (ha:ArOk a):entE m (oneOf a n) e=wEntry m a n e:=by
 unfold entE wEntry;rw[if_neg (by simp[oneOf])]
 by_cases hk:e.kind=2
 ·rw[if_pos hk,if_pos hk];rfl
 rw[if_neg hk,if_neg hk]
 by_cases hr:(m.fs.length:Int)<=e.n
 ·rw[if_pos hr,if_pos hr]
 rw[if_neg hr,if_neg hr];have hf:=frAt_ok hm e.n;obtain⟨f,hfe⟩:∃f,frAt m e.n=f:=⟨_,rfl⟩;rw[hfe]at hf⊢;unfold mayHaveB mayWriteB oneOf;simp only;obtain⟨h1,h2,h3,h4,h5,h6,h7,h8⟩:=ha
 rcases hf with hf | hf
 ·rw[hf];have hno:¬(0<=a.file/\(-1:Int)=a.file/\f.x=if 0<=a.file then a.base+((n:Int) - a.fr)else 0):=by omega
  simp only[hno]
  cases hw:e.wr <;> cases hs:a.sh <;> cases ht:a.wr <;> simp
 have hn1:¬f.f=-1:=by omega
 have hn2:¬f.f<0:=by omega
 rw[if_neg hn2,if_neg hn2]
 by_cases hi:f.f=a.file/\f.x=a.base+(n:Int) - a.fr
 ·have hits:0<=a.file/\f.f=a.file/\f.x=(if 0<=a.file then a.base+((n:Int) - a.fr)else 0):=by
   rw[if_pos (by omega)]
   omega
  have hb:(f.f == a.file && f.x == a.base+(n:Int) - a.fr)=Xc:=by simp[hi.1,hi.2]
  rw[hb];simp only[hits]
  cases hw:e.wr <;> cases hs:a.sh <;> cases ht:a.wr <;> simp <;>(intro;omega)
 have hits:¬(0<=a.file/\f.f=a.file/\f.x=(if 0<=a.file then a.base+((n:Int) - a.fr)else 0)):=by
  rintro⟨g1,g2,g3⟩;rw[if_pos g1]at g3;exact hi ⟨g2,by omega⟩
 have hb:(f.f == a.file && f.x == a.base+(n:Int) - a.fr)=Xd:=by
  cases h:(f.f == a.file && f.x == a.base+(n:Int) - a.fr)with
  | false=>rfl
  | true=>simp at h;exact absurd h hi
 rw[hb,if_pos (.inl ⟨hn1,hits⟩),if_pos (.inl rfl)]
def aheadB (c d:Ca):Bool:=decide (c.file<d.file) || (c.file == d.file && decide (c.idx<d.idx))
theorem ahead_key {c d:Ca} (h1:0<=c.idx/\c.idx<100) (h2:0<=d.idx/\d.idx<100):aheadB c d=decide (¬keyC d<=keyC c):=by
 unfold aheadB keyC;rw[Bool.eq_iff_iff];simp;omega
theorem caE_idx {m:Ma} {p:Option Ca} {c:Ca} (hst:stW m.fl m.cnt=0) (h:caE m p c=0):0<=c.idx/\c.idx<100:=by
 unfold caE at h
 split at h
 ·cases h
 rename_i a
 have hb:bkN m c.file<=12:=by
  unfold bkN;rw[gD]
  cases e:m.fl[c.file.toNat]? with
  | none=>simp
  | some f=>
   have:=((stW_zero _ _).1 hst).2.1 f (mG e);simp only[Option.getD_some];have h12:=cntP_nat this.1.1 this.1.2;rw[this.2.1];exact h12.2
 omega
theorem cnt_count (f:Nat->En) (kind k:Int):∀m:Nat,cntTo f kind k m=(Xx m).countP fun n=>isE (f n) kind k
 | 0=>rfl
 | m+1=>by
  unfold cntTo;rw[cnt_count f kind k m,List.range_succ,Yf]
  cases h:isE (f m) kind k <;> simp[h]
theorem cnt_pages (s:Sp) {kind k:Int} (hk:kind≠0):cntTo (flatN s) kind k 64=(pagesN s).countP fun n=>isE (flatN s n) kind k:=by
 rw[cnt_count];unfold pagesN;rw[List.countP_filter]
 apply List.countP_congr
 intro n _;constructor
 ·intro h;rw[Ya];refine⟨h,?_⟩;unfold isE at h;rw[Ya]at h;have:(flatN s n).kind=kind:=by simpa using h.1
  simp[enS,this,hk]
 intro h;rw[Ya]at h;exact h.1
def heldTo (m:Ma) (i:Nat) (l:List Nat) (s:Sp) (key:Int × Int):Int:=
 ((if key.1=1 then(cachedN m.ca key.2:Nat)else 0:Nat):Int)+((((m.sp.take i).map fun s=>(pagesN s).countP fun n=>isE (flatN s n) key.1 key.2).sum:Nat):Int)+((l.countP fun n=>isE (flatN s n) key.1 key.2:Nat):Int)
theorem held_page (m:Ma) (i:Nat) (l:List Nat) (s:Sp) (n:Nat) (key:Int × Int):heldTo m i (l++ [n]) s key=heldTo m i l s key+(if key=((flatN s n).kind,(flatN s n).n)then 1 else 0):=by
 unfold heldTo;rw[Yf]
 by_cases h:key=((flatN s n).kind,(flatN s n).n)
 ·subst h;have:isE (flatN s n) (flatN s n).kind (flatN s n).n=Xc:=by simp[isE]
  simp[this]
  omega
 rw[if_neg h];have:isE (flatN s n) key.1 key.2=Xd:=by
  cases h':isE (flatN s n) key.1 key.2 with
  | false=>rfl
  | true=>
   unfold isE at h'
   simp at h'
   exact absurd (Prod.ext h'.1.symm h'.2.symm) h
 simp[this]
theorem held_next (m:Ma) (i:Nat) (s s':Sp) (hs:m.sp[i]? =Xa s) (key:Int × Int):heldTo m i (pagesN s) s key=heldTo m (i+1) [] s' key:=by
 unfold heldTo;rw[Yh,hs];simp;omega
theorem held_all (m:Ma) (s:Sp) {kind:Int} (k:Int) (hk:kind≠0):heldTo m m.sp.length [] s (kind,k)=((holders m kind k+(if kind=1 then cachedN m.ca k else 0):Nat):Int):=by
 unfold heldTo holders holdN;rw[List.take_length];have:(m.sp.map flatN).map (fun f=>cntTo f kind k 64)=m.sp.map fun s=>(pagesN s).countP fun n=>isE (flatN s n) kind k:=by
  rw[List.map_map]
  apply Yp
  intro s _;exact cnt_pages s hk
 rw[this];simp;omega
def heldC (l:List Ca) (key:Int × Int):Int:=if key.1=1 then(cachedN l key.2:Int)else 0
theorem heldC_step (l:List Ca) (c:Ca) (key:Int × Int):heldC (l++ [c]) key=heldC l key+(if key=(1,c.fr)then 1 else 0):=by
 unfold heldC cachedN;obtain⟨a,b⟩:=key;simp only[Yf,pJ]
 by_cases h1:a=1
 ·rw[if_pos h1,if_pos h1]
  by_cases h2:b=c.fr
  ·simp[h1,h2]
  have:¬c.fr=b:=fun e=>h2 e.symm
  simp[h1,h2,this]
 rw[if_neg h1,if_neg h1]
 simp[h1]
theorem heldC_all (m:Ma) (s:Sp) (key:Int × Int):heldC m.ca key=heldTo m 0 [] s key:=by
 unfold heldC heldTo;simp
 split <;> rfl
theorem heldC_nil (key:Int × Int):heldC [] key=0:=by
 unfold heldC cachedN;simp
def idxG:List Ca->Int × Int->Option Int
 | [],_=>Xb
 | c :: l,key=>match idxG l key with | some z=>Xa z | none=>if key=(c.file,c.idx)then Xa c.fr else Xb
theorem idxG_snoc (c:Ca) (key:Int × Int):∀(l:List Ca),idxG (l++ [c]) key=if key=(c.file,c.idx)then Xa c.fr else idxG l key
 | []=>by simp[idxG]
 | d :: l=>by
  simp only[Yi,idxG];rw[idxG_snoc c key l]
  by_cases h:key=(c.file,c.idx)
  ·rw[if_pos h,if_pos h]
  rw[if_neg h,if_neg h]
theorem idxG_mem {key:Int × Int} {z:Int}:∀{l:List Ca},idxG l key=Xa z->∃c∈l,key=(c.file,c.idx)/\c.fr=z
 | [],h=>by cases h
 | d :: l,h=>by
  unfold idxG at h
  cases e:idxG l key with
  | some y=>
   rw[e]at h;cases h;obtain⟨c,h1,h2⟩:=idxG_mem e;exact⟨c,Yl _ h1,h2⟩
  | none=>
   rw[e]at h;simp only at h
   split at h
   ·rename_i h'
    cases h;exact⟨d,Ys,h',rfl⟩
   cases h
theorem idxG_none {key:Int × Int}:∀{l:List Ca},idxG l key=Xb↔∀c∈l,key≠(c.file,c.idx)
 | []=>by simp[idxG]
 | d :: l=>by
  unfold idxG;constructor
  ·intro h c hc
   cases e:idxG l key with
   | some y=>rw[e]at h;cases h
   | none=>
    rw[e]at h;simp only at h
    rcases mC.1 hc with rfl | hc
    ·intro h';rw[if_pos h']at h;cases h
    exact idxG_none.1 e c hc
  intro h;rw[idxG_none.2 fun c hc=>h c (Yl _ hc)]
  simp only;rw[if_neg (h d Ys)]
theorem ca_key_uniq {l:List Ca} (h:l.Pairwise fun a b=>keyC a<keyC b) {c d:Ca} (hc:c∈l) (hd:d∈l) (hk:keyC c=keyC d):c=d:=by
 induction l with
 | nil=>cases hc
 | cons a l ih=>
  rw[Xz]at h
  rcases mC.1 hc with rfl | hc'
  ·rcases mC.1 hd with rfl | hd'
   ·rfl
   have:=h.1 d hd';omega
  rcases mC.1 hd with rfl | hd'
  ·have:=h.1 c hc';omega
  exact ih h.2 hc' hd'
theorem has_cached {m:Ma} (hca:caGo m Xb m.ca=0) (k:Nat):(idxG m.ca ((frAt m k).f,(frAt m k).x)=Xa (k:Int))↔cachedN m.ca k≠0:=by
 obtain⟨a1,_,a3⟩:=caGo_zero.1 hca;have hca':∀c∈m.ca,(frAt m c.fr).f=c.file/\(frAt m c.fr).x=c.idx:=by
  intro c hc;have:=a1 c hc;unfold caE at this
  split at this
  ·cases this
  split at this
  ·cases this
  rename_i h
  exact⟨Classical.byContradiction fun e=>h (.inr (.inl e)),Classical.byContradiction fun e=>h (.inr (.inr e))⟩
 have hcount:cachedN m.ca k≠0↔∃c∈m.ca,c.fr=(k:Int):=by
  unfold cachedN;rw[Nat.ne_zero_iff_zero_lt,Yo];simp
 rw[hcount];constructor
 ·intro h;obtain⟨c,h1,_,h3⟩:=idxG_mem h;exact⟨c,h1,h3⟩
 rintro⟨c,h1,h2⟩;obtain⟨b1,b2⟩:=hca' c h1;rw[h2]at b1 b2
 cases e:idxG m.ca ((frAt m k).f,(frAt m k).x)with
 | none=>
  have:=idxG_none.1 e c h1;rw[b1,b2]at this;exact absurd rfl this
 | some z=>
  obtain⟨d,d1,d2,d3⟩:=idxG_mem e;rw[b1,b2]at d2;simp only[pJ]at d2;have:c=d:=ca_key_uniq a3 h1 d1 (by unfold keyC;rw[d2.1,d2.2])
  rw[<-d3,<-this,h2]
end
section
open Go.RowKit
theorem belowM_any (m n:Int) (w:Xn):
  Xp Tryz.prog 120 #[Xe Xf m,Xe Xf n] w fun e w'=>e= Xl (Xh (bel m n))/\w'=w:=by
 have H:Xo (bel m n=(decide (0<=m) && decide (m<n))):=rfl
 by_cases h0:0<=m
 ·by_cases h1:m<n
  ·go_enter Tryz.func120,Tryz.ntmps120
   go_wp2;go_ret;exact⟨by rw[H.out];simp[*],rfl⟩
  go_enter Tryz.func120,Tryz.ntmps120
  go_wp2;go_ret;exact⟨by rw[H.out];simp[*],rfl⟩
 go_enter Tryz.func120,Tryz.ntmps120
 go_wp2;go_ret;exact⟨by rw[H.out];simp;omega,rfl⟩
theorem Tryz.infoErrno:(Tryz.prog.info? 44).map (fun i=>(i.zero,i.size,i.bytes))=Xa (Xa (Xe Xf 0),1,8):=by kernel_rfl
def errE:Elt Int where
 enc:=fun z=>[Xe Xf z]
 k:=1
 ty:=44
 st:=96
 bytes:=8
 zv:= Xe Xf 0
 zero:=0
 len:=fun _=>rfl
 one:=fun a u hu=>by
  simp only[mC,nM,or_false]at hu;rw[hu];rfl
 und:=Tryz.underlying96
 info:=Tryz.infoErrno
 zok:=rfl
 few:=by decide
 pos:=by decide
theorem RowAt.errs {w:Xn} {v:Xq} {l:List Int} (h:RowAt errE w v l):∃a c,v= O a l.length c/\SlRows w a l:=by
 obtain⟨a,c,h1,h2⟩:=h.rows;refine⟨a,c,h1,fun j x hj=>?_⟩
 obtain⟨ad,h3,h4⟩:=h2 j x hj;refine⟨ad,h3,fun W hW=>?_⟩
 have:=h4 W hW 0 _ rfl;rw[add_add']at this
 simpa [errE]using this
theorem row_lit {α:Type} (E:Elt α) (w:Xn) (l:List α) (cs:Array Xq) (hcs:cs=(l.flatMap E.enc).toArray) (hb:l.length*E.bytes<=140737488355328):RowAt E (w.alloc (Xk cs E.ty)) (O (Xa ⟨w.heap.size,0,Xb⟩) l.length l.length) l:=by
 subst hcs;refine⟨⟨_,l.length,rfl,fun h=>(by cases h),fun y hy=>?_⟩,hb⟩
 cases hy;exact Cells.top w (l.flatMap E.enc) E.ty rfl
theorem firstE_take {l:List Int} {k:Nat} (hb:∀(j:Nat) x,j<k->l[j]? =Xa x->x=0) {q:Int} (hq:l[k]? =Xa q) (hn:q≠0):firstE l=q:=by
 have:=firstE_at (f:=fun x=>x) hq hb hn
 simpa using this
theorem firstE_none {l:List Int} (hb:∀(j:Nat) x,l[j]? =Xa x->x=0):firstE l=0:=by
 have:=firstE_all (f:=fun x=>x) hb
 simpa using this
theorem orErr_any (v:Xq) (l:List Int) (w:Xn) (hv:RowAt errE w v l):
  Xp Tryz.prog 19 #[v] w fun e w'=>e= Xl (Xe Xf (firstE l))/\w'=w:=by
 have hbig:=hv.short;obtain⟨a,c,rfl,hrow⟩:=hv.errs;have HR:Xo (SlRows w a l):=hrow;clear hrow hv;obtain⟨n,HN⟩:∃n,Xo (l.length=n):=⟨_,rfl⟩;rw[HN.out]at hbig⊢;obtain⟨F,HF⟩:∃F,Xo (firstE l=F):=⟨_,rfl⟩;rw[HF.out]
 go_enter Tryz.func19,Tryz.ntmps19
 go_wp2
 go_loopg [5,8] n (fun gg _ s8 wr=>∃kk:Nat,kk<=n/\n - kk<=gg/\s8= Xe Xf kk/\wr=w/\Xo (∀(j:Nat) x,j<kk->l[j]? =Xa x->x=0))
 case atStart=>exact⟨0,nZ _,by omega,rfl,rfl,fun j x hj=>absurd hj (nL _)⟩
 obtain⟨kk,hkk,hgg,rfl,rfl,A⟩:=hrel
 by_cases hlt:kk<n
 ·have hltz:(kk:Int)< (n:Int):=by omega
  obtain⟨q,HQ⟩:∃q,Xo (l[kk]? =Xa q):=⟨_,gE (by rw[HN.out];exact hlt)⟩
  obtain⟨x,rfl,hl⟩:=HR.out kk q HQ.out;have d0:=hl wr (Grew.refl _);clear hl
  by_cases h0:q=0
  ·have h0e:(q != 0)=Xd:=by simp[h0]
   have HA:Xo (∀(j:Nat) x,j<kk+1->l[j]? =Xa x->x=0):=show∀(j:Nat) x,_ from fun j x hj hx=>by
    by_cases e:j=kk
    ·subst e;rw[HQ.out]at hx;cases hx;exact h0
    exact A.out j x (by omega) hx
   clear h0;go_wp2
   go_roundg (n -(kk+1))
   case measure=>omega
   exact⟨kk+1,by omega,by omega,by go_num,rfl,HA.out⟩
  have h0e:(q != 0)=Xc:=by simp[h0]
  have HE:Xo (F=q):=show _=_ by rw[<-HF.out];exact firstE_take A.out HQ.out h0
  clear h0;go_wp2;go_ret;exact⟨by rw[HE.out];rfl,rfl⟩
 have hltz:¬(kk:Int)< (n:Int):=by omega
 have:kk=n:=by omega
 subst this;have HE:Xo (F=0):=show _=_ by
  rw[<-HF.out];exact firstE_none fun j x hx=>A.out j x (by rw[<-HN.out];exact(gS.1 hx).1) hx
 go_wp2;go_ret;exact⟨by rw[HE.out];rfl,rfl⟩
theorem indexOf_any (a:Ar) (n:Int) (w:Xn) (h1:0<=a.base/\a.base<=100) (h2:0<=a.fr/\a.fr<=100) (h3:0<=n/\n<=100):
  Xp Tryz.prog 169 #[Xi #[Xe Xf a.fr,Xe Xf a.tz,Xh a.rd,Xh a.wr,Xh a.sh,Xe Xf a.file,Xe Xf a.base],Xe Xf n] w fun e w'=>e= Xl (Xe Xf (a.base+n - a.fr))/\Grew w w':=by
 obtain⟨fr,tz,rd,wr,sh,file,base⟩:=a;simp only at h1 h2
 go_enter Tryz.func169,Tryz.ntmps169
 go_wp2;go_ret;exact⟨rfl,grew_alloc _ _⟩
theorem isAhead_any (c d:Ca) (w:Xn):
  Xp Tryz.prog 65 #[Xi #[Xe Xf c.file,Xe Xf c.idx,Xe Xf c.fr],Xi #[Xe Xf d.file,Xe Xf d.idx,Xe Xf d.fr]] w fun e w'=>e= Xl (Xh (aheadB c d))/\Grew w w':=by
 obtain⟨cf,ci,cr⟩:=c;obtain⟨df,di,dr⟩:=d
 by_cases h1:cf<df
 ·have hz:aheadB ⟨cf,ci,cr⟩ ⟨df,di,dr⟩=Xc:=by simp[aheadB,h1]
  rw[hz];clear hz
  go_enter Tryz.func65,Tryz.ntmps65
  go_wp2;go_ret;exact⟨rfl,(grew_alloc _ _).trans (grew_alloc _ _)⟩
 by_cases h2:cf=df
 ·subst h2
  by_cases h3:ci<di
  ·have hz:aheadB ⟨cf,ci,cr⟩ ⟨cf,di,dr⟩=Xc:=by simp[aheadB,h3]
   rw[hz];clear hz
   go_enter Tryz.func65,Tryz.ntmps65
   go_wp2;go_ret;exact⟨rfl,(grew_alloc _ _).trans (grew_alloc _ _)⟩
  have hz:aheadB ⟨cf,ci,cr⟩ ⟨cf,di,dr⟩=Xd:=by simp[aheadB,h3]
  rw[hz];clear hz
  go_enter Tryz.func65,Tryz.ntmps65
  go_wp2;go_ret;exact⟨rfl,(grew_alloc _ _).trans (grew_alloc _ _)⟩
 have hz:aheadB ⟨cf,ci,cr⟩ ⟨df,di,dr⟩=Xd:=by simp[aheadB,h1,h2]
 rw[hz];clear hz;have h2e:(cf == df)=Xd:=by simp[h2]
 clear h2
 go_enter Tryz.func65,Tryz.ntmps65
 go_wp2;go_ret;exact⟨rfl,(grew_alloc _ _).trans (grew_alloc _ _)⟩
theorem mayWrite_any (f:Fr) (a:Ar) (w:Xn):
  Xp Tryz.prog 126 #[Xi (frv f).toArray,Xi #[Xe Xf a.fr,Xe Xf a.tz,Xh a.rd,Xh a.wr,Xh a.sh,Xe Xf a.file,Xe Xf a.base]] w fun e w'=>e= Xl (Xh (mayWriteB f a))/\Grew w w':=by
 obtain⟨⟨b0,b1,b2,b3,b4,b5,b6,b7⟩,r,u,d,ff,x⟩:=f;obtain⟨fr,tz,rd,wr,sh,file,base⟩:=a;unfold frv mayWriteB;simp only;cases wr
 ·simp only[Ym]
  go_enter Tryz.func126,Tryz.ntmps126
  go_wp2;go_ret;exact⟨rfl,(grew_alloc _ _).trans (grew_alloc _ _)⟩
 simp only[Yq]
 by_cases h:ff<0
 ·rw[if_pos h];obtain⟨D,HD⟩:∃D,Xo (decide (r<=1)=D):=⟨_,rfl⟩;rw[HD.out]
  go_enter Tryz.func126,Tryz.ntmps126
  go_wp2;go_ret;exact⟨by rw[<-HD.out];rfl,(grew_alloc _ _).trans (grew_alloc _ _)⟩
 rw[if_neg h]
 go_enter Tryz.func126,Tryz.ntmps126
 go_wp2;go_ret;exact⟨rfl,(grew_alloc _ _).trans (grew_alloc _ _)⟩
theorem frBelow_any (m n:Int) (w:Xn):
  Xp Tryz.prog 109 #[Xe Xf m,Xe Xf n] w fun e w'=>e= Xl (Xh (inB m n))/\w'=w:=by
 have H:Xo (inB m n=(decide (0<=m) && decide (m<n))):=rfl
 by_cases h0:0<=m
 ·by_cases h1:m<n
  ·go_enter Tryz.func109,Tryz.ntmps109
   go_wp2;go_ret;exact⟨by rw[H.out];simp[*],rfl⟩
  go_enter Tryz.func109,Tryz.ntmps109
  go_wp2;go_ret;exact⟨by rw[H.out];simp[*],rfl⟩
 go_enter Tryz.func109,Tryz.ntmps109
 go_wp2;go_ret;exact⟨by rw[H.out];simp;omega,rfl⟩
theorem freeFrame_any (w:Xn):
  Xp Tryz.prog 26 #[] w fun e w'=>e= Xl (Xi (frv frF).toArray)/\Grew w w':=by
 go_enter Tryz.func26,Tryz.ntmps26
 go_wp2;refine bodyPost_ret (v:= Xi (frv frF).toArray) (by simp[results,Tryz.results26,go_sem,frv,frF,pg0]) rfl ⟨rfl,?_⟩
 exact(bR _ _).alloc (nR _) _
theorem wf1 (b0 b1 b2 b3 b4 b5 b6 b7 r:Int) (u d:Bool) (f x:Int) (w:Xn) (hb1:inB r 1001=Xd):
  Xp Tryz.prog 108 #[Xi #[Xe Xg b0,Xe Xg b1,Xe Xg b2,Xe Xg b3,Xe Xg b4,Xe Xg b5,Xe Xg b6,Xe Xg b7,Xe Xf r,Xh u,Xh d,Xe Xf f,Xe Xf x]] w fun e w'=>e= Xl (Xe Xf 3)/\Grew w w':=by
 go_enter Tryz.func108,Tryz.ntmps108
 go_wp2_with (go_at_call 109;refine(frBelow_any _ _ _).mono ?_;rintro e w' ⟨rfl,rfl⟩)
 go_ret;exact⟨rfl,(bR _ _).alloc (nR _) _⟩
theorem wf2 (b0 b1 b2 b3 b4 b5 b6 b7 r:Int) (u d:Bool) (f x:Int) (w:Xn) (hb1:inB r 1001=Xc) (hb2:inB x 12=Xd):
  Xp Tryz.prog 108 #[Xi #[Xe Xg b0,Xe Xg b1,Xe Xg b2,Xe Xg b3,Xe Xg b4,Xe Xg b5,Xe Xg b6,Xe Xg b7,Xe Xf r,Xh u,Xh d,Xe Xf f,Xe Xf x]] w fun e w'=>e= Xl (Xe Xf 3)/\Grew w w':=by
 go_enter Tryz.func108,Tryz.ntmps108
 go_wp2_with (go_at_call 109;refine(frBelow_any _ _ _).mono ?_;rintro e w' ⟨rfl,rfl⟩)
 go_ret;exact⟨rfl,(bR _ _).alloc (nR _) _⟩
theorem wf3 (b0 b1 b2 b3 b4 b5 b6 b7 r:Int) (u d:Bool) (f x:Int) (w:Xn) (hb1:inB r 1001=Xc) (hb2:inB x 12=Xc) (hf:(f != -1)=Xc) (hb3:inB f 5=Xd):
  Xp Tryz.prog 108 #[Xi #[Xe Xg b0,Xe Xg b1,Xe Xg b2,Xe Xg b3,Xe Xg b4,Xe Xg b5,Xe Xg b6,Xe Xg b7,Xe Xf r,Xh u,Xh d,Xe Xf f,Xe Xf x]] w fun e w'=>e= Xl (Xe Xf 3)/\Grew w w':=by
 go_enter Tryz.func108,Tryz.ntmps108
 go_wp2_with (go_at_call 109;refine(frBelow_any _ _ _).mono ?_;rintro e w' ⟨rfl,rfl⟩)
 go_ret;exact⟨rfl,(bR _ _).alloc (nR _) _⟩
theorem wf4 (b0 b1 b2 b3 b4 b5 b6 b7 r:Int) (u d:Bool) (f x:Int) (w:Xn) (hb1:inB r 1001=Xc) (hb2:inB x 12=Xc) (hf:(f != -1)=Xc) (_hfe:(f == -1)=Xd) (hb3:inB f 5=Xc) (hr:(r == 0)=Xc) (hfr:frEqB (⟨⟨b0,b1,b2,b3,b4,b5,b6,b7⟩,r,u,d,f,x⟩:Fr) frF=Xd):
  Xp Tryz.prog 108 #[Xi #[Xe Xg b0,Xe Xg b1,Xe Xg b2,Xe Xg b3,Xe Xg b4,Xe Xg b5,Xe Xg b6,Xe Xg b7,Xe Xf r,Xh u,Xh d,Xe Xf f,Xe Xf x]] w fun e w'=>e= Xl (Xe Xf 7)/\Grew w w':=by
 have HFR:Xo _:=hfr;clear hfr
 go_enter Tryz.func108,Tryz.ntmps108
 go_wp2_with (go_at_call 109;refine(frBelow_any _ _ _).mono ?_;rintro e w' ⟨rfl,rfl⟩)
 obtain⟨W0,hW0⟩:∃W0,w.alloc (Xk #[Xe Xg b0,Xe Xg b1,Xe Xg b2,Xe Xg b3,Xe Xg b4,Xe Xg b5,Xe Xg b6,Xe Xg b7,Xe Xf r,Xh u,Xh d,Xe Xf f,Xe Xf x] 93)=W0:=⟨_,rfl⟩;have HG0:=gA hW0
 have X0:=xA hW0
 rw[hW0];clear hW0;have hx0:=X0.out.gw 0 rfl
 have hx1:=X0.out.gw 1 rfl
 have hx2:=X0.out.gw 2 rfl
 have hx3:=X0.out.gw 3 rfl
 have hx4:=X0.out.gw 4 rfl
 have hx5:=X0.out.gw 5 rfl
 have hx6:=X0.out.gw 6 rfl
 have hx7:=X0.out.gw 7 rfl
 have hx8:=X0.out.gw 8 rfl
 have hx9:=X0.out.gw 9 rfl
 have hx10:=X0.out.gw 10 rfl
 have hx11:=X0.out.gw 11 rfl
 have hx12:=X0.out.gw 12 rfl
 have hne:Nonempty (GrownW W0):=⟨⟨_,Grew.refl _⟩⟩;refine wp_lax [(5,⟨fun v=>v= Xi (frv frF).toArray,fun _ _=>True⟩)] mixed (by kernel_rfl) ?_ ?_ ?_
 ·intro x hx
  simp at hx
  subst hx;exact⟨_,rfl⟩
 ·intro x hx
  simp at hx
  subst hx;exact fun _ _ _ _ h=>h
 iterate 5 (refine lax_quiet rfl rfl rfl (fun K hK=>?_);go_big_quiet_op;refine hK _ ?_;clear hK K)
 refine lax_spec rfl rfl (fun w' hg hF=>?_) (fun v1 hv=>?_)
 ·refine Does.call [] rfl Tryz.func26 rfl rfl rfl ?_;refine(freeFrame_any w').mono ?_;rintro e w'' ⟨rfl,hg2⟩;exact⟨_,rfl,hg2,rfl,trivial⟩
 subst hv;have hq:=fun W=>fr_eq b0 b1 b2 b3 b4 b5 b6 b7 r u d f x 0 0 0 0 0 0 0 0 0 Xd Xd (-1) 0 W
 simp only[show(⟨⟨0,0,0,0,0,0,0,0⟩,0,Xd,Xd,-1,0⟩:Fr)=frF from rfl,HFR.out]at hq
 simp only[Ye,sB,sS,sZ,frv,frF,pg0];iterate 3 (refine lax_quiet rfl rfl rfl (fun K hK=>?_);go_big_quiet_op;refine hK _ ?_;clear hK K)
 iterate 8 (refine lax_skip ?_ ?_;kernel_rfl;simp only[Ye,sB,sS,sZ])
 iterate 1 (refine lax_quiet rfl rfl rfl (fun K hK=>?_);go_big_quiet_op;refine hK _ ?_;clear hK K)
 refine lax_nil fun w1 hg1 hF=>?_
 have HG1:=dD (HG0.out.trans hg1);go_wp2;go_ret;exact⟨rfl,HG1.out⟩
theorem wf5 (b0 b1 b2 b3 b4 b5 b6 b7 r:Int) (u d:Bool) (f x:Int) (w:Xn) (hb1:inB r 1001=Xc) (hb2:inB x 12=Xc) (hf:(f != -1)=Xc) (_hfe:(f == -1)=Xd) (hb3:inB f 5=Xc) (hr:(r == 0)=Xd):
  Xp Tryz.prog 108 #[Xi #[Xe Xg b0,Xe Xg b1,Xe Xg b2,Xe Xg b3,Xe Xg b4,Xe Xg b5,Xe Xg b6,Xe Xg b7,Xe Xf r,Xh u,Xh d,Xe Xf f,Xe Xf x]] w fun e w'=>e= Xl (Xe Xf 0)/\Grew w w':=by
 go_enter Tryz.func108,Tryz.ntmps108
 go_wp2_with (go_at_call 109;refine(frBelow_any _ _ _).mono ?_;rintro e w' ⟨rfl,rfl⟩)
 obtain⟨W0,hW0⟩:∃W0,w.alloc (Xk #[Xe Xg b0,Xe Xg b1,Xe Xg b2,Xe Xg b3,Xe Xg b4,Xe Xg b5,Xe Xg b6,Xe Xg b7,Xe Xf r,Xh u,Xh d,Xe Xf f,Xe Xf x] 93)=W0:=⟨_,rfl⟩;have HG0:=gA hW0
 have X0:=xA hW0
 rw[hW0];clear hW0;have hx0:=X0.out.gw 0 rfl
 have hx1:=X0.out.gw 1 rfl
 have hx2:=X0.out.gw 2 rfl
 have hx3:=X0.out.gw 3 rfl
 have hx4:=X0.out.gw 4 rfl
 have hx5:=X0.out.gw 5 rfl
 have hx6:=X0.out.gw 6 rfl
 have hx7:=X0.out.gw 7 rfl
 have hx8:=X0.out.gw 8 rfl
 have hx9:=X0.out.gw 9 rfl
 have hx10:=X0.out.gw 10 rfl
 have hx11:=X0.out.gw 11 rfl
 have hx12:=X0.out.gw 12 rfl
 have hne:Nonempty (GrownW W0):=⟨⟨_,Grew.refl _⟩⟩;refine wp_lax [(5,⟨fun v=>v= Xi (frv frF).toArray,fun _ _=>True⟩)] mixed (by kernel_rfl) ?_ ?_ ?_
 ·intro x hx
  simp at hx
  subst hx;exact⟨_,rfl⟩
 ·intro x hx
  simp at hx
  subst hx;exact fun _ _ _ _ h=>h
 iterate 4 (refine lax_quiet rfl rfl rfl (fun K hK=>?_);go_big_quiet_op;refine hK _ ?_;clear hK K)
 iterate 3 (refine lax_skip ?_ ?_;kernel_rfl;simp only[Ye,sB,sS,sZ])
 iterate 6 (refine lax_quiet rfl rfl rfl (fun K hK=>?_);go_big_quiet_op;refine hK _ ?_;clear hK K)
 iterate 3 (refine lax_skip ?_ ?_;kernel_rfl;simp only[Ye,sB,sS,sZ])
 iterate 2 (refine lax_quiet rfl rfl rfl (fun K hK=>?_);go_big_quiet_op;refine hK _ ?_;clear hK K)
 refine lax_nil fun w1 hg1 hF=>?_
 have HG1:=dD (HG0.out.trans hg1);go_wp2;go_ret;exact⟨rfl,HG1.out⟩
theorem wf6 (b0 b1 b2 b3 b4 b5 b6 b7 r:Int) (u d:Bool) (f x:Int) (w:Xn) (hb1:inB r 1001=Xc) (hb2:inB x 12=Xc) (hf:(f != -1)=Xd) (_hfe:(f == -1)=Xc) (hr:(r == 0)=Xc) (hfr:frEqB (⟨⟨b0,b1,b2,b3,b4,b5,b6,b7⟩,r,u,d,f,x⟩:Fr) frF=Xd):
  Xp Tryz.prog 108 #[Xi #[Xe Xg b0,Xe Xg b1,Xe Xg b2,Xe Xg b3,Xe Xg b4,Xe Xg b5,Xe Xg b6,Xe Xg b7,Xe Xf r,Xh u,Xh d,Xe Xf f,Xe Xf x]] w fun e w'=>e= Xl (Xe Xf 7)/\Grew w w':=by
 have HFR:Xo _:=hfr;clear hfr
 go_enter Tryz.func108,Tryz.ntmps108
 go_wp2_with (go_at_call 109;refine(frBelow_any _ _ _).mono ?_;rintro e w' ⟨rfl,rfl⟩)
 obtain⟨W0,hW0⟩:∃W0,w.alloc (Xk #[Xe Xg b0,Xe Xg b1,Xe Xg b2,Xe Xg b3,Xe Xg b4,Xe Xg b5,Xe Xg b6,Xe Xg b7,Xe Xf r,Xh u,Xh d,Xe Xf f,Xe Xf x] 93)=W0:=⟨_,rfl⟩;have HG0:=gA hW0
 have X0:=xA hW0
 rw[hW0];clear hW0;have hx0:=X0.out.gw 0 rfl
 have hx1:=X0.out.gw 1 rfl
 have hx2:=X0.out.gw 2 rfl
 have hx3:=X0.out.gw 3 rfl
 have hx4:=X0.out.gw 4 rfl
 have hx5:=X0.out.gw 5 rfl
 have hx6:=X0.out.gw 6 rfl
 have hx7:=X0.out.gw 7 rfl
 have hx8:=X0.out.gw 8 rfl
 have hx9:=X0.out.gw 9 rfl
 have hx10:=X0.out.gw 10 rfl
 have hx11:=X0.out.gw 11 rfl
 have hx12:=X0.out.gw 12 rfl
 have hne:Nonempty (GrownW W0):=⟨⟨_,Grew.refl _⟩⟩;refine wp_lax [(5,⟨fun v=>v= Xi (frv frF).toArray,fun _ _=>True⟩)] mixed (by kernel_rfl) ?_ ?_ ?_
 ·intro x hx
  simp at hx
  subst hx;exact⟨_,rfl⟩
 ·intro x hx
  simp at hx
  subst hx;exact fun _ _ _ _ h=>h
 iterate 5 (refine lax_quiet rfl rfl rfl (fun K hK=>?_);go_big_quiet_op;refine hK _ ?_;clear hK K)
 refine lax_spec rfl rfl (fun w' hg hF=>?_) (fun v1 hv=>?_)
 ·refine Does.call [] rfl Tryz.func26 rfl rfl rfl ?_;refine(freeFrame_any w').mono ?_;rintro e w'' ⟨rfl,hg2⟩;exact⟨_,rfl,hg2,rfl,trivial⟩
 subst hv;have hq:=fun W=>fr_eq b0 b1 b2 b3 b4 b5 b6 b7 r u d f x 0 0 0 0 0 0 0 0 0 Xd Xd (-1) 0 W
 simp only[show(⟨⟨0,0,0,0,0,0,0,0⟩,0,Xd,Xd,-1,0⟩:Fr)=frF from rfl,HFR.out]at hq
 simp only[Ye,sB,sS,sZ,frv,frF,pg0];iterate 3 (refine lax_quiet rfl rfl rfl (fun K hK=>?_);go_big_quiet_op;refine hK _ ?_;clear hK K)
 iterate 8 (refine lax_skip ?_ ?_;kernel_rfl;simp only[Ye,sB,sS,sZ])
 iterate 1 (refine lax_quiet rfl rfl rfl (fun K hK=>?_);go_big_quiet_op;refine hK _ ?_;clear hK K)
 refine lax_nil fun w1 hg1 hF=>?_
 have HG1:=dD (HG0.out.trans hg1);go_wp2;go_ret;exact⟨rfl,HG1.out⟩
theorem wf7 (b0 b1 b2 b3 b4 b5 b6 b7 r:Int) (u d:Bool) (f x:Int) (w:Xn) (hb1:inB r 1001=Xc) (hb2:inB x 12=Xc) (hf:(f != -1)=Xd) (_hfe:(f == -1)=Xc) (hr:(r == 0)=Xc) (hfr:frEqB (⟨⟨b0,b1,b2,b3,b4,b5,b6,b7⟩,r,u,d,f,x⟩:Fr) frF=Xc) (hx:(x != 0)=Xd):
  Xp Tryz.prog 108 #[Xi #[Xe Xg b0,Xe Xg b1,Xe Xg b2,Xe Xg b3,Xe Xg b4,Xe Xg b5,Xe Xg b6,Xe Xg b7,Xe Xf r,Xh u,Xh d,Xe Xf f,Xe Xf x]] w fun e w'=>e= Xl (Xe Xf 0)/\Grew w w':=by
 have HFR:Xo _:=hfr;clear hfr
 go_enter Tryz.func108,Tryz.ntmps108
 go_wp2_with (go_at_call 109;refine(frBelow_any _ _ _).mono ?_;rintro e w' ⟨rfl,rfl⟩)
 obtain⟨W0,hW0⟩:∃W0,w.alloc (Xk #[Xe Xg b0,Xe Xg b1,Xe Xg b2,Xe Xg b3,Xe Xg b4,Xe Xg b5,Xe Xg b6,Xe Xg b7,Xe Xf r,Xh u,Xh d,Xe Xf f,Xe Xf x] 93)=W0:=⟨_,rfl⟩;have HG0:=gA hW0
 have X0:=xA hW0
 rw[hW0];clear hW0;have hx0:=X0.out.gw 0 rfl
 have hx1:=X0.out.gw 1 rfl
 have hx2:=X0.out.gw 2 rfl
 have hx3:=X0.out.gw 3 rfl
 have hx4:=X0.out.gw 4 rfl
 have hx5:=X0.out.gw 5 rfl
 have hx6:=X0.out.gw 6 rfl
 have hx7:=X0.out.gw 7 rfl
 have hx8:=X0.out.gw 8 rfl
 have hx9:=X0.out.gw 9 rfl
 have hx10:=X0.out.gw 10 rfl
 have hx11:=X0.out.gw 11 rfl
 have hx12:=X0.out.gw 12 rfl
 have hne:Nonempty (GrownW W0):=⟨⟨_,Grew.refl _⟩⟩;refine wp_lax [(5,⟨fun v=>v= Xi (frv frF).toArray,fun _ _=>True⟩)] mixed (by kernel_rfl) ?_ ?_ ?_
 ·intro x hx
  simp at hx
  subst hx;exact⟨_,rfl⟩
 ·intro x hx
  simp at hx
  subst hx;exact fun _ _ _ _ h=>h
 iterate 5 (refine lax_quiet rfl rfl rfl (fun K hK=>?_);go_big_quiet_op;refine hK _ ?_;clear hK K)
 refine lax_spec rfl rfl (fun w' hg hF=>?_) (fun v1 hv=>?_)
 ·refine Does.call [] rfl Tryz.func26 rfl rfl rfl ?_;refine(freeFrame_any w').mono ?_;rintro e w'' ⟨rfl,hg2⟩;exact⟨_,rfl,hg2,rfl,trivial⟩
 subst hv;have hq:=fun W=>fr_eq b0 b1 b2 b3 b4 b5 b6 b7 r u d f x 0 0 0 0 0 0 0 0 0 Xd Xd (-1) 0 W
 simp only[show(⟨⟨0,0,0,0,0,0,0,0⟩,0,Xd,Xd,-1,0⟩:Fr)=frF from rfl,HFR.out]at hq
 simp only[Ye,sB,sS,sZ,frv,frF,pg0];iterate 12 (refine lax_quiet rfl rfl rfl (fun K hK=>?_);go_big_quiet_op;refine hK _ ?_;clear hK K)
 refine lax_nil fun w1 hg1 hF=>?_
 have HG1:=dD (HG0.out.trans hg1);go_wp2;go_ret;exact⟨rfl,HG1.out⟩
theorem wf8 (b0 b1 b2 b3 b4 b5 b6 b7 r:Int) (u d:Bool) (f x:Int) (w:Xn) (hb1:inB r 1001=Xc) (hb2:inB x 12=Xc) (hf:(f != -1)=Xd) (_hfe:(f == -1)=Xc) (hr:(r == 0)=Xd) (hx:(x != 0)=Xc):
  Xp Tryz.prog 108 #[Xi #[Xe Xg b0,Xe Xg b1,Xe Xg b2,Xe Xg b3,Xe Xg b4,Xe Xg b5,Xe Xg b6,Xe Xg b7,Xe Xf r,Xh u,Xh d,Xe Xf f,Xe Xf x]] w fun e w'=>e= Xl (Xe Xf 7)/\Grew w w':=by
 go_enter Tryz.func108,Tryz.ntmps108
 go_wp2_with (go_at_call 109;refine(frBelow_any _ _ _).mono ?_;rintro e w' ⟨rfl,rfl⟩)
 obtain⟨W0,hW0⟩:∃W0,w.alloc (Xk #[Xe Xg b0,Xe Xg b1,Xe Xg b2,Xe Xg b3,Xe Xg b4,Xe Xg b5,Xe Xg b6,Xe Xg b7,Xe Xf r,Xh u,Xh d,Xe Xf f,Xe Xf x] 93)=W0:=⟨_,rfl⟩;have HG0:=gA hW0
 have X0:=xA hW0
 rw[hW0];clear hW0;have hx0:=X0.out.gw 0 rfl
 have hx1:=X0.out.gw 1 rfl
 have hx2:=X0.out.gw 2 rfl
 have hx3:=X0.out.gw 3 rfl
 have hx4:=X0.out.gw 4 rfl
 have hx5:=X0.out.gw 5 rfl
 have hx6:=X0.out.gw 6 rfl
 have hx7:=X0.out.gw 7 rfl
 have hx8:=X0.out.gw 8 rfl
 have hx9:=X0.out.gw 9 rfl
 have hx10:=X0.out.gw 10 rfl
 have hx11:=X0.out.gw 11 rfl
 have hx12:=X0.out.gw 12 rfl
 have hne:Nonempty (GrownW W0):=⟨⟨_,Grew.refl _⟩⟩;refine wp_lax [(5,⟨fun v=>v= Xi (frv frF).toArray,fun _ _=>True⟩)] mixed (by kernel_rfl) ?_ ?_ ?_
 ·intro x hx
  simp at hx
  subst hx;exact⟨_,rfl⟩
 ·intro x hx
  simp at hx
  subst hx;exact fun _ _ _ _ h=>h
 iterate 4 (refine lax_quiet rfl rfl rfl (fun K hK=>?_);go_big_quiet_op;refine hK _ ?_;clear hK K)
 iterate 3 (refine lax_skip ?_ ?_;kernel_rfl;simp only[Ye,sB,sS,sZ])
 iterate 11 (refine lax_quiet rfl rfl rfl (fun K hK=>?_);go_big_quiet_op;refine hK _ ?_;clear hK K)
 refine lax_nil fun w1 hg1 hF=>?_
 have HG1:=dD (HG0.out.trans hg1);go_wp2;go_ret;exact⟨rfl,HG1.out⟩
theorem wf9 (b0 b1 b2 b3 b4 b5 b6 b7 r:Int) (u d:Bool) (f x:Int) (w:Xn) (hb1:inB r 1001=Xc) (hb2:inB x 12=Xc) (hf:(f != -1)=Xd) (_hfe:(f == -1)=Xc) (hr:(r == 0)=Xd) (hx:(x != 0)=Xd):
  Xp Tryz.prog 108 #[Xi #[Xe Xg b0,Xe Xg b1,Xe Xg b2,Xe Xg b3,Xe Xg b4,Xe Xg b5,Xe Xg b6,Xe Xg b7,Xe Xf r,Xh u,Xh d,Xe Xf f,Xe Xf x]] w fun e w'=>e= Xl (Xe Xf 0)/\Grew w w':=by
 go_enter Tryz.func108,Tryz.ntmps108
 go_wp2_with (go_at_call 109;refine(frBelow_any _ _ _).mono ?_;rintro e w' ⟨rfl,rfl⟩)
 obtain⟨W0,hW0⟩:∃W0,w.alloc (Xk #[Xe Xg b0,Xe Xg b1,Xe Xg b2,Xe Xg b3,Xe Xg b4,Xe Xg b5,Xe Xg b6,Xe Xg b7,Xe Xf r,Xh u,Xh d,Xe Xf f,Xe Xf x] 93)=W0:=⟨_,rfl⟩;have HG0:=gA hW0
 have X0:=xA hW0
 rw[hW0];clear hW0;have hx0:=X0.out.gw 0 rfl
 have hx1:=X0.out.gw 1 rfl
 have hx2:=X0.out.gw 2 rfl
 have hx3:=X0.out.gw 3 rfl
 have hx4:=X0.out.gw 4 rfl
 have hx5:=X0.out.gw 5 rfl
 have hx6:=X0.out.gw 6 rfl
 have hx7:=X0.out.gw 7 rfl
 have hx8:=X0.out.gw 8 rfl
 have hx9:=X0.out.gw 9 rfl
 have hx10:=X0.out.gw 10 rfl
 have hx11:=X0.out.gw 11 rfl
 have hx12:=X0.out.gw 12 rfl
 have hne:Nonempty (GrownW W0):=⟨⟨_,Grew.refl _⟩⟩;refine wp_lax [(5,⟨fun v=>v= Xi (frv frF).toArray,fun _ _=>True⟩)] mixed (by kernel_rfl) ?_ ?_ ?_
 ·intro x hx
  simp at hx
  subst hx;exact⟨_,rfl⟩
 ·intro x hx
  simp at hx
  subst hx;exact fun _ _ _ _ h=>h
 iterate 4 (refine lax_quiet rfl rfl rfl (fun K hK=>?_);go_big_quiet_op;refine hK _ ?_;clear hK K)
 iterate 3 (refine lax_skip ?_ ?_;kernel_rfl;simp only[Ye,sB,sS,sZ])
 iterate 11 (refine lax_quiet rfl rfl rfl (fun K hK=>?_);go_big_quiet_op;refine hK _ ?_;clear hK K)
 refine lax_nil fun w1 hg1 hF=>?_
 have HG1:=dD (HG0.out.trans hg1);go_wp2;go_ret;exact⟨rfl,HG1.out⟩
theorem wrongFrame_any (a:Fr) (w:Xn):Xp Tryz.prog 108 #[Xi (frv a).toArray] w fun e w'=>e= Xl (Xe Xf (frW a))/\Grew w w':=by
 obtain⟨⟨b0,b1,b2,b3,b4,b5,b6,b7⟩,r,u,d,f,x⟩:=a
 show Xp Tryz.prog 108 #[Xi #[Xe Xg b0,Xe Xg b1,Xe Xg b2,Xe Xg b3,Xe Xg b4,Xe Xg b5,Xe Xg b6,Xe Xg b7,Xe Xf r,Xh u,Xh d,Xe Xf f,Xe Xf x]] w _
 cases hb1:inB r 1001 with
 | false=>rw[show frW (⟨⟨b0,b1,b2,b3,b4,b5,b6,b7⟩,r,u,d,f,x⟩:Fr)=3 from by simp[frW,hb1]];exact wf1 _ _ _ _ _ _ _ _ _ _ _ _ _ w hb1
 | true=>
 cases hb2:inB x 12 with
 | false=>rw[show frW (⟨⟨b0,b1,b2,b3,b4,b5,b6,b7⟩,r,u,d,f,x⟩:Fr)=3 from by simp[frW,hb1,hb2]];exact wf2 _ _ _ _ _ _ _ _ _ _ _ _ _ w hb1 hb2
 | true=>
 by_cases hf:f=-1
 ·have hfe:(f == -1)=Xc:=by simp[hf]
  have hfn:(f != -1)=Xd:=by simp[hf]
  by_cases hr:r=0
  ·have hre:(r == 0)=Xc:=by simp[hr]
   cases hfr:frEqB (⟨⟨b0,b1,b2,b3,b4,b5,b6,b7⟩,r,u,d,f,x⟩:Fr) frF with
   | false=>rw[show frW (⟨⟨b0,b1,b2,b3,b4,b5,b6,b7⟩,r,u,d,f,x⟩:Fr)=7 from by simp only[frW,hb1,hb2,hfe,hre,hfr];rfl];exact wf6 _ _ _ _ _ _ _ _ _ _ _ _ _ w hb1 hb2 hfn hfe hre hfr
   | true=>
    have hx:x=0:=by have:=frEqB_eq hfr;simp only[frF,Fr.mk.injEq]at this;exact this.2.2.2.2.2
    rw[show frW (⟨⟨b0,b1,b2,b3,b4,b5,b6,b7⟩,r,u,d,f,x⟩:Fr)=0 from by subst hx;simp only[frW,hb1,hb2,hfe,hre,hfr];rfl]
    exact wf7 _ _ _ _ _ _ _ _ _ _ _ _ _ w hb1 hb2 hfn hfe hre hfr (by simp[hx])
  have hre:(r == 0)=Xd:=by simp[hr]
  by_cases hx:x=0
  ·rw[show frW (⟨⟨b0,b1,b2,b3,b4,b5,b6,b7⟩,r,u,d,f,x⟩:Fr)=0 from by subst hx;simp only[frW,hb1,hb2,hfe,hre];rfl]
   exact wf9 _ _ _ _ _ _ _ _ _ _ _ _ _ w hb1 hb2 hfn hfe hre (by simp[hx])
  have hxe:(x == 0)=Xd:=by simp[hx]
  rw[show frW (⟨⟨b0,b1,b2,b3,b4,b5,b6,b7⟩,r,u,d,f,x⟩:Fr)=7 from by simp only[frW,hb1,hb2,hfe,hre,hxe];rfl]
  exact wf8 _ _ _ _ _ _ _ _ _ _ _ _ _ w hb1 hb2 hfn hfe hre (by simp[hx])
 have hfe:(f == -1)=Xd:=by simp[hf]
 have hfn:(f != -1)=Xc:=by simp[hf]
 cases hb3:inB f 5 with
 | false=>rw[show frW (⟨⟨b0,b1,b2,b3,b4,b5,b6,b7⟩,r,u,d,f,x⟩:Fr)=3 from by simp only[frW,hb1,hb2,hfe,hb3];rfl];exact wf3 _ _ _ _ _ _ _ _ _ _ _ _ _ w hb1 hb2 hfn hb3
 | true=>
  by_cases hr:r=0
  ·have hre:(r == 0)=Xc:=by simp[hr]
   have hfr:frEqB (⟨⟨b0,b1,b2,b3,b4,b5,b6,b7⟩,r,u,d,f,x⟩:Fr) frF=Xd:=by
    refine frEqB_ne fun h=>?_
    simp only[frF,Fr.mk.injEq]at h;exact hf h.2.2.2.2.1
   rw[show frW (⟨⟨b0,b1,b2,b3,b4,b5,b6,b7⟩,r,u,d,f,x⟩:Fr)=7 from by simp only[frW,hb1,hb2,hfe,hb3,hre,hfr];rfl]
   exact wf4 _ _ _ _ _ _ _ _ _ _ _ _ _ w hb1 hb2 hfn hfe hb3 hre hfr
  have hre:(r == 0)=Xd:=by simp[hr]
  rw[show frW (⟨⟨b0,b1,b2,b3,b4,b5,b6,b7⟩,r,u,d,f,x⟩:Fr)=0 from by simp only[frW,hb1,hb2,hfe,hb3,hre];rfl]
  exact wf5 _ _ _ _ _ _ _ _ _ _ _ _ _ w hb1 hb2 hfn hfe hb3 hre
theorem slWrong1_any (z:Int) (w:Xn):
  Xp Tryz.prog 111 #[Xe Xf z] w fun e w'=>e= Xl (Xh (badS z))/\Grew w w':=by
 by_cases h0:z<0
 ·have HF:Xo (badS z=Xc):=show _=_ by simp[badS,h0]
  go_enter Tryz.func111,Tryz.ntmps111
  go_wp2;go_ret;exact⟨by rw[HF.out];rfl,Grew.refl _⟩
 by_cases h1:1000<z
 ·have HF:Xo (badS z=Xc):=show _=_ by simp[badS,h1]
  go_enter Tryz.func111,Tryz.ntmps111
  go_wp2;go_ret;exact⟨by rw[HF.out];rfl,Grew.refl _⟩
 have HF:Xo (badS z=Xd):=show _=_ by simp[badS];omega
 go_enter Tryz.func111,Tryz.ntmps111
 go_wp2;go_ret;exact⟨by rw[HF.out];rfl,Grew.refl _⟩
theorem first_at {p:Int->Bool} {fs:List Int} {k:Nat} {q:Int} (h:fs[k]? =Xa q) (hq:p q=Xc) (hb:∀(j:Nat) x,j<k->fs[j]? =Xa x->p x=Xd):fs.findIdx p=k:=by
 obtain⟨hlt,rfl⟩:=gS.1 h;refine(List.findIdx_eq hlt).2 ⟨hq,fun j hj=>?_⟩
 exact hb j _ hj (gE (by omega))
theorem first_no {p:Int->Bool} {fs:List Int} (hb:∀(j:Nat) x,fs[j]? =Xa x->p x=Xd):fs.findIdx p=fs.length:=by
 refine List.findIdx_eq_length.2 fun x hx=>?_
 obtain⟨j,hj⟩:=Xt hx;exact hb j x hj
theorem any_at {p:Int->Bool} {fs:List Int} {k:Nat} {q:Int} (h:fs[k]? =Xa q) (hq:p q=Xc):fs.any p=Xc:=Xy.2 ⟨q,mG h,hq⟩
theorem any_no {p:Int->Bool} {fs:List Int} (hb:∀(j:Nat) x,fs[j]? =Xa x->p x=Xd):fs.any p=Xd:=Yv.2 fun x hx=>by
 obtain⟨j,hj⟩:=Xt hx;rw[hb j x hj]
 decide
theorem indexBad_any (v:Xq) (fs:List Int) (w:Xn) (hv:RowAt slE w v fs):
  Xp Tryz.prog 163 #[v,.func (.func 111) #[] #[]] w fun e w'=>(∃z:Int,e= Xl (Xe Xf z)/\decide (0<=z)=fs.any badS)/\Grew w w':=by
 have hbig:=hv.short;obtain⟨a,c,rfl,hrow⟩:=hv.sls;have HR:Xo (SlRows w a fs):=hrow;have eg:=enters_of Tryz.func111 (by kernel_rfl) rfl
 clear hrow hv;obtain⟨n,HN⟩:∃n,Xo (fs.length=n):=⟨_,rfl⟩;rw[HN.out]at hbig⊢
 go_enter Tryz.func163,Tryz.ntmps163
 go_wp2
 go_loopg [5,8] n (fun gg _ s8 wr=>∃kk:Nat,kk<=n/\n - kk<=gg/\s8= Xe Xf kk/\Xo (Grew w wr)/\Xo (∀j q,j<kk->fs[j]? =Xa q->badS q=Xd))
 case atStart=>exact⟨0,nZ _,by omega,rfl,Grew.refl w,fun j q hj=>absurd hj (nL _)⟩
 obtain⟨kk,hkk,hg,rfl,BW,A⟩:=hrel
 by_cases hlt:kk<n
 ·have hltz:(kk:Int)< (n:Int):=by omega
  obtain⟨q,HQ⟩:∃q,Xo (fs[kk]? =Xa q):=⟨_,gE (by rw[HN.out];exact hlt)⟩
  obtain⟨ad,rfl,hl⟩:=HR.out kk q HQ.out;have d0:=hl wr BW.out;have hcall:Xp Tryz.prog 111 #[Xe Xf q] wr fun e w'=>e= Xl (Xh (badS q))/\Grew wr w':=slWrong1_any q wr
  clear hl
  cases hq:badS q with
  | true=>
   rw[hq]at hcall;have HF:Xo (decide (0<=(kk:Int))=fs.any badS):=show _=_ by rw[any_at HQ.out hq];simp
   clear hq
   go_wp2_with (go_at_call 111;refine hcall.mono ?_;rintro e w' ⟨rfl,hb'⟩)
   go_ret;exact⟨⟨_,rfl,HF.out⟩,BW.out.trans hb'⟩
  | false=>
   rw[hq]at hcall;have HA:Xo (∀(j:Nat) q,j<kk+1->fs[j]? =Xa q->badS q=Xd):=show∀(j:Nat) q,_ from fun j q' hj hq'=>by
    by_cases e:j=kk
    ·subst e;rw[HQ.out]at hq';cases hq';exact hq
    exact A.out j q' (by omega) hq'
   clear hq
   go_wp2_with (go_at_call 111;refine hcall.mono ?_;rintro e w' ⟨rfl,hb'⟩)
   go_roundg (n -(kk+1))
   case measure=>omega
   exact⟨kk+1,by omega,by omega,by go_num,BW.out.trans hb',HA.out⟩
 have hltz:¬(kk:Int)< (n:Int):=by omega
 have:kk=n:=by omega
 subst this;have HF:Xo (decide (0<=(-1:Int))=fs.any badS):=show _=_ by
  rw[any_no (fun j q hj=>A.out j q (by rw[<-HN.out];exact(gS.1 hj).1) hj)]
  rfl
 go_wp2;go_ret;exact⟨⟨_,rfl,HF.out⟩,BW.out⟩
theorem anyBad_any (v:Xq) (fs:List Int) (w:Xn) (hv:RowAt slE w v fs):
  Xp Tryz.prog 110 #[v,.func (.func 111) #[] #[]] w fun e w'=>e= Xl (Xh (fs.any badS))/\Grew w w':=by
 have h1:=indexBad_any v fs w hv;obtain⟨a,c,rfl,_⟩:=hv.sls;clear hv
 generalize fs.any badS=bb at h1⊢
 go_enter Tryz.func110,Tryz.ntmps110
 go_wp2_with fail;refine h1.mono ?_;rintro e W1 ⟨⟨z,rfl,hz⟩,g1⟩;have G1:Xo (Grew w W1):=g1;have HF:Xo (decide (0<=z)=bb):=hz;clear g1 hz h1;go_wp2;go_ret;exact⟨by rw[HF.out];rfl,G1.out⟩
theorem wrongS_any (a:Option Addr) (c:Nat) (s:List Int) (w:Xn) (hv:RowAt slE w (O a s.length c) s):
  Xp Tryz.prog 59 #[O a s.length c] w fun e w'=>e= Xl (Xe Xf (slW s))/\Grew w w':=by
 have h1:=anyBad_any _ s w hv;have HM:Xo (slW s=if 60<s.length then 4 else if s.any badS then 3 else 0):=rfl;have hbig:=hv.short;obtain⟨n,HN⟩:∃n,Xo (s.length=n):=⟨_,rfl⟩;rw[HN.out]at h1 HM hbig⊢;clear hv
 generalize s.any badS=bb at h1 HM
 by_cases h60:60<n
 ·have h60z:(60:Int)< (n:Int):=by omega
  have HF:Xo (slW s=4):=show _=_ by rw[HM.out,if_pos h60]
  clear HM h1
  go_enter Tryz.func59,Tryz.ntmps59
  go_wp2;go_ret;exact⟨by rw[HF.out];rfl,Grew.refl _⟩
 have h60z:¬(60:Int)< (n:Int):=by omega
 rw[if_neg h60]at HM
 cases bb with
 | true=>
  have HF:Xo (slW s=3):=HM.out;clear HM
  go_enter Tryz.func59,Tryz.ntmps59
  go_wp2_with fail;refine h1.mono ?_;rintro e W1 ⟨rfl,g1⟩;have G1:Xo (Grew w W1):=g1;clear g1 h1;go_wp2;go_ret;exact⟨by rw[HF.out];rfl,G1.out⟩
 | false=>
  have HF:Xo (slW s=0):=HM.out;clear HM
  go_enter Tryz.func59,Tryz.ntmps59
  go_wp2_with fail;refine h1.mono ?_;rintro e W1 ⟨rfl,g1⟩;have G1:Xo (Grew w W1):=g1;clear g1 h1;go_wp2;go_ret;exact⟨by rw[HF.out];rfl,G1.out⟩
def marks (n:Nat) (g:List Int):List Xq:=(Xx n).map fun(i:Nat)=> Xh (g.contains (i:Int))
theorem marks_at {n:Nat} (g:List Int) {i:Nat} (hi:i<n):(marks n g)[i]? =Xa (Xh (g.contains (i:Int))):=by
 unfold marks;rw[Xw,Xs hi];rfl
theorem marks_set {n:Nat} (g:List Int) {i:Nat} (hi:i<n):(marks n g).set i (Xh Xc)=marks n ((i:Int) :: g):=by
 apply Yu
 intro j
 by_cases e:j=i
 ·subst e;rw[sF (by simp[marks,hi]),marks_at _ hi]
  simp
 rw[sN (fun h=>e h.symm)]
 rcases Nat.lt_or_ge j n with hj | hj
 ·rw[marks_at _ hj,marks_at _ hj];have:¬((j:Int)=(i:Int)):=by omega
  simp[this]
 rw[gN (by simp[marks,hj]),gN (by simp[marks,hj])]
theorem marks_nil:marks 80 []=Xr 80 (Xh Xd):=by
 unfold marks
 simp[List.map_const']
theorem give_any (b cnt:Int) (g:List Int) (pc pg:Nat) (w:Xn) (hc:Box w pc [Xe Xf cnt]) (hg:Box w pg (marks 80 g)) (hn:cnt<=80):
  Xp Tryz.prog 165 #[Xe Xf b,Xj (Xa ⟨pc,0,Xb⟩),Xj (Xa ⟨pg,0,Xb⟩)] w fun e w'=>e= Xl (Xe Xf (giveE cnt g b))/\(giveE cnt g b=0->Box w' pg (marks 80 (giveG g b)))/\w.grownBy w' (Xa pg)/\w'.heap.size=w.heap.size:=by
 have c0:=hc.c 0 rfl;have HG:Xo (Box w pg (marks 80 g)):=hg
 rcases giveE_cases cnt g b with⟨h1,h2,h3⟩ | ⟨h1,h2,h3⟩ | ⟨i,h1,h2,h3,h4⟩ | ⟨i,h1,h2,h3,h4,h5⟩
 ·rw[h2];have HP:Xo (Box w pg (marks 80 (giveG g b))):=show Box _ _ _ by rw[h3];exact hg
  subst h1;clear hc hg h2 h3
  generalize giveG g (-1)=gg at HP⊢
  go_enter Tryz.func165,Tryz.ntmps165
  go_wp2;go_ret;exact⟨rfl,fun _=>HP.out,World.grownBy.rfl' _ _,rfl⟩
 ·rw[h3];have hb:=below_no h2 w;have hb1:(b == -1)=Xd:=by simpa using h1
  clear hc hg h2 h3
  generalize giveG g b=gg
  go_enter Tryz.func165,Tryz.ntmps165
  go_wp2_with (go_at_call 27;refine hb.mono ?_;rintro e w' ⟨rfl,rfl⟩)
  go_ret;exact⟨rfl,fun h=>by omega,World.grownBy.rfl' _ _,rfl⟩
 ·rw[h4];subst h1;have hi:i<80:=by omega
  have hb:=below_yes (m:=(i:Int)) (n:=cnt) (by omega) h2 w
  have hb1:((i:Int) == -1)=Xd:=by simp
  have d0:=hg.c i (marks_at g hi);rw[h3]at d0
  generalize giveG g (i:Int)=gg
  clear hc hg h2 h3 h4
  go_enter Tryz.func165,Tryz.ntmps165
  go_wp2_with (go_at_call 27;refine hb.mono ?_;rintro e w' ⟨rfl,rfl⟩)
  go_ret;exact⟨rfl,fun h=>by omega,World.grownBy.rfl' _ _,rfl⟩
 rw[h4];subst h1;have hi:i<80:=by omega
 have hb:=below_yes (m:=(i:Int)) (n:=cnt) (by omega) h2 w
 have hb1:((i:Int) == -1)=Xd:=by simp
 have d0:=hg.c i (marks_at g hi);have f0:=hg.f;rw[h3]at d0;have HP:Xo (Box (w.setCell ⟨pg,i,Xb⟩ (Xh Xc)) pg (marks 80 (giveG g (i:Int)))):=show Box _ _ _ by
  rw[h5,<-marks_set g hi];exact hg.set i _
 generalize giveG g (i:Int)=gg at HP
 clear hc hg h2 h3 h4 h5
 go_enter Tryz.func165,Tryz.ntmps165
 go_wp2_with (go_at_call 27;refine hb.mono ?_;rintro e w' ⟨rfl,rfl⟩)
 go_ret;exact⟨rfl,fun _=>HP.out,⟨rfl,rfl,rfl,by simp[World.setCell],fun k hk hne=>Below.heap_setCell _ _ _ _ (fun e=>hne (by rw[e]))⟩,by simp[World.setCell]⟩
def zGiven:Array Xq:=(Xr 80 (Xh Xd)).toArray
theorem zGiven_info:(Tryz.prog.info? 114).map (fun i=>i.zero)=Xa (Xa (Xi zGiven)):=by kernel_rfl
theorem run_zGiven (w:Xn):(zeroValue 114).run Tryz.prog w= .ok (Xi zGiven) w:=by
 have h:=zGiven_info
 cases hq:Tryz.prog.info? 114 with
 | none=>simp[hq]at h
 | some i=>
  simp[hq]at h
  simp[zeroValue,typeInfo,hq,h]
theorem giver_any (cnt:Int) (w:Xn):
  Xp Tryz.prog 115 #[Xe Xf cnt] w fun e w'=>e= Xl (.func (.func 165) #[] #[Xj (Xa ⟨w.heap.size,0,Xb⟩),Xj (Xa ⟨w.heap.size+1,0,Xb⟩)])/\Box w' w.heap.size [Xe Xf cnt]/\Box w' (w.heap.size+1) (marks 80 [])/\Grew w w'/\w'.heap.size=w.heap.size+2:=by
 have hmf:∀(fn:Fn) (first cap:Array Xq) (w:Xn),(Instr.makeFunc fn first cap).run Tryz.prog w= .ok (.func fn first cap) w:=fun _ _ _ _=>rfl
 have hz:=run_zGiven;rw[marks_nil]
 go_enter Tryz.func115,Tryz.ntmps115
 go_wp2;go_ret;exact⟨rfl,(Box.top w _ _ rfl).alloc _,Box.top _ (Xr 80 (Xh Xd)) _ (by simp),(grew_alloc _ _).trans (grew_alloc _ _),by simp⟩
theorem blG_snoc (g l:List Int) (b:Int):blG g (l++ [b])=giveG (blG g l) b:=by
 unfold blG;rw[Yw];rfl
theorem wrongFile_any (f:Fl) (xa:Option Addr) (xc:Nat) (cnt:Int) (g:List Int) (pc pg:Nat) (w:Xn) (hc:Box w pc [Xe Xf cnt]) (hg:Box w pg (marks 80 g)) (hne:pc≠pg) (hn:cnt<=80) (hr:RowS blE pg (pg+1) w (O xa f.bl.length xc) f.bl):
  Xp Tryz.prog 116 #[Xi #[Xe Xf f.size,O xa f.bl.length xc],.func (.func 165) #[] #[Xj (Xa ⟨pc,0,Xb⟩),Xj (Xa ⟨pg,0,Xb⟩)]] w fun e w'=>e= Xl (Xe Xf (flW cnt g f))/\(flW cnt g f=0->Box w' pg (marks 80 (blG g f.bl)))/\Out pg (pg+1) w w':=by
 obtain⟨sz,bl⟩:=f;have HD:Xo (flW cnt g ⟨sz,bl⟩=if 0<=sz/\sz<=96 then(if(bl.length:Int)=cntP sz then blW cnt g bl else 2)else 3):=rfl;have HC:Xo (Box w pc [Xe Xf cnt]):=hc;have HG:Xo (Box w pg (marks 80 g)):=hg;have HR:Xo (RowS blE pg (pg+1) w (O xa bl.length xc) bl):=hr;have HNE:Xo (pc≠pg):=hne;have hbig:=(hr.now).short;clear hc hg hr hne;simp only at hbig
 show Xp _ _ #[Xi #[Xe Xf sz,O xa bl.length xc],_] _ _
 generalize flW cnt g ⟨sz,bl⟩=Z at HD⊢
 simp only
 by_cases h1:0<=sz/\sz<=96
 ·rw[if_pos h1]at HD;obtain⟨h10,h11⟩:=h1;have hb:=fun W=>below_yes (m:=sz) (n:=97) h10 (by omega) W
  have hcn:=fun W=>count_any sz W h10 h11
  by_cases h2:(bl.length:Int)=cntP sz
  ·rw[if_pos h2]at HD;rw[<-h2]at hcn;clear h10 h11 h2;obtain⟨n,HN⟩:∃n,Xo (bl.length=n):=⟨_,rfl⟩;rw[HN.out]at hbig hcn HR⊢;obtain⟨W0,hW0⟩:∃W0,w.alloc (Xk #[Xe Xf sz,O xa n xc] 158)=W0:=⟨_,rfl⟩;have HW0:Xo (_=W0):=hW0;have HG0:=gA hW0
   clear hW0;have eg:=enters_of Tryz.func165 (by kernel_rfl) rfl
   have hnn:((n:Int) !=(n:Int))=Xd:=by simp
   go_enter Tryz.func116,Tryz.ntmps116
   go_wp2_with (go_at_call 27;refine(hb _).mono ?_;rintro e w' ⟨rfl,rfl⟩)
   go_quiet (first | (go_at_call 149;exact Calls.quiet_of_same (hcn _)))
   rw[HW0.out];obtain⟨W1,hW1⟩:∃W1,W0.drewN nq=W1:=⟨_,rfl⟩;have X1:Xo (Box W1 w.heap.size [Xe Xf sz,O xa n xc]):=show Box _ _ _ by rw[<-hW1,<-HW0.out];exact(Box.top w _ _ rfl).grew (show Below _ _ _ from bD (bR _ _) _)
   have O1:Xo (Out pg (pg+1) w W1):=show Out _ _ _ _ by rw[<-hW1];exact(Out.grew HG0.out).trans (Out.grew (show Below _ _ _ from bD (bR _ _) _))
   have C1:Xo (Box W1 pc [Xe Xf cnt]):=show Box _ _ _ from HC.out.out O1.out (by have:=HNE.out;omega)
   have G1:Xo (Box W1 pg (marks 80 g)):=show Box _ _ _ by rw[<-hW1];exact(HG.out.grew HG0.out).grew (show Below _ _ _ from bD (bR _ _) _)
   rw[hW1];clear hW1 hcn hb HC HG;have x0:=X1.out.c 0 rfl;have x1:=X1.out.c 1 rfl;go_wp2
   go_loopg [6,7,22] n (fun gg _ _ s22 wr=>∃kk:Nat,kk<=n/\n - kk<=gg/\s22= Xe Xf kk/\Xo (Out pg (pg+1) w wr)/\Xo (Box wr pg (marks 80 (blG g (bl.take kk))))/\Xo (blW cnt (blG g (bl.take kk)) (bl.drop kk)=blW cnt g bl)/\Xo (Box wr pc [Xe Xf cnt]))
   case atStart=>exact⟨0,nZ _,by omega,rfl,O1.out,G1.out,rfl,C1.out⟩
   obtain⟨kk,hkk,hgg,rfl,OW,GW,AW,CW⟩:=hrel;clear x0 x1 X1 O1 C1 G1
   by_cases hlt:kk<n
   ·have hltz:(kk:Int)< (n:Int):=by omega
    obtain⟨q,HQ⟩:∃q,Xo (bl[kk]? =Xa q):=⟨_,gE (by rw[HN.out];exact hlt)⟩
    obtain⟨a',c',heq,hrow⟩:=(HR.out wr OW.out).nums;rw[HN.out]at heq;cases heq;obtain⟨ad,rfl,hl⟩:=hrow kk q HQ.out;have d0:=hl wr (Grew.refl _);have hcall:=give_any q cnt (blG g (bl.take kk)) pc pg wr CW.out GW.out hn;have HST:Xo (blW cnt (blG g (bl.take kk)) (bl.drop kk)=if giveE cnt (blG g (bl.take kk)) q=0 then blW cnt (blG g (bl.take (kk+1))) (bl.drop (kk+1))else giveE cnt (blG g (bl.take kk)) q):=show _=_ by
     rw[drop_cons HQ.out,take_snoc HQ.out,blG_snoc];rfl
    rw[<-blG_snoc,<-take_snoc HQ.out]at hcall;clear hl hrow
    generalize giveE cnt (blG g (bl.take kk)) q=z at hcall HST
    by_cases hz:z=0
    ·have HA:Xo (blW cnt (blG g (bl.take (kk+1))) (bl.drop (kk+1))=blW cnt g bl):=show _=_ by rw[<-AW.out,HST.out,if_pos hz]
     subst hz;clear HST;go_wp2_with fail;refine hcall.mono ?_;rintro e W2 ⟨rfl,k1,k2,k3⟩;have G2:Xo (Box W2 pg (marks 80 (blG g (bl.take (kk+1))))):=k1 (by first | exact rfl | exact trivial)
     have O2:Xo (Out pg (pg+1) w W2):=OW.out.trans (Out.grown k2 (fun g hg=>by cases hg;omega))
     have C2:Xo (Box W2 pc [Xe Xf cnt]):=CW.out.grown k2 HNE.out;clear k1 k2 k3 hcall;go_wp2
     go_roundg (n -(kk+1))
     case measure=>omega
     exact⟨kk+1,by omega,by omega,by go_num,O2.out,G2.out,HA.out,C2.out⟩
    have hzb:(z != 0)=Xc:=by simpa using hz
    have HF:Xo (Z=z):=show _=_ by
     have h1:=AW.out;rw[HST.out,if_neg hz]at h1;rw[HD.out,<-h1]
    clear HST;go_wp2_with fail;refine hcall.mono ?_;rintro e W2 ⟨rfl,k1,k2,k3⟩;have O2:Xo (Out pg (pg+1) w W2):=OW.out.trans (Out.grown k2 (fun g hg=>by cases hg;omega))
    clear k1 k2 k3 hcall;go_wp2;go_ret;exact⟨by rw[HF.out];rfl,fun h=>absurd (HF.out.symm.trans h) hz,O2.out⟩
   have hltz:¬(kk:Int)< (n:Int):=by omega
   have:kk=n:=by omega
   subst this;have HF:Xo (Z=0):=show _=_ by
    rw[HD.out,<-AW.out,Yb (by rw[HN.out];exact nR _)]
    rfl
   have GE:Xo (Box wr pg (marks 80 (blG g bl))):=show Box _ _ _ by
    have:=GW.out;rw[List.take_of_length_le (by rw[HN.out];exact nR _)]at this
    exact this
   go_wp2;go_ret;exact⟨by rw[HF.out];rfl,fun _=>GE.out,OW.out⟩
  rw[if_neg h2]at HD;have hnn:((bl.length:Int) != cntP sz)=Xc:=by simpa using h2
  clear h2 h10 h11
  generalize cntP sz=cp at*
  obtain⟨n,HN⟩:∃n,Xo (bl.length=n):=⟨_,rfl⟩;rw[HN.out]at hbig hnn HR⊢
  go_enter Tryz.func116,Tryz.ntmps116
  go_wp2_with (go_at_call 27;refine(hb _).mono ?_;rintro e w' ⟨rfl,rfl⟩)
  go_quiet (first | (go_at_call 149;exact Calls.quiet_of_same (hcn _)))
  go_wp2;go_ret;exact⟨by rw[HD.out];rfl,fun h=>(by rw[HD.out]at h;cases h),(Out.grew (grew_alloc _ _)).trans (Out.grew (show Below _ _ _ from bD (bR _ _) _))⟩
 rw[if_neg h1]at HD;have hb:=fun W=>below_no (m:=sz) (n:=97) (by omega) W
 clear h1;obtain⟨n,HN⟩:∃n,Xo (bl.length=n):=⟨_,rfl⟩;rw[HN.out]at hbig HR⊢
 go_enter Tryz.func116,Tryz.ntmps116
 go_wp2_with (go_at_call 27;refine(hb _).mono ?_;rintro e w' ⟨rfl,rfl⟩)
 go_ret;exact⟨by rw[HD.out];rfl,fun h=>(by rw[HD.out]at h;cases h),Out.grew (grew_alloc _ _)⟩
def flsG (g:List Int) (fs:List Fl):List Int:=fs.foldl (fun g f=>blG g f.bl) g
theorem flsG_snoc (g:List Int) (fs:List Fl) (f:Fl):flsG g (fs++ [f])=blG (flsG g fs) f.bl:=by
 unfold flsG;rw[Yw];rfl
theorem take_snocF {l:List Fl} {k:Nat} {q:Fl} (h:l[k]? =Xa q):l.take (k+1)=l.take k++ [q]:=by
 rw[Yh,h];rfl
theorem wrongSt_any (v:Xq) (fs:List Fl) (cnt:Int) (w:Xn) (hv:FilesAt w v fs):
  Xp Tryz.prog 61 #[Xi #[v,Xe Xf cnt]] w fun e w'=>e= Xl (Xe Xf (stW fs cnt))/\Grew w w':=by
 obtain⟨a,c,rfl,hbig,hrow⟩:=hv.rows;have HR:Xo (FlRows w a fs):=hrow;have HD:Xo (stW fs cnt=if fs.length<=5/\0<=cnt/\cnt<=80 then flsW cnt [] fs else 4):=rfl;clear hrow hv
 generalize stW fs cnt=Z at HD⊢
 obtain⟨n,HN⟩:∃n,Xo (fs.length=n):=⟨_,rfl⟩;rw[HN.out]at hbig HD⊢;obtain⟨W0,hW0⟩:∃W0,w.alloc (Xk #[O a n c,Xe Xf cnt] 38)=W0:=⟨_,rfl⟩;have HG0:=gA hW0
 have X0:=xA hW0
 have HS0:=sA hW0
 have HW0:Xo (_=W0):=hW0;clear hW0
 by_cases h5:n<=5
 ·have h5z:¬(5:Int)< (n:Int):=by omega
  have h5d:decide ((5:Int)< (n:Int))=Xd:=decide_eq_false h5z
  by_cases hc:0<=cnt/\cnt<=80
  ·rw[if_pos ⟨h5,hc⟩]at HD;have hb:=fun W=>below_yes (m:=cnt) (n:=81) hc.1 (by omega) W
   have hc80:cnt<=80:=hc.2;clear hc
   go_enter Tryz.func61,Tryz.ntmps61
   go_wp2_with (go_at_call 27;refine(hb _).mono ?_;rintro e w' ⟨rfl,rfl⟩)
   rw[HW0.out];refine(giver_any cnt W0).mono ?_;rintro e W1 ⟨rfl,k1,k2,k3,k4⟩;obtain⟨pc,hpc⟩:∃pc,W0.heap.size=pc:=⟨_,rfl⟩;rw[hpc]at k1 k2 k4 HS0⊢;have HPC:Xo (pc=w.heap.size+1):=HS0;have C1:Xo (Box W1 pc [Xe Xf cnt]):=k1;have G1:Xo (Box W1 (pc+1) (marks 80 [])):=k2;have GR1:=dD (HG0.out.trans k3);have X1:=dD (X0.out.grew k3);clear hpc k1 k2 k3 k4 hb HS0 X0 HG0 HW0;have x0:=X1.out.c 0 rfl;have x1:=X1.out.c 1 rfl;go_wp2
   go_loopg [5,6,23] n (fun gg _ _ s23 wr=>∃kk:Nat,kk<=n/\n - kk<=gg/\s23= Xe Xf kk/\Xo (Grew w wr)/\Xo (Box wr pc [Xe Xf cnt])/\Xo (Box wr (pc+1) (marks 80 (flsG [] (fs.take kk))))/\Xo (flsW cnt (flsG [] (fs.take kk)) (fs.drop kk)=flsW cnt [] fs))
   case atStart=>exact⟨0,nZ _,by omega,rfl,GR1.out,C1.out,G1.out,rfl⟩
   obtain⟨kk,hkk,hgg,rfl,BW,CW,GW,AW⟩:=hrel;clear x0 x1 X1 C1 G1 GR1
   by_cases hlt:kk<n
   ·have hltz:(kk:Int)< (n:Int):=by omega
    obtain⟨q,HQ⟩:∃q,Xo (fs[kk]? =Xa q):=⟨_,gE (by rw[HN.out];exact hlt)⟩
    obtain⟨ad,rfl,xa,xc,hra,hl⟩:=HR.out kk q HQ.out;obtain⟨d0,d1⟩:=hl wr BW.out;obtain⟨W2,hW2⟩:∃W2,wr.alloc (Xk #[Xe Xf q.size,O xa q.bl.length xc] 158)=W2:=⟨_,rfl⟩;have GA:=gA hW2
    have hcall:=wrongFile_any q xa xc cnt (flsG [] (fs.take kk)) pc (pc+1) W2 (CW.out.grew GA.out) (GW.out.grew GA.out) (by omega) hc80 (hra.stays (pc+2) (by have:=HPC.out;omega) (BW.out.trans GA.out))
    have C2:=dD (CW.out.grew GA.out);have B2:=dD (BW.out.trans GA.out);have HW2:Xo (_=W2):=hW2;have HST:Xo (flsW cnt (flsG [] (fs.take kk)) (fs.drop kk)=if flW cnt (flsG [] (fs.take kk)) q=0 then flsW cnt (flsG [] (fs.take (kk+1))) (fs.drop (kk+1))else flW cnt (flsG [] (fs.take kk)) q):=show _=_ by
     rw[drop_cons HQ.out,take_snocF HQ.out,flsG_snoc];rfl
    rw[<-flsG_snoc,<-take_snocF HQ.out]at hcall;clear hl hW2 hra
    generalize flW cnt (flsG [] (fs.take kk)) q=z at hcall HST
    have hql:=q.bl.length
    by_cases hz:z=0
    ·have HA:Xo (flsW cnt (flsG [] (fs.take (kk+1))) (fs.drop (kk+1))=flsW cnt [] fs):=show _=_ by rw[<-AW.out,HST.out,if_pos hz]
     subst hz;clear HST;go_wp2_with fail;rw[HW2.out];refine hcall.mono ?_;rintro e W3 ⟨rfl,k1,k2⟩;have G3:Xo (Box W3 (pc+1) (marks 80 (flsG [] (fs.take (kk+1))))):=k1 (by first | exact rfl | exact trivial)
     have B3:Xo (Grew w W3):=show Grew _ _ from Out.grew_of B2.out (by have:=HPC.out;omega) k2
     have C3:Xo (Box W3 pc [Xe Xf cnt]):=C2.out.out k2 (by omega)
     clear k1 k2 hcall;go_wp2
     go_roundg (n -(kk+1))
     case measure=>omega
     exact⟨kk+1,by omega,by omega,by go_num,B3.out,C3.out,G3.out,HA.out⟩
    have hzb:(z != 0)=Xc:=by simpa using hz
    have HF:Xo (Z=z):=show _=_ by
     have h1:=AW.out;rw[HST.out,if_neg hz]at h1;rw[HD.out,<-h1]
    clear HST;go_wp2_with fail;rw[HW2.out];refine hcall.mono ?_;rintro e W3 ⟨rfl,k1,k2⟩;have B3:Xo (Grew w W3):=show Grew _ _ from Out.grew_of B2.out (by have:=HPC.out;omega) k2
    clear k1 k2 hcall;go_wp2;go_ret;exact⟨by rw[HF.out];rfl,B3.out⟩
   have hltz:¬(kk:Int)< (n:Int):=by omega
   have:kk=n:=by omega
   subst this;have HF:Xo (Z=0):=show _=_ by
    rw[HD.out,<-AW.out,Yb (by rw[HN.out];exact nR _)]
    rfl
   go_wp2;go_ret;exact⟨by rw[HF.out];rfl,BW.out⟩
  rw[if_neg (fun h=>hc h.2)]at HD
  have hb:=fun W=>below_no (m:=cnt) (n:=81) (by omega) W
  clear hc
  go_enter Tryz.func61,Tryz.ntmps61
  go_wp2_with (go_at_call 27;refine(hb _).mono ?_;rintro e w' ⟨rfl,rfl⟩)
  rw[HW0.out];go_ret;exact⟨by rw[HD.out];rfl,HG0.out⟩
 rw[if_neg (fun h=>h5 h.1)]at HD
 have h5z:(5:Int)< (n:Int):=by omega
 go_enter Tryz.func61,Tryz.ntmps61
 go_wp2;rw[HW0.out];go_ret;exact⟨by rw[HD.out];rfl,HG0.out⟩
theorem mayHave_any (f:Fr) (a:Ar) (n:Nat) (w:Xn) (h1:0<=a.base/\a.base<=100) (h2:0<=a.fr/\a.fr<=100) (h3:n<=64):
  Xp Tryz.prog 125 #[Xi (frv f).toArray,Xi #[Xe Xf a.fr,Xe Xf a.tz,Xh a.rd,Xh a.wr,Xh a.sh,Xe Xf a.file,Xe Xf a.base],Xe Xf (n:Int)] w fun e w'=>e= Xl (Xh (mayHaveB f a n))/\Grew w w':=by
 have HIX:Xo (∀W,Xp Tryz.prog 169 #[Xi #[Xe Xf a.fr,Xe Xf a.tz,Xh a.rd,Xh a.wr,Xh a.sh,Xe Xf a.file,Xe Xf a.base],Xe Xf (n:Int)] W fun e w'=>e= Xl (Xe Xf (a.base+n - a.fr))/\Grew W w'):=show∀W,_ from fun W=>indexOf_any a n W h1 h2 (by omega)
 clear h1 h2 h3;obtain⟨⟨b0,b1,b2,b3,b4,b5,b6,b7⟩,r,u,d,ff,x⟩:=f;obtain⟨fr,tz,rd,wr,sh,file,base⟩:=a;unfold frv mayHaveB;simp only
 by_cases h:ff<0
 ·rw[if_pos h]
  go_enter Tryz.func125,Tryz.ntmps125
  go_wp2;go_ret;exact⟨rfl,(grew_alloc _ _).trans (grew_alloc _ _)⟩
 rw[if_neg h];obtain⟨W0,hW0⟩:∃W0,(w.alloc (Xk #[Xe Xg b0,Xe Xg b1,Xe Xg b2,Xe Xg b3,Xe Xg b4,Xe Xg b5,Xe Xg b6,Xe Xg b7,Xe Xf r,Xh u,Xh d,Xe Xf ff,Xe Xf x] 93)).alloc (Xk #[Xe Xf fr,.int .i64 tz,Xh rd,Xh wr,Xh sh,Xe Xf file,Xe Xf base] 125)=W0:=⟨_,rfl⟩;have HG0:=gD2 hW0
 have X0:=x2a hW0
 have Y0:=x2b hW0
 have HW0:Xo (_=W0):=hW0;clear hW0
 by_cases he:ff=file
 ·have he1:(ff == file)=Xc:=by simp[he]
  rw[he1,Yq];clear he;obtain⟨D,HD⟩:∃D,Xo ((x == base+(n:Int) - fr)=D):=⟨_,rfl⟩;rw[HD.out]
  go_enter Tryz.func125,Tryz.ntmps125
  go_upto_region 3 with fail;rw[HW0.out];have hx11:=X0.out.gw 11 rfl
  have hx12:=X0.out.gw 12 rfl
  have hy0:=Y0.out.gw 0 rfl
  have hy1:=Y0.out.gw 1 rfl
  have hy2:=Y0.out.gw 2 rfl
  have hy3:=Y0.out.gw 3 rfl
  have hy4:=Y0.out.gw 4 rfl
  have hy5:=Y0.out.gw 5 rfl
  have hy6:=Y0.out.gw 6 rfl
  have hne:Nonempty (GrownW W0):=⟨⟨_,Grew.refl _⟩⟩;refine wp_lax [(10,⟨fun v=>v= Xe Xf (base+(n:Int) - fr),fun v w'=>True⟩)] mixed (by kernel_rfl) ?hS ?hp ?_
  case hS=>
   intro x hx;simp only[mC,nM,or_false]at hx;subst hx;exact⟨_,rfl⟩
  case hp=>
   intro x hx;simp only[mC,nM,or_false]at hx;subst hx;exact fun _ _ _ _ h=>h
  iterate 10 (refine lax_quiet rfl rfl rfl (fun K hK=>?_);go_big_quiet_op;refine hK _ ?_;clear hK K)
  refine lax_spec rfl rfl (fun w' hg hF=>?_) (fun v1 hv=>?_)
  ·refine Does.call [Xi #[Xe Xf fr,.int .i64 tz,Xh rd,Xh wr,Xh sh,Xe Xf file,Xe Xf base],Xe Xf (n:Int)] rfl Tryz.func169 rfl rfl rfl ?_;refine(HIX.out w').mono ?_;rintro e w'' ⟨rfl,hg2⟩;exact⟨_,rfl,hg2,rfl,trivial⟩
  subst hv;simp only[Ye,sB,sS,sZ];iterate 3 (refine lax_quiet rfl rfl rfl (fun K hK=>?_);go_big_quiet_op;refine hK _ ?_;clear hK K)
  refine lax_nil fun W3 hg1 hF=>?_
  have G3:=dD (HG0.out.trans hg1);clear hg1 hF hx11 hx12 hy0 hy1 hy2 hy3 hy4 hy5 hy6 hne;go_wp2;go_ret;exact⟨by rw[<-HD.out];rfl,G3.out⟩
 have he1:(ff == file)=Xd:=by simp[he]
 rw[he1,Ym];clear he
 go_enter Tryz.func125,Tryz.ntmps125
 go_upto_region 3 with fail;rw[HW0.out];have hx11:W0.cell? ⟨w.heap.size,11,Xb⟩=Xa (Xe Xf ff):=X0.out.c 11 rfl;have hx12:W0.cell? ⟨w.heap.size,12,Xb⟩=Xa (Xe Xf x):=X0.out.c 12 rfl;have hy0:W0.cell? ⟨w.heap.size+1,0,Xb⟩=Xa (Xe Xf fr):=Y0.out.c 0 rfl;have hy1:W0.cell? ⟨w.heap.size+1,1,Xb⟩=Xa (.int .i64 tz):=Y0.out.c 1 rfl;have hy2:W0.cell? ⟨w.heap.size+1,2,Xb⟩=Xa (Xh rd):=Y0.out.c 2 rfl;have hy3:W0.cell? ⟨w.heap.size+1,3,Xb⟩=Xa (Xh wr):=Y0.out.c 3 rfl;have hy4:W0.cell? ⟨w.heap.size+1,4,Xb⟩=Xa (Xh sh):=Y0.out.c 4 rfl;have hy5:W0.cell? ⟨w.heap.size+1,5,Xb⟩=Xa (Xe Xf file):=Y0.out.c 5 rfl;have hy6:W0.cell? ⟨w.heap.size+1,6,Xb⟩=Xa (Xe Xf base):=Y0.out.c 6 rfl;go_quiet (fail);go_wp2;go_ret;exact⟨rfl,HG0.out.trans (show Below _ _ _ from bD (bR _ _) _)⟩
def hasP (fl:List Fl) (file idx:Int):Bool:=bel file fl.length && bel idx ((fl.getD file.toNat ⟨0,[]⟩).bl.length:Nat)
theorem hasPage_any (v:Xq) (fl:List Fl) (cnt file idx:Int) (w:Xn) (hv:FilesAt w v fl):
  Xp Tryz.prog 119 #[Xi #[v,Xe Xf cnt],Xe Xf file,Xe Xf idx] w fun e w'=>e= Xl (Xh (hasP fl file idx))/\Grew w w':=by
 obtain⟨a,c,rfl,hbig,hrow⟩:=hv.rows;have HR:Xo (FlRows w a fl):=hrow;clear hrow hv;obtain⟨n,HN⟩:∃n,Xo (fl.length=n):=⟨_,rfl⟩;unfold hasP;rw[HN.out]at hbig⊢;have hb:=belowM_any file n
 cases h:bel file n with
 | false=>
  rw[h]at hb;rw[Ym]
  go_enter Tryz.func119,Tryz.ntmps119
  go_wp2_with (go_at_call 120;refine(hb _).mono ?_;rintro e w' ⟨rfl,rfl⟩)
  go_ret;exact⟨rfl,grew_alloc _ _⟩
 | true=>
  rw[h]at hb;rw[Yq];obtain⟨h0,h1⟩:=bel_iff.1 h;obtain⟨k,rfl⟩:∃k:Nat,file=(k:Int):=⟨file.toNat,by omega⟩
  obtain⟨f,HF⟩:∃f,Xo (fl[k]? =Xa f):=⟨_,gE (by rw[HN.out];omega)⟩
  have hg:(fl.getD ((k:Nat):Int).toNat ⟨0,[]⟩)=f:=by rw[tN,gD,HF.out];rfl
  rw[hg];clear hg;obtain⟨ad,rfl,xa,xc,_,hl⟩:=HR.out k f HF.out;obtain⟨d0,d1⟩:=hl (w.alloc (Xk #[O (Xa ad) n c,Xe Xf cnt] 38)) (grew_alloc _ _);obtain⟨q,HQ⟩:∃q,Xo (f.bl.length=q):=⟨_,rfl⟩;rw[HQ.out]at d1⊢;have hb2:=belowM_any idx q;clear hl
  go_enter Tryz.func119,Tryz.ntmps119
  go_wp2_with (go_at_call 120;first | (refine(hb _).mono ?_;clear hb;rintro e w' ⟨rfl,rfl⟩) | (refine(hb2 _).mono ?_;rintro e w' ⟨rfl,rfl⟩))
  go_ret;exact⟨rfl,grew_alloc _ _⟩
theorem wrongEntryM_any (V:MaV) (m:Ma) (a:Ar) (n:Nat) (e:En) (w:Xn) (hm:MachAt w V m) (ha:ArOk a) (hn:n<=64) (he:0<=e.n):
  Xp Tryz.prog 68 #[Xi #[O V.f.a V.f.n V.f.c,Xe Xf m.hand,O V.s.a V.s.n V.s.c,O V.sb.a V.sb.n V.sb.c,O V.sq.a V.sq.n V.sq.c,O V.db.a V.db.n V.db.c,O V.dq.a V.dq.n V.dq.c,O V.fl.a V.fl.n V.fl.c,Xe Xf m.cnt,O V.ca.a V.ca.n V.ca.c,O V.sp.a V.sp.n V.sp.c],Xi #[Xe Xf a.fr,Xe Xf a.tz,Xh a.rd,Xh a.wr,Xh a.sh,Xe Xf a.file,Xe Xf a.base],Xe Xf (n:Int),Xi #[Xe Xf e.kind,Xe Xf e.n,Xh e.wr]] w fun e' w'=>e'= Xl (Xe Xf (wEntry m a n e))/\Grew w w':=by
 obtain⟨n1,n2,-⟩:=hm.ns;have hab:(0<=a.base/\a.base<=100)/\(0<=a.fr/\a.fr<=100):=by
  obtain⟨g1,g2,g3,g4,g5,g6,g7,g8⟩:=ha
  by_cases hf:a.file<0
  ·have:=g7 hf;omega
  have:=g8 (by omega);omega
 have HMH:Xo (∀(q:Fr) W,Xp Tryz.prog 125 #[Xi (frv q).toArray,Xi #[Xe Xf a.fr,Xe Xf a.tz,Xh a.rd,Xh a.wr,Xh a.sh,Xe Xf a.file,Xe Xf a.base],Xe Xf (n:Int)] W fun e w'=>e= Xl (Xh (mayHaveB q a n))/\Grew W w'):=show∀(q:Fr) W,_ from fun q W=>mayHave_any q a n W hab.1 hab.2 hn
 have HMW:Xo (∀(q:Fr) W,Xp Tryz.prog 126 #[Xi (frv q).toArray,Xi #[Xe Xf a.fr,Xe Xf a.tz,Xh a.rd,Xh a.wr,Xh a.sh,Xe Xf a.file,Xe Xf a.base]] W fun e w'=>e= Xl (Xh (mayWriteB q a))/\Grew W w'):=show∀(q:Fr) W,_ from fun q W=>mayWrite_any q a W
 have HS:Xo (m.sl.length=V.s.n):=n2.symm;have HF:Xo (m.fs.length=V.f.n):=n1.symm;have HR:Xo (FrRows w V.f.a m.fs):=hm.frs;have HZ:Xo (wEntry m a n e=if e.kind=2 then(if(V.s.n:Int)<=e.n\/a.sh=Xc then 7 else 0)else if(V.f.n:Int)<=e.n then 3 else if mayHaveB (frAt m e.n) a n=Xd\/(e.wr=Xc/\mayWriteB (frAt m e.n) a=Xd)then 7 else 0):=show _=_ by
  unfold wEntry;rw[n1,n2]
 rw[HZ.out];clear hm ha hab n1 n2 hn;have hG3:Grew w (((w.alloc (Xk #[O V.f.a V.f.n V.f.c,Xe Xf m.hand,O V.s.a V.s.n V.s.c,O V.sb.a V.sb.n V.sb.c,O V.sq.a V.sq.n V.sq.c,O V.db.a V.db.n V.db.c,O V.dq.a V.dq.n V.dq.c,O V.fl.a V.fl.n V.fl.c,Xe Xf m.cnt,O V.ca.a V.ca.n V.ca.c,O V.sp.a V.sp.n V.sp.c] 42)).alloc (Xk #[Xe Xf a.fr,Xe Xf a.tz,Xh a.rd,Xh a.wr,Xh a.sh,Xe Xf a.file,Xe Xf a.base] 125)).alloc (Xk #[Xe Xf e.kind,Xe Xf e.n,Xh e.wr] 127)):=((grew_alloc _ _).trans (grew_alloc _ _)).trans (grew_alloc _ _);have HG3:Xo (Grew w (((w.alloc (Xk #[O V.f.a V.f.n V.f.c,Xe Xf m.hand,O V.s.a V.s.n V.s.c,O V.sb.a V.sb.n V.sb.c,O V.sq.a V.sq.n V.sq.c,O V.db.a V.db.n V.db.c,O V.dq.a V.dq.n V.dq.c,O V.fl.a V.fl.n V.fl.c,Xe Xf m.cnt,O V.ca.a V.ca.n V.ca.c,O V.sp.a V.sp.n V.sp.c] 42)).alloc (Xk #[Xe Xf a.fr,Xe Xf a.tz,Xh a.rd,Xh a.wr,Xh a.sh,Xe Xf a.file,Xe Xf a.base] 125)).alloc (Xk #[Xe Xf e.kind,Xe Xf e.n,Xh e.wr] 127))):=hG3;clear hG3
 by_cases hk:e.kind=2
 ·have hke:(e.kind == 2)=Xc:=by simp[hk]
  rw[if_pos hk];clear hk
  by_cases h1:(V.s.n:Int)<=e.n
  ·rw[if_pos (.inl h1)]
   go_enter Tryz.func68,Tryz.ntmps68
   go_wp2;go_ret;exact⟨rfl,HG3.out⟩
  cases hs:a.sh with
  | true=>
   rw[if_pos (.inr rfl)];rw[hs]at HG3 HMH HMW
   go_enter Tryz.func68,Tryz.ntmps68
   go_wp2;go_ret;exact⟨rfl,HG3.out⟩
  | false=>
   rw[if_neg (by simp[h1])]
   rw[hs]at HG3 HMH HMW
   go_enter Tryz.func68,Tryz.ntmps68
   go_wp2;go_ret;exact⟨rfl,HG3.out⟩
 have hke:(e.kind == 2)=Xd:=by simp[hk]
 rw[if_neg hk];clear hk
 by_cases h1:(V.f.n:Int)<=e.n
 ·rw[if_pos h1]
  go_enter Tryz.func68,Tryz.ntmps68
  go_wp2;go_ret;exact⟨rfl,HG3.out⟩
 rw[if_neg h1];obtain⟨ek,en,ew⟩:=e;simp only at he hke h1 HZ HG3⊢;clear HZ;obtain⟨k,rfl⟩:∃k:Nat,en=(k:Int):=⟨en.toNat,by omega⟩
 have hkn:k<V.f.n:=by omega
 obtain⟨q,HQ⟩:∃q,Xo (m.fs[k]? =Xa q):=⟨_,gE (by rw[HF.out];exact hkn)⟩
 have hfr:frAt m (k:Int)=q:=by unfold frAt;rw[tN,gD,HQ.out];rfl
 rw[hfr];clear hfr;obtain⟨ad,hva,hl⟩:=HR.out k q HQ.out;rw[hva]at HG3 HR⊢;clear hva;obtain⟨W3,hW3⟩:∃W3,((w.alloc (Xk #[O (Xa ad) V.f.n V.f.c,Xe Xf m.hand,O V.s.a V.s.n V.s.c,O V.sb.a V.sb.n V.sb.c,O V.sq.a V.sq.n V.sq.c,O V.db.a V.db.n V.db.c,O V.dq.a V.dq.n V.dq.c,O V.fl.a V.fl.n V.fl.c,Xe Xf m.cnt,O V.ca.a V.ca.n V.ca.c,O V.sp.a V.sp.n V.sp.c] 42)).alloc (Xk #[Xe Xf a.fr,Xe Xf a.tz,Xh a.rd,Xh a.wr,Xh a.sh,Xe Xf a.file,Xe Xf a.base] 125)).alloc (Xk #[Xe Xf ek,Xe Xf (k:Int),Xh ew] 127)=W3:=⟨_,rfl⟩;rw[hW3]at HG3;have Y3:Xo (Box W3 (w.heap.size+1) [Xe Xf a.fr,Xe Xf a.tz,Xh a.rd,Xh a.wr,Xh a.sh,Xe Xf a.file,Xe Xf a.base]):=show Box _ _ _ by rw[<-hW3];exact(Box.top _ _ _ (by simp)).alloc _
 have Z3:Xo (Box W3 (w.heap.size+1+1) [Xe Xf ek,Xe Xf (k:Int),Xh ew]):=show Box _ _ _ by rw[<-hW3];exact Box.top _ _ _ (by simp)
 have X3:Xo (Box W3 w.heap.size [O (Xa ad) V.f.n V.f.c,Xe Xf m.hand,O V.s.a V.s.n V.s.c,O V.sb.a V.sb.n V.sb.c,O V.sq.a V.sq.n V.sq.c,O V.db.a V.db.n V.db.c,O V.dq.a V.dq.n V.dq.c,O V.fl.a V.fl.n V.fl.c,Xe Xf m.cnt,O V.ca.a V.ca.n V.ca.c,O V.sp.a V.sp.n V.sp.c]):=show Box _ _ _ by rw[<-hW3];exact((Box.top _ _ _ rfl).alloc _).alloc _
 have x0:=X3.out.c 0 rfl;have z1:=Z3.out.c 1 rfl;have HS3:Xo (W3.heap.size=w.heap.size+1+1+1):=show _=_ by rw[<-hW3];simp
 obtain⟨d0,d1,d2,d3,d4,d5,d6,d7,d8,d9,d10,d11,d12⟩:=hl W3 HG3.out;have HW3:Xo (_=W3):=hW3;have HP:Xo (mayHaveB q a n=mayHaveB q a n):=rfl;clear hW3 hl
 cases hmh:mayHaveB q a n with
 | false=>
  have hmh':=HMH.out q;rw[hmh]at hmh';rw[if_pos (.inl rfl)];have HC:Xo (∀W,Xp Tryz.prog 125 #[Xi (frv q).toArray,Xi #[Xe Xf a.fr,Xe Xf a.tz,Xh a.rd,Xh a.wr,Xh a.sh,Xe Xf a.file,Xe Xf a.base],Xe Xf (n:Int)] W fun e w'=>e= Xl (Xh Xd)/\Grew W w'):=hmh'
  clear hmh'
  go_enter Tryz.func68,Tryz.ntmps68
  go_upto_region 7 with fail;rw[HW3.out];go_upto_region 8 with fail;obtain⟨W4,hW4⟩:∃W4,W3.alloc (Xk #[Xe Xg q.p.b0,Xe Xg q.p.b1,Xe Xg q.p.b2,Xe Xg q.p.b3,Xe Xg q.p.b4,Xe Xg q.p.b5,Xe Xg q.p.b6,Xe Xg q.p.b7,Xe Xf q.r,Xh q.u,Xh q.d,Xe Xf q.f,Xe Xf q.x] 93)=W4:=⟨_,rfl⟩;have HG4:=gT hW4 HG3
  have Y4:Box W4 (w.heap.size+1) [Xe Xf a.fr,Xe Xf a.tz,Xh a.rd,Xh a.wr,Xh a.sh,Xe Xf a.file,Xe Xf a.base]:=by rw[<-hW4];exact Y3.out.alloc _
  have F4:Box W4 (w.heap.size+1+1+1) [Xe Xg q.p.b0,Xe Xg q.p.b1,Xe Xg q.p.b2,Xe Xg q.p.b3,Xe Xg q.p.b4,Xe Xg q.p.b5,Xe Xg q.p.b6,Xe Xg q.p.b7,Xe Xf q.r,Xh q.u,Xh q.d,Xe Xf q.f,Xe Xf q.x]:=by rw[<-hW4];exact Box.top _ _ _ HS3.out.symm
  rw[hW4,HS3.out];clear hW4 x0 z1 d0 d1 d2 d3 d4 d5 d6 d7 d8 d9 d10 d11 d12;obtain⟨y0,y1,y2,y3,y4,y5,y6⟩:=Y4.c7;have f0:=F4.c 0 rfl;have f1:=F4.c 1 rfl;have f2:=F4.c 2 rfl;have f3:=F4.c 3 rfl;have f4:=F4.c 4 rfl;have f5:=F4.c 5 rfl;have f6:=F4.c 6 rfl;have f7:=F4.c 7 rfl;have f8:=F4.c 8 rfl;have f9:=F4.c 9 rfl;have f10:=F4.c 10 rfl;have f11:=F4.c 11 rfl;have f12:=F4.c 12 rfl;clear Y4 F4
  go_wp2_with (go_at_call 125;refine(HC.out _).mono ?_;clear y0 y1 y2 y3 y4 y5 y6 f0 f1 f2 f3 f4 f5 f6 f7 f8 f9 f10 f11 f12;rintro e W5 ⟨rfl,hg5⟩)
  go_ret;exact⟨rfl,HG4.out.trans hg5⟩
 | true=>
  have hmh':=HMH.out q;rw[hmh]at hmh';have HC:Xo (∀W,Xp Tryz.prog 125 #[Xi (frv q).toArray,Xi #[Xe Xf a.fr,Xe Xf a.tz,Xh a.rd,Xh a.wr,Xh a.sh,Xe Xf a.file,Xe Xf a.base],Xe Xf (n:Int)] W fun e w'=>e= Xl (Xh Xc)/\Grew W w'):=hmh'
  clear hmh'
  cases ew with
  | false=>
   rw[if_neg (by simp)]
   go_enter Tryz.func68,Tryz.ntmps68
   go_upto_region 7 with fail;rw[HW3.out];go_upto_region 8 with fail;obtain⟨W4,hW4⟩:∃W4,W3.alloc (Xk #[Xe Xg q.p.b0,Xe Xg q.p.b1,Xe Xg q.p.b2,Xe Xg q.p.b3,Xe Xg q.p.b4,Xe Xg q.p.b5,Xe Xg q.p.b6,Xe Xg q.p.b7,Xe Xf q.r,Xh q.u,Xh q.d,Xe Xf q.f,Xe Xf q.x] 93)=W4:=⟨_,rfl⟩;have HG4:=gT hW4 HG3
   have Y4:Box W4 (w.heap.size+1) [Xe Xf a.fr,Xe Xf a.tz,Xh a.rd,Xh a.wr,Xh a.sh,Xe Xf a.file,Xe Xf a.base]:=by rw[<-hW4];exact Y3.out.alloc _
   have Z4:=yA hW4 Z3
   have F4:Box W4 (w.heap.size+1+1+1) [Xe Xg q.p.b0,Xe Xg q.p.b1,Xe Xg q.p.b2,Xe Xg q.p.b3,Xe Xg q.p.b4,Xe Xg q.p.b5,Xe Xg q.p.b6,Xe Xg q.p.b7,Xe Xf q.r,Xh q.u,Xh q.d,Xe Xf q.f,Xe Xf q.x]:=by rw[<-hW4];exact Box.top _ _ _ HS3.out.symm
   rw[hW4,HS3.out];clear hW4 x0 z1 d0 d1 d2 d3 d4 d5 d6 d7 d8 d9 d10 d11 d12;obtain⟨y0,y1,y2,y3,y4,y5,y6⟩:=Y4.c7;have f0:=F4.c 0 rfl;have f1:=F4.c 1 rfl;have f2:=F4.c 2 rfl;have f3:=F4.c 3 rfl;have f4:=F4.c 4 rfl;have f5:=F4.c 5 rfl;have f6:=F4.c 6 rfl;have f7:=F4.c 7 rfl;have f8:=F4.c 8 rfl;have f9:=F4.c 9 rfl;have f10:=F4.c 10 rfl;have f11:=F4.c 11 rfl;have f12:=F4.c 12 rfl;clear Y4 F4
   go_wp2_with (go_at_call 125;refine(HC.out _).mono ?_;clear y0 y1 y2 y3 y4 y5 y6 f0 f1 f2 f3 f4 f5 f6 f7 f8 f9 f10 f11 f12;rintro e W5 ⟨rfl,hg5⟩;have z2:=(Z4.out.grew hg5).c 2 rfl)
   go_ret;exact⟨rfl,HG4.out.trans hg5⟩
  | true=>
   cases hmw:mayWriteB q a with
   | false=>
    have hmw':=HMW.out q;rw[hmw]at hmw';rw[if_pos (.inr ⟨rfl,rfl⟩)];have HC2:Xo (∀W,Xp Tryz.prog 126 #[Xi (frv q).toArray,Xi #[Xe Xf a.fr,Xe Xf a.tz,Xh a.rd,Xh a.wr,Xh a.sh,Xe Xf a.file,Xe Xf a.base]] W fun e w'=>e= Xl (Xh Xd)/\Grew W w'):=hmw'
    clear hmw'
    go_enter Tryz.func68,Tryz.ntmps68
    go_upto_region 7 with fail;rw[HW3.out];go_upto_region 8 with fail;obtain⟨W4,hW4⟩:∃W4,W3.alloc (Xk #[Xe Xg q.p.b0,Xe Xg q.p.b1,Xe Xg q.p.b2,Xe Xg q.p.b3,Xe Xg q.p.b4,Xe Xg q.p.b5,Xe Xg q.p.b6,Xe Xg q.p.b7,Xe Xf q.r,Xh q.u,Xh q.d,Xe Xf q.f,Xe Xf q.x] 93)=W4:=⟨_,rfl⟩;have HG4:=gT hW4 HG3
    have Y4:=yA hW4 Y3
    have Z4:=yA hW4 Z3
    have F4:=xP hW4 HS3
    rw[hW4,HS3.out];clear hW4 x0 z1 d0 d1 d2 d3 d4 d5 d6 d7 d8 d9 d10 d11 d12;obtain⟨y0,y1,y2,y3,y4,y5,y6⟩:=Y4.out.c7;have f0:=F4.out.c 0 rfl;have f1:=F4.out.c 1 rfl;have f2:=F4.out.c 2 rfl;have f3:=F4.out.c 3 rfl;have f4:=F4.out.c 4 rfl;have f5:=F4.out.c 5 rfl;have f6:=F4.out.c 6 rfl;have f7:=F4.out.c 7 rfl;have f8:=F4.out.c 8 rfl;have f9:=F4.out.c 9 rfl;have f10:=F4.out.c 10 rfl;have f11:=F4.out.c 11 rfl;have f12:=F4.out.c 12 rfl;go_wp2_with fail;refine(HC.out _).mono ?_;clear y0 y1 y2 y3 y4 y5 y6 f0 f1 f2 f3 f4 f5 f6 f7 f8 f9 f10 f11 f12;rintro e W5 ⟨rfl,hg5⟩;have HG5:=dD (HG4.out.trans hg5);have Y5:=Y4.out.grew hg5;have z2:=(Z4.out.grew hg5).c 2 rfl;have F5:=F4.out.grew hg5;clear hg5;obtain⟨y0,y1,y2,y3,y4,y5,y6⟩:=Y5.c7;have f0:=F5.c 0 rfl;have f1:=F5.c 1 rfl;have f2:=F5.c 2 rfl;have f3:=F5.c 3 rfl;have f4:=F5.c 4 rfl;have f5:=F5.c 5 rfl;have f6:=F5.c 6 rfl;have f7:=F5.c 7 rfl;have f8:=F5.c 8 rfl;have f9:=F5.c 9 rfl;have f10:=F5.c 10 rfl;have f11:=F5.c 11 rfl;have f12:=F5.c 12 rfl;clear Y5 F5
    go_wp2_with (go_at_call 126;refine(HC2.out _).mono ?_;clear y0 y1 y2 y3 y4 y5 y6 f0 f1 f2 f3 f4 f5 f6 f7 f8 f9 f10 f11 f12 z2;rintro e W6 ⟨rfl,hg6⟩)
    go_ret;exact⟨rfl,HG5.out.trans hg6⟩
   | true=>
    have hmw':=HMW.out q;rw[hmw]at hmw';rw[if_neg (by simp)]
    have HC2:Xo (∀W,Xp Tryz.prog 126 #[Xi (frv q).toArray,Xi #[Xe Xf a.fr,Xe Xf a.tz,Xh a.rd,Xh a.wr,Xh a.sh,Xe Xf a.file,Xe Xf a.base]] W fun e w'=>e= Xl (Xh Xc)/\Grew W w'):=hmw'
    clear hmw'
    go_enter Tryz.func68,Tryz.ntmps68
    go_upto_region 7 with fail;rw[HW3.out];go_upto_region 8 with fail;obtain⟨W4,hW4⟩:∃W4,W3.alloc (Xk #[Xe Xg q.p.b0,Xe Xg q.p.b1,Xe Xg q.p.b2,Xe Xg q.p.b3,Xe Xg q.p.b4,Xe Xg q.p.b5,Xe Xg q.p.b6,Xe Xg q.p.b7,Xe Xf q.r,Xh q.u,Xh q.d,Xe Xf q.f,Xe Xf q.x] 93)=W4:=⟨_,rfl⟩;have HG4:=gT hW4 HG3
    have Y4:=yA hW4 Y3
    have Z4:=yA hW4 Z3
    have F4:=xP hW4 HS3
    rw[hW4,HS3.out];clear hW4 x0 z1 d0 d1 d2 d3 d4 d5 d6 d7 d8 d9 d10 d11 d12;obtain⟨y0,y1,y2,y3,y4,y5,y6⟩:=Y4.out.c7;have f0:=F4.out.c 0 rfl;have f1:=F4.out.c 1 rfl;have f2:=F4.out.c 2 rfl;have f3:=F4.out.c 3 rfl;have f4:=F4.out.c 4 rfl;have f5:=F4.out.c 5 rfl;have f6:=F4.out.c 6 rfl;have f7:=F4.out.c 7 rfl;have f8:=F4.out.c 8 rfl;have f9:=F4.out.c 9 rfl;have f10:=F4.out.c 10 rfl;have f11:=F4.out.c 11 rfl;have f12:=F4.out.c 12 rfl;go_wp2_with fail;refine(HC.out _).mono ?_;clear y0 y1 y2 y3 y4 y5 y6 f0 f1 f2 f3 f4 f5 f6 f7 f8 f9 f10 f11 f12;rintro e W5 ⟨rfl,hg5⟩;have HG5:=dD (HG4.out.trans hg5);have Y5:=Y4.out.grew hg5;have z2:=(Z4.out.grew hg5).c 2 rfl;have F5:=F4.out.grew hg5;clear hg5;obtain⟨y0,y1,y2,y3,y4,y5,y6⟩:=Y5.c7;have f0:=F5.c 0 rfl;have f1:=F5.c 1 rfl;have f2:=F5.c 2 rfl;have f3:=F5.c 3 rfl;have f4:=F5.c 4 rfl;have f5:=F5.c 5 rfl;have f6:=F5.c 6 rfl;have f7:=F5.c 7 rfl;have f8:=F5.c 8 rfl;have f9:=F5.c 9 rfl;have f10:=F5.c 10 rfl;have f11:=F5.c 11 rfl;have f12:=F5.c 12 rfl;clear Y5 F5
    go_wp2_with (go_at_call 126;refine(HC2.out _).mono ?_;clear y0 y1 y2 y3 y4 y5 y6 f0 f1 f2 f3 f4 f5 f6 f7 f8 f9 f10 f11 f12 z2;rintro e W6 ⟨rfl,hg6⟩)
    go_ret;exact⟨rfl,HG5.out.trans hg6⟩
end
end Go.Proofs.YtempiodbdhiboaaGreat
