import Derived.Test.YtkfjajbalegoeaaGreatFS3
import Derived.Lib.Overlaps
import Derived.Laws.Externs
import Derived.Lib.AppendZerosOnto
namespace Go.Proofs.YtkfjajbalegoeaaGreat
open Go.Value renaming slice→O,int→Xe,bool→Xh,agg→Xi,pointer→Xj,tuple→Xm
open Go.IntKind renaming i64→Xf,u8→Xg
open Go.Obj renaming cells→Xk
open Go.Ending renaming returned→Xl
open Go renaming World→Xn,Calls→Xp,Value→Xq
open Go.RowKit renaming Hid→Xo
open Option renaming some→Xa,none→Xb
open Bool renaming true→Xc,false→Xd
open List renaming replicate→Xr
open _root_.List renaming length_take→Xs,any_eq_true→Xt,length_set→Xu,flatMap_append→Xv,mem_singleton→Xw,length_drop→Xy,pairwise_iff_getElem→Ya,getElem?_of_mem→Yb,take_of_length_le→Yc,take_append_drop→Ye,take_left'→Yf,length_singleton→Yi,length_cons→Yj,takeWhile_cons→Yl,find?_eq_none→Yn,getElem?_cons_succ→Yo,take→Yp,drop→Yq,mem_range→Yr,append_assoc→Ys,map_nil→Yt,size_toArray→Yu,take_append_of_le_length→Yx,append_nil→Yz,take_take→Oc,mem_of_find?_eq_some→Od,ext_getElem?→Oe,take_add_one→Of,getElem?_map→Og,countP_cons→Oh,map_toArray→Oi,drop_of_length_le→Ok,mem_cons_of_mem→Om,findIdx_getElem→Oo,mem_of_mem_take→Oq,mem_cons_self→Ou,pairwise_cons→Ow
open _root_.Nat renaming mul_le_mul_right→Xx,min_eq_left→Xz,mod_eq_of_lt→Yg,lt_of_lt_of_le→Yh,mod_lt→Ym,add_mul→Yw,mod_add_mod→Yy,add_zero→Oa,add_sub_cancel_left→Oj,le_of_ble_eq_true→Ol
open Go.Act renaming put→Yd
open Go.Addr renaming add_lit→Yk
open _root_.Bool renaming and_eq_true→Yv,false_eq_true→Ov
open Go.Sem renaming run_bind→Ob,run_pure→Ox
open _root_.Array renaming toList_append→Ot,size_append→Oy
set_option maxRecDepth 100000
set_option maxHeartbeats 4000000
variable{α:Type}{a:Act}{C:Ar}{Y:Array Xq}{E:Elt α}{Z:En}{X:Fr}{R z:Int}{g:List (Int×List Int)}{r:List (List Int)}{d:List (Nat×Nat)}{K:List Oper}{D:List Xq}{y:List α}{b k p:Nat}{s:Sp}{w:Xn}{A:Xq}{M:Xq->Xn->Prop}
variable{B b fi ix:Nat}{Q:Exit->Act->Xn->Prop}{V:MaV}{W w' w0 w1:Xn}{m:Ma}{o:Oper}{ops:Array Oper}{t:TypeId}{xs:List Xq}{z:Int}
open Go.Proofs.Tryz
section
open Go.RowKit
theorem zry(a)(c:Nat)(fs:List Fr)(l:Nat)(w:Xn)(aq:zq q7 w (O a fs.length c) fs)(S:ZT fs (l:Int)=0):
  Xp prog 182 #[Xi #[O a fs.length c,I6 (l:Int)]] w fun e w'=>∃b,e=Xl (Xm #[Xi #[b,I6 ((Zp (2*fs.length) fs l).2.1:Int)],I6 (Zp (2*fs.length) fs l).2.2,I6 0])/\zb q7 w.heap.size w' b (Zp (2*fs.length) fs l).1/\zc w w':=by
 have a3:=dD aq;have ah:∀W,zc w W->Xp prog 125 #[Xi #[O a fs.length c,I6 (l:Int)]] W fun e w'=>e=Xl (I6 (ZT fs (l:Int)))/\zc W w':=fun W ae=>by rw[S];exact QI a c fs _ W (a3.aA ae) S
 have ag:∀W,zc w W->Xp prog 46 #[Xi #[O a fs.length c,I6 (l:Int)]] W fun e w'=>∃b,e=Xl (Xi #[b,I6 (l:Int)])/\zb q7 W.heap.size w' b fs/\zc W w':=fun W ae=>JA a c fs _ W (a3.aA ae);obtain⟨P,_,_,A⟩:=Ze S;have bb:=enters_of func189 Kr rfl;clear aq;obtain⟨n,a1⟩:=kA fs.length;simp only[a1.out,S]at ah a3 ag P A⊢;clear S;obtain⟨V,G⟩:=kA (Zp (2*n) fs l);rw[G.out];obtain⟨b9,p⟩:=kB ((w.alloc (Xk #[O a n c,I6 (l:Int)] 28)).alloc (Xk #[eS,I6 0] 28));have r:=gD2 p;have X:=x2a p;have am:=x2b p;have a4:=dD p;clear p;go_enter func182,ntmps182;go_upto_region 1 with fail;rw[a4.out];obtain⟨aa,ab⟩:=X.k2;go_wp2_with fail;refine(ah _ r).mono ?_;rintro e x⟨rfl,ao⟩;have B:=dD ao;clear ao aa ab ah;obtain⟨aa,ab⟩:=(X.aA B).k2;go_wp2_with fail;refine(ag _ (r.trans B)).mono ?_;rintro e L⟨b,rfl,i,ad⟩;obtain⟨D,m,rfl⟩:=i.form;rw[a1.out]at i⊢;have ay:=dD i;have aj:=dD (B.trans ad);have ac:=dD<|bS ad;have a7:=dD<|(am.aA B).lt;have a6:=dD<|bS (r.trans B);clear i ad aa ab ag;obtain⟨M,k⟩:=kB (L.alloc (Xk #[O D n m,I6 (l:Int)] 28));have an:=xT k;have K:Xo (zb q7 x.heap.size M (O D n m) fs):=dD<|by rw[<-k];exact ay.aA (za _ _)
 have a9:Xo (Box M (w.heap.size+1) [eS,I6 0]):=dD<|by rw[<-k];exact(am.aA aj).alloc _
 have au:Xo (zc w M):=dD<|by rw[<-k];exact(r.trans aj).trans (za _ _)
 have a5:=dD k;clear k;go_wp2;rw[a5.out];go_loopg[8,9,23] (2*n) (fun az _ _ ai wr=>∃(h d:Nat)(g:List Fr),h<=2*n/\2*n-h<=az/\ai=I6 h/\d<max n 1/\Xo (g.length=n)/\Xo (Box wr L.heap.size [O D n m,I6 (d:Int)])/\Xo (zb q7 x.heap.size wr (O D n m) g)/\Xo (Below x.heap.size M wr)/\Xo (Zp (2*n-h) g d=V))
 exact⟨0,l,fs,nZ _,Wm,rfl,Wm,a1,an.box,K,bR _ _,G⟩;obtain⟨h,d,g,b1,bc,rfl,b0,C,I,U,Z,Y⟩:=hrel;have u:=a7.out;have t:=a6.out;have j:=dD<|a9.below Z u;have ak:=dD<|Below.trans au (Z.mono t);by_cases b2:h<2*n
 ·have R:(h:Int)<2*(n:Int):=Wm
  obtain⟨s,ba,ap⟩:=U.aG (by rw[C.out];omega);rw[C.out]at ap;cases ap;obtain⟨q,al⟩:∃q,Xo (g[d]?=Xa q):=⟨_,gE (by rw[C.out];omega)⟩;have af:=U.lt s rfl;have a2:Xo (L.heap.size≠s):=(K.ne an Dc s rfl);have f:=zoN L.heap.size s n m d x.heap.size x.heap.size g q wr C P al I U a2 ac.out af.1;have Q:g.getD d fr0=q:=by rw[gD,al.out];rfl
  have H:Xo (Zp (2*n-h) g d=if zkf q then(g.set d (frU q),(d+1)%n,(d:Int))else Zp (2*n-(h+1)) (g.set d (frU q)) ((d+1)%n)):=dD<|by
   rw[show 2*n-h=(2*n-(h+1))+1 by omega,Zp,Q,C.out]
  clear Q;cases E:zkf q with
  |true=>
   rw[E]at f;have F:Xo (V=(g.set d (frU q),(d+1)%n,(d:Int))):=dD (by rw[<-Y.out,H.out,E,kE rfl]);clear E;go_wp2_with(go_at_call 189;refine f.mono ?_;rintro e z⟨rfl,N,T,y⟩;obtain⟨b5,b7⟩:=(j.below y u).k2;have b8:=(j.below y u).f;obtain⟨b3,b4⟩:=N.k2;have a8:Xo (zb q7 x.heap.size z (O (Xa ⟨s,0,Xb⟩) n m) (g.set d (frU q))):=T;have a0:Xo (zc w z):=show zc w z from Below.trans ak (y.mono t);clear T y)
   refine bodyPost_ret (v:=Xm #[Xi #[O (Xa ⟨s,0,Xb⟩) n m,I6 (((d+1)%n:Nat):Int)],I6 (d:Int),I6 0]) (by simp[results,Tryz.results182,go_sem, *]) rfl ⟨O (Xa ⟨s,0,Xb⟩) n m,?_,?_,?_⟩;·rw[F.out]
   ·rw[F.out];exact((a8.setCell (a:=⟨w.heap.size+1,0,Xb⟩) (by show w.heap.size+1<_;omega) _).setCell (a:=⟨w.heap.size+1,1,Xb⟩) (by show w.heap.size+1<_;omega) _).base t
   exact zz (zz a0 Sm _) Sm _
  |false=>
   rw[E]at f;have aw:Xo (Zp (2*n-(h+1)) (g.set d (frU q)) ((d+1)%n)=V):=dD (by rw[<-Y.out,H.out,E];rfl);clear E;go_wp2_with(go_at_call 189;refine f.mono ?_;rintro e z⟨rfl,N,T,y⟩;have ar:Xo (Box z L.heap.size [O (Xa ⟨s,0,Xb⟩) n m,I6 (((d+1)%n:Nat):Int)]):=N;have a8:Xo (zb q7 x.heap.size z (O (Xa ⟨s,0,Xb⟩) n m) (g.set d (frU q))):=T;have ax:Xo (Below x.heap.size M z):=Below.trans Z y;clear N T y)
   go_roundg (2*n-(h+1));exact⟨h+1,(d+1)%n,g.set d (frU q),Wm,Wm,Gn,(by have:=Ym (d+1) (show 0<n by omega);omega),(show(g.set d (frU q)).length=n by rw[Xu];exact C),ar,a8,ax,aw⟩;omega
 have R:¬(h:Int)<2*(n:Int):=Wm;have:h=2*n:=Wm;subst this;have F:Xo (V=(g,d,-1)):=dD<|by rw[<-Y.out,Nat.sub_self];rfl
 obtain⟨b5,b7⟩:=j.k2;have b8:=j.f;obtain⟨b3,b4⟩:=I.k2;go_wp2;refine bodyPost_ret (v:=Xm #[Xi #[O D n m,I6 (d:Int)],I6 (-1),I6 0]) (by simp[results,Tryz.results182,go_sem, *]) rfl ⟨O D n m,?_,?_,?_⟩;·rw[F.out]
 ·rw[F.out];exact((U.setCell (a:=⟨w.heap.size+1,0,Xb⟩) (by show w.heap.size+1<_;omega) _).setCell (a:=⟨w.heap.size+1,1,Xb⟩) (by show w.heap.size+1<_;omega) _).base t
 exact zz (zz ak Sm _) Sm _
theorem zoX(a)(c:Nat)(fs:List Fr)(h:Int)(w:Xn)(f:zq q7 w (O a fs.length c) fs)(d:ZT fs h=0):
  Xp prog 182 #[Xi #[O a fs.length c,I6 h]] w fun e w'=>∃b,e=Xl (Xm #[Xi #[b,I6 (zd9 fs h)],I6 (za9 fs h),I6 (ZT fs h)])/\zb q7 w.heap.size w' b (zcC fs h)/\zc w w':=by unfold zd9 za9 zcC zbw;rw[kE d,kE d,kE d];obtain⟨g,rfl⟩:=Int.eq_ofNat_of_zero_le (Ze d).2.2.1;rw[tN,d];exact zry a c fs g w f d
def Qh(m:Ma):Ma:={m with fs:=zcC m.fs m.aB,aB:=zd9 m.fs m.aB}
theorem zrK(h:ChW w0 k w V m)(c:ZT m.fs m.aB=0):
  Xp prog 182 #[Xi #[V.f.x,I6 m.aB]] w fun e w'=>∃b:Sli,e=Xl (Xm #[Xi #[b.x,I6 (zd9 m.fs m.aB)],I6 (za9 m.fs m.aB),I6 0])/\zb q7 w.heap.size w' (b.x) (zcC m.fs m.aB)/\zc w w':=by obtain⟨a,-⟩:=h.at.ns;have p:=h.at.fs;(try simp only[Sli.x]at p⊢);rw[a]at p⊢;refine(zoX V.f.a V.f.c m.fs m.aB w p c).mono ?_;rintro e w'⟨b,rfl,d,h⟩;have a:zb q7 w.heap.size w' b (zcC m.fs m.aB):=d;obtain⟨f,g,rfl⟩:=a.form;rw[c];exact⟨⟨f,_,g⟩,rfl,d,h⟩
theorem zhE:∀(m:Nat)(fs:List Fr)(h:Nat),h<fs.length->(∀q∈fs,q=frF)->Zp m fs h=(fs,(h+m)%fs.length,-1)
 |0,fs,h,a,_=>by
  rw[Zp,Oa,Yg a]
 |m+1,fs,h,a,b=>by
  have d:fs.getD h fr0=frF:=by
   rw[gD,gE a];exact b _ (List.getElem_mem a)
  have e:fs.set h (frU frF)=fs:=by
   apply Oe;intro j;by_cases c:j=h;·subst c;rw[sF a,gE a,b _ (List.getElem_mem a)];rfl
   rw[sN (Ne.symm c)]
  rw[Zp,d,show zkf frF=Xd from rfl,e];rw[kF Dc,zhE m fs ((h+1)%fs.length) (Ym _ Wm) b];rw[Yy,Nat.add_assoc,Nat.add_comm 1 m]
theorem zno(a:frW X=0)(b:X.r=0):X=frF:=by grind[frW,inB,Jb,frF,zdy]
def zgY(q:Fr):Bool:=decide (0<q.r)
theorem zlb{fs:List Fr}(a:ZT fs z=0)(e:fs.any zgY=Xd):zbw fs z=(fs,z.toNat,-1):=by
 obtain⟨b,c,b,b⟩:=Ze a;have a:∀q∈fs,q=frF:=fun q b=>by
  have d:=List.any_eq_false.1 e q b;unfold zgY at d;have d:=(zcg (c q b)).1;grind[zno]
 unfold zbw;by_cases b:fs.length=0;·rw[b];rfl
 rw[zhE _ fs z.toNat Wm a,Nat.add_comm,Nat.two_mul,Nat.add_assoc,Nat.add_mod_left,Nat.add_mod_left,Yg Wm]
def zct(fs gs:List Fr):Prop:=gs.length=fs.length/\∀(i:Nat)q,fs[i]?=Xa q->∃q',gs[i]?=Xa q'/\(q'=q\/q'=frU q)
theorem zct.refl(fs):zct fs fs:=⟨rfl,fun _ q h=>⟨q,h,.inl rfl⟩⟩
theorem zct.set{fs a:List Fr}(h:zct fs a)(i:Nat):zct fs (a.set i (frU (a.getD i fr0))):=by
 refine⟨Rx Xu h.1,fun j q c=>?_⟩;obtain⟨d,a,b⟩:=h.2 j q c;by_cases e:j=i
 ·subst e;have c:=(gS.1 a).1;refine⟨frU d,?_,?_⟩;·grind
  right;rcases b with rfl|rfl<;>rfl
 grind
theorem zbx:∀(m:Nat)(fs b:List Fr)(h:Nat),zct fs b->h<b.length->∀(a:List Fr)(c:Nat)(r:Int),Zp m b h=(a,c,r)->zct fs a/\c<a.length/\(r=-1\/∃(k:Nat)(q:Fr),r=(k:Int)/\fs[k]?=Xa q/\0<q.r/\a[k]?=Xa (frU q)/\c=(k+1)%fs.length)
 |0,fs,b,h,f,l,a,c,r,e=>by
  rw[Zp]at e;cases e;exact⟨f,l,.inl rfl⟩
 |m+1,fs,b,h,f,l,a,c,r,e=>by
  rw[Zp]at e;have j:=f.set h;have i:(h+1)%b.length<(b.set h (frU (b.getD h fr0))).length:=by
   rw[Xu];exact Ym _ Wm
  by_cases d:zkf (b.getD h fr0)=Xc
  ·rw[kE d]at e;cases e;refine⟨j,i,.inr ?_⟩;have g:h<fs.length:=Ry f.1 l;obtain⟨s,t,n⟩:=f.2 h fs[h] (gE g);have p:b.getD h fr0=s:=(by rw[gD,t];rfl);rw[p]at d;have b:0<s.r:=(by unfold zkf at d;simp at d;exact d.1);refine⟨h,fs[h],rfl,gE g,?_,?_,by rw[f.1]⟩
   ·rcases n with rfl|rfl
    ·exact b
    exact b
   rw[sF l,p];rcases n with rfl|rfl<;>rfl
  rw[kF d]at e;exact zbx m fs _ _ j i a c r e
theorem zlq{fs:List Fr}(b:∀q∈fs,0<=q.r):fs.countP zgY+jC fs=fs.length:=by
 induction fs with
 |nil=>rfl
 |cons a l d=>
  have c:=d fun q d=>b q (by simp[d]);have d:=b a Sm;unfold jC at c⊢;rw[Oh,Oh,Yj];by_cases b:a.r=0;·grind[zgY]
  grind[zgY]
theorem zfx:∀(d m:Nat)(a:List Fr)(h:Nat),h<a.length->d<m->zgY (a.getD ((h+d)%a.length) fr0)=Xc->(a.getD ((h+d)%a.length) fr0).u=Xd->(Zp m a h).2.2≠-1
 |d,0,_,_,_,k,_,_=>Wm
 |d,m+1,a,h,c,k,hd,g=>by
  rw[Zp]
  by_cases hi:zkf (a.getD h fr0)=Xc
  ·rw[kE hi];simp only;omega
  rw[kF hi]
  cases d with
  |zero=>
   rw[Oa,Yg c]at hd g;unfold zkf at hi;unfold zgY at hd;rw[hd,g]at hi;exact absurd rfl hi
  |succ d=>
   have f:(a.set h (frU (a.getD h fr0))).length=a.length:=Xu;have b:∀i,(a.set h (frU (a.getD h fr0))).getD i fr0=if i=h/\h<a.length then frU (a.getD h fr0)else a.getD i fr0:=fun i=>by
    rw[gD];by_cases e:i=h;·subst e;rw[kE ⟨rfl,c⟩,sF c];rfl
    rw[kF Wm,sN (Ne.symm e),<-gD]
   have j:((h+1)%a.length+d)%a.length=(h+(d+1))%a.length:=(by rw[Yy,show h+1+d=h+(d+1) by omega]);refine zfx d m _ _ (by rw[f];exact Ym _ Wm) Wm ?_ ?_
   ·rw[f,j,b]
    split
    ·rename_i e
     rw[e.1]at hd;exact hd
    exact hd
   rw[f,j,b];split;·rfl
   exact g
theorem zea:∀(d m:Nat)(a:List Fr)(h:Nat),h<a.length->d+a.length<m->zgY (a.getD ((h+d)%a.length) fr0)=Xc->(Zp m a h).2.2≠-1
 |d,0,_,_,_,j,_=>Wm
 |d,m+1,a,h,c,j,hd=>by
  rw[Zp]
  by_cases hi:zkf (a.getD h fr0)=Xc
  ·rw[kE hi];simp only;omega
  rw[kF hi];have e:(a.set h (frU (a.getD h fr0))).length=a.length:=Xu;have b:∀i,(a.set h (frU (a.getD h fr0))).getD i fr0=if i=h/\h<a.length then frU (a.getD h fr0)else a.getD i fr0:=fun i=>by
   rw[gD];by_cases f:i=h;·subst f;rw[kE ⟨rfl,c⟩,sF c];rfl
   rw[kF Wm,sN (Ne.symm f),<-gD]
  cases d with
  |zero=>
   rw[Oa,Yg c]at hd;have g:((h+1)%a.length+(a.length-1))%a.length=h:=by
    rw[Yy,show h+1+(a.length-1)=h+a.length by omega,Nat.add_mod_right,Yg c]
   refine zfx (a.length-1) m _ _ (by rw[e];exact Ym _ Wm) Wm ?_ ?_;·rw[e,g,b,kE ⟨rfl,c⟩];exact hd
   rw[e,g,b,kE ⟨rfl,c⟩];rfl
  |succ d=>
   have g:((h+1)%a.length+d)%a.length=(h+(d+1))%a.length:=(by rw[Yy,show h+1+d=h+(d+1) by omega]);refine zea d m _ _ (by rw[e];exact Ym _ Wm) (by rw[e];omega) ?_;rw[e,g,b];split
   ·rename_i f
    rw[f.1]at hd;exact hd
   exact hd
theorem zla{fs:List Fr}(a:ZT fs z=0):
  (za9 fs z=-1/\jC fs=fs.length)\/∃(k:Nat)(q:Fr),za9 fs z=(k:Int)/\fs[k]?=Xa q/\0<q.r/\zct fs (zcC fs z)/\(zcC fs z)[k]?=Xa (frU q)/\zd9 fs z=(((k+1)%fs.length:Nat):Int):=by
 obtain⟨b,b,c,c⟩:=Ze a;have d:za9 fs z=(zbw fs z).2.2:=kE a;have c:zcC fs z=(zbw fs z).1:=kE a;have c:zd9 fs z=((zbw fs z).2.1:Int):=kE a;cases c:fs.any zgY with
 |false=>
  left;rw[d,zlb a c];refine⟨rfl,?_⟩;have a:=zlq (fs:=fs) (fun q l=>(zcg (b q l)).1);have a:fs.countP zgY=0:=by grind
  omega
 |true=>
  right;obtain⟨a,a,f⟩:=Xt.1 c;obtain⟨i,j⟩:=Yb a;have e:=(gS.1 j).1;have c:z.toNat<fs.length:=Wm;obtain⟨b,d,r,g⟩:∃b d r,Zp (2*fs.length) fs z.toNat=(b,d,r):=⟨_,_,_,rfl⟩;have a:r≠-1:=by
   have a:=zea ((i+fs.length-z.toNat)%fs.length) (2*fs.length) fs z.toNat c (by have:=Ym (i+fs.length-z.toNat) (show 0<fs.length by omega);omega) (by
    rw[Nat.add_mod_mod,show z.toNat+(i+fs.length-z.toNat)=i+fs.length by omega,Nat.add_mod_right,Yg e,gD,j]
    exact f)
   rw[g]at a;exact a
  obtain⟨a,a,a⟩:=zbx (2*fs.length) fs fs z.toNat (zct.refl fs) c b d r g;rcases a with a|⟨k,q,rfl,l,a,a,rfl⟩;·grind
  grind[zbw]
theorem zfJ(a:enW Z=0):∀(l:List (Nat×Nat)){m:Ma},(∀s∈m.sp,QH s.tb)->(∀x∈l,x.1<m.sp.length/\x.2<64)->JI m Z l=Z5 m Z l
 |[],m,_,_=>rfl
 |x::l,m,ht,b=>by
  obtain⟨c,d⟩:=b x (Ou ..)
  show JI (Zm m x.1 (x.2:Int) Z) Z l=Z5 (zaa m x.1 x.2 Z) Z l;rw[JH ht c d a];exact zfJ a l (zdq ht a) (fun y a=>by rw[zcz];exact b y (Om _ a))
theorem zhr:∀(l:List (Nat×Nat)){m m0:Ma},m.sp=m0.sp->(Z5 m Z l).sp=(Z5 m0 Z l).sp
 |[],_,_,h=>h
 |x::l,m,m0,h=>zhr l (m:=zaa m x.1 x.2 Z) (m0:=zaa m0 x.1 x.2 Z) (by unfold zaa;simp only;rw[h])
theorem zcc(h:Rt m)(b:m.fs[k]?=Xa X)(a:X.r≠0):0<=X.r/\X.r<=1000/\Z3 m.fs m.aB (k:Int) (-X.r)=0:=by
 obtain⟨a,c⟩:=zcg ((Ze h.parts.1).2.1 X (mG b));refine⟨a,c,?_⟩;have a:m.fs.getD k fr0=X:=by rw[gD,b];rfl
 have c:=(gS.1 b).1;unfold Z3;rw[kE h.parts.1,tN,a];grind[inB]
theorem zkb{m0:Ma}(h:Rt m0)(b:m.sp=m0.sp)(c:m.fs=m0.fs)(g:m.aB=m0.aB)(f:m0.fs[k]?=Xa X)(a:X.r≠0)(d:enW Z=0):
  zbg m k X.r Z={m with fs:=m.fs.set k frF,sp:=m.sp.map (Z6 (k:Int) Z)}:=by
 obtain⟨_,_,c⟩:=zcc h f a;have i:∀s∈m.sp,QH s.tb:=fun s a=>h.tb (Ry b a);have c:jO m 1 (k:Int) m.sp.length=jO m0 1 (k:Int) m0.sp.length:=by unfold jO;rw[b]
 have a:∀x∈jO m0 1 (k:Int) m0.sp.length,x.1<m.sp.length/\x.2<64:=fun x g=>by
  obtain⟨j,j,_⟩:=(zaL (m:=m0) Dc (nR _)).1 g;grind
 have g:(Z5 m Z (jO m0 1 (k:Int) m0.sp.length)).sp=m.sp.map (Z6 (k:Int) Z):=by rw[zhr _ b,zo8 h d,b]
 have b:m0.fs.getD k fr0=X:=by rw[gD,f];rfl
 unfold zbg;rw[c,zfJ d _ i a,zd2];grind[JD,tN,frH,frF]
def zau(k:Nat)(fr:Fr)(l:List (Nat×Nat))(q:Nat)(s:Sp)(a:Ar)(n:Nat):Bool:=decide ((z5 a n).file=fr.f)&&decide ((z5 a n).page=fr.x)&&!(l.contains (q,n))&&(decide ((zh s n).kind=0)||isE (zh s n) 1 (k:Int))
def zhk(m:Ma)(k:Nat)(fr:Fr)(l:List (Nat×Nat)):Bool:=(List.range m.sp.length).any fun q=>(m.sp.getD q ⟨Xd,[],[]⟩).aC.any fun a=>(List.range 64).any fun n=>Z7 a n&&zau k fr l q (m.sp.getD q ⟨Xd,[],[]⟩) a n
theorem zbS:zau k X d b s C p=Xc↔zjM k X d b s C p:=by unfold zau zjM;simp[and_assoc]
theorem zdR:zhk m k X d=Xc↔∃(q:Nat)(s:Sp)(i:Nat)(a:Ar)(n:Nat),m.sp[q]?=Xa s/\s.aC[i]?=Xa a/\Z7 a n=Xc/\n<64/\zjM k X d q s a n:=by
 unfold zhk;constructor;·intro h;obtain⟨q,l,h⟩:=Xt.1 h;obtain⟨a,b,h⟩:=Xt.1 h;obtain⟨n,e,h⟩:=Xt.1 h;obtain⟨i,c⟩:=Yb b;have b:=Yr.1 l;have l:=gE b;rw[Sp.aK l]at c h;rw[Yv]at h;exact⟨q,_,i,a,n,l,c,h.1,Yr.1 e,zbS.1 h.2⟩
 rintro⟨q,s,i,a,n,b,c,l,e,f⟩;refine Xt.2 ⟨q,Yr.2 (gS.1 b).1,?_⟩;rw[Sp.aK b];refine Xt.2 ⟨a,mG c,Xt.2 ⟨n,Yr.2 e,?_⟩⟩;rw[Yv];exact⟨l,zbS.2 f⟩
def zlT(m:Ma)(fr:Fr):List Int:=Z4 (pgL fr.p) fr.x (Q6 m fr.f)
def zaf(m:Ma):Nat:=m.sl.findIdx isZ
def zbR(m:Ma)(k:Nat)(fr:Fr):Bool×Ma:=if zaf m<m.sl.length then(Xc,Qv m k (zaf m) fr.r (Zd m.sb m.sq) (Zj m.sq (zaf m:Int) (pgL fr.p)))else(Xd,m)
def zfe(m:Ma)(k:Nat)(fr:Fr)(l:List (Nat×Nat)):Bool×Ma:=
 if zlT m fr≠pgL fr.p/\zhk m k fr l=Xc then(Xd,m)
 else if fr.d=Xc\/Qm m fr.f fr.x≠zlT m fr then
  (if zbc m.fl m.cnt fr.f fr.x=0 then(Xc,qD (wrM m (zlT m fr) fr.f fr.x) k)else if Qm m fr.f fr.x=zlT m fr then(Xc,qD m k)else(Xd,m))
 else(Xc,qD m k)
def ZB(m:Ma)(k:Nat)(fr:Fr)(l:List (Nat×Nat)):Bool×Ma:=if fr.f=-1 then zbR m k fr else zfe m k fr l
def QX:Nat->Ma->List (Nat×Nat)->Bool×Ma
 |0,m,_=>(Xd,m)
 |n+1,m,l=>
  if za9 m.fs m.aB<0 then(Xd,Qh m)
  else if(ZB (Qh m) (za9 m.fs m.aB).toNat (zY (Qh m) (za9 m.fs m.aB)) l).1=Xc then ZB (Qh m) (za9 m.fs m.aB).toNat (zY (Qh m) (za9 m.fs m.aB)) l
  else QX n (Qh m) l
def QW(m:Ma)(l:List (Nat×Nat)):Bool×Ma:=QX (2*m.fs.length) m l
section
variable{m:Ma}{k:Nat}{fr:Fr}
theorem Rt.frw(h:Rt m)(a:m.fs[k]?=Xa fr):frW fr=0:=(Ze h.parts.1).2.1 fr (mG a)
theorem zld(S:Nat->Nat->Prop)(f:Rt m){a:List Fr}(h:zct m.fs a):JR S m {m with fs:=a}:=by
 have j:∀i,i<=m.fs.length->JR S m {m with fs:=a.take i++m.fs.drop i}:=by
  intro i;induction i with
  |zero=>
   intro _;have:a.take 0++m.fs.drop 0=m.fs:=Sm;rw[this];exact JR.refl f
  |succ i b=>
   intro c;have g:=b Wm;obtain⟨q,l⟩:∃q,m.fs[i]?=Xa q:=⟨_,gE Wm⟩;obtain⟨c,b,k⟩:=h.2 i q l;have e:=h.1;have e:(a.take i).length=i:=(by rw[Xs];omega);have r:(a.take i++m.fs.drop i)[i]?=Xa q:=(by grind);have n:a.take (i+1)++m.fs.drop (i+1)=(a.take i++m.fs.drop i).set i c:=by
    rw[List.set_append,kF Wm,e,Nat.sub_self,Of,b,Ys];congr 1;rw[List.drop_eq_getElem_cons (by omega:i<m.fs.length),sZ];rfl
   rw[n];by_cases n:q.r=0
   ·have p:=zno (f.frw l) n;have b:c=q:=by
     rcases k with e|e;·exact e
     rw[e,p];rfl
    have f:(a.take i++m.fs.drop i).set i c=a.take i++m.fs.drop i:=by
     rw[b];apply Oe;intro a;by_cases e:i=a;·grind
     grind
    rw[f];exact g
   have b:c={q with u:=c.u,d:=q.d}:=by
    rcases k with e|e;·rw[e]
    rw[e];rfl
   rw[b];exact g.trans (zle S g.rt r n c.u q.d)
 have:=j m.fs.length (nR _);rw[List.drop_length,Yz,Yc (by rw[h.1];exact nR _)]at this;exact this
theorem zlf{fs a:List Fr}(d:zct fs a):jC a=jC fs:=by
 unfold jC;have b:a.map (fun f=>decide (f.r=0))=fs.map (fun f=>decide (f.r=0)):=by
  apply Oe;intro i;rw[Og,Og];cases c:fs[i]? with
  |none=>
   have:a[i]?=Xb:=(by rw[List.getElem?_eq_none_iff]at c⊢;rw[d.1];exact c);rw[this]
  |some q=>
   obtain⟨a,b,a⟩:=d.2 i q c;rw[b];rcases a with e|e<;>rw[e]<;>rfl
 have a:=congrArg (List.countP id) b;rw[List.countP_map,List.countP_map]at a;exact a
theorem zhF(S:Nat->Nat->Prop)(h:Rt m):JR S m (Qh m)/\jC (Qh m).fs=jC m.fs/\((za9 m.fs m.aB=-1/\jC m.fs=m.fs.length)\/∃(k:Nat)(fr:Fr),za9 m.fs m.aB=(k:Int)/\(Qh m).fs[k]?=Xa fr/\fr.r≠0):=by
 have c:=h.parts.1;obtain⟨a,a,a,a⟩:=Ze c;have a:zcC m.fs m.aB=(zbw m.fs m.aB).1:=kE c;have b:zd9 m.fs m.aB=((zbw m.fs m.aB).2.1:Int):=kE c;have d:zct m.fs (zcC m.fs m.aB)/\0<=zd9 m.fs m.aB/\zd9 m.fs m.aB<max (m.fs.length:Int) 1:=by
  rw[a,b];by_cases a:m.fs.length=0
  ·have:zbw m.fs m.aB=(m.fs,m.aB.toNat,-1):=by unfold zbw;rw[a];rfl
   rw[this];exact⟨zct.refl _,by simp only;omega,by simp only;omega⟩
  obtain⟨a,b,r,e⟩:∃a b r,Zp (2*m.fs.length) m.fs m.aB.toNat=(a,b,r):=⟨_,_,_,rfl⟩;obtain⟨f,g,_⟩:=zbx _ m.fs m.fs m.aB.toNat (zct.refl _) Wm a b r e;have:zbw m.fs m.aB=(a,b,r):=e;rw[this];have:=f.1;grind
 obtain⟨a,e,f⟩:=d;have b:=zld S h a;have d:JR S {m with fs:=zcC m.fs m.aB} (Qh m):=zne S b.rt e (by show _<max ((zcC m.fs m.aB).length:Int) 1;rw[a.1];exact f);refine⟨b.trans d,zlf a,?_⟩;rcases zla c with⟨a,b⟩|⟨k,q,a,b,b,b,b,c⟩;·grind
 exact .inr ⟨k,frU q,a,b,by show q.r≠0;omega⟩
theorem zqk(a:zaf m<m.sl.length):m.sl[zaf m]?=Xa 0:=by have b:(m.sl[zaf m]==0)=Xc:=Oo (w:=a);rw[gE a,eq_of_beq b]
theorem zms(S:Nat->Nat->Prop)(h:Rt m)(d:m.fs[k]?=Xa fr)(c:fr.f=-1)(e:fr.r≠0):JR S m (zbR m k fr).2:=by
 unfold zbR;by_cases b:zaf m<m.sl.length
 ·rw[kE b];have a:=h.inv.bE;have a:zp m.sb.length m.sq ((zaf m:Nat):Int)=0:=by
   unfold zp;rw[kE h.inv.sq,kE (by simp[ZE];omega)]
  exact zmt S h d c e (zqk b) (Jw _ _) (JU a) (zfj a).2 (fun i _ b=>zdG a b)
 grind[JR.refl]
theorem zmi(S:Nat->Nat->Prop)(h:Rt m){c:Ca}{F:Fl}(t:c∈m.ca)(hi:zr4 m c k fi ix fr F)(a:zbc m.fl m.cnt fr.f fr.x=0)(pg):∃b:Nat,wrM m pg fr.f fr.x=zeW m fi ix F (b:Int) (Zd m.db m.dq) (Zj m.dq (b:Int) pg)/\JR S m (zeW m fi ix F (b:Int) (Zd m.db m.dq) (Zj m.dq (b:Int) pg))/\qO (Zd m.db m.dq) (Zj m.dq (b:Int) pg) (b:Int)=pg/\(b:Int)<m.cnt/\(∀(i j:Nat)g,m.fl[i]?=Xa g->g.bl[j]?=Xa (b:Int)->i=fi/\j=ix):=by
 have e:=a;rw[hi.ff,hi.fx]at a;obtain⟨b,l,f,n,p,q⟩:=zrP h hi.fl hi.bl a;obtain⟨a,a,r⟩:=QJ h.inv.bK;have a:=h.inv.cnt;have a:zp m.db.length m.dq (b:Int)=0:=by
  unfold zp;rw[kE h.inv.bK,kE (by simp[ZE];omega)]
 have d:=h.inv.st;have s:wrM m pg fr.f fr.x=zeW m fi ix F (b:Int) (Zd m.db m.dq) (Zj m.dq (b:Int) pg):=by
  unfold wrM zeW;rw[kE e,hi.ff,hi.fx,f,n,p];grind[jV,Zb]
 have f:stW (m.fl.set fi ⟨F.size,F.bl.set ix (b:Int)⟩) m.cnt=0/\(∀x,z3 (m.fl.set fi ⟨F.size,F.bl.set ix (b:Int)⟩) x=Xc↔(z3 m.fl x=Xc/\x≠-1)\/x=(b:Int)\/(x=-1/\z3 (m.fl.set fi ⟨F.size,F.bl.set ix (b:Int)⟩) x=Xc))/\(F.bl[ix]?=Xa (b:Int)\/z3 m.fl (b:Int)=Xd)/\∀(i j:Nat)g,m.fl[i]?=Xa g->g.bl[j]?=Xa (b:Int)->i=fi/\j=ix:=by
  rcases q with e|⟨e,n⟩
  ·obtain⟨p,q,u⟩:=zn1 d hi.fl e
   grind
  obtain⟨p,q,u,p⟩:=zn2 d hi.fl e n;grind
 obtain⟨u1,u2,u3,u4⟩:=f;refine⟨b,s,zl3 S h hi.fl u1 u2 (Jw _ _) (JU a) (zmh _ _ r) (fun q e=>?_) (fun i d=>zdG a d) u3 ⟨c,t,hi.file,hi.idx⟩ u4,(zfj a).2,l,u4⟩;unfold Zj at e;grind[List.mem_append.1,List.mem_of_mem_tail,Xw]
theorem zgK(h:Rt m)(a:m.fs[k]?=Xa fr)(b:fr.f≠-1):∃(i:Nat)(c:Ca)(b d:Nat)(F:Fl),m.ca[i]?=Xa c/\zr4 m c k b d fr F:=by
 have e:0<=fr.f:=by
  have:=h.frw a;grind[frW,inB]
 obtain⟨i,c,g,j,j,j⟩:=zeO h a e;obtain⟨j,b,d,f,F,b⟩:=zn0 h.w (mG g);have e:j=k:=Hm b.fr;subst e;have:=b.fa.symm.trans a;grind
theorem znN(h:Rt m)(d:m.fs[k]?=Xa fr)(b:fr.f≠-1)(f:fr.r≠0)(l:List (Nat×Nat)):JR (fun q j=>(q,j)∈l) m (zfe m k fr l).2:=by
 obtain⟨i,c,a,a,F,c,a⟩:=zgK h d b;have x:=mG c;have b:=(gS.1 a.fl).1;have b:Q6 m fr.f=F.size:=by unfold Q6;rw[a.ff,tN,gD,a.fl];rfl
 have g:0<=fr.f:=by rw[a.ff];omega
 unfold zfe;by_cases p:zlT m fr≠pgL fr.p/\zhk m k fr l=Xc;·grind[JR.refl]
 rw[kF p];have e:Z4 (pgL fr.p) fr.x (Q6 m fr.f)=pgL fr.p\/∀(q:Nat)s(i:Nat)c(n:Nat),m.sp[q]?=Xa s->s.aC[i]?=Xa c->Z7 c n=Xc->n<64->¬zjM k fr l q s c n:=by
  by_cases b:zlT m fr=pgL fr.p;·exact .inl b
  exact .inr fun q s i c n r t u v w=>p ⟨b,zdR.2 ⟨q,s,i,c,n,r,t,u,v,w⟩⟩
 by_cases b:fr.d=Xc\/Qm m fr.f fr.x≠zlT m fr
 ·rw[kE b]
  by_cases c:zbc m.fl m.cnt fr.f fr.x=0
  ·rw[kE c];obtain⟨i,i,n,p,_⟩:=zmi (fun q j=>(q,j)∈l) h x a c (zlT m fr);simp only;rw[i];refine zg5 n a.fl a.bl d a.ff a.fx f ?_ e;rw[p];unfold zlT;rw[a.fx,a.ff]
  rw[kF c];by_cases a:Qm m fr.f fr.x=zlT m fr;·rw[kE a];exact zgj h d g f a e
  grind[JR.refl]
 rw[kF b];exact zgj h d g f (Classical.byContradiction fun a=>b (.inr a)) e
theorem zlJ(h:Rt m)(a:m.fs[k]?=Xa fr)(b:fr.r≠0)(l:List (Nat×Nat)):JR (fun q j=>(q,j)∈l) m (ZB m k fr l).2:=by grind[ZB,zms,znN]
theorem zmj(m:Ma)(pg)(file idx:Int):(wrM m pg file idx).fs=m.fs:=(zrm _ _ _ _).1
theorem zkt(m:Ma)(k:Nat)(fr)(l:List (Nat×Nat)):((ZB m k fr l).1=Xc/\(ZB m k fr l).2.fs=m.fs.set k frF)\/((ZB m k fr l).1=Xd/\(ZB m k fr l).2=m):=by
 unfold ZB;split
 ·unfold zbR
  split;·exact .inl ⟨rfl,rfl⟩
  grind
 grind[zfe,qD,zmj]
theorem zeu(l:List (Nat×Nat)):∀(n:Nat){m:Ma},Rt m->JR (fun q j=>(q,j)∈l) m (QX n m l).2/\jC (QX n m l).2.fs=jC m.fs+((QX n m l).1).toNat
 |0,m,h=>⟨JR.refl h,rfl⟩
 |n+1,m,h=>by
  obtain⟨a,d,b⟩:=zhF (fun q j=>(q,j)∈l) h
  unfold QX;rcases b with⟨b,_⟩|⟨k,f,b,c,e⟩
  ·rw[kE Wm]
   exact⟨a,d⟩
  rw[kF Wm,b,tN,zI c];rcases zkt (Qh m) k f l with⟨b,f⟩|⟨b,f⟩;·rw[kE b];refine⟨a.trans (zlJ a.rt c e l),?_⟩;rw[b,f,zpl c e,d];rfl
  rw[kF (by rw[b];decide)];obtain⟨b,c⟩:=zeu l n a.rt;exact⟨a.trans b,by rw[c,d]⟩
theorem znp(h:Rt m)(l:List (Nat×Nat)):JR (fun q j=>(q,j)∈l) m (QW m l).2/\jC (QW m l).2.fs=jC m.fs+((QW m l).1).toNat:=zeu l _ h
end
end
section
theorem zqW(h:Rt m)(q:m.sp[k]?=Xa s)(r:b<64):zlL m k (b:Int)=JL m k b:=by
 have D:∀s∈m.sp,QH s.tb:=fun s q=>h.tb q;have A:=(gS.1 q).1;obtain⟨e,d⟩:=kB (zh s b);have g:Ju m k (b:Int)=e:=by unfold Ju;rw[Sp.aK q,JF r,d]
 have x:m.sp.getD k ⟨Xd,[],[]⟩=s:=Sp.aK q;unfold zlL JL;rw[g];simp only[x,d];by_cases i:e.kind=1
 ·obtain⟨n,t,f,c,l,w⟩:=h.aU q r (Rx d i)
  rw[d]at f l;obtain⟨B,C⟩:=h.refs c;have y:=(gS.1 c).1;have a:m.fs.getD n fr0=t:=by rw[gD,c];rfl
  have p:Js m e (-1)={m with fs:=m.fs.set n (Jq t)}:=by
   have u:Z3 m.fs m.aB e.n (-1)=0:=by
    unfold Z3;rw[kE h.parts.1,f,tN,a];grind[inB]
   grind[Js,JD,zm8,tN,frH,Jq]
  grind[tN,JH,Jq,JK]
 rw[kF i];by_cases j:e.kind=2
 ·rw[kE j];obtain⟨n,z,f,c,l,w,_⟩:=h.bZ q r (Rx d j);rw[d]at f l;obtain⟨B,C⟩:=h.slots c;have a:m.sl.getD n 0=z:=by rw[gD,c];rfl
  have p:Js m e (-1)={m with sl:=m.sl.set n (z-1)}:=by
   have v:atS m.sl e.n=z:=(by unfold atS;rw[f,kE Wm,tN,a]);have u:ZY m.sl e.n (-1)=0:=by
    unfold ZY;rw[kE h.parts.2,v,kF Wm,kE Wm]
   grind[Js,Qw,tN]
  grind[tN,JH,JK]
 grind[Js,JH,JK]
end
section
open Go.RowKit
def zgJ(fs:List Fr):Nat:=fs.countP fun a=>a.r==0
theorem zlw{fs:List Fr}(h:fs[k]?=Xa X):zgJ (fs.take (k+1))=zgJ (fs.take k)+if X.r=0 then 1 else 0:=by obtain⟨a,rfl⟩:=gS.1 h;rw[List.take_succ_eq_append_getElem a];unfold zgJ;rw[List.countP_append,Oh,List.countP_nil];simp
theorem zhI(a)(c:Nat)(fs:List Fr)(h:Int)(w)(g:zq q7 w (O a fs.length c) fs):
  Xp prog 167 #[Xi #[O a fs.length c,I6 h]] w fun e w'=>e=Xl (I6 (zgJ fs))/\zc w w':=by
 have d:=g.short;obtain⟨b,b,f,b⟩:=g.bB;cases f;have i:=dD b;clear b g;obtain⟨n,l⟩:=kA fs.length;rw[l.out]at d⊢;obtain⟨f,b⟩:=kB (w.alloc (Xk #[O a n c,I6 h] 28));have h:=gA b;have d:=dD b;clear b;go_enter func167,ntmps167;go_wp2;rw[d.out];go_loopg[3,5,9] n (fun d g _ j wr=>∃(b m:Nat),b<=n/\n-b<=d/\m<=b/\j=I6 b/\g=I6 m/\Xo (zc f wr)/\Xo (zgJ (fs.take b)=m))
 exact⟨0,0,nZ _,Wm,nR _,rfl,rfl,zc.refl _,rfl⟩;obtain⟨b,m,d,d,d,rfl,rfl,k,A⟩:=hrel;by_cases d:b<n
 ·have j:=kC d
  obtain⟨q,f⟩:∃q,Xo (fs[b]?=Xa q):=⟨_,gE (Rx l.out d)⟩;obtain⟨g,rfl,g⟩:=i.out b q f.out;obtain⟨i,i,i,i,i,i,i,i,i,i,i,i,i⟩:=g wr (h.trans k);have i:=dD<|zlw f.out;clear g;by_cases f:q.r=0
  ·have g:Xo (zgJ (fs.take (b+1))=m+1):=dD<|by rw[i.out,A.out,kE f]
   have p:(q.r==0)=Xc:=(by simp[f]);have r:=dD f;clear f;go_wp2;go_roundg (n-(b+1));exact⟨b+1,m+1,Wm,Wm,Wm,Gn,Gn,k.trans (za _ _),g⟩;omega
  have g:Xo (zgJ (fs.take (b+1))=m):=dD (by rw[i.out,A.out,kF f];rfl);have p:(q.r==0)=Xd:=by simp[f]
  go_wp2;go_roundg (n-(b+1));exact⟨b+1,m,Wm,Wm,Wm,Gn,rfl,k.trans (za _ _),g⟩;omega
 have j:=kD d;have:b=n:=Wm;subst this;have g:Xo (zgJ fs=m):=dD<|by rw[<-A.out,Yc (by rw[l.out];exact nR _)]
 go_wp2;go_ret;exact⟨Rr g.out,h.trans k⟩
def isF(a:Fr):Bool:=a.r==0
def frT(p:Pg)(fi ix:Int):Fr:=⟨p,1,Xc,Xd,fi,ix⟩
theorem zmq(q:Fr)(w:Xn):
  Xp prog 185 #[Xi (frv q).toArray] w fun e w'=>e=Xl (Xh (isF q))/\zc w w':=by show Xp prog 185 #[Xi #[U8 q.p.b0,U8 q.p.b1,U8 q.p.b2,U8 q.p.b3,U8 q.p.b4,U8 q.p.b5,U8 q.p.b6,U8 q.p.b7,I6 q.r,Xh q.u,Xh q.d,I6 q.f,I6 q.x]] w _;go_enter func185,ntmps185;go_wp2;go_ret;exact⟨rfl,(bR _ _).alloc (nR _) _⟩
def zpV(fs:List Fr):Int:=if fs.findIdx isF<fs.length then(fs.findIdx isF:Int)else-1
theorem zlD{fs:List Fr}(h:fs[k]?=Xa X)(b:isF X=Xc)(a:∀(j:Nat)x,j<k->fs[j]?=Xa x->isF x=Xd):fs.findIdx isF=k:=by grind[gS.1,List.findIdx_eq,gE]
theorem zlC{fs:List Fr}(a:∀(j:Nat)x,fs[j]?=Xa x->isF x=Xd):fs.findIdx isF=fs.length:=by grind[List.findIdx_eq_length.2,Yb]
theorem zem(v fs w)(c:zq q7 w v fs):
  Xp prog 184 #[v,.func (.func 185) #[] #[]] w fun e w'=>e=Xl (I6 (zpV fs))/\zc w w':=by
 have b:=c.short;obtain⟨a,a,rfl,a⟩:=c.bB;have f:=dD a;have d:=enters_of func185 Kr rfl;clear a c;obtain⟨n,l⟩:=kA fs.length;rw[l.out]at b⊢;go_enter func184,ntmps184;go_wp2;go_loopg[5,8] n (fun a _ c wr=>∃b:Nat,b<=n/\n-b<=a/\c=I6 b/\Xo (zc w wr)/\Xo (∀j q,j<b->fs[j]?=Xa q->isF q=Xd))
 exact⟨0,nZ _,Wm,rfl,zc.refl w,fun j q h=>absurd h (nL _)⟩;obtain⟨b,a,a,rfl,k,A⟩:=hrel;by_cases c:b<n
 ·have i:=kC c
  obtain⟨q,p⟩:∃q,Xo (fs[b]?=Xa q):=⟨_,gE (Rx l.out c)⟩;obtain⟨a,rfl,d⟩:=f.out b q p.out;obtain⟨a,a,a,a,a,a,a,a,a,a,a,a,a⟩:=d wr k.out;have a:=zmq q wr;clear d;cases g:isF q with
  |true=>
   rw[g]at a;have m:Xo (zpV fs=(b:Int)):=dD (by unfold zpV;rw[zlD p.out g A.out,l.out,kE c]);clear g;go_wp2_with(go_at_call 185;refine a.mono ?_;rintro e w'⟨rfl,d⟩)
   go_ret;exact⟨Rr m.out,k.trans d⟩
  |false=>
   rw[g]at a;have r:Xo (∀(j:Nat)q,j<b+1->fs[j]?=Xa q->isF q=Xd):=dD<|fun j s h f=>by
    by_cases e:j=b;·subst e;rw[p.out]at f;cases f;exact g
    exact A j s Wm f
   clear g;go_wp2_with(go_at_call 185;refine a.mono ?_;rintro e w'⟨rfl,d⟩)
   go_roundg (n-(b+1));exact⟨b+1,Wm,Wm,Gn,k.trans d,r⟩;omega
 have i:=kD c;have:b=n:=Wm;subst this;have m:Xo (zpV fs=-1):=dD<|by
  unfold zpV;rw[zlC (fun j q h=>A.out j q (by rw[<-l.out];exact(gS.1 h).1) h),kF (Nat.lt_irrefl _)]
 go_wp2;go_ret;exact⟨Rr m.out,k⟩
theorem zrW(a)(c:Nat)(fs:List Fr)(h:Int)(p)(fi ix:Int)(w:Xn)(i:zq q7 w (O a fs.length c) fs)(l:ZT fs h=0)(g:frW (frT p fi ix)=0)(k:Nat)(m:zpV fs=(k:Int))(s:k<fs.length):
  Xp prog 169 #[Xi #[O a fs.length c,I6 h],Xi (pgv p).toArray,I6 fi,I6 ix] w fun e w'=>∃b,e=Xl (Xm #[Xi #[b,I6 h],I6 (k:Int),I6 0])/\zb q7 w.heap.size w' b (fs.set k (frT p fi ix))/\zc w w':=by
 have d:=dD i;have j:∀W,zc w W->Xp prog 125 #[Xi #[O a fs.length c,I6 h]] W fun e w'=>e=Xl (I6 (ZT fs h))/\zc W w':=fun W f=>by rw[l];exact QI a c fs h W (d.aA f) l
 have t:∀W,Xp prog 149 #[Xi #[U8 p.b0,U8 p.b1,U8 p.b2,U8 p.b3,U8 p.b4,U8 p.b5,U8 p.b6,U8 p.b7,I6 1,Xh Xc,Xh Xd,I6 fi,I6 ix]] W fun e w'=>e=Xl (I6 (frW (frT p fi ix)))/\zc W w':=fun W=>by rw[g];exact zbL (frT p fi ix) W g
 have q:∀W,zc w W->Xp prog 184 #[O a fs.length c,.func (.func 185) #[] #[]] W fun e w'=>e=Xl (I6 (zpV fs))/\zc W w':=fun W f=>zem _ fs W (d.aA f);have z:∀W,zc w W->Xp prog 46 #[Xi #[O a fs.length c,I6 h]] W fun e w'=>∃b,e=Xl (Xi #[b,I6 h])/\zb q7 W.heap.size w' b fs/\zc W w':=fun W f=>JA a c fs h W (d.aA f);clear i;obtain⟨n,i⟩:=kA fs.length;simp only[i.out]at j q z d⊢;simp only[l]at j;clear l;simp only[g]at t;clear g;simp only[m]at q;clear m;rw[i.out]at s;have f:(k:Int)<(n:Int):=Wm;have f:n<=9223372036854775807:=by have:=d.short;rw[i.out]at this;exact this
 show Xp prog 169 #[Xi #[O a n c,I6 h],Xi #[U8 p.b0,U8 p.b1,U8 p.b2,U8 p.b3,U8 p.b4,U8 p.b5,U8 p.b6,U8 p.b7],I6 fi,I6 ix] w _;obtain⟨l,d⟩:=kB (((w.alloc (Xk #[O a n c,I6 h] 28)).alloc (Xk #[U8 p.b0,U8 p.b1,U8 p.b2,U8 p.b3,U8 p.b4,U8 p.b5,U8 p.b6,U8 p.b7] 44)).alloc (Xk #[eS,I6 0] 28));have g:Xo (zc w l):=dD<|by rw[<-d];exact((za _ _).trans (za _ _)).trans (za _ _)
 have m:Xo (Box l w.heap.size [O a n c,I6 h]):=dD<|by rw[<-d];exact((Box.aF w _ _ rfl).alloc _).alloc _
 have f:Xo (Box l (w.heap.size+1) [U8 p.b0,U8 p.b1,U8 p.b2,U8 p.b3,U8 p.b4,U8 p.b5,U8 p.b6,U8 p.b7]):=dD<|by rw[<-d];exact(Box.aF _ _ _ Sm).alloc _
 have G:Xo (Box l (w.heap.size+2) [eS,I6 0]):=dD<|by rw[<-d];exact Box.aF _ _ _ Sm
 have r:=dD d;clear d;go_enter func169,ntmps169;go_upto_region 1 with fail;rw[r.out];obtain⟨r,x⟩:=m.k2;go_wp2_with fail;refine(j _ g).mono ?_;rintro e y⟨rfl,u⟩;have d:=dD u;clear u r x j;have A:=(f.aA d).c 0 rfl;have B:=(f.aA d).c 1 rfl;have C:=(f.aA d).c 2 rfl;have D:=(f.aA d).c 3 rfl;have F:=(f.aA d).c 4 rfl;have H:=(f.aA d).c 5 rfl;have K:=(f.aA d).c 6 rfl;have L:=(f.aA d).c 7 rfl;go_wp2_with fail;refine(t _).mono ?_;rintro e f⟨rfl,j⟩;have u:=dD<|(Box.aF y [U8 p.b0,U8 p.b1,U8 p.b2,U8 p.b3,U8 p.b4,U8 p.b5,U8 p.b6,U8 p.b7,I6 1,Xh Xc,Xh Xd,I6 fi,I6 ix] _ rfl).aA j;have f:=dD ((d.trans (za _ _)).trans j);clear j A B C D F H K L t;have r:=(m.aA f).c 0 rfl;go_wp2_with fail;refine(q _ (g.trans f)).mono ?_;rintro e K⟨rfl,t⟩;have j:=dD (f.trans t);have d:=u.aA t;clear t r q;have q:=dD d;obtain⟨r,x⟩:=(m.aA j).k2;go_wp2_with fail;refine(z _ (g.trans j)).mono ?_;rintro e F⟨b,rfl,f,m⟩;obtain⟨t,H,rfl⟩:=f.aG (by rw[i.out];omega);rw[i.out]at f⊢;have D:=dD f;have u:=dD (j.trans m);have d:=dD (q.aA m);have y:=dD<|bS m;have A:=q.lt;clear f m r x z;have m:=d.lt;have L:=d.c 0 rfl;have M:=d.c 1 rfl;have N:=d.c 2 rfl;have P:=d.c 3 rfl;have Q:=d.c 4 rfl;have R:=d.c 5 rfl;have S:=d.c 6 rfl;have T:=d.c 7 rfl;have U:=d.c 8 rfl;have V:=d.c 9 rfl;have z:=d.c 10 rfl;have B:=d.c 11 rfl;have C:=d.c 12 rfl;have d:=D.lt t rfl;go_wp2_with(refine qA (E:=q7) rfl (.tmp 44) (.tmp 43) rfl K.heap.size _ fs (D.aA (za _ _)) t k rfl (frT p fi ix) (Rx i.out s) _ rfl (by simp[q7]) _ rfl rfl ?_)
 intro s q f x;have r:=dD q;have d:=y.out;have d:=bS u.out;have d:=bS j.out;have d:=G.lt;have j:Xo (Box s F.heap.size [O (Xa ⟨t,0,Xb⟩) n H,I6 h]):=(Box.aF F _ _ rfl).beside f (fun y d=>by cases d;omega);have i:Xo (Box s (w.heap.size+2) [eS,I6 0]):=((G.aA u).alloc _).beside f (fun y d=>by cases d;omega);have D:Xo (zc l s):=zV (u.trans (za _ _)) f (fun y d=>by cases d;omega);clear q f x L M N P Q R S T U V z B C A m;obtain⟨d,d⟩:=j.k2;obtain⟨d,d⟩:=i.k2;have d:=i.f;go_wp2;refine bodyPost_ret (v:=Xm #[Xi #[O (Xa ⟨t,0,Xb⟩) n H,I6 h],I6 (k:Int),I6 0]) (by simp[results,Tryz.results169,go_sem, *]) rfl ⟨_,rfl,?_,?_⟩;·exact((r.setCell (a:=⟨w.heap.size+2,0,Xb⟩) (by show w.heap.size+2<_;omega) _).setCell (a:=⟨w.heap.size+2,1,Xb⟩) (by show w.heap.size+2<_;omega) _).base (Hm (bS g.out))
 exact zz (zz (g.trans D) (by simp;omega) _) (by simp;omega) _
theorem qR.far{V':MaV}(p:qR (Dw k V) w w1)(hd:∀p,Dw k V' p->Dw k V p\/w.heap.size<=p)(a:qR (Dw k V') w1 W):qR (Dw k V) w W:=
 ⟨a.os.trans p.os,a.tape.trans p.tape,a.output.trans p.output,nT p.size a.size,fun b c d=>(a.block b (Yh c p.size) (fun e=>by grind)).trans (p.block b c d)⟩
theorem znL(h:Rt m)(e:m.sp[k]?=Xa s)(d:p<64):(Ju m k (p:Int)).kind=1->Z3 m.fs m.aB (Ju m k (p:Int)).n (-1)=0:=by
 have a:Ju m k (p:Int)=zh s p:=by unfold Ju;rw[Sp.aK e,JF d]
 rw[a];intro j;obtain⟨q,g,f,b,l,n⟩:=h.aU e d j;obtain⟨r,t⟩:=h.refs b;have i:=(gS.1 b).1;have c:m.fs.getD q fr0=g:=by rw[gD,b];rfl
 unfold Z3;rw[kE h.parts.1,f,tN,c];grind[inB]
theorem zc2:∀(l:List (Nat×Nat))(m:Ma)(x:Nat×Nat),zi m (l++[x])=JL (zi m l) x.1 x.2
 |[],_,_=>rfl
 |y::l,m,x=>zc2 l (JL m y.1 y.2) x
theorem zpm(fs:List Fr):zgJ fs=jC fs:=rfl
def ZI(fs:List Fr):Nat:=fs.findIdx isF
theorem zet{fs:List Fr}(h:0<jC fs):zpV fs=(ZI fs:Int)/\ZI fs<fs.length/\∃fr,fs[ZI fs]?=Xa fr/\fr.r=0:=by
 have a:fs.findIdx isF<fs.length:=by
  obtain⟨x,c,b⟩:=List.countP_pos_iff.1 h;grind[List.findIdx_lt_length_of_exists,isF]
 refine⟨kE a,a,fs[fs.findIdx isF],gE a,?_⟩;grind[isF,Oo]
def z4(m:Ma)(l:List (Nat×Nat)):Bool×Ma:=if jC m.fs=0 then QW m l else(Xc,m)
def zda(m:Ma)(x:Fr)(l:List (Nat×Nat)):Bool×Nat×Ma:=
 if(z4 (zi m l) l).1=Xc then(Xc,ZI (z4 (zi m l) l).2.fs,{(z4 (zi m l) l).2 with fs:=(z4 (zi m l) l).2.fs.set (ZI (z4 (zi m l) l).2.fs) x})else(Xd,0,(z4 (zi m l) l).2)
theorem zaw(h:Rt m)(l:List (Nat×Nat)):JR (fun q j=>(q,j)∈l) m (z4 m l).2/\((z4 m l).1=Xc->0<jC (z4 m l).2.fs)/\((z4 m l).1=Xd->jC m.fs=0/\jC (z4 m l).2.fs=0):=by
 unfold z4;split;·grind[znp]
 rename_i a
 exact⟨JR.refl h,fun _=>Nat.pos_of_ne_zero a,fun e=>by cases e⟩
section
variable{m:Ma}{k q n:Nat}{fr:Fr}
theorem zja{fs:List Fr}(b:ZT fs z=0)(x:frW X=0):ZT (fs.set k X) z=0:=by
 obtain⟨c,d,e,f⟩:=Ze b;have a:zcM (fs.set k X)=0:=JG.2 fun g j=>by grind
 unfold ZT;rw[Xu,kF Wm,kE a,kE];simp[inB];omega
theorem zqN(h:frW X=0)(b:X.r≠0)(c:0<z)(d:z<=1000):frW {X with r:=z}=0:=by grind[frW,inB]
theorem zm3(c:ZT m.fs m.aB=0)(b:m.fs[k]?=Xa fr)(h:0<fr.r)(i:fr.r<1000)(ht:∀s∈m.sp,QH s.tb)(p:q<m.sp.length)(l:n<64):
  Z3 m.fs m.aB (k:Int) 1=0/\zhS m q (n:Int) (k:Int)=Zr m k q n/\ZT (Zr m k q n).fs (Zr m k q n).aB=0/\(Zr m k q n).fs[k]?=Xa {fr with r:=fr.r+1}/\(∀s∈(Zr m k q n).sp,QH s.tb)/\(Zr m k q n).sp.length=m.sp.length:=by
 have g:=(gS.1 b).1;have f:m.fs.getD k fr0=fr:=by rw[gD,b];rfl
 have d:=(Ze c).1;have j:enW ⟨1,(k:Int),Xd⟩=0:=JJ ⟨by simp only;omega,by simp only;omega⟩ ⟨by simp only;omega,by simp only;omega,fun _=>by simp only;omega⟩ Sm;have e:Z3 m.fs m.aB (k:Int) 1=0:=by grind[Z3,tN,inB]
 have a:Zr m k q n=zaa {m with fs:=m.fs.set k {fr with r:=fr.r+1}} q n ⟨1,(k:Int),Xd⟩:=by grind[Zr,zI]
 refine⟨e,?_,?_,?_,?_,?_⟩;·grind[za2,zhS,Js,Zm,JD,zm8,JH,frH]
 ·rw[a];exact zja c (zqN ((Ze c).2.1 fr (mG b)) Wm Wm Wm)
 ·rw[a]
  show(m.fs.set k _)[k]?=_;grind
 ·grind[zdq]
 rw[a,zcz]
theorem zcZ:∀(l:List (Nat×Nat))(m:Ma)(x:Nat×Nat),zy m k (l++[x])=Zr (zy m k l) k x.1 x.2
 |[],_,_=>rfl
 |y::l,m,x=>zcZ l (Zr m k y.1 y.2) x
theorem zrC(w:ZT m.fs m.aB=0)(A:m.fs[k]?=Xa fr)(K:0<fr.r)(ht:∀s∈m.sp,QH s.tb){l:List (Nat×Nat)}(B:∀x∈l,x.2<64/\x.1<m.sp.length)(N:fr.r+l.length<=1000):∀j,j<=l.length->
  ZT (zy m k (l.take j)).fs (zy m k (l.take j)).aB=0/\(zy m k (l.take j)).fs[k]?=Xa {fr with r:=fr.r+(j:Int)}/\(∀s∈(zy m k (l.take j)).sp,QH s.tb)/\(zy m k (l.take j)).sp.length=m.sp.length/\
  ∀x,l[j]?=Xa x->Z3 (zy m k (l.take j)).fs (zy m k (l.take j)).aB (k:Int) 1=0/\zy m k (l.take (j+1))=zhS (zy m k (l.take j)) x.1 (x.2:Int) (k:Int)/\x.1<(zy m k (l.take j)).sp.length:=by
 have a:∀(j:Nat)(M:Ma),ZT M.fs M.aB=0->M.fs[k]?=Xa {fr with r:=fr.r+(j:Int)}->(∀s∈M.sp,QH s.tb)->M.sp.length=m.sp.length->zy m k (l.take j)=M->∀x,l[j]?=Xa x->Z3 M.fs M.aB (k:Int) 1=0/\zy m k (l.take (j+1))=zhS M x.1 (x.2:Int) (k:Int)/\x.1<M.sp.length/\ZT (zy m k (l.take (j+1))).fs (zy m k (l.take (j+1))).aB=0/\(zy m k (l.take (j+1))).fs[k]?=Xa {fr with r:=fr.r+((j+1:Nat):Int)}/\(∀s∈(zy m k (l.take (j+1))).sp,QH s.tb)/\(zy m k (l.take (j+1))).sp.length=m.sp.length:=by
  intro j M g b h i D x c;obtain⟨y,E⟩:=B x (mG c);have z:=(gS.1 c).1;obtain⟨d,e,f,F,G,H⟩:=zm3 (q:=x.1) (n:=x.2) g b (by simp only;omega) (by simp only;omega) h Wm y;grind[zy,Zr,Of,zcZ]
 intro j;induction j with
 |zero=>
  intro _;have b:m.fs[k]?=Xa {fr with r:=fr.r+((0:Nat):Int)}:=by
   rw[A];have:fr.r+((0:Nat):Int)=fr.r:=Wm;rw[this]
  refine⟨w,b,ht,rfl,fun x c=>?_⟩;obtain⟨d,e,f,_⟩:=a 0 m w b ht rfl rfl x c;exact⟨d,e,f⟩
 |succ j C=>
  intro L;obtain⟨g,b,h,i,_⟩:=C Wm;obtain⟨_,_,_,p,t,u,v⟩:=a j _ g b h i rfl _ (gE Wm);refine⟨p,t,u,v,fun x c=>?_⟩;obtain⟨d,e,f,_⟩:=a (j+1) _ p t u v rfl x c;exact⟨d,e,f⟩
def ZF(m:Ma)(pg:Pg)(l:List (Nat×Nat)):Bool×Nat×Ma:=
 if(z4 (zi m l) l).1=Xc then(Xc,ZI (z4 (zi m l) l).2.fs,zbG (z4 (zi m l) l).2 (ZI (z4 (zi m l) l).2.fs) pg Xc l)else(Xd,0,(z4 (zi m l) l).2)
def zac(m:Ma)(pg:Pg)(file idx:Int)(l:List (Nat×Nat)):Bool×Nat×Ma:=
 if(z4 (zi m l) l).1=Xc then(Xc,ZI (z4 (zi m l) l).2.fs,zy (ZC (z4 (zi m l) l).2 (ZI (z4 (zi m l) l).2.fs) pg Xc Xd file idx) (ZI (z4 (zi m l) l).2.fs) l)else(Xd,0,(z4 (zi m l) l).2)
theorem zjp{pg:Pg}(h:(z=-1/\R=0)\/(0<=z/\z<5/\0<=R/\R<12)):frW (frT pg z R)=0:=by
 have a:(frT pg z R).r=1:=rfl;refine zh4 ⟨by rw[a];decide,?_,?_,(fun e=>absurd e (by rw[a];decide)),?_⟩ (by rw[a];decide)
 ·show 0<=R/\R<12
  omega
 ·show z=-1\/(0<=z/\z<5)
  omega
 show z=-1->R=0;omega
theorem zlU{m2:Ma}(h:Rt m2)(p:m2.fs[k]?=Xa fr)(pg:Pg)(y:∀x∈d,x.2<64/\x.1<m2.sp.length)(z:d≠[])(E:d.length<=900):
  (∀j,j<=d.length->(zy {m2 with fs:=m2.fs.set k (frT pg (-1) 0)} k (d.take j)).sp.length=m2.sp.length/\∀x,d[j]?=Xa x->Z3 (zy {m2 with fs:=m2.fs.set k (frT pg (-1) 0)} k (d.take j)).fs (zy {m2 with fs:=m2.fs.set k (frT pg (-1) 0)} k (d.take j)).aB (k:Int) 1=0/\zy {m2 with fs:=m2.fs.set k (frT pg (-1) 0)} k (d.take (j+1))=zhS (zy {m2 with fs:=m2.fs.set k (frT pg (-1) 0)} k (d.take j)) x.1 (x.2:Int) (k:Int)/\x.1<(zy {m2 with fs:=m2.fs.set k (frT pg (-1) 0)} k (d.take j)).sp.length)/\
  Z3 (zy {m2 with fs:=m2.fs.set k (frT pg (-1) 0)} k d).fs (zy {m2 with fs:=m2.fs.set k (frT pg (-1) 0)} k d).aB (k:Int) (-1)=0/\({zy {m2 with fs:=m2.fs.set k (frT pg (-1) 0)} k d with fs:=JD (zy {m2 with fs:=m2.fs.set k (frT pg (-1) 0)} k d).fs (zy {m2 with fs:=m2.fs.set k (frT pg (-1) 0)} k d).aB (k:Int) (-1)}:Ma)=zbG m2 k pg Xc d:=by
 have w:=(gS.1 p).1;have u:frT pg (-1) 0=⟨pg,1,Xc,Xd,-1,0⟩:=rfl;have c:({m2 with fs:=m2.fs.set k (frT pg (-1) 0)}:Ma).fs[k]?=Xa (frT pg (-1) 0):=by grind
 have B:ZT (m2.fs.set k (frT pg (-1) 0)) m2.aB=0:=zja h.parts.1 (zjp (.inl ⟨rfl,rfl⟩));have J:=zrC (m:={m2 with fs:=m2.fs.set k (frT pg (-1) 0)}) (l:=d) B c (show(0:Int)<1 by decide) (fun F A=>h.tb A) y (by show(1:Int)+_<=1000;omega);refine⟨fun j n=>⟨(J j n).2.2.2.1,(J j n).2.2.2.2⟩,?_⟩;obtain⟨e,a,_⟩:=J d.length (nR _);rw[List.take_length]at e a;have s:0<d.length:=List.length_pos_iff.2 z;have b:(zy {m2 with fs:=m2.fs.set k (frT pg (-1) 0)} k d).fs.getD k fr0={frT pg (-1) 0 with r:=(frT pg (-1) 0).r+(d.length:Int)}:=by rw[gD,a];rfl
 have q:=(gS.1 a).1;have g:Z3 (zy {m2 with fs:=m2.fs.set k (frT pg (-1) 0)} k d).fs (zy {m2 with fs:=m2.fs.set k (frT pg (-1) 0)} k d).aB (k:Int) (-1)=0:=by
  unfold Z3;rw[kE e,tN,b];have l:({frT pg (-1) 0 with r:=(frT pg (-1) 0).r+(d.length:Int)}:Fr).r=1+(d.length:Int):=rfl;rw[l];have v:(inB (k:Int) (zy {m2 with fs:=m2.fs.set k (frT pg (-1) 0)} k d).fs.length&&!((1+(d.length:Int))==0))=Xc:=by
   simp[inB];omega
  rw[v,kE rfl,kE Wm]
 refine⟨g,?_⟩;obtain⟨C,x,D,f,_,_,_,_,t,_⟩:=za2 g;have:C=k:=Wm;subst this;rw[a]at f;cases f;rw[t];have i:=zpF p pg Xc d;rw[<-u]at i;rw[i];unfold zbG;have:frH {frT pg (-1) 0 with r:=(frT pg (-1) 0).r+(d.length:Int)} (-1)=⟨pg,(d.length:Int),Xc,Xd,-1,0⟩:=by
  unfold frH;have l:({frT pg (-1) 0 with r:=(frT pg (-1) 0).r+(d.length:Int)}:Fr).r=1+(d.length:Int):=rfl;rw[l,kF Wm];have:(1:Int)+(d.length:Int)+-1=(d.length:Int):=Wm;rw[this];rfl
 rw[this];simp only[List.set_set]
end
def zc5(a b:Int):Int:=if a<b then-1 else if b<a then 1 else 0
def zos(c d:Ca):Int:=zF [zc5 c.file d.file,zc5 c.idx d.idx]
theorem zpI{c d:Ca}(a:0<=c.idx/\c.idx<100)(hd:0<=d.idx/\d.idx<100):(zos c d<0↔zZ c<zZ d)/\(zos c d=0↔zZ c=zZ d):=by grind[zos,zF,zc5,zZ]
theorem zL.callF{P:Program}{f:FuncId}{xs:List Operand}{ts:Array TypeId}{fn:Func}(x args)
  (ho:o.op=.call {callee:=.value x,args:=xs.toArray,argTypes:=ts})(hx:a.eval x=.func (.func f) #[] Y)(hf:P.funcs[f]?=some fn)(hb:fn.body.isNone=false)(hn:(fn.name=="runtime.NumGoroutine")=false)
  (ha:xs.map a.eval=args)(h:Xp P f (args.toArray++Y) w fun e w'=>∃v,e=Xl v/\M v w'):zL P o a w M:=by
 have hr:(execOp a.eval o).run P w=.ok (.enter f (args.toArray++Y)) w:=by
  simp only[execOp,ho,resolve,hx,List.map_toArray,ha,Deferred.ofValue,pure_bind,invoke];have hn':fn.name≠"runtime.NumGoroutine":=by simpa using hn
  have hb':fn.body≠Xb:=fun e=>by rw[e]at hb;cases hb
  simp[callFunc,hf,hb',hn',program,Ob,Sem.run]
 unfold zL;rw[hr];exact h
def zeo(ca:List Ca)(t:Ca):Bool:=ca.any fun c=>decide (zZ c=zZ t)
theorem zi6{t:Ca}:∀{ca:List Ca}{i:Nat},i<=ca.length->(∀(j:Nat)c,j<i->ca[j]?=Xa c->zZ c<zZ t)->(∀c,ca[i]?=Xa c->¬zZ c<zZ t)->zdd ca t=i
 |[],i,hi,_,_=>by
  have:i=0:=Si hi
  subst this;rfl
 |a::l,0,_,_,b=>by
  unfold zdd;rw[Yl,kF (Si (b a rfl))];rfl
 |a::l,i+1,hi,e,b=>by
  have f:=zi6 (t:=t) (ca:=l) (i:=i) (Si hi) (fun j c d d=>e (j+1) c Wm (Rx Yo d)) (fun c d=>b c (Rx Yo d));unfold zdd at f⊢;rw[Yl,kE (Si (e 0 a Wm rfl)),Yj,f]
theorem zqC{ca:List Ca}{t:Ca}(f:ca.Pairwise fun a b=>zZ a<zZ b)(d:∀(j:Nat)c,j<k->ca[j]?=Xa c->zZ c<zZ t)(e:∀c,ca[k]?=Xa c->¬zZ c<zZ t):zeo ca t=match ca[k]? with|some c=>decide (zZ c=zZ t)|none=>Xd:=by grind[zeo,zZ,Xt,Yb,Nat.lt_trichotomy,gS.1,Ya.1,gE]
theorem zmU(a:Int)(w):Xp prog 181 #[I6 a] w fun e w'=>e=Xl (Xh Xd)/\w'=w:=by have h:(a !=a)=Xd:=Sm;go_enter func181,ntmps181;go_wp2;go_ret;first|exact⟨rfl,rfl⟩|exact⟨by rw[h],rfl⟩
theorem zeL(a b:Int)(w):Xp prog 166 #[I6 a,I6 b] w fun e w'=>e=Xl (I6 (zc5 a b))/\w'=w:=by
 have h:=zmU a w;have i:=zmU b w;by_cases f:a<b
 ·have d:Xo (zc5 a b=-1):=dD<|by unfold zc5;rw[kE f]
  have g:decide (a<b)=Xc:=decide_eq_true f;go_enter func166,ntmps166;go_wp2_with fail;refine h.mono ?_;rintro e W⟨rfl,c⟩;rw[c];go_wp2_with fail;refine i.mono ?_;rintro e W⟨rfl,c⟩;rw[c];go_wp2;go_ret;exact⟨Rr d.out,rfl⟩
 have g:decide (a<b)=Xd:=decide_eq_false f;by_cases g:b<a
 ·have d:Xo (zc5 a b=1):=dD<|by unfold zc5;rw[kF f,kE g]
  have j:decide (b<a)=Xc:=decide_eq_true g;go_enter func166,ntmps166;go_wp2_with fail;refine h.mono ?_;rintro e W⟨rfl,c⟩;rw[c];go_wp2_with fail;refine i.mono ?_;rintro e W⟨rfl,c⟩;rw[c];go_wp2;go_ret;exact⟨Rr d.out,rfl⟩
 have d:Xo (zc5 a b=0):=dD<|by unfold zc5;rw[kF f,kF g]
 have j:decide (b<a)=Xd:=decide_eq_false g;go_enter func166,ntmps166;go_wp2_with fail;refine h.mono ?_;rintro e W⟨rfl,c⟩;rw[c];go_wp2_with fail;refine i.mono ?_;rintro e W⟨rfl,c⟩;rw[c];go_wp2;go_ret;exact⟨Rr d.out,rfl⟩
theorem zmL(v l w)(s:zq blE w v l):
  Xp prog 165 #[v] w fun e w'=>e=Xl (I6 (zF l))/\w'=w:=by
 have g:=s.short;obtain⟨G,H,rfl,b⟩:=s.aW;have z:=dD b;clear b s;obtain⟨n,m⟩:=kA l.length;rw[m.out]at g⊢;obtain⟨F,k⟩:=kA (zF l);rw[k.out];go_enter func165,ntmps165;go_wp2;go_loopg[5,8] n (fun B _ E wr=>∃a:Nat,a<=n/\n-a<=B/\E=I6 a/\wr=w/\Xo (∀(j:Nat)x,j<a->l[j]?=Xa x->x=0))
 exact⟨0,nZ _,Wm,rfl,rfl,fun j x t=>absurd t (nL _)⟩;obtain⟨a,D,C,rfl,rfl,A⟩:=hrel;by_cases c:a<n
 ·have h:=kC c
  obtain⟨q,p⟩:∃q,Xo (l[a]?=Xa q):=⟨_,gE (Rx m.out c)⟩;obtain⟨x,rfl,u⟩:=z.out a q p.out;have K:=u wr (zc.refl _);clear u;by_cases d:q=0
  ·have r:(q !=0)=Xd:=by simp[d]
   have y:Xo (∀(j:Nat)x,j<a+1->l[j]?=Xa x->x=0):=dD<|fun j x t f=>by
    by_cases e:j=a;·subst e;rw[p.out]at f;cases f;exact d
    exact A j x Wm f
   clear d;go_wp2;go_roundg (n-(a+1));exact⟨a+1,Wm,Wm,Gn,rfl,y⟩;omega
  have r:(q !=0)=Xc:=by simp[d]
  have i:Xo (F=q):=dD (by rw[<-k.out];exact zex A p d);clear d;go_wp2;go_ret;exact⟨Rr i.out,rfl⟩
 have h:=kD c;have:a=n:=Wm;subst this;have i:Xo (F=0):=dD<|by
  rw[<-k.out];exact zey fun j x f=>A.out j x (by rw[<-m.out];exact(gS.1 f).1) f
 go_wp2;go_ret;exact⟨Rr i.out,rfl⟩
theorem zk4(c d:Ca)(w):Xp prog 164 #[Xi #[I6 c.file,I6 c.idx,I6 c.fr],Xi #[I6 d.file,I6 d.idx,I6 d.fr]] w fun e w'=>e=Xl (I6 (zos c d))/\zc w w':=by
 obtain⟨E,a⟩:=kA (zos c d);have j:Xo (zF [zc5 c.file d.file,zc5 c.idx d.idx]=E):=a.out;rw[a.out];obtain⟨b,f,i⟩:=c;obtain⟨g,h,l⟩:=d;simp only at j⊢;obtain⟨k,a⟩:=kB ((w.alloc (Xk #[I6 b,I6 f,I6 i] 108)).alloc (Xk #[I6 g,I6 h,I6 l] 108));have n:=gD2 a;have l:=x2a a;have m:=x2b a;have i:Xo (_=k):=a;clear a;go_enter func164,ntmps164;go_upto_region 1 with fail;rw[i.out];have q:=l.gw 0 rfl;have r:=l.gw 1 rfl;have s:=m.gw 0 rfl;have t:=m.gw 1 rfl;have p:Nonempty (zf k):=⟨⟨_,zc.refl _⟩⟩;refine jM [(4,⟨fun a=>a=I6 (zc5 b g),fun a w'=>True⟩),(9,⟨fun a=>a=I6 (zc5 f h),fun a w'=>True⟩),(10,⟨fun a=>∃i,a=O (Xa ⟨i,0,Xb⟩) 2 2,fun a w'=>zq blE w' a [zc5 b g,zc5 f h]⟩),(11,⟨fun a=>a=I6 E,fun a w'=>True⟩)] z1 Kr (Sd ⟨_,rfl⟩ ⟨_,rfl⟩ ⟨_,0,rfl⟩ ⟨_,rfl⟩) ?hp ?_;case hp=>
  intro x a;simp only[mC,nM,or_false]at a;rcases a with rfl|rfl|rfl|rfl;·exact fun _ _ _ _ a=>a
  ·exact fun _ _ _ _ a=>a
  ·exact fun _ _ _ k a=>zq.aA a k
  exact fun _ _ _ _ a=>a
 iterate 4 refine ze ?_
 refine zG rfl rfl (fun w' k i=>?_) (fun u a=>?_);·refine zL.call [I6 b,I6 g] rfl func166 rfl rfl rfl ?_;refine(zeL b g w').mono ?_;rintro e m⟨rfl,rfl⟩;exact⟨_,rfl,zc.refl _,rfl,trivial⟩
 subst a;refine Uq ?_;iterate 4 refine ze ?_
 refine zG rfl rfl (fun w' k i=>?_) (fun u a=>?_);·refine zL.call [I6 f,I6 h] rfl func166 rfl rfl rfl ?_;refine(zeL f h w').mono ?_;rintro e m⟨rfl,rfl⟩;exact⟨_,rfl,zc.refl _,rfl,trivial⟩
 subst a;refine Uq ?_;refine zG rfl rfl (fun w' k i=>?_) (fun u a=>?_)
 ·have l:zq blE (w'.alloc (Xk #[I6 (zc5 b g),I6 (zc5 f h)] 3)) (O (Xa ⟨w'.heap.size,0,Xb⟩) 2 2) [zc5 b g,zc5 f h]:=zdS blE w' [zc5 b g,zc5 f h] _ rfl (show 2*8<=140737488355328 by decide)
  refine zL.step (v:=O (Xa ⟨w'.heap.size,0,Xb⟩) 2 2) (w':=w'.alloc (Xk #[I6 (zc5 b g),I6 (zc5 f h)] 3)) (by simp only[execOp];go_simp) ⟨za _ _,⟨_,rfl⟩,l⟩
 obtain⟨l,rfl⟩:=a;refine Uq ?_;refine zG rfl rfl (fun w' k i=>?_) (fun u a=>?_)
 ·have k:zq blE w' (O (Xa ⟨l,0,Xb⟩) 2 2) [zc5 b g,zc5 f h]:=i 10 Kr
  refine zL.call [O (Xa ⟨l,0,Xb⟩) 2 2] rfl func165 rfl rfl rfl ?_;refine(zmL _ _ w' k).mono ?_;rintro e m⟨rfl,rfl⟩;exact⟨_,rfl,zc.refl _,by rw[j.out],trivial⟩
 subst a;refine Uq ?_;refine ze ?_;refine z2 fun a a i=>?_;have b:=dD (n.trans a);clear a i q r s t p;go_wp2;go_ret;exact⟨rfl,b⟩
theorem zjH(v)(ca:List Ca)(t:Ca)(w)(a3:zq jI w v ca)(g:ca.Pairwise fun a b=>zZ a<zZ b)(hi:∀c∈ca,0<=c.idx/\c.idx<100)(ht:0<=t.idx/\t.idx<100)(d:ca.length<=1000):
  Xp prog 163 #[v,Xi #[I6 t.file,I6 t.idx,I6 t.fr],.func (.func 164) #[] #[]] w fun e w'=>e=Xl (Xm #[I6 (zdd ca t:Int),Xh (zeo ca t)])/\zc w w':=by
 obtain⟨a,c,rfl,f⟩:=a3.cas;have an:=dD f;have l:=dD g;have ae:Xo (∀c∈ca,(zos c t<0↔zZ c<zZ t)/\(zos c t=0↔zZ c=zZ t)):=dD<|fun c p=>zpI (hi c p) ht;have h:=enters_of func164 Kr rfl;obtain⟨U,X⟩:=kA ca.length;rw[X.out]at d⊢;obtain⟨P,k⟩:=kA (zdd ca t);obtain⟨ac,h⟩:=kA (zeo ca t);rw[k.out,h.out];have a5:Xo (∀(i j:Nat)x y,ca[i]?=Xa x->ca[j]?=Xa y->i<=j->zZ x<=zZ y):=dD<|fun i j x y K n d=>by
  obtain⟨m,q⟩:=gS.1 K;obtain⟨r,s⟩:=gS.1 n;rcases Nat.lt_or_eq_of_le d with F|F;·have:=Ya.1 g i j m r F;rw[q,s]at this;omega
  subst F;rw[K]at n;cases n;exact Int.le_refl _
 obtain⟨A,B,C⟩:=t;obtain⟨m,d⟩:=kA (zZ ⟨A,B,C⟩);have a8:∀(x:Ca)(W:Xn),Xp prog 164 #[Xi #[I6 x.file,I6 x.idx,I6 x.fr],Xi #[I6 A,I6 B,I6 C]] W fun e w'=>e=Xl (I6 (zos x ⟨A,B,C⟩))/\zc W w':=fun x W=>zk4 x ⟨A,B,C⟩ W;rw[d.out]at ae;have a4:Xo (∀i,i<=U->(∀(j:Nat)x,j<i->ca[j]?=Xa x->zZ x<m)->(∀(j:Nat)x,i<=j->ca[j]?=Xa x->m<=zZ x)->P=i/\ac=match ca[i]? with|some x=>decide (zZ x=m)|none=>Xd):=dD<|fun i K n F=>by
  rw[<-k.out,<-h.out,<-d.out];rw[<-d.out]at n F;exact⟨zi6 (Rx X.out K) n (fun x d=>Hm (F i x (nR _) d)),zqC l n (fun x d=>Hm (F i x (nR _) d))⟩
 clear a3 g hi ht f;simp only;obtain⟨b,h⟩:=kA w.heap.size;obtain⟨f,f⟩:=kB (w.alloc (Xk #[I6 A,I6 B,I6 C] 108));have i:=gA f;have k:=xP f h;have g:=dD f;clear f;go_enter func163,ntmps163;go_upto_region 1 with fail;rw[g.out,h.out];go_wp2;go_loopg[9,10] U (fun g l f wr=>∃h hi:Nat,l=I6 h/\f=I6 hi/\h<=hi/\hi<=U/\hi-h<=g/\Xo (zc w wr)/\Xo (Box wr b [I6 A,I6 B,I6 C])/\Xo ((∀(j:Nat)x,j<h->ca[j]?=Xa x->zZ x<m)/\(∀(j:Nat)x,hi<=j->ca[j]?=Xa x->m<=zZ x)))
 exact⟨0,U,rfl,rfl,nZ _,nR _,Wm,i,k,⟨fun j x ai=>absurd ai (nL _),fun j x K n=>by have:=(gS.1 n).1;have:=X.out;omega⟩⟩;obtain⟨h,hi,rfl,rfl,f,a9,aq,G,E,ab⟩:=hrel;obtain⟨ak,al,am⟩:=E.c3;by_cases f:h<hi
 ·obtain⟨r,D⟩:∃r,Xo (ca[(h+hi)/2]?=Xa r):=⟨_,gE (Hm X.out)⟩
  obtain⟨l,rfl,M⟩:=an.out _ r D.out;obtain⟨Y,I,a0⟩:=M wr G.out;have p:=a8 r;have g:(h+hi)/2<U:=Wm;obtain⟨s,u,z⟩:=r;simp only at p Y I a0;obtain⟨Z,a6⟩:=kA (zos ⟨s,u,z⟩ ⟨A,B,C⟩);rw[a6.out]at p;have a7:Xo (Z<0↔zZ ⟨s,u,z⟩<m):=dD (by rw[<-a6.out];exact(ae _ (mG D)).1);obtain⟨i,f⟩:=kA ((h+hi)/2);rw[f.out]at Y I a0 g D;have g:Xo (∀W,zc wr W->zon W (l.add (i*3)) ⟨s,u,z⟩):=dD<|fun W ah=>by have:=M W (G.trans ah);rw[f.out]at this;exact this
  clear M Y I a0 ak al am;go_upto_region 5 with fail;rw[show((h:Int)+(hi:Int))/2=(i:Int) by have:=f.out;omega];have k:(i:Int)<(U:Int):=Wm;have R:=fun y:zf wr=>(g _ y.aA).1;have S:=fun y:zf wr=>(g _ y.aA).2.1;have T:=fun y:zf wr=>(g _ y.aA).2.2;have N:=E.gw 0 rfl;have P:=E.gw 1 rfl;have Q:=E.gw 2 rfl;have q:Nonempty (zf wr):=⟨⟨_,zc.refl _⟩⟩;refine jM [(6,⟨fun v=>v=I6 Z,fun v w'=>True⟩)] z1 Kr (Sa ⟨_,rfl⟩) ?hp ?_;case hp=>
   intro x d;simp only[mC,nM,or_false]at d;subst d;exact fun _ _ _ _ ag=>ag
  iterate 6 refine ze ?_
  refine zG rfl rfl (fun w' aq L=>?_) (fun ar a3=>?_);·refine zL.callF (.tmp 24) [Xi #[I6 s,I6 u,I6 z],Xi #[I6 A,I6 B,I6 C]] rfl rfl func164 rfl rfl rfl ?_;refine(p w').mono ?_;rintro e aj⟨rfl,k⟩;exact⟨_,rfl,k,rfl,trivial⟩
  subst a3;refine Uq ?_;refine ze ?_;refine z2 fun ao k L=>?_;have V:=dD (G.trans k);have ap:=dD (E.aA k);clear k p L R S T N P Q q;by_cases aa:Z<0
  ·have H:=dD aa;go_wp2;go_roundg (hi-(i+1))
   case measure=>have:=f.out;omega
   have af:Xo ((∀(j:Nat)x,j<i+1->ca[j]?=Xa x->zZ x<m)/\(∀(j:Nat)x,hi<=j->ca[j]?=Xa x->m<=zZ x)):=dD<|⟨fun j x ai d=>by
    have K:=a5.out j _ x _ d D Wm;have n:=a7.1 H.out
    omega,ab.2⟩
   exact⟨i+1,hi,Gn,rfl,Hm f.out,a9,nR _,V,ap,af⟩
  have H:=dD aa;go_wp2;go_roundg (i-h)
  case measure=>have:=f.out;omega
  have af:Xo ((∀(j:Nat)x,j<h->ca[j]?=Xa x->zZ x<m)/\(∀(j:Nat)x,i<=j->ca[j]?=Xa x->m<=zZ x)):=dD<|⟨ab.1,fun j x ai d=>by
   have K:=a5.out _ j _ x D d Wm;have n:¬zZ ⟨s,u,z⟩<m:=fun e=>by have F:=a7.2 e;have j:=H.out;omega
   omega⟩
  exact⟨h,i,rfl,Gn,Hm f.out,Hm f.out,nR _,V,ap,af⟩
 obtain rfl:hi=h:=Wm;obtain⟨h,f⟩:=a4.out hi a9 ab.1 ab.2;have j:=dD h;clear h;by_cases m:hi<U
 ·obtain⟨r,D⟩:∃r,Xo (ca[hi]?=Xa r):=⟨_,gE (Hm X.out)⟩
  obtain⟨l,rfl,M⟩:=an.out _ r D.out;obtain⟨Y,I,a0⟩:=M wr G.out;rw[D.out]at f;have p:=a8 r;obtain⟨s,u,z⟩:=r;simp only at p Y I a0 f;obtain⟨Z,a6⟩:=kA (zos ⟨s,u,z⟩ ⟨A,B,C⟩);rw[a6.out]at p;have i:Xo (ac=(Z==0)):=dD<|by
   rw[f];have:=(ae _ (mG D)).2;rw[a6.out]at this;by_cases h:Z=0;·rw[decide_eq_true (this.1 h),h];rfl
   rw[decide_eq_false (fun e=>h (this.2 e))];simp[h]
  have h:=kC m;have g:=dD<|fun W(ah:zc wr W)=>M W (G.trans ah);clear M f Y I a0 ak al am;go_upto_region 8 with fail;have R:=fun y:zf wr=>(g _ y.aA).1;have S:=fun y:zf wr=>(g _ y.aA).2.1;have T:=fun y:zf wr=>(g _ y.aA).2.2;have N:=E.gw 0 rfl;have P:=E.gw 1 rfl;have Q:=E.gw 2 rfl;have q:Nonempty (zf wr):=⟨⟨_,zc.refl _⟩⟩;refine jM [(11,⟨fun v=>v=I6 Z,fun v w'=>True⟩)] z1 Kr (Sa ⟨_,rfl⟩) ?hp ?_;case hp=>
   intro x d;simp only[mC,nM,or_false]at d;subst d;exact fun _ _ _ _ ag=>ag
  iterate 11 refine ze ?_
  refine zG rfl rfl (fun w' aq L=>?_) (fun ar a3=>?_);·refine zL.callF (.tmp 40) [Xi #[I6 s,I6 u,I6 z],Xi #[I6 A,I6 B,I6 C]] rfl rfl func164 rfl rfl rfl ?_;refine(p w').mono ?_;rintro e aj⟨rfl,k⟩;exact⟨_,rfl,k,rfl,trivial⟩
  subst a3;refine Uq ?_;iterate 4 refine ze ?_
  refine z2 fun ao k L=>?_;have V:=dD (G.trans k);clear k p L R S T N P Q q;go_wp2;go_ret2;exact⟨by rw[j.out,i.out];rfl,V⟩
 have h:=kD m;have i:Xo (ac=Xd):=dD<|by
  rw[f,gN (Hm X.out)]
 clear f ak al am;go_upto_region 8 with fail;have q:Nonempty (zf wr):=⟨⟨_,zc.refl _⟩⟩;refine jM [] z1 Kr Sm Sm ?_;iterate 5 refine ze ?_
 iterate 8 (refine Zw Kr ?_;simp only[Yd,sB,sS,sZ])
 iterate 3 refine ze ?_
 refine z2 fun ao k L=>?_;have V:=dD (G.trans k);clear k L q;go_wp2;go_ret2;exact⟨by rw[j.out,i.out];rfl,V⟩
theorem zbF(h:ChW w0 k w V m)(g:m.ca.Pairwise fun a b=>zZ a<zZ b)(hi:∀c∈m.ca,0<=c.idx/\c.idx<100)(d:m.ca.length<=1000)(file idx:Int)(ht:0<=idx/\idx<100):
  Xp prog 139 #[Xj (Xa ⟨k,0,Xb⟩),I6 file,I6 idx] w fun e w'=>e=Xl (Xm #[I6 (zdd m.ca ⟨file,idx,0⟩:Int),Xh (zeo m.ca ⟨file,idx,0⟩)])/\zc w w':=by have f:=zjH _ m.ca ⟨file,idx,0⟩ w h.at.ca g hi ht d;simp only at f;have i:=h.box.box.c 9 rfl;obtain⟨P,j⟩:=kA (zdd m.ca ⟨file,idx,0⟩);obtain⟨H,i⟩:=kA (zeo m.ca ⟨file,idx,0⟩);rw[j.out,i.out]at f⊢;clear h g hi d ht;go_enter func139,ntmps139;go_wp2_with fail;refine f.mono ?_;clear f;rintro e d⟨rfl,d⟩;have f:=dD d;clear d;go_wp2;go_ret2;exact⟨rfl,f⟩
theorem zb.block{n cap:Nat}(h:zb E k w (O (Xa ⟨p,0,Xb⟩) n cap) y):
  n=y.length/\k<=p/\y.length<=cap/\cap<=maxLen/\∃cur,w.heap[p]?=Xa (Xk cur E.ty (0,0))/\cur.size=cap*E.k/\cur.toList.take (y.length*E.k)=y.flatMap E.enc:=by
 rcases h.1.2 with⟨b,_⟩|⟨a,a,cur,b,a,a,a,a,a,a⟩;·cases b
 grind
theorem zb.mk'{base:Nat}{g cap:Nat}{l:List α}{cur:Array Xq}(b:base<=g)(c:w.heap[g]?=Xa (Xk cur E.ty (0,0)))(e:l.length<=cap)(d:cap<=maxLen)(f:cur.size=cap*E.k)(ht:cur.toList.take (l.length*E.k)=l.flatMap E.enc)
  (a:l.length*E.bytes<=140737488355328):zb E base w (O (Xa ⟨g,0,Xb⟩) l.length cap) l:=
 ⟨⟨qB E l,.inr ⟨g,cap,cur,rfl,b,c,e,d,f,ht⟩⟩,a⟩
theorem zc9(h:o.guard=Xb)(s x)(C:o.op=.call {callee:=.builtin .append,args:=#[s,x],argTypes:=#[E.st,E.st]})
  (base g cap n:Nat)(l:List α)(f:zb E base w (O (Xa ⟨g,0,Xb⟩) n cap) l)(i:Nat)(hi:i<=l.length)(D:a.eval s=O (Xa ⟨g,0,Xb⟩) i cap)(ad:Addr)(l2:List α)(b t:Nat)(G:a.eval x=O (Xa ad) b t)(k:b=l2.length)
  (e:∀j u,(l2.flatMap E.enc)[j]?=Xa u->w.cell? (ad.add j)=Xa u)(c:i+l2.length<=cap)(d:(i+l2.length)*E.bytes<=140737488355328)
  (y:∀w',zb E base w' (O (Xa ⟨g,0,Xb⟩) (i+b) cap) (l.take i++l2)->w.grownBy w' (Xa g)->w'.heap.size=w.heap.size->wpList prog ops Q K (a.put o.dst (O (Xa ⟨g,0,Xb⟩) (i+b) cap)) w'):wpList prog ops Q (o::K) a w:=by
 subst k;refine wpList_plain h fun rest z=>?_;obtain⟨b,A,r,B,b,v,p,F⟩:=f.block;obtain⟨H,m,f,k,f⟩:=info_parts E.aD;have q:=qB E l2;have f:(i+l2.length)*E.k<=cap*E.k:=Xx _ c;rw[Yw]at f;have h:=run_append_room (P:=prog) w E.st o.type E.ty H E.bI m g i cap b v ad l2.length t (l2.flatMap E.enc) (Rx k q) e (qQ E.one l2) c (by rw[q,k,p];exact f);rw[k]at h;unfold Oper.wp execOp;simp only[C,resolve,invoke,builtin,Ob,Ox,rA,Oi,mP,Yt,D,G,h];have hlen:(l.take i++l2).length=i+l2.length:=by rw[lA,Xs];omega
 have f:b.toList.length=cap*E.k:=Si p;have e:i*E.k<=l.length*E.k:=Xx _ hi;have h:l.length*E.k<=cap*E.k:=Xx _ r;have k:b.toList.take (i*E.k)=(l.take i).flatMap E.enc:=by
  have h:(b.toList.take (l.length*E.k)).take (i*E.k)=b.toList.take (i*E.k):=by rw[Oc,Xz e]
  rw[<-h,F];conv=>lhs;rw[<-Ye i l,Xv]
  exact Yf (by rw[qB,Xs,Xz hi])
 have h:(b.toList.take (i*E.k)).length=i*E.k:=by rw[Xs,f];omega
 have e:=zb.mk' (E:=E) (base:=base) (w:=w.setRow g (b.toList.take (i*E.k)++l2.flatMap E.enc++b.toList.drop (i*E.k+(l2.flatMap E.enc).length)).toArray) (g:=g) (cap:=cap) (l:=l.take i++l2) A (setRow_heap w g b _ E.ty _ v) (by rw[hlen];exact c) B (by
  simp only[Yu,lA,h,q,Xy,f]
  omega) (by
  rw[hlen,Xv,<-k,Yw];have:(b.toList.take (i*E.k)++l2.flatMap E.enc).length=i*E.k+l2.length*E.k:=by rw[lA,h,q]
  simp only;rw[Yf this]) (by rw[hlen];exact d)
 rw[hlen]at e;exact z _ _ (y _ e (ZS _ _ _) (by simp[World.setRow]))
theorem zg0(n:Nat):∀u∈(Builtin.zeroCells #[I6 0,I6 0,I6 0] n).toList,u.oneCell'=Xc:=fun u a=>by
 simp only[Builtin.zeroCells,Array.toList_map,List.mem_map,Array.toList_range,Yr]at a;obtain⟨i,_,rfl⟩:=a;have a:i%3<3:=Ym _ Dc;show(#[I6 0,I6 0,I6 0]:Array Xq)[i%3]!.oneCell'=Xc;generalize i%3=k at a
 match k,a with
 |0,_=>rfl
 |1,_=>rfl
 |2,_=>rfl
theorem zdJ(b:o.guard=Xb)(x)(z:o.op=.call {callee:=.builtin .clear,args:=#[x],argTypes:=#[38]})
  (base g cap n:Nat)(l:List Ca)(c:zb jI base w (O (Xa ⟨g,0,Xb⟩) n cap) l)(k p:Nat)(A:a.eval x=O (Xa ⟨g,l.length*3,Xb⟩) (k+1) p)(d:l.length+(k+1)<=cap)
  (s:∀w',zb jI base w' (O (Xa ⟨g,0,Xb⟩) n cap) l->w.grownBy w' (Xa g)->w'.heap.size=w.heap.size->wpList prog ops Q K (a.put o.dst (Xm #[])) w'):wpList prog ops Q (o::K) a w:=by
 refine wpList_plain b fun rest t=>?_;obtain⟨y,u,m,v,b,q,e,r⟩:=c.block;have d:jI.k=3:=rfl;rw[d]at e r;obtain⟨Z,j⟩:=kB ((Builtin.zeroCells #[I6 0,I6 0,I6 0] (k+1)).toList);have i:Z.length=(k+1)*3:=by
  rw[<-j,Array.length_toList,size_zeroCells];rfl
 have f:∀h∈Z,h.oneCell'=Xc:=by rw[<-j];exact zg0 _
 have h:=run_storeCells_at prog g (l.length*3) 108 Z 0 b w q (by rw[i,e];omega) f;simp only[Oa]at h;have f:(Builtin.clear_ #[38] o.type #[O (Xa ⟨g,l.length*3,Xb⟩) (k+1) p]).run prog w=.ok (Xm #[]) (w.setRow g (b.toList.take (l.length*3)++Z++b.toList.drop (l.length*3+Z.length)).toArray):=by
  simp only[Builtin.clear_];simp[run_underlying underlying38,Tryz.zeroValue108,Value.cells,j,h]
 unfold Oper.wp execOp;simp only[z,resolve,invoke,builtin,Ob,Ox,rA,Oi,mP,Yt,A,f];subst y;have f:b.toList.length=cap*3:=Si e;refine t _ _ (s _ (zb.mk' u (setRow_heap w g b _ 108 _ q) m v ?_ ?_ c.2) (ZS _ _ _) (by simp[World.setRow]));·rw[d];simp only[Yu,lA,Xs,Xy,i,f];omega
 rw[d,Ys,Yf (by rw[Xs,f];omega)];exact r
theorem zlH(l:List α)(i:Nat):l.take i++l.drop (i+1)=l.eraseIdx i:=(List.eraseIdx_eq_take_drop_succ ..).symm
theorem zid(base g cap i:Nat)(l:List Ca)(w:Xn)(a:zb jI base w (O (Xa ⟨g,0,Xb⟩) l.length cap) l)(hi:i<l.length)(b:l.length<=1000):
  Xp prog 205 #[O (Xa ⟨g,0,Xb⟩) l.length cap,I6 i,I6 ((i:Int)+1)] w fun e w'=>e=Xl (O (Xa ⟨g,0,Xb⟩) (l.length-1) cap)/\zb jI base w' (O (Xa ⟨g,0,Xb⟩) (l.length-1) cap) (l.eraseIdx i)/\w.grownBy w' (Xa g):=by
 obtain⟨_,_,d,c,_⟩:=a.block;have f:cap<=9223372036854775807:=by simpa[maxLen]using c
 have j:=dD a;have f:=dD<|zlH l i;have a:Xo ((l.drop (i+1)).length=l.length-(i+1)):=show _=_ from Xy;obtain⟨n,c⟩:=kA l.length;rw[c.out]at d hi b j a⊢;obtain⟨q,b⟩:∃q,Xo (n=q+1):=⟨n-1,show _=_ by omega⟩;have d:(i:Int)+1<=(n:Int):=Wm;have d:(n:Int)<=(cap:Int):=Wm;have d:¬((i:Int)=(i:Int)+1):=Wm;have h:((i:Int)==(i:Int)+1)=Xd:=Si d;have d:(i:Int)<=(i:Int)+1:=Wm;have d:(i:Int)<=(cap:Int):=Wm;have d:((i:Int)+1).toNat=i+1:=Wm;go_enter func205,ntmps205;go_upto_region 5 with fail;have d:Nonempty (zf w):=⟨⟨_,zc.refl _⟩⟩;refine jD 6 [] z1 Kr rfl rfl Dc Sm Sm ?_;simp only[Yp,Yq];iterate 6 refine ze ?_
 refine z2 fun w' p _=>?_;obtain⟨k,d,m⟩:∃k:Addr,(if cap=i+1 then Xa (⟨g,0,Xb⟩:Addr)else Xa ⟨g,(i+1)*3,Xb⟩)=Xa k/\Xo (¬cap=i+1->k=⟨g,(i+1)*3,Xb⟩):=by
  by_cases e:cap=i+1;·exact⟨_,kE e,show _->_ from fun h=>absurd e h⟩
  exact⟨_,kF e,show _->_ from fun _=>rfl⟩
 rw[d];have h:=dD (j.aA p);have r:=dD p;have p:Xo (∀j u,((l.drop (i+1)).flatMap jI.enc)[j]?=Xa u->w'.cell? (k.add j)=Xa u):=show∀j u,_ from fun j u d=>by
  by_cases e:cap=i+1
  ·rw[Ok (Hm c.out)]at d
   cases d
  rw[m.out e,Yk];have m:(l.flatMap jI.enc)[(i+1)*3+j]?=Xa u:=by
   conv=>lhs;rw[<-Ye (i+1) l,Xv]
   rw[aR (by rw[qB,Xs];show _*3<=_;have:=c.out;omega),qB,Xs,show min (i+1) l.length=i+1 by have:=c.out;omega];show((l.drop (i+1)).flatMap jI.enc)[(i+1)*3+j-(i+1)*3]?=_;rw[Oj];exact d
  have:=h.1.cells rfl _ u m;rw[Yk,zA]at this;exact this
 have d:i+(n-(i+1))=q:=Hm b.out;have j:Xo (i+(l.drop (i+1)).length<=cap/\(i+(l.drop (i+1)).length)*24<=140737488355328):=dD<|by rw[a.out];omega
 have d:Xo ((l.eraseIdx i).length=q):=dD<|by rw[<-f.out,lA,a.out,Xs];have:=c.out;have:=b.out;omega
 go_wp2_with(refine zc9 (E:=jI) rfl (.tmp 22) (.tmp 25) rfl base g cap n l h i (Hm c.out) rfl k (l.drop (i+1)) (n-(i+1)) (cap-(i+1)) rfl a.symm p j.1 j.2 ?_)
 intro a a c _;rw[f.out]at a;have h:=dD a;have f:=dD c;have a:¬cap=q:=Hm b.out;have a:(q:Int)<=(n:Int):=Hm b.out;have a:n-q=0+1:=Hm b.out;try simp only[Yd,sB,sS,sZ]
 go_wp2_with(refine zdJ rfl (.tmp 31) rfl base g cap q (l.eraseIdx i) h 0 (cap-q) (Rr d.out) (by rw[d.out];have:=b.out;omega) ?_)
 intro a c a _;have d:=dD c;have c:=dD<|zbC r (Zc f a);have a:Xo (n-1=q):=dD<|Hm b.out;go_wp2;go_ret;exact⟨Rr a.out,Rx a.out d,c⟩
theorem Rt.cache(h:Rt m):(m.ca.Pairwise fun a b=>zZ a<zZ b)/\(∀c∈m.ca,0<=c.idx/\c.idx<100)/\m.ca.length<=1000:=by
 obtain⟨d,d,g⟩:=zo.1 h.inv.ca;have d:∀c∈m.ca,0<=c.idx/\c.idx<100/\0<=zZ c/\zZ c<1000:=fun c e=>by
  obtain⟨k,f,f,f,F,f⟩:=zn0 h.w e;have i:=(gS.1 f.fl).1;have i:=((z8 _ _).1 h.inv.st).1;have h:=f.idx;have h:=f.file;have h:=f.lo;unfold zZ;omega
 refine⟨g,fun c e=>⟨(d c e).1,(d c e).2.1⟩,?_⟩;have:=zfp (m.ca.map zZ) 0 1000 (by rw[List.pairwise_map];exact g) (fun x d=>by grind);rw[List.length_map]at this;omega
theorem zoK(h:Rt m){c:Ca}(a:m.ca[k]?=Xa c):zdd m.ca ⟨c.file,c.idx,0⟩=k/\zeo m.ca ⟨c.file,c.idx,0⟩=Xc:=by
 obtain⟨b,_,_⟩:=h.cache;obtain⟨b,d⟩:=gS.1 a;have a:zZ ⟨c.file,c.idx,0⟩=zZ c:=rfl;refine⟨zi6 (Nat.le_of_lt b) (fun j d a a=>?_) (fun d a=>?_),?_⟩;·grind[gS.1,Ya.1]
 ·grind
 grind[zeo,Xt.2,mG]
theorem zif(l:ChW w0 k w V m)(g:Rt m)(p:Nat)(f:Fr)(h:m.fs[p]?=Xa f)(L:f.f≠-1)(D:f.r≠0):
  Xp prog 199 #[Xj (Xa ⟨k,0,Xb⟩),I6 (p:Int)] w fun e w'=>(∃v,e=Xl v)/\Chg w0 k w V (qD m p) w':=by
 obtain⟨j,c,A,u,F,d,a⟩:=zgK g h L;obtain⟨R,S,G⟩:=g.cache;obtain⟨E,F⟩:=zoK g d;rw[a.file,a.idx]at E F;have t:=(gS.1 d).1;have B:u<=12:=a.lo;have c:=dD<|zjE g h d a.fr;obtain⟨P,Q,M⟩:=zcc g h D;have z:Xo (∀W,zc w W->Xp prog 139 #[Xj (Xa ⟨k,0,Xb⟩),I6 (A:Int),I6 (u:Int)] W fun e w'=>e=Xl (Xm #[I6 (j:Int),Xh Xc])/\zc W w'):=dD<|fun W i=>by
  have:=zbF (l.aA i) R S G (A:Int) (u:Int) Wm;rw[E,F]at this;exact this
 have q:Xo (qD m p=zbg {m with ca:=m.ca.eraseIdx j} p f.r ⟨0,0,Xd⟩):=dD<|by
  rw[show(⟨0,0,Xd⟩:En)=en0 from rfl,zkb (m:={m with ca:=m.ca.eraseIdx j}) g rfl rfl rfl h D JK];unfold qD;rw[c.out]
 have n:Xo (∀c i,ChW w0 k c i {m with ca:=m.ca.eraseIdx j}->Xp prog 195 #[Xj (Xa ⟨k,0,Xb⟩),I6 (p:Int),Xi #[I6 0,I6 0,Xh Xd]] c fun e w'=>(∃v,e=Xl v)/\Chg w0 k c i (qD m p) w'):=dD<|fun c i c=>by
  rw[q.out];exact zeI c p f h ⟨0,0,Xd⟩ g.inv.aI ⟨P,Q⟩ M
 have H:=dD l;have C:¬Dw k V w.heap.size:=fun e=>absurd (l.bL _ e) Wm;obtain⟨a4,-⟩:=l.at.ns;obtain⟨c,K,N⟩:=l.at.bB p f h;have x:=dD K;have y:=dD N;have c:(p:Int)<(V.f.n:Int):=by
  have:=(gS.1 h).1;omega
 have r:=a.ff;have s:=a.fx;have i:=dD t;have c:=dD G;obtain⟨⟨T,U,W,X,Y,Z,I,a0⟩,a2,a3,a1,a5,a5⟩:=f;dsimp only at r s;subst r;subst s;obtain⟨r,r⟩:=kA (qD m p);rw[r.out]at n q⊢;clear l g h L D d a R S G E F t B P Q M K N a4;have F:=H.box.box.c 0 rfl;rw[x.out]at F;obtain⟨h,l,r,s,q,t,x,B,D,E,a,d,g⟩:=y.out w (zc.refl _);dsimp only at h l r s q t x B D E a d g;go_enter func199,ntmps199;go_upto_region 1 with fail;clear h l r s q t x B D E a d g F;obtain⟨a,d⟩:=kA w.heap.size;refine nW fun r a=>?_;have h:=gA a;have l:=xPT a d;rw[d.out];rw[d.out]at C;clear a;have d:=l.box.c 11 rfl;have g:=l.box.c 12 rfl;have a:=z.out r h.out;go_wp2_with fail;refine a.mono ?_;clear a d g;rintro e x⟨rfl,a⟩;have u:=dD (h.trans a);clear a;have h:=dD (H.aA u);obtain⟨l,r,a⟩:=h.ca.aG (Hm i.out);have g:=zid w0.heap.size l r j m.ca x (Ry a h.ca) i c.out;have s:=h.box.box.c 9 rfl;rw[a]at s;have d:=dD a;clear a;obtain⟨t,a⟩:=kA m.ca.length;rw[a.out]at g s;have a:j<1000:=by have:=i.out;have:=c.out;omega
 go_wp2_with fail;refine g.mono ?_;clear g s;rintro e y⟨rfl,g,c⟩;have i:k≠l:=h.nc l (by have a:=d.out;(try simp only[Sli.x]at a);unfold oB;rw[a];rfl);have z:Xo (zt y k 102 (chL V m)):=h.box.beside c (fun p e=>by cases e;exact i);have A:=dD g;have s:=dD c;clear g c;go_upto_region 3 with(refine Qf rfl 38 (.tmp 37) (.tmp 34) rfl k 9 rfl (O (Xa ⟨l,0,Xb⟩) (t-1) r) rfl [O (Xa ⟨l,0,Xb⟩) (t-1) r] rfl z (by simp[chL]) Kr (by simp[Value.oneCell']) ?_)
 intro z c g _;have i:Chg w0 k x V {m with ca:=m.ca.eraseIdx j} z:=by
  refine h.cache (w1:=y) (b:=⟨Xa ⟨l,0,Xb⟩,t-1,r⟩) (qR.grown s (by have a:=d.out;(try simp only[Sli.x]at a);unfold oB;rw[a];rfl)) (fun h h=>?_) A g c;unfold oB at h;cases h;exact .inl (by have a:=d.out;(try simp only[Sli.x]at a);unfold oB;rw[a];rfl)
 have a:=Chg.aH u i;obtain⟨r,d,h,q⟩:=a;have a:=dD d;have l:=dD h;have j:=dD q;have a:=n.out z r d;clear i d h q c g;try simp only[Yd]
 go_wp2_with fail;refine a.mono ?_;clear a;rintro e a⟨⟨a,rfl⟩,c⟩;have a:=dD<|Chg.step l j c;clear c;go_wp2;exact Wq a.out
section
variable{w0 w w1 w2:Xn}{p:Nat}{V:MaV}{m:Ma}
theorem ChW.setSw(h:ChW w0 p w V m){d q:Sli}(e:zc w w1)(i:w.heap.size<=B)(b:q9 B w1 (Xi #[d.x,q.x]) r g)(f:w1.grownBy w2 (Xa p))(c:zt w2 p 102 (chL {V with sb:=d,sq:=q} {m with sb:=r,sq:=g})):Chg w0 p w V {m with sb:=r,sq:=g} w2:=
 h.field (V':={V with sb:=d,sq:=q}) (m':={m with sb:=r,sq:=g}) e f rfl rfl rfl rfl rfl rfl c (fun W _ g a=>by
  have k:=(b.aY (fun k r=>Hm (h.drt k r)) g).rows
  exact⟨a.sl,k.1,k.2,a.db,a.dq,a.fl⟩)
end
theorem zmo(h:Rt m)(a:m.fs[k]?=Xa X)(b:X.r≠0):(zaf m<m.sl.length->ZR m.sl X.r=0/\Jf m.sl X.r=m.sl.set (zaf m) X.r/\zcU m.sl X.r=(zaf m:Int))/\(¬zaf m<m.sl.length->ZR m.sl X.r=10):=by
 obtain⟨c,c,_⟩:=zcc h a b;have a:=h.parts.2;rcases zdL m.sl X.r with⟨a,_⟩|⟨_,a,_⟩|⟨_,_,b,a,_⟩|⟨_,_,b,a,c,d⟩;·grind
 ·grind
 ·exact⟨fun h=>absurd h b,fun _=>a⟩
 exact⟨fun _=>⟨a,c,d⟩,fun h=>absurd b h⟩
theorem zlN(K:ChW w0 k w V m)(Q:Rt m)(p:Nat)(f:Fr)(Y:m.fs[p]?=Xa f)(bx:f.r≠0):
  Xp prog 190 #[Xj (Xa ⟨k,0,Xb⟩),I6 (p:Int)] w fun e w'=>e=Xl (Xh (zbR m p f).1)/\Chg w0 k w V (zbR m p f).2 w':=by
 obtain⟨ck,ah⟩:=zmo Q Y bx;obtain⟨eb,ec,dq⟩:=zcc Q Y bx;have dn:=Q.inv.aT;have ch:=Q.inv.bE;obtain⟨E,L⟩:=kA (ZR m.sl f.r);obtain⟨aj,a7⟩:=kA (zcU m.sl f.r);have a8:Xo (∀W,zc w W->Xp prog 193 #[V.s.x,I6 f.r] W fun e w'=>∃s:Sli,e=Xl (Xm #[s.x,I6 aj,I6 E])/\q6 slE W.heap.size w' (s.x) (Jf m.sl f.r)/\zc W w'):=dD<|fun W am=>by
  obtain⟨-,e7,-⟩:=K.at.ns;have ag:=(K.at.aA am).sl;(try simp only[Sli.x]);rw[e7]at ag⊢;rw[<-L.out,<-a7.out];refine(zmp V.s.a V.s.c m.sl f.r W ag).mono ?_;rintro e w'⟨ct,cx,rfl,e8,bs⟩;exact⟨⟨ct,_,cx⟩,rfl,e8,bs⟩
 have a6:Xo (E≠0->zbR m p f=(Xd,m)):=dD<|fun e=>by
  unfold zbR;rw[kF (fun Z=>e (L.symm.trans (ck Z).1))]
 have af:E=0->zaf m<m.sl.length:=fun e=>Classical.byContradiction fun ds=>by
  have:=ah ds;rw[L.out,e]at this;cases this
 have i:Xo (E=0->(zbR m p f).1=Xc/\∃j:Nat,aj=(j:Int)/\j<=60/\zp m.sb.length m.sq (j:Int)=0/\(zbR m p f).2=zbg {({m with sl:=Jf m.sl f.r}:Ma)with sb:=jV m.sb m.sq (j:Int),sq:=Zb m.sb m.sq (j:Int) (pgL f.p)} p f.r ⟨2,(j:Int),Xd⟩):=dD<|fun e=>by
  have Z:=af e;obtain⟨dk,ce,cf⟩:=ck Z;have U:zp m.sb.length m.sq ((zaf m:Nat):Int)=0:=by
   unfold zp;rw[kE Q.inv.sq,kE (by simp[ZE];omega)]
  have S:enW ⟨2,(zaf m:Int),Xd⟩=0:=JJ Sm ⟨Sm,by simp only;omega,fun K=>by simp at K⟩ Sm;unfold zbR;rw[kE Z];refine⟨rfl,zaf m,a7.symm.trans cf,Wm,U,?_⟩;rw[zkb (m:={({m with sl:=Jf m.sl f.r}:Ma)with sb:=jV m.sb m.sq (zaf m:Int),sq:=Zb m.sb m.sq (zaf m:Int) (pgL f.p)}) Q rfl rfl rfl Y bx S];simp only;unfold Qv jV Zb;rw[kE U,kE U,ce]
 have a4:Xo (∀(ar:Xn)be(j:Nat)c4 c0 c5,ChW w0 k ar be {({m with sl:=c4}:Ma)with sb:=c0,sq:=c5}->Xp prog 195 #[Xj (Xa ⟨k,0,Xb⟩),I6 (p:Int),Xi #[I6 2,I6 (j:Int),Xh Xd]] ar fun e w'=>(∃v,e=Xl v)/\Chg w0 k ar be (zbg {({m with sl:=c4}:Ma)with sb:=c0,sq:=c5} p f.r ⟨2,(j:Int),Xd⟩) w'):=dD<|fun ar be j c4 c0 c5 dl=>zeI dl p f Y ⟨2,(j:Int),Xd⟩ Q.inv.aI ⟨eb,ec⟩ dq;have a5:=dD K;have bw:k<w.heap.size:=K.bL k (.inl rfl);obtain⟨eq,-⟩:=K.at.ns;obtain⟨el,dp,Z⟩:=K.at.bB p f Y;have aw:=dD dp;have ax:=dD Z;have dr:(p:Int)<(V.f.n:Int):=by
  have:=(gS.1 Y).1;omega
 obtain⟨cb,az⟩:=kA (zbR m p f);rw[az.out]at a6 i⊢;obtain⟨⟨r,t,x,z,A,B,C,D⟩,M,bq,bo,bp,br⟩:=f;dsimp only at a8 i a4;have ee:=a5.box.box.c 0 rfl;rw[aw.out]at ee;obtain⟨db,dc,de,df,bm,dg,dh,di,dj,bn,bj,bk,bl⟩:=ax.out w (zc.refl _);dsimp only at db dc de df bm dg dh di dj bn bj bk bl;go_enter func190,ntmps190;go_upto_region 2 with fail;obtain⟨h,av⟩:=kA w.heap.size;refine nW fun H R=>?_;have ai:=gA R;have cd:=xPT R av;rw[av.out];rw[av.out]at bw;have cg:zc H H.drew:=show Below _ _ _ from(bR _ _).drew;obtain⟨c,b⟩:=Ww fun u=>zc H u;have n:=(b _).2 cg;have N:zc H H.drew:=cg;have du:=fun y:zg c=>(a5.box.box.aA (ai.trans ((b _).1 y.holds))).c 2 rfl;have e6:=fun y:zg c=>(cd.box.aA ((b _).1 y.holds)).c 8 rfl;have bv:Nonempty (zg c):=⟨⟨_,n⟩⟩;refine zN (I:=c) 15 [(7,fun v=>∃s:Sli,v=Xm #[s.x,I6 aj,I6 E])] (fun u=>zc H u) n N z1 Kr rfl rfl Dc (Sa ⟨_,zP,rfl⟩) Kr ?_;simp only[Yp,Yq];refine zj ?_;refine zW (.tmp 19) ⟨k,0,Xb⟩ rfl rfl rfl rfl ?_;refine Uq ?_;iterate 5 refine zj ?_
 refine zC rfl rfl (fun v u=>∃(s:Sli)(G:Xn),v=Xm #[s.x,I6 aj,I6 E]/\zc H G/\zc G u/\q6 slE G.heap.size u (s.x) (Jf m.sl M)) (fun w' g a=>?_) (fun c7 a0=>?_);·refine zL.call [V.s.x,I6 M] rfl func193 rfl rfl rfl ?_;refine(a8 w' (ai.trans a)).mono ?_;rintro e c8⟨s,rfl,ah,a9⟩;exact⟨_,rfl,(b _).2 (((b _).1 g).trans a9),⟨s,rfl⟩,s,w',rfl,a,a9,ah⟩
 obtain⟨s,rfl⟩:=a0;refine Uq ?_;iterate 7 refine zj ?_
 refine qN fun ek bt P=>?_;obtain⟨aq,G,S,X,al,c6⟩:=P;have T:aq=s:=by
  obtain⟨cu,cv,cw⟩:=s;obtain⟨cy,cz,da⟩:=aq;simp only[Value.tuple.injEq,Array.mk.injEq,List.cons.injEq,vJ,and_true]at S;obtain⟨rfl,rfl,rfl⟩:=S;rfl
 subst T;have bd:=dD<|c6.base (bS (ai.trans X));have au:=dD (ai.trans (X.trans al));have cr:=dD (cd.aA (X.trans al));by_cases an:E=0
 rotate_left
 ·have bz:(E !=0)=Xc:=by simp[an]
  have ca:=dD<|a6.out an;go_wp2;go_ret;exact⟨Rr ca.out,Rx ca.out (Chg.refl a5 au)⟩
 have bz:(E !=0)=Xd:=by simp[an]
 obtain⟨ef,j,eg,es,eh,ei⟩:=i.out an;subst eg;have b8:=dD ef;have b9:=dD eh;have ba:Xo (cb.2=_):=ei;have cl:=dD (a5.box.aA au);go_upto_region 6 with(refine Qf rfl 30 (.tmp 36) (.tmp 33) rfl k 2 rfl (aq.x) rfl [aq.x] rfl cl (by simp[chL]) Kr (by simp[Value.oneCell']) ?_)
 intro F bh aa _;have cs:Xo (zt F h 53 [U8 r,U8 t,U8 x,U8 z,U8 A,U8 B,U8 C,U8 D,I6 M,Xh bq,Xh bo,I6 bp,I6 br]):=dD<|cr.beside aa (fun p e=>by cases e;omega);obtain⟨l,ao,e9,bm⟩:=a5.cA au bd aa bh;have bc:=dD ao;have cp:=dD e9;have cm:=dD bm;have co:Xo (∀W,zc F W->Xp prog 194 #[Xi #[l.sb.x,l.sq.x],I6 (j:Int),Xi #[U8 r,U8 t,U8 x,U8 z,U8 A,U8 B,U8 C,U8 D]] W fun e w'=>∃d q:Sli,e=Xl (Xm #[Xi #[d.x,q.x],I6 0])/\q9 W.heap.size w' (Xi #[d.x,q.x]) (jV m.sb m.sq (j:Int)) (Zb m.sb m.sq (j:Int) (pgL ⟨r,t,x,z,A,B,C,D⟩))/\zc W w'):=show∀W,_ from fun W am=>by
  have ag:=zg6 (Xi #[l.sb.x,l.sq.x]) m.sb m.sq (j:Int) (pgL ⟨r,t,x,z,A,B,C,D⟩) rfl W ⟨_,_,rfl,(ao.at.aA am).sb,(ao.at.aA am).sq⟩;rw[b9.out]at ag;refine ag.mono ?_;rintro e w'⟨em,rfl,cj,bs⟩;obtain⟨d,q,rfl,_,_⟩:=cj.form;exact⟨d,q,rfl,cj,bs⟩
 have dt:k<F.heap.size:=ao.bL k (.inl rfl);have ay:Xo (k≠h):=dD<|Wm;try simp only[Yd]
 go_upto_region 6 with fail;obtain⟨c,b⟩:=Ww fun u=>zt u h 53 [U8 r,U8 t,U8 x,U8 z,U8 A,U8 B,U8 C,U8 D,I6 M,Xh bq,Xh bo,I6 bp,I6 br];have n:=(b _).2 (cs.aA (gW _));have N:zc F F.drew:=show Below _ _ _ from(bR _ _).drew;have dv:=fun y:zg c=>((b _).1 y.holds).box.c 0 rfl;have dw:=fun y:zg c=>((b _).1 y.holds).box.c 1 rfl;have dx:=fun y:zg c=>((b _).1 y.holds).box.c 2 rfl;have dy:=fun y:zg c=>((b _).1 y.holds).box.c 3 rfl;have dz:=fun y:zg c=>((b _).1 y.holds).box.c 4 rfl;have e0:=fun y:zg c=>((b _).1 y.holds).box.c 5 rfl;have e4:=fun y:zg c=>((b _).1 y.holds).box.c 6 rfl;have e5:=fun y:zg c=>((b _).1 y.holds).box.c 7 rfl;have bv:Nonempty (zg c):=⟨⟨_,n⟩⟩;refine zN (I:=c) 17 [(5,fun v=>v=Xi #[l.sb.x,l.sq.x]),(9,fun v=>∃d q:Sli,v=Xm #[Xi #[d.x,q.x],I6 0]),(16,fun _=>True)] (fun u=>zc F u) n N z1 Kr rfl rfl Dc (Sc ⟨_,rfl⟩ ⟨_,zP,zP,rfl⟩ ⟨undef,trivial⟩) Kr ?_;simp only[Yp,Yq];iterate 2 refine zj ?_
 refine zW (.tmp 39) ⟨k,0,Xb⟩ rfl rfl rfl rfl ?_;refine Uq ?_;iterate 2 refine zj ?_
 refine zC rfl rfl (fun _ u=>zc F u) (fun w' g a=>?_) (fun c7 a0=>?_)
 ·refine zcm 34 (.tmp 42) rfl k 3 rfl [l.sb.x,l.sq.x] ((bc.box.box.aA a).mid 3 (fun j v ac=>by
   match j,ac with
   |0,ac=>exact ac
   |1,ac=>exact ac)) underlying34 rfl Kr ⟨g,rfl,a⟩
 cases a0;refine Uq ?_;iterate 3 refine zj ?_
 refine zC rfl rfl (fun v u=>∃(d q:Sli)(G:Xn),v=Xm #[Xi #[d.x,q.x],I6 0]/\zc F G/\zc G u/\q9 G.heap.size u (Xi #[d.x,q.x]) (jV m.sb m.sq (j:Int)) (Zb m.sb m.sq (j:Int) (pgL ⟨r,t,x,z,A,B,C,D⟩))) (fun w' g a=>?_) (fun c7 a0=>?_);·refine zL.call [Xi #[l.sb.x,l.sq.x],I6 (j:Int),Xi #[U8 r,U8 t,U8 x,U8 z,U8 A,U8 B,U8 C,U8 D]] rfl func194 rfl rfl rfl ?_;refine(co w' a).mono ?_;rintro e c8⟨d,q,rfl,ah,a9⟩;exact⟨_,rfl,(b _).2 (((b _).1 g).aA a9),⟨d,q,rfl⟩,d,q,w',rfl,a,a9,ah⟩
 obtain⟨d,q,rfl⟩:=a0;refine Uq ?_;iterate 3 refine zj ?_
 refine zW (.tmp 38) ⟨k,0,Xb⟩ rfl rfl rfl rfl ?_;refine Uq ?_;iterate 2 refine zj ?_
 refine zC rfl rfl (fun _ u=>Chg w0 k F l {({m with sl:=Jf m.sl M}:Ma)with sb:=jV m.sb m.sq (j:Int),sq:=Zb m.sb m.sq (j:Int) (pgL ⟨r,t,x,z,A,B,C,D⟩)} u) (fun w' g a=>?_) (fun c7 a0=>?_)
 ·obtain⟨ak,ap,G,S,X,al,c6⟩:=a;have T:ak=d/\ap=q:=by
   obtain⟨cu,cv,cw⟩:=d;obtain⟨cy,cz,da⟩:=ak;obtain⟨dk,ce,cf⟩:=q;obtain⟨en,eo,ep⟩:=ap;simp only[Value.tuple.injEq,Array.mk.injEq,List.cons.injEq,Value.agg.injEq,vJ,and_true]at S;obtain⟨⟨rfl,rfl,rfl⟩,rfl,rfl,rfl⟩:=S;exact⟨rfl,rfl⟩
  obtain⟨rfl,rfl⟩:=T;have c9:=X.trans al;refine ZQ 34 (.tmp 52) (.tmp 48) rfl k 3 rfl (Xi #[ak.x,ap.x]) rfl [ak.x,ap.x] rfl (bc.box.aA c9) (by simp[chL]) Kr (by simp[Value.oneCell']) ?_;intro bg bi ab _;exact⟨(b _).2 (((b _).1 g).beside ab (fun p e=>by cases e;exact fun e=>ay.out e.symm)),trivial,bc.setSw c9 (bS X) c6 ab bi⟩
 try simp only[Yd]
 refine qN fun bg bt P=>?_;obtain⟨cc,ci,ea,bn⟩:=Chg.step cp cm P;have ej:Xo (ChW w0 k bg cc _):=ci;have cq:=dD ea;have cn:=dD bn;have bu:=a4.out bg cc j _ _ _ ci;go_wp2_with fail;refine bu.mono ?_;rintro e bf⟨⟨er,rfl⟩,dm⟩;have bb:Xo (Chg w0 k w V cb.2 bf):=show Chg _ _ _ _ _ _ by rw[ba.out];exact Chg.step cq cn dm
 go_wp2;go_ret;exact⟨Rr b8.out,bb⟩
theorem zqh(x0 y0:Int)(x1 y1:Int)(w):(Op.equalIn 10000 95 (Xi #[I6 x0,I6 x1]) (Xi #[I6 y0,I6 y1])).run prog w=.ok ((x0==y0)&&(x1==y1)) w:=by
 have hf:(Tryz.prog.fieldsOf 95).toList.map (fun f=>(f.name,f.type,f.offset))=[("Proc",3,0),("Page",3,1)]:=by kernel_rfl
 rw[run_equalIn_struct w 9999 95 _ _ Kr Kr];obtain⟨f0,f1,hfs⟩:∃f0 f1,(Tryz.prog.fieldsOf 95).toList=[f0,f1]:=by
  have hl:(Tryz.prog.fieldsOf 95).toList.length=2:=by have:=congrArg List.length hf;simpa using this
  match hq:(Tryz.prog.fieldsOf 95).toList,hl with
  |[f0,f1],_=>exact⟨f0,f1,rfl⟩
 rw[hfs]at hf⊢;simp at hf;obtain⟨⟨n0,t0,o0⟩,⟨n1,t1,o1⟩⟩:=hf;have pI:=zcX w;simp only[Op.eqFields,n0,t0,o0,n1,t1,o1];simp[pI,run_equalIn_int w _ _ _ _ _ _ underlying3];by_cases e0:x0=y0;case neg=>simp[e0]
 subst e0;by_cases e1:x1=y1;case neg=>simp[e1]
 subst e1;simp
def zod(W:Xn)(y:Addr)(x:Nat×Nat):Prop:=W.cell? y=Xa (Xe Xf (x.1:Int))/\W.cell? {block:=y.block,off:=y.off+1}=Xa (Xe Xf (x.2:Int))
theorem zq.bP(h:zq za8 w A d):∃a c,A=O a d.length c/\∀(j:Nat)x,d[j]?=Xa x->∃ad,a=Xa ad/\∀W,zc w W->zod W (ad.add (j*2)) x:=by obtain⟨a,c,b,v⟩:=h.rows;refine⟨a,c,b,fun j x f=>?_⟩;obtain⟨ad,e,b⟩:=v j x f;exact⟨ad,e,fun W v=>⟨b W v 0 _ rfl,b W v 1 _ rfl⟩⟩
theorem zgA(v)(l:List (Nat×Nat))(q n:Nat)(w)(U:zq za8 w v l):
  Xp prog 206 #[v,Xi #[I6 (q:Int),I6 (n:Int)]] w fun e w'=>(∃E:Int,e=Xl (I6 E)/\(0<=E↔(q,n)∈l))/\zc w w':=by
 have s:=U.short;obtain⟨ae,af,rfl,f⟩:=U.bP;have I:=dD f;clear f U;obtain⟨L,K⟩:=kA l.length;rw[K.out]at s⊢;obtain⟨c,b⟩:∃c:Int->Prop,Xo (∀E,(0<=E↔(q,n)∈l)=c E):=⟨_,fun _=>rfl⟩;simp only[b.out];obtain⟨a3,W⟩:=kA w.heap.size;obtain⟨ac,d⟩:=kB (w.alloc (Xk #[I6 (q:Int),I6 (n:Int)] 95));have Z:=gA d;have a1:=xP d W;have N:=dD d;clear d;have aa:=zqh;go_enter func206,ntmps206;go_upto_region 1 with fail;rw[N.out,W.out];go_wp2;go_loopg[5,8] L (fun a5 _ ab wr=>∃a:Nat,a<=L/\L-a<=a5/\ab=I6 a/\Xo (zc w wr)/\Xo (Box wr a3 [I6 (q:Int),I6 (n:Int)])/\Xo (∀(j:Nat)x,j<a->l[j]?=Xa x->x≠(q,n)))
 exact⟨0,nZ _,Wm,rfl,Z,a1,fun j x t=>absurd t (nL _)⟩;obtain⟨a,a9,a8,rfl,F,P,V⟩:=hrel;by_cases g:a<L
 ·have u:=kC g
  obtain⟨x,M⟩:∃x,Xo (l[a]?=Xa x):=⟨_,gE (Rx K.out g)⟩;obtain⟨Q,rfl,Y⟩:=I.out a x M.out;have r:=dD<|fun X(a6:zc wr X)=>Y X (F.trans a6);clear Y;obtain⟨i,m⟩:=x;go_upto_region 4 with fail;have C:=fun y:zf wr=>(r _ y.aA).1;have D:=fun y:zf wr=>(r _ y.aA).2;have A:=P.gw 0 rfl;have B:=P.gw 1 rfl;have z:Nonempty (zf wr):=⟨⟨_,zc.refl _⟩⟩;by_cases G:i=q/\m=n
  ·obtain⟨rfl,rfl⟩:=G;have p:Xo (c (a:Int)):=dD<|by
    rw[<-b.out];exact⟨fun _=>mG M,fun _=>Wm⟩
   refine jM [] z1 Kr Sm Sm ?_;iterate 6 refine ze ?_
   refine z2 fun a0 k T=>?_;have H:=dD (F.trans k);clear k T z C D A B;have a7:(((i:Int)==(i:Int))&&((m:Int)==(m:Int)))=Xc:=Sm;go_wp2;go_ret;exact⟨⟨_,rfl,p⟩,H⟩
  have p:Xo (∀(j:Nat)x,j<a+1->l[j]?=Xa x->x≠(q,n)):=dD<|fun j x t h=>by
   by_cases e:j=a;·subst e;rw[M.out]at h;cases h;exact fun e=>G (Prod.mk.inj e)
   exact V j x Wm h
  have a7:(((q:Int)==(i:Int))&&((n:Int)==(m:Int)))=Xd:=by
   by_cases e:i=q
   ·have R:¬(n:Int)=(m:Int):=fun a4=>G ⟨e,Wm⟩
    simp[R]
   have R:¬(q:Int)=(i:Int):=fun a4=>e Wm;simp[R]
  clear G;refine jM [] z1 Kr Sm Sm ?_;iterate 6 refine ze ?_
  refine z2 fun a0 k T=>?_;have H:=dD (F.trans k);have a2:=dD (P.aA k);clear k T z C D A B;go_wp2;go_roundg (L-(a+1));exact⟨a+1,Wm,Wm,Gn,H,a2,p⟩;omega
 have u:=kD g;have:a=L:=Wm;subst this;have p:Xo (c (-1)):=dD<|by
  rw[<-b.out];refine⟨fun S=>absurd S Dc,fun S=>?_⟩;obtain⟨j,t⟩:=Yb S;exact absurd rfl (V j _ (by rw[<-K.out];exact(gS.1 t).1) t)
 go_wp2;go_ret;exact⟨⟨_,rfl,p⟩,F⟩
theorem zdi(v)(l:List (Nat×Nat))(q n:Nat)(w)(b:zq za8 w v l):
  Xp prog 203 #[v,Xi #[I6 (q:Int),I6 (n:Int)]] w fun e w'=>e=Xl (Xh (l.contains (q,n)))/\zc w w':=by
 have a:=zgA v l q n (w.alloc (Xk #[I6 (q:Int),I6 (n:Int)] 95)) (b.aA (za _ _));obtain⟨R,c⟩:=kA (l.contains (q,n));rw[c.out];clear b;go_enter func203,ntmps203;go_wp2_with fail;refine a.mono ?_;clear a;rintro e a⟨⟨z,rfl,a⟩,b⟩;have f:=dD<|(za _ _).trans b;clear b;by_cases d:0<=z
 ·have b:Xo (R=Xc):=dD<|by rw[<-c.out];simpa using a.1 d
  clear a;go_wp2;go_ret;exact⟨Rr b.out,f⟩
 have b:Xo (R=Xd):=dD<|by
  rw[<-c.out];cases c:l.contains (q,n)with
  |false=>rfl
  |true=>exact absurd (a.2 (Si c)) d
 have c:Xo (decide (0<=z)=Xd):=decide_eq_false d;clear a;go_wp2;go_ret;exact⟨by rw[b.out,<-c.out];rfl,f⟩
theorem zqB:isE Z z R=(decide (Z.kind=z)&&decide (Z.n=R)):=by unfold isE;cases c:decide (Z.kind=z)<;>cases c:decide (Z.n=R)<;>simp_all
theorem zmz(F:ChW w0 k w V m)(ap bc c0 bz:Nat)(f:Fr)(p:Nat)(a7)(l:List (Nat×Nat))(ad:Box w ap (frv f))(ag:Box w bc [a7])(ah:Box w c0 [Xj (Xa ⟨k,0,Xb⟩)])(ae:Box w bz [I6 (p:Int)])(H:zq za8 w a7 l)
  (q n:Nat)(s:Sp)(a:Ar)(bn:m.sp[q]?=Xa s)(c4:n<64)(c9:0<=f.f)(bg:a.file=f.f->(0<=a.base/\a.base<=100)/\(0<=a.fr/\a.fr<=100)):
  Xp prog 202 #[Xi #[I6 (q:Int),I6 (n:Int)],Xi #[I6 a.fr,I6 a.tz,Xh a.rd,Xh a.wr,Xh a.sh,I6 a.file,I6 a.base],Xj (Xa ⟨ap,0,Xb⟩),Xj (Xa ⟨bc,0,Xb⟩),Xj (Xa ⟨c0,0,Xb⟩),Xj (Xa ⟨bz,0,Xb⟩)] w fun e w'=>e=Xl (Xh (zau p f l q s a n))/\zc w w':=by
 have am:=(gS.1 bn).1;have ak:Ju m q (n:Int)=zh s n:=by unfold Ju;rw[Sp.aK bn,JF c4]
 have bs:Xo (∀W,zc w W->Xp prog 91 #[Xj (Xa ⟨k,0,Xb⟩),Xi #[I6 (q:Int),I6 (n:Int)]] W fun e w'=>e=Xl (enV (zh s n))/\zc W w'):=dD<|fun W be=>by rw[<-ak];exact QZ (F.aA be) q am (n:Int)
 have bt:Xo (∀W,a.file=f.f->Xp prog 107 #[Xi #[I6 a.fr,I6 a.tz,Xh a.rd,Xh a.wr,Xh a.sh,I6 a.file,I6 a.base],I6 (n:Int)] W fun e w'=>e=Xl (I6 (a.base+(n:Int)-a.fr))/\zc W w'):=dD<|fun W bh=>J2 a (n:Int) W (bg bh).1 (bg bh).2 Wm;have br:Xo (∀W,zc w W->Xp prog 203 #[a7,Xi #[I6 (q:Int),I6 (n:Int)]] W fun e w'=>e=Xl (Xh (l.contains (q,n)))/\zc W w'):=dD<|fun W be=>zdi a7 l q n W (H.aA be);have M:Xo (a.file=f.f->(z5 a n).page=a.base+(n:Int)-a.fr):=dD<|fun bh=>by
  unfold z5;simp only;rw[kE Wm];omega
 have c:Xo (zau p f l q s a n=(decide (a.file=f.f)&&decide ((z5 a n).page=f.x)&&!(l.contains (q,n))&&(decide ((zh s n).kind=0)||(decide ((zh s n).kind=1)&&decide ((zh s n).n=(p:Int)))))):=dD<|by
  unfold zau;rw[zqB];rfl
 obtain⟨bq,ax⟩:=kA (l.contains (q,n));rw[ax.out]at br c;obtain⟨a2,b8⟩:=kA ((z5 a n).page);rw[b8.out]at M c;obtain⟨B,aq,bd,aj⟩:∃B aq bd,zh s n=⟨B,aq,bd⟩:=⟨_,_,_,rfl⟩;rw[aj]at bs c;obtain⟨a3,c7⟩:=kA (zau p f l q s a n);rw[c7.out]at c⊢;simp only at c;have a8:=dD ad;have av:=dD ag;have aw:=dD ah;have au:=dD ae;obtain⟨⟨cd,ce,cf,cg,ch,ci,cj,ck⟩,fr,cn,cm,ab,ac⟩:=f;obtain⟨aa,r,i,t,j,b,d⟩:=a;simp only at bt M c c9;clear F ad ag ah ae H bn c4 bg am ak aj;obtain⟨bx,ar⟩:=kA w.heap.size;obtain⟨N,u⟩:=kB ((w.alloc (Xk #[I6 (q:Int),I6 (n:Int)] 95)).alloc (Xk #[I6 aa,I6 r,Xh i,Xh t,Xh j,I6 b,I6 d] 77));have L:=gD2 u;have bb:Xo (Box N bx [I6 (q:Int),I6 (n:Int)]):=dD<|by rw[<-u,<-ar.out];exact(Box.aF w _ _ rfl).alloc _
 have P:Xo (Box N (bx+1) [I6 aa,I6 r,Xh i,Xh t,Xh j,I6 b,I6 d]):=dD<|by rw[<-u];exact Box.aF _ [I6 aa,I6 r,Xh i,Xh t,Xh j,I6 b,I6 d] _ (by have:=ar.out;simp;omega)
 have b9:Xo (_=N):=u;clear u;go_enter func202,ntmps202;go_upto_region 1 with fail;rw[b9.out,ar.out];have U:=P.gw 0 rfl;have X:=P.gw 1 rfl;have Y:=P.gw 2 rfl;have Z:=P.gw 3 rfl;have I:=P.gw 4 rfl;have a0:=P.gw 5 rfl;have a1:=P.gw 6 rfl;have S:=bb.gw 0 rfl;have T:=bb.gw 1 rfl;have v:=fun A:zf N=>(a8.aA (L.trans A.aA)).c 11 rfl;have x:=fun A:zf N=>(a8.aA (L.trans A.aA)).c 12 rfl;have Q:=fun A:zf N=>(av.aA (L.trans A.aA)).c 0 rfl;have R:Nonempty (zf N):=⟨⟨_,zc.refl _⟩⟩;by_cases E:b=ab
 rotate_left
 ·have c2:(b !=ab)=Xc:=Si E
  have h:Xo (a3=Xd):=dD (by rw[c.out,decide_eq_false E];rfl);clear E;refine jM [] z1 Kr Sm Sm ?_;iterate 6 refine ze ?_
  iterate 7 (refine Zw Kr ?_;simp only[Yd,sB,sS,sZ])
  iterate 2 refine ze ?_
  iterate 3 (refine Zw Kr ?_;simp only[Yd,sB,sS,sZ])
  refine ze ?_;refine z2 fun ba g G=>?_;have D:=dD (L.trans g);clear g G R U X Y Z I a0 a1 S T v x Q;go_wp2;go_ret;exact⟨Rr h.out,D⟩
 have c2:(b !=ab)=Xd:=by simp[E]
 have al:=M.out E;have y:=fun W=>bt.out W E;rw[<-al]at y;have ay:Xo (decide (b=ab)=Xc):=decide_eq_true E;rw[ay.out]at c;clear E al;by_cases a4:a2=ac
 rotate_left
 ·have c3:(a2 !=ac)=Xc:=Si a4
  have h:Xo (a3=Xd):=dD (by rw[c.out,decide_eq_false a4];rfl);clear a4;refine jM [(9,⟨fun K=>K=I6 a2,fun K w'=>True⟩)] z1 Kr (Sa ⟨_,rfl⟩) ?hp ?_;case hp=>
   intro bo z;simp only[mC,nM,or_false]at z;subst z;exact fun _ _ _ _ F=>F
  iterate 9 refine ze ?_
  refine zG rfl rfl (fun w' bi G=>?_) (fun c5 H=>?_);·refine zL.call [Xi #[I6 aa,I6 r,Xh i,Xh t,Xh j,I6 b,I6 d],I6 (n:Int)] rfl func107 rfl rfl rfl ?_;refine(y w').mono ?_;rintro e an⟨rfl,g⟩;exact⟨_,rfl,g,rfl,trivial⟩
  subst H;refine Uq ?_;iterate 5 refine ze ?_
  iterate 3 (refine Zw Kr ?_;simp only[Yd,sB,sS,sZ])
  refine ze ?_;refine z2 fun ba g G=>?_;have D:=dD (L.trans g);clear g G R U X Y Z I a0 a1 S T v x Q y;go_wp2;go_ret;exact⟨Rr h.out,D⟩
 have c3:(a2 !=ac)=Xd:=by simp[a4]
 have az:Xo (decide (a2=ac)=Xc):=decide_eq_true a4;rw[az.out]at c;clear a4;refine jM [(9,⟨fun K=>K=I6 a2,fun K w'=>True⟩),(17,⟨fun K=>K=Xh bq,fun K w'=>True⟩)] z1 Kr (Sb ⟨_,rfl⟩ ⟨_,rfl⟩) ?hp ?_;case hp=>
  intro bo z;simp only[mC,nM,or_false]at z;rcases z with rfl|rfl;·exact fun _ _ _ _ F=>F
  exact fun _ _ _ _ F=>F
 iterate 9 refine ze ?_
 refine zG rfl rfl (fun w' bi G=>?_) (fun c5 H=>?_);·refine zL.call [Xi #[I6 aa,I6 r,Xh i,Xh t,Xh j,I6 b,I6 d],I6 (n:Int)] rfl func107 rfl rfl rfl ?_;refine(y w').mono ?_;rintro e an⟨rfl,g⟩;exact⟨_,rfl,g,rfl,trivial⟩
 subst H;refine Uq ?_;iterate 7 refine ze ?_
 refine zG rfl rfl (fun w' bi G=>?_) (fun c5 H=>?_);·refine zL.call [a7,Xi #[I6 (q:Int),I6 (n:Int)]] rfl func203 rfl rfl rfl ?_;refine(br w' (L.trans bi)).mono ?_;rintro e an⟨rfl,g⟩;exact⟨_,rfl,g,rfl,trivial⟩
 subst H;refine Uq ?_;refine ze ?_;refine z2 fun ba g G=>?_;have D:=dD (L.trans g);have bv:=dD (bb.aA g);clear g G R U X Y Z I a0 a1 S T v x Q y c2 c3;cases bq with
 |true=>
  have h:Xo (a3=Xd):=dD<|Rr c.out;go_wp2;go_ret;exact⟨Rr h.out,D⟩
 |false=>
  obtain⟨cb,cc⟩:=bv.k2;have ca:=(aw.aA D).c 0 rfl;have ai:=bs.out ba D.out;go_wp2_with fail;refine ai.mono ?_;clear ai cb cc ca;rintro e bu⟨rfl,c1⟩;have c6:=dD (D.trans c1);clear c1;unfold enV;go_upto_region 4 with fail;obtain⟨cl,a9⟩:=kA bu.heap.size;obtain⟨c8,C⟩:=kB (bu.alloc (Xk #[I6 B,I6 aq,Xh bd] 55));have ao:Xo (zc w c8):=show zc _ _ from c6.trans (by rw[<-C];exact za _ _);have bw:=xP C a9;rw[C,a9.out];clear C;obtain⟨cp,cq⟩:=bw.k2;have co:=(au.aA ao).c 0 rfl;by_cases a5:B=0
  ·have bj:(B==0)=Xc:=Rr a5
   have h:Xo (a3=Xc):=dD (by rw[c.out,decide_eq_true a5];rfl);clear a5;go_wp2;go_ret;exact⟨Rr h.out,ao⟩
  have bj:(B==0)=Xd:=Si a5;rw[decide_eq_false a5]at c;clear a5;by_cases a6:B=1
  ·have bl:(B==1)=Xc:=Rr a6
   rw[decide_eq_true a6]at c;clear a6;have h:Xo (a3=(aq==(p:Int))):=dD<|Rr c.out;go_wp2;go_ret;exact⟨Rr h.out,ao⟩
  have bl:(B==1)=Xd:=Si a6;rw[decide_eq_false a6]at c;clear a6;have h:Xo (a3=Xd):=dD<|Rr c.out;go_wp2;go_ret;exact⟨Rr h.out,ao⟩
theorem zL.allocFr(d:o.op=.alloc 53)(h:M (Xj (Xa ⟨w.heap.size,0,Xb⟩)) (w.alloc (Xk (frv fr0).toArray 53))):zL prog o a w M:=by
 have e:(zeroValue 53).run prog w=.ok frz w:=by
  obtain⟨f,c,b,_,_⟩:=info_parts q7.aD;have:q7.ty=53:=rfl;rw[this]at c;have b:f.zero=Xa frz:=b;simp[zeroValue,typeInfo,c,b]
 unfold zL;have:(execOp a.eval o).run prog w=.ok (.value (Xj (Xa ⟨w.heap.size,0,Xb⟩))) (w.alloc (Xk (frv fr0).toArray 53)):=by
  simp[execOp,d,go_sem,e];rfl
 rw[this];exact h
theorem zlO(bi:ChW w0 k w V m)(dq:Rt m)(p:Nat)(f:Fr)(dr:m.fs[p]?=Xa f)(ex:0<=f.f)(f1)(l:List (Nat×Nat))(ap:zq za8 w f1 l):
  Xp prog 197 #[Xj (Xa ⟨k,0,Xb⟩),I6 (p:Int),f1] w fun e w'=>e=Xl (Xh (zhk m p f l))/\zc w w':=by
 obtain⟨cp,cq,rfl,_⟩:=ap.rows;obtain⟨cr,dc⟩:=kA l.length;rw[dc.out]at ap⊢;have db:=dD bi;have f8:=dD ap;have av:Xo (∀(q:Nat)s,m.sp[q]?=Xa s->s.aC.length<=16/\∀a∈s.aC,jS a):=show∀(q:Nat)s,_ from fun q s ba=>by
  obtain⟨C,a9⟩:=jL.1 (dq.inv.aQ s (mG ba)).1;exact⟨C,a9.all⟩
 have bp:=dD ex;obtain⟨gm,-⟩:=bi.at.ns;obtain⟨bf,U,ce⟩:=bi.at.bB p f dr;have cz:=dD U;have da:=dD ce;have gi:(p:Int)<(V.f.n:Int):=by
  have:=(gS.1 dr).1;omega
 obtain⟨ec,ck,ao,cj⟩:=bi.at.aP;obtain⟨-,-,-,-,-,-,-,-,f2⟩:=bi.at.ns;obtain⟨eb,bu⟩:=kA V.sp.a;obtain⟨aq,X⟩:=kA m.sp.length;have dd:Xo (V.sp.n=aq):=dD<|Rx f2 X.out;have f0:aq<=4:=Ry X.out dq.inv.aI;have dj:Xo (ec.length=aq):=dD<|Rx ck X.out;have dg:Xo (∀(j:Nat)x,ec[j]?=Xa x->∃bf,eb=Xa bf/\∀ay,zc w ay->zkC ay (bf.add (j*10)) x):=dD<|Ry bu.out ao;have dh:=dD cj;obtain⟨cl,aw⟩:=kA (zhk m p f l);rw[aw.out];have bw:Xo ((∃(q:Nat)(s:Sp)(i:Nat)(a:Ar)(n:Nat),m.sp[q]?=Xa s/\s.aC[i]?=Xa a/\Z7 a n=Xc/\n<64/\zau p f l q s a n=Xc)->cl=Xc):=dD<|fun⟨q,s,i,a,n,C,a9,c1,c2,dm⟩=>by
  rw[<-aw.out];exact zdR.2 ⟨q,s,i,a,n,C,a9,c1,c2,zbS.1 dm⟩
 have de:Xo ((∀(q:Nat)(s:Sp)(i:Nat)(a:Ar)(n:Nat),m.sp[q]?=Xa s->s.aC[i]?=Xa a->Z7 a n=Xc->n<64->zau p f l q s a n=Xd)->cl=Xd):=dD<|fun dw=>by
  rw[<-aw.out];cases gb:zhk m p f l with
  |false=>rfl
  |true=>
   obtain⟨q,s,i,a,n,C,a9,c1,c2,dm⟩:=zdR.1 gb;have:=dw q s i a n C a9 c1 c2;rw[zbS.2 dm]at this;cases this
 clear bi dq dr ex ap U ce gm f2 ck ao cj;obtain⟨h,bn⟩:=kA w.heap.size;obtain⟨g,r⟩:=kB (((w.alloc (Xk #[Xj (Xa ⟨k,0,Xb⟩)] 92)).alloc (Xk #[I6 (p:Int)] 3)).alloc (Xk #[O cp cr cq] 183));have ct:Xo (zc w g):=dD<|by rw[<-r];exact((za _ _).trans (za _ _)).trans (za _ _)
 have ek:Xo (Box g h [Xj (Xa ⟨k,0,Xb⟩)]):=dD<|by rw[<-r,<-bn.out];exact((Box.aF w [Xj (Xa ⟨k,0,Xb⟩)] _ rfl).alloc _).alloc _
 have ej:Xo (Box g (h+1) [I6 (p:Int)]):=dD<|by rw[<-r];exact(Box.aF _ [I6 (p:Int)] _ (by have:=bn.out;simp;omega)).alloc _
 have fb:Xo (Box g (h+2) [O cp cr cq]):=dD<|by rw[<-r];exact Box.aF _ [O cp cr cq] _ (by have:=bn.out;simp;omega)
 have bo:Xo (g.heap.size=h+3):=dD<|by rw[<-r];have:=bn.out;simp;omega
 have di:Xo (_=g):=r;clear r;go_enter func197,ntmps197;go_upto_region 1 with fail;rw[di.out,bn.out];obtain⟨⟨F,G,H,K,L,M,N,P⟩,R,S,Q,z,T⟩:=f;have cm:zc g g.drew:=show Below _ _ _ from(bR _ _).drew;obtain⟨I,au⟩:=Ww fun W=>zc g W;have az:=(au _).2 cm;have c3:g.drew=g.drew:=rfl;have dx:=ek.h au 0 rfl;have ds:=ej.h au 0 rfl;have dz:∀y:zg I,y.world.cell? ⟨k,0,Xb⟩=Xa (O (Xa bf) V.f.n V.f.c):=fun y=>by rw[<-cz.out];exact(db.box.box.aA (ct.trans ((au _).1 y.holds))).c 0 rfl
 have b:∀y:zg I,zjQ y.world (bf.add (p*13)) ⟨⟨F,G,H,K,L,M,N,P⟩,R,S,Q,z,T⟩:=fun y=>da.out _ (ct.trans ((au _).1 y.holds));have c4:=fun y=>(b y).1;have c5:=fun y=>(b y).2.1;have c6:=fun y=>(b y).2.2.1;have c7:=fun y=>(b y).2.2.2.1;have c8:=fun y=>(b y).2.2.2.2.1;have c9:=fun y=>(b y).2.2.2.2.2.1;have ca:=fun y=>(b y).2.2.2.2.2.2.1;have cb:=fun y=>(b y).2.2.2.2.2.2.2.1;have cc:=fun y=>(b y).2.2.2.2.2.2.2.2.1;have cd:=fun y=>(b y).2.2.2.2.2.2.2.2.2.1;have ak:=fun y=>(b y).2.2.2.2.2.2.2.2.2.2.1;have al:=fun y=>(b y).2.2.2.2.2.2.2.2.2.2.2.1;have am:=fun y=>(b y).2.2.2.2.2.2.2.2.2.2.2.2;dsimp only at c4 c5 c6 c7 c8 c9 ca cb cc cd ak al am;clear b;have dv:Nonempty (zg I):=⟨⟨_,az⟩⟩;refine zN (I:=I) 11 [(9,fun gq=>gq=Xj (Xa ⟨h+3,0,Xb⟩)),(10,fun _=>True)] (fun W=>W=g.drew) az c3 z1 Kr rfl rfl Dc (Sb ⟨_,rfl⟩ ⟨undef,trivial⟩) Kr ?_;simp only[Yp,Yq];refine zj ?_;refine zW (.tmp 14) ⟨k,0,Xb⟩ rfl rfl rfl rfl ?_;refine Uq ?_;iterate 7 refine zj ?_
 refine zC rfl rfl (fun _ W=>zt W (h+3) 53 (frv fr0)/\zc g W) (fun w' dn ag=>?_) (fun gr ap=>?_);·subst ag;refine zL.allocFr rfl ?_;have ba:g.drew.heap.size=h+3:=bo.out;refine⟨(au _).2 (cm.trans (za _ _)),by rw[ba],zt.aF _ (frv fr0) _ ba.symm,cm.trans (za _ _)⟩
 subst ap;refine Uq ?_;refine zC rfl rfl (fun _ W=>zt W (h+3) 53 [U8 F,U8 G,U8 H,U8 K,U8 L,U8 M,U8 N,U8 P,I6 R,Xh S,Xh Q,I6 z,I6 T]/\zc g W) (fun w' dn ag=>?_) (fun gr ap=>?_)
 ·refine zL.bM 53 (.tmp 7) (.tmp 22) rfl (h+3) rfl [U8 F,U8 G,U8 H,U8 K,U8 L,U8 M,U8 N,U8 P,I6 R,Xh S,Xh Q,I6 z,I6 T] rfl ag.1 rfl Kr (by simp[Value.oneCell']) ?_
  intro eo dk dl _;have bh:zc g eo:=zd ag.2 dl (Hm bo.out);exact⟨(au _).2 bh,trivial,dk,bh⟩
 clear ap;try simp only[Yd]
 refine qN fun be dp D=>?_;have f5:=dD D.1.box;have ar:=dD<|ct.trans D.2;have el:=dD<|ek.aA D.2;have f9:=dD<|ej.aA D.2;have fc:=dD<|fb.aA D.2;clear dp D az c3 dx ds dz c4 c5 c6 c7 c8 c9 ca cb cc cd ak al am dv cm;have gj:∀(ew:Fn)(first bz:Array Xq)(w:Xn),(Instr.makeFunc ew first bz).run prog w=.ok (.func ew first bz) w:=fun _ _ _ _=>rfl;have hd:=enters_of func202 Kr rfl;have gn:=el.c 0 rfl;have bx:=(db.box.box.aA ar).c 10 rfl;rw[dd.out,bu.out]at bx;go_wp2;clear gn bx;have bv:Xo (∀ay,zc be ay->∀(q n:Nat)s a,m.sp[q]?=Xa s->a∈s.aC->n<64->Xp prog 202 #[Xi #[I6 (q:Int),I6 (n:Int)],Xi #[I6 a.fr,I6 a.tz,Xh a.rd,Xh a.wr,Xh a.sh,I6 a.file,I6 a.base],Xj (Xa ⟨h+3,0,Xb⟩),Xj (Xa ⟨h+2,0,Xb⟩),Xj (Xa ⟨h,0,Xb⟩),Xj (Xa ⟨h+1,0,Xb⟩)] ay fun e w'=>e=Xl (Xh (zau p ⟨⟨F,G,H,K,L,M,N,P⟩,R,S,Q,z,T⟩ l q s a n))/\zc ay w'):=dD<|fun ay bj q n s a ba U co=>by
  obtain⟨fk,gy,gz,h6,h7,fl,h8,fm⟩:=(av q s ba).2 a U;exact zmz (db.aA (ar.trans bj)) (h+3) (h+2) h (h+1) ⟨⟨F,G,H,K,L,M,N,P⟩,R,S,Q,z,T⟩ p (O cp cr cq) l (f5.aA bj) (fc.aA bj) (el.aA bj) (f9.aA bj) (f8.aA (ar.trans bj)) q n s a ba co bp (fun e=>⟨⟨fl,by have:a.file=z:=e;have hg:0<=z:=bp.out;have:=fm Wm;omega⟩,fk,Wm⟩)
 go_loopg[30] aq (fun c0 e9 wr=>∃q:Nat,q<=aq/\aq-q<=c0/\e9=I6 q/\Xo (zc be wr)/\Xo (∀(B:Nat)(s:Sp)(i:Nat)(a:Ar)(n:Nat),B<q->m.sp[B]?=Xa s->s.aC[i]?=Xa a->Z7 a n=Xc->n<64->zau p ⟨⟨F,G,H,K,L,M,N,P⟩,R,S,Q,z,T⟩ l B s a n=Xd))
 exact⟨0,nZ _,Wm,rfl,zc.refl _,fun B s i a n ez=>absurd ez (nL _)⟩;obtain⟨q,ez,gh,rfl,cw,ee⟩:=hrel;by_cases A:q<aq
 ·have ci:=kC A
  obtain⟨x,bk⟩:∃x,ec[q]?=Xa x:=⟨_,gE (Rx dj.out A)⟩;obtain⟨s,bd⟩:∃s,Xo (m.sp[q]?=Xa s):=⟨_,gE (Rx X.out A)⟩;have bm:=dD<|dh.out q x s bk bd.out;obtain⟨bf,rfl,ce⟩:=dg.out q x bk;obtain⟨fv,fw,fy,fz,g0,g1,g2,g3,g4,g6⟩:=ce wr (ar.trans cw);clear ce bk;go_upto_region 6 with fail;obtain⟨he,bq⟩:=kA wr.heap.size;obtain⟨fi,ah⟩:=kB (wr.alloc (Xk #[Xh x.aE,x.ar.x,x.t0.x,x.t1.x,x.t2.x,x.t3.x,x.t4.x,x.t5.x,x.t6.x,x.t7.x] 63));have f6:Xo (zc be fi):=show zc _ _ from cw.trans (by rw[<-ah];exact za _ _);have fe:=xP ah bq;rw[ah,bq.out];clear ah fv fw fy fz g0 g1 g2 g3 g4 g6;have cx:=dD bm.ar.n;obtain⟨bg,ae⟩:=kA s.aC.length;have ga:bg<=16:=by rw[<-ae.out];exact(av q s bd).1
  obtain⟨fp,fq,b8,aj⟩:=bm.ar.aC;simp only[vJ]at b8;have cy:=dD aj;have e7:=fe.c 1 rfl;simp only[Sli.x]at e7;rw[b8.1,cx.out,ae.out]at e7;clear b8 aj;go_wp2;clear e7;go_loopg[38] bg (fun c0 ea wr=>∃j:Nat,j<=bg/\bg-j<=c0/\ea=I6 j/\Xo (zc be wr)/\Xo (∀(i:Nat)(a:Ar)(n:Nat),i<j->s.aC[i]?=Xa a->Z7 a n=Xc->n<64->zau p ⟨⟨F,G,H,K,L,M,N,P⟩,R,S,Q,z,T⟩ l q s a n=Xd))
  exact⟨0,nZ _,Wm,rfl,f6,fun i a n ey=>absurd ey (nL _)⟩;obtain⟨j,hh,ge,rfl,cu,ef⟩:=hrel;by_cases ab:j<bg
  ·have cg:=kC ab
   obtain⟨a,bl⟩:∃a,Xo (s.aC[j]?=Xa a):=⟨_,gE (Rx ae.out ab)⟩;obtain⟨fo,rfl,cf⟩:=cy.out j a bl.out;obtain⟨ep,eq,er,es,et,eu,ev⟩:=cf wr (ar.trans cu);have E:=(av q s bd).2 a (mG bl);obtain⟨v,b9⟩:∃v:Nat,a.fr=(v:Int):=⟨a.fr.toNat,Hm E.1⟩;obtain⟨u,bc⟩:∃u:Nat,a.tz=(u:Int):=⟨a.tz.toNat,by have:=E.1;have:=E.2.1;omega⟩;have gc:v<u:=Hm E.2.1;have dy:u<=64:=Hm E.2.2.1;have bt:=dD<|mG bl.out;have bs:Xo (∀n:Nat,Z7 a n=Xc↔v<=n/\n<u):=show∀n:Nat,_ from fun n=>(by rw[q5,b9,bc];omega);obtain⟨h9,ft,Y,a0,Z,d,c⟩:=a;simp only at b9 bc ep eq er es et eu ev;subst b9;subst bc;clear cf E;go_upto_region 9 with fail;obtain⟨g7,br⟩:=kA wr.heap.size;obtain⟨fj,ai⟩:=kB (wr.alloc (Xk #[I6 (v:Int),I6 (u:Int),Xh Y,Xh a0,Xh Z,I6 d,I6 c] 77));have f7:Xo (zc be fj):=dD<|cu.trans (by rw[<-ai];exact za _ _);have em:=xP ai br;rw[ai,br.out];clear ai ep eq er es et eu ev;have ed:=em.c 0 rfl;go_wp2;clear ed;go_loopg[13] (u-v) (fun c0 e8 wr=>∃n:Nat,v<=n/\n<=u/\u-n<=c0/\e8=I6 n/\Xo (zc be wr)/\Xo (Box wr g7 [I6 (v:Int),I6 (u:Int),Xh Y,Xh a0,Xh Z,I6 d,I6 c])/\Xo (∀t:Nat,v<=t->t<n->zau p ⟨⟨F,G,H,K,L,M,N,P⟩,R,S,Q,z,T⟩ l q s ⟨(v:Int),(u:Int),Y,a0,Z,d,c⟩ t=Xd))
   exact⟨v,nR _,Wm,Wm,rfl,f7,em,fun t C a9=>absurd a9 Wm⟩;obtain⟨n,du,gk,gf,rfl,cv,en,eh⟩:=hrel;obtain⟨ed,gs,gt,gu,gv,gw,gx⟩:=en.c7;by_cases ac:n<u
   ·have ch:=kC ac
    have cn:=bv.out wr cv q n s _ bd bt Wm;simp only at cn;obtain⟨fh,ax⟩:=kA (zau p ⟨⟨F,G,H,K,L,M,N,P⟩,R,S,Q,z,T⟩ l q s ⟨(v:Int),(u:Int),Y,a0,Z,d,c⟩ n);rw[ax.out]at cn;go_wp2_with fail;refine cn.mono ?_;rintro e eo⟨rfl,bh⟩;have ei:=dD (cv.trans bh);have fg:=dD (en.aA bh);clear bh cn ed gs gt gu gv gw gx;cases fh with
    |true=>
     have df:Xo (cl=Xc):=bw.out ⟨q,s,j,_,n,bd,bl,(bs n).2 ⟨du,ac⟩,Wm,ax⟩;go_wp2;go_ret;exact⟨Rr df.out,ar.trans ei⟩
    |false=>
     have f4:Xo (∀t:Nat,v<=t->t<n+1->zau p ⟨⟨F,G,H,K,L,M,N,P⟩,R,S,Q,z,T⟩ l q s ⟨(v:Int),(u:Int),Y,a0,Z,d,c⟩ t=Xd):=dD<|fun t C a9=>by
      by_cases e:t=n;·subst e;exact ax.out
      exact eh t C Wm
     go_wp2;go_roundg (u-(n+1));exact⟨n+1,Wm,Wm,Wm,Gn,ei,fg,f4⟩;omega
   have ch:=kD ac;have cs:Xo (∀(i:Nat)(a:Ar)(n:Nat),i<j+1->s.aC[i]?=Xa a->Z7 a n=Xc->n<64->zau p ⟨⟨F,G,H,K,L,M,N,P⟩,R,S,Q,z,T⟩ l q s a n=Xd):=dD<|fun i a t ey U aa dt=>by
    by_cases e:i=j;·subst e;rw[bl.out]at U;cases U;obtain⟨C,a9⟩:=(bs t).1 aa;exact eh t C Wm
    exact ef i a t Wm U aa dt
   go_wp2;go_roundg (bg-(j+1));exact⟨j+1,Wm,Wm,Gn,cv,cs⟩;omega
  have cg:=kD ab;have f3:Xo (∀(B:Nat)(s:Sp)(i:Nat)(a:Ar)(n:Nat),B<q+1->m.sp[B]?=Xa s->s.aC[i]?=Xa a->Z7 a n=Xc->n<64->zau p ⟨⟨F,G,H,K,L,M,N,P⟩,R,S,Q,z,T⟩ l B s a n=Xd):=show∀(B:Nat)(s:Sp)(i:Nat)(a:Ar)(n:Nat),_ from fun B gp i a n gl bb U aa co=>by
   by_cases e:B=q;·subst e;rw[bd.out]at bb;cases bb;exact ef i a n (by have:=(gS.1 U).1;have:=ae.out;omega) U aa co
   exact ee B gp i a n Wm bb U aa co
  go_wp2;go_roundg (aq-(q+1));exact⟨q+1,Wm,Wm,Gn,cu,f3⟩;omega
 have ci:=kD A;have df:Xo (cl=Xd):=de.out fun B s i a n C a9 c1 c2=>ee.out B s i a n (by have:=(gS.1 C).1;have:=X.out;omega) C a9 c1 c2;go_wp2;go_ret;exact⟨Rr df.out,ar.trans cw⟩
theorem zgh(a0 a1 a2 a3 a4 a5 a6 a7 a b c d e f g h:Int)(x):(Op.equalIn 10000 44 (Xi #[U8 a0,U8 a1,U8 a2,U8 a3,U8 a4,U8 a5,U8 a6,U8 a7]) (Xi #[U8 a,U8 b,U8 c,U8 d,U8 e,U8 f,U8 g,U8 h])).run prog x=.ok (decide ([a0,a1,a2,a3,a4,a5,a6,a7]=[a,b,c,d,e,f,g,h])) x:=by
 have i:=QB 9998 a0 a1 a2 a3 a4 a5 a6 a7 a b c d e f g h x;rw[show zde ⟨a0,a1,a2,a3,a4,a5,a6,a7⟩ ⟨a,b,c,d,e,f,g,h⟩=decide ([a0,a1,a2,a3,a4,a5,a6,a7]=[a,b,c,d,e,f,g,h])from by
  rw[Bool.eq_iff_iff,zbY,decide_eq_true_iff]
  simp]at i
 exact i
theorem zlQ(h:ChW w0 k w V m)(aw:Rt m)(p:Nat)(f:Fr)(a7:m.fs[p]?=Xa f)(cf:f.f≠-1)(dd:f.r≠0)(bz)(l:List (Nat×Nat))(A:zq za8 w bz l):
  Xp prog 191 #[Xj (Xa ⟨k,0,Xb⟩),I6 (p:Int),bz] w fun e w'=>e=Xl (Xh (zfe m p f l).1)/\Chg w0 k w V (zfe m p f l).2 w':=by
 obtain⟨f2,ez,X,B,al,bs,a⟩:=zgK aw a7 cf;have a8:=mG bs;have bw:Q6 m f.f=al.size:=by unfold Q6;rw[a.ff,tN,gD,a.fl];rfl
 have hcut:zlT m f=Z4 (pgL f.p) (B:Int) al.size:=by unfold zlT;rw[bw,a.fx]
 have e0:0<=f.f:=by rw[a.ff];omega
 obtain⟨co,br⟩:∃co,al.bl[B]?=Xa co:=⟨_,gE a.bl⟩;have s:=dD h;obtain⟨q,Z⟩:=kA (zlT m f);have a5:q.length=8:=by rw[<-Z.out,hcut];unfold Z4;simp[pgL]
 have C:Xo (∀W,zc w W->Xp prog 196 #[Xj (Xa ⟨k,0,Xb⟩),Xi (frv f).toArray] W fun e w'=>e=Xl (Xi (pgc q).toArray)/\zc W w'):=dD<|fun W z=>by
  rw[<-Z.out,hcut];exact(zc4 (h.aA z) f X B al a.ff a.fx a.fl a.sz a.lo).mono fun e w' S=>⟨S.1,S.2.2⟩
 obtain⟨aj,b9⟩:=kA (zhk m p f l);have ck:Xo (∀W,zc w W->Xp prog 197 #[Xj (Xa ⟨k,0,Xb⟩),I6 (p:Int),bz] W fun e w'=>e=Xl (Xh aj)/\zc W w'):=dD<|fun W z=>by
  rw[<-b9.out];exact zlO (h.aA z) aw p f a7 e0 bz l (A.aA z)
 obtain⟨ca,ab⟩:=kA (Qm m f.f f.x);have a6:ca.length=8:=by
  rw[<-ab.out];have ei:=h.at;exact zeG ei.db.2.1 ei.dq.2.1 _ _
 have ae:Xo (∀W,zc w W->Xp prog 138 #[Xi (mL V m).toArray,I6 (X:Int),I6 (B:Int)] W fun e w'=>e=Xl (Xi (pgc ca).toArray)/\zc W w'):=dD<|fun W z=>by
  rw[<-ab.out,a.ff,a.fx];have f3:=a.sz;have f4:=a.lo;exact(zdM V m X B al co W (h.at.aA z) a.fl br Wm Wm).mono fun e w' S=>⟨S.1,S.2.2⟩
 obtain⟨T,aa⟩:=kA (decide (zbc m.fl m.cnt f.f f.x=0));have bc:Xo (∀W,zc w W->Xp prog 198 #[Xj (Xa ⟨k,0,Xb⟩),I6 (p:Int)] W fun e w'=>e=Xl (Xh T)/\Chg w0 k w V (wrM m q f.f f.x) w'):=dD<|fun W z=>by
  have eg:=zpB (h.aA z) p f a7 X B al a.ff a.fx a.fl a.sz a.lo;rw[<-hcut,Z.out,<-a.ff,<-a.fx,aa.out]at eg;exact eg.mono fun e w' S=>⟨S.1,Chg.aH z S.2.chg⟩
 have ba:Xo (∀W cn,ChW w0 k W cn (wrM m q f.f f.x)->Xp prog 199 #[Xj (Xa ⟨k,0,Xb⟩),I6 (p:Int)] W fun e w'=>(∃v,e=Xl v)/\Chg w0 k W cn (qD (wrM m q f.f f.x) p) w'):=dD<|fun W cn cq=>by
  have de:Rt (wrM m q f.f f.x):=by
   by_cases e:zbc m.fl m.cnt f.f f.x=0
   ·obtain⟨dq,et,eu,_⟩:=zmi (fun _ _=>False) aw a8 a e q
    rw[et];exact eu.rt
   have:wrM m q f.f f.x=m:=(by unfold wrM;rw[kF e]);rw[this];exact aw
  exact zif cq de p f (Rx zmj a7) cf dd
 have bb:Xo (∀W,zc w W->Xp prog 199 #[Xj (Xa ⟨k,0,Xb⟩),I6 (p:Int)] W fun e w'=>(∃v,e=Xl v)/\Chg w0 k w V (qD m p) w'):=dD<|fun W z=>(zif (h.aA z) aw p f a7 cf dd).mono fun e w' S=>⟨S.1,Chg.aH z S.2⟩;obtain⟨ai,ac⟩:=kA (decide (q=pgL f.p));obtain⟨j,a4⟩:=kA (decide (ca=q));obtain⟨U,b8⟩:=kA (zfe m p f l);have cb:Xo (U=if ai=Xd/\aj=Xc then(Xd,m)else if f.d=Xc\/j=Xd then(if T=Xc then(Xc,qD (wrM m q f.f f.x) p)else if j=Xc then(Xc,qD m p)else(Xd,m))else(Xc,qD m p)):=dD<|by
  rw[<-b8.out];unfold zfe;rw[Z.out,b9.out,ab.out,<-ac.out,<-a4.out,<-aa.out];simp only[decide_eq_false_iff_not,decide_eq_true_eq]
 have ah:Xo (T=Xd->wrM m q f.f f.x=m):=dD<|fun e=>by
  unfold wrM;rw[kF (of_decide_eq_false (aa.trans e))]
 rw[b8.out];obtain⟨cc,cj⟩:=kA (wrM m q f.f f.x);rw[cj.out]at bc ba cb ah;obtain⟨ex,-⟩:=h.at.ns;obtain⟨ey,e5,e6⟩:=h.at.bB p f a7;have ch:=dD e5;have ci:=dD e6;have ew:(p:Int)<(V.f.n:Int):=by
  have:=(gS.1 a7).1;omega
 have bt:=a.ff;have bu:=a.fx;obtain⟨bd,be,bf,bg,bh,bi,I,bj,a1⟩:=zcE q a5;obtain⟨e8,e9,ea,eb,ec,ed,ee,ef,ak⟩:=zcE ca a6;obtain⟨⟨am,an,ao,ap,aq,ar,au,av⟩,bp,bq,D,f0,f1⟩:=f;dsimp only at bt bu ac cb;have db:∀W,(Op.equalIn 10000 44 (Xi #[U8 bd,U8 be,U8 bf,U8 bg,U8 bh,U8 bi,U8 I,U8 bj]) (Xi #[U8 am,U8 an,U8 ao,U8 ap,U8 aq,U8 ar,U8 au,U8 av])).run prog W=.ok ai W:=fun W=>by
  rw[zgh];have:=ac.out;rw[a1]at this;rw[<-this];rfl
 have dc:∀W,(Op.equalIn 10000 44 (Xi #[U8 e8,U8 e9,U8 ea,U8 eb,U8 ec,U8 ed,U8 ee,U8 ef]) (Xi #[U8 bd,U8 be,U8 bf,U8 bg,U8 bh,U8 bi,U8 I,U8 bj])).run prog W=.ok j W:=fun W=>by
  rw[zgh,<-a1,<-ak,a4.out]
 rw[a1]at C;rw[ak]at ae;subst bt;subst bu;simp only[pgc,frv,mP,Yt]at C ae;clear h aw a7 cf dd A bs a a8 bw hcut e0 br a5 a6 e5 e6 ex a1 ak;have ej:=s.box.box.c 0 rfl;rw[ch.out]at ej;obtain⟨dr,ds,dt,du,dv,dw,bo,dx,dy,dz,bl,bm,bn⟩:=ci.out w (zc.refl _);dsimp only at dr ds dt du dv dw bo dx dy dz bl bm bn;go_enter func191,ntmps191;go_upto_region 2 with fail;clear dr ds dt du dv dw bo dx dy dz bl bm bn ej;obtain⟨dq,dl⟩:=kA w.heap.size;refine nW fun cd a0=>?_;have ax:=gA a0;have dp:=xP a0 dl;rw[dl.out];clear a0;have e7:∀y:zf cd,Box y.world dq [U8 am,U8 an,U8 ao,U8 ap,U8 aq,U8 ar,U8 au,U8 av,I6 bp,Xh bq,Xh D,I6 (X:Int),I6 (B:Int)]:=fun y=>dp.aA y.aA;have t:Xo (∀y:zf cd,_):=e7;clear e7;have F:=fun y=>(t y).c 0 rfl;have G:=fun y=>(t y).c 1 rfl;have H:=fun y=>(t y).c 2 rfl;have K:=fun y=>(t y).c 3 rfl;have L:=fun y=>(t y).c 4 rfl;have M:=fun y=>(t y).c 5 rfl;have N:=fun y=>(t y).c 6 rfl;have P:=fun y=>(t y).c 7 rfl;have Q:=fun y=>(t y).c 8 rfl;have R:=fun y=>(t y).c 9 rfl;have d:=fun y=>(t y).c 10 rfl;have g:=fun y=>(t y).c 11 rfl;have i:=fun y=>(t y).c 12 rfl;have E:Nonempty (zf cd):=⟨⟨_,zc.refl _⟩⟩;go_cut[30] (fun df c8=>df=Xh (!ai&&aj)/\Xo (zc cd c8))
 case first=>
  cases ai with
  |true=>
   refine jM [(2,⟨fun v=>v=Xi #[U8 bd,U8 be,U8 bf,U8 bg,U8 bh,U8 bi,U8 I,U8 bj],fun v w'=>True⟩)] z1 Kr (Sa ⟨_,rfl⟩) ?hp ?_;case hp=>
    intro c9 c;simp only[mC,nM,or_false]at c;subst c;exact fun _ _ _ _ h=>h
   iterate 2 refine ze ?_
   refine zG rfl rfl (fun w' a2 Y=>?_) (fun cg A=>?_);·refine zL.call [Xj (Xa ⟨k,0,Xb⟩),Xi #[U8 am,U8 an,U8 ao,U8 ap,U8 aq,U8 ar,U8 au,U8 av,I6 bp,Xh bq,Xh D,I6 (X:Int),I6 (B:Int)]] rfl func196 rfl rfl rfl ?_;refine(C w' (ax.trans a2)).mono ?_;rintro e a3⟨rfl,n⟩;exact⟨_,rfl,n,rfl,trivial⟩
   subst A;refine Uq ?_;iterate 4 refine ze ?_
   iterate 4 (refine Zw Kr ?_;simp only[Yd,sB,sS,sZ])
   refine ze ?_;refine z2 fun ep n Y=>?_;have a9:=dD n;clear n Y E F G H K L M N P Q R d g i;go_wp2;go_meet;exact⟨rfl,a9⟩
  |false=>
   refine jM [(2,⟨fun v=>v=Xi #[U8 bd,U8 be,U8 bf,U8 bg,U8 bh,U8 bi,U8 I,U8 bj],fun v w'=>True⟩),(10,⟨fun v=>v=Xh aj,fun v w'=>True⟩)] z1 Kr (Sb ⟨_,rfl⟩ ⟨_,rfl⟩) ?hp ?_;case hp=>
    intro c9 c;simp only[mC,nM,or_false]at c;rcases c with rfl|rfl;·exact fun _ _ _ _ h=>h
    exact fun _ _ _ _ h=>h
   iterate 2 refine ze ?_
   refine zG rfl rfl (fun w' a2 Y=>?_) (fun cg A=>?_);·refine zL.call [Xj (Xa ⟨k,0,Xb⟩),Xi #[U8 am,U8 an,U8 ao,U8 ap,U8 aq,U8 ar,U8 au,U8 av,I6 bp,Xh bq,Xh D,I6 (X:Int),I6 (B:Int)]] rfl func196 rfl rfl rfl ?_;refine(C w' (ax.trans a2)).mono ?_;rintro e a3⟨rfl,n⟩;exact⟨_,rfl,n,rfl,trivial⟩
   subst A;refine Uq ?_;iterate 7 refine ze ?_
   refine zG rfl rfl (fun w' a2 Y=>?_) (fun cg A=>?_);·refine zL.call [Xj (Xa ⟨k,0,Xb⟩),I6 (p:Int),bz] rfl func197 rfl rfl rfl ?_;refine(ck w' (ax.trans a2)).mono ?_;rintro e a3⟨rfl,n⟩;exact⟨_,rfl,n,rfl,trivial⟩
   subst A;refine Uq ?_;refine ze ?_;refine z2 fun ep n Y=>?_;have a9:=dD n;clear n Y E F G H K L M N P Q R d g i;go_wp2;go_meet;exact⟨rfl,a9⟩
 obtain⟨rfl,a9⟩:=hcut;clear E F G H K L M N P Q R d g i;obtain⟨em,cl⟩:=kA (!ai&&aj);rw[cl.out];cases em with
 |true=>
  have x:Xo (U=(Xd,m)):=dD<|by
   rw[cb.out,kE];have:=cl.out;cases ai<;>cases aj<;>simp_all
  go_wp2;go_ret;exact⟨Rr x.out,by rw[x.out];exact Chg.refl s (ax.trans a9)⟩
 |false=>
  have ay:Xo (U=if D=Xc\/j=Xd then(if T=Xc then(Xc,qD cc p)else if j=Xc then(Xc,qD m p)else(Xd,m))else(Xc,qD m p)):=dD<|by
   rw[cb.out,kF];have:=cl.out;cases ai<;>cases aj<;>simp_all
  go_upto_region 4 with fail;have b:=dD (ax.trans a9);have r:=dD (dp.aA a9);have F:=fun y:zf wc=>(r.aA y.aA).c 0 rfl;have G:=fun y:zf wc=>(r.aA y.aA).c 1 rfl;have H:=fun y:zf wc=>(r.aA y.aA).c 2 rfl;have K:=fun y:zf wc=>(r.aA y.aA).c 3 rfl;have L:=fun y:zf wc=>(r.aA y.aA).c 4 rfl;have M:=fun y:zf wc=>(r.aA y.aA).c 5 rfl;have N:=fun y:zf wc=>(r.aA y.aA).c 6 rfl;have P:=fun y:zf wc=>(r.aA y.aA).c 7 rfl;have Q:=fun y:zf wc=>(r.aA y.aA).c 8 rfl;have R:=fun y:zf wc=>(r.aA y.aA).c 9 rfl;have d:=fun y:zf wc=>(r.aA y.aA).c 10 rfl;have g:=fun y:zf wc=>(r.aA y.aA).c 11 rfl;have i:=fun y:zf wc=>(r.aA y.aA).c 12 rfl;have cr:=fun y:zf wc=>(s.box.box.aA (b.trans y.aA)).c 0 rfl;have cs:=fun y:zf wc=>(s.box.box.aA (b.trans y.aA)).c 1 rfl;have ct:=fun y:zf wc=>(s.box.box.aA (b.trans y.aA)).c 2 rfl;have cu:=fun y:zf wc=>(s.box.box.aA (b.trans y.aA)).c 3 rfl;have cv:=fun y:zf wc=>(s.box.box.aA (b.trans y.aA)).c 4 rfl;have cw:=fun y:zf wc=>(s.box.box.aA (b.trans y.aA)).c 5 rfl;have cx:=fun y:zf wc=>(s.box.box.aA (b.trans y.aA)).c 6 rfl;have cy:=fun y:zf wc=>(s.box.box.aA (b.trans y.aA)).c 7 rfl;have cz:=fun y:zf wc=>(s.box.box.aA (b.trans y.aA)).c 8 rfl;have da:=fun y:zf wc=>(s.box.box.aA (b.trans y.aA)).c 9 rfl;have bv:=fun y:zf wc=>(s.box.box.aA (b.trans y.aA)).c 10 rfl;have E:Nonempty (zf wc):=⟨⟨_,zc.refl _⟩⟩;refine jM [(8,⟨fun v=>v=Xi #[U8 e8,U8 e9,U8 ea,U8 eb,U8 ec,U8 ed,U8 ee,U8 ef],fun v w'=>True⟩),(11,⟨fun v=>v=Xi #[U8 bd,U8 be,U8 bf,U8 bg,U8 bh,U8 bi,U8 I,U8 bj],fun v w'=>True⟩)] z1 Kr (Sb ⟨_,rfl⟩ ⟨_,rfl⟩) ?hp ?_;case hp=>
   intro c9 c;simp only[mC,nM,or_false]at c;rcases c with rfl|rfl;·exact fun _ _ _ _ h=>h
   exact fun _ _ _ _ h=>h
  refine ze ?_;refine zkc (.tmp 31) ⟨k,0,Xb⟩ rfl rfl rfl rfl ?_;refine Uq ?_;iterate 6 refine ze ?_
  refine zG rfl rfl (fun w' a2 Y=>?_) (fun cg A=>?_);·refine zL.call [Xi (mL V m).toArray,I6 (X:Int),I6 (B:Int)] rfl func138 rfl rfl rfl ?_;refine(ae w' (b.trans a2)).mono ?_;rintro e a3⟨rfl,n⟩;exact⟨_,rfl,n,rfl,trivial⟩
  subst A;refine Uq ?_;iterate 2 refine ze ?_
  refine zG rfl rfl (fun w' a2 Y=>?_) (fun cg A=>?_);·refine zL.call [Xj (Xa ⟨k,0,Xb⟩),Xi #[U8 am,U8 an,U8 ao,U8 ap,U8 aq,U8 ar,U8 au,U8 av,I6 bp,Xh bq,Xh D,I6 (X:Int),I6 (B:Int)]] rfl func196 rfl rfl rfl ?_;refine(C w' (b.trans a2)).mono ?_;rintro e a3⟨rfl,n⟩;exact⟨_,rfl,n,rfl,trivial⟩
  subst A;refine Uq ?_;iterate 2 refine ze ?_
  refine z2 fun eq cp Y=>?_;have dk:=dD (b.trans cp);have es:=dD (r.aA cp);clear cp Y E F G H K L M N P Q R d g i cr cs ct cu cv cw cx cy cz da bv db dc;have di:=es.c 10 rfl;go_upto_region 5 with fail;go_cut[49] (fun dg c8=>dg=Xh (D||!j)/\c8=eq)
  case first=>
   cases D<;>cases j
   all_goals(go_wp2;go_meet;exact⟨rfl,rfl⟩)
  obtain⟨rfl,rfl⟩:=hcut;clear di;obtain⟨en,af⟩:=kA (D||!j);rw[af.out];cases en with
  |false=>
   have x:Xo (U=(Xc,qD m p)):=dD<|by
    rw[ay.out,kF];have:=af.out;cases D<;>cases j<;>simp_all
   have u:=bb.out wc dk.out;go_wp2_with fail;refine u.mono ?_;clear u;rintro e ce⟨⟨f5,rfl⟩,e3⟩;have cm:Xo (Chg w0 k w V U.2 ce):=dD<|Rx x.out e3;clear e3;go_wp2;go_ret;exact⟨Rr x.out,cm⟩
  |true=>
   have az:Xo (U=if T=Xc then(Xc,qD cc p)else if j=Xc then(Xc,qD m p)else(Xd,m)):=dD<|by
    rw[ay.out,kE];have:=af.out;cases D<;>cases j<;>simp_all
   have bx:=bc.out wc dk.out;go_wp2_with fail;refine bx.mono ?_;clear bx;rintro e ce⟨rfl,dn,I,eh,bo⟩;have cm:=dD I;have dm:=dD eh;have dj:=dD bo;have u:=ba.out ce dn I;clear I eh bo;go_upto_region 7 with fail;go_cut[58] (fun dh c8=>dh=Xh (!T&&!j)/\c8=ce)
   case first=>
    cases T<;>cases j
    all_goals(go_wp2;go_meet;exact⟨rfl,rfl⟩)
   obtain⟨rfl,rfl⟩:=hcut;obtain⟨eo,ag⟩:=kA (!T&&!j);rw[ag.out];cases eo with
   |true=>
    have x:Xo (U=(Xd,m)/\cc=m):=dD<|by
     have cq:=ag.out;have ev:=ah.out;rw[az.out];cases T<;>cases j<;>simp_all
    have ek:Xo (Chg w0 k w V U.2 wc):=dD<|by
     rw[x.1,<-x.2];exact⟨dn,cm,dm,dj⟩
    clear u;go_wp2;go_ret;exact⟨Rr x.1,ek⟩
   |false=>
    have x:Xo (U=(Xc,qD cc p)):=dD<|by
     have cq:=ag.out;have ev:=ah.out;rw[az.out];cases T<;>cases j<;>simp_all
    go_wp2_with fail;refine u.mono ?_;clear u;rintro e er⟨⟨f6,rfl⟩,e4⟩;have el:Xo (Chg w0 k w V U.2 er):=dD<|Rx x.out (Chg.step dm dj e4);clear e4;go_wp2;go_ret;exact⟨Rr x.out,el⟩
theorem zjw(h:ChW w0 k w V m)(s:Rt m)(p:Nat)(f:Fr)(g:m.fs[p]?=Xa f)(t:f.r≠0)(q)(l:List (Nat×Nat))(v:zq za8 w q l):
  Xp prog 183 #[Xj (Xa ⟨k,0,Xb⟩),I6 (p:Int),q] w fun e w'=>e=Xl (Xh (ZB m p f l).1)/\Chg w0 k w V (ZB m p f l).2 w':=by
 obtain⟨a,-⟩:=h.at.ns;obtain⟨a,a,c⟩:=h.at.bB p f g;have b:(p:Int)<(V.f.n:Int):=by
  have:=(gS.1 g).1;omega
 have b:=h.box.box.c 0 rfl;rw[a]at b;obtain⟨a,a,a,a,a,a,a,a,a,a,a,a,b⟩:=c w (zc.refl _);obtain⟨r,b⟩:=kA f.f;rw[b.out]at a;by_cases d:f.f=-1
 ·have c:=zlN h s p f g t;have j:Xo (ZB m p f l=zbR m p f):=dD (by unfold ZB;rw[kE d]);have x:(r==-1)=Xc:=by rw[<-b.out,d];rfl
  rw[j.out];obtain⟨E,a⟩:=kA (zbR m p f);rw[a.out]at c⊢;go_enter func183,ntmps183;go_wp2_with fail;refine c.mono ?_;rintro e u⟨rfl,n⟩;have i:=dD n;go_wp2;go_ret;exact⟨rfl,i⟩
 have c:=zlQ h s p f g d t q l v;have j:Xo (ZB m p f l=zfe m p f l):=dD<|by unfold ZB;rw[kF d]
 have x:(r==-1)=Xd:=by rw[<-b.out];simpa using d
 rw[j.out];obtain⟨E,a⟩:=kA (zfe m p f l);rw[a.out]at c⊢;go_enter func183,ntmps183;go_wp2_with fail;refine c.mono ?_;rintro e u⟨rfl,n⟩;have i:=dD n;go_wp2;go_ret;exact⟨rfl,i⟩
theorem zjo(n:Nat)(m:Ma)(l:List (Nat×Nat))(hi:za9 m.fs m.aB=(k:Int))(a:(Qh m).fs[k]?=Xa X):QX (n+1) m l=if(ZB (Qh m) k X l).1=Xc then ZB (Qh m) k X l else QX n (Qh m) l:=by grind[QX,tN,zI]
theorem zjn(n:Nat)(m:Ma)(l:List (Nat×Nat))(hi:za9 m.fs m.aB=-1):QX (n+1) m l=(Xd,Qh m):=by
 conv=>lhs;unfold QX
 rw[kE Wm]
theorem zfM(v:ChW w0 k w V m)(X:Rt m)(Z)(l:List (Nat×Nat))(ai:zl8 za8 (Dw k V) w Z l):
  Xp prog 168 #[Xj (Xa ⟨k,0,Xb⟩),Z] w fun e w'=>e=Xl (Xh (QW m l).1)/\Chg w0 k w V (QW m l).2 w':=by
 have aw:=dD ai;have au:=dD v;have av:=dD X;obtain⟨aj,-⟩:=v.at.ns;have Y:V.f.n<=40:=Hm X.inv.aL;obtain⟨f,z⟩:=kA (QW m l);have A:Xo (QX (2*V.f.n) m l=f):=dD<|by rw[<-z.out,aj];rfl
 rw[z.out];have L:=v.box.box.c 0 rfl;clear v ai X aj;obtain⟨c,M⟩:=kA V.f.n;rw[M.out]at L Y A;go_enter func168,ntmps168;go_wp2;clear L;go_loopg[14] (2*c) (fun b1 I wr=>∃(t:Nat)(a:Ma)(K:MaV),t<=2*c/\2*c-t<=b1/\I=I6 t/\Xo (ChW w0 k wr K a)/\Xo (Rt a)/\Xo (qR (Dw k V) w wr)/\Xo (∀p,Dw k K p->Dw k V p\/w.heap.size<=p)/\Xo (QX (2*c-t) a l=f))
 exact⟨0,m,V,nZ _,Wm,rfl,au,av,qR.refl _ _,(fun _ v=>.inl v:∀p,Dw k V p->Dw k V p\/w.heap.size<=p),A⟩;obtain⟨t,a,K,b8,b2,rfl,s,a7,a6,a2,H⟩:=hrel;by_cases b3:t<2*c
 ·have F:(t:Int)<2*(c:Int):=Wm
  obtain⟨r,B⟩:∃r,Xo (2*c-t=r+1):=⟨2*c-t-1,show _=_ by omega⟩;have P:Xo (2*c-(t+1)=r):=dD<|Hm B.out;rw[B.out]at H;obtain⟨u,_,d⟩:=zhF (fun _ _=>False) a7.out;have C:=dD u.rt;have x:=dD d;obtain⟨L,b6⟩:=s.box.box.k2;have q:=zrK s a7.parts.1;obtain⟨b7,i⟩:=kA (za9 a.fs a.aB);rw[i.out]at q x;clear u d;go_wp2_with fail;refine q.mono ?_;clear q L b6;rintro e az⟨U,rfl,ak,u⟩;have an:=dD (s.box.aA u);have N:Xo (zb q7 wr.heap.size az (U.x) (zcC a.fs a.aB)):=ak;have aq:=dD u;clear ak u;go_upto_region 5 with(refine Qf rfl 28 (.tmp 29) (.tmp 24) rfl k 0 rfl (Xi #[U.x,I6 (zd9 a.fs a.aB)]) rfl [U.x,I6 (zd9 a.fs a.aB)] rfl an (by simp[chL]) Kr (by simp[Value.oneCell']) ?_)
  intro T aa E _;obtain⟨a8,ab,al,ad⟩:=Chg.step a6 a2 (s.bN aq N E aa);have a4:Xo (ChW w0 k T a8 (Qh a)):=ab;have S:=dD al;have a0:=dD ad;clear aa E ab al ad;try simp only[Yd]
  rcases x with⟨D,_⟩|⟨p,j,D,W,af⟩
  ·have b:Xo (f=(Xd,Qh a)):=dD<|by rw[<-H.out,zjn r a l (Rx i.out D)]
   subst D;have ax:Xo (Chg w0 k w V f.2 T):=dD (by rw[b.out];exact⟨a8,a4,S,a0⟩);go_wp2;go_ret;exact⟨Rr b.out,ax⟩
  have b:Xo (f=if(ZB (Qh a) p j l).1=Xc then ZB (Qh a) p j l else QX r (Qh a) l):=dD (by rw[<-H.out,zjo r a l (Rx i.out D) W]);have n:=zjw a4 C p j W af Z l (aw T S);have h:Xo ((ZB (Qh a) p j l).1=Xd->(ZB (Qh a) p j l).2=Qh a):=dD<|fun e=>by
   rcases zkt (Qh a) p j l with⟨b4,_⟩|⟨_,b5⟩;·rw[b4]at e;cases e
   exact b5
  obtain⟨ao,ar⟩:=kA (ZB (Qh a) p j l);rw[ar.out]at n b h;subst D;have ah:(0:Int)<=(p:Int):=Wm;clear W af;go_wp2_with fail;refine n.mono ?_;clear n;rintro e b0⟨rfl,ag⟩;obtain⟨a9,ac,am,ae⟩:=Chg.step S a0 ag;have Q:=dD ac;have a5:=dD am;have a1:=dD ae;clear ag ac am ae;obtain⟨ap,G⟩:=ao;simp only at Q b h;cases ap with
  |true=>
   have g:Xo (f=(Xc,G)):=dD<|Rr b.out;have R:Xo (Chg w0 k w V f.2 b0):=dD (by rw[g.out];exact⟨a9,Q,a5,a1⟩);go_wp2;go_ret;exact⟨Rr g.out,R⟩
  |false=>
   have y:=dD<|h.out rfl;have g:Xo (QX r G l=f):=show _=_ by rw[b.out,y.out];rfl
   have ay:Xo (Rt G):=dD<|Rx y.out C.out;go_wp2;go_roundg (2*c-(t+1));exact⟨t+1,G,a9,Wm,Wm,Gn,Q,ay,a5,a1,Rx P.out g⟩;omega
 have F:¬(t:Int)<2*(c:Int):=Wm;have a3:Xo (f=(Xd,a)):=dD<|by
  rw[<-H.out,show 2*c-t=0 by omega];rfl
 have R:Xo (Chg w0 k w V f.2 wr):=dD<|by rw[a3.out];exact⟨K,s,a6,a2⟩
 go_wp2;go_ret;exact⟨Rr a3.out,R⟩
theorem zho(b:o.op=.alloc 28):(execOp a.eval o).run prog w=.ok (.value (Xj (Xa ⟨w.heap.size,0,Xb⟩))) (w.alloc (Xk #[eS,I6 0] 28)):=by simp only[execOp,b];go_simp
theorem zfK(ay:ChW w0 k w V m)(c2:Rt m)(pg:Pg)(fi ix:Int)(bl:frW (frT pg fi ix)=0)(c6)(l:List (Nat×Nat))(a4:zl8 za8 (Dw k V) w c6 l)(bn:∀x∈l,x.2<64/\∃s,m.sp[x.1]?=Xa s)
  (U:jC (zi m l).fs=0->∀bz cl,ChW w0 k bz cl (zi m l)->zl8 za8 (Dw k cl) bz c6 l->Xp prog 168 #[Xj (Xa ⟨k,0,Xb⟩),c6] bz fun e w'=>e=Xl (Xh (QW (zi m l) l).1)/\Chg w0 k bz cl (QW (zi m l) l).2 w'):
  Xp prog 140 #[Xj (Xa ⟨k,0,Xb⟩),Xi #[Xe Xg pg.b0,Xe Xg pg.b1,Xe Xg pg.b2,Xe Xg pg.b3,Xe Xg pg.b4,Xe Xg pg.b5,Xe Xg pg.b6,Xe Xg pg.b7],Xe Xf fi,Xe Xf ix,c6] w fun e w'=>e=Xl (Xm #[Xe Xf ((zda m (frT pg fi ix) l).2.1:Int),Xe Xf (if(zda m (frT pg fi ix) l).1=Xc then 0 else 10)])/\Chg w0 k w V (zda m (frT pg fi ix) l).2.2 w':=by
 have cg:=dD a4;have ej:=dD ay;have fn:=dD c2;have fm:=dD bn;have cb:=dD bl;have ae:=dD U;obtain⟨fw,fx,rfl,cv⟩:=(a4 w (qR.refl _ _)).bP;have bi:=(a4 w (qR.refl _ _)).short;obtain⟨ax,ah⟩:=kA l.length;rw[ah.out]at cg ae bi⊢;have c9:Xo (∀j,j<=ax->Rt (zi m (l.take j))/\(zi m (l.take j)).sp.length=m.sp.length):=dD<|fun j _=>by
  obtain⟨g,_⟩:=qK (l.take j) c2 (fun x a5=>bn x (Oq a5));exact⟨g.rt,g.aM.aI⟩
 have ca:Xo (∀(j:Nat)x,l[j]?=Xa x->zi m (l.take (j+1))=zlL (zi m (l.take j)) x.1 (x.2:Int)/\x.1<(zi m (l.take j)).sp.length/\((Ju (zi m (l.take j)) x.1 (x.2:Int)).kind=1->Z3 (zi m (l.take j)).fs (zi m (l.take j)).aB (Ju (zi m (l.take j)) x.1 (x.2:Int)).n (-1)=0)):=dD<|fun j x a5=>by
  obtain⟨g,_⟩:=qK (l.take j) c2 (fun x a5=>bn x (Oq a5));obtain⟨e6,s,fh⟩:=bn x (mG a5);have bq:x.1<(zi m (l.take j)).sp.length:=by rw[g.aM.aI];exact(gS.1 fh).1
  have bs:=gE bq;refine⟨?_,bq,znL g.rt bs e6⟩;rw[Of,a5,zqW g.rt bs e6];exact zc2 _ _ _
 have el:Xo (k<w.heap.size):=ay.bL k (.inl rfl);have ei:=dD ay.bL;clear ay a4 c2 bn bl cv U;have a:Xo (zda m (frT pg fi ix) l=if(z4 (zi m l) l).1=Xc then(Xc,ZI (z4 (zi m l) l).2.fs,{(z4 (zi m l) l).2 with fs:=(z4 (zi m l) l).2.fs.set (ZI (z4 (zi m l) l).2.fs) (frT pg fi ix)})else(Xd,0,(z4 (zi m l) l).2)):=show _=_ from rfl;obtain⟨ck,em⟩:=kA (zda m (frT pg fi ix) l);rw[em.out]at a⊢;obtain⟨fu,ab⟩:=kA (if ck.1=Xc then(0:Int)else 10);rw[ab.out];obtain⟨E,h,f,z,F,G,H,K⟩:=pg;simp only;obtain⟨n,c8⟩:=kA w.heap.size;obtain⟨ey,Y⟩:=kB (w.alloc (Xk #[Xe Xg E,Xe Xg h,Xe Xg f,Xe Xg z,Xe Xg F,Xe Xg G,Xe Xg H,Xe Xg K] 44));have dk:=gA Y;have f7:=xPT Y c8;have ch:Xo (_=ey):=Y;have ek:Xo (¬Dw k V n):=show¬_ from fun e=>by have:=ei.out _ e;have:=c8.out;omega
 clear Y;go_enter func140,ntmps140;go_upto_region 1 with fail;rw[ch.out,c8.out];go_wp2;go_loopg[19] ax (fun c1 df wr=>∃(j:Nat)(S:MaV),j<=ax/\ax-j<=c1/\df=Xe Xf j/\Xo (ChW w0 k wr S (zi m (l.take j)))/\Xo (qR (Dw k V) w wr)/\Xo (∀p,Dw k S p->Dw k V p\/w.heap.size<=p)/\Xo (zt wr n 44 [Xe Xg E,Xe Xg h,Xe Xg f,Xe Xg z,Xe Xg F,Xe Xg G,Xe Xg H,Xe Xg K]))
 exact⟨0,V,nZ _,Wm,rfl,ej.aA dk,qR.aA dk,(fun _ ay=>.inl ay:∀p,Dw k V p->Dw k V p\/w.heap.size<=p),f7⟩;obtain⟨j,S,az,fg,rfl,W,cj,b8,cn⟩:=hrel;by_cases aq:j<ax
 ·have bp:=kC aq
  obtain⟨x,dl⟩:∃x,Xo (l[j]?=Xa x):=⟨_,gE (Rx ah.out aq)⟩;obtain⟨_,_,av,br⟩:=(cg wr cj).bP;simp only[vJ]at av;obtain⟨ft,bh,bj⟩:=br j x dl.out;rw[<-av.1]at bh;subst bh;obtain⟨du,dv⟩:=bj wr (zc.refl _);obtain⟨dy,cp,cq⟩:=ca.out j x dl.out;have b9:=dD dy;obtain⟨bv,bw⟩:=x;simp only at du dv cp cq b9;have an:=zlP (W.aA (za wr (Xk #[Xe Xf (bv:Int),Xe Xf (bw:Int)] 95))) bv cp (bw:Int) cq;rw[<-b9.out]at an;clear av br bj dy cp cq;go_wp2_with fail;refine an.mono ?_;clear an du dv;rintro e dq⟨⟨fy,rfl⟩,X⟩;obtain⟨ex,dr,e7,dw⟩:=Chg.step cj b8 (Chg.aH (za _ _) X);have eo:=dD dr;have et:=dD e7;have ef:=dD dw;have f8:Xo (zt dq n 44 [Xe Xg E,Xe Xg h,Xe Xg f,Xe Xg z,Xe Xg F,Xe Xg G,Xe Xg H,Xe Xg K]):=show zt _ _ _ _ by
   obtain⟨_,_,fk,_⟩:=X;exact(cn.aA (za _ _)).aV fk (W.bW cn Dc Dc Dc Dc)
  clear X dr e7 dw;go_wp2;go_roundg (ax-(j+1));exact⟨j+1,ex,Wm,Wm,Gn,eo,et,ef,f8⟩;omega
 have bp:=kD aq;have ap:l.take j=l:=Yc (by rw[ah.out];omega);rw[ap]at W;have ba:Xo (Rt (zi m l)):=dD<|by have:=(c9 j az).1;rw[ap]at this;exact this
 clear ap;obtain⟨i,cd⟩:=kA (zi m l);rw[cd.out]at W ba ae a;obtain⟨L,A,al⟩:=zaw ba l;have ag:=dD L.rt;have ac:=dD A;have ai:Xo (z4 i l=if jC i.fs=0 then QW i l else(Xc,i)):=dD<|rfl;clear L A al;obtain⟨ew,ce⟩:=kA (z4 i l);rw[ce.out]at ag ac ai a;obtain⟨bb,d⟩:=ew;simp only at ag ac a;have r:Xp prog 167 #[Xi #[O S.f.a S.f.n S.f.c,Xe Xf i.aB]] wr fun e w'=>e=Xl (Xe Xf (jC i.fs:Int))/\zc wr w':=by
  obtain⟨dc,-⟩:=W.at.ns;have Q:=W.at.fs;rw[dc]at Q⊢;rw[<-zpm];exact zhI S.f.a S.f.c i.fs i.aB wr Q
 obtain⟨bv,bw⟩:=W.box.box.k2;go_upto_region 6 with fail;go_cut[39] (fun dg di=>∃D:MaV,dg=Xh (!bb)/\Xo (ChW w0 k di D d)/\Xo (qR (Dw k V) w di)/\Xo (∀p,Dw k D p->Dw k V p\/w.heap.size<=p)/\Xo (zt di n 44 [Xe Xg E,Xe Xg h,Xe Xg f,Xe Xg z,Xe Xg F,Xe Xg G,Xe Xg H,Xe Xg K]))
 case first=>
  go_wp2_with fail;refine r.mono ?_;clear r bv bw;rintro e f5⟨rfl,c0⟩;have ci:=dD (W.aA c0);have bx:=dD (cj.trans (qR.aA c0));have cm:=dD (cn.aA c0);clear c0;by_cases ak:jC i.fs=0
  ·have c5:((jC i.fs:Int)==0)=Xc:=Rr ak
   have aa:Xo ((bb,d)=QW i l):=dD (by rw[ai.out,kE ak]);have ao:=ae.out ak f5 S ci (fun a6 c3=>cg.out a6 (qR.far bx b8 c3));obtain⟨ff,af⟩:=kA (jC i.fs:Int);rw[af.out]at c5⊢;rw[<-aa.out]at ao;clear ak;go_wp2_with fail;refine ao.mono ?_;clear ao;rintro e f6⟨rfl,dp,dt,dd,dx⟩;have eu:=dD<|qR.far bx b8 dd;have eg:Xo (∀p,Dw k dp p->Dw k V p\/w.heap.size<=p):=show∀p,_ from fun p a0=>(dx p a0).elim (fun e=>b8.out p e) (fun e=>.inr (nT bx.size e));have f9:Xo (zt f6 n 44 [Xe Xg E,Xe Xg h,Xe Xg f,Xe Xg z,Xe Xg F,Xe Xg G,Xe Xg H,Xe Xg K]):=cm.aV dd (ci.bW cm Dc Dc Dc Dc);have eq:=dD dt;clear dt dd dx c5;simp only;cases bb;all_goals(go_wp2;go_meet;exact⟨dp,rfl,eq,eu,eg,f9⟩)
  have c5:((jC i.fs:Int)==0)=Xd:=Si ak;have aa:Xo ((bb,d)=(Xc,i)):=dD (by rw[ai.out,kF ak]);obtain⟨ff,af⟩:=kA (jC i.fs:Int);rw[af.out]at c5⊢;clear ak;have bk:=aa.out;simp only[pJ]at bk;obtain⟨rfl,rfl⟩:=bk;go_wp2;go_meet;exact⟨S,rfl,ci,bx,b8,cm⟩
 clear r bv bw;obtain⟨D,rfl,aj,dm,dj,a7⟩:=hcut;cases bb with
 |false=>
  rw[kF Dc]at a;have es:Xo (Chg w0 k w V ck.2.2 wc):=dD (by rw[a.out];exact⟨D,aj,dm,dj⟩);go_wp2;go_ret2;exact⟨by rw[<-ab.out,a.out];rfl,es⟩
 |true=>
  rw[kE rfl]at a;obtain⟨bd,cr,fv,dz,fe⟩:=zet (ac rfl);obtain⟨Q,cc⟩:=kA (ZI d.fs);rw[cc.out]at bd cr dz a;have cf:Xo (∀a6,zc wc a6->Xp prog 169 #[Xi #[O D.f.a D.f.n D.f.c,Xe Xf d.aB],Xi #[Xe Xg E,Xe Xg h,Xe Xg f,Xe Xg z,Xe Xg F,Xe Xg G,Xe Xg H,Xe Xg K],Xe Xf fi,Xe Xf ix] a6 fun e w'=>∃s:Sli,e=Xl (Xm #[Xi #[O s.a s.n s.c,Xe Xf d.aB],Xe Xf (Q:Int),Xe Xf 0])/\zb q7 wc.heap.size w' (O s.a s.n s.c) (d.fs.set Q (frT ⟨E,h,f,z,F,G,H,K⟩ fi ix))/\zc a6 w'):=dD<|fun a6 c3=>by
   obtain⟨dc,-⟩:=aj.at.ns;have p:=(aj.at.aA c3).fs;(try simp only[Sli.x]at p⊢);rw[dc]at p⊢;refine(zrW D.f.a D.f.c d.fs d.aB ⟨E,h,f,z,F,G,H,K⟩ fi ix a6 p ag.parts.1 cb Q bd cr).mono ?_;rintro e w'⟨n,rfl,fj,g⟩;have bt:zb q7 a6.heap.size w' n (d.fs.set Q (frT ⟨E,h,f,z,F,G,H,K⟩ fi ix)):=fj;obtain⟨fa,fb,rfl,_⟩:=bt.at.rows;exact⟨⟨fa,_,fb⟩,rfl,bt.base (bS c3),g⟩
  clear bd cr dz fe;go_upto_region 8 with fail;obtain⟨u,b⟩:=Ww fun R=>zc wc R;have am:=(b _).2 (gW _);have cw:Nonempty (zg u):=⟨⟨_,am⟩⟩;have cy:=fun y:zg u=>(aj.box.box.aA ((b _).1 y.holds)).c 0 rfl;have cz:=fun y:zg u=>(aj.box.box.aA ((b _).1 y.holds)).c 1 rfl;have d2:=fun y:zg u=>(a7.box.aA ((b _).1 y.holds)).c 0 rfl;have d3:=fun y:zg u=>(a7.box.aA ((b _).1 y.holds)).c 1 rfl;have d5:=fun y:zg u=>(a7.box.aA ((b _).1 y.holds)).c 2 rfl;have d6:=fun y:zg u=>(a7.box.aA ((b _).1 y.holds)).c 3 rfl;have d8:=fun y:zg u=>(a7.box.aA ((b _).1 y.holds)).c 4 rfl;have d9:=fun y:zg u=>(a7.box.aA ((b _).1 y.holds)).c 5 rfl;have da:=fun y:zg u=>(a7.box.aA ((b _).1 y.holds)).c 6 rfl;have db:=fun y:zg u=>(a7.box.aA ((b _).1 y.holds)).c 7 rfl;refine zao (I:=u) 17 [(8,⟨.const (Xh Xd),fun v=>∃s:Sli,v=Xm #[Xi #[O s.a s.n s.c,Xe Xf d.aB],Xe Xf (Q:Int),Xe Xf 0],fun _ v R=>∃s:Sli,v=Xm #[Xi #[O s.a s.n s.c,Xe Xf d.aB],Xe Xf (Q:Int),Xe Xf 0]/\zb q7 wc.heap.size R (O s.a s.n s.c) (d.fs.set Q (frT ⟨E,h,f,z,F,G,H,K⟩ fi ix)),fun k a9=>zc k a9,fun _=>True⟩),(13,⟨.const (Xh Xd),fun v=>∃g,v=Xj (Xa ⟨g,0,Xb⟩),fun _ v R=>∃g T,v=Xj (Xa ⟨g,0,Xb⟩)/\wc.heap.size<=g/\zt R g 28 T/\T.length=2,fun k a9=>zc k a9,fun _=>True⟩),(14,⟨.tmp 14,fun _=>True,fun eb _ R=>∃g,∃s:Sli,eb=Xj (Xa ⟨g,0,Xb⟩)/\wc.heap.size<=g/\zt R g 28 [O s.a s.n s.c,Xe Xf d.aB]/\zb q7 wc.heap.size R (O s.a s.n s.c) (d.fs.set Q (frT ⟨E,h,f,z,F,G,H,K⟩ fi ix)),fun k a9=>∃g T co,wc.heap.size<=g/\k.grownBy a9 (Xa g)/\zt k g 28 co/\zt a9 g 28 T/\T.length=2,fun _=>True⟩)] am z1 Kr Kr rfl rfl Dc (Sc ⟨_,zP,rfl⟩ ⟨_,0,rfl⟩ ⟨Xh Xc,trivial⟩) ?hp ?hpre ?hpr0 ?_;case hp=>
   intro p s j ec a0 az Z e4 eb v k a9 c ar;have P:=zB a0;have t:=zB az;clear a0 az;simp only[mC,pJ,nM,or_false]at P t;rcases P with⟨rfl,rfl⟩|⟨rfl,rfl⟩|⟨rfl,rfl⟩
   ·obtain⟨s,L,A⟩:=ar
    rcases t with⟨rfl,rfl⟩|⟨rfl,rfl⟩|⟨rfl,rfl⟩;·exact absurd rfl Z
    ·exact⟨s,L,A.aA c⟩
    obtain⟨be,T,co,fl,de,e8,e9,ea⟩:=c;exact⟨s,L,A.grown de fun g cu e=>by cases e;exact A.ne e8 Dc be cu rfl⟩
   ·obtain⟨g,T,L,A,al,X⟩:=ar
    rcases t with⟨rfl,rfl⟩|⟨rfl,rfl⟩|⟨rfl,rfl⟩;·exact⟨g,T,L,A,al.aA c,X⟩
    ·exact absurd rfl Z
    obtain⟨be,fc,co,fl,de,e8,e9,ea⟩:=c;by_cases e:g=be;·subst e;exact⟨g,_,L,A,e9,ea⟩
    exact⟨g,T,L,A,al.beside de (fun p a0=>by cases a0;exact e),X⟩
   obtain⟨g,s,L,A,al,X⟩:=ar;rcases t with⟨rfl,rfl⟩|⟨rfl,rfl⟩|⟨rfl,rfl⟩;·exact⟨g,s,L,A,al.aA c,X.aA c⟩
   ·exact⟨g,s,L,A,al.aA c,X.aA c⟩
   exact absurd rfl Z
  case hpre=>
   intro j ec p s az a0 Z k a9 c au;have t:=zB az;simp only[mC,pJ,nM,or_false]at t;rcases t with⟨rfl,rfl⟩|⟨rfl,rfl⟩|⟨rfl,rfl⟩<;>trivial
  case hpr0=>
   intro p ec a0;have P:=zB a0;simp only[mC,pJ,nM,or_false]at P;rcases P with⟨rfl,rfl⟩|⟨rfl,rfl⟩|⟨rfl,rfl⟩<;>trivial
  simp only[Yp,Yq];refine za0 rfl rfl rfl (fun en e0=>?_);go_big_quiet_op;refine e0 _ ?_;clear e0 en;refine zej (.tmp 41) ⟨k,0,Xb⟩ rfl rfl rfl rfl ?_;refine Uq ?_;iterate 6 refine Qa ?_
  refine Zq rfl rfl (fun w' q au U=>?_) (fun ed a4=>?_);·refine zL.call [Xi #[O D.f.a D.f.n D.f.c,Xe Xf d.aB],Xi #[Xe Xg E,Xe Xg h,Xe Xg f,Xe Xg z,Xe Xg F,Xe Xg G,Xe Xg H,Xe Xg K],Xe Xf fi,Xe Xf ix] rfl func169 rfl rfl rfl ?_;refine(cf w' ((b _).1 q)).mono ?_;rintro e dh⟨s,rfl,aw,c1⟩;exact⟨_,rfl,(b _).2 (((b _).1 q).trans c1),c1,⟨s,rfl⟩,s,rfl,aw⟩
  obtain⟨s,rfl⟩:=a4;refine Uq ?_;iterate 4 refine Qa ?_
  refine Zq rfl rfl (fun w' q au U=>?_) (fun ed a4=>?_);·refine zL.step (v:=Xj (Xa ⟨w'.heap.size,0,Xb⟩)) (w':=w'.alloc (Xk #[O Xb 0 0,Xe Xf 0] 28)) (zho rfl) ⟨(b _).2 (((b _).1 q).trans (za _ _)),za _ _,⟨_,rfl⟩,_,_,rfl,bS ((b _).1 q),zt.aF _ [O Xb 0 0,Xe Xf 0] _ rfl,rfl⟩
  obtain⟨bu,rfl⟩:=a4;refine Uq ?_;refine Zq rfl rfl (fun w' q au U=>?_) (fun ed a4=>?_)
  ·obtain⟨g,T,M,B,N,bm⟩:=U 13 Kr
   simp only[Value.pointer.injEq,Option.some.injEq,Addr.mk.injEq,and_true]at M;subst M;obtain⟨C,e5,aw⟩:=U 8 Kr;have cx:C=s:=by
    obtain⟨fo,fp,fq⟩:=s;obtain⟨h,f,z⟩:=C;simp only[Value.tuple.injEq,Array.mk.injEq,List.cons.injEq,Value.agg.injEq,vJ,and_true]at e5;obtain⟨rfl,rfl,rfl⟩:=e5;rfl
   subst cx;refine zL.bM 28 (.tmp 14) (.tmp 50) rfl bu rfl [O C.a C.n C.c,Xe Xf d.aB] rfl N (Rr bm) (by rw[bm];kernel_rfl) (by simp[Value.oneCell']) fun dh h f z=>?_;exact⟨(b _).2 (zd ((b _).1 q) f B),⟨bu,_,_,B,f,N,h,rfl⟩,trivial,bu,C,rfl,B,h,aw.grown f fun g cu e=>by cases e;exact aw.ne N Dc bu cu rfl⟩
  simp only[Yd];iterate 2 refine Qa ?_
  refine zb9 fun dq bg U=>?_;obtain⟨be,C,M,N,B,aw⟩:=U 14;have a8:(Value.pointer (Xa ⟨bu,0,Xb⟩):Xq)=Xj (Xa ⟨be,0,Xb⟩):=M;simp only[Value.pointer.injEq,Option.some.injEq,Addr.mk.injEq,and_true]at a8;subst a8;have ct:=(b _).1 bg;have eh:=dD ct;have dn:=dD B;have ev:=dD aw;have ee:=dD (aj.box.aA ct);clear U bg am cw cy cz d2 d3 d5 d6 d8 d9 da db ct M B N aw;obtain⟨fd,bd⟩:=dn.box.k2;go_upto_region 12 with(refine Qf rfl 28 (.tmp 60) (.tmp 57) rfl k 0 rfl (Xi #[O C.a C.n C.c,Xe Xf d.aB]) rfl [O C.a C.n C.c,Xe Xf d.aB] rfl ee (by simp[chL]) Kr (by simp[Value.oneCell']) ?_)
  intro ez bc bf _;have ep:Xo (Chg w0 k w V ck.2.2 ez):=dD<|by
   rw[a.out];exact Chg.step dm dj (aj.bN eh ev bf bc)
  clear fd bd bc bf;go_wp2;go_ret2;exact⟨by rw[<-ab.out,a.out];rfl,ep⟩
theorem zlR(ab:ChW w0 k w V m)(ac:Rt m)(pg:Pg)(R)(l:List (Nat×Nat))(a8:zl8 za8 (Dw k V) w R l)(a5:∀x∈l,x.2<64/\∃s,m.sp[x.1]?=Xa s)(bw:l≠[])(bu:l.length<=900)
  (bv:jC (zi m l).fs=0->∀z U,ChW w0 k z U (zi m l)->zl8 za8 (Dw k U) z R l->Xp prog 168 #[Xj (Xa ⟨k,0,Xb⟩),R] z fun e w'=>e=Xl (Xh (QW (zi m l) l).1)/\Chg w0 k z U (QW (zi m l) l).2 w'):
  Xp prog 114 #[Xj (Xa ⟨k,0,Xb⟩),Xi #[U8 pg.b0,U8 pg.b1,U8 pg.b2,U8 pg.b3,U8 pg.b4,U8 pg.b5,U8 pg.b6,U8 pg.b7],R] w fun e w'=>e=Xl (Xm #[I6 ((ZF m pg l).2.1:Int),I6 (if(ZF m pg l).1=Xc then 0 else 10)])/\Chg w0 k w V (ZF m pg l).2.2 w':=by
 have bk:=dD a8;have d8:=dD ab;have d7:=dD ab.bL;have aq:=zaw (qK l ac a5).1.rt l;have aj:=dD<|(qK l ac a5).1.aM.aI;have ck:Xo (∀x∈l,x.2<64/\x.1<m.sp.length):=show∀x∈l,_ from fun x a9=>by
  obtain⟨ay,s,H⟩:=a5 x a9;exact⟨ay,(gS.1 H).1⟩
 obtain⟨f,g,h,i,p,n,q,r⟩:=pg;simp only;have G:Xo (∀W,zc w W->Xp prog 140 #[Xj (Xa ⟨k,0,Xb⟩),Xi #[U8 f,U8 g,U8 h,U8 i,U8 p,U8 n,U8 q,U8 r],I6 (-1),I6 0,R] W fun e w'=>e=Xl (Xm #[I6 ((zda m (frT ⟨f,g,h,i,p,n,q,r⟩ (-1) 0) l).2.1:Int),I6 (if(zda m (frT ⟨f,g,h,i,p,n,q,r⟩ (-1) 0) l).1=Xc then 0 else 10)])/\Chg w0 k W V (zda m (frT ⟨f,g,h,i,p,n,q,r⟩ (-1) 0) l).2.2 w'):=dD<|fun W ae=>zfK (ab.aA ae) ac ⟨f,g,h,i,p,n,q,r⟩ (-1) 0 (zjp (.inl ⟨rfl,rfl⟩)) R l (fun z t=>a8 z ((qR.aA ae).trans t)) a5 bv;have a:Xo (ZF m ⟨f,g,h,i,p,n,q,r⟩ l=if(z4 (zi m l) l).1=Xc then(Xc,ZI (z4 (zi m l) l).2.fs,zbG (z4 (zi m l) l).2 (ZI (z4 (zi m l) l).2.fs) ⟨f,g,h,i,p,n,q,r⟩ Xc l)else(Xd,0,(z4 (zi m l) l).2)):=dD<|rfl;have c:Xo (zda m (frT ⟨f,g,h,i,p,n,q,r⟩ (-1) 0) l=if(z4 (zi m l) l).1=Xc then(Xc,ZI (z4 (zi m l) l).2.fs,{(z4 (zi m l) l).2 with fs:=(z4 (zi m l) l).2.fs.set (ZI (z4 (zi m l) l).2.fs) (frT ⟨f,g,h,i,p,n,q,r⟩ (-1) 0)})else(Xd,0,(z4 (zi m l) l).2)):=dD<|rfl;obtain⟨ah,ci⟩:=kA (ZF m ⟨f,g,h,i,p,n,q,r⟩ l);obtain⟨d9,cl⟩:=kA (zda m (frT ⟨f,g,h,i,p,n,q,r⟩ (-1) 0) l);rw[ci.out]at a⊢;obtain⟨dd,C⟩:=kA (if ah.1=Xc then(0:Int)else 10);rw[C.out];rw[cl.out]at c G;obtain⟨t,bs,-⟩:=aq;have F:Xo ((z4 (zi m l) l).2.sp.length=m.sp.length):=dD<|by rw[t.aM.aI,aj.out]
 have E:=dD t.rt;have D:=dD bs;obtain⟨df,dg,rfl,be⟩:=(a8 w (qR.refl _ _)).bP;have a1:=(a8 w (qR.refl _ _)).short;clear t bs ab a8 ac a5 bv be;obtain⟨cq,ar⟩:=kA (z4 (zi m l) l);rw[ar.out]at E D a c F;obtain⟨cv,bf⟩:=cq;simp only at E D a c F;have an:=dD bw;have am:=dD bu;clear bw bu;obtain⟨P,v⟩:=kA l.length;rw[v.out]at bk G a1⊢;obtain⟨H,bj⟩:=kA w.heap.size;obtain⟨cs,A⟩:=kB (w.alloc (Xk #[U8 f,U8 g,U8 h,U8 i,U8 p,U8 n,U8 q,U8 r] 44));have ai:=gA A;have cu:=xPT A bj;have au:=dD A;clear A;have b:=G.out cs ai.out;go_enter func114,ntmps114;go_upto_region 1 with fail;rw[au.out,bj.out];obtain⟨c6,c7,c8,c9,ca,cb,cc,cd⟩:=cu.box.c8;cases cv with
 |false=>
  rw[kF Dc]at a c;rw[c.out]at b;simp only[Ov,if_false]at b;go_wp2_with fail;refine b.mono ?_;clear b c6 c7 c8 c9 ca cb cc cd;rintro e z⟨rfl,t⟩;have av:Xo (Chg w0 k w V ah.2.2 z):=dD<|Rx a.out (Chg.aH ai t);clear t;go_wp2;go_ret2;exact⟨by rw[<-C.out,a.out];rfl,av⟩
 |true=>
  rw[kE rfl]at a c;obtain⟨cx,cy,de,bb,cz⟩:=zet (D rfl);obtain⟨d,al⟩:=kA (ZI bf.fs);rw[al.out]at bb c a;obtain⟨az,b8,bm⟩:=zlU E bb ⟨f,g,h,i,p,n,q,r⟩ (fun x a9=>by rw[F.out];exact ck x a9) an am.out;rw[<-bm]at a;clear bm;rw[c.out]at b;simp only[if_true]at b;obtain⟨B,ap⟩:∃B:Ma,Xo (({bf with fs:=bf.fs.set d (frT ⟨f,g,h,i,p,n,q,r⟩ (-1) 0)}:Ma)=B):=⟨_,rfl⟩;rw[ap.out]at a az b8 b;have cj:Xo (∀j,j<=P->∀x,l[j]?=Xa x->Z3 (zy B d (l.take j)).fs (zy B d (l.take j)).aB (d:Int) 1=0/\zy B d (l.take (j+1))=zhS (zy B d (l.take j)) x.1 (x.2:Int) (d:Int)/\x.1<(zy B d (l.take j)).sp.length):=dD<|fun j bd x a9=>(az j (Rx v.out bd)).2 x a9;have S:=dD b8;clear az b8 cx cy bb cz;go_wp2_with fail;refine b.mono ?_;clear b c6 c7 c8 c9 ca cb cc cd;rintro e z⟨rfl,t⟩;obtain⟨U,bx,c0,Y⟩:=Chg.aH ai t;have cm:=dD bx;have co:=dD c0;have cf:=dD Y;clear t bx c0 Y;go_wp2;go_loopg[24] P (fun d3 bh wr=>∃(j:Nat)(Q:MaV),j<=P/\P-j<=d3/\bh=I6 j/\Xo (ChW w0 k wr Q (zy B d (l.take j)))/\Xo (qR (Dw k V) w wr)/\Xo (∀N,Dw k Q N->Dw k V N\/w.heap.size<=N))
  exact⟨0,U,nZ _,Wm,rfl,cm,co,cf⟩;obtain⟨j,Q,bd,d5,rfl,y,aw,bi⟩:=hrel;by_cases L:j<P
  ·have a6:=kC L
   obtain⟨x,bl⟩:∃x,Xo (l[j]?=Xa x):=⟨_,gE (Rx v.out L)⟩;obtain⟨_,_,M,a7⟩:=(bk wr aw).bP;simp only[vJ]at M;obtain⟨dc,a0,a2⟩:=a7 j x bl.out;rw[<-M.1]at a0;subst a0;obtain⟨bp,Y⟩:=a2 wr (zc.refl _);obtain⟨b9,br,ba⟩:=cj.out j bd x bl.out;have T:=dD br;obtain⟨af,ag⟩:=x;simp only at bp Y b9 ba T;have K:=zcO (y.aA (za wr (Xk #[I6 (af:Int),I6 (ag:Int)] 95))) af ba (ag:Int) (d:Int) b9;rw[<-T.out]at K;clear M a7 a2 b9 br ba;go_wp2_with fail;refine K.mono ?_;clear K bp Y;rintro e da⟨⟨dh,rfl⟩,bt⟩;obtain⟨cr,bn,c5,bq⟩:=Chg.step aw bi (Chg.aH (za _ _) bt);have cn:=dD bn;have cp:=dD c5;have cg:=dD bq;clear bt bn c5 bq;go_wp2;go_roundg (P-(j+1));exact⟨j+1,cr,Wm,Wm,Gn,cn,cp,cg⟩;omega
  have a6:=kD L;have a4:l.take j=l:=Yc (by rw[v.out];omega);rw[a4]at y;clear a4;obtain⟨u,ao⟩:=kA (zy B d l);rw[ao.out]at y S a;have ak:Xo (∀W,zc wr W->Xp prog 121 #[Xi #[Q.f.x,I6 u.aB],I6 (d:Int),I6 (-1)] W fun e w'=>∃H:Sli,e=Xl (Xm #[Xi #[H.x,I6 u.aB],I6 0])/\zb q7 W.heap.size w' (H.x) (JD u.fs u.aB (d:Int) (-1))/\zc W w'):=dD<|fun W ae=>by
   obtain⟨d6,-⟩:=y.at.ns;have N:=(y.at.aA ae).fs;(try simp only[Sli.x]at N⊢);rw[d6]at N⊢;refine(zgF Q.f.a Q.f.c u.fs u.aB (d:Int) (-1) W N S).mono ?_;rintro e w'⟨H,rfl,bz,d2⟩;have bg:zb q7 W.heap.size w' H (JD u.fs u.aB (d:Int) (-1)):=bz;obtain⟨ay,cw,rfl,_⟩:=bg.at.rows;exact⟨⟨ay,_,cw⟩,rfl,bz,d2⟩
  obtain⟨af,ag⟩:=y.box.box.k2;have a3:=ak.out wr (zc.refl _);go_wp2_with fail;refine a3.mono ?_;clear a3 af ag;rintro e db⟨s,rfl,aa,bc⟩;have ch:=dD bc;have ax:=dD aa;have ce:=dD (y.box.aA bc);clear aa bc;go_upto_region 10 with(refine Qf rfl 28 (.tmp 46) (.tmp 42) rfl k 0 rfl (Xi #[s.x,I6 u.aB]) rfl [s.x,I6 u.aB] rfl ce (by simp[chL]) Kr (by simp[Value.oneCell']) ?_)
  intro ct X Z _;have I:=y.bN ch ax Z X;have av:Xo (Chg w0 k w V ah.2.2 ct):=dD<|Rx a.out (Chg.step aw bi I);clear I X Z;go_wp2;go_ret2;exact⟨by rw[<-C.out,a.out];rfl,av⟩
theorem qR.row{w:Xn}{a:Option Nat}(g:w.grownBy w' a):qR (fun k=>a=Xa k) w w':=⟨g.os,g.tape,g.output,g.size,fun i b c=>g.block i b (fun e=>c e.symm)⟩
theorem zi5{t:Ca}:∀{ca:List Ca},zeo ca t=Xc->zdd ca t<ca.length
 |[],h=>by cases h
 |c::l,h=>by
  unfold zdd;rw[Yl]
  split
  ·rename_i a
   have a:=of_decide_eq_true a;have b:zeo l t=Xc:=by
    unfold zeo at h⊢;rw[List.any_cons,Bool.or_eq_true]at h;rcases h with e|e;·have:=of_decide_eq_true e;omega
    exact e
   have:=zi5 b;unfold zdd at this;simp only[Yj];omega
  exact Nat.succ_pos _
theorem zig(h:ChW w0 k w V m)(s:m.ca.Pairwise fun a b=>zZ a<zZ b)(hi:∀c∈m.ca,0<=c.idx/\c.idx<100)(g:m.ca.length<=1000)(file idx:Int)(ht:0<=idx/\idx<100):
  Xp prog 111 #[Xj (Xa ⟨k,0,Xb⟩),Xe Xf file,Xe Xf idx] w fun e w'=>((zeo m.ca ⟨file,idx,0⟩=Xd/\e=Xl (Xm #[Xe Xf 0,Xh Xd]))\/(zeo m.ca ⟨file,idx,0⟩=Xc/\∀c,m.ca[zdd m.ca ⟨file,idx,0⟩]?=Xa c->e=Xl (Xm #[Xe Xf c.fr,Xh Xc])))/\zc w w':=by
 have d:=zbF h s hi g file idx ht;obtain⟨P,i⟩:=kA (zdd m.ca ⟨file,idx,0⟩);rw[i.out]at d⊢;have y:=dD h;have u:=dD h.at.ca.n;cases p:zeo m.ca ⟨file,idx,0⟩with
 |false=>
  rw[p]at d;clear p h s hi g ht;go_enter func111,ntmps111;go_wp2_with fail;refine d.mono ?_;clear d;rintro e v⟨rfl,f⟩;have q:=dD f;clear f;go_wp2;go_ret2;exact⟨.inl ⟨by first|rfl|trivial,rfl⟩,q⟩
 |true=>
  rw[p]at d;have l:P<m.ca.length:=by
   rw[<-i.out];exact zi5 p
  obtain⟨c,t⟩:∃c,Xo (m.ca[P]?=Xa c):=⟨_,gE l⟩;have n:(P:Int)<(V.ca.n:Int):=by rw[u.out];omega
  obtain⟨x,j,i⟩:=h.ca.aG Wm;have z:Xo (zb jI w0.heap.size w (O (Xa ⟨x,0,Xb⟩) m.ca.length j) m.ca):=dD<|Ry i h.ca;have r:=dD i;obtain⟨j,j⟩:=kA m.ca.length;rw[u.out,j.out]at n;clear p h s hi g ht l i;go_enter func111,ntmps111;go_wp2_with fail;refine d.mono ?_;clear d;rintro e v⟨rfl,f⟩;have q:=dD f;have d:=(y.box.aA f).box.c 9 rfl;rw[r.out,j.out]at d;have d:v.cell? ⟨x,P*3+2,Xb⟩=Xa (Xe Xf c.fr):=by
   have:=(z.aA f).one t 2 _ rfl;rw[zX,Yk,zA]at this;exact this
  clear f;go_wp2;go_ret2;refine⟨.inr ⟨by first|rfl|trivial,fun d d=>?_⟩,q⟩;rw[t.out]at d;cases d;rfl
def ZK(m:Ma)(pg:Pg)(ic wr:Bool)(q n:Nat):Bool×Nat×Ma:=
 if(Ju m q (n:Int)).kind=1/\ic=Xc/\(wr=Xd\/(zY m (Ju m q (n:Int)).n).r=1)then(Xc,(Ju m q (n:Int)).n.toNat,m)
 else if(Ju m q (n:Int)).kind=2/\wr=Xd then ZF m pg (jO m 2 (Ju m q (n:Int)).n m.sp.length)
 else ZF m pg [(q,n)]
theorem zki(a:m.sp[k]?=Xa s)(c:b<64)(q:(zh s b).kind=2):(k,b)∈jO m 2 (zh s b).n m.sp.length:=
 (zaL Dc (nR _)).2 ⟨(gS.1 a).1,c,s,a,by unfold isE;simp[q]⟩
theorem ziQ(b9:ChW w0 k w V m)(ap:Rt m)(q n:Nat)(s)(aq:m.sp[q]?=Xa s)(be:n<64)(a:Ar)(pg:Pg)(ic wr:Bool)
  (ck:∀(l:List (Nat×Nat))(M:Xq),(∀x∈l,x.2<64/\∃s,m.sp[x.1]?=Xa s)->jC (zi m l).fs=0->∀an c0,ChW w0 k an c0 (zi m l)->zl8 za8 (Dw k c0) an M l->Xp prog 168 #[Xj (Xa ⟨k,0,Xb⟩),M] an fun e w'=>e=Xl (Xh (QW (zi m l) l).1)/\Chg w0 k an c0 (QW (zi m l) l).2 w'):
  Xp prog 71 #[Xi #[Xj (Xa ⟨k,0,Xb⟩),I6 (q:Int),I6 (n:Int),I6 a.fr,I6 a.tz,Xh a.rd,Xh a.wr,Xh a.sh,I6 a.file,I6 a.base,U8 pg.b0,U8 pg.b1,U8 pg.b2,U8 pg.b3,U8 pg.b4,U8 pg.b5,U8 pg.b6,U8 pg.b7,Xh ic,Xh wr]] w fun e w'=>e=Xl (Xm #[I6 ((ZK m pg ic wr q n).2.1:Int),I6 (if(ZK m pg ic wr q n).1=Xc then 0 else 10)])/\Chg w0 k w V (ZK m pg ic wr q n).2.2 w':=by
 have ac:=dD b9;have cv:=dD<|(gS.1 aq).1;have cf:=dD b9.bL;have bu:Xo (Ju m q (n:Int)=zh s n):=show _=_ by unfold Ju;rw[Sp.aK aq,JF be]
 obtain⟨e,bt⟩:=kA (Ju m q (n:Int));have Q:Xo (zh s n=e):=dD<|by rw[<-bu.out,bt.out]
 have ay:Xo (e.kind=1->∃(B:Nat)(fr:Fr),e.n=(B:Int)/\m.fs[B]?=Xa fr):=dD<|fun ak=>by
  obtain⟨d8,fr,ch,d1,_⟩:=ap.aU aq be (Rx Q.out ak);rw[Q.out]at ch;exact⟨d8,fr,ch,d1⟩
 have aa:Xo (ZK m pg ic wr q n=if e.kind=1/\ic=Xc/\(wr=Xd\/(zY m e.n).r=1)then(Xc,e.n.toNat,m)else if e.kind=2/\wr=Xd then ZF m pg (jO m 2 e.n m.sp.length)else ZF m pg [(q,n)]):=dD<|by unfold ZK;rw[bt.out]
 have bw:Xo (∀x∈[(q,n)],x.2<64/\∃s,m.sp[x.1]?=Xa s):=dD<|fun x ar=>by rw[Xw.1 ar];exact⟨be,s,aq⟩
 have bx:Xo (e.kind=2->(∀x∈jO m 2 e.n m.sp.length,x.2<64/\∃s,m.sp[x.1]?=Xa s)/\jO m 2 e.n m.sp.length≠[]/\(jO m 2 e.n m.sp.length).length<=900):=dD<|fun ak=>by
  refine⟨fun x ar=>?_,fun cz=>?_,?_⟩;·obtain⟨a,s,d,_⟩:=zaI ap x ar;exact⟨a,s,d⟩
  ·have:=zki aq be (Rx Q.out ak)
   rw[Q.out,cz]at this;cases this
  have a7:=zcd m 2 e.n m.sp.length;have af:=ap.inv.aI;omega
 have ct:=dD ap.inv.aI;have ab:Xo (∀W M l,zc w W->zl8 za8 (Dw k V) W M l->(∀x∈l,x.2<64/\∃s,m.sp[x.1]?=Xa s)->l≠[]->l.length<=900->Xp prog 114 #[Xj (Xa ⟨k,0,Xb⟩),Xi #[U8 pg.b0,U8 pg.b1,U8 pg.b2,U8 pg.b3,U8 pg.b4,U8 pg.b5,U8 pg.b6,U8 pg.b7],M] W fun e w'=>e=Xl (Xm #[I6 ((ZF m pg l).2.1:Int),I6 (if(ZF m pg l).1=Xc then 0 else 10)])/\Chg w0 k W V (ZF m pg l).2.2 w'):=show∀W,_ from fun W M l bc al cl d2 d3=>zlR (b9.aA bc) ap pg M l al cl d2 d3 (ck l M cl);have bv:=dD<|fun W(bc:zc w W)=>zcn (b9.aA bc) 2 e.n ct.out;obtain⟨S,T,U,X,Y,Z,a0,a1⟩:=pg;simp only at ab⊢;obtain⟨a5,br⟩:=kA (ZK m ⟨S,T,U,X,Y,Z,a0,a1⟩ ic wr q n);rw[br.out]at aa⊢;obtain⟨d0,P⟩:=kA (if a5.1=Xc then(0:Int)else 10);rw[P.out];clear ap aq be ck;obtain⟨d,ce⟩:=kA w.heap.size;obtain⟨an,a2⟩:=kB (w.alloc (Xk #[Xj (Xa ⟨k,0,Xb⟩),I6 (q:Int),I6 (n:Int),I6 a.fr,I6 a.tz,Xh a.rd,Xh a.wr,Xh a.sh,I6 a.file,I6 a.base,U8 S,U8 T,U8 U,U8 X,U8 Y,U8 Z,U8 a0,U8 a1,Xh ic,Xh wr] 97));have cd:=gA a2;have cg:=xPT a2 ce;have bz:=dD a2;clear a2;have aj:=QZ (ac.aA cd) q cv (n:Int);rw[bt.out]at aj;go_enter func71,ntmps71;go_upto_region 1 with fail;rw[bz.out,ce.out];obtain⟨u0,u1,u2⟩:=cg.box.c3;go_wp2_with fail;refine aj.mono ?_;clear aj u0 u1 u2 b9;rintro c8 b8⟨rfl,ci⟩;unfold enV;go_upto_region 2 with fail;obtain⟨ao,aw⟩:=kA b8.heap.size;obtain⟨L,a3⟩:=kB (b8.alloc (Xk #[I6 e.kind,I6 e.n,Xh e.wr] 55));have ae:zc an L:=by rw[<-a3];exact ci.trans (za _ _)
 have c2:=xPT a3 aw;have bo:=dD (cg.aA ae);have bq:=dD (cd.trans ae);rw[a3,aw.out];clear a3 ae ci;obtain⟨am,u⟩:=kA (decide (e.kind=1/\ic=Xc/\(wr=Xd\/(zY m e.n).r=1)));go_cut[36] (fun c9 cc=>c9=Xh am/\Xo (zc L cc))
 case first=>
  have z:Nonempty (zf L):=⟨⟨_,zc.refl _⟩⟩;have a4:=fun y:zf L=>(c2.box.aA y.aA).c 0 rfl;have i:=fun y:zf L=>(c2.box.aA y.aA).c 1 rfl;have A:=fun y:zf L=>(bo.box.aA y.aA).c 0 rfl;have p:=fun y:zf L=>(bo.box.aA y.aA).c 18 rfl;have r:=fun y:zf L=>(bo.box.aA y.aA).c 19 rfl;by_cases b:e.kind=1
  ·have h:(e.kind==1)=Xc:=Rr b
   obtain⟨B,fr,a7,af⟩:=ay.out b;cases ic with
   |false=>
    have G:am=Xd:=(by rw[<-u.out];simp);subst G;clear b;refine jM [] z1 Kr Sm Sm ?_;iterate 2 refine ze ?_
    refine ZX rfl rfl rfl (fun R j=>?_);go_big_quiet_op;(try rw[h]);refine j _ ?_;clear j R;iterate 5 refine ze ?_
    iterate 18 (refine Zw rfl ?_;simp only[Yd,sB,sS,sZ])
    refine ze ?_;refine z2 fun c1 F _=>?_;have E:=dD F;clear F z a4 i A p r;go_wp2;go_meet;exact⟨rfl,E⟩
   |true=>
    cases wr with
    |false=>
     have G:am=Xc:=(by rw[<-u.out];simp[b]);subst G;clear b;refine jM [] z1 Kr Sm Sm ?_;iterate 2 refine ze ?_
     refine ZX rfl rfl rfl (fun R j=>?_);go_big_quiet_op;(try rw[h]);refine j _ ?_;clear j R;iterate 9 refine ze ?_
     iterate 13 (refine Zw rfl ?_;simp only[Yd,sB,sS,sZ])
     iterate 2 refine ze ?_
     refine z2 fun c1 F _=>?_;have E:=dD F;clear F z a4 i A p r;go_wp2;go_meet;exact⟨rfl,E⟩
    |true=>
     obtain⟨cs,au⟩:=kA (fr.r==1);have G:am=cs:=by
      rw[<-u.out,<-au.out,a7,zI af];simp[b];exact Bool.beq_eq_decide_eq ..|>.symm
     subst G;obtain⟨ad,a8,bd⟩:=ac.at.bB B fr af;obtain⟨d9,-⟩:=ac.at.ns;have d5:(B:Int)<(V.f.n:Int):=by
      have:=(gS.1 af).1;omega
     have d6:∀y:zf L,y.world.cell? ⟨k,0,Xb⟩=Xa (O (Xa ad) V.f.n V.f.c):=fun y=>by
      have:=(ac.box.box.aA (bq.trans y.aA)).c 0 rfl;rw[a8]at this;exact this
     have d4:=fun y:zf L=>(bd _ (bq.trans y.aA)).2.2.2.2.2.2.2.2.1;have c4:=au.out;rw[a7]at i;clear b a7 af bd a8 d9;refine jM [] z1 Kr Sm Sm ?_;iterate 2 refine ze ?_
     refine ZX rfl rfl rfl (fun R j=>?_);go_big_quiet_op;(try rw[h]);refine j _ ?_;clear j R;iterate 11 refine ze ?_
     refine zkc (.tmp 23) ⟨k,0,Xb⟩ rfl rfl rfl rfl ?_;refine Uq ?_;iterate 9 refine ze ?_
     refine ZX rfl rfl rfl (fun R j=>?_);go_big_quiet_op;(try rw[c4]);refine j _ ?_;clear j R;iterate 2 refine ze ?_
     refine z2 fun c1 F _=>?_;have E:=dD F;clear F z a4 i A p r;go_wp2;go_meet;exact⟨rfl,E⟩
  have h:(e.kind==1)=Xd:=Si b;have G:am=Xd:=by rw[<-u.out];simp[b]
  subst G;clear b;refine jM [] z1 Kr Sm Sm ?_;iterate 2 refine ze ?_
  refine ZX rfl rfl rfl (fun R j=>?_);go_big_quiet_op;(try rw[h]);refine j _ ?_;clear j R;refine ze ?_;iterate 2 (refine Zw rfl ?_;simp only[Yd,sB,sS,sZ])
  iterate 2 refine ze ?_
  iterate 18 (refine Zw rfl ?_;simp only[Yd,sB,sS,sZ])
  refine ze ?_;refine z2 fun c1 F _=>?_;have E:=dD F;clear F z a4 i A p r;go_wp2;go_meet;exact⟨rfl,E⟩
 obtain⟨rfl,E⟩:=hcut;have D:=dD (bo.aA E);have bp:=dD (c2.aA E);have K:=dD (bq.trans E);obtain⟨dd,cr⟩:=bp.box.k2;cases am with
 |true=>
  have ah:=of_decide_eq_true u.out;obtain⟨B,fr,a7,af⟩:=ay.out ah.1;have t:Xo (a5=(Xc,B,m)):=dD (by rw[aa.out,kE ah,a7,tN]);have az:Xo (Chg w0 k w V a5.2.2 wc):=dD<|Rx t.out (Chg.refl ac K.out);rw[a7]at cr;clear ah a7 af;go_wp2;go_ret2;exact⟨by rw[<-P.out,t.out];rfl,az⟩
 |false=>
  have a6:Xo (a5=if e.kind=2/\wr=Xd then ZF m ⟨S,T,U,X,Y,Z,a0,a1⟩ (jO m 2 e.n m.sp.length)else ZF m ⟨S,T,U,X,Y,Z,a0,a1⟩ [(q,n)]):=dD (by rw[aa.out,kF (of_decide_eq_false u.out)]);obtain⟨bn,N⟩:=kA (decide (e.kind=2/\wr=Xd));have u19:=D.box.c 19 rfl;go_upto_region 4 with fail;go_cut[46] (fun ca cc=>ca=Xh bn/\cc=wc)
  case first=>
   by_cases v:e.kind=2
   ·have h:(e.kind==2)=Xc:=Rr v
    have G:bn=!wr:=(by rw[<-N.out];cases wr<;>simp[v]);subst G;clear v;cases wr;all_goals(go_wp2;go_meet;exact⟨rfl,rfl⟩)
   have h:(e.kind==2)=Xd:=Si v;have G:bn=Xd:=(by rw[<-N.out];simp[v]);subst G;clear v;go_wp2;go_meet;exact⟨rfl,rfl⟩
  obtain⟨rfl,c5⟩:=hcut;subst c5;clear u19 dd cr;cases bn with
  |false=>
   have t:Xo (a5=ZF m ⟨S,T,U,X,Y,Z,a0,a1⟩ [(q,n)]):=dD (by rw[a6.out,kF (of_decide_eq_false N.out)]);obtain⟨u0,u1,u2⟩:=D.box.c3;have u10:=D.box.c 10 rfl;have u11:=D.box.c 11 rfl;have u12:=D.box.c 12 rfl;have u13:=D.box.c 13 rfl;have u14:=D.box.c 14 rfl;have u15:=D.box.c 15 rfl;have u16:=D.box.c 16 rfl;have u17:=D.box.c 17 rfl;have av:=ab.out (wc.alloc (Xk #[I6 (q:Int),I6 (n:Int)] 95)) (O (Xa ⟨wc.heap.size,0,Xb⟩) 1 1) [(q,n)] (K.trans (za _ _)) (q6.aY (base:=wc.heap.size) ⟨q8 za8 wc (q,n) _ _ rfl Dc,fun x n dg e=>by cases e;exact nR _⟩ (fun B ak=>Yh (cf B ak) (bS K))) bw Sm Sm;rw[<-t.out,P.out]at av;go_wp2_with fail;refine av.mono ?_;clear u0 u1 u2 u10 u11 u12 u13 u14 u15 u16 u17;rintro c8 de⟨rfl,cj⟩;have az:=dD<|Chg.aH (K.trans (za _ _)) cj;clear cj;go_wp2;go_ret2;exact⟨rfl,az⟩
  |true=>
   have ah:=of_decide_eq_true N.out;have t:Xo (a5=ZF m ⟨S,T,U,X,Y,Z,a0,a1⟩ (jO m 2 e.n m.sp.length)):=dD (by rw[a6.out,kE ah]);obtain⟨cm,cn,co⟩:=bx.out ah.1;have cu:Xo (∀W a9,zc w W->zb za8 W.heap.size W a9 (jO m 2 e.n m.sp.length)->True):=dD<|fun _ _ _ _=>trivial;have ai:=fun W M bc al=>ab.out W M (jO m 2 e.n m.sp.length) bc al cm cn co;rw[<-t.out,P.out]at ai;have bs:=dD ai;clear ai ah cm cn co;go_upto_region 5 with fail;obtain⟨f,c⟩:=Ww fun C=>zt C d 97 [Xj (Xa ⟨k,0,Xb⟩),I6 (q:Int),I6 (n:Int),I6 a.fr,I6 a.tz,Xh a.rd,Xh a.wr,Xh a.sh,I6 a.file,I6 a.base,U8 S,U8 T,U8 U,U8 X,U8 Y,U8 Z,U8 a0,U8 a1,Xh ic,Xh wr]/\zt C ao 55 [I6 e.kind,I6 e.n,Xh e.wr];have ag:f wc.drew:=(c _).2 ⟨D.aA (gW _),bp.aA (gW _)⟩;have ba:zc wc wc.drew:=show Below _ _ _ from(bR _ _).drew;have i:=fun y:zg f=>((c _).1 y.holds).2.box.c 1 rfl;have A:=fun y:zg f=>((c _).1 y.holds).1.box.c 0 rfl;have bf:=fun y:zg f=>((c _).1 y.holds).1.box.c 10 rfl;have bg:=fun y:zg f=>((c _).1 y.holds).1.box.c 11 rfl;have bh:=fun y:zg f=>((c _).1 y.holds).1.box.c 12 rfl;have bi:=fun y:zg f=>((c _).1 y.holds).1.box.c 13 rfl;have bj:=fun y:zg f=>((c _).1 y.holds).1.box.c 14 rfl;have bk:=fun y:zg f=>((c _).1 y.holds).1.box.c 15 rfl;have bl:=fun y:zg f=>((c _).1 y.holds).1.box.c 16 rfl;have bm:=fun y:zg f=>((c _).1 y.holds).1.box.c 17 rfl;have z:Nonempty (zg f):=⟨⟨_,ag⟩⟩;have ax:Xo (¬Dw k V d/\¬Dw k V ao):=dD<|⟨(ac.aA K).bW D Dc Dc Dc Dc,(ac.aA K).bW bp Dc Dc Dc Dc⟩;refine zN (I:=f) 14 [(8,fun a9=>∃s:Sli,a9=s.x),(9,fun a9=>a9=Xm #[I6 (a5.2.1:Int),I6 d0])] (fun C=>zc wc C) ag ba z1 Kr rfl rfl Dc (Sb ⟨_,zP,rfl⟩ ⟨_,rfl⟩) Kr ?_;simp only[Yp,Yq];iterate 8 refine zj ?_
   refine zC rfl rfl (fun a9 C=>zc wc C/\q6 za8 wc.heap.size C a9 (jO m 2 e.n m.sp.length)) (fun w' H g=>?_) (fun da al=>?_);·refine zL.call [Xj (Xa ⟨k,0,Xb⟩),I6 2,I6 e.n] rfl func115 rfl rfl rfl ?_;refine(bv w' (K.trans g)).mono ?_;rintro c8 cb⟨a9,rfl,cp,ae⟩;obtain⟨db,dc,rfl⟩:=cp.form;exact⟨_,rfl,(c _).2 ⟨((c _).1 H).1.aA ae,((c _).1 H).2.aA ae⟩,⟨⟨db,_,dc⟩,rfl⟩,g.trans ae,(cp.base (bS g)).new⟩
   obtain⟨cq,rfl⟩:=al;refine Uq ?_;refine zC rfl rfl (fun _ C=>Chg w0 k w V a5.2.2 C) (fun w' H g=>?_) (fun da al=>?_)
   ·refine zL.call [Xj (Xa ⟨k,0,Xb⟩),Xi #[U8 S,U8 T,U8 U,U8 X,U8 Y,U8 Z,U8 a0,U8 a1],cq.x] rfl func114 rfl rfl rfl ?_;refine(bs w' (cq.x) (K.trans g.1) (g.2.aY (fun B ak=>Yh (cf B ak) (bS K)))).mono ?_;rintro c8 cb⟨rfl,cw,cx,c6,cy⟩;exact⟨_,rfl,(c _).2 ⟨((c _).1 H).1.aV c6 ax.1,((c _).1 H).2.aV c6 ax.2⟩,rfl,Chg.aH (K.trans g.1) ⟨cw,cx,c6,cy⟩⟩
   subst al;refine Uq ?_;iterate 4 refine zj ?_
   refine qN fun df c3 bb=>?_;have az:=dD bb;clear c3 bb ag ba z i A bf bg bh bi bj bk bl bm;go_wp2;go_ret2;exact⟨rfl,az⟩
def jB(m:Ma)(BF:Bool×Nat×Ma)(pg:Pg)(a:Ar)(ic wr:Bool)(q n:Nat):Bool×Nat×Ma:=if(0<=a.file/\ic=Xd)/\(a.sh=Xc\/wr=Xd)then BF else ZK m pg ic wr q n
theorem zhe(P:ChW w0 k w V m)(Z:Rt m)(q n:Nat)(s)(a0:m.sp[q]?=Xa s)(I:n<64)(a:Ar)(pg:Pg)(ic wr:Bool)
  (Y:∀(l:List (Nat×Nat))(a1:Xq),(∀x∈l,x.2<64/\∃s,m.sp[x.1]?=Xa s)->jC (zi m l).fs=0->∀t U,ChW w0 k t U (zi m l)->zl8 za8 (Dw k U) t a1 l->Xp prog 168 #[Xj (Xa ⟨k,0,Xb⟩),a1] t fun e w'=>e=Xl (Xh (QW (zi m l) l).1)/\Chg w0 k t U (QW (zi m l) l).2 w')
  (i:Bool×Nat×Ma)(M:(0<=a.file/\ic=Xd)/\(a.sh=Xc\/wr=Xd)->∀W,zc w W->Xp prog 70 #[Xi #[Xj (Xa ⟨k,0,Xb⟩),I6 (q:Int),I6 (n:Int),I6 a.fr,I6 a.tz,Xh a.rd,Xh a.wr,Xh a.sh,I6 a.file,I6 a.base,U8 pg.b0,U8 pg.b1,U8 pg.b2,U8 pg.b3,U8 pg.b4,U8 pg.b5,U8 pg.b6,U8 pg.b7,Xh ic,Xh wr]] W fun e w'=>e=Xl (Xm #[I6 (i.2.1:Int),I6 (if i.1=Xc then 0 else 10)])/\Chg w0 k W V i.2.2 w'):
  Xp prog 33 #[Xi #[Xj (Xa ⟨k,0,Xb⟩),I6 (q:Int),I6 (n:Int),I6 a.fr,I6 a.tz,Xh a.rd,Xh a.wr,Xh a.sh,I6 a.file,I6 a.base,U8 pg.b0,U8 pg.b1,U8 pg.b2,U8 pg.b3,U8 pg.b4,U8 pg.b5,U8 pg.b6,U8 pg.b7,Xh ic,Xh wr]] w fun e w'=>e=Xl (Xm #[I6 ((jB m i pg a ic wr q n).2.1:Int),I6 (if(jB m i pg a ic wr q n).1=Xc then 0 else 10)])/\Chg w0 k w V (jB m i pg a ic wr q n).2.2 w':=by
 have K:Xo (∀W,zc w W->Xp prog 71 #[Xi #[Xj (Xa ⟨k,0,Xb⟩),I6 (q:Int),I6 (n:Int),I6 a.fr,I6 a.tz,Xh a.rd,Xh a.wr,Xh a.sh,I6 a.file,I6 a.base,U8 pg.b0,U8 pg.b1,U8 pg.b2,U8 pg.b3,U8 pg.b4,U8 pg.b5,U8 pg.b6,U8 pg.b7,Xh ic,Xh wr]] W fun e w'=>e=Xl (Xm #[I6 ((ZK m pg ic wr q n).2.1:Int),I6 (if(ZK m pg ic wr q n).1=Xc then 0 else 10)])/\Chg w0 k W V (ZK m pg ic wr q n).2.2 w'):=dD<|fun W a2=>ziQ (P.aA a2) Z q n s a0 I a pg ic wr Y;have p:=dD M;obtain⟨z,A,B,C,D,E,F,G⟩:=pg;simp only at K p⊢;have d:Xo (jB m i ⟨z,A,B,C,D,E,F,G⟩ a ic wr q n=if(0<=a.file/\ic=Xd)/\(a.sh=Xc\/wr=Xd)then i else ZK m ⟨z,A,B,C,D,E,F,G⟩ ic wr q n):=dD<|rfl;obtain⟨H,R⟩:=kA (jB m i ⟨z,A,B,C,D,E,F,G⟩ a ic wr q n);rw[R.out]at d⊢;obtain⟨a5,h⟩:=kA (if H.1=Xc then(0:Int)else 10);rw[h.out];clear Z a0 I Y M P;obtain⟨L,X⟩:=kA w.heap.size;obtain⟨t,u⟩:=kB (w.alloc (Xk #[Xj (Xa ⟨k,0,Xb⟩),I6 (q:Int),I6 (n:Int),I6 a.fr,I6 a.tz,Xh a.rd,Xh a.wr,Xh a.sh,I6 a.file,I6 a.base,U8 z,U8 A,U8 B,U8 C,U8 D,U8 E,U8 F,U8 G,Xh ic,Xh wr] 97));have y:=gA u;have j:=xPT u X;have T:Xo (_=t):=u;clear u;have b:=K.out t y.out;go_enter func33,ntmps33;go_upto_region 1 with fail;rw[T.out,X.out];obtain⟨a4,S⟩:=kA a.sh;rw[S.out]at j d p b;have u7:=j.box.c 7 rfl;have u8:=j.box.c 8 rfl;have u18:=j.box.c 18 rfl;have u19:=j.box.c 19 rfl;by_cases v:0<=a.file
 ·have a3:decide (0<=a.file)=Xc:=decide_eq_true v
  cases ic with
  |true=>
   have c:Xo (H=ZK m ⟨z,A,B,C,D,E,F,G⟩ Xc wr q n):=dD (by rw[d.out,kF Sm]);rw[<-c.out,h.out]at b;go_wp2_with(refine zE rfl 97 (.tmp 1) rfl L rfl j.box underlying97 rfl Kr ?_)
   refine b.mono ?_;clear b u7 u8 u18 u19;rintro Q N⟨rfl,g⟩;have r:=dD<|Chg.aH y g;clear g;go_wp2;go_ret2;exact⟨rfl,r⟩
  |false=>
   cases a4 with
   |true=>
    have c:Xo (H=i):=dD (by rw[d.out,kE (by exact⟨⟨v,rfl⟩,.inl rfl⟩)]);have f:=p.out (by exact⟨⟨v,rfl⟩,.inl rfl⟩) t y.out;rw[<-c.out,h.out]at f;clear v b;go_wp2_with(refine zE rfl 97 (.tmp 1) rfl L rfl j.box underlying97 rfl Kr ?_)
    refine f.mono ?_;clear f u7 u8 u18 u19;rintro Q N⟨rfl,g⟩;have r:=dD<|Chg.aH y g;clear g;go_wp2;go_ret2;exact⟨rfl,r⟩
   |false=>
    cases wr with
    |false=>
     have c:Xo (H=i):=dD (by rw[d.out,kE (by exact⟨⟨v,rfl⟩,.inr rfl⟩)]);have f:=p.out (by exact⟨⟨v,rfl⟩,.inr rfl⟩) t y.out;rw[<-c.out,h.out]at f;clear v b;go_wp2_with(refine zE rfl 97 (.tmp 1) rfl L rfl j.box underlying97 rfl Kr ?_)
     refine f.mono ?_;clear f u7 u8 u18 u19;rintro Q N⟨rfl,g⟩;have r:=dD<|Chg.aH y g;clear g;go_wp2;go_ret2;exact⟨rfl,r⟩
    |true=>
     have c:Xo (H=ZK m ⟨z,A,B,C,D,E,F,G⟩ Xd Xc q n):=dD (by rw[d.out,kF Sm]);rw[<-c.out,h.out]at b;go_wp2_with(refine zE rfl 97 (.tmp 1) rfl L rfl j.box underlying97 rfl Kr ?_)
     refine b.mono ?_;clear b u7 u8 u18 u19;rintro Q N⟨rfl,g⟩;have r:=dD<|Chg.aH y g;clear g;go_wp2;go_ret2;exact⟨rfl,r⟩
 have a3:decide (0<=a.file)=Xd:=decide_eq_false v;have c:Xo (H=ZK m ⟨z,A,B,C,D,E,F,G⟩ ic wr q n):=dD<|by rw[d.out,kF (by exact fun P=>v P.1.1)]
 rw[<-c.out,h.out]at b;go_wp2_with(refine zE rfl 97 (.tmp 1) rfl L rfl j.box underlying97 rfl Kr ?_)
 refine b.mono ?_;clear b u7 u8 u18 u19;rintro Q N⟨rfl,g⟩;have r:=dD<|Chg.aH y g;clear g;go_wp2;go_ret2;exact⟨rfl,r⟩
def zck(m:Ma)(pg:Pg)(fi ix:Int)(q n:Nat):Bool×Nat×Ma:=
 match m.ca.find? fun c=>decide (zZ c=zZ ⟨fi,ix,0⟩)with
 |some c=>(Xc,c.fr.toNat,if(Ju m q (n:Int)).kind=0 then Zr m c.fr.toNat q n else m)
 |none=>zac m pg fi ix [(q,n)]
theorem zkp{t:Ca}:∀{ca:List Ca},(ca.Pairwise fun a b=>zZ a<zZ b)->zeo ca t=Xc->ca.find? (fun c=>decide (zZ c=zZ t))=ca[zdd ca t]?
 |[],_,h=>by cases h
 |c::l,g,h=>by
  unfold zdd;rw[Yl,List.find?_cons]
  by_cases e:zZ c=zZ t
  ·rw[decide_eq_true e,decide_eq_false Wm]
   rfl
  rw[decide_eq_false e];have d:zeo l t=Xc:=by
   unfold zeo at h⊢;rw[List.any_cons,decide_eq_false e,Bool.false_or]at h;exact h
  have f:zZ c<zZ t:=by
   unfold zeo at d;obtain⟨j,k,m⟩:=Xt.1 d;have n:=(Ow.1 g).1 j k;have p:=of_decide_eq_true m;omega
  rw[decide_eq_true f];have i:=zkp (Ow.1 g).2 d;unfold zdd at i;simp only[if_true,Yj,Yo];exact i
theorem zpu(a b:Int)(c:Bool)(w:Xn):(Instr.field 55 (Xi #[I6 a,I6 b,Xh c]) 0).run prog w=.ok (I6 a) w:=by simp only[Instr.field,Ob,run_underlying underlying55,rA,asAgg];exact run_part_plain w (by simp[Program.plainKey,underlying3]) rfl
section
variable{α:Type}{E:Elt α}
theorem zb.cD{n cap:Nat}{l:List α}(h:zb E k w (O (Xa ⟨p,0,Xb⟩) n cap) l)(i:Nat)(hi:i<=l.length):
  ∀j u,((l.drop i).flatMap E.enc)[j]?=Xa u->w.cell? ((⟨p,i*E.k,Xb⟩:Addr).add j)=Xa u:=fun j u b=>by
 have a:(l.flatMap E.enc)[i*E.k+j]?=Xa u:=by
  conv=>lhs;rw[<-Ye i l,Xv]
  rw[aR (by rw[qB,Xs,Xz hi];exact Nat.le_add_right _ _),qB,Xs,Xz hi,Oj];exact b
 have:=h.1.cells rfl _ u a;rw[Yk,zA]at this;rw[Yk];exact this
theorem ze2(G:o.guard=Xb)(d s:Operand)(a1:o.op=.call {callee:=.builtin .copy,args:=#[d,s],argTypes:=#[E.st,E.st]})
  (base g cap n:Nat)(l:List α)(k:zb E base w (O (Xa ⟨g,0,Xb⟩) n cap) l)(i:Nat)(hi:i<l.length)(e:l.length+1<=cap)(h:(l.length+1)*E.bytes<=140737488355328)
  (c j f m:Nat)(R U:Addr)(hd:a.eval d=O (Xa R) c j)(F:R=⟨g,(i+1)*E.k,Xb⟩)(a3:a.eval s=O (Xa U) f m)(L:U=⟨g,i*E.k,Xb⟩)(q:Nat)(a2:l.length-i=q)(x:q=Nat.min f c)
  (V:∀w',zb E base w' (O (Xa ⟨g,0,Xb⟩) (l.length+1) cap) (l.take (i+1)++l.drop i)->w.grownBy w' (Xa g)->w'.heap.size=w.heap.size->wpList prog ops Q K (a.put o.dst (goInt q)) w'):wpList prog ops Q (o::K) a w:=by
 subst F L;refine wpList_plain G fun a5 Y=>?_;obtain⟨a6,Z,rest,a0,b,S,A,a4⟩:=k.block;obtain⟨a7,u,_,N,_⟩:=info_parts E.aD;have D:((l.drop i).flatMap E.enc).length=(l.length-i)*E.k:=by rw[qB,Xy]
 have z:(i+1)*E.k+(l.length-i)*E.k=(l.length+1)*E.k:=by rw[<-Yw,show i+1+(l.length-i)=l.length+1 by omega]
 have T:(l.length+1)*E.k<=cap*E.k:=Xx _ e;have p:=run_storeCells_at prog g ((i+1)*E.k) E.ty ((l.drop i).flatMap E.enc) 0 b w S (by rw[D,A];omega) (qQ E.one _);simp only[Oa]at p;have v:=run_loadCells_list (P:=prog) w ⟨g,i*E.k,Xb⟩ ((l.drop i).flatMap E.enc) (k.cD i Wm);rw[D,a2]at v;obtain⟨W,C⟩:∃W,W=w.setRow g (b.toList.take ((i+1)*E.k)++(l.drop i).flatMap E.enc++b.toList.drop ((i+1)*E.k+((l.drop i).flatMap E.enc).length)).toArray:=⟨_,rfl⟩;rw[<-C]at p;have y:(Builtin.copy_ #[E.st,E.st] o.type #[O (Xa ⟨g,(i+1)*E.k,Xb⟩) c j,O (Xa ⟨g,i*E.k,Xb⟩) f m]).run prog w=.ok (goInt q) W:=by
  simp[Builtin.copy_,run_underlying E.bI,Builtin.lenOf,Builtin.firstCells,sizeOf,typeInfo,u,N,<-x,v,p]
 unfold Oper.wp;simp[execOp,a1,resolve,invoke,builtin,hd,a3,y,Result.andThen];have hlen:(l.take (i+1)++l.drop i).length=l.length+1:=by rw[lA,Xs,Xy];omega
 have t:b.toList.length=cap*E.k:=Si A;have H:(i+1)*E.k<=l.length*E.k:=Xx _ hi;have I:l.length*E.k<=cap*E.k:=Xx _ rest;have M:b.toList.take ((i+1)*E.k)=(l.take (i+1)).flatMap E.enc:=by
  have X:(b.toList.take (l.length*E.k)).take ((i+1)*E.k)=b.toList.take ((i+1)*E.k):=by rw[Oc,Xz H]
  rw[<-X,a4];conv=>lhs;rw[<-Ye (i+1) l,Xv]
  exact Yf (by rw[qB,Xs,Xz hi])
 have B:(b.toList.take ((i+1)*E.k)).length=(i+1)*E.k:=by rw[Xs,t];omega
 have r:=zb.mk' (E:=E) (base:=base) (w:=W) (g:=g) (cap:=cap) (l:=l.take (i+1)++l.drop i) Z (by rw[C];exact setRow_heap w g b _ E.ty _ S) (by rw[hlen];exact e) a0 (by
  simp only[Yu,lA,B,D,Xy,t]
  omega) (by
  rw[hlen,Xv,<-M,<-z];have:(b.toList.take ((i+1)*E.k)++(l.drop i).flatMap E.enc).length=(i+1)*E.k+(l.length-i)*E.k:=by rw[lA,B,D]
  simp only;rw[Yf this]) (by rw[hlen];exact h)
 rw[hlen]at r;exact Y _ _ (V _ r (by rw[C];exact ZS _ _ _) (by rw[C];simp[World.setRow]))
end
theorem zgy{base n c:Nat}{a:Option Addr}{w:Xn}{l:List Ca}(b:zb jI base w (O a n c) l)(f:l.length<=1000)(x d)(h:Nat)(t:zq jI w (O d 1 h) [x])(r:base<=w.heap.size):
  Xp prog 141 #[O a n c,I6 (n:Int),O d 1 h] w fun e w'=>∃(d:Option Addr)(h:Nat),e=Xl (O d (n+1) h)/\zb jI base w' (O d (n+1) h) (l++[x])/\w.grownBy w' (O a n c).ownBlock/\(∀g,(O d (n+1) h).ownBlock=Xa g->(O a n c).ownBlock=Xa g\/w.heap.size<=g):=by
 have m:=dD b.at.n;have i:n<=1000:=Hm m.out;have s:=dD b;have u:=dD t;have k:=dD r;have p:(n:Int)<=(c:Int):=by
  rcases b.1.2 with⟨i,_⟩|⟨j,q,q,i,_,_,q,_⟩;·cases i;omega
  cases i;omega
 clear b t r f;by_cases i:c=n
 ·rw[i]at s⊢;clear i p;go_enter func141,ntmps141;go_wp2_with(at_builtin;refine QK (E:=jI) rfl (.tmp 23) (.tmp 24) rfl base _ l rfl s _ [x] rfl u.out ?qb k.out ?_)
  case qb=>
   show(l.length+1)*24<=_;have:=m.out;omega
  intro y w' b j f;obtain⟨d,h,rfl⟩:=b.form;have r:Xo ((l++[x]).length=n+1):=dD (by rw[lA,Yi,m.out]);rw[r.out]at b f⊢;have t:=dD b;have q:=dD j;have p:=dD f;clear b j f;go_wp2;go_ret;exact⟨d,h,rfl,t,q,p⟩
 have v:¬n=c:=fun e=>i e.symm;go_enter func141,ntmps141;go_wp2_with(at_builtin;refine QK (E:=jI) rfl (.tmp 23) (.tmp 24) rfl base _ l rfl s _ [x] rfl u.out ?qb k.out ?_)
 case qb=>
  show(l.length+1)*24<=_;have:=m.out;omega
 intro y w' b j f;obtain⟨d,h,rfl⟩:=b.form;have r:Xo ((l++[x]).length=n+1):=dD<|by rw[lA,Yi,m.out]
 rw[r.out]at b f⊢;have t:=dD b;have q:=dD j;have p:=dD f;clear b j f;go_wp2;go_ret;exact⟨d,h,rfl,t,q,p⟩
theorem zjL{g d:Nat}{w:Xn}{k:TypeId}{cur a:Array Xq}(b:w.heap[d]?=Xa (Xk a k (0,0)))(l:w.heap[g]?=Xa (Xk cur 108 (0,0)))(f:d≠g)(m:cur.size≠0)(j i c lb h:Nat):
  (callFunc 170 #[O (Xa ⟨d,0,Xb⟩) j i,O (Xa ⟨g,c,Xb⟩) lb h]).run prog w=.ok (.value (Xh Xd)) w:=by
 rw[run_callFunc_extern func170 Kr Kr Kr (e:=Extern.SlicesOverlaps.overlaps #[38,38] #[4]) Kr,
  Lib.run_overlaps_apart w 38 4 108 underlying38 3 Tryz.sizeOf108 ⟨d,0,Xb⟩ ⟨g,c,Xb⟩ j i lb h f k 108 a.size cur.size (by simp[World.shape?,b]) (by simp[World.shape?,l]) m (by simp[World.frozen?,b]) (by simp[World.frozen?,b])]
 rfl
theorem zhU{g i d s:Nat}{l:List Ca}(n:zb jI k w (O (Xa ⟨g,0,Xb⟩) b p) l)(h:b<=1000)(hi:i<b)(j:b+1<=p)(x){m:TypeId}(f:w.heap[d]?=Xa (Xk Y m (0,0)))(a:d≠g)
  (y:Zt w ⟨d,0,Xb⟩ (([x]:List Ca).flatMap jI.enc)):
  Xp prog 141 #[O (Xa ⟨g,0,Xb⟩) b p,I6 (i:Int),O (Xa ⟨d,0,Xb⟩) 1 s] w fun e w'=>e=Xl (O (Xa ⟨g,0,Xb⟩) (b+1) p)/\zb jI k w' (O (Xa ⟨g,0,Xb⟩) (b+1) p) (l.take i++([x]++l.drop i))/\w.grownBy w' (Xa g):=by
 obtain⟨v,_,c,j,Y,h,r,_⟩:=n.block;have Y:p<=9223372036854775807:=by simpa[maxLen]using j
 have Y:=dD v;have q:∀m u t,(callFunc 170 #[O (Xa ⟨d,0,Xb⟩) 1 s,O (Xa ⟨g,m,Xb⟩) u t]).run prog w=.ok (.value (Xh Xd)) w:=fun m u t=>zjL f h a (by rw[r];show p*3≠0;omega) 1 s m u t;have m:=dD n;have A:=dD y;have t:Xo (d<w.heap.size/\d≠g):=⟨(aS.1 f).1,a⟩;clear n y v c j h r f a;have y:¬((i:Int)=(b:Int)):=Wm;have z:¬((p:Int)<(b:Int)+1):=Wm;have n:(i:Int)<=(b:Int):=Wm;have c:(i:Int)+1<=(b:Int)+1:=Wm;have r:¬(p=i+1):=Wm;have n:(i:Int)<=(b:Int)+1:=Wm;have n:¬(p=i):=Wm;have u:((i:Int)+1).toNat=i+1:=Wm;have v:((b:Int)+1).toNat=b+1:=Wm;have n:(b:Int)+1<=(p:Int):=Wm;go_enter func141,ntmps141;go_wp2_with(simp only[q])
 have a:Nonempty (zf w):=⟨⟨_,zc.refl _⟩⟩;refine jD 8 [] z1 Kr rfl rfl Dc Sm Sm ?_;simp only[Yp,Yq];iterate 8 refine ze ?_
 refine z2 fun w' h _=>?_;have n:=dD (m.aA h);have m:=dD h;obtain⟨f,j⟩:=kA (l.length-i);clear h a q;go_wp2_with(refine ze2 (E:=jI) rfl (.tmp 73) (.tmp 76) rfl k g p b l n i (Hm Y.out) (Hm Y.out) (by show(_+1)*24<=_;have:=Y.out;omega) (b-i) (p-(i+1)) (b+1-i) (p-i) _ _ rfl rfl rfl rfl f j (by have:=Y.out;have:=j.out;show f=min _ _;omega) ?_)
 intro C a h _;rw[<-Y.out]at a;obtain⟨j,n⟩:=kA (l.take (i+1)++l.drop i);rw[n.out]at a;have f:Xo (j.length=b+1):=dD<|by rw[<-n.out,lA,Xs,Xy];have:=Y.out;omega
 have B:=dD a;have q:=dD<|zbC m h;have m:Xo (Zt C ⟨d,0,Xb⟩ (([x]:List Ca).flatMap jI.enc)):=dD<|fun D F C=>q.cell (A D F C) (fun e=>t.2 (by rw[Yk]at e;exact Option.some.inj e));clear a h u v c r y z;try simp only[Yd,sB,sS,sZ]
 go_wp2_with(refine Qp (E:=jI) rfl (.tmp 80) (.tmp 81) rfl k _ j B g rfl i (b+1-i) (p-i) _ rfl rfl ⟨d,0,Xb⟩ 1 s rfl [x] (by show 1=min _ _;omega) m (by rw[f.out];show i+1<=_;omega) ?_)
 intro a d a _;have h:Xo (j.take i++([x]++j.drop (i+[x].length))=l.take i++([x]++l.drop i)):=dD<|by
  rw[<-n.out,Yx (by rw[Xs];have:=Y.out;omega),Oc,Xz Wm,Yi,List.drop_left' (by rw[Xs];have:=Y.out;omega)]
 have Y:=dD<|h.out▸d;have n:=dD<|Zc q a;clear d a;go_wp2;go_ret;exact⟨rfl,Y,n⟩
section
variable{α:Type}{E:Elt α}
theorem zdb{n cap:Nat}{l:List α}(r)(d:zb E k w (O (Xa ⟨p,0,Xb⟩) n cap) l)(i g:Nat)(hi:i<=l.length)(t:0<g)(base:cap<i+g)(m:(i+g)*E.bytes<=140737488355328):
  ∃C w',(Builtin.append_ #[E.st,3] r #[O (Xa ⟨p,0,Xb⟩) i cap,I6 (g:Int)]).run prog w=.ok (O (Xa ⟨w.heap.size,0,Xb⟩) (i+g) C) w'/\zb E w.heap.size w' (O (Xa ⟨w.heap.size,0,Xb⟩) (i+g) C) (l.take i++Xr g E.zero)/\zc w w'/\i+g<=C:=by
 obtain⟨q,a,j,e,f⟩:=info_parts E.aD;have b:(i+g)*1<=(i+g)*E.bytes:=Nat.mul_le_mul_left _ (nT E.pos E.few);have b:g*E.bytes<=(i+g)*E.bytes:=Xx _ Wm;have c:((l.take i).flatMap E.enc).length=i*E.k:=by rw[qB,Xs,Xz hi]
 have b:(Builtin.firstCells q.size i (O (Xa ⟨p,0,Xb⟩) i cap)).run prog w.drew=.ok ((l.take i).flatMap E.enc).toArray w.drew:=by
  rw[e];exact run_firstCells_some w.drew E.k i ⟨p,0,Xb⟩ i cap ((l.take i).flatMap E.enc) c (fun u v h=>by
   have s:(l.flatMap E.enc)[u]?=Xa v:=by
    conv=>lhs;rw[<-Ye i l,Xv]
    rw[List.getElem?_append_left (gS.1 h).1];exact h
   exact d.1.cells rfl _ v s)
 have h:=Lib.run_append_grow_zeros w E.st 3 r E.ty q E.zv .i64 .i64 E.bI underlying3 a j (Xa ⟨p,0,Xb⟩) i cap ((l.take i).flatMap E.enc) b g t (Rx e E.pos) base Wm (by rw[f];omega) (by rw[f];exact growslice_fits base m);have a:∀x,Builtin.zeroCells E.zv.cells x=madeCells E.zv.cells (x*E.k):=fun x=>by
  unfold Builtin.zeroCells madeCells;rw[ziF E]
 rw[a,a]at h;have b:=grownCap_ge w (i+g) cap E.ty;have a:=grownCap_le_maxLen w (i+g) cap E.ty (q3 Wm);obtain⟨G,d⟩:=kB (grownCap w (i+g) cap E.ty);rw[d]at h b a;have hlen:(l.take i++Xr g E.zero).length=i+g:=by rw[lA,Xs,Xz hi,lR]
 refine⟨G,_,h,?_,(show zc w _ from((bR _ _).drew)).trans (za _ _),b⟩
 have d:=zb.mk' (E:=E) (base:=w.heap.size) (g:=w.heap.size) (cap:=G) (l:=l.take i++Xr g E.zero) (w:=w.drew.alloc (Xk (((l.take i).flatMap E.enc).toArray++madeCells E.zv.cells (g*E.k)++madeCells E.zv.cells ((G-(i+g))*E.k)) E.ty)) (cur:=((l.take i).flatMap E.enc).toArray++madeCells E.zv.cells (g*E.k)++madeCells E.zv.cells ((G-(i+g))*E.k)) (nR _) (by
  show(w.heap.push _)[w.heap.size]?=_
  simp) (by rw[hlen];exact b) a (by
  rw[Oy,Oy,size_madeCells,size_madeCells,Yu,c,<-Yw,<-Yw];congr 1
  omega) (by
  rw[hlen,Ot,Ot,zdu E,zdu E,Xv];refine Yf ?_;rw[lA,c,qB,lR,<-Yw]) (by rw[hlen];exact m)
 rw[hlen]at d;exact d
theorem zbm(d:o.guard=Xb)(s x:Operand)(y:o.op=.call {callee:=.builtin .append,args:=#[s,x],argTypes:=#[E.st,3]})
  {base g n cap:Nat}{l:List α}(b:zb E base w (O (Xa ⟨g,0,Xb⟩) n cap) l)(i k:Nat)(z:a.eval s=O (Xa ⟨g,0,Xb⟩) i cap)(f:Int)(A:a.eval x=I6 f)(e:f=(k:Int))(hi:i<=l.length)(v:0<k)(u:cap<i+k)(t:(i+k)*E.bytes<=140737488355328)(N:Nat)(r:i+k=N)
  (h:∀C w',zb E w.heap.size w' (O (Xa ⟨w.heap.size,0,Xb⟩) N C) (l.take i++Xr k E.zero)->zc w w'->N<=C->wpList prog ops Q K (a.put o.dst (O (Xa ⟨w.heap.size,0,Xb⟩) N C)) w'):wpList prog ops Q (o::K) a w:=by subst r e;refine wpList_plain d fun rest q=>?_;obtain⟨C,w',c,j,m,p⟩:=zdb o.type b i k hi v u t;unfold Oper.wp execOp;simp only[y,resolve,invoke,builtin,Ob,Ox,rA,Oi,mP,Yt,z,A,c];exact q _ _ (h C w' j m p)
end
theorem ze9{i m q:Nat}{l:List Ca}(a:zb jI k w (O (Xa ⟨p,0,Xb⟩) b b) l)(n:b<=1000)(hi:i<b)(x)
  (d:Zt w ⟨m,0,Xb⟩ (([x]:List Ca).flatMap jI.enc)):
  Xp prog 141 #[O (Xa ⟨p,0,Xb⟩) b b,I6 (i:Int),O (Xa ⟨m,0,Xb⟩) 1 q] w fun e w'=>∃(n:Nat)(c:Nat),e=Xl (O (Xa ⟨n,0,Xb⟩) (b+1) c)/\zb jI w.heap.size w' (O (Xa ⟨n,0,Xb⟩) (b+1) c) (l.take i++([x]++l.drop i))/\zc w w'/\w.heap.size<=n:=by
 have c:=dD a.at.n;have r:=dD a;have t:=dD d;have n:=(a.lt p rfl).2;have f:=dD n;clear a d n;have a:¬((i:Int)=(b:Int)):=Wm;have a:(b:Int)<(b:Int)+1:=Wm;have a:(i:Int)<=(b:Int):=Wm;obtain⟨base,j⟩:=kA w.heap.size;go_enter func141,ntmps141;go_wp2_with(at_builtin;refine zbm (E:=jI) rfl (.tmp 34) (.tmp 39) rfl r i (b+1-i) rfl ((b:Int)+1-(i:Int)) Gn Wm (Hm c.out) Wm Wm (by show(_)*24<=_;omega) (b+1) Wm ?_)
 intro C a a h s;rw[j.out]at a⊢;obtain⟨d,n⟩:=kA (l.take i++Xr (b+1-i) jI.zero);rw[n.out]at a;have g:Xo (d.length=b+1):=dD<|by rw[<-n.out,lA,Xs,lR];have:=c.out;omega
 have y:=dD a;have u:=dD h;have v:=dD s;have f:=dD<|t.aA h;clear a h;have a:¬(C=i):=Wm;have a:(i:Int)<=(b:Int)+1:=Wm;have a:(b:Int)+1<=(C:Int):=Wm;clear s;go_wp2_with(refine Qp (E:=jI) rfl (.tmp 43) (.tmp 44) rfl base _ d y base rfl i (b+1-i) (C-i) _ rfl rfl ⟨m,0,Xb⟩ 1 q rfl [x] (by show 1=min _ _;omega) f (by rw[g.out];show i+1<=_;omega) ?_)
 intro t f q _;obtain⟨h,a⟩:=kA (d.take i++(x::d.drop (i+1)));rw[a.out]at f;have m:Xo (h.length=b+1):=dD<|by rw[<-a.out,lA,Yj,Xs,Xy,g.out];omega
 have y:=dD f;have s:Xo (zc w t):=show zc _ _ from zd u q (Hm j.out);clear f q;have g:=dD (r.aA s);have f:¬(C=i+1):=Hm v.out;have f:¬(b=i):=Wm;have f:(i:Int)+1<=(b:Int)+1:=Wm;have f:((i:Int)+1).toNat=i+1:=Wm;try simp only[Yd,sB,sS,sZ]
 go_wp2_with fail;have r:Nonempty (zf t):=⟨⟨_,zc.refl _⟩⟩;refine jD 8 [] z1 Kr rfl rfl Dc Sm Sm ?_;simp only[Yp,Yq];iterate 8 refine ze ?_
 refine z2 fun f f _=>?_;have u:=dD (y.aA f);have q:=dD (g.aA f);have t:=dD<|s.trans f;clear f r;obtain⟨r,g⟩:=kA (b-i);have f:Xo ((l.drop i).length=r):=dD<|by rw[Xy,<-c.out,g.out]
 go_wp2_with(refine Qp (E:=jI) rfl (.tmp 50) (.tmp 53) rfl base _ h u base rfl (i+1) (b-i) (C-(i+1)) _ rfl rfl ⟨p,i*3,Xb⟩ (b-i) (b-i) rfl (l.drop i) (by rw[f.out];have:=g.out;show r=min _ _;omega) (q.cD i (Hm c.out)) (by rw[m.out,f.out];have:=g.out;omega) ?_)
 intro r f g _;have q:Xo (h.take (i+1)++(l.drop i++h.drop (i+1+(l.length-i)))=l.take i++([x]++l.drop i)):=dD<|by
  have s:h.drop (i+1+(l.length-i))=[]:=Ok (by rw[m.out];have:=c.out;omega);have m:d.take i=l.take i:=by
   rw[<-n.out,Yx (by rw[Xs];have:=c.out;omega),Oc,Nat.min_self]
  have n:h.take (i+1)=l.take i++[x]:=by
   rw[<-a.out,m,show l.take i++(x::d.drop (i+1))=l.take i++([x]++d.drop (i+1))from rfl,<-Ys,Yf (by rw[lA,Xs,Yi];have:=c.out;omega)]
  rw[s,n,Yz,Ys]
 rw[q.out]at f;have n:=dD f;have a:Xo (zc w r):=show zc _ _ from zd t g (Hm j.out);clear f g;go_wp2;go_ret;exact⟨base,C,rfl,Rx j.out n,a,Hm j.out⟩
theorem zln{base n c:Nat}{a:Option Addr}{w:Xn}{l:List Ca}(b:zb jI base w (O a n c) l)(j:l.length<=1000)(i:Nat)(hi:i<=l.length)(x:Ca)(f u:Nat)(t:w.heap[f]?=Xa (Xk (jI.enc x).toArray 108 (0,0)))(y:(O a n c).ownBlock≠Xa f)(C:base<=w.heap.size):
  Xp prog 141 #[O a n c,I6 (i:Int),O (Xa ⟨f,0,Xb⟩) 1 u] w fun e w'=>∃(m:Option Addr)(h:Nat),e=Xl (O m (n+1) h)/\zb jI base w' (O m (n+1) h) (l.take i++([x]++l.drop i))/\w.grownBy w' (O a n c).ownBlock/\(∀g,(O m (n+1) h).ownBlock=Xa g->(O a n c).ownBlock=Xa g\/w.heap.size<=g):=by
 have L:n=l.length:=b.at.n;have A:Zt w ⟨f,0,Xb⟩ (([x]:List Ca).flatMap jI.enc):=fun N P F=>by
  rw[List.flatMap_cons,List.flatMap_nil,Yz]at F;rw[Yk,zA];have G:zt w f 108 (jI.enc x):=t;exact G.box.c N F
 by_cases K:i=n
 ·subst K;rw[L]at b⊢;refine(zgy b j x (Xa ⟨f,0,Xb⟩) u ⟨⟨Xa ⟨f,0,Xb⟩,u,rfl,fun e=>(by cases e),fun Q M=>(by cases M;exact A)⟩,by show 1*24<=_;omega⟩ C).mono ?_;rintro e w'⟨m,h,p,q,d,v⟩;refine⟨m,h,p,?_,d,v⟩;rw[List.take_length,List.drop_length,Yz];exact q
 have s:i<n:=Wm;obtain⟨g,h,E⟩:=b.aG Wm;simp only[vJ]at E;obtain⟨rfl,_,rfl⟩:=E;have z:f≠g:=fun e=>y (Rr e);obtain⟨_,_,D,_⟩:=b.block;by_cases k:n+1<=c
 ·refine(zhU b Wm s k x t z A).mono ?_
  rintro e w'⟨p,q,d⟩;exact⟨_,_,p,q,d,fun B r=>.inl r⟩
 have H:c=n:=Wm;subst H;refine(ze9 b Wm s x A).mono ?_;rintro e w'⟨m,h,p,q,d,v⟩;exact⟨_,_,p,q.base C,⟨Below.os d,Below.tape d,Below.output d,bS d,fun B r _=>Below.block d B r⟩,fun B r=>.inr (by cases r;exact v)⟩
theorem zjv(c0:ChW w0 k w V m)(aw:Rt m)(pg:Pg)(fi ix:Nat)(Z:frW (frT pg (fi:Int) (ix:Int))=0)(c2:ix<100)(au)(l:List (Nat×Nat))(aq:zl8 za8 (Dw k V) w au l)(am:∀x∈l,x.2<64/\∃s,m.sp[x.1]?=Xa s)(cr:l.length<=900)
  (cs:jC (zi m l).fs=0->∀B a8,ChW w0 k B a8 (zi m l)->zl8 za8 (Dw k a8) B au l->Xp prog 168 #[Xj (Xa ⟨k,0,Xb⟩),au] B fun e w'=>e=Xl (Xh (QW (zi m l) l).1)/\Chg w0 k B a8 (QW (zi m l) l).2 w'):
  Xp prog 112 #[Xj (Xa ⟨k,0,Xb⟩),Xi #[U8 pg.b0,U8 pg.b1,U8 pg.b2,U8 pg.b3,U8 pg.b4,U8 pg.b5,U8 pg.b6,U8 pg.b7],I6 (fi:Int),I6 (ix:Int),au] w fun e w'=>e=Xl (Xm #[I6 ((zac m pg (fi:Int) (ix:Int) l).2.1:Int),I6 (if(zac m pg (fi:Int) (ix:Int) l).1=Xc then 0 else 10)])/\Chg w0 k w V (zac m pg (fi:Int) (ix:Int) l).2.2 w':=by
 have cf:=dD aq;have ec:=dD c0.bL;have bh:=zaw (qK l aw am).1.rt l;have bb:=dD<|(qK l aw am).1.aM.aI;have dl:Xo (∀x∈l,x.2<64/\x.1<m.sp.length):=show∀x∈l,_ from fun x ar=>by
  obtain⟨br,s,b⟩:=am x ar;exact⟨br,(gS.1 b).1⟩
 obtain⟨n,q,r,t,u,v,y,z⟩:=pg;simp only;have W:=dD<|fun dy(ct:zc w dy)=>zfK (c0.aA ct) aw ⟨n,q,r,t,u,v,y,z⟩ (fi:Int) (ix:Int) Z au l (fun B A=>aq B ((qR.aA ct).trans A)) am cs;have c:Xo (zac m ⟨n,q,r,t,u,v,y,z⟩ (fi:Int) (ix:Int) l=if(z4 (zi m l) l).1=Xc then(Xc,ZI (z4 (zi m l) l).2.fs,zy (ZC (z4 (zi m l) l).2 (ZI (z4 (zi m l) l).2.fs) ⟨n,q,r,t,u,v,y,z⟩ Xc Xd (fi:Int) (ix:Int)) (ZI (z4 (zi m l) l).2.fs) l)else(Xd,0,(z4 (zi m l) l).2)):=dD<|rfl;have h:Xo (zda m (frT ⟨n,q,r,t,u,v,y,z⟩ (fi:Int) (ix:Int)) l=if(z4 (zi m l) l).1=Xc then(Xc,ZI (z4 (zi m l) l).2.fs,{(z4 (zi m l) l).2 with fs:=(z4 (zi m l) l).2.fs.set (ZI (z4 (zi m l) l).2.fs) (frT ⟨n,q,r,t,u,v,y,z⟩ (fi:Int) (ix:Int))})else(Xd,0,(z4 (zi m l) l).2)):=dD<|rfl;obtain⟨ax,di⟩:=kA (zac m ⟨n,q,r,t,u,v,y,z⟩ (fi:Int) (ix:Int) l);obtain⟨ed,dn⟩:=kA (zda m (frT ⟨n,q,r,t,u,v,y,z⟩ (fi:Int) (ix:Int)) l);rw[di.out]at c⊢;obtain⟨ej,Q⟩:=kA (if ax.1=Xc then(0:Int)else 10);rw[Q.out];rw[dn.out]at h W;obtain⟨A,cp,-⟩:=bh;have U:Xo ((z4 (zi m l) l).2.sp.length=m.sp.length):=dD<|by rw[A.aM.aI,bb.out]
 have p:=dD A.rt;have R:=dD cp;obtain⟨em,en,rfl,c6⟩:=(aq w (qR.refl _ _)).bP;have af:=(aq w (qR.refl _ _)).short;have bc:=dD Z;have bd:Xo ((0:Int)<=(ix:Int)/\(ix:Int)<100):=show _/\_ by omega
 clear A cp c0 aq aw am cs c6 Z c2;obtain⟨dv,bi⟩:=kA (z4 (zi m l) l);rw[bi.out]at p R c h U;obtain⟨e4,P⟩:=dv;simp only at p R c h U;have bf:=dD cr;clear cr;obtain⟨a2,D⟩:=kA l.length;rw[D.out]at cf W af⊢;obtain⟨b,ce⟩:=kA w.heap.size;obtain⟨dz,G⟩:=kB (w.alloc (Xk #[U8 n,U8 q,U8 r,U8 t,U8 u,U8 v,U8 y,U8 z] 44));have ay:=gA G;have e0:=xPT G ce;have bj:=dD G;clear G;have g:=W.out dz ay.out;go_enter func112,ntmps112;go_upto_region 1 with fail;rw[bj.out,ce.out];obtain⟨d3,d4,d6,d8,d9,da,db,dc⟩:=e0.box.c8;cases e4 with
 |false=>
  rw[kF Dc]at c h;rw[h.out]at g;simp only[Ov,if_false]at g;go_wp2_with fail;refine g.mono ?_;clear g d3 d4 d6 d8 d9 da db dc;rintro e B⟨rfl,A⟩;have bl:Xo (Chg w0 k w V ax.2.2 B):=dD<|Rx c.out (Chg.aH ay A);clear A;go_wp2;go_ret2;exact⟨by rw[<-Q.out,c.out];rfl,bl⟩
 |true=>
  rw[kE rfl]at c h;obtain⟨e5,e6,ek,bw,e7⟩:=zet (R rfl);obtain⟨d,be⟩:=kA (ZI P.fs);rw[be.out]at bw h c;rw[h.out]at g;simp only[if_true]at g;obtain⟨i,S⟩:∃i:Ma,Xo (({P with fs:=P.fs.set d (frT ⟨n,q,r,t,u,v,y,z⟩ (fi:Int) (ix:Int))}:Ma)=i):=⟨_,rfl⟩;have E:Xo (i.ca=P.ca):=dD (by rw[<-S.out]);obtain⟨a,a6⟩:∃a:Ma,Xo (({i with ca:=Z2 i.ca ⟨(fi:Int),(ix:Int),(d:Int)⟩}:Ma)=a):=⟨_,rfl⟩;have f:ZC P d ⟨n,q,r,t,u,v,y,z⟩ Xc Xd (fi:Int) (ix:Int)=a:=by
   rw[<-a6.out,<-S.out];rfl
  rw[f]at c;rw[S.out]at g;have al:=(gS.1 bw).1;have ak:a.fs[d]?=Xa (frT ⟨n,q,r,t,u,v,y,z⟩ (fi:Int) (ix:Int)):=by
   rw[<-f];exact sF al
  have cv:ZT a.fs a.aB=0:=by
   rw[<-f];exact zja p.parts.1 bc.out
  have N:a.sp.length=m.sp.length:=by
   rw[<-f];exact U.out
  have ap:∀s∈a.sp,QH s.tb:=fun s cu=>by
   rw[<-f]at cu;exact p.tb cu
  have dk:Xo (∀j,j<=a2->∀x,l[j]?=Xa x->Z3 (zy a d (l.take j)).fs (zy a d (l.take j)).aB (d:Int) 1=0/\zy a d (l.take (j+1))=zhS (zy a d (l.take j)) x.1 (x.2:Int) (d:Int)/\x.1<(zy a d (l.take j)).sp.length):=dD<|fun j c3 x ar=>(zrC cv ak (by show(0:Int)<1;omega) ap (l:=l) (fun x ar=>by rw[N];exact dl x ar) (by have:=bf.out;show(1:Int)+_<=1000;omega) j (Rx D.out c3)).2.2.2.2 x ar;obtain⟨a9,ah,ac⟩:=p.cache;have C:Xo ((P.ca.Pairwise fun br b=>zZ br<zZ b)/\(∀ci∈P.ca,0<=ci.idx/\ci.idx<100)/\P.ca.length<=1000):=dD<|⟨a9,ah,ac⟩;clear e5 e6 bw e7 f al ak cv N ap a9 ah ac;go_wp2_with fail;refine g.mono ?_;clear g d3 d4 d6 d8 d9 da db dc;rintro e B⟨rfl,A⟩;obtain⟨a8,c9,cw,aa⟩:=Chg.aH ay A;have dp:=dD c9;have ds:=dD cw;have de:=dD aa;have K:=zbF c9 (Rx E.out C.1) (Rx E.out C.2.1) (Rx E.out C.2.2) (fi:Int) (ix:Int) bd.out;have T:Xo (zdd i.ca ⟨(fi:Int),(ix:Int),0⟩<=i.ca.length/\zdd i.ca ⟨(fi:Int),(ix:Int),0⟩=zdd i.ca ⟨(fi:Int),(ix:Int),(d:Int)⟩):=dD<|⟨(List.takeWhile_sublist _).length_le,rfl⟩;have ba:Xo (i.ca.length<=1000):=dD<|Rx E.out C.2.2
  obtain⟨bq,dm⟩:=kA (zdd i.ca ⟨(fi:Int),(ix:Int),0⟩);obtain⟨ea,dj⟩:=kA (zeo i.ca ⟨(fi:Int),(ix:Int),0⟩);rw[dm.out]at T K;rw[dj.out]at K;clear A c9 cw aa;go_wp2_with fail;refine K.mono ?_;clear K;rintro e a3⟨rfl,bz⟩;have a7:=dD (dp.aA bz);have dh:Xo (zc B a3):=bz;have eb:=a7.box.box.c 9 rfl;have ai:=zln (base:=w0.heap.size) (w:=a3.alloc (Xk #[I6 (fi:Int),I6 (ix:Int),I6 (d:Int)] 108)) (a7.ca.aA (za a3 (Xk #[I6 (fi:Int),I6 (ix:Int),I6 (d:Int)] 108))) ba bq T.1 ⟨(fi:Int),(ix:Int),(d:Int)⟩ a3.heap.size 1 (zt.aF a3 [I6 (fi:Int),I6 (ix:Int),I6 (d:Int)] _ rfl) (fun e=>by
   obtain⟨_,el⟩:=a7.ca.lt _ e
   omega) (by have:=bS a7.gr;simp;omega)
  clear bz;go_wp2_with(go_at_call 141;refine ai.mono ?_)
  clear ai eb;rintro e ef⟨bs,bt,rfl,L,F,H⟩;obtain⟨ee,Y⟩:=kB (a3.alloc (Xk #[I6 (fi:Int),I6 (ix:Int),I6 (d:Int)] 108));rw[Y]at F H;have X:=gP Y;have bk:=dD (a7.aA X);have dd:=dD<|bk.box.aV (qR.row F) (fun e=>bk.nc k e rfl);have M:i.ca.take bq++([⟨(fi:Int),(ix:Int),(d:Int)⟩]++i.ca.drop bq)=Z2 i.ca ⟨(fi:Int),(ix:Int),(d:Int)⟩:=by
   rw[<-zrD,<-T.2];rfl
  rw[M]at L;obtain⟨cb,bg⟩:=kA (a8.ca.n+1);rw[bg.out]at L H⊢;have bp:=dD L;have b8:=dD<|qR.row F;have b9:=dD H;have az:=dD<|dh.trans X;clear Y X L F H M;go_wp2_with(refine Qf rfl 38 (.tmp 52) (.tmp 49) rfl k 9 rfl (O bs cb bt) rfl [O bs cb bt] rfl dd (by simp[chL]) Kr (by simp[Value.oneCell']) ?_)
  intro eg ch ab _;have c1:=bk.cache (b:=⟨bs,cb,bt⟩) (l:=Z2 i.ca ⟨(fi:Int),(ix:Int),(d:Int)⟩) b8 b9 bp ab ch;rw[a6.out]at c1;obtain⟨dw,cj,cx,cm⟩:=Chg.step ds de (Chg.aH az c1);have dq:=dD cj;have dt:=dD cx;have df:=dD cm;clear ch ab c1 cj cx cm;go_wp2;go_loopg[55] a2 (fun e8 cc wr=>∃(j:Nat)(av:MaV),j<=a2/\a2-j<=e8/\cc=I6 j/\Xo (ChW w0 k wr av (zy a d (l.take j)))/\Xo (qR (Dw k V) w wr)/\Xo (∀c8,Dw k av c8->Dw k V c8\/w.heap.size<=c8))
  exact⟨0,dw,nZ _,Wm,rfl,dq,dt,df⟩;obtain⟨j,av,c3,e9,rfl,bm,bn,cd⟩:=hrel;by_cases a0:j<a2
  ·have an:=kC a0
   obtain⟨x,cg⟩:∃x,Xo (l[j]?=Xa x):=⟨_,gE (Rx D.out a0)⟩;obtain⟨_,_,a1,ao⟩:=(cf wr bn).bP;simp only[vJ]at a1;obtain⟨ei,ae,ag⟩:=ao j x cg.out;rw[<-a1.1]at ae;subst ae;obtain⟨cl,aa⟩:=ag wr (zc.refl _);obtain⟨bu,co,bv⟩:=dk.out j c3 x cg.out;have a5:=dD co;obtain⟨cz,d2⟩:=x;simp only at cl aa bu bv a5;have I:=zcO (bm.aA (za wr (Xk #[I6 (cz:Int),I6 (d2:Int)] 95))) cz bv (d2:Int) (d:Int) bu;rw[<-a5.out]at I;clear a1 ao ag bu co bv;go_wp2_with fail;refine I.mono ?_;clear I cl aa;rintro e eh⟨⟨eo,rfl⟩,cq⟩;obtain⟨dx,ck,cy,cn⟩:=Chg.step bn cd (Chg.aH (za _ _) cq);have dr:=dD ck;have du:=dD cy;have dg:=dD cn;clear cq ck cy cn;go_wp2;go_roundg (a2-(j+1));exact⟨j+1,dx,Wm,Wm,Gn,dr,du,dg⟩;omega
  have an:=kD a0;have aj:l.take j=l:=Yc (by rw[D.out];omega);rw[aj]at bm;clear aj;have bl:Xo (Chg w0 k w V ax.2.2 wr):=dD (by rw[c.out];exact⟨av,bm,bn,cd⟩);go_wp2;go_ret2;exact⟨by rw[<-Q.out,c.out];rfl,bl⟩
theorem zm9{t:Ca}{ca:List Ca}(h:zeo ca t=Xd):ca.find? (fun c=>decide (zZ c=zZ t))=Xb:=by grind[Yn,zeo,Xt.2]
theorem zhd(ah:ChW w0 k w V m)(ai:Rt m)(q n:Nat)(s)(ak:m.sp[q]?=Xa s)(bh:n<64)(a:Ar)(fi ix:Nat)(a7:a.file=(fi:Int))(ab:a.base+(n:Int)-a.fr=(ix:Int))(a4:0<=a.base/\a.base<=100)(a5:0<=a.fr/\a.fr<=100)(l:ix<100)(pg:Pg)(ic wr:Bool)
  (a9:frW (frT pg (fi:Int) (ix:Int))=0)
  (bg:jC (zi m [(q,n)]).fs=0->∀(bk:Xq)p Z,ChW w0 k p Z (zi m [(q,n)])->zl8 za8 (Dw k Z) p bk [(q,n)]->Xp prog 168 #[Xj (Xa ⟨k,0,Xb⟩),bk] p fun e w'=>e=Xl (Xh (QW (zi m [(q,n)]) [(q,n)]).1)/\Chg w0 k p Z (QW (zi m [(q,n)]) [(q,n)]).2 w'):
  Xp prog 70 #[Xi #[Xj (Xa ⟨k,0,Xb⟩),I6 (q:Int),I6 (n:Int),I6 a.fr,I6 a.tz,Xh a.rd,Xh a.wr,Xh a.sh,I6 a.file,I6 a.base,U8 pg.b0,U8 pg.b1,U8 pg.b2,U8 pg.b3,U8 pg.b4,U8 pg.b5,U8 pg.b6,U8 pg.b7,Xh ic,Xh wr]] w fun e w'=>e=Xl (Xm #[I6 ((zck m pg (fi:Int) (ix:Int) q n).2.1:Int),I6 (if(zck m pg (fi:Int) (ix:Int) q n).1=Xc then 0 else 10)])/\Chg w0 k w V (zck m pg (fi:Int) (ix:Int) q n).2.2 w':=by
 obtain⟨a1,_,_⟩:=zo.1 ai.inv.ca;obtain⟨G,aa,a3⟩:=ai.cache;have ap:Xo (∀W,zc w W->Xp prog 111 #[Xj (Xa ⟨k,0,Xb⟩),I6 (fi:Int),I6 (ix:Int)] W fun e w'=>((zeo m.ca ⟨(fi:Int),(ix:Int),0⟩=Xd/\e=Xl (Xm #[I6 0,Xh Xd]))\/(zeo m.ca ⟨(fi:Int),(ix:Int),0⟩=Xc/\∀d,m.ca[zdd m.ca ⟨(fi:Int),(ix:Int),0⟩]?=Xa d->e=Xl (Xm #[I6 d.fr,Xh Xc])))/\zc W w'):=dD<|fun W bs=>zig (ah.aA bs) G aa a3 (fi:Int) (ix:Int) Wm;have av:Xo (∀W,Xp prog 107 #[Xi #[I6 a.fr,I6 a.tz,Xh a.rd,Xh a.wr,Xh a.sh,I6 a.file,I6 a.base],I6 (n:Int)] W fun e w'=>e=Xl (I6 (ix:Int))/\zc W w'):=dD<|fun W=>by
  rw[<-ab];exact J2 a (n:Int) W a4 a5 Wm
 have af:=dD ah;have ag:=dD ai;have X:=dD ak;have be:=dD bh;have bm:=dD ah.bL;have T:=dD a9;have au:=show Xo _ from bg;have ar:=dD G;have aq:=dD a1;have Q:=dD l;have S:=dD a7;obtain⟨x,y,z,A,B,C,D,E⟩:=pg;simp only;obtain⟨al,u⟩:=kA (zck m ⟨x,y,z,A,B,C,D,E⟩ (fi:Int) (ix:Int) q n);rw[u.out];obtain⟨c4,f⟩:=kA (if al.1=Xc then(0:Int)else 10);rw[f.out];obtain⟨c3,bd⟩:=kA w.heap.size;obtain⟨p,h⟩:=kB (w.alloc (Xk #[Xj (Xa ⟨k,0,Xb⟩),I6 (q:Int),I6 (n:Int),I6 a.fr,I6 a.tz,Xh a.rd,Xh a.wr,Xh a.sh,I6 a.file,I6 a.base,U8 x,U8 y,U8 z,U8 A,U8 B,U8 C,U8 D,U8 E,Xh ic,Xh wr] 97));have bl:=gA h;have g:=xPT h bd;have ay:=dD h;have r:=av.out p;clear h ah ai ak bh a9 bg a1 G aa a3 l a7 ab a4 a5;go_enter func70,ntmps70;go_upto_region 1 with fail;rw[ay.out,bd.out];obtain⟨_,_,u2,u3,u4,u5,u6,u7,u8,u9⟩:=g.box.k10;go_wp2_with fail;refine r.mono ?_;clear r u2 u3 u4 u5 u6 u7 u8 u9;rintro e bo⟨rfl,b8⟩;have bc:=dD (bl.trans b8);have az:=dD (g.aA b8);have u0:=az.box.c 0 rfl;have u8:=az.box.c 8 rfl;rw[S.out]at u8;have a6:=ap.out bo bc.out;clear b8;go_wp2_with fail;refine a6.mono ?_;clear a6 u0 u8;rintro e I⟨H,b9⟩;have P:=dD (bc.trans b9);have c:=dD (az.aA b9);clear b9;rcases H with⟨M,rfl⟩|⟨M,aj⟩
 ·have a8:m.ca.find? (fun d=>decide (zZ d=zZ ⟨(fi:Int),(ix:Int),0⟩))=Xb:=zm9 M
  have b:Xo (zck m ⟨x,y,z,A,B,C,D,E⟩ (fi:Int) (ix:Int) q n=zac m ⟨x,y,z,A,B,C,D,E⟩ (fi:Int) (ix:Int) [(q,n)]):=dD<|by
   unfold zck;rw[a8]
  have j:=zjv (af.aA (P.trans (za I (Xk #[I6 (q:Int),I6 (n:Int)] 95)))) ag ⟨x,y,z,A,B,C,D,E⟩ fi ix T Q (O (Xa ⟨I.heap.size,0,Xb⟩) 1 1) [(q,n)] (q6.aY (base:=I.heap.size) ⟨q8 za8 I (q,n) _ _ rfl Dc,fun c1 n d e=>by cases e;exact nR _⟩ (fun bx t=>Yh (bm bx t) (bS P))) (fun c1 bw=>by rw[Xw.1 bw];exact⟨be,s,X⟩) (by show 1<=900;omega) (fun br p Z aj bv=>au.out br _ p Z aj bv);obtain⟨c2,R⟩:=kA (zac m ⟨x,y,z,A,B,C,D,E⟩ (fi:Int) (ix:Int) [(q,n)]);rw[R.out]at j;rw[R.out,u.out]at b;rw[<-b.out,f.out]at j;have am:Xo (zc w (I.alloc (Xk #[I6 (q:Int),I6 (n:Int)] 95))):=dD<|P.trans (za _ _);obtain⟨u0,u1,u2⟩:=c.box.c3;have u8:=c.box.c 8 rfl;rw[S.out]at u8;have u10:=c.box.c 10 rfl;have u11:=c.box.c 11 rfl;have u12:=c.box.c 12 rfl;have u13:=c.box.c 13 rfl;have u14:=c.box.c 14 rfl;have u15:=c.box.c 15 rfl;have u16:=c.box.c 16 rfl;have u17:=c.box.c 17 rfl;clear M a8;go_wp2_with fail;refine j.mono ?_;clear j u0 u1 u2 u8 u10 u11 u12 u13 u14 u15 u16 u17;rintro e bf⟨rfl,a2⟩;have Y:=dD<|Chg.aH am a2;clear a2;go_wp2;go_ret2;exact⟨rfl,Y⟩
 have ae:=zi5 M;obtain⟨d,ao⟩:∃d,Xo (m.ca[zdd m.ca ⟨(fi:Int),(ix:Int),0⟩]?=Xa d):=⟨_,gE ae⟩;have bt:=aj d ao.out;subst bt;obtain⟨a0,F,_⟩:=Zn (aq d (mG ao));obtain⟨N,U⟩:∃N:Nat,Xo (d.fr=(N:Int)):=⟨d.fr.toNat,show _=_ by omega⟩;have b:Xo (zck m ⟨x,y,z,A,B,C,D,E⟩ (fi:Int) (ix:Int) q n=(Xc,N,if(Ju m q (n:Int)).kind=0 then Zr m N q n else m)):=dD<|by
  unfold zck;rw[zkp ar.out M,ao.out];simp only;rw[U.out,tN]
 rw[u.out]at b;have v:=dD<|(gS.1 X).1;rw[U.out]at a0 F⊢;have ad:N<m.fs.length:=Wm;have i:=gE ad;rw[zI i]at F;obtain⟨bz,c0⟩:=ag.refs i;obtain⟨bi,bj,-⟩:=zm3 ag.parts.1 i Wm Wm (fun s ak=>ag.tb ak) v be.out;have aw:=dD bi;have ax:=dD bj;clear ae aj a0 F ad i bz c0 bi bj M;have K:=QZ (af.aA P) q v (n:Int);obtain⟨L,bn⟩:=kA (Ju m q (n:Int));rw[bn.out]at K b;obtain⟨u0,u1,u2⟩:=c.box.c3;go_wp2_with fail;refine K.mono ?_;clear K u0 u1 u2;rintro c5 bp⟨rfl,ba⟩;have an:=dD (P.trans ba);have bq:=dD (c.aA ba);unfold enV;clear ba;have bu:=zpu L.kind L.n L.wr;by_cases t:L.kind=0
 ·have bb:(L.kind==0)=Xc:=Rr t
  have ac:=zcO (af.aA an) q v (n:Int) (N:Int) aw.out;obtain⟨u0,u1,u2⟩:=bq.box.c3;rw[kE t]at b;clear t;go_wp2_with fail;refine ac.mono ?_;clear ac u0 u1 u2;rintro e bf⟨⟨c6,rfl⟩,a2⟩;have Y:Xo (Chg w0 k w V al.2.2 bf):=dD (by rw[b.out,<-ax.out];exact Chg.aH an a2);clear a2;go_wp2;go_ret2;exact⟨by rw[<-f.out,b.out];rfl,Y⟩
 have bb:(L.kind==0)=Xd:=Si t;rw[kF t]at b;clear t;have Y:Xo (Chg w0 k w V al.2.2 bp):=dD<|Rx b.out (Chg.refl af an.out);go_wp2;go_ret2;exact⟨by rw[<-f.out,b.out];rfl,Y⟩
theorem zi7{a b:Pg}(h:pgL a=pgL b):a=b:=by cases a;cases b;simpa[pgL]using h
def ZP(m:Ma)(q i:Nat)(a:Ar)(pg:Pg)(_:Bool):Bool×Nat×Ma:=zck m pg a.file (a.base+(i:Int)-a.fr) q i
structure zcT(wr:Bool)(m:Ma)(q n:Nat)(x:On)(pg:Pg)(ic:Bool)(k:Nat)(mB:Ma):Prop where
 rt:Rt mB
 aM:Sam (fun p j=>p=q/\j=n) m mB
 fsl:mB.fs.length=m.fs.length
 into:∃(s':Sp)(fr:Fr)(w:Bool),mB.sp[q]?=Xa s'/\mB.fs[k]?=Xa fr/\zh s' n=⟨1,(k:Int),w⟩/\fr.p=pg/\(wr=Xc->(fr.f=-1/\fr.r<=1)\/x.sh=Xc)/\(wr=Xd->0<=x.file->decide (fr.f<0)=ic)
section
variable{m:Ma}{q n:Nat}{s:Sp}{a:Ar}{pg:Pg}{ic wr:Bool}
theorem zkv(r:Rt m)(K:m.sp[q]?=Xa s)(c:(q,n)∈d)(hd:d.Nodup)(u:∀x∈d,x.2<64/\∃s,m.sp[x.1]?=Xa s/\(zl s.aC x.2).is=Xc/\(zl s.aC x.2).sh=Xd)
  (L:∀(p j:Nat)s,m.sp[p]?=Xa s->j<64->(p,j)∈d->¬(p=q/\j=n)->(zl s.aC j).is=Xc/\ZZ m (zl s.aC j) (zh s j)=(pgL pg,Xc,0))(M:wr=Xc->d.length=1)(H:wr=Xd->0<=(zl s.aC n).file->ic=Xc)(P:(ZF m pg d).1=Xc):
  zcT wr m q n (zl s.aC n) pg ic (ZF m pg d).2.1 (ZF m pg d).2.2:=by
 have i:=(qK d r (fun x l=>by obtain⟨w,t,y,_⟩:=u x l;exact⟨w,t,y⟩)).1;obtain⟨k,G,-⟩:=zaw i.rt d;have a:(z4 (zi m d) d).1=Xc:=by grind[ZF]
 obtain⟨_,_,N,E,F⟩:=zet (G a);have b:d≠[]:=fun e=>by rw[e]at c;cases c
 obtain⟨z,f,g,h⟩:=zrN r b hd u k E F pg Xc;have D:ZF m pg d=(Xc,ZI (z4 (zi m d) d).2.fs,zbG (z4 (zi m d) d).2 (ZI (z4 (zi m d) d).2.fs) pg Xc d):=by grind[ZF]
 rw[D];have A:=zlV f g h (fun p j=>p=q/\j=n) L;have:∃t,(zbG (z4 (zi m d) d).2 (ZI (z4 (zi m d) d).2.fs) pg Xc d).sp[q]?=Xa t:=⟨_,gE (by rw[f.aI];exact(gS.1 K).1)⟩;obtain⟨t,v⟩:=this;exact⟨z,A,by show((z4 (zi m d) d).2.fs.set _ _).length=_;rw[Xu,k.fsl,i.fsl],t,_,Xd,v,g,h (q,n) c t v,rfl,fun e=>.inl ⟨rfl,by show(d.length:Int)<=1;rw[M e];exact Int.le_refl _⟩,fun B C=>by rw[H B C];rfl⟩
theorem zco(h:Rt m)(c:m.sp[q]?=Xa s)(e:n<64)(i:(zl s.aC n).is=Xc)(a:(zl s.aC n).sh=Xd)(g:wr=Xd->0<=(zl s.aC n).file->ic=Xc)(d:(ZF m pg [(q,n)]).1=Xc):zcT wr m q n (zl s.aC n) pg ic (ZF m pg [(q,n)]).2.1 (ZF m pg [(q,n)]).2.2:=
 zkv h c (Xw.2 rfl) Sm (fun x b=>by rw[Xw.1 b];exact⟨e,s,c,i,a⟩) (fun p k _ _ _ j f=>by grind) (fun _=>rfl) g d
theorem zpa{c:Ca}(a:0<=c.idx/\c.idx<100)(b:0<=R/\R<100)(h:zZ c=zZ ⟨z,R,0⟩):c.file=z/\c.idx=R:=by grind[zZ]
theorem zkz(h:Rt m)(i:m.sp[q]?=Xa s)(E:n<64)(b6:jS a)(c6:a.fr<=(n:Int)/\(n:Int)<a.tz)(F:zl s.aC n=z5 a n)(b:ZZ m (zl s.aC n) (zh s n)=(pgL pg,ic,0))(p:(jB m (ZP m q n a pg wr) pg a ic wr q n).1=Xc):
  zcT wr m q n (zl s.aC n) pg ic (jB m (ZP m q n a pg wr) pg a ic wr q n).2.1 (jB m (ZP m q n a pg wr) pg a ic wr q n).2.2:=by
 have d:Ju m q (n:Int)=zh s n:=by unfold Ju;rw[Sp.aK i,JF E]
 have U:(zl s.aC n).is=Xc:=Rr F;have c:(zl s.aC n).file=a.file:=Rr F;have v:(zl s.aC n).sh=a.sh:=Rr F;obtain⟨g,bo⟩:=kB (a.base+(n:Int)-a.fr);have P:0<=a.file->(zl s.aC n).page=g:=fun e=>by
  rw[F];show(if 0<=a.file then _ else _)=_;grind
 unfold jS at b6;have G:0<=a.file->0<=g/\g<100:=fun e=>Wm;have b9:a.file<0->(zl s.aC n).sh=Xd:=fun e=>by rw[v];exact(b6.2.2.2.2.2.2.1 e).2
 obtain⟨a2,al,-⟩:=h.cache;have ao:Rt m->∀(w:Nat)(fr:Fr)(av:Bool),m.fs[w]?=Xa fr->zh s n=⟨1,(w:Int),av⟩->fr.p=pg->(wr=Xc->(fr.f=-1/\fr.r<=1)\/(zl s.aC n).sh=Xc)->(wr=Xd->0<=(zl s.aC n).file->decide (fr.f<0)=ic)->zcT wr m q n (zl s.aC n) pg ic w m:=fun h w fr av y L ae bh bi=>⟨h,Sam.refl _ m,rfl,s,fr,av,i,y,L,ae,bh,bi⟩;rcases h.aN i E with b0|a4
 ·
  rw[b0]at b d;by_cases b8:a.file<0
  ·have C:ic=Xd:=by
    unfold ZZ at b;rw[kF (by rw[U];decide),kF Dc,kF Dc,kE (Rx c b8)]at b;grind
   have e:jB m (ZP m q n a pg wr) pg a ic wr q n=ZF m pg [(q,n)]:=by
    unfold jB ZK;rw[kF (by rintro⟨⟨e,_⟩,_⟩;omega),d,kF (by rintro⟨e,_⟩;cases e),kF (by rintro⟨e,_⟩;cases e)]
   grind[zco]
  have N:0<=a.file:=Wm;obtain⟨a6,a7⟩:=G N;have Q:=P N;have bt:g<bkN m a.file/\ic=Xd/\pgL pg=zT m a.file g:=by
   unfold ZZ at b;rw[kF (by rw[U];decide),kF Dc,kF Dc,kF (Rx c b8),c,Q]at b;grind
  obtain⟨a0,rfl,au⟩:=bt;by_cases ar:a.sh=Xc\/wr=Xd
  ·have e:jB m (ZP m q n a pg wr) pg a Xd wr q n=zck m pg a.file g q n:=by grind[jB,ZP]
   rw[e]at p⊢;unfold zck at p⊢;cases f:m.ca.find? fun j=>decide (zZ j=zZ ⟨a.file,g,0⟩)with
   |some j=>
    have A:=Od f;have a5:zZ j=zZ ⟨a.file,g,0⟩:=by
     have:=List.find?_some f;simpa using this
    obtain⟨W,I⟩:=zpa (al j A) ⟨a6,a7⟩ a5;obtain⟨w,fr,af,X,Y,Z,bk,bl⟩:=zjD h A;simp only;rw[d,kE (show en0.kind=0 from rfl),af,tN];obtain⟨bu,bb⟩:=zhR h X (by rw[Z,W];exact N) i E b0 U (by rw[Z,W,c]) (by rw[bk,I,Q]);have:∃x,(Zr m w q n).sp[q]?=Xa x:=⟨_,gE (by rw[bb.aI];exact(gS.1 i).1)⟩;obtain⟨x,S⟩:=this;have bn:=zc1 h.inv (gS.1 X).1 Xd;refine⟨bu,bb,by show(m.fs.set _ _).length=_;rw[Xu],x,_,Xd,S,zgu X q n,(zaB (m1:={m with fs:=m.fs.set w {zY m (w:Int)with r:=(zY m (w:Int)).r+1}}) (fun s i=>h.tb i) i E bn S).1,?_,fun T=>?_,fun _ _=>?_⟩
    ·apply zi7
     rw[au,<-bl,W,I]
    ·rcases ar with e|e
     ·exact .inr (Rx v e)
     rw[T]at e;cases e
    exact decide_eq_false (by show¬fr.f<0;rw[Z,W];omega)
   |none=>
    rw[f]at p;simp only at p⊢;have bq:∀a9∈[(q,n)],a9.2<64/\∃s,m.sp[a9.1]?=Xa s:=fun a9 V=>(by rw[Xw.1 V];exact⟨E,s,i⟩);have a3:=(qK [(q,n)] h bq).1;obtain⟨az,ag,-⟩:=zaw a3.rt [(q,n)];have H:(z4 (zi m [(q,n)]) [(q,n)]).1=Xc:=by
     unfold zac at p;split at p
     ·assumption
     cases p
    obtain⟨_,_,fr,Y,Z⟩:=zet (ag H);have bj:zac m pg a.file g [(q,n)]=(Xc,ZI (z4 (zi m [(q,n)]) [(q,n)]).2.fs,Zr (ZC (z4 (zi m [(q,n)]) [(q,n)]).2 (ZI (z4 (zi m [(q,n)]) [(q,n)]).2.fs) pg Xc Xd a.file g) (ZI (z4 (zi m [(q,n)]) [(q,n)]).2.fs) q n):=by
     unfold zac;rw[kE H];rfl
    rw[bj];obtain⟨M,u⟩:∃M:Nat,a.file=(M:Int):=⟨a.file.toNat,Wm⟩;obtain⟨ad,D⟩:∃ad:Nat,g=(ad:Int):=⟨g.toNat,Wm⟩;have ak:M<m.fl.length:=by
     by_cases e:M<m.fl.length;·exact e
     exfalso;rw[u]at a0;unfold bkN at a0;rw[tN,gD,gN Wm]at a0;simp at a0;omega
    have aq:Unc m (M:Int) (ad:Int):=fun j bm⟨y,L⟩=>by
     have:=Yn.1 f j bm;apply this;rw[decide_eq_true_eq];unfold zZ;rw[y,L,u,D]
    rw[u,D]at a0 au;obtain⟨bv,bf,bw,bx⟩:=zqT h i E U (by rw[c,u]) (by rw[Q,D]) ak a0 aq (m2:=(z4 (zi m [(q,n)]) [(q,n)]).2) (az.mono fun be ba e=>by
     have e:=Xw.1 e;cases e;exact⟨rfl,rfl⟩) Y Z au Xc Xd
    rw[u,D];have:∃x,(Zr (ZC (z4 (zi m [(q,n)]) [(q,n)]).2 (ZI (z4 (zi m [(q,n)]) [(q,n)]).2.fs) pg Xc Xd (M:Int) (ad:Int)) (ZI (z4 (zi m [(q,n)]) [(q,n)]).2.fs) q n).sp[q]?=Xa x:=⟨_,gE (by rw[bf.aI];exact(gS.1 i).1)⟩;obtain⟨x,S⟩:=this;refine⟨bv,bf,by show(((z4 (zi m [(q,n)]) [(q,n)]).2.fs.set _ _).set _ _).length=_;rw[Xu,Xu,az.fsl,a3.fsl],x,_,Xd,S,bw,bx x S,rfl,fun T=>?_,fun _ _=>?_⟩
    ·rcases ar with e|e
     ·exact .inr (Rx v e)
     rw[T]at e;cases e
    exact decide_eq_false (by show¬(M:Int)<0;omega)
  grind[jB,ZP,ZF,ZK,zco]
 obtain⟨z,t⟩:=kB (zh s n);rw[t]at b d a4;by_cases I:z.kind=2
 ·
  have C:ic=Xc:=by grind[ZZ]
  subst C;have ap:(zl s.aC n).sh=Xd:=by
   have ae:=a4.2.2;grind[zal,zl]
  cases wr with
  |true=>
   have e:jB m (ZP m q n a pg Xc) pg a Xc Xc q n=ZF m pg [(q,n)]:=by
    unfold jB ZK;rw[kF (by rintro⟨⟨_,e⟩,_⟩;cases e),d,kF (by rintro⟨e,_⟩;omega),kF (by rintro⟨_,e⟩;cases e)]
   rw[e]at p⊢;exact zco h i E U ap (fun y _=>by cases y) p
  |false=>
   have e:jB m (ZP m q n a pg Xd) pg a Xc Xd q n=ZF m pg (jO m 2 z.n m.sp.length):=by
    unfold jB ZK;rw[kF (by rintro⟨⟨_,e⟩,_⟩;cases e),d,kF (by rintro⟨e,_⟩;omega),kE ⟨I,rfl⟩]
   rw[e]at p⊢;have a8:=zaI h (k:=z.n);have an:qO m.sb m.sq z.n=pgL pg:=by
    unfold ZZ at b;rw[kF (by rw[U];decide),kF Wm,kE I]at b;simp only[pJ]at b;exact b.1
   refine zkv h i (by have:=zki i E (Rx t I);rw[t]at this;exact this) (zep m 2 z.n m.sp.length) (fun a9 V=>?_) (fun be ba x S c5 br _=>?_) (fun e=>by cases e) (fun _ _=>rfl) p;·obtain⟨a1,x,l,K,bg,_⟩:=a8 a9 V;exact⟨a1,x,l,K,bg⟩
   obtain⟨_,c7,l,K,_,aw⟩:=a8 (be,ba) br;simp only at l K aw;rw[S]at l;cases l;exact⟨K,by rw[aw,an]⟩
 
 have W:z.kind=1:=by
  have y:=a4.1;have L:=a4.2.1;have:=(jT y).1;omega
 obtain⟨w,fr,af,X,Y,Z⟩:=h.aU i E (Rx t W);rw[t]at af Y;have R:fr.p=pg/\decide (fr.f<0)=ic:=by
  unfold ZZ at b;rw[kF (by rw[U];decide),kE W,Y]at b;simp only[pJ]at b;exact⟨zi7 b.1,b.2.1⟩
 obtain⟨c0,ag⟩:=R;have b7:z=⟨1,(w:Int),z.wr⟩:=by
  obtain⟨c8,c9,ca⟩:=z;grind
 have bp:=(gS.1 X).1;have aj:(fr.f=-1/\(zl s.aC n).sh=Xd)\/(0<=a.file/\fr.f=a.file/\fr.x=g):=by
  have ae:=a4.2.2;grind[zal,zl]
 have bs:zY m z.n=fr:=Y;rcases aj with⟨a1,l⟩|⟨a1,l,K⟩;·grind[jB,ZP,ZK,tN,ZF,zco]
 have C:ic=Xd:=by rw[<-ag,l];exact decide_eq_false Wm
 subst C;obtain⟨a6,a7⟩:=G a1;by_cases ar:a.sh=Xc\/wr=Xd
 ·obtain⟨ab,j,aa,bz,ax,ay⟩:=zeO h X (Rx l a1)
  have A:=mG aa;have f:m.ca.find? (fun j=>decide (zZ j=zZ ⟨a.file,g,0⟩))=Xa j:=by
   cases f:m.ca.find? fun j=>decide (zZ j=zZ ⟨a.file,g,0⟩)with
   |none=>
    exfalso;have:=Yn.1 f j A;apply this;rw[decide_eq_true_eq];unfold zZ;rw[ax,ay,l,K]
   |some a3=>
    have ai:=Od f;have ah:zZ a3=zZ ⟨a.file,g,0⟩:=by
     have:=List.find?_some f;simpa using this
    have a5:zZ j=zZ a3:=by
     rw[ah];unfold zZ;rw[ax,ay,l,K]
    obtain⟨ac,B⟩:=Yb ai;have am:ab=ac:=by
     have bc:=(gS.1 aa).1;have bd:=(gS.1 B).1;have y:=(gS.1 aa).2;have L:=(gS.1 B).2;rcases Nat.lt_trichotomy ab ac with e|e|e;·have:=Ya.1 a2 ab ac bc bd e;rw[y,L]at this;omega
     ·exact e
     have:=Ya.1 a2 ac ab bd bc e;rw[y,L]at this;omega
    subst am;rw[aa]at B;exact B.symm
  grind[jB,ZP,zck,tN]
 grind[jB,ZP,ZF,ZK,zco]
theorem znM(h:Rt m)(a:m.sp[q]?=Xa s)(g:n<64):jC m.fs<=jC (JL m q n).fs:=by
 have f:m.sp.getD q ⟨Xd,[],[]⟩=s:=by rw[gD,a];rfl
 unfold JL;simp only[f];split
 ·rename_i e
  obtain⟨k,d,b,c,i,j⟩:=h.aU a g e;show jC m.fs<=jC (m.fs.set _ _);rw[b,tN];have l:jC (m.fs.set k (Jq (zY m (k:Int))))+(decide (d.r=0)).toNat=jC m.fs+(decide ((Jq (zY m (k:Int))).r=0)).toNat:=zik _ c;grind
 split<;>exact nR _
theorem zc3:∀(l:List (Nat×Nat)){m:Ma},Rt m->(∀x∈l,x.2<64/\∃s,m.sp[x.1]?=Xa s)->jC m.fs<=jC (zi m l).fs
 |[],_,_,_=>nR _
 |x::l,m,h,a=>by
  obtain⟨b,s,c⟩:=a x (Ou ..);have g:=(zeD h c b).1;exact nT (znM h c b) (zc3 l g.rt fun y f=>by
   obtain⟨d,t,e⟩:=a y (Om _ f);exact⟨d,_,gE (by rw[g.aM.aI];exact(gS.1 e).1)⟩)
theorem zhp(h:Rt m)(b:∀x∈d,x.2<64/\∃s,m.sp[x.1]?=Xa s)(a:0<jC m.fs):(z4 (zi m d) d).1=Xc:=by grind[zc3,z4]
theorem zl2(h:Rt m)(e:m.sp[q]?=Xa s)(d:n<64)(g:0<jC m.fs):(jB m (ZP m q n a pg wr) pg a ic wr q n).1=Xc:=by
 have c:∀l:List (Nat×Nat),(∀x∈l,x.2<64/\∃s,m.sp[x.1]?=Xa s)->(ZF m pg l).1=Xc:=fun l i=>by grind[ZF,zhp]
 have f:∀x∈[(q,n)],x.2<64/\∃s,m.sp[x.1]?=Xa s:=fun x b=>by rw[Xw.1 b];exact⟨d,s,e⟩
 unfold jB;split;·grind[ZP,zck,zac,zhp]
 unfold ZK;split;·rfl
 split;·exact c _ fun x b=>by grind[zaI]
 grind
end
theorem zo0{q:Nat}{w:Bool}(ht:∀s∈m.sp,QH s.tb)(e:m.fs[q]?=Xa X)(a:m.fs.length<=40)(i:m.sp[k]?=Xa s)(g:p<64)(c:zh s p=⟨1,(q:Int),w⟩)(l:Bool):
  Jo m k p q X Xd l={m with fs:=m.fs.set q {X with u:=true}}/\
  Jo m k p q X Xc Xd=Zm {m with fs:=m.fs.set q {X with u:=true}} k (p:Int) {Ju {m with fs:=m.fs.set q {X with u:=true}} k (p:Int)with wr:=true}/\
  Jo m k p q X Xc Xc={Zm {m with fs:=m.fs.set q {X with u:=true}} k (p:Int) {Ju {m with fs:=m.fs.set q {X with u:=true}} k (p:Int)with wr:=true}with fs:=(Zm {m with fs:=m.fs.set q {X with u:=true}} k (p:Int) {Ju {m with fs:=m.fs.set q {X with u:=true}} k (p:Int)with wr:=true}).fs.set q {X with u:=true,d:=true}}:=by
 have f:=(gS.1 e).1;have b:Ju {m with fs:=m.fs.set q {X with u:=true}} k (p:Int)=⟨1,(q:Int),w⟩:=by grind[Ju,zfa,Sp.aK,JF]
 have j:enW ⟨1,(q:Int),Xc⟩=0:=JJ ⟨by simp only;omega,by simp only;omega⟩ ⟨by simp only;omega,by simp only;omega,fun _=>by simp only;omega⟩ Sm;have h:=JH (m:={m with fs:=m.fs.set q {X with u:=true}}) ht (p:=k) (n:=p) (gS.1 i).1 g j;rw[b];simp only;rw[h];refine⟨rfl,?_,?_⟩
 ·unfold Jo
  grind
 unfold Jo zaa;rw[kE rfl,Bool.or_true];simp only[List.set_set]
theorem ziP{w0 w:Xn}{p:Nat}{V:MaV}{m:Ma}(h:ChW w0 p w V m)(q n k:Nat)(fr:Fr)(s:Sp)(we:Bool)(hk:m.fs[k]?=Xa fr)(h40:m.fs.length<=40)(ht:∀s∈m.sp,QH s.tb)(hs:m.sp[q]?=Xa s)(hn:n<64)(hen:zh s n=⟨1,(k:Int),we⟩)(a:Ar)(pg:Pg)(ic wr:Bool):
  Xp Tryz.prog 34 #[Xi #[Xj (Xa ⟨p,0,Xb⟩),Xe Xf (q:Int),Xe Xf (n:Int),Xe Xf a.fr,Xe Xf a.tz,Xh a.rd,Xh a.wr,Xh a.sh,Xe Xf a.file,Xe Xf a.base,Xe Xg pg.b0,Xe Xg pg.b1,Xe Xg pg.b2,Xe Xg pg.b3,Xe Xg pg.b4,Xe Xg pg.b5,Xe Xg pg.b6,Xe Xg pg.b7,Xh ic,Xh wr],Xe Xf (k:Int)] w fun e w'=>(∃v,e=Xl v)/\Chg w0 p w V (Jo m q n k fr wr a.sh) w':=by
 have HM:Xo (ChW w0 p w V m):=h;obtain⟨h1,h2,h3⟩:=zo0 ht hk h40 hs hn hen a.sh;have H1:Xo (Jo m q n k fr Xd a.sh={m with fs:=m.fs.set k {fr with u:=true}}):=h1;have HQ:Xo (q<m.sp.length):=(gS.1 hs).1;have hkl:=(gS.1 hk).1;have HK:Xo (m.fs[k]?=Xa fr):=hk;have HD:Xo (∀k,Dw p V k->k<w.heap.size):=h.bL;obtain⟨sh,HSH⟩:∃sh,Xo (a.sh=sh):=⟨_,rfl⟩;rw[HSH.out]at H1⊢;have H2:Xo (Jo m q n k fr Xc Xd=Zm {m with fs:=m.fs.set k {fr with u:=true}} q (n:Int) {Ju {m with fs:=m.fs.set k {fr with u:=true}} q (n:Int)with wr:=true}):=h2;have H3:Xo (Jo m q n k fr Xc Xc={Zm {m with fs:=m.fs.set k {fr with u:=true}} q (n:Int) {Ju {m with fs:=m.fs.set k {fr with u:=true}} q (n:Int)with wr:=true}with fs:=(Zm {m with fs:=m.fs.set k {fr with u:=true}} q (n:Int) {Ju {m with fs:=m.fs.set k {fr with u:=true}} q (n:Int)with wr:=true}).fs.set k {fr with u:=true,d:=true}}):=h3;clear h1 h2 h3 ht hk h40 hs hn hen;obtain⟨b0,b1,b2,b3,b4,b5,b6,b7⟩:=pg;simp only;obtain⟨b,HB⟩:∃b,Xo (w.heap.size=b):=⟨_,rfl⟩;obtain⟨W1,hW1⟩:∃W1,w.alloc (Xk #[Xj (Xa ⟨p,0,Xb⟩),Xe Xf (q:Int),Xe Xf (n:Int),Xe Xf a.fr,Xe Xf a.tz,Xh a.rd,Xh a.wr,Xh sh,Xe Xf a.file,Xe Xf a.base,Xe Xg b0,Xe Xg b1,Xe Xg b2,Xe Xg b3,Xe Xg b4,Xe Xg b5,Xe Xg b6,Xe Xg b7,Xh ic,Xh wr] 97)=W1:=⟨_,rfl⟩;have G1:=gA hW1;have X1:=xPT hW1 HB;have HND:Xo (¬Dw p V b):=show¬_ from fun e=>by have:=HD.out _ e;have:=HB.out;omega
 have HW1:Xo (_=W1):=hW1;clear hW1;have M1:Xo (ChW w0 p W1 V m):=h.aA G1.out;obtain⟨g,c9,heq⟩:=M1.out.fs.aG Wm;have f0:=M1.out.box.box.c 0 rfl;rw[heq]at f0;have HFO:Xo (zb q7 w0.heap.size W1 (O (Xa ⟨g,0,Xb⟩) m.fs.length c9) m.fs):=show zb _ _ _ _ _ by rw[<-heq];exact M1.out.fs
 have HG:Xo (oB V.f g):=show oB _ _ by unfold oB;rw[heq];rfl
 have HEQ:Xo (O V.f.a V.f.n V.f.c=O (Xa ⟨g,0,Xb⟩) m.fs.length c9):=heq;have hlt:(k:Int)<(m.fs.length:Int):=Wm;obtain⟨fn,HFN⟩:∃fn,Xo (m.fs.length=fn):=⟨_,rfl⟩;rw[HFN.out]at HFO HEQ f0 hlt;have u0:=X1.out.box.c 0 rfl;clear h heq hkl;go_enter Tryz.func34,Tryz.ntmps34;go_upto_region 1 with fail;rw[HW1.out,HB.out];clear HW1;go_upto_region 2 with(refine zx (E:=q7) rfl (.tmp 13) (.const (Xh Xc)) 4 rfl w0.heap.size _ m.fs HFO.out g k 9 rfl fr {fr with u:=true} HK.out [Xh Xc] Kr rfl (Ol rfl) (by intro u hu;simp at hu;subst hu;rfl) ⟨g,k*13+9,Xb⟩ rfl rfl _ rfl rfl ?_)
 intro W2 ow2 gr2 _;have HC2:Xo (Chg w0 p w V {m with fs:=m.fs.set k {fr with u:=true}} W2):=show Chg _ _ _ _ _ _ by
  refine Chg.aH G1.out (M1.out.frame HG.out gr2 ?_);(try simp only[Sli.x]);rw[HEQ.out];exact ow2
 have X2:Xo (zt W2 b 97 [Xj (Xa ⟨p,0,Xb⟩),Xe Xf (q:Int),Xe Xf (n:Int),Xe Xf a.fr,Xe Xf a.tz,Xh a.rd,Xh a.wr,Xh sh,Xe Xf a.file,Xe Xf a.base,Xe Xg b0,Xe Xg b1,Xe Xg b2,Xe Xg b3,Xe Xg b4,Xe Xg b5,Xe Xg b6,Xe Xg b7,Xh ic,Xh wr]):=X1.out.aV (qR.grown gr2 (show Dw p V g from .inr (.inl HG.out))) HND.out;clear ow2 gr2 f0 u0 X1 M1 G1 HFO;try simp only[Yd]
 have u19:=X2.out.box.c 19 rfl;cases wr with
 |false=>
  have HR:Xo (Chg w0 p w V (Jo m q n k fr Xd sh) W2):=show Chg _ _ _ _ _ _ by rw[H1.out];exact HC2.out
  go_wp2;exact Wq HR.out
 |true=>
  obtain⟨V2,m2,o2,d2⟩:=HC2.out;have M2:Xo (ChW w0 p W2 V2 {m with fs:=m.fs.set k {fr with u:=true}}):=m2;have O2:Xo (qR (Dw p V) w W2):=o2;have D2:Xo (∀k,Dw p V2 k->Dw p V k\/w.heap.size<=k):=d2;have HN2:Xo (¬Dw p V2 b):=show¬_ from m2.bW X2.out Dc Dc Dc Dc;have hal:=zjx m2 q HQ.out (n:Int);clear m2 o2 d2 HC2;obtain⟨u0,u1,u2⟩:=X2.out.box.c3;go_wp2_with fail;refine hal.mono ?_;clear hal u0 u1 u2 u19;rintro e W4⟨⟨v4,rfl⟩,h4⟩;obtain⟨V4,m4,o4,d4⟩:=h4;have X4:Xo (zt W4 b 97 [Xj (Xa ⟨p,0,Xb⟩),Xe Xf (q:Int),Xe Xf (n:Int),Xe Xf a.fr,Xe Xf a.tz,Xh a.rd,Xh a.wr,Xh sh,Xe Xf a.file,Xe Xf a.base,Xe Xg b0,Xe Xg b1,Xe Xg b2,Xe Xg b3,Xe Xg b4,Xe Xg b5,Xe Xg b6,Xe Xg b7,Xh ic,Xh Xc]):=X2.out.aV o4 HN2.out;have HC4:Xo (Chg w0 p w V (Zm {m with fs:=m.fs.set k {fr with u:=true}} q (n:Int) {Ju {m with fs:=m.fs.set k {fr with u:=true}} q (n:Int)with wr:=true}) W4):=show Chg _ _ _ _ _ _ from Chg.step O2.out D2.out ⟨V4,m4,o4,d4⟩;clear m4 o4 d4 X2 M2 O2 D2;have u7:=X4.out.box.c 7 rfl;cases sh with
  |false=>
   have HR:Xo (Chg w0 p w V (Jo m q n k fr Xc Xd) W4):=show Chg _ _ _ _ _ _ by rw[H2.out];exact HC4.out
   go_wp2;exact Wq HR.out
  |true=>
   obtain⟨mE,HME⟩:∃mE,Xo (Zm {m with fs:=m.fs.set k {fr with u:=true}} q (n:Int) {Ju {m with fs:=m.fs.set k {fr with u:=true}} q (n:Int)with wr:=true}=mE):=⟨_,rfl⟩;have HFE:Xo (mE.fs=m.fs.set k {fr with u:=true}):=show _=_ by rw[<-HME.out];rfl
   rw[HME.out]at HC4 H3;clear HME;obtain⟨V5,m5,o5,d5⟩:=HC4.out;have M5:Xo (ChW w0 p W4 V5 mE):=m5;have O5:Xo (qR (Dw p V) w W4):=o5;have D5:Xo (∀k,Dw p V5 k->Dw p V k\/w.heap.size<=k):=d5;have hfl:mE.fs.length=fn:=(by rw[HFE.out,Xu,HFN.out]);obtain⟨g5,c5,heq⟩:=m5.fs.aG (by rw[hfl];omega);have f0:=m5.box.box.c 0 rfl;rw[heq,hfl]at f0;have HK5:Xo (mE.fs[k]?=Xa {fr with u:=true}):=show _=_ by rw[HFE.out,sF (gS.1 HK.out).1]
   have HFO:Xo (zb q7 w0.heap.size W4 (O (Xa ⟨g5,0,Xb⟩) fn c5) mE.fs):=show zb _ _ _ _ _ by rw[<-hfl,<-heq];exact m5.fs
   have HG5:Xo (oB V5.f g5):=show oB _ _ by unfold oB;rw[heq];rfl
   have HEQ5:Xo (O V5.f.a V5.f.n V5.f.c=O (Xa ⟨g5,0,Xb⟩) fn c5):=show _=_ by rw[heq,hfl]
   have u0:=X4.out.box.c 0 rfl;clear m5 o5 d5 heq hfl HC4;go_wp2_with(refine zx (E:=q7) rfl (.tmp 34) (.const (Xh Xc)) 4 rfl w0.heap.size _ mE.fs HFO.out g5 k 10 rfl {fr with u:=true} {fr with u:=true,d:=true} HK5.out [Xh Xc] Kr rfl (Ol rfl) (by intro u hu;simp at hu;subst hu;rfl) ⟨g5,k*13+10,Xb⟩ rfl rfl _ rfl rfl ?_)
   intro W6 ow6 gr6 _;have HR:Xo (Chg w0 p w V (Jo m q n k fr Xc Xc) W6):=show Chg _ _ _ _ _ _ by
    rw[H3.out];refine Chg.step O5.out D5.out (M5.out.frame HG5.out gr6 ?_);(try simp only[Sli.x]);rw[HEQ5.out];exact ow6
   clear ow6 gr6 f0 u0 u7;go_wp2;exact Wq HR.out
theorem zpH(h:zbb m Xb m.ca=0)(file idx:Int):zT m file idx=match Q7 m.ca (file,idx)with|some z=>pgL (zY m z).p|none=>Qm m file idx:=by
 cases f:Q7 m.ca (file,idx)with
 |some z=>
  obtain⟨e,b,c,i⟩:=zcb f;have a:=QY h b;simp only[pJ]at c;rw[<-c.1,<-c.2]at a;unfold zT;rw[a];simp only;rw[i]
 |none=>
  have g:=zca.1 f;have a:m.ca.find? (QC file idx)=Xb:=by
   rw[Yn];intro e b d;simp only[QC,Yv,decide_eq_true_eq]at d;exact g e b (by rw[d.1,d.2])
  unfold zT;rw[a];rfl
theorem zr0(h:zbb m Xb m.ca=0){idx:Int}(e:Q7 m.ca (R,idx)=Xa z):0<=z/\z<(m.fs.length:Int):=by obtain⟨c,a,b,d⟩:=zcb e;have:=(Zn ((zo.1 h).1 c a)).1;omega
theorem zh9(V:MaV)(m:Ma)(B fi ix:Nat)(f:Fl)(a1:Int)(w)(y:zQ w V m)(j:zbb m Xb m.ca=0)(a2:m.fl[fi]?=Xa f)(t:f.bl[ix]?=Xa a1)(u:ix<=1000)(v:0<=f.size/\f.size<=1000)(d:QA plK w B (Q7 m.ca)):
  Xp prog 109 #[Xi #[V.f.x,I6 m.aB,V.s.x,V.sb.x,V.sq.x,V.db.x,V.dq.x,V.fl.x,I6 m.cnt,V.ca.x,V.sp.x,.map (Xa B)],I6 (fi:Int),I6 (ix:Int)] w fun e w'=>e=Xl (Xi (pgc (zT m fi ix)).toArray)/\(zT m fi ix).length=8/\zc w w':=by
 have s:Xo (∀W,zc w W->Xp prog 138 #[Xi (mL V m).toArray,I6 (fi:Int),I6 (ix:Int)] W fun e w'=>e=Xl (Xi (pgc (Qm m fi ix)).toArray)/\(Qm m fi ix).length=8/\zc W w'):=dD<|fun W ad=>zdM V m fi ix f a1 W (y.aA ad) a2 t u v;have p:=dD y.bB;obtain⟨M,-⟩:=y.ns;have b:Xo (zT m fi ix=match Q7 m.ca ((fi:Int),(ix:Int))with|some z=>pgL (zY m z).p|none=>Qm m fi ix):=zpH j _ _;have q:=dD<|fun z(ae:Q7 m.ca ((fi:Int),(ix:Int))=Xa z)=>zr0 j ae;obtain⟨⟨a9,ab,aa⟩,af,S,U,P,Q,R,N,T⟩:=V;dsimp only[mL]at M s p⊢;have r:=dD M.symm;obtain⟨h,c⟩:=kB ((w.alloc (Xk #[O a9 ab aa,I6 m.aB,af.x,S.x,U.x,P.x,Q.x,R.x,I6 m.cnt,N.x,T.x,.map (Xa B)] 140)).alloc (Xk #[U8 0,U8 0,U8 0,U8 0,U8 0,U8 0,U8 0,U8 0] 44));have n:=gD2 c;have G:=x2a c;have a0:Xo (Box h (w.heap.size+1) (pgc zu)):=dD<|by rw[<-c];exact Box.aF _ (pgc zu) _ Sm
 have a:(Instr.lookup 138 (.map (Xa B)) (Xi #[I6 (fi:Int),I6 (ix:Int)]) Xc).run prog h=.ok (Xm #[I6 ((Q7 m.ca ((fi:Int),(ix:Int))).getD 0),Xh (Q7 m.ca ((fi:Int),(ix:Int))).isSome]) h:=(d.aA n).look (K:=plK) underlying138 (zsG h) ((fi:Int),(ix:Int)) Xc;have E:Xo (_=h):=c;obtain⟨ac,D⟩:=kA (Q7 m.ca ((fi:Int),(ix:Int)));rw[D.out]at a b q;obtain⟨a4,a6⟩:=kA (zT m fi ix);rw[a6.out]at b⊢;clear c y j a2 t u v d M;go_enter func109,ntmps109;go_upto_region 1 with fail;rw[E.out];have Z:=G.c 11 rfl;cases ac with
 |none=>
  simp only[Option.getD_none,Option.isSome_none]at a b;have L:=s.out h n.out;rw[<-b.out]at L;obtain⟨X,ag,ah,ai,aj,ak,al,am,an,ao,Y⟩:=G.aZ;go_wp2_with fail;refine L.mono ?_;clear L a X ag ah ai aj ak al am an ao Y Z;rintro b2 ar⟨rfl,l,H⟩;have a5:=dD (n.trans H);have a7:=dD (a0.aA H);clear H;go_wp2_with(refine zn rfl 44 (.tmp 6) (.tmp 31) rfl (w.heap.size+1) rfl (pgc a4) rfl a7 (by rw[ZW,l];rfl) zsE (qE _) ?_)
  intro F i k _;have g:Xo (zc w F):=dD<|zd a5 k Wm;go_wp2;refine bodyPost_ret (z7 rfl _ rfl i underlying44 rfl (by rw[ZW,l];exact zsE)) rfl ⟨rfl,l,g⟩
 |some z=>
  simp only[Option.getD_some,Option.isSome_some]at a b;obtain⟨ap,aq⟩:=q.out z rfl;obtain⟨A,rfl⟩:∃A:Nat,z=(A:Int):=⟨z.toNat,Wm⟩;rw[r.out]at aq;obtain⟨C,I⟩:∃C,Xo (m.fs[A]?=Xa C):=⟨_,gE (by rw[r.out];omega)⟩;rw[zI I.out]at b;obtain⟨a8,x,a3⟩:=p.out A C I.out;obtain⟨au,av,aw,ax,ay,az,b0,b1,-⟩:=a3 h n.out;have X:=G.c 0 rfl;rw[x]at X;clear a3 x ap;go_wp2_with(refine zn rfl 44 (.tmp 6) (.tmp 26) rfl (w.heap.size+1) rfl (pgc (pgL C.p)) rfl a0 rfl zsE (qE _) ?_)
  intro F i k _;have g:Xo (zc w F):=dD<|zd n k Wm;go_wp2;refine bodyPost_ret (z7 rfl _ rfl i underlying44 rfl zsE) rfl ⟨by rw[b.out],Rr b.out,g⟩
theorem zqf(h:maW m=0):zO m.sb.length m.sq=0:=by have a:=Qj h;unfold JX at a;rw[zk]at a;exact a _ Sm
theorem zkI(h:zO k g=0)(b:0<=z)(c:z<(k:Int)):zp k g z=0:=by grind[zp,ZE]
theorem zns(h:maW m=0){f:Fl}(c:m.fl[fi]?=Xa f):(0<=f.size/\f.size<=1000)/\f.bl.length<=12:=by have a:=Qj h;unfold JX at a;rw[zk]at a;have b:=((z8 _ _).1 (a (stW m.fl m.cnt) Sm)).2.1 f (mG c);have d:=b.2.1;have e:=b.1;grind[zam]
theorem zq2(h:maW m=0):zbb m Xb m.ca=0:=by unfold maW at h;rw[zk]at h;exact h _ Sm
theorem zqG(a:0<=z)(b:0<=R):zpf m.fl z R=decide (R<bkN m z):=by unfold zpf bkN;rw[Bool.eq_iff_iff,Yv,Q1,Q1,decide_eq_true_eq];grind
theorem zgz(V:MaV)(m:Ma)(B:Nat)(a:Ar)(n:Nat)(e:En)(w)(h:zQ w V m)(y:maW m=0)(r:jS a)(F:a.fr<=(n:Int)/\(n:Int)<a.tz)(Z:e.kind=1->0<=e.n/\e.n<(m.fs.length:Int))(Q:e.kind=2->0<=e.n/\e.n<(m.sb.length:Int))(c:QA plK w B (Q7 m.ca)):
  Xp prog 68 #[Xi #[V.f.x,I6 m.aB,V.s.x,V.sb.x,V.sq.x,V.db.x,V.dq.x,V.fl.x,I6 m.cnt,V.ca.x,V.sp.x,.map (Xa B)],Xi #[I6 a.fr,I6 a.tz,Xh a.rd,Xh a.wr,Xh a.sh,I6 a.file,I6 a.base],I6 (n:Int),Xi #[I6 e.kind,I6 e.n,Xh e.wr]] w fun K w'=>K=Xl (zbp (ZZ m (z5 a n) e))/\(ZZ m (z5 a n) e).1.length=8/\zc w w':=by
 have g:=dD h;have i:=dD c;have L:=dD<|fun W(d:Nat)(k:Nat)f G(b:zc w W)(A:m.fl[d]?=Xa f)(j:f.bl[k]?=Xa G)(l:k<=1000)=>zh9 V m B d k f G W (g.aA b) (zq2 y) A j l (zns y A).1 (i.aA b);have N:=dD<|fun W i(b:zc w W)=>zj3 _ m.sb m.sq i W ⟨_,_,rfl,(g.aA b).sb,(g.aA b).sq⟩;have M:=dD<|fun W file j(b:zc w W)=>zbB _ m.fl m.cnt file j W (g.aA b).fl;have X:Xo (∀i,(qO m.sb m.sq i).length=8):=dD<|fun i=>zfr h.sb.2.1 h.sq.2.1;have a7:=dD<|zqf y;have u:=dD h.bB;have b:=dD<|fun(d:Nat)f(A:m.fl[d]?=Xa f)=>(zns y A).2;have ag:Xo (∀W,Xp prog 107 #[Xi #[I6 a.fr,I6 a.tz,Xh a.rd,Xh a.wr,Xh a.sh,I6 a.file,I6 a.base],I6 (n:Int)] W fun e w'=>e=Xl (I6 (a.base+(n:Int)-a.fr))/\zc W w'):=dD<|fun W=>J2 a n W (by unfold jS at r;omega) (by unfold jS at r;omega) (by unfold jS at r;omega);obtain⟨W,-,-,-,-,-,aa,-,-⟩:=h.ns;have b:Xo (ZZ m (z5 a n) e=if e.kind=1 then(pgL (zY m e.n).p,decide ((zY m e.n).f<0),0)else if e.kind=2 then(qO m.sb m.sq e.n,Xc,0)else if a.file<0 then(zu,Xd,0)else if bkN m a.file<=a.base+(n:Int)-a.fr then(zu,Xd,9)else(zT m a.file (a.base+(n:Int)-a.fr),Xd,0)):=dD<|by
  unfold ZZ z5;rw[kF Sm];by_cases l:e.kind=1;·rw[kE l,kE l]
  rw[kF l,kF l];by_cases p:e.kind=2;·rw[kE p,kE p]
  rw[kF p,kF p];by_cases t:a.file<0;·rw[kE t,kE t]
  rw[kF t,kF t];have g:(if 0<=a.file then a.base+((n:Int)-a.fr)else 0)=a.base+(n:Int)-a.fr:=by rw[kE Wm];omega
  simp only[g]
 obtain⟨ac,g⟩:=kA (ZZ m (z5 a n) e);rw[g.out]at b⊢;obtain⟨⟨Y,a9,a8⟩,ab,⟨z,D,C⟩,⟨E,P,H⟩,S,T,⟨j,v,q⟩,R,U⟩:=V;dsimp only[mL]at W aa L N M u⊢;have g:=dD W.symm;have ah:Xo (0<=a.file->0<=a.base+(n:Int)-a.fr/\a.base+(n:Int)-a.fr<=100):=show _->_ from fun _=>by unfold jS at r;omega
 clear h y r F c W aa;obtain⟨r,c⟩:=kB ((((w.alloc (Xk #[O Y a9 a8,I6 m.aB,ab.x,O z D C,O E P H,S.x,T.x,O j v q,I6 m.cnt,R.x,U.x,.map (Xa B)] 140)).alloc (Xk #[I6 a.fr,I6 a.tz,Xh a.rd,Xh a.wr,Xh a.sh,I6 a.file,I6 a.base] 77)).alloc (Xk #[I6 e.kind,I6 e.n,Xh e.wr] 55)).alloc (Xk #[U8 0,U8 0,U8 0,U8 0,U8 0,U8 0,U8 0,U8 0] 44));have F:Xo (zc w r):=dD<|by rw[<-c];exact(((za _ _).trans (za _ _)).trans (za _ _)).trans (za _ _)
 have W:Xo (Box r w.heap.size [O Y a9 a8,I6 m.aB,ab.x,O z D C,O E P H,S.x,T.x,O j v q,I6 m.cnt,R.x,U.x,.map (Xa B)]):=dD<|by rw[<-c];exact(((Box.aF _ _ _ rfl).alloc _).alloc _).alloc _
 have z:Xo (Box r (w.heap.size+1) [I6 a.fr,I6 a.tz,Xh a.rd,Xh a.wr,Xh a.sh,I6 a.file,I6 a.base]):=dD<|by rw[<-c];exact((Box.aF _ _ _ Sm).alloc _).alloc _
 have j:Xo (Box r (w.heap.size+1+1) [I6 e.kind,I6 e.n,Xh e.wr]):=dD<|by rw[<-c];exact(Box.aF _ _ _ Sm).alloc _
 have P:Xo (Box r (w.heap.size+1+1+1) (pgc zu)):=dD<|by rw[<-c];exact Box.aF _ (pgc zu) _ Sm
 have h:=dD c;clear c;go_enter func68,ntmps68;go_upto_region 1 with fail;rw[h.out];obtain⟨aj,Y⟩:=j.k2;by_cases l:e.kind=1
 ·have U:(e.kind==1)=Xc:=by simp[l]
  obtain⟨D,E⟩:=Z l;obtain⟨i,v⟩:∃i:Nat,e.n=(i:Int):=⟨e.n.toNat,Wm⟩;rw[v]at E D;rw[g.out]at E;obtain⟨q,h⟩:∃q,Xo (m.fs[i]?=Xa q):=⟨_,gE (Hm g.out)⟩;have j:Xo (ac=(pgL q.p,decide (q.f<0),0)):=dD (by rw[b.out,kE l,v,zI h.out]);obtain⟨c,g,c⟩:=u.out i q h.out;obtain⟨ab,ac,ad,ae,ai,ak,al,am,an,ao,u,C,H⟩:=c r F.out;have af:=W.c 0 rfl;rw[g]at af;rw[v]at Y;clear c g l v Z Q D;go_upto_region 4 with fail;obtain⟨h,g⟩:=kA r.heap.size;refine nW fun y c=>?_;have S:=gP c;have a9:=xP c g;have a8:=dD (F.trans S);have aa:=dD (P.aA S);have T:w.heap.size+1+1+1≠h:=by have:=P.lt;have Q:=g.out;omega
  have R:h≠w.heap.size+1+1+1:=fun ap=>T ap.symm;rw[g.out];clear c S af aj Y ab ac ad ae ai ak al am an ao u C H;obtain⟨c,g⟩:=Ww fun u=>zc w u/\Box u h [U8 q.p.b0,U8 q.p.b1,U8 q.p.b2,U8 q.p.b3,U8 q.p.b4,U8 q.p.b5,U8 q.p.b6,U8 q.p.b7,I6 q.r,Xh q.u,Xh q.d,I6 q.f,I6 q.x]/\∃H,Box u (w.heap.size+1+1+1) H/\H.length=8;have S:zc y y.drew:=(gW _);have C:c y.drew:=(g _).2 ⟨a8.trans S,a9.aA S,_,aa.aA S,rfl⟩;have a9:=fun y:zg c=>((g _).1 y.holds).2.1.c 0 rfl;have aa:=fun y:zg c=>((g _).1 y.holds).2.1.c 1 rfl;have ab:=fun y:zg c=>((g _).1 y.holds).2.1.c 2 rfl;have ac:=fun y:zg c=>((g _).1 y.holds).2.1.c 3 rfl;have ad:=fun y:zg c=>((g _).1 y.holds).2.1.c 4 rfl;have ae:=fun y:zg c=>((g _).1 y.holds).2.1.c 5 rfl;have ai:=fun y:zg c=>((g _).1 y.holds).2.1.c 6 rfl;have ak:=fun y:zg c=>((g _).1 y.holds).2.1.c 7 rfl;have T:=fun y:zg c=>((g _).1 y.holds).2.1.c 11 rfl;have S:Nonempty (zg c):=⟨⟨_,C⟩⟩;refine qX (I:=c) 8 [(5,⟨fun _=>True,fun _ u=>Box u (w.heap.size+1+1+1) (pgc (pgL q.p)),fun y K=>True,fun _=>True⟩)] C z1 Kr rfl rfl Dc (Sa ⟨Xh Xc,trivial⟩) ?hp ?hpre ?hpr0 ?_;case hp=>
   intro i s an am v a8 u c c y q al c;have h:=zB v;have c:=zB a8;simp only[mC,pJ,nM,or_false]at h c;exact absurd (c.1.trans h.1.symm) u
  case hpre=>
   intro an am i s a8 v u y q al u;have c:=zB a8;simp only[mC,pJ,nM,or_false]at c;obtain⟨rfl,rfl⟩:=c;trivial
  case hpr0=>
   intro i am v;have h:=zB v;simp only[mC,pJ,nM,or_false]at h;obtain⟨rfl,rfl⟩:=h;trivial
  simp only[Yp,Yq];iterate 5 refine zs ?_
  refine zR rfl rfl (fun w' c u h=>?_) (fun i i=>?_)
  ·obtain⟨u,v,H,H,i⟩:=(g _).1 c;refine zL.storeAll 44 (.tmp 8) (.tmp 28) rfl (w.heap.size+1+1+1) rfl (pgc (pgL q.p)) rfl H (Rr i) (Rx i zsE) (qE _) fun c c i q=>?_;exact⟨(g _).2 ⟨zd u i Wm,v.grown i R,_,c,rfl⟩,trivial,trivial,c⟩
  simp only[Yd];iterate 2 refine zs ?_
  refine Zx fun c c h=>?_;have q:=dD<|h 5;have i:=dD<|((g _).1 c).1;clear h c C S a9 aa ab ac ad ae ai ak T;go_wp2;refine bodyPost_ret (zJ rfl _ rfl q underlying44 rfl zsE) rfl ⟨Rr j.out,Rr j.out,i⟩
 have U:(e.kind==1)=Xd:=by simp[l]
 rw[kF l]at b;by_cases p:e.kind=2
 ·have H:(e.kind==2)=Xc:=by simp[p]
  rw[kE p]at b;obtain⟨D,E⟩:=Q p;have c:=dD<|zkI a7 D E;have h:=N.out r e.n F.out;rw[c.out]at h;obtain⟨y,S⟩:=kA (qO m.sb m.sq e.n);have c:Xo (y.length=8):=show _=_ by rw[<-S.out];exact X _
  rw[S.out]at b h;obtain⟨a7,a8,a9,aa,ab,ac,ad,ae,rfl⟩:=zcE y c.out;have ak:=W.c 3 rfl;have al:=W.c 4 rfl;clear l p D E Z Q;go_wp2_with fail;refine h.mono ?_;clear h ak al aj Y;rintro K T⟨rfl,q⟩;have R:=dD (F.trans q);have ai:=dD (P.aA q);simp only[pgc,mP,Yt];go_upto_region 7 with fail;obtain⟨c,g⟩:=kA T.heap.size;refine nW fun am c=>?_;have u:=gP c;have i:=xP c g;have C:=dD (R.trans u);have X:=dD (ai.aA u);rw[g.out];clear c u q;have j:=b;obtain⟨c,c,c,c,c,c,c,c⟩:=i.c8;go_wp2_with(refine zn rfl 44 (.tmp 8) (.tmp 43) rfl (w.heap.size+1+1+1) rfl (pgc [a7,a8,a9,aa,ab,ac,ad,ae]) rfl X rfl zsE (qE _) ?_)
  intro v g i _;have c:Xo (zc w v):=dD<|zd C i Wm;go_wp2;refine bodyPost_ret (zJ rfl _ rfl g underlying44 rfl zsE) rfl ⟨Rr j.out,Rr j.out,c⟩
 have H:(e.kind==2)=Xd:=by simp[p]
 rw[kF p]at b;clear l p Z Q;have p:=z.c 5 rfl;by_cases t:a.file<0
 ·have N:decide (a.file<0)=Xc:=decide_eq_true t;rw[kE t]at b;have j:=b;clear t;go_wp2_with(refine zn rfl 44 (.tmp 8) (.tmp 48) rfl (w.heap.size+1+1+1) rfl (pgc zu) rfl P rfl zsE (qE _) ?_)
  intro v g i _;have c:Xo (zc w v):=dD<|zd F i Wm;go_wp2;refine bodyPost_ret (zJ rfl _ rfl g underlying44 rfl zsE) rfl ⟨Rr j.out,Rr j.out,c⟩
 have N:decide (a.file<0)=Xd:=decide_eq_false t;rw[kF t]at b;obtain⟨D,E⟩:=ah.out Wm;obtain⟨d,l⟩:∃d:Nat,a.file=(d:Int):=⟨a.file.toNat,Wm⟩;obtain⟨k,t⟩:∃k:Nat,a.base+(n:Int)-a.fr=(k:Int):=⟨(a.base+(n:Int)-a.fr).toNat,Wm⟩;have h:=ag.out r;rw[t]at h D E;rw[t,l]at b;have r:=dD l;clear l t;have l:=z.c 0 rfl;have t:=z.c 1 rfl;have D:=z.c 2 rfl;have E:=z.c 3 rfl;have Q:=z.c 4 rfl;have Z:=z.c 6 rfl;go_wp2_with fail;refine h.mono ?_;clear h l t D E Q p Z aj Y N U H;rintro K T⟨rfl,q⟩;have R:=dD (F.trans q);have l:=dD (W.aA q);have D:=dD (z.aA q);have ai:=dD (P.aA q);clear q;have h:=M.out T (d:Int) (k:Int) R.out;rw[zqG Wm Wm]at h;have p:=D.c 5 rfl;rw[r.out]at p;have t:=l.c 7 rfl;have z:=l.c 8 rfl;go_wp2_with fail;refine h.mono ?_;clear h p t z;rintro K am⟨rfl,u⟩;have C:=dD (R.trans u);have F:=dD (l.aA u);have E:=dD (D.aA u);have X:=dD (ai.aA u);clear u;by_cases l:bkN m (d:Int)<=(k:Int)
 ·rw[kE l]at b;rw[decide_eq_false (by omega:¬(k:Int)<bkN m (d:Int))];have j:=b;clear l;go_wp2_with(refine zn rfl 44 (.tmp 8) (.tmp 60) rfl (w.heap.size+1+1+1) rfl (pgc zu) rfl X rfl zsE (qE _) ?_)
  intro v g i _;have c:Xo (zc w v):=dD<|zd C i Wm;go_wp2;refine bodyPost_ret (zJ rfl _ rfl g underlying44 rfl zsE) rfl ⟨Rr j.out,Rr j.out,c⟩
 rw[kF l]at b;rw[decide_eq_true (by omega:(k:Int)<bkN m (d:Int))];obtain⟨f,A⟩:∃f,m.fl[d]?=Xa f:=by
  cases q:m.fl[d]? with
  |some f=>exact⟨f,rfl⟩
  |none=>
   exfalso;unfold bkN at l;rw[tN,gD,q]at l;simp at l
 obtain⟨G,q⟩:∃G,f.bl[k]?=Xa G:=⟨_,gE (by
  unfold bkN at l;rw[tN,gD,A]at l;simp only[Option.getD_some]at l
  omega)⟩
 have h:=L.out am d k f G C A q Wm;clear A q l;have p:=E.c 5 rfl;rw[r.out]at p;obtain⟨af,r,u,ak,al,A,D,t,z,E,l,q⟩:=F.c12;go_wp2_with fail;refine h.mono ?_;clear h p af r u ak al A D t z E l q;rintro K h⟨rfl,h,l⟩;have p:=dD (C.trans l);have q:=dD (X.aA l);clear l;obtain⟨y,S⟩:=kA (zT m (d:Int) (k:Int));rw[S.out]at b h⊢;obtain⟨a7,a8,a9,aa,ab,ac,ad,ae,rfl⟩:=zcE y h;have j:=b;clear h;simp only[pgc,mP,Yt];go_wp2_with(refine zn rfl 44 (.tmp 8) (.tmp 65) rfl (w.heap.size+1+1+1) rfl (pgc [a7,a8,a9,aa,ab,ac,ad,ae]) rfl q rfl zsE (qE _) ?_)
 intro v g i _;have c:Xo (zc w v):=dD<|zd p i Wm;go_wp2;refine bodyPost_ret (zJ rfl _ rfl g underlying44 rfl zsE) rfl ⟨Rr j.out,Rr j.out,c⟩
theorem zpY(d:maW m=0)(c:m.sp[k]?=Xa s)(p:b<64):((zh s b).kind=1->0<=(zh s b).n/\(zh s b).n<(m.fs.length:Int))/\((zh s b).kind=2->0<=(zh s b).n/\(zh s b).n<(m.sb.length:Int)):=by
 have a:=(zax d).1;have f:=znF d s (mG c) b p;have e:(ZJ m)[k]?=Xa (zh s):=by unfold ZJ;rw[Og,c];rfl
 have g:=(jT (a.en e p)).2.1.1;have h:=a.bE;grind[zal]
theorem zpG(a:∀p∈m.db,p.length=8)(b:∀q∈m.dq,q.2.length=8)(file idx:Int):(zT m file idx).length=8:=by
 unfold zT;split;·rfl
 exact zeG a b file idx
theorem zqn(a1:∀p∈m.sb,p.length=8)(a2:∀q∈m.sq,q.2.length=8)(a:∀p∈m.db,p.length=8)(b:∀q∈m.dq,q.2.length=8)(x:On)(e:En):(ZZ m x e).1.length=8:=by
 unfold ZZ;split;·rfl
 split;·rfl
 split;·exact zfr a1 a2
 split;·rfl
 split;·rfl
 grind[zpG]
theorem zmn(c:m.sp[k]?=Xa s)(a:zeU s.aC R z)(d:z<0):jW m (k:Int) R=(zu,Xd,5):=by
 by_cases h:0<=R/\R<=63
 ·obtain⟨p,rfl⟩:∃p:Nat,R=(p:Int):=⟨R.toNat,Wm⟩
  have b:=zko a;grind[zf6,ZZ]
 grind[zjV]
def Qo(m:Ma)(p n:Int)(wr:Bool)(a:Ar)(e:Int):Prop:=
 (e=5/\a=ar0/\((p<0\/(m.sp.length:Int)<=p)\/∃(pp:Nat)(s:Sp),p=(pp:Int)/\m.sp[pp]?=Xa s/\∀a∈s.aC,inZ a n=Xd))\/
 (∃(pp nn k:Nat)(s:Sp)(x:Ar),p=(pp:Int)/\n=(nn:Int)/\nn<64/\m.sp[pp]?=Xa s/\s.aC[k]?=Xa x/\jS x/\(x.fr<=(nn:Int)/\(nn:Int)<x.tz)/\zl s.aC nn=z5 x nn/\
  ((e=8/\a=ar0/\(if wr=Xc then x.wr else x.rd)=Xd)\/(e=0/\a=x/\(if wr=Xc then x.wr else x.rd)=Xc)))
theorem zkO(V m)(p n:Int)(wr:Bool)(w)(aj:zQ w V m)(az:maW m=0):
  Xp prog 30 #[Xi (mL V m).toArray,I6 p,I6 n,Xh wr] w fun e w'=>(∃(a:Ar)(H:Int),e=Xl (Xm #[Xi #[I6 a.fr,I6 a.tz,Xh a.rd,Xh a.wr,Xh a.sh,I6 a.file,I6 a.base],I6 H])/\Qo m p n wr a H)/\zc w w':=by
 have bg:=dD aj;have al:=dD az;have R:=dD<|fun W(bn:zc w W)=>zg3 V m W (bg.aA bn) az;obtain⟨-,-,-,-,-,-,-,-,b4⟩:=aj.ns;obtain⟨be,a2,s,a1⟩:=aj.aP;obtain⟨bc,bd,a8,a9,a5,a6,a7,a4,⟨K,j,a3⟩⟩:=V;dsimp only[mL]at b4 s R⊢;have A:=dD b4.symm;have au:Xo (be.length=j):=show _=_ by rw[a2];exact A.out
 have an:=dD s;have ap:=dD a1;clear aj b4 a2 s a1 az;obtain⟨B,v⟩:=kA w.heap.size;obtain⟨av,r⟩:=kB ((w.alloc (Xk #[bc.x,I6 m.aB,bd.x,a8.x,a9.x,a5.x,a6.x,a7.x,I6 m.cnt,a4.x,O K j a3] 41)).alloc (Xk #[I6 0,I6 0,Xh Xd,Xh Xd,Xh Xd,I6 0,I6 0] 77));have b7:=gD2 r;have b9:Xo (Box av B [bc.x,I6 m.aB,bd.x,a8.x,a9.x,a5.x,a6.x,a7.x,I6 m.cnt,a4.x,O K j a3]):=dD<|by rw[<-r];exact(Box.aF _ _ _ v.symm).alloc _
 have bj:Xo (zt av (B+1) 77 [I6 0,I6 0,Xh Xd,Xh Xd,Xh Xd,I6 0,I6 0]):=dD<|by rw[<-r];exact zt.aF _ [I6 0,I6 0,Xh Xd,Xh Xd,Xh Xd,I6 0,I6 0] _ (by have:=v.out;simp;omega)
 have ar:=dD r;clear r;go_enter func30,ntmps30;go_upto_region 1 with fail;rw[ar.out,v.out];obtain⟨bu,bv,bw,bx,bz,c0,c1,c2,c3,c4,E⟩:=b9.aZ;have X:=R.out av b7.out;go_wp2_with fail;refine X.mono ?_;clear X bu bv bw bx bz c0 c1 c2 c3 c4 E;rintro bt b8⟨rfl,ai⟩;have N:=dD (b7.trans ai);have bi:=dD (b9.aA ai);have aw:=dD (bj.aA ai);clear ai;have E:=bi.c 10 rfl;by_cases a0:p<0\/(j:Int)<=p
 ·by_cases C:p<0
  ·have b1:decide (p<0)=Xc:=decide_eq_true C;have x:Xo (Qo m p n wr ar0 5):=dD<|.inl ⟨rfl,rfl,.inl (Rx A.out a0)⟩;clear a0 C;go_wp2_with(refine z6 rfl 77 (.tmp 8) (.tmp 29) rfl (B+1) rfl [I6 0,I6 0,Xh Xd,Xh Xd,Xh Xd,I6 0,I6 0] rfl aw rfl Kr (by simp[Value.oneCell']) ?_)
   intro k b c _;have f:Xo (zc w k):=dD<|zd N c (Hm v.out);have d:=dD b;clear b c;go_wp2;refine bodyPost_ret (qY rfl _ rfl d.box underlying77 rfl Kr) rfl ⟨⟨ar0,5,rfl,x⟩,f⟩
  have b1:decide (p<0)=Xd:=decide_eq_false C;have Y:decide ((j:Int)<=p)=Xc:=decide_eq_true Wm;have x:Xo (Qo m p n wr ar0 5):=dD<|.inl ⟨rfl,rfl,.inl (Rx A.out a0)⟩;clear a0 C;go_wp2_with(refine z6 rfl 77 (.tmp 8) (.tmp 29) rfl (B+1) rfl [I6 0,I6 0,Xh Xd,Xh Xd,Xh Xd,I6 0,I6 0] rfl aw rfl Kr (by simp[Value.oneCell']) ?_)
  intro k b c _;have f:Xo (zc w k):=dD<|zd N c (Hm v.out);have d:=dD b;clear b c;go_wp2;refine bodyPost_ret (qY rfl _ rfl d.box underlying77 rfl Kr) rfl ⟨⟨ar0,5,rfl,x⟩,f⟩
 have b1:decide (p<0)=Xd:=decide_eq_false Wm;have Y:decide ((j:Int)<=p)=Xd:=decide_eq_false Wm;obtain⟨h,rfl⟩:∃h:Nat,p=(h:Int):=⟨p.toNat,Wm⟩;obtain⟨D,b2⟩:∃D,be[h]?=Xa D:=⟨_,gE (by rw[au.out];omega)⟩;obtain⟨y,aa⟩:∃y,Xo (m.sp[h]?=Xa y):=⟨_,gE (by rw[A.out];omega)⟩;have G:=dD<|ap.out h D y b2 aa.out;obtain⟨ax,ao,ba⟩:∃ax,Xo (K=Xa ax)/\∀W,zc w W->zkC W (ax.add (h*10)) D:=an.out h D b2;obtain⟨-,bk,-,-,-,-,-,-,-,-⟩:=ba b8 N.out;rw[ao.out]at E;have bq:(h:Int)<(j:Int):=Wm;clear ba b2 a0;have X:=zgM (D.ar.x) y.aC n b8 (G.ar.aA N);go_wp2_with fail;refine X.mono ?_;clear X bk E b1 Y;rintro bt bh⟨⟨bf,rfl,bb⟩,ay⟩;have Q:=dD bb;have L:=dD (N.trans ay);have S:=dD (aw.aA ay);clear ay bb;by_cases b3:bf<0
 ·have I:∀a∈y.aC,inZ a n=Xd:=by
   rcases Q with⟨t,a,M,_⟩|⟨_,br⟩;·omega
   exact br
  have x:Xo (Qo m (h:Int) n wr ar0 5):=dD<|.inl ⟨rfl,rfl,.inr ⟨h,y,rfl,aa,I⟩⟩;clear I;go_wp2_with(refine z6 rfl 77 (.tmp 8) (.tmp 41) rfl (B+1) rfl [I6 0,I6 0,Xh Xd,Xh Xd,Xh Xd,I6 0,I6 0] rfl S rfl Kr (by simp[Value.oneCell']) ?_)
  intro k b c _;have f:Xo (zc w k):=dD<|zd L c (Hm v.out);have d:=dD b;clear b c;go_wp2;refine bodyPost_ret (qY rfl _ rfl d.box underlying77 rfl Kr) rfl ⟨⟨ar0,5,rfl,x⟩,f⟩
 obtain⟨t,a,rfl,l,z⟩:∃(t:Nat)(a:Ar),bf=(t:Int)/\Xo (y.aC[t]?=Xa a)/\Xo (inZ a n=Xc):=by
  rcases Q with⟨t,a,M,b5,b6⟩|⟨M,_⟩;·exact⟨t,a,M,b5,b6⟩
  omega
 have P:=dD<|(jL.1 ((zht (Qj al)).ar y (mG aa)).1).2;have F:=dD<|zgQ P l.out;obtain⟨u,rfl⟩:∃u:Nat,n=(u:Int):=⟨n.toNat,by have bm:=zcJ.1 z.out;have b0:=F.out;unfold jS at b0;omega⟩;have Z:u<64:=by have bm:=zcJ.1 z.out;have b0:=F.out;unfold jS at b0;omega
 have am:Xo (zl y.aC u=z5 a u):=zbZ P l (Ry zjh z);have bo:t<D.ar.n:=by rw[G.ar.n];exact(gS.1 l).1
 have bp:(t:Int)<(D.ar.n:Int):=Wm;obtain⟨q,aq,ak⟩:∃q,Xo (D.ar.a=Xa q)/\Xo (∀W,zc w W->zjS W (q.add (t*7)) a):=by
  obtain⟨_,_,M,b5⟩:=G.ar.aC;simp only[vJ]at M;obtain⟨q,b6,bs⟩:=b5 t a l.out;exact⟨q,Rx M.1 b6,bs⟩
 have x:Xo (∀H ab,(H=8/\ab=ar0/\(if wr=Xc then a.wr else a.rd)=Xd)\/(H=0/\ab=a/\(if wr=Xc then a.wr else a.rd)=Xc)->Qo m (h:Int) (u:Int) wr ab H):=dD<|fun H ab bl=>.inr ⟨h,u,t,y,a,rfl,rfl,Z,aa,l,F,zcJ.1 z,am,bl⟩;rw[aq.out];obtain⟨ac,ae,T,U,af,ag,ah⟩:=ak.out bh L.out;clear b3;cases wr
 ·obtain⟨ok,g⟩:=kA a.rd;rw[g.out]at T;cases ok
  ·have i:Xo (Qo m (h:Int) (u:Int) Xd ar0 8):=x.out 8 ar0 (.inl ⟨rfl,rfl,g⟩)
   go_wp2_with(refine z6 rfl 77 (.tmp 8) (.tmp 55) rfl (B+1) rfl [I6 0,I6 0,Xh Xd,Xh Xd,Xh Xd,I6 0,I6 0] rfl S rfl Kr (by simp[Value.oneCell']) ?_)
   intro k b c _;have f:Xo (zc w k):=dD<|zd L c (Hm v.out);have d:=dD b;clear b c ac ae T U af ag ah;go_wp2;refine bodyPost_ret (qY rfl _ rfl d.box underlying77 rfl Kr) rfl ⟨⟨ar0,8,rfl,i⟩,f⟩
  have i:Xo (Qo m (h:Int) (u:Int) Xd a 0):=x.out 0 a (.inr ⟨rfl,rfl,g⟩);go_wp2_with(refine z6 rfl 77 (.tmp 8) (.tmp 59) rfl (B+1) rfl [I6 a.fr,I6 a.tz,Xh Xc,Xh a.wr,Xh a.sh,I6 a.file,I6 a.base] rfl S rfl Kr (by simp[Value.oneCell']) ?_)
  intro k b c _;have f:Xo (zc w k):=dD<|zd L c (Hm v.out);have d:=dD b;clear b c ac ae T U af ag ah;go_wp2;refine bodyPost_ret (qY rfl _ rfl d.box underlying77 rfl Kr) rfl ⟨⟨a,0,Rr g.out,i⟩,f⟩
 obtain⟨ok,g⟩:=kA a.wr;rw[g.out]at U;cases ok
 ·have i:Xo (Qo m (h:Int) (u:Int) Xc ar0 8):=x.out 8 ar0 (.inl ⟨rfl,rfl,g⟩)
  go_wp2_with(refine z6 rfl 77 (.tmp 8) (.tmp 55) rfl (B+1) rfl [I6 0,I6 0,Xh Xd,Xh Xd,Xh Xd,I6 0,I6 0] rfl S rfl Kr (by simp[Value.oneCell']) ?_)
  intro k b c _;have f:Xo (zc w k):=dD<|zd L c (Hm v.out);have d:=dD b;clear b c ac ae T U af ag ah;go_wp2;refine bodyPost_ret (qY rfl _ rfl d.box underlying77 rfl Kr) rfl ⟨⟨ar0,8,rfl,i⟩,f⟩
 have i:Xo (Qo m (h:Int) (u:Int) Xc a 0):=x.out 0 a (.inr ⟨rfl,rfl,g⟩);go_wp2_with(refine z6 rfl 77 (.tmp 8) (.tmp 59) rfl (B+1) rfl [I6 a.fr,I6 a.tz,Xh a.rd,Xh Xc,Xh a.sh,I6 a.file,I6 a.base] rfl S rfl Kr (by simp[Value.oneCell']) ?_)
 intro k b c _;have f:Xo (zc w k):=dD<|zd L c (Hm v.out);have d:=dD b;clear b c ac ae T U af ag ah;go_wp2;refine bodyPost_ret (qY rfl _ rfl d.box underlying77 rfl Kr) rfl ⟨⟨a,0,Rr g.out,i⟩,f⟩
theorem zb.other(h:zb E b w A y)(a:w.grownBy w' (Xa k))(d:zt w k t D)(ht:t≠E.ty):zb E b w' A y:=h.grown a fun v c e=>by
 cases e;exact h.ne d ht k c rfl
theorem zaY{g:Nat}{e:TypeId}(h:w.ownsRow b e k A p xs)(n:w.grownBy w' (Xa g))(q:zt w g t D)(ht:t≠e):w'.ownsRow b e k A p xs:=by
 have i:A.ownBlock≠Xa g:=fun s=>by
  obtain⟨_,_,u,f⟩:=zbu h s;have r:w.heap[g]?=_:=q;grind
 refine⟨h.1,?_⟩;rcases h.2 with j|⟨v,c,d,rfl,l,f,m⟩;·exact .inl j
 exact .inr ⟨v,c,d,rfl,l,by rw[n.block v (aS.1 f).1 (fun e=>by cases e;exact i rfl)];exact f,m⟩
theorem zt.off{a:TypeId}{ds:List Xq}(h:zt w b t D)(g:zt w k a ds)(ht:t≠a):b≠k:=fun e=>by
 subst e;have c:w.heap[b]?=Xa (Xk D.toArray t (0,0)):=h;have d:w.heap[b]?=Xa (Xk ds.toArray a (0,0)):=g;grind
theorem ziA.other(h:ziA k w V m)(cs:w.grownBy w' (Xa b))(a:zt w b 97 D):ziA k w' V m:=by obtain⟨v,⟨K,base,l,e,n⟩,t,u⟩:=h.fl;obtain⟨G,B,z,A,C,g,E⟩:=h.sp;refine⟨h.fs.other cs a Dc,h.sl.other cs a Dc,⟨zaY h.sb.1 cs a Dc,h.sb.2⟩,⟨zaY h.sq.1 cs a Dc,h.sq.2⟩,⟨zaY h.db.1 cs a Dc,h.db.2⟩,⟨zaY h.dq.1 cs a Dc,h.dq.2⟩,⟨v,⟨K,base.other cs a Dc,l,fun i x f d j=>⟨(e i x f d j).1,(e i x f d j).2.other cs a Dc⟩,n⟩,t,u⟩,h.ca.other cs a Dc,⟨G,B,z.other cs a Dc,A,C,g,fun i x y d p=>?_⟩,h.ap⟩;have c:=E i x y d p;exact⟨c.aE,c.ar.other cs a Dc,⟨c.tb.len,c.tb.aJ,fun s F H q r=>(c.tb.row s F H q r).other cs a Dc,c.tb.two⟩,c.arh,c.tbh⟩
theorem ChW.of(h:ziA B w V m)(s:w0.heap.size<=B)(X:zc w0 w)(lo:w0.heap.size<=k)(u:zt w k 102 (chL V m)):ChW w0 k w V m:=by
 obtain⟨a7,r,M,a3,a4,a5,a6⟩:=h.sp;have b:∀{W:Xn}{g f K:Nat}{j:TypeId}{v:Xq}{N:List Xq},qR (Dr w0.heap.size k V) w W->w.ownsRow g j f v K N->B<=g->Qg.ty≠j/\q7.ty≠j/\jI.ty≠j/\102≠j->W.ownsRow g j f v K N:=fun p n d D=>zcY n p fun U Y c=>by
  obtain⟨ab,ac,aa,ad⟩:=zbu n Y;rcases c with c|c|c|c|c;·omega
  ·subst c;have Q:w.heap[U]?=_:=u;grind
  ·obtain⟨y,C⟩:=h.fs.obj c
   grind
  ·obtain⟨y,C⟩:=h.ca.obj c
   grind
  obtain⟨y,C⟩:=M.obj c;grind
 have a:∀{W:Xn}{P:Type}{E:Elt P}{g:Nat}{v:Xq}{G:List P},qR (Dr w0.heap.size k V) w W->zb E g w v G->B<=g->Qg.ty≠E.ty/\q7.ty≠E.ty/\jI.ty≠E.ty/\102≠E.ty->zb E g W v G:=fun p n d D=>⟨b p n.1 d D,n.2⟩;refine⟨X,lo,u,h.fs.base s,h.ca.base s,⟨a7,M.base s,a3,fun i x L q Z W p=>?_⟩,fun W p=>?_⟩
 ·have e:=a6 i x L q Z;have l:B<=r i:=nT a4 (zgn a5 (nZ i));have a2:zaU (r i) (r (i+1)) W x L:=⟨e.aE,a p e.ar l Dc,⟨e.tb.len,e.tb.aJ,fun a1 v a8 I a0=>a p (e.tb.row a1 v a8 I a0) l Dc,e.tb.two⟩,e.arh,e.tbh⟩;exact a2.at
 obtain⟨lo,⟨a9,R,S,A,T⟩,H,ae⟩:=h.fl;have t:jU lo W (V.fl.x) m.fl:=⟨a9,a p R H Dc,S,fun i x z q F=>⟨(A i x z q F).1,a p (A i x z q F).2 H Dc⟩,T⟩;have d:=nR B;exact⟨(a p h.sl d Dc).at,zm.at ⟨b p h.sb.1 d Dc,h.sb.2⟩,zw.at ⟨b p h.sq.1 d Dc,h.sq.2⟩,zm.at ⟨b p h.db.1 d Dc,h.db.2⟩,zw.at ⟨b p h.dq.1 d Dc,h.dq.2⟩,t.new.now0⟩
theorem ChW.lower{u1:Xn}(h:ChW w1 k w V m)(u:w.grownBy u1 (Xa b))(n:b<w1.heap.size)(l:zc w0 u1)(d:w0.heap.size<=w1.heap.size):ChW w0 k u1 V m:=by obtain⟨g,j,t,v⟩:=h.sp;have f:∀{W:Xn},qR (Dr w0.heap.size k V) u1 W->qR (Dr w1.heap.size k V) w W:=fun c=>(qR.grown u (show Dr w1.heap.size k V b from .inl n)).trans (c.wide fun p a=>a.elim (fun e=>.inl (Yh e d)) .inr);exact⟨l,nT d h.lo,h.box.beside u (fun p e=>by cases e;have:=h.lo;omega),(h.fs.grown u (fun p a e=>by cases e;have:=(h.fs.lt _ a).1;omega)).base d,(h.ca.grown u (fun p a e=>by cases e;have:=(h.ca.lt _ a).1;omega)).base d,⟨g,(j.grown u (fun p a e=>by cases e;have:=(j.lt _ a).1;omega)).base d,t,fun r x s q i W c=>v r x s q i W (f c)⟩,fun W c=>h.rest W (f c)⟩
theorem zmP(V m)(w:Xn)(f:zQ w V m):
  Xp prog 32 #[Xi (mL V m).toArray] w fun e w'=>∃(p B:Nat)(V':MaV),e=Xl (Xj (Xa ⟨p,0,Xb⟩))/\ziA B w' V' m/\w.heap.size<=B/\w.heap.size<=p/\zt w' p 102 (chL V' m)/\zc w w':=by obtain⟨b,a⟩:=kB (w.alloc (Xk (mL V m).toArray 41));have c:=gA a;have g:=xA a;have d:=dD a;clear a;have a:=zoQ V m b (f.aA c);clear f;go_enter func32,ntmps32;go_upto_region 1 with fail;rw[d.out];obtain⟨f,h,i,j,k,l,n,q,r,s,d⟩:=g.aZ;go_wp2_with fail;refine a.mono ?_;clear a f h i j k l n q r s d;rintro e a⟨V',rfl,g,f⟩;have d:=dD (c.trans f);have i:=dD g;have h:=dD<|bS c.out;clear g f;have c:Xo (ziA b.heap.size (a.alloc (Xk (chL V' m).toArray 102)) V' m/\w.heap.size<=b.heap.size/\w.heap.size<=a.heap.size/\zt (a.alloc (Xk (chL V' m).toArray 102)) a.heap.size 102 (chL V' m)/\zc w (a.alloc (Xk (chL V' m).toArray 102))):=dD<|⟨i.aA (za _ _),h,bS d,zt.aF _ _ _ rfl,d.trans (za _ _)⟩;go_wp2;go_ret;exact⟨_,b.heap.size,V',rfl,c⟩
end
end Go.Proofs.YtkfjajbalegoeaaGreat
