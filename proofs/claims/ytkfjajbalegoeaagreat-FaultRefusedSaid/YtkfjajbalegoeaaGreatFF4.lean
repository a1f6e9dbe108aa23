import Derived.Test.YtkfjajbalegoeaaGreatFF3
import Derived.Lib.Overlaps
import Derived.Laws.Externs
import Derived.Lib.AppendZerosOnto
namespace Go.Proofs.YtkfjajbalegoeaaGreat
open Go.Value renaming slice→O,int→Xe,bool→Xh,agg→Xi,pointer→Xj,tuple→Xm
open Go.IntKind renaming i64→Xf,u8→Xg
open Go.Obj renaming cells→Xk
open Go.Ending renaming returned→Xl
open Go renaming World→Xn,Calls→Xp,Value→Xq
open Go.RowKit renaming Hid→Xo
open Option renaming some→Xa,none→Xb
open Bool renaming true→Xc,false→Xd
open List renaming replicate→Xr
open _root_.List renaming length_take→Xs,any_eq_true→Xt,length_set→Xu,flatMap_append→Xv,mem_singleton→Xw,length_drop→Xy,pairwise_iff_getElem→Ya,getElem?_of_mem→Yc,take_of_length_le→Yd,take_append_drop→Ye,take_left'→Yf,length_singleton→Yi,length_cons→Yj,takeWhile_cons→Yl,find?_eq_none→Yn,getElem?_cons_succ→Yo,take→Yp,drop→Yq,mem_range→Yr,append_assoc→Ys,map_nil→Yt,size_toArray→Yu,take_append_of_le_length→Yx,append_nil→Yz,take_take→Oc,mem_of_find?_eq_some→Od,ext_getElem?→Oe,take_add_one→Of,getElem?_map→Og,countP_cons→Oh,map_toArray→Oi,drop_of_length_le→Ok,mem_cons_of_mem→Om,findIdx_getElem→Oo,mem_of_mem_take→Oq,mem_cons_self→Ou,pairwise_cons→Ow
open _root_.Nat renaming mul_le_mul_right→Xx,min_eq_left→Xz,mod_eq_of_lt→Yg,lt_of_lt_of_le→Yh,mod_lt→Ym,add_mul→Yw,mod_add_mod→Yy,add_zero→Oa,add_sub_cancel_left→Oj,le_of_ble_eq_true→Ol
open Go.Act renaming put→Yb
open Go.Addr renaming add_lit→Yk
open _root_.Bool renaming and_eq_true→Yv,false_eq_true→Ov
open Go.Sem renaming run_bind→Ob,run_pure→Ox
open _root_.Array renaming toList_append→Ot,size_append→Oy
set_option maxRecDepth 100000
set_option maxHeartbeats 4000000
variable{α:Type}{a:Act}{R:Ar}{Y:Array Xq}{E:Elt α}{Z:En}{X:Fr}{H z:Int}{g:List (Int × List Int)}{r:List (List Int)}{d:List (Nat × Nat)}{K:List Oper}{D:List Xq}{y:List α}{b k p:Nat}{s:Sp}{w:Xn}{A:Xq}{M:Xq->Xn->Prop}
variable{B b fi ix:Nat} {Q:Exit->Act->Xn->Prop} {V:MaV} {W w' w0 w1:Xn} {m:Ma} {o:Oper} {ops:Array Oper} {t:TypeId} {xs:List Xq} {z:Int}
open Go.Proofs.Tryz
section
open Go.RowKit
def Zx:Nat->List Fr->Nat->List Fr × Nat × Int
 | 0,fs,h=>(fs,h,-1)
 | m+1,fs,h=>if zkq (fs.getD h fr0)then(fs.set h (frU (fs.getD h fr0)),(h+1) % fs.length,(h:Int))else Zx m (fs.set h (frU (fs.getD h fr0))) ((h+1) % fs.length)
def zby (fs:List Fr) (h:Int):List Fr × Nat × Int:=Zx (2*fs.length) fs h.toNat
def zcF (fs:List Fr) (h:Int):List Fr:=if ZW fs h=0 then(zby fs h).1 else []
def zed (fs:List Fr) (h:Int):Int:=if ZW fs h=0 then((zby fs h).2.1:Int)else 0
def zbc (fs:List Fr) (h:Int):Int:=if ZW fs h=0 then(zby fs h).2.2 else 0
theorem zrt (a) (c:Nat) (fs:List Fr) (l:Nat) (w:Xn) (aq:zr qR w (O a fs.length c) fs) (S:ZW fs (l:Int)=0):
  Xp prog 182 #[Xi #[O a fs.length c,I6 (l:Int)]] w fun e w'=>∃b,e= Xl (Xm #[Xi #[b,I6 ((Zx (2*fs.length) fs l).2.1:Int)],I6 (Zx (2*fs.length) fs l).2.2,I6 0])/\zb qR w.heap.size w' b (Zx (2*fs.length) fs l).1/\zc w w':=by
 have a3:=dD aq;have ah:∀W,zc w W->Xp prog 125 #[Xi #[O a fs.length c,I6 (l:Int)]] W fun e w'=>e= Xl (I6 (ZW fs (l:Int)))/\zc W w':=fun W ae=>by rw[S];exact QR a c fs _ W (a3.aA ae) S
 have ag:∀W,zc w W->Xp prog 46 #[Xi #[O a fs.length c,I6 (l:Int)]] W fun e w'=>∃b,e= Xl (Xi #[b,I6 (l:Int)])/\zb qR W.heap.size w' b fs/\zc W w':=fun W ae=>JI a c fs _ W (a3.aA ae);obtain⟨P,_,_,A⟩:=Zk S;have bb:=enters_of func189 Kr rfl;clear aq;obtain⟨n,a1⟩:=kA fs.length;simp only[a1.out,S]at ah a3 ag P A⊢;clear S;obtain⟨V,G⟩:=kA (Zx (2*n) fs l);rw[G.out];obtain⟨b9,p⟩:=kB ((w.alloc (Xk #[O a n c,I6 (l:Int)] 28)).alloc (Xk #[eS,I6 0] 28));have r:=gD2 p;have X:=x2a p;have am:=x2b p;have a4:=dD p;clear p;go_enter func182,ntmps182;go_upto_region 1 with fail;rw[a4.out];obtain⟨aa,ab⟩:=X.k2;go_wp2_with fail;refine(ah _ r).mono ?_;rintro e x ⟨rfl,ao⟩;have B:=dD ao;clear ao aa ab ah;obtain⟨aa,ab⟩:=(X.aA B).k2;go_wp2_with fail;refine(ag _ (r.trans B)).mono ?_;rintro e L ⟨b,rfl,i,ad⟩;obtain⟨D,m,rfl⟩:=i.form;rw[a1.out]at i⊢;have ay:=dD i;have aj:=dD (B.trans ad);have ac:=dD<|bS ad;have a7:=dD<|(am.aA B).lt;have a6:=dD<|bS (r.trans B);clear i ad aa ab ag;obtain⟨M,k⟩:=kB (L.alloc (Xk #[O D n m,I6 (l:Int)] 28));have an:=xT k;have K:Xo (zb qR x.heap.size M (O D n m) fs):=dD<|by rw[<-k];exact ay.aA (za _ _)
 have a9:Xo (Box M (w.heap.size+1) [eS,I6 0]):=dD<|by rw[<-k];exact(am.aA aj).alloc _
 have au:Xo (zc w M):=dD<|by rw[<-k];exact(r.trans aj).trans (za _ _)
 have a5:=dD k;clear k;go_wp2;rw[a5.out];go_loopg [8,9,23] (2*n) (fun az _ _ ai wr=>∃(h d:Nat) (g:List Fr),h<=2*n/\2*n - h<=az/\ai=I6 h/\d<max n 1/\Xo (g.length=n)/\Xo (Box wr L.heap.size [O D n m,I6 (d:Int)])/\Xo (zb qR x.heap.size wr (O D n m) g)/\Xo (Below x.heap.size M wr)/\Xo (Zx (2*n - h) g d=V))
 exact⟨0,l,fs,nZ _,Wm,rfl,Wm,a1,an.box,K,bR _ _,G⟩;obtain⟨h,d,g,b1,bc,rfl,b0,C,I,U,Z,Y⟩:=hrel;have u:=a7.out;have t:=a6.out;have j:=dD<|a9.below Z u;have ak:=dD<|Below.trans au (Z.mono t);by_cases b2:h<2*n
 ·have R:(h:Int)<2*(n:Int):=Wm
  obtain⟨s,ba,ap⟩:=U.aG (by rw[C.out];omega);rw[C.out]at ap;cases ap;obtain⟨q,al⟩:∃q,Xo (g[d]? =Xa q):=⟨_,gE (by rw[C.out];omega)⟩;have af:=U.lt s rfl;have a2:Xo (L.heap.size≠s):=(K.ne an Dc s rfl);have f:=zoM L.heap.size s n m d x.heap.size x.heap.size g q wr C P al I U a2 ac.out af.1;have Q:g.getD d fr0=q:=by rw[gD,al.out];rfl
  have H:Xo (Zx (2*n - h) g d=if zkq q then(g.set d (frU q),(d+1) % n,(d:Int))else Zx (2*n -(h+1)) (g.set d (frU q)) ((d+1) % n)):=dD<|by
   rw[show 2*n - h=(2*n -(h+1))+1 by omega,Zx,Q,C.out]
  clear Q;cases E:zkq q with
  | true=>
   rw[E]at f;have F:Xo (V=(g.set d (frU q),(d+1) % n,(d:Int))):=dD (by rw[<-Y.out,H.out,E,kE rfl]);clear E;go_wp2_with (go_at_call 189;refine f.mono ?_;rintro e z ⟨rfl,N,T,y⟩;obtain⟨b5,b7⟩:=(j.below y u).k2;have b8:=(j.below y u).f;obtain⟨b3,b4⟩:=N.k2;have a8:Xo (zb qR x.heap.size z (O (Xa ⟨s,0,Xb⟩) n m) (g.set d (frU q))):=T;have a0:Xo (zc w z):=show zc w z from Below.trans ak (y.mono t);clear T y)
   refine bodyPost_ret (v:= Xm #[Xi #[O (Xa ⟨s,0,Xb⟩) n m,I6 (((d+1) % n:Nat):Int)],I6 (d:Int),I6 0]) (by simp[results,Tryz.results182,go_sem, *]) rfl ⟨O (Xa ⟨s,0,Xb⟩) n m,?_,?_,?_⟩;·rw[F.out]
   ·rw[F.out];exact((a8.setCell (a:=⟨w.heap.size+1,0,Xb⟩) (by show w.heap.size+1<_;omega) _).setCell (a:=⟨w.heap.size+1,1,Xb⟩) (by show w.heap.size+1<_;omega) _).base t
   exact zB (zB a0 Sm _) Sm _
  | false=>
   rw[E]at f;have aw:Xo (Zx (2*n -(h+1)) (g.set d (frU q)) ((d+1) % n)=V):=dD (by rw[<-Y.out,H.out,E];rfl);clear E;go_wp2_with (go_at_call 189;refine f.mono ?_;rintro e z ⟨rfl,N,T,y⟩;have ar:Xo (Box z L.heap.size [O (Xa ⟨s,0,Xb⟩) n m,I6 (((d+1) % n:Nat):Int)]):=N;have a8:Xo (zb qR x.heap.size z (O (Xa ⟨s,0,Xb⟩) n m) (g.set d (frU q))):=T;have ax:Xo (Below x.heap.size M z):=Below.trans Z y;clear N T y)
   go_roundg (2*n -(h+1));exact⟨h+1,(d+1) % n,g.set d (frU q),Wm,Wm,Gn,(by have:=Ym (d+1) (show 0<n by omega);omega),(show(g.set d (frU q)).length=n by rw[Xu];exact C),ar,a8,ax,aw⟩;omega
 have R:¬(h:Int)<2*(n:Int):=Wm;have:h=2*n:=Wm;subst this;have F:Xo (V=(g,d,-1)):=dD<|by rw[<-Y.out,Nat.sub_self];rfl
 obtain⟨b5,b7⟩:=j.k2;have b8:=j.f;obtain⟨b3,b4⟩:=I.k2;go_wp2;refine bodyPost_ret (v:= Xm #[Xi #[O D n m,I6 (d:Int)],I6 (-1),I6 0]) (by simp[results,Tryz.results182,go_sem, *]) rfl ⟨O D n m,?_,?_,?_⟩;·rw[F.out]
 ·rw[F.out];exact((U.setCell (a:=⟨w.heap.size+1,0,Xb⟩) (by show w.heap.size+1<_;omega) _).setCell (a:=⟨w.heap.size+1,1,Xb⟩) (by show w.heap.size+1<_;omega) _).base t
 exact zB (zB ak Sm _) Sm _
theorem zoW (a) (c:Nat) (fs:List Fr) (h:Int) (w:Xn) (f:zr qR w (O a fs.length c) fs) (d:ZW fs h=0):
  Xp prog 182 #[Xi #[O a fs.length c,I6 h]] w fun e w'=>∃b,e= Xl (Xm #[Xi #[b,I6 (zed fs h)],I6 (zbc fs h),I6 (ZW fs h)])/\zb qR w.heap.size w' b (zcF fs h)/\zc w w':=by unfold zed zbc zcF zby;rw[kE d,kE d,kE d];obtain⟨g,rfl⟩:=Int.eq_ofNat_of_zero_le (Zk d).2.2.1;rw[tN,d];exact zrt a c fs g w f d
def Qn (m:Ma):Ma:={ m with fs:=zcF m.fs m.aB,aB:=zed m.fs m.aB }
theorem zrF (h:ChW w0 k w V m) (c:ZW m.fs m.aB=0):
  Xp prog 182 #[Xi #[V.f.x,I6 m.aB]] w fun e w'=>∃b:Sli,e= Xl (Xm #[Xi #[b.x,I6 (zed m.fs m.aB)],I6 (zbc m.fs m.aB),I6 0])/\zb qR w.heap.size w' (b.x) (zcF m.fs m.aB)/\zc w w':=by obtain⟨a,-⟩:=h.at.ns;have p:=h.at.fs;(try simp only[Sli.x]at p⊢);rw[a]at p⊢;refine(zoW V.f.a V.f.c m.fs m.aB w p c).mono ?_;rintro e w' ⟨b,rfl,d,h⟩;have a:zb qR w.heap.size w' b (zcF m.fs m.aB):=d;obtain⟨f,g,rfl⟩:=a.form;rw[c];exact⟨⟨f,_,g⟩,rfl,d,h⟩
theorem zhM:∀(m:Nat) (fs:List Fr) (h:Nat),h<fs.length->(∀q∈fs,q=frF)->Zx m fs h=(fs,(h+m) % fs.length,-1)
 | 0,fs,h,a,_=>by
  rw[Zx,Oa,Yg a]
 | m+1,fs,h,a,b=>by
  have d:fs.getD h fr0=frF:=by
   rw[gD,gE a];exact b _ (List.getElem_mem a)
  have e:fs.set h (frU frF)=fs:=by
   apply Oe;intro j;by_cases c:j=h;·subst c;rw[sF a,gE a,b _ (List.getElem_mem a)];rfl
   rw[sN (Ne.symm c)]
  rw[Zx,d,show zkq frF=Xd from rfl,e];rw[kF Dc,zhM m fs ((h+1) % fs.length) (Ym _ Wm) b];rw[Yy,Nat.add_assoc,Nat.add_comm 1 m]
theorem znq (a:frW X=0) (b:X.r=0):X=frF:=by grind [frW,inB,Ji,frF,zdE]
def zg3 (q:Fr):Bool:=decide (0<q.r)
theorem zlf {fs:List Fr} (a:ZW fs z=0) (e:fs.any zg3=Xd):zby fs z=(fs,z.toNat,-1):=by
 obtain⟨b,c,b,b⟩:=Zk a;have a:∀q∈fs,q=frF:=fun q b=>by
  have d:=List.any_eq_false.1 e q b;unfold zg3 at d;have d:=(zcj (c q b)).1;grind [znq]
 unfold zby;by_cases b:fs.length=0;·rw[b];rfl
 rw[zhM _ fs z.toNat Wm a,Nat.add_comm,Nat.two_mul,Nat.add_assoc,Nat.add_mod_left,Nat.add_mod_left,Yg Wm]
def zct (fs gs:List Fr):Prop:=gs.length=fs.length/\∀(i:Nat) q,fs[i]? =Xa q->∃q',gs[i]? =Xa q'/\(q'=q\/q'=frU q)
theorem zct.refl (fs):zct fs fs:=⟨rfl,fun _ q h=>⟨q,h,.inl rfl⟩⟩
theorem zct.set {fs a:List Fr} (h:zct fs a) (i:Nat):zct fs (a.set i (frU (a.getD i fr0))):=by
 refine⟨Rx Xu h.1,fun j q c=>?_⟩;obtain⟨d,a,b⟩:=h.2 j q c;by_cases e:j=i
 ·subst e;have c:=(gS.1 a).1;refine⟨frU d,?_,?_⟩;·grind
  right;rcases b with rfl|rfl <;> rfl
 grind
theorem zbz:∀(m:Nat) (fs b:List Fr) (h:Nat),zct fs b->h<b.length->∀(a:List Fr) (c:Nat) (r:Int),Zx m b h=(a,c,r)->zct fs a/\c<a.length/\(r=-1\/∃(k:Nat) (q:Fr),r=(k:Int)/\fs[k]? =Xa q/\0<q.r/\a[k]? =Xa (frU q)/\c=(k+1) % fs.length)
 | 0,fs,b,h,f,l,a,c,r,e=>by
  rw[Zx]at e;cases e;exact⟨f,l,.inl rfl⟩
 | m+1,fs,b,h,f,l,a,c,r,e=>by
  rw[Zx]at e;have j:=f.set h;have i:(h+1) % b.length< (b.set h (frU (b.getD h fr0))).length:=by
   rw[Xu];exact Ym _ Wm
  by_cases d:zkq (b.getD h fr0)=Xc
  ·rw[kE d]at e;cases e;refine⟨j,i,.inr ?_⟩;have g:h<fs.length:=Ry f.1 l;obtain⟨s,t,n⟩:=f.2 h fs[h] (gE g);have p:b.getD h fr0=s:=(by rw[gD,t];rfl);rw[p]at d;have b:0<s.r:=(by unfold zkq at d;simp at d;exact d.1);refine⟨h,fs[h],rfl,gE g,?_,?_,by rw[f.1]⟩
   ·rcases n with rfl|rfl
    ·exact b
    exact b
   rw[sF l,p];rcases n with rfl|rfl <;> rfl
  rw[kF d]at e;exact zbz m fs _ _ j i a c r e
theorem zlu {fs:List Fr} (b:∀q∈fs,0<=q.r):fs.countP zg3+qL fs=fs.length:=by
 induction fs with
 | nil=>rfl
 | cons a l d=>
  have c:=d fun q d=>b q (by simp[d]);have d:=b a Sm;unfold qL at c⊢;rw[Oh,Oh,Yj];by_cases b:a.r=0;·grind [zg3]
  grind [zg3]
theorem zfw:∀(d m:Nat) (a:List Fr) (h:Nat),h<a.length->d<m->zg3 (a.getD ((h+d) % a.length) fr0)=Xc->(a.getD ((h+d) % a.length) fr0).u=Xd->(Zx m a h).2.2≠-1
 | d,0,_,_,_,k,_,_=>Wm
 | d,m+1,a,h,c,k,hd,g=>by
  rw[Zx]
  by_cases hi:zkq (a.getD h fr0)=Xc
  ·rw[kE hi];simp only;omega
  rw[kF hi]
  cases d with
  | zero=>
   rw[Oa,Yg c]at hd g;unfold zkq at hi;unfold zg3 at hd;rw[hd,g]at hi;exact absurd rfl hi
  | succ d=>
   have f:(a.set h (frU (a.getD h fr0))).length=a.length:=Xu;have b:∀i,(a.set h (frU (a.getD h fr0))).getD i fr0=if i=h/\h<a.length then frU (a.getD h fr0)else a.getD i fr0:=fun i=>by
    rw[gD];by_cases e:i=h;·subst e;rw[kE ⟨rfl,c⟩,sF c];rfl
    rw[kF Wm,sN (Ne.symm e),<-gD]
   have j:((h+1) % a.length+d) % a.length=(h+(d+1)) % a.length:=(by rw[Yy,show h+1+d=h+(d+1) by omega]);refine zfw d m _ _ (by rw[f];exact Ym _ Wm) Wm ?_ ?_
   ·rw[f,j,b]
    split
    ·rename_i e
     rw[e.1]at hd;exact hd
    exact hd
   rw[f,j,b];split;·rfl
   exact g
theorem zee:∀(d m:Nat) (a:List Fr) (h:Nat),h<a.length->d+a.length<m->zg3 (a.getD ((h+d) % a.length) fr0)=Xc->(Zx m a h).2.2≠-1
 | d,0,_,_,_,j,_=>Wm
 | d,m+1,a,h,c,j,hd=>by
  rw[Zx]
  by_cases hi:zkq (a.getD h fr0)=Xc
  ·rw[kE hi];simp only;omega
  rw[kF hi];have e:(a.set h (frU (a.getD h fr0))).length=a.length:=Xu;have b:∀i,(a.set h (frU (a.getD h fr0))).getD i fr0=if i=h/\h<a.length then frU (a.getD h fr0)else a.getD i fr0:=fun i=>by
   rw[gD];by_cases f:i=h;·subst f;rw[kE ⟨rfl,c⟩,sF c];rfl
   rw[kF Wm,sN (Ne.symm f),<-gD]
  cases d with
  | zero=>
   rw[Oa,Yg c]at hd;have g:((h+1) % a.length+(a.length - 1)) % a.length=h:=by
    rw[Yy,show h+1+(a.length - 1)=h+a.length by omega,Nat.add_mod_right,Yg c]
   refine zfw (a.length - 1) m _ _ (by rw[e];exact Ym _ Wm) Wm ?_ ?_;·rw[e,g,b,kE ⟨rfl,c⟩];exact hd
   rw[e,g,b,kE ⟨rfl,c⟩];rfl
  | succ d=>
   have g:((h+1) % a.length+d) % a.length=(h+(d+1)) % a.length:=(by rw[Yy,show h+1+d=h+(d+1) by omega]);refine zee d m _ _ (by rw[e];exact Ym _ Wm) (by rw[e];omega) ?_;rw[e,g,b];split
   ·rename_i f
    rw[f.1]at hd;exact hd
   exact hd
theorem zle {fs:List Fr} (a:ZW fs z=0):
  (zbc fs z=-1/\qL fs=fs.length)\/∃(k:Nat) (q:Fr),zbc fs z=(k:Int)/\fs[k]? =Xa q/\0<q.r/\zct fs (zcF fs z)/\(zcF fs z)[k]? =Xa (frU q)/\zed fs z=(((k+1) % fs.length:Nat):Int):=by
 obtain⟨b,b,c,c⟩:=Zk a;have d:zbc fs z=(zby fs z).2.2:=kE a;have c:zcF fs z=(zby fs z).1:=kE a;have c:zed fs z=((zby fs z).2.1:Int):=kE a;cases c:fs.any zg3 with
 | false=>
  left;rw[d,zlf a c];refine⟨rfl,?_⟩;have a:=zlu (fs:=fs) (fun q l=>(zcj (b q l)).1);have a:fs.countP zg3=0:=by grind
  omega
 | true=>
  right;obtain⟨a,a,f⟩:=Xt.1 c;obtain⟨i,j⟩:=Yc a;have e:=(gS.1 j).1;have c:z.toNat<fs.length:=Wm;obtain⟨b,d,r,g⟩:∃b d r,Zx (2*fs.length) fs z.toNat=(b,d,r):=⟨_,_,_,rfl⟩;have a:r≠-1:=by
   have a:=zee ((i+fs.length - z.toNat) % fs.length) (2*fs.length) fs z.toNat c (by have:=Ym (i+fs.length - z.toNat) (show 0<fs.length by omega);omega) (by
    rw[Nat.add_mod_mod,show z.toNat+(i+fs.length - z.toNat)=i+fs.length by omega,Nat.add_mod_right,Yg e,gD,j]
    exact f)
   rw[g]at a;exact a
  obtain⟨a,a,a⟩:=zbz (2*fs.length) fs fs z.toNat (zct.refl fs) c b d r g;rcases a with a|⟨k,q,rfl,l,a,a,rfl⟩;·grind
  grind [zby]
theorem zfI (a:enW Z=0):∀(l:List (Nat × Nat)) {m:Ma},(∀s∈m.sp,QP s.tb)->(∀x∈l,x.1<m.sp.length/\x.2<64)->JP m Z l=Z9 m Z l
 | [],m,_,_=>rfl
 | x :: l,m,ht,b=>by
  obtain⟨c,d⟩:=b x (Ou ..)
  show JP (Zl m x.1 (x.2:Int) Z) Z l=Z9 (zai m x.1 x.2 Z) Z l;rw[JO ht c d a];exact zfI a l (zdw ht a) (fun y a=>by rw[zcC];exact b y (Om _ a))
theorem zhx:∀(l:List (Nat × Nat)) {m m0:Ma},m.sp=m0.sp->(Z9 m Z l).sp=(Z9 m0 Z l).sp
 | [],_,_,h=>h
 | x :: l,m,m0,h=>zhx l (m:=zai m x.1 x.2 Z) (m0:=zai m0 x.1 x.2 Z) (by unfold zai;simp only;rw[h])
theorem zcf (h:Rt m) (b:m.fs[k]? =Xa X) (a:X.r≠0):0<=X.r/\X.r<=1000/\ZS m.fs m.aB (k:Int) (-X.r)=0:=by
 obtain⟨a,c⟩:=zcj ((Zk h.parts.1).2.1 X (mG b));refine⟨a,c,?_⟩;have a:m.fs.getD k fr0=X:=by rw[gD,b];rfl
 have c:=(gS.1 b).1;unfold ZS;rw[kE h.parts.1,tN,a];grind [inB]
theorem zkm {m0:Ma} (h:Rt m0) (b:m.sp=m0.sp) (c:m.fs=m0.fs) (g:m.aB=m0.aB) (f:m0.fs[k]? =Xa X) (a:X.r≠0) (d:enW Z=0):
  zbj m k X.r Z={ m with fs:=m.fs.set k frF,sp:=m.sp.map (Qa (k:Int) Z) }:=by
 obtain⟨_,_,c⟩:=zcf h f a;have i:∀s∈m.sp,QP s.tb:=fun s a=>h.tb (Ry b a);have c:jK m 1 (k:Int) m.sp.length=jK m0 1 (k:Int) m0.sp.length:=by unfold jK;rw[b]
 have a:∀x∈jK m0 1 (k:Int) m0.sp.length,x.1<m.sp.length/\x.2<64:=fun x g=>by
  obtain⟨j,j,_⟩:=(zaP (m:=m0) Dc (nR _)).1 g;grind
 have g:(Z9 m Z (jK m0 1 (k:Int) m0.sp.length)).sp=m.sp.map (Qa (k:Int) Z):=by rw[zhx _ b,zo7 h d,b]
 have b:m0.fs.getD k fr0=X:=by rw[gD,f];rfl
 unfold zbj;rw[c,zfI d _ i a,zd6];grind [JA,tN,frH,frF]
def zaB (k:Nat) (fr:Fr) (l:List (Nat × Nat)) (q:Nat) (s:Sp) (a:Ar) (n:Nat):Bool:=decide ((z5 a n).file=fr.f) && decide ((z5 a n).page=fr.x) && !(l.contains (q,n)) &&(decide ((zf s n).kind=0) || isE (zf s n) 1 (k:Int))
def zhq (m:Ma) (k:Nat) (fr:Fr) (l:List (Nat × Nat)):Bool:=(List.range m.sp.length).any fun q=>(m.sp.getD q ⟨Xd,[],[]⟩).aC.any fun a=>(List.range 64).any fun n=>Z8 a n && zaB k fr l q (m.sp.getD q ⟨Xd,[],[]⟩) a n
theorem zbU:zaB k X d b s R p=Xc↔zjW k X d b s R p:=by unfold zaB zjW;simp[and_assoc]
theorem zdY:zhq m k X d=Xc↔∃(q:Nat) (s:Sp) (i:Nat) (a:Ar) (n:Nat),m.sp[q]? =Xa s/\s.aC[i]? =Xa a/\Z8 a n=Xc/\n<64/\zjW k X d q s a n:=by
 unfold zhq;constructor;·intro h;obtain⟨q,l,h⟩:=Xt.1 h;obtain⟨a,b,h⟩:=Xt.1 h;obtain⟨n,e,h⟩:=Xt.1 h;obtain⟨i,c⟩:=Yc b;have b:=Yr.1 l;have l:=gE b;rw[Sp.aK l]at c h;rw[Yv]at h;exact⟨q,_,i,a,n,l,c,h.1,Yr.1 e,zbU.1 h.2⟩
 rintro⟨q,s,i,a,n,b,c,l,e,f⟩;refine Xt.2 ⟨q,Yr.2 (gS.1 b).1,?_⟩;rw[Sp.aK b];refine Xt.2 ⟨a,mG c,Xt.2 ⟨n,Yr.2 e,?_⟩⟩;rw[Yv];exact⟨l,zbU.2 f⟩
def zlW (m:Ma) (fr:Fr):List Int:=Z7 (pgL fr.p) fr.x (JF m fr.f)
def zap (m:Ma):Nat:=m.sl.findIdx isZ
def zbS (m:Ma) (k:Nat) (fr:Fr):Bool × Ma:=if zap m<m.sl.length then(Xc,QB m k (zap m) fr.r (Zi m.sb m.sq) (Zr m.sq (zap m:Int) (pgL fr.p)))else(Xd,m)
def zfg (m:Ma) (k:Nat) (fr:Fr) (l:List (Nat × Nat)):Bool × Ma:=
 if zlW m fr≠pgL fr.p/\zhq m k fr l=Xc then(Xd,m)
 else if fr.d=Xc\/Qr m fr.f fr.x≠zlW m fr then
  (if zbf m.fl m.cnt fr.f fr.x=0 then(Xc,qI (wrM m (zlW m fr) fr.f fr.x) k)else if Qr m fr.f fr.x=zlW m fr then(Xc,qI m k)else(Xd,m))
 else(Xc,qI m k)
def ZF (m:Ma) (k:Nat) (fr:Fr) (l:List (Nat × Nat)):Bool × Ma:=if fr.f=-1 then zbS m k fr else zfg m k fr l
def Q9:Nat->Ma->List (Nat × Nat)->Bool × Ma
 | 0,m,_=>(Xd,m)
 | n+1,m,l=>
  if zbc m.fs m.aB<0 then(Xd,Qn m)
  else if(ZF (Qn m) (zbc m.fs m.aB).toNat (zX (Qn m) (zbc m.fs m.aB)) l).1=Xc then ZF (Qn m) (zbc m.fs m.aB).toNat (zX (Qn m) (zbc m.fs m.aB)) l
  else Q9 n (Qn m) l
def Qw (m:Ma) (l:List (Nat × Nat)):Bool × Ma:=Q9 (2*m.fs.length) m l
section
variable{m:Ma} {k:Nat} {fr:Fr}
theorem Rt.frw (h:Rt m) (a:m.fs[k]? =Xa fr):frW fr=0:=(Zk h.parts.1).2.1 fr (mG a)
theorem zlh (S:Nat->Nat->Prop) (f:Rt m) {a:List Fr} (h:zct m.fs a):JY S m { m with fs:=a }:=by
 have j:∀i,i<=m.fs.length->JY S m { m with fs:=a.take i++m.fs.drop i }:=by
  intro i;induction i with
  | zero=>
   intro _;have:a.take 0++m.fs.drop 0=m.fs:=Sm;rw[this];exact JY.refl f
  | succ i b=>
   intro c;have g:=b Wm;obtain⟨q,l⟩:∃q,m.fs[i]? =Xa q:=⟨_,gE Wm⟩;obtain⟨c,b,k⟩:=h.2 i q l;have e:=h.1;have e:(a.take i).length=i:=(by rw[Xs];omega);have r:(a.take i++m.fs.drop i)[i]? =Xa q:=(by grind);have n:a.take (i+1)++m.fs.drop (i+1)=(a.take i++m.fs.drop i).set i c:=by
    rw[List.set_append,kF Wm,e,Nat.sub_self,Of,b,Ys];congr 1;rw[List.drop_eq_getElem_cons (by omega:i<m.fs.length),sZ];rfl
   rw[n];by_cases n:q.r=0
   ·have p:=znq (f.frw l) n;have b:c=q:=by
     rcases k with e|e;·exact e
     rw[e,p];rfl
    have f:(a.take i++m.fs.drop i).set i c=a.take i++m.fs.drop i:=by
     rw[b];apply Oe;intro a;by_cases e:i=a;·grind
     grind
    rw[f];exact g
   have b:c={ q with u:=c.u,d:=q.d }:=by
    rcases k with e|e;·rw[e]
    rw[e];rfl
   rw[b];exact g.trans (zli S g.rt r n c.u q.d)
 have:=j m.fs.length (nR _);rw[List.drop_length,Yz,Yd (by rw[h.1];exact nR _)]at this;exact this
theorem zlj {fs a:List Fr} (d:zct fs a):qL a=qL fs:=by
 unfold qL;have b:a.map (fun f=>decide (f.r=0))=fs.map (fun f=>decide (f.r=0)):=by
  apply Oe;intro i;rw[Og,Og];cases c:fs[i]? with
  | none=>
   have:a[i]? =Xb:=(by rw[List.getElem?_eq_none_iff]at c⊢;rw[d.1];exact c);rw[this]
  | some q=>
   obtain⟨a,b,a⟩:=d.2 i q c;rw[b];rcases a with e|e <;> rw[e] <;> rfl
 have a:=congrArg (List.countP id) b;rw[List.countP_map,List.countP_map]at a;exact a
theorem zhN (S:Nat->Nat->Prop) (h:Rt m):JY S m (Qn m)/\qL (Qn m).fs=qL m.fs/\((zbc m.fs m.aB=-1/\qL m.fs=m.fs.length)\/∃(k:Nat) (fr:Fr),zbc m.fs m.aB=(k:Int)/\(Qn m).fs[k]? =Xa fr/\fr.r≠0):=by
 have c:=h.parts.1;obtain⟨a,a,a,a⟩:=Zk c;have a:zcF m.fs m.aB=(zby m.fs m.aB).1:=kE c;have b:zed m.fs m.aB=((zby m.fs m.aB).2.1:Int):=kE c;have d:zct m.fs (zcF m.fs m.aB)/\0<=zed m.fs m.aB/\zed m.fs m.aB<max (m.fs.length:Int) 1:=by
  rw[a,b];by_cases a:m.fs.length=0
  ·have:zby m.fs m.aB=(m.fs,m.aB.toNat,-1):=by unfold zby;rw[a];rfl
   rw[this];exact⟨zct.refl _,by simp only;omega,by simp only;omega⟩
  obtain⟨a,b,r,e⟩:∃a b r,Zx (2*m.fs.length) m.fs m.aB.toNat=(a,b,r):=⟨_,_,_,rfl⟩;obtain⟨f,g,_⟩:=zbz _ m.fs m.fs m.aB.toNat (zct.refl _) Wm a b r e;have:zby m.fs m.aB=(a,b,r):=e;rw[this];have:=f.1;grind
 obtain⟨a,e,f⟩:=d;have b:=zlh S h a;have d:JY S { m with fs:=zcF m.fs m.aB } (Qn m):=zng S b.rt e (by show _<max ((zcF m.fs m.aB).length:Int) 1;rw[a.1];exact f);refine⟨b.trans d,zlj a,?_⟩;rcases zle c with⟨a,b⟩ | ⟨k,q,a,b,b,b,b,c⟩;·grind
 exact .inr ⟨k,frU q,a,b,by show q.r≠0;omega⟩
theorem zqi (a:zap m<m.sl.length):m.sl[zap m]? =Xa 0:=by have b:(m.sl[zap m] == 0)=Xc:=Oo (w:=a);rw[gE a,eq_of_beq b]
theorem zmu (S:Nat->Nat->Prop) (h:Rt m) (d:m.fs[k]? =Xa fr) (c:fr.f=-1) (e:fr.r≠0):JY S m (zbS m k fr).2:=by
 unfold zbS;by_cases b:zap m<m.sl.length
 ·rw[kE b];have a:=h.inv.bC;have a:zn m.sb.length m.sq ((zap m:Nat):Int)=0:=by
   unfold zn;rw[kE h.inv.sq,kE (by simp[ZJ];omega)]
  exact zmv S h d c e (zqi b) (JE _ _) (J2 a) (zfl a).2 (fun i _ b=>zdO a b)
 grind [JY.refl]
theorem zmk (S:Nat->Nat->Prop) (h:Rt m) {c:Ca} {F:Fl} (t:c∈m.ca) (hi:zr1 m c k fi ix fr F) (a:zbf m.fl m.cnt fr.f fr.x=0) (pg):∃b:Nat,wrM m pg fr.f fr.x=zeZ m fi ix F (b:Int) (Zi m.db m.dq) (Zr m.dq (b:Int) pg)/\JY S m (zeZ m fi ix F (b:Int) (Zi m.db m.dq) (Zr m.dq (b:Int) pg))/\qN (Zi m.db m.dq) (Zr m.dq (b:Int) pg) (b:Int)=pg/\(b:Int)<m.cnt/\(∀(i j:Nat) g,m.fl[i]? =Xa g->g.bl[j]? =Xa (b:Int)->i=fi/\j=ix):=by
 have e:=a;rw[hi.ff,hi.fx]at a;obtain⟨b,l,f,n,p,q⟩:=zrL h hi.fl hi.bl a;obtain⟨a,a,r⟩:=QS h.inv.bH;have a:=h.inv.cnt;have a:zn m.db.length m.dq (b:Int)=0:=by
  unfold zn;rw[kE h.inv.bH,kE (by simp[ZJ];omega)]
 have d:=h.inv.st;have s:wrM m pg fr.f fr.x=zeZ m fi ix F (b:Int) (Zi m.db m.dq) (Zr m.dq (b:Int) pg):=by
  unfold wrM zeZ;rw[kE e,hi.ff,hi.fx,f,n,p];grind [jX,Zc]
 have f:stW (m.fl.set fi ⟨F.size,F.bl.set ix (b:Int)⟩) m.cnt=0/\(∀x,z4 (m.fl.set fi ⟨F.size,F.bl.set ix (b:Int)⟩) x=Xc↔(z4 m.fl x=Xc/\x≠-1)\/x=(b:Int)\/(x=-1/\z4 (m.fl.set fi ⟨F.size,F.bl.set ix (b:Int)⟩) x=Xc))/\(F.bl[ix]? =Xa (b:Int)\/z4 m.fl (b:Int)=Xd)/\∀(i j:Nat) g,m.fl[i]? =Xa g->g.bl[j]? =Xa (b:Int)->i=fi/\j=ix:=by
  rcases q with e|⟨e,n⟩
  ·obtain⟨p,q,u⟩:=zn5 d hi.fl e
   grind
  obtain⟨p,q,u,p⟩:=zn6 d hi.fl e n;grind
 obtain⟨u1,u2,u3,u4⟩:=f;refine⟨b,s,zl6 S h hi.fl u1 u2 (JE _ _) (J2 a) (zmj _ _ r) (fun q e=>?_) (fun i d=>zdO a d) u3 ⟨c,t,hi.file,hi.idx⟩ u4,(zfl a).2,l,u4⟩;unfold Zr at e;grind [List.mem_append.1,List.mem_of_mem_tail,Xw]
theorem zgL (h:Rt m) (a:m.fs[k]? =Xa fr) (b:fr.f≠-1):∃(i:Nat) (c:Ca) (b d:Nat) (F:Fl),m.ca[i]? =Xa c/\zr1 m c k b d fr F:=by
 have e:0<=fr.f:=by
  have:=h.frw a;grind [frW,inB]
 obtain⟨i,c,g,j,j,j⟩:=zeT h a e;obtain⟨j,b,d,f,F,b⟩:=zn4 h.w (mG g);have e:j=k:=Hm b.fr;subst e;have:=b.fa.symm.trans a;grind
theorem znQ (h:Rt m) (d:m.fs[k]? =Xa fr) (b:fr.f≠-1) (f:fr.r≠0) (l:List (Nat × Nat)):JY (fun q j=>(q,j)∈l) m (zfg m k fr l).2:=by
 obtain⟨i,c,a,a,F,c,a⟩:=zgL h d b;have x:=mG c;have b:=(gS.1 a.fl).1;have b:JF m fr.f=F.size:=by unfold JF;rw[a.ff,tN,gD,a.fl];rfl
 have g:0<=fr.f:=by rw[a.ff];omega
 unfold zfg;by_cases p:zlW m fr≠pgL fr.p/\zhq m k fr l=Xc;·grind [JY.refl]
 rw[kF p];have e:Z7 (pgL fr.p) fr.x (JF m fr.f)=pgL fr.p\/∀(q:Nat) s (i:Nat) c (n:Nat),m.sp[q]? =Xa s->s.aC[i]? =Xa c->Z8 c n=Xc->n<64->¬zjW k fr l q s c n:=by
  by_cases b:zlW m fr=pgL fr.p;·exact .inl b
  exact .inr fun q s i c n r t u v w=>p ⟨b,zdY.2 ⟨q,s,i,c,n,r,t,u,v,w⟩⟩
 by_cases b:fr.d=Xc\/Qr m fr.f fr.x≠zlW m fr
 ·rw[kE b]
  by_cases c:zbf m.fl m.cnt fr.f fr.x=0
  ·rw[kE c];obtain⟨i,i,n,p,_⟩:=zmk (fun q j=>(q,j)∈l) h x a c (zlW m fr);simp only;rw[i];refine zhb n a.fl a.bl d a.ff a.fx f ?_ e;rw[p];unfold zlW;rw[a.fx,a.ff]
  rw[kF c];by_cases a:Qr m fr.f fr.x=zlW m fr;·rw[kE a];exact zgk h d g f a e
  grind [JY.refl]
 rw[kF b];exact zgk h d g f (Classical.byContradiction fun a=>b (.inr a)) e
theorem zlN (h:Rt m) (a:m.fs[k]? =Xa fr) (b:fr.r≠0) (l:List (Nat × Nat)):JY (fun q j=>(q,j)∈l) m (ZF m k fr l).2:=by grind [ZF,zmu,znQ]
theorem zml (m:Ma) (pg) (file idx:Int):(wrM m pg file idx).fs=m.fs:=(zre _ _ _ _).1
theorem zkE (m:Ma) (k:Nat) (fr) (l:List (Nat × Nat)):((ZF m k fr l).1=Xc/\(ZF m k fr l).2.fs=m.fs.set k frF)\/((ZF m k fr l).1=Xd/\(ZF m k fr l).2=m):=by
 unfold ZF;split
 ·unfold zbS
  split;·exact .inl ⟨rfl,rfl⟩
  grind
 grind [zfg,qI,zml]
theorem zez (l:List (Nat × Nat)):∀(n:Nat) {m:Ma},Rt m->JY (fun q j=>(q,j)∈l) m (Q9 n m l).2/\qL (Q9 n m l).2.fs=qL m.fs+((Q9 n m l).1).toNat
 | 0,m,h=>⟨JY.refl h,rfl⟩
 | n+1,m,h=>by
  obtain⟨a,d,b⟩:=zhN (fun q j=>(q,j)∈l) h
  unfold Q9;rcases b with⟨b,_⟩|⟨k,f,b,c,e⟩
  ·rw[kE Wm]
   exact⟨a,d⟩
  rw[kF Wm,b,tN,zK c];rcases zkE (Qn m) k f l with⟨b,f⟩|⟨b,f⟩;·rw[kE b];refine⟨a.trans (zlN a.rt c e l),?_⟩;rw[b,f,zpk c e,d];rfl
  rw[kF (by rw[b];decide)];obtain⟨b,c⟩:=zez l n a.rt;exact⟨a.trans b,by rw[c,d]⟩
theorem zns (h:Rt m) (l:List (Nat × Nat)):JY (fun q j=>(q,j)∈l) m (Qw m l).2/\qL (Qw m l).2.fs=qL m.fs+((Qw m l).1).toNat:=zez l _ h
end
end
section
theorem zqQ (h:Rt m) (q:m.sp[k]? =Xa s) (r:b<64):zjE m k (b:Int)=JS m k b:=by
 have D:∀s∈m.sp,QP s.tb:=fun s q=>h.tb q;have A:=(gS.1 q).1;obtain⟨e,d⟩:=kB (zf s b);have g:JD m k (b:Int)=e:=by unfold JD;rw[Sp.aK q,JM r,d]
 have x:m.sp.getD k ⟨Xd,[],[]⟩=s:=Sp.aK q;unfold zjE JS;rw[g];simp only[x,d];by_cases i:e.kind=1
 ·obtain⟨n,t,f,c,l,w⟩:=h.aQ q r (Rx d i)
  rw[d]at f l;obtain⟨B,C⟩:=h.refs c;have y:=(gS.1 c).1;have a:m.fs.getD n fr0=t:=by rw[gD,c];rfl
  have p:Q8 m e (-1)={ m with fs:=m.fs.set n (Jy t) }:=by
   have u:ZS m.fs m.aB e.n (-1)=0:=by
    unfold ZS;rw[kE h.parts.1,f,tN,a];grind [inB]
   grind [Q8,JA,zna,tN,frH,Jy]
  grind [tN,JO,Jy,JR]
 rw[kF i];by_cases j:e.kind=2
 ·rw[kE j];obtain⟨n,z,f,c,l,w,_⟩:=h.cF q r (Rx d j);rw[d]at f l;obtain⟨B,C⟩:=h.slots c;have a:m.sl.getD n 0=z:=by rw[gD,c];rfl
  have p:Q8 m e (-1)={ m with sl:=m.sl.set n (z - 1) }:=by
   have v:atS m.sl e.n=z:=(by unfold atS;rw[f,kE Wm,tN,a]);have u:Z5 m.sl e.n (-1)=0:=by
    unfold Z5;rw[kE h.parts.2,v,kF Wm,kE Wm]
   grind [Q8,QC,tN]
  grind [tN,JO,JR]
 grind [Q8,JO,JR]
end
section
open Go.RowKit
def zey (fs:List Fr):Nat:=fs.countP fun a=>a.r == 0
theorem zlA {fs:List Fr} (h:fs[k]? =Xa X):zey (fs.take (k+1))=zey (fs.take k)+if X.r=0 then 1 else 0:=by obtain⟨a,rfl⟩:=gS.1 h;rw[List.take_succ_eq_append_getElem a];unfold zey;rw[List.countP_append,Oh,List.countP_nil];simp
theorem zhQ (a:Option Addr) (c:Nat) (fs:List Fr) (B:Int) (w:Xn) (v:zr qR w (O a fs.length c) fs):
  Xp prog 167 #[Xi #[O a fs.length c,I6 B]] w fun e w'=>e= Xl (I6 (zey fs))/\zc w w':=by
 have l:=v.short;obtain⟨P,R,u,d⟩:=v.bA;cases u;have D:Xo (zaZ w a fs):=d;clear d v;obtain⟨n,s⟩:=kA fs.length;rw[s.out]at l⊢;obtain⟨z,f⟩:=kB (w.alloc (Xk #[O a n c,I6 B] 28));have j:=gA f;have t:Xo (_=z):=f;clear f;go_enter func167,ntmps167;go_wp2;rw[t.out];go_loopg [3,5,9] n (fun H L _ M wr=>∃(b m:Nat),b<=n/\n - b<=H/\m<=b/\M=I6 b/\L=I6 m/\Xo (zc z wr)/\Xo (zey (fs.take b)=m))
 exact⟨0,0,nZ _,Wm,nR _,rfl,rfl,zc.refl _,rfl⟩;obtain⟨b,m,K,a1,a2,rfl,rfl,r,A⟩:=hrel;by_cases g:b<n
 ·have p:=kC g
  obtain⟨q,y⟩:∃q,Xo (fs[b]? =Xa q):=⟨_,gE (Rx s.out g)⟩;obtain⟨Q,rfl,C⟩:=D.out b q y.out;obtain⟨S,T,U,V,W,X,Y,Z,I,a0,E,F,G⟩:=C wr (j.trans r);have k:Xo (zey (fs.take (b+1))=zey (fs.take b)+if q.r=0 then 1 else 0):=zlA y.out;clear C;by_cases h:q.r=0
  ·have i:Xo (zey (fs.take (b+1))=m+1):=dD<|by rw[k.out,A.out,kE h]
   have x:(q.r == 0)=Xc:=(by simp[h]);have N:Xo (q.r=0):=h;clear h;go_wp2;go_roundg (n -(b+1));exact⟨b+1,m+1,Wm,Wm,Wm,Gn,Gn,r.trans (za _ _),i⟩;omega
  have i:Xo (zey (fs.take (b+1))=m):=dD (by rw[k.out,A.out,kF h];rfl);have x:(q.r == 0)=Xd:=by simp[h]
  go_wp2;go_roundg (n -(b+1));exact⟨b+1,m,Wm,Wm,Wm,Gn,rfl,r.trans (za _ _),i⟩;omega
 have p:=kD g;have:b=n:=Wm;subst this;have i:Xo (zey fs=m):=dD<|by rw[<-A.out,Yd (by rw[s.out];exact nR _)]
 go_wp2;go_ret;exact⟨Rr i.out,j.trans r⟩
def isF (a:Fr):Bool:=a.r == 0
def frT (p:Pg) (fi ix:Int):Fr:=⟨p,1,Xc,Xd,fi,ix⟩
theorem zms (q:Fr) (w:Xn):
  Xp prog 185 #[Xi (frv q).toArray] w fun e w'=>e= Xl (Xh (isF q))/\zc w w':=by show Xp prog 185 #[Xi #[U8 q.p.b0,U8 q.p.b1,U8 q.p.b2,U8 q.p.b3,U8 q.p.b4,U8 q.p.b5,U8 q.p.b6,U8 q.p.b7,I6 q.r,Xh q.u,Xh q.d,I6 q.f,I6 q.x]] w _;go_enter func185,ntmps185;go_wp2;go_ret;exact⟨rfl,(bR _ _).alloc (nR _) _⟩
def zpV (fs:List Fr):Int:=if fs.findIdx isF<fs.length then(fs.findIdx isF:Int)else -1
theorem zlH {fs:List Fr} (h:fs[k]? =Xa X) (b:isF X=Xc) (a:∀(j:Nat) x,j<k->fs[j]? =Xa x->isF x=Xd):fs.findIdx isF=k:=by grind [gS.1,List.findIdx_eq,gE]
theorem zlG {fs:List Fr} (a:∀(j:Nat) x,fs[j]? =Xa x->isF x=Xd):fs.findIdx isF=fs.length:=by grind [List.findIdx_eq_length.2,Yc]
theorem zeq (v:Xq) (fs:List Fr) (w:Xn) (t:zr qR w v fs):
  Xp prog 184 #[v,.func (.func 185) #[] #[]] w fun e w'=>e= Xl (I6 (zpV fs))/\zc w w':=by
 have i:=t.short;obtain⟨z,L,rfl,d⟩:=t.bA;have y:Xo (zaZ w z fs):=d;have X:=enters_of func185 Kr rfl;clear d t;obtain⟨n,p⟩:=kA fs.length;rw[p.out]at i⊢;go_enter func184,ntmps184;go_wp2;go_loopg [5,8] n (fun E _ H wr=>∃b:Nat,b<=n/\n - b<=E/\H=I6 b/\Xo (zc w wr)/\Xo (∀j q,j<b->fs[j]? =Xa q->isF q=Xd))
 exact⟨0,nZ _,Wm,rfl,zc.refl w,fun j q k=>absurd k (nL _)⟩;obtain⟨b,F,Y,rfl,m,A⟩:=hrel;by_cases c:b<n
 ·have l:=kC c
  obtain⟨q,s⟩:∃q,Xo (fs[b]? =Xa q):=⟨_,gE (Rx p.out c)⟩;obtain⟨K,rfl,u⟩:=y.out b q s.out;obtain⟨M,N,P,Q,R,S,T,U,V,W,B,C,D⟩:=u wr m.out;have a:Xp prog 185 #[Xi #[U8 q.p.b0,U8 q.p.b1,U8 q.p.b2,U8 q.p.b3,U8 q.p.b4,U8 q.p.b5,U8 q.p.b6,U8 q.p.b7,I6 q.r,Xh q.u,Xh q.d,I6 q.f,I6 q.x]] wr fun e w'=>e= Xl (Xh (isF q))/\zc wr w':=zms q wr;clear u;cases h:isF q with
  | true=>
   rw[h]at a;have r:Xo (zpV fs=(b:Int)):=dD (by unfold zpV;rw[zlH s.out h A.out,p.out,kE c]);clear h;go_wp2_with (go_at_call 185;refine a.mono ?_;rintro e w' ⟨rfl,f⟩)
   go_ret;exact⟨Rr r.out,m.trans f⟩
  | false=>
   rw[h]at a;have x:Xo (∀(j:Nat) q,j<b+1->fs[j]? =Xa q->isF q=Xd):=dD<|fun j G k g=>by
    by_cases e:j=b;·subst e;rw[s.out]at g;cases g;exact h
    exact A j G Wm g
   clear h;go_wp2_with (go_at_call 185;refine a.mono ?_;rintro e w' ⟨rfl,f⟩)
   go_roundg (n -(b+1));exact⟨b+1,Wm,Wm,Gn,m.trans f,x⟩;omega
 have l:=kD c;have:b=n:=Wm;subst this;have r:Xo (zpV fs=-1):=dD<|by
  unfold zpV;rw[zlG (fun j q k=>A.out j q (by rw[<-p.out];exact(gS.1 k).1) k),kF (Nat.lt_irrefl _)]
 go_wp2;go_ret;exact⟨Rr r.out,m⟩
theorem zrT (a:Option Addr) (c:Nat) (fs:List Fr) (h:Int) (p:Pg) (fi ix:Int) (w:Xn) (ah:zr qR w (O a fs.length c) fs) (T:ZW fs h=0) (S:frW (frT p fi ix)=0) (k:Nat) (ag:zpV fs=(k:Int)) (G:k<fs.length):
  Xp prog 169 #[Xi #[O a fs.length c,I6 h],Xi (pgv p).toArray,I6 fi,I6 ix] w fun e w'=>∃b,e= Xl (Xm #[Xi #[b,I6 h],I6 (k:Int),I6 0])/\zb qR w.heap.size w' b (fs.set k (frT p fi ix))/\zc w w':=by
 have z:Xo (zr qR w (O a fs.length c) fs):=ah;have Q:∀W,zc w W->Xp prog 125 #[Xi #[O a fs.length c,I6 h]] W fun e w'=>e= Xl (I6 (ZW fs h))/\zc W w':=fun W F=>by rw[T];exact QR a c fs h W (z.aA F) T
 have a3:∀W,Xp prog 149 #[Xi #[U8 p.b0,U8 p.b1,U8 p.b2,U8 p.b3,U8 p.b4,U8 p.b5,U8 p.b6,U8 p.b7,I6 1,Xh Xc,Xh Xd,I6 fi,I6 ix]] W fun e w'=>e= Xl (I6 (frW (frT p fi ix)))/\zc W w':=fun W=>by rw[S];exact zbM (frT p fi ix) W S
 have R:∀W,zc w W->Xp prog 184 #[O a fs.length c,.func (.func 185) #[] #[]] W fun e w'=>e= Xl (I6 (zpV fs))/\zc W w':=fun W F=>zeq _ fs W (z.aA F);have a4:∀W,zc w W->Xp prog 46 #[Xi #[O a fs.length c,I6 h]] W fun e w'=>∃b,e= Xl (Xi #[b,I6 h])/\zb qR W.heap.size w' b fs/\zc W w':=fun W F=>JI a c fs h W (z.aA F);clear ah;obtain⟨q,t⟩:=kA fs.length;simp only[t.out]at Q R a4 z⊢;simp only[T]at Q;clear T;simp only[S]at a3;clear S;simp only[ag]at R;clear ag;rw[t.out]at G;have ao:(k:Int)< (q:Int):=Wm;have af:q<=9223372036854775807:=by have:=z.short;rw[t.out]at this;exact this
 show Xp prog 169 #[Xi #[O a q c,I6 h],Xi #[U8 p.b0,U8 p.b1,U8 p.b2,U8 p.b3,U8 p.b4,U8 p.b5,U8 p.b6,U8 p.b7],I6 fi,I6 ix] w _;obtain⟨m,g⟩:=kB (((w.alloc (Xk #[O a q c,I6 h] 28)).alloc (Xk #[U8 p.b0,U8 p.b1,U8 p.b2,U8 p.b3,U8 p.b4,U8 p.b5,U8 p.b6,U8 p.b7] 44)).alloc (Xk #[eS,I6 0] 28));have i:Xo (zc w m):=dD<|by rw[<-g];exact((za _ _).trans (za _ _)).trans (za _ _)
 have B:Xo (Box m w.heap.size [O a q c,I6 h]):=dD<|by rw[<-g];exact((Box.aE w _ _ rfl).alloc _).alloc _
 have r:Xo (Box m (w.heap.size+1) [U8 p.b0,U8 p.b1,U8 p.b2,U8 p.b3,U8 p.b4,U8 p.b5,U8 p.b6,U8 p.b7]):=dD<|by rw[<-g];exact(Box.aE _ _ _ Sm).alloc _
 have ab:Xo (Box m (w.heap.size+2) [eS,I6 0]):=dD<|by rw[<-g];exact Box.aE _ _ _ Sm
 have X:Xo (_=m):=g;clear g;go_enter func169,ntmps169;go_upto_region 1 with fail;rw[X.out];obtain⟨D,I⟩:=B.k2;go_wp2_with fail;refine(Q _ i).mono ?_;rintro e L ⟨rfl,ae⟩;have l:Xo (zc m L):=ae;clear ae D I Q;have ar:=(r.aA l).c 0 rfl;have au:=(r.aA l).c 1 rfl;have av:=(r.aA l).c 2 rfl;have aw:=(r.aA l).c 3 rfl;have ax:=(r.aA l).c 4 rfl;have ay:=(r.aA l).c 5 rfl;have az:=(r.aA l).c 6 rfl;have b0:=(r.aA l).c 7 rfl;go_wp2_with fail;refine(a3 _).mono ?_;rintro e aj ⟨rfl,a0⟩;have ak:Xo (Box aj L.heap.size [U8 p.b0,U8 p.b1,U8 p.b2,U8 p.b3,U8 p.b4,U8 p.b5,U8 p.b6,U8 p.b7,I6 1,Xh Xc,Xh Xd,I6 fi,I6 ix]):=(Box.aE L [U8 p.b0,U8 p.b1,U8 p.b2,U8 p.b3,U8 p.b4,U8 p.b5,U8 p.b6,U8 p.b7,I6 1,Xh Xc,Xh Xd,I6 fi,I6 ix] _ rfl).aA a0;have U:=dD ((l.trans (za _ _)).trans a0);clear a0 ar au av aw ax ay az b0 a3;have D:=(B.aA U).c 0 rfl;go_wp2_with fail;refine(R _ (i.trans U)).mono ?_;rintro e u ⟨rfl,a1⟩;have y:=dD (U.trans a1);have Z:=ak.aA a1;clear a1 D R;have C:Xo (Box u L.heap.size [U8 p.b0,U8 p.b1,U8 p.b2,U8 p.b3,U8 p.b4,U8 p.b5,U8 p.b6,U8 p.b7,I6 1,Xh Xc,Xh Xd,I6 fi,I6 ix]):=Z;obtain⟨D,I⟩:=(B.aA y).k2;go_wp2_with fail;refine(a4 _ (i.trans y)).mono ?_;rintro e A ⟨b,rfl,f,P⟩;obtain⟨x,N,rfl⟩:=f.aG (by rw[t.out];omega);rw[t.out]at f⊢;have aa:Xo (zb qR u.heap.size A (O (Xa ⟨x,0,Xb⟩) q N) fs):=f;have V:=dD (y.trans P);have d:=dD (C.aA P);have a2:Xo (u.heap.size<=A.heap.size):=bS P;have a5:=C.lt;clear f P D I a4;have H:=d.lt;have b1:=d.c 0 rfl;have b2:=d.c 1 rfl;have b3:=d.c 2 rfl;have b4:=d.c 3 rfl;have b5:=d.c 4 rfl;have b6:=d.c 5 rfl;have b7:=d.c 6 rfl;have b8:=d.c 7 rfl;have b9:=d.c 8 rfl;have ba:=d.c 9 rfl;have a7:=d.c 10 rfl;have a8:=d.c 11 rfl;have a9:=d.c 12 rfl;have an:=aa.lt x rfl;go_wp2_with (refine qB (E:=qR) rfl (.tmp 44) (.tmp 43) rfl u.heap.size _ fs (aa.aA (za _ _)) x k rfl (frT p fi ix) (Rx t.out G) _ rfl (by simp[qR]) _ rfl rfl ?_)
 intro M K n a6;have Y:Xo (zb qR u.heap.size M (O (Xa ⟨x,0,Xb⟩) q N) (fs.set k (frT p fi ix))):=K;have am:=a2.out;have ap:m.heap.size<=A.heap.size:=bS V.out;have al:m.heap.size<=u.heap.size:=bS y.out;have aq:=ab.lt;have ac:Xo (Box M A.heap.size [O (Xa ⟨x,0,Xb⟩) q N,I6 h]):=(Box.aE A _ _ rfl).beside n (fun ad j=>by cases j;omega);have s:Xo (Box M (w.heap.size+2) [eS,I6 0]):=((ab.aA V).alloc _).beside n (fun ad j=>by cases j;omega);have ai:Xo (zc m M):=z2 (V.trans (za _ _)) n (fun ad j=>by cases j;omega);clear K n a6 b1 b2 b3 b4 b5 b6 b7 b8 b9 ba a7 a8 a9 a5 H;obtain⟨bb,bc⟩:=ac.k2;obtain⟨bd,be⟩:=s.k2;have bf:=s.f;go_wp2;refine bodyPost_ret (v:= Xm #[Xi #[O (Xa ⟨x,0,Xb⟩) q N,I6 h],I6 (k:Int),I6 0]) (by simp[results,Tryz.results169,go_sem, *]) rfl ⟨_,rfl,?_,?_⟩;·exact((Y.setCell (a:=⟨w.heap.size+2,0,Xb⟩) (by show w.heap.size+2<_;omega) _).setCell (a:=⟨w.heap.size+2,1,Xb⟩) (by show w.heap.size+2<_;omega) _).base (Hm (bS i.out))
 exact zB (zB (i.trans ai) (by simp;omega) _) (by simp;omega) _
theorem qH.far {V':MaV} (p:qH (Dw k V) w w1) (hd:∀p,Dw k V' p->Dw k V p\/w.heap.size<=p) (a:qH (Dw k V') w1 W):qH (Dw k V) w W:=
 ⟨a.os.trans p.os,a.tape.trans p.tape,a.output.trans p.output,nT p.size a.size,fun b c d=>(a.block b (Yh c p.size) (fun e=>by grind)).trans (p.block b c d)⟩
theorem znO (h:Rt m) (e:m.sp[k]? =Xa s) (d:p<64):(JD m k (p:Int)).kind=1->ZS m.fs m.aB (JD m k (p:Int)).n (-1)=0:=by
 have a:JD m k (p:Int)=zf s p:=by unfold JD;rw[Sp.aK e,JM d]
 rw[a];intro j;obtain⟨q,g,f,b,l,n⟩:=h.aQ e d j;obtain⟨r,t⟩:=h.refs b;have i:=(gS.1 b).1;have c:m.fs.getD q fr0=g:=by rw[gD,b];rfl
 unfold ZS;rw[kE h.parts.1,f,tN,c];grind [inB]
theorem zc8:∀(l:List (Nat × Nat)) (m:Ma) (x:Nat × Nat),ze m (l++ [x])=JS (ze m l) x.1 x.2
 | [],_,_=>rfl
 | y :: l,m,x=>zc8 l (JS m y.1 y.2) x
theorem zpl (fs:List Fr):zey fs=qL fs:=rfl
def ZM (fs:List Fr):Nat:=fs.findIdx isF
theorem zex {fs:List Fr} (h:0<qL fs):zpV fs=(ZM fs:Int)/\ZM fs<fs.length/\∃fr,fs[ZM fs]? =Xa fr/\fr.r=0:=by
 have a:fs.findIdx isF<fs.length:=by
  obtain⟨x,c,b⟩:=List.countP_pos_iff.1 h;grind [List.findIdx_lt_length_of_exists,isF]
 refine⟨kE a,a,fs[fs.findIdx isF],gE a,?_⟩;grind [isF,Oo]
def zV (m:Ma) (l:List (Nat × Nat)):Bool × Ma:=if qL m.fs=0 then Qw m l else(Xc,m)
def zbr (m:Ma) (x:Fr) (l:List (Nat × Nat)):Bool × Nat × Ma:=
 if(zV (ze m l) l).1=Xc then(Xc,ZM (zV (ze m l) l).2.fs,{(zV (ze m l) l).2 with fs:=(zV (ze m l) l).2.fs.set (ZM (zV (ze m l) l).2.fs) x })else(Xd,0,(zV (ze m l) l).2)
theorem zaC (h:Rt m) (l:List (Nat × Nat)):JY (fun q j=>(q,j)∈l) m (zV m l).2/\((zV m l).1=Xc->0<qL (zV m l).2.fs)/\((zV m l).1=Xd->qL m.fs=0/\qL (zV m l).2.fs=0):=by
 unfold zV;split;·grind [zns]
 rename_i a
 exact⟨JY.refl h,fun _=>Nat.pos_of_ne_zero a,fun e=>by cases e⟩
section
variable{m:Ma} {k q n:Nat} {fr:Fr}
theorem zjl {fs:List Fr} (b:ZW fs z=0) (x:frW X=0):ZW (fs.set k X) z=0:=by
 obtain⟨c,d,e,f⟩:=Zk b;have a:zcO (fs.set k X)=0:=JN.2 fun g j=>by grind
 unfold ZW;rw[Xu,kF Wm,kE a,kE];simp[inB];omega
theorem zqI (h:frW X=0) (b:X.r≠0) (c:0<z) (d:z<=1000):frW { X with r:=z }=0:=by grind [frW,inB]
theorem zm5 (c:ZW m.fs m.aB=0) (b:m.fs[k]? =Xa fr) (h:0<fr.r) (i:fr.r<1000) (ht:∀s∈m.sp,QP s.tb) (p:q<m.sp.length) (l:n<64):
  ZS m.fs m.aB (k:Int) 1=0/\zdk m q (n:Int) (k:Int)=Zv m k q n/\ZW (Zv m k q n).fs (Zv m k q n).aB=0/\(Zv m k q n).fs[k]? =Xa { fr with r:=fr.r+1 }/\(∀s∈(Zv m k q n).sp,QP s.tb)/\(Zv m k q n).sp.length=m.sp.length:=by
 have g:=(gS.1 b).1;have f:m.fs.getD k fr0=fr:=by rw[gD,b];rfl
 have d:=(Zk c).1;have j:enW ⟨1,(k:Int),Xd⟩=0:=JQ ⟨by simp only;omega,by simp only;omega⟩ ⟨by simp only;omega,by simp only;omega,fun _=>by simp only;omega⟩ Sm;have e:ZS m.fs m.aB (k:Int) 1=0:=by grind [ZS,tN,inB]
 have a:Zv m k q n=zai { m with fs:=m.fs.set k { fr with r:=fr.r+1 } } q n ⟨1,(k:Int),Xd⟩:=by grind [Zv,zK]
 refine⟨e,?_,?_,?_,?_,?_⟩;·grind [za7,zdk,Q8,Zl,JA,zna,JO,frH]
 ·rw[a];exact zjl c (zqI ((Zk c).2.1 fr (mG b)) Wm Wm Wm)
 ·rw[a]
  show(m.fs.set k _)[k]? =_;grind
 ·grind [zdw]
 rw[a,zcC]
theorem zc5:∀(l:List (Nat × Nat)) (m:Ma) (x:Nat × Nat),zw m k (l++ [x])=Zv (zw m k l) k x.1 x.2
 | [],_,_=>rfl
 | y :: l,m,x=>zc5 l (Zv m k y.1 y.2) x
theorem zrx (w:ZW m.fs m.aB=0) (A:m.fs[k]? =Xa fr) (K:0<fr.r) (ht:∀s∈m.sp,QP s.tb) {l:List (Nat × Nat)} (B:∀x∈l,x.2<64/\x.1<m.sp.length) (N:fr.r+l.length<=1000):∀j,j<=l.length->
  ZW (zw m k (l.take j)).fs (zw m k (l.take j)).aB=0/\(zw m k (l.take j)).fs[k]? =Xa { fr with r:=fr.r+(j:Int) }/\(∀s∈(zw m k (l.take j)).sp,QP s.tb)/\(zw m k (l.take j)).sp.length=m.sp.length/\
  ∀x,l[j]? =Xa x->ZS (zw m k (l.take j)).fs (zw m k (l.take j)).aB (k:Int) 1=0/\zw m k (l.take (j+1))=zdk (zw m k (l.take j)) x.1 (x.2:Int) (k:Int)/\x.1< (zw m k (l.take j)).sp.length:=by
 have a:∀(j:Nat) (M:Ma),ZW M.fs M.aB=0->M.fs[k]? =Xa { fr with r:=fr.r+(j:Int) }->(∀s∈M.sp,QP s.tb)->M.sp.length=m.sp.length->zw m k (l.take j)=M->∀x,l[j]? =Xa x->ZS M.fs M.aB (k:Int) 1=0/\zw m k (l.take (j+1))=zdk M x.1 (x.2:Int) (k:Int)/\x.1<M.sp.length/\ZW (zw m k (l.take (j+1))).fs (zw m k (l.take (j+1))).aB=0/\(zw m k (l.take (j+1))).fs[k]? =Xa { fr with r:=fr.r+((j+1:Nat):Int) }/\(∀s∈(zw m k (l.take (j+1))).sp,QP s.tb)/\(zw m k (l.take (j+1))).sp.length=m.sp.length:=by
  intro j M g b h i D x c;obtain⟨y,E⟩:=B x (mG c);have z:=(gS.1 c).1;obtain⟨d,e,f,F,G,H⟩:=zm5 (q:=x.1) (n:=x.2) g b (by simp only;omega) (by simp only;omega) h Wm y;grind [zw,Zv,Of,zc5]
 intro j;induction j with
 | zero=>
  intro _;have b:m.fs[k]? =Xa { fr with r:=fr.r+((0:Nat):Int) }:=by
   rw[A];have:fr.r+((0:Nat):Int)=fr.r:=Wm;rw[this]
  refine⟨w,b,ht,rfl,fun x c=>?_⟩;obtain⟨d,e,f,_⟩:=a 0 m w b ht rfl rfl x c;exact⟨d,e,f⟩
 | succ j C=>
  intro L;obtain⟨g,b,h,i,_⟩:=C Wm;obtain⟨_,_,_,p,t,u,v⟩:=a j _ g b h i rfl _ (gE Wm);refine⟨p,t,u,v,fun x c=>?_⟩;obtain⟨d,e,f,_⟩:=a (j+1) _ p t u v rfl x c;exact⟨d,e,f⟩
def ZK (m:Ma) (pg:Pg) (l:List (Nat × Nat)):Bool × Nat × Ma:=
 if(zV (ze m l) l).1=Xc then(Xc,ZM (zV (ze m l) l).2.fs,zbJ (zV (ze m l) l).2 (ZM (zV (ze m l) l).2.fs) pg Xc l)else(Xd,0,(zV (ze m l) l).2)
def zak (m:Ma) (pg:Pg) (file idx:Int) (l:List (Nat × Nat)):Bool × Nat × Ma:=
 if(zV (ze m l) l).1=Xc then(Xc,ZM (zV (ze m l) l).2.fs,zw (ZG (zV (ze m l) l).2 (ZM (zV (ze m l) l).2.fs) pg Xc Xd file idx) (ZM (zV (ze m l) l).2.fs) l)else(Xd,0,(zV (ze m l) l).2)
theorem zjz {pg:Pg} (h:(z=-1/\H=0)\/(0<=z/\z<5/\0<=H/\H<12)):frW (frT pg z H)=0:=by
 have a:(frT pg z H).r=1:=rfl;refine zib ⟨by rw[a];decide,?_,?_,(fun e=>absurd e (by rw[a];decide)),?_⟩ (by rw[a];decide)
 ·show 0<=H/\H<12
  omega
 ·show z=-1\/(0<=z/\z<5)
  omega
 show z=-1->H=0;omega
theorem zlX {m2:Ma} (h:Rt m2) (p:m2.fs[k]? =Xa fr) (pg:Pg) (y:∀x∈d,x.2<64/\x.1<m2.sp.length) (z:d≠[]) (E:d.length<=900):
  (∀j,j<=d.length->(zw { m2 with fs:=m2.fs.set k (frT pg (-1) 0) } k (d.take j)).sp.length=m2.sp.length/\∀x,d[j]? =Xa x->ZS (zw { m2 with fs:=m2.fs.set k (frT pg (-1) 0) } k (d.take j)).fs (zw { m2 with fs:=m2.fs.set k (frT pg (-1) 0) } k (d.take j)).aB (k:Int) 1=0/\zw { m2 with fs:=m2.fs.set k (frT pg (-1) 0) } k (d.take (j+1))=zdk (zw { m2 with fs:=m2.fs.set k (frT pg (-1) 0) } k (d.take j)) x.1 (x.2:Int) (k:Int)/\x.1< (zw { m2 with fs:=m2.fs.set k (frT pg (-1) 0) } k (d.take j)).sp.length)/\
  ZS (zw { m2 with fs:=m2.fs.set k (frT pg (-1) 0) } k d).fs (zw { m2 with fs:=m2.fs.set k (frT pg (-1) 0) } k d).aB (k:Int) (-1)=0/\({ zw { m2 with fs:=m2.fs.set k (frT pg (-1) 0) } k d with fs:=JA (zw { m2 with fs:=m2.fs.set k (frT pg (-1) 0) } k d).fs (zw { m2 with fs:=m2.fs.set k (frT pg (-1) 0) } k d).aB (k:Int) (-1) }:Ma)=zbJ m2 k pg Xc d:=by
 have w:=(gS.1 p).1;have u:frT pg (-1) 0=⟨pg,1,Xc,Xd,-1,0⟩:=rfl;have c:({ m2 with fs:=m2.fs.set k (frT pg (-1) 0) }:Ma).fs[k]? =Xa (frT pg (-1) 0):=by grind
 have B:ZW (m2.fs.set k (frT pg (-1) 0)) m2.aB=0:=zjl h.parts.1 (zjz (.inl ⟨rfl,rfl⟩));have J:=zrx (m:={ m2 with fs:=m2.fs.set k (frT pg (-1) 0) }) (l:=d) B c (show(0:Int)<1 by decide) (fun F A=>h.tb A) y (by show(1:Int)+_<=1000;omega);refine⟨fun j n=>⟨(J j n).2.2.2.1,(J j n).2.2.2.2⟩,?_⟩;obtain⟨e,a,_⟩:=J d.length (nR _);rw[List.take_length]at e a;have s:0<d.length:=List.length_pos_iff.2 z;have b:(zw { m2 with fs:=m2.fs.set k (frT pg (-1) 0) } k d).fs.getD k fr0={ frT pg (-1) 0 with r:=(frT pg (-1) 0).r+(d.length:Int) }:=by rw[gD,a];rfl
 have q:=(gS.1 a).1;have g:ZS (zw { m2 with fs:=m2.fs.set k (frT pg (-1) 0) } k d).fs (zw { m2 with fs:=m2.fs.set k (frT pg (-1) 0) } k d).aB (k:Int) (-1)=0:=by
  unfold ZS;rw[kE e,tN,b];have l:({ frT pg (-1) 0 with r:=(frT pg (-1) 0).r+(d.length:Int) }:Fr).r=1+(d.length:Int):=rfl;rw[l];have v:(inB (k:Int) (zw { m2 with fs:=m2.fs.set k (frT pg (-1) 0) } k d).fs.length && !((1+(d.length:Int)) == 0))=Xc:=by
   simp[inB];omega
  rw[v,kE rfl,kE Wm]
 refine⟨g,?_⟩;obtain⟨C,x,D,f,_,_,_,_,t,_⟩:=za7 g;have:C=k:=Wm;subst this;rw[a]at f;cases f;rw[t];have i:=zpE p pg Xc d;rw[<-u]at i;rw[i];unfold zbJ;have:frH { frT pg (-1) 0 with r:=(frT pg (-1) 0).r+(d.length:Int) } (-1)=⟨pg,(d.length:Int),Xc,Xd,-1,0⟩:=by
  unfold frH;have l:({ frT pg (-1) 0 with r:=(frT pg (-1) 0).r+(d.length:Int) }:Fr).r=1+(d.length:Int):=rfl;rw[l,kF Wm];have:(1:Int)+(d.length:Int)+-1=(d.length:Int):=Wm;rw[this];rfl
 rw[this];simp only[List.set_set]
end
def zdb (a b:Int):Int:=if a<b then -1 else if b<a then 1 else 0
def zou (c d:Ca):Int:=zF [zdb c.file d.file,zdb c.idx d.idx]
theorem zpH {c d:Ca} (a:0<=c.idx/\c.idx<100) (hd:0<=d.idx/\d.idx<100):(zou c d<0↔zY c<zY d)/\(zou c d=0↔zY c=zY d):=by grind [zou,zF,zdb,zY]
theorem zN.callF {P:Program} {f:FuncId} {xs:List Operand} {ts:Array TypeId} {fn:Func} (x args)
  (ho : o.op = .call { callee := .value x, args := xs.toArray, argTypes := ts }) (hx : a.eval x = .func (.func f) #[] Y) (hf : P.funcs[f]? = some fn) (hb : fn.body.isNone = false) (hn : (fn.name == "runtime.NumGoroutine") = false)
  (ha:xs.map a.eval=args) (h:Xp P f (args.toArray++Y) w fun e w'=>∃v,e= Xl v/\M v w'):zN P o a w M:=by
 have hr:(execOp a.eval o).run P w= .ok (.enter f (args.toArray++Y)) w:=by
  simp only [execOp, ho, resolve, hx, List.map_toArray, ha, Deferred.ofValue, pure_bind, invoke];have hn' : fn.name ≠ "runtime.NumGoroutine" := by simpa using hn
  have hb':fn.body≠Xb:=fun e=>by rw[e]at hb;cases hb
  simp[callFunc,hf,hb',hn',program,Ob,Sem.run]
 unfold zN;rw[hr];exact h
def zes (ca:List Ca) (t:Ca):Bool:=ca.any fun c=>decide (zY c=zY t)
theorem zji {t:Ca}:∀{ca:List Ca} {i:Nat},i<=ca.length->(∀(j:Nat) c,j<i->ca[j]? =Xa c->zY c<zY t)->(∀c,ca[i]? =Xa c->¬zY c<zY t)->zdi ca t=i
 | [],i,hi,_,_=>by
  have:i=0:=Si hi
  subst this;rfl
 | a :: l,0,_,_,b=>by
  unfold zdi;rw[Yl,kF (Si (b a rfl))];rfl
 | a :: l,i+1,hi,e,b=>by
  have f:=zji (t:=t) (ca:=l) (i:=i) (Si hi) (fun j c d d=>e (j+1) c Wm (Rx Yo d)) (fun c d=>b c (Rx Yo d));unfold zdi at f⊢;rw[Yl,kE (Si (e 0 a Wm rfl)),Yj,f]
theorem zqx {ca:List Ca} {t:Ca} (f:ca.Pairwise fun a b=>zY a<zY b) (d:∀(j:Nat) c,j<k->ca[j]? =Xa c->zY c<zY t) (e:∀c,ca[k]? =Xa c->¬zY c<zY t):zes ca t=match ca[k]? with | some c=>decide (zY c=zY t) | none=>Xd:=by grind [zes,zY,Xt,Yc,Nat.lt_trichotomy,gS.1,Ya.1,gE]
theorem zmW (a:Int) (w):Xp prog 181 #[I6 a] w fun e w'=>e= Xl (Xh Xd)/\w'=w:=by have h:(a != a)=Xd:=Sm;go_enter func181,ntmps181;go_wp2;go_ret;first | exact⟨rfl,rfl⟩ | exact⟨by rw[h],rfl⟩
theorem zeQ (a b:Int) (w):Xp prog 166 #[I6 a,I6 b] w fun e w'=>e= Xl (I6 (zdb a b))/\w'=w:=by
 have h:=zmW a w;have i:=zmW b w;by_cases f:a<b
 ·have d:Xo (zdb a b=-1):=dD<|by unfold zdb;rw[kE f]
  have g:decide (a<b)=Xc:=decide_eq_true f;go_enter func166,ntmps166;go_wp2_with fail;refine h.mono ?_;rintro e W ⟨rfl,c⟩;rw[c];go_wp2_with fail;refine i.mono ?_;rintro e W ⟨rfl,c⟩;rw[c];go_wp2;go_ret;exact⟨Rr d.out,rfl⟩
 have g:decide (a<b)=Xd:=decide_eq_false f;by_cases g:b<a
 ·have d:Xo (zdb a b=1):=dD<|by unfold zdb;rw[kF f,kE g]
  have j:decide (b<a)=Xc:=decide_eq_true g;go_enter func166,ntmps166;go_wp2_with fail;refine h.mono ?_;rintro e W ⟨rfl,c⟩;rw[c];go_wp2_with fail;refine i.mono ?_;rintro e W ⟨rfl,c⟩;rw[c];go_wp2;go_ret;exact⟨Rr d.out,rfl⟩
 have d:Xo (zdb a b=0):=dD<|by unfold zdb;rw[kF f,kF g]
 have j:decide (b<a)=Xd:=decide_eq_false g;go_enter func166,ntmps166;go_wp2_with fail;refine h.mono ?_;rintro e W ⟨rfl,c⟩;rw[c];go_wp2_with fail;refine i.mono ?_;rintro e W ⟨rfl,c⟩;rw[c];go_wp2;go_ret;exact⟨Rr d.out,rfl⟩
theorem zmM (v l w) (s:zr blE w v l):
  Xp prog 165 #[v] w fun e w'=>e= Xl (I6 (zF l))/\w'=w:=by
 have g:=s.short;obtain⟨G,H,rfl,b⟩:=s.aV;have z:=dD b;clear b s;obtain⟨n,m⟩:=kA l.length;rw[m.out]at g⊢;obtain⟨F,k⟩:=kA (zF l);rw[k.out];go_enter func165,ntmps165;go_wp2;go_loopg [5,8] n (fun B _ E wr=>∃a:Nat,a<=n/\n - a<=B/\E=I6 a/\wr=w/\Xo (∀(j:Nat) x,j<a->l[j]? =Xa x->x=0))
 exact⟨0,nZ _,Wm,rfl,rfl,fun j x t=>absurd t (nL _)⟩;obtain⟨a,D,C,rfl,rfl,A⟩:=hrel;by_cases c:a<n
 ·have h:=kC c
  obtain⟨q,p⟩:∃q,Xo (l[a]? =Xa q):=⟨_,gE (Rx m.out c)⟩;obtain⟨x,rfl,u⟩:=z.out a q p.out;have K:=u wr (zc.refl _);clear u;by_cases d:q=0
  ·have r:(q != 0)=Xd:=by simp[d]
   have y:Xo (∀(j:Nat) x,j<a+1->l[j]? =Xa x->x=0):=dD<|fun j x t f=>by
    by_cases e:j=a;·subst e;rw[p.out]at f;cases f;exact d
    exact A j x Wm f
   clear d;go_wp2;go_roundg (n -(a+1));exact⟨a+1,Wm,Wm,Gn,rfl,y⟩;omega
  have r:(q != 0)=Xc:=by simp[d]
  have i:Xo (F=q):=dD (by rw[<-k.out];exact zeB A p d);clear d;go_wp2;go_ret;exact⟨Rr i.out,rfl⟩
 have h:=kD c;have:a=n:=Wm;subst this;have i:Xo (F=0):=dD<|by
  rw[<-k.out];exact zeC fun j x f=>A.out j x (by rw[<-m.out];exact(gS.1 f).1) f
 go_wp2;go_ret;exact⟨Rr i.out,rfl⟩
theorem zla (c d:Ca) (w):Xp prog 164 #[Xi #[I6 c.file,I6 c.idx,I6 c.fr],Xi #[I6 d.file,I6 d.idx,I6 d.fr]] w fun e w'=>e= Xl (I6 (zou c d))/\zc w w':=by
 obtain⟨E,a⟩:=kA (zou c d);have j:Xo (zF [zdb c.file d.file,zdb c.idx d.idx]=E):=a.out;rw[a.out];obtain⟨b,f,i⟩:=c;obtain⟨g,h,l⟩:=d;simp only at j⊢;obtain⟨k,a⟩:=kB ((w.alloc (Xk #[I6 b,I6 f,I6 i] 108)).alloc (Xk #[I6 g,I6 h,I6 l] 108));have n:=gD2 a;have l:=x2a a;have m:=x2b a;have i:Xo (_=k):=a;clear a;go_enter func164,ntmps164;go_upto_region 1 with fail;rw[i.out];have q:=l.gw 0 rfl;have r:=l.gw 1 rfl;have s:=m.gw 0 rfl;have t:=m.gw 1 rfl;have p:Nonempty (zk k):=⟨⟨_,zc.refl _⟩⟩;refine jQ [(4,⟨fun a=>a=I6 (zdb b g),fun a w'=>True⟩),(9,⟨fun a=>a=I6 (zdb f h),fun a w'=>True⟩),(10,⟨fun a=>∃i,a= O (Xa ⟨i,0,Xb⟩) 2 2,fun a w'=>zr blE w' a [zdb b g,zdb f h]⟩),(11,⟨fun a=>a=I6 E,fun a w'=>True⟩)] z3 Kr (Sd ⟨_,rfl⟩ ⟨_,rfl⟩ ⟨_,0,rfl⟩ ⟨_,rfl⟩) ?hp ?_;case hp=>
  intro x a;simp only[mC,nM,or_false]at a;rcases a with rfl|rfl|rfl|rfl;·exact fun _ _ _ _ a=>a
  ·exact fun _ _ _ _ a=>a
  ·exact fun _ _ _ k a=>zr.aA a k
  exact fun _ _ _ _ a=>a
 iterate 4 refine zh ?_
 refine zJ rfl rfl (fun w' k i=>?_) (fun u a=>?_);·refine zN.call [I6 b,I6 g] rfl func166 rfl rfl rfl ?_;refine(zeQ b g w').mono ?_;rintro e m ⟨rfl,rfl⟩;exact⟨_,rfl,zc.refl _,rfl,trivial⟩
 subst a;refine Uq ?_;iterate 4 refine zh ?_
 refine zJ rfl rfl (fun w' k i=>?_) (fun u a=>?_);·refine zN.call [I6 f,I6 h] rfl func166 rfl rfl rfl ?_;refine(zeQ f h w').mono ?_;rintro e m ⟨rfl,rfl⟩;exact⟨_,rfl,zc.refl _,rfl,trivial⟩
 subst a;refine Uq ?_;refine zJ rfl rfl (fun w' k i=>?_) (fun u a=>?_)
 ·have l:zr blE (w'.alloc (Xk #[I6 (zdb b g),I6 (zdb f h)] 3)) (O (Xa ⟨w'.heap.size,0,Xb⟩) 2 2) [zdb b g,zdb f h]:=zi9 blE w' [zdb b g,zdb f h] _ rfl (show 2*8<=140737488355328 by decide)
  refine zN.step (v:= O (Xa ⟨w'.heap.size,0,Xb⟩) 2 2) (w':=w'.alloc (Xk #[I6 (zdb b g),I6 (zdb f h)] 3)) (by simp only[execOp];go_simp) ⟨za _ _,⟨_,rfl⟩,l⟩
 obtain⟨l,rfl⟩:=a;refine Uq ?_;refine zJ rfl rfl (fun w' k i=>?_) (fun u a=>?_)
 ·have k:zr blE w' (O (Xa ⟨l,0,Xb⟩) 2 2) [zdb b g,zdb f h]:=i 10 Kr
  refine zN.call [O (Xa ⟨l,0,Xb⟩) 2 2] rfl func165 rfl rfl rfl ?_;refine(zmM _ _ w' k).mono ?_;rintro e m ⟨rfl,rfl⟩;exact⟨_,rfl,zc.refl _,by rw[j.out],trivial⟩
 subst a;refine Uq ?_;refine zh ?_;refine z7 fun a a i=>?_;have b:=dD (n.trans a);clear a i q r s t p;go_wp2;go_ret;exact⟨rfl,b⟩
theorem zjR (v) (ca:List Ca) (t:Ca) (w) (a3:zr jA w v ca) (g:ca.Pairwise fun a b=>zY a<zY b) (hi:∀c∈ca,0<=c.idx/\c.idx<100) (ht:0<=t.idx/\t.idx<100) (d:ca.length<=1000):
  Xp prog 163 #[v,Xi #[I6 t.file,I6 t.idx,I6 t.fr],.func (.func 164) #[] #[]] w fun e w'=>e= Xl (Xm #[I6 (zdi ca t:Int),Xh (zes ca t)])/\zc w w':=by
 obtain⟨a,c,rfl,f⟩:=a3.cas;have an:=dD f;have l:=dD g;have ae:Xo (∀c∈ca,(zou c t<0↔zY c<zY t)/\(zou c t=0↔zY c=zY t)):=dD<|fun c p=>zpH (hi c p) ht;have h:=enters_of func164 Kr rfl;obtain⟨U,X⟩:=kA ca.length;rw[X.out]at d⊢;obtain⟨P,k⟩:=kA (zdi ca t);obtain⟨ac,h⟩:=kA (zes ca t);rw[k.out,h.out];have a5:Xo (∀(i j:Nat) x y,ca[i]? =Xa x->ca[j]? =Xa y->i<=j->zY x<=zY y):=dD<|fun i j x y K n d=>by
  obtain⟨m,q⟩:=gS.1 K;obtain⟨r,s⟩:=gS.1 n;rcases Nat.lt_or_eq_of_le d with F|F;·have:=Ya.1 g i j m r F;rw[q,s]at this;omega
  subst F;rw[K]at n;cases n;exact Int.le_refl _
 obtain⟨A,B,C⟩:=t;obtain⟨m,d⟩:=kA (zY ⟨A,B,C⟩);have a8:∀(x:Ca) (W:Xn),Xp prog 164 #[Xi #[I6 x.file,I6 x.idx,I6 x.fr],Xi #[I6 A,I6 B,I6 C]] W fun e w'=>e= Xl (I6 (zou x ⟨A,B,C⟩))/\zc W w':=fun x W=>zla x ⟨A,B,C⟩ W;rw[d.out]at ae;have a4:Xo (∀i,i<=U->(∀(j:Nat) x,j<i->ca[j]? =Xa x->zY x<m)->(∀(j:Nat) x,i<=j->ca[j]? =Xa x->m<=zY x)->P=i/\ac=match ca[i]? with | some x=>decide (zY x=m) | none=>Xd):=dD<|fun i K n F=>by
  rw[<-k.out,<-h.out,<-d.out];rw[<-d.out]at n F;exact⟨zji (Rx X.out K) n (fun x d=>Hm (F i x (nR _) d)),zqx l n (fun x d=>Hm (F i x (nR _) d))⟩
 clear a3 g hi ht f;simp only;obtain⟨b,h⟩:=kA w.heap.size;obtain⟨f,f⟩:=kB (w.alloc (Xk #[I6 A,I6 B,I6 C] 108));have i:=gA f;have k:=xP f h;have g:=dD f;clear f;go_enter func163,ntmps163;go_upto_region 1 with fail;rw[g.out,h.out];go_wp2;go_loopg [9,10] U (fun g l f wr=>∃h hi:Nat,l=I6 h/\f=I6 hi/\h<=hi/\hi<=U/\hi - h<=g/\Xo (zc w wr)/\Xo (Box wr b [I6 A,I6 B,I6 C])/\Xo ((∀(j:Nat) x,j<h->ca[j]? =Xa x->zY x<m)/\(∀(j:Nat) x,hi<=j->ca[j]? =Xa x->m<=zY x)))
 exact⟨0,U,rfl,rfl,nZ _,nR _,Wm,i,k,⟨fun j x ai=>absurd ai (nL _),fun j x K n=>by have:=(gS.1 n).1;have:=X.out;omega⟩⟩;obtain⟨h,hi,rfl,rfl,f,a9,aq,G,E,ab⟩:=hrel;obtain⟨ak,al,am⟩:=E.c3;by_cases f:h<hi
 ·obtain⟨r,D⟩:∃r,Xo (ca[(h+hi) / 2]? =Xa r):=⟨_,gE (Hm X.out)⟩
  obtain⟨l,rfl,M⟩:=an.out _ r D.out;obtain⟨Y,I,a0⟩:=M wr G.out;have p:=a8 r;have g:(h+hi) / 2<U:=Wm;obtain⟨s,u,z⟩:=r;simp only at p Y I a0;obtain⟨Z,a6⟩:=kA (zou ⟨s,u,z⟩ ⟨A,B,C⟩);rw[a6.out]at p;have a7:Xo (Z<0↔zY ⟨s,u,z⟩<m):=dD (by rw[<-a6.out];exact(ae _ (mG D)).1);obtain⟨i,f⟩:=kA ((h+hi) / 2);rw[f.out]at Y I a0 g D;have g:Xo (∀W,zc wr W->zop W (l.add (i*3)) ⟨s,u,z⟩):=dD<|fun W ah=>by have:=M W (G.trans ah);rw[f.out]at this;exact this
  clear M Y I a0 ak al am;go_upto_region 5 with fail;rw[show((h:Int)+(hi:Int)) / 2=(i:Int) by have:=f.out;omega];have k:(i:Int)< (U:Int):=Wm;have R:=fun y:zk wr=>(g _ y.aA).1;have S:=fun y:zk wr=>(g _ y.aA).2.1;have T:=fun y:zk wr=>(g _ y.aA).2.2;have N:=E.gw 0 rfl;have P:=E.gw 1 rfl;have Q:=E.gw 2 rfl;have q:Nonempty (zk wr):=⟨⟨_,zc.refl _⟩⟩;refine jQ [(6,⟨fun v=>v=I6 Z,fun v w'=>True⟩)] z3 Kr (Sa ⟨_,rfl⟩) ?hp ?_;case hp=>
   intro x d;simp only[mC,nM,or_false]at d;subst d;exact fun _ _ _ _ ag=>ag
  iterate 6 refine zh ?_
  refine zJ rfl rfl (fun w' aq L=>?_) (fun ar a3=>?_);·refine zN.callF (.tmp 24) [Xi #[I6 s,I6 u,I6 z],Xi #[I6 A,I6 B,I6 C]] rfl rfl func164 rfl rfl rfl ?_;refine(p w').mono ?_;rintro e aj ⟨rfl,k⟩;exact⟨_,rfl,k,rfl,trivial⟩
  subst a3;refine Uq ?_;refine zh ?_;refine z7 fun ao k L=>?_;have V:=dD (G.trans k);have ap:=dD (E.aA k);clear k p L R S T N P Q q;by_cases aa:Z<0
  ·have H:=dD aa;go_wp2;go_roundg (hi -(i+1))
   case measure=>have:=f.out;omega
   have af:Xo ((∀(j:Nat) x,j<i+1->ca[j]? =Xa x->zY x<m)/\(∀(j:Nat) x,hi<=j->ca[j]? =Xa x->m<=zY x)):=dD<|⟨fun j x ai d=>by
    have K:=a5.out j _ x _ d D Wm;have n:=a7.1 H.out
    omega,ab.2⟩
   exact⟨i+1,hi,Gn,rfl,Hm f.out,a9,nR _,V,ap,af⟩
  have H:=dD aa;go_wp2;go_roundg (i - h)
  case measure=>have:=f.out;omega
  have af:Xo ((∀(j:Nat) x,j<h->ca[j]? =Xa x->zY x<m)/\(∀(j:Nat) x,i<=j->ca[j]? =Xa x->m<=zY x)):=dD<|⟨ab.1,fun j x ai d=>by
   have K:=a5.out _ j _ x D d Wm;have n:¬zY ⟨s,u,z⟩<m:=fun e=>by have F:=a7.2 e;have j:=H.out;omega
   omega⟩
  exact⟨h,i,rfl,Gn,Hm f.out,Hm f.out,nR _,V,ap,af⟩
 obtain rfl:hi=h:=Wm;obtain⟨h,f⟩:=a4.out hi a9 ab.1 ab.2;have j:=dD h;clear h;by_cases m:hi<U
 ·obtain⟨r,D⟩:∃r,Xo (ca[hi]? =Xa r):=⟨_,gE (Hm X.out)⟩
  obtain⟨l,rfl,M⟩:=an.out _ r D.out;obtain⟨Y,I,a0⟩:=M wr G.out;rw[D.out]at f;have p:=a8 r;obtain⟨s,u,z⟩:=r;simp only at p Y I a0 f;obtain⟨Z,a6⟩:=kA (zou ⟨s,u,z⟩ ⟨A,B,C⟩);rw[a6.out]at p;have i:Xo (ac=(Z == 0)):=dD<|by
   rw[f];have:=(ae _ (mG D)).2;rw[a6.out]at this;by_cases h:Z=0;·rw[decide_eq_true (this.1 h),h];rfl
   rw[decide_eq_false (fun e=>h (this.2 e))];simp[h]
  have h:=kC m;have g:=dD<|fun W (ah:zc wr W)=>M W (G.trans ah);clear M f Y I a0 ak al am;go_upto_region 8 with fail;have R:=fun y:zk wr=>(g _ y.aA).1;have S:=fun y:zk wr=>(g _ y.aA).2.1;have T:=fun y:zk wr=>(g _ y.aA).2.2;have N:=E.gw 0 rfl;have P:=E.gw 1 rfl;have Q:=E.gw 2 rfl;have q:Nonempty (zk wr):=⟨⟨_,zc.refl _⟩⟩;refine jQ [(11,⟨fun v=>v=I6 Z,fun v w'=>True⟩)] z3 Kr (Sa ⟨_,rfl⟩) ?hp ?_;case hp=>
   intro x d;simp only[mC,nM,or_false]at d;subst d;exact fun _ _ _ _ ag=>ag
  iterate 11 refine zh ?_
  refine zJ rfl rfl (fun w' aq L=>?_) (fun ar a3=>?_);·refine zN.callF (.tmp 40) [Xi #[I6 s,I6 u,I6 z],Xi #[I6 A,I6 B,I6 C]] rfl rfl func164 rfl rfl rfl ?_;refine(p w').mono ?_;rintro e aj ⟨rfl,k⟩;exact⟨_,rfl,k,rfl,trivial⟩
  subst a3;refine Uq ?_;iterate 4 refine zh ?_
  refine z7 fun ao k L=>?_;have V:=dD (G.trans k);clear k p L R S T N P Q q;go_wp2;go_ret2;exact⟨by rw[j.out,i.out];rfl,V⟩
 have h:=kD m;have i:Xo (ac=Xd):=dD<|by
  rw[f,gN (Hm X.out)]
 clear f ak al am;go_upto_region 8 with fail;have q:Nonempty (zk wr):=⟨⟨_,zc.refl _⟩⟩;refine jQ [] z3 Kr Sm Sm ?_;iterate 5 refine zh ?_
 iterate 8 (refine ZC Kr ?_;simp only[Yb,sB,sS,sZ])
 iterate 3 refine zh ?_
 refine z7 fun ao k L=>?_;have V:=dD (G.trans k);clear k L q;go_wp2;go_ret2;exact⟨by rw[j.out,i.out];rfl,V⟩
theorem zbI (h:ChW w0 k w V m) (g:m.ca.Pairwise fun a b=>zY a<zY b) (hi:∀c∈m.ca,0<=c.idx/\c.idx<100) (d:m.ca.length<=1000) (file idx:Int) (ht:0<=idx/\idx<100):
  Xp prog 139 #[Xj (Xa ⟨k,0,Xb⟩),I6 file,I6 idx] w fun e w'=>e= Xl (Xm #[I6 (zdi m.ca ⟨file,idx,0⟩:Int),Xh (zes m.ca ⟨file,idx,0⟩)])/\zc w w':=by have f:=zjR _ m.ca ⟨file,idx,0⟩ w h.at.ca g hi ht d;simp only at f;have i:=h.box.box.c 9 rfl;obtain⟨P,j⟩:=kA (zdi m.ca ⟨file,idx,0⟩);obtain⟨H,i⟩:=kA (zes m.ca ⟨file,idx,0⟩);rw[j.out,i.out]at f⊢;clear h g hi d ht;go_enter func139,ntmps139;go_wp2_with fail;refine f.mono ?_;clear f;rintro e d ⟨rfl,d⟩;have f:=dD d;clear d;go_wp2;go_ret2;exact⟨rfl,f⟩
theorem zb.block {n cap:Nat} (h:zb E k w (O (Xa ⟨p,0,Xb⟩) n cap) y):
  n=y.length/\k<=p/\y.length<=cap/\cap<=maxLen/\∃cur,w.heap[p]? =Xa (Xk cur E.ty (0,0))/\cur.size=cap*E.k/\cur.toList.take (y.length*E.k)=y.flatMap E.enc:=by
 rcases h.1.2 with⟨b,_⟩|⟨a,a,cur,b,a,a,a,a,a,a⟩;·cases b
 grind
theorem zb.mk' {base:Nat} {g cap:Nat} {l:List α} {cur:Array Xq} (b:base<=g) (c:w.heap[g]? =Xa (Xk cur E.ty (0,0))) (e:l.length<=cap) (d:cap<=maxLen) (f:cur.size=cap*E.k) (ht:cur.toList.take (l.length*E.k)=l.flatMap E.enc)
  (a:l.length*E.bytes<=140737488355328):zb E base w (O (Xa ⟨g,0,Xb⟩) l.length cap) l:=
 ⟨⟨qD E l,.inr ⟨g,cap,cur,rfl,b,c,e,d,f,ht⟩⟩,a⟩
theorem zdf (h:o.guard=Xb) (s x) (C:o.op= .call { callee:= .builtin .append,args:=#[s,x],argTypes:=#[E.st,E.st] })
  (base g cap n:Nat) (l:List α) (f:zb E base w (O (Xa ⟨g,0,Xb⟩) n cap) l) (i:Nat) (hi:i<=l.length) (D:a.eval s= O (Xa ⟨g,0,Xb⟩) i cap) (ad:Addr) (l2:List α) (b t:Nat) (G:a.eval x= O (Xa ad) b t) (k:b=l2.length)
  (e:∀j u,(l2.flatMap E.enc)[j]? =Xa u->w.cell? (ad.add j)=Xa u) (c:i+l2.length<=cap) (d:(i+l2.length)*E.bytes<=140737488355328)
  (y:∀w',zb E base w' (O (Xa ⟨g,0,Xb⟩) (i+b) cap) (l.take i++l2)->w.grownBy w' (Xa g)->w'.heap.size=w.heap.size->wpList prog ops Q K (a.put o.dst (O (Xa ⟨g,0,Xb⟩) (i+b) cap)) w'):wpList prog ops Q (o :: K) a w:=by
 subst k;refine wpList_plain h fun rest z=>?_;obtain⟨b,A,r,B,b,v,p,F⟩:=f.block;obtain⟨H,m,f,k,f⟩:=info_parts E.aD;have q:=qD E l2;have f:(i+l2.length)*E.k<=cap*E.k:=Xx _ c;rw[Yw]at f;have h:=run_append_room (P:=prog) w E.st o.type E.ty H E.bI m g i cap b v ad l2.length t (l2.flatMap E.enc) (Rx k q) e (qQ E.one l2) c (by rw[q,k,p];exact f);rw[k]at h;unfold Oper.wp execOp;simp only[C,resolve,invoke,builtin,Ob,Ox,rA,Oi,mP,Yt,D,G,h];have hlen:(l.take i++l2).length=i+l2.length:=by rw[lA,Xs];omega
 have f:b.toList.length=cap*E.k:=Si p;have e:i*E.k<=l.length*E.k:=Xx _ hi;have h:l.length*E.k<=cap*E.k:=Xx _ r;have k:b.toList.take (i*E.k)=(l.take i).flatMap E.enc:=by
  have h:(b.toList.take (l.length*E.k)).take (i*E.k)=b.toList.take (i*E.k):=by rw[Oc,Xz e]
  rw[<-h,F];conv=>lhs;rw[<-Ye i l,Xv]
  exact Yf (by rw[qD,Xs,Xz hi])
 have h:(b.toList.take (i*E.k)).length=i*E.k:=by rw[Xs,f];omega
 have e:=zb.mk' (E:=E) (base:=base) (w:=w.setRow g (b.toList.take (i*E.k)++l2.flatMap E.enc++b.toList.drop (i*E.k+(l2.flatMap E.enc).length)).toArray) (g:=g) (cap:=cap) (l:=l.take i++l2) A (setRow_heap w g b _ E.ty _ v) (by rw[hlen];exact c) B (by
  simp only[Yu,lA,h,q,Xy,f]
  omega) (by
  rw[hlen,Xv,<-k,Yw];have:(b.toList.take (i*E.k)++l2.flatMap E.enc).length=i*E.k+l2.length*E.k:=by rw[lA,h,q]
  simp only;rw[Yf this]) (by rw[hlen];exact d)
 rw[hlen]at e;exact z _ _ (y _ e (ZV _ _ _) (by simp[World.setRow]))
theorem zg6 (n:Nat):∀u∈(Builtin.zeroCells #[I6 0,I6 0,I6 0] n).toList,u.oneCell'=Xc:=fun u a=>by
 simp only[Builtin.zeroCells,Array.toList_map,List.mem_map,Array.toList_range,Yr]at a;obtain⟨i,_,rfl⟩:=a;have a:i % 3<3:=Ym _ Dc;show(#[I6 0,I6 0,I6 0]:Array Xq)[i % 3]!.oneCell'=Xc;generalize i % 3=k at a
 match k,a with
 | 0,_=>rfl
 | 1,_=>rfl
 | 2,_=>rfl
theorem zdR (b:o.guard=Xb) (x) (z:o.op= .call { callee:= .builtin .clear,args:=#[x],argTypes:=#[38] })
  (base g cap n:Nat) (l:List Ca) (c:zb jA base w (O (Xa ⟨g,0,Xb⟩) n cap) l) (k p:Nat) (A:a.eval x= O (Xa ⟨g,l.length*3,Xb⟩) (k+1) p) (d:l.length+(k+1)<=cap)
  (s:∀w',zb jA base w' (O (Xa ⟨g,0,Xb⟩) n cap) l->w.grownBy w' (Xa g)->w'.heap.size=w.heap.size->wpList prog ops Q K (a.put o.dst (Xm #[])) w'):wpList prog ops Q (o :: K) a w:=by
 refine wpList_plain b fun rest t=>?_;obtain⟨y,u,m,v,b,q,e,r⟩:=c.block;have d:jA.k=3:=rfl;rw[d]at e r;obtain⟨Z,j⟩:=kB ((Builtin.zeroCells #[I6 0,I6 0,I6 0] (k+1)).toList);have i:Z.length=(k+1)*3:=by
  rw[<-j,Array.length_toList,size_zeroCells];rfl
 have f:∀h∈Z,h.oneCell'=Xc:=by rw[<-j];exact zg6 _
 have h:=run_storeCells_at prog g (l.length*3) 108 Z 0 b w q (by rw[i,e];omega) f;simp only[Oa]at h;have f:(Builtin.clear_ #[38] o.type #[O (Xa ⟨g,l.length*3,Xb⟩) (k+1) p]).run prog w= .ok (Xm #[]) (w.setRow g (b.toList.take (l.length*3)++Z++b.toList.drop (l.length*3+Z.length)).toArray):=by
  simp only[Builtin.clear_];simp[run_underlying underlying38,Tryz.zeroValue108,Value.cells,j,h]
 unfold Oper.wp execOp;simp only[z,resolve,invoke,builtin,Ob,Ox,rA,Oi,mP,Yt,A,f];subst y;have f:b.toList.length=cap*3:=Si e;refine t _ _ (s _ (zb.mk' u (setRow_heap w g b _ 108 _ q) m v ?_ ?_ c.2) (ZV _ _ _) (by simp[World.setRow]));·rw[d];simp only[Yu,lA,Xs,Xy,i,f];omega
 rw[d,Ys,Yf (by rw[Xs,f];omega)];exact r
theorem zlL (l:List α) (i:Nat):l.take i++l.drop (i+1)=l.eraseIdx i:=(List.eraseIdx_eq_take_drop_succ ..).symm
theorem zik (base g cap i:Nat) (l:List Ca) (w:Xn) (a:zb jA base w (O (Xa ⟨g,0,Xb⟩) l.length cap) l) (hi:i<l.length) (b:l.length<=1000):
  Xp prog 205 #[O (Xa ⟨g,0,Xb⟩) l.length cap,I6 i,I6 ((i:Int)+1)] w fun e w'=>e= Xl (O (Xa ⟨g,0,Xb⟩) (l.length - 1) cap)/\zb jA base w' (O (Xa ⟨g,0,Xb⟩) (l.length - 1) cap) (l.eraseIdx i)/\w.grownBy w' (Xa g):=by
 obtain⟨_,_,d,c,_⟩:=a.block;have f:cap<=9223372036854775807:=by simpa [maxLen]using c
 have j:=dD a;have f:=dD<|zlL l i;have a:Xo ((l.drop (i+1)).length=l.length -(i+1)):=show _=_ from Xy;obtain⟨n,c⟩:=kA l.length;rw[c.out]at d hi b j a⊢;obtain⟨q,b⟩:∃q,Xo (n=q+1):=⟨n - 1,show _=_ by omega⟩;have d:(i:Int)+1<=(n:Int):=Wm;have d:(n:Int)<=(cap:Int):=Wm;have d:¬((i:Int)=(i:Int)+1):=Wm;have h:((i:Int) ==(i:Int)+1)=Xd:=Si d;have d:(i:Int)<=(i:Int)+1:=Wm;have d:(i:Int)<=(cap:Int):=Wm;have d:((i:Int)+1).toNat=i+1:=Wm;go_enter func205,ntmps205;go_upto_region 5 with fail;have d:Nonempty (zk w):=⟨⟨_,zc.refl _⟩⟩;refine Zd 6 [] z3 Kr rfl rfl Dc Sm Sm ?_;simp only[Yp,Yq];iterate 6 refine zh ?_
 refine z7 fun w' p _=>?_;obtain⟨k,d,m⟩:∃k:Addr,(if cap=i+1 then Xa (⟨g,0,Xb⟩:Addr)else Xa ⟨g,(i+1)*3,Xb⟩)=Xa k/\Xo (¬cap=i+1->k=⟨g,(i+1)*3,Xb⟩):=by
  by_cases e:cap=i+1;·exact⟨_,kE e,show _->_ from fun h=>absurd e h⟩
  exact⟨_,kF e,show _->_ from fun _=>rfl⟩
 rw[d];have h:=dD (j.aA p);have r:=dD p;have p:Xo (∀j u,((l.drop (i+1)).flatMap jA.enc)[j]? =Xa u->w'.cell? (k.add j)=Xa u):=show∀j u,_ from fun j u d=>by
  by_cases e:cap=i+1
  ·rw[Ok (Hm c.out)]at d
   cases d
  rw[m.out e,Yk];have m:(l.flatMap jA.enc)[(i+1)*3+j]? =Xa u:=by
   conv=>lhs;rw[<-Ye (i+1) l,Xv]
   rw[aR (by rw[qD,Xs];show _*3<=_;have:=c.out;omega),qD,Xs,show min (i+1) l.length=i+1 by have:=c.out;omega];show((l.drop (i+1)).flatMap jA.enc)[(i+1)*3+j -(i+1)*3]? =_;rw[Oj];exact d
  have:=h.1.cells rfl _ u m;rw[Yk,zA]at this;exact this
 have d:i+(n -(i+1))=q:=Hm b.out;have j:Xo (i+(l.drop (i+1)).length<=cap/\(i+(l.drop (i+1)).length)*24<=140737488355328):=dD<|by rw[a.out];omega
 have d:Xo ((l.eraseIdx i).length=q):=dD<|by rw[<-f.out,lA,a.out,Xs];have:=c.out;have:=b.out;omega
 go_wp2_with (refine zdf (E:=jA) rfl (.tmp 22) (.tmp 25) rfl base g cap n l h i (Hm c.out) rfl k (l.drop (i+1)) (n -(i+1)) (cap -(i+1)) rfl a.symm p j.1 j.2 ?_)
 intro a a c _;rw[f.out]at a;have h:=dD a;have f:=dD c;have a:¬cap=q:=Hm b.out;have a:(q:Int)<=(n:Int):=Hm b.out;have a:n - q=0+1:=Hm b.out;try simp only[Yb,sB,sS,sZ]
 go_wp2_with (refine zdR rfl (.tmp 31) rfl base g cap q (l.eraseIdx i) h 0 (cap - q) (Rr d.out) (by rw[d.out];have:=b.out;omega) ?_)
 intro a c a _;have d:=dD c;have c:=dD<|zbE r (Zf f a);have a:Xo (n - 1=q):=dD<|Hm b.out;go_wp2;go_ret;exact⟨Rr a.out,Rx a.out d,c⟩
theorem Rt.cache (h:Rt m):(m.ca.Pairwise fun a b=>zY a<zY b)/\(∀c∈m.ca,0<=c.idx/\c.idx<100)/\m.ca.length<=1000:=by
 obtain⟨d,d,g⟩:=zo.1 h.inv.ca;have d:∀c∈m.ca,0<=c.idx/\c.idx<100/\0<=zY c/\zY c<1000:=fun c e=>by
  obtain⟨k,f,f,f,F,f⟩:=zn4 h.w e;have i:=(gS.1 f.fl).1;have i:=((qC _ _).1 h.inv.st).1;have h:=f.idx;have h:=f.file;have h:=f.lo;unfold zY;omega
 refine⟨g,fun c e=>⟨(d c e).1,(d c e).2.1⟩,?_⟩;have:=zcz (m.ca.map zY) 0 1000 (by rw[List.pairwise_map];exact g) (fun x d=>by grind);rw[List.length_map]at this;omega
theorem zoJ (h:Rt m) {c:Ca} (a:m.ca[k]? =Xa c):zdi m.ca ⟨c.file,c.idx,0⟩=k/\zes m.ca ⟨c.file,c.idx,0⟩=Xc:=by
 obtain⟨b,_,_⟩:=h.cache;obtain⟨b,d⟩:=gS.1 a;have a:zY ⟨c.file,c.idx,0⟩=zY c:=rfl;refine⟨zji (Nat.le_of_lt b) (fun j d a a=>?_) (fun d a=>?_),?_⟩;·grind [gS.1,Ya.1]
 ·grind
 grind [zes,Xt.2,mG]
theorem zim (l:ChW w0 k w V m) (g:Rt m) (p:Nat) (f:Fr) (h:m.fs[p]? =Xa f) (L:f.f≠-1) (D:f.r≠0):
  Xp prog 199 #[Xj (Xa ⟨k,0,Xb⟩),I6 (p:Int)] w fun e w'=>(∃v,e= Xl v)/\Chg w0 k w V (qI m p) w':=by
 obtain⟨j,c,A,u,F,d,a⟩:=zgL g h L;obtain⟨R,S,G⟩:=g.cache;obtain⟨E,F⟩:=zoJ g d;rw[a.file,a.idx]at E F;have t:=(gS.1 d).1;have B:u<=12:=a.lo;have c:=dD<|zjO g h d a.fr;obtain⟨P,Q,M⟩:=zcf g h D;have z:Xo (∀W,zc w W->Xp prog 139 #[Xj (Xa ⟨k,0,Xb⟩),I6 (A:Int),I6 (u:Int)] W fun e w'=>e= Xl (Xm #[I6 (j:Int),Xh Xc])/\zc W w'):=dD<|fun W i=>by
  have:=zbI (l.aA i) R S G (A:Int) (u:Int) Wm;rw[E,F]at this;exact this
 have q:Xo (qI m p=zbj { m with ca:=m.ca.eraseIdx j } p f.r ⟨0,0,Xd⟩):=dD<|by
  rw[show(⟨0,0,Xd⟩:En)=en0 from rfl,zkm (m:={ m with ca:=m.ca.eraseIdx j }) g rfl rfl rfl h D JR];unfold qI;rw[c.out]
 have n:Xo (∀c i,ChW w0 k c i { m with ca:=m.ca.eraseIdx j }->Xp prog 195 #[Xj (Xa ⟨k,0,Xb⟩),I6 (p:Int),Xi #[I6 0,I6 0,Xh Xd]] c fun e w'=>(∃v,e= Xl v)/\Chg w0 k c i (qI m p) w'):=dD<|fun c i c=>by
  rw[q.out];exact zeM c p f h ⟨0,0,Xd⟩ g.inv.aI ⟨P,Q⟩ M
 have H:=dD l;have C:¬Dw k V w.heap.size:=fun e=>absurd (l.bK _ e) Wm;obtain⟨a4,-⟩:=l.at.ns;obtain⟨c,K,N⟩:=l.at.bA p f h;have x:=dD K;have y:=dD N;have c:(p:Int)< (V.f.n:Int):=by
  have:=(gS.1 h).1;omega
 have r:=a.ff;have s:=a.fx;have i:=dD t;have c:=dD G;obtain⟨⟨T,U,W,X,Y,Z,I,a0⟩,a2,a3,a1,a5,a5⟩:=f;dsimp only at r s;subst r;subst s;obtain⟨r,r⟩:=kA (qI m p);rw[r.out]at n q⊢;clear l g h L D d a R S G E F t B P Q M K N a4;have F:=H.box.box.c 0 rfl;rw[x.out]at F;obtain⟨h,l,r,s,q,t,x,B,D,E,a,d,g⟩:=y.out w (zc.refl _);dsimp only at h l r s q t x B D E a d g;go_enter func199,ntmps199;go_upto_region 1 with fail;clear h l r s q t x B D E a d g F;obtain⟨a,d⟩:=kA w.heap.size;refine nW fun r a=>?_;have h:=gA a;have l:=xPT a d;rw[d.out];rw[d.out]at C;clear a;have d:=l.box.c 11 rfl;have g:=l.box.c 12 rfl;have a:=z.out r h.out;go_wp2_with fail;refine a.mono ?_;clear a d g;rintro e x ⟨rfl,a⟩;have u:=dD (h.trans a);clear a;have h:=dD (H.aA u);obtain⟨l,r,a⟩:=h.ca.aG (Hm i.out);have g:=zik w0.heap.size l r j m.ca x (Ry a h.ca) i c.out;have s:=h.box.box.c 9 rfl;rw[a]at s;have d:=dD a;clear a;obtain⟨t,a⟩:=kA m.ca.length;rw[a.out]at g s;have a:j<1000:=by have:=i.out;have:=c.out;omega
 go_wp2_with fail;refine g.mono ?_;clear g s;rintro e y ⟨rfl,g,c⟩;have i:k≠l:=h.nc l (by have a:=d.out;(try simp only[Sli.x]at a);unfold oB;rw[a];rfl);have z:Xo (zt y k 102 (chL V m)):=h.box.beside c (fun p e=>by cases e;exact i);have A:=dD g;have s:=dD c;clear g c;go_upto_region 3 with(refine Qk rfl 38 (.tmp 37) (.tmp 34) rfl k 9 rfl (O (Xa ⟨l,0,Xb⟩) (t - 1) r) rfl [O (Xa ⟨l,0,Xb⟩) (t - 1) r] rfl z (by simp[chL]) Kr (by simp[Value.oneCell']) ?_)
 intro z c g _;have i:Chg w0 k x V { m with ca:=m.ca.eraseIdx j } z:=by
  refine h.cache (w1:=y) (b:=⟨Xa ⟨l,0,Xb⟩,t - 1,r⟩) (qH.grown s (by have a:=d.out;(try simp only[Sli.x]at a);unfold oB;rw[a];rfl)) (fun h h=>?_) A g c;unfold oB at h;cases h;exact .inl (by have a:=d.out;(try simp only[Sli.x]at a);unfold oB;rw[a];rfl)
 have a:=Chg.aH u i;obtain⟨r,d,h,q⟩:=a;have a:=dD d;have l:=dD h;have j:=dD q;have a:=n.out z r d;clear i d h q c g;try simp only[Yb]
 go_wp2_with fail;refine a.mono ?_;clear a;rintro e a ⟨⟨a,rfl⟩,c⟩;have a:=dD<|Chg.step l j c;clear c;go_wp2;exact Wq a.out
section
variable{w0 w w1 w2:Xn} {p:Nat} {V:MaV} {m:Ma}
theorem ChW.setSw (h:ChW w0 p w V m) {d q:Sli} (e:zc w w1) (i:w.heap.size<=B) (b:jE B w1 (Xi #[d.x,q.x]) r g) (f:w1.grownBy w2 (Xa p)) (c:zt w2 p 102 (chL { V with sb:=d,sq:=q } { m with sb:=r,sq:=g })):Chg w0 p w V { m with sb:=r,sq:=g } w2:=
 h.field (V':={ V with sb:=d,sq:=q }) (m':={ m with sb:=r,sq:=g }) e f rfl rfl rfl rfl rfl rfl c (fun W _ g a=>by
  have k:=(b.aY (fun k r=>Hm (h.drt k r)) g).rows
  exact⟨a.sl,k.1,k.2,a.db,a.dq,a.fl⟩)
end
theorem zmq (h:Rt m) (a:m.fs[k]? =Xa X) (b:X.r≠0):(zap m<m.sl.length->ZU m.sl X.r=0/\Jm m.sl X.r=m.sl.set (zap m) X.r/\zcY m.sl X.r=(zap m:Int))/\(¬zap m<m.sl.length->ZU m.sl X.r=10):=by
 obtain⟨c,c,_⟩:=zcf h a b;have a:=h.parts.2;rcases zdT m.sl X.r with⟨a,_⟩|⟨_,a,_⟩|⟨_,_,b,a,_⟩|⟨_,_,b,a,c,d⟩;·grind
 ·grind
 ·exact⟨fun h=>absurd h b,fun _=>a⟩
 exact⟨fun _=>⟨a,c,d⟩,fun h=>absurd b h⟩
theorem zlQ (K:ChW w0 k w V m) (Q:Rt m) (p:Nat) (f:Fr) (Y:m.fs[p]? =Xa f) (bx:f.r≠0):
  Xp prog 190 #[Xj (Xa ⟨k,0,Xb⟩),I6 (p:Int)] w fun e w'=>e= Xl (Xh (zbS m p f).1)/\Chg w0 k w V (zbS m p f).2 w':=by
 obtain⟨ck,ah⟩:=zmq Q Y bx;obtain⟨eb,ec,dq⟩:=zcf Q Y bx;have dn:=Q.inv.aP;have ch:=Q.inv.bC;obtain⟨E,L⟩:=kA (ZU m.sl f.r);obtain⟨aj,a7⟩:=kA (zcY m.sl f.r);have a8:Xo (∀W,zc w W->Xp prog 193 #[V.s.x,I6 f.r] W fun e w'=>∃s:Sli,e= Xl (Xm #[s.x,I6 aj,I6 E])/\jD slE W.heap.size w' (s.x) (Jm m.sl f.r)/\zc W w'):=dD<|fun W am=>by
  obtain⟨-,e7,-⟩:=K.at.ns;have ag:=(K.at.aA am).sl;(try simp only[Sli.x]);rw[e7]at ag⊢;rw[<-L.out,<-a7.out];refine(zmr V.s.a V.s.c m.sl f.r W ag).mono ?_;rintro e w' ⟨ct,cx,rfl,e8,bs⟩;exact⟨⟨ct,_,cx⟩,rfl,e8,bs⟩
 have a6:Xo (E≠0->zbS m p f=(Xd,m)):=dD<|fun e=>by
  unfold zbS;rw[kF (fun Z=>e (L.symm.trans (ck Z).1))]
 have af:E=0->zap m<m.sl.length:=fun e=>Classical.byContradiction fun ds=>by
  have:=ah ds;rw[L.out,e]at this;cases this
 have i:Xo (E=0->(zbS m p f).1=Xc/\∃j:Nat,aj=(j:Int)/\j<=60/\zn m.sb.length m.sq (j:Int)=0/\(zbS m p f).2=zbj {({ m with sl:=Jm m.sl f.r }:Ma)with sb:=jX m.sb m.sq (j:Int),sq:=Zc m.sb m.sq (j:Int) (pgL f.p) } p f.r ⟨2,(j:Int),Xd⟩):=dD<|fun e=>by
  have Z:=af e;obtain⟨dk,ce,cf⟩:=ck Z;have U:zn m.sb.length m.sq ((zap m:Nat):Int)=0:=by
   unfold zn;rw[kE Q.inv.sq,kE (by simp[ZJ];omega)]
  have S:enW ⟨2,(zap m:Int),Xd⟩=0:=JQ Sm ⟨Sm,by simp only;omega,fun K=>by simp at K⟩ Sm;unfold zbS;rw[kE Z];refine⟨rfl,zap m,a7.symm.trans cf,Wm,U,?_⟩;rw[zkm (m:={({ m with sl:=Jm m.sl f.r }:Ma)with sb:=jX m.sb m.sq (zap m:Int),sq:=Zc m.sb m.sq (zap m:Int) (pgL f.p) }) Q rfl rfl rfl Y bx S];simp only;unfold QB jX Zc;rw[kE U,kE U,ce]
 have a4:Xo (∀(ar:Xn) be (j:Nat) c4 c0 c5,ChW w0 k ar be {({ m with sl:=c4 }:Ma)with sb:=c0,sq:=c5 }->Xp prog 195 #[Xj (Xa ⟨k,0,Xb⟩),I6 (p:Int),Xi #[I6 2,I6 (j:Int),Xh Xd]] ar fun e w'=>(∃v,e= Xl v)/\Chg w0 k ar be (zbj {({ m with sl:=c4 }:Ma)with sb:=c0,sq:=c5 } p f.r ⟨2,(j:Int),Xd⟩) w'):=dD<|fun ar be j c4 c0 c5 dl=>zeM dl p f Y ⟨2,(j:Int),Xd⟩ Q.inv.aI ⟨eb,ec⟩ dq;have a5:=dD K;have bw:k<w.heap.size:=K.bK k (.inl rfl);obtain⟨eq,-⟩:=K.at.ns;obtain⟨el,dp,Z⟩:=K.at.bA p f Y;have aw:=dD dp;have ax:=dD Z;have dr:(p:Int)< (V.f.n:Int):=by
  have:=(gS.1 Y).1;omega
 obtain⟨cb,az⟩:=kA (zbS m p f);rw[az.out]at a6 i⊢;obtain⟨⟨r,t,x,z,A,B,C,D⟩,M,bq,bo,bp,br⟩:=f;dsimp only at a8 i a4;have ee:=a5.box.box.c 0 rfl;rw[aw.out]at ee;obtain⟨db,dc,de,df,bm,dg,dh,di,dj,bn,bj,bk,bl⟩:=ax.out w (zc.refl _);dsimp only at db dc de df bm dg dh di dj bn bj bk bl;go_enter func190,ntmps190;go_upto_region 2 with fail;obtain⟨h,av⟩:=kA w.heap.size;refine nW fun H R=>?_;have ai:=gA R;have cd:=xPT R av;rw[av.out];rw[av.out]at bw;have cg:zc H H.drew:=show Below _ _ _ from(bR _ _).drew;obtain⟨c,b⟩:=Ww fun u=>zc H u;have n:=(b _).2 cg;have N:zc H H.drew:=cg;have du:=fun y:zg c=>(a5.box.box.aA (ai.trans ((b _).1 y.holds))).c 2 rfl;have e6:=fun y:zg c=>(cd.box.aA ((b _).1 y.holds)).c 8 rfl;have bv:Nonempty (zg c):=⟨⟨_,n⟩⟩;refine zQ (I:=c) 15 [(7,fun v=>∃s:Sli,v= Xm #[s.x,I6 aj,I6 E])] (fun u=>zc H u) n N z3 Kr rfl rfl Dc (Sa ⟨_,zE,rfl⟩) Kr ?_;simp only[Yp,Yq];refine zi ?_;refine zW (.tmp 19) ⟨k,0,Xb⟩ rfl rfl rfl rfl ?_;refine Uq ?_;iterate 5 refine zi ?_
 refine zH rfl rfl (fun v u=>∃(s:Sli) (G:Xn),v= Xm #[s.x,I6 aj,I6 E]/\zc H G/\zc G u/\jD slE G.heap.size u (s.x) (Jm m.sl M)) (fun w' g a=>?_) (fun c7 a0=>?_);·refine zN.call [V.s.x,I6 M] rfl func193 rfl rfl rfl ?_;refine(a8 w' (ai.trans a)).mono ?_;rintro e c8 ⟨s,rfl,ah,a9⟩;exact⟨_,rfl,(b _).2 (((b _).1 g).trans a9),⟨s,rfl⟩,s,w',rfl,a,a9,ah⟩
 obtain⟨s,rfl⟩:=a0;refine Uq ?_;iterate 7 refine zi ?_
 refine qV fun ek bt P=>?_;obtain⟨aq,G,S,X,al,c6⟩:=P;have T:aq=s:=by
  obtain⟨cu,cv,cw⟩:=s;obtain⟨cy,cz,da⟩:=aq;simp only[Value.tuple.injEq,Array.mk.injEq,List.cons.injEq,vJ,and_true]at S;obtain⟨rfl,rfl,rfl⟩:=S;rfl
 subst T;have bd:=dD<|c6.base (bS (ai.trans X));have au:=dD (ai.trans (X.trans al));have cr:=dD (cd.aA (X.trans al));by_cases an:E=0
 rotate_left
 ·have bz:(E != 0)=Xc:=by simp[an]
  have ca:=dD<|a6.out an;go_wp2;go_ret;exact⟨Rr ca.out,Rx ca.out (Chg.refl a5 au)⟩
 have bz:(E != 0)=Xd:=by simp[an]
 obtain⟨ef,j,eg,es,eh,ei⟩:=i.out an;subst eg;have b8:=dD ef;have b9:=dD eh;have ba:Xo (cb.2=_):=ei;have cl:=dD (a5.box.aA au);go_upto_region 6 with(refine Qk rfl 30 (.tmp 36) (.tmp 33) rfl k 2 rfl (aq.x) rfl [aq.x] rfl cl (by simp[chL]) Kr (by simp[Value.oneCell']) ?_)
 intro F bh aa _;have cs:Xo (zt F h 53 [U8 r,U8 t,U8 x,U8 z,U8 A,U8 B,U8 C,U8 D,I6 M,Xh bq,Xh bo,I6 bp,I6 br]):=dD<|cr.beside aa (fun p e=>by cases e;omega);obtain⟨l,ao,e9,bm⟩:=a5.cE au bd aa bh;have bc:=dD ao;have cp:=dD e9;have cm:=dD bm;have co:Xo (∀W,zc F W->Xp prog 194 #[Xi #[l.sb.x,l.sq.x],I6 (j:Int),Xi #[U8 r,U8 t,U8 x,U8 z,U8 A,U8 B,U8 C,U8 D]] W fun e w'=>∃d q:Sli,e= Xl (Xm #[Xi #[d.x,q.x],I6 0])/\jE W.heap.size w' (Xi #[d.x,q.x]) (jX m.sb m.sq (j:Int)) (Zc m.sb m.sq (j:Int) (pgL ⟨r,t,x,z,A,B,C,D⟩))/\zc W w'):=show∀W,_ from fun W am=>by
  have ag:=zhc (Xi #[l.sb.x,l.sq.x]) m.sb m.sq (j:Int) (pgL ⟨r,t,x,z,A,B,C,D⟩) rfl W ⟨_,_,rfl,(ao.at.aA am).sb,(ao.at.aA am).sq⟩;rw[b9.out]at ag;refine ag.mono ?_;rintro e w' ⟨em,rfl,cj,bs⟩;obtain⟨d,q,rfl,_,_⟩:=cj.form;exact⟨d,q,rfl,cj,bs⟩
 have dt:k<F.heap.size:=ao.bK k (.inl rfl);have ay:Xo (k≠h):=dD<|Wm;try simp only[Yb]
 go_upto_region 6 with fail;obtain⟨c,b⟩:=Ww fun u=>zt u h 53 [U8 r,U8 t,U8 x,U8 z,U8 A,U8 B,U8 C,U8 D,I6 M,Xh bq,Xh bo,I6 bp,I6 br];have n:=(b _).2 (cs.aA (gW _));have N:zc F F.drew:=show Below _ _ _ from(bR _ _).drew;have dv:=fun y:zg c=>((b _).1 y.holds).box.c 0 rfl;have dw:=fun y:zg c=>((b _).1 y.holds).box.c 1 rfl;have dx:=fun y:zg c=>((b _).1 y.holds).box.c 2 rfl;have dy:=fun y:zg c=>((b _).1 y.holds).box.c 3 rfl;have dz:=fun y:zg c=>((b _).1 y.holds).box.c 4 rfl;have e0:=fun y:zg c=>((b _).1 y.holds).box.c 5 rfl;have e4:=fun y:zg c=>((b _).1 y.holds).box.c 6 rfl;have e5:=fun y:zg c=>((b _).1 y.holds).box.c 7 rfl;have bv:Nonempty (zg c):=⟨⟨_,n⟩⟩;refine zQ (I:=c) 17 [(5,fun v=>v= Xi #[l.sb.x,l.sq.x]),(9,fun v=>∃d q:Sli,v= Xm #[Xi #[d.x,q.x],I6 0]),(16,fun _=>True)] (fun u=>zc F u) n N z3 Kr rfl rfl Dc (Sc ⟨_,rfl⟩ ⟨_,zE,zE,rfl⟩ ⟨undef,trivial⟩) Kr ?_;simp only[Yp,Yq];iterate 2 refine zi ?_
 refine zW (.tmp 39) ⟨k,0,Xb⟩ rfl rfl rfl rfl ?_;refine Uq ?_;iterate 2 refine zi ?_
 refine zH rfl rfl (fun _ u=>zc F u) (fun w' g a=>?_) (fun c7 a0=>?_)
 ·refine zco 34 (.tmp 42) rfl k 3 rfl [l.sb.x,l.sq.x] ((bc.box.box.aA a).mid 3 (fun j v ac=>by
   match j,ac with
   | 0,ac=>exact ac
   | 1,ac=>exact ac)) underlying34 rfl Kr ⟨g,rfl,a⟩
 cases a0;refine Uq ?_;iterate 3 refine zi ?_
 refine zH rfl rfl (fun v u=>∃(d q:Sli) (G:Xn),v= Xm #[Xi #[d.x,q.x],I6 0]/\zc F G/\zc G u/\jE G.heap.size u (Xi #[d.x,q.x]) (jX m.sb m.sq (j:Int)) (Zc m.sb m.sq (j:Int) (pgL ⟨r,t,x,z,A,B,C,D⟩))) (fun w' g a=>?_) (fun c7 a0=>?_);·refine zN.call [Xi #[l.sb.x,l.sq.x],I6 (j:Int),Xi #[U8 r,U8 t,U8 x,U8 z,U8 A,U8 B,U8 C,U8 D]] rfl func194 rfl rfl rfl ?_;refine(co w' a).mono ?_;rintro e c8 ⟨d,q,rfl,ah,a9⟩;exact⟨_,rfl,(b _).2 (((b _).1 g).aA a9),⟨d,q,rfl⟩,d,q,w',rfl,a,a9,ah⟩
 obtain⟨d,q,rfl⟩:=a0;refine Uq ?_;iterate 3 refine zi ?_
 refine zW (.tmp 38) ⟨k,0,Xb⟩ rfl rfl rfl rfl ?_;refine Uq ?_;iterate 2 refine zi ?_
 refine zH rfl rfl (fun _ u=>Chg w0 k F l {({ m with sl:=Jm m.sl M }:Ma)with sb:=jX m.sb m.sq (j:Int),sq:=Zc m.sb m.sq (j:Int) (pgL ⟨r,t,x,z,A,B,C,D⟩) } u) (fun w' g a=>?_) (fun c7 a0=>?_)
 ·obtain⟨ak,ap,G,S,X,al,c6⟩:=a;have T:ak=d/\ap=q:=by
   obtain⟨cu,cv,cw⟩:=d;obtain⟨cy,cz,da⟩:=ak;obtain⟨dk,ce,cf⟩:=q;obtain⟨en,eo,ep⟩:=ap;simp only[Value.tuple.injEq,Array.mk.injEq,List.cons.injEq,Value.agg.injEq,vJ,and_true]at S;obtain⟨⟨rfl,rfl,rfl⟩,rfl,rfl,rfl⟩:=S;exact⟨rfl,rfl⟩
  obtain⟨rfl,rfl⟩:=T;have c9:=X.trans al;refine ZT 34 (.tmp 52) (.tmp 48) rfl k 3 rfl (Xi #[ak.x,ap.x]) rfl [ak.x,ap.x] rfl (bc.box.aA c9) (by simp[chL]) Kr (by simp[Value.oneCell']) ?_;intro bg bi ab _;exact⟨(b _).2 (((b _).1 g).beside ab (fun p e=>by cases e;exact fun e=>ay.out e.symm)),trivial,bc.setSw c9 (bS X) c6 ab bi⟩
 try simp only[Yb]
 refine qV fun bg bt P=>?_;obtain⟨cc,ci,ea,bn⟩:=Chg.step cp cm P;have ej:Xo (ChW w0 k bg cc _):=ci;have cq:=dD ea;have cn:=dD bn;have bu:=a4.out bg cc j _ _ _ ci;go_wp2_with fail;refine bu.mono ?_;rintro e bf ⟨⟨er,rfl⟩,dm⟩;have bb:Xo (Chg w0 k w V cb.2 bf):=show Chg _ _ _ _ _ _ by rw[ba.out];exact Chg.step cq cn dm
 go_wp2;go_ret;exact⟨Rr b8.out,bb⟩
theorem zqf (x0 y0:Int) (x1 y1:Int) (w):(Op.equalIn 10000 95 (Xi #[I6 x0,I6 x1]) (Xi #[I6 y0,I6 y1])).run prog w= .ok ((x0 == y0) &&(x1 == y1)) w:=by
 have hf : (Tryz.prog.fieldsOf 95).toList.map (fun f => (f.name, f.type, f.offset)) = [("Proc", 3, 0), ("Page", 3, 1)] := by kernel_rfl
 rw[run_equalIn_struct w 9999 95 _ _ Kr Kr];obtain⟨f0,f1,hfs⟩:∃f0 f1,(Tryz.prog.fieldsOf 95).toList=[f0,f1]:=by
  have hl:(Tryz.prog.fieldsOf 95).toList.length=2:=by have:=congrArg List.length hf;simpa using this
  match hq:(Tryz.prog.fieldsOf 95).toList,hl with
  | [f0,f1],_=>exact⟨f0,f1,rfl⟩
 rw[hfs]at hf⊢;simp at hf;obtain⟨⟨n0,t0,o0⟩,⟨n1,t1,o1⟩⟩:=hf;have pI:=zc2 w;simp only[Op.eqFields,n0,t0,o0,n1,t1,o1];simp[pI,run_equalIn_int w _ _ _ _ _ _ underlying3];by_cases e0:x0=y0;case neg=>simp[e0]
 subst e0;by_cases e1:x1=y1;case neg=>simp[e1]
 subst e1;simp
def zoh (W:Xn) (y:Addr) (x:Nat × Nat):Prop:=W.cell? y=Xa (Xe Xf (x.1:Int))/\W.cell? { block:=y.block,off:=y.off+1 }=Xa (Xe Xf (x.2:Int))
theorem zr.bP (h:zr JZ w A d):∃a c,A= O a d.length c/\∀(j:Nat) x,d[j]? =Xa x->∃ad,a=Xa ad/\∀W,zc w W->zoh W (ad.add (j*2)) x:=by obtain⟨a,c,b,v⟩:=h.rows;refine⟨a,c,b,fun j x f=>?_⟩;obtain⟨ad,e,b⟩:=v j x f;exact⟨ad,e,fun W v=>⟨b W v 0 _ rfl,b W v 1 _ rfl⟩⟩
theorem zgB (v) (l:List (Nat × Nat)) (q n:Nat) (w) (U:zr JZ w v l):
  Xp prog 206 #[v,Xi #[I6 (q:Int),I6 (n:Int)]] w fun e w'=>(∃E:Int,e= Xl (I6 E)/\(0<=E↔(q,n)∈l))/\zc w w':=by
 have s:=U.short;obtain⟨ae,af,rfl,f⟩:=U.bP;have I:=dD f;clear f U;obtain⟨L,K⟩:=kA l.length;rw[K.out]at s⊢;obtain⟨c,b⟩:∃c:Int->Prop,Xo (∀E,(0<=E↔(q,n)∈l)=c E):=⟨_,fun _=>rfl⟩;simp only[b.out];obtain⟨a3,W⟩:=kA w.heap.size;obtain⟨ac,d⟩:=kB (w.alloc (Xk #[I6 (q:Int),I6 (n:Int)] 95));have Z:=gA d;have a1:=xP d W;have N:=dD d;clear d;have aa:=zqf;go_enter func206,ntmps206;go_upto_region 1 with fail;rw[N.out,W.out];go_wp2;go_loopg [5,8] L (fun a5 _ ab wr=>∃a:Nat,a<=L/\L - a<=a5/\ab=I6 a/\Xo (zc w wr)/\Xo (Box wr a3 [I6 (q:Int),I6 (n:Int)])/\Xo (∀(j:Nat) x,j<a->l[j]? =Xa x->x≠(q,n)))
 exact⟨0,nZ _,Wm,rfl,Z,a1,fun j x t=>absurd t (nL _)⟩;obtain⟨a,a9,a8,rfl,F,P,V⟩:=hrel;by_cases g:a<L
 ·have u:=kC g
  obtain⟨x,M⟩:∃x,Xo (l[a]? =Xa x):=⟨_,gE (Rx K.out g)⟩;obtain⟨Q,rfl,Y⟩:=I.out a x M.out;have r:=dD<|fun X (a6:zc wr X)=>Y X (F.trans a6);clear Y;obtain⟨i,m⟩:=x;go_upto_region 4 with fail;have C:=fun y:zk wr=>(r _ y.aA).1;have D:=fun y:zk wr=>(r _ y.aA).2;have A:=P.gw 0 rfl;have B:=P.gw 1 rfl;have z:Nonempty (zk wr):=⟨⟨_,zc.refl _⟩⟩;by_cases G:i=q/\m=n
  ·obtain⟨rfl,rfl⟩:=G;have p:Xo (c (a:Int)):=dD<|by
    rw[<-b.out];exact⟨fun _=>mG M,fun _=>Wm⟩
   refine jQ [] z3 Kr Sm Sm ?_;iterate 6 refine zh ?_
   refine z7 fun a0 k T=>?_;have H:=dD (F.trans k);clear k T z C D A B;have a7:(((i:Int) ==(i:Int)) &&((m:Int) ==(m:Int)))=Xc:=Sm;go_wp2;go_ret;exact⟨⟨_,rfl,p⟩,H⟩
  have p:Xo (∀(j:Nat) x,j<a+1->l[j]? =Xa x->x≠(q,n)):=dD<|fun j x t h=>by
   by_cases e:j=a;·subst e;rw[M.out]at h;cases h;exact fun e=>G (Prod.mk.inj e)
   exact V j x Wm h
  have a7:(((q:Int) ==(i:Int)) &&((n:Int) ==(m:Int)))=Xd:=by
   by_cases e:i=q
   ·have R:¬(n:Int)=(m:Int):=fun a4=>G ⟨e,Wm⟩
    simp[R]
   have R:¬(q:Int)=(i:Int):=fun a4=>e Wm;simp[R]
  clear G;refine jQ [] z3 Kr Sm Sm ?_;iterate 6 refine zh ?_
  refine z7 fun a0 k T=>?_;have H:=dD (F.trans k);have a2:=dD (P.aA k);clear k T z C D A B;go_wp2;go_roundg (L -(a+1));exact⟨a+1,Wm,Wm,Gn,H,a2,p⟩;omega
 have u:=kD g;have:a=L:=Wm;subst this;have p:Xo (c (-1)):=dD<|by
  rw[<-b.out];refine⟨fun S=>absurd S Dc,fun S=>?_⟩;obtain⟨j,t⟩:=Yc S;exact absurd rfl (V j _ (by rw[<-K.out];exact(gS.1 t).1) t)
 go_wp2;go_ret;exact⟨⟨_,rfl,p⟩,F⟩
theorem zdn (v) (l:List (Nat × Nat)) (q n:Nat) (w) (b:zr JZ w v l):
  Xp prog 203 #[v,Xi #[I6 (q:Int),I6 (n:Int)]] w fun e w'=>e= Xl (Xh (l.contains (q,n)))/\zc w w':=by
 have a:=zgB v l q n (w.alloc (Xk #[I6 (q:Int),I6 (n:Int)] 95)) (b.aA (za _ _));obtain⟨R,c⟩:=kA (l.contains (q,n));rw[c.out];clear b;go_enter func203,ntmps203;go_wp2_with fail;refine a.mono ?_;clear a;rintro e a ⟨⟨z,rfl,a⟩,b⟩;have f:=dD<|(za _ _).trans b;clear b;by_cases d:0<=z
 ·have b:Xo (R=Xc):=dD<|by rw[<-c.out];simpa using a.1 d
  clear a;go_wp2;go_ret;exact⟨Rr b.out,f⟩
 have b:Xo (R=Xd):=dD<|by
  rw[<-c.out];cases c:l.contains (q,n)with
  | false=>rfl
  | true=>exact absurd (a.2 (Si c)) d
 have c:Xo (decide (0<=z)=Xd):=decide_eq_false d;clear a;go_wp2;go_ret;exact⟨by rw[b.out,<-c.out];rfl,f⟩
theorem zqw:isE Z z H=(decide (Z.kind=z) && decide (Z.n=H)):=by unfold isE;cases c:decide (Z.kind=z) <;> cases c:decide (Z.n=H) <;> simp_all
theorem zmB (F:ChW w0 k w V m) (ap bc c0 bz:Nat) (f:Fr) (p:Nat) (a7) (l:List (Nat × Nat)) (ad:Box w ap (frv f)) (ag:Box w bc [a7]) (ah:Box w c0 [Xj (Xa ⟨k,0,Xb⟩)]) (ae:Box w bz [I6 (p:Int)]) (H:zr JZ w a7 l)
  (q n:Nat) (s:Sp) (a:Ar) (bn:m.sp[q]? =Xa s) (c4:n<64) (c9:0<=f.f) (bg:a.file=f.f->(0<=a.base/\a.base<=100)/\(0<=a.fr/\a.fr<=100)):
  Xp prog 202 #[Xi #[I6 (q:Int),I6 (n:Int)],Xi #[I6 a.fr,I6 a.tz,Xh a.rd,Xh a.wr,Xh a.sh,I6 a.file,I6 a.base],Xj (Xa ⟨ap,0,Xb⟩),Xj (Xa ⟨bc,0,Xb⟩),Xj (Xa ⟨c0,0,Xb⟩),Xj (Xa ⟨bz,0,Xb⟩)] w fun e w'=>e= Xl (Xh (zaB p f l q s a n))/\zc w w':=by
 have am:=(gS.1 bn).1;have ak:JD m q (n:Int)=zf s n:=by unfold JD;rw[Sp.aK bn,JM c4]
 have bs:Xo (∀W,zc w W->Xp prog 91 #[Xj (Xa ⟨k,0,Xb⟩),Xi #[I6 (q:Int),I6 (n:Int)]] W fun e w'=>e= Xl (enV (zf s n))/\zc W w'):=dD<|fun W be=>by rw[<-ak];exact Jb (F.aA be) q am (n:Int)
 have bt:Xo (∀W,a.file=f.f->Xp prog 107 #[Xi #[I6 a.fr,I6 a.tz,Xh a.rd,Xh a.wr,Xh a.sh,I6 a.file,I6 a.base],I6 (n:Int)] W fun e w'=>e= Xl (I6 (a.base+(n:Int) - a.fr))/\zc W w'):=dD<|fun W bh=>J9 a (n:Int) W (bg bh).1 (bg bh).2 Wm;have br:Xo (∀W,zc w W->Xp prog 203 #[a7,Xi #[I6 (q:Int),I6 (n:Int)]] W fun e w'=>e= Xl (Xh (l.contains (q,n)))/\zc W w'):=dD<|fun W be=>zdn a7 l q n W (H.aA be);have M:Xo (a.file=f.f->(z5 a n).page=a.base+(n:Int) - a.fr):=dD<|fun bh=>by
  unfold z5;simp only;rw[kE Wm];omega
 have c:Xo (zaB p f l q s a n=(decide (a.file=f.f) && decide ((z5 a n).page=f.x) && !(l.contains (q,n)) &&(decide ((zf s n).kind=0) || (decide ((zf s n).kind=1) && decide ((zf s n).n=(p:Int)))))):=dD<|by
  unfold zaB;rw[zqw];rfl
 obtain⟨bq,ax⟩:=kA (l.contains (q,n));rw[ax.out]at br c;obtain⟨a2,b8⟩:=kA ((z5 a n).page);rw[b8.out]at M c;obtain⟨B,aq,bd,aj⟩:∃B aq bd,zf s n=⟨B,aq,bd⟩:=⟨_,_,_,rfl⟩;rw[aj]at bs c;obtain⟨a3,c7⟩:=kA (zaB p f l q s a n);rw[c7.out]at c⊢;simp only at c;have a8:=dD ad;have av:=dD ag;have aw:=dD ah;have au:=dD ae;obtain⟨⟨cd,ce,cf,cg,ch,ci,cj,ck⟩,fr,cn,cm,ab,ac⟩:=f;obtain⟨aa,r,i,t,j,b,d⟩:=a;simp only at bt M c c9;clear F ad ag ah ae H bn c4 bg am ak aj;obtain⟨bx,ar⟩:=kA w.heap.size;obtain⟨N,u⟩:=kB ((w.alloc (Xk #[I6 (q:Int),I6 (n:Int)] 95)).alloc (Xk #[I6 aa,I6 r,Xh i,Xh t,Xh j,I6 b,I6 d] 77));have L:=gD2 u;have bb:Xo (Box N bx [I6 (q:Int),I6 (n:Int)]):=dD<|by rw[<-u,<-ar.out];exact(Box.aE w _ _ rfl).alloc _
 have P:Xo (Box N (bx+1) [I6 aa,I6 r,Xh i,Xh t,Xh j,I6 b,I6 d]):=dD<|by rw[<-u];exact Box.aE _ [I6 aa,I6 r,Xh i,Xh t,Xh j,I6 b,I6 d] _ (by have:=ar.out;simp;omega)
 have b9:Xo (_=N):=u;clear u;go_enter func202,ntmps202;go_upto_region 1 with fail;rw[b9.out,ar.out];have U:=P.gw 0 rfl;have X:=P.gw 1 rfl;have Y:=P.gw 2 rfl;have Z:=P.gw 3 rfl;have I:=P.gw 4 rfl;have a0:=P.gw 5 rfl;have a1:=P.gw 6 rfl;have S:=bb.gw 0 rfl;have T:=bb.gw 1 rfl;have v:=fun A:zk N=>(a8.aA (L.trans A.aA)).c 11 rfl;have x:=fun A:zk N=>(a8.aA (L.trans A.aA)).c 12 rfl;have Q:=fun A:zk N=>(av.aA (L.trans A.aA)).c 0 rfl;have R:Nonempty (zk N):=⟨⟨_,zc.refl _⟩⟩;by_cases E:b=ab
 rotate_left
 ·have c2:(b != ab)=Xc:=Si E
  have h:Xo (a3=Xd):=dD (by rw[c.out,decide_eq_false E];rfl);clear E;refine jQ [] z3 Kr Sm Sm ?_;iterate 6 refine zh ?_
  iterate 7 (refine ZC Kr ?_;simp only[Yb,sB,sS,sZ])
  iterate 2 refine zh ?_
  iterate 3 (refine ZC Kr ?_;simp only[Yb,sB,sS,sZ])
  refine zh ?_;refine z7 fun ba g G=>?_;have D:=dD (L.trans g);clear g G R U X Y Z I a0 a1 S T v x Q;go_wp2;go_ret;exact⟨Rr h.out,D⟩
 have c2:(b != ab)=Xd:=by simp[E]
 have al:=M.out E;have y:=fun W=>bt.out W E;rw[<-al]at y;have ay:Xo (decide (b=ab)=Xc):=decide_eq_true E;rw[ay.out]at c;clear E al;by_cases a4:a2=ac
 rotate_left
 ·have c3:(a2 != ac)=Xc:=Si a4
  have h:Xo (a3=Xd):=dD (by rw[c.out,decide_eq_false a4];rfl);clear a4;refine jQ [(9,⟨fun K=>K=I6 a2,fun K w'=>True⟩)] z3 Kr (Sa ⟨_,rfl⟩) ?hp ?_;case hp=>
   intro bo z;simp only[mC,nM,or_false]at z;subst z;exact fun _ _ _ _ F=>F
  iterate 9 refine zh ?_
  refine zJ rfl rfl (fun w' bi G=>?_) (fun c5 H=>?_);·refine zN.call [Xi #[I6 aa,I6 r,Xh i,Xh t,Xh j,I6 b,I6 d],I6 (n:Int)] rfl func107 rfl rfl rfl ?_;refine(y w').mono ?_;rintro e an ⟨rfl,g⟩;exact⟨_,rfl,g,rfl,trivial⟩
  subst H;refine Uq ?_;iterate 5 refine zh ?_
  iterate 3 (refine ZC Kr ?_;simp only[Yb,sB,sS,sZ])
  refine zh ?_;refine z7 fun ba g G=>?_;have D:=dD (L.trans g);clear g G R U X Y Z I a0 a1 S T v x Q y;go_wp2;go_ret;exact⟨Rr h.out,D⟩
 have c3:(a2 != ac)=Xd:=by simp[a4]
 have az:Xo (decide (a2=ac)=Xc):=decide_eq_true a4;rw[az.out]at c;clear a4;refine jQ [(9,⟨fun K=>K=I6 a2,fun K w'=>True⟩),(17,⟨fun K=>K= Xh bq,fun K w'=>True⟩)] z3 Kr (Sb ⟨_,rfl⟩ ⟨_,rfl⟩) ?hp ?_;case hp=>
  intro bo z;simp only[mC,nM,or_false]at z;rcases z with rfl|rfl;·exact fun _ _ _ _ F=>F
  exact fun _ _ _ _ F=>F
 iterate 9 refine zh ?_
 refine zJ rfl rfl (fun w' bi G=>?_) (fun c5 H=>?_);·refine zN.call [Xi #[I6 aa,I6 r,Xh i,Xh t,Xh j,I6 b,I6 d],I6 (n:Int)] rfl func107 rfl rfl rfl ?_;refine(y w').mono ?_;rintro e an ⟨rfl,g⟩;exact⟨_,rfl,g,rfl,trivial⟩
 subst H;refine Uq ?_;iterate 7 refine zh ?_
 refine zJ rfl rfl (fun w' bi G=>?_) (fun c5 H=>?_);·refine zN.call [a7,Xi #[I6 (q:Int),I6 (n:Int)]] rfl func203 rfl rfl rfl ?_;refine(br w' (L.trans bi)).mono ?_;rintro e an ⟨rfl,g⟩;exact⟨_,rfl,g,rfl,trivial⟩
 subst H;refine Uq ?_;refine zh ?_;refine z7 fun ba g G=>?_;have D:=dD (L.trans g);have bv:=dD (bb.aA g);clear g G R U X Y Z I a0 a1 S T v x Q y c2 c3;cases bq with
 | true=>
  have h:Xo (a3=Xd):=dD<|Rr c.out;go_wp2;go_ret;exact⟨Rr h.out,D⟩
 | false=>
  obtain⟨cb,cc⟩:=bv.k2;have ca:=(aw.aA D).c 0 rfl;have ai:=bs.out ba D.out;go_wp2_with fail;refine ai.mono ?_;clear ai cb cc ca;rintro e bu ⟨rfl,c1⟩;have c6:=dD (D.trans c1);clear c1;unfold enV;go_upto_region 4 with fail;obtain⟨cl,a9⟩:=kA bu.heap.size;obtain⟨c8,C⟩:=kB (bu.alloc (Xk #[I6 B,I6 aq,Xh bd] 55));have ao:Xo (zc w c8):=show zc _ _ from c6.trans (by rw[<-C];exact za _ _);have bw:=xP C a9;rw[C,a9.out];clear C;obtain⟨cp,cq⟩:=bw.k2;have co:=(au.aA ao).c 0 rfl;by_cases a5:B=0
  ·have bj:(B == 0)=Xc:=Rr a5
   have h:Xo (a3=Xc):=dD (by rw[c.out,decide_eq_true a5];rfl);clear a5;go_wp2;go_ret;exact⟨Rr h.out,ao⟩
  have bj:(B == 0)=Xd:=Si a5;rw[decide_eq_false a5]at c;clear a5;by_cases a6:B=1
  ·have bl:(B == 1)=Xc:=Rr a6
   rw[decide_eq_true a6]at c;clear a6;have h:Xo (a3=(aq ==(p:Int))):=dD<|Rr c.out;go_wp2;go_ret;exact⟨Rr h.out,ao⟩
  have bl:(B == 1)=Xd:=Si a6;rw[decide_eq_false a6]at c;clear a6;have h:Xo (a3=Xd):=dD<|Rr c.out;go_wp2;go_ret;exact⟨Rr h.out,ao⟩
theorem zN.allocFr (d:o.op= .alloc 53) (h:M (Xj (Xa ⟨w.heap.size,0,Xb⟩)) (w.alloc (Xk (frv fr0).toArray 53))):zN prog o a w M:=by
 have e:(zeroValue 53).run prog w= .ok frz w:=by
  obtain⟨f,c,b,_,_⟩:=info_parts qR.aD;have:qR.ty=53:=rfl;rw[this]at c;have b:f.zero=Xa frz:=b;simp[zeroValue,typeInfo,c,b]
 unfold zN;have:(execOp a.eval o).run prog w= .ok (.value (Xj (Xa ⟨w.heap.size,0,Xb⟩))) (w.alloc (Xk (frv fr0).toArray 53)):=by
  simp[execOp,d,go_sem,e];rfl
 rw[this];exact h
theorem zlR (h:ChW w0 k w V m) (hR:Rt m) (p:Nat) (f:Fr) (hk:m.fs[p]? =Xa f) (hf:0<=f.f) (mv:Xq) (l:List (Nat × Nat)) (hv:zr JZ w mv l):
  Xp prog 197 #[Xj (Xa ⟨k,0,Xb⟩),I6 (p:Int),mv] w fun e w'=>e= Xl (Xh (zhq m p f l))/\zc w w':=by
 obtain⟨ma,mc,rfl,_⟩:=hv.rows;obtain⟨mn,HMN⟩:=kA l.length;rw[HMN.out]at hv⊢;have HM:Xo (ChW w0 k w V m):=h;have HV:Xo (zr JZ w (O ma mn mc) l):=hv;have HOK:Xo (∀(q:Nat) s,m.sp[q]? =Xa s->s.aC.length<=16/\∀a∈s.aC,jU a):=show∀(q:Nat) s,_ from fun q s hs=>by
  obtain⟨h1,h2⟩:=jJ.1 (hR.inv.aO s (mG hs)).1;exact⟨h1,h2.all⟩
 have HF0:Xo (0<=f.f):=hf;obtain⟨n1,-⟩:=h.at.ns;obtain⟨ad,ha,hl⟩:=h.at.bA p f hk;have HFA:Xo (V.f.a=Xa ad):=ha;have HFC:Xo (∀W,zc w W->zg1 W (ad.add (p*13)) f):=show∀W,_ from hl;have hlt:(p:Int)< (V.f.n:Int):=by
  have:=(gS.1 hk).1;omega
 obtain⟨xs,hxl,hrow,hsp⟩:=h.at.aT;obtain⟨-,-,-,-,-,-,-,-,n9⟩:=h.at.ns;obtain⟨spa,HSA⟩:=kA V.sp.a;obtain⟨sn,HSN⟩:=kA m.sp.length;have HN9:Xo (V.sp.n=sn):=dD<|Rx n9 HSN.out;have hsn4:sn<=4:=Ry HSN.out hR.inv.aI;have HXL:Xo (xs.length=sn):=dD<|Rx hxl HSN.out;have HRW:Xo (∀(j:Nat) x,xs[j]? =Xa x->∃ad,spa=Xa ad/\∀W,zc w W->zgY W (ad.add (j*10)) x):=dD<|by rw[<-HSA.out];exact hrow
 have HSP:Xo (∀(i:Nat) x s,xs[i]? =Xa x->m.sp[i]? =Xa s->jN w x s):=dD<|hsp;obtain⟨SB,HSB⟩:=kA (zhq m p f l);rw[HSB.out];have HYES:Xo ((∃(q:Nat) (s:Sp) (i:Nat) (a:Ar) (n:Nat),m.sp[q]? =Xa s/\s.aC[i]? =Xa a/\Z8 a n=Xc/\n<64/\zaB p f l q s a n=Xc)->SB=Xc):=dD<|fun⟨q,s,i,a,n,h1,h2,h3,h4,h5⟩=>by
  rw[<-HSB.out];exact zdY.2 ⟨q,s,i,a,n,h1,h2,h3,h4,zbU.1 h5⟩
 have HNO:Xo ((∀(q:Nat) (s:Sp) (i:Nat) (a:Ar) (n:Nat),m.sp[q]? =Xa s->s.aC[i]? =Xa a->Z8 a n=Xc->n<64->zaB p f l q s a n=Xd)->SB=Xd):=dD<|fun hno=>by
  rw[<-HSB.out];cases hb:zhq m p f l with
  | false=>rfl
  | true=>
   obtain⟨q,s,i,a,n,h1,h2,h3,h4,h5⟩:=zdY.1 hb;have:=hno q s i a n h1 h2 h3 h4;rw[zbU.2 h5]at this;cases this
 clear h hR hk hf hv ha hl n1 n9 hxl hrow hsp;obtain⟨b,HB⟩:=kA w.heap.size;obtain⟨W0,hW0⟩:=kB (((w.alloc (Xk #[Xj (Xa ⟨k,0,Xb⟩)] 92)).alloc (Xk #[I6 (p:Int)] 3)).alloc (Xk #[O ma mn mc] 183));have G0:Xo (zc w W0):=dD<|by rw[<-hW0];exact((za _ _).trans (za _ _)).trans (za _ _)
 have P0:Xo (Box W0 b [Xj (Xa ⟨k,0,Xb⟩)]):=dD<|by rw[<-hW0,<-HB.out];exact((Box.aE w [Xj (Xa ⟨k,0,Xb⟩)] _ rfl).alloc _).alloc _
 have K0:Xo (Box W0 (b+1) [I6 (p:Int)]):=dD<|by rw[<-hW0];exact(Box.aE _ [I6 (p:Int)] _ (by have:=HB.out;simp;omega)).alloc _
 have M0:Xo (Box W0 (b+2) [O ma mn mc]):=dD<|by rw[<-hW0];exact Box.aE _ [O ma mn mc] _ (by have:=HB.out;simp;omega)
 have HB3:Xo (W0.heap.size=b+3):=dD<|by rw[<-hW0];have:=HB.out;simp;omega
 have HW0:Xo (_=W0):=hW0;clear hW0;go_enter func197,ntmps197;go_upto_region 1 with fail;rw[HW0.out,HB.out];obtain⟨⟨b0,b1,b2,b3,b4,b5,b6,b7⟩,fr,fu,fd,ff,fx⟩:=f;have gd:zc W0 W0.drew:=show Below _ _ _ from(bR _ _).drew;obtain⟨I,HI⟩:=Ww fun u=>zc W0 u;have hI0:I W0.drew:=(HI _).2 gd;have hF0:W0.drew=W0.drew:=rfl;have hp0:=P0.h HI 0 rfl;have hk0:=K0.h HI 0 rfl;have hx0:∀y:zg I,y.world.cell? ⟨k,0,Xb⟩=Xa (O (Xa ad) V.f.n V.f.c):=fun y=>by rw[<-HFA.out];exact(HM.box.box.aA (G0.trans ((HI _).1 y.holds))).c 0 rfl
 have hfc:∀y:zg I,zg1 y.world (ad.add (p*13)) ⟨⟨b0,b1,b2,b3,b4,b5,b6,b7⟩,fr,fu,fd,ff,fx⟩:=fun y=>HFC.out _ (G0.trans ((HI _).1 y.holds));have hd0:=fun y=>(hfc y).1;have hd1:=fun y=>(hfc y).2.1;have hd2:=fun y=>(hfc y).2.2.1;have hd3:=fun y=>(hfc y).2.2.2.1;have hd4:=fun y=>(hfc y).2.2.2.2.1;have hd5:=fun y=>(hfc y).2.2.2.2.2.1;have hd6:=fun y=>(hfc y).2.2.2.2.2.2.1;have hd7:=fun y=>(hfc y).2.2.2.2.2.2.2.1;have hd8:=fun y=>(hfc y).2.2.2.2.2.2.2.2.1;have hd9:=fun y=>(hfc y).2.2.2.2.2.2.2.2.2.1;have hd10:=fun y=>(hfc y).2.2.2.2.2.2.2.2.2.2.1;have hd11:=fun y=>(hfc y).2.2.2.2.2.2.2.2.2.2.2.1;have hd12:=fun y=>(hfc y).2.2.2.2.2.2.2.2.2.2.2.2;dsimp only at hd0 hd1 hd2 hd3 hd4 hd5 hd6 hd7 hd8 hd9 hd10 hd11 hd12;clear hfc;have hne:Nonempty (zg I):=⟨⟨_,hI0⟩⟩;refine zQ (I:=I) 11 [(9,fun v=>v= Xj (Xa ⟨b+3,0,Xb⟩)),(10,fun _=>True)] (fun u=>u=W0.drew) hI0 hF0 z3 Kr rfl rfl Dc (Sb ⟨_,rfl⟩ ⟨undef,trivial⟩) Kr ?_;simp only[Yp,Yq];iterate 1 (refine z9 rfl rfl rfl (fun K hK=>?_);go_big_quiet_op;refine hK _ ?_;clear hK K)
 refine zW (.tmp 14) ⟨k,0,Xb⟩ rfl rfl rfl rfl ?_;simp only[Yb,sB,sS,sZ];iterate 7 (refine z9 rfl rfl rfl (fun K hK=>?_);go_big_quiet_op;refine hK _ ?_;clear hK K)
 refine zH rfl rfl (fun _ u=>zt u (b+3) 53 (frv fr0)/\zc W0 u) (fun w' hI' hF'=>?_) (fun v1 hv=>?_);·subst hF';refine zN.allocFr rfl ?_;have hs:W0.drew.heap.size=b+3:=HB3.out;refine⟨(HI _).2 (gd.trans (za _ _)),by rw[hs],zt.aE _ (frv fr0) _ hs.symm,gd.trans (za _ _)⟩
 subst hv;simp only[Yb,sB,sS,sZ];refine zH rfl rfl (fun _ u=>zt u (b+3) 53 [U8 b0,U8 b1,U8 b2,U8 b3,U8 b4,U8 b5,U8 b6,U8 b7,I6 fr,Xh fu,Xh fd,I6 ff,I6 fx]/\zc W0 u) (fun w' hI' hF'=>?_) (fun v1 hv=>?_)
 ·refine zN.bL 53 (.tmp 7) (.tmp 22) rfl (b+3) rfl [U8 b0,U8 b1,U8 b2,U8 b3,U8 b4,U8 b5,U8 b6,U8 b7,I6 fr,Xh fu,Xh fd,I6 ff,I6 fx] rfl hF'.1 rfl Kr (by simp[Value.oneCell']) ?_
  intro W9 bx9 gr9 _;have g9:zc W0 W9:=zd hF'.2 gr9 (Hm HB3.out);exact⟨(HI _).2 g9,trivial,bx9,g9⟩
 clear hv;try simp only[Yb]
 refine qV fun W1 hI8 hF8=>?_;have F1:Xo (Box W1 (b+3) [U8 b0,U8 b1,U8 b2,U8 b3,U8 b4,U8 b5,U8 b6,U8 b7,I6 fr,Xh fu,Xh fd,I6 ff,I6 fx]):=hF8.1.box;have G1:Xo (zc w W1):=G0.trans hF8.2;have P1:Xo (Box W1 b [Xj (Xa ⟨k,0,Xb⟩)]):=P0.aA hF8.2;have K1:Xo (Box W1 (b+1) [I6 (p:Int)]):=K0.aA hF8.2;have M1:Xo (Box W1 (b+2) [O ma mn mc]):=M0.aA hF8.2;clear hI8 hF8 hI0 hF0 hp0 hk0 hx0 hd0 hd1 hd2 hd3 hd4 hd5 hd6 hd7 hd8 hd9 hd10 hd11 hd12 hne gd;have hmf:∀(fn:Fn) (first cap:Array Xq) (w:Xn),(Instr.makeFunc fn first cap).run prog w= .ok (.func fn first cap) w:=fun _ _ _ _=>rfl;have eg:=enters_of func202 Kr rfl;have p0:=P1.c 0 rfl;have c10:=(HM.box.box.aA G1).c 10 rfl;rw[HN9.out,HSA.out]at c10;go_wp2;clear p0 c10;have HSEE:Xo (∀W,zc W1 W->∀(q n:Nat) s a,m.sp[q]? =Xa s->a∈s.aC->n<64->Xp prog 202 #[Xi #[I6 (q:Int),I6 (n:Int)],Xi #[I6 a.fr,I6 a.tz,Xh a.rd,Xh a.wr,Xh a.sh,I6 a.file,I6 a.base],Xj (Xa ⟨b+3,0,Xb⟩),Xj (Xa ⟨b+2,0,Xb⟩),Xj (Xa ⟨b,0,Xb⟩),Xj (Xa ⟨b+1,0,Xb⟩)] W fun e w'=>e= Xl (Xh (zaB p ⟨⟨b0,b1,b2,b3,b4,b5,b6,b7⟩,fr,fu,fd,ff,fx⟩ l q s a n))/\zc W w'):=dD<|fun W hW q n s a hs ha hn=>by
  obtain⟨a1,a2,a3,a4,a5,a6,a7,a8⟩:=(HOK q s hs).2 a ha;exact zmB (HM.aA (G1.trans hW)) (b+3) (b+2) b (b+1) ⟨⟨b0,b1,b2,b3,b4,b5,b6,b7⟩,fr,fu,fd,ff,fx⟩ p (O ma mn mc) l (F1.aA hW) (M1.aA hW) (P1.aA hW) (K1.aA hW) (HV.aA (G1.trans hW)) q n s a hs hn HF0 (fun e=>⟨⟨a6,by have:a.file=ff:=e;have h0:0<=ff:=HF0.out;have:=a8 Wm;omega⟩,a1,Wm⟩)
 go_loopg [30] sn (fun gg s30 wr=>∃q:Nat,q<=sn/\sn - q<=gg/\s30=I6 q/\Xo (zc W1 wr)/\Xo (∀(q':Nat) (s:Sp) (i:Nat) (a:Ar) (n:Nat),q'<q->m.sp[q']? =Xa s->s.aC[i]? =Xa a->Z8 a n=Xc->n<64->zaB p ⟨⟨b0,b1,b2,b3,b4,b5,b6,b7⟩,fr,fu,fd,ff,fx⟩ l q' s a n=Xd))
 exact⟨0,nZ _,Wm,rfl,zc.refl _,fun q' s i a n hq=>absurd hq (nL _)⟩;obtain⟨q,hq,hgq,rfl,GW,A⟩:=hrel;by_cases hltq:q<sn
 ·have hltz:=kC hltq
  obtain⟨x,hx⟩:∃x,xs[q]? =Xa x:=⟨_,gE (by rw[HXL.out];exact hltq)⟩;obtain⟨s,HS⟩:∃s,Xo (m.sp[q]? =Xa s):=⟨_,gE (by rw[HSN.out];exact hltq)⟩;have HAT:Xo (jN w x s):=HSP.out q x s hx HS.out;obtain⟨ad,rfl,hl⟩:=HRW.out q x hx;obtain⟨d0,d1,d2,d3,d4,d5,d6,d7,d8,d9⟩:=hl wr (G1.trans GW);clear hl hx;go_upto_region 6 with fail;obtain⟨g5,HG5⟩:=kA wr.heap.size;obtain⟨W5,hW5⟩:=kB (wr.alloc (Xk #[Xh x.aF,x.ar.x,x.t0.x,x.t1.x,x.t2.x,x.t3.x,x.t4.x,x.t5.x,x.t6.x,x.t7.x] 63));have G5:Xo (zc W1 W5):=show zc _ _ from GW.trans (by rw[<-hW5];exact za _ _);have S5:=xP hW5 HG5;rw[hW5,HG5.out];clear hW5 d0 d1 d2 d3 d4 d5 d6 d7 d8 d9;have HAN:Xo (x.ar.n=s.aC.length):=HAT.ar.n;obtain⟨an,HAL⟩:=kA s.aC.length;have han:an<=16:=by rw[<-HAL.out];exact(HOK q s HS).1
  obtain⟨ara,arc,hae,harw⟩:=HAT.ar.aC;simp only[vJ]at hae;have HAR:Xo (ziI w ara s.aC):=harw;have s1:=S5.c 1 rfl;simp only[Sli.x]at s1;rw[hae.1,HAN.out,HAL.out]at s1;clear hae harw;go_wp2;clear s1;go_loopg [38] an (fun gg s38 wr=>∃j:Nat,j<=an/\an - j<=gg/\s38=I6 j/\Xo (zc W1 wr)/\Xo (∀(i:Nat) (a:Ar) (n:Nat),i<j->s.aC[i]? =Xa a->Z8 a n=Xc->n<64->zaB p ⟨⟨b0,b1,b2,b3,b4,b5,b6,b7⟩,fr,fu,fd,ff,fx⟩ l q s a n=Xd))
  exact⟨0,nZ _,Wm,rfl,G5,fun i a n hi=>absurd hi (nL _)⟩;obtain⟨j,hj,hgj,rfl,GJ,AJ⟩:=hrel;by_cases hltj:j<an
  ·have hljz:=kC hltj
   obtain⟨a,HA⟩:∃a,Xo (s.aC[j]? =Xa a):=⟨_,gE (by rw[HAL.out];exact hltj)⟩;obtain⟨ad2,rfl,hl2⟩:=HAR.out j a HA.out;obtain⟨e0,e1,e2,e3,e4,e5,e6⟩:=hl2 wr (G1.trans GJ);have hok:=(HOK q s HS).2 a (mG HA);obtain⟨fa,hfa⟩:∃fa:Nat,a.fr=(fa:Int):=⟨a.fr.toNat,Hm hok.1⟩;obtain⟨ta,hta⟩:∃ta:Nat,a.tz=(ta:Int):=⟨a.tz.toNat,by have:=hok.1;have:=hok.2.1;omega⟩;have hft:fa<ta:=Hm hok.2.1;have hta64:ta<=64:=Hm hok.2.2.1;have HMEM:Xo (a∈s.aC):=mG HA.out;have HIN:Xo (∀n:Nat,Z8 a n=Xc↔fa<=n/\n<ta):=show∀n:Nat,_ from fun n=>(by rw[jC,hfa,hta];omega);obtain⟨af,at_,ard,awr,ash,afile,abase⟩:=a;simp only at hfa hta e0 e1 e2 e3 e4 e5 e6;subst hfa;subst hta;clear hl2 hok;go_upto_region 9 with fail;obtain⟨g8,HG8⟩:=kA wr.heap.size;obtain⟨W8,hW8⟩:=kB (wr.alloc (Xk #[I6 (fa:Int),I6 (ta:Int),Xh ard,Xh awr,Xh ash,I6 afile,I6 abase] 77));have G8:Xo (zc W1 W8):=dD<|GJ.trans (by rw[<-hW8];exact za _ _);have S8:=xP hW8 HG8;rw[hW8,HG8.out];clear hW8 e0 e1 e2 e3 e4 e5 e6;have y0:=S8.c 0 rfl;go_wp2;clear y0;go_loopg [13] (ta - fa) (fun gg s13 wr=>∃n:Nat,fa<=n/\n<=ta/\ta - n<=gg/\s13=I6 n/\Xo (zc W1 wr)/\Xo (Box wr g8 [I6 (fa:Int),I6 (ta:Int),Xh ard,Xh awr,Xh ash,I6 afile,I6 abase])/\Xo (∀n':Nat,fa<=n'->n'<n->zaB p ⟨⟨b0,b1,b2,b3,b4,b5,b6,b7⟩,fr,fu,fd,ff,fx⟩ l q s ⟨(fa:Int),(ta:Int),ard,awr,ash,afile,abase⟩ n'=Xd))
   exact⟨fa,nR _,Wm,Wm,rfl,G8,S8,fun n' h1 h2=>absurd h2 Wm⟩;obtain⟨n,hn1,hn2,hgn,rfl,GN,SN,AN⟩:=hrel;obtain⟨y0,y1,y2,y3,y4,y5,y6⟩:=SN.c7;by_cases hltn:n<ta
   ·have hlnz:=kC hltn
    have hc:=HSEE.out wr GN q n s _ HS HMEM Wm;simp only at hc;obtain⟨SE,HSE⟩:=kA (zaB p ⟨⟨b0,b1,b2,b3,b4,b5,b6,b7⟩,fr,fu,fd,ff,fx⟩ l q s ⟨(fa:Int),(ta:Int),ard,awr,ash,afile,abase⟩ n);rw[HSE.out]at hc;go_wp2_with fail;refine hc.mono ?_;rintro e W9 ⟨rfl,g9⟩;have G9:=dD (GN.trans g9);have S9:=dD (SN.aA g9);clear g9 hc y0 y1 y2 y3 y4 y5 y6;cases SE with
    | true=>
     have HR:Xo (SB=Xc):=HYES.out ⟨q,s,j,_,n,HS,HA,(HIN n).2 ⟨hn1,hltn⟩,Wm,HSE⟩;go_wp2;go_ret;exact⟨Rr HR.out,G1.trans G9⟩
    | false=>
     have A9:Xo (∀n':Nat,fa<=n'->n'<n+1->zaB p ⟨⟨b0,b1,b2,b3,b4,b5,b6,b7⟩,fr,fu,fd,ff,fx⟩ l q s ⟨(fa:Int),(ta:Int),ard,awr,ash,afile,abase⟩ n'=Xd):=dD<|fun n' h1 h2=>by
      by_cases e:n'=n;·subst e;exact HSE.out
      exact AN n' h1 Wm
     go_wp2;go_roundg (ta -(n+1));exact⟨n+1,Wm,Wm,Wm,Gn,G9,S9,A9⟩;omega
   have hlnz:=kD hltn;have AJ2:Xo (∀(i:Nat) (a:Ar) (n:Nat),i<j+1->s.aC[i]? =Xa a->Z8 a n=Xc->n<64->zaB p ⟨⟨b0,b1,b2,b3,b4,b5,b6,b7⟩,fr,fu,fd,ff,fx⟩ l q s a n=Xd):=dD<|fun i a n' hi ha hin hn'=>by
    by_cases e:i=j;·subst e;rw[HA.out]at ha;cases ha;obtain⟨h1,h2⟩:=(HIN n').1 hin;exact AN n' h1 Wm
    exact AJ i a n' Wm ha hin hn'
   go_wp2;go_roundg (an -(j+1));exact⟨j+1,Wm,Wm,Gn,GN,AJ2⟩;omega
  have hljz:=kD hltj;have A2:Xo (∀(q':Nat) (s:Sp) (i:Nat) (a:Ar) (n:Nat),q'<q+1->m.sp[q']? =Xa s->s.aC[i]? =Xa a->Z8 a n=Xc->n<64->zaB p ⟨⟨b0,b1,b2,b3,b4,b5,b6,b7⟩,fr,fu,fd,ff,fx⟩ l q' s a n=Xd):=show∀(q':Nat) (s:Sp) (i:Nat) (a:Ar) (n:Nat),_ from fun q' s' i a n hq' hs' ha hin hn=>by
   by_cases e:q'=q;·subst e;rw[HS.out]at hs';cases hs';exact AJ i a n (by have:=(gS.1 ha).1;have:=HAL.out;omega) ha hin hn
   exact A q' s' i a n Wm hs' ha hin hn
  go_wp2;go_roundg (sn -(q+1));exact⟨q+1,Wm,Wm,Gn,GJ,A2⟩;omega
 have hltz:=kD hltq;have HR:Xo (SB=Xd):=HNO.out fun q' s i a n h1 h2 h3 h4=>A.out q' s i a n (by have:=(gS.1 h1).1;have:=HSN.out;omega) h1 h2 h3 h4;go_wp2;go_ret;exact⟨Rr HR.out,G1.trans GW⟩
theorem zmL (a0 a1 a2 a3 a4 a5 a6 a7 a b c d e f g h:Int) (x):(Op.equalIn 10000 44 (Xi #[U8 a0,U8 a1,U8 a2,U8 a3,U8 a4,U8 a5,U8 a6,U8 a7]) (Xi #[U8 a,U8 b,U8 c,U8 d,U8 e,U8 f,U8 g,U8 h])).run prog x= .ok (decide ([a0,a1,a2,a3,a4,a5,a6,a7]=[a,b,c,d,e,f,g,h])) x:=by
 have i:=QJ 9998 a0 a1 a2 a3 a4 a5 a6 a7 a b c d e f g h x;rw[show zdj ⟨a0,a1,a2,a3,a4,a5,a6,a7⟩ ⟨a,b,c,d,e,f,g,h⟩=decide ([a0,a1,a2,a3,a4,a5,a6,a7]=[a,b,c,d,e,f,g,h])from by
  rw[Bool.eq_iff_iff,zb1,decide_eq_true_iff]
  simp]at i
 exact i
theorem zlT (h:ChW w0 k w V m) (aw:Rt m) (p:Nat) (f:Fr) (a7:m.fs[p]? =Xa f) (cf:f.f≠-1) (dd:f.r≠0) (bz) (l:List (Nat × Nat)) (A:zr JZ w bz l):
  Xp prog 191 #[Xj (Xa ⟨k,0,Xb⟩),I6 (p:Int),bz] w fun e w'=>e= Xl (Xh (zfg m p f l).1)/\Chg w0 k w V (zfg m p f l).2 w':=by
 obtain⟨f2,ez,X,B,al,bs,a⟩:=zgL aw a7 cf;have a8:=mG bs;have bw:JF m f.f=al.size:=by unfold JF;rw[a.ff,tN,gD,a.fl];rfl
 have hcut:zlW m f=Z7 (pgL f.p) (B:Int) al.size:=by unfold zlW;rw[bw,a.fx]
 have e0:0<=f.f:=by rw[a.ff];omega
 obtain⟨co,br⟩:∃co,al.bl[B]? =Xa co:=⟨_,gE a.bl⟩;have s:=dD h;obtain⟨q,Z⟩:=kA (zlW m f);have a5:q.length=8:=by rw[<-Z.out,hcut];unfold Z7;simp[pgL]
 have C:Xo (∀W,zc w W->Xp prog 196 #[Xj (Xa ⟨k,0,Xb⟩),Xi (frv f).toArray] W fun e w'=>e= Xl (Xi (pgc q).toArray)/\zc W w'):=dD<|fun W z=>by
  rw[<-Z.out,hcut];exact(zda (h.aA z) f X B al a.ff a.fx a.fl a.sz a.lo).mono fun e w' S=>⟨S.1,S.2.2⟩
 obtain⟨aj,b9⟩:=kA (zhq m p f l);have ck:Xo (∀W,zc w W->Xp prog 197 #[Xj (Xa ⟨k,0,Xb⟩),I6 (p:Int),bz] W fun e w'=>e= Xl (Xh aj)/\zc W w'):=dD<|fun W z=>by
  rw[<-b9.out];exact zlR (h.aA z) aw p f a7 e0 bz l (A.aA z)
 obtain⟨ca,ab⟩:=kA (Qr m f.f f.x);have a6:ca.length=8:=by
  rw[<-ab.out];have ei:=h.at;exact zeK ei.db.2.1 ei.dq.2.1 _ _
 have ae:Xo (∀W,zc w W->Xp prog 138 #[Xi (mL V m).toArray,I6 (X:Int),I6 (B:Int)] W fun e w'=>e= Xl (Xi (pgc ca).toArray)/\zc W w'):=dD<|fun W z=>by
  rw[<-ab.out,a.ff,a.fx];have f3:=a.sz;have f4:=a.lo;exact(zdV V m X B al co W (h.at.aA z) a.fl br Wm Wm).mono fun e w' S=>⟨S.1,S.2.2⟩
 obtain⟨T,aa⟩:=kA (decide (zbf m.fl m.cnt f.f f.x=0));have bc:Xo (∀W,zc w W->Xp prog 198 #[Xj (Xa ⟨k,0,Xb⟩),I6 (p:Int)] W fun e w'=>e= Xl (Xh T)/\Chg w0 k w V (wrM m q f.f f.x) w'):=dD<|fun W z=>by
  have eg:=zpA (h.aA z) p f a7 X B al a.ff a.fx a.fl a.sz a.lo;rw[<-hcut,Z.out,<-a.ff,<-a.fx,aa.out]at eg;exact eg.mono fun e w' S=>⟨S.1,Chg.aH z S.2.chg⟩
 have ba:Xo (∀W cn,ChW w0 k W cn (wrM m q f.f f.x)->Xp prog 199 #[Xj (Xa ⟨k,0,Xb⟩),I6 (p:Int)] W fun e w'=>(∃v,e= Xl v)/\Chg w0 k W cn (qI (wrM m q f.f f.x) p) w'):=dD<|fun W cn cq=>by
  have de:Rt (wrM m q f.f f.x):=by
   by_cases e:zbf m.fl m.cnt f.f f.x=0
   ·obtain⟨dq,et,eu,_⟩:=zmk (fun _ _=>False) aw a8 a e q
    rw[et];exact eu.rt
   have:wrM m q f.f f.x=m:=(by unfold wrM;rw[kF e]);rw[this];exact aw
  exact zim cq de p f (Rx zml a7) cf dd
 have bb:Xo (∀W,zc w W->Xp prog 199 #[Xj (Xa ⟨k,0,Xb⟩),I6 (p:Int)] W fun e w'=>(∃v,e= Xl v)/\Chg w0 k w V (qI m p) w'):=dD<|fun W z=>(zim (h.aA z) aw p f a7 cf dd).mono fun e w' S=>⟨S.1,Chg.aH z S.2⟩;obtain⟨ai,ac⟩:=kA (decide (q=pgL f.p));obtain⟨j,a4⟩:=kA (decide (ca=q));obtain⟨U,b8⟩:=kA (zfg m p f l);have cb:Xo (U=if ai=Xd/\aj=Xc then(Xd,m)else if f.d=Xc\/j=Xd then(if T=Xc then(Xc,qI (wrM m q f.f f.x) p)else if j=Xc then(Xc,qI m p)else(Xd,m))else(Xc,qI m p)):=dD<|by
  rw[<-b8.out];unfold zfg;rw[Z.out,b9.out,ab.out,<-ac.out,<-a4.out,<-aa.out];simp only[decide_eq_false_iff_not,decide_eq_true_eq]
 have ah:Xo (T=Xd->wrM m q f.f f.x=m):=dD<|fun e=>by
  unfold wrM;rw[kF (of_decide_eq_false (aa.trans e))]
 rw[b8.out];obtain⟨cc,cj⟩:=kA (wrM m q f.f f.x);rw[cj.out]at bc ba cb ah;obtain⟨ex,-⟩:=h.at.ns;obtain⟨ey,e5,e6⟩:=h.at.bA p f a7;have ch:=dD e5;have ci:=dD e6;have ew:(p:Int)< (V.f.n:Int):=by
  have:=(gS.1 a7).1;omega
 have bt:=a.ff;have bu:=a.fx;obtain⟨bd,be,bf,bg,bh,bi,I,bj,a1⟩:=zc4 q a5;obtain⟨e8,e9,ea,eb,ec,ed,ee,ef,ak⟩:=zc4 ca a6;obtain⟨⟨am,an,ao,ap,aq,ar,au,av⟩,bp,bq,D,f0,f1⟩:=f;dsimp only at bt bu ac cb;have db:∀W,(Op.equalIn 10000 44 (Xi #[U8 bd,U8 be,U8 bf,U8 bg,U8 bh,U8 bi,U8 I,U8 bj]) (Xi #[U8 am,U8 an,U8 ao,U8 ap,U8 aq,U8 ar,U8 au,U8 av])).run prog W= .ok ai W:=fun W=>by
  rw[zmL];have:=ac.out;rw[a1]at this;rw[<-this];rfl
 have dc:∀W,(Op.equalIn 10000 44 (Xi #[U8 e8,U8 e9,U8 ea,U8 eb,U8 ec,U8 ed,U8 ee,U8 ef]) (Xi #[U8 bd,U8 be,U8 bf,U8 bg,U8 bh,U8 bi,U8 I,U8 bj])).run prog W= .ok j W:=fun W=>by
  rw[zmL,<-a1,<-ak,a4.out]
 rw[a1]at C;rw[ak]at ae;subst bt;subst bu;simp only[pgc,frv,mP,Yt]at C ae;clear h aw a7 cf dd A bs a a8 bw hcut e0 br a5 a6 e5 e6 ex a1 ak;have ej:=s.box.box.c 0 rfl;rw[ch.out]at ej;obtain⟨dr,ds,dt,du,dv,dw,bo,dx,dy,dz,bl,bm,bn⟩:=ci.out w (zc.refl _);dsimp only at dr ds dt du dv dw bo dx dy dz bl bm bn;go_enter func191,ntmps191;go_upto_region 2 with fail;clear dr ds dt du dv dw bo dx dy dz bl bm bn ej;obtain⟨dq,dl⟩:=kA w.heap.size;refine nW fun cd a0=>?_;have ax:=gA a0;have dp:=xP a0 dl;rw[dl.out];clear a0;have e7:∀y:zk cd,Box y.world dq [U8 am,U8 an,U8 ao,U8 ap,U8 aq,U8 ar,U8 au,U8 av,I6 bp,Xh bq,Xh D,I6 (X:Int),I6 (B:Int)]:=fun y=>dp.aA y.aA;have t:Xo (∀y:zk cd,_):=e7;clear e7;have F:=fun y=>(t y).c 0 rfl;have G:=fun y=>(t y).c 1 rfl;have H:=fun y=>(t y).c 2 rfl;have K:=fun y=>(t y).c 3 rfl;have L:=fun y=>(t y).c 4 rfl;have M:=fun y=>(t y).c 5 rfl;have N:=fun y=>(t y).c 6 rfl;have P:=fun y=>(t y).c 7 rfl;have Q:=fun y=>(t y).c 8 rfl;have R:=fun y=>(t y).c 9 rfl;have d:=fun y=>(t y).c 10 rfl;have g:=fun y=>(t y).c 11 rfl;have i:=fun y=>(t y).c 12 rfl;have E:Nonempty (zk cd):=⟨⟨_,zc.refl _⟩⟩;go_cut [30] (fun df c8=>df= Xh (!ai && aj)/\Xo (zc cd c8))
 case first=>
  cases ai with
  | true=>
   refine jQ [(2,⟨fun v=>v= Xi #[U8 bd,U8 be,U8 bf,U8 bg,U8 bh,U8 bi,U8 I,U8 bj],fun v w'=>True⟩)] z3 Kr (Sa ⟨_,rfl⟩) ?hp ?_;case hp=>
    intro c9 c;simp only[mC,nM,or_false]at c;subst c;exact fun _ _ _ _ h=>h
   iterate 2 refine zh ?_
   refine zJ rfl rfl (fun w' a2 Y=>?_) (fun cg A=>?_);·refine zN.call [Xj (Xa ⟨k,0,Xb⟩),Xi #[U8 am,U8 an,U8 ao,U8 ap,U8 aq,U8 ar,U8 au,U8 av,I6 bp,Xh bq,Xh D,I6 (X:Int),I6 (B:Int)]] rfl func196 rfl rfl rfl ?_;refine(C w' (ax.trans a2)).mono ?_;rintro e a3 ⟨rfl,n⟩;exact⟨_,rfl,n,rfl,trivial⟩
   subst A;refine Uq ?_;iterate 4 refine zh ?_
   iterate 4 (refine ZC Kr ?_;simp only[Yb,sB,sS,sZ])
   refine zh ?_;refine z7 fun ep n Y=>?_;have a9:=dD n;clear n Y E F G H K L M N P Q R d g i;go_wp2;go_meet;exact⟨rfl,a9⟩
  | false=>
   refine jQ [(2,⟨fun v=>v= Xi #[U8 bd,U8 be,U8 bf,U8 bg,U8 bh,U8 bi,U8 I,U8 bj],fun v w'=>True⟩),(10,⟨fun v=>v= Xh aj,fun v w'=>True⟩)] z3 Kr (Sb ⟨_,rfl⟩ ⟨_,rfl⟩) ?hp ?_;case hp=>
    intro c9 c;simp only[mC,nM,or_false]at c;rcases c with rfl|rfl;·exact fun _ _ _ _ h=>h
    exact fun _ _ _ _ h=>h
   iterate 2 refine zh ?_
   refine zJ rfl rfl (fun w' a2 Y=>?_) (fun cg A=>?_);·refine zN.call [Xj (Xa ⟨k,0,Xb⟩),Xi #[U8 am,U8 an,U8 ao,U8 ap,U8 aq,U8 ar,U8 au,U8 av,I6 bp,Xh bq,Xh D,I6 (X:Int),I6 (B:Int)]] rfl func196 rfl rfl rfl ?_;refine(C w' (ax.trans a2)).mono ?_;rintro e a3 ⟨rfl,n⟩;exact⟨_,rfl,n,rfl,trivial⟩
   subst A;refine Uq ?_;iterate 7 refine zh ?_
   refine zJ rfl rfl (fun w' a2 Y=>?_) (fun cg A=>?_);·refine zN.call [Xj (Xa ⟨k,0,Xb⟩),I6 (p:Int),bz] rfl func197 rfl rfl rfl ?_;refine(ck w' (ax.trans a2)).mono ?_;rintro e a3 ⟨rfl,n⟩;exact⟨_,rfl,n,rfl,trivial⟩
   subst A;refine Uq ?_;refine zh ?_;refine z7 fun ep n Y=>?_;have a9:=dD n;clear n Y E F G H K L M N P Q R d g i;go_wp2;go_meet;exact⟨rfl,a9⟩
 obtain⟨rfl,a9⟩:=hcut;clear E F G H K L M N P Q R d g i;obtain⟨em,cl⟩:=kA (!ai && aj);rw[cl.out];cases em with
 | true=>
  have x:Xo (U=(Xd,m)):=dD<|by
   rw[cb.out,kE];have:=cl.out;cases ai <;> cases aj <;> simp_all
  go_wp2;go_ret;exact⟨Rr x.out,by rw[x.out];exact Chg.refl s (ax.trans a9)⟩
 | false=>
  have ay:Xo (U=if D=Xc\/j=Xd then(if T=Xc then(Xc,qI cc p)else if j=Xc then(Xc,qI m p)else(Xd,m))else(Xc,qI m p)):=dD<|by
   rw[cb.out,kF];have:=cl.out;cases ai <;> cases aj <;> simp_all
  go_upto_region 4 with fail;have b:=dD (ax.trans a9);have r:=dD (dp.aA a9);have F:=fun y:zk wc=>(r.aA y.aA).c 0 rfl;have G:=fun y:zk wc=>(r.aA y.aA).c 1 rfl;have H:=fun y:zk wc=>(r.aA y.aA).c 2 rfl;have K:=fun y:zk wc=>(r.aA y.aA).c 3 rfl;have L:=fun y:zk wc=>(r.aA y.aA).c 4 rfl;have M:=fun y:zk wc=>(r.aA y.aA).c 5 rfl;have N:=fun y:zk wc=>(r.aA y.aA).c 6 rfl;have P:=fun y:zk wc=>(r.aA y.aA).c 7 rfl;have Q:=fun y:zk wc=>(r.aA y.aA).c 8 rfl;have R:=fun y:zk wc=>(r.aA y.aA).c 9 rfl;have d:=fun y:zk wc=>(r.aA y.aA).c 10 rfl;have g:=fun y:zk wc=>(r.aA y.aA).c 11 rfl;have i:=fun y:zk wc=>(r.aA y.aA).c 12 rfl;have cr:=fun y:zk wc=>(s.box.box.aA (b.trans y.aA)).c 0 rfl;have cs:=fun y:zk wc=>(s.box.box.aA (b.trans y.aA)).c 1 rfl;have ct:=fun y:zk wc=>(s.box.box.aA (b.trans y.aA)).c 2 rfl;have cu:=fun y:zk wc=>(s.box.box.aA (b.trans y.aA)).c 3 rfl;have cv:=fun y:zk wc=>(s.box.box.aA (b.trans y.aA)).c 4 rfl;have cw:=fun y:zk wc=>(s.box.box.aA (b.trans y.aA)).c 5 rfl;have cx:=fun y:zk wc=>(s.box.box.aA (b.trans y.aA)).c 6 rfl;have cy:=fun y:zk wc=>(s.box.box.aA (b.trans y.aA)).c 7 rfl;have cz:=fun y:zk wc=>(s.box.box.aA (b.trans y.aA)).c 8 rfl;have da:=fun y:zk wc=>(s.box.box.aA (b.trans y.aA)).c 9 rfl;have bv:=fun y:zk wc=>(s.box.box.aA (b.trans y.aA)).c 10 rfl;have E:Nonempty (zk wc):=⟨⟨_,zc.refl _⟩⟩;refine jQ [(8,⟨fun v=>v= Xi #[U8 e8,U8 e9,U8 ea,U8 eb,U8 ec,U8 ed,U8 ee,U8 ef],fun v w'=>True⟩),(11,⟨fun v=>v= Xi #[U8 bd,U8 be,U8 bf,U8 bg,U8 bh,U8 bi,U8 I,U8 bj],fun v w'=>True⟩)] z3 Kr (Sb ⟨_,rfl⟩ ⟨_,rfl⟩) ?hp ?_;case hp=>
   intro c9 c;simp only[mC,nM,or_false]at c;rcases c with rfl|rfl;·exact fun _ _ _ _ h=>h
   exact fun _ _ _ _ h=>h
  refine zh ?_;refine zkn (.tmp 31) ⟨k,0,Xb⟩ rfl rfl rfl rfl ?_;refine Uq ?_;iterate 6 refine zh ?_
  refine zJ rfl rfl (fun w' a2 Y=>?_) (fun cg A=>?_);·refine zN.call [Xi (mL V m).toArray,I6 (X:Int),I6 (B:Int)] rfl func138 rfl rfl rfl ?_;refine(ae w' (b.trans a2)).mono ?_;rintro e a3 ⟨rfl,n⟩;exact⟨_,rfl,n,rfl,trivial⟩
  subst A;refine Uq ?_;iterate 2 refine zh ?_
  refine zJ rfl rfl (fun w' a2 Y=>?_) (fun cg A=>?_);·refine zN.call [Xj (Xa ⟨k,0,Xb⟩),Xi #[U8 am,U8 an,U8 ao,U8 ap,U8 aq,U8 ar,U8 au,U8 av,I6 bp,Xh bq,Xh D,I6 (X:Int),I6 (B:Int)]] rfl func196 rfl rfl rfl ?_;refine(C w' (b.trans a2)).mono ?_;rintro e a3 ⟨rfl,n⟩;exact⟨_,rfl,n,rfl,trivial⟩
  subst A;refine Uq ?_;iterate 2 refine zh ?_
  refine z7 fun eq cp Y=>?_;have dk:=dD (b.trans cp);have es:=dD (r.aA cp);clear cp Y E F G H K L M N P Q R d g i cr cs ct cu cv cw cx cy cz da bv db dc;have di:=es.c 10 rfl;go_upto_region 5 with fail;go_cut [49] (fun dg c8=>dg= Xh (D || !j)/\c8=eq)
  case first=>
   cases D <;> cases j
   all_goals (go_wp2;go_meet;exact⟨rfl,rfl⟩)
  obtain⟨rfl,rfl⟩:=hcut;clear di;obtain⟨en,af⟩:=kA (D || !j);rw[af.out];cases en with
  | false=>
   have x:Xo (U=(Xc,qI m p)):=dD<|by
    rw[ay.out,kF];have:=af.out;cases D <;> cases j <;> simp_all
   have u:=bb.out wc dk.out;go_wp2_with fail;refine u.mono ?_;clear u;rintro e ce ⟨⟨f5,rfl⟩,e3⟩;have cm:Xo (Chg w0 k w V U.2 ce):=dD<|Rx x.out e3;clear e3;go_wp2;go_ret;exact⟨Rr x.out,cm⟩
  | true=>
   have az:Xo (U=if T=Xc then(Xc,qI cc p)else if j=Xc then(Xc,qI m p)else(Xd,m)):=dD<|by
    rw[ay.out,kE];have:=af.out;cases D <;> cases j <;> simp_all
   have bx:=bc.out wc dk.out;go_wp2_with fail;refine bx.mono ?_;clear bx;rintro e ce ⟨rfl,dn,I,eh,bo⟩;have cm:=dD I;have dm:=dD eh;have dj:=dD bo;have u:=ba.out ce dn I;clear I eh bo;go_upto_region 7 with fail;go_cut [58] (fun dh c8=>dh= Xh (!T && !j)/\c8=ce)
   case first=>
    cases T <;> cases j
    all_goals (go_wp2;go_meet;exact⟨rfl,rfl⟩)
   obtain⟨rfl,rfl⟩:=hcut;obtain⟨eo,ag⟩:=kA (!T && !j);rw[ag.out];cases eo with
   | true=>
    have x:Xo (U=(Xd,m)/\cc=m):=dD<|by
     have cq:=ag.out;have ev:=ah.out;rw[az.out];cases T <;> cases j <;> simp_all
    have ek:Xo (Chg w0 k w V U.2 wc):=dD<|by
     rw[x.1,<-x.2];exact⟨dn,cm,dm,dj⟩
    clear u;go_wp2;go_ret;exact⟨Rr x.1,ek⟩
   | false=>
    have x:Xo (U=(Xc,qI cc p)):=dD<|by
     have cq:=ag.out;have ev:=ah.out;rw[az.out];cases T <;> cases j <;> simp_all
    go_wp2_with fail;refine u.mono ?_;clear u;rintro e er ⟨⟨f6,rfl⟩,e4⟩;have el:Xo (Chg w0 k w V U.2 er):=dD<|Rx x.out (Chg.step dm dj e4);clear e4;go_wp2;go_ret;exact⟨Rr x.out,el⟩
theorem zjG (h:ChW w0 k w V m) (s:Rt m) (p:Nat) (f:Fr) (g:m.fs[p]? =Xa f) (t:f.r≠0) (q) (l:List (Nat × Nat)) (v:zr JZ w q l):
  Xp prog 183 #[Xj (Xa ⟨k,0,Xb⟩),I6 (p:Int),q] w fun e w'=>e= Xl (Xh (ZF m p f l).1)/\Chg w0 k w V (ZF m p f l).2 w':=by
 obtain⟨a,-⟩:=h.at.ns;obtain⟨a,a,c⟩:=h.at.bA p f g;have b:(p:Int)< (V.f.n:Int):=by
  have:=(gS.1 g).1;omega
 have b:=h.box.box.c 0 rfl;rw[a]at b;obtain⟨a,a,a,a,a,a,a,a,a,a,a,a,b⟩:=c w (zc.refl _);obtain⟨r,b⟩:=kA f.f;rw[b.out]at a;by_cases d:f.f=-1
 ·have c:=zlQ h s p f g t;have j:Xo (ZF m p f l=zbS m p f):=dD (by unfold ZF;rw[kE d]);have x:(r == -1)=Xc:=by rw[<-b.out,d];rfl
  rw[j.out];obtain⟨E,a⟩:=kA (zbS m p f);rw[a.out]at c⊢;go_enter func183,ntmps183;go_wp2_with fail;refine c.mono ?_;rintro e u ⟨rfl,n⟩;have i:=dD n;go_wp2;go_ret;exact⟨rfl,i⟩
 have c:=zlT h s p f g d t q l v;have j:Xo (ZF m p f l=zfg m p f l):=dD<|by unfold ZF;rw[kF d]
 have x:(r == -1)=Xd:=by rw[<-b.out];simpa using d
 rw[j.out];obtain⟨E,a⟩:=kA (zfg m p f l);rw[a.out]at c⊢;go_enter func183,ntmps183;go_wp2_with fail;refine c.mono ?_;rintro e u ⟨rfl,n⟩;have i:=dD n;go_wp2;go_ret;exact⟨rfl,i⟩
theorem zjy (n:Nat) (m:Ma) (l:List (Nat × Nat)) (hi:zbc m.fs m.aB=(k:Int)) (a:(Qn m).fs[k]? =Xa X):Q9 (n+1) m l=if(ZF (Qn m) k X l).1=Xc then ZF (Qn m) k X l else Q9 n (Qn m) l:=by grind [Q9,tN,zK]
theorem zjx (n:Nat) (m:Ma) (l:List (Nat × Nat)) (hi:zbc m.fs m.aB=-1):Q9 (n+1) m l=(Xd,Qn m):=by
 conv=>lhs;unfold Q9
 rw[kE Wm]
theorem zfL (v:ChW w0 k w V m) (X:Rt m) (Z) (l:List (Nat × Nat)) (ai:zg4 JZ (Dw k V) w Z l):
  Xp prog 168 #[Xj (Xa ⟨k,0,Xb⟩),Z] w fun e w'=>e= Xl (Xh (Qw m l).1)/\Chg w0 k w V (Qw m l).2 w':=by
 have aw:=dD ai;have au:=dD v;have av:=dD X;obtain⟨aj,-⟩:=v.at.ns;have Y:V.f.n<=40:=Hm X.inv.aL;obtain⟨f,z⟩:=kA (Qw m l);have A:Xo (Q9 (2*V.f.n) m l=f):=dD<|by rw[<-z.out,aj];rfl
 rw[z.out];have L:=v.box.box.c 0 rfl;clear v ai X aj;obtain⟨c,M⟩:=kA V.f.n;rw[M.out]at L Y A;go_enter func168,ntmps168;go_wp2;clear L;go_loopg [14] (2*c) (fun b1 I wr=>∃(t:Nat) (a:Ma) (K:MaV),t<=2*c/\2*c - t<=b1/\I=I6 t/\Xo (ChW w0 k wr K a)/\Xo (Rt a)/\Xo (qH (Dw k V) w wr)/\Xo (∀p,Dw k K p->Dw k V p\/w.heap.size<=p)/\Xo (Q9 (2*c - t) a l=f))
 exact⟨0,m,V,nZ _,Wm,rfl,au,av,qH.refl _ _,(fun _ v=> .inl v:∀p,Dw k V p->Dw k V p\/w.heap.size<=p),A⟩;obtain⟨t,a,K,b8,b2,rfl,s,a7,a6,a2,H⟩:=hrel;by_cases b3:t<2*c
 ·have F:(t:Int)<2*(c:Int):=Wm
  obtain⟨r,B⟩:∃r,Xo (2*c - t=r+1):=⟨2*c - t - 1,show _=_ by omega⟩;have P:Xo (2*c -(t+1)=r):=dD<|Hm B.out;rw[B.out]at H;obtain⟨u,_,d⟩:=zhN (fun _ _=>False) a7.out;have C:=dD u.rt;have x:=dD d;obtain⟨L,b6⟩:=s.box.box.k2;have q:=zrF s a7.parts.1;obtain⟨b7,i⟩:=kA (zbc a.fs a.aB);rw[i.out]at q x;clear u d;go_wp2_with fail;refine q.mono ?_;clear q L b6;rintro e az ⟨U,rfl,ak,u⟩;have an:=dD (s.box.aA u);have N:Xo (zb qR wr.heap.size az (U.x) (zcF a.fs a.aB)):=ak;have aq:=dD u;clear ak u;go_upto_region 5 with(refine Qk rfl 28 (.tmp 29) (.tmp 24) rfl k 0 rfl (Xi #[U.x,I6 (zed a.fs a.aB)]) rfl [U.x,I6 (zed a.fs a.aB)] rfl an (by simp[chL]) Kr (by simp[Value.oneCell']) ?_)
  intro T aa E _;obtain⟨a8,ab,al,ad⟩:=Chg.step a6 a2 (s.bM aq N E aa);have a4:Xo (ChW w0 k T a8 (Qn a)):=ab;have S:=dD al;have a0:=dD ad;clear aa E ab al ad;try simp only[Yb]
  rcases x with⟨D,_⟩|⟨p,j,D,W,af⟩
  ·have b:Xo (f=(Xd,Qn a)):=dD<|by rw[<-H.out,zjx r a l (Rx i.out D)]
   subst D;have ax:Xo (Chg w0 k w V f.2 T):=dD (by rw[b.out];exact⟨a8,a4,S,a0⟩);go_wp2;go_ret;exact⟨Rr b.out,ax⟩
  have b:Xo (f=if(ZF (Qn a) p j l).1=Xc then ZF (Qn a) p j l else Q9 r (Qn a) l):=dD (by rw[<-H.out,zjy r a l (Rx i.out D) W]);have n:=zjG a4 C p j W af Z l (aw T S);have h:Xo ((ZF (Qn a) p j l).1=Xd->(ZF (Qn a) p j l).2=Qn a):=dD<|fun e=>by
   rcases zkE (Qn a) p j l with⟨b4,_⟩|⟨_,b5⟩;·rw[b4]at e;cases e
   exact b5
  obtain⟨ao,ar⟩:=kA (ZF (Qn a) p j l);rw[ar.out]at n b h;subst D;have ah:(0:Int)<=(p:Int):=Wm;clear W af;go_wp2_with fail;refine n.mono ?_;clear n;rintro e b0 ⟨rfl,ag⟩;obtain⟨a9,ac,am,ae⟩:=Chg.step S a0 ag;have Q:=dD ac;have a5:=dD am;have a1:=dD ae;clear ag ac am ae;obtain⟨ap,G⟩:=ao;simp only at Q b h;cases ap with
  | true=>
   have g:Xo (f=(Xc,G)):=dD<|Rr b.out;have R:Xo (Chg w0 k w V f.2 b0):=dD (by rw[g.out];exact⟨a9,Q,a5,a1⟩);go_wp2;go_ret;exact⟨Rr g.out,R⟩
  | false=>
   have y:=dD<|h.out rfl;have g:Xo (Q9 r G l=f):=show _=_ by rw[b.out,y.out];rfl
   have ay:Xo (Rt G):=dD<|Rx y.out C.out;go_wp2;go_roundg (2*c -(t+1));exact⟨t+1,G,a9,Wm,Wm,Gn,Q,ay,a5,a1,Rx P.out g⟩;omega
 have F:¬(t:Int)<2*(c:Int):=Wm;have a3:Xo (f=(Xd,a)):=dD<|by
  rw[<-H.out,show 2*c - t=0 by omega];rfl
 have R:Xo (Chg w0 k w V f.2 wr):=dD<|by rw[a3.out];exact⟨K,s,a6,a2⟩
 go_wp2;go_ret;exact⟨Rr a3.out,R⟩
theorem zhu (b:o.op= .alloc 28):(execOp a.eval o).run prog w= .ok (.value (Xj (Xa ⟨w.heap.size,0,Xb⟩))) (w.alloc (Xk #[eS,I6 0] 28)):=by simp only[execOp,b];go_simp
theorem zfJ (ba:ChW w0 k w V m) (c6:Rt m) (pg:Pg) (fi ix:Int) (br:frW (frT pg fi ix)=0) (az:Xq) (l:List (Nat × Nat)) (a5:zg4 JZ (Dw k V) w az l) (bt:∀x∈l,x.2<64/\∃s,m.sp[x.1]? =Xa s)
  (U:qL (ze m l).fs=0->∀X al,ChW w0 k X al (ze m l)->zg4 JZ (Dw k al) X az l->Xp prog 168 #[Xj (Xa ⟨k,0,Xb⟩),az] X fun e w'=>e= Xl (Xh (Qw (ze m l) l).1)/\Chg w0 k X al (Qw (ze m l) l).2 w'):
  Xp prog 140 #[Xj (Xa ⟨k,0,Xb⟩),Xi #[Xe Xg pg.b0,Xe Xg pg.b1,Xe Xg pg.b2,Xe Xg pg.b3,Xe Xg pg.b4,Xe Xg pg.b5,Xe Xg pg.b6,Xe Xg pg.b7],Xe Xf fi,Xe Xf ix,az] w fun e w'=>e= Xl (Xm #[Xe Xf ((zbr m (frT pg fi ix) l).2.1:Int),Xe Xf (if(zbr m (frT pg fi ix) l).1=Xc then 0 else 10)])/\Chg w0 k w V (zbr m (frT pg fi ix) l).2.2 w':=by
 have ci:Xo (zg4 JZ (Dw k V) w az l):=a5;have el:Xo (ChW w0 k w V m):=ba;have fn:Xo (Rt m):=c6;have fm:Xo (∀x∈l,x.2<64/\∃s,m.sp[x.1]? =Xa s):=bt;have cd:Xo (frW (frT pg fi ix)=0):=br;have af:Xo (qL (ze m l).fs=0->∀X al,ChW w0 k X al (ze m l)->zg4 JZ (Dw k al) X az l->Xp prog 168 #[Xj (Xa ⟨k,0,Xb⟩),az] X fun e w'=>e= Xl (Xh (Qw (ze m l) l).1)/\Chg w0 k X al (Qw (ze m l) l).2 w'):=U;obtain⟨fw,fx,rfl,cz⟩:=(a5 w (qH.refl _ _)).bP;have bn:=(a5 w (qH.refl _ _)).short;obtain⟨b9,ai⟩:=kA l.length;rw[ai.out]at ci af bn⊢;have cb:Xo (∀j,j<=b9->Rt (ze m (l.take j))/\(ze m (l.take j)).sp.length=m.sp.length):=dD<|fun j _=>by
  obtain⟨g,_⟩:=qO (l.take j) c6 (fun x a6=>bt x (Oq a6));exact⟨g.rt,g.aX.aI⟩
 have cc:Xo (∀(j:Nat) x,l[j]? =Xa x->ze m (l.take (j+1))=zjE (ze m (l.take j)) x.1 (x.2:Int)/\x.1< (ze m (l.take j)).sp.length/\((JD (ze m (l.take j)) x.1 (x.2:Int)).kind=1->ZS (ze m (l.take j)).fs (ze m (l.take j)).aB (JD (ze m (l.take j)) x.1 (x.2:Int)).n (-1)=0)):=dD<|fun j x a6=>by
  obtain⟨g,_⟩:=qO (l.take j) c6 (fun x a6=>bt x (Oq a6));obtain⟨e8,s,fh⟩:=bt x (mG a6);have bv:x.1< (ze m (l.take j)).sp.length:=by rw[g.aX.aI];exact(gS.1 fh).1
  have bx:=gE bv;refine⟨?_,bv,znO g.rt bx e8⟩;rw[Of,a6,zqQ g.rt bx e8];exact zc8 _ _ _
 have en:Xo (k<w.heap.size):=ba.bK k (.inl rfl);have ek:Xo (∀p,Dw k V p->p<w.heap.size):=ba.bK;clear ba a5 c6 bt br cz U;have a:Xo (zbr m (frT pg fi ix) l=if(zV (ze m l) l).1=Xc then(Xc,ZM (zV (ze m l) l).2.fs,{(zV (ze m l) l).2 with fs:=(zV (ze m l) l).2.fs.set (ZM (zV (ze m l) l).2.fs) (frT pg fi ix) })else(Xd,0,(zV (ze m l) l).2)):=show _=_ from rfl;obtain⟨cm,eo⟩:=kA (zbr m (frT pg fi ix) l);rw[eo.out]at a⊢;obtain⟨fu,ac⟩:=kA (if cm.1=Xc then(0:Int)else 10);rw[ac.out];obtain⟨B,n,i,t,C,D,E,F⟩:=pg;simp only;obtain⟨r,ca⟩:=kA w.heap.size;obtain⟨ez,Z⟩:=kB (w.alloc (Xk #[Xe Xg B,Xe Xg n,Xe Xg i,Xe Xg t,Xe Xg C,Xe Xg D,Xe Xg E,Xe Xg F] 44));have dp:=gA Z;have f7:=xPT Z ca;have cj:Xo (_=ez):=Z;have em:Xo (¬Dw k V r):=show¬_ from fun e=>by have:=ek.out _ e;have:=ca.out;omega
 clear Z;go_enter func140,ntmps140;go_upto_region 1 with fail;rw[cj.out,ca.out];go_wp2;go_loopg [19] b9 (fun c5 dj wr=>∃(j:Nat) (S:MaV),j<=b9/\b9 - j<=c5/\dj= Xe Xf j/\Xo (ChW w0 k wr S (ze m (l.take j)))/\Xo (qH (Dw k V) w wr)/\Xo (∀p,Dw k S p->Dw k V p\/w.heap.size<=p)/\Xo (zt wr r 44 [Xe Xg B,Xe Xg n,Xe Xg i,Xe Xg t,Xe Xg C,Xe Xg D,Xe Xg E,Xe Xg F]))
 exact⟨0,V,nZ _,Wm,rfl,el.aA dp,qH.aA dp,(fun _ ba=> .inl ba:∀p,Dw k V p->Dw k V p\/w.heap.size<=p),f7⟩;obtain⟨j,S,bb,fg,rfl,W,cl,bd,cr⟩:=hrel;by_cases av:j<b9
 ·have bu:=kC av
  obtain⟨x,dq⟩:∃x,Xo (l[j]? =Xa x):=⟨_,gE (Rx ai.out av)⟩;obtain⟨_,_,ay,bw⟩:=(ci wr cl).bP;simp only[vJ]at ay;obtain⟨ft,bm,bp⟩:=bw j x dq.out;rw[<-ay.1]at bm;subst bm;obtain⟨dw,dx⟩:=bp wr (zc.refl _);obtain⟨e0,cu,cv⟩:=cc.out j x dq.out;have be:Xo (ze m (l.take (j+1))=zjE (ze m (l.take j)) x.1 (x.2:Int)):=e0;obtain⟨c0,c1⟩:=x;simp only at dw dx cu cv be;have aq:=zlS (W.aA (za wr (Xk #[Xe Xf (c0:Int),Xe Xf (c1:Int)] 95))) c0 cu (c1:Int) cv;rw[<-be.out]at aq;clear ay bw bp e0 cu cv;go_wp2_with fail;refine aq.mono ?_;clear aq dw dx;rintro e am ⟨⟨fy,rfl⟩,Y⟩;obtain⟨cn,du,e9,dy⟩:=Chg.step cl bd (Chg.aH (za _ _) Y);have eq:Xo (ChW w0 k am cn (ze m (l.take (j+1)))):=du;have ev:Xo (qH (Dw k V) w am):=e9;have eh:Xo (∀p,Dw k cn p->Dw k V p\/w.heap.size<=p):=dy;have f8:Xo (zt am r 44 [Xe Xg B,Xe Xg n,Xe Xg i,Xe Xg t,Xe Xg C,Xe Xg D,Xe Xg E,Xe Xg F]):=show zt _ _ _ _ by
   obtain⟨_,_,fk,_⟩:=Y;exact(cr.aA (za _ _)).aU fk (W.bW cr Dc Dc Dc Dc)
  clear Y du e9 dy;go_wp2;go_roundg (b9 -(j+1));exact⟨j+1,cn,Wm,Wm,Gn,eq,ev,eh,f8⟩;omega
 have bu:=kD av;have au:l.take j=l:=Yd (by rw[ai.out];omega);rw[au]at W;have bf:Xo (Rt (ze m l)):=dD<|by have:=(cb j bb).1;rw[au]at this;exact this
 clear au;obtain⟨f,cf⟩:=kA (ze m l);rw[cf.out]at W bf af a;obtain⟨L,G,ao⟩:=zaC bf l;have ah:Xo (Rt (zV f l).2):=L.rt;have ae:Xo ((zV f l).1=Xc->0<qL (zV f l).2.fs):=show _->_ from G;have aj:Xo (zV f l=if qL f.fs=0 then Qw f l else(Xc,f)):=dD<|rfl;clear L G ao;obtain⟨ey,cg⟩:=kA (zV f l);rw[cg.out]at ah ae aj a;obtain⟨bg,b⟩:=ey;simp only at ah ae a;have z:Xp prog 167 #[Xi #[O S.f.a S.f.n S.f.c,Xe Xf f.aB]] wr fun e w'=>e= Xl (Xe Xf (qL f.fs:Int))/\zc wr w':=by
  obtain⟨dg,-⟩:=W.at.ns;have M:=W.at.fs;rw[dg]at M⊢;rw[<-zpl];exact zhQ S.f.a S.f.c f.fs f.aB wr M
 obtain⟨c0,c1⟩:=W.box.box.k2;go_upto_region 6 with fail;go_cut [39] (fun dk dm=>∃K:MaV,dk= Xh (!bg)/\Xo (ChW w0 k dm K b)/\Xo (qH (Dw k V) w dm)/\Xo (∀p,Dw k K p->Dw k V p\/w.heap.size<=p)/\Xo (zt dm r 44 [Xe Xg B,Xe Xg n,Xe Xg i,Xe Xg t,Xe Xg C,Xe Xg D,Xe Xg E,Xe Xg F]))
 case first=>
  go_wp2_with fail;refine z.mono ?_;clear z c0 c1;rintro e f6 ⟨rfl,c3⟩;have ck:=dD (W.aA c3);have c2:=dD (cl.trans (qH.aA c3));have cq:=dD (cr.aA c3);clear c3;by_cases an:qL f.fs=0
  ·have c9:((qL f.fs:Int) == 0)=Xc:=Rr an
   have ab:Xo ((bg,b)=Qw f l):=dD (by rw[aj.out,kE an]);have ar:=af.out an f6 S ck (fun a7 c8=>ci.out a7 (qH.far c2 bd c8));obtain⟨ff,ag⟩:=kA (qL f.fs:Int);rw[ag.out]at c9⊢;rw[<-ab.out]at ar;clear an;go_wp2_with fail;refine ar.mono ?_;clear ar;rintro e cp ⟨rfl,co,dv,dh,dz⟩;have ew:Xo (qH (Dw k V) w cp):=qH.far c2 bd dh;have ei:Xo (∀p,Dw k co p->Dw k V p\/w.heap.size<=p):=show∀p,_ from fun p a4=>(dz p a4).elim (fun e=>bd.out p e) (fun e=> .inr (nT c2.size e));have f9:Xo (zt cp r 44 [Xe Xg B,Xe Xg n,Xe Xg i,Xe Xg t,Xe Xg C,Xe Xg D,Xe Xg E,Xe Xg F]):=cq.aU dh (ck.bW cq Dc Dc Dc Dc);have et:Xo (ChW w0 k cp co b):=dv;clear dv dh dz c9;simp only;cases bg;all_goals (go_wp2;go_meet;exact⟨co,rfl,et,ew,ei,f9⟩)
  have c9:((qL f.fs:Int) == 0)=Xd:=Si an;have ab:Xo ((bg,b)=(Xc,f)):=dD (by rw[aj.out,kF an]);obtain⟨ff,ag⟩:=kA (qL f.fs:Int);rw[ag.out]at c9⊢;clear an;have bq:=ab.out;simp only[pJ]at bq;obtain⟨rfl,rfl⟩:=bq;go_wp2;go_meet;exact⟨S,rfl,ck,c2,bd,cq⟩
 clear z c0 c1;obtain⟨K,rfl,ak,dr,dn,a8⟩:=hcut;cases bg with
 | false=>
  rw[kF Dc]at a;have eu:Xo (Chg w0 k w V cm.2.2 wc):=dD (by rw[a.out];exact⟨K,ak,dr,dn⟩);go_wp2;go_ret2;exact⟨by rw[<-ac.out,a.out];rfl,eu⟩
 | true=>
  rw[kE rfl]at a;obtain⟨bi,cw,fv,e4,fe⟩:=zex (ae rfl);obtain⟨M,ce⟩:=kA (ZM b.fs);rw[ce.out]at bi cw e4 a;have ch:Xo (∀a7,zc wc a7->Xp prog 169 #[Xi #[O K.f.a K.f.n K.f.c,Xe Xf b.aB],Xi #[Xe Xg B,Xe Xg n,Xe Xg i,Xe Xg t,Xe Xg C,Xe Xg D,Xe Xg E,Xe Xg F],Xe Xf fi,Xe Xf ix] a7 fun e w'=>∃s:Sli,e= Xl (Xm #[Xi #[O s.a s.n s.c,Xe Xf b.aB],Xe Xf (M:Int),Xe Xf 0])/\zb qR wc.heap.size w' (O s.a s.n s.c) (b.fs.set M (frT ⟨B,n,i,t,C,D,E,F⟩ fi ix))/\zc a7 w'):=dD<|fun a7 c8=>by
   obtain⟨dg,-⟩:=ak.at.ns;have p:=(ak.at.aA c8).fs;(try simp only[Sli.x]at p⊢);rw[dg]at p⊢;refine(zrT K.f.a K.f.c b.fs b.aB ⟨B,n,i,t,C,D,E,F⟩ fi ix a7 p ah.parts.1 cd M bi cw).mono ?_;rintro e w' ⟨r,rfl,fj,g⟩;have bz:zb qR a7.heap.size w' r (b.fs.set M (frT ⟨B,n,i,t,C,D,E,F⟩ fi ix)):=fj;obtain⟨fa,fb,rfl,_⟩:=bz.at.rows;exact⟨⟨fa,_,fb⟩,rfl,bz.base (bS c8),g⟩
  clear bi cw e4 fe;go_upto_region 8 with fail;obtain⟨q,c⟩:=Ww fun R=>zc wc R;have ap:q wc.drew:=(c _).2 (gW _);have d2:Nonempty (zg q):=⟨⟨_,ap⟩⟩;have d5:=fun y:zg q=>(ak.box.box.aA ((c _).1 y.holds)).c 0 rfl;have d6:=fun y:zg q=>(ak.box.box.aA ((c _).1 y.holds)).c 1 rfl;have d8:=fun y:zg q=>(a8.box.aA ((c _).1 y.holds)).c 0 rfl;have d9:=fun y:zg q=>(a8.box.aA ((c _).1 y.holds)).c 1 rfl;have da:=fun y:zg q=>(a8.box.aA ((c _).1 y.holds)).c 2 rfl;have db:=fun y:zg q=>(a8.box.aA ((c _).1 y.holds)).c 3 rfl;have dc:=fun y:zg q=>(a8.box.aA ((c _).1 y.holds)).c 4 rfl;have dd:=fun y:zg q=>(a8.box.aA ((c _).1 y.holds)).c 5 rfl;have de:=fun y:zg q=>(a8.box.aA ((c _).1 y.holds)).c 6 rfl;have df:=fun y:zg q=>(a8.box.aA ((c _).1 y.holds)).c 7 rfl;refine zaw (I:=q) 17 [(8,⟨.const (Xh Xd),fun v=>∃s:Sli,v= Xm #[Xi #[O s.a s.n s.c,Xe Xf b.aB],Xe Xf (M:Int),Xe Xf 0],fun _ v R=>∃s:Sli,v= Xm #[Xi #[O s.a s.n s.c,Xe Xf b.aB],Xe Xf (M:Int),Xe Xf 0]/\zb qR wc.heap.size R (O s.a s.n s.c) (b.fs.set M (frT ⟨B,n,i,t,C,D,E,F⟩ fi ix)),fun k aa=>zc k aa,fun _=>True⟩),(13,⟨.const (Xh Xd),fun v=>∃g,v= Xj (Xa ⟨g,0,Xb⟩),fun _ v R=>∃g T,v= Xj (Xa ⟨g,0,Xb⟩)/\wc.heap.size<=g/\zt R g 28 T/\T.length=2,fun k aa=>zc k aa,fun _=>True⟩),(14,⟨.tmp 14,fun _=>True,fun ed _ R=>∃g,∃s:Sli,ed= Xj (Xa ⟨g,0,Xb⟩)/\wc.heap.size<=g/\zt R g 28 [O s.a s.n s.c,Xe Xf b.aB]/\zb qR wc.heap.size R (O s.a s.n s.c) (b.fs.set M (frT ⟨B,n,i,t,C,D,E,F⟩ fi ix)),fun k aa=>∃g T ct,wc.heap.size<=g/\k.grownBy aa (Xa g)/\zt k g 28 ct/\zt aa g 28 T/\T.length=2,fun _=>True⟩)] ap z3 Kr Kr rfl rfl Dc (Sc ⟨_,zE,rfl⟩ ⟨_,0,rfl⟩ ⟨Xh Xc,trivial⟩) ?hp ?hpre ?hpr0 ?_;case hp=>
   intro p s j ee a4 bb a0 e6 ed v k aa d aw;have Q:=zC a4;have A:=zC bb;clear a4 bb;simp only[mC,pJ,nM,or_false]at Q A;rcases Q with⟨rfl,rfl⟩|⟨rfl,rfl⟩|⟨rfl,rfl⟩
   ·obtain⟨s,L,G⟩:=aw
    rcases A with⟨rfl,rfl⟩|⟨rfl,rfl⟩|⟨rfl,rfl⟩;·exact absurd rfl a0
    ·exact⟨s,L,G.aA d⟩
    obtain⟨bj,T,ct,fl,di,ea,eb,ec⟩:=d;exact⟨s,L,G.grown di fun g cy e=>by cases e;exact G.ne ea Dc bj cy rfl⟩
   ·obtain⟨g,T,L,G,ao,Y⟩:=aw
    rcases A with⟨rfl,rfl⟩|⟨rfl,rfl⟩|⟨rfl,rfl⟩;·exact⟨g,T,L,G,ao.aA d,Y⟩
    ·exact absurd rfl a0
    obtain⟨bj,fc,ct,fl,di,ea,eb,ec⟩:=d;by_cases e:g=bj;·subst e;exact⟨g,_,L,G,eb,ec⟩
    exact⟨g,T,L,G,ao.beside di (fun p a4=>by cases a4;exact e),Y⟩
   obtain⟨g,s,L,G,ao,Y⟩:=aw;rcases A with⟨rfl,rfl⟩|⟨rfl,rfl⟩|⟨rfl,rfl⟩;·exact⟨g,s,L,G,ao.aA d,Y.aA d⟩
   ·exact⟨g,s,L,G,ao.aA d,Y.aA d⟩
   exact absurd rfl a0
  case hpre=>
   intro j ee p s bb a4 a0 k aa d ax;have A:=zC bb;simp only[mC,pJ,nM,or_false]at A;rcases A with⟨rfl,rfl⟩|⟨rfl,rfl⟩|⟨rfl,rfl⟩ <;> trivial
  case hpr0=>
   intro p ee a4;have Q:=zC a4;simp only[mC,pJ,nM,or_false]at Q;rcases Q with⟨rfl,rfl⟩|⟨rfl,rfl⟩|⟨rfl,rfl⟩ <;> trivial
  simp only[Yp,Yq];refine za5 rfl rfl rfl (fun ep e5=>?_);go_big_quiet_op;refine e5 _ ?_;clear e5 ep;refine zen (.tmp 41) ⟨k,0,Xb⟩ rfl rfl rfl rfl ?_;refine Uq ?_;iterate 6 refine Qf ?_
  refine Zy rfl rfl (fun w' u ax U=>?_) (fun ef a5=>?_);·refine zN.call [Xi #[O K.f.a K.f.n K.f.c,Xe Xf b.aB],Xi #[Xe Xg B,Xe Xg n,Xe Xg i,Xe Xg t,Xe Xg C,Xe Xg D,Xe Xg E,Xe Xg F],Xe Xf fi,Xe Xf ix] rfl func169 rfl rfl rfl ?_;refine(ch w' ((c _).1 u)).mono ?_;rintro e dl ⟨s,rfl,b8,c5⟩;exact⟨_,rfl,(c _).2 (((c _).1 u).trans c5),c5,⟨s,rfl⟩,s,rfl,b8⟩
  obtain⟨s,rfl⟩:=a5;refine Uq ?_;iterate 4 refine Qf ?_
  refine Zy rfl rfl (fun w' u ax U=>?_) (fun ef a5=>?_);·refine zN.step (v:= Xj (Xa ⟨w'.heap.size,0,Xb⟩)) (w':=w'.alloc (Xk #[O Xb 0 0,Xe Xf 0] 28)) (zhu rfl) ⟨(c _).2 (((c _).1 u).trans (za _ _)),za _ _,⟨_,rfl⟩,_,_,rfl,bS ((c _).1 u),zt.aE _ [O Xb 0 0,Xe Xf 0] _ rfl,rfl⟩
  obtain⟨bc,rfl⟩:=a5;refine Uq ?_;refine Zy rfl rfl (fun w' u ax U=>?_) (fun ef a5=>?_)
  ·obtain⟨g,T,N,H,P,bs⟩:=U 13 Kr
   simp only[Value.pointer.injEq,Option.some.injEq,Addr.mk.injEq,and_true]at N;subst N;obtain⟨h,e7,b8⟩:=U 8 Kr;have d3:h=s:=by
    obtain⟨fo,fp,fq⟩:=s;obtain⟨n,i,t⟩:=h;simp only[Value.tuple.injEq,Array.mk.injEq,List.cons.injEq,Value.agg.injEq,vJ,and_true]at e7;obtain⟨rfl,rfl,rfl⟩:=e7;rfl
   subst d3;refine zN.bL 28 (.tmp 14) (.tmp 50) rfl bc rfl [O h.a h.n h.c,Xe Xf b.aB] rfl P (Rr bs) (by rw[bs];kernel_rfl) (by simp[Value.oneCell']) fun dl n i t=>?_;exact⟨(c _).2 (zd ((c _).1 u) i H),⟨bc,_,_,H,i,P,n,rfl⟩,trivial,bc,h,rfl,H,n,b8.grown i fun g cy e=>by cases e;exact b8.ne P Dc bc cy rfl⟩
  simp only[Yb];iterate 2 refine Qf ?_
  refine zcc fun am bl U=>?_;obtain⟨bj,h,N,P,H,b8⟩:=U 14;have a9:(Value.pointer (Xa ⟨bc,0,Xb⟩):Xq)= Xj (Xa ⟨bj,0,Xb⟩):=N;simp only[Value.pointer.injEq,Option.some.injEq,Addr.mk.injEq,and_true]at a9;subst a9;have cx:=(c _).1 bl;have ej:Xo (zc wc am):=cx;have dt:Xo (zt am bc 28 [O h.a h.n h.c,Xe Xf b.aB]):=H;have ex:Xo (zb qR wc.heap.size am (O h.a h.n h.c) (b.fs.set M (frT ⟨B,n,i,t,C,D,E,F⟩ fi ix))):=b8;have eg:=dD (ak.box.aA cx);clear U bl ap d2 d5 d6 d8 d9 da db dc dd de df cx N H P b8;obtain⟨fd,bi⟩:=dt.box.k2;go_upto_region 12 with(refine Qk rfl 28 (.tmp 60) (.tmp 57) rfl k 0 rfl (Xi #[O h.a h.n h.c,Xe Xf b.aB]) rfl [O h.a h.n h.c,Xe Xf b.aB] rfl eg (by simp[chL]) Kr (by simp[Value.oneCell']) ?_)
  intro f5 bh bk _;have es:Xo (Chg w0 k w V cm.2.2 f5):=dD<|by
   rw[a.out];exact Chg.step dr dn (ak.bM ej ex bk bh)
  clear fd bi bh bk;go_wp2;go_ret2;exact⟨by rw[<-ac.out,a.out];rfl,es⟩
theorem zlU (ab:ChW w0 k w V m) (ac:Rt m) (pg:Pg) (Q:Xq) (l:List (Nat × Nat)) (a8:zg4 JZ (Dw k V) w Q l) (a5:∀x∈l,x.2<64/\∃s,m.sp[x.1]? =Xa s) (c5:l≠[]) (bz:l.length<=900)
  (c0:qL (ze m l).fs=0->∀y K,ChW w0 k y K (ze m l)->zg4 JZ (Dw k K) y Q l->Xp prog 168 #[Xj (Xa ⟨k,0,Xb⟩),Q] y fun e w'=>e= Xl (Xh (Qw (ze m l) l).1)/\Chg w0 k y K (Qw (ze m l) l).2 w'):
  Xp prog 114 #[Xj (Xa ⟨k,0,Xb⟩),Xi #[U8 pg.b0,U8 pg.b1,U8 pg.b2,U8 pg.b3,U8 pg.b4,U8 pg.b5,U8 pg.b6,U8 pg.b7],Q] w fun e w'=>e= Xl (Xm #[I6 ((ZK m pg l).2.1:Int),I6 (if(ZK m pg l).1=Xc then 0 else 10)])/\Chg w0 k w V (ZK m pg l).2.2 w':=by
 have bl:Xo (zg4 JZ (Dw k V) w Q l):=a8;have da:Xo (ChW w0 k w V m):=ab;have d9:Xo (∀p,Dw k V p->p<w.heap.size):=ab.bK;have aq:=zaC (qO l ac a5).1.rt l;have aj:Xo ((ze m l).sp.length=m.sp.length):=(qO l ac a5).1.aX.aI;have co:Xo (∀x∈l,x.2<64/\x.1<m.sp.length):=show∀x∈l,_ from fun x a9=>by
  obtain⟨az,s,L⟩:=a5 x a9;exact⟨az,(gS.1 L).1⟩
 obtain⟨g,h,i,n,q,r,t,u⟩:=pg;simp only;have H:Xo (∀W,zc w W->Xp prog 140 #[Xj (Xa ⟨k,0,Xb⟩),Xi #[U8 g,U8 h,U8 i,U8 n,U8 q,U8 r,U8 t,U8 u],I6 (-1),I6 0,Q] W fun e w'=>e= Xl (Xm #[I6 ((zbr m (frT ⟨g,h,i,n,q,r,t,u⟩ (-1) 0) l).2.1:Int),I6 (if(zbr m (frT ⟨g,h,i,n,q,r,t,u⟩ (-1) 0) l).1=Xc then 0 else 10)])/\Chg w0 k W V (zbr m (frT ⟨g,h,i,n,q,r,t,u⟩ (-1) 0) l).2.2 w'):=dD<|fun W ae=>zfJ (ab.aA ae) ac ⟨g,h,i,n,q,r,t,u⟩ (-1) 0 (zjz (.inl ⟨rfl,rfl⟩)) Q l (fun y z=>a8 y ((qH.aA ae).trans z)) a5 c0;have a:Xo (ZK m ⟨g,h,i,n,q,r,t,u⟩ l=if(zV (ze m l) l).1=Xc then(Xc,ZM (zV (ze m l) l).2.fs,zbJ (zV (ze m l) l).2 (ZM (zV (ze m l) l).2.fs) ⟨g,h,i,n,q,r,t,u⟩ Xc l)else(Xd,0,(zV (ze m l) l).2)):=dD<|rfl;have d:Xo (zbr m (frT ⟨g,h,i,n,q,r,t,u⟩ (-1) 0) l=if(zV (ze m l) l).1=Xc then(Xc,ZM (zV (ze m l) l).2.fs,{(zV (ze m l) l).2 with fs:=(zV (ze m l) l).2.fs.set (ZM (zV (ze m l) l).2.fs) (frT ⟨g,h,i,n,q,r,t,u⟩ (-1) 0) })else(Xd,0,(zV (ze m l) l).2)):=dD<|rfl;obtain⟨ah,cm⟩:=kA (ZK m ⟨g,h,i,n,q,r,t,u⟩ l);obtain⟨db,cp⟩:=kA (zbr m (frT ⟨g,h,i,n,q,r,t,u⟩ (-1) 0) l);rw[cm.out]at a⊢;obtain⟨dd,D⟩:=kA (if ah.1=Xc then(0:Int)else 10);rw[D.out];rw[cp.out]at d H;obtain⟨z,bw,-⟩:=aq;have G:Xo ((zV (ze m l) l).2.sp.length=m.sp.length):=dD<|by rw[z.aX.aI,aj.out]
 have F:Xo (Rt (zV (ze m l) l).2):=z.rt;have E:Xo ((zV (ze m l) l).1=Xc->0<qL (zV (ze m l) l).2.fs):=show _->_ from bw;obtain⟨df,dg,rfl,bf⟩:=(a8 w (qH.refl _ _)).bP;have a1:=(a8 w (qH.refl _ _)).short;clear z bw ab a8 ac a5 c0 bf;obtain⟨cu,ar⟩:=kA (zV (ze m l) l);rw[ar.out]at F E a d G;obtain⟨cx,bg⟩:=cu;simp only at F E a d G;have an:Xo (l≠[]):=c5;have am:Xo (l.length<=900):=bz;clear c5 bz;obtain⟨R,A⟩:=kA l.length;rw[A.out]at bl H a1⊢;obtain⟨L,bk⟩:=kA w.heap.size;obtain⟨bn,C⟩:=kB (w.alloc (Xk #[U8 g,U8 h,U8 i,U8 n,U8 q,U8 r,U8 t,U8 u] 44));have ai:=gA C;have cw:=xPT C bk;have au:Xo (_=bn):=C;clear C;have c:=H.out bn ai.out;go_enter func114,ntmps114;go_upto_region 1 with fail;rw[au.out,bk.out];obtain⟨ca,cb,cc,cd,ce,cf,cg,ch⟩:=cw.box.c8;cases cx with
 | false=>
  rw[kF Dc]at a d;rw[d.out]at c;simp only[Ov,if_false]at c;go_wp2_with fail;refine c.mono ?_;clear c ca cb cc cd ce cf cg ch;rintro e y ⟨rfl,z⟩;have av:Xo (Chg w0 k w V ah.2.2 y):=dD<|Rx a.out (Chg.aH ai z);clear z;go_wp2;go_ret2;exact⟨by rw[<-D.out,a.out];rfl,av⟩
 | true=>
  rw[kE rfl]at a d;obtain⟨cz,d2,de,bc,d3⟩:=zex (E rfl);obtain⟨b,al⟩:=kA (ZM bg.fs);rw[al.out]at bc d a;obtain⟨b8,b9,br⟩:=zlX F bc ⟨g,h,i,n,q,r,t,u⟩ (fun x a9=>by rw[G.out];exact co x a9) an am.out;rw[<-br]at a;clear br;rw[d.out]at c;simp only[if_true]at c;obtain⟨f,ap⟩:∃f:Ma,Xo (({ bg with fs:=bg.fs.set b (frT ⟨g,h,i,n,q,r,t,u⟩ (-1) 0) }:Ma)=f):=⟨_,rfl⟩;rw[ap.out]at a b8 b9 c;have cn:Xo (∀j,j<=R->∀x,l[j]? =Xa x->ZS (zw f b (l.take j)).fs (zw f b (l.take j)).aB (b:Int) 1=0/\zw f b (l.take (j+1))=zdk (zw f b (l.take j)) x.1 (x.2:Int) (b:Int)/\x.1< (zw f b (l.take j)).sp.length):=dD<|fun j be x a9=>(b8 j (Rx A.out be)).2 x a9;have T:Xo (ZS (zw f b l).fs (zw f b l).aB (b:Int) (-1)=0):=b9;clear b8 b9 cz d2 bc d3;go_wp2_with fail;refine c.mono ?_;clear c ca cb cc cd ce cf cg ch;rintro e y ⟨rfl,z⟩;obtain⟨K,c6,c8,Y⟩:=Chg.aH ai z;have cq:Xo (ChW w0 k y K f):=c6;have cs:Xo (qH (Dw k V) w y):=c8;have cj:Xo (∀p,Dw k K p->Dw k V p\/w.heap.size<=p):=Y;clear z c6 c8 Y;go_wp2;go_loopg [24] R (fun d6 bi wr=>∃(j:Nat) (S:MaV),j<=R/\R - j<=d6/\bi=I6 j/\Xo (ChW w0 k wr S (zw f b (l.take j)))/\Xo (qH (Dw k V) w wr)/\Xo (∀p,Dw k S p->Dw k V p\/w.heap.size<=p))
  exact⟨0,K,nZ _,Wm,rfl,cq,cs,cj⟩;obtain⟨j,S,be,d7,rfl,B,aw,bj⟩:=hrel;by_cases N:j<R
  ·have a6:=kC N
   obtain⟨x,bm⟩:∃x,Xo (l[j]? =Xa x):=⟨_,gE (Rx A.out N)⟩;obtain⟨_,_,P,a7⟩:=(bl wr aw).bP;simp only[vJ]at P;obtain⟨dc,a0,a2⟩:=a7 j x bm.out;rw[<-P.1]at a0;subst a0;obtain⟨bt,Y⟩:=a2 wr (zc.refl _);obtain⟨ba,bv,bb⟩:=cn.out j be x bm.out;have U:Xo (zw f b (l.take (j+1))=zdk (zw f b (l.take j)) x.1 (x.2:Int) (b:Int)):=bv;obtain⟨af,ag⟩:=x;simp only at bt Y ba bb U;have M:=zcR (B.aA (za wr (Xk #[I6 (af:Int),I6 (ag:Int)] 95))) af bb (ag:Int) (b:Int) ba;rw[<-U.out]at M;clear P a7 a2 ba bv bb;go_wp2_with fail;refine M.mono ?_;clear M bt Y;rintro e bp ⟨⟨dh,rfl⟩,bx⟩;obtain⟨ay,bs,c9,bu⟩:=Chg.step aw bj (Chg.aH (za _ _) bx);have cr:Xo (ChW w0 k bp ay (zw f b (l.take (j+1)))):=bs;have ct:Xo (qH (Dw k V) w bp):=c9;have ck:Xo (∀p,Dw k ay p->Dw k V p\/w.heap.size<=p):=bu;clear bx bs c9 bu;go_wp2;go_roundg (R -(j+1));exact⟨j+1,ay,Wm,Wm,Gn,cr,ct,ck⟩;omega
  have a6:=kD N;have a4:l.take j=l:=Yd (by rw[A.out];omega);rw[a4]at B;clear a4;obtain⟨v,ao⟩:=kA (zw f b l);rw[ao.out]at B T a;have ak:Xo (∀W,zc wr W->Xp prog 121 #[Xi #[S.f.x,I6 v.aB],I6 (b:Int),I6 (-1)] W fun e w'=>∃L:Sli,e= Xl (Xm #[Xi #[L.x,I6 v.aB],I6 0])/\zb qR W.heap.size w' (L.x) (JA v.fs v.aB (b:Int) (-1))/\zc W w'):=dD<|fun W ae=>by
   obtain⟨d8,-⟩:=B.at.ns;have p:=(B.at.aA ae).fs;(try simp only[Sli.x]at p⊢);rw[d8]at p⊢;refine(zgH S.f.a S.f.c v.fs v.aB (b:Int) (-1) W p T).mono ?_;rintro e w' ⟨L,rfl,c7,d5⟩;have bh:zb qR W.heap.size w' L (JA v.fs v.aB (b:Int) (-1)):=c7;obtain⟨az,cy,rfl,_⟩:=bh.at.rows;exact⟨⟨az,_,cy⟩,rfl,c7,d5⟩
  obtain⟨af,ag⟩:=B.box.box.k2;have a3:=ak.out wr (zc.refl _);go_wp2_with fail;refine a3.mono ?_;clear a3 af ag;rintro e bq ⟨s,rfl,aa,bd⟩;have cl:Xo (zc wr bq):=bd;have ax:Xo (zb qR wr.heap.size bq (s.x) (JA v.fs v.aB (b:Int) (-1))):=aa;have ci:=dD (B.box.aA bd);clear aa bd;go_upto_region 10 with(refine Qk rfl 28 (.tmp 46) (.tmp 42) rfl k 0 rfl (Xi #[s.x,I6 v.aB]) rfl [s.x,I6 v.aB] rfl ci (by simp[chL]) Kr (by simp[Value.oneCell']) ?_)
  intro cv X Z _;have I:=B.bM cl ax Z X;have av:Xo (Chg w0 k w V ah.2.2 cv):=dD<|Rx a.out (Chg.step aw bj I);clear I X Z;go_wp2;go_ret2;exact⟨by rw[<-D.out,a.out];rfl,av⟩
theorem qH.row {w:Xn} {a:Option Nat} (g:w.grownBy w' a):qH (fun k=>a=Xa k) w w':=⟨g.os,g.tape,g.output,g.size,fun i b c=>g.block i b (fun e=>c e.symm)⟩
theorem zjh {t:Ca}:∀{ca:List Ca},zes ca t=Xc->zdi ca t<ca.length
 | [],h=>by cases h
 | c :: l,h=>by
  unfold zdi;rw[Yl]
  split
  ·rename_i a
   have a:=of_decide_eq_true a;have b:zes l t=Xc:=by
    unfold zes at h⊢;rw[List.any_cons,Bool.or_eq_true]at h;rcases h with e|e;·have:=of_decide_eq_true e;omega
    exact e
   have:=zjh b;unfold zdi at this;simp only[Yj];omega
  exact Nat.succ_pos _
theorem zin (h:ChW w0 k w V m) (s:m.ca.Pairwise fun a b=>zY a<zY b) (hi:∀c∈m.ca,0<=c.idx/\c.idx<100) (g:m.ca.length<=1000) (file idx:Int) (ht:0<=idx/\idx<100):
  Xp prog 111 #[Xj (Xa ⟨k,0,Xb⟩),Xe Xf file,Xe Xf idx] w fun e w'=>((zes m.ca ⟨file,idx,0⟩=Xd/\e= Xl (Xm #[Xe Xf 0,Xh Xd]))\/(zes m.ca ⟨file,idx,0⟩=Xc/\∀c,m.ca[zdi m.ca ⟨file,idx,0⟩]? =Xa c->e= Xl (Xm #[Xe Xf c.fr,Xh Xc])))/\zc w w':=by
 have d:=zbI h s hi g file idx ht;obtain⟨P,i⟩:=kA (zdi m.ca ⟨file,idx,0⟩);rw[i.out]at d⊢;have y:=dD h;have u:=dD h.at.ca.n;cases p:zes m.ca ⟨file,idx,0⟩with
 | false=>
  rw[p]at d;clear p h s hi g ht;go_enter func111,ntmps111;go_wp2_with fail;refine d.mono ?_;clear d;rintro e v ⟨rfl,f⟩;have q:=dD f;clear f;go_wp2;go_ret2;exact⟨.inl ⟨by first | rfl | trivial,rfl⟩,q⟩
 | true=>
  rw[p]at d;have l:P<m.ca.length:=by
   rw[<-i.out];exact zjh p
  obtain⟨c,t⟩:∃c,Xo (m.ca[P]? =Xa c):=⟨_,gE l⟩;have n:(P:Int)< (V.ca.n:Int):=by rw[u.out];omega
  obtain⟨x,j,i⟩:=h.ca.aG Wm;have z:Xo (zb jA w0.heap.size w (O (Xa ⟨x,0,Xb⟩) m.ca.length j) m.ca):=dD<|Ry i h.ca;have r:=dD i;obtain⟨j,j⟩:=kA m.ca.length;rw[u.out,j.out]at n;clear p h s hi g ht l i;go_enter func111,ntmps111;go_wp2_with fail;refine d.mono ?_;clear d;rintro e v ⟨rfl,f⟩;have q:=dD f;have d:=(y.box.aA f).box.c 9 rfl;rw[r.out,j.out]at d;have d:v.cell? ⟨x,P*3+2,Xb⟩=Xa (Xe Xf c.fr):=by
   have:=(z.aA f).one t 2 _ rfl;rw[zZ,Yk,zA]at this;exact this
  clear f;go_wp2;go_ret2;refine⟨.inr ⟨by first | rfl | trivial,fun d d=>?_⟩,q⟩;rw[t.out]at d;cases d;rfl
def ZO (m:Ma) (pg:Pg) (ic wr:Bool) (q n:Nat):Bool × Nat × Ma:=
 if(JD m q (n:Int)).kind=1/\ic=Xc/\(wr=Xd\/(zX m (JD m q (n:Int)).n).r=1)then(Xc,(JD m q (n:Int)).n.toNat,m)
 else if(JD m q (n:Int)).kind=2/\wr=Xd then ZK m pg (jK m 2 (JD m q (n:Int)).n m.sp.length)
 else ZK m pg [(q,n)]
theorem zku (a:m.sp[k]? =Xa s) (c:b<64) (q:(zf s b).kind=2):(k,b)∈jK m 2 (zf s b).n m.sp.length:=
 (zaP Dc (nR _)).2 ⟨(gS.1 a).1,c,s,a,by unfold isE;simp[q]⟩
theorem ziZ (ba:ChW w0 k w V m) (aq:Rt m) (q n:Nat) (s:Sp) (ar:m.sp[q]? =Xa s) (bf:n<64) (a:Ar) (pg:Pg) (ic wr:Bool)
  (cl:∀(l:List (Nat × Nat)) (D:Xq),(∀x∈l,x.2<64/\∃s,m.sp[x.1]? =Xa s)->qL (ze m l).fs=0->∀ad c2,ChW w0 k ad c2 (ze m l)->zg4 JZ (Dw k c2) ad D l->Xp prog 168 #[Xj (Xa ⟨k,0,Xb⟩),D] ad fun e w'=>e= Xl (Xh (Qw (ze m l) l).1)/\Chg w0 k ad c2 (Qw (ze m l) l).2 w'):
  Xp prog 71 #[Xi #[Xj (Xa ⟨k,0,Xb⟩),I6 (q:Int),I6 (n:Int),I6 a.fr,I6 a.tz,Xh a.rd,Xh a.wr,Xh a.sh,I6 a.file,I6 a.base,U8 pg.b0,U8 pg.b1,U8 pg.b2,U8 pg.b3,U8 pg.b4,U8 pg.b5,U8 pg.b6,U8 pg.b7,Xh ic,Xh wr]] w fun e w'=>e= Xl (Xm #[I6 ((ZO m pg ic wr q n).2.1:Int),I6 (if(ZO m pg ic wr q n).1=Xc then 0 else 10)])/\Chg w0 k w V (ZO m pg ic wr q n).2.2 w':=by
 have ac:Xo (ChW w0 k w V m):=ba;have cw:Xo (q<m.sp.length):=(gS.1 ar).1;have cf:Xo (∀p,Dw k V p->p<w.heap.size):=ba.bK;have bw:Xo (JD m q (n:Int)=zf s n):=show _=_ by unfold JD;rw[Sp.aK ar,JM bf]
 obtain⟨e,bv⟩:=kA (JD m q (n:Int));have a2:Xo (zf s n=e):=dD<|by rw[<-bw.out,bv.out]
 have az:Xo (e.kind=1->∃(p:Nat) (fr:Fr),e.n=(p:Int)/\m.fs[p]? =Xa fr):=dD<|fun am=>by
  obtain⟨da,fr,ci,d3,_⟩:=aq.aQ ar bf (Rx a2.out am);rw[a2.out]at ci;exact⟨da,fr,ci,d3⟩
 have aa:Xo (ZO m pg ic wr q n=if e.kind=1/\ic=Xc/\(wr=Xd\/(zX m e.n).r=1)then(Xc,e.n.toNat,m)else if e.kind=2/\wr=Xd then ZK m pg (jK m 2 e.n m.sp.length)else ZK m pg [(q,n)]):=dD<|by unfold ZO;rw[bv.out]
 have bz:Xo (∀x∈[(q,n)],x.2<64/\∃s,m.sp[x.1]? =Xa s):=dD<|fun x au=>by rw[Xw.1 au];exact⟨bf,s,ar⟩
 have c0:Xo (e.kind=2->(∀x∈jK m 2 e.n m.sp.length,x.2<64/\∃s,m.sp[x.1]? =Xa s)/\jK m 2 e.n m.sp.length≠[]/\(jK m 2 e.n m.sp.length).length<=900):=dD<|fun am=>by
  refine⟨fun x au=>?_,fun d2=>?_,?_⟩;·obtain⟨a,s,d,_⟩:=zaM aq x au;exact⟨a,s,d⟩
  ·have:=zku ar bf (Rx a2.out am)
   rw[a2.out,d2]at this;cases this
  have a8:=zcg m 2 e.n m.sp.length;have ah:=aq.inv.aI;omega
 have cu:Xo (m.sp.length<=4):=aq.inv.aI;have ab:Xo (∀W D l,zc w W->zg4 JZ (Dw k V) W D l->(∀x∈l,x.2<64/\∃s,m.sp[x.1]? =Xa s)->l≠[]->l.length<=900->Xp prog 114 #[Xj (Xa ⟨k,0,Xb⟩),Xi #[U8 pg.b0,U8 pg.b1,U8 pg.b2,U8 pg.b3,U8 pg.b4,U8 pg.b5,U8 pg.b6,U8 pg.b7],D] W fun e w'=>e= Xl (Xm #[I6 ((ZK m pg l).2.1:Int),I6 (if(ZK m pg l).1=Xc then 0 else 10)])/\Chg w0 k W V (ZK m pg l).2.2 w'):=show∀W,_ from fun W D l bd an cm d4 d5=>zlU (ba.aA bd) aq pg D l an cm d4 d5 (cl l D cm);have bx:Xo (∀W,zc w W->Xp prog 115 #[Xj (Xa ⟨k,0,Xb⟩),I6 2,I6 e.n] W fun bo w'=>∃N,bo= Xl N/\zb JZ W.heap.size w' N (jK m 2 e.n m.sp.length)/\zc W w'):=dD<|fun W bd=>zcp (ba.aA bd) 2 e.n cu.out;obtain⟨Q,R,S,T,U,X,Y,Z⟩:=pg;simp only at ab⊢;obtain⟨F,bt⟩:=kA (ZO m ⟨Q,R,S,T,U,X,Y,Z⟩ ic wr q n);rw[bt.out]at aa⊢;obtain⟨ch,a1⟩:=kA (if F.1=Xc then(0:Int)else 10);rw[a1.out];clear aq ar bf cl;obtain⟨d,ce⟩:=kA w.heap.size;obtain⟨ad,a4⟩:=kB (w.alloc (Xk #[Xj (Xa ⟨k,0,Xb⟩),I6 (q:Int),I6 (n:Int),I6 a.fr,I6 a.tz,Xh a.rd,Xh a.wr,Xh a.sh,I6 a.file,I6 a.base,U8 Q,U8 R,U8 S,U8 T,U8 U,U8 X,U8 Y,U8 Z,Xh ic,Xh wr] 97));have cd:=gA a4;have cg:=xPT a4 ce;have c1:Xo (_=ad):=a4;clear a4;have al:=Jb (ac.aA cd) q cw (n:Int);rw[bv.out]at al;go_enter func71,ntmps71;go_upto_region 1 with fail;rw[c1.out,ce.out];obtain⟨u0,u1,u2⟩:=cg.box.c3;go_wp2_with fail;refine al.mono ?_;clear al u0 u1 u2 ba;rintro bo b9 ⟨rfl,cj⟩;unfold enV;go_upto_region 2 with fail;obtain⟨ap,ax⟩:=kA b9.heap.size;obtain⟨j,a5⟩:=kB (b9.alloc (Xk #[I6 e.kind,I6 e.n,Xh e.wr] 55));have ag:zc ad j:=by rw[<-a5];exact cj.trans (za _ _)
 have c3:=xPT a5 ax;have bq:=dD (cg.aA ag);have bs:=dD (cd.trans ag);rw[a5,ax.out];clear a5 ag cj;obtain⟨ao,z⟩:=kA (decide (e.kind=1/\ic=Xc/\(wr=Xd\/(zX m e.n).r=1)));go_cut [36] (fun c9 cc=>c9= Xh ao/\Xo (zc j cc))
 case first=>
  have B:Nonempty (zk j):=⟨⟨_,zc.refl _⟩⟩;have a6:=fun y:zk j=>(c3.box.aA y.aA).c 0 rfl;have i:=fun y:zk j=>(c3.box.aA y.aA).c 1 rfl;have C:=fun y:zk j=>(bq.box.aA y.aA).c 0 rfl;have t:=fun y:zk j=>(bq.box.aA y.aA).c 18 rfl;have u:=fun y:zk j=>(bq.box.aA y.aA).c 19 rfl;by_cases b:e.kind=1
  ·have h:(e.kind == 1)=Xc:=Rr b
   obtain⟨p,fr,a8,ah⟩:=az.out b;cases ic with
   | false=>
    have L:ao=Xd:=(by rw[<-z.out];simp);subst L;clear b;refine jQ [] z3 Kr Sm Sm ?_;iterate 2 refine zh ?_
    refine jS rfl rfl rfl (fun a3 r=>?_);go_big_quiet_op;(try rw[h]);refine r _ ?_;clear r a3;iterate 5 refine zh ?_
    iterate 18 (refine ZC rfl ?_;simp only[Yb,sB,sS,sZ])
    refine zh ?_;refine z7 fun ae K _=>?_;have H:Xo (zc j ae):=dD<|K;clear K B a6 i C t u;go_wp2;go_meet;exact⟨rfl,H⟩
   | true=>
    cases wr with
    | false=>
     have L:ao=Xc:=(by rw[<-z.out];simp[b]);subst L;clear b;refine jQ [] z3 Kr Sm Sm ?_;iterate 2 refine zh ?_
     refine jS rfl rfl rfl (fun a3 r=>?_);go_big_quiet_op;(try rw[h]);refine r _ ?_;clear r a3;iterate 9 refine zh ?_
     iterate 13 (refine ZC rfl ?_;simp only[Yb,sB,sS,sZ])
     iterate 2 refine zh ?_
     refine z7 fun ae K _=>?_;have H:Xo (zc j ae):=dD<|K;clear K B a6 i C t u;go_wp2;go_meet;exact⟨rfl,H⟩
    | true=>
     obtain⟨ct,av⟩:=kA (fr.r == 1);have L:ao=ct:=by
      rw[<-z.out,<-av.out,a8,zK ah];simp[b];exact Bool.beq_eq_decide_eq .. |>.symm
     subst L;obtain⟨af,a9,be⟩:=ac.at.bA p fr ah;obtain⟨db,-⟩:=ac.at.ns;have d8:(p:Int)< (V.f.n:Int):=by
      have:=(gS.1 ah).1;omega
     have d9:∀y:zk j,y.world.cell? ⟨k,0,Xb⟩=Xa (O (Xa af) V.f.n V.f.c):=fun y=>by
      have:=(ac.box.box.aA (bs.trans y.aA)).c 0 rfl;rw[a9]at this;exact this
     have d6:=fun y:zk j=>(be _ (bs.trans y.aA)).2.2.2.2.2.2.2.2.1;have c5:=av.out;rw[a8]at i;clear b a8 ah be a9 db;refine jQ [] z3 Kr Sm Sm ?_;iterate 2 refine zh ?_
     refine jS rfl rfl rfl (fun a3 r=>?_);go_big_quiet_op;(try rw[h]);refine r _ ?_;clear r a3;iterate 11 refine zh ?_
     refine zkn (.tmp 23) ⟨k,0,Xb⟩ rfl rfl rfl rfl ?_;refine Uq ?_;iterate 9 refine zh ?_
     refine jS rfl rfl rfl (fun a3 r=>?_);go_big_quiet_op;(try rw[c5]);refine r _ ?_;clear r a3;iterate 2 refine zh ?_
     refine z7 fun ae K _=>?_;have H:Xo (zc j ae):=dD<|K;clear K B a6 i C t u;go_wp2;go_meet;exact⟨rfl,H⟩
  have h:(e.kind == 1)=Xd:=Si b;have L:ao=Xd:=by rw[<-z.out];simp[b]
  subst L;clear b;refine jQ [] z3 Kr Sm Sm ?_;iterate 2 refine zh ?_
  refine jS rfl rfl rfl (fun a3 r=>?_);go_big_quiet_op;(try rw[h]);refine r _ ?_;clear r a3;refine zh ?_;iterate 2 (refine ZC rfl ?_;simp only[Yb,sB,sS,sZ])
  iterate 2 refine zh ?_
  iterate 18 (refine ZC rfl ?_;simp only[Yb,sB,sS,sZ])
  refine zh ?_;refine z7 fun ae K _=>?_;have H:Xo (zc j ae):=dD<|K;clear K B a6 i C t u;go_wp2;go_meet;exact⟨rfl,H⟩
 obtain⟨rfl,H⟩:=hcut;have G:=dD (bq.aA H);have br:=dD (c3.aA H);have P:=dD (bs.trans H);obtain⟨df,cs⟩:=br.box.k2;cases ao with
 | true=>
  have aj:=of_decide_eq_true z.out;obtain⟨p,fr,a8,ah⟩:=az.out aj.1;have v:Xo (F=(Xc,p,m)):=dD (by rw[aa.out,kE aj,a8,tN]);have b8:Xo (Chg w0 k w V F.2.2 wc):=dD<|Rx v.out (Chg.refl ac P.out);rw[a8]at cs;clear aj a8 ah;go_wp2;go_ret2;exact⟨by rw[<-a1.out,v.out];rfl,b8⟩
 | false=>
  have a7:Xo (F=if e.kind=2/\wr=Xd then ZK m ⟨Q,R,S,T,U,X,Y,Z⟩ (jK m 2 e.n m.sp.length)else ZK m ⟨Q,R,S,T,U,X,Y,Z⟩ [(q,n)]):=dD (by rw[aa.out,kF (of_decide_eq_false z.out)]);obtain⟨bp,a0⟩:=kA (decide (e.kind=2/\wr=Xd));have u19:=G.box.c 19 rfl;go_upto_region 4 with fail;go_cut [46] (fun ca cc=>ca= Xh bp/\cc=wc)
  case first=>
   by_cases A:e.kind=2
   ·have h:(e.kind == 2)=Xc:=Rr A
    have L:bp=!wr:=(by rw[<-a0.out];cases wr <;> simp[A]);subst L;clear A;cases wr;all_goals (go_wp2;go_meet;exact⟨rfl,rfl⟩)
   have h:(e.kind == 2)=Xd:=Si A;have L:bp=Xd:=(by rw[<-a0.out];simp[A]);subst L;clear A;go_wp2;go_meet;exact⟨rfl,rfl⟩
  obtain⟨rfl,c6⟩:=hcut;subst c6;clear u19 df cs;cases bp with
  | false=>
   have v:Xo (F=ZK m ⟨Q,R,S,T,U,X,Y,Z⟩ [(q,n)]):=dD (by rw[a7.out,kF (of_decide_eq_false a0.out)]);obtain⟨u0,u1,u2⟩:=G.box.c3;have u10:=G.box.c 10 rfl;have u11:=G.box.c 11 rfl;have u12:=G.box.c 12 rfl;have u13:=G.box.c 13 rfl;have u14:=G.box.c 14 rfl;have u15:=G.box.c 15 rfl;have u16:=G.box.c 16 rfl;have u17:=G.box.c 17 rfl;have aw:=ab.out (wc.alloc (Xk #[I6 (q:Int),I6 (n:Int)] 95)) (O (Xa ⟨wc.heap.size,0,Xb⟩) 1 1) [(q,n)] (P.trans (za _ _)) (jD.aY (base:=wc.heap.size) ⟨Zw JZ wc (q,n) _ _ rfl Dc,fun x n dg e=>by cases e;exact nR _⟩ (fun p am=>Yh (cf p am) (bS P))) bz Sm Sm;rw[<-v.out,a1.out]at aw;go_wp2_with fail;refine aw.mono ?_;clear u0 u1 u2 u10 u11 u12 u13 u14 u15 u16 u17;rintro bo cy ⟨rfl,ck⟩;have b8:Xo (Chg w0 k w V F.2.2 cy):=dD<|Chg.aH (P.trans (za _ _)) ck;clear ck;go_wp2;go_ret2;exact⟨rfl,b8⟩
  | true=>
   have aj:=of_decide_eq_true a0.out;have v:Xo (F=ZK m ⟨Q,R,S,T,U,X,Y,Z⟩ (jK m 2 e.n m.sp.length)):=dD (by rw[a7.out,kE aj]);obtain⟨cn,co,cp⟩:=c0.out aj.1;have cv:Xo (∀W N,zc w W->zb JZ W.heap.size W N (jK m 2 e.n m.sp.length)->True):=dD<|fun _ _ _ _=>trivial;have ak:=fun W D bd an=>ab.out W D (jK m 2 e.n m.sp.length) bd an cn co cp;rw[<-v.out,a1.out]at ak;have bu:Xo (∀W D,zc w W->zg4 JZ (Dw k V) W D (jK m 2 e.n m.sp.length)->Xp prog 114 #[Xj (Xa ⟨k,0,Xb⟩),Xi #[U8 Q,U8 R,U8 S,U8 T,U8 U,U8 X,U8 Y,U8 Z],D] W fun e w'=>e= Xl (Xm #[I6 (F.2.1:Int),I6 ch])/\Chg w0 k W V F.2.2 w'):=dD<|ak;clear ak aj cn co cp;go_upto_region 5 with fail;obtain⟨f,c⟩:=Ww fun E=>zt E d 97 [Xj (Xa ⟨k,0,Xb⟩),I6 (q:Int),I6 (n:Int),I6 a.fr,I6 a.tz,Xh a.rd,Xh a.wr,Xh a.sh,I6 a.file,I6 a.base,U8 Q,U8 R,U8 S,U8 T,U8 U,U8 X,U8 Y,U8 Z,Xh ic,Xh wr]/\zt E ap 55 [I6 e.kind,I6 e.n,Xh e.wr];have ai:f wc.drew:=(c _).2 ⟨G.aA (gW _),br.aA (gW _)⟩;have bb:zc wc wc.drew:=show Below _ _ _ from(bR _ _).drew;have i:=fun y:zg f=>((c _).1 y.holds).2.box.c 1 rfl;have C:=fun y:zg f=>((c _).1 y.holds).1.box.c 0 rfl;have bg:=fun y:zg f=>((c _).1 y.holds).1.box.c 10 rfl;have bh:=fun y:zg f=>((c _).1 y.holds).1.box.c 11 rfl;have bi:=fun y:zg f=>((c _).1 y.holds).1.box.c 12 rfl;have bj:=fun y:zg f=>((c _).1 y.holds).1.box.c 13 rfl;have bk:=fun y:zg f=>((c _).1 y.holds).1.box.c 14 rfl;have bl:=fun y:zg f=>((c _).1 y.holds).1.box.c 15 rfl;have bm:=fun y:zg f=>((c _).1 y.holds).1.box.c 16 rfl;have bn:=fun y:zg f=>((c _).1 y.holds).1.box.c 17 rfl;have B:Nonempty (zg f):=⟨⟨_,ai⟩⟩;have ay:Xo (¬Dw k V d/\¬Dw k V ap):=dD<|⟨(ac.aA P).bW G Dc Dc Dc Dc,(ac.aA P).bW br Dc Dc Dc Dc⟩;refine zQ (I:=f) 14 [(8,fun N=>∃s:Sli,N=s.x),(9,fun N=>N= Xm #[I6 (F.2.1:Int),I6 ch])] (fun E=>zc wc E) ai bb z3 Kr rfl rfl Dc (Sb ⟨_,zE,rfl⟩ ⟨_,rfl⟩) Kr ?_;simp only[Yp,Yq];iterate 8 refine zi ?_
   refine zH rfl rfl (fun N E=>zc wc E/\jD JZ wc.heap.size E N (jK m 2 e.n m.sp.length)) (fun w' M g=>?_) (fun dc an=>?_);·refine zN.call [Xj (Xa ⟨k,0,Xb⟩),I6 2,I6 e.n] rfl func115 rfl rfl rfl ?_;refine(bx w' (P.trans g)).mono ?_;rintro bo cb ⟨N,rfl,cq,ag⟩;obtain⟨dd,de,rfl⟩:=cq.form;exact⟨_,rfl,(c _).2 ⟨((c _).1 M).1.aA ag,((c _).1 M).2.aA ag⟩,⟨⟨dd,_,de⟩,rfl⟩,g.trans ag,(cq.base (bS g)).new⟩
   obtain⟨cr,rfl⟩:=an;refine Uq ?_;refine zH rfl rfl (fun _ E=>Chg w0 k w V F.2.2 E) (fun w' M g=>?_) (fun dc an=>?_)
   ·refine zN.call [Xj (Xa ⟨k,0,Xb⟩),Xi #[U8 Q,U8 R,U8 S,U8 T,U8 U,U8 X,U8 Y,U8 Z],cr.x] rfl func114 rfl rfl rfl ?_;refine(bu w' (cr.x) (P.trans g.1) (g.2.aY (fun p am=>Yh (cf p am) (bS P)))).mono ?_;rintro bo cb ⟨rfl,cx,d0,c8,d1⟩;exact⟨_,rfl,(c _).2 ⟨((c _).1 M).1.aU c8 ay.1,((c _).1 M).2.aU c8 ay.2⟩,rfl,Chg.aH (P.trans g.1) ⟨cx,d0,c8,d1⟩⟩
   subst an;refine Uq ?_;iterate 4 refine zi ?_
   refine qV fun cz c4 bc=>?_;have b8:Xo (Chg w0 k w V F.2.2 cz):=bc;clear c4 bc ai bb B i C bg bh bi bj bk bl bm bn;go_wp2;go_ret2;exact⟨rfl,b8⟩
def jG (m:Ma) (BF:Bool × Nat × Ma) (pg:Pg) (a:Ar) (ic wr:Bool) (q n:Nat):Bool × Nat × Ma:=if(0<=a.file/\ic=Xd)/\(a.sh=Xc\/wr=Xd)then BF else ZO m pg ic wr q n
theorem zhk (P:ChW w0 k w V m) (Z:Rt m) (q n:Nat) (s:Sp) (a0:m.sp[q]? =Xa s) (I:n<64) (a:Ar) (pg:Pg) (ic wr:Bool)
  (Y:∀(l:List (Nat × Nat)) (a1:Xq),(∀x∈l,x.2<64/\∃s,m.sp[x.1]? =Xa s)->qL (ze m l).fs=0->∀u U,ChW w0 k u U (ze m l)->zg4 JZ (Dw k U) u a1 l->Xp prog 168 #[Xj (Xa ⟨k,0,Xb⟩),a1] u fun e w'=>e= Xl (Xh (Qw (ze m l) l).1)/\Chg w0 k u U (Qw (ze m l) l).2 w')
  (g:Bool × Nat × Ma) (N:(0<=a.file/\ic=Xd)/\(a.sh=Xc\/wr=Xd)->∀W,zc w W->Xp prog 70 #[Xi #[Xj (Xa ⟨k,0,Xb⟩),I6 (q:Int),I6 (n:Int),I6 a.fr,I6 a.tz,Xh a.rd,Xh a.wr,Xh a.sh,I6 a.file,I6 a.base,U8 pg.b0,U8 pg.b1,U8 pg.b2,U8 pg.b3,U8 pg.b4,U8 pg.b5,U8 pg.b6,U8 pg.b7,Xh ic,Xh wr]] W fun e w'=>e= Xl (Xm #[I6 (g.2.1:Int),I6 (if g.1=Xc then 0 else 10)])/\Chg w0 k W V g.2.2 w'):
  Xp prog 33 #[Xi #[Xj (Xa ⟨k,0,Xb⟩),I6 (q:Int),I6 (n:Int),I6 a.fr,I6 a.tz,Xh a.rd,Xh a.wr,Xh a.sh,I6 a.file,I6 a.base,U8 pg.b0,U8 pg.b1,U8 pg.b2,U8 pg.b3,U8 pg.b4,U8 pg.b5,U8 pg.b6,U8 pg.b7,Xh ic,Xh wr]] w fun e w'=>e= Xl (Xm #[I6 ((jG m g pg a ic wr q n).2.1:Int),I6 (if(jG m g pg a ic wr q n).1=Xc then 0 else 10)])/\Chg w0 k w V (jG m g pg a ic wr q n).2.2 w':=by
 have L:Xo (∀W,zc w W->Xp prog 71 #[Xi #[Xj (Xa ⟨k,0,Xb⟩),I6 (q:Int),I6 (n:Int),I6 a.fr,I6 a.tz,Xh a.rd,Xh a.wr,Xh a.sh,I6 a.file,I6 a.base,U8 pg.b0,U8 pg.b1,U8 pg.b2,U8 pg.b3,U8 pg.b4,U8 pg.b5,U8 pg.b6,U8 pg.b7,Xh ic,Xh wr]] W fun e w'=>e= Xl (Xm #[I6 ((ZO m pg ic wr q n).2.1:Int),I6 (if(ZO m pg ic wr q n).1=Xc then 0 else 10)])/\Chg w0 k W V (ZO m pg ic wr q n).2.2 w'):=dD<|fun W a2=>ziZ (P.aA a2) Z q n s a0 I a pg ic wr Y;have r:Xo ((0<=a.file/\ic=Xd)/\(a.sh=Xc\/wr=Xd)->∀W,zc w W->Xp prog 70 #[Xi #[Xj (Xa ⟨k,0,Xb⟩),I6 (q:Int),I6 (n:Int),I6 a.fr,I6 a.tz,Xh a.rd,Xh a.wr,Xh a.sh,I6 a.file,I6 a.base,U8 pg.b0,U8 pg.b1,U8 pg.b2,U8 pg.b3,U8 pg.b4,U8 pg.b5,U8 pg.b6,U8 pg.b7,Xh ic,Xh wr]] W fun e w'=>e= Xl (Xm #[I6 (g.2.1:Int),I6 (if g.1=Xc then 0 else 10)])/\Chg w0 k W V g.2.2 w'):=N;obtain⟨B,C,D,E,F,G,H,K⟩:=pg;simp only at L r⊢;have d:Xo (jG m g ⟨B,C,D,E,F,G,H,K⟩ a ic wr q n=if(0<=a.file/\ic=Xd)/\(a.sh=Xc\/wr=Xd)then g else ZO m ⟨B,C,D,E,F,G,H,K⟩ ic wr q n):=dD<|rfl;obtain⟨j,R⟩:=kA (jG m g ⟨B,C,D,E,F,G,H,K⟩ a ic wr q n);rw[R.out]at d⊢;obtain⟨a5,i⟩:=kA (if j.1=Xc then(0:Int)else 10);rw[i.out];clear Z a0 I Y N P;obtain⟨M,X⟩:=kA w.heap.size;obtain⟨u,y⟩:=kB (w.alloc (Xk #[Xj (Xa ⟨k,0,Xb⟩),I6 (q:Int),I6 (n:Int),I6 a.fr,I6 a.tz,Xh a.rd,Xh a.wr,Xh a.sh,I6 a.file,I6 a.base,U8 B,U8 C,U8 D,U8 E,U8 F,U8 G,U8 H,U8 K,Xh ic,Xh wr] 97));have A:=gA y;have p:=xPT y X;have T:Xo (_=u):=y;clear y;have b:=L.out u A.out;go_enter func33,ntmps33;go_upto_region 1 with fail;rw[T.out,X.out];obtain⟨a4,S⟩:=kA a.sh;rw[S.out]at p d r b;have u7:=p.box.c 7 rfl;have u8:=p.box.c 8 rfl;have u18:=p.box.c 18 rfl;have u19:=p.box.c 19 rfl;by_cases z:0<=a.file
 ·have a3:decide (0<=a.file)=Xc:=decide_eq_true z
  cases ic with
  | true=>
   have c:Xo (j=ZO m ⟨B,C,D,E,F,G,H,K⟩ Xc wr q n):=dD (by rw[d.out,kF Sm]);rw[<-c.out,i.out]at b;go_wp2_with (refine zD rfl 97 (.tmp 1) rfl M rfl p.box underlying97 rfl Kr ?_)
   refine b.mono ?_;clear b u7 u8 u18 u19;rintro Q v ⟨rfl,h⟩;have t:Xo (Chg w0 k w V j.2.2 v):=dD<|Chg.aH A h;clear h;go_wp2;go_ret2;exact⟨rfl,t⟩
  | false=>
   cases a4 with
   | true=>
    have c:Xo (j=g):=dD (by rw[d.out,kE (by exact⟨⟨z,rfl⟩,.inl rfl⟩)]);have f:=r.out (by exact⟨⟨z,rfl⟩,.inl rfl⟩) u A.out;rw[<-c.out,i.out]at f;clear z b;go_wp2_with (refine zD rfl 97 (.tmp 1) rfl M rfl p.box underlying97 rfl Kr ?_)
    refine f.mono ?_;clear f u7 u8 u18 u19;rintro Q v ⟨rfl,h⟩;have t:Xo (Chg w0 k w V j.2.2 v):=dD<|Chg.aH A h;clear h;go_wp2;go_ret2;exact⟨rfl,t⟩
   | false=>
    cases wr with
    | false=>
     have c:Xo (j=g):=dD (by rw[d.out,kE (by exact⟨⟨z,rfl⟩,.inr rfl⟩)]);have f:=r.out (by exact⟨⟨z,rfl⟩,.inr rfl⟩) u A.out;rw[<-c.out,i.out]at f;clear z b;go_wp2_with (refine zD rfl 97 (.tmp 1) rfl M rfl p.box underlying97 rfl Kr ?_)
     refine f.mono ?_;clear f u7 u8 u18 u19;rintro Q v ⟨rfl,h⟩;have t:Xo (Chg w0 k w V j.2.2 v):=dD<|Chg.aH A h;clear h;go_wp2;go_ret2;exact⟨rfl,t⟩
    | true=>
     have c:Xo (j=ZO m ⟨B,C,D,E,F,G,H,K⟩ Xd Xc q n):=dD (by rw[d.out,kF Sm]);rw[<-c.out,i.out]at b;go_wp2_with (refine zD rfl 97 (.tmp 1) rfl M rfl p.box underlying97 rfl Kr ?_)
     refine b.mono ?_;clear b u7 u8 u18 u19;rintro Q v ⟨rfl,h⟩;have t:Xo (Chg w0 k w V j.2.2 v):=dD<|Chg.aH A h;clear h;go_wp2;go_ret2;exact⟨rfl,t⟩
 have a3:decide (0<=a.file)=Xd:=decide_eq_false z;have c:Xo (j=ZO m ⟨B,C,D,E,F,G,H,K⟩ ic wr q n):=dD<|by rw[d.out,kF (by exact fun P=>z P.1.1)]
 rw[<-c.out,i.out]at b;go_wp2_with (refine zD rfl 97 (.tmp 1) rfl M rfl p.box underlying97 rfl Kr ?_)
 refine b.mono ?_;clear b u7 u8 u18 u19;rintro Q v ⟨rfl,h⟩;have t:Xo (Chg w0 k w V j.2.2 v):=dD<|Chg.aH A h;clear h;go_wp2;go_ret2;exact⟨rfl,t⟩
def zcm (m:Ma) (pg:Pg) (fi ix:Int) (q n:Nat):Bool × Nat × Ma:=
 match m.ca.find? fun c=>decide (zY c=zY ⟨fi,ix,0⟩)with
 | some c=>(Xc,c.fr.toNat,if(JD m q (n:Int)).kind=0 then Zv m c.fr.toNat q n else m)
 | none=>zak m pg fi ix [(q,n)]
theorem zkA {t:Ca}:∀{ca:List Ca},(ca.Pairwise fun a b=>zY a<zY b)->zes ca t=Xc->ca.find? (fun c=>decide (zY c=zY t))=ca[zdi ca t]?
 | [],_,h=>by cases h
 | c :: l,g,h=>by
  unfold zdi;rw[Yl,List.find?_cons]
  by_cases e:zY c=zY t
  ·rw[decide_eq_true e,decide_eq_false Wm]
   rfl
  rw[decide_eq_false e];have d:zes l t=Xc:=by
   unfold zes at h⊢;rw[List.any_cons,decide_eq_false e,Bool.false_or]at h;exact h
  have f:zY c<zY t:=by
   unfold zes at d;obtain⟨j,k,m⟩:=Xt.1 d;have n:=(Ow.1 g).1 j k;have p:=of_decide_eq_true m;omega
  rw[decide_eq_true f];have i:=zkA (Ow.1 g).2 d;unfold zdi at i;simp only[if_true,Yj,Yo];exact i
theorem zpt (a b:Int) (c:Bool) (w:Xn):(Instr.field 55 (Xi #[I6 a,I6 b,Xh c]) 0).run prog w= .ok (I6 a) w:=by simp only[Instr.field,Ob,run_underlying underlying55,rA,asAgg];exact run_part_plain w (by simp[Program.plainKey,underlying3]) rfl
section
variable{α:Type} {E:Elt α}
theorem zb.cC {n cap:Nat} {l:List α} (h:zb E k w (O (Xa ⟨p,0,Xb⟩) n cap) l) (i:Nat) (hi:i<=l.length):
  ∀j u,((l.drop i).flatMap E.enc)[j]? =Xa u->w.cell? ((⟨p,i*E.k,Xb⟩:Addr).add j)=Xa u:=fun j u b=>by
 have a:(l.flatMap E.enc)[i*E.k+j]? =Xa u:=by
  conv=>lhs;rw[<-Ye i l,Xv]
  rw[aR (by rw[qD,Xs,Xz hi];exact Nat.le_add_right _ _),qD,Xs,Xz hi,Oj];exact b
 have:=h.1.cells rfl _ u a;rw[Yk,zA]at this;rw[Yk];exact this
theorem ze6 (G:o.guard=Xb) (d s:Operand) (a1:o.op= .call { callee:= .builtin .copy,args:=#[d,s],argTypes:=#[E.st,E.st] })
  (base g cap n:Nat) (l:List α) (k:zb E base w (O (Xa ⟨g,0,Xb⟩) n cap) l) (i:Nat) (hi:i<l.length) (e:l.length+1<=cap) (h:(l.length+1)*E.bytes<=140737488355328)
  (c j f m:Nat) (R U:Addr) (hd:a.eval d= O (Xa R) c j) (F:R=⟨g,(i+1)*E.k,Xb⟩) (a3:a.eval s= O (Xa U) f m) (L:U=⟨g,i*E.k,Xb⟩) (q:Nat) (a2:l.length - i=q) (x:q=Nat.min f c)
  (V:∀w',zb E base w' (O (Xa ⟨g,0,Xb⟩) (l.length+1) cap) (l.take (i+1)++l.drop i)->w.grownBy w' (Xa g)->w'.heap.size=w.heap.size->wpList prog ops Q K (a.put o.dst (goInt q)) w'):wpList prog ops Q (o :: K) a w:=by
 subst F L;refine wpList_plain G fun a5 Y=>?_;obtain⟨a6,Z,rest,a0,b,S,A,a4⟩:=k.block;obtain⟨a7,u,_,N,_⟩:=info_parts E.aD;have D:((l.drop i).flatMap E.enc).length=(l.length - i)*E.k:=by rw[qD,Xy]
 have z:(i+1)*E.k+(l.length - i)*E.k=(l.length+1)*E.k:=by rw[<-Yw,show i+1+(l.length - i)=l.length+1 by omega]
 have T:(l.length+1)*E.k<=cap*E.k:=Xx _ e;have p:=run_storeCells_at prog g ((i+1)*E.k) E.ty ((l.drop i).flatMap E.enc) 0 b w S (by rw[D,A];omega) (qQ E.one _);simp only[Oa]at p;have v:=run_loadCells_list (P:=prog) w ⟨g,i*E.k,Xb⟩ ((l.drop i).flatMap E.enc) (k.cC i Wm);rw[D,a2]at v;obtain⟨W,C⟩:∃W,W=w.setRow g (b.toList.take ((i+1)*E.k)++(l.drop i).flatMap E.enc++b.toList.drop ((i+1)*E.k+((l.drop i).flatMap E.enc).length)).toArray:=⟨_,rfl⟩;rw[<-C]at p;have y:(Builtin.copy_ #[E.st,E.st] o.type #[O (Xa ⟨g,(i+1)*E.k,Xb⟩) c j,O (Xa ⟨g,i*E.k,Xb⟩) f m]).run prog w= .ok (goInt q) W:=by
  simp[Builtin.copy_,run_underlying E.bI,Builtin.lenOf,Builtin.firstCells,sizeOf,typeInfo,u,N,<-x,v,p]
 unfold Oper.wp;simp[execOp,a1,resolve,invoke,builtin,hd,a3,y,Result.andThen];have hlen:(l.take (i+1)++l.drop i).length=l.length+1:=by rw[lA,Xs,Xy];omega
 have t:b.toList.length=cap*E.k:=Si A;have H:(i+1)*E.k<=l.length*E.k:=Xx _ hi;have I:l.length*E.k<=cap*E.k:=Xx _ rest;have M:b.toList.take ((i+1)*E.k)=(l.take (i+1)).flatMap E.enc:=by
  have X:(b.toList.take (l.length*E.k)).take ((i+1)*E.k)=b.toList.take ((i+1)*E.k):=by rw[Oc,Xz H]
  rw[<-X,a4];conv=>lhs;rw[<-Ye (i+1) l,Xv]
  exact Yf (by rw[qD,Xs,Xz hi])
 have B:(b.toList.take ((i+1)*E.k)).length=(i+1)*E.k:=by rw[Xs,t];omega
 have r:=zb.mk' (E:=E) (base:=base) (w:=W) (g:=g) (cap:=cap) (l:=l.take (i+1)++l.drop i) Z (by rw[C];exact setRow_heap w g b _ E.ty _ S) (by rw[hlen];exact e) a0 (by
  simp only[Yu,lA,B,D,Xy,t]
  omega) (by
  rw[hlen,Xv,<-M,<-z];have:(b.toList.take ((i+1)*E.k)++(l.drop i).flatMap E.enc).length=(i+1)*E.k+(l.length - i)*E.k:=by rw[lA,B,D]
  simp only;rw[Yf this]) (by rw[hlen];exact h)
 rw[hlen]at r;exact Y _ _ (V _ r (by rw[C];exact ZV _ _ _) (by rw[C];simp[World.setRow]))
end
theorem zgz {base n c:Nat} {a:Option Addr} {w:Xn} {l:List Ca} (b:zb jA base w (O a n c) l) (j:l.length<=1000) (x:Ca) (y:Option Addr) (z:Nat) (H:zr jA w (O y 1 z) [x]) (F:base<=w.heap.size):
  Xp prog 141 #[O a n c,I6 (n:Int),O y 1 z] w fun e w'=>∃(d:Option Addr) (f:Nat),e= Xl (O d (n+1) f)/\zb jA base w' (O d (n+1) f) (l++ [x])/\w.grownBy w' (O a n c).ownBlock/\(∀g,(O d (n+1) f).ownBlock=Xa g->(O a n c).ownBlock=Xa g\/w.heap.size<=g):=by
 have q:Xo (n=l.length):=b.at.n;have L:n<=1000:=Hm q.out;have u:Xo (zb jA base w (O a n c) l):=b;have C:Xo (zr jA w (O y 1 z) [x]):=H;have p:Xo (base<=w.heap.size):=F;have B:(n:Int)<=(c:Int):=by
  rcases b.1.2 with⟨A,_⟩|⟨m,D,K,A,_,_,N,_⟩;·cases A;omega
  cases A;omega
 clear b H F j;by_cases k:c=n
 ·rw[k]at u⊢;clear k B;go_enter func141,ntmps141;go_wp2_with (at_builtin;refine QT (E:=jA) rfl (.tmp 23) (.tmp 24) rfl base _ l rfl u _ [x] rfl C.out ?qb p.out ?_)
  case qb=>
   show(l.length+1)*24<=_;have:=q.out;omega
  intro M w' h m i;obtain⟨d,f,rfl⟩:=h.form;have t:Xo ((l++ [x]).length=n+1):=dD (by rw[lA,Yi,q.out]);rw[t.out]at h i⊢;have v:Xo (zb jA base w' (O d (n+1) f) (l++ [x])):=h;have s:Xo (w.grownBy w' (O a n n).ownBlock):=m;have r:Xo (∀g,(O d (n+1) f).ownBlock=Xa g->(O a n n).ownBlock=Xa g\/w.heap.size<=g):=i;clear h m i;go_wp2;go_ret;exact⟨d,f,rfl,v,s,r⟩
 have G:¬n=c:=fun e=>k e.symm;go_enter func141,ntmps141;go_wp2_with (at_builtin;refine QT (E:=jA) rfl (.tmp 23) (.tmp 24) rfl base _ l rfl u _ [x] rfl C.out ?qb p.out ?_)
 case qb=>
  show(l.length+1)*24<=_;have:=q.out;omega
 intro M w' h m i;obtain⟨d,f,rfl⟩:=h.form;have t:Xo ((l++ [x]).length=n+1):=dD<|by rw[lA,Yi,q.out]
 rw[t.out]at h i⊢;have v:Xo (zb jA base w' (O d (n+1) f) (l++ [x])):=h;have s:Xo (w.grownBy w' (O a n c).ownBlock):=m;have r:Xo (∀g,(O d (n+1) f).ownBlock=Xa g->(O a n c).ownBlock=Xa g\/w.heap.size<=g):=i;clear h m i;go_wp2;go_ret;exact⟨d,f,rfl,v,s,r⟩
theorem zjV {g d:Nat} {w:Xn} {k:TypeId} {cur a:Array Xq} (b:w.heap[d]? =Xa (Xk a k (0,0))) (l:w.heap[g]? =Xa (Xk cur 108 (0,0))) (f:d≠g) (m:cur.size≠0) (j i c lb h:Nat):
  (callFunc 170 #[O (Xa ⟨d,0,Xb⟩) j i,O (Xa ⟨g,c,Xb⟩) lb h]).run prog w= .ok (.value (Xh Xd)) w:=by
 rw[run_callFunc_extern func170 Kr Kr Kr (e:=Extern.SlicesOverlaps.overlaps #[38,38] #[4]) Kr,
  Lib.run_overlaps_apart w 38 4 108 underlying38 3 Tryz.sizeOf108 ⟨d,0,Xb⟩ ⟨g,c,Xb⟩ j i lb h f k 108 a.size cur.size (by simp[World.shape?,b]) (by simp[World.shape?,l]) m (by simp[World.frozen?,b]) (by simp[World.frozen?,b])]
 rfl
theorem zh1 {g i d B:Nat} {l:List Ca} (c:zb jA k w (O (Xa ⟨g,0,Xb⟩) b p) l) (L:b<=1000) (hi:i<b) (R:b+1<=p) (x:Ca) {ag:TypeId} (A:w.heap[d]? =Xa (Xk Y ag (0,0))) (a:d≠g)
  (a0:Zh w ⟨d,0,Xb⟩ (([x]:List Ca).flatMap jA.enc)):
  Xp prog 141 #[O (Xa ⟨g,0,Xb⟩) b p,I6 (i:Int),O (Xa ⟨d,0,Xb⟩) 1 B] w fun e w'=>e= Xl (O (Xa ⟨g,0,Xb⟩) (b+1) p)/\zb jA k w' (O (Xa ⟨g,0,Xb⟩) (b+1) p) (l.take i++([x]++l.drop i))/\w.grownBy w' (Xa g):=by
 obtain⟨I,_,t,base,a9,j,v,_⟩:=c.block;have Q:p<=9223372036854775807:=by simpa [maxLen]using base
 have h:Xo (b=l.length):=I;have u:∀q W K,(callFunc 170 #[O (Xa ⟨d,0,Xb⟩) 1 B,O (Xa ⟨g,q,Xb⟩) W K]).run prog w= .ok (.value (Xh Xd)) w:=fun q W K=>zjV A j a (by rw[v];show p*3≠0;omega) 1 B q W K;have a5:Xo (zb jA k w (O (Xa ⟨g,0,Xb⟩) b p) l):=c;have a6:Xo (Zh w ⟨d,0,Xb⟩ (([x]:List Ca).flatMap jA.enc)):=a0;have H:Xo (d<w.heap.size/\d≠g):=⟨(aS.1 A).1,a⟩;clear c a0 I t base j v A a;have U:¬((i:Int)=(b:Int)):=Wm;have V:¬((p:Int)< (b:Int)+1):=Wm;have aa:(i:Int)<=(b:Int):=Wm;have M:(i:Int)+1<=(b:Int)+1:=Wm;have N:¬(p=i+1):=Wm;have ab:(i:Int)<=(b:Int)+1:=Wm;have ac:¬(p=i):=Wm;have S:((i:Int)+1).toNat=i+1:=Wm;have T:((b:Int)+1).toNat=b+1:=Wm;have ad:(b:Int)+1<=(p:Int):=Wm;go_enter func141,ntmps141;go_wp2_with (simp only[u])
 have a:Nonempty (zk w):=⟨⟨_,zc.refl _⟩⟩;refine Zd 8 [] z3 Kr rfl rfl Dc Sm Sm ?_;simp only[Yp,Yq];iterate 8 refine zh ?_
 refine z7 fun w' P _=>?_;have F:=dD (a5.aA P);have a4:Xo (zc w w'):=P;obtain⟨a1,Z⟩:=kA (l.length - i);clear P a u;go_wp2_with (refine ze6 (E:=jA) rfl (.tmp 73) (.tmp 76) rfl k g p b l F i (Hm h.out) (Hm h.out) (by show(_+1)*24<=_;have:=h.out;omega) (b - i) (p -(i+1)) (b+1 - i) (p - i) _ _ rfl rfl rfl rfl a1 Z (by have:=h.out;have:=Z.out;show a1=min _ _;omega) ?_)
 intro X f r _;rw[<-h.out]at f;obtain⟨y,m⟩:=kA (l.take (i+1)++l.drop i);rw[m.out]at f;have D:Xo (y.length=b+1):=dD<|by rw[<-m.out,lA,Xs,Xy];have:=h.out;omega
 have a7:Xo (zb jA k X (O (Xa ⟨g,0,Xb⟩) (b+1) p) y):=f;have n:Xo (w.grownBy X (Xa g)):=show World.grownBy _ _ _ from zbE a4 r;have G:Xo (Zh X ⟨d,0,Xb⟩ (([x]:List Ca).flatMap jA.enc)):=dD<|fun af ah ae=>n.cell (a6 af ah ae) (fun e=>H.2 (by rw[Yk]at e;exact Option.some.inj e));clear f r S T M N U V;try simp only[Yb,sB,sS,sZ]
 go_wp2_with (refine Qt (E:=jA) rfl (.tmp 80) (.tmp 81) rfl k _ y a7 g rfl i (b+1 - i) (p - i) _ rfl rfl ⟨d,0,Xb⟩ 1 B rfl [x] (by show 1=min _ _;omega) G (by rw[D.out];show i+1<=_;omega) ?_)
 intro a2 z s _;have C:Xo (y.take i++([x]++y.drop (i+ [x].length))=l.take i++([x]++l.drop i)):=dD<|by
  rw[<-m.out,Yx (by rw[Xs];have:=h.out;omega),Oc,Xz Wm,Yi,List.drop_left' (by rw[Xs];have:=h.out;omega)]
 have a8:Xo (zb jA k a2 (O (Xa ⟨g,0,Xb⟩) (b+1) p) (l.take i++([x]++l.drop i))):=dD<|C.out ▸ z;have a3:Xo (w.grownBy a2 (Xa g)):=dD<|Zf n s;clear z s;go_wp2;go_ret;exact⟨rfl,a8,a3⟩
section
variable{α:Type} {E:Elt α}
theorem zdg {n cap:Nat} {l:List α} (r) (d:zb E k w (O (Xa ⟨p,0,Xb⟩) n cap) l) (i g:Nat) (hi:i<=l.length) (t:0<g) (base:cap<i+g) (m:(i+g)*E.bytes<=140737488355328):
  ∃C w',(Builtin.append_ #[E.st,3] r #[O (Xa ⟨p,0,Xb⟩) i cap,I6 (g:Int)]).run prog w= .ok (O (Xa ⟨w.heap.size,0,Xb⟩) (i+g) C) w'/\zb E w.heap.size w' (O (Xa ⟨w.heap.size,0,Xb⟩) (i+g) C) (l.take i++Xr g E.zero)/\zc w w'/\i+g<=C:=by
 obtain⟨q,a,j,e,f⟩:=info_parts E.aD;have b:(i+g)*1<=(i+g)*E.bytes:=Nat.mul_le_mul_left _ (nT E.pos E.few);have b:g*E.bytes<=(i+g)*E.bytes:=Xx _ Wm;have c:((l.take i).flatMap E.enc).length=i*E.k:=by rw[qD,Xs,Xz hi]
 have b:(Builtin.firstCells q.size i (O (Xa ⟨p,0,Xb⟩) i cap)).run prog w.drew= .ok ((l.take i).flatMap E.enc).toArray w.drew:=by
  rw[e];exact run_firstCells_some w.drew E.k i ⟨p,0,Xb⟩ i cap ((l.take i).flatMap E.enc) c (fun u v h=>by
   have s:(l.flatMap E.enc)[u]? =Xa v:=by
    conv=>lhs;rw[<-Ye i l,Xv]
    rw[List.getElem?_append_left (gS.1 h).1];exact h
   exact d.1.cells rfl _ v s)
 have h:=Lib.run_append_grow_zeros w E.st 3 r E.ty q E.zv .i64 .i64 E.bI underlying3 a j (Xa ⟨p,0,Xb⟩) i cap ((l.take i).flatMap E.enc) b g t (Rx e E.pos) base Wm (by rw[f];omega) (by rw[f];exact growslice_fits base m);have a:∀x,Builtin.zeroCells E.zv.cells x=madeCells E.zv.cells (x*E.k):=fun x=>by
  unfold Builtin.zeroCells madeCells;rw[ziO E]
 rw[a,a]at h;have b:=grownCap_ge w (i+g) cap E.ty;have a:=grownCap_le_maxLen w (i+g) cap E.ty (q9 Wm);obtain⟨G,d⟩:=kB (grownCap w (i+g) cap E.ty);rw[d]at h b a;have hlen:(l.take i++Xr g E.zero).length=i+g:=by rw[lA,Xs,Xz hi,lR]
 refine⟨G,_,h,?_,(show zc w _ from((bR _ _).drew)).trans (za _ _),b⟩
 have d:=zb.mk' (E:=E) (base:=w.heap.size) (g:=w.heap.size) (cap:=G) (l:=l.take i++Xr g E.zero) (w:=w.drew.alloc (Xk (((l.take i).flatMap E.enc).toArray++madeCells E.zv.cells (g*E.k)++madeCells E.zv.cells ((G -(i+g))*E.k)) E.ty)) (cur:=((l.take i).flatMap E.enc).toArray++madeCells E.zv.cells (g*E.k)++madeCells E.zv.cells ((G -(i+g))*E.k)) (nR _) (by
  show(w.heap.push _)[w.heap.size]? =_
  simp) (by rw[hlen];exact b) a (by
  rw[Oy,Oy,size_madeCells,size_madeCells,Yu,c,<-Yw,<-Yw];congr 1
  omega) (by
  rw[hlen,Ot,Ot,zdA E,zdA E,Xv];refine Yf ?_;rw[lA,c,qD,lR,<-Yw]) (by rw[hlen];exact m)
 rw[hlen]at d;exact d
theorem zbo (d:o.guard=Xb) (s x:Operand) (y:o.op= .call { callee:= .builtin .append,args:=#[s,x],argTypes:=#[E.st,3] })
  {base g n cap:Nat} {l:List α} (b:zb E base w (O (Xa ⟨g,0,Xb⟩) n cap) l) (i k:Nat) (z:a.eval s= O (Xa ⟨g,0,Xb⟩) i cap) (f:Int) (A:a.eval x=I6 f) (e:f=(k:Int)) (hi:i<=l.length) (v:0<k) (u:cap<i+k) (t:(i+k)*E.bytes<=140737488355328) (N:Nat) (r:i+k=N)
  (h:∀C w',zb E w.heap.size w' (O (Xa ⟨w.heap.size,0,Xb⟩) N C) (l.take i++Xr k E.zero)->zc w w'->N<=C->wpList prog ops Q K (a.put o.dst (O (Xa ⟨w.heap.size,0,Xb⟩) N C)) w'):wpList prog ops Q (o :: K) a w:=by subst r e;refine wpList_plain d fun rest q=>?_;obtain⟨C,w',c,j,m,p⟩:=zdg o.type b i k hi v u t;unfold Oper.wp execOp;simp only[y,resolve,invoke,builtin,Ob,Ox,rA,Oi,mP,Yt,z,A,c];exact q _ _ (h C w' j m p)
end
theorem zfd {g i z V:Nat} {l:List Ca} (a:zb jA k w (O (Xa ⟨g,0,Xb⟩) p p) l) (P:p<=1000) (hi:i<p) (x:Ca)
  (X:Zh w ⟨z,0,Xb⟩ (([x]:List Ca).flatMap jA.enc)):
  Xp prog 141 #[O (Xa ⟨g,0,Xb⟩) p p,I6 (i:Int),O (Xa ⟨z,0,Xb⟩) 1 V] w fun e w'=>∃(M:Nat) (U:Nat),e= Xl (O (Xa ⟨M,0,Xb⟩) (p+1) U)/\zb jA w.heap.size w' (O (Xa ⟨M,0,Xb⟩) (p+1) U) (l.take i++([x]++l.drop i))/\zc w w'/\w.heap.size<=M:=by
 have j:Xo (p=l.length):=a.at.n;have S:Xo (zb jA k w (O (Xa ⟨g,0,Xb⟩) p p) l):=a;have a3:Xo (Zh w ⟨z,0,Xb⟩ (([x]:List Ca).flatMap jA.enc)):=X;have y:g<w.heap.size:=(a.lt g rfl).2;have a2:Xo (g<w.heap.size):=y;clear a X y;have ak:¬((i:Int)=(p:Int)):=Wm;have al:(p:Int)< (p:Int)+1:=Wm;have ac:(i:Int)<=(p:Int):=Wm;obtain⟨b,q⟩:=kA w.heap.size;go_enter func141,ntmps141;go_wp2_with (at_builtin;refine zbo (E:=jA) rfl (.tmp 34) (.tmp 39) rfl S i (p+1 - i) rfl ((p:Int)+1 -(i:Int)) Gn Wm (Hm j.out) Wm Wm (by show(_)*24<=_;omega) (p+1) Wm ?_)
 intro C K c N W;rw[q.out]at c⊢;obtain⟨d,f⟩:=kA (l.take i++Xr (p+1 - i) jA.zero);rw[f.out]at c;have s:Xo (d.length=p+1):=dD<|by rw[<-f.out,lA,Xs,lR];have:=j.out;omega
 have a4:Xo (zb jA b K (O (Xa ⟨b,0,Xb⟩) (p+1) C) d):=c;have Z:Xo (zc w K):=N;have a1:Xo (p+1<=C):=W;have H:Xo (Zh K ⟨z,0,Xb⟩ (([x]:List Ca).flatMap jA.enc)):=show Zh _ _ _ from a3.aA N;clear c N;have ad:¬(C=i):=Wm;have ae:(i:Int)<=(p:Int)+1:=Wm;have af:(p:Int)+1<=(C:Int):=Wm;clear W;go_wp2_with (refine Qt (E:=jA) rfl (.tmp 43) (.tmp 44) rfl b _ d a4 b rfl i (p+1 - i) (C - i) _ rfl rfl ⟨z,0,Xb⟩ 1 V rfl [x] (by show 1=min _ _;omega) H (by rw[s.out];show i+1<=_;omega) ?_)
 intro L m u _;obtain⟨n,h⟩:=kA (d.take i++(x :: d.drop (i+1)));rw[h.out]at m;have t:Xo (n.length=p+1):=dD<|by rw[<-h.out,lA,Yj,Xs,Xy,s.out];omega
 have a5:Xo (zb jA b L (O (Xa ⟨b,0,Xb⟩) (p+1) C) n):=m;have R:Xo (zc w L):=show zc _ _ from zd Z u (Hm q.out);clear m u;have D:=dD (S.aA R);have ag:¬(C=i+1):=Hm a1.out;have ah:¬(p=i):=Wm;have ai:(i:Int)+1<=(p:Int)+1:=Wm;have aj:((i:Int)+1).toNat=i+1:=Wm;try simp only[Yb,sB,sS,sZ]
 go_wp2_with fail;have Q:Nonempty (zk L):=⟨⟨_,zc.refl _⟩⟩;refine Zd 8 [] z3 Kr rfl rfl Dc Sm Sm ?_;simp only[Yp,Yq];iterate 8 refine zh ?_
 refine z7 fun a8 A _=>?_;have a6:=dD (a5.aA A);have F:=dD (D.aA A);have I:Xo (zc w a8):=show zc _ _ from R.trans A;clear A Q;obtain⟨Y,G⟩:=kA (p - i);have r:Xo ((l.drop i).length=Y):=dD<|by rw[Xy,<-j.out,G.out]
 go_wp2_with (refine Qt (E:=jA) rfl (.tmp 50) (.tmp 53) rfl b _ n a6 b rfl (i+1) (p - i) (C -(i+1)) _ rfl rfl ⟨g,i*3,Xb⟩ (p - i) (p - i) rfl (l.drop i) (by rw[r.out];have:=G.out;show Y=min _ _;omega) (F.cC i (Hm j.out)) (by rw[t.out,r.out];have:=G.out;omega) ?_)
 intro T base v _;have B:Xo (n.take (i+1)++(l.drop i++n.drop (i+1+(l.length - i)))=l.take i++([x]++l.drop i)):=dD<|by
  have a9:n.drop (i+1+(l.length - i))=[]:=Ok (by rw[t.out];have:=j.out;omega);have aa:d.take i=l.take i:=by
   rw[<-f.out,Yx (by rw[Xs];have:=j.out;omega),Oc,Nat.min_self]
  have ab:n.take (i+1)=l.take i++ [x]:=by
   rw[<-h.out,aa,show l.take i++(x :: d.drop (i+1))=l.take i++([x]++d.drop (i+1))from rfl,<-Ys,Yf (by rw[lA,Xs,Yi];have:=j.out;omega)]
  rw[a9,ab,Yz,Ys]
 rw[B.out]at base;have a7:Xo (zb jA b T (O (Xa ⟨b,0,Xb⟩) (p+1) C) (l.take i++([x]++l.drop i))):=base;have a0:Xo (zc w T):=show zc _ _ from zd I v (Hm q.out);clear base v;go_wp2;go_ret;exact⟨b,C,rfl,Rx q.out a7,a0,Hm q.out⟩
theorem zlr {base n c:Nat} {a:Option Addr} {w:Xn} {l:List Ca} (b:zb jA base w (O a n c) l) (j:l.length<=1000) (i:Nat) (hi:i<=l.length) (x:Ca) (f u:Nat) (t:w.heap[f]? =Xa (Xk (jA.enc x).toArray 108 (0,0))) (y:(O a n c).ownBlock≠Xa f) (C:base<=w.heap.size):
  Xp prog 141 #[O a n c,I6 (i:Int),O (Xa ⟨f,0,Xb⟩) 1 u] w fun e w'=>∃(m:Option Addr) (h:Nat),e= Xl (O m (n+1) h)/\zb jA base w' (O m (n+1) h) (l.take i++([x]++l.drop i))/\w.grownBy w' (O a n c).ownBlock/\(∀g,(O m (n+1) h).ownBlock=Xa g->(O a n c).ownBlock=Xa g\/w.heap.size<=g):=by
 have L:n=l.length:=b.at.n;have A:Zh w ⟨f,0,Xb⟩ (([x]:List Ca).flatMap jA.enc):=fun N P F=>by
  rw[List.flatMap_cons,List.flatMap_nil,Yz]at F;rw[Yk,zA];have G:zt w f 108 (jA.enc x):=t;exact G.box.c N F
 by_cases K:i=n
 ·subst K;rw[L]at b⊢;refine(zgz b j x (Xa ⟨f,0,Xb⟩) u ⟨⟨Xa ⟨f,0,Xb⟩,u,rfl,fun e=>(by cases e),fun Q M=>(by cases M;exact A)⟩,by show 1*24<=_;omega⟩ C).mono ?_;rintro e w' ⟨m,h,p,q,d,v⟩;refine⟨m,h,p,?_,d,v⟩;rw[List.take_length,List.drop_length,Yz];exact q
 have s:i<n:=Wm;obtain⟨g,h,E⟩:=b.aG Wm;simp only[vJ]at E;obtain⟨rfl,_,rfl⟩:=E;have z:f≠g:=fun e=>y (Rr e);obtain⟨_,_,D,_⟩:=b.block;by_cases k:n+1<=c
 ·refine(zh1 b Wm s k x t z A).mono ?_
  rintro e w' ⟨p,q,d⟩;exact⟨_,_,p,q,d,fun B r=> .inl r⟩
 have H:c=n:=Wm;subst H;refine(zfd b Wm s x A).mono ?_;rintro e w' ⟨m,h,p,q,d,v⟩;exact⟨_,_,p,q.base C,⟨Below.os d,Below.tape d,Below.output d,bS d,fun B r _=>Below.block d B r⟩,fun B r=> .inr (by cases r;exact v)⟩
theorem zjF (cc:ChW w0 k w V m) (b9:Rt m) (pg:Pg) (fi ix:Nat) (a0:frW (frT pg (fi:Int) (ix:Int))=0) (ce:ix<100) (a5:Xq) (l:List (Nat × Nat)) (aw:zg4 JZ (Dw k V) w a5 l) (aq:∀x∈l,x.2<64/\∃s,m.sp[x.1]? =Xa s) (d2:l.length<=900)
  (d3:qL (ze m l).fs=0->∀A D,ChW w0 k A D (ze m l)->zg4 JZ (Dw k D) A a5 l->Xp prog 168 #[Xj (Xa ⟨k,0,Xb⟩),a5] A fun e w'=>e= Xl (Xh (Qw (ze m l) l).1)/\Chg w0 k A D (Qw (ze m l) l).2 w'):
  Xp prog 112 #[Xj (Xa ⟨k,0,Xb⟩),Xi #[U8 pg.b0,U8 pg.b1,U8 pg.b2,U8 pg.b3,U8 pg.b4,U8 pg.b5,U8 pg.b6,U8 pg.b7],I6 (fi:Int),I6 (ix:Int),a5] w fun e w'=>e= Xl (Xm #[I6 ((zak m pg (fi:Int) (ix:Int) l).2.1:Int),I6 (if(zak m pg (fi:Int) (ix:Int) l).1=Xc then 0 else 10)])/\Chg w0 k w V (zak m pg (fi:Int) (ix:Int) l).2.2 w':=by
 have cl:Xo (zg4 JZ (Dw k V) w a5 l):=aw;have eh:Xo (∀p,Dw k V p->p<w.heap.size):=cc.bK;have bm:=zaC (qO l b9 aq).1.rt l;have bg:Xo ((ze m l).sp.length=m.sp.length):=(qO l b9 aq).1.aX.aI;have dv:Xo (∀x∈l,x.2<64/\x.1<m.sp.length):=show∀x∈l,_ from fun x ax=>by
  obtain⟨c2,s,b⟩:=aq x ax;exact⟨c2,(gS.1 b).1⟩
 obtain⟨n,q,r,t,u,v,y,z⟩:=pg;simp only;have Y:Xo (∀b8,zc w b8->Xp prog 140 #[Xj (Xa ⟨k,0,Xb⟩),Xi #[U8 n,U8 q,U8 r,U8 t,U8 u,U8 v,U8 y,U8 z],I6 (fi:Int),I6 (ix:Int),a5] b8 fun e w'=>e= Xl (Xm #[I6 ((zbr m (frT ⟨n,q,r,t,u,v,y,z⟩ (fi:Int) (ix:Int)) l).2.1:Int),I6 (if(zbr m (frT ⟨n,q,r,t,u,v,y,z⟩ (fi:Int) (ix:Int)) l).1=Xc then 0 else 10)])/\Chg w0 k b8 V (zbr m (frT ⟨n,q,r,t,u,v,y,z⟩ (fi:Int) (ix:Int)) l).2.2 w'):=dD<|fun b8 d4=>zfJ (cc.aA d4) b9 ⟨n,q,r,t,u,v,y,z⟩ (fi:Int) (ix:Int) a0 a5 l (fun A C=>aw A ((qH.aA d4).trans C)) aq d3;have d:Xo (zak m ⟨n,q,r,t,u,v,y,z⟩ (fi:Int) (ix:Int) l=if(zV (ze m l) l).1=Xc then(Xc,ZM (zV (ze m l) l).2.fs,zw (ZG (zV (ze m l) l).2 (ZM (zV (ze m l) l).2.fs) ⟨n,q,r,t,u,v,y,z⟩ Xc Xd (fi:Int) (ix:Int)) (ZM (zV (ze m l) l).2.fs) l)else(Xd,0,(zV (ze m l) l).2)):=dD<|rfl;have i:Xo (zbr m (frT ⟨n,q,r,t,u,v,y,z⟩ (fi:Int) (ix:Int)) l=if(zV (ze m l) l).1=Xc then(Xc,ZM (zV (ze m l) l).2.fs,{(zV (ze m l) l).2 with fs:=(zV (ze m l) l).2.fs.set (ZM (zV (ze m l) l).2.fs) (frT ⟨n,q,r,t,u,v,y,z⟩ (fi:Int) (ix:Int)) })else(Xd,0,(zV (ze m l) l).2)):=dD<|rfl;obtain⟨ba,ds⟩:=kA (zak m ⟨n,q,r,t,u,v,y,z⟩ (fi:Int) (ix:Int) l);obtain⟨ei,dx⟩:=kA (zbr m (frT ⟨n,q,r,t,u,v,y,z⟩ (fi:Int) (ix:Int)) l);rw[ds.out]at d⊢;obtain⟨ek,S⟩:=kA (if ba.1=Xc then(0:Int)else 10);rw[S.out];rw[dx.out]at i Y;obtain⟨C,cy,-⟩:=bm;have X:Xo ((zV (ze m l) l).2.sp.length=m.sp.length):=dD<|by rw[C.aX.aI,bg.out]
 have B:Xo (Rt (zV (ze m l) l).2):=C.rt;have T:Xo ((zV (ze m l) l).1=Xc->0<qL (zV (ze m l) l).2.fs):=show _->_ from cy;obtain⟨en,eo,rfl,cg⟩:=(aw w (qH.refl _ _)).bP;have aj:=(aw w (qH.refl _ _)).short;have bh:Xo (frW (frT ⟨n,q,r,t,u,v,y,z⟩ (fi:Int) (ix:Int))=0):=a0;have bi:Xo ((0:Int)<=(ix:Int)/\(ix:Int)<100):=show _/\_ by omega
 clear C cy cc aw b9 aq d3 cg a0 ce;obtain⟨e7,bn⟩:=kA (zV (ze m l) l);rw[bn.out]at B T d i X;obtain⟨e9,R⟩:=e7;simp only at B T d i X;have bk:Xo (l.length<=900):=d2;clear d2;obtain⟨a6,F⟩:=kA l.length;rw[F.out]at cl Y aj⊢;obtain⟨b,ck⟩:=kA w.heap.size;obtain⟨cn,K⟩:=kB (w.alloc (Xk #[U8 n,U8 q,U8 r,U8 t,U8 u,U8 v,U8 y,U8 z] 44));have bb:=gA K;have e8:=xPT K ck;have bp:Xo (_=cn):=K;clear K;have g:=Y.out cn bb.out;go_enter func112,ntmps112;go_upto_region 1 with fail;rw[bp.out,ck.out];obtain⟨de,df,dg,dh,di,dj,dk,dl⟩:=e8.box.c8;cases e9 with
 | false=>
  rw[kF Dc]at d i;rw[i.out]at g;simp only[Ov,if_false]at g;go_wp2_with fail;refine g.mono ?_;clear g de df dg dh di dj dk dl;rintro e A ⟨rfl,C⟩;have br:Xo (Chg w0 k w V ba.2.2 A):=dD<|Rx d.out (Chg.aH bb C);clear C;go_wp2;go_ret2;exact⟨by rw[<-S.out,d.out];rfl,br⟩
 | true=>
  rw[kE rfl]at d i;obtain⟨ea,eb,el,c8,ec⟩:=zex (T rfl);obtain⟨c,bj⟩:=kA (ZM R.fs);rw[bj.out]at c8 i d;rw[i.out]at g;simp only[if_true]at g;obtain⟨h,U⟩:∃h:Ma,Xo (({ R with fs:=R.fs.set c (frT ⟨n,q,r,t,u,v,y,z⟩ (fi:Int) (ix:Int)) }:Ma)=h):=⟨_,rfl⟩;have G:Xo (h.ca=R.ca):=dD (by rw[<-U.out]);obtain⟨a,a9⟩:∃a:Ma,Xo (({ h with ca:=Z4 h.ca ⟨(fi:Int),(ix:Int),(c:Int)⟩ }:Ma)=a):=⟨_,rfl⟩;have f:ZG R c ⟨n,q,r,t,u,v,y,z⟩ Xc Xd (fi:Int) (ix:Int)=a:=by
   rw[<-a9.out,<-U.out];rfl
  rw[f]at d;rw[U.out]at g;have ap:=(gS.1 c8).1;have ao:a.fs[c]? =Xa (frT ⟨n,q,r,t,u,v,y,z⟩ (fi:Int) (ix:Int)):=by
   rw[<-f];exact sF ap
  have d8:ZW a.fs a.aB=0:=by
   rw[<-f];exact zjl B.parts.1 bh.out
  have Q:a.sp.length=m.sp.length:=by
   rw[<-f];exact X.out
  have av:∀s∈a.sp,QP s.tb:=fun s d6=>by
   rw[<-f]at d6;exact B.tb d6
  have du:Xo (∀j,j<=a6->∀x,l[j]? =Xa x->ZS (zw a c (l.take j)).fs (zw a c (l.take j)).aB (c:Int) 1=0/\zw a c (l.take (j+1))=zdk (zw a c (l.take j)) x.1 (x.2:Int) (c:Int)/\x.1< (zw a c (l.take j)).sp.length):=dD<|fun j cf x ax=>(zrx d8 ao (by show(0:Int)<1;omega) av (l:=l) (fun x ax=>by rw[Q];exact dv x ax) (by have:=bk.out;show(1:Int)+_<=1000;omega) j (Rx F.out cf)).2.2.2.2 x ax;obtain⟨ae,al,ah⟩:=B.cache;have E:Xo ((R.ca.Pairwise fun c2 b=>zY c2<zY b)/\(∀cr∈R.ca,0<=cr.idx/\cr.idx<100)/\R.ca.length<=1000):=dD<|⟨ae,al,ah⟩;clear ea eb c8 ec f ap ao d8 Q av ae al ah;go_wp2_with fail;refine g.mono ?_;clear g de df dg dh di dj dk dl;rintro e A ⟨rfl,C⟩;obtain⟨D,ch,d9,af⟩:=Chg.aH bb C;have dy:Xo (ChW w0 k A D h):=ch;have e4:Xo (qH (Dw k V) w A):=d9;have dn:Xo (∀p,Dw k D p->Dw k V p\/w.heap.size<=p):=af;have M:=zbI ch (Rx G.out E.1) (Rx G.out E.2.1) (Rx G.out E.2.2) (fi:Int) (ix:Int) bi.out;have W:Xo (zdi h.ca ⟨(fi:Int),(ix:Int),0⟩<=h.ca.length/\zdi h.ca ⟨(fi:Int),(ix:Int),0⟩=zdi h.ca ⟨(fi:Int),(ix:Int),(c:Int)⟩):=dD<|⟨(List.takeWhile_sublist _).length_le,rfl⟩;have bf:Xo (h.ca.length<=1000):=dD<|Rx G.out E.2.2
  obtain⟨bv,dw⟩:=kA (zdi h.ca ⟨(fi:Int),(ix:Int),0⟩);obtain⟨ef,dt⟩:=kA (zes h.ca ⟨(fi:Int),(ix:Int),0⟩);rw[dw.out]at W M;rw[dt.out]at M;clear C ch d9 af;go_wp2_with fail;refine M.mono ?_;clear M;rintro e a7 ⟨rfl,cb⟩;have aa:=dD (dy.aA cb);have dr:Xo (zc A a7):=cb;have eg:=aa.box.box.c 9 rfl;have am:=zlr (base:=w0.heap.size) (w:=a7.alloc (Xk #[I6 (fi:Int),I6 (ix:Int),I6 (c:Int)] 108)) (aa.ca.aA (za a7 (Xk #[I6 (fi:Int),I6 (ix:Int),I6 (c:Int)] 108))) bf bv W.1 ⟨(fi:Int),(ix:Int),(c:Int)⟩ a7.heap.size 1 (zt.aE a7 [I6 (fi:Int),I6 (ix:Int),I6 (c:Int)] _ rfl) (fun e=>by
   obtain⟨_,em⟩:=aa.ca.lt _ e
   omega) (by have:=bS aa.gr;simp;omega)
  clear cb;go_wp2_with (go_at_call 141;refine am.mono ?_)
  clear am eg;rintro e c1 ⟨ab,ac,rfl,N,H,L⟩;obtain⟨c0,I⟩:=kB (a7.alloc (Xk #[I6 (fi:Int),I6 (ix:Int),I6 (c:Int)] 108));rw[I]at H L;have Z:=gP I;have bq:=dD (aa.aA Z);have dm:Xo (zt c1 k 102 (chL D h)):=show zt _ _ _ _ from bq.box.aU (qH.row H) (fun e=>bq.nc k e rfl);have P:h.ca.take bv++([⟨(fi:Int),(ix:Int),(c:Int)⟩]++h.ca.drop bv)=Z4 h.ca ⟨(fi:Int),(ix:Int),(c:Int)⟩:=by
   rw[<-zry,<-W.2];rfl
  rw[P]at N;obtain⟨ay,bl⟩:=kA (D.ca.n+1);rw[bl.out]at N L⊢;have bu:Xo (zb jA w0.heap.size c1 (O ab ay ac) (Z4 h.ca ⟨(fi:Int),(ix:Int),(c:Int)⟩)):=N;have bd:Xo (qH (oB D.ca) c0 c1):=qH.row H;have be:Xo (∀c9,(O ab ay ac).ownBlock=Xa c9->oB D.ca c9\/c0.heap.size<=c9):=L;have bc:Xo (zc A c0):=show zc _ _ from dr.trans Z;clear I Z N H L P;go_wp2_with (refine Qk rfl 38 (.tmp 52) (.tmp 49) rfl k 9 rfl (O ab ay ac) rfl [O ab ay ac] rfl dm (by simp[chL]) Kr (by simp[Value.oneCell']) ?_)
  intro co cq ag _;have cd:=bq.cache (b:=⟨ab,ay,ac⟩) (l:=Z4 h.ca ⟨(fi:Int),(ix:Int),(c:Int)⟩) bd be bu ag cq;rw[a9.out]at cd;obtain⟨bw,cs,da,cv⟩:=Chg.step e4 dn (Chg.aH bc cd);have dz:Xo (ChW w0 k co bw a):=cs;have e5:Xo (qH (Dw k V) w co):=da;have dp:Xo (∀p,Dw k bw p->Dw k V p\/w.heap.size<=p):=cv;clear cq ag cd cs da cv;go_wp2;go_loopg [55] a6 (fun ed ci wr=>∃(j:Nat) (az:MaV),j<=a6/\a6 - j<=ed/\ci=I6 j/\Xo (ChW w0 k wr az (zw a c (l.take j)))/\Xo (qH (Dw k V) w wr)/\Xo (∀p,Dw k az p->Dw k V p\/w.heap.size<=p))
  exact⟨0,bw,nZ _,Wm,rfl,dz,e5,dp⟩;obtain⟨j,az,cf,ee,rfl,bs,bt,cj⟩:=hrel;by_cases a2:j<a6
  ·have ar:=kC a2
   obtain⟨x,cm⟩:∃x,Xo (l[j]? =Xa x):=⟨_,gE (Rx F.out a2)⟩;obtain⟨_,_,a3,au⟩:=(cl wr bt).bP;simp only[vJ]at a3;obtain⟨ej,ai,ak⟩:=au j x cm.out;rw[<-a3.1]at ai;subst ai;obtain⟨cu,af⟩:=ak wr (zc.refl _);obtain⟨c3,cx,c6⟩:=du.out j cf x cm.out;have a8:Xo (zw a c (l.take (j+1))=zdk (zw a c (l.take j)) x.1 (x.2:Int) (c:Int)):=cx;obtain⟨dc,dd⟩:=x;simp only at cu af c3 c6 a8;have a1:=zcR (bs.aA (za wr (Xk #[I6 (dc:Int),I6 (dd:Int)] 95))) dc c6 (dd:Int) (c:Int) c3;rw[<-a8.out]at a1;clear a3 au ak c3 cx c6;go_wp2_with fail;refine a1.mono ?_;clear a1 cu af;rintro e cp ⟨⟨ep,rfl⟩,cz⟩;obtain⟨bz,ct,db,cw⟩:=Chg.step bt cj (Chg.aH (za _ _) cz);have e0:Xo (ChW w0 k cp bz (zw a c (l.take (j+1)))):=ct;have e6:Xo (qH (Dw k V) w cp):=db;have dq:Xo (∀p,Dw k bz p->Dw k V p\/w.heap.size<=p):=cw;clear cz ct db cw;go_wp2;go_roundg (a6 -(j+1));exact⟨j+1,bz,Wm,Wm,Gn,e0,e6,dq⟩;omega
  have ar:=kD a2;have an:l.take j=l:=Yd (by rw[F.out];omega);rw[an]at bs;clear an;have br:Xo (Chg w0 k w V ba.2.2 wr):=dD (by rw[d.out];exact⟨az,bs,bt,cj⟩);go_wp2;go_ret2;exact⟨by rw[<-S.out,d.out];rfl,br⟩
theorem znb {t:Ca} {ca:List Ca} (h:zes ca t=Xd):ca.find? (fun c=>decide (zY c=zY t))=Xb:=by grind [Yn,zes,Xt.2]
theorem zhj (ai:ChW w0 k w V m) (aj:Rt m) (q n:Nat) (s:Sp) (al:m.sp[q]? =Xa s) (bj:n<64) (a:Ar) (fi ix:Nat) (a7:a.file=(fi:Int)) (ab:a.base+(n:Int) - a.fr=(ix:Int)) (a4:0<=a.base/\a.base<=100) (a5:0<=a.fr/\a.fr<=100) (r:ix<100) (pg:Pg) (ic wr:Bool)
  (a9:frW (frT pg (fi:Int) (ix:Int))=0)
  (bi:qL (ze m [(q,n)]).fs=0->∀(bm:Xq) g Z,ChW w0 k g Z (ze m [(q,n)])->zg4 JZ (Dw k Z) g bm [(q,n)]->Xp prog 168 #[Xj (Xa ⟨k,0,Xb⟩),bm] g fun e w'=>e= Xl (Xh (Qw (ze m [(q,n)]) [(q,n)]).1)/\Chg w0 k g Z (Qw (ze m [(q,n)]) [(q,n)]).2 w'):
  Xp prog 70 #[Xi #[Xj (Xa ⟨k,0,Xb⟩),I6 (q:Int),I6 (n:Int),I6 a.fr,I6 a.tz,Xh a.rd,Xh a.wr,Xh a.sh,I6 a.file,I6 a.base,U8 pg.b0,U8 pg.b1,U8 pg.b2,U8 pg.b3,U8 pg.b4,U8 pg.b5,U8 pg.b6,U8 pg.b7,Xh ic,Xh wr]] w fun e w'=>e= Xl (Xm #[I6 ((zcm m pg (fi:Int) (ix:Int) q n).2.1:Int),I6 (if(zcm m pg (fi:Int) (ix:Int) q n).1=Xc then 0 else 10)])/\Chg w0 k w V (zcm m pg (fi:Int) (ix:Int) q n).2.2 w':=by
 obtain⟨a1,_,_⟩:=zo.1 aj.inv.ca;obtain⟨H,aa,a3⟩:=aj.cache;have aq:Xo (∀W,zc w W->Xp prog 111 #[Xj (Xa ⟨k,0,Xb⟩),I6 (fi:Int),I6 (ix:Int)] W fun e w'=>((zes m.ca ⟨(fi:Int),(ix:Int),0⟩=Xd/\e= Xl (Xm #[I6 0,Xh Xd]))\/(zes m.ca ⟨(fi:Int),(ix:Int),0⟩=Xc/\∀c,m.ca[zdi m.ca ⟨(fi:Int),(ix:Int),0⟩]? =Xa c->e= Xl (Xm #[I6 c.fr,Xh Xc])))/\zc W w'):=dD<|fun W bu=>zin (ai.aA bu) H aa a3 (fi:Int) (ix:Int) Wm;have aw:Xo (∀W,Xp prog 107 #[Xi #[I6 a.fr,I6 a.tz,Xh a.rd,Xh a.wr,Xh a.sh,I6 a.file,I6 a.base],I6 (n:Int)] W fun e w'=>e= Xl (I6 (ix:Int))/\zc W w'):=dD<|fun W=>by
  rw[<-ab];exact J9 a (n:Int) W a4 a5 Wm
 have ag:Xo (ChW w0 k w V m):=ai;have ah:Xo (Rt m):=aj;have X:Xo (m.sp[q]? =Xa s):=al;have bg:Xo (n<64):=bj;have bo:Xo (∀am,Dw k V am->am<w.heap.size):=ai.bK;have T:Xo (frW (frT pg (fi:Int) (ix:Int))=0):=a9;have av:=show Xo _ from bi;have au:Xo (m.ca.Pairwise fun a bh=>zY a<zY bh):=H;have ar:Xo (∀c∈m.ca,caE m Xb c=0):=a1;have Q:Xo (ix<100):=r;have S:Xo (a.file=(fi:Int)):=a7;obtain⟨y,z,A,B,C,D,E,F⟩:=pg;simp only;obtain⟨af,v⟩:=kA (zcm m ⟨y,z,A,B,C,D,E,F⟩ (fi:Int) (ix:Int) q n);rw[v.out];obtain⟨c4,f⟩:=kA (if af.1=Xc then(0:Int)else 10);rw[f.out];obtain⟨bh,bf⟩:=kA w.heap.size;obtain⟨g,i⟩:=kB (w.alloc (Xk #[Xj (Xa ⟨k,0,Xb⟩),I6 (q:Int),I6 (n:Int),I6 a.fr,I6 a.tz,Xh a.rd,Xh a.wr,Xh a.sh,I6 a.file,I6 a.base,U8 y,U8 z,U8 A,U8 B,U8 C,U8 D,U8 E,U8 F,Xh ic,Xh wr] 97));have bn:=gA i;have h:=xPT i bf;have az:Xo (_=g):=i;have t:=aw.out g;clear i ai aj al bj a9 bi a1 H aa a3 r a7 ab a4 a5;go_enter func70,ntmps70;go_upto_region 1 with fail;rw[az.out,bf.out];obtain⟨_,_,u2,u3,u4,u5,u6,u7,u8,u9⟩:=h.box.k10;go_wp2_with fail;refine t.mono ?_;clear t u2 u3 u4 u5 u6 u7 u8 u9;rintro e bq ⟨rfl,ba⟩;have be:=dD (bn.trans ba);have b9:=dD (h.aA ba);have u0:=b9.box.c 0 rfl;have u8:=b9.box.c 8 rfl;rw[S.out]at u8;have a6:=aq.out bq be.out;clear ba;go_wp2_with fail;refine a6.mono ?_;clear a6 u0 u8;rintro e I ⟨K,bb⟩;have P:=dD (be.trans bb);have d:=dD (b9.aA bb);clear bb;rcases K with⟨N,rfl⟩|⟨N,ak⟩
 ·have a8:m.ca.find? (fun c=>decide (zY c=zY ⟨(fi:Int),(ix:Int),0⟩))=Xb:=znb N
  have b:Xo (zcm m ⟨y,z,A,B,C,D,E,F⟩ (fi:Int) (ix:Int) q n=zak m ⟨y,z,A,B,C,D,E,F⟩ (fi:Int) (ix:Int) [(q,n)]):=dD<|by
   unfold zcm;rw[a8]
  have p:=zjF (ag.aA (P.trans (za I (Xk #[I6 (q:Int),I6 (n:Int)] 95)))) ah ⟨y,z,A,B,C,D,E,F⟩ fi ix T Q (O (Xa ⟨I.heap.size,0,Xb⟩) 1 1) [(q,n)] (jD.aY (base:=I.heap.size) ⟨Zw JZ I (q,n) _ _ rfl Dc,fun c2 n c e=>by cases e;exact nR _⟩ (fun am u=>Yh (bo am u) (bS P))) (fun c2 bz=>by rw[Xw.1 bz];exact⟨bg,s,X⟩) (by show 1<=900;omega) (fun bt g Z ak bx=>av.out bt _ g Z ak bx);obtain⟨c3,R⟩:=kA (zak m ⟨y,z,A,B,C,D,E,F⟩ (fi:Int) (ix:Int) [(q,n)]);rw[R.out]at p;rw[R.out,v.out]at b;rw[<-b.out,f.out]at p;have an:Xo (zc w (I.alloc (Xk #[I6 (q:Int),I6 (n:Int)] 95))):=dD<|P.trans (za _ _);obtain⟨u0,u1,u2⟩:=d.box.c3;have u8:=d.box.c 8 rfl;rw[S.out]at u8;have u10:=d.box.c 10 rfl;have u11:=d.box.c 11 rfl;have u12:=d.box.c 12 rfl;have u13:=d.box.c 13 rfl;have u14:=d.box.c 14 rfl;have u15:=d.box.c 15 rfl;have u16:=d.box.c 16 rfl;have u17:=d.box.c 17 rfl;clear N a8;go_wp2_with fail;refine p.mono ?_;clear p u0 u1 u2 u8 u10 u11 u12 u13 u14 u15 u16 u17;rintro e b8 ⟨rfl,a2⟩;have Y:Xo (Chg w0 k w V af.2.2 b8):=dD<|Chg.aH an a2;clear a2;go_wp2;go_ret2;exact⟨rfl,Y⟩
 have ae:=zjh N;obtain⟨c,ap⟩:∃c,Xo (m.ca[zdi m.ca ⟨(fi:Int),(ix:Int),0⟩]? =Xa c):=⟨_,gE ae⟩;have bv:=ak c ap.out;subst bv;obtain⟨a0,G,_⟩:=Zo (ar c (mG ap));obtain⟨l,U⟩:∃l:Nat,Xo (c.fr=(l:Int)):=⟨c.fr.toNat,show _=_ by omega⟩;have b:Xo (zcm m ⟨y,z,A,B,C,D,E,F⟩ (fi:Int) (ix:Int) q n=(Xc,l,if(JD m q (n:Int)).kind=0 then Zv m l q n else m)):=dD<|by
  unfold zcm;rw[zkA au.out N,ap.out];simp only;rw[U.out,tN]
 rw[v.out]at b;have x:Xo (q<m.sp.length):=(gS.1 X).1;rw[U.out]at a0 G⊢;have ad:l<m.fs.length:=Wm;have j:=gE ad;rw[zK j]at G;obtain⟨c0,c1⟩:=ah.refs j;obtain⟨bk,bl,-⟩:=zm5 ah.parts.1 j Wm Wm (fun s al=>ah.tb al) x bg.out;have ax:Xo (ZS m.fs m.aB (l:Int) 1=0):=bk;have ay:Xo (zdk m q (n:Int) (l:Int)=Zv m l q n):=bl;clear ae ak a0 G ad j c0 c1 bk bl N;have L:=Jb (ag.aA P) q x (n:Int);obtain⟨M,bp⟩:=kA (JD m q (n:Int));rw[bp.out]at L b;obtain⟨u0,u1,u2⟩:=d.box.c3;go_wp2_with fail;refine L.mono ?_;clear L u0 u1 u2;rintro c5 br ⟨rfl,bc⟩;have ao:=dD (P.trans bc);have bs:=dD (d.aA bc);unfold enV;clear bc;have bw:=zpt M.kind M.n M.wr;by_cases u:M.kind=0
 ·have bd:(M.kind == 0)=Xc:=Rr u
  have ac:=zcR (ag.aA ao) q x (n:Int) (l:Int) ax.out;obtain⟨u0,u1,u2⟩:=bs.box.c3;rw[kE u]at b;clear u;go_wp2_with fail;refine ac.mono ?_;clear ac u0 u1 u2;rintro e b8 ⟨⟨c6,rfl⟩,a2⟩;have Y:Xo (Chg w0 k w V af.2.2 b8):=dD (by rw[b.out,<-ay.out];exact Chg.aH ao a2);clear a2;go_wp2;go_ret2;exact⟨by rw[<-f.out,b.out];rfl,Y⟩
 have bd:(M.kind == 0)=Xd:=Si u;rw[kF u]at b;clear u;have Y:Xo (Chg w0 k w V af.2.2 br):=dD<|Rx b.out (Chg.refl ag ao.out);go_wp2;go_ret2;exact⟨by rw[<-f.out,b.out];rfl,Y⟩
theorem zmK {a b:Pg} (h:pgL a=pgL b):a=b:=by cases a;cases b;simpa [pgL]using h
def ZI (m:Ma) (q i:Nat) (a:Ar) (pg:Pg) (_:Bool):Bool × Nat × Ma:=zcm m pg a.file (a.base+(i:Int) - a.fr) q i
structure zcX (wr:Bool) (m:Ma) (q n:Nat) (x:On) (pg:Pg) (ic:Bool) (k:Nat) (mB:Ma):Prop where
 rt:Rt mB
 aX:Sam (fun p j=>p=q/\j=n) m mB
 fsl:mB.fs.length=m.fs.length
 into:∃(s':Sp) (fr:Fr) (w:Bool),mB.sp[q]? =Xa s'/\mB.fs[k]? =Xa fr/\zf s' n=⟨1,(k:Int),w⟩/\fr.p=pg/\(wr=Xc->(fr.f=-1/\fr.r<=1)\/x.sh=Xc)/\(wr=Xd->0<=x.file->decide (fr.f<0)=ic)
section
variable{m:Ma} {q n:Nat} {s:Sp} {a:Ar} {pg:Pg} {ic wr:Bool}
theorem zkG (r:Rt m) (K:m.sp[q]? =Xa s) (c:(q,n)∈d) (hd:d.Nodup) (u:∀x∈d,x.2<64/\∃s,m.sp[x.1]? =Xa s/\(zl s.aC x.2).is=Xc/\(zl s.aC x.2).sh=Xd)
  (L:∀(p j:Nat) s,m.sp[p]? =Xa s->j<64->(p,j)∈d->¬(p=q/\j=n)->(zl s.aC j).is=Xc/\ZP m (zl s.aC j) (zf s j)=(pgL pg,Xc,0)) (M:wr=Xc->d.length=1) (H:wr=Xd->0<=(zl s.aC n).file->ic=Xc) (P:(ZK m pg d).1=Xc):
  zcX wr m q n (zl s.aC n) pg ic (ZK m pg d).2.1 (ZK m pg d).2.2:=by
 have i:=(qO d r (fun x l=>by obtain⟨w,t,y,_⟩:=u x l;exact⟨w,t,y⟩)).1;obtain⟨k,G,-⟩:=zaC i.rt d;have a:(zV (ze m d) d).1=Xc:=by grind [ZK]
 obtain⟨_,_,N,E,F⟩:=zex (G a);have b:d≠[]:=fun e=>by rw[e]at c;cases c
 obtain⟨z,f,g,h⟩:=zrI r b hd u k E F pg Xc;have D:ZK m pg d=(Xc,ZM (zV (ze m d) d).2.fs,zbJ (zV (ze m d) d).2 (ZM (zV (ze m d) d).2.fs) pg Xc d):=by grind [ZK]
 rw[D];have A:=zlY f g h (fun p j=>p=q/\j=n) L;have:∃t,(zbJ (zV (ze m d) d).2 (ZM (zV (ze m d) d).2.fs) pg Xc d).sp[q]? =Xa t:=⟨_,gE (by rw[f.aI];exact(gS.1 K).1)⟩;obtain⟨t,v⟩:=this;exact⟨z,A,by show((zV (ze m d) d).2.fs.set _ _).length=_;rw[Xu,k.fsl,i.fsl],t,_,Xd,v,g,h (q,n) c t v,rfl,fun e=> .inl ⟨rfl,by show(d.length:Int)<=1;rw[M e];exact Int.le_refl _⟩,fun B C=>by rw[H B C];rfl⟩
theorem zcq (h:Rt m) (c:m.sp[q]? =Xa s) (e:n<64) (i:(zl s.aC n).is=Xc) (a:(zl s.aC n).sh=Xd) (g:wr=Xd->0<=(zl s.aC n).file->ic=Xc) (d:(ZK m pg [(q,n)]).1=Xc):zcX wr m q n (zl s.aC n) pg ic (ZK m pg [(q,n)]).2.1 (ZK m pg [(q,n)]).2.2:=
 zkG h c (Xw.2 rfl) Sm (fun x b=>by rw[Xw.1 b];exact⟨e,s,c,i,a⟩) (fun p k _ _ _ j f=>by grind) (fun _=>rfl) g d
theorem zo9 {c:Ca} (a:0<=c.idx/\c.idx<100) (b:0<=H/\H<100) (h:zY c=zY ⟨z,H,0⟩):c.file=z/\c.idx=H:=by grind [zY]
theorem zkK (h:Rt m) (i:m.sp[q]? =Xa s) (E:n<64) (b6:jU a) (c6:a.fr<=(n:Int)/\(n:Int)<a.tz) (F:zl s.aC n=z5 a n) (b:ZP m (zl s.aC n) (zf s n)=(pgL pg,ic,0)) (p:(jG m (ZI m q n a pg wr) pg a ic wr q n).1=Xc):
  zcX wr m q n (zl s.aC n) pg ic (jG m (ZI m q n a pg wr) pg a ic wr q n).2.1 (jG m (ZI m q n a pg wr) pg a ic wr q n).2.2:=by
 have d:JD m q (n:Int)=zf s n:=by unfold JD;rw[Sp.aK i,JM E]
 have U:(zl s.aC n).is=Xc:=Rr F;have c:(zl s.aC n).file=a.file:=Rr F;have v:(zl s.aC n).sh=a.sh:=Rr F;obtain⟨g,bo⟩:=kB (a.base+(n:Int) - a.fr);have P:0<=a.file->(zl s.aC n).page=g:=fun e=>by
  rw[F];show(if 0<=a.file then _ else _)=_;grind
 unfold jU at b6;have G:0<=a.file->0<=g/\g<100:=fun e=>Wm;have b9:a.file<0->(zl s.aC n).sh=Xd:=fun e=>by rw[v];exact(b6.2.2.2.2.2.2.1 e).2
 obtain⟨a2,al,-⟩:=h.cache;have ao:Rt m->∀(w:Nat) (fr:Fr) (av:Bool),m.fs[w]? =Xa fr->zf s n=⟨1,(w:Int),av⟩->fr.p=pg->(wr=Xc->(fr.f=-1/\fr.r<=1)\/(zl s.aC n).sh=Xc)->(wr=Xd->0<=(zl s.aC n).file->decide (fr.f<0)=ic)->zcX wr m q n (zl s.aC n) pg ic w m:=fun h w fr av y L ae bh bi=>⟨h,Sam.refl _ m,rfl,s,fr,av,i,y,L,ae,bh,bi⟩;rcases h.aM i E with b0|a4
 ·
  rw[b0]at b d;by_cases b8:a.file<0
  ·have C:ic=Xd:=by
    unfold ZP at b;rw[kF (by rw[U];decide),kF Dc,kF Dc,kE (Rx c b8)]at b;grind
   have e:jG m (ZI m q n a pg wr) pg a ic wr q n=ZK m pg [(q,n)]:=by
    unfold jG ZO;rw[kF (by rintro⟨⟨e,_⟩,_⟩;omega),d,kF (by rintro⟨e,_⟩;cases e),kF (by rintro⟨e,_⟩;cases e)]
   grind [zcq]
  have N:0<=a.file:=Wm;obtain⟨a6,a7⟩:=G N;have Q:=P N;have bt:g<bkN m a.file/\ic=Xd/\pgL pg=zU m a.file g:=by
   unfold ZP at b;rw[kF (by rw[U];decide),kF Dc,kF Dc,kF (Rx c b8),c,Q]at b;grind
  obtain⟨a0,rfl,au⟩:=bt;by_cases ar:a.sh=Xc\/wr=Xd
  ·have e:jG m (ZI m q n a pg wr) pg a Xd wr q n=zcm m pg a.file g q n:=by grind [jG,ZI]
   rw[e]at p⊢;unfold zcm at p⊢;cases f:m.ca.find? fun j=>decide (zY j=zY ⟨a.file,g,0⟩)with
   | some j=>
    have A:=Od f;have a5:zY j=zY ⟨a.file,g,0⟩:=by
     have:=List.find?_some f;simpa using this
    obtain⟨W,I⟩:=zo9 (al j A) ⟨a6,a7⟩ a5;obtain⟨w,fr,af,X,Y,Z,bk,bl⟩:=zjN h A;simp only;rw[d,kE (show en0.kind=0 from rfl),af,tN];obtain⟨bu,bb⟩:=zhZ h X (by rw[Z,W];exact N) i E b0 U (by rw[Z,W,c]) (by rw[bk,I,Q]);have:∃x,(Zv m w q n).sp[q]? =Xa x:=⟨_,gE (by rw[bb.aI];exact(gS.1 i).1)⟩;obtain⟨x,S⟩:=this;have bn:=zc7 h.inv (gS.1 X).1 Xd;refine⟨bu,bb,by show(m.fs.set _ _).length=_;rw[Xu],x,_,Xd,S,zgv X q n,(zaF (m1:={ m with fs:=m.fs.set w { zX m (w:Int)with r:=(zX m (w:Int)).r+1 } }) (fun s i=>h.tb i) i E bn S).1,?_,fun T=>?_,fun _ _=>?_⟩
    ·apply zmK
     rw[au,<-bl,W,I]
    ·rcases ar with e|e
     ·exact .inr (Rx v e)
     rw[T]at e;cases e
    exact decide_eq_false (by show¬fr.f<0;rw[Z,W];omega)
   | none=>
    rw[f]at p;simp only at p⊢;have bq:∀a9∈[(q,n)],a9.2<64/\∃s,m.sp[a9.1]? =Xa s:=fun a9 V=>(by rw[Xw.1 V];exact⟨E,s,i⟩);have a3:=(qO [(q,n)] h bq).1;obtain⟨az,ag,-⟩:=zaC a3.rt [(q,n)];have H:(zV (ze m [(q,n)]) [(q,n)]).1=Xc:=by
     unfold zak at p;split at p
     ·assumption
     cases p
    obtain⟨_,_,fr,Y,Z⟩:=zex (ag H);have bj:zak m pg a.file g [(q,n)]=(Xc,ZM (zV (ze m [(q,n)]) [(q,n)]).2.fs,Zv (ZG (zV (ze m [(q,n)]) [(q,n)]).2 (ZM (zV (ze m [(q,n)]) [(q,n)]).2.fs) pg Xc Xd a.file g) (ZM (zV (ze m [(q,n)]) [(q,n)]).2.fs) q n):=by
     unfold zak;rw[kE H];rfl
    rw[bj];obtain⟨M,u⟩:∃M:Nat,a.file=(M:Int):=⟨a.file.toNat,Wm⟩;obtain⟨ad,D⟩:∃ad:Nat,g=(ad:Int):=⟨g.toNat,Wm⟩;have ak:M<m.fl.length:=by
     by_cases e:M<m.fl.length;·exact e
     exfalso;rw[u]at a0;unfold bkN at a0;rw[tN,gD,gN Wm]at a0;simp at a0;omega
    have aq:Unc m (M:Int) (ad:Int):=fun j bm ⟨y,L⟩=>by
     have:=Yn.1 f j bm;apply this;rw[decide_eq_true_eq];unfold zY;rw[y,L,u,D]
    rw[u,D]at a0 au;obtain⟨bv,bf,bw,bx⟩:=zqN h i E U (by rw[c,u]) (by rw[Q,D]) ak a0 aq (m2:=(zV (ze m [(q,n)]) [(q,n)]).2) (az.mono fun be ba e=>by
     have e:=Xw.1 e;cases e;exact⟨rfl,rfl⟩) Y Z au Xc Xd
    rw[u,D];have:∃x,(Zv (ZG (zV (ze m [(q,n)]) [(q,n)]).2 (ZM (zV (ze m [(q,n)]) [(q,n)]).2.fs) pg Xc Xd (M:Int) (ad:Int)) (ZM (zV (ze m [(q,n)]) [(q,n)]).2.fs) q n).sp[q]? =Xa x:=⟨_,gE (by rw[bf.aI];exact(gS.1 i).1)⟩;obtain⟨x,S⟩:=this;refine⟨bv,bf,by show(((zV (ze m [(q,n)]) [(q,n)]).2.fs.set _ _).set _ _).length=_;rw[Xu,Xu,az.fsl,a3.fsl],x,_,Xd,S,bw,bx x S,rfl,fun T=>?_,fun _ _=>?_⟩
    ·rcases ar with e|e
     ·exact .inr (Rx v e)
     rw[T]at e;cases e
    exact decide_eq_false (by show¬(M:Int)<0;omega)
  grind [jG,ZI,ZK,ZO,zcq]
 obtain⟨z,t⟩:=kB (zf s n);rw[t]at b d a4;by_cases I:z.kind=2
 ·
  have C:ic=Xc:=by grind [ZP]
  subst C;have ap:(zl s.aC n).sh=Xd:=by
   have ae:=a4.2.2;grind [zal,zl]
  cases wr with
  | true=>
   have e:jG m (ZI m q n a pg Xc) pg a Xc Xc q n=ZK m pg [(q,n)]:=by
    unfold jG ZO;rw[kF (by rintro⟨⟨_,e⟩,_⟩;cases e),d,kF (by rintro⟨e,_⟩;omega),kF (by rintro⟨_,e⟩;cases e)]
   rw[e]at p⊢;exact zcq h i E U ap (fun y _=>by cases y) p
  | false=>
   have e:jG m (ZI m q n a pg Xd) pg a Xc Xd q n=ZK m pg (jK m 2 z.n m.sp.length):=by
    unfold jG ZO;rw[kF (by rintro⟨⟨_,e⟩,_⟩;cases e),d,kF (by rintro⟨e,_⟩;omega),kE ⟨I,rfl⟩]
   rw[e]at p⊢;have a8:=zaM h (k:=z.n);have an:qN m.sb m.sq z.n=pgL pg:=by
    unfold ZP at b;rw[kF (by rw[U];decide),kF Wm,kE I]at b;simp only[pJ]at b;exact b.1
   refine zkG h i (by have:=zku i E (Rx t I);rw[t]at this;exact this) (zet m 2 z.n m.sp.length) (fun a9 V=>?_) (fun be ba x S c5 br _=>?_) (fun e=>by cases e) (fun _ _=>rfl) p;·obtain⟨a1,x,l,K,bg,_⟩:=a8 a9 V;exact⟨a1,x,l,K,bg⟩
   obtain⟨_,c7,l,K,_,aw⟩:=a8 (be,ba) br;simp only at l K aw;rw[S]at l;cases l;exact⟨K,by rw[aw,an]⟩
 
 have W:z.kind=1:=by
  have y:=a4.1;have L:=a4.2.1;have:=(jV y).1;omega
 obtain⟨w,fr,af,X,Y,Z⟩:=h.aQ i E (Rx t W);rw[t]at af Y;have R:fr.p=pg/\decide (fr.f<0)=ic:=by
  unfold ZP at b;rw[kF (by rw[U];decide),kE W,Y]at b;simp only[pJ]at b;exact⟨zmK b.1,b.2.1⟩
 obtain⟨c0,ag⟩:=R;have b7:z=⟨1,(w:Int),z.wr⟩:=by
  obtain⟨c8,c9,ca⟩:=z;grind
 have bp:=(gS.1 X).1;have aj:(fr.f=-1/\(zl s.aC n).sh=Xd)\/(0<=a.file/\fr.f=a.file/\fr.x=g):=by
  have ae:=a4.2.2;grind [zal,zl]
 have bs:zX m z.n=fr:=Y;rcases aj with⟨a1,l⟩|⟨a1,l,K⟩;·grind [jG,ZI,ZO,tN,ZK,zcq]
 have C:ic=Xd:=by rw[<-ag,l];exact decide_eq_false Wm
 subst C;obtain⟨a6,a7⟩:=G a1;by_cases ar:a.sh=Xc\/wr=Xd
 ·obtain⟨ab,j,aa,bz,ax,ay⟩:=zeT h X (Rx l a1)
  have A:=mG aa;have f:m.ca.find? (fun j=>decide (zY j=zY ⟨a.file,g,0⟩))=Xa j:=by
   cases f:m.ca.find? fun j=>decide (zY j=zY ⟨a.file,g,0⟩)with
   | none=>
    exfalso;have:=Yn.1 f j A;apply this;rw[decide_eq_true_eq];unfold zY;rw[ax,ay,l,K]
   | some a3=>
    have ai:=Od f;have ah:zY a3=zY ⟨a.file,g,0⟩:=by
     have:=List.find?_some f;simpa using this
    have a5:zY j=zY a3:=by
     rw[ah];unfold zY;rw[ax,ay,l,K]
    obtain⟨ac,B⟩:=Yc ai;have am:ab=ac:=by
     have bc:=(gS.1 aa).1;have bd:=(gS.1 B).1;have y:=(gS.1 aa).2;have L:=(gS.1 B).2;rcases Nat.lt_trichotomy ab ac with e|e|e;·have:=Ya.1 a2 ab ac bc bd e;rw[y,L]at this;omega
     ·exact e
     have:=Ya.1 a2 ac ab bd bc e;rw[y,L]at this;omega
    subst am;rw[aa]at B;exact B.symm
  grind [jG,ZI,zcm,tN]
 grind [jG,ZI,ZK,ZO,zcq]
theorem znP (h:Rt m) (a:m.sp[q]? =Xa s) (g:n<64):qL m.fs<=qL (JS m q n).fs:=by
 have f:m.sp.getD q ⟨Xd,[],[]⟩=s:=by rw[gD,a];rfl
 unfold JS;simp only[f];split
 ·rename_i e
  obtain⟨k,d,b,c,i,j⟩:=h.aQ a g e;show qL m.fs<=qL (m.fs.set _ _);rw[b,tN];have l:qL (m.fs.set k (Jy (zX m (k:Int))))+(decide (d.r=0)).toNat=qL m.fs+(decide ((Jy (zX m (k:Int))).r=0)).toNat:=zir _ c;grind
 split <;> exact nR _
theorem zc9:∀(l:List (Nat × Nat)) {m:Ma},Rt m->(∀x∈l,x.2<64/\∃s,m.sp[x.1]? =Xa s)->qL m.fs<=qL (ze m l).fs
 | [],_,_,_=>nR _
 | x :: l,m,h,a=>by
  obtain⟨b,s,c⟩:=a x (Ou ..);have g:=(zeH h c b).1;exact nT (znP h c b) (zc9 l g.rt fun y f=>by
   obtain⟨d,t,e⟩:=a y (Om _ f);exact⟨d,_,gE (by rw[g.aX.aI];exact(gS.1 e).1)⟩)
theorem zhv (h:Rt m) (b:∀x∈d,x.2<64/\∃s,m.sp[x.1]? =Xa s) (a:0<qL m.fs):(zV (ze m d) d).1=Xc:=by grind [zc9,zV]
theorem zl5 (h:Rt m) (e:m.sp[q]? =Xa s) (d:n<64) (g:0<qL m.fs):(jG m (ZI m q n a pg wr) pg a ic wr q n).1=Xc:=by
 have c:∀l:List (Nat × Nat),(∀x∈l,x.2<64/\∃s,m.sp[x.1]? =Xa s)->(ZK m pg l).1=Xc:=fun l i=>by grind [ZK,zhv]
 have f:∀x∈[(q,n)],x.2<64/\∃s,m.sp[x.1]? =Xa s:=fun x b=>by rw[Xw.1 b];exact⟨d,s,e⟩
 unfold jG;split;·grind [ZI,zcm,zak,zhv]
 unfold ZO;split;·rfl
 split;·exact c _ fun x b=>by grind [zaM]
 grind
end
theorem zoZ {q:Nat} {w:Bool} (ht:∀s∈m.sp,QP s.tb) (e:m.fs[q]? =Xa X) (a:m.fs.length<=40) (i:m.sp[k]? =Xa s) (g:p<64) (c:zf s p=⟨1,(q:Int),w⟩) (l:Bool):
  Jv m k p q X Xd l={ m with fs:=m.fs.set q { X with u:=true } }/\
  Jv m k p q X Xc Xd=Zl { m with fs:=m.fs.set q { X with u:=true } } k (p:Int) { JD { m with fs:=m.fs.set q { X with u:=true } } k (p:Int)with wr:=true }/\
  Jv m k p q X Xc Xc={ Zl { m with fs:=m.fs.set q { X with u:=true } } k (p:Int) { JD { m with fs:=m.fs.set q { X with u:=true } } k (p:Int)with wr:=true }with fs:=(Zl { m with fs:=m.fs.set q { X with u:=true } } k (p:Int) { JD { m with fs:=m.fs.set q { X with u:=true } } k (p:Int)with wr:=true }).fs.set q { X with u:=true,d:=true } }:=by
 have f:=(gS.1 e).1;have b:JD { m with fs:=m.fs.set q { X with u:=true } } k (p:Int)=⟨1,(q:Int),w⟩:=by grind [JD,zfe,Sp.aK,JM]
 have j:enW ⟨1,(q:Int),Xc⟩=0:=JQ ⟨by simp only;omega,by simp only;omega⟩ ⟨by simp only;omega,by simp only;omega,fun _=>by simp only;omega⟩ Sm;have h:=JO (m:={ m with fs:=m.fs.set q { X with u:=true } }) ht (p:=k) (n:=p) (gS.1 i).1 g j;rw[b];simp only;rw[h];refine⟨rfl,?_,?_⟩
 ·unfold Jv
  grind
 unfold Jv zai;rw[kE rfl,Bool.or_true];simp only[List.set_set]
theorem ziY {w0 w:Xn} {p:Nat} {V:MaV} {m:Ma} (h:ChW w0 p w V m) (q n k:Nat) (fr:Fr) (s:Sp) (we:Bool) (hk:m.fs[k]? =Xa fr) (h40:m.fs.length<=40) (ht:∀s∈m.sp,QP s.tb) (hs:m.sp[q]? =Xa s) (hn:n<64) (hen:zf s n=⟨1,(k:Int),we⟩) (a:Ar) (pg:Pg) (ic wr:Bool):
  Xp Tryz.prog 34 #[Xi #[Xj (Xa ⟨p,0,Xb⟩),Xe Xf (q:Int),Xe Xf (n:Int),Xe Xf a.fr,Xe Xf a.tz,Xh a.rd,Xh a.wr,Xh a.sh,Xe Xf a.file,Xe Xf a.base,Xe Xg pg.b0,Xe Xg pg.b1,Xe Xg pg.b2,Xe Xg pg.b3,Xe Xg pg.b4,Xe Xg pg.b5,Xe Xg pg.b6,Xe Xg pg.b7,Xh ic,Xh wr],Xe Xf (k:Int)] w fun e w'=>(∃v,e= Xl v)/\Chg w0 p w V (Jv m q n k fr wr a.sh) w':=by
 have HM:Xo (ChW w0 p w V m):=h;obtain⟨h1,h2,h3⟩:=zoZ ht hk h40 hs hn hen a.sh;have H1:Xo (Jv m q n k fr Xd a.sh={ m with fs:=m.fs.set k { fr with u:=true } }):=h1;have HQ:Xo (q<m.sp.length):=(gS.1 hs).1;have hkl:=(gS.1 hk).1;have HK:Xo (m.fs[k]? =Xa fr):=hk;have HD:Xo (∀k,Dw p V k->k<w.heap.size):=h.bK;obtain⟨sh,HSH⟩:∃sh,Xo (a.sh=sh):=⟨_,rfl⟩;rw[HSH.out]at H1⊢;have H2:Xo (Jv m q n k fr Xc Xd=Zl { m with fs:=m.fs.set k { fr with u:=true } } q (n:Int) { JD { m with fs:=m.fs.set k { fr with u:=true } } q (n:Int)with wr:=true }):=h2;have H3:Xo (Jv m q n k fr Xc Xc={ Zl { m with fs:=m.fs.set k { fr with u:=true } } q (n:Int) { JD { m with fs:=m.fs.set k { fr with u:=true } } q (n:Int)with wr:=true }with fs:=(Zl { m with fs:=m.fs.set k { fr with u:=true } } q (n:Int) { JD { m with fs:=m.fs.set k { fr with u:=true } } q (n:Int)with wr:=true }).fs.set k { fr with u:=true,d:=true } }):=h3;clear h1 h2 h3 ht hk h40 hs hn hen;obtain⟨b0,b1,b2,b3,b4,b5,b6,b7⟩:=pg;simp only;obtain⟨b,HB⟩:∃b,Xo (w.heap.size=b):=⟨_,rfl⟩;obtain⟨W1,hW1⟩:∃W1,w.alloc (Xk #[Xj (Xa ⟨p,0,Xb⟩),Xe Xf (q:Int),Xe Xf (n:Int),Xe Xf a.fr,Xe Xf a.tz,Xh a.rd,Xh a.wr,Xh sh,Xe Xf a.file,Xe Xf a.base,Xe Xg b0,Xe Xg b1,Xe Xg b2,Xe Xg b3,Xe Xg b4,Xe Xg b5,Xe Xg b6,Xe Xg b7,Xh ic,Xh wr] 97)=W1:=⟨_,rfl⟩;have G1:=gA hW1;have X1:=xPT hW1 HB;have HND:Xo (¬Dw p V b):=show¬_ from fun e=>by have:=HD.out _ e;have:=HB.out;omega
 have HW1:Xo (_=W1):=hW1;clear hW1;have M1:Xo (ChW w0 p W1 V m):=h.aA G1.out;obtain⟨g,c9,heq⟩:=M1.out.fs.aG (by omega);have f0:=M1.out.box.box.c 0 rfl;rw[heq]at f0;have HFO:Xo (zb qR w0.heap.size W1 (O (Xa ⟨g,0,Xb⟩) m.fs.length c9) m.fs):=show zb _ _ _ _ _ by rw[<-heq];exact M1.out.fs
 have HG:Xo (oB V.f g):=show oB _ _ by unfold oB;rw[heq];rfl
 have HEQ:Xo (O V.f.a V.f.n V.f.c= O (Xa ⟨g,0,Xb⟩) m.fs.length c9):=heq;have hlt:(k:Int)< (m.fs.length:Int):=by omega
 obtain⟨fn,HFN⟩:∃fn,Xo (m.fs.length=fn):=⟨_,rfl⟩;rw[HFN.out]at HFO HEQ f0 hlt;have u0:=X1.out.box.c 0 rfl;clear h heq hkl;go_enter Tryz.func34,Tryz.ntmps34;go_upto_region 1 with fail;rw[HW1.out,HB.out];clear HW1;go_upto_region 2 with(refine zx (E:=qR) rfl (.tmp 13) (.const (Xh Xc)) 4 rfl w0.heap.size _ m.fs HFO.out g k 9 rfl fr { fr with u:=true } HK.out [Xh Xc] (by kernel_rfl) rfl (Ol rfl) (by intro u hu;simp at hu;subst hu;rfl) ⟨g,k*13+9,Xb⟩ rfl rfl _ rfl rfl ?_)
 intro W2 ow2 gr2 _;have HC2:Xo (Chg w0 p w V { m with fs:=m.fs.set k { fr with u:=true } } W2):=show Chg _ _ _ _ _ _ by
  refine Chg.aH G1.out (M1.out.frame HG.out gr2 ?_);(try simp only[Sli.x]);rw[HEQ.out];exact ow2
 have X2:Xo (zt W2 b 97 [Xj (Xa ⟨p,0,Xb⟩),Xe Xf (q:Int),Xe Xf (n:Int),Xe Xf a.fr,Xe Xf a.tz,Xh a.rd,Xh a.wr,Xh sh,Xe Xf a.file,Xe Xf a.base,Xe Xg b0,Xe Xg b1,Xe Xg b2,Xe Xg b3,Xe Xg b4,Xe Xg b5,Xe Xg b6,Xe Xg b7,Xh ic,Xh wr]):=X1.out.aU (qH.grown gr2 (show Dw p V g from .inr (.inl HG.out))) HND.out;clear ow2 gr2 f0 u0 X1 M1 G1 HFO;try simp only[Yb]
 have u19:=X2.out.box.c 19 rfl;cases wr with
 | false=>
  have HR:Xo (Chg w0 p w V (Jv m q n k fr Xd sh) W2):=show Chg _ _ _ _ _ _ by rw[H1.out];exact HC2.out
  go_wp2;(first | go_end0 | ((try simp only[Exit.inBlock,Exit.then]);refine bodyPost_ret (results_none rfl _ _ _) rfl ?_));first | exact HR.out | exact⟨⟨_,rfl⟩,HR.out⟩
 | true=>
  obtain⟨V2,m2,o2,d2⟩:=HC2.out;have M2:Xo (ChW w0 p W2 V2 { m with fs:=m.fs.set k { fr with u:=true } }):=m2;have O2:Xo (qH (Dw p V) w W2):=o2;have D2:Xo (∀k,Dw p V2 k->Dw p V k\/w.heap.size<=k):=d2;have HN2:Xo (¬Dw p V2 b):=show¬_ from m2.bW X2.out (by decide) (by decide) (by decide) (by decide);have hal:=zjH m2 q HQ.out (n:Int);clear m2 o2 d2 HC2;obtain⟨u0,u1,u2⟩:=X2.out.box.c3;go_wp2_with fail;refine hal.mono ?_;clear hal u0 u1 u2 u19;rintro e W4 ⟨⟨v4,rfl⟩,h4⟩;obtain⟨V4,m4,o4,d4⟩:=h4;have X4:Xo (zt W4 b 97 [Xj (Xa ⟨p,0,Xb⟩),Xe Xf (q:Int),Xe Xf (n:Int),Xe Xf a.fr,Xe Xf a.tz,Xh a.rd,Xh a.wr,Xh sh,Xe Xf a.file,Xe Xf a.base,Xe Xg b0,Xe Xg b1,Xe Xg b2,Xe Xg b3,Xe Xg b4,Xe Xg b5,Xe Xg b6,Xe Xg b7,Xh ic,Xh Xc]):=X2.out.aU o4 HN2.out;have HC4:Xo (Chg w0 p w V (Zl { m with fs:=m.fs.set k { fr with u:=true } } q (n:Int) { JD { m with fs:=m.fs.set k { fr with u:=true } } q (n:Int)with wr:=true }) W4):=show Chg _ _ _ _ _ _ from Chg.step O2.out D2.out ⟨V4,m4,o4,d4⟩;clear m4 o4 d4 X2 M2 O2 D2;have u7:=X4.out.box.c 7 rfl;cases sh with
  | false=>
   have HR:Xo (Chg w0 p w V (Jv m q n k fr Xc Xd) W4):=show Chg _ _ _ _ _ _ by rw[H2.out];exact HC4.out
   go_wp2;(first | go_end0 | ((try simp only[Exit.inBlock,Exit.then]);refine bodyPost_ret (results_none rfl _ _ _) rfl ?_));first | exact HR.out | exact⟨⟨_,rfl⟩,HR.out⟩
  | true=>
   obtain⟨mE,HME⟩:∃mE,Xo (Zl { m with fs:=m.fs.set k { fr with u:=true } } q (n:Int) { JD { m with fs:=m.fs.set k { fr with u:=true } } q (n:Int)with wr:=true }=mE):=⟨_,rfl⟩;have HFE:Xo (mE.fs=m.fs.set k { fr with u:=true }):=show _=_ by rw[<-HME.out];rfl
   rw[HME.out]at HC4 H3;clear HME;obtain⟨V5,m5,o5,d5⟩:=HC4.out;have M5:Xo (ChW w0 p W4 V5 mE):=m5;have O5:Xo (qH (Dw p V) w W4):=o5;have D5:Xo (∀k,Dw p V5 k->Dw p V k\/w.heap.size<=k):=d5;have hfl:mE.fs.length=fn:=(by rw[HFE.out,Xu,HFN.out]);obtain⟨g5,c5,heq⟩:=m5.fs.aG (by rw[hfl];omega);have f0:=m5.box.box.c 0 rfl;rw[heq,hfl]at f0;have HK5:Xo (mE.fs[k]? =Xa { fr with u:=true }):=show _=_ by rw[HFE.out,sF (gS.1 HK.out).1]
   have HFO:Xo (zb qR w0.heap.size W4 (O (Xa ⟨g5,0,Xb⟩) fn c5) mE.fs):=show zb _ _ _ _ _ by rw[<-hfl,<-heq];exact m5.fs
   have HG5:Xo (oB V5.f g5):=show oB _ _ by unfold oB;rw[heq];rfl
   have HEQ5:Xo (O V5.f.a V5.f.n V5.f.c= O (Xa ⟨g5,0,Xb⟩) fn c5):=show _=_ by rw[heq,hfl]
   have u0:=X4.out.box.c 0 rfl;clear m5 o5 d5 heq hfl HC4;go_wp2_with (refine zx (E:=qR) rfl (.tmp 34) (.const (Xh Xc)) 4 rfl w0.heap.size _ mE.fs HFO.out g5 k 10 rfl { fr with u:=true } { fr with u:=true,d:=true } HK5.out [Xh Xc] (by kernel_rfl) rfl (Ol rfl) (by intro u hu;simp at hu;subst hu;rfl) ⟨g5,k*13+10,Xb⟩ rfl rfl _ rfl rfl ?_)
   intro W6 ow6 gr6 _;have HR:Xo (Chg w0 p w V (Jv m q n k fr Xc Xc) W6):=show Chg _ _ _ _ _ _ by
    rw[H3.out];refine Chg.step O5.out D5.out (M5.out.frame HG5.out gr6 ?_);(try simp only[Sli.x]);rw[HEQ5.out];exact ow6
   clear ow6 gr6 f0 u0 u7;go_wp2;(first | go_end0 | ((try simp only[Exit.inBlock,Exit.then]);refine bodyPost_ret (results_none rfl _ _ _) rfl ?_));first | exact HR.out | exact⟨⟨_,rfl⟩,HR.out⟩
theorem zpG (h:zbe m Xb m.ca=0) (file idx:Int):zU m file idx=match QE m.ca (file,idx)with | some z=>pgL (zX m z).p | none=>Qr m file idx:=by
 cases f:QE m.ca (file,idx)with
 | some z=>
  obtain⟨e,b,c,i⟩:=zce f;have a:=Ja h b;simp only[pJ]at c;rw[<-c.1,<-c.2]at a;unfold zU;rw[a];simp only;rw[i]
 | none=>
  have g:=zcd.1 f;have a:m.ca.find? (QK file idx)=Xb:=by
   rw[Yn];intro e b d;simp only[QK,Yv,decide_eq_true_eq]at d;exact g e b (by rw[d.1,d.2])
  unfold zU;rw[a];rfl
theorem zrX (h:zbe m Xb m.ca=0) {idx:Int} (e:QE m.ca (H,idx)=Xa z):0<=z/\z< (m.fs.length:Int):=by obtain⟨c,a,b,d⟩:=zce e;have:=(Zo ((zo.1 h).1 c a)).1;omega
theorem zig (V:MaV) (m:Ma) (B fi ix:Nat) (f:Fl) (a1:Int) (w:Xn) (y:zP w V m) (j:zbe m Xb m.ca=0) (a3:m.fl[fi]? =Xa f) (t:f.bl[ix]? =Xa a1) (u:ix<=1000) (v:0<=f.size/\f.size<=1000) (d:QA plK w B (QE m.ca)):
  Xp prog 109 #[Xi #[V.f.x,I6 m.aB,V.s.x,V.sb.x,V.sq.x,V.db.x,V.dq.x,V.fl.x,I6 m.cnt,V.ca.x,V.sp.x,.map (Xa B)],I6 (fi:Int),I6 (ix:Int)] w fun e w'=>e= Xl (Xi (pgc (zU m fi ix)).toArray)/\(zU m fi ix).length=8/\zc w w':=by
 have s:Xo (∀W,zc w W->Xp prog 138 #[Xi (mL V m).toArray,I6 (fi:Int),I6 (ix:Int)] W fun e w'=>e= Xl (Xi (pgc (Qr m fi ix)).toArray)/\(Qr m fi ix).length=8/\zc W w'):=dD<|fun W ad=>zdV V m fi ix f a1 W (y.aA ad) a3 t u v;have p:Xo (zaZ w V.f.a m.fs):=y.bA;obtain⟨M,-⟩:=y.ns;have b:Xo (zU m fi ix=match QE m.ca ((fi:Int),(ix:Int))with|some z=>pgL (zX m z).p|none=>Qr m fi ix):=zpG j _ _;have q:Xo (∀z,QE m.ca ((fi:Int),(ix:Int))=Xa z->0<=z/\z< (m.fs.length:Int)):=dD<|fun z ae=>zrX j ae;obtain⟨⟨aa,a2,ab⟩,af,S,U,P,Q,R,N,T⟩:=V;dsimp only[mL]at M s p⊢;have r:Xo (m.fs.length=a2):=M.symm;obtain⟨h,c⟩:=kB ((w.alloc (Xk #[O aa a2 ab,I6 m.aB,af.x,S.x,U.x,P.x,Q.x,R.x,I6 m.cnt,N.x,T.x,.map (Xa B)] 140)).alloc (Xk #[U8 0,U8 0,U8 0,U8 0,U8 0,U8 0,U8 0,U8 0] 44));have n:=gD2 c;have G:=x2a c;have a0:Xo (Box h (w.heap.size+1) (pgc zq)):=dD<|by rw[<-c];exact Box.aE _ (pgc zq) _ Sm
 have a:(Instr.lookup 138 (.map (Xa B)) (Xi #[I6 (fi:Int),I6 (ix:Int)]) Xc).run prog h= .ok (Xm #[I6 ((QE m.ca ((fi:Int),(ix:Int))).getD 0),Xh (QE m.ca ((fi:Int),(ix:Int))).isSome]) h:=(d.aA n).look (K:=plK) underlying138 (zsD h) ((fi:Int),(ix:Int)) Xc;have E:Xo (_=h):=c;obtain⟨ac,D⟩:=kA (QE m.ca ((fi:Int),(ix:Int)));rw[D.out]at a b q;obtain⟨a5,a7⟩:=kA (zU m fi ix);rw[a7.out]at b⊢;clear c y j a3 t u v d M;go_enter func109,ntmps109;go_upto_region 1 with fail;rw[E.out];have Z:=G.c 11 rfl;cases ac with
 | none=>
  simp only[Option.getD_none,Option.isSome_none]at a b;have L:=s.out h n.out;rw[<-b.out]at L;obtain⟨X,ag,ah,ai,aj,ak,al,am,an,ao,Y⟩:=G.bN;go_wp2_with fail;refine L.mono ?_;clear L a X ag ah ai aj ak al am an ao Y Z;rintro b2 ar ⟨rfl,l,H⟩;have a6:=dD (n.trans H);have a8:=dD (a0.aA H);clear H;go_wp2_with (refine zp rfl 44 (.tmp 6) (.tmp 31) rfl (w.heap.size+1) rfl (pgc a5) rfl a8 (by rw[ZZ,l];rfl) zsB (qJ _) ?_)
  intro F i k _;have g:Xo (zc w F):=dD<|zd a6 k Wm;go_wp2;refine bodyPost_ret (z8 rfl _ rfl i underlying44 rfl (by rw[ZZ,l];exact zsB)) rfl ⟨rfl,l,g⟩
 | some z=>
  simp only[Option.getD_some,Option.isSome_some]at a b;obtain⟨ap,aq⟩:=q.out z rfl;obtain⟨A,rfl⟩:∃A:Nat,z=(A:Int):=⟨z.toNat,Wm⟩;rw[r.out]at aq;obtain⟨C,I⟩:∃C,Xo (m.fs[A]? =Xa C):=⟨_,gE (by rw[r.out];omega)⟩;rw[zK I.out]at b;obtain⟨a9,x,a4⟩:=p.out A C I.out;obtain⟨au,av,aw,ax,ay,az,b0,b1,-⟩:=a4 h n.out;have X:=G.c 0 rfl;rw[x]at X;clear a4 x ap;go_wp2_with (refine zp rfl 44 (.tmp 6) (.tmp 26) rfl (w.heap.size+1) rfl (pgc (pgL C.p)) rfl a0 rfl zsB (qJ _) ?_)
  intro F i k _;have g:Xo (zc w F):=dD<|zd n k Wm;go_wp2;refine bodyPost_ret (z8 rfl _ rfl i underlying44 rfl zsB) rfl ⟨by rw[b.out],Rr b.out,g⟩
theorem zqd (h:maW m=0):zO m.sb.length m.sq=0:=by have a:=Q0 h;unfold zaq at a;rw[zj]at a;exact a _ Sm
theorem zkR (h:zO k g=0) (b:0<=z) (c:z< (k:Int)):zn k g z=0:=by grind [zn,ZJ]
theorem znv (h:maW m=0) {f:Fl} (c:m.fl[fi]? =Xa f):(0<=f.size/\f.size<=1000)/\f.bl.length<=12:=by have a:=Q0 h;unfold zaq at a;rw[zj]at a;have b:=((qC _ _).1 (a (stW m.fl m.cnt) Sm)).2.1 f (mG c);have d:=b.2.1;have e:=b.1;grind [zau]
theorem zqW (h:maW m=0):zbe m Xb m.ca=0:=by unfold maW at h;rw[zj]at h;exact h _ Sm
theorem zqB (a:0<=z) (b:0<=H):zos m.fl z H=decide (H<bkN m z):=by unfold zos bkN;rw[Bool.eq_iff_iff,Yv,Jd,Jd,decide_eq_true_eq];grind
theorem zgA (V:MaV) (m:Ma) (B:Nat) (a:Ar) (n:Nat) (e:En) (w:Xn) (ah:zP w V m) (ba:maW m=0) (az:jU a) (dc:a.fr<=(n:Int)/\(n:Int)<a.tz) (bw:e.kind=1->0<=e.n/\e.n< (m.fs.length:Int)) (ax:e.kind=2->0<=e.n/\e.n< (m.sb.length:Int)) (S:QA plK w B (QE m.ca)):
  Xp prog 68 #[Xi #[V.f.x,I6 m.aB,V.s.x,V.sb.x,V.sq.x,V.db.x,V.dq.x,V.fl.x,I6 m.cnt,V.ca.x,V.sp.x,.map (Xa B)],Xi #[I6 a.fr,I6 a.tz,Xh a.rd,Xh a.wr,Xh a.sh,I6 a.file,I6 a.base],I6 (n:Int),Xi #[I6 e.kind,I6 e.n,Xh e.wr]] w fun ai w'=>ai= Xl (zcw (ZP m (z5 a n) e))/\(ZP m (z5 a n) e).1.length=8/\zc w w':=by
 have bq:Xo (zP w V m):=ah;have ch:Xo (QA plK w B (QE m.ca)):=S;have al:Xo (∀W (c d:Nat) f Y,zc w W->m.fl[c]? =Xa f->f.bl[d]? =Xa Y->d<=1000->Xp prog 109 #[Xi #[V.f.x,I6 m.aB,V.s.x,V.sb.x,V.sq.x,V.db.x,V.dq.x,V.fl.x,I6 m.cnt,V.ca.x,V.sp.x,.map (Xa B)],I6 (c:Int),I6 (d:Int)] W fun e w'=>e= Xl (Xi (pgc (zU m c d)).toArray)/\(zU m c d).length=8/\zc W w'):=show∀W,_ from fun W c d f Y a7 R f8 f9=>zig V m B c d f Y W (bq.aA a7) (zqW ba) R f8 f9 (znv ba R).1 (ch.aA a7);have aq:Xo (∀W k,zc w W->Xp prog 106 #[Xi #[V.sb.x,V.sq.x],I6 k] W fun e w'=>e= Xl (Xm #[Xi (pgc (qN m.sb m.sq k)).toArray,I6 (zn m.sb.length m.sq k)])/\zc W w'):=dD<|fun W k a7=>zkd _ m.sb m.sq k W ⟨_,_,rfl,(bq.aA a7).sb,(bq.aA a7).sq⟩;have an:Xo (∀W file P,zc w W->Xp prog 108 #[Xi #[V.fl.x,I6 m.cnt],I6 file,I6 P] W fun e w'=>e= Xl (Xh (zos m.fl file P))/\zc W w'):=dD<|fun W file P a7=>zbD _ m.fl m.cnt file P W (bq.aA a7).fl;have cj:Xo (∀k,(qN m.sb m.sq k).length=8):=dD<|fun k=>zfr ah.sb.2.1 ah.sq.2.1;have cl:Xo (zO m.sb.length m.sq=0):=zqd ba;have am:Xo (zaZ w V.f.a m.fs):=ah.bA;have dz:Xo (∀(c:Nat) f,m.fl[c]? =Xa f->f.bl.length<=12):=show∀c,_ from fun c f R=>(znv ba R).2;have cf:Xo (∀W,Xp prog 107 #[Xi #[I6 a.fr,I6 a.tz,Xh a.rd,Xh a.wr,Xh a.sh,I6 a.file,I6 a.base],I6 (n:Int)] W fun e w'=>e= Xl (I6 (a.base+(n:Int) - a.fr))/\zc W w'):=dD<|fun W=>J9 a n W (by unfold jU at az;omega) (by unfold jU at az;omega) (by unfold jU at az;omega);obtain⟨dq,-,-,-,-,-,ec,-,-⟩:=ah.ns;have b:Xo (ZP m (z5 a n) e=if e.kind=1 then(pgL (zX m e.n).p,decide ((zX m e.n).f<0),0)else if e.kind=2 then(qN m.sb m.sq e.n,Xc,0)else if a.file<0 then(zq,Xd,0)else if bkN m a.file<=a.base+(n:Int) - a.fr then(zq,Xd,9)else(zU m a.file (a.base+(n:Int) - a.fr),Xd,0)):=dD<|by
  unfold ZP z5;rw[kF Sm];by_cases u:e.kind=1;·rw[kE u,kE u]
  rw[kF u,kF u];by_cases z:e.kind=2;·rw[kE z,kE z]
  rw[kF z,kF z];by_cases E:a.file<0;·rw[kE E,kE E]
  rw[kF E,kF E];have ab:(if 0<=a.file then a.base+((n:Int) - a.fr)else 0)=a.base+(n:Int) - a.fr:=by rw[kE Wm];omega
  simp only[ab]
 obtain⟨el,ck⟩:=kA (ZP m (z5 a n) e);rw[ck.out]at b⊢;obtain⟨⟨e7,cw,e8⟩,ee,⟨be,bg,bf⟩,⟨bh,bj,bi⟩,bm,bn,⟨au,aw,av⟩,bl,bo⟩:=V;dsimp only[mL]at dq ec al aq an am⊢;have ao:Xo (m.fs.length=cw):=dq.symm;have ci:Xo (0<=a.file->0<=a.base+(n:Int) - a.fr/\a.base+(n:Int) - a.fr<=100):=show _->_ from fun _=>by unfold jU at az;omega
 clear ah ba az dc S dq ec;obtain⟨A,h⟩:=kB ((((w.alloc (Xk #[O e7 cw e8,I6 m.aB,ee.x,O be bg bf,O bh bj bi,bm.x,bn.x,O au aw av,I6 m.cnt,bl.x,bo.x,.map (Xa B)] 140)).alloc (Xk #[I6 a.fr,I6 a.tz,Xh a.rd,Xh a.wr,Xh a.sh,I6 a.file,I6 a.base] 77)).alloc (Xk #[I6 e.kind,I6 e.n,Xh e.wr] 55)).alloc (Xk #[U8 0,U8 0,U8 0,U8 0,U8 0,U8 0,U8 0,U8 0] 44));have af:Xo (zc w A):=dD<|by rw[<-h];exact(((za _ _).trans (za _ _)).trans (za _ _)).trans (za _ _)
 have bt:Xo (Box A w.heap.size [O e7 cw e8,I6 m.aB,ee.x,O be bg bf,O bh bj bi,bm.x,bn.x,O au aw av,I6 m.cnt,bl.x,bo.x,.map (Xa B)]):=dD<|by rw[<-h];exact(((Box.aE _ _ _ rfl).alloc _).alloc _).alloc _
 have Q:Xo (Box A (w.heap.size+1) [I6 a.fr,I6 a.tz,Xh a.rd,Xh a.wr,Xh a.sh,I6 a.file,I6 a.base]):=dD<|by rw[<-h];exact((Box.aE _ _ _ Sm).alloc _).alloc _
 have dy:Xo (Box A (w.heap.size+1+1) [I6 e.kind,I6 e.n,Xh e.wr]):=dD<|by rw[<-h];exact(Box.aE _ _ _ Sm).alloc _
 have ar:Xo (Box A (w.heap.size+1+1+1) (pgc zq)):=dD<|by rw[<-h];exact Box.aE _ (pgc zq) _ Sm
 have cm:Xo (_=A):=h;clear h;go_enter func68,ntmps68;go_upto_region 1 with fail;rw[cm.out];obtain⟨cv,bv⟩:=dy.k2;by_cases u:e.kind=1
 ·have bb:(e.kind == 1)=Xc:=by simp[u]
  obtain⟨ad,ae⟩:=bw u;obtain⟨k,N⟩:∃k:Nat,e.n=(k:Int):=⟨e.n.toNat,Wm⟩;rw[N]at ae ad;rw[ao.out]at ae;obtain⟨q,e2⟩:∃q,Xo (m.fs[k]? =Xa q):=⟨_,gE (Hm ao.out)⟩;have p:Xo (el=(pgL q.p,decide (q.f<0),0)):=dD (by rw[b.out,kE u,N,zK e2.out]);obtain⟨ew,b9,b5⟩:=am.out k q e2.out;obtain⟨ex,ey,ez,f0,f1,f2,f3,f4,f5,f6,cr,ct,cu⟩:=b5 A af.out;have ce:=bt.c 0 rfl;rw[b9]at ce;rw[N]at bv;clear b5 b9 u N bw ax ad;go_upto_region 4 with fail;obtain⟨v,T⟩:=kA A.heap.size;refine nW fun co M=>?_;have cy:=gP M;have ek:=xP M T;have eh:=dD (af.trans cy);have eo:=dD (ar.aA cy);have de:w.heap.size+1+1+1≠v:=by have:=ar.lt;have ax:=T.out;omega
  have b6:v≠w.heap.size+1+1+1:=fun f7=>de f7.symm;rw[T.out];clear M cy ce cv bv ex ey ez f0 f1 f2 f3 f4 f5 f6 cr ct cu;obtain⟨r,t⟩:=Ww fun G=>zc w G/\Box G v [U8 q.p.b0,U8 q.p.b1,U8 q.p.b2,U8 q.p.b3,U8 q.p.b4,U8 q.p.b5,U8 q.p.b6,U8 q.p.b7,I6 q.r,Xh q.u,Xh q.d,I6 q.f,I6 q.x]/\∃ag,Box G (w.heap.size+1+1+1) ag/\ag.length=8;have cz:zc co co.drew:=(gW _);have Z:r co.drew:=(t _).2 ⟨eh.trans cz,ek.aA cz,_,eo.aA cz,rfl⟩;have dg:=fun y:zg r=>((t _).1 y.holds).2.1.c 0 rfl;have dh:=fun y:zg r=>((t _).1 y.holds).2.1.c 1 rfl;have di:=fun y:zg r=>((t _).1 y.holds).2.1.c 2 rfl;have dj:=fun y:zg r=>((t _).1 y.holds).2.1.c 3 rfl;have dk:=fun y:zg r=>((t _).1 y.holds).2.1.c 4 rfl;have dl:=fun y:zg r=>((t _).1 y.holds).2.1.c 5 rfl;have dm:=fun y:zg r=>((t _).1 y.holds).2.1.c 6 rfl;have dn:=fun y:zg r=>((t _).1 y.holds).2.1.c 7 rfl;have b8:=fun y:zg r=>((t _).1 y.holds).2.1.c 11 rfl;have b7:Nonempty (zg r):=⟨⟨_,Z⟩⟩;refine qZ (I:=r) 8 [(5,⟨fun _=>True,fun _ G=>Box G (w.heap.size+1+1+1) (pgc (pgL q.p)),fun ac ai=>True,fun _=>True⟩)] Z z3 Kr rfl rfl Dc (Sa ⟨Xh Xc,trivial⟩) ?hp ?hpre ?hpr0 ?_;case hp=>
   intro k s fh ed N dd b4 e9 g8 ac q dp fb;have D:=zC N;have C:=zC dd;simp only[mC,pJ,nM,or_false]at D C;exact absurd (C.1.trans D.1.symm) b4
  case hpre=>
   intro fh ed k s dd N b4 ac q dp df;have C:=zC dd;simp only[mC,pJ,nM,or_false]at C;obtain⟨rfl,rfl⟩:=C;trivial
  case hpr0=>
   intro k ed N;have D:=zC N;simp only[mC,pJ,nM,or_false]at D;obtain⟨rfl,rfl⟩:=D;trivial
  simp only[Yp,Yq];iterate 5 refine zs ?_
  refine zR rfl rfl (fun w' db df da=>?_) (fun g9 g6=>?_)
  ·obtain⟨fe,ff,ag,fg,eb⟩:=(t _).1 db;refine zN.storeAll 44 (.tmp 8) (.tmp 28) rfl (w.heap.size+1+1+1) rfl (pgc (pgL q.p)) rfl fg (Rr eb) (Rx eb zsB) (qJ _) fun fj e5 e6 ft=>?_;exact⟨(t _).2 ⟨zd fe e6 Wm,ff.grown e6 b6,_,e5,rfl⟩,trivial,trivial,e5⟩
  simp only[Yb];iterate 2 refine zs ?_
  refine ZD fun e4 ay da=>?_;have ep:Xo (Box e4 (w.heap.size+1+1+1) (pgc (pgL q.p))):=da 5;have ei:Xo (zc w e4):=((t _).1 ay).1;clear da ay Z b7 dg dh di dj dk dl dm dn b8;go_wp2;refine bodyPost_ret (zL rfl _ rfl ep underlying44 rfl zsB) rfl ⟨Rr p.out,Rr p.out,ei⟩
 have bb:(e.kind == 1)=Xd:=by simp[u]
 rw[kF u]at b;by_cases z:e.kind=2
 ·have bc:(e.kind == 2)=Xc:=by simp[z]
  rw[kE z]at b;obtain⟨ad,ae⟩:=ax z;have cn:Xo (zn m.sb.length m.sq e.n=0):=zkR cl ad ae;have j:=aq.out A e.n af.out;rw[cn.out]at j;obtain⟨ac,br⟩:=kA (qN m.sb m.sq e.n);have cg:Xo (ac.length=8):=show _=_ by rw[<-br.out];exact cj _
  rw[br.out]at b j;obtain⟨bx,bz,c8,c9,ca,cb,cc,cd,rfl⟩:=zc4 ac cg.out;have dt:=bt.c 3 rfl;have du:=bt.c 4 rfl;clear u z ad ae bw ax;go_wp2_with fail;refine j.mono ?_;clear j dt du cv bv;rintro ai bs ⟨rfl,H⟩;have bp:=dD (af.trans H);have cq:=dD (ar.aA H);simp only[pgc,mP,Yt];go_upto_region 7 with fail;obtain⟨g7,ap⟩:=kA bs.heap.size;refine nW fun e3 L=>?_;have K:=gP L;have ej:=xP L ap;have aj:=dD (bp.trans K);have bu:=dD (cq.aA K);rw[ap.out];clear L K H;have p:=b;obtain⟨fu,fv,fw,fx,fy,fz,g0,g4⟩:=ej.c8;go_wp2_with (refine zp rfl 44 (.tmp 8) (.tmp 43) rfl (w.heap.size+1+1+1) rfl (pgc [bx,bz,c8,c9,ca,cb,cc,cd]) rfl bu rfl zsB (qJ _) ?_)
  intro U i l _;have g:Xo (zc w U):=dD<|zd aj l Wm;go_wp2;refine bodyPost_ret (zL rfl _ rfl i underlying44 rfl zsB) rfl ⟨Rr p.out,Rr p.out,g⟩
 have bc:(e.kind == 2)=Xd:=by simp[z]
 rw[kF z]at b;clear u z bw ax;have X:=Q.c 5 rfl;by_cases E:a.file<0
 ·have bd:decide (a.file<0)=Xc:=decide_eq_true E;rw[kE E]at b;have p:=b;clear E;go_wp2_with (refine zp rfl 44 (.tmp 8) (.tmp 48) rfl (w.heap.size+1+1+1) rfl (pgc zq) rfl ar rfl zsB (qJ _) ?_)
  intro U i l _;have g:Xo (zc w U):=dD<|zd af l Wm;go_wp2;refine bodyPost_ret (zL rfl _ rfl i underlying44 rfl zsB) rfl ⟨Rr p.out,Rr p.out,g⟩
 have bd:decide (a.file<0)=Xd:=decide_eq_false E;rw[kF E]at b;obtain⟨ad,ae⟩:=ci.out Wm;obtain⟨c,a8⟩:∃c:Nat,a.file=(c:Int):=⟨a.file.toNat,Wm⟩;obtain⟨d,a9⟩:∃d:Nat,a.base+(n:Int) - a.fr=(d:Int):=⟨(a.base+(n:Int) - a.fr).toNat,Wm⟩;have j:=cf.out A;rw[a9]at j ad ae;rw[a9,a8]at b;have ak:Xo (a.file=(c:Int)):=a8;clear a8 a9;have eq:=Q.c 0 rfl;have er:=Q.c 1 rfl;have es:=Q.c 2 rfl;have et:=Q.c 3 rfl;have eu:=Q.c 4 rfl;have ev:=Q.c 6 rfl;go_wp2_with fail;refine j.mono ?_;clear j eq er es et eu X ev cv bv bd bb bc;rintro ai bs ⟨rfl,H⟩;have bp:=dD (af.trans H);have cp:=dD (bt.aA H);have dx:=dD (Q.aA H);have cq:=dD (ar.aA H);clear H;have j:=an.out bs (c:Int) (d:Int) bp.out;rw[zqB Wm Wm]at j;have X:=dx.c 5 rfl;rw[ak.out]at X;have dv:=cp.c 7 rfl;have dw:=cp.c 8 rfl;go_wp2_with fail;refine j.mono ?_;clear j X dv dw;rintro ai e3 ⟨rfl,K⟩;have aj:=dD (bp.trans K);have em:=dD (cp.aA K);have ef:=dD (dx.aA K);have bu:=dD (cq.aA K);clear K;by_cases F:bkN m (c:Int)<=(d:Int)
 ·rw[kE F]at b;rw[decide_eq_false (by omega:¬(d:Int)<bkN m (c:Int))];have p:=b;clear F;go_wp2_with (refine zp rfl 44 (.tmp 8) (.tmp 60) rfl (w.heap.size+1+1+1) rfl (pgc zq) rfl bu rfl zsB (qJ _) ?_)
  intro U i l _;have g:Xo (zc w U):=dD<|zd aj l Wm;go_wp2;refine bodyPost_ret (zL rfl _ rfl i underlying44 rfl zsB) rfl ⟨Rr p.out,Rr p.out,g⟩
 rw[kF F]at b;rw[decide_eq_true (by omega:(d:Int)<bkN m (c:Int))];obtain⟨f,R⟩:∃f,m.fl[c]? =Xa f:=by
  cases fd:m.fl[c]? with
  | some f=>exact⟨f,rfl⟩
  | none=>
   exfalso;unfold bkN at F;rw[tN,gD,fd]at F;simp at F
 obtain⟨Y,b0⟩:∃Y,f.bl[d]? =Xa Y:=⟨_,gE (by
  unfold bkN at F;rw[tN,gD,R]at F;simp only[Option.getD_some]at F
  omega)⟩
 have j:=al.out e3 c d f Y aj R b0 Wm;clear R b0 F;have X:=ef.c 5 rfl;rw[ak.out]at X;obtain⟨ce,fk,fl,dt,du,fm,fo,dv,dw,fp,dr,ds⟩:=em.c12;go_wp2_with fail;refine j.mono ?_;clear j X ce fk fl dt du fm fo dv dw fp dr ds;rintro ai fq ⟨rfl,aa,cx⟩;have eg:=dD (aj.trans cx);have en:=dD (bu.aA cx);clear cx;obtain⟨ac,br⟩:=kA (zU m (c:Int) (d:Int));rw[br.out]at b aa⊢;obtain⟨bx,bz,c8,c9,ca,cb,cc,cd,rfl⟩:=zc4 ac aa;have p:=b;clear aa;simp only[pgc,mP,Yt];go_wp2_with (refine zp rfl 44 (.tmp 8) (.tmp 65) rfl (w.heap.size+1+1+1) rfl (pgc [bx,bz,c8,c9,ca,cb,cc,cd]) rfl en rfl zsB (qJ _) ?_)
 intro U i l _;have g:Xo (zc w U):=dD<|zd eg l Wm;go_wp2;refine bodyPost_ret (zL rfl _ rfl i underlying44 rfl zsB) rfl ⟨Rr p.out,Rr p.out,g⟩
theorem zpY (d:maW m=0) (c:m.sp[k]? =Xa s) (p:b<64):((zf s b).kind=1->0<=(zf s b).n/\(zf s b).n< (m.fs.length:Int))/\((zf s b).kind=2->0<=(zf s b).n/\(zf s b).n< (m.sb.length:Int)):=by
 have a:=(zbX d).1;have f:=znI d s (mG c) b p;have e:(ZN m)[k]? =Xa (zf s):=by unfold ZN;rw[Og,c];rfl
 have g:=(jV (a.en e p)).2.1.1;have h:=a.bC;grind [zal]
theorem zpF (a:∀p∈m.db,p.length=8) (b:∀q∈m.dq,q.2.length=8) (file idx:Int):(zU m file idx).length=8:=by
 unfold zU;split;·rfl
 exact zeK a b file idx
theorem zql (a1:∀p∈m.sb,p.length=8) (a2:∀q∈m.sq,q.2.length=8) (a:∀p∈m.db,p.length=8) (b:∀q∈m.dq,q.2.length=8) (x:On) (e:En):(ZP m x e).1.length=8:=by
 unfold ZP;split;·rfl
 split;·rfl
 split;·exact zfr a1 a2
 split;·rfl
 split;·rfl
 grind [zpF]
theorem zmp (c:m.sp[k]? =Xa s) (a:zcu s.aC H z) (d:z<0):Qd m (k:Int) H=(zq,Xd,5):=by
 by_cases h:0<=H/\H<=63
 ·obtain⟨p,rfl⟩:∃p:Nat,H=(p:Int):=⟨H.toNat,Wm⟩
  have b:=zkz a;grind [zf7,ZP]
 grind [zj5]
def Z6 (m:Ma) (p n:Int) (wr:Bool) (a:Ar) (e:Int):Prop:=
 (e=5/\a=ar0/\((p<0\/(m.sp.length:Int)<=p)\/∃(pp:Nat) (s:Sp),p=(pp:Int)/\m.sp[pp]? =Xa s/\∀a∈s.aC,inZ a n=Xd))\/
 (∃(pp nn k:Nat) (s:Sp) (x:Ar),p=(pp:Int)/\n=(nn:Int)/\nn<64/\m.sp[pp]? =Xa s/\s.aC[k]? =Xa x/\jU x/\(x.fr<=(nn:Int)/\(nn:Int)<x.tz)/\zl s.aC nn=z5 x nn/\
  ((e=8/\a=ar0/\(if wr=Xc then x.wr else x.rd)=Xd)\/(e=0/\a=x/\(if wr=Xc then x.wr else x.rd)=Xc)))
theorem zkX (V:MaV) (m:Ma) (p n:Int) (wr:Bool) (w:Xn) (al:zP w V m) (b0:maW m=0):
  Xp prog 30 #[Xi (mL V m).toArray,I6 p,I6 n,Xh wr] w fun e w'=>(∃(a:Ar) (K:Int),e= Xl (Xm #[Xi #[I6 a.fr,I6 a.tz,Xh a.rd,Xh a.wr,Xh a.sh,I6 a.file,I6 a.base],I6 K])/\Z6 m p n wr a K)/\zc w w':=by
 have bi:Xo (zP w V m):=al;have ao:Xo (maW m=0):=b0;have S:Xo (∀W,zc w W->Xp prog 64 #[Xi (mL V m).toArray] W fun e w'=>e= Xl (I6 0)/\zc W w'):=show∀W,_ from fun W bp=>zg9 V m W (bi.aA bp) b0;obtain⟨-,-,-,-,-,-,-,-,b5⟩:=al.ns;obtain⟨am,a3,u,a2⟩:=al.aT;obtain⟨bg,bh,a9,aa,a6,a7,a8,a5,⟨E,i,a4⟩⟩:=V;dsimp only[mL]at b5 u S⊢;have C:Xo (m.sp.length=i):=b5.symm;have ax:Xo (am.length=i):=show _=_ by rw[a3];exact C.out
 have aq:Xo (∀(bf:Nat) x,am[bf]? =Xa x->∃M,E=Xa M/\∀W,zc w W->zgY W (M.add (bf*10)) x):=dD<|u;have au:Xo (∀(be:Nat) x s,am[be]? =Xa x->m.sp[be]? =Xa s->jN w x s):=dD<|a2;clear al b5 a3 u a2 b0;obtain⟨j,z⟩:=kA w.heap.size;obtain⟨ac,t⟩:=kB ((w.alloc (Xk #[bg.x,I6 m.aB,bh.x,a9.x,aa.x,a6.x,a7.x,a8.x,I6 m.cnt,a5.x,O E i a4] 41)).alloc (Xk #[I6 0,I6 0,Xh Xd,Xh Xd,Xh Xd,I6 0,I6 0] 77));have b9:=gD2 t;have bb:Xo (Box ac j [bg.x,I6 m.aB,bh.x,a9.x,aa.x,a6.x,a7.x,a8.x,I6 m.cnt,a5.x,O E i a4]):=dD<|by rw[<-t];exact(Box.aE _ _ _ z.symm).alloc _
 have bl:Xo (zt ac (j+1) 77 [I6 0,I6 0,Xh Xd,Xh Xd,Xh Xd,I6 0,I6 0]):=dD<|by rw[<-t];exact zt.aE _ [I6 0,I6 0,Xh Xd,Xh Xd,Xh Xd,I6 0,I6 0] _ (by have:=z.out;simp;omega)
 have aw:Xo (_=ac):=t;clear t;go_enter func30,ntmps30;go_upto_region 1 with fail;rw[aw.out,z.out];obtain⟨bw,bx,bz,c0,c1,c2,c3,c4,c5,c6,F⟩:=bb.bN;have Y:=S.out ac b9.out;go_wp2_with fail;refine Y.mono ?_;clear Y bw bx bz c0 c1 c2 c3 c4 c5 c6 F;rintro bv ba ⟨rfl,ak⟩;have P:=dD (b9.trans ak);have bk:=dD (bb.aA ak);have ay:=dD (bl.aA ak);clear ak;have F:=bk.c 10 rfl;by_cases a1:p<0\/(i:Int)<=p
 ·by_cases D:p<0
  ·have b2:decide (p<0)=Xc:=decide_eq_true D;have A:Xo (Z6 m p n wr ar0 5):=dD<|.inl ⟨rfl,rfl,.inl (Rx C.out a1)⟩;clear a1 D;go_wp2_with (refine z6 rfl 77 (.tmp 8) (.tmp 29) rfl (j+1) rfl [I6 0,I6 0,Xh Xd,Xh Xd,Xh Xd,I6 0,I6 0] rfl ay rfl Kr (by simp[Value.oneCell']) ?_)
   intro g b c _;have f:Xo (zc w g):=dD<|zd P c (Hm z.out);have d:Xo (zt g (j+1) 77 [I6 0,I6 0,Xh Xd,Xh Xd,Xh Xd,I6 0,I6 0]):=b;clear b c;go_wp2;refine bodyPost_ret (q4 rfl _ rfl d.box underlying77 rfl Kr) rfl ⟨⟨ar0,5,rfl,A⟩,f⟩
  have b2:decide (p<0)=Xd:=decide_eq_false D;have Z:decide ((i:Int)<=p)=Xc:=decide_eq_true Wm;have A:Xo (Z6 m p n wr ar0 5):=dD<|.inl ⟨rfl,rfl,.inl (Rx C.out a1)⟩;clear a1 D;go_wp2_with (refine z6 rfl 77 (.tmp 8) (.tmp 29) rfl (j+1) rfl [I6 0,I6 0,Xh Xd,Xh Xd,Xh Xd,I6 0,I6 0] rfl ay rfl Kr (by simp[Value.oneCell']) ?_)
  intro g b c _;have f:Xo (zc w g):=dD<|zd P c (Hm z.out);have d:Xo (zt g (j+1) 77 [I6 0,I6 0,Xh Xd,Xh Xd,Xh Xd,I6 0,I6 0]):=b;clear b c;go_wp2;refine bodyPost_ret (q4 rfl _ rfl d.box underlying77 rfl Kr) rfl ⟨⟨ar0,5,rfl,A⟩,f⟩
 have b2:decide (p<0)=Xd:=decide_eq_false Wm;have Z:decide ((i:Int)<=p)=Xd:=decide_eq_false Wm;obtain⟨k,rfl⟩:∃k:Nat,p=(k:Int):=⟨p.toNat,Wm⟩;obtain⟨x,b3⟩:∃x,am[k]? =Xa x:=⟨_,gE (by rw[ax.out];omega)⟩;obtain⟨s,ab⟩:∃s,Xo (m.sp[k]? =Xa s):=⟨_,gE (by rw[C.out];omega)⟩;have H:Xo (jN w x s):=au.out k x s b3 ab.out;obtain⟨M,ar,bc⟩:∃M,Xo (E=Xa M)/\∀W,zc w W->zgY W (M.add (k*10)) x:=aq.out k x b3;obtain⟨-,bm,-,-,-,-,-,-,-,-⟩:=bc ba P.out;rw[ar.out]at F;have bs:(k:Int)< (i:Int):=Wm;clear bc b3 a1;have Y:=zgN (x.ar.x) s.aC n ba (H.ar.aA P);go_wp2_with fail;refine Y.mono ?_;clear Y bm F b2 Z;rintro bv bj ⟨⟨b8,rfl,bd⟩,az⟩;have R:Xo (zcu s.aC n b8):=bd;have L:=dD (P.trans az);have T:=dD (ay.aA az);clear az bd;by_cases b4:b8<0
 ·have a0:∀a∈s.aC,inZ a n=Xd:=by
   rcases R with⟨v,a,N,_⟩|⟨_,bt⟩;·omega
   exact bt
  have A:Xo (Z6 m (k:Int) n wr ar0 5):=dD<|.inl ⟨rfl,rfl,.inr ⟨k,s,rfl,ab,a0⟩⟩;clear a0;go_wp2_with (refine z6 rfl 77 (.tmp 8) (.tmp 41) rfl (j+1) rfl [I6 0,I6 0,Xh Xd,Xh Xd,Xh Xd,I6 0,I6 0] rfl T rfl Kr (by simp[Value.oneCell']) ?_)
  intro g b c _;have f:Xo (zc w g):=dD<|zd L c (Hm z.out);have d:Xo (zt g (j+1) 77 [I6 0,I6 0,Xh Xd,Xh Xd,Xh Xd,I6 0,I6 0]):=b;clear b c;go_wp2;refine bodyPost_ret (q4 rfl _ rfl d.box underlying77 rfl Kr) rfl ⟨⟨ar0,5,rfl,A⟩,f⟩
 obtain⟨v,a,rfl,q,B⟩:∃(v:Nat) (a:Ar),b8=(v:Int)/\Xo (s.aC[v]? =Xa a)/\Xo (inZ a n=Xc):=by
  rcases R with⟨v,a,N,b6,b7⟩|⟨N,_⟩;·exact⟨v,a,N,b6,b7⟩
  omega
 have Q:Xo (QQ Xb s.aC):=(jJ.1 ((zhz (Q0 ao)).ar s (mG ab)).1).2;have G:Xo (jU a):=zgR Q q.out;obtain⟨y,rfl⟩:∃y:Nat,n=(y:Int):=⟨n.toNat,by have bo:=zcL.1 B.out;have b1:=G.out;unfold jU at b1;omega⟩;have I:y<64:=by have bo:=zcL.1 B.out;have b1:=G.out;unfold jU at b1;omega
 have ap:Xo (zl s.aC y=z5 a y):=zb2 Q q (Ry zgG B);have bq:v<x.ar.n:=by rw[H.ar.n];exact(gS.1 q).1
 have br:(v:Int)< (x.ar.n:Int):=Wm;obtain⟨r,av,an⟩:∃r,Xo (x.ar.a=Xa r)/\Xo (∀W,zc w W->zj2 W (r.add (v*7)) a):=by
  obtain⟨_,_,N,b6⟩:=H.ar.aC;simp only[vJ]at N;obtain⟨r,b7,bu⟩:=b6 v a q.out;exact⟨r,Rx N.1 b7,bu⟩
 have A:Xo (∀K ae,(K=8/\ae=ar0/\(if wr=Xc then a.wr else a.rd)=Xd)\/(K=0/\ae=a/\(if wr=Xc then a.wr else a.rd)=Xc)->Z6 m (k:Int) (y:Int) wr ae K):=dD<|fun K ae bn=> .inr ⟨k,y,v,s,a,rfl,rfl,I,ab,q,G,zcL.1 B,ap,bn⟩;rw[av.out];obtain⟨af,ag,U,X,ah,ai,aj⟩:=an.out bj L.out;clear b4;cases wr
 ·obtain⟨ok,h⟩:=kA a.rd;rw[h.out]at U;cases ok
  ·have l:Xo (Z6 m (k:Int) (y:Int) Xd ar0 8):=A.out 8 ar0 (.inl ⟨rfl,rfl,h⟩)
   go_wp2_with (refine z6 rfl 77 (.tmp 8) (.tmp 55) rfl (j+1) rfl [I6 0,I6 0,Xh Xd,Xh Xd,Xh Xd,I6 0,I6 0] rfl T rfl Kr (by simp[Value.oneCell']) ?_)
   intro g b c _;have f:Xo (zc w g):=dD<|zd L c (Hm z.out);have d:Xo (zt g (j+1) 77 [I6 0,I6 0,Xh Xd,Xh Xd,Xh Xd,I6 0,I6 0]):=b;clear b c af ag U X ah ai aj;go_wp2;refine bodyPost_ret (q4 rfl _ rfl d.box underlying77 rfl Kr) rfl ⟨⟨ar0,8,rfl,l⟩,f⟩
  have l:Xo (Z6 m (k:Int) (y:Int) Xd a 0):=A.out 0 a (.inr ⟨rfl,rfl,h⟩);go_wp2_with (refine z6 rfl 77 (.tmp 8) (.tmp 59) rfl (j+1) rfl [I6 a.fr,I6 a.tz,Xh Xc,Xh a.wr,Xh a.sh,I6 a.file,I6 a.base] rfl T rfl Kr (by simp[Value.oneCell']) ?_)
  intro g b c _;have f:Xo (zc w g):=dD<|zd L c (Hm z.out);have d:Xo (zt g (j+1) 77 [I6 a.fr,I6 a.tz,Xh Xc,Xh a.wr,Xh a.sh,I6 a.file,I6 a.base]):=b;clear b c af ag U X ah ai aj;go_wp2;refine bodyPost_ret (q4 rfl _ rfl d.box underlying77 rfl Kr) rfl ⟨⟨a,0,Rr h.out,l⟩,f⟩
 obtain⟨ok,h⟩:=kA a.wr;rw[h.out]at X;cases ok
 ·have l:Xo (Z6 m (k:Int) (y:Int) Xc ar0 8):=A.out 8 ar0 (.inl ⟨rfl,rfl,h⟩)
  go_wp2_with (refine z6 rfl 77 (.tmp 8) (.tmp 55) rfl (j+1) rfl [I6 0,I6 0,Xh Xd,Xh Xd,Xh Xd,I6 0,I6 0] rfl T rfl Kr (by simp[Value.oneCell']) ?_)
  intro g b c _;have f:Xo (zc w g):=dD<|zd L c (Hm z.out);have d:Xo (zt g (j+1) 77 [I6 0,I6 0,Xh Xd,Xh Xd,Xh Xd,I6 0,I6 0]):=b;clear b c af ag U X ah ai aj;go_wp2;refine bodyPost_ret (q4 rfl _ rfl d.box underlying77 rfl Kr) rfl ⟨⟨ar0,8,rfl,l⟩,f⟩
 have l:Xo (Z6 m (k:Int) (y:Int) Xc a 0):=A.out 0 a (.inr ⟨rfl,rfl,h⟩);go_wp2_with (refine z6 rfl 77 (.tmp 8) (.tmp 59) rfl (j+1) rfl [I6 a.fr,I6 a.tz,Xh a.rd,Xh Xc,Xh a.sh,I6 a.file,I6 a.base] rfl T rfl Kr (by simp[Value.oneCell']) ?_)
 intro g b c _;have f:Xo (zc w g):=dD<|zd L c (Hm z.out);have d:Xo (zt g (j+1) 77 [I6 a.fr,I6 a.tz,Xh a.rd,Xh Xc,Xh a.sh,I6 a.file,I6 a.base]):=b;clear b c af ag U X ah ai aj;go_wp2;refine bodyPost_ret (q4 rfl _ rfl d.box underlying77 rfl Kr) rfl ⟨⟨a,0,Rr h.out,l⟩,f⟩
theorem zb.other (h:zb E b w A y) (a:w.grownBy w' (Xa k)) (d:zt w k t D) (ht:t≠E.ty):zb E b w' A y:=h.grown a fun v c e=>by
 cases e;exact h.ne d ht k c rfl
theorem za3 {g:Nat} {e:TypeId} (h:w.ownsRow b e k A p xs) (n:w.grownBy w' (Xa g)) (q:zt w g t D) (ht:t≠e):w'.ownsRow b e k A p xs:=by
 have i:A.ownBlock≠Xa g:=fun s=>by
  obtain⟨_,_,u,f⟩:=zbv h s;have r:w.heap[g]? =_:=q;grind
 refine⟨h.1,?_⟩;rcases h.2 with j|⟨v,c,d,rfl,l,f,m⟩;·exact .inl j
 exact .inr ⟨v,c,d,rfl,l,by rw[n.block v (aS.1 f).1 (fun e=>by cases e;exact i rfl)];exact f,m⟩
theorem zt.off {a:TypeId} {ds:List Xq} (h:zt w b t D) (g:zt w k a ds) (ht:t≠a):b≠k:=fun e=>by
 subst e;have c:w.heap[b]? =Xa (Xk D.toArray t (0,0)):=h;have d:w.heap[b]? =Xa (Xk ds.toArray a (0,0)):=g;grind
theorem zg0.other (h:zg0 k w V m) (cs:w.grownBy w' (Xa b)) (a:zt w b 97 D):zg0 k w' V m:=by obtain⟨v,⟨K,base,l,e,n⟩,t,u⟩:=h.fl;obtain⟨G,B,z,A,C,g,E⟩:=h.sp;refine⟨h.fs.other cs a Dc,h.sl.other cs a Dc,⟨za3 h.sb.1 cs a Dc,h.sb.2⟩,⟨za3 h.sq.1 cs a Dc,h.sq.2⟩,⟨za3 h.db.1 cs a Dc,h.db.2⟩,⟨za3 h.dq.1 cs a Dc,h.dq.2⟩,⟨v,⟨K,base.other cs a Dc,l,fun i x f d j=>⟨(e i x f d j).1,(e i x f d j).2.other cs a Dc⟩,n⟩,t,u⟩,h.ca.other cs a Dc,⟨G,B,z.other cs a Dc,A,C,g,fun i x y d p=>?_⟩,h.ap⟩;have c:=E i x y d p;exact⟨c.aF,c.ar.other cs a Dc,⟨c.tb.len,c.tb.aJ,fun s F H q r=>(c.tb.row s F H q r).other cs a Dc,c.tb.two⟩,c.arh,c.tbh⟩
theorem ChW.of (h:zg0 B w V m) (s:w0.heap.size<=B) (X:zc w0 w) (lo:w0.heap.size<=k) (u:zt w k 102 (chL V m)):ChW w0 k w V m:=by
 obtain⟨a7,r,M,a3,a4,a5,a6⟩:=h.sp;have b:∀{W:Xn} {g f K:Nat} {j:TypeId} {v:Xq} {N:List Xq},qH (Dr w0.heap.size k V) w W->w.ownsRow g j f v K N->B<=g->Qm.ty≠j/\qR.ty≠j/\jA.ty≠j/\102≠j->W.ownsRow g j f v K N:=fun p n d D=>zc3 n p fun U Y c=>by
  obtain⟨ab,ac,aa,ad⟩:=zbv n Y;rcases c with c|c|c|c|c;·omega
  ·subst c;have Q:w.heap[U]? =_:=u;grind
  ·obtain⟨y,C⟩:=h.fs.obj c
   grind
  ·obtain⟨y,C⟩:=h.ca.obj c
   grind
  obtain⟨y,C⟩:=M.obj c;grind
 have a:∀{W:Xn} {P:Type} {E:Elt P} {g:Nat} {v:Xq} {G:List P},qH (Dr w0.heap.size k V) w W->zb E g w v G->B<=g->Qm.ty≠E.ty/\qR.ty≠E.ty/\jA.ty≠E.ty/\102≠E.ty->zb E g W v G:=fun p n d D=>⟨b p n.1 d D,n.2⟩;refine⟨X,lo,u,h.fs.base s,h.ca.base s,⟨a7,M.base s,a3,fun i x L q Z W p=>?_⟩,fun W p=>?_⟩
 ·have e:=a6 i x L q Z;have l:B<=r i:=nT a4 (zgo a5 (nZ i));have a2:zaY (r i) (r (i+1)) W x L:=⟨e.aF,a p e.ar l Dc,⟨e.tb.len,e.tb.aJ,fun a1 v a8 I a0=>a p (e.tb.row a1 v a8 I a0) l Dc,e.tb.two⟩,e.arh,e.tbh⟩;exact a2.at
 obtain⟨lo,⟨a9,R,S,A,T⟩,H,ae⟩:=h.fl;have t:jW lo W (V.fl.x) m.fl:=⟨a9,a p R H Dc,S,fun i x z q F=>⟨(A i x z q F).1,a p (A i x z q F).2 H Dc⟩,T⟩;have d:=nR B;exact⟨(a p h.sl d Dc).at,zm.at ⟨b p h.sb.1 d Dc,h.sb.2⟩,zu.at ⟨b p h.sq.1 d Dc,h.sq.2⟩,zm.at ⟨b p h.db.1 d Dc,h.db.2⟩,zu.at ⟨b p h.dq.1 d Dc,h.dq.2⟩,t.new.now0⟩
theorem ChW.lower {u1:Xn} (h:ChW w1 k w V m) (u:w.grownBy u1 (Xa b)) (n:b<w1.heap.size) (l:zc w0 u1) (d:w0.heap.size<=w1.heap.size):ChW w0 k u1 V m:=by obtain⟨g,j,t,v⟩:=h.sp;have f:∀{W:Xn},qH (Dr w0.heap.size k V) u1 W->qH (Dr w1.heap.size k V) w W:=fun c=>(qH.grown u (show Dr w1.heap.size k V b from .inl n)).trans (c.wide fun p a=>a.elim (fun e=> .inl (Yh e d)) .inr);exact⟨l,nT d h.lo,h.box.beside u (fun p e=>by cases e;have:=h.lo;omega),(h.fs.grown u (fun p a e=>by cases e;have:=(h.fs.lt _ a).1;omega)).base d,(h.ca.grown u (fun p a e=>by cases e;have:=(h.ca.lt _ a).1;omega)).base d,⟨g,(j.grown u (fun p a e=>by cases e;have:=(j.lt _ a).1;omega)).base d,t,fun r x s q i W c=>v r x s q i W (f c)⟩,fun W c=>h.rest W (f c)⟩
theorem zmR (V:MaV) (m:Ma) (w:Xn) (k:zP w V m):
  Xp prog 32 #[Xi (mL V m).toArray] w fun e w'=>∃(p B:Nat) (V':MaV),e= Xl (Xj (Xa ⟨p,0,Xb⟩))/\zg0 B w' V' m/\w.heap.size<=B/\w.heap.size<=p/\zt w' p 102 (chL V' m)/\zc w w':=by obtain⟨b,a⟩:=kB (w.alloc (Xk (mL V m).toArray 41));have f:=gA a;have s:=xA a;have g:Xo (_=b):=a;clear a;have d:=zoP V m b (k.aA f);clear k;go_enter func32,ntmps32;go_upto_region 1 with fail;rw[g.out];obtain⟨t,u,v,x,y,z,A,C,D,E,h⟩:=s.bN;go_wp2_with fail;refine d.mono ?_;clear d t u v x y z A C D E h;rintro e c ⟨V',rfl,l,j⟩;have i:=dD (f.trans j);have r:Xo (zg0 b.heap.size c V' m):=l;have q:Xo (w.heap.size<=b.heap.size):=show _<=_ from bS f.out;clear l j;have n:Xo (zg0 b.heap.size (c.alloc (Xk (chL V' m).toArray 102)) V' m/\w.heap.size<=b.heap.size/\w.heap.size<=c.heap.size/\zt (c.alloc (Xk (chL V' m).toArray 102)) c.heap.size 102 (chL V' m)/\zc w (c.alloc (Xk (chL V' m).toArray 102))):=dD<|⟨r.aA (za _ _),q,bS i,zt.aE _ _ _ rfl,i.trans (za _ _)⟩;go_wp2;go_ret;exact⟨_,b.heap.size,V',rfl,n⟩
end
end Go.Proofs.YtkfjajbalegoeaaGreat
