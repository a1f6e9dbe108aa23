import Derived.Test.YtjjdljjhmcegdaaGreatPZ1
import Derived.Deep.DeepCutAuto
import Derived.Shelf.Bits.Mul64
namespace Go.Proofs.YtjjdljjhmcegdaaGreat
open Go.Value renaming slice→O,int→Xe,bool→Xh,agg→Xi,pointer→Xj,tuple→Xm
open Go.IntKind renaming i64→Xf,u8→Xg
open Go.Obj renaming cells→Xk
open Go.Ending renaming returned→Xl
open Go renaming World→Xn,Calls→Xp,Value→Xq
open Go.RowKit renaming Hid→Xo
open Option renaming some→Xa,none→Xb
open Bool renaming true→Xc,false→Xd
open List renaming replicate→Xr
open _root_.List renaming getElem?_mapIdx→Xs,length_set→Xt,ext_getElem?→Xu,take_of_length_le→Xx,flatMap_append→Xy,getElem?_append_left→Xz,countP_le_length→Yc,any_eq_true→Yd,length_take→Ye,getElem?_map→Yg,getElem?_of_mem→Yh,mem_range→Yi,map_nil→Yj,length_cons→Yk,mem_map→Ym,replicate_append_replicate→Yn,take_append_drop→Yo,take→Yp,drop→Yq,range→Ys,take_zero→Yt,mem_of_find?_eq_some→Yu,flatMap_cons→Yv,length→Yw,cons_append→Yx,length_drop→Yy,map_toArray→Yz,mem_append→Oa,nil_append→Ob,length_map→Oc,length_filter_le→Od,contains_iff_mem→Oe,reverse_append→Og,mem_map_of_mem→Oi,drop_replicate→Oj,find?_eq_none→Ok,pairwise_cons→Ol,reverse_cons→Oo,take_add_one→Oq
open Go.Sem renaming run_bind→Xv,run_pure→Yb
open Go.Act renaming put→Xw
open _root_.Nat renaming mul_le_mul_right→Ya,lt_of_lt_of_le→Yf,min_eq_left→Yl,add_mul→Of,min→Ov
open _root_.Bool renaming eq_iff_iff→Yr
open _root_.Array renaming toList_modify→Oh,forIn_toList→Om,toList_push→Ou
open Go.Addr renaming add_lit→Ot
set_option maxRecDepth 100000
set_option maxHeartbeats 4000000
variable{B B0 B1 b cl fi hi ix j:Nat} {L:List Int} {Q:Exit->Act->Xn->Prop} {T:List (Nat->En)} {V:MaV} {W w' w0 w1:Xn} {l:List Ar} {m m':Ma} {o:Oper} {ops:Array Oper} {s z:Int} {t:TypeId} {us vs xs:List Xq} {vl vt:Sli}
open Go.Proofs.Tryz
section
open Go.RowKit
theorem zfB {n:Nat} {b:List (Int × List Int)} (d:n<=80) (c:b.length<=400) (a:∀q∈b,∃i:Nat,q.1=(i:Int)/\i<n):zF n b=0:=by
 unfold zF;rw[kF Wm,kF Wm,kF]
 intro h;obtain⟨q,c,d⟩:=Yd.1 h;obtain⟨i,e,b⟩:=a q c
 simp[jn,e,b]at d
theorem zhe {n:Nat} {a:List (Int × List Int)} {m:Int} (h:zF n a=0) {i:Nat} (b:m=(i:Int)) (hi:i<n):zk n a m=0:=by
 unfold zk;rw[kE h,kE]
 simp[jn,b,hi]
theorem QX {n:Nat} {a:List (Int × List Int)} (h:zF n a=0) (m:Int):zk n a m=if jn m n then 0 else 3:=by
 unfold zk;rw[kE h]
theorem ZH (a:List (List Int)) (b:List (Int × List Int)):(qW a b).length=a.length:=by
 unfold qW
 split <;> simp
theorem ZL {b:List (List Int)} {a:List (Int × List Int)} {m:Int} {p:List Int} (h:zk b.length a m=0):zF (qW b a).length (qT a m p)=0:=by
 obtain⟨a,i,c,b⟩:=qo h;obtain⟨e,d,d⟩:=jp a;rw[ZH];refine zfB e ?_ fun q a=>?_
 ·unfold qT
  split
  ·simp;omega
  simp;omega
 unfold qT at a
 rcases Oa.1 a with a|a
 ·split at a
  ·exact d q (List.mem_of_mem_tail a)
  exact d q a
 simp at a
 subst a;exact⟨i,c,b⟩
def zbv:Option (Int × List Int)->List Int->List Int
 | some q,_=>q.2
 | none,d=>d
theorem J6 {b:List (List Int)} {a:List (Int × List Int)} {m:Int} (h:zk b.length a m=0):qv b a m=zbv (a.reverse.find? (fun q=>q.1 == m)) (b.getD m.toNat zp):=by
 unfold qv;rw[kE h]
 cases a.reverse.find? (fun q=>q.1 == m) <;> rfl
theorem zdT {b:List (List Int)} {a:List (Int × List Int)} {m:Int} {p:List Int} (h:zk b.length a m=0):zk (qW b a).length (qT a m p) m=0/\qv (qW b a) (qT a m p) m=p:=by
 have f:=ZL (p:=p) h;obtain⟨_,i,d,c⟩:=qo h;have e:zk (qW b a).length (qT a m p) m=0:=zhe f d (Rx ZH c)
 refine⟨e,?_⟩;rw[J6 e]
 simp[qT,zbv]
theorem zcv {b:List (List Int)} {a:List (Int × List Int)} {m:Int} {p:List Int} (h:zk b.length a m=0) (o:Int):zk (qW b a).length (qT a m p) o=zk b.length a o:=by
 rw[QX (ZL h),QX (qo h).1,ZH]
theorem zap {g:List (List Int)} {a:List (Int × List Int)} {m:Int} {p:List Int} (k:zk g.length a m=0) {o:Int} (t:¬o=m):qv (qW g a) (qT a m p) o=qv g a o:=by
 have l:=zcv (p:=p) k o
 by_cases f:zk g.length a o=0
 ·rw[J6 f,J6 (l.trans f)];have d:(m == o)=Xd:=by simpa using fun r=>t (Eq.symm r)
  unfold qT qW
  by_cases c:a.length=400
  ·rw[kE c,kE c]
   cases a with
   | nil=>simp at c
   | cons h u=>
    obtain⟨_,w,e,s⟩:=qo f;obtain⟨x,b,i⟩:=(jp (qo k).1).2.2 h Sm
    simp only[List.tail_cons,List.headD_cons,Og,Oo,List.reverse_nil,Ob,Yx,List.find?_cons,d,List.find?_append]
    cases v:u.reverse.find? (fun q=>q.1 == o)with
    | some q=>rfl
    | none=>
     simp only[Option.none_or]
     cases n:(h.1 == o)with
     | true=>
      have:h.1=o:=Si n
      subst this;simp only[b,tN,zbv]
      simp[i]
     | false=>
      have:h.1≠o:=Si n
      simp only[List.find?_nil,zbv];rw[gD,gD,sN];rw[b,e]at this;rw[b,e];simp only[tN];omega
  rw[kF c,kF c]
  simp[d]
 have j:¬zk (qW g a).length (qT a m p) o=0:=Rx l f
 unfold qv;rw[kF f,kF j]
theorem Qm (a) (n c:Nat) (Q) (h:List (Int × List Int)) (w) (y:jz w Q h):
  Xp prog 51 #[Xi #[O a n c,Q]] w fun e w'=>e= Xl (I6 (zF n h))/\zc w w':=by
 have d:Xo (zF n h=if 80<n then 4 else if 400<h.length then 4 else if h.any (fun q=>!jn q.1 n)then 3 else 0):=rfl
 have u:h.length<=9223372036854775807:=Hm y.2.2
 obtain⟨U,V,rfl,l⟩:=y.rows;have C:=dD l;clear y l;obtain⟨i,A⟩:=kA h.length;rw[A.out]at d u⊢
 by_cases M:80<n
 ·have E:(80:Int)< (n:Int):=Wm
  rw[kE M]at d
  go_enter func51,ntmps51
  go_wp2;go_ret;exact⟨Rr d.out,za _ _⟩
 have E:¬(80:Int)< (n:Int):=Wm
 rw[kF M]at d
 by_cases N:400<i
 ·have F:(400:Int)< (i:Int):=Wm
  rw[kE N]at d
  go_enter func51,ntmps51
  go_wp2;go_ret;exact⟨Rr d.out,za _ _⟩
 have F:¬(400:Int)< (i:Int):=Wm
 rw[kF N]at d;obtain⟨S,k⟩:=kB (w.alloc (Xk #[O a n c,O U i V] 34));have j:=gA k
 have T:=xA k
 have D:=dD k;clear k
 go_enter func51,ntmps51
 go_wp2;rw[D.out]
 go_loopg [4,18] i (fun W _ K wr=>∃g:Nat,g<=i/\i - g<=W/\K=I6 g/\Xo (zc S wr)/\Xo (∀(m:Nat) q,m<g->h[m]? =Xa q->jn q.1 n=Xc))
 exact⟨0,nZ _,Wm,rfl,zc.refl _,fun m q v=>absurd v (nL _)⟩
 obtain⟨g,Z,ai,rfl,t,L⟩:=hrel
 by_cases r:g<i
 ·have x:=kC r
  obtain⟨q,B⟩:∃q,Xo (h[g]? =Xa q):=⟨_,gE (Rx A.out r)⟩
  obtain⟨aj,z,a0,a1,a3,a4,a5,a6,a7,a8,rfl,rfl,P⟩:=C.out g q B.out;obtain⟨a9,aa,ab,ac,ad,ae,af,ag,ah⟩:=P wr (j.trans t);have X:=T.grew t.out;have ak:=X.c 0 rfl;have al:=X.lt;clear P
  by_cases f:jn z n=Xc
  ·have p:=f;unfold jn at p
   simp at p
   have G:¬z<0:=Wm
   have H:¬(n:Int)<=z:=Wm
   have R:=dD f;clear f p;go_wp2
   go_roundg (i -(g+1))
   case measure=>omega
   refine⟨g+1,Wm,Wm,Gn,t.trans (za _ _),(show Xo _ from fun m I v s=>?_)⟩
   by_cases e:m=g
   ·subst e;rw[B.out]at s;cases s;exact R.out
   exact L m I Wm s
  have b:(h.any fun q=>!jn q.1 n)=Xc:=Yd.2 ⟨_,mG B,Si f⟩
  rw[kE b]at d;unfold jn at f
  simp at f
  clear b
  by_cases G:z<0
  ·clear f;go_wp2;go_ret;exact⟨Rr d.out,(j.trans t).trans (za _ _)⟩
  have H:(n:Int)<=z:=f Wm
  clear f;go_wp2;go_ret;exact⟨Rr d.out,(j.trans t).trans (za _ _)⟩
 have x:=kD r
 have:g=i:=Wm
 subst this;have b:¬(h.any fun q=>!jn q.1 n)=Xc:=fun Y=>by
  obtain⟨q,y,f⟩:=Yd.1 Y;obtain⟨m,v⟩:=Yh y;have:=L.out m q (by rw[<-A.out];exact(gS.1 v).1) v
  rw[this]at f
  simp at f
 rw[kF b]at d;clear b;go_wp2;go_ret;exact⟨Rr d.out,j.trans t⟩
theorem zf4 {r:List (Int × List Int)} {q:Int × List Int} {m:Int} {d:List Int}:zbv ((r++ [q]).reverse.find? (fun q=>q.1 == m)) d=if q.1 == m then q.2 else zbv (r.reverse.find? (fun q=>q.1 == m)) d:=by
 rw[Og];simp only[Oo,List.reverse_nil,Ob,Yx,List.find?_cons]
 cases a:(q.1 == m) <;> simp[zbv]
theorem zhx (d) (g:List (List Int)) (c:List (Int × List Int)) (m:Int) (w) (I:ZB w d g c) (j:¬zk g.length c m=0):
  Xp prog 39 #[d,I6 m] w fun e w'=>e= Xl (Xm #[Xi (pgc zp).toArray,I6 (zk g.length c m)])/\zc w w':=by
 obtain⟨a1,a4,rfl,H,A⟩:=I;have K:=dD A;obtain⟨C,E,rfl,_⟩:=H.rows;obtain⟨D,F,rfl,_⟩:=A.rows;clear H A;have b:Xo (zk g.length c m=if zF g.length c=0 then(if jn m g.length then 0 else 3)else zF g.length c):=rfl;obtain⟨M,f⟩:=kB ((w.alloc (Xk #[O C g.length E,O D c.length F] 34)).alloc (Xk #[U8 0,U8 0,U8 0,U8 0,U8 0,U8 0,U8 0,U8 0] 60));have k:=gD2 f
 have z:=x2a f
 have B:=x2b f
 have a:=Qm C g.length E (O D c.length F) c M (K.grew k);obtain⟨r,L⟩:=kA (zF g.length c);rw[L.out]at a b;obtain⟨t,q⟩:=kA g.length;obtain⟨a3,y⟩:=kA c.length;rw[q.out]at b j;rw[q.out,y.out]at a f z⊢;have s:=dD f;clear f;have h:(Xo (zk t c m=r)/\(r != 0)=Xc)\/(Xo (zk t c m=3)/\(r != 0)=Xd/\Xo (r=0)/\m<0)\/(Xo (zk t c m=3)/\(r != 0)=Xd/\Xo (r=0)/\¬m<0/\(t:Int)<=m):=by
  by_cases p:r=0
  ·subst p;rw[kE rfl]at b;have i:¬jn m t=Xc:=fun e=>by rw[b.out,kE e]at j;exact j rfl
   rw[kF i]at b;unfold jn at i
   simp at i
   by_cases x:m<0
   ·exact .inr (.inl ⟨b,rfl,rfl,x⟩)
   exact .inr (.inr ⟨b,rfl,rfl,x,i Wm⟩)
  rw[kF p]at b;exact .inl ⟨b,Si p⟩
 clear j
 rcases h with⟨u,p⟩|⟨u,p,G,x⟩|⟨u,p,G,x,a2⟩
 ·rw[u.out]
  go_enter func39,ntmps39
  go_wp2_with (
   go_at_call 51;rw[s.out];refine a.mono ?_;clear a;rintro e N ⟨rfl,n⟩
   have X:=(z.grew n).c 0 rfl;have Y:=B.grew n;obtain⟨P,Q,R,S,T,U,V,W⟩:=Y.c8;have Z:=Y.f)
  refine bodyPost_ret (v:= Xm #[Xi #[U8 0,U8 0,U8 0,U8 0,U8 0,U8 0,U8 0,U8 0],I6 r]) (by simp[results,Tryz.results39,go_sem, *]) rfl ⟨rfl,?_⟩
  have l:=k.trans n;iterate 8 (refine zq ?_ Sm _)
  exact l
 all_goals
  rw[u.out];have a0:=G.out;subst a0
  go_enter func39,ntmps39
  go_wp2_with (
   go_at_call 51;rw[s.out];refine a.mono ?_;clear a;rintro e N ⟨rfl,n⟩
   have X:=(z.grew n).c 0 rfl;have Y:=B.grew n;obtain⟨P,Q,R,S,T,U,V,W⟩:=Y.c8;have Z:=Y.f)
  refine bodyPost_ret (v:= Xm #[Xi #[U8 0,U8 0,U8 0,U8 0,U8 0,U8 0,U8 0,U8 0],I6 3]) (by simp[results,Tryz.results39,go_sem, *]) rfl ⟨rfl,?_⟩
  have l:=k.trans n;iterate 8 (refine zq ?_ Sm _)
  exact l
theorem zjw (d) (j:List (List Int)) (b:List (Int × List Int)) (i:Nat) (w) (ca:ZB w d j b) (B:zk j.length b (i:Int)=0):
  Xp prog 39 #[d,I6 (i:Int)] w fun e w'=>e= Xl (Xm #[Xi (pgc (qv j b (i:Int))).toArray,I6 0])/\zc w w':=by
 obtain⟨I,ct,aj,ai⟩:=qo B;have bm:i<j.length:=Wm
 have l:=J6 B;simp only[tN]at l;obtain⟨cm,q,rfl,bl,ac⟩:=ca;have bt:=dD ac;have W:b.length<=9223372036854775807:=Hm ac.2.2
 obtain⟨cl,ba,rfl,Y⟩:=bl.rows;obtain⟨b9,bb,rfl,Z⟩:=ac.rows;have af:=dD Z;obtain⟨an,A⟩:∃an,j[i]? =Xa an:=⟨_,gE bm⟩;obtain⟨bq,E,F,G,H,K,L,M,N,am,rfl,m⟩:=Y i an A;subst am;have S:=dD m;rw[show j.getD i zp=[E,F,G,H,K,L,M,N]from by rw[gD,A];rfl]at l
 have bs:=dD l
 clear bl ac Y Z m A l;obtain⟨ah,f⟩:=kB ((w.alloc (Xk #[O (Xa bq) j.length ba,O b9 b.length bb] 34)).alloc (Xk #[U8 0,U8 0,U8 0,U8 0,U8 0,U8 0,U8 0,U8 0] 60));have n:=gD2 f
 have aa:=x2a f
 have ap:=x2b f
 have c:=Qm (Xa bq) j.length ba (O b9 b.length bb) b ah (bt.grew n);rw[I]at c;obtain⟨bp,P⟩:=kA j.length;obtain⟨C,k⟩:=kA b.length;rw[P.out]at bm;rw[k.out]at W;rw[P.out,k.out]at c f aa⊢;have ag:Xo (_=ah):=f;have c9:¬(i:Int)<0:=Wm
 have cp:¬(bp:Int)<=(i:Int):=Wm
 have cr:(i:Int)< (bp:Int):=Wm
 clear f I aj ai B
 go_enter func39,ntmps39
 go_wp2_with (
  go_at_call 51;rw[ag.out];refine c.mono ?_;clear c;rintro e U ⟨rfl,V⟩
  have ae:Xo (zc ah U):=V;have bv:=(aa.grew V).c 0 rfl;have bw:=(aa.grew V).c 1 rfl;have bx:=(aa.grew V).lt;obtain⟨bc,bd,be,bf,bg,bh,bi,bj⟩:=S.out U (n.trans V))
 have bu:Xo (∀(ad:Nat) q,b[ad]? =Xa q->b.take (ad+1)=b.take ad++ [q]):=dD<|fun ad q c8=>by
  obtain⟨h,rfl⟩:=gS.1 c8;exact List.take_succ_eq_append_getElem h
 clear bv bw bx bc bd be bf bg bh bi bj
 go_loopg [9,34] C (fun bz _ ao wr=>∃(a:Nat) (p r s t u x y z:Int),a<=C/\C - a<=bz/\ao=I6 a/\Xo (zc w wr)/\Xo (Box wr U.heap.size [U8 p,U8 r,U8 s,U8 t,U8 u,U8 x,U8 y,U8 z])/\Xo (Box wr (w.heap.size+1) [U8 0,U8 0,U8 0,U8 0,U8 0,U8 0,U8 0,U8 0])/\Xo (zbv ((b.take a).reverse.find? (fun q=>q.1 ==(i:Int))) [E,F,G,H,K,L,M,N]=[p,r,s,t,u,x,y,z]))
 exact⟨0,E,F,G,H,K,L,M,N,nZ _,Wm,rfl,(n.trans ae).trans (za _ _),Box.top U [U8 E,U8 F,U8 G,U8 H,U8 K,U8 L,U8 M,U8 N] _ rfl,(ap.grew ae).alloc _,rfl⟩
 obtain⟨a,p,r,s,t,u,x,y,z,cc,cs,rfl,a9,D,a8,Q⟩:=hrel;have bk:w.heap.size+2<=U.heap.size:=by have co:=bS ae.out;have c9:=ap.lt;omega
 by_cases h:a<C
 ·have X:=kC h
  obtain⟨q,R⟩:∃q,Xo (b[a]? =Xa q):=⟨_,gE (Rx k.out h)⟩
  obtain⟨de,bo,ar,au,av,aw,ax,ay,az,b8,rfl,rfl,bn⟩:=af.out a q R.out;obtain⟨bc,bd,be,bf,bg,bh,bi,bj,cn⟩:=bn wr a9.out;have T:=bu.out a _ R.out;clear bn
  by_cases ak:bo=(i:Int)
  ·subst ak;obtain⟨cd,ce,cf,cg,ch,ci,cj,ck⟩:=D.c8;have cu:=D.f;have cv:=D.lt;have g:Xo (zbv ((b.take (a+1)).reverse.find? (fun q=>q.1 ==(i:Int))) [E,F,G,H,K,L,M,N]=[ar,au,av,aw,ax,ay,az,b8]):=dD<|by rw[T,zf4];simp
   go_wp2
   go_roundg (C -(a+1))
   case measure=>omega
   refine⟨a+1,ar,au,av,aw,ax,ay,az,b8,Wm,Wm,Gn,?_,?_,?_,g⟩
   ·show zc _ _
    refine zc.trans ?_ (za _ _);iterate 8 (refine zq ?_ (by simp;omega) _)
    exact a9.out
   ·exact((((((((D.set 0 _).set 1 _).set 2 _).set 3 _).set 4 _).set 5 _).set 6 _).set 7 _).alloc _
   show Box _ _ _
   refine Box.alloc ?_ _;iterate 8 (refine Box.other ?_ (by simp;omega) _)
   exact a8.out
  have al:(bo ==(i:Int))=Xd:=Si ak
  have g:Xo (zbv ((b.take (a+1)).reverse.find? (fun q=>q.1 ==(i:Int))) [E,F,G,H,K,L,M,N]=[p,r,s,t,u,x,y,z]):=dD<|by rw[T,zf4];simp only[al];exact Q.out
  clear ak;go_wp2
  go_roundg (C -(a+1));exact⟨a+1,p,r,s,t,u,x,y,z,Wm,Wm,Gn,a9.trans (za _ _),D.alloc _,a8.alloc _,g⟩;omega
 have X:=kD h
 have:a=C:=Wm
 subst this;obtain⟨cd,ce,cf,cg,ch,ci,cj,ck⟩:=D.c8;obtain⟨cw,cx,cy,cz,d9,da,db,dc⟩:=a8.c8;have dd:=a8.f;have br:Xo (qv j b (i:Int)=[p,r,s,t,u,x,y,z]):=dD<|by rw[bs.out,<-Q.out,Xx (by rw[k.out];exact nR _)]
 go_wp2;refine bodyPost_ret (v:= Xm #[Xi #[U8 p,U8 r,U8 s,U8 t,U8 u,U8 x,U8 y,U8 z],I6 0]) (by simp[results,Tryz.results39,go_sem, *]) rfl ⟨Rr br.out,?_⟩
 iterate 8 (refine zq ?_ Sm _)
 exact a9.out
theorem zcH (d) (a:List (List Int)) (b:List (Int × List Int)) (m:Int) (w) (f:ZB w d a b):
  Xp prog 39 #[d,I6 m] w fun e w'=>e= Xl (Xm #[Xi (pgc (qv a b m)).toArray,I6 (zk a.length b m)])/\zc w w':=by
 by_cases c:zk a.length b m=0
 ·obtain⟨_,i,rfl,_⟩:=qo c;rw[c];exact zjw d a b i w f c
 rw[show qv a b m=zp from kF c]
 exact zhx d a b m w f c
def ZF (p:List Int) (idx size:Int) (k:Nat):List Int:=p.mapIdx fun i z=>if i<k/\size<=8*idx+(i:Int)then 0 else z
theorem zkn (p) (b a:Int):ZF p b a 0=p:=by
 unfold ZF
 apply Xu
 intro i;rw[Xs]
 cases p[i]? <;> simp
theorem zgN (p:List Int) (b a:Int) (k:Nat):(ZF p b a k).length=p.length:=by unfold ZF;simp
theorem zgP {p:List Int} {b a:Int} {k:Nat} (h:p.length<=k):ZF p b a k=jV p b a:=by
 unfold ZF jV
 apply Xu
 intro i;rw[Xs,Xs]
 cases a:p[i]? with
 | none=>rfl
 | some z=>
  have:=(gS.1 a).1;have a:i<k:=Wm
  simp[a]
theorem zgO {p:List Int} {b a:Int} {k:Nat} (c:k<p.length) (h:a<=8*b+(k:Int)):(ZF p b a k).set k 0=ZF p b a (k+1):=by
 unfold ZF
 apply Xu
 intro i
 by_cases e:i=k
 ·subst e;rw[sF (Si c),Xs,gE c]
  simp[h]
 rw[sN (fun h=>e h.symm),Xs,Xs]
 cases p[i]? with
 | none=>rfl
 | some z=>
  have:i<k↔i<k+1:=Wm
  simp[this]
theorem zmk {p:List Int} {b a:Int} {k:Nat} (h:¬a<=8*b+(k:Int)):ZF p b a k=ZF p b a (k+1):=by
 unfold ZF
 apply Xu
 intro i;rw[Xs,Xs]
 cases p[i]? with
 | none=>rfl
 | some z=>
  by_cases e:i=k
  ·subst e
   simp[h]
  have:i<k↔i<k+1:=Wm
  simp[this]
theorem ziB {a:List (List Int)} {c:List (Int × List Int)} {b:Int} (d:∀p∈a,p.length=8) (e:∀q∈c,q.2.length=8):(qv a c b).length=8:=by
 unfold qv
 split
 ·cases h:c.reverse.find? (fun q=>q.1 == b)with
  | some q=>exact e q (by have:=Yu h;simpa using this)
  | none=>
   simp only;rw[gD]
   cases c:a[b.toNat]? with
   | none=>rfl
   | some p=>exact d p (mG c)
 rfl
theorem zaF (V) (m:Ma) (fi ix:Nat) (f:Fl) (n:Int) (w) (t:zy w V m) (b0:∀c∈m.ca,Jw fi ix c=Xc->0<=c.fr/\c.fr<m.fs.length) (bd:m.fl[fi]? =Xa f) (A:f.bl[ix]? =Xa n) (dr:ix<=1000):
  Xp prog 33 #[Xi (mL V m).toArray,I6 (fi:Int),I6 (ix:Int)] w fun e w'=>e= Xl (Xi (pgc (qn m fi ix)).toArray)/\(qn m fi ix).length=8/\zc w w':=by
 have ap:Xo (∀W,zc w W->Xp prog 39 #[Xi #[V.db.x,V.dq.x],I6 n] W fun e w'=>e= Xl (Xm #[Xi (pgc (qv m.db m.dq n)).toArray,I6 (zk m.db.length m.dq n)])/\zc W w'):=dD<|fun W cm=>zcH _ m.db m.dq n W ⟨_,_,rfl,(t.grew cm).db,(t.grew cm).dq⟩
 have aq:Xo ((qv m.db m.dq n).length=8):=ziB t.db.2.1 t.dq.2.1;obtain⟨⟨bb,aw,bw⟩,ch,ac,af,aa,ab,⟨bx,q,S⟩,⟨x,a,Q⟩,ae⟩:=V;dsimp only[mL]at ap⊢;obtain⟨cc,-,-,-,-,-,cd,ce,-⟩:=t.ns;dsimp only at cc cd ce;have bj:Xo (zdA w bb m.fs):=t.frs;have bg:Xo (zeB w x m.ca):=t.cas;have am:=dD cc.symm;have an:=dD ce.symm;have dk:a<=9223372036854775807:=Hm t.ca.short
 obtain⟨_,_,Y,_,b2⟩:=qg.rows t.fl;have bi:Xo (J1 w bx m.fl):=dD<|by
  simp only[vJ]at Y;rw[Y.1];exact b2
 have bm:=dD b0;have dm:fi<q:=by rw[cd];exact(gS.1 bd).1
 obtain⟨bv,rfl,dc,e4,az,b1⟩:=bi.out fi f bd;have H:=dD b1;obtain⟨_,_,U,ay⟩:=az.nums;have c6:=(gS.1 A).1;obtain⟨au,F,d⟩:=ay ix n A;have be:Xo (dc=Xa au/\∀W,zc w W->W.cell? (au.add ix)=Xa (I6 n)):=show _/\_ from⟨by simp only[vJ]at U;rw[U.1];exact F,d⟩
 obtain⟨dd,bf⟩:=kA f.bl.length;rw[bf.out]at c6 H;have D:Xo (∀c,m.ca.find? (Jw fi ix)=Xa c->qn m fi ix=pgL (zU m c.fr).p):=dD<|fun c s=>by unfold qn;rw[s]
 have E:Xo (m.ca.find? (Jw fi ix)=Xb->qn m fi ix=if n<0 then zp else jV (qv m.db m.dq n) ix f.size):=dD<|fun s=>by
  have co:m.fl.getD ((fi:Int).toNat) ⟨0,[]⟩=f:=by rw[tN,gD,bd];rfl
  have dh:zdQ m fi ix=n:=by unfold zdQ;rw[co,tN,gD,A];rfl
  have di:Qb m fi=f.size:=by unfold Qb;rw[co]
  unfold qn;rw[s];simp only[dh,di]
 obtain⟨aj,C⟩:=kA (qn m fi ix);rw[C.out]at D E⊢;clear t cc cd ce Y b2 b0 bd A b1 az U ay F d;have dn:(fi:Int)< (q:Int):=Wm
 have dl:(ix:Int)< (dd:Int):=Wm
 obtain⟨bt,r⟩:=kB ((w.alloc (Xk #[O bb aw bw,I6 m.hand,ch.x,ac.x,af.x,aa.x,ab.x,O (Xa bv) q S,I6 m.cnt,O x a Q,ae.x] 41)).alloc (Xk #[U8 0,U8 0,U8 0,U8 0,U8 0,U8 0,U8 0,U8 0] 60));have h:=gD2 r
 have ag:=x2a r
 have b9:Xo (Box bt (w.heap.size+1) (pgc zp)):=dD<|by rw[<-r];exact Box.top _ (pgc zp) _ Sm
 have bq:Xo (_=bt):=r;clear r
 go_enter func33,ntmps33
 go_upto_region 1 with fail;rw[bq.out];have e3:=ag.c 9 rfl;go_wp2;clear e3
 go_loopg [16] a (fun bz cf wr=>∃g:Nat,g<=a/\a - g<=bz/\cf=I6 g/\Xo (zc bt wr)/\Xo (∀(j:Nat) c,j<g->m.ca[j]? =Xa c->Jw fi ix c=Xd))
 exact⟨0,nZ _,Wm,rfl,zc.refl _,fun j c I=>absurd I (nL _)⟩
 obtain⟨g,ds,dq,rfl,p,br⟩:=hrel
 by_cases a0:g<a
 ·have b5:=kC a0
  obtain⟨c,C⟩:∃c,Xo (m.ca[g]? =Xa c):=⟨_,gE (Rx an.out a0)⟩
  obtain⟨da,rfl,b4⟩:=bg.out g c C.out;obtain⟨av,R,ck⟩:=b4 wr (h.trans p);clear b4;go_upto_region 4 with fail;obtain⟨cv,y⟩:=kB (wr.alloc (Xk #[I6 c.file,I6 c.idx,I6 c.fr] 93));have k:=gT y p
  have cr:=xA y
  rw[y];clear y av R ck;obtain⟨e5,e6,df⟩:=cr.c3;have ao:Xo (Jw fi ix c=Xd->∀(j:Nat) c,j<g+1->m.ca[j]? =Xa c->Jw fi ix c=Xd):=dD<|fun dj j de I X=>by
   by_cases e:j=g
   ·subst e;rw[C.out]at X;cases X;exact dj
   exact br j de Wm X
  by_cases T:c.file=(fi:Int)
  ·have c3:(c.file ==(fi:Int))=Xc:=by simp[T]
   by_cases ah:c.idx=(ix:Int)
   ·have c4:(c.idx ==(ix:Int))=Xc:=by simp[ah]
    have al:Xo (Jw fi ix c=Xc):=dD<|by simp[Jw,T,ah]
    have bh:Xo (m.ca.find? (Jw fi ix)=Xa c):=dD<|by
     rw[List.find?_eq_some_iff_getElem];refine⟨al,g,(gS.1 C).1,(gS.1 C).2,fun j I=>?_⟩
     have:=br.out j _ I (gE (Hm ((gS.1 C).1)))
     simp[this]
    obtain⟨dv,dw⟩:=bm.out c (mG C) al.out;obtain⟨ai,c9⟩:∃ai:Nat,c.fr=(ai:Int):=⟨c.fr.toNat,Wm⟩
    have ca:ai<aw:=by rw[<-am.out];omega
    have dt:(ai:Int)< (aw:Int):=Wm
    obtain⟨b8,ci⟩:∃b8,Xo (m.fs[ai]? =Xa b8):=⟨_,gE (Rx am.out ca)⟩
    have b:Xo (aj=pgL b8.p):=dD<|by
     rw[D.out c bh.out,c9];unfold zU;rw[tN,gD,ci.out];rfl
    rw[c9]at df;clear T ah dv dw c9;go_upto_region 5 with fail;obtain⟨db,b7,b4⟩:=bj.out ai b8 ci.out;obtain⟨av,R,ck,e7,e8,e9,ea,eb,-⟩:=b4 cv (h.trans k);have dx:=(ag.grew k).c 0 rfl;rw[b7]at dx;have cz:=dD (b9.grew k);clear b4 b7
    go_wp2_with (refine zr rfl 60 (.tmp 6) (.tmp 37) rfl (w.heap.size+1) rfl (pgc (pgL b8.p)) rfl cz rfl zqL (jd _) ?_)
    intro N d Z _;have l:Xo (zc w N):=dD<|zd (h.trans k) Z Wm
    go_wp2;refine bodyPost_ret (zX rfl _ rfl d underlying60 rfl zqL) rfl ⟨by rw[b.out],Rr b.out,l⟩
   have c4:(c.idx ==(ix:Int))=Xd:=by simp[ah]
   have M:Xo (∀(j:Nat) c,j<g+1->m.ca[j]? =Xa c->Jw fi ix c=Xd):=ao.out (by simp[Jw,ah])
   clear T ah;go_wp2
   go_roundg (a -(g+1));exact⟨g+1,Wm,Wm,Gn,k,M⟩;omega
  have c3:(c.file ==(fi:Int))=Xd:=by simp[T]
  have M:Xo (∀(j:Nat) c,j<g+1->m.ca[j]? =Xa c->Jw fi ix c=Xd):=ao.out (by simp[Jw,T])
  clear T;go_wp2
  go_roundg (a -(g+1));exact⟨g+1,Wm,Wm,Gn,k,M⟩;omega
 have b5:=kD a0
 have b3:g=a:=Wm
 have bo:Xo (m.ca.find? (Jw fi ix)=Xb):=dD<|by
  rw[Ok];intro c s;obtain⟨j,I⟩:=Yh s;have:=br.out j c (by rw[b3,<-an.out];exact(gS.1 I).1) I
  simp[this]
 have b:=dD<|E.out bo.out;clear b3;go_upto_region 7 with fail;have cp:=(ag.grew p).c 7 rfl;obtain⟨av,R⟩:=H.out wr (h.trans p);obtain⟨ax,d⟩:=be.out;rw[ax]at R;have dg:=d wr (h.trans p);clear ax d av;have d9:=dD (b9.grew p)
 by_cases cn:n<0
 ·rw[kE cn]at b
  go_wp2_with (refine zr rfl 60 (.tmp 6) (.tmp 51) rfl (w.heap.size+1) rfl (pgc zp) rfl d9 rfl zqL (jd _) ?_)
  intro N d Z _;have l:Xo (zc w N):=dD<|zd (h.trans p) Z Wm
  go_wp2;refine bodyPost_ret (zX rfl _ rfl d underlying60 rfl zqL) rfl ⟨by rw[b.out],Rr b.out,l⟩
 rw[kF cn]at b;have dy:=(ag.grew p).c 5 rfl;have dz:=(ag.grew p).c 6 rfl;have b6:=ap.out wr (h.trans p);go_wp2_with fail;refine b6.mono ?_;clear b6 dy dz cp R dg;rintro e N ⟨rfl,cl⟩;obtain⟨du,ct⟩:=kA (qv m.db m.dq n);rw[ct.out]at b aq⊢;have l:=dD (p.trans cl);clear cl;obtain⟨a2,a3,a4,a5,a6,a7,a8,a9,rfl⟩:=zdB du aq.out;simp only[pgc,mP,Yj];go_upto_region 11 with fail;obtain⟨cw,z⟩:=kB (N.alloc (Xk #[U8 a2,U8 a3,U8 a4,U8 a5,U8 a6,U8 a7,U8 a8,U8 a9] 60));have L:=gT z l
 have cj:Xo (Box cw N.heap.size (pgc (ZF [a2,a3,a4,a5,a6,a7,a8,a9] ix f.size 0))):=dD<|by rw[<-z,zkn];exact Box.top _ (pgc [a2,a3,a4,a5,a6,a7,a8,a9]) _ rfl
 have v:=dD<|(b9.grew l).lt
 rw[z];clear z;obtain⟨B,bp⟩:=kA N.heap.size;rw[bp.out]at cj v⊢;go_wp2
 go_loopg [59] 8 (fun bz cg wr=>∃i:Nat,i<=8/\8 - i<=bz/\cg=I6 i/\Xo (zc w wr)/\Xo (Box wr w.heap.size [O bb aw bw,I6 m.hand,ch.x,ac.x,af.x,aa.x,ab.x,O (Xa bv) q S,I6 m.cnt,O x a Q,ae.x])/\Xo (Box wr (w.heap.size+1) (pgc zp))/\Xo (Box wr B (pgc (ZF [a2,a3,a4,a5,a6,a7,a8,a9] ix f.size i))))
 exact⟨0,nZ _,Wm,rfl,h.trans L,ag.grew L,b9.grew L,cj⟩
 obtain⟨i,ec,dp,rfl,u,bu,P,ar⟩:=hrel
 by_cases G:i<8
 ·have a1:(i:Int)<8:=Wm
  obtain⟨av,R⟩:=H.out wr u.out;have cp:=bu.c 7 rfl;clear R;obtain⟨cq,cb⟩:∃cq,(ZF [a2,a3,a4,a5,a6,a7,a8,a9] ix f.size i)[i]? =Xa cq:=⟨_,gE (Rx zgN G)⟩
  have ed:=ar.c i (zd5 cb);have ee:=ar.f
  by_cases s:f.size<=8*(ix:Int)+(i:Int)
  ·have c7:decide (f.size<=8*(ix:Int)+(i:Int))=Xc:=Si s
   have bs:Xo (Box (wr.setCell ⟨B,i,Xb⟩ (U8 0)) B (pgc (ZF [a2,a3,a4,a5,a6,a7,a8,a9] ix f.size (i+1)))):=dD<|by rw[<-zgO (by exact G) s,zcL];exact ar.set i _
   have cy:Xo (Box (wr.setCell ⟨B,i,Xb⟩ (U8 0)) w.heap.size [O bb aw bw,I6 m.hand,ch.x,ac.x,af.x,aa.x,ab.x,O (Xa bv) q S,I6 m.cnt,O x a Q,ae.x]):=dD<|bu.other (by have:=v.out;simp;omega) _
   have d8:Xo (Box (wr.setCell ⟨B,i,Xb⟩ (U8 0)) (w.heap.size+1) (pgc zp)):=dD<|P.other (by have:=v.out;simp;omega) _
   have cs:Xo (zc w (wr.setCell ⟨B,i,Xb⟩ (U8 0))):=dD<|zq u (by have:=v.out;simp;omega) _
   clear cb;go_wp2
   go_roundg (8 -(i+1));exact⟨i+1,Wm,Wm,Gn,cs,cy,d8,bs⟩;omega
  have c7:decide (f.size<=8*(ix:Int)+(i:Int))=Xd:=Si s
  have bs:Xo (Box wr B (pgc (ZF [a2,a3,a4,a5,a6,a7,a8,a9] ix f.size (i+1)))):=dD<|by rw[<-zmk s];exact ar.out
  clear cb;go_wp2
  go_roundg (8 -(i+1));exact⟨i+1,Wm,Wm,Gn,u,bu,P,bs⟩;omega
 have a1:¬(i:Int)<8:=Wm
 have:i=8:=Wm
 subst this;have cu:Xo (Box wr B (pgc aj)):=dD<|by
  have:=ar.out;rw[zgP (by exact nR 8),<-b.out]at this
  exact this
 have ak:Xo (aj.length=8):=dD<|by rw[b.out];unfold jV;simp
 have K:Xo ((pgc aj).length=8):=dD<|Rx Zr ak.out
 go_wp2_with (first | (refine zK rfl 60 (.tmp 10) rfl B rfl cu underlying60 rfl (Rx K.out zqL) ?_) | (refine zr rfl 60 (.tmp 6) (.tmp 77) rfl (w.heap.size+1) rfl (pgc aj) rfl P (Rr K.out) zqL (jd _) ?_))
 intro cx c5 c8 _;have bl:Xo (zc w cx):=dD<|zd u c8 Wm
 go_wp2;refine bodyPost_ret (zX rfl _ rfl c5 underlying60 rfl (Rx K.out zqL)) rfl ⟨rfl,ak,bl⟩
theorem zC.own {g:Nat} {a b c:Xn} (h:zC hi a b) (e:b.grownBy c (Xa g)) (d:a.heap.size<=g):zC hi a c:=⟨fun p t f d i=>(h.1 p t f d i).beside e (fun k f=>by cases f;have:=d.box.lt;omega),nT h.2 e.size⟩
theorem zW {α:Type} {k:Nat} {s:α}:∀{S:List (Nat × α)},S.lookup k=Xa s->(k,s)∈S
 | [],h=>by simp at h
 | (p,a) :: S,h=>by
  by_cases b:k=p
  ·subst b
   simp at h
   subst h;simp
  have c:(k == p)=Xd:=Si b
  rw[List.lookup_cons,c]at h;exact List.mem_cons_of_mem _ (zW h)
theorem ziv {α:Type} {p:α->Bool}:∀{l:List α} {k:Nat},(∀(j:Nat) x,j<k->l[j]? =Xa x->p x=Xc)->(∀x,l[k]? =Xa x->p x=Xd)->k<=l.length->l.takeWhile p=l.take k/\l.dropWhile p=l.drop k
 | [],0,_,_,_=>⟨rfl,rfl⟩
 | [],k+1,_,_,h=>by simp at h
 | x :: l,0,_,h,_=>by
  have:=h x rfl
  simp[this]
 | x :: l,k+1,b,e,f=>by
  have g:=b 0 x (Nat.zero_lt_succ _) rfl;obtain⟨c,d⟩:=ziv (l:=l) (k:=k) (fun j y a a=>b (j+1) y Wm (Si a)) (fun y a=>e y (Si a)) (Si f)
  simp[g,c,d]
theorem zqM:(Tryz.prog.info? 93).map (·.size)=Xa 3:=by kernel_rfl
theorem zcB (w):(Go.sizeOf 93).run prog w= .ok 3 w:=by
 obtain⟨a,c,d⟩:∃a,Tryz.prog.info? 93=Xa a/\a.size=3:=by
  have:=zqM
  cases b:Tryz.prog.info? 93 with
  | none=>rw[b]at this;cases this
  | some a=>rw[b]at this;exact⟨a,rfl,by simpa using this⟩
 simp[Go.sizeOf,typeInfo,c,d]
theorem zm1 {w:Xn} {a:Option Addr} {n c k:Nat} (b:k<=c):(Instr.sliceAt 38 (O a n c) Xb (Xa (I6 (k:Int))) Xb).run prog w= .ok (O a k c) w:=by
 have b:(0:Int)<=(k:Int)/\(k:Int)<=(c:Int):=Wm
 simp only[Instr.sliceAt,Instr.slice,Instr.sliceBounds,Instr.sliceBound,asIntOf,Xv,Yb,rA,run_underlying underlying38];rw[kE b];simp only[Yb,rA,zcB,tN]
 cases a with
 | none=>simp
 | some b=>by_cases b:c=0 <;> simp[b,Addr.add]
theorem zm5 {w:Xn} {a:Option Addr} {n c k:Nat} (b:k<=n):(Instr.sliceAt 38 (O a n c) (Xa (I6 (k:Int))) Xb Xb).run prog w= .ok (O (a.map fun ad=>if c=k then ad else ad.add (k*3)) (n - k) (c - k)) w:=by
 have b:(0:Int)<=(k:Int)/\(k:Int)<=(n:Int):=Wm
 simp only[Instr.sliceAt,Instr.slice,Instr.sliceBounds,Instr.sliceBound,asIntOf,Xv,Yb,rA,run_underlying underlying38];rw[kE b];simp only[Yb,rA,zcB,tN]
 cases a with
 | none=>simp
 | some ad=>by_cases b:c=k <;> simp[b]
theorem zl.upto {w:Xn} {a:Option Addr} {n c k:Nat} {l:List Ca} (h:zl jG w (O a n c) l) (b:k<=n):zl jG w (O a k c) (l.take k):=by
 have b:=h.n;obtain⟨⟨b,b,b,d,f⟩,g⟩:=h;cases b;refine⟨⟨a,c,by rw[Ye,Yl Wm],fun e=>by rw[d e];simp,fun d e=>?_⟩,?_⟩
 ·intro j u b;refine f d e j u ?_;have d:l.flatMap jG.enc=(l.take k).flatMap jG.enc++(l.drop k).flatMap jG.enc:=by rw[<-Xy,Yo]
  rw[d,Xz (gS.1 b).1];exact b
 refine nT (Ya _ ?_) g;rw[Ye];omega
theorem zl.from {w:Xn} {a:Option Addr} {n c k:Nat} {l:List Ca} (h:zl jG w (O a n c) l) (d:k<=n) (b:n<=c):zl jG w (O (a.map fun ad=>if c=k then ad else ad.add (k*3)) (n - k) (c - k)) (l.drop k):=by
 have b:=h.n;obtain⟨⟨b,b,b,d,g⟩,i⟩:=h;cases b;refine⟨⟨_,_,by rw[Yy],fun e=>?_,fun ad e=>?_⟩,?_⟩
 ·cases a with
  | none=>rw[d rfl];simp
  | some ad=>cases e
 ·cases a with
  | none=>cases e
  | some b=>
   simp only[Option.map_some,Option.some.injEq]at e;intro j u f
   by_cases d:c=k
   ·have:l.drop k=[]:=List.drop_eq_nil_of_le Wm
    rw[this]at f
    simp at f
   rw[kF d]at e;subst e;rw[zS];refine g b rfl _ u ?_;have d:l.flatMap jG.enc=(l.take k).flatMap jG.enc++(l.drop k).flatMap jG.enc:=by rw[<-Xy,Yo]
   have b:((l.take k).flatMap jG.enc).length=k*3:=by rw[qV,Ye,Yl Wm];rfl
   rw[d,aR (by rw[b];omega),b,show k*3+j - k*3=j by omega]
   exact f
 refine nT (Ya _ ?_) i;rw[Yy];omega
theorem zjE (w:Xn) (c:Ca):zb jG w.heap.size (w.alloc (Xk #[I6 c.file,I6 c.idx,I6 c.fr] 93)) (O (Xa ⟨w.heap.size,0,Xb⟩) 1 1) [c]:=by
 refine⟨⟨rfl,.inr ⟨w.heap.size,1,#[I6 c.file,I6 c.idx,I6 c.fr],rfl,nR _,?_,nR _,qO Wm,rfl,rfl⟩⟩,by show 1*24<=_;omega⟩
 show(w.heap.push _)[w.heap.size]? =_
 simp[jG]
theorem zo.part {w:Xn}:∀{ds cs:List Xq} {o:Nat},zo w b t cs->o+ds.length<=cs.length->zo (w.setCells b o ds) b t (splice cs o ds):=by
 have c:∀(ds cs:List Xq) (o:Nat) (w:Xn),zo w b t cs->o+ds.length<=cs.length->zo (w.setCells b o ds) b t (splice cs o ds):=fun ds=>by
  induction ds with
  | nil=>
   intro cs o w h a;have:splice cs o []=cs:=by simp[splice]
   rw[this];exact h
  | cons d ds g=>
   intro cs o w h a;simp only[Yk]at a;have f:=h.set o d;have e:=g (cs.set o d) (o+1) (w.setCell ⟨b,o,Xb⟩ d) f (by simp;omega)
   have f:splice (cs.set o d) (o+1) ds=splice cs o (d :: ds):=by
    unfold splice;rw[List.take_set,List.drop_set,kE Wm,Oq,gE Wm]
    simp only[Yk,Option.toList_some];rw[List.set_append_right _ _ (by simp;omega),show o+1+ds.length=o+(ds.length+1) by omega]
    simp[Ye,Yl (show o<=cs.length by omega)]
   rw[f]at e;exact e
 exact fun{ds cs o} h a=>c ds cs o w h a
theorem zP {rest:List Oper} {a:Act} {w:Xn} (c:o.guard=Xb) (e p x) (i:o.op= .store e p x) (b:Nat) (hp:a.eval p= Xj (Xa ⟨b,0,Xb⟩)) (vs:List Xq) (j:a.eval x= Xi vs.toArray)
  {cs:List Xq} {t:TypeId} (f:zo w b t cs) (d:vs.length=cs.length) (hi:(Tryz.prog.info? e).map (·.size)=Xa cs.length) (g:∀v∈vs,v.oneCell'=Xc)
  (h:∀w',zo w' b t vs->w.grownBy w' (Xa b)->w'.heap.size=w.heap.size->wpList prog ops Q rest (a.put o.dst undef) w'):wpList prog ops Q (o :: rest) a w:=by
 refine wpList_store_mid c e p x i b 0 vs.toArray hp j ?_ ?_ (all_oneCell_toArray g) ?_
 ·simpa [d]using f.box.there
 ·simpa [d]using hi
 have:=f.part (ds:=vs) (o:=0) Wm
 rw[J4 d]at this;exact h _ this (zO b vs 0 w).1 (zO b vs 0 w).2
theorem MkE.trans {w:Xn} {c:List Int} {V':MaV} {a:Sli} {d:List (Nat->En)} (e:QT L c) (f:zC hi w w1) (h:MkE w0 hi b w1 c V' m' a d w'):MkE w0 hi b w L V' m' a d w':=by
 obtain⟨a,c,d,g,i⟩:=h;exact⟨a,c,d,e.trans g,f.trans i⟩
theorem Mk.page {w:Xn} {c:Nat} {cs:List Xq} (h:Mk w0 hi w b vl L V m vt T) (hp:zo w c 60 cs) (f:hi<=c) (a:w.grownBy w' (Xa c)):Mk w0 hi w' b vl L V m vt T:=by
 have d:b≠c:=fun e=>by
  subst e;have c:w.heap[b]? =_:=h.box;rw[show w.heap[b]? =_ from hp]at c
  cases c
 exact⟨zd h.gr a (nT h.rows.bh f),h.hb,h.box.beside a (fun k e=>by cases e;exact d),h.lr,h.lc,h.lb,h.rows.var a hp a.size (.inr ⟨rfl,f⟩)⟩
theorem ziL {a:Nat} (h:hi<=a):Loc hi a 60:=⟨Dc,Dc,Dc,Dc,Dc,Dc,Dc,Dc,fun _=>h⟩
theorem MkR.setCa {base:Nat} {w:Xn} (h:MkR base hi w V m vt T) {s:Sli} {ca:List Ca} (a:zb jG base w (s.x) ca):MkR base hi w { V with ca:=s } { m with ca:=ca } vt T:=⟨h.hw,h.bh,h.fs,h.sl,h.slh,h.sb,h.sbh,h.sq,h.db,h.dbh,h.dq,h.fl,a,h.sp,h.tt,h.ap⟩
def zqp (w0:Xn) (hi b:Nat) (w:Xn) (L:List Int) (V:MaV) (m:Ma) (vt:Sli) (T:List (Nat->En)) (fi ix j:Nat) (w':Xn):Prop:=∃(q:Fr) (p:Pg) (u d:Bool) (s:Sli),m.fs[j]? =Xa q/\q.r=0/\(∀c∈m.ca,¬(c.file=(fi:Int)/\c.idx=(ix:Int)))/\MkE w0 hi b w L { V with ca:=s } { m with fs:=m.fs.set j ⟨p,1,u,d,fi,ix⟩,ca:=Qd m.ca ⟨fi,ix,j⟩ } vt T w'
def zof (m:Ma) (fi ix:Nat) (q:List Int) (d:Bool):Prop:=jV q (ix:Int) (Qb m (fi:Int))=q/\(d=Xd->Qh m (fi:Int) (ix:Int)=q)
def zkN (q:List Int) (ix:Nat) (size:Int) (i:Nat):Prop:=∀j,j<i->size<=8*(ix:Int)+(j:Int)->q[j]? =Xa 0
theorem zkN.set {q:List Int} {a:Int} {i:Nat} (h:zkN q ix a i) (hi:i<q.length):zkN (q.set i 0) ix a (i+1):=fun j a a=>by
 by_cases e:j=i
 ·subst e;exact sF hi
 rw[sN (fun h=>e h.symm)]
 exact h j Wm a
theorem zkN.next {q:List Int} {a:Int} {i:Nat} (h:zkN q ix a i) (c:¬a<=8*(ix:Int)+(i:Int)):zkN q ix a (i+1):=fun j d b=>by
 by_cases e:j=i
 ·subst e;exact absurd b c
 exact h j Wm b
theorem zkN.all {q:List Int} {a:Int} (h:zkN q ix a 8) (b:q.length=8):jV q (ix:Int) a=q:=by
 unfold jV;refine Xu fun i=>?_
 rw[Xs]
 cases a:q[i]? with
 | none=>rfl
 | some z=>
  have b:=(gS.1 a).1;simp only[Option.map_some,Option.some.injEq]
  split
  ·rename_i b
   have:=h i Wm b
   rw[a]at this;exact(Option.some.inj this).symm
  rfl
theorem zn4 (p) (b a:Int):jV (jV p b a) b a=jV p b a:=by
 unfold jV;refine Xu fun i=>?_
 rw[Xs,Xs]
 cases p[i]? with
 | none=>rfl
 | some z=>
  simp only[Option.map_some,Option.some.injEq]
  split <;> rfl
theorem zlO (a:∀c∈m.ca,¬(c.file=(fi:Int)/\c.idx=(ix:Int))):zof m fi ix (qn m (fi:Int) (ix:Int)) Xd:=by
 have d:m.ca.find? (Jw (fi:Int) (ix:Int))=Xb:=Ok.2 fun c b e=>a c b (by
  unfold Jw at e
  simpa using e)
 have e:qn m (fi:Int) (ix:Int)=Qh m (fi:Int) (ix:Int):=by
  unfold qn;rw[d];rfl
 rw[e];refine⟨?_,fun _=>rfl⟩
 unfold Qh
 split
 ·unfold jV zp;simp
 exact zn4 _ _ _
theorem zoG {f:Fl} (a:m.fl[fi]? =Xa f):Qb m (fi:Int)=f.size:=by
 unfold Qb;rw[tN,gD,a];rfl
theorem zkA {w:Xn} (fi ix:Nat) (f:Fl) (bk:Int) (h:Mk w0 hi w b vl L V m vt T) (hca:∀c∈m.ca,0<=c.file/\c.file<=1000/\0<=c.idx/\c.idx<=1000/\0<=c.fr/\c.fr<m.fs.length) (hf:m.fl[fi]? =Xa f) (hbk:f.bl[ix]? =Xa bk) (hix:ix<=1000) (hfi:fi<=1000) (hcn:m.ca.length<=1000):
  Xp prog 69 #[Xj (Xa ⟨b,0,Xb⟩),I6 (fi:Int),I6 (ix:Int)] w fun e w'=>(e= Xl (I6 (-1))/\MkE w0 hi b w L V m vt T w')\/(∃c,c∈m.ca/\c.file=(fi:Int)/\c.idx=(ix:Int)/\e= Xl (I6 c.fr)/\MkE w0 hi b w L V m vt T w')\/∃j:Nat,e= Xl (I6 (j:Int))/\zqp w0 hi b w L V m vt T fi ix j w':=by
 have HM:Xo (Mk w0 hi w b vl L V m vt T):=h;have HCA:Xo (∀c∈m.ca,0<=c.file/\c.file<=1000/\0<=c.idx/\c.idx<=1000/\0<=c.fr/\c.fr<m.fs.length):=hca;have HF:Xo (m.fl[fi]? =Xa f):=hf;have HBK:Xo (f.bl[ix]? =Xa bk):=hbk;obtain⟨n,HN⟩:=kA V.ca.n;have HLN:Xo (m.ca.length=n):=show _=_ by rw[<-HN.out,h.rows.ca.n]
 have hn:n<=1000:=Ry HLN.out hcn
 have HCC:Xo (n<=V.ca.c):=dD<|by
  have:=h.rows.ca.cap;(try simp only[Sli.x]at this);rw[HN.out]at this;exact this
 obtain⟨caa,HAA⟩:∃a,Xo (V.ca.a=a):=⟨_,rfl⟩;have HCR:Xo (∀W,(∃vl' L' m',m'.ca=m.ca/\Mk w0 hi W b vl' L' V m' vt T)->zeB W caa m.ca):=dD<|fun W ⟨_,_,m',e,k⟩=>by
  have:=k.rows.at.cas;rw[e,HAA.out]at this;exact this
 clear h hca hf hbk hcn
 go_enter func69,ntmps69
 have x10:=HM.box.box.c 10 rfl;(try simp only[Sli.x]at x10);rw[HN.out,HAA.out]at x10;go_wp2;clear x10
 go_loopg [20] n (fun gg s20 wr=>∃kk:Nat,kk<=n/\n - kk<=gg/\s20=I6 kk/\Xo (zc w wr)/\Xo (∀(j:Nat) c,j<kk->m.ca[j]? =Xa c->¬(c.file=(fi:Int)/\c.idx=(ix:Int))))
 exact⟨0,nZ _,Wm,rfl,zc.refl _,fun j c hj=>absurd hj (nL _)⟩
 obtain⟨kk,hkk,hgg,rfl,BW,OW⟩:=hrel
 by_cases hlt:kk<n
 ·have hltz:=kC hlt
  obtain⟨c,HC⟩:∃c,Xo (m.ca[kk]? =Xa c):=⟨_,gE (Rx HLN.out hlt)⟩
  obtain⟨adc,rfl,hl⟩:=HCR.out wr ⟨vl,L,m,rfl,HM.grew BW⟩ kk c HC.out;obtain⟨d0,d1,d2⟩:=hl wr (zc.refl _);clear hl;go_upto_region 4 with fail;obtain⟨W1,hW1⟩:=kB (wr.alloc (Xk #[I6 c.file,I6 c.idx,I6 c.fr] 93));have HG1:=gT hW1 BW
  have C1:=xA hW1
  rw[hW1];clear hW1 d0 d1 d2;obtain⟨c0,c1,c2⟩:=C1.c3;have HNX:Xo (¬(c.file=(fi:Int)/\c.idx=(ix:Int))->∀(j:Nat) c,j<kk+1->m.ca[j]? =Xa c->¬(c.file=(fi:Int)/\c.idx=(ix:Int))):=dD<|fun h0 j c' hj hc'=>by
   by_cases e:j=kk
   ·subst e;rw[HC.out]at hc';cases hc';exact h0
   exact OW j c' Wm hc'
  by_cases h1:c.file=(fi:Int)
  ·have h1e:(c.file ==(fi:Int))=Xc:=by simp[h1]
   by_cases h2:c.idx=(ix:Int)
   ·have h2e:(c.idx ==(ix:Int))=Xc:=by simp[h2]
    have HE:Xo (c.file=(fi:Int)/\c.idx=(ix:Int)):=dD<|⟨h1,h2⟩
    clear h1 h2;go_wp2;go_ret;exact .inr (.inl ⟨c,mG HC,HE.1,HE.2,rfl,vl,L,HM.grew HG1,QT.refl L,zC.grew HG1⟩)
   have h2e:(c.idx ==(ix:Int))=Xd:=by simp[h2]
   have OW':Xo (∀(j:Nat) c,j<kk+1->m.ca[j]? =Xa c->¬(c.file=(fi:Int)/\c.idx=(ix:Int))):=HNX.out (fun h=>h2 h.2)
   clear h1 h2;go_wp2
   go_roundg (n -(kk+1));exact⟨kk+1,Wm,Wm,Gn,HG1,OW'⟩;omega
  have h1e:(c.file ==(fi:Int))=Xd:=by simp[h1]
  have OW':Xo (∀(j:Nat) c,j<kk+1->m.ca[j]? =Xa c->¬(c.file=(fi:Int)/\c.idx=(ix:Int))):=HNX.out (fun h=>h1 h.1)
  clear h1;go_wp2
  go_roundg (n -(kk+1));exact⟨kk+1,Wm,Wm,Gn,HG1,OW'⟩;omega
 have hltz:=kD hlt
 have hke:kk=n:=Wm
 have HNO:Xo (∀c∈m.ca,¬(c.file=(fi:Int)/\c.idx=(ix:Int))):=dD<|fun c hc=>by
  obtain⟨j,hj⟩:=Yh hc;exact OW j c (by rw[hke,<-HLN.out];exact(gS.1 hj).1) hj
 clear hke;have MW:=dD (HM.grew BW);have hbx:=MW.box.box;have x1:=hbx.c 1 rfl;have x2:=hbx.c 2 rfl;have x3:=hbx.c 3 rfl;have x4:=hbx.c 4 rfl;have x5:=hbx.c 5 rfl;have x6:=hbx.c 6 rfl;have x7:=hbx.c 7 rfl;have x8:=hbx.c 8 rfl;have x9:=hbx.c 9 rfl;have x10:=hbx.c 10 rfl;have x11:=hbx.c 11 rfl;clear hbx;have hct:=zaF V m fi ix f bk wr MW.rows.at (fun c hc _=>(HCA c hc).2.2.2.2) HF HBK hix
 go_wp2_with fail;refine hct.mono ?_;clear hct x1 x2 x3 x4 x5 x6 x7 x8 x9 x10 x11;rintro e W1 ⟨rfl,hl8,g1⟩;have G1:=dD (BW.trans g1);clear g1;have hgp:=zlO HNO.out
 generalize qn m fi ix=q at hl8 hgp
 obtain⟨p0,p1,p2,p3,p4,p5,p6,p7,rfl⟩:=zdB q hl8;have HGP:Xo (zof m fi ix [p0,p1,p2,p3,p4,p5,p6,p7] Xd):=dD<|hgp
 clear hl8 hgp;simp only[pgc,mP,Yj];go_upto_region 8 with fail;obtain⟨pp,HPP⟩:=kA W1.heap.size;obtain⟨W2,hW2⟩:=kB (W1.alloc (Xk #[U8 p0,U8 p1,U8 p2,U8 p3,U8 p4,U8 p5,U8 p6,U8 p7] 60));have G2:=gT hW2 G1
 have P2:Xo (zo W2 pp 60 (pgc [p0,p1,p2,p3,p4,p5,p6,p7])):=dD<|by rw[<-hW2];exact zo.top _ (pgc [p0,p1,p2,p3,p4,p5,p6,p7]) _ HPP.symm
 have HHP:Xo (hi<=pp):=dD<|by rw[<-HPP.out];exact(HM.grew G1).rows.hw
 have HWP:Xo (w.heap.size<=pp):=dD<|by rw[<-HPP.out];exact bS G1.out
 have HBP:Xo (b≠pp):=dD<|by have:=HM.box.box.lt;have:=HWP.out;omega
 have M2:=dD (HM.grew G2);have K2:Xo (zC hi w W2):=zC.grew G2.out;rw[hW2,HPP.out];clear hW2;have hpk:=qB 2 M2.out;go_wp2_with fail;refine hpk.mono ?_;clear hpk;rintro e W3 ⟨vl3,L3,y,rfl,mk3,gr3,sz3,y0,y1,yn,ll⟩;have M3:Xo (Mk w0 hi W3 b vl3 L3 V m vt T):=mk3;have K3:=dD (K2.trans (M2.keeps gr3));have P3:Xo (zo W3 pp 60 (pgc [p0,p1,p2,p3,p4,p5,p6,p7])):=P2.beside gr3 (fun g e=>by cases e;exact fun h=>HBP.out h.symm)
 have L3':Xo (QT L L3):=ll;clear mk3 gr3 sz3 y0 y1 yn ll
 go_upto_if 46 with fail
 go_cut [10,11] (fun s10 s11 wx=>∃(dd:Bool) (q:List Int) (vl':Sli) (L':List Int),s10= Xh dd/\Xo (Mk w0 hi wx b vl' L' V m vt T)/\Xo (zo wx pp 60 (pgc q))/\Xo (q.length=8)/\Xo (zC hi w wx)/\Xo (QT L L')/\Xo (zof m fi ix q dd))
 case first=>
  by_cases hy:y=1
  ·have hye:(y == 1)=Xc:=by simp[hy]
   clear hy;have hpg:=zch M3.out;go_wp2_with fail;refine hpg.mono ?_;clear hpg;rintro e W4 ⟨vl4,L4,q4,rfl,ql4,mk4,gr4,ll4⟩;have M4:Xo (Mk w0 hi W4 b vl4 L4 V m vt T):=mk4;have K4:=dD (K3.trans (M3.keeps gr4));have P4:Xo (zo W4 pp 60 (pgc [p0,p1,p2,p3,p4,p5,p6,p7])):=P3.beside gr4 (fun g e=>by cases e;exact fun h=>HBP.out h.symm)
   have L4':=dD (L3'.trans ll4);have QL:Xo (q4.length=8):=ql4;clear mk4 gr4 ll4 ql4
   go_wp2_with (refine zP rfl 60 (.tmp 9) (.tmp 48) rfl pp rfl (pgc q4) rfl P4 (by simp[pgc,QL.out]) zqL (jd _) ?_)
   intro W5 hb5 hg5 _;have M5:Xo (Mk w0 hi W5 b vl4 L4 V m vt T):=M4.page P4 HHP hg5;have K5:Xo (zC hi w W5):=K4.own hg5 HWP.out;have P5:Xo (zo W5 pp 60 (pgc q4)):=hb5;clear hb5 hg5;go_wp2
   go_loopg [49] 8 (fun gg s49 wr=>∃(i:Nat) (q:List Int),i<=8/\8 - i<=gg/\s49=I6 i/\Xo (Mk w0 hi wr b vl4 L4 V m vt T)/\Xo (zo wr pp 60 (pgc q))/\Xo (q.length=8)/\Xo (zC hi w wr)/\Xo (zkN q ix f.size i))
   exact⟨0,q4,nZ _,Wm,rfl,M5,P5,QL,K5,fun j hj=>absurd hj (nL _)⟩
   obtain⟨i,q,hi8,hg3,rfl,MW5,PW5,QW5,KW5,CW5⟩:=hrel
   by_cases hlt3:i<8
   ·have hltz3:(i:Int)<8:=Wm
    obtain⟨z,hz⟩:∃z,q[i]? =Xa z:=⟨_,gE (by rw[QW5.out];exact hlt3)⟩
    have z0:=PW5.box.c i (zd5 hz);have zf:=PW5.box.f;have hfl:=MW5.rows.at.fl;have x8:=MW5.box.box.c 8 rfl;obtain⟨_,_,hfe,_,hfr⟩:=qg.rows hfl;have hrw:J1 wr V.fl.a m.fl:=by
     simp only[vJ]at hfe;rw[hfe.1];exact hfr
    have hfn:V.fl.n=m.fl.length:=by
     simp only[vJ]at hfe;exact hfe.2.1
    obtain⟨ad,hva,ba,bc,_,hlf⟩:=hrw fi f HF.out;obtain⟨d0,-⟩:=hlf wr (zc.refl _);obtain⟨fln,hfln⟩:=kB V.fl.n;have hfz:(fi:Int)< (fln:Int):=by
     have:=(gS.1 HF).1;omega
    (try simp only[Sli.x]at x8);rw[hva,hfln]at x8;clear hfl hfe hfr hrw hfn hva hlf hfln hz
    by_cases hc:f.size<=8*(ix:Int)+(i:Int)
    ·have hcd:decide (f.size<=8*(ix:Int)+(i:Int))=Xc:=Si hc
     have HG6:Xo (wr.grownBy (wr.setCell ⟨pp,i,Xb⟩ (U8 0)) (Xa pp)):=⟨rfl,rfl,rfl,by simp[World.setCell],fun k _ hk=>Below.heap_setCell _ _ _ _ (fun e=>hk (by rw[e]))⟩
     have P6:Xo (zo (wr.setCell ⟨pp,i,Xb⟩ (U8 0)) pp 60 (pgc (q.set i 0))):=dD<|by rw[zcL];exact PW5.set i _
     have M6:Xo (Mk w0 hi (wr.setCell ⟨pp,i,Xb⟩ (U8 0)) b vl4 L4 V m vt T):=MW5.page PW5 HHP HG6.out;have K6:Xo (zC hi w (wr.setCell ⟨pp,i,Xb⟩ (U8 0))):=KW5.own HG6 HWP.out;have C6:Xo (zkN (q.set i 0) ix f.size (i+1)):=show zkN _ _ _ _ from CW5.set (by rw[QW5.out];exact hlt3)
     go_wp2
     go_roundg (8 -(i+1));exact⟨i+1,q.set i 0,Wm,Wm,Gn,M6,P6,(show(q.set i 0).length=8 by rw[Xt];exact QW5),K6,C6⟩;omega
    have hcd:decide (f.size<=8*(ix:Int)+(i:Int))=Xd:=Si hc
    have C6:Xo (zkN q ix f.size (i+1)):=dD<|CW5.next hc
    go_wp2
    go_roundg (8 -(i+1));exact⟨i+1,q,Wm,Wm,Gn,MW5,PW5,QW5,KW5,C6⟩;omega
   have hltz3:¬(i:Int)<8:=Wm
   have h8:i=8:=Wm
   subst h8;have HGQ:Xo (zof m fi ix q Xc):=dD<|⟨by rw[zoG HF.out];exact CW5.all QW5,fun e=>Bool.noConfusion e⟩
   go_wp2
   go_meet
   exact⟨Xc,q,vl4,L4,rfl,MW5,PW5,QW5,KW5,L4',HGQ⟩
  have hye:(y == 1)=Xd:=by simp[hy]
  clear hy;go_wp2
  go_meet
  exact⟨Xd,[p0,p1,p2,p3,p4,p5,p6,p7],vl3,L3,rfl,M3,P3,rfl,K3,L3',HGP⟩
 obtain⟨dd,q,vl3',L3x,rfl,M3',P3',Q3',K3',L3'',HGQ⟩:=hcut;obtain⟨p0,p1,p2,p3,p4,p5,p6,p7,rfl⟩:=zdB q Q3'.out;go_upto_region 16 with fail;obtain⟨I,hI⟩:∃I:Xn->Prop,I=fun u=>zo u pp 60 (pgc [p0,p1,p2,p3,p4,p5,p6,p7]):=⟨_,rfl⟩
 have HI:Xo (∀u,I u↔zo u pp 60 (pgc [p0,p1,p2,p3,p4,p5,p6,p7])):=dD<|fun u=>by rw[hI]
 clear hI;have hI0:I wc.drew:=(HI _).2 (P3'.grew (gW _))
 have hF0:MkE w0 hi b w L V m vt T wc.drew:=⟨vl3',L3x,M3'.grew (gW _),L3''.out,K3'.trans (zC.grew (gW _))⟩
 have hf0:∀y:zj I,y.world.cell? ⟨pp,0,Xb⟩=Xa (U8 p0):=fun y=>((HI _).1 y.holds).box.c 0 rfl
 have hf1:∀y:zj I,y.world.cell? ⟨pp,1,Xb⟩=Xa (U8 p1):=fun y=>((HI _).1 y.holds).box.c 1 rfl
 have hf2:∀y:zj I,y.world.cell? ⟨pp,2,Xb⟩=Xa (U8 p2):=fun y=>((HI _).1 y.holds).box.c 2 rfl
 have hf3:∀y:zj I,y.world.cell? ⟨pp,3,Xb⟩=Xa (U8 p3):=fun y=>((HI _).1 y.holds).box.c 3 rfl
 have hf4:∀y:zj I,y.world.cell? ⟨pp,4,Xb⟩=Xa (U8 p4):=fun y=>((HI _).1 y.holds).box.c 4 rfl
 have hf5:∀y:zj I,y.world.cell? ⟨pp,5,Xb⟩=Xa (U8 p5):=fun y=>((HI _).1 y.holds).box.c 5 rfl
 have hf6:∀y:zj I,y.world.cell? ⟨pp,6,Xb⟩=Xa (U8 p6):=fun y=>((HI _).1 y.holds).box.c 6 rfl
 have hf7:∀y:zj I,y.world.cell? ⟨pp,7,Xb⟩=Xa (U8 p7):=fun y=>((HI _).1 y.holds).box.c 7 rfl
 have hne:Nonempty (zj I):=⟨⟨_,hI0⟩⟩;refine zQ (I:=I) 10 [(3,fun v=>∃x:Int,v=I6 x),(9,fun v=>v=I6 (-1)\/∃j:Nat,v=I6 (j:Int))] (fun u=>MkE w0 hi b w L V m vt T u) hI0 hF0 z6 Kr rfl rfl Dc (Sb ⟨_,0,rfl⟩ ⟨_,.inl rfl⟩) Kr ?_
 simp only[Yp,Yq];iterate 3 (refine zL rfl rfl rfl (fun K hK=>?_);go_big_quiet_op;refine hK _ ?_;clear hK K)
 refine zI rfl rfl (fun _ u=>MkE w0 hi b w L V m vt T u) (fun w' hI' hF'=>?_) (fun v1 hv=>?_)
 ·obtain⟨vl',L',mk',ll',kp'⟩:=hF';refine zJ.call [Xj (Xa ⟨b,0,Xb⟩),I6 2] rfl func15 rfl rfl rfl ?_;refine(qB 2 mk').mono ?_;rintro e w'' ⟨vl2,L2,x,rfl,mk2,gr2,_,_,_,_,ll2⟩;exact⟨_,rfl,(HI _).2 (((HI _).1 hI').beside gr2 (fun g e=>by cases e;exact fun h=>HBP.out h.symm)),⟨x,rfl⟩,vl2,L2,mk2,ll'.trans ll2,kp'.trans (mk'.keeps gr2)⟩
 obtain⟨x,rfl⟩:=hv;simp only[Xw,sB,sS,sZ];iterate 5 (refine zL rfl rfl rfl (fun K hK=>?_);go_big_quiet_op;refine hK _ ?_;clear hK K)
 refine zI rfl rfl (fun v u=>(v=I6 (-1)/\MkE w0 hi b w L V m vt T u)\/∃(j:Nat) (q:Fr),v=I6 (j:Int)/\m.fs[j]? =Xa q/\q.r=0/\MkE w0 hi b w L V { m with fs:=m.fs.set j ⟨⟨p0,p1,p2,p3,p4,p5,p6,p7⟩,1,x == 1,dd,(fi:Int),(ix:Int)⟩ } vt T u) (fun w' hI' hF'=>?_) (fun v1 hv=>?_)
 ·obtain⟨vl',L',mk',ll',kp'⟩:=hF';refine zJ.call [Xj (Xa ⟨b,0,Xb⟩),Xi (frv ⟨⟨p0,p1,p2,p3,p4,p5,p6,p7⟩,1,x == 1,dd,(fi:Int),(ix:Int)⟩).toArray] rfl func70 rfl rfl rfl ?_;refine(zgx ⟨⟨p0,p1,p2,p3,p4,p5,p6,p7⟩,1,x == 1,dd,(fi:Int),(ix:Int)⟩ mk' ⟨fun e=>by have:(fi:Int)=-1:=e;omega,fun _ _=>HGQ.out⟩).mono ?_
  rintro e w'' (⟨rfl,hE⟩|⟨j,q,rfl,hq,hr,hE⟩)
  ·have hkp:=hE;obtain⟨_,_,_,_,kq⟩:=hkp;exact⟨_,rfl,(HI _).2 (kq.1 pp _ _ ((HI _).1 hI') (ziL HHP)),.inl rfl,.inl ⟨rfl,hE.trans ll' kp'⟩⟩
  have hkp:=hE;obtain⟨_,_,_,_,kq⟩:=hkp;exact⟨_,rfl,(HI _).2 (kq.1 pp _ _ ((HI _).1 hI') (ziL HHP)),.inr ⟨j,rfl⟩,.inr ⟨j,q,rfl,hq,hr,hE.trans ll' kp'⟩⟩
 rcases hv with rfl|⟨j,rfl⟩
 ·simp only[Xw,sB,sS,sZ];refine qJ fun W6 hI6 hF6=>?_
  have H6:Xo (MkE w0 hi b w L V m vt T W6):=dD<|by
   rcases hF6 with⟨_,h⟩|⟨j,q,e,_⟩
   ·exact h
   simp only[Value.int.injEq,true_and]at e;omega
  clear hF6 hI6 hI0 hF0 hne hf0 hf1 hf2 hf3 hf4 hf5 hf6 hf7;go_wp2;go_ret;exact .inl ⟨rfl,H6⟩
 simp only[Xw,sB,sS,sZ];refine qJ fun W6 hI6 hF6=>?_
 obtain⟨q,hq,hr,vl6,L6,mk6,ll6,kp6⟩:∃q:Fr,m.fs[j]? =Xa q/\q.r=0/\MkE w0 hi b w L V { m with fs:=m.fs.set j ⟨⟨p0,p1,p2,p3,p4,p5,p6,p7⟩,1,x == 1,dd,(fi:Int),(ix:Int)⟩ } vt T W6:=by
  rcases hF6 with⟨e,_⟩|⟨j',q,e,hq,hr,hE⟩
  ·simp only[Value.int.injEq,true_and]at e;omega
  simp only[Value.int.injEq,true_and]at e;obtain rfl:j=j':=Wm
  exact⟨q,hq,hr,hE⟩
 have HQ:Xo (m.fs[j]? =Xa q):=hq;have HR0:Xo (q.r=0):=hr;have M6:Xo (Mk w0 hi W6 b vl6 L6 V { m with fs:=m.fs.set j ⟨⟨p0,p1,p2,p3,p4,p5,p6,p7⟩,1,x == 1,dd,(fi:Int),(ix:Int)⟩ } vt T):=mk6;have K6:Xo (zC hi w W6):=kp6;have LL6:Xo (QT L L6):=ll6;clear hF6 hI6 hI0 hF0 hne hq hr mk6 ll6 kp6 hf0 hf1 hf2 hf3 hf4 hf5 hf6 hf7;have hj0:¬(j:Int)<0:=Wm
 go_wp2
 go_loopg [13] n (fun gg s13 wr=>∃at_:Nat,at_<=n/\n - at_<=gg/\s13=I6 at_/\Xo (Mk w0 hi wr b vl6 L6 V { m with fs:=m.fs.set j ⟨⟨p0,p1,p2,p3,p4,p5,p6,p7⟩,1,x == 1,dd,(fi:Int),(ix:Int)⟩ } vt T)/\Xo (zC hi w wr)/\Xo (∀(i:Nat) c,i<at_->m.ca[i]? =Xa c->decide (qj c<qj ⟨(fi:Int),(ix:Int),(j:Int)⟩)=Xc))
 exact⟨0,nZ _,Wm,rfl,M6,K6,fun i c hi=>absurd hi (nL _)⟩
 obtain⟨at_,hat,hg2,rfl,MR,KR,OW2⟩:=hrel;have x10:=MR.box.box.c 10 rfl;(try simp only[Sli.x]at x10);rw[HN.out,HAA.out]at x10;go_upto_region 20 with fail
 go_cut [13,116] (fun s13 s116 wx=>s13=I6 at_/\∃tb:Bool,s116= Xh tb/\Xo (Mk w0 hi wx b vl6 L6 V { m with fs:=m.fs.set j ⟨⟨p0,p1,p2,p3,p4,p5,p6,p7⟩,1,x == 1,dd,(fi:Int),(ix:Int)⟩ } vt T)/\Xo (zC hi w wx)/\Xo (tb=Xc->at_<n/\∀c,m.ca[at_]? =Xa c->decide (qj c<qj ⟨(fi:Int),(ix:Int),(j:Int)⟩)=Xc)/\Xo (tb=Xd->∀x,m.ca[at_]? =Xa x->decide (qj x<qj ⟨(fi:Int),(ix:Int),(j:Int)⟩)=Xd))
 case first=>
  by_cases hlt2:at_<n
  ·have hltz2:=kC hlt2
   obtain⟨c,HC⟩:∃c,Xo (m.ca[at_]? =Xa c):=⟨_,gE (by rw[HLN.out];exact hlt2)⟩
   obtain⟨adc,rfl,hl⟩:=HCR.out wr ⟨vl6,L6,{ m with fs:=m.fs.set j ⟨⟨p0,p1,p2,p3,p4,p5,p6,p7⟩,1,x == 1,dd,(fi:Int),(ix:Int)⟩ },rfl,MR⟩ at_ c HC.out;obtain⟨d0,d1,d2⟩:=hl wr (zc.refl _);obtain⟨b1,b2,b3,b4,-⟩:=HCA.out c (mG HC);clear hl d2
   by_cases hk:100*c.file+c.idx<100*(fi:Int)+(ix:Int)
   ·have hkd:decide (100*c.file+c.idx<100*(fi:Int)+(ix:Int))=Xc:=Si hk
    have hgd:decide ((at_:Int)< (n:Int))=Xc:=by simpa using hltz2
    have HKC:Xo (∀x,m.ca[at_]? =Xa x->decide (qj x<qj ⟨(fi:Int),(ix:Int),(j:Int)⟩)=Xc):=dD<|fun x hx=>by
     rw[HC.out]at hx;cases hx;exact hkd
    clear hk;go_quiet (fail);go_wp2
    go_meet
    exact⟨rfl,Xc,rfl,MR.grew (show Below _ _ _ from bD (bR _ _) _),KR.trans (zC.grew (show Below _ _ _ from bD (bR _ _) _)),fun _=>⟨hlt2,HKC⟩,(fun h=>nomatch h)⟩
   have hkd:decide (100*c.file+c.idx<100*(fi:Int)+(ix:Int))=Xd:=Si hk
   have hgd:decide ((at_:Int)< (n:Int))=Xc:=by simpa using hltz2
   have HKC:Xo (∀x,m.ca[at_]? =Xa x->decide (qj x<qj ⟨(fi:Int),(ix:Int),(j:Int)⟩)=Xd):=dD<|fun x hx=>by
    rw[HC.out]at hx;cases hx;exact hkd
   clear hk;go_quiet (fail);go_wp2
   go_meet
   exact⟨rfl,Xd,rfl,MR.grew (show Below _ _ _ from bD (bR _ _) _),KR.trans (zC.grew (show Below _ _ _ from bD (bR _ _) _)),(fun h=>nomatch h),fun _=>HKC.out⟩
  have hltz2:=kD hlt2
  have hgd:decide ((at_:Int)< (n:Int))=Xd:=by simpa using hltz2
  have HKC:Xo (∀x,m.ca[at_]? =Xa x->decide (qj x<qj ⟨(fi:Int),(ix:Int),(j:Int)⟩)=Xd):=dD<|fun x hx=>by
   have:=(gS.1 hx).1;have:=HLN.out;omega
  go_quiet (fail);go_wp2
  go_meet
  exact⟨rfl,Xd,rfl,MR.grew (show Below _ _ _ from bD (bR _ _) _),KR.trans (zC.grew (show Below _ _ _ from bD (bR _ _) _)),(fun h=>nomatch h),fun _=>HKC.out⟩
 clear x10;obtain⟨rfl,tb,rfl,MQ,KQ,HTT,HTF⟩:=hcut
 cases tb with
 | true=>
  obtain⟨hlt2,hct⟩:=HTT.out rfl;have OW3:Xo (∀(i:Nat) c,i<at_+1->m.ca[i]? =Xa c->decide (qj c<qj ⟨(fi:Int),(ix:Int),(j:Int)⟩)=Xc):=dD<|fun i c' hi' hc'=>by
   by_cases e:i=at_
   ·subst e;exact hct c' hc'
   exact OW2 i c' Wm hc'
  clear hct;go_wp2
  go_roundg (n -(at_+1));exact⟨at_+1,Wm,Wm,Gn,MQ,KQ,OW3⟩;omega
 | false=>
  have HST:Xo (∀x,m.ca[at_]? =Xa x->decide (qj x<qj ⟨(fi:Int),(ix:Int),(j:Int)⟩)=Xd):=dD<|HTF.out rfl
  have HSP:Xo (Qd m.ca ⟨(fi:Int),(ix:Int),(j:Int)⟩=m.ca.take at_++ [⟨(fi:Int),(ix:Int),(j:Int)⟩]++m.ca.drop at_):=dD<|by
   obtain⟨e1,e2⟩:=ziv (p:=fun d=>decide (qj d<qj ⟨(fi:Int),(ix:Int),(j:Int)⟩)) (l:=m.ca) (k:=at_) OW2 HST (Rx HLN.out hat)
   unfold Qd;rw[e1,e2];simp
  go_upto_region 22 with fail;obtain⟨A,HA⟩:=kA (m.ca.take at_);obtain⟨D2,HD⟩:=kA (m.ca.drop at_);rw[HA.out,HD.out]at HSP;have HLA:Xo (A.length=at_):=dD<|by rw[<-HA.out,Ye,HLN.out];omega
  have HLD:Xo (D2.length=n - at_):=dD<|by rw[<-HD.out,Yy,HLN.out]
  obtain⟨cn,HCN⟩:∃cn:Ca,Xo (cn=⟨(fi:Int),(ix:Int),(j:Int)⟩):=⟨_,rfl⟩;rw[<-HCN.out]at HSP;obtain⟨N,HNN⟩:=kA ((A++ [cn]++D2).length);obtain⟨I,HI⟩:=Wq fun u=>zc wc u
  have hI0:I wc.drew:=(HI _).2 (gW _)
  have hne:Nonempty (zj I):=⟨⟨_,hI0⟩⟩;have hx10:∀y:zj I,y.world.cell? ⟨b,10,Xb⟩=Xa (O caa n V.ca.c):=fun y=>by
   have:=(MQ.box.box.grew ((HI _).1 y.holds)).c 10 rfl;(try simp only[Sli.x]at this);rw[HN.out,HAA.out]at this;exact this
  have HRO:Xo (zl jG wc (O caa n V.ca.c) m.ca):=dD<|by
   have:=MQ.rows.ca.at;(try simp only at this);rw[HN.out,HAA.out]at this;exact this
  have hup:=fun W=>zm1 (w:=W) (a:=caa) (n:=n) (c:=V.ca.c) (k:=at_) (nT hat HCC)
  have hfr:=fun W=>zm5 (w:=W) (a:=caa) (n:=n) (c:=V.ca.c) (k:=at_) hat
  obtain⟨fa,hfa⟩:=kB ((caa:Option Addr).map fun ad=>if V.ca.c=at_ then ad else ad.add (at_*3))
  have HRA:Xo (zl jG wc (O caa at_ V.ca.c) A):=dD<|Ry HA.out (HRO.upto hat)
  have HRD:Xo (zl jG wc (O fa (n - at_) (V.ca.c - at_)) D2):=dD<|by rw[<-HD.out,<-hfa];exact HRO.from hat HCC.out
  rw[hfa]at hfr;clear hfa;obtain⟨nd,HND⟩:=kA (n - at_);obtain⟨cd,HCD⟩:=kA (V.ca.c - at_);rw[HND.out,HCD.out]at hfr HRD;refine qX (I:=I) 27 [(1,⟨fun v=>∃g,v= O (Xa ⟨g,0,Xb⟩) 0 0,fun v w'=>zb jG wc.heap.size w' v [],fun p q=>zc p q,fun _=>True⟩),(9,⟨fun v=>(∃a c,v= O a at_ c)/\(at_=0->∃g,v= O (Xa ⟨g,0,Xb⟩) 0 0),fun v w'=>zb jG wc.heap.size w' v A,fun p q=>zc p q,fun _=>True⟩),(14,⟨fun v=>∃g,v= O (Xa ⟨g,0,Xb⟩) 1 1,fun v w'=>zb jG wc.heap.size w' v [cn],fun p q=>zc p q,fun _=>True⟩),(15,⟨fun v=>∃a c,v= O a (at_+1) c,fun v w'=>zb jG wc.heap.size w' v (A++ [cn]),fun p q=>(∀u m,m.length<=at_\/m.length<=1->zb jG wc.heap.size p u m->zb jG wc.heap.size q u m),fun _=>True⟩),(23,⟨fun v=>∃a c,v= O a N c,fun v w'=>zb jG wc.heap.size w' v (A++ [cn]++D2),fun p q=>(∀u m,m.length<=at_+1->zb jG wc.heap.size p u m->zb jG wc.heap.size q u m),fun _=>True⟩)] hI0 z6 Kr rfl rfl Dc ?hS ?hp ?hpre ?hpr0 ?_
  case hS=>
   intro x hx;simp only[mC,nM,or_false]at hx
   rcases hx with rfl|rfl|rfl|rfl|rfl
   ·exact⟨_,0,rfl⟩
   ·by_cases h0:at_=0
    ·exact⟨O (Xa ⟨0,0,Xb⟩) 0 0,⟨Xa ⟨0,0,Xb⟩,0,by rw[h0]⟩,fun _=>⟨0,rfl⟩⟩
    exact⟨O Xb at_ 0,⟨_,_,rfl⟩,fun h=>absurd h h0⟩
   ·exact⟨_,0,rfl⟩
   ·exact⟨_,Xb,0,rfl⟩
   exact⟨_,Xb,0,rfl⟩
  case hp=>
   intro k s j t hk hj hjk hanc v p q hst hpo;have hk':=zW hk;have hj':=zW hj;clear hk hj;simp only[mC,pJ,nM,or_false]at hk' hj'
   rcases hk' with⟨rfl,rfl⟩|⟨rfl,rfl⟩|⟨rfl,rfl⟩|⟨rfl,rfl⟩|⟨rfl,rfl⟩
   ·rcases hj' with⟨rfl,rfl⟩|⟨rfl,rfl⟩|⟨rfl,rfl⟩|⟨rfl,rfl⟩|⟨rfl,rfl⟩
    ·exact absurd rfl hjk
    ·exact zb.grew hpo hst
    ·exact zb.grew hpo hst
    ·exact hst v [] (.inl (nZ _)) hpo
    exact hst v [] (nZ _) hpo
   ·rcases hj' with⟨rfl,rfl⟩|⟨rfl,rfl⟩|⟨rfl,rfl⟩|⟨rfl,rfl⟩|⟨rfl,rfl⟩
    ·exact zb.grew hpo hst
    ·exact absurd rfl hjk
    ·exact zb.grew hpo hst
    ·exact hst v A (.inl (by rw[HLA.out];exact nR _)) hpo
    exact hst v A (by rw[HLA.out];omega) hpo
   ·rcases hj' with⟨rfl,rfl⟩|⟨rfl,rfl⟩|⟨rfl,rfl⟩|⟨rfl,rfl⟩|⟨rfl,rfl⟩
    ·exact zb.grew hpo hst
    ·exact zb.grew hpo hst
    ·exact absurd rfl hjk
    ·exact hst v [cn] (.inr (nR _)) hpo
    exact hst v [cn] Sm hpo
   ·rcases hj' with⟨rfl,rfl⟩|⟨rfl,rfl⟩|⟨rfl,rfl⟩|⟨rfl,rfl⟩|⟨rfl,rfl⟩
    ·exact zb.grew hpo hst
    ·exact zb.grew hpo hst
    ·exact zb.grew hpo hst
    ·exact absurd rfl hjk
    exact hst v (A++ [cn]) (by rw[lA,HLA.out];simp) hpo
   rcases hj' with⟨rfl,rfl⟩|⟨rfl,rfl⟩|⟨rfl,rfl⟩|⟨rfl,rfl⟩|⟨rfl,rfl⟩
   ·exact zb.grew hpo hst
   ·exact zb.grew hpo hst
   ·exact zb.grew hpo hst
   ·exact Bool.noConfusion (hanc.symm.trans (show _=Xc by kernel_rfl))
   exact absurd rfl hjk
  case hpre=>
   intro j t k s hj hk hjk p q hst hpr;have hj':=zW hj;clear hk hj;simp only[mC,pJ,nM,or_false]at hj'
   rcases hj' with⟨rfl,rfl⟩|⟨rfl,rfl⟩|⟨rfl,rfl⟩|⟨rfl,rfl⟩|⟨rfl,rfl⟩ <;> trivial
  case hpr0=>
   intro k t hk;have hk':=zW hk;clear hk;simp only[mC,pJ,nM,or_false]at hk'
   rcases hk' with⟨rfl,rfl⟩|⟨rfl,rfl⟩|⟨rfl,rfl⟩|⟨rfl,rfl⟩|⟨rfl,rfl⟩ <;> trivial
  simp only[Yp,Yq];iterate 1 (refine qu rfl rfl rfl (fun K hK=>?_);go_big_quiet_op;refine hK _ ?_;clear hK K)
  refine zV rfl rfl (fun w' hI' hpr hF=>?_) (fun v1 hv=>?_)
  ·have hg:=(HI _).1 hI';refine zJ.step (v:= O (Xa ⟨w'.heap.size,0,Xb⟩) 0 0) (w':=w'.alloc (Xk #[] 93)) (by simp only[execOp];go_simp) ⟨(HI _).2 (hg.trans (za _ _)),za _ _,⟨_,rfl⟩,(zb.made jG w').base (bS hg)⟩
  obtain⟨g0,rfl⟩:=hv;simp only[Xw,sB,sS,sZ];iterate 1 (refine qu rfl rfl rfl (fun K hK=>?_);go_big_quiet_op;refine hK _ ?_;clear hK K)
  refine ZS (.tmp 121) ⟨b,0,Xb⟩ rfl rfl rfl rfl ?_;simp only[Xw,sB,sS,sZ];iterate 5 (refine qu rfl rfl rfl (fun K hK=>?_);go_big_quiet_op;refine hK _ ?_;clear hK K)
  refine zV rfl rfl (fun w' hI' hpr hF=>?_) (fun v1 hv=>?_)
  ·have hg:=(HI _).1 hI';have h0:zb jG wc.heap.size w' (O (Xa ⟨g0,0,Xb⟩) 0 0) []:=hF 1 Kr
   obtain⟨v',w2,hrun,ho,hg2,hz⟩:=Ze (E:=jG) (w:=w') 38 h0 (O caa at_ V.ca.c) A (HRA.grew hg) (bS hg);obtain⟨a',c',rfl⟩:=ho.form;refine zJ.step (v:= O a' A.length c') (w':=w2) ?_ ⟨(HI _).2 (hg.trans hg2),hg2,⟨⟨a',c',by rw[HLA.out]⟩,fun h=>⟨g0,hz (eN (Rx HLA.out h))⟩⟩,ho⟩
   clear hx10 hup hfr;simp only[execOp,resolve,invoke,builtin,pure_bind,Xv,Yb,Yz,mP,Yj];exact Eq.trans (congrArg (fun r=>Result.andThen r (fun a w'=>Result.ok (Next.value a) w')) hrun) rfl
  obtain⟨⟨a3,c3,rfl⟩,hz3⟩:=hv;simp only[Xw,sB,sS,sZ];iterate 4 (refine qu rfl rfl rfl (fun K hK=>?_);go_big_quiet_op;refine hK _ ?_;clear hK K)
  refine zV rfl rfl (fun w' hI' hpr hF=>?_) (fun v1 hv=>?_)
  ·have hg:=(HI _).1 hI';have hoc:=(zjE w' cn).base (bS hg);rw[HCN.out]at hoc;refine zJ.step (v:= O (Xa ⟨w'.heap.size,0,Xb⟩) 1 1) (w':=w'.alloc (Xk #[I6 (fi:Int),I6 (ix:Int),I6 (j:Int)] 93)) (by clear hx10 hup hfr;simp only[execOp];go_simp) ⟨(HI _).2 (hg.trans (za _ _)),za _ _,⟨_,rfl⟩,Rx HCN.out hoc⟩
  obtain⟨g5,rfl⟩:=hv;simp only[Xw,sB,sS,sZ];refine zV rfl rfl (fun w' hI' hpr hF=>?_) (fun v1 hv=>?_)
  ·have hg:=(HI _).1 hI';have o3:zb jG wc.heap.size w' (O a3 at_ c3) A:=hF 9 Kr
   have o5:zb jG wc.heap.size w' (O (Xa ⟨g5,0,Xb⟩) 1 1) [cn]:=hF 14 Kr
   have key:∃v' w2,(Builtin.append_ #[38,38] 38 #[O a3 at_ c3,O (Xa ⟨g5,0,Xb⟩) 1 1]).run prog w'= .ok v' w2/\zb jG wc.heap.size w2 v' (A++ [cn])/\zc wc w2/\∀u m,m.length<=at_\/m.length<=1->zb jG wc.heap.size w' u m->zb jG wc.heap.size w2 u m:=by
    by_cases h0:at_=0
    ·have hxs:A=[]:=eN (Rx HLA.out h0)
     obtain⟨g,hgv⟩:=hz3 h0;rw[hgv,hxs]at o3;rw[hgv,hxs];obtain⟨v',w2,hrun,ho,hg2,_⟩:=Ze (E:=jG) (w:=w') 38 o3 (O (Xa ⟨g5,0,Xb⟩) 1 1) [cn] o5.at (bS hg);exact⟨v',w2,hrun,ho,hg.trans hg2,fun u m _ h=>h.grew hg2⟩
    obtain⟨v',w2,hrun,ho,hgr,hk⟩:=qx (E:=jG) (w:=w') 38 o3 (O (Xa ⟨g5,0,Xb⟩) 1 1) [cn] o5.at (by rw[HLA.out];show(at_+1)*24<=_;omega) (bS hg)
    refine⟨v',w2,hrun,ho,zT hg hgr (fun g hg'=>(o3.lt g hg').1),fun u m hm h=>hk u m ?_ h⟩
    rw[HLA.out];omega
   obtain⟨v',w2,hrun,ho,hg2,hk⟩:=key;obtain⟨a',c',rfl⟩:=ho.form;refine zJ.step (v:= .slice a' (A++ [cn]).length c') (w':=w2) ?_ ⟨(HI _).2 hg2,hk,⟨a',c',by rw[lA,HLA.out];rfl⟩,ho⟩
   clear hx10 hup hfr;simp only[execOp,resolve,invoke,builtin,pure_bind,Xv,Yb,Yz,mP,Yj];exact Eq.trans (congrArg (fun r=>Result.andThen r (fun a w'=>Result.ok (Next.value a) w')) hrun) rfl
  obtain⟨a6,c6,rfl⟩:=hv;simp only[Xw,sB,sS,sZ];iterate 1 (refine qu rfl rfl rfl (fun K hK=>?_);go_big_quiet_op;refine hK _ ?_;clear hK K)
  refine ZS (.tmp 135) ⟨b,0,Xb⟩ rfl rfl rfl rfl ?_;simp only[Xw,sB,sS,sZ];iterate 5 (refine qu rfl rfl rfl (fun K hK=>?_);go_big_quiet_op;refine hK _ ?_;clear hK K)
  refine zV rfl rfl (fun w' hI' hpr hF=>?_) (fun v1 hv=>?_)
  ·have hg:=(HI _).1 hI';have o6:zb jG wc.heap.size w' (O a6 (at_+1) c6) (A++ [cn]):=hF 15 Kr
   have hl6:(A++ [cn]).length=at_+1:=by rw[lA,HLA.out];rfl
   obtain⟨v',w2,hrun,ho,hgr,hk⟩:=qx (E:=jG) (w:=w') 38 o6 (O fa nd cd) D2 (HRD.grew hg) (by rw[hl6,HLD.out];show(at_+1+(n - at_))*24<=_;omega) (bS hg)
   obtain⟨a',c',rfl⟩:=ho.form;refine zJ.step (v:= .slice a' (A++ [cn]++D2).length c') (w':=w2) ?_ ⟨(HI _).2 (zT hg hgr (fun g hg'=>(o6.lt g hg').1)),(fun u m hm h=>hk u m (Rx hl6 hm) h),⟨a',c',by rw[HNN.out]⟩,ho⟩
   clear hx10 hup hfr;simp only[execOp,resolve,invoke,builtin,pure_bind,Xv,Yb,Yz,mP,Yj];exact Eq.trans (congrArg (fun r=>Result.andThen r (fun a w'=>Result.ok (Next.value a) w')) hrun) rfl
  obtain⟨a7,c7,rfl⟩:=hv;simp only[Xw,sB,sS,sZ];refine ZS (.tmp 119) ⟨b,0,Xb⟩ rfl rfl rfl rfl ?_;simp only[Xw,sB,sS,sZ];iterate 2 (refine qu rfl rfl rfl (fun K hK=>?_);go_big_quiet_op;refine hK _ ?_;clear hK K)
  refine j2 fun W7 hI7 hF=>?_
  have o7:zb jG wc.heap.size W7 (O a7 N c7) (A++ [cn]++D2):=hF 23;have g7:=(HI _).1 hI7;have M7:=dD (MQ.grew g7);have K7:=dD (KQ.trans (zC.grew g7));have O7:Xo (zb jG wc.heap.size W7 (O a7 N c7) (A++ [cn]++D2)):=o7;have HB7:Xo (w0.heap.size<=wc.heap.size):=show _<=_ from bS MQ.gr
  have HB8:Xo (b<wc.heap.size):=dD<|MQ.box.box.lt
  clear o7 g7 hF hI7 hx10 hup hfr hne hI0;have xc:=M7.box.box.c 10 rfl;(try simp only[Sli.x]at xc);rw[HN.out,HAA.out]at xc;have xf:=M7.box.box.f;have HG8:Xo (W7.grownBy (W7.setCell ⟨b,10,Xb⟩ (O a7 N c7)) (Xa b)):=⟨rfl,rfl,rfl,by simp[World.setCell],fun k _ hk=>Below.heap_setCell _ _ _ _ (fun e=>hk (by rw[e]))⟩
  have M8:Xo (Mk w0 hi (W7.setCell ⟨b,10,Xb⟩ (O a7 N c7)) b vl6 L6 { V with ca:=⟨a7,N,c7⟩ } { m with fs:=m.fs.set j ⟨⟨p0,p1,p2,p3,p4,p5,p6,p7⟩,1,x == 1,dd,(fi:Int),(ix:Int)⟩,ca:=Qd m.ca ⟨(fi:Int),(ix:Int),(j:Int)⟩ } vt T):=dD<|by
   have h7:=M7.out;refine⟨zd h7.gr HG8 h7.hb,h7.hb,h7.box.set 10 _,h7.lr,h7.lc,h7.lb,?_⟩;have hr:=h7.rows.var HG8 h7.box HG8.size (.inl rfl);have:=hr.setCa (s:=⟨a7,N,c7⟩) (ca:=A++ [cn]++D2) ((O7.setCell (by have:=HB8.out;simp;omega) _).base HB7)
   rw[HCN.out]at this HSP;rw[HSP.out];exact this
  have K8:=dD (K7.trans (M7.keeps HG8));go_wp2;go_ret;exact .inr (.inr ⟨j,rfl,q,_,_,_,⟨a7,N,c7⟩,HQ,HR0,HNO,vl6,L6,M8,LL6,K8⟩)
theorem zmX (f:Nat->En) (n:Nat) (e):tab (jt f n e)=(tab f).set n e:=(zhl f n e).symm
theorem zbc (f:Nat->En) {n:Nat} (a:n<64) (e):zb7.enc (jt f n e)=splice (zb7.enc f) (n*3) (env e):=by
 show qr (tab (jt f n e))=splice (qr (tab f)) (n*3) (env e)
 rw[zmX];exact(Qz (enc:=env) (k:=3) e rfl (tab f) n (fun _ _=>rfl) (Rx Qs a)).symm
theorem ziF {key:Ca->Int}:∀{l:List Ca} {lo N:Nat},l.Pairwise (fun a b=>key a<key b)->(∀c∈l,(lo:Int)<=key c/\key c< (N:Int))->l.length<=N - lo
 | [],_,_,_,_=>nZ _
 | c :: l,lo,N,h,e=>by
  obtain⟨g,d⟩:=Ol.1 h;have f:=e c Sm
  have f:=ziF (lo:=(key c).toNat+1) (N:=N) d (fun d f=>by
   have:=g d f;have:=e d (by simp[f])
   omega)
  simp only[Yk];omega
section
variable{m:Ma} {T:List (Nat->En)}
theorem qK.cached (h:qK m T):(∀c∈m.ca,0<=c.file/\c.file<=1000/\0<=c.idx/\c.idx<=1000/\0<=c.fr/\c.fr<m.fs.length)/\m.ca.length<=1000/\∀c∈m.ca,∃(k:Nat) (fr:Fr),c.fr=(k:Int)/\m.fs[k]? =Xa fr/\fr.f=c.file/\fr.x=c.idx:=by
 obtain⟨l,q,n⟩:=zu.1 h.ca;have b:∀c∈m.ca,(0<=c.file/\c.file<5/\0<=c.idx/\c.idx<12/\0<=c.fr/\c.fr<m.fs.length)/\(zU m c.fr).f=c.file/\(zU m c.fr).x=c.idx:=fun c a=>by
  have d:=l c a;unfold caE at d
  split at d
  ·cases d
  rename_i s
  split at d
  ·cases d
  rename_i f
  have r:=h.pages (file:=c.file) Wm Wm
  refine⟨Wm,?_,?_⟩
  ·exact Classical.byContradiction fun g=>f (.inr (.inl g))
  exact Classical.byContradiction fun g=>f (.inr (.inr g))
 refine⟨fun c a=>?_,?_,fun c a=>?_⟩
 ·have:=(b c a).1;omega
 ·refine nT (ziF (key:=qj) (lo:=0) (N:=1000) n fun c a=>?_) (nR _)
  have:=(b c a).1;unfold qj;omega
 obtain⟨t,i,j⟩:=b c a;have e:c.fr.toNat<m.fs.length:=Wm
 have p:zU m c.fr=m.fs[c.fr.toNat]:=by
  unfold zU;rw[gD,gE e];rfl
 rw[p]at i j;exact⟨c.fr.toNat,m.fs[c.fr.toNat],Wm,gE e,i,j⟩
theorem qK.alone (h:qK m T) {p n:Nat} {s:Sp} (a:m.sp[p]? =Xa s) (g:(zB s.ars n).is=Xc):-1<=(zB s.ars n).file/\0<=(zB s.ars n).page/\(zB s.ars n).page<=1000/\((zB s.ars n).file<0->(zB s.ars n).sh=Xd):=by
 have b:=(h.spok s (mG a)).1;have f:=jq.1 b;obtain⟨i,c,d,b,e⟩:=ZQ g;have a:=f.2.all c (mG d);rw[e];unfold jQ at a;unfold qw;have b:=z5.1 b;obtain⟨b,b,b,b,b,b,b,c⟩:=a;simp only
 split <;> refine⟨Wm,Wm,Wm,fun e=>(b e).2⟩
end
section
variable{w0 w w':Xn} {hi b:Nat} {vl:Sli} {L:List Int} {V:MaV} {m:Ma} {vt:Sli} {T:List (Nat->En)}
theorem Mk.setF (h:Mk w0 hi w b vl L V m vt T) {g:Nat} (c:(V.f.x).ownBlock=Xa g) (a:w.grownBy w' (Xa g)) (i:w'.heap.size=w.heap.size) {fs:List Fr} (f:zb qA w0.heap.size w' (V.f.x) fs) (d:zez { m with fs:=fs }):Mk w0 hi w' b vl L V { m with fs:=fs } vt T/\zC hi w w':=by
 refine⟨⟨zd h.gr a (h.rows.fs.lt g c).1,h.hb,h.box.beside a (fun k e=>by cases e;exact h.rows.fs.ne h.box Dc g c),h.lr,h.lc,h.lb,h.rows.setF c a i f d⟩,?_⟩
 obtain⟨d,d⟩:=h.rows.fs.obj c;exact zC.kind a d (fun _ a=>absurd rfl a.2.1)
theorem Mk.setS (h:Mk w0 hi w b vl L V m vt T) {g:Nat} (c:(V.s.x).ownBlock=Xa g) (a:w.grownBy w' (Xa g)) (i:w'.heap.size=w.heap.size) {d:List Int} (f:zb slE w0.heap.size w' (V.s.x) d):Mk w0 hi w' b vl L V { m with sl:=d } vt T/\zC hi w w':=by
 refine⟨⟨zd h.gr a (h.rows.sl.lt g c).1,h.hb,h.box.beside a (fun k e=>by cases e;exact h.rows.sl.ne h.box Dc g c),h.lr,h.lc,h.lb,h.rows.setS c a i f⟩,?_⟩
 obtain⟨d,d⟩:=h.rows.sl.obj c;exact zC.kind a d (fun _ a=>absurd rfl a.2.2.1)
theorem Mk.setT (h:Mk w0 hi w b vl L V m vt T) {g:Nat} (c:(vt.x).ownBlock=Xa g) (a:w.grownBy w' (Xa g)) (i:w'.heap.size=w.heap.size) {d:List (Nat->En)} (f:zb zb7 w0.heap.size w' (vt.x) d):Mk w0 hi w' b vl L V m vt d/\zC hi w w':=by
 refine⟨⟨zd h.gr a (h.rows.tt.lt g c).1,h.hb,h.box.beside a (fun k e=>by cases e;exact h.rows.tt.ne h.box Dc g c),h.lr,h.lc,h.lb,h.rows.setT c a i f⟩,?_⟩
 obtain⟨d,d⟩:=h.rows.tt.obj c;exact zC.kind a d (fun _ a=>absurd rfl a.2.2.2.2.2.2.2.1)
theorem Qo {base:Nat} {v:Xq} {a:List (List Int)} (h:zh base w v a) {g:Nat} (b:v.ownBlock=Xa g):base<=g/\∃cs,w.heap[g]? =Xa (Xk cs 60 (0,0)):=by
 rcases h.1.2 with⟨rfl,_⟩|⟨k,a,a,rfl,c,d,_⟩
 ·cases b
 simp only[Value.ownBlock,Option.some.injEq]at b;subst b;exact⟨c,a,d⟩
theorem Mk.setSb (h:Mk w0 hi w b vl L V m vt T) {g:Nat} (d:(V.sb.x).ownBlock=Xa g) (a:w.grownBy w' (Xa g)) (i:w'.heap.size=w.heap.size) {c:List (List Int)} (f:zh w0.heap.size w' (V.sb.x) c):Mk w0 hi w' b vl L V { m with sb:=c } vt T/\zC hi w w':=by
 obtain⟨e,c,c⟩:=Qo h.rows.sb d;refine⟨⟨zd h.gr a e,h.hb,h.box.beside a (fun k e=>?_),h.lr,h.lc,h.lb,h.rows.setSb c d a i f⟩,zC.kind a c (fun p f=>?_)⟩
 ·cases e;intro e;subst e;have a:w.heap[b]? =_:=h.box;rw[c]at a;cases a
 have:=f.2.2.2.2.2.2.2.2 rfl;have:=h.rows.sbh g d;omega
end
theorem zdY (l:List Xq) {i:Nat} (h:i<l.length) (u):splice l i [u]=l.set i u:=by
 rw[List.set_eq_take_append_cons_drop,kE h]
 simp[splice]
theorem zb.box {α:Type} {E:Elt α} {w:Xn} {base g:Nat} {v:Xq} {l:List α} (h:zb E base w v l) (b:v.ownBlock=Xa g):∃cs,zo w g E.ty cs:=by
 obtain⟨cs,a⟩:=h.obj b;exact⟨cs.toList,by unfold zo;rw[a]⟩
theorem zb.unfrozen {α:Type} {E:Elt α} {w:Xn} {base g:Nat} {v:Xq} {l:List α} (h:zb E base w v l) (b:v.ownBlock=Xa g):∀j,w.frozen? ⟨g,j,Xb⟩=Xd:=by
 obtain⟨a,a⟩:=h.box b;exact a.box.f
theorem zb.cell {α:Type} {E:Elt α} {w:Xn} {base g:Nat} {v:Xq} {l:List α} (h:zb E base w v l) {k o:Nat} (c:v.ownBlock=Xa g) {x y:α} (f:l[k]? =Xa x) {u:Xq} (s:E.enc y=(E.enc x).set o u) (r:o<E.k):
  zb E base (w.setCell ⟨g,k*E.k+o,Xb⟩ u) v (l.set k y)/\w.grownBy (w.setCell ⟨g,k*E.k+o,Xb⟩ u) (Xa g)/\(w.setCell ⟨g,k*E.k+o,Xb⟩ u).heap.size=w.heap.size:=by
 refine⟨⟨?_,Rx Xt h.2⟩,⟨rfl,rfl,rfl,by simp[World.setCell],fun j _ a=>Below.heap_setCell _ _ _ _ (fun e=>a (by rw[e]))⟩,by simp[World.setCell]⟩
 have d:=(gS.1 f).1;refine⟨by rw[Xt,qV,Xt],?_⟩
 rcases h.1.2 with⟨rfl,_⟩|⟨e,b,a,rfl,h,i,j,m,n,p⟩
 ·cases c
 simp only[Value.ownBlock,Option.some.injEq]at c;subst c;have q:zo w e E.ty a.toList:=by unfold zo;rw[i]
 have c:=q.set (k*E.k+o) u;refine .inr ⟨e,b,(a.toList.set (k*E.k+o) u).toArray,by rw[Xt],h,c,Rx Xt j,m,Si n,?_⟩
 rw[Xt,List.toList_toArray,List.take_set,p,<-zdY _ ?_ u]
 ·refine QY o [u] (y:=y) ?_ (by simp;omega) l k f
  rw[s,zdY _ (by rw[E.len];exact r)]
 rw[qV];have:(k+1)*E.k<=l.length*E.k:=Ya _ d;rw[Of]at this;omega
theorem Q6 {p:Nat}:Loc hi p 81:=⟨Dc,Dc,Dc,Dc,Dc,Dc,Dc,Dc,fun h=>absurd h Dc⟩
theorem qK.refs (h:qK m T) {k:Nat} {f:Fr} (a:m.fs[k]? =Xa f):0<=f.r/\f.r<=2000:=by
 have b:=(h.cf k f a).1;have a:=zbD T 1 k;have a:zH m.ca k<=m.ca.length:=Yc;have a:=h.cached.2.1;have a:=h.tl;have a:=h.spl;omega
def Ent (w0:Xn) (hi b:Nat) (w:Xn) (L:List Int) (m:Ma) (vt:Sli) (T:List (Nat->En)) (p n:Nat) (f:Nat->En) (w':Xn):Prop:=∃vl' L' V' m' T',Mk w0 hi w' b vl' L' V' m' vt T'/\QT L L'/\zC hi w w'/\qK m' T'/\(m'.sp=m.sp/\m'.fl=m.fl/\m'.hand=m.hand/\m'.fs.length=m.fs.length)/\(T'=T\/∃e,T'=T.set p (jt f n e))/\(L=[]->m'=m/\T'=T)
theorem Ent.same {w:Xn} (p n:Nat) (f:Nat->En) (i:qK m T) (h:MkE w0 hi b w L V m vt T w'):Ent w0 hi b w L m vt T p n f w':=by
 obtain⟨a,c,d,e,g⟩:=h;exact⟨a,c,V,m,T,d,e,g,i,⟨rfl,rfl,rfl,rfl⟩,.inl rfl,fun _=>⟨rfl,rfl⟩⟩
theorem zme {w:Xn} (p n:Nat) (s:Sp) (f:Nat->En) (x:On) (h:Mk w0 hi w b vl L V m vt T) (hB:qK m T) (hs:m.sp[p]? =Xa s) (hT:T[p]? =Xa f) (hn:n<64) (h0:f n=en0) (hx:zB s.ars n=x) (his:x.is=Xc) (hfi:qH m.fl.length s.ars):
  Xp prog 38 #[Xj (Xa ⟨b,0,Xb⟩),I6 (p:Int),I6 (n:Int),Xi (onv x).toArray] w fun e w'=>(∃v,e= Xl v)/\Ent w0 hi b w L m vt T p n f w':=by
 have hal:=hB.alone hs (n:=n) (Rx hx his)
 have hfl:x.file< (m.fl.length:Int):=by rw[<-hx];exact hfi n hn (Rx hx his)
 rw[hx]at hal;obtain⟨al1,al2,al3,al4⟩:=hal;obtain⟨xis,xrd,xwr,xsh,xfi,xpg⟩:=x;dsimp only at his al1 al2 al3 al4 hfl;subst his;have HX:Xo (zB s.ars n=⟨Xc,xrd,xwr,xsh,xfi,xpg⟩):=hx;have HM:Xo (Mk w0 hi w b vl L V m vt T):=h;have HB:Xo (qK m T):=hB;have HS:Xo (m.sp[p]? =Xa s):=hs;have HT:Xo (T[p]? =Xa f):=hT;have H0:Xo (f n=en0):=h0;obtain⟨tn,HTL⟩:=kA T.length;have hpt:p<tn:=by rw[<-HTL.out];exact(gS.1 hT).1
 have HIS:Xo ((zB s.ars n).is=Xc):=dD<|by rw[hx]
 have HWR:Xo ((zB s.ars n).wr=xwr):=dD<|by rw[hx]
 have HSE:Xo ((zB s.ars n).sh=xsh/\(zB s.ars n).file=xfi/\(zB s.ars n).page=xpg):=dD<|by rw[hx];exact⟨rfl,rfl,rfl⟩
 obtain⟨px,HPX⟩:=kA w.heap.size;obtain⟨W0,hW0⟩:=kB (w.alloc (Xk #[Xh Xc,Xh xrd,Xh xwr,Xh xsh,I6 xfi,I6 xpg] 81));have HG0:=gA hW0
 have X0:=xPT hW0 HPX
 have M0:Xo (Mk w0 hi W0 b vl L V m vt T):=h.grew HG0.out;have HBX:Xo (b<w.heap.size):=show _<_ from h.box.box.lt
 have HW0:Xo (_=W0):=hW0;clear hW0 h hB hs hT h0 hx hfi
 go_enter func38,ntmps38
 go_upto_region 1 with fail;have hw:w.alloc (Xk (onv ⟨Xc,xrd,xwr,xsh,xfi,xpg⟩).toArray 81)=W0:=HW0.out;rw[hw,HPX.out];clear hw;have hpk:=qB 4 M0.out;go_wp2_with fail;refine hpk.mono ?_;clear hpk;rintro e W1 ⟨vl1,L1,y,rfl,mk1,gr1,sz1,y0,y1,yn,ll⟩;have M1:Xo (Mk w0 hi W1 b vl1 L1 V m vt T):=mk1;have K1:Xo (zC hi w W1):=(zC.grew HG0).trans (M0.keeps gr1);have X1:Xo (zo W1 px 81 [Xh Xc,Xh xrd,Xh xwr,Xh xsh,I6 xfi,I6 xpg]):=X0.beside gr1 (fun g e=>by cases e;have:=HBX.out;have:=HPX.out;omega)
 have LL1:Xo (QT L L1):=ll;have hy4:y<4:=by rcases y1 with h | h <;> omega
 have HYN:Xo (L=[]->y=0):=yn;clear mk1 gr1 sz1 y1 yn ll
 by_cases hy:y=0
 ·have hye:(y == 0)=Xc:=by simp[hy]
  clear hy;have HE:Xo (Ent w0 hi b w L m vt T p n f W1):=dD<|Ent.same p n f HB ⟨vl1,L1,M1,LL1,K1⟩
  go_wp2
  exact Ge HE.out
 have hye:(y == 0)=Xd:=by simp[hy]
 have HLN:Xo (L≠[]):=dD<|fun e=>hy (HYN e)
 clear hy;have c3:=X1.box.c 3 rfl;have c4:=X1.box.c 4 rfl;have HA4:Xo (xfi<0->xsh=Xd):=dD<|fun h=>al4 Wm
 clear al4;go_upto_region 6 with fail
 go_cut [44] (fun s44 wx=>∃c1:Bool,s44= Xh c1/\wx=W1/\Xo (c1=Xc->0<=xfi)/\Xo (c1=Xd->xsh=Xd))
 case first=>
  by_cases hfz:0<=xfi
  ·have hfd:decide ((0:Int)<=xfi)=Xc:=Si hfz
   cases xsh with
   | true=>
    go_wp2
    go_meet
    exact⟨Xc,rfl,rfl,fun _=>hfz,fun h=>(by cases h)⟩
   | false=>
    go_wp2
    go_meet
    exact⟨(y == 1),rfl,rfl,fun _=>hfz,fun _=>(by first | rfl | trivial)⟩
  have hfd:decide ((0:Int)<=xfi)=Xd:=Si hfz
  have HSF:Xo (xsh=Xd):=HA4.out Wm
  go_wp2
  go_meet
  exact⟨Xd,rfl,rfl,fun h=>(by cases h),fun _=>HSF.out⟩
 obtain⟨c1,rfl,hwc,HC1,HC0⟩:=hcut;rw[hwc];clear hwc c3 c4
 cases c1 with
 | true=>
  have hfz:=HC1.out rfl;obtain⟨fi,rfl⟩:∃fi:Nat,xfi=(fi:Int):=⟨xfi.toNat,Wm⟩
  obtain⟨ix,rfl⟩:∃ix:Nat,xpg=(ix:Int):=⟨xpg.toNat,Wm⟩
  obtain⟨fl,HFL⟩:∃fl,Xo (m.fl[fi]? =Xa fl):=⟨_,gE Wm⟩
  have c3:=X1.box.c 3 rfl;have c4:=X1.box.c 4 rfl;have c5:=X1.box.c 5 rfl;go_upto_region 7 with fail;have x8:=M1.box.box.c 8 rfl;obtain⟨_,_,hfe,_,hfr⟩:=qg.rows M1.rows.at.fl;have hrw:J1 W1 V.fl.a m.fl:=by
   simp only[vJ]at hfe;rw[hfe.1];exact hfr
  have hfn:V.fl.n=m.fl.length:=by
   simp only[vJ]at hfe;exact hfe.2.1
  obtain⟨ad,hva,ba,bc,_,hlf⟩:=hrw fi fl HFL.out;obtain⟨-,d1⟩:=hlf W1 (zc.refl _);obtain⟨fln,hfln⟩:=kB V.fl.n;have hflz:(fi:Int)< (fln:Int):=by
   have:=(gS.1 HFL).1;omega
  (try simp only[Sli.x]at x8);rw[hva,hfln]at x8;obtain⟨bn,HBN⟩:=kA fl.bl.length;rw[HBN.out]at d1;clear hfe hfr hrw hfn hva hlf hfln
  by_cases hpg:bn<=ix
  ·have hpgd:decide ((bn:Int)<=(ix:Int))=Xc:=Si hpg
   go_quiet (fail);obtain⟨W2,hW2⟩:=kB (W1.drewN nq);have G2:Xo (zc W1 W2):=dD<|by rw[<-hW2];exact(show Below _ _ _ from bD (bR _ _) _)
   rw[hW2];clear hW2 x8 d1 c3 c4 c5;have HE:Xo (Ent w0 hi b w L m vt T p n f W2):=dD<|Ent.same p n f HB ⟨vl1,L1,M1.grew G2,LL1,K1.trans (zC.grew G2)⟩
   go_wp2
   exact Ge HE.out
  have hpgd:decide ((bn:Int)<=(ix:Int))=Xd:=Si hpg
  obtain⟨bk,HBK⟩:∃bk,Xo (fl.bl[ix]? =Xa bk):=⟨_,gE (by rw[HBN.out];omega)⟩
  go_quiet (fail);obtain⟨W2,hW2⟩:=kB (W1.drewN nq);have G2:Xo (zc W1 W2):=dD<|by rw[<-hW2];exact(show Below _ _ _ from bD (bR _ _) _)
  rw[hW2];clear hW2 x8 d1 c3 c4 c5;have M2:=dD (M1.grew G2);have K2:=dD (K1.trans (zC.grew G2));have X2:=dD (X1.grew G2);have c4:=X2.box.c 4 rfl;have c5:=X2.box.c 5 rfl;have hcd:=zkA fi ix fl bk M2 HB.cached.1 HFL HBK Wm (by have:=(HB.pages (file:=(fi:Int)) Wm hfl).2;omega) HB.cached.2.1
  go_wp2_with fail;refine hcd.mono ?_;clear hcd c4 c5;rintro e W3 hres;have hres2:(e= Xl (I6 (-1))/\MkE w0 hi b w L V m vt T W3)\/∃(k:Nat) (V1:MaV) (m1:Ma) (fr:Fr),e= Xl (I6 (k:Int))/\MkE w0 hi b w L V1 m1 vt T W3/\qK m1 T/\m1.fs[k]? =Xa fr/\fr.f=(fi:Int)/\fr.x=(ix:Int)/\(m1.sp=m.sp/\m1.fl=m.fl/\m1.hand=m.hand/\m1.fs.length=m.fs.length):=by
   rcases hres with⟨he,hE⟩|⟨c,hc,hc1,hc2,he,hE⟩|⟨j,he,q,pg,u,d,sl,hj,hr,hno,hE⟩
   ·exact .inl ⟨he,hE.trans LL1 K2⟩
   ·obtain⟨k,fr,k1,k2,k3,k4⟩:=HB.cached.2.2 c hc;exact .inr ⟨k,V,m,fr,by rw[he,k1],hE.trans LL1 K2,HB,k2,k3.trans hc1,k4.trans hc2,rfl,rfl,rfl,rfl⟩
   refine .inr ⟨j,_,_,⟨pg,1,u,d,fi,ix⟩,he,hE.trans LL1 K2,HB.cache hj hr ⟨Wm,hfl⟩ ⟨Wm,?_⟩ hno,?_,rfl,rfl,rfl,rfl,rfl,Xt⟩
   ·unfold bkN;rw[tN,gD,HFL.out];simp only[Option.getD_some];have:=HBN.out;omega
   exact sF (gS.1 hj).1
  have X3:Xo (zo W3 px 81 [Xh Xc,Xh xrd,Xh xwr,Xh xsh,I6 (fi:Int),I6 (ix:Int)]):=dD<|by
   rcases hres with⟨_,_,_,_,_,hk⟩|⟨_,_,_,_,_,_,_,_,_,hk⟩|⟨_,_,_,_,_,_,_,_,_,_,_,_,_,_,hk⟩
   ·exact hk.1 _ _ _ X2 Q6
   ·exact hk.1 _ _ _ X2 Q6
   exact hk.1 _ _ _ X2 Q6
  clear hres
  rcases hres2 with⟨rfl,hE⟩|⟨k,V1,m1,fr,rfl,⟨vl3,L3,mk3,ll3,kp3⟩,hb1,hk,hkf,hkx,hsame⟩
  ·have HEE:Xo (MkE w0 hi b w L V m vt T W3):=hE;clear hE;have HE:Xo (Ent w0 hi b w L m vt T p n f W3):=show Ent _ _ _ _ _ _ _ _ _ _ _ _ from Ent.same p n f HB HEE.out
   go_wp2
   exact Ge HE.out
  have M3:Xo (Mk w0 hi W3 b vl3 L3 V1 m1 vt T):=mk3;have K3:Xo (zC hi w W3):=kp3;have LL3:Xo (QT L L3):=ll3;have HB1:Xo (qK m1 T):=hb1;have HK:Xo (m1.fs[k]? =Xa fr):=hk;have HKF:Xo (fr.f=(fi:Int)/\fr.x=(ix:Int)):=show _/\_ from⟨hkf,hkx⟩
  have HSM:Xo (m1.sp=m.sp/\m1.fl=m.fl/\m1.hand=m.hand/\m1.fs.length=m.fs.length):=dD<|hsame
  obtain⟨hr0,hr1⟩:=hb1.refs hk;obtain⟨nf,HNF⟩:=kA m1.fs.length;have hkn:k<nf:=by rw[<-HNF.out];exact(gS.1 hk).1
  have hkz:(k:Int)< (nf:Int):=Wm
  have hk0:¬(k:Int)<0:=Wm
  clear mk3 ll3 kp3 hb1 hk hkf hkx hsame;obtain⟨g,cf,heq⟩:=M3.rows.fs.formS (by rw[HNF.out];omega)
  rw[HNF.out]at heq;have HEQ:Xo (V1.f.x= O (Xa ⟨g,0,Xb⟩) nf cf):=heq;have x1:=M3.box.box.c 1 rfl;(first|rw[HEQ.out]at x1|rw[show O _ _ _=_ from HEQ.out]at x1);have hrw:=M3.rows.fs;(first|rw[HEQ.out]at hrw|rw[show O _ _ _=_ from HEQ.out]at hrw);have HRW:Xo (zb qA w0.heap.size W3 (O (Xa ⟨g,0,Xb⟩) nf cf) m1.fs):=hrw;have hce:=hrw.one HK.out;have d8:W3.cell? ⟨g,k*13+8,Xb⟩=Xa (I6 fr.r):=by
   have:=hce 8 _ rfl;rw[zS,Ot,zA]at this;exact this
  clear hce hrw heq;have xf:=HRW.unfrozen rfl;go_upto_region 11 with fail;obtain⟨ow4,gr4,sz4⟩:=HRW.cell (k:=k) (o:=8) rfl HK (y:={ fr with r:=fr.r+1 }) (u:=I6 (fr.r+1)) rfl Dc
  obtain⟨W4,hW4⟩:=kB (W3.setCell ⟨g,k*13+8,Xb⟩ (I6 (fr.r+1)));have e4:W3.setCell ⟨g,k*qA.k+8,Xb⟩ (I6 (fr.r+1))=W4:=hW4;rw[e4]at ow4 gr4 sz4;rw[hW4];rw[<-HEQ.out]at ow4;clear e4 hW4 xf;have hM4:=M3.setF (Rr HEQ.out) gr4 sz4 ow4 (M3.rows.ap.2.inc HB1 HK)
  have M4:Xo (Mk w0 hi W4 b vl3 L3 V1 { m1 with fs:=m1.fs.set k { fr with r:=fr.r+1 } } vt T):=hM4.1;have K4:Xo (zC hi w W4):=K3.trans hM4.2;have X4:Xo (zo W4 px 81 [Xh Xc,Xh xrd,Xh xwr,Xh xsh,I6 (fi:Int),I6 (ix:Int)]):=hM4.2.1 _ _ _ X3 Q6;have HBF:Xo (∀wf:Bool,(wf=Xc->xsh=Xc/\xwr=Xc)->qK { m1 with fs:=m1.fs.set k { fr with r:=fr.r+1 } } (T.set p (jt f n ⟨1,(k:Int),wf⟩))):=show∀wf:Bool,_ from fun wf hwf=>HB1.hold HK (by rw[HKF.1];omega) (Rx HSM.1 HS) HT hn H0 HIS (Rx HKF.1 HSE.2.1) (Rx HKF.2 HSE.2.2) (fun e=>by rw[HSE.1,HWR.out];exact hwf e)
  clear hM4 ow4 gr4 sz4 x1 d8;obtain⟨gt,ct,hte⟩:=M4.rows.tt.formS (by rw[HTL.out];omega)
  rw[HTL.out]at hte;have HTE:Xo (vt.x= O (Xa ⟨gt,0,Xb⟩) tn ct):=hte;clear hte;obtain⟨I,HI⟩:=Wq fun u=>u.cell? ⟨b,12,Xb⟩=Xa (O (Xa ⟨gt,0,Xb⟩) tn ct)/\zo u px 81 [Xh Xc,Xh xrd,Xh xwr,Xh xsh,I6 (fi:Int),I6 (ix:Int)]
  have HIM:Xo (∀u vl' L' V' m',Mk w0 hi u b vl' L' V' m' vt T->u.cell? ⟨b,12,Xb⟩=Xa (O (Xa ⟨gt,0,Xb⟩) tn ct)):=dD<|fun u vl' L' V' m' hm=>by
   have:=hm.box.box.c 12 rfl;(first|rw[HTE.out]at this|rw[show O _ _ _=_ from HTE.out]at this);exact this
  have hI0:I W4.drew:=(HI _).2 ⟨HIM _ _ _ _ _ (M4.grew (gW _)),X4.grew (gW _)⟩
  have hF0:MkE w0 hi b w L V1 { m1 with fs:=m1.fs.set k { fr with r:=fr.r+1 } } vt T W4.drew:=⟨vl3,L3,M4.grew (gW _),LL3,K4.trans (zC.grew (gW _))⟩
  have ht:∀y:zj I,y.world.cell? ⟨b,12,Xb⟩=Xa (O (Xa ⟨gt,0,Xb⟩) tn ct):=fun y=>((HI _).1 y.holds).1
  have hx2:∀y:zj I,y.world.cell? ⟨px,2,Xb⟩=Xa (Xh xwr):=fun y=>((HI _).1 y.holds).2.box.c 2 rfl
  have hx3:∀y:zj I,y.world.cell? ⟨px,3,Xb⟩=Xa (Xh xsh):=fun y=>((HI _).1 y.holds).2.box.c 3 rfl
  have hne:Nonempty (zj I):=⟨⟨_,hI0⟩⟩;have hptz:(p:Int)< (tn:Int):=Wm
  have hnz:(n:Int)<64:=Wm
  cases xsh <;> cases xwr
  all_goals (
   refine zQ (I:=I) 21 [(15,fun v=>∃x:Int,v=I6 x)] (fun u=>MkE w0 hi b w L V1 { m1 with fs:=m1.fs.set k { fr with r:=fr.r+1 } } vt T u) hI0 hF0 z6 Kr rfl rfl Dc (by intro x hx;simp only[mC,nM,or_false]at hx;subst hx;exact⟨_,0,rfl⟩) Kr ?_
   simp only[Yp,Yq];iterate 1 (refine zL rfl rfl rfl (fun K hK=>?_);go_big_quiet_op;refine hK _ ?_;clear hK K)
   refine z4 (.tmp 92) ⟨b,0,Xb⟩ rfl rfl rfl rfl ?_;simp only[Xw,sB,sS,sZ];iterate 8 (refine zL rfl rfl rfl (fun K hK=>?_);go_big_quiet_op;refine hK _ ?_;clear hK K)
   iterate 4 (first | (refine ZU rfl ?_;simp only[Xw,sB,sS,sZ]) | (refine zL rfl rfl rfl (fun K hK=>?_);go_big_quiet_op;refine hK _ ?_;clear hK K))
   (first | (refine ZU rfl ?_;simp only[Xw,sB,sS,sZ]) | (refine zL rfl rfl rfl (fun K hK=>?_);go_big_quiet_op;refine hK _ ?_;clear hK K))
   (first | (refine ZU rfl ?_;simp only[Xw,sB,sS,sZ]) | (refine zI rfl rfl (fun _ u=>MkE w0 hi b w L V1 { m1 with fs:=m1.fs.set k { fr with r:=fr.r+1 } } vt T u) (fun w' hI' hF'=>by obtain⟨vl',L',mk',ll',kp'⟩:=hF';refine zJ.call [Xj (Xa ⟨b,0,Xb⟩),I6 2] rfl func15 rfl rfl rfl ?_;refine(qB 2 mk').mono ?_;rintro e w'' ⟨vl2,L2,x,rfl,mk2,gr2,_,_,_,_,ll2⟩;exact⟨_,rfl,(HI _).2 ⟨HIM _ _ _ _ _ mk2,(mk'.keeps gr2).1 _ _ _ ((HI _).1 hI').2 Q6⟩,⟨x,rfl⟩,vl2,L2,mk2,ll'.trans ll2,kp'.trans (mk'.keeps gr2)⟩) (fun v1 hv=>?_);obtain⟨xq,rfl⟩:=hv;simp only[Xw,sB,sS,sZ]))
   (first | (refine ZU rfl ?_;simp only[Xw,sB,sS,sZ]) | (refine zL rfl rfl rfl (fun K hK=>?_);go_big_quiet_op;refine hK _ ?_;clear hK K))
   iterate 4 (refine zL rfl rfl rfl (fun K hK=>?_);go_big_quiet_op;refine hK _ ?_;clear hK K)
   refine qJ fun W8 hI8 hF8=>?_
   obtain⟨vl8,L8,mk8,ll8,kp8⟩:=hF8;have M8:Xo (Mk w0 hi W8 b vl8 L8 V1 { m1 with fs:=m1.fs.set k { fr with r:=fr.r+1 } } vt T):=mk8;have LL8:Xo (QT L L8):=ll8;have K8:Xo (zC hi w W8):=kp8;clear mk8 ll8 kp8 hI8 hI0 hF0 ht hx2 hx3 hne;have R8:Xo (zb zb7 w0.heap.size W8 (O (Xa ⟨gt,0,Xb⟩) tn ct) T):=show zb _ _ _ _ _ by rw[<-HTE.out];exact M8.rows.tt
   refine zD (E:=zb7) rfl (.tmp 112) (.tmp 110) 75 rfl w0.heap.size _ T R8 gt p (n*3) rfl f (jt f n ⟨1,(k:Int),_⟩) HT (env ⟨1,(k:Int),_⟩) Kr (zbc f hn _) (by show n*3+3<=192;omega) (enE.one _) ⟨gt,p*192+n*3,Xb⟩ rfl rfl _ rfl rfl ?_
   intro W9 ow9 gr9 sz9;rw[<-HTE.out]at ow9;have hM9:=M8.setT (Rr HTE.out) gr9 sz9 ow9
   have M9:Xo _:=hM9.1;have K9:Xo (zC hi w W9):=K8.trans hM9.2;clear hM9 ow9 gr9 sz9;have HE:Xo (Ent w0 hi b w L m vt T p n f W9):=show Ent _ _ _ _ _ _ _ _ _ _ _ _ from⟨vl8,L8,_,_,_,M9,LL8,K9,HBF _ (by intro e;first | exact⟨rfl,rfl⟩ | cases e),⟨HSM.1,HSM.2.1,HSM.2.2.1,List.length_set.trans HSM.2.2.2⟩,.inr ⟨_,rfl⟩,fun h=>absurd h HLN⟩
   go_wp2
   exact Ge HE.out)
 | false=>
  have hsh:=HC0.out rfl;subst hsh;have x3:=M1.box.box.c 3 rfl;obtain⟨sn,hsn⟩:=kB V.s.n;have HSL:Xo (m.sl.length=sn):=dD<|Ry hsn M1.rows.sl.n.symm
  (try simp only[Sli.x]at x3);rw[hsn]at x3;clear hsn;go_upto_region 12 with fail
  go_cut [113] (fun s113 wx=>∃c2:Bool,s113= Xh c2/\wx=W1/\Xo (c2=Xc->0<sn))
  case first=>
   by_cases h2:y=2
   ·have h2e:(y == 2)=Xc:=by simp[h2]
    clear h2;go_wp2
    go_meet
    exact⟨_,rfl,rfl,fun h=>Si h⟩
   have h2e:(y == 2)=Xd:=by simp[h2]
   clear h2;go_wp2
   go_meet
   exact⟨Xd,rfl,rfl,fun h=>(by cases h)⟩
  obtain⟨c2,rfl,hwc,HC2⟩:=hcut;rw[hwc];clear hwc
  cases c2 with
  | true=>
   have hs0:=HC2.out rfl;have hpk2:=qB (sn:Int) M1.out;go_wp2_with fail;refine hpk2.mono ?_;clear hpk2;rintro e W2 ⟨vl2,L2,z,rfl,mk2,gr2,sz2,z0,z1,_,ll2⟩;obtain⟨k,rfl⟩:∃k:Nat,z=(k:Int):=⟨z.toNat,Wm⟩
   have hks:k<sn:=by rcases z1 with h | h <;> omega
   have hksz:(k:Int)< (sn:Int):=Wm
   have M2:Xo (Mk w0 hi W2 b vl2 L2 V m vt T):=mk2;have K2:=dD (K1.trans (M1.keeps gr2));have LL2:=dD (LL1.trans ll2);clear mk2 gr2 sz2 z0 z1 ll2 x3;obtain⟨g,cs',heq⟩:=M2.rows.sl.formS (by rw[HSL.out];omega)
   rw[HSL.out]at heq;have HEQ:Xo (V.s.x= O (Xa ⟨g,0,Xb⟩) sn cs'):=heq;have x3:=M2.box.box.c 3 rfl;(first|rw[HEQ.out]at x3|rw[show O _ _ _=_ from HEQ.out]at x3);have hrw:=M2.rows.sl;(first|rw[HEQ.out]at hrw|rw[show O _ _ _=_ from HEQ.out]at hrw);have HRW:Xo (zb slE w0.heap.size W2 (O (Xa ⟨g,0,Xb⟩) sn cs') m.sl):=hrw;obtain⟨zv,HZV⟩:∃zv,Xo (m.sl[k]? =Xa zv):=⟨_,gE (Rx HSL.out hks)⟩
   have hce:=hrw.one HZV.out;have d0:W2.cell? ⟨g,k,Xb⟩=Xa (I6 zv):=by
    have:=hce 0 _ rfl;rw[zS,Ot,zA]at this
    simpa [slE,Nat.mul_one]using this
   clear hce hrw heq
   by_cases hz:zv=0
   ·have hze:(zv == 0)=Xc:=by simp[hz]
    have HZ0:Xo (m.sl[k]? =Xa 0):=dD<|by rw[HZV.out,hz]
    clear hz;have xf:=HRW.unfrozen rfl;go_upto_region 16 with fail;obtain⟨ow3,gr3,sz3⟩:=HRW.cell (k:=k) (o:=0) rfl HZV (y:=1) (u:=I6 1) rfl Dc
    obtain⟨W3,hW3⟩:=kB (W2.setCell ⟨g,k,Xb⟩ (I6 1));have e3:W2.setCell ⟨g,k*slE.k+0,Xb⟩ (I6 1)=W3:=by rw[<-hW3];simp[slE]
    rw[e3]at ow3 gr3 sz3;rw[hW3];rw[<-HEQ.out]at ow3;clear e3 hW3 xf;have hM3:=M2.setS (Rr HEQ.out) gr3 sz3 ow3
    have M3:Xo (Mk w0 hi W3 b vl2 L2 V { m with sl:=m.sl.set k 1 } vt T):=hM3.1;have K3:Xo (zC hi w W3):=K2.trans hM3.2;clear hM3 ow3 gr3 sz3 x3 d0;have HSBL:Xo (m.sb.length=sn):=show _=_ by rw[HB.sbl,HSL.out]
    obtain⟨gb,cb,hbe⟩:∃gb cb,V.sb.x= O (Xa ⟨gb,0,Xb⟩) sn cb:=by
     have h1:=M3.rows.sb.1;have hl:({ m with sl:=m.sl.set k 1 }:Ma).sb.length=sn:=HSBL.out;rw[hl]at h1
     rcases h1.2 with⟨_,h2⟩|⟨gb,cap,cur,e1,_⟩
     ·omega
     exact⟨gb,cap,e1⟩
    have HBE:Xo (V.sb.x= O (Xa ⟨gb,0,Xb⟩) sn cb):=hbe;clear hbe;obtain⟨I,HI⟩:=Wq fun u=>u.cell? ⟨b,4,Xb⟩=Xa (O (Xa ⟨gb,0,Xb⟩) sn cb)
    have HIM:Xo (∀u vl' L' m',Mk w0 hi u b vl' L' V m' vt T->u.cell? ⟨b,4,Xb⟩=Xa (O (Xa ⟨gb,0,Xb⟩) sn cb)):=dD<|fun u vl' L' m' hm=>by
     have:=hm.box.box.c 4 rfl;(first|rw[HBE.out]at this|rw[show O _ _ _=_ from HBE.out]at this);exact this
    have hI0:I W3.drew:=(HI _).2 (HIM _ _ _ _ (M3.grew (gW _)))
    have hF0:MkE w0 hi b w L V { m with sl:=m.sl.set k 1 } vt T W3.drew:=⟨vl2,L2,M3.grew (gW _),LL2,K3.trans (zC.grew (gW _))⟩
    have ht:∀y:zj I,y.world.cell? ⟨b,4,Xb⟩=Xa (O (Xa ⟨gb,0,Xb⟩) sn cb):=fun y=>(HI _).1 y.holds
    have hne:Nonempty (zj I):=⟨⟨_,hI0⟩⟩;refine zQ (I:=I) 10 [(8,fun v=>∃q:List Int,v= Xi (pgc q).toArray/\q.length=8)] (fun u=>MkE w0 hi b w L V { m with sl:=m.sl.set k 1 } vt T u) hI0 hF0 z6 Kr rfl rfl Dc (Sa ⟨_,zp,rfl,rfl⟩) Kr ?_
    simp only[Yp,Yq];iterate 1 (refine zL rfl rfl rfl (fun K hK=>?_);go_big_quiet_op;refine hK _ ?_;clear hK K)
    refine z4 (.tmp 149) ⟨b,0,Xb⟩ rfl rfl rfl rfl ?_;simp only[Xw,sB,sS,sZ];iterate 6 (refine zL rfl rfl rfl (fun K hK=>?_);go_big_quiet_op;refine hK _ ?_;clear hK K)
    refine zI rfl rfl (fun _ u=>MkE w0 hi b w L V { m with sl:=m.sl.set k 1 } vt T u) (fun w' hI' hF'=>?_) (fun v1 hv=>?_)
    ·obtain⟨vl',L',mk',ll',kp'⟩:=hF';refine zJ.call [Xj (Xa ⟨b,0,Xb⟩)] rfl func18 rfl rfl rfl ?_;refine(zch mk').mono ?_;rintro e w'' ⟨vl3,L3,q,rfl,ql,mk3,gr3,ll3⟩;exact⟨_,rfl,(HI _).2 (HIM _ _ _ _ mk3),⟨q,rfl,ql⟩,vl3,L3,mk3,ll'.trans ll3,kp'.trans (mk'.keeps gr3)⟩
    obtain⟨q6,rfl,ql6⟩:=hv;have HQL:Xo (q6.length=8):=ql6;clear ql6;simp only[Xw,sB,sS,sZ];iterate 1 (refine zL rfl rfl rfl (fun K hK=>?_);go_big_quiet_op;refine hK _ ?_;clear hK K)
    refine qJ fun W6 hI6 hF6=>?_
    obtain⟨vl6,L6,mk6,ll6,kp6⟩:=hF6;have M6:Xo (Mk w0 hi W6 b vl6 L6 V { m with sl:=m.sl.set k 1 } vt T):=mk6;have LL6:Xo (QT L L6):=ll6;have K6:Xo (zC hi w W6):=kp6;clear mk6 ll6 kp6 hI6 hI0 hF0 ht hne;have R6:Xo (zh w0.heap.size W6 (O (Xa ⟨gb,0,Xb⟩) sn cb) m.sb):=show zh _ _ _ _ by rw[<-HBE.out];exact M6.rows.sb
    refine jH rfl (.tmp 158) (.tmp 157) rfl w0.heap.size _ m.sb R6 gb k rfl (by rw[HSBL.out];exact hks) q6 HQL ⟨gb,k*8,Xb⟩ rfl rfl rfl ?_
    intro W7 ow7 gr7 sz7;rw[<-HBE.out]at ow7;have hM7:=M6.setSb (Rr HBE.out) gr7 sz7 ow7
    have M7:Xo (Mk w0 hi W7 b vl6 L6 V { m with sl:=m.sl.set k 1,sb:=m.sb.set k q6 } vt T):=hM7.1;have K7:Xo (zC hi w W7):=K6.trans hM7.2;clear hM7 ow7 gr7 sz7;obtain⟨gt,ct,hte⟩:=M7.rows.tt.formS (by rw[HTL.out];omega)
    rw[HTL.out]at hte;have HTE:Xo (vt.x= O (Xa ⟨gt,0,Xb⟩) tn ct):=hte;have R7:Xo (zb zb7 w0.heap.size W7 (O (Xa ⟨gt,0,Xb⟩) tn ct) T):=show zb _ _ _ _ _ by rw[<-HTE.out];exact M7.rows.tt
    have x12:=M7.box.box.c 12 rfl;(first|rw[HTE.out]at x12|rw[show O _ _ _=_ from HTE.out]at x12);have hptz:(p:Int)< (tn:Int):=Wm
    have hnz:(n:Int)<64:=Wm
    clear hte
    go_wp2_with (refine zD (E:=zb7) rfl (.tmp 168) (.tmp 166) 75 rfl w0.heap.size _ T R7 gt p (n*3) rfl f (jt f n ⟨2,(k:Int),Xd⟩) HT (env ⟨2,(k:Int),Xd⟩) Kr (zbc f hn _) (by show n*3+3<=192;omega) (enE.one _) ⟨gt,p*192+n*3,Xb⟩ rfl rfl (Xi (env ⟨2,(k:Int),Xd⟩).toArray) rfl rfl ?_)
    intro W9 ow9 gr9 sz9;rw[<-HTE.out]at ow9;have hM9:=M7.setT (Rr HTE.out) gr9 sz9 ow9
    have M9:Xo (Mk w0 hi W9 b vl6 L6 V { m with sl:=m.sl.set k 1,sb:=m.sb.set k q6 } vt (T.set p (jt f n ⟨2,(k:Int),Xd⟩))):=hM9.1;have K9:Xo (zC hi w W9):=K7.trans hM9.2;have HBF:Xo (qK { m with sl:=m.sl.set k 1,sb:=m.sb.set k q6 } (T.set p (jt f n ⟨2,(k:Int),Xd⟩))):=HB.swap HZ0 HS HT hn H0 HIS HSE.1;clear hM9 ow9 gr9 sz9 x12;have HE:Xo (Ent w0 hi b w L m vt T p n f W9):=show Ent _ _ _ _ _ _ _ _ _ _ _ _ from⟨vl6,L6,_,_,_,M9,LL6,K9,HBF,⟨rfl,rfl,rfl,rfl⟩,.inr ⟨_,rfl⟩,fun h=>absurd h HLN⟩
    go_wp2
    exact Ge HE.out
   have hze:(zv == 0)=Xd:=by simp[hz]
   clear hz;have HE:Xo (Ent w0 hi b w L m vt T p n f W2):=dD<|Ent.same p n f HB ⟨vl2,L2,M2,LL2,K2⟩
   go_wp2
   exact Ge HE.out
  | false=>
   go_upto_region 2 with fail;clear x3;have hpg2:=zch M1.out;go_wp2_with fail;refine hpg2.mono ?_;clear hpg2;rintro e W5 ⟨vl5,L5,q5,rfl,ql5,mk5,gr5,ll5⟩;obtain⟨p0,p1,p2,p3,p4,p5,p6,p7,rfl⟩:=zdB q5 ql5;simp only[pgc,mP,Yj];have M5:Xo (Mk w0 hi W5 b vl5 L5 V m vt T):=mk5;have K5:=dD (K1.trans (M1.keeps gr5));have X5:Xo (zo W5 px 81 [Xh Xc,Xh xrd,Xh xwr,Xh Xd,I6 xfi,I6 xpg]):=(M1.keeps gr5).1 _ _ _ X1 Q6;have LL5:=dD (LL1.trans ll5);clear ql5 mk5 gr5 ll5;have hpk2:=qB 2 M5.out;go_wp2_with fail;refine hpk2.mono ?_;clear hpk2;rintro e W6 ⟨vl6,L6,z,rfl,mk6,gr6,_,_,_,_,ll6⟩;have M6:Xo (Mk w0 hi W6 b vl6 L6 V m vt T):=mk6;have K6:=dD (K5.trans (M5.keeps gr6));have X6:Xo (zo W6 px 81 [Xh Xc,Xh xrd,Xh xwr,Xh Xd,I6 xfi,I6 xpg]):=(M5.keeps gr6).1 _ _ _ X5 Q6;have LL6:=dD (LL5.trans ll6);clear mk6 gr6 ll6;have hfm:=zgx ⟨⟨p0,p1,p2,p3,p4,p5,p6,p7⟩,1,z == 1,Xd,-1,0⟩ M6 ⟨fun _=>rfl,fun _ e=>absurd rfl e⟩
   go_wp2_with fail;refine hfm.mono ?_;clear hfm;rintro e W7 (⟨rfl,hE⟩|⟨k,q,rfl,hq,hr,vl7,L7,mk7,ll7,kp7⟩)
   ·have HEE:Xo (MkE w0 hi b w L V m vt T W7):=hE.trans LL6 K6.out;clear hE;have HE:Xo (Ent w0 hi b w L m vt T p n f W7):=show Ent _ _ _ _ _ _ _ _ _ _ _ _ from Ent.same p n f HB HEE.out
    go_wp2
    exact Ge HE.out
   have HQ:Xo (m.fs[k]? =Xa q):=hq;have HR0:Xo (q.r=0):=hr;have M7:Xo (Mk w0 hi W7 b vl7 L7 V { m with fs:=m.fs.set k ⟨⟨p0,p1,p2,p3,p4,p5,p6,p7⟩,1,z == 1,Xd,-1,0⟩ } vt T):=mk7;have K7:=dD (K6.trans kp7);have X7:Xo (zo W7 px 81 [Xh Xc,Xh xrd,Xh xwr,Xh Xd,I6 xfi,I6 xpg]):=kp7.1 _ _ _ X6 Q6;have LL7:=dD (LL6.trans ll7);clear hq hr mk7 ll7 kp7;have hk0:(0:Int)<=(k:Int):=Wm
   have hkd:decide ((0:Int)<=(k:Int))=Xc:=Sm
   have HBF:Xo (∀wf:Bool,(wf=Xc->xwr=Xc)->qK { m with fs:=m.fs.set k ⟨⟨p0,p1,p2,p3,p4,p5,p6,p7⟩,1,z == 1,Xd,-1,0⟩ } (T.set p (jt f n ⟨1,(k:Int),wf⟩))):=dD<|fun wf hwf=>HB.mine HQ HR0 HS HT hn H0 HIS HSE.1 (fun e=>by rw[HWR.out];exact hwf e)
   go_upto_region 4 with fail;obtain⟨gt,ct,hte⟩:=M7.rows.tt.formS (by rw[HTL.out];omega)
   rw[HTL.out]at hte;have HTE:Xo (vt.x= O (Xa ⟨gt,0,Xb⟩) tn ct):=hte;clear hte;obtain⟨I,HI⟩:=Wq fun u=>u.cell? ⟨b,12,Xb⟩=Xa (O (Xa ⟨gt,0,Xb⟩) tn ct)/\zo u px 81 [Xh Xc,Xh xrd,Xh xwr,Xh Xd,I6 xfi,I6 xpg]
   have HIM:Xo (∀u vl' L' V' m',Mk w0 hi u b vl' L' V' m' vt T->u.cell? ⟨b,12,Xb⟩=Xa (O (Xa ⟨gt,0,Xb⟩) tn ct)):=dD<|fun u vl' L' V' m' hm=>by
    have:=hm.box.box.c 12 rfl;(first|rw[HTE.out]at this|rw[show O _ _ _=_ from HTE.out]at this);exact this
   have hI0:I W7.drew:=(HI _).2 ⟨HIM _ _ _ _ _ (M7.grew (gW _)),X7.grew (gW _)⟩
   have hF0:MkE w0 hi b w L V { m with fs:=m.fs.set k ⟨⟨p0,p1,p2,p3,p4,p5,p6,p7⟩,1,z == 1,Xd,-1,0⟩ } vt T W7.drew:=⟨vl7,L7,M7.grew (gW _),LL7,K7.trans (zC.grew (gW _))⟩
   have ht:∀y:zj I,y.world.cell? ⟨b,12,Xb⟩=Xa (O (Xa ⟨gt,0,Xb⟩) tn ct):=fun y=>((HI _).1 y.holds).1
   have hx2:∀y:zj I,y.world.cell? ⟨px,2,Xb⟩=Xa (Xh xwr):=fun y=>((HI _).1 y.holds).2.box.c 2 rfl
   have hx3:∀y:zj I,y.world.cell? ⟨px,3,Xb⟩=Xa (Xh Xd):=fun y=>((HI _).1 y.holds).2.box.c 3 rfl
   have hne:Nonempty (zj I):=⟨⟨_,hI0⟩⟩;have hptz:(p:Int)< (tn:Int):=Wm
   have hnz:(n:Int)<64:=Wm
   cases xwr
   all_goals (
    refine zQ (I:=I) 17 [(11,fun v=>∃x:Int,v=I6 x)] (fun u=>MkE w0 hi b w L V { m with fs:=m.fs.set k ⟨⟨p0,p1,p2,p3,p4,p5,p6,p7⟩,1,z == 1,Xd,-1,0⟩ } vt T u) hI0 hF0 z6 Kr rfl rfl Dc (by intro x hx;simp only[mC,nM,or_false]at hx;subst hx;exact⟨_,0,rfl⟩) Kr ?_
    simp only[Yp,Yq];iterate 1 (refine zL rfl rfl rfl (fun K hK=>?_);go_big_quiet_op;refine hK _ ?_;clear hK K)
    refine z4 (.tmp 24) ⟨b,0,Xb⟩ rfl rfl rfl rfl ?_;simp only[Xw,sB,sS,sZ];iterate 8 (refine zL rfl rfl rfl (fun K hK=>?_);go_big_quiet_op;refine hK _ ?_;clear hK K)
    (first | (refine ZU rfl ?_;simp only[Xw,sB,sS,sZ]) | (refine zL rfl rfl rfl (fun K hK=>?_);go_big_quiet_op;refine hK _ ?_;clear hK K))
    (first | (refine ZU rfl ?_;simp only[Xw,sB,sS,sZ]) | (refine zI rfl rfl (fun _ u=>MkE w0 hi b w L V { m with fs:=m.fs.set k ⟨⟨p0,p1,p2,p3,p4,p5,p6,p7⟩,1,z == 1,Xd,-1,0⟩ } vt T u) (fun w' hI' hF'=>by obtain⟨vl',L',mk',ll',kp'⟩:=hF';refine zJ.call [Xj (Xa ⟨b,0,Xb⟩),I6 2] rfl func15 rfl rfl rfl ?_;refine(qB 2 mk').mono ?_;rintro e w'' ⟨vl2,L2,x,rfl,mk2,gr2,_,_,_,_,ll2⟩;exact⟨_,rfl,(HI _).2 ⟨HIM _ _ _ _ _ mk2,(mk'.keeps gr2).1 _ _ _ ((HI _).1 hI').2 Q6⟩,⟨x,rfl⟩,vl2,L2,mk2,ll'.trans ll2,kp'.trans (mk'.keeps gr2)⟩) (fun v1 hv=>?_);obtain⟨xq,rfl⟩:=hv;simp only[Xw,sB,sS,sZ]))
    (first | (refine ZU rfl ?_;simp only[Xw,sB,sS,sZ]) | (refine zL rfl rfl rfl (fun K hK=>?_);go_big_quiet_op;refine hK _ ?_;clear hK K))
    iterate 4 (refine zL rfl rfl rfl (fun K hK=>?_);go_big_quiet_op;refine hK _ ?_;clear hK K)
    refine qJ fun W8 hI8 hF8=>?_
    obtain⟨vl8,L8,mk8,ll8,kp8⟩:=hF8;have M8:Xo (Mk w0 hi W8 b vl8 L8 V { m with fs:=m.fs.set k ⟨⟨p0,p1,p2,p3,p4,p5,p6,p7⟩,1,z == 1,Xd,-1,0⟩ } vt T):=mk8;have LL8:Xo (QT L L8):=ll8;have K8:Xo (zC hi w W8):=kp8;clear mk8 ll8 kp8 hI8 hI0 hF0 ht hx2 hx3 hne;have R8:Xo (zb zb7 w0.heap.size W8 (O (Xa ⟨gt,0,Xb⟩) tn ct) T):=show zb _ _ _ _ _ by rw[<-HTE.out];exact M8.rows.tt
    refine zD (E:=zb7) rfl (.tmp 40) (.tmp 38) 75 rfl w0.heap.size _ T R8 gt p (n*3) rfl f (jt f n ⟨1,(k:Int),_⟩) HT (env ⟨1,(k:Int),_⟩) Kr (zbc f hn _) (by show n*3+3<=192;omega) (enE.one _) ⟨gt,p*192+n*3,Xb⟩ rfl rfl _ rfl rfl ?_
    intro W9 ow9 gr9 sz9;rw[<-HTE.out]at ow9;have hM9:=M8.setT (Rr HTE.out) gr9 sz9 ow9
    have M9:Xo _:=hM9.1;have K9:Xo (zC hi w W9):=K8.trans hM9.2;clear hM9 ow9 gr9 sz9;have HE:Xo (Ent w0 hi b w L m vt T p n f W9):=show Ent _ _ _ _ _ _ _ _ _ _ _ _ from⟨vl8,L8,_,_,_,M9,LL8,K9,HBF _ (by intro e;first | rfl | cases e),⟨rfl,rfl,rfl,Xt⟩,.inr ⟨_,rfl⟩,fun h=>absurd h HLN⟩
    go_wp2
    exact Ge HE.out)
end
section
def zkI (m:Ma) (x:On) (e:En):List Int × Bool × Int:=
 if x.is=Xd then(zp,Xd,5)
 else if e.kind=1 then(pgL (zU m e.n).p,decide ((zU m e.n).f<0),0)
 else if e.kind=2 then(qv m.sb m.sq e.n,Xc,0)
 else if x.file<0 then(zp,Xd,0)
 else if bkN m x.file<=x.page then(zp,Xd,9)
 else(qn m x.file x.page,Xd,0)
theorem zcf {p n:Nat} {s:Sp} (a:m.sp[p]? =Xa s) (b:n<64):qY m (p:Int) (n:Int)=zkI m (zB s.ars n) (zm s n):=by
 have b:=(gS.1 a).1;unfold qY;rw[kF Wm]
 simp only[tN,gD,a,Option.getD_some];rfl
theorem zit {p n:Int} (h:p<0\/(m.sp.length:Int)<=p\/n<0\/63<n):qY m p n=(zp,Xd,5):=by
 unfold qY;rw[kE h]
def yn (b:Bool):Int:=if b=Xc then 121 else 110
def zjt (m:Ma) (p:Nat) (s:Sp):List Int:=
 112 ::(if s.live=Xc then [108]else [])++(Ys 64).flatMap fun n=>
  if(zB s.ars n).is=Xd then []
  else [(n:Int),(qY m (p:Int) (n:Int)).2.2 % 256,(zB s.ars n).file % 256,(zB s.ars n).page % 256]++(qY m (p:Int) (n:Int)).1++ [yn (zB s.ars n).rd,yn (zB s.ars n).wr,yn (zB s.ars n).sh,yn ((qY m (p:Int) (n:Int)).2.1 && decide (0<=(zB s.ars n).file))]
def zla (m:Ma) (f:Nat):List Int:=102 ::((Zz m (f:Int)).length:Int) % 256 :: Zz m (f:Int)
def zcC (m:Ma):List Sp->Nat->List Int
 | [],_=>[]
 | s :: l,p=>zjt m p s++zcC m l (p+1)
def zdH (m:Ma):List Int:=zcC m m.sp 0++(Ys m.fl.length).flatMap (zla m)
def zps (m m':Ma) (p:Nat) (s s':Sp):Prop:=s'.live=s.live/\s'.ars=s.ars/\∀n:Nat,n<64->(zB s.ars n).is=Xc->(qY m' (p:Int) (n:Int)).1=(qY m (p:Int) (n:Int)).1/\(qY m' (p:Int) (n:Int)).2.2=(qY m (p:Int) (n:Int)).2.2/\(0<=(zB s.ars n).file->(qY m' (p:Int) (n:Int)).2.1=(qY m (p:Int) (n:Int)).2.1)
theorem zbH {α β:Type} {f g:α->List β}:∀{l:List α},(∀x∈l,f x=g x)->l.flatMap f=l.flatMap g
 | [],_=>rfl
 | x :: l,h=>by
  rw[Yv,Yv,h x Sm,zbH fun y hy=>h y (by simp[hy])]
theorem zjs {p:Nat} {s s':Sp} (h:zps m m' p s s'):zjt m' p s'=zjt m p s:=by
 obtain⟨h1,h2,h3⟩:=h;unfold zjt;rw[h1,h2]
 congr 1
 refine zbH fun n hn=>?_
 rw[Yi]at hn
 by_cases hx:(zB s.ars n).is=Xd
 ·rw[kE hx,kE hx]
 rw[kF hx,kF hx];obtain⟨g1,g2,g3⟩:=h3 n hn (Si hx)
 rw[g1,g2]
 by_cases hf:0<=(zB s.ars n).file
 ·rw[g3 hf]
 simp[hf]
theorem zk9 (hl:m'.sp.length=m.sp.length) (hp:∀(p:Nat) s s',m.sp[p]? =Xa s->m'.sp[p]? =Xa s'->zps m m' p s s') (hf:m'.fl.length=m.fl.length) (hb:∀f:Nat,f<m.fl.length->Zz m' (f:Int)=Zz m (f:Int)):zdH m'=zdH m:=by
 have key:∀(l l':List Sp) (p:Nat),l'.length=l.length->(∀(i:Nat) s s',l[i]? =Xa s->l'[i]? =Xa s'->zps m m' (p+i) s s')->zcC m' l' p=zcC m l p:=by
  intro l
  induction l with
  | nil=>intro l' p hl _;rw[List.length_eq_zero_iff.1 hl];rfl
  | cons s l ih=>
   intro l' p hl h
   cases l' with
   | nil=>simp at hl
   | cons s' l'=>
    unfold zcC;have h00:=zjs (h 0 s s' rfl rfl);rw[Nat.add_zero]at h00;rw[h00,ih l' (p+1) (Si hl) fun i a b ha hb=>by
     have:=h (i+1) a b (Si ha) (Si hb)
     rw[show p+(i+1)=p+1+i by omega]at this
     exact this]
 unfold zdH;rw[key m.sp m'.sp 0 hl (fun i s s' h1 h2=>by rw[zA];exact hp i s s' h1 h2),hf]
 congr 1
 refine zbH fun f hfm=>?_
 rw[Yi]at hfm;unfold zla;rw[hb f hfm]
theorem zeQ {x:On} {e e':En} (g:e'.kind=e.kind) (h:e'.n=e.n) (b:e.kind=1->(zU m' e.n).p=(zU m e.n).p/\((zU m' e.n).f<0↔(zU m e.n).f<0)) (c:e.kind=2->qv m'.sb m'.sq e.n=qv m.sb m.sq e.n)
  (d:∀file,bkN m' file=bkN m file) (f:∀file a,qn m' file a=qn m file a):zkI m' x e'=zkI m x e:=by
 unfold zkI;rw[g,h,d,f]
 by_cases a:x.is=Xd
 ·rw[kE a,kE a]
 rw[kF a,kF a]
 by_cases a:e.kind=1
 ·rw[kE a,kE a,(b a).1,decide_eq_decide.2 (b a).2]
 rw[kF a,kF a]
 by_cases a:e.kind=2
 ·rw[kE a,kE a,c a]
 rw[kF a,kF a]
theorem zgQ (b:m'.ca=m.ca) (f:m'.fl=m.fl) (d:m'.db=m.db) (e:m'.dq=m.dq) (g:∀c∈m.ca,(zU m' c.fr).p=(zU m c.fr).p) (file a:Int):qn m' file a=qn m file a:=by
 unfold qn;rw[b]
 cases b:m.ca.find? (Jw file a)with
 | some c=>
  simp only;rw[g c (Yu b)]
 | none=>
  simp only;unfold zdQ Qb;rw[f,d,e]
section
variable{m:Ma} {T:List (Nat->En)}
theorem qK.marks (h:qK m T) {k:Nat} {fr:Fr} {p:Pg} {u d:Bool} (i:m.fs[k]? =Xa fr) (r:fr.r≠0):qK { m with fs:=m.fs.set k { fr with p:=p,u:=u,d:=d } } T:=by
 have f:=(gS.1 i).1;have l:=h.fok fr (mG i);have b:∀z:Int,0<=z->(zU { m with fs:=m.fs.set k { fr with p:=p,u:=u,d:=d } } z).f=(zU m z).f/\(zU { m with fs:=m.fs.set k { fr with p:=p,u:=u,d:=d } } z).x=(zU m z).x/\(zU { m with fs:=m.fs.set k { fr with p:=p,u:=u,d:=d } } z).r=(zU m z).r:=fun z a=>by
  rw[js f z a]
  by_cases e:z=(k:Int)
  ·subst e;rw[kE rfl,qp i];exact⟨rfl,rfl,rfl⟩
  rw[kF e];exact⟨rfl,rfl,rfl⟩
 refine⟨by simpa using h.fs40,fun g c=>?_,h.sl60,h.sbl,h.sq,h.dok,h.st,h.cnt,h.blk,h.que,h.spl,h.spok,h.tl,?_,fun y D g C c j a=>?_,fun j g a=>?_,h.cs⟩
 ·rcases List.mem_or_eq_of_mem_set c with c|rfl
  ·exact h.fok g c
  obtain⟨v,n,w,x,q⟩:=l;exact⟨v,n,w,fun h=>absurd h r,q⟩
 ·obtain⟨q,l,r⟩:=zu.1 h.ca;refine zu.2 ⟨fun l s=>?_,fun y l t=>(by cases t),r⟩
  obtain⟨t,z,A,B⟩:=j8 (q l s);obtain⟨q,r,s⟩:=b l.fr t.2.2.2.2.1;exact zbg (by simpa [bkN]using t) (Rx s z) (Rx q A) (Rx r B)
 ·rcases h.ent y D g C c j a with e|e
  ·exact .inl e
  refine .inr ⟨e.1,e.2.1,j5 e.2.2 rfl Sm fun c=>?_⟩
  obtain⟨v,n,w,x⟩:=z8 e c;obtain⟨q,r,s⟩:=b (g j).n n;exact⟨q,r,Rx s x⟩
 by_cases e:j=k
 ·subst e;simp only at a;rw[sF f]at a;cases a;exact h.cf j fr i
 simp only at a;rw[sN (fun h=>e h.symm)]at a
 exact h.cf j g a
end
def zp6 (g:Nat->Nat):Nat->Nat
 | 0=>0
 | n+1=>zp6 g n+g n
def ZA (l:List Ar):Nat->Nat
 | 0=>0
 | n+1=>ZA l n+(zB l n).is.toNat
theorem zoc {a:Ar} (h:(zb6 l a).2=0):ZA (zb6 l a).1 64<=ZA l 64+(a.tz - a.fr).toNat:=by
 obtain⟨c,d,b,b,f⟩:=zhJ h;have b:=ZG.1 d;have d:=za1 (jq.1 c).2 b;unfold jQ at b;have c:∀n:Nat,n<=64->ZA (zb6 l a).1 n<=ZA l n+(min (n:Int) a.tz - min (n:Int) a.fr).toNat:=by
  intro n
  induction n with
  | zero=>intro _;simp[ZA]
  | succ n b=>
   intro e;have e:=b Wm
   unfold ZA;have e:(zB (zb6 l a).1 n).is=(zhI l a n).is:=by rw[f,ze6 d Wm]
   rw[e];unfold zhI
   by_cases b:jX a n=Xc
   ·have:=z5.1 b;rw[kE b,ziH];simp only[Bool.toNat_true];omega
   have d:¬(a.fr<=(n:Int)/\(n:Int)<a.tz):=fun h=>b (z5.2 h)
   rw[kF b];omega
 have:=c 64 (nR _);omega
end
section
open Go.RowKit
section
variable{base hi S0:Nat} {w w':Xn} {V:MaV} {m:Ma} {vt:Sli} {T:List (Nat->En)}
def SpB (base S0:Nat) (w:Xn) (V:MaV) (m:Ma):Prop:=∃xs:List SpV,zb ZC base w (O V.sp.a V.sp.n V.sp.c) xs/\xs.length=m.sp.length/\∀(i:Nat) x s,xs[i]? =Xa x->m.sp[i]? =Xa s->(x.live=s.live/\zb arE base w x.ar.v s.ars/\x.tab=QF/\s.tb=qG)/\∀g,x.ar.v.ownBlock=Xa g->g<S0
theorem MkR.spB (h:MkR base hi w V m vt T):SpB base w.heap.size w V m:=by
 obtain⟨d,b,c,a⟩:=h.sp;exact⟨d,b,c,fun i x s c b=>⟨a i x s c b,fun g d=>((a i x s c b).2.1.lt g d).2⟩⟩
theorem SpB.grew (h:SpB base S0 w V m) (k:zc w w'):SpB base S0 w' V m:=by
 obtain⟨c,a,b,e⟩:=h;refine⟨c,a.grew k,b,fun i x s g f=>?_⟩
 obtain⟨⟨a,b,c⟩,d⟩:=e i x s g f;exact⟨⟨a,b.grew k,c⟩,d⟩
theorem SpB.kind (h:SpB base S0 w V m) {g:Nat} {cs:Array Xq} (b:w.grownBy w' (Xa g)) (e:w.heap[g]? =Xa (Xk cs t (0,0))) (c:t≠79) (a:t≠105\/S0<=g):SpB base S0 w' V m:=by
 obtain⟨i,d,f,l⟩:=h;refine⟨i,d.kind b e c,f,fun k x s j i=>?_⟩
 obtain⟨⟨f,c,h⟩,d⟩:=l k x s j i;refine⟨⟨f,?_,h⟩,d⟩
 rcases a with a|a
 ·exact c.kind b e a
 exact c.grown b fun k a e=>by cases e;have:=d _ a;omega
theorem MkR.area (h:MkR base hi w V m vt T) (b:SpB base S0 w V m) {g:Nat} {cs:Array Xq} (a:w.grownBy w' (Xa g)) (c:w.heap[g]? =Xa (Xk cs 105 (0,0))) (d:S0<=g):MkR base hi w' V m vt T:=by
 obtain⟨e,f,i,j,k,l,n,p,p⟩:=h.kept a c;obtain⟨t,q,r,s⟩:=b.kind a c Dc (.inr d)
 exact⟨nT h.hw a.size,h.bh,e Dc,f (.inl Dc),h.slh,i (.inl Dc),h.sbh,h.sq,j (.inl Dc),h.dbh,k Dc,l Dc (.inl Dc),n Dc,⟨t,q,r,fun i x c a b=>(s i x c a b).1⟩,p Dc,h.ap⟩
theorem qz (h:w.grownBy w' Xb):zc w w':=zT (zc.refl _) h (fun g e=>by cases e)
theorem MkR.addSp {c:List SpV} (h:MkR base hi w V m vt T) (s1:zb ZC base w (V.sp.x) c) (s2:c.length=m.sp.length) (s3:∀(i:Nat) x s,c[i]? =Xa x->m.sp[i]? =Xa s->x.live=s.live/\zb arE base w x.ar.v s.ars/\x.tab=QF/\s.tb=qG)
  (b:w.grownBy w' (V.sp.x).ownBlock) (s a:Sli) {l:List Ar} (n:zb arE base w a.v l) (e:zb ZC base w' (s.x) (c++ [⟨Xc,a,zG,zG,zG,zG,zG,zG,zG,zG⟩])):MkR base hi w' { V with sp:=s } { m with sp:=m.sp++ [⟨Xc,l,qG⟩] } vt T:=by
 have d:(∀{x:SpV} {q:Sp},zb arE base w x.ar.v q.ars->zb arE base w' x.ar.v q.ars)->zb arE base w' a.v l->∃a:List SpV,zb ZC base w' (s.x) a/\a.length=(m.sp++ [(⟨Xc,l,qG⟩:Sp)]).length/\∀(i:Nat) x q,a[i]? =Xa x->(m.sp++ [(⟨Xc,l,qG⟩:Sp)])[i]? =Xa q->x.live=q.live/\zb arE base w' x.ar.v q.ars/\x.tab=QF/\q.tb=qG:=fun g j=>by
  refine⟨_,e,by simp[s2],fun i x q a e=>?_⟩
  rcases Nat.lt_or_ge i c.length with hi|hi
  ·rw[Xz hi]at a;rw[Xz Wm]at e
   obtain⟨f,k,p,r⟩:=s3 i x q a e;exact⟨f,g k,p,r⟩
  rw[aR hi]at a;rw[aR Wm,<-s2]at e
  have f:i - c.length=0:=by
   have:=(gS.1 a).1
   simp at this
   omega
  rw[f]at a e;cases a;cases e;exact⟨rfl,j,rfl,rfl⟩
 cases c:(V.sp.x).ownBlock with
 | none=>
  rw[c]at b;have k:=qz b;have a:=h.grew k;exact⟨a.hw,a.bh,a.fs,a.sl,a.slh,a.sb,a.sbh,a.sq,a.db,a.dbh,a.dq,a.fl,a.ca,d (fun h=>h.grew k) (n.grew k),a.tt,a.ap⟩
 | some a=>
  rw[c]at b;obtain⟨a,a⟩:=s1.obj c;obtain⟨g,j,c,e,f,k,p,q,q⟩:=h.kept b a;exact⟨nT h.hw b.size,h.bh,g Dc,j (.inl Dc),h.slh,c (.inl Dc),h.sbh,h.sq,e (.inl Dc),h.dbh,f Dc,k Dc (.inl Dc),p Dc,d (fun h=>h.kind b a Dc) (n.kind b a Dc),q Dc,h.ap⟩
theorem MkR.addT (h:MkR base hi w V m vt T) (c:w.grownBy w' (vt.x).ownBlock) (s:Sli) {f:Nat->En} (d:zb zb7 base w' (s.x) (T++ [f])):MkR base hi w' V m s (T++ [f]):=by
 cases b:(vt.x).ownBlock with
 | none=>
  rw[b]at c;have a:=h.grew (qz c);exact⟨a.hw,a.bh,a.fs,a.sl,a.slh,a.sb,a.sbh,a.sq,a.db,a.dbh,a.dq,a.fl,a.ca,a.sp,d,a.ap⟩
 | some g=>
  rw[b]at c;obtain⟨a,a⟩:=h.tt.obj b;obtain⟨b,e,g,i,j,k,l,n,p⟩:=h.kept c a;exact⟨nT h.hw c.size,h.bh,b Dc,e (.inl Dc),h.slh,g (.inl Dc),h.sbh,h.sq,i (.inl Dc),h.dbh,j Dc,k Dc (.inl Dc),l Dc,n Dc Dc,d,h.ap⟩
theorem zC.row {α:Type} {E:Elt α} {v:Xq} {l:List α} (h:zb E base w v l) (b:w.grownBy w' v.ownBlock) (d:∀p,¬Loc hi p E.ty):zC hi w w':=by
 cases a:v.ownBlock with
 | none=>
  rw[a]at b;exact zC.grew (qz b)
 | some g=>
  rw[a]at b;obtain⟨c,c⟩:=h.obj a;exact zC.kind b c (fun p a=>absurd a (d p))
theorem zo.row {α:Type} {E:Elt α} {v:Xq} {l:List α} {cs:List Xq} (h:zb E base w v l) (c:w.grownBy w' v.ownBlock) (a:zo w b t cs) (ht:t≠E.ty):zo w' b t cs:=a.beside c fun g e=>h.ne a ht g e
theorem zc.row {α:Type} {E:Elt α} {v:Xq} {l:List α} (h:zb E w0.heap.size w v l) (b:w.grownBy w' v.ownBlock) (a:zc w0 w):zc w0 w':=zT a b fun g e=>(h.lt g e).1
end
section
variable{w0 w w':Xn} {hi b S0:Nat} {vl:Sli} {L:List Int} {V:MaV} {m:Ma} {vt:Sli} {T:List (Nat->En)}
theorem Mk.area (h:Mk w0 hi w b vl L V m vt T) (i:SpB w0.heap.size S0 w V m) {g:Nat} {cs:List Xq} (a:w.grownBy w' (Xa g)) (d:zo w g 105 cs) (f:S0<=g) (c:w0.heap.size<=g):Mk w0 hi w' b vl L V m vt T/\SpB w0.heap.size S0 w' V m:=by
 refine⟨⟨zd h.gr a c,h.hb,h.box.beside a (fun k e=>?_),h.lr,h.lc,h.lb,h.rows.area i a d f⟩,i.kind a d Dc (.inr f)⟩
 cases e;intro e;subst e;have a:w.heap[b]? =_:=h.box;rw[show w.heap[b]? =_ from d]at a
 cases a
theorem SpB.pick (c:SpB w0.heap.size S0 w V m) (h:Mk w0 hi w b vl L V m vt T) (a:w.grownBy w' (Xa b)):SpB w0.heap.size S0 w' V m:=c.kind a h.box Dc (.inl Dc)
theorem zb.pick {v:Xq} (c:zb arE w0.heap.size w v l) (h:Mk w0 hi w b vl L V m vt T) (a:w.grownBy w' (Xa b)):zb arE w0.heap.size w' v l:=c.kind a h.box Dc
end
theorem Ja {p:Nat}:Loc hi p 105:=⟨Dc,Dc,Dc,Dc,Dc,Dc,Dc,Dc,fun h=>absurd h Dc⟩
theorem ji (w:Xn) (g i:Nat) (u):w.grownBy (w.setCell ⟨g,i,Xb⟩ u) (Xa g):=⟨rfl,rfl,rfl,by simp[World.setCell],fun k _ a=>Below.heap_setCell _ _ _ _ (fun e=>a (by rw[e]))⟩
def Spc (w0:Xn) (hi b:Nat) (w:Xn) (L:List Int) (m:Ma) (T:List (Nat->En)) (w':Xn):Prop:=∃vl' L' V' m' vt' T' l,Mk w0 hi w' b vl' L' V' m' vt' T'/\QT L L'/\zC hi w w'/\qK m' T'/\(m'.sp=m.sp++ [⟨Xc,l,qG⟩]/\m'.fl=m.fl/\m'.hand=m.hand/\m'.fs.length=m.fs.length)/\(qH m.fl.length l/\ZA l 64<=12)/\(L=[]->m'={ m with sp:=m.sp++ [⟨Xc,[],qG⟩] }/\T'=T++ [fun _=>en0])
theorem zaM (f:Nat->En) (n:Nat):jt f n (f n)=f:=by
 funext j
 unfold jt
 split
 ·rename_i e
  rw[e]
 rfl
theorem zcg {α:Type} {l:List α} {i:Nat} {x:α} (h:l[i]? =Xa x):l.set i x=l:=by
 apply Xu
 intro j
 by_cases e:j=i
 ·subst e;rw[sF (gS.1 h).1,h]
 rw[sN (fun h=>e h.symm)]
section
variable{m:Ma} {T:List (Nat->En)} {s0 s1:Sp} {fA fB:Nat->En} {n:Nat}
theorem qK.entry0 (h:qK m T) (a:m.sp[0]? =Xa s0) (b:T[0]? =Xa fA) (c:n<64):fA n=en0\/(∃(k:Nat) (fr:Fr),(fA n).kind=1/\(fA n).n=(k:Int)/\m.fs[k]? =Xa fr)\/(∃(k:Nat) (z:Int),(fA n).kind=2/\(fA n).n=(k:Int)/\m.sl[k]? =Xa z/\0<=z/\z<=1000):=by
 rcases h.ent 0 s0 fA a b n c with e|e
 ·exact .inl e
 by_cases b:(fA n).kind=2
 ·refine .inr (.inr ?_);obtain⟨c,a,a⟩:=e;obtain⟨d,d,d⟩:=Qr c;unfold Jm at a
  by_cases c:(zB s0.ars n).is=Xd
  ·rw[kE c]at a;cases a
  rw[kF c,kE b]at a
  split at a
  ·cases a
  rename_i c
  have a:(fA n).n.toNat<m.sl.length:=by
   have:¬(m.sl.length:Int)<=(fA n).n:=fun e=>c (.inl e)
   omega
  have c:=h.cs _ _ (gE a);have c:=zbD T 2 ((fA n).n.toNat:Int);have c:=h.tl;have c:=h.spl;exact⟨(fA n).n.toNat,m.sl[(fA n).n.toNat],b,Wm,gE a,Wm,Wm⟩
 obtain⟨c,d,d,_⟩:=z8 e b;have a:(fA n).n.toNat<m.fs.length:=Wm
 exact .inr (.inl ⟨(fA n).n.toNat,m.fs[(fA n).n.toNat],c,Wm,gE a⟩)
theorem qK.forkP (t:qK m T) (p:m.sp[0]? =Xa s0) (q:m.sp[1]? =Xa s1) (h:s1.ars=s0.ars) (f:T[0]? =Xa fA) (v:T[1]? =Xa fB) (i:n<64) (g:fB n=en0) {k:Nat} {fr:Fr} (u:m.fs[k]? =Xa fr) (a:(fA n).kind=1) (c:(fA n).n=(k:Int)) {e':En} (s:e'=if(zB s0.ars n).sh=Xc then fA n else{ fA n with wr:=false }):
  qK { m with fs:=m.fs.set k { fr with r:=fr.r+1 } } ((T.set 0 (jt fA n e')).set 1 (jt fB n e')):=by
 have j:fA n≠en0:=fun e=>by rw[e]at a;cases a
 have l:=(t.ent 0 s0 fA p f n i).resolve_left j
 by_cases d:(zB s0.ars n).sh=Xc
 ·rw[kE d]at s;subst s;rw[zaM,zcg f];refine t.share u f rfl v Dc i g q (Rx h l) a c (fun _ b=>?_)
  obtain⟨b,b,b⟩:=l;unfold Jm at b
  by_cases l:(zB s0.ars n).is=Xd
  ·rw[kE l]at b;cases b
  rw[kF l,kF (by rw[a];decide)]at b
  split at b
  ·cases b
  split at b
  ·cases b
  rename_i l
  have b:zU m (fA n).n=fr:=by rw[c];exact qp u
  have:0<=(zB s0.ars n).file/\(zU m (fA n).n).f=(zB s0.ars n).file/\(zU m (fA n).n).x=(zB s0.ars n).page:=Classical.byContradiction fun e=>l (.inr (.inl ⟨d,e⟩))
  rw[b]at this;omega
 rw[kF d]at s;subst s;have l:=t.guard f i j;have b:(T.set 0 (jt fA n { fA n with wr:=false }))[0]? =Xa (jt fA n { fA n with wr:=false }):=sF (gS.1 f).1;have d:(T.set 0 (jt fA n { fA n with wr:=false }))[1]? =Xa fB:=by rw[sN Dc];exact v
 have f:jt fA n { fA n with wr:=false } n={ fA n with wr:=false }:=by unfold jt;rw[kE rfl]
 refine l.share u b f d Dc i g q ?_ a c (fun e=>by cases e)
 rw[h];have:=l.ent 0 s0 _ p b n i;rw[f]at this;refine this.resolve_left fun e=>?_
 have:({ fA n with wr:=false }:En).kind=en0.kind:=by rw[e]
 rw[show({ fA n with wr:=false }:En).kind=(fA n).kind from rfl,a]at this
 cases this
theorem qK.forkS (h:qK m T) (f:m.sp[0]? =Xa s0) (g:m.sp[1]? =Xa s1) (c:s1.ars=s0.ars) (i:T[0]? =Xa fA) (p:T[1]? =Xa fB) (j:n<64) (b:fB n=en0) {k:Nat} (q:m.sl[k]? =Xa z) (a:(fA n).kind=2) (d:(fA n).n=(k:Int)):
  qK { m with sl:=m.sl.set k (z+1) } ((T.set 0 (jt fA n (fA n))).set 1 (jt fB n (fA n))):=by
 have e:fA n≠en0:=fun l=>by rw[l]at a;cases a
 rw[zaM,zcg i];exact h.shareS q p j b g (by rw[c];exact(h.ent 0 s0 fA f i n j).resolve_left e) a d
theorem zl1 (d:T[0]? =Xa fA) (e:T[1]? =Xa fB) (a:fA n=en0) (b:fB n=en0):(T.set 0 (jt fA n en0)).set 1 (jt fB n en0)=T:=by
 have c:jt fA n en0=fA:=by
  have:=zaM fA n;rwa [a]at this
 have a:jt fB n en0=fB:=by
  have:=zaM fB n;rwa [b]at this
 rw[c,a,zcg d,zcg e]
end
section
variable{α:Type} {E:Elt α}
theorem zag {w:Xn} {a:Act} (p x t) (A:o.op= .store t p x) (base:Nat) (v:Xq) (l:List α) (b:zb E base w v l)
  (g i j:Nat) (s:v.ownBlock=Xa g) (e y:α) (hi:l[i]? =Xa e) (cs:List Xq) (f:(Tryz.prog.info? t).map (·.size)=Xa cs.length) (D:E.enc y=splice (E.enc e) j cs) (z:j+cs.length<=E.k) (n:∀u∈cs,u.oneCell'=Xc)
  (ad:Addr) (hp:a.eval p= Xj (Xa ad)) (c:ad=⟨g,i*E.k+j,Xb⟩) (k:Xq) (C:a.eval x=k) (h:k.cells=cs.toArray):
  ∃w',(execOp a.eval o).run prog w= .ok .skip w'/\zb E base w' v (l.set i y)/\w.grownBy w' (Xa g)/\w'.heap.size=w.heap.size:=by
 subst c;have d:=(gS.1 hi).1;have c:i*E.k+j+cs.length<=l.length*E.k:=by
  have:(i+1)*E.k<=l.length*E.k:=Ya _ d;rw[Of]at this;omega
 obtain⟨w',B,m,q,r⟩:=jy (P:=prog) b.1 s (i*E.k+j) cs c n;have d:(Go.sizeOf t).run prog w= .ok cs.length w:=by
  cases c:Tryz.prog.info? t with
  | none=>simp[c]at f
  | some i=>simp[c]at f;simp[Go.sizeOf,typeInfo,c,f]
 have c:(Instr.storeAt t (Xj (Xa ⟨g,i*E.k+j,Xb⟩)) k).run prog w= .ok () w':=by
  simp[Instr.storeAt,Instr.sureAddr,storeVar,Xv,d,Result.andThen,h,B]
 rw[QY j cs D z l i hi]at m;refine⟨w',?_,⟨Rx Xt m,Rx Xt b.2⟩,q,r⟩
 simp only[execOp,A,hp,C,Xv,c,Result.andThen,Yb]
theorem zdk {P:Program} {a:Act} {w:Xn} {K:Xq->Xn->Prop} (b:(execOp a.eval o).run P w= .ok .skip w') (h:K undef w'):zJ P o a w K:=by
 unfold zJ;rw[b];exact h
end
theorem zcW {p:Nat}:Loc hi p 75:=⟨Dc,Dc,Dc,Dc,Dc,Dc,Dc,Dc,fun h=>absurd h Dc⟩
theorem zci {p:Nat}:Loc hi p 82:=⟨Dc,Dc,Dc,Dc,Dc,Dc,Dc,Dc,fun h=>absurd h Dc⟩
theorem ZZ {a:Act} {w:Xn} {K:Xq->Xn->Prop} (d p x) (n:o.op= .store d p x) (b c:Nat) (hp:a.eval p= Xj (Xa ⟨b,c,Xb⟩)) (g:Xq) (r:a.eval x=g) (vs:List Xq) (f:g.cells=vs.toArray)
  {t:TypeId} {cs:List Xq} (h:zo w b t cs) (m:c+vs.length<=cs.length) (hi:(Tryz.prog.info? d).map (·.size)=Xa vs.length) (j:∀v∈vs,v.oneCell'=Xc)
  (i:∀w',zo w' b t (splice cs c vs)->w.grownBy w' (Xa b)->w'.heap.size=w.heap.size->K undef w'):zJ prog o a w K:=by
 have e:(Value.agg vs.toArray).cells=vs.toArray:=by
  unfold Value.cells;simp
 have q:(execOp a.eval o).run prog w= .ok .skip (w.setCells b c vs):=by
  have k:=run_storeAt_mid (P:=prog) w b c d vs.toArray (fun s l=>by
   have:=h.box.there (c+s) (by simp at l;omega)
   rw[zA]at this;exact this) (Si hi) (all_oneCell_toArray j)
  have j:(Instr.storeAt d (Xj (Xa ⟨b,c,Xb⟩)) g).run prog w=(Instr.storeAt d (Xj (Xa ⟨b,c,Xb⟩)) (Xi vs.toArray)).run prog w:=by
   simp only[Instr.storeAt,Instr.sureAddr,storeVar,f,e]
  simp only[execOp,n,hp,r,Xv,j,k,rA,Yb]
 exact zdk q (i _ (h.part (ds:=vs) (o:=c) m) (zO b vs c w).1 (zO b vs c w).2)
theorem Zf {rest:List Oper} {a:Act} {w:Xn} (d:o.guard=Xb) (f p x) (l:o.op= .store f p x) (b c:Nat) (hp:a.eval p= Xj (Xa ⟨b,c,Xb⟩)) (g:Xq) (m:a.eval x=g) (vs:List Xq) (e:g.cells=vs.toArray)
  {t:TypeId} {cs:List Xq} (j:zo w b t cs) (k:c+vs.length<=cs.length) (hi:(Tryz.prog.info? f).map (·.size)=Xa vs.length) (i:∀v∈vs,v.oneCell'=Xc)
  (h:∀w',zo w' b t (splice cs c vs)->w.grownBy w' (Xa b)->w'.heap.size=w.heap.size->wpList prog ops Q rest (a.put o.dst undef) w'):wpList prog ops Q (o :: rest) a w:=
 wpList_plain d fun _ d=>(ZZ (K:=fun v w'=>v=undef/\wpList prog ops Q rest (a.put o.dst undef) w') f p x l b c hp g m vs e j k hi i (fun w' c e f=>⟨rfl,h w' c e f⟩)).wp (fun v w' c=>d _ _ (Rx c.1 c.2))
theorem zdl {a:Act} {w:Xn} {K:Xq->Xn->Prop} (e x) (i:o.op= .load e x) (b c:Nat) (k:a.eval x= Xj (Xa ⟨b,c,Xb⟩)) (vs:List Xq) (f:w.rangeAt b c vs) {d:TypeDesc} (j:Tryz.prog.underlying e=Xa d) (g:d.isRow=Xc) (hi:(Tryz.prog.info? e).map (·.size)=Xa vs.length) (h:K (Xi vs.toArray) w):zJ prog o a w K:=by
 have:=run_loadAt_mid (P:=prog) w b c e vs d f j g hi;exact zJ.step (by simp only[execOp,i,k,Xv,this,rA,Yb]) h
theorem zb8 {α:Type} {E:Elt α} {w:Xn} {a:Act} {K:Xq->Xn->Prop} (p x t) (B:o.op= .store t p x) (base:Nat) (v:Xq) (l:List α) (b:zb E base w v l)
  (g i j:Nat) (s:v.ownBlock=Xa g) (e y:α) (hi:l[i]? =Xa e) (cs:List Xq) (A:(Tryz.prog.info? t).map (·.size)=Xa cs.length) (D:E.enc y=splice (E.enc e) j cs) (z:j+cs.length<=E.k) (k:∀u∈cs,u.oneCell'=Xc)
  (ad:Addr) (hp:a.eval p= Xj (Xa ad)) (c:ad=⟨g,i*E.k+j,Xb⟩) (f:Xq) (C:a.eval x=f) (d:f.cells=cs.toArray)
  (h:∀w',zb E base w' v (l.set i y)->w.grownBy w' (Xa g)->w'.heap.size=w.heap.size->K undef w'):zJ prog o a w K:=by
 obtain⟨w',m,n,q,r⟩:=zag p x t B base v l b g i j s e y hi cs A D z k ad hp c f C d;exact zdk m (h w' n q r)
theorem Qw.form {w:Xn} {t:List (List En)} (h:Qw B0 B1 w us t):∃a t1 t2 b c d e f:Sli,us=[a.v,t1.v,t2.v,b.v,c.v,d.v,e.v,f.v]:=by
 obtain⟨u0,u1,u2,u3,u4,u5,u6,u7,rfl⟩:=zmi h.len;obtain⟨a,a,a,a,a,a,a,a,rfl⟩:=zmi h.tlen;obtain⟨a,j,rfl,_⟩:=(h.row 0 _ _ rfl rfl).now.rows;obtain⟨b,k,rfl,_⟩:=(h.row 1 _ _ rfl rfl).now.rows;obtain⟨c,l,rfl,_⟩:=(h.row 2 _ _ rfl rfl).now.rows;obtain⟨d,m,rfl,_⟩:=(h.row 3 _ _ rfl rfl).now.rows;obtain⟨e,n,rfl,_⟩:=(h.row 4 _ _ rfl rfl).now.rows;obtain⟨f,p,rfl,_⟩:=(h.row 5 _ _ rfl rfl).now.rows;obtain⟨g,q,rfl,_⟩:=(h.row 6 _ _ rfl rfl).now.rows;obtain⟨i,r,rfl,_⟩:=(h.row 7 _ _ rfl rfl).now.rows;exact⟨⟨a,_,j⟩,⟨b,_,k⟩,⟨c,_,l⟩,⟨d,_,m⟩,⟨e,_,n⟩,⟨f,_,p⟩,⟨g,_,q⟩,⟨i,_,r⟩,rfl⟩
theorem zkg (m:Ma) (q:Nat) (n:Int) (e):(JU m q n e).sp.length=m.sp.length:=by simp[JU]
def zmH (m:Ma):Prop:=∀s∈m.sp,(wrL s.ars).1=0/\tbW s.tb=0
theorem zlg (h:Zp m=0):zmH m:=fun s a=>by
 unfold Zp at h
 split at h
 ·cases h
 have:=zi.1 h (spE s) (Ym.2 ⟨s,a,rfl⟩);unfold spE at this
 split at this
 ·rename_i a;exact absurd this a
 rename_i a
 split at this
 ·rename_i b;exact absurd this b
 rename_i b;exact⟨Si a,Si b⟩
theorem zpa {s:Sp} (h:tbW s.tb=0) (n:Nat):enW (zm s n)=0:=by
 unfold zm zaC;have a:=Zd.1 h;have:zhb (s.tb[n / 8]?.getD []):=by
  cases e:s.tb[n / 8]? with
  | none=>exact .inl rfl
  | some x=>exact a x (mG e)
 exact this.get (n % 8)
theorem ziS {s:Sp} {n:Nat} (h:n<64):zeh s.tb (n:Int)=zm s n:=by
 unfold zeh zm;rw[kE Wm,tN]
theorem zf5 {s:Sp} {n:Nat} (h:(qU s)[j]? =Xa n):n<64:=by
 have:=mG h;unfold qU at this;rw[List.mem_filter,Yi]at this;exact this.1
theorem zmt:∀{l:List Ar} {p:Option Ar} {k:Nat} {a:Ar},Qa p l->l[k]? =Xa a->jQ a
 | [],_,_,_,_,h=>by simp at h
 | b :: l,p,0,a,c,h=>by
  simp at h
  subst h;exact c.1
 | b :: l,p,k+1,a,c,h=>zmt c.2.2 (Si h)
structure zad where
 ty:TypeId
 enc:Int × Int->Xq
 und:∃fs,Tryz.prog.underlying ty=Xa (.struct fs)
 check:∀(em:Bool) (a:Int × Int) (w:Xn),(Instr.checkKey em 10000 ty (enc a)).run prog w= .ok () w
 same:∀(a b:Int × Int) (w:Xn),(Op.equal ty (enc a) (enc b)).run prog w= .ok (decide (a=b)) w
 bits:∀a:Int × Int,Instr.sameBits 10000 (enc a) (enc a)=Xc
def zae:List ((Int × Int) × Int)->Int × Int->Option Int
 | [],_=>Xb
 | p :: l,k=>if k=p.1 then Xa p.2 else zae l k
def zdg:List ((Int × Int) × Int)->Int × Int->Nat->Option (Nat × Xq)
 | [],_,_=>Xb
 | p :: l,k,i=>if k=p.1 then Xa (i,Xe Xf p.2)else zdg l k (i+1)
def zhB:List ((Int × Int) × Int)->Int × Int->Int->List ((Int × Int) × Int)
 | [],k,v=>[(k,v)]
 | p :: l,k,v=>if k=p.1 then(k,v) :: l else p :: zhB l k v
theorem za3:∀(l:List ((Int × Int) × Int)) (k x:Int × Int) (v:Int),zae (zhB l k v) x=if x=k then Xa v else zae l x
 | [],k,x,v=>by simp[zhB,zae]
 | p :: l,k,x,v=>by
  unfold zhB
  by_cases h:k=p.1
  ·rw[kE h];unfold zae
   by_cases a:x=k
   ·simp[a]
   have b:¬x=p.1:=fun e=>a (e.trans h.symm)
   simp[a,b]
  rw[kF h];unfold zae;rw[za3 l]
  by_cases a:x=p.1
  ·rw[kE a,kE a,kF (fun e=>h (e.symm.trans a))]
  rw[kF a,kF a]
theorem zab:∀{l:List ((Int × Int) × Int)} {k:Int × Int} {i:Nat},zdg l k i=Xb->zae l k=Xb/\∀v,zhB l k v=l++ [(k,v)]
 | [],k,i,_=>⟨rfl,fun v=>rfl⟩
 | p :: l,k,i,h=>by
  unfold zdg at h
  by_cases e:k=p.1
  ·rw[kE e]at h;cases h
  rw[kF e]at h;obtain⟨a,b⟩:=zab h;refine⟨by unfold zae;rw[kF e,a],fun v=>?_⟩
  unfold zhB;rw[kF e,b];rfl
theorem zaa:∀{l:List ((Int × Int) × Int)} {k:Int × Int} {i j:Nat} {u:Xq},zdg l k i=Xa (j,u)->∃n z,u=I6 z/\j=i+n/\l[n]? =Xa (k,z)/\zae l k=Xa z/\∀v,zhB l k v=l.set n (k,v)
 | [],k,i,j,u,h=>by cases h
 | p :: l,k,i,j,u,h=>by
  unfold zdg at h
  by_cases e:k=p.1
  ·rw[kE e]at h;cases h;refine⟨0,p.2,rfl,rfl,Rr e,by unfold zae;rw[kE e],fun v=>?_⟩
   unfold zhB;rw[kE e];rfl
  rw[kF e]at h;obtain⟨n,z,a,b,b,c,d⟩:=zaa h;refine⟨n+1,z,a,Wm,Si b,by unfold zae;rw[kF e,c],fun v=>?_⟩
  unfold zhB;rw[kF e,d];rfl
def Qx (K:zad) (w:Xn) (b:Nat) (g:Int × Int->Option Int):Prop:=
 ∃es clock l,w.heap[b]? =Xa (.map es clock)/\(es.toList.map (fun e=>(e.key,e.val))=l.map (fun p:(Int × Int) × Int=>(K.enc p.1,Value.int .i64 p.2))/\(es.toList.map (·.born)).Pairwise (·< ·)/\∀e∈es.toList,e.born<clock)/\∀k,zae l k=g k
theorem Qx.lt {K:zad} {w:Xn} {g:Int × Int->Option Int} (h:Qx K w b g):b<w.heap.size:=by
 obtain⟨a,c,l,a,_⟩:=h;exact(aS.1 a).1
theorem Qx.made (K:zad) (w:Xn):Qx K (w.alloc (.map #[] 0)) w.heap.size (fun _=>Xb):=⟨#[],0,[],by
 show(w.heap.push _)[w.heap.size]? =_
 simp,⟨rfl,List.Pairwise.nil,fun e a=>by cases a⟩,fun k=>rfl⟩
theorem Qx.grew {K:zad} {w:Xn} {g:Int × Int->Option Int} (h:Qx K w b g) (i:zc w w'):Qx K w' b g:=by
 have a:=h.lt;obtain⟨d,c,l,e,f⟩:=h;exact⟨d,c,l,(Below.block i b a).trans e,f⟩
theorem Qx.kept {K:zad} {w:Xn} {g:Int × Int->Option Int} {a:Option Nat} (h:Qx K w b g) (j:w.grownBy w' a) (c:Xa b≠a):Qx K w' b g:=by
 have a:=h.lt;obtain⟨e,d,l,f,i⟩:=h;exact⟨e,d,l,(j.block b a c).trans f,i⟩
theorem Qx.congr {K:zad} {w:Xn} {g a:Int × Int->Option Int} (h:Qx K w b g) (e:∀k,g k=a k):Qx K w b a:=by
 obtain⟨a,c,l,d,f,i⟩:=h;exact⟨a,c,l,d,f,fun k=>(i k).trans (e k)⟩
theorem zah (K:zad) (k:Int × Int) (w):∀(l:List ((Int × Int) × Int)) (a:List MapEntry) (i:Nat),a.map (fun e=>(e.key,e.val))=l.map (fun p=>(K.enc p.1,I6 p.2))->(Instr.findAsking K.ty (K.enc k) a i).run prog w= .ok (zdg l k i) w
 | [],[],i,_=>rfl
 | [],e :: a,i,h=>by simp at h
 | p :: l,[],i,h=>by simp at h
 | p :: l,e :: a,i,h=>by
  simp only[mP,List.cons.injEq,pJ]at h;obtain⟨⟨b,c⟩,d⟩:=h;unfold Instr.findAsking zdg;simp only[Xv,b,K.same,rA]
  by_cases b:k=p.1
  ·simp[b,c]
  simp[b,zah K k w l a (i+1) d]
theorem zat (K:zad) (k:Int × Int) (w) (l:List ((Int × Int) × Int)) (a:List MapEntry) (h:a.map (fun e=>(e.key,e.val))=l.map (fun p=>(K.enc p.1,I6 p.2))):(Instr.findKey K.ty (K.enc k) a).run prog w= .ok (zdg l k 0) w:=by
 obtain⟨b,c⟩:=K.und;unfold Instr.findKey;simp only[Xv,run_underlying c,rA]
 cases a with
 | nil=>
  cases l with
  | nil=>rfl
  | cons p l=>simp at h
 | cons e a=>
  have:Instr.findNow (.struct b) (K.enc k) (e :: a) 0=Xb:=by simp[Instr.findNow,Instr.sameNow]
  rw[this];exact zah K k w l (e :: a) 0 h
theorem Qx.look {K:zad} {w:Xn} {g:Int × Int->Option Int} (a:Qx K w b g) {e:TypeId} (ht:Tryz.prog.underlying t=Xa (.map K.ty e)) (j:(zeroValue e).run prog w= .ok (I6 0) w) (k:Int × Int) (c:Bool):
  (Instr.lookup t (.map (Xa b)) (K.enc k) c).run prog w= .ok (if c then Xm #[I6 ((g k).getD 0),Xh (g k).isSome]else I6 ((g k).getD 0)) w:=by
 obtain⟨d,f,l,f,⟨i,_⟩,h⟩:=a;have a:=zat K k w l d.toList i;unfold Instr.lookup
 cases d:zdg l k 0 with
 | none=>
  rw[d]at a;have:=(zab d).1;rw[h k]at this
  cases c <;> simp[run_underlying ht,MapKept.run_getObj_map f,K.check,a,j,this]
 | some q=>
  obtain⟨j,u⟩:=q;rw[d]at a;obtain⟨n,z,rfl,_,_,i,_⟩:=zaa d;rw[h k]at i
  cases c <;> simp[run_underlying ht,MapKept.run_getObj_map f,K.check,a,i]
theorem zcT (f:MapEntry->MapEntry) (b:∀e,(f e).born=e.born):∀(a:List MapEntry) (n:Nat),(a.modify n f).map (·.born)=a.map (·.born)
 | [],n=>Sm
 | e :: a,0=>by simp[b]
 | e :: a,n+1=>by simp[zcT f b a n]
structure Zc (K:zad) (es:Array MapEntry) (cl:Nat) (l:List ((Int × Int) × Int)):Prop where
 pairs:es.toList.map (fun e=>(e.key,e.val))=l.map (fun p=>(K.enc p.1,Value.int .i64 p.2))
 rise:(es.toList.map (·.born)).Pairwise (·< ·)
 low:∀e∈es.toList,e.born<cl
theorem Zc.push {K:zad} {a:Array MapEntry} {l:List ((Int × Int) × Int)} (h:Zc K a cl l) (k:Int × Int) (v:Int):Zc K (a.push ⟨K.enc k,I6 v,cl⟩) (cl+1) (l++ [(k,v)]):=by
 refine⟨by simp[h.pairs],?_,fun e a=>?_⟩
 ·simp only[Ou,List.map_append,mP,Yj];rw[List.pairwise_append];refine⟨h.rise,Sm,fun b c b b=>?_⟩
  obtain⟨e,a,rfl⟩:=Ym.1 c
  simp at b
  rw[b];exact h.low e a
 simp only[Ou,Oa,List.mem_singleton]at a
 rcases a with a|rfl
 ·have:=h.low e a;omega
 simp
theorem Zc.modify {K:zad} {b:Array MapEntry} {l:List ((Int × Int) × Int)} (h:Zc K b cl l) {n:Nat} {k:Int × Int} (c:l[n]? =Xa (k,z)) (f:MapEntry->MapEntry) (v:Int) (a:∀e,(f e).born=e.born) (r:∀e,e.key=K.enc k->e.val=I6 z->(f e).key=K.enc k/\(f e).val=I6 v):Zc K (b.modify n f) cl (l.set n (k,v)):=by
 have g:(b.modify n f).toList.map (·.born)=b.toList.map (·.born):=by rw[Oh];exact zcT f a b.toList n
 refine⟨?_,Rx g h.rise,fun e q=>?_⟩
 ·have d:=h.pairs;rw[Oh]
  apply Xu
  intro j;have a:=congrArg (fun(x:List (Xq × Xq))=>x[j]?) d
  simp only[Yg,List.getElem?_modify,List.getElem?_set]at a⊢
  by_cases e:n=j
  ·subst e;rw[c]at a;have d:=(gS.1 c).1
   cases c:b.toList[n]? with
   | none=>rw[c]at a;simp at a
   | some i=>
    rw[c]at a
    simp at a
    obtain⟨m,p⟩:=r i a.1 a.2
    simp[d,m,p]
  simp only[e,if_false]at a⊢
  cases c:b.toList[j]? <;> rw[c]at a <;> simpa using a
 have:e.born∈b.toList.map (·.born):=by rw[<-g];exact Ym.2 ⟨e,q,rfl⟩
 obtain⟨b,a,c⟩:=Ym.1 this;rw[<-c];exact h.low b a
theorem Zc.at {K:zad} {b:Array MapEntry} {l:List ((Int × Int) × Int)} (h:Zc K b cl l) {n:Nat} {k:Int × Int} (c:l[n]? =Xa (k,z)):∃a,b[n]? =Xa a/\a.key=K.enc k/\a.val=I6 z:=by
 have:=congrArg (fun(x:List (Xq × Xq))=>x[n]?) h.pairs
 simp only[Yg,c,Option.map_some]at this
 cases c:b[n]? with
 | none=>simp[c]at this
 | some a=>simp[c]at this;exact⟨a,rfl,this.1,this.2⟩
theorem zi7:∀{l:List Nat},l.Pairwise (·< ·)->∀{i j:Nat} {x:Nat},l[i]? =Xa x->l[j]? =Xa x->i=j
 | [],_,i,j,x,h,_=>by simp at h
 | a :: l,hp,i,j,x,h,b=>by
  rw[Ol]at hp
  cases i with
  | zero=>
   cases j with
   | zero=>rfl
   | succ j=>
    simp at h b
    subst h;have:=hp.1 a (mG b);omega
  | succ i=>
   cases j with
   | zero=>
    simp at h b
    subst b;have:=hp.1 a (mG h);omega
   | succ j=>
    simp at h b
    rw[zi7 hp.2 h b]
theorem zcV {K:zad} {w:Xn} {f c:Array MapEntry} {a:Nat} {l:List ((Int × Int) × Int)} {g:Int × Int->Option Int} {k:Int × Int} {v:Int} (e:w.heap[b]? =Xa (.map f cl)) (h:∀k,zae l k=g k) (d:Zc K c a (zhB l k v)):
  Qx K (ChangeMaps.setBlock w b (.map c a)) b (fun x=>if x=k then Xa v else g x)/\w.grownBy (ChangeMaps.setBlock w b (.map c a)) (Xa b)/\(ChangeMaps.setBlock w b (.map c a)).heap.size=w.heap.size:=by
 refine⟨⟨c,a,zhB l k v,ChangeMaps.heap_setBlock_same e _,⟨d.pairs,d.rise,d.low⟩,fun x=>?_⟩,⟨rfl,rfl,rfl,by simp[ChangeMaps.setBlock],fun i _ a=>ChangeMaps.heap_setBlock_other e _ (fun e=>a (by rw[e]))⟩,by simp[ChangeMaps.setBlock]⟩
 rw[za3,h]
theorem Qx.put {K:zad} {w:Xn} {g:Int × Int->Option Int} (a:Qx K w b g) {e:TypeId} (ht:Tryz.prog.underlying t=Xa (.map K.ty e)) (k:Int × Int) (v:Int):
  ∃w',(Instr.mapUpdate t (.map (Xa b)) (K.enc k) (I6 v)).run prog w= .ok () w'/\Qx K w' b (fun x=>if x=k then Xa v else g x)/\w.grownBy w' (Xa b)/\w'.heap.size=w.heap.size:=by
 obtain⟨i,h,l,c,⟨f,d,j⟩,m⟩:=a;have a:Zc K i h l:=⟨f,d,j⟩;have d:=zat K k w l i.toList f
 cases j:zdg l k 0 with
 | none=>
  rw[j]at d;have f:=(zab j).2 v;refine⟨ChangeMaps.setBlock w b (.map (i.push ⟨K.enc k,I6 v,h⟩) (h+1)),?_,zcV c m (Rx f (a.push k v))⟩
  simp[Instr.mapUpdate,run_underlying ht,MapKept.run_getObj_map c,K.check,d,MapKept.run_setObj_map _ c,ChangeMaps.setBlock]
 | some q=>
  obtain⟨f,u⟩:=q;rw[j]at d;obtain⟨p,z,rfl,rfl,l,_,n⟩:=zaa j;rw[zA]at d;obtain⟨f,f,j,_⟩:=a.at l;refine⟨ChangeMaps.setBlock w b (.map (i.modify p fun e=>{ e with key:=K.enc k,val:=I6 v }) h),?_,zcV c m (by rw[n];exact a.modify l _ v (fun _=>rfl) (fun _ _ _=>⟨rfl,rfl⟩))⟩
  simp[Instr.mapUpdate,run_underlying ht,MapKept.run_getObj_map c,K.check,d,f,j,Instr.keyThatStays,K.bits,MapKept.run_setObj_map _ c,ChangeMaps.setBlock]
def zpA (K:zad) (w:Xn) (b:Nat) (g:Int × Int->Option Int) (k:Int × Int) (st:Int):Prop:=
 ∃es cl l,w.heap[b]? =Xa (.map es cl)/\Zc K es cl l/\(∀k,zae l k=g k)/\∃(n:Nat) (z:Int) (e:MapEntry),l[n]? =Xa (k,z)/\(∀v,zhB l k v=l.set n (k,v))/\es[n]? =Xa e/\(e.born:Int)=st
theorem zpA.f {K:zad} {w:Xn} {g:Int × Int->Option Int} {k:Int × Int} {a:Int} (h:zpA K w b g k a):Qx K w b g:=by
 obtain⟨d,c,l,e,a,f,_⟩:=h;exact⟨d,c,l,e,⟨a.pairs,a.rise,a.low⟩,f⟩
theorem zf1:∀{l:List ((Int × Int) × Int)} {k:Int × Int} (z v:Int),zae l k=Xb->zhB (l++ [(k,z)]) k v=(l++ [(k,z)]).set l.length (k,v)
 | [],k,z,v,_=>by simp[zhB]
 | p :: l,k,z,v,h=>by
  unfold zae at h
  by_cases e:k=p.1
  ·rw[kE e]at h;cases h
  rw[kF e]at h;simp only[Yx,zhB,e,if_false,Yk,sS];rw[zf1 z v h]
theorem Qx.entry {K:zad} {w:Xn} {g:Int × Int->Option Int} (h:Qx K w b g) {e:TypeId} (ht:Tryz.prog.underlying t=Xa (.map K.ty e)) (s:(zeroValue e).run prog w= .ok (I6 0) w) (k:Int × Int):
  ∃w' a,(Instr.mapEntry t (.map (Xa b)) (K.enc k)).run prog w= .ok (Xm #[I6 ((g k).getD 0),I6 a]) w'/\zpA K w' b (fun x=>if x=k then Xa ((g k).getD 0)else g x) k a/\w.grownBy w' (Xa b)/\w'.heap.size=w.heap.size:=by
 obtain⟨i,f,l,c,⟨r,a,d⟩,j⟩:=h;have h:Zc K i f l:=⟨r,a,d⟩;have m:=zat K k w l i.toList r
 cases q:zdg l k 0 with
 | none=>
  rw[q]at m;obtain⟨p,d⟩:=zab q;have n:g k=Xb:=Ry j p
  have a:=h.push k 0;have u:=zcV c j (k:=k) (v:=0) (Rx d a)
  refine⟨ChangeMaps.setBlock w b (.map (i.push ⟨K.enc k,I6 0,f⟩) (f+1)),f,?_,⟨_,_,_,ChangeMaps.heap_setBlock_same c _,a,fun x=>?_,l.length,0,⟨K.enc k,I6 0,f⟩,Sm,fun A=>zf1 0 A p,?_,rfl⟩,u.2⟩
  ·rw[n]
   simp[Instr.mapEntry,run_underlying ht,MapKept.run_getObj_map c,K.check,m,s,MapKept.run_setObj_map _ c,ChangeMaps.setBlock,goInt]
  ·rw[n,<-d,za3,j];rfl
  have:i.size=l.length:=by have:=congrArg Yw r;simpa using this
  simp[<-this]
 | some d=>
  obtain⟨p,p⟩:=d;rw[q]at m;obtain⟨r,z,rfl,rfl,p,B,s⟩:=zaa q;rw[zA]at m;obtain⟨y,d,q,C⟩:=h.at p;have n:g k=Xa z:=Ry j B
  have a:Zc K (i.modify r fun e=>{ e with key:=K.enc k }) f (l.set r (k,z)):=h.modify p (fun e=>{ e with key:=K.enc k }) z (fun _=>rfl) (fun _ _ h=>⟨rfl,h⟩)
  have u:=zcV c j (k:=k) (v:=z) (Rx s a)
  have h:=(gS.1 p).1;refine⟨ChangeMaps.setBlock w b (.map (i.modify r fun e=>{ e with key:=K.enc k }) f),y.born,?_,⟨_,_,_,ChangeMaps.heap_setBlock_same c _,a,fun x=>?_,r,z,{ y with key:=K.enc k },sF h,fun A=>?_,?_,rfl⟩,u.2⟩
  ·rw[n]
   simp[Instr.mapEntry,run_underlying ht,MapKept.run_getObj_map c,K.check,m,d,q,Instr.keyThatStays,K.bits,MapKept.run_setObj_map _ c,ChangeMaps.setBlock,goInt]
  ·rw[n,<-s,za3,j];rfl
  ·rw[zeP p,s]
  rw[Array.getElem?_modify,kE rfl,d];rfl
theorem zpA.store {K:zad} {w:Xn} {g:Int × Int->Option Int} {k:Int × Int} {a:Int} (h:zpA K w b g k a) (t) (v:Int):
  ∃w',(Instr.entryStore t (.map (Xa b)) (I6 a) (I6 v)).run prog w= .ok () w'/\Qx K w' b (fun x=>if x=k then Xa v else g x)/\w.grownBy w' (Xa b)/\w'.heap.size=w.heap.size:=by
 obtain⟨a,p,l,i,f,q,n,z,e,r,s,c,rfl⟩:=h;have j:=(aS.1 c).1;have d:a.findIdx? (fun h=>(h.born:Int) ==(e.born:Int))=Xa n:=by
  rw[Array.findIdx?_eq_some_iff_getElem];refine⟨j,?_,fun j l=>?_⟩
  ·have:a[n]=e:=(aS.1 c).2
   simp[this]
  intro u;have m:j<a.size:=Wm
  have l:a[j].born=e.born:=by
   have:(a[j].born:Int)=(e.born:Int):=Si u
   omega
  have u:(a.toList.map (·.born))[n]? =Xa e.born:=by simp[c]
  have c:(a.toList.map (·.born))[j]? =Xa e.born:=by simp[m,l]
  have:=zi7 f.rise u c;omega
 refine⟨ChangeMaps.setBlock w b (.map (a.modify n fun h=>{ h with val:=I6 v }) p),?_,zcV i q (by rw[s];exact f.modify r _ v (fun _=>rfl) (fun _ a _=>⟨a,rfl⟩))⟩
 simp[Instr.entryStore,MapKept.run_getObj_map i,asInt,asIntOf,d,MapKept.run_setObj_map _ i,ChangeMaps.setBlock]
theorem zkU {K:zad} {w:Xn} {rest:List Oper} {a:Act} (c:o.guard=Xb) (t e m x v) (f:o.op= .mapUpdate t m x v) (ht:Tryz.prog.underlying t=Xa (.map K.ty e)) (b:Nat) (g:Int × Int->Option Int) (h:Qx K w b g) (k:Int × Int) (z:Int)
  (j:a.eval m= .map (Xa b)) (n:a.eval x=K.enc k) (l:a.eval v=I6 z)
  (i:∀w',Qx K w' b (fun x=>if x=k then Xa z else g x)->w.grownBy w' (Xa b)->w'.heap.size=w.heap.size->wpList prog ops Q rest (a.put o.dst undef) w'):wpList prog ops Q (o :: rest) a w:=by
 refine wpList_plain c fun c d=>?_
 obtain⟨w',c,p,q,r⟩:=h.put ht k z;unfold Oper.wp
 simp[execOp,f,j,n,l,c,Result.andThen]
 exact d _ _ (i w' p q r)
theorem zlk (em:Bool) (a:Int × Int) (w):(Instr.checkKey em 10000 187 (Xi #[I6 a.1,I6 a.2])).run prog w= .ok () w:=by
 have hf : (Tryz.prog.fieldsOf 187).toList.map (fun f => (f.name, f.type, f.offset)) = [("file", 3, 0), ("index", 3, 1)] := by kernel_rfl
 have hu:∃fs,Tryz.prog.underlying 187=Xa (.struct fs)/\Tryz.prog.fieldsOf 187=fs:=⟨_,underlying187,Kr⟩
 obtain⟨fs,hu,hfe⟩:=hu;rw[hfe]at hf;obtain⟨f0,f1,hfs⟩:∃f0 f1,fs.toList=[f0,f1]:=by
  have hl:fs.toList.length=2:=by have:=congrArg Yw hf;simpa using this
  match hq:fs.toList,hl with
  | [f0,f1],_=>exact⟨f0,f1,rfl⟩
 rw[hfs]at hf
 simp at hf
 obtain⟨⟨n0,t0,o0⟩,⟨n1,t1,o1⟩⟩:=hf;have pI:∀(zs:Array Xq) (o:Nat) v,zs[o]? =Xa (I6 v)->(part 3 zs o).run prog w= .ok (I6 v) w:=fun zs o v hz=>run_part_plain w (by simp[Program.plainKey,underlying3]) hz
 have pB:∀(zs:Array Xq) (o:Nat) v,zs[o]? =Xa (Xh v)->(part 4 zs o).run prog w= .ok (Xh v) w:=fun zs o v hz=>run_part_plain w (by simp[Program.plainKey,underlying4]) hz
 have cI:∀(v:Int) (n:Nat),(Instr.checkKey em (n+1) 3 (I6 v)).run prog w= .ok () w:=fun v n=>by
  unfold Instr.checkKey
  simp[run_underlying underlying3]
 have cB:∀(v:Bool) (n:Nat),(Instr.checkKey em (n+1) 4 (Xh v)).run prog w= .ok () w:=fun v n=>by
  unfold Instr.checkKey
  simp[run_underlying underlying4]
 rw[show(10000:Nat)=9999+1 from rfl,Instr.checkKey]
 simp only[Xv,run_underlying hu,rA];rw[<-Om,hfs];have k1:=cI a.1 9998;have k2:=cI a.2 9998;have k3:=cB Xd 9998;have q0:=pI (#[I6 a.1,I6 a.2]) 0 a.1 rfl;have q1:=pI (#[I6 a.1,I6 a.2]) 1 a.2 rfl
 simp[List.forIn_cons,n0,t0,o0,n1,t1,o1,q0,q1,k1,k2]
theorem zm9 (a b:Int × Int) (w):(Op.equal 187 (Xi #[I6 a.1,I6 a.2]) (Xi #[I6 b.1,I6 b.2])).run prog w= .ok (decide (a=b)) w:=by
 have hf : (Tryz.prog.fieldsOf 187).toList.map (fun f => (f.name, f.type, f.offset)) = [("file", 3, 0), ("index", 3, 1)] := by kernel_rfl
 unfold Op.equal Op.maxDepth;rw[run_equalIn_struct w 9999 187 _ _ Kr Kr]
 obtain⟨f0,f1,hfs⟩:∃f0 f1,(Tryz.prog.fieldsOf 187).toList=[f0,f1]:=by
  have hl:(Tryz.prog.fieldsOf 187).toList.length=2:=by have:=congrArg Yw hf;simpa using this
  match hq:(Tryz.prog.fieldsOf 187).toList,hl with
  | [f0,f1],_=>exact⟨f0,f1,rfl⟩
 rw[hfs]at hf⊢
 simp at hf
 obtain⟨⟨n0,t0,o0⟩,⟨n1,t1,o1⟩⟩:=hf;have pI:∀(zs:Array Xq) (o:Nat) v,zs[o]? =Xa (I6 v)->(part 3 zs o).run prog w= .ok (I6 v) w:=fun zs o v hz=>run_part_plain w (by simp[Program.plainKey,underlying3]) hz
 have pB:∀(zs:Array Xq) (o:Nat) v,zs[o]? =Xa (Xh v)->(part 4 zs o).run prog w= .ok (Xh v) w:=fun zs o v hz=>run_part_plain w (by simp[Program.plainKey,underlying4]) hz
 simp only[Op.eqFields,n0,t0,o0,n1,t1,o1];obtain⟨a1,a2⟩:=a;obtain⟨b1,b2⟩:=b
 simp[pI,run_equalIn_int w _ _ _ _ _ _ underlying3]
 by_cases e1:a1=b1 <;> by_cases e2:a2=b2 <;> simp[e1,e2]
def plK:zad where
 ty:=187
 enc:=fun a=> Xi #[Xe Xf a.1,Xe Xf a.2]
 und:=⟨_,underlying187⟩
 check:=zlk
 same:=zm9
 bits:=fun a=>by simp[Instr.sameBits]
theorem zmg (em:Bool) (a:Int × Int) (w):(Instr.checkKey em 10000 75 (Xi #[I6 a.1,I6 a.2,Xh Xd])).run prog w= .ok () w:=by
 have hf : (Tryz.prog.fieldsOf 75).toList.map (fun f => (f.name, f.type, f.offset)) = [("Kind", 3, 0), ("N", 3, 1), ("Write", 4, 2)] := by kernel_rfl
 have hu:∃fs,Tryz.prog.underlying 75=Xa (.struct fs)/\Tryz.prog.fieldsOf 75=fs:=⟨_,underlying75,Kr⟩
 obtain⟨fs,hu,hfe⟩:=hu;rw[hfe]at hf;obtain⟨f0,f1,f2,hfs⟩:∃f0 f1 f2,fs.toList=[f0,f1,f2]:=by
  have hl:fs.toList.length=3:=by have:=congrArg Yw hf;simpa using this
  match hq:fs.toList,hl with
  | [f0,f1,f2],_=>exact⟨f0,f1,f2,rfl⟩
 rw[hfs]at hf
 simp at hf
 obtain⟨⟨n0,t0,o0⟩,⟨n1,t1,o1⟩,⟨n2,t2,o2⟩⟩:=hf;have pI:∀(zs:Array Xq) (o:Nat) v,zs[o]? =Xa (I6 v)->(part 3 zs o).run prog w= .ok (I6 v) w:=fun zs o v hz=>run_part_plain w (by simp[Program.plainKey,underlying3]) hz
 have pB:∀(zs:Array Xq) (o:Nat) v,zs[o]? =Xa (Xh v)->(part 4 zs o).run prog w= .ok (Xh v) w:=fun zs o v hz=>run_part_plain w (by simp[Program.plainKey,underlying4]) hz
 have cI:∀(v:Int) (n:Nat),(Instr.checkKey em (n+1) 3 (I6 v)).run prog w= .ok () w:=fun v n=>by
  unfold Instr.checkKey
  simp[run_underlying underlying3]
 have cB:∀(v:Bool) (n:Nat),(Instr.checkKey em (n+1) 4 (Xh v)).run prog w= .ok () w:=fun v n=>by
  unfold Instr.checkKey
  simp[run_underlying underlying4]
 rw[show(10000:Nat)=9999+1 from rfl,Instr.checkKey]
 simp only[Xv,run_underlying hu,rA];rw[<-Om,hfs];have k1:=cI a.1 9998;have k2:=cI a.2 9998;have k3:=cB Xd 9998;have q0:=pI (#[I6 a.1,I6 a.2,Xh Xd]) 0 a.1 rfl;have q1:=pI (#[I6 a.1,I6 a.2,Xh Xd]) 1 a.2 rfl;have q2:=pB (#[I6 a.1,I6 a.2,Xh Xd]) 2 Xd rfl
 simp[List.forIn_cons,n0,t0,o0,n1,t1,o1,n2,t2,o2,q0,q1,q2,k1,k2,k3]
theorem zn1 (a b:Int × Int) (w):(Op.equal 75 (Xi #[I6 a.1,I6 a.2,Xh Xd]) (Xi #[I6 b.1,I6 b.2,Xh Xd])).run prog w= .ok (decide (a=b)) w:=by
 have hf : (Tryz.prog.fieldsOf 75).toList.map (fun f => (f.name, f.type, f.offset)) = [("Kind", 3, 0), ("N", 3, 1), ("Write", 4, 2)] := by kernel_rfl
 unfold Op.equal Op.maxDepth;rw[run_equalIn_struct w 9999 75 _ _ Kr Kr]
 obtain⟨f0,f1,f2,hfs⟩:∃f0 f1 f2,(Tryz.prog.fieldsOf 75).toList=[f0,f1,f2]:=by
  have hl:(Tryz.prog.fieldsOf 75).toList.length=3:=by have:=congrArg Yw hf;simpa using this
  match hq:(Tryz.prog.fieldsOf 75).toList,hl with
  | [f0,f1,f2],_=>exact⟨f0,f1,f2,rfl⟩
 rw[hfs]at hf⊢
 simp at hf
 obtain⟨⟨n0,t0,o0⟩,⟨n1,t1,o1⟩,⟨n2,t2,o2⟩⟩:=hf;have pI:∀(zs:Array Xq) (o:Nat) v,zs[o]? =Xa (I6 v)->(part 3 zs o).run prog w= .ok (I6 v) w:=fun zs o v hz=>run_part_plain w (by simp[Program.plainKey,underlying3]) hz
 have pB:∀(zs:Array Xq) (o:Nat) v,zs[o]? =Xa (Xh v)->(part 4 zs o).run prog w= .ok (Xh v) w:=fun zs o v hz=>run_part_plain w (by simp[Program.plainKey,underlying4]) hz
 simp only[Op.eqFields,n0,t0,o0,n1,t1,o1,n2,t2,o2];obtain⟨a1,a2⟩:=a;obtain⟨b1,b2⟩:=b
 simp[pI,pB,run_equalIn_bool' w _ _ _ _ underlying4,run_equalIn_int w _ _ _ _ _ _ underlying3]
 by_cases e1:a1=b1 <;> by_cases e2:a2=b2 <;> simp[e1,e2]
def enK:zad where
 ty:=75
 enc:=fun a=> Xi #[Xe Xf a.1,Xe Xf a.2,Xh Xd]
 und:=⟨_,underlying75⟩
 check:=zmg
 same:=zn1
 bits:=fun a=>by simp[Instr.sameBits]
theorem Box.ne_map {K:zad} {w:Xn} {cs:List Xq} {g:Int × Int->Option Int} (h:Box w b cs) (k:Qx K w B g):b≠B:=fun e=>by
 subst e;obtain⟨t,h⟩:=h;obtain⟨a,a,l,a,_⟩:=k;rw[h]at a;cases a
theorem zb.ne_map {α:Type} {E:Elt α} {K:zad} {w:Xn} {base:Nat} {v:Xq} {l:List α} {g:Int × Int->Option Int} (h:zb E base w v l) (k:Qx K w B g):∀x,v.ownBlock=Xa x->Xa B≠Xa x:=fun x a e=>by
 cases e;obtain⟨b,b⟩:=h.obj a;obtain⟨a,a,l,a,_⟩:=k;rw[b]at a;cases a
theorem zqN (w):(zeroValue 3).run prog w= .ok (I6 0) w:=by kernel_rfl
theorem zeJ (V:MaV) (m:Ma) (w) (z:zy w V m):
  Xp prog 83 #[Xi (mL V m).toArray] w fun e w'=>∃B,e= Xl (Xi #[V.f.x,I6 m.hand,V.s.x,V.sb.x,V.sq.x,V.db.x,V.dq.x,V.fl.x,I6 m.cnt,V.ca.x,V.sp.x,.map (Xa B)])/\Qx plK w' B (zaB m.ca)/\zc w w':=by
 obtain⟨s,t,h,j,d,f,g,⟨l,a,b⟩,i⟩:=V;dsimp only[mL];obtain⟨-,-,-,-,-,-,-,M,-⟩:=z.ns;dsimp only at M;have a4:=dD z.cas;have S:=dD M.symm;have Z:a<=9223372036854775807:=Hm z.ca.short
 clear z M;have L:=@run_makeMap prog;obtain⟨x,n⟩:=kB (((w.alloc (Xk #[s.x,I6 m.hand,t.x,h.x,j.x,d.x,f.x,g.x,I6 m.cnt,O l a b,i.x] 41)).alloc (Xk #[eS,I6 0,eS,eS,eS,eS,eS,eS,I6 0,eS,eS,.map Xb] 152)).alloc (.map #[] 0));have C:Xo (zc w x):=dD<|by rw[<-n];exact((za _ _).trans (za _ _)).trans (za _ _)
 have W:Xo (Box x w.heap.size [s.x,I6 m.hand,t.x,h.x,j.x,d.x,f.x,g.x,I6 m.cnt,O l a b,i.x]):=dD<|by rw[<-n];exact((Box.top _ _ _ rfl).alloc _).alloc _
 have ac:Xo (Box x (w.heap.size+1) [eS,I6 0,eS,eS,eS,eS,eS,eS,I6 0,eS,eS,.map Xb]):=dD<|by rw[<-n];exact(Box.top _ _ _ Sm).alloc _
 have a5:Xo (Qx plK x (w.heap.size+1+1) (zaB (m.ca.take 0))):=dD<|by
  rw[<-n];have:=Qx.made plK ((w.alloc (Xk #[s.x,I6 m.hand,t.x,h.x,j.x,d.x,f.x,g.x,I6 m.cnt,O l a b,i.x] 41)).alloc (Xk #[eS,I6 0,eS,eS,eS,eS,eS,eS,I6 0,eS,eS,.map Xb] 152));have aq:((w.alloc (Xk #[s.x,I6 m.hand,t.x,h.x,j.x,d.x,f.x,g.x,I6 m.cnt,O l a b,i.x] 41)).alloc (Xk #[eS,I6 0,eS,eS,eS,eS,eS,eS,I6 0,eS,eS,.map Xb] 152)).heap.size=w.heap.size+1+1:=Sm
  rw[aq]at this;exact this.congr fun ar=>Rr Yt
 have F:=dD n;clear n
 go_enter func83,ntmps83
 go_upto_region 2 with fail;rw[F.out];clear L;have Q:=W.c 9 rfl;go_wp2;clear Q
 go_loopg [10] a (fun an N wr=>∃k:Nat,k<=a/\a - k<=an/\N=I6 k/\Xo (zc w wr)/\Xo (Box wr w.heap.size [s.x,I6 m.hand,t.x,h.x,j.x,d.x,f.x,g.x,I6 m.cnt,O l a b,i.x])/\Xo (Box wr (w.heap.size+1) [eS,I6 0,eS,eS,eS,eS,eS,eS,I6 0,eS,eS,.map Xb])/\Xo (Qx plK wr (w.heap.size+1+1) (zaB (m.ca.take k))))
 exact⟨0,nZ _,Wm,rfl,C,W,ac,a5⟩
 obtain⟨k,ap,ao,rfl,A,X,Y,T⟩:=hrel
 by_cases r:k<a
 ·have v:=kC r
  obtain⟨p,R⟩:∃p,Xo (m.ca[k]? =Xa p):=⟨_,gE (Rx S.out r)⟩
  obtain⟨ag,rfl,I⟩:=a4.out k p R.out;obtain⟨ak,al,am⟩:=I wr A.out;clear I;go_upto_region 5 with fail;obtain⟨a9,c⟩:=kB (wr.alloc (Xk #[I6 p.file,I6 p.idx,I6 p.fr] 93));have D:=gT c A
  have aa:=yA c X
  have ae:=yA c Y
  have a6:Xo (Qx plK a9 (w.heap.size+1+1) (zaB (m.ca.take k))):=dD<|by rw[<-c];exact T.grew (za _ _)
  have a2:=xA c
  rw[c];clear c ak al am;obtain⟨ah,ai,aj⟩:=a2.c3
  go_wp2_with (refine zkU (K:=plK) rfl 150 3 (.tmp 14) (.tmp 19) (.tmp 21) rfl underlying150 (w.heap.size+1+1) _ a6 (p.file,p.idx) p.fr rfl rfl rfl ?_)
  clear ah ai aj;intro y a1 q _;have a7:Xo (Qx plK y (w.heap.size+1+1) (zaB (m.ca.take (k+1)))):=dD<|a1.congr fun ar=>by rw[qe R.out,zgt]
  have E:Xo (zc w y):=dD<|zd D q Wm
  have ab:Xo (Box y w.heap.size [s.x,I6 m.hand,t.x,h.x,j.x,d.x,f.x,g.x,I6 m.cnt,O (Xa ag) a b,i.x]):=aa.grown q Wm
  have af:Xo (Box y (w.heap.size+1) [eS,I6 0,eS,eS,eS,eS,eS,eS,I6 0,eS,eS,.map Xb]):=ae.grown q Wm
  clear a1 q;go_wp2
  go_roundg (a -(k+1));exact⟨k+1,Wm,Wm,Gn,E,ab,af,a7⟩;omega
 have v:=kD r
 have:k=a:=Wm
 subst this;have G:Xo (Qx plK wr (w.heap.size+1+1) (zaB m.ca)):=dD<|by
  have:=T.out;rw[Xx (by rw[S.out];exact nR _)]at this
  exact this
 obtain⟨au,av,aw,ax,ay,az,b0,b1,b2,Q,P⟩:=X.c11
 go_wp2_with (refine zr rfl 152 (.tmp 2) (.tmp 25) rfl (w.heap.size+1) rfl [s.x,I6 m.hand,t.x,h.x,j.x,d.x,f.x,g.x,I6 m.cnt,O l k b,i.x,.map (Xa (w.heap.size+1+1))] rfl Y rfl Kr (fun b3 a0=>by
  simp only[mC,nM,or_false]at a0
  rcases a0 with rfl|rfl|rfl|rfl|rfl|rfl|rfl|rfl|rfl|rfl|rfl|rfl <;> rfl) ?_)
 clear au av aw ax ay az b0 b1 b2 Q P;intro U H u _;have a3:Xo (zc w U):=dD<|zd A u Wm
 have a8:Xo (Qx plK U (w.heap.size+1+1) (zaB m.ca)):=G.kept u Sm
 go_wp2;refine bodyPost_ret (zX rfl _ rfl H underlying152 rfl Kr) rfl ⟨_,rfl,a8,a3⟩
theorem zfg (V:MaV) (m:Ma) (B k:Nat) (g:Int × Int->Option Int) (w) (b:zy w V m) (s:k<m.fs.length) (d:Qx plK w B g):
  Xp prog 85 #[Xi #[V.f.x,I6 m.hand,V.s.x,V.sb.x,V.sq.x,V.db.x,V.dq.x,V.fl.x,I6 m.cnt,V.ca.x,V.sp.x,.map (Xa B)],I6 (k:Int)] w fun e w'=>e= Xl (Xh (decide (g ((zU m k).f,(zU m k).x)=Xa (k:Int))))/\zc w w':=by
 obtain⟨⟨x,r,y⟩,z,j,p,f,h,i,c,n⟩:=V;dsimp only[mL];obtain⟨t,-⟩:=b.ns;dsimp only at t;have a:k<r:=Wm
 obtain⟨q,l⟩:∃q,Xo (m.fs[k]? =Xa q):=⟨_,gE s⟩;have a:zU m (k:Int)=q:=by unfold zU;rw[tN,gD,l.out];rfl
 rw[a];obtain⟨v,rfl,u⟩:=(show zdA w x m.fs from b.frs) k q l.out
 clear a b t s;obtain⟨l,b⟩:=kB (w.alloc (Xk #[O (Xa v) r y,I6 m.hand,z.x,j.x,p.x,f.x,h.x,i.x,I6 m.cnt,c.x,n.x,.map (Xa B)] 152));have a:=gA b
 have t:=xA b
 have h:=sA b
 obtain⟨x,y,z,A,C,D,E,F,G,H,n,p,r⟩:=u l a.out;obtain⟨i,c⟩:=kB (l.alloc (Xk #[U8 q.p.b0,U8 q.p.b1,U8 q.p.b2,U8 q.p.b3,U8 q.p.b4,U8 q.p.b5,U8 q.p.b6,U8 q.p.b7,I6 q.r,Xh q.u,Xh q.d,I6 q.f,I6 q.x] 62));have f:=gT c a
 have v:=yA c t
 have s:=xP c h
 have a:(Instr.lookup 150 (.map (Xa B)) (Xi #[I6 q.f,I6 q.x]) Xc).run prog i= .ok (Xm #[I6 ((g (q.f,q.x)).getD 0),Xh (g (q.f,q.x)).isSome]) i:=(d.grew f).look (K:=plK) underlying150 (zqN i) (q.f,q.x) Xc;have j:Xo (_=l):=b;have l:Xo (_=i):=c;clear b c u d;obtain⟨R,b⟩:=kA (decide (g (q.f,q.x)=Xa (k:Int)));rw[b.out];obtain⟨d,c⟩:=kA (g (q.f,q.x));rw[c.out]at a b
 go_enter func85,ntmps85
 go_upto_region 1 with fail;rw[j.out];have c:=t.c 0 rfl;go_upto_region 2 with fail;rw[l.out];rw[h.out];clear x y z A C D E F G H n p r c;have c:=v.c 11 rfl;have c:=s.c 11 rfl;have c:=s.c 12 rfl
 cases d with
 | none=>
  simp only[Option.getD_none,Option.isSome_none]at a;go_wp2;go_ret;exact⟨by rw[<-b.out];rfl,f⟩
 | some z=>
  simp only[Option.getD_some,Option.isSome_some]at a;have a:Xo ((z ==(k:Int))=R):=dD<|by rw[<-b.out,Yr];simp
  go_wp2;go_ret;exact⟨by rw[<-a.out];rfl,f⟩
def Jy (K:zad) (w:Xn) (b:Nat) (H:Int × Int->Int):Prop:=∃g,Qx K w b g/\∀k,(g k).getD 0=H k
theorem Jy.grew {K:zad} {w:Xn} {H:Int × Int->Int} (h:Jy K w b H) (k:zc w w'):Jy K w' b H:=by
 obtain⟨g,a,c⟩:=h;exact⟨g,a.grew k,c⟩
theorem Jy.congr {K:zad} {w:Xn} {H a:Int × Int->Int} (h:Jy K w b H) (e:∀k,H k=a k):Jy K w b a:=by
 obtain⟨g,a,c⟩:=h;exact⟨g,a,fun k=>(c k).trans (e k)⟩
theorem Jy.ne_box {K:zad} {w:Xn} {cs:List Xq} {H:Int × Int->Int} (k:Jy K w B H) (h:Box w b cs):b≠B:=by
 obtain⟨g,a,_⟩:=k;exact h.ne_map a
theorem Jy.ne_own {α:Type} {E:Elt α} {K:zad} {w:Xn} {base:Nat} {v:Xq} {l:List α} {H:Int × Int->Int} (k:Jy K w B H) (h:zb E base w v l):∀x,v.ownBlock=Xa x->Xa B≠Xa x:=by
 obtain⟨g,a,_⟩:=k;exact h.ne_map a
def zdR (K:zad) (w:Xn) (b:Nat) (H:Int × Int->Int) (k:Int × Int) (st:Int):Prop:=∃g,zpA K w b g k st/\∀x,(g x).getD 0=H x
theorem Jy.entry {K:zad} {w:Xn} {H:Int × Int->Int} (h:Jy K w b H) {e:TypeId} (ht:Tryz.prog.underlying t=Xa (.map K.ty e)) (g:(zeroValue e).run prog w= .ok (I6 0) w) (k:Int × Int):
  ∃w' a,(Instr.mapEntry t (.map (Xa b)) (K.enc k)).run prog w= .ok (Xm #[I6 (H k),I6 a]) w'/\zdR K w' b H k a/\w.grownBy w' (Xa b)/\w'.heap.size=w.heap.size:=by
 obtain⟨c,f,c⟩:=h;obtain⟨w',a,d,h,i,j⟩:=f.entry ht g k;rw[c k]at d;refine⟨w',a,d,⟨_,h,fun x=>?_⟩,i,j⟩
 by_cases e:x=k
 ·subst e;rw[kE rfl];exact c x
 rw[kF e];exact c x
theorem zdR.h {K:zad} {w:Xn} {H:Int × Int->Int} {k:Int × Int} {a:Int} (h:zdR K w b H k a):Jy K w b H:=by
 obtain⟨g,a,c⟩:=h;exact⟨g,a.f,c⟩
theorem Jy.look {K:zad} {w:Xn} {H:Int × Int->Int} (h:Jy K w b H) {e:TypeId} (ht:Tryz.prog.underlying t=Xa (.map K.ty e)) (d:(zeroValue e).run prog w= .ok (I6 0) w) (k:Int × Int):
  (Instr.lookup t (.map (Xa b)) (K.enc k) Xd).run prog w= .ok (I6 (H k)) w:=by
 obtain⟨g,a,c⟩:=h;have:=a.look ht d k Xd;rw[c k]at this;exact this
def zqe (H:Int × Int->Int) (k:Int × Int):Int × Int->Int:=fun x=>H x+(if x=k then 1 else 0)
theorem zaJ {K:zad} {w:Xn} {rest:List Oper} {a:Act} (c:o.guard=Xb) (t m s x) (e:o.op= .entryStore t m s x) (b:Nat) (H:Int × Int->Int) (k:Int × Int) (d:Int) (h:zdR K w b H k d)
  (j:a.eval m= .map (Xa b)) (l:a.eval s=I6 d) (n:a.eval x=I6 (H k+1))
  (i:∀w',Jy K w' b (zqe H k)->w.grownBy w' (Xa b)->w'.heap.size=w.heap.size->wpList prog ops Q rest (a.put o.dst undef) w'):wpList prog ops Q (o :: rest) a w:=by
 refine wpList_plain c fun c d=>?_
 obtain⟨g,f,g⟩:=h;obtain⟨w',c,h,p,q⟩:=f.store t (H k+1);unfold Oper.wp
 simp[execOp,e,j,l,n,c,Result.andThen]
 refine d _ _ (i w' ⟨_,h,fun y=>?_⟩ p q)
 unfold zqe
 by_cases e:y=k
 ·subst e;rw[kE rfl,kE rfl];rfl
 rw[kF e,kF e,g y];omega
theorem znJ (l:List Ca) (key:Int × Int):0<=JN l key/\JN l key<=l.length:=by
 unfold JN zH
 split
 ·have:=Yc (p:=fun c:Ca=>decide (c.fr=key.2)) (l:=l)
  omega
 omega
theorem zd6 (s):(qU s).length<=64:=by
 unfold qU;have:=Od (fun n=>enS (zm s n)) (Ys 64)
 simpa using this
theorem zoZ (m:Ma) (i:Nat) (l:List Nat) (s) (key:Int × Int):0<=qy m i l s key/\qy m i l s key<=m.ca.length+64*m.sp.length+l.length:=by
 unfold qy;have a:(if key.1=1 then zH m.ca key.2 else 0)<=m.ca.length:=by
  split
  ·exact Yc
  omega
 have b:∀(L:List Sp),(L.map fun s=>(qU s).countP fun n=>isE (zm s n) key.1 key.2).sum<=64*L.length:=by
  intro L
  induction L with
  | nil=>simp
  | cons a L c=>
   have c:=Yc (p:=fun n=>isE (zm a n) key.1 key.2) (l:=qU a)
   have c:=zd6 a;simp only[mP,List.sum_cons,Yk];omega
 have a:=b (m.sp.take i);have a:(m.sp.take i).length<=m.sp.length:=by simp;omega
 have a:=Yc (p:=fun n=>isE (zm s n) key.1 key.2) (l:=l)
 omega
def zdZ:Sp:=⟨Xc,[],[]⟩
theorem zhN (V) (m:Ma) (w) (hm:zy w V m) (hsp4:m.sp.length<=4) (htb:∀s∈m.sp,tbW s.tb=0):
  Xp prog 84 #[Xi (mL V m).toArray] w fun e w'=>∃B,e= Xl (.map (Xa B))/\Jy enK w' B (qy m m.sp.length [] zdZ)/\zc w w':=by
 obtain⟨vf,vs,vsb,vsq,vdb,vdq,vfl,⟨caa,can,cac⟩,⟨spa,spn,spc⟩⟩:=V;dsimp only[mL];obtain⟨-,-,-,-,-,-,-,n8,n9⟩:=hm.ns;dsimp only at n8 n9;have HR:Xo (zeB w caa m.ca):=hm.cas;have HN:=dD n8.symm;have hbig:can<=140737488355328:=by have:=hm.ca.2;have h24:jG.bytes=24:=rfl;rw[h24]at this;omega
 obtain⟨xs,hxl,hrow,hsp⟩:=hm.spaces;have HXL:=dD hxl;have HRS:Xo (∀(j:Nat) x,xs[j]? =Xa x->∃ad,spa=Xa ad/\∀W,zc w W->zja W (ad.add (j*10)) x):=hrow;have HSP:=dD hsp;have HNS:=dD n9.symm;have HTBS:=dD htb;have HC0:Xo (∀j key,0<=JN (m.ca.take j) key/\JN (m.ca.take j) key<=140737488355328):=show∀j key,_ from fun j key=>by
  have h1:=znJ (m.ca.take j) key;have h2:(m.ca.take j).length<=m.ca.length:=by simp;omega
  omega
 have HH0:Xo (∀i l s key,l.length<=64->0<=qy m i l s key/\qy m i l s key<=140737488360000):=dD<|fun i l s key hl=>by
  have h1:=zoZ m i l s key;omega
 have hsn4:spn<=4:=Wm
 clear hm n8 n9 hxl hrow hsp hsp4 htb;have hmm:=@run_makeMap prog;obtain⟨W0,hW0⟩:=kB ((w.alloc (Xk #[vf.x,I6 m.hand,vs.x,vsb.x,vsq.x,vdb.x,vdq.x,vfl.x,I6 m.cnt,O caa can cac,O spa spn spc] 41)).alloc (.map #[] 0));have HG0:Xo (zc w W0):=dD<|by rw[<-hW0];exact(za _ _).trans (za _ _)
 have X0:Xo (Box W0 w.heap.size [vf.x,I6 m.hand,vs.x,vsb.x,vsq.x,vdb.x,vdq.x,vfl.x,I6 m.cnt,O caa can cac,O spa spn spc]):=dD<|by rw[<-hW0];exact(Box.top _ _ _ rfl).alloc _
 have M0:Xo (Jy enK W0 (w.heap.size+1) (JN (m.ca.take 0))):=dD<|by
  rw[<-hW0];have:=Qx.made enK (w.alloc (Xk #[vf.x,I6 m.hand,vs.x,vsb.x,vsq.x,vdb.x,vdq.x,vfl.x,I6 m.cnt,O caa can cac,O spa spn spc] 41));have hs:(w.alloc (Xk #[vf.x,I6 m.hand,vs.x,vsb.x,vsq.x,vdb.x,vdq.x,vfl.x,I6 m.cnt,O caa can cac,O spa spn spc] 41)).heap.size=w.heap.size+1:=Sm
  rw[hs]at this;exact⟨_,this,fun k=>by rw[Yt,zlJ];rfl⟩
 have HW0:Xo (_=W0):=hW0;clear hW0
 go_enter func84,ntmps84
 go_upto_region 2 with fail;rw[HW0.out];clear hmm;have x9:=X0.c 9 rfl;go_wp2;clear x9
 go_loopg [15] can (fun gg s15 wr=>∃kk:Nat,kk<=can/\can - kk<=gg/\s15=I6 kk/\Xo (zc w wr)/\Xo (Box wr w.heap.size [vf.x,I6 m.hand,vs.x,vsb.x,vsq.x,vdb.x,vdq.x,vfl.x,I6 m.cnt,O caa can cac,O spa spn spc])/\Xo (Jy enK wr (w.heap.size+1) (JN (m.ca.take kk))))
 exact⟨0,nZ _,Wm,rfl,HG0,X0,M0⟩
 obtain⟨kk,hkk,hgg,rfl,BW,XW,MW⟩:=hrel
 by_cases hlt:kk<can
 ·have hltz:=kC hlt
  obtain⟨c,HC⟩:∃c,Xo (m.ca[kk]? =Xa c):=⟨_,gE (Rx HN.out hlt)⟩
  obtain⟨ad,rfl,hl⟩:=HR.out kk c HC.out;obtain⟨d0,d1,d2⟩:=hl wr BW.out;clear hl;go_upto_region 5 with fail;obtain⟨W1,hW1⟩:=kB (wr.alloc (Xk #[I6 c.file,I6 c.idx,I6 c.fr] 93));have HG1:=gT hW1 BW
  have X1:=yA hW1 XW
  have M1:Xo (Jy enK W1 (w.heap.size+1) (JN (m.ca.take kk))):=dD<|by rw[<-hW1];exact MW.grew (za _ _)
  have C1:=xA hW1
  rw[hW1];clear hW1 d0 d1 d2;obtain⟨pb,HPB⟩:=kA wr.heap.size;rw[HPB.out]at C1⊢;obtain⟨H,HH⟩:=kA (JN (m.ca.take kk));rw[HH.out]at M1;obtain⟨hb0,hb1⟩:0<=H (1,c.fr)/\H (1,c.fr)<=140737488355328:=by rw[<-HH.out];exact HC0 kk (1,c.fr)
  obtain⟨I,hI⟩:∃I:Xn->Prop,I=fun u=>Jy enK u (w.heap.size+1) H/\Box u pb [I6 c.file,I6 c.idx,I6 c.fr]/\Box u w.heap.size [vf.x,I6 m.hand,vs.x,vsb.x,vsq.x,vdb.x,vdq.x,vfl.x,I6 m.cnt,O (Xa ad) can cac,O spa spn spc]/\zc w u:=⟨_,rfl⟩
  have HI:Xo (∀u,I u↔Jy enK u (w.heap.size+1) H/\Box u pb [I6 c.file,I6 c.idx,I6 c.fr]/\Box u w.heap.size [vf.x,I6 m.hand,vs.x,vsb.x,vsq.x,vdb.x,vdq.x,vfl.x,I6 m.cnt,O (Xa ad) can cac,O spa spn spc]/\zc w u):=dD<|fun u=>by rw[hI]
  clear hI;have hx2:∀y:zj I,y.world.cell? ⟨pb,2,Xb⟩=Xa (I6 c.fr):=fun y=>((HI _).1 y.holds).2.1.c 2 rfl
  have hlk:∀y:zj I,(Instr.lookup 154 (.map (Xa (w.heap.size+1))) (Xi #[I6 1,I6 c.fr,Xh Xd]) Xd).run prog y.world= .ok (I6 (H (1,c.fr))) y.world:=fun y=>((HI _).1 y.holds).1.look (K:=enK) underlying154 (zqN _) (1,c.fr)
  have hI0:I W1.drew:=(HI _).2 ⟨M1.grew (gW _),C1.grew (gW _),X1.grew (gW _),HG1.trans (gW _)⟩
  have hne:Nonempty (zj I):=⟨⟨_,hI0⟩⟩;refine qX (I:=I) 8 [(6,⟨fun v=>∃st,v= Xm #[I6 (H (1,c.fr)),I6 st],fun v w'=>∃st,v= Xm #[I6 (H (1,c.fr)),I6 st]/\zdR enK w' (w.heap.size+1) H (1,c.fr) st,fun _ _=>True,fun _=>True⟩)] hI0 z6 Kr rfl rfl Dc (Sa ⟨_,0,rfl⟩) ?hp ?hpre ?hpr0 ?_
  case hp=>
   intro k s j t' hk hj hjk _ v p q hst hpo;obtain⟨rfl,rfl⟩:=zbz hk;obtain⟨rfl,rfl⟩:=zbz hj;exact absurd rfl hjk
  case hpre=>
   intro j t' k s hj hk hjk p q hst hpr;obtain⟨rfl,rfl⟩:=zbz hj;trivial
  case hpr0=>
   intro k t' hk;obtain⟨rfl,rfl⟩:=zbz hk;trivial
  simp only[Yp,Yq];iterate 6 refine zN ?_
  refine zV rfl rfl (fun w' hI' hpr hF=>?_) (fun v1 hv=>?_)
  ·obtain⟨i1,i2,i3,i4⟩:=(HI _).1 hI';obtain⟨w2,st,hrun,r1,r2,r3⟩:=i1.entry (K:=enK) underlying154 (zqN w') (1,c.fr);have hrun':(Instr.mapEntry 154 (.map (Xa (w.heap.size+1))) (Xi #[I6 1,I6 c.fr,Xh Xd])).run prog w'= .ok (Xm #[I6 (H (1,c.fr)),I6 st]) w2:=hrun;clear hx2 hlk hne;refine zJ.step (v:= Xm #[I6 (H (1,c.fr)),I6 st]) (w':=w2) (by simp only[execOp];go_simp) ⟨(HI _).2 ⟨r1.h,i2.grown r2 (i1.ne_box i2),i3.grown r2 (i1.ne_box i3),zd i4 r2 Wm⟩,trivial,⟨_,rfl⟩,_,rfl,r1⟩
  obtain⟨st,rfl⟩:=hv;refine Uq ?_;refine zN ?_
  refine j2 fun W3 hI3 hF=>?_
  obtain⟨i1,i2,i3,i4⟩:=(HI _).1 hI3;obtain⟨st',hst,hE⟩:∃st',(Value.tuple #[I6 (H (1,c.fr)),I6 st])= Xm #[I6 (H (1,c.fr)),I6 st']/\zdR enK W3 (w.heap.size+1) H (1,c.fr) st':=hF 6;have hE':zdR enK W3 (w.heap.size+1) H (1,c.fr) st:=by
   simp at hst
   rw[hst];exact hE
  have X3:=dD i3;have HG3:=dD i4;have HE3:=dD hE';clear hx2 hlk hne hF hI3 i1 i2 i3 i4 hE hst hE' hI0;refine zaJ (K:=enK) rfl 154 (.tmp 19) (.tmp 26) (.tmp 24) rfl (w.heap.size+1) H (1,c.fr) st HE3 rfl rfl Gn ?_
  intro W4 m4 hg4 _;have X4:Xo (Box W4 w.heap.size [vf.x,I6 m.hand,vs.x,vsb.x,vsq.x,vdb.x,vdq.x,vfl.x,I6 m.cnt,O (Xa ad) can cac,O spa spn spc]):=X3.grown hg4 Wm
  have HG4:Xo (zc w W4):=dD<|zd HG3 hg4 Wm
  have M4:Xo (Jy enK W4 (w.heap.size+1) (JN (m.ca.take (kk+1)))):=dD<|m4.congr fun k=>by rw[qe HC.out,zjZ,<-HH.out];rfl
  clear m4 hg4 hb0 hb1;go_wp2
  go_roundg (can -(kk+1));exact⟨kk+1,Wm,Wm,Gn,HG4,X4,M4⟩;omega
 have hltz:=kD hlt
 have:kk=can:=Wm
 subst this;have MA1:Xo (Jy enK wr (w.heap.size+1) (qy m 0 [] zdZ)):=dD<|MW.congr fun k=>by
  rw[Xx (by rw[HN.out];exact nR _)]
  exact zlK m zdZ k
 have x10:=XW.c 10 rfl;go_wp2;clear x10;have HBW:Xo (zc w wr):=BW
 go_loopg [31] spn (fun gg s31 wr=>∃i:Nat,i<=spn/\spn - i<=gg/\s31=I6 i/\Xo (zc w wr)/\Xo (Jy enK wr (w.heap.size+1) (qy m i [] zdZ)))
 exact⟨0,nZ _,Wm,rfl,HBW,MA1⟩
 obtain⟨i,hi,hg2,rfl,BW,MW⟩:=hrel
 by_cases hlt2:i<spn
 ·have hltz2:=kC hlt2
  obtain⟨s,HS⟩:∃s,Xo (m.sp[i]? =Xa s):=⟨_,gE (by rw[HNS.out];exact hlt2)⟩
  obtain⟨x,HX⟩:∃x,Xo (xs[i]? =Xa x):=⟨_,gE (by rw[HXL.out,HNS.out];exact hlt2)⟩
  have HAT:=dD<|HSP.out i x s HX HS.out;obtain⟨ad,rfl,hl⟩:=HRS.out i x HX.out;obtain⟨d0,d1,d2,d3,d4,d5,d6,d7,d8,d9⟩:=hl wr BW.out;clear hl;go_upto_region 10 with fail;obtain⟨W1,hW1⟩:=kB (wr.alloc (Xk #[Xh x.live,x.ar.x,x.t0.x,x.t1.x,x.t2.x,x.t3.x,x.t4.x,x.t5.x,x.t6.x,x.t7.x] 79));have HG1:=gT hW1 BW
  have M1:Xo (Jy enK W1 (w.heap.size+1) (qy m i [] s)):=dD<|by rw[<-hW1];exact(MW.grew (za _ _)).congr fun k=>by unfold qy;simp
  have S1:=xA hW1
  rw[hW1];clear hW1 d0 d1 d2 d3 d4 d5 d6 d7 d8 d9;obtain⟨pb,HPB⟩:=kA wr.heap.size;rw[HPB.out]at S1⊢;have hcall:Xp prog 79 #[Xi #[x.t0.x,x.t1.x,x.t2.x,x.t3.x,x.t4.x,x.t5.x,x.t6.x,x.t7.x]] W1 fun e w'=>∃v,e= Xl v/\zb blE W1.heap.size w' v (jj s.tb zbO 64)/\zc W1 w':=zav x.tab s.tb W1 (HAT.grew HG1).tb
  have s2:=S1.c 2 rfl;have s3:=S1.c 3 rfl;have s4:=S1.c 4 rfl;have s5:=S1.c 5 rfl;have s6:=S1.c 6 rfl;have s7:=S1.c 7 rfl;have s8:=S1.c 8 rfl;have s9:=S1.c 9 rfl;go_wp2_with fail;refine hcall.mono ?_;clear hcall s2 s3 s4 s5 s6 s7 s8 s9;rintro e' W2 ⟨pv,rfl,ow2,hg2'⟩;have HG2:=dD (HG1.trans hg2');have M2:=dD (M1.grew hg2');have S2:=dD (S1.grew hg2');have HW1L:=dD<|bS HG1.out
  clear hg2';obtain⟨pa,pc,rfl⟩:=ow2.form;have hq0:=ow2.at.short;rw[Q0]at ow2 hq0⊢;rw[Oc]at ow2 hq0⊢;obtain⟨q,HQ⟩:=kA ((qU s).length);rw[HQ.out]at ow2 hq0⊢;have OW2:=dD ow2
  have hq64:q<=64:=by rw[<-HQ.out];exact zd6 s
  clear ow2;go_wp2
  go_loopg [39] q (fun gg s39 wr=>∃j:Nat,j<=q/\q - j<=gg/\s39=I6 j/\Xo (zc w wr)/\Xo (zb blE W1.heap.size wr (O pa q pc) ((qU s).map fun(n:Nat)=>(n:Int)))/\Xo (Box wr pb [Xh x.live,x.ar.x,x.t0.x,x.t1.x,x.t2.x,x.t3.x,x.t4.x,x.t5.x,x.t6.x,x.t7.x])/\Xo (Jy enK wr (w.heap.size+1) (qy m i ((qU s).take j) s)))
  exact⟨0,nZ _,Wm,rfl,HG2,OW2,S2,Rx Yt M2⟩
  obtain⟨j,hj,hg3,rfl,BW,OW,SW,MW⟩:=hrel
  by_cases hlt3:j<q
  ·have hltz3:=kC hlt3
   obtain⟨n,HNI⟩:∃n,Xo ((qU s)[j]? =Xa n):=⟨_,gE (by rw[HQ.out];exact hlt3)⟩
   have hn64:=zf5 HNI.out;have HTS:=dD<|qe HNI.out;obtain⟨_,_,heq,hnr⟩:=OW.at.nums;simp only[vJ]at heq;obtain⟨ad2,had2,hl2⟩:=hnr j (n:Int) (by rw[Yg,HNI.out];rfl)
   have e0:=hl2 wr (zc.refl _);rw[<-heq.1]at had2;subst had2;clear hl2 heq hnr;have hcg:Xp prog 82 #[Xi #[x.t0.x,x.t1.x,x.t2.x,x.t3.x,x.t4.x,x.t5.x,x.t6.x,x.t7.x],I6 (n:Int)] wr fun e w'=>e= Xl (enV (zm s n))/\zc wr w':=by
    have:=JQ x.tab s.tb (n:Int) wr (HAT.grew BW).tb;rw[ziS hn64]at this;exact this
   obtain⟨en,HEN⟩:=kA (zm s n);rw[HEN.out]at hcg;have s2:=SW.c 2 rfl;have s3:=SW.c 3 rfl;have s4:=SW.c 4 rfl;have s5:=SW.c 5 rfl;have s6:=SW.c 6 rfl;have s7:=SW.c 7 rfl;have s8:=SW.c 8 rfl;have s9:=SW.c 9 rfl;go_wp2_with fail;refine hcg.mono ?_;clear hcg e0 s2 s3 s4 s5 s6 s7 s8 s9;rintro e' W4 ⟨rfl,hg4⟩;have HG4:=dD (BW.trans hg4);have OW4:=dD (OW.grew hg4)
   have S4:=dD (SW.grew hg4);have M4:=dD (MW.grew hg4);clear hg4;unfold enV;go_upto_region 14 with fail;obtain⟨W5,hW5⟩:=kB (W4.alloc (Xk #[I6 en.kind,I6 en.n,Xh en.wr] 75));have HG5:=gT hW5 HG4
   have OW5:Xo (zb blE W1.heap.size W5 (O (Xa ad2) q pc) ((qU s).map fun(n:Nat)=>(n:Int))):=dD<|by rw[<-hW5];exact OW4.grew (za _ _)
   have S5:=yA hW5 S4
   have M5:Xo (Jy enK W5 (w.heap.size+1) (qy m i ((qU s).take j) s)):=dD<|by rw[<-hW5];exact M4.grew (za _ _)
   have E5:=xA hW5
   rw[hW5];clear hW5;obtain⟨pe,HPE⟩:=kA W4.heap.size;rw[HPE.out]at E5⊢;obtain⟨H,HH⟩:=kA (qy m i ((qU s).take j) s);rw[HH.out]at M5;obtain⟨hb0,hb1⟩:0<=H (en.kind,en.n)/\H (en.kind,en.n)<=140737488360000:=by rw[<-HH.out];exact HH0 i _ s (en.kind,en.n) (by simp;omega)
   obtain⟨I,hI⟩:∃I:Xn->Prop,I=fun u=>Jy enK u (w.heap.size+1) H/\Box u pe [I6 en.kind,I6 en.n,Xh en.wr]/\Box u pb [Xh x.live,x.ar.x,x.t0.x,x.t1.x,x.t2.x,x.t3.x,x.t4.x,x.t5.x,x.t6.x,x.t7.x]/\zb blE W1.heap.size u (O (Xa ad2) q pc) ((qU s).map fun(n:Nat)=>(n:Int))/\zc w u:=⟨_,rfl⟩
   have HI:Xo (∀u,I u↔Jy enK u (w.heap.size+1) H/\Box u pe [I6 en.kind,I6 en.n,Xh en.wr]/\Box u pb [Xh x.live,x.ar.x,x.t0.x,x.t1.x,x.t2.x,x.t3.x,x.t4.x,x.t5.x,x.t6.x,x.t7.x]/\zb blE W1.heap.size u (O (Xa ad2) q pc) ((qU s).map fun(n:Nat)=>(n:Int))/\zc w u):=dD<|fun u=>by rw[hI]
   clear hI;have hx0:∀y:zj I,y.world.cell? ⟨pe,0,Xb⟩=Xa (I6 en.kind):=fun y=>((HI _).1 y.holds).2.1.c 0 rfl
   have hx1:∀y:zj I,y.world.cell? ⟨pe,1,Xb⟩=Xa (I6 en.n):=fun y=>((HI _).1 y.holds).2.1.c 1 rfl
   have hlk:∀y:zj I,(Instr.lookup 154 (.map (Xa (w.heap.size+1))) (Xi #[I6 en.kind,I6 en.n,Xh Xd]) Xd).run prog y.world= .ok (I6 (H (en.kind,en.n))) y.world:=fun y=>((HI _).1 y.holds).1.look (K:=enK) underlying154 (zqN _) (en.kind,en.n)
   have hI0:I W5.drew:=(HI _).2 ⟨M5.grew (gW _),E5.grew (gW _),S5.grew (gW _),OW5.grew (gW _),HG5.trans (gW _)⟩
   have hne:Nonempty (zj I):=⟨⟨_,hI0⟩⟩;refine qX (I:=I) 10 [(8,⟨fun v=>∃st,v= Xm #[I6 (H (en.kind,en.n)),I6 st],fun v w'=>∃st,v= Xm #[I6 (H (en.kind,en.n)),I6 st]/\zdR enK w' (w.heap.size+1) H (en.kind,en.n) st,fun _ _=>True,fun _=>True⟩)] hI0 z6 Kr rfl rfl Dc (Sa ⟨_,0,rfl⟩) ?hp ?hpre ?hpr0 ?_
   case hp=>
    intro k s j t' hk hj hjk _ v p q hst hpo;obtain⟨rfl,rfl⟩:=zbz hk;obtain⟨rfl,rfl⟩:=zbz hj;exact absurd rfl hjk
   case hpre=>
    intro j t' k s hj hk hjk p q hst hpr;obtain⟨rfl,rfl⟩:=zbz hj;trivial
   case hpr0=>
    intro k t' hk;obtain⟨rfl,rfl⟩:=zbz hk;trivial
   simp only[Yp,Yq];iterate 8 refine zN ?_
   refine zV rfl rfl (fun w' hI' hpr hF=>?_) (fun v1 hv=>?_)
   ·obtain⟨i1,i2,i3,i4,i5⟩:=(HI _).1 hI';obtain⟨w2,st,hrun,r1,r2,r3⟩:=i1.entry (K:=enK) underlying154 (zqN w') (en.kind,en.n);have hrun':(Instr.mapEntry 154 (.map (Xa (w.heap.size+1))) (Xi #[I6 en.kind,I6 en.n,Xh Xd])).run prog w'= .ok (Xm #[I6 (H (en.kind,en.n)),I6 st]) w2:=hrun;clear hx0 hx1 hlk hne;refine zJ.step (v:= Xm #[I6 (H (en.kind,en.n)),I6 st]) (w':=w2) (by simp only[execOp];go_simp) ⟨(HI _).2 ⟨r1.h,i2.grown r2 (i1.ne_box i2),i3.grown r2 (i1.ne_box i3),i4.grown r2 (i1.ne_own i4),zd i5 r2 Wm⟩,trivial,⟨_,rfl⟩,_,rfl,r1⟩
   obtain⟨st,rfl⟩:=hv;refine Uq ?_;refine zN ?_
   refine j2 fun W6 hI6 hF=>?_
   obtain⟨i1,i2,i3,i4,i5⟩:=(HI _).1 hI6;obtain⟨st',hst,hE⟩:∃st',(Value.tuple #[I6 (H (en.kind,en.n)),I6 st])= Xm #[I6 (H (en.kind,en.n)),I6 st']/\zdR enK W6 (w.heap.size+1) H (en.kind,en.n) st':=hF 8;have hE':zdR enK W6 (w.heap.size+1) H (en.kind,en.n) st:=by
    simp at hst
    rw[hst];exact hE
   have S6:=dD i3;have OW6:=dD i4
   have HG6:=dD i5;have M6:=dD i1;have HE6:=dD hE';clear hx0 hx1 hlk hne hF hI6 i1 i2 i3 i4 i5 hE hst hE' hI0;refine zaJ (K:=enK) rfl 154 (.tmp 47) (.tmp 56) (.tmp 54) rfl (w.heap.size+1) H (en.kind,en.n) st HE6 rfl rfl Gn ?_
   intro W7 m7 hg7 _;have S7:=dD<|S6.grown hg7 (M6.ne_box S6);have OW7:=dD<|OW6.grown hg7 (M6.ne_own OW6)
   have HG7:Xo (zc w W7):=dD<|zd HG6 hg7 Wm
   have M7:Xo (Jy enK W7 (w.heap.size+1) (qy m i ((qU s).take (j+1)) s)):=dD<|m7.congr fun k=>by rw[HTS.out,zlH,HEN.out,HH.out];rfl
   clear m7 hg7 hb0 hb1;go_wp2
   go_roundg (q -(j+1));exact⟨j+1,Wm,Wm,Gn,HG7,OW7,S7,M7⟩;omega
  have hltz3:=kD hlt3
  have:j=q:=Wm
  subst this;have M8:Xo (Jy enK wr (w.heap.size+1) (qy m (i+1) [] zdZ)):=dD<|MW.congr fun k=>by
   rw[Xx (by rw[HQ.out];exact nR _)]
   exact zlI m i s zdZ HS k
  go_wp2
  go_roundg (spn -(i+1));exact⟨i+1,Wm,Wm,Gn,BW,M8⟩;omega
 have hltz2:=kD hlt2
 have:i=spn:=Wm
 subst this;have M9:Xo (Jy enK wr (w.heap.size+1) (qy m m.sp.length [] zdZ)):=dD<|Rx HNS.out MW.out
 go_wp2;go_ret;exact⟨_,rfl,M9,BW⟩
def qR (fl:List Fl) (i:Nat) (bl:List Int):List Int:=(Z4 (fl.take i))++bl
theorem zaz {n:Nat} {g h:List Int} (e:∀i:Nat,i<n->g.contains (i:Int)=h.contains (i:Int)):qI n g=qI n h:=by
 unfold qI
 apply List.map_congr_left
 intro i a;rw[e i (Yi.1 a)]
theorem zkc (fl) (i:Nat) (bl) {b:Int} (a:b<0) (n:Nat):qI n (qR fl i (bl++ [b]))=qI n (qR fl i bl):=zaz fun j _=>by
 unfold qR;have:¬(j:Int)=b:=Wm
 simp[this]
theorem zma (fl) (i:Nat) (bl) (b:Nat) (n:Nat):qI n ((b:Int) :: qR fl i bl)=qI n (qR fl i (bl++ [(b:Int)])):=zaz fun j _=>by
 unfold qR;rw[Yr];simp only[List.contains_eq_mem,mC,Oa,nM,or_false,decide_eq_true_eq];constructor
 ·rintro(h|h|h)
  ·exact .inr (.inr h)
  ·exact .inl h
  exact .inr (.inl h)
 rintro(h|h|h)
 ·exact .inr (.inl h)
 ·exact .inr (.inr h)
 exact .inl h
theorem zkd {fl:List Fl} {i:Nat} {f:Fl} (a:fl[i]? =Xa f):qR fl i f.bl=qR fl (i+1) []:=by
 unfold qR Z4;rw[Oq,a];simp
theorem zmb (fl:List Fl) (b:Int):(qR fl fl.length []).contains b=zR fl b:=by
 unfold qR Z4 zR;rw[List.take_length,List.append_nil,Yr];simp
theorem zqO:(Tryz.prog.info? 141).map (·.size)=Xa 80:=by kernel_rfl
theorem zgl (n:Nat) (g):∀v∈qI n g,v.oneCell'=Xc:=fun v a=>by
 unfold qI at a;obtain⟨i,_,rfl⟩:=Ym.1 a;rfl
theorem zaY (n:Nat) (g):(qI n g).length=n:=by simp[qI]
theorem zdh (v) (fl:List Fl) (cnt:Int) (w) (hv:qg w v fl) (hst:stW fl cnt=0):
  Xp prog 75 #[Xi #[v,I6 cnt]] w fun e w'=>e= Xl (Xi (qI 80 (qR fl fl.length [])).toArray)/\zc w w':=by
 have hz:=zbp;obtain⟨a,c,rfl,hbig,hrow⟩:=hv.rows;have HR:=dD hrow;clear hrow hv;have HB:Xo (∀f∈fl,∀b∈f.bl,b=-1\/(0<=b/\b<80)):=show∀f∈fl,_ from fun f hf b hb=>by
  obtain⟨⟨_,_,h80⟩,h2,_⟩:=(qi fl cnt).1 hst
  rcases(h2 f hf).2.2 b hb with h|h
  ·exact .inl h
  exact .inr Wm
 clear hst;obtain⟨n,HN⟩:=kA fl.length;rw[HN.out]at hbig⊢;obtain⟨W0,hW0⟩:=kB (((w.alloc (Xk #[O a n c,I6 cnt] 37)).alloc (Xk zfz 141)).alloc (Xk zfz 141));have HG0:Xo (zc w W0):=dD<|by rw[<-hW0];exact((za _ _).trans (za _ _)).trans (za _ _)
 have X0:Xo (Box W0 w.heap.size [O a n c,I6 cnt]):=dD<|by rw[<-hW0];exact((Box.top _ _ _ rfl).alloc _).alloc _
 have Y0:Xo (Box W0 (w.heap.size+1) (qI 80 [])):=dD<|by rw[<-hW0,zcU];exact(Box.top _ (Xr 80 (Xh Xd)) _ Sm).alloc _
 have Z0:Xo (Box W0 (w.heap.size+1+1) (qI 80 (qR fl 0 []))):=dD<|by
  have:qI 80 (qR fl 0 [])=qI 80 []:=zaz fun i _=>by simp[qR,Z4]
  rw[<-hW0,this,zcU];exact Box.top _ (Xr 80 (Xh Xd)) _ Sm
 have HW0:=dD hW0;clear hW0
 go_enter func75,ntmps75
 go_upto_region 2 with fail;rw[HW0.out];clear hz;have x0:=X0.c 0 rfl;go_wp2;clear x0
 go_loopg [5,11] n (fun gg _ s11 wr=>∃i:Nat,i<=n/\n - i<=gg/\s11=I6 i/\Xo (zc w wr)/\Xo (Box wr (w.heap.size+1) (qI 80 []))/\Xo (Box wr (w.heap.size+1+1) (qI 80 (qR fl i []))))
 exact⟨0,nZ _,Wm,rfl,HG0,Y0,Z0⟩
 obtain⟨i,hi,hgg,rfl,BW,YW,ZW⟩:=hrel
 by_cases hlt:i<n
 ·have hltz:=kC hlt
  obtain⟨f,HF⟩:∃f,Xo (fl[i]? =Xa f):=⟨_,gE (Rx HN.out hlt)⟩
  obtain⟨ad,rfl,xa,xc,hr2,hl⟩:=HR.out i f HF.out;obtain⟨d0,d1⟩:=hl wr BW.out;obtain⟨_,_,heq,hnr⟩:=hr2.nums;have hq:=hr2.short;have HNR:Xo (zmJ w xa f.bl):=dD<|by
   simp only[vJ]at heq;rw[heq.1];exact hnr
  clear heq hnr hr2 hl;obtain⟨q,HQ⟩:=kA f.bl.length;rw[HQ.out]at d1 hq;go_upto_region 5 with fail;obtain⟨W1,hW1⟩:=kB (wr.alloc (Xk #[I6 f.size,O xa q xc] 65));have HG1:=gT hW1 BW
  have F1:=xA hW1
  have Y1:=yA hW1 YW
  have Z1:=yA hW1 ZW
  rw[hW1];clear hW1 d0 d1;have f1:=F1.c 1 rfl;go_wp2;clear f1;have HBW:=dD BW
  go_loopg [7,18] q (fun gg _ s18 wr=>∃j:Nat,j<=q/\q - j<=gg/\s18=I6 j/\Xo (zc w wr)/\Xo (Box wr (w.heap.size+1) (qI 80 []))/\Xo (Box wr (w.heap.size+1+1) (qI 80 (qR fl i (f.bl.take j)))))
  exact⟨0,nZ _,Wm,rfl,HG1,Y1,Rx Yt Z1⟩
  obtain⟨j,hj,hg2,rfl,BW,YW,ZW⟩:=hrel
  by_cases hlt2:j<q
  ·have hltz2:=kC hlt2
   obtain⟨b,HBJ⟩:∃b,Xo (f.bl[j]? =Xa b):=⟨_,gE (by rw[HQ.out];exact hlt2)⟩
   obtain⟨ad2,rfl,hl2⟩:=HNR.out j b HBJ.out;have e0:=hl2 wr BW.out;have HRB:=dD<|HB.out f (mG HF) b (mG HBJ);have HTS:=dD<|qe HBJ.out;clear hl2
   by_cases hb:0<=b
   ·obtain⟨k,rfl⟩:∃k:Nat,b=(k:Int):=⟨b.toNat,Wm⟩
    have hk80:k<80:=Hm HRB.out
    have z0:=ZW.c k (Q2 _ hk80);have zf:=ZW.f;have Z2:Xo (Box (wr.setCell ⟨w.heap.size+1+1,k,Xb⟩ (Xh Xc)) (w.heap.size+1+1) (qI 80 (qR fl i (f.bl.take (j+1))))):=dD<|by
     rw[HTS.out,<-zma,<-zgk _ hk80];exact ZW.set k _
    have Y2:Xo (Box (wr.setCell ⟨w.heap.size+1+1,k,Xb⟩ (Xh Xc)) (w.heap.size+1) (qI 80 [])):=dD<|YW.other Sm _
    have G2:Xo (zc w (wr.setCell ⟨w.heap.size+1+1,k,Xb⟩ (Xh Xc))):=dD<|zq BW (by simp;omega) _
    go_wp2
    go_roundg (q -(j+1));exact⟨j+1,Wm,Wm,Gn,G2,Y2,Z2⟩;omega
   have Z2:Xo (Box wr (w.heap.size+1+1) (qI 80 (qR fl i (f.bl.take (j+1))))):=dD<|by
    rw[HTS.out,zkc _ _ _ Wm]
    exact ZW.out
   go_wp2
   go_roundg (q -(j+1));exact⟨j+1,Wm,Wm,Gn,BW,YW,Z2⟩;omega
  have hltz2:=kD hlt2
  have:j=q:=Wm
  subst this;have Z2:Xo (Box wr (w.heap.size+1+1) (qI 80 (qR fl (i+1) []))):=dD<|by
   have h1:=ZW.out;rw[Xx (by rw[HQ.out];exact nR _),zkd HF.out]at h1
   exact h1
  go_wp2
  go_roundg (n -(i+1));exact⟨i+1,Wm,Wm,Gn,BW,YW,Z2⟩;omega
 have hltz:=kD hlt
 have:i=n:=Wm
 subst this;obtain⟨ms,HMS⟩:=kA (qI 80 (qR fl i []));have HML:Xo (ms.length=80):=dD<|by rw[<-HMS.out];exact zaY _ _
 have HMO:Xo (∀v∈ms,v.oneCell'=Xc):=dD<|by rw[<-HMS.out];exact zgl _ _
 rw[HMS.out]at ZW;go_upto_region 12 with fail
 go_wp2_with (first | (refine zK rfl 141 (.tmp 3) rfl (w.heap.size+1+1) rfl ZW underlying141 rfl (Rx HML.out zqO) ?_) | (refine zr rfl 141 (.tmp 2) (.tmp 28) rfl (w.heap.size+1) rfl ms rfl YW (by rw[HML.out,zaY]) (Rx zaY zqO) HMO.out ?_))
 intro W5 hb5 hg5 _;have G5:Xo (zc w W5):=dD<|zd BW hg5 Wm
 go_wp2;refine bodyPost_ret (zX rfl _ rfl hb5 underlying141 rfl (Rx HML.out zqO)) rfl ⟨by rw[<-HMS.out],G5⟩
theorem zfx (a b c d e f g h:Int):zb4 ⟨a,b,c,d,e,f,g,h⟩ ⟨0,0,0,0,0,0,0,0⟩=([a,b,c,d,e,f,g,h] == zp):=by
 rw[Yr,zaU]
 simp[zp]
def zbZ (m:Ma) (b:Nat):Bool:=!zR m.fl (b:Int) && !(m.db.getD b [] == zp)
theorem zew (a:b<m.db.length) (h:zbZ m b=Xc):JY m=7:=by
 unfold JY;rw[kE];rw[Yd];exact⟨b,Yi.2 a,h⟩
theorem zd4 {q:Int × List Int} (a:m.dq[j]? =Xa q) (h:zR m.fl q.1=Xd):JE m=7:=by
 unfold JE;rw[kE];rw[Yd];exact⟨q,mG a,Rr h⟩
theorem zhd {n:Nat} {a:List (Int × List Int)} (h:zF n a=0):n<=80/\∀(j:Nat) q,a[j]? =Xa q->0<=q.1/\q.1<n:=by
 unfold zF at h
 split at h
 ·cases h
 split at h
 ·cases h
 split at h
 ·cases h
 rename_i a a a
 refine⟨Wm,fun j q b=>?_⟩
 have:(!jn q.1 n)=Xd:=by
  cases e:(!jn q.1 n)with
  | false=>rfl
  | true=>exact absurd (Yd.2 ⟨q,mG b,e⟩) a
 simp[jn]at this
 exact this
theorem zn0 (a:b<80):(qI 80 (qR m.fl m.fl.length []))[b]? =Xa (Xh (zR m.fl (b:Int))):=by
 rw[Q2 _ a,zmb]
theorem znR (a:zbf m Xb m.ca=0) (k:Nat):frE m k=if(zU m k).r≠qy m m.sp.length [] zdZ (1,(k:Int))\/(0<=(zU m k).f/\¬zaB m.ca ((zU m k).f,(zU m k).x)=Xa (k:Int))then 7 else 0:=by
 unfold frE;rw[ziQ m zdZ (k:Int) (by decide:(1:Int)≠0),kE rfl]
 have:=zj1 a k
 by_cases h:zH m.ca k=0
 ·have a:¬zaB m.ca ((zU m k).f,(zU m k).x)=Xa (k:Int):=fun e=>(this.1 e) h
  simp only[h,a,not_false_iff,and_true]
 have a:=this.2 h;simp only[h,a,not_true,and_false]
theorem zk4 (m:Ma) (k:Nat):zjq m k=if m.sl.getD k 0≠qy m m.sp.length [] zdZ (2,(k:Int))then 7 else 0:=by
 unfold zjq;have h:=ziQ m zdZ (k:Int) (by decide:(2:Int)≠0)
 have a:¬(2:Int)=1:=Dc
 rw[kF a,Nat.add_zero]at h;rw[h]
def chk:List Nat:=[40,41,42,43,44,45]
def zpk (m:Ma):List Int:=[zw (Zq m),zw (ZM m),Zp m,zdX m,zfM m,zas m]
theorem zfL (h:Zp m=0):m.sp.length<=4:=by
 unfold Zp at h
 split at h
 ·cases h
 omega
theorem zkw (k f:Nat) (a:chk[k]? =Xa f):∀b w,(callFunc f b).run prog w= .ok (.enter f b) w:=by
 match k,a with
 | 0,a=>cases a;exact enters_of func40 Kr rfl
 | 1,a=>cases a;exact enters_of func41 Kr rfl
 | 2,a=>cases a;exact enters_of func42 Kr rfl
 | 3,a=>cases a;exact enters_of func43 Kr rfl
 | 4,a=>cases a;exact enters_of func44 Kr rfl
 | 5,a=>cases a;exact enters_of func45 Kr rfl
 | k+6,a=>simp[chk]at a
def fnV (f:Nat):Xq:= .func (.func f) #[] #[]
theorem zhE {a n g:Nat} {w:Xn} {e:TypeId} {v:Xq} (h:w.ownsRow b e a v n xs) (c:v.ownBlock=Xa g):b<=g/\g<w.heap.size/\∃cs,w.heap[g]? =Xa (Xk cs e (0,0)):=by
 rcases h.2 with⟨rfl,_⟩|⟨k,a,a,rfl,f,d,h⟩
 ·cases c
 simp only[Value.ownBlock,Option.some.injEq]at c;subst c;exact⟨f,(aS.1 d).1,a,d⟩
theorem zf8 {D:Nat->Prop} {a n:Nat} {w:Xn} {e:TypeId} {v:Xq} (h:w.ownsRow b e a v n xs) (k:qD D w W) (j:∀g,v.ownBlock=Xa g->¬D g):W.ownsRow b e a v n xs:=by
 refine⟨h.1,?_⟩
 rcases h.2 with f|⟨g,a,c,rfl,h,d,i⟩
 ·exact .inl f
 exact .inr ⟨g,a,c,rfl,h,by rw[k.block g (aS.1 d).1 (j g rfl)];exact d,i⟩
theorem zcO {D:Nat->Prop} {a n:Nat} {w:Xn} {e:TypeId} {v:Xq} (h:w.ownsRow b e a v n xs) (k:qD D w W) (j:∀g,v.ownBlock=Xa g->¬D g):W.ownsRow b e a v n xs:=by
 refine⟨h.1,?_⟩
 rcases h.2 with f|⟨g,a,c,rfl,h,d,i⟩
 ·exact .inl f
 exact .inr ⟨g,a,c,rfl,h,by rw[k.block g (aS.1 d).1 (j g rfl)];exact d,i⟩
def oB (s:Sli) (b:Nat):Prop:=(O s.a s.n s.c).ownBlock=Xa b
def Dw (p:Nat) (V:MaV):Nat->Prop:=fun b=>b=p\/oB V.f b\/oB V.ca b\/oB V.sp b
def Dr (B p:Nat) (V:MaV):Nat->Prop:=fun b=>b<B\/Dw p V b
structure zkG (w:Xn) (V:MaV) (m:Ma):Prop where
 sl:zl slE w (O V.s.a V.s.n V.s.c) m.sl
 sb:jk w (O V.sb.a V.sb.n V.sb.c) m.sb
 sq:jz w (O V.sq.a V.sq.n V.sq.c) m.sq
 db:jk w (O V.db.a V.db.n V.db.c) m.db
 dq:jz w (O V.dq.a V.dq.n V.dq.c) m.dq
 fl:qg w (O V.fl.a V.fl.n V.fl.c) m.fl
structure ChW (w0:Xn) (p:Nat) (w:Xn) (V:MaV) (m:Ma):Prop where
 gr:zc w0 w
 lo:w0.heap.size<=p
 box:zo w p 91 (chL V m)
 fs:zb qA w0.heap.size w (O V.f.a V.f.n V.f.c) m.fs
 ca:zb jG w0.heap.size w (O V.ca.a V.ca.n V.ca.c) m.ca
 sp:∃xs:List SpV,zb ZC w0.heap.size w (O V.sp.a V.sp.n V.sp.c) xs/\xs.length=m.sp.length/\∀(i:Nat) x s,xs[i]? =Xa x->m.sp[i]? =Xa s->∀W,qD (Dr w0.heap.size p V) w W->jO W x s
 rest:∀W,qD (Dr w0.heap.size p V) w W->zkG W V m
def Chg (w0:Xn) (p:Nat) (w:Xn) (V:MaV) (m':Ma) (w':Xn):Prop:=∃V':MaV,ChW w0 p w' V' m'/\qD (Dw p V) w w'/\∀k,Dw p V' k->Dw p V k\/w.heap.size<=k
section
variable{w0 w w1 w2:Xn} {p:Nat} {V V':MaV} {m m':Ma}
theorem ChW.dlt (h:ChW w0 p w V m):∀k,Dw p V k->k<w.heap.size:=by
 rintro k (rfl|a|a|a)
 ·exact h.box.box.lt
 ·exact(h.fs.lt k a).2
 ·exact(h.ca.lt k a).2
 obtain⟨b,b,_⟩:=h.sp;exact(b.lt k a).2
theorem ChW.dlo (h:ChW w0 p w V m):∀k,Dw p V k->w0.heap.size<=k:=by
 rintro k (rfl|a|a|a)
 ·exact h.lo
 ·exact(h.fs.lt k a).1
 ·exact(h.ca.lt k a).1
 obtain⟨b,b,_⟩:=h.sp;exact(b.lt k a).1
theorem ChW.drt (h:ChW w0 p w V m):∀k,Dr w0.heap.size p V k->k<w.heap.size:=by
 rintro k (a|a)
 ·exact Yf a (bS h.gr)
 exact h.dlt k a
theorem ChW.grew (h:ChW w0 p w V m) (k:zc w w1):ChW w0 p w1 V m:=by
 obtain⟨c,a,b,d⟩:=h.sp;exact⟨h.gr.trans k,h.lo,h.box.grew k,h.fs.grew k,h.ca.grew k,⟨c,a.grew k,b,fun i x s c b W a=>d i x s c b W ((qD.grew k).trans a)⟩,fun W a=>h.rest W ((qD.grew k).trans a)⟩
theorem ChW.at (h:ChW w0 p w V m):zy w V m:=by
 have r:=h.rest w (qD.refl _ _);obtain⟨d,a,b,c⟩:=h.sp;exact⟨h.fs.at,r.sl,r.sb,r.sq,r.db,r.dq,r.fl,h.ca.at,⟨d,a.at,b,fun i x s b a=>c i x s b a w (qD.refl _ _)⟩⟩
theorem ChW.nf (h:ChW w0 p w V m):∀g,oB V.f g->p≠g:=h.fs.ne h.box Dc
theorem ChW.nc (h:ChW w0 p w V m):∀g,oB V.ca g->p≠g:=h.ca.ne h.box Dc
theorem ChW.ns (h:ChW w0 p w V m):∀g,oB V.sp g->p≠g:=by
 obtain⟨a,a,_⟩:=h.sp;exact a.ne h.box Dc
theorem ChW.fc (h:ChW w0 p w V m):∀g,oB V.f g->¬oB V.ca g:=h.fs.apart h.ca Dc
theorem ChW.fS (h:ChW w0 p w V m):∀g,oB V.f g->¬oB V.sp g:=by
 obtain⟨a,a,_⟩:=h.sp;exact h.fs.apart a Dc
theorem ChW.cS (h:ChW w0 p w V m):∀g,oB V.ca g->¬oB V.sp g:=by
 obtain⟨a,a,_⟩:=h.sp;exact h.ca.apart a Dc
theorem ChW.key (k:qD (Dw p V) w w1) (f:∀k,Dw p V' k->Dw p V k\/w.heap.size<=k) (a:qD (Dr w0.heap.size p V') w1 W):qD (Dr w0.heap.size p V) w W:=
 ⟨a.os.trans k.os,a.tape.trans k.tape,a.output.trans k.output,nT k.size a.size,fun b d c=>(a.block b (Yf d k.size) (fun e=>by
  rcases e with e|e
  ·exact c (.inl e)
  rcases f b e with e|e
  ·exact c (.inr e)
  omega)).trans (k.block b d (fun e=>c (.inr e)))⟩
theorem ChW.grOut (h:ChW w0 p w V m) (k:qD (Dw p V) w w1):zc w0 w1:=
 ⟨k.os.trans (Below.os h.gr),k.tape.trans (Below.tape h.gr),k.output.trans (Below.output h.gr),nT (bS h.gr) k.size,fun b a=>(k.block b (Yf a (bS h.gr)) (fun e=>Hm (h.dlo b e))).trans (Below.block h.gr b a)⟩
theorem Chg.refl (h:ChW w0 p w V m) (g:zc w w1):Chg w0 p w V m w1:=⟨V,h.grew g,qD.grew g,fun _ a=> .inl a⟩
theorem Chg.of_grew (g:zc w w1) (h:Chg w0 p w1 V m' w2):Chg w0 p w V m' w2:=by
 obtain⟨a,b,d,c⟩:=h;refine⟨a,b,(qD.grew g).trans d,fun k a=>?_⟩
 rcases c k a with e|e
 ·exact .inl e
 exact .inr (nT (bS g) e)
theorem Chg.step {b:MaV} (a:qD (Dw p V) w w1) (d:∀k,Dw p b k->Dw p V k\/w.heap.size<=k) (f:Chg w0 p w1 b m' w2):Chg w0 p w V m' w2:=by
 obtain⟨c,e,b,h⟩:=f;refine⟨c,e,⟨b.os.trans a.os,b.tape.trans a.tape,b.output.trans a.output,nT a.size b.size,fun c f g=>(b.block c (Yf f a.size) (fun e=>?_)).trans (a.block c f g)⟩,fun k b=>?_⟩
 ·rcases d c e with e|e
  ·exact g e
  omega
 rcases h k b with e|e
 ·exact d k e
 exact .inr (nT a.size e)
theorem Chg.far {a:MaV} (g:zc w w1) (d:∀k,Dw p a k->Dw p V k\/w1.heap.size<=k):∀k,Dw p a k->Dw p V k\/w.heap.size<=k:=fun k a=>(d k a).elim .inl fun e=> .inr (nT (bS g) e)
theorem zo.chg {cs:List Xq} (h:zo w b t cs) (k:qD (Dw p V) w w1) (a:¬Dw p V b):zo w1 b t cs:=h.outD k a
theorem ChW.field (h:ChW w0 p w V m) (k:zc w w1) (c:w1.grownBy w2 (Xa p)) (f:V'.f=V.f) (n:V'.ca=V.ca) (q:V'.sp=V.sp) (g:m'.fs=m.fs) (u:m'.ca=m.ca) (r:m'.sp=m.sp) (a:zo w2 p 91 (chL V' m')) (rs:∀W,qD (Dr w0.heap.size p V) w W->qD (Dr w0.heap.size p V) w1 W->zkG W V m->zkG W V' m'):Chg w0 p w V m' w2:=by
 have j:qD (Dw p V) w w2:=(qD.grew k).trans (qD.grown c (.inl rfl));have e:Dw p V'=Dw p V:=by unfold Dw;rw[f,n,q]
 have d:Dr w0.heap.size p V'=Dr w0.heap.size p V:=by unfold Dr;rw[e]
 obtain⟨i,x,b,y⟩:=h.sp;refine⟨V',⟨h.grOut j,h.lo,a,?_,?_,⟨i,?_,Rx r b,fun t z v s i W b=>?_⟩,fun W b=>?_⟩,j,fun l a=> .inl (by rw[e]at a;exact a)⟩
 ·rw[f,g];exact(h.fs.grew k).grown c (fun g f e=>h.nf g f (by cases e;rfl))
 ·rw[n,u];exact(h.ca.grew k).grown c (fun g f e=>h.nc g f (by cases e;rfl))
 ·rw[q];exact(x.grew k).grown c (fun g f e=>h.ns g f (by cases e;rfl))
 ·rw[d]at b;rw[r]at i;exact y t z v s i W ((j.wide fun l a=> .inr a).trans b)
 rw[d]at b;exact rs W ((j.wide fun l a=> .inr a).trans b) (((qD.grown c (.inr (.inl rfl)))).trans b) (h.rest W ((j.wide fun l a=> .inr a).trans b))
theorem ChW.setS (h:ChW w0 p w V m) {b:Sli} {a:List Int} (d:zc w w1) (f:qE slE w.heap.size w1 (b.x) a) (e:w1.grownBy w2 (Xa p)) (c:zo w2 p 91 (chL { V with s:=b } { m with sl:=a })):Chg w0 p w V { m with sl:=a } w2:=
 h.field (V':={ V with s:=b }) (m':={ m with sl:=a }) d e rfl rfl rfl rfl rfl rfl c (fun W _ a r=>⟨f.staysD h.drt W a,r.sb,r.sq,r.db,r.dq,r.fl⟩)
theorem ChW.setF (h:ChW w0 p w V m) {b:Sli} {fs:List Fr} {a:Int} (j:zc w w1) (l:zb qA w.heap.size w1 (b.x) fs) (d:w1.grownBy w2 (Xa p)) (c:zo w2 p 91 (chL { V with f:=b } { m with fs:=fs,hand:=a })):Chg w0 p w V { m with fs:=fs,hand:=a } w2:=by
 have i:qD (Dw p V) w w2:=(qD.grew j).trans (qD.grown d (.inl rfl));have e:=h.dlt p (.inl rfl);have a:∀k,Dw p { V with f:=b } k->Dw p V k\/w.heap.size<=k:=by
  rintro k (e|e|e|e)
  ·exact .inl (.inl e)
  ·exact .inr (l.lt k e).1
  ·exact .inl (.inr (.inr (.inl e)))
  exact .inl (.inr (.inr (.inr e)))
 obtain⟨r,k,n,q⟩:=h.sp;refine⟨{ V with f:=b },⟨h.grOut i,h.lo,c,(l.base (bS h.gr)).grown d (fun g c e=>?_),(h.ca.grew j).grown d (fun g c e=>h.nc g c (by cases e;rfl)),⟨r,(k.grew j).grown d (fun g c e=>h.ns g c (by cases e;rfl)),n,fun k x s j g W d=>q k x s j g W (ChW.key i a d)⟩,fun W d=>?_⟩,i,a⟩
 ·cases e;have:=(l.lt _ c).1;omega
 have r:=h.rest W (ChW.key i a d);exact⟨r.sl,r.sb,r.sq,r.db,r.dq,r.fl⟩
theorem ChW.cache (h:ChW w0 p w V m) {b:Sli} {l:List Ca} (j:qD (oB V.ca) w w1) (i:∀g,oB b g->oB V.ca g\/w.heap.size<=g) (r:zb jG w0.heap.size w1 (b.x) l) (c:w1.grownBy w2 (Xa p)) (n:zo w2 p 91 (chL { V with ca:=b } { m with ca:=l })):Chg w0 p w V { m with ca:=l } w2:=by
 have a:qD (Dw p V) w w2:=(j.wide fun k d=> .inr (.inr (.inl d))).trans (qD.grown c (.inl rfl))
 have d:∀k,Dw p { V with ca:=b } k->Dw p V k\/w.heap.size<=k:=by
  rintro k (e|e|e|e)
  ·exact .inl (.inl e)
  ·exact .inl (.inr (.inl e))
  ·rcases i k e with e|e
   ·exact .inl (.inr (.inr (.inl e)))
   exact .inr e
  exact .inl (.inr (.inr (.inr e)))
 have f:=h.dlt p (.inl rfl);have own:∀{f:Type} {E:Elt f} {s:Sli} {l:List f},zb E w0.heap.size w (s.x) l->(∀g,oB s g->¬oB V.ca g)->(∀g,oB s g->p≠g)->zb E w0.heap.size w2 (s.x) l:=fun f k q=>by
  refine zb.grown ⟨zcO f.1 j k,f.2⟩ c (fun g f e=>q g f (by cases e;rfl))
 obtain⟨t,j,k,q⟩:=h.sp;refine⟨{ V with ca:=b },⟨h.grOut a,h.lo,n,own h.fs h.fc h.nf,r.grown c (fun g f e=>?_),⟨t,own j (fun g c b=>h.cS g b c) h.ns,k,fun n x s k j W c=>q n x s k j W (ChW.key a d c)⟩,fun W c=>?_⟩,a,d⟩
 ·cases e
  rcases i _ f with e|e
  ·exact h.nc _ e rfl
  omega
 have r:=h.rest W (ChW.key a d c);exact⟨r.sl,r.sb,r.sq,r.db,r.dq,r.fl⟩
theorem ChW.setT (h:ChW w0 p w V m) {xs:List SpV} {q g:Nat} {x y:SpV} {s:Sp} {t:List (List En)} (s2:xs.length=m.sp.length) (s3:∀(i:Nat) x s,xs[i]? =Xa x->m.sp[i]? =Xa s->∀W,qD (Dr w0.heap.size p V) w W->jO W x s) (n:xs[q]? =Xa x) (l:m.sp[q]? =Xa s) (b:oB V.sp g)
  (f:zc w w1) (z:Qw 0 w.heap.size w1 us t) (a:w1.grownBy w2 (Xa g)) (v:zb ZC w0.heap.size w2 (V.sp.x) (xs.set q y)) (r:y.live=x.live/\y.ar=x.ar/\y.tab=us):Chg w0 p w V { m with sp:=m.sp.set q { s with tb:=t } } w2:=by
 have u:qD (Dr w0.heap.size p V) w1 w2:=qD.grown a (.inr (.inr (.inr (.inr b))));have d:qD (Dw p V) w w2:=(qD.grew f).trans (qD.grown a (.inr (.inr (.inr b))));have j:∀k,Dw p V k->Dw p V k\/w.heap.size<=k:=fun _ c=> .inl c
 refine⟨V,⟨h.grOut d,h.lo,(h.box.grew f).beside a (fun k e=>by cases e;exact h.ns g b),(h.fs.grew f).grown a (fun k c e=>by cases e;exact h.fS _ c b),(h.ca.grew f).grown a (fun k c e=>by cases e;exact h.cS _ c b),⟨xs.set q y,v,by simp[s2],fun i v f b a W c=>?_⟩,fun W c=>?_⟩,d,j⟩
 ·by_cases e:i=q
  ·subst e;rw[sF (gS.1 n).1]at b;have a:(m.sp.set i { s with tb:=t })[i]? =Xa f:=a;rw[sF (gS.1 l).1]at a;cases b;cases a;have k:=s3 i x s n l W (ChW.key d j c);obtain⟨n,l,A⟩:=r;refine⟨n.trans k.live,Rx l k.ar,Rx l k.cap,?_⟩
   rw[A];exact z.outD h.drt (u.trans c)
  rw[sN (fun h=>e h.symm)]at b
  have a:(m.sp.set q { s with tb:=t })[i]? =Xa f:=a;rw[sN (fun h=>e h.symm)]at a
  exact s3 i v f b a W (ChW.key d j c)
 have r:=h.rest W (ChW.key d j c);exact⟨r.sl,r.sb,r.sq,r.db,r.dq,r.fl⟩
end
theorem zoy.changeW {base p:Nat} {w:Xn} (h:zoy base w V m) (a:B<=base) (hp:w.heap.size<=p) (k:qD (Dr B p V) w W):zkG W V m/\∀(g:List SpV) (c:Nat->Nat),base<=c 0->(∀i,c i<=c (i+1))->(∀(i:Nat) x s,g[i]? =Xa x->m.sp[i]? =Xa s->Jv (c i) (c (i+1)) w x s)->∀(i:Nat) x s,g[i]? =Xa x->m.sp[i]? =Xa s->jO W x s:=by
 obtain⟨a,_,r,_⟩:=h.sp;have b:∀{e a n:Nat} {d:TypeId} {v:Xq} {g:List Xq},w.ownsRow e d a v n g->base<=e->ZC.ty≠d/\qA.ty≠d/\jG.ty≠d->W.ownsRow e d a v n g:=fun n d l=>zf8 n k fun a j a=>by
  obtain⟨f,f,f,f⟩:=zhE n j
  rcases a with a|a|a|a|a
  ·omega
  ·omega
  ·obtain⟨q,j⟩:=h.fs.obj a;rw[j]at f;cases f;exact l.2.1 rfl
  ·obtain⟨q,j⟩:=h.ca.obj a;rw[j]at f;cases f;exact l.2.2 rfl
  obtain⟨q,j⟩:=r.obj a;rw[j]at f;cases f;exact l.1 rfl
 have a:∀{j:Type} {E:Elt j} {e:Nat} {v:Xq} {f:List j},zb E e w v f->base<=e->ZC.ty≠E.ty/\qA.ty≠E.ty/\jG.ty≠E.ty->zb E e W v f:=fun n d l=>⟨b n.1 d l,n.2⟩
 obtain⟨n,⟨t,e,j,l,r⟩,q,f⟩:=h.fl;have f:jg n W (V.fl.x) m.fl:=⟨t,a e q Dc,j,fun i x j e n=>⟨(l i x j e n).1,a (l i x j e n).2 q Dc⟩,r⟩
 have d:=nR base;refine⟨⟨(a h.sl d Dc).at,zh.at ⟨b h.sb.1 d Dc,h.sb.2⟩,zt.at ⟨b h.sq.1 d Dc,h.sq.2⟩,zh.at ⟨b h.db.1 d Dc,h.db.2⟩,zt.at ⟨b h.dq.1 d Dc,h.dq.2⟩,f.new.now0⟩,fun g c f g d i x s e h=>?_⟩
 have b:=d i x s e h;have d:=nT f (zeZ g (nZ i));have f:Jv (c i) (c (i+1)) W x s:=⟨b.live,a b.ar d Dc,⟨b.tb.len,b.tb.tlen,fun j v y c e=>a (b.tb.row j v y c e) d Dc,b.tb.two⟩,b.arh,b.tbh⟩
 exact f.at
theorem zco (V m w) (c:zy w V m):
  Xp prog 25 #[Xi (mL V m).toArray] w fun e w'=>∃(p:Nat) (V':MaV),e= Xl (Xj (Xa ⟨p,0,Xb⟩))/\ChW w p w' V' m:=by
 obtain⟨d,a⟩:=kB (w.alloc (Xk (mL V m).toArray 41));have f:=gA a
 have g:=xA a
 have b:=dD a;clear a;have a:=zne V m d (c.grew f);clear c
 go_enter func25,ntmps25
 go_upto_region 1 with fail;rw[b.out];obtain⟨c,d,h,i,j,k,l,n,q,r,b⟩:=g.c11;go_wp2_with fail;refine a.mono ?_;clear a c d h i j k l n q r b;rintro e d ⟨V',rfl,h,a⟩;have g:=dD (f.trans a);have c:=dD h;have b:=dD<|bS f.out
 clear h a;have h:Xo (ChW w d.heap.size (d.alloc (Xk (chL V' m).toArray 91)) V' m):=dD<|by
  have a:zc d (d.alloc (Xk (chL V' m).toArray 91)):=za _ _;obtain⟨f,B,d,i,k,l,n⟩:=c.sp;refine⟨g.trans a,bS g,zo.top _ _ _ rfl,(c.fs.grew a).base b,(c.ca.grew a).base b,⟨f,(d.grew a).base b,i,fun j x s i g W d=>(c.changeW b (nR _) ((qD.grew a).trans d)).2 f B k l n j x s i g⟩,fun W d=>(c.changeW b (nR _) ((qD.grew a).trans d)).1⟩
 go_wp2;go_ret;exact⟨_,V',rfl,h⟩
theorem zdE (V m) (a:Ar) (n:Nat) (e:En) (w) (a9:zy w V m) (ar:jQ a) (av:n<=64) (bg:0<=e.n) (b:zdW m a n e=0):
  Xp prog 81 #[Xi (mL V m).toArray,Xi #[I6 a.fr,I6 a.tz,Xh a.rd,Xh a.wr,Xh a.sh,I6 a.file,I6 a.base],I6 (n:Int),Xi #[I6 e.kind,I6 e.n,Xh e.wr]] w fun e' w'=>e'= Xl (I6 0)/\zc w w':=by
 obtain⟨aa,ab,-⟩:=a9.ns;have u:(0<=a.base/\a.base<=100)/\(0<=a.fr/\a.fr<=100):=by
  obtain⟨bp,bq,br,bs,bt,bu,be,bf⟩:=ar
  by_cases bh:a.file<0
  ·have:=be bh;omega
  have:=bf Wm;omega
 have y:Xo (∀(q:Fr) W,Xp prog 119 #[Xi (frv q).toArray,Xi #[I6 a.fr,I6 a.tz,Xh a.rd,Xh a.wr,Xh a.sh,I6 a.file,I6 a.base],I6 (n:Int)] W fun e w'=>e= Xl (Xh (Qp q a n))/\zc W w'):=dD<|fun q W=>zhH q a n W u.1 u.2 av
 have z:Xo (∀(q:Fr) W,Xp prog 120 #[Xi (frv q).toArray,Xi #[I6 a.fr,I6 a.tz,Xh a.rd,Xh a.wr,Xh a.sh,I6 a.file,I6 a.base]] W fun e w'=>e= Xl (Xh (Zi q a))/\zc W w'):=dD<|fun q W=>zgj q a W
 have bl:=dD ab.symm;have ay:=dD aa.symm;have P:=dD a9.frs;have al:Xo (zdW m a n e=if e.kind=2 then(if(V.s.n:Int)<=e.n\/a.sh=Xc then 7 else 0)else if(V.f.n:Int)<=e.n then 3 else if Qp (zU m e.n) a n=Xd\/(e.wr=Xc/\Zi (zU m e.n) a=Xd)then 7 else 0):=show _=_ by
  unfold zdW;rw[aa,ab]
 rw[al.out]at b;clear a9 ar u aa ab av;have D:zc w (((w.alloc (Xk (mL V m).toArray 41)).alloc (Xk #[I6 a.fr,I6 a.tz,Xh a.rd,Xh a.wr,Xh a.sh,I6 a.file,I6 a.base] 105)).alloc (Xk #[I6 e.kind,I6 e.n,Xh e.wr] 75)):=((za _ _).trans (za _ _)).trans (za _ _);have c:=dD D;clear D
 by_cases v:e.kind=2
 ·have F:(e.kind == 2)=Xc:=by simp[v]
  rw[kE v]at b;clear v;have a6:¬(V.s.n:Int)<=e.n:=fun a5=>by rw[kE (.inl a5)]at b;exact absurd b Dc
  have aw:a.sh=Xd:=by
   cases C:a.sh
   ·rfl
   rw[kE (.inr C)]at b;exact absurd b Dc
  rw[aw]at c y z;rw[aw];clear b
  go_enter func81,ntmps81
  go_wp2;go_ret;exact⟨rfl,c⟩
 have F:(e.kind == 2)=Xd:=by simp[v]
 rw[kF v]at b;clear v;have a6:¬(V.f.n:Int)<=e.n:=fun a5=>by rw[kE a5]at b;exact absurd b Dc
 rw[kF a6]at b;obtain⟨ap,aq,L⟩:=e;simp only at bg F a6 b al c⊢;obtain⟨l,rfl⟩:∃l:Nat,aq=(l:Int):=⟨aq.toNat,Wm⟩
 have a8:l<V.f.n:=Wm
 obtain⟨q,ak⟩:∃q,Xo (m.fs[l]? =Xa q):=⟨_,gE (Rx ay.out a8)⟩
 have E:zU m (l:Int)=q:=by unfold zU;rw[tN,gD,ak.out];rfl
 rw[E]at b;clear E;obtain⟨ao,K,au⟩:=P.out l q ak.out;(try simp only[mL,Sli.x]at c P⊢);rw[K]at c P⊢;clear K;obtain⟨p,d⟩:=kB (((w.alloc (Xk #[O (Xa ao) V.f.n V.f.c,I6 m.hand,V.s.x,V.sb.x,V.sq.x,V.db.x,V.dq.x,V.fl.x,I6 m.cnt,V.ca.x,V.sp.x] 41)).alloc (Xk #[I6 a.fr,I6 a.tz,Xh a.rd,Xh a.wr,Xh a.sh,I6 a.file,I6 a.base] 105)).alloc (Xk #[I6 ap,I6 (l:Int),Xh L] 75));rw[d]at c;have b0:Xo (Box p (w.heap.size+1) [I6 a.fr,I6 a.tz,Xh a.rd,Xh a.wr,Xh a.sh,I6 a.file,I6 a.base]):=dD<|by rw[<-d];exact(Box.top _ _ _ Sm).alloc _
 have an:Xo (Box p (w.heap.size+1+1) [I6 ap,I6 (l:Int),Xh L]):=dD<|by rw[<-d];exact Box.top _ _ _ Sm
 have az:Xo (Box p w.heap.size [O (Xa ao) V.f.n V.f.c,I6 m.hand,V.s.x,V.sb.x,V.sq.x,V.db.x,V.dq.x,V.fl.x,I6 m.cnt,V.ca.x,V.sp.x]):=dD<|by rw[<-d];exact((Box.top _ _ _ rfl).alloc _).alloc _
 have bi:=az.c 0 rfl;have bj:=an.c 1 rfl;have B:Xo (p.heap.size=w.heap.size+1+1+1):=dD<|by rw[<-d];simp
 obtain⟨b3,b4,b5,b6,b7,b8,b9,ba,bb,bc,R,S,T⟩:=au p c.out;have Q:Xo (_=p):=d;clear d au;have G:Qp q a n=Xc:=by
  cases C:Qp q a n
  ·rw[kE (.inl C)]at b;exact absurd b Dc
  rfl
 have A:Xo (L=Xc->Zi q a=Xc):=dD<|fun bd=>by
  cases C:Zi q a
  ·rw[kE (.inr ⟨bd,C⟩)]at b;exact absurd b Dc
  rfl
 clear b;have j:=y.out q;rw[G]at j;have ax:=dD j
 clear j;clear G
 go_enter func81,ntmps81
 go_upto_region 7 with fail;rw[Q.out];go_upto_region 8 with fail;obtain⟨bm,h⟩:=kB (p.alloc (Xk #[U8 q.p.b0,U8 q.p.b1,U8 q.p.b2,U8 q.p.b3,U8 q.p.b4,U8 q.p.b5,U8 q.p.b6,U8 q.p.b7,I6 q.r,Xh q.u,Xh q.d,I6 q.f,I6 q.x] 62));have N:=gT h c
 have am:=yA h b0
 have b2:=yA h an
 have f:=xP h B
 rw[h,B.out];clear h bi bj b3 b4 b5 b6 b7 b8 b9 ba bb bc R S T;obtain⟨ac,ae,af,ag,ah,ai,aj⟩:=am.c7;have U:=f.c 0 rfl;have X:=f.c 1 rfl;have Y:=f.c 2 rfl;have Z:=f.c 3 rfl;have I:=f.c 4 rfl;have a0:=f.c 5 rfl;have a1:=f.c 6 rfl;have a2:=f.c 7 rfl;have a3:=f.c 8 rfl;have a4:=f.c 9 rfl;have r:=f.c 10 rfl;have s:=f.c 11 rfl;have t:=f.c 12 rfl;go_wp2_with fail;refine(ax _).mono ?_;clear ac ae af ag ah ai aj U X Y Z I a0 a1 a2 a3 a4 r s t;rintro e bn ⟨rfl,i⟩;have x:=dD (N.trans i);have b1:=am.grew i;have bk:=(b2.grew i).c 2 rfl;have g:=f.grew i;clear i
 cases L with
 | false=>
  go_wp2;go_ret;exact⟨rfl,x⟩
 | true=>
 have H:=A.out rfl;have k:=z.out q;rw[H]at k;have M:=dD k
 clear k;clear H;obtain⟨ac,ae,af,ag,ah,ai,aj⟩:=b1.c7;have U:=g.c 0 rfl;have X:=g.c 1 rfl;have Y:=g.c 2 rfl;have Z:=g.c 3 rfl;have I:=g.c 4 rfl;have a0:=g.c 5 rfl;have a1:=g.c 6 rfl;have a2:=g.c 7 rfl;have a3:=g.c 8 rfl;have a4:=g.c 9 rfl;have r:=g.c 10 rfl;have s:=g.c 11 rfl;have t:=g.c 12 rfl
 go_wp2_with (go_at_call 120;refine(M _).mono ?_;clear ac ae af ag ah ai aj U X Y Z I a0 a1 a2 a3 a4 r s t bk;rintro e bo ⟨rfl,a7⟩)
 go_ret;exact⟨rfl,x.trans a7⟩
theorem zdD (V m w) (ah:zy w V m) (cr:zjc m) (cs:zmH m) (cq:zfM m=0):
  Xp prog 44 #[Xi (mL V m).toArray] w fun e w'=>e= Xl (I6 0)/\zc w w':=by
 have a7:=dD<|fun (a:Ar) (n:Nat) (e:En) W (a9:zc w W) (dr:jQ a) (bj:n<=64) (ds:0<=e.n)=>zdE V m a n e W (ah.grew a9) dr bj ds
 have b6:=dD cr.mem;have b8:=dD cs;obtain⟨aw,ax,L,M,G,H,K,F,⟨ar,d,E⟩⟩:=V;dsimp only[mL]at a7⊢;obtain⟨-,-,-,-,-,-,-,-,cc⟩:=ah.ns;dsimp only at cc;obtain⟨eb,ap,S,al⟩:=ah.spaces;have bd:=dD ap;have cy:=dD S;have ba:=dD al;have cj:=dD cc.symm;have ct:d<=9223372036854775807:=by
  obtain⟨ek,dy,ef,_⟩:=ah.sp;have:=dy.short;omega
 have b0:Xo (∀s∈m.sp,∀n∈qU s,Jm m (zB s.ars n) (zm s n)=0):=dD<|fun s dw n bj=>zi.1 ((zhp m s).symm.trans (zi.1 cq _ (Oi dw))) _ (Oi bj)
 clear ah ap S al cc cr cs cq;obtain⟨ec,C⟩:=kB (w.alloc (Xk #[aw.x,I6 m.hand,ax.x,L.x,M.x,G.x,H.x,K.x,I6 m.cnt,F.x,O ar d E] 41));have b2:=gA C
 have cn:=xA C
 have bc:=dD C;clear C
 go_enter func44,ntmps44
 go_upto_region 1 with fail;rw[bc.out];have ch:=cn.c 10 rfl;go_wp2;clear ch
 go_loopg [12] d (fun bf ce wr=>∃f:Nat,f<=d/\d - f<=bf/\ce=I6 f/\Xo (zc w wr)/\Xo (Box wr w.heap.size [aw.x,I6 m.hand,ax.x,L.x,M.x,G.x,H.x,K.x,I6 m.cnt,F.x,O ar d E]))
 exact⟨0,nZ _,Wm,rfl,b2,cn⟩
 obtain⟨f,du,dt,rfl,g,dc⟩:=hrel
 by_cases D:f<d
 ·have ag:=kC D
  obtain⟨s,b9⟩:∃s,Xo (m.sp[f]? =Xa s):=⟨_,gE (Rx cj.out D)⟩
  obtain⟨x,cl⟩:∃x,Xo (eb[f]? =Xa x):=⟨_,gE (by rw[bd.out,cj.out];exact D)⟩
  have h:=dD<|ba.out f x s cl b9.out;obtain⟨Q,R⟩:=b8.out s (mG b9);have a1:=dD<|(jq.1 Q).2;have bb:=dD R;have ay:=dD h.ar.n.symm;have az:Xo (zmP w x.ar.a s.ars):=show zmP _ _ _ by
   obtain⟨_,_,aq,cd⟩:=h.ar.ars;simp only[vJ]at aq;rw[aq.1];exact cd
  clear Q R;obtain⟨cp,rfl,q⟩:=cy.out f x cl.out;obtain⟨df,dg,dh,di,dj,dk,dl,dm,dn,dp⟩:=q wr g.out;clear q;go_upto_region 4 with fail;obtain⟨cz,j⟩:=kB (wr.alloc (Xk #[Xh x.live,x.ar.x,x.t0.x,x.t1.x,x.t2.x,x.t3.x,x.t4.x,x.t5.x,x.t6.x,x.t7.x] 79));have a4:=gT j g
  have db:=yA j dc
  have t:=xA j
  rw[j];clear j df dg dh di dj dk dl dm dn dp;obtain⟨eh,b7⟩:=kA wr.heap.size;rw[b7.out]at t⊢;have l:=zav x.tab s.tb cz (h.grew a4).tb
  have e2:=t.c 2 rfl;have e3:=t.c 3 rfl;have e4:=t.c 4 rfl;have e5:=t.c 5 rfl;have e6:=t.c 6 rfl;have e7:=t.c 7 rfl;have e8:=t.c 8 rfl;have e9:=t.c 9 rfl;go_wp2_with fail;refine l.mono ?_;clear l e2 e3 e4 e5 e6 e7 e8 e9;rintro be da ⟨ej,rfl,Z,p⟩;have v:=dD (a4.trans p);have co:=dD (db.grew p);have cm:=dD (t.grew p);clear p;obtain⟨eg,ei,rfl,aj⟩:=Z.at.nums;have ak:=Z.at.short;have a6:=dD aj;rw[Q0,Oc]at ak⊢;rw[Q0]at a6;clear Z aj;obtain⟨I,ck⟩:=kA ((qU s).length);rw[ck.out]at ak⊢;go_wp2;have cx:=dD g
  go_loopg [20] I (fun bf cf wr=>∃u:Nat,u<=I/\I - u<=bf/\cf=I6 u/\Xo (zc da wr))
  exact⟨0,nZ _,Wm,rfl,zc.refl _⟩
  obtain⟨u,ee,p,rfl,g⟩:=hrel
  by_cases r:u<I
  ·have X:=kC r
   obtain⟨n,T⟩:∃n,Xo ((qU s)[u]? =Xa n):=⟨_,gE (Rx ck.out r)⟩
   have ai:=zf5 T.out;obtain⟨de,rfl,af⟩:=a6.out u (n:Int) (by rw[Yg,T.out];rfl)
   have dq:=af wr g.out;clear af;have ab:=b0.out s (mG b9) n (mG T);have a2:=dD ab;clear ab;have b4:=dD (v.trans g);have aa:=znY (x.ar.x) s.ars (n:Int) wr (h.ar.grew b4);have e1:=(cm.grew g).c 1 rfl;go_wp2_with fail;refine aa.mono ?_;clear aa dq e1;rintro be N ⟨⟨cv,rfl,cu⟩,ac⟩;have a3:=dD cu;have z:=dD (g.trans ac);have b:=dD (v.trans z);clear ac cu;have dx:¬cv<0:=fun av=>by
    have:=znX a3.out;rw[decide_eq_false Wm]at this
    have bg:=a2.out;unfold Jm at bg;rw[kE this.symm]at bg;exact absurd bg Dc
   obtain⟨k,a,rfl,A,b5⟩:∃(k:Nat) (a:Ar),cv=(k:Int)/\Xo (s.ars[k]? =Xa a)/\Xo (inZ a (n:Int)=Xc):=by
    rcases a3 with⟨k,a,aq,cd,dz⟩|⟨aq,_⟩
    ·exact⟨k,a,aq,cd,dz⟩
    omega
   have a0:=dD<|zmt a1 A.out;have dv:k<x.ar.n:=by rw[<-ay.out];exact(gS.1 A).1
   have b1:Xo (zdW m a n (zm s n)=0):=dD<|by rw[<-a2.out,zgb a1.out A.out b5.out,zkW b6.out a0.out]
   have P:=(Qr (zpa bb n)).2.1.1;have a8:Xo (∀W,zc w W->Xp prog 81 #[Xi #[aw.x,I6 m.hand,ax.x,L.x,M.x,G.x,H.x,K.x,I6 m.cnt,F.x,O (Xa cp) d E],Xi #[I6 a.fr,I6 a.tz,Xh a.rd,Xh a.wr,Xh a.sh,I6 a.file,I6 a.base],I6 (n:Int),enV (zm s n)] W fun be w'=>be= Xl (I6 0)/\zc W w'):=dD<|fun W a9=>a7.out a n (zm s n) W a9 a0 Wm P b1.out
   have b3:Xo (∀W,zc w W->Xp prog 82 #[Xi #[x.t0.x,x.t1.x,x.t2.x,x.t3.x,x.t4.x,x.t5.x,x.t6.x,x.t7.x],I6 (n:Int)] W fun e w'=>e= Xl (enV (zm s n))/\zc W w'):=dD<|fun W a9=>by
    have:=JQ x.tab s.tb (n:Int) W (h.grew a9).tb;rw[ziS ai]at this;exact this
   clear P;go_upto_region 10 with fail;obtain⟨c,am,q⟩:=az.out k a A.out;have i:=dD (co.grew z);have B:=dD (cm.grew z);have bu:=i.gw 0 rfl
   have bv:=i.gw 1 rfl
   have bw:=i.gw 2 rfl
   have bx:=i.gw 3 rfl
   have bz:=i.gw 4 rfl
   have c0:=i.gw 5 rfl
   have c1:=i.gw 6 rfl
   have c2:=i.gw 7 rfl
   have c3:=i.gw 8 rfl
   have c4:=i.gw 9 rfl
   have ao:=i.gw 10 rfl
   have Y:=B.gw 1 rfl
   have bl:=B.gw 2 rfl
   have bm:=B.gw 3 rfl
   have bn:=B.gw 4 rfl
   have bo:=B.gw 5 rfl
   have bp:=B.gw 6 rfl
   have bq:=B.gw 7 rfl
   have br:=B.gw 8 rfl
   have bs:=B.gw 9 rfl
   (try simp only[Sli.x]at Y);rw[am]at Y;have c5:∀y:ze N,y.world.cell? (c.add (k*7))=Xa (I6 a.fr):=fun y=>(q _ (b.trans y.grew)).1
   have c6:∀y:ze N,y.world.cell? { block:=(c.add (k*7)).block,off:=(c.add (k*7)).off+1 }=Xa (I6 a.tz):=fun y=>(q _ (b.trans y.grew)).2.1
   have c7:∀y:ze N,y.world.cell? { block:=(c.add (k*7)).block,off:=(c.add (k*7)).off+2 }=Xa (Xh a.rd):=fun y=>(q _ (b.trans y.grew)).2.2.1
   have c8:∀y:ze N,y.world.cell? { block:=(c.add (k*7)).block,off:=(c.add (k*7)).off+3 }=Xa (Xh a.wr):=fun y=>(q _ (b.trans y.grew)).2.2.2.1
   have c9:∀y:ze N,y.world.cell? { block:=(c.add (k*7)).block,off:=(c.add (k*7)).off+4 }=Xa (Xh a.sh):=fun y=>(q _ (b.trans y.grew)).2.2.2.2.1
   have ca:∀y:ze N,y.world.cell? { block:=(c.add (k*7)).block,off:=(c.add (k*7)).off+5 }=Xa (I6 a.file):=fun y=>(q _ (b.trans y.grew)).2.2.2.2.2.1
   have cb:∀y:ze N,y.world.cell? { block:=(c.add (k*7)).block,off:=(c.add (k*7)).off+6 }=Xa (I6 a.base):=fun y=>(q _ (b.trans y.grew)).2.2.2.2.2.2
   have bk:Nonempty (ze N):=⟨⟨_,zc.refl _⟩⟩;clear q am;refine ju [(10,⟨fun au=>au=enV (zm s n),fun au w'=>True⟩),(11,⟨fun au=>au=I6 0,fun au w'=>True⟩)] z6 Kr (Sb ⟨_,rfl⟩ ⟨_,rfl⟩) ?hp ?_
   case hp=>
    intro x an;simp only[mC,nM,or_false]at an
    rcases an with rfl|rfl
    ·exact fun _ _ _ _ av=>av
    exact fun _ _ _ _ av=>av
   iterate 10 refine zg ?_
   refine zx rfl rfl (fun w' bi bh=>?_) (fun ea bt=>?_)
   ·refine zJ.call [Xi #[x.t0.x,x.t1.x,x.t2.x,x.t3.x,x.t4.x,x.t5.x,x.t6.x,x.t7.x],I6 (n:Int)] rfl func82 rfl rfl rfl ?_;refine(b3 w' (b.trans bi)).mono ?_;rintro e cg ⟨rfl,U⟩;exact⟨_,rfl,U,rfl,trivial⟩
   subst bt;refine Uq ?_;refine zx rfl rfl (fun w' bi bh=>?_) (fun ea bt=>?_)
   ·refine zJ.call [Xi #[aw.x,I6 m.hand,ax.x,L.x,M.x,G.x,H.x,K.x,I6 m.cnt,F.x,O (Xa cp) d E],Xi #[I6 a.fr,I6 a.tz,Xh a.rd,Xh a.wr,Xh a.sh,I6 a.file,I6 a.base],I6 (n:Int),enV (zm s n)] rfl func81 rfl rfl rfl ?_;refine(a8 w' (b.trans bi)).mono ?_;rintro e cg ⟨rfl,U⟩;exact⟨_,rfl,U,rfl,trivial⟩
   subst bt;refine Uq ?_;refine zg ?_
   refine qd fun ed ae bh=>?_
   have a5:=dD (z.trans ae);have ci:=dD (v.trans a5);clear ae bh bu bv bw bx bz c0 c1 c2 c3 c4 ao Y bl bm bn bo bp bq br bs c5 c6 c7 c8 c9 ca cb bk;go_wp2
   go_roundg (I -(u+1));exact⟨u+1,Wm,Wm,Gn,a5⟩;omega
  have X:=kD r
  have:u=I:=Wm
  subst this;have dd:=dD (co.grew g);have cw:=dD (v.trans g);go_wp2
  go_roundg (d -(f+1));exact⟨f+1,Wm,Wm,Gn,cw,dd⟩;omega
 have ag:=kD D
 have:f=d:=Wm
 subst this;go_wp2;go_ret;exact⟨rfl,g⟩
theorem zeF (a w) (k:frW a=0):Xp prog 102 #[Xi (frv a).toArray] w fun e w'=>e= Xl (I6 0)/\zc w w':=by
 obtain⟨⟨n,p,q,s,t,u,v,y⟩,r,B,z,h,x⟩:=a
 show Xp prog 102 #[Xi #[U8 n,U8 p,U8 q,U8 s,U8 t,U8 u,U8 v,U8 y,I6 r,Xh B,Xh z,I6 h,I6 x]] w _
 cases b:inB r 1001 with
 | false=>simp[frW,b]at k
 | true=>
 cases d:inB x 12 with
 | false=>simp[frW,b,d]at k
 | true=>
 by_cases l:h=-1
 ·have f:(h == -1)=Xc:=by simp[l]
  have i:(h != -1)=Xd:=by simp[l]
  by_cases m:r=0
  ·have c:(r == 0)=Xc:=by simp[m]
   cases g:Qf (⟨⟨n,p,q,s,t,u,v,y⟩,r,B,z,h,x⟩:Fr) frF with
   | false=>simp[frW,b,d,f,c,g]at k
   | true=>
    have j:x=0:=by have:=zcl g;simp only[frF,Fr.mk.injEq]at this;exact this.2.2.2.2.2
    exact wf7 _ _ _ _ _ _ _ _ _ _ _ _ _ w b d i f c g (by simp[j])
  have c:(r == 0)=Xd:=by simp[m]
  by_cases j:x=0
  ·exact wf9 _ _ _ _ _ _ _ _ _ _ _ _ _ w b d i f c (by simp[j])
  have A:(x == 0)=Xd:=by simp[j]
  simp[frW,b,d,f,c,A]at k
 have f:(h == -1)=Xd:=by simp[l]
 have i:(h != -1)=Xc:=by simp[l]
 cases j:inB h 5 with
 | false=>simp[frW,b,d,f,j]at k
 | true=>
  by_cases m:r=0
  ·have c:(r == 0)=Xc:=by simp[m]
   have g:Qf (⟨⟨n,p,q,s,t,u,v,y⟩,r,B,z,h,x⟩:Fr) frF=Xd:=by
    refine znQ fun h=>?_
    simp only[frF,Fr.mk.injEq]at h;exact l h.2.2.2.2.1
   simp[frW,b,d,f,j,c,g]at k
  have c:(r == 0)=Xd:=by simp[m]
  exact wf5 _ _ _ _ _ _ _ _ _ _ _ _ _ w b d i f j c
theorem zlW:∀{fs:List Fr},zbU fs=0->∀f∈fs,frW f=0
 | [],_,_,a=>by cases a
 | g :: fs,h,f,a=>by
  unfold zbU at h
  by_cases b:frW g=0
  ·rw[kE b]at h
   rcases mC.1 a with rfl|a
   ·exact b
   exact zlW h f a
  rw[kF b]at h;exact absurd h b
theorem QU (a) (c:Nat) (fs:List Fr) (h:Int) (w) (g:zl qA w (O a fs.length c) fs) (i:Zt fs h=0):
  Xp prog 71 #[Xi #[O a fs.length c,I6 h]] w fun e w'=>e= Xl (I6 0)/\zc w w':=by
 have d:=g.short;obtain⟨b,b,f,b⟩:=g.frs;cases f;have r:=dD b;clear b g;have b:Zt fs h=if 40<fs.length then 4 else if zbU fs=0 then(if inB h (max fs.length 1)then 0 else 3)else zbU fs:=rfl;rw[i]at b;obtain⟨n,k⟩:=kA fs.length;rw[k.out]at d b⊢;have d:¬40<n:=fun e=>by rw[kE e]at b;cases b
 rw[kF d]at b;have p:Xo (∀f∈fs,frW f=0):=dD<|zlW (Decidable.byContradiction fun e=>e (by rw[kF e]at b;exact b.symm))
 have g:zbU fs=0:=Decidable.byContradiction fun e=>e (by rw[kF e]at b;exact b.symm)
 rw[kE g]at b;have f:inB h (max n 1)=Xc:=by
  cases e:inB h (max n 1)with
  | true=>rfl
  | false=>rw[e]at b;cases b
 clear b g i;have b:¬(40:Int)< (n:Int):=Wm
 have j:Xo (∀W,Xp prog 103 #[I6 h,I6 (max (n:Int) 1)] W fun e w'=>e= Xl (Xh Xc)/\w'=W):=dD<|fun W=>by
  have b:=Zb h (max (n:Int) 1) W;rw[show inB h (max (n:Int) 1)=inB h (max n 1) by simp,f]at b
  exact b
 clear f;obtain⟨g,b⟩:=kB (w.alloc (Xk #[O a n c,I6 h] 28));have h:=gA b
 have m:=xA b
 have f:=dD b;clear b d
 go_enter func71,ntmps71
 go_wp2;rw[f.out]
 go_loopg [13] n (fun f d wr=>∃b:Nat,b<=n/\n - b<=f/\d=I6 b/\Xo (zc g wr))
 exact⟨0,nZ _,Wm,rfl,zc.refl _⟩
 obtain⟨b,d,d,rfl,g⟩:=hrel
 by_cases f:b<n
 ·have i:=kC f
  obtain⟨q,l⟩:∃q,Xo (fs[b]? =Xa q):=⟨_,gE (Rx k.out f)⟩
  obtain⟨d,rfl,k⟩:=r.out b q l.out;obtain⟨d,d,d,d,d,d,d,d,d,d,d,d,d⟩:=k wr (h.trans g);have d:=fun W=>zeF q W (p q (mG l))
  clear k
  go_wp2_with (go_at_call 102;refine(d _).mono ?_;rintro e w' ⟨rfl,d⟩)
  go_roundg (n -(b+1));exact⟨b+1,Wm,Wm,Gn,(g.trans (za _ _)).trans d⟩;omega
 have i:=kD f
 have:b=n:=Wm
 subst this;have b:=(m.grew g).c 0 rfl;have b:=(m.grew g).c 1 rfl;have b:=j.out
 go_wp2_with (go_at_call 103;refine(b _).mono ?_;rintro e w' ⟨rfl,rfl⟩)
 go_ret;exact⟨rfl,h.trans g⟩
theorem zdp (h:zas m=0):(∀k:Nat,k<m.fs.length->frE m k=0)/\∀k:Nat,k<m.sl.length->zjq m k=0:=by
 have a:∀(f:Nat->Int) (n:Nat),zw ((Ys n).map f)=0->∀k,k<n->f k=0:=fun f n b k c=>zi.1 b _ (Ym.2 ⟨k,Yi.2 c,rfl⟩)
 unfold zas at h
 by_cases b:zw ((Ys m.fs.length).map (fun k=>frE m k))=0
 ·rw[kE b]at h;exact⟨a _ _ b,a _ _ h⟩
 rw[kF b]at h;exact absurd h b
theorem zdF (V) (m:Ma) (w) (a3:zy w V m) (b2:zbf m Xb m.ca=0) (a9:m.sp.length<=4) (b9:∀s∈m.sp,tbW s.tb=0) (ck:zas m=0):
  Xp prog 45 #[Xi (mL V m).toArray] w fun e w'=>e= Xl (I6 0)/\zc w w':=by
 have au:=dD<|fun W (a6:zc w W)=>zeJ V m W (a3.grew a6)
 have ar:=dD<|fun W (a6:zc w W)=>zhN V m W (a3.grew a6) a9 b9
 have aq:=dD<|fun (B:Nat) (k:Nat) W (a6:zc w W) (b5:k<m.fs.length) (ay:Qx plK W B (zaB m.ca))=>zfg V m B k (zaB m.ca) W (a3.grew a6) b5 ay
 obtain⟨⟨a4,j,S⟩,⟨U,n,X⟩,g,i,c,d,f,b,h⟩:=V;dsimp only[mL]at au ar aq⊢;obtain⟨cn,co,-⟩:=a3.ns;dsimp only at cn co;have c3:=dD a3.frs;have cb:=dD a3.sls;have c7:=dD cn.symm;have c8:=dD co.symm;have e4:j<=9223372036854775807:=Hm a3.fs.short
 have e5:n<=9223372036854775807:=Hm a3.sl.short
 have c2:Xo (∀k:Nat,k<m.fs.length->(zU m k).r=qy m m.sp.length [] zdZ (1,(k:Int))/\(0<=(zU m k).f->zaB m.ca ((zU m k).f,(zU m k).x)=Xa (k:Int))):=dD<|fun k b5=>by
  have l:=(zdp ck).1 k b5;rw[znR b2 k]at l
  by_cases ao:(zU m k).r≠qy m m.sp.length [] zdZ (1,(k:Int))\/(0<=(zU m k).f/\¬zaB m.ca ((zU m k).f,(zU m k).x)=Xa (k:Int))
  ·rw[kE ao]at l;cases l
  exact⟨Decidable.byContradiction fun e=>ao (.inl e),fun e=>Decidable.byContradiction fun dv=>ao (.inr ⟨e,dv⟩)⟩
 have ca:Xo (∀k:Nat,k<m.sl.length->m.sl.getD k 0=qy m m.sp.length [] zdZ (2,(k:Int))):=dD<|fun k b5=>by
  have l:=(zdp ck).2 k b5;rw[zk4 m k]at l
  by_cases ao:m.sl.getD k 0≠qy m m.sp.length [] zdZ (2,(k:Int))
  ·rw[kE ao]at l;cases l
  exact Decidable.byContradiction ao
 clear a3 b2 a9 b9 cn co ck;obtain⟨di,a0⟩:=kB (w.alloc (Xk #[O a4 j S,I6 m.hand,O U n X,g.x,i.x,c.x,d.x,f.x,I6 m.cnt,b.x,h.x] 41));have I:=gA a0
 have A:=xA a0
 have cc:=dD a0;clear a0
 go_enter func45,ntmps45
 go_upto_region 1 with fail;rw[cc.out];have ba:=A.gw 0 rfl
 have bb:=A.gw 1 rfl
 have bc:=A.gw 2 rfl
 have bd:=A.gw 3 rfl
 have be:=A.gw 4 rfl
 have bf:=A.gw 5 rfl
 have bg:=A.gw 6 rfl
 have bh:=A.gw 7 rfl
 have bi:=A.gw 8 rfl
 have bj:=A.gw 9 rfl
 have aa:=A.gw 10 rfl
 have P:Nonempty (ze di):=⟨⟨_,zc.refl _⟩⟩;refine jb 5 [(1,⟨fun r=>∃B,r= Xi #[O a4 j S,I6 m.hand,O U n X,g.x,i.x,c.x,d.x,f.x,I6 m.cnt,b.x,h.x,.map (Xa B)],fun r w'=>∃B,r= Xi #[O a4 j S,I6 m.hand,O U n X,g.x,i.x,c.x,d.x,f.x,I6 m.cnt,b.x,h.x,.map (Xa B)]/\Qx plK w' B (zaB m.ca)⟩),(3,⟨fun r=>∃B,r= .map (Xa B),fun r w'=>∃B,r= .map (Xa B)/\Jy enK w' B (qy m m.sp.length [] zdZ)⟩),(4,⟨fun r=>∃R,r= Xj (Xa ⟨R,0,Xb⟩),fun r w'=>∃R,r= Xj (Xa ⟨R,0,Xb⟩)/\Box w' R [eS,I6 0,eS,eS,eS,eS,eS,eS,I6 0,eS,eS,.map Xb]/\w.heap.size<=R⟩)] z6 Kr rfl rfl Dc (Sc ⟨_,0,rfl⟩ ⟨_,0,rfl⟩ ⟨_,0,rfl⟩) ?hp ?_
 case hp=>
  intro cs Q;simp only[mC,nM,or_false]at Q
  rcases Q with rfl|rfl|rfl
  ·exact fun _ _ _ z t=>by obtain⟨B,l,a5⟩:=t;exact⟨B,l,a5.grew z⟩
  ·exact fun _ _ _ z t=>by obtain⟨B,l,a5⟩:=t;exact⟨B,l,a5.grew z⟩
  exact fun _ _ _ z t=>by obtain⟨R,l,a5,e0⟩:=t;exact⟨R,l,a5.grew z,e0⟩
 simp only[Yp,Yq];refine zg ?_
 refine zx rfl rfl (fun w' z D=>?_) (fun cr T=>?_)
 ·refine zJ.call [Xi #[O a4 j S,I6 m.hand,O U n X,g.x,i.x,c.x,d.x,f.x,I6 m.cnt,b.x,h.x]] rfl func83 rfl rfl rfl ?_;refine(au w' (I.trans z)).mono ?_;rintro e bu ⟨B,rfl,ay,a2⟩;exact⟨_,rfl,a2,⟨B,rfl⟩,B,rfl,ay⟩
 obtain⟨ct,rfl⟩:=T;refine Uq ?_;refine zg ?_
 refine zx rfl rfl (fun w' z D=>?_) (fun cr T=>?_)
 ·refine zJ.call [Xi #[O a4 j S,I6 m.hand,O U n X,g.x,i.x,c.x,d.x,f.x,I6 m.cnt,b.x,h.x]] rfl func84 rfl rfl rfl ?_;refine(ar w' (I.trans z)).mono ?_;rintro e bu ⟨B,rfl,ay,a2⟩;exact⟨_,rfl,a2,⟨B,rfl⟩,B,rfl,ay⟩
 obtain⟨cu,rfl⟩:=T;refine Uq ?_;refine zx rfl rfl (fun w' z D=>?_) (fun cr T=>?_)
 ·have cl:=bS (I.trans z);clear ba bb bc bd be bf bg bh bi bj aa P;refine zJ.step (v:= Xj (Xa ⟨w'.heap.size,0,Xb⟩)) (w':=w'.alloc (Xk #[eS,I6 0,eS,eS,eS,eS,eS,eS,I6 0,eS,eS,.map Xb] 152)) (by simp only[execOp];go_simp) ⟨za _ _,⟨_,rfl⟩,_,rfl,Box.top _ _ _ rfl,cl⟩
 obtain⟨de,rfl⟩:=T;refine Uq ?_;refine qd fun ce H D=>?_
 obtain⟨u,af,az⟩:∃B,(Value.agg #[O a4 j S,I6 m.hand,O U n X,g.x,i.x,c.x,d.x,f.x,I6 m.cnt,b.x,h.x,.map (Xa ct)])= Xi #[O a4 j S,I6 m.hand,O U n X,g.x,i.x,c.x,d.x,f.x,I6 m.cnt,b.x,h.x,.map (Xa B)]/\Qx plK ce B (zaB m.ca):=D 1;obtain⟨Y,ag,b0⟩:∃B,(Value.map (Xa cu))= .map (Xa B)/\Jy enK ce B (qy m m.sp.length [] zdZ):=D 3;obtain⟨an,ah,ax,a8⟩:∃R,(Value.pointer (Xa ⟨de,0,Xb⟩))= Xj (Xa ⟨R,0,Xb⟩)/\Box ce R [eS,I6 0,eS,eS,eS,eS,eS,eS,I6 0,eS,eS,.map Xb]/\w.heap.size<=R:=D 4;have dw:u=ct:=by simp at af;exact af.symm
 have dx:Y=cu:=by simp at ag;exact ag.symm
 have dy:an=de:=by simp at ah;exact ah.symm
 subst dw dx dy;have cx:=dD az;have dg:=dD b0;have bw:=dD ax;have c6:=dD a8;have c4:=dD (I.trans H);have da:=dD (A.grew H);clear af ag ah az b0 ax a8 H D ba bb bc bd be bf bg bh bi bj aa P;have cd:Xo (w.heap.size≠an):=show _≠_ from fun e=>by
  obtain⟨ed,l⟩:=da.out;obtain⟨ee,a5⟩:=bw.out;rw[<-e,l]at a5
  simp at a5
 go_wp2_with (refine zr rfl 152 (.tmp 3) (.tmp 10) rfl an rfl [O a4 j S,I6 m.hand,O U n X,g.x,i.x,c.x,d.x,f.x,I6 m.cnt,b.x,h.x,.map (Xa u)] rfl bw rfl Kr (fun r T=>by
    simp only[mC,nM,or_false]at T
    rcases T with rfl|rfl|rfl|rfl|rfl|rfl|rfl|rfl|rfl|rfl|rfl|rfl <;> rfl) ?_)
 intro aw b1 L _;have dk:=dD b1;have db:=dD<|da.grown L cd.out;have dh:Xo (Qx plK aw u (zaB m.ca)):=cx.kept L (fun e=>by cases e;exact bw.ne_map cx rfl)
 have cy:Xo (Jy enK aw Y (qy m m.sp.length [] zdZ)):=dD<|by
  obtain⟨dz,dd,e8⟩:=dg.out;exact⟨dz,dd.kept L (fun e=>by cases e;exact bw.ne_map dd rfl),e8⟩
 have E:=dD<|zd c4 L c6.out
 clear b1 L;have e9:=db.c 0 rfl;go_wp2;clear e9
 go_loopg [17] j (fun cj cp wr=>∃a:Nat,a<=j/\j - a<=cj/\cp=I6 a/\Xo (zc aw wr))
 exact⟨0,nZ _,Wm,rfl,zc.refl _⟩
 obtain⟨a,e7,e6,rfl,Z⟩:=hrel
 by_cases ak:a<j
 ·have b7:=kC ak
  have y:Xo (a<m.fs.length):=dD<|Rx c7.out ak
  obtain⟨q,cw⟩:∃q,Xo (m.fs[a]? =Xa q):=⟨_,gE y⟩;have ap:Xo (zU m (a:Int)=q):=dD<|by unfold zU;rw[tN,gD,cw.out];rfl
  obtain⟨cf,rfl,b6⟩:=c3.out a q cw.out;obtain⟨dc,dl,dm,dn,dp,dq,dr,ds,dt,du,cg,ch,ci⟩:=b6 wr (E.trans Z);clear b6;go_upto_region 5 with fail;obtain⟨cz,a1⟩:=kB (wr.alloc (Xk #[U8 q.p.b0,U8 q.p.b1,U8 q.p.b2,U8 q.p.b3,U8 q.p.b4,U8 q.p.b5,U8 q.p.b6,U8 q.p.b7,I6 q.r,Xh q.u,Xh q.d,I6 q.f,I6 q.x] 62));have x:=gT a1 Z
  have cv:=dD (E.trans x);have bz:=xA a1
  have C:=dD (dk.grew x);rw[a1];clear a1 dc dl dm dn dp dq dr ds dt du cg ch ci;obtain⟨ec,c9⟩:=kA wr.heap.size;rw[c9.out]at bz⊢;obtain⟨t,F⟩:=kA ((qy m m.sp.length [] zdZ) (1,(a:Int)));have aj:∀bx:ze cz,(Instr.lookup 154 (.map (Xa Y)) (Xi #[I6 1,I6 (a:Int),Xh Xd]) Xd).run prog bx.world= .ok (I6 t) bx.world:=fun bx=>by
   have:=(cy.grew (x.trans bx.grew)).look (K:=enK) underlying154 (zqN _) (1,(a:Int));rw[F.out]at this;exact this
  have b4:=bz.gw 8 rfl
  have a7:=bz.gw 11 rfl
  have bk:=C.gw 0 rfl
  have bl:=C.gw 1 rfl
  have bm:=C.gw 2 rfl
  have bn:=C.gw 3 rfl
  have bo:=C.gw 4 rfl
  have bp:=C.gw 5 rfl
  have bq:=C.gw 6 rfl
  have br:=C.gw 7 rfl
  have bs:=C.gw 8 rfl
  have bt:=C.gw 9 rfl
  have ab:=C.gw 10 rfl
  have ac:=C.gw 11 rfl
  have P:Nonempty (ze cz):=⟨⟨_,zc.refl _⟩⟩;obtain⟨am,ai⟩:=c2.out a y.out;rw[ap.out,F.out]at am;have cm:(q.r != t)=Xd:=by simp[am]
  by_cases G:0<=q.f
  ·have b3:decide (0<=q.f)=Xc:=Si G
   have df:Xo (decide (zaB m.ca ((zU m (a:Int)).f,(zU m (a:Int)).x)=Xa (a:Int))=Xc):=dD<|decide_eq_true (ai (Rx ap.out G))
   have c1:Xo (∀W,zc aw W->Xp prog 85 #[Xi #[O (Xa cf) j S,I6 m.hand,O U n X,g.x,i.x,c.x,d.x,f.x,I6 m.cnt,b.x,h.x,.map (Xa u)],I6 (a:Int)] W fun e w'=>e= Xl (Xh Xc)/\zc W w'):=dD<|fun W a6=>by
    have l:=aq.out u a W (E.trans a6) y (dh.grew a6);rw[df.out]at l;exact l
   clear am G ai;refine ju [(14,⟨fun r=>r= Xh Xc,fun r w'=>True⟩)] z6 Kr (Sa ⟨_,rfl⟩) ?hp ?_
   case hp=>
    intro cs Q;simp only[mC,nM,or_false]at Q;subst Q;exact fun _ _ _ _ t=>t
   iterate 14 refine zg ?_
   refine zx rfl rfl (fun w' z D=>?_) (fun cr T=>?_)
   ·refine zJ.call [Xi #[O (Xa cf) j S,I6 m.hand,O U n X,g.x,i.x,c.x,d.x,f.x,I6 m.cnt,b.x,h.x,.map (Xa u)],I6 (a:Int)] rfl func85 rfl rfl rfl ?_;refine(c1 w' (x.trans z)).mono ?_;rintro e bu ⟨rfl,H⟩;exact⟨_,rfl,H,rfl,trivial⟩
   subst T;refine Uq ?_;iterate 3 refine zg ?_
   refine qd fun dj M D=>?_
   have ae:=dD (x.trans M);clear M D aj b4 a7 bk bl bm bn bo bp bq br bs bt ab ac P;go_wp2
   go_roundg (j -(a+1));exact⟨a+1,Wm,Wm,Gn,ae⟩;omega
  have b3:decide (0<=q.f)=Xd:=Si G
  clear am G ai;refine ju [] z6 Kr Sm Sm ?_
  iterate 12 refine zg ?_
  iterate 4 (refine j1 Kr ?_;simp only[Xw,sB,sS,sZ])
  iterate 2 refine zg ?_
  refine qd fun dj M D=>?_
  have ae:=dD (x.trans M);clear M D aj b4 a7 bk bl bm bn bo bp bq br bs bt ab ac P;go_wp2
  go_roundg (j -(a+1));exact⟨a+1,Wm,Wm,Gn,ae⟩;omega
 have b7:=kD ak
 have:a=j:=Wm
 subst this;have ea:=(db.grew Z).c 2 rfl;go_wp2;clear ea;have c0:=dD Z
 go_loopg [44] n (fun cj cq wr=>∃p:Nat,p<=n/\n - p<=cj/\cq=I6 p/\Xo (zc aw wr))
 exact⟨0,nZ _,Wm,rfl,c0⟩
 obtain⟨p,eb,a2,rfl,Z⟩:=hrel
 by_cases N:p<n
 ·have al:=kC N
  have y:Xo (p<m.sl.length):=dD<|Rx c8.out N
  obtain⟨bv,av⟩:∃bv,Xo (m.sl[p]? =Xa bv):=⟨_,gE y⟩;obtain⟨cf,rfl,b6⟩:=cb.out p bv av.out;have dc:=b6 wr (E.trans Z);clear b6;obtain⟨t,F⟩:=kA ((qy m m.sp.length [] zdZ) (2,(p:Int)));have aj:(Instr.lookup 154 (.map (Xa Y)) (Xi #[I6 2,I6 (p:Int),Xh Xd]) Xd).run prog wr= .ok (I6 t) wr:=by
   have:=(cy.grew Z).look (K:=enK) underlying154 (zqN _) (2,(p:Int));rw[F.out]at this;exact this
  have am:bv=t:=by
   have:=ca.out p y.out;rw[gD,av.out,F.out]at this;exact this
  have cm:(bv != t)=Xd:=by simp[am]
  clear am;go_wp2
  go_roundg (n -(p+1));exact⟨p+1,Wm,Wm,Gn,Z⟩;omega
 have al:=kD N
 have:p=n:=Wm
 subst this;have c5:=dD (E.trans Z);go_wp2;go_ret;exact⟨rfl,c5⟩
theorem zeH (V m w) (a3:zy w V m) (bu:zjc m) (ch:zw (ZM m)=0):
  Xp prog 41 #[Xi (mL V m).toArray] w fun e w'=>e= Xl (I6 0)/\zc w w':=by
 obtain⟨c6,y,f,T,⟨D,d,E⟩,⟨F,i,G⟩,R,Q,S⟩:=V;dsimp only[mL];have df:=zbp;obtain⟨-,s,bx,-,am,bz,-⟩:=a3.ns;dsimp only at s bx am bz;have aq:=dD<|fun ai (d9:zc w ai)=>zdh _ m.fl m.cnt ai (a3.grew d9).fl bu.st
 have b9:=dD a3.pgs;have ba:=dD a3.puts;obtain⟨ab,ah⟩:=zhd bu.dq;have bd:=dD ah;have B:=dD am.symm;have az:=dD bz.symm;have bw:i<=9223372036854775807:=Hm a3.dq.2.2
 rw[B.out]at ab;have h:zl4 m=if y.n≠f.n\/m.cnt≠(d:Int)then 7 else 0:=by unfold zl4;rw[s,bx,am]
 have v:=zi.1 ch;have n:JY m=0:=v _ (by simp[ZM])
 have r:JE m=0:=v _ (by simp[ZM])
 rw[v (zl4 m) (by simp[ZM])]at h
 have ao:Xo (∀c,c<m.db.length->zbZ m c=Xd):=dD<|fun c bv=>by
  cases aa:zbZ m c with
  | false=>rfl
  | true=>rw[zew bv aa]at n;cases n
 have be:Xo (∀(j:Nat) x,m.dq[j]? =Xa x->zR m.fl x.1=Xc):=dD<|fun j x de=>by
  cases aa:zR m.fl x.1 with
  | true=>rfl
  | false=>rw[zd4 de aa]at r;cases r
 have da:¬(y.n≠f.n\/m.cnt≠(d:Int)):=fun aa=>by rw[kE aa]at h;cases h
 have al:f.n=y.n:=Wm
 have bk:m.cnt=(d:Int):=Wm
 clear a3 bu ah s bx am bz h v n r ch da;obtain⟨cb,k⟩:=kB (w.alloc (Xk #[c6.x,I6 m.hand,y.x,f.x,T.x,O D d E,O F i G,R.x,I6 m.cnt,Q.x,S.x] 41));have a5:=gA k
 have C:=xA k
 have cn:Xo (w.heap.size<cb.heap.size):=dD<|by rw[<-k];simp
 have bf:=dD k;clear k;have cw:((f.n:Int) !=(y.n:Int))=Xd:=by simp[al]
 have cy:((d:Int) != m.cnt)=Xd:=by simp[bk]
 have cx:(f.n != y.n)=Xd:=by simp[al]
 have ac:=aq.out cb a5.out;have cl:=dD al;have cm:=dD bk;clear al bk
 go_enter func41,ntmps41
 go_upto_region 1 with fail;rw[bf.out];have dn:=C.c 2 rfl;have dp:=C.c 3 rfl;have c7:=C.c 5 rfl;have c8:=C.c 6 rfl;have dq:=C.c 7 rfl;have dr:=C.c 8 rfl;go_upto_region 3 with fail;go_wp2_with fail;refine ac.mono ?_;clear ac dn dp c7 c8 dq dr;rintro e aj ⟨rfl,H⟩;have a6:=dD (a5.trans H);have cc:=dD (C.grew H);clear H;obtain⟨a4,u⟩:=kA (qI 80 (qR m.fl m.fl.length []));have aw:Xo (a4.length=80):=show _=_ by rw[<-u.out];exact zaY _ _
 have ax:Xo (∀dm∈a4,dm.oneCell'=Xc):=dD<|by rw[<-u.out];exact zgl _ _
 have a8:Xo (∀c:Nat,c<80->a4[c]? =Xa (Xh (zR m.fl (c:Int)))):=dD<|fun c bv=>by rw[<-u.out];exact zn0 bv
 rw[u.out];obtain⟨cq,l⟩:=kB (aj.alloc (Xk zfz 141));have ar:=gT l a6
 have ct:=yA l cc
 have cu:Xo (Box cq aj.heap.size (Xr 80 (Xh Xd))):=dD<|by rw[<-l];exact Box.top _ (Xr 80 (Xh Xd)) _ rfl
 have bg:=dD l;clear l;have av:=dD<|bS a6.out
 have bh:=dD cc.lt
 go_wp2_with (first | (rw[bg.out];refine zr rfl 141 (.tmp 3) (.tmp 28) rfl aj.heap.size rfl a4 rfl cu (by rw[aw.out];simp) (Si zqO) ax.out ?_))
 intro cr ae K _;have au:=dD<|zd ar K av.out
 have cd:Xo (Box cr w.heap.size [c6.x,I6 m.hand,y.x,f.x,T.x,O D d E,O F i G,R.x,I6 m.cnt,Q.x,S.x]):=ct.grown K (Hm bh.out)
 have cg:=dD ae;obtain⟨an,b8⟩:=kA aj.heap.size;rw[b8.out]at cg⊢;clear ae K df;have c7:=cd.c 5 rfl;go_wp2;clear c7;obtain⟨P,ay⟩:=kA d;rw[ay.out]at ab⊢
 go_loopg [33] P (fun bt c4 wr=>∃b:Nat,b<=P/\P - b<=bt/\c4=I6 b/\Xo (zc w wr)/\Xo (Box wr w.heap.size [c6.x,I6 m.hand,y.x,f.x,T.x,O D d E,O F i G,R.x,I6 m.cnt,Q.x,S.x])/\Xo (Box wr an a4))
 exact⟨0,nZ _,Wm,rfl,au,cd,cg⟩
 obtain⟨b,dd,dc,rfl,z,cf,ak⟩:=hrel
 by_cases L:b<P
 ·have ag:=kC L
  have p:b<80:=Wm
  have a7:Xo (b<m.db.length):=dD<|by rw[B.out,ay.out];exact L
  obtain⟨c0,c9⟩:∃c0,Xo (m.db[b]? =Xa c0):=⟨_,gE a7⟩;obtain⟨cv,W,X,Y,Z,I,a0,a1,a2,rfl,rfl,af⟩:=b9.out b c0 c9.out;have A:Xo (zbZ m b=(!zR m.fl (b:Int) && !([W,X,Y,Z,I,a0,a1,a2] == zp))):=dD<|by unfold zbZ;rw[gD,c9.out];rfl
  obtain⟨bl,bm,bn,bo,bp,bq,br,bs⟩:=af wr z.out;have N:=fun ai=>ZI 9998 W X Y Z I a0 a1 a2 0 0 0 0 0 0 0 0 ai
  simp only[zfx]at N;obtain⟨cp,ca⟩:=kA (zR m.fl (b:Int));have g:=a8.out b p;rw[ca.out]at g;rw[ca.out]at A;obtain⟨co,bb⟩:=kA ([W,X,Y,Z,I,a0,a1,a2] == zp);rw[bb.out]at N A;clear af;go_upto_region 7 with fail;obtain⟨cs,a⟩:=kB (wr.alloc (Xk #[U8 W,U8 X,U8 Y,U8 Z,U8 I,U8 a0,U8 a1,U8 a2] 60));have t:=gT a z
  have ce:=yA a cf
  have U:=yA a ak
  have bj:=xA a
  rw[a];clear a bl bm bn bo bp bq br bs;have ds:=U.c b g;obtain⟨cj,dg,dh,an,di,dj,dk,dl⟩:=bj.c8;clear g
  cases cp with
  | true=>
   clear cj dg dh an di dj dk dl N;go_wp2
   go_roundg (P -(b+1));exact⟨b+1,Wm,Wm,Gn,t,ce,U⟩;omega
  | false=>
   cases co with
   | true=>
    go_wp2
    go_roundg (P -(b+1));exact⟨b+1,Wm,Wm,Gn,t,ce,U⟩;omega
   | false=>
    have:=ao.out b a7.out;rw[A.out]at this;cases this
 have ag:=kD L
 have:b=P:=Wm
 subst this;have c8:=cf.c 6 rfl;go_wp2;clear c8;obtain⟨s,a9⟩:=kA i;rw[a9.out]at bw⊢;have ap:=dD z;have bi:=dD ak
 go_loopg [52] s (fun bt c5 wr=>∃j:Nat,j<=s/\s - j<=bt/\c5=I6 j/\Xo (zc w wr)/\Xo (Box wr an a4))
 exact⟨0,nZ _,Wm,rfl,ap,bi⟩
 obtain⟨j,dt,db,rfl,z,ak⟩:=hrel
 by_cases q:j<s
 ·have M:=kC q
  obtain⟨x,bc⟩:∃x,Xo (m.dq[j]? =Xa x):=⟨_,gE (by rw[az.out,a9.out];exact q)⟩
  obtain⟨cv,ci,W,X,Y,Z,I,a0,a1,a2,rfl,rfl,af⟩:=ba.out j x bc.out;obtain⟨ck,c3⟩:=bd.out j _ bc.out;simp only at ck c3;obtain⟨c,rfl⟩:∃c:Nat,ci=(c:Int):=⟨ci.toNat,Wm⟩
  have p:c<80:=by rw[B.out,ay.out]at c3;omega
  obtain⟨bl,bm,bn,bo,bp,bq,br,bs,cz⟩:=af wr z.out;have g:=a8.out c p;rw[show zR m.fl (c:Int)=Xc from be.out j _ bc.out]at g
  clear af ck c3;go_upto_region 13 with fail;obtain⟨cs,a⟩:=kB (wr.alloc (Xk #[I6 (c:Int),U8 W,U8 X,U8 Y,U8 Z,U8 I,U8 a0,U8 a1,U8 a2] 69));have t:=gT a z
  have U:=yA a ak
  have bj:=xA a
  rw[a];clear a bl bm bn bo bp bq br bs cz;have ds:=U.c c g;have cj:=bj.c 0 rfl;clear g;go_wp2
  go_roundg (s -(j+1));exact⟨j+1,Wm,Wm,Gn,t,U⟩;omega
 have M:=kD q
 have:j=s:=Wm
 subst this;go_wp2;go_ret;exact⟨rfl,z⟩
theorem zp0 (V m w) (b:zy w V m) (d:maW m=0) (k:Nat) (f:Nat) (a:chk[k]? =Xa f):
  Xp prog f #[Xi (mL V m).toArray] w fun e w'=>e= Xl (I6 0)/\zc w w':=by
 have c:∀e∈zpk m,e=0:=zi.1 (by rw[<-d,zoU];rfl)
 have g:zw (Zq m)=0:=c _ (by simp[zpk])
 have n:zw (ZM m)=0:=c _ (by simp[zpk])
 have d:Zp m=0:=c _ (by simp[zpk])
 have j:zdX m=0:=c _ (by simp[zpk])
 have p:zfM m=0:=c _ (by simp[zpk])
 have q:zas m=0:=c _ (by simp[zpk])
 have c:=zpK.1 g
 match k,a with
 | 0,a=>
  cases a;have k:=zeD V m w b fun W i=>by
   obtain⟨l,-⟩:=b.ns;have h:=(b.grew i).fs;(try simp only[Sli.x]at h⊢);rw[l]at h⊢;have i:Zt m.fs m.hand=0:=zi.1 g _ (by simp[Zq])
   rw[i];exact QU _ _ m.fs m.hand W h i
  rw[g]at k;exact k
 | 1,a=>cases a;exact zeH V m w b c n
 | 2,a=>cases a;rw[<-d];exact zct V m w b
 | 3,a=>cases a;rw[<-j];exact zdG V m w b c
 | 4,a=>cases a;exact zdD V m w b c (zlg d) p
 | 5,a=>cases a;exact zdF V m w b j (zfL d) (fun s b=>(zlg d s b).2) q
 | k+6,a=>simp[chk]at a
theorem Qy (V m w) (b:zy w V m) (a:maW m=0):
  Xp prog 24 #[Xi (mL V m).toArray] w fun e w'=>e= Xl (I6 0)/\zc w w':=by
 have g:Xo (∀W,zc w W->∀(k f:Nat),chk[k]? =Xa f->Xp prog f #[Xi (mL V m).toArray] W fun e w'=>e= Xl (I6 0)/\zc W w'):=dD<|fun W c k f d=>zp0 V m W (b.grew c) a k f d
 clear b a;obtain⟨d,a⟩:=kB ((w.alloc (Xk (mL V m).toArray 41)).alloc (Xk #[.func (.func 40) #[] #[],.func (.func 41) #[] #[],.func (.func 42) #[] #[],.func (.func 43) #[] #[],.func (.func 44) #[] #[],.func (.func 45) #[] #[]] 47));have b:=gD2 a
 have j:=x2a a
 have k:Xo (Box d (w.heap.size+1) (chk.map fnV)):=dD<|by rw[<-a];exact Box.top _ (chk.map fnV) _ Sm
 have c:=dD a;clear a
 go_enter func24,ntmps24
 go_upto_region 2 with fail;rw[c.out];go_wp2
 go_loopg [10] 6 (fun h c wr=>∃a:Nat,a<=6/\6 - a<=h/\c=I6 a/\Xo (zc d wr))
 exact⟨0,nZ _,Wm,rfl,zc.refl _⟩
 obtain⟨a,c,c,rfl,d⟩:=hrel;have i:=dD (b.trans d)
 by_cases b:a<6
 ·have c:(a:Int)<6:=Wm
  obtain⟨f,h⟩:∃f,Xo (chk[a]? =Xa f):=⟨_,gE (by simp[chk];exact b)⟩
  have v:wr.cell? ⟨w.heap.size+1,a,Xb⟩=Xa (.func (.func f) #[] #[]):=(k.grew d).c a (by rw[Yg,h.out];rfl)
  have k:=zkw a f h.out;have b:=g.out wr i a f h.out;have g:=dD (j.grew d);obtain⟨h,j,l,n,p,q,r,s,t,u,f⟩:=g.c11;go_wp2_with fail;refine b.mono ?_;clear b h j l n p q r s t u f v;rintro b b ⟨rfl,b⟩;have f:=dD (d.trans b);clear b k;go_wp2
  go_roundg (6 -(a+1));exact⟨a+1,Wm,Wm,Gn,f⟩;omega
 have c:¬(a:Int)<6:=Wm
 go_wp2;go_ret;exact⟨rfl,i⟩
theorem zhT (n:Nat) (a:n<=40) (w):
  Xp prog 161 #[.int .u64 1,.int .u64 (n:Int)] w fun e w'=>e= Xl (Xm #[.int .u64 0,.int .u64 (n:Int)])/\w'=w:=by
 have h:bits .and .u64 1 4294967295=1:=Mul64.maskN 1 Wm
 have i:bits .and .u64 (n:Int) 4294967295=(n:Int):=by rw[Mul64.maskN n Wm];omega
 have g:bits .and .u64 0 4294967295=0:=Mul64.maskN 0 Wm
 have f:(n:Int) / 4294967296=0:=Wm
 have c:=dD h;have d:=dD i;have b:=dD g;have a:=dD f;clear h i g f
 go_enter func161,ntmps161
 go_wp2;have f:IntKind.u64.wrap 0=0:=Mul64.wrapN 0 Wm
 have g:IntKind.u64.wrap (n:Int)=(n:Int):=Mul64.wrapN n Wm
 simp only[c.out,d.out,Int.one_mul,g,a.out,f,b.out,Int.mul_zero,Int.add_zero,Int.zero_ediv]
 go_ret2
 exact⟨rfl,rfl⟩
theorem zgA (n:Nat) (b:n<=40) (w):
  Xp prog 135 #[.int .u64 1,.int .u64 (n:Int)] w fun e w'=>e= Xl (Xm #[.int .u64 0,.int .u64 (n:Int)])/\w'=w:=by
 have a:=zhT n b w
 go_enter func135,ntmps135
 go_wp2_with (go_at_call 161;refine a.mono ?_;rintro e w' ⟨rfl,a⟩;rw[a])
 go_ret2
 exact⟨rfl,rfl⟩
section
variable{α:Type} {E:Elt α}
theorem zjp (m:List α):∀(l:List α) (off:Nat),off+m.length<=l.length->splice (l.flatMap E.enc) (off*E.k) (m.flatMap E.enc)=(l.take off++(m++l.drop (off+m.length))).flatMap E.enc:=fun l off h=>by
 have h1:∀(l:List α) (j:Nat),j<=l.length->(l.flatMap E.enc).take (j*E.k)=(l.take j).flatMap E.enc/\(l.flatMap E.enc).drop (j*E.k)=(l.drop j).flatMap E.enc:=fun l j hj=>by
  have he:l.flatMap E.enc=(l.take j).flatMap E.enc++(l.drop j).flatMap E.enc:=by rw[<-Xy,Yo]
  have hl:((l.take j).flatMap E.enc).length=j*E.k:=by rw[qV E,Ye,Yl hj]
  constructor
  ·rw[he,<-hl,List.take_left]
  rw[he,<-hl,List.drop_left]
 unfold splice;rw[qV E m,<-Of,(h1 l off Wm).1,(h1 l (off+m.length) h).2,Xy,Xy]
theorem zaR {w:Xn} (ty:TypeId) (base:Nat) (v:Xq) (l:List α) (hown:zb E base w v l) (g:Nat) (hg:v.ownBlock=Xa g) (off dLen dCap:Nat) (ad:Addr) (sLen sCap:Nat)
  (m:List α) (hm:m.length=Ov sLen dLen) (hsrc:jP w ad (m.flatMap E.enc)) (hfit:off+m.length<=l.length):
  ∃w',(Builtin.copy_ #[E.st,E.st] ty #[O (Xa ⟨g,off*E.k,Xb⟩) dLen dCap,O (Xa ad) sLen sCap]).run prog w= .ok (goInt m.length) w'/\zb E base w' v (l.take off++(m++l.drop (off+m.length)))/\w.grownBy w' (Xa g)/\w'.heap.size=w.heap.size:=by
 obtain⟨i0,hi,_,hz1,_⟩:=info_parts E.info;have hcl:(m.flatMap E.enc).length=m.length*E.k:=qV E m;have hfit':off*E.k+(m.flatMap E.enc).length<=l.length*E.k:=by
  rw[hcl,<-Of];exact Ya _ hfit
 obtain⟨w',hr,h2,h3,h4⟩:=jy (P:=prog) hown.1 hg (off*E.k) (m.flatMap E.enc) hfit' (je E.one m);have hl:=run_loadCells_list (P:=prog) w ad (m.flatMap E.enc) hsrc;rw[hcl]at hl;rw[zjp m l off hfit]at h2;have hlen:(l.take off++(m++l.drop (off+m.length))).length=l.length:=by simp;omega
 refine⟨w',?_,⟨by rw[hlen];exact h2,by rw[hlen];exact hown.2⟩,h3,h4⟩
 simp[Builtin.copy_,run_underlying E.und,Builtin.lenOf,Builtin.firstCells,sizeOf,typeInfo,hi,hz1,<-hm,hl,hr]
theorem Jg {w:Xn} {rest:List Oper} {a:Act} (hgd:o.guard=Xb) (d s:Operand) (ho:o.op= .call { callee:= .builtin .copy,args:=#[d,s],argTypes:=#[E.st,E.st] })
  (base:Nat) (v:Xq) (l:List α) (hown:zb E base w v l) (g:Nat) (hg:v.ownBlock=Xa g) (off dLen dCap:Nat) (dp:Addr) (hd:a.eval d= O (Xa dp) dLen dCap) (hdp:dp=⟨g,off*E.k,Xb⟩) (ad:Addr) (sLen sCap:Nat) (hs:a.eval s= O (Xa ad) sLen sCap)
  (m:List α) (hm:m.length=Ov sLen dLen) (hsrc:jP w ad (m.flatMap E.enc)) (hfit:off+m.length<=l.length)
  (h:∀w',zb E base w' v (l.take off++(m++l.drop (off+m.length)))->w.grownBy w' (Xa g)->w'.heap.size=w.heap.size->wpList prog ops Q rest (a.put o.dst (goInt m.length)) w'):wpList prog ops Q (o :: rest) a w:=by
 subst hdp;refine wpList_plain hgd fun K hK=>?_
 obtain⟨w',hrun,h2,h3,h4⟩:=zaR o.type base v l hown g hg off dLen dCap ad sLen sCap m hm hsrc hfit;unfold Oper.wp
 simp[execOp,ho,resolve,invoke,builtin,hd,hs,hrun,Result.andThen]
 exact hK _ _ (h w' h2 h3 h4)
end
theorem zj4 (q) (n m z:Nat) (_h:m<=n) (a:z=Ov m (n - m)):(Xr m q++Xr (n - m) fr0).take m++(Xr z q++(Xr m q++Xr (n - m) fr0).drop (m+z))=Xr (m+z) q++Xr (n -(m+z)) fr0:=by
 have b:z<=n - m:=by rw[a];exact Nat.min_le_right _ _
 rw[List.take_append_of_le_length Sm,Xx Sm,List.drop_append,List.drop_of_length_le Sm,Ob,lR,Oj,<-List.append_assoc,Yn]
 congr 2
 omega
theorem zgz (q) (x:Nat) (c n:Nat) (hn:n<=40) (hn1:1<=n) (w:Xn) (hv:zl qA w (O (Xa ⟨x,0,Xb⟩) 1 c) [q]):
  Xp prog 99 #[O (Xa ⟨x,0,Xb⟩) 1 c,I6 (n:Int)] w fun e w'=>∃b,e= Xl b/\qE qA w.heap.size w' b (Xr n q)/\zc w w':=by
 have HC:Xo (jP w ⟨x,0,Xb⟩ ([q].flatMap qA.enc)):=by
  obtain⟨⟨a,c',h1,_,h3⟩,_⟩:=hv;cases h1;exact h3 _ rfl
 clear hv;have hm:=zgA n hn w;have hnz:¬(n:Int)<0:=Wm
 have hn2:¬(9223372036854775807:Int)< (n:Int):=Wm
 go_enter func99,ntmps99
 go_wp2_with (first
  | (go_at_call 135;refine hm.mono ?_;rintro e w' ⟨rfl,hw⟩;rw[hw])
  | (refine jA (E:=qA) rfl (.tmp 29) rfl n rfl (by show n*40<=_;omega) ?_;intro C ow;have OW:Xo (zb qA w.heap.size (w.alloc (Xk C 62)) (O (Xa ⟨w.heap.size,0,Xb⟩) n n) (Xr n fr0)):=ow;clear ow)
  | (refine Jg (E:=qA) rfl (.tmp 31) (.tmp 32) rfl w.heap.size (O (Xa ⟨w.heap.size,0,Xb⟩) n n) (Xr n fr0) OW w.heap.size rfl 0 n n _ rfl ?a1 _ 1 c rfl [q] ?a2 ?a3 ?a4 ?_))
 case a1=>simp
 case a2=>show 1=Ov 1 n;exact(Yl hn1).symm
 case a3=>exact HC.grew (za _ _)
 case a4=>simp;omega
 intro W1 ow1 gr1 _;have OW1:Xo (zb qA w.heap.size W1 (O (Xa ⟨w.heap.size,0,Xb⟩) n n) (Xr 1 q++Xr (n - 1) fr0)):=show zb qA _ _ _ (Xr 1 q++Xr (n - 1) fr0) by simpa [Oj]using ow1
 have G1:=dD<|zd (za _ _) gr1 (nR _);clear ow1 gr1;go_wp2
 go_loopg [8] n (fun gg s8 wr=>∃m:Nat,1<=m/\m<=n/\n - m<=gg/\s8=I6 m/\Xo (zb qA w.heap.size wr (O (Xa ⟨w.heap.size,0,Xb⟩) n n) (Xr m q++Xr (n - m) fr0))/\Xo (zc w wr))
 exact⟨1,nR _,hn1,Wm,rfl,OW1,G1⟩
 obtain⟨m,hm1,hmn,hg,rfl,OF,GW⟩:=hrel
 by_cases hlt:m<n
 ·have hltz:=kC hlt
  have hmnz:(m:Int)<=(n:Int):=Wm
  have OFd:=dD<|OF.grew (gW _)
  obtain⟨z,HZ⟩:∃z,Xo (z=Ov m (n - m)):=⟨_,rfl⟩;have hz0:z=min m (n - m):=HZ.out;have hz1:1<=z:=Wm
  have hz2:z<=m:=Wm
  have hz3:z<=n - m:=Wm
  clear hz0;have hsrc:jP wr.drew ⟨w.heap.size,0,Xb⟩ ((Xr z q).flatMap qA.enc):=fun j u hj=>by
   have h1:=OFd.1.cells rfl;refine h1 j u ?_;rw[Xy,Xz]
   ·rw[show m=z+(m - z) by omega,<-Yn,Xy,Xz (gS.1 hj).1]
    exact hj
   have h3:=(gS.1 hj).1;rw[qV qA]at h3⊢;simp only[lR]at h3⊢;exact Yf h3 (Ya _ hz2)
  obtain⟨W2,hrun,ow2,gr2,_⟩:=zaR (E:=qA) 3 w.heap.size _ _ OFd w.heap.size rfl m (n - m) (n - m) ⟨w.heap.size,0,Xb⟩ m n (Xr z q) (Rx lR HZ) hsrc (by simp;omega)
  have hcopy:(Builtin.copy_ #[26,26] 3 #[O (Xa ⟨w.heap.size,m*13,Xb⟩) (n - m) (n - m),O (Xa ⟨w.heap.size,0,Xb⟩) m n]).run prog wr.drew= .ok (I6 (z:Int)) W2:=by
   have h1:=hrun;rw[lR]at h1;exact h1
  have OW2:Xo (zb qA w.heap.size W2 (O (Xa ⟨w.heap.size,0,Xb⟩) n n) (Xr (m+z) q++Xr (n -(m+z)) fr0)):=dD<|by
   rw[<-zj4 q n m z Wm HZ.out]
   rw[lR]at ow2;exact ow2
  have GW2:=dD<|zd (GW.trans (gW _)) gr2 (nR _)
  clear hsrc hrun ow2 gr2;go_wp2
  go_region
  go_wp2
  go_roundg (n -(m+z));exact⟨m+z,Wm,Wm,nR _,Gn,OW2,GW2⟩;omega
 have hltz:=kD hlt
 have:m=n:=Wm
 subst this;have HO:Xo (zb qA w.heap.size wr (O (Xa ⟨w.heap.size,0,Xb⟩) m m) (Xr m q)):=dD<|by have:=OF.out;simpa using this
 go_wp2;go_ret;exact⟨_,rfl,HO.new,GW⟩
def zjM (n:Int):Int:=if 0<=n/\n<=40 then 0 else 4
def znp (n:Int):List Fr:=if 0<=n/\n<=40 then Xr n.toNat frF else []
theorem zhv (q) (x:Nat) (c:Nat) (w:Xn):
  Xp prog 99 #[O (Xa ⟨x,0,Xb⟩) 1 c,I6 0] w fun e w'=>∃b,e= Xl b/\qE qA w.heap.size w' b (Xr 0 q)/\zc w w':=by
 have a:=zgA 0 Wm w
 go_enter func99,ntmps99
 go_wp2_with (first
  | (go_at_call 135;refine a.mono ?_;rintro e w' ⟨rfl,a⟩;rw[a])
  | (refine jA (E:=qA) rfl (.tmp 29) rfl 0 rfl (by show 0*40<=_;omega) ?_;intro C a;have d:Xo (zb qA w.heap.size (w.alloc (Xk C 62)) (O (Xa ⟨w.heap.size,0,Xb⟩) 0 0) (Xr 0 fr0)):=a;clear a)
  | (refine Jg (E:=qA) rfl (.tmp 31) (.tmp 32) rfl w.heap.size (O (Xa ⟨w.heap.size,0,Xb⟩) 0 0) (Xr 0 fr0) d w.heap.size rfl 0 0 0 _ rfl ?a1 _ 1 c rfl [] ?a2 ?a3 ?a4 ?_))
 case a1=>simp
 case a2=>rfl
 case a3=>intro j u a;simp at a
 case a4=>simp
 intro g d a _;have f:Xo (zb qA w.heap.size g (O (Xa ⟨w.heap.size,0,Xb⟩) 0 0) (Xr 0 q)):=dD<|Si d
 have h:=dD<|zd (za _ _) a (nR _);clear d a;go_wp2
 go_loopg [8] 0 (fun _ a wr=>a=I6 0/\wr=g)
 exact⟨rfl,rfl⟩
 obtain⟨rfl,rfl⟩:=hrel;go_wp2;go_ret;exact⟨_,rfl,f.new,h⟩
theorem zjJ (n:Nat) (z:n<=40) (w:Xn):
  Xp prog 59 #[I6 (n:Int)] w fun e w'=>∃b,e= Xl (Xm #[Xi #[b,I6 0],I6 0])/\qE qA w.heap.size w' b (Xr n frF)/\zc w w':=by
 have B:¬(n:Int)<0:=Wm
 have A:¬(40:Int)< (n:Int):=Wm
 have d:∀W x,Box W x (frv frF)->Xp prog 99 #[O (Xa ⟨x,0,Xb⟩) 1 1,I6 (n:Int)] W fun e w'=>∃b,e= Xl b/\qE qA W.heap.size w' b (Xr n frF)/\zc W w':=fun W x C=>by
  by_cases u:1<=n
  ·refine zgz frF x 1 n z u W ⟨⟨_,1,rfl,fun h=>(by cases h),fun L D=>?_⟩,by show 1*40<=_;omega⟩
   cases D;intro E K y;rw[Ot,zA];exact C.c E (by have h:=y;simp only[Yv,List.flatMap_nil,List.append_nil]at h;exact h)
  have:n=0:=Wm
  subst this;exact zhv frF x 1 W
 go_enter func59,ntmps59
 go_wp2_with fail;refine(Jc _).mono ?_;rintro e g ⟨rfl,i⟩;have m:=dD<|(Box.top w [eS,I6 0] _ rfl).grew i;have k:Xo (zc w g):=(za _ _).trans i;clear i;simp only[frv,frF,pg0];go_wp2_with fail;refine(d _ _ (Box.top g _ _ rfl)).mono ?_;rintro e t ⟨b,rfl,f,j⟩;obtain⟨p,q,rfl,_⟩:=f.1.rows;rw[lR]at f⊢;have s:Xo (qE qA g.heap.size t (O p n q) (Xr n frF)):=f.base Sm
 have c:=(m.alloc (Xk #[U8 0,U8 0,U8 0,U8 0,U8 0,U8 0,U8 0,U8 0,I6 0,Xh Xd,Xh Xd,I6 (-1),I6 0] 62)).grew j;have r:=dD ((k.trans (za _ _)).trans j);have F:=c.c 0 rfl;have G:=c.c 1 rfl;have H:=c.f;have l:=dD m.lt;clear f j;go_wp2;refine bodyPost_ret (v:= Xm #[Xi #[O p n q,I6 0],I6 0]) (by simp[results,Tryz.results59,go_sem, *]) rfl ⟨_,rfl,?_,?_⟩
 ·exact((s.setCell (a:=⟨w.heap.size,0,Xb⟩) l _).setCell (a:=⟨w.heap.size,1,Xb⟩) l _).base (bS k)
 exact zq (zq r Sm _) Sm _
theorem zjK (n:Int) (a:¬(0<=n/\n<=40)) (w:Xn):
  Xp prog 59 #[I6 n] w fun e w'=>∃b,e= Xl (Xm #[Xi #[b,I6 0],I6 4])/\qE qA w.heap.size w' b ([]:List Fr)/\zc w w':=by
 by_cases a:n<0
 ·go_enter func59,ntmps59
  go_wp2;refine bodyPost_ret (v:= Xm #[Xi #[eS,I6 0],I6 4]) (by simp[results,Tryz.results59,go_sem, *]) rfl ⟨_,rfl,qE.nil qA _ _,?_⟩
  exact za _ _
 have a:40<n:=Wm
 go_enter func59,ntmps59
 go_wp2;refine bodyPost_ret (v:= Xm #[Xi #[eS,I6 0],I6 4]) (by simp[results,Tryz.results59,go_sem, *]) rfl ⟨_,rfl,qE.nil qA _ _,?_⟩
 exact za _ _
theorem znl (n:Nat) (a:n<=60) (w:Xn):
  Xp prog 60 #[I6 (n:Int)] w fun e w'=>∃a b,e= Xl (Xm #[O a n b,I6 0])/\qE slE w.heap.size w' (O a n b) (Xr n 0)/\zc w w':=by
 have a:¬(n:Int)<0:=Wm
 have a:¬(60:Int)< (n:Int):=Wm
 go_enter func60,ntmps60
 go_wp2_with (refine jA slE rfl (.tmp 10) rfl n rfl (by show n*8<=_;omega) ?_)
 intro C a;have b:Xo (zb slE w.heap.size (w.alloc (Xk C 3)) (O (Xa ⟨w.heap.size,0,Xb⟩) n n) (Xr n 0)):=a;clear a
 show wpList _ _ _ _ _ (w.alloc (Xk C 3))
 obtain⟨a,a⟩:=kB (w.alloc (Xk C 3));have c:=gA a
 rw[a]at b⊢;clear a;go_wp2;refine bodyPost_ret (v:= Xm #[O (Xa ⟨w.heap.size,0,Xb⟩) n n,I6 0]) (by simp[results,Tryz.results60,go_sem, *]) rfl ⟨_,_,rfl,b.new,c⟩
theorem znm (n:Int) (a:¬(0<=n/\n<=60)) (w):
  Xp prog 60 #[I6 n] w fun e w'=>e= Xl (Xm #[eS,I6 4])/\zc w w':=by
 by_cases b:n<0
 ·clear a
  go_enter func60,ntmps60
  go_wp2;refine bodyPost_ret (v:= Xm #[eS,I6 4]) (by simp[results,Tryz.results60,go_sem, *]) rfl ⟨rfl,zc.refl _⟩
 have b:60<n:=Wm
 clear a
 go_enter func60,ntmps60
 go_wp2;refine bodyPost_ret (v:= Xm #[eS,I6 4]) (by simp[results,Tryz.results60,go_sem, *]) rfl ⟨rfl,zc.refl _⟩
theorem zgr (v) (fs:List Int) (b:Int) (w) (x:zl blE w v fs):
  Xp prog 181 #[v,I6 b] w fun e w'=>(∃z:Int,e= Xl (I6 z)/\decide (0<=z)=fs.contains b)/\zc w w':=by
 have k:=x.short;obtain⟨K,M,rfl,d⟩:=x.nums;have C:=dD d;clear d x;obtain⟨n,s⟩:=kA fs.length;rw[s.out]at k⊢;obtain⟨i,c⟩:=kA (fs.contains b);rw[c.out]
 go_enter func181,ntmps181
 go_wp2
 go_loopg [5,8] n (fun D _ H wr=>∃a:Nat,a<=n/\n - a<=D/\H=I6 a/\Xo (zc w wr)/\Xo (∀(j:Nat) q,j<a->fs[j]? =Xa q->¬b=q))
 exact⟨0,nZ _,Wm,rfl,zc.refl w,fun j q l=>absurd l (nL _)⟩
 obtain⟨a,F,P,rfl,p,A⟩:=hrel
 by_cases f:a<n
 ·have m:=kC f
  obtain⟨q,t⟩:∃q,Xo (fs[a]? =Xa q):=⟨_,gE (Rx s.out f)⟩
  obtain⟨L,rfl,y⟩:=C.out a q t.out;have N:=y wr p.out;clear y
  by_cases h:b=q
  ·have u:(b == q)=Xc:=Si h
   have r:Xo (decide (0<=(a:Int))=i):=dD<|by
    rw[<-c.out,h,Oe.2 (mG t.out)];simp
   clear h;go_wp2;go_ret;exact⟨⟨_,rfl,r⟩,p⟩
  have u:(b == q)=Xd:=Si h
  have B:Xo (∀(j:Nat) q,j<a+1->fs[j]? =Xa q->¬b=q):=dD<|fun j G l g=>by
   by_cases e:j=a
   ·subst e;rw[t.out]at g;cases g;exact h
   exact A j G Wm g
  clear h;go_wp2
  go_roundg (n -(a+1));exact⟨a+1,Wm,Wm,Gn,p,B⟩;omega
 have m:=kD f
 have:a=n:=Wm
 subst this;have r:Xo (decide (0<=(-1:Int))=i):=dD<|by
  have:fs.contains b=Xd:=by
   cases E:fs.contains b with
   | false=>rfl
   | true=>
    obtain⟨j,l⟩:=Yh (Oe.1 E);exact absurd rfl (A j b (by rw[<-s.out];exact(gS.1 l).1) l)
  rw[<-c.out,this];rfl
 go_wp2;go_ret;exact⟨⟨_,rfl,r⟩,p⟩
theorem zdr (v) (fs:List Int) (b:Int) (w) (c:zl blE w v fs):
  Xp prog 174 #[v,I6 b] w fun e w'=>e= Xl (Xh (fs.contains b))/\zc w w':=by
 have a:=zgr v fs b w c;obtain⟨d,d,rfl,_⟩:=c.nums;clear c
 generalize fs.contains b=c at a⊢
 generalize fs.length=n at a⊢
 go_enter func174,ntmps174
 go_wp2_with fail;refine a.mono ?_;rintro e c ⟨⟨z,rfl,d⟩,c⟩;have f:=dD c;clear c a;have a:=dD d;clear d;go_wp2;go_ret;exact⟨by rw[<-a.out];rfl,f⟩
theorem zo0 (f:Fl) (g) (h:Nat) (b:Int) (p:Nat) (w) (k:Box w p [I6 b]) (q:zl blE w (O g f.bl.length h) f.bl):
  Xp prog 173 #[Xi #[I6 f.size,O g f.bl.length h],Xj (Xa ⟨p,0,Xb⟩)] w fun e w'=>e= Xl (Xh (f.bl.contains b))/\zc w w':=by
 have j:∀W,zc w W->Xp prog 174 #[O g f.bl.length h,I6 b] W fun e w'=>e= Xl (Xh (f.bl.contains b))/\zc W w':=fun W c=>zdr _ f.bl b W (q.grew c)
 have l:=k.lt;have c:p≠w.heap.size:=Wm
 have c:w.heap.size≠p:=Wm
 obtain⟨c,c⟩:=kB (w.alloc (Xk #[I6 f.size,O g f.bl.length h] 65));have d:=gA c
 have m:=(k.grew d).c 0 rfl;have n:(w.alloc (Xk #[I6 f.size,O g f.bl.length h] 65)).cell? ⟨p,0,Xb⟩=Xa (I6 b):=Rx c m
 have i:=dD c;clear c q k
 generalize f.bl.contains b=c at j⊢
 generalize f.bl.length=k at*
 generalize f.size=q at*
 have c:=World.cell?_of_block (w:=w) (w':=w.alloc (Xk #[I6 q,O g k h] 65)) (a:=⟨p,0,Xb⟩) (Below.heap_alloc _ _ _ l);rw[n]at c;have g:=c.symm;clear m n c
 go_enter func173,ntmps173
 go_wp2_with fail;rw[i.out];refine(j _ d).mono ?_;rintro e c ⟨rfl,c⟩;have g:=dD (d.trans c);clear c j;go_wp2;go_ret;exact⟨rfl,g⟩
theorem zfb (v fs) (b:Int) (p:Nat) (w) (d:Box w p [I6 b]) (f:qg w v fs):
  Xp prog 182 #[v,.func (.func 173) #[] #[Xj (Xa ⟨p,0,Xb⟩)]] w fun e w'=>(∃z:Int,e= Xl (I6 z)/\decide (0<=z)=zR fs b)/\zc w w':=by
 obtain⟨a,c,rfl,c,a⟩:=f.rows;have s:=dD a;have l:=dD d;have g:=enters_of func173 Kr rfl
 clear a f d;obtain⟨n,u⟩:=kA fs.length;rw[u.out]at c⊢;obtain⟨k,d⟩:=kA (zR fs b);rw[d.out]
 go_enter func182,ntmps182
 go_wp2
 go_loopg [5,8] n (fun a _ f wr=>∃c:Nat,c<=n/\n - c<=a/\f=I6 c/\Xo (zc w wr)/\Xo (∀(j:Nat) (q:Fl),j<c->fs[j]? =Xa q->q.bl.contains b=Xd))
 exact⟨0,nZ _,Wm,rfl,zc.refl w,fun j q m=>absurd m (nL _)⟩
 obtain⟨c,a,a,rfl,h,A⟩:=hrel
 by_cases f:c<n
 ·have r:=kC f
  obtain⟨q,x⟩:∃q,Xo (fs[c]? =Xa q):=⟨_,gE (Rx u.out f)⟩
  obtain⟨a,rfl,t,y,g,i⟩:=s.out c q x.out;obtain⟨a,a⟩:=i wr h.out;have a:=zo0 q t y b p wr (l.grew h) (g.grew h);clear i g
  cases i:q.bl.contains b with
  | true=>
   rw[i]at a;have t:Xo (decide (0<=(c:Int))=k):=dD<|by
    rw[<-d.out];unfold zR;rw[zpr x.out i];simp
   clear i;go_wp2_with fail;refine a.mono ?_;rintro e z ⟨rfl,l⟩;have s:=dD (h.trans l);clear l a;go_wp2;go_ret;exact⟨⟨_,rfl,t⟩,s⟩
  | false=>
   rw[i]at a;have y:Xo (∀(j:Nat) (q:Fl),j<c+1->fs[j]? =Xa q->q.bl.contains b=Xd):=dD<|fun j B m g=>by
    by_cases e:j=c
    ·subst e;rw[x.out]at g;cases g;exact i
    exact A j B Wm g
   clear i;go_wp2_with fail;refine a.mono ?_;rintro e z ⟨rfl,l⟩;have s:=dD (h.trans l);clear l a;go_wp2
   go_roundg (n -(c+1));exact⟨c+1,Wm,Wm,Gn,s,y⟩;omega
 have r:=kD f
 have:c=n:=Wm
 subst this;have t:Xo (decide (0<=(-1:Int))=k):=dD<|by
  rw[<-d.out];unfold zR;rw[zpq (fun j q m=>A.out j q (by rw[<-u.out];exact(gS.1 m).1) m)]
  rfl
 go_wp2;go_ret;exact⟨⟨_,rfl,t⟩,h⟩
theorem zcb (v fs) (b:Int) (p:Nat) (w) (d:Box w p [I6 b]) (c:qg w v fs):
  Xp prog 175 #[v,.func (.func 173) #[] #[Xj (Xa ⟨p,0,Xb⟩)]] w fun e w'=>e= Xl (Xh (zR fs b))/\zc w w':=by
 have a:=zfb v fs b p w d c;obtain⟨f,f,rfl,_⟩:=c.rows;clear c d
 generalize zR fs b=c at a⊢
 generalize fs.length=n at a⊢
 go_enter func175,ntmps175
 go_wp2_with fail;refine a.mono ?_;rintro e c ⟨⟨z,rfl,d⟩,c⟩;have f:=dD c;clear c a;have a:=dD d;clear d;go_wp2;go_ret;exact⟨by rw[<-a.out];rfl,f⟩
def jM (fs:List Fl) (k:Nat):List Int:=((Ys k).filter fun(b:Nat)=>!zR fs (b:Int)).map fun(b:Nat)=>(b:Int)
theorem zhK (fs) (k:Nat):jM fs (k+1)=if zR fs (k:Int)=Xc then jM fs k else jM fs k++ [(k:Int)]:=by
 unfold jM;rw[List.range_succ,List.filter_append]
 cases h:zR fs (k:Int)with
 | true=>simp[h]
 | false=>simp[h]
theorem zjU (fs) (n:Nat):jM fs n=(ZR fs (n:Int)).map fun(b:Nat)=>(b:Int):=by
 unfold jM ZR;rw[tN]
theorem zjT (fs) (k:Nat):(jM fs k).length<=k:=by
 unfold jM;rw[Oc];exact nT (Od _ _) Sm
theorem ziM (v fs) (m:Nat) (a:m<=80) (w:Xn) (c:qg w v fs):
  Xp prog 159 #[Xi #[v,I6 (m:Int)]] w fun e w'=>∃b,e= Xl b/\zb blE (w.heap.size+1) w' b (jM fs m)/\zc w w':=by
 have f:=dD c;obtain⟨d,g,rfl,a,_⟩:=c.rows;clear c;obtain⟨n,c⟩:=kA fs.length;rw[c.out]at a f⊢;have a:∀(c:Fn) (first a:Array Xq) (w:Xn),(Instr.makeFunc c first a).run prog w= .ok (.func c first a) w:=fun _ _ _ _=>rfl
 obtain⟨B,a⟩:=kB (w.alloc (Xk #[O d n g,I6 (m:Int)] 37));have j:=gA a
 have s:=xA a
 have k:=sA a
 have c:=dD a;clear a
 go_enter func159,ntmps159
 go_wp2;rw[c.out]
 go_loopg [3,4,5,8] m (fun a d _ _ g wr=>∃(c:Nat) (p:Option Addr) (q:Nat),c<=m/\m - c<=a/\g=I6 c/\d= .slice p (jM fs c).length q/\Xo (zc B wr)/\Xo (zb blE (w.heap.size+1) wr (.slice p (jM fs c).length q) (jM fs c)))
 exact⟨0,Xb,0,nZ _,Wm,rfl,rfl,zc.refl _,zb.nil _ _ _⟩
 obtain⟨c,p,q,a,a,rfl,rfl,h,A⟩:=hrel
 by_cases l:c<m
 ·have n:=kC l
  obtain⟨g,d⟩:=kB (wr.alloc (Xk #[I6 (c:Int)] 3));have i:=gA d
  have r:=xA d
  have a:=zcb _ fs (c:Int) wr.heap.size g r (f.grew ((j.trans h).trans i));have z:=dD (A.grew i);have g:=dD d;have f:=zhK fs c;have F:=dD<|zjT fs c;clear d;go_upto_region 5 with fail;rw[g.out];have C:=(s.grew (h.trans i)).c 0 rfl;have D:=(s.grew (h.trans i)).c 1 rfl;have g:=dD r.lt;obtain⟨d,d⟩:=kB wr.heap.size;rw[d]at a r g⊢;clear d
  cases x:zR fs (c:Int)with
  | true=>
   rw[x]at a f;rw[kE rfl]at f;have d:=dD f;clear f x;go_wp2_with fail;refine a.mono ?_;rintro e u ⟨rfl,g⟩;have s:=dD ((h.trans i).trans g);have t:Xo (zb blE (w.heap.size+1) u (.slice p (jM fs (c+1)).length q) (jM fs (c+1))):=show zb _ _ _ _ _ by rw[d.out];exact z.grew g
   have y:Xo ((jM fs (c+1)).length=(jM fs c).length):=dD<|by rw[d.out]
   rw[<-y.out];clear g a C D;go_wp2
   go_roundg (m -(c+1));exact⟨c+1,p,q,Wm,Wm,Gn,rfl,s,t⟩;omega
  | false=>
   rw[x]at a f;rw[kF Dc]at f
   have d:=dD f;clear f x;go_wp2_with fail;refine a.mono ?_;rintro e u ⟨rfl,g⟩;have s:=dD ((h.trans i).trans g);have t:=dD (z.grew g);have f:=(r.grew g).c 0 rfl;clear g a C D;have a:Xo (w.heap.size+1<=u.heap.size):=show _<=_ by
    have:=bS s.out;rw[k.out]at this;exact this
   go_wp2_with (at_builtin;refine zn (E:=blE) rfl (.tmp 17) (.tmp 19) rfl (w.heap.size+1) _ (jM fs c) rfl (t.grew (za _ _)) _ [(c:Int)] rfl (qN blE u (c:Int) _ _ rfl (by show 8<=_;omega)) ?qb ?qc ?_)
   case qb=>
    have:=F.out
    show(_+1)*8<=_
    omega
   case qc=>simp;have:=a.out;omega
   intro a p a f;obtain⟨g,i,rfl⟩:=a.form;have r:Xo (zb blE (w.heap.size+1) p (.slice g (jM fs (c+1)).length i) (jM fs (c+1))):=dD<|Rx d.out a
   have q:Xo (zc B p):=dD<|zT (s.trans (za _ _)) f (fun p u=>by
    have s:=(t.lt p u).1;rw[k.out];exact s)
   rw[<-d.out];clear a f;go_wp2
   go_roundg (m -(c+1));exact⟨c+1,g,i,Wm,Wm,Gn,rfl,q,r⟩;omega
 have n:=kD l
 have:c=m:=Wm
 subst this;have a:=dD (j.trans h);go_wp2;go_ret;exact⟨_,rfl,A,a⟩
theorem zlt (n:Int) (w):
  Xp prog 62 #[I6 n] w fun e w'=>e= Xl (Xm #[Xi #[eS,I6 (if 0<=n/\n<=80 then n else 0)],I6 (if 0<=n/\n<=80 then 0 else 4)])/\zc w w':=by
 by_cases h:0<=n/\n<=80
 ·rw[kE h,kE h];have a:=fun W=>Zm (m:=n) (n:=81) h.1 Wm W
  clear h
  go_enter func62,ntmps62
  go_wp2_with (go_at_call 101;refine(a _).mono ?_;rintro e w' ⟨rfl,rfl⟩)
  refine bodyPost_ret (v:= Xm #[Xi #[eS,I6 n],I6 0]) (by simp[results,Tryz.results62,go_sem, *]) rfl ⟨rfl,?_⟩
  first | exact za _ _ | exact Below.setCell (Below.setCell (za _ _) (p:=⟨w.heap.size,0,Xb⟩) Sm _) (p:=⟨w.heap.size,1,Xb⟩) Sm _
 rw[kF h,kF h];have a:=fun W=>zbi (m:=n) (n:=81) Wm W
 clear h
 go_enter func62,ntmps62
 go_wp2_with (go_at_call 101;refine(a _).mono ?_;rintro e w' ⟨rfl,rfl⟩)
 refine bodyPost_ret (v:= Xm #[Xi #[eS,I6 0],I6 4]) (by simp[results,Tryz.results62,go_sem, *]) rfl ⟨rfl,?_⟩
 first | exact za _ _ | exact Below.setCell (Below.setCell (za _ _) (p:=⟨w.heap.size,0,Xb⟩) Sm _) (p:=⟨w.heap.size,1,Xb⟩) Sm _
def zmQ (fs:List Fl) (cnt k:Int):Int:=if stW fs cnt=0 then(if inL fs.length k=Xc then 0 else 5)else stW fs cnt
theorem zfA (v fs) (a k:Int) (w) (m:qg w v fs):
  Xp prog 158 #[Xi #[v,I6 a],I6 k] w fun e w'=>e= Xl (I6 (zmQ fs a k))/\zc w w':=by
 have i:∀W,zc w W->Xp prog 74 #[Xi #[v,I6 a]] W fun e w'=>e= Xl (I6 (stW fs a))/\zc W w':=fun W t=>zcs v fs a W (m.grew t)
 obtain⟨r,s,rfl,q,_⟩:=m.rows;clear m;have d:Xo (zmQ fs a k=if stW fs a=0 then(if inL fs.length k=Xc then 0 else 5)else stW fs a):=rfl;have c:∀W,Xp prog 101 #[I6 k,I6 (fs.length:Int)] W fun e w'=>e= Xl (Xh (inL fs.length k))/\w'=W:=fun W=>zdv k _ W
 generalize zmQ fs a k=Z at d⊢
 generalize inL fs.length k=B at d c
 generalize stW fs a=S at d i
 generalize fs.length=x at*
 obtain⟨z,g⟩:=kB (w.alloc (Xk #[O r x s,I6 a] 37));have b:=gA g
 have p:=xA g
 have h:=dD g;clear g
 by_cases l:S=0
 ·rw[kE l]at d;subst l
  cases B with
  | true=>
   rw[kE rfl]at d
   go_enter func158,ntmps158
   go_wp2_with fail;rw[h.out];refine(i _ b).mono ?_;rintro e n ⟨rfl,f⟩;have j:=dD (b.trans f);have y:=(p.grew f).c 0 rfl;clear f i
   go_wp2_with (go_at_call 101;refine(c _).mono ?_;rintro e w' ⟨rfl,rfl⟩)
   go_ret;exact⟨Rr d.out,j⟩
  | false=>
   rw[kF Dc]at d
   go_enter func158,ntmps158
   go_wp2_with fail;rw[h.out];refine(i _ b).mono ?_;rintro e n ⟨rfl,f⟩;have j:=dD (b.trans f);have y:=(p.grew f).c 0 rfl;clear f i
   go_wp2_with (go_at_call 101;refine(c _).mono ?_;rintro e w' ⟨rfl,rfl⟩)
   go_ret;exact⟨Rr d.out,j⟩
 rw[kF l]at d;have u:(S != 0)=Xc:=Si l
 go_enter func158,ntmps158
 go_wp2_with fail;rw[h.out];refine(i _ b).mono ?_;rintro e n ⟨rfl,f⟩;have j:=dD (b.trans f);clear f i;go_wp2;go_ret;exact⟨Rr d.out,j⟩
def zjI (n:Int):Int:=if 0<=n/\n<=60 then 0 else 4
def zno (n:Int):List Int:=if 0<=n/\n<=60 then Xr n.toNat 0 else []
theorem zjL (n:Int) (w:Xn):Xp prog 59 #[I6 n] w fun e w'=>∃s:Sli,e= Xl (Xm #[Xi #[s.x,I6 0],I6 (zjM n)])/\(zl qA w' (s.x) (znp n)/\j4 w.heap.size (s.x))/\zc w w':=by
 by_cases h:0<=n/\n<=40
 ·obtain⟨k,rfl⟩:∃k:Nat,n=(k:Int):=⟨n.toNat,Wm⟩
  refine(zjJ k Wm w).mono ?_
  rintro e w' ⟨f,rfl,a,d⟩;obtain⟨b,c,rfl,_⟩:=a.1.rows;refine⟨⟨b,(Xr k frF).length,c⟩,?_,⟨?_,a.2⟩,d⟩
  ·unfold zjM;rw[kE h]
  unfold znp;rw[kE h];exact a.1
 refine(zjK n h w).mono ?_;rintro e w' ⟨f,rfl,a,d⟩;obtain⟨b,c,rfl,_⟩:=a.1.rows;refine⟨⟨b,([]:List Fr).length,c⟩,?_,⟨?_,a.2⟩,d⟩
 ·unfold zjM;rw[kF h]
 unfold znp;rw[kF h];exact a.1
theorem znn (n:Int) (w:Xn):Xp prog 60 #[I6 n] w fun e w'=>∃s:Sli,e= Xl (Xm #[s.x,I6 (zjI n)])/\(zl slE w' (s.x) (zno n)/\j4 w.heap.size (s.x))/\zc w w':=by
 by_cases h:0<=n/\n<=60
 ·obtain⟨k,rfl⟩:∃k:Nat,n=(k:Int):=⟨n.toNat,Wm⟩
  refine(znl k Wm w).mono ?_
  rintro e w' ⟨c,d,rfl,b,a⟩;refine⟨⟨c,k,d⟩,?_,⟨?_,b.2⟩,a⟩
  ·unfold zjI;rw[kE h]
  unfold zno;rw[kE h];exact b.1
 refine(znm n h w).mono ?_;rintro e w' ⟨rfl,a⟩;refine⟨⟨Xb,0,0⟩,?_,⟨?_,Zj _⟩,a⟩
 ·unfold zjI;rw[kF h]
 unfold zno;rw[kF h];exact zl.nil slE w'
theorem zgg (n:Int) (w:Xn):Xp prog 61 #[I6 n] w fun e w'=>∃b q:Sli,e= Xl (Xm #[Xi #[b.x,q.x],I6 (Jk n)])/\(jk w' (b.x) (zkJ n)/\jz w' (q.x) []/\j4 w.heap.size (b.x)/\j4 w.heap.size (q.x))/\zc w w':=by
 refine(zoR n w).mono ?_;rintro e w' ⟨d,rfl,⟨b,q,rfl,a,c,i,j⟩,k⟩;obtain⟨d,g,rfl,_⟩:=a.rows;obtain⟨f,h,rfl,_⟩:=c.rows;exact⟨⟨d,(zkJ n).length,g⟩,⟨f,([]:List (Int × List Int)).length,h⟩,rfl,⟨a,c,i,j⟩,k⟩
theorem jF.beside {α:Type} {enc:α->List Xq} {w:Xn} {a:Option Nat} {v:Xq} {l:List α} (h:jF enc w v l) (i:w.grownBy w' a) (k:∀x n c,v= O (Xa x) n c->Xa x.block≠a):jF enc w' v l:=by
 obtain⟨e,c,b,f,g⟩:=h;refine⟨e,c,b,f,fun x m p u j=>?_⟩
 subst m;have d:=g x rfl p u j;rw[World.cell?_of_block (w:=w) (i.block _ (World.block_lt_of_cell? _ _ d) (by rw[QS];exact k x _ _ b))]
 exact d
def zpe (f s b:Int):Prop:=(0<=f/\f<=40)/\(0<=s/\s<=60)/\(0<=b/\b<=80)
def zb5 (f s b:Int):Ma:=⟨Xr f.toNat frF,0,Xr s.toNat 0,Xr s.toNat zp,[],Xr b.toNat zp,[],[],b,[],[⟨Xc,[],qG⟩]⟩
def znr (f s b:Int):List Int:=[zjM f,zjI s,Jk s,Jk b,if 0<=b/\b<=80 then 0 else 4]
theorem zlu {f b:Int} (h:zpe f s b):zw (znr f s b)=0:=by
 obtain⟨a,c,d⟩:=h;unfold znr zjM zjI Jk;rw[kE a,kE c,kE Wm,kE d]
 rfl
theorem zZ {e:Func} {p u t:Tmp} {c:TypeId} (h:e.results=#[.cell p c,.tmp u,.tmp t]) (a:Array Xq) {w:Xn} (hp:a.getD p undef= Xj (Xa ⟨b,0,Xb⟩)) (f:Box w b vs) {d:TypeDesc} (i:Tryz.prog.underlying c=Xa d) (g:d.isRow=Xc) (hi:(Tryz.prog.info? c).map (·.size)=Xa vs.length):
  (results e a).run prog w= .ok (Xm #[Xi vs.toArray,a.getD u undef,a.getD t undef]) w:=by
 have e:a[p]?.getD undef= Xj (Xa ⟨b,0,Xb⟩):=Si hp
 have a:=run_loadVar_mid (P:=prog) w b 0 c vs d f.range i g hi
 simp[results,h,e,asAddr,a]
theorem zml {l:List Int} {n:Int} {k:Nat} (h:(k:Int)<=n\/k=0):ZF l 0 n k=l:=by
 unfold ZF
 apply Xu
 intro i;rw[Xs]
 cases l[i]? with
 | none=>rfl
 | some z=>
  simp only[Option.map_some];rw[kF Wm]
theorem zmm (l) (b a:Int):jV l 0 (a - b*8)=jV l b a:=by
 unfold jV
 congr 1
 funext i z
 by_cases h:a<=8*b+(i:Int)
 ·rw[kE h,kE Wm]
 rw[kF h,kF Wm]
theorem zcN (l:List Int) (n:Int) (w) (f:l.length=8) (a:-9223372036854775808<=n) (b:n<=9223372036854775807):
  Xp prog 134 #[Xi (pgc l).toArray,I6 n] w fun e w'=>e= Xl (Xi (pgc (jV l 0 n)).toArray)/\(jV l 0 n).length=8/\zc w w':=by
 have h:=dD f;have a:Xo ((jV l 0 n).length=8):=show _=_ by unfold jV;simp[f]
 obtain⟨c,b⟩:=kB ((w.alloc (Xk (pgc l).toArray 60)).alloc (Xk #[U8 0,U8 0,U8 0,U8 0,U8 0,U8 0,U8 0,U8 0] 60));have g:=gD2 b
 have i:=x2a b
 have p:Xo (Box c (w.heap.size+1) (pgc zp)):=dD<|by rw[<-b];exact Box.top _ (pgc zp) _ Sm
 have d:=dD b;have m:Xo (Box c w.heap.size (pgc (ZF l 0 n n.toNat))):=show Box _ _ _ by rw[zml Wm];exact i.out
 obtain⟨j,c⟩:=kA (jV l 0 n);rw[c.out]at a⊢;clear b f
 go_enter func134,ntmps134
 go_upto_region 1 with fail;rw[d.out];go_wp2
 all_goals
  go_loopg [5] 8 (fun b d wr=>∃k:Nat,n<=(k:Int)/\(k:Int)<=9223372036854775807/\8 - k<=b/\d=I6 k/\Xo (zc w wr)/\Xo (Box wr w.heap.size (pgc (ZF l 0 n k)))/\Xo (Box wr (w.heap.size+1) (pgc zp)))
  case atStart=>
   exact⟨n.toNat,Wm,Wm,Wm,(by first | rw[Int.toNat_eq_max] | (congr 1;omega) | (congr 1;rw[Int.max_def];split <;> omega) | (congr 1;split <;> omega)),g,m,p⟩
  obtain⟨k,b,b,b,rfl,m,d,p⟩:=hrel
  by_cases f:k<8
  ·have g:(k:Int)<8:=Wm
   obtain⟨z,b⟩:∃z,(ZF l 0 n k)[k]? =Xa z:=⟨_,gE (by rw[zgN,h.out];exact f)⟩
   have s:=d.c k (zd5 b);have t:=d.f;clear b;go_wp2;obtain⟨i,b⟩:=kB (wr.setCell ⟨w.heap.size,k,Xb⟩ (U8 0));have q:Xo (Box i w.heap.size (pgc (ZF l 0 n (k+1)))):=dD<|by rw[<-b,<-zgO (Rx h.out f) Wm,zcL];exact d.set k _
   have r:Xo (Box i (w.heap.size+1) (pgc zp)):=dD<|by rw[<-b];exact p.other Sm _
   have f:Xo (zc w i):=dD<|by rw[<-b];exact zq m Sm _
   rw[b];clear b s t
   go_roundg (8 -(k+1));exact⟨k+1,Wm,Wm,Wm,Gn,f,q,r⟩;omega
  have g:¬(k:Int)<8:=Wm
  have b:Xo (ZF l 0 n k=j):=dD<|by rw[zgP (by rw[h.out];omega),c.out]
  rw[b.out]at d
  go_wp2_with (first | refine zK rfl 60 (.tmp 2) rfl w.heap.size rfl d underlying60 rfl (by rw[Zr,a.out];exact zqL) ?_ | refine zr rfl 60 (.tmp 4) (.tmp 14) rfl (w.heap.size+1) rfl (pgc j) rfl p (by rw[Zr,a.out];rfl) zqL (jd _) ?_)
  intro f c d _;have b:Xo (zc w f):=dD<|zd m d Wm
  go_wp2;refine bodyPost_ret (zX rfl _ rfl c underlying60 rfl (by rw[Zr,a.out];exact zqL)) rfl ⟨rfl,a,b⟩
end
end Go.Proofs.YtjjdljjhmcegdaaGreat
