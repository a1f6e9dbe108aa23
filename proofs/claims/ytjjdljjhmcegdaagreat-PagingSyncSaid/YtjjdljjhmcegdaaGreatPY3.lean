import Derived.Test.YtjjdljjhmcegdaaGreatPY2
namespace Go.Proofs.YtjjdljjhmcegdaaGreat
open Go.Value renaming slice→O,int→Xe,bool→Xh,agg→Xi,pointer→Xj,tuple→Xm
open Go.IntKind renaming i64→Xf,u8→Xg
open Go.Obj renaming cells→Xk
open Go.Ending renaming returned→Xl
open Go renaming World→Xn,Calls→Xp,Value→Xq
open Go.RowKit renaming Hid→Xo
open Option renaming some→Xa,none→Xb
open Bool renaming true→Xc,false→Xd
open List renaming replicate→Xr
open _root_.List renaming eq_of_mem_replicate→Xs,getElem?_append_left→Xt,getElem?_of_mem→Xy,ext_getElem?→Ya,contains_eq_mem→Yc,flatMap_append→Yd,mem_filter→Ye,mem_singleton→Yf,take_of_length_le→Yg,getElem?_map→Yh,map_nil→Yi,replicate_append_replicate→Yj,set_append_right→Yk,take→Yl,drop→Ym,getElem?_mapIdx→Yn,mem_cons_of_mem→Yo,find?_eq_none→Yr,mem_range→Ys,mem_cons_self→Yt,pairwise_iff_getElem→Yu,getElem?_cons_succ→Yx,all_eq_true→Yy,mem_map→Yz,length_eq_one_iff→Oa,mem_append→Ob,contains_iff_mem→Oc,getElem?_modify→Od,drop_replicate→Of,countP_eq_zero→Og,filter_eq_self→Oh,map_congr_left→Oi,mem_replicate→Oj,append_assoc→Ok,range→Om
open Go.Sem renaming run_pure→Xu,run_bind→Xw
open _root_.Bool renaming and_eq_true→Xv,not_eq_true'→Yw
open _root_.Nat renaming le_of_ble_eq_true→Xx,sub_self→Yp,lt_of_lt_of_le→Yq,le_succ→Oe
open Go.Addr renaming add_lit→Xz
open _root_.Array renaming getD_eq_getD_getElem?→Yb
open Go.Act renaming put→Yv
open Go.Region renaming ready→Ol
set_option maxRecDepth 100000
set_option maxHeartbeats 4000000
variable{L:List Int} {Q:Exit->Act->Xn->Prop} {T:List (Nat->En)} {V:MaV} {W w' w0:Xn} {b fi hi id ix j:Nat} {l:List Ar} {m m':Ma} {o:Oper} {ops:Array Oper} {s z:Int} {t:TypeId} {vl vt:Sli} {vs:List Xq}
open Go.Proofs.Tryz
section
open Go.RowKit
theorem zks (q) (n m z:Nat) (_h:m<=n) (a:z=Nat.min m (n - m)):(Xr m q++Xr (n - m) fr0).take m++(Xr z q++(Xr m q++Xr (n - m) fr0).drop (m+z))=Xr (m+z) q++Xr (n -(m+z)) fr0:=by
 have b:z<=n - m:=by rw[a];exact Nat.min_le_right _ _
 rw[List.take_append_of_le_length (by simp),Yg (by simp),List.drop_append,List.drop_of_length_le (by simp),List.nil_append,lR,Of,<-Ok,Yj]
 congr 2
 omega
theorem zgX (q) (x:Nat) (c n:Nat) (hn:n<=40) (hn1:1<=n) (w:Xn) (hv:qh w (O (Xa ⟨x,0,Xb⟩) 1 c) [q]):
  Xp prog 99 #[O (Xa ⟨x,0,Xb⟩) 1 c,I6 (n:Int)] w fun e w'=>∃b,e= Xl b/\qX w.heap.size w' b (Xr n q)/\zc w w':=by
 have HC:Xo (Zf w ⟨x,0,Xb⟩ ([q].flatMap frv)):=by
  obtain⟨⟨a,c',h1,_,h3⟩,_⟩:=hv;cases h1;exact h3 _ rfl
 clear hv;have hm:=zgY n hn w;have hnz:¬(n:Int)<0:=by omega
 have hn2:¬(9223372036854775807:Int)< (n:Int):=by omega
 go_enter func99,ntmps99
 go_wp2_with (first
  | (go_at_call 135;refine hm.mono ?_;rintro e w' ⟨rfl,hw⟩;rw[hw])
  | (refine Ji rfl (.tmp 29) rfl n rfl (by show n*40<=_;omega) ?_;intro C ow;have OW:Xo (zk w.heap.size (w.alloc (Xk C 62)) (O (Xa ⟨w.heap.size,0,Xb⟩) n n) (Xr n fr0)):=ow;clear ow)
  | (refine Q1 rfl (.tmp 31) (.tmp 32) rfl w.heap.size (O (Xa ⟨w.heap.size,0,Xb⟩) n n) (Xr n fr0) OW w.heap.size rfl 0 n n _ rfl ?a1 _ 1 c rfl [q] ?a2 ?a3 ?a4 ?_))
 case a1=>simp
 case a2=>show 1=Nat.min 1 n;exact(Nat.min_eq_left hn1).symm
 case a3=>exact HC.grew (za _ _)
 case a4=>simp;omega
 intro W1 ow1 gr1 _;have OW1:Xo (zk w.heap.size W1 (O (Xa ⟨w.heap.size,0,Xb⟩) n n) (Xr 1 q++Xr (n - 1) fr0)):=show zk _ _ _ (Xr 1 q++Xr (n - 1) fr0) by simpa [Of]using ow1
 have G1:=dD<|zd (za _ _) gr1 (nR _);clear ow1 gr1;go_wp2
 go_loopg [8] n (fun gg s8 wr=>∃m:Nat,1<=m/\m<=n/\n - m<=gg/\s8=I6 m/\Xo (zk w.heap.size wr (O (Xa ⟨w.heap.size,0,Xb⟩) n n) (Xr m q++Xr (n - m) fr0))/\Xo (zc w wr))
 case atStart=>exact⟨1,nR _,hn1,by omega,rfl,OW1,G1⟩
 obtain⟨m,hm1,hmn,hg,rfl,OF,GW⟩:=hrel
 by_cases hlt:m<n
 ·have hltz:=kC hlt
  have hmnz:(m:Int)<=(n:Int):=by omega
  have OFd:=dD<|OF.grew (gW _)
  obtain⟨z,HZ⟩:∃z,Xo (z=Nat.min m (n - m)):=⟨_,rfl⟩;have hz0:z=min m (n - m):=HZ.out;have hz1:1<=z:=by omega
  have hz2:z<=m:=by omega
  have hz3:z<=n - m:=by omega
  clear hz0;have hsrc:Zf wr.drew ⟨w.heap.size,0,Xb⟩ ((Xr z q).flatMap frv):=fun j u hj=>by
   have h1:=OFd.1.cells rfl;refine h1 j u ?_;rw[Yd,Xt]
   ·rw[show m=z+(m - z) by omega,<-Yj,Yd,Xt (gS.1 hj).1]
    exact hj
   have h3:=(gS.1 hj).1;rw[QF]at h3⊢;simp only[lR]at h3⊢;exact Yq h3 (Nat.mul_le_mul_right _ hz2)
  obtain⟨W2,hrun,ow2,gr2,_⟩:=zak 3 w.heap.size _ _ OFd w.heap.size rfl m (n - m) (n - m) ⟨w.heap.size,0,Xb⟩ m n (Xr z q) (by rw[lR];exact HZ) hsrc (by simp;omega)
  have hcopy:(Builtin.copy_ #[26,26] 3 #[O (Xa ⟨w.heap.size,m*13,Xb⟩) (n - m) (n - m),O (Xa ⟨w.heap.size,0,Xb⟩) m n]).run prog wr.drew= .ok (I6 (z:Int)) W2:=by
   have h1:=hrun;rw[lR]at h1;exact h1
  have OW2:Xo (zk w.heap.size W2 (O (Xa ⟨w.heap.size,0,Xb⟩) n n) (Xr (m+z) q++Xr (n -(m+z)) fr0)):=dD<|by
   rw[<-zks q n m z (by omega) HZ.out]
   rw[lR]at ow2;exact ow2
  have GW2:=dD<|zd (GW.trans (gW _)) gr2 (nR _)
  clear hsrc hrun ow2 gr2;go_wp2
  go_region
  go_wp2
  go_roundg (n -(m+z))
  case measure=>omega
  exact⟨m+z,by omega,by omega,nR _,by go_num,OW2,GW2⟩
 have hltz:=kD hlt
 have:m=n:=by omega
 subst this;have HO:Xo (zk w.heap.size wr (O (Xa ⟨w.heap.size,0,Xb⟩) m m) (Xr m q)):=dD<|by have:=OF.out;simpa using this
 go_wp2;go_ret;exact⟨_,rfl,HO.new,GW⟩
def zj7 (n:Int):Int:=if 0<=n/\n<=40 then 0 else 4
def znI (n:Int):List Fr:=if 0<=n/\n<=40 then Xr n.toNat frF else []
theorem zhS (q) (x:Nat) (c:Nat) (w:Xn):
  Xp prog 99 #[O (Xa ⟨x,0,Xb⟩) 1 c,I6 0] w fun e w'=>∃b,e= Xl b/\qX w.heap.size w' b (Xr 0 q)/\zc w w':=by
 have a:=zgY 0 (by omega) w
 go_enter func99,ntmps99
 go_wp2_with (first
  | (go_at_call 135;refine a.mono ?_;rintro e w' ⟨rfl,a⟩;rw[a])
  | (refine Ji rfl (.tmp 29) rfl 0 rfl (by show 0*40<=_;omega) ?_;intro C a;have d:Xo (zk w.heap.size (w.alloc (Xk C 62)) (O (Xa ⟨w.heap.size,0,Xb⟩) 0 0) (Xr 0 fr0)):=a;clear a)
  | (refine Q1 rfl (.tmp 31) (.tmp 32) rfl w.heap.size (O (Xa ⟨w.heap.size,0,Xb⟩) 0 0) (Xr 0 fr0) d w.heap.size rfl 0 0 0 _ rfl ?a1 _ 1 c rfl [] ?a2 ?a3 ?a4 ?_))
 case a1=>simp
 case a2=>rfl
 case a3=>intro j u a;simp at a
 case a4=>simp
 intro g d a _;have f:Xo (zk w.heap.size g (O (Xa ⟨w.heap.size,0,Xb⟩) 0 0) (Xr 0 q)):=dD<|by simpa using d
 have h:=dD<|zd (za _ _) a (nR _);clear d a;go_wp2
 go_loopg [8] 0 (fun _ a wr=>a=I6 0/\wr=g)
 case atStart=>exact⟨rfl,rfl⟩
 obtain⟨rfl,rfl⟩:=hrel;go_wp2;go_ret;exact⟨_,rfl,f.new,h⟩
theorem zj4 (n:Nat) (z:n<=40) (w:Xn):
  Xp prog 59 #[I6 (n:Int)] w fun e w'=>∃b,e= Xl (Xm #[Xi #[b,I6 0],I6 0])/\qX w.heap.size w' b (Xr n frF)/\zc w w':=by
 have B:¬(n:Int)<0:=by omega
 have A:¬(40:Int)< (n:Int):=by omega
 have d:∀W x,Box W x (frv frF)->Xp prog 99 #[O (Xa ⟨x,0,Xb⟩) 1 1,I6 (n:Int)] W fun e w'=>∃b,e= Xl b/\qX W.heap.size w' b (Xr n frF)/\zc W w':=fun W x C=>by
  by_cases u:1<=n
  ·refine zgX frF x 1 n z u W ⟨⟨_,1,rfl,fun h=>(by cases h),fun L D=>?_⟩,by show 1*40<=_;omega⟩
   cases D;intro E K y;rw[Xz,zA];exact C.c E (by have h:=y;simp only[List.flatMap_cons,List.flatMap_nil,List.append_nil]at h;exact h)
  have:n=0:=by omega
  subst this;exact zhS frF x 1 W
 go_enter func59,ntmps59
 go_wp2_with fail;refine(JF _).mono ?_;rintro e g ⟨rfl,i⟩;have m:=dD<|(Box.top w [eS,I6 0] _ rfl).grew i;have k:Xo (zc w g):=(za _ _).trans i;clear i;simp only[frv,frF,pg0];go_wp2_with fail;refine(d _ _ (Box.top g _ _ rfl)).mono ?_;rintro e t ⟨b,rfl,f,j⟩;obtain⟨p,q,rfl,_⟩:=f.1.rows;rw[lR]at f⊢;have s:Xo (qX g.heap.size t (O p n q) (Xr n frF)):=f.base (by simp)
 have c:=(m.alloc (Xk #[U8 0,U8 0,U8 0,U8 0,U8 0,U8 0,U8 0,U8 0,I6 0,Xh Xd,Xh Xd,I6 (-1),I6 0] 62)).grew j;have r:=dD ((k.trans (za _ _)).trans j);have F:=c.c 0 rfl;have G:=c.c 1 rfl;have H:=c.f;have l:=dD m.lt;clear f j;go_wp2;refine bodyPost_ret (v:= Xm #[Xi #[O p n q,I6 0],I6 0]) (by simp[results,Tryz.results59,go_sem, *]) rfl ⟨_,rfl,?_,?_⟩
 ·exact((s.setCell (a:=⟨w.heap.size,0,Xb⟩) l _).setCell (a:=⟨w.heap.size,1,Xb⟩) l _).base (bS k)
 exact zy (zy r (by simp) _) (by simp) _
theorem zj5 (n:Int) (a:¬(0<=n/\n<=40)) (w:Xn):
  Xp prog 59 #[I6 n] w fun e w'=>∃b,e= Xl (Xm #[Xi #[b,I6 0],I6 4])/\qX w.heap.size w' b ([]:List Fr)/\zc w w':=by
 by_cases a:n<0
 ·go_enter func59,ntmps59
  go_wp2;refine bodyPost_ret (v:= Xm #[Xi #[eS,I6 0],I6 4]) (by simp[results,Tryz.results59,go_sem, *]) rfl ⟨_,rfl,qX.nil _ _,?_⟩
  exact za _ _
 have a:40<n:=by omega
 go_enter func59,ntmps59
 go_wp2;refine bodyPost_ret (v:= Xm #[Xi #[eS,I6 0],I6 4]) (by simp[results,Tryz.results59,go_sem, *]) rfl ⟨_,rfl,qX.nil _ _,?_⟩
 exact za _ _
theorem znE (n:Nat) (a:n<=60) (w:Xn):
  Xp prog 60 #[I6 (n:Int)] w fun e w'=>∃a b,e= Xl (Xm #[O a n b,I6 0])/\Za slE w.heap.size w' (O a n b) (Xr n 0)/\zc w w':=by
 have a:¬(n:Int)<0:=by omega
 have a:¬(60:Int)< (n:Int):=by omega
 go_enter func60,ntmps60
 go_wp2_with (refine Qw slE rfl (.tmp 10) rfl n rfl (by show n*8<=_;omega) ?_)
 intro C a;have b:Xo (zb slE w.heap.size (w.alloc (Xk C 3)) (O (Xa ⟨w.heap.size,0,Xb⟩) n n) (Xr n 0)):=a;clear a
 show wpList _ _ _ _ _ (w.alloc (Xk C 3))
 obtain⟨a,a⟩:=kB (w.alloc (Xk C 3));have c:=gA a
 rw[a]at b⊢;clear a;go_wp2;refine bodyPost_ret (v:= Xm #[O (Xa ⟨w.heap.size,0,Xb⟩) n n,I6 0]) (by simp[results,Tryz.results60,go_sem, *]) rfl ⟨_,_,rfl,b.new,c⟩
theorem znF (n:Int) (a:¬(0<=n/\n<=60)) (w):
  Xp prog 60 #[I6 n] w fun e w'=>e= Xl (Xm #[eS,I6 4])/\zc w w':=by
 by_cases b:n<0
 ·clear a
  go_enter func60,ntmps60
  go_wp2;refine bodyPost_ret (v:= Xm #[eS,I6 4]) (by simp[results,Tryz.results60,go_sem, *]) rfl ⟨rfl,zc.refl _⟩
 have b:60<n:=by omega
 clear a
 go_enter func60,ntmps60
 go_wp2;refine bodyPost_ret (v:= Xm #[eS,I6 4]) (by simp[results,Tryz.results60,go_sem, *]) rfl ⟨rfl,zc.refl _⟩
theorem zgP (v) (fs:List Int) (b:Int) (w) (x:zq blE w v fs):
  Xp prog 181 #[v,I6 b] w fun e w'=>(∃z:Int,e= Xl (I6 z)/\decide (0<=z)=fs.contains b)/\zc w w':=by
 have k:=x.short;obtain⟨K,M,rfl,d⟩:=x.nums;have C:=dD d;clear d x;obtain⟨n,s⟩:=kA fs.length;rw[s.out]at k⊢;obtain⟨i,c⟩:=kA (fs.contains b);rw[c.out]
 go_enter func181,ntmps181
 go_wp2
 go_loopg [5,8] n (fun D _ H wr=>∃a:Nat,a<=n/\n - a<=D/\H=I6 a/\Xo (zc w wr)/\Xo (∀(j:Nat) q,j<a->fs[j]? =Xa q->¬b=q))
 case atStart=>exact⟨0,nZ _,by omega,rfl,zc.refl w,fun j q l=>absurd l (nL _)⟩
 obtain⟨a,F,P,rfl,p,A⟩:=hrel
 by_cases f:a<n
 ·have m:=kC f
  obtain⟨q,t⟩:∃q,Xo (fs[a]? =Xa q):=⟨_,gE (by rw[s.out];exact f)⟩
  obtain⟨L,rfl,y⟩:=C.out a q t.out;have N:=y wr p.out;clear y
  by_cases h:b=q
  ·have u:(b == q)=Xc:=by simpa using h
   have r:Xo (decide (0<=(a:Int))=i):=dD<|by
    rw[<-c.out,h,Oc.2 (mG t.out)];simp
   clear h;go_wp2;go_ret;exact⟨⟨_,rfl,r⟩,p⟩
  have u:(b == q)=Xd:=by simpa using h
  have B:Xo (∀(j:Nat) q,j<a+1->fs[j]? =Xa q->¬b=q):=dD<|fun j G l g=>by
   by_cases e:j=a
   ·subst e;rw[t.out]at g;cases g;exact h
   exact A j G (by omega) g
  clear h;go_wp2
  go_roundg (n -(a+1))
  case measure=>omega
  exact⟨a+1,by omega,by omega,by go_num,p,B⟩
 have m:=kD f
 have:a=n:=by omega
 subst this;have r:Xo (decide (0<=(-1:Int))=i):=dD<|by
  have:fs.contains b=Xd:=by
   cases E:fs.contains b with
   | false=>rfl
   | true=>
    obtain⟨j,l⟩:=Xy (Oc.1 E);exact absurd rfl (A j b (by rw[<-s.out];exact(gS.1 l).1) l)
  rw[<-c.out,this];rfl
 go_wp2;go_ret;exact⟨⟨_,rfl,r⟩,p⟩
theorem zdN (v) (fs:List Int) (b:Int) (w) (c:zq blE w v fs):
  Xp prog 174 #[v,I6 b] w fun e w'=>e= Xl (Xh (fs.contains b))/\zc w w':=by
 have a:=zgP v fs b w c;obtain⟨d,d,rfl,_⟩:=c.nums;clear c
 generalize fs.contains b=c at a⊢
 generalize fs.length=n at a⊢
 go_enter func174,ntmps174
 go_wp2_with fail;refine a.mono ?_;rintro e c ⟨⟨z,rfl,d⟩,c⟩;have f:=dD c;clear c a;have a:=dD d;clear d;go_wp2;go_ret;exact⟨by rw[<-a.out];rfl,f⟩
theorem zph (f:Fl) (g) (h:Nat) (b:Int) (p:Nat) (w) (k:Box w p [I6 b]) (q:zq blE w (O g f.bl.length h) f.bl):
  Xp prog 173 #[Xi #[I6 f.size,O g f.bl.length h],Xj (Xa ⟨p,0,Xb⟩)] w fun e w'=>e= Xl (Xh (f.bl.contains b))/\zc w w':=by
 have j:∀W,zc w W->Xp prog 174 #[O g f.bl.length h,I6 b] W fun e w'=>e= Xl (Xh (f.bl.contains b))/\zc W w':=fun W c=>zdN _ f.bl b W (q.grew c)
 have l:=k.lt;have c:p≠w.heap.size:=by omega
 have c:w.heap.size≠p:=by omega
 obtain⟨c,c⟩:=kB (w.alloc (Xk #[I6 f.size,O g f.bl.length h] 65));have d:=gA c
 have m:=(k.grew d).c 0 rfl;have n:(w.alloc (Xk #[I6 f.size,O g f.bl.length h] 65)).cell? ⟨p,0,Xb⟩=Xa (I6 b):=by rw[c];exact m
 have i:=dD c;clear c q k
 generalize f.bl.contains b=c at j⊢
 generalize f.bl.length=k at*
 generalize f.size=q at*
 have c:=World.cell?_of_block (w:=w) (w':=w.alloc (Xk #[I6 q,O g k h] 65)) (a:=⟨p,0,Xb⟩) (Below.heap_alloc _ _ _ l);rw[n]at c;have g:=c.symm;clear m n c
 go_enter func173,ntmps173
 go_wp2_with fail;rw[i.out];refine(j _ d).mono ?_;rintro e c ⟨rfl,c⟩;have g:=dD (d.trans c);clear c j;go_wp2;go_ret;exact⟨rfl,g⟩
theorem zfB (v fs) (b:Int) (p:Nat) (w) (d:Box w p [I6 b]) (f:z5 w v fs):
  Xp prog 182 #[v,.func (.func 173) #[] #[Xj (Xa ⟨p,0,Xb⟩)]] w fun e w'=>(∃z:Int,e= Xl (I6 z)/\decide (0<=z)=zU fs b)/\zc w w':=by
 obtain⟨a,c,rfl,c,a⟩:=f.rows;have s:=dD a;have l:=dD d;have g:=enters_of func173 (by kernel_rfl) rfl
 clear a f d;obtain⟨n,u⟩:=kA fs.length;rw[u.out]at c⊢;obtain⟨k,d⟩:=kA (zU fs b);rw[d.out]
 go_enter func182,ntmps182
 go_wp2
 go_loopg [5,8] n (fun a _ f wr=>∃c:Nat,c<=n/\n - c<=a/\f=I6 c/\Xo (zc w wr)/\Xo (∀(j:Nat) (q:Fl),j<c->fs[j]? =Xa q->q.bl.contains b=Xd))
 case atStart=>exact⟨0,nZ _,by omega,rfl,zc.refl w,fun j q m=>absurd m (nL _)⟩
 obtain⟨c,a,a,rfl,h,A⟩:=hrel
 by_cases f:c<n
 ·have r:=kC f
  obtain⟨q,x⟩:∃q,Xo (fs[c]? =Xa q):=⟨_,gE (by rw[u.out];exact f)⟩
  obtain⟨a,rfl,t,y,g,i⟩:=s.out c q x.out;obtain⟨a,a⟩:=i wr h.out;have a:=zph q t y b p wr (l.grew h) (g.grew h);clear i g
  cases i:q.bl.contains b with
  | true=>
   rw[i]at a;have t:Xo (decide (0<=(c:Int))=k):=dD<|by
    rw[<-d.out];unfold zU;rw[zpE x.out i];simp
   clear i;go_wp2_with fail;refine a.mono ?_;rintro e z ⟨rfl,l⟩;have s:=dD (h.trans l);clear l a;go_wp2;go_ret;exact⟨⟨_,rfl,t⟩,s⟩
  | false=>
   rw[i]at a;have y:Xo (∀(j:Nat) (q:Fl),j<c+1->fs[j]? =Xa q->q.bl.contains b=Xd):=dD<|fun j B m g=>by
    by_cases e:j=c
    ·subst e;rw[x.out]at g;cases g;exact i
    exact A j B (by omega) g
   clear i;go_wp2_with fail;refine a.mono ?_;rintro e z ⟨rfl,l⟩;have s:=dD (h.trans l);clear l a;go_wp2
   go_roundg (n -(c+1))
   case measure=>omega
   exact⟨c+1,by omega,by omega,by go_num,s,y⟩
 have r:=kD f
 have:c=n:=by omega
 subst this;have t:Xo (decide (0<=(-1:Int))=k):=dD<|by
  rw[<-d.out];unfold zU;rw[zpD (fun j q m=>A.out j q (by rw[<-u.out];exact(gS.1 m).1) m)]
  rfl
 go_wp2;go_ret;exact⟨⟨_,rfl,t⟩,h⟩
theorem zcx (v fs) (b:Int) (p:Nat) (w) (d:Box w p [I6 b]) (c:z5 w v fs):
  Xp prog 175 #[v,.func (.func 173) #[] #[Xj (Xa ⟨p,0,Xb⟩)]] w fun e w'=>e= Xl (Xh (zU fs b))/\zc w w':=by
 have a:=zfB v fs b p w d c;obtain⟨f,f,rfl,_⟩:=c.rows;clear c d
 generalize zU fs b=c at a⊢
 generalize fs.length=n at a⊢
 go_enter func175,ntmps175
 go_wp2_with fail;refine a.mono ?_;rintro e c ⟨⟨z,rfl,d⟩,c⟩;have f:=dD c;clear c a;have a:=dD d;clear d;go_wp2;go_ret;exact⟨by rw[<-a.out];rfl,f⟩
def Zg (fs:List Fl) (k:Nat):List Int:=((Om k).filter fun(b:Nat)=>!zU fs (b:Int)).map fun(b:Nat)=>(b:Int)
theorem zh8 (fs) (k:Nat):Zg fs (k+1)=if zU fs (k:Int)=Xc then Zg fs k else Zg fs k++ [(k:Int)]:=by
 unfold Zg;rw[List.range_succ,List.filter_append]
 cases h:zU fs (k:Int)with
 | true=>simp[h]
 | false=>simp[h]
theorem zkf (fs) (n:Nat):Zg fs n=(QM fs (n:Int)).map fun(b:Nat)=>(b:Int):=by
 unfold Zg QM;rw[tN]
theorem zke (fs) (k:Nat):(Zg fs k).length<=k:=by
 unfold Zg;rw[List.length_map];exact nT (List.length_filter_le _ _) (by simp)
theorem zjg (v fs) (m:Nat) (a:m<=80) (w:Xn) (c:z5 w v fs):
  Xp prog 159 #[Xi #[v,I6 (m:Int)]] w fun e w'=>∃b,e= Xl b/\zb blE (w.heap.size+1) w' b (Zg fs m)/\zc w w':=by
 have f:=dD c;obtain⟨d,g,rfl,a,_⟩:=c.rows;clear c;obtain⟨n,c⟩:=kA fs.length;rw[c.out]at a f⊢;have a:∀(c:Fn) (first a:Array Xq) (w:Xn),(Instr.makeFunc c first a).run prog w= .ok (.func c first a) w:=fun _ _ _ _=>rfl
 obtain⟨B,a⟩:=kB (w.alloc (Xk #[O d n g,I6 (m:Int)] 37));have j:=gA a
 have s:=xA a
 have k:=sA a
 have c:=dD a;clear a
 go_enter func159,ntmps159
 go_wp2;rw[c.out]
 go_loopg [3,4,5,8] m (fun a d _ _ g wr=>∃(c:Nat) (p:Option Addr) (q:Nat),c<=m/\m - c<=a/\g=I6 c/\d= .slice p (Zg fs c).length q/\Xo (zc B wr)/\Xo (zb blE (w.heap.size+1) wr (.slice p (Zg fs c).length q) (Zg fs c)))
 case atStart=>exact⟨0,Xb,0,nZ _,by omega,rfl,rfl,zc.refl _,zb.nil _ _ _⟩
 obtain⟨c,p,q,a,a,rfl,rfl,h,A⟩:=hrel
 by_cases l:c<m
 ·have n:=kC l
  obtain⟨g,d⟩:=kB (wr.alloc (Xk #[I6 (c:Int)] 3));have i:=gA d
  have r:=xA d
  have a:=zcx _ fs (c:Int) wr.heap.size g r (f.grew ((j.trans h).trans i));have z:=dD (A.grew i);have g:=dD d;have f:=zh8 fs c;have F:=dD<|zke fs c;clear d;go_upto_region 5 with fail;rw[g.out];have C:=(s.grew (h.trans i)).c 0 rfl;have D:=(s.grew (h.trans i)).c 1 rfl;have g:=dD r.lt;obtain⟨d,d⟩:=kB wr.heap.size;rw[d]at a r g⊢;clear d
  cases x:zU fs (c:Int)with
  | true=>
   rw[x]at a f;rw[kE rfl]at f;have d:=dD f;clear f x;go_wp2_with fail;refine a.mono ?_;rintro e u ⟨rfl,g⟩;have s:=dD ((h.trans i).trans g);have t:Xo (zb blE (w.heap.size+1) u (.slice p (Zg fs (c+1)).length q) (Zg fs (c+1))):=show zb _ _ _ _ _ by rw[d.out];exact z.grew g
   have y:Xo ((Zg fs (c+1)).length=(Zg fs c).length):=dD<|by rw[d.out]
   rw[<-y.out];clear g a C D;go_wp2
   go_roundg (m -(c+1))
   case measure=>omega
   exact⟨c+1,p,q,by omega,by omega,by go_num,rfl,s,t⟩
  | false=>
   rw[x]at a f;rw[kF (by decide)]at f
   have d:=dD f;clear f x;go_wp2_with fail;refine a.mono ?_;rintro e u ⟨rfl,g⟩;have s:=dD ((h.trans i).trans g);have t:=dD (z.grew g);have f:=(r.grew g).c 0 rfl;clear g a C D;have a:Xo (w.heap.size+1<=u.heap.size):=show _<=_ by
    have:=bS s.out;rw[k.out]at this;exact this
   go_wp2_with (at_builtin;refine zt (E:=blE) rfl (.tmp 17) (.tmp 19) rfl (w.heap.size+1) _ (Zg fs c) rfl (t.grew (za _ _)) _ [(c:Int)] rfl (jV blE u (c:Int) _ _ rfl (by show 8<=_;omega)) ?qb ?qc ?_)
   case qb=>
    have:=F.out
    show(_+1)*8<=_
    omega
   case qc=>simp;have:=a.out;omega
   intro a p a f;obtain⟨g,i,rfl⟩:=a.form;have r:Xo (zb blE (w.heap.size+1) p (.slice g (Zg fs (c+1)).length i) (Zg fs (c+1))):=dD<|by rw[d.out];exact a
   have q:Xo (zc B p):=dD<|zT (s.trans (za _ _)) f (fun p u=>by
    have s:=(t.lt p u).1;rw[k.out];exact s)
   rw[<-d.out];clear a f;go_wp2
   go_roundg (m -(c+1))
   case measure=>omega
   exact⟨c+1,g,i,by omega,by omega,by go_num,rfl,q,r⟩
 have n:=kD l
 have:c=m:=by omega
 subst this;have a:=dD (j.trans h);go_wp2;go_ret;exact⟨_,rfl,A,a⟩
theorem zlI (n:Int) (w):
  Xp prog 62 #[I6 n] w fun e w'=>e= Xl (Xm #[Xi #[eS,I6 (if 0<=n/\n<=80 then n else 0)],I6 (if 0<=n/\n<=80 then 0 else 4)])/\zc w w':=by
 by_cases h:0<=n/\n<=80
 ·rw[kE h,kE h];have a:=fun W=>Z4 (m:=n) (n:=81) h.1 (by omega) W
  clear h
  go_enter func62,ntmps62
  go_wp2_with (go_at_call 101;refine(a _).mono ?_;rintro e w' ⟨rfl,rfl⟩)
  refine bodyPost_ret (v:= Xm #[Xi #[eS,I6 n],I6 0]) (by simp[results,Tryz.results62,go_sem, *]) rfl ⟨rfl,?_⟩
  first | exact za _ _ | exact Below.setCell (Below.setCell (za _ _) (p:=⟨w.heap.size,0,Xb⟩) (by simp) _) (p:=⟨w.heap.size,1,Xb⟩) (by simp) _
 rw[kF h,kF h];have a:=fun W=>zbJ (m:=n) (n:=81) (by omega) W
 clear h
 go_enter func62,ntmps62
 go_wp2_with (go_at_call 101;refine(a _).mono ?_;rintro e w' ⟨rfl,rfl⟩)
 refine bodyPost_ret (v:= Xm #[Xi #[eS,I6 0],I6 4]) (by simp[results,Tryz.results62,go_sem, *]) rfl ⟨rfl,?_⟩
 first | exact za _ _ | exact Below.setCell (Below.setCell (za _ _) (p:=⟨w.heap.size,0,Xb⟩) (by simp) _) (p:=⟨w.heap.size,1,Xb⟩) (by simp) _
def znb (fs:List Fl) (cnt k:Int):Int:=if stW fs cnt=0 then(if inL fs.length k=Xc then 0 else 5)else stW fs cnt
theorem zfZ (v fs) (a k:Int) (w) (m:z5 w v fs):
  Xp prog 158 #[Xi #[v,I6 a],I6 k] w fun e w'=>e= Xl (I6 (znb fs a k))/\zc w w':=by
 have i:∀W,zc w W->Xp prog 74 #[Xi #[v,I6 a]] W fun e w'=>e= Xl (I6 (stW fs a))/\zc W w':=fun W t=>zcM v fs a W (m.grew t)
 obtain⟨r,s,rfl,q,_⟩:=m.rows;clear m;have d:Xo (znb fs a k=if stW fs a=0 then(if inL fs.length k=Xc then 0 else 5)else stW fs a):=rfl;have c:∀W,Xp prog 101 #[I6 k,I6 (fs.length:Int)] W fun e w'=>e= Xl (Xh (inL fs.length k))/\w'=W:=fun W=>zdR k _ W
 generalize znb fs a k=Z at d⊢
 generalize inL fs.length k=B at d c
 generalize stW fs a=S at d i
 generalize fs.length=x at*
 obtain⟨z,g⟩:=kB (w.alloc (Xk #[O r x s,I6 a] 37));have b:=gA g
 have p:=xA g
 have h:=dD g;clear g
 by_cases l:S=0
 ·rw[kE l]at d;subst l
  cases B with
  | true=>
   rw[kE rfl]at d
   go_enter func158,ntmps158
   go_wp2_with fail;rw[h.out];refine(i _ b).mono ?_;rintro e n ⟨rfl,f⟩;have j:=dD (b.trans f);have y:=(p.grew f).c 0 rfl;clear f i
   go_wp2_with (go_at_call 101;refine(c _).mono ?_;rintro e w' ⟨rfl,rfl⟩)
   go_ret;exact⟨by rw[d.out];rfl,j⟩
  | false=>
   rw[kF (by decide)]at d
   go_enter func158,ntmps158
   go_wp2_with fail;rw[h.out];refine(i _ b).mono ?_;rintro e n ⟨rfl,f⟩;have j:=dD (b.trans f);have y:=(p.grew f).c 0 rfl;clear f i
   go_wp2_with (go_at_call 101;refine(c _).mono ?_;rintro e w' ⟨rfl,rfl⟩)
   go_ret;exact⟨by rw[d.out];rfl,j⟩
 rw[kF l]at d;have u:(S != 0)=Xc:=by simpa using l
 go_enter func158,ntmps158
 go_wp2_with fail;rw[h.out];refine(i _ b).mono ?_;rintro e n ⟨rfl,f⟩;have j:=dD (b.trans f);clear f i;go_wp2;go_ret;exact⟨by rw[d.out];rfl,j⟩
def zj3 (n:Int):Int:=if 0<=n/\n<=60 then 0 else 4
def znH (n:Int):List Int:=if 0<=n/\n<=60 then Xr n.toNat 0 else []
theorem zj6 (n:Int) (w:Xn):Xp prog 59 #[I6 n] w fun e w'=>∃s:Sli,e= Xl (Xm #[Xi #[s.x,I6 0],I6 (zj7 n)])/\(zq JR w' (s.x) (znI n)/\Zm w.heap.size (s.x))/\zc w w':=by
 by_cases h:0<=n/\n<=40
 ·obtain⟨k,rfl⟩:∃k:Nat,n=(k:Int):=⟨n.toNat,by omega⟩
  refine(zj4 k (by omega) w).mono ?_
  rintro e w' ⟨f,rfl,a,d⟩;obtain⟨b,c,rfl,_⟩:=a.1.rows;refine⟨⟨b,(Xr k frF).length,c⟩,?_,⟨?_,a.2⟩,d⟩
  ·unfold zj7;rw[kE h]
  unfold znI;rw[kE h];exact a.1
 refine(zj5 n h w).mono ?_;rintro e w' ⟨f,rfl,a,d⟩;obtain⟨b,c,rfl,_⟩:=a.1.rows;refine⟨⟨b,([]:List Fr).length,c⟩,?_,⟨?_,a.2⟩,d⟩
 ·unfold zj7;rw[kF h]
 unfold znI;rw[kF h];exact a.1
theorem znG (n:Int) (w:Xn):Xp prog 60 #[I6 n] w fun e w'=>∃s:Sli,e= Xl (Xm #[s.x,I6 (zj3 n)])/\(zq slE w' (s.x) (znH n)/\Zm w.heap.size (s.x))/\zc w w':=by
 by_cases h:0<=n/\n<=60
 ·obtain⟨k,rfl⟩:∃k:Nat,n=(k:Int):=⟨n.toNat,by omega⟩
  refine(znE k (by omega) w).mono ?_
  rintro e w' ⟨c,d,rfl,b,a⟩;refine⟨⟨c,k,d⟩,?_,⟨?_,b.2⟩,a⟩
  ·unfold zj3;rw[kE h]
  unfold znH;rw[kE h];exact b.1
 refine(znF n h w).mono ?_;rintro e w' ⟨rfl,a⟩;refine⟨⟨Xb,0,0⟩,?_,⟨?_,ZB _⟩,a⟩
 ·unfold zj3;rw[kF h]
 unfold znH;rw[kF h];exact zq.nil slE w'
theorem zgE (n:Int) (w:Xn):Xp prog 61 #[I6 n] w fun e w'=>∃b q:Sli,e= Xl (Xm #[Xi #[b.x,q.x],I6 (JO n)])/\(jF w' (b.x) (zk1 n)/\jU w' (q.x) []/\Zm w.heap.size (b.x)/\Zm w.heap.size (q.x))/\zc w w':=by
 refine(zo8 n w).mono ?_;rintro e w' ⟨d,rfl,⟨b,q,rfl,a,c,i,j⟩,k⟩;obtain⟨d,g,rfl,_⟩:=a.rows;obtain⟨f,h,rfl,_⟩:=c.rows;exact⟨⟨d,(zk1 n).length,g⟩,⟨f,([]:List (Int × List Int)).length,h⟩,rfl,⟨a,c,i,j⟩,k⟩
theorem jP.beside {α:Type} {enc:α->List Xq} {w:Xn} {a:Option Nat} {v:Xq} {l:List α} (h:jP enc w v l) (i:w.grownBy w' a) (k:∀x n c,v= O (Xa x) n c->Xa x.block≠a):jP enc w' v l:=by
 obtain⟨e,c,b,f,g⟩:=h;refine⟨e,c,b,f,fun x m p u j=>?_⟩
 subst m;have d:=g x rfl p u j;rw[World.cell?_of_block (w:=w) (i.block _ (World.block_lt_of_cell? _ _ d) (by rw[Jo];exact k x _ _ b))]
 exact d
def zpt (f s b:Int):Prop:=(0<=f/\f<=40)/\(0<=s/\s<=60)/\(0<=b/\b<=80)
def zcr (f s b:Int):Ma:=⟨Xr f.toNat frF,0,Xr s.toNat 0,Xr s.toNat zz,[],Xr b.toNat zz,[],[],b,[],[⟨Xc,[],qI⟩]⟩
def znK (f s b:Int):List Int:=[zj7 f,zj3 s,JO s,JO b,if 0<=b/\b<=80 then 0 else 4]
theorem zlJ {f b:Int} (h:zpt f s b):zu (znK f s b)=0:=by
 obtain⟨a,c,d⟩:=h;unfold znK zj7 zj3 JO;rw[kE a,kE c,kE (by omega),kE d]
 rfl
theorem zbg {e:Func} {p u t:Tmp} {c:TypeId} (h:e.results=#[.cell p c,.tmp u,.tmp t]) (a:Array Xq) {w:Xn} (hp:a.getD p undef= Xj (Xa ⟨b,0,Xb⟩)) (f:Box w b vs) {d:TypeDesc} (i:Tryz.prog.underlying c=Xa d) (g:d.isRow=Xc) (hi:(Tryz.prog.info? c).map (·.size)=Xa vs.length):
  (results e a).run prog w= .ok (Xm #[Xi vs.toArray,a.getD u undef,a.getD t undef]) w:=by
 have e:a[p]?.getD undef= Xj (Xa ⟨b,0,Xb⟩):=by simpa using hp
 have a:=run_loadVar_mid (P:=prog) w b 0 c vs d f.range i g hi
 simp[results,h,e,asAddr,a]
theorem zmE {l:List Int} {n:Int} {k:Nat} (h:(k:Int)<=n\/k=0):Qo l 0 n k=l:=by
 unfold Qo
 apply Ya
 intro i;rw[Yn]
 cases l[i]? with
 | none=>rfl
 | some z=>
  simp only[Option.map_some];rw[kF (by omega)]
theorem zmF (l) (b a:Int):Zb l 0 (a - b*8)=Zb l b a:=by
 unfold Zb
 congr 1
 funext i z
 by_cases h:a<=8*b+(i:Int)
 ·rw[kE h,kE (by omega)]
 rw[kF h,kF (by omega)]
theorem zc8 (l:List Int) (n:Int) (w) (f:l.length=8) (a:-9223372036854775808<=n) (b:n<=9223372036854775807):
  Xp prog 134 #[Xi (pgc l).toArray,I6 n] w fun e w'=>e= Xl (Xi (pgc (Zb l 0 n)).toArray)/\(Zb l 0 n).length=8/\zc w w':=by
 have h:=dD f;have a:Xo ((Zb l 0 n).length=8):=show _=_ by unfold Zb;simp[f]
 obtain⟨c,b⟩:=kB ((w.alloc (Xk (pgc l).toArray 60)).alloc (Xk #[U8 0,U8 0,U8 0,U8 0,U8 0,U8 0,U8 0,U8 0] 60));have g:=gD2 b
 have i:=x2a b
 have p:Xo (Box c (w.heap.size+1) (pgc zz)):=dD<|by rw[<-b];exact Box.top _ (pgc zz) _ (by simp)
 have d:=dD b;have m:Xo (Box c w.heap.size (pgc (Qo l 0 n n.toNat))):=show Box _ _ _ by rw[zmE (by omega)];exact i.out
 obtain⟨j,c⟩:=kA (Zb l 0 n);rw[c.out]at a⊢;clear b f
 go_enter func134,ntmps134
 go_upto_region 1 with fail;rw[d.out];go_wp2
 all_goals
  go_loopg [5] 8 (fun b d wr=>∃k:Nat,n<=(k:Int)/\(k:Int)<=9223372036854775807/\8 - k<=b/\d=I6 k/\Xo (zc w wr)/\Xo (Box wr w.heap.size (pgc (Qo l 0 n k)))/\Xo (Box wr (w.heap.size+1) (pgc zz)))
  case atStart=>
   exact⟨n.toNat,by omega,by omega,by omega,(by first | rw[Int.toNat_eq_max] | (congr 1;omega) | (congr 1;rw[Int.max_def];split <;> omega) | (congr 1;split <;> omega)),g,m,p⟩
  obtain⟨k,b,b,b,rfl,m,d,p⟩:=hrel
  by_cases f:k<8
  ·have g:(k:Int)<8:=by omega
   obtain⟨z,b⟩:∃z,(Qo l 0 n k)[k]? =Xa z:=⟨_,gE (by rw[zg9,h.out];exact f)⟩
   have s:=d.c k (zeo b);have t:=d.f;clear b;go_wp2;obtain⟨i,b⟩:=kB (wr.setCell ⟨w.heap.size,k,Xb⟩ (U8 0));have q:Xo (Box i w.heap.size (pgc (Qo l 0 n (k+1)))):=dD<|by rw[<-b,<-zha (by rw[h.out];exact f) (by omega),zc6];exact d.set k _
   have r:Xo (Box i (w.heap.size+1) (pgc zz)):=dD<|by rw[<-b];exact p.other (by simp) _
   have f:Xo (zc w i):=dD<|by rw[<-b];exact zy m (by simp) _
   rw[b];clear b s t
   go_roundg (8 -(k+1))
   case measure=>omega
   exact⟨k+1,by omega,by omega,by omega,by go_num,f,q,r⟩
  have g:¬(k:Int)<8:=by omega
  have b:Xo (Qo l 0 n k=j):=dD<|by rw[zhb (by rw[h.out];omega),c.out]
  rw[b.out]at d
  go_wp2_with (first | refine zO rfl 60 (.tmp 2) rfl w.heap.size rfl d underlying60 rfl (by rw[Z9,a.out];exact zqY) ?_ | refine zF rfl 60 (.tmp 4) (.tmp 14) rfl (w.heap.size+1) rfl (pgc j) rfl p (by rw[Z9,a.out];rfl) zqY (Z8 _) ?_)
  intro f c d _;have b:Xo (zc w f):=dD<|zd m d (by omega)
  go_wp2;refine bodyPost_ret (zX rfl _ rfl c underlying60 rfl (by rw[Z9,a.out];exact zqY)) rfl ⟨rfl,a,b⟩
theorem zQ.storeAllT {a:Act} {w:Xn} {K:Xq->Xn->Prop} (d p x) (g:o.op= .store d p x) (b:Nat) (hp:a.eval p= Xj (Xa ⟨b,0,Xb⟩)) (vs:List Xq) (j:a.eval x= Xi vs.toArray)
  {t:TypeId} {cs:List Xq} (e:zx w b t cs) (c:vs.length=cs.length) (hi:(Tryz.prog.info? d).map (·.size)=Xa cs.length) (f:∀v∈vs,v.oneCell'=Xc)
  (h:∀w',zx w' b t vs->w.grownBy w' (Xa b)->w'.heap.size=w.heap.size->K undef w'):zQ prog o a w K:=by
 unfold zQ;have i:(execOp a.eval o).run prog w= .ok .skip (w.setCells b 0 vs):=by
  have:=run_storeAt_mid (P:=prog) w b 0 d vs.toArray (by simpa [c]using e.box.there) (by simpa [c]using hi) (all_oneCell_toArray f)
  simp only[execOp,g,hp,j,Xw,this,rA,Xu]
 rw[i];have hp:=e.part (ds:=vs) (o:=0) (by omega)
 rw[zau c]at hp;exact h _ hp (zS b vs 0 w).1 (zS b vs 0 w).2
theorem zg5 (b:∀p∈m.db,p.length=8) (c:∀q∈m.dq,q.2.length=8) (file a:Int):(Zh m file a).length=8:=by
 unfold Zh
 split
 ·rfl
 simp[Zb,zlv b c]
theorem zbG {f:Fl} {a:Int} (d:m.fl[fi]? =Xa f) (b:f.bl[ix]? =Xa a):Zh m fi ix=if a<0 then zz else Zb (qj m.db m.dq a) ix f.size:=by
 have c:m.fl.getD ((fi:Int).toNat) ⟨0,[]⟩=f:=by rw[tN,gD,d];rfl
 have d:zcK m fi ix=a:=by unfold zcK;rw[c,tN,gD,b];rfl
 have a:ZG m fi=f.size:=by unfold ZG;rw[c]
 unfold Zh;rw[d,a]
theorem zpi {fl:List Fl} {f:Fl} {c:Int} (b:fl[fi]? =Xa f) (a:f.bl[ix]? =Xa c):zpj fl fi ix=Xc:=by
 have c:=(gS.1 b).1;have c:=(gS.1 a).1;have a:fl.getD ((fi:Int).toNat) ⟨0,[]⟩=f:=by rw[tN,gD,b];rfl
 unfold zpj;rw[a,zaq.2 ⟨by omega,by omega⟩,zaq.2 ⟨by omega,by omega⟩]
 rfl
theorem zhM (V) (m:Ma) (fi ix:Nat) (f:Fl) (d:Int) (w) (g:zN w V m) (x:m.fl[fi]? =Xa f) (b:f.bl[ix]? =Xa d) (a:ix<=1000) (H:0<=f.size/\f.size<=1000):
  Xp prog 131 #[Xi (mL V m).toArray,I6 (fi:Int),I6 (ix:Int)] w fun e w'=>e= Xl (Xi (pgc (Zh m fi ix)).toArray)/\(Zh m fi ix).length=8/\zc w w':=by
 have l:=dD<|fun W (a:zc w W)=>znp _ m.db m.dq d W ⟨_,_,rfl,(g.grew a).db,(g.grew a).dq⟩
 have r:Xo (∀W,zc w W->Xp prog 113 #[Xi #[V.fl.x,I6 m.cnt],I6 (fi:Int),I6 (ix:Int)] W fun e w'=>e= Xl (Xh Xc)/\zc W w'):=dD<|fun W a=>by
  have:=zds (V.fl.x) m.fl m.cnt fi ix W (g.grew a).fl;rw[zpi x b]at this;exact this
 have u:Xo ((qj m.db m.dq d).length=8):=zlv g.db.2.1 g.dq.2.1;have j:Xo ((Zh m fi ix).length=8):=zg5 g.db.2.1 g.dq.2.1 _ _;have a:=dD<|zbG x b;obtain⟨a6,c⟩:=kA (Zh m fi ix);rw[c.out]at a j⊢;obtain⟨⟨X,Z,Y⟩,a0,L,N,S,T,⟨h,k,F⟩,⟨C,E,D⟩,M⟩:=V;dsimp only[mL]at l r⊢;obtain⟨-,-,-,-,-,-,K,-,-⟩:=g.ns;dsimp only at K;obtain⟨_,_,q,_,z⟩:=z5.rows g.fl;have c:Xo (zbL w h m.fl):=show zbL _ _ _ by
  simp only[vJ]at q;rw[q.1];exact z
 have h:fi<k:=by rw[K];exact(gS.1 x).1
 obtain⟨R,rfl,P,U,t,y⟩:=c.out fi f x;have i:=dD y
 obtain⟨_,_,p,s⟩:=t.nums;have G:=(gS.1 b).1;obtain⟨n,h,c⟩:=s ix d b;have B:Xo (P=Xa n/\∀W,zc w W->W.cell? (n.add ix)=Xa (I6 d)):=dD<|⟨by simp only[vJ]at p;rw[p.1];exact h,c⟩
 obtain⟨Q,A⟩:=kA f.bl.length;rw[A.out]at G i;clear g K q z x b y t p s h c;obtain⟨a5,b⟩:=kA f.size;rw[b.out]at i a H;have b:(fi:Int)< (k:Int):=by omega
 have b:(ix:Int)< (Q:Int):=by omega
 obtain⟨s,b⟩:=kB ((w.alloc (Xk #[O X Z Y,I6 m.hand,a0.x,L.x,N.x,S.x,T.x,O (Xa R) k F,I6 m.cnt,O C E D,M.x] 41)).alloc (Xk #[U8 0,U8 0,U8 0,U8 0,U8 0,U8 0,U8 0,U8 0] 60));have q:=gD2 b
 have h:=x2a b
 have t:Xo (Box s (w.heap.size+1) (pgc zz)):=dD<|by rw[<-b];exact Box.top _ (pgc zz) _ (by simp)
 have g:=dD b;clear b
 go_enter func131,ntmps131
 go_upto_region 1 with fail;rw[g.out];have p:=h.c 7 rfl;have g:=h.c 8 rfl;have b:=r.out s q.out;go_wp2_with fail;refine b.mono ?_;clear b p g;rintro W k ⟨rfl,b⟩;have r:=dD (q.trans b);have q:=dD (h.grew b);have s:=dD (t.grew b);clear b;have p:=q.c 7 rfl;obtain⟨t,y⟩:=i.out k r.out;go_upto_region 4 with fail;obtain⟨b,g⟩:=kA k.heap.size;obtain⟨h,b⟩:=kB (k.alloc (Xk #[I6 a5,O P Q U] 65));have i:=gP b
 have X:=xP b g
 have A:=dD (r.trans i);have x:=dD (q.grew i);have a2:=dD (s.grew i);rw[b,g.out];clear b i t y p;obtain⟨b,c⟩:=B.out;subst b;have b:=dD c
 clear c;have p:=X.c 1 rfl;have i:=b.out h A.out
 by_cases c:d<0
 ·rw[kE c]at a
  go_wp2_with (refine zF rfl 60 (.tmp 6) (.tmp 29) rfl (w.heap.size+1) rfl (pgc zz) rfl a2 rfl zqY (Z8 _) ?_)
  intro Y s t _;have k:Xo (zc w Y):=dD<|zd A t (by omega)
  go_wp2;refine bodyPost_ret (zX rfl _ rfl s underlying60 rfl zqY) rfl ⟨by rw[a.out],by rw[a.out];rfl,k⟩
 rw[kF c]at a;have g:decide (d<0)=Xd:=decide_eq_false c;go_upto_region 6 with fail;clear p i c g;obtain⟨p,c⟩:=kA (qj m.db m.dq d);rw[c.out]at a u l;obtain⟨H,K,L,M,N,P,Q,R,rfl⟩:=zfr p u.out;obtain⟨g,c⟩:∃g:Xn->Prop,Xo (∀u,g u↔zc h u):=⟨fun u=>zc h u,fun _=>Iff.rfl⟩
 have r:=(c _).2 (gW _)
 have F:=x.h c 5 rfl
 have G:=x.h c 6 rfl
 have D:=X.h c 1 rfl
 have C:∀y:zh g,y.world.cell? (n.add ix)=Xa (I6 d):=fun y=>b.out _ (A.trans ((c _).1 y.holds))
 have a0:Nonempty (zh g):=⟨⟨_,r⟩⟩;refine zf7 (I:=g) 14 [(7,⟨.const (Xh Xd),fun b=>b= Xm #[Xi #[U8 H,U8 K,U8 L,U8 M,U8 N,U8 P,U8 Q,U8 R],I6 (zi m.db.length m.dq d)],fun _ _ _=>True,fun p q=>zc p q,fun _=>True⟩),(11,⟨.const (Xh Xd),fun b=>∃g,b= Xj (Xa ⟨g,0,Xb⟩),fun _ b u=>∃g x,b= Xj (Xa ⟨g,0,Xb⟩)/\h.heap.size<=g/\zx u g 60 x/\x.length=8,fun p q=>zc p q,fun _=>True⟩),(12,⟨.tmp 8,fun _=>True,fun W _ u=>∃g,W= Xj (Xa ⟨g,0,Xb⟩)/\h.heap.size<=g/\Box u g (pgc [H,K,L,M,N,P,Q,R]),fun p q=>∃g,h.heap.size<=g/\p.grownBy q (Xa g)/\zx q g 60 (pgc [H,K,L,M,N,P,Q,R]),fun _=>True⟩)] r zY (by kernel_rfl) (by kernel_rfl) rfl rfl (by decide) ?hS ?hp ?hpre ?hpr0 ?_
 case hS=>
  intro h h;simp only[mC,nM,or_false]at h
  rcases h with rfl|rfl|rfl
  ·exact⟨_,rfl⟩
  ·exact⟨_,0,rfl⟩
  exact⟨Xh Xc,trivial⟩
 case hp=>
  intro a1 aa a7 a4 u U n h W b p q i E;have h:=zR u;have b:=zR U;clear u U;simp only[mC,pJ,nM,or_false]at h b
  rcases h with⟨rfl,rfl⟩|⟨rfl,rfl⟩|⟨rfl,rfl⟩
  ·trivial
  ·obtain⟨g,x,y,z,B,a3⟩:=E
   rcases b with⟨rfl,rfl⟩|⟨rfl,rfl⟩|⟨rfl,rfl⟩
   ·exact⟨g,x,y,z,B.grew i,a3⟩
   ·exact absurd rfl n
   obtain⟨Z,a8,a8,a9⟩:=i
   by_cases e:g=Z
   ·subst e;exact⟨g,_,y,z,a9,rfl⟩
   exact⟨g,x,y,z,B.beside a8 (fun a1 u=>by cases u;exact e),a3⟩
  obtain⟨g,y,z,B⟩:=E
  rcases b with⟨rfl,rfl⟩|⟨rfl,rfl⟩|⟨rfl,rfl⟩
  ·exact⟨g,y,z,B.grew i⟩
  ·exact⟨g,y,z,B.grew i⟩
  exact absurd rfl n
 case hpre=>
  intro a7 a4 a1 aa U u n p q i i;have b:=zR U;simp only[mC,pJ,nM,or_false]at b
  rcases b with⟨rfl,rfl⟩|⟨rfl,rfl⟩|⟨rfl,rfl⟩ <;> trivial
 case hpr0=>
  intro a1 a4 u;have h:=zR u;simp only[mC,pJ,nM,or_false]at h
  rcases h with⟨rfl,rfl⟩|⟨rfl,rfl⟩|⟨rfl,rfl⟩ <;> trivial
 simp only[Yl,Ym];iterate 7 refine zbX ?_
 refine zab rfl rfl (fun w' b i n=>?_) (fun q h=>?_)
 ·refine zQ.call [Xi #[S.x,T.x],I6 d] rfl func155 rfl rfl rfl ?_;refine(l w' (A.trans ((c _).1 b))).mono ?_;rintro e p ⟨rfl,d⟩;exact⟨_,rfl,(c _).2 (((c _).1 b).trans d),d,rfl,trivial⟩
 subst h;refine Uq ?_;iterate 3 refine zbX ?_
 refine zab rfl rfl (fun w' b i n=>?_) (fun q h=>?_)
 ·refine zQ.step (v:= Xj (Xa ⟨w'.heap.size,0,Xb⟩)) (w':=w'.alloc (Xk #[U8 0,U8 0,U8 0,U8 0,U8 0,U8 0,U8 0,U8 0] 60)) (by clear F G D C;simp only[execOp];go_simp) ⟨(c _).2 (((c _).1 b).trans (za _ _)),za _ _,⟨_,rfl⟩,_,_,rfl,bS ((c _).1 b),zx.top _ (pgc zz) _ rfl,rfl⟩
 obtain⟨l,rfl⟩:=h;refine Uq ?_;refine zab rfl rfl (fun w' b i n=>?_) (fun q h=>?_)
 ·obtain⟨g,x,g,d,h,i⟩:=n 11 (by kernel_rfl)
  simp only[Value.pointer.injEq,Option.some.injEq,Addr.mk.injEq,and_true]at g;subst g;refine zQ.storeAllT 60 (.tmp 8) (.tmp 39) rfl l rfl (pgc [H,K,L,M,N,P,Q,R]) rfl h (by rw[i];rfl) (by rw[i];exact zqY) (Z8 _) fun p i p q=>?_
  exact⟨(c _).2 (zd ((c _).1 b) p d),⟨l,d,p,i⟩,trivial,l,rfl,d,i.box⟩
 simp only[Yv];refine zbX ?_
 refine zft fun u i n=>?_
 obtain⟨Z,g,h,d⟩:=n 12;have b:(Value.pointer (Xa ⟨l,0,Xb⟩):Xq)= Xj (Xa ⟨Z,0,Xb⟩):=g;simp only[Value.pointer.injEq,Option.some.injEq,Addr.mk.injEq,and_true]at b;subst b;have b:=(c _).1 i;have p:=dD (A.trans b);have c:=dD (X.grew b);have x:=dD (a2.grew b);have q:=dD d;clear n i r a0 F G D C b g d h;have hcut:=zc8 [H,K,L,M,N,P,Q,R] (a5 -(ix:Int)*8) u rfl (by omega) (by omega)
 rw[zmF]at hcut;rw[<-a.out]at hcut;have a:=c.c 0 rfl
 go_wp2_with (refine zO rfl 60 (.tmp 8) rfl l rfl q underlying60 rfl zqY ?_)
 refine hcut.mono ?_;clear hcut a;rintro W a ⟨rfl,-,a⟩;have c:=dD (x.grew a);have b:=dD (p.trans a);clear a
 go_wp2_with (refine zF rfl 60 (.tmp 6) (.tmp 47) rfl (w.heap.size+1) rfl (pgc a6) rfl c (by rw[Z9,j.out];rfl) zqY (Z8 _) ?_)
 intro Y s t _;have k:Xo (zc w Y):=dD<|zd b t (by omega)
 go_wp2;refine bodyPost_ret (zX rfl _ rfl s underlying60 rfl (by rw[Z9,j.out];exact zqY)) rfl ⟨rfl,j,k⟩
theorem ChW.doneD {w:Xn} {p:Nat} (h:ChW w0 p w V m) (o:qT (fun k=>k<w0.heap.size) w W):zN W V m:=by
 have c:qT (Dr w0.heap.size p V) w W:=o.wide fun k a=> .inl a
 have r:=h.rest W c;obtain⟨n,f,i,j⟩:=h.sp;have a:∀{b:Type} {E:Elt b} {v:Xq} {l:List b},zb E w0.heap.size w v l->zq E W v l:=fun b=>zb.at (base:=w0.heap.size) ⟨zc9 b.1 o (fun g d e=>by have:=(b.lt g d).1;have e:g<w0.heap.size:=e;omega),b.2⟩
 exact⟨a h.fs,r.sl,r.sb,r.sq,r.db,r.dq,r.fl,a h.ca,⟨n,a f,i,fun i x s b a=>j i x s b a W c⟩⟩
theorem zeK (V m) (w:Xn) (n:zN w V m) (j:maW m=0) (R:Bool->Ma->Prop) (l:∀w0 W p g,ChW w0 p W g m->Xp prog 26 #[Xj (Xa ⟨p,0,Xb⟩),eS] W fun e w'=>∃b m',e= Xl (Xh b)/\R b m'/\Chg w0 p W g m' w'):
  Xp prog 8 #[Xi (mL V m).toArray] w fun e w'=>(∃(b:Bool) (m':Ma) (V':MaV),R b m'/\e= Xl (Xm #[Xi (mL V' m').toArray,Xh b,I6 0])/\∀W,qT (fun k=>k<w.heap.size) w' W->zN W V' m')/\zc w w':=by
 obtain⟨i,a⟩:=kB ((w.alloc (Xk (mL V m).toArray 41)).alloc (Xk zM.toArray 41));have y:=gD2 a
 obtain⟨d,f⟩:=kA w.heap.size;have z:Xo (zx i d 41 (mL V m)):=dD<|by rw[<-a];exact(zx.top w (mL V m) _ f.symm).grew (za _ _)
 have A:Xo (zx i (d+1) 41 qo):=dD<|by rw[<-a];exact zx.top _ qo _ (by have:=f.out;simp;omega)
 have x:=dD<|n.grew y.out;have h:=dD a;have c:=J1 V m i x j;clear a n j;have B:=dD l
 clear l
 go_enter func8,ntmps8
 go_upto_region 1 with fail;rw[h.out,f.out];obtain⟨h,i,j,n,q,r,s,t,u,v,a⟩:=z.box.c11;go_wp2_with fail;refine c.mono ?_;clear c h i j n q r s t u v a;rintro e l ⟨rfl,c⟩;have C:=dD (z.grew c);have z:=dD (A.grew c);have A:=dD (x.grew c);have x:=dD (y.trans c);clear c;have c:=zfN V m l A.out;obtain⟨h,i,j,n,q,r,s,t,u,v,a⟩:=C.box.c11;go_wp2_with fail;refine c.mono ?_;clear c h i j n q r s t u v a;rintro e h ⟨p,g,rfl,a⟩;have n:=dD a;have c:=dD z.box.lt;have t:=dD<|z.grew a.gr;clear a;have a:=B.out l h p g n.out;go_wp2_with fail;refine a.mono ?_;clear a;rintro e s ⟨b,h,rfl,a,g,q,r,v⟩;have i:=dD q;have j:=dD a;have u:Xo (zx s (d+1) 41 qo):=t.outD r (fun e=>by have:=n.dlo _ e;have:=c.out;omega)
 clear q r v a;obtain⟨q,r,s,t,v,y,z,A,B,C,n⟩:=i.box.box.c11;have a:Xo (∀D∈chL g h,D.oneCell'=Xc):=dD<|by simp[chL,Value.oneCell']
 go_wp2_with (refine z9 rfl 41 (.tmp 2) (.tmp 21) rfl (d+1) rfl (chL g h) rfl u rfl (by kernel_rfl) a.out ?_)
 clear q r s t v y z A B C n;intro n q a _;have r:Xo (zc w n):=dD<|zd (x.trans i.gr) a (by have:=f.out;omega)
 have f:=dD q;have s:Xo (∀W,qT (fun k=>k<w.heap.size) n W->zN W g h):=show∀W,_ from fun W n=>i.doneD ((qT.grown a (show d+1<l.heap.size from c.out)).trans (n.wide fun k c=>Yq c (bS x)))
 clear q a;go_wp2;refine bodyPost_ret (zbg rfl _ rfl f.box underlying41 rfl (by kernel_rfl)) rfl ⟨⟨b,h,g,j,rfl,s⟩,r⟩
theorem zkM (V) (m:Ma) (w) (j:zN w V m) (i:maW m=0) (c:m.ca=[]):
  Xp prog 11 #[Xi (mL V m).toArray] w fun e w'=>(∃V':MaV,e= Xl (Xm #[Xi (mL V' m).toArray,Xh Xd,I6 0])/\zN w' V' m)/\zc w w':=by
 obtain⟨g,a⟩:=kB ((w.alloc (Xk (mL V m).toArray 41)).alloc (Xk zM.toArray 41));have u:=gD2 a
 obtain⟨h,f⟩:=kA w.heap.size;have x:Xo (zx g h 41 (mL V m)):=dD<|by rw[<-a];exact(zx.top w (mL V m) _ f.symm).grew (za _ _)
 have y:Xo (zx g (h+1) 41 qo):=dD<|by rw[<-a];exact zx.top _ qo _ (by have:=f.out;simp;omega)
 have t:=dD<|j.grew u.out;have b:=dD a;have d:=J1 V m g t i;clear a j i;have j:Xo (m.ca.length=0):=show _=_ by rw[c];rfl
 clear c
 go_enter func11,ntmps11
 go_upto_region 1 with fail;rw[b.out,f.out];obtain⟨g,i,k,l,n,p,q,r,s,b,a⟩:=x.box.c11;go_wp2_with fail;refine d.mono ?_;clear d g i k l n p q r s b a;rintro e v ⟨rfl,d⟩;have z:=dD (x.grew d);have x:=dD (y.grew d);have y:=dD (t.grew d);have t:=dD (u.trans d);clear d;have d:=zfN V m v y.out;obtain⟨g,i,k,l,n,p,q,r,s,b,a⟩:=z.box.c11;go_wp2_with fail;refine d.mono ?_;clear d g i k l n p q r s b a;rintro e k ⟨p,g,rfl,c⟩;have d:=dD c;have i:=dD x.box.lt;have l:=dD<|x.grew c.gr;clear c;obtain⟨-,-,-,-,-,-,-,a,-⟩:=d.at.ns;have b:=d.box.box.c 9 rfl;(try simp only[Sli.x]at b);rw[a,j.out]at b;clear a;go_wp2;clear b
 go_loopg [23] 1 (fun b a wr=>a=I6 0/\0<b/\wr=k)
 case atStart=>exact⟨rfl,by omega,rfl⟩
 obtain⟨rfl,a,rfl⟩:=hrel;have j:=dD l;obtain⟨k,l,n,p,q,r,s,u,x,y,b⟩:=d.box.box.c11;have a:Xo (∀c∈chL g m,c.oneCell'=Xc):=show∀c∈chL g m,_ by simp[chL,Value.oneCell']
 go_wp2_with (refine z9 rfl 41 (.tmp 2) (.tmp 52) rfl (h+1) rfl (chL g m) rfl j rfl (by kernel_rfl) a.out ?_)
 clear k l n p q r s u x y b;intro c b a _;have j:Xo (zc w c):=dD<|zd (t.trans d.gr) a (by have:=f.out;omega)
 have c:=dD b;have f:=dD<|d.doneD (qT.grown a (show h+1<v.heap.size from i.out))
 clear b a;go_wp2;refine bodyPost_ret (zbg rfl _ rfl c.box underlying41 rfl (by kernel_rfl)) rfl ⟨⟨g,rfl,f⟩,j⟩
theorem zgd (V) (m:Ma) (file:Int) (w) (n:zN w V m) (d:maW m=0) (l:file<0\/(m.fl.length:Int)<=file):
  Xp prog 12 #[Xi (mL V m).toArray,I6 file] w fun e w'=>e= Xl (Xm #[Xi qo.toArray,I6 5])/\zc w w':=by
 obtain⟨b,a⟩:=kB ((w.alloc (Xk (mL V m).toArray 41)).alloc (Xk zM.toArray 41));have j:=gD2 a
 obtain⟨g,c⟩:=kA w.heap.size;have k:Xo (zx b g 41 (mL V m)):=dD<|by rw[<-a];exact(zx.top w (mL V m) _ c.symm).grew (za _ _)
 have p:Xo (zx b (g+1) 41 qo):=dD<|by rw[<-a];exact zx.top _ qo _ (by have:=c.out;simp;omega)
 have i:=dD<|n.grew j.out;have h:Xo (_=b):=a;have f:=J1 V m b i d;clear a n d;have d:=dD l
 clear l
 go_enter func12,ntmps12
 go_upto_region 1 with fail;rw[h.out,c.out];obtain⟨h,l,n,q,r,s,t,b,u,v,a⟩:=k.box.c11;go_wp2_with fail;refine f.mono ?_;clear f h l n q r s t b u v a;rintro e a ⟨rfl,a⟩;have h:=dD (k.grew a);have n:=dD (p.grew a);have f:=dD (i.grew a);have l:=dD (j.trans a);clear a;obtain⟨-,-,-,-,-,-,a,-⟩:=f.ns;have b:=h.box.c 7 rfl;(try simp only[Sli.x]at b);rw[a]at b;clear a;obtain⟨p,a⟩:=kA m.fl.length;rw[a.out]at b d
 by_cases q:file<0
 ·have k:decide (file<0)=Xc:=by simpa using q
  go_wp2_with (refine z9 rfl 41 (.tmp 4) (.tmp 26) rfl (g+1) rfl qo rfl n rfl (by kernel_rfl) (by simp[qo,Value.oneCell']) ?_)
  intro j f a _;have i:Xo (zc w j):=dD<|zd l a (by have:=c.out;omega)
  have h:=dD f;clear f a b;go_wp2;refine bodyPost_ret (qL rfl _ rfl h.box underlying41 rfl (by kernel_rfl)) rfl ⟨rfl,i⟩
 have k:decide (file<0)=Xd:=by simpa using q
 have k:(p:Int)<=file:=by have:=d.out;omega
 have d:decide ((p:Int)<=file)=Xc:=by simpa using k
 go_wp2_with (refine z9 rfl 41 (.tmp 4) (.tmp 26) rfl (g+1) rfl qo rfl n rfl (by kernel_rfl) (by simp[qo,Value.oneCell']) ?_)
 intro j f a _;have i:Xo (zc w j):=dD<|zd l a (by have:=c.out;omega)
 have h:=dD f;clear f a b;go_wp2;refine bodyPost_ret (qL rfl _ rfl h.box underlying41 rfl (by kernel_rfl)) rfl ⟨rfl,i⟩
def frU (q:Fr):Fr:={ q with u:=false }
def zjj (q:Fr):Bool:=decide (0<q.r) && !q.u
theorem zmS {w:Xn} (h:Below b w W) {a:Addr} (c:b<=a.block) (u):Below b w (W.setCell a u):=Below.setCell h c u
theorem znu (B g n f i base v:Nat) (fs:List Fr) (q W) (b:fs.length=n) (a:n<=40) (h:fs[i]? =Xa q) (j:Box W B [O (Xa ⟨g,0,Xb⟩) n f,I6 (i:Int)]) (k:zk base W (O (Xa ⟨g,0,Xb⟩) n f) fs) (p:B≠g) (t:v<=B) (C:v<=g):
  Xp prog 91 #[Xj (Xa ⟨B,0,Xb⟩)] W fun e a=>e= Xl (Xm #[I6 (i:Int),Xh (zjj q)])/\Box a B [O (Xa ⟨g,0,Xb⟩) n f,I6 (((i+1) % n:Nat):Int)]/\zk base a (O (Xa ⟨g,0,Xb⟩) n f) (fs.set i (frU q))/\Below v W a:=by
 have d:=dD k;have c:=dD j;have u:=dD h;have a:i<n:=by rw[<-b];exact(gS.1 h).1
 have a:=dD b;clear k j h b;have a:(i:Int)< (n:Int):=by omega
 have a:(0:Int)< (n:Int):=by omega
 have a:¬(n:Int)=0:=by omega
 have a:(((i:Int)+1) %(n:Int))=(((i+1) % n:Nat):Int):=by simp
 have k:=dD a;clear a;have a:=Ne.symm p;have z:=c.c 0 rfl;have j:=c.c 1 rfl;have s:=c.f;have m:=c.lt;have a:=(d.lt g rfl).2;have u8:=d.frc u 8 rfl;have u9:=d.frc u 9 rfl
 go_enter func91,ntmps91
 go_upto_region 3 with fail;obtain⟨h,b⟩:=kB (W.setCell ⟨B,1,Xb⟩ (I6 (((i:Int)+1) %(n:Int))));rw[b];have r:Xo (Box h B [O (Xa ⟨g,0,Xb⟩) n f,I6 (((i:Int)+1) %(n:Int))]):=dD<|by rw[<-b];exact c.set 1 _
 have l:Xo (zk base h (O (Xa ⟨g,0,Xb⟩) n f) fs):=dD<|by rw[<-b];exact d.setOther (fun w a=>by cases a;exact p) _
 have d:Xo (Below v W h):=dD<|by rw[<-b];exact zmS (bR _ _) t _
 clear b z j s m u8 u9;have z:=r.c 0 rfl;have u8:=l.frc u 8 rfl;have u9:=l.frc u 9 rfl;have y:Xo (zjj q=(decide (0<q.r) && !q.u)):=rfl;obtain⟨h,b⟩:=kA q.r;obtain⟨A,c⟩:=kA q.u;rw[b.out]at u8 y;rw[c.out]at u9 y
 by_cases D:0<h
 ·cases A with
  | true=>
   have x:Xo (zjj q=Xd):=dD<|by rw[y.out];simp[D]
   skip
   go_wp2_with (refine qy rfl (.tmp 32) (.const (Xh Xd)) 4 rfl base (O (Xa ⟨g,0,Xb⟩) n f) fs l g i 9 rfl q (frU q) u.out [Xh Xd] (by kernel_rfl) rfl (Xx rfl) (by intro A t;simp at t;subst t;rfl) _ rfl (by simp) _ rfl rfl ?_)
   intro s c b _;have m:=dD c;have j:Xo (Box s B [O (Xa ⟨g,0,Xb⟩) n f,I6 (((i:Int)+1) %(n:Int))]):=r.beside b (fun w a=>by cases a;exact p)
   have h:Xo (Below v W s):=Below.grown d b (by have:=bS d.out;omega) (fun w a=>by cases a;exact C)
   clear c b u8 u9 z;go_wp2
   go_ret2
   exact⟨by rw[x.out];rfl,by rw[<-k.out];exact j,m,h⟩
  | false=>
   have x:Xo (zjj q=Xc):=dD<|by rw[y.out];simp[D]
   skip
   go_wp2_with (refine qy rfl (.tmp 32) (.const (Xh Xd)) 4 rfl base (O (Xa ⟨g,0,Xb⟩) n f) fs l g i 9 rfl q (frU q) u.out [Xh Xd] (by kernel_rfl) rfl (Xx rfl) (by intro A t;simp at t;subst t;rfl) _ rfl (by simp) _ rfl rfl ?_)
   intro s c b _;have m:=dD c;have j:Xo (Box s B [O (Xa ⟨g,0,Xb⟩) n f,I6 (((i:Int)+1) %(n:Int))]):=r.beside b (fun w a=>by cases a;exact p)
   have h:Xo (Below v W s):=Below.grown d b (by have:=bS d.out;omega) (fun w a=>by cases a;exact C)
   clear c b u8 u9 z;go_wp2
   go_ret2
   exact⟨by rw[x.out];rfl,by rw[<-k.out];exact j,m,h⟩
 
 have x:Xo (zjj q=Xd):=dD<|by rw[y.out];simp[D]
 skip
 go_wp2_with (refine qy rfl (.tmp 32) (.const (Xh Xd)) 4 rfl base (O (Xa ⟨g,0,Xb⟩) n f) fs l g i 9 rfl q (frU q) u.out [Xh Xd] (by kernel_rfl) rfl (Xx rfl) (by intro A t;simp at t;subst t;rfl) _ rfl (by simp) _ rfl rfl ?_)
 intro s c b _;have m:=dD c;have j:Xo (Box s B [O (Xa ⟨g,0,Xb⟩) n f,I6 (((i:Int)+1) %(n:Int))]):=r.beside b (fun w a=>by cases a;exact p)
 have h:Xo (Below v W s):=Below.grown d b (by have:=bS d.out;omega) (fun w a=>by cases a;exact C)
 clear c b u8 u9 z;go_wp2
 go_ret2
 exact⟨by rw[x.out];rfl,by rw[<-k.out];exact j,m,h⟩
def jR:Nat->List Fr->Nat->List Fr × Nat × Int
 | 0,fs,h=>(fs,h,-1)
 | m+1,fs,h=>if zjj (fs.getD h fr0)then(fs.set h (frU (fs.getD h fr0)),(h+1) % fs.length,(h:Int))else jR m (fs.set h (frU (fs.getD h fr0))) ((h+1) % fs.length)
def QL (fs:List Fr) (h:Int):List Fr × Nat × Int:=jR (2*fs.length) fs h.toNat
def zaE (fs:List Fr) (h:Int):List Fr:=if Qa fs h=0 then(QL fs h).1 else []
def zbV (fs:List Fr) (h:Int):Int:=if Qa fs h=0 then((QL fs h).2.1:Int)else 0
def JV (fs:List Fr) (h:Int):Int:=if Qa fs h=0 then(QL fs h).2.2 else 0
theorem zp2 (a) (c:Nat) (fs:List Fr) (l:Nat) (w:Xn) (aq:qh w (O a fs.length c) fs) (S:Qa fs (l:Int)=0):
  Xp prog 47 #[Xi #[O a fs.length c,I6 (l:Int)]] w fun e w'=>∃b,e= Xl (Xm #[Xi #[b,I6 ((jR (2*fs.length) fs l).2.1:Int)],I6 (jR (2*fs.length) fs l).2.2,I6 0])/\zk w.heap.size w' b (jR (2*fs.length) fs l).1/\zc w w':=by
 have a3:=dD aq;have ah:∀W,zc w W->Xp prog 71 #[Xi #[O a fs.length c,I6 (l:Int)]] W fun e w'=>e= Xl (I6 (Qa fs (l:Int)))/\zc W w':=fun W ae=>by rw[S];exact Jq a c fs _ W (a3.grew ae) S
 have ag:∀W,zc w W->Xp prog 86 #[Xi #[O a fs.length c,I6 (l:Int)]] W fun e w'=>∃b,e= Xl (Xi #[b,I6 (l:Int)])/\zk W.heap.size w' b fs/\zc W w':=fun W ae=>zaw a c fs _ W (a3.grew ae)
 obtain⟨P,_,_,A⟩:=Zj S;have bb:=enters_of func91 (by kernel_rfl) rfl
 clear aq;obtain⟨n,a1⟩:=kA fs.length;simp only[a1.out,S]at ah a3 ag P A⊢;clear S;obtain⟨V,G⟩:=kA (jR (2*n) fs l);rw[G.out];obtain⟨b9,p⟩:=kB ((w.alloc (Xk #[O a n c,I6 (l:Int)] 28)).alloc (Xk #[eS,I6 0] 28));have r:=gD2 p
 have X:=x2a p
 have am:=x2b p
 have a4:=dD p;clear p
 go_enter func47,ntmps47
 go_upto_region 1 with fail;rw[a4.out];have aa:=X.c 0 rfl;have ab:=X.c 1 rfl;go_wp2_with fail;refine(ah _ r).mono ?_;rintro e x ⟨rfl,ao⟩;have B:=dD ao;clear ao aa ab ah;have aa:=(X.grew B).c 0 rfl;have ab:=(X.grew B).c 1 rfl;go_wp2_with fail;refine(ag _ (r.trans B)).mono ?_;rintro e L ⟨b,rfl,i,ad⟩;obtain⟨D,m,rfl⟩:=i.form;rw[a1.out]at i⊢;have ay:=dD i;have aj:=dD (B.trans ad);have ac:=dD<|bS ad;have a7:=dD<|(am.grew B).lt;have a6:=dD<|bS (r.trans B);clear i ad aa ab ag;obtain⟨M,k⟩:=kB (L.alloc (Xk #[O D n m,I6 (l:Int)] 28));have an:=xT k
 have K:Xo (zk x.heap.size M (O D n m) fs):=dD<|by rw[<-k];exact ay.grew (za _ _)
 have a9:Xo (Box M (w.heap.size+1) [eS,I6 0]):=dD<|by rw[<-k];exact(am.grew aj).alloc _
 have au:Xo (zc w M):=dD<|by rw[<-k];exact(r.trans aj).trans (za _ _)
 have a5:=dD k;clear k;go_wp2;rw[a5.out]
 go_loopg [8,9,23] (2*n) (fun az _ _ ai wr=>∃(h d:Nat) (g:List Fr),h<=2*n/\2*n - h<=az/\ai=I6 h/\d<max n 1/\Xo (g.length=n)/\Xo (Box wr L.heap.size [O D n m,I6 (d:Int)])/\Xo (zk x.heap.size wr (O D n m) g)/\Xo (Below x.heap.size M wr)/\Xo (jR (2*n - h) g d=V))
 case atStart=>exact⟨0,l,fs,nZ _,by omega,rfl,by omega,a1,an.box,K,bR _ _,G⟩
 obtain⟨h,d,g,b1,bc,rfl,b0,C,I,U,Z,Y⟩:=hrel;have u:=a7.out;have t:=a6.out;have j:=dD<|a9.below Z u;have ak:=dD<|Below.trans au (Z.mono t)
 by_cases b2:h<2*n
 ·have R:(h:Int)<2*(n:Int):=by omega
  obtain⟨s,ba,ap⟩:=U.formS (by rw[C.out];omega)
  rw[C.out]at ap;cases ap;obtain⟨q,al⟩:∃q,Xo (g[d]? =Xa q):=⟨_,gE (by rw[C.out];omega)⟩
  have af:=U.lt s rfl;have a2:Xo (L.heap.size≠s):=(K.ne an (by decide) s rfl)
  have f:=znu L.heap.size s n m d x.heap.size x.heap.size g q wr C P al I U a2 ac.out af.1;have Q:g.getD d fr0=q:=by rw[gD,al.out];rfl
  have H:Xo (jR (2*n - h) g d=if zjj q then(g.set d (frU q),(d+1) % n,(d:Int))else jR (2*n -(h+1)) (g.set d (frU q)) ((d+1) % n)):=dD<|by
   rw[show 2*n - h=(2*n -(h+1))+1 by omega,jR,Q,C.out]
  clear Q
  cases E:zjj q with
  | true=>
   rw[E]at f;have F:Xo (V=(g.set d (frU q),(d+1) % n,(d:Int))):=dD<|by rw[<-Y.out,H.out,E,kE rfl]
   clear E
   go_wp2_with (go_at_call 91;refine f.mono ?_;rintro e z ⟨rfl,N,T,y⟩;have b5:=(j.below y u).c 0 rfl;have b7:=(j.below y u).c 1 rfl;have b8:=(j.below y u).f;have b3:=N.c 0 rfl;have b4:=N.c 1 rfl;have a8:Xo (zk x.heap.size z (O (Xa ⟨s,0,Xb⟩) n m) (g.set d (frU q))):=T;have a0:Xo (zc w z):=show zc w z from Below.trans ak (y.mono t);clear T y)
   refine bodyPost_ret (v:= Xm #[Xi #[O (Xa ⟨s,0,Xb⟩) n m,I6 (((d+1) % n:Nat):Int)],I6 (d:Int),I6 0]) (by simp[results,Tryz.results47,go_sem, *]) rfl ⟨O (Xa ⟨s,0,Xb⟩) n m,?_,?_,?_⟩
   ·rw[F.out]
   ·rw[F.out];exact((a8.setCell (a:=⟨w.heap.size+1,0,Xb⟩) (by show w.heap.size+1<_;omega) _).setCell (a:=⟨w.heap.size+1,1,Xb⟩) (by show w.heap.size+1<_;omega) _).base t
   exact zy (zy a0 (by simp) _) (by simp) _
  | false=>
   rw[E]at f;have aw:Xo (jR (2*n -(h+1)) (g.set d (frU q)) ((d+1) % n)=V):=dD<|by rw[<-Y.out,H.out,E];rfl
   clear E
   go_wp2_with (go_at_call 91;refine f.mono ?_;rintro e z ⟨rfl,N,T,y⟩;have ar:Xo (Box z L.heap.size [O (Xa ⟨s,0,Xb⟩) n m,I6 (((d+1) % n:Nat):Int)]):=N;have a8:Xo (zk x.heap.size z (O (Xa ⟨s,0,Xb⟩) n m) (g.set d (frU q))):=T;have ax:Xo (Below x.heap.size M z):=Below.trans Z y;clear N T y)
   go_roundg (2*n -(h+1))
   case measure=>omega
   exact⟨h+1,(d+1) % n,g.set d (frU q),by omega,by omega,by go_num,(by have:=Nat.mod_lt (d+1) (show 0<n by omega);omega),(show(g.set d (frU q)).length=n by rw[List.length_set];exact C),ar,a8,ax,aw⟩
 have R:¬(h:Int)<2*(n:Int):=by omega
 have:h=2*n:=by omega
 subst this;have F:Xo (V=(g,d,-1)):=dD<|by rw[<-Y.out,Yp];rfl
 have b5:=j.c 0 rfl;have b7:=j.c 1 rfl;have b8:=j.f;have b3:=I.c 0 rfl;have b4:=I.c 1 rfl;go_wp2;refine bodyPost_ret (v:= Xm #[Xi #[O D n m,I6 (d:Int)],I6 (-1),I6 0]) (by simp[results,Tryz.results47,go_sem, *]) rfl ⟨O D n m,?_,?_,?_⟩
 ·rw[F.out]
 ·rw[F.out];exact((U.setCell (a:=⟨w.heap.size+1,0,Xb⟩) (by show w.heap.size+1<_;omega) _).setCell (a:=⟨w.heap.size+1,1,Xb⟩) (by show w.heap.size+1<_;omega) _).base t
 exact zy (zy ak (by simp) _) (by simp) _
theorem znD (a) (c:Nat) (fs:List Fr) (h:Int) (w:Xn) (f:qh w (O a fs.length c) fs) (d:Qa fs h=0):
  Xp prog 47 #[Xi #[O a fs.length c,I6 h]] w fun e w'=>∃b,e= Xl (Xm #[Xi #[b,I6 (zbV fs h)],I6 (JV fs h),I6 (Qa fs h)])/\zk w.heap.size w' b (zaE fs h)/\zc w w':=by
 unfold zbV JV zaE QL;rw[kE d,kE d,kE d];obtain⟨g,rfl⟩:=Int.eq_ofNat_of_zero_le (Zj d).2.2.1;rw[tN,d];exact zp2 a c fs g w f d
def Zu (m:Ma):Ma:={ m with fs:=zaE m.fs m.hand,hand:=zbV m.fs m.hand }
theorem zoH {w:Xn} {p:Nat} (h:ChW w0 p w V m) (c:Qa m.fs m.hand=0):
  Xp prog 47 #[Xi #[V.f.x,I6 m.hand]] w fun e w'=>∃b:Sli,e= Xl (Xm #[Xi #[b.x,I6 (zbV m.fs m.hand)],I6 (JV m.fs m.hand),I6 0])/\zb JR w.heap.size w' (b.x) (zaE m.fs m.hand)/\zc w w':=by
 obtain⟨a,-⟩:=h.at.ns;have k:=h.at.fs;(try simp only[Sli.x]at k⊢);rw[a]at k⊢;refine(znD V.f.a V.f.c m.fs m.hand w k c).mono ?_;rintro e w' ⟨b,rfl,d,h⟩;have a:zb JR w.heap.size w' b (zaE m.fs m.hand):=d;obtain⟨f,g,rfl⟩:=a.form;rw[c];exact⟨⟨f,_,g⟩,rfl,d,h⟩
theorem zip {w:Xn} {p:Nat} (h:ChW w0 p w V m) (g:Qa m.fs m.hand=0) (hi:JV m.fs m.hand=-1) (i:0<m.fs.length) (b:m.fs.length<=40) (a):
  Xp prog 26 #[Xj (Xa ⟨p,0,Xb⟩),a] w fun e w'=>e= Xl (Xh Xd)/\Chg w0 p w V (Zu m) w':=by
 have f:=dD h;obtain⟨k,-⟩:=h.at.ns;have j:0<V.f.n:=by omega
 have c:V.f.n<=40:=by omega
 have d:=h.box.box.c 0 rfl;have l:=h.box.box.c 1 rfl;have a:=zoH h g;rw[hi]at a;clear h g hi i b k;obtain⟨g,b⟩:=kA V.f.n;(try simp only[Sli.x]at d a);rw[b.out]at d j c a;have b:(0:Int)<2*(g:Int):=by omega
 go_enter func26,ntmps26
 go_wp2
 go_loopg [14] 1 (fun c b wr=>b=I6 0/\0<c/\wr=w)
 case atStart=>exact⟨rfl,by omega,rfl⟩
 obtain⟨rfl,b,rfl⟩:=hrel;go_wp2_with fail;refine a.mono ?_;clear a d l;rintro e a ⟨c,rfl,d,a⟩;have g:=dD (f.box.grew a);have b:=dD d;have h:=dD a;clear d a
 go_upto_region 5 with(refine ZU rfl 28 (.tmp 29) (.tmp 24) rfl p 0 rfl (Xi #[c.x,I6 (zbV m.fs m.hand)]) rfl [c.x,I6 (zbV m.fs m.hand)] rfl g (by simp[chL]) (by kernel_rfl) (by simp[Value.oneCell']) ?_)
 intro a c a _;have d:=dD<|f.setF h b a c
 clear c a;try simp only[Yv]
 go_wp2;go_ret;exact⟨rfl,d⟩
def zqs (B:Nat) (V:MaV):Prop:=(Zm B V.f.v/\Zm B V.s.v/\Zm B V.sb.v/\Zm B V.sq.v)/\(Zm B V.db.v/\Zm B V.dq.v/\Zm B V.fl.v/\Zm B V.ca.v/\Zm B V.sp.v)
theorem Zm.less {a:Nat} {v:Xq} (h:Zm b v) (k:a<=b):Zm a v:=fun x n c e=>nT k (h x n c e)
theorem znJ (u cs j:Int) (b:zpt u cs j) (w:Xn):
  Xp prog 34 #[Xi #[I6 u,I6 cs,I6 j]] w fun e w'=>(∃V:MaV,e= Xl (Xm #[Xi #[V.f.x,I6 0,V.s.x,V.sb.x,V.sq.x,V.db.x,V.dq.x,V.fl.x,I6 j,V.ca.x,V.sp.x],I6 0])/\zN w' V (zcr u cs j)/\zqs w.heap.size V/\∃v,V.sp=⟨Xa ⟨v,0,Xb⟩,1,1⟩)/\zc w w':=by
 obtain⟨a8,a⟩:=kB ((w.alloc (Xk #[I6 u,I6 cs,I6 j] 23)).alloc (Xk zM.toArray 41));have X:=gD2 a
 have l:=x2a a
 have a9:=x2b a
 have i:=dD a;clear a;obtain⟨r,a⟩:∃e,Xo (zj7 u=e):=⟨_,rfl⟩;obtain⟨t,c⟩:∃e,Xo (zj3 cs=e):=⟨_,rfl⟩;obtain⟨z,d⟩:∃e,Xo (JO cs=e):=⟨_,rfl⟩;obtain⟨K,g⟩:∃e,Xo (JO j=e):=⟨_,rfl⟩;obtain⟨M,h⟩:∃e:Int,Xo ((if 0<=j/\j<=80 then(0:Int)else 4)=e):=⟨_,rfl⟩;obtain⟨a3,L⟩:∃e:Int,Xo ((if 0<=j/\j<=80 then j else 0)=e):=⟨_,rfl⟩;have k:=fun W=>zj6 u W
 have m:=fun W=>znG cs W
 have n:=fun W=>zgE cs W
 have p:=fun W=>zgE j W
 have q:=fun W=>zlI j W
 rw[a.out]at k;rw[c.out]at m;rw[d.out]at n;rw[g.out]at p;rw[h.out,L.out]at q;have W:Xo (znK u cs j=[r,t,z,K,M]):=dD<|by unfold znK;rw[a.out,c.out,d.out,g.out,h.out]
 have a:=dD k;have h:=dD m;have A:=dD n;have G:=dD p;have Z:=dD q;clear k m n p q
 go_enter func34,ntmps34
 go_upto_region 1 with fail;rw[i.out];have i:=l.c 0 rfl;go_wp2_with fail;refine(a _).mono ?_;rintro e c ⟨P,rfl,⟨g,a⟩,d⟩;clear i;have aa:=dD g;have y:=dD d;have C:=dD a;clear g d a;go_upto_region 2 with fail;obtain⟨a,a⟩:=kB (c.alloc (Xk #[P.x,I6 0] 28));have p:=gA a
 have R:=xA a
 rw[a];clear a;obtain⟨a,a⟩:∃m,Xo (c.heap.size=m):=⟨_,rfl⟩;rw[a.out]at R⊢;have d:=(l.grew (y.trans p)).c 1 rfl;go_wp2_with fail;refine(h _).mono ?_;rintro e a ⟨S,rfl,⟨h,g⟩,a⟩;clear d;have ab:=dD h;have q:=dD a;have c:=dD ((y.trans p).trans a);have D:=dD g;clear h a g;have d:=(l.grew c).c 1 rfl;go_upto_region 3 with fail;go_wp2_with fail;refine(A _).mono ?_;rintro e g ⟨A,Q,rfl,⟨k,B,a,h⟩,i⟩;clear d;have a4:=dD k;have a5:=dD B;have n:=dD i;have E:=dD a;have F:=dD h;clear k B i a h;go_upto_region 4 with fail;obtain⟨a,a⟩:=kB (g.alloc (Xk #[A.x,Q.x] 34));have k:=gA a
 have T:=xA a
 rw[a];clear a;obtain⟨a,a⟩:∃m,Xo (g.heap.size=m):=⟨_,rfl⟩;rw[a.out]at T⊢;have d:=dD ((c.trans n).trans k);have c:=(l.grew d).c 2 rfl;go_wp2_with fail;refine(G _).mono ?_;rintro e g ⟨B,N,rfl,⟨V,Y,a,h⟩,U⟩;clear c;have a6:=dD V;have a7:=dD Y;have i:=dD U;have G:=dD a;have H:=dD h;clear V Y U a h;go_upto_region 5 with fail;obtain⟨a,a⟩:=kB (g.alloc (Xk #[B.x,N.x] 34));have h:=gA a
 have U:=xA a
 rw[a];clear a;obtain⟨a,a⟩:∃m,Xo (g.heap.size=m):=⟨_,rfl⟩;rw[a.out]at U⊢;have g:=dD ((d.trans i).trans h);have c:=(l.grew g).c 2 rfl;go_wp2_with fail;refine(Z _).mono ?_;rintro e l ⟨rfl,a⟩;clear c;have c:=dD a;clear a;go_upto_region 6 with fail;obtain⟨Y,a⟩:=kB (l.alloc (Xk #[eS,I6 a3] 37));have d:=gA a
 have V:=xA a
 rw[a];clear a;obtain⟨a,a⟩:∃m,Xo (l.heap.size=m):=⟨_,rfl⟩;rw[a.out]at V⊢;obtain⟨I,Z⟩:=kA (zu [r,t,z,K,M]);have a:=zdc (O (Xa ⟨Y.heap.size,0,Xb⟩) 5 5) [r,t,z,K,M] _ (zff zk3 Y [r,t,z,K,M] #[I6 r,I6 t,I6 z,I6 K,I6 M] rfl (show 5*8<=140737488355328 by decide))
 rw[Z.out]at a;go_wp2_with fail;refine a.mono ?_;rintro e l ⟨rfl,r⟩;clear a;have a:Xo (zc Y l):=dD<|by rw[r];exact za _ _
 clear r;have z:=dD (((g.trans c).trans d).trans a);have K:=dD (a9.grew z);have g:I=0:=by rw[<-Z.out,<-W.out];exact zlJ b
 subst g;have W:=(R.grew ((((((q.trans n).trans k).trans i).trans h).trans c).trans (d.trans a))).c 0 rfl;have Y:=(R.grew ((((((q.trans n).trans k).trans i).trans h).trans c).trans (d.trans a))).c 1 rfl;have Z:=(T.grew (((i.trans h).trans c).trans (d.trans a))).c 0 rfl;have I:=(T.grew (((i.trans h).trans c).trans (d.trans a))).c 1 rfl;have a0:=(U.grew ((c).trans (d.trans a))).c 0 rfl;have a1:=(U.grew ((c).trans (d.trans a))).c 1 rfl;have U:=(V.grew a).c 0 rfl;have a2:=(V.grew a).c 1 rfl;have t:=dD b;clear b;go_upto_region 9 with fail;obtain⟨r,b⟩:=kB (l.alloc (Xk #[Xh Xc,eS,eS,eS,eS,eS,eS,eS,eS,eS] 79));have g:=gA b
 have T:Xo (zq Qz r (O (Xa ⟨l.heap.size,0,Xb⟩) 1 1) [⟨Xc,zK,zK,zK,zK,zK,zK,zK,zK,zK⟩]):=dD<|by rw[<-b];exact jV Qz l ⟨Xc,zK,zK,zK,zK,zK,zK,zK,zK,zK⟩ _ _ rfl (by decide)
 have M:=dD (K.grew g);have K:=dD b;clear b;obtain⟨v,r⟩:∃m,Xo (l.heap.size=m):=⟨_,rfl⟩
 go_wp2_with (first | (rw[K.out];rw[r.out];refine zF rfl 41 (.tmp 2) (.tmp 63) rfl (w.heap.size+1) rfl [P.x,I6 0,S.x,A.x,Q.x,B.x,N.x,eS,I6 a3,eS,O (Xa ⟨v,0,Xb⟩) 1 1] rfl M rfl (by kernel_rfl) (fun V R=>by
   simp only[mC,nM,or_false]at R
   rcases R with rfl|rfl|rfl|rfl|rfl|rfl|rfl|rfl|rfl|rfl|rfl <;> rfl) ?_))
 intro l M b _;clear W Y Z I a0 a1 U a2;have K:Xo (zc w l):=dD<|zd ((X.trans z).trans g) b (by omega)
 have m:w.heap.size+1<a8.heap.size:=a9.lt;have W:=bS y.out;have X:=bS p.out;have Y:=bS q.out;have Z:=bS n.out;have I:=bS k.out;have a0:=bS z.out;have m:∀{y:Nat} {V:Xq},a8.heap.size<=y->Zm y V->∀x z y,V= O (Xa x) z y->Xa x.block≠Xa (w.heap.size+1):=fun U U x z y R e=>by
  have:=U x z y R;simp only[Option.some.injEq]at e;omega
 have R:=((((((p.trans q).trans n).trans k).trans i).trans h).trans c).trans ((d.trans a).trans g);have p:=((((n.trans k).trans i).trans h).trans c).trans ((d.trans a).trans g);have n:=(((k.trans i).trans h).trans c).trans ((d.trans a).trans g);have k:=(h.trans c).trans ((d.trans a).trans g);have d:Xo (zN l ⟨P,S,A,Q,B,N,zK,zK,⟨Xa ⟨v,0,Xb⟩,1,1⟩⟩ (zcr u cs j)):=dD<|by
  obtain⟨a,c,g⟩:=t.out;refine⟨?_,?_,?_,?_,?_,?_,?_,zq.nil qS l,?_⟩
  ·have h:=(aa.grew R).beside b (m (nR _) C);unfold znI at h;rw[kE a]at h;exact h
  ·have h:=(ab.grew p).beside b (m (by omega) D)
   unfold znH at h;rw[kE c]at h;exact h
  ·have h:jF l (A.x) (zk1 cs):=⟨(a4.grew n).1.beside b (m (by omega) E),a4.2⟩
   unfold zk1 at h;rw[kE (by omega)]at h
   exact h
  ·exact⟨(a5.grew n).1.beside b (m (by omega) F),a5.2⟩
  ·have h:jF l (B.x) (zk1 j):=⟨(a6.grew k).1.beside b (m (by omega) G),a6.2⟩
   unfold zk1 at h;rw[kE g]at h;exact h
  ·exact⟨(a7.grew k).1.beside b (m (by omega) H),a7.2⟩
  ·exact⟨nR _,[],fun w' _=>zq.nil fvE w',rfl,fun i x f a=>by simp at a⟩
  have c:=T.out;rw[r.out]at c;refine⟨_,c.beside b (fun x z y a e=>?_),rfl,fun i x s a c=>?_⟩
  ·cases a;simp only[Option.some.injEq]at e;have:=r.out;omega
  cases i with
  | zero=>
   cases a;cases c;exact⟨rfl,zq.nil arE l,nR _,Ja.nil 0 0 l⟩
  | succ i=>simp at a
 have a:Xo (zqs w.heap.size ⟨P,S,A,Q,B,N,zK,zK,⟨Xa ⟨v,0,Xb⟩,1,1⟩⟩):=dD<|by
  refine⟨⟨C.less (by omega),D.less (by omega),E.less (by omega),F.less (by omega)⟩,G.less (by omega),H.less (by omega),ZB _,ZB _,fun x z y e=>?_⟩
  cases e;have:=r.out
  show w.heap.size<=v
  omega
 have b:a3=j:=by rw[<-L.out,kE t.2.2]
 subst b;clear R p n k m W X Y Z I a0;go_wp2;refine bodyPost_ret (qL rfl _ rfl M underlying41 rfl (by kernel_rfl)) rfl ⟨⟨⟨P,S,A,Q,B,N,zK,zK,⟨Xa ⟨v,0,Xb⟩,1,1⟩⟩,rfl,d,a,v,rfl⟩,K⟩
end
section
theorem zb5 {k:Nat} {fr:Fr} (e:k<m.fs.length) (b:zbH m Xb m.ca=0) (f:zL m.ca k≠0->fr.p=(zW m k).p) (file a:Int):qn { m with fs:=m.fs.set k fr } file a=qn m file a:=by
 obtain⟨d,_,_⟩:=zp.1 b;refine zhd (m:=m) (m':={ m with fs:=m.fs.set k fr }) rfl rfl rfl rfl (fun c b=>?_) file a
 rw[jJ e c.fr (ZE (d c b)).1.2.2.2.2.1]
 by_cases e:c.fr=(k:Int)
 ·rw[kE e,e];exact f (by have:=zaC b;rw[e]at this;exact this)
 rw[kF e]
theorem zlq {k:Nat} {fr:Fr} {x:On} {e:En} (c:k<m.fs.length) (a:zbH m Xb m.ca=0) (f:zL m.ca k≠0->fr.p=(zW m k).p) (d:e.kind=1->0<=e.n) (g:e.kind=1->e.n=(k:Int)->fr.p=(zW m k).p/\(fr.f<0↔(zW m k).f<0)):zk0 { m with fs:=m.fs.set k fr } x e=zk0 m x e:=by
 refine zfe rfl rfl (fun b=>?_) (fun _=>rfl) (fun _=>rfl) (zb5 c a f)
 rw[jJ c e.n (d b)]
 by_cases a:e.n=(k:Int)
 ·rw[kE a,a];exact g b a
 rw[kF a];exact⟨rfl,Iff.rfl⟩
structure Rt (m:Ma):Prop where
 w:maW m=0
 t8:∀s∈m.sp,s.tb.length=8
theorem Rt.inv (h:Rt m):qH m (Qn m):=(zcZ h.w).1
theorem Rt.hand (h:Rt m):0<=m.hand/\m.hand<max (m.fs.length:Int) 1:=(zcZ h.w).2
theorem Rt.tb (h:Rt m) {s:Sp} (c:s∈m.sp):zca s.tb:=by
 refine⟨h.t8 s c,ZS.1 ?_⟩;have a:=h.w;unfold maW at a;rw[zn]at a;have b:J7 m=0:=a _ (by simp)
 unfold J7 at b;rw[zn]at b;have a:=zn.1 (b (zu (m.sp.map spE)) (by simp)) (spE s) (Yz.2 ⟨s,c,rfl⟩)
 unfold spE at a
 split at a
 ·rename_i b
  exact absurd a b
 split at a
 ·rename_i b
  exact absurd a b
 rename_i b
 exact Classical.byContradiction b
theorem Rt.of (c:qH m (Qn m)) (ht:∀s∈m.sp,zca s.tb) (a:0<=m.hand) (b:m.hand<max (m.fs.length:Int) 1):Rt m:=by
 refine⟨?_,fun s d=>(ht s d).1⟩
 have:=c.right a b;rw[zjr ht]at this;exact this
theorem zbD {p:Nat} {s:Sp} (h:m.sp[p]? =Xa s):(Qn m)[p]? =Xa (zo s):=by
 unfold Qn;rw[Yh,h];rfl
theorem qH.tabs (h:qH m T) {sp':List Sp} (d:sp'.length=m.sp.length) (e:∀(p:Nat) s s',m.sp[p]? =Xa s->sp'[p]? =Xa s'->s'.live=s.live/\s'.ars=s.ars):qH { m with sp:=sp' } T:=by
 have a:∀(p:Nat) s',sp'[p]? =Xa s'->∃s,m.sp[p]? =Xa s/\s'.live=s.live/\s'.ars=s.ars:=fun p s' b=>by
  have c:p<m.sp.length:=by rw[<-d];exact(gS.1 b).1
  exact⟨_,gE c,e p _ s' (gE c) b⟩
 refine⟨h.fs40,h.fok,h.sl60,h.sbl,h.sq,h.dok,h.st,h.cnt,h.blk,h.que,by show sp'.length<=4;rw[d];exact h.spl,fun s' b=>?_,h.tl.trans d.symm,?_,fun p s' j b k q n=>?_,h.cf,h.cs⟩
 ·obtain⟨p,c⟩:=Xy b;obtain⟨s,d,f,e⟩:=a p s' c;rw[f,e];exact h.spok s (mG d)
 ·obtain⟨g,c,i⟩:=zp.1 h.ca;exact zp.2 ⟨fun c l=>g c l,fun g c c=>(by cases c),i⟩
 obtain⟨s,d,f,e⟩:=a p s' b;rw[e];exact h.ent p s j d k q n
def zfh (m:Ma) (p n:Nat) (e:En):Ma:={ m with sp:=m.sp.modify p fun s=>{ s with tb:=zkZ s.tb n e } }
theorem zi8 {p n:Nat} {e:En} {q:Nat}:(zfh m p n e).sp[q]? =(m.sp[q]?).map fun s=>if p=q then{ s with tb:=zkZ s.tb n e }else s:=by
 unfold zfh;simp only[Od]
 by_cases h:p=q
 ·simp[h]
 simp[h]
theorem zi7 {s:Sp} (ht:zca s.tb) {n:Nat} (b:n<64) {e:En} (a:enW e=0):zo { s with tb:=zkZ s.tb n e }=qN (zo s) n e:=by
 funext j
 unfold zo qN;simp only;rw[zn4 ht b a _ _ (Nat.mod_lt _ (by decide))]
 by_cases h:j=n
 ·rw[kE h,kE (by subst h;exact⟨rfl,rfl⟩)]
 rw[kF h,kF (fun k=>h (by omega))]
theorem zhX {p n:Nat} {e:En}:(zfh m p n e).sp.length=m.sp.length:=by simp[zfh]
theorem zly {p n:Nat} {e:En} {q:Nat} {s s':Sp} (b:m.sp[q]? =Xa s) (a:(zfh m p n e).sp[q]? =Xa s'):s'.live=s.live/\s'.ars=s.ars:=by
 rw[zi8,b]at a;simp only[Option.map_some,Option.some.injEq]at a;subst a
 split <;> exact⟨rfl,rfl⟩
theorem zi6 (ht:∀s∈m.sp,zca s.tb) {p n:Nat} {e:En} (c:enW e=0):∀s∈(zfh m p n e).sp,zca s.tb:=fun s d=>by
 obtain⟨q,a⟩:=Xy d;rw[zi8]at a
 cases h:m.sp[q]? with
 | none=>rw[h]at a;cases a
 | some x=>
  rw[h]at a;simp only[Option.map_some,Option.some.injEq]at a;have b:=ht x (mG h);subst a
  split
  ·exact zo2 b c
  exact b
structure Sam (S:Nat->Nat->Prop) (m m':Ma):Prop where
 spl:m'.sp.length=m.sp.length
 sp:∀(q:Nat) s s',m.sp[q]? =Xa s->m'.sp[q]? =Xa s'->s'.live=s.live/\s'.ars=s.ars
 see:∀(q n:Nat) s s',m.sp[q]? =Xa s->m'.sp[q]? =Xa s'->n<64->¬S q n->zk0 m' (zE s.ars n) (zo s' n)=zk0 m (zE s.ars n) (zo s n)
 fll:m'.fl.length=m.fl.length
 sz:∀f,ZG m' f=ZG m f
 bk:∀f,bkN m' f=bkN m f
 byt:∀(file k:Nat),(k:Int)<ZG m (file:Int)->(qn m' (file:Int) ((k / 8:Nat):Int)).getD (k % 8) 0=(qn m (file:Int) ((k / 8:Nat):Int)).getD (k % 8) 0
theorem Sam.refl (S:Nat->Nat->Prop) (m):Sam S m m:=⟨rfl,fun q s b h a=>by rw[h]at a;cases a;exact⟨rfl,rfl⟩,fun q n s b h a _ _=>by rw[h]at a;cases a;rfl,rfl,fun _=>rfl,fun _=>rfl,fun _ _ _=>rfl⟩
theorem Sam.trans {S d:Nat->Nat->Prop} {a b c:Ma} (h:Sam S a b) (k:Sam d b c):Sam (fun q n=>S q n\/d q n) a c:=by
 have i:∀(q:Nat) s,a.sp[q]? =Xa s->∃t,b.sp[q]? =Xa t:=fun q s e=>⟨_,gE (by rw[h.spl];exact(gS.1 e).1)⟩
 refine⟨k.spl.trans h.spl,fun q s l e f=>?_,fun q n s l e f p m=>?_,k.fll.trans h.fll,fun d=>(k.sz d).trans (h.sz d),fun d=>(k.bk d).trans (h.bk d),fun d j g=>(k.byt d j (by rw[h.sz];exact g)).trans (h.byt d j g)⟩
 ·obtain⟨t,d⟩:=i q s e;have j:=h.sp q s t e d;have g:=k.sp q t l d f;exact⟨g.1.trans j.1,g.2.trans j.2⟩
 obtain⟨t,d⟩:=i q s e;have j:=h.sp q s t e d;have g:=k.see q n t l d f p (fun f=>m (.inr f))
 rw[j.2]at g;exact g.trans (h.see q n s t e d p (fun f=>m (.inl f)))
theorem Sam.mono {S c:Nat->Nat->Prop} {a b:Ma} (h:Sam S a b) (hS:∀q n,S q n->c q n):Sam c a b:=⟨h.spl,h.sp,fun q n s g f d e c=>h.see q n s g f d e (fun e=>c (hS q n e)),h.fll,h.sz,h.bk,h.byt⟩
section
variable{m:Ma} {p n:Nat} {s:Sp}
theorem Rt.ent (h:Rt m) (a:m.sp[p]? =Xa s) (b:n<64):zo s n=en0\/zcc m (zE s.ars n) (zo s n):=h.inv.ent p s _ a (zbD a) n b
theorem Rt.present (h:Rt m) (c:m.sp[p]? =Xa s) (b:n<64) (a:(zo s n).kind=1):∃(k:Nat) (fr:Fr),(zo s n).n=(k:Int)/\m.fs[k]? =Xa fr/\zW m (zo s n).n=fr/\fr.r≠0:=by
 rcases h.ent c b with e|e
 ·rw[e]at a;cases a
 obtain⟨d,d,d,_⟩:=zZ e (by omega)
 refine⟨(zo s n).n.toNat,m.fs[(zo s n).n.toNat]'(by omega),by omega,gE _,?_,fun d=>?_⟩
 ·have:=z8 (m:=m) (k:=(zo s n).n.toNat) (gE (by omega))
  rw[show(((zo s n).n.toNat:Nat):Int)=(zo s n).n by omega]at this
  exact this
 have e:=(h.inv.free (gE (show(zo s n).n.toNat<m.fs.length by omega)) d).1
 have d:=zfF (zbD c) b a;rw[show(((zo s n).n.toNat:Nat):Int)=(zo s n).n by omega]at e
 omega
end
section
variable{m:Ma} {k p n:Nat} {fr:Fr} {s:Sp}
theorem Rt.kind0 (h:Rt m) (c:m.sp[p]? =Xa s) (b:n<64) (a:(zo s n).kind=1):0<=(zo s n).n:=by
 obtain⟨k,_,e,_⟩:=h.present c b a;omega
theorem zo5 {m1:Ma} {e:En} (ht:∀s∈m1.sp,zca s.tb) (b:m1.sp[p]? =Xa s) (d:n<64) (c:enW e=0) {s':Sp} (a:(zfh m1 p n e).sp[p]? =Xa s'):zo s' n=e/\s'.ars=s.ars:=by
 rw[zi8,b]at a;simp only[Option.map_some,Option.some.injEq,if_true]at a;subst a;rw[zi7 (ht s (mG b)) d c];exact⟨by unfold qN;rw[kE rfl],rfl⟩
end
theorem zlx {m1:Ma} {e:En} {p n q:Nat} {s s':Sp} (ht:∀s∈m1.sp,zca s.tb) (f:n<64) (d:enW e=0) (c:m1.sp[q]? =Xa s) (a:(zfh m1 p n e).sp[q]? =Xa s') (b:¬(q=p/\j=n)):zo s' j=zo s j:=by
 rw[zi8,c]at a;simp only[Option.map_some,Option.some.injEq]at a;subst a
 split
 ·rename_i h
  subst h;rw[zi7 (ht s (mG c)) f d];unfold qN;rw[kF (fun h=>b ⟨rfl,h⟩)]
 rfl
section
variable{m:Ma} {k p n:Nat} {fr:Fr} {s:Sp}
theorem zjd (h:Rt m) (c:m.fs[k]? =Xa fr) (f:fr.r≠0) (u d:Bool):Rt { m with fs:=m.fs.set k { fr with u:=u,d:=d } }/\Sam (fun _ _=>False) m { m with fs:=m.fs.set k { fr with u:=u,d:=d } }:=by
 have e:=(gS.1 c).1;have i:∀a b,qn { m with fs:=m.fs.set k { fr with u:=u,d:=d } } a b=qn m a b:=fun a b=>zb5 e h.inv.ca (fun _=>by rw[z8 c]) a b
 refine⟨Rt.of (h.inv.marks (p:=fr.p) (u:=u) (d:=d) c f) (fun s b=>h.tb b) h.hand.1 (by simpa using h.hand.2),rfl,fun q s g b f=>?_,fun q j s g b f j _=>?_,rfl,fun _=>rfl,fun _=>rfl,fun a a _=>by rw[i]⟩
 ·have:m.sp[q]? =Xa g:=f;rw[b]at this;cases this;exact⟨rfl,rfl⟩
 have:m.sp[q]? =Xa g:=f;rw[b]at this;cases this;refine zlq e h.inv.ca (fun _=>by rw[z8 c]) (h.kind0 b j) (fun _ _=>by rw[z8 c];exact⟨rfl,Iff.rfl⟩)
end
def Jf (k:Int) (e:En) (f:Nat->En):Nat->En:=fun j=>if isE (f j) 1 k=Xc then e else f j
theorem zjx (k:Int) (e) (f:Nat->En) (kind j:Int):∀n:Nat,Ze (Jf k e f) kind j n+(if kind=1/\j=k then Ze f 1 k n else 0)=Ze f kind j n+(if isE e kind j=Xc then Ze f 1 k n else 0)
 | 0=>by simp[Ze]
 | n+1=>by
  have b:=zjx k e f kind j n;unfold Ze;have a:Jf k e f n=if isE (f n) 1 k=Xc then e else f n:=rfl;rw[a]
  cases d:isE (f n) 1 k with
  | true=>
   simp only[if_true];have g:isE (f n) kind j=Xc↔kind=1/\j=k:=by
    simp only[isE,Xv,decide_eq_true_eq]at d⊢;omega
   by_cases a:kind=1/\j=k
   ·rw[kE a]at b⊢;rw[g.2 a]
    cases c:isE e kind j <;> simp[c]at b⊢<;> omega
   rw[kF a]at b⊢;have:isE (f n) kind j=Xd:=by
    cases h:isE (f n) kind j with
    | false=>rfl
    | true=>exact absurd (g.1 h) a
   rw[this]
   cases c:isE e kind j <;> simp[c]at b⊢<;> omega
  | false=>
   simp only[if_false,Bool.false_eq_true]
   by_cases a:kind=1/\j=k
   ·rw[kE a]at b⊢;rw[a.1,a.2,d];rw[a.1,a.2]at b
    simp at b⊢
    omega
   rw[kF a]at b⊢
   simp at b⊢
   omega
theorem zdp (k:Int) (e) (kind j:Int):∀T:List (Nat->En),qO (T.map (Jf k e)) kind j+(if kind=1/\j=k then qO T 1 k else 0)=qO T kind j+(if isE e kind j=Xc then qO T 1 k else 0)
 | []=>by simp[qO]
 | f :: T=>by
  have a:=zdp k e kind j T;have b:=zjx k e f kind j 64;simp only[qO,mP,List.sum_cons]at a⊢
  by_cases d:kind=1/\j=k
  ·rw[kE d]at a b⊢
   by_cases c:isE e kind j=Xc
   ·rw[kE c]at a b⊢;omega
   rw[kF c]at a b⊢;omega
  rw[kF d]at a b⊢
  by_cases c:isE e kind j=Xc
  ·rw[kE c]at a b⊢;omega
  rw[kF c]at a b⊢;omega
section
variable{m:Ma} {T:List (Nat->En)}
theorem qH.moved (h:qH m T) {k:Nat} {fr:Fr} (F:m.fs[k]? =Xa fr) (e:En) (C:e.kind≠1) {sl':List Int} {sb':List (List Int)} {sq':List (Int × List Int)} (p:sl'.length=m.sl.length) (u:sb'.length=m.sb.length) (w:zB sb'.length sq'=0)
  (A:∀(j:Nat) z,sl'[j]? =Xa z->z=(qO T 2 j+(if isE e 2 (j:Int)=Xc then qO T 1 k else 0):Nat)) (B:e=en0\/(enW e=0/\e.kind=2/\e.n<m.sl.length/\fr.f=-1)):
  qH { m with fs:=m.fs.set k frF,ca:=m.ca.filter fun d=>!decide (d.fr=(k:Int)),sl:=sl',sb:=sb',sq:=sq' } (T.map (Jf (k:Int) e)):=by
 have s:=(gS.1 F).1;have l:∀j:Int,j≠(k:Int)->zL (m.ca.filter fun d=>!decide (d.fr=(k:Int))) j=zL m.ca j:=fun j c=>by
  unfold zL;rw[List.countP_filter]
  congr 1
  funext d
  by_cases e:d.fr=j
  ·have:d.fr≠(k:Int):=by omega
   simp[e,c]
  simp[e]
 have q:zL (m.ca.filter fun d=>!decide (d.fr=(k:Int))) (k:Int)=0:=by
  unfold zL;rw[Og];intro d t;rw[Ye]at t
  simpa using t.2
 obtain⟨f,a⟩:∃f:Ma,{ m with fs:=m.fs.set k frF,ca:=m.ca.filter fun d=>!decide (d.fr=(k:Int)),sl:=sl',sb:=sb',sq:=sq' }=f:=⟨_,rfl⟩
 have r:∀z:Int,0<=z->z≠(k:Int)->zW f z=zW m z:=fun z b g=>by
  rw[<-a];rw[show zW { m with fs:=m.fs.set k frF,ca:=m.ca.filter fun d=>!decide (d.fr=(k:Int)),sl:=sl',sb:=sb',sq:=sq' } z=zW { m with fs:=m.fs.set k frF } z from rfl,jJ s _ b,kF g]
 have i:f.sl.length=m.sl.length:=by rw[<-a];exact p
 have n:f.fs.length=m.fs.length:=by rw[<-a];simp
 rw[a];refine⟨by rw[n];exact h.fs40,fun v b=>?_,by rw[i];exact h.sl60,by rw[<-a];show sb'.length=sl'.length;rw[u,p];exact h.sbl,by rw[<-a];exact w,by rw[<-a];exact h.dok,by rw[<-a];exact h.st,by rw[<-a];exact h.cnt,by rw[<-a];exact h.blk,by rw[<-a];exact h.que,by rw[<-a];exact h.spl,by rw[<-a];exact h.spok,by rw[<-a];simpa using h.tl,?_,fun u D v G b j c=>?_,fun j v c=>?_,fun j z c=>?_⟩
 ·rw[<-a]at b
  rcases List.mem_or_eq_of_mem_set b with b|rfl
  ·exact h.fok v b
  exact⟨by decide,by decide,.inl rfl,fun _=>rfl,fun _=>rfl⟩
 ·obtain⟨y,E,w⟩:=zp.1 h.ca;have p:f.ca=m.ca.filter fun d=>!decide (d.fr=(k:Int)):=by rw[<-a]
  rw[p];refine zp.2 ⟨fun d t=>?_,fun u d f=>(by cases f),w.filter _⟩
  have f:=Ye.1 t;have g:d.fr≠(k:Int):=by simpa using f.2
  obtain⟨p,t,w,x⟩:=ZE (y d f.1);have f:=r d.fr p.2.2.2.2.1 g;refine zbI ?_ (by rw[f];exact t) (by rw[f];exact w) (by rw[f];exact x)
  rw[<-a]
  simpa [bkN]using p
 ·rw[Yh]at b
  cases x:T[u]? with
  | none=>rw[x]at b;cases b
  | some w=>
   rw[x]at b;simp only[Option.map_some,Option.some.injEq]at b;subst b;have t:m.sp[u]? =Xa D:=by rw[<-a]at G;exact G
   unfold Jf
   by_cases b:isE (w j) 1 (k:Int)=Xc
   ·rw[kE b]
    rcases B with B|⟨f,G,p,p⟩
    ·exact .inl B
    right;refine⟨f,by omega,?_⟩
    simp only[isE,Xv,decide_eq_true_eq]at b
    rcases h.ent u D w t x j c with f|f
    ·rw[f]at b;have:=b.1
     simp[en0]at this
    have p:=f.2.2;unfold za4 at p⊢
    split at p
    ·cases p
    rename_i y
    rw[kF y,kE G,kF];rw[kF (by omega),kF (by have:=(zZ f (by omega)).2.2.1;omega)]at p
    rw[b.2,z8 F]at p
    split at p
    ·cases p
    rename_i E
    rintro(p|p)
    ·rw[i]at p;omega
    exact E (.inr (.inl ⟨p,fun p=>by omega⟩))
   rw[kF b]
   rcases h.ent u D w t x j c with f|f
   ·exact .inl f
   refine .inr ⟨f.1,f.2.1,ZC f.2.2 i n fun i=>?_⟩
   obtain⟨n,p,t,t⟩:=zZ f i;have g:(w j).n≠(k:Int):=fun f=>b (by simp[isE,n,f])
   rw[r _ p g];exact⟨rfl,rfl,t⟩
 ·rw[<-a]at c⊢;simp only at c⊢;have b:=zdp (k:Int) e 1 (j:Int) T;rw[kF (show¬isE e 1 (j:Int)=Xc by simp[isE,C])]at b
  by_cases f:j=k
  ·subst f;rw[sF s]at c;cases c;rw[kE ⟨rfl,rfl⟩]at b;rw[q];exact⟨by simp[frF];omega,fun h=>by simp[frF]at h⟩
  rw[sN (fun h=>f h.symm)]at c
  rw[kF (by omega)]at b
  rw[l j (by omega)]
  have:=h.cf j v c;refine⟨?_,this.2⟩;omega
 have b:=zdp (k:Int) e 2 (j:Int) T;rw[kF (by omega)]at b
 have:sl'[j]? =Xa z:=by rw[<-a]at c;exact c
 rw[A j z this];omega
theorem zik {m:Ma} {k:Nat} (h:zL m.ca (k:Int)=0):(m.ca.filter fun d=>!decide (d.fr=(k:Int)))=m.ca:=by
 rw[Oh];intro d a;unfold zL at h;rw[Og]at h;have:=h d a
 simpa using this
theorem qH.mine0 (h:qH m T) {k:Nat} {fr:Fr} (e:m.fs[k]? =Xa fr) (a:fr.f=-1):zL m.ca (k:Int)=0:=by
 refine Classical.byContradiction fun c=>?_
 obtain⟨d,a,b⟩:=zb6 c;obtain⟨c,c,c,f⟩:=ZE ((zp.1 h.ca).1 d a);rw[b,z8 e]at c;omega
end
def ZI (k:Int) (e:En) (s:Sp):Sp:={ s with tb:=Zt (Jf k e (zo s)) }
theorem zbm (h:Rt m) {s:Sp} (a:s∈m.sp) {k:Int} {e:En} (b:enW e=0):zo (ZI k e s)=Jf k e (zo s):=by
 have c:∀n,enW (Jf k e (zo s) n)=0:=fun n=>by
  unfold Jf
  split
  ·exact b
  exact(h.tb a).get _ _
 funext j
 by_cases b:j<64
 ·unfold ZI;unfold zo;exact zfb (fun n _=>c n) b
 have b:zo s j=en0:=by
  unfold zo zaL;rw[gN (l:=s.tb) (by rw[(h.tb a).1];omega)]
  rfl
 have a:zo (ZI k e s) j=en0:=by
  unfold zo zaL ZI;simp only;rw[gN (l:=Zt (Jf k e (zo s))) (by simp[Zt,Zs];omega)]
  rfl
 rw[a];unfold Jf;rw[b,jI 1 k (by decide)]
 rfl
section
variable{m:Ma}
theorem zgF (h:Rt m) {k:Int} {e:En} (b:enW e=0):∀s∈m.sp.map (ZI k e),zca s.tb:=fun s c=>by
 obtain⟨d,a,rfl⟩:=Yz.1 c;have c:∀n,n<64->enW (Jf k e (zo d) n)=0:=fun n _=>by
  unfold Jf
  split
  ·exact b
  exact(h.tb a).get _ _
 exact⟨by simp[ZI,Zt,Zs],ZS.1 (zi0 c)⟩
theorem zaX {k:Int} {e:En} {q:Nat} {s':Sp} (h:(m.sp.map (ZI k e))[q]? =Xa s'):∃s,m.sp[q]? =Xa s/\s'=ZI k e s:=by
 rw[Yh]at h
 cases a:m.sp[q]? with
 | none=>rw[a]at h;cases h
 | some s=>rw[a]at h;simp only[Option.map_some,Option.some.injEq]at h;exact⟨s,rfl,h.symm⟩
theorem zeF (h:Rt m) {k:Int} {e:En} (b:enW e=0) (sp':List Sp) (a:sp'=m.sp.map (ZI k e)):sp'.map zo=(Qn m).map (Jf k e):=by
 rw[a];unfold Qn;rw[List.map_map,List.map_map]
 apply Oi
 intro s a;exact zbm h a b
theorem zeJ {α:Type} {p q:α->Bool}:∀{l:List α},(∀x∈l,p x=q x)->l.find? p=l.find? q
 | [],_=>rfl
 | x :: l,h=>by
  rw[List.find?_cons,List.find?_cons,h x (by simp),zeJ (l:=l) fun y a=>h y (by simp[a])]
theorem zfJ {m:Ma} {k:Nat} {fr:Fr} (_hk:k<m.fs.length) (a:m'.fs=m.fs.set k fr) (c:0<=z) (b:z≠(k:Int)):zW m' z=zW m z:=by
 unfold zW;rw[a,gD,gD,sN (by omega)]
def Qe (m:Ma) (k j:Nat) (r:Int) (sb':List (List Int)) (sq':List (Int × List Int)):Ma:={ m with fs:=m.fs.set k frF,sl:=m.sl.set j r,sb:=sb',sq:=sq',sp:=m.sp.map (ZI (k:Int) ⟨2,(j:Int),Xd⟩) }
theorem zo0 (h:Rt m) {k:Nat} {fr:Fr} {sb':List (List Int)} {sq':List (Int × List Int)} (q:m.fs[k]? =Xa fr) (u:fr.f=-1) (_hr:fr.r≠0) (v:m.sl[j]? =Xa 0) (a:sb'.length=m.sb.length) (c:zB sb'.length sq'=0) (w:qj sb' sq' (j:Int)=pgL fr.p) (x:∀i:Int,0<=i->i≠(j:Int)->qj sb' sq' i=qj m.sb m.sq i):
  Rt (Qe m k j fr.r sb' sq')/\Sam (fun _ _=>False) m (Qe m k j fr.r sb' sq'):=by
 have r:=(gS.1 q).1;have b:=(gS.1 v).1;have d:=h.inv.sl60;have t:enW ⟨2,(j:Int),Xd⟩=0:=Qg (by simp) ⟨by simp,by simp only;omega,fun h=>by simp at h⟩ (by simp)
 have n:=h.inv.mine0 q u;have d:=h.inv.moved q ⟨2,(j:Int),Xd⟩ (by simp) (sl':=m.sl.set j fr.r) (sb':=sb') (sq':=sq') (by simp) a c (fun i z a=>by
  have c:=(h.inv.cf k fr q).1
  by_cases e:i=j
  ·subst e;rw[sF b]at a;cases a;have:=h.inv.cs i 0 v;rw[kE (by simp[isE])]
   omega
  rw[sN (fun h=>e h.symm)]at a
  have:=h.inv.cs i z a;rw[kF (by simp[isE];omega)]
  omega) (.inr ⟨t,rfl,by simp only;omega,u⟩)
 rw[zik n]at d;have b:(Qe m k j fr.r sb' sq').sp=m.sp.map (ZI (k:Int) ⟨2,(j:Int),Xd⟩):=rfl;have a:=zeF h (k:=(k:Int)) t _ b;have c:qH (Qe m k j fr.r sb' sq') (Qn (Qe m k j fr.r sb' sq')):=by
  unfold Qn;rw[a];refine qH.tabs d (sp':=(Qe m k j fr.r sb' sq').sp) (by rw[b];simp) fun p s A f g=>?_
  rw[b]at g;obtain⟨B,l,rfl⟩:=zaX g;have a:m.sp[p]? =Xa s:=f;rw[a]at l;cases l;exact⟨rfl,rfl⟩
 refine⟨Rt.of c (by rw[b];exact zgF h t) h.hand.1 (by show m.hand<max ((m.fs.set k frF).length:Int) 1;simpa using h.hand.2),?_⟩
 have a:(Qe m k j fr.r sb' sq').ca=m.ca:=rfl;have c:∀a d,qn (Qe m k j fr.r sb' sq') a d=qn m a d:=fun a d=>by
  refine zhd (m:=m) (m':=Qe m k j fr.r sb' sq') rfl rfl rfl rfl (fun y z=>?_) a d
  have d:y.fr≠(k:Int):=fun e=>by have:=zaC z;rw[e]at this;exact this n
  rw[zfJ r (m':=Qe m k j fr.r sb' sq') rfl (ZE ((zp.1 h.inv.ca).1 y z)).1.2.2.2.2.1 d]
 refine⟨by rw[b];simp,fun n s A f g=>?_,fun n n s A f g y _=>?_,rfl,fun _=>rfl,fun _=>rfl,fun a i _=>by rw[c]⟩
 ·rw[b]at g;obtain⟨B,l,rfl⟩:=zaX g;rw[f]at l;cases l;exact⟨rfl,rfl⟩
 rw[b]at g;obtain⟨B,l,rfl⟩:=zaX g;rw[f]at l;cases l;rw[zbm h (mG f) t];unfold Jf
 by_cases a:isE (zo s n) 1 (k:Int)=Xc
 ·rw[kE a];simp only[isE,Xv,decide_eq_true_eq]at a;unfold zk0
  by_cases b:(zE s.ars n).is=Xd
  ·rw[kE b,kE b]
  rw[kF b,kF b,kF (by simp),kE rfl,kE a.1,a.2,z8 q]
  show(qj sb' sq' (j:Int),Xc,(0:Int))=_
  rw[w,u];rfl
 rw[kF a];have g:=h.inv.en (zbD f) y;have b:=(Q2 g).2.1.1;refine zfe rfl rfl (fun g=>?_) (fun l=>?_) (fun _=>rfl) c
 ·have d:(zo s n).n≠(k:Int):=fun e=>a (by simp[isE,g,e])
  rw[zfJ r (m':=Qe m k j fr.r sb' sq') rfl b d];exact⟨rfl,Iff.rfl⟩
 refine x _ b fun e=>?_
 have a:=h.inv.cs j 0 v;have a:=zcE (zbD f) y (kind:=2) (k:=(j:Int)) (by simp[isE,l,e]) (by decide)
 omega
def qd (m:Ma) (k:Nat):Ma:={ m with fs:=m.fs.set k frF,ca:=m.ca.filter fun d=>!decide (d.fr=(k:Int)),sp:=m.sp.map (ZI (k:Int) en0) }
theorem zoI {p:List Int} {b a:Int} {i:Nat} (h:8*b+(i:Int)<a):(Zb p b a).getD i 0=p.getD i 0:=by
 unfold Zb;rw[gD,gD,Yn]
 cases p[i]? with
 | none=>rfl
 | some z=>simp only[Option.map_some,Option.getD_some];rw[kF (by omega)]
theorem zpr (h:Rt m) {k:Nat} {fr:Fr} (S:Nat->Nat->Prop) (j:m.fs[k]? =Xa fr) (b:0<=fr.f) (_hr:fr.r≠0) (l:Zh m fr.f fr.x=Zb (pgL fr.p) fr.x (ZG m fr.f))
  (hS:Zb (pgL fr.p) fr.x (ZG m fr.f)=pgL fr.p\/∀(q n:Nat) s,m.sp[q]? =Xa s->n<64->(zE s.ars n).is=Xc->(zE s.ars n).file=fr.f->(zE s.ars n).page=fr.x->(zo s n).kind=0\/isE (zo s n) 1 (k:Int)=Xc->S q n):
  Rt (qd m k)/\Sam S m (qd m k):=by
 have C:=(gS.1 j).1;have a:=h.inv.cf k fr j;obtain⟨c,w,d⟩:=zb6 (a.2 b);obtain⟨L,a,D,E⟩:=ZE ((zp.1 h.inv.ca).1 c w);rw[d,z8 j]at a D E;have c:=h.inv.moved j en0 (by decide) (sl':=m.sl) (sb':=m.sb) (sq':=m.sq) rfl rfl h.inv.sq (fun y z G=>by
  have:=h.inv.cs y z G;rw[kF (by simp[jI])]
  omega) (.inl rfl)
 have b:(qd m k).sp=m.sp.map (ZI (k:Int) en0):=rfl;have a:=zeF h (k:=(k:Int)) zfM _ b;have e:qH (qd m k) (Qn (qd m k)):=by
  unfold Qn;rw[a];refine qH.tabs c (sp':=(qd m k).sp) (by rw[b];simp) fun p s H c i=>?_
  rw[b]at i;obtain⟨K,t,rfl⟩:=zaX i;have a:m.sp[p]? =Xa s:=c;rw[a]at t;cases t;exact⟨rfl,rfl⟩
 refine⟨Rt.of e (by rw[b];exact zgF h zfM) h.hand.1 (by show m.hand<max ((m.fs.set k frF).length:Int) 1;simpa using h.hand.2),?_⟩
 have f:∀file a,(qd m k).ca.find? (JQ file a)=if file=fr.f/\a=fr.x then Xb else m.ca.find? (JQ file a):=fun file a=>by
  show(m.ca.filter fun r=>!decide (r.fr=(k:Int))).find? (JQ file a)=_
  by_cases e:file=fr.f/\a=fr.x
  ·rw[kE e];rw[Yr];intro r l g;have u:=Ye.1 l;simp only[JQ,Xv,decide_eq_true_eq]at g;have c:=ZQ h.inv.ca u.1;have i:=ZQ h.inv.ca w;rw[g.1,g.2,e.1,e.2,D,E,i]at c;cases c;have:=u.2
   simp[d]at this
  rw[kF e];rw[List.find?_filter]
  apply zeJ
  intro r l
  cases g:JQ file a r with
  | false=>simp
  | true=>
   simp only[JQ,Xv,decide_eq_true_eq]at g;have:r.fr≠(k:Int):=fun B=>by
    obtain⟨x,F,z,A⟩:=ZE ((zp.1 h.inv.ca).1 r l);rw[B,z8 j]at z A;exact e ⟨by rw[<-g.1,z],by rw[<-g.2,A]⟩
   simp[this]
 have v:qn m fr.f fr.x=pgL fr.p:=by
  unfold qn;have:=ZQ h.inv.ca w;rw[<-D,<-E]at this;rw[this];simp only;rw[d,z8 j]
 have u:qn (qd m k) fr.f fr.x=Zb (pgL fr.p) fr.x (ZG m fr.f):=by
  unfold qn;rw[f,kE ⟨rfl,rfl⟩];exact l
 have w:∀file a,¬(file=fr.f/\a=fr.x)->qn (qd m k) file a=qn m file a:=fun file a l=>by
  unfold qn;rw[f,kF l]
  cases d:m.ca.find? (JQ file a)with
  | none=>rfl
  | some r=>
   simp only;have a:=List.mem_of_find?_eq_some d;obtain⟨x,F,z,A⟩:=ZE ((zp.1 h.inv.ca).1 r a);have g:=List.find?_some d;simp only[JQ,Xv,decide_eq_true_eq]at g;rw[zfJ C (m':=qd m k) rfl x.2.2.2.2.1 (fun B=>?_)]
   rw[B,z8 j]at z A;exact l ⟨by rw[<-g.1,z],by rw[<-g.2,A]⟩
 refine⟨by rw[b];simp,fun q s H c i=>?_,fun q n s H c i r a=>?_,rfl,fun _=>rfl,fun _=>rfl,fun file y G=>?_⟩
 ·rw[b]at i;obtain⟨K,t,rfl⟩:=zaX i;rw[c]at t;cases t;exact⟨rfl,rfl⟩
 ·rw[b]at i;obtain⟨K,t,rfl⟩:=zaX i;rw[c]at t;cases t;rw[zbm h (mG c) zfM];unfold Jf;have b:fr.x<bkN m fr.f:=by rw[D,E];exact L.2.2.2.1
  have hcut:(zE s.ars n).is=Xc->(zE s.ars n).file=fr.f->(zE s.ars n).page=fr.x->(zo s n).kind=0\/isE (zo s n) 1 (k:Int)=Xc->qn (qd m k) fr.f fr.x=pgL fr.p:=fun b d f g=>by
   rw[u]
   rcases hS with e|e
   ·exact e
   exact absurd (e q n s c r b d f g) a
  by_cases d:isE (zo s n) 1 (k:Int)=Xc
  ·rw[kE d];have a:=d;simp only[isE,Xv,decide_eq_true_eq]at a;have b:zcc m (zE s.ars n) (zo s n):=by
    rcases h.ent c r with e|e
    ·rw[e]at a;have:=a.1
     simp[en0]at this
    exact e
   have f:=b.2.2;unfold za4 at f
   split at f
   ·cases f
   rename_i x
   rw[kF (by omega),kF (by have:=(zZ b (by omega)).2.2.1;omega),a.2,z8 j]at f
   split at f
   ·cases f
   rename_i F
   have b:0<=(zE s.ars n).file/\fr.f=(zE s.ars n).file/\fr.x=(zE s.ars n).page:=Classical.byContradiction fun B=>F (.inl ⟨by omega,B⟩)
   have f:(zE s.ars n).is=Xc:=by
    cases g:(zE s.ars n).is with
    | true=>rfl
    | false=>exact absurd g x
   unfold zk0;rw[kF x,kF x,kF (by decide),kF (by decide),kF (by omega),kE a.1,a.2,z8 j,kF (by rw[<-b.2.1,<-b.2.2];show¬bkN m fr.f<=fr.x;omega),<-b.2.1,<-b.2.2,hcut f b.2.1.symm b.2.2.symm (.inr d)]
   have:decide (fr.f<0)=Xd:=by simp;omega
   rw[this]
  rw[kF d];have a:=h.inv.en (zbD c) r;have c:=(Q2 a).2.1.1;unfold zk0
  by_cases g:(zE s.ars n).is=Xd
  ·rw[kE g,kE g]
  rw[kF g,kF g]
  by_cases b:(zo s n).kind=1
  ·rw[kE b,kE b];have l:(zo s n).n≠(k:Int):=fun e=>d (by simp[isE,b,e])
   rw[zfJ C (m':=qd m k) rfl c l]
  rw[kF b,kF b]
  by_cases b:(zo s n).kind=2
  ·rw[kE b,kE b];rfl
  rw[kF b,kF b];have b:bkN (qd m k)=bkN m:=rfl;rw[b]
  by_cases b:(zE s.ars n).file<0
  ·rw[kE b,kE b]
  rw[kF b,kF b]
  by_cases b:bkN m (zE s.ars n).file<=(zE s.ars n).page
  ·rw[kE b,kE b]
  rw[kF b,kF b]
  by_cases b:(zE s.ars n).file=fr.f/\(zE s.ars n).page=fr.x
  ·have f:(zE s.ars n).is=Xc:=by
    cases c:(zE s.ars n).is with
    | true=>rfl
    | false=>exact absurd c g
   have c:(zo s n).kind=0:=by have:=(Q2 a).1;omega
   have:=hcut f b.1 b.2 (.inl c);rw[b.1,b.2,this,v]
  rw[w _ _ b]
 by_cases e:(file:Int)=fr.f/\((y / 8:Nat):Int)=fr.x
 ·rw[e.1,e.2,u,v];refine zoI ?_;rw[e.1]at G;rw[<-e.2];have:8*(y / 8)+y % 8=y:=by omega
  omega
 rw[w _ _ e]
end
theorem zlD:∀{l:List Ar} {p:Option Ar} {n:Nat},Q5 p l->(zE l n).is=Xc->0<=(zE l n).page/\((zE l n).page<=11\/(zE l n).file<0)
 | [],_,_,_,h=>by cases h
 | a :: l,p,n,b,h=>by
  unfold zE at h⊢
  by_cases e:ZF a n=Xc
  ·rw[kE e]at h⊢;have c:=b.1;have d:=z4.1 e;unfold Zi at c;unfold qm;simp only
   split
   ·exact⟨by omega,.inl (by omega)⟩
   exact⟨by omega,.inr (by omega)⟩
  rw[kF e]at h⊢;exact zlD b.2.2 h
theorem Rt.page (h:Rt m) {p n:Nat} {s:Sp} (a:m.sp[p]? =Xa s) (b:(zE s.ars n).is=Xc):0<=(zE s.ars n).page:=
 (zlD (Zo.1 (h.inv.spok s (mG a)).1).2 b).1
section
variable{m:Ma}
def zav (m:Ma) (file idx:Nat) (f:Fl) (b:Int) (db':List (List Int)) (dq':List (Int × List Int)):Ma:={ m with fl:=m.fl.set file ⟨f.size,f.bl.set idx b⟩,db:=db',dq:=dq' }
theorem zho (r:Rt m) {file d:Nat} {f:Fl} {db':List (List Int)} {dq':List (Int × List Int)} (Z:m.fl[file]? =Xa f) (ad:stW (m.fl.set file ⟨f.size,f.bl.set d (b:Int)⟩) m.cnt=0)
  (F:∀x,zU (m.fl.set file ⟨f.size,f.bl.set d (b:Int)⟩) x=Xc↔(zU m.fl x=Xc/\x≠-1)\/x=(b:Int)\/(x=-1/\zU (m.fl.set file ⟨f.size,f.bl.set d (b:Int)⟩) x=Xc))
  (P:db'.length=m.db.length) (Q:zB db'.length dq'=0) (M:∀i:Nat,db'[i]? =m.db[i]?\/∃q∈m.dq,q.1=(i:Int)) (K:∀q∈dq',q.1=(b:Int)\/∃a4∈m.dq,a4.1=q.1) (ac:∀i:Int,i≠(b:Int)->qj db' dq' i=qj m.db m.dq i)
  (_hb0:f.bl[d]? =Xa (b:Int)\/(zU m.fl (b:Int)=Xd)) (a9:∃c∈m.ca,c.file=(file:Int)/\c.idx=(d:Int)) (S:∀(i j:Nat) g,m.fl[i]? =Xa g->g.bl[j]? =Xa (b:Int)->i=file/\j=d):
  (Rt (zav m file d f (b:Int) db' dq')/\Sam (fun _ _=>False) m (zav m file d f (b:Int) db' dq'))/\∀(i j:Nat),(j:Int)<bkN m (i:Int)->qn (zav m file d f (b:Int) db' dq') (i:Int) (j:Int)=qn m (i:Int) (j:Int):=by
 have E:=(gS.1 Z).1;obtain⟨p,a⟩:∃p,zav m file d f (b:Int) db' dq'=p:=⟨_,rfl⟩;have U:∀z,ZG p z=ZG m z:=fun z=>by
  rw[<-a];unfold ZG zav;simp only[gD]
  by_cases e:z.toNat=file
  ·rw[e,sF E,Z];rfl
  rw[sN (fun r=>e r.symm)]
 have C:∀z,bkN p z=bkN m z:=fun z=>by
  rw[<-a];unfold bkN zav;simp only[gD]
  by_cases e:z.toNat=file
  ·rw[e,sF E,Z];simp
  rw[sN (fun r=>e r.symm)]
 have t:∀z,zW p z=zW m z:=fun z=>by rw[<-a];rfl
 have A:p.fl.length=m.fl.length:=by rw[<-a];simp[zav]
 have h:p.sp=m.sp:=by rw[<-a];rfl
 have N:p.ca=m.ca:=by rw[<-a];rfl
 have a7:qH p (Qn p):=by
  have aw:Qn p=Qn m:=by unfold Qn;rw[h]
  rw[aw];have k:=r.inv;refine⟨by rw[<-a];exact k.fs40,by rw[<-a];exact k.fok,by rw[<-a];exact k.sl60,by rw[<-a];exact k.sbl,by rw[<-a];exact k.sq,by rw[<-a];exact Q,by rw[<-a];exact ad,by rw[<-a];show m.cnt=(db'.length:Int);rw[P];exact k.cnt,fun i w aj=>?_,fun q T=>?_,by rw[h];exact k.spl,by rw[h];exact k.spok,by rw[h];exact k.tl,?_,?_,by rw[<-a];exact k.cf,by rw[<-a];exact k.cs⟩
  ·rw[<-a]at w aj⊢;have V:zU m.fl (i:Int)=Xd:=by
    cases e:zU m.fl (i:Int)with
    | false=>rfl
    | true=>
     have:=(F (i:Int)).2 (.inl ⟨e,by omega⟩)
     have ae:zU (m.fl.set file ⟨f.size,f.bl.set d (b:Int)⟩) (i:Int)=Xd:=aj;rw[ae]at this;cases this
   show db'[i]? =_
   rcases M i with e|⟨q,a5,a6⟩
   ·rw[e];exact k.blk i (by rw[<-P];exact w) V
   have:=k.que q a5;rw[a6,V]at this;cases this
  ·rw[<-a]at T⊢
   show zU (m.fl.set file ⟨f.size,f.bl.set d (b:Int)⟩) q.1=Xc
   rcases K q T with e|⟨a4,a5,a6⟩
   ·exact(F _).2 (.inr (.inl e))
   refine(F _).2 (.inl ⟨?_,?_⟩)
   ·rw[<-a6];exact k.que a4 a5
   have D:=k.dok;unfold zB at D
   split at D
   ·cases D
   split at D
   ·cases D
   split at D
   ·cases D
   rename_i ak
   intro e;refine ak (List.any_eq_true.2 ⟨a4,a5,?_⟩);rw[a6,e]
   simp[jE]
  ·obtain⟨al,b0,am⟩:=zp.1 k.ca;rw[N];refine zp.2 ⟨fun c a9=>?_,fun q c K=>(by cases K),am⟩
   obtain⟨an,ao,ap,aq⟩:=ZE (al c a9);refine zbI ?_ (by rw[t];exact ao) (by rw[t];exact ap) (by rw[t];exact aq)
   rw[A,C];rw[<-a];exact an
  intro ay s g I v n ai;rw[h]at I
  rcases k.ent ay s g I v n ai with e|e
  ·exact .inl e
  refine .inr ⟨e.1,e.2.1,ZC e.2.2 (by rw[<-a];rfl) (by rw[<-a];rfl) fun ab=>?_⟩
  rw[t];exact⟨rfl,rfl,(zZ e ab).2.2.2⟩
 have l:∀(i j:Nat),(j:Int)<bkN m (i:Int)->qn p (i:Int) (j:Int)=qn m (i:Int) (j:Int):=fun i j u=>by
  unfold qn;rw[N]
  cases K:m.ca.find? (JQ (i:Int) (j:Int))with
  | some c=>simp only;rw[t]
  | none=>
   simp only;have R:¬(i=file/\j=d):=fun e=>by
    obtain⟨c,ar,au,av⟩:=a9;rw[Yr]at K;refine K c ar ?_
    simp[JQ,au,av,e.1,e.2]
   have a8:zcK p (i:Int) (j:Int)=zcK m (i:Int) (j:Int):=by
    rw[<-a];unfold zcK zav;simp only[gD,tN]
    by_cases e:i=file
    ·subst e;rw[sF E,Z];simp only[Option.getD_some];rw[sN (fun r=>R ⟨rfl,r.symm⟩)]
    rw[sN (fun r=>e r.symm)]
   rw[a8,U]
   by_cases y:zcK m (i:Int) (j:Int)<0
   ·rw[kE y,kE y]
   rw[kF y,kF y];have w:i<m.fl.length:=Classical.byContradiction fun B=>by
    unfold bkN at u;simp only[gD,tN]at u;rw[gN (by omega)]at u
    simp only[Option.getD_none,List.length_nil]at u;omega
   have v:=gE w;have ah:j< (m.fl[i]).bl.length:=by
    unfold bkN at u;simp only[gD,tN,v,Option.getD_some]at u;omega
   have:zcK m (i:Int) (j:Int)≠(b:Int):=fun e=>by
    unfold zcK at e;simp only[gD,tN,v,Option.getD_some,gE ah]at e;exact R (S i j _ v (by rw[gE ah,e]))
   rw[show qj p.db p.dq (zcK m (i:Int) (j:Int))=qj db' dq' (zcK m (i:Int) (j:Int)) by rw[<-a];rfl,ac _ this]
 rw[a];refine⟨?_,l⟩;refine⟨Rt.of a7 (by rw[h];exact fun s I=>r.tb I) (by rw[<-a];exact r.hand.1) (by rw[<-a];exact r.hand.2),⟨by rw[h],fun q s az B L=>?_,fun q n s az B L ai _=>?_,A,U,C,fun ag ax H=>?_⟩⟩
 ·rw[h,B]at L;cases L;exact⟨rfl,rfl⟩
 ·rw[h,B]at L;cases L;unfold zk0;rw[t,C]
  by_cases W:(zE s.ars n).is=Xd
  ·rw[kE W,kE W]
  rw[kF W,kF W]
  by_cases X:(zo s n).kind=1
  ·rw[kE X,kE X]
  rw[kF X,kF X]
  by_cases G:(zo s n).kind=2
  ·rw[kE G,kE G];rw[<-a];rfl
  rw[kF G,kF G]
  by_cases Y:(zE s.ars n).file<0
  ·rw[kE Y,kE Y]
  rw[kF Y,kF Y]
  by_cases a0:bkN m (zE s.ars n).file<=(zE s.ars n).page
  ·rw[kE a0,kE a0]
  rw[kF a0,kF a0];have aa:(zE s.ars n).is=Xc:=by
   cases af:(zE s.ars n).is with
   | true=>rfl
   | false=>exact absurd af W
  have b5:=r.page B aa;have:=l (zE s.ars n).file.toNat (zE s.ars n).page.toNat (by
   rw[show(((zE s.ars n).file.toNat:Nat):Int)=(zE s.ars n).file by omega,show(((zE s.ars n).page.toNat:Nat):Int)=(zE s.ars n).page by omega]
   omega)
  rw[show(((zE s.ars n).file.toNat:Nat):Int)=(zE s.ars n).file by omega,show(((zE s.ars n).page.toNat:Nat):Int)=(zE s.ars n).page by omega]at this
  rw[this]
 rw[l ag (ax / 8) ?_]
 by_cases B:ag<m.fl.length
 ·have v:=gE B;obtain⟨X,G,Y⟩:=((z6 _ _).1 r.inv.st).2.1 _ (mG v);unfold ZG at H;simp only[gD,tN,v,Option.getD_some]at H;unfold bkN;simp only[gD,tN,v,Option.getD_some];unfold JI at G
  split at G <;> omega
 unfold ZG at H;simp only[gD,tN]at H;rw[gN (by omega)]at H
 simp only[Option.getD_none]at H;omega
end
def Unc (m:Ma) (file idx:Int):Prop:=∀c∈m.ca,¬(c.file=file/\c.idx=idx)
theorem Unc.find {file a:Int} (h:Unc m file a):m.ca.find? (JQ file a)=Xb:=by
 rw[Yr];intro c b a;simp only[JQ,Xv,decide_eq_true_eq]at a;exact h c b a
structure QQ (S:Nat->Nat->Prop) (m m':Ma):Prop where
 rt:Rt m'
 sam:Sam S m m'
 fsl:m'.fs.length=m.fs.length
 bare:∀(q n:Nat) s s',m.sp[q]? =Xa s->m'.sp[q]? =Xa s'->n<64->zo s n=en0->zo s' n=en0
 unc:∀(file idx:Nat),(idx:Int)<bkN m (file:Int)->Unc m (file:Int) (idx:Int)->Unc m' (file:Int) (idx:Int)/\qn m' (file:Int) (idx:Int)=qn m (file:Int) (idx:Int)
theorem QQ.refl {S:Nat->Nat->Prop} (h:Rt m):QQ S m m:=⟨h,Sam.refl S m,rfl,fun q n s a c a _ b=>by rw[c]at a;cases a;exact b,fun _ _ _ h=>⟨h,rfl⟩⟩
theorem QQ.trans {S:Nat->Nat->Prop} {a b c:Ma} (h:QQ S a b) (k:QQ S b c):QQ S a c:=by
 refine⟨k.rt,(h.sam.trans k.sam).mono (fun _ _ e=>e.elim id id),k.fsl.trans h.fsl,fun q n s r f m i l=>?_,fun d e g p=>?_⟩
 ·have:∃t,b.sp[q]? =Xa t:=⟨_,gE (by rw[h.sam.spl];exact(gS.1 f).1)⟩
  obtain⟨t,j⟩:=this;exact k.bare q n t r j m i (h.bare q n s t f j i l)
 obtain⟨u1,u2⟩:=h.unc d e g p;obtain⟨f,i⟩:=k.unc d e (by rw[h.sam.bk];exact g) u1
 exact⟨f,i.trans u2⟩
section
variable{m:Ma}
theorem zgG (h:Rt m) {k:Int} {e:En} (f:enW e=0) {q n:Nat} {s s':Sp} (a:m.sp[q]? =Xa s) (d:(m.sp.map (ZI k e))[q]? =Xa s') (c:zo s n=en0):zo s' n=en0:=by
 obtain⟨b,b,rfl⟩:=zaX d;rw[a]at b;cases b;rw[zbm h (mG a) f];unfold Jf;rw[c,kF (by simp[isE,en0])]
theorem zlk (S:Nat->Nat->Prop) (h:Rt m) {k:Nat} {fr:Fr} {sb':List (List Int)} {sq':List (Int × List Int)} (g:m.fs[k]? =Xa fr) (f:fr.f=-1) (l:fr.r≠0) (e:m.sl[j]? =Xa 0) (c:sb'.length=m.sb.length) (d:zB sb'.length sq'=0) (a:qj sb' sq' (j:Int)=pgL fr.p) (b:∀i:Int,0<=i->i≠(j:Int)->qj sb' sq' i=qj m.sb m.sq i):
  QQ S m (Qe m k j fr.r sb' sq'):=by
 obtain⟨n,p⟩:=zo0 h g f l e c d a b;have a:=h.inv.sl60;have a:=(gS.1 e).1;have d:enW ⟨2,(j:Int),Xd⟩=0:=Qg (by simp) ⟨by simp,by simp only;omega,fun h=>by simp at h⟩ (by simp)
 refine⟨n,p.mono (fun _ _ e=>e.elim),by simp[Qe],fun q n s a b c _ a=>zgG h d b c a,fun a c _ b=>⟨b,?_⟩⟩
 unfold qn;rw[show(Qe m k j fr.r sb' sq').ca.find? (JQ (a:Int) (c:Int))=Xb from b.find,b.find]
 rfl
theorem zmv (h:Rt m) {k:Nat} {fr:Fr} (S:Nat->Nat->Prop) (c:m.fs[k]? =Xa fr) (b:0<=fr.f) (d:fr.r≠0) (a:Zh m fr.f fr.x=Zb (pgL fr.p) fr.x (ZG m fr.f))
  (hS:Zb (pgL fr.p) fr.x (ZG m fr.f)=pgL fr.p\/∀(q n:Nat) s,m.sp[q]? =Xa s->n<64->(zE s.ars n).is=Xc->(zE s.ars n).file=fr.f->(zE s.ars n).page=fr.x->(zo s n).kind=0\/isE (zo s n) 1 (k:Int)=Xc->S q n):
  QQ S m (qd m k):=by
 obtain⟨f,g⟩:=zpr h S c b d a hS;have c:∀file a,Unc m file a->Unc (qd m k) file a:=fun file a b d e=>b d (Ye.1 e).1
 refine⟨f,g,by simp[qd],fun q n s d e f _ d=>zgG h zfM e f d,fun file a _ b=>⟨c _ _ b,?_⟩⟩
 unfold qn;rw[(c _ _ b).find,b.find];rfl
theorem zet (S:Nat->Nat->Prop) (h:Rt m) {k:Nat} {fr:Fr} (a:m.fs[k]? =Xa fr) (b:fr.r≠0) (u d:Bool):QQ S m { m with fs:=m.fs.set k { fr with u:=u,d:=d } }:=by
 obtain⟨c,e⟩:=zjd h a b u d;refine⟨c,e.mono (fun _ _ e=>e.elim),by simp,fun q n s g e f _ c=>?_,fun b b _ b=>⟨b,?_⟩⟩
 ·have:m.sp[q]? =Xa g:=f;rw[e]at this;cases this;exact c
 exact zb5 (gS.1 a).1 h.inv.ca (fun _=>by rw[z8 a]) _ _
theorem zl3 (S:Nat->Nat->Prop) (h:Rt m) (e:0<=z) (b:z<max (m.fs.length:Int) 1):QQ S m { m with hand:=z }:=by
 have a:=h.inv;have c:qH { m with hand:=z } (Qn { m with hand:=z }):=⟨a.fs40,a.fok,a.sl60,a.sbl,a.sq,a.dok,a.st,a.cnt,a.blk,a.que,a.spl,a.spok,a.tl,zp.2 ⟨fun d f=>(zp.1 a.ca).1 d f,fun _ _ d=>(by cases d),(zp.1 a.ca).2.2⟩,a.ent,a.cf,a.cs⟩
 refine⟨Rt.of c (fun s a=>h.tb a) e b,⟨rfl,fun q s c b a=>?_,fun q n s c b a _ _=>?_,rfl,fun _=>rfl,fun _=>rfl,fun _ _ _=>rfl⟩,rfl,fun q n s c b a _ e=>?_,fun d d _ d=>⟨d,rfl⟩⟩
 ·have:m.sp[q]? =Xa c:=a;rw[b]at this;cases this;exact⟨rfl,rfl⟩
 ·have:m.sp[q]? =Xa c:=a;rw[b]at this;cases this;rfl
 have:m.sp[q]? =Xa c:=a;rw[b]at this;cases this;exact e
end
theorem QQ.mono {S c:Nat->Nat->Prop} {a b:Ma} (h:QQ S a b) (hS:∀q n,S q n->c q n):QQ c a b:=⟨h.rt,h.sam.mono hS,h.fsl,h.bare,h.unc⟩
theorem zpv (p) (b a:Int):Zb (Zb p b a) b a=Zb p b a:=by
 unfold Zb
 apply Ya
 intro i;simp only[Yn]
 cases p[i]? with
 | none=>rfl
 | some z=>
  simp only[Option.map_some,Option.some.injEq]
  split <;> rfl
theorem zec {file a:Nat} {f:Fl} {db':List (List Int)} {dq':List (Int × List Int)} (e:m.fl[file]? =Xa f) (hi:a<f.bl.length) {p:List Int} (d:qj db' dq' (b:Int)=Zb p (a:Int) (ZG m (file:Int))):
  Zh (zav m file a f (b:Int) db' dq') (file:Int) (a:Int)=Zb p (a:Int) (ZG m (file:Int)):=by
 have c:=(gS.1 e).1;have g:zcK (zav m file a f (b:Int) db' dq') (file:Int) (a:Int)=(b:Int):=by
  unfold zcK zav;simp only[gD,tN];rw[sF c];simp only[Option.getD_some];rw[sF hi];rfl
 have h:ZG (zav m file a f (b:Int) db' dq') (file:Int)=ZG m (file:Int):=by
  unfold ZG zav;simp only[gD,tN];rw[sF c,e];rfl
 unfold Zh;rw[g,h,kF (by omega),show qj (zav m file a f (b:Int) db' dq').db (zav m file a f (b:Int) db' dq').dq (b:Int)=qj db' dq' (b:Int)from rfl,d,zpv]
def zoe (s:Sp) (kind k:Int):List Nat:=(Om 64).filter fun n=>enS (zo s n) && zk2 kind k (zo s n)
def ZA (m:Ma) (kind k:Int) (q:Nat):List (Nat × Nat):=(Om q).flatMap fun p=>(zoe (m.sp.getD p ⟨Xd,[],[]⟩) kind k).map fun n=>(p,n)
theorem zko (m) (kind k:Int):ZA m kind k 0=[]:=rfl
theorem zeB (m:Ma) (kind k:Int) (q:Nat):ZA m kind k (q+1)=ZA m kind k q++(zoe (m.sp.getD q ⟨Xd,[],[]⟩) kind k).map fun n=>(q,n):=by
 unfold ZA;rw[List.range_succ,Yd];simp
theorem zjp {s:Sp} {kind k:Int} (c:kind≠0) {n:Nat}:n∈zoe s kind k↔n<64/\isE (zo s n) kind k=Xc:=by
 unfold zoe;rw[Ye,Ys];refine and_congr_right fun _=>?_
 unfold enS zk2 isE;simp only[Xv,decide_eq_true_eq,bne_iff_ne,ne_eq,beq_iff_eq];constructor
 ·rintro⟨_,h⟩;exact h
 rintro⟨a,b⟩;exact⟨by rw[a];exact c,a,b⟩
theorem zdq {kind k:Int} (d:kind≠0) {q:Nat} (a:q<=m.sp.length) {x:Nat × Nat}:x∈ZA m kind k q↔x.1<q/\x.2<64/\∃s,m.sp[x.1]? =Xa s/\isE (zo s x.2) kind k=Xc:=by
 unfold ZA;rw[List.mem_flatMap];constructor
 ·rintro⟨p,b,c⟩;obtain⟨n,a,rfl⟩:=Yz.1 c;have f:=Ys.1 b;have e:=gE (show p<m.sp.length by omega)
  rw[gD,e,Option.getD_some,zjp d]at a;exact⟨f,a.1,_,e,a.2⟩
 rintro⟨b,c,s,a,e⟩;refine⟨x.1,Ys.2 b,Yz.2 ⟨x.2,?_,rfl⟩⟩;rw[gD,a,Option.getD_some,zjp d];exact⟨c,e⟩
def ZH (m:Ma) (e:En):List (Nat × Nat)->Ma
 | []=>m
 | x :: l=>ZH (zfh m x.1 x.2 e) e l
theorem zgt {e:En} (f:enW e=0):∀(l:List (Nat × Nat)) {m:Ma},(∀s∈m.sp,zca s.tb)->(∀x∈l,x.2<64)->(ZH m e l).sp.length=m.sp.length/\(∀s∈(ZH m e l).sp,zca s.tb)/\∀(q:Nat) s s',m.sp[q]? =Xa s->(ZH m e l).sp[q]? =Xa s'->s'.live=s.live/\s'.ars=s.ars/\∀j,zo s' j=if(q,j)∈l then e else zo s j
 | [],m,ht,_=>⟨rfl,ht,fun q s s' b c=>by
   simp only[ZH]at c;rw[b]at c;cases c;exact⟨rfl,rfl,fun j=>by simp⟩⟩
 | x :: l,m,ht,a=>by
  have g:=a x (Yt ..);obtain⟨h,i,k⟩:=zgt f l (m:=zfh m x.1 x.2 e) (zi6 ht f) (fun y d=>a y (Yo _ d))
  refine⟨h.trans zhX,i,fun q s s' b c=>?_⟩
  have:∃t,(zfh m x.1 x.2 e).sp[q]? =Xa t:=⟨_,gE (by rw[zhX];exact(gS.1 b).1)⟩
  obtain⟨t,a⟩:=this;obtain⟨d,h,i⟩:=k q t s' a c;obtain⟨c,k⟩:=zly b a;refine⟨d.trans c,h.trans k,fun j=>?_⟩
  rw[i j]
  by_cases c:(q,j)∈l
  ·rw[kE c,kE (Yo _ c)]
  rw[kF c]
  by_cases d:q=x.1/\j=x.2
  ·obtain⟨rfl,rfl⟩:=d;rw[kE (Yt ..)];exact(zo5 ht b g f a).1
  rw[zlx ht g f b a d,kF];intro a
  rcases mC.1 a with a|a
  ·rw[<-a]at d;exact d ⟨rfl,rfl⟩
  exact c a
theorem zc4 (e):∀(l:List (Nat × Nat)) (m:Ma),ZH m e l={ m with sp:=(ZH m e l).sp }
 | [],_=>rfl
 | x :: l,m=>by
  show ZH (zfh m x.1 x.2 e) e l=_
  rw[zc4 e l (zfh m x.1 x.2 e)];rfl
theorem zqi {s:Sp} (h:zca s.tb):s.tb=Zt (zo s):=by
 have:=zjr (m:=⟨[],0,[],[],[],[],[],[],0,[],[s]⟩) (fun t a=>by
  rw[Yf.1 a];exact h)
 have a:=congrArg (fun b:Ma=>b.sp) this
 simp only[Zn,Qn,mP,Yi,List.zipWith_cons_cons,List.zipWith_nil_left,List.cons.injEq,and_true]at a;exact(congrArg Sp.tb a).symm
theorem znU (h:Rt m) {k:Nat} {e:En} (c:enW e=0):(ZH m e (ZA m 1 (k:Int) m.sp.length)).sp=m.sp.map (ZI (k:Int) e):=by
 have d:∀s∈m.sp,zca s.tb:=fun s g=>h.tb g
 have a:=fun b=>zdq (m:=m) (kind:=1) (k:=(k:Int)) (by decide) (nR m.sp.length) (x:=b)
 obtain⟨h,u,j⟩:=zgt c (ZA m 1 (k:Int) m.sp.length) d (fun b c=>((a b).1 c).2.1)
 apply Ya
 intro q
 by_cases f:q<m.sp.length
 ·have g:=gE f;have d:=gE (show q< (ZH m e (ZA m 1 (k:Int) m.sp.length)).sp.length by rw[h];exact f)
  obtain⟨i,l,b⟩:=j q _ _ g d;rw[d,Yh,g,Option.map_some]
  congr 1
  have t:zo ((ZH m e (ZA m 1 (k:Int) m.sp.length)).sp[q]'(by rw[h];exact f))=fun j=>if j<64 then Jf (k:Int) e (zo m.sp[q]) j else zo m.sp[q] j:=by
   funext j
   rw[b j]
   by_cases b:j<64
   ·rw[kE b];unfold Jf
    by_cases c:isE (zo m.sp[q] j) 1 (k:Int)=Xc
    ·rw[kE c,kE ((a (q,j)).2 ⟨f,b,_,g,c⟩)]
    rw[kF c,kF];intro n;obtain⟨_,_,s,p,r⟩:=(a (q,j)).1 n;rw[g]at p;cases p;exact c r
   rw[kF b,kF (fun n=>b ((a (q,j)).1 n).2.1)]
  have a:=zqi (u _ (mG d));have b:Zt (zo ((ZH m e (ZA m 1 (k:Int) m.sp.length)).sp[q]'(by rw[h];exact f)))=Zt (Jf (k:Int) e (zo m.sp[q])):=by
   rw[t];unfold Zt;refine congrArg Zs (Oi fun j c=>?_)
   exact kE (Ys.1 c)
  rw[b]at a;unfold ZI
  generalize(ZH m e (ZA m 1 (k:Int) m.sp.length)).sp[q]'(by rw[h];exact f)=s' at i l a
  cases s';simp only at i l a;rw[i,l,a]
 rw[gN (by rw[h];omega),gN (by rw[List.length_map];omega)]
theorem zcj {α:Type} {P:α->Bool}:∀{l:List α} {i:Nat},i<l.length->(∀(j:Nat) d,l[j]? =Xa d->(P d=Xc↔j=i))->l.eraseIdx i=l.filter fun d=>!P d
 | [],i,hi,_=>absurd hi (by simp)
 | a :: l,0,_,h=>by
  have b:=(h 0 a rfl).2 rfl;rw[List.eraseIdx_cons_zero,List.filter_cons,kF (by rw[b];decide)]
  refine(Oh.2 fun d c=>?_).symm
  obtain⟨j,e⟩:=Xy c;have:=h (j+1) d (by rw[Yx];exact e)
  cases e:P d with
  | false=>rfl
  | true=>exact absurd (this.1 e) (by omega)
 | a :: l,i+1,hi,h=>by
  have b:P a=Xd:=by
   cases e:P a with
   | false=>rfl
   | true=>exact absurd ((h 0 a rfl).1 e) (by omega)
  rw[List.eraseIdx_cons_succ,List.filter_cons,kE (by rw[b];rfl),zcj (P:=P) (l:=l) (i:=i) (by simpa using hi) fun j d c=>?_]
  have:=h (j+1) d (by rw[Yx];exact c)
  rw[this];omega
def zoA (ca:List Ca) (c:Ca):Nat:=(ca.takeWhile fun d=>decide (qg d<qg c)).length
section
variable{m:Ma} {k:Nat} {fr:Fr}
theorem ziD (a:Rt m) (p:m.fs[k]? =Xa fr) {i:Nat} {c:Ca} (h:m.ca[i]? =Xa c) (n:c.fr=(k:Int)):m.ca.eraseIdx i=m.ca.filter fun d=>!decide (d.fr=(k:Int)):=by
 obtain⟨j,b,l⟩:=zp.1 a.inv.ca;have a:∀d∈m.ca,d.fr=(k:Int)->d.file=fr.f/\d.idx=fr.x:=fun d b e=>by
  obtain⟨f,f,f,g⟩:=ZE (j d b);rw[e,z8 p]at f g;exact⟨f.symm,g.symm⟩
 refine zcj (P:=fun d:Ca=>decide (d.fr=(k:Int))) (gS.1 h).1 fun j d b=>?_
 rw[decide_eq_true_eq];constructor
 ·intro e;have f:=a d (mG b) e;have e:=a c (mG h) n;have a:qg d=qg c:=by unfold qg;rw[f.1,f.2,e.1,e.2]
  obtain⟨q,g⟩:=gS.1 b;obtain⟨p,f⟩:=gS.1 h
  rcases Nat.lt_trichotomy j i with e|e|e
  ·have:=Yu.1 l j i q p e;rw[g,f,a]at this;omega
  ·exact e
  have:=Yu.1 l i j p q e;rw[g,f,a]at this;omega
 rintro rfl;rw[h]at b;cases b;exact n
theorem ziB (h:Rt m) (f:m.fs[k]? =Xa fr) (b:0<=fr.f):∃(i:Nat) (c:Ca),m.ca[i]? =Xa c/\c.fr=(k:Int)/\c.file=fr.f/\c.idx=fr.x:=by
 obtain⟨c,e,a⟩:=zb6 ((h.inv.cf k fr f).2 b);obtain⟨i,g⟩:=Xy e;obtain⟨b,b,b,d⟩:=ZE ((zp.1 h.inv.ca).1 c e);rw[a,z8 f]at b d;exact⟨i,c,g,a,b.symm,d.symm⟩
theorem ziC (h:Rt m) {c:Ca} (f:c∈m.ca):∃(k:Nat) (fr:Fr),c.fr=(k:Int)/\m.fs[k]? =Xa fr/\fr.r≠0/\fr.f=c.file/\fr.x=c.idx/\qn m c.file c.idx=pgL fr.p:=by
 obtain⟨a,b,d,e⟩:=ZE ((zp.1 h.inv.ca).1 c f);have a:c.fr.toNat<m.fs.length:=by omega
 have g:=gE a;have a:=z8 g;rw[show((c.fr.toNat:Nat):Int)=c.fr by omega]at a
 rw[a]at b d e;refine⟨c.fr.toNat,_,by omega,g,b,d,e,?_⟩
 unfold qn;rw[ZQ h.inv.ca f];simp only;rw[a]
end
theorem zej:∀(l:List Int) (lo b:Int),l.Pairwise (·< ·)->(∀x∈l,lo<=x/\x<b)->(l.length:Int)<=max (b - lo) 0
 | [],lo,b,_,_=>by simp only[List.length_nil];omega
 | a :: l,lo,b,hp,c=>by
  obtain⟨d,e⟩:=List.pairwise_cons.1 hp;obtain⟨f,f⟩:=c a (Yt ..);have:=zej l (a+1) b e fun x b=>⟨by have:=d x b;omega,(c x (Yo _ b)).2⟩
  simp only[List.length_cons];omega
def za1 (fs:List Fr):Nat:=fs.countP fun f=>decide (f.r=0)
section
variable{m:Ma}
theorem zkU (S:Nat->Nat->Prop) (s:Rt m) {file a:Nat} {f:Fl} {db':List (List Int)} {dq':List (Int × List Int)} (u:m.fl[file]? =Xa f) (p:stW (m.fl.set file ⟨f.size,f.bl.set a (b:Int)⟩) m.cnt=0)
  (r:∀x,zU (m.fl.set file ⟨f.size,f.bl.set a (b:Int)⟩) x=Xc↔(zU m.fl x=Xc/\x≠-1)\/x=(b:Int)\/(x=-1/\zU (m.fl.set file ⟨f.size,f.bl.set a (b:Int)⟩) x=Xc))
  (l:db'.length=m.db.length) (e:zB db'.length dq'=0) (d:∀i:Nat,db'[i]? =m.db[i]?\/∃q∈m.dq,q.1=(i:Int)) (v:∀q∈dq',q.1=(b:Int)\/∃w∈m.dq,w.1=q.1) (n:∀i:Int,i≠(b:Int)->qj db' dq' i=qj m.db m.dq i)
  (k:f.bl[a]? =Xa (b:Int)\/(zU m.fl (b:Int)=Xd)) (t:∃c∈m.ca,c.file=(file:Int)/\c.idx=(a:Int)) (h:∀(i j:Nat) g,m.fl[i]? =Xa g->g.bl[j]? =Xa (b:Int)->i=file/\j=a):
  QQ S m (zav m file a f (b:Int) db' dq'):=by
 obtain⟨⟨w,y⟩,z⟩:=zho s u p r l e d v n k t h;refine⟨w,y.mono (fun _ _ e=>e.elim),rfl,fun q n s n e h _ d=>?_,fun file a k l=>⟨l,z file a k⟩⟩
 have:m.sp[q]? =Xa n:=h;rw[e]at this;cases this;exact d
def ziO (k:Nat) (fr:Fr) (l:List (Nat × Nat)) (q:Nat) (s:Sp) (a:Ar) (n:Nat):Prop:=(qm a n).file=fr.f/\(qm a n).page=fr.x/\(q,n)∉l/\((zo s n).kind=0\/isE (zo s n) 1 (k:Int)=Xc)
theorem zpR {k:Nat} {fr:Fr} {l:List (Nat × Nat)} (h:∀(q:Nat) s (i:Nat) a (n:Nat),m.sp[q]? =Xa s->s.ars[i]? =Xa a->ZF a n=Xc->n<64->¬ziO k fr l q s a n) (q n:Nat) (s:Sp) (p:m.sp[q]? =Xa s) (j:n<64) (b:(zE s.ars n).is=Xc) (g:(zE s.ars n).file=fr.f) (hp:(zE s.ars n).page=fr.x) (f:(zo s n).kind=0\/isE (zo s n) 1 (k:Int)=Xc):(q,n)∈l:=by
 obtain⟨i,a,d,e,c⟩:=QB b;refine Classical.byContradiction fun b=>h q s i a n p d e j ⟨?_,?_,b,f⟩
 ·rw[<-c];exact g
 rw[<-c];exact hp
theorem zfj (h:Rt m) {k:Nat} {fr:Fr} {l:List (Nat × Nat)} (d:m.fs[k]? =Xa fr) (c:0<=fr.f) (e:fr.r≠0) (b:Zh m fr.f fr.x=Zb (pgL fr.p) fr.x (ZG m fr.f))
  (hS:Zb (pgL fr.p) fr.x (ZG m fr.f)=pgL fr.p\/∀(q:Nat) s (i:Nat) a (n:Nat),m.sp[q]? =Xa s->s.ars[i]? =Xa a->ZF a n=Xc->n<64->¬ziO k fr l q s a n):QQ (fun q j=>(q,j)∈l) m (qd m k):=
 zmv h _ d c e b (hS.imp id fun b q n s c d e f g h=>zpR b q n s c d e f g h)
theorem zf1 {l:List (Nat × Nat)} {file c:Nat} {f:Fl} {db':List (List Int)} {dq':List (Int × List Int)} {k:Nat} {fr:Fr} (d:QQ (fun q j=>(q,j)∈l) m (zav m file c f (b:Int) db' dq')) (p:m.fl[file]? =Xa f) (hi:c<f.bl.length) (r:m.fs[k]? =Xa fr) (e:fr.f=(file:Int)) (g:fr.x=(c:Int)) (t:fr.r≠0)
  (h:qj db' dq' (b:Int)=Zb (pgL fr.p) (c:Int) (ZG m (file:Int)))
  (hS:Zb (pgL fr.p) fr.x (ZG m fr.f)=pgL fr.p\/∀(q:Nat) s (i:Nat) a (n:Nat),m.sp[q]? =Xa s->s.ars[i]? =Xa a->ZF a n=Xc->n<64->¬ziO k fr l q s a n):QQ (fun q j=>(q,j)∈l) m (qd (zav m file c f (b:Int) db' dq') k):=by
 refine d.trans (zfj d.rt (fr:=fr) r (by omega) t ?_ ?_)
 ·rw[e,g,zec p hi h,<-d.sam.sz]
 rw[d.sam.sz];exact hS
end
theorem Rt.parts (h:Rt m):Qa m.fs m.hand=0/\slW m.sl=0:=by
 have b:=h.w;unfold maW at b;rw[zn]at b;have a:J7 m=0:=b _ (by simp)
 unfold J7 at a;rw[zn]at a;exact⟨a _ (by simp),a _ (by simp)⟩
theorem zh3:zca qI:=⟨rfl,fun h a=>by
 have:=Xs (show h∈Xr 8 []from a)
 subst this;exact .inl rfl⟩
theorem zl9 {s:Sp} {n:Nat} (a:n<64):zeC s.tb (n:Int)=zo s n:=by
 unfold zeC zo;rw[kE (by omega),tN]
theorem zo3 {t:List (List En)} (h:zca t) {n:Nat} (a:n<64) {e:En} (b:enW e=0):zhP t (n:Int) e=zkZ t n e:=by
 have a:=ZS.2 h.2;have:zhy t (n:Int) e=0:=by unfold zhy;rw[kE a,kE (by omega)];exact b
 unfold zhP;rw[kE this,tN]
theorem zmw (ht:∀s∈m.sp,zca s.tb) {p n:Nat} (hp:p<m.sp.length) (c:n<64) {e:En} (b:enW e=0):zal m p (n:Int) e=zfh m p n e:=by
 obtain⟨s,a⟩:∃s,m.sp[p]? =Xa s:=⟨_,gE hp⟩;unfold zal zfh;rw[Sp.getD_of a,zo3 (ht s (mG a)) c b]
 congr 1
 apply Ya
 intro i;rw[List.getElem?_set,Od]
 by_cases e:p=i
 ·subst e;rw[kE rfl,kE hp,a];simp
 rw[kF e]
 simp[e]
theorem zlw {n:Nat} {a:List (Int × List Int)} (h:zB n a=0) {q:Int × List Int} (c:q∈a):0<=q.1/\q.1< (n:Int):=by
 unfold zB at h
 split at h
 ·cases h
 split at h
 ·cases h
 split at h
 ·cases h
 rename_i a
 refine Classical.byContradiction fun b=>a (List.any_eq_true.2 ⟨q,c,?_⟩)
 simp only[jE,Yw,Bool.and_eq_false_iff,decide_eq_false_iff_not];omega
def Zx (m:Ma) (db':List (List Int)):Ma:=⟨Xr m.fs.length frF,0,Xr m.sl.length 0,Xr m.sl.length zz,[],db',[],m.fl,m.cnt,[],[⟨Xc,[],qI⟩]⟩
theorem ziu (h:Rt m) {db':List (List Int)} (b:db'.length=m.db.length) (d:∀i:Nat,db'[i]? =m.db[i]?\/∃q∈m.dq,q.1.toNat=i):Rt (Zx m db'):=by
 have a:=h.inv;have g:zeX m.fl m.cnt db' [] []:=by
  obtain⟨c,c,c⟩:=(z6 _ _).1 a.st;refine⟨a.st,by rw[b];exact a.cnt,nZ _,fun b a=>(by cases a),by rw[List.append_nil];exact c,fun b c c _=>?_,fun q e=>(by cases e)⟩
  rcases d b with e|⟨q,f,d⟩
  ·rw[e];exact a.blk b (by omega) c
  have d:=zlw a.dok f;have d:=a.que q f;rw[show q.1=(b:Int) by omega,c]at d
  cases d
 have b:=g.start a.fs40 a.sl60 0;have d:=b.more (s':=⟨Xc,[],qI⟩) (by simp) (by rfl) (fun e=>by cases e)
 have c:Qn (Zx m db')=[fun _=>en0]:=by
  unfold Qn Zx;simp only[mP,Yi,List.cons.injEq,and_true]
  funext n
  unfold zo zaL;simp only;have a:qI[n / 8]?.getD []=([]:List En):=by
   cases e:qI[n / 8]? with
   | none=>rfl
   | some x=>
    exact(Oj.1 (show x∈Xr 8 []from mG e)).2
  rw[a];rfl
 refine Rt.of ?_ (fun s b=>?_) (Int.le_refl 0) (by show(0:Int)<max _ 1;omega)
 ·rw[c];exact d
 rw[Yf.1 b];exact zh3
end
section
open Go.RowKit
theorem jP.staysD {α:Type} {enc:α->List Xq} {base:Nat} {w:Xn} {v:Xq} {l:List α} (h:jP enc w v l) (c:Zm base v) {D:Nat->Prop} (g:∀k,D k->k<base) (k:qT D w W):jP enc W v l:=by
 obtain⟨b,d,a,e,f⟩:=h;refine⟨b,d,a,e,fun x b j u d=>?_⟩
 subst b;have b:=f x rfl j u d;have d:=World.block_lt_of_cell? _ _ b;have c:=c x _ _ a;rw[World.cell?_of_block (w:=w) (k.block _ d (fun e=>by have:=g _ e;rw[Jo]at this;omega))]
 exact b
theorem z3.staysD {base:Nat} {w:Xn} {v:Xq} {a:List (List Int)} {b:List (Int × List Int)} (h:z3 base w v a b) {D:Nat->Prop} (e:∀k,D k->k<base) (k:qT D w W):z3 base W v a b:=by
 obtain⟨f,q,g,a,b,c,d⟩:=h;exact⟨f,q,g,⟨a.1.staysD c e k,a.2⟩,⟨b.1.staysD d e k,b.2⟩,c,d⟩
theorem z3.form {base:Nat} {w:Xn} {v:Xq} {a:List (List Int)} {b:List (Int × List Int)} (h:z3 base w v a b):∃d q:Sli,v= Xi #[d.x,q.x]/\Zm base d.v/\Zm base q.v:=by
 obtain⟨b,q,rfl,⟨⟨a,c,rfl,_⟩,_⟩,⟨⟨b,e,rfl,_⟩,_⟩,f,g⟩:=h;exact⟨⟨a,_,c⟩,⟨b,_,e⟩,rfl,f,g⟩
theorem z3.rows {base:Nat} {w:Xn} {d q:Sli} {a:List (List Int)} {b:List (Int × List Int)} (h:z3 base w (Xi #[d.x,q.x]) a b):jF w (d.x) a/\jU w (q.x) b:=by
 obtain⟨b,q,e,a,b,_⟩:=h;simp only[Value.agg.injEq,Array.mk.injEq,List.cons.injEq,and_true]at e;obtain⟨rfl,rfl⟩:=e;exact⟨a,b⟩
theorem zi5 {α:Type} {E:Elt α} {w:Xn} {v:Xq} (h:zq E w v []):zq E W v []:=by
 obtain⟨⟨a,c,b,d,g⟩,e⟩:=h;exact⟨⟨a,c,b,d,fun x i j u f=>by simp at f⟩,e⟩
theorem ZL (a:Nat->Bool):∀(c:List (Int × List Int)) (j:Nat) (b:List (List Int)),(qw a c j b).length=b.length
 | [],_,_=>rfl
 | q :: c,j,b=>by
  unfold qw;rw[ZL a c]
  split <;> simp
theorem zbd (a:Nat->Bool):∀(c:List (Int × List Int)) (j:Nat) (b:List (List Int)) (i:Nat),(qw a c j b)[i]? =b[i]?\/∃q∈c,q.1.toNat=i
 | [],_,_,_=> .inl rfl
 | q :: c,j,b,i=>by
  unfold qw
  rcases zbd a c (j+1) (if a j then b.set q.1.toNat q.2 else b) i with h|⟨x,a,b⟩
  ·by_cases e:q.1.toNat=i
   ·exact .inr ⟨q,by simp,e⟩
   left;rw[h]
   split
   ·exact sN e
   rfl
  exact .inr ⟨x,by simp[a],b⟩
theorem zey (h:Rt m) (a:Nat->Bool):Rt (Zx m (jX a m.db m.dq)):=by
 have e:jX a m.db m.dq=qw a m.dq 0 m.db:=kE h.inv.dok;rw[e];exact ziu h (ZL _ _ _ _) (zbd _ _ _ _)
theorem zeN (V) (m:Ma) (bs:Int) (w) (j:zN w V m) (h:Rt m):
  Xp prog 14 #[Xi (mL V m).toArray,I6 bs] w fun e w'=>(∃V':MaV,e= Xl (Xm #[Xi #[V'.f.x,I6 0,V'.s.x,V'.sb.x,V'.sq.x,V'.db.x,V'.dq.x,V'.fl.x,I6 m.cnt,V'.ca.x,V'.sp.x],I6 0])/\zN w' V' (Zx m (jX (ZJ bs) m.db m.dq))/\∃a,V'.sp=⟨Xa ⟨a,0,Xb⟩,1,1⟩)/\zc w w':=by
 obtain⟨b,a⟩:=kB ((w.alloc (Xk (mL V m).toArray 41)).alloc (Xk zM.toArray 41));have p:=gD2 a
 obtain⟨g,E⟩:=kA w.heap.size;have q:Xo (zx b g 41 (mL V m)):=dD<|by rw[<-a];exact(zx.top w (mL V m) _ E.symm).grew (za _ _)
 have t:Xo (zx b (g+1) 41 zM):=dD<|by rw[<-a];exact zx.top _ zM _ (by have:=E.out;simp;omega)
 have n:=dD<|j.grew p.out;have r:=dD h;have d:Xo (_=b):=a;obtain⟨k,l,-⟩:=j.ns;have c:Xo (zpt (V.f.n:Int) (V.s.n:Int) m.cnt):=show zpt _ _ _ by
  have i:=h.inv;have Y:=i.fs40;have u:=i.sl60;have u:=((z6 _ _).1 i.st).1;rw[k,l];exact⟨⟨by omega,by omega⟩,⟨by omega,by omega⟩,by omega⟩
 have H:=dD k;have K:=dD l;clear a j h k l
 go_enter func14,ntmps14
 go_upto_region 1 with fail;rw[d.out,E.out];have a:=J1 V m b n r.w;obtain⟨y,S,z,T,W,A,B,C,l,X,j⟩:=q.box.c11;go_wp2_with fail;refine a.mono ?_;clear a y S z T W A B C l X j;rintro e P ⟨rfl,a⟩;have d:=dD (q.grew a);have R:=dD (t.grew a);have t:=dD (n.grew a);have ac:=dD (p.trans a);clear a;have a:=znJ (V.f.n:Int) (V.s.n:Int) m.cnt c P;have y:=d.box.c 0 rfl;have z:=d.box.c 2 rfl;have l:=d.box.c 8 rfl;go_wp2_with fail;refine a.mono ?_;clear a y z l;rintro e F ⟨⟨U,rfl,k,a,c⟩,h⟩;have M:=dD c;have N:=dD k;have L:=dD a;have b:=dD h;clear k a h c;go_upto_region 5 with fail;obtain⟨c,n⟩:=kA F.heap.size;obtain⟨Q,a⟩:=kB (F.alloc (Xk #[U.f.x,I6 0,U.s.x,U.sb.x,U.sq.x,U.db.x,U.dq.x,U.fl.x,I6 m.cnt,U.ca.x,U.sp.x] 41));have D:=gA a
 have a0:=xPT a n
 have k:=dD (d.grew (b.trans D));rw[a,n.out];clear a;have d:=dD (t.grew (b.trans D));have a:=zmG (Xi #[V.db.x,V.dq.x]) m.db m.dq bs Q ⟨_,_,rfl,d.db,d.dq⟩;have A:=k.box.c 5 rfl;have B:=k.box.c 6 rfl;go_wp2_with fail;refine a.mono ?_;clear a A B;rintro e Z ⟨a,rfl,d,a⟩;obtain⟨h,q,rfl,r,u⟩:=d.form;have aa:Xo (z3 Q.heap.size Z (Xi #[h.x,q.x]) (jX (ZJ bs) m.db m.dq) []):=d;have G:=dD a;have p:=dD (a0.grew a);clear d a r u
 go_upto_region 6 with(refine ZU rfl 34 (.tmp 37) (.tmp 35) rfl c 5 rfl (Xi #[h.x,q.x]) rfl [h.x,q.x] rfl p (by simp) (by kernel_rfl) (by simp[Value.oneCell']) ?_)
 intro u d a _;have ae:Xo (zx u c 41 [U.f.x,I6 0,U.s.x,U.sb.x,U.sq.x,h.x,q.x,U.fl.x,I6 m.cnt,U.ca.x,U.sp.x]):=d;have r:=dD a;have p:Xo (zc F u):=show zc _ _ from zd (D.trans G) a (by have:=n.out;omega)
 have v:Xo (zx u g 41 (mL V m)):=dD<|(k.grew G).beside a (fun k e=>by cases e;have Y:=R.box.lt;have:=n.out;have:=bS b.out;omega)
 have Y:=dD ((t.grew b).grew p);clear d a;try simp only[Yv]
 have a:=zdb (V.fl.x) m.fl m.cnt u Y.fl;have C:=v.box.c 7 rfl;have l:=v.box.c 8 rfl;go_wp2_with fail;refine a.mono ?_;clear a C l;rintro e ad ⟨a,rfl,d,t,_⟩;obtain⟨v,Y,rfl,_⟩:=z5.rows d.new.now0;obtain⟨f,I⟩:∃f:Sli,Xo (f=⟨v,m.fl.length,Y⟩):=⟨_,rfl⟩;have a:O v m.fl.length Y=f.x:=by rw[I.out]
 rw[a]at d⊢;have ab:=dD d.new;have Y:=dD t;have v:=dD (ae.grew t);clear d t a
 go_upto_region 7 with(refine ZU rfl 37 (.tmp 41) (.tmp 40) rfl c 7 rfl (Xi #[f.x,I6 m.cnt]) rfl [f.x,I6 m.cnt] rfl v (by simp) (by kernel_rfl) (by simp[Value.oneCell']) ?_)
 intro I v a _;have ae:Xo (zx I c 41 [U.f.x,I6 0,U.s.x,U.sb.x,U.sq.x,h.x,q.x,f.x,I6 m.cnt,U.ca.x,U.sp.x]):=v;have t:=dD a;have d:Xo (zc F I):=show zc _ _ from zd (p.trans Y) a (by have:=n.out;omega)
 have p:=dD ((R.grew b).grew d);clear v a;try simp only[Yv]
 obtain⟨y,S,z,T,W,A,B,C,l,X,j⟩:=ae.box.c11
 go_wp2_with (refine z9 rfl 41 (.tmp 4) (.tmp 42) rfl (g+1) rfl [U.f.x,I6 0,U.s.x,U.sb.x,U.sq.x,h.x,q.x,f.x,I6 m.cnt,U.ca.x,U.sp.x] rfl p rfl (by kernel_rfl) (by simp[Value.oneCell']) ?_)
 clear y S z T W A B C l X j;intro j l a _;have y:Xo (zc w j):=dD<|zd ((ac.trans b).trans d) a (by have:=E.out;omega)
 have p:=dD l;have l:Xo (zN j ⟨U.f,U.s,U.sb,U.sq,h,q,f,U.ca,U.sp⟩ (Zx m (jX (ZJ bs) m.db m.dq))):=show zN _ _ _ by
  have h:g+1<P.heap.size:=R.box.lt;have h:=bS b.out;have b:=bS D.out;have b:=bS G.out;have b:=r.size;have b:=n.out;have b:c<Q.heap.size:=a0.box.lt;have u8:=N.grew d.out;have b:∀{v:Xq},Zm P.heap.size v->∀x n c,v= O (Xa x) n c->Xa x.block≠Xa (g+1):=fun d x n c h e=>by
   have:=d x n c h;simp only[Option.some.injEq]at e;omega
  obtain⟨⟨q,z,A,B⟩,d,d,d,C,D⟩:=L.out;have d:qT (fun k=>k=c\/k=g+1) Z j:=(((qT.grown r (.inl rfl)).trans (qT.grew Y)).trans (qT.grown t (.inl rfl))).trans (qT.grown a (.inr rfl))
  have n:=(aa.staysD (fun k c=>by rcases c with rfl | rfl <;> omega) d).rows
  have g:Out 0 (u.heap.size+2) ad j:=(Out.grown t (fun c e=>by cases e;omega)).trans (Out.grown a (fun c e=>by cases e;omega))
  have d:=H.out;have c:=K.out;obtain⟨E,r,t,u⟩:=u8.sp;have F:(zcr (V.f.n:Int) (V.s.n:Int) m.cnt).sp=[⟨Xc,[],qI⟩]:=rfl;refine⟨?_,?_,?_,?_,n.1,n.2,(ab.out.out g).now0,u8.ca.beside a (b C),⟨E,r.beside a (b D),t,fun i x s n g=>?_⟩⟩
  ·have:=u8.fs.beside a (b q);rw[show(zcr (V.f.n:Int) (V.s.n:Int) m.cnt).fs=Xr m.fs.length frF from by unfold zcr;simp only;rw[d,tN]]at this
   exact this
  ·have:=u8.sl.beside a (b z);rw[show(zcr (V.f.n:Int) (V.s.n:Int) m.cnt).sl=Xr m.sl.length 0 from by unfold zcr;simp only;rw[c,tN]]at this
   exact this
  ·have:jF j _ _:=⟨u8.sb.1.beside a (b A),u8.sb.2⟩;rw[show(zcr (V.f.n:Int) (V.s.n:Int) m.cnt).sb=Xr m.sl.length zz from by unfold zcr;simp only;rw[c,tN]]at this
   exact this
  ·exact⟨u8.sq.1.beside a (b B),u8.sq.2⟩
  have a: [(⟨Xc,[],qI⟩:Sp)][i]? =Xa s:=g
  cases i with
  | succ i=>simp at a
  | zero=>
   cases a;have k:=u 0 x _ n rfl;refine⟨k.live,zi5 k.ar,k.cap,⟨k.tb.len,k.tb.tlen,fun j v b h a=>?_⟩⟩
   have e:=(Oj.1 (show b∈Xr 8 []from mG a)).2
   subst e;exact fun w' _=>zi5 (k.tb.row j v [] h a).now
 go_wp2;refine bodyPost_ret (qL rfl _ rfl p.box underlying41 rfl (by kernel_rfl)) rfl ⟨⟨_,rfl,l,M⟩,y⟩
theorem zeR {l:List On} (y:On) (h:j<l.length):splice (zC l) (j*6) (onv y)=zC (l.set j y):=Jd (enc:=onv) (k:=6) y rfl l j (fun _ _=>rfl) h
theorem ZZ {l:List On} {e:On} (h:l[j]? =Xa e) (i:Nat) (u) (a:(onv e)[i]? =Xa u):(zC l)[j*6+i]? =Xa u:=qC (enc:=onv) (k:=6) l j e (fun _ _=>rfl) h i u a
theorem jQ (f:Nat->On):(zC (tab f)).length=384:=by rw[zkP,Q6]
theorem zed {rest:List Oper} {c:Oper} {a:Act} {w:Xn} (d:c.guard=Xb) (p x) (i:c.op= .store 81 p x) (b k:Nat) (g:k<64) (hp:a.eval p= Xj (Xa ⟨b,k*6,Xb⟩)) (y:On) (j:a.eval x= Xi (onv y).toArray)
  {f:Nat->On} (e:Box w b (zC (tab f)))
  (h:∀w',Box w' b (zC (tab (upd f k y)))->w.grownBy w' (Xa b)->w'.heap.size=w.heap.size->wpList prog ops Q rest (a.put c.dst undef) w'):wpList prog ops Q (c :: rest) a w:=by
 refine zhF d 81 p x i b (k*6) hp (onv y) j e (by rw[jQ];show _+6<=_;omega) zqP (zlC y) fun w' c d e=>h w' ?_ d e
 rw[zeR y (by rw[Q6];exact g),zhJ]at c
 exact c
theorem Box.onCell {w:Xn} {k:Nat} {f:Nat->On} (h:Box w b (zC (tab f))) (g:k<64) (i:Nat) (u) (y:On) (a:(onv (f k)).set i u=onv y) (hi:i<6):Box (w.setCell ⟨b,k*6+i,Xb⟩ u) b (zC (tab (upd f k y))):=by
 have d:=h.set (k*6+i) u;have:(zC (tab f)).set (k*6+i) u=zC (tab (upd f k y)):=by
  rw[<-zhJ,<-zeR y (by rw[Q6];exact g),<-a]
  have a:=jQ f
  apply Ya
  intro j;unfold splice;have c:((onv (f k)).set i u).length=6:=by simp[onv]
  rw[c]
  by_cases d:j<k*6
  ·rw[sN (by omega),Xt (by simp;omega),List.getElem?_take_of_lt d]
  have a:((zC (tab f)).take (k*6)).length=k*6:=by simp;omega
  rw[aR (by omega),a]
  by_cases a:j<k*6+6
  ·rw[Xt (by rw[c];omega)]
   have m:∀a,a<6->(zC (tab f))[k*6+a]? =(onv (f k))[a]?:=fun a e=>by
    obtain⟨v,l⟩:∃v,(onv (f k))[a]? =Xa v:=⟨_,gE (by simpa [onv]using e)⟩
    rw[l];exact ZZ (JL g) a v l
   by_cases e:j=k*6+i
   ·subst e;rw[sF (by omega),show k*6+i - k*6=i by omega,sF (by simpa [onv]using hi)]
   rw[sN (fun h=>e h.symm),sN (by omega),<-m _ (by omega),show k*6+(j - k*6)=j by omega]
  rw[sN (by omega),aR (by rw[c];omega),c,List.getElem?_drop]
  congr 1
  omega
 rw[this]at d;exact d
theorem zg3 {cs:List Xq} {o k:Nat} (a:vs.length=k) (h:∀(i:Nat) u,vs[i]? =Xa u->cs[o+i]? =Xa u):cs.toArray.extract o (o+k)=vs.toArray:=by
 apply Array.ext_getElem?
 intro j;rw[Array.getElem?_extract]
 by_cases a:j<k
 ·obtain⟨u,b⟩:∃u,vs[j]? =Xa u:=⟨_,gE (by omega)⟩
  have a:=h j u b;have c:=(gS.1 a).1;rw[kE (by simp;omega)]
  simp[a,b]
 rw[kF (by omega)]
 simp;omega
theorem znn {w:Xn} {f:Nat->On} (i:Nat) (hi:i<64):(Instr.index 82 (Xi (zC (tab f)).toArray) (I6 (i:Int))).run prog w= .ok (Xi (onv (f i)).toArray) w:=by
 have e:(isAgg 81).run prog w= .ok Xc w:=by
  unfold isAgg;rw[Xw,run_underlying underlying81 w];rfl
 have g:(Go.sizeOf 81).run prog w= .ok 6 w:=by
  obtain⟨a,c,d⟩:∃a,Tryz.prog.info? 81=Xa a/\a.size=6:=by
   have:=zqP
   cases b:Tryz.prog.info? 81 with
   | none=>rw[b]at this;cases this
   | some a=>rw[b]at this;exact⟨a,rfl,by simpa using this⟩
  simp[Go.sizeOf,typeInfo,c,d]
 have a:(0:Int)<=(i:Int)/\(i:Int)< ((64:Nat):Int):=by omega
 have c:(zC (tab f)).toArray.extract (i*6) (i*6+6)=(onv (f i)).toArray:=zg3 rfl fun j u b=>ZZ (JL hi) j u b
 simp only[Instr.index,asIntOf,Xw,Xu,rA,run_underlying underlying82];rw[kE a];simp only[Xw,g,rA,part,e,if_true,tN,Xu,c]
theorem zoT {rest:List Oper} {a:Act} {w:Xn} (b:o.guard=Xb) (x ix) (d:o.op= .index 82 x ix) (f:Nat->On) (e:a.eval x= Xi (zC (tab f)).toArray) (i:Nat) (c:a.eval ix=I6 (i:Int)) (hi:i<64)
  (h:wpList prog ops Q rest (a.put o.dst (Xi (onv (f i)).toArray)) w):wpList prog ops Q (o :: rest) a w:=by
 refine wpList_plain b fun K b=>?_
 unfold Oper.wp execOp;simp only[d,e,c,Xw,Xu,rA,znn i hi];exact b _ _ h
theorem ze5 {rest:List Oper} {a:Act} {w:Xn} (b:o.guard=Xb) (x ix) (d:o.op= .index 82 x ix) (f:Nat->On) (g:a.eval x= Xi (zC (tab f)).toArray) (i:Nat) (c:a.eval ix=I6 (i:Int)) (hi:i<64) {v:Xq} (e: Xi (onv (f i)).toArray=v)
  (h:wpList prog ops Q rest (a.put o.dst v) w):wpList prog ops Q (o :: rest) a w:=zoT b x ix d f g i c hi (by rw[e];exact h)
theorem zlc {rest:List Oper} {a:Act} {w:Xn} (c:o.guard=Xb) (x) (g:o.op= .load 81 x) (b k:Nat) (e:k<64) (i:a.eval x= Xj (Xa ⟨b,k*6,Xb⟩)) {f:Nat->On} (d:Box w b (zC (tab f)))
  (h:wpList prog ops Q rest (a.put o.dst (Xi (onv (f k)).toArray)) w):wpList prog ops Q (o :: rest) a w:=
 wpList_load_mid c 81 x g b (k*6) i (onv (f k)) _ (d.mid _ fun j u c=>ZZ (JL e) j u c) underlying81 rfl zqP h
theorem zee {rest:List Oper} {a:Act} {w:Xn} (c:o.guard=Xb) (x) (g:o.op= .load 81 x) (b k:Nat) (e:k<64) (j:a.eval x= Xj (Xa ⟨b,k*6,Xb⟩)) {f:Nat->On} (d:Box w b (zC (tab f))) {v:Xq} (i: Xi (onv (f k)).toArray=v)
  (h:wpList prog ops Q rest (a.put o.dst v) w):wpList prog ops Q (o :: rest) a w:=zlc c x g b k e j d (by rw[i];exact h)
theorem zqg:(Tryz.prog.info? 82).map (·.zero)=Xa (Xa (Xi (zC (tab fun _=>on0)).toArray)):=by kernel_rfl
theorem zbf (w):(zeroValue 82).run prog w= .ok (Xi (zC (tab fun _=>on0)).toArray) w:=by
 have h:=zqg
 cases a:Tryz.prog.info? 82 with
 | none=>simp[a]at h
 | some i=>
  simp[a]at h
  simp[zeroValue,typeInfo,a,h]
def zp0 (f:Nat->On):Nat->Ar:=fun n=>zaN n (f n)
def zj8 (l:List Ar) (i:Nat) (a:Ar) (n:Nat):Nat->On:=fun j=>if a.fr<=(j:Int)/\(j:Int)< (n:Int)then qm a j else zE (l.take i) j
theorem Q5.take:∀{l:List Ar} {p:Option Ar},Q5 p l->∀i,Q5 p (l.take i)
 | [],_,_,i=>by simp[Q5]
 | a :: l,p,h,0=>by simp[Q5]
 | a :: l,p,h,i+1=>⟨h.1,h.2.1,h.2.2.take i⟩
theorem Q5.free (h:Q5 Xb l) {i:Nat} {a:Ar} (d:l[i]? =Xa a) (b:a.fr<=(j:Int)):zE (l.take i) j=on0:=by
 refine zbl fun x c=>zdS ?_
 have b:=h.take (i+1);rw[qr d]at b;obtain⟨d,e,f⟩:=zao.1 b
 cases b:zac Xb (l.take i)with
 | none=>
  unfold zac at b
  cases e:l.take i with
  | nil=>rw[e]at c;cases c
  | cons y g=>rw[e]at b;simp[List.getLast?_cons]at b
 | some y=>
  have q:=(f y b).1;have f:Zi y:=d.all y (by
   unfold zac at b
   split at b
   ·rename_i e e
    cases b;exact List.mem_of_getLast? e
   cases b)
  unfold Zi at f
  rcases zfu _ Xb d x c y b with e|e
  ·rw[e];omega
  omega
theorem zlL {i:Nat} {a:Ar} {n:Nat} (b:(n:Int)=a.fr):zj8 l i a n=zE (l.take i):=by
 funext j
 unfold zj8;rw[kF (by omega)]
def zpP (l:List Ar):Prop:=(∀a∈l,Zi a)/\∀(i:Nat) a,l[i]? =Xa a->∀j:Nat,a.fr<=(j:Int)->zE (l.take i) j=on0
theorem Q5.lies (h:Q5 Xb l):zpP l:=⟨h.all,fun _ _ a _ b=>h.free a b⟩
theorem znR {b a:Ar} (e:Zi b) (d:Zi a) (c:b.tz<=a.fr):zpP [b,a]:=by
 refine⟨fun x c=>?_,fun i x c j f=>?_⟩
 ·simp at c
  rcases c with rfl|rfl
  ·exact e
  exact d
 match i with
 | 0=>rfl
 | 1=>
  simp at c
  subst c
  show zE [b] j=on0
  rw[zbk (.inr (by omega))]
  rfl
 | k+2=>simp at c
theorem znS {a:Ar} (c:Zi a):zpP [a]:=by
 refine⟨fun x b=>?_,fun i x b j d=>?_⟩
 ·simp at b
  subst b;exact c
 match i with
 | 0=>rfl
 | k+1=>simp at b
theorem zlM {i:Nat} {a:Ar} {n:Nat} (b:a.fr<=(n:Int)):upd (zj8 l i a n) n (qm a n)=zj8 l i a (n+1):=by
 funext j
 unfold upd zj8
 by_cases e:j=n
 ·subst e;rw[kE rfl,kE (by omega)]
 rw[kF e]
 by_cases h:a.fr<=(j:Int)/\(j:Int)< (n:Int)
 ·rw[kE h,kE (by omega)]
 rw[kF h,kF (by omega)]
theorem znM {i:Nat} {a:Ar} {n:Nat} (h:zpP l) (c:l[i]? =Xa a) (b:(n:Int)=a.tz):zj8 l i a n=zE (l.take (i+1)):=by
 funext j
 unfold zj8;rw[qr c,J9]
 ·by_cases b:a.fr<=(j:Int)/\(j:Int)< (n:Int)
  ·rw[kE b,kE (z4.2 (by omega))]
  rw[kF b,kF (fun d=>b (by have:=z4.1 d;omega))]
 by_cases b:a.fr<=(j:Int)
 ·exact .inl (h.2 i a c j b)
 exact .inr (zdS (by omega))
theorem zoV {α:Type} (f:Nat->α) (k:Nat) (x y:α):upd (upd f k x) k y=upd f k y:=by
 funext j
 unfold upd
 by_cases e:j=k
 ·rw[kE e,kE e]
 rw[kF e,kF e,kF e]
theorem ZM (v l w) (hv:zq arE w v l) (hok:zpP l):
  Xp prog 22 #[v] w fun e w'=>e= Xl (Xi (zC (tab (zE l))).toArray)/\zc w w':=by
 have hbig:=hv.short;obtain⟨a,c,rfl,hrow⟩:=hv.ars;have HR:=dD hrow;have HOK:=dD hok;clear hrow hv hok;have hz:=zbf;obtain⟨Z0,HZ0⟩:=kA (zC (tab fun _=>on0))
 rw[HZ0.out]at hz;have HZL:Xo (Z0.length=384):=dD<|by rw[<-HZ0.out,jQ]
 obtain⟨C,HC⟩:=kA (zC (tab (zE l)));rw[HC.out];obtain⟨n,HN⟩:=kA l.length;rw[HN.out]at hbig⊢;obtain⟨W0,hW0⟩:=kB ((w.alloc (Xk Z0.toArray 82)).alloc (Xk Z0.toArray 82));have HG0:=gD2 hW0
 have Y0:Xo (Box W0 w.heap.size Z0):=dD<|by rw[<-hW0];exact(Box.top _ _ _ (by simp)).alloc _
 have L0:Xo (Box W0 (w.heap.size+1) (zC (tab (zE (l.take 0))))):=dD<|by rw[<-hW0,List.take_zero,show zE ([]:List Ar)=fun _=>on0 from rfl,HZ0.out];exact Box.top _ _ _ (by simp)
 have HW0:=dD hW0;clear hW0
 go_enter func22,ntmps22
 go_upto_region 2 with fail;rw[HW0.out];clear hz;go_wp2
 go_loopg [9] n (fun gg s9 wr=>∃kk:Nat,kk<=n/\n - kk<=gg/\s9=I6 kk/\Xo (zc w wr)/\Xo (Box wr w.heap.size Z0)/\Xo (Box wr (w.heap.size+1) (zC (tab (zE (l.take kk))))))
 case atStart=>exact⟨0,nZ _,by omega,rfl,HG0,Y0,L0⟩
 obtain⟨kk,hkk,hg,rfl,BW,YW,LW⟩:=hrel
 by_cases hlt:kk<n
 ·have hltz:=kC hlt
  obtain⟨q,HQ⟩:∃q,Xo (l[kk]? =Xa q):=⟨_,gE (by rw[HN.out];exact hlt)⟩
  obtain⟨ad,rfl,hl⟩:=HR.out kk q HQ.out;obtain⟨d0,d1,d2,d3,d4,d5,d6⟩:=hl wr BW.out;have HQK:=dD<|HOK.1 q (mG HQ);have hqb:0<=q.fr/\q.fr<q.tz/\q.tz<=64/\0<=q.base/\q.base<=12:=by
   have:=HQK.out;unfold Zi at this
   rcases Int.lt_or_le q.file 0 with h|h
   ·omega
   omega
  obtain⟨hq1,hq2,hq3,hq4,hq5⟩:=hqb;obtain⟨p,HP⟩:=kA wr.heap.size;have HLP:Xo (w.heap.size+1<p):=dD<|by rw[<-HP.out];exact LW.lt
  clear hl;go_upto_region 5 with fail;obtain⟨W1,hW1⟩:=kB (wr.alloc (Xk #[I6 q.fr,I6 q.tz,Xh q.rd,Xh q.wr,Xh q.sh,I6 q.file,I6 q.base] 105));have G1:=gT hW1 BW
  have Y1:=yA hW1 YW
  obtain⟨f0,hf0⟩:∃f0:Nat,(f0:Int)=q.fr:=⟨q.fr.toNat,by omega⟩
  have L1:Xo (Box W1 (w.heap.size+1) (zC (tab (zj8 l kk q f0)))):=dD<|by rw[<-hW1,zlL hf0];exact LW.alloc _
  have P1:=xP hW1 HP
  rw[hW1,HP.out];clear hW1 d0 d1 d2 d3 d4 d5 d6;have p0:=P1.c 0 rfl;go_wp2
  go_loopg [6] (q.tz.toNat - f0) (fun g2 s6 wr2=>∃k2:Nat,f0<=k2/\(k2:Int)<=q.tz/\q.tz.toNat - k2<=g2/\s6=I6 k2/\Xo (zc w wr2)/\Xo (Box wr2 w.heap.size Z0)/\Xo (Box wr2 (w.heap.size+1) (zC (tab (zj8 l kk q k2))))/\Xo (Box wr2 p [I6 q.fr,I6 q.tz,Xh q.rd,Xh q.wr,Xh q.sh,I6 q.file,I6 q.base]))
  case atStart=>exact⟨f0,nR _,by omega,by omega,by rw[hf0],G1,Y1,L1,P1⟩
  obtain⟨k2,hk2,hk2',hg2,rfl,BW2,YW2,LW2,PW2⟩:=hrel;clear p0;have p1:=PW2.c 1 rfl
  by_cases hlt2:(k2:Int)<q.tz
  ·have hi64:k2<64:=by omega
   have hi64z:(k2:Int)<64:=by omega
   have HST:Xo (upd (zj8 l kk q k2) k2 (qm q k2)=zj8 l kk q (k2+1)):=zlM (l:=l) (i:=kk) (a:=q) (n:=k2) (by omega)
   have p2:=PW2.c 2 rfl;have p3:=PW2.c 3 rfl;have p4:=PW2.c 4 rfl;have p5:=PW2.c 5 rfl
   go_wp2_with (refine zed rfl (.tmp 31) (.tmp 30) rfl (w.heap.size+1) k2 hi64 rfl ⟨Xc,q.rd,q.wr,q.sh,q.file,0⟩ rfl LW2.out ?_)
   intro W3 b3 g3 s3;have L3:=dD b3;have G3:Xo (zc w W3):=zd BW2 g3 (by simp)
   have Y3:Xo (Box W3 w.heap.size Z0):=YW2.beside g3 (by intro g hg;cases hg;simp)
   have P3:Xo (Box W3 p [I6 q.fr,I6 q.tz,Xh q.rd,Xh q.wr,Xh q.sh,I6 q.file,I6 q.base]):=PW2.beside g3 (by intro g hg;cases hg;have:=HLP.out;omega)
   clear b3 g3 s3 p1 p2 p3 p4 p5;have p5:=P3.c 5 rfl
   by_cases hfile:0<=q.file
   ·have HONE:Xo (qm q k2=⟨Xc,q.rd,q.wr,q.sh,q.file,q.base+(k2:Int) - q.fr⟩):=dD<|by
     unfold qm;rw[kE hfile]
     congr 1
     omega
    have p0:=P3.c 0 rfl;have p6:=P3.c 6 rfl;have l5:=L3.c (k2*6+5) (ZZ (JL hi64) 5 (I6 0) (by unfold upd;rw[kE rfl];rfl))
    have lf:=L3.f;go_upto_region 7 with fail;obtain⟨W4,hW4⟩:=kB (W3.setCell ⟨w.heap.size+1,k2*6+5,Xb⟩ (I6 (q.base+(k2:Int) - q.fr)));have L4:Xo (Box W4 (w.heap.size+1) (zC (tab (zj8 l kk q (k2+1))))):=dD<|by
     rw[<-hW4];have:=L3.onCell hi64 5 (I6 (q.base+(k2:Int) - q.fr)) (qm q k2) (by rw[HONE.out];unfold upd;rw[kE rfl];rfl) (by omega)
     rw[zoV,HST.out]at this;exact this
    have G4:Xo (zc w W4):=dD<|by rw[<-hW4];exact zy G3 (by simp) _
    have Y4:Xo (Box W4 w.heap.size Z0):=dD<|by rw[<-hW4];exact Y3.other (by simp) _
    have P4:Xo (Box W4 p [I6 q.fr,I6 q.tz,Xh q.rd,Xh q.wr,Xh q.sh,I6 q.file,I6 q.base]):=dD<|by rw[<-hW4];exact P3.other (by have:=HLP.out;simp;omega) _
    rw[hW4];clear hW4 l5 lf p0 p5 p6;go_wp2
    go_roundg (q.tz.toNat -(k2+1))
    case measure=>omega
    exact⟨k2+1,by omega,by omega,by omega,by go_num,G4,Y4,L4,P4⟩
   have HONE:Xo (qm q k2=⟨Xc,q.rd,q.wr,q.sh,q.file,0⟩):=dD<|by
    unfold qm;rw[kF hfile]
   have L4:Xo (Box W3 (w.heap.size+1) (zC (tab (zj8 l kk q (k2+1))))):=dD<|by rw[<-HST.out,HONE.out];exact L3.out
   go_wp2
   go_roundg (q.tz.toNat -(k2+1))
   case measure=>omega
   exact⟨k2+1,by omega,by omega,by omega,by go_num,G3,Y3,L4,P3⟩
  have hke:(k2:Int)=q.tz:=by omega
  have LE:Xo (Box wr (w.heap.size+1) (zC (tab (zE (l.take (kk+1)))))):=dD<|by rw[<-znM HOK.out HQ.out hke];exact LW2.out
  go_wp2
  go_roundg (n -(kk+1))
  case measure=>omega
  exact⟨kk+1,by omega,by omega,by go_num,BW2,YW2,LE⟩
 have hltz:=kD hlt
 have:kk=n:=by omega
 subst this;have LE:Xo (Box wr (w.heap.size+1) C):=dD<|by rw[<-HC.out];have:=LW.out;rw[<-HN.out,List.take_length]at this;exact this
 have HFL:Xo (C.length=384):=dD<|by rw[<-HC.out,jQ]
 have HFO:Xo (∀v∈C,v.oneCell'=Xc):=dD<|by rw[<-HC.out];exact Jk _
 go_wp2_with (first | refine zO rfl 82 (.tmp 3) rfl (w.heap.size+1) rfl LE underlying82 rfl (by rw[HFL.out];exact zqQ) ?_ | refine zF rfl 82 (.tmp 2) (.tmp 46) rfl w.heap.size rfl C rfl YW (by rw[HFL.out,HZL.out]) (by rw[HZL.out];exact zqQ) HFO.out ?_)
 intro W3 b3 g3 s3;have G3:Xo (zc w W3):=dD<|zd BW g3 (by simp)
 have B3:=dD b3;clear b3 g3 s3;go_wp2;refine bodyPost_ret (zX rfl _ rfl B3 underlying82 rfl (by rw[HFL.out];exact zqQ)) rfl ⟨rfl,G3⟩
theorem znv {f:Nat->On} {k:Nat} (h:(f k).is=Xc):zp0 f k=⟨k,(k:Int)+1,(f k).rd,(f k).wr,(f k).sh,(f k).file,(f k).page⟩:=by
 unfold zp0 zaN;rw[kE h]
theorem zp6 (x y:On):znz ⟨y.is,y.rd,y.wr,y.sh,y.file,if 0<=x.file then y.page+1 else y.page⟩ x=goJ x y:=by
 unfold znz goJ;have a:∀x y:Int,(x == y)=decide (x=y):=fun x y=>rfl
 simp only[a]
theorem zcg (f:Nat->On) (w:Xn) (I:ziR f):
  Xp prog 95 #[Xi (zC (tab f)).toArray] w fun e w'=>(∃v,e= Xl v/\zb arE (w.heap.size+1) w' v (QD f))/\zc w w':=by
 have K:=dD I;clear I;have be:Xo ((zC (tab f)).length=384):=jQ _;obtain⟨Z,U⟩:=kB (w.alloc (Xk (zC (tab f)).toArray 82));have bf:=gA U
 have b3:=xA U
 have r:=sA U
 have bj:Xo (_=Z):=U;clear U
 go_enter func95,ntmps95
 go_upto_region 1 with fail;rw[bj.out]
 go_wp2_with (refine zO rfl 82 (.tmp 1) rfl w.heap.size rfl b3 underlying82 rfl (by rw[be.out];exact zqQ) ?_)
 go_loopg [3,9] 64 (fun cb ci cj wr=>∃(b:Nat) (a:List Ar) (a4:Option Addr) (C:Nat),b<=64/\64 - b<=cb/\cj=I6 b/\ci= O a4 a.length C/\Xo (zc Z wr)/\Xo (zb arE (w.heap.size+1) wr (O a4 a.length C) a)/\Xo (J f b a))
 case atStart=>exact⟨0,[],Xb,0,nZ _,by omega,rfl,rfl,zc.refl _,zb.nil _ _ _,J.zero f⟩
 obtain⟨b,a,a4,C,cf,cc,rfl,rfl,ar,bp,aj⟩:=hrel
 by_cases X:b<64
 ·have b5:(b:Int)<64:=by omega
  have q:=dD aj.len;have ca:=dD (b3.grew ar);obtain⟨ab,bg⟩:=kA wr.heap.size;have bh:Xo (wr.heap.size<=ab):=show _<=_ by rw[bg.out];exact nR _
  cases ak:(f b).is with
  | false=>
   have a1:Xo (Value.agg (onv (f b)).toArray= Xi #[Xh Xd,Xh (f b).rd,Xh (f b).wr,Xh (f b).sh,I6 (f b).file,I6 (f b).page]):=dD<|by rw[<-ak];rfl
   have Q:=dD<|aj.skip ((K b X).1 ak);clear ak
   go_wp2_with (refine ze5 rfl (.tmp 8) (.tmp 9) rfl f rfl b rfl X a1.out ?_)
   go_roundg (64 -(b+1))
   case measure=>omega
   exact⟨b+1,a,a4,C,by omega,by omega,by go_num,rfl,ar.trans (za _ _),bp.grew (za _ _),Q⟩
  | true=>
   have az:=dD ak;have ah:Xo (zaN b (f b)=⟨b,(b:Int)+1,(f b).rd,(f b).wr,(f b).sh,(f b).file,(f b).page⟩):=znv ak;have N:Xo ((∀c,a.getLast? =Xa c->goB (zaN b (f b)) c=Xd)->J f (b+1) (a++ [zaN b (f b)])):=fun a3=>aj.new K X az a3
   have a7:Xo (∀c0 c,a=c0++ [c]->goB (zaN b (f b)) c=Xc->J f (b+1) (c0++ [{ c with tz:=(b:Int)+1 }])):=fun c0 c T ap=>by
    have:=aj.out;rw[T]at this;exact this.ext K X az ap
   have a1:Xo (Value.agg (onv (f b)).toArray= Xi #[Xh Xc,Xh (f b).rd,Xh (f b).wr,Xh (f b).sh,I6 (f b).file,I6 (f b).page]):=dD<|by rw[<-ak];rfl
   clear ak;obtain⟨x,H⟩:=kA (f b);rw[H.out]at a1;have av:Xo (Value.agg (onv (f b)).toArray= Xi #[Xh Xc,Xh x.rd,Xh x.wr,Xh x.sh,I6 x.file,I6 x.page]):=dD<|by rw[H.out];exact a1.out
   go_upto_region 5 with(refine ze5 rfl (.tmp 8) (.tmp 9) rfl f rfl b rfl X av.out ?_)
   obtain⟨b1,F⟩:=kB (wr.alloc (Xk #[Xh Xc,Xh x.rd,Xh x.wr,Xh x.sh,I6 x.file,I6 x.page] 81));have bc:=gT F ar
   have bm:Xo (zb arE (w.heap.size+1) b1 (O a4 a.length C) a):=dD<|by rw[<-F];exact bp.grew (za _ _)
   have a8:=xP F bg
   have c9:=yA F ca
   rw[F,bg.out];clear F;have c4:=a8.c 0 rfl
   cases b with
   | zero=>
    have aw:=dD aj.first;have Q:Xo (J f (0+1) (a++ [⟨((0:Nat):Int),((0:Nat):Int)+1,x.rd,x.wr,x.sh,x.file,x.page⟩])):=show J _ _ _ by
     have:=N.out (fun c aq=>by rw[aw.out]at aq;cases aq)
     rw[ah.out,H.out]at this;exact this
    go_upto_region 14 with fail;clear c4;have g:Xo (w.heap.size+1<=b1.heap.size):=dD<|by rw[<-r.out];exact bS bc.out
    have b8:=a8.c 1 rfl;have b9:=a8.c 2 rfl;have ba:=a8.c 3 rfl;have ac:=a8.c 4 rfl;have bb:=a8.c 5 rfl
    go_wp2_with (at_builtin;refine zt (E:=arE) rfl (.tmp 41) (.tmp 56) rfl (w.heap.size+1) _ a rfl (bm.grew (za _ _)) _ [⟨((0:Nat):Int),((0:Nat):Int)+1,x.rd,x.wr,x.sh,x.file,x.page⟩] rfl (jV arE b1 ⟨((0:Nat):Int),((0:Nat):Int)+1,x.rd,x.wr,x.sh,x.file,x.page⟩ _ _ rfl (by show 40<=_;omega)) ?qb ?qc ?_)
    case qb=>
     show(a.length+1)*40<=_
     have:=q.out;omega
    case qc=>first | exact g.out | exact nT g (Oe _) | (have:=g.out;omega) | (simp;have:=g.out;omega)
    intro c5 a9 own s;obtain⟨u,z,rfl⟩:=own.form;have R:Xo (zb arE (w.heap.size+1) a9 (.slice u (a++ [(⟨((0:Nat):Int),((0:Nat):Int)+1,x.rd,x.wr,x.sh,x.file,x.page⟩:Ar)]).length z) (a++ [⟨((0:Nat):Int),((0:Nat):Int)+1,x.rd,x.wr,x.sh,x.file,x.page⟩])):=own;have a6:Xo (zc Z a9):=show zc _ _ from zT (bc.trans (za _ _)) s (fun n I=>by
     have T:=(bm.lt n I).1;rw[r.out];exact T)
    have c3:=dD (b3.grew a6);clear own s b8 b9 ba ac bb;go_wp2
    go_roundg (64 -(0+1))
    case measure=>omega
    exact⟨0+1,a++ [(⟨((0:Nat):Int),((0:Nat):Int)+1,x.rd,x.wr,x.sh,x.file,x.page⟩:Ar)],u,z,by omega,by omega,by go_num,rfl,a6,R,Q⟩
   | succ j=>
    have aa:j<64:=by omega
    have bt:(j:Int)<64:=by omega
    have ce:(0:Int)< ((j+1:Nat):Int):=by omega
    have cd:((j+1:Nat):Int) - 1=(j:Int):=by omega
    have au:=aj.go az.out;obtain⟨y,bk⟩:=kA (f j);have bz:0<=y.page/\y.page<=12:=by
     rw[<-bk.out];have T:=K.out j aa
     cases bx:(f j).is with
     | false=>rw[T.1 bx];exact⟨by decide,by decide⟩
     | true=>
      have ap:=T.2 bx;unfold Zi zaN at ap;rw[kE bx]at ap;simp only at ap
      rcases Int.lt_or_le (f j).file 0 with a3|a3
      ·omega
      omega
    obtain⟨cg,ch⟩:=bz;have bl:Xo (Value.agg (onv (f j)).toArray= Xi #[Xh y.is,Xh y.rd,Xh y.wr,Xh y.sh,I6 y.file,I6 y.page]):=dD<|by rw[bk.out];rfl
    have a0:=zp6 x y;rw[H.out,bk.out]at au;have l:Xo _:=au;obtain⟨ad,ag⟩:=kA b1.heap.size;have ax:Xo (ab<ad):=dD<|by rw[<-ag.out];exact a8.lt
    go_upto_region 9 with(refine zee rfl (.tmp 20) rfl w.heap.size j aa rfl c9 bl.out ?_)
    clear c4;obtain⟨an,G⟩:=kB (b1.alloc (Xk #[Xh y.is,Xh y.rd,Xh y.wr,Xh y.sh,I6 y.file,I6 y.page] 81));have c2:=gT G bc
    have bn:Xo (zb arE (w.heap.size+1) an (O a4 a.length C) a):=dD<|by rw[<-G];exact bm.grew (za _ _)
    have bq:=yA G a8
    have b4:=xPT G ag
    rw[G,ag.out];clear G;have ac:=bq.c 4 rfl
    by_cases V:0<=x.file
    ·rw[kE V]at a0;have ay:=fun bs=>zp1 y.is Xc y.rd x.rd y.wr x.wr y.sh x.sh y.file x.file (y.page+1) x.page bs
     have ai:Xo ((⟨Xc,x.rd,x.wr,x.sh,x.file,x.page⟩:On)=x):=dD<|by
      have a3:=az.out;rw[H.out]at a3;rw[<-a3]
     rw[ai.out,a0]at ay;obtain⟨br,bi⟩:=kA (goJ x y);rw[bi.out]at ay l;have cl:=b4.box.c 5 rfl;have cm:=b4.box.f;go_upto_region 11 with fail;obtain⟨a2,p⟩:=kB (an.setCell ⟨ad,5,Xb⟩ (I6 (y.page+1)));have b0:Xo (Z.heap.size<=ad):=dD<|by have T:=ax.out;have ap:=bS ar.out;have cn:=bh.out;omega
     have a5:Xo (zc Z a2):=dD<|by rw[<-p];exact zy c2 b0.out _
     have D:Xo (zb arE (w.heap.size+1) a2 (O a4 a.length C) a):=dD<|by rw[<-p];exact bn.setOther (fun n I=>bn.ne b4 (by decide) n I) _
     have A:Xo (Box a2 ab [Xh Xc,Xh x.rd,Xh x.wr,Xh x.sh,I6 x.file,I6 x.page]):=dD<|by rw[<-p];exact bq.other (by have:=ax.out;simp;omega) _
     have ao:Xo (Box a2 ad [Xh y.is,Xh y.rd,Xh y.wr,Xh y.sh,I6 y.file,I6 (y.page+1)]):=dD<|by rw[<-p];exact b4.box.set 5 _
     rw[p];clear p cl cm ac
     cases br with
     | true=>
      obtain⟨c,k,W⟩:=l.1 rfl;have h:=zhO k;obtain⟨d,t⟩:=kB a.dropLast;rw[t]at h;have i:=dD h;have Q:Xo (J f (j+1+1) (d++ [{ c with tz:=((j+1:Nat):Int)+1 }])):=a7.out d c h (by rw[H.out];exact W)
      obtain⟨m,M⟩:=kA d.length;have B:Xo (a.length=m+1):=dD<|by rw[i.out,<-M.out];simp
      have af:Xo (a[m]? =Xa c):=dD<|by rw[i.out,<-M.out];simp
      obtain⟨n,c1,al⟩:=D.formS (by rw[B.out];omega)
      cases al;have bw:((m+1:Nat):Int) - 1=(m:Int):=by omega
      have bu:(0:Int)<=(m:Int):=by omega
      have b6:(m:Int)< ((m+1:Nat):Int):=by omega
      have bv:m+1<=64:=by have:=q.out;rw[B.out]at this;omega
      clear k W h t;rw[B.out]at D⊢;have P:Xo (a.set m { c with tz:=((j+1:Nat):Int)+1 }=d++ [{ c with tz:=((j+1:Nat):Int)+1 }]):=dD<|by rw[i.out,Yk _ _ (by rw[M.out];exact nR _),M,Yp];rfl
      go_wp2_with (first | refine zO rfl 81 (.tmp 7) rfl ad rfl ao underlying81 rfl zqP ?_ | refine zO rfl 81 (.tmp 5) rfl ab rfl A underlying81 rfl zqP ?_ | refine zw (E:=arE) rfl (.tmp 40) (.tmp 38) 3 rfl (w.heap.size+1) (O (Xa ⟨n,0,Xb⟩) (m+1) C) a D n m 1 rfl c { c with tz:=((j+1:Nat):Int)+1 } af.out [I6 (((j+1:Nat):Int)+1)] (by kernel_rfl) rfl (Xx rfl) (by intro ck b7;simp at b7;subst b7;rfl) _ rfl (by simp;rfl) _ rfl rfl ?_)
      intro b2 Y S am;have ae:=D.lt n rfl;have bd:Xo (zc Z b2):=dD<|zd a5 S (by rw[r.out];exact ae.1)
      have L:Xo ((d++ [({ c with tz:=((j+1:Nat):Int)+1 }:Ar)]).length=m+1):=dD<|by simp[M.out]
      have bo:Xo (zb arE (w.heap.size+1) b2 (.slice (Xa ⟨n,0,Xb⟩) (d++ [({ c with tz:=((j+1:Nat):Int)+1 }:Ar)]).length C) (d++ [{ c with tz:=((j+1:Nat):Int)+1 }])):=dD<|by rw[L.out,<-P.out];exact Y
      clear Y S am;rw[<-L.out];go_wp2
      go_roundg (64 -(j+1+1))
      case measure=>omega
      exact⟨j+1+1,d++ [({ c with tz:=((j+1:Nat):Int)+1 }:Ar)],Xa ⟨n,0,Xb⟩,C,by omega,by omega,by go_num,rfl,bd,bo,Q⟩
     | false=>
      have Q:Xo (J f (j+1+1) (a++ [⟨((j+1:Nat)),(((j+1:Nat)):Int)+1,x.rd,x.wr,x.sh,x.file,x.page⟩])):=dD<|by
       have:=N.out (fun c aq=>by rw[H.out];exact l.2 rfl c aq)
       rw[ah.out,H.out]at this;exact this
      go_upto_region 14 with(first | refine zO rfl 81 (.tmp 7) rfl ad rfl ao underlying81 rfl zqP ?_ | refine zO rfl 81 (.tmp 5) rfl ab rfl A underlying81 rfl zqP ?_)
      have g:Xo (w.heap.size+1<=a2.heap.size):=dD<|by rw[<-r.out];exact bS a5.out
      have b8:=A.c 1 rfl;have b9:=A.c 2 rfl;have ba:=A.c 3 rfl;have ac:=A.c 4 rfl;have bb:=A.c 5 rfl
      go_wp2_with (at_builtin;refine zt (E:=arE) rfl (.tmp 41) (.tmp 56) rfl (w.heap.size+1) _ a rfl (D.grew (za _ _)) _ [⟨((j+1:Nat):Int),((j+1:Nat):Int)+1,x.rd,x.wr,x.sh,x.file,x.page⟩] rfl (jV arE a2 ⟨((j+1:Nat):Int),((j+1:Nat):Int)+1,x.rd,x.wr,x.sh,x.file,x.page⟩ _ _ rfl (by show 40<=_;omega)) ?qb ?qc ?_)
      case qb=>
       show(a.length+1)*40<=_
       have:=q.out;omega
      case qc=>first | exact g.out | exact nT g (Oe _) | (have:=g.out;omega) | (simp;have:=g.out;omega)
      intro c5 a9 own s;obtain⟨u,z,rfl⟩:=own.form;have R:Xo (zb arE (w.heap.size+1) a9 (.slice u (a++ [(⟨((j+1:Nat):Int),((j+1:Nat):Int)+1,x.rd,x.wr,x.sh,x.file,x.page⟩:Ar)]).length z) (a++ [⟨((j+1:Nat):Int),((j+1:Nat):Int)+1,x.rd,x.wr,x.sh,x.file,x.page⟩])):=own;have a6:Xo (zc Z a9):=show zc _ _ from zT (a5.trans (za _ _)) s (fun n I=>by
       have T:=(D.lt n I).1;rw[r.out];exact T)
      have c3:=dD (b3.grew a6);clear own s b8 b9 ba ac bb;go_wp2
      go_roundg (64 -((j+1)+1))
      case measure=>omega
      exact⟨(j+1)+1,a++ [(⟨((j+1:Nat):Int),((j+1:Nat):Int)+1,x.rd,x.wr,x.sh,x.file,x.page⟩:Ar)],u,z,by omega,by omega,by go_num,rfl,a6,R,Q⟩
    rw[kF V]at a0;have ay:=fun bs=>zp1 y.is Xc y.rd x.rd y.wr x.wr y.sh x.sh y.file x.file y.page x.page bs
    have ai:Xo ((⟨Xc,x.rd,x.wr,x.sh,x.file,x.page⟩:On)=x):=dD<|by
     have a3:=az.out;rw[H.out]at a3;rw[<-a3]
    rw[ai.out,a0]at ay;obtain⟨br,bi⟩:=kA (goJ x y);rw[bi.out]at ay l;go_upto_region 11 with fail;clear ac;have a5:Xo (zc Z an):=c2;have D:Xo (zb arE (w.heap.size+1) an (O a4 a.length C) a):=bn;have A:Xo (Box an ab [Xh Xc,Xh x.rd,Xh x.wr,Xh x.sh,I6 x.file,I6 x.page]):=bq;have ao:=dD b4.box;obtain⟨a2,p⟩:=kB an;rw[p]at a5 D A ao⊢;clear p
    cases br with
    | true=>
     obtain⟨c,k,W⟩:=l.1 rfl;have h:=zhO k;obtain⟨d,t⟩:=kB a.dropLast;rw[t]at h;have i:=dD h;have Q:Xo (J f (j+1+1) (d++ [{ c with tz:=((j+1:Nat):Int)+1 }])):=a7.out d c h (by rw[H.out];exact W)
     obtain⟨m,M⟩:=kA d.length;have B:Xo (a.length=m+1):=dD<|by rw[i.out,<-M.out];simp
     have af:Xo (a[m]? =Xa c):=dD<|by rw[i.out,<-M.out];simp
     obtain⟨n,c1,al⟩:=D.formS (by rw[B.out];omega)
     cases al;have bw:((m+1:Nat):Int) - 1=(m:Int):=by omega
     have bu:(0:Int)<=(m:Int):=by omega
     have b6:(m:Int)< ((m+1:Nat):Int):=by omega
     have bv:m+1<=64:=by have:=q.out;rw[B.out]at this;omega
     clear k W h t;rw[B.out]at D⊢;have P:Xo (a.set m { c with tz:=((j+1:Nat):Int)+1 }=d++ [{ c with tz:=((j+1:Nat):Int)+1 }]):=dD<|by rw[i.out,Yk _ _ (by rw[M.out];exact nR _),M,Yp];rfl
     go_wp2_with (first | refine zO rfl 81 (.tmp 7) rfl ad rfl ao underlying81 rfl zqP ?_ | refine zO rfl 81 (.tmp 5) rfl ab rfl A underlying81 rfl zqP ?_ | refine zw (E:=arE) rfl (.tmp 40) (.tmp 38) 3 rfl (w.heap.size+1) (O (Xa ⟨n,0,Xb⟩) (m+1) C) a D n m 1 rfl c { c with tz:=((j+1:Nat):Int)+1 } af.out [I6 (((j+1:Nat):Int)+1)] (by kernel_rfl) rfl (Xx rfl) (by intro ck b7;simp at b7;subst b7;rfl) _ rfl (by simp;rfl) _ rfl rfl ?_)
     intro b2 Y S am;have ae:=D.lt n rfl;have bd:Xo (zc Z b2):=dD<|zd a5 S (by rw[r.out];exact ae.1)
     have L:Xo ((d++ [({ c with tz:=((j+1:Nat):Int)+1 }:Ar)]).length=m+1):=dD<|by simp[M.out]
     have bo:Xo (zb arE (w.heap.size+1) b2 (.slice (Xa ⟨n,0,Xb⟩) (d++ [({ c with tz:=((j+1:Nat):Int)+1 }:Ar)]).length C) (d++ [{ c with tz:=((j+1:Nat):Int)+1 }])):=dD<|by rw[L.out,<-P.out];exact Y
     clear Y S am;rw[<-L.out];go_wp2
     go_roundg (64 -(j+1+1))
     case measure=>omega
     exact⟨j+1+1,d++ [({ c with tz:=((j+1:Nat):Int)+1 }:Ar)],Xa ⟨n,0,Xb⟩,C,by omega,by omega,by go_num,rfl,bd,bo,Q⟩
    | false=>
     have Q:Xo (J f (j+1+1) (a++ [⟨((j+1:Nat)),(((j+1:Nat)):Int)+1,x.rd,x.wr,x.sh,x.file,x.page⟩])):=dD<|by
      have:=N.out (fun c aq=>by rw[H.out];exact l.2 rfl c aq)
      rw[ah.out,H.out]at this;exact this
     go_upto_region 14 with(first | refine zO rfl 81 (.tmp 7) rfl ad rfl ao underlying81 rfl zqP ?_ | refine zO rfl 81 (.tmp 5) rfl ab rfl A underlying81 rfl zqP ?_)
     have g:Xo (w.heap.size+1<=a2.heap.size):=dD<|by rw[<-r.out];exact bS a5.out
     have b8:=A.c 1 rfl;have b9:=A.c 2 rfl;have ba:=A.c 3 rfl;have ac:=A.c 4 rfl;have bb:=A.c 5 rfl
     go_wp2_with (at_builtin;refine zt (E:=arE) rfl (.tmp 41) (.tmp 56) rfl (w.heap.size+1) _ a rfl (D.grew (za _ _)) _ [⟨((j+1:Nat):Int),((j+1:Nat):Int)+1,x.rd,x.wr,x.sh,x.file,x.page⟩] rfl (jV arE a2 ⟨((j+1:Nat):Int),((j+1:Nat):Int)+1,x.rd,x.wr,x.sh,x.file,x.page⟩ _ _ rfl (by show 40<=_;omega)) ?qb ?qc ?_)
     case qb=>
      show(a.length+1)*40<=_
      have:=q.out;omega
     case qc=>first | exact g.out | exact nT g (Oe _) | (have:=g.out;omega) | (simp;have:=g.out;omega)
     intro c5 a9 own s;obtain⟨u,z,rfl⟩:=own.form;have R:Xo (zb arE (w.heap.size+1) a9 (.slice u (a++ [(⟨((j+1:Nat):Int),((j+1:Nat):Int)+1,x.rd,x.wr,x.sh,x.file,x.page⟩:Ar)]).length z) (a++ [⟨((j+1:Nat):Int),((j+1:Nat):Int)+1,x.rd,x.wr,x.sh,x.file,x.page⟩])):=own;have a6:Xo (zc Z a9):=show zc _ _ from zT (a5.trans (za _ _)) s (fun n I=>by
      have T:=(D.lt n I).1;rw[r.out];exact T)
     have c3:=dD (b3.grew a6);clear own s b8 b9 ba ac bb;go_wp2
     go_roundg (64 -((j+1)+1))
     case measure=>omega
     exact⟨(j+1)+1,a++ [(⟨((j+1:Nat):Int),((j+1:Nat):Int)+1,x.rd,x.wr,x.sh,x.file,x.page⟩:Ar)],u,z,by omega,by omega,by go_num,rfl,a6,R,Q⟩
 have b5:¬(b:Int)<64:=by omega
 have:b=64:=by omega
 subst this;have c7:=dD<|aj.all K.out;have c8:Xo (zb arE (w.heap.size+1) wr (O a4 a.length C) (QD f)):=show zb _ _ _ _ _ by rw[<-c7.out];exact bp.out
 have c6:=dD (bf.trans ar);go_wp2;go_ret;exact⟨⟨_,rfl,c8⟩,c6⟩
theorem zjW (f:Nat->On) (w:Xn) (a:ziR f):
  Xp prog 68 #[Xi (zC (tab f)).toArray] w fun e w'=>(∃u,e= Xl (Xm #[u,I6 (zim f).2])/\zb arE w.heap.size w' u (zim f).1)/\zc w w':=by
 have i:=dD<|fun W=>zcg f W a
 have c:Xo (¬16< (QD f).length->zim f=(QD f,0)):=fun h=>by unfold zim;rw[kF h]
 have b:Xo (16< (QD f).length->zim f=([],4)):=fun h=>by unfold zim;rw[kE h]
 have d:=dD<|(zdm a).len;clear a;obtain⟨a,a⟩:=kA (zim f);simp only[a.out]at c b⊢;obtain⟨l,a⟩:=kA (QD f);simp only[a.out]at c b d i;have g:Xo ((zC (tab f)).length=384):=jQ _
 generalize zC (tab f)=C at i g⊢
 obtain⟨k,a⟩:=kB (w.alloc (Xk C.toArray 82));have h:=gA a
 have m:=xA a
 have j:Xo (_=k):=a;clear a
 go_enter func68,ntmps68
 go_upto_region 1 with fail;rw[j.out]
 go_wp2_with (refine zO rfl 82 (.tmp 1) rfl w.heap.size rfl m underlying82 rfl (by rw[g.out];exact zqQ) ?_)
 refine(i k).mono ?_;rintro e a ⟨⟨u,rfl,a⟩,g⟩;obtain⟨i,i,rfl⟩:=a.form;have i:=dD (h.trans g);have j:=dD<|a.base (nT (bS h) (Oe _));clear g a;obtain⟨m,a⟩:=kA l.length;rw[a.out]at c b d j⊢;have a:m<=64:=d.out
 by_cases a:16<m
 ·have g:=kC a
  have d:=dD<|b.out a;go_wp2;refine bodyPost_ret (results_tmp2 rfl _ _ _) rfl ?_;rw[d.out];exact⟨⟨_,rfl,zb.nil _ _ _⟩,i⟩
 have g:=kD a
 have d:=dD<|c.out a;go_wp2;refine bodyPost_ret (results_tmp2 rfl _ _ _) rfl ?_;rw[d.out];exact⟨⟨_,rfl,j⟩,i⟩
theorem znf {b a:Ar} (i:Zi b) (h:Zi a):ziR (zE [b,a]):=fun k _=>⟨zfk,fun e=>by
 obtain⟨c,c,f,d,g⟩:=QB e;rw[g];have:c=b\/c=a:=by simpa using mG f
 rcases this with e|e <;> subst e
 ·exact zax i d
 exact zax h d⟩
theorem zoY {w:Xn} {ad:Addr} {n c:Nat} {b q:Ar} (h:zq arE w (O (Xa ad) n c) l) (f:l[j]? =Xa b) (g:l[j+1]? =Xa q):zq arE w (O (Xa (ad.add (j*7))) 2 (c - j)) [b,q]:=by
 obtain⟨⟨a,a,a,d,e⟩,d⟩:=h;cases a;refine⟨⟨Xa (ad.add (j*7)),c - j,rfl,fun h=>(by cases h),fun x a d u h=>?_⟩,by show 2*40<=_;omega⟩
 cases a;rw[zV];refine e ad rfl (j*7+d) u ?_;have a:(arv b++arv q)[d]? =Xa u:=by simpa [arE]using h
 by_cases e:d<7
 ·rw[Xt (by simpa [arv]using e)]at a
  exact qC (enc:=arv) (k:=7) l j b (fun _ _=>rfl) f d u a
 rw[aR (by simp[arv];omega)]at a
 have:=qC (enc:=arv) (k:=7) l (j+1) q (fun _ _=>rfl) g (d - 7) u (by simpa [arv]using a)
 rw[show(j+1)*7+(d - 7)=j*7+d by omega]at this
 exact this
theorem zjT {w:Xn} {ad:Addr} {n c:Nat} (a:j+2<=c):(Instr.sliceAt 77 (O (Xa ad) n c) (Xa (I6 (j:Int))) (Xa (I6 ((j:Int)+1+1))) Xb).run prog w= .ok (O (Xa (ad.add (j*7))) 2 (c - j)) w:=by
 have f:(Go.sizeOf 105).run prog w= .ok 7 w:=by
  obtain⟨a,b,d⟩:∃a,Tryz.prog.info? 105=Xa a/\a.size=7:=by
   have:=zqN
   cases e:Tryz.prog.info? 105 with
   | none=>rw[e]at this;cases this
   | some a=>rw[e]at this;exact⟨a,rfl,by simpa using this⟩
  simp[Go.sizeOf,typeInfo,b,d]
 have b:(0:Int)<=(j:Int)+1+1/\(j:Int)+1+1<=(c:Int):=by omega
 have d:((j:Int)+1+1).toNat=j+2:=by omega
 have a:(0:Int)<=(j:Int)/\(j:Int)<=((j+2:Nat):Int):=by omega
 have e:¬c=j:=by omega
 simp only[Instr.sliceAt,Instr.slice,Instr.sliceBounds,Instr.sliceBound,asIntOf,Xw,Xu,rA,run_underlying underlying77];rw[kE b];simp only[Xu,rA,d];rw[kE a];simp only[Xu,rA,f,tN,kF e,Option.map_some]
 congr 2
 omega
theorem zaJ (v l w) (s:zq arE w v l) (K:Cap v):
  Xp prog 53 #[v] w fun e w'=>e= Xl (Xi #[I6 (wrL l).1,I6 (wrL l).2])/\zc w w':=by
 have ah:=s.short;obtain⟨da,c,rfl,L⟩:=s.ars;have ab:=dD L;have bd:Xo (∀(q:Ar) W,Xp prog 67 #[Xi #[I6 q.fr,I6 q.tz,Xh q.rd,Xh q.wr,Xh q.sh,I6 q.file,I6 q.base]] W fun e w'=>e= Xl (I6 (arW q))/\zc W w'):=fun q W=>JN q W
 have bz:=dD s;have b7:l.length<=c:=K;have cq:=dD<|fun (b:Ar) (q:Ar) v W (s:zq arE W v [b,q]) (b5:Zi b) (bb:Zi q) (c3:b.tz<=q.fr)=>ZM v [b,q] W s (znR b5 bb c3)
 have cr:Xo (∀(b q:Ar) W,Zi b->Zi q->b.tz<=q.fr->Xp prog 95 #[Xi (zC (tab (zE [b,q]))).toArray] W fun e w'=>(∃I a0,e= Xl (.slice I (QD (zE [b,q])).length a0))/\zc W w'):=fun b q W b5 bb c3=>(zcg (zE [b,q]) W (znf b5 bb)).mono (by
  rintro e w' ⟨⟨v,rfl,cx⟩,co⟩;obtain⟨I,a0,rfl⟩:=cx.form;exact⟨⟨I,a0,rfl⟩,co⟩)
 clear L s K;have az:Xo (¬16<l.length->zbN (QK l 0) (l.drop 0) 0=wrL l):=zf4;have aw:Xo (16<l.length->wrL l=(4,0)):=fun ag=>by unfold wrL;rw[kE ag]
 have a6:Xo (∀a5,zbN (QK l l.length) (l.drop l.length) l.length=a5->a5=(0,0)):=fun a5=>zk5
 obtain⟨h,a3⟩:=kA l.length;rw[a3.out]at ah b7 bz⊢;have G:Xo (¬16<h->zbN (QK l 0) (l.drop 0) 0=wrL l):=dD<|by rw[<-a3.out];exact az.out
 have E:Xo (16<h->wrL l=(4,0)):=dD<|by rw[<-a3.out];exact aw.out
 have Q:Xo (∀a5,zbN (QK l h) (l.drop h) h=a5->a5=(0,0)):=dD<|by rw[<-a3.out];exact a6.out
 skip
 generalize cs:wrL l=M at G E⊢
 clear cs;obtain⟨b1,A⟩:=kB (w.alloc (Xk #[I6 0,I6 0] 122));have a8:=gA A
 have af:=xA A
 have ac:Xo (_=b1):=A;clear A
 by_cases d:16<h
 ·have u:=dD<|E.out d;have X:=kC d
  go_enter func53,ntmps53
  go_upto_region 1 with fail;rw[ac.out];have am:=af.c 0 rfl;have an:=af.c 1 rfl;have ao:=af.f;have x:Xo (Box ((b1.setCell ⟨w.heap.size,0,Xb⟩ (I6 4)).setCell ⟨w.heap.size,1,Xb⟩ (I6 0)) w.heap.size [I6 4,I6 0]):=dD<|(af.set 0 _).set 1 _
  have z:Xo (zc w ((b1.setCell ⟨w.heap.size,0,Xb⟩ (I6 4)).setCell ⟨w.heap.size,1,Xb⟩ (I6 0))):=dD<|zy (zy a8 (by simp) _) (by simp) _
  go_wp2;refine bodyPost_ret (zX (vs:=[I6 4,I6 0]) rfl _ rfl x underlying122 rfl zqO) rfl ⟨?_,z⟩;rw[u.out]
 have X:=kD d
 have c8:=dD<|G.out d
 go_enter func53,ntmps53
 go_upto_region 1 with fail;rw[ac.out];go_wp2
 go_loopg [12] h (fun cp bv wr=>∃f:Nat,f<=h/\h - f<=cp/\bv=I6 f/\Xo (zc w wr)/\Xo (Box wr w.heap.size [I6 0,I6 0])/\Xo (zbN (QK l f) (l.drop f) f=M)/\Xo (∀(a:Nat) q,a<f->l[a]? =Xa q->Zi q))
 case atStart=>exact⟨0,nZ _,by omega,rfl,a8,af,c8,fun a q c4=>absurd c4 (nL _)⟩
 obtain⟨f,cw,b8,rfl,au,a1,a4,c1⟩:=hrel
 by_cases V:f<h
 ·have ai:=kC V
  obtain⟨q,F⟩:∃q,Xo (l[f]? =Xa q):=⟨_,gE (by rw[a3.out];exact V)⟩
  obtain⟨g,rfl,k⟩:=ab.out f q F.out;obtain⟨ca,cb,cc,cd,ce,cf,cg⟩:=k wr au.out;have c9:=dD a1.lt;obtain⟨ar,ax⟩:=kA wr.heap.size;have a9:Xo (w.heap.size<ar):=show _<_ by rw[<-ax.out];exact c9.out
  clear k;go_upto_region 6 with fail;obtain⟨d9,p⟩:=kB (wr.alloc (Xk #[I6 q.fr,I6 q.tz,Xh q.rd,Xh q.wr,Xh q.sh,I6 q.file,I6 q.base] 105));have c7:=gT p au
  have c6:=yA p a1
  have c2:=xP p ax
  rw[p,ax.out];clear p ca cb cc cd ce cf cg
  go_wp2_with (refine zO rfl 105 (.tmp 4) rfl ar rfl c2 underlying105 rfl zqN ?_)
  refine(bd.out q _).mono ?_;rintro e m ⟨rfl,ap⟩;have i:=dD (c7.trans ap);have N:=dD (c6.grew ap);have H:=dD (c2.grew ap);clear ap;have c5:ar≠w.heap.size:=by have:=a9.out;omega
  have ba:w.heap.size≠ar:=by have:=a9.out;omega
  by_cases Y:arW q=0
  ·have ak:=dD Y;have bu:(arW q != 0)=Xd:=by simp[Y]
   have t:=dD<|Qp.1 Y;have ae:Xo (∀(a:Nat) Z,a<f+1->l[a]? =Xa Z->Zi Z):=show∀(a:Nat) Z,_ from fun a Z c4 D=>by
    by_cases e:a=f
    ·subst e;rw[F.out]at D;cases D;exact t.out
    exact c1 a Z (by omega) D
   clear Y;go_upto_region 9 with fail
   generalize arW q=db
   cases f with
   | zero=>
    have R:=dD<|zf0 a4 F ak.out;have bs:¬(0:Int)< ((0:Nat):Int):=by decide
    have bt:decide ((0:Int)< ((0:Nat):Int))=Xd:=by decide
    go_quiet (fail);go_wp2
    go_roundg (h - 1)
    case measure=>omega
    exact⟨1,by omega,by omega,by go_num,i.trans (show Below _ _ _ from bD (bR _ _) _),N.grew (show Below _ _ _ from bD (bR _ _) _),R,ae⟩
   | succ a=>
    obtain⟨b,a2⟩:∃b,Xo (l[a]? =Xa b):=⟨_,gE (by rw[a3.out];omega)⟩
    have P:Xo (Zi b):=c1.out a b (by omega) a2.out
    have bs:(0:Int)< ((a+1:Nat):Int):=by omega
    have bt:decide ((0:Int)< ((a+1:Nat):Int))=Xc:=by simp
    have cu:((a+1:Nat):Int) - 1=(a:Int):=by omega
    have cv:(a:Int)< (h:Int):=by omega
    obtain⟨b2,b4,k⟩:=ab.out a b a2.out;obtain rfl:g=b2:=by cases b4;rfl
    by_cases aq:q.fr<b.tz
    ·have u:Xo (M=(2,((a+1:Nat):Int))):=zcA a4 a2 F ak (.inl aq);have b6:decide (q.fr<b.tz)=Xc:=by simpa using aq
     obtain⟨ch,ci,cj,ck,cl,cm,cn⟩:=k m i.out;have cy:=H.c 0 rfl;clear k;go_quiet (fail);obtain⟨S,B⟩:=kB (m.drewN nq);have aj:Xo (zc w S):=dD<|by rw[<-B];exact i.trans (show Below _ _ _ from bD (bR _ _) _)
     have r:Xo (Box S w.heap.size [I6 0,I6 0]):=dD<|by rw[<-B];exact N.grew (show Below _ _ _ from bD (bR _ _) _)
     rw[B];clear B ch ci cj ck cl cm cn cy;have am:=r.c 0 rfl;have an:=r.c 1 rfl;have ao:=r.f;have x:Xo (Box ((S.setCell ⟨w.heap.size,0,Xb⟩ (I6 2)).setCell ⟨w.heap.size,1,Xb⟩ (I6 ((a+1:Nat):Int))) w.heap.size [I6 2,I6 ((a+1:Nat):Int)]):=dD<|(r.set 0 _).set 1 _
     have z:Xo (zc w ((S.setCell ⟨w.heap.size,0,Xb⟩ (I6 2)).setCell ⟨w.heap.size,1,Xb⟩ (I6 ((a+1:Nat):Int)))):=dD<|zy (zy aj (by simp) _) (by simp) _
     go_wp2;refine bodyPost_ret (zX (vs:=[I6 2,I6 ((a+1:Nat):Int)]) rfl _ rfl x underlying122 rfl zqO) rfl ⟨?_,z⟩;rw[u.out]
    have b6:decide (q.fr<b.tz)=Xd:=by simpa using aq
    have av:=dD aq;have be:=H.gw 0 rfl
    have bf:=H.gw 1 rfl
    have bg:=H.gw 2 rfl
    have bh:=H.gw 3 rfl
    have bi:=H.gw 4 rfl
    have bj:=H.gw 5 rfl
    have bk:=H.gw 6 rfl
    have bl:∀y:zl m,y.world.cell? (g.add (a*7))=Xa (I6 b.fr):=fun y=>(k _ (i.trans y.grew)).1
    have bm:∀y:zl m,y.world.cell? { block:=(g.add (a*7)).block,off:=(g.add (a*7)).off+1 }=Xa (I6 b.tz):=fun y=>(k _ (i.trans y.grew)).2.1
    have bn:∀y:zl m,y.world.cell? { block:=(g.add (a*7)).block,off:=(g.add (a*7)).off+2 }=Xa (Xh b.rd):=fun y=>(k _ (i.trans y.grew)).2.2.1
    have bo:∀y:zl m,y.world.cell? { block:=(g.add (a*7)).block,off:=(g.add (a*7)).off+3 }=Xa (Xh b.wr):=fun y=>(k _ (i.trans y.grew)).2.2.2.1
    have bp:∀y:zl m,y.world.cell? { block:=(g.add (a*7)).block,off:=(g.add (a*7)).off+4 }=Xa (Xh b.sh):=fun y=>(k _ (i.trans y.grew)).2.2.2.2.1
    have bq:∀y:zl m,y.world.cell? { block:=(g.add (a*7)).block,off:=(g.add (a*7)).off+5 }=Xa (I6 b.file):=fun y=>(k _ (i.trans y.grew)).2.2.2.2.2.1
    have br:∀y:zl m,y.world.cell? { block:=(g.add (a*7)).block,off:=(g.add (a*7)).off+6 }=Xa (I6 b.base):=fun y=>(k _ (i.trans y.grew)).2.2.2.2.2.2
    have b9:Nonempty (zl m):=⟨⟨_,zc.refl _⟩⟩;have ay:=dD<|fun W (ct:zc w W)=>zoY (bz.grew ct) a2 F.out
    have bc:=fun W=>zjT (w:=W) (ad:=g) (n:=h) (c:=c) (j:=a) (by omega)
    obtain⟨al,bx⟩:=kA ((QD (zE [b,q])).length);have b0:Xo (decide (al<2)=goB q b):=dD<|by rw[<-bx.out];exact zpS P t (by have:=av.out;omega)
    have a7:Xo (b.tz<=q.fr):=dD<|by have:=av.out;omega
    clear k;obtain⟨c0,aa⟩:=kA (zC (tab (zE [b,q])));refine jK [(19,⟨fun v=>v= Xi c0.toArray,fun _ _=>True⟩),(20,⟨fun v=>∃I a0,v= O I al a0,fun _ _=>True⟩)] zY (by kernel_rfl) ?_ ?_ ?_
    ·intro Z D
     simp at D
     rcases D with rfl|rfl
     ·exact⟨_,rfl⟩
     exact⟨O Xb al 0,Xb,0,rfl⟩
    ·intro Z D
     simp at D
     rcases D with rfl|rfl
     ·exact fun _ _ _ _ ag=>ag
     exact fun _ _ _ _ ag=>ag
    iterate 19 refine zg ?_
    refine zH rfl rfl (fun w' b8 b3=>?_) (fun cz s=>?_)
    ·refine zQ.call [O (Xa (g.add (a*7))) 2 (c - a)] rfl func22 rfl rfl rfl ?_;refine(cq.out b q _ w' (ay w' (i.trans b8)) P t a7).mono ?_;rintro e bw ⟨rfl,U⟩;exact⟨_,rfl,U,by rw[aa.out],trivial⟩
    subst s;refine Uq ?_;refine zH rfl rfl (fun w' b8 b3=>?_) (fun cz s=>?_)
    ·refine zQ.call [Xi c0.toArray] rfl func95 rfl rfl rfl ?_;rw[<-aa.out];refine(cr.out b q w' P t a7).mono ?_;rintro e bw ⟨⟨I,a0,rfl⟩,U⟩;exact⟨_,rfl,U,⟨I,a0,by rw[bx.out]⟩,trivial⟩
    obtain⟨d7,d8,rfl⟩:=s;refine Uq ?_;have X:decide ((al:Int)<2)=goB q b:=by rw[<-b0.out];exact decide_eq_decide.2 (by omega)
    iterate 4 refine zg ?_
    refine z7 fun S T b3=>?_
    have aj:=dD (i.trans T);have r:=dD (N.grew T);clear X bc T b3 be bf bg bh bi bj bk bl bm bn bo bp bq br b9
    cases C:goB q b with
    | true=>
     have u:Xo (M=(2,((a+1:Nat):Int))):=zcA a4 a2 F ak (.inr C);clear C;have am:=r.c 0 rfl;have an:=r.c 1 rfl;have ao:=r.f;have x:Xo (Box ((S.setCell ⟨w.heap.size,0,Xb⟩ (I6 2)).setCell ⟨w.heap.size,1,Xb⟩ (I6 ((a+1:Nat):Int))) w.heap.size [I6 2,I6 ((a+1:Nat):Int)]):=show Box _ _ _ from(r.set 0 _).set 1 _
     have z:Xo (zc w ((S.setCell ⟨w.heap.size,0,Xb⟩ (I6 2)).setCell ⟨w.heap.size,1,Xb⟩ (I6 ((a+1:Nat):Int)))):=dD<|zy (zy aj (by simp) _) (by simp) _
     go_wp2;refine bodyPost_ret (zX (vs:=[I6 2,I6 ((a+1:Nat):Int)]) rfl _ rfl x underlying122 rfl zqO) rfl ⟨?_,z⟩;rw[u.out]
    | false=>
     have R:=dD<|ziT a4 a2 F ak av C;clear C;go_wp2
     go_roundg (h -(a+1+1))
     case measure=>omega
     exact⟨a+1+1,by omega,by omega,by go_num,aj,r,R,ae⟩
  have u:=dD<|zk6 a4 F Y;have bu:(arW q != 0)=Xc:=by simp[Y]
  clear Y;have am:=N.c 0 rfl;have an:=N.c 1 rfl;have ao:=N.f;have x:Xo (Box ((m.setCell ⟨w.heap.size,0,Xb⟩ (I6 (arW q))).setCell ⟨w.heap.size,1,Xb⟩ (I6 (f:Int))) w.heap.size [I6 (arW q),I6 (f:Int)]):=dD<|(N.set 0 _).set 1 _
  have z:Xo (zc w ((m.setCell ⟨w.heap.size,0,Xb⟩ (I6 (arW q))).setCell ⟨w.heap.size,1,Xb⟩ (I6 (f:Int)))):=dD<|zy (zy i (by simp) _) (by simp) _
  go_wp2;refine bodyPost_ret (zX (vs:=[I6 (arW q),I6 (f:Int)]) rfl _ rfl x underlying122 rfl zqO) rfl ⟨?_,z⟩;rw[u.out]
 have ai:=kD V
 have:f=h:=by omega
 subst this;have u:=dD<|Q.out _ a4.out;have am:=a1.c 0 rfl;have an:=a1.c 1 rfl;have ao:=a1.f;have x:Xo (Box ((wr.setCell ⟨w.heap.size,0,Xb⟩ (I6 0)).setCell ⟨w.heap.size,1,Xb⟩ (I6 0)) w.heap.size [I6 0,I6 0]):=show Box _ _ _ from(a1.set 0 _).set 1 _
 have z:Xo (zc w ((wr.setCell ⟨w.heap.size,0,Xb⟩ (I6 0)).setCell ⟨w.heap.size,1,Xb⟩ (I6 0))):=dD<|zy (zy au (by simp) _) (by simp) _
 go_wp2;refine bodyPost_ret (zX (vs:=[I6 0,I6 0]) rfl _ rfl x underlying122 rfl zqO) rfl ⟨?_,z⟩;rw[u.out]
theorem zQ.allocOnes {a:Act} {w:Xn} {K:Xq->Xn->Prop} (c:o.op= .alloc 82) (h:K (Xj (Xa ⟨w.heap.size,0,Xb⟩)) (w.alloc (Xk (zC (tab fun _=>on0)).toArray 82))):zQ prog o a w K:=by
 have b:=zbf w
 generalize zC (tab fun _=>on0)=Z at b h
 unfold zQ;have:(execOp a.eval o).run prog w= .ok (.value (Xj (Xa ⟨w.heap.size,0,Xb⟩))) (w.alloc (Xk Z.toArray 82)):=by
  simp[execOp,c,go_sem,b]
 rw[this];exact h
theorem zQ.oneArea {a:Act} {w:Xn} {K:Xq->Xn->Prop} (x) (b:o.op= .buildSlice 77 1 #[(0,x)]) (q) (c:a.eval x=arA q) (h:K (O (Xa ⟨w.heap.size,0,Xb⟩) 1 1) (w.alloc (Xk (arv q).toArray 105))):zQ prog o a w K:=by
 unfold zQ;have:(execOp a.eval o).run prog w= .ok (.value (O (Xa ⟨w.heap.size,0,Xb⟩) 1 1)) (w.alloc (Xk (arv q).toArray 105)):=by
  simp only[execOp,b,List.map_toArray,mP,Yi,c]
  simp[go_sem,arA,arv]
 rw[this];exact h
theorem zQ.val {a:Act} {w:Xn} {K:Xq->Xn->Prop} {v:Xq} (b:(execOp a.eval o).run prog w= .ok (.value v) w) (h:K v w):zQ prog o a w K:=by
 unfold zQ;rw[b];exact h
theorem zls {a:Act} (x) (d:o.op= .load 105 x) (b:Nat) (e:a.eval x= Xj (Xa ⟨b,0,Xb⟩)) {q:Ar} {w:Xn} (c:Box w b (arv q)):(execOp a.eval o).run prog w= .ok (.value (arA q)) w:=by
 have:=run_loadAt_mid (P:=prog) w b 0 105 (arv q) _ c.range underlying105 rfl zqN;simp only[execOp,d,e,Xw,this,rA,Xu];rfl
def zgK:List Oper:=[
 { dst := some 23, op := .move (.tmp 0), type := 77, pos := "ref.go:325", after := #[], guard := none },
 { dst := some 24, op := .call { callee := .value (.func 22), args := #[.tmp 23], argTypes := #[77] }, type := 82, pos := "ref.go:325", after := #[{ on := 0, ground := .data }], guard := none },
 { dst := some 25, op := .load 105 (.tmp 3), type := 105, pos := "ref.go:325", after := #[], guard := none },
 { dst := some 26, op := .buildSlice 77 1 #[(0, .tmp 25)], type := 77, pos := "ref.go:325", after := #[{ on := 2, ground := .data }], guard := none },
 { dst := some 27, op := .call { callee := .value (.func 22), args := #[.tmp 26], argTypes := #[77] }, type := 82, pos := "ref.go:325", after := #[{ on := 3, ground := .data }, { on := 1, ground := .chain }], guard := none },
 { dst := some 8, op := .alloc 82, type := 0, pos := "ref.go:325", after := #[], guard := none },
 { dst := some 9, op := .alloc 82, type := 0, pos := "ref.go:325", after := #[], guard := none },
 { dst := none, op := .store 82 (.tmp 8) (.tmp 24), type := 0, pos := "ref.go:325", after := #[{ on := 5, ground := .data }, { on := 1, ground := .data }, { on := 4, ground := .chain }, { on := 0, ground := .phase }, { on := 1, ground := .phase }, { on := 2, ground := .textOnly .lateStores }, { on := 3, ground := .textOnly .lateStores }, { on := 4, ground := .textOnly .lateStoresUnsure }, { on := 5, ground := .phase }, { on := 6, ground := .phase }], guard := none },
 { dst := none, op := .store 82 (.tmp 9) (.tmp 27), type := 0, pos := "ref.go:325", after := #[{ on := 6, ground := .data }, { on := 4, ground := .data }, { on := 7, ground := .chain }, { on := 0, ground := .phase }, { on := 1, ground := .phase }, { on := 2, ground := .phase }, { on := 3, ground := .phase }, { on := 4, ground := .phase }, { on := 5, ground := .phase }, { on := 6, ground := .phase }, { on := 7, ground := .phase }], guard := none }]
theorem znN:∀c a d b e f g:Bool,(Ol .any zgK.toArray #[c,a,d,b,e,f,g,Xd,Xd]).isEmpty=Xd\/(e=Xc/\(a=Xd\/b=Xd))\/(a=Xc/\c=Xd)\/(b=Xc/\d=Xd):=by decide+kernel
theorem zlP:∀c a d b e f g:Bool,(!((!a || c) &&(!b || d) &&(!e || (a && b))) || (Ol .any zgK.toArray #[c,a,d,b,e,f,g,Xd,Xd]).all fun i=>(i == 0 && !c) || (i == 1 && !a && c) || (i == 2 && !d) || (i == 3 && !b && d) || (i == 4 && !e && a && b) || (i == 5 && !f) || (i == 6 && !g) || (i == 7 && c && a && d && b && e && f && g))=Xc:=by decide+kernel
theorem znO (l0 l1 l2 l3 l4 l5 l6:Bool) (i:Nat) (a:l1=Xc->l0=Xc) (b:l3=Xc->l2=Xc) (c:l4=Xc->l1=Xc/\l3=Xc) (hi:i∈Ol .any zgK.toArray #[l0,l1,l2,l3,l4,l5,l6,Xd,Xd]):(i=0/\l0=Xd)\/(i=1/\l1=Xd/\l0=Xc)\/(i=2/\l2=Xd)\/(i=3/\l3=Xd/\l2=Xc)\/(i=4/\l4=Xd/\l1=Xc/\l3=Xc)\/(i=5/\l5=Xd)\/(i=6/\l6=Xd)\/(i=7/\l0=Xc/\l1=Xc/\l2=Xc/\l3=Xc/\l4=Xc/\l5=Xc/\l6=Xc):=by
 have d:((!l1 || l0) &&(!l3 || l2) &&(!l4 || (l1 && l3)))=Xc:=by
  cases l0 <;> cases l1 <;> cases l2 <;> cases l3 <;> cases l4 <;> simp at a b c⊢
 have a:=zlP l0 l1 l2 l3 l4 l5 l6;rw[d,Bool.not_true,Bool.false_or]at a;have h:=Yy.1 a i hi
 simpa [and_assoc,or_assoc]using h
structure zjH (W0:Xn) (v:Xq) (q:Ar) (O1 O2 Z0:List Xq) (l0 l1 l2 l3 l4 l5 l6:Bool) (t23 t24 t25 t26 t27 t8 t9:Xq) (W:Xn):Prop where
 g:zc W0 W
 h0:l0=Xc->t23=v
 h1:l1=Xc->t24= Xi O1.toArray
 h2:l2=Xc->t25=arA q
 h3:l3=Xc->zq arE W t26 [q]
 h4:l4=Xc->t27= Xi O2.toArray
 h5:l5=Xc->∃b,t8= Xj (Xa ⟨b,0,Xb⟩)/\Box W b Z0/\W0.heap.size<=b
 h6:l6=Xc->∃b,t9= Xj (Xa ⟨b,0,Xb⟩)/\Box W b Z0/\W0.heap.size<=b
 ne:l5=Xc->l6=Xc->t8≠t9
 c1:l1=Xc->l0=Xc
 c3:l3=Xc->l2=Xc
 c4:l4=Xc->l1=Xc/\l3=Xc
section
variable{W0:Xn} {v:Xq} {q:Ar} {O1 O2 Z0:List Xq} {l0 l1 l2 l3 l4 l5 l6:Bool} {t23 t24 t25 t26 t27 t8 t9:Xq} {W W':Xn}
theorem zjH.grew (h:zjH W0 v q O1 O2 Z0 l0 l1 l2 l3 l4 l5 l6 t23 t24 t25 t26 t27 t8 t9 W) (k:zc W W'):zjH W0 v q O1 O2 Z0 l0 l1 l2 l3 l4 l5 l6 t23 t24 t25 t26 t27 t8 t9 W':=
 ⟨h.g.trans k,h.h0,h.h1,h.h2,fun e=>(h.h3 e).grew k,h.h4,fun e=>by obtain⟨b,x,y,z⟩:=h.h5 e;exact⟨b,x,y.grew k,z⟩,fun e=>by obtain⟨b,x,y,z⟩:=h.h6 e;exact⟨b,x,y.grew k,z⟩,h.ne,h.c1,h.c3,h.c4⟩
def Q7 (l0 l1 l2 l3 l4 l5 l6:Bool):Nat:=(!l0).toNat+(!l1).toNat+(!l2).toNat+(!l3).toNat+(!l4).toNat+(!l5).toNat+(!l6).toNat
theorem zkb {pa:Nat} (A:Xq->Xq->Xq->Xq->Xq->Xq->Xq->Act)
  (am:∀c d e b f i j,(A c d e b f i j).eval (.tmp 0)=v) (an:∀c d e b f i j,(A c d e b f i j).eval (.tmp 3)= Xj (Xa ⟨pa,0,Xb⟩))
  (I:∀c d e b f i j,(A c d e b f i j).eval (.tmp 23)=c) (a0:∀c d e b f i j,(A c d e b f i j).eval (.tmp 24)=d) (a1:∀c d e b f i j,(A c d e b f i j).eval (.tmp 25)=e) (a2:∀c d e b f i j,(A c d e b f i j).eval (.tmp 26)=b) (a3:∀c d e b f i j,(A c d e b f i j).eval (.tmp 27)=f) (ao:∀c d e b f i j,(A c d e b f i j).eval (.tmp 8)=i) (ap:∀c d e b f i j,(A c d e b f i j).eval (.tmp 9)=j)
  (ae:∀c d e b f i j y,(A c d e b f i j).put (Xa 23) y=A y d e b f i j) (af:∀c d e b f i j y,(A c d e b f i j).put (Xa 24) y=A c y e b f i j) (ag:∀c d e b f i j y,(A c d e b f i j).put (Xa 25) y=A c d y b f i j) (ah:∀c d e b f i j y,(A c d e b f i j).put (Xa 26) y=A c d e y f i j) (ai:∀c d e b f i j y,(A c d e b f i j).put (Xa 27) y=A c d e b y i j) (ba:∀c d e b f i j y,(A c d e b f i j).put (Xa 8) y=A c d e b f y j) (bb:∀c d e b f i j y,(A c d e b f i j).put (Xa 9) y=A c d e b f i y)
  (aj:∀c d e b f i j y,(A c d e b f i j).put Xb y=A c d e b f i j)
  (b5:zq arE W0 v l) (b2:zpP l) (ay:Zi q) (az:Box W0 pa (arv q))
  (aw:∀W B C b,B≠C->zc W0 W->Box W B (zC (tab (zE l)))->Box W C (zC (tab (zE [q])))->W0.heap.size<=B->W0.heap.size<=C->Q .normal (A v (Xi (zC (tab (zE l))).toArray) (arA q) b (Xi (zC (tab (zE [q]))).toArray) (Xj (Xa ⟨B,0,Xb⟩)) (Xj (Xa ⟨C,0,Xb⟩))) W)
  (c d e b f i j:Xq):(Code.region id zgK.toArray Xc).wp prog Q (A c d e b f i j) W0:=by
 have a6:(zC (tab (zE l))).length=384:=jQ _;have a7:(zC (tab (zE [q]))).length=384:=jQ _;have X:(zC (tab fun _=>on0)).length=384:=jQ _
 have aa:∀W,zc W0 W->Xp prog 22 #[v] W fun x m=>x= Xl (Xi (zC (tab (zE l))).toArray)/\zc W m:=fun W ax=>ZM v l W (b5.grew ax) b2
 have ab:∀W Y,zq arE W Y [q]->Xp prog 22 #[Y] W fun x m=>x= Xl (Xi (zC (tab (zE [q]))).toArray)/\zc W m:=fun W Y b4=>ZM Y [q] W b4 (znS ay)
 have ac:=Jk (tab (zE l));have ad:=Jk (tab (zE [q]));have M:∀W:Xn,Box (W.alloc (Xk (zC (tab fun _=>on0)).toArray 82)) W.heap.size (zC (tab fun _=>on0)):=fun W=>Box.top _ _ _ rfl
 generalize zC (tab (zE l))=H at*
 generalize zC (tab (zE [q]))=V at*
 have T:∀(U:Nat) (s t u w n p r:Bool) (c d e b f i j:Xq) (W:Xn),Q7 s t u w n p r=U->zjH W0 v q H V (zC (tab fun _=>on0)) s t u w n p r c d e b f i j W->wpAnyH prog .any zgK.toArray Q (fun _=>True) (U+2) #[s,t,u,w,n,p,r,Xd,Xd] (A c d e b f i j) W:=by
  intro U
  induction U with
  | zero=>
   intro s t u w n p r c d e b f i j W h g;obtain⟨rfl,rfl,rfl,rfl,rfl,rfl,rfl⟩:s=Xc/\t=Xc/\u=Xc/\w=Xc/\n=Xc/\p=Xc/\r=Xc:=by
    revert h
    unfold Q7
    cases s <;> cases t <;> cases u <;> cases w <;> cases n <;> cases p <;> cases r <;> simp
   obtain⟨B,rfl,a8,P⟩:=g.h5 rfl;obtain⟨C,rfl,a9,R⟩:=g.h6 rfl;have F:B≠C:=fun x=>g.ne rfl rfl (by rw[x])
   obtain rfl:=g.h0 rfl;obtain rfl:=g.h1 rfl;obtain rfl:=g.h2 rfl;obtain rfl:=g.h4 rfl;refine wpAnyH_all (rs:=[7]) (by kernel_rfl) (by simp) ?_
   intro b7 N;rw[Yf]at N;subst N;refine Zy Xb (fun _ m=>Box m B H/\Box m C (zC (tab fun _=>on0))/\zc W0 m) rfl rfl rfl (zQ.storeAll 82 (.tmp 8) (.tmp 24) rfl B (ao ..) H (a0 ..) a8 (by rw[a6,X]) (by rw[X];exact zqQ) ac (fun m Z K bc=>⟨Z,a9.grown K (fun x=>F x.symm),zd g.g K P⟩)) ?_
   rintro y bd ⟨ar,L,au⟩;rw[aj];refine⟨trivial,?_⟩;refine wpAnyH_all (rs:=[8]) (by kernel_rfl) (by simp) ?_
   intro b7 N;rw[Yf]at N;subst N;refine Zy Xb (fun _ m=>Box m B H/\Box m C V/\zc W0 m) rfl rfl rfl (zQ.storeAll 82 (.tmp 9) (.tmp 27) rfl C (ap ..) V (a3 ..) L (by rw[a7,X]) (by rw[X];exact zqQ) ad (fun m Z K bc=>⟨ar.grown K F,Z,zd au K R⟩)) ?_
   rintro y ak ⟨av,a4,a5⟩;rw[aj];refine⟨trivial,?_⟩;exact wpAnyH_done (by kernel_rfl) (aw ak B C _ F a5 av a4 P R) _
  | succ U G=>
   intro s t u w n p r c d e b f i j W h g;refine⟨fun aq=>?_,fun b6 b1=>?_⟩
   ·rcases znN s t u w n p r with k|⟨k,z⟩|⟨k,z⟩|⟨k,z⟩
    ·rw[aq]at k;cases k
    ·have:=g.c4 k
     rcases z with z | z
     ·rw[this.1]at z;cases z
     rw[this.2]at z;cases z
    ·rw[g.c1 k]at z;cases z
    rw[g.c3 k]at z;cases z
   rcases znO s t u w n p r b6 g.c1 g.c3 g.c4 b1 with⟨rfl,rfl⟩|⟨rfl,rfl,rfl⟩|⟨rfl,rfl⟩|⟨rfl,rfl,rfl⟩|⟨rfl,rfl,rfl,rfl⟩|⟨rfl,rfl⟩|⟨rfl,rfl⟩|⟨rfl,rfl,rfl,rfl,rfl,rfl,rfl,rfl⟩
   ·refine Zy (Xa 23) (fun y m=>y=v/\m=W) rfl rfl rfl (zQ.val (v:=v) (by rw[<-am c d e b f i j];rfl) ⟨rfl,rfl⟩) ?_
    rintro y m ⟨rfl,rfl⟩;rw[ae];refine⟨trivial,G Xc t u w n p r _ _ _ _ _ _ _ _ (by unfold Q7 at h⊢;simp at h⊢;omega) ⟨g.g,fun _=>rfl,g.h1,g.h2,g.h3,g.h4,g.h5,g.h6,g.ne,fun _=>rfl,g.c3,g.c4⟩⟩
   ·refine Zy (Xa 24) (fun y m=>y= Xi H.toArray/\zc W m) rfl rfl rfl (zQ.call [v] rfl func22 rfl rfl (by rw[mP,Yi,I,g.h0 rfl]) ((aa W g.g).mono (fun x m k=>⟨_,k.1,rfl,k.2⟩))) ?_
    rintro y m ⟨rfl,D⟩;rw[af];have a:=g.grew D;refine⟨trivial,G Xc Xc u w n p r _ _ _ _ _ _ _ _ (by unfold Q7 at h⊢;simp at h⊢;omega) ⟨a.g,a.h0,fun _=>rfl,a.h2,a.h3,a.h4,a.h5,a.h6,a.ne,fun _=>rfl,a.c3,fun k=>⟨rfl,(a.c4 k).2⟩⟩⟩
   ·refine Zy (Xa 25) (fun y m=>y=arA q/\m=W) rfl rfl rfl (zQ.val (v:=arA q) (zls (.tmp 3) rfl pa (an ..) (az.grew g.g)) ⟨rfl,rfl⟩) ?_
    rintro y m ⟨rfl,rfl⟩;rw[ag];refine⟨trivial,G s t Xc w n p r _ _ _ _ _ _ _ _ (by unfold Q7 at h⊢;simp at h⊢;omega) ⟨g.g,g.h0,g.h1,fun _=>rfl,g.h3,g.h4,g.h5,g.h6,g.ne,g.c1,fun _=>rfl,g.c4⟩⟩
   ·refine Zy (Xa 26) (fun y m=>zq arE m y [q]/\zc W m) rfl rfl rfl (zQ.oneArea (.tmp 25) rfl q (by rw[a1,g.h2 rfl]) ⟨jV arE W q _ _ rfl (by show 40<=_;omega),za _ _⟩) ?_
    rintro y m ⟨b3,D⟩;rw[ah];have a:=g.grew D;refine⟨trivial,G s t Xc Xc n p r _ _ _ _ _ _ _ _ (by unfold Q7 at h⊢;simp at h⊢;omega) ⟨a.g,a.h0,a.h1,a.h2,fun _=>b3,a.h4,a.h5,a.h6,a.ne,a.c1,fun _=>rfl,fun k=>⟨(a.c4 k).1,rfl⟩⟩⟩
   ·refine Zy (Xa 27) (fun y m=>y= Xi V.toArray/\zc W m) rfl rfl rfl (zQ.call [b] rfl func22 rfl rfl (by rw[mP,Yi,a2]) ((ab W b (g.h3 rfl)).mono (fun x m k=>⟨_,k.1,rfl,k.2⟩))) ?_
    rintro y m ⟨rfl,D⟩;rw[ai];have a:=g.grew D;refine⟨trivial,G s Xc u Xc Xc p r _ _ _ _ _ _ _ _ (by unfold Q7 at h⊢;simp at h⊢;omega) ⟨a.g,a.h0,a.h1,a.h2,a.h3,fun _=>rfl,a.h5,a.h6,a.ne,a.c1,a.c3,fun _=>⟨rfl,rfl⟩⟩⟩
   ·refine Zy (Xa 8) (fun y m=>y= Xj (Xa ⟨W.heap.size,0,Xb⟩)/\Box m W.heap.size (zC (tab fun _=>on0))/\zc W m) rfl rfl rfl (zQ.allocOnes rfl ⟨rfl,M W,za _ _⟩) ?_
    rintro y m ⟨rfl,E,D⟩;rw[ba];have a:=g.grew D;refine⟨trivial,G s t u w n Xc r _ _ _ _ _ _ _ _ (by unfold Q7 at h⊢;simp at h⊢;omega) ⟨a.g,a.h0,a.h1,a.h2,a.h3,a.h4,fun _=>⟨_,rfl,E,bS g.g⟩,a.h6,fun _ a5=>?_,a.c1,a.c3,a.c4⟩⟩
    obtain⟨al,rfl,L,_⟩:=g.h6 a5;intro x;cases x;exact absurd L.lt (Nat.lt_irrefl _)
   ·refine Zy (Xa 9) (fun y m=>y= Xj (Xa ⟨W.heap.size,0,Xb⟩)/\Box m W.heap.size (zC (tab fun _=>on0))/\zc W m) rfl rfl rfl (zQ.allocOnes rfl ⟨rfl,M W,za _ _⟩) ?_
    rintro y m ⟨rfl,E,D⟩;rw[bb];have a:=g.grew D;refine⟨trivial,G s t u w n p Xc _ _ _ _ _ _ _ _ (by unfold Q7 at h⊢;simp at h⊢;omega) ⟨a.g,a.h0,a.h1,a.h2,a.h3,a.h4,a.h5,fun _=>⟨_,rfl,E,bS g.g⟩,fun a4 _=>?_,a.c1,a.c3,a.c4⟩⟩
    obtain⟨al,rfl,L,_⟩:=g.h5 a4;intro x;cases x;exact absurd L.lt (Nat.lt_irrefl _)
   unfold Q7 at h
   simp at h
 refine wp_region_held (S:=fun _=>True) zY ?_
 have b0:zc W0 { W0 with drawn:=W0.drawn+1 }:=show Below _ _ _ from Below.drew (bR _ _)
 exact T 7 Xd Xd Xd Xd Xd Xd Xd c d e b f i j _ rfl ⟨b0,fun k=>(by cases k),fun k=>(by cases k),fun k=>(by cases k),fun k=>(by cases k),fun k=>(by cases k),fun k=>(by cases k),fun k=>(by cases k),fun k=>(by cases k),fun k=>(by cases k),fun k=>(by cases k),fun k=>(by cases k)⟩
end
def zqm (R:List Ar × Int) (w:Xn) (e:Ending) (w':Xn):Prop:=(∃u,e= Xl (Xm #[u,Xe Xf R.2])/\zb arE w.heap.size w' u R.1)/\zc w w'
def zeM (l:List Ar) (a:Ar) (k:Nat):Nat->On:=fun j=>if j<k/\ZF a j=Xc then qm a j else zE l j
theorem zop (l a):zeM l a 0=zE l:=by
 funext j
 unfold zeM;rw[kF (by omega)]
theorem zqb (l a) (k:Nat):zeM l a k k=zE l k:=by
 unfold zeM;rw[kF (by omega)]
theorem zpw {a:Ar} {k:Nat} (h:ZF a k=Xc):upd (zeM l a k) k (qm a k)=zeM l a (k+1):=by
 funext j
 unfold upd zeM
 by_cases e:j=k
 ·subst e;rw[kE rfl,kE ⟨by omega,h⟩]
 rw[kF e]
 by_cases b:j<k/\ZF a j=Xc
 ·rw[kE b,kE ⟨by omega,b.2⟩]
 rw[kF b,kF (fun c=>b ⟨by omega,c.2⟩)]
theorem zoq {a:Ar} {k:Nat} (h:ZF a k=Xd):zeM l a k=zeM l a (k+1):=by
 funext j
 unfold zeM
 by_cases b:j<k/\ZF a j=Xc
 ·rw[kE b,kE ⟨by omega,b.2⟩]
 rw[kF b]
 by_cases c:j<k+1/\ZF a j=Xc
 ·have:j=k:=by
   rcases Nat.lt_or_ge j k with d|d
   ·exact absurd ⟨d,c.2⟩ b
   omega
  rw[this,h]at c
  cases c.2
 rw[kF c]
theorem zpx (l a):tab (zeM l a 64)=tab (zh6 l a):=zoW fun k b=>by
 unfold zeM zh6
 by_cases h:ZF a k=Xc
 ·rw[kE ⟨b,h⟩,kE h]
 rw[kF (fun b=>h b.2),kF h]
theorem zoB (a) (k:Nat):zE [a] k=if ZF a k=Xc then qm a k else on0:=rfl
theorem zlE (a) (k:Nat):(zE [a] k).is=ZF a k:=by
 rw[zoB]
 cases h:ZF a k with
 | true=>rfl
 | false=>rfl
theorem zp5 {a:Ar} {k:Nat} (c:k<64) (h:ZF a k=Xc) (b:(zE l k).is=Xc):znc l a.fr (a.tz - a.fr)=Xc:=zn1.2 ⟨k,c,by have:=z4.1 h;omega,b⟩
theorem zn0 {a:Ar} (h:∀k,k<64->ZF a k=Xc->(zE l k).is=Xd):znc l a.fr (a.tz - a.fr)=Xd:=zpf.2 fun k b c=>h k b (z4.2 (by omega))
theorem zem (v l) (a:Ar) (w) (d:zq arE w v l) (b:Cap v):
  Xp prog 37 #[v,Xi #[I6 a.fr,I6 a.tz,Xh a.rd,Xh a.wr,Xh a.sh,I6 a.file,I6 a.base]] w (zqm (za6 l a) w):=by
 have x:=dD d;have A:Xo (∀W,zc w W->Xp prog 53 #[v] W fun g c=>g= Xl (Xi #[I6 (wrL l).1,I6 (wrL l).2])/\zc W c):=fun W e=>zaJ v l W (x.grew e) b
 have u:Xo (∀W,Xp prog 67 #[Xi #[I6 a.fr,I6 a.tz,Xh a.rd,Xh a.wr,Xh a.sh,I6 a.file,I6 a.base]] W fun g c=>g= Xl (I6 (arW a))/\zc W c):=fun W=>JN a W
 clear d b;obtain⟨Q,b⟩:=kB (w.alloc (Xk #[I6 a.fr,I6 a.tz,Xh a.rd,Xh a.wr,Xh a.sh,I6 a.file,I6 a.base] 105));have z:=gA b
 have a3:=xA b
 have t:Xo (_=Q):=b;clear b
 by_cases p:(wrL l).1=0
 ·rw[p]at A
  generalize(wrL l).2=I at A
  by_cases i:arW a=0
  ·rw[i]at u;have s:=dD<|Zo.1 p;have n:=dD<|Qp.1 i;have G:Xo (za6 l a=if znc l a.fr (a.tz - a.fr)=Xc then([],6)else zim (zh6 l a)):=show _=_ by unfold za6;rw[kF (fun k=>k p),kF (fun k=>k i)]
   have F:Xo (∀W,Xp prog 68 #[Xi (zC (tab (zeM l a 64))).toArray] W fun g c=>(∃a2,g= Xl (Xm #[a2,I6 (zim (zh6 l a)).2])/\zb arE W.heap.size c a2 (zim (zh6 l a)).1)/\zc W c):=fun W=>by
    rw[zpx];exact zjW (zh6 l a) W (zbq s.2 n)
   clear p i
   go_enter func37,ntmps37
   go_upto_region 1 with fail;rw[t.out];go_wp2_with fail;refine(A Q z).mono ?_;rintro g r ⟨rfl,h⟩;have C:=dD (z.trans h);have Z:=dD (a3.grew h);clear h;obtain⟨a4,f⟩:=kA r.heap.size;go_upto_region 2 with fail;obtain⟨K,c⟩:=kB (r.alloc (Xk #[I6 0,I6 I] 122));have D:=gT c C
   have B:=xP c f
   have R:=yA c Z
   rw[c,f.out];clear c;have M:=B.c 0 rfl
   go_wp2_with (refine zO rfl 105 (.tmp 3) rfl w.heap.size rfl R underlying105 rfl zqN ?_)
   refine(u K).mono ?_;rintro g a5 ⟨rfl,h⟩;have E:=dD (D.trans h);have y:=dD (R.grew h);clear h M;go_upto_region 7 with fail;refine zkb (v:=v) (q:=a) (pa:=w.heap.size) (l:=l) (fun d e j b m H L=>⟨#[_,_,_,_,_,_,_,_,H,L,_,_,_,_,_,_,_,_,_,_,_,_,_,d,e,j,b,m,_,_,_,_,_,_,_,_,_,_,_,_,_,_,_,_,_,_,_,_,_,_,_,_,_,_,_],[]⟩) (fun _ _ _ _ _ _ _=>rfl) (fun _ _ _ _ _ _ _=>rfl) (fun _ _ _ _ _ _ _=>rfl) (fun _ _ _ _ _ _ _=>rfl) (fun _ _ _ _ _ _ _=>rfl) (fun _ _ _ _ _ _ _=>rfl) (fun _ _ _ _ _ _ _=>rfl) (fun _ _ _ _ _ _ _=>rfl) (fun _ _ _ _ _ _ _=>rfl) (fun _ _ _ _ _ _ _ _=>rfl) (fun _ _ _ _ _ _ _ _=>rfl) (fun _ _ _ _ _ _ _ _=>rfl) (fun _ _ _ _ _ _ _ _=>rfl) (fun _ _ _ _ _ _ _ _=>rfl) (fun _ _ _ _ _ _ _ _=>rfl) (fun _ _ _ _ _ _ _ _=>rfl) (fun _ _ _ _ _ _ _ _=>rfl) (x.grew E) s.2.lies n y.out ?_ _ _ _ _ _ _ _
   intro H x a0 b j s d e m n;have L:=dD (E.trans s);have y:Xo (Box H x (zC (tab (zeM l a 0)))):=show Box _ _ _ by rw[zop];exact d
   have H:=dD e;have X:=dD<|nT (bS E) m;have b:a0≠x:=fun g=>j g.symm
   have V:=dD b;clear s d e m n;go_wp2
   go_loopg [28] 64 (fun e d wr=>∃b:Nat,b<=64/\64 - b<=e/\d=I6 b/\Xo (zc w wr)/\Xo (Box wr x (zC (tab (zeM l a b))))/\Xo (Box wr a0 (zC (tab (zE [a]))))/\Xo (∀j:Nat,j<b->ZF a j=Xc->(zE l j).is=Xd))
   case atStart=>exact⟨0,nZ _,by omega,rfl,L,y,H,fun j a1=>absurd a1 (nL _)⟩
   obtain⟨b,d,d,rfl,y,P,H,T⟩:=hrel
   by_cases m:b<64
   ·have N:(b:Int)<64:=by omega
    have L:=P.c (b*6) (ZZ (JL m) 0 (Xh (zE l b).is) (by rw[zqb];rfl))
    have S:=H.c (b*6) (ZZ (JL m) 0 (Xh (ZF a b)) (by rw[<-zlE];rfl))
    cases d:ZF a b with
    | true=>
     cases e:(zE l b).is with
     | true=>
      have s:Xo (za6 l a=([],6)):=dD<|by rw[G.out,zp5 m d e,kE rfl]
      rw[e]at L;rw[d]at S;clear d e;go_wp2;refine bodyPost_ret (results_tmp2 rfl _ _ _) rfl ?_;rw[s.out];exact⟨⟨_,rfl,zb.nil _ _ _⟩,y⟩
     | false=>
      have Y:Xo (upd (zeM l a b) b (qm a b)=zeM l a (b+1)):=zpw d;have W:Xo (zE [a] b=qm a b):=show _=_ by rw[zoB,kE d]
      have n:Xo (∀j:Nat,j<b+1->ZF a j=Xc->(zE l j).is=Xd):=dD<|fun j a1 k=>by
       by_cases g:j=b
       ·rw[g];exact e
       exact T j (by omega) k
      rw[e]at L;rw[d]at S;clear d e;have U:Xo (Value.agg (onv (zE [a] b)).toArray= Xi (onv (qm a b)).toArray):=dD<|by rw[W.out]
      go_wp2_with (first | refine zee rfl (.tmp 47) rfl a0 b m rfl H U.out ?_ | refine zed rfl (.tmp 49) (.tmp 48) rfl x b m rfl (qm a b) rfl P.out ?_)
      intro a0 W U a6;have m:Xo (Box a0 x (zC (tab (zeM l a (b+1))))):=dD<|by rw[<-Y.out];exact W
      have Y:=dD<|H.grown U V.out;have V:=dD<|zd y U X.out;clear W U a6 L S;go_wp2
      go_roundg (64 -(b+1))
      case measure=>omega
      exact⟨b+1,by omega,by omega,by go_num,V,m,Y,n⟩
    | false=>
     have m:Xo (Box wr x (zC (tab (zeM l a (b+1))))):=dD<|by rw[<-zoq d];exact P.out
     have n:Xo (∀j:Nat,j<b+1->ZF a j=Xc->(zE l j).is=Xd):=dD<|fun j a1 k=>by
      by_cases g:j=b
      ·rw[g,d]at k;cases k
      exact T j (by omega) k
     rw[d]at S;clear d
     cases e:(zE l b).is with
     | true=>
      rw[e]at L;clear e;go_wp2
      go_roundg (64 -(b+1))
      case measure=>omega
      exact⟨b+1,by omega,by omega,by go_num,y,m,H,n⟩
     | false=>
      rw[e]at L;clear e;go_wp2
      go_roundg (64 -(b+1))
      case measure=>omega
      exact⟨b+1,by omega,by omega,by go_num,y,m,H,n⟩
   have N:¬(b:Int)<64:=by omega
   have:b=64:=by omega
   subst this;have s:Xo (za6 l a=zim (zh6 l a)):=dD<|by rw[G.out,zn0 T.out,kF (by decide)]
   have b:Xo ((zC (tab (zeM l a 64))).length=384):=jQ _
   go_wp2_with (refine zO rfl 82 (.tmp 8) rfl x rfl P underlying82 rfl (by rw[b.out];exact zqQ) ?_)
   refine(F wr).mono ?_;rintro g b ⟨⟨a2,rfl,d⟩,b⟩;have e:=dD (y.trans b);have j:=dD<|d.base (bS y);clear b d;go_wp2;refine bodyPost_ret (results_tmp2 rfl _ _ _) rfl ?_;rw[s.out];exact⟨⟨_,rfl,j⟩,e⟩
  have b:(arW a != 0)=Xc:=by simp[i]
  have s:Xo (za6 l a=([],arW a)):=dD<|by unfold za6;rw[kF (fun k=>k p),kE i]
  clear p i
  generalize arW a=d at*
  go_enter func37,ntmps37
  go_upto_region 1 with fail;rw[t.out];go_wp2_with fail;refine(A Q z).mono ?_;rintro g r ⟨rfl,h⟩;have C:=dD (z.trans h);have Z:=dD (a3.grew h);clear h;obtain⟨a4,f⟩:=kA r.heap.size;go_upto_region 2 with fail;obtain⟨K,c⟩:=kB (r.alloc (Xk #[I6 0,I6 I] 122));have D:=gT c C
  have B:=xP c f
  have R:=yA c Z
  rw[c,f.out];clear c;have M:=B.c 0 rfl
  go_wp2_with (refine zO rfl 105 (.tmp 3) rfl w.heap.size rfl R underlying105 rfl zqN ?_)
  refine(u K).mono ?_;rintro g a5 ⟨rfl,h⟩;have E:=dD (D.trans h);clear h M;go_wp2;refine bodyPost_ret (results_tmp2 rfl _ _ _) rfl ?_;rw[s.out];exact⟨⟨_,rfl,zb.nil _ _ _⟩,E⟩
 have b:((wrL l).1 != 0)=Xc:=by simp[p]
 have s:Xo (za6 l a=([],(wrL l).1)):=dD<|by unfold za6;rw[kE p]
 clear p
 generalize(wrL l).2=I at A
 generalize(wrL l).1=d at*
 go_enter func37,ntmps37
 go_upto_region 1 with fail;rw[t.out];go_wp2_with fail;refine(A Q z).mono ?_;rintro g r ⟨rfl,h⟩;have C:=dD (z.trans h);clear h;obtain⟨a4,f⟩:=kA r.heap.size;go_upto_region 2 with fail;obtain⟨K,c⟩:=kB (r.alloc (Xk #[I6 d,I6 I] 122));have D:=gT c C
 have B:=xP c f
 rw[c,f.out];clear c;have M:=B.c 0 rfl;go_upto_region 3 with fail;go_quiet (fail);obtain⟨d,b⟩:=kB (K.drewN nq);have c:Xo (zc w d):=dD<|by rw[<-b];exact D.trans (show Below _ _ _ from bD (bR _ _) _)
 rw[b];clear b M;go_wp2;refine bodyPost_ret (results_tmp2 rfl _ _ _) rfl ?_;rw[s.out];exact⟨⟨_,rfl,zb.nil _ _ _⟩,c⟩
def Frk (w0:Xn) (hi b:Nat) (w:Xn) (vl:Sli) (L:List Int) (m:Ma) (l:List Ar) (w':Xn):Prop:=∃V' m' vt' T',Mk w0 hi w' b vl L V' m' vt' T'/\zD hi w w'/\qH m' T'/\(m'.sp=m.sp++ [⟨Xc,l,qI⟩]/\m'.fl=m.fl/\m'.hand=m.hand/\m'.fs.length=m.fs.length)
theorem ZD {α:Type} {E:Elt α} {w:Xn} {a:Act} {K:Xq->Xn->Prop} (p x t) (B:o.op= .store t p x) (base:Nat) (v:Xq) (l:List α) (b:zb E base w v l)
  (g i j:Nat) (s:v.ownBlock=Xa g) (e y:α) (hi:l[i]? =Xa e) (cs:List Xq) (A:(Tryz.prog.info? t).map (·.size)=Xa cs.length) (D:E.enc y=splice (E.enc e) j cs) (z:j+cs.length<=E.k) (k:∀u∈cs,u.oneCell'=Xc)
  (ad:Addr) (hp:a.eval p= Xj (Xa ad)) (c:ad=⟨g,i*E.k+j,Xb⟩) (f:Xq) (C:a.eval x=f) (d:f.cells=cs.toArray)
  (h:∀w',zb E base w' v (l.set i y)->w.grownBy w' (Xa g)->w'.heap.size=w.heap.size->K undef w'):zQ prog o a w K:=by
 obtain⟨w',m,n,q,r⟩:=zaH p x t B base v l b g i j s e y hi cs A D z k ad hp c f C d;exact zdG m (h w' n q r)
theorem Mk.entry {w:Xn} {c:Nat} {cs:List Xq} (h:Mk w0 hi w b vl L V m vt T) (hp:zx w c 75 cs) (f:hi<=c) (a:w.grownBy w' (Xa c)):Mk w0 hi w' b vl L V m vt T:=by
 have d:b≠c:=fun e=>by
  subst e;have c:w.heap[b]? =_:=h.box;rw[show w.heap[b]? =_ from hp]at c
  cases c
 have r:=h.rows;obtain⟨c,g,i,j,k,l,n,p,q⟩:=r.kept a hp;exact⟨zd h.gr a (nT r.bh f),h.hb,h.box.beside a (fun f e=>by cases e;exact d),h.lr,h.lc,h.lb,⟨nT r.hw a.size,r.bh,c (by decide),g (.inl (by decide)),r.slh,i (.inl (by decide)),r.sbh,r.sq,j (.inl (by decide)),r.dbh,k (by decide),l (by decide) (.inl (by decide)),n (by decide),p (by decide) (by decide),q (by decide),r.ap⟩⟩
theorem zoc {w:Xn} (s0:Sp) (j:Mk w0 hi w b vl L V m vt T) (R:qH m T) (B:m.sp=[s0]):
  Xp prog 19 #[Xj (Xa ⟨b,0,Xb⟩)] w fun e w'=>(∃v,e= Xl v)/\Frk w0 hi b w vl L m s0.ars w':=by
 have l:=dD j;have ab:=dD R;have ci:=dD B;obtain⟨z,rfl⟩:∃z,T=[z]:=Oa.1 (by rw[R.tl,B];rfl)
 obtain⟨a,n,p,s⟩:=j.rows.sp;obtain⟨c,rfl⟩:∃c,a=[c]:=Oa.1 (by rw[p,B];rfl)
 obtain⟨G,h,a⟩:=n.formS (by simp)
 have a:V.sp.x=(O (Xa ⟨G,0,Xb⟩) 1 h):=a;have q:=dD a;have a4:Xo (zb Qz w0.heap.size w (V.sp.x) [c]):=n;have M:=dD p;have a9:=dD s
 have a6:Xo (zb arE w0.heap.size w c.ar.v s0.ars):=(s 0 c s0 rfl (by rw[B];rfl)).2.1
 have Z:Xo ((wrL s0.ars).1=0):=(R.spok s0 (by rw[B];simp)).1
 have S:Xo (∀W,zb arE w0.heap.size W c.ar.v s0.ars->Xp prog 22 #[c.ar.x] W fun e w'=>e= Xl (Xi (zC (tab (zE s0.ars))).toArray)/\zc W w'):=dD<|fun W d=>ZM c.ar.v s0.ars W d.at (Zo.1 Z).2.lies
 have a8:=zbf;obtain⟨a7,d⟩:=kA (zC (tab fun _=>on0))
 rw[d.out]at a8;have a0:Xo (a7.length=384):=dD<|by rw[<-d.out,jQ]
 have W:Xo ((zC (tab (zE s0.ars))).length=384):=jQ _;have Y:Xo (∀v∈zC (tab (zE s0.ars)),v.oneCell'=Xc):=Jk _;have be:Xo (∀f,f<64->(zC (tab (zE s0.ars)))[f*6+3]? =Xa (Xh (zE s0.ars f).sh)):=show∀f,_ from fun f C=>ZZ (JL C) 3 _ rfl
 generalize zC (tab (zE s0.ars))=ag at S W Y be
 clear j R B n p s a
 go_enter func19,ntmps19
 try go_upto_region 0 with fail
 obtain⟨j,n⟩:∃j:Xn->Prop,Xo (∀a,j a↔(zx a b 58 [vl.x,V.f.x,I6 m.hand,V.s.x,V.sb.x,V.sq.x,V.db.x,V.dq.x,V.fl.x,I6 m.cnt,V.ca.x,V.sp.x,vt.x]/\zb Qz w0.heap.size a (O (Xa ⟨G,0,Xb⟩) 1 h) [c])):=⟨fun a=>(zx a b 58 [vl.x,V.f.x,I6 m.hand,V.s.x,V.sb.x,V.sq.x,V.db.x,V.dq.x,V.fl.x,I6 m.cnt,V.ca.x,V.sp.x,vt.x]/\zb Qz w0.heap.size a (O (Xa ⟨G,0,Xb⟩) 1 h) [c]),fun _=>Iff.rfl⟩
 have p:j w.drew:=(n _).2 ⟨l.box.grew (gW _),by rw[<-q.out];exact a4.grew (gW _)⟩
 have t:∀d:zh j,d.world.cell? ⟨b,11,Xb⟩=Xa (O (Xa ⟨G,0,Xb⟩) 1 h):=fun d=>by
  have:=((n _).1 d.holds).1.box.c 11 rfl;rw[q.out]at this;exact this
 have K:∀d:zh j,d.world.cell? ⟨G,1,Xb⟩=Xa (c.ar.x):=fun d=>by
  have:=((n _).1 d.holds).2.one (i:=0) (x:=c) rfl 1 _ rfl;rw[zV,Xz]at this;exact this
 have N:Nonempty (zh j):=⟨⟨_,p⟩⟩;refine zG (I:=j) 20 [(15,fun v=>∃g,v= O (Xa ⟨g,0,Xb⟩) 1 1),(16,fun v=>∃g h,v= O (Xa ⟨g,0,Xb⟩) 2 h)] (fun a=>zc w a) p (gW _) zY (by kernel_rfl) rfl rfl (by decide) ?hS (by kernel_rfl) ?_
 case hS=>
  intro x ae;simp only[mC,nM,or_false]at ae
  rcases ae with rfl|rfl
  ·exact⟨_,0,rfl⟩
  exact⟨_,0,0,rfl⟩
 simp only[Yl,Ym];iterate 2 refine ze ?_
 refine zJ (.tmp 6) ⟨b,0,Xb⟩ rfl rfl rfl rfl ?_;refine Uq ?_;iterate 4 refine ze ?_
 refine zJ (.tmp 11) ⟨b,0,Xb⟩ rfl rfl rfl rfl ?_;refine Uq ?_;iterate 7 refine ze ?_
 refine zI rfl rfl (fun v a=>zc w a/\zq Qz a v [⟨Xc,c.ar,zK,zK,zK,zK,zK,zK,zK,zK⟩]) (fun w' X U=>?_) (fun cb bt=>?_)
 ·obtain⟨bv,ax⟩:=(n _).1 X;refine zQ.step (v:= O (Xa ⟨w'.heap.size,0,Xb⟩) 1 1) (w':=w'.alloc (Xk #[Xh Xc,c.ar.x,eS,eS,eS,eS,eS,eS,eS,eS] 79)) (by clear t K;simp only[execOp];go_simp) ⟨(n _).2 ⟨bv.grew (za _ _),ax.grew (za _ _)⟩,⟨_,rfl⟩,U.trans (za _ _),jV Qz w' ⟨Xc,c.ar,zK,zK,zK,zK,zK,zK,zK,zK⟩ _ _ rfl (by decide)⟩
 obtain⟨A,rfl⟩:=bt;refine Uq ?_;refine zI rfl rfl (fun v a=>∃H,zc w H/\H.grownBy a (Xa G)/\zb Qz w0.heap.size a v [c,⟨Xc,c.ar,zK,zK,zK,zK,zK,zK,zK,zK⟩]) (fun w' X U=>?_) (fun cb bt=>?_)
 ·obtain⟨bv,ax⟩:=(n _).1 X;obtain⟨ar,bf⟩:=U;obtain⟨h,cc,s,D,h,C⟩:=qk (E:=Qz) (w:=w') 39 ax (O (Xa ⟨A,0,Xb⟩) 1 1) [⟨Xc,c.ar,zK,zK,zK,zK,zK,zK,zK,zK⟩] bf (by show(1+1)*224<=_;omega) (nT (bS l.gr) (bS ar))
  obtain⟨F,A,rfl⟩:=D.formS (by simp)
  refine zQ.step (v:= O (Xa ⟨F,0,Xb⟩) 2 A) (w':=cc) ?_ ⟨(n _).2 ⟨zx.row ax h bv (by decide),C _ [c] (nR _) ax⟩,⟨_,_,rfl⟩,w',ar,h,D⟩
  clear t K;simp only[execOp,resolve,invoke,builtin,pure_bind,Xw,Xu,List.map_toArray,mP,Yi];exact Eq.trans (congrArg (fun h=>Result.andThen h (fun Q w'=>Result.ok (Next.value Q) w')) s) rfl
 obtain⟨A,C,rfl⟩:=bt;refine Uq ?_;refine zJ (.tmp 5) ⟨b,0,Xb⟩ rfl rfl rfl rfl ?_;refine Uq ?_;iterate 2 refine ze ?_
 refine qe fun ai a5 h=>?_
 obtain⟨H,s,F,P⟩:=h;have D:=dD<|((n _).1 a5).1;have h:H.grownBy ai (V.sp.x).ownBlock:=by rw[q.out];exact F
 have ac:Xo (MkR w0.heap.size hi ai { V with sp:=⟨Xa ⟨A,0,Xb⟩,2,C⟩ } { m with sp:=m.sp++ [⟨Xc,s0.ars,qI⟩] } vt [z]):=(l.rows.grew s).addSp (a4.grew s) M (fun M x af ae B=>by
  obtain⟨H,aa,ad⟩:=a9.out M x af ae B;exact⟨H,aa.grew s,ad⟩) h ⟨Xa ⟨A,0,Xb⟩,2,C⟩ c.ar (a6.grew s) P
 have aa:=dD<|zc.row (a4.grew s) h (l.gr.trans s);have cl:Xo (zD hi w ai):=(zD.grew s).trans (zD.row (a4.grew s) h (fun ad H=>H.2.2.2.2.2.2.1 rfl))
 have a9:Xo (zb arE w0.heap.size ai c.ar.v s0.ars):=dD<|by
  obtain⟨B,B⟩:=(a4.grew s).obj (g:=G) (by rw[q.out];rfl)
  exact(a6.grew s).kind F B (by decide)
 have a4:=dD P;clear s F h P a5 p t K N;have t:=D.box.c 11 rfl;rw[q.out]at t;have bh:=D.box.f;go_upto_region 1 with fail;clear t bh;obtain⟨B,q⟩:=kB (ai.setCell ⟨b,11,Xb⟩ (O (Xa ⟨A,0,Xb⟩) 2 C));have h:ai.grownBy B (Xa b):=by rw[<-q];exact jC _ _ _ _
 have F:Xo (Mk w0 hi B b vl L { V with sp:=⟨Xa ⟨A,0,Xb⟩,2,C⟩ } { m with sp:=m.sp++ [⟨Xc,s0.ars,qI⟩] } vt [z]):=dD<|⟨zd aa h l.hb,l.hb,by rw[<-q];exact D.set 11 _,l.lr,l.lc,l.lb,ac.var h D h.size (.inl rfl)⟩
 have K:=dD<|cl.trans (zD.kind h D (fun _ H=>absurd rfl H.1))
 have G:Xo (zb arE w0.heap.size B c.ar.v s0.ars):=a9.kind h D (by decide)
 have P:Xo (zb Qz w0.heap.size B (O (Xa ⟨A,0,Xb⟩) 2 C) [c,⟨Xc,c.ar,zK,zK,zK,zK,zK,zK,zK,zK⟩]):=a4.kind h D (by decide)
 rw[q];clear q h;have s:Xo (w0.heap.size<=b/\zq byE w0 (vl.x) L/\vl.n<=vl.c/\∀aq∈L,0<=aq/\aq<256):=dD<|⟨l.hb,l.lr,l.lc,l.lb⟩
 have t:B.cell? ⟨b,11,Xb⟩=Xa (O (Xa ⟨A,0,Xb⟩) 2 C):=F.box.box.c 11 rfl;have h:B.cell? ⟨A,1,Xb⟩=Xa (c.ar.x):=by
  have:=P.one (i:=0) (x:=c) rfl 1 _ rfl;rw[zV,Xz]at this;exact this
 have c:=S.out B G.out;go_wp2_with fail;refine c.mono ?_;clear c t h;rintro e c ⟨rfl,l⟩;obtain⟨af,h⟩:=kA c.heap.size;have B:=dD (F.grew l);have t:=dD (K.trans (zD.grew l));clear l
 go_upto_region 2 with(refine z9 rfl 82 (.tmp 2) (.tmp 33) rfl c.heap.size rfl ag rfl (zx.top c a7 82 rfl) (by rw[W.out,a0.out]) (by rw[a0.out];exact zqQ) Y.out ?_)
 intro K l q D;have c:=zd (za _ _) q (nR _);have G:=dD (B.grew c);have P:=dD (t.trans (zD.grew c));rw[h.out]at l⊢;have S:=dD l;clear l q D c a8;try simp only[Yv]
 have l:=G.box.box.c 12 rfl;have c:=dD<|bS G.gr
 go_wp2_with (at_builtin;refine zt (E:=Jp) rfl (.tmp 38) (.tmp 40) rfl w0.heap.size _ [z] rfl (G.rows.tt.grew (za _ _)) _ [fun _=>en0] rfl (jV Jp K (fun _=>en0) _ _ rfl (by decide)) ?qb ?qc ?_)
 case qb=>
  show(1+1)*1536<=_
  omega
 case qc=>exact nT c (bS (za _ _))
 intro c ac B D;obtain⟨t,F,rfl⟩:=B.formS (by simp)
 have q:zb Jp w0.heap.size ac (O (Xa ⟨t,0,Xb⟩) 2 F) ([z]++ [fun _=>en0]):=B
 obtain⟨W,h⟩:=kB (K.alloc (Xk (Jp.enc (fun _=>en0)).toArray 76))
 have K:=gP h
 have c:W.grownBy ac (vt.x).ownBlock:=by rw[<-h];exact D
 clear D h B;have h:=G.grew K;have G:Xo (zx ac b 58 [vl.x,V.f.x,I6 m.hand,V.s.x,V.sb.x,V.sq.x,V.db.x,V.dq.x,V.fl.x,I6 m.cnt,V.ca.x,O (Xa ⟨A,0,Xb⟩) 2 C,vt.x]):=zx.row h.rows.tt c h.box (by decide)
 have bd:=dD<|h.rows.addT c ⟨Xa ⟨t,0,Xb⟩,2,F⟩ q
 have W:=dD<|zc.row h.rows.tt c h.gr;have bb:=dD<|(P.trans (zD.grew K)).trans (zD.row h.rows.tt c (fun ad H=>H.2.2.2.2.2.2.2.1 rfl))
 have b5:Xo (zx ac af 82 ag):=zx.row h.rows.tt c (S.grew K) (by decide)
 clear c q K l;have l:=G.box.c 12 rfl;have bh:=G.box.f;go_upto_region 3 with fail;clear l bh;obtain⟨aj,B⟩:=kB (ac.setCell ⟨b,12,Xb⟩ (O (Xa ⟨t,0,Xb⟩) 2 F));have h:ac.grownBy aj (Xa b):=by rw[<-B];exact jC _ _ _ _
 obtain⟨q,K⟩:∃q:Sli,Xo (q=⟨Xa ⟨t,0,Xb⟩,2,F⟩):=⟨_,rfl⟩;obtain⟨P,S⟩:∃P:MaV,Xo (P={ V with sp:=⟨Xa ⟨A,0,Xb⟩,2,C⟩ }):=⟨_,rfl⟩;obtain⟨D,c⟩:∃D:Ma,Xo (D={ m with sp:=m.sp++ [⟨Xc,s0.ars,qI⟩] }):=⟨_,rfl⟩;have b0:Xo (Mk w0 hi aj b vl L P D q [z,fun _=>en0]):=dD<|by
  rw[K.out,S.out,c.out];exact⟨zd W h s.1,s.1,by rw[<-B];exact G.set 12 _,s.2.1,s.2.2.1,s.2.2.2,bd.var h G h.size (.inl rfl)⟩
 have bc:=dD<|bb.trans (zD.kind h G (fun _ H=>absurd rfl H.1))
 have P9:Xo (zx aj af 82 ag):=b5.beside h (fun g e=>by
  cases e;intro e;have aw:ac.heap[af]? =_:=b5.out;rw[e,show ac.heap[b]? =_ from G.out]at aw
  cases aw)
 have H:Xo (qH D [z,fun _=>en0]):=dD<|by
  rw[c.out];exact ab.space Z (by rw[ci.out];simp)
 have S:Xo (D.sp=[s0,⟨Xc,s0.ars,qI⟩]/\D.fl=m.fl/\D.hand=m.hand/\D.fs.length=m.fs.length):=dD<|by
  rw[c.out];exact⟨by show m.sp++_=_;rw[ci.out];rfl,rfl,rfl,rfl⟩
 have c:Xo (q.x= O (Xa ⟨t,0,Xb⟩) 2 F):=dD<|by rw[K.out]
 rw[B];clear B h;have l:aj.cell? ⟨b,12,Xb⟩=Xa (O (Xa ⟨t,0,Xb⟩) 2 F):=by rw[<-c.out];exact b0.box.box.c 12 rfl
 have h:aj.rangeAt t 0 (qv (tab z)):=fun C v Z=>by
  have a8:=b0.rows.tt;(first|rw[c.out]at a8|rw[show O _ _ _=_ from c.out]at a8);have:=a8.one (i:=0) (x:=z) rfl C v Z;rw[zV,Xz]at this
  simpa using this
 go_wp2_with (refine wpList_load_mid rfl 76 (.tmp 48) rfl t 0 rfl (qv (tab z)) _ h underlying76 rfl (by rw[Qt,Q6];exact zqU) ?_)
 clear h l;have G:Xo (∀{l:Array Oper} {h:List Oper} {A:Oper} {Q:Act} {w:Xn} {B:Exit->Act->Xn->Prop} (_:A.guard=Xb) (x s:Operand) (_:A.op= .index 76 x s) (_:Q.eval x= Xi (qv (tab z)).toArray) (M:Nat) (_:Q.eval s=I6 (M:Int)) (_:M<64) {e:En} (_:z M=e)
  (_:wpList prog l B h (Q.put A.dst (Xi #[I6 e.kind,I6 e.n,Xh e.wr])) w),wpList prog l B (A :: h) Q w):=fun aw x s bp b6 M Y W _ h l=>zcU aw x s bp (tab z) b6 M Y W (by rw[JL W,h]) l
 generalize qv (tab z)=h at G⊢
 go_wp2
 go_loopg [50] 64 (fun K B wr=>∃(h:Nat) (l:Ma) (s:List (Nat->En)) (A Q:Nat->En),h<=64/\64 - h<=K/\B=I6 h/\Xo (Mk w0 hi wr b vl L P l q s)/\Xo (zD hi w wr)/\Xo (qH l s)/\Xo (l.sp=[s0,⟨Xc,s0.ars,qI⟩]/\l.fl=m.fl/\l.hand=m.hand/\l.fs.length=m.fs.length)/\Xo (s[0]? =Xa A/\s[1]? =Xa Q/\(∀C,h<=C->A C=z C/\Q C=en0))/\Xo (zx wr af 82 ag))
 case atStart=>exact⟨0,D,_,z,fun _=>en0,nZ _,by omega,rfl,b0,bc,H,S,(show _/\_ from⟨rfl,rfl,fun _ _=>⟨rfl,rfl⟩⟩),P9⟩
 obtain⟨h,l,s,A,Q,B,B,rfl,cn,cm,bj,a6,a7,a0⟩:=hrel
 by_cases M:h<64
 ·have ca:(h:Int)<64:=by omega
  obtain⟨K,S,B,c2⟩:∃K S B,Xo (z h=⟨K,S,B⟩):=⟨_,_,_,rfl⟩;have ab:Xo (A h=⟨K,S,B⟩):=dD<|by rw[(a7.2.2 h (nR _)).1];exact c2.out
  have bk:=dD<|(a7.2.2 h (nR _)).2;have ba:Xo (∀ad,(((s.set 0 (qN A h ad)).set 1 (qN Q h ad))[0]? =Xa (qN A h ad)/\((s.set 0 (qN A h ad)).set 1 (qN Q h ad))[1]? =Xa (qN Q h ad)/\(∀C,h+1<=C->qN A h ad C=z C/\qN Q h ad C=en0))):=show∀ad,_ from fun ad=>by
   have z:=(gS.1 a7.1).1;have R:=(gS.1 a7.2.1).1;refine⟨?_,?_,fun C Z=>?_⟩
   ·rw[sN (by decide)]
    exact sF z
   ·exact sF (by simpa using R)
   unfold qN;rw[kF (by omega),kF (by omega)]
   exact a7.2.2 C (by omega)
  have C:=bj.entry0 (s0:=s0) (by rw[a6.1];rfl) a7.1 M
  rw[ab.out]at C
  go_upto_region 6 with(refine G rfl (.tmp 49) (.tmp 50) rfl rfl h rfl M c2.out ?_)
  obtain⟨H,D⟩:=kA wr.heap.size;obtain⟨bm,z⟩:=kB (wr.alloc (Xk #[I6 K,I6 S,Xh B] 75));have G:=gP z
  have bz:=xPT z D
  have b4:=dD (cn.grew G);have cj:=dD (cm.trans (zD.grew G));have co:=dD (a0.grew G);have c3:Xo (hi<=H/\w.heap.size<=H):=show _/\_ by rw[<-D.out];exact⟨cn.rows.hw,cm.2⟩
  rw[z,D.out];clear z G;have c6:=bz.box.c 0 rfl
  rcases C with z|⟨f,G,aw,bp,b6⟩|⟨f,aq,aw,bp,b6,Y,W⟩
  ·cases z;have c8:((0:Int) == 1)=Xd:=by decide
   have c9:((0:Int) == 2)=Xd:=by decide
   go_upto_region 12 with fail;obtain⟨j,n⟩:∃j:Xn->Prop,Xo (∀a,j a↔(a.cell? ⟨b,12,Xb⟩=Xa (O (Xa ⟨t,0,Xb⟩) 2 F)/\zx a H 75 [I6 0,I6 0,Xh Xd]/\zx a af 82 ag)):=⟨fun a=>(a.cell? ⟨b,12,Xb⟩=Xa (O (Xa ⟨t,0,Xb⟩) 2 F)/\zx a H 75 [I6 0,I6 0,Xh Xd]/\zx a af 82 ag),fun _=>Iff.rfl⟩
   have R:Xo (∀a l s,Mk w0 hi a b vl L P l q s->a.cell? ⟨b,12,Xb⟩=Xa (O (Xa ⟨t,0,Xb⟩) 2 F)):=dD<|fun a l s br=>by
    have:=br.box.box.c 12 rfl;(first|rw[c.out]at this|rw[show O _ _ _=_ from c.out]at this);exact this
   have p:j bm.drew:=(n _).2 ⟨R _ _ _ (b4.grew (gW _)),bz.grew (gW _),co.grew (gW _)⟩
   have W:Mk w0 hi bm.drew b vl L P l q s/\zD hi w bm.drew:=⟨b4.grew (gW _),cj.trans (zD.grew (gW _))⟩
   have bs:∀d:zh j,d.world.cell? ⟨b,12,Xb⟩=Xa (O (Xa ⟨t,0,Xb⟩) 2 F):=fun d=>((n _).1 d.holds).1
   have am:∀d:zh j,d.world.cell? ⟨H,0,Xb⟩=Xa (I6 0):=fun d=>((n _).1 d.holds).2.1.box.c 0 rfl
   have a4:∀d:zh j,d.world.cell? ⟨H,1,Xb⟩=Xa (I6 0):=fun d=>((n _).1 d.holds).2.1.box.c 1 rfl
   have an:∀d:zh j,d.world.cell? ⟨H,2,Xb⟩=Xa (Xh Xd):=fun d=>((n _).1 d.holds).2.1.box.c 2 rfl
   have N:Nonempty (zh j):=⟨⟨_,p⟩⟩;refine zG (I:=j) 17 [(14,fun _=>True)] (fun a=>Mk w0 hi a b vl L P l q s/\zD hi w a) p W zY (by kernel_rfl) rfl rfl (by decide) ?hS (by kernel_rfl) ?_
   case hS=>
    intro x ae;simp only[mC,nM,or_false]at ae;subst ae;exact⟨undef,trivial⟩
   simp only[Yl,Ym];refine ze ?_
   refine zJ (.tmp 91) ⟨b,0,Xb⟩ rfl rfl rfl rfl ?_;refine Uq ?_;iterate 4 refine ze ?_
   refine zJ (.tmp 96) ⟨b,0,Xb⟩ rfl rfl rfl rfl ?_;refine Uq ?_;iterate 7 refine ze ?_
   refine zI rfl rfl (fun _ a=>Mk w0 hi a b vl L P l q (s.set 0 (qN A h ⟨0,0,Xd⟩))/\zD hi w a) (fun w' X U=>?_) (fun cb bt=>?_)
   ·obtain⟨bv,ax,bw⟩:=(n _).1 X;obtain⟨ar,bf⟩:=U;have a8:=ar.rows.tt;(first|rw[c.out]at a8|rw[show O _ _ _=_ from c.out]at a8);refine ZD (E:=Jp) (.tmp 104) (.tmp 101) 75 rfl w0.heap.size (O (Xa ⟨t,0,Xb⟩) 2 F) s a8 t 0 (h*3) rfl A (qN A h ⟨0,0,Xd⟩) a7.1 (env ⟨0,0,Xd⟩) (by kernel_rfl) (jS A M _) (by show h*3+3<=192;omega) (enE.one _) _ rfl (by first | rfl | simp) (Xi (env ⟨0,0,Xd⟩).toArray) rfl rfl (fun cc b2 bo bx=>?_)
    rw[<-c.out]at b2;have Z:=ar.setT (by (first|rw[c.out]|rw[show O _ _ _=_ from c.out]);rfl) bo bx b2
    exact⟨(n _).2 ⟨R _ _ _ Z.1,Z.2.1 _ _ _ ax Jg,Z.2.1 _ _ _ bw ZT⟩,trivial,Z.1,bf.trans Z.2⟩
   try simp only[Yv]
   iterate 2 refine ze ?_
   refine qe fun ac Y C=>?_
   have az:=dD C.1;have bb:=dD C.2;have b5:=dD<|((n _).1 Y).2.2;clear C Y p W bs am a4 an N;have bd:Xo (zb Jp w0.heap.size ac (O (Xa ⟨t,0,Xb⟩) 2 F) (s.set 0 (qN A h ⟨0,0,Xd⟩))):=show zb _ _ _ _ _ by rw[<-c.out];exact az.rows.tt
   refine zw (E:=Jp) rfl (.tmp 106) (.tmp 102) 75 rfl w0.heap.size _ _ bd t 1 (h*3) rfl Q (qN Q h ⟨0,0,Xd⟩) (by rw[sN (by decide)];exact a7.2.1) (env ⟨0,0,Xd⟩) (by kernel_rfl) (jS Q M _) (by show h*3+3<=192;omega) (enE.one _) _ rfl (by first | rfl | simp) (Xi (env ⟨0,0,Xd⟩).toArray) rfl rfl ?_
   intro aj D S a5;rw[<-c.out]at D;have z:=az.setT (by (first|rw[c.out]|rw[show O _ _ _=_ from c.out]);rfl) S a5 D
   have b0:Xo (Mk w0 hi aj b vl L P l q ((s.set 0 (qN A h ⟨0,0,Xd⟩)).set 1 (qN Q h ⟨0,0,Xd⟩))):=z.1;have bc:Xo (zD hi w aj):=bb.trans z.2;have P9:Xo (zx aj af 82 ag):=z.2.1 _ _ _ b5 ZT;have bi:Xo (qH l ((s.set 0 (qN A h ⟨0,0,Xd⟩)).set 1 (qN Q h ⟨0,0,Xd⟩))):=(show qH _ _ by
    have:=zmj a7.1 a7.2.1 ab bk.out;rw[show(⟨0,0,Xd⟩:En)=en0 from rfl,this]
    exact bj)
   clear z D S a5;go_wp2
   go_roundg (64 -(h+1))
   case measure=>omega
   exact⟨h+1,l,_,_,_,by omega,by omega,by go_num,b0,bc,bi,(show _/\_ from a6.out),ba _,P9⟩
  ·dsimp only at aw bp;subst aw;subst bp;have b3:=dD b6;obtain⟨K,K⟩:=bj.refs b6;obtain⟨bg,ah⟩:=kA l.fs.length;have cu:f<bg:=by rw[<-ah.out];exact(gS.1 b6).1
   have cv:(f:Int)< (bg:Int):=by omega
   clear b6;have c8:((1:Int) == 1)=Xc:=by decide
   have c9:((1:Int) == 2)=Xd:=by decide
   obtain⟨g,c5,ao⟩:=b4.rows.fs.formS (by rw[ah.out];omega)
   rw[ah.out]at ao;have K:Xo (P.f.x= O (Xa ⟨g,0,Xb⟩) bg c5):=ao;have a9:=b4.rows.fs;(first|rw[K.out]at a9|rw[show O _ _ _=_ from K.out]at a9);have ay:=dD a9;clear a9 ao;go_upto_region 7 with fail;clear c6;obtain⟨j,n⟩:∃j:Xn->Prop,Xo (∀a,j a↔zc bm a):=⟨fun a=>zc bm a,fun _=>Iff.rfl⟩
   have p:=(n _).2 (gW _)
   have bu:∀d:zh j,d.world.cell? ⟨b,1,Xb⟩=Xa (O (Xa ⟨g,0,Xb⟩) bg c5):=fun d=>by rw[<-K.out];exact(b4.box.box.grew ((n _).1 d.holds)).c 1 rfl
   have a4:∀d:zh j,d.world.cell? ⟨H,1,Xb⟩=Xa (I6 (f:Int)):=fun d=>(bz.box.grew ((n _).1 d.holds)).c 1 rfl
   have bq:∀d:zh j,d.world.cell? ⟨g,f*13+8,Xb⟩=Xa (I6 G.r):=fun d=>by
    have:=(ay.grew ((n _).1 d.holds)).one b3 8 _ rfl;rw[zV,Xz,zA]at this;exact this
   have N:Nonempty (zh j):=⟨⟨_,p⟩⟩;refine QS (I:=j) 14 [] p zY (by kernel_rfl) rfl rfl (by decide) (by simp) (by kernel_rfl) ?_
   simp only[Yl,Ym];refine qE ?_
   refine zdl (.tmp 57) ⟨b,0,Xb⟩ rfl rfl rfl rfl ?_;refine Uq ?_;iterate 12 refine qE ?_
   refine zcD fun bn b1 cr=>?_
   have av:=(n _).1 b1;have ce:=dD (b4.grew av);have ck:=dD (cj.trans (zD.grew av));have ch:=dD (bz.grew av);have cp:=dD (co.grew av);have bl:=dD (ay.grew av);clear av b1 cr bu a4 bq N p;have bh:=bl.unfrozen rfl;have cq:bn.cell? ⟨g,f*13+8,Xb⟩=Xa (I6 G.r):=by
    have:=bl.one b3 8 _ rfl;rw[zV,Xz,zA]at this;exact this
   go_upto_region 8 with fail;clear cq bh;obtain⟨aa,ak,ap⟩:=bl.cell (k:=f) (o:=8) rfl b3 (y:={ G with r:=G.r+1 }) (u:=I6 (G.r+1)) rfl (by decide)
   obtain⟨au,al⟩:=kB (bn.setCell ⟨g,f*13+8,Xb⟩ (I6 (G.r+1)));have c7:bn.setCell ⟨g,f*JR.k+8,Xb⟩ (I6 (G.r+1))=au:=al;rw[c7]at aa ak ap;rw[al];rw[<-K.out]at aa;have a0:=ce.setF (by (first|rw[K.out]|rw[show O _ _ _=_ from K.out]);rfl) ak ap aa (ce.rows.ap.2.inc bj b3)
   have c0:=dD a0.1;have cd:=dD<|ck.trans a0.2;have b8:=dD<|a0.2.1 _ _ _ ch Jg;have c1:=dD<|a0.2.1 _ _ _ cp ZT;clear c7 al aa ak ap a0;have b9:Xo (∀ad,ad=(if(zE s0.ars h).sh=Xc then(⟨1,(f:Int),B⟩:En)else⟨1,(f:Int),Xd⟩)->qH { l with fs:=l.fs.set f { G with r:=G.r+1 } } ((s.set 0 (qN A h ad)).set 1 (qN Q h ad))):=show∀ad,_ from fun ad ad=>bj.forkP (s0:=s0) (s1:=⟨Xc,s0.ars,qI⟩) (by rw[a6.1];rfl) (by rw[a6.1];rfl) rfl a7.1 a7.2.1 M bk b3 (by rw[ab.out]) (by rw[ab.out]) (by rw[ab.out];exact ad)
   have cg:=c1.box.c _ (be h M);have c6:=b8.box.c 0 rfl
   cases ad:(zE s0.ars h).sh with
   | true=>
    rw[ad]at cg b9;clear ad;go_upto_region 10 with fail;clear cg;go_upto_region 12 with fail;obtain⟨j,n⟩:∃j:Xn->Prop,Xo (∀a,j a↔(a.cell? ⟨b,12,Xb⟩=Xa (O (Xa ⟨t,0,Xb⟩) 2 F)/\zx a H 75 [I6 1,I6 (f:Int),Xh B]/\zx a af 82 ag)):=⟨fun a=>(a.cell? ⟨b,12,Xb⟩=Xa (O (Xa ⟨t,0,Xb⟩) 2 F)/\zx a H 75 [I6 1,I6 (f:Int),Xh B]/\zx a af 82 ag),fun _=>Iff.rfl⟩
    have R:Xo (∀a l s,Mk w0 hi a b vl L P l q s->a.cell? ⟨b,12,Xb⟩=Xa (O (Xa ⟨t,0,Xb⟩) 2 F)):=dD<|fun a l s br=>by
     have:=br.box.box.c 12 rfl;(first|rw[c.out]at this|rw[show O _ _ _=_ from c.out]at this);exact this
    have p:j au.drew:=(n _).2 ⟨R _ _ _ (c0.grew (gW _)),b8.grew (gW _),c1.grew (gW _)⟩
    have W:Mk w0 hi au.drew b vl L P { l with fs:=l.fs.set f { G with r:=G.r+1 } } q s/\zD hi w au.drew:=⟨c0.grew (gW _),cd.trans (zD.grew (gW _))⟩
    have bs:∀d:zh j,d.world.cell? ⟨b,12,Xb⟩=Xa (O (Xa ⟨t,0,Xb⟩) 2 F):=fun d=>((n _).1 d.holds).1
    have am:∀d:zh j,d.world.cell? ⟨H,0,Xb⟩=Xa (I6 1):=fun d=>((n _).1 d.holds).2.1.box.c 0 rfl
    have a4:∀d:zh j,d.world.cell? ⟨H,1,Xb⟩=Xa (I6 (f:Int)):=fun d=>((n _).1 d.holds).2.1.box.c 1 rfl
    have an:∀d:zh j,d.world.cell? ⟨H,2,Xb⟩=Xa (Xh B):=fun d=>((n _).1 d.holds).2.1.box.c 2 rfl
    have N:Nonempty (zh j):=⟨⟨_,p⟩⟩;refine zG (I:=j) 17 [(14,fun _=>True)] (fun a=>Mk w0 hi a b vl L P { l with fs:=l.fs.set f { G with r:=G.r+1 } } q s/\zD hi w a) p W zY (by kernel_rfl) rfl rfl (by decide) ?hS (by kernel_rfl) ?_
    case hS=>
     intro x ae;simp only[mC,nM,or_false]at ae;subst ae;exact⟨undef,trivial⟩
    simp only[Yl,Ym];refine ze ?_
    refine zJ (.tmp 91) ⟨b,0,Xb⟩ rfl rfl rfl rfl ?_;refine Uq ?_;iterate 4 refine ze ?_
    refine zJ (.tmp 96) ⟨b,0,Xb⟩ rfl rfl rfl rfl ?_;refine Uq ?_;iterate 7 refine ze ?_
    refine zI rfl rfl (fun _ a=>Mk w0 hi a b vl L P { l with fs:=l.fs.set f { G with r:=G.r+1 } } q (s.set 0 (qN A h ⟨1,(f:Int),B⟩))/\zD hi w a) (fun w' X U=>?_) (fun cb bt=>?_)
    ·obtain⟨bv,ax,bw⟩:=(n _).1 X;obtain⟨ar,bf⟩:=U;have a8:=ar.rows.tt;(first|rw[c.out]at a8|rw[show O _ _ _=_ from c.out]at a8);refine ZD (E:=Jp) (.tmp 104) (.tmp 101) 75 rfl w0.heap.size (O (Xa ⟨t,0,Xb⟩) 2 F) s a8 t 0 (h*3) rfl A (qN A h ⟨1,(f:Int),B⟩) a7.1 (env ⟨1,(f:Int),B⟩) (by kernel_rfl) (jS A M _) (by show h*3+3<=192;omega) (enE.one _) _ rfl (by first | rfl | simp) (Xi (env ⟨1,(f:Int),B⟩).toArray) rfl rfl (fun cc b2 bo bx=>?_)
     rw[<-c.out]at b2;have Z:=ar.setT (by (first|rw[c.out]|rw[show O _ _ _=_ from c.out]);rfl) bo bx b2
     exact⟨(n _).2 ⟨R _ _ _ Z.1,Z.2.1 _ _ _ ax Jg,Z.2.1 _ _ _ bw ZT⟩,trivial,Z.1,bf.trans Z.2⟩
    try simp only[Yv]
    iterate 2 refine ze ?_
    refine qe fun ac Y C=>?_
    have az:=dD C.1;have bb:=dD C.2;have b5:=dD<|((n _).1 Y).2.2;clear C Y p W bs am a4 an N;have bd:Xo (zb Jp w0.heap.size ac (O (Xa ⟨t,0,Xb⟩) 2 F) (s.set 0 (qN A h ⟨1,(f:Int),B⟩))):=show zb _ _ _ _ _ by rw[<-c.out];exact az.rows.tt
    refine zw (E:=Jp) rfl (.tmp 106) (.tmp 102) 75 rfl w0.heap.size _ _ bd t 1 (h*3) rfl Q (qN Q h ⟨1,(f:Int),B⟩) (by rw[sN (by decide)];exact a7.2.1) (env ⟨1,(f:Int),B⟩) (by kernel_rfl) (jS Q M _) (by show h*3+3<=192;omega) (enE.one _) _ rfl (by first | rfl | simp) (Xi (env ⟨1,(f:Int),B⟩).toArray) rfl rfl ?_
    intro aj D S a5;rw[<-c.out]at D;have z:=az.setT (by (first|rw[c.out]|rw[show O _ _ _=_ from c.out]);rfl) S a5 D
    have b0:=dD z.1;have bc:=dD<|bb.trans z.2;have P9:=dD<|z.2.1 _ _ _ b5 ZT;have bi:=dD<|(show qH _ _ from b9.out _ (kE rfl).symm)
    clear z D S a5;go_wp2
    go_roundg (64 -(h+1))
    case measure=>omega
    exact⟨h+1,{ l with fs:=l.fs.set f { G with r:=G.r+1 } },_,_,_,by omega,by omega,by go_num,b0,bc,bi,(show _/\_ from⟨a6.1,a6.2.1,a6.2.2.1,List.length_set.trans a6.2.2.2⟩),ba _,P9⟩
   | false=>
    rw[ad]at cg b9;clear ad;have ad:=b8.box.c 2 rfl;have bh:=b8.box.f;go_upto_region 10 with fail;clear cg c6 ad bh;obtain⟨ai,ad⟩:=kB (au.setCell ⟨H,2,Xb⟩ (Xh Xd));have be:au.grownBy ai (Xa H):=by rw[<-ad];exact jC _ _ _ _
    have cg:Xo (zx ai H 75 [I6 1,I6 (f:Int),Xh Xd]):=dD<|by rw[<-ad];exact b8.set 2 _
    have cw:Xo (Mk w0 hi ai b vl L P { l with fs:=l.fs.set f { G with r:=G.r+1 } } q s):=c0.entry b8 c3.1 be;have cl:Xo (zD hi w ai):=cd.own be c3.2;have c3:Xo (zx ai af 82 ag):=c1.beside be (fun g e=>by
     cases e;intro e;have aw:au.heap[af]? =_:=c1.out;rw[e,show au.heap[H]? =_ from b8.out]at aw
     cases aw)
    rw[ad];clear ad be;have c6:=cg.box.c 0 rfl;go_upto_region 12 with fail;obtain⟨j,n⟩:∃j:Xn->Prop,Xo (∀a,j a↔(a.cell? ⟨b,12,Xb⟩=Xa (O (Xa ⟨t,0,Xb⟩) 2 F)/\zx a H 75 [I6 1,I6 (f:Int),Xh Xd]/\zx a af 82 ag)):=⟨fun a=>(a.cell? ⟨b,12,Xb⟩=Xa (O (Xa ⟨t,0,Xb⟩) 2 F)/\zx a H 75 [I6 1,I6 (f:Int),Xh Xd]/\zx a af 82 ag),fun _=>Iff.rfl⟩
    have R:Xo (∀a l s,Mk w0 hi a b vl L P l q s->a.cell? ⟨b,12,Xb⟩=Xa (O (Xa ⟨t,0,Xb⟩) 2 F)):=dD<|fun a l s br=>by
     have:=br.box.box.c 12 rfl;(first|rw[c.out]at this|rw[show O _ _ _=_ from c.out]at this);exact this
    have p:j ai.drew:=(n _).2 ⟨R _ _ _ (cw.grew (gW _)),cg.grew (gW _),c3.grew (gW _)⟩
    have W:Mk w0 hi ai.drew b vl L P { l with fs:=l.fs.set f { G with r:=G.r+1 } } q s/\zD hi w ai.drew:=⟨cw.grew (gW _),cl.trans (zD.grew (gW _))⟩
    have bs:∀d:zh j,d.world.cell? ⟨b,12,Xb⟩=Xa (O (Xa ⟨t,0,Xb⟩) 2 F):=fun d=>((n _).1 d.holds).1
    have am:∀d:zh j,d.world.cell? ⟨H,0,Xb⟩=Xa (I6 1):=fun d=>((n _).1 d.holds).2.1.box.c 0 rfl
    have a4:∀d:zh j,d.world.cell? ⟨H,1,Xb⟩=Xa (I6 (f:Int)):=fun d=>((n _).1 d.holds).2.1.box.c 1 rfl
    have an:∀d:zh j,d.world.cell? ⟨H,2,Xb⟩=Xa (Xh Xd):=fun d=>((n _).1 d.holds).2.1.box.c 2 rfl
    have N:Nonempty (zh j):=⟨⟨_,p⟩⟩;refine zG (I:=j) 17 [(14,fun _=>True)] (fun a=>Mk w0 hi a b vl L P { l with fs:=l.fs.set f { G with r:=G.r+1 } } q s/\zD hi w a) p W zY (by kernel_rfl) rfl rfl (by decide) ?hS (by kernel_rfl) ?_
    case hS=>
     intro x ae;simp only[mC,nM,or_false]at ae;subst ae;exact⟨undef,trivial⟩
    simp only[Yl,Ym];refine ze ?_
    refine zJ (.tmp 91) ⟨b,0,Xb⟩ rfl rfl rfl rfl ?_;refine Uq ?_;iterate 4 refine ze ?_
    refine zJ (.tmp 96) ⟨b,0,Xb⟩ rfl rfl rfl rfl ?_;refine Uq ?_;iterate 7 refine ze ?_
    refine zI rfl rfl (fun _ a=>Mk w0 hi a b vl L P { l with fs:=l.fs.set f { G with r:=G.r+1 } } q (s.set 0 (qN A h ⟨1,(f:Int),Xd⟩))/\zD hi w a) (fun w' X U=>?_) (fun cb bt=>?_)
    ·obtain⟨bv,ax,bw⟩:=(n _).1 X;obtain⟨ar,bf⟩:=U;have a8:=ar.rows.tt;(first|rw[c.out]at a8|rw[show O _ _ _=_ from c.out]at a8);refine ZD (E:=Jp) (.tmp 104) (.tmp 101) 75 rfl w0.heap.size (O (Xa ⟨t,0,Xb⟩) 2 F) s a8 t 0 (h*3) rfl A (qN A h ⟨1,(f:Int),Xd⟩) a7.1 (env ⟨1,(f:Int),Xd⟩) (by kernel_rfl) (jS A M _) (by show h*3+3<=192;omega) (enE.one _) _ rfl (by first | rfl | simp) (Xi (env ⟨1,(f:Int),Xd⟩).toArray) rfl rfl (fun cc b2 bo bx=>?_)
     rw[<-c.out]at b2;have Z:=ar.setT (by (first|rw[c.out]|rw[show O _ _ _=_ from c.out]);rfl) bo bx b2
     exact⟨(n _).2 ⟨R _ _ _ Z.1,Z.2.1 _ _ _ ax Jg,Z.2.1 _ _ _ bw ZT⟩,trivial,Z.1,bf.trans Z.2⟩
    try simp only[Yv]
    iterate 2 refine ze ?_
    refine qe fun ac Y C=>?_
    have az:=dD C.1;have bb:=dD C.2;have b5:=dD<|((n _).1 Y).2.2;clear C Y p W bs am a4 an N;have bd:Xo (zb Jp w0.heap.size ac (O (Xa ⟨t,0,Xb⟩) 2 F) (s.set 0 (qN A h ⟨1,(f:Int),Xd⟩))):=show zb _ _ _ _ _ by rw[<-c.out];exact az.rows.tt
    refine zw (E:=Jp) rfl (.tmp 106) (.tmp 102) 75 rfl w0.heap.size _ _ bd t 1 (h*3) rfl Q (qN Q h ⟨1,(f:Int),Xd⟩) (by rw[sN (by decide)];exact a7.2.1) (env ⟨1,(f:Int),Xd⟩) (by kernel_rfl) (jS Q M _) (by show h*3+3<=192;omega) (enE.one _) _ rfl (by first | rfl | simp) (Xi (env ⟨1,(f:Int),Xd⟩).toArray) rfl rfl ?_
    intro aj D S a5;rw[<-c.out]at D;have z:=az.setT (by (first|rw[c.out]|rw[show O _ _ _=_ from c.out]);rfl) S a5 D
    have b0:=dD z.1;have bc:=dD<|bb.trans z.2;have P9:=dD<|z.2.1 _ _ _ b5 ZT;have bi:Xo (qH { l with fs:=l.fs.set f { G with r:=G.r+1 } } ((s.set 0 (qN A h ⟨1,(f:Int),Xd⟩)).set 1 (qN Q h ⟨1,(f:Int),Xd⟩))):=(show qH _ _ from b9.out _ (kF (by decide)).symm)
    clear z D S a5;go_wp2
    go_roundg (64 -(h+1))
    case measure=>omega
    exact⟨h+1,{ l with fs:=l.fs.set f { G with r:=G.r+1 } },_,_,_,by omega,by omega,by go_num,b0,bc,bi,(show _/\_ from⟨a6.1,a6.2.1,a6.2.2.1,List.length_set.trans a6.2.2.2⟩),ba _,P9⟩
  dsimp only at aw bp;subst aw;subst bp;have b3:=dD b6;obtain⟨bg,ah⟩:=kA l.sl.length;have cu:f<bg:=by rw[<-ah.out];exact(gS.1 b6).1
  have cv:(f:Int)< (bg:Int):=by omega
  clear b6;have c8:((2:Int) == 1)=Xd:=by decide
  have c9:((2:Int) == 2)=Xc:=by decide
  obtain⟨g,c5,ao⟩:=b4.rows.sl.formS (by rw[ah.out];omega)
  rw[ah.out]at ao;have K:Xo (P.s.x= O (Xa ⟨g,0,Xb⟩) bg c5):=ao;have a9:=b4.rows.sl;(first|rw[K.out]at a9|rw[show O _ _ _=_ from K.out]at a9);have ay:=dD a9;clear a9 ao;go_upto_region 11 with fail;clear c6;obtain⟨j,n⟩:∃j:Xn->Prop,Xo (∀a,j a↔zc bm a):=⟨fun a=>zc bm a,fun _=>Iff.rfl⟩
  have p:=(n _).2 (gW _)
  have bu:∀d:zh j,d.world.cell? ⟨b,3,Xb⟩=Xa (O (Xa ⟨g,0,Xb⟩) bg c5):=fun d=>by rw[<-K.out];exact(b4.box.box.grew ((n _).1 d.holds)).c 3 rfl
  have a4:∀d:zh j,d.world.cell? ⟨H,1,Xb⟩=Xa (I6 (f:Int)):=fun d=>(bz.box.grew ((n _).1 d.holds)).c 1 rfl
  have bq:∀d:zh j,d.world.cell? ⟨g,f,Xb⟩=Xa (I6 aq):=fun d=>by
   have:=(ay.grew ((n _).1 d.holds)).one b3 0 _ rfl;rw[zV,Xz,zA]at this
   simpa [slE,Nat.mul_one]using this
  have N:Nonempty (zh j):=⟨⟨_,p⟩⟩;refine QS (I:=j) 11 [] p zY (by kernel_rfl) rfl rfl (by decide) (by simp) (by kernel_rfl) ?_
  simp only[Yl,Ym];refine qE ?_
  refine zdl (.tmp 80) ⟨b,0,Xb⟩ rfl rfl rfl rfl ?_;refine Uq ?_;iterate 9 refine qE ?_
  refine zcD fun bn b1 cr=>?_
  have av:=(n _).1 b1;have ce:=dD (b4.grew av);have ck:=dD (cj.trans (zD.grew av));have ch:=dD (bz.grew av);have cp:=dD (co.grew av);have bl:=dD (ay.grew av);clear av b1 cr bu a4 bq N p;have bh:=bl.unfrozen rfl;have cq:bn.cell? ⟨g,f,Xb⟩=Xa (I6 aq):=by
   have:=bl.one b3 0 _ rfl;rw[zV,Xz,zA]at this
   simpa [slE,Nat.mul_one]using this
  go_upto_region 12 with fail;clear cq bh;obtain⟨aa,ak,ap⟩:=bl.cell (k:=f) (o:=0) rfl b3 (y:=aq+1) (u:=I6 (aq+1)) rfl (by decide)
  obtain⟨au,al⟩:=kB (bn.setCell ⟨g,f,Xb⟩ (I6 (aq+1)));have c7:bn.setCell ⟨g,f*slE.k+0,Xb⟩ (I6 (aq+1))=au:=by rw[<-al];simp[slE]
  rw[c7]at aa ak ap;rw[al];rw[<-K.out]at aa;have a0:=ce.setS (by (first|rw[K.out]|rw[show O _ _ _=_ from K.out]);rfl) ak ap aa
  have c0:=dD a0.1;have cd:=dD<|ck.trans a0.2;have b8:=dD<|a0.2.1 _ _ _ ch Jg;have c1:=dD<|a0.2.1 _ _ _ cp ZT;clear c7 al aa ak ap a0;obtain⟨j,n⟩:∃j:Xn->Prop,Xo (∀a,j a↔(a.cell? ⟨b,12,Xb⟩=Xa (O (Xa ⟨t,0,Xb⟩) 2 F)/\zx a H 75 [I6 2,I6 (f:Int),Xh B]/\zx a af 82 ag)):=⟨fun a=>(a.cell? ⟨b,12,Xb⟩=Xa (O (Xa ⟨t,0,Xb⟩) 2 F)/\zx a H 75 [I6 2,I6 (f:Int),Xh B]/\zx a af 82 ag),fun _=>Iff.rfl⟩
  have R:Xo (∀a l s,Mk w0 hi a b vl L P l q s->a.cell? ⟨b,12,Xb⟩=Xa (O (Xa ⟨t,0,Xb⟩) 2 F)):=dD<|fun a l s br=>by
   have:=br.box.box.c 12 rfl;(first|rw[c.out]at this|rw[show O _ _ _=_ from c.out]at this);exact this
  have p:j au.drew:=(n _).2 ⟨R _ _ _ (c0.grew (gW _)),b8.grew (gW _),c1.grew (gW _)⟩
  have W:Mk w0 hi au.drew b vl L P { l with sl:=l.sl.set f (aq+1) } q s/\zD hi w au.drew:=⟨c0.grew (gW _),cd.trans (zD.grew (gW _))⟩
  have bs:∀d:zh j,d.world.cell? ⟨b,12,Xb⟩=Xa (O (Xa ⟨t,0,Xb⟩) 2 F):=fun d=>((n _).1 d.holds).1
  have am:∀d:zh j,d.world.cell? ⟨H,0,Xb⟩=Xa (I6 2):=fun d=>((n _).1 d.holds).2.1.box.c 0 rfl
  have a4:∀d:zh j,d.world.cell? ⟨H,1,Xb⟩=Xa (I6 (f:Int)):=fun d=>((n _).1 d.holds).2.1.box.c 1 rfl
  have an:∀d:zh j,d.world.cell? ⟨H,2,Xb⟩=Xa (Xh B):=fun d=>((n _).1 d.holds).2.1.box.c 2 rfl
  have N:Nonempty (zh j):=⟨⟨_,p⟩⟩;refine zG (I:=j) 17 [(14,fun _=>True)] (fun a=>Mk w0 hi a b vl L P { l with sl:=l.sl.set f (aq+1) } q s/\zD hi w a) p W zY (by kernel_rfl) rfl rfl (by decide) ?hS (by kernel_rfl) ?_
  case hS=>
   intro x ae;simp only[mC,nM,or_false]at ae;subst ae;exact⟨undef,trivial⟩
  simp only[Yl,Ym];refine ze ?_
  refine zJ (.tmp 91) ⟨b,0,Xb⟩ rfl rfl rfl rfl ?_;refine Uq ?_;iterate 4 refine ze ?_
  refine zJ (.tmp 96) ⟨b,0,Xb⟩ rfl rfl rfl rfl ?_;refine Uq ?_;iterate 7 refine ze ?_
  refine zI rfl rfl (fun _ a=>Mk w0 hi a b vl L P { l with sl:=l.sl.set f (aq+1) } q (s.set 0 (qN A h ⟨2,(f:Int),B⟩))/\zD hi w a) (fun w' X U=>?_) (fun cb bt=>?_)
  ·obtain⟨bv,ax,bw⟩:=(n _).1 X;obtain⟨ar,bf⟩:=U;have a8:=ar.rows.tt;(first|rw[c.out]at a8|rw[show O _ _ _=_ from c.out]at a8);refine ZD (E:=Jp) (.tmp 104) (.tmp 101) 75 rfl w0.heap.size (O (Xa ⟨t,0,Xb⟩) 2 F) s a8 t 0 (h*3) rfl A (qN A h ⟨2,(f:Int),B⟩) a7.1 (env ⟨2,(f:Int),B⟩) (by kernel_rfl) (jS A M _) (by show h*3+3<=192;omega) (enE.one _) _ rfl (by first | rfl | simp) (Xi (env ⟨2,(f:Int),B⟩).toArray) rfl rfl (fun cc b2 bo bx=>?_)
   rw[<-c.out]at b2;have Z:=ar.setT (by (first|rw[c.out]|rw[show O _ _ _=_ from c.out]);rfl) bo bx b2
   exact⟨(n _).2 ⟨R _ _ _ Z.1,Z.2.1 _ _ _ ax Jg,Z.2.1 _ _ _ bw ZT⟩,trivial,Z.1,bf.trans Z.2⟩
  try simp only[Yv]
  iterate 2 refine ze ?_
  refine qe fun ac Y C=>?_
  have az:=dD C.1;have bb:=dD C.2;have b5:=dD<|((n _).1 Y).2.2;clear C Y p W bs am a4 an N;have bd:Xo (zb Jp w0.heap.size ac (O (Xa ⟨t,0,Xb⟩) 2 F) (s.set 0 (qN A h ⟨2,(f:Int),B⟩))):=show zb _ _ _ _ _ by rw[<-c.out];exact az.rows.tt
  refine zw (E:=Jp) rfl (.tmp 106) (.tmp 102) 75 rfl w0.heap.size _ _ bd t 1 (h*3) rfl Q (qN Q h ⟨2,(f:Int),B⟩) (by rw[sN (by decide)];exact a7.2.1) (env ⟨2,(f:Int),B⟩) (by kernel_rfl) (jS Q M _) (by show h*3+3<=192;omega) (enE.one _) _ rfl (by first | rfl | simp) (Xi (env ⟨2,(f:Int),B⟩).toArray) rfl rfl ?_
  intro aj D S a5;rw[<-c.out]at D;have z:=az.setT (by (first|rw[c.out]|rw[show O _ _ _=_ from c.out]);rfl) S a5 D
  have b0:Xo (Mk w0 hi aj b vl L P { l with sl:=l.sl.set f (aq+1) } q ((s.set 0 (qN A h ⟨2,(f:Int),B⟩)).set 1 (qN Q h ⟨2,(f:Int),B⟩))):=z.1;have bc:Xo (zD hi w aj):=bb.trans z.2;have P9:Xo (zx aj af 82 ag):=z.2.1 _ _ _ b5 ZT;have bi:Xo (qH { l with sl:=l.sl.set f (aq+1) } ((s.set 0 (qN A h ⟨2,(f:Int),B⟩)).set 1 (qN Q h ⟨2,(f:Int),B⟩))):=(show qH _ _ by
   have:=bj.forkS (s0:=s0) (s1:=⟨Xc,s0.ars,qI⟩) (by rw[a6.1];rfl) (by rw[a6.1];rfl) rfl a7.1 a7.2.1 M bk b3 (by rw[ab.out]) (by rw[ab.out])
   rw[ab.out]at this;exact this)
  clear z D S a5;go_wp2
  go_roundg (64 -(h+1))
  case measure=>omega
  exact⟨h+1,{ l with sl:=l.sl.set f (aq+1) },_,_,_,by omega,by omega,by go_num,b0,bc,bi,(show _/\_ from⟨a6.1,a6.2.1,a6.2.2.1,a6.2.2.2⟩),ba _,P9⟩
 have ca:¬(h:Int)<64:=by omega
 have c2:Xo (Frk w0 hi b w vl L m s0.ars wr):=dD<|⟨P,l,q,s,cn,cm,bj,by rw[a6.1,ci.out];rfl,a6.2⟩
 go_wp2
 (first | go_end0 | ((try simp only[Exit.inBlock,Exit.then]);refine bodyPost_ret (results_none rfl _ _ _) rfl ?_))
 first | exact c2.out | exact⟨⟨_,rfl⟩,c2⟩
theorem zf6 {I:Xn->Prop} {P:Program} {J:Act->Xn->Prop} {a:Act} {w:Xn} {L l r:List Oper} (T:Nat) (S:List (Nat × zdT)) (c:I w.drew) (hJ0:J a w.drew) (hJq:∀(j:Nat) o,L.toArray[j]? =Xa o->S.lookup j=Xb->∀a v w,(execOp a.eval o).run P w= .ok (.value v) w->J a w->J (a.put o.dst v) w) (hJs:∀(j:Nat) o s,L.toArray[j]? =Xa o->S.lookup j=Xa s->∀a w K,J a w->I w->zQ P o a w K->zQ P o a w fun v w'=>K v w'/\J (a.put o.dst v) w') (hJu:∀(j:Nat) o,L.toArray[j]? =Xa o->∀a w,J a w->J (a.put o.dst undef) w) (f:P.follows .mixedOrders=Xc) (b:Q8 L.toArray T=Xc) (e:L.take T=l) (g:L.drop T=r) (d:T<=L.length)
  (hS:∀x∈S,∃v,x.2.pv v) (hp:∀k s j t,S.lookup k=Xa s->S.lookup j=Xa t->j≠k->anc L.toArray 9 j k=Xd->∀v w w',t.step w w'->s.post v w->s.post v w') (hpre:∀j t k s,S.lookup j=Xa t->S.lookup k=Xa s->j≠k->∀w w',s.step w w'->t.pre w->t.pre w') (hpr0:∀k t,S.lookup k=Xa t->t.pre w.drew)
  (h:zcy I P L.toArray (fun k=>S.lookup k) (fun a w=>J a w->wpList P L.toArray Q r a w) l 0 (fun _ _=>True) a):(Code.region id L.toArray Xc).wp P Q a w:=by
 refine zoS (J:=J) T c hJ0 f b e g d ?_ ?_ ?_ ?_ ?_ ?_ ?_ hJu h
 ·intro k s o c _ d b;obtain⟨t,_,rfl⟩:=zaZ c;cases b
 ·intro k s c;obtain⟨t,b,rfl⟩:=zaZ c;obtain⟨x,d,rfl,_⟩:=JA b;exact hS x d
 ·intro k s j t c f d g _ v;obtain⟨s,b,rfl⟩:=zaZ c;obtain⟨t,e,rfl⟩:=zaZ f;exact hp k s j t b e d g v
 ·intro j t k s f c d;obtain⟨s,b,rfl⟩:=zaZ c;obtain⟨t,e,rfl⟩:=zaZ f;exact hpre j t k s e b d
 ·intro k t c;obtain⟨t,b,rfl⟩:=zaZ c;exact hpr0 k t b
 ·intro j o c d;exact hJq j o c (by simpa using d)
 intro j o s c d;obtain⟨t,b,_⟩:=zaZ d;exact hJs j o t c b
theorem zQ.know {P:Program} {a:Act} {w:Xn} {K:Xq->Xn->Prop} {J:Act->Xn->Prop} (h:zQ P o a w K) (c:∀n w',(execOp a.eval o).run P w= .ok n w'->(∃v,n= .value v/\J (a.put o.dst v) w')\/(n= .skip/\J (a.put o.dst undef) w')):zQ P o a w fun v w'=>K v w'/\J (a.put o.dst v) w':=by
 unfold zQ at h⊢
 generalize(execOp a.eval o).run P w=r at h c⊢
 cases r with
 | ok n w'=>
  rcases c n w' rfl with⟨v,rfl,b⟩|⟨rfl,b⟩
  ·exact⟨h,b⟩
  exact⟨h,b⟩
 | halt x w'=>exact h
def zaO (ss:List Nat) (a:Act) (w:Xn):Prop:=(∀s∈ss,∀x n c,a.tmps.getD s undef= O (Xa x) n c->x.block<w.heap.size)/\∀s∈ss,∀t∈ss,s≠t->∀x n c y n' c',a.tmps.getD s undef= O (Xa x) n c->a.tmps.getD t undef= O (Xa y) n' c'->x.block≠y.block
theorem Qm {a:Act} {d:Option Nat} {v:Xq} {s:Nat}:(a.put d v).tmps.getD s undef=a.tmps.getD s undef\/(d=Xa s/\(a.put d v).tmps.getD s undef=v):=by
 cases d with
 | none=>exact .inl rfl
 | some k=>
  by_cases e:k=s
  ·subst e
   by_cases b:k<a.tmps.size
   ·refine .inr ⟨rfl,?_⟩
    show(a.tmps.setIfInBounds k v).getD k undef=v
    rw[Yb,Array.getElem?_setIfInBounds_self_of_lt b];rfl
   refine .inl ?_
   show(a.tmps.setIfInBounds k v).getD k undef=_
   rw[Array.setIfInBounds_eq_of_size_le (by omega)]
  refine .inl ?_
  show(a.tmps.setIfInBounds k v).getD s undef=_
  rw[Yb,Array.getElem?_setIfInBounds_ne e,<-Yb]
theorem zaO.other {b:List Nat} {a:Act} {w:Xn} {d:Option Nat} {v:Xq} (i:zaO b a w) (f:∀s∈b,d≠Xa s) (m:w.heap.size<=w'.heap.size):zaO b (a.put d v) w':=by
 have c:∀s∈b,(a.put d v).tmps.getD s undef=a.tmps.getD s undef:=fun s b=>(Qm (a:=a) (d:=d) (v:=v) (s:=s)).resolve_right fun e=>f s b e.1
 refine⟨fun s b x n g j=>?_,fun s b t k h x n g y p l e f=>?_⟩
 ·rw[c s b]at j;exact Yq (i.1 s b x n g j) m
 rw[c s b]at e;rw[c t k]at f;exact i.2 s b t k h x n g y p l e f
theorem zaO.new {c:List Nat} {a:Act} {w:Xn} {d:Option Nat} {j i:Nat} (m:zaO c a w) (b:w.heap.size<w'.heap.size):zaO c (a.put d (O (Xa ⟨w.heap.size,0,Xb⟩) j i)) w':=by
 have g:∀b∈c,∀x n c,(a.put d (O (Xa ⟨w.heap.size,0,Xb⟩) j i)).tmps.getD b undef= O (Xa x) n c->(a.tmps.getD b undef= O (Xa x) n c/\x.block<w.heap.size)\/(d=Xa b/\x.block=w.heap.size):=fun b h x n c f=>by
  rcases Qm (a:=a) (d:=d) (v:= O (Xa ⟨w.heap.size,0,Xb⟩) j i) (s:=b)with e|⟨e1,e2⟩
  ·rw[e]at f;exact .inl ⟨f,m.1 b h x n c f⟩
  rw[e2]at f;cases f;exact .inr ⟨e1,rfl⟩
 refine⟨fun b h x n c f=>?_,fun b h t p i x n c y q l j k=>?_⟩
 ·rcases g b h x n c f with f|f <;> omega
 rcases g b h x n c j with⟨f,j⟩|⟨f,j⟩ <;> rcases g t p y q l k with⟨g,j⟩|⟨g,j⟩
 ·exact m.2 b h t p i x n c y q l f g
 ·omega
 ·omega
 rw[f]at g;cases g;exact absurd rfl i
theorem zaO.undef {c:List Nat} {a:Act} {w:Xn} {d:Option Nat} (k:zaO c a w):zaO c (a.put d Go.undef) w:=by
 have f:∀b∈c,∀x n c,(a.put d Go.undef).tmps.getD b Go.undef= O (Xa x) n c->a.tmps.getD b Go.undef= O (Xa x) n c:=fun b h x n c g=>by
  rcases Qm (a:=a) (d:=d) (v:=Go.undef) (s:=b)with e|⟨e1,e2⟩
  ·rw[e]at g;exact g
  rw[e2]at g;cases g
 exact⟨fun b h x n c g=>k.1 b h x n c (f b h x n c g),fun b h t l j x n c y p m g i=>k.2 b h t l j x n c y p m (f b h _ _ _ g) (f t l _ _ _ i)⟩
theorem znP {P:Program} {w:Xn} {e:TypeId} {i:TypeInfo} {z:Xq} (b:P.underlying t=Xa (.slice e)) (hi:P.info? e=Xa i) (f:i.zero=Xa z) (x) (a:x=undef\/∃n:Nat,x=I6 n/\n*i.bytes<=140737488355328/\n<=1000) {v:Xq} (h:(Instr.makeSlice t x x).run P w= .ok v w'):∃l c,v= O (Xa ⟨w.heap.size,0,Xb⟩) l c/\w.heap.size<w'.heap.size:=by
 rcases a with rfl|⟨n,rfl,a,a⟩
 ·exfalso
  simp[Instr.makeSlice,run_underlying b,asInt,asIntOf,undef]at h
 have d:((i.bytes:Int)*(n:Int))<=281474976710656:=by
  rw[<-Int.natCast_mul,Nat.mul_comm];omega
 have a:=run_make (P:=P) w t e i z b hi f .i64 .i64 n n (by omega) (Int.le_refl _) d (by omega)
 rw[a]at h;cases h;exact⟨_,_,rfl,by simp⟩
def JB (nf ns nb:Nat) (a:Act) (w:Xn):Prop:=(a.tmps.getD 0 undef= Xe Xf nf/\a.tmps.getD 1 undef= Xe Xf ns/\a.tmps.getD 2 undef= Xe Xf nb)/\(∀s∈[32,35,37,40],a.tmps.getD s undef=undef\/∃n:Nat,a.tmps.getD s undef= Xe Xf n/\n<=80)/\zaO [38,41] a w
section
variable{nf ns nb:Nat} {a:Act} {w w':Xn}
theorem JB.other {d:Option Nat} {v:Xq} (h:JB nf ns nb a w) (e:∀s∈[0,1,2,32,35,37,40,38,41],d≠Xa s) (g:w.heap.size<=w'.heap.size):JB nf ns nb (a.put d v) w':=by
 have b:∀s∈[0,1,2,32,35,37,40,38,41],(a.put d v).tmps.getD s undef=a.tmps.getD s undef:=fun s c=>(Qm (a:=a) (d:=d) (v:=v) (s:=s)).resolve_right fun f=>e s c f.1
 refine⟨⟨by rw[b 0 (by simp)];exact h.1.1,by rw[b 1 (by simp)];exact h.1.2.1,by rw[b 2 (by simp)];exact h.1.2.2⟩,fun s c=>?_,h.2.2.other (fun s c=>e s (by simp at c⊢;omega)) g⟩
 rw[b s (by simp at c⊢;omega)]
 exact h.2.1 s c
theorem JB.num {s:Nat} {n:Nat} (h:JB nf ns nb a w) (g:s∈[32,35,37,40]) (f:n<=80):JB nf ns nb (a.put (Xa s) (I6 n)) w:=by
 have b:∀t,t≠s->(a.put (Xa s) (I6 n)).tmps.getD t undef=a.tmps.getD t undef:=fun t c=>(Qm (a:=a) (d:=some s) (v:=I6 n) (s:=t)).resolve_right fun e=>c (by simpa using e.1.symm)
 have i:s≠0/\s≠1/\s≠2/\s≠38/\s≠41:=by simp at g;omega
 refine⟨⟨by rw[b 0 (by omega)];exact h.1.1,by rw[b 1 (by omega)];exact h.1.2.1,by rw[b 2 (by omega)];exact h.1.2.2⟩,fun t c=>?_,h.2.2.other (fun t c e=>by simp only[Option.some.injEq]at e;subst e;simp only[mC,nM,or_false]at c;omega) (nR _)⟩
 rcases Qm (a:=a) (d:=some s) (v:=I6 n) (s:=t)with e|⟨_,e⟩
 ·rw[e];exact h.2.1 t c
 exact .inr ⟨n,e,f⟩
theorem JB.new {d:Option Nat} {e c:Nat} (h:JB nf ns nb a w) (f:∀s∈[0,1,2,32,35,37,40],d≠Xa s) (g:w.heap.size<w'.heap.size):JB nf ns nb (a.put d (O (Xa ⟨w.heap.size,0,Xb⟩) e c)) w':=by
 have b:∀s∈[0,1,2,32,35,37,40],(a.put d (O (Xa ⟨w.heap.size,0,Xb⟩) e c)).tmps.getD s undef=a.tmps.getD s undef:=fun s c=>(Qm (a:=a) (d:=d) (s:=s)).resolve_right fun e=>f s c e.1
 refine⟨⟨by rw[b 0 (by simp)];exact h.1.1,by rw[b 1 (by simp)];exact h.1.2.1,by rw[b 2 (by simp)];exact h.1.2.2⟩,fun s c=>?_,h.2.2.new g⟩
 rw[b s (by simp at c⊢;omega)]
 exact h.2.1 s c
def okQ (o:Oper):Bool:=
 match o.dst with
 | none=>Xc
 | some d=>!([0,1,2,32,35,37,40,38,41].contains d) || (match o.op with | .move (.tmp x)=>[(32,0),(35,1),(37,1),(40,2)].contains (d,x) | _=>Xd)
theorem JB.quiet {v:Xq} (h:JB nf ns nb a w) (b:okQ o=Xc) (i:nf<=80) (d:ns<=80) (g:nb<=80) (f:(execOp a.eval o).run prog w= .ok (.value v) w):JB nf ns nb (a.put o.dst v) w:=by
 unfold okQ at b
 cases c:o.dst with
 | none=>exact h.other (fun s _ e=>by cases e) (nR _)
 | some j=>
  rw[c]at b;simp only[Bool.or_eq_true]at b
  rcases b with b|b
  ·refine h.other (fun s d e=>?_) (nR _)
   cases e;simp only[Yw,Yc,decide_eq_false_iff_not]at b;exact b d
  cases c:o.op with
  | move x=>
   rw[c]at b
   cases x with
   | tmp x=>
    simp only[Yc,decide_eq_true_eq]at b;have e:v=a.tmps.getD x undef:=by
     simp only[execOp,c,Xu,Result.ok.injEq,Next.value.injEq,and_true]at f;exact f.symm
    simp only[mC,pJ,nM,or_false]at b
    rcases b with⟨rfl,rfl⟩|⟨rfl,rfl⟩|⟨rfl,rfl⟩|⟨rfl,rfl⟩
    ·rw[e,h.1.1];exact h.num (by simp) i
    ·rw[e,h.1.2.1];exact h.num (by simp) d
    ·rw[e,h.1.2.1];exact h.num (by simp) d
    rw[e,h.1.2.2];exact h.num (by simp) g
   | _=>simp at b
  | _=>rw[c]at b;simp at b
theorem JB.undef {d:Option Nat} (h:JB nf ns nb a w) (f:∀s∈[0,1,2],d≠Xa s):JB nf ns nb (a.put d Go.undef) w:=by
 have b:∀s∈[0,1,2],(a.put d Go.undef).tmps.getD s Go.undef=a.tmps.getD s Go.undef:=fun s c=>(Qm (a:=a) (d:=d) (s:=s)).resolve_right fun e=>f s c e.1
 refine⟨⟨by rw[b 0 (by simp)];exact h.1.1,by rw[b 1 (by simp)];exact h.1.2.1,by rw[b 2 (by simp)];exact h.1.2.2⟩,fun s c=>?_,h.2.2.undef⟩
 rcases Qm (a:=a) (d:=d) (v:=Go.undef) (s:=s)with e|⟨_,e⟩
 ·rw[e];exact h.2.1 s c
 exact .inl e
theorem JB.make {K:Xq->Xn->Prop} (h:JB nf ns nb a w) (t e) (i:TypeInfo) (z) (s:Nat) (c:o.op= .makeSlice t (.tmp s) (.tmp s)) (g:s∈[32,35,37,40]) (j:Tryz.prog.underlying t=Xa (.slice e)) (hi:Tryz.prog.info? e=Xa i) (k:i.zero=Xa z) (d:i.bytes<=1000) (f:∀s∈[0,1,2,32,35,37,40],o.dst≠Xa s) (b:zQ prog o a w K):zQ prog o a w fun v w'=>K v w'/\JB nf ns nb (a.put o.dst v) w':=by
 refine b.know fun n w' b=>?_
 left;simp only[execOp,c,Xw]at b
 cases c:(Instr.makeSlice t (a.eval (.tmp s)) (a.eval (.tmp s))).run prog w with
 | halt x l=>rw[c]at b;cases b
 | ok v l=>
  rw[c]at b;simp only[rA,Xu,Result.ok.injEq]at b;obtain⟨rfl,rfl⟩:=b;obtain⟨l,b,rfl,b⟩:=znP j hi k _ (by
   rcases h.2.1 s g with e|⟨n,e,g⟩
   ·exact .inl e
   refine .inr ⟨n,e,?_,by omega⟩
   have:n*i.bytes<=80*1000:=Nat.mul_le_mul g d
   omega) c
  exact⟨_,rfl,h.new f b⟩
end
def okL (L:List Oper) (Sx:List Nat):Bool:=L.zipIdx.all fun p=>Sx.contains p.2 || okQ p.1
theorem znA {L:List Oper} {Sx:List Nat} (h:okL L Sx=Xc) (a:L.toArray[j]? =Xa o) (c:j∉Sx):okQ o=Xc:=by
 unfold okL at h;have b:(o,j)∈L.zipIdx:=by
  rw[List.mem_iff_getElem?];exact⟨j,by rw[List.getElem?_zipIdx];simp at a;simp[a]⟩
 have:=Yy.1 h _ b;simp only[Bool.or_eq_true,Yc,decide_eq_true_eq]at this;exact this.resolve_left c
def okD (L:List Oper):Bool:=L.all fun o=>match o.dst with | none=>Xc | some d=>!([0,1,2].contains d)
theorem znB {L:List Oper} (h:okD L=Xc) (a:L.toArray[j]? =Xa o):∀s∈[0,1,2],o.dst≠Xa s:=fun s b e=>by
 unfold okD at h;have:=Yy.1 h o (by simp at a;exact mG a)
 rw[e]at this;simp only[Yw,Yc,decide_eq_false_iff_not]at this;exact this b
theorem zkc {α:Type} {A B C D:α} (h:List.lookup j [(2,A),(5,B),(7,C),(10,D)]=Xb):j∉ [2,5,7,10]:=fun a=>by
 simp only[mC,nM,or_false]at a
 rcases a with rfl|rfl|rfl|rfl <;> simp[List.lookup_cons]at h
theorem zgm {α:Type} (E:Elt α) {a:Act} (w) (n:Nat) (f:n*E.bytes<=140737488355328) {l:Operand} (j:o.op= .makeSlice E.st l l:=by rfl) (i:a.eval l=I6 n:=by rfl):
  ∃C,(execOp a.eval o).run prog w= .ok (.value (O (Xa ⟨w.heap.size,0,Xb⟩) n n)) (w.alloc (Xk C E.ty))/\zb E w.heap.size (w.alloc (Xk C E.ty)) (O (Xa ⟨w.heap.size,0,Xb⟩) n n) (Xr n E.zero):=by
 obtain⟨k,h,c,d,e⟩:=info_parts E.info;have b:n*1<=n*E.bytes:=Nat.mul_le_mul_left _ (nT E.pos E.few);have g:((E.bytes:Int)*(n:Int))<=140737488355328:=by
  obtain⟨B,b⟩:=kB (n*E.bytes);rw[b]at f;rw[<-Int.natCast_mul,Nat.mul_comm,b];omega
 have b:=run_make (P:=prog) w E.st E.ty k _ E.und h c .i64 .i64 n n (by omega) (Int.le_refl _) (by rw[e];exact Int.le_trans g (by omega)) (by omega)
 rw[d,tN]at b;refine⟨madeCells E.zv.cells (n*E.k),by simp only[execOp,j,i,Xw,b,Result.andThen,Xu],⟨⟨?_,.inr ⟨w.heap.size,n,madeCells E.zv.cells (n*E.k),by rw[lR],nR _,?_,?_,?_,?_,?_⟩⟩,by rw[lR];exact f⟩⟩
 ·rw[jO E]
 ·show(w.heap.push _)[w.heap.size]? =_
  simp
 ·rw[lR];exact nR _
 ·exact qB (by omega)
 ·rw[size_madeCells]
 rw[lR,Yg (by simp[madeCells]),zje E]
theorem zd2 {a:Act} (w) (n:Nat) (b:n<=80) {l:Operand} (h:o.op= .makeSlice 31 l l:=by rfl) (g:a.eval l=I6 n:=by rfl):
  ∃C,(execOp a.eval o).run prog w= .ok (.value (O (Xa ⟨w.heap.size,0,Xb⟩) n n)) (w.alloc (Xk C 60))/\zj w.heap.size (w.alloc (Xk C 60)) (O (Xa ⟨w.heap.size,0,Xb⟩) n n) (Xr n zz):=by
 obtain⟨i,f,c,d,e⟩:=info_parts zqF;have b:=run_make (P:=prog) w 31 60 i _ underlying31 f c .i64 .i64 n n (by omega) (Int.le_refl _) (by rw[e];omega) (by omega)
 rw[d,tN]at b;refine⟨madeCells #[U8 0,U8 0,U8 0,U8 0,U8 0,U8 0,U8 0,U8 0] (n*8),by simp only[execOp,h,g,Xw,b,Result.andThen,Xu,Value.cells],⟨⟨?_,.inr ⟨w.heap.size,n,madeCells #[U8 0,U8 0,U8 0,U8 0,U8 0,U8 0,U8 0,U8 0] (n*8),by rw[lR],nR _,?_,?_,?_,?_,?_⟩⟩,fun p b=>by rw[Xs b];rfl,by rw[lR];omega⟩⟩
 ·rw[qF (k:=8) _ (fun a b=>by rw[Xs b];rfl)]
 ·show(w.heap.push _)[w.heap.size]? =_
  simp
 ·rw[lR];exact nR _
 ·exact qB (by omega)
 ·rw[size_madeCells]
 rw[lR]
 show(madeCells #[U8 0,U8 0,U8 0,U8 0,U8 0,U8 0,U8 0,U8 0] (n*8)).toList.take (n*8)=_
 rw[Yg (by simp[madeCells]),zeu]
theorem zbF {α:Type} (E:Elt α) {a:Act} {K:Xq->Xn->Prop} (w:Xn) (n:Nat) (d:n*E.bytes<=140737488355328) (l) (e:o.op= .makeSlice E.st l l) (c:a.eval l=I6 n) (h:∀C,zb E w.heap.size (w.alloc (Xk C E.ty)) (O (Xa ⟨w.heap.size,0,Xb⟩) n n) (Xr n E.zero)->K (O (Xa ⟨w.heap.size,0,Xb⟩) n n) (w.alloc (Xk C E.ty))):zQ prog o a w K:=by
 obtain⟨C,f,b⟩:=zgm E w n d e c;exact zQ.step f (h C b)
theorem zan {a:Act} {K:Xq->Xn->Prop} (w:Xn) (n:Nat) (d:n<=80) (l) (e:o.op= .makeSlice 31 l l) (c:a.eval l=I6 n) (h:∀C,zj w.heap.size (w.alloc (Xk C 60)) (O (Xa ⟨w.heap.size,0,Xb⟩) n n) (Xr n zz)->K (O (Xa ⟨w.heap.size,0,Xb⟩) n n) (w.alloc (Xk C 60))):zQ prog o a w K:=by
 obtain⟨C,f,b⟩:=zd2 w n d e c;exact zQ.step f (h C b)
theorem zf5 {rest:List Oper} {c:Oper} {a:Act} {w:Xn} (d:c.guard=Xb) (e p x) (j:c.op= .store e p x) (b o:Nat) (hp:a.eval p= Xj (Xa ⟨b,o,Xb⟩)) (vs:List Xq) (k:a.eval x= Xi vs.toArray)
  {cs:List Xq} {t:TypeId} (f:zx w b t cs) (i:o+vs.length<=cs.length) (hi:(Tryz.prog.info? e).map (·.size)=Xa vs.length) (g:∀v∈vs,v.oneCell'=Xc)
  (h:∀w',zx w' b t (splice cs o vs)->w.grownBy w' (Xa b)->w'.heap.size=w.heap.size->wpList prog ops Q rest (a.put c.dst undef) w'):wpList prog ops Q (c :: rest) a w:=by
 refine wpList_store_mid d e p x j b o vs.toArray hp k ?_ ?_ (all_oneCell_toArray g) ?_
 ·intro j c;have:=f.box.there (o+j) (by simp at c;omega)
  rw[zA]at this;exact this
 ·simpa using hi
 exact h _ (f.part i) (zS b vs o w).1 (zS b vs o w).2
theorem znL {w:Xn} {gf e c a nf ns nb:Nat} (h:zc w W) (m:w.heap.size<=b) (d:zx W b 58 [vl.x,O (Xa ⟨gf,0,Xb⟩) nf nf,I6 0,O (Xa ⟨e,0,Xb⟩) ns ns,O (Xa ⟨c,0,Xb⟩) ns ns,eS,O (Xa ⟨a,0,Xb⟩) nb nb,eS,eS,I6 (nb:Int),eS,eS,eS]) (p:zq byE w (vl.x) L) (n:vl.n<=vl.c) (lb:∀z∈L,0<=z/\z<256)
  (q:zb JR w.heap.size W (O (Xa ⟨gf,0,Xb⟩) nf nf) (Xr nf fr0)) (i:zb slE w.heap.size W (O (Xa ⟨e,0,Xb⟩) ns ns) (Xr ns 0)) (j:zj w.heap.size W (O (Xa ⟨c,0,Xb⟩) ns ns) (Xr ns zz)) (k:zj w.heap.size W (O (Xa ⟨a,0,Xb⟩) nb nb) (Xr nb zz)) (f:c≠a):
  Mk w W.heap.size W b vl L ⟨⟨Xa ⟨gf,0,Xb⟩,nf,nf⟩,⟨Xa ⟨e,0,Xb⟩,ns,ns⟩,⟨Xa ⟨c,0,Xb⟩,ns,ns⟩,zK,⟨Xa ⟨a,0,Xb⟩,nb,nb⟩,zK,zK,zK,zK⟩ ⟨Xr nf fr0,0,Xr ns 0,Xr ns zz,[],Xr nb zz,[],[],nb,[],[]⟩ zK []:=by
 have c:∀{v:Xq} {a:List (List Int)},zj w.heap.size W v a->∀g,v.ownBlock=Xa g->g<W.heap.size:=fun e g a=>by
  obtain⟨_,l,l⟩:=QZ e a;exact(aS.1 l).1
 refine⟨h,m,d,p,n,lb,⟨nR _,bS h,q,i,fun g a=>(i.lt g a).2,j,c j,⟨rfl,rfl⟩,k,c k,⟨World.ownsRow_nil _ _ _ _,by simp,by simp⟩,⟨[],zb.nil _ _ _,rfl,fun i x d c=>by cases c⟩,zb.nil _ _ _,⟨[],zb.nil _ _ _,rfl,fun i x s c=>by cases c⟩,zb.nil _ _ _,⟨fun g a e=>?_,zdV.free (fun d c _=>by rw[Xs c];rfl) (fun d c=>by rw[Xs c];rfl)⟩⟩⟩
 simp only[Value.ownBlock,Option.some.injEq]at a e;exact f (a.trans e.symm)
def zjn (n k:Nat):List Fr:=Xr k frF++Xr (n - k) fr0
theorem zmb (n:Nat):zjn n 0=Xr n fr0:=by simp[zjn]
theorem zn7 (n:Nat):zjn n n=Xr n frF:=by simp[zjn]
theorem zpm (n k:Nat):zdW (zjn n k):=fun f a _=>by
 unfold zjn at a
 rcases Ob.1 a with e|e
 ·rw[Xs e];rfl
 rw[Xs e];rfl
theorem zc1 (n:Nat):∀f∈Xr n frF,f.r=0:=fun f a=>by rw[Xs a];rfl
theorem zmc (n k:Nat):∀f∈zjn n k,f.r=0:=fun f a=>by
 unfold zjn at a
 rcases Ob.1 a with e|e
 ·rw[Xs e];rfl
 rw[Xs e];rfl
theorem zmd {n k:Nat} (h:k<n):(zjn n k)[k]? =Xa fr0:=by
 unfold zjn;rw[aR (by simp),lR,Yp,List.getElem?_replicate,kE (by omega)]
theorem zn6 {n k:Nat} (h:k<n):(zjn n k).set k frF=zjn n (k+1):=by
 unfold zjn;rw[Yk _ _ (by simp),lR,Yp]
 obtain⟨j,a⟩:∃j,n - k=j+1:=⟨n - k - 1,by omega⟩
 rw[a,show n -(k+1)=j by omega,List.replicate_succ,sZ,List.replicate_succ',Ok]
 rfl
theorem zd4 {w:Xn} {base:Nat} {v:Xq} {b:List (Int × List Int)} (j) (h:zr base w v b) (g:Nat) (q:Int × List Int) (i:q.2.length=8) (p:Zf w ⟨g,0,Xb⟩ (ptc q)) (c:b.length<=1000) (a:base<=w.heap.size):
  ∃c w',(Builtin.append_ #[32,32] j #[v,O (Xa ⟨g,0,Xb⟩) 1 1]).run prog w= .ok c w'/\zr base w' c (b++ [q])/\w.grownBy w' v.ownBlock:=by
 obtain⟨r,l,d,e,f⟩:=info_parts zqG;obtain⟨c,w',n,m,k,_⟩:=run_append_own (P:=prog) w base 32 j 69 r _ 9 16 underlying32 l d e f rfl (by decide) v b.length _ h.1 ⟨g,0,Xb⟩ 1 1 (ptc q) (by rw[zbS,i]) p (zc5 _) (qB (by omega)) (by omega) a
 refine⟨c,w',n,⟨?_,fun x a=>?_,by simp;omega⟩,k⟩
 ·rw[lA,Yd]
  simpa using m
 rcases Ob.1 a with a|a
 ·exact h.2.1 x a
 simp only[mC,nM,or_false]at a;rw[a];exact i
section
variable{base hi:Nat} {w w':Xn} {V:MaV} {m:Ma} {vt:Sli} {T:List (Nat->En)}
theorem zaW {v:Xq} {a:List (Int × List Int)} (h:zr base w v a) {g:Nat} (b:v.ownBlock=Xa g):base<=g/\∃cs,w.heap[g]? =Xa (Xk cs 69 (0,0)):=by
 rcases h.1.2 with⟨rfl,_⟩|⟨k,a,a,rfl,c,d,_⟩
 ·cases b
 simp only[Value.ownBlock,Option.some.injEq]at b;subst b;exact⟨c,a,d⟩
theorem MkR.addDq (h:MkR base hi w V m vt T) (c:w.grownBy w' (V.dq.x).ownBlock) (s:Sli) {a:List (Int × List Int)} (d:∀f∈m.fs,f.r=0) (e:zr base w' (s.x) a):MkR base hi w' { V with dq:=s } { m with dq:=a } vt T:=by
 cases b:(V.dq.x).ownBlock with
 | none=>
  rw[b]at c;have a:=h.grew (qx c);exact⟨a.hw,a.bh,a.fs,a.sl,a.slh,a.sb,a.sbh,a.sq,a.db,a.dbh,e,a.fl,a.ca,a.sp,a.tt,⟨a.ap.1,a.ap.2.bare d rfl⟩⟩
 | some g=>
  rw[b]at c;obtain⟨_,a,a⟩:=zaW h.dq b;obtain⟨b,g,i,j,k,k,l,n,p⟩:=h.kept c a;exact⟨nT h.hw c.size,h.bh,b (by decide),g (.inl (by decide)),h.slh,i (.inl (by decide)),h.sbh,h.sq,j (.inl (by decide)),h.dbh,e,k (by decide) (.inl (by decide)),l (by decide),n (by decide) (by decide),p (by decide),⟨h.ap.1,h.ap.2.bare d rfl⟩⟩
theorem MkR.addFl {xs:List FlV} (h:MkR base hi w V m vt T) (n:zb fvE base w (V.fl.x) xs) (g:xs.length=m.fl.length) (p:∀(i:Nat) x f,xs[i]? =Xa x->m.fl[i]? =Xa f->x.size=f.size/\zb blE hi w x.v f.bl)
  (c:w.grownBy w' (V.fl.x).ownBlock) (s:Sli) {x:FlV} {f:Fl} (e:∀f∈m.fs,f.r=0) (t:x.size=f.size) (r:zb blE hi w x.v f.bl) (b:zb fvE base w' (s.x) (xs++ [x])):MkR base hi w' { V with fl:=s } { m with fl:=m.fl++ [f] } vt T:=by
 have d:(∀{y:FlV} {q:Fl},zb blE hi w y.v q.bl->zb blE hi w' y.v q.bl)->∃a:List FlV,zb fvE base w' (s.x) a/\a.length=(m.fl++ [f]).length/\∀(i:Nat) y q,a[i]? =Xa y->(m.fl++ [f])[i]? =Xa q->y.size=q.size/\zb blE hi w' y.v q.bl:=fun k=>by
  refine⟨_,b,by simp[g],fun i y q a b=>?_⟩
  rcases Nat.lt_or_ge i xs.length with hi|hi
  ·rw[Xt hi]at a;rw[Xt (by omega)]at b
   obtain⟨j,l⟩:=p i y q a b;exact⟨j,k l⟩
  rw[aR hi]at a;rw[aR (by omega),<-g]at b
  have g:i - xs.length=0:=by
   have:=(gS.1 a).1
   simp at this
   omega
  rw[g]at a b;cases a;cases b;exact⟨t,k r⟩
 cases b:(V.fl.x).ownBlock with
 | none=>
  rw[b]at c;have k:=qx c;have a:=h.grew k;exact⟨a.hw,a.bh,a.fs,a.sl,a.slh,a.sb,a.sbh,a.sq,a.db,a.dbh,a.dq,d (fun h=>h.grew k),a.ca,a.sp,a.tt,⟨a.ap.1,a.ap.2.bare e rfl⟩⟩
 | some g=>
  rw[b]at c;obtain⟨a,a⟩:=n.obj b;obtain⟨b,g,j,k,l,n,n,p,q⟩:=h.kept c a;exact⟨nT h.hw c.size,h.bh,b (by decide),g (.inl (by decide)),h.slh,j (.inl (by decide)),h.sbh,h.sq,k (.inl (by decide)),h.dbh,l (by decide),d (fun h=>h.kind c a (by decide)),n (by decide),p (by decide) (by decide),q (by decide),⟨h.ap.1,h.ap.2.bare e rfl⟩⟩
end
section
variable{base hi S0:Nat} {w w':Xn} {V:MaV} {m:Ma} {vt:Sli} {T:List (Nat->En)}
def FlB (base hi S0:Nat) (w:Xn) (V:MaV) (m:Ma):Prop:=∃xs:List FlV,zb fvE base w (O V.fl.a V.fl.n V.fl.c) xs/\xs.length=m.fl.length/\∀(i:Nat) x f,xs[i]? =Xa x->m.fl[i]? =Xa f->(x.size=f.size/\zb blE hi w x.v f.bl)/\∀g,x.v.ownBlock=Xa g->g<S0
theorem MkR.flB (h:MkR base hi w V m vt T):FlB base hi w.heap.size w V m:=by
 obtain⟨d,b,c,a⟩:=h.fl;exact⟨d,b,c,fun i x f c b=>⟨a i x f c b,fun g d=>((a i x f c b).2.lt g d).2⟩⟩
theorem FlB.grew (h:FlB base hi S0 w V m) (k:zc w w'):FlB base hi S0 w' V m:=by
 obtain⟨c,a,b,d⟩:=h;refine⟨c,a.grew k,b,fun i x f g e=>?_⟩
 obtain⟨⟨a,b⟩,c⟩:=d i x f g e;exact⟨⟨a,b.grew k⟩,c⟩
theorem FlB.kind (e:FlB base hi S0 w V m) {g:Nat} {cs:Array Xq} (c:w.grownBy w' (Xa g)) (h:w.heap[g]? =Xa (Xk cs t (0,0))) (a:t≠65\/(V.fl.x).ownBlock≠Xa g) (b:t≠3\/S0<=g):FlB base hi S0 w' V m:=by
 obtain⟨i,d,f,q⟩:=e;refine⟨i,?_,f,fun n x j l k=>?_⟩
 ·rcases a with a|a
  ·exact d.kind c h a
  exact d.grown c fun p d e=>by cases e;exact a d
 obtain⟨⟨i,a⟩,f⟩:=q n x j l k;refine⟨⟨i,?_⟩,f⟩
 rcases b with b|b
 ·exact a.kind c h b
 exact a.grown c fun p d e=>by cases e;have:=f _ d;omega
theorem MkR.fileVar (h:MkR base hi w V m vt T) {g:Nat} {cs:Array Xq} (a:w.grownBy w' (Xa g)) (b:w.heap[g]? =Xa (Xk cs 65 (0,0))) (c:(V.fl.x).ownBlock≠Xa g):MkR base hi w' V m vt T:=by
 obtain⟨d,e,f,i,j,k,k,l,n⟩:=h.kept a b;obtain⟨s,p,q,r⟩:=h.flB.kind a b (.inr c) (.inl (by decide))
 exact⟨nT h.hw a.size,h.bh,d (by decide),e (.inl (by decide)),h.slh,f (.inl (by decide)),h.sbh,h.sq,i (.inl (by decide)),h.dbh,j (by decide),⟨s,p,q,fun i x f b a=>(r i x f b a).1⟩,k (by decide),l (by decide) (by decide),n (by decide),h.ap⟩
theorem MkR.ints (h:MkR base hi w V m vt T) (e:FlB base hi S0 w V m) {g:Nat} {cs:Array Xq} (a:w.grownBy w' (Xa g)) (b:w.heap[g]? =Xa (Xk cs 3 (0,0))) (c:S0<=g) (d:hi<=g):MkR base hi w' V m vt T:=by
 obtain⟨f,i,j,k,l,n,n,p,q⟩:=h.kept a b;obtain⟨u,r,s,t⟩:=e.kind a b (.inl (by decide)) (.inr c)
 exact⟨nT h.hw a.size,h.bh,f (by decide),i (.inr d),h.slh,j (.inl (by decide)),h.sbh,h.sq,k (.inl (by decide)),h.dbh,l (by decide),⟨u,r,s,fun i x f b a=>(t i x f b a).1⟩,n (by decide),p (by decide) (by decide),q (by decide),h.ap⟩
end
section
variable{w0 w w':Xn} {hi b:Nat} {vl:Sli} {L:List Int} {V:MaV} {m:Ma} {vt:Sli} {T:List (Nat->En)}
theorem Mk.setDb (h:Mk w0 hi w b vl L V m vt T) {g:Nat} (i:(V.db.x).ownBlock=Xa g) (a:w.grownBy w' (Xa g)) (k:w'.heap.size=w.heap.size) {c:List (List Int)} (d:∀f∈m.fs,f.r=0) (j:zj w0.heap.size w' (V.db.x) c):Mk w0 hi w' b vl L V { m with db:=c } vt T/\zD hi w w':=by
 obtain⟨e,c,c⟩:=QZ h.rows.db i;refine⟨⟨zd h.gr a e,h.hb,h.box.beside a (fun e e=>?_),h.lr,h.lc,h.lb,h.rows.setDb c i a k d j⟩,zD.kind a c (fun p d=>?_)⟩
 ·cases e;intro e;subst e;have a:w.heap[b]? =_:=h.box;rw[c]at a;cases a
 have:=d.2.2.2.2.2.2.2.2 rfl;have:=h.rows.dbh g i;omega
end
end
end Go.Proofs.YtjjdljjhmcegdaaGreat
