import Derived.Test.YtmfckdkcmbncdaaGreatFP5
namespace Go.Proofs.YtmfckdkcmbncdaaGreat
open Go.Value renaming slice→O,int→Xe,bool→Xh,agg→Xi,pointer→Xj,tuple→Xm
open Go.IntKind renaming i64→Xf,u8→Xg
open Go.Obj renaming cells→Xk
open Go.Ending renaming returned→Xl
open Go renaming World→Xn,Calls→Xp,Value→Xq
open Go.RowKit renaming Hid→Xo
open Option renaming some→Xa,none→Xb
open Bool renaming true→Xc,false→Xd
open List renaming replicate→Xr
open Go.Addr renaming add_lit→Xs
open _root_.List renaming getElem?_cons_succ→Xt,flatMap_append→Xw,take_of_length_le→Xx,getElem?_append_left→Xz,mem_cons_self→Ya,replicate_append_replicate→Yc,length_take→Yd,countP_cons→Ye,length_map→Yg,take→Yh,drop→Yi,mem_filter→Yj,take_append_drop→Yk,contains_iff_mem→Yl,getElem?_of_mem→Yn,drop_replicate→Yo,append_assoc→Yq,map_nil→Yr,mem_map→Ys,ext_getElem?→Yt,getElem?_set→Yu,take_add_one→Yv
open Go.Act renaming put→Xu
open Go.Sem renaming run_bind→Xv,run_pure→Yb
open _root_.Nat renaming le_of_ble_eq_true→Xy,min_eq_left→Yf,mul_le_mul_right→Ym,lt_of_lt_of_le→Yp,mul_one→Yw,min→Yx
set_option maxRecDepth 100000
set_option maxHeartbeats 4000000
variable{B b fi g ix j:Nat} {Q:Exit->Act->Xn->Prop} {V:MaV} {W w' w0 w1 w2:Xn} {l:List Ar} {m:Ma} {o:Oper} {ops:Array Oper} {t:TypeId} {vs:List Xq}
open Go.Proofs.Tryz
section
open Go.RowKit
theorem zmD (n:Nat) (a:n<=40) (w):
  Xp prog 107 #[.int .u64 1,.int .u64 (n:Int)] w fun e w'=>e= Xl (Xm #[.int .u64 0,.int .u64 (n:Int)])/\w'=w:=by
 have h:bits .and .u64 1 4294967295=1:=Mul64.maskN 1 (by omega)
 have i:bits .and .u64 (n:Int) 4294967295=(n:Int):=by rw[Mul64.maskN n (by omega)];omega
 have g:bits .and .u64 0 4294967295=0:=Mul64.maskN 0 (by omega)
 have f:(n:Int) / 4294967296=0:=by omega
 have c:=dD h;have d:=dD i;have b:=dD g;have a:=dD f;clear h i g f
 go_enter func107,ntmps107
 go_wp2;have f:IntKind.u64.wrap 0=0:=Mul64.wrapN 0 (by omega)
 have g:IntKind.u64.wrap (n:Int)=(n:Int):=Mul64.wrapN n (by omega)
 simp only[c.out,d.out,Int.one_mul,g,a.out,f,b.out,Int.mul_zero,Int.add_zero,Int.zero_ediv]
 go_ret2
 exact⟨rfl,rfl⟩
theorem zp7 (n:Nat) (b:n<=40) (w):
  Xp prog 57 #[.int .u64 1,.int .u64 (n:Int)] w fun e w'=>e= Xl (Xm #[.int .u64 0,.int .u64 (n:Int)])/\w'=w:=by
 have a:=zmD n b w
 go_enter func57,ntmps57
 go_wp2_with (go_at_call 107;refine a.mono ?_;rintro e w' ⟨rfl,a⟩;rw[a])
 go_ret2
 exact⟨rfl,rfl⟩
section
variable{α:Type} {E:Elt α}
theorem zkd (m:List α):∀(l:List α) (a:Nat),a+m.length<=l.length->splice (l.flatMap E.enc) (a*E.k) (m.flatMap E.enc)=(l.take a++(m++l.drop (a+m.length))).flatMap E.enc:=fun l a h=>by
 have b:∀(l:List α) (j:Nat),j<=l.length->(l.flatMap E.enc).take (j*E.k)=(l.take j).flatMap E.enc/\(l.flatMap E.enc).drop (j*E.k)=(l.drop j).flatMap E.enc:=fun l j e=>by
  have c:l.flatMap E.enc=(l.take j).flatMap E.enc++(l.drop j).flatMap E.enc:=by rw[<-Xw,Yk]
  have d:((l.take j).flatMap E.enc).length=j*E.k:=by rw[jH E,Yd,Yf e]
  constructor
  ·rw[c,<-d,List.take_left]
  rw[c,<-d,List.drop_left]
 unfold splice;rw[jH E m,<-Nat.add_mul,(b l a (by omega)).1,(b l (a+m.length) h).2,Xw,Xw]
theorem za3 {w:Xn} (k) (base:Nat) (v:Xq) (l:List α) (d:zc E base w v l) (g:Nat) (p:v.ownBlock=Xa g) (a b f:Nat) (j) (e i:Nat)
  (m:List α) (r:m.length=Yx e b) (h:qW w j (m.flatMap E.enc)) (c:a+m.length<=l.length):
  ∃w',(Builtin.copy_ #[E.st,E.st] k #[O (Xa ⟨g,a*E.k,Xb⟩) b f,O (Xa j) e i]).run prog w= .ok (goInt m.length) w'/\zc E base w' v (l.take a++(m++l.drop (a+m.length)))/\w.grownBy w' (Xa g)/\w'.heap.size=w.heap.size:=by
 obtain⟨b,q,_,f,_⟩:=info_parts E.info;have e:=jH E m;have b:a*E.k+(m.flatMap E.enc).length<=l.length*E.k:=by
  rw[e,<-Nat.add_mul];exact Ym _ c
 obtain⟨w',s,i,k,n⟩:=qw (P:=prog) d.1 p (a*E.k) (m.flatMap E.enc) b (qJ E.one m);have b:=run_loadCells_list (P:=prog) w j (m.flatMap E.enc) h;rw[e]at b;rw[zkd m l a c]at i;have hlen:(l.take a++(m++l.drop (a+m.length))).length=l.length:=by simp;omega
 refine⟨w',?_,⟨by rw[hlen];exact i,by rw[hlen];exact d.2⟩,k,n⟩
 simp[Builtin.copy_,run_underlying E.und,Builtin.lenOf,Builtin.firstCells,sizeOf,typeInfo,q,f,<-r,b,s]
theorem Zx {w:Xn} {rest:List Oper} {a:Act} (q:o.guard=Xb) (d s) (B:o.op= .call { callee:= .builtin .copy,args:=#[d,s],argTypes:=#[E.st,E.st] })
  (base:Nat) (v:Xq) (l:List α) (j:zc E base w v l) (g:Nat) (z:v.ownBlock=Xa g) (c b f:Nat) (r:Addr) (y:a.eval d= O (Xa r) b f) (k:r=⟨g,c*E.k,Xb⟩) (p:Addr) (e h:Nat) (C:a.eval s= O (Xa p) e h)
  (m:List α) (A:m.length=Yx e b) (n:qW w p (m.flatMap E.enc)) (i:c+m.length<=l.length)
  (t:∀w',zc E base w' v (l.take c++(m++l.drop (c+m.length)))->w.grownBy w' (Xa g)->w'.heap.size=w.heap.size->wpList prog ops Q rest (a.put o.dst (goInt m.length)) w'):wpList prog ops Q (o :: rest) a w:=by
 subst k;refine wpList_plain q fun K x=>?_
 obtain⟨w',k,q,r,u⟩:=za3 o.type base v l j g z c b f p e h m A n i;unfold Oper.wp
 simp[execOp,B,resolve,invoke,builtin,y,C,k,Result.andThen]
 exact x _ _ (t w' q r u)
end
theorem zon (q:Int) (n m z:Nat) (_h:m<=n) (a:z=Yx m (n - m)):(Xr m q++Xr (n - m) (0:Int)).take m++(Xr z q++(Xr m q++Xr (n - m) (0:Int)).drop (m+z))=Xr (m+z) q++Xr (n -(m+z)) (0:Int):=by
 have b:z<=n - m:=by rw[a];exact Nat.min_le_right _ _
 rw[List.take_append_of_le_length (by simp),Xx (by simp),List.drop_append,List.drop_of_length_le (by simp),List.nil_append,lR,Yo,<-Yq,Yc]
 congr 2
 omega
theorem zkj (q:Int) (x:Nat) (c n:Nat) (i:n<=40) (d:1<=n) (w:Xn) (a:zl blE w (O (Xa ⟨x,0,Xb⟩) 1 c) [q]):
  Xp prog 217 #[O (Xa ⟨x,0,Xb⟩) 1 c,I6 (n:Int)] w fun e w'=>∃b,e= Xl b/\qj blE w.heap.size w' b (Xr n q)/\zb w w':=by
 have h:Xo (qW w ⟨x,0,Xb⟩ ([q].flatMap blE.enc)):=by
  obtain⟨⟨f,f,g,_,f⟩,_⟩:=a;cases g;exact f _ rfl
 clear a;have a:=zp7 n i w;have i:¬(n:Int)<0:=by omega
 have i:¬(9223372036854775807:Int)< (n:Int):=by omega
 go_enter func217,ntmps217
 go_wp2_with (first
  | (go_at_call 57;refine a.mono ?_;rintro e w' ⟨rfl,a⟩;rw[a])
  | (refine qX blE rfl (.tmp 29) rfl n rfl (by show n*8<=_;omega) ?_;intro C a;have i:Xo (zc blE w.heap.size (w.alloc (Xk C 3)) (O (Xa ⟨w.heap.size,0,Xb⟩) n n) (Xr n (0:Int))):=a;clear a)
  | (refine Zx (E:=blE) rfl (.tmp 31) (.tmp 32) rfl w.heap.size (O (Xa ⟨w.heap.size,0,Xb⟩) n n) (Xr n (0:Int)) i w.heap.size rfl 0 n n _ rfl ?a1 _ 1 c rfl [q] ?a2 ?a3 ?a4 ?_))
 case a1=>simp
 case a2=>show 1=Yx 1 n;exact(Yf d).symm
 case a3=>exact h.grew (za _ _)
 case a4=>simp;omega
 intro j h a _;have i:Xo (zc blE w.heap.size j (O (Xa ⟨w.heap.size,0,Xb⟩) n n) (Xr 1 q++Xr (n - 1) (0:Int))):=show zc _ _ _ _ (Xr 1 q++Xr (n - 1) (0:Int)) by simpa [Yo]using h
 have j:=dD<|zd (za _ _) a (nR _);clear h a;go_wp2
 go_loopg [8] n (fun a h wr=>∃m:Nat,1<=m/\m<=n/\n - m<=a/\h=I6 m/\Xo (zc blE w.heap.size wr (O (Xa ⟨w.heap.size,0,Xb⟩) n n) (Xr m q++Xr (n - m) (0:Int)))/\Xo (zb w wr))
 case atStart=>exact⟨1,nR _,d,by omega,rfl,i,j⟩
 obtain⟨m,a,a,a,rfl,r,p⟩:=hrel
 by_cases j:m<n
 ·have k:=kC j
  have a:(m:Int)<=(n:Int):=by omega
  have h:=dD<|r.grew (gW _)
  obtain⟨z,l⟩:∃z,Xo (z=Yx m (n - m)):=⟨_,rfl⟩;have a:z=min m (n - m):=l.out;have d:1<=z:=by omega
  have i:z<=m:=by omega
  have d:z<=n - m:=by omega
  clear a;have d:qW wr.drew ⟨w.heap.size,0,Xb⟩ ((Xr z q).flatMap blE.enc):=fun s u a=>by
   have g:=h.1.cells rfl;refine g s u ?_;rw[Xw,Xz]
   ·rw[show m=z+(m - z) by omega,<-Yc,Xw,Xz (gS.1 a).1]
    exact a
   have f:=(gS.1 a).1;rw[jH blE]at f⊢;simp only[lR]at f⊢;exact Yp f (Ym _ i)
  obtain⟨s,a,f,i,_⟩:=za3 (E:=blE) 3 w.heap.size _ _ h w.heap.size rfl m (n - m) (n - m) ⟨w.heap.size,0,Xb⟩ m n (Xr z q) (by rw[lR];exact l) d (by simp;omega)
  have h:(Builtin.copy_ #[33,33] 3 #[O (Xa ⟨w.heap.size,m,Xb⟩) (n - m) (n - m),O (Xa ⟨w.heap.size,0,Xb⟩) m n]).run prog wr.drew= .ok (I6 (z:Int)) s:=by
   have g:=a;rw[lR,show m*blE.k=m from Yw m]at g
   exact g
  have h:Xo (zc blE w.heap.size s (O (Xa ⟨w.heap.size,0,Xb⟩) n n) (Xr (m+z) q++Xr (n -(m+z)) (0:Int))):=dD<|by
   rw[<-zon q n m z (by omega) l.out]
   rw[lR]at f;exact f
  have g:=dD<|zd (p.trans (gW _)) i (nR _)
  clear d a f i;go_wp2
  go_region
  go_wp2
  go_roundg (n -(m+z))
  case measure=>omega
  exact⟨m+z,by omega,by omega,nR _,by go_num,h,g⟩
 have k:=kD j
 have:m=n:=by omega
 subst this;have a:Xo (zc blE w.heap.size wr (O (Xa ⟨w.heap.size,0,Xb⟩) m m) (Xr m q)):=dD<|by have:=r.out;simpa using this
 go_wp2;go_ret;exact⟨_,rfl,a.new,p⟩
theorem zfv {w:Xn} {a:Option Nat} (h:zb w w1) (k:w1.grownBy w2 a):w.grownBy w2 a:=
 ⟨k.os.trans (Below.os h),k.tape.trans (Below.tape h),k.output.trans (Below.output h),nT (bS h) k.size,fun i b a=>(k.block i (Yp b (bS h)) a).trans (Below.block h i b)⟩
theorem zh2 (a) (c:Nat) (l:List Int) (n:Nat) (ar:n<=12) (aq:l.length<=12) (base:Nat) (w:Xn) (b:zc blE base w (O a l.length c) l) (hb:base<=w.heap.size):
  Xp prog 189 #[O a l.length c,I6 (n:Int)] w fun e w'=>∃G u,e= Xl (O G n u)/\qj blE base w' (O G n u) (zcu l n)/\(∀x,G=Xa x->∃cs,w'.heap[x.block]? =Xa (Xk cs blE.ty (0,0)))/\w.grownBy w' (O a l.length c).ownBlock:=by
 have F:=dD b;obtain⟨ai,s⟩:=kA l.length;have U:Xo (∀x,a=Xa x->∃cs,w.heap[x.block]? =Xa (Xk cs blE.ty (0,0))):=show∀x,_ from fun x P=>b.obj (by rw[P];rfl)
 by_cases i:n<=l.length
 ·have Y:l.length<=c:=by
   rcases b.1.2 with⟨g,_⟩|⟨aa,H,K,g,_,_,ad,_⟩
   ·have h:=congrArg (fun S=>match S with | O _ n _=>n | _=>0) g
    simp at h
    simp[h]
   have h:=congrArg (fun S=>match S with | O _ _ n=>n | _=>0) g
   simp at h
   rw[h];exact ad
  have q:zcu l n=l.take n:=by
   unfold zcu;rw[show n - l.length=0 by omega]
   simp
  have t:Xo (qj blE base w (O a n c) (zcu l n)):=dD<|by
   obtain⟨⟨⟨x,u,a6,a7,a8⟩,ap⟩,a9⟩:=b.new;cases a6;rw[q];refine⟨⟨⟨a,c,by rw[Yd,Yf i],fun ab=>by rw[a7 ab];simp,fun ak af ah aj Z=>?_⟩,?_⟩,fun x k u e=>?_⟩
   ·refine a8 ak af ah aj ?_;rw[<-Yk n l,Xw,Xz (gS.1 Z).1];exact Z
   ·rw[Yd,Yf i]
    show n*8<=_
    omega
   cases e;exact a9 x _ _ rfl
  have Q:(n:Int)<=(l.length:Int):=by omega
  have ag:(n:Int)<=(c:Int):=by omega
  rw[s.out]at Q⊢;clear b q
  rcases a with _|x
  ·have g:ai=0:=by
    rw[<-s.out];have h:=F.1.2
    rcases h with⟨g,ac⟩|⟨aa,H,K,g,_⟩
    ·exact ac
    cases g
   subst g;have N:n=0:=by omega
   subst N
   go_enter func189,ntmps189
   go_wp2;refine bodyPost_ret (v:= O Xb 0 c) (by simp[results,Tryz.results189,go_sem, *]) rfl ⟨_,_,rfl,t,U,World.grownBy.rfl' _ _⟩
  go_enter func189,ntmps189
  go_wp2;refine bodyPost_ret (v:= O (Xa x) n c) (by simp[results,Tryz.results189,go_sem, *]) rfl ⟨_,_,rfl,t,U,World.grownBy.rfl' _ _⟩
 obtain⟨k,ae⟩:∃k,n=l.length+k:=⟨n - l.length,by omega⟩
 have q:zcu l n=l++Xr k (-1):=by
  unfold zcu;rw[Xx (by omega),show n - l.length=k by omega]
 have a2:=dD q;have L:1<=k:=by omega
 have M:k<=40:=by omega
 have Q:¬(n:Int)<=(l.length:Int):=by omega
 have r:(n:Int) -(l.length:Int)=(k:Int):=by omega
 have a1:=dD hb;have j:Xo ((l.length+(Xr k (-1:Int)).length)*blE.bytes<=140737488355328):=show(_+_)*8<=_ by rw[lR];omega
 have B:Xo ((l++Xr k (-1:Int)).length=n):=dD<|by rw[lA,lR];omega
 rw[s.out]at Q r j F⊢;clear b q hb i ae;obtain⟨V,f⟩:=kB (w.alloc (Xk #[I6 (-1)] 3));have A:=gA f
 have a5:Xo (zl blE V (O (Xa ⟨w.heap.size,0,Xb⟩) 1 1) [-1]):=dD<|by rw[<-f];exact Zg blE w (-1) _ _ rfl (by show 8<=_;omega)
 have D:=dD f;clear f
 go_enter func189,ntmps189
 go_wp2_with fail;rw[D.out];refine(zkj (-1) w.heap.size 1 k M L V a5).mono ?_;rintro e al ⟨am,rfl,R,X⟩;have y:=dD (A.trans X);have t:=dD R.1;obtain⟨an,ao,p,_⟩:=R.1.nums;rw[lR]at p;subst p;have a4:=dD (F.grew y);have z:=dD<|nT a1 (bS y);clear R X
 go_wp2_with (at_builtin;refine zx (E:=blE) rfl (.tmp 12) (.tmp 18) rfl base _ l rfl a4 _ (Xr k (-1)) rfl t.out ?qb z.out ?_)
 case qb=>rw[s.out];exact j.out
 intro au W d m;obtain⟨T,I,rfl⟩:=d.form;rw[B.out]at d⊢;have a3:Xo (qj blE base W (O T n I) (zcu l n)):=dD<|by rw[a2.out];exact d.new
 have C:Xo (∀x,T=Xa x->∃cs,W.heap[x.block]? =Xa (Xk cs blE.ty (0,0))):=dD<|fun x P=>d.obj (by rw[P];rfl)
 have a0:=dD<|zfv y m;clear d m;go_wp2;refine bodyPost_ret (v:= O T n I) (by simp[results,Tryz.results189,go_sem, *]) rfl ⟨_,_,rfl,a3,C,a0⟩
theorem qj.grown {α:Type} {E:Elt α} {base G:Nat} {w:Xn} {a:Option Addr} {n c:Nat} {l:List α} (h:qj E base w (O a n c) l) (k:w.grownBy w' (Xa G)) (hb:∀x,a=Xa x->x.block≠G):qj E base w' (O a n c) l:=by
 obtain⟨⟨⟨b,b,b,d,e⟩,f⟩,g⟩:=h;cases b;refine⟨⟨⟨a,c,rfl,d,fun x d j u b=>?_⟩,f⟩,g⟩
 subst d;have d:=e x rfl j u b;have e:=World.block_lt_of_cell? _ _ d;have b:=hb x rfl;rw[Za]at e;rw[World.cell?_of_block (w:=w) (k.block _ (by rw[Za];exact e) (fun e=>by rw[Za]at e;cases e;exact b rfl))]
 exact d
theorem zjk {fs:List Fl} {a k:Int} (h:stW fs a≠0):zmx fs a k=stW fs a:=by unfold zmx;rw[kF h]
theorem zgq {fs:List Fl} {a k:Int} (h:stW fs a=0) (b:¬(0<=k/\k< (fs.length:Int))):zmx fs a k=5:=by unfold zmx;rw[kE h,kF (by rw[Qv];exact b)]
theorem zbO {fs:List Fl} {a:Int} {i:Nat} {f:Fl} (h:stW fs a=0) (b:fs[i]? =Xa f):zmx fs a (i:Int)=0:=by
 have:=(gS.1 b).1;unfold zmx;rw[kE h,kE (Qv.2 ⟨by omega,by omega⟩)]
theorem zke (v fs) (a k n:Int) (w:Xn) (a8:qq w v fs):
  Xp prog 153 #[Xi #[v,I6 a],I6 k,I6 n] w fun e w'=>∃b,e= Xl (Xm #[Xi #[b,I6 (zn2 fs a k n)],I6 (zfR fs a k n)])/\qp 0 w.heap.size w' b (zlz fs a k n)/\zb w w':=by
 have c:∀W,zb w W->Xp prog 188 #[Xi #[v,I6 a],I6 k] W fun e w'=>e= Xl (I6 (zmx fs a k))/\zb W w':=fun W bx=>zb7 v fs a k W (a8.grew bx)
 have a4:∀W,zb w W->Xp prog 54 #[Xi #[v,I6 a]] W fun e w'=>∃b,e= Xl (Xi #[b,I6 a])/\z2 (W.heap.size+2) w' b fs/\zb W w'/\W.heap.size+2<=w'.heap.size:=fun W bx=>za8 v fs a W (a8.grew bx)
 obtain⟨br,bt,rfl,b0,_⟩:=a8.rows;clear a8;obtain⟨C,a2⟩:=kA fs.length;rw[a2.out]at c a4 b0⊢;obtain⟨d5,L⟩:=kB ((w.alloc (Xk #[O br C bt,I6 a] 41)).alloc (Xk #[eS,I6 0] 41));have s:=gD2 L
 have d6:=x2a L
 have bp:=x2b L
 have af:Xo (_=d5):=L;clear L;have R:∀aw:Int,aw≠0->(∀W,zb w W->Xp prog 188 #[Xi #[O br C bt,I6 a],I6 k] W fun e w'=>e= Xl (I6 aw)/\zb W w')->Xp prog 153 #[Xi #[O br C bt,I6 a],I6 k,I6 n] w fun e w'=>∃b,e= Xl (Xm #[Xi #[b,I6 0],I6 aw])/\qp 0 w.heap.size w' b []/\zb w w':=fun aw de c=>by
  have df:(aw != 0)=Xc:=by simpa using de
  clear a4
  go_enter func153,ntmps153
  go_wp2_with fail;rw[af.out];refine(c _ s).mono ?_;rintro e d ⟨rfl,B⟩;have au:=dD (s.trans B);have Q:=bp.grew B;have cr:=Q.c 0 rfl;have ct:=Q.c 1 rfl;have cu:=Q.f;clear B c;go_wp2;refine bodyPost_ret (v:= Xm #[Xi #[eS,I6 0],I6 aw]) (by simp[results,Tryz.results153,go_sem, *]) rfl ⟨_,rfl,qp.nil _ _ _,?_⟩
  exact Below.setCell (Below.setCell au (p:=⟨w.heap.size+1,0,Xb⟩) (by simp) _) (p:=⟨w.heap.size+1,1,Xb⟩) (by simp) _
 rcases zmc fs a k n with⟨P,S,K,T⟩|⟨P,ao,S,K,T⟩|⟨P,z,f,rfl,a5,a6,S,K,T⟩|⟨P,z,f,rfl,a5,a6,S,K,T⟩
 ·rw[S,K,T];rw[zjk P]at c;exact R _ P c
 ·rw[S,K,T];rw[zgq P ao]at c;exact R _ (by decide) c
 ·rw[S,K,T];rw[zbO P a5]at c;have bf:=fun W=>zak (m:=n) (n:=97) (by omega) W
  clear S K T a4 P a6 R a5
  go_enter func153,ntmps153
  go_wp2_with fail;rw[af.out];refine(c _ s).mono ?_;rintro e d ⟨rfl,B⟩;have au:=dD (s.trans B);have Q:=bp.grew B;have cr:=Q.c 0 rfl;have ct:=Q.c 1 rfl;have cu:=Q.f;clear B c
  go_wp2_with (go_at_call 27;refine(bf _).mono ?_;rintro e w' ⟨rfl,rfl⟩)
  refine bodyPost_ret (v:= Xm #[Xi #[eS,I6 0],I6 3]) (by simp[results,Tryz.results153,go_sem, *]) rfl ⟨_,rfl,qp.nil _ _ _,?_⟩
  exact Below.setCell (Below.setCell au (p:=⟨w.heap.size+1,0,Xb⟩) (by simp) _) (p:=⟨w.heap.size+1,1,Xb⟩) (by simp) _
 rw[S,K,T];rw[zbO P a5]at c;have bf:=fun W=>j8 (m:=n) (n:=97) a6.1 (by omega) W
 have al:=fun W=>zbx n W a6.1 a6.2
 have c2:=zby a6.1 a6.2;obtain⟨i,c5⟩:∃i:Nat,zcl n=(i:Int):=⟨(zcl n).toNat,by omega⟩
 rw[c5]at al;have d1:Xo ((zcl n).toNat=i):=dD<|by rw[c5,tN]
 have b2:i<=12:=by omega
 rw[d1.out];have Z:=((qC fs a).1 P).2.1 f (mG a5);have c3:f.bl.length<=12:=by
  have:=zby Z.1.1 Z.1.2;have:=Z.2.1;omega
 have Y:z<C:=by rw[<-a2.out];exact(gS.1 a5).1
 have ck:(z:Int)< (C:Int):=by omega
 have d0:=dD a5;clear S K T P a6 R a5 Z c2 c5
 go_enter func153,ntmps153
 go_wp2_with fail;rw[af.out];refine(c _ s).mono ?_;rintro e d ⟨rfl,B⟩;have au:=dD (s.trans B);have ch:=dD (d6.grew B);have Q:=dD (bp.grew B);have dl:=ch.c 0 rfl;have dm:=ch.c 1 rfl;clear B c
 go_wp2_with (go_at_call 27;refine(bf _).mono ?_;rintro e w' ⟨rfl,b4⟩;rw[b4];clear b4 w')
 refine(a4 _ au).mono ?_;rintro e bn ⟨b,rfl,cb,bv,co⟩;have r:Xo (w.heap.size+2<=d.heap.size):=Q.lt;obtain⟨bi,bg,b7,ca,cl⟩:=cb;obtain⟨x,l⟩:∃x,bi[z]? =Xa x:=⟨_,gE (by rw[b7,a2.out];exact Y)⟩
 obtain⟨G,ai,rfl⟩:=bg.formS (by rw[b7,a2.out];omega)
 rw[b7,a2.out]at bg⊢;obtain⟨cc,av⟩:=ca z x f l d0.out;obtain⟨dp,D,dn,F⟩:=x;obtain⟨di,dj,cn⟩:=av.form;have dh:O D dn F= O di f.bl.length dj:=cn;cases dh;have bl:=dD l;have d2:=dD bg;have bm:=dD b7;have d3:=dD ca;have d4:=dD cl;have cf:Xo (zc blE (d.heap.size+2) bn (O D f.bl.length F) f.bl):=av;have cx:=dD (au.trans bv);have bk:=dD co;have bj:=dD bv;clear bv co a4 dl dm bg b7 ca cl cc av cn l bf;go_upto_region 7 with fail;obtain⟨a9,y⟩:=kB bn.heap.size;obtain⟨ah,V⟩:=kB (bn.alloc (Xk #[O (Xa ⟨G,0,Xb⟩) C ai,I6 a] 41));have q:=gA V
 have ay:Xo (zn ah a9 41 [O (Xa ⟨G,0,Xb⟩) C ai,I6 a]):=dD<|by rw[<-V];exact zn.top _ _ _ y.symm
 have d7:=dD ((Q.grew bj).grew q);have ae:Xo (d.heap.size+2<=a9):=show _<=_ by rw[<-y];exact bk.out
 have ac:=dD ay.box.lt;have cy:=dD (cx.trans q);have t:=dD (d2.grew q);have H:=dD (cf.grew q);rw[V];rw[y];clear V y;obtain⟨j,am,db,dc,dd,b1⟩:∃j,(∀A,(O D f.bl.length F).ownBlock=Xa A->A=j)/\j≠G/\j≠a9/\d.heap.size+2<=j/\((O D f.bl.length F).ownBlock=Xb->ah.heap.size<=j):=by
  cases N:(O D f.bl.length F).ownBlock with
  | none=>exact⟨ah.heap.size,fun A U=>(by cases U),by have:=(t.lt G rfl).2;omega,by have:=ac.out;omega,by have:=ac.out;have:=ae.out;omega,fun _=>nR _⟩
  | some j=>
   refine⟨j,fun A U=>by cases U;rfl,fun e=>?_,fun e=>?_,(H.lt j N).1,fun U=>by cases U⟩
   ·subst e;exact H.apart t QC j N rfl
   exact H.ne ay (by decide) j N e.symm
 obtain⟨I,aa⟩:∃I:Xn->Prop,Xo (∀w,I w↔Out j (j+1) ah w):=⟨fun w=>Out j (j+1) ah w,fun _=>Iff.rfl⟩
 have c9:∀x:zk I,x.world.cell? ⟨a9,0,Xb⟩=Xa (O (Xa ⟨G,0,Xb⟩) C ai):=fun x=>(ay.box.out ((aa _).1 x.holds) (by omega)).c 0 rfl
 have b5:∀x:zk I,x.world.cell? ⟨G,z*2+1,Xb⟩=Xa (O D f.bl.length F):=fun x=>by
  have N:=t.out.out ((aa _).1 x.holds) (fun A h=>by simp[Value.ownBlock]at h;omega)
  obtain⟨dq,dt,c8,ap⟩:=N.at.rows;obtain⟨dr,bz,c1⟩:=ap z _ bl.out;cases c8;cases bz;have:=c1 _ (zb.refl _) 1 _ rfl;rw[jb,Xs,zA]at this;exact this
 have c6:Nonempty (zk I):=⟨⟨ah,(aa _).2 (Out.refl _ _ _)⟩⟩;obtain⟨b8,ab⟩:=kA f.bl.length;rw[ab.out]at b5 am b1 cf H bl;refine jU (I:=I) 15 [(11,⟨fun v=>v=I6 (i:Int),fun _ _=>True,fun w w'=>w'=w,fun _=>True⟩),(12,⟨fun v=>∃bs a3,v= O bs i a3,fun v w'=>qj blE (d.heap.size+2) w' v (zcu f.bl i)/\∀x bh a3,v= O (Xa x) bh a3->∃bd,w'.heap[x.block]? =Xa (Xk bd blE.ty (0,0)),fun w w'=>w.grownBy w' (O D b8 F).ownBlock,fun w=>zc blE (d.heap.size+2) w (O D b8 F) f.bl/\d.heap.size+2<=w.heap.size⟩)] ((aa _).2 (Out.drew _)) zZ (by kernel_rfl) rfl rfl (by decide) ?hS ?hp ?hpre ?hpr0 ?_
 case hS=>
  intro x l
  simp at l
  rcases l with rfl|rfl
  ·exact⟨_,rfl⟩
  exact⟨_,Xb,0,rfl⟩
 case hp=>
  intro k dk b6 cp ao c4 an _ v w w' aq y
  rcases zmG ao with⟨rfl,rfl⟩|⟨rfl,rfl⟩
  ·trivial
  rcases zmG c4 with⟨rfl,rfl⟩|⟨rfl,rfl⟩
  ·have e:w'=w:=aq;subst e;exact y
  exact absurd rfl an
 case hpre=>
  intro b6 cp k dk c4 ao an w w' aq a1
  rcases zmG c4 with⟨rfl,rfl⟩|⟨rfl,rfl⟩
  ·trivial
  rcases zmG ao with⟨rfl,rfl⟩|⟨rfl,rfl⟩
  ·have e:w'=w:=aq;subst e;exact a1
  exact absurd rfl an
 case hpr0=>
  intro k cp ao
  rcases zmG ao with⟨rfl,rfl⟩|⟨rfl,rfl⟩
  ·trivial
  exact⟨H.grew (gW _),show d.heap.size+2<=ah.heap.size by have:=ac.out;have:=ae.out;omega⟩
 simp only[Yh,Yi];iterate 11 refine qI ?_
 refine j5 rfl rfl (fun w' ak a1 be=>?_) (fun cq a8=>?_)
 ·refine zR.call [I6 n] rfl func149 rfl rfl rfl ?_;refine(al w').mono ?_;rintro e ce ⟨rfl,K⟩;subst K;exact⟨_,rfl,ak,rfl,rfl,trivial⟩
 obtain rfl:cq=I6 (i:Int):=a8;simp only[Xu,sB,sS,sZ];refine j5 rfl rfl (fun w' ak a1 be=>?_) (fun cq a8=>?_)
 ·refine zR.call [O D b8 F,I6 (i:Int)] rfl func189 rfl rfl rfl ?_;have a7:zc blE (d.heap.size+2) w' (O D b8 F) f.bl/\d.heap.size+2<=w'.heap.size:=a1;have M:=zh2 D F f.bl i b2 c3 (d.heap.size+2) w' (by rw[ab.out];exact a7.1) a7.2
  rw[ab.out]at M;refine M.mono ?_;rintro e ce ⟨bs,a3,rfl,dg,N,cj⟩;refine⟨_,rfl,(aa _).2 (((aa _).1 ak).trans (Out.grown cj (fun A U=>by have:=am A U;omega))),cj,⟨bs,a3,rfl⟩,dg,fun x bh a3 e=>?_⟩
  cases e;exact N x rfl
 obtain⟨b9,ba,rfl⟩:=a8;simp only[Xu,sB,sS,sZ];iterate 2 refine qI ?_
 refine zad fun bo az be=>?_
 have aj:qj blE (d.heap.size+2) bo (O b9 i ba) (zcu f.bl i)/\∀x bh a3,O b9 i ba= O (Xa x) bh a3->∃bd,bo.heap[x.block]? =Xa (Xk bd blE.ty (0,0)):=be 12;have ax:=dD<|(aa _).1 az;clear be c9 b5 az c6 al;have ag:Xo (zc fvE (d.heap.size+2) bo (O (Xa ⟨G,0,Xb⟩) C ai) bi):=t.out.out ax (fun A h=>by simp[Value.ownBlock]at h;omega)
 refine qn (E:=fvE) rfl (.tmp 37) (.tmp 36) rfl (d.heap.size+2) _ bi ag G z rfl ⟨n,b9,i,ba⟩ ?t1 ⟨G,z*2,Xb⟩ ?t2 rfl (Xi #[I6 n,O b9 i ba]) ?t3 rfl ?_
 case t1=>rw[bm.out,a2.out];exact Y
 case t2=>rfl
 case t3=>rfl
 intro bb ar u cd;have bw:G≠a9:=fun e=>t.ne ay (by decide) G rfl e.symm
 have da:=(t.lt G rfl).1;have cg:Xo (Box bb a9 [O (Xa ⟨G,0,Xb⟩) C ai,I6 a]):=(ay.box.out ax (by omega)).grown u (fun e=>bw e.symm)
 have bq:Xo (Box bb (w.heap.size+1) [eS,I6 0]):=(d7.out.out ax (by have:=r.out;omega)).grown u (by have:=r.out;omega)
 have cz:Xo (zb w bb):=dD<|zd (Out.grew_of cy (by have:=r.out;omega) ax) u (by have:=r.out;omega)
 have cv:Xo (qp 0 (d.heap.size+2) bb (O (Xa ⟨G,0,Xb⟩) C ai) (fs.set z ⟨n,zcu f.bl i⟩)):=dD<|by
  refine⟨ar.cap,bi.set z ⟨n,b9,i,ba⟩,ar.new.stays,by simp[bm.out],fun b6 x d8 l X=>?_⟩
  by_cases e:b6=z
  ·subst e;rw[sF (by rw[bm.out,a2.out];exact Y)]at l
   rw[sF (by rw[a2.out];exact Y)]at X
   cases l;cases X;refine⟨rfl,(aj.1.grown u (fun x l d9=>?_)).stays⟩
   subst l;obtain⟨bd,c⟩:=aj.2 x _ _ rfl;obtain⟨du,a4⟩:=ag.obj (g:=G) rfl;rw[d9,a4]at c;simp only[Option.some.injEq,Obj.cells.injEq]at c;exact QC c.2.1.symm
  rw[sN (fun U=>e U.symm)]at l X
  obtain⟨cc,av⟩:=d3.out b6 x d8 l X;have cm:=(av.grew q).out ax (fun A h=>by
   have c:A≠j:=fun bu=>by
    subst bu
    cases N:(O D b8 F).ownBlock with
    | none=>
     have a4:=b1 N;have dv:=((av.grew q).lt A h).2;omega
    | some ci=>
     have:=am ci N;subst this;exact d4 b6 z x _ e l bl ci h N
   omega)
  exact⟨cc,(cm.grown u (fun A h bu=>by cases bu;exact ag.apart cm (Ne.symm QC) G rfl h)).new.stays⟩
 clear ar u cd aj;have dw:=cg.c 0 rfl;have dx:=cg.c 1 rfl;have cr:=bq.c 0 rfl;have ct:=bq.c 1 rfl;have cu:=bq.f;have b3:a9≠w.heap.size+1:=by have:=ae.out;have:=r.out;omega
 have c7:¬w.heap.size+1=a9:=fun e=>b3 e.symm
 go_wp2;refine bodyPost_ret (v:= Xm #[Xi #[O (Xa ⟨G,0,Xb⟩) C ai,I6 a],I6 0]) (by simp[results,Tryz.results153,go_sem, *]) rfl ⟨_,rfl,?_,?_⟩
 ·have cw:=cv.less (A0:=0) (A1:=w.heap.size+2) (nR _) (by have:=r.out;omega)
  exact((cw.out (Out.setCell _ _ _ (p:=⟨w.heap.size+1,0,Xb⟩) (nZ _) (by simp) _)).out (Out.setCell _ _ _ (p:=⟨w.heap.size+1,1,Xb⟩) (nZ _) (by simp) _)).less (nR _) (by omega)
 exact Below.setCell (Below.setCell cz (p:=⟨w.heap.size+1,0,Xb⟩) (by simp) _) (p:=⟨w.heap.size+1,1,Xb⟩) (by simp) _
theorem zet {fs:List Fl} {m:Nat}:jE fs m=(Qa fs (m:Int)).map fun(b:Nat)=>(b:Int):=zkF fs m
theorem ziO (v fs) (d k x:Int) (w:Xn) (f:qq w v fs):
  Xp prog 226 #[Xi #[v,I6 d],I6 k,I6 x] w fun e w'=>∃b,e= Xl (Xm #[Xi #[b,I6 (zlF fs d k x)],I6 (ziP fs d k x),I6 (Jy fs d k x)])/\qp 0 w.heap.size w' b (zho fs d k x)/\zb w w':=by
 have L:∀W,zb w W->Xp prog 188 #[Xi #[v,I6 d],I6 k] W fun e w'=>e= Xl (I6 (zmx fs d k))/\zb W w':=fun W P=>zb7 v fs d k W (f.grew P)
 have b7:∀W,zb w W->Xp prog 54 #[Xi #[v,I6 d]] W fun e w'=>∃b,e= Xl (Xi #[b,I6 d])/\z2 (W.heap.size+2) w' b fs/\zb W w'/\W.heap.size+2<=w'.heap.size:=fun W P=>za8 v fs d W (f.grew P)
 have ck:=dD f;obtain⟨g,c2,rfl,c,a⟩:=f.rows;have ca:=dD a;clear f a;obtain⟨D,Z⟩:=kA fs.length;rw[Z.out]at L b7 c ck⊢;obtain⟨c,a⟩:=kB ((w.alloc (Xk #[O g D c2,I6 d] 41)).alloc (Xk #[eS,I6 0] 41));have G:=gD2 a
 have ce:=x2a a
 have bz:=x2b a
 have ah:Xo (_=c):=a;clear a;have a9:∀z:Int,z≠0->(∀W,zb w W->Xp prog 188 #[Xi #[O g D c2,I6 d],I6 k] W fun e w'=>e= Xl (I6 z)/\zb W w')->Xp prog 226 #[Xi #[O g D c2,I6 d],I6 k,I6 x] w fun e w'=>∃b,e= Xl (Xm #[Xi #[b,I6 0],I6 0,I6 z])/\qp 0 w.heap.size w' b []/\zb w w':=fun z a L=>by
  have c:(z != 0)=Xc:=by simpa using a
  clear b7
  go_enter func226,ntmps226
  go_wp2_with fail;rw[ah.out];refine(L _ G).mono ?_;rintro e N ⟨rfl,u⟩;have V:=dD (G.trans u);have X:=bz.grew u;have cf:=X.c 0 rfl;have cg:=X.c 1 rfl;have ch:=X.f;clear u L;go_wp2;refine bodyPost_ret (v:= Xm #[Xi #[eS,I6 0],I6 0,I6 z]) (by simp[results,Tryz.results226,go_sem, *]) rfl ⟨_,rfl,qp.nil _ _ _,?_⟩
  exact Below.setCell (Below.setCell V (p:=⟨w.heap.size+1,0,Xb⟩) (by simp) _) (p:=⟨w.heap.size+1,1,Xb⟩) (by simp) _
 rcases znI fs d k x with⟨M,I,a1,a2,a3⟩|⟨M,c,I,a1,a2,a3⟩|⟨M,j,t,rfl,z,h,I,a1,a2,a3⟩|⟨M,j,t,C,b,rfl,z,rfl,ap,a,f,I,a1,a2,a3⟩|⟨M,j,t,C,rfl,z,rfl,ap,aq,I,a1,a2,a3⟩|⟨M,j,t,C,b,cp,rfl,z,rfl,ap,aq,I,a1,a2,a3⟩
 ·rw[I,a1,a2,a3];rw[zjk M]at L;exact a9 _ M L
 ·rw[I,a1,a2,a3];rw[zgq M c]at L;exact a9 _ (by decide) L
 ·rw[I,a1,a2,a3];rw[zbO M z]at L;have a4:j<D:=by rw[<-Z.out];exact(gS.1 z).1
  have ao:(j:Int)< (D:Int):=by omega
  obtain⟨a8,y,bm,bn,a5,c⟩:=ca.out j t z;subst y;have s:=dD c;clear c a5 a9;obtain⟨K,g⟩:=kA t.bl.length;have bp:=dD z;clear z;rw[g.out]at s;have an:=fun W=>zak h W
  rw[g.out]at an;clear I a1 a2 a3 b7 M h
  go_enter func226,ntmps226
  go_wp2_with fail;rw[ah.out];refine(L _ G).mono ?_;rintro e N ⟨rfl,u⟩;have V:=dD (G.trans u);have b5:=(ce.grew u).c 0 rfl;obtain⟨bs,ak⟩:=s.out N V.out;have X:=bz.grew u;have cf:=X.c 0 rfl;have cg:=X.c 1 rfl;have ch:=X.f;clear u L
  go_wp2_with (go_at_call 27;refine(an _).mono ?_;rintro e w' ⟨rfl,B⟩;rw[B];clear B w')
  refine bodyPost_ret (v:= Xm #[Xi #[eS,I6 0],I6 0,I6 9]) (by simp[results,Tryz.results226,go_sem, *]) rfl ⟨_,rfl,qp.nil _ _ _,?_⟩
  exact Below.setCell (Below.setCell V (p:=⟨w.heap.size+1,0,Xb⟩) (by simp) _) (p:=⟨w.heap.size+1,1,Xb⟩) (by simp) _
 ·rw[I,a1,a2,a3];rw[zbO M z]at L;have a4:j<D:=by rw[<-Z.out];exact(gS.1 z).1
  have ao:(j:Int)< (D:Int):=by omega
  obtain⟨a8,y,bm,bn,a5,c⟩:=ca.out j t z;subst y;have s:=dD c;clear c a5 a9;obtain⟨K,g⟩:=kA t.bl.length;have bp:=dD z;clear z;rw[g.out]at s;have b8:C<K:=by rw[<-g.out];exact(gS.1 ap).1
  have c4:(C:Int)< (K:Int):=by omega
  have an:=fun W=>j8 (m:=(C:Int)) (n:=(K:Int)) (by omega) (by omega) W
  have bv:=dD ap;have h:(b == -1)=Xd:=by simp;omega
  clear a f;clear I a1 a2 a3 M ap
  go_enter func226,ntmps226
  go_wp2_with fail;rw[ah.out];refine(L _ G).mono ?_;rintro e N ⟨rfl,u⟩;have V:=dD (G.trans u);have aj:=dD (ce.grew u);have X:=dD (bz.grew u);have b5:=aj.c 0 rfl;have b9:=aj.c 1 rfl;obtain⟨bs,ak⟩:=s.out N V.out;clear u L
  go_wp2_with (go_at_call 27;refine(an _).mono ?_;rintro e w' ⟨rfl,B⟩;rw[B];clear B w')
  refine(b7 _ V).mono ?_;rintro e ai ⟨cm,rfl,ax,al,bb⟩;have F:Xo (w.heap.size+2<=N.heap.size):=X.lt;obtain⟨bo,a6,T,aw,ba⟩:=ax;obtain⟨U,av⟩:∃U,bo[j]? =Xa U:=⟨_,gE (by rw[T,Z.out];exact a4)⟩
  obtain⟨Y,ac,rfl⟩:=a6.formS (by rw[T,Z.out];omega)
  rw[T,Z.out]at a6⊢;obtain⟨b4,ab⟩:=aw j U t av bp.out;obtain⟨b0,c8,c9,az⟩:=U;obtain⟨r,c7,ay⟩:=ab.formS (by rw[g.out];omega)
  rw[g.out]at ay;have c6:O c8 c9 az= O (Xa ⟨r,0,Xb⟩) K c7:=ay;cases c6;have be:=dD av;have bf:Xo (b0=t.size):=b4;have bq:=dD a6;have cb:=dD T;have cc:=dD aw;have cd:=dD ba;have bx:Xo (zc blE (N.heap.size+2) ai (O (Xa ⟨r,0,Xb⟩) K az) t.bl):=ab;have bu:=dD (V.trans al);have ag:=dD bb;have Q:=dD al;clear al bb b7 b5 b9 bs ak a6 T aw ba b4 ab ay av an;go_upto_region 7 with fail;obtain⟨aa,q⟩:=kB ai.heap.size;obtain⟨S,l⟩:=kB (ai.alloc (Xk #[O (Xa ⟨Y,0,Xb⟩) D ac,I6 d] 41));have f:=gA l
  have b2:Xo (zn S aa 41 [O (Xa ⟨Y,0,Xb⟩) D ac,I6 d]):=dD<|by rw[<-l];exact zn.top _ _ _ q.symm
  have br:=dD ((aj.grew Q).grew f);have bg:=dD ((X.grew Q).grew f);have b6:Xo (N.heap.size+2<=aa):=show _<=_ by rw[<-q];exact ag.out
  have bw:=dD b2.box.lt;have bd:=dD (bu.trans f);have a7:=dD (bq.grew f);have R:=dD (bx.grew f);rw[l];rw[q];clear l q;have af:Xo (∀W,zb S W->W.cell? ⟨Y,j*2+1,Xb⟩=Xa (O (Xa ⟨r,0,Xb⟩) K az)):=show∀W,_ from fun W P=>by
   obtain⟨bh,bi,i,a⟩:=(a7.grew P).at.rows;obtain⟨a8,h,c⟩:=a j _ be.out;cases i;cases h;have:=c _ (zb.refl _) 1 _ rfl;rw[jb,Xs,zA]at this;exact this
  have ae:Xo (∀W,zb S W->W.cell? ⟨r,C,Xb⟩=Xa (I6 b)):=dD<|fun W P=>by
   obtain⟨bh,bi,i,a⟩:=(R.grew P).at.nums;obtain⟨a8,h,c⟩:=a C _ bv.out;cases i;cases h;have:=c _ (zb.refl _);rw[Xs,zA]at this;exact this
  have c5:=b2.box.c 0 rfl;have ak:=af.out S (zb.refl _);have c3:=ae.out S (zb.refl _);have A:=dD<|(z2.grew ⟨bo,bq,cb,cc,cd⟩ f).new
  have cq:=b2.box.c 1 rfl;have cf:=bg.c 0 rfl;have cg:=bg.c 1 rfl;have ch:=bg.f;have ar:aa≠w.heap.size+1:=by have:=b6.out;have:=F.out;omega
  have bk:¬w.heap.size+1=aa:=fun e=>ar e.symm
  have au:r≠w.heap.size+1:=by have:=(R.lt r rfl).1;have:=F.out;omega
  have bl:¬w.heap.size+1=r:=fun e=>au e.symm
  go_wp2
  go_region
  all_goals go_wp2
  all_goals
   refine bodyPost_ret (v:= Xm #[Xi #[O (Xa ⟨Y,0,Xb⟩) D ac,I6 d],I6 b,I6 0]) (by simp[results,Tryz.results226,go_sem, *]) rfl ⟨_,rfl,?_,?_⟩
   ·have ci:=A.less (A0:=0) (A1:=w.heap.size+2) (nR _) (by have:=F.out;omega)
    exact(((ci.out (Out.setCell _ _ _ (p:=⟨w.heap.size+1,0,Xb⟩) (nZ _) (by simp) _)).out (Out.setCell _ _ _ (p:=⟨w.heap.size+1,1,Xb⟩) (nZ _) (by simp) _)).less (nR _) (by omega)).grew (gW _)
   exact(Below.setCell (Below.setCell bd (p:=⟨w.heap.size+1,0,Xb⟩) (by simp) _) (p:=⟨w.heap.size+1,1,Xb⟩) (by simp) _).drew
 ·rw[I,a1,a2,a3];rw[zbO M z]at L;have a4:j<D:=by rw[<-Z.out];exact(gS.1 z).1
  have ao:(j:Int)< (D:Int):=by omega
  obtain⟨a8,y,bm,bn,a5,c⟩:=ca.out j t z;subst y;have s:=dD c;clear c a5 a9;obtain⟨K,g⟩:=kA t.bl.length;have bp:=dD z;clear z;rw[g.out]at s;have b8:C<K:=by rw[<-g.out];exact(gS.1 ap).1
  have c4:(C:Int)< (K:Int):=by omega
  have an:=fun W=>j8 (m:=(C:Int)) (n:=(K:Int)) (by omega) (by omega) W
  have bv:=dD ap;obtain⟨H,bj⟩:∃H:Nat,d=(H:Int):=⟨d.toNat,by have:=((qC fs d).1 M).1;omega⟩
  subst bj;have A:H<=80:=by have:=((qC fs (H:Int)).1 M).1;omega
  have b3:∀W,zb w W->Xp prog 239 #[Xi #[O (Xa a8) D c2,I6 (H:Int)]] W fun e w'=>∃b,e= Xl b/\zc blE (W.heap.size+1) w' b (jE fs H)/\zb W w':=fun W P=>zjl _ fs H A W (ck.grew P)
  rw[zet,aq]at b3;clear A aq;simp only[Yr]at b3;clear I a1 a2 a3 M ap
  go_enter func226,ntmps226
  go_wp2_with fail;rw[ah.out];refine(L _ G).mono ?_;rintro e N ⟨rfl,u⟩;have V:=dD (G.trans u);have aj:=dD (ce.grew u);have X:=dD (bz.grew u);have b5:=aj.c 0 rfl;have b9:=aj.c 1 rfl;obtain⟨bs,ak⟩:=s.out N V.out;clear u L
  go_wp2_with (go_at_call 27;refine(an _).mono ?_;rintro e w' ⟨rfl,B⟩;rw[B];clear B w')
  refine(b7 _ V).mono ?_;rintro e ai ⟨cm,rfl,ax,al,bb⟩;have F:Xo (w.heap.size+2<=N.heap.size):=X.lt;obtain⟨bo,a6,T,aw,ba⟩:=ax;obtain⟨U,av⟩:∃U,bo[j]? =Xa U:=⟨_,gE (by rw[T,Z.out];exact a4)⟩
  obtain⟨Y,ac,rfl⟩:=a6.formS (by rw[T,Z.out];omega)
  rw[T,Z.out]at a6⊢;obtain⟨b4,ab⟩:=aw j U t av bp.out;obtain⟨b0,c8,c9,az⟩:=U;obtain⟨r,c7,ay⟩:=ab.formS (by rw[g.out];omega)
  rw[g.out]at ay;have c6:O c8 c9 az= O (Xa ⟨r,0,Xb⟩) K c7:=ay;cases c6;have be:=dD av;have bf:Xo (b0=t.size):=b4;have bq:=dD a6;have cb:=dD T;have cc:=dD aw;have cd:=dD ba;have bx:Xo (zc blE (N.heap.size+2) ai (O (Xa ⟨r,0,Xb⟩) K az) t.bl):=ab;have bu:=dD (V.trans al);have ag:=dD bb;have Q:=dD al;clear al bb b7 b5 b9 bs ak a6 T aw ba b4 ab ay av an;go_upto_region 7 with fail;obtain⟨aa,q⟩:=kB ai.heap.size;obtain⟨S,l⟩:=kB (ai.alloc (Xk #[O (Xa ⟨Y,0,Xb⟩) D ac,I6 (H:Int)] 41));have f:=gA l
  have b2:Xo (zn S aa 41 [O (Xa ⟨Y,0,Xb⟩) D ac,I6 (H:Int)]):=dD<|by rw[<-l];exact zn.top _ _ _ q.symm
  have br:=dD ((aj.grew Q).grew f);have bg:=dD ((X.grew Q).grew f);have b6:Xo (N.heap.size+2<=aa):=show _<=_ by rw[<-q];exact ag.out
  have bw:=dD b2.box.lt;have bd:=dD (bu.trans f);have a7:=dD (bq.grew f);have R:=dD (bx.grew f);rw[l];rw[q];clear l q;have af:Xo (∀W,zb S W->W.cell? ⟨Y,j*2+1,Xb⟩=Xa (O (Xa ⟨r,0,Xb⟩) K az)):=show∀W,_ from fun W P=>by
   obtain⟨bh,bi,i,a⟩:=(a7.grew P).at.rows;obtain⟨a8,h,c⟩:=a j _ be.out;cases i;cases h;have:=c _ (zb.refl _) 1 _ rfl;rw[jb,Xs,zA]at this;exact this
  have ae:Xo (∀W,zb S W->W.cell? ⟨r,C,Xb⟩=Xa (I6 (-1))):=dD<|fun W P=>by
   obtain⟨bh,bi,i,a⟩:=(R.grew P).at.nums;obtain⟨a8,h,c⟩:=a C _ bv.out;cases i;cases h;have:=c _ (zb.refl _);rw[Xs,zA]at this;exact this
  have c5:=b2.box.c 0 rfl;have ak:=af.out S (zb.refl _);have c3:=ae.out S (zb.refl _);have b5:=br.c 0 rfl;have b9:=br.c 1 rfl;go_wp2_with fail;refine(b3 _ bd).mono ?_;rintro e cl ⟨co,rfl,bt,am⟩;obtain⟨c1,cn,rfl⟩:=bt.form;have cj:=dD (bd.trans am);have c1:=dD (bg.grew am);clear bt am b3 b5 b9 c5 ak c3;have cf:=c1.c 0 rfl;have cg:=c1.c 1 rfl;have ch:=c1.f;simp only[List.length_nil];go_wp2;refine bodyPost_ret (v:= Xm #[Xi #[eS,I6 0],I6 0,I6 10]) (by simp[results,Tryz.results226,go_sem, *]) rfl ⟨_,rfl,qp.nil _ _ _,?_⟩
  exact Below.setCell (Below.setCell cj (p:=⟨w.heap.size+1,0,Xb⟩) (by simp) _) (p:=⟨w.heap.size+1,1,Xb⟩) (by simp) _
 rw[I,a1,a2,a3];rw[zbO M z]at L;have a4:j<D:=by rw[<-Z.out];exact(gS.1 z).1
 have ao:(j:Int)< (D:Int):=by omega
 obtain⟨a8,y,bm,bn,a5,c⟩:=ca.out j t z;subst y;have s:=dD c;clear c a5 a9;obtain⟨K,g⟩:=kA t.bl.length;have bp:=dD z;clear z;rw[g.out]at s;have b8:C<K:=by rw[<-g.out];exact(gS.1 ap).1
 have c4:(C:Int)< (K:Int):=by omega
 have an:=fun W=>j8 (m:=(C:Int)) (n:=(K:Int)) (by omega) (by omega) W
 have bv:=dD ap;obtain⟨H,bj⟩:∃H:Nat,d=(H:Int):=⟨d.toNat,by have:=((qC fs d).1 M).1;omega⟩
 subst bj;have A:H<=80:=by have:=((qC fs (H:Int)).1 M).1;omega
 have b3:∀W,zb w W->Xp prog 239 #[Xi #[O (Xa a8) D c2,I6 (H:Int)]] W fun e w'=>∃b,e= Xl b/\zc blE (W.heap.size+1) w' b (jE fs H)/\zb W w':=fun W P=>zjl _ fs H A W (ck.grew P)
 rw[zet,aq]at b3;clear A aq;rw[mP]at b3;obtain⟨A,d⟩:=kA ((b:Int) ::(cp.map fun(b:Nat)=>(b:Int)))
 rw[d.out]at b3;have z:Xo (A[0]? =Xa (b:Int)):=dD<|by rw[<-d.out];rfl
 have y:Xo (0<A.length):=dD<|by rw[<-d.out];simp
 clear I a1 a2 a3 M ap
 go_enter func226,ntmps226
 go_wp2_with fail;rw[ah.out];refine(L _ G).mono ?_;rintro e N ⟨rfl,u⟩;have V:=dD (G.trans u);have aj:=dD (ce.grew u);have X:=dD (bz.grew u);have b5:=aj.c 0 rfl;have b9:=aj.c 1 rfl;obtain⟨bs,ak⟩:=s.out N V.out;clear u L
 go_wp2_with (go_at_call 27;refine(an _).mono ?_;rintro e w' ⟨rfl,B⟩;rw[B];clear B w')
 refine(b7 _ V).mono ?_;rintro e ai ⟨cm,rfl,ax,al,bb⟩;have F:Xo (w.heap.size+2<=N.heap.size):=X.lt;obtain⟨bo,a6,T,aw,ba⟩:=ax;obtain⟨U,av⟩:∃U,bo[j]? =Xa U:=⟨_,gE (by rw[T,Z.out];exact a4)⟩
 obtain⟨Y,ac,rfl⟩:=a6.formS (by rw[T,Z.out];omega)
 rw[T,Z.out]at a6⊢;obtain⟨b4,ab⟩:=aw j U t av bp.out;obtain⟨b0,c8,c9,az⟩:=U;obtain⟨r,c7,ay⟩:=ab.formS (by rw[g.out];omega)
 rw[g.out]at ay;have c6:O c8 c9 az= O (Xa ⟨r,0,Xb⟩) K c7:=ay;cases c6;have be:=dD av;have bf:Xo (b0=t.size):=b4;have bq:=dD a6;have cb:=dD T;have cc:=dD aw;have cd:=dD ba;have bx:Xo (zc blE (N.heap.size+2) ai (O (Xa ⟨r,0,Xb⟩) K az) t.bl):=ab;have bu:=dD (V.trans al);have ag:=dD bb;have Q:=dD al;clear al bb b7 b5 b9 bs ak a6 T aw ba b4 ab ay av an;go_upto_region 7 with fail;obtain⟨aa,q⟩:=kB ai.heap.size;obtain⟨S,l⟩:=kB (ai.alloc (Xk #[O (Xa ⟨Y,0,Xb⟩) D ac,I6 (H:Int)] 41));have f:=gA l
 have b2:Xo (zn S aa 41 [O (Xa ⟨Y,0,Xb⟩) D ac,I6 (H:Int)]):=dD<|by rw[<-l];exact zn.top _ _ _ q.symm
 have br:=dD ((aj.grew Q).grew f);have bg:=dD ((X.grew Q).grew f);have b6:Xo (N.heap.size+2<=aa):=show _<=_ by rw[<-q];exact ag.out
 have bw:=dD b2.box.lt;have bd:=dD (bu.trans f);have a7:=dD (bq.grew f);have R:=dD (bx.grew f);rw[l];rw[q];clear l q;have af:Xo (∀W,zb S W->W.cell? ⟨Y,j*2+1,Xb⟩=Xa (O (Xa ⟨r,0,Xb⟩) K az)):=show∀W,_ from fun W P=>by
  obtain⟨bh,bi,i,a⟩:=(a7.grew P).at.rows;obtain⟨a8,h,c⟩:=a j _ be.out;cases i;cases h;have:=c _ (zb.refl _) 1 _ rfl;rw[jb,Xs,zA]at this;exact this
 have ae:Xo (∀W,zb S W->W.cell? ⟨r,C,Xb⟩=Xa (I6 (-1))):=dD<|fun W P=>by
  obtain⟨bh,bi,i,a⟩:=(R.grew P).at.nums;obtain⟨a8,h,c⟩:=a C _ bv.out;cases i;cases h;have:=c _ (zb.refl _);rw[Xs,zA]at this;exact this
 have c5:=b2.box.c 0 rfl;have ak:=af.out S (zb.refl _);have c3:=ae.out S (zb.refl _);have b5:=br.c 0 rfl;have b9:=br.c 1 rfl;go_wp2_with fail;refine(b3 _ bd).mono ?_;rintro e cl ⟨co,rfl,bt,am⟩;obtain⟨d,cn,rfl⟩:=bt.formS y.out;have Q:cl.cell? ⟨d,0,Xb⟩=Xa (I6 (b:Int)):=by
  obtain⟨bh,bi,i,a⟩:=bt.at.nums;obtain⟨a8,h,c⟩:=a 0 _ z.out;cases i;cases h;have:=c _ (zb.refl _);rw[Xs,zA]at this;exact this
 have cj:=dD (bd.trans am);have z:=dD am;have l:=dD (R.grew am);have u:=dD (a7.grew am);have B:=dD (b2.grew am);have c1:=dD (bg.grew am);have d:=(R.lt r rfl).1;obtain⟨q,d⟩:=kA A.length;have s:0<q:=by rw[<-d.out];exact y.out
 have s:(0:Int)< (q:Int):=by omega
 have s:((q:Int) == 0)=Xd:=by simp;omega
 rw[d.out];clear bt am b3 b5 b9 c5 ak c3
 go_wp2_with (refine qn (E:=blE) rfl (.tmp 55) (.tmp 54) rfl (N.heap.size+2) _ t.bl l r C rfl (b:Int) ?t1 ⟨r,C,Xb⟩ rfl ?t2 (I6 (b:Int)) rfl rfl ?_)
 case t1=>rw[g.out];exact b8
 case t2=>show _=Addr.mk r (C*1) Xb;rw[Yw]
 intro y s d _;have A:=dD s;have L:Xo (Box y aa [O (Xa ⟨Y,0,Xb⟩) D ac,I6 (H:Int)]):=B.box.grown d (fun e=>l.ne B (by decide) r rfl e)
 have B:Xo (Box y (w.heap.size+1) [eS,I6 0]):=c1.grown d (by have:=F.out;omega)
 have P:Xo (zb w y):=dD<|zd cj d (by have:=F.out;omega)
 have M:Xo (qp 0 (N.heap.size+2) y (O (Xa ⟨Y,0,Xb⟩) D ac) (fs.set j ⟨t.size,t.bl.set C (b:Int)⟩)):=dD<|by
  have t:=u.grown d (fun R q G=>by cases G;exact u.apart l (Ne.symm QC) r q rfl)
  refine⟨t.cap,bo,t.new.stays,by simp[cb.out],fun K U N t l=>?_⟩
  by_cases e:K=j
  ·subst e;rw[sF (by rw[Z.out];exact a4)]at l
   rw[be.out]at t;cases t;cases l;exact⟨bf,A.new.stays⟩
  rw[sN (fun u=>e u.symm)]at l
  obtain⟨b4,ab⟩:=cc.out K U N t l;have l:=ab.grew (f.trans z);exact⟨b4,(l.grown d (fun R q G=>by cases G;exact cd j K _ U (fun u=>e u.symm) be t r rfl q)).new.stays⟩
 have c3:y.cell? ⟨r,C,Xb⟩=Xa (I6 (b:Int)):=by
  obtain⟨bh,bi,i,a⟩:=s.at.nums;obtain⟨a8,h,c⟩:=a C (b:Int) (by rw[sF (by rw[g.out];exact b8)])
  cases i;cases h;have:=c _ (zb.refl _);rw[Xs,zA]at this;exact this
 clear s d Q;have c5:=L.c 0 rfl;have cq:=L.c 1 rfl;have cf:=B.c 0 rfl;have cg:=B.c 1 rfl;have ch:=B.f;have ar:aa≠w.heap.size+1:=by have:=b6.out;have:=F.out;omega
 have bk:¬w.heap.size+1=aa:=fun e=>ar e.symm
 have au:r≠w.heap.size+1:=by have:=F.out;omega
 have bl:¬w.heap.size+1=r:=fun e=>au e.symm
 go_wp2
 go_region
 all_goals go_wp2
 all_goals
  refine bodyPost_ret (v:= Xm #[Xi #[O (Xa ⟨Y,0,Xb⟩) D ac,I6 (H:Int)],I6 (b:Int),I6 0]) (by simp[results,Tryz.results226,go_sem, *]) rfl ⟨_,rfl,?_,?_⟩
  ·have ci:=M.less (A0:=0) (A1:=w.heap.size+2) (nR _) (by have:=F.out;omega)
   exact(((ci.out (Out.setCell _ _ _ (p:=⟨w.heap.size+1,0,Xb⟩) (nZ _) (by simp) _)).out (Out.setCell _ _ _ (p:=⟨w.heap.size+1,1,Xb⟩) (nZ _) (by simp) _)).less (nR _) (by omega)).grew (gW _)
  exact(Below.setCell (Below.setCell P (p:=⟨w.heap.size+1,0,Xb⟩) (by simp) _) (p:=⟨w.heap.size+1,1,Xb⟩) (by simp) _).drew
section
variable{w0 w w1 w2:Xn} {p:Nat} {V:MaV} {m:Ma}
theorem ChW.setFl (h:ChW w0 p w V m) {b:Sli} {a:List Fl} {c:Int} (e:zb w w1) (i:w.heap.size<=B) (g:qp 0 B w1 (b.x) a) (f:w1.grownBy w2 (Xa p)) (d:zn w2 p 88 (chL { V with fl:=b } { m with fl:=a,cnt:=c })):zef w0 p w V { m with fl:=a,cnt:=c } w2:=
 h.fieldC (V':={ V with fl:=b }) (m':={ m with fl:=a,cnt:=c }) e f rfl rfl rfl rfl rfl rfl d (fun W _ a r=>⟨r.sl,r.sb,r.sq,r.db,r.dq,(g.out ⟨a.os,a.tape,a.output,a.size,fun k d e=>a.block k d (fun e=>by have:=h.drt k e;omega)⟩).now0⟩)
theorem ChW.setDk (h:ChW w0 p w V m) {d q:Sli} {a:List (List Int)} {b:List (Int × List Int)} (e:zb w w1) (i:w.heap.size<=B) (g:qy B w1 (Xi #[d.x,q.x]) a b) (f:w1.grownBy w2 (Xa p)) (c:zn w2 p 88 (chL { V with db:=d,dq:=q } { m with db:=a,dq:=b })):zef w0 p w V { m with db:=a,dq:=b } w2:=
 h.fieldC (V':={ V with db:=d,dq:=q }) (m':={ m with db:=a,dq:=b }) e f rfl rfl rfl rfl rfl rfl c (fun W _ b r=>by
  have k:=(g.staysD (fun k a=>by have:=h.drt k a;omega) b).rows
  exact⟨r.sl,r.sb,r.sq,k.1,k.2,r.fl⟩)
end
def wrM (m:Ma) (pg:List Int) (file idx:Int):Ma:=
 if Jy m.fl m.cnt file idx=0 then{ m with fl:=zho m.fl m.cnt file idx,cnt:=zlF m.fl m.cnt file idx,db:=q8 m.db m.dq (ziP m.fl m.cnt file idx),dq:=q7 m.db m.dq (ziP m.fl m.cnt file idx) pg }else m
theorem zdG {w:Xn} {p:Nat} (a:ChW w0 p w V m) (pg:List Int) (hp:pg.length=8) (file idx:Int):
  Xp prog 194 #[Xj (Xa ⟨p,0,Xb⟩),Xi (pgc pg).toArray,I6 file,I6 idx] w fun e w'=>e= Xl (Xh (decide (Jy m.fl m.cnt file idx=0)))/\zef w0 p w V (wrM m pg file idx) w':=by
 have t:=dD a;obtain⟨E,c⟩:=kA (Jy m.fl m.cnt file idx);obtain⟨C,q⟩:=kA (zlF m.fl m.cnt file idx);obtain⟨B,f⟩:=kA (ziP m.fl m.cnt file idx);have z:Xo (∀W,zb w W->Xp prog 226 #[Xi #[V.fl.x,I6 m.cnt],I6 file,I6 idx] W fun e w'=>∃b:Sli,e= Xl (Xm #[Xi #[b.x,I6 C],I6 B,I6 E])/\qp 0 W.heap.size w' (b.x) (zho m.fl m.cnt file idx)/\zb W w'):=show∀W,_ from fun W D=>by
  rw[<-c.out,<-q.out,<-f.out];refine(ziO _ m.fl m.cnt file idx W (a.at.grew D).fl).mono ?_;rintro e w' ⟨b,rfl,A,G⟩;obtain⟨d,H,rfl,_⟩:=qq.rows A.now0;exact⟨⟨d,_,H⟩,rfl,A,G⟩
 have s:Xo (E=0->wrM m pg file idx={({ m with fl:=zho m.fl m.cnt file idx,cnt:=C }:Ma)with db:=q8 m.db m.dq B,dq:=q7 m.db m.dq B pg }):=dD<|fun a=>by
  unfold wrM;rw[kE (c.trans a),q.out,f.out]
 have v:Xo (E≠0->wrM m pg file idx=m):=dD<|fun a=>by
  unfold wrM;rw[kF (fun e=>a (c.symm.trans e))]
 rw[c.out];obtain⟨R,c⟩:=kA (decide (E=0));rw[c.out];have F:p<w.heap.size:=a.dlt p (.inl rfl);obtain⟨N,x⟩:=kA (wrM m pg file idx);rw[x.out]at s v⊢;obtain⟨g,h,i,j,k,l,n,r,d⟩:=zfh pg hp;have u:=dD d;have y:pgc pg=[U8 g,U8 h,U8 i,U8 j,U8 k,U8 l,U8 n,U8 r]:=by rw[d];rfl
 rw[y];clear a hp d y;obtain⟨b,f⟩:=kA w.heap.size;obtain⟨K,a⟩:=kB (w.alloc (Xk #[U8 g,U8 h,U8 i,U8 j,U8 k,U8 l,U8 n,U8 r] 91));have d:=gA a
 have L:=xP a f
 have y:=dD a;clear a;rw[f.out]at F
 go_enter func194,ntmps194
 go_upto_region 1 with fail;rw[y.out,f.out];have f:=(t.box.box.grew d).c 7 rfl;have y:=(t.box.box.grew d).c 8 rfl;have a:=z.out K d.out;go_wp2_with fail;refine a.mono ?_;clear a f y;rintro e F ⟨y,rfl,A,z⟩;have M:=dD A;have f:=dD z;clear A z;go_upto_region 2 with fail;obtain⟨H,q⟩:=kA F.heap.size;obtain⟨a,a⟩:=kB (F.alloc (Xk #[y.x,I6 C] 41));have A:=gA a
 have H:=xP a q
 rw[a,q.out];clear a
 by_cases a:E=0
 rotate_left
 ·have q:(E != 0)=Xc:=by simp[a]
  have F:=dD<|c.symm.trans (decide_eq_false a);have x:=dD<|v.out a;clear a;go_wp2;go_ret;exact⟨by rw[F.out];rfl,by rw[x.out];exact zef.refl t (d.trans (f.trans A))⟩
 have q:(E != 0)=Xd:=by simp[a]
 have F:=dD<|c.symm.trans (decide_eq_true a);have x:=dD<|s.out a;clear a;have c:=dD (d.trans (f.trans A));have P:=H.c 0 rfl;have Q:=H.c 1 rfl;have a:=dD (t.box.grew c)
 go_upto_region 5 with(refine jt rfl 41 (.tmp 30) (.tmp 27) rfl p 7 rfl (Xi #[y.x,I6 C]) rfl [y.x,I6 C] rfl a (by simp[chL]) (by kernel_rfl) (by simp[Value.oneCell']) ?_)
 intro s v a _;have N:Xo (Box s b [U8 g,U8 h,U8 i,U8 j,U8 k,U8 l,U8 n,U8 r]):=dD<|(L.grew (f.trans A)).grown a (by omega)
 obtain⟨f,K,y,L,H⟩:=t.setFl c (bS d) (M.grew A) a v;have Y:=dD K;have E:=dD y;have Z:=dD L;have X:=dD H;have T:Xo (∀W,zb s W->Xp prog 185 #[Xi #[f.db.x,f.dq.x],I6 B,Xi #[U8 g,U8 h,U8 i,U8 j,U8 k,U8 l,U8 n,U8 r]] W fun e w'=>∃d q:Sli,e= Xl (Xm #[Xi #[d.x,q.x],I6 (zr m.db.length m.dq B)])/\qy W.heap.size w' (Xi #[d.x,q.x]) (q8 m.db m.dq B) (q7 m.db m.dq B pg)/\zb W w'):=show∀W,_ from fun W D=>by
  have c:=zfW (Xi #[f.db.x,f.dq.x]) m.db m.dq B pg (by rw[u.out];rfl) W ⟨_,_,rfl,(y.at.grew D).db,(y.at.grew D).dq⟩
  rw[show pgc pg=[U8 g,U8 h,U8 i,U8 j,U8 k,U8 l,U8 n,U8 r] by rw[u.out];rfl]at c
  refine c.mono ?_;rintro e w' ⟨c,rfl,c,G⟩;obtain⟨d,q,rfl,_,_⟩:=c.form;exact⟨d,q,rfl,c,G⟩
 have c:p<s.heap.size:=y.dlt p (.inl rfl);clear v a y L H K P Q;try simp only[Xu]
 go_upto_region 5 with fail;obtain⟨S,a⟩:=kA (zr m.db.length m.dq B);rw[a.out]at T;obtain⟨a,c⟩:∃a:Xn->Prop,Xo (∀u,a u↔Box u b [U8 g,U8 h,U8 i,U8 j,U8 k,U8 l,U8 n,U8 r]):=⟨fun u=>Box u b [U8 g,U8 h,U8 i,U8 j,U8 k,U8 l,U8 n,U8 r],fun _=>Iff.rfl⟩
 have t:=(c _).2 (N.grew (gW _))
 have A:zb s s.drew:=show Below _ _ _ from(bR _ _).drew
 have H:∀y:zk a,y.world.cell? ⟨b,0,Xb⟩=Xa (U8 g):=fun y=>((c _).1 y.holds).c 0 rfl
 have K:∀y:zk a,y.world.cell? ⟨b,1,Xb⟩=Xa (U8 h):=fun y=>((c _).1 y.holds).c 1 rfl
 have L:∀y:zk a,y.world.cell? ⟨b,2,Xb⟩=Xa (U8 i):=fun y=>((c _).1 y.holds).c 2 rfl
 have M:∀y:zk a,y.world.cell? ⟨b,3,Xb⟩=Xa (U8 j):=fun y=>((c _).1 y.holds).c 3 rfl
 have N:∀y:zk a,y.world.cell? ⟨b,4,Xb⟩=Xa (U8 k):=fun y=>((c _).1 y.holds).c 4 rfl
 have P:∀y:zk a,y.world.cell? ⟨b,5,Xb⟩=Xa (U8 l):=fun y=>((c _).1 y.holds).c 5 rfl
 have Q:∀y:zk a,y.world.cell? ⟨b,6,Xb⟩=Xa (U8 n):=fun y=>((c _).1 y.holds).c 6 rfl
 have R:∀y:zk a,y.world.cell? ⟨b,7,Xb⟩=Xa (U8 r):=fun y=>((c _).1 y.holds).c 7 rfl
 have G:Nonempty (zk a):=⟨⟨_,t⟩⟩;refine z7 (I:=a) 16 [(5,fun v=>v= Xi #[f.db.x,f.dq.x]),(8,fun v=>∃d q:Sli,v= Xm #[Xi #[d.x,q.x],I6 S]),(15,fun _=>True)] (fun u=>zb s u) t A zZ (by kernel_rfl) rfl rfl (by decide) ?hS (by kernel_rfl) ?_
 case hS=>
  intro a a;simp only[mC,nM,or_false]at a
  rcases a with rfl|rfl|rfl
  ·exact⟨_,rfl⟩
  ·exact⟨_,je,je,rfl⟩
  exact⟨undef,trivial⟩
 simp only[Yh,Yi];iterate 2 refine zt ?_
 refine qa (.tmp 33) ⟨p,0,Xb⟩ rfl rfl rfl rfl ?_;simp only[Xu,sB,sS,sZ];iterate 2 refine zt ?_
 refine zK rfl rfl (fun _ u=>zb s u) (fun w' b a=>?_) (fun U D=>?_)
 ·refine zbu 38 (.tmp 36) rfl p 5 rfl [f.db.x,f.dq.x] ((E.box.box.grew a).mid 5 (fun W v y=>by
   match W,y with
   | 0,y=>exact y
   | 1,y=>exact y)) underlying38 rfl (by kernel_rfl) ⟨b,rfl,a⟩
 cases D;simp only[Xu,sB,sS,sZ];iterate 2 refine zt ?_
 refine zK rfl rfl (fun v u=>∃(d q:Sli) (y:Xn),v= Xm #[Xi #[d.x,q.x],I6 S]/\zb s y/\zb y u/\qy y.heap.size u (Xi #[d.x,q.x]) (q8 m.db m.dq B) (q7 m.db m.dq B pg)) (fun w' b a=>?_) (fun U D=>?_)
 ·refine zR.call [Xi #[f.db.x,f.dq.x],I6 B,Xi #[U8 g,U8 h,U8 i,U8 j,U8 k,U8 l,U8 n,U8 r]] rfl func185 rfl rfl rfl ?_;refine(T w' a).mono ?_;rintro e f ⟨d,q,rfl,f,z⟩;exact⟨_,rfl,(c _).2 (((c _).1 b).grew z),⟨d,q,rfl⟩,d,q,w',rfl,a,z,f⟩
 obtain⟨d,q,rfl⟩:=D;simp only[Xu,sB,sS,sZ];iterate 3 refine zt ?_
 refine qa (.tmp 32) ⟨p,0,Xb⟩ rfl rfl rfl rfl ?_;simp only[Xu,sB,sS,sZ];iterate 2 refine zt ?_
 refine zK rfl rfl (fun _ u=>zef w0 p w V {({ m with fl:=zho m.fl m.cnt file idx,cnt:=C }:Ma)with db:=q8 m.db m.dq B,dq:=q7 m.db m.dq B pg } u) (fun w' b a=>?_) (fun U D=>?_)
 ·obtain⟨f,g,y,h,i,j,k⟩:=a;have a:f=d/\g=q:=by
   obtain⟨l,l,l⟩:=d;obtain⟨d,d,d⟩:=f;obtain⟨d,d,d⟩:=q;obtain⟨d,d,d⟩:=g;simp only[Value.tuple.injEq,Array.mk.injEq,List.cons.injEq,Value.agg.injEq,vJ,and_true]at h;obtain⟨⟨rfl,rfl,rfl⟩,rfl,rfl,rfl⟩:=h;exact⟨rfl,rfl⟩
  obtain⟨rfl,rfl⟩:=a;have h:=i.trans j;refine jS 38 (.tmp 45) (.tmp 41) rfl p 5 rfl (Xi #[f.x,g.x]) rfl [f.x,g.x] rfl (E.box.grew h) (by simp[chL]) (by kernel_rfl) (by simp[Value.oneCell']) ?_
  intro f d a _;exact⟨(c _).2 (((c _).1 b).grown a (by omega)),trivial,zef.step Z X Y (E.setDk h (bS i) k a d)⟩
 clear D;try simp only[Xu]
 refine jp fun f b a=>?_
 have c:=dD a;clear b a t A H K L M N P Q R G;go_wp2;go_ret;exact⟨by rw[F.out];rfl,by rw[x.out];exact c⟩
theorem zck {w:Xn} {p:Nat} (u:ChW w0 p w V m) (f:Fr) (fi ix:Nat) (F:Fl) (X:f.f=(fi:Int)) (M:f.x=(ix:Int)) (K:m.fl[fi]? =Xa F) (b:0<=F.size/\F.size<=96) (hi:ix<=12):
  Xp prog 227 #[Xj (Xa ⟨p,0,Xb⟩),Xi (frv f).toArray] w fun e w'=>e= Xl (Xi (pgc (Qh (pgL f.p) (ix:Int) F.size)).toArray)/\(Qh (pgL f.p) (ix:Int) F.size).length=8/\zb w w':=by
 have Y:=dD u;obtain⟨a,c,a,_,h⟩:=qq.rows u.at.fl;simp only[vJ]at a;obtain⟨d,P,N⟩:=a;obtain⟨i,U,a,a,_,c⟩:=h fi F K;have y:=dD<|d.trans U;have a:(fi:Int)< (V.fl.n:Int):=by
  have:=(gS.1 K).1;omega
 obtain⟨s,a⟩:=kA F.size;rw[a.out]at b⊢;have g:Xo (∀W,zb w W->W.cell? (i.add (fi*2))=Xa (I6 s)):=dD<|fun W T=>by
  have:=(c W T).1;rw[a.out]at this;exact this
 have a:(Qh (pgL f.p) (ix:Int) s).length=8:=by unfold Qh;simp[pgL]
 have Q:Xo (∀W,Xp prog 182 #[Xi (pgc (pgL f.p)).toArray,I6 (s -(ix:Int)*8)] W fun e w'=>e= Xl (Xi (pgc (Qh (pgL f.p) (ix:Int) s)).toArray)/\zb W w'):=dD<|fun W=>by
  have k:=zda (pgL f.p) (s -(ix:Int)*8) W rfl (by omega) (by omega)
  rw[znt]at k;exact k.mono fun e w' q=>⟨q.1,q.2.2⟩
 obtain⟨z,A,B,C,D,E,G,H,b⟩:=zfh _ a;rw[b]at Q⊢;obtain⟨⟨j,k,l,n,q,r,t,v⟩,R,S,L,Z,Z⟩:=f;dsimp only at X M;subst X;subst M;simp only[pgL,pgc,frv,mP,Yr]at Q⊢;have X:Xo ([z,A,B,C,D,E,G,H].length=8):=dD<|rfl
 clear u d P N U c h K a b;obtain⟨c,P⟩:=kA w.heap.size;obtain⟨d,a⟩:=kB ((w.alloc (Xk #[U8 j,U8 k,U8 l,U8 n,U8 q,U8 r,U8 t,U8 v,I6 R,Xh S,Xh L,I6 (fi:Int),I6 (ix:Int)] 93)).alloc (Xk #[U8 0,U8 0,U8 0,U8 0,U8 0,U8 0,U8 0,U8 0] 91));have N:=gD2 a
 have U:Xo (Box d c [U8 j,U8 k,U8 l,U8 n,U8 q,U8 r,U8 t,U8 v,I6 R,Xh S,Xh L,I6 (fi:Int),I6 (ix:Int)]):=dD<|by rw[<-a];exact(Box.top _ _ _ P.symm).alloc _
 have a5:Xo (zn d (c+1) 91 (pgc z4)):=dD<|by rw[<-a];exact zn.top _ (pgc z4) _ (by simp[P.out])
 have b:=dD a;clear a
 go_enter func227,ntmps227
 go_upto_region 1 with fail;rw[b.out,P.out];have K:zb d d.drew:=show Below _ _ _ from(bR _ _).drew
 obtain⟨b,a⟩:∃b:Xn->Prop,Xo (∀u,b u↔(Box u c [U8 j,U8 k,U8 l,U8 n,U8 q,U8 r,U8 t,U8 v,I6 R,Xh S,Xh L,I6 (fi:Int),I6 (ix:Int)])/\u.cell? ⟨p,7,Xb⟩=Xa (O (Xa i) V.fl.n V.fl.c)/\u.cell? (i.add (fi*2))=Xa (I6 s)):=⟨fun u=>_,fun _=>Iff.rfl⟩
 have h:∀W,zb w W->W.cell? ⟨p,7,Xb⟩=Xa (O (Xa i) V.fl.n V.fl.c):=fun W T=>by
  have:=(Y.box.box.grew T).c 7 rfl;(try simp only[Sli.x]at this);rw[y.out]at this;exact this
 have R:=dD h
 clear h;have h:b d.drew:=(a _).2 ⟨U.grew K,R _ (N.trans K),g _ (N.trans K)⟩;have L:zb d d.drew:=K;have S:∀y:zk b,y.world.cell? ⟨c,0,Xb⟩=Xa (U8 j):=fun y=>((a _).1 y.holds).1.c 0 rfl
 have T:∀y:zk b,y.world.cell? ⟨c,1,Xb⟩=Xa (U8 k):=fun y=>((a _).1 y.holds).1.c 1 rfl
 have U:∀y:zk b,y.world.cell? ⟨c,2,Xb⟩=Xa (U8 l):=fun y=>((a _).1 y.holds).1.c 2 rfl
 have W:∀y:zk b,y.world.cell? ⟨c,3,Xb⟩=Xa (U8 n):=fun y=>((a _).1 y.holds).1.c 3 rfl
 have X:∀y:zk b,y.world.cell? ⟨c,4,Xb⟩=Xa (U8 q):=fun y=>((a _).1 y.holds).1.c 4 rfl
 have Y:∀y:zk b,y.world.cell? ⟨c,5,Xb⟩=Xa (U8 r):=fun y=>((a _).1 y.holds).1.c 5 rfl
 have Z:∀y:zk b,y.world.cell? ⟨c,6,Xb⟩=Xa (U8 t):=fun y=>((a _).1 y.holds).1.c 6 rfl
 have a0:∀y:zk b,y.world.cell? ⟨c,7,Xb⟩=Xa (U8 v):=fun y=>((a _).1 y.holds).1.c 7 rfl
 have a1:∀y:zk b,y.world.cell? ⟨c,11,Xb⟩=Xa (I6 (fi:Int)):=fun y=>((a _).1 y.holds).1.c 11 rfl
 have a4:∀y:zk b,y.world.cell? ⟨c,12,Xb⟩=Xa (I6 (ix:Int)):=fun y=>((a _).1 y.holds).1.c 12 rfl
 have a2:∀y:zk b,y.world.cell? ⟨p,7,Xb⟩=Xa (O (Xa i) V.fl.n V.fl.c):=fun y=>((a _).1 y.holds).2.1
 have a3:∀y:zk b,y.world.cell? (i.add (fi*2))=Xa (I6 s):=fun y=>((a _).1 y.holds).2.2
 have y:Nonempty (zk b):=⟨⟨_,h⟩⟩;refine z7 (I:=b) 19 [(17,fun b=>b= Xi #[U8 z,U8 A,U8 B,U8 C,U8 D,U8 E,U8 G,U8 H]),(18,fun _=>True)] (fun u=>zb d u) h L zZ (by kernel_rfl) rfl rfl (by decide) ?hS (by kernel_rfl) ?_
 case hS=>
  intro x M;simp only[mC,nM,or_false]at M
  rcases M with rfl|rfl
  ·exact⟨_,rfl⟩
  exact⟨undef,trivial⟩
 simp only[Yh,Yi];iterate 3 refine zt ?_
 refine qa (.tmp 7) ⟨p,0,Xb⟩ rfl rfl rfl rfl ?_;simp only[Xu,sB,sS,sZ];iterate 13 refine zt ?_
 refine zK rfl rfl (fun _ u=>zb d u) (fun w' d b=>?_) (fun a6 M=>?_)
 ·refine zR.call [Xi #[U8 j,U8 k,U8 l,U8 n,U8 q,U8 r,U8 t,U8 v],I6 (s -(ix:Int)*8)] rfl func182 rfl rfl rfl ?_;refine(Q w').mono ?_;rintro e i ⟨rfl,i⟩;obtain⟨k,n,q⟩:=(a _).1 d;have j:=N.trans (b.trans i);exact⟨_,rfl,(a _).2 ⟨k.grew i,R _ j,g _ j⟩,rfl,b.trans i⟩
 subst M;simp only[Xu,sB,sS,sZ];refine zK rfl rfl (fun _ u=>zb w u/\Box u (c+1) (pgc [z,A,B,C,D,E,G,H])) (fun w' d b=>?_) (fun a6 M=>?_)
 ·refine jS 91 (.tmp 4) (.tmp 22) rfl (c+1) 0 rfl (Xi #[U8 z,U8 A,U8 B,U8 C,U8 D,U8 E,U8 G,U8 H]) rfl [U8 z,U8 A,U8 B,U8 C,U8 D,U8 E,U8 G,U8 H] rfl (a5.grew b) (by simp[pgc,z4]) (by kernel_rfl) (by simp[Value.oneCell']) ?_
  intro l i c _;have j:zb w l:=zd (N.trans b) c (by have:=P.out;omega)
  obtain⟨k,n,q⟩:=(a _).1 d;exact⟨(a _).2 ⟨k.grown c (by omega),R _ j,g _ j⟩,trivial,j,i.box⟩
 clear M;try simp only[Xu]
 refine jp fun l b a=>?_
 have d:=dD a.1;have c:=dD a.2;clear b a h L S T U W X Y Z a0 a1 a4 a2 a3 y K;go_wp2;refine bodyPost_ret (zG rfl _ rfl c underlying91 rfl zsm) rfl ⟨rfl,by first | trivial | rfl,d⟩
theorem zpc {w:Xn} {p:Nat} (n:ChW w0 p w V m) (k:Nat) (f:Fr) (ak:m.fs[k]? =Xa f) (fi ix:Nat) (F:Fl) (a1:f.f=(fi:Int)) (q:f.x=(ix:Int)) (ba:m.fl[fi]? =Xa F) (bg:0<=F.size/\F.size<=96) (hi:ix<=12):
  Xp prog 195 #[Xj (Xa ⟨p,0,Xb⟩),I6 (k:Int)] w fun e w'=>e= Xl (Xh (decide (Jy m.fl m.cnt fi ix=0)))/\zef w0 p w V (wrM m (Qh (pgL f.p) (ix:Int) F.size) fi ix) w':=by
 have am:=dD n;have g:Xo (∀W,zb w W->Xp prog 227 #[Xj (Xa ⟨p,0,Xb⟩),Xi (frv f).toArray] W fun e w'=>e= Xl (Xi (pgc (Qh (pgL f.p) (ix:Int) F.size)).toArray)/\zb W w'):=show∀W,_ from fun W Z=>(zck (n.grew Z) f fi ix F a1 q ba bg hi).mono fun e w' al=>⟨al.1,al.2.2⟩
 have s:(Qh (pgL f.p) (ix:Int) F.size).length=8:=by unfold Qh;simp[pgL]
 obtain⟨a7,a5⟩:=kA (wrM m (Qh (pgL f.p) (ix:Int) F.size) fi ix);obtain⟨a8,a6⟩:=kA (decide (Jy m.fl m.cnt fi ix=0));have h:Xo (∀W,zb w W->Xp prog 194 #[Xj (Xa ⟨p,0,Xb⟩),Xi (pgc (Qh (pgL f.p) (ix:Int) F.size)).toArray,I6 (fi:Int),I6 (ix:Int)] W fun e w'=>e= Xl (Xh a8)/\zef w0 p W V a7 w'):=dD<|fun W Z=>by
  rw[<-a5.out,<-a6.out];exact zdG (n.grew Z) _ s (fi:Int) (ix:Int)
 rw[a5.out,a6.out];have v:¬Dw p V w.heap.size:=fun e=>absurd (n.dlt _ e) (by omega)
 obtain⟨cb,-⟩:=n.at.ns;obtain⟨c8,bc,bd⟩:=n.at.frs k f ak;have Q:=dD bc;have R:=dD bd
 have be:(k:Int)< (V.f.n:Int):=by
  have:=(gS.1 ak).1;omega
 obtain⟨a9,aa,ab,ac,ae,af,ag,ah,a0⟩:=zfh _ s;rw[a0]at g h;obtain⟨⟨z,A,B,C,D,E,G,H⟩,L,M,K,c9,ca⟩:=f;dsimp only at a1 q;subst a1;subst q;simp only[pgc,frv,mP,Yr]at g h;have bw:=am.box.box.c 0 rfl;(try simp only[Sli.x]at bw);rw[Q.out]at bw;obtain⟨ap,aq,ar,au,av,aw,ax,ay,az,b8,S,T,U⟩:=R.out w (zb.refl _);dsimp only at ap aq ar au av aw ax ay az b8 S T U
 go_enter func195,ntmps195
 go_upto_region 2 with fail;obtain⟨c,P⟩:=kA w.heap.size;obtain⟨l,j⟩:=kB (w.alloc (Xk #[U8 z,U8 A,U8 B,U8 C,U8 D,U8 E,U8 G,U8 H,I6 L,Xh M,Xh K,I6 (fi:Int),I6 (ix:Int)] 93));have N:=gA j
 have ao:=xPT j P
 rw[j,P.out];rw[P.out]at v;have aj:zb l l.drew:=show Below _ _ _ from(bR _ _).drew
 obtain⟨b,a⟩:∃b:Xn->Prop,Xo (∀u,b u↔zn u c 93 [U8 z,U8 A,U8 B,U8 C,U8 D,U8 E,U8 G,U8 H,I6 L,Xh M,Xh K,I6 (fi:Int),I6 (ix:Int)]):=⟨fun u=>_,fun _=>Iff.rfl⟩
 have r:=(a _).2 (ao.grew aj);have X:zb l l.drew:=aj;have bh:∀y:zk b,y.world.cell? ⟨c,0,Xb⟩=Xa (U8 z):=fun y=>((a _).1 y.holds).box.c 0 rfl
 have bi:∀y:zk b,y.world.cell? ⟨c,1,Xb⟩=Xa (U8 A):=fun y=>((a _).1 y.holds).box.c 1 rfl
 have bj:∀y:zk b,y.world.cell? ⟨c,2,Xb⟩=Xa (U8 B):=fun y=>((a _).1 y.holds).box.c 2 rfl
 have bk:∀y:zk b,y.world.cell? ⟨c,3,Xb⟩=Xa (U8 C):=fun y=>((a _).1 y.holds).box.c 3 rfl
 have bl:∀y:zk b,y.world.cell? ⟨c,4,Xb⟩=Xa (U8 D):=fun y=>((a _).1 y.holds).box.c 4 rfl
 have bm:∀y:zk b,y.world.cell? ⟨c,5,Xb⟩=Xa (U8 E):=fun y=>((a _).1 y.holds).box.c 5 rfl
 have bn:∀y:zk b,y.world.cell? ⟨c,6,Xb⟩=Xa (U8 G):=fun y=>((a _).1 y.holds).box.c 6 rfl
 have bo:∀y:zk b,y.world.cell? ⟨c,7,Xb⟩=Xa (U8 H):=fun y=>((a _).1 y.holds).box.c 7 rfl
 have br:∀y:zk b,y.world.cell? ⟨c,8,Xb⟩=Xa (I6 L):=fun y=>((a _).1 y.holds).box.c 8 rfl
 have bs:∀y:zk b,y.world.cell? ⟨c,9,Xb⟩=Xa (Xh M):=fun y=>((a _).1 y.holds).box.c 9 rfl
 have bp:∀y:zk b,y.world.cell? ⟨c,10,Xb⟩=Xa (Xh K):=fun y=>((a _).1 y.holds).box.c 10 rfl
 have bq:∀y:zk b,y.world.cell? ⟨c,11,Xb⟩=Xa (I6 (fi:Int)):=fun y=>((a _).1 y.holds).box.c 11 rfl
 have bt:∀y:zk b,y.world.cell? ⟨c,12,Xb⟩=Xa (I6 (ix:Int)):=fun y=>((a _).1 y.holds).box.c 12 rfl
 have bf:Nonempty (zk b):=⟨⟨_,r⟩⟩;refine z7 (I:=b) 9 [(3,fun a3=>a3= Xi #[U8 a9,U8 aa,U8 ab,U8 ac,U8 ae,U8 af,U8 ag,U8 ah]),(8,fun a3=>a3= Xh a8)] (fun u=>zb l u) r X zZ (by kernel_rfl) rfl rfl (by decide) ?hS (by kernel_rfl) ?_
 case hS=>
  intro x q;simp only[mC,nM,or_false]at q
  rcases q with rfl|rfl
  ·exact⟨_,rfl⟩
  exact⟨_,rfl⟩
 simp only[Yh,Yi];iterate 3 refine zt ?_
 refine zK rfl rfl (fun _ u=>zb l u) (fun w' i d=>?_) (fun bv a2=>?_)
 ·refine zR.call [Xj (Xa ⟨p,0,Xb⟩),Xi #[U8 z,U8 A,U8 B,U8 C,U8 D,U8 E,U8 G,U8 H,I6 L,Xh M,Xh K,I6 (fi:Int),I6 (ix:Int)]] rfl func227 rfl rfl rfl ?_;refine(g w' (N.trans d)).mono ?_;rintro e a4 ⟨rfl,ai⟩;exact⟨_,rfl,(a _).2 (((a _).1 i).grew ai),rfl,d.trans ai⟩
 subst a2;simp only[Xu,sB,sS,sZ];iterate 4 refine zt ?_
 refine zK rfl rfl (fun _ u=>zef w0 p w V a7 u) (fun w' i d=>?_) (fun bv a2=>?_)
 ·refine zR.call [Xj (Xa ⟨p,0,Xb⟩),Xi #[U8 a9,U8 aa,U8 ab,U8 ac,U8 ae,U8 af,U8 ag,U8 ah],I6 (fi:Int),I6 (ix:Int)] rfl func194 rfl rfl rfl ?_;refine(h w' (N.trans d)).mono ?_;rintro e a4 ⟨rfl,t⟩;have b9:=zef.of_grew (N.trans d) t;obtain⟨bx,_,_,bu,_⟩:=t;exact⟨_,rfl,(a _).2 (((a _).1 i).chg bu v),rfl,b9⟩
 subst a2;simp only[Xu,sB,sS,sZ];refine jp fun bz bb Y=>?_
 have an:=dD Y;go_wp2;go_ret;exact⟨rfl,an⟩
theorem zq0 (m:Ma) (pg) (file idx:Int):(wrM m pg file idx).fs=m.fs/\(wrM m pg file idx).hand=m.hand/\(wrM m pg file idx).ca=m.ca/\(wrM m pg file idx).sp=m.sp/\(wrM m pg file idx).sl=m.sl:=by
 unfold wrM
 split <;> exact⟨rfl,rfl,rfl,rfl,rfl⟩
theorem zmh {a:Act} {w:Xn} (e x) (h:o.op= .load e x) (b c:Nat) (j:a.eval x= Xj (Xa ⟨b,c,Xb⟩)) (vs:List Xq) (f:w.rangeAt b c vs) {d:TypeDesc} (i:Tryz.prog.underlying e=Xa d) (g:d.isRow=Xc) (hi:(Tryz.prog.info? e).map (·.size)=Xa vs.length):(execOp a.eval o).run prog w= .ok (.value (Xi vs.toArray)) w:=by
 have:=run_loadAt_mid (P:=prog) w b c e vs d f i g hi;simp only[execOp,h,j,Xv,this,rA,Yb]
theorem zkh {a:Act} {w:Xn} (f x) (i:o.op= .load f x) (b c:Nat) (j:a.eval x= Xj (Xa ⟨b,c,Xb⟩)) (v) (h:w.cell? ⟨b,c,Xb⟩=Xa v) {d:TypeDesc} (g:Tryz.prog.underlying f=Xa d) (e:d.isRow=Xd):(execOp a.eval o).run prog w= .ok (.value v) w:=by
 have e:(isAgg f).run prog w= .ok Xd w:=by
  unfold isAgg;rw[Xv,run_underlying g w]
  cases d <;> simp_all [TypeDesc.isRow]
 have g:(loadVar f ⟨b,c,Xb⟩).run prog w= .ok v w:=by simp[loadVar,Xv,e,h]
 simp only[execOp,i,j,Instr.loadAt,Instr.sureAddr,Xv,Yb,g,rA]
theorem zln (y) (h:j<l.length):splice (qr l) (j*7) (arv y)=qr (l.set j y):=zbJ (enc:=arv) (k:=7) y rfl l j (fun _ _=>rfl) h
theorem zha {e:Ar} (h:l[j]? =Xa e) (i:Nat) (u) (a:(arv e)[i]? =Xa u):(qr l)[j*7+i]? =Xa u:=jX (enc:=arv) (k:=7) l j e (fun _ _=>rfl) h i u a
theorem Q1 (f:Nat->Ar):(qr (tab f)).length=448:=by rw[zlo,zhS]
theorem zeh {rest:List Oper} {c:Oper} {a:Act} {w:Xn} (d:c.guard=Xb) (p x) (e:c.op= .store 125 p x) (b k:Nat) (g:k<64) (hp:a.eval p= Xj (Xa ⟨b,k*7,Xb⟩)) (y) (i:a.eval x=arA y)
  {f:Nat->Ar} (hb:Box w b (qr (tab f)))
  (h:∀w',Box w' b (qr (tab (upd f k y)))->w.grownBy w' (Xa b)->w'.heap.size=w.heap.size->wpList prog ops Q rest (a.put c.dst undef) w'):wpList prog ops Q (c :: rest) a w:=by
 refine zht d 125 p x e b (k*7) hp (arv y) i hb (by rw[Q1];show _+7<=_;omega) zsf (arE.one y) fun w' c d e=>h w' ?_ d e
 rw[zln y (by rw[zhS];exact g),zpP]at c
 exact c
theorem zgR {cs:List Xq} {o k:Nat} (a:vs.length=k) (h:∀(i:Nat) u,vs[i]? =Xa u->cs[o+i]? =Xa u):cs.toArray.extract o (o+k)=vs.toArray:=by
 apply Array.ext_getElem?
 intro j;rw[Array.getElem?_extract]
 by_cases a:j<k
 ·obtain⟨u,b⟩:∃u,vs[j]? =Xa u:=⟨_,gE (by omega)⟩
  have a:=h j u b;have c:=(gS.1 a).1;rw[kE (by simp;omega)]
  simp[a,b]
 rw[kF (by omega)]
 simp;omega
theorem zoi {w:Xn} {f:Nat->Ar} (i:Nat) (hi:i<64):(Instr.index 233 (Xi (qr (tab f)).toArray) (I6 (i:Int))).run prog w= .ok (arA (f i)) w:=by
 have e:(isAgg 125).run prog w= .ok Xc w:=by
  unfold isAgg;rw[Xv,run_underlying underlying125 w];rfl
 have g:(Go.sizeOf 125).run prog w= .ok 7 w:=by
  obtain⟨a,c,d⟩:∃a,Tryz.prog.info? 125=Xa a/\a.size=7:=by
   have:=zsf
   cases b:Tryz.prog.info? 125 with
   | none=>rw[b]at this;cases this
   | some a=>rw[b]at this;exact⟨a,rfl,by simpa using this⟩
  simp[Go.sizeOf,typeInfo,c,d]
 have a:(0:Int)<=(i:Int)/\(i:Int)< ((64:Nat):Int):=by omega
 have c:(qr (tab f)).toArray.extract (i*7) (i*7+7)=(arv (f i)).toArray:=zgR rfl fun j u b=>zha (zi2 hi) j u b
 simp only[Instr.index,asIntOf,Xv,Yb,rA,run_underlying underlying233];rw[kE a];simp only[Xv,g,rA,part,e,if_true,tN,Yb,c];rfl
theorem zpM {rest:List Oper} {a:Act} {w:Xn} (b:o.guard=Xb) (x ix) (d:o.op= .index 233 x ix) (f:Nat->Ar) (e:a.eval x= Xi (qr (tab f)).toArray) (i:Nat) (c:a.eval ix=I6 (i:Int)) (hi:i<64)
  (h:wpList prog ops Q rest (a.put o.dst (arA (f i))) w):wpList prog ops Q (o :: rest) a w:=by
 refine wpList_plain b fun K b=>?_
 unfold Oper.wp execOp;simp only[d,e,c,Xv,Yb,rA,zoi i hi];exact b _ _ h
theorem zn7 {rest:List Oper} {a:Act} {w:Xn} (b:o.guard=Xb) (x ix) (d:o.op= .index 233 x ix) (f:Nat->Ar) (g:a.eval x= Xi (qr (tab f)).toArray) (i:Nat) (c:a.eval ix=I6 (i:Int)) (hi:i<64) {v:Xq} (e:arA (f i)=v)
  (h:wpList prog ops Q rest (a.put o.dst v) w):wpList prog ops Q (o :: rest) a w:=zpM b x ix d f g i c hi (by rw[e];exact h)
theorem zlQ {rest:List Oper} {a:Act} {w:Xn} (c:o.guard=Xb) (x) (e:o.op= .load 125 x) (b k:Nat) (d:k<64) (g:a.eval x= Xj (Xa ⟨b,k*7,Xb⟩)) {f:Nat->Ar} (hb:Box w b (qr (tab f)))
  (h:wpList prog ops Q rest (a.put o.dst (arA (f k))) w):wpList prog ops Q (o :: rest) a w:=
 wpList_load_mid c 125 x e b (k*7) g (arv (f k)) _ (hb.mid _ fun j u c=>zha (zi2 d) j u c) underlying125 rfl zsf h
theorem zj2 {rest:List Oper} {a:Act} {w:Xn} (c:o.guard=Xb) (x) (e:o.op= .load 125 x) (b k:Nat) (d:k<64) (i:a.eval x= Xj (Xa ⟨b,k*7,Xb⟩)) {f:Nat->Ar} (hb:Box w b (qr (tab f))) {v:Xq} (g:arA (f k)=v)
  (h:wpList prog ops Q rest (a.put o.dst v) w):wpList prog ops Q (o :: rest) a w:=zlQ c x e b k d i hb (by rw[g];exact h)
theorem zrA:(Tryz.prog.info? 233).map (·.zero)=Xa (Xa (Xi (qr (tab fun _=>ar0)).toArray)):=by kernel_rfl
theorem zga (w):(zeroValue 233).run prog w= .ok (Xi (qr (tab fun _=>ar0)).toArray) w:=by
 have h:=zrA
 cases a:Tryz.prog.info? 233 with
 | none=>simp[a]at h
 | some i=>
  simp[a]at h
  simp[zeroValue,typeInfo,a,h]
def qA (f:Nat->On):Nat->Ar:=fun n=>Jz n (f n)
def zlA (l:List Ar) (i:Nat) (a:Ar) (n:Nat):Nat->On:=fun j=>if a.fr<=(j:Int)/\(j:Int)< (n:Int)then qg a j else zD (l.take i) j
theorem Qz.take:∀{l:List Ar} {p:Option Ar},Qz p l->∀i,Qz p (l.take i)
 | [],_,_,i=>by simp[Qz]
 | a :: l,p,h,0=>by simp[Qz]
 | a :: l,p,h,i+1=>⟨h.1,h.2.1,h.2.2.take i⟩
theorem Qz.free (h:Qz Xb l) {i:Nat} {a:Ar} (d:l[i]? =Xa a) (b:a.fr<=(j:Int)):zD (l.take i) j=on0:=by
 refine zba fun x c=>zdQ ?_
 have b:=h.take (i+1);rw[j0 d]at b;obtain⟨d,e,f⟩:=JZ.1 b
 cases b:zaM Xb (l.take i)with
 | none=>
  unfold zaM at b
  cases e:l.take i with
  | nil=>rw[e]at c;cases c
  | cons y g=>rw[e]at b;simp[List.getLast?_cons]at b
 | some y=>
  have q:=(f y b).1;have f:jN y:=d.all y (by
   unfold zaM at b
   split at b
   ·rename_i e e
    cases b;exact List.mem_of_getLast? e
   cases b)
  unfold jN at f
  rcases zij _ Xb d x c y b with e|e
  ·rw[e];omega
  omega
theorem zmE {i:Nat} {a:Ar} {n:Nat} (b:(n:Int)=a.fr):zlA l i a n=zD (l.take i):=by
 funext j
 unfold zlA;rw[kF (by omega)]
theorem zoD {i:Nat} {a:Ar} {n:Nat} (b:a.fr<=(n:Int)):upd (qA (zlA l i a n)) n (Jz n (qg a n))=qA (zlA l i a (n+1)):=by
 funext j
 unfold upd qA zlA
 by_cases e:j=n
 ·subst e;rw[kE rfl,kE (by omega)]
 rw[kF e]
 congr 1
 by_cases h:a.fr<=(j:Int)/\(j:Int)< (n:Int)
 ·rw[kE h,kE (by omega)]
 rw[kF h,kF (by omega)]
theorem zqb {i:Nat} {a:Ar} {n:Nat} (h:Qz Xb l) (c:l[i]? =Xa a) (b:(n:Int)=a.tz):zlA l i a n=zD (l.take (i+1)):=by
 funext j
 unfold zlA;rw[j0 c,JM]
 ·by_cases b:a.fr<=(j:Int)/\(j:Int)< (n:Int)
  ·rw[kE b,kE (ja.2 (by omega))]
  rw[kF b,kF (fun d=>b (by have:=ja.1 d;omega))]
 by_cases b:a.fr<=(j:Int)
 ·exact .inl (h.free c b)
 exact .inr (zdQ (by omega))
theorem zms:qA (zD ([]:List Ar))=fun _=>ar0:=by
 funext j
 rfl
theorem zko (v l w) (f:zl arE w v l) (c:Qz Xb l):
  Xp prog 170 #[v] w fun e w'=>e= Xl (Xi (qr (tab (qA (zD l)))).toArray)/\zb w w':=by
 have d:=f.short;obtain⟨b,b,rfl,b⟩:=f.ars;have m:=dD b;have p:=dD c;have F:=dD<|fun (q:Ar) (k:Nat) W (g:jN q) (h:k<64)=>zjg q k W g h
 clear b f c;have h:=zga;obtain⟨g,c⟩:=kA (qr (tab fun _=>ar0))
 rw[c.out]at h;have s:Xo (g.length=448):=dD<|by rw[<-c.out,Q1]
 obtain⟨C,y⟩:=kA (qr (tab (qA (zD l))));rw[y.out];obtain⟨k,E⟩:=kA l.length;rw[E.out]at d⊢;obtain⟨f,b⟩:=kB ((w.alloc (Xk g.toArray 233)).alloc (Xk g.toArray 233));have d:=gD2 b
 have r:Xo (Box f w.heap.size g):=dD<|by rw[<-b];exact(Box.top _ _ _ (by simp)).alloc _
 have j:Xo (Box f (w.heap.size+1) (qr (tab (qA (zD (l.take 0)))))):=dD<|by rw[<-b,List.take_zero,zms,c.out];exact Box.top _ _ _ (by simp)
 have c:=dD b;clear b
 go_enter func170,ntmps170
 go_upto_region 2 with fail;rw[c.out];clear h;go_wp2
 go_loopg [9] k (fun b f wr=>∃c:Nat,c<=k/\k - c<=b/\f=I6 c/\Xo (zb w wr)/\Xo (Box wr w.heap.size g)/\Xo (Box wr (w.heap.size+1) (qr (tab (qA (zD (l.take c)))))))
 case atStart=>exact⟨0,nZ _,by omega,rfl,d,r,j⟩
 obtain⟨c,b,z,rfl,B,L,K⟩:=hrel
 by_cases j:c<k
 ·have x:=kC j
  obtain⟨q,G⟩:∃q,Xo (l[c]? =Xa q):=⟨_,gE (by rw[E.out];exact j)⟩
  obtain⟨b,rfl,f⟩:=m.out c q G.out;obtain⟨N,P,Q,R,S,T,U⟩:=f wr B.out;have r:=dD<|p.all q (mG G);have b:0<=q.fr/\q.fr<q.tz/\q.tz<=64:=by have:=r.out;unfold jN at this;omega
  obtain⟨d,d,d⟩:=b;obtain⟨A,d⟩:=kA wr.heap.size;have D:Xo (w.heap.size+1<A):=dD<|by rw[<-d.out];exact K.lt
  clear f;go_upto_region 5 with fail;obtain⟨h,b⟩:=kB (wr.alloc (Xk #[I6 q.fr,I6 q.tz,Xh q.rd,Xh q.wr,Xh q.sh,I6 q.file,I6 q.base] 125));have u:=gT b B
  have M:=yA b L
  obtain⟨f,m⟩:∃f:Nat,(f:Int)=q.fr:=⟨q.fr.toNat,by omega⟩
  have H:Xo (Box h (w.heap.size+1) (qr (tab (qA (zlA l c q f))))):=dD<|by rw[<-b,zmE m];exact K.alloc _
  have t:=xP b d
  rw[b,d.out];clear b N P Q R S T U;have N:=t.c 0 rfl;go_wp2
  go_loopg [6] (q.tz.toNat - f) (fun h P d=>∃b:Nat,f<=b/\(b:Int)<=q.tz/\q.tz.toNat - b<=h/\P=I6 b/\Xo (zb w d)/\Xo (Box d w.heap.size g)/\Xo (Box d (w.heap.size+1) (qr (tab (qA (zlA l c q b)))))/\Xo (Box d A [I6 q.fr,I6 q.tz,Xh q.rd,Xh q.wr,Xh q.sh,I6 q.file,I6 q.base]))
  case atStart=>exact⟨f,nR _,by omega,by omega,by rw[m],u,M,H,t⟩
  obtain⟨b,d,d,d,rfl,m,u,t,f⟩:=hrel;clear N;have N:=f.c 1 rfl
  by_cases d:(b:Int)<q.tz
  ·have d:b<64:=by omega
   have H:(b:Int)<64:=by omega
   have H:Xo (upd (qA (zlA l c q b)) b (Jz b (qg q b))=qA (zlA l c q (b+1))):=zoD (l:=l) (i:=c) (a:=q) (n:=b) (by omega)
   go_wp2_with (refine zo rfl 125 (.tmp 5) rfl A rfl f underlying125 rfl zsf ?_)
   refine(F q b wr r d).mono ?_;rintro e r ⟨rfl,h⟩;have M:=dD (m.trans h);have Q:=dD (u.grew h);have r:=dD (t.grew h);have P:=dD (f.grew h);clear h N
   go_wp2_with (refine zeh rfl (.tmp 25) (.tmp 24) rfl (w.heap.size+1) b d rfl (Jz b (qg q b)) rfl r.out ?_)
   intro f h d F;have N:Xo (Box f (w.heap.size+1) (qr (tab (qA (zlA l c q (b+1)))))):=dD<|by rw[<-H.out];exact h
   have r:Xo (zb w f):=zd M d (by simp)
   have H:Xo (Box f w.heap.size g):=Q.beside d (by intro M z;cases z;simp)
   have g:Xo (Box f A [I6 q.fr,I6 q.tz,Xh q.rd,Xh q.wr,Xh q.sh,I6 q.file,I6 q.base]):=P.beside d (by intro M z;cases z;have:=D.out;omega)
   clear h d F;go_wp2
   go_roundg (q.tz.toNat -(b+1))
   case measure=>omega
   exact⟨b+1,by omega,by omega,by omega,by go_num,r,H,N,g⟩
  have z:(b:Int)=q.tz:=by omega
  have g:Xo (Box wr (w.heap.size+1) (qr (tab (qA (zD (l.take (c+1))))))):=dD<|by rw[<-zqb p.out G.out z];exact t.out
  go_wp2
  go_roundg (k -(c+1))
  case measure=>omega
  exact⟨c+1,by omega,by omega,by go_num,m,u,g⟩
 have x:=kD j
 have:c=k:=by omega
 subst this;have g:Xo (Box wr (w.heap.size+1) C):=dD<|by rw[<-y.out];have:=K.out;rw[<-E.out,List.take_length]at this;exact this
 have b:Xo (C.length=448):=dD<|by rw[<-y.out,Q1]
 have c:Xo (∀v∈C,v.oneCell'=Xc):=dD<|by rw[<-y.out];exact zeJ _
 go_wp2_with (first | refine zo rfl 233 (.tmp 3) rfl (w.heap.size+1) rfl g underlying233 rfl (by rw[b.out];exact zsh) ?_ | refine zz rfl 233 (.tmp 2) (.tmp 27) rfl w.heap.size rfl C rfl L (by rw[b.out,s.out]) (by rw[s.out];exact zsh) c.out ?_)
 intro f h d F;have r:Xo (zb w f):=dD<|zd B d (by simp)
 have c:=dD h;clear h d F;go_wp2;refine bodyPost_ret (zG rfl _ rfl c underlying233 rfl (by rw[b.out];exact zsh)) rfl ⟨rfl,r⟩
theorem zc.arc {base:Nat} {w:Xn} {n c:Nat} {fs:List Ar} (h:zc arE base w (O (Xa ⟨g,0,Xb⟩) n c) fs) {i:Nat} {q:Ar} (a:fs[i]? =Xa q) (j:Nat) {u:Xq} (b:(arv q)[j]? =Xa u):w.cell? ⟨g,i*7+j,Xb⟩=Xa u:=by
 have:=h.one a j u b;rw[jb,Xs,zA]at this;exact this
theorem zou {f:Nat->On} {k:Nat} (h:(f k).is=Xc):qA f k=⟨k,(k:Int)+1,(f k).rd,(f k).wr,(f k).sh,(f k).file,(f k).page⟩:=by
 unfold qA Jz;rw[kE h]
theorem zot {f:Nat->On} {k:Nat} (h:(f k).is=Xd):qA f k=ar0:=by
 unfold qA Jz;rw[kF (by rw[h];decide)]
theorem zkL (f:Nat->On) (w:Xn) (hg:zpt f):
  Xp prog 171 #[Xi (qr (tab (qA f))).toArray] w fun e w'=>(∃v,e= Xl v/\zc arE (w.heap.size+1) w' v (zd6 f))/\zb w w':=by
 have HGD:=dD hg;have hgo:=dD<|fun (q:Ar) (b:Ar) W (h:jN b)=>zey q b W h
 have HIX:Xo (∀{ops:Array Oper} {rest:List Oper} {o:Oper} {a:Act} {w:Xn} {Q:Exit->Act->Xn->Prop} (_:o.guard=Xb) (x ix:Operand) (_:o.op= .index 233 x ix) (_:a.eval x= Xi (qr (tab (qA f))).toArray) (i:Nat) (_:a.eval ix=I6 (i:Int)) (_:i<64) {v:Xq} (_:arA (qA f i)=v)
  (_:wpList prog ops Q rest (a.put o.dst v) w),wpList prog ops Q (o :: rest) a w):=fun h1 x ix h2 h3 i h4 h5 _ h6 h7=>zn7 h1 x ix h2 (qA f) h3 i h4 h5 h6 h7
 clear hg;have HCL:Xo ((qr (tab (qA f))).length=448):=Q1 _
 generalize qr (tab (qA f))=C at HIX HCL⊢
 obtain⟨W0,hW0⟩:=kB (w.alloc (Xk C.toArray 233));have HG0:=gA hW0
 have X0:=xA hW0
 have HS0:=sA hW0
 have HW0:=dD hW0;clear hW0
 go_enter func171,ntmps171
 go_upto_region 1 with fail;rw[HW0.out]
 go_wp2_with (refine zo rfl 233 (.tmp 1) rfl w.heap.size rfl X0 underlying233 rfl (by rw[HCL.out];exact zsh) ?_)
 go_loopg [3,8] 64 (fun gg s3 s8 wr=>∃(kk:Nat) (acc:List Ar) (xa:Option Addr) (xc:Nat),kk<=64/\64 - kk<=gg/\s8=I6 kk/\s3= O xa acc.length xc/\Xo (zb W0 wr)/\Xo (zc arE (w.heap.size+1) wr (O xa acc.length xc) acc)/\Xo (J f kk acc))
 case atStart=>exact⟨0,[],Xb,0,nZ _,by omega,rfl,rfl,zb.refl _,zc.nil _ _ _,J.zero f⟩
 obtain⟨kk,acc,xa,xc,hkk,hgg,rfl,rfl,BW,OW,JW⟩:=hrel
 by_cases hlt:kk<64
 ·have hltz:(kk:Int)<64:=by omega
  have HLEN:=dD JW.len;obtain⟨p,HP⟩:=kA wr.heap.size
  cases hs:(f kk).is with
  | false=>
   have HIV:Xo (arA (qA f kk)= Xi #[I6 0,I6 0,Xh Xd,Xh Xd,Xh Xd,I6 0,I6 0]):=dD<|by rw[zot hs];rfl
   have J2:=dD<|JW.skip ((HGD kk hlt).1 hs);clear hs
   go_wp2_with (refine HIX rfl (.tmp 7) (.tmp 8) rfl rfl kk rfl hlt HIV.out ?_)
   go_roundg (64 -(kk+1))
   case measure=>omega
   exact⟨kk+1,acc,xa,xc,by omega,by omega,by go_num,rfl,BW.trans (za _ _),OW.grew (za _ _),J2⟩
  | true=>
   have HS:=dD hs;have HPF:=dD<|zou hs;have HNEW:Xo ((∀b,acc.getLast? =Xa b->goB (qA f kk) b=Xd)->J f (kk+1) (acc++ [qA f kk])):=fun h=>JW.new HGD hlt HS h
   have HEXT:Xo (∀i b,acc=i++ [b]->goB (qA f kk) b=Xc->J f (kk+1) (i++ [{ b with tz:=(kk:Int)+1 }])):=fun i b h1 h2=>by
    have:=JW.out;rw[h1]at this;exact this.ext HGD hlt HS h2
   clear hs;rw[HPF.out]at HNEW HEXT;have HIV:Xo (arA (qA f kk)= Xi #[I6 (kk:Int),I6 ((kk:Int)+1),Xh (f kk).rd,Xh (f kk).wr,Xh (f kk).sh,I6 (f kk).file,I6 (f kk).page]):=dD<|by rw[HPF.out];rfl
   generalize f kk=x at HNEW HEXT HIV
   have hne1:((kk:Int) ==(kk:Int)+1)=Xd:=by simp;omega
   go_upto_region 5 with(refine HIX rfl (.tmp 7) (.tmp 8) rfl rfl kk rfl hlt HIV.out ?_)
   obtain⟨W1,hW1⟩:=kB (wr.alloc (Xk #[I6 (kk:Int),I6 ((kk:Int)+1),Xh x.rd,Xh x.wr,Xh x.sh,I6 x.file,I6 x.page] 125));have G1:=gT hW1 BW
   have O1:Xo (zc arE (w.heap.size+1) W1 (O xa acc.length xc) acc):=dD<|by rw[<-hW1];exact OW.grew (za _ _)
   have P1:=xPT hW1 HP
   rw[hW1,HP.out];clear hW1
   rcases List.eq_nil_or_concat acc with hnil|⟨ini,b,hacc⟩
   ·subst hnil;have J2:Xo (J f (kk+1) [⟨kk,(kk:Int)+1,x.rd,x.wr,x.sh,x.file,x.page⟩]):=HNEW.out (fun b hb=>by cases hb)
    have p0:=P1.box.c 0 rfl;have p1:=P1.box.c 1 rfl;have hm1:decide ((0:Int)<=-1)=Xd:=by decide
    go_upto_region 7 with fail;go_quiet (fail);obtain⟨W2,hW2⟩:=kB (W1.drewN nq);have G2:Xo (zb W0 W2):=dD<|by rw[<-hW2];exact G1.trans (show Below _ _ _ from bD (bR _ _) _)
    have P2:Xo (zn W2 p 125 [I6 (kk:Int),I6 ((kk:Int)+1),Xh x.rd,Xh x.wr,Xh x.sh,I6 x.file,I6 x.page]):=dD<|by rw[<-hW2];exact P1.grew (show Below _ _ _ from bD (bR _ _) _)
    have O2:Xo (zc arE (w.heap.size+1) W2 (O xa 0 xc) []):=dD<|by rw[<-hW2];exact O1.grew (show Below _ _ _ from bD (bR _ _) _)
    rw[hW2];clear hW2 p0 p1;have HSZ:Xo (w.heap.size+1<=W2.heap.size):=dD<|by rw[<-HS0.out];exact bS G2.out
    go_wp2_with (first | refine zo rfl 125 (.tmp 5) rfl p rfl P2.box underlying125 rfl zsf ?_ | (at_builtin;refine zx (E:=arE) rfl (.tmp 35) (.tmp 37) rfl (w.heap.size+1) _ [] rfl (O2.grew (za _ _)) _ [⟨kk,(kk:Int)+1,x.rd,x.wr,x.sh,x.file,x.page⟩] rfl (Zg arE W2 ⟨kk,(kk:Int)+1,x.rd,x.wr,x.sh,x.file,x.page⟩ _ _ rfl (by show 40<=_;omega)) ?qb ?qc ?_))
    case qb=>
     show(0+1)*40<=_
     omega
    case qc=>simp;have:=HSZ.out;omega
    intro v4 W4 ow4 gr4;obtain⟨xa4,xc4,rfl⟩:=ow4.form;have O4:Xo (zc arE (w.heap.size+1) W4 (.slice xa4 ([]++ [(⟨kk,(kk:Int)+1,x.rd,x.wr,x.sh,x.file,x.page⟩:Ar)]).length xc4) ([]++ [⟨kk,(kk:Int)+1,x.rd,x.wr,x.sh,x.file,x.page⟩])):=ow4;have G4:Xo (zb W0 W4):=show zb _ _ from zX (G2.trans (za _ _)) gr4 (fun g hg=>by
     have h1:=(O2.lt g hg).1;rw[HS0.out];exact h1)
    clear ow4 gr4;go_wp2
    go_roundg (64 -(kk+1))
    case measure=>omega
    exact⟨kk+1,[]++ [(⟨kk,(kk:Int)+1,x.rd,x.wr,x.sh,x.file,x.page⟩:Ar)],xa4,xc4,by omega,by omega,by go_num,rfl,G4,O4,J2⟩
   rw[List.concat_eq_append]at hacc;have HACC:=dD hacc;obtain⟨m,HM⟩:=kA ini.length;have HAL:Xo (acc.length=m+1):=show _=_ by rw[HACC.out,<-HM.out];simp
   have HBI:Xo (acc[m]? =Xa b):=dD<|by rw[HACC.out,<-HM.out];simp
   have HBK:Xo (jN b):=JW.1.all b (by rw[HACC.out];simp)
   obtain⟨g,xc',hxe⟩:=O1.formS (by rw[HAL.out];omega)
   cases hxe;have hmm:((m+1:Nat):Int) - 1=(m:Int):=by omega
   have hm0:(0:Int)<=(m:Int):=by omega
   have hmd:decide ((0:Int)<=(m:Int))=Xc:=by simp
   have hmlt:(m:Int)< ((m+1:Nat):Int):=by omega
   have HML:Xo (m+1<=kk):=dD<|by rw[<-HAL.out];exact HLEN.out
   have hmk:m+1<=64:=by have:=HML.out;omega
   clear hacc;rw[HAL.out]at O1 OW⊢;have p0:=P1.box.c 0 rfl;have p1:=P1.box.c 1 rfl;go_upto_region 7 with fail;clear p0 p1;have hx0:∀y:zg W1,y.world.cell? ⟨p,0,Xb⟩=Xa (I6 (kk:Int)):=fun y=>(P1.box.grew y.grew).c 0 rfl
   have hx1:∀y:zg W1,y.world.cell? ⟨p,1,Xb⟩=Xa (I6 ((kk:Int)+1)):=fun y=>(P1.box.grew y.grew).c 1 rfl
   have hx2:∀y:zg W1,y.world.cell? ⟨p,2,Xb⟩=Xa (Xh x.rd):=fun y=>(P1.box.grew y.grew).c 2 rfl
   have hx3:∀y:zg W1,y.world.cell? ⟨p,3,Xb⟩=Xa (Xh x.wr):=fun y=>(P1.box.grew y.grew).c 3 rfl
   have hx4:∀y:zg W1,y.world.cell? ⟨p,4,Xb⟩=Xa (Xh x.sh):=fun y=>(P1.box.grew y.grew).c 4 rfl
   have hx5:∀y:zg W1,y.world.cell? ⟨p,5,Xb⟩=Xa (I6 x.file):=fun y=>(P1.box.grew y.grew).c 5 rfl
   have hx6:∀y:zg W1,y.world.cell? ⟨p,6,Xb⟩=Xa (I6 x.page):=fun y=>(P1.box.grew y.grew).c 6 rfl
   have hy0:∀y:zg W1,y.world.cell? ⟨g,m*7,Xb⟩=Xa (I6 b.fr):=fun y=>(O1.grew y.grew).arc HBI 0 rfl
   have hy1:∀y:zg W1,y.world.cell? ⟨g,m*7+1,Xb⟩=Xa (I6 b.tz):=fun y=>(O1.grew y.grew).arc HBI 1 rfl
   have hy2:∀y:zg W1,y.world.cell? ⟨g,m*7+2,Xb⟩=Xa (Xh b.rd):=fun y=>(O1.grew y.grew).arc HBI 2 rfl
   have hy3:∀y:zg W1,y.world.cell? ⟨g,m*7+3,Xb⟩=Xa (Xh b.wr):=fun y=>(O1.grew y.grew).arc HBI 3 rfl
   have hy4:∀y:zg W1,y.world.cell? ⟨g,m*7+4,Xb⟩=Xa (Xh b.sh):=fun y=>(O1.grew y.grew).arc HBI 4 rfl
   have hy5:∀y:zg W1,y.world.cell? ⟨g,m*7+5,Xb⟩=Xa (I6 b.file):=fun y=>(O1.grew y.grew).arc HBI 5 rfl
   have hy6:∀y:zg W1,y.world.cell? ⟨g,m*7+6,Xb⟩=Xa (I6 b.base):=fun y=>(O1.grew y.grew).arc HBI 6 rfl
   have hne:Nonempty (zg W1):=⟨⟨_,zb.refl _⟩⟩;obtain⟨R,HRR⟩:=kA (goB ⟨kk,(kk:Int)+1,x.rd,x.wr,x.sh,x.file,x.page⟩ b);refine qu [(8,⟨fun v=>v= Xh R,fun _ _=>True⟩)] zZ (by kernel_rfl) ?_ ?_ ?_
   ·intro x hx
    simp at hx
    subst hx;exact⟨_,rfl⟩
   ·intro x hx
    simp at hx
    subst hx;exact fun _ _ _ _ h=>h
   iterate 8 refine zf ?_
   refine zC rfl rfl (fun w' hg hF=>?_) (fun v1 hv=>?_)
   ·refine zR.call [Xi #[I6 (kk:Int),I6 ((kk:Int)+1),Xh x.rd,Xh x.wr,Xh x.sh,I6 x.file,I6 x.page],Xi #[I6 b.fr,I6 b.tz,Xh b.rd,Xh b.wr,Xh b.sh,I6 b.file,I6 b.base]] rfl func166 rfl rfl rfl ?_;refine(hgo.out ⟨kk,(kk:Int)+1,x.rd,x.wr,x.sh,x.file,x.page⟩ b w' HBK).mono ?_;rintro e w'' ⟨rfl,hg2⟩;exact⟨_,rfl,hg2,by rw[<-HRR.out],trivial⟩
   subst hv;simp only[Xu,sB,sS,sZ];refine zf ?_
   refine zP fun W2 hg1 hF=>?_
   have G2:=dD (G1.trans hg1);have P2:=dD (P1.grew hg1);have O2:=dD (O1.grew hg1);clear hg1 hF hx0 hx1 hx2 hx3 hx4 hx5 hx6 hy0 hy1 hy2 hy3 hy4 hy5 hy6 hne
   cases R with
   | true=>
    have J2:=dD<|HEXT.out ini b HACC HRR.out;have HSET:Xo (acc.set m { b with tz:=(kk:Int)+1 }=ini++ [{ b with tz:=(kk:Int)+1 }]):=show _=_ by rw[HACC.out,List.set_append_right _ _ (by rw[HM.out];exact nR _),HM,Nat.sub_self];rfl
    have p1:=P2.box.c 1 rfl
    go_wp2_with (refine z3 (E:=arE) rfl (.tmp 34) (.tmp 32) 3 rfl (w.heap.size+1) (O (Xa ⟨g,0,Xb⟩) (m+1) xc) acc O2 g m 1 rfl b { b with tz:=(kk:Int)+1 } HBI.out [I6 ((kk:Int)+1)] (by kernel_rfl) rfl (Xy rfl) (by intro u hu;simp at hu;subst hu;rfl) _ rfl (by simp;rfl) _ rfl rfl ?_)
    intro W3 ow3 gr3 sz3;have HBG:=O2.lt g rfl;have G3:Xo (zb W0 W3):=dD<|zd G2 gr3 (by rw[HS0.out];exact HBG.1)
    have HL3:Xo ((ini++ [{ b with tz:=(kk:Int)+1 }]).length=m+1):=dD<|by simp[HM.out]
    have O3:Xo (zc arE (w.heap.size+1) W3 (.slice (Xa ⟨g,0,Xb⟩) (ini++ [{ b with tz:=(kk:Int)+1 }]).length xc) (ini++ [{ b with tz:=(kk:Int)+1 }])):=dD<|by rw[HL3.out,<-HSET.out];exact ow3
    clear ow3 gr3 sz3 p1;rw[<-HL3.out];go_wp2
    go_roundg (64 -(kk+1))
    case measure=>omega
    exact⟨kk+1,ini++ [({ b with tz:=(kk:Int)+1 }:Ar)],Xa ⟨g,0,Xb⟩,xc,by omega,by omega,by go_num,rfl,G3,O3,J2⟩
   | false=>
    have J2:Xo (J f (kk+1) (acc++ [⟨kk,(kk:Int)+1,x.rd,x.wr,x.sh,x.file,x.page⟩])):=HNEW.out (fun c hc=>by
     rw[HACC.out]at hc
     simp at hc
     subst hc;exact HRR)
    have HSZ:Xo (w.heap.size+1<=W2.heap.size):=dD<|by rw[<-HS0.out];exact bS G2.out
    go_wp2_with (first | refine zo rfl 125 (.tmp 5) rfl p rfl P2.box underlying125 rfl zsf ?_ | (at_builtin;refine zx (E:=arE) rfl (.tmp 35) (.tmp 37) rfl (w.heap.size+1) _ acc rfl (O2.grew (za _ _)) _ [⟨kk,(kk:Int)+1,x.rd,x.wr,x.sh,x.file,x.page⟩] rfl (Zg arE W2 ⟨kk,(kk:Int)+1,x.rd,x.wr,x.sh,x.file,x.page⟩ _ _ rfl (by show 40<=_;omega)) ?qb ?qc ?_))
    case qb=>
     show(acc.length+1)*40<=_
     rw[HAL.out];omega
    case qc=>simp;have:=HSZ.out;omega
    intro v4 W4 ow4 gr4;obtain⟨xa4,xc4,rfl⟩:=ow4.form;have O4:Xo (zc arE (w.heap.size+1) W4 (.slice xa4 (acc++ [(⟨kk,(kk:Int)+1,x.rd,x.wr,x.sh,x.file,x.page⟩:Ar)]).length xc4) (acc++ [⟨kk,(kk:Int)+1,x.rd,x.wr,x.sh,x.file,x.page⟩])):=ow4;have G4:Xo (zb W0 W4):=show zb _ _ from zX (G2.trans (za _ _)) gr4 (fun g hg=>by
     have h1:=(O2.lt g hg).1;rw[HS0.out];exact h1)
    clear ow4 gr4;go_wp2
    go_roundg (64 -(kk+1))
    case measure=>omega
    exact⟨kk+1,acc++ [(⟨kk,(kk:Int)+1,x.rd,x.wr,x.sh,x.file,x.page⟩:Ar)],xa4,xc4,by omega,by omega,by go_num,rfl,G4,O4,J2⟩
 have hltz:¬(kk:Int)<64:=by omega
 have:kk=64:=by omega
 subst this;have HE:=dD<|JW.all HGD.out;have OE:Xo (zc arE (w.heap.size+1) wr (O xa acc.length xc) (zd6 f)):=show zc _ _ _ _ _ by rw[<-HE.out];exact OW.out
 have GE:=dD (HG0.trans BW);go_wp2;go_ret;exact⟨⟨_,rfl,OE⟩,GE⟩
structure Pts (m:Ma):Prop where
 s4:m.sp.length<=4
 f40:m.fs.length<=40
 fr:∀(k:Nat) f,m.fs[k]? =Xa f->0<=f.r/\f.r<=1000
 fl:m.fl.length<=5/\∀f∈m.fl,f.bl.length<=12
 ar:∀s∈m.sp,(wrL s.ars).1=0/\tbW s.tb=0
theorem zpu (h:zam m=0):Pts m:=by
 unfold zam at h;rw[zp]at h;have b:Zb m.fs m.hand=0:=h _ (by simp)
 have t:stW m.fl m.cnt=0:=h _ (by simp)
 have l:(if 4<m.sp.length then(4:Int)else 0)=0:=h _ (by simp)
 have j:=zp.1 (h (zu (m.sp.map spE)) (by simp))
 obtain⟨⟨n,u,v⟩,p,w⟩:=(qC _ _).1 t;unfold Zb at b
 split at b
 ·cases b
 rename_i x
 split at b
 ·rename_i c
  refine⟨?_,by omega,fun y f g=>?_,⟨n,fun f g=>?_⟩,fun s r=>?_⟩
  ·split at l
   ·cases l
   omega
  ·have i:=QL.1 c f (mG g);unfold frW at i
   split at i
   ·cases i
   rename_i q
   simp[inB]at q
   omega
  ·obtain⟨k,z,A⟩:=p f g;have:=zby k.1 k.2;omega
  have a:=j (spE s) (Ys.2 ⟨s,r,rfl⟩);unfold spE at a
  split at a
  ·rename_i d
   exact absurd a d
  rename_i d
  split at a
  ·rename_i e
   exact absurd a e
  rename_i e
  exact⟨Classical.byContradiction d,Classical.byContradiction e⟩
 rename_i c
 exact absurd b c
theorem zrn {p:Option Ca} {c:Ca} (h:caE m p c=0):(0<=c.file/\c.file< (m.fl.length:Int)/\0<=c.idx/\c.idx<bkN m c.file/\0<=c.fr/\c.fr< (m.fs.length:Int))/\((zQ m c.fr).r≠0/\(zQ m c.fr).f=c.file/\(zQ m c.fr).x=c.idx)/\∀q,p=Xa q->¬z5 c<=z5 q:=by
 unfold caE at h
 split at h
 ·cases h
 rename_i a
 split at h
 ·cases h
 rename_i a
 refine⟨by omega,⟨fun e=>a (.inl e),Classical.byContradiction fun e=>a (.inr (.inl e)),Classical.byContradiction fun e=>a (.inr (.inr e))⟩,fun q e k=>?_⟩
 subst e;have h:(if z5 c<=z5 q then(2:Int)else 0)=0:=h;rw[kE k]at h;cases h
def zhA (r:List Int × Bool × Int):Xq:= Xm #[Xi (pgc r.1).toArray,Xh r.2.1,I6 r.2.2]
theorem zqB (h:maW m=0):∀s∈m.sp,∀n,n<64->(if(ze s n).kind=0 then 0 else zdD m (zD s.ars n) (ze s n))=0:=fun s c n b=>by
 unfold maW at h;rw[zp]at h;have a:=zp.1 (h (zu (m.sp.map (zd3 m))) (by simp)) (zd3 m s) (Ys.2 ⟨s,c,rfl⟩)
 unfold zd3 at a;exact zp.1 a _ (Ys.2 ⟨n,List.mem_range.2 b,rfl⟩)
theorem JO (h:maW m=0):zam m=0:=by
 unfold maW at h;rw[zp]at h;exact h _ (by simp)
def byD (m:Ma) (fi k:Nat):Int:=(zT m (fi:Int) ((k / 8:Nat):Int)).getD (k % 8) 0
def Byt (m:Ma) (file:Int) (w:Xn) (e:Ending) (w':Xn):Prop:=∃u,e= Xl (Xm #[u,I6 (Jj m file)])/\zc byE w.heap.size w' u (J1 m file)
theorem zrf (h:maW m=0) {f:Fl} (c:m.fl[fi]? =Xa f):(0<=f.size/\f.size<=96)/\(f.bl.length:Int)=zcl f.size:=by
 have a:=JO h;unfold zam at a;rw[zp]at a;have b:=((qC _ _).1 (a (stW m.fl m.cnt) (by simp))).2.1 f (mG c)
 exact⟨b.1,b.2.1⟩
theorem zkg {a:Act} {w:Xn} (c x) (h:o.op= .load c x) (e) (i:a.eval x= Xj (Xa e)) (v) (g:w.cell? e=Xa v) {d:TypeDesc} (f:Tryz.prog.underlying c=Xa d) (b:d.isRow=Xd):(execOp a.eval o).run prog w= .ok (.value v) w:=by
 have b:(isAgg c).run prog w= .ok Xd w:=by
  unfold isAgg;rw[Xv,run_underlying f w]
  cases d <;> simp_all [TypeDesc.isRow]
 have f:(loadVar c e).run prog w= .ok v w:=by simp[loadVar,Xv,b,g]
 simp only[execOp,h,i,Instr.loadAt,Instr.sureAddr,Xv,Yb,f,rA]
structure zrT (m:Ma) (c:Ca) (k fi ix:Nat) (f:Fr) (F:Fl):Prop where
 fr:c.fr=(k:Int)
 file:c.file=(fi:Int)
 idx:c.idx=(ix:Int)
 fa:m.fs[k]? =Xa f
 ff:f.f=(fi:Int)
 fx:f.x=(ix:Int)
 fl:m.fl[fi]? =Xa F
 sz:0<=F.size/\F.size<=96
 lo:ix<=12
 r:f.r≠0
 bl:ix<F.bl.length
theorem znC (p:maW m=0) {c:Ca} (a:c∈m.ca):∃k b e f F,zrT m c k b e f F:=by
 obtain⟨⟨d,d,d,s,d,d⟩,⟨j,l,n⟩,-⟩:=zrn ((zw.1 (za4 p).1.ca).1 c a);obtain⟨k,r⟩:∃k:Nat,c.fr=(k:Int):=⟨c.fr.toNat,by omega⟩
 obtain⟨b,a⟩:∃b:Nat,c.file=(b:Int):=⟨c.file.toNat,by omega⟩
 obtain⟨e,d⟩:∃e:Nat,c.idx=(e:Int):=⟨c.idx.toNat,by omega⟩
 obtain⟨f,q⟩:∃f,m.fs[k]? =Xa f:=⟨_,gE (by omega)⟩
 obtain⟨F,g⟩:∃F,m.fl[b]? =Xa F:=⟨_,gE (by omega)⟩
 have i:zQ m c.fr=f:=by unfold zQ;rw[r,tN,gD,q];rfl
 have h:bkN m c.file=(F.bl.length:Int):=by unfold bkN;rw[a,tN,gD,g];rfl
 rw[i]at j l n;rw[h]at s;obtain⟨h,i⟩:=zrf p g;have:=zby h.1 h.2;exact⟨k,b,e,f,F,r,a,d,q,l.trans a,n.trans d,g,h,by omega,j,by omega⟩
end
section
theorem zg2 {α:Type} (P:α->Bool):∀{l:List α} {k:Nat} {x y:α},l[k]? =Xa x->(l.set k y).countP P+(P x).toNat=l.countP P+(P y).toNat
 | [],k,x,y,h=>by simp at h
 | a :: l,0,x,y,h=>by
  have:a=x:=by simpa using h
  subst this;rw[sZ,Ye,Ye]
  cases P a <;> cases P y <;> simp
 | a :: l,k+1,x,y,h=>by
  have:=zg2 P (l:=l) (k:=k) (x:=x) (y:=y) (by rw[Xt]at h;exact h)
  rw[sS,Ye,Ye];omega
theorem zoV {fs:List Fr} {k:Nat} {fr:Fr} (a:fs[k]? =Xa fr) (b:fr.r≠0):qL (fs.set k frF)=qL fs+1:=by
 have h:qL (fs.set k frF)+(decide (fr.r=0)).toNat=qL fs+(decide (frF.r=0)).toNat:=zg2 _ a;rw[decide_eq_false b,show decide (frF.r=0)=Xc from rfl]at h
 exact h
theorem jA {fs:List Fl} {b:Int}:qe fs b=Xc↔∃(i:Nat) (f:Fl) (j:Nat),fs[i]? =Xa f/\f.bl[j]? =Xa b:=by
 unfold qe;rw[List.any_eq_true];constructor
 ·rintro⟨f,c,h⟩;obtain⟨i,a⟩:=Yn c;obtain⟨j,c⟩:=Yn (Yl.1 h);exact⟨i,f,j,a,c⟩
 rintro⟨i,f,j,a,c⟩;exact⟨f,mG a,Yl.2 (mG c)⟩
theorem JI {l:List Int} {b:Int} (h:b∈l) (hb:b≠-1):b∈Jv l:=Yj.2 ⟨h,by simpa using hb⟩
theorem zc4 {b:Int} (hb:b≠-1):∀{l:List Int} {j k:Nat},(Jv l).Nodup->l[j]? =Xa b->l[k]? =Xa b->j=k
 | [],j,k,_,h,_=>by simp at h
 | a :: l,j,k,c,d,e=>by
  have g:(Jv l).Nodup:=by
   unfold Jv at c⊢;rw[List.filter_cons]at c
   split at c
   ·exact(List.nodup_cons.1 c).2
   exact c
  have f:a=b->b∉l:=fun h i=>by
   subst h;unfold Jv at c;rw[List.filter_cons,kE (by simpa using hb)]at c
   exact(List.nodup_cons.1 c).1 (JI i hb)
  cases j with
  | zero=>
   cases k with
   | zero=>rfl
   | succ k=>
    rw[Xt]at e;exact absurd (mG e) (f (by simpa using d))
  | succ j=>
   cases k with
   | zero=>
    rw[Xt]at d;exact absurd (mG d) (f (by simpa using e))
   | succ k=>
    rw[Xt]at d e;rw[zc4 hb g d e]
theorem zhh {fs:List Fl} {i:Nat} {f:Fl} {b:Int} (a:fs[i]? =Xa f) (c:f.bl[j]? =Xa b):b∈zbB fs:=List.mem_flatMap.2 ⟨f,mG a,mG c⟩
theorem zeM {b:Int} (hb:b≠-1):∀{fs:List Fl} {i k j l:Nat} {f g:Fl},(Jv (zbB fs)).Nodup->fs[i]? =Xa f->f.bl[j]? =Xa b->fs[k]? =Xa g->g.bl[l]? =Xa b->i=k/\j=l
 | [],i,k,j,l,f,g,_,h,_,_,_=>by simp at h
 | a :: fs,i,k,j,l,f,g,m,d,e,c,h=>by
  have j:Jv (zbB (a :: fs))=Jv a.bl++Jv (zbB fs):=by
   unfold Jv zbB;rw[List.flatMap_cons,List.filter_append]
  rw[j,List.nodup_append]at m;obtain⟨p,q,n⟩:=m
  cases i with
  | zero=>
   have j:a=f:=by simpa using d
   subst j
   cases k with
   | zero=>
    have j:a=g:=by simpa using c
    subst j;exact⟨rfl,zc4 hb p e h⟩
   | succ k=>
    rw[Xt]at c;exact absurd rfl (n b (JI (mG e) hb) b (JI (zhh c h) hb))
  | succ i=>
   rw[Xt]at d
   cases k with
   | zero=>
    have j:a=g:=by simpa using c
    subst j;exact absurd rfl (n b (JI (mG h) hb) b (JI (zhh d e) hb))
   | succ k=>
    rw[Xt]at c;obtain⟨j,m⟩:=zeM hb q d e c h;exact⟨by rw[j],m⟩
theorem znF {fs:List Fl} {a:Int} {file idx:Nat} {f:Fl} (h:stW fs a=0) (c:fs[file]? =Xa f) (d:f.bl[idx]? =Xa (b:Int)):
  fs.set file ⟨f.size,f.bl.set idx (b:Int)⟩=fs/\(∀x,qe fs x=Xc↔(qe fs x=Xc/\x≠-1)\/x=(b:Int)\/(x=-1/\qe fs x=Xc))/\∀(i j:Nat) g,fs[i]? =Xa g->g.bl[j]? =Xa (b:Int)->i=file/\j=idx:=by
 obtain⟨_,_,k⟩:=(qC fs a).1 h;have h:(b:Int)≠-1:=by omega
 refine⟨?_,fun x=>?_,fun i j g a e=>zeM h k a e c d⟩
 ·have a:f.bl.set idx (b:Int)=f.bl:=by
   apply Yt
   intro q;rw[Yu]
   split
   ·rename_i e
    subst e;rw[kE (gS.1 d).1,d]
   rfl
  rw[a]
  apply Yt
  intro q;rw[Yu]
  split
  ·rename_i e
   subst e;rw[kE (gS.1 c).1,c]
  rfl
 constructor
 ·intro a
  by_cases e:x=-1
  ·exact .inr (.inr ⟨e,a⟩)
  exact .inl ⟨a,e⟩
 rintro(⟨a,_⟩|rfl|⟨_,a⟩)
 ·exact a
 ·exact jA.2 ⟨file,f,idx,c,d⟩
 exact a
theorem znG {fs:List Fl} {a:Int} {file idx:Nat} {f:Fl} (h:stW fs a=0) (n:fs[file]? =Xa f) (p:f.bl[idx]? =Xa (-1)) (hb:b∈Qa fs a):
  stW (fs.set file ⟨f.size,f.bl.set idx (b:Int)⟩) a=0/\(∀x,qe (fs.set file ⟨f.size,f.bl.set idx (b:Int)⟩) x=Xc↔(qe fs x=Xc/\x≠-1)\/x=(b:Int)\/(x=-1/\qe (fs.set file ⟨f.size,f.bl.set idx (b:Int)⟩) x=Xc))/\qe fs (b:Int)=Xd/\∀(i j:Nat) g,fs[i]? =Xa g->g.bl[j]? =Xa (b:Int)->i=file/\j=idx:=by
 have q:qe fs (b:Int)=Xd:=by
  have:=(Yj.1 hb).2
  simpa using this
 have d:=(gS.1 n).1;have m:=(gS.1 p).1;refine⟨(zkT h n p hb).1,fun x=>?_,q,fun i j g c a=>?_⟩
 ·constructor
  ·intro h
   by_cases k:x=-1
   ·exact .inr (.inr ⟨k,h⟩)
   obtain⟨i,g,j,c,a⟩:=jA.1 h
   by_cases l:file=i
   ·subst l;rw[sF d]at c;cases c;simp only at a
    by_cases e:idx=j
    ·subst e;rw[sF m]at a;cases a;exact .inr (.inl rfl)
    rw[sN e]at a;exact .inl ⟨jA.2 ⟨file,f,j,n,a⟩,k⟩
   rw[sN l]at c;exact .inl ⟨jA.2 ⟨i,g,j,c,a⟩,k⟩
  rintro(⟨h,k⟩|rfl|⟨_,h⟩)
  ·obtain⟨i,g,j,c,a⟩:=jA.1 h
   by_cases l:i=file
   ·subst l;rw[n]at c;cases c;have n:idx≠j:=fun e=>by
     subst e;rw[p]at a;cases a;exact k rfl
    exact jA.2 ⟨i,⟨f.size,f.bl.set idx (b:Int)⟩,j,by rw[sF d],by simp only;rw[sN n];exact a⟩
   exact jA.2 ⟨i,g,j,by rw[sN (fun e=>l e.symm)];exact c,a⟩
  ·exact jA.2 ⟨file,⟨f.size,f.bl.set idx (b:Int)⟩,idx,by rw[sF d],by simp only;rw[sF m]⟩
  exact h
 have:=jA.2 ⟨i,g,j,c,a⟩;rw[q]at this;cases this
end
section
open Go.RowKit
theorem zro (h:Rt m) {F:Fl} (f:m.fl[fi]? =Xa F) (hb:ix<F.bl.length) (a:Jy m.fl m.cnt (fi:Int) (ix:Int)=0):
  ∃b:Nat,(b:Int)<m.cnt/\ziP m.fl m.cnt (fi:Int) (ix:Int)=(b:Int)/\zlF m.fl m.cnt (fi:Int) (ix:Int)=m.cnt/\zho m.fl m.cnt (fi:Int) (ix:Int)=m.fl.set fi ⟨F.size,F.bl.set ix (b:Int)⟩/\(F.bl[ix]? =Xa (b:Int)\/(F.bl[ix]? =Xa (-1)/\b∈Qa m.fl m.cnt)):=by
 have c:=h.inv.st;have g:znJ m.fl (fi:Int)=F.bl:=by unfold znJ;rw[tN,f]
 have l:zq2 m.fl (fi:Int)=F.size:=by unfold zq2;rw[tN,f]
 obtain⟨z,h⟩:∃z,F.bl[ix]? =Xa z:=⟨_,gE hb⟩;have j:F.bl.getD ix 0=z:=by rw[gD,h];rfl
 obtain⟨d,k,_⟩:=(qC _ _).1 c;have i:∃b:Nat,(b:Int)<m.cnt/\zpF m.fl m.cnt (fi:Int) (ix:Int)=(b:Int)/\(z=(b:Int)\/(z=-1/\b∈Qa m.fl m.cnt)):=by
  unfold zpF;rw[g,tN,j]
  by_cases d:z=-1
  ·have p:Qa m.fl m.cnt≠[]:=fun e=>by
    unfold Jy at a;have n:=(gS.1 f).1;rw[kE c,kE (Qv.2 ⟨by omega,by omega⟩),g,kE (Qv.2 ⟨by omega,by omega⟩),tN,j,kE d,kE e]at a
    cases a
   cases c:Qa m.fl m.cnt with
   | nil=>exact absurd c p
   | cons b j=>
    have j:b∈Qa m.fl m.cnt:=by rw[c];exact Ya ..
    have c:=List.mem_range.1 (Yj.1 j).1;refine⟨b,by omega,by rw[kE d];rfl,.inr ⟨d,Ya ..⟩⟩
  rw[kF d];obtain⟨_,_,c⟩:=k F (mG f);have:=c z (mG h);exact⟨z.toNat,by omega,by omega,.inl (by omega)⟩
 obtain⟨b,f,d,c⟩:=i;refine⟨b,f,?_,?_,?_,?_⟩
 ·unfold ziP;rw[kE a,d]
 ·unfold zlF;rw[kE a]
 ·unfold zho;rw[kE a,g,l,d,tN,tN]
 rw[h]
 rcases c with e|⟨e,a⟩
 ·exact .inl (by rw[e])
 exact .inr ⟨by rw[e],a⟩
theorem zlL (c:List (List Int)) (a:List (Int × List Int)) (b:∀q∈a,∃i:Nat,q.1=(i:Int)/\i<c.length) (i:Nat):(jg c a)[i]? =c[i]?\/∃q∈a,q.1=(i:Int):=by
 unfold jg
 split
 ·rename_i c
  cases a with
  | nil=>cases c
  | cons q l=>
   simp only[List.headD_cons];obtain⟨j,a,_⟩:=b q (Ya ..)
   by_cases e:i=j
   ·exact .inr ⟨q,Ya ..,by rw[e];exact a⟩
   rw[a,tN,sN (fun h=>e h.symm)]
   exact .inl rfl
 exact .inl rfl
def zrU (x:Nat × Nat):List Xq:=[I6 (x.1:Int),I6 (x.2:Int)]
theorem zsp:(Tryz.prog.info? 142).map (fun i=>(i.zero,i.size,i.bytes))=Xa (Xa (Xi #[I6 0,I6 0]),2,16):=by kernel_rfl
theorem zsq:Tryz.prog.underlying 255=Xa (.slice 142):=by kernel_rfl
def zaw:Elt (Nat × Nat) where
 enc:=zrU
 k:=2
 ty:=142
 st:=255
 bytes:=16
 zv:= Xi #[I6 0,I6 0]
 zero:=(0,0)
 len:=fun _=>rfl
 one:=fun a u hu=>by
  simp only[zrU,mC,nM,or_false]at hu
  rcases hu with rfl|rfl <;> rfl
 und:=zsq
 info:=zsp
 zok:=rfl
 few:=by decide
 pos:=by decide
theorem zjx (s) (kind k:Int):(zn4 s kind k).length<=64:=by
 unfold zn4;exact nT (List.length_filter_le _ _) (by simp)
theorem zbn (m) (kind k:Int):∀q,(qK m kind k q).length<=64*q
 | 0=>by simp[zkR]
 | q+1=>by
  rw[zbV,lA,Yg];have a:=zbn m kind k q;have a:=zjx (m.sp.getD q ⟨Xd,[],[]⟩) kind k;omega
theorem zbv {w:Xn} {p:Nat} (a1:ChW w0 p w V m) (kind k:Int) (bb:m.sp.length<=4):
  Xp prog 233 #[Xj (Xa ⟨p,0,Xb⟩),I6 kind,I6 k] w fun e w'=>∃v,e= Xl v/\zc zaw w.heap.size w' v (qK m kind k m.sp.length)/\zb w w':=by
 obtain⟨b0,X,s,W⟩:=a1.at.spaces;obtain⟨-,-,-,-,-,-,-,-,bf⟩:=a1.at.ns;obtain⟨az,M⟩:=kA V.sp.a;obtain⟨u,c⟩:=kA m.sp.length;have Q:=a1.box.box.c 10 rfl;(try simp only[Sli.x]at Q);rw[bf,c.out,M.out]at Q;have aj:Xo (b0.length=u):=dD<|by rw[X];exact c.out
 have af:Xo (∀(j:Nat) x,b0[j]? =Xa x->∃am,az=Xa am/\∀b7,zb w b7->zly b7 (am.add (j*10)) x):=dD<|by rw[<-M.out];exact s
 have ag:=dD W
 have be:u<=4:=by rw[<-c.out];exact bb
 rw[c.out];clear a1 X s W bf bb
 go_enter func233,ntmps233
 go_wp2;clear Q
 go_loopg [7,18] u (fun aq Y ax wr=>∃(q:Nat) (z:Option Addr) (F A:Nat),q<=u/\u - q<=aq/\ax=I6 q/\Y= O z F A/\Xo (zb w wr)/\Xo (zc zaw w.heap.size wr (O z F A) (qK m kind k q)))
 case atStart=>exact⟨0,Xb,0,0,nZ _,by omega,rfl,rfl,zb.refl _,zc.nil _ _ _⟩
 obtain⟨q,z,F,A,cg,c0,rfl,rfl,a6,b6⟩:=hrel
 by_cases h:q<u
 ·have T:=kC h
  obtain⟨x,aw⟩:∃x,b0[q]? =Xa x:=⟨_,gE (by rw[aj.out];exact h)⟩
  obtain⟨t,b3⟩:∃t,Xo (m.sp[q]? =Xa t):=⟨_,gE (by rw[c.out];exact h)⟩
  have aa:=dD<|ag.out q x t aw b3.out;obtain⟨am,rfl,bd⟩:=af.out q x aw;obtain⟨bo,bp,bq,br,bs,bt,bu,bv,bw,bx⟩:=bd wr a6.out;have L:Xo (qK m kind k (q+1)=qK m kind k q++(zn4 t kind k).map fun n=>(q,n)):=show _=_ by rw[zbV,Sp.getD_of b3.out]
  have ae:=dD<|zbn m kind k q;have y:=dD<|zjx t kind k;clear bd aw;go_upto_region 5 with fail;obtain⟨N,g⟩:=kB (wr.alloc (Xk #[Xh x.live,x.ar.x,x.t0.x,x.t1.x,x.t2.x,x.t3.x,x.t4.x,x.t5.x,x.t6.x,x.t7.x] 76));have ao:=gP g
  have i:=xA g
  have b1:=dD (a6.trans ao);have bk:=dD (b6.grew ao);rw[g];clear g ao bo bp bq br bs bt bu bv bw bx;have bc:Xp prog 242 #[Xi #[x.t0.x,x.t1.x,x.t2.x,x.t3.x,x.t4.x,x.t5.x,x.t6.x,x.t7.x],I6 kind,I6 k] N fun e w'=>∃v,e= Xl v/\zc blE N.heap.size w' v ((zn4 t kind k).map fun(n:Nat)=>(n:Int))/\zb N w':=zk1 x.tab t.tb kind k N (aa.tb.grew b1)
  have c1:=i.c 2 rfl;have c2:=i.c 3 rfl;have c3:=i.c 4 rfl;have c4:=i.c 5 rfl;have c5:=i.c 6 rfl;have Y:=i.c 7 rfl;have c6:=i.c 8 rfl;have ca:=i.c 9 rfl;go_wp2_with fail;refine bc.mono ?_;clear bc c1 c2 c3 c4 c5 Y c6 ca;rintro e cc ⟨v,rfl,f,ap⟩;obtain⟨a,ac⟩:=kA (zn4 t kind k);rw[ac.out]at f L y;obtain⟨cb,bg,rfl⟩:=f.form;rw[Yg]at f;have a3:=dD f
  have b2:=dD (b1.trans ap);have bl:=dD (bk.grew ap);rw[Yg];obtain⟨l,b⟩:=kA a.length;rw[b.out]at a3 y⊢;have ar:l<=64:=y.out;clear f ap;obtain⟨b9,ab⟩:=kA N.heap.size;have bj:=dD<|bS b2.out
  rw[ab.out]at a3;go_wp2
  go_loopg [7,29] l (fun aq Y ay wr=>∃(j:Nat) (z:Option Addr) (F A:Nat),j<=l/\l - j<=aq/\ay=I6 j/\Y= O z F A/\Xo (zb w wr)/\Xo (zc zaw w.heap.size wr (O z F A) (qK m kind k q++(a.take j).map fun n=>(q,n)))/\Xo (zc blE b9 wr (O cb l bg) (a.map fun(n:Nat)=>(n:Int))))
  case atStart=>exact⟨0,z,F,A,nZ _,by omega,rfl,rfl,b2,show zc _ _ _ _ _ by simpa using(show zc _ _ _ _ _ from bl.out),a3.out⟩
  obtain⟨j,Z,a2,I,cf,bz,rfl,rfl,a5,al,a4⟩:=hrel
  by_cases C:j<l
  ·have S:=kC C
   obtain⟨n,av⟩:∃n,a[j]? =Xa n:=⟨_,gE (by rw[b.out];exact C)⟩
   have U:(a.map fun(n:Nat)=>(n:Int))[j]? =Xa (n:Int):=by rw[List.getElem?_map,av];rfl
   obtain⟨_,_,D,d⟩:=a4.at.rows;simp only[vJ]at D;obtain⟨P,r,R⟩:=d j _ U;rw[<-D.1]at r;subst r;have ba:wr.cell? (P.add (j*1))=Xa (I6 (n:Int)):=by
    have:=R wr (zb.refl _) 0 _ rfl;rw[Addr.add_add]at this;exact this
   rw[Yw]at ba;have ai:Xo ((a.take (j+1)).map (fun n=>(q,n))=(a.take j).map (fun n=>(q,n))++ [(q,n)]):=dD<|by rw[Yv,av];simp
   have H:Xo (((qK m kind k q++(a.take j).map fun n=>(q,n)).length+ [(q,n)].length)*16<=140737488355328):=dD<|by
    rw[lA,Yg,Yd];have:=ae.out;simp only[List.length_cons,List.length_nil];omega
   clear av U D d R;obtain⟨b4,K⟩:=kA (qK m kind k q++(a.take j).map fun n=>(q,n))
   rw[K.out]at al H;have ak:Xo (zc zaw w.heap.size (wr.alloc (Xk #[I6 (q:Int),I6 (n:Int)] 142)) (O Z a2 I) b4):=al.grew (za wr (Xk #[I6 (q:Int),I6 (n:Int)] 142));have ah:Xo (w.heap.size<=(wr.alloc (Xk #[I6 (q:Int),I6 (n:Int)] 142)).heap.size):=show _<=_ from nT (bS a5) (bS (za _ _))
   go_wp2_with (at_builtin;refine zx (E:=zaw) rfl (.tmp 33) (.tmp 37) rfl w.heap.size (O Z a2 I) b4 rfl ak _ [(q,n)] rfl (Zg zaw wr (q,n) _ _ rfl (by decide)) H ah.out ?_)
   intro ch b8 G B;obtain⟨cd,ce,rfl⟩:=G.form;have bm:Xo (zc zaw w.heap.size b8 _ (qK m kind k q++(a.take (j+1)).map fun n=>(q,n))):=dD<|by rw[ai.out,<-Yq,K.out];exact G
   have a0:zb wr (wr.alloc (Xk #[I6 (q:Int),I6 (n:Int)] 142)):=za _ _;have bh:Xo (zc blE b9 b8 (O (Xa P) l bg) (a.map fun(n:Nat)=>(n:Int))):=dD<|(a4.grew a0).grown B (fun an au e=>(a4.grew a0).apart ak (by decide) an au e)
   have bi:=dD<|zX (a5.trans a0) B (fun an au=>(ak.lt an au).1)
   clear G B a0 ba;try simp only[Xu]
   go_wp2
   go_roundg (l -(j+1))
   case measure=>omega
   exact⟨j+1,_,_,_,by omega,by omega,by go_num,rfl,bi,bm,bh⟩
  have S:=kD C
  have bn:Xo (zc zaw w.heap.size wr (O Z a2 I) (qK m kind k (q+1))):=dD<|by
   rw[L.out];have:=al.out;rw[Xx (by rw[b.out];omega)]at this
   exact this
  go_wp2
  go_roundg (u -(q+1))
  case measure=>omega
  exact⟨q+1,Z,a2,I,by omega,by omega,by go_num,rfl,a5,bn⟩
 have T:=kD h
 obtain rfl:q=u:=by omega
 go_wp2;go_ret;exact⟨_,rfl,b6,a6⟩
theorem Zn {w:Xn} {p:Nat} (a5:ChW w0 p w V m) (q:Nat) (a9:q<m.sp.length) (n:Int) (z:En):
  Xp prog 137 #[Xj (Xa ⟨p,0,Xb⟩),Xi #[I6 (q:Int),I6 n],Xi #[I6 z.kind,I6 z.n,Xh z.wr]] w fun e w'=>(∃v,e= Xl v)/\Chg w0 p w V (qV m q n z) w':=by
 obtain⟨s,S⟩:∃s,m.sp[q]? =Xa s:=⟨_,gE a9⟩;obtain⟨ar,N,ah,ai⟩:=a5.sp;obtain⟨x,D⟩:∃x,ar[q]? =Xa x:=⟨_,gE (by rw[ah];exact a9)⟩
 have T:=dD<|ai q x s D S w (zm.refl _ _);obtain⟨b8,G⟩:=kA ar.length;obtain⟨k,be,l⟩:=N.formS (by omega)
 rw[G.out]at l;have bi:(q:Int)< (b8:Int):=by have:=G.out;omega
 have A:=dD l;have aw:=dD a5;have ax:=dD D;have ba:=dD S;have Z:=dD ah;have a0:=dD ai;rw[l]at N;have F:=dD N;have X:Xo (∀W,zb w W->zly W ⟨k,q*10,Xb⟩ x):=show∀W,_ from fun W a7=>by
  have:=((N.grew a7).one D).sp10;rw[Xs,zA]at this;exact this
 have b9:=dD<|fun W (a7:zb w W)=>zme x.tab s.tb n z W (T.tb.grew a7)
 have Y:Xo (qV m q n z={ m with sp:=m.sp.set q { s with tb:=zh0 s.tb n z } }):=dD<|by unfold qV;rw[Sp.getD_of S]
 rw[Y.out];clear a5 a9 S N ah ai D l;obtain⟨az,d⟩:=kB ((w.alloc (Xk #[I6 (q:Int),I6 n] 142)).alloc (Xk #[I6 z.kind,I6 z.n,Xh z.wr] 127));have au:=gD2 d
 have a2:=x2a d
 have b0:=x2b d
 have a1:=dD d;clear d;have a3:az.cell? ⟨p,10,Xb⟩=Xa (O (Xa ⟨k,0,Xb⟩) b8 be):=by rw[<-A.out];exact(aw.box.box.grew au).c 10 rfl
 have b7:=a2.c 0 rfl
 go_enter func137,ntmps137
 go_upto_region 1 with fail;rw[a1.out];obtain⟨g,U⟩:=kA w.heap.size;rw[U.out]at a2 b0 b7⊢
 go_upto_region 2 with(go_quiet (fail))
 clear a3 b7;obtain⟨j,f⟩:=kB (az.drewN nq);have Q:Xo (zb w j):=dD<|by rw[<-f];exact au.trans (show Below _ _ _ from bD (bR _ _) _)
 have bc:Xo (Box j g [I6 (q:Int),I6 n]):=dD<|by rw[<-f];exact a2.grew (show Below _ _ _ from bD (bR _ _) _)
 have bd:Xo (Box j (g+1) [I6 z.kind,I6 z.n,Xh z.wr]):=dD<|by rw[<-f];exact b0.grew (show Below _ _ _ from bD (bR _ _) _)
 rw[f];clear f;obtain⟨i,h⟩:∃i:Xn->Prop,Xo (∀u,i u↔Box u g [I6 (q:Int),I6 n]/\Box u (g+1) [I6 z.kind,I6 z.n,Xh z.wr]):=⟨fun u=>Box u g [I6 (q:Int),I6 n]/\Box u (g+1) [I6 z.kind,I6 z.n,Xh z.wr],fun _=>Iff.rfl⟩
 have C:i j.drew:=(h _).2 ⟨bc.grew (gW _),bd.grew (gW _)⟩
 have H:zb j j.drew:=show Below _ _ _ from(bR _ _).drew
 have ab:∀y:zk i,y.world.cell? ⟨g,1,Xb⟩=Xa (I6 n):=fun y=>((h _).1 y.holds).1.c 1 rfl
 have ac:∀y:zk i,y.world.cell? ⟨g+1,0,Xb⟩=Xa (I6 z.kind):=fun y=>((h _).1 y.holds).2.c 0 rfl
 have ad:∀y:zk i,y.world.cell? ⟨g+1,1,Xb⟩=Xa (I6 z.n):=fun y=>((h _).1 y.holds).2.c 1 rfl
 have ae:∀y:zk i,y.world.cell? ⟨g+1,2,Xb⟩=Xa (Xh z.wr):=fun y=>((h _).1 y.holds).2.c 2 rfl
 have a8:Nonempty (zk i):=⟨⟨_,C⟩⟩;refine z7 (I:=i) 15 [(4,fun v=>v= Xi #[x.t0.x,x.t1.x,x.t2.x,x.t3.x,x.t4.x,x.t5.x,x.t6.x,x.t7.x]),(8,fun v=>∃r:List Xq,v= Xm #[Xi r.toArray,I6 (zhm s.tb n z)]),(14,fun _=>True)] (fun u=>zb j u) C H zZ (by kernel_rfl) rfl rfl (by decide) ?hS (by kernel_rfl) ?_
 case hS=>
  intro x D;simp only[mC,nM,or_false]at D
  rcases D with rfl|rfl|rfl
  ·exact⟨_,rfl⟩
  ·exact⟨_,[],rfl⟩
  exact⟨undef,trivial⟩
 simp only[Yh,Yi];iterate 2 refine zt ?_
 refine qa (.tmp 17) ⟨k,q*10,Xb⟩ rfl rfl rfl rfl ?_;simp only[Xu,sB,sS,sZ];refine zt ?_
 refine zK rfl rfl (fun _ u=>zb j u) (fun w' c b=>?_) (fun b6 L=>?_)
 ·refine zbu 74 (.tmp 19) rfl k (q*10+2) rfl [x.t0.x,x.t1.x,x.t2.x,x.t3.x,x.t4.x,x.t5.x,x.t6.x,x.t7.x] ?_ underlying74 rfl (by kernel_rfl) ⟨c,rfl,b⟩
  have t:=X.out _ (Q.trans b);intro b4 v a;have bj:(w'.cell? ⟨k,q*10+2+b4,Xb⟩)=Xa v:=by
   match b4,a with
   | 0,a=>cases a;exact t.2.2.1
   | 1,a=>cases a;exact t.2.2.2.1
   | 2,a=>cases a;exact t.2.2.2.2.1
   | 3,a=>cases a;exact t.2.2.2.2.2.1
   | 4,a=>cases a;exact t.2.2.2.2.2.2.1
   | 5,a=>cases a;exact t.2.2.2.2.2.2.2.1
   | 6,a=>cases a;exact t.2.2.2.2.2.2.2.2.1
   | 7,a=>cases a;exact t.2.2.2.2.2.2.2.2.2
  exact bj
 cases L;simp only[Xu,sB,sS,sZ];iterate 3 refine zt ?_
 refine zK rfl rfl (fun v u=>∃(r:List Xq) (R:Xn),v= Xm #[Xi r.toArray,I6 (zhm s.tb n z)]/\zb j R/\zb R u/\zaB 0 R.heap.size u r (zh0 s.tb n z)) (fun w' c b=>?_) (fun b6 L=>?_)
 ·refine zR.call [Xi #[x.t0.x,x.t1.x,x.t2.x,x.t3.x,x.t4.x,x.t5.x,x.t6.x,x.t7.x],I6 n,Xi #[I6 z.kind,I6 z.n,Xh z.wr]] rfl func175 rfl rfl rfl ?_;refine(b9 w' (Q.trans b)).mono ?_;rintro e bk ⟨r,rfl,P,a4⟩;obtain⟨af,ag⟩:=(h _).1 c;exact⟨_,rfl,(h _).2 ⟨af.grew a4,ag.grew a4⟩,⟨r,rfl⟩,r,w',rfl,b,a4,P⟩
 obtain⟨r,rfl⟩:=L;simp only[Xu,sB,sS,sZ];iterate 3 refine zt ?_
 refine qa (.tmp 16) ⟨k,q*10,Xb⟩ rfl rfl rfl rfl ?_;simp only[Xu,sB,sS,sZ];refine zt ?_
 refine zK rfl rfl (fun _ u=>Chg w0 p w V { m with sp:=m.sp.set q { s with tb:=zh0 s.tb n z } } u) (fun w' c b=>?_) (fun b6 L=>?_)
 ·obtain⟨aq,R,bg,b1,bf,b5⟩:=b;have aa:aq=r:=by simpa using bg.symm
  subst aa;obtain⟨aj,ak,P,al,am,an,ao,ap,rfl⟩:=b5.form;have av:=(Q.trans b1).trans bf;refine zcx (E:=ZA) (.tmp 28) (.tmp 25) 74 rfl w0.heap.size _ ar (F.grew av) k q 2 rfl x ⟨x.live,x.ar,aj,ak,P,al,am,an,ao,ap⟩ ax.out [aj.v,ak.v,P.v,al.v,am.v,an.v,ao.v,ap.v] (by kernel_rfl) rfl (by show 2+8<=10;omega) ?_ ⟨k,q*10+2,Xb⟩ rfl rfl (Xi #[aj.v,ak.v,P.v,al.v,am.v,an.v,ao.v,ap.v]) rfl rfl ?_
  ·intro u b3;simp only[mC,nM,or_false]at b3
   rcases b3 with rfl|rfl|rfl|rfl|rfl|rfl|rfl|rfl <;> rfl
  intro bb M B _;rw[<-A.out]at M;obtain⟨af,ag⟩:=(h _).1 c;have bh:=F.lt k rfl;refine⟨(h _).2 ⟨af.grown B (by have:=U.out;omega),ag.grown B (by have:=U.out;omega)⟩,trivial,aw.setT Z a0 ax ba (by have b2:=A.out;unfold oB;(first|rw[b2]|(simp only[Sli.x]at b2;rw[b2]));rfl) av (b5.less (nR _) (nT (bS Q) (bS b1))) B M ⟨rfl,rfl,rfl⟩⟩
 clear L;try simp only[Xu]
 refine jp fun bb a6 K=>?_
 have ay:=dD K;clear a6 K C H ab ac ad ae a8;go_wp2
 (first | go_end0 | ((try simp only[Exit.inBlock,Exit.then]);refine bodyPost_ret (results_none rfl _ _ _) rfl ?_))
 first | exact ay.out | exact⟨⟨_,rfl⟩,ay⟩
theorem zle {w:Xn} {p:Nat} (h:ChW w0 p w V m) (q:Nat) (b:q<m.sp.length) (n:Int) (a:(Zr m q n).kind=1->jQ m.fs m.hand (Zr m q n).n (-1)=0):
  Xp prog 78 #[Xj (Xa ⟨p,0,Xb⟩),Xi #[I6 (q:Int),I6 n]] w fun e w'=>(∃v,e= Xl v)/\Chg w0 p w V (zla m q n) w':=by
 obtain⟨E,c⟩:=kA (Zr m q n);have f:Xo (zla m q n=qV (ZQ m E (-1)) q n ⟨0,0,Xd⟩):=dD<|by rw[<-c.out];rfl
 have l:=dD h;have r:=dD b;have g:=dD h.dlt;have s:Xo (E.kind=1->jQ m.fs m.hand E.n (-1)=0):=show _->_ by rw[<-c.out];exact a
 clear h b a;obtain⟨a,a⟩:=kB (w.alloc (Xk #[I6 (q:Int),I6 n] 142));have k:=gA a
 obtain⟨i,b⟩:=kA w.heap.size;have h:=xPT a b
 have d:Xo (¬Dw p V i):=dD<|fun e=>by have:=g.out _ e;have:=b.out;omega
 have g:=dD a;clear a;have a:=Zm (l.grew k) q r n;rw[c.out]at a
 go_enter func78,ntmps78
 go_upto_region 1 with fail;rw[g.out,b.out];have i:=h.box.c 0 rfl;have j:=h.box.c 1 rfl;go_wp2_with fail;refine a.mono ?_;clear a i j;rintro e b ⟨rfl,b⟩;have c:=dD (k.trans b);have t:=dD (h.grew b);clear b;unfold enV;have b:=zb1 (l.grew c) E (-1) s.out;go_wp2_with fail;refine b.mono ?_;clear b;rintro e b ⟨⟨b,rfl⟩,b,k,g,h⟩;have l:=dD k;have b:=dD<|Chg.far c h
 have s:=dD<|(zm.grew c).trans g
 have c:=dD<|t.outD g d.out;clear k h g;have i:=c.box.c 0 rfl;have j:=c.box.c 1 rfl;have a:=Zn l q (by rw[zbl];exact r) n ⟨0,0,Xd⟩
 go_wp2_with fail;refine a.mono ?_;clear a i j;rintro e d ⟨⟨a,rfl⟩,c⟩;have a:Xo (Chg w0 p w V (zla m q n) d):=dD<|by rw[f.out];exact Chg.step s b c
 clear c;go_wp2
 (first | go_end0 | ((try simp only[Exit.inBlock,Exit.then]);refine bodyPost_ret (results_none rfl _ _ _) rfl ?_))
 first | exact a.out | exact⟨⟨_,rfl⟩,a⟩
def zdl (m:Ma) (q:Nat) (n:Int) (k:Int):Ma:=qV (ZQ m ⟨1,k,Xd⟩ 1) q n ⟨1,k,Xd⟩
theorem zb0 {w:Xn} {p:Nat} (h:ChW w0 p w V m) (q:Nat) (b:q<m.sp.length) (n:Int) (k:Int) (a:jQ m.fs m.hand k 1=0):
  Xp prog 193 #[Xj (Xa ⟨p,0,Xb⟩),Xi #[I6 (q:Int),I6 n],I6 k] w fun e w'=>(∃v,e= Xl v)/\Chg w0 p w V (zdl m q n k) w':=by
 have l:=dD h;have r:=dD b;have j:=dD a;have g:=dD h.dlt;clear h b a;obtain⟨c,a⟩:=kB ((w.alloc (Xk #[I6 (q:Int),I6 n] 142)).alloc (Xk #[I6 1,I6 k,Xh Xd] 127));have f:=gD2 a
 obtain⟨d,b⟩:=kA w.heap.size;have u:Xo (zn c d 142 [I6 (q:Int),I6 n]):=dD<|by rw[<-a];exact(zn.top w [I6 (q:Int),I6 n] _ b.symm).grew (za _ _)
 have i:Xo (zn c (d+1) 127 [I6 1,I6 k,Xh Xd]):=dD<|by rw[<-a];exact zn.top _ [I6 1,I6 k,Xh Xd] _ (by have:=b.out;simp;omega)
 have c:Xo (¬Dw p V d/\¬Dw p V (d+1)):=dD<|⟨fun e=>by have:=g.out _ e;have:=b.out;omega,fun e=>by have:=g.out _ e;have:=b.out;omega⟩
 have d:=dD a;clear a;have a:=zb1 (l.grew f) ⟨1,k,Xd⟩ 1 (fun _=>j.out)
 go_enter func193,ntmps193
 go_upto_region 2 with fail;rw[d.out,b.out];obtain⟨d,g,h⟩:=i.box.c3;go_wp2_with fail;refine a.mono ?_;clear a d g h;rintro e a ⟨⟨a,rfl⟩,a,l,a,j⟩;have s:=dD l;have b:=dD<|Chg.far f j
 have t:=dD<|(zm.grew f).trans a
 have f:=dD<|u.outD a c.1;have u:=dD<|i.outD a c.2;clear l j a;have c:=f.box.c 0 rfl;have i:=f.box.c 1 rfl;obtain⟨d,g,h⟩:=u.box.c3;have a:=Zn s q (by rw[zbl];exact r) n ⟨1,k,Xd⟩
 go_wp2_with fail;refine a.mono ?_;clear a c i d g h;rintro e a ⟨⟨a,rfl⟩,c⟩;have a:=dD<|Chg.step t b c
 clear c;go_wp2
 (first | go_end0 | ((try simp only[Exit.inBlock,Exit.then]);refine bodyPost_ret (results_none rfl _ _ _) rfl ?_))
 first | exact a.out | exact⟨⟨_,rfl⟩,a⟩
theorem ziH {w:Xn} {p:Nat} (h:ChW w0 p w V m) (q:Nat) (a:q<m.sp.length) (n:Int):
  Xp prog 207 #[Xj (Xa ⟨p,0,Xb⟩),Xi #[I6 (q:Int),I6 n]] w fun e w'=>(∃v,e= Xl v)/\Chg w0 p w V (qV m q n { Zr m q n with wr:=true }) w':=by
 obtain⟨E,d⟩:=kA (Zr m q n);rw[d.out];have r:=dD h;have s:=dD a;clear h a;obtain⟨a,a⟩:=kB (w.alloc (Xk #[I6 (q:Int),I6 n] 142));have h:=gA a
 obtain⟨t,c⟩:=kA w.heap.size;have g:=xPT a c
 have b:=dD a;clear a;have a:=Zm (r.grew h) q s n;rw[d.out]at a
 go_enter func207,ntmps207
 go_upto_region 1 with fail;rw[b.out,c.out];have k:=g.box.c 0 rfl;have l:=g.box.c 1 rfl;go_wp2_with fail;refine a.mono ?_;clear a k l;rintro e c ⟨rfl,d⟩;unfold enV;go_upto_region 2 with fail;obtain⟨i,f⟩:=kA c.heap.size;obtain⟨b,b⟩:=kB (c.alloc (Xk #[I6 E.kind,I6 E.n,Xh E.wr] 127));have j:=gP b
 have y:=xPT b f
 have x:=dD (g.grew (d.trans j));have u:=dD ((h.trans d).trans j);have c:Xo (t<i/\w.heap.size<=i):=show _/\_ from⟨by have:=(g.grew d).box.lt;have:=f.out;omega,by have:=f.out;have:=bS (h.trans d);omega⟩
 rw[b,f.out];clear b j d
 go_upto_region 3 with(refine jt rfl 4 (.tmp 8) (.const (Xh Xc)) rfl i 2 rfl (Xh Xc) rfl [Xh Xc] rfl y (by simp) (by kernel_rfl) (by simp[Value.oneCell']) ?_)
 intro f d b _;have h:=dD d;have g:Xo (zn f t 142 [I6 (q:Int),I6 n]):=x.beside b (fun f e=>by cases e;have:=c.out;omega)
 have f:=dD<|zd u b c.2
 clear d b;try simp only[Xu]
 have a:=Zn (r.grew f) q s n ⟨E.kind,E.n,Xc⟩;have k:=g.box.c 0 rfl;have l:=g.box.c 1 rfl;obtain⟨b,c,d⟩:=h.box.c3;go_wp2_with fail;refine a.mono ?_;clear a k l b c d;rintro e a ⟨⟨a,rfl⟩,b⟩;have a:=dD<|Chg.of_grew f b
 clear b;go_wp2
 (first | go_end0 | ((try simp only[Exit.inBlock,Exit.then]);refine bodyPost_ret (results_none rfl _ _ _) rfl ?_))
 first | exact a.out | exact⟨⟨_,rfl⟩,a⟩
theorem ChW.off {w:Xn} {p:Nat} (h:ChW w0 p w V m) {cs:Array Xq} (c:w.heap[g]? =Xa (Xk cs t (0,0))) (t1:88≠t) (t2:Qy.ty≠t) (t3:Jw.ty≠t) (f:ZA.ty≠t):¬Dw p V g:=by
 have a:∀{d:Type} {E:Elt d} {b:Nat} {v:Xq} {l:List d},zc E b w v l->E.ty≠t->v.ownBlock≠Xa g:=fun r d e=>by
  obtain⟨b,b⟩:=r.obj e;rw[b]at c;cases c;exact d rfl
 rintro(e|e|e|e)
 ·subst e;have b:w.heap[g]? =_:=h.box;rw[b]at c;cases c;exact t1 rfl
 ·exact a h.fs t2 e
 ·exact a h.ca t3 e
 obtain⟨b,b,_⟩:=h.sp;exact a b f e
theorem ChW.offB {w:Xn} {p:Nat} {cs:List Xq} (h:ChW w0 p w V m) (a:zn w b t cs) (t1:88≠t) (t2:Qy.ty≠t) (t3:Jw.ty≠t) (c:ZA.ty≠t):¬Dw p V b:=h.off (show w.heap[b]? =_ from a) t1 t2 t3 c
theorem ChW.offR {w:Xn} {p:Nat} {α:Type} {E:Elt α} {base:Nat} {v:Xq} {l:List α} (h:ChW w0 p w V m) (r:zc E base w v l) (t1:88≠E.ty) (t2:Qy.ty≠E.ty) (t3:Jw.ty≠E.ty) (c:ZA.ty≠E.ty):∀g,v.ownBlock=Xa g->¬Dw p V g:=fun g b=>by
 obtain⟨a,a⟩:=r.obj b;exact h.off a t1 t2 t3 c
theorem zc.chg {w:Xn} {p:Nat} {α:Type} {E:Elt α} {base:Nat} {v:Xq} {l:List α} (r:zc E base w v l) (o:zm (Dw p V) w w1) (a:∀g,v.ownBlock=Xa g->¬Dw p V g):zc E base w1 v l:=⟨jh r.1 o a,r.2⟩
def QO (m:Ma) (e:En) (l:List (Nat × Nat)):Ma:=l.foldl (fun m x=>qV m x.1 (x.2:Int) e) m
theorem ziE (m e) (l:List (Nat × Nat)) (x:Nat × Nat):QO m e (l++ [x])=qV (QO m e l) x.1 (x.2:Int) e:=by simp[QO]
theorem zaQ (e):∀(l:List (Nat × Nat)) (m:Ma),(QO m e l).sp.length=m.sp.length/\(QO m e l).fs=m.fs/\(QO m e l).hand=m.hand
 | [],_=>⟨rfl,rfl,rfl⟩
 | x :: l,m=>by
  have h:=zaQ e l (qV m x.1 (x.2:Int) e);exact⟨h.1.trans (zaj _ _ _ _),h.2⟩
def zaz (m:Ma) (k:Nat) (r:Int) (e:En):Ma:={ QO m e (qK m 1 (k:Int) m.sp.length)with fs:=QI m.fs m.hand (k:Int) (-r),hand:=m.hand }
theorem zdH {w:Xn} {p:Nat} (h:ChW w0 p w V m) (k:Nat) (fr:Fr) (f:m.fs[k]? =Xa fr) (z:En) (a:m.sp.length<=4) (d:0<=fr.r/\fr.r<=1000) (b:jQ m.fs m.hand (k:Int) (-fr.r)=0):
  Xp prog 214 #[Xj (Xa ⟨p,0,Xb⟩),I6 (k:Int),Xi #[I6 z.kind,I6 z.n,Xh z.wr]] w fun e w'=>(∃v,e= Xl v)/\Chg w0 p w V (zaz m k fr.r z) w':=by
 have l:=dD h;have H:=dD f;have X:=dD b;have u:=dD d;have c:=dD a;clear h f a b d;obtain⟨j,a⟩:=kB (w.alloc (Xk #[I6 z.kind,I6 z.n,Xh z.wr] 127));have g:=gA a
 obtain⟨C,h⟩:=kA w.heap.size;have s:=xPT a h
 have d:=dD a;clear a;have a:=zbv (l.grew g) 1 (k:Int) c.out;obtain⟨L,F⟩:=kA (qK m 1 (k:Int) m.sp.length);rw[F.out]at a;have b:Xo (L.length<=256):=show _<=_ by
  rw[<-F.out];have G:=zbn m 1 (k:Int) m.sp.length;have q:=c.out;omega
 have q:Xo (∀D∈L,D.1<m.sp.length):=dD<|fun D c=>by
  rw[<-F.out]at c;exact((QJ (by decide) (nR _)).1 c).1
 go_enter func214,ntmps214
 go_upto_region 1 with fail;rw[d.out,h.out];go_wp2_with fail;refine a.mono ?_;clear a;rintro e a ⟨v,rfl,a,A⟩;obtain⟨t,U,rfl⟩:=a.form;obtain⟨h,d⟩:=kA L.length;rw[d.out]at a b⊢;have r:h<=256:=b.out;obtain⟨N,b⟩:=kA j.heap.size;rw[b.out]at a;have r:=dD a;have b:=dD (g.trans A);have g:=dD (s.grew A);clear a A;go_wp2
 go_loopg [12] h (fun s a wr=>∃(j:Nat) (B:MaV),j<=h/\h - j<=s/\a=I6 j/\Xo (ChW w0 p wr B (QO m z (L.take j)))/\Xo (zm (Dw p V) w wr)/\Xo (∀k,Dw p B k->Dw p V k\/w.heap.size<=k)/\Xo (zc zaw N wr (O t h U) L)/\Xo (zn wr C 127 [I6 z.kind,I6 z.n,Xh z.wr]))
 case atStart=>exact⟨0,V,nZ _,by omega,rfl,l.grew b,zm.grew b,fun k f=> .inl f,r,g⟩
 obtain⟨j,B,y,a,rfl,f,Q,P,t,T⟩:=hrel
 by_cases l:j<h
 ·have s:=kC l
  obtain⟨⟨E,n⟩,c⟩:∃D,L[j]? =Xa D:=⟨_,gE (by rw[d.out];exact l)⟩
  obtain⟨g,Y,b⟩:=t.formS (by rw[d.out];omega)
  simp only[vJ]at b;obtain⟨rfl,-,-⟩:=b;have a:=t.one c;have r:wr.cell? ⟨g,j*2,Xb⟩=Xa (I6 (E:Int)):=by
   have:=a 0 _ rfl;rw[Xs,Xs,zA,Nat.add_zero]at this;exact this
  have M:wr.cell? ⟨g,j*2+1,Xb⟩=Xa (I6 (n:Int)):=by
   have:=a 1 _ rfl;rw[Xs,Xs,zA]at this;exact this
  have S:=dD<|q.out _ (mG c);have K:Xo (L.take (j+1)=L.take j++ [(E,n)]):=show _=_ by rw[Yv,c];rfl
  clear a c;go_upto_region 4 with fail;clear r M;obtain⟨a,r⟩:=kA wr.heap.size;obtain⟨a,a⟩:=kB (wr.alloc (Xk #[I6 (E:Int),I6 (n:Int)] 142));have q:=gA a
  have R:=xPT a r
  have M:=dD (T.grew q);rw[a,r.out];clear a;have r:=dD (f.grew q);have a:=Zn r E (by rw[(zaQ z _ m).1];exact S) (n:Int) z
  have E:=R.box.c 0 rfl;have S:=R.box.c 1 rfl;obtain⟨R,T,W⟩:=M.box.c3;go_wp2_with fail;refine a.mono ?_;clear a E S R T W;rintro e E ⟨⟨a,rfl⟩,R,T,a,S⟩;have W:Xo (ChW w0 p E R (QO m z (L.take (j+1)))):=dD<|by rw[K.out,ziE];exact T
  have K:=Chg.step (w0:=w0) (m':=QO m z (L.take (j+1))) Q P (Chg.of_grew q ⟨R,W,a,S⟩);have R:Xo (zc zaw N E (O (Xa ⟨g,0,Xb⟩) h U) L):=(t.grew q).chg a (r.offR (t.grew q) (by decide) (by decide) (by decide) (by decide))
  have W:Xo (zn E C 127 [I6 z.kind,I6 z.n,Xh z.wr]):=M.outD a (r.offB M (by decide) (by decide) (by decide) (by decide))
  obtain⟨U,r,t,q⟩:=K;have K:=dD r;have M:=dD t;have E:=dD q
  clear T a S r t q;go_wp2
  go_roundg (h -(j+1))
  case measure=>omega
  exact⟨j+1,U,by omega,by omega,by go_num,K,M,E,R,W⟩
 have s:=kD l
 have a:Xo (L.take j=L):=dD<|Xx (by rw[d.out];omega)
 rw[a.out]at f;obtain⟨K,l⟩:=kA (QO m z L);rw[l.out]at f;have a:Xo (K.fs=m.fs/\K.hand=m.hand):=dD<|by rw[<-l.out];exact(zaQ z L m).2
 obtain⟨g,Y,b⟩:=f.fs.formS (by rw[a.1];have:=(gS.1 H).1;omega)
 obtain⟨⟨d,t,q⟩,d,d,d,d,d,d,d,d⟩:=B;simp only[vJ]at b;obtain⟨rfl,d,-⟩:=b;have b:(k:Int)< (t:Int):=by
  have G:=(gS.1 H).1;rw[d,a.1];omega
 have b:Xo (∀W,zb wr W->W.cell? ⟨g,k*13+8,Xb⟩=Xa (I6 fr.r)):=dD<|fun W h=>by
  have:=(f.fs.grew h).one (i:=k) (x:=fr) (by rw[a.1];exact H) 8 _ rfl
  rw[Xs,Xs,zA]at this;exact this
 have M:Xo (∀W,zb wr W->Xp prog 173 #[Xi #[O (Xa ⟨g,0,Xb⟩) t q,I6 m.hand],I6 (k:Int),I6 (-fr.r)] W fun e w'=>∃s:Sli,e= Xl (Xm #[Xi #[s.x,I6 m.hand],I6 0])/\zc Qy W.heap.size w' (s.x) (QI m.fs m.hand (k:Int) (-fr.r))/\zb W w'):=dD<|fun W h=>by
  have r:=(f.at.grew h).fs;rw[a.1]at r d;rw[d]at r⊢;refine(zft (Xa ⟨g,0,Xb⟩) q m.fs m.hand (k:Int) (-fr.r) W r X).mono ?_;rintro e w' ⟨C,rfl,r,g⟩;have h:zc Qy W.heap.size w' C (QI m.fs m.hand (k:Int) (-fr.r)):=r;obtain⟨B,C,rfl⟩:=h.form;exact⟨⟨B,_,C⟩,rfl,r,g⟩
 have h:=dD f.box;have H:=dD a.2;clear d;obtain⟨r,B⟩:=kA fr.r;rw[B.out]at b M u;obtain⟨a,a⟩:=u.out;go_upto_region 6 with fail;obtain⟨a,E⟩:∃a:Xn->Prop,Xo (∀u,a u↔u.cell? ⟨g,k*13+8,Xb⟩=Xa (I6 r)):=⟨fun u=>u.cell? ⟨g,k*13+8,Xb⟩=Xa (I6 r),fun _=>Iff.rfl⟩
 have L:zb wr wr.drew:=show Below _ _ _ from(bR _ _).drew
 have d:=(E _).2 (b _ L);have C:zb wr wr.drew:=L;have R:∀L:zk a,L.world.cell? ⟨g,k*13+8,Xb⟩=Xa (I6 r):=fun L=>(E _).1 L.holds
 have L:Nonempty (zk a):=⟨⟨_,d⟩⟩;refine JB (I:=a) 26 [(18,fun v=>∃s:Sli,v= Xm #[Xi #[s.x,I6 m.hand],I6 0]),(25,fun _=>True)] [5,12] (fun u=>zb wr u) d C zZ (by kernel_rfl) rfl rfl (by decide) ?hS (by kernel_rfl) (by kernel_rfl) ?_
 case hS=>
  intro D c;simp only[mC,nM,or_false]at c
  rcases c with rfl|rfl
  ·exact⟨_,je,rfl⟩
  exact⟨undef,trivial⟩
 simp only[Yh,Yi];iterate 2 refine Zh ?_
 refine zbg (.tmp 23) ⟨p,0,Xb⟩ rfl rfl rfl rfl ?_;simp only[Xu,sB,sS,sZ];iterate 2 refine Zh ?_
 refine zgC rfl rfl rfl (Xi #[O (Xa ⟨g,0,Xb⟩) t q,I6 m.hand]) (fun w' _ a=>?_) ?_
 ·exact zmh 32 (.tmp 26) rfl p 0 rfl [O (Xa ⟨g,0,Xb⟩) t q,I6 m.hand] ((h.box.grew a).mid 0 (fun j v y=>by
   match j,y with
   | 0,y=>exact y
   | 1,y=>rw[<-H.out]at y;exact y)) underlying32 rfl (by kernel_rfl)
 simp only[Xu,sB,sS,sZ];iterate 2 refine Zh ?_
 refine zbg (.tmp 29) ⟨p,0,Xb⟩ rfl rfl rfl rfl ?_;simp only[Xu,sB,sS,sZ];iterate 3 refine Zh ?_
 refine zgC rfl rfl rfl (O (Xa ⟨g,0,Xb⟩) t q) (fun w' _ a=>?_) ?_
 ·exact zkh 30 (.tmp 33) rfl p 0 rfl (O (Xa ⟨g,0,Xb⟩) t q) ((h.box.grew a).c 0 rfl) underlying30 rfl
 simp only[Xu,sB,sS,sZ];iterate 5 refine Zh ?_
 refine zbf rfl rfl (fun v u=>∃(s:Sli) (c:Xn),v= Xm #[Xi #[s.x,I6 m.hand],I6 0]/\zb wr c/\zb c u/\zc Qy c.heap.size u (s.x) (QI m.fs m.hand (k:Int) (-r))) (fun w' j a=>?_) (fun D y=>?_)
 ·refine zR.call [Xi #[O (Xa ⟨g,0,Xb⟩) t q,I6 m.hand],I6 (k:Int),I6 (-r)] rfl func173 rfl rfl rfl ?_;refine(M w' a).mono ?_;rintro e q ⟨s,rfl,q,A⟩;exact⟨_,rfl,(E _).2 (b _ (a.trans A)),⟨s,rfl⟩,s,w',rfl,a,A,q⟩
 obtain⟨s,rfl⟩:=y;simp only[Xu,sB,sS,sZ];iterate 3 refine Zh ?_
 refine zbg (.tmp 22) ⟨p,0,Xb⟩ rfl rfl rfl rfl ?_;simp only[Xu,sB,sS,sZ];iterate 2 refine Zh ?_
 refine zbf rfl rfl (fun _ u=>Chg w0 p w V (zaz m k r z) u) (fun w' j a=>?_) (fun D y=>?_)
 ·obtain⟨j,c,c,t,q,u⟩:=a;have a:j=s:=by
   obtain⟨A,A,A⟩:=s;obtain⟨N,s,s⟩:=j;simp only[Value.tuple.injEq,Array.mk.injEq,List.cons.injEq,Value.agg.injEq,vJ,and_true]at c;obtain⟨rfl,rfl,rfl⟩:=c;rfl
  subst a;have c:=t.trans q;refine jS 32 (.tmp 45) (.tmp 41) rfl p 0 rfl (Xi #[j.x,I6 m.hand]) rfl [j.x,I6 m.hand] rfl (h.grew c) (by simp[chL]) (by kernel_rfl) (by simp[Value.oneCell']) ?_
  intro q h a _;have j:=f.nf g rfl;refine⟨(E _).2 ?_,trivial,?_⟩
  ·have G:=b.out _ c;have b:=World.block_lt_of_cell? _ _ G;rw[World.cell?_of_block (w:=w') (a.block g b (fun e=>by cases e;exact j rfl))]
   exact G
  have b:zaz m k r z={ K with fs:=QI m.fs m.hand (k:Int) (-r),hand:=m.hand }:=by
   unfold zaz;rw[F.out,l.out]
  rw[b];exact Chg.step Q P (f.setF c (u.base (bS t)) a h)
 clear y;try simp only[Xu]
 refine zfi fun q b a=>?_
 have c:Xo (Chg w0 p w V (zaz m k fr.r z) q):=dD<|by rw[B.out];exact a
 clear b a d C R L;go_wp2
 (first | go_end0 | ((try simp only[Exit.inBlock,Exit.then]);refine bodyPost_ret (results_none rfl _ _ _) rfl ?_))
 first | exact c.out | exact⟨⟨_,rfl⟩,c⟩
def frU (q:Fr):Fr:={ q with u:=false }
def zjq (q:Fr):Bool:=decide (0<q.r) && !q.u
theorem znK {w:Xn} (h:Below b w W) {a:Addr} (c:b<=a.block) (u):Below b w (W.setCell a u):=Below.setCell h c u
theorem zos (B g n f i base v:Nat) (fs:List Fr) (q W) (b:fs.length=n) (a:n<=40) (h:fs[i]? =Xa q) (j:Box W B [O (Xa ⟨g,0,Xb⟩) n f,I6 (i:Int)]) (k:zi base W (O (Xa ⟨g,0,Xb⟩) n f) fs) (p:B≠g) (t:v<=B) (C:v<=g):
  Xp prog 228 #[Xj (Xa ⟨B,0,Xb⟩)] W fun e a=>e= Xl (Xm #[I6 (i:Int),Xh (zjq q)])/\Box a B [O (Xa ⟨g,0,Xb⟩) n f,I6 (((i+1) % n:Nat):Int)]/\zi base a (O (Xa ⟨g,0,Xb⟩) n f) (fs.set i (frU q))/\Below v W a:=by
 have d:=dD k;have c:=dD j;have u:=dD h;have a:i<n:=by rw[<-b];exact(gS.1 h).1
 have a:=dD b;clear k j h b;have a:(i:Int)< (n:Int):=by omega
 have a:(0:Int)< (n:Int):=by omega
 have a:¬(n:Int)=0:=by omega
 have a:(((i:Int)+1) %(n:Int))=(((i+1) % n:Nat):Int):=by simp
 have k:=dD a;clear a;have a:=Ne.symm p;have z:=c.c 0 rfl;have j:=c.c 1 rfl;have s:=c.f;have m:=c.lt;have a:=(d.lt g rfl).2;have u8:=d.frc u 8 rfl;have u9:=d.frc u 9 rfl
 go_enter func228,ntmps228
 go_upto_region 3 with fail;obtain⟨h,b⟩:=kB (W.setCell ⟨B,1,Xb⟩ (I6 (((i:Int)+1) %(n:Int))));rw[b];have r:Xo (Box h B [O (Xa ⟨g,0,Xb⟩) n f,I6 (((i:Int)+1) %(n:Int))]):=dD<|by rw[<-b];exact c.set 1 _
 have l:Xo (zi base h (O (Xa ⟨g,0,Xb⟩) n f) fs):=dD<|by rw[<-b];exact d.setOther (fun w a=>by cases a;exact p) _
 have d:Xo (Below v W h):=dD<|by rw[<-b];exact znK (bR _ _) t _
 clear b z j s m u8 u9;have z:=r.c 0 rfl;have u8:=l.frc u 8 rfl;have u9:=l.frc u 9 rfl;have y:Xo (zjq q=(decide (0<q.r) && !q.u)):=rfl;obtain⟨h,b⟩:=kA q.r;obtain⟨A,c⟩:=kA q.u;rw[b.out]at u8 y;rw[c.out]at u9 y
 by_cases D:0<h
 ·cases A with
  | true=>
   have x:Xo (zjq q=Xd):=dD<|by rw[y.out];simp[D]
   skip
   go_wp2_with (refine qt rfl (.tmp 32) (.const (Xh Xd)) 4 rfl base (O (Xa ⟨g,0,Xb⟩) n f) fs l g i 9 rfl q (frU q) u.out [Xh Xd] (by kernel_rfl) rfl (Xy rfl) (by intro A t;simp at t;subst t;rfl) _ rfl (by simp) _ rfl rfl ?_)
   intro s c b _;have m:=dD c;have j:Xo (Box s B [O (Xa ⟨g,0,Xb⟩) n f,I6 (((i:Int)+1) %(n:Int))]):=r.beside b (fun w a=>by cases a;exact p)
   have h:Xo (Below v W s):=Below.grown d b (by have:=bS d.out;omega) (fun w a=>by cases a;exact C)
   clear c b u8 u9 z;go_wp2
   go_ret2
   exact⟨by rw[x.out];rfl,by rw[<-k.out];exact j,m,h⟩
  | false=>
   have x:Xo (zjq q=Xc):=dD<|by rw[y.out];simp[D]
   skip
   go_wp2_with (refine qt rfl (.tmp 32) (.const (Xh Xd)) 4 rfl base (O (Xa ⟨g,0,Xb⟩) n f) fs l g i 9 rfl q (frU q) u.out [Xh Xd] (by kernel_rfl) rfl (Xy rfl) (by intro A t;simp at t;subst t;rfl) _ rfl (by simp) _ rfl rfl ?_)
   intro s c b _;have m:=dD c;have j:Xo (Box s B [O (Xa ⟨g,0,Xb⟩) n f,I6 (((i:Int)+1) %(n:Int))]):=r.beside b (fun w a=>by cases a;exact p)
   have h:Xo (Below v W s):=Below.grown d b (by have:=bS d.out;omega) (fun w a=>by cases a;exact C)
   clear c b u8 u9 z;go_wp2
   go_ret2
   exact⟨by rw[x.out];rfl,by rw[<-k.out];exact j,m,h⟩
 
 have x:Xo (zjq q=Xd):=dD<|by rw[y.out];simp[D]
 skip
 go_wp2_with (refine qt rfl (.tmp 32) (.const (Xh Xd)) 4 rfl base (O (Xa ⟨g,0,Xb⟩) n f) fs l g i 9 rfl q (frU q) u.out [Xh Xd] (by kernel_rfl) rfl (Xy rfl) (by intro A t;simp at t;subst t;rfl) _ rfl (by simp) _ rfl rfl ?_)
 intro s c b _;have m:=dD c;have j:Xo (Box s B [O (Xa ⟨g,0,Xb⟩) n f,I6 (((i:Int)+1) %(n:Int))]):=r.beside b (fun w a=>by cases a;exact p)
 have h:Xo (Below v W s):=Below.grown d b (by have:=bS d.out;omega) (fun w a=>by cases a;exact C)
 clear c b u8 u9 z;go_wp2
 go_ret2
 exact⟨by rw[x.out];rfl,by rw[<-k.out];exact j,m,h⟩
def jv:Nat->List Fr->Nat->List Fr × Nat × Int
 | 0,fs,h=>(fs,h,-1)
 | m+1,fs,h=>if zjq (fs.getD h fr0)then(fs.set h (frU (fs.getD h fr0)),(h+1) % fs.length,(h:Int))else jv m (fs.set h (frU (fs.getD h fr0))) ((h+1) % fs.length)
def Jp (fs:List Fr) (h:Int):List Fr × Nat × Int:=jv (2*fs.length) fs h.toNat
def zbP (fs:List Fr) (h:Int):List Fr:=if Zb fs h=0 then(Jp fs h).1 else []
def zde (fs:List Fr) (h:Int):Int:=if Zb fs h=0 then((Jp fs h).2.1:Int)else 0
def zan (fs:List Fr) (h:Int):Int:=if Zb fs h=0 then(Jp fs h).2.2 else 0
theorem zra (a) (c:Nat) (fs:List Fr) (l:Nat) (w:Xn) (aq:qh w (O a fs.length c) fs) (S:Zb fs (l:Int)=0):
  Xp prog 198 #[Xi #[O a fs.length c,I6 (l:Int)]] w fun e w'=>∃b,e= Xl (Xm #[Xi #[b,I6 ((jv (2*fs.length) fs l).2.1:Int)],I6 (jv (2*fs.length) fs l).2.2,I6 0])/\zi w.heap.size w' b (jv (2*fs.length) fs l).1/\zb w w':=by
 have a3:=dD aq;have ah:∀W,zb w W->Xp prog 58 #[Xi #[O a fs.length c,I6 (l:Int)]] W fun e w'=>e= Xl (I6 (Zb fs (l:Int)))/\zb W w':=fun W ae=>by rw[S];exact ZV a c fs _ W (a3.grew ae) S
 have ag:∀W,zb w W->Xp prog 51 #[Xi #[O a fs.length c,I6 (l:Int)]] W fun e w'=>∃b,e= Xl (Xi #[b,I6 (l:Int)])/\zi W.heap.size w' b fs/\zb W w':=fun W ae=>QF a c fs _ W (a3.grew ae)
 obtain⟨P,_,_,A⟩:=ji S;have bb:=enters_of func228 (by kernel_rfl) rfl
 clear aq;obtain⟨n,a1⟩:=kA fs.length;simp only[a1.out,S]at ah a3 ag P A⊢;clear S;obtain⟨V,G⟩:=kA (jv (2*n) fs l);rw[G.out];obtain⟨b9,p⟩:=kB ((w.alloc (Xk #[O a n c,I6 (l:Int)] 32)).alloc (Xk #[eS,I6 0] 32));have r:=gD2 p
 have X:=x2a p
 have am:=x2b p
 have a4:=dD p;clear p
 go_enter func198,ntmps198
 go_upto_region 1 with fail;rw[a4.out];have aa:=X.c 0 rfl;have ab:=X.c 1 rfl;go_wp2_with fail;refine(ah _ r).mono ?_;rintro e x ⟨rfl,ao⟩;have B:=dD ao;clear ao aa ab ah;have aa:=(X.grew B).c 0 rfl;have ab:=(X.grew B).c 1 rfl;go_wp2_with fail;refine(ag _ (r.trans B)).mono ?_;rintro e L ⟨b,rfl,i,ad⟩;obtain⟨D,m,rfl⟩:=i.form;rw[a1.out]at i⊢;have ay:=dD i;have aj:=dD (B.trans ad);have ac:=dD<|bS ad;have a7:=dD<|(am.grew B).lt;have a6:=dD<|bS (r.trans B);clear i ad aa ab ag;obtain⟨M,k⟩:=kB (L.alloc (Xk #[O D n m,I6 (l:Int)] 32));have an:=xT k
 have K:Xo (zi x.heap.size M (O D n m) fs):=dD<|by rw[<-k];exact ay.grew (za _ _)
 have a9:Xo (Box M (w.heap.size+1) [eS,I6 0]):=dD<|by rw[<-k];exact(am.grew aj).alloc _
 have au:Xo (zb w M):=dD<|by rw[<-k];exact(r.trans aj).trans (za _ _)
 have a5:=dD k;clear k;go_wp2;rw[a5.out]
 go_loopg [8,9,23] (2*n) (fun az _ _ ai wr=>∃(h d:Nat) (g:List Fr),h<=2*n/\2*n - h<=az/\ai=I6 h/\d<max n 1/\Xo (g.length=n)/\Xo (Box wr L.heap.size [O D n m,I6 (d:Int)])/\Xo (zi x.heap.size wr (O D n m) g)/\Xo (Below x.heap.size M wr)/\Xo (jv (2*n - h) g d=V))
 case atStart=>exact⟨0,l,fs,nZ _,by omega,rfl,by omega,a1,an.box,K,bR _ _,G⟩
 obtain⟨h,d,g,b1,bc,rfl,b0,C,I,U,Z,Y⟩:=hrel;have u:=a7.out;have t:=a6.out;have j:=dD<|a9.below Z u;have ak:=dD<|Below.trans au (Z.mono t)
 by_cases b2:h<2*n
 ·have R:(h:Int)<2*(n:Int):=by omega
  obtain⟨s,ba,ap⟩:=U.formS (by rw[C.out];omega)
  rw[C.out]at ap;cases ap;obtain⟨q,al⟩:∃q,Xo (g[d]? =Xa q):=⟨_,gE (by rw[C.out];omega)⟩
  have af:=U.lt s rfl;have a2:Xo (L.heap.size≠s):=(K.ne an (by decide) s rfl)
  have f:=zos L.heap.size s n m d x.heap.size x.heap.size g q wr C P al I U a2 ac.out af.1;have Q:g.getD d fr0=q:=by rw[gD,al.out];rfl
  have H:Xo (jv (2*n - h) g d=if zjq q then(g.set d (frU q),(d+1) % n,(d:Int))else jv (2*n -(h+1)) (g.set d (frU q)) ((d+1) % n)):=dD<|by
   rw[show 2*n - h=(2*n -(h+1))+1 by omega,jv,Q,C.out]
  clear Q
  cases E:zjq q with
  | true=>
   rw[E]at f;have F:Xo (V=(g.set d (frU q),(d+1) % n,(d:Int))):=dD<|by rw[<-Y.out,H.out,E,kE rfl]
   clear E
   go_wp2_with (go_at_call 228;refine f.mono ?_;rintro e z ⟨rfl,N,T,y⟩;have b5:=(j.below y u).c 0 rfl;have b7:=(j.below y u).c 1 rfl;have b8:=(j.below y u).f;have b3:=N.c 0 rfl;have b4:=N.c 1 rfl;have a8:Xo (zi x.heap.size z (O (Xa ⟨s,0,Xb⟩) n m) (g.set d (frU q))):=T;have a0:Xo (zb w z):=show zb w z from Below.trans ak (y.mono t);clear T y)
   refine bodyPost_ret (v:= Xm #[Xi #[O (Xa ⟨s,0,Xb⟩) n m,I6 (((d+1) % n:Nat):Int)],I6 (d:Int),I6 0]) (by simp[results,Tryz.results198,go_sem, *]) rfl ⟨O (Xa ⟨s,0,Xb⟩) n m,?_,?_,?_⟩
   ·rw[F.out]
   ·rw[F.out];exact((a8.setCell (a:=⟨w.heap.size+1,0,Xb⟩) (by show w.heap.size+1<_;omega) _).setCell (a:=⟨w.heap.size+1,1,Xb⟩) (by show w.heap.size+1<_;omega) _).base t
   exact zL (zL a0 (by simp) _) (by simp) _
  | false=>
   rw[E]at f;have aw:Xo (jv (2*n -(h+1)) (g.set d (frU q)) ((d+1) % n)=V):=dD<|by rw[<-Y.out,H.out,E];rfl
   clear E
   go_wp2_with (go_at_call 228;refine f.mono ?_;rintro e z ⟨rfl,N,T,y⟩;have ar:Xo (Box z L.heap.size [O (Xa ⟨s,0,Xb⟩) n m,I6 (((d+1) % n:Nat):Int)]):=N;have a8:Xo (zi x.heap.size z (O (Xa ⟨s,0,Xb⟩) n m) (g.set d (frU q))):=T;have ax:Xo (Below x.heap.size M z):=Below.trans Z y;clear N T y)
   go_roundg (2*n -(h+1))
   case measure=>omega
   exact⟨h+1,(d+1) % n,g.set d (frU q),by omega,by omega,by go_num,(by have:=Nat.mod_lt (d+1) (show 0<n by omega);omega),(show(g.set d (frU q)).length=n by rw[List.length_set];exact C),ar,a8,ax,aw⟩
 have R:¬(h:Int)<2*(n:Int):=by omega
 have:h=2*n:=by omega
 subst this;have F:Xo (V=(g,d,-1)):=dD<|by rw[<-Y.out,Nat.sub_self];rfl
 have b5:=j.c 0 rfl;have b7:=j.c 1 rfl;have b8:=j.f;have b3:=I.c 0 rfl;have b4:=I.c 1 rfl;go_wp2;refine bodyPost_ret (v:= Xm #[Xi #[O D n m,I6 (d:Int)],I6 (-1),I6 0]) (by simp[results,Tryz.results198,go_sem, *]) rfl ⟨O D n m,?_,?_,?_⟩
 ·rw[F.out]
 ·rw[F.out];exact((U.setCell (a:=⟨w.heap.size+1,0,Xb⟩) (by show w.heap.size+1<_;omega) _).setCell (a:=⟨w.heap.size+1,1,Xb⟩) (by show w.heap.size+1<_;omega) _).base t
 exact zL (zL ak (by simp) _) (by simp) _
theorem zov (a) (c:Nat) (fs:List Fr) (h:Int) (w:Xn) (f:qh w (O a fs.length c) fs) (d:Zb fs h=0):
  Xp prog 198 #[Xi #[O a fs.length c,I6 h]] w fun e w'=>∃b,e= Xl (Xm #[Xi #[b,I6 (zde fs h)],I6 (zan fs h),I6 (Zb fs h)])/\zi w.heap.size w' b (zbP fs h)/\zb w w':=by
 unfold zde zan zbP Jp;rw[kE d,kE d,kE d];obtain⟨g,rfl⟩:=Int.eq_ofNat_of_zero_le (ji d).2.2.1;rw[tN,d];exact zra a c fs g w f d
def Zt (m:Ma):Ma:={ m with fs:=zbP m.fs m.hand,hand:=zde m.fs m.hand }
theorem zri {w:Xn} {p:Nat} (h:ChW w0 p w V m) (c:Zb m.fs m.hand=0):
  Xp prog 198 #[Xi #[V.f.x,I6 m.hand]] w fun e w'=>∃b:Sli,e= Xl (Xm #[Xi #[b.x,I6 (zde m.fs m.hand)],I6 (zan m.fs m.hand),I6 0])/\zc Qy w.heap.size w' (b.x) (zbP m.fs m.hand)/\zb w w':=by
 obtain⟨a,-⟩:=h.at.ns;have k:=h.at.fs;(try simp only[Sli.x]at k⊢);rw[a]at k⊢;refine(zov V.f.a V.f.c m.fs m.hand w k c).mono ?_;rintro e w' ⟨b,rfl,d,h⟩;have a:zc Qy w.heap.size w' b (zbP m.fs m.hand):=d;obtain⟨f,g,rfl⟩:=a.form;rw[c];exact⟨⟨f,_,g⟩,rfl,d,h⟩
end
end Go.Proofs.YtmfckdkcmbncdaaGreat
