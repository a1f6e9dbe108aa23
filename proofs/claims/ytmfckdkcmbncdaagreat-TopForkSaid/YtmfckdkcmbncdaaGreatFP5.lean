import Derived.Test.YtmfckdkcmbncdaaGreatFP4
namespace Go.Proofs.YtmfckdkcmbncdaaGreat
open Go.Value renaming slice→O,int→Xe,bool→Xh,agg→Xi,pointer→Xj,tuple→Xm
open Go.IntKind renaming i64→Xf,u8→Xg
open Go.Obj renaming cells→Xk
open Go.Ending renaming returned→Xl
open Go renaming World→Xn,Calls→Xp,Value→Xq
open Go.RowKit renaming Hid→Xo
open Option renaming some→Xa,none→Xb
open Bool renaming true→Xc,false→Xd
open List renaming replicate→Xr
open _root_.List renaming mem_cons_of_mem→Xs,mem_cons_self→Xt,ext_getElem?→Xv,getElem?_map→Xw,getElem?_cons_succ→Xx,getElem?_of_mem→Xz,length_cons→Ya,mem_filter→Yb,mem_map→Yc,getElem?_set→Yd,mem_range→Ye,getElem?_mapIdx→Yf,find?_eq_none→Yg,mem_or_eq_of_mem_set→Yh,pairwise_iff_getElem→Yi,length_map→Yj,length_nil→Yk,getElem?_modify→Ym,take→Yn,drop→Yo,countP_eq_zero→Yp,filter_eq_self→Yq,map_congr_left→Yr,set_set→Yt,range→Yu
open _root_.Bool renaming and_eq_true→Xu
open Go.Act renaming put→Xy
open _root_.Nat renaming le_of_ble_eq_true→Yl,lt_of_lt_of_le→Ys
set_option maxRecDepth 100000
set_option maxHeartbeats 4000000
variable{T:List (Nat->En)} {V:MaV} {W w' w0:Xn} {b fi ix j:Nat} {m m' m1:Ma} {o:Oper} {vs:List Xq} {z:Int}
open Go.Proofs.Tryz
section
open Go.RowKit
def jE (fs:List Fl) (k:Nat):List Int:=((Yu k).filter fun(b:Nat)=>!qe fs (b:Int)).map fun(b:Nat)=>(b:Int)
theorem zih (fs) (k:Nat):jE fs (k+1)=if qe fs (k:Int)=Xc then jE fs k else jE fs k++ [(k:Int)]:=by
 unfold jE;rw[List.range_succ,List.filter_append]
 cases h:qe fs (k:Int)with
 | true=>simp[h]
 | false=>simp[h]
theorem zkF (fs) (n:Nat):jE fs n=(Qa fs (n:Int)).map fun(b:Nat)=>(b:Int):=by
 unfold jE Qa;rw[tN]
theorem zkE (fs) (k:Nat):(jE fs k).length<=k:=by
 unfold jE;rw[Yj];exact nT (List.length_filter_le _ _) (by simp)
theorem zjl (v fs) (m:Nat) (a:m<=80) (w:Xn) (c:qq w v fs):
  Xp prog 239 #[Xi #[v,I6 (m:Int)]] w fun e w'=>∃b,e= Xl b/\zc blE (w.heap.size+1) w' b (jE fs m)/\zb w w':=by
 have f:=dD c;obtain⟨d,g,rfl,a,_⟩:=c.rows;clear c;obtain⟨n,c⟩:=kA fs.length;rw[c.out]at a f⊢;have a:∀(c:Fn) (first a:Array Xq) (w:Xn),(Instr.makeFunc c first a).run prog w= .ok (.func c first a) w:=fun _ _ _ _=>rfl
 obtain⟨B,a⟩:=kB (w.alloc (Xk #[O d n g,I6 (m:Int)] 41));have j:=gA a
 have s:=xA a
 have k:=sA a
 have c:=dD a;clear a
 go_enter func239,ntmps239
 go_wp2;rw[c.out]
 go_loopg [3,4,5,8] m (fun a d _ _ g wr=>∃(c:Nat) (p:Option Addr) (q:Nat),c<=m/\m - c<=a/\g=I6 c/\d= .slice p (jE fs c).length q/\Xo (zb B wr)/\Xo (zc blE (w.heap.size+1) wr (.slice p (jE fs c).length q) (jE fs c)))
 case atStart=>exact⟨0,Xb,0,nZ _,by omega,rfl,rfl,zb.refl _,zc.nil _ _ _⟩
 obtain⟨c,p,q,a,a,rfl,rfl,h,A⟩:=hrel
 by_cases l:c<m
 ·have n:=kC l
  obtain⟨g,d⟩:=kB (wr.alloc (Xk #[I6 (c:Int)] 3));have i:=gA d
  have r:=xA d
  have a:=zcA _ fs (c:Int) wr.heap.size g r (f.grew ((j.trans h).trans i));have z:=dD (A.grew i);have g:=dD d;have f:=zih fs c;have F:=dD<|zkE fs c;clear d;go_upto_region 5 with fail;rw[g.out];have C:=(s.grew (h.trans i)).c 0 rfl;have D:=(s.grew (h.trans i)).c 1 rfl;have g:=dD r.lt;obtain⟨d,d⟩:=kB wr.heap.size;rw[d]at a r g⊢;clear d
  cases x:qe fs (c:Int)with
  | true=>
   rw[x]at a f;rw[kE rfl]at f;have d:=dD f;clear f x;go_wp2_with fail;refine a.mono ?_;rintro e u ⟨rfl,g⟩;have s:=dD ((h.trans i).trans g);have t:Xo (zc blE (w.heap.size+1) u (.slice p (jE fs (c+1)).length q) (jE fs (c+1))):=show zc _ _ _ _ _ by rw[d.out];exact z.grew g
   have y:Xo ((jE fs (c+1)).length=(jE fs c).length):=dD<|by rw[d.out]
   rw[<-y.out];clear g a C D;go_wp2
   go_roundg (m -(c+1))
   case measure=>omega
   exact⟨c+1,p,q,by omega,by omega,by go_num,rfl,s,t⟩
  | false=>
   rw[x]at a f;rw[kF (by decide)]at f
   have d:=dD f;clear f x;go_wp2_with fail;refine a.mono ?_;rintro e u ⟨rfl,g⟩;have s:=dD ((h.trans i).trans g);have t:=dD (z.grew g);have f:=(r.grew g).c 0 rfl;clear g a C D;have a:Xo (w.heap.size+1<=u.heap.size):=show _<=_ by
    have:=bS s.out;rw[k.out]at this;exact this
   go_wp2_with (at_builtin;refine zx (E:=blE) rfl (.tmp 17) (.tmp 19) rfl (w.heap.size+1) _ (jE fs c) rfl (t.grew (za _ _)) _ [(c:Int)] rfl (Zg blE u (c:Int) _ _ rfl (by show 8<=_;omega)) ?qb ?qc ?_)
   case qb=>
    have:=F.out
    show(_+1)*8<=_
    omega
   case qc=>simp;have:=a.out;omega
   intro a p a f;obtain⟨g,i,rfl⟩:=a.form;have r:Xo (zc blE (w.heap.size+1) p (.slice g (jE fs (c+1)).length i) (jE fs (c+1))):=dD<|by rw[d.out];exact a
   have q:Xo (zb B p):=dD<|zX (s.trans (za _ _)) f (fun p u=>by
    have s:=(t.lt p u).1;rw[k.out];exact s)
   rw[<-d.out];clear a f;go_wp2
   go_roundg (m -(c+1))
   case measure=>omega
   exact⟨c+1,g,i,by omega,by omega,by go_num,rfl,q,r⟩
 have n:=kD l
 have:c=m:=by omega
 subst this;have a:=dD (j.trans h);go_wp2;go_ret;exact⟨_,rfl,A,a⟩
theorem zmz (n:Int) (w):
  Xp prog 18 #[I6 n] w fun e w'=>e= Xl (Xm #[Xi #[eS,I6 (if 0<=n/\n<=80 then n else 0)],I6 (if 0<=n/\n<=80 then 0 else 4)])/\zb w w':=by
 by_cases h:0<=n/\n<=80
 ·rw[kE h,kE h];have a:=fun W=>j8 (m:=n) (n:=81) h.1 (by omega) W
  clear h
  go_enter func18,ntmps18
  go_wp2_with (go_at_call 27;refine(a _).mono ?_;rintro e w' ⟨rfl,rfl⟩)
  refine bodyPost_ret (v:= Xm #[Xi #[eS,I6 n],I6 0]) (by simp[results,Tryz.results18,go_sem, *]) rfl ⟨rfl,?_⟩
  first | exact za _ _ | exact Below.setCell (Below.setCell (za _ _) (p:=⟨w.heap.size,0,Xb⟩) (by simp) _) (p:=⟨w.heap.size,1,Xb⟩) (by simp) _
 rw[kF h,kF h];have a:=fun W=>zak (m:=n) (n:=81) (by omega) W
 clear h
 go_enter func18,ntmps18
 go_wp2_with (go_at_call 27;refine(a _).mono ?_;rintro e w' ⟨rfl,rfl⟩)
 refine bodyPost_ret (v:= Xm #[Xi #[eS,I6 0],I6 4]) (by simp[results,Tryz.results18,go_sem, *]) rfl ⟨rfl,?_⟩
 first | exact za _ _ | exact Below.setCell (Below.setCell (za _ _) (p:=⟨w.heap.size,0,Xb⟩) (by simp) _) (p:=⟨w.heap.size,1,Xb⟩) (by simp) _
def zmx (fs:List Fl) (cnt k:Int):Int:=if stW fs cnt=0 then(if inL fs.length k=Xc then 0 else 5)else stW fs cnt
theorem zb7 (v fs) (a k:Int) (w) (m:qq w v fs):
  Xp prog 188 #[Xi #[v,I6 a],I6 k] w fun e w'=>e= Xl (I6 (zmx fs a k))/\zb w w':=by
 have i:∀W,zb w W->Xp prog 61 #[Xi #[v,I6 a]] W fun e w'=>e= Xl (I6 (stW fs a))/\zb W w':=fun W t=>zaC v fs a W (m.grew t)
 obtain⟨r,s,rfl,q,_⟩:=m.rows;clear m;have d:Xo (zmx fs a k=if stW fs a=0 then(if inL fs.length k=Xc then 0 else 5)else stW fs a):=rfl;have c:∀W,Xp prog 27 #[I6 k,I6 (fs.length:Int)] W fun e w'=>e= Xl (Xh (inL fs.length k))/\w'=W:=fun W=>zdP k _ W
 generalize zmx fs a k=Z at d⊢
 generalize inL fs.length k=B at d c
 generalize stW fs a=S at d i
 generalize fs.length=x at*
 obtain⟨z,g⟩:=kB (w.alloc (Xk #[O r x s,I6 a] 41));have b:=gA g
 have p:=xA g
 have h:=dD g;clear g
 by_cases l:S=0
 ·rw[kE l]at d;subst l
  cases B with
  | true=>
   rw[kE rfl]at d
   go_enter func188,ntmps188
   go_wp2_with fail;rw[h.out];refine(i _ b).mono ?_;rintro e n ⟨rfl,f⟩;have j:=dD (b.trans f);have y:=(p.grew f).c 0 rfl;clear f i
   go_wp2_with (go_at_call 27;refine(c _).mono ?_;rintro e w' ⟨rfl,rfl⟩)
   go_ret;exact⟨by rw[d.out];rfl,j⟩
  | false=>
   rw[kF (by decide)]at d
   go_enter func188,ntmps188
   go_wp2_with fail;rw[h.out];refine(i _ b).mono ?_;rintro e n ⟨rfl,f⟩;have j:=dD (b.trans f);have y:=(p.grew f).c 0 rfl;clear f i
   go_wp2_with (go_at_call 27;refine(c _).mono ?_;rintro e w' ⟨rfl,rfl⟩)
   go_ret;exact⟨by rw[d.out];rfl,j⟩
 rw[kF l]at d;have u:(S != 0)=Xc:=by simpa using l
 go_enter func188,ntmps188
 go_wp2_with fail;rw[h.out];refine(i _ b).mono ?_;rintro e n ⟨rfl,f⟩;have j:=dD (b.trans f);clear f i;go_wp2;go_ret;exact⟨by rw[d.out];rfl,j⟩
def zku (n:Int):Int:=if 0<=n/\n<=60 then 0 else 4
def zoz (n:Int):List Int:=if 0<=n/\n<=60 then Xr n.toNat 0 else []
theorem zkx (n:Int) (w:Xn):Xp prog 15 #[I6 n] w fun e w'=>∃s:Sli,e= Xl (Xm #[Xi #[s.x,I6 0],I6 (zky n)])/\(zl Qy w' (s.x) (zoA n)/\jR w.heap.size (s.x))/\zb w w':=by
 by_cases h:0<=n/\n<=40
 ·obtain⟨k,rfl⟩:∃k:Nat,n=(k:Int):=⟨n.toNat,by omega⟩
  refine(zkv k (by omega) w).mono ?_
  rintro e w' ⟨f,rfl,a,d⟩;obtain⟨b,c,rfl,_⟩:=a.1.rows;refine⟨⟨b,(Xr k frF).length,c⟩,?_,⟨?_,a.2⟩,d⟩
  ·unfold zky;rw[kE h]
  unfold zoA;rw[kE h];exact a.1
 refine(zkw n h w).mono ?_;rintro e w' ⟨f,rfl,a,d⟩;obtain⟨b,c,rfl,_⟩:=a.1.rows;refine⟨⟨b,([]:List Fr).length,c⟩,?_,⟨?_,a.2⟩,d⟩
 ·unfold zky;rw[kF h]
 unfold zoA;rw[kF h];exact a.1
theorem zoy (n:Int) (w:Xn):Xp prog 16 #[I6 n] w fun e w'=>∃s:Sli,e= Xl (Xm #[s.x,I6 (zku n)])/\(zl slE w' (s.x) (zoz n)/\jR w.heap.size (s.x))/\zb w w':=by
 by_cases h:0<=n/\n<=60
 ·obtain⟨k,rfl⟩:∃k:Nat,n=(k:Int):=⟨n.toNat,by omega⟩
  refine(zow k (by omega) w).mono ?_
  rintro e w' ⟨c,d,rfl,b,a⟩;refine⟨⟨c,k,d⟩,?_,⟨?_,b.2⟩,a⟩
  ·unfold zku;rw[kE h]
  unfold zoz;rw[kE h];exact b.1
 refine(zox n h w).mono ?_;rintro e w' ⟨rfl,a⟩;refine⟨⟨Xb,0,0⟩,?_,⟨?_,Zu _⟩,a⟩
 ·unfold zku;rw[kF h]
 unfold zoz;rw[kF h];exact zl.nil slE w'
theorem zgt (n:Int) (w:Xn):Xp prog 17 #[I6 n] w fun e w'=>∃b q:Sli,e= Xl (Xm #[Xi #[b.x,q.x],I6 (JN n)])/\(jc w' (b.x) (zmB n)/\jG w' (q.x) []/\jR w.heap.size (b.x)/\jR w.heap.size (q.x))/\zb w w':=by
 refine(zp6 n w).mono ?_;rintro e w' ⟨d,rfl,⟨b,q,rfl,a,c,i,j⟩,k⟩;obtain⟨d,g,rfl,_⟩:=a.rows;obtain⟨f,h,rfl,_⟩:=c.rows;exact⟨⟨d,(zmB n).length,g⟩,⟨f,([]:List (Int × List Int)).length,h⟩,rfl,⟨a,c,i,j⟩,k⟩
theorem jz.beside {α:Type} {enc:α->List Xq} {w:Xn} {a:Option Nat} {v:Xq} {l:List α} (h:jz enc w v l) (i:w.grownBy w' a) (k:∀x n c,v= O (Xa x) n c->Xa x.block≠a):jz enc w' v l:=by
 obtain⟨e,c,b,f,g⟩:=h;refine⟨e,c,b,f,fun x m p u j=>?_⟩
 subst m;have d:=g x rfl p u j;rw[World.cell?_of_block (w:=w) (i.block _ (World.block_lt_of_cell? _ _ d) (by rw[Za];exact k x _ _ b))]
 exact d
def zrO (f s b:Int):Prop:=(0<=f/\f<=40)/\(0<=s/\s<=60)/\(0<=b/\b<=80)
def Jq (f s b:Int):Ma:=⟨Xr f.toNat frF,0,Xr s.toNat 0,Xr s.toNat z4,[],Xr b.toNat z4,[],[],b,[],[⟨Xc,[],Jo⟩]⟩
def zoC (f s b:Int):List Int:=[zky f,zku s,JN s,JN b,if 0<=b/\b<=80 then 0 else 4]
theorem zmA {f s b:Int} (h:zrO f s b):zu (zoC f s b)=0:=by
 obtain⟨a,c,d⟩:=h;unfold zoC zky zku JN;rw[kE a,kE c,kE (by omega),kE d]
 rfl
theorem zN {e:Func} {p u t:Tmp} {c:TypeId} (h:e.results=#[.cell p c,.tmp u,.tmp t]) (a:Array Xq) {w:Xn} (hp:a.getD p undef= Xj (Xa ⟨b,0,Xb⟩)) (hb:Box w b vs) {d:TypeDesc} (g:Tryz.prog.underlying c=Xa d) (f:d.isRow=Xc) (hi:(Tryz.prog.info? c).map (·.size)=Xa vs.length):
  (results e a).run prog w= .ok (Xm #[Xi vs.toArray,a.getD u undef,a.getD t undef]) w:=by
 have e:a[p]?.getD undef= Xj (Xa ⟨b,0,Xb⟩):=by simpa using hp
 have a:=run_loadVar_mid (P:=prog) w b 0 c vs d hb.range g f hi
 simp[results,h,e,asAddr,a]
theorem znp {l:List Int} {n:Int} {k:Nat} (h:(k:Int)<=n\/k=0):zbw l 0 n k=l:=by
 unfold zbw
 apply Xv
 intro i;rw[Yf]
 cases l[i]? with
 | none=>rfl
 | some z=>
  simp only[Option.map_some];rw[kF (by omega)]
theorem znt (l) (idx a:Int):Qh l 0 (a - idx*8)=Qh l idx a:=by
 unfold Qh
 congr 1
 funext i z
 by_cases h:a<=8*idx+(i:Int)
 ·rw[kE h,kE (by omega)]
 rw[kF h,kF (by omega)]
theorem zda (l:List Int) (n:Int) (w) (f:l.length=8) (a:-9223372036854775808<=n) (b:n<=9223372036854775807):
  Xp prog 182 #[Xi (pgc l).toArray,I6 n] w fun e w'=>e= Xl (Xi (pgc (Qh l 0 n)).toArray)/\(Qh l 0 n).length=8/\zb w w':=by
 have h:=dD f;have a:Xo ((Qh l 0 n).length=8):=show _=_ by unfold Qh;simp[f]
 obtain⟨c,b⟩:=kB ((w.alloc (Xk (pgc l).toArray 91)).alloc (Xk #[U8 0,U8 0,U8 0,U8 0,U8 0,U8 0,U8 0,U8 0] 91));have g:=gD2 b
 have i:=x2a b
 have p:Xo (Box c (w.heap.size+1) (pgc z4)):=dD<|by rw[<-b];exact Box.top _ (pgc z4) _ (by simp)
 have d:=dD b;have m:Xo (Box c w.heap.size (pgc (zbw l 0 n n.toNat))):=show Box _ _ _ by rw[znp (by omega)];exact i.out
 obtain⟨j,c⟩:=kA (Qh l 0 n);rw[c.out]at a⊢;clear b f
 go_enter func182,ntmps182
 go_upto_region 1 with fail;rw[d.out];go_wp2
 all_goals
  go_loopg [5] 8 (fun b d wr=>∃k:Nat,n<=(k:Int)/\(k:Int)<=9223372036854775807/\8 - k<=b/\d=I6 k/\Xo (zb w wr)/\Xo (Box wr w.heap.size (pgc (zbw l 0 n k)))/\Xo (Box wr (w.heap.size+1) (pgc z4)))
  case atStart=>
   exact⟨n.toNat,by omega,by omega,by omega,(by first | rw[Int.toNat_eq_max] | (congr 1;omega) | (congr 1;rw[Int.max_def];split <;> omega) | (congr 1;split <;> omega)),g,m,p⟩
  obtain⟨k,b,b,b,rfl,m,d,p⟩:=hrel
  by_cases f:k<8
  ·have g:(k:Int)<8:=by omega
   obtain⟨z,b⟩:∃z,(zbw l 0 n k)[k]? =Xa z:=⟨_,gE (by rw[znq,h.out];exact f)⟩
   have s:=d.c k (zq7 b);have t:=d.f;clear b;go_wp2;obtain⟨i,b⟩:=kB (wr.setCell ⟨w.heap.size,k,Xb⟩ (U8 0));have q:Xo (Box i w.heap.size (pgc (zbw l 0 n (k+1)))):=dD<|by rw[<-b,<-znr (by rw[h.out];exact f) (by omega),zp2];exact d.set k _
   have r:Xo (Box i (w.heap.size+1) (pgc z4)):=dD<|by rw[<-b];exact p.other (by simp) _
   have f:Xo (zb w i):=dD<|by rw[<-b];exact zL m (by simp) _
   rw[b];clear b s t
   go_roundg (8 -(k+1))
   case measure=>omega
   exact⟨k+1,by omega,by omega,by omega,by go_num,f,q,r⟩
  have g:¬(k:Int)<8:=by omega
  have b:Xo (zbw l 0 n k=j):=dD<|by rw[zns (by rw[h.out];omega),c.out]
  rw[b.out]at d
  go_wp2_with (first | refine zo rfl 91 (.tmp 2) rfl w.heap.size rfl d underlying91 rfl (by rw[ZB,a.out];exact zsm) ?_ | refine zz rfl 91 (.tmp 4) (.tmp 14) rfl (w.heap.size+1) rfl (pgc j) rfl p (by rw[ZB,a.out];rfl) zsm (ju _) ?_)
  intro f c d _;have b:Xo (zb w f):=dD<|zd m d (by omega)
  go_wp2;refine bodyPost_ret (zG rfl _ rfl c underlying91 rfl (by rw[ZB,a.out];exact zsm)) rfl ⟨rfl,a,b⟩
theorem zR.storeAllT {a:Act} {w:Xn} {K:Xq->Xn->Prop} (d p x) (f:o.op= .store d p x) (b:Nat) (hp:a.eval p= Xj (Xa ⟨b,0,Xb⟩)) (vs:List Xq) (i:a.eval x= Xi vs.toArray)
  {t:TypeId} {cs:List Xq} (hb:zn w b t cs) (c:vs.length=cs.length) (hi:(Tryz.prog.info? d).map (·.size)=Xa cs.length) (e:∀v∈vs,v.oneCell'=Xc)
  (h:∀w',zn w' b t vs->w.grownBy w' (Xa b)->w'.heap.size=w.heap.size->K undef w'):zR prog o a w K:=by
 unfold zR;have g:(execOp a.eval o).run prog w= .ok .skip (w.setCells b 0 vs):=by
  have:=run_storeAt_mid (P:=prog) w b 0 d vs.toArray (by simpa [c]using hb.box.there) (by simpa [c]using hi) (all_oneCell_toArray e)
  simp only[execOp,f,hp,i,Sem.run_bind,this,rA,Sem.run_pure]
 rw[g];have hp:=hb.part (ds:=vs) (o:=0) (by omega)
 rw[J7 c]at hp;exact h _ hp (zV b vs 0 w).1 (zV b vs 0 w).2
theorem zdF (a:∀p∈m.db,p.length=8) (b:∀q∈m.dq,q.2.length=8) (file idx:Int):(Qk m file idx).length=8:=by
 unfold Qk
 split
 ·rfl
 simp[Qh,zjb a b]
theorem zpb {f:Fl} {a:Int} (d:m.fl[fi]? =Xa f) (b:f.bl[ix]? =Xa a):Qk m fi ix=if a<0 then z4 else Qh (qY m.db m.dq a) ix f.size:=by
 have c:m.fl.getD ((fi:Int).toNat) ⟨0,[]⟩=f:=by rw[tN,gD,d];rfl
 have d:zhf m fi ix=a:=by unfold zhf;rw[c,tN,gD,b];rfl
 have a:QD m fi=f.size:=by unfold QD;rw[c]
 unfold Qk;rw[d,a]
theorem zqr {a:List Fl} {f:Fl} {d:Int} (c:a[fi]? =Xa f) (b:f.bl[ix]? =Xa d):zoQ a fi ix=Xc:=by
 have d:=(gS.1 c).1;have d:=(gS.1 b).1;have b:a.getD ((fi:Int).toNat) ⟨0,[]⟩=f:=by rw[tN,gD,c];rfl
 unfold zoQ;rw[b,j9.2 ⟨by omega,by omega⟩,j9.2 ⟨by omega,by omega⟩]
 rfl
theorem zc0 (V) (m:Ma) (fi ix:Nat) (f:Fl) (d:Int) (w) (g:zE w V m) (x:m.fl[fi]? =Xa f) (b:f.bl[ix]? =Xa d) (a:ix<=1000) (H:0<=f.size/\f.size<=1000):
  Xp prog 155 #[Xi (mL V m).toArray,I6 (fi:Int),I6 (ix:Int)] w fun e w'=>e= Xl (Xi (pgc (Qk m fi ix)).toArray)/\(Qk m fi ix).length=8/\zb w w':=by
 have l:=dD<|fun W (a:zb w W)=>zja _ m.db m.dq d W ⟨_,_,rfl,(g.grew a).db,(g.grew a).dq⟩
 have r:Xo (∀W,zb w W->Xp prog 119 #[Xi #[V.fl.x,I6 m.cnt],I6 (fi:Int),I6 (ix:Int)] W fun e w'=>e= Xl (Xh Xc)/\zb W w'):=dD<|fun W a=>by
  have:=zaN (V.fl.x) m.fl m.cnt fi ix W (g.grew a).fl;rw[zqr x b]at this;exact this
 have u:Xo ((qY m.db m.dq d).length=8):=zjb g.db.2.1 g.dq.2.1;have j:Xo ((Qk m fi ix).length=8):=zdF g.db.2.1 g.dq.2.1 _ _;have a:=dD<|zpb x b;obtain⟨a6,c⟩:=kA (Qk m fi ix);rw[c.out]at a j⊢;obtain⟨⟨X,Z,Y⟩,a0,L,N,S,T,⟨h,k,F⟩,⟨C,E,D⟩,M⟩:=V;dsimp only[mL]at l r⊢;obtain⟨-,-,-,-,-,-,K,-,-⟩:=g.ns;dsimp only at K;obtain⟨_,_,q,_,z⟩:=qq.rows g.fl;have c:Xo (zjW w h m.fl):=show zjW _ _ _ by
  simp only[vJ]at q;rw[q.1];exact z
 have h:fi<k:=by rw[K];exact(gS.1 x).1
 obtain⟨R,rfl,P,U,t,y⟩:=c.out fi f x;have i:=dD y
 obtain⟨_,_,p,s⟩:=t.nums;have G:=(gS.1 b).1;obtain⟨n,h,c⟩:=s ix d b;have B:Xo (P=Xa n/\∀W,zb w W->W.cell? (n.add ix)=Xa (I6 d)):=dD<|⟨by simp only[vJ]at p;rw[p.1];exact h,c⟩
 obtain⟨Q,A⟩:=kA f.bl.length;rw[A.out]at G i;clear g K q z x b y t p s h c;obtain⟨a5,b⟩:=kA f.size;rw[b.out]at i a H;have b:(fi:Int)< (k:Int):=by omega
 have b:(ix:Int)< (Q:Int):=by omega
 obtain⟨s,b⟩:=kB ((w.alloc (Xk #[O X Z Y,I6 m.hand,a0.x,L.x,N.x,S.x,T.x,O (Xa R) k F,I6 m.cnt,O C E D,M.x] 45)).alloc (Xk #[U8 0,U8 0,U8 0,U8 0,U8 0,U8 0,U8 0,U8 0] 91));have q:=gD2 b
 have h:=x2a b
 have t:Xo (Box s (w.heap.size+1) (pgc z4)):=dD<|by rw[<-b];exact Box.top _ (pgc z4) _ (by simp)
 have g:=dD b;clear b
 go_enter func155,ntmps155
 go_upto_region 1 with fail;rw[g.out];have p:=h.c 7 rfl;have g:=h.c 8 rfl;have b:=r.out s q.out;go_wp2_with fail;refine b.mono ?_;clear b p g;rintro W k ⟨rfl,b⟩;have r:=dD (q.trans b);have q:=dD (h.grew b);have s:=dD (t.grew b);clear b;have p:=q.c 7 rfl;obtain⟨t,y⟩:=i.out k r.out;go_upto_region 4 with fail;obtain⟨b,g⟩:=kA k.heap.size;obtain⟨h,b⟩:=kB (k.alloc (Xk #[I6 a5,O P Q U] 159));have i:=gP b
 have X:=xP b g
 have A:=dD (r.trans i);have x:=dD (q.grew i);have a2:=dD (s.grew i);rw[b,g.out];clear b i t y p;obtain⟨b,c⟩:=B.out;subst b;have b:=dD c
 clear c;have p:=X.c 1 rfl;have i:=b.out h A.out
 by_cases c:d<0
 ·rw[kE c]at a
  go_wp2_with (refine zz rfl 91 (.tmp 6) (.tmp 29) rfl (w.heap.size+1) rfl (pgc z4) rfl a2 rfl zsm (ju _) ?_)
  intro Y s t _;have k:Xo (zb w Y):=dD<|zd A t (by omega)
  go_wp2;refine bodyPost_ret (zG rfl _ rfl s underlying91 rfl zsm) rfl ⟨by rw[a.out],by rw[a.out];rfl,k⟩
 rw[kF c]at a;have g:decide (d<0)=Xd:=decide_eq_false c;go_upto_region 6 with fail;clear p i c g;obtain⟨p,c⟩:=kA (qY m.db m.dq d);rw[c.out]at a u l;obtain⟨H,K,L,M,N,P,Q,R,rfl⟩:=zfh p u.out;obtain⟨g,c⟩:∃g:Xn->Prop,Xo (∀u,g u↔zb h u):=⟨fun u=>zb h u,fun _=>Iff.rfl⟩
 have r:=(c _).2 (gW _)
 have F:=x.h c 5 rfl
 have G:=x.h c 6 rfl
 have D:=X.h c 1 rfl
 have C:∀y:zk g,y.world.cell? (n.add ix)=Xa (I6 d):=fun y=>b.out _ (A.trans ((c _).1 y.holds))
 have a0:Nonempty (zk g):=⟨⟨_,r⟩⟩;refine JC (I:=g) 14 [(7,⟨.const (Xh Xd),fun b=>b= Xm #[Xi #[U8 H,U8 K,U8 L,U8 M,U8 N,U8 P,U8 Q,U8 R],I6 (zr m.db.length m.dq d)],fun _ _ _=>True,fun p q=>zb p q,fun _=>True⟩),(11,⟨.const (Xh Xd),fun b=>∃g,b= Xj (Xa ⟨g,0,Xb⟩),fun _ b u=>∃g x,b= Xj (Xa ⟨g,0,Xb⟩)/\h.heap.size<=g/\zn u g 91 x/\x.length=8,fun p q=>zb p q,fun _=>True⟩),(12,⟨.tmp 8,fun _=>True,fun W _ u=>∃g,W= Xj (Xa ⟨g,0,Xb⟩)/\h.heap.size<=g/\Box u g (pgc [H,K,L,M,N,P,Q,R]),fun p q=>∃g,h.heap.size<=g/\p.grownBy q (Xa g)/\zn q g 91 (pgc [H,K,L,M,N,P,Q,R]),fun _=>True⟩)] r zZ (by kernel_rfl) (by kernel_rfl) rfl rfl (by decide) ?hS ?hp ?hpre ?hpr0 ?_
 case hS=>
  intro h h;simp only[mC,nM,or_false]at h
  rcases h with rfl|rfl|rfl
  ·exact⟨_,rfl⟩
  ·exact⟨_,0,rfl⟩
  exact⟨Xh Xc,trivial⟩
 case hp=>
  intro a1 aa a7 a4 u U n h W b p q i E;have h:=z9 u;have b:=z9 U;clear u U;simp only[mC,pJ,nM,or_false]at h b
  rcases h with⟨rfl,rfl⟩|⟨rfl,rfl⟩|⟨rfl,rfl⟩
  ·trivial
  ·obtain⟨g,x,y,z,B,a3⟩:=E
   rcases b with⟨rfl,rfl⟩|⟨rfl,rfl⟩|⟨rfl,rfl⟩
   ·exact⟨g,x,y,z,B.grew i,a3⟩
   ·exact absurd rfl n
   obtain⟨Z,a8,a8,a9⟩:=i
   by_cases e:g=Z
   ·subst e;exact⟨g,_,y,z,a9,rfl⟩
   exact⟨g,x,y,z,B.beside a8 (fun a1 u=>by cases u;exact e),a3⟩
  obtain⟨g,y,z,B⟩:=E
  rcases b with⟨rfl,rfl⟩|⟨rfl,rfl⟩|⟨rfl,rfl⟩
  ·exact⟨g,y,z,B.grew i⟩
  ·exact⟨g,y,z,B.grew i⟩
  exact absurd rfl n
 case hpre=>
  intro a7 a4 a1 aa U u n p q i i;have b:=z9 U;simp only[mC,pJ,nM,or_false]at b
  rcases b with⟨rfl,rfl⟩|⟨rfl,rfl⟩|⟨rfl,rfl⟩ <;> trivial
 case hpr0=>
  intro a1 a4 u;have h:=z9 u;simp only[mC,pJ,nM,or_false]at h
  rcases h with⟨rfl,rfl⟩|⟨rfl,rfl⟩|⟨rfl,rfl⟩ <;> trivial
 simp only[Yn,Yo];iterate 7 refine Zi ?_
 refine jw rfl rfl (fun w' b i n=>?_) (fun q h=>?_)
 ·refine zR.call [Xi #[S.x,T.x],I6 d] rfl func184 rfl rfl rfl ?_;refine(l w' (A.trans ((c _).1 b))).mono ?_;rintro e p ⟨rfl,d⟩;exact⟨_,rfl,(c _).2 (((c _).1 b).trans d),d,rfl,trivial⟩
 subst h;simp only[Xy,sB,sS,sZ];iterate 3 refine Zi ?_
 refine jw rfl rfl (fun w' b i n=>?_) (fun q h=>?_)
 ·refine zR.step (v:= Xj (Xa ⟨w'.heap.size,0,Xb⟩)) (w':=w'.alloc (Xk #[U8 0,U8 0,U8 0,U8 0,U8 0,U8 0,U8 0,U8 0] 91)) (by clear F G D C;simp only[execOp];go_simp) ⟨(c _).2 (((c _).1 b).trans (za _ _)),za _ _,⟨_,rfl⟩,_,_,rfl,bS ((c _).1 b),zn.top _ (pgc z4) _ rfl,rfl⟩
 obtain⟨l,rfl⟩:=h;simp only[Xy,sB,sS,sZ];refine jw rfl rfl (fun w' b i n=>?_) (fun q h=>?_)
 ·obtain⟨g,x,g,d,h,i⟩:=n 11 (by kernel_rfl)
  simp only[Value.pointer.injEq,Option.some.injEq,Addr.mk.injEq,and_true]at g;subst g;refine zR.storeAllT 91 (.tmp 8) (.tmp 39) rfl l rfl (pgc [H,K,L,M,N,P,Q,R]) rfl h (by rw[i];rfl) (by rw[i];exact zsm) (ju _) fun p i p q=>?_
  exact⟨(c _).2 (zd ((c _).1 b) p d),⟨l,d,p,i⟩,trivial,l,rfl,d,i.box⟩
 simp only[Xy];refine Zi ?_
 refine zbh fun u i n=>?_
 obtain⟨Z,g,h,d⟩:=n 12;have b:(Value.pointer (Xa ⟨l,0,Xb⟩):Xq)= Xj (Xa ⟨Z,0,Xb⟩):=g;simp only[Value.pointer.injEq,Option.some.injEq,Addr.mk.injEq,and_true]at b;subst b;have b:=(c _).1 i;have p:=dD (A.trans b);have c:=dD (X.grew b);have x:=dD (a2.grew b);have q:=dD d;clear n i r a0 F G D C b g d h;have hcut:=zda [H,K,L,M,N,P,Q,R] (a5 -(ix:Int)*8) u rfl (by omega) (by omega)
 rw[znt]at hcut;rw[<-a.out]at hcut;have a:=c.c 0 rfl
 go_wp2_with (refine zo rfl 91 (.tmp 8) rfl l rfl q underlying91 rfl zsm ?_)
 refine hcut.mono ?_;clear hcut a;rintro W a ⟨rfl,-,a⟩;have c:=dD (x.grew a);have b:=dD (p.trans a);clear a
 go_wp2_with (refine zz rfl 91 (.tmp 6) (.tmp 47) rfl (w.heap.size+1) rfl (pgc a6) rfl c (by rw[ZB,j.out];rfl) zsm (ju _) ?_)
 intro Y s t _;have k:Xo (zb w Y):=dD<|zd b t (by omega)
 go_wp2;refine bodyPost_ret (zG rfl _ rfl s underlying91 rfl (by rw[ZB,j.out];exact zsm)) rfl ⟨rfl,j,k⟩
def zdO (m:Ma) (k:Nat) (s:Sp):Ma:={ m with sp:=zen m.sp k ⟨Xc,s.ars,Jo⟩ }
def JD (m:Ma) (k q:Nat) (l:List Int):Ma:=l.foldl (fun m n=>zca m k q n) m
theorem zhY (m) (k q:Nat) (l) (n:Int):JD m k q (l++ [n])=zca (JD m k q l) k q n:=by simp[JD]
theorem zkf (m:Ma) (k q:Nat) (n:Int):(zca m k q n).sp.length=m.sp.length:=by unfold zca;rw[zaj,zaj,zbl]
theorem zem (m:Ma) (k q:Nat):∀(l:List Int),(JD m k q l).sp.length=m.sp.length:=by
 intro l;unfold JD
 induction l generalizing m with
 | nil=>rfl
 | cons n l a=>rw[List.foldl_cons,a,zkf]
def zcw (m:Ma) (k q:Nat) (s:Sp):Ma:=JD (zdO m k s) k q (z6 s.tb Zv 64)
theorem ChW.doneD {w:Xn} {p:Nat} (h:ChW w0 p w V m) (o:zm (fun k=>k<w0.heap.size) w W):zE W V m:=by
 have c:zm (Dr w0.heap.size p V) w W:=o.wide fun k a=> .inl a
 have r:=h.rest W c;obtain⟨n,f,i,j⟩:=h.sp;have a:∀{b:Type} {E:Elt b} {v:Xq} {l:List b},zc E w0.heap.size w v l->zl E W v l:=fun b=>zc.at (base:=w0.heap.size) ⟨jh b.1 o (fun g d e=>by have:=(b.lt g d).1;have e:g<w0.heap.size:=e;omega),b.2⟩
 exact⟨a h.fs,r.sl,r.sb,r.sq,r.db,r.dq,r.fl,a h.ca,⟨n,a f,i,fun i x s b a=>j i x s b a W c⟩⟩
theorem zk6 (V m) (w:Xn) (n:zE w V m) (j:maW m=0) (R:Bool->Ma->Prop) (l:∀w0 W p g,ChW w0 p W g m->Xp prog 160 #[Xj (Xa ⟨p,0,Xb⟩),eS] W fun e w'=>∃b m',e= Xl (Xh b)/\R b m'/\Chg w0 p W g m' w'):
  Xp prog 95 #[Xi (mL V m).toArray] w fun e w'=>(∃(b:Bool) (m':Ma) (V':MaV),R b m'/\e= Xl (Xm #[Xi (mL V' m').toArray,Xh b,I6 0])/\∀W,zm (fun k=>k<w.heap.size) w' W->zE W V' m')/\zb w w':=by
 obtain⟨i,a⟩:=kB ((w.alloc (Xk (mL V m).toArray 45)).alloc (Xk zM.toArray 45));have x:=gD2 a
 obtain⟨d,f⟩:=kA w.heap.size;have y:Xo (zn i d 45 (mL V m)):=dD<|by rw[<-a];exact(zn.top w (mL V m) _ f.symm).grew (za _ _)
 have C:Xo (zn i (d+1) 45 zU):=dD<|by rw[<-a];exact zn.top _ zU _ (by have:=f.out;simp;omega)
 have A1:=dD<|n.grew x.out;have h:=dD a;have c:=QA V m i A1 j;clear a n j;have A:=dD l
 clear l
 go_enter func95,ntmps95
 go_upto_region 1 with fail;rw[h.out,f.out];obtain⟨h,i,j,n,q,r,s,t,u,v,a⟩:=y.box.c11;go_wp2_with fail;refine c.mono ?_;clear c h i j n q r s t u v a;rintro e l ⟨rfl,c⟩;have B:=dD (y.grew c);have z:=dD (C.grew c);have A2:=dD (A1.grew c);have y:=dD (x.trans c);clear c;have c:=zjG V m l A2.out;obtain⟨h,i,j,n,q,r,s,t,u,v,a⟩:=B.box.c11;go_wp2_with fail;refine c.mono ?_;clear c h i j n q r s t u v a;rintro e h ⟨p,g,rfl,a⟩;have n:=dD a;have c:=dD z.box.lt;have t:=dD<|z.grew a.gr;clear a;have a:=A.out l h p g n.out;go_wp2_with fail;refine a.mono ?_;clear a;rintro e s ⟨b,h,rfl,a,g,q,r,v⟩;have i:=dD q;have j:=dD a;have u:Xo (zn s (d+1) 45 zU):=t.outD r (fun e=>by have:=n.dlo _ e;have:=c.out;omega)
 clear q r v a;obtain⟨q,r,s,t,v,x,z,A,B,C,n⟩:=i.box.box.c11;have a:Xo (∀D∈chL g h,D.oneCell'=Xc):=dD<|by simp[chL,Value.oneCell']
 go_wp2_with (refine zj rfl 45 (.tmp 2) (.tmp 21) rfl (d+1) rfl (chL g h) rfl u rfl (by kernel_rfl) a.out ?_)
 clear q r s t v x z A B C n;intro n q a _;have r:Xo (zb w n):=dD<|zd (y.trans i.gr) a (by have:=f.out;omega)
 have f:=dD q;have s:Xo (∀W,zm (fun k=>k<w.heap.size) n W->zE W g h):=show∀W,_ from fun W n=>i.doneD ((zm.grown a (show d+1<l.heap.size from c.out)).trans (n.wide fun k c=>Ys c (bS y)))
 clear q a;go_wp2;refine bodyPost_ret (zN rfl _ rfl f.box underlying45 rfl (by kernel_rfl)) rfl ⟨⟨b,h,g,j,rfl,s⟩,r⟩
theorem Zm {w:Xn} {p:Nat} (h:ChW w0 p w V m) (q:Nat) (t:q<m.sp.length) (n:Int):
  Xp prog 136 #[Xj (Xa ⟨p,0,Xb⟩),Xi #[I6 (q:Int),I6 n]] w fun e w'=>e= Xl (enV (Zr m q n))/\zb w w':=by
 obtain⟨s,u⟩:∃s,m.sp[q]? =Xa s:=⟨_,gE t⟩;obtain⟨b,f,z,A⟩:=h.sp;obtain⟨x,d⟩:∃x,b[q]? =Xa x:=⟨_,gE (by rw[z];exact t)⟩
 have g:=dD<|A q x s d u w (zm.refl _ _);obtain⟨B,a⟩:=kA b.length;obtain⟨l,C,b⟩:=f.formS (by omega)
 rw[a.out]at b;have c:=h.box.box.c 10 rfl;rw[b]at c f;have i:(q:Int)< (B:Int):=by have:=a.out;omega
 have a:=dD c;have i:=dD h.box;have a:=(f.one d).sp10;rw[Addr.add_lit,zA]at a;have j:Xo (∀W,zb w W->zly W ⟨l,q*10,Xb⟩ x):=show∀W,_ from fun W r=>by
  have:=((f.grew r).one d).sp10;rw[Addr.add_lit,zA]at this;exact this
 have k:=dD b;obtain⟨E,v⟩:=kA (Zr m q n);have D:Xo (∀W,zb w W->Xp prog 69 #[Xi #[x.t0.x,x.t1.x,x.t2.x,x.t3.x,x.t4.x,x.t5.x,x.t6.x,x.t7.x],I6 n] W fun e w'=>e= Xl (enV E)/\zb W w'):=show∀W,_ from fun W r=>by
  have y:=QK x.tab s.tb n W (g.tb.grew r);rw[show zd8 s.tb n=E from by rw[<-v.out];unfold Zr;rw[Sp.getD_of u]]at y
  exact y
 rw[v.out];clear h t u f z A d b c a;obtain⟨s,b⟩:=kB ((w.alloc (Xk #[I6 (q:Int),I6 n] 142)).alloc (Xk #[I6 0,I6 0,Xh Xd] 127));have g:=gD2 b
 have h:=x2a b
 have t:=x2b b
 have c:=dD b;clear b
 go_enter func136,ntmps136
 go_upto_region 1 with fail;rw[c.out];obtain⟨F,r⟩:=kA w.heap.size;rw[r.out]at h t⊢;obtain⟨f,b⟩:∃f:Xn->Prop,Xo (∀u,f u↔zb s u):=⟨fun u=>zb s u,fun _=>Iff.rfl⟩
 have c:=(b _).2 (gW _)
 have G:∀y:zk f,y.world.cell? ⟨p,10,Xb⟩=Xa (O (Xa ⟨l,0,Xb⟩) B C):=fun y=>by rw[<-k.out];exact(i.box.grew (g.trans ((b _).1 y.holds))).c 10 rfl
 have i:=h.h b 0 rfl
 have k:=h.h b 1 rfl
 have a:∀y:zk f,zly y.world ⟨l,q*10,Xb⟩ x:=fun y=>j.out _ (g.trans ((b _).1 y.holds))
 have j:=fun y=>(a y).2.2.1
 have l:=fun y=>(a y).2.2.2.1
 have s:=fun y=>(a y).2.2.2.2.1
 have v:=fun y=>(a y).2.2.2.2.2.1
 have z:=fun y=>(a y).2.2.2.2.2.2.1
 have A:=fun y=>(a y).2.2.2.2.2.2.2.1
 have B:=fun y=>(a y).2.2.2.2.2.2.2.2.1
 have C:=fun y=>(a y).2.2.2.2.2.2.2.2.2
 dsimp only at j l s v z A B C;clear a;have h:Nonempty (zk f):=⟨⟨_,c⟩⟩;refine z7 (I:=f) 13 [(12,fun a=>a=enV E)] (fun u=>True) c trivial zZ (by kernel_rfl) rfl rfl (by decide) ?hS (by kernel_rfl) ?_
 case hS=>
  intro x d;simp only[mC,nM,or_false]at d;subst d;exact⟨_,rfl⟩
 simp only[Yn,Yo];refine zt ?_
 refine qa (.tmp 5) ⟨p,0,Xb⟩ rfl rfl rfl rfl ?_;simp only[Xy,sB,sS,sZ];iterate 10 refine zt ?_
 refine zK rfl rfl (fun _ u=>True) (fun w' a d=>?_) (fun d f=>?_)
 ·refine zR.call [Xi #[x.t0.x,x.t1.x,x.t2.x,x.t3.x,x.t4.x,x.t5.x,x.t6.x,x.t7.x],I6 n] rfl func69 rfl rfl rfl ?_;refine(D w' (g.trans ((b _).1 a))).mono ?_;rintro e d ⟨rfl,d⟩;exact⟨_,rfl,(b _).2 (((b _).1 a).trans d),rfl,trivial⟩
 cases f;simp only[Xy,sB,sS,sZ];refine jp fun a a d=>?_
 have f:=dD<|(b _).1 a;have b:=dD (t.grew f);clear a d c G i k j l s v z A B C h;unfold enV;refine zz rfl 127 (.tmp 4) (.tmp 17) rfl (F+1) rfl [I6 E.kind,I6 E.n,Xh E.wr] rfl b rfl (by kernel_rfl) (by simp[Value.oneCell']) ?_
 intro c a b _;have d:Xo (zb w c):=dD<|zd (g.trans f) b (by have:=r.out;omega)
 have c:=dD a;clear a b;go_wp2;refine bodyPost_ret (zG rfl _ rfl c underlying127 rfl (by kernel_rfl)) rfl ⟨rfl,d⟩
theorem hoF (a) (c:Nat) (fs:List Fr) (h:Int) (i:Nat) (q:Fr) (u:Int) (w:Xn) (E:qh w (O a fs.length c) fs) (S:Zb fs h=0) (P:fs[i]? =Xa q) (bo:(q.r == 0)=Xd) (bn:¬u< -q.r) (be:¬1000 - q.r<u) (au:q.r+u=0):
  Xp prog 173 #[Xi #[O a fs.length c,I6 h],I6 (i:Int),I6 u] w fun e w'=>∃b,e= Xl (Xm #[Xi #[b,I6 h],I6 0])/\zi w.heap.size w' b (fs.set i frF)/\zb w w':=by
 have a0:=dD E;have b5:=dD au;clear au;have Z:∀W,zb w W->Xp prog 58 #[Xi #[O a fs.length c,I6 h]] W fun e w'=>e= Xl (I6 (Zb fs h))/\zb W w':=fun W ae=>by rw[S];exact ZV a c fs h W (a0.grew ae) S
 have A:∀W,Xp prog 109 #[I6 (i:Int),I6 (fs.length:Int)] W fun e w'=>e= Xl (Xh (inB (i:Int) fs.length))/\w'=W:=fun W=>Zl (i:Int) _ W
 have ah:∀W,zb w W->Xp prog 51 #[Xi #[O a fs.length c,I6 h]] W fun e w'=>∃b,e= Xl (Xi #[b,I6 h])/\zi W.heap.size w' b fs/\zb W w':=fun W ae=>QF a c fs h W (a0.grew ae)
 have s:=zbp ((ji S).2.1 q (mG P));have t:=(gS.1 P).1;obtain⟨bk,bl,af,x⟩:=E.frs;cases af;obtain⟨b6,rfl,ar⟩:=x i q P;have b4:=dD ar;have am:=dD P;clear x ar P;simp only[show inB (i:Int) fs.length=Xc from by simp[inB];exact t]at A
 have M:=E.short;clear E;simp only[S]at Z;clear S;obtain⟨y,F⟩:=kA fs.length;simp only[F.out]at Z a0 M A ah t⊢;have bd:(i:Int)< (y:Int):=by omega
 obtain⟨ba,bb⟩:=s;obtain⟨an,j⟩:=kB ((w.alloc (Xk #[O (Xa b6) y c,I6 h] 32)).alloc (Xk #[eS,I6 0] 32));have g:=gD2 j
 have X:=x2a j
 have ao:=x2b j
 have a1:=dD j;clear j
 go_enter func173,ntmps173
 go_upto_region 1 with fail;rw[a1.out];have a9:=X.c 0 rfl;have aa:=X.c 1 rfl;go_wp2_with fail;refine(Z _ g).mono ?_;rintro e a5 ⟨rfl,ap⟩;have B:=dD ap;clear ap a9 aa Z;obtain⟨-,-,-,-,-,-,-,-,b7,-,-,-,-⟩:=b4.out a5 (g.trans B);have a9:=(X.grew B).c 0 rfl;have aa:=(X.grew B).c 1 rfl
 go_wp2_with (go_at_call 109;refine(A _).mono ?_;rintro e w' ⟨rfl,Q⟩;rw[Q];clear Q w')
 refine(ah _ (g.trans B)).mono ?_;rintro e C ⟨b,rfl,f,ac⟩;obtain⟨l,D,rfl⟩:=f.formS (by rw[F.out];omega)
 rw[F.out]at f⊢;have a2:=dD f;have al:=dD (B.trans ac);have ab:=dD<|bS ac;clear f ac a9 aa ah b7;have bc:=a2.lt l rfl;have bf:l≠C.heap.size:=by omega
 have u8:=(a2.grew (za C (Xk #[O (Xa ⟨l,0,Xb⟩) y D,I6 h] 32))).frc am 8 rfl
 go_wp2_with (refine qt rfl (.tmp 61) (.tmp 59) 3 rfl a5.heap.size (O (Xa ⟨l,0,Xb⟩) y D) fs (a2.grew (za _ _)) l i 8 rfl q { q with r:=q.r+u } am.out [I6 (q.r+u)] (by kernel_rfl) rfl (Yl rfl) (by intro bp av;simp at av;subst av;rfl) _ rfl (by simp) _ rfl rfl ?_)
 intro H T n aj;have G:=dD T;have b9:=ab.out;have b8:=bS B.out;have bh:=ao.lt;have Y:Xo (Box H C.heap.size [O (Xa ⟨l,0,Xb⟩) y D,I6 h]):=(Box.top C _ _ rfl).beside n (fun L d=>by cases d;omega)
 have m:Xo (Box H (w.heap.size+1) [eS,I6 0]):=((ao.grew al).alloc _).beside n (fun L d=>by cases d;omega)
 have b1:Xo (zb an H):=zX (al.trans (za _ _)) n (fun L d=>by cases d;omega)
 have I:Xo ((fs.set i { q with r:=q.r+u })[i]? =Xa { q with r:=q.r+u }):=dD<|by rw[sF (by rw[F.out];exact t)]
 clear T n aj u8;have u8:=G.frc I 8 rfl;have aw:=Y.c 0 rfl;have ax:=Y.c 1 rfl;have ay:=m.c 0 rfl;have az:=m.c 1 rfl;have b0:=m.f;simp only at u8;have bg:(q.r+u == 0)=Xc:=by simp[b5.out]
 go_wp2;have ai:∀V:zg H,V.world.cell? ⟨C.heap.size,0,Xb⟩=Xa (O (Xa ⟨l,0,Xb⟩) y D):=fun V=>(Y.grew V.grew).c 0 rfl
 have N:Nonempty (zg H):=⟨⟨_,zb.refl _⟩⟩;clear u8 aw ax ay az b0;refine jO 5 [(3,⟨fun v=>v= Xi (frv frF).toArray,fun _ _=>True⟩)] zZ (by kernel_rfl) rfl rfl (by decide) ?_ ?_ ?_
 ·intro V R
  simp at R
  subst R;exact⟨_,rfl⟩
 ·intro V R
  simp at R
  subst R;exact fun _ _ _ _ h=>h
 simp only[Yn,Yo];iterate 3 refine zf ?_
 refine zC rfl rfl (fun w' bm aq=>?_) (fun bq E=>?_)
 ·refine zR.call [] rfl func26 rfl rfl rfl ?_;refine(Jc w').mono ?_;rintro e bi ⟨rfl,ag⟩;exact⟨_,rfl,ag,rfl,trivial⟩
 subst E;simp only[Xy,sB,sS,sZ,frv,frF,pg0];refine zf ?_
 refine zP fun bj k aq=>?_
 have a3:=dD (G.grew k);have a8:=dD (Y.grew k);have a7:=dD (m.grew k);have b2:=dD (b1.trans k);clear aq ai k N
 go_wp2_with (refine Qp rfl (.tmp 73) (.tmp 72) rfl a5.heap.size _ _ a3 l i rfl frF (by rw[List.length_set,F.out];exact t) _ rfl (by simp) _ rfl rfl ?_)
 intro a6 U p ak;have a4:=dD U;have K:Xo (Box a6 C.heap.size [O (Xa ⟨l,0,Xb⟩) y D,I6 h]):=a8.beside p (fun L d=>by cases d;omega)
 have z:Xo (Box a6 (w.heap.size+1) [eS,I6 0]):=a7.beside p (fun L d=>by cases d;omega)
 have b3:Xo (zb an a6):=zX b2 p (fun L d=>by cases d;omega)
 clear U p ak;have aw:=K.c 0 rfl;have ax:=K.c 1 rfl;have ay:=z.c 0 rfl;have az:=z.c 1 rfl;have b0:=z.f;go_wp2;refine bodyPost_ret (v:= Xm #[Xi #[O (Xa ⟨l,0,Xb⟩) y D,I6 h],I6 0]) (by simp[results,Tryz.results173,go_sem, *]) rfl ⟨_,rfl,?_,?_⟩
 ·exact((a4.setCell (a:=⟨w.heap.size+1,0,Xb⟩) (by show w.heap.size+1<_;omega) _).setCell (a:=⟨w.heap.size+1,1,Xb⟩) (by show w.heap.size+1<_;omega) _).base (by have:=bS g.out;omega)
 exact zL (zL (g.trans b3) (by simp) _) (by simp) _
theorem hoG (a) (c:Nat) (fs:List Fr) (h:Int) (i:Nat) (q:Fr) (m:Int) (w:Xn) (L:qh w (O a fs.length c) fs) (D:Zb fs h=0) (B:fs[i]? =Xa q) (au:(q.r == 0)=Xd) (ar:¬m< -q.r) (am:¬1000 - q.r<m) (av:(q.r+m == 0)=Xd):
  Xp prog 173 #[Xi #[O a fs.length c,I6 h],I6 (i:Int),I6 m] w fun e w'=>∃b,e= Xl (Xm #[Xi #[b,I6 h],I6 0])/\zi w.heap.size w' b (fs.set i { q with r:=q.r+m })/\zb w w':=by
 have P:=dD L;have M:∀W,zb w W->Xp prog 58 #[Xi #[O a fs.length c,I6 h]] W fun e w'=>e= Xl (I6 (Zb fs h))/\zb W w':=fun W Y=>by rw[D];exact ZV a c fs h W (P.grew Y) D
 have t:∀W,Xp prog 109 #[I6 (i:Int),I6 (fs.length:Int)] W fun e w'=>e= Xl (Xh (inB (i:Int) fs.length))/\w'=W:=fun W=>Zl (i:Int) _ W
 have I:∀W,zb w W->Xp prog 51 #[Xi #[O a fs.length c,I6 h]] W fun e w'=>∃b,e= Xl (Xi #[b,I6 h])/\zi W.heap.size w' b fs/\zb W w':=fun W Y=>QF a c fs h W (P.grew Y)
 have l:=zbp ((ji D).2.1 q (mG B));have u:=(gS.1 B).1;obtain⟨ap,aq,Z,n⟩:=L.frs;cases Z;obtain⟨ae,rfl,a8⟩:=n i q B;have ab:=dD a8;have a2:=dD B;clear n a8 B;simp only[show inB (i:Int) fs.length=Xc from by simp[inB];exact u]at t
 have A:=L.short;clear L;simp only[D]at M;clear D;obtain⟨y,F⟩:=kA fs.length;simp only[F.out]at M P A t I u⊢;have al:(i:Int)< (y:Int):=by omega
 obtain⟨ai,aj⟩:=l;obtain⟨ac,g⟩:=kB ((w.alloc (Xk #[O (Xa ae) y c,I6 h] 32)).alloc (Xk #[eS,I6 0] 32));have f:=gD2 g
 have H:=x2a g
 have a4:=x2b g
 have Q:=dD g;clear g
 go_enter func173,ntmps173
 go_upto_region 1 with fail;rw[Q.out];have T:=H.c 0 rfl;have U:=H.c 1 rfl;go_wp2_with fail;refine(M _ f).mono ?_;rintro e a3 ⟨rfl,a7⟩;have x:=dD a7;clear a7 T U M;obtain⟨-,-,-,-,-,-,-,-,af,-,-,-,-⟩:=ab.out a3 (f.trans x);have T:=(H.grew x).c 0 rfl;have U:=(H.grew x).c 1 rfl
 go_wp2_with (go_at_call 109;refine(t _).mono ?_;rintro e w' ⟨rfl,C⟩;rw[C];clear C w')
 refine(I _ (f.trans x)).mono ?_;rintro e G ⟨b,rfl,d,X⟩;obtain⟨s,K,rfl⟩:=d.formS (by rw[F.out];omega)
 rw[F.out]at d⊢;have R:=dD d;have a1:=dD (x.trans X);have V:=dD<|bS X;clear d X T U I af;have ak:=R.lt s rfl;have an:s≠G.heap.size:=by omega
 have u8:=(R.grew (za G (Xk #[O (Xa ⟨s,0,Xb⟩) y K,I6 h] 32))).frc a2 8 rfl
 go_wp2_with (refine qt rfl (.tmp 61) (.tmp 59) 3 rfl a3.heap.size (O (Xa ⟨s,0,Xb⟩) y K) fs (R.grew (za _ _)) s i 8 rfl q { q with r:=q.r+m } a2.out [I6 (q.r+m)] (by kernel_rfl) rfl (Yl rfl) (by intro b1 a9;simp at a9;subst a9;rfl) _ rfl (by simp) _ rfl rfl ?_)
 intro S E k a0;have z:=dD E;have ah:=V.out;have ag:=bS x.out;have ao:=a4.lt;have a5:Xo (Box S G.heap.size [O (Xa ⟨s,0,Xb⟩) y K,I6 h]):=(Box.top G _ _ rfl).beside k (fun a6 j=>by cases j;omega)
 have p:Xo (Box S (w.heap.size+1) [eS,I6 0]):=((a4.grew a1).alloc _).beside k (fun a6 j=>by cases j;omega)
 have aa:Xo (zb ac S):=zX (a1.trans (za _ _)) k (fun a6 j=>by cases j;omega)
 have N:Xo ((fs.set i { q with r:=q.r+m })[i]? =Xa { q with r:=q.r+m }):=dD<|by rw[sF (by rw[F.out];exact u)]
 clear E k a0 u8;have u8:=z.frc N 8 rfl;have aw:=a5.c 0 rfl;have ax:=a5.c 1 rfl;have ay:=p.c 0 rfl;have az:=p.c 1 rfl;have b0:=p.f;simp only at u8;go_wp2;refine bodyPost_ret (v:= Xm #[Xi #[O (Xa ⟨s,0,Xb⟩) y K,I6 h],I6 0]) (by simp[results,Tryz.results173,go_sem, *]) rfl ⟨_,rfl,?_,?_⟩
 ·exact((z.setCell (a:=⟨w.heap.size+1,0,Xb⟩) (by show w.heap.size+1<_;omega) _).setCell (a:=⟨w.heap.size+1,1,Xb⟩) (by show w.heap.size+1<_;omega) _).base (by have:=bS f.out;omega)
 exact zL (zL (f.trans aa) (by simp) _) (by simp) _
theorem zag {fs:List Fr} {h k b:Int} (a:jQ fs h k b=0):∃(i:Nat) (q:Fr),k=(i:Int)/\fs[i]? =Xa q/\Zb fs h=0/\q.r≠0/\-q.r<=b/\b<=1000 - q.r/\QI fs h k b=fs.set i (frH q b)/\zmR fs h k b=h:=by
 have b:=a;unfold jQ at a
 split at a
 ·rename_i c
  split at a
  ·rename_i d
   simp only[inB,Xu,decide_eq_true_eq,Bool.not_eq_true',beq_eq_false_iff_ne]at d;obtain⟨⟨e,e⟩,f⟩:=d
   split at a
   ·rename_i d
    have g:k.toNat<fs.length:=by omega
    have e:fs.getD k.toNat fr0=fs[k.toNat]:=by rw[gD,gE g];rfl
    rw[e]at f d;refine⟨k.toNat,fs[k.toNat],by omega,gE g,c,f,d.1,d.2,?_,?_⟩
    ·unfold QI;rw[kE b,e]
    unfold zmR;rw[kE b]
   cases a
  cases a
 rename_i c
 exact absurd a c
theorem zft (a) (c:Nat) (fs:List Fr) (h k d:Int) (w:Xn) (l:qh w (O a fs.length c) fs) (f:jQ fs h k d=0):
  Xp prog 173 #[Xi #[O a fs.length c,I6 h],I6 k,I6 d] w fun e w'=>∃b,e= Xl (Xm #[Xi #[b,I6 h],I6 0])/\zi w.heap.size w' b (QI fs h k d)/\zb w w':=by
 obtain⟨m,q,rfl,i,g,j,n,n,n,_⟩:=zag f;rw[n]
 by_cases f:q.r+d=0
 ·rw[show frH q d=frF from kE f]
  exact hoF a c fs h m q d w l g i (by simpa using j) (by omega) (by omega) f
 rw[show frH q d={ q with r:=q.r+d }from kF f]
 exact hoG a c fs h m q d w l g i (by simpa using j) (by omega) (by omega) (by simpa using f)
theorem zb1 {w:Xn} {p:Nat} (h:ChW w0 p w V m) (z:En) (n:Int) (j:z.kind=1->jQ m.fs m.hand z.n n=0):
  Xp prog 135 #[Xj (Xa ⟨p,0,Xb⟩),Xi #[I6 z.kind,I6 z.n,Xh z.wr],I6 n] w fun e w'=>(∃v,e= Xl v)/\Chg w0 p w V (ZQ m z n) w':=by
 have A:=dD h;obtain⟨l,q,-⟩:=h.at.ns;have x:Xo (z.kind=1->∀W,zb w W->Xp prog 173 #[Xi #[V.f.x,I6 m.hand],I6 z.n,I6 n] W fun e w'=>∃d:Sli,e= Xl (Xm #[Xi #[d.x,I6 m.hand],I6 0])/\zc Qy W.heap.size w' (d.x) (QI m.fs m.hand z.n n)/\zb W w'):=show _->∀W,_ from fun D W f=>by
  have k:=(h.at.grew f).fs;(try simp only[Sli.x]at k⊢);rw[l]at k⊢;refine(zft V.f.a V.f.c m.fs m.hand z.n n W k (j D)).mono ?_;rintro e w' ⟨d,rfl,a,g⟩;have i:zc Qy W.heap.size w' d (QI m.fs m.hand z.n n):=a;obtain⟨b,c,rfl,_⟩:=i.at.rows;exact⟨⟨b,_,c⟩,rfl,a,g⟩
 have X:Xo (∀W,zb w W->Xp prog 174 #[V.s.x,I6 z.n,I6 n] W fun e w'=>∃d:Sli,e= Xl (Xm #[d.x,I6 (jx m.sl z.n n)])/\qj slE W.heap.size w' (d.x) (ZI m.sl z.n n)/\zb W w'):=dD<|fun W f=>by
  have k:=(h.at.grew f).sl;(try simp only[Sli.x]at k⊢);rw[q]at k⊢;refine(zmQ V.s.a V.s.c m.sl z.n n W k).mono ?_;rintro e w' ⟨b,c,rfl,a,g⟩;exact⟨⟨b,_,c⟩,rfl,a,g⟩
 have a7:=dD h.dlt;clear h l q;obtain⟨h,a⟩:=kB (w.alloc (Xk #[I6 z.kind,I6 z.n,Xh z.wr] 127));have r:=gA a
 have T:=xA a
 have b:=dD a;clear a;have a6:=T.c 0 rfl
 go_enter func135,ntmps135
 go_upto_region 1 with fail;rw[b.out];obtain⟨d,U⟩:=kA w.heap.size;rw[U.out]at T a6⊢
 by_cases q:z.kind=1
 ·have D:(z.kind == 1)=Xc:=by rw[q];rfl
  have L:Xo (ZQ m z n={ m with fs:=QI m.fs m.hand z.n n,hand:=m.hand }):=dD<|by
   obtain⟨_,_,_,_,_,_,_,_,_,a⟩:=zag (j q);unfold ZQ;rw[kE q,a]
  have x:=dD<|x.out q;clear q;go_upto_region 3 with fail;clear a6;obtain⟨g,f⟩:∃g:Xn->Prop,Xo (∀u,g u↔Box u d [I6 z.kind,I6 z.n,Xh z.wr]):=⟨fun u=>Box u d [I6 z.kind,I6 z.n,Xh z.wr],fun _=>Iff.rfl⟩
  have c:=(f _).2 (T.grew (gW _))
  have j:zb h h.drew:=show Below _ _ _ from(bR _ _).drew
  have G:∀H:zk g,H.world.cell? ⟨d,1,Xb⟩=Xa (I6 z.n):=fun H=>((f _).1 H.holds).c 1 rfl
  have E:Nonempty (zk g):=⟨⟨_,c⟩⟩;refine z7 (I:=g) 17 [(5,fun v=>v= Xi #[V.f.x,I6 m.hand]),(9,fun v=>∃s:Sli,v= Xm #[Xi #[s.x,I6 m.hand],I6 0]),(16,fun _=>True)] (fun u=>zb h u) c j zZ (by kernel_rfl) rfl rfl (by decide) ?hS (by kernel_rfl) ?_
  case hS=>
   intro ae R;simp only[mC,nM,or_false]at R
   rcases R with rfl|rfl|rfl
   ·exact⟨_,rfl⟩
   ·exact⟨_,je,rfl⟩
   exact⟨undef,trivial⟩
  simp only[Yn,Yo];iterate 2 refine zt ?_
  refine qa (.tmp 12) ⟨p,0,Xb⟩ rfl rfl rfl rfl ?_;simp only[Xy,sB,sS,sZ];iterate 2 refine zt ?_
  refine zK rfl rfl (fun _ u=>zb h u) (fun w' b a=>?_) (fun S l=>?_)
  ·refine zbu 32 (.tmp 15) rfl p 0 rfl [V.f.x,I6 m.hand] ((A.box.box.grew (r.trans a)).mid 0 (fun k v i=>by
    match k,i with
    | 0,i=>exact i
    | 1,i=>exact i)) underlying32 rfl (by kernel_rfl) ⟨b,rfl,a⟩
  cases l;simp only[Xy,sB,sS,sZ];iterate 3 refine zt ?_
  refine zK rfl rfl (fun v u=>∃(s:Sli) (t:Xn),v= Xm #[Xi #[s.x,I6 m.hand],I6 0]/\zb h t/\zb t u/\zc Qy t.heap.size u (s.x) (QI m.fs m.hand z.n n)) (fun w' b a=>?_) (fun S l=>?_)
  ·refine zR.call [Xi #[V.f.x,I6 m.hand],I6 z.n,I6 n] rfl func173 rfl rfl rfl ?_;refine(x w' (r.trans a)).mono ?_;rintro e a5 ⟨s,rfl,a0,N⟩;exact⟨_,rfl,(f _).2 (((f _).1 b).grew N),⟨s,rfl⟩,s,w',rfl,a,N,a0⟩
  obtain⟨s,rfl⟩:=l;simp only[Xy,sB,sS,sZ];iterate 3 refine zt ?_
  refine qa (.tmp 11) ⟨p,0,Xb⟩ rfl rfl rfl rfl ?_;simp only[Xy,sB,sS,sZ];iterate 2 refine zt ?_
  refine zK rfl rfl (fun _ u=>Chg w0 p w V { m with fs:=QI m.fs m.hand z.n n,hand:=m.hand } u) (fun w' b a=>?_) (fun S l=>?_)
  ·obtain⟨x,t,Q,P,W,a4⟩:=a;have F:x=s:=by
    obtain⟨a8,a9,aa⟩:=s;obtain⟨ab,ac,ad⟩:=x;simp only[Value.tuple.injEq,Array.mk.injEq,List.cons.injEq,Value.agg.injEq,vJ,and_true]at Q;obtain⟨rfl,rfl,rfl⟩:=Q;rfl
   subst F;have K:=(r.trans P).trans W;refine jS 32 (.tmp 25) (.tmp 21) rfl p 0 rfl (Xi #[x.x,I6 m.hand]) rfl [x.x,I6 m.hand] rfl (A.box.grew K) (by simp[chL]) (by kernel_rfl) (by simp[Value.oneCell']) ?_
   intro M B i _;have Z:=a7.out p (.inl rfl);exact⟨(f _).2 (((f _).1 b).grown i (by have:=U.out;omega)),trivial,A.setF K (a4.base (nT (bS r) (bS P))) i B⟩
  clear l;try simp only[Xy]
  refine jp fun M C k=>?_
  have y:Xo (Chg w0 p w V (ZQ m z n) M):=dD<|by rw[L.out];exact k
  clear C k c j G E;go_wp2
  (first | go_end0 | ((try simp only[Exit.inBlock,Exit.then]);refine bodyPost_ret (results_none rfl _ _ _) rfl ?_))
  first | exact y.out | exact⟨⟨_,rfl⟩,y⟩
 have D:(z.kind == 1)=Xd:=by simpa using q
 by_cases D:z.kind=2
 ·have Y:(z.kind == 2)=Xc:=by rw[D];rfl
  have L:Xo (ZQ m z n={ m with sl:=ZI m.sl z.n n }):=dD<|by unfold ZQ;rw[kF q,kE D]
  clear q D;go_upto_region 5 with fail;clear a6;obtain⟨g,f⟩:∃g:Xn->Prop,Xo (∀u,g u↔Box u d [I6 z.kind,I6 z.n,Xh z.wr]):=⟨fun u=>Box u d [I6 z.kind,I6 z.n,Xh z.wr],fun _=>Iff.rfl⟩
  have c:=(f _).2 (T.grew (gW _))
  have j:zb h h.drew:=show Below _ _ _ from(bR _ _).drew
  have G:∀H:zk g,H.world.cell? ⟨d,1,Xb⟩=Xa (I6 z.n):=fun H=>((f _).1 H.holds).c 1 rfl
  have E:Nonempty (zk g):=⟨⟨_,c⟩⟩;refine z7 (I:=g) 17 [(5,fun v=>v=V.s.x),(9,fun v=>∃s:Sli,v= Xm #[s.x,I6 (jx m.sl z.n n)]),(16,fun _=>True)] (fun u=>zb h u) c j zZ (by kernel_rfl) rfl rfl (by decide) ?hS (by kernel_rfl) ?_
  case hS=>
   intro ae R;simp only[mC,nM,or_false]at R
   rcases R with rfl|rfl|rfl
   ·exact⟨_,rfl⟩
   ·exact⟨_,je,rfl⟩
   exact⟨undef,trivial⟩
  simp only[Yn,Yo];iterate 2 refine zt ?_
  refine qa (.tmp 30) ⟨p,0,Xb⟩ rfl rfl rfl rfl ?_;simp only[Xy,sB,sS,sZ];iterate 2 refine zt ?_
  refine zK rfl rfl (fun _ u=>zb h u) (fun w' b a=>?_) (fun S l=>?_)
  ·exact zeG 34 (.tmp 33) rfl p 2 rfl (V.s.x) ((A.box.box.grew (r.trans a)).c 2 rfl) underlying34 rfl ⟨b,rfl,a⟩
  cases l;simp only[Xy,sB,sS,sZ];iterate 3 refine zt ?_
  refine zK rfl rfl (fun v u=>∃(s:Sli) (t:Xn),v= Xm #[s.x,I6 (jx m.sl z.n n)]/\zb h t/\zb t u/\qj slE t.heap.size u (s.x) (ZI m.sl z.n n)) (fun w' b a=>?_) (fun S l=>?_)
  ·refine zR.call [V.s.x,I6 z.n,I6 n] rfl func174 rfl rfl rfl ?_;refine(X w' (r.trans a)).mono ?_;rintro e a5 ⟨s,rfl,a0,N⟩;exact⟨_,rfl,(f _).2 (((f _).1 b).grew N),⟨s,rfl⟩,s,w',rfl,a,N,a0⟩
  obtain⟨s,rfl⟩:=l;simp only[Xy,sB,sS,sZ];iterate 3 refine zt ?_
  refine qa (.tmp 29) ⟨p,0,Xb⟩ rfl rfl rfl rfl ?_;simp only[Xy,sB,sS,sZ];iterate 2 refine zt ?_
  refine zK rfl rfl (fun _ u=>Chg w0 p w V { m with sl:=ZI m.sl z.n n } u) (fun w' b a=>?_) (fun S l=>?_)
  ·obtain⟨x,t,Q,P,W,a4⟩:=a;have F:x=s:=by
    obtain⟨a8,a9,aa⟩:=s;obtain⟨ab,ac,ad⟩:=x;simp only[Value.tuple.injEq,Array.mk.injEq,List.cons.injEq,vJ,and_true]at Q;obtain⟨rfl,rfl,rfl⟩:=Q;rfl
   subst F;have K:=(r.trans P).trans W;refine jS 34 (.tmp 43) (.tmp 39) rfl p 2 rfl (x.x) rfl [x.x] rfl (A.box.grew K) (by simp[chL]) (by kernel_rfl) (by simp[Value.oneCell']) ?_
   intro M B i _;have Z:=a7.out p (.inl rfl);exact⟨(f _).2 (((f _).1 b).grown i (by have:=U.out;omega)),trivial,A.setS K (a4.base (nT (bS r) (bS P))) i B⟩
  clear l;try simp only[Xy]
  refine jp fun M C k=>?_
  have y:Xo (Chg w0 p w V (ZQ m z n) M):=dD<|by rw[L.out];exact k
  clear C k c j G E;go_wp2
  (first | go_end0 | ((try simp only[Exit.inBlock,Exit.then]);refine bodyPost_ret (results_none rfl _ _ _) rfl ?_))
  first | exact y.out | exact⟨⟨_,rfl⟩,y⟩
 have Y:(z.kind == 2)=Xd:=by simpa using D
 have L:Xo (ZQ m z n=m):=dD<|by unfold ZQ;rw[kF q,kF D]
 clear q D;have y:Xo (Chg w0 p w V (ZQ m z n) h):=dD<|by rw[L.out];exact Chg.refl A r.out
 go_wp2
 (first | go_end0 | ((try simp only[Exit.inBlock,Exit.then]);refine bodyPost_ret (results_none rfl _ _ _) rfl ?_))
 first | exact y.out | exact⟨⟨_,rfl⟩,y⟩
def zef (w0:Xn) (p:Nat) (w:Xn) (V:MaV) (m':Ma) (w':Xn):Prop:=∃V':MaV,V'.ca=V.ca/\ChW w0 p w' V' m'/\zm (Dw p V) w w'/\∀k,Dw p V' k->Dw p V k\/w.heap.size<=k
section
variable{w0 w w1 w2:Xn} {p:Nat} {V V':MaV} {m m':Ma}
theorem zef.chg (h:zef w0 p w V m' w1):Chg w0 p w V m' w1:=by
 obtain⟨a,_,h⟩:=h;exact⟨a,h⟩
theorem zef.refl (h:ChW w0 p w V m) (g:zb w w1):zef w0 p w V m w1:=⟨V,rfl,h.grew g,zm.grew g,fun _ a=> .inl a⟩
theorem zef.of_grew (g:zb w w1) (h:zef w0 p w1 V m' w2):zef w0 p w V m' w2:=by
 obtain⟨a,e,b,d,c⟩:=h;exact⟨a,e,b,(zm.grew g).trans d,Chg.far g c⟩
theorem zef.step {b:MaV} (a:zm (Dw p V) w w1) (d:∀k,Dw p b k->Dw p V k\/w.heap.size<=k) (g:b.ca=V.ca) (i:zef w0 p w1 b m' w2):zef w0 p w V m' w2:=by
 obtain⟨c,f,e,b,h⟩:=i;refine⟨c,f.trans g,e,⟨b.os.trans a.os,b.tape.trans a.tape,b.output.trans a.output,nT a.size b.size,fun c f g=>(b.block c (Ys f a.size) (fun e=>?_)).trans (a.block c f g)⟩,fun k b=>?_⟩
 ·rcases d c e with e|e
  ·exact g e
  omega
 rcases h k b with e|e
 ·exact d k e
 exact .inr (nT a.size e)
theorem ChW.fieldC (h:ChW w0 p w V m) (k:zb w w1) (c:w1.grownBy w2 (Xa p)) (f:V'.f=V.f) (l:V'.ca=V.ca) (q:V'.sp=V.sp) (g:m'.fs=m.fs) (u:m'.ca=m.ca) (r:m'.sp=m.sp) (a:zn w2 p 88 (chL V' m')) (rs:∀W,zm (Dr w0.heap.size p V) w W->zm (Dr w0.heap.size p V) w1 W->ziW W V m->ziW W V' m'):zef w0 p w V m' w2:=by
 have j:zm (Dw p V) w w2:=(zm.grew k).trans (zm.grown c (.inl rfl));have e:Dw p V'=Dw p V:=by unfold Dw;rw[f,l,q]
 have d:Dr w0.heap.size p V'=Dr w0.heap.size p V:=by unfold Dr;rw[e]
 obtain⟨i,x,b,y⟩:=h.sp;refine⟨V',l,⟨h.grOut j,h.lo,a,?_,?_,⟨i,?_,by rw[r];exact b,fun t z v s i W b=>?_⟩,fun W b=>?_⟩,j,fun n a=> .inl (by rw[e]at a;exact a)⟩
 ·rw[f,g];exact(h.fs.grew k).grown c (fun g f e=>h.nf g f (by cases e;rfl))
 ·rw[l,u];exact(h.ca.grew k).grown c (fun g f e=>h.nc g f (by cases e;rfl))
 ·rw[q];exact(x.grew k).grown c (fun g f e=>h.ns g f (by cases e;rfl))
 ·rw[d]at b;rw[r]at i;exact y t z v s i W ((j.wide fun n a=> .inr a).trans b)
 rw[d]at b;exact rs W ((j.wide fun n a=> .inr a).trans b) (((zm.grown c (.inr (.inl rfl)))).trans b) (h.rest W ((j.wide fun n a=> .inr a).trans b))
end
def zrX (B:Nat) (V:MaV):Prop:=(jR B V.f.v/\jR B V.s.v/\jR B V.sb.v/\jR B V.sq.v)/\(jR B V.db.v/\jR B V.dq.v/\jR B V.fl.v/\jR B V.ca.v/\jR B V.sp.v)
theorem jR.less {a:Nat} {v:Xq} (h:jR b v) (k:a<=b):jR a v:=fun x n c e=>nT k (h x n c e)
theorem zoB (u cs j:Int) (b:zrO u cs j) (w:Xn):
  Xp prog 13 #[Xi #[I6 u,I6 cs,I6 j]] w fun e w'=>(∃V:MaV,e= Xl (Xm #[Xi #[V.f.x,I6 0,V.s.x,V.sb.x,V.sq.x,V.db.x,V.dq.x,V.fl.x,I6 j,V.ca.x,V.sp.x],I6 0])/\zE w' V (Jq u cs j)/\zrX w.heap.size V/\∃v,V.sp=⟨Xa ⟨v,0,Xb⟩,1,1⟩)/\zb w w':=by
 obtain⟨a9,a⟩:=kB ((w.alloc (Xk #[I6 u,I6 cs,I6 j] 51)).alloc (Xk zM.toArray 45));have Y:=gD2 a
 have l:=x2a a
 have aa:=x2b a
 have i:=dD a;clear a;obtain⟨r,a⟩:∃e,Xo (zky u=e):=⟨_,rfl⟩;obtain⟨t,c⟩:∃e,Xo (zku cs=e):=⟨_,rfl⟩;obtain⟨z,d⟩:∃e,Xo (JN cs=e):=⟨_,rfl⟩;obtain⟨K,g⟩:∃e,Xo (JN j=e):=⟨_,rfl⟩;obtain⟨M,h⟩:∃e:Int,Xo ((if 0<=j/\j<=80 then(0:Int)else 4)=e):=⟨_,rfl⟩;obtain⟨a4,L⟩:∃e:Int,Xo ((if 0<=j/\j<=80 then j else 0)=e):=⟨_,rfl⟩;have k:=fun W=>zkx u W
 have m:=fun W=>zoy cs W
 have n:=fun W=>zgt cs W
 have p:=fun W=>zgt j W
 have q:=fun W=>zmz j W
 rw[a.out]at k;rw[c.out]at m;rw[d.out]at n;rw[g.out]at p;rw[h.out,L.out]at q;have X:Xo (zoC u cs j=[r,t,z,K,M]):=dD<|by unfold zoC;rw[a.out,c.out,d.out,g.out,h.out]
 have a:=dD k;have h:=dD m;have A:=dD n;have G:=dD p;have I:=dD q;clear k m n p q
 go_enter func13,ntmps13
 go_upto_region 1 with fail;rw[i.out];have i:=l.c 0 rfl;go_wp2_with fail;refine(a _).mono ?_;rintro e c ⟨P,rfl,⟨g,a⟩,d⟩;clear i;have ab:=dD g;have y:=dD d;have C:=dD a;clear g d a;go_upto_region 2 with fail;obtain⟨a,a⟩:=kB (c.alloc (Xk #[P.x,I6 0] 32));have p:=gA a
 have R:=xA a
 rw[a];clear a;obtain⟨a,a⟩:∃m,Xo (c.heap.size=m):=⟨_,rfl⟩;rw[a.out]at R⊢;have d:=(l.grew (y.trans p)).c 1 rfl;go_wp2_with fail;refine(h _).mono ?_;rintro e a ⟨S,rfl,⟨h,g⟩,a⟩;clear d;have ac:=dD h;have q:=dD a;have c:=dD ((y.trans p).trans a);have D:=dD g;clear h a g;have d:=(l.grew c).c 1 rfl;go_upto_region 3 with fail;go_wp2_with fail;refine(A _).mono ?_;rintro e g ⟨A,Q,rfl,⟨k,B,a,h⟩,i⟩;clear d;have a5:=dD k;have a6:=dD B;have n:=dD i;have E:=dD a;have F:=dD h;clear k B i a h;go_upto_region 4 with fail;obtain⟨a,a⟩:=kB (g.alloc (Xk #[A.x,Q.x] 38));have k:=gA a
 have T:=xA a
 rw[a];clear a;obtain⟨a,a⟩:∃m,Xo (g.heap.size=m):=⟨_,rfl⟩;rw[a.out]at T⊢;have d:=dD ((c.trans n).trans k);have c:=(l.grew d).c 2 rfl;go_wp2_with fail;refine(G _).mono ?_;rintro e g ⟨B,N,rfl,⟨W,Z,a,h⟩,U⟩;clear c;have a7:=dD W;have a8:=dD Z;have i:=dD U;have G:=dD a;have H:=dD h;clear W Z U a h;go_upto_region 5 with fail;obtain⟨a,a⟩:=kB (g.alloc (Xk #[B.x,N.x] 38));have h:=gA a
 have U:=xA a
 rw[a];clear a;obtain⟨a,a⟩:∃m,Xo (g.heap.size=m):=⟨_,rfl⟩;rw[a.out]at U⊢;have g:=dD ((d.trans i).trans h);have c:=(l.grew g).c 2 rfl;go_wp2_with fail;refine(I _).mono ?_;rintro e l ⟨rfl,a⟩;clear c;have c:=dD a;clear a;go_upto_region 6 with fail;obtain⟨Z,a⟩:=kB (l.alloc (Xk #[eS,I6 a4] 41));have d:=gA a
 have W:=xA a
 rw[a];clear a;obtain⟨a,a⟩:∃m,Xo (l.heap.size=m):=⟨_,rfl⟩;rw[a.out]at W⊢;obtain⟨a0,I⟩:=kA (zu [r,t,z,K,M]);have a:=zdc (O (Xa ⟨Z.heap.size,0,Xb⟩) 5 5) [r,t,z,K,M] _ (zc3 zlE Z [r,t,z,K,M] #[I6 r,I6 t,I6 z,I6 K,I6 M] rfl (show 5*8<=140737488355328 by decide))
 rw[I.out]at a;go_wp2_with fail;refine a.mono ?_;rintro e l ⟨rfl,r⟩;clear a;have a:Xo (zb Z l):=dD<|by rw[r];exact za _ _
 clear r;have z:=dD (((g.trans c).trans d).trans a);have K:=dD (aa.grew z);have g:a0=0:=by rw[<-I.out,<-X.out];exact zmA b
 subst g;have X:=(R.grew ((((((q.trans n).trans k).trans i).trans h).trans c).trans (d.trans a))).c 0 rfl;have Z:=(R.grew ((((((q.trans n).trans k).trans i).trans h).trans c).trans (d.trans a))).c 1 rfl;have I:=(T.grew (((i.trans h).trans c).trans (d.trans a))).c 0 rfl;have a0:=(T.grew (((i.trans h).trans c).trans (d.trans a))).c 1 rfl;have a1:=(U.grew ((c).trans (d.trans a))).c 0 rfl;have a2:=(U.grew ((c).trans (d.trans a))).c 1 rfl;have U:=(W.grew a).c 0 rfl;have a3:=(W.grew a).c 1 rfl;have t:=dD b;clear b;go_upto_region 9 with fail;obtain⟨r,b⟩:=kB (l.alloc (Xk #[Xh Xc,eS,eS,eS,eS,eS,eS,eS,eS,eS] 76));have g:=gA b
 have T:Xo (zl ZA r (O (Xa ⟨l.heap.size,0,Xb⟩) 1 1) [⟨Xc,je,je,je,je,je,je,je,je,je⟩]):=dD<|by rw[<-b];exact Zg ZA l ⟨Xc,je,je,je,je,je,je,je,je,je⟩ _ _ rfl (by decide)
 have M:=dD (K.grew g);have K:=dD b;clear b;obtain⟨v,r⟩:∃m,Xo (l.heap.size=m):=⟨_,rfl⟩
 go_wp2_with (first | (rw[K.out];rw[r.out];refine zz rfl 45 (.tmp 2) (.tmp 63) rfl (w.heap.size+1) rfl [P.x,I6 0,S.x,A.x,Q.x,B.x,N.x,eS,I6 a4,eS,O (Xa ⟨v,0,Xb⟩) 1 1] rfl M rfl (by kernel_rfl) (fun W R=>by
   simp only[mC,nM,or_false]at R
   rcases R with rfl|rfl|rfl|rfl|rfl|rfl|rfl|rfl|rfl|rfl|rfl <;> rfl) ?_))
 intro l M b _;clear X Z I a0 a1 a2 U a3;have K:Xo (zb w l):=dD<|zd ((Y.trans z).trans g) b (by omega)
 have m:w.heap.size+1<a9.heap.size:=aa.lt;have X:=bS y.out;have Y:=bS p.out;have Z:=bS q.out;have I:=bS n.out;have a0:=bS k.out;have a1:=bS z.out;have m:∀{y:Nat} {W:Xq},a9.heap.size<=y->jR y W->∀x z y,W= O (Xa x) z y->Xa x.block≠Xa (w.heap.size+1):=fun U U x z y R e=>by
  have:=U x z y R;simp only[Option.some.injEq]at e;omega
 have R:=((((((p.trans q).trans n).trans k).trans i).trans h).trans c).trans ((d.trans a).trans g);have p:=((((n.trans k).trans i).trans h).trans c).trans ((d.trans a).trans g);have n:=(((k.trans i).trans h).trans c).trans ((d.trans a).trans g);have k:=(h.trans c).trans ((d.trans a).trans g);have d:Xo (zE l ⟨P,S,A,Q,B,N,je,je,⟨Xa ⟨v,0,Xb⟩,1,1⟩⟩ (Jq u cs j)):=dD<|by
  obtain⟨a,c,g⟩:=t.out;refine⟨?_,?_,?_,?_,?_,?_,?_,zl.nil Jw l,?_⟩
  ·have h:=(ab.grew R).beside b (m (nR _) C);unfold zoA at h;rw[kE a]at h;exact h
  ·have h:=(ac.grew p).beside b (m (by omega) D)
   unfold zoz at h;rw[kE c]at h;exact h
  ·have h:jc l (A.x) (zmB cs):=⟨(a5.grew n).1.beside b (m (by omega) E),a5.2⟩
   unfold zmB at h;rw[kE (by omega)]at h
   exact h
  ·exact⟨(a6.grew n).1.beside b (m (by omega) F),a6.2⟩
  ·have h:jc l (B.x) (zmB j):=⟨(a7.grew k).1.beside b (m (by omega) G),a7.2⟩
   unfold zmB at h;rw[kE g]at h;exact h
  ·exact⟨(a8.grew k).1.beside b (m (by omega) H),a8.2⟩
  ·exact⟨nR _,[],fun w' _=>zl.nil fvE w',rfl,fun i x f a=>by simp at a⟩
  have c:=T.out;rw[r.out]at c;refine⟨_,c.beside b (fun x z y a e=>?_),rfl,fun i x s a c=>?_⟩
  ·cases a;simp only[Option.some.injEq]at e;have:=r.out;omega
  cases i with
  | zero=>
   cases a;cases c;exact⟨rfl,zl.nil arE l,nR _,zaB.nil 0 0 l⟩
  | succ i=>simp at a
 have a:Xo (zrX w.heap.size ⟨P,S,A,Q,B,N,je,je,⟨Xa ⟨v,0,Xb⟩,1,1⟩⟩):=dD<|by
  refine⟨⟨C.less (by omega),D.less (by omega),E.less (by omega),F.less (by omega)⟩,G.less (by omega),H.less (by omega),Zu _,Zu _,fun x z y e=>?_⟩
  cases e;have:=r.out
  show w.heap.size<=v
  omega
 have b:a4=j:=by rw[<-L.out,kE t.2.2]
 subst b;clear R p n k m X Y Z I a0 a1;go_wp2;refine bodyPost_ret (qo rfl _ rfl M underlying45 rfl (by kernel_rfl)) rfl ⟨⟨⟨P,S,A,Q,B,N,je,je,⟨Xa ⟨v,0,Xb⟩,1,1⟩⟩,rfl,d,a,v,rfl⟩,K⟩
end
section
theorem ZS {k:Nat} {fr:Fr} (e:k<m.fs.length) (a:zb4 m Xb m.ca=0) (d:zO m.ca k≠0->fr.p=(zQ m k).p) (file idx:Int):zT { m with fs:=m.fs.set k fr } file idx=zT m file idx:=by
 obtain⟨b,_,_⟩:=zw.1 a;refine zg4 (m:=m) (m':={ m with fs:=m.fs.set k fr }) rfl rfl rfl rfl (fun c a=>?_) file idx
 rw[qE e c.fr (jr (b c a)).1.2.2.2.2.1]
 by_cases e:c.fr=(k:Int)
 ·rw[kE e,e];exact d (by have:=ZT a;rw[e]at this;exact this)
 rw[kF e]
theorem za2 {k:Nat} {fr:Fr} {x:On} {e:En} (c:k<m.fs.length) (a:zb4 m Xb m.ca=0) (f:zO m.ca k≠0->fr.p=(zQ m k).p) (d:e.kind=1->0<=e.n) (g:e.kind=1->e.n=(k:Int)->fr.p=(zQ m k).p/\(fr.f<0↔(zQ m k).f<0)):ZM { m with fs:=m.fs.set k fr } x e=ZM m x e:=by
 refine zcD rfl rfl (fun b=>?_) (fun _=>rfl) (fun _=>rfl) (ZS c a f)
 rw[qE c e.n (d b)]
 by_cases a:e.n=(k:Int)
 ·rw[kE a,a];exact g b a
 rw[kF a];exact⟨rfl,Iff.rfl⟩
section
variable{m:Ma} {T:List (Nat->En)}
theorem zof (h:jZ m T) {a fr:Fr} (c:m.fs[j]? =Xa a) (e:a.r=0) {q n:Nat} {s:Sp} {g:Nat->En} (b:T[q]? =Xa g) (d:n<64):ZM { m with fs:=m.fs.set j fr } (zD s.ars n) (g n)=ZM m (zD s.ars n) (g n):=by
 obtain⟨a,a⟩:=h.free c e;refine za2 (gS.1 c).1 h.ca (fun h=>absurd a h) (fun a=>?_) (fun a c=>?_)
 ·have:=(jD (h.en b d)).2.1;omega
 have:=Jb b d a;rw[c]at this;omega
theorem zi4 {k:Nat} {fr:Fr} {c:Int} {x:On} {e:En} (h:jZ m T) (a:m.fs[k]? =Xa fr) (b:e.kind=1->0<=e.n):ZM { m with fs:=m.fs.set k { fr with r:=c } } x e=ZM m x e:=by
 refine za2 (gS.1 a).1 h.ca (fun _=>by rw[zJ a]) b (fun _ _=>by rw[zJ a];exact⟨rfl,Iff.rfl⟩)
theorem zmg (h:jZ m T) {k p n:Nat} {fr:Fr} {f:Nat->En} (c:m.fs[k]? =Xa fr) (i:T[p]? =Xa f) (v:n<64) (l:(f n).kind=1) (a:(f n).n=(k:Int)) {q:Nat} {s:Sp} {g:Nat->En} (t:T[q]? =Xa g) (u:j<64) (e:q≠p\/j≠n):ZM { m with fs:=m.fs.set k (QH fr) } (zD s.ars j) (g j)=ZM m (zD s.ars j) (g j):=by
 have b:=h.cf k fr c;have b:1<=qv T 1 k:=by
  have:=Jb i v l;rw[a]at this;exact this
 have b:fr.r≠1->QH fr={ fr with r:=fr.r - 1 }:=fun h=>by unfold QH;rw[kF h]
 refine za2 (gS.1 c).1 h.ca (fun d=>?_) (fun d=>?_) (fun d w=>?_)
 ·rw[b (by omega),zJ c]
 ·have:=(jD (h.en t u)).2.1;omega
 have x:=zfs i v (kind:=1) (k:=(k:Int)) (by simp[isE,l,a]) t u (by simp[isE,d,w]) (by
  rcases e with e|e
  ·exact .inl fun h=>e h.symm
  exact .inr fun h=>e h.symm) (by decide)
 rw[b (by omega),zJ c]
 exact⟨rfl,Iff.rfl⟩
theorem zeI (h:jZ m T) {k p n:Nat} {fr:Fr} {f:Nat->En} (b:m.fs[k]? =Xa fr) (d:T[p]? =Xa f) (g:n<64) (e:(f n).kind=1) (a:(f n).n=(k:Int)) (file idx:Int):zT { m with fs:=m.fs.set k (QH fr) } file idx=zT m file idx:=by
 have c:=h.cf k fr b;have c:1<=qv T 1 k:=by
  have:=Jb d g e;rw[a]at this;exact this
 refine ZS (gS.1 b).1 h.ca (fun a=>?_) file idx
 unfold QH;rw[kF (by omega),zJ b]
theorem znw (h:jZ m T) {a fr:Fr} (b:m.fs[j]? =Xa a) (c:a.r=0) (file idx:Int):zT { m with fs:=m.fs.set j fr } file idx=zT m file idx:=ZS (gS.1 b).1 h.ca (fun a=>absurd (h.free b c).2 a) file idx
end
structure Rt (m:Ma):Prop where
 w:maW m=0
 t8:∀s∈m.sp,s.tb.length=8
theorem Rt.inv (h:Rt m):jZ m (jy m):=(za4 h.w).1
theorem Rt.hand (h:Rt m):0<=m.hand/\m.hand<max (m.fs.length:Int) 1:=(za4 h.w).2
theorem Rt.tb (h:Rt m) {s:Sp} (c:s∈m.sp):ZU s.tb:=by
 refine⟨h.t8 s c,Qm.1 ?_⟩;have a:=h.w;unfold maW at a;rw[zp]at a;have b:zam m=0:=a _ (by simp)
 unfold zam at b;rw[zp]at b;have a:=zp.1 (b (zu (m.sp.map spE)) (by simp)) (spE s) (Yc.2 ⟨s,c,rfl⟩)
 unfold spE at a
 split at a
 ·rename_i b
  exact absurd a b
 split at a
 ·rename_i b
  exact absurd a b
 rename_i b
 exact Classical.byContradiction b
theorem Rt.of (hb:jZ m (jy m)) (a:∀s∈m.sp,ZU s.tb) (b:0<=m.hand) (c:m.hand<max (m.fs.length:Int) 1):Rt m:=by
 refine⟨?_,fun s d=>(a s d).1⟩
 have:=hb.right b c;rw[zjA a]at this;exact this
theorem ql {p:Nat} {s:Sp} (h:m.sp[p]? =Xa s):(jy m)[p]? =Xa (ze s):=by
 unfold jy;rw[Xw,h];rfl
theorem jZ.tabs (h:jZ m T) {sp':List Sp} (e:sp'.length=m.sp.length) (f:∀(p:Nat) s a,m.sp[p]? =Xa s->sp'[p]? =Xa a->a.live=s.live/\a.ars=s.ars):jZ { m with sp:=sp' } T:=by
 have b:∀(p:Nat) a,sp'[p]? =Xa a->∃s,m.sp[p]? =Xa s/\a.live=s.live/\a.ars=s.ars:=fun p a c=>by
  have d:p<m.sp.length:=by rw[<-e];exact(gS.1 c).1
  exact⟨_,gE d,f p _ a (gE d) c⟩
 refine⟨h.fs40,h.fok,h.sl60,h.sbl,h.sq,h.dok,h.st,h.cnt,h.blk,h.que,by show sp'.length<=4;rw[e];exact h.spl,fun a c=>?_,h.tl.trans e.symm,?_,fun p a k c l r q=>?_,h.cf,h.cs⟩
 ·obtain⟨p,d⟩:=Xz c;obtain⟨s,e,g,f⟩:=b p a d;rw[g,f];exact h.spok s (mG e)
 ·obtain⟨i,d,j⟩:=zw.1 h.ca;exact zw.2 ⟨fun d n=>i d n,fun i d d=>(by cases d),j⟩
 obtain⟨s,e,g,f⟩:=b p a c;rw[f];exact h.ent p s k e l r q
def Ji (m:Ma) (p n:Nat) (e:En):Ma:={ m with sp:=m.sp.modify p fun s=>{ s with tb:=zhl s.tb n e } }
theorem zep {p n:Nat} {e:En} {q:Nat}:(Ji m p n e).sp[q]? =(m.sp[q]?).map fun s=>if p=q then{ s with tb:=zhl s.tb n e }else s:=by
 unfold Ji;simp only[Ym]
 by_cases h:p=q
 ·simp[h]
 simp[h]
theorem zcF {s:Sp} (c:ZU s.tb) {n:Nat} (b:n<64) {e:En} (a:enW e=0):ze { s with tb:=zhl s.tb n e }=Jm (ze s) n e:=by
 funext j
 unfold ze Jm;simp only;rw[zoT c b a _ _ (Nat.mod_lt _ (by decide))]
 by_cases h:j=n
 ·rw[kE h,kE (by subst h;exact⟨rfl,rfl⟩)]
 rw[kF h,kF (fun k=>h (by omega))]
theorem zm7 {p n:Nat} {e:En} {s:Sp} (b:m.sp[p]? =Xa s) (f:ZU s.tb) (d:n<64) (c:enW e=0):jy (Ji m p n e)=(jy m).set p (Jm (ze s) n e):=by
 apply Xv
 intro q;have a:=(gS.1 b).1;unfold jy;rw[Xw,zep,Yd,Yj]
 by_cases h:p=q
 ·subst h;rw[b,kE rfl,kE a];simp only[Option.map_some,kE,zcF f d c]
 rw[kF h,Xw]
 cases m.sp[q]? with
 | none=>rfl
 | some x=>simp[h]
theorem zbL {p n:Nat} {e:En}:(Ji m p n e).sp.length=m.sp.length:=by simp[Ji]
theorem zc6 {p n:Nat} {e:En} {q:Nat} {s b:Sp} (c:m.sp[q]? =Xa s) (a:(Ji m p n e).sp[q]? =Xa b):b.live=s.live/\b.ars=s.ars:=by
 rw[zep,c]at a;simp only[Option.map_some,Option.some.injEq]at a;subst a
 split <;> exact⟨rfl,rfl⟩
theorem zcE (f:∀s∈m.sp,ZU s.tb) {p n:Nat} {e:En} (c:enW e=0):∀s∈(Ji m p n e).sp,ZU s.tb:=fun s d=>by
 obtain⟨q,a⟩:=Xz d;rw[zep]at a
 cases h:m.sp[q]? with
 | none=>rw[h]at a;cases a
 | some x=>
  rw[h]at a;simp only[Option.map_some,Option.some.injEq]at a;have b:=f x (mG h);subst a
  split
  ·exact zpX b c
  exact b
theorem zc5 {p n:Nat} {e:En} {s:Sp} (c:m.sp[p]? =Xa s) (d:∀s∈m.sp,ZU s.tb) (f:n<64) (b:enW e=0) (hb:jZ m ((jy m).set p (Jm (ze s) n e))) (a:0<=m.hand/\m.hand<max (m.fs.length:Int) 1):Rt (Ji m p n e):=by
 refine Rt.of ?_ (zcE d b) a.1 a.2;rw[zm7 c (d s (mG c)) f b];exact hb.tabs zbL fun q s a a b=>zc6 a b
structure Sam (S:Nat->Nat->Prop) (m m':Ma):Prop where
 spl:m'.sp.length=m.sp.length
 sp:∀(q:Nat) s s',m.sp[q]? =Xa s->m'.sp[q]? =Xa s'->s'.live=s.live/\s'.ars=s.ars
 see:∀(q n:Nat) s s',m.sp[q]? =Xa s->m'.sp[q]? =Xa s'->n<64->¬S q n->ZM m' (zD s.ars n) (ze s' n)=ZM m (zD s.ars n) (ze s n)
 fll:m'.fl.length=m.fl.length
 sz:∀f,QD m' f=QD m f
 bk:∀f,bkN m' f=bkN m f
 byt:∀(file k:Nat),(k:Int)<QD m (file:Int)->(zT m' (file:Int) ((k / 8:Nat):Int)).getD (k % 8) 0=(zT m (file:Int) ((k / 8:Nat):Int)).getD (k % 8) 0
theorem Sam.refl (S:Nat->Nat->Prop) (m):Sam S m m:=⟨rfl,fun q s b h a=>by rw[h]at a;cases a;exact⟨rfl,rfl⟩,fun q n s b h a _ _=>by rw[h]at a;cases a;rfl,rfl,fun _=>rfl,fun _=>rfl,fun _ _ _=>rfl⟩
theorem Sam.trans {S d:Nat->Nat->Prop} {a b c:Ma} (h:Sam S a b) (k:Sam d b c):Sam (fun q n=>S q n\/d q n) a c:=by
 have i:∀(q:Nat) s,a.sp[q]? =Xa s->∃t,b.sp[q]? =Xa t:=fun q s e=>⟨_,gE (by rw[h.spl];exact(gS.1 e).1)⟩
 refine⟨k.spl.trans h.spl,fun q s l e f=>?_,fun q n s l e f p m=>?_,k.fll.trans h.fll,fun d=>(k.sz d).trans (h.sz d),fun d=>(k.bk d).trans (h.bk d),fun d j g=>(k.byt d j (by rw[h.sz];exact g)).trans (h.byt d j g)⟩
 ·obtain⟨t,d⟩:=i q s e;have j:=h.sp q s t e d;have g:=k.sp q t l d f;exact⟨g.1.trans j.1,g.2.trans j.2⟩
 obtain⟨t,d⟩:=i q s e;have j:=h.sp q s t e d;have g:=k.see q n t l d f p (fun f=>m (.inr f))
 rw[j.2]at g;exact g.trans (h.see q n s t e d p (fun f=>m (.inl f)))
theorem Sam.mono {S c:Nat->Nat->Prop} {a b:Ma} (h:Sam S a b) (hS:∀q n,S q n->c q n):Sam c a b:=⟨h.spl,h.sp,fun q n s g f d e c=>h.see q n s g f d e (fun e=>c (hS q n e)),h.fll,h.sz,h.bk,h.byt⟩
theorem Sam.put {p n:Nat} {e:En} (c:m1.sp=m.sp) (b:m1.fl=m.fl) (u:∀s∈m.sp,ZU s.tb) (t:n<64) (l:enW e=0) (f:∀(q j:Nat) s,m.sp[q]? =Xa s->j<64->(q≠p\/j≠n)->ZM m1 (zD s.ars j) (ze s j)=ZM m (zD s.ars j) (ze s j)) (k:∀file idx,zT m1 file idx=zT m file idx):Sam (fun q j=>q=p/\j=n) m (Ji m1 p n e):=by
 refine⟨by rw[zbL,c],fun q s h d a=>zc6 (by rw[c];exact d) a,fun q j s h d a r i=>?_,by show m1.fl.length=_;rw[b],fun g=>by show QD m1 g=_;unfold QD;rw[b],fun g=>by show bkN m1 g=_;unfold bkN;rw[b],fun file b _=>?_⟩
 ·rw[zep,c,d]at a;simp only[Option.map_some,Option.some.injEq]at a;have b:ze h j=ze s j:=by
   subst a
   split
   ·rename_i h
    subst h;rw[zcF (u s (mG d)) t l];unfold Jm;rw[kF (fun h=>i ⟨rfl,h⟩)]
   rfl
  rw[b]
  show ZM m1 _ _=_
  refine f q j s d r ?_
  by_cases a:q=p
  ·exact .inr fun h=>i ⟨a,h⟩
  exact .inl a
 show(zT m1 _ _).getD _ _=_
 rw[k]
def qO (m:Ma) (p n:Nat):Ma:=
 let e:=ze (m.sp.getD p ⟨Xd,[],[]⟩) n
 if e.kind=1 then Ji { m with fs:=m.fs.set e.n.toNat (QH (zQ m e.n)) } p n en0
 else if e.kind=2 then Ji { m with sl:=m.sl.set e.n.toNat (m.sl.getD e.n.toNat 0 - 1) } p n en0
 else Ji m p n en0
section
variable{m:Ma} {p n:Nat} {s:Sp}
theorem Rt.ent (h:Rt m) (a:m.sp[p]? =Xa s) (b:n<64):ze s n=en0\/zau m (zD s.ars n) (ze s n):=h.inv.ent p s _ a (ql a) n b
theorem Rt.present (h:Rt m) (c:m.sp[p]? =Xa s) (b:n<64) (a:(ze s n).kind=1):∃(k:Nat) (fr:Fr),(ze s n).n=(k:Int)/\m.fs[k]? =Xa fr/\zQ m (ze s n).n=fr/\fr.r≠0:=by
 rcases h.ent c b with e|e
 ·rw[e]at a;cases a
 obtain⟨d,d,d,_⟩:=qd e (by omega)
 refine⟨(ze s n).n.toNat,m.fs[(ze s n).n.toNat]'(by omega),by omega,gE _,?_,fun d=>?_⟩
 ·have:=zJ (m:=m) (k:=(ze s n).n.toNat) (gE (by omega))
  rw[show(((ze s n).n.toNat:Nat):Int)=(ze s n).n by omega]at this
  exact this
 have e:=(h.inv.free (gE (show(ze s n).n.toNat<m.fs.length by omega)) d).1
 have d:=Jb (ql c) b a;rw[show(((ze s n).n.toNat:Nat):Int)=(ze s n).n by omega]at e
 omega
theorem Rt.swapped (h:Rt m) (g:m.sp[p]? =Xa s) (f:n<64) (c:(ze s n).kind=2):∃(k:Nat) (z:Int),(ze s n).n=(k:Int)/\m.sl[k]? =Xa z/\m.sl.getD (ze s n).n.toNat 0=z/\0<z/\(zD s.ars n).is=Xc/\(zD s.ars n).sh=Xd/\k<m.sb.length:=by
 rcases h.ent g f with e|e
 ·rw[e]at c;cases c
 obtain⟨i,a,a⟩:=e;unfold zdD at a
 split at a
 ·cases a
 rename_i b
 split at a
 ·cases a
 rename_i d
 have a:=(jD i).2.1.1;have a:(ze s n).n< (m.sl.length:Int):=by
  rcases Int.lt_or_le (ze s n).n m.sl.length with a|a
  ·exact a
  exact absurd (.inl a) d
 have a:(ze s n).n.toNat<m.sl.length:=by omega
 refine⟨(ze s n).n.toNat,m.sl[(ze s n).n.toNat],by omega,gE a,?_,?_,?_,?_,?_⟩
 ·rw[gD,gE a];rfl
 ·rw[h.inv.cs _ _ (gE a)];have:=zaf (ql g) f (kind:=2) (k:=(((ze s n).n.toNat:Nat):Int)) (by simp[isE,c];omega) (by decide)
  omega
 ·cases a:(zD s.ars n).is with
  | true=>rfl
  | false=>exact absurd a b
 ·cases a:(zD s.ars n).sh with
  | false=>rfl
  | true=>exact absurd (.inr a) d
 have:=h.inv.sbl;omega
theorem zqC (h:Rt m) (a:m.sp[p]? =Xa s) (b:n<64):Rt (qO m p n)/\Sam (fun q r=>q=p/\r=n) m (qO m p n):=by
 have c:m.sp.getD p ⟨Xd,[],[]⟩=s:=by rw[gD,a];rfl
 have j:∀s∈m.sp,ZU s.tb:=fun s a=>h.tb a
 unfold qO;simp only[c]
 by_cases i:(ze s n).kind=1
 ·rw[kE i];obtain⟨t,c,d,k,u,x⟩:=h.present a b i;rw[u,d,tN];have v:=h.inv.drop k (ql a) b i d;refine⟨zc5 (m:={ m with fs:=m.fs.set t (QH c) }) a j b QP v (by simpa using h.hand),Sam.put (m1:={ m with fs:=m.fs.set t (QH c) }) rfl rfl j b QP (fun q r w f l e=>zmg h.inv k (ql a) b i d (ql f) l e) (fun c g=>zeI h.inv k (ql a) b i d c g)⟩
 rw[kF i]
 by_cases i:(ze s n).kind=2
 ·rw[kE i];obtain⟨t,z,d,k,u,x,x,x,x⟩:=h.swapped a b i;rw[u,d,tN];have v:=h.inv.dropS k (ql a) b i d;exact⟨zc5 (m:={ m with sl:=m.sl.set t (z - 1) }) a j b QP v h.hand,Sam.put (m1:={ m with sl:=m.sl.set t (z - 1) }) rfl rfl j b QP (fun q r w f l e=>rfl) (fun c g=>rfl)⟩
 rw[kF i];have i:ze s n=en0:=by
  rcases h.ent a b with d|d
  ·exact d
  have:=(jD d.1).1;have:=d.2.1;omega
 refine⟨zc5 a j b QP ?_ h.hand,Sam.put rfl rfl j b QP (fun q r w f l e=>rfl) (fun c g=>rfl)⟩
 have:Jm (ze s) n en0=ze s:=by
  funext r
  unfold Jm
  split
  ·rename_i l
   rw[l,i]
  rfl
 rw[this];have:(jy m).set p (ze s)=jy m:=by
  apply Xv
  intro q;rw[Yd]
  split
  ·rename_i b
   subst b;rw[kE (gS.1 (ql a)).1,ql a]
  rfl
 rw[this];exact h.inv
end
section
variable{m:Ma} {T:List (Nat->En)}
theorem jZ.joinAs (h:jZ m T) {p i q n k:Nat} {fr:Fr} {f g:Nat->En} {s:Sp} {e:En} (z:m.fs[k]? =Xa fr) (hp:T[p]? =Xa f) (hi:i<64) (u:f i=e) (F:T[q]? =Xa g) (ak:n<64) (af:g n=en0) (am:m.sp[q]? =Xa s)
  (ai:zau m (zD s.ars n) e) (c:e.kind=1) (d:e.n=(k:Int)) (E:e.wr=Xc->fr.f≠-1):
  jZ { m with fs:=m.fs.set k { fr with r:=fr.r+1 } } (T.set q (Jm g n e)):=by
 have A:=(gS.1 z).1;have Z:=(gS.1 F).1;have H:=h.fok fr (mG z);have a9:1<=qv T 1 k:=by
  have:=Jb hp hi (by rw[u];exact c)
  rw[u,d]at this;exact this
 have Y:=h.cf k fr z;have K:∀kind j:Int,qv (T.set q (Jm g n e)) kind j+(isE en0 kind j).toNat=qv T kind j+(isE e kind j).toNat:=fun kind j=>by
  have:=ZP e kind j F ak;rw[af]at this;exact this
 refine⟨by simpa using h.fs40,fun B a0=>?_,h.sl60,h.sbl,h.sq,h.dok,h.st,h.cnt,h.blk,h.que,h.spl,h.spok,by simpa using h.tl,?_,?_,fun j B b=>?_,fun j ao b=>?_⟩
 ·rcases Yh a0 with a0|rfl
  ·exact h.fok B a0
  obtain⟨U,N,V,P,ac⟩:=H;exact⟨by simp only;omega,N,V,fun h=>by simp only at h;omega,ac⟩
 ·obtain⟨aa,ap,ab⟩:=zw.1 h.ca;refine zw.2 ⟨fun M ah=>?_,fun q M F=>(by cases F),ab⟩
  obtain⟨Q,a6,R,S⟩:=jr (aa M ah);have C:=qE (f:={ fr with r:=fr.r+1 }) A M.fr Q.2.2.2.2.1
  by_cases v:M.fr=(k:Int)
  ·rw[kE v]at C;rw[v,zJ z]at a6 R S;refine J0 (by simpa [bkN]using Q) ?_ ?_ ?_ <;> rw[C]
   ·have:=H.1;simp only;omega
   ·exact R
   exact S
  rw[kF v]at C;exact J0 (by simpa [bkN]using Q) (by rw[C];exact a6) (by rw[C];exact R) (by rw[C];exact S)
 ·have x:∀(B:On) (a:En),zau m B a->(a.kind≠2->a.n=(k:Int)->a.wr=Xc->fr.f≠-1)->zau { m with fs:=m.fs.set k { fr with r:=fr.r+1 } } B a:=fun B a D aj=>by
   refine⟨D.1,D.2.1,j6 D.2.2 rfl (by simp) fun t=>?_⟩
   obtain⟨U,N,V,P⟩:=qd D t;rw[qE A _ N]
   by_cases v:a.n=(k:Int)
   ·rw[kE v,v,zJ z];exact⟨rfl,rfl,fun ae W=>absurd W (aj t v ae)⟩
   rw[kF v];exact⟨rfl,rfl,P⟩
  refine zfG Z rfl F (fun a5 an W I l j b al=>?_) (fun aq G=>?_)
  ·rcases h.ent a5 an W I l j b with a|a
   ·exact .inl a
   refine .inr (x _ _ a fun t a4 L=>?_)
   obtain⟨U,N,V,P⟩:=qd a t
   by_cases y:a5=p/\j=i
   ·obtain⟨rfl,rfl⟩:=y;rw[hp]at l;cases l;rw[u]at L;exact E L
   intro X;have D:=zfs hp hi (kind:=1) (k:=(k:Int)) (by rw[u];simp[isE,c,d]) l b (by simp[isE,U,a4]) (by
    by_cases a7:p=a5
    ·right;intro ad;exact y ⟨a7.symm,ad.symm⟩
    exact .inl a7) (by decide)
   have ag:=P L (by rw[a4,zJ z];exact X)
   rw[a4,zJ z]at ag;omega
  rw[am]at G;cases G;exact x _ _ ai fun _ _ L=>E L
 ·simp only at b⊢;have w:=K 1 j;rw[jq 1 j (by decide)]at w
  by_cases a8:j=k
  ·subst a8;rw[sF A]at b;cases b;have:isE e 1 (j:Int)=Xc:=by simp[isE,c,d]
   rw[this]at w;refine⟨?_,Y.2⟩
   simp at w
   simp only;omega
  rw[sN (fun h=>a8 h.symm)]at b
  rw[JP (by rw[d];omega)]at w
  have:=h.cf j B b;refine⟨?_,this.2⟩
  simp at w
  omega
 simp only at b⊢;have w:=K 2 j;rw[jq 2 j (by decide),zbi (by rw[c];decide)]at w
 have:=h.cs j ao b
 simp at w
 omega
end
def q5 (m:Ma) (k p n:Nat):Ma:=Ji { m with fs:=m.fs.set k { zQ m (k:Int)with r:=(zQ m (k:Int)).r+1 } } p n ⟨1,(k:Int),Xd⟩
theorem zch (h:jZ m (jy m)) {k:Nat} (a:k<m.fs.length) (w:Bool):enW ⟨1,(k:Int),w⟩=0:=
 JV (by simp) ⟨by simp,by simp only;have:=h.fs40;omega,fun _=>by simp only;have:=h.fs40;omega⟩ (by simp)
section
variable{m:Ma} {k p n:Nat} {fr:Fr} {s:Sp}
theorem zg5 (h:Rt m) (a:m.fs[k]? =Xa fr) (b:Int) (file idx:Int):zT { m with fs:=m.fs.set k { fr with r:=b } } file idx=zT m file idx:=
 ZS (gS.1 a).1 h.inv.ca (fun _=>by rw[zJ a]) file idx
theorem Rt.kind0 (h:Rt m) (c:m.sp[p]? =Xa s) (b:n<64) (a:(ze s n).kind=1):0<=(ze s n).n:=by
 obtain⟨k,_,e,_⟩:=h.present c b a;omega
theorem zgE (h:Rt m) (a:m.fs[k]? =Xa fr) (c:0<=fr.f) (b:m.sp[p]? =Xa s) (e:n<64) (t:ze s n=en0)
  (u:(zD s.ars n).is=Xc) (f:(zD s.ars n).file=fr.f) (g:(zD s.ars n).page=fr.x):
  Rt (q5 m k p n)/\Sam (fun q l=>q=p/\l=n) m (q5 m k p n):=by
 have j:∀s∈m.sp,ZU s.tb:=fun s b=>h.tb b
 have d:=(gS.1 a).1;have i:=zch h.inv d Xd;unfold q5;rw[zJ a];have d:=h.inv.hold (w:=false) a c b (ql b) e t u f g (fun c=>by cases c)
 refine⟨zc5 (m:={ m with fs:=m.fs.set k { fr with r:=fr.r+1 } }) b j e i d (by simpa using h.hand),Sam.put (m1:={ m with fs:=m.fs.set k { fr with r:=fr.r+1 } }) rfl rfl j e i (fun q l b b c _=>zi4 h.inv a (h.kind0 b c)) (fun file b=>zg5 h a _ file b)⟩
theorem zmM (h:Rt m) (b:m.fs[k]? =Xa fr) (f:fr.f=-1) {q i:Nat} {t:Sp} (x:m.sp[q]? =Xa t) (hi:i<64) (j:ze t i=⟨1,(k:Int),Xd⟩) (d:m.sp[p]? =Xa s) (g:n<64) (w:ze s n=en0)
  (y:(zD s.ars n).is=Xc) (l:(zD s.ars n).sh=Xd):
  Rt (q5 m k p n)/\Sam (fun q v=>q=p/\v=n) m (q5 m k p n):=by
 have u:∀s∈m.sp,ZU s.tb:=fun s d=>h.tb d
 have a:=(gS.1 b).1;have e:=zch h.inv a Xd;unfold q5;rw[zJ b];have c:zau m (zD s.ars n) ⟨1,(k:Int),Xd⟩:=by
  refine⟨e,by simp,?_⟩
  unfold zdD;simp only;rw[kF (by rw[y];decide),kF (by decide),kF (by omega),zJ b,kF]
  rintro(a|a|a|a|a)
  ·exact a.1 f
  ·rw[l]at a;cases a.1
  ·cases a.1
  ·cases a.1
  cases a.1
 have f:=h.inv.joinAs b (ql x) hi j (ql d) g w d c rfl rfl (fun a=>by cases a)
 refine⟨zc5 (m:={ m with fs:=m.fs.set k { fr with r:=fr.r+1 } }) d u g e f (by simpa using h.hand),Sam.put (m1:={ m with fs:=m.fs.set k { fr with r:=fr.r+1 } }) rfl rfl u g e (fun q v a a c _=>zi4 h.inv b (h.kind0 a c)) (fun a c=>zg5 h b _ a c)⟩
theorem zp9 (h:Rt m) (b:m.fs[k]? =Xa fr) (e:fr.r=0) (pg) (u:Bool) (a:m.sp[p]? =Xa s) (d:n<64) (l:ze s n=en0)
  (t:(zD s.ars n).is=Xc) (f:(zD s.ars n).sh=Xd):
  Rt (Ji { m with fs:=m.fs.set k ⟨pg,1,u,Xd,-1,0⟩ } p n ⟨1,(k:Int),Xd⟩)/\Sam (fun q j=>q=p/\j=n) m (Ji { m with fs:=m.fs.set k ⟨pg,1,u,Xd,-1,0⟩ } p n ⟨1,(k:Int),Xd⟩):=by
 have i:∀s∈m.sp,ZU s.tb:=fun s a=>h.tb a
 have c:=(gS.1 b).1;have g:=zch h.inv c Xd;have r:=h.inv.mine (pg:=pg) (u:=u) (w:=false) b e a (ql a) d l t f (fun c=>by cases c)
 refine⟨zc5 (m:={ m with fs:=m.fs.set k ⟨pg,1,u,Xd,-1,0⟩ }) a i d g r (by simpa using h.hand),Sam.put (m1:={ m with fs:=m.fs.set k ⟨pg,1,u,Xd,-1,0⟩ }) rfl rfl i d g (fun q j a a c _=>zof h.inv b e (ql a) c) (fun a c=>znw h.inv b e a c)⟩
theorem JK {e:En} (g:∀s∈m1.sp,ZU s.tb) (c:m1.sp[p]? =Xa s) (f:n<64) (d:enW e=0) {b:Sp} (a:(Ji m1 p n e).sp[p]? =Xa b):ze b n=e/\b.ars=s.ars:=by
 rw[zep,c]at a;simp only[Option.map_some,Option.some.injEq,if_true]at a;subst a;rw[zcF (g s (mG c)) f d];exact⟨by unfold Jm;rw[kE rfl],rfl⟩
end
theorem za6 {e:En} {p n q:Nat} {s d:Sp} (i:∀s∈m1.sp,ZU s.tb) (g:n<64) (f:enW e=0) (c:m1.sp[q]? =Xa s) (a:(Ji m1 p n e).sp[q]? =Xa d) (b:¬(q=p/\j=n)):ze d j=ze s j:=by
 rw[zep,c]at a;simp only[Option.map_some,Option.some.injEq]at a;subst a
 split
 ·rename_i h
  subst h;rw[zcF (i s (mG c)) g f];unfold Jm;rw[kF (fun h=>b ⟨rfl,h⟩)]
 rfl
def zF (m:Ma) (k:Nat):List (Nat × Nat)->Ma
 | []=>m
 | x :: l=>zF (q5 m k x.1 x.2) k l
def zry (m:Ma) (x:Nat × Nat):Prop:=∃s,m.sp[x.1]? =Xa s/\x.2<64/\ze s x.2=en0/\(zD s.ars x.2).is=Xc/\(zD s.ars x.2).sh=Xd
section
variable{k:Nat}
theorem zfk {fr:Fr} (a:m.fs[k]? =Xa fr) (p n:Nat):(q5 m k p n).fs[k]? =Xa { fr with r:=fr.r+1 }:=by
 show(m.fs.set k _)[k]? =_
 rw[sF (gS.1 a).1,zJ a]
theorem zew:∀(l:List (Nat × Nat)) {m:Ma} {fr:Fr},Rt m->m.fs[k]? =Xa fr->fr.f=-1->(∃(q i:Nat) (t:Sp),m.sp[q]? =Xa t/\i<64/\ze t i=⟨1,(k:Int),Xd⟩)->(∀x∈l,zry m x)->l.Nodup->
  Rt (zF m k l)/\Sam (fun q j=>(q,j)∈l) m (zF m k l)/\(zF m k l).fs[k]? =Xa { fr with r:=fr.r+(l.length:Int) }/\(∀x∈l,∀s',(zF m k l).sp[x.1]? =Xa s'->ze s' x.2=⟨1,(k:Int),Xd⟩)/\∀(q j:Nat) s s',m.sp[q]? =Xa s->(zF m k l).sp[q]? =Xa s'->(q,j)∉l->ze s' j=ze s j
 | [],m,fr,h,hk,_,_,_,_=>⟨h,Sam.refl _ _,(by simp only[zF,Yk,Int.ofNat_zero,Int.add_zero];exact hk),fun x hx=>(by cases hx),fun q j s s' hs hs' _=>by simp only[zF]at hs';rw[hs]at hs';cases hs';rfl⟩
 | x :: l,m,fr,h,hk,hf,hq,hb,hd=>by
  obtain⟨q,i,t,hq,hi,hqi⟩:=hq;obtain⟨s,hs,hn,h0,hx,hsh⟩:=hb x (Xt ..);have hkl:=(gS.1 hk).1;have he:=zch h.inv hkl Xd;have ht:∀s∈m.sp,ZU s.tb:=fun s hs=>h.tb hs
  obtain⟨j1,j2⟩:=zmM h hk hf hq hi hqi hs hn h0 hx hsh;have hd':=List.nodup_cons.1 hd;have at1:∀(q:Nat) s,m.sp[q]? =Xa s->∃s',(q5 m k x.1 x.2).sp[q]? =Xa s':=fun q s hs=>⟨_,gE (by rw[j2.spl];exact(gS.1 hs).1)⟩
  have oth:∀(q j:Nat) s s',m.sp[q]? =Xa s->(q5 m k x.1 x.2).sp[q]? =Xa s'->¬(q=x.1/\j=x.2)->ze s' j=ze s j:=fun q j s s' h1 h2 h3=>za6 (m1:={ m with fs:=m.fs.set k { zQ m (k:Int)with r:=(zQ m (k:Int)).r+1 } }) ht hn he h1 h2 h3
  obtain⟨s1,hs1⟩:=at1 x.1 s hs;have now:=(JK (m1:={ m with fs:=m.fs.set k { zQ m (k:Int)with r:=(zQ m (k:Int)).r+1 } }) ht hs hn he hs1).1;obtain⟨r1,r2,r3,r4,r5⟩:=zew l j1 (zfk hk x.1 x.2) hf ⟨x.1,x.2,s1,hs1,hn,now⟩ (fun y hy=>by
   obtain⟨sy,a1,a2,a3,a4,a5⟩:=hb y (Xs _ hy);obtain⟨sy',b1⟩:=at1 y.1 sy a1;have b2:=(j2.sp y.1 sy sy' a1 b1).2;have b3:=oth y.1 y.2 sy sy' a1 b1 (fun e=>hd'.1 (by
    have:y=x:=Prod.ext e.1 e.2;rw[<-this];exact hy))
   exact⟨sy',b1,a2,by rw[b3];exact a3,by rw[b2];exact a4,by rw[b2];exact a5⟩) hd'.2
  refine⟨r1,(j2.trans r2).mono ?_,?_,fun y hy s' hs'=>?_,fun q j s s' h1 h2 h3=>?_⟩
  ·rintro q j (⟨rfl,rfl⟩ | h1)
   ·exact Xt ..
   exact Xs _ h1
  ·show(zF (q5 m k x.1 x.2) k l).fs[k]? =_
   rw[r3];simp only[Ya,Option.some.injEq,Fr.mk.injEq,and_true,true_and];omega
  ·rcases mC.1 hy with rfl | hy
   ·rw[r5 y.1 y.2 s1 s' hs1 hs' hd'.1];exact now
   exact r4 y hy s' hs'
  obtain⟨sq,hsq⟩:=at1 q s h1;rw[r5 q j sq s' hsq h2 (fun e=>h3 (Xs _ e))]
  exact oth q j s sq h1 hsq (fun e=>h3 (by
   have:(q,j)=x:=Prod.ext e.1 e.2;rw[this];exact Xt ..))
def zpT (k:Nat) (l:List (Nat × Nat)) (sp:List Sp):List Sp:=l.foldl (fun sp x=>sp.modify x.1 fun s=>{ s with tb:=zhl s.tb x.2 ⟨1,(k:Int),Xd⟩ }) sp
theorem zbS:∀(l:List (Nat × Nat)) {m:Ma} {fr:Fr},m.fs[k]? =Xa fr->zF m k l={ m with fs:=m.fs.set k { fr with r:=fr.r+(l.length:Int) },sp:=zpT k l m.sp }
 | [],m,fr,hk=>by
  have:m.fs.set k { fr with r:=fr.r+(([]:List (Nat × Nat)).length:Int) }=m.fs:=by
   apply Xv
   intro q;rw[Yd]
   split
   ·rename_i hq
    subst hq;rw[if_pos (gS.1 hk).1,hk];simp
   rfl
  rw[this];rfl
 | x :: l,m,fr,hk=>by
  show zF (q5 m k x.1 x.2) k l=_
  rw[zbS l (zfk hk x.1 x.2)];have e1:(q5 m k x.1 x.2).fs=m.fs.set k { fr with r:=fr.r+1 }:=by
   show m.fs.set k _=_
   rw[zJ hk]
  have e2:fr.r+1+(l.length:Int)=fr.r+((x :: l).length:Int):=by simp only[Ya];omega
  rw[e1,Yt];simp only[e2];rfl
def zaS (m:Ma) (k:Nat) (pg:Pg) (u:Bool) (l:List (Nat × Nat)):Ma:={ m with fs:=m.fs.set k ⟨pg,(l.length:Int),u,Xd,-1,0⟩,sp:=zpT k l m.sp }
theorem zqH {fr:Fr} (h:Rt m) (c:m.fs[k]? =Xa fr) (i:fr.r=0) (pg) (u:Bool) {l:List (Nat × Nat)} (a:l≠[]) (hb:∀x∈l,zry m x) (g:l.Nodup):
  Rt (zaS m k pg u l)/\Sam (fun q j=>(q,j)∈l) m (zaS m k pg u l)/\(∀x∈l,∀b,(zaS m k pg u l).sp[x.1]? =Xa b->ze b x.2=⟨1,(k:Int),Xd⟩):=by
 cases l with
 | nil=>exact absurd rfl a
 | cons x l=>
  obtain⟨s,d,p,f,n,a⟩:=hb x (Xt ..);have e:=(gS.1 c).1;have y:=zch h.inv e Xd;have z:∀s∈m.sp,ZU s.tb:=fun s d=>h.tb d
  obtain⟨A,r⟩:=zp9 h c i pg u d p f n a;have c:=List.nodup_cons.1 g;obtain⟨g,a⟩:∃g,Ji { m with fs:=m.fs.set k ⟨pg,1,u,Xd,-1,0⟩ } x.1 x.2 ⟨1,(k:Int),Xd⟩=g:=⟨_,rfl⟩;rw[a]at A r;have i:g.fs[k]? =Xa ⟨pg,1,u,Xd,-1,0⟩:=by
   rw[<-a]
   show(m.fs.set k _)[k]? =_
   rw[sF e]
  have h:∀(q:Nat) s,m.sp[q]? =Xa s->∃b,g.sp[q]? =Xa b:=fun q s d=>⟨_,gE (by rw[r.spl];exact(gS.1 d).1)⟩
  have v:∀(q j:Nat) s b,m.sp[q]? =Xa s->g.sp[q]? =Xa b->¬(q=x.1/\j=x.2)->ze b j=ze s j:=fun q j s b t e f=>by
   rw[<-a]at e;exact za6 (m1:={ m with fs:=m.fs.set k ⟨pg,1,u,Xd,-1,0⟩ }) z p y t e f
  obtain⟨w,e⟩:=h x.1 s d;have n:ze w x.2=⟨1,(k:Int),Xd⟩:=by
   have f:=e;rw[<-a]at f;exact(JK (m1:={ m with fs:=m.fs.set k ⟨pg,1,u,Xd,-1,0⟩ }) z d p y f).1
  obtain⟨B,C,d,D,E⟩:=zew l A i rfl ⟨x.1,x.2,w,e,p,n⟩ (fun y f=>by
   obtain⟨z,p,A,F,G,H⟩:=hb y (Xs _ f);obtain⟨d,s⟩:=h y.1 z p;have h:=(r.sp y.1 z d p s).2;have K:=v y.1 y.2 z d p s (fun p=>c.1 (by
    have:y=x:=Prod.ext p.1 p.2;rw[<-this];exact f))
   exact⟨d,s,A,by rw[K];exact F,by rw[h];exact G,by rw[h];exact H⟩) c.2
  have d:zF g k l=zaS m k pg u (x :: l):=by
   rw[zbS l i,<-a];have a:(1:Int)+(l.length:Int)=((x :: l).length:Int):=by simp only[Ya];omega
   unfold zaS Ji;simp only[Yt,a];rfl
  rw[d]at B C D E;refine⟨B,(r.trans C).mono ?_,fun y f b a=>?_⟩
  ·rintro q j (⟨rfl,rfl⟩|t)
   ·exact Xt ..
   exact Xs _ t
  rcases mC.1 f with rfl|f
  ·rw[E y.1 y.2 w b e a c.1];exact n
  exact D y f b a
theorem zpe {fr:Fr} (a:m.fs[k]? =Xa fr) (pg) (u:Bool) (l:List (Nat × Nat)):
  zF { m with fs:=m.fs.set k ⟨pg,1,u,Xd,-1,0⟩ } k l={ m with fs:=m.fs.set k ⟨pg,1+(l.length:Int),u,Xd,-1,0⟩,sp:=zpT k l m.sp }:=by
 rw[zbS l (fr:=⟨pg,1,u,Xd,-1,0⟩) (by show(m.fs.set k _)[k]? =_;rw[sF (gS.1 a).1])]
 simp only[Yt]
end
section
variable{m:Ma} {k p n:Nat} {fr:Fr} {s:Sp}
def qZ (m:Ma) (k:Nat) (pg:Pg) (u d:Bool) (file idx:Int):Ma:={ m with fs:=m.fs.set k ⟨pg,1,u,d,file,idx⟩,ca:=Qc m.ca ⟨file,idx,k⟩ }
theorem znA (h:Rt m) (b:m.fs[k]? =Xa fr) (n:fr.r=0) {pg:Pg} {u d:Bool} {file idx:Int} (e:0<=file/\file<m.fl.length) (hi:0<=idx/\idx<bkN m file) (a:∀c∈m.ca,¬(c.file=file/\c.idx=idx)) (hp:pgL pg=zT m file idx):
  Rt (qZ m k pg u d file idx)/\Sam (fun _ _=>False) m (qZ m k pg u d file idx):=by
 have i:=(gS.1 b).1;have r:=zlp h.inv (u:=u) (d:=d) b n a hp;refine⟨Rt.of (h.inv.cache (p:=pg) (u:=u) (d:=d) b n e hi a) (fun s a=>h.tb a) h.hand.1 (by simpa [qZ]using h.hand.2),rfl,fun q s l a g=>?_,fun q j s l a g t _=>?_,rfl,fun _=>rfl,fun _=>rfl,fun e e _=>?_⟩
 ·have:m.sp[q]? =Xa l:=g;rw[a]at this;cases this;exact⟨rfl,rfl⟩
 ·have:m.sp[q]? =Xa l:=g;rw[a]at this;cases this;have e:=h.inv.en (ql a) t;have g:=(jD e).2.1.1;refine zcD rfl rfl (fun e=>?_) (fun _=>rfl) (fun _=>rfl) r
  have l:(ze s j).n≠(k:Int):=fun q=>by
   have v:=Jb (ql a) t e;rw[q]at v;have:=(h.inv.free b n).1;omega
  have:=qE (m:=m) (f:=⟨pg,1,u,d,file,idx⟩) i (ze s j).n g;rw[kF l]at this;have a:zQ (qZ m k pg u d file idx) (ze s j).n=zQ m (ze s j).n:=this;rw[a];exact⟨rfl,Iff.rfl⟩
 show(zT (qZ m k pg u d file idx) _ _).getD _ _=_
 unfold qZ;rw[r]
theorem zo5 (r:Rt m) (h:m.fs[k]? =Xa fr) (w:fr.r=0) {pg:Pg} {u d:Bool} {file idx:Int} (g:0<=file/\file<m.fl.length) (hi:0<=idx/\idx<bkN m file) (a:∀c∈m.ca,¬(c.file=file/\c.idx=idx)) (hp:pgL pg=zT m file idx)
  (x:m.sp[p]? =Xa s) (v:n<64) (t:ze s n=en0) (y:(zD s.ars n).is=Xc) (e:(zD s.ars n).file=file) (f:(zD s.ars n).page=idx):
  Rt (q5 (qZ m k pg u d file idx) k p n)/\Sam (fun q j=>q=p/\j=n) m (q5 (qZ m k pg u d file idx) k p n):=by
 have b:=(gS.1 h).1;obtain⟨i,l⟩:=znA r h w (u:=u) (d:=d) g hi a hp;have a:(qZ m k pg u d file idx).fs[k]? =Xa ⟨pg,1,u,d,file,idx⟩:=by
  show(m.fs.set k _)[k]? =_
  rw[sF b]
 obtain⟨b,h⟩:=zgE i a g.1 (s:=s) x v t y e f;exact⟨b,(l.trans h).mono fun q j e=>e.resolve_left id⟩
theorem zi5 (b:(zD s.ars n).is=Xc) {w:Bool} (a:m1.fs[k]? =Xa fr):ZM m1 (zD s.ars n) ⟨1,(k:Int),w⟩=(pgL fr.p,decide (fr.f<0),0):=by
 unfold ZM;rw[kF (by rw[b];decide),kE rfl,zJ a]
theorem zfg (h:Rt m) (c:m.fs[k]? =Xa fr) (f:fr.r≠0) (u d:Bool):Rt { m with fs:=m.fs.set k { fr with u:=u,d:=d } }/\Sam (fun _ _=>False) m { m with fs:=m.fs.set k { fr with u:=u,d:=d } }:=by
 have e:=(gS.1 c).1;have i:∀a b,zT { m with fs:=m.fs.set k { fr with u:=u,d:=d } } a b=zT m a b:=fun a b=>ZS e h.inv.ca (fun _=>by rw[zJ c]) a b
 refine⟨Rt.of (h.inv.marks (p:=fr.p) (u:=u) (d:=d) c f) (fun s b=>h.tb b) h.hand.1 (by simpa using h.hand.2),rfl,fun q s g b f=>?_,fun q j s g b f j _=>?_,rfl,fun _=>rfl,fun _=>rfl,fun a a _=>by rw[i]⟩
 ·have:m.sp[q]? =Xa g:=f;rw[b]at this;cases this;exact⟨rfl,rfl⟩
 have:m.sp[q]? =Xa g:=f;rw[b]at this;cases this;refine za2 e h.inv.ca (fun _=>by rw[zJ c]) (h.kind0 b j) (fun _ _=>by rw[zJ c];exact⟨rfl,Iff.rfl⟩)
theorem zpr (h:Rt m) (b:m.sp[p]? =Xa s) (f:n<64) {e:En} (t:e.kind=(ze s n).kind) (c:e.n=(ze s n).n) (d:zau m (zD s.ars n) e):Rt (Ji m p n e)/\Sam (fun _ _=>False) m (Ji m p n e):=by
 have i:∀s∈m.sp,ZU s.tb:=fun s b=>h.tb b
 have u:=h.inv.entry b (ql b) f t c d;have a:=Sam.put (m1:=m) (p:=p) rfl rfl i f d.1 (fun q j y v r _=>rfl) (fun _ _=>rfl)
 refine⟨zc5 b i f d.1 u h.hand,a.spl,a.sp,fun q j w x g k r _=>?_,a.fll,a.sz,a.bk,a.byt⟩
 by_cases l:q=p/\j=n
 ·obtain⟨rfl,rfl⟩:=l;rw[b]at g;cases g;rw[(JK i b f d.1 k).1];exact zcD t c (fun _=>⟨rfl,Iff.rfl⟩) (fun _=>rfl) (fun _=>rfl) (fun _ _=>rfl)
 exact a.see q j w x g k r l
end
def QG (k:Int) (e:En) (f:Nat->En):Nat->En:=fun j=>if isE (f j) 1 k=Xc then e else f j
theorem zjI (k:Int) (e) (f:Nat->En) (kind j:Int):∀n:Nat,Zd (QG k e f) kind j n+(if kind=1/\j=k then Zd f 1 k n else 0)=Zd f kind j n+(if isE e kind j=Xc then Zd f 1 k n else 0)
 | 0=>by simp[Zd]
 | n+1=>by
  have b:=zjI k e f kind j n;unfold Zd;have a:QG k e f n=if isE (f n) 1 k=Xc then e else f n:=rfl;rw[a]
  cases d:isE (f n) 1 k with
  | true=>
   simp only[if_true];have g:isE (f n) kind j=Xc↔kind=1/\j=k:=by
    simp only[isE,Xu,decide_eq_true_eq]at d⊢;omega
   by_cases a:kind=1/\j=k
   ·rw[kE a]at b⊢;rw[g.2 a]
    cases c:isE e kind j <;> simp[c]at b⊢<;> omega
   rw[kF a]at b⊢;have:isE (f n) kind j=Xd:=by
    cases h:isE (f n) kind j with
    | false=>rfl
    | true=>exact absurd (g.1 h) a
   rw[this]
   cases c:isE e kind j <;> simp[c]at b⊢<;> omega
  | false=>
   simp only[if_false,Bool.false_eq_true]
   by_cases a:kind=1/\j=k
   ·rw[kE a]at b⊢;rw[a.1,a.2,d];rw[a.1,a.2]at b
    simp at b⊢
    omega
   rw[kF a]at b⊢
   simp at b⊢
   omega
theorem zdo (k:Int) (e) (kind j:Int):∀T:List (Nat->En),qv (T.map (QG k e)) kind j+(if kind=1/\j=k then qv T 1 k else 0)=qv T kind j+(if isE e kind j=Xc then qv T 1 k else 0)
 | []=>by simp[qv]
 | f :: T=>by
  have a:=zdo k e kind j T;have b:=zjI k e f kind j 64;simp only[qv,mP,List.sum_cons]at a⊢
  by_cases d:kind=1/\j=k
  ·rw[kE d]at a b⊢
   by_cases c:isE e kind j=Xc
   ·rw[kE c]at a b⊢;omega
   rw[kF c]at a b⊢;omega
  rw[kF d]at a b⊢
  by_cases c:isE e kind j=Xc
  ·rw[kE c]at a b⊢;omega
  rw[kF c]at a b⊢;omega
section
variable{m:Ma} {T:List (Nat->En)}
theorem jZ.moved (h:jZ m T) {k:Nat} {fr:Fr} (F:m.fs[k]? =Xa fr) (e:En) (C:e.kind≠1) {sl':List Int} {sb':List (List Int)} {sq':List (Int × List Int)} (p:sl'.length=m.sl.length) (u:sb'.length=m.sb.length) (w:zS sb'.length sq'=0)
  (A:∀(j:Nat) z,sl'[j]? =Xa z->z=(qv T 2 j+(if isE e 2 (j:Int)=Xc then qv T 1 k else 0):Nat)) (B:e=en0\/(enW e=0/\e.kind=2/\e.n<m.sl.length/\fr.f=-1)):
  jZ { m with fs:=m.fs.set k frF,ca:=m.ca.filter fun d=>!decide (d.fr=(k:Int)),sl:=sl',sb:=sb',sq:=sq' } (T.map (QG (k:Int) e)):=by
 have s:=(gS.1 F).1;have l:∀j:Int,j≠(k:Int)->zO (m.ca.filter fun d=>!decide (d.fr=(k:Int))) j=zO m.ca j:=fun j c=>by
  unfold zO;rw[List.countP_filter]
  congr 1
  funext d
  by_cases e:d.fr=j
  ·have:d.fr≠(k:Int):=by omega
   simp[e,c]
  simp[e]
 have q:zO (m.ca.filter fun d=>!decide (d.fr=(k:Int))) (k:Int)=0:=by
  unfold zO;rw[Yp];intro d t;rw[Yb]at t
  simpa using t.2
 obtain⟨f,a⟩:∃f:Ma,{ m with fs:=m.fs.set k frF,ca:=m.ca.filter fun d=>!decide (d.fr=(k:Int)),sl:=sl',sb:=sb',sq:=sq' }=f:=⟨_,rfl⟩
 have r:∀z:Int,0<=z->z≠(k:Int)->zQ f z=zQ m z:=fun z b g=>by
  rw[<-a];rw[show zQ { m with fs:=m.fs.set k frF,ca:=m.ca.filter fun d=>!decide (d.fr=(k:Int)),sl:=sl',sb:=sb',sq:=sq' } z=zQ { m with fs:=m.fs.set k frF } z from rfl,qE s _ b,kF g]
 have i:f.sl.length=m.sl.length:=by rw[<-a];exact p
 have n:f.fs.length=m.fs.length:=by rw[<-a];simp
 rw[a];refine⟨by rw[n];exact h.fs40,fun v b=>?_,by rw[i];exact h.sl60,by rw[<-a];show sb'.length=sl'.length;rw[u,p];exact h.sbl,by rw[<-a];exact w,by rw[<-a];exact h.dok,by rw[<-a];exact h.st,by rw[<-a];exact h.cnt,by rw[<-a];exact h.blk,by rw[<-a];exact h.que,by rw[<-a];exact h.spl,by rw[<-a];exact h.spok,by rw[<-a];simpa using h.tl,?_,fun u D v G b j c=>?_,fun j v c=>?_,fun j z c=>?_⟩
 ·rw[<-a]at b
  rcases Yh b with b|rfl
  ·exact h.fok v b
  exact⟨by decide,by decide,.inl rfl,fun _=>rfl,fun _=>rfl⟩
 ·obtain⟨y,E,w⟩:=zw.1 h.ca;have p:f.ca=m.ca.filter fun d=>!decide (d.fr=(k:Int)):=by rw[<-a]
  rw[p];refine zw.2 ⟨fun d t=>?_,fun u d f=>(by cases f),w.filter _⟩
  have f:=Yb.1 t;have g:d.fr≠(k:Int):=by simpa using f.2
  obtain⟨p,t,w,x⟩:=jr (y d f.1);have f:=r d.fr p.2.2.2.2.1 g;refine J0 ?_ (by rw[f];exact t) (by rw[f];exact w) (by rw[f];exact x)
  rw[<-a]
  simpa [bkN]using p
 ·rw[Xw]at b
  cases x:T[u]? with
  | none=>rw[x]at b;cases b
  | some w=>
   rw[x]at b;simp only[Option.map_some,Option.some.injEq]at b;subst b;have t:m.sp[u]? =Xa D:=by rw[<-a]at G;exact G
   unfold QG
   by_cases b:isE (w j) 1 (k:Int)=Xc
   ·rw[kE b]
    rcases B with B|⟨f,G,p,p⟩
    ·exact .inl B
    right;refine⟨f,by omega,?_⟩
    simp only[isE,Xu,decide_eq_true_eq]at b
    rcases h.ent u D w t x j c with f|f
    ·rw[f]at b;have:=b.1
     simp[en0]at this
    have p:=f.2.2;unfold zdD at p⊢
    split at p
    ·cases p
    rename_i y
    rw[kF y,kE G,kF];rw[kF (by omega),kF (by have:=(qd f (by omega)).2.2.1;omega)]at p
    rw[b.2,zJ F]at p
    split at p
    ·cases p
    rename_i E
    rintro(p|p)
    ·rw[i]at p;omega
    exact E (.inr (.inl ⟨p,fun p=>by omega⟩))
   rw[kF b]
   rcases h.ent u D w t x j c with f|f
   ·exact .inl f
   refine .inr ⟨f.1,f.2.1,j6 f.2.2 i n fun i=>?_⟩
   obtain⟨n,p,t,t⟩:=qd f i;have g:(w j).n≠(k:Int):=fun f=>b (by simp[isE,n,f])
   rw[r _ p g];exact⟨rfl,rfl,t⟩
 ·rw[<-a]at c⊢;simp only at c⊢;have b:=zdo (k:Int) e 1 (j:Int) T;rw[kF (show¬isE e 1 (j:Int)=Xc by simp[isE,C])]at b
  by_cases f:j=k
  ·subst f;rw[sF s]at c;cases c;rw[kE ⟨rfl,rfl⟩]at b;rw[q];exact⟨by simp[frF];omega,fun h=>by simp[frF]at h⟩
  rw[sN (fun h=>f h.symm)]at c
  rw[kF (by omega)]at b
  rw[l j (by omega)]
  have:=h.cf j v c;refine⟨?_,this.2⟩;omega
 have b:=zdo (k:Int) e 2 (j:Int) T;rw[kF (by omega)]at b
 have:sl'[j]? =Xa z:=by rw[<-a]at c;exact c
 rw[A j z this];omega
theorem ziC {m:Ma} {k:Nat} (h:zO m.ca (k:Int)=0):(m.ca.filter fun d=>!decide (d.fr=(k:Int)))=m.ca:=by
 rw[Yq];intro d a;unfold zO at h;rw[Yp]at h;have:=h d a
 simpa using this
theorem jZ.mine0 (h:jZ m T) {k:Nat} {fr:Fr} (e:m.fs[k]? =Xa fr) (a:fr.f=-1):zO m.ca (k:Int)=0:=by
 refine Classical.byContradiction fun c=>?_
 obtain⟨d,a,b⟩:=zb3 c;obtain⟨c,c,c,f⟩:=jr ((zw.1 h.ca).1 d a);rw[b,zJ e]at c;omega
end
def Zf (k:Int) (e:En) (s:Sp):Sp:={ s with tb:=ZL (QG k e (ze s)) }
theorem zbb (h:Rt m) {s:Sp} (a:s∈m.sp) {k:Int} {e:En} (b:enW e=0):ze (Zf k e s)=QG k e (ze s):=by
 have c:∀n,enW (QG k e (ze s) n)=0:=fun n=>by
  unfold QG
  split
  ·exact b
  exact(h.tb a).get _ _
 funext j
 by_cases b:j<64
 ·unfold Zf;unfold ze;exact ze1 (fun n _=>c n) b
 have b:ze s j=en0:=by
  unfold ze zdt;rw[gN (l:=s.tb) (by rw[(h.tb a).1];omega)]
  rfl
 have a:ze (Zf k e s) j=en0:=by
  unfold ze zdt Zf;simp only;rw[gN (l:=ZL (QG k e (ze s))) (by simp[ZL,Qt];omega)]
  rfl
 rw[a];unfold QG;rw[b,jq 1 k (by decide)]
 rfl
section
variable{m:Ma}
theorem zgu (h:Rt m) {k:Int} {e:En} (b:enW e=0):∀s∈m.sp.map (Zf k e),ZU s.tb:=fun s c=>by
 obtain⟨d,a,rfl⟩:=Yc.1 c;have c:∀n,n<64->enW (QG k e (ze d) n)=0:=fun n _=>by
  unfold QG
  split
  ·exact b
  exact(h.tb a).get _ _
 exact⟨by simp[Zf,ZL,Qt],Qm.1 (zi3 c)⟩
theorem zaJ {k:Int} {e:En} {q:Nat} {a:Sp} (h:(m.sp.map (Zf k e))[q]? =Xa a):∃s,m.sp[q]? =Xa s/\a=Zf k e s:=by
 rw[Xw]at h
 cases a:m.sp[q]? with
 | none=>rw[a]at h;cases h
 | some s=>rw[a]at h;simp only[Option.map_some,Option.some.injEq]at h;exact⟨s,rfl,h.symm⟩
theorem zeA (h:Rt m) {k:Int} {e:En} (b:enW e=0) (sp':List Sp) (a:sp'=m.sp.map (Zf k e)):sp'.map ze=(jy m).map (QG k e):=by
 rw[a];unfold jy;rw[List.map_map,List.map_map]
 apply Yr
 intro s a;exact zbb h a b
theorem zeC {α:Type} {p q:α->Bool}:∀{l:List α},(∀x∈l,p x=q x)->l.find? p=l.find? q
 | [],_=>rfl
 | x :: l,h=>by
  rw[List.find?_cons,List.find?_cons,h x (by simp),zeC (l:=l) fun y a=>h y (by simp[a])]
theorem zfC {m:Ma} {k:Nat} {fr:Fr} (_hk:k<m.fs.length) (a:m'.fs=m.fs.set k fr) (c:0<=z) (b:z≠(k:Int)):zQ m' z=zQ m z:=by
 unfold zQ;rw[a,gD,gD,sN (by omega)]
def ZF (m:Ma) (k j:Nat) (r:Int) (sb':List (List Int)) (sq':List (Int × List Int)):Ma:={ m with fs:=m.fs.set k frF,sl:=m.sl.set j r,sb:=sb',sq:=sq',sp:=m.sp.map (Zf (k:Int) ⟨2,(j:Int),Xd⟩) }
theorem zpV (h:Rt m) {k:Nat} {fr:Fr} {sb':List (List Int)} {sq':List (Int × List Int)} (q:m.fs[k]? =Xa fr) (u:fr.f=-1) (_hr:fr.r≠0) (v:m.sl[j]? =Xa 0) (a:sb'.length=m.sb.length) (c:zS sb'.length sq'=0) (w:qY sb' sq' (j:Int)=pgL fr.p) (x:∀i:Int,0<=i->i≠(j:Int)->qY sb' sq' i=qY m.sb m.sq i):
  Rt (ZF m k j fr.r sb' sq')/\Sam (fun _ _=>False) m (ZF m k j fr.r sb' sq'):=by
 have r:=(gS.1 q).1;have b:=(gS.1 v).1;have d:=h.inv.sl60;have t:enW ⟨2,(j:Int),Xd⟩=0:=JV (by simp) ⟨by simp,by simp only;omega,fun h=>by simp at h⟩ (by simp)
 have n:=h.inv.mine0 q u;have d:=h.inv.moved q ⟨2,(j:Int),Xd⟩ (by simp) (sl':=m.sl.set j fr.r) (sb':=sb') (sq':=sq') (by simp) a c (fun i z a=>by
  have c:=(h.inv.cf k fr q).1
  by_cases e:i=j
  ·subst e;rw[sF b]at a;cases a;have:=h.inv.cs i 0 v;rw[kE (by simp[isE])]
   omega
  rw[sN (fun h=>e h.symm)]at a
  have:=h.inv.cs i z a;rw[kF (by simp[isE];omega)]
  omega) (.inr ⟨t,rfl,by simp only;omega,u⟩)
 rw[ziC n]at d;have b:(ZF m k j fr.r sb' sq').sp=m.sp.map (Zf (k:Int) ⟨2,(j:Int),Xd⟩):=rfl;have a:=zeA h (k:=(k:Int)) t _ b;have c:jZ (ZF m k j fr.r sb' sq') (jy (ZF m k j fr.r sb' sq')):=by
  unfold jy;rw[a];refine jZ.tabs d (sp':=(ZF m k j fr.r sb' sq').sp) (by rw[b];simp) fun p s A f g=>?_
  rw[b]at g;obtain⟨B,l,rfl⟩:=zaJ g;have a:m.sp[p]? =Xa s:=f;rw[a]at l;cases l;exact⟨rfl,rfl⟩
 refine⟨Rt.of c (by rw[b];exact zgu h t) h.hand.1 (by show m.hand<max ((m.fs.set k frF).length:Int) 1;simpa using h.hand.2),?_⟩
 have a:(ZF m k j fr.r sb' sq').ca=m.ca:=rfl;have c:∀a d,zT (ZF m k j fr.r sb' sq') a d=zT m a d:=fun a d=>by
  refine zg4 (m:=m) (m':=ZF m k j fr.r sb' sq') rfl rfl rfl rfl (fun y z=>?_) a d
  have d:y.fr≠(k:Int):=fun e=>by have:=ZT z;rw[e]at this;exact this n
  rw[zfC r (m':=ZF m k j fr.r sb' sq') rfl (jr ((zw.1 h.inv.ca).1 y z)).1.2.2.2.2.1 d]
 refine⟨by rw[b];simp,fun n s A f g=>?_,fun n n s A f g y _=>?_,rfl,fun _=>rfl,fun _=>rfl,fun a i _=>by rw[c]⟩
 ·rw[b]at g;obtain⟨B,l,rfl⟩:=zaJ g;rw[f]at l;cases l;exact⟨rfl,rfl⟩
 rw[b]at g;obtain⟨B,l,rfl⟩:=zaJ g;rw[f]at l;cases l;rw[zbb h (mG f) t];unfold QG
 by_cases a:isE (ze s n) 1 (k:Int)=Xc
 ·rw[kE a];simp only[isE,Xu,decide_eq_true_eq]at a;unfold ZM
  by_cases b:(zD s.ars n).is=Xd
  ·rw[kE b,kE b]
  rw[kF b,kF b,kF (by simp),kE rfl,kE a.1,a.2,zJ q]
  show(qY sb' sq' (j:Int),Xc,(0:Int))=_
  rw[w,u];rfl
 rw[kF a];have g:=h.inv.en (ql f) y;have b:=(jD g).2.1.1;refine zcD rfl rfl (fun g=>?_) (fun l=>?_) (fun _=>rfl) c
 ·have d:(ze s n).n≠(k:Int):=fun e=>a (by simp[isE,g,e])
  rw[zfC r (m':=ZF m k j fr.r sb' sq') rfl b d];exact⟨rfl,Iff.rfl⟩
 refine x _ b fun e=>?_
 have a:=h.inv.cs j 0 v;have a:=zaf (ql f) y (kind:=2) (k:=(j:Int)) (by simp[isE,l,e]) (by decide)
 omega
def qi (m:Ma) (k:Nat):Ma:={ m with fs:=m.fs.set k frF,ca:=m.ca.filter fun d=>!decide (d.fr=(k:Int)),sp:=m.sp.map (Zf (k:Int) en0) }
theorem zrj {p:List Int} {idx a:Int} {i:Nat} (h:8*idx+(i:Int)<a):(Qh p idx a).getD i 0=p.getD i 0:=by
 unfold Qh;rw[gD,gD,Yf]
 cases p[i]? with
 | none=>rfl
 | some z=>simp only[Option.map_some,Option.getD_some];rw[kF (by omega)]
theorem zqz (h:Rt m) {k:Nat} {fr:Fr} (S:Nat->Nat->Prop) (j:m.fs[k]? =Xa fr) (b:0<=fr.f) (_hr:fr.r≠0) (l:Qk m fr.f fr.x=Qh (pgL fr.p) fr.x (QD m fr.f))
  (hS:Qh (pgL fr.p) fr.x (QD m fr.f)=pgL fr.p\/∀(q n:Nat) s,m.sp[q]? =Xa s->n<64->(zD s.ars n).is=Xc->(zD s.ars n).file=fr.f->(zD s.ars n).page=fr.x->(ze s n).kind=0\/isE (ze s n) 1 (k:Int)=Xc->S q n):
  Rt (qi m k)/\Sam S m (qi m k):=by
 have C:=(gS.1 j).1;have a:=h.inv.cf k fr j;obtain⟨c,w,d⟩:=zb3 (a.2 b);obtain⟨L,a,D,E⟩:=jr ((zw.1 h.inv.ca).1 c w);rw[d,zJ j]at a D E;have c:=h.inv.moved j en0 (by decide) (sl':=m.sl) (sb':=m.sb) (sq':=m.sq) rfl rfl h.inv.sq (fun y z G=>by
  have:=h.inv.cs y z G;rw[kF (by simp[jq])]
  omega) (.inl rfl)
 have b:(qi m k).sp=m.sp.map (Zf (k:Int) en0):=rfl;have a:=zeA h (k:=(k:Int)) QP _ b;have e:jZ (qi m k) (jy (qi m k)):=by
  unfold jy;rw[a];refine jZ.tabs c (sp':=(qi m k).sp) (by rw[b];simp) fun p s H c i=>?_
  rw[b]at i;obtain⟨K,t,rfl⟩:=zaJ i;have a:m.sp[p]? =Xa s:=c;rw[a]at t;cases t;exact⟨rfl,rfl⟩
 refine⟨Rt.of e (by rw[b];exact zgu h QP) h.hand.1 (by show m.hand<max ((m.fs.set k frF).length:Int) 1;simpa using h.hand.2),?_⟩
 have f:∀file a,(qi m k).ca.find? (Jr file a)=if file=fr.f/\a=fr.x then Xb else m.ca.find? (Jr file a):=fun file a=>by
  show(m.ca.filter fun r=>!decide (r.fr=(k:Int))).find? (Jr file a)=_
  by_cases e:file=fr.f/\a=fr.x
  ·rw[kE e];rw[Yg];intro r l g;have u:=Yb.1 l;simp only[Jr,Xu,decide_eq_true_eq]at g;have c:=Je h.inv.ca u.1;have i:=Je h.inv.ca w;rw[g.1,g.2,e.1,e.2,D,E,i]at c;cases c;have:=u.2
   simp[d]at this
  rw[kF e];rw[List.find?_filter]
  apply zeC
  intro r l
  cases g:Jr file a r with
  | false=>simp
  | true=>
   simp only[Jr,Xu,decide_eq_true_eq]at g;have:r.fr≠(k:Int):=fun B=>by
    obtain⟨x,F,z,A⟩:=jr ((zw.1 h.inv.ca).1 r l);rw[B,zJ j]at z A;exact e ⟨by rw[<-g.1,z],by rw[<-g.2,A]⟩
   simp[this]
 have v:zT m fr.f fr.x=pgL fr.p:=by
  unfold zT;have:=Je h.inv.ca w;rw[<-D,<-E]at this;rw[this];simp only;rw[d,zJ j]
 have u:zT (qi m k) fr.f fr.x=Qh (pgL fr.p) fr.x (QD m fr.f):=by
  unfold zT;rw[f,kE ⟨rfl,rfl⟩];exact l
 have w:∀file a,¬(file=fr.f/\a=fr.x)->zT (qi m k) file a=zT m file a:=fun file a l=>by
  unfold zT;rw[f,kF l]
  cases d:m.ca.find? (Jr file a)with
  | none=>rfl
  | some r=>
   simp only;have a:=List.mem_of_find?_eq_some d;obtain⟨x,F,z,A⟩:=jr ((zw.1 h.inv.ca).1 r a);have g:=List.find?_some d;simp only[Jr,Xu,decide_eq_true_eq]at g;rw[zfC C (m':=qi m k) rfl x.2.2.2.2.1 (fun B=>?_)]
   rw[B,zJ j]at z A;exact l ⟨by rw[<-g.1,z],by rw[<-g.2,A]⟩
 refine⟨by rw[b];simp,fun q s H c i=>?_,fun q n s H c i r a=>?_,rfl,fun _=>rfl,fun _=>rfl,fun file y G=>?_⟩
 ·rw[b]at i;obtain⟨K,t,rfl⟩:=zaJ i;rw[c]at t;cases t;exact⟨rfl,rfl⟩
 ·rw[b]at i;obtain⟨K,t,rfl⟩:=zaJ i;rw[c]at t;cases t;rw[zbb h (mG c) QP];unfold QG;have b:fr.x<bkN m fr.f:=by rw[D,E];exact L.2.2.2.1
  have hcut:(zD s.ars n).is=Xc->(zD s.ars n).file=fr.f->(zD s.ars n).page=fr.x->(ze s n).kind=0\/isE (ze s n) 1 (k:Int)=Xc->zT (qi m k) fr.f fr.x=pgL fr.p:=fun b d f g=>by
   rw[u]
   rcases hS with e|e
   ·exact e
   exact absurd (e q n s c r b d f g) a
  by_cases d:isE (ze s n) 1 (k:Int)=Xc
  ·rw[kE d];have a:=d;simp only[isE,Xu,decide_eq_true_eq]at a;have b:zau m (zD s.ars n) (ze s n):=by
    rcases h.ent c r with e|e
    ·rw[e]at a;have:=a.1
     simp[en0]at this
    exact e
   have f:=b.2.2;unfold zdD at f
   split at f
   ·cases f
   rename_i x
   rw[kF (by omega),kF (by have:=(qd b (by omega)).2.2.1;omega),a.2,zJ j]at f
   split at f
   ·cases f
   rename_i F
   have b:0<=(zD s.ars n).file/\fr.f=(zD s.ars n).file/\fr.x=(zD s.ars n).page:=Classical.byContradiction fun B=>F (.inl ⟨by omega,B⟩)
   have f:(zD s.ars n).is=Xc:=by
    cases g:(zD s.ars n).is with
    | true=>rfl
    | false=>exact absurd g x
   unfold ZM;rw[kF x,kF x,kF (by decide),kF (by decide),kF (by omega),kE a.1,a.2,zJ j,kF (by rw[<-b.2.1,<-b.2.2];show¬bkN m fr.f<=fr.x;omega),<-b.2.1,<-b.2.2,hcut f b.2.1.symm b.2.2.symm (.inr d)]
   have:decide (fr.f<0)=Xd:=by simp;omega
   rw[this]
  rw[kF d];have a:=h.inv.en (ql c) r;have c:=(jD a).2.1.1;unfold ZM
  by_cases g:(zD s.ars n).is=Xd
  ·rw[kE g,kE g]
  rw[kF g,kF g]
  by_cases b:(ze s n).kind=1
  ·rw[kE b,kE b];have l:(ze s n).n≠(k:Int):=fun e=>d (by simp[isE,b,e])
   rw[zfC C (m':=qi m k) rfl c l]
  rw[kF b,kF b]
  by_cases b:(ze s n).kind=2
  ·rw[kE b,kE b];rfl
  rw[kF b,kF b];have b:bkN (qi m k)=bkN m:=rfl;rw[b]
  by_cases b:(zD s.ars n).file<0
  ·rw[kE b,kE b]
  rw[kF b,kF b]
  by_cases b:bkN m (zD s.ars n).file<=(zD s.ars n).page
  ·rw[kE b,kE b]
  rw[kF b,kF b]
  by_cases b:(zD s.ars n).file=fr.f/\(zD s.ars n).page=fr.x
  ·have f:(zD s.ars n).is=Xc:=by
    cases c:(zD s.ars n).is with
    | true=>rfl
    | false=>exact absurd c g
   have c:(ze s n).kind=0:=by have:=(jD a).1;omega
   have:=hcut f b.1 b.2 (.inl c);rw[b.1,b.2,this,v]
  rw[w _ _ b]
 by_cases e:(file:Int)=fr.f/\((y / 8:Nat):Int)=fr.x
 ·rw[e.1,e.2,u,v];refine zrj ?_;rw[e.1]at G;rw[<-e.2];have:8*(y / 8)+y % 8=y:=by omega
  omega
 rw[w _ _ e]
end
theorem zmv:∀{l:List Ar} {p:Option Ar} {n:Nat},Qz p l->(zD l n).is=Xc->0<=(zD l n).page/\((zD l n).page<=11\/(zD l n).file<0)
 | [],_,_,_,h=>by cases h
 | a :: l,p,n,b,h=>by
  unfold zD at h⊢
  by_cases e:Jk a n=Xc
  ·rw[kE e]at h⊢;have c:=b.1;have d:=ja.1 e;unfold jN at c;unfold qg;simp only
   split
   ·exact⟨by omega,.inl (by omega)⟩
   exact⟨by omega,.inr (by omega)⟩
  rw[kF e]at h⊢;exact zmv b.2.2 h
theorem Rt.page (h:Rt m) {p n:Nat} {s:Sp} (a:m.sp[p]? =Xa s) (b:(zD s.ars n).is=Xc):0<=(zD s.ars n).page:=
 (zmv (J6.1 (h.inv.spok s (mG a)).1).2 b).1
section
variable{m:Ma}
def zdT (m:Ma) (file idx:Nat) (f:Fl) (b:Int) (db':List (List Int)) (dq':List (Int × List Int)):Ma:={ m with fl:=m.fl.set file ⟨f.size,f.bl.set idx b⟩,db:=db',dq:=dq' }
theorem znH (t:Rt m) {file idx:Nat} {f:Fl} {d:List (List Int)} {k:List (Int × List Int)} (I:m.fl[file]? =Xa f) (ae:stW (m.fl.set file ⟨f.size,f.bl.set idx (b:Int)⟩) m.cnt=0)
  (G:∀x,qe (m.fl.set file ⟨f.size,f.bl.set idx (b:Int)⟩) x=Xc↔(qe m.fl x=Xc/\x≠-1)\/x=(b:Int)\/(x=-1/\qe (m.fl.set file ⟨f.size,f.bl.set idx (b:Int)⟩) x=Xc))
  (Q:d.length=m.db.length) (R:zS d.length k=0) (N:∀i:Nat,d[i]? =m.db[i]?\/∃q∈m.dq,q.1=(i:Int)) (L:∀q∈k,q.1=(b:Int)\/∃a5∈m.dq,a5.1=q.1) (ad:∀i:Int,i≠(b:Int)->qY d k i=qY m.db m.dq i)
  (_hb0:f.bl[idx]? =Xa (b:Int)\/(qe m.fl (b:Int)=Xd)) (aa:∃c∈m.ca,c.file=(file:Int)/\c.idx=(idx:Int)) (T:∀(i j:Nat) g,m.fl[i]? =Xa g->g.bl[j]? =Xa (b:Int)->i=file/\j=idx):
  (Rt (zdT m file idx f (b:Int) d k)/\Sam (fun _ _=>False) m (zdT m file idx f (b:Int) d k))/\∀(i j:Nat),(j:Int)<bkN m (i:Int)->zT (zdT m file idx f (b:Int) d k) (i:Int) (j:Int)=zT m (i:Int) (j:Int):=by
 have F:=(gS.1 I).1;obtain⟨r,a⟩:∃r,zdT m file idx f (b:Int) d k=r:=⟨_,rfl⟩;have V:∀z,QD r z=QD m z:=fun z=>by
  rw[<-a];unfold QD zdT;simp only[gD]
  by_cases e:z.toNat=file
  ·rw[e,sF F,I];rfl
  rw[sN (fun t=>e t.symm)]
 have D:∀z,bkN r z=bkN m z:=fun z=>by
  rw[<-a];unfold bkN zdT;simp only[gD]
  by_cases e:z.toNat=file
  ·rw[e,sF F,I];simp
  rw[sN (fun t=>e t.symm)]
 have u:∀z,zQ r z=zQ m z:=fun z=>by rw[<-a];rfl
 have B:r.fl.length=m.fl.length:=by rw[<-a];simp[zdT]
 have h:r.sp=m.sp:=by rw[<-a];rfl
 have P:r.ca=m.ca:=by rw[<-a];rfl
 have a8:jZ r (jy r):=by
  have ax:jy r=jy m:=by unfold jy;rw[h]
  rw[ax];have l:=t.inv;refine⟨by rw[<-a];exact l.fs40,by rw[<-a];exact l.fok,by rw[<-a];exact l.sl60,by rw[<-a];exact l.sbl,by rw[<-a];exact l.sq,by rw[<-a];exact R,by rw[<-a];exact ae,by rw[<-a];show m.cnt=(d.length:Int);rw[Q];exact l.cnt,fun i y ak=>?_,fun q U=>?_,by rw[h];exact l.spl,by rw[h];exact l.spok,by rw[h];exact l.tl,?_,?_,by rw[<-a];exact l.cf,by rw[<-a];exact l.cs⟩
  ·rw[<-a]at y ak⊢;have W:qe m.fl (i:Int)=Xd:=by
    cases e:qe m.fl (i:Int)with
    | false=>rfl
    | true=>
     have:=(G (i:Int)).2 (.inl ⟨e,by omega⟩)
     have af:qe (m.fl.set file ⟨f.size,f.bl.set idx (b:Int)⟩) (i:Int)=Xd:=ak;rw[af]at this;cases this
   show d[i]? =_
   rcases N i with e|⟨q,a6,a7⟩
   ·rw[e];exact l.blk i (by rw[<-Q];exact y) W
   have:=l.que q a6;rw[a7,W]at this;cases this
  ·rw[<-a]at U⊢
   show qe (m.fl.set file ⟨f.size,f.bl.set idx (b:Int)⟩) q.1=Xc
   rcases L q U with e|⟨a5,a6,a7⟩
   ·exact(G _).2 (.inr (.inl e))
   refine(G _).2 (.inl ⟨?_,?_⟩)
   ·rw[<-a7];exact l.que a5 a6
   have E:=l.dok;unfold zS at E
   split at E
   ·cases E
   split at E
   ·cases E
   split at E
   ·cases E
   rename_i al
   intro e;refine al (List.any_eq_true.2 ⟨a5,a6,?_⟩);rw[a7,e]
   simp[j7]
  ·obtain⟨am,b5,an⟩:=zw.1 l.ca;rw[P];refine zw.2 ⟨fun c aa=>?_,fun q c L=>(by cases L),an⟩
   obtain⟨ao,ap,aq,ar⟩:=jr (am c aa);refine J0 ?_ (by rw[u];exact ap) (by rw[u];exact aq) (by rw[u];exact ar)
   rw[B,D];rw[<-a];exact ao
  intro az s g a0 w n aj;rw[h]at a0
  rcases l.ent az s g a0 w n aj with e|e
  ·exact .inl e
  refine .inr ⟨e.1,e.2.1,j6 e.2.2 (by rw[<-a];rfl) (by rw[<-a];rfl) fun ac=>?_⟩
  rw[u];exact⟨rfl,rfl,(qd e ac).2.2.2⟩
 have p:∀(i j:Nat),(j:Int)<bkN m (i:Int)->zT r (i:Int) (j:Int)=zT m (i:Int) (j:Int):=fun i j v=>by
  unfold zT;rw[P]
  cases L:m.ca.find? (Jr (i:Int) (j:Int))with
  | some c=>simp only;rw[u]
  | none=>
   simp only;have S:¬(i=file/\j=idx):=fun e=>by
    obtain⟨c,au,av,aw⟩:=aa;rw[Yg]at L;refine L c au ?_
    simp[Jr,av,aw,e.1,e.2]
   have a9:zhf r (i:Int) (j:Int)=zhf m (i:Int) (j:Int):=by
    rw[<-a];unfold zhf zdT;simp only[gD,tN]
    by_cases e:i=file
    ·subst e;rw[sF F,I];simp only[Option.getD_some];rw[sN (fun t=>S ⟨rfl,t.symm⟩)]
    rw[sN (fun t=>e t.symm)]
   rw[a9,V]
   by_cases A:zhf m (i:Int) (j:Int)<0
   ·rw[kE A,kE A]
   rw[kF A,kF A];have y:i<m.fl.length:=Classical.byContradiction fun C=>by
    unfold bkN at v;simp only[gD,tN]at v;rw[gN (by omega)]at v
    simp only[Option.getD_none,Yk]at v;omega
   have w:=gE y;have ai:j< (m.fl[i]).bl.length:=by
    unfold bkN at v;simp only[gD,tN,w,Option.getD_some]at v;omega
   have:zhf m (i:Int) (j:Int)≠(b:Int):=fun e=>by
    unfold zhf at e;simp only[gD,tN,w,Option.getD_some,gE ai]at e;exact S (T i j _ w (by rw[gE ai,e]))
   rw[show qY r.db r.dq (zhf m (i:Int) (j:Int))=qY d k (zhf m (i:Int) (j:Int)) by rw[<-a];rfl,ad _ this]
 rw[a];refine⟨?_,p⟩;refine⟨Rt.of a8 (by rw[h];exact fun s a0=>t.tb a0) (by rw[<-a];exact t.hand.1) (by rw[<-a];exact t.hand.2),⟨by rw[h],fun q s b0 C M=>?_,fun q n s b0 C M aj _=>?_,B,V,D,fun ah ay K=>?_⟩⟩
 ·rw[h,C]at M;cases M;exact⟨rfl,rfl⟩
 ·rw[h,C]at M;cases M;unfold ZM;rw[u,D]
  by_cases X:(zD s.ars n).is=Xd
  ·rw[kE X,kE X]
  rw[kF X,kF X]
  by_cases Y:(ze s n).kind=1
  ·rw[kE Y,kE Y]
  rw[kF Y,kF Y]
  by_cases H:(ze s n).kind=2
  ·rw[kE H,kE H];rw[<-a];rfl
  rw[kF H,kF H]
  by_cases Z:(zD s.ars n).file<0
  ·rw[kE Z,kE Z]
  rw[kF Z,kF Z]
  by_cases a4:bkN m (zD s.ars n).file<=(zD s.ars n).page
  ·rw[kE a4,kE a4]
  rw[kF a4,kF a4];have ab:(zD s.ars n).is=Xc:=by
   cases ag:(zD s.ars n).is with
   | true=>rfl
   | false=>exact absurd ag X
  have b6:=t.page C ab;have:=p (zD s.ars n).file.toNat (zD s.ars n).page.toNat (by
   rw[show(((zD s.ars n).file.toNat:Nat):Int)=(zD s.ars n).file by omega,show(((zD s.ars n).page.toNat:Nat):Int)=(zD s.ars n).page by omega]
   omega)
  rw[show(((zD s.ars n).file.toNat:Nat):Int)=(zD s.ars n).file by omega,show(((zD s.ars n).page.toNat:Nat):Int)=(zD s.ars n).page by omega]at this
  rw[this]
 rw[p ah (ay / 8) ?_]
 by_cases C:ah<m.fl.length
 ·have w:=gE C;obtain⟨Y,H,Z⟩:=((qC _ _).1 t.inv.st).2.1 _ (mG w);unfold QD at K;simp only[gD,tN,w,Option.getD_some]at K;unfold bkN;simp only[gD,tN,w,Option.getD_some];unfold zcl at H
  split at H <;> omega
 unfold QD at K;simp only[gD,tN]at K;rw[gN (by omega)]at K
 simp only[Option.getD_none]at K;omega
end
def Unc (m:Ma) (file idx:Int):Prop:=∀c∈m.ca,¬(c.file=file/\c.idx=idx)
theorem Unc.find {file idx:Int} (h:Unc m file idx):m.ca.find? (Jr file idx)=Xb:=by
 rw[Yg];intro c b a;simp only[Jr,Xu,decide_eq_true_eq]at a;exact h c b a
structure Qw (S:Nat->Nat->Prop) (m m':Ma):Prop where
 rt:Rt m'
 sam:Sam S m m'
 fsl:m'.fs.length=m.fs.length
 bare:∀(q n:Nat) s s',m.sp[q]? =Xa s->m'.sp[q]? =Xa s'->n<64->ze s n=en0->ze s' n=en0
 unc:∀(file idx:Nat),(idx:Int)<bkN m (file:Int)->Unc m (file:Int) (idx:Int)->Unc m' (file:Int) (idx:Int)/\zT m' (file:Int) (idx:Int)=zT m (file:Int) (idx:Int)
theorem Qw.refl {S:Nat->Nat->Prop} (h:Rt m):Qw S m m:=⟨h,Sam.refl S m,rfl,fun q n s a c a _ b=>by rw[c]at a;cases a;exact b,fun _ _ _ h=>⟨h,rfl⟩⟩
theorem Qw.trans {S:Nat->Nat->Prop} {a b c:Ma} (h:Qw S a b) (k:Qw S b c):Qw S a c:=by
 refine⟨k.rt,(h.sam.trans k.sam).mono (fun _ _ e=>e.elim id id),k.fsl.trans h.fsl,fun q n s r f m i l=>?_,fun d e g p=>?_⟩
 ·have:∃t,b.sp[q]? =Xa t:=⟨_,gE (by rw[h.sam.spl];exact(gS.1 f).1)⟩
  obtain⟨t,j⟩:=this;exact k.bare q n t r j m i (h.bare q n s t f j i l)
 obtain⟨u1,u2⟩:=h.unc d e g p;obtain⟨f,i⟩:=k.unc d e (by rw[h.sam.bk];exact g) u1
 exact⟨f,i.trans u2⟩
theorem Qw.bareOk {S:Nat->Nat->Prop} (h:Qw S m m') {x:Nat × Nat} (hb:zry m x):zry m' x:=by
 obtain⟨s,a,c,d,f,g⟩:=hb;have:∃t,m'.sp[x.1]? =Xa t:=⟨_,gE (by rw[h.sam.spl];exact(gS.1 a).1)⟩
 obtain⟨t,b⟩:=this;have e:=(h.sam.sp x.1 s t a b).2;exact⟨t,b,c,h.bare x.1 x.2 s t a b c d,by rw[e];exact f,by rw[e];exact g⟩
section
variable{m:Ma}
theorem zgv (h:Rt m) {k:Int} {e:En} (f:enW e=0) {q n:Nat} {s b:Sp} (a:m.sp[q]? =Xa s) (d:(m.sp.map (Zf k e))[q]? =Xa b) (c:ze s n=en0):ze b n=en0:=by
 obtain⟨b,b,rfl⟩:=zaJ d;rw[a]at b;cases b;rw[zbb h (mG a) f];unfold QG;rw[c,kF (by simp[isE,en0])]
theorem zl9 (S:Nat->Nat->Prop) (h:Rt m) {k:Nat} {fr:Fr} {sb':List (List Int)} {sq':List (Int × List Int)} (g:m.fs[k]? =Xa fr) (f:fr.f=-1) (l:fr.r≠0) (e:m.sl[j]? =Xa 0) (c:sb'.length=m.sb.length) (d:zS sb'.length sq'=0) (a:qY sb' sq' (j:Int)=pgL fr.p) (b:∀i:Int,0<=i->i≠(j:Int)->qY sb' sq' i=qY m.sb m.sq i):
  Qw S m (ZF m k j fr.r sb' sq'):=by
 obtain⟨n,p⟩:=zpV h g f l e c d a b;have a:=h.inv.sl60;have a:=(gS.1 e).1;have d:enW ⟨2,(j:Int),Xd⟩=0:=JV (by simp) ⟨by simp,by simp only;omega,fun h=>by simp at h⟩ (by simp)
 refine⟨n,p.mono (fun _ _ e=>e.elim),by simp[ZF],fun q n s a b c _ a=>zgv h d b c a,fun a c _ b=>⟨b,?_⟩⟩
 unfold zT;rw[show(ZF m k j fr.r sb' sq').ca.find? (Jr (a:Int) (c:Int))=Xb from b.find,b.find]
 rfl
theorem zng (h:Rt m) {k:Nat} {fr:Fr} (S:Nat->Nat->Prop) (c:m.fs[k]? =Xa fr) (b:0<=fr.f) (d:fr.r≠0) (a:Qk m fr.f fr.x=Qh (pgL fr.p) fr.x (QD m fr.f))
  (hS:Qh (pgL fr.p) fr.x (QD m fr.f)=pgL fr.p\/∀(q n:Nat) s,m.sp[q]? =Xa s->n<64->(zD s.ars n).is=Xc->(zD s.ars n).file=fr.f->(zD s.ars n).page=fr.x->(ze s n).kind=0\/isE (ze s n) 1 (k:Int)=Xc->S q n):
  Qw S m (qi m k):=by
 obtain⟨f,g⟩:=zqz h S c b d a hS;have c:∀file a,Unc m file a->Unc (qi m k) file a:=fun file a b d e=>b d (Yb.1 e).1
 refine⟨f,g,by simp[qi],fun q n s d e f _ d=>zgv h QP e f d,fun file a _ b=>⟨c _ _ b,?_⟩⟩
 unfold zT;rw[(c _ _ b).find,b.find];rfl
theorem zkA (S:Nat->Nat->Prop) (h:Rt m) {k:Nat} {fr:Fr} (a:m.fs[k]? =Xa fr) (b:fr.r≠0) (u d:Bool):Qw S m { m with fs:=m.fs.set k { fr with u:=u,d:=d } }:=by
 obtain⟨c,e⟩:=zfg h a b u d;refine⟨c,e.mono (fun _ _ e=>e.elim),by simp,fun q n s g e f _ c=>?_,fun b b _ b=>⟨b,?_⟩⟩
 ·have:m.sp[q]? =Xa g:=f;rw[e]at this;cases this;exact c
 exact ZS (gS.1 a).1 h.inv.ca (fun _=>by rw[zJ a]) _ _
theorem zmW (S:Nat->Nat->Prop) (h:Rt m) (e:0<=z) (b:z<max (m.fs.length:Int) 1):Qw S m { m with hand:=z }:=by
 have a:=h.inv;have c:jZ { m with hand:=z } (jy { m with hand:=z }):=⟨a.fs40,a.fok,a.sl60,a.sbl,a.sq,a.dok,a.st,a.cnt,a.blk,a.que,a.spl,a.spok,a.tl,zw.2 ⟨fun d f=>(zw.1 a.ca).1 d f,fun _ _ d=>(by cases d),(zw.1 a.ca).2.2⟩,a.ent,a.cf,a.cs⟩
 refine⟨Rt.of c (fun s a=>h.tb a) e b,⟨rfl,fun q s c b a=>?_,fun q n s c b a _ _=>?_,rfl,fun _=>rfl,fun _=>rfl,fun _ _ _=>rfl⟩,rfl,fun q n s c b a _ e=>?_,fun d d _ d=>⟨d,rfl⟩⟩
 ·have:m.sp[q]? =Xa c:=a;rw[b]at this;cases this;exact⟨rfl,rfl⟩
 ·have:m.sp[q]? =Xa c:=a;rw[b]at this;cases this;rfl
 have:m.sp[q]? =Xa c:=a;rw[b]at this;cases this;exact e
end
theorem Qw.mono {S c:Nat->Nat->Prop} {a b:Ma} (h:Qw S a b) (hS:∀q n,S q n->c q n):Qw c a b:=⟨h.rt,h.sam.mono hS,h.fsl,h.bare,h.unc⟩
section
variable{m:Ma} {p n:Nat} {s:Sp}
theorem JX (f:Rt m) (g:m.sp[p]? =Xa s) (h:n<64):Qw (fun q j=>q=p/\j=n) m (qO m p n)/\(∀b,(qO m p n).sp[p]? =Xa b->ze b n=en0)/\(qO m p n).ca=m.ca/\(qO m p n).fl=m.fl/\∀(q j:Nat) s b,m.sp[q]? =Xa s->(qO m p n).sp[q]? =Xa b->¬(q=p/\j=n)->ze b j=ze s j:=by
 have d:m.sp.getD p ⟨Xd,[],[]⟩=s:=by rw[gD,g];rfl
 have w:∀s∈m.sp,ZU s.tb:=fun s g=>f.tb g
 obtain⟨u,v⟩:=zqC f g h;have i:∃e,qO m p n=Ji e p n en0/\e.sp=m.sp/\e.ca=m.ca/\e.fl=m.fl/\e.fs.length=m.fs.length/\∀a c,zT e a c=zT m a c:=by
  unfold qO;simp only[d]
  by_cases d:(ze s n).kind=1
  ·rw[kE d];obtain⟨k,k,k,l,r,t⟩:=f.present g h d;rw[r,k,tN];exact⟨_,rfl,rfl,rfl,rfl,by simp,fun a c=>zeI f.inv l (ql g) h d k a c⟩
  rw[kF d]
  by_cases f:(ze s n).kind=2
  ·rw[kE f];exact⟨_,rfl,rfl,rfl,rfl,rfl,fun _ _=>rfl⟩
  rw[kF f];exact⟨_,rfl,rfl,rfl,rfl,rfl,fun _ _=>rfl⟩
 obtain⟨e,k,r,t,x,y,z⟩:=i;rw[k]at u v⊢;have i:∀s∈e.sp,ZU s.tb:=by rw[r];exact w
 have l:∀(q j:Nat) s b,m.sp[q]? =Xa s->(Ji e p n en0).sp[q]? =Xa b->¬(q=p/\j=n)->ze b j=ze s j:=fun q j s b d f k=>za6 i h QP (by rw[r];exact d) f k
 have k:∀b,(Ji e p n en0).sp[p]? =Xa b->ze b n=en0:=fun b d=>(JK i (by rw[r];exact g) h QP d).1
 refine⟨⟨u,v,y,fun q j s b d f _ g=>?_,fun a c _ e=>⟨fun c a=>e c (by rw[<-t];exact a),z _ _⟩⟩,k,t,x,l⟩
 by_cases e:q=p/\j=n
 ·obtain⟨rfl,rfl⟩:=e;exact k b f
 rw[l q j s b d f e];exact g
end
def zh (m:Ma):List (Nat × Nat)->Ma
 | []=>m
 | x :: l=>zh (qO m x.1 x.2) l
theorem qG:∀(l:List (Nat × Nat)) {m:Ma},Rt m->(∀x∈l,x.2<64/\∃s,m.sp[x.1]? =Xa s)->
  Qw (fun q j=>(q,j)∈l) m (zh m l)/\(∀x∈l,∀a,(zh m l).sp[x.1]? =Xa a->ze a x.2=en0)/\(zh m l).ca=m.ca/\(zh m l).fl=m.fl/\∀(q j:Nat) s a,m.sp[q]? =Xa s->(zh m l).sp[q]? =Xa a->(q,j)∉l->ze a j=ze s j
 | [],m,p,_=>⟨Qw.refl p,fun x H=>(by cases H),rfl,rfl,fun q j s a i d _=>by simp only[zh]at d;rw[i]at d;cases d;rfl⟩
 | x :: l,m,p,u=>by
  obtain⟨G,s,k⟩:=u x (Xt ..);obtain⟨n,C,D,E,F⟩:=JX p k G;have b:∀(q:Nat) s,m.sp[q]? =Xa s->∃a,(qO m x.1 x.2).sp[q]? =Xa a:=fun q s k=>⟨_,gE (by rw[n.sam.spl];exact(gS.1 k).1)⟩
  obtain⟨K,L,M,N,v⟩:=qG l n.rt (fun y r=>by
   obtain⟨A,P,B⟩:=u y (Xs _ r);exact⟨A,b y.1 P B⟩)
  refine⟨(n.mono ?_).trans (K.mono fun q j e=>Xs _ e),fun y r a f=>?_,M.trans D,N.trans E,fun q j s a i d t=>?_⟩
  ·rintro q j ⟨rfl,rfl⟩;exact Xt ..
  ·by_cases c:y∈l
   ·exact L y c a f
   rcases mC.1 r with rfl|e
   ·obtain⟨w,g⟩:=b y.1 s k;rw[v y.1 y.2 w a g f c];exact C w g
   exact absurd e c
  obtain⟨z,h⟩:=b q s i;rw[v q j z a h d (fun e=>t (Xs _ e))]
  refine F q j s z i h (fun e=>t ?_)
  have:(q,j)=x:=Prod.ext e.1 e.2;rw[this];exact Xt ..
theorem zqE (p) (idx a:Int):Qh (Qh p idx a) idx a=Qh p idx a:=by
 unfold Qh
 apply Xv
 intro i;simp only[Yf]
 cases p[i]? with
 | none=>rfl
 | some z=>
  simp only[Option.map_some,Option.some.injEq]
  split <;> rfl
theorem zj1 {file idx:Nat} {f:Fl} {a:List (List Int)} {c:List (Int × List Int)} (g:m.fl[file]? =Xa f) (hi:idx<f.bl.length) {p:List Int} (e:qY a c (b:Int)=Qh p (idx:Int) (QD m (file:Int))):
  Qk (zdT m file idx f (b:Int) a c) (file:Int) (idx:Int)=Qh p (idx:Int) (QD m (file:Int)):=by
 have d:=(gS.1 g).1;have h:zhf (zdT m file idx f (b:Int) a c) (file:Int) (idx:Int)=(b:Int):=by
  unfold zhf zdT;simp only[gD,tN];rw[sF d];simp only[Option.getD_some];rw[sF hi];rfl
 have i:QD (zdT m file idx f (b:Int) a c) (file:Int)=QD m (file:Int):=by
  unfold QD zdT;simp only[gD,tN];rw[sF d,g];rfl
 unfold Qk;rw[h,i,kF (by omega),show qY (zdT m file idx f (b:Int) a c).db (zdT m file idx f (b:Int) a c).dq (b:Int)=qY a c (b:Int)from rfl,e,zqE]
theorem Sam.fill {S b:Nat->Nat->Prop} (h:Sam S m m') (hS:∀(q n:Nat) s a,m.sp[q]? =Xa s->m'.sp[q]? =Xa a->n<64->S q n->¬b q n->ZM m' (zD s.ars n) (ze a n)=ZM m (zD s.ars n) (ze s n)):Sam b m m':=by
 refine⟨h.spl,h.sp,fun q n s a c d f b=>?_,h.fll,h.sz,h.bk,h.byt⟩
 by_cases e:S q n
 ·exact hS q n s a c d f e b
 exact h.see q n s a c d f e
section
variable{m m2:Ma} {k:Nat} {fr:Fr}
theorem zrk {l:List (Nat × Nat)} (b:Rt m) (v:l≠[]) (r:l.Nodup) (e:∀x∈l,x.2<64/\∃s,m.sp[x.1]? =Xa s/\(zD s.ars x.2).is=Xc/\(zD s.ars x.2).sh=Xd) (f:Qw (fun q j=>(q,j)∈l) (zh m l) m2) (h:m2.fs[k]? =Xa fr) (w:fr.r=0) (pg) (u:Bool):
  Rt (zaS m2 k pg u l)/\Sam (fun q j=>(q,j)∈l) m (zaS m2 k pg u l)/\(zaS m2 k pg u l).fs[k]? =Xa ⟨pg,(l.length:Int),u,Xd,-1,0⟩/\(∀x∈l,∀a,(zaS m2 k pg u l).sp[x.1]? =Xa a->ze a x.2=⟨1,(k:Int),Xd⟩):=by
 obtain⟨d,n,a,a,a⟩:=qG l b (fun x a=>by obtain⟨c,s,b,_⟩:=e x a;exact⟨c,s,b⟩)
 have p:∀x∈l,zry (zh m l) x:=fun x a=>by
  obtain⟨c,s,b,i,j⟩:=e x a;have:∃t,(zh m l).sp[x.1]? =Xa t:=⟨_,gE (by rw[d.sam.spl];exact(gS.1 b).1)⟩
  obtain⟨t,g⟩:=this;have e:=(d.sam.sp x.1 s t b g).2;exact⟨t,g,c,n x a t g,by rw[e];exact i,by rw[e];exact j⟩
 obtain⟨b,c,g⟩:=zqH f.rt h w pg u v (fun x a=>f.bareOk (p x a)) r
 refine⟨b,((d.trans f).sam.trans c).mono (fun _ _ e=>e.elim id id),?_,g⟩
 show(m2.fs.set k _)[k]? =_
 rw[sF (gS.1 h).1]
theorem zlj {l:List (Nat × Nat)} {a:Ma} {pg:Pg} {r:Int} {u:Bool} (c:Sam (fun q j=>(q,j)∈l) m a) (i:a.fs[k]? =Xa ⟨pg,r,u,Xd,-1,0⟩) (h:∀x∈l,∀b,a.sp[x.1]? =Xa b->ze b x.2=⟨1,(k:Int),Xd⟩)
  (S:Nat->Nat->Prop) (p:∀(q n:Nat) s,m.sp[q]? =Xa s->n<64->(q,n)∈l->¬S q n->(zD s.ars n).is=Xc/\ZM m (zD s.ars n) (ze s n)=(pgL pg,Xc,0)):Sam S m a:=by
 refine c.fill fun q n s b e f j a g=>?_
 obtain⟨c,d⟩:=p q n s e j a g;rw[h (q,n) a b f,zi5 c i,d];rfl
theorem zqA {p n:Nat} {s:Sp} {file idx:Nat} (e:Rt m) (a:m.sp[p]? =Xa s) (c:n<64) (A:(zD s.ars n).is=Xc) (i:(zD s.ars n).file=(file:Int)) (j:(zD s.ars n).page=(idx:Int)) (f:file<m.fl.length) (hi:(idx:Int)<bkN m (file:Int)) (z:Unc m (file:Int) (idx:Int))
  (h:Qw (fun q b=>q=p/\b=n) (qO m p n) m2) (v:m2.fs[k]? =Xa fr) (y:fr.r=0) {pg:Pg} (hp:pgL pg=zT m (file:Int) (idx:Int)) (u d:Bool):
  Rt (q5 (qZ m2 k pg u d file idx) k p n)/\Sam (fun q b=>q=p/\b=n) m (q5 (qZ m2 k pg u d file idx) k p n)/\(q5 (qZ m2 k pg u d file idx) k p n).fs[k]? =Xa ⟨pg,2,u,d,file,idx⟩/\∀l,(q5 (qZ m2 k pg u d file idx) k p n).sp[p]? =Xa l->ze l n=⟨1,(k:Int),Xd⟩:=by
 obtain⟨b,w,f,f,f⟩:=JX e a c;have g:=b.trans h;have:∃t,m2.sp[p]? =Xa t:=⟨_,gE (by rw[g.sam.spl];exact(gS.1 a).1)⟩
 obtain⟨t,e⟩:=this;have:∃f,(qO m p n).sp[p]? =Xa f:=⟨_,gE (by rw[b.sam.spl];exact(gS.1 a).1)⟩
 obtain⟨f,b⟩:=this;have x:=h.bare p n f t b e c (w f b);have f:=(g.sam.sp p s t a e).2;obtain⟨u1,u2⟩:=g.unc file idx hi z;have b:=(gS.1 v).1;have h:(qZ m2 k pg u d file idx).fs[k]? =Xa ⟨pg,1,u,d,file,idx⟩:=by
  show(m2.fs.set k _)[k]? =_
  rw[sF b]
 obtain⟨t,w⟩:=zo5 g.rt v y (u:=u) (d:=d) (file:=(file:Int)) (idx:=(idx:Int)) ⟨by omega,by rw[g.sam.fll];omega⟩ ⟨by omega,by rw[g.sam.bk];exact hi⟩ u1 (by rw[u2];exact hp) e c x (by rw[f];exact A) (by rw[f];exact i) (by rw[f];exact j)
 have f:=zch g.rt.inv b Xd;refine⟨t,(g.sam.trans w).mono (fun _ _ b=>b.elim id id),by rw[zfk h];rfl,fun l b=>?_⟩
 exact(JK (m1:={ qZ m2 k pg u d file idx with fs:=(qZ m2 k pg u d file idx).fs.set k { zQ (qZ m2 k pg u d file idx) (k:Int)with r:=(zQ (qZ m2 k pg u d file idx) (k:Int)).r+1 } }) (fun s a=>g.rt.tb a) e c f b).1
end
section
variable{m:Ma} {k p n:Nat} {fr:Fr} {s:Sp}
theorem zrg (h:Rt m) {x:On} {w:Bool} (c:zau m x ⟨1,(k:Int),w⟩) (b:m.fs[k]? =Xa fr) (e:x.wr=Xc) (d:(fr.f=-1/\fr.r<=1)\/x.sh=Xc):zau m x ⟨1,(k:Int),Xc⟩:=by
 have a:=(gS.1 b).1;refine⟨zch h.inv a Xc,by simp,?_⟩
 have a:=c.2.2;unfold zdD at a⊢
 split at a
 ·cases a
 rename_i c
 rw[kF c];simp only at a⊢;rw[kF (by decide),kF (by omega),zJ b]at a
 rw[kF (by decide),kF (by omega),zJ b]
 split at a
 ·cases a
 rename_i b
 rw[kF];rintro(a|a|a|a|a)
 ·exact b (.inl a)
 ·exact b (.inr (.inl a))
 ·rw[e]at a;cases a.2
 ·rcases d with⟨e,f⟩|c
  ·have:=a.2.1;omega
  rw[c]at a;cases a.2.2
 rcases d with⟨e,f⟩|c
 ·have:=a.2.2;omega
 refine b (.inr (.inl ⟨c,fun b=>?_⟩))
 have:=a.2.1;omega
def Zc (m:Ma) (p n k:Nat) (fr:Fr) (write sh:Bool):Ma:=
 if write=Xc then Ji { m with fs:=m.fs.set k { fr with u:=true,d:=fr.d || sh } } p n ⟨1,(k:Int),Xc⟩
 else{ m with fs:=m.fs.set k { fr with u:=true,d:=fr.d } }
theorem zqc (q:Rt m) (f:m.sp[p]? =Xa s) (r:n<64) (h:m.fs[k]? =Xa fr) {w:Bool} (b:ze s n=⟨1,(k:Int),w⟩) (a:Bool) (x:a=Xc->(zD s.ars n).wr=Xc/\((fr.f=-1/\fr.r<=1)\/(zD s.ars n).sh=Xc)):
  Rt (Zc m p n k fr a (zD s.ars n).sh)/\Sam (fun _ _=>False) m (Zc m p n k fr a (zD s.ars n).sh)/\(∃u d,(Zc m p n k fr a (zD s.ars n).sh).fs[k]? =Xa { fr with u:=u,d:=d })/\∀l,(Zc m p n k fr a (zD s.ars n).sh).sp[p]? =Xa l->ze l n=⟨1,(k:Int),w || a⟩:=by
 have c:=(gS.1 h).1;have v:fr.r≠0:=by
  obtain⟨t,g,g,i,j,j⟩:=q.present f r (by rw[b])
  rw[b]at g;have:k=t:=Int.ofNat.inj g;subst this;rw[h]at i;cases i;exact j
 unfold Zc
 cases a with
 | false=>
  rw[kF (by decide)]
  obtain⟨j,t⟩:=zfg q h v Xc fr.d;refine⟨j,t,⟨Xc,fr.d,by simp only;rw[sF c]⟩,fun l g=>?_⟩
  have:m.sp[p]? =Xa l:=g;rw[f]at this;cases this;rw[b,Bool.or_false]
 | true=>
  rw[kE rfl];obtain⟨j,t⟩:=zfg q h v Xc (fr.d || (zD s.ars n).sh);obtain⟨v,y⟩:=x rfl;have i:({ m with fs:=m.fs.set k { fr with u:=true,d:=fr.d || (zD s.ars n).sh } }:Ma).fs[k]? =Xa { fr with u:=true,d:=fr.d || (zD s.ars n).sh }:=by
   simp only;rw[sF c]
  have c:zau { m with fs:=m.fs.set k { fr with u:=true,d:=fr.d || (zD s.ars n).sh } } (zD s.ars n) (ze s n):=by
   rcases j.ent (p:=p) (s:=s) f r with h|h
   ·rw[b]at h;cases h
   exact h
  rw[b]at c;have a:=zrg j c i v y;obtain⟨c,v⟩:=zpr j (p:=p) (s:=s) f r (e:=⟨1,(k:Int),Xc⟩) (by rw[b]) (by rw[b]) a
  refine⟨c,(t.trans v).mono (fun _ _ h=>h.elim id id),⟨Xc,fr.d || (zD s.ars n).sh,i⟩,fun l g=>?_⟩
  rw[(JK (m1:={ m with fs:=m.fs.set k { fr with u:=true,d:=fr.d || (zD s.ars n).sh } }) (fun s f=>q.tb f) f r a.1 g).1,Bool.or_true]
end
def zn4 (s:Sp) (kind k:Int):List Nat:=(Yu 64).filter fun n=>enS (ze s n) && zlC kind k (ze s n)
def qK (m:Ma) (kind k:Int) (q:Nat):List (Nat × Nat):=(Yu q).flatMap fun p=>(zn4 (m.sp.getD p ⟨Xd,[],[]⟩) kind k).map fun n=>(p,n)
theorem zkR (m) (kind k:Int):qK m kind k 0=[]:=rfl
theorem zbV (m:Ma) (kind k:Int) (q:Nat):qK m kind k (q+1)=qK m kind k q++(zn4 (m.sp.getD q ⟨Xd,[],[]⟩) kind k).map fun n=>(q,n):=by
 unfold qK;rw[List.range_succ,List.flatMap_append];simp
theorem zjw {s:Sp} {kind k:Int} (c:kind≠0) {n:Nat}:n∈zn4 s kind k↔n<64/\isE (ze s n) kind k=Xc:=by
 unfold zn4;rw[Yb,Ye];refine and_congr_right fun _=>?_
 unfold enS zlC isE;simp only[Xu,decide_eq_true_eq,bne_iff_ne,ne_eq,beq_iff_eq];constructor
 ·rintro⟨_,h⟩;exact h
 rintro⟨a,b⟩;exact⟨by rw[a];exact c,a,b⟩
theorem QJ {kind k:Int} (d:kind≠0) {q:Nat} (a:q<=m.sp.length) {x:Nat × Nat}:x∈qK m kind k q↔x.1<q/\x.2<64/\∃s,m.sp[x.1]? =Xa s/\isE (ze s x.2) kind k=Xc:=by
 unfold qK;rw[List.mem_flatMap];constructor
 ·rintro⟨p,b,c⟩;obtain⟨n,a,rfl⟩:=Yc.1 c;have f:=Ye.1 b;have e:=gE (show p<m.sp.length by omega)
  rw[gD,e,Option.getD_some,zjw d]at a;exact⟨f,a.1,_,e,a.2⟩
 rintro⟨b,c,s,a,e⟩;refine⟨x.1,Ye.2 b,Yc.2 ⟨x.2,?_,rfl⟩⟩;rw[gD,a,Option.getD_some,zjw d];exact⟨c,e⟩
theorem zk0 (s) (kind k:Int):(zn4 s kind k).Nodup:=List.Nodup.sublist List.filter_sublist List.nodup_range
theorem zdq (m) (kind k:Int):∀q,(qK m kind k q).Nodup
 | 0=>List.nodup_nil
 | q+1=>by
  rw[zbV,List.nodup_append];refine⟨zdq m kind k q,?_,?_⟩
  ·exact List.Pairwise.map _ (fun a b c e=>c (Prod.mk.inj e).2) (zk0 _ kind k)
  intro a c b hb e;subst e;obtain⟨n,_,rfl⟩:=Yc.1 hb;unfold qK at c;obtain⟨p,d,f⟩:=List.mem_flatMap.1 c;obtain⟨c,_,c⟩:=Yc.1 f;have:=Ye.1 d;have:=(Prod.mk.inj c).1;omega
def Ze (m:Ma) (e:En):List (Nat × Nat)->Ma
 | []=>m
 | x :: l=>Ze (Ji m x.1 x.2 e) e l
theorem zgg {e:En} (g:enW e=0):∀(l:List (Nat × Nat)) {m:Ma},(∀s∈m.sp,ZU s.tb)->(∀x∈l,x.2<64)->(Ze m e l).sp.length=m.sp.length/\(∀s∈(Ze m e l).sp,ZU s.tb)/\∀(q:Nat) s b,m.sp[q]? =Xa s->(Ze m e l).sp[q]? =Xa b->b.live=s.live/\b.ars=s.ars/\∀j,ze b j=if(q,j)∈l then e else ze s j
 | [],m,f,_=>⟨rfl,f,fun q s b c d=>by
   simp only[Ze]at d;rw[c]at d;cases d;exact⟨rfl,rfl,fun j=>by simp⟩⟩
 | x :: l,m,f,a=>by
  have h:=a x (Xt ..);obtain⟨k,n,p⟩:=zgg g l (m:=Ji m x.1 x.2 e) (zcE f g) (fun y i=>a y (Xs _ i))
  refine⟨k.trans zbL,n,fun q s b c d=>?_⟩
  have:∃t,(Ji m x.1 x.2 e).sp[q]? =Xa t:=⟨_,gE (by rw[zbL];exact(gS.1 c).1)⟩
  obtain⟨t,a⟩:=this;obtain⟨i,k,n⟩:=p q t b a d;obtain⟨b,d⟩:=zc6 c a;refine⟨i.trans b,k.trans d,fun j=>?_⟩
  rw[n j]
  by_cases b:(q,j)∈l
  ·rw[kE b,kE (Xs _ b)]
  rw[kF b]
  by_cases d:q=x.1/\j=x.2
  ·obtain⟨rfl,rfl⟩:=d;rw[kE (Xt ..)];exact(JK f c h g a).1
  rw[za6 f h g c a d,kF];intro a
  rcases mC.1 a with a|a
  ·rw[<-a]at d;exact d ⟨rfl,rfl⟩
  exact b a
theorem zc7 (e):∀(l:List (Nat × Nat)) (m:Ma),Ze m e l={ m with sp:=(Ze m e l).sp }
 | [],_=>rfl
 | x :: l,m=>by
  show Ze (Ji m x.1 x.2 e) e l=_
  rw[zc7 e l (Ji m x.1 x.2 e)];rfl
theorem zrE {s:Sp} (h:ZU s.tb):s.tb=ZL (ze s):=by
 have:=zjA (m:=⟨[],0,[],[],[],[],[],[],0,[],[s]⟩) (fun t a=>by
  rw[List.mem_singleton.1 a];exact h)
 have a:=congrArg (fun b:Ma=>b.sp) this
 simp only[JU,jy,mP,List.map_nil,List.zipWith_cons_cons,List.zipWith_nil_left,List.cons.injEq,and_true]at a;exact(congrArg Sp.tb a).symm
theorem zoL (h:Rt m) {k:Nat} {e:En} (c:enW e=0):(Ze m e (qK m 1 (k:Int) m.sp.length)).sp=m.sp.map (Zf (k:Int) e):=by
 have d:∀s∈m.sp,ZU s.tb:=fun s g=>h.tb g
 have a:=fun b=>QJ (m:=m) (kind:=1) (k:=(k:Int)) (by decide) (nR m.sp.length) (x:=b)
 obtain⟨h,u,j⟩:=zgg c (qK m 1 (k:Int) m.sp.length) d (fun b c=>((a b).1 c).2.1)
 apply Xv
 intro q
 by_cases f:q<m.sp.length
 ·have g:=gE f;have d:=gE (show q< (Ze m e (qK m 1 (k:Int) m.sp.length)).sp.length by rw[h];exact f)
  obtain⟨i,l,b⟩:=j q _ _ g d;rw[d,Xw,g,Option.map_some]
  congr 1
  have t:ze ((Ze m e (qK m 1 (k:Int) m.sp.length)).sp[q]'(by rw[h];exact f))=fun j=>if j<64 then QG (k:Int) e (ze m.sp[q]) j else ze m.sp[q] j:=by
   funext j
   rw[b j]
   by_cases b:j<64
   ·rw[kE b];unfold QG
    by_cases c:isE (ze m.sp[q] j) 1 (k:Int)=Xc
    ·rw[kE c,kE ((a (q,j)).2 ⟨f,b,_,g,c⟩)]
    rw[kF c,kF];intro n;obtain⟨_,_,s,p,r⟩:=(a (q,j)).1 n;rw[g]at p;cases p;exact c r
   rw[kF b,kF (fun n=>b ((a (q,j)).1 n).2.1)]
  have a:=zrE (u _ (mG d));have b:ZL (ze ((Ze m e (qK m 1 (k:Int) m.sp.length)).sp[q]'(by rw[h];exact f)))=ZL (QG (k:Int) e (ze m.sp[q])):=by
   rw[t];unfold ZL;refine congrArg Qt (Yr fun j c=>?_)
   exact kE (Ye.1 c)
  rw[b]at a;unfold Zf
  generalize(Ze m e (qK m 1 (k:Int) m.sp.length)).sp[q]'(by rw[h];exact f)=s' at i l a
  cases s';simp only at i l a;rw[i,l,a]
 rw[gN (by rw[h];omega),gN (by rw[Yj];omega)]
theorem zcd (h:Rt m) {k:Int}:∀x∈qK m 2 k m.sp.length,x.2<64/\∃s,m.sp[x.1]? =Xa s/\(zD s.ars x.2).is=Xc/\(zD s.ars x.2).sh=Xd/\ZM m (zD s.ars x.2) (ze s x.2)=(qY m.sb m.sq k,Xc,0):=fun x b=>by
 obtain⟨_,c,s,d,a⟩:=(QJ (by decide) (nR _)).1 b
 simp only[isE,Xu,decide_eq_true_eq]at a;obtain⟨j,z,b,b,b,b,b,e,f⟩:=h.swapped d c a.1;refine⟨c,s,d,b,e,?_⟩;unfold ZM;rw[kF (by rw[b];decide),kF (by rw[a.1];decide),kE a.1,a.2]
theorem zcg {α:Type} {P:α->Bool}:∀{l:List α} {i:Nat},i<l.length->(∀(j:Nat) d,l[j]? =Xa d->(P d=Xc↔j=i))->l.eraseIdx i=l.filter fun d=>!P d
 | [],i,hi,_=>absurd hi (by simp)
 | a :: l,0,_,h=>by
  have b:=(h 0 a rfl).2 rfl;rw[List.eraseIdx_cons_zero,List.filter_cons,kF (by rw[b];decide)]
  refine(Yq.2 fun d c=>?_).symm
  obtain⟨j,e⟩:=Xz c;have:=h (j+1) d (by rw[Xx];exact e)
  cases e:P d with
  | false=>rfl
  | true=>exact absurd (this.1 e) (by omega)
 | a :: l,i+1,hi,h=>by
  have b:P a=Xd:=by
   cases e:P a with
   | false=>rfl
   | true=>exact absurd ((h 0 a rfl).1 e) (by omega)
  rw[List.eraseIdx_cons_succ,List.filter_cons,kE (by rw[b];rfl),zcg (P:=P) (l:=l) (i:=i) (by simpa using hi) fun j d c=>?_]
  have:=h (j+1) d (by rw[Xx];exact c)
  rw[this];omega
def ze6 (ca:List Ca) (c:Ca):Nat:=(ca.takeWhile fun d=>decide (z5 d<z5 c)).length
section
variable{m:Ma} {k:Nat} {fr:Fr}
theorem ziL (a:Rt m) (p:m.fs[k]? =Xa fr) {i:Nat} {c:Ca} (h:m.ca[i]? =Xa c) (n:c.fr=(k:Int)):m.ca.eraseIdx i=m.ca.filter fun d=>!decide (d.fr=(k:Int)):=by
 obtain⟨j,b,l⟩:=zw.1 a.inv.ca;have a:∀d∈m.ca,d.fr=(k:Int)->d.file=fr.f/\d.idx=fr.x:=fun d b e=>by
  obtain⟨f,f,f,g⟩:=jr (j d b);rw[e,zJ p]at f g;exact⟨f.symm,g.symm⟩
 refine zcg (P:=fun d:Ca=>decide (d.fr=(k:Int))) (gS.1 h).1 fun j d b=>?_
 rw[decide_eq_true_eq];constructor
 ·intro e;have f:=a d (mG b) e;have e:=a c (mG h) n;have a:z5 d=z5 c:=by unfold z5;rw[f.1,f.2,e.1,e.2]
  obtain⟨q,g⟩:=gS.1 b;obtain⟨p,f⟩:=gS.1 h
  rcases Nat.lt_trichotomy j i with e|e|e
  ·have:=Yi.1 l j i q p e;rw[g,f,a]at this;omega
  ·exact e
  have:=Yi.1 l i j p q e;rw[g,f,a]at this;omega
 rintro rfl;rw[h]at b;cases b;exact n
theorem zdN (h:Rt m) (f:m.fs[k]? =Xa fr) (b:0<=fr.f):∃(i:Nat) (c:Ca),m.ca[i]? =Xa c/\c.fr=(k:Int)/\c.file=fr.f/\c.idx=fr.x:=by
 obtain⟨c,e,a⟩:=zb3 ((h.inv.cf k fr f).2 b);obtain⟨i,g⟩:=Xz e;obtain⟨b,b,b,d⟩:=jr ((zw.1 h.inv.ca).1 c e);rw[a,zJ f]at b d;exact⟨i,c,g,a,b.symm,d.symm⟩
end
theorem zel:∀(l:List Int) (c b:Int),l.Pairwise (·< ·)->(∀x∈l,c<=x/\x<b)->(l.length:Int)<=max (b - c) 0
 | [],c,b,_,_=>by simp only[Yk];omega
 | a :: l,c,b,hp,hb=>by
  obtain⟨c,d⟩:=List.pairwise_cons.1 hp;obtain⟨e,e⟩:=hb a (Xt ..);have:=zel l (a+1) b d fun x b=>⟨by have:=c x b;omega,(hb x (Xs _ b)).2⟩
  simp only[Ya];omega
theorem zjd {m:Ma}:∀(S:List Sp) (T:List (Nat->En)) (b:Nat),T.length=S.length->(∀(p:Nat) s f,S[p]? =Xa s->T[p]? =Xa f->zc9 f 64<=b)->zkm T<=b*S.length
 | [],T,b,a,_=>by
  rw[List.length_eq_zero_iff.1 a];exact nZ _
 | s :: S,[],b,a,_=>by simp at a
 | s :: S,f :: T,b,a,h=>by
  have c:=h 0 s f rfl rfl;have c:=zjd (m:=m) S T b (by simpa using a) fun p s f d a=>h (p+1) s f (by rw[Xx];exact d) (by rw[Xx];exact a)
  unfold zkm at c⊢;simp only[mP,List.sum_cons,Ya,Nat.mul_add,Nat.mul_one];omega
def qL (fs:List Fr):Nat:=fs.countP fun f=>decide (f.r=0)
theorem zm5 (fs:List Fr):qL fs+zkP fs=fs.length:=by
 unfold qL zkP;have:=List.length_eq_countP_add_countP (fun f:Fr=>decide (f.r=0)) (l:=fs)
 have a:fs.countP (fun f=>!decide (f.r=0))=fs.countP (fun a=>decide ¬decide (a.r=0)=Xc):=by
  refine List.countP_congr fun x _=>?_
  by_cases e:x.r=0 <;> simp[e]
 omega
section
variable{m:Ma}
theorem zlq (S:Nat->Nat->Prop) (t:Rt m) {file idx:Nat} {f:Fl} {a:List (List Int)} {d:List (Int × List Int)} (v:m.fl[file]? =Xa f) (p:stW (m.fl.set file ⟨f.size,f.bl.set idx (b:Int)⟩) m.cnt=0)
  (r:∀x,qe (m.fl.set file ⟨f.size,f.bl.set idx (b:Int)⟩) x=Xc↔(qe m.fl x=Xc/\x≠-1)\/x=(b:Int)\/(x=-1/\qe (m.fl.set file ⟨f.size,f.bl.set idx (b:Int)⟩) x=Xc))
  (l:a.length=m.db.length) (h:zS a.length d=0) (e:∀i:Nat,a[i]? =m.db[i]?\/∃q∈m.dq,q.1=(i:Int)) (w:∀q∈d,q.1=(b:Int)\/∃y∈m.dq,y.1=q.1) (n:∀i:Int,i≠(b:Int)->qY a d i=qY m.db m.dq i)
  (k:f.bl[idx]? =Xa (b:Int)\/(qe m.fl (b:Int)=Xd)) (u:∃c∈m.ca,c.file=(file:Int)/\c.idx=(idx:Int)) (j:∀(i s:Nat) g,m.fl[i]? =Xa g->g.bl[s]? =Xa (b:Int)->i=file/\s=idx):
  Qw S m (zdT m file idx f (b:Int) a d):=by
 obtain⟨⟨a,d⟩,s⟩:=znH t v p r l h e w n k u j;refine⟨a,d.mono (fun _ _ e=>e.elim),rfl,fun q n a k d e _ a=>?_,fun file idx h j=>⟨j,s file idx h⟩⟩
 have:m.sp[q]? =Xa k:=e;rw[d]at this;cases this;exact a
def ziU (k:Nat) (fr:Fr) (l:List (Nat × Nat)) (q:Nat) (s:Sp) (a:Ar) (n:Nat):Prop:=(qg a n).file=fr.f/\(qg a n).page=fr.x/\(q,n)∉l/\((ze s n).kind=0\/isE (ze s n) 1 (k:Int)=Xc)
theorem zq1 {k:Nat} {fr:Fr} {l:List (Nat × Nat)} (h:∀(q:Nat) s (i:Nat) a (n:Nat),m.sp[q]? =Xa s->s.ars[i]? =Xa a->Jk a n=Xc->n<64->¬ziU k fr l q s a n) (q n:Nat) (s:Sp) (p:m.sp[q]? =Xa s) (j:n<64) (b:(zD s.ars n).is=Xc) (g:(zD s.ars n).file=fr.f) (hp:(zD s.ars n).page=fr.x) (f:(ze s n).kind=0\/isE (ze s n) 1 (k:Int)=Xc):(q,n)∈l:=by
 obtain⟨i,a,d,e,c⟩:=zdd b;refine Classical.byContradiction fun b=>h q s i a n p d e j ⟨?_,?_,b,f⟩
 ·rw[<-c];exact g
 rw[<-c];exact hp
theorem zfc (h:Rt m) {k:Nat} {fr:Fr} {l:List (Nat × Nat)} (d:m.fs[k]? =Xa fr) (c:0<=fr.f) (e:fr.r≠0) (b:Qk m fr.f fr.x=Qh (pgL fr.p) fr.x (QD m fr.f))
  (hS:Qh (pgL fr.p) fr.x (QD m fr.f)=pgL fr.p\/∀(q:Nat) s (i:Nat) a (n:Nat),m.sp[q]? =Xa s->s.ars[i]? =Xa a->Jk a n=Xc->n<64->¬ziU k fr l q s a n):Qw (fun q j=>(q,j)∈l) m (qi m k):=
 zng h _ d c e b (hS.imp id fun b q n s c d e f g h=>zq1 b q n s c d e f g h)
theorem zfV {l:List (Nat × Nat)} {file idx:Nat} {f:Fl} {c:List (List Int)} {d:List (Int × List Int)} {k:Nat} {fr:Fr} (e:Qw (fun q p=>(q,p)∈l) m (zdT m file idx f (b:Int) c d)) (r:m.fl[file]? =Xa f) (hi:idx<f.bl.length) (t:m.fs[k]? =Xa fr) (g:fr.f=(file:Int)) (h:fr.x=(idx:Int)) (u:fr.r≠0)
  (j:qY c d (b:Int)=Qh (pgL fr.p) (idx:Int) (QD m (file:Int)))
  (hS:Qh (pgL fr.p) fr.x (QD m fr.f)=pgL fr.p\/∀(q:Nat) s (i:Nat) a (n:Nat),m.sp[q]? =Xa s->s.ars[i]? =Xa a->Jk a n=Xc->n<64->¬ziU k fr l q s a n):Qw (fun q p=>(q,p)∈l) m (qi (zdT m file idx f (b:Int) c d) k):=by
 refine e.trans (zfc e.rt (fr:=fr) t (by omega) u ?_ ?_)
 ·rw[g,h,zj1 r hi j,<-e.sam.sz]
 rw[e.sam.sz];exact hS
end
theorem Rt.parts (h:Rt m):Zb m.fs m.hand=0/\slW m.sl=0:=by
 have b:=h.w;unfold maW at b;rw[zp]at b;have a:zam m=0:=b _ (by simp)
 unfold zam at a;rw[zp]at a;exact⟨a _ (by simp),a _ (by simp)⟩
theorem Rt.refs (h:Rt m) {k:Nat} {f:Fr} (a:m.fs[k]? =Xa f):0<=f.r/\f.r<=300:=by
 have b:=(h.inv.cf k f a).1;have a:=zdp (jy m) 1 k;have a:=zeL h.inv.ca (k:Int);have a:=h.inv.tl;have a:=h.inv.spl;omega
theorem Rt.slots (h:Rt m) {k:Nat} (a:m.sl[k]? =Xa z):0<=z/\z<=300:=by
 have b:=h.inv.cs k z a;have a:=zdp (jy m) 2 k;have a:=h.inv.tl;have a:=h.inv.spl;omega
theorem Qd {s:Sp} {n:Nat} (a:n<64):zd8 s.tb (n:Int)=ze s n:=by
 unfold zd8 ze;rw[kE (by omega),tN]
theorem zpY {t:List (List En)} (h:ZU t) {n:Nat} (a:n<64) {e:En} (b:enW e=0):zh0 t (n:Int) e=zhl t n e:=by
 have a:=Qm.2 h.2;have:zhm t (n:Int) e=0:=by unfold zhm;rw[kE a,kE (by omega)];exact b
 unfold zh0;rw[kE this,tN]
theorem QN (d:∀s∈m.sp,ZU s.tb) {p n:Nat} (hp:p<m.sp.length) (c:n<64) {e:En} (b:enW e=0):qV m p (n:Int) e=Ji m p n e:=by
 obtain⟨s,a⟩:∃s,m.sp[p]? =Xa s:=⟨_,gE hp⟩;unfold qV Ji;rw[Sp.getD_of a,zpY (d s (mG a)) c b]
 congr 1
 apply Xv
 intro i;rw[Yd,Ym]
 by_cases e:p=i
 ·subst e;rw[kE rfl,kE hp,a];simp
 rw[kF e]
 simp[e]
end
section
open Go.RowKit
theorem jz.staysD {α:Type} {enc:α->List Xq} {base:Nat} {w:Xn} {v:Xq} {l:List α} (h:jz enc w v l) (c:jR base v) {D:Nat->Prop} (g:∀k,D k->k<base) (k:zm D w W):jz enc W v l:=by
 obtain⟨b,d,a,e,f⟩:=h;refine⟨b,d,a,e,fun x b j u d=>?_⟩
 subst b;have b:=f x rfl j u d;have d:=World.block_lt_of_cell? _ _ b;have c:=c x _ _ a;rw[World.cell?_of_block (w:=w) (k.block _ d (fun e=>by have:=g _ e;rw[Za]at this;omega))]
 exact b
theorem qy.staysD {base:Nat} {w:Xn} {v:Xq} {a:List (List Int)} {b:List (Int × List Int)} (h:qy base w v a b) {D:Nat->Prop} (e:∀k,D k->k<base) (k:zm D w W):qy base W v a b:=by
 obtain⟨f,q,g,a,b,c,d⟩:=h;exact⟨f,q,g,⟨a.1.staysD c e k,a.2⟩,⟨b.1.staysD d e k,b.2⟩,c,d⟩
theorem qy.form {base:Nat} {w:Xn} {v:Xq} {a:List (List Int)} {b:List (Int × List Int)} (h:qy base w v a b):∃d q:Sli,v= Xi #[d.x,q.x]/\jR base d.v/\jR base q.v:=by
 obtain⟨b,q,rfl,⟨⟨a,c,rfl,_⟩,_⟩,⟨⟨b,e,rfl,_⟩,_⟩,f,g⟩:=h;exact⟨⟨a,_,c⟩,⟨b,_,e⟩,rfl,f,g⟩
theorem qy.rows {base:Nat} {w:Xn} {d q:Sli} {a:List (List Int)} {b:List (Int × List Int)} (h:qy base w (Xi #[d.x,q.x]) a b):jc w (d.x) a/\jG w (q.x) b:=by
 obtain⟨b,q,e,a,b,_⟩:=h;simp only[Value.agg.injEq,Array.mk.injEq,List.cons.injEq,and_true]at e;obtain⟨rfl,rfl⟩:=e;exact⟨a,b⟩
end
end Go.Proofs.YtmfckdkcmbncdaaGreat
