import Derived.Test.YtmfckdkcmbncdaaGreatCC3
import Derived.Lib.AppendZerosOnto
namespace Go.Proofs.YtmfckdkcmbncdaaGreat
open Go.Value renaming slice→O,int→Xe,bool→Xh,agg→Xi,pointer→Xj,tuple→Xm
open Go.IntKind renaming i64→Xf,u8→Xg
open Go.Obj renaming cells→Xk
open Go.Ending renaming returned→Xl
open Go renaming World→Xn,Calls→Xp,Value→Xq
open Go.RowKit renaming Hid→Xo
open Option renaming some→Xa,none→Xb
open Bool renaming true→Xc,false→Xd
open List renaming replicate→Xr
open _root_.List renaming length_take→Xs,getElem?_append_left→Xt,getElem?_take→Xx,take_succ_eq_append_getElem→Xy,length_drop→Xz,map_nil→Yb,append_nil→Yc,length_set→Yd,getElem?_map→Ye,drop→Yf,take_append_of_le_length→Yg,flatMap_append→Yi,take→Yj,find?_eq_none→Yk,getElem?_drop→Yl,take_of_length_le→Ym,take_left'→Yn,length_singleton→Yp,take_append_drop→Yq,take_take→Yr,mem_of_mem_take→Ys,replicate_zero→Yu,filter_append→Yv,append_assoc→Yx,set_set→Yy,flatten_cons→Yz,map→Oc
open _root_.Nat renaming lt_of_lt_of_le→Xu,le_of_ble_eq_true→Xv,min_eq_left→Yh,add_mul→Oa
open Go.Act renaming put→Xw
open Go.Addr renaming add_lit→Ya
open _root_.Array renaming replicate→Yo,toList_append→Yt,size_append→Yw
open Go.Region renaming noSelect→Ob
set_option maxRecDepth 100000
set_option maxHeartbeats 4000000
variable{B b fi g ix j:Nat} {M m m' m1:Ma} {Q:Exit->Act->Xn->Prop} {V:MaV} {o:Oper} {ops:Array Oper} {t:TypeId} {u1 w' w0 w1 w2:Xn} {xs:List Xq} {z:Int}
open Go.Proofs.Tryz
section
open Go.RowKit
theorem zjp {d:Nat} {w:Xn} {k:TypeId} {cur a:Array Xq} (b:w.heap[d]? =Xa (Xk a k (0,0))) (l:w.heap[g]? =Xa (Xk cur 105 (0,0))) (f:d≠g) (m:cur.size≠0) (j i c lb h:Nat):
  (callFunc 224 #[O (Xa ⟨d,0,Xb⟩) j i,O (Xa ⟨g,c,Xb⟩) lb h]).run prog w= .ok (.value (Xh Xd)) w:=by
 rw[run_callFunc_extern func224 Kr Kr Kr (e:=Extern.SlicesOverlaps.overlaps #[42,42] #[4]) Kr,
  Lib.run_overlaps_apart w 42 4 105 underlying42 3 Tryz.sizeOf105 ⟨d,0,Xb⟩ ⟨g,c,Xb⟩ j i lb h f k 105 a.size cur.size (by simp[World.shape?,b]) (by simp[World.shape?,l]) m (by simp[World.frozen?,b]) (by simp[World.frozen?,b])]
 rfl
theorem zhm {base n c i d s:Nat} {w:Xn} {l:List Ca} (b:zb Zz base w (O (Xa ⟨g,0,Xb⟩) n c) l) (h:n<=1000) (hi:i<n) (j:n+1<=c) (x) {m:TypeId} {f:Array Xq} (k:w.heap[d]? =Xa (Xk f m (0,0))) (a:d≠g)
  (y:jc w ⟨d,0,Xb⟩ (([x]:List Ca).flatMap Zz.enc)):
  Xp prog 192 #[O (Xa ⟨g,0,Xb⟩) n c,I6 (i:Int),O (Xa ⟨d,0,Xb⟩) 1 s] w fun e w'=>e= Xl (O (Xa ⟨g,0,Xb⟩) (n+1) c)/\zb Zz base w' (O (Xa ⟨g,0,Xb⟩) (n+1) c) (l.take i++([x]++l.drop i))/\w.grownBy w' (Xa g):=by
 obtain⟨v,_,p,j,f,h,r,_⟩:=b.block;have f:c<=9223372036854775807:=by simpa [maxLen]using j
 have f:=dD v;have q:∀m u t,(callFunc 224 #[O (Xa ⟨d,0,Xb⟩) 1 s,O (Xa ⟨g,m,Xb⟩) u t]).run prog w= .ok (.value (Xh Xd)) w:=fun m u t=>zjp k h a (by rw[r];show c*3≠0;omega) 1 s m u t
 have m:=dD b;have A:=dD y;have t:Xo (d<w.heap.size/\d≠g):=⟨(aS.1 k).1,a⟩;clear b y v p j h r k a;have y:¬((i:Int)=(n:Int)):=Wm
 have z:¬((c:Int)< (n:Int)+1):=Wm
 have b:(i:Int)<=(n:Int):=Wm
 have p:(i:Int)+1<=(n:Int)+1:=Wm
 have r:¬(c=i+1):=Wm
 have b:(i:Int)<=(n:Int)+1:=Wm
 have b:¬(c=i):=Wm
 have u:((i:Int)+1).toNat=i+1:=Wm
 have v:((n:Int)+1).toNat=n+1:=Wm
 have b:(n:Int)+1<=(c:Int):=Wm
 go_enter func192,ntmps192
 go_wp2_with (simp only[q])
 have a:Nonempty (zf w):=⟨⟨_,zc.refl _⟩⟩;refine jf 8 [] zW Kr rfl rfl Dc Sm Sm ?_
 simp only[Yj,Yf];iterate 8 refine ze ?_
 refine zL fun w' h _=>?_
 have b:=dD (m.aA h);have m:=dD h;obtain⟨k,j⟩:=kA (l.length - i);clear h a q
 go_wp2_with (refine zek (E:=Zz) rfl (.tmp 73) (.tmp 76) rfl base g c n l b i (Hm f.out) (Hm f.out) (by show(_+1)*24<=_;have:=f.out;omega) (n - i) (c -(i+1)) (n+1 - i) (c - i) _ _ rfl rfl rfl rfl k j (by have:=f.out;have:=j.out;show k=min _ _;omega) ?_)
 intro C a h _;rw[<-f.out]at a;obtain⟨j,b⟩:=kA (l.take (i+1)++l.drop i);rw[b.out]at a;have k:Xo (j.length=n+1):=dD<|by rw[<-b.out,lA,Xs,Xz];have:=f.out;omega
 have B:=dD a;have q:=dD<|za4 m h
 have m:Xo (jc C ⟨d,0,Xb⟩ (([x]:List Ca).flatMap Zz.enc)):=dD<|fun D F C=>q.cell (A D F C) (fun e=>t.2 (by rw[Ya]at e;exact Option.some.inj e))
 clear a h u v p r y z;try simp only[Xw,sB,sS,sZ]
 go_wp2_with (refine qy (E:=Zz) rfl (.tmp 80) (.tmp 81) rfl base _ j B g rfl i (n+1 - i) (c - i) _ rfl rfl ⟨d,0,Xb⟩ 1 s rfl [x] (by show 1=min _ _;omega) m (by rw[k.out];show i+1<=_;omega) ?_)
 intro a d a _;have h:Xo (j.take i++([x]++j.drop (i+ [x].length))=l.take i++([x]++l.drop i)):=dD<|by
  rw[<-b.out,Yg (by rw[Xs];have:=f.out;omega),Yr,Yh Wm,Yp,List.drop_left' (by rw[Xs];have:=f.out;omega)]
 have f:=dD<|h.out ▸ d
 have b:=dD<|qM q a
 clear d a;go_wp2;go_ret;exact⟨rfl,f,b⟩
section
variable{α:Type} {E:Elt α}
theorem zcM {w:Xn} {base n cap:Nat} {l:List α} (r) (d:zb E base w (O (Xa ⟨g,0,Xb⟩) n cap) l) (i k:Nat) (hi:i<=l.length) (t:0<k) (p:cap<i+k) (m:(i+k)*E.bytes<=140737488355328):
  ∃C w',(Builtin.append_ #[E.st,3] r #[O (Xa ⟨g,0,Xb⟩) i cap,I6 (k:Int)]).run prog w= .ok (O (Xa ⟨w.heap.size,0,Xb⟩) (i+k) C) w'/\zb E w.heap.size w' (O (Xa ⟨w.heap.size,0,Xb⟩) (i+k) C) (l.take i++Xr k E.zero)/\zc w w'/\i+k<=C:=by
 obtain⟨q,a,j,e,f⟩:=info_parts E.aF;have b:(i+k)*1<=(i+k)*E.bytes:=Nat.mul_le_mul_left _ (nT E.pos E.few);have b:k*E.bytes<=(i+k)*E.bytes:=Nat.mul_le_mul_right _ Wm
 have c:((l.take i).flatMap E.enc).length=i*E.k:=by rw[qC,Xs,Yh hi]
 have b:(Builtin.firstCells q.size i (O (Xa ⟨g,0,Xb⟩) i cap)).run prog w.drew= .ok ((l.take i).flatMap E.enc).toArray w.drew:=by
  rw[e];exact run_firstCells_some w.drew E.k i ⟨g,0,Xb⟩ i cap ((l.take i).flatMap E.enc) c (fun u v h=>by
   have s:(l.flatMap E.enc)[u]? =Xa v:=by
    conv=>lhs;rw[<-Yq i l,Yi]
    rw[Xt (gS.1 h).1];exact h
   exact d.1.cells rfl _ v s)
 have h:=Lib.run_append_grow_zeros w E.st 3 r E.ty q E.zv .i64 .i64 E.bV underlying3 a j (Xa ⟨g,0,Xb⟩) i cap ((l.take i).flatMap E.enc) b k t (Rx e E.pos) p Wm (by rw[f];omega) (by rw[f];exact growslice_fits p m)
 have a:∀x,Builtin.zeroCells E.zv.cells x=madeCells E.zv.cells (x*E.k):=fun x=>by
  unfold Builtin.zeroCells madeCells;rw[zoT E]
 rw[a,a]at h;have b:=grownCap_ge w (i+k) cap E.ty;have a:=grownCap_le_maxLen w (i+k) cap E.ty (jB Wm)
 obtain⟨G,d⟩:=kB (grownCap w (i+k) cap E.ty);rw[d]at h b a;have hlen:(l.take i++Xr k E.zero).length=i+k:=by rw[lA,Xs,Yh hi,lR]
 refine⟨G,_,h,?_,(show zc w _ from((bR _ _).drew)).trans (za _ _),b⟩
 have d:=zb.mk' (E:=E) (base:=w.heap.size) (g:=w.heap.size) (cap:=G) (l:=l.take i++Xr k E.zero) (w:=w.drew.alloc (Xk (((l.take i).flatMap E.enc).toArray++madeCells E.zv.cells (k*E.k)++madeCells E.zv.cells ((G -(i+k))*E.k)) E.ty)) (cur:=((l.take i).flatMap E.enc).toArray++madeCells E.zv.cells (k*E.k)++madeCells E.zv.cells ((G -(i+k))*E.k)) (nR _) (by
  show(w.heap.push _)[w.heap.size]? =_
  simp) (by rw[hlen];exact b) a (by
  rw[Yw,Yw,size_madeCells,size_madeCells,List.size_toArray,c,<-Oa,<-Oa]
  congr 1
  omega) (by
  rw[hlen,Yt,Yt,zfI E,zfI E,Yi];refine Yn ?_;rw[lA,c,qC,lR,<-Oa]) (by rw[hlen];exact m)
 rw[hlen]at d;exact d
theorem zaL {w:Xn} {rest:List Oper} {a:Act} (d:o.guard=Xb) (s x:Operand) (y:o.op= .call { callee:= .builtin .append,args:=#[s,x],argTypes:=#[E.st,3] })
  {base g n cap:Nat} {l:List α} (b:zb E base w (O (Xa ⟨g,0,Xb⟩) n cap) l) (i k:Nat) (z:a.eval s= O (Xa ⟨g,0,Xb⟩) i cap) (f:Int) (A:a.eval x=I6 f) (e:f=(k:Int)) (hi:i<=l.length) (v:0<k) (u:cap<i+k) (t:(i+k)*E.bytes<=140737488355328) (N:Nat) (r:i+k=N)
  (h:∀C w',zb E w.heap.size w' (O (Xa ⟨w.heap.size,0,Xb⟩) N C) (l.take i++Xr k E.zero)->zc w w'->N<=C->wpList prog ops Q rest (a.put o.dst (O (Xa ⟨w.heap.size,0,Xb⟩) N C)) w'):wpList prog ops Q (o :: rest) a w:=by
 subst r e;refine wpList_plain d fun K q=>?_
 obtain⟨C,w',c,j,m,p⟩:=zcM o.type b i k hi v u t;unfold Oper.wp execOp;simp only[y,resolve,invoke,builtin,Sem.run_bind,Sem.run_pure,rA,List.map_toArray,mP,Yb,z,A,c];exact q _ _ (h C w' j m p)
end
theorem zep {base n i m q:Nat} {w:Xn} {l:List Ca} (a:zb Zz base w (O (Xa ⟨g,0,Xb⟩) n n) l) (b:n<=1000) (hi:i<n) (x)
  (d:jc w ⟨m,0,Xb⟩ (([x]:List Ca).flatMap Zz.enc)):
  Xp prog 192 #[O (Xa ⟨g,0,Xb⟩) n n,I6 (i:Int),O (Xa ⟨m,0,Xb⟩) 1 q] w fun e w'=>∃(b:Nat) (c:Nat),e= Xl (O (Xa ⟨b,0,Xb⟩) (n+1) c)/\zb Zz w.heap.size w' (O (Xa ⟨b,0,Xb⟩) (n+1) c) (l.take i++([x]++l.drop i))/\zc w w'/\w.heap.size<=b:=by
 have c:=dD a.at.n;have r:=dD a;have t:=dD d;have b:=(a.lt g rfl).2;have f:=dD b;clear a d b;have a:¬((i:Int)=(n:Int)):=Wm
 have a:(n:Int)< (n:Int)+1:=Wm
 have a:(i:Int)<=(n:Int):=Wm
 obtain⟨p,j⟩:=kA w.heap.size
 go_enter func192,ntmps192
 go_wp2_with (at_builtin;refine zaL (E:=Zz) rfl (.tmp 34) (.tmp 39) rfl r i (n+1 - i) rfl ((n:Int)+1 -(i:Int)) Gn Wm (Hm c.out) Wm Wm (by show(_)*24<=_;omega) (n+1) Wm ?_)
 intro C a a h s;rw[j.out]at a⊢;obtain⟨d,b⟩:=kA (l.take i++Xr (n+1 - i) Zz.zero);rw[b.out]at a;have k:Xo (d.length=n+1):=dD<|by rw[<-b.out,lA,Xs,lR];have:=c.out;omega
 have y:=dD a;have u:=dD h;have v:=dD s;have f:=dD<|t.aA h
 clear a h;have a:¬(C=i):=Wm
 have a:(i:Int)<=(n:Int)+1:=Wm
 have a:(n:Int)+1<=(C:Int):=Wm
 clear s
 go_wp2_with (refine qy (E:=Zz) rfl (.tmp 43) (.tmp 44) rfl p _ d y p rfl i (n+1 - i) (C - i) _ rfl rfl ⟨m,0,Xb⟩ 1 q rfl [x] (by show 1=min _ _;omega) f (by rw[k.out];show i+1<=_;omega) ?_)
 intro t f q _;obtain⟨h,a⟩:=kA (d.take i++(x :: d.drop (i+1)));rw[a.out]at f;have m:Xo (h.length=n+1):=dD<|by rw[<-a.out,lA,List.length_cons,Xs,Xz,k.out];omega
 have y:=dD f;have s:Xo (zc w t):=show zc _ _ from zd u q (Hm j.out)
 clear f q;have k:=dD (r.aA s);have f:¬(C=i+1):=Hm v.out
 have f:¬(n=i):=Wm
 have f:(i:Int)+1<=(n:Int)+1:=Wm
 have f:((i:Int)+1).toNat=i+1:=Wm
 try simp only[Xw,sB,sS,sZ]
 go_wp2_with fail;have r:Nonempty (zf t):=⟨⟨_,zc.refl _⟩⟩;refine jf 8 [] zW Kr rfl rfl Dc Sm Sm ?_
 simp only[Yj,Yf];iterate 8 refine ze ?_
 refine zL fun f f _=>?_
 have u:=dD (y.aA f);have q:=dD (k.aA f);have t:=dD<|s.trans f
 clear f r;obtain⟨r,k⟩:=kA (n - i);have f:Xo ((l.drop i).length=r):=dD<|by rw[Xz,<-c.out,k.out]
 go_wp2_with (refine qy (E:=Zz) rfl (.tmp 50) (.tmp 53) rfl p _ h u p rfl (i+1) (n - i) (C -(i+1)) _ rfl rfl ⟨g,i*3,Xb⟩ (n - i) (n - i) rfl (l.drop i) (by rw[f.out];have:=k.out;show r=min _ _;omega) (q.bY i (Hm c.out)) (by rw[m.out,f.out];have:=k.out;omega) ?_)
 intro r f k _;have q:Xo (h.take (i+1)++(l.drop i++h.drop (i+1+(l.length - i)))=l.take i++([x]++l.drop i)):=dD<|by
  have s:h.drop (i+1+(l.length - i))=[]:=List.drop_of_length_le (by rw[m.out];have:=c.out;omega)
  have m:d.take i=l.take i:=by
   rw[<-b.out,Yg (by rw[Xs];have:=c.out;omega),Yr,Nat.min_self]
  have b:h.take (i+1)=l.take i++ [x]:=by
   rw[<-a.out,m,show l.take i++(x :: d.drop (i+1))=l.take i++([x]++d.drop (i+1))from rfl,<-Yx,Yn (by rw[lA,Xs,Yp];have:=c.out;omega)]
  rw[s,b,Yc,Yx]
 rw[q.out]at f;have b:=dD f;have a:Xo (zc w r):=show zc _ _ from zd t k (Hm j.out)
 clear f k;go_wp2;go_ret;exact⟨p,C,rfl,Rx j.out b,a,Hm j.out⟩
theorem zlg {base n c:Nat} {a:Option Addr} {w:Xn} {l:List Ca} (b:zb Zz base w (O a n c) l) (j:l.length<=1000) (i:Nat) (hi:i<=l.length) (x:Ca) (f u:Nat) (t:w.heap[f]? =Xa (Xk (Zz.enc x).toArray 105 (0,0))) (y:(O a n c).ownBlock≠Xa f) (C:base<=w.heap.size):
  Xp prog 192 #[O a n c,I6 (i:Int),O (Xa ⟨f,0,Xb⟩) 1 u] w fun e w'=>∃(m:Option Addr) (h:Nat),e= Xl (O m (n+1) h)/\zb Zz base w' (O m (n+1) h) (l.take i++([x]++l.drop i))/\w.grownBy w' (O a n c).ownBlock/\(∀g,(O m (n+1) h).ownBlock=Xa g->(O a n c).ownBlock=Xa g\/w.heap.size<=g):=by
 have L:n=l.length:=b.at.n;have A:jc w ⟨f,0,Xb⟩ (([x]:List Ca).flatMap Zz.enc):=fun N P F=>by
  rw[List.flatMap_cons,List.flatMap_nil,Yc]at F;rw[Ya,zA];have G:zl w f 105 (Zz.enc x):=t;exact G.box.c N F
 by_cases K:i=n
 ·subst K;rw[L]at b⊢;refine(zfP b j x (Xa ⟨f,0,Xb⟩) u ⟨⟨Xa ⟨f,0,Xb⟩,u,rfl,fun e=>(by cases e),fun Q M=>(by cases M;exact A)⟩,by show 1*24<=_;omega⟩ C).mono ?_
  rintro e w' ⟨m,h,p,q,d,v⟩;refine⟨m,h,p,?_,d,v⟩;rw[List.take_length,List.drop_length,Yc];exact q
 have s:i<n:=Wm
 obtain⟨g,h,E⟩:=b.aJ Wm
 simp only[vJ]at E;obtain⟨rfl,_,rfl⟩:=E;have z:f≠g:=fun e=>y (Rr e)
 obtain⟨_,_,D,_⟩:=b.block
 by_cases k:n+1<=c
 ·refine(zhm b Wm s k x t z A).mono ?_
  rintro e w' ⟨p,q,d⟩;exact⟨_,_,p,q,d,fun B r=> .inl r⟩
 have H:c=n:=Wm
 subst H;refine(zep b Wm s x A).mono ?_
 rintro e w' ⟨m,h,p,q,d,v⟩;exact⟨_,_,p,q.base C,⟨Below.os d,Below.tape d,Below.output d,bS d,fun B r _=>Below.block d B r⟩,fun B r=> .inr (by cases r;exact v)⟩
variable{X:Nat->Prop}
theorem zi6 {w:Xn} {p:Nat} (c1:ChW w0 X p w V m) (ax:Rt m) (pg:Pg) (fi ix:Nat) (I:frW (frT pg (fi:Int) (ix:Int))=0) (c3:ix<100) (av) (l:List (Nat × Nat)) (ar:zl8 zaD (Dw p V) w av l) (an:∀x∈l,x.2<64/\∃s,m.sp[x.1]? =Xa s) (cs:l.length<=900)
  (ct:jo (zi m l).fs=0->∀B a9,ChW w0 X p B a9 (zi m l)->zl8 zaD (Dw p a9) B av l->Xp prog 160 #[Xj (Xa ⟨p,0,Xb⟩),av] B fun e w'=>e= Xl (Xh (Qf (zi m l) l).1)/\Chg w0 X p B a9 (Qf (zi m l) l).2 w'):
  Xp prog 156 #[Xj (Xa ⟨p,0,Xb⟩),Xi #[U8 pg.b0,U8 pg.b1,U8 pg.b2,U8 pg.b3,U8 pg.b4,U8 pg.b5,U8 pg.b6,U8 pg.b7],I6 (fi:Int),I6 (ix:Int),av] w fun e w'=>e= Xl (Xm #[I6 ((jq m pg (fi:Int) (ix:Int) l).2.1:Int),I6 (if(jq m pg (fi:Int) (ix:Int) l).1=Xc then 0 else 10)])/\Chg w0 X p w V (jq m pg (fi:Int) (ix:Int) l).2.2 w':=by
 have cg:=dD ar;have ed:=dD c1.aM;have bi:=JG (je l ax an).1.rt l;have bc:=dD<|(je l ax an).1.aW.aQ;have dm:Xo (∀x∈l,x.2<64/\x.1<m.sp.length):=show∀x∈l,_ from fun x au=>by
  obtain⟨bs,s,b⟩:=an x au;exact⟨bs,(gS.1 b).1⟩
 obtain⟨n,q,r,t,u,v,y,z⟩:=pg;simp only;have W:=dD<|fun dz (cu:zc w dz)=>ze7 (c1.aA cu) ax ⟨n,q,r,t,u,v,y,z⟩ (fi:Int) (ix:Int) I av l (fun B A=>ar B ((zk.aA cu).trans A)) an ct
 have c:Xo (jq m ⟨n,q,r,t,u,v,y,z⟩ (fi:Int) (ix:Int) l=if(z8 (zi m l) l).1=Xc then(Xc,Zk (z8 (zi m l) l).2.fs,zG (J6 (z8 (zi m l) l).2 (Zk (z8 (zi m l) l).2.fs) ⟨n,q,r,t,u,v,y,z⟩ Xc Xd (fi:Int) (ix:Int)) (Zk (z8 (zi m l) l).2.fs) l)else(Xd,0,(z8 (zi m l) l).2)):=dD<|rfl
 have h:Xo (zcK m (frT ⟨n,q,r,t,u,v,y,z⟩ (fi:Int) (ix:Int)) l=if(z8 (zi m l) l).1=Xc then(Xc,Zk (z8 (zi m l) l).2.fs,{(z8 (zi m l) l).2 with fs:=(z8 (zi m l) l).2.fs.set (Zk (z8 (zi m l) l).2.fs) (frT ⟨n,q,r,t,u,v,y,z⟩ (fi:Int) (ix:Int)) })else(Xd,0,(z8 (zi m l) l).2)):=dD<|rfl
 obtain⟨ay,dj⟩:=kA (jq m ⟨n,q,r,t,u,v,y,z⟩ (fi:Int) (ix:Int) l);obtain⟨ee,dp⟩:=kA (zcK m (frT ⟨n,q,r,t,u,v,y,z⟩ (fi:Int) (ix:Int)) l);rw[dj.out]at c⊢;obtain⟨ek,Q⟩:=kA (if ay.1=Xc then(0:Int)else 10);rw[Q.out];rw[dp.out]at h W;obtain⟨A,cq,-⟩:=bi;have U:Xo ((z8 (zi m l) l).2.sp.length=m.sp.length):=dD<|by rw[A.aW.aQ,bc.out]
 have k:=dD A.rt;have R:=dD cq
 obtain⟨en,eo,rfl,c8⟩:=(ar w (zk.refl _ _)).bO;have ag:=(ar w (zk.refl _ _)).short;have bd:=dD I;have be:Xo ((0:Int)<=(ix:Int)/\(ix:Int)<100):=show _/\_ by omega
 clear A cq c1 ar ax an ct c8 I c3;obtain⟨dw,bj⟩:=kA (z8 (zi m l) l);rw[bj.out]at k R c h U;obtain⟨e5,P⟩:=dw;simp only at k R c h U;have bg:=dD cs;clear cs;obtain⟨a3,D⟩:=kA l.length;rw[D.out]at cg W ag⊢;obtain⟨b,cf⟩:=kA w.heap.size;obtain⟨e0,G⟩:=kB (w.alloc (Xk #[U8 n,U8 q,U8 r,U8 t,U8 u,U8 v,U8 y,U8 z] 91));have az:=gA G
 have e4:=xPT G cf
 have bk:=dD G;clear G;have g:=W.out e0 az.out
 go_enter func156,ntmps156
 go_upto_region 1 with fail;rw[bk.out,cf.out];obtain⟨d4,d6,d8,d9,da,db,dc,dd⟩:=e4.box.c8
 cases e5 with
 | false=>
  rw[kF Dc]at c h
  rw[h.out]at g;simp only[Bool.false_eq_true,if_false]at g;go_wp2_with fail;refine g.mono ?_;clear g d4 d6 d8 d9 da db dc dd;rintro e B ⟨rfl,A⟩;have bm:Xo (Chg w0 X p w V ay.2.2 B):=dD<|Rx c.out (Chg.aI az A)
  clear A;go_wp2
  go_ret2
  exact⟨by rw[<-Q.out,c.out];rfl,bm⟩
 | true=>
  rw[kE rfl]at c h;obtain⟨e6,e7,el,bz,e8⟩:=zdH (R rfl);obtain⟨d,bf⟩:=kA (Zk P.fs);rw[bf.out]at bz h c;rw[h.out]at g;simp only[if_true]at g;obtain⟨i,S⟩:∃i:Ma,Xo (({ P with fs:=P.fs.set d (frT ⟨n,q,r,t,u,v,y,z⟩ (fi:Int) (ix:Int)) }:Ma)=i):=⟨_,rfl⟩;have E:Xo (i.ca=P.ca):=dD<|by rw[<-S.out]
  obtain⟨a,a7⟩:∃a:Ma,Xo (({ i with ca:=ZN i.ca ⟨(fi:Int),(ix:Int),(d:Int)⟩ }:Ma)=a):=⟨_,rfl⟩;have f:J6 P d ⟨n,q,r,t,u,v,y,z⟩ Xc Xd (fi:Int) (ix:Int)=a:=by
   rw[<-a7.out,<-S.out];rfl
  rw[f]at c;rw[S.out]at g;have am:=(gS.1 bz).1;have al:a.fs[d]? =Xa (frT ⟨n,q,r,t,u,v,y,z⟩ (fi:Int) (ix:Int)):=by
   rw[<-f];exact sF am
  have cw:Zi a.fs a.aB=0:=by
   rw[<-f];exact ziE k.parts.1 bd.out
  have N:a.sp.length=m.sp.length:=by
   rw[<-f];exact U.out
  have aq:∀s∈a.sp,Qy s.tb:=fun s cv=>by
   rw[<-f]at cv;exact k.tb cv
  have dl:Xo (∀j,j<=a3->∀x,l[j]? =Xa x->Zj (zG a d (l.take j)).fs (zG a d (l.take j)).aB (d:Int) 1=0/\zG a d (l.take (j+1))=zhk (zG a d (l.take j)) x.1 (x.2:Int) (d:Int)/\x.1< (zG a d (l.take j)).sp.length):=dD<|fun j c6 x au=>(zsq cw al (by show(0:Int)<1;omega) aq (l:=l) (fun x au=>by rw[N];exact dm x au) (by have:=bg.out;show(1:Int)+_<=1000;omega) j (Rx D.out c6)).2.2.2.2 x au
  obtain⟨aa,ai,ae⟩:=k.cache;have C:Xo ((P.ca.Pairwise fun bs b=>qa bs<qa b)/\(∀cj∈P.ca,0<=cj.idx/\cj.idx<100)/\P.ca.length<=1000):=dD<|⟨aa,ai,ae⟩
  clear e6 e7 bz e8 f am al cw N aq aa ai ae;go_wp2_with fail;refine g.mono ?_;clear g d4 d6 d8 d9 da db dc dd;rintro e B ⟨rfl,A⟩;obtain⟨a9,cb,cx,ab⟩:=Chg.aI az A;have dq:=dD cb;have dt:=dD cx;have df:=dD ab;have K:=za7 cb (Rx E.out C.1) (Rx E.out C.2.1) (Rx E.out C.2.2) (fi:Int) (ix:Int) be.out
  have T:Xo (zcX i.ca ⟨(fi:Int),(ix:Int),0⟩<=i.ca.length/\zcX i.ca ⟨(fi:Int),(ix:Int),0⟩=zcX i.ca ⟨(fi:Int),(ix:Int),(d:Int)⟩):=dD<|⟨(List.takeWhile_sublist _).length_le,rfl⟩
  have bb:Xo (i.ca.length<=1000):=dD<|Rx E.out C.2.2
  obtain⟨br,dn⟩:=kA (zcX i.ca ⟨(fi:Int),(ix:Int),0⟩);obtain⟨eb,dk⟩:=kA (zeq i.ca ⟨(fi:Int),(ix:Int),0⟩);rw[dn.out]at T K;rw[dk.out]at K;clear A cb cx ab;go_wp2_with fail;refine K.mono ?_;clear K;rintro e a5 ⟨rfl,c0⟩;have a8:=dD (dq.aA c0);have di:Xo (zc B a5):=c0;have ec:=a8.box.box.c 9 rfl;have aj:=zlg (base:=w0.heap.size) (w:=a5.alloc (Xk #[I6 (fi:Int),I6 (ix:Int),I6 (d:Int)] 105)) (a8.ca.aA (za a5 (Xk #[I6 (fi:Int),I6 (ix:Int),I6 (d:Int)] 105))) bb br T.1 ⟨(fi:Int),(ix:Int),(d:Int)⟩ a5.heap.size 1 (zl.aE a5 [I6 (fi:Int),I6 (ix:Int),I6 (d:Int)] _ rfl) (fun e=>by
   obtain⟨_,em⟩:=a8.ca.lt _ e
   omega) (by have:=bS a8.gr;simp;omega)
  clear c0
  go_wp2_with (go_at_call 192;refine aj.mono ?_)
  clear aj ec;rintro e eg ⟨bt,bu,rfl,L,F,H⟩;obtain⟨ef,Z⟩:=kB (a5.alloc (Xk #[I6 (fi:Int),I6 (ix:Int),I6 (d:Int)] 105));rw[Z]at F H;have Y:=gP Z
  have bl:=dD (a8.aA Y);have de:=dD<|bl.box.aK (zk.row F) (fun e=>bl.nc p e rfl)
  have M:i.ca.take br++([⟨(fi:Int),(ix:Int),(d:Int)⟩]++i.ca.drop br)=ZN i.ca ⟨(fi:Int),(ix:Int),(d:Int)⟩:=by
   rw[<-zqv,<-T.2];rfl
  rw[M]at L;obtain⟨cc,bh⟩:=kA (a9.ca.n+1);rw[bh.out]at L H⊢;have bq:=dD L;have b9:=dD<|zk.row F;have ba:=dD H;have b8:=dD<|di.trans Y
  clear Z Y L F H M
  go_wp2_with (refine qK rfl 42 (.tmp 52) (.tmp 49) rfl p 9 rfl (O bt cc bu) rfl [O bt cc bu] rfl de (by simp[chL]) Kr (by simp[Value.oneCell']) ?_)
  intro eh ci ac _;have c2:=bl.cache (b:=⟨bt,cc,bu⟩) (l:=ZN i.ca ⟨(fi:Int),(ix:Int),(d:Int)⟩) b9 ba bq ac ci;rw[a7.out]at c2;obtain⟨dx,ck,cy,cn⟩:=Chg.step dt df (Chg.aI b8 c2);have dr:=dD ck;have du:=dD cy;have dg:=dD cn;clear ci ac c2 ck cy cn;go_wp2
  go_loopg [55] a3 (fun e9 cd wr=>∃(j:Nat) (aw:MaV),j<=a3/\a3 - j<=e9/\cd=I6 j/\Xo (ChW w0 X p wr aw (zG a d (l.take j)))/\Xo (zk (Dw p V) w wr)/\Xo (∀c9,Dw p aw c9->Dw p V c9\/w.heap.size<=c9))
  exact⟨0,dx,nZ _,Wm,rfl,dr,du,dg⟩
  obtain⟨j,aw,c6,ea,rfl,bn,bp,ce⟩:=hrel
  by_cases a1:j<a3
  ·have ao:=kC a1
   obtain⟨x,ch⟩:∃x,Xo (l[j]? =Xa x):=⟨_,gE (Rx D.out a1)⟩
   obtain⟨_,_,a2,ap⟩:=(cg wr bp).bO;simp only[vJ]at a2;obtain⟨ej,af,ah⟩:=ap j x ch.out;rw[<-a2.1]at af;subst af;obtain⟨cm,ab⟩:=ah wr (zc.refl _);obtain⟨bv,cp,bw⟩:=dl.out j c6 x ch.out;have a6:=dD cp;obtain⟨d2,d3⟩:=x;simp only at cm ab bv bw a6;have a0:=ze8 (bn.aA (za wr (Xk #[I6 (d2:Int),I6 (d3:Int)] 142))) d2 bw (d3:Int) (d:Int) bv;rw[<-a6.out]at a0;clear a2 ap ah bv cp bw;go_wp2_with fail;refine a0.mono ?_;clear a0 cm ab;rintro e ei ⟨⟨ep,rfl⟩,cr⟩;obtain⟨dy,cl,cz,co⟩:=Chg.step bp ce (Chg.aI (za _ _) cr);have ds:=dD cl;have dv:=dD cz;have dh:=dD co;clear cr cl cz co;go_wp2
   go_roundg (a3 -(j+1));exact⟨j+1,dy,Wm,Wm,Gn,ds,dv,dh⟩;omega
  have ao:=kD a1
  have ak:l.take j=l:=Ym (by rw[D.out];omega)
  rw[ak]at bn;clear ak;have bm:Xo (Chg w0 X p w V ay.2.2 wr):=dD<|by rw[c.out];exact⟨aw,bn,bp,ce⟩
  go_wp2
  go_ret2
  exact⟨by rw[<-Q.out,c.out];rfl,bm⟩
variable{X:Nat->Prop}
theorem znt {t:Ca} {ca:List Ca} (h:zeq ca t=Xd):ca.find? (fun c=>decide (qa c=qa t))=Xb:=by
 grind [Yk,zeq,List.any_eq_true.2]
section
variable{m:Ma} {q n:Nat} {s:Sp} {a:Ar} {pg:Pg} {ic wr:Bool}
theorem zfL {c:Ca} {fi ix:Int} (a:0<=c.idx/\c.idx<100) (b:0<=ix/\ix<100) (h:qa c=qa ⟨fi,ix,0⟩):c.file=fi/\c.idx=ix:=by
 grind [qa]
end
end
section
section
variable{m:Ma}
theorem zoo (E:Rt m) {file idx:Nat} {f:Fl} {db':List (List Int)} {dq':List (Int × List Int)} (ab:m.fl[file]? =Xa f) (S:stW (m.fl.set file ⟨f.size,f.bl.set idx (b:Int)⟩) m.cnt=0)
  (D:∀x,zR (m.fl.set file ⟨f.size,f.bl.set idx (b:Int)⟩) x=Xc↔(zR m.fl x=Xc/\x≠-1)\/x=(b:Int)\/(x=-1/\zR (m.fl.set file ⟨f.size,f.bl.set idx (b:Int)⟩) x=Xc))
  (t:db'.length=m.db.length) (u:zB db'.length dq'=0) (r:∀i:Nat,db'[i]? =m.db[i]?\/∃q∈m.dq,q.1=(i:Int)) (F:∀q∈dq',q.1=(b:Int)\/∃V∈m.dq,V.1=q.1) (R:∀i:Int,i≠(b:Int)->zS db' dq' i=zS m.db m.dq i)
  (_hb0:f.bl[idx]? =Xa (b:Int)\/(zR m.fl (b:Int)=Xd)) (A:∀(i j:Nat) g,m.fl[i]? =Xa g->g.bl[j]? =Xa (b:Int)->i=file/\j=idx):
  Rt (ZK m file idx f (b:Int) db' dq')/\∀(i j:Nat),(j:Int)<bkN m (i:Int)->¬(i=file/\j=idx)->zN (ZK m file idx f (b:Int) db' dq') (i:Int) (j:Int)=zN m (i:Int) (j:Int):=by
 have ac:=(gS.1 ab).1;obtain⟨d,a⟩:∃d,ZK m file idx f (b:Int) db' dq'=d:=⟨_,rfl⟩;have T:∀z,qW d z=qW m z:=fun z=>by
  rw[<-a];unfold qW ZK;simp only[gD]
  by_cases e:z.toNat=file
  ·grind
  grind
 have L:∀z,bkN d z=bkN m z:=fun z=>by
  rw[<-a];unfold bkN ZK;simp only[gD]
  by_cases e:z.toNat=file
  ·grind
  grind
 have l:∀z,zQ d z=zQ m z:=fun z=>by rw[<-a];rfl
 have v:d.fl.length=m.fl.length:=by rw[<-a];simp[ZK]
 have k:d.sp=m.sp:=by rw[<-a];rfl
 have s:d.ca=m.ca:=by rw[<-a];rfl
 have K:ZA d (jd d):=by
  have a9:jd d=jd m:=by unfold jd;rw[k]
  rw[a9];have c:=E.inv;refine⟨Ry a c.aY,Ry a c.bN,Ry a c.aX,Ry a c.bI,Ry a c.sq,Ry a u,Ry a S,by rw[<-a];show m.cnt=(db'.length:Int);rw[t];exact c.cnt,fun i n Z=>?_,fun q B=>?_,Rx k c.aQ,Rx k c.bA,Rx k c.tl,?_,?_,Ry a c.cf,Ry a c.cs⟩
  ·rw[<-a]at n Z⊢;have C:zR m.fl (i:Int)=Xd:=by
    cases e:zR m.fl (i:Int)with
    | false=>rfl
    | true=>
     have:=(D (i:Int)).2 (.inl ⟨e,Wm⟩)
     have U:zR (m.fl.set file ⟨f.size,f.bl.set idx (b:Int)⟩) (i:Int)=Xd:=Z;rw[U]at this;cases this
   show db'[i]? =_
   rcases r i with e|⟨q,W,X⟩
   ·rw[e];exact c.bJ i (Ry t n) C
   have:=c.bE q W;rw[X,C]at this;cases this
  ·rw[<-a]at B⊢
   show zR (m.fl.set file ⟨f.size,f.bl.set idx (b:Int)⟩) q.1=Xc
   rcases F q B with e|⟨V,W,X⟩
   ·grind
   refine(D _).2 (.inl ⟨?_,?_⟩)
   ·rw[<-X];exact c.bE V W
   have N:=c.aU;unfold zB at N
   split at N
   ·cases N
   grind [List.any_eq_true.2,j0]
  ·obtain⟨a0,ag,a4⟩:=zn.1 c.ca;rw[s];refine zn.2 ⟨fun H aa=>?_,fun q H F=>(by cases F),a4⟩
   obtain⟨a5,a6,a7,a8⟩:=q9 (a0 H aa);refine zd1 ?_ (Rx l a6) (Rx l a7) (Rx l a8)
   rw[v,L];rw[<-a];exact a5
  intro af I g G w ae ad;rw[k]at G
  rcases c.aZ af I g G w ae ad with e|e
  ·grind
  refine .inr ⟨e.1,e.2.1,Z9 e.2.2 (by rw[<-a];rfl) (by rw[<-a];rfl) fun P=>?_⟩
  rw[l];exact⟨rfl,rfl,(qH e P).2.2.2⟩
 have p:∀(i j:Nat),(j:Int)<bkN m (i:Int)->¬(i=file/\j=idx)->zN d (i:Int) (j:Int)=zN m (i:Int) (j:Int):=fun i j h Q=>by
  unfold zN;rw[s]
  cases F:m.ca.find? (QU (i:Int) (j:Int))with
  | some H=>simp only;rw[l]
  | none=>
   simp only;have M:Qc d (i:Int) (j:Int)=Qc m (i:Int) (j:Int):=by
    rw[<-a];unfold Qc ZK;simp only[gD,tN]
    by_cases e:i=file
    ·grind
    grind
   rw[M,T]
   by_cases y:Qc m (i:Int) (j:Int)<0
   ·grind
   rw[kF y,kF y];have n:i<m.fl.length:=Classical.byContradiction fun ah=>by
    unfold bkN at h;simp only[gD,tN]at h;rw[gN Wm]at h
    simp only[Option.getD_none,List.length_nil]at h;omega
   have w:=gE n;have Y:j< (m.fl[i]).bl.length:=by
    unfold bkN at h;simp only[gD,tN,w,Option.getD_some]at h;omega
   have:Qc m (i:Int) (j:Int)≠(b:Int):=fun e=>by
    unfold Qc at e;simp only[gD,tN,w,Option.getD_some,gE Y]at e;exact Q (A i j _ w (by rw[gE Y,e]))
   rw[show zS d.db d.dq (Qc m (i:Int) (j:Int))=zS db' dq' (Qc m (i:Int) (j:Int)) by rw[<-a];rfl,R _ this]
 rw[a];exact⟨Rt.of K (by rw[k];exact fun I G=>E.tb G) (Ry a E.aB.1) (Ry a E.aB.2),p⟩
theorem zgS {a:Nat} {b:Int} {F:Fl} {db':List (List Int)} {dq':List (Int × List Int)} (d:m.fl[a]? =Xa F) (z:Int):qW (ZK m a ix F b db' dq') z=qW m z:=by
 have c:=(gS.1 d).1;unfold qW ZK;simp only[gD]
 by_cases e:z.toNat=a
 ·rw[e,sF c,d];rfl
 rw[sN (fun h=>e h.symm)]
theorem zsc (h:Rt m) {F:Fl} (a:m.fl[fi]? =Xa F) (r:ix<F.bl.length) (p:Zh m.fl m.cnt (fi:Int) (ix:Int)=0) (G:Unc m (fi:Int) (ix:Int)) (pg:List Int):
  Rt (wrM m pg fi ix)/\(wrM m pg fi ix).sp=m.sp/\(wrM m pg fi ix).fs=m.fs/\(wrM m pg fi ix).sb=m.sb/\(wrM m pg fi ix).sq=m.sq/\(wrM m pg fi ix).fl.length=m.fl.length/\(∀z,qW (wrM m pg fi ix) z=qW m z)/\(∀z,bkN (wrM m pg fi ix) z=bkN m z)/\∀i j:Nat,(j:Int)<bkN m (i:Int)->zN (wrM m pg fi ix) (i:Int) (j:Int)=if i=fi/\j=ix then qJ pg (ix:Int) F.size else zN m (i:Int) (j:Int):=by
 obtain⟨b,P,s,t,u,v⟩:=zop h a r p;obtain⟨Q,R,w⟩:=qk h.inv.aU;have q:=h.inv.cnt;have c:zg m.db.length m.dq (b:Int)=0:=by
  unfold zg;rw[kE h.inv.aU,kE (by simp[j0];omega)]
 have f:=h.inv.st;have A:wrM m pg fi ix=ZK m fi ix F (b:Int) (qn m.db m.dq) (qh m.dq (b:Int) pg):=by
  unfold wrM ZK;rw[kE p,s,t,u]
  grind [qt,qr]
 have l:stW (m.fl.set fi ⟨F.size,F.bl.set ix (b:Int)⟩) m.cnt=0/\(∀x,zR (m.fl.set fi ⟨F.size,F.bl.set ix (b:Int)⟩) x=Xc↔(zR m.fl x=Xc/\x≠-1)\/x=(b:Int)\/(x=-1/\zR (m.fl.set fi ⟨F.size,F.bl.set ix (b:Int)⟩) x=Xc))/\(F.bl[ix]? =Xa (b:Int)\/zR m.fl (b:Int)=Xd)/\∀(i j:Nat) n,m.fl[i]? =Xa n->n.bl[j]? =Xa (b:Int)->i=fi/\j=ix:=by
  rcases v with e|⟨e,y⟩
  ·obtain⟨H,K,L⟩:=zd2 f a e
   grind
  obtain⟨H,K,L,T⟩:=zd3 f a e y
  grind
 obtain⟨u1,u2,u3,u4⟩:=l;obtain⟨M,N⟩:=zoo h a u1 u2 (jE _ _) (jx c) (zbe _ _ w) (fun S D=>by
  unfold qh at D
  grind [List.mem_append.1,List.mem_of_mem_tail,List.mem_singleton]) (fun i k=>Zn c k) u3 u4
 have d:=(gS.1 a).1;rw[A];refine⟨M,rfl,rfl,rfl,rfl,by simp[ZK],fun z=>zgS a z,fun z=>?_,fun i j g=>?_⟩
 ·unfold bkN ZK;simp only[gD]
  by_cases e:z.toNat=fi
  ·rw[e,sF d,a];simp
  rw[sN (fun h=>e h.symm)]
 by_cases e:i=fi/\j=ix
 ·obtain⟨rfl,rfl⟩:=e;rw[kE ⟨rfl,rfl⟩];have C:(ZK m i j F (b:Int) (qn m.db m.dq) (qh m.dq (b:Int) pg)).ca.find? (QU (i:Int) (j:Int))=Xb:=G.find;unfold zN;rw[C];have B:Qc (ZK m i j F (b:Int) (qn m.db m.dq) (qh m.dq (b:Int) pg)) (i:Int) (j:Int)=(b:Int):=by
   unfold Qc ZK;simp only[gD,tN];rw[sF d];simp only[Option.getD_some];rw[sF r];rfl
  have E:qW (ZK m i j F (b:Int) (qn m.db m.dq) (qh m.dq (b:Int) pg)) (i:Int)=F.size:=by
   rw[zgS a];unfold qW;simp only[gD,tN,a,Option.getD_some]
  simp only;rw[B,kF Wm,E]
  show qJ (zS (qn m.db m.dq) (qh m.dq (b:Int) pg) (b:Int)) _ _=_
  rw[(zaa c).2]
 rw[kF e];exact N i j g e
end
end
section
open Go.RowKit
variable{X:Nat->Prop}
def zev (m:Ma) (file k:Nat):Int:=(zN m (file:Int) ((k / 8:Nat):Int)).getD (k % 8) 0
def znq (m:Ma) (k i:Nat) (ns:List Int):Ma:={ m with fs:=m.fs.set k { zQ m (k:Int)with p:=zcJ (splice (pgL (zQ m (k:Int)).p) i ns),u:=true,d:=true } }
def zcb (m:Ma) (fi ix:Int):Option Ca:=m.ca.find? fun c=>decide (qa c=qa ⟨fi,ix,0⟩)
def zgT (m:Ma) (fi ix i:Nat) (ns:List Int):Bool × Ma:=
 match zcb m (fi:Int) (ix:Int)with
 | some c=>(Xc,znq m c.fr.toNat i ns)
 | none=>
  if(jq m (zcJ (z9 m fi ix)) fi ix []).1=Xc then(Xc,znq (jq m (zcJ (z9 m fi ix)) fi ix []).2.2 (jq m (zcJ (z9 m fi ix)) fi ix []).2.1 i ns)
  else(decide (Zh (jq m (zcJ (z9 m fi ix)) fi ix []).2.2.fl (jq m (zcJ (z9 m fi ix)) fi ix []).2.2.cnt fi ix=0),wrM (jq m (zcJ (z9 m fi ix)) fi ix []).2.2 (splice (z9 m fi ix) i ns) fi ix)
def zmU (fi ix i:Nat) (ns:List Int) (x:On) (v:List Int × Bool × Int):List Int × Bool × Int:=if v.2=(Xd,0)/\x.file=(fi:Int)/\x.aG=(ix:Int)then(splice v.1 i ns,Xd,0)else v
structure zgg (m m':Ma) (fi ix i:Nat) (ns:List Int):Prop where
 rt:Rt m'
 aQ:m'.sp.length=m.sp.length
 sp:∀(q:Nat) s s',m.sp[q]? =Xa s->m'.sp[q]? =Xa s'->s'.aH=s.aH/\s'.aD=s.aD
 see:∀(q n:Nat) s s',m.sp[q]? =Xa s->m'.sp[q]? =Xa s'->n<64->Qr m' (zJ s.aD n) (zh s' n)=zmU fi ix i ns (zJ s.aD n) (Qr m (zJ s.aD n) (zh s n))
 fll:m'.fl.length=m.fl.length
 sz:∀f,qW m' f=qW m f
 bk:∀f,bkN m' f=bkN m f
 bX:∀(file k:Nat),(k:Int)<qW m (file:Int)->zev m' file k=if file=fi/\k / 8=ix/\i<=k % 8/\k % 8<i+ns.length then ns.getD (k % 8 - i) 0 else zev m file k
theorem zaP {l ns:List Int} {i:Nat} (h:i+ns.length<=l.length):(splice l i ns).getD j 0=if i<=j/\j<i+ns.length then ns.getD (j - i) 0 else l.getD j 0:=by
 unfold splice;simp only[gD]
 by_cases a:j<i
 ·rw[kF Wm,Xt (by simp;omega),Xx]
  simp[a]
 by_cases b:j<i+ns.length
 ·rw[kE Wm,aR (by simp;omega),Xt (by simp;omega)]
  congr 2
  simp;omega
 rw[kF Wm,aR (by simp;omega),aR (by simp;omega),Yl]
 congr 2
 simp;omega
section
variable{m:Ma} {fi ix i:Nat} {ns:List Int}
theorem zfv {l:List Int} (a:l.length=8) (h:i+ns.length<=8):(splice l i ns).length=8:=by
 unfold splice;simp only[lA,Xs,Xz];omega
theorem zgg.after {S:Nat->Nat->Prop} (h:Sam S m m1) (hS:∀q n,¬S q n) (k:zgg m1 m' fi ix i ns):zgg m m' fi ix i ns:=by
 have d:∀(q:Nat) s,m.sp[q]? =Xa s->∃b,m1.sp[q]? =Xa b:=fun q s v=>⟨_,gE (by rw[h.aQ];exact(gS.1 v).1)⟩
 refine⟨k.rt,k.aQ.trans h.aQ,fun q s p c l=>?_,fun q n s p c l t=>?_,k.fll.trans h.fll,fun g=>(k.sz g).trans (h.sz g),fun g=>(k.bk g).trans (h.bk g),fun a u r=>?_⟩
 ·obtain⟨b,e⟩:=d q s c;have j:=h.sp q s b c e;have f:=k.sp q b p e l;exact⟨f.1.trans j.1,f.2.trans j.2⟩
 ·obtain⟨b,e⟩:=d q s c;have j:=h.see q n s b c e t (hS q n);have f:=k.see q n b p e l t;rw[(h.sp q s b c e).2]at f;rw[f,j]
 rw[k.bX a u (by rw[h.sz];exact r)]
 have:=h.bX a u r;unfold zev;rw[this]
theorem ztc (h:Rt m) {c:Ca} {k:Nat} {fr:Fr} (f:m.fs[k]? =Xa fr) (C:fr.r≠0) (p:c∈m.ca) (q:c.fr=(k:Int)) (l:c.file=(fi:Int)) (n:c.idx=(ix:Int)) (w:i+ns.length<=8):zgg m (znq m k i ns) fi ix i ns:=by
 have r:zQ m (k:Int)=fr:=zT f;have d:zN m (fi:Int) (ix:Int)=pgL fr.p:=by
  obtain⟨D,B,z,a,F,G,H,A⟩:=qU h p;have:D=k:=Int.ofNat.inj (z.symm.trans q);subst this;rw[f]at a;cases a;rw[<-l,<-n,A]
 have g:(splice (pgL fr.p) i ns).length=8:=zfv rfl w;unfold znq;rw[r];refine⟨zmV h f C _ _ _,rfl,fun u E v j b=>?_,fun u L E v j b y=>?_,rfl,fun _=>rfl,fun _=>rfl,fun file t K=>?_⟩
 ·have b:m.sp[u]? =Xa v:=b
  grind
 ·have b:m.sp[u]? =Xa v:=b;rw[j]at b;cases b;rw[zq4 h f p q _ _ _ j y,l,n,zgZ g];unfold zmU
  split
  ·rename_i s
   rw[zpb h j y s.1 Wm,s.2.1,s.2.2,d]
  rfl
 unfold zev;rw[zjK h f p q,l,n,zgZ g]
 by_cases e:file=fi/\t / 8=ix
 ·obtain⟨rfl,rfl⟩:=e;rw[kE ⟨rfl,rfl⟩,zaP (by simpa [pgL]using w),d]
  by_cases a:i<=t % 8/\t % 8<i+ns.length
  ·rw[kE a,kE ⟨rfl,rfl,a⟩]
  rw[kF a,kF (fun e=>a e.2.2)]
 rw[kF (fun x=>e ⟨Wm,Wm⟩),kF (fun x=>e ⟨x.1,x.2.1⟩)]
theorem jp {F:Fl} (h:Rt m) (b:m.fl[fi]? =Xa F):fi<5/\(0<=F.size/\F.size<=96)/\F.bl.length<=12:=by
 obtain⟨⟨e,_,_⟩,c,_⟩:=(zY _ _).1 h.inv.st;obtain⟨a,d,_⟩:=c F (mG b);have:=(gS.1 b).1;have:=(Qm a.1 a.2).2;exact⟨Wm,a,Wm⟩
theorem zmE (h:Rt m) {file k:Nat} (a:(k:Int)<qW m (file:Int)):((k / 8:Nat):Int)<bkN m (file:Int):=by
 by_cases d:file<m.fl.length
 ·have b:=gE d;obtain⟨e,c,f⟩:=((zY _ _).1 h.inv.st).2.1 _ (mG b);unfold qW at a;simp only[gD,tN,b,Option.getD_some]at a;unfold bkN;simp only[gD,tN,b,Option.getD_some];unfold jH at c
  split at c <;> omega
 unfold qW at a;simp only[gD,tN]at a;rw[gN Wm]at a
 simp only[Option.getD_none]at a;omega
theorem znf (l:List Ca) (c:Ca):c∈ZN l c:=by
 rw[<-zqv];simp
theorem zrF {S:Nat->Nat->Prop} (h:Sam S m m1) {F:Fl} (d:m.fl[fi]? =Xa F):∃a,m1.fl[fi]? =Xa a/\a.size=F.size/\a.bl.length=F.bl.length:=by
 have g:=(gS.1 d).1;have f:fi<m1.fl.length:=by rw[h.fll];exact g
 have e:=gE f;have b:=h.sz (fi:Int);have c:=h.bk (fi:Int);unfold qW at b;unfold bkN at c;simp only[gD,tN,e,d,Option.getD_some]at b c;exact⟨_,e,b,Wm⟩
theorem zi4 {pg:Pg} {f x:Int} (h:Rt m) (a:(jq m pg f x []).1=Xc):∃fr,(jq m pg f x []).2.2.fs[(jq m pg f x []).2.1]? =Xa fr:=by
 unfold jq at a⊢;have b:(z8 (zi m []) []).1=Xc:=by
  split at a
  ·assumption
  cases a
 rw[kE b];have c:=(zdH ((JG h []).2.1 b)).2.1;exact⟨_,sF c⟩
theorem zrL {l:List Int} {idx a:Int} (h:∀j,j<l.length->a<=8*idx+(j:Int)->l.getD j 0=0):qJ l idx a=l:=by
 unfold qJ;refine List.ext_getElem Sm fun j d b=>?_
 rw[List.getElem_mapIdx]
 split
 ·rename_i c
  have:=h j b c;rw[gD,gE b]at this;exact this.symm
 rfl
theorem zn0 (m:Ma) (f x:Int) (j:Nat) (a:j<8) (h:qW m f<=8*x+(j:Int)):(z9 m f x).getD j 0=0:=by
 unfold z9
 split
 ·match j,a with
  | 0,_ | 1,_ | 2,_ | 3,_ | 4,_ | 5,_ | 6,_ | 7,_=>rfl
 unfold qJ;rw[gD,List.getElem?_mapIdx]
 cases(zS m.db m.dq (Qc m f x))[j]? with
 | none=>rfl
 | some z=>simp only[Option.map_some,Option.getD_some];rw[kE h]
theorem zc1 {f x:Int} (h:Unc m f x):zN m f x=z9 m f x:=by
 unfold zN;rw[h.find];rfl
theorem ztj (h:Rt m) {F:Fl} (H:m.fl[fi]? =Xa F) (Z:ix<F.bl.length) (V:Zh m.fl m.cnt (fi:Int) (ix:Int)=0) (C:Unc m (fi:Int) (ix:Int)) {P:List Int} (u:zN m (fi:Int) (ix:Int)=P) (t:P.length=8) (A:i+ns.length<=8) (af:((8*ix+i+ns.length:Nat):Int)<=F.size):zgg m (wrM m (splice P i ns) fi ix) fi ix i ns:=by
 obtain⟨a1,D,a2,a3,a4,a5,a6,M,E⟩:=zsc h H Z V C (splice P i ns);have y:∀G,zQ (wrM m (splice P i ns) fi ix) G=zQ m G:=fun G=>by unfold zQ;rw[a2]
 have B:qW m (fi:Int)=F.size:=by
  unfold qW;simp only[gD,tN,H,Option.getD_some]
 have X:(splice P i ns).length=8:=zfv t A;have hcut:qJ (splice P i ns) (ix:Int) F.size=splice P i ns:=zrL fun I ad Y=>by
  rw[zaP (Rx t A),kF Wm,<-u,zc1 C]
  exact zn0 m _ _ I Wm (Rx B Y)
 rw[hcut]at E;refine⟨a1,by rw[D],fun a0 s a7 d g=>?_,fun a0 n s a7 d g L=>?_,a5,a6,M,fun a k W=>?_⟩
 ·rw[D,d]at g;cases g;exact⟨rfl,rfl⟩
 ·rw[D,d]at g;cases g;unfold Qr zmU;rw[y,M,a3,a4]
  by_cases b:(zJ s.aD n).is=Xd
  ·rw[kE b,kE b,kF Sm]
  rw[kF b,kF b]
  by_cases c:(zh s n).kind=1
  ·rw[kE c,kE c,kF];intro j;obtain⟨ag,r,ab,f,U,ac⟩:=h.aV d L c;have N:(zQ m (zh s n).n).f≠-1->_:=(h.aZ d L).elim (fun e=>by rw[e]at c;cases c) fun e=>zf6 e c
   rw[U]at N j;have w:0<=r.f:=Si j.1
   obtain⟨ah,a8,a9⟩:=N Wm
   obtain⟨_,Q,R,aa,S,T⟩:=Jc h f w;exact C Q (mG R) ⟨by rw[S,a8];exact j.2.1,by rw[T,a9];exact j.2.2⟩
  rw[kF c,kF c]
  by_cases l:(zh s n).kind=2
  ·rw[kE l,kE l,kF Sm]
  rw[kF l,kF l]
  by_cases p:(zJ s.aD n).file<0
  ·rw[kE p,kE p,kF (fun e=>Hm e.2.1)]
  rw[kF p,kF p]
  by_cases q:bkN m (zJ s.aD n).file<=(zJ s.aD n).aG
  ·rw[kE q,kE q,kF Sm]
  rw[kF q,kF q];have z:(zJ s.aD n).is=Xc:=by
   cases e:(zJ s.aD n).is with
   | true=>rfl
   | false=>exact absurd e b
  have ae:=h.aG d z;have K:=E (zJ s.aD n).file.toNat (zJ s.aD n).aG.toNat (by
   rw[show(((zJ s.aD n).file.toNat:Nat):Int)=(zJ s.aD n).file by omega]
   omega)
  rw[show(((zJ s.aD n).file.toNat:Nat):Int)=(zJ s.aD n).file by omega,show(((zJ s.aD n).aG.toNat:Nat):Int)=(zJ s.aD n).aG by omega]at K
  rw[K]
  by_cases e:(zJ s.aD n).file=(fi:Int)/\(zJ s.aD n).aG=(ix:Int)
  ·rw[kE Wm,kE ⟨rfl,e⟩,e.1,e.2,u]
  rw[kF Wm,kF (fun x=>e x.2)]
 have v:((k / 8:Nat):Int)<bkN m (a:Int):=zmE h W;unfold zev;rw[E a (k / 8) v]
 by_cases e:a=fi/\k / 8=ix
 ·obtain⟨rfl,rfl⟩:=e;rw[kE ⟨rfl,rfl⟩,zaP (Rx t A),u]
  by_cases f:i<=k % 8/\k % 8<i+ns.length
  ·rw[kE f,kE ⟨rfl,rfl,f⟩]
  rw[kF f,kF (fun e=>f e.2.2)]
 rw[kF e,kF (fun x=>e ⟨x.1,x.2.1⟩)]
theorem zsk (h:Rt m) {F:Fl} (l:m.fl[fi]? =Xa F) (Q:ix<F.bl.length) (y:(z9 m fi ix).length=8) (t:i+ns.length<=8) (R:((8*ix+i+ns.length:Nat):Int)<=F.size) (a:(zgT m fi ix i ns).1=Xc):zgg m (zgT m fi ix i ns).2 fi ix i ns:=by
 obtain⟨X,M,L⟩:=jp h l;have P:=(gS.1 l).1;unfold zgT at a⊢
 cases n:zcb m (fi:Int) (ix:Int)with
 | some p=>
  simp only;have v:=List.mem_of_find?_eq_some n;obtain⟨E,G⟩:=zfL (h.cache.2.1 p v) (show 0<=(ix:Int)/\(ix:Int)<100 by omega) (Si (List.find?_some n))
  obtain⟨Y,H,k,q,r,_⟩:=qU h v;rw[k,tN];exact ztc h q r v k E G t
 | none=>
  rw[n]at a;simp only at a⊢;have B:Unc m (fi:Int) (ix:Int):=fun p N j=>by
   have:=Yk.1 n p N
   simp[qa,j.1,j.2]at this
  have e:bkN m (fi:Int)=(F.bl.length:Int):=by
   unfold bkN;simp only[gD,tN,l,Option.getD_some]
  obtain⟨g,K,W⟩:=JG h [];obtain⟨u1,u2⟩:=g.unc fi ix (by rw[e];omega) B
  have A:∀x w:Nat,¬(x,w)∈([]:List (Nat × Nat)):=fun _ _=>nM
  have z:zN (z8 m []).2 (fi:Int) (ix:Int)=z9 m fi ix:=u2.trans (zc1 B);have f:zi m []=m:=rfl
  by_cases s:(z8 m []).1=Xc
  ·have b:jq m (zcJ (z9 m fi ix)) fi ix []=(Xc,Zk (z8 m []).2.fs,J6 (z8 m []).2 (Zk (z8 m []).2.fs) (zcJ (z9 m fi ix)) Xc Xd fi ix):=by
    unfold jq;rw[f,kE s];rfl
   rw[b]at a⊢;rw[kE rfl]at a⊢;obtain⟨_,S,H,T,U⟩:=zdH (K s);obtain⟨C,D⟩:=zoj g.rt T U (pg:=zcJ (z9 m fi ix)) (u:=true) (d:=false) (file:=fi) (idx:=ix) (by rw[g.aW.fll];omega) (by rw[g.aW.bk,e];omega) u1 (by rw[zgZ y,z])
   refine zgg.after (g.aW.trans D) (fun x w j=>j.elim (A x w) id) (ztc (c:=⟨fi,ix,(Zk (z8 m []).2.fs:Nat)⟩) C (fr:=⟨zcJ (z9 m fi ix),1,Xc,Xd,fi,ix⟩) ?_ (show(1:Int)≠0 by decide) ?_ rfl rfl rfl t)
   ·exact sF S
   exact znf _ _
  have b:jq m (zcJ (z9 m fi ix)) fi ix []=(Xd,0,(z8 m []).2):=by
   unfold jq;rw[f,kF s]
  rw[b]at a⊢;rw[kF Sm]at a⊢
  simp only[decide_eq_true_eq]at a;simp only;obtain⟨V,k,q,r⟩:=zrF g.aW l;exact zgg.after g.aW A (ztj g.rt k (Rx r Q) a u1 z y t (Rx q R))
end
variable{X:Nat->Prop}
theorem zpz {q n k:Nat} {fr:Fr} {s:Sp} {w:Bool} (j:∀s∈m.sp,Qy s.tb) (e:m.fs[k]? =Xa fr) (a:m.fs.length<=40) (i:m.sp[q]? =Xa s) (g:n<64) (c:zh s n=⟨1,(k:Int),w⟩) (r:Bool):
  zaY m q n k fr Xd r={ m with fs:=m.fs.set k { fr with u:=true } }/\
  zaY m q n k fr Xc Xd=jv { m with fs:=m.fs.set k { fr with u:=true } } q (n:Int) { Jo { m with fs:=m.fs.set k { fr with u:=true } } q (n:Int)with wr:=true }/\
  zaY m q n k fr Xc Xc={ jv { m with fs:=m.fs.set k { fr with u:=true } } q (n:Int) { Jo { m with fs:=m.fs.set k { fr with u:=true } } q (n:Int)with wr:=true }with fs:=(jv { m with fs:=m.fs.set k { fr with u:=true } } q (n:Int) { Jo { m with fs:=m.fs.set k { fr with u:=true } } q (n:Int)with wr:=true }).fs.set k { fr with u:=true,d:=true } }:=by
 have f:=(gS.1 e).1;have b:Jo { m with fs:=m.fs.set k { fr with u:=true } } q (n:Int)=⟨1,(k:Int),w⟩:=by grind [Jo,zer,Sp.aP,JX]
 have l:enW ⟨1,(k:Int),Xc⟩=0:=zcw ⟨by simp only;omega,by simp only;omega⟩ ⟨by simp only;omega,by simp only;omega,fun _=>by simp only;omega⟩ Sm
 have h:=QM (m:={ m with fs:=m.fs.set k { fr with u:=true } }) j (p:=q) (n:=n) (gS.1 i).1 g l;rw[b];simp only;rw[h];refine⟨rfl,?_,?_⟩
 ·unfold zaY
  grind
 unfold zaY zaF;rw[kE rfl,Bool.or_true];simp only[Yy]
theorem zij {w0 w:Xn} {p:Nat} {V:MaV} {m:Ma} (h:ChW w0 X p w V m) (q n k:Nat) (fr:Fr) (s:Sp) (we:Bool) (hk:m.fs[k]? =Xa fr) (h40:m.fs.length<=40) (ht:∀s∈m.sp,Qy s.tb) (hs:m.sp[q]? =Xa s) (hn:n<64) (hen:zh s n=⟨1,(k:Int),we⟩) (a:Ar) (pg:Pg) (ic wr:Bool):
  Xp Tryz.prog 179 #[Xi #[Xj (Xa ⟨p,0,Xb⟩),Xe Xf (q:Int),Xe Xf (n:Int),Xe Xf a.fr,Xe Xf a.tz,Xh a.rd,Xh a.wr,Xh a.sh,Xe Xf a.file,Xe Xf a.base,Xe Xg pg.b0,Xe Xg pg.b1,Xe Xg pg.b2,Xe Xg pg.b3,Xe Xg pg.b4,Xe Xg pg.b5,Xe Xg pg.b6,Xe Xg pg.b7,Xh ic,Xh wr],Xe Xf (k:Int)] w fun e w'=>(∃v,e= Xl v)/\Chg w0 X p w V (zaY m q n k fr wr a.sh) w':=by
 have HM:Xo (ChW w0 X p w V m):=h;obtain⟨h1,h2,h3⟩:=zpz ht hk h40 hs hn hen a.sh;have H1:Xo (zaY m q n k fr Xd a.sh={ m with fs:=m.fs.set k { fr with u:=true } }):=h1;have HQ:Xo (q<m.sp.length):=(gS.1 hs).1;have hkl:=(gS.1 hk).1;have HK:Xo (m.fs[k]? =Xa fr):=hk;have HD:Xo (∀k,Dw p V k->k<w.heap.size):=h.aM;obtain⟨sh,HSH⟩:∃sh,Xo (a.sh=sh):=⟨_,rfl⟩;rw[HSH.out]at H1⊢;have H2:Xo (zaY m q n k fr Xc Xd=jv { m with fs:=m.fs.set k { fr with u:=true } } q (n:Int) { Jo { m with fs:=m.fs.set k { fr with u:=true } } q (n:Int)with wr:=true }):=h2;have H3:Xo (zaY m q n k fr Xc Xc={ jv { m with fs:=m.fs.set k { fr with u:=true } } q (n:Int) { Jo { m with fs:=m.fs.set k { fr with u:=true } } q (n:Int)with wr:=true }with fs:=(jv { m with fs:=m.fs.set k { fr with u:=true } } q (n:Int) { Jo { m with fs:=m.fs.set k { fr with u:=true } } q (n:Int)with wr:=true }).fs.set k { fr with u:=true,d:=true } }):=h3;clear h1 h2 h3 ht hk h40 hs hn hen;obtain⟨b0,b1,b2,b3,b4,b5,b6,b7⟩:=pg;simp only;obtain⟨b,HB⟩:∃b,Xo (w.heap.size=b):=⟨_,rfl⟩;obtain⟨W1,hW1⟩:∃W1,w.alloc (Xk #[Xj (Xa ⟨p,0,Xb⟩),Xe Xf (q:Int),Xe Xf (n:Int),Xe Xf a.fr,Xe Xf a.tz,Xh a.rd,Xh a.wr,Xh sh,Xe Xf a.file,Xe Xf a.base,Xe Xg b0,Xe Xg b1,Xe Xg b2,Xe Xg b3,Xe Xg b4,Xe Xg b5,Xe Xg b6,Xe Xg b7,Xh ic,Xh wr] 245)=W1:=⟨_,rfl⟩;have G1:=gA hW1
 have X1:=xPT hW1 HB
 have HND:Xo (¬Dw p V b):=show¬_ from fun e=>by have:=HD.out _ e;have:=HB.out;omega
 have HW1:Xo (_=W1):=hW1;clear hW1;have M1:Xo (ChW w0 X p W1 V m):=h.aA G1.out;obtain⟨g,c9,heq⟩:=M1.out.fs.aJ Wm
 have f0:=M1.out.box.box.c 0 rfl;rw[heq]at f0;have HFO:Xo (zb qi w0.heap.size W1 (O (Xa ⟨g,0,Xb⟩) m.fs.length c9) m.fs):=show zb _ _ _ _ _ by rw[<-heq];exact M1.out.fs
 have HG:Xo (oB V.f g):=show oB _ _ by unfold oB;rw[heq];rfl
 have HEQ:Xo (O V.f.a V.f.n V.f.c= O (Xa ⟨g,0,Xb⟩) m.fs.length c9):=heq;have hlt:(k:Int)< (m.fs.length:Int):=Wm
 obtain⟨fn,HFN⟩:∃fn,Xo (m.fs.length=fn):=⟨_,rfl⟩;rw[HFN.out]at HFO HEQ f0 hlt;have u0:=X1.out.box.c 0 rfl;clear h heq hkl
 go_enter Tryz.func179,Tryz.ntmps179
 go_upto_region 1 with fail;rw[HW1.out,HB.out];clear HW1
 go_upto_region 2 with(refine zt (E:=qi) rfl (.tmp 13) (.const (Xh Xc)) 4 rfl w0.heap.size _ m.fs HFO.out g k 9 rfl fr { fr with u:=true } HK.out [Xh Xc] Kr rfl (Xv rfl) (by intro u hu;simp at hu;subst hu;rfl) ⟨g,k*13+9,Xb⟩ rfl rfl _ rfl rfl ?_)
 intro W2 ow2 gr2 _;have HC2:Xo (Chg w0 X p w V { m with fs:=m.fs.set k { fr with u:=true } } W2):=show Chg _ _ _ _ _ _ _ by
  refine Chg.aI G1.out (M1.out.frame HG.out gr2 ?_);(try simp only[Sli.x]);rw[HEQ.out];exact ow2
 have X2:Xo (zl W2 b 245 [Xj (Xa ⟨p,0,Xb⟩),Xe Xf (q:Int),Xe Xf (n:Int),Xe Xf a.fr,Xe Xf a.tz,Xh a.rd,Xh a.wr,Xh sh,Xe Xf a.file,Xe Xf a.base,Xe Xg b0,Xe Xg b1,Xe Xg b2,Xe Xg b3,Xe Xg b4,Xe Xg b5,Xe Xg b6,Xe Xg b7,Xh ic,Xh wr]):=X1.out.aK (zk.grown gr2 (show Dw p V g from .inr (.inl HG.out))) HND.out
 clear ow2 gr2 f0 u0 X1 M1 G1 HFO;try simp only[Xw]
 have u19:=X2.out.box.c 19 rfl
 cases wr with
 | false=>
  have HR:Xo (Chg w0 X p w V (zaY m q n k fr Xd sh) W2):=show Chg _ _ _ _ _ _ _ by rw[H1.out];exact HC2.out
  go_wp2
  exact Ge HR.out
 | true=>
  obtain⟨V2,m2,o2,d2⟩:=HC2.out;have M2:Xo (ChW w0 X p W2 V2 { m with fs:=m.fs.set k { fr with u:=true } }):=m2;have O2:Xo (zk (Dw p V) w W2):=o2;have D2:Xo (∀k,Dw p V2 k->Dw p V k\/w.heap.size<=k):=d2;have HN2:Xo (¬Dw p V2 b):=show¬_ from m2.bU X2.out Dc Dc Dc Dc
  have hal:=zi9 m2 q HQ.out (n:Int);clear m2 o2 d2 HC2;obtain⟨u0,u1,u2⟩:=X2.out.box.c3;go_wp2_with fail;refine hal.mono ?_;clear hal u0 u1 u2 u19;rintro e W4 ⟨⟨v4,rfl⟩,h4⟩;obtain⟨V4,m4,o4,d4⟩:=h4;have X4:Xo (zl W4 b 245 [Xj (Xa ⟨p,0,Xb⟩),Xe Xf (q:Int),Xe Xf (n:Int),Xe Xf a.fr,Xe Xf a.tz,Xh a.rd,Xh a.wr,Xh sh,Xe Xf a.file,Xe Xf a.base,Xe Xg b0,Xe Xg b1,Xe Xg b2,Xe Xg b3,Xe Xg b4,Xe Xg b5,Xe Xg b6,Xe Xg b7,Xh ic,Xh Xc]):=X2.out.aK o4 HN2.out;have HC4:Xo (Chg w0 X p w V (jv { m with fs:=m.fs.set k { fr with u:=true } } q (n:Int) { Jo { m with fs:=m.fs.set k { fr with u:=true } } q (n:Int)with wr:=true }) W4):=show Chg _ _ _ _ _ _ _ from Chg.step O2.out D2.out ⟨V4,m4,o4,d4⟩
  clear m4 o4 d4 X2 M2 O2 D2;have u7:=X4.out.box.c 7 rfl
  cases sh with
  | false=>
   have HR:Xo (Chg w0 X p w V (zaY m q n k fr Xc Xd) W4):=show Chg _ _ _ _ _ _ _ by rw[H2.out];exact HC4.out
   go_wp2
   exact Ge HR.out
  | true=>
   obtain⟨mE,HME⟩:∃mE,Xo (jv { m with fs:=m.fs.set k { fr with u:=true } } q (n:Int) { Jo { m with fs:=m.fs.set k { fr with u:=true } } q (n:Int)with wr:=true }=mE):=⟨_,rfl⟩;have HFE:Xo (mE.fs=m.fs.set k { fr with u:=true }):=show _=_ by rw[<-HME.out];rfl
   rw[HME.out]at HC4 H3;clear HME;obtain⟨V5,m5,o5,d5⟩:=HC4.out;have M5:Xo (ChW w0 X p W4 V5 mE):=m5;have O5:Xo (zk (Dw p V) w W4):=o5;have D5:Xo (∀k,Dw p V5 k->Dw p V k\/w.heap.size<=k):=d5;have hfl:mE.fs.length=fn:=by rw[HFE.out,Yd,HFN.out]
   obtain⟨g5,c5,heq⟩:=m5.fs.aJ (by rw[hfl];omega)
   have f0:=m5.box.box.c 0 rfl;rw[heq,hfl]at f0;have HK5:Xo (mE.fs[k]? =Xa { fr with u:=true }):=show _=_ by rw[HFE.out,sF (gS.1 HK.out).1]
   have HFO:Xo (zb qi w0.heap.size W4 (O (Xa ⟨g5,0,Xb⟩) fn c5) mE.fs):=show zb _ _ _ _ _ by rw[<-hfl,<-heq];exact m5.fs
   have HG5:Xo (oB V5.f g5):=show oB _ _ by unfold oB;rw[heq];rfl
   have HEQ5:Xo (O V5.f.a V5.f.n V5.f.c= O (Xa ⟨g5,0,Xb⟩) fn c5):=show _=_ by rw[heq,hfl]
   have u0:=X4.out.box.c 0 rfl;clear m5 o5 d5 heq hfl HC4
   go_wp2_with (refine zt (E:=qi) rfl (.tmp 34) (.const (Xh Xc)) 4 rfl w0.heap.size _ mE.fs HFO.out g5 k 10 rfl { fr with u:=true } { fr with u:=true,d:=true } HK5.out [Xh Xc] Kr rfl (Xv rfl) (by intro u hu;simp at hu;subst hu;rfl) ⟨g5,k*13+10,Xb⟩ rfl rfl _ rfl rfl ?_)
   intro W6 ow6 gr6 _;have HR:Xo (Chg w0 X p w V (zaY m q n k fr Xc Xc) W6):=show Chg _ _ _ _ _ _ _ by
    rw[H3.out];refine Chg.step O5.out D5.out (M5.out.frame HG5.out gr6 ?_);(try simp only[Sli.x]);rw[HEQ5.out];exact ow6
   clear ow6 gr6 f0 u0 u7;go_wp2
   exact Ge HR.out
theorem zqd (h:zcl m Xb m.ca=0) (file idx:Int):zN m file idx=match ZI m.ca (file,idx)with | some z=>pgL (zQ m z).p | none=>z9 m file idx:=by
 cases f:ZI m.ca (file,idx)with
 | some z=>
  obtain⟨e,b,c,i⟩:=zbB f;have a:=jZ h b;simp only[pJ]at c;rw[<-c.1,<-c.2]at a;unfold zN;rw[a];simp only;rw[i]
 | none=>
  have g:=zbA.1 f;have a:m.ca.find? (QU file idx)=Xb:=by
   rw[Yk];intro e b d;simp only[QU,Bool.and_eq_true,decide_eq_true_eq]at d;exact g e b (by rw[d.1,d.2])
  unfold zN;rw[a];rfl
theorem zs4 (h:zcl m Xb m.ca=0) {file idx:Int} (e:ZI m.ca (file,idx)=Xa z):0<=z/\z< (m.fs.length:Int):=by
 obtain⟨c,a,b,d⟩:=zbB e;have:=(q9 ((zn.1 h).1 c a)).1;omega
theorem zcu (V:MaV) (m:Ma) (B fi ix:Nat) (f:Fl) (a1:Int) (w) (y:zw w V m) (j:zcl m Xb m.ca=0) (a2:m.fl[fi]? =Xa f) (t:f.bl[ix]? =Xa a1) (u:ix<=1000) (v:0<=f.size/\f.size<=1000) (d:Zw plK w B (ZI m.ca)):
  Xp prog 150 #[Xi #[V.f.x,I6 m.aB,V.s.x,V.sb.x,V.sq.x,V.db.x,V.dq.x,V.fl.x,I6 m.cnt,V.ca.x,V.sp.x,.map (Xa B)],I6 (fi:Int),I6 (ix:Int)] w fun e w'=>e= Xl (Xi (pgc (zN m fi ix)).toArray)/\(zN m fi ix).length=8/\zc w w':=by
 have s:Xo (∀W,zc w W->Xp prog 155 #[Xi (mL V m).toArray,I6 (fi:Int),I6 (ix:Int)] W fun e w'=>e= Xl (Xi (pgc (z9 m fi ix)).toArray)/\(z9 m fi ix).length=8/\zc W w'):=dD<|fun W ad=>zaO V m fi ix f a1 W (y.aA ad) a2 t u v
 have p:=dD y.bF;obtain⟨M,-⟩:=y.ns;have b:Xo (zN m fi ix=match ZI m.ca ((fi:Int),(ix:Int))with|some z=>pgL (zQ m z).p|none=>z9 m fi ix):=zqd j _ _
 have q:=dD<|fun z (ae:ZI m.ca ((fi:Int),(ix:Int))=Xa z)=>zs4 j ae
 obtain⟨⟨a9,ab,aa⟩,af,S,U,P,Q,R,N,T⟩:=V;dsimp only[mL]at M s p⊢;have r:=dD M.symm;obtain⟨h,c⟩:=kB ((w.alloc (Xk #[O a9 ab aa,I6 m.aB,af.x,S.x,U.x,P.x,Q.x,R.x,I6 m.cnt,N.x,T.x,.map (Xa B)] 131)).alloc (Xk #[U8 0,U8 0,U8 0,U8 0,U8 0,U8 0,U8 0,U8 0] 91));have n:=gD2 c
 have G:=x2a c
 have a0:Xo (Box h (w.heap.size+1) (pgc zI)):=dD<|by rw[<-c];exact Box.aE _ (pgc zI) _ Sm
 have a:(Instr.lookup 129 (.map (Xa B)) (Xi #[I6 (fi:Int),I6 (ix:Int)]) Xc).run prog h= .ok (Xm #[I6 ((ZI m.ca ((fi:Int),(ix:Int))).getD 0),Xh (ZI m.ca ((fi:Int),(ix:Int))).isSome]) h:=(d.aA n).look (K:=plK) underlying129 (ztG h) ((fi:Int),(ix:Int)) Xc;have E:Xo (_=h):=c;obtain⟨ac,D⟩:=kA (ZI m.ca ((fi:Int),(ix:Int)));rw[D.out]at a b q;obtain⟨a4,a6⟩:=kA (zN m fi ix);rw[a6.out]at b⊢;clear c y j a2 t u v d M
 go_enter func150,ntmps150
 go_upto_region 1 with fail;rw[E.out];have Z:=G.c 11 rfl
 cases ac with
 | none=>
  simp only[Option.getD_none,Option.isSome_none]at a b;have L:=s.out h n.out;rw[<-b.out]at L;obtain⟨X,ag,ah,ai,aj,ak,al,am,an,ao,Y⟩:=G.bL;go_wp2_with fail;refine L.mono ?_;clear L a X ag ah ai aj ak al am an ao Y Z;rintro b2 ar ⟨rfl,l,H⟩;have a5:=dD (n.trans H);have a7:=dD (a0.aA H);clear H
  go_wp2_with (refine zz rfl 91 (.tmp 6) (.tmp 31) rfl (w.heap.size+1) rfl (pgc a4) rfl a7 (by rw[ZL,l];rfl) ztF (jy _) ?_)
  intro F i k _;have g:Xo (zc w F):=dD<|zd a5 k Wm
  go_wp2;refine bodyPost_ret (zE rfl _ rfl i underlying91 rfl (by rw[ZL,l];exact ztF)) rfl ⟨rfl,l,g⟩
 | some z=>
  simp only[Option.getD_some,Option.isSome_some]at a b;obtain⟨ap,aq⟩:=q.out z rfl;obtain⟨A,rfl⟩:∃A:Nat,z=(A:Int):=⟨z.toNat,Wm⟩
  rw[r.out]at aq;obtain⟨C,I⟩:∃C,Xo (m.fs[A]? =Xa C):=⟨_,gE (by rw[r.out];omega)⟩
  rw[zT I.out]at b;obtain⟨a8,x,a3⟩:=p.out A C I.out;obtain⟨au,av,aw,ax,ay,az,b0,b1,-⟩:=a3 h n.out;have X:=G.c 0 rfl;rw[x]at X;clear a3 x ap
  go_wp2_with (refine zz rfl 91 (.tmp 6) (.tmp 26) rfl (w.heap.size+1) rfl (pgc (pgL C.p)) rfl a0 rfl ztF (jy _) ?_)
  intro F i k _;have g:Xo (zc w F):=dD<|zd n k Wm
  go_wp2;refine bodyPost_ret (zE rfl _ rfl i underlying91 rfl ztF) rfl ⟨by rw[b.out],Rr b.out,g⟩
theorem zqR (h:maW m=0):zB m.sb.length m.sq=0:=by
 have a:=JP h;unfold zaR at a;rw[zr]at a;exact a _ Sm
theorem zkz {n:Nat} {qs:List (Int × List Int)} {k:Int} (h:zB n qs=0) (a:0<=k) (b:k< (n:Int)):zg n qs k=0:=by grind [zg,j0]
theorem ziZ (h:maW m=0) {f:Fl} (c:m.fl[fi]? =Xa f):(0<=f.size/\f.size<=1000)/\f.bl.length<=12:=by
 have a:=JP h;unfold zaR at a;rw[zr]at a;have b:=((zY _ _).1 (a (stW m.fl m.cnt) Sm)).2.1 f (mG c)
 have d:=b.2.1;have e:=b.1
 grind [jH]
theorem zol (h:maW m=0):zcl m Xb m.ca=0:=by
 unfold maW at h;rw[zr]at h;exact h _ Sm
theorem zrv {file idx:Int} (a:0<=file) (b:0<=idx):zoO m.fl file idx=decide (idx<bkN m file):=by
 unfold zoO bkN;rw[Bool.eq_iff_iff,Bool.and_eq_true,Zu,Zu,decide_eq_true_eq]
 grind
theorem zfQ (V:MaV) (m:Ma) (B:Nat) (a:Ar) (n:Nat) (e:En) (w:Xn) (hm:zw w V m) (hw:maW m=0) (ha:jV a) (hin:a.fr<=(n:Int)/\(n:Int)<a.tz) (h1:e.kind=1->0<=e.n/\e.n< (m.fs.length:Int)) (h2:e.kind=2->0<=e.n/\e.n< (m.sb.length:Int)) (hmap:Zw plK w B (ZI m.ca)):
  Xp Tryz.prog 204 #[Xi #[O V.f.a V.f.n V.f.c,Xe Xf m.aB,O V.s.a V.s.n V.s.c,O V.sb.a V.sb.n V.sb.c,O V.sq.a V.sq.n V.sq.c,O V.db.a V.db.n V.db.c,O V.dq.a V.dq.n V.dq.c,O V.fl.a V.fl.n V.fl.c,Xe Xf m.cnt,O V.ca.a V.ca.n V.ca.c,O V.sp.a V.sp.n V.sp.c,.map (Xa B)],Xi #[Xe Xf a.fr,Xe Xf a.tz,Xh a.rd,Xh a.wr,Xh a.sh,Xe Xf a.file,Xe Xf a.base],Xe Xf (n:Int),Xi #[Xe Xf e.kind,Xe Xf e.n,Xh e.wr]] w fun r w'=>r= Xl (zif (Qr m (qp a n) e))/\(Qr m (qp a n) e).1.length=8/\zc w w':=by
 have HM:Xo (zw w V m):=hm;have HMP:Xo (Zw plK w B (ZI m.ca)):=hmap;have HFP:Xo (∀W (fi ix:Nat) f bk,zc w W->m.fl[fi]? =Xa f->f.bl[ix]? =Xa bk->ix<=1000->Xp Tryz.prog 150 #[Xi #[O V.f.a V.f.n V.f.c,Xe Xf m.aB,O V.s.a V.s.n V.s.c,O V.sb.a V.sb.n V.sb.c,O V.sq.a V.sq.n V.sq.c,O V.db.a V.db.n V.db.c,O V.dq.a V.dq.n V.dq.c,O V.fl.a V.fl.n V.fl.c,Xe Xf m.cnt,O V.ca.a V.ca.n V.ca.c,O V.sp.a V.sp.n V.sp.c,.map (Xa B)],Xe Xf (fi:Int),Xe Xf (ix:Int)] W fun e w'=>e= Xl (Xi (pgc (zN m fi ix)).toArray)/\(zN m fi ix).length=8/\zc W w'):=show∀W,_ from fun W fi ix f bk hW hf hb hi=>zcu V m B fi ix f bk W (HM.out.aA hW) (zol hw) hf hb hi (ziZ hw hf).1 (HMP.out.aA hW)
 have HRD:Xo (∀W k,zc w W->Xp Tryz.prog 184 #[Xi #[O V.sb.a V.sb.n V.sb.c,O V.sq.a V.sq.n V.sq.c],Xe Xf k] W fun e w'=>e= Xl (Xm #[Xi (pgc (zS m.sb m.sq k)).toArray,Xe Xf (zg m.sb.length m.sq k)])/\zc W w'):=show∀W,_ from fun W k hW=>zfy _ m.sb m.sq k W ⟨_,_,rfl,(HM.out.aA hW).sb,(HM.out.aA hW).sq⟩
 have HHP:Xo (∀W file idx,zc w W->Xp Tryz.prog 119 #[Xi #[O V.fl.a V.fl.n V.fl.c,Xe Xf m.cnt],Xe Xf file,Xe Xf idx] W fun e w'=>e= Xl (Xh (zoO m.fl file idx))/\zc W w'):=show∀W,_ from fun W file idx hW=>za3 _ m.fl m.cnt file idx W (HM.out.aA hW).fl
 have HRL:Xo (∀k,(zS m.sb m.sq k).length=8):=show∀k,_ from fun k=>zgO hm.sb.2.1 hm.sq.2.1
 have HSW:Xo (zB m.sb.length m.sq=0):=zqR hw;have HFR:Xo (zkw w V.f.a m.fs):=hm.bF;have HF12:Xo (∀(fi:Nat) f,m.fl[fi]? =Xa f->f.bl.length<=12):=show∀fi,_ from fun fi f hf=>(ziZ hw hf).2
 have HIX:Xo (∀W,Xp Tryz.prog 169 #[Xi #[Xe Xf a.fr,Xe Xf a.tz,Xh a.rd,Xh a.wr,Xh a.sh,Xe Xf a.file,Xe Xf a.base],Xe Xf (n:Int)] W fun e w'=>e= Xl (Xe Xf (a.base+(n:Int) - a.fr))/\zc W w'):=show∀W,_ from fun W=>za2 a n W (by unfold jV at ha;omega) (by unfold jV at ha;omega) (by unfold jV at ha;omega)
 obtain⟨n1,-,-,-,-,-,n7,-,-⟩:=hm.ns;have HSE:Xo (Qr m (qp a n) e=if e.kind=1 then(pgL (zQ m e.n).p,decide ((zQ m e.n).f<0),0)else if e.kind=2 then(zS m.sb m.sq e.n,Xc,0)else if a.file<0 then(zI,Xd,0)else if bkN m a.file<=a.base+(n:Int) - a.fr then(zI,Xd,9)else(zN m a.file (a.base+(n:Int) - a.fr),Xd,0)):=show _=_ by
  unfold Qr qp;rw[if_neg Sm]
  by_cases k1:e.kind=1
  ·rw[if_pos k1,if_pos k1]
  rw[if_neg k1,if_neg k1]
  by_cases k2:e.kind=2
  ·rw[if_pos k2,if_pos k2]
  rw[if_neg k2,if_neg k2]
  by_cases k3:a.file<0
  ·rw[if_pos k3,if_pos k3]
  rw[if_neg k3,if_neg k3];have hpage:(if 0<=a.file then a.base+((n:Int) - a.fr)else 0)=a.base+(n:Int) - a.fr:=by rw[if_pos Wm];omega
  simp only[hpage]
 obtain⟨R,HRR⟩:∃R,Xo (Qr m (qp a n) e=R):=⟨_,rfl⟩;rw[HRR.out]at HSE⊢;obtain⟨⟨fa,fn,fc⟩,vs,⟨sba,sbn,sbc⟩,⟨sqa,sqn,sqc⟩,vdb,vdq,⟨fla,fln,flc⟩,vca,vsp⟩:=V;dsimp only at n1 n7 HFP HRD HHP HFR⊢;have HN1:Xo (m.fs.length=fn):=n1.symm;have HP0:Xo (0<=a.file->0<=a.base+(n:Int) - a.fr/\a.base+(n:Int) - a.fr<=100):=show _->_ from fun _=>by unfold jV at ha;omega
 clear hm hw ha hin hmap n1 n7 HM HMP HRR;obtain⟨W0,hW0⟩:∃W0,(((w.alloc (Xk #[O fa fn fc,Xe Xf m.aB,O vs.a vs.n vs.c,O sba sbn sbc,O sqa sqn sqc,O vdb.a vdb.n vdb.c,O vdq.a vdq.n vdq.c,O fla fln flc,Xe Xf m.cnt,O vca.a vca.n vca.c,O vsp.a vsp.n vsp.c,.map (Xa B)] 131)).alloc (Xk #[Xe Xf a.fr,Xe Xf a.tz,Xh a.rd,Xh a.wr,Xh a.sh,Xe Xf a.file,Xe Xf a.base] 125)).alloc (Xk #[Xe Xf e.kind,Xe Xf e.n,Xh e.wr] 127)).alloc (Xk #[Xe Xg 0,Xe Xg 0,Xe Xg 0,Xe Xg 0,Xe Xg 0,Xe Xg 0,Xe Xg 0,Xe Xg 0] 91)=W0:=⟨_,rfl⟩;have G0:Xo (zc w W0):=show zc _ _ by rw[<-hW0];exact(((za _ _).trans (za _ _)).trans (za _ _)).trans (za _ _)
 have X0:Xo (Box W0 w.heap.size [O fa fn fc,Xe Xf m.aB,O vs.a vs.n vs.c,O sba sbn sbc,O sqa sqn sqc,O vdb.a vdb.n vdb.c,O vdq.a vdq.n vdq.c,O fla fln flc,Xe Xf m.cnt,O vca.a vca.n vca.c,O vsp.a vsp.n vsp.c,.map (Xa B)]):=show Box _ _ _ by rw[<-hW0];exact(((Box.aE _ _ _ rfl).alloc _).alloc _).alloc _
 have A0:Xo (Box W0 (w.heap.size+1) [Xe Xf a.fr,Xe Xf a.tz,Xh a.rd,Xh a.wr,Xh a.sh,Xe Xf a.file,Xe Xf a.base]):=show Box _ _ _ by rw[<-hW0];exact((Box.aE _ _ _ Sm).alloc _).alloc _
 have E0:Xo (Box W0 (w.heap.size+1+1) [Xe Xf e.kind,Xe Xf e.n,Xh e.wr]):=show Box _ _ _ by rw[<-hW0];exact(Box.aE _ _ _ Sm).alloc _
 have Y0:Xo (Box W0 (w.heap.size+1+1+1) (pgc zI)):=show Box _ _ _ by rw[<-hW0];exact Box.aE _ (pgc zI) _ Sm
 have HW0:Xo (_=W0):=hW0;clear hW0
 go_enter Tryz.func204,Tryz.ntmps204
 go_upto_region 1 with fail;rw[HW0.out];clear HW0;obtain⟨e0,e1⟩:=E0.out.k2
 by_cases k1:e.kind=1
 ·have k1e:(e.kind == 1)=Xc:=by simp[k1]
  obtain⟨z0,z1⟩:=h1 k1;obtain⟨k,hk⟩:∃k:Nat,e.n=(k:Int):=⟨e.n.toNat,Wm⟩
  rw[hk]at z1 z0;rw[HN1.out]at z1;obtain⟨q,HQ⟩:∃q,Xo (m.fs[k]? =Xa q):=⟨_,gE (Hm HN1.out)⟩
  have HR:Xo (R=(pgL q.p,decide (q.f<0),0)):=show _=_ by rw[HSE.out,if_pos k1,hk,zT HQ.out]
  obtain⟨adf,hva,hlf⟩:=HFR.out k q HQ.out;obtain⟨d0,d1,d2,d3,d4,d5,d6,d7,d8,d9,d10,d11,d12⟩:=hlf W0 G0.out;have x0:=X0.out.c 0 rfl;rw[hva]at x0;rw[hk]at e1;clear hlf hva k1 hk h1 h2 HSE z0;go_upto_region 4 with fail;obtain⟨pq,HPQ⟩:∃pq,Xo (W0.heap.size=pq):=⟨_,rfl⟩;obtain⟨W5,hW5⟩:∃W5,W0.alloc (Xk #[Xe Xg q.p.b0,Xe Xg q.p.b1,Xe Xg q.p.b2,Xe Xg q.p.b3,Xe Xg q.p.b4,Xe Xg q.p.b5,Xe Xg q.p.b6,Xe Xg q.p.b7,Xe Xf q.r,Xh q.u,Xh q.d,Xe Xf q.f,Xe Xf q.x] 93)=W5:=⟨_,rfl⟩;have g5:=gP hW5
  have Q5:=xP hW5 HPQ
  have G5:=dD (G0.out.trans g5);have Y5:=dD (Y0.out.aA g5);have hne:w.heap.size+1+1+1≠pq:=by have:=Y0.out.lt;have h2:=HPQ.out;omega
  have hne2:pq≠w.heap.size+1+1+1:=fun h=>hne h.symm
  rw[hW5,HPQ.out];clear hW5 g5 G0 X0 Y0 A0 E0 x0 e0 e1 HPQ d0 d1 d2 d3 d4 d5 d6 d7 d8 d9 d10 d11 d12;obtain⟨I,HI⟩:=Wq fun u=>zc w u/\Box u pq [Xe Xg q.p.b0,Xe Xg q.p.b1,Xe Xg q.p.b2,Xe Xg q.p.b3,Xe Xg q.p.b4,Xe Xg q.p.b5,Xe Xg q.p.b6,Xe Xg q.p.b7,Xe Xf q.r,Xh q.u,Xh q.d,Xe Xf q.f,Xe Xf q.x]/\∃cs,Box u (w.heap.size+1+1+1) cs/\cs.length=8
  have gd:zc W5 W5.drew:=(gW _)
  have hI0:I W5.drew:=(HI.out _).2 ⟨G5.out.trans gd,Q5.out.aA gd,_,Y5.out.aA gd,rfl⟩;have hq0:=fun y:zq I=>((HI.out _).1 y.holds).2.1.c 0 rfl
  have hq1:=fun y:zq I=>((HI.out _).1 y.holds).2.1.c 1 rfl
  have hq2:=fun y:zq I=>((HI.out _).1 y.holds).2.1.c 2 rfl
  have hq3:=fun y:zq I=>((HI.out _).1 y.holds).2.1.c 3 rfl
  have hq4:=fun y:zq I=>((HI.out _).1 y.holds).2.1.c 4 rfl
  have hq5:=fun y:zq I=>((HI.out _).1 y.holds).2.1.c 5 rfl
  have hq6:=fun y:zq I=>((HI.out _).1 y.holds).2.1.c 6 rfl
  have hq7:=fun y:zq I=>((HI.out _).1 y.holds).2.1.c 7 rfl
  have hq11:=fun y:zq I=>((HI.out _).1 y.holds).2.1.c 11 rfl
  have hne3:Nonempty (zq I):=⟨⟨_,hI0⟩⟩;refine j1 (I:=I) 8 [(5,⟨fun _=>True,fun _ u=>Box u (w.heap.size+1+1+1) (pgc (pgL q.p)),fun p r=>True,fun _=>True⟩)] hI0 zW Kr rfl rfl Dc (Sa ⟨Xh Xc,trivial⟩) ?hp ?hpre ?hpr0 ?_
  case hp=>
   intro k s j t hk hj hjk hanc v p q hst hpo;have hk':=qe hk;have hj':=qe hj;simp only[mC,pJ,nM,or_false]at hk' hj';exact absurd (hj'.1.trans hk'.1.symm) hjk
  case hpre=>
   intro j t k s hj hk hjk p q hst hpr;have hj':=qe hj;simp only[mC,pJ,nM,or_false]at hj';obtain⟨rfl,rfl⟩:=hj';trivial
  case hpr0=>
   intro k t hk;have hk':=qe hk;simp only[mC,pJ,nM,or_false]at hk';obtain⟨rfl,rfl⟩:=hk';trivial
  simp only[Yj,Yf];iterate 5 (refine zb8 rfl rfl rfl (fun K hK=>?_);go_big_quiet_op;refine hK _ ?_;clear hK K)
  refine j9 rfl rfl (fun w' hI' hpr hF=>?_) (fun v1 hv=>?_)
  ·obtain⟨i1,i2,cs,i3,i4⟩:=(HI.out _).1 hI';refine zP.storeAll 91 (.tmp 8) (.tmp 28) rfl (w.heap.size+1+1+1) rfl (pgc (pgL q.p)) rfl i3 (Rr i4) (Rx i4 ztF) (jy _) fun w'' b1 b2 b3=>?_
   exact⟨(HI.out _).2 ⟨zd i1 b2 Wm,i2.grown b2 hne2,_,b1,rfl⟩,trivial,trivial,b1⟩
  simp only[Xw];iterate 2 (refine zb8 rfl rfl rfl (fun K hK=>?_);go_big_quiet_op;refine hK _ ?_;clear hK K)
  refine zaj fun W6 hI6 hF=>?_
  have Y6:Xo (Box W6 (w.heap.size+1+1+1) (pgc (pgL q.p))):=hF 5;have G6:Xo (zc w W6):=((HI.out _).1 hI6).1;clear hF hI6 hI0 hne3 HI hq0 hq1 hq2 hq3 hq4 hq5 hq6 hq7 hq11;go_wp2;refine bodyPost_ret (z6 rfl _ rfl Y6.out Tryz.underlying91 rfl ztF) rfl ⟨Rr HR.out,Rr HR.out,G6.out⟩
 have k1e:(e.kind == 1)=Xd:=by simp[k1]
 rw[if_neg k1]at HSE
 by_cases k2:e.kind=2
 ·have k2e:(e.kind == 2)=Xc:=by simp[k2]
  rw[if_pos k2]at HSE;obtain⟨z0,z1⟩:=h2 k2;have HWA:Xo (zg m.sb.length m.sq e.n=0):=zkz HSW.out z0 z1;have hc:=HRD.out W0 e.n G0.out;rw[HWA.out]at hc;obtain⟨p,HP⟩:∃p,Xo (zS m.sb m.sq e.n=p):=⟨_,rfl⟩;have HL8:Xo (p.length=8):=show _=_ by rw[<-HP.out];exact HRL.out _
  rw[HP.out]at HSE hc;obtain⟨p0,p1,p2,p3,p4,p5,p6,p7,rfl⟩:=zba p HL8.out;have x3:=X0.out.c 3 rfl;have x4:=X0.out.c 4 rfl;clear k1 k2 z0 z1 h1 h2;go_wp2_with fail;refine hc.mono ?_;clear hc x3 x4 e0 e1;rintro r W1 ⟨rfl,g1⟩;have G1:=dD (G0.out.trans g1);have Y1:=dD (Y0.out.aA g1);simp only[pgc,mP,Yb];go_upto_region 7 with fail;obtain⟨pl,HPL⟩:∃pl,Xo (W1.heap.size=pl):=⟨_,rfl⟩;obtain⟨W2,hW2⟩:∃W2,W1.alloc (Xk #[Xe Xg p0,Xe Xg p1,Xe Xg p2,Xe Xg p3,Xe Xg p4,Xe Xg p5,Xe Xg p6,Xe Xg p7] 91)=W2:=⟨_,rfl⟩;have g2:=gP hW2
  have P2:=xP hW2 HPL
  have G2:=dD (G1.out.trans g2);have Y2:=dD (Y1.out.aA g2);rw[hW2,HPL.out];clear hW2 g2 g1 G1 Y1 HPL;have HR:=HSE;obtain⟨c0,c1,c2,c3,c4,c5,c6,c7⟩:=P2.out.c8
  go_wp2_with (refine zz rfl 91 (.tmp 8) (.tmp 43) rfl (w.heap.size+1+1+1) rfl (pgc [p0,p1,p2,p3,p4,p5,p6,p7]) rfl Y2.out rfl ztF (jy _) ?_)
  intro WL hbL hgL _;have HGL:Xo (zc w WL):=show zc _ _ from zd G2.out hgL Wm
  go_wp2;refine bodyPost_ret (z6 rfl _ rfl hbL Tryz.underlying91 rfl ztF) rfl ⟨Rr HR.out,Rr HR.out,HGL.out⟩
 have k2e:(e.kind == 2)=Xd:=by simp[k2]
 rw[if_neg k2]at HSE;clear k1 k2 h1 h2;have a5:=A0.out.c 5 rfl
 by_cases k3:a.file<0
 ·have k3d:decide (a.file<0)=Xc:=decide_eq_true k3;rw[if_pos k3]at HSE;have HR:=HSE;clear k3
  go_wp2_with (refine zz rfl 91 (.tmp 8) (.tmp 48) rfl (w.heap.size+1+1+1) rfl (pgc zI) rfl Y0.out rfl ztF (jy _) ?_)
  intro WL hbL hgL _;have HGL:Xo (zc w WL):=show zc _ _ from zd G0.out hgL Wm
  go_wp2;refine bodyPost_ret (z6 rfl _ rfl hbL Tryz.underlying91 rfl ztF) rfl ⟨Rr HR.out,Rr HR.out,HGL.out⟩
 have k3d:decide (a.file<0)=Xd:=decide_eq_false k3;rw[if_neg k3]at HSE;obtain⟨z0,z1⟩:=HP0.out Wm
 obtain⟨fi,hfi⟩:∃fi:Nat,a.file=(fi:Int):=⟨a.file.toNat,Wm⟩
 obtain⟨ix,hix⟩:∃ix:Nat,a.base+(n:Int) - a.fr=(ix:Int):=⟨(a.base+(n:Int) - a.fr).toNat,Wm⟩
 have hc:=HIX.out W0;rw[hix]at hc z0 z1;rw[hix,hfi]at HSE;have HFI:Xo (a.file=(fi:Int)):=hfi;clear hfi hix;have a0:=A0.out.c 0 rfl;have a1:=A0.out.c 1 rfl;have a2:=A0.out.c 2 rfl;have a3:=A0.out.c 3 rfl;have a4:=A0.out.c 4 rfl;have a6:=A0.out.c 6 rfl;go_wp2_with fail;refine hc.mono ?_;clear hc a0 a1 a2 a3 a4 a5 a6 e0 e1 k3d k1e k2e HIX HP0;rintro r W1 ⟨rfl,g1⟩;have G1:=dD (G0.out.trans g1);have X1:=dD (X0.out.aA g1);have A1:=dD (A0.out.aA g1);have Y1:=dD (Y0.out.aA g1);clear g1 G0 X0 A0 E0 Y0;have hc:=HHP.out W1 (fi:Int) (ix:Int) G1.out;rw[zrv Wm Wm]at hc
 have a5:=A1.out.c 5 rfl;rw[HFI.out]at a5;have x7:=X1.out.c 7 rfl;have x8:=X1.out.c 8 rfl;go_wp2_with fail;refine hc.mono ?_;clear hc a5 x7 x8 HHP;rintro r W2 ⟨rfl,g2⟩;have G2:=dD (G1.out.trans g2);have X2:=dD (X1.out.aA g2);have A2:=dD (A1.out.aA g2);have Y2:=dD (Y1.out.aA g2);clear g2 G1 X1 A1 Y1
 by_cases k4:bkN m (fi:Int)<=(ix:Int)
 ·rw[if_pos k4]at HSE;rw[decide_eq_false (by omega:¬(ix:Int)<bkN m (fi:Int))]
  have HR:=HSE;clear k4
  go_wp2_with (refine zz rfl 91 (.tmp 8) (.tmp 60) rfl (w.heap.size+1+1+1) rfl (pgc zI) rfl Y2.out rfl ztF (jy _) ?_)
  intro WL hbL hgL _;have HGL:Xo (zc w WL):=show zc _ _ from zd G2.out hgL Wm
  go_wp2;refine bodyPost_ret (z6 rfl _ rfl hbL Tryz.underlying91 rfl ztF) rfl ⟨Rr HR.out,Rr HR.out,HGL.out⟩
 rw[if_neg k4]at HSE;rw[decide_eq_true (by omega:(ix:Int)<bkN m (fi:Int))]
 obtain⟨f,hf⟩:∃f,m.fl[fi]? =Xa f:=by
  cases hq:m.fl[fi]? with
  | some f=>exact⟨f,rfl⟩
  | none=>
   exfalso;unfold bkN at k4;rw[tN,gD,hq]at k4
   simp at k4
 obtain⟨bk,hbk⟩:∃bk,f.bl[ix]? =Xa bk:=⟨_,gE (by
  unfold bkN at k4;rw[tN,gD,hf]at k4;simp only[Option.getD_some]at k4
  omega)⟩
 have hc:=HFP.out W2 fi ix f bk G2.out hf hbk Wm
 clear hf hbk k4 HFP;have a5:=A2.out.c 5 rfl;rw[HFI.out]at a5;obtain⟨x0,x1,x2,x3,x4,x5,x6,x7,x8,x9,x10,x11⟩:=X2.out.c12;go_wp2_with fail;refine hc.mono ?_;clear hc a5 x0 x1 x2 x3 x4 x5 x6 x7 x8 x9 x10 x11;rintro r W3 ⟨rfl,hl8,g3⟩;have G3:=dD (G2.out.trans g3);have Y3:=dD (Y2.out.aA g3);clear g3 G2 X2 A2 Y2;obtain⟨p,HP⟩:∃p,Xo (zN m (fi:Int) (ix:Int)=p):=⟨_,rfl⟩;rw[HP.out]at HSE hl8⊢;obtain⟨p0,p1,p2,p3,p4,p5,p6,p7,rfl⟩:=zba p hl8;have HR:=HSE;clear hl8;simp only[pgc,mP,Yb]
 go_wp2_with (refine zz rfl 91 (.tmp 8) (.tmp 65) rfl (w.heap.size+1+1+1) rfl (pgc [p0,p1,p2,p3,p4,p5,p6,p7]) rfl Y3.out rfl ztF (jy _) ?_)
 intro WL hbL hgL _;have HGL:Xo (zc w WL):=show zc _ _ from zd G3.out hgL Wm
 go_wp2;refine bodyPost_ret (z6 rfl _ rfl hbL Tryz.underlying91 rfl ztF) rfl ⟨Rr HR.out,Rr HR.out,HGL.out⟩
theorem zqA (d:maW m=0) {p:Nat} {s:Sp} (c:m.sp[p]? =Xa s) {n:Nat} (b:n<64):((zh s n).kind=1->0<=(zh s n).n/\(zh s n).n< (m.fs.length:Int))/\((zh s n).kind=2->0<=(zh s n).n/\(zh s n).n< (m.sb.length:Int)):=by
 have a:=(zbl d).1;have f:=zrH d s (mG c) n b;have e:(jd m)[p]? =Xa (zh s):=by unfold jd;rw[Ye,c];rfl
 have g:=(Zc (a.en e b)).2.1.1;have h:=a.bI
 grind [zgl]
theorem zqc (a:∀p∈m.db,p.length=8) (b:∀q∈m.dq,q.2.length=8) (file idx:Int):(zN m file idx).length=8:=by
 unfold zN
 split
 ·rfl
 exact Qa a b file idx
theorem zq0 (a1:∀p∈m.sb,p.length=8) (a2:∀q∈m.sq,q.2.length=8) (a:∀p∈m.db,p.length=8) (b:∀q∈m.dq,q.2.length=8) (x:On) (e:En):(Qr m x e).1.length=8:=by
 unfold Qr
 split
 ·rfl
 split
 ·rfl
 split
 ·exact zgO a1 a2
 split
 ·rfl
 split
 ·rfl
 grind [zqc]
theorem zmn {p:Nat} {s:Sp} (c:m.sp[p]? =Xa s) {n:Int} (a:zcF s.aD n z) (d:z<0):zig m (p:Int) n=(zI,Xd,5):=by
 by_cases h:0<=n/\n<=63
 ·obtain⟨k,rfl⟩:∃k:Nat,n=(k:Int):=⟨n.toNat,Wm⟩
  have b:=zf3 a
  grind [zcS,Qr]
 grind [zcT]
def jU (m:Ma) (p n:Int) (wr:Bool) (a:Ar) (e:Int):Prop:=
 (e=5/\a=ar0/\((p<0\/(m.sp.length:Int)<=p)\/∃(pp:Nat) (s:Sp),p=(pp:Int)/\m.sp[pp]? =Xa s/\∀a∈s.aD,inZ a n=Xd))\/
 (∃(pp nn k:Nat) (s:Sp) (x:Ar),p=(pp:Int)/\n=(nn:Int)/\nn<64/\m.sp[pp]? =Xa s/\s.aD[k]? =Xa x/\jV x/\(x.fr<=(nn:Int)/\(nn:Int)<x.tz)/\zJ s.aD nn=qp x nn/\
  ((e=8/\a=ar0/\(if wr=Xc then x.wr else x.rd)=Xd)\/(e=0/\a=x/\(if wr=Xc then x.wr else x.rd)=Xc)))
theorem zkI (V m) (p n:Int) (wr:Bool) (w) (aj:zw w V m) (az:maW m=0):
  Xp prog 176 #[Xi (mL V m).toArray,I6 p,I6 n,Xh wr] w fun e w'=>(∃(a:Ar) (H:Int),e= Xl (Xm #[Xi #[I6 a.fr,I6 a.tz,Xh a.rd,Xh a.wr,Xh a.sh,I6 a.file,I6 a.base],I6 H])/\jU m p n wr a H)/\zc w w':=by
 have bg:=dD aj;have al:=dD az;have R:=dD<|fun W (bn:zc w W)=>QA V m W (bg.aA bn) az
 obtain⟨-,-,-,-,-,-,-,-,b4⟩:=aj.ns;obtain⟨be,a2,s,a1⟩:=aj.bG;obtain⟨bc,bd,a8,a9,a5,a6,a7,a4,⟨K,j,a3⟩⟩:=V;dsimp only[mL]at b4 s R⊢;have A:=dD b4.symm;have au:Xo (be.length=j):=show _=_ by rw[a2];exact A.out
 have an:=dD s
 have ap:=dD a1
 clear aj b4 a2 s a1 az;obtain⟨B,v⟩:=kA w.heap.size;obtain⟨av,r⟩:=kB ((w.alloc (Xk #[bc.x,I6 m.aB,bd.x,a8.x,a9.x,a5.x,a6.x,a7.x,I6 m.cnt,a4.x,O K j a3] 45)).alloc (Xk #[I6 0,I6 0,Xh Xd,Xh Xd,Xh Xd,I6 0,I6 0] 125));have b7:=gD2 r
 have b9:Xo (Box av B [bc.x,I6 m.aB,bd.x,a8.x,a9.x,a5.x,a6.x,a7.x,I6 m.cnt,a4.x,O K j a3]):=dD<|by rw[<-r];exact(Box.aE _ _ _ v.symm).alloc _
 have bj:Xo (zl av (B+1) 125 [I6 0,I6 0,Xh Xd,Xh Xd,Xh Xd,I6 0,I6 0]):=dD<|by rw[<-r];exact zl.aE _ [I6 0,I6 0,Xh Xd,Xh Xd,Xh Xd,I6 0,I6 0] _ (by have:=v.out;simp;omega)
 have ar:=dD r;clear r
 go_enter func176,ntmps176
 go_upto_region 1 with fail;rw[ar.out,v.out];obtain⟨bu,bv,bw,bx,bz,c0,c1,c2,c3,c4,E⟩:=b9.bL;have X:=R.out av b7.out;go_wp2_with fail;refine X.mono ?_;clear X bu bv bw bx bz c0 c1 c2 c3 c4 E;rintro bt b8 ⟨rfl,ai⟩;have N:=dD (b7.trans ai);have bi:=dD (b9.aA ai);have aw:=dD (bj.aA ai);clear ai;have E:=bi.c 10 rfl
 by_cases a0:p<0\/(j:Int)<=p
 ·by_cases C:p<0
  ·have b1:decide (p<0)=Xc:=decide_eq_true C;have x:Xo (jU m p n wr ar0 5):=dD<|.inl ⟨rfl,rfl,.inl (Rx A.out a0)⟩
   clear a0 C
   go_wp2_with (refine zm rfl 125 (.tmp 8) (.tmp 29) rfl (B+1) rfl [I6 0,I6 0,Xh Xd,Xh Xd,Xh Xd,I6 0,I6 0] rfl aw rfl Kr (by simp[Value.oneCell']) ?_)
   intro k b c _;have f:Xo (zc w k):=dD<|zd N c (Hm v.out)
   have d:=dD b;clear b c;go_wp2;refine bodyPost_ret (z5 rfl _ rfl d.box underlying125 rfl Kr) rfl ⟨⟨ar0,5,rfl,x⟩,f⟩
  have b1:decide (p<0)=Xd:=decide_eq_false C;have Y:decide ((j:Int)<=p)=Xc:=decide_eq_true Wm
  have x:Xo (jU m p n wr ar0 5):=dD<|.inl ⟨rfl,rfl,.inl (Rx A.out a0)⟩
  clear a0 C
  go_wp2_with (refine zm rfl 125 (.tmp 8) (.tmp 29) rfl (B+1) rfl [I6 0,I6 0,Xh Xd,Xh Xd,Xh Xd,I6 0,I6 0] rfl aw rfl Kr (by simp[Value.oneCell']) ?_)
  intro k b c _;have f:Xo (zc w k):=dD<|zd N c (Hm v.out)
  have d:=dD b;clear b c;go_wp2;refine bodyPost_ret (z5 rfl _ rfl d.box underlying125 rfl Kr) rfl ⟨⟨ar0,5,rfl,x⟩,f⟩
 have b1:decide (p<0)=Xd:=decide_eq_false Wm
 have Y:decide ((j:Int)<=p)=Xd:=decide_eq_false Wm
 obtain⟨h,rfl⟩:∃h:Nat,p=(h:Int):=⟨p.toNat,Wm⟩
 obtain⟨D,b2⟩:∃D,be[h]? =Xa D:=⟨_,gE (by rw[au.out];omega)⟩
 obtain⟨y,aa⟩:∃y,Xo (m.sp[h]? =Xa y):=⟨_,gE (by rw[A.out];omega)⟩
 have G:=dD<|ap.out h D y b2 aa.out;obtain⟨ax,ao,ba⟩:∃ax,Xo (K=Xa ax)/\∀W,zc w W->zoz W (ax.add (h*10)) D:=an.out h D b2;obtain⟨-,bk,-,-,-,-,-,-,-,-⟩:=ba b8 N.out;rw[ao.out]at E;have bq:(h:Int)< (j:Int):=Wm
 clear ba b2 a0;have X:=zc0 (D.ar.x) y.aD n b8 (G.ar.aA N);go_wp2_with fail;refine X.mono ?_;clear X bk E b1 Y;rintro bt bh ⟨⟨bf,rfl,bb⟩,ay⟩;have Q:=dD bb;have L:=dD (N.trans ay);have S:=dD (aw.aA ay);clear ay bb
 by_cases b3:bf<0
 ·have I:∀a∈y.aD,inZ a n=Xd:=by
   rcases Q with⟨t,a,M,_⟩|⟨_,br⟩
   ·omega
   exact br
  have x:Xo (jU m (h:Int) n wr ar0 5):=dD<|.inl ⟨rfl,rfl,.inr ⟨h,y,rfl,aa,I⟩⟩
  clear I
  go_wp2_with (refine zm rfl 125 (.tmp 8) (.tmp 41) rfl (B+1) rfl [I6 0,I6 0,Xh Xd,Xh Xd,Xh Xd,I6 0,I6 0] rfl S rfl Kr (by simp[Value.oneCell']) ?_)
  intro k b c _;have f:Xo (zc w k):=dD<|zd L c (Hm v.out)
  have d:=dD b;clear b c;go_wp2;refine bodyPost_ret (z5 rfl _ rfl d.box underlying125 rfl Kr) rfl ⟨⟨ar0,5,rfl,x⟩,f⟩
 obtain⟨t,a,rfl,l,z⟩:∃(t:Nat) (a:Ar),bf=(t:Int)/\Xo (y.aD[t]? =Xa a)/\Xo (inZ a n=Xc):=by
  rcases Q with⟨t,a,M,b5,b6⟩|⟨M,_⟩
  ·exact⟨t,a,M,b5,b6⟩
  omega
 have P:=dD<|(zab.1 ((zqt (JP al)).ar y (mG aa)).1).2;have F:=dD<|zf9 P l.out;obtain⟨u,rfl⟩:∃u:Nat,n=(u:Int):=⟨n.toNat,by have bm:=zce.1 z.out;have b0:=F.out;unfold jV at b0;omega⟩
 have Z:u<64:=by have bm:=zce.1 z.out;have b0:=F.out;unfold jV at b0;omega
 have am:Xo (zJ y.aD u=qp a u):=zbp P l (Ry ziR z)
 have bo:t<D.ar.n:=by rw[G.ar.n];exact(gS.1 l).1
 have bp:(t:Int)< (D.ar.n:Int):=Wm
 obtain⟨q,aq,ak⟩:∃q,Xo (D.ar.a=Xa q)/\Xo (∀W,zc w W->zjz W (q.add (t*7)) a):=by
  obtain⟨_,_,M,b5⟩:=G.ar.aD;simp only[vJ]at M;obtain⟨q,b6,bs⟩:=b5 t a l.out;exact⟨q,Rx M.1 b6,bs⟩
 have x:Xo (∀H ab,(H=8/\ab=ar0/\(if wr=Xc then a.wr else a.rd)=Xd)\/(H=0/\ab=a/\(if wr=Xc then a.wr else a.rd)=Xc)->jU m (h:Int) (u:Int) wr ab H):=dD<|fun H ab bl=> .inr ⟨h,u,t,y,a,rfl,rfl,Z,aa,l,F,zce.1 z,am,bl⟩
 rw[aq.out];obtain⟨ac,ae,T,U,af,ag,ah⟩:=ak.out bh L.out;clear b3;cases wr
 ·obtain⟨ok,g⟩:=kA a.rd;rw[g.out]at T;cases ok
  ·have i:Xo (jU m (h:Int) (u:Int) Xd ar0 8):=x.out 8 ar0 (.inl ⟨rfl,rfl,g⟩)
   go_wp2_with (refine zm rfl 125 (.tmp 8) (.tmp 55) rfl (B+1) rfl [I6 0,I6 0,Xh Xd,Xh Xd,Xh Xd,I6 0,I6 0] rfl S rfl Kr (by simp[Value.oneCell']) ?_)
   intro k b c _;have f:Xo (zc w k):=dD<|zd L c (Hm v.out)
   have d:=dD b;clear b c ac ae T U af ag ah;go_wp2;refine bodyPost_ret (z5 rfl _ rfl d.box underlying125 rfl Kr) rfl ⟨⟨ar0,8,rfl,i⟩,f⟩
  have i:Xo (jU m (h:Int) (u:Int) Xd a 0):=x.out 0 a (.inr ⟨rfl,rfl,g⟩)
  go_wp2_with (refine zm rfl 125 (.tmp 8) (.tmp 59) rfl (B+1) rfl [I6 a.fr,I6 a.tz,Xh Xc,Xh a.wr,Xh a.sh,I6 a.file,I6 a.base] rfl S rfl Kr (by simp[Value.oneCell']) ?_)
  intro k b c _;have f:Xo (zc w k):=dD<|zd L c (Hm v.out)
  have d:=dD b;clear b c ac ae T U af ag ah;go_wp2;refine bodyPost_ret (z5 rfl _ rfl d.box underlying125 rfl Kr) rfl ⟨⟨a,0,Rr g.out,i⟩,f⟩
 obtain⟨ok,g⟩:=kA a.wr;rw[g.out]at U;cases ok
 ·have i:Xo (jU m (h:Int) (u:Int) Xc ar0 8):=x.out 8 ar0 (.inl ⟨rfl,rfl,g⟩)
  go_wp2_with (refine zm rfl 125 (.tmp 8) (.tmp 55) rfl (B+1) rfl [I6 0,I6 0,Xh Xd,Xh Xd,Xh Xd,I6 0,I6 0] rfl S rfl Kr (by simp[Value.oneCell']) ?_)
  intro k b c _;have f:Xo (zc w k):=dD<|zd L c (Hm v.out)
  have d:=dD b;clear b c ac ae T U af ag ah;go_wp2;refine bodyPost_ret (z5 rfl _ rfl d.box underlying125 rfl Kr) rfl ⟨⟨ar0,8,rfl,i⟩,f⟩
 have i:Xo (jU m (h:Int) (u:Int) Xc a 0):=x.out 0 a (.inr ⟨rfl,rfl,g⟩)
 go_wp2_with (refine zm rfl 125 (.tmp 8) (.tmp 59) rfl (B+1) rfl [I6 a.fr,I6 a.tz,Xh a.rd,Xh Xc,Xh a.sh,I6 a.file,I6 a.base] rfl S rfl Kr (by simp[Value.oneCell']) ?_)
 intro k b c _;have f:Xo (zc w k):=dD<|zd L c (Hm v.out)
 have d:=dD b;clear b c ac ae T U af ag ah;go_wp2;refine bodyPost_ret (z5 rfl _ rfl d.box underlying125 rfl Kr) rfl ⟨⟨a,0,Rr g.out,i⟩,f⟩
variable{X:Nat->Prop}
theorem zb.other {α:Type} {E:Elt α} {w:Xn} {v:Xq} {l:List α} {cs:List Xq} (h:zb E b w v l) (a:w.grownBy w' (Xa g)) (d:zl w g t cs) (f:t≠E.ty):zb E b w' v l:=h.grown a fun k c e=>by
 cases e;exact h.ne d f g c rfl
theorem zae {a n:Nat} {e:TypeId} {w:Xn} {cs:List Xq} {v:Xq} (h:w.ownsRow b e a v n xs) (p:w.grownBy w' (Xa g)) (q:zl w g t cs) (x:t≠e):w'.ownsRow b e a v n xs:=by
 have i:v.ownBlock≠Xa g:=fun s=>by
  obtain⟨_,_,u,f⟩:=zaU h s;have r:w.heap[g]? =_:=q
  grind
 refine⟨h.1,?_⟩
 rcases h.2 with j|⟨k,c,d,rfl,l,f,m⟩
 ·exact .inl j
 exact .inr ⟨k,c,d,rfl,l,by rw[p.block k (aS.1 f).1 (fun e=>by cases e;exact i rfl)];exact f,m⟩
theorem zl.off {w:Xn} {a:TypeId} {cs ds:List Xq} (h:zl w b t cs) (k:zl w g a ds) (f:t≠a):b≠g:=fun e=>by
 subst e;have c:w.heap[b]? =Xa (Xk cs.toArray t (0,0)):=h;have d:w.heap[b]? =Xa (Xk ds.toArray a (0,0)):=k
 grind
theorem zed.other {base:Nat} {w:Xn} {cs:List Xq} (h:zed base w V m) (b:w.grownBy w' (Xa g)) (a:zl w g 245 cs):zed base w' V m:=by
 obtain⟨v,⟨K,k,l,e,n⟩,t,u⟩:=h.fl;obtain⟨G,B,z,A,C,D,E⟩:=h.sp;refine⟨h.fs.other b a Dc,h.sl.other b a Dc,⟨zae h.sb.1 b a Dc,h.sb.2⟩,⟨zae h.sq.1 b a Dc,h.sq.2⟩,⟨zae h.db.1 b a Dc,h.db.2⟩,⟨zae h.dq.1 b a Dc,h.dq.2⟩,⟨v,⟨K,k.other b a Dc,l,fun i x f d j=>⟨(e i x f d j).1,(e i x f d j).2.other b a Dc⟩,n⟩,t,u⟩,h.ca.other b a Dc,⟨G,B,z.other b a Dc,A,C,D,fun i x y d p=>?_⟩,h.ap⟩
 have c:=E i x y d p;exact⟨c.aH,c.ar.other b a Dc,⟨c.tb.len,c.tb.aO,fun s F H q r=>(c.tb.row s F H q r).other b a Dc,c.tb.two⟩,c.arh,c.tbh⟩
theorem ChW.of {w:Xn} {p:Nat} (h:zed B w V m) (s:w0.heap.size<=B) (Y:zc w0 w) (u:w0.heap.size<=p) (y:zl w p 88 (chL V m)):ChW w0 noX p w V m:=by
 obtain⟨a8,r,N,a4,a5,a6,a7⟩:=h.sp;have c:∀{W:Xn} {g f L:Nat} {j:TypeId} {v:Xq} {P:List Xq},zk (Dr w0.heap.size noX p V) w W->w.ownsRow g j f v L P->B<=g->Jm.ty≠j/\qi.ty≠j/\Zz.ty≠j/\88≠j->W.ownsRow g j f v L P:=fun k n d F=>zcs n k fun X Z b=>by
  obtain⟨ac,ad,ab,ae⟩:=zaU n Z
  rcases b with(b|b) | b|b|b|b
  ·omega
  ·exact b.elim
  ·subst b;have R:w.heap[X]? =_:=y
   grind
  ·obtain⟨z,D⟩:=h.fs.obj b
   grind
  ·obtain⟨z,D⟩:=h.ca.obj b
   grind
  obtain⟨z,D⟩:=N.obj b
  grind
 have a:∀{W:Xn} {Q:Type} {E:Elt Q} {g:Nat} {v:Xq} {H:List Q},zk (Dr w0.heap.size noX p V) w W->zb E g w v H->B<=g->Jm.ty≠E.ty/\qi.ty≠E.ty/\Zz.ty≠E.ty/\88≠E.ty->zb E g W v H:=fun k n d F=>⟨c k n.1 d F,n.2⟩
 refine⟨⟨Y,fun _ h=>h.elim⟩,u,y,h.fs.base s,h.ca.base s,⟨a8,N.base s,a4,fun i x M q I W k=>?_⟩,fun W k=>?_⟩
 ·have e:=a7 i x M q I;have l:B<=r i:=nT a5 (zdt a6 (nZ i));have a3:Jf (r i) (r (i+1)) W x M:=⟨e.aH,a k e.ar l Dc,⟨e.tb.len,e.tb.aO,fun a2 v a9 a0 a1=>a k (e.tb.row a2 v a9 a0 a1) l Dc,e.tb.two⟩,e.arh,e.tbh⟩
  exact a3.at
 obtain⟨u,⟨aa,S,T,C,U⟩,K,af⟩:=h.fl;have t:z4 u W (V.fl.x) m.fl:=⟨aa,a k S K Dc,T,fun i x A q G=>⟨(C i x A q G).1,a k (C i x A q G).2 K Dc⟩,U⟩
 have d:=nR B;exact⟨(a k h.sl d Dc).at,zs.at ⟨c k h.sb.1 d Dc,h.sb.2⟩,zo.at ⟨c k h.sq.1 d Dc,h.sq.2⟩,zs.at ⟨c k h.db.1 d Dc,h.db.2⟩,zo.at ⟨c k h.dq.1 d Dc,h.dq.2⟩,t.new.bQ⟩
theorem ChW.lower {u:Xn} {p:Nat} (h:ChW w1 X p u V m) (b:u.grownBy u1 (Xa g)) (n:g<w1.heap.size) (l:zc w0 u1) (d:w0.heap.size<=w1.heap.size):ChW w0 X p u1 V m:=by
 obtain⟨z,j,w,x⟩:=h.sp;have f:∀{W:Xn},zk (Dr w0.heap.size X p V) u1 W->zk (Dr w1.heap.size X p V) u W:=fun c=>(zk.grown b (show Dr w1.heap.size X p V g from .inl (.inl n))).trans (c.wide fun k a=>a.elim (fun e=> .inl (e.imp (fun e=>Xu e d) id)) .inr)
 exact⟨⟨l,fun t q=>Xu (h.grx.2 t q) b.size⟩,nT d h.lo,h.box.beside b (fun k e=>by cases e;have:=h.lo;omega),(h.fs.grown b (fun k a e=>by cases e;have:=(h.fs.lt _ a).1;omega)).base d,(h.ca.grown b (fun k a e=>by cases e;have:=(h.ca.lt _ a).1;omega)).base d,⟨z,(j.grown b (fun k a e=>by cases e;have:=(j.lt _ a).1;omega)).base d,w,fun s y v r i W c=>x s y v r i W (f c)⟩,fun W c=>h.rest W (f c)⟩
theorem zg5 (V m) (w:Xn) (f:zw w V m):
  Xp prog 24 #[Xi (mL V m).toArray] w fun e w'=>∃(p B:Nat) (V':MaV),e= Xl (Xj (Xa ⟨p,0,Xb⟩))/\zed B w' V' m/\w.heap.size<=B/\w.heap.size<=p/\zl w' p 88 (chL V' m)/\zc w w':=by
 obtain⟨b,a⟩:=kB (w.alloc (Xk (mL V m).toArray 45));have c:=gA a
 have g:=xA a
 have d:=dD a;clear a;have a:=zfD V m b (f.aA c);clear f
 go_enter func24,ntmps24
 go_upto_region 1 with fail;rw[d.out];obtain⟨f,h,i,j,k,l,n,q,r,s,d⟩:=g.bL;go_wp2_with fail;refine a.mono ?_;clear a f h i j k l n q r s d;rintro e a ⟨V',rfl,g,f⟩;have d:=dD (c.trans f);have i:=dD g;have h:=dD<|bS c.out
 clear g f;have c:Xo (zed b.heap.size (a.alloc (Xk (chL V' m).toArray 88)) V' m/\w.heap.size<=b.heap.size/\w.heap.size<=a.heap.size/\zl (a.alloc (Xk (chL V' m).toArray 88)) a.heap.size 88 (chL V' m)/\zc w (a.alloc (Xk (chL V' m).toArray 88))):=dD<|⟨i.aA (za _ _),h,bS d,zl.aE _ _ _ rfl,d.trans (za _ _)⟩
 go_wp2;go_ret;exact⟨_,b.heap.size,V',rfl,c⟩
theorem zoX (V m) (p n:Int) (w) (a4:zw w V m) (al:maW m=0):
  Xp prog 177 #[Xi (mL V m).toArray,I6 p,I6 n] w fun e w'=>e= Xl (zif (Z0 m p n))/\(Z0 m p n).1.length=8/\zc w w':=by
 have bq:=dD a4;have bt:=dD<|fun x e=>zq0 a4.sb.2.1 a4.sq.2.1 a4.db.2.1 a4.dq.2.1 x e
 have ae:Xo (∀W,zc w W->Xp prog 20 #[Xi (mL V m).toArray] W fun e w'=>e= Xl (I6 (maW m))/\zc W w'):=dD<|fun W U=>by rw[al];exact QA V m W (bq.aA U) al
 have ay:Xo (∀W,zc w W->Xp prog 70 #[Xi (mL V m).toArray] W fun e w'=>∃B,e= Xl (Xi #[V.f.x,I6 m.aB,V.s.x,V.sb.x,V.sq.x,V.db.x,V.dq.x,V.fl.x,I6 m.cnt,V.ca.x,V.sp.x,.map (Xa B)])/\Zw plK w' B (ZI m.ca)/\zc W w'):=dD<|fun W U=>QV V m W (bq.aA U)
 have ac:Xo (maW m=0->∀W B (a:Ar) (n:Nat) (e:En),zc w W->jV a->(a.fr<=(n:Int)/\(n:Int)<a.tz)->(e.kind=1->0<=e.n/\e.n< (m.fs.length:Int))->(e.kind=2->0<=e.n/\e.n< (m.sb.length:Int))->Zw plK W B (ZI m.ca)->Xp prog 204 #[Xi #[V.f.x,I6 m.aB,V.s.x,V.sb.x,V.sq.x,V.db.x,V.dq.x,V.fl.x,I6 m.cnt,V.ca.x,V.sp.x,.map (Xa B)],Xi #[I6 a.fr,I6 a.tz,Xh a.rd,Xh a.wr,Xh a.sh,I6 a.file,I6 a.base],I6 (n:Int),Xi #[I6 e.kind,I6 e.n,Xh e.wr]] W fun a6 w'=>a6= Xl (zif (Qr m (qp a n) e))/\(Qr m (qp a n) e).1.length=8/\zc W w'):=dD<|fun al W B a n e U ec cd af a2 L=>zfQ V m B a n e W (bq.aA U) al ec cd af a2 L
 obtain⟨-,-,-,-,-,-,-,-,dc⟩:=a4.ns;obtain⟨dt,be,M,ba⟩:=a4.bG;obtain⟨ao,ap,u,v,r,s,t,q,⟨i,d,l⟩⟩:=V;dsimp only[mL]at dc M ae ay ac⊢;have aa:=dD dc.symm;have bz:Xo (dt.length=d):=show _=_ by rw[be];exact aa.out
 have br:=dD M
 have bu:=dD ba
 obtain⟨df,bi⟩:=kA (maW m);rw[bi.out]at ae ac;clear a4 dc be M ba;obtain⟨c1,E⟩:=kB ((w.alloc (Xk #[ao.x,I6 m.aB,ap.x,u.x,v.x,r.x,s.x,t.x,I6 m.cnt,q.x,O i d l] 45)).alloc (Xk #[U8 0,U8 0,U8 0,U8 0,U8 0,U8 0,U8 0,U8 0] 91));have dg:=gD2 E
 have dk:=x2a E
 have dy:Xo (Box c1 (w.heap.size+1) (pgc zI)):=dD<|by rw[<-E];exact Box.aE _ (pgc zI) _ Sm
 have bx:Xo (_=c1):=E;clear E
 go_enter func177,ntmps177
 go_upto_region 1 with fail;rw[bx.out];obtain⟨es,et,eu,ev,ew,ex,ey,ez,f0,f1,Z⟩:=dk.bL;have b7:=ae.out c1 dg.out;go_wp2_with fail;refine b7.mono ?_;clear b7 es et eu ev ew ex ey ez f0 f1 Z;rintro a6 bj ⟨rfl,bk⟩;have bn:=dD (dg.trans bk);have dl:=dD (dk.aA bk);have dm:=dD (dy.aA bk);clear bk;have a5:df=0:=Ry bi.out al
 clear al;have db:(df != 0)=Xd:=by simp[a5]
 have a9:Xo (maW m=0):=dD<|Rx bi.out a5
 have ab:Xo (Z0 m p n=zig m p n):=dD<|by unfold Z0;rw[bi.out,kF (fun c4=>c4 a5)]
 have bw:=show Xo _ from ac.out a5
 clear a5;have Z:=dl.c 10 rfl;have a3:=QR p (d:Int) bj;go_wp2_with fail;refine a3.mono ?_;rintro a6 w' ⟨rfl,bc⟩;rw[bc];clear bc w' a3 db
 cases b5:bel p (d:Int)with
 | false=>
  have a0:Xo (Z0 m p n=(zI,Xd,5)):=dD<|by
   rw[ab.out];refine zcT ?_;have af:¬(0<=p/\p< (d:Int)):=fun c4=>by rw[Zu.2 c4]at b5;cases b5
   rw[aa.out];omega
  clear b5
  go_wp2_with (refine zz rfl 91 (.tmp 6) (.tmp 24) rfl (w.heap.size+1) rfl (pgc zI) rfl dm rfl ztF (jy _) ?_)
  intro az F G _;have C:Xo (zc w az):=dD<|zd bn G Wm
  go_wp2;refine bodyPost_ret (z6 rfl _ rfl F underlying91 rfl ztF) rfl ⟨Rr a0.out,Rr a0.out,C⟩
 | true=>
 obtain⟨e1,f4⟩:=Zu.1 b5;obtain⟨Y,rfl⟩:∃Y:Nat,p=(Y:Int):=⟨p.toNat,Wm⟩
 obtain⟨x,am⟩:∃x,dt[Y]? =Xa x:=⟨_,gE (by rw[bz.out];omega)⟩
 obtain⟨N,ak⟩:∃N,Xo (m.sp[Y]? =Xa N):=⟨_,gE (by rw[aa.out];omega)⟩
 have P:=dD<|bu.out Y x N am ak.out;obtain⟨c2,bs,dq⟩:∃c2,Xo (i=Xa c2)/\∀W,zc w W->zoz W (c2.add (Y*10)) x:=br.out Y x am;obtain⟨e2,e3,e4,e5,e6,e7,e8,e9,ea,eb⟩:=dq bj bn.out;rw[bs.out]at Z;clear dq am b5 e1;go_upto_region 7 with fail;clear e2 e3 e4 e5 e6 e7 e8 e9 ea eb Z;obtain⟨eo,av⟩:=kA bj.heap.size;obtain⟨dw,X⟩:=kB (bj.alloc (Xk #[Xh x.aH,x.ar.x,x.t0.x,x.t1.x,x.t2.x,x.t3.x,x.t4.x,x.t5.x,x.t6.x,x.t7.x] 76));have bl:=gP X
 have di:=xP X av
 have dh:=dD (bn.trans bl);have dx:=dD (dl.aA bl);have dz:=dD (dm.aA bl);rw[X,av.out];clear X bl;have er:=di.c 1 rfl;have b7:=zc0 (x.ar.x) N.aD n dw (P.ar.aA dh);go_wp2_with fail;refine b7.mono ?_;clear b7 er;rintro a6 dj ⟨⟨du,rfl,a5⟩,b2⟩;have au:=dD a5;have z:=dD (dh.trans b2);have D:=dD (dx.aA b2);have dn:=dD (dz.aA b2);have T:=dD (di.aA b2);clear b2 a5
 by_cases bf:du<0
 ·have a0:Xo (Z0 m (Y:Int) n=(zI,Xd,5)):=dD<|by rw[ab.out];exact zmn ak au bf
  go_wp2_with (refine zz rfl 91 (.tmp 6) (.tmp 36) rfl (w.heap.size+1) rfl (pgc zI) rfl dn rfl ztF (jy _) ?_)
  intro az F G _;have C:Xo (zc w az):=dD<|zd z G Wm
  go_wp2;refine bodyPost_ret (z6 rfl _ rfl F underlying91 rfl ztF) rfl ⟨Rr a0.out,Rr a0.out,C⟩
 obtain⟨k,a,rfl,S,R⟩:∃(k:Nat) (a:Ar),du=(k:Int)/\Xo (N.aD[k]? =Xa a)/\Xo (inZ a n=Xc):=by
  rcases au with⟨k,a,bg,dd,de⟩|⟨bg,_⟩
  ·exact⟨k,a,bg,dd,de⟩
  omega
 have aq:=dD<|(zab.1 ((zqt (JP a9)).ar N (mG ak)).1).2;have a8:=dD<|zf9 aq S.out;obtain⟨h,rfl⟩:∃h:Nat,n=(h:Int):=⟨n.toNat,by have af:=zce.1 R.out;have a2:=a8.out;unfold jV at a2;omega⟩
 have j:h<64:=by have af:=zce.1 R.out;have a2:=a8.out;unfold jV at a2;omega
 obtain⟨e,Q⟩:=kA (zh N h);have ax:Xo (Z0 m (Y:Int) (h:Int)=Qr m (qp a h) e):=dD<|by rw[ab.out,zcS ak j,zbp aq S (Ry ziR R),Q.out]
 have ar:Xo (∀W B,zc w W->Zw plK W B (ZI m.ca)->Xp prog 204 #[Xi #[ao.x,I6 m.aB,ap.x,u.x,v.x,r.x,s.x,t.x,I6 m.cnt,q.x,O i d l,.map (Xa B)],Xi #[I6 a.fr,I6 a.tz,Xh a.rd,Xh a.wr,Xh a.sh,I6 a.file,I6 a.base],I6 (h:Int),Xi #[I6 e.kind,I6 e.n,Xh e.wr]] W fun a6 w'=>a6= Xl (zif (Qr m (qp a h) e))/\(Qr m (qp a h) e).1.length=8/\zc W w'):=dD<|fun W B U L=>bw.out W B a h e U a8 (zce.1 R) (by rw[<-Q.out];exact(zqA a9 ak j).1) (by rw[<-Q.out];exact(zqA a9 ak j).2) L
 have bo:Xo (∀W,zc w W->Xp prog 69 #[Xi #[x.t0.x,x.t1.x,x.t2.x,x.t3.x,x.t4.x,x.t5.x,x.t6.x,x.t7.x],I6 (h:Int)] W fun a6 w'=>a6= Xl (Xi #[I6 e.kind,I6 e.n,Xh e.wr])/\zc W w'):=dD<|fun W U=>by
  have:=QJ x.tab N.tb (h:Int) W (P.aA U).tb;rw[zfY j,Q.out]at this;exact this
 have ed:k<x.ar.n:=by rw[P.ar.n];exact(gS.1 S).1
 have ee:(k:Int)< (x.ar.n:Int):=Wm
 obtain⟨b,bv,g⟩:∃b,Xo (x.ar.a=Xa b)/\Xo (∀W,zc w W->zjz W (b.add (k*7)) a):=by
  obtain⟨_,_,bg,dd⟩:=P.ar.aD;simp only[vJ]at bg;obtain⟨b,de,ep⟩:=dd k a S.out;exact⟨b,Rx bg.1 de,ep⟩
 obtain⟨c0,aw⟩:=kA (Qr m (qp a h) e);have bp:Xo (c0.1.length=8):=dD<|by rw[<-aw.out];exact bt _ _
 rw[aw.out]at ax ar;clear bf;go_upto_region 10 with fail;obtain⟨A,c⟩:=Wq fun an=>zc dj an
 have ag:=(c _).2 (gW _)
 have cr:=D.h c 0 rfl
 have cs:=D.h c 1 rfl
 have ct:=D.h c 2 rfl
 have cu:=D.h c 3 rfl
 have cv:=D.h c 4 rfl
 have cw:=D.h c 5 rfl
 have cx:=D.h c 6 rfl
 have cy:=D.h c 7 rfl
 have cz:=D.h c 8 rfl
 have da:=D.h c 9 rfl
 have bd:=D.h c 10 rfl
 have cj:=T.h c 2 rfl
 have ck:=T.h c 3 rfl
 have cl:=T.h c 4 rfl
 have cm:=T.h c 5 rfl
 have cn:=T.h c 6 rfl
 have co:=T.h c 7 rfl
 have cp:=T.h c 8 rfl
 have cq:=T.h c 9 rfl
 have ci:∀y:zq A,y.world.cell? ⟨eo,1,Xb⟩=Xa (O (Xa b) x.ar.n x.ar.c):=fun y=>by rw[<-bv.out];exact(T.aA ((c _).1 y.holds)).c 1 rfl
 have c5:=fun y:zq A=>(g _ (z.trans ((c _).1 y.holds))).1
 have c6:=fun y:zq A=>(g _ (z.trans ((c _).1 y.holds))).2.1
 have c7:=fun y:zq A=>(g _ (z.trans ((c _).1 y.holds))).2.2.1
 have c8:=fun y:zq A=>(g _ (z.trans ((c _).1 y.holds))).2.2.2.1
 have c9:=fun y:zq A=>(g _ (z.trans ((c _).1 y.holds))).2.2.2.2.1
 have ca:=fun y:zq A=>(g _ (z.trans ((c _).1 y.holds))).2.2.2.2.2.1
 have cb:=fun y:zq A=>(g _ (z.trans ((c _).1 y.holds))).2.2.2.2.2.2
 have cf:Nonempty (zq A):=⟨⟨_,ag⟩⟩;refine j1 (I:=A) 16 [(1,⟨fun a7=>∃B,a7= Xi #[ao.x,I6 m.aB,ap.x,u.x,v.x,r.x,s.x,t.x,I6 m.cnt,q.x,O i d l,.map (Xa B)],fun a7 an=>∃B,a7= Xi #[ao.x,I6 m.aB,ap.x,u.x,v.x,r.x,s.x,t.x,I6 m.cnt,q.x,O i d l,.map (Xa B)]/\Zw plK an B (ZI m.ca),fun p aj=>zc p aj,fun _=>True⟩),(11,⟨fun a7=>a7= Xi #[I6 e.kind,I6 e.n,Xh e.wr],fun _ _=>True,fun p aj=>zc p aj,fun _=>True⟩),(12,⟨fun a7=>a7=zif c0,fun _ _=>True,fun p aj=>zc p aj,fun _=>True⟩)] ag zW Kr rfl rfl Dc (Sc ⟨_,0,rfl⟩ ⟨_,rfl⟩ ⟨_,rfl⟩) ?hp ?hpre ?hpr0 ?_
 case hp=>
  intro k N ef dr b9 bm b8 dp a7 p aj ai cg;have K:=qe b9;have H:=qe bm;clear b9 bm;simp only[mC,pJ,nM,or_false]at K H
  rcases K with⟨rfl,rfl⟩|⟨rfl,rfl⟩|⟨rfl,rfl⟩
  ·obtain⟨B,af,a2⟩:=cg
   rcases H with⟨rfl,rfl⟩|⟨rfl,rfl⟩|⟨rfl,rfl⟩
   ·exact absurd rfl b8
   ·exact⟨B,af,a2.aA ai⟩
   exact⟨B,af,a2.aA ai⟩
  ·trivial
  trivial
 case hpre=>
  intro ef dr k N bm b9 b8 p aj ai ah;have H:=qe bm;simp only[mC,pJ,nM,or_false]at H
  rcases H with⟨rfl,rfl⟩|⟨rfl,rfl⟩|⟨rfl,rfl⟩ <;> trivial
 case hpr0=>
  intro k dr b9;have K:=qe b9;simp only[mC,pJ,nM,or_false]at K
  rcases K with⟨rfl,rfl⟩|⟨rfl,rfl⟩|⟨rfl,rfl⟩ <;> trivial
 simp only[Yj,Yf];refine qY ?_
 refine j9 rfl rfl (fun w' f ah b3=>?_) (fun ds bb=>?_)
 ·refine zP.call [Xi #[ao.x,I6 m.aB,ap.x,u.x,v.x,r.x,s.x,t.x,I6 m.cnt,q.x,O i d l]] rfl func70 rfl rfl rfl ?_;refine(ay w' (z.trans ((c _).1 f))).mono ?_;rintro e bh ⟨B,rfl,L,a1⟩;exact⟨_,rfl,(c _).2 (((c _).1 f).trans a1),a1,⟨B,rfl⟩,B,rfl,L⟩
 obtain⟨B,rfl⟩:=bb;refine Uq ?_;iterate 9 refine qY ?_
 refine j9 rfl rfl (fun w' f ah b3=>?_) (fun ds bb=>?_)
 ·refine zP.call [Xi #[x.t0.x,x.t1.x,x.t2.x,x.t3.x,x.t4.x,x.t5.x,x.t6.x,x.t7.x],I6 (h:Int)] rfl func69 rfl rfl rfl ?_;refine(bo w' (z.trans ((c _).1 f))).mono ?_;rintro e bh ⟨rfl,a1⟩;exact⟨_,rfl,(c _).2 (((c _).1 f).trans a1),a1,rfl,trivial⟩
 subst bb;refine Uq ?_;refine j9 rfl rfl (fun w' f ah b3=>?_) (fun ds bb=>?_)
 ·obtain⟨f2,b6,cc⟩:=b3 1 Kr
  simp only[Value.agg.injEq,Array.mk.injEq,List.cons.injEq,Value.map.injEq,Option.some.injEq,and_true,true_and]at b6;subst b6;refine zP.call [Xi #[ao.x,I6 m.aB,ap.x,u.x,v.x,r.x,s.x,t.x,I6 m.cnt,q.x,O i d l,.map (Xa B)],Xi #[I6 a.fr,I6 a.tz,Xh a.rd,Xh a.wr,Xh a.sh,I6 a.file,I6 a.base],I6 (h:Int),Xi #[I6 e.kind,I6 e.n,Xh e.wr]] rfl func204 rfl rfl rfl ?_;refine(ar w' B (z.trans ((c _).1 f)) cc).mono ?_;rintro e bh ⟨rfl,f5,a1⟩;exact⟨_,rfl,(c _).2 (((c _).1 f).trans a1),a1,rfl,trivial⟩
 obtain⟨eq,f6,f7⟩:=c0;have ce:=bp.out;obtain⟨eg,eh,ei,ej,ek,el,em,en,ch⟩:=zba eq ce;subst ch;subst bb;simp only[zif,pgc,mP,Yb];refine Uq ?_;iterate 3 refine qY ?_
 refine zaj fun f3 b4 b3=>?_
 have c3:=(c _).1 b4;have dv:=dD (z.trans c3);have e0:=dD (dn.aA c3);have a0:=ax;clear b3 b4 ag cf c3 cr cs ct cu cv cw cx cy cz da bd ci cj ck cl cm cn co cp cq c5 c6 c7 c8 c9 ca cb;refine zz rfl 91 (.tmp 6) (.tmp 50) rfl (w.heap.size+1) rfl (pgc [eg,eh,ei,ej,ek,el,em,en]) rfl e0 rfl ztF (jy _) ?_;intro az F G _;have C:Xo (zc w az):=show zc _ _ from zd dv G Wm
 go_wp2;refine bodyPost_ret (z6 rfl _ rfl F underlying91 rfl ztF) rfl ⟨Rr a0.out,Rr a0.out,C⟩
def zsO (k q n:Nat) (mB:Ma):Prop:=∃(s:Sp) (fr:Fr) (we:Bool),Rt mB/\mB.sp[q]? =Xa s/\mB.fs[k]? =Xa fr/\zh s n=⟨1,(k:Int),we⟩
def jO (m:Ma) (BF:Nat->Nat->Ar->Pg->Bool->Bool × Nat × Ma) (p n:Int) (wr:Bool) (er:Int):Prop:=
 er≠0/\(jU m p n wr ar0 er\/(∃a,jU m p n wr a 0/\(Z0 m p n).2.2=er)\/(er=10/\∃(q i:Nat) (a:Ar) (pg:Pg) (ic:Bool),p=(q:Int)/\n=(i:Int)/\jU m p n wr a 0/\Z0 m p n=(pgL pg,ic,0)/\(jJ m (BF q i a pg wr) pg a ic wr q i).1=Xd))
def zec (m:Ma) (BF:Nat->Nat->Ar->Pg->Bool->Bool × Nat × Ma) (p n:Int) (wr:Bool) (k:Nat) (m':Ma):Prop:=
 ∃(q i:Nat) (a:Ar) (pg:Pg) (ic:Bool) (fr:Fr),p=(q:Int)/\n=(i:Int)/\jU m p n wr a 0/\Z0 m p n=(pgL pg,ic,0)/\(jJ m (BF q i a pg wr) pg a ic wr q i).1=Xc/\k=(jJ m (BF q i a pg wr) pg a ic wr q i).2.1/\(jJ m (BF q i a pg wr) pg a ic wr q i).2.2.fs[k]? =Xa fr/\m'=zaY (jJ m (BF q i a pg wr) pg a ic wr q i).2.2 q i k fr wr a.sh
theorem zsW {l:List Int} (h:l.length=8):∃pg:Pg,l=pgL pg:=by
 obtain⟨a,b,c,d,f,g,i,j,e⟩:=zba l h;exact⟨⟨a,b,c,d,f,g,i,j⟩,e⟩
theorem zil {p n:Int} {wr:Bool} {a:Ar} {b:Int} (h:jU m p n wr a b) (c:b≠0):a=ar0:=by
 rcases h with⟨_,e,_⟩|⟨_,_,_,_,_,_,_,_,_,_,_,_,_,⟨_,e,_⟩|⟨e,_⟩⟩
 ·exact e
 ·exact e
 grind
theorem zgL {w:Xn} {a:Act} (b:o.op= .alloc 245):(execOp a.eval o).run prog w= .ok (.value (Xj (Xa ⟨w.heap.size,0,Xb⟩))) (w.alloc (Xk #[Xj Xb,I6 0,I6 0,I6 0,I6 0,Xh Xd,Xh Xd,Xh Xd,I6 0,I6 0,U8 0,U8 0,U8 0,U8 0,U8 0,U8 0,U8 0,U8 0,Xh Xd,Xh Xd] 245)):=by
 simp only[execOp,b]
 go_simp
theorem zmr (V) (m:Ma) (p n:Int) (wr:Bool) (w) (r:zw w V m) (b:Rt m) (BF:Nat->Nat->Ar->Pg->Bool->Bool × Nat × Ma)
  (Z:∀(w0 W:Xn) (p:Nat) (d:MaV) (m1:Ma) (al:Xq) (l:List (Nat × Nat)),(∀x∈l,x.2<64/\∃s,m.sp[x.1]? =Xa s)->m1=zi m l->ChW w0 noX p W d m1->Rt m1->jo m1.fs=0->zl8 zaD (Dw p d) W al l->Xp prog 160 #[Xj (Xa ⟨p,0,Xb⟩),al] W fun e w'=>e= Xl (Xh (Qf m1 l).1)/\Chg w0 noX p W d (Qf m1 l).2 w')
  (h:∀(q i:Nat) (a:Ar) (pg:Pg),p=(q:Int)->n=(i:Int)->jU m p n wr a 0->Z0 m p n=(pgL pg,Xd,0)->0<=a.file->a.sh=Xc\/wr=Xd->∀(w0 W:Xn) (p:Nat) (d:MaV),ChW w0 noX p W d m->Xp prog 205 #[Xi #[Xj (Xa ⟨p,0,Xb⟩),I6 (q:Int),I6 (i:Int),I6 a.fr,I6 a.tz,Xh a.rd,Xh a.wr,Xh a.sh,I6 a.file,I6 a.base,U8 pg.b0,U8 pg.b1,U8 pg.b2,U8 pg.b3,U8 pg.b4,U8 pg.b5,U8 pg.b6,U8 pg.b7,Xh Xd,Xh wr]] W fun e w'=>e= Xl (Xm #[I6 ((BF q i a pg wr).2.1:Int),I6 (if(BF q i a pg wr).1=Xc then 0 else 10)])/\Chg w0 noX p W d (BF q i a pg wr).2.2 w')
  (j:∀(q i:Nat) (a:Ar) (pg:Pg) (t:Bool),p=(q:Int)->n=(i:Int)->jU m p n wr a 0->Z0 m p n=(pgL pg,t,0)->(jJ m (BF q i a pg wr) pg a t wr q i).1=Xc->zsO (jJ m (BF q i a pg wr) pg a t wr q i).2.1 q i (jJ m (BF q i a pg wr) pg a t wr q i).2.2):
  Xp prog 140 #[Xi (mL V m).toArray,I6 p,I6 n,Xh wr] w fun e w'=>((∃c:Int,e= Xl (Xm #[Xi qj.toArray,I6 0,I6 c])/\jO m BF p n wr c)\/(∃(V':MaV) (k f:Nat) (m':Ma),e= Xl (Xm #[Xi (mL V' m').toArray,I6 (k:Int),I6 0])/\zec m BF p n wr k m'/\ChW w noX f w' V' m'))/\zc w w':=by
 have P:=dD r;have bs:=dD b;have an:=show Xo _ from Z
 have am:=show Xo _ from h
 have ao:=show Xo _ from j
 have g:=dD<|fun W (a8:zc w W)=>zkI V m p n wr W (P.aA a8) b.w
 have u:=dD<|fun W (a8:zc w W)=>zoX V m p n W (P.aA a8) b.w
 clear r b Z h j;obtain⟨h,a5⟩:=kA w.heap.size;obtain⟨j,b⟩:=kB ((w.alloc (Xk (mL V m).toArray 45)).alloc (Xk zM.toArray 45));have A:=gD2 b
 have C:Xo (zl j h 45 (mL V m)):=dD<|by rw[<-b];exact(zl.aE w (mL V m) _ a5.symm).aA (za _ _)
 have S:Xo (zl j (h+1) 45 qj):=dD<|by rw[<-b];exact zl.aE _ qj _ (by have:=a5.out;simp;omega)
 have r:=dD b;clear b;have b:=g.out j A.out
 go_enter func140,ntmps140
 go_upto_region 1 with fail;rw[r.out,a5.out];obtain⟨y,z,D,G,H,K,L,M,Q,R,g⟩:=C.box.bL;go_wp2_with fail;refine b.mono ?_;clear b y z D G H K L M Q R g;rintro ae ai ⟨⟨a,c,rfl,b⟩,F⟩;have a3:=dD b;clear b;go_upto_region 2 with fail;obtain⟨N,E⟩:=kA ai.heap.size;obtain⟨B,b⟩:=kB (ai.alloc (Xk #[I6 a.fr,I6 a.tz,Xh a.rd,Xh a.wr,Xh a.sh,I6 a.file,I6 a.base] 125));have r:zc j B:=by rw[<-b];exact F.trans (za _ _)
 have a2:=xPT b E
 have Y:=dD (C.aA r);have a1:=dD (S.aA r);have C:=dD (A.trans r);rw[b,E.out];clear b F r
 by_cases A:c=0
 rotate_left
 ·have a4:(c != 0)=Xc:=by simp[A]
  have af:Xo (jO m BF p n wr c):=dD<|⟨A,.inl (by have:=a3.out;rw[zil a3.out A]at this;exact this)⟩
  clear A
  go_wp2_with (refine zm rfl 45 (.tmp 8) (.tmp 27) rfl (h+1) rfl qj rfl a1 rfl Kr (by unfold qj;simp[Value.oneCell']) ?_)
  intro ag j r _;have F:Xo (zc w ag):=dD<|zd C r (Hm a5.out)
  have E:=dD j;clear j r;go_wp2;refine bodyPost_ret (z6 rfl _ rfl E.box underlying45 rfl Kr) rfl ⟨.inl ⟨c,rfl,af⟩,F⟩
 subst A;have b:=u.out B C.out;obtain⟨y,z,D,G,H,K,L,M,Q,R,g⟩:=Y.box.bL;go_wp2_with fail;refine b.mono ?_;clear b y z D G H K L M Q R g;rintro ae c ⟨rfl,b,H⟩;obtain⟨g,a0⟩:=kA (Z0 m p n);rw[a0.out]at b⊢;obtain⟨u,t,y⟩:=g;obtain⟨pg,rfl⟩:=zsW b;obtain⟨R,z,u,K,S,T,U,X⟩:=pg;clear b;simp only[zif,pgL,pgc,Oc];go_upto_region 5 with fail;obtain⟨L,G⟩:=kA c.heap.size;obtain⟨D,b⟩:=kB (c.alloc (Xk #[U8 R,U8 z,U8 u,U8 K,U8 S,U8 T,U8 U,U8 X] 91));have c:zc B D:=by rw[<-b];exact H.trans (za _ _)
 have B:=xPT b G
 have g:=dD (Y.aA c);have ap:=dD (a1.aA c);have M:=dD (a2.aA c);have aa:=dD (C.trans c);rw[b,G.out];clear b H c
 by_cases A:y=0
 rotate_left
 ·have a4:(y != 0)=Xc:=by simp[A]
  have af:Xo (jO m BF p n wr y):=dD<|⟨A,.inr (.inl ⟨a,a3,by rw[a0.out]⟩)⟩
  clear A
  go_wp2_with (refine zm rfl 45 (.tmp 8) (.tmp 39) rfl (h+1) rfl qj rfl ap rfl Kr (by unfold qj;simp[Value.oneCell']) ?_)
  intro ag j r _;have F:Xo (zc w ag):=dD<|zd aa r (Hm a5.out)
  have E:=dD j;clear j r;go_wp2;refine bodyPost_ret (z6 rfl _ rfl E.box underlying45 rfl Kr) rfl ⟨.inl ⟨y,rfl,af⟩,F⟩
 subst A;obtain⟨q,i,H,G,a2,s,bw⟩:∃q i:Nat,Xo (p=(q:Int))/\Xo (n=(i:Int))/\Xo (i<64)/\∃s,Xo (m.sp[q]? =Xa s):=by
  rcases a3 with⟨e,_⟩|⟨q,i,_,s,_,b,c,y,C,_⟩
  ·cases e
  exact⟨q,i,b,c,y,s,C⟩
 rw[H.out,G.out];have ad:=dD<|fun W (a8:zc w W)=>zg5 V m W (P.aA a8)
 go_upto_region 7 with fail;obtain⟨c,b⟩:=Wq fun C=>zc D C
 have a7:=(b _).2 (gW _)
 have aq:Nonempty (zq c):=⟨⟨_,a7⟩⟩;have ar:=fun y:zq c=>(g.box.aA ((b _).1 y.holds)).c 0 rfl
 have au:=fun y:zq c=>(g.box.aA ((b _).1 y.holds)).c 1 rfl
 have av:=fun y:zq c=>(g.box.aA ((b _).1 y.holds)).c 2 rfl
 have aw:=fun y:zq c=>(g.box.aA ((b _).1 y.holds)).c 3 rfl
 have ax:=fun y:zq c=>(g.box.aA ((b _).1 y.holds)).c 4 rfl
 have ay:=fun y:zq c=>(g.box.aA ((b _).1 y.holds)).c 5 rfl
 have az:=fun y:zq c=>(g.box.aA ((b _).1 y.holds)).c 6 rfl
 have b8:=fun y:zq c=>(g.box.aA ((b _).1 y.holds)).c 7 rfl
 have b9:=fun y:zq c=>(g.box.aA ((b _).1 y.holds)).c 8 rfl
 have ba:=fun y:zq c=>(g.box.aA ((b _).1 y.holds)).c 9 rfl
 have ah:=fun y:zq c=>(g.box.aA ((b _).1 y.holds)).c 10 rfl
 have bc:=fun y:zq c=>(M.box.aA ((b _).1 y.holds)).c 0 rfl
 have bd:=fun y:zq c=>(M.box.aA ((b _).1 y.holds)).c 1 rfl
 have be:=fun y:zq c=>(M.box.aA ((b _).1 y.holds)).c 2 rfl
 have bf:=fun y:zq c=>(M.box.aA ((b _).1 y.holds)).c 3 rfl
 have bg:=fun y:zq c=>(M.box.aA ((b _).1 y.holds)).c 4 rfl
 have bh:=fun y:zq c=>(M.box.aA ((b _).1 y.holds)).c 5 rfl
 have bi:=fun y:zq c=>(M.box.aA ((b _).1 y.holds)).c 6 rfl
 have bj:=fun y:zq c=>(B.box.aA ((b _).1 y.holds)).c 0 rfl
 have bk:=fun y:zq c=>(B.box.aA ((b _).1 y.holds)).c 1 rfl
 have bl:=fun y:zq c=>(B.box.aA ((b _).1 y.holds)).c 2 rfl
 have bm:=fun y:zq c=>(B.box.aA ((b _).1 y.holds)).c 3 rfl
 have bn:=fun y:zq c=>(B.box.aA ((b _).1 y.holds)).c 4 rfl
 have bo:=fun y:zq c=>(B.box.aA ((b _).1 y.holds)).c 5 rfl
 have bp:=fun y:zq c=>(B.box.aA ((b _).1 y.holds)).c 6 rfl
 have bq:=fun y:zq c=>(B.box.aA ((b _).1 y.holds)).c 7 rfl
 refine Jw (I:=c) 12 [(1,⟨.const (Xh Xd),fun Q=>∃f:Nat,Q= Xj (Xa ⟨f,0,Xb⟩),fun _ Q C=>∃(f B:Nat) (d:MaV),Q= Xj (Xa ⟨f,0,Xb⟩)/\D.heap.size<=B/\D.heap.size<=f/\zed B C d m/\zl C f 88 (chL d m),fun p q=>zc p q,fun _=>True⟩),(10,⟨.const (Xh Xd),fun Q=>∃g,Q= Xj (Xa ⟨g,0,Xb⟩),fun _ Q C=>∃g N,Q= Xj (Xa ⟨g,0,Xb⟩)/\D.heap.size<=g/\zl C g 245 N/\N.length=20,fun p q=>zc p q,fun _=>True⟩),(11,⟨.tmp 15,fun _=>True,fun ae _ C=>∃(g f B:Nat) (d:MaV),ae= Xj (Xa ⟨g,0,Xb⟩)/\D.heap.size<=g/\zl C g 245 [Xj (Xa ⟨f,0,Xb⟩),I6 (q:Int),I6 (i:Int),I6 a.fr,I6 a.tz,Xh a.rd,Xh a.wr,Xh a.sh,I6 a.file,I6 a.base,U8 R,U8 z,U8 u,U8 K,U8 S,U8 T,U8 U,U8 X,Xh t,Xh wr]/\D.heap.size<=B/\D.heap.size<=f/\zed B C d m/\zl C f 88 (chL d m),fun p q=>∃g N ak,D.heap.size<=g/\p.grownBy q (Xa g)/\zl p g 245 ak/\zl q g 245 N/\N.length=20,fun _=>True⟩)] a7 zW Kr Kr rfl rfl Dc (Sc ⟨_,0,rfl⟩ ⟨_,0,rfl⟩ ⟨Xh Xc,trivial⟩) ?hp ?hpre ?hpr0 ?_
 case hp=>
  intro k s c0 bv P ab a1 c ae Q p q c a6;have C:=qe P;have y:=qe ab;clear P ab;simp only[mC,pJ,nM,or_false]at C y
  rcases C with⟨rfl,rfl⟩|⟨rfl,rfl⟩|⟨rfl,rfl⟩
  ·obtain⟨f,B,d,L,M,Y,a4,a9⟩:=a6
   rcases y with⟨rfl,rfl⟩|⟨rfl,rfl⟩|⟨rfl,rfl⟩
   ·exact absurd rfl a1
   ·exact⟨f,B,d,L,M,Y,a4.aA c,a9.aA c⟩
   obtain⟨aj,N,ak,c1,ac,br,bt,bu⟩:=c;exact⟨f,B,d,L,M,Y,a4.other ac br,a9.beside ac fun k P=>by cases P;exact a9.off br Dc⟩
  ·obtain⟨g,N,L,M,Y,a4⟩:=a6
   rcases y with⟨rfl,rfl⟩|⟨rfl,rfl⟩|⟨rfl,rfl⟩
   ·exact⟨g,N,L,M,Y.aA c,a4⟩
   ·exact absurd rfl a1
   obtain⟨aj,bz,ak,c1,ac,br,bt,bu⟩:=c
   by_cases e:g=aj
   ·subst e;exact⟨g,_,L,M,bt,bu⟩
   exact⟨g,N,L,M,Y.beside ac (fun k P=>by cases P;exact e),a4⟩
  obtain⟨g,f,B,d,L,M,Y,a4,a9,ac,ak⟩:=a6
  rcases y with⟨rfl,rfl⟩|⟨rfl,rfl⟩|⟨rfl,rfl⟩
  ·exact⟨g,f,B,d,L,M,Y.aA c,a4,a9,ac.aA c,ak.aA c⟩
  ·exact⟨g,f,B,d,L,M,Y.aA c,a4,a9,ac.aA c,ak.aA c⟩
  exact absurd rfl a1
 case hpre=>
  intro c0 bv k s ab P a1 p q c a9;have y:=qe ab;simp only[mC,pJ,nM,or_false]at y
  rcases y with⟨rfl,rfl⟩|⟨rfl,rfl⟩|⟨rfl,rfl⟩ <;> trivial
 case hpr0=>
  intro k bv P;have C:=qe P;simp only[mC,pJ,nM,or_false]at C
  rcases C with⟨rfl,rfl⟩|⟨rfl,rfl⟩|⟨rfl,rfl⟩ <;> trivial
 simp only[Yj,Yf];refine zal rfl rfl rfl (fun y c=>?_);go_big_quiet_op;refine c _ ?_;clear c y
 refine jC rfl rfl (fun w' c a9 Z=>?_) (fun C a1=>?_)
 ·refine zP.call [Xi (mL V m).toArray] rfl func24 rfl rfl rfl ?_;refine(ad w' (aa.trans ((b _).1 c))).mono ?_;rintro e br ⟨f,B,d,rfl,ad,ab,ac,a6,y⟩;have ak:=bS ((b _).1 c);exact⟨_,rfl,(b _).2 (((b _).1 c).trans y),y,⟨f,rfl⟩,f,B,d,rfl,nT ak ab,nT ak ac,ad,a6⟩
 obtain⟨f,rfl⟩:=a1;refine Uq ?_;iterate 8 refine Zr ?_
 refine jC rfl rfl (fun w' c a9 Z=>?_) (fun C a1=>?_)
 ·refine zP.step (v:= Xj (Xa ⟨w'.heap.size,0,Xb⟩)) (w':=w'.alloc (Xk #[Xj Xb,I6 0,I6 0,I6 0,I6 0,Xh Xd,Xh Xd,Xh Xd,I6 0,I6 0,U8 0,U8 0,U8 0,U8 0,U8 0,U8 0,U8 0,U8 0,Xh Xd,Xh Xd] 245)) (zgL rfl) ⟨(b _).2 (((b _).1 c).trans (za _ _)),za _ _,⟨_,rfl⟩,_,_,rfl,bS ((b _).1 c),zl.aE _ [Xj Xb,I6 0,I6 0,I6 0,I6 0,Xh Xd,Xh Xd,Xh Xd,I6 0,I6 0,U8 0,U8 0,U8 0,U8 0,U8 0,U8 0,U8 0,U8 0,Xh Xd,Xh Xd] _ rfl,rfl⟩
 obtain⟨a4,rfl⟩:=a1;refine Uq ?_;refine jC rfl rfl (fun w' c a9 Z=>?_) (fun C a1=>?_)
 ·obtain⟨g,N,N,g,y,a9⟩:=Z 10 Kr
  simp only[Value.pointer.injEq,Option.some.injEq,Addr.mk.injEq,and_true]at N;subst N;obtain⟨C,B,d,A,ab,ac,ad,a6⟩:=Z 1 Kr
  simp only[Value.pointer.injEq,Option.some.injEq,Addr.mk.injEq,and_true]at A;subst A;refine zP.aL 245 (.tmp 15) (.tmp 50) rfl a4 rfl [Xj (Xa ⟨f,0,Xb⟩),I6 (q:Int),I6 (i:Int),I6 a.fr,I6 a.tz,Xh a.rd,Xh a.wr,Xh a.sh,I6 a.file,I6 a.base,U8 R,U8 z,U8 u,U8 K,U8 S,U8 T,U8 U,U8 X,Xh t,Xh wr] rfl y (Rr a9) (by rw[a9];kernel_rfl) (by simp[Value.oneCell']) fun br z u K=>?_
  exact⟨(b _).2 (zd ((b _).1 c) u g),⟨a4,_,_,g,u,y,z,rfl⟩,trivial,a4,f,B,d,rfl,g,z,ab,ac,ad.other u y,a6.beside u fun k P=>by cases P;exact a6.off y Dc⟩
 simp only[Xw];refine zby fun c f Z=>?_
 obtain⟨aj,C,B,d,N,y,g,ab,ac,ad,a6⟩:=Z 11;have c:(Value.pointer (Xa ⟨a4,0,Xb⟩):Xq)= Xj (Xa ⟨aj,0,Xb⟩):=N;simp only[Value.pointer.injEq,Option.some.injEq,Addr.mk.injEq,and_true]at c;subst c;have c:=(b _).1 f;have B:=dD<|ChW.of ad ab c ac a6;have a9:=dD g;have aj:=dD (ap.aA c);have A:=dD ap.box.lt;have P:=dD<|bS aa.out
 have b:=dD (aa.trans c);clear Z f a7 aq c N g y ab ac ad a6 ar au av aw ax ay az b8 b9 ba ah bc bd be bf bg bh bi bj bk bl bm bn bo bp bq;obtain⟨pg,b⟩:∃pg:Pg,Xo ((⟨R,z,u,K,S,T,U,X⟩:Pg)=pg):=⟨_,rfl⟩;have f:Xo (Z0 m p n=(pgL pg,t,0)):=show _=_ by rw[<-b.out];exact a0.out
 have c:=zgx B bs q i s bw a2 a ⟨R,z,u,K,S,T,U,X⟩ t wr (fun l al y Z ai N g a1=>an.out D ai C N (zi m l) al l y rfl g (je l bs y).1.rt Z a1) (BF q i a ⟨R,z,u,K,S,T,U,X⟩ wr) (fun g W a8=>by
  obtain⟨⟨L,M⟩,Y⟩:=g;have a1:=a0.out;rw[M]at a1⊢;exact am q i a ⟨R,z,u,K,S,T,U,X⟩ H G a3 a1 L Y D W C d (B.aA a8))
 simp only at c;rw[b.out]at c;obtain⟨g,b⟩:=kA (jJ m (BF q i a pg wr) pg a t wr q i);have y:Xo (g.1=Xc->zsO g.2.1 q i g.2.2):=dD<|fun d=>by
  rw[<-b.out]at d⊢;exact ao q i a pg t H G a3 f d
 rw[b.out]at c;obtain⟨W,d⟩:=kA (if g.1=Xc then(0:Int)else 10);rw[d.out]at c
 go_wp2_with (refine zp rfl 245 (.tmp 15) rfl a4 rfl a9.box underlying245 rfl Kr ?_)
 refine c.mono ?_;clear c;rintro ae D ⟨rfl,c,c,M,Z⟩;have L:Xo (zl D a4 245 [Xj (Xa ⟨C,0,Xb⟩),I6 (q:Int),I6 (i:Int),I6 a.fr,I6 a.tz,Xh a.rd,Xh a.wr,Xh a.sh,I6 a.file,I6 a.base,U8 R,U8 z,U8 u,U8 K,U8 S,U8 T,U8 U,U8 X,Xh t,Xh wr]):=a9.aK M (B.bU a9 Dc Dc Dc Dc)
 have N:Xo (zl D (h+1) 45 qj):=aj.aK M (fun e=>by have:=B.dlo _ e;have:=A.out;omega)
 have D:=dD c;have Y:=dD<|aa.trans c.gr;clear c M Z;obtain⟨c,B,M⟩:=g;simp only at D y⊢
 cases c with
 | false=>
  have c:W=10:=by rw[<-d.out];rfl
  subst c;have af:Xo (jO m BF p n wr 10):=dD<|⟨Dc,.inr (.inr ⟨rfl,q,i,a,pg,t,H,G,a3,f,by rw[b.out]⟩)⟩
  go_wp2_with (refine zm rfl 45 (.tmp 8) (.tmp 58) rfl (h+1) rfl qj rfl N rfl Kr (by unfold qj;simp[Value.oneCell']) ?_)
  intro ag j r _;have F:Xo (zc w ag):=dD<|zd Y r (Hm a5.out)
  have E:=dD j;clear j r;go_wp2;refine bodyPost_ret (z6 rfl _ rfl E.box underlying45 rfl Kr) rfl ⟨.inl ⟨10,rfl,af⟩,F⟩
 | true=>
  have c:W=0:=by rw[<-d.out];rfl
  subst c;obtain⟨d,fr,g,j,E,r,F⟩:=y.out rfl;have c:Xo (zec m BF p n wr B (zaY M q i B fr wr a.sh)):=dD<|⟨q,i,a,pg,t,fr,H,G,a3,f,by rw[b.out],by rw[b.out],Rx b.out r,by rw[b.out]⟩
  have b:=zij D q i B fr d g r j.inv.aY (fun s ak=>j.tb ak) E a2 F a ⟨R,z,u,K,S,T,U,X⟩ t wr
  obtain⟨g,d⟩:=kA (zaY M q i B fr wr a.sh);simp only at b;rw[d.out]at b c;clear j E r F
  go_wp2_with (refine zp rfl 245 (.tmp 15) rfl a4 rfl L.box underlying245 rfl Kr ?_)
  refine b.mono ?_;clear b;rintro ae d ⟨⟨b,rfl⟩,f,r,b,E⟩;have y:Xo (zl d a4 245 [Xj (Xa ⟨C,0,Xb⟩),I6 (q:Int),I6 (i:Int),I6 a.fr,I6 a.tz,Xh a.rd,Xh a.wr,Xh a.sh,I6 a.file,I6 a.base,U8 R,U8 z,U8 u,U8 K,U8 S,U8 T,U8 U,U8 X,Xh t,Xh wr]):=L.aK b (D.bU L Dc Dc Dc Dc)
  have t:Xo (zl d (h+1) 45 qj):=N.aK b (fun e=>by have:=D.dlo _ e;have:=A.out;omega)
  have j:=dD r;clear r b E;have u0:=y.box.c 0 rfl;obtain⟨r,u,y,z,D,E,F,G,H,K,d⟩:=j.box.box.bL;have b:Xo (∀Q∈chL f g,Q.oneCell'=Xc):=show∀Q∈chL f g,_ by simp[chL,Value.oneCell']
  go_wp2_with (refine zm rfl 45 (.tmp 8) (.tmp 67) rfl (h+1) rfl (chL f g) rfl t rfl Kr b.out ?_)
  clear u0 r u y z D E F G H K d;intro r d b _;have h:Xo (zc w r):=dD<|zd (aa.trans j.gr) b (Hm a5.out)
  have r:=dD d;have t:=dD<|j.lower b A h P.out;clear d b;go_wp2;refine bodyPost_ret (z6 rfl _ rfl r.box underlying45 rfl Kr) rfl ⟨.inr ⟨f,B,C,g,rfl,c,t⟩,h⟩
theorem ztK:Tryz.prog.underlying 91=Xa (.array (Tryz.prog.arrayLen 91) (Tryz.prog.elem 91)):=by kernel_rfl
theorem ztL:Tryz.prog.arrayLen 91=8:=by kernel_rfl
theorem ztM:Tryz.prog.elem 91=5:=by kernel_rfl
theorem zo6 (B:Nat) (w:Xn):(Instr.sliceAt 91 (Xj (Xa ⟨B,0,Xb⟩)) (Xa (I6 0)) Xb Xb).run prog w= .ok (O (Xa ⟨B,0,Xb⟩) 8 8) w:=by
 obtain⟨e,a,c,b,d⟩:=info_parts zts;rw[run_sliceAt_array_l w 91 ⟨B,0,Xb⟩ ztK .i64 0 Wm (by rw[ztL];omega),ztL,ztM]
 simp[sizeOf,typeInfo,a,b,slicedAt,Result.andThen,Ya]
theorem ziz (l:List Int) (n:Nat) (w:Xn) (x:l.length=8) (P:n<=8):
  Xp prog 82 #[Xi (pgc l).toArray,I6 0,I6 (n:Int)] w fun e w'=>∃v,e= Xl v/\zb byE w.heap.size w' v (l.take n)/\zc w w':=by
 have s:Xo (l.length=8):=x;obtain⟨p,a⟩:=kB (w.alloc (Xk (pgc l).toArray 91));have z:=gA a
 have D:=xA a
 have g:=sA a
 have m:Xo (_=p):=a;have H:decide ((n:Int)<0)=Xd:=decide_eq_false Wm
 have r:decide ((8:Int)< (n:Int))=Xd:=decide_eq_false Wm
 clear a x
 go_enter func82,ntmps82
 go_upto_region 3 with fail;rw[m.out];clear H r
 go_wp2_with (refine qv byE rfl (.tmp 20) rfl n rfl (by show n*1<=_;omega) ?_)
 intro C own;obtain⟨h,c⟩:=kB (p.alloc (Xk C byE.ty));have q:zc p h:=by rw[<-c];exact za _ _
 have B:Xo (zb byE (w.heap.size+1) h (O (Xa ⟨w.heap.size+1,0,Xb⟩) n n) (Xr n 0)):=dD<|by
  rw[c,g.out]at own;exact own
 have F:=dD (D.aA q);have A:=dD (z.trans q);rw[c,g.out];clear c own q;have L:=zo6 w.heap.size h;have f:Xo ((l.take n).length=n):=show _=_ by rw[Xs,s.out];omega
 have k:Xo (jc h ⟨w.heap.size,0,Xb⟩ ((l.take n).flatMap byE.enc)):=dD<|fun y N d=>by
  have K:(l.take n).flatMap byE.enc=pgc (l.take n):=by
   unfold pgc;rw[List.flatMap_def]
   induction(l.take n)with
   | nil=>rfl
   | cons Q R M=>simp only[mP,Yz,M];rfl
  rw[K]at d;have G:(pgc l)[y]? =Xa N:=by
   unfold pgc at d⊢;rw[Ye]at d⊢;rw[Xx]at d
   split at d
   ·exact d
   cases d
  have:=F.c y G;rw[Ya,zA];exact this
 go_wp2_with (refine qy (E:=byE) rfl (.tmp 22) (.tmp 24) rfl (w.heap.size+1) _ (Xr n 0) B (w.heap.size+1) rfl 0 n n ⟨w.heap.size+1,0,Xb⟩ rfl rfl ⟨w.heap.size,0,Xb⟩ 8 8 rfl (l.take n) ?qm k.out ?qf ?_)
 trace_state
 case qm=>
  rw[f.out]
  show n=min 8 n
  omega
 case qf=>
  rw[f.out,lR];omega
 intro t b u _;have j:Xo (zb byE w.heap.size t (O (Xa ⟨w.heap.size+1,0,Xb⟩) n n) (l.take n)):=dD<|by
  rw[s.out,show n - min n 8=0 by omega,Yu,Yc]at b
  exact b.base (Nat.le_succ _)
 have i:Xo (zc w t):=dD<|zd A u Wm
 clear b u;go_wp2;refine bodyPost_ret (results_tmp rfl _ _ _) rfl ⟨O (Xa ⟨w.heap.size+1,0,Xb⟩) n n,rfl,j,i⟩
def jg (m n:Int):Bool:=decide (0<=m/\0<=n/\n<=8 - m % 8)
theorem zsi {a b:Bool} (h:a=b):Ending.returned (Xh a)= Xl (Xh b):=by rw[h]
theorem zgY (m n:Int) (w:Xn) (c:-9223372036854775808<=m) (d:m<=9223372036854775807) (f:-9223372036854775808<=n) (g:n<=9223372036854775807):
  Xp prog 139 #[I6 m,I6 n] w fun e w'=>e= Xl (Xh (jg m n))/\w'=w:=by
 by_cases a:0<=m
 ·by_cases b:0<=n
  ·have H:Xo (jg m n=decide (n<=8 - m % 8)):=dD<|by unfold jg;simp[a,b]
   go_enter func139,ntmps139
   go_wp2;go_ret;exact⟨zsi H.symm,rfl⟩
  have H:Xo (jg m n=Xd):=dD<|by unfold jg;simp;omega
  go_enter func139,ntmps139
  go_wp2;go_ret;exact⟨zsi H.symm,rfl⟩
 have H:Xo (jg m n=Xd):=dD<|by unfold jg;simp;omega
 go_enter func139,ntmps139
 go_wp2;go_ret;exact⟨zsi H.symm,rfl⟩
def ziy (m:Int):Bool:=decide (0<=m/\m<8)
theorem zm0 (m:Int) (w:Xn):Xp prog 141 #[I6 m] w fun e w'=>e= Xl (Xh (ziy m))/\w'=w:=by
 by_cases a:0<=m
 ·have H:Xo (ziy m=decide (m<8)):=dD<|by unfold ziy;simp[a]
  go_enter func141,ntmps141
  go_wp2;go_ret;exact⟨zsi H.symm,rfl⟩
 have H:Xo (ziy m=Xd):=dD<|by unfold ziy;simp;omega
 go_enter func141,ntmps141
 go_wp2;go_ret;exact⟨zsi H.symm,rfl⟩
theorem zgC (B i:Nat) (hi:i<8) (w:Xn):(Instr.sliceAt 91 (Xj (Xa ⟨B,0,Xb⟩)) (Xa (I6 (i:Int))) Xb Xb).run prog w= .ok (O (Xa ⟨B,i,Xb⟩) (8 - i) (8 - i)) w:=by
 obtain⟨e,a,c,b,d⟩:=info_parts zts;rw[run_sliceAt_array_l w 91 ⟨B,0,Xb⟩ ztK .i64 i Wm (by rw[ztL];omega),ztL,ztM]
 simp[sizeOf,typeInfo,a,b,slicedAt,Result.andThen,Ya]
 omega
theorem zfB (l:List Int) (i n:Nat) (w:Xn) (A:l.length=8) (u:i<8) (S:i+n<=8):
  Xp prog 82 #[Xi (pgc l).toArray,I6 (i:Int),I6 (n:Int)] w fun e w'=>∃v,e= Xl v/\zb byE w.heap.size w' v ((l.drop i).take n)/\zc w w':=by
 have x:Xo (l.length=8):=A;obtain⟨q,a⟩:=kB (w.alloc (Xk (pgc l).toArray 91));have D:=gA a
 have H:=xA a
 have g:=sA a
 have p:Xo (_=q):=a;have M:decide ((n:Int)<0)=Xd:=decide_eq_false Wm
 have s:decide ((8:Int) -(i:Int)< (n:Int))=Xd:=decide_eq_false Wm
 have t:decide ((i:Int)<0)=Xd:=decide_eq_false Wm
 clear a A
 go_enter func82,ntmps82
 go_upto_region 3 with fail;rw[p.out];clear M s t
 go_wp2_with (refine qv byE rfl (.tmp 20) rfl n rfl (by show n*1<=_;omega) ?_)
 intro C own;obtain⟨h,c⟩:=kB (q.alloc (Xk C byE.ty));have r:zc q h:=by rw[<-c];exact za _ _
 have G:Xo (zb byE (w.heap.size+1) h (O (Xa ⟨w.heap.size+1,0,Xb⟩) n n) (Xr n 0)):=dD<|by
  rw[c,g.out]at own;exact own
 have K:=dD (H.aA r);have F:=dD (D.trans r);rw[c,g.out];clear c own r;have P:=zgC w.heap.size i u h;have f:Xo (((l.drop i).take n).length=n):=show _=_ by rw[Xs,Xz,x.out];omega
 have m:Xo (jc h ⟨w.heap.size,i,Xb⟩ (((l.drop i).take n).flatMap byE.enc)):=dD<|fun B R d=>by
  have N:((l.drop i).take n).flatMap byE.enc=pgc ((l.drop i).take n):=by
   unfold pgc;rw[List.flatMap_def]
   induction((l.drop i).take n)with
   | nil=>rfl
   | cons T U Q=>simp only[mP,Yz,Q];rfl
  rw[N]at d;have L:(pgc l)[i+B]? =Xa R:=by
   unfold pgc at d⊢;rw[Ye]at d⊢;rw[Xx]at d
   split at d
   ·rw[Yl]at d;exact d
   cases d
  have:=K.c (i+B) L;rw[Ya];exact this
 go_wp2_with (refine qy (E:=byE) rfl (.tmp 22) (.tmp 24) rfl (w.heap.size+1) _ (Xr n 0) G (w.heap.size+1) rfl 0 n n ⟨w.heap.size+1,0,Xb⟩ rfl rfl ⟨w.heap.size,i,Xb⟩ (8 - i) (8 - i) rfl ((l.drop i).take n) ?qm m.out ?qf ?_)
 case qm=>
  rw[f.out]
  show n=min (8 - i) n
  omega
 case qf=>
  rw[f.out,lR];omega
 intro y b z _;have k:Xo (zb byE w.heap.size y (O (Xa ⟨w.heap.size+1,0,Xb⟩) n n) ((l.drop i).take n)):=dD<|by
  rw[x.out,show n - min n (8 - i)=0 by omega,Yu,Yc]at b
  exact b.base (Nat.le_succ _)
 have j:Xo (zc w y):=dD<|zd F z Wm
 clear b z;go_wp2;refine bodyPost_ret (results_tmp rfl _ _ _) rfl ⟨O (Xa ⟨w.heap.size+1,0,Xb⟩) n n,rfl,k,j⟩
theorem zk9 {α b:Type} (f:α->b) (L:List α) (a:Nat) (cs:List α):(splice L a cs).map f=splice (L.map f) a (cs.map f):=by
 simp[splice,List.map_take,List.map_drop]
theorem zfw (w:Xn) (cur cs:Array Xq) (t:TypeId) (o:Obj):((w.alloc (Xk cur t)).alloc o).setRow w.heap.size cs=(w.alloc (Xk cs t)).alloc o:=by
 unfold World.setRow World.alloc
 congr 1
 apply Array.ext
 ·simp
 intro i b d;simp only[Array.getElem_modify,Array.getElem_push,Array.size_push];simp only[Array.size_modify,Array.size_push]at b
 by_cases a:i=w.heap.size
 ·subst a;simp
 by_cases c:i<w.heap.size
 ·simp[c,Ne.symm a]
 have:i=w.heap.size+1:=Wm
 subst this;simp
theorem zdb {P:Program} {w:Xn} {rest:List Oper} {a:Act} (j:o.guard=Xb) (d s:Operand) (r z:TypeId)
  (F:o.op= .call { callee:= .builtin .copy,args:=#[d,s],argTypes:=#[r,z] }) (c:TypeId) (H:P.underlying r=Xa (.slice c)) (n:(P.info? c).map (·.size)=Xa 1)
  (x A:Option Addr) (b f e g:Nat) (D:a.eval d= O x b f) (G:a.eval s= O A e g)
  (h:Nat) (cur:List Xq) (t:TypeId) (K:Obj) (cs:List Xq) (E:cs.length=Nat.min e b)
  (k:0<cs.length->x=Xa ⟨w.heap.size,h,Xb⟩/\∃q,A=Xa q/\∀u v,cs[u]? =Xa v->w.cell? (q.add u)=Xa v)
  (i:h+cs.length<=cur.length) (M:∀v∈cs,v.oneCell'=Xc) (p:List Xq) (l:splice cur h cs=p)
  (B:wpList P ops Q rest (a.put o.dst (goInt cs.length)) ((w.alloc (Xk p.toArray t)).alloc K)):
  wpList P ops Q (o :: rest) a ((w.alloc (Xk cur.toArray t)).alloc K):=by
 subst l
 by_cases L:cs.length=0
 ·obtain rfl:cs=[]:=eN L;refine wpList_copy_nothing j d s r z F c H n x A b f e g D G (Si E.symm) ?_
  simpa [splice]using B
 obtain⟨rfl,q,rfl,m⟩:=k Wm
 refine wpList_copy_own j d s r z F c H n w.heap.size h b f q e g D G cur.toArray t ?_ cs E (fun u v N=>?_) (Si i) M ?_
 ·rw[Below.heap_alloc _ _ _ Sm]
  show(w.heap.push _)[w.heap.size]? =_
  simp
 ·have C:=m u v N;have y:=World.block_lt_of_cell? _ _ C;rw[World.cell?_alloc_lt _ _ _ (by simp;omega),World.cell?_alloc_lt _ _ _ y]
  exact C
 rw[zfw]
 simpa [splice]using B
theorem Q3 (b0 b1 b2 b3 b4 b5 b6 b7 c0 c1 c2 c3 c4 c5 c6 c7:Int) (i:Nat) (ns:List Int) (a:Option Addr) (cap:Nat) (w:Xn) (hi:i<8) (hl:i+ns.length<=8) (hv:zj byE w (O a ns.length cap) ns)
  (hc:splice [b0,b1,b2,b3,b4,b5,b6,b7] i ns=[c0,c1,c2,c3,c4,c5,c6,c7]):
  Xp Tryz.prog 83 #[Xi #[Xe Xg b0,Xe Xg b1,Xe Xg b2,Xe Xg b3,Xe Xg b4,Xe Xg b5,Xe Xg b6,Xe Xg b7],Xe Xf (i:Int),O a ns.length cap] w fun e w'=>
   e= Xl (Xi #[Xe Xg c0,Xe Xg c1,Xe Xg c2,Xe Xg c3,Xe Xg c4,Xe Xg c5,Xe Xg c6,Xe Xg c7])/\zc w w':=by
 have HH:Xo (ziy i=Xc):=show _=_ by unfold ziy;simp;omega
 have hcv:splice ([b0,b1,b2,b3,b4,b5,b6,b7].map (Value.int .u8)) i (ns.map (Value.int .u8))=[Xe Xg c0,Xe Xg c1,Xe Xg c2,Xe Xg c3,Xe Xg c4,Xe Xg c5,Xe Xg c6,Xe Xg c7]:=by
  rw[<-zk9,hc];rfl
 have HC:Xo (splice ([b0,b1,b2,b3,b4,b5,b6,b7].map (Value.int .u8)) i (ns.map (Value.int .u8))=[Xe Xg c0,Xe Xg c1,Xe Xg c2,Xe Xg c3,Xe Xg c4,Xe Xg c5,Xe Xg c6,Xe Xg c7]):=hcv;have HP:Xo (0< (ns.map (Value.int .u8)).length->∃ad,a=Xa ad/\∀j v,(ns.map (Value.int .u8))[j]? =Xa v->w.cell? (ad.add j)=Xa v):=show _->_ from fun hpos=>by
  rw[List.length_map]at hpos;obtain⟨ad,h1,_⟩:=hv.bC 0 _ (gE hpos);refine⟨ad,h1,fun j u hj=>?_⟩
  rw[Ye]at hj
  cases hn:ns[j]? with
  | none=>rw[hn]at hj;cases hj
  | some z=>
   rw[hn]at hj;cases hj;obtain⟨ad',h2,h3⟩:=hv.bC j z hn;rw[h1]at h2;cases h2;have:=h3 w (zc.refl _) 0 _ rfl;rw[show byE.k=1 from rfl,Nat.mul_one]at this
   simpa [Addr.add]using this
 have hsl:=fun W=>zgC w.heap.size i hi W
 clear hcv hc hv
 go_enter Tryz.func83,Tryz.ntmps83
 go_wp2_with (first
  | (go_at_call 141;refine(zm0 _ _).mono ?_;rintro e w' ⟨rfl,rfl⟩;rw[HH.out])
  | (refine zdb (w:=w) rfl (.tmp 12) (.tmp 13) 23 23 rfl 5 Tryz.underlying23 (by kernel_rfl) _ _ _ _ _ _ rfl rfl i ([b0,b1,b2,b3,b4,b5,b6,b7].map (Value.int .u8)) 91 _ (ns.map (Value.int .u8)) (by simp;show _=min _ _;omega) (fun hp=>⟨rfl,HP.out hp⟩) (by simp;omega) (ints_oneCell _ _) _ HC.out ?_))
 exact bodyPost_ret (v:= Xi #[Xe Xg c0,Xe Xg c1,Xe Xg c2,Xe Xg c3,Xe Xg c4,Xe Xg c5,Xe Xg c6,Xe Xg c7]) (by simp[results,Tryz.results83,go_sem]) rfl ⟨rfl,(show Below _ _ _ from((bR _ _).alloc (nR _) _).alloc (by simp) _)⟩
theorem Qe {P:Program} {f:Region.Mode} {S:Xn->Prop} (i:Nat) {g:Oper} (d:Option Tmp) (v:Xq) {e:Nat} {b:Array Bool} {a:Act} {w:Xn} (hi:ops[i]? =Xa g) (k:g.dst=d)
  (n:Ob ops=Xc) (l:Region.free f ops b i=Xc) (m:(Region.ready f ops b).contains i=Xc)
  (j:∀c a w,Q (.panic c) (a.put d v) w->Q (.panic c) a w) (p:YieldsIf P ops S g v a) (hS:S w)
  (h:wpAnyH P f ops Q S e (b.setIfInBounds i Xc) (a.put d v) w):wpAnyH P f ops Q S (e+1) b a w:=by
 subst k;exact wpAnyH_take hi n l m j p hS h
theorem zD{P:Program}{ops:Array Oper}{Q:Exit->Act->Xn->Prop}{f:Region.Mode}{S:Xn->Prop}(i:Nat){g:Oper}(d:Option Tmp)(v:Xq){e:Nat}{b:Array Bool}{a:Act}{w:Xn}(hS:S w)(h:wpAnyH P f ops Q S e (b.setIfInBounds i Xc) (a.put d v) w)(hi:ops[i]? =Xa g:=by exact rfl)(k:g.dst=d:=by exact rfl)(n:Ob ops=Xc:=by kernel_rfl)(l:Region.free f ops b i=Xc:=by kernel_rfl)(m:(Region.ready f ops b).contains i=Xc:=by kernel_rfl)(j:∀c a w,Q (.panic c) (a.put d v) w->Q (.panic c) a w:=by exact fun _ _ _ h=>h)(p:YieldsIf P ops S g v a:=by exact .inl ⟨rfl,fun _ _=>rfl⟩):wpAnyH P f ops Q S (e+1) b a w:=Qe i d v hi k n l m j p hS h
variable{X:Nat->Prop}
structure Cl where
 kind:Int
 aC:Int
 pt:Int
 n:Int
 file:Int
 base:Int
 rd:Bool
 wr:Bool
 sh:Bool
 dv:Sli
def clL (c:Cl):List Xq:=[Xe Xf c.kind,Xe Xf c.aC,Xe Xf c.pt,Xe Xf c.n,Xe Xf c.file,Xe Xf c.base,Xh c.rd,Xh c.wr,Xh c.sh,O c.dv.a c.dv.n c.dv.c]
theorem ChW.rebase {u:Xn} {p:Nat} (h:ChW w1 X p u V m) (f:zc w0 u) (b:w0.heap.size<=w1.heap.size):ChW w0 X p u V m:=by
 obtain⟨q,k,l,n⟩:=h.sp;have c:∀{W:Xn},zk (Dr w0.heap.size X p V) u W->zk (Dr w1.heap.size X p V) u W:=fun a=>a.wide fun r g=>g.elim (fun e=> .inl (e.imp (fun e=>Xu e b) id)) .inr
 exact⟨⟨f,h.grx.2⟩,nT b h.lo,h.box,h.fs.base b,h.ca.base b,⟨q,k.base b,l,fun j x s i d W a=>n j x s i d W (c a)⟩,fun W a=>h.rest W (c a)⟩
theorem jF {w:Xn} {a:Act} (b:o.op= .alloc 45):(execOp a.eval o).run prog w= .ok (.value (Xj (Xa ⟨w.heap.size,0,Xb⟩))) (w.alloc (Xk qj.toArray 45)):=by
 simp only[execOp,b,qj]
 go_simp
theorem jP {a:Act} {w:Xn} (c:TypeId) (x:Operand) (g:o.op= .load c x) (b:Addr) (i:a.eval x= Xj (Xa b)) (v:Xq) (e:w.cell? b=Xa v) {d:TypeDesc} (h:Tryz.prog.underlying c=Xa d) (f:d.isRow=Xd):(execOp a.eval o).run prog w= .ok (.value v) w:=zeH c x g b i v e h f
def zl2 (w0:Xn) (m:Ma) (BF:Nat->Nat->Ar->Pg->Bool->Bool × Nat × Ma) (c:Cl) (wr:Bool) (cs:List Xq) (k er:Int) (w:Xn):Prop:=
 (er≠0/\jO m BF c.aC (c.pt / 8) wr er)\/(er=0/\∃(V':MaV) (kk pc:Nat) (m':Ma),cs=chL V' m'/\k=(kk:Int)/\zec m BF c.aC (c.pt / 8) wr kk m'/\ChW w0 noX pc w V' m')
theorem zl2.lower {w:Xn} {BF:Nat->Nat->Ar->Pg->Bool->Bool × Nat × Ma} {c:Cl} {wr:Bool} {cs:List Xq} {k a:Int} (h:zl2 w1 m BF c wr cs k a w) (d:w.grownBy w' (Xa g)) (p:g<w1.heap.size) (e:zc w0 w') (q:w0.heap.size<=w1.heap.size):zl2 w0 m BF c wr cs k a w':=by
 rcases h with h|⟨f,b,r,t,s,i,j,l,n⟩
 ·exact .inl h
 exact .inr ⟨f,b,r,t,s,i,j,l,n.lower d p e q⟩
theorem zl2.newer {w:Xn} {BF:Nat->Nat->Ar->Pg->Bool->Bool × Nat × Ma} {c:Cl} {wr:Bool} {cs:List Xq} {k a:Int} (h:zl2 w1 m BF c wr cs k a w) (d:zc w w') (e:zc w0 w') (n:w0.heap.size<=w1.heap.size):zl2 w0 m BF c wr cs k a w':=by
 rcases h with h|⟨f,b,p,r,q,g,i,j,l⟩
 ·exact .inl h
 exact .inr ⟨f,b,p,r,q,g,i,j,(l.aA d).rebase e n⟩
theorem zb.bH {α:Type} {E:Elt α} {base n c:Nat} {w:Xn} {l:List α} (h:zb E base w (O (Xa ⟨g,0,Xb⟩) n c) l) {i:Nat} {x:α} (b:l[i]? =Xa x):w.rangeAt g (i*E.k) (E.enc x):=fun j v a=>by
 have:=h.one b j v a;rw[qO,Ya,zA]at this;exact this
theorem zpc (h:0<=z) (o:Oper) (a:Act) (x:Operand) (w:Xn) (c:o.op= .binOp .quo 3 x (.const (I6 8)) 3) (d:a.eval x=I6 z) (e:z<=9223372036854775807):(execOp a.eval o).run prog w= .ok (.value (I6 (z / 8))) w:=by
 have b:a.eval (.const (I6 8))=I6 8:=rfl;simp only[execOp,c,d,b]
 go_simp
 rw[Int.tdiv_eq_ediv_of_nonneg h];rw[IntKind.wrap_i64];omega
structure zgm (B:Nat) (w:Xn) (V:MaV) (m:Ma):Prop where
 fs:zb qi B w (O V.f.a V.f.n V.f.c) m.fs
 ca:zb Zz B w (O V.ca.a V.ca.n V.ca.c) m.ca
 sp:∃xs:List SpV,zb Jm B w (O V.sp.a V.sp.n V.sp.c) xs/\xs.length=m.sp.length/\∀(i:Nat) x s,xs[i]? =Xa x->m.sp[i]? =Xa s->∀W,zk (fun k=>k<B\/oB V.f k\/oB V.ca k\/oB V.sp k) w W->Zf W x s
 rest:∀W,zk (fun k=>k<B\/oB V.f k\/oB V.ca k\/oB V.sp k) w W->zjw W V m
theorem ChW.ownB {u:Xn} {p:Nat} (h:ChW w1 noX p u V m):zgm w1.heap.size u V m:=by
 obtain⟨n,g,j,l⟩:=h.sp;have b:∀{W:Xn},zk (fun k=>k<w1.heap.size\/oB V.f k\/oB V.ca k\/oB V.sp k) u W->zk (Dr w1.heap.size noX p V) u W:=fun a=>a.wide fun k c=>c.elim (fun e=> .inl (.inl e)) fun e=> .inr (.inr e)
 exact⟨h.fs,h.ca,⟨n,g,j,fun i x s f d W a=>l i x s f d W (b a)⟩,fun W a=>h.rest W (b a)⟩
theorem zgm.out {u:Xn} (h:zgm B u V m) (o:zk (fun k=>k<B) u u1):zgm B u1 V m:=by
 obtain⟨y,r,t,w⟩:=h.sp;have c:∀{W:Xn},zk (fun k=>k<B\/oB V.f k\/oB V.ca k\/oB V.sp k) u1 W->zk (fun k=>k<B\/oB V.f k\/oB V.ca k\/oB V.sp k) u W:=fun b=>(o.wide fun k j=> .inl j).trans b
 have a:∀{f:Type} {E:Elt f} {v:Xq} {l:List f},zb E B u v l->zb E B u1 v l:=fun d=>⟨jm d.1 o (fun g i e=>by have:=(d.lt g i).1;have e:g<B:=e;omega),d.2⟩
 exact⟨a h.fs,a h.ca,⟨y,a r,t,fun q x s p n W b=>w q x s p n W (c b)⟩,fun W b=>h.rest W (c b)⟩
theorem zgm.aA {u:Xn} (h:zgm B u V m) (g:zc u u1):zgm B u1 V m:=h.out (zk.aA g)
theorem zgm.at {u:Xn} (h:zgm B u V m):zw u V m:=by
 have r:=h.rest u (zk.refl _ _);obtain⟨f,c,d,e⟩:=h.sp;exact⟨h.fs.at,r.sl,r.sb,r.sq,r.db,r.dq,r.fl,h.ca.at,⟨f,c.at,d,fun i x s b a=>e i x s b a u (zk.refl _ _)⟩⟩
theorem zgm.frame {u:Xn} (h:zgm B u V m) {fs:List Fr} (c:oB V.f g) (a:u.grownBy u1 (Xa g)) (p:zb qi B u1 (V.f.x) fs):zgm B u1 V { m with fs:=fs }:=by
 obtain⟨v,i,q,t⟩:=h.sp;have f:zk (fun k=>k<B\/oB V.f k\/oB V.ca k\/oB V.sp k) u u1:=zk.grown a (.inr (.inl c))
 refine⟨p,h.ca.grown a (fun k d e=>?_),⟨v,i.grown a (fun k d e=>?_),q,fun n x s l j W b=>t n x s l j W (f.trans b)⟩,fun W b=>?_⟩
 ·cases e;exact h.fs.apart h.ca Dc g c d
 ·cases e;exact h.fs.apart i Dc g c d
 have r:=h.rest W (f.trans b);exact⟨r.sl,r.sb,r.sq,r.db,r.dq,r.fl⟩
def zr2 (m:Ma) (BF:Nat->Nat->Ar->Pg->Bool->Bool × Nat × Ma) (c:Cl) (n:Int) (wr:Bool) (er:Int):Prop:=
 (jg c.pt n=Xd/\er=2)\/(jg c.pt n=Xc/\jO m BF c.aC (c.pt / 8) wr er)\/
 (jg c.pt n=Xc/\er=9/\∃(kk:Nat) (m':Ma) (fr:Fr) (j:Nat) (fl:Fl),zec m BF c.aC (c.pt / 8) wr kk m'/\m'.fs[kk]? =Xa fr/\fr.f=(j:Int)/\m'.fl[j]? =Xa fl/\fl.size<fr.x*8+c.pt % 8+n)
def zoE (m:Ma) (BF:Nat->Nat->Ar->Pg->Bool->Bool × Nat × Ma) (c:Cl) (n:Int) (wr:Bool) (kk:Nat) (m':Ma) (fr:Fr):Prop:=
 jg c.pt n=Xc/\zec m BF c.aC (c.pt / 8) wr kk m'/\m'.fs[kk]? =Xa fr/\(fr.f=-1\/∃(j:Nat) (fl:Fl),fr.f=(j:Int)/\m'.fl[j]? =Xa fl/\fr.x*8+c.pt % 8+n<=fl.size)
theorem zr2.ne {BF:Nat->Nat->Ar->Pg->Bool->Bool × Nat × Ma} {c:Cl} {n:Int} {wr:Bool} {a:Int} (h:zr2 m BF c n wr a):a≠0:=by
 rcases h with⟨_,rfl⟩|⟨_,h,_⟩|⟨_,rfl,_⟩
 ·decide
 ·exact h
 decide
def ztf (m:Ma) (BF:Nat->Nat->Ar->Pg->Bool->Bool × Nat × Ma) (c:Cl) (n:Int) (wr:Bool) (w0:Xn) (p:Nat) (w:Xn) (k er:Int) (w':Xn):Prop:=
 zk (fun k=>k=p) w w'/\zc w0 w'/\(zr2 m BF c n wr er\/(er=0/\∃(kk:Nat) (m':Ma) (fr:Fr) (V':MaV) (B:Nat),k=(kk:Int)/\zoE m BF c n wr kk m' fr/\zl w' p 88 (chL V' m')/\w.heap.size<=B/\zgm B w' V' m'))
theorem zjY {w:Xn} {p:Nat} (r:ChW w0 noX p w V m) (c:Cl) (n:Int) (wr:Bool) (BF:Nat->Nat->Ar->Pg->Bool->Bool × Nat × Ma) (au:-9223372036854775808<=c.pt) (P:c.pt<=9223372036854775807) (av:-9223372036854775808<=n) (a3:n<=9223372036854775807)
  (d2:∀W,zc w W->Xp prog 140 #[Xi (mL V m).toArray,I6 c.aC,I6 (c.pt / 8),Xh wr] W fun e w'=>((∃a:Int,e= Xl (Xm #[Xi qj.toArray,I6 0,I6 a])/\jO m BF c.aC (c.pt / 8) wr a)\/(∃(V':MaV) (k ab:Nat) (m':Ma),e= Xl (Xm #[Xi (mL V' m').toArray,I6 (k:Int),I6 0])/\zec m BF c.aC (c.pt / 8) wr k m'/\ChW W noX ab w' V' m'))/\zc W w')
  (cz:∀(B:Nat) (m':Ma),zec m BF c.aC (c.pt / 8) wr B m'->∃fr:Fr,m'.fs[B]? =Xa fr/\(fr.f=-1\/∃(j:Nat) (fl:Fl),fr.f=(j:Int)/\m'.fl[j]? =Xa fl)/\0<=fr.x/\fr.x<1000):
  Xp prog 81 #[Xj (Xa ⟨p,0,Xb⟩),Xi #[I6 c.kind,I6 c.aC,I6 c.pt,I6 c.n,I6 c.file,I6 c.base,Xh c.rd,Xh c.wr,Xh c.sh,c.dv.x],I6 n,Xh wr] w fun e w'=>∃k a:Int,e= Xl (Xm #[I6 k,I6 a])/\ztf m BF c n wr w0 p w k a w':=by
 have bd:Xo (ChW w0 noX p w V m):=r;have am:=show Xo _ from d2
 have ak:Xo (p<w.heap.size):=r.aM p (.inl rfl);have bb:=fun W=>zgY c.pt n W au P av a3
 have ah:Xo (c.pt<=9223372036854775807/\n<=9223372036854775807):=dD<|⟨P,a3⟩
 have bm:=show Xo _ from cz
 clear r d2 cz au P av a3;obtain⟨aq,bi⟩:=kA w.heap.size;obtain⟨d,M⟩:=kB (w.alloc (Xk #[I6 c.kind,I6 c.aC,I6 c.pt,I6 c.n,I6 c.file,I6 c.base,Xh c.rd,Xh c.wr,Xh c.sh,c.dv.x] 25));have R:=gA M
 have be:=xPT M bi
 have bv:Xo (_=d):=M;clear M;have cp:=dD (bd.aA R);have al:Xo (∀W,zc d W->_):=show∀W,_ from fun W A=>am.out W (R.trans A)
 go_enter func81,ntmps81
 go_upto_region 1 with fail;rw[bv.out,bi.out];have d4:=be.box.c 2 rfl;have a8:=bb d;clear bb;obtain⟨da,y⟩:=kA (jg c.pt n);rw[y.out]at a8;go_wp2_with fail;refine a8.mono ?_;rintro bh w' ⟨rfl,ba⟩;rw[ba];clear ba w' a8 d4
 cases da with
 | false=>
  go_wp2
  go_ret2
  exact⟨0,2,rfl,zk.aA R,bd.gr.trans R,.inl (.inl ⟨y,rfl⟩)⟩
 | true=>
  have an:Xo (0<=c.pt/\0<=n/\n<=8 - c.pt % 8):=dD<|of_decide_eq_true y.out
  have bo:Xo (∀(o:Oper) (ap:Act) (x:Operand) (w:Xn),o.op= .binOp .quo 3 x (.const (I6 8)) 3->ap.eval x=I6 c.pt->(execOp ap.eval o).run prog w= .ok (.value (I6 (c.pt / 8))) w):=show∀(o:Oper) (ap:Act) (x:Operand) (w:Xn),_ from fun o ap x w df dg=>zpc an.1 o ap x w df dg ah.1
  go_upto_region 3 with fail
  go_cut [10,11,12] (fun cg ch ci ck=>∃(g:Nat) (k a:Int) (b:List Xq),cg= Xj (Xa ⟨g,0,Xb⟩)/\ch=I6 k/\ci=I6 a/\Xo (zl ck g 45 b)/\Xo (zc d ck)/\Xo (d.heap.size<=g)/\Xo (zl2 d m BF c wr b k a ck)/\Xo (b.length=11/\∀x∈b,x.oneCell'=Xc))
  case first=>
   refine wp_region_held (S:=fun W=>zc d W) zW ?_
   show wpAnyH _ _ _ _ _ 19 (Yo 19 Xd) _ d.drew
   have l:zc d d.drew:=(gW _)
   refine zD 0 (Xa 22) (Xj (Xa ⟨p,0,Xb⟩)) l ?_
   refine Uq ?_;refine zD 1 (Xa 23) (Xj (Xa ⟨p,0,Xb⟩)) l ?_
   refine Uq ?_;refine zD 2 (Xa 24) (Xj (Xa ⟨p,0,Xb⟩)) l ?_
   refine Uq ?_;refine Qe 3 (Xa 25) (Xi (chL V m).toArray) rfl rfl Kr Kr Kr (fun _ _ _ r=>r) (yieldsIf_load_mid rfl 45 (.tmp 24) rfl p 0 rfl (chL V m) _ (fun W A=>(cp.box.box.aA A).range) underlying45 rfl Kr) l ?_
   refine Uq ?_;refine zD 4 (Xa 26) (Xj (Xa ⟨aq,1,Xb⟩)) l ?_
   refine Uq ?_;refine Qe 5 (Xa 27) (I6 c.aC) rfl rfl Kr Kr Kr (fun _ _ _ r=>r) (.inl ⟨rfl,fun W A=>jP _ (.tmp 26) rfl ⟨aq,1,Xb⟩ rfl (I6 c.aC) ((be.box.aA A).c 1 rfl) underlying3 rfl⟩) l ?_
   refine Uq ?_;refine zD 6 (Xa 28) (Xj (Xa ⟨aq,2,Xb⟩)) l ?_
   refine Uq ?_;refine Qe 7 (Xa 29) (I6 c.pt) rfl rfl Kr Kr Kr (fun _ _ _ r=>r) (.inl ⟨rfl,fun W A=>jP _ (.tmp 28) rfl ⟨aq,2,Xb⟩ rfl (I6 c.pt) ((be.box.aA A).c 2 rfl) underlying3 rfl⟩) l ?_
   refine Uq ?_;refine Qe 8 (Xa 30) (I6 (c.pt / 8)) rfl rfl Kr Kr Kr (fun _ _ _ r=>r) (.inl ⟨rfl,fun W _=>bo.out _ _ _ W rfl rfl⟩) l ?_
   refine Uq ?_;refine zD 9 (Xa 31) (Xh wr) l ?_
   refine Uq ?_;refine wpAnyH_all (rs:=[10,15]) Kr Sm ?_
   intro j t;simp only[mC,nM,or_false]at t
   rcases t with rfl|rfl
   ·skip
    refine zH (Xa 32) (fun v w'=>(∃(b:List Xq) (k a:Int),v= Xm #[Xi b.toArray,I6 k,I6 a]/\b.length=11/\(∀x∈b,x.oneCell'=Xc)/\zl2 d.drew m BF c wr b k a w')/\zc d.drew w') rfl rfl rfl (zP.call [Xi (mL V m).toArray,I6 c.aC,I6 (c.pt / 8),Xh wr] rfl func140 rfl rfl rfl ((al _ l).mono ?_)) ?_
    ·rintro e w' ⟨r,F⟩
     rcases r with⟨a,rfl,Z⟩|⟨V',k,ab,m',rfl,a6,cb⟩
     ·exact⟨_,rfl,⟨qj,0,a,rfl,rfl,by unfold qj;simp[Value.oneCell'],.inl ⟨Z.1,Z⟩⟩,F⟩
     exact⟨_,rfl,⟨chL V' m',(k:Int),0,rfl,rfl,by simp[chL,Value.oneCell'],.inr ⟨rfl,V',k,ab,m',rfl,rfl,a6,cb⟩⟩,F⟩
    rintro v a1 ⟨⟨b,k,a,rfl,hlen,i,a7⟩,bg⟩;have q:zc d a1:=l.trans bg;refine⟨q,?_⟩;refine Uq ?_;refine zD 11 (Xa 21) (Xm #[Xi b.toArray,I6 k,I6 a]) q ?_
    refine Uq ?_;refine zD 12 (Xa 33) (Xi b.toArray) q ?_
    refine Uq ?_;refine zD 13 (Xa 34) (I6 k) q ?_
    refine Uq ?_;refine zD 14 (Xa 35) (I6 a) q ?_
    refine Uq ?_;refine wpAnyH_all (rs:=[15]) Kr Sm ?_
    intro j t;simp only[mC,nM,or_false]at t;subst t;refine zH (Xa 10) (fun v w'=>v= Xj (Xa ⟨(a1).heap.size,0,Xb⟩)/\w'=(a1).alloc (Xk qj.toArray 45)) rfl rfl rfl (zP.step (jF rfl) ⟨rfl,rfl⟩) ?_
    rintro v L ⟨rfl,h⟩;have X:zc d L:=by rw[h];exact q.trans (za _ _)
    have cy:zc a1 L:=by rw[h];exact za _ _
    obtain⟨g,U⟩:=kA ((a1).heap.size);have ae:zl L g 45 qj:=by rw[h];exact zl.aE _ qj _ U.symm
    have s:d.heap.size<=g:=by rw[<-U.out];exact bS q
    rw[U.out];clear h;refine⟨X,?_⟩;refine Uq ?_;refine wpAnyH_all (rs:=[16]) Kr Sm ?_
    intro j t;simp only[mC,nM,or_false]at t;subst t;refine zH Xb (fun v w'=>zc d w'/\zl w' g 45 b/\zl2 d m BF c wr b k a w') rfl rfl rfl (zP.aL 45 (.tmp 10) (.tmp 33) rfl g rfl b rfl ae (by rw[hlen];rfl) Kr i (fun w' c0 a2 dq=>⟨zd X a2 s,c0,a7.newer (zd cy a2 (by rw[U.out];exact nR _)) (zd X a2 s) (bS l)⟩)) ?_
    rintro v a0 ⟨E,ar,bc⟩;refine⟨E,?_⟩;simp only[Xw];refine zD 17 (Xa 11) (I6 k) E ?_
    refine Uq ?_;refine zD 18 (Xa 12) (I6 a) E ?_
    refine Uq ?_;refine wpAnyH_done Kr ?_ _
    have ag:Xo (zl a0 g 45 b):=ar;have T:Xo (zc d a0):=E;have H:Xo (d.heap.size<=g):=s;have ao:Xo (zl2 d m BF c wr b k a a0):=bc;have u:Xo (b.length=11/\∀x∈b,x.oneCell'=Xc):=show _/\_ from⟨hlen,i⟩
    clear E ar bc;go_wp2
    go_meet
    exact⟨g,k,a,b,rfl,rfl,rfl,ag,T,H,ao,u⟩
   skip
   refine zH (Xa 10) (fun v w'=>v= Xj (Xa ⟨(d.drew).heap.size,0,Xb⟩)/\w'=(d.drew).alloc (Xk qj.toArray 45)) rfl rfl rfl (zP.step (jF rfl) ⟨rfl,rfl⟩) ?_
   rintro v L ⟨rfl,h⟩;have X:zc d L:=by rw[h];exact l.trans (za _ _)
   have cy:zc d.drew L:=by rw[h];exact za _ _
   obtain⟨g,U⟩:=kA ((d.drew).heap.size);have ae:zl L g 45 qj:=by rw[h];exact zl.aE _ qj _ U.symm
   have s:d.heap.size<=g:=by rw[<-U.out];exact bS l
   rw[U.out];clear h;refine⟨X,?_⟩;refine Uq ?_;refine wpAnyH_all (rs:=[10]) Kr Sm ?_
   intro j t;simp only[mC,nM,or_false]at t;subst t;refine zH (Xa 32) (fun v w'=>(∃(b:List Xq) (k a:Int),v= Xm #[Xi b.toArray,I6 k,I6 a]/\b.length=11/\(∀x∈b,x.oneCell'=Xc)/\zl2 L m BF c wr b k a w')/\zc L w') rfl rfl rfl (zP.call [Xi (mL V m).toArray,I6 c.aC,I6 (c.pt / 8),Xh wr] rfl func140 rfl rfl rfl ((al _ X).mono ?_)) ?_
   ·rintro e w' ⟨r,F⟩
    rcases r with⟨a,rfl,Z⟩|⟨V',k,ab,m',rfl,a6,cb⟩
    ·exact⟨_,rfl,⟨qj,0,a,rfl,rfl,by unfold qj;simp[Value.oneCell'],.inl ⟨Z.1,Z⟩⟩,F⟩
    exact⟨_,rfl,⟨chL V' m',(k:Int),0,rfl,rfl,by simp[chL,Value.oneCell'],.inr ⟨rfl,V',k,ab,m',rfl,rfl,a6,cb⟩⟩,F⟩
   rintro v a1 ⟨⟨b,k,a,rfl,hlen,i,a7⟩,bg⟩;have q:zc d a1:=X.trans bg;refine⟨q,?_⟩;refine Uq ?_;have a5:=ae.box.lt;have ae:=ae.aA bg;refine zD 11 (Xa 21) (Xm #[Xi b.toArray,I6 k,I6 a]) q ?_
   refine Uq ?_;refine zD 12 (Xa 33) (Xi b.toArray) q ?_
   refine Uq ?_;refine zD 13 (Xa 34) (I6 k) q ?_
   refine Uq ?_;refine zD 14 (Xa 35) (I6 a) q ?_
   refine Uq ?_;refine wpAnyH_all (rs:=[16]) Kr Sm ?_
   intro j t;simp only[mC,nM,or_false]at t;subst t;refine zH Xb (fun v w'=>zc d w'/\zl w' g 45 b/\zl2 d m BF c wr b k a w') rfl rfl rfl (zP.aL 45 (.tmp 10) (.tmp 33) rfl g rfl b rfl ae (by rw[hlen];rfl) Kr i (fun w' c0 a2 dq=>⟨zd q a2 s,c0,a7.lower a2 a5 (zd q a2 s) (bS X)⟩)) ?_
   rintro v a0 ⟨E,ar,bc⟩;refine⟨E,?_⟩;simp only[Xw];refine zD 17 (Xa 11) (I6 k) E ?_
   refine Uq ?_;refine zD 18 (Xa 12) (I6 a) E ?_
   refine Uq ?_;refine wpAnyH_done Kr ?_ _
   have ag:Xo (zl a0 g 45 b):=ar;have T:Xo (zc d a0):=E;have H:Xo (d.heap.size<=g):=s;have ao:Xo (zl2 d m BF c wr b k a a0):=bc;have u:Xo (b.length=11/\∀x∈b,x.oneCell'=Xc):=show _/\_ from⟨hlen,i⟩
   clear E ar bc;go_wp2
   go_meet
   exact⟨g,k,a,b,rfl,rfl,rfl,ag,T,H,ao,u⟩
  obtain⟨g,k,a,b,rfl,rfl,rfl,ag,T,H,ao,u⟩:=hcut
  rcases ao with⟨b8,Z⟩|⟨rfl,V',B,ab,m',rfl,rfl,a6,ax⟩
  ·have dx:(a != 0)=Xc:=by simp[b8]
   have d7:Xo (jO m BF c.aC (c.pt / 8) wr a):=Z;have cm:Xo (zc w wc):=show zc _ _ from R.trans T.out
   clear Z b8;go_wp2
   go_ret2
   exact⟨0,a,rfl,zk.aA cm,bd.gr.trans cm,.inl (.inr (.inl ⟨y,d7⟩))⟩
  obtain⟨fr,az,ay,a9,aa⟩:=bm.out B m' a6;have G:Xo (m'.fs[B]? =Xa fr):=az;have cn:Xo (zec m BF c.aC (c.pt / 8) wr B m'):=a6;have bj:Xo (ChW d noX ab wc V' m'):=ax;have bk:Xo (fr.f=-1\/∃(j:Nat) (fl:Fl),fr.f=(j:Int)/\m'.fl[j]? =Xa fl):=ay;have co:Xo (0<=fr.x/\fr.x<1000):=show _/\_ from⟨a9,aa⟩
  clear az ay a9 aa a6 ax;have d8:=dD (cp.box.aA T);have bw:Xo (∀v∈chL V' m',v.oneCell'=Xc):=show∀v∈chL V' m',_ by simp[chL,Value.oneCell']
  have bn:Xo ((chL V' m').length=(chL V m).length):=dD<|rfl
  have bu:Xo ((Tryz.prog.info? 45).map (·.size)=Xa (chL V m).length):=dD<|Kr
  go_wp2_with (first | refine zp rfl 45 (.tmp 10) rfl g rfl ag.box underlying45 rfl Kr ?_ | refine zm rfl 45 (.tmp 42) (.tmp 40) rfl p rfl (chL V' m') rfl d8 bn bu bw.out ?_)
  intro K ac bf dr;clear dr;have cr:Xo (zk (fun k=>k=p) w K):=dD<|(zk.aA (R.trans T)).trans (zk.grown bf rfl)
  have d5:Xo (zc w0 K):=dD<|bd.grOut (cr.wide fun k cd=> .inl cd)
  have ct:Xo (zl K p 88 (chL V' m')):=ac;have bx:Xo (zgm d.heap.size K V' m'):=show zgm _ _ _ _ from bj.ownB.out (zk.grown bf (Xu ak (bS R)))
  have db:Xo (zl K aq 25 [I6 c.kind,I6 c.aC,I6 c.pt,I6 c.n,I6 c.file,I6 c.base,Xh c.rd,Xh c.wr,Xh c.sh,c.dv.x]):=dD<|(be.aA T).aK (zk.grown (D:=fun k=>k=p) bf rfl) (by have:=bi.out;have:=ak.out;omega)
  clear ac bf;have ce:=(gS.1 G).1;obtain⟨ca,dd,z⟩:=bx.fs.aJ Wm
  have cw:=ct.box.c 0 rfl;rw[z]at cw;have aj:Xo (zb qi d.heap.size K (O (Xa ⟨ca,0,Xb⟩) m'.fs.length dd) m'.fs):=dD<|Ry z bx.fs
  have a5:(B:Int)< (m'.fs.length:Int):=Wm
  obtain⟨dw,bl⟩:=kA m'.fs.length;rw[bl.out]at aj cw a5;clear z ce;obtain⟨⟨c1,c2,c3,c4,c5,ac,c6,c8⟩,bh,cj,c9,f,x⟩:=fr;have bq:Xo (K.rangeAt ca (B*13) [U8 c1,U8 c2,U8 c3,U8 c4,U8 c5,U8 ac,U8 c6,U8 c8,I6 bh,Xh cj,Xh c9,I6 f,I6 x]):=dD<|aj.bH G.out
  have bt:Xo ((Tryz.prog.info? 93).map (·.size)=Xa 13):=dD<|Kr
  go_upto_region 8 with(refine wpList_load_mid rfl 93 (.tmp 50) rfl ca (B*13) rfl [U8 c1,U8 c2,U8 c3,U8 c4,U8 c5,U8 ac,U8 c6,U8 c8,I6 bh,Xh cj,Xh c9,I6 f,I6 x] _ bq underlying93 rfl bt.out ?_)
  obtain⟨dz,cl⟩:=kA K.heap.size;obtain⟨bz,N⟩:=kB (K.alloc (Xk #[U8 c1,U8 c2,U8 c3,U8 c4,U8 c5,U8 ac,U8 c6,U8 c8,I6 bh,Xh cj,Xh c9,I6 f,I6 x] 93));have af:=gP N
  have cv:=xPT N cl
  have cu:=dD (ct.aA af);have cq:=dD (bx.aA af);have d9:Xo (zk (fun k=>k=p) w bz):=show zk _ _ _ from cr.trans (zk.aA af)
  have d6:=dD (d5.trans af);have dc:=dD (db.aA af);rw[N,cl.out];clear N af;have e2:=cv.box.c 11 rfl;have e3:=cv.box.c 12 rfl;have d4:=dc.box.c 2 rfl;obtain⟨dh,di,dj⟩:=an.out;have a9:0<=x:=co.1;have aa:x<1000:=co.2;have P:=ah.1;have Y:∀{W:Xn} {k a:Int},zc bz W->((a=9/\∃(j:Nat) (fl:Fl),f=(j:Int)/\m'.fl[j]? =Xa fl/\fl.size<x*8+c.pt % 8+n)\/(a=0/\k=(B:Int)/\(f=-1\/∃(j:Nat) (fl:Fl),f=(j:Int)/\m'.fl[j]? =Xa fl/\x*8+c.pt % 8+n<=fl.size)))->ztf m BF c n wr w0 p w k a W:=fun A cd=>by
   refine⟨d9.trans (zk.aA A),d6.trans A,?_⟩
   rcases cd with⟨rfl,j,fl,dn,dp,cf⟩|⟨rfl,rfl,cf⟩
   ·exact .inl (.inr (.inr ⟨y,rfl,B,m',_,j,fl,cn,G,dn,dp,cf⟩))
   exact .inr ⟨rfl,B,m',_,V',d.heap.size,rfl,⟨y,cn,G,cf⟩,cu.aA A,bS R,cq.aA A⟩
  have C:=show Xo _ from@Y
  clear Y
  rcases bk with a4|⟨j,fl,a4,Q⟩
  ·have a4:f=-1:=a4;subst a4;go_upto_region 10 with fail;go_quiet (fail);go_wp2
   go_ret2
   exact⟨_,_,rfl,C (show Below _ _ _ from bD (bR _ _) _) (.inr ⟨rfl,rfl,.inl (by first | trivial | rfl)⟩)⟩
  have a4:f=(j:Int):=a4;subst a4;have ai:Xo (m'.fl[j]? =Xa fl):=Q;have dl:decide ((j:Int)=-1)=Xd:=decide_eq_false Wm
  have dm:((j:Int) == -1)=Xd:=beq_eq_false_iff_ne.2 Wm
  have cx:=cu.box.c 7 rfl;obtain⟨du,dv,z,aw,I⟩:=cq.at.fl.rows;rw[z]at cx;obtain⟨ds,rfl,e0,e1,_,d3⟩:=I j fl Q;obtain⟨dt,de⟩:=d3 bz (bR _ _);have cc:(j:Int)< (m'.fl.length:Int):=Hm ((gS.1 Q).1)
  obtain⟨dy,u⟩:=kA m'.fl.length;rw[u.out]at cx cc aw;clear d3 I z Q de;go_upto_region 10 with fail
  by_cases b9:fl.size<x*8+c.pt % 8+n
  ·have dk:decide (fl.size<x*8+c.pt % 8+n)=Xc:=decide_eq_true b9;have br:Xo (fl.size<x*8+c.pt % 8+n):=b9;clear b9;go_quiet (fail);go_wp2
   go_ret2
   exact⟨_,_,rfl,C (show Below _ _ _ from bD (bR _ _) _) (.inl ⟨rfl,j,fl,rfl,ai,br⟩)⟩
  have dk:decide (fl.size<x*8+c.pt % 8+n)=Xd:=decide_eq_false b9;have br:Xo (x*8+c.pt % 8+n<=fl.size):=dD<|Wm
  clear b9;go_quiet (fail);go_wp2
  go_ret2
  exact⟨_,_,rfl,C (show Below _ _ _ from bD (bR _ _) _) (.inr ⟨rfl,rfl,.inr ⟨j,fl,rfl,ai,br⟩⟩)⟩
def Ju (er n:Int) (s:Sli):Xq:= Xi #[Xe Xf er,Xe Xf n,O s.a s.n s.c]
def noS:Sli:=⟨Xb,0,0⟩
theorem zk.beyond {D:Nat->Prop} {w:Xn} (o:zk D w w1) (c:w1.grownBy w2 (Xa g)) (f:w.heap.size<=g):zk D w w2:=by
 have a:=zk.grown (D:=fun k=>k=g) c rfl
 refine⟨a.os.trans o.os,a.tape.trans o.tape,a.output.trans o.output,nT o.size a.size,fun i b d=>?_⟩
 rw[a.block i (Xu b o.size) (fun e=>by have e:i=g:=e;omega)]
 exact o.block i b d
def Qh (K:Int->Int->List Int->Ma->Prop) (w0:Xn) (p:Nat) (w:Xn) (e:Ending) (w':Xn):Prop:=
 ∃(er n:Int) (s:Sli) (l:List Int) (V':MaV) (m':Ma),e= Xl (Ju er n s)/\K er n l m'/\zk (fun k=>k=p) w w'/\zc w0 w'/\(∀W,zk (fun k=>k<w.heap.size) w' W->zj byE W (O s.a s.n s.c) l)/\(er=0->zl w' p 88 (chL V' m')/\∀W,zk (fun k=>k<w.heap.size) w' W->zw W V' m')
theorem Qh.err {K:Int->Int->List Int->Ma->Prop} {w0 w w':Xn} {p:Nat} {V:MaV} {m:Ma} {er:Int} (he:er≠0) (hk:K er 0 [] m) (o:zk (fun k=>k=p) w w') (g:zc w0 w'):Qh K w0 p w (Xl (Ju er 0 noS)) w':=
 ⟨er,0,noS,[],V,m,rfl,hk,o,g,fun _ _=>zj.nil _ _,fun h=>absurd h he⟩
theorem Qh.ok {K:Int->Int->List Int->Ma->Prop} {w:Xn} {p:Nat} {V':MaV} {n:Int} (a:K 0 n [] m') (o:zk (fun k=>k=p) w w') (g:zc w0 w') (b:zl w' p 88 (chL V' m')) (h:∀W,zk (fun k=>k<w.heap.size) w' W->zw W V' m'):Qh K w0 p w (Xl (Ju 0 n noS)) w':=
 ⟨0,n,noS,[],V',m',rfl,a,o,g,fun _ _=>zj.nil _ _,fun _=>⟨b,h⟩⟩
theorem jY (a:Int) (w:Xn):Xp prog 21 #[I6 a] w fun e w'=>e= Xl (Ju a 0 noS)/\zc w w':=by
 unfold Ju noS
 go_enter func21,ntmps21
 go_wp2;refine bodyPost_ret (zE rfl _ rfl (Box.aE _ [I6 a,I6 0,eS] _ rfl) underlying54 rfl Kr) rfl ⟨rfl,(show Below _ _ _ from(bR _ _).alloc (nR _) _)⟩
theorem ZW (n m:Int) (w:Xn):Xp prog 74 #[I6 n,I6 m] w fun e w'=>e= Xl (Xh (decide (0<=n) && decide (n<m)))/\w'=w:=by
 by_cases h:0<=n
 ·have a:decide (0<=n)=Xc:=decide_eq_true h;rw[a,Bool.true_and]
  go_enter func74,ntmps74
  go_wp2;go_ret;exact⟨rfl,rfl⟩
 have a:decide (0<=n)=Xd:=decide_eq_false h;rw[a,Bool.false_and]
 go_enter func74,ntmps74
 go_wp2;go_ret;exact⟨rfl,rfl⟩
theorem zhY {w:Xn} {p:Nat} {V':MaV} (z:zl w p 88 (chL V m)) (D:w0.heap.size<=p) (C:zc w0 w) (n:Int):Xp prog 85 #[Xj (Xa ⟨p,0,Xb⟩),Xi (mL V' m').toArray,I6 n,I6 0] w fun e w'=>e= Xl (Ju 0 n noS)/\zl w' p 88 (chL V' m')/\zk (fun k=>k=p) w w'/\zc w0 w':=by
 have f:Xo (w0.heap.size<=p):=D;have s:Xo (zc w0 w):=C;obtain⟨b,d⟩:=kA w.heap.size;obtain⟨h,a⟩:=kB ((w.alloc (Xk (chL V' m').toArray 45)).alloc (Xk #[I6 0,I6 0,eS] 54));have r:=gD2 a
 have A1:Xo (zl h (b+1) 54 [I6 0,I6 0,eS]):=dD<|by rw[<-a];exact zl.aE _ [I6 0,I6 0,eS] _ (by have:=d.out;simp;omega)
 have K:Xo (zl h b 45 (chL V' m')):=dD<|by rw[<-a];exact(zl.aE w (chL V' m') _ d.symm).aA (za _ _)
 have N:Xo (zl h p 88 (chL V m)):=z.aA r.out;have c:Xo (p<b):=show _<_ by have:=z.box.lt;have:=d.out;omega
 have g:Xo (_=h):=a;have y:Xo (∀E∈chL V' m',E.oneCell'=Xc):=show∀E∈chL V' m',_ by simp[chL,Value.oneCell']
 have t:Xo ((chL V' m').length=(chL V m).length):=dD<|rfl
 have u:Xo ((Tryz.prog.info? 45).map (·.size)=Xa (chL V m).length):=dD<|Kr
 have v:Xo ((Tryz.prog.info? 45).map (·.size)=Xa (chL V' m').length):=dD<|Kr
 clear a z D C;unfold chL at g
 go_enter func85,ntmps85
 go_upto_region 1 with fail;rw[g.out,d.out]
 go_upto_region 4 with(first | refine zp rfl 45 (.tmp 5) rfl b rfl K.box underlying45 rfl v.out ?_ | refine zm rfl 45 (.tmp 16) (.tmp 14) rfl p rfl (chL V' m') rfl N t u y.out ?_)
 intro i A l R;clear R;have P:Xo (zl i p 88 (chL V' m')):=A;have L:Xo (zk (fun k=>k=p) w i):=show zk _ _ _ from(zk.aA r).trans (zk.grown l rfl)
 have G:Xo (zc w0 i):=dD<|zd (s.trans r) l f.out
 have A2:Xo (zl i (b+1) 54 [I6 0,I6 0,eS]):=dD<|A1.beside l (fun k e=>by cases e;have:=c.out;omega)
 have x:Xo (w0.heap.size<=b):=dD<|by have:=c.out;have:=f.out;omega
 clear A l
 go_wp2_with (refine zm rfl 54 (.tmp 8) (.tmp 18) rfl (b+1) rfl [I6 0,I6 n,eS] rfl A2 rfl Kr (by simp[Value.oneCell']) ?_)
 intro j B q _;have H:Xo (zc w0 j):=dD<|zd G q (Hm x.out)
 have F:Xo (zl j (b+1) 54 [I6 0,I6 n,eS]):=B;have Q:Xo (zl j p 88 (chL V' m')):=show zl _ _ _ _ from P.beside q (fun k e=>by cases e;have:=c.out;omega)
 have M:Xo (zk (fun k=>k=p) w j):=dD<|L.beyond q (Hm d.out)
 clear B q;go_wp2;refine bodyPost_ret (zE rfl _ rfl F.box underlying54 rfl Kr) rfl ⟨rfl,Q,M,H⟩
variable{X:Nat->Prop}
theorem zeP {w:Xn} (a:zc w w') (d:w0.heap.size<=w1.heap.size):∀W,zk (fun k=>k<w0.heap.size) w' W->zk (fun k=>k<w1.heap.size) w W:=fun _ b=>(zk.aA a).trans (b.wide fun _ c=>Xu c d)
theorem zeQ {w:Xn} (a:w.grownBy w' (Xa g)) (c:g<w1.heap.size) (e:w0.heap.size<=w1.heap.size):∀W,zk (fun k=>k<w0.heap.size) w' W->zk (fun k=>k<w1.heap.size) w W:=fun _ b=>(zk.grown (D:=fun k=>k<w1.heap.size) a c).trans (b.wide fun _ d=>Xu d e)
theorem zjE (h:0<=z) (o:Oper) (a:Act) (x:Operand) (w:Xn) (c:o.op= .binOp .rem 3 x (.const (I6 8)) 3) (d:a.eval x=I6 z):(execOp a.eval o).run prog w= .ok (.value (I6 (z % 8))) w:=by
 have b:a.eval (.const (I6 8))=I6 8:=rfl;simp only[execOp,c,d,b]
 go_simp
 exact Int.tmod_eq_emod_of_nonneg h
theorem zpd {n c k:Nat} (o:Oper) (a:Act) (x y:Operand) (w:Xn) (d:o.op= .indexAddr 30 x y) (e:a.eval x= O (Xa ⟨g,0,Xb⟩) n c) (f:a.eval y=I6 (k:Int)) (h:k<n):(execOp a.eval o).run prog w= .ok (.value (Xj (Xa ⟨g,k*13,Xb⟩))) w:=by
 have b:(k:Int)< (n:Int):=Wm
 simp only[execOp,d,e,f]
 go_simp
def zoD (m:Ma) (BF:Nat->Nat->Ar->Pg->Bool->Bool × Nat × Ma) (c:Cl) (er n:Int) (l:List Int) (m':Ma):Prop:=
 (n=0/\l=[]/\zr2 m BF c c.n Xd er)\/(er=0/\n=c.n/\∃(kk:Nat) (fr:Fr),zoE m BF c c.n Xd kk m' fr/\l=((pgL fr.p).drop (c.pt % 8).toNat).take c.n.toNat)
theorem zkR {n:Int} {b:Option Addr} {d c:Nat} (o:Oper) (a:Act) (x y:Operand) (w:Xn) (e:o.op= .build 54 #[(1,x),(2,y)]) (f:a.eval x=I6 n) (g:a.eval y= O b d c):(execOp a.eval o).run prog w= .ok (.value (Xi #[I6 0,I6 n,O b d c])) w:=by
 simp only[execOp,e,List.map_toArray,mP,Yb,f,g]
 go_simp
theorem znn {w:Xn} {p:Nat} (h:ChW w0 noX p w V m) (c:Cl) (BF:Nat->Nat->Ar->Pg->Bool->Bool × Nat × Ma) (aa:-9223372036854775808<=c.pt) (R:c.pt<=9223372036854775807) (ab:-9223372036854775808<=c.n) (ac:c.n<=9223372036854775807)
  (bv:∀W,zc w W->Xp prog 140 #[Xi (mL V m).toArray,I6 c.aC,I6 (c.pt / 8),Xh Xd] W fun e w'=>((∃E:Int,e= Xl (Xm #[Xi qj.toArray,I6 0,I6 E])/\jO m BF c.aC (c.pt / 8) Xd E)\/(∃(V':MaV) (k ck:Nat) (m':Ma),e= Xl (Xm #[Xi (mL V' m').toArray,I6 (k:Int),I6 0])/\zec m BF c.aC (c.pt / 8) Xd k m'/\ChW W noX ck w' V' m'))/\zc W w')
  (bu:∀(j:Nat) (m':Ma),zec m BF c.aC (c.pt / 8) Xd j m'->∃fr:Fr,m'.fs[j]? =Xa fr/\(fr.f=-1\/∃(Y:Nat) (fl:Fl),fr.f=(Y:Int)/\m'.fl[Y]? =Xa fl)/\0<=fr.x/\fr.x<1000):
  Xp prog 38 #[Xj (Xa ⟨p,0,Xb⟩),Xi #[I6 c.kind,I6 c.aC,I6 c.pt,I6 c.n,I6 c.file,I6 c.base,Xh c.rd,Xh c.wr,Xh c.sh,c.dv.x]] w fun e w'=>Qh (zoD m BF c) w0 p w e w':=by
 have c4:Xo (ChW w0 noX p w V m):=h;have ax:Xo (p<w.heap.size):=h.aM p (.inl rfl);obtain⟨b,Z⟩:=kA w.heap.size;obtain⟨ak,q⟩:=kB ((w.alloc (Xk #[I6 c.kind,I6 c.aC,I6 c.pt,I6 c.n,I6 c.file,I6 c.base,Xh c.rd,Xh c.wr,Xh c.sh,c.dv.x] 25)).alloc (Xk #[I6 0,I6 0,eS] 54));have aj:=gD2 q
 have bd:Xo (zl ak b 25 [I6 c.kind,I6 c.aC,I6 c.pt,I6 c.n,I6 c.file,I6 c.base,Xh c.rd,Xh c.wr,Xh c.sh,c.dv.x]):=dD<|by rw[<-q];exact(zl.aE w [I6 c.kind,I6 c.aC,I6 c.pt,I6 c.n,I6 c.file,I6 c.base,Xh c.rd,Xh c.wr,Xh c.sh,c.dv.x] _ Z.symm).aA (za _ _)
 have A1:Xo (zl ak (b+1) 54 [I6 0,I6 0,eS]):=dD<|by rw[<-q];exact zl.aE _ [I6 0,I6 0,eS] _ (by have:=Z.out;simp;omega)
 have ap:Xo (b+1<ak.heap.size):=A1.box.lt;have l:Xo (p<b):=show _<_ by have:=ax.out;have:=Z.out;omega
 have bk:Xo (w0.heap.size<=b):=dD<|by have:=c4.lo;have:=l.out;omega
 have b8:Xo (_=ak):=q;have af:=zjY (h.aA aj) c c.n Xd BF aa R ab ac (fun W d=>bv W (aj.trans d)) bu
 have c2:Xo (c.pt<=9223372036854775807):=R;clear q h bv bu aa R;clear ab ac;have cn:=bd.box.c 3 rfl
 go_enter func38,ntmps38
 go_upto_region 1 with fail;rw[b8.out,Z.out]
 go_wp2_with (first | refine zp rfl 25 (.tmp 3) rfl b rfl bd.box underlying25 rfl Kr ?_ | (go_at_call 81;refine af.mono ?_))
 clear af cn;rintro e a ⟨k,E,rfl,ao,br,H⟩;have A2:Xo (zl a (b+1) 54 [I6 0,I6 0,eS]):=dD<|A1.aK ao (Hm l.out)
 have ca:Xo (zl a b 25 [I6 c.kind,I6 c.aC,I6 c.pt,I6 c.n,I6 c.file,I6 c.base,Xh c.rd,Xh c.wr,Xh c.sh,c.dv.x]):=dD<|bd.aK ao (Hm l.out)
 have bj:Xo (zc w0 a):=br;have bb:Xo (zk (fun k=>k=p) w a):=show zk _ _ _ from(zk.aA aj).trans ao
 clear ao br
 rcases H with U|⟨rfl,j,m',fr,V',ai,rfl,an,ad,bt,g⟩
 ·skip
  have X:=U.ne;have co:(E != 0)=Xc:=by simp[X]
  have ag:=jY E a;have au:Xo _:=show zr2 _ _ _ _ _ _ from U
  have aw:Xo (E≠0):=X;clear U X;go_wp2_with fail;refine ag.mono ?_;rintro e c8 ⟨rfl,am⟩;have bw:=dD (A2.aA am);have c0:=dD (bj.trans am);have c6:Xo (zc a c8):=am;clear ag am;unfold Ju noS
  go_wp2_with (refine zm rfl 54 (.tmp 4) (.tmp 18) rfl (b+1) rfl [I6 E,I6 0,eS] rfl bw rfl Kr (by simp[Value.oneCell']) ?_)
  intro bc n be _;have c1:Xo (zc w0 bc):=dD<|zd c0 be (Hm bk.out)
  have bx:Xo (zl bc (b+1) 54 [I6 E,I6 0,eS]):=n;have c5:Xo (zk (fun k=>k=p) w bc):=show zk _ _ _ from(bb.trans (zk.aA c6)).beyond be (Hm Z.out)
  clear n be;go_wp2;refine bodyPost_ret (zE rfl _ rfl bx.box underlying54 rfl Kr) rfl (Qh.err (V:=V) (m:=m) aw (.inl ⟨rfl,rfl,au⟩) c5 c1)
 have c3:Xo (zoE m BF c c.n Xd j m' fr):=an;have bl:Xo (zl a p 88 (chL V' m')):=ad;have ba:Xo (zgm ai a V' m'):=g;have I:Xo (b+1<ai):=show _<_ by have:=ap.out;omega
 have b9:Xo (w.heap.size<=ai):=dD<|nT (bS aj) bt
 have a3:Xo (m'.fs[j]? =Xa fr):=an.2.2.1;have M:Xo (0<=c.pt/\0<=c.n/\c.n<=8 - c.pt % 8):=show _/\_ from of_decide_eq_true an.1
 clear an ad bt g;obtain⟨r,ar⟩:∃r:Nat,Xo (c.pt % 8=(r:Int)):=⟨(c.pt % 8).toNat,show _=_ by omega⟩
 obtain⟨s,av⟩:∃s:Nat,Xo (c.n=(s:Int)):=⟨c.n.toNat,show _=_ by have:=M.2.1;omega⟩
 have a4:Xo (r<8/\r+s<=8):=dD<|by have a7:=M.out;have a8:=ar.out;have ci:=av.out;rw[a8,ci]at a7;omega
 have ay:Xo (∀(o:Oper) (a6:Act) (x:Operand) (w:Xn),o.op= .binOp .rem 3 x (.const (I6 8)) 3->a6.eval x=I6 c.pt->(execOp a6.eval o).run prog w= .ok (.value (I6 (r:Int))) w):=show∀(o:Oper) (a6:Act) (x:Operand) (w:Xn),_ from fun o a6 x w a7 a8=>by rw[<-ar.out];exact zjE M.1 o a6 x w a7 a8
 have ae:=(gS.1 a3).1;obtain⟨F,al,T⟩:=ba.fs.aJ Wm
 have a0:Xo (∀W,zk (fun k=>k=b+1) a W->W.cell? ⟨p,0,Xb⟩=Xa (O (Xa ⟨F,0,Xb⟩) m'.fs.length al)):=dD<|fun W d=>by rw[<-T];exact(bl.aK d (Hm l.out)).box.c 0 rfl
 have a2:Xo (∀W,zk (fun k=>k=b+1) a W->zb qi ai W (O (Xa ⟨F,0,Xb⟩) m'.fs.length al) m'.fs):=dD<|fun W d=>by rw[<-T];exact(ba.out.out (d.wide fun k H=>by have H:k=b+1:=H;have:=I.out;omega)).fs
 have N:Xo (∀W,zk (fun k=>k=b+1) a W->Box W b [I6 c.kind,I6 c.aC,I6 c.pt,I6 c.n,I6 c.file,I6 c.base,Xh c.rd,Xh c.wr,Xh c.sh,c.dv.x]):=dD<|fun W d=>(ca.aK d Wm).box
 have a5:Xo (j<m'.fs.length):=ae;obtain⟨bp,aq⟩:=kA m'.fs.length;rw[aq.out]at a2 a0 a5;clear T ae;obtain⟨⟨u,y,z,A,n,B,C,D⟩,cl,cm,ce,f,x⟩:=fr;have az:Xo (∀W,zk (fun k=>k=b+1) a W->W.rangeAt F (j*13) [U8 u,U8 y,U8 z,U8 A,U8 n,U8 B,U8 C,U8 D]):=show∀W,_ from fun W d Y v G=>(a2 W d).bH a3 Y v (by
  have bg:=(gS.1 G).1
  show([U8 u,U8 y,U8 z,U8 A,U8 n,U8 B,U8 C,U8 D]++ [I6 cl,Xh cm,Xh ce,I6 f,I6 x])[Y]? =Xa v
  rw[Xt bg];exact G)
 go_upto_region 4 with fail;refine wp_region_held (S:=fun W=>zk (fun k=>k=b+1) a W) zW ?_
 show wpAnyH _ _ _ _ _ 20 (Yo 20 Xd) _ a.drew
 have L:zc a a.drew:=(gW _)
 have i:zk (fun k=>k=b+1) a a.drew:=zk.aA L
 refine zD 0 (Xa 19) (Xj (Xa ⟨b,3,Xb⟩)) i ?_
 refine Uq ?_;refine Qe 1 (Xa 20) (I6 c.n) rfl rfl Kr Kr Kr (fun _ _ _ h=>h) (.inl ⟨rfl,fun W d=>jP _ (.tmp 19) rfl ⟨b,3,Xb⟩ rfl (I6 c.n) ((N W d).c 3 rfl) underlying3 rfl⟩) i ?_
 refine Uq ?_;refine zD 2 (Xa 21) (Xj (Xa ⟨p,0,Xb⟩)) i ?_
 refine Uq ?_;refine zD 3 (Xa 22) (Xj (Xa ⟨p,0,Xb⟩)) i ?_
 refine Uq ?_;refine zD 4 (Xa 23) (Xj (Xa ⟨p,0,Xb⟩)) i ?_
 refine Uq ?_;refine zD 5 (Xa 24) (Xj (Xa ⟨p,0,Xb⟩)) i ?_
 refine Uq ?_;refine zD 6 (Xa 25) (Xj (Xa ⟨p,0,Xb⟩)) i ?_
 refine Uq ?_;refine Qe 7 (Xa 26) (O (Xa ⟨F,0,Xb⟩) bp al) rfl rfl Kr Kr Kr (fun _ _ _ h=>h) (.inl ⟨rfl,fun W d=>jP _ (.tmp 25) rfl ⟨p,0,Xb⟩ rfl (O (Xa ⟨F,0,Xb⟩) bp al) (a0 W d) underlying30 rfl⟩) i ?_
 refine Uq ?_;refine zD 8 (Xa 27) (I6 (j:Int)) i ?_
 refine Uq ?_;refine Qe 9 (Xa 28) (Xj (Xa ⟨F,j*13,Xb⟩)) rfl rfl Kr Kr Kr (fun _ _ _ h=>h) (.inl ⟨rfl,fun W _=>zpd _ _ _ _ W rfl rfl rfl a5⟩) i ?_
 refine Uq ?_;refine zD 10 (Xa 29) (Xj (Xa ⟨F,j*13,Xb⟩)) i ?_
 refine Uq ?_;refine Qe 11 (Xa 30) (Xi #[U8 u,U8 y,U8 z,U8 A,U8 n,U8 B,U8 C,U8 D]) rfl rfl Kr Kr Kr (fun _ _ _ h=>h) (yieldsIf_load_mid rfl 91 (.tmp 29) rfl F (j*13) rfl [U8 u,U8 y,U8 z,U8 A,U8 n,U8 B,U8 C,U8 D] _ (fun W d=>az.out W d) underlying91 rfl Kr) i ?_
 refine Uq ?_;refine zD 12 (Xa 31) (Xj (Xa ⟨b,2,Xb⟩)) i ?_
 refine Uq ?_;refine Qe 13 (Xa 32) (I6 c.pt) rfl rfl Kr Kr Kr (fun _ _ _ h=>h) (.inl ⟨rfl,fun W d=>jP _ (.tmp 31) rfl ⟨b,2,Xb⟩ rfl (I6 c.pt) ((N W d).c 2 rfl) underlying3 rfl⟩) i ?_
 refine Uq ?_;refine Qe 14 (Xa 33) (I6 (r:Int)) rfl rfl Kr Kr Kr (fun _ _ _ h=>h) (.inl ⟨rfl,fun W _=>ay.out _ _ _ W rfl rfl⟩) i ?_
 refine Uq ?_;refine zD 15 (Xa 34) (Xj (Xa ⟨b,3,Xb⟩)) i ?_
 refine Uq ?_;refine Qe 16 (Xa 35) (I6 (s:Int)) rfl rfl Kr Kr Kr (fun _ _ _ h=>h) (.inl ⟨rfl,fun W d=>jP _ (.tmp 34) rfl ⟨b,3,Xb⟩ rfl (I6 (s:Int)) (by rw[<-av.out];exact(N W d).c 3 rfl) underlying3 rfl⟩) i ?_
 refine Uq ?_;refine wpAnyH_all (rs:=[17]) Kr Sm ?_
 intro Y G;simp only[mC,nM,or_false]at G;subst G;refine zH (Xa 36) (fun v w'=>∃K:Sli,v=K.x/\zj byE w' v (([u,y,z,A,n,B,C,D].drop r).take s)/\(zb byE a.heap.size w' v (([u,y,z,A,n,B,C,D].drop r).take s))/\zc a w') rfl rfl rfl (zP.call [Xi #[U8 u,U8 y,U8 z,U8 A,U8 n,U8 B,U8 C,U8 D],I6 (r:Int),I6 (s:Int)] rfl func82 rfl rfl rfl ((zfB [u,y,z,A,n,B,C,D] r s a.drew rfl a4.1 a4.2).mono ?_)) ?_
 ·rintro e w' ⟨v,rfl,bh,bf⟩;obtain⟨cb,cd,rfl⟩:=bh.form;exact⟨_,rfl,⟨cb,_,cd⟩,rfl,bh.at,bh.base (bS L),L.trans bf⟩
 rintro v bn ⟨K,rfl,ah,g,Q⟩;have t:zk (fun k=>k=b+1) a bn:=zk.aA Q
 refine⟨t,?_⟩;refine Uq ?_;refine Qe 18 (Xa 37) (Xi #[I6 0,I6 c.n,K.x]) rfl rfl Kr Kr Kr (fun _ _ _ h=>h) (.inl ⟨rfl,fun W _=>zkR _ _ _ _ W rfl rfl rfl⟩) t ?_
 refine Uq ?_;refine wpAnyH_all (rs:=[19]) Kr Sm ?_
 intro Y G;simp only[mC,nM,or_false]at G;subst G;refine zH Xb (fun v w'=>zl w' (b+1) 54 [I6 0,I6 c.n,K.x]/\bn.grownBy w' (Xa (b+1))) rfl rfl rfl (zP.aL 54 (.tmp 4) (.tmp 37) rfl (b+1) rfl [I6 0,I6 c.n,K.x] rfl (A2.aA Q) rfl Kr (by simp[Value.oneCell']) (fun w' cc ch cp=>⟨cc,ch⟩)) ?_
 rintro v bm ⟨bo,P⟩;have a1:Xo (Qh (zoD m BF c) w0 p w (Xl (Ju 0 c.n K)) bm):=dD<|by
  have cf:(c.pt % 8).toNat=r:=Rr ar.out
  have cg:c.n.toNat=s:=Rr av.out
  have bi:=g.grown P (fun k H e=>by cases e;have a7:=(g.lt _ H).1;have a8:=A2.box.lt;omega)
  have cj:=(ba.aA Q).out (zk.grown P I);refine⟨0,c.n,K,_,V',m',rfl,.inr ⟨rfl,rfl,j,_,c3,rfl⟩,(bb.trans (zk.aA Q)).beyond P (Hm Z.out),zd (bj.trans Q) P (Hm bk.out),fun W d=>?_,fun _=>⟨(bl.aA Q).beside P (fun k e=>by cases e;have:=l.out;omega),fun W d=>(cj.out (d.wide fun k H=>Xu H b9)).at⟩⟩
  rw[cf,cg];exact zb.at (base:=a.heap.size) ⟨jm bi.1 d (fun bq bf e=>by have a7:=(bi.lt bq bf).1;have e:bq<w.heap.size:=e;have a8:=bb.size;omega),bi.2⟩
 have bz:Xo (zl bm (b+1) 54 [I6 0,I6 c.n,K.x]):=bo;refine⟨t.trans (zk.grown P rfl),?_⟩;simp only[Xw];refine wpAnyH_done Kr ?_ _
 clear bo P ah g Q t;go_wp2;refine bodyPost_ret (zE rfl _ rfl bz.box underlying54 rfl Kr) rfl a1.out
theorem zip {cs vs:List Int} {o:Nat} (h:o+vs.length<=cs.length):(splice cs o vs).length=cs.length:=by
 unfold splice;simp only[lA,Xs,Xz];omega
theorem zmL {a:Act} (w:Xn) (e:TypeId) (x:Operand) (h:o.op= .load e x) (b c:Nat) (j:a.eval x= Xj (Xa ⟨b,c,Xb⟩)) (vs:List Xq) (f:w.rangeAt b c vs) {d:TypeDesc} (i:Tryz.prog.underlying e=Xa d) (g:d.isRow=Xc) (hi:(Tryz.prog.info? e).map (·.size)=Xa vs.length):(execOp a.eval o).run prog w= .ok (.value (Xi vs.toArray)) w:=by
 have:=run_loadAt_mid (P:=prog) w b c e vs d f i g hi;simp only[execOp,h,j,Sem.run_bind,this,rA,Sem.run_pure]
def zh4 (m:Ma) (BF:Nat->Nat->Ar->Pg->Bool->Bool × Nat × Ma) (c:Cl) (ns:List Int) (er n:Int) (l:List Int) (m'':Ma):Prop:=
 l=[]/\((n=0/\zr2 m BF c (c.dv.n:Int) Xc er)\/(er=0/\n=(c.dv.n:Int)/\∃(kk:Nat) (m':Ma) (fr:Fr) (pg:Pg),zoE m BF c (c.dv.n:Int) Xc kk m' fr/\splice (pgL fr.p) (c.pt % 8).toNat ns=pgL pg/\m''={ m' with fs:=m'.fs.set kk { fr with p:=pg } }))
theorem zle {w:Xn} {p:Nat} (ap:ChW w0 noX p w V m) (c:Cl) (ns:List Int) (BF:Nat->Nat->Ar->Pg->Bool->Bool × Nat × Ma) (ae:-9223372036854775808<=c.pt) (a1:c.pt<=9223372036854775807) (bo:zj byE w0 (O c.dv.a c.dv.n c.dv.c) ns) (af:(c.dv.n:Int)<=9223372036854775807)
  (c2:∀W,zc w W->Xp prog 140 #[Xi #[O V.f.a V.f.n V.f.c,Xe Xf m.aB,O V.s.a V.s.n V.s.c,O V.sb.a V.sb.n V.sb.c,O V.sq.a V.sq.n V.sq.c,O V.db.a V.db.n V.db.c,O V.dq.a V.dq.n V.dq.c,O V.fl.a V.fl.n V.fl.c,Xe Xf m.cnt,O V.ca.a V.ca.n V.ca.c,O V.sp.a V.sp.n V.sp.c],Xe Xf c.aC,Xe Xf (c.pt / 8),Xh Xc] W fun e w'=>((∃U:Int,e= Xl (Xm #[Xi qj.toArray,Xe Xf 0,Xe Xf U])/\jO m BF c.aC (c.pt / 8) Xc U)\/(∃(V':MaV) (k cm:Nat) (m':Ma),e= Xl (Xm #[Xi #[O V'.f.a V'.f.n V'.f.c,Xe Xf m'.aB,O V'.s.a V'.s.n V'.s.c,O V'.sb.a V'.sb.n V'.sb.c,O V'.sq.a V'.sq.n V'.sq.c,O V'.db.a V'.db.n V'.db.c,O V'.dq.a V'.dq.n V'.dq.c,O V'.fl.a V'.fl.n V'.fl.c,Xe Xf m'.cnt,O V'.ca.a V'.ca.n V'.ca.c,O V'.sp.a V'.sp.n V'.sp.c],Xe Xf (k:Int),Xe Xf 0])/\zec m BF c.aC (c.pt / 8) Xc k m'/\ChW W noX cm w' V' m'))/\zc W w')
  (c1:∀(g:Nat) (m':Ma),zec m BF c.aC (c.pt / 8) Xc g m'->∃fr:Fr,m'.fs[g]? =Xa fr/\(fr.f=-1\/∃(aj:Nat) (fl:Fl),fr.f=(aj:Int)/\m'.fl[aj]? =Xa fl)/\0<=fr.x/\fr.x<1000):
  Xp prog 39 #[Xj (Xa ⟨p,0,Xb⟩),Xi #[Xe Xf c.kind,Xe Xf c.aC,Xe Xf c.pt,Xe Xf c.n,Xe Xf c.file,Xe Xf c.base,Xh c.rd,Xh c.wr,Xh c.sh,O c.dv.a c.dv.n c.dv.c]] w fun e w'=>Qh (zh4 m BF c ns) w0 p w e w':=by
 have ce:Xo (ChW w0 noX p w V m):=ap;have bc:Xo (p<w.heap.size):=ap.aM p (.inl rfl);obtain⟨d,a4⟩:=kA w.heap.size;obtain⟨ao,v⟩:=kB ((w.alloc (Xk #[Xe Xf c.kind,Xe Xf c.aC,Xe Xf c.pt,Xe Xf c.n,Xe Xf c.file,Xe Xf c.base,Xh c.rd,Xh c.wr,Xh c.sh,O c.dv.a c.dv.n c.dv.c] 25)).alloc (Xk #[Xe Xf 0,Xe Xf 0,O Xb 0 0] 54));have an:=gD2 v
 have bj:Xo (zl ao d 25 [Xe Xf c.kind,Xe Xf c.aC,Xe Xf c.pt,Xe Xf c.n,Xe Xf c.file,Xe Xf c.base,Xh c.rd,Xh c.wr,Xh c.sh,O c.dv.a c.dv.n c.dv.c]):=dD<|by rw[<-v];exact(zl.aE w [Xe Xf c.kind,Xe Xf c.aC,Xe Xf c.pt,Xe Xf c.n,Xe Xf c.file,Xe Xf c.base,Xh c.rd,Xh c.wr,Xh c.sh,O c.dv.a c.dv.n c.dv.c] _ a4.symm).aA (za _ _)
 have A1:Xo (zl ao (d+1) 54 [Xe Xf 0,Xe Xf 0,O Xb 0 0]):=dD<|by rw[<-v];exact zl.aE _ [Xe Xf 0,Xe Xf 0,O Xb 0 0] _ (by have:=a4.out;simp;omega)
 have ax:Xo (d+1<ao.heap.size):=A1.box.lt;have u:Xo (p<d):=show _<_ by have:=bc.out;have:=a4.out;omega
 have ba:Xo (w0.heap.size<=d):=dD<|by have:=ce.lo;have:=u.out;omega
 have bg:Xo (_=ao):=v;have ah:=zjY (ap.aA an) c (c.dv.n:Int) Xc BF ae a1 Wm af (fun W b=>c2 W (an.trans b)) c1
 have cb:Xo (c.pt<=9223372036854775807):=a1;clear v ap c2 c1 ae a1;clear af;have cc:Xo (zj byE w0 (O c.dv.a c.dv.n c.dv.c) ns):=bo;have a7:Xo (c.dv.n=ns.length):=bo.n;clear bo;have br:=bj.box.c 9 rfl
 go_enter func39,ntmps39
 go_upto_region 1 with fail;rw[bg.out,a4.out]
 go_wp2_with (first | refine zp rfl 25 (.tmp 3) rfl d rfl bj.box underlying25 rfl Kr ?_ | (go_at_call 81;refine ah.mono ?_))
 clear ah br;rintro e j ⟨k,U,rfl,ar,bz,bp⟩;have A2:Xo (zl j (d+1) 54 [Xe Xf 0,Xe Xf 0,O Xb 0 0]):=dD<|A1.aK ar (Hm u.out)
 have bk:Xo (zl j d 25 [Xe Xf c.kind,Xe Xf c.aC,Xe Xf c.pt,Xe Xf c.n,Xe Xf c.file,Xe Xf c.base,Xh c.rd,Xh c.wr,Xh c.sh,O c.dv.a c.dv.n c.dv.c]):=dD<|bj.aK ar (Hm u.out)
 have av:Xo (zc w0 j):=bz;have bt:Xo (zk (fun k=>k=p) w j):=show zk _ _ _ from(zk.aA an).trans ar
 clear ar bz
 rcases bp with a2|⟨rfl,g,m',fr,V',Y,rfl,aq,ag,c0,X⟩
 ·skip
  have a3:=a2.ne;have cq:(U != 0)=Xc:=by simp[a3]
  have ai:=jY U j;have b9:Xo _:=show zr2 _ _ _ _ _ _ from a2
  have bb:Xo (U≠0):=a3;clear a2 a3;go_wp2_with fail;refine ai.mono ?_;rintro e bv ⟨rfl,q⟩;have c8:=dD (A2.aA q);have ca:=dD (av.trans q);have ch:Xo (zc j bv):=q;clear ai q;unfold Ju noS
  go_wp2_with (refine zm rfl 54 (.tmp 4) (.tmp 20) rfl (d+1) rfl [Xe Xf U,Xe Xf 0,O Xb 0 0] rfl c8 rfl Kr (by simp[Value.oneCell']) ?_)
  intro z l bm _;have aw:Xo (zc w0 z):=dD<|zd ca bm (Hm ba.out)
  have au:Xo (zl z (d+1) 54 [Xe Xf U,Xe Xf 0,O Xb 0 0]):=l;have bi:Xo (zk (fun k=>k=p) w z):=show zk _ _ _ from(bt.trans (zk.aA ch)).beyond bm (Hm a4.out)
  clear l bm;go_wp2;refine bodyPost_ret (zE rfl _ rfl au.box underlying54 rfl Kr) rfl (Qh.err (V:=V) (m:=m) bb ⟨rfl,.inl ⟨rfl,b9⟩⟩ bi aw)
 have cd:Xo (zoE m BF c (c.dv.n:Int) Xc g m' fr):=aq;have bu:Xo (zl j p 88 (chL V' m')):=ag;have bh:Xo (zgm Y j V' m'):=X;have s:Xo (d+1<Y):=show _<_ by have:=ax.out;omega
 have ab:Xo (w.heap.size<=Y):=dD<|nT (bS an) c0
 have Z:Xo (m'.fs[g]? =Xa fr):=aq.2.2.1;have aa:Xo (0<=c.pt/\0<=(c.dv.n:Int)/\(c.dv.n:Int)<=8 - c.pt % 8):=show _/\_ from of_decide_eq_true aq.1
 clear aq ag c0 X;obtain⟨r,b8⟩:∃r:Nat,Xo (c.pt % 8=(r:Int)):=⟨(c.pt % 8).toNat,show _=_ by omega⟩
 have a0:Xo (r<8/\r+ns.length<=8):=dD<|by have a5:=aa.out;have bn:=b8.out;have cp:=a7.out;rw[bn]at a5;omega
 have bd:Xo (∀(o:Oper) (a:Act) (x:Operand) (w:Xn),o.op= .binOp .rem 3 x (.const (Xe Xf 8)) 3->a.eval x= Xe Xf c.pt->(execOp a.eval o).run prog w= .ok (.value (Xe Xf (r:Int))) w):=show∀(o:Oper) (a:Act) (x:Operand) (w:Xn),_ from fun o a x w a5 bn=>by rw[<-b8.out];exact zjE aa.1 o a x w a5 bn
 have bq:=(gS.1 Z).1;obtain⟨h,bl,y⟩:=bh.fs.aJ Wm
 have bx:j.cell? ⟨p,0,Xb⟩=Xa (O (Xa ⟨h,0,Xb⟩) m'.fs.length bl):=by rw[<-y];exact bu.box.c 0 rfl
 have H:Xo (zb qi Y j (O (Xa ⟨h,0,Xb⟩) m'.fs.length bl) m'.fs):=dD<|Ry y bh.fs
 have a8:Xo (O V'.f.a V'.f.n V'.f.c= O (Xa ⟨h,0,Xb⟩) m'.fs.length bl):=y;have az:Xo (oB V'.f h):=show oB _ _ by unfold oB;rw[y];rfl
 have t:Xo (Y<=h):=dD<|(H.lt h rfl).1
 have K:(g:Int)< (m'.fs.length:Int):=Wm
 obtain⟨co,ay⟩:=kA m'.fs.length;rw[ay.out]at H bx K a8;clear y bq;obtain⟨⟨A,B,C,D,l,n,F,G⟩,al,a6,ac,f,x⟩:=fr;obtain⟨L,M,N,P,Q,R,S,T,c4⟩:=zba (splice [A,B,C,D,l,n,F,G] r ns) (by have:=a0.out;rw[zip (by simp;omega)];rfl)
 have bs:Xo (splice [A,B,C,D,l,n,F,G] r ns=[L,M,N,P,Q,R,S,T]):=c4;clear c4;have be:Xo (∀W,zc j W->W.rangeAt h (g*13) [Xe Xg A,Xe Xg B,Xe Xg C,Xe Xg D,Xe Xg l,Xe Xg n,Xe Xg F,Xe Xg G]):=show∀W,_ from fun W b aj am c3=>(H.aA b).bH Z aj am (by
  have K:=(gS.1 c3).1
  show([Xe Xg A,Xe Xg B,Xe Xg C,Xe Xg D,Xe Xg l,Xe Xg n,Xe Xg F,Xe Xg G]++ [Xe Xf al,Xh a6,Xh ac,Xe Xf f,Xe Xf x])[aj]? =Xa am
  rw[Xt K];exact c3)
 have bf:Xo (∀W,zc j W->Xp prog 83 #[Xi #[Xe Xg A,Xe Xg B,Xe Xg C,Xe Xg D,Xe Xg l,Xe Xg n,Xe Xg F,Xe Xg G],Xe Xf (r:Int),O c.dv.a c.dv.n c.dv.c] W fun e w'=>e= Xl (Xi #[Xe Xg L,Xe Xg M,Xe Xg N,Xe Xg P,Xe Xg Q,Xe Xg R,Xe Xg S,Xe Xg T])/\zc W w'):=dD<|fun W b=>by
  have a5:=cc.aA (av.trans b);rw[a7.out]at a5⊢;exact Q3 A B C D l n F G L M N P Q R S T r ns c.dv.a c.dv.c W a0.1 a0.2 a5 bs.out
 go_upto_region 5 with fail;clear bx K;refine qw (I:=fun W=>zc j W) 13 [(10,fun am=>am= Xi #[Xe Xg L,Xe Xg M,Xe Xg N,Xe Xg P,Xe Xg Q,Xe Xg R,Xe Xg S,Xe Xg T])] (fun _=>True) (gW _) trivial zW Kr rfl rfl Dc (Sa ⟨_,rfl⟩) Kr ?_
 simp only[Yj,Yf];refine Zx (Xj (Xa ⟨h,g*13,Xb⟩)) rfl rfl (fun W b=>rfl) ?_
 refine Uq ?_;refine Zx (Xj (Xa ⟨h,g*13,Xb⟩)) rfl rfl (fun W b=>rfl) ?_
 refine Uq ?_;refine qG (.tmp 30) ⟨h,g*13,Xb⟩ rfl rfl rfl rfl ?_;refine Uq ?_;refine Zx (Xj (Xa ⟨h,g*13,Xb⟩)) rfl rfl (fun W b=>rfl) ?_
 refine Uq ?_;refine Zx (Xi #[Xe Xg A,Xe Xg B,Xe Xg C,Xe Xg D,Xe Xg l,Xe Xg n,Xe Xg F,Xe Xg G]) rfl rfl (fun W b=>zmL W 91 (.tmp 32) rfl h (g*13) rfl [Xe Xg A,Xe Xg B,Xe Xg C,Xe Xg D,Xe Xg l,Xe Xg n,Xe Xg F,Xe Xg G] (be W b) underlying91 rfl Kr) ?_
 refine Uq ?_;refine Zx (Xj (Xa ⟨d,2,Xb⟩)) rfl rfl (fun W b=>rfl) ?_
 refine Uq ?_;refine Zx (Xe Xf c.pt) rfl rfl (fun W b=>jP _ (.tmp 34) rfl ⟨d,2,Xb⟩ rfl (Xe Xf c.pt) ((bk.box.aA b).c 2 rfl) underlying3 rfl) ?_
 refine Uq ?_;refine Zx (Xe Xf (r:Int)) rfl rfl (fun W b=>bd.out _ _ _ W rfl rfl) ?_
 refine Uq ?_;refine Zx (Xj (Xa ⟨d,9,Xb⟩)) rfl rfl (fun W b=>rfl) ?_
 refine Uq ?_;refine Zx (O c.dv.a c.dv.n c.dv.c) rfl rfl (fun W b=>jP _ (.tmp 37) rfl ⟨d,9,Xb⟩ rfl (O c.dv.a c.dv.n c.dv.c) ((bk.box.aA b).c 9 rfl) underlying23 rfl) ?_
 refine Uq ?_;refine zV rfl rfl (fun _ _=>True) (fun W b _=>?_) (fun am cl=>?_)
 ·refine zP.call [Xi #[Xe Xg A,Xe Xg B,Xe Xg C,Xe Xg D,Xe Xg l,Xe Xg n,Xe Xg F,Xe Xg G],Xe Xf (r:Int),O c.dv.a c.dv.n c.dv.c] rfl func83 rfl rfl rfl ?_;refine(bf W b).mono ?_;rintro e cn ⟨rfl,ck⟩;exact⟨_,rfl,b.trans ck,rfl,trivial⟩
 subst cl;refine Uq ?_;refine qG (.tmp 29) ⟨h,g*13,Xb⟩ rfl rfl rfl rfl ?_;refine Uq ?_;refine Zx (Xj (Xa ⟨h,g*13,Xb⟩)) rfl rfl (fun W b=>rfl) ?_
 refine Uq ?_;refine jW fun bv q _=>?_
 refine zt (E:=qi) rfl (.tmp 41) (.tmp 39) 91 rfl Y _ m'.fs (H.aA q) h g 0 rfl ⟨⟨A,B,C,D,l,n,F,G⟩,al,a6,ac,f,x⟩ ⟨⟨L,M,N,P,Q,R,S,T⟩,al,a6,ac,f,x⟩ Z.out [Xe Xg L,Xe Xg M,Xe Xg N,Xe Xg P,Xe Xg Q,Xe Xg R,Xe Xg S,Xe Xg T] Kr rfl (Xv rfl) (by intro a6 c5;simp at c5;rcases c5 with rfl | rfl | rfl | rfl | rfl | rfl | rfl | rfl <;> rfl) ⟨h,g*13,Xb⟩ rfl rfl _ rfl rfl ?_
 intro z ak i _;have cf:Xo (zgm Y z V' { m' with fs:=m'.fs.set g ⟨⟨L,M,N,P,Q,R,S,T⟩,al,a6,ac,f,x⟩ }):=dD<|(bh.aA q).frame az i (Rx a8.out ak)
 have cg:Xo (zl z p 88 (chL V' { m' with fs:=m'.fs.set g ⟨⟨L,M,N,P,Q,R,S,T⟩,al,a6,ac,f,x⟩ })):=dD<|(bu.aA q).beside i (fun k e=>by cases e;have:=u.out;have:=s.out;have:=t.out;omega)
 have au:Xo (zl z (d+1) 54 [Xe Xf 0,Xe Xf 0,O Xb 0 0]):=dD<|(A2.aA q).beside i (fun k e=>by cases e;have:=s.out;have:=t.out;omega)
 have ci:Xo (zl z d 25 [Xe Xf c.kind,Xe Xf c.aC,Xe Xf c.pt,Xe Xf c.n,Xe Xf c.file,Xe Xf c.base,Xh c.rd,Xh c.wr,Xh c.sh,O c.dv.a c.dv.n c.dv.c]):=dD<|(bk.aA q).beside i (fun k e=>by cases e;have:=s.out;have:=t.out;omega)
 have aw:Xo (zc w0 z):=dD<|zd (av.trans q) i (by have:=ba.out;have:=s.out;have:=t.out;omega)
 have bi:Xo (zk (fun k=>k=p) w z):=dD<|(bt.trans (zk.aA q)).beyond i (by have:=ab.out;have:=t.out;omega)
 clear ak i q;try simp only[Xw]
 have br:=ci.box.c 9 rfl
 go_wp2_with (refine zm rfl 54 (.tmp 4) (.tmp 45) rfl (d+1) rfl [Xe Xf 0,Xe Xf (c.dv.n:Int),O Xb 0 0] rfl au rfl Kr (by simp[Value.oneCell']) ?_)
 intro bw n ad _;clear br;have c9:Xo (zl bw (d+1) 54 [Xe Xf 0,Xe Xf (c.dv.n:Int),O Xb 0 0]):=n;have a9:Xo (Qh (zh4 m BF c ns) w0 p w (Xl (Ju 0 (c.dv.n:Int) noS)) bw):=show Qh _ _ _ _ _ _ from by
  have cj:(c.pt % 8).toNat=r:=Rr b8.out
  refine Qh.ok (V':=V') ⟨rfl,.inr ⟨rfl,rfl,g,m',_,⟨L,M,N,P,Q,R,S,T⟩,cd,Rx cj bs,rfl⟩⟩ (bi.beyond ad (Hm a4.out)) (zd aw ad (Hm ba.out)) (cg.beside ad (fun k e=>by cases e;have:=u.out;omega)) fun W b=>?_
  exact((cf.out.out (zk.grown ad s)).out (b.wide fun k bp=>Xu bp ab)).at
 clear n ad;go_wp2;refine bodyPost_ret (zE rfl _ rfl c9.box underlying54 rfl Kr) rfl a9.out
variable{X:Nat->Prop}
theorem ziu {w:Xn} {p:Nat} (j:ChW w0 X p w V m) (pg:List Int) (hp:pg.length=8) (fi ix:Int):
  Xp prog 157 #[Xj (Xa ⟨p,0,Xb⟩),Xi (pgc pg).toArray,I6 fi,I6 ix] w fun e w'=>e= Xl (I6 (if Zh m.fl m.cnt fi ix=0 then 0 else 10))/\Chg w0 X p w V (wrM m pg fi ix) w':=by
 obtain⟨q,a⟩:=kB (w.alloc (Xk (pgc pg).toArray 91));have f:=gA a
 obtain⟨s,g⟩:=kA w.heap.size;have h:=xPT a g
 have b:=JZ (j.aA f) pg hp fi ix;obtain⟨i,c⟩:=kA (decide (Zh m.fl m.cnt fi ix=0));rw[c.out]at b;have n:Xo ((if Zh m.fl m.cnt fi ix=0 then(0:Int)else 10)=if i=Xc then 0 else 10):=dD<|by rw[<-c.out];simp
 rw[n.out];have d:Xo (_=q):=a;clear a j;obtain⟨t,u,v,x,y,z,A,B,rfl⟩:=zba pg hp;simp only[pgc,Oc]at b d h⊢
 go_enter func157,ntmps157
 go_upto_region 1 with fail;rw[d.out,g.out]
 go_wp2_with (first | refine zp rfl 91 (.tmp 5) rfl s rfl h.box underlying91 rfl Kr ?_ | (go_at_call 194;refine b.mono ?_))
 clear b;rintro e r ⟨rfl,k⟩;have l:Xo (Chg w0 X p w V _ r):=dD<|Chg.aI f k.bW
 clear k;cases i
 all_goals
  go_wp2;go_ret;exact⟨rfl,l⟩
theorem zfM {w:Xn} {p:Nat} (v:ChW w0 X p w V m) (j:Rt m) (fi ix:Nat) (hi:ix<100):
  Xp prog 154 #[Xj (Xa ⟨p,0,Xb⟩),I6 (fi:Int),I6 (ix:Int)] w fun e w'=>(∃(k:Nat) (b:Bool),e= Xl (Xm #[I6 (k:Int),Xh b])/\((b=Xd/\zcb m (fi:Int) (ix:Int)=Xb)\/(b=Xc/\∃(c:Ca) (fr:Fr),zcb m (fi:Int) (ix:Int)=Xa c/\c∈m.ca/\c.fr=(k:Int)/\c.file=(fi:Int)/\c.idx=(ix:Int)/\m.fs[k]? =Xa fr/\fr.r≠0)))/\zc w w':=by
 obtain⟨g,h,n⟩:=j.cache;refine(zhK v g h n (fi:Int) (ix:Int) Wm).mono ?_
 rintro e w' ⟨y,u⟩;refine⟨?_,u⟩
 rcases y with⟨a,rfl⟩|⟨a,x⟩
 ·exact⟨0,Xd,rfl,.inl ⟨rfl,znt a⟩⟩
 obtain⟨c,d⟩:∃c,m.ca[zcX m.ca ⟨(fi:Int),(ix:Int),0⟩]? =Xa c:=⟨_,gE (ziw a)⟩;have f:=mG d;have l:zcb m (fi:Int) (ix:Int)=Xa c:=(zj9 g a).trans d;have z:=List.find?_some l;obtain⟨q,r⟩:=zfL (h c f) (show 0<=(ix:Int)/\(ix:Int)<100 by omega) (Si z)
 obtain⟨k,fr,i,s,t,_⟩:=qU j f;rw[x c d,i];exact⟨k,Xc,rfl,.inr ⟨rfl,c,fr,l,f,i,q,r,s,t⟩⟩
theorem zn1 {w0 w:Xn} {p:Nat} {V:MaV} {m:Ma} (h:ChW w0 X p w V m) (hR:Rt m) (fi ix i:Nat) (F:Fl) (hF:m.fl[fi]? =Xa F) (hx:ix<F.bl.length) (ns:List Int) (a:Option Addr) (cap:Nat) (hD:zj byE w0 (O a ns.length cap) ns) (hi:i<8) (hl:i+ns.length<=8):
  Xp Tryz.prog 93 #[Xj (Xa ⟨p,0,Xb⟩),Xe Xf (fi:Int),Xe Xf (ix:Int),Xe Xf (i:Int),O a ns.length cap] w fun e w'=>e= Xl (Xe Xf (if(zgT m fi ix i ns).1=Xc then 0 else 10))/\Chg w0 X p w V (zgT m fi ix i ns).2 w':=by
 obtain⟨bk,hbk⟩:∃bk,F.bl[ix]? =Xa bk:=⟨_,gE hx⟩;obtain⟨g5,g96,g12⟩:=jp hR hF;have hix:ix<12:=Wm
 have hcc:=zfM h hR fi ix Wm
 have hdl:=Qa h.at.db.2.1 h.at.dq.2.1 (fi:Int) (ix:Int);have HST:Xo (∀W,zc w W->Xp Tryz.prog 155 #[Xi #[O V.f.a V.f.n V.f.c,Xe Xf m.aB,O V.s.a V.s.n V.s.c,O V.sb.a V.sb.n V.sb.c,O V.sq.a V.sq.n V.sq.c,O V.db.a V.db.n V.db.c,O V.dq.a V.dq.n V.dq.c,O V.fl.a V.fl.n V.fl.c,Xe Xf m.cnt,O V.ca.a V.ca.n V.ca.c,O V.sp.a V.sp.n V.sp.c],Xe Xf (fi:Int),Xe Xf (ix:Int)] W fun e w'=>e= Xl (Xi (pgc (z9 m fi ix)).toArray)/\zc W w'):=show∀W,_ from fun W hW=>(zaO V m fi ix F bk W (h.at.aA hW) hF hbk Wm Wm).mono fun e w' q=>⟨q.1,q.2.2⟩
 have HFE:Xo (∀W,zc w W->Xp Tryz.prog 156 #[Xj (Xa ⟨p,0,Xb⟩),Xi (pgc (z9 m fi ix)).toArray,Xe Xf (fi:Int),Xe Xf (ix:Int),O Xb 0 0] W fun e w'=>e= Xl (Xm #[Xe Xf ((jq m (zcJ (z9 m fi ix)) (fi:Int) (ix:Int) []).2.1:Int),Xe Xf (if(jq m (zcJ (z9 m fi ix)) (fi:Int) (ix:Int) []).1=Xc then 0 else 10)])/\Chg w0 X p W V (jq m (zcJ (z9 m fi ix)) (fi:Int) (ix:Int) []).2.2 w'):=show∀W,_ from fun W hW=>by
  have hpg:pgc (z9 m fi ix)=pgc (pgL (zcJ (z9 m fi ix))):=by rw[zgZ hdl]
  rw[hpg];exact zi6 (h.aA hW) hR (zcJ (z9 m fi ix)) fi ix (ziX (.inr ⟨Wm,Wm,Wm,Wm⟩)) Wm (O Xb 0 0) [] (fun W' _=>zj.nil zaD W') (fun x hx=>nomatch hx) Sm (fun _ W1 V1 hc hv=>zlK hc hR (O Xb 0 0) [] hv)
 obtain⟨PR,HPR⟩:∃PR,Xo (zgT m fi ix i ns=PR):=⟨_,rfl⟩;have HK1:Xo (∀c,zcb m (fi:Int) (ix:Int)=Xa c->PR=(Xc,znq m c.fr.toNat i ns)):=show∀c,_ from fun c hc=>by
  rw[<-HPR.out];unfold zgT;rw[hc]
 obtain⟨FR,HFR⟩:∃FR,Xo (jq m (zcJ (z9 m fi ix)) (fi:Int) (ix:Int) []=FR):=⟨_,rfl⟩;have HK2:Xo (zcb m (fi:Int) (ix:Int)=Xb->PR=if FR.1=Xc then(Xc,znq FR.2.2 FR.2.1 i ns)else(decide (Zh FR.2.2.fl FR.2.2.cnt fi ix=0),wrM FR.2.2 (splice (z9 m fi ix) i ns) fi ix)):=show _->_ from fun hc=>by
  rw[<-HPR.out,<-HFR.out];unfold zgT;rw[hc]
 have HFS:Xo (FR.1=Xc->∃fr,FR.2.2.fs[FR.2.1]? =Xa fr):=show _->_ from fun h1=>by
  rw[<-HFR.out]at h1⊢;exact zi4 hR h1
 rw[HFR.out]at HFE;rw[HPR.out];obtain⟨eA,HEA⟩:∃eA:Int,Xo ((if PR.1=Xc then(0:Int)else 10)=eA):=⟨_,rfl⟩;rw[HEA.out];clear HFR HPR;obtain⟨p0,p1,p2,p3,p4,p5,p6,p7,hpl⟩:=zba (z9 m fi ix) hdl;rw[hpl]at HST HFE HK2;have HSP:Xo ((splice [p0,p1,p2,p3,p4,p5,p6,p7] i ns).length=8):=show _=_ from zfv rfl hl
 obtain⟨s0,s1,s2,s3,s4,s5,s6,s7,hsl⟩:=zba (splice [p0,p1,p2,p3,p4,p5,p6,p7] i ns) HSP.out;rw[hsl]at HK2;have HSQ:Xo (∀W,zc w0 W->Xp Tryz.prog 83 #[Xi #[Xe Xg p0,Xe Xg p1,Xe Xg p2,Xe Xg p3,Xe Xg p4,Xe Xg p5,Xe Xg p6,Xe Xg p7],Xe Xf (i:Int),O a ns.length cap] W fun e w'=>e= Xl (Xi #[Xe Xg s0,Xe Xg s1,Xe Xg s2,Xe Xg s3,Xe Xg s4,Xe Xg s5,Xe Xg s6,Xe Xg s7])/\zc W w'):=show∀W,_ from fun W hW=>Q3 p0 p1 p2 p3 p4 p5 p6 p7 s0 s1 s2 s3 s4 s5 s6 s7 i ns a cap W hi hl (hD.aA hW) hsl
 simp only[pgc,Oc]at HST HFE;have HM:Xo (ChW w0 X p w V m):=h;have HDD:Xo (zj byE w0 (O a ns.length cap) ns):=hD;have HIL:Xo (i<8/\i+ns.length<=8):=⟨hi,hl⟩;clear h hR hF hbk hx hD hi hl g5 g96 g12 hix hdl hpl hsl HSP
 go_enter Tryz.func93,Tryz.ntmps93
 go_wp2_with fail;refine hcc.mono ?_;clear hcc;rintro e W1 ⟨⟨k0,hb,rfl,hk⟩,g1⟩;have G1:Xo (zc w W1):=g1;have M1:=dD (HM.out.aA g1);have HKK:Xo _:=show((hb=Xd/\zcb m (fi:Int) (ix:Int)=Xb)\/(hb=Xc/\_))from hk
 clear hk g1
 go_upto_if 24 with fail
 go_cut [11] (fun s11 wx=>∃(k:Nat) (V2:MaV) (m2:Ma) (fr:Fr),s11= Xe Xf (k:Int)/\Xo (ChW w0 X p wx V2 m2)/\Xo (zk (Dw p V) w wx)/\Xo (∀k,Dw p V2 k->Dw p V k\/w.heap.size<=k)/\Xo (m2.fs[k]? =Xa fr)/\Xo (PR=(Xc,znq m2 k i ns)))
 case first=>
  cases hb with
  | true=>
   obtain⟨_,c,fr,e1,e2,e3,e4,e5,e6,e7⟩:=HKK.out.resolve_left (fun h=>nomatch h.1)
   have HP:Xo (PR=(Xc,znq m k0 i ns)):=show _=_ by rw[HK1.out c e1,e3,tN]
   have HE6:Xo (m.fs[k0]? =Xa fr):=e6;have O1:Xo (zk (Dw p V) w W1):=zk.aA G1.out;clear e1 e2 e3 e4 e5 e6 e7;go_wp2
   go_meet
   exact⟨k0,V,m,fr,rfl,M1,O1,fun _ h=> .inl h,HE6,HP⟩
  | false=>
   have HKN:=HK2.out (HKK.out.resolve_right (fun h=>nomatch h.1)).2
   have HK3:Xo (PR=_):=show PR=_ from HKN
   clear HKN HKK HK1 HK2;have hst:=HST.out W1 G1.out;have HSJ:Xo ((Tryz.prog.info? 45).map (·.size)=Xa (chL V m).length):=show _=_ by kernel_rfl
   go_upto_region 5 with(first | refine zp rfl 45 (.tmp 27) rfl p rfl M1.out.box.box Tryz.underlying45 rfl HSJ.out ?_ | (go_at_call 155;refine hst.mono ?_))
   clear hst HSJ;rintro e W2 ⟨rfl,g2⟩;obtain⟨pb,HPB⟩:∃pb,Xo (W2.heap.size=pb):=⟨_,rfl⟩;have G2:Xo (zc W1 W2):=g2;clear g2
   go_upto_region 5 with(refine zm rfl 91 (.tmp 14) (.tmp 31) rfl W2.heap.size rfl [Xe Xg p0,Xe Xg p1,Xe Xg p2,Xe Xg p3,Xe Xg p4,Xe Xg p5,Xe Xg p6,Xe Xg p7] rfl (zl.aE W2 [Xe Xg 0,Xe Xg 0,Xe Xg 0,Xe Xg 0,Xe Xg 0,Xe Xg 0,Xe Xg 0,Xe Xg 0] _ rfl) rfl Kr (by simp[Value.oneCell']) ?_)
   intro W3 b3 g3 _;have g23:zc W2 W3:=zd (za _ _) g3 (nR _);have P3:Xo (zl W3 pb 91 [Xe Xg p0,Xe Xg p1,Xe Xg p2,Xe Xg p3,Xe Xg p4,Xe Xg p5,Xe Xg p6,Xe Xg p7]):=show zl _ _ _ _ by rw[<-HPB.out];exact b3
   have G3:Xo (zc w W3):=show zc _ _ from G1.out.trans (G2.out.trans g23)
   have HNP:Xo (¬Dw p V pb):=show¬_ from fun e=>by have:=M1.out.aM pb e;have:=bS G2.out;have:=HPB.out;omega
   have HPL:Xo (w.heap.size<=pb):=show _<=_ by have:=bS (G1.out.trans G2.out);have:=HPB.out;omega
   rw[HPB.out];clear b3 g3 g23 G1 G2;have hfe:=HFE.out W3 G3.out;obtain⟨fb,fk,fm⟩:=FR;simp only at hfe HK3 HFS;obtain⟨er,HER⟩:∃er:Int,Xo ((if fb=Xc then(0:Int)else 10)=er):=⟨_,rfl⟩;rw[HER.out]at hfe;try simp only[Xw]
   go_wp2_with (first | refine zp rfl 91 (.tmp 14) rfl pb rfl P3.out.box Tryz.underlying91 rfl Kr ?_ | (go_at_call 156;refine hfe.mono ?_))
   clear hfe;rintro e W4 rfl h4;obtain⟨V4,m4,o4,d4⟩:=h4;have P4:Xo (zl W4 pb 91 [Xe Xg p0,Xe Xg p1,Xe Xg p2,Xe Xg p3,Xe Xg p4,Xe Xg p5,Xe Xg p6,Xe Xg p7]):=show zl _ _ _ _ from P3.out.aK o4 HNP.out
   have M4:Xo (ChW w0 X p W4 V4 fm):=m4;have O4:Xo (zk (Dw p V) w W4):=(zk.aA G3.out).trans o4;have D4:Xo (∀k,Dw p V4 k->Dw p V k\/w.heap.size<=k):=Chg.far G3.out d4;clear m4 o4 d4 P3 G3 HFE HST
   cases fb with
   | true=>
    obtain rfl:er=0:=HER.out.symm;obtain⟨fr,hfr⟩:=HFS.out rfl;have HE6:Xo (fm.fs[fk]? =Xa fr):=hfr;have HP:Xo (PR=(Xc,znq fm fk i ns)):=show _=_ by rw[HK3.out];rfl
    clear hfr HK3;go_wp2
    go_meet
    exact⟨fk,V4,fm,fr,rfl,M4,O4,D4,HE6,HP⟩
   | false=>
    obtain rfl:er=10:=HER.out.symm;have hsq:=HSQ.out W4 M4.out.gr;have HP:Xo (PR=_):=show PR=_ from HK3.out
    clear HK3
    go_wp2_with (first | refine zp rfl 91 (.tmp 14) rfl pb rfl P4.out.box Tryz.underlying91 rfl Kr ?_ | (go_at_call 83;refine hsq.mono ?_))
    clear hsq;rintro e W5 ⟨rfl,g5⟩;have M5:=dD (M4.out.aA g5);have O5:=dD (O4.out.trans (zk.aA g5));have D5:Xo (∀k,Dw p V4 k->Dw p V k\/w.heap.size<=k):=D4.out;clear g5 M4 P4 O4 D4;have hpd:=ziu M5.out [s0,s1,s2,s3,s4,s5,s6,s7] rfl (fi:Int) (ix:Int);simp only[pgc,Oc]at hpd;have HRE:Xo ((if Zh fm.fl fm.cnt (fi:Int) (ix:Int)=0 then(0:Int)else 10)=if PR.1=Xc then 0 else 10):=show _=_ by rw[HP.out];simp
    rw[HRE.out]at hpd;rw[HEA.out]at hpd;clear HRE
    go_wp2_with (go_at_call 157;refine hpd.mono ?_)
    clear hpd;rintro e W6 ⟨rfl,h6⟩;have HFIN:Xo (Chg w0 X p w V PR.2 W6):=show Chg _ _ _ _ _ _ _ by rw[HP.out];exact Chg.step O5.out D5.out h6
    clear h6 HP;go_wp2;go_ret;exact⟨rfl,HFIN.out⟩
 obtain⟨k,V4,m2,fr,rfl,M4,O4,D4,HFR,HP⟩:=hcut;clear HKK HK1 HK2 HST HFE HSQ HFS G1 M1;have hkl:=(gS.1 HFR.out).1;obtain⟨g7,c7,heq⟩:=M4.out.fs.aJ Wm
 obtain⟨fn,HFN⟩:∃fn,Xo (m2.fs.length=fn):=⟨_,rfl⟩;have hlt:(k:Int)< (fn:Int):=Hm HFN.out
 rw[HFN.out]at heq;have f0:wc.cell? ⟨p,0,Xb⟩=Xa (O (Xa ⟨g7,0,Xb⟩) fn c7):=by rw[<-heq];exact M4.out.box.box.c 0 rfl
 have HFO:Xo (zb qi w0.heap.size wc (O (Xa ⟨g7,0,Xb⟩) fn c7) m2.fs):=show zb _ _ _ _ _ by rw[<-heq];exact M4.out.fs
 have HEQ:Xo (O V4.f.a V4.f.n V4.f.c= O (Xa ⟨g7,0,Xb⟩) fn c7):=heq;have HG7:Xo (oB V4.f g7):=show oB _ _ by unfold oB;rw[heq];rfl
 clear heq hkl;obtain⟨⟨b0,b1,b2,b3,b4,b5,b6,b7⟩,r,u,d,f,x⟩:=fr;obtain⟨q0,q1,q2,q3,q4,q5,q6,q7,hq⟩:=zba (splice [b0,b1,b2,b3,b4,b5,b6,b7] i ns) (zfv rfl HIL.out.2);have HPM:Xo (PR=(Xc,{ m2 with fs:=m2.fs.set k ⟨⟨q0,q1,q2,q3,q4,q5,q6,q7⟩,r,Xc,Xc,f,x⟩ })):=show _=_ by
  rw[HP.out];unfold znq;rw[zT HFR.out]
  show(Xc,({ m2 with fs:=m2.fs.set k ⟨zcJ (splice [b0,b1,b2,b3,b4,b5,b6,b7] i ns),r,Xc,Xc,f,x⟩ }:Ma))=_
  rw[hq];rfl
 have hse:=Q3 b0 b1 b2 b3 b4 b5 b6 b7 q0 q1 q2 q3 q4 q5 q6 q7 i ns a cap wc HIL.out.1 HIL.out.2 (HDD.out.aA M4.out.gr) hq;have HRG:Xo (wc.rangeAt g7 (k*13) [Xe Xg b0,Xe Xg b1,Xe Xg b2,Xe Xg b3,Xe Xg b4,Xe Xg b5,Xe Xg b6,Xe Xg b7]):=show World.rangeAt _ _ _ _ from fun j v hj=>HFO.out.bH HFR.out j v (by
  have hlt:=(gS.1 hj).1
  show([Xe Xg b0,Xe Xg b1,Xe Xg b2,Xe Xg b3,Xe Xg b4,Xe Xg b5,Xe Xg b6,Xe Xg b7]++ [Xe Xf r,Xh u,Xh d,Xe Xf f,Xe Xf x])[j]? =Xa v
  rw[Xt hlt];exact hj)
 clear hq HP;go_upto_region 9 with fail;clear f0
 go_wp2_with (first | refine wpList_load_mid rfl 91 (.tmp 61) rfl g7 (k*13) rfl [Xe Xg b0,Xe Xg b1,Xe Xg b2,Xe Xg b3,Xe Xg b4,Xe Xg b5,Xe Xg b6,Xe Xg b7] _ HRG.out Tryz.underlying91 rfl Kr ?_ | (go_at_call 83;refine hse.mono ?_))
 clear hse;rintro e W5 ⟨rfl,g5⟩;have G5:Xo (zc wc W5):=g5;have R5:=dD (HFO.out.aA g5);clear g5 HRG HFO
 go_wp2_with (refine zt (E:=qi) rfl (.tmp 67) (.tmp 65) 91 rfl w0.heap.size _ m2.fs R5.out g7 k 0 rfl ⟨⟨b0,b1,b2,b3,b4,b5,b6,b7⟩,r,u,d,f,x⟩ ⟨⟨q0,q1,q2,q3,q4,q5,q6,q7⟩,r,u,d,f,x⟩ HFR.out [Xe Xg q0,Xe Xg q1,Xe Xg q2,Xe Xg q3,Xe Xg q4,Xe Xg q5,Xe Xg q6,Xe Xg q7] Kr rfl (Xv rfl) (by intro u hu;simp at hu;rcases hu with rfl | rfl | rfl | rfl | rfl | rfl | rfl | rfl <;> rfl) ⟨g7,k*13,Xb⟩ rfl rfl _ rfl rfl ?_)
 intro W6 ow6 gr6 _;have HK6:Xo ((m2.fs.set k ⟨⟨q0,q1,q2,q3,q4,q5,q6,q7⟩,r,u,d,f,x⟩)[k]? =Xa ⟨⟨q0,q1,q2,q3,q4,q5,q6,q7⟩,r,u,d,f,x⟩):=show _=_ from sF (gS.1 HFR.out).1
 have R6:Xo (zb qi w0.heap.size W6 (O (Xa ⟨g7,0,Xb⟩) fn c7) (m2.fs.set k ⟨⟨q0,q1,q2,q3,q4,q5,q6,q7⟩,r,u,d,f,x⟩)):=ow6;have E6:Xo (W5.grownBy W6 (Xa g7)):=gr6;clear ow6 gr6 R5;try simp only[Xw]
 go_wp2_with (refine zt (E:=qi) rfl (.tmp 71) (.const (Xh Xc)) 4 rfl w0.heap.size _ (m2.fs.set k ⟨⟨q0,q1,q2,q3,q4,q5,q6,q7⟩,r,u,d,f,x⟩) R6.out g7 k 9 rfl ⟨⟨q0,q1,q2,q3,q4,q5,q6,q7⟩,r,u,d,f,x⟩ ⟨⟨q0,q1,q2,q3,q4,q5,q6,q7⟩,r,Xc,d,f,x⟩ HK6.out [Xh Xc] Kr rfl (Xv rfl) (by intro u hu;simp at hu;subst hu;rfl) ⟨g7,k*13+9,Xb⟩ rfl rfl _ rfl rfl ?_)
 intro W7 ow7 gr7 _;try rw[Yy]at ow7
 have HK7:Xo ((m2.fs.set k ⟨⟨q0,q1,q2,q3,q4,q5,q6,q7⟩,r,Xc,d,f,x⟩)[k]? =Xa ⟨⟨q0,q1,q2,q3,q4,q5,q6,q7⟩,r,Xc,d,f,x⟩):=show _=_ from sF (gS.1 HFR.out).1
 have R7:Xo (zb qi w0.heap.size W7 (O (Xa ⟨g7,0,Xb⟩) fn c7) (m2.fs.set k ⟨⟨q0,q1,q2,q3,q4,q5,q6,q7⟩,r,Xc,d,f,x⟩)):=ow7;have E7:Xo (W5.grownBy W7 (Xa g7)):=show World.grownBy _ _ _ from qM E6.out gr7
 clear ow7 gr7 R6 E6;try simp only[Xw]
 go_wp2_with (refine zt (E:=qi) rfl (.tmp 73) (.const (Xh Xc)) 4 rfl w0.heap.size _ (m2.fs.set k ⟨⟨q0,q1,q2,q3,q4,q5,q6,q7⟩,r,Xc,d,f,x⟩) R7.out g7 k 10 rfl ⟨⟨q0,q1,q2,q3,q4,q5,q6,q7⟩,r,Xc,d,f,x⟩ ⟨⟨q0,q1,q2,q3,q4,q5,q6,q7⟩,r,Xc,Xc,f,x⟩ HK7.out [Xh Xc] Kr rfl (Xv rfl) (by intro u hu;simp at hu;subst hu;rfl) ⟨g7,k*13+10,Xb⟩ rfl rfl _ rfl rfl ?_)
 intro W8 ow8 gr8 _;try rw[Yy]at ow8
 have HFIN:Xo (Chg w0 X p w V PR.2 W8):=show Chg _ _ _ _ _ _ _ by
  have h1:=(M4.out.aA G5.out).frame HG7.out (qM E7.out gr8) (Rx HEQ.out ow8)
  rw[HPM.out];exact Chg.step O4.out D4.out (Chg.aI G5.out h1)
 have HP1:Xo (PR.1=Xc):=show _=_ by rw[HPM.out]
 clear ow8 gr8 R7 E7 M4 O4 D4 G5 HPM;try simp only[Xw]
 go_wp2;go_ret;exact⟨by rw[<-HEA.out,if_pos HP1.out];rfl,HFIN.out⟩
variable{X:Nat->Prop}
def zbX (n:Int) (l:List Int):Bool:=decide (qJ l 0 n≠l)
def zcL (m:Ma) (b n:Int):Bool:=zbX n (m.db.getD b.toNat []) || m.dq.any fun q=>decide (q.1=b) && zbX n q.2
theorem zht (l:List Int) (m:l.length=8) (n:Int) (a6:0<=n/\n<=8) (g:Nat) (w:Xn) (Z:Box w g [I6 n]):
  Xp prog 208 #[Xi (pgc l).toArray,Xj (Xa ⟨g,0,Xb⟩)] w fun e w'=>e= Xl (Xh (zbX n l))/\zc w w':=by
 have d:Xo (∀W,Xp prog 182 #[Xi (pgc l).toArray,I6 n] W fun e w'=>e= Xl (Xi (pgc (qJ l 0 n)).toArray)/\zc W w'):=dD<|fun W=>(Z5 l n W m Wm Wm).mono fun e w' I=>⟨I.1,I.2.2⟩
 have i:(qJ l 0 n).length=8:=by unfold qJ;simp[m]
 obtain⟨N,h⟩:=kA (decide (qJ l 0 n=l));have a2:Xo (zbX n l=!N):=dD<|by rw[<-h.out];unfold zbX;simp
 rw[a2.out];obtain⟨P,Q,R,S,T,U,V,X,f⟩:=zba _ i;obtain⟨q,r,s,t,u,v,x,z,rfl⟩:=zba l m;have a7:∀W,(Op.equalIn 10000 91 (Xi #[U8 q,U8 r,U8 s,U8 t,U8 u,U8 v,U8 x,U8 z]) (Xi #[U8 P,U8 Q,U8 R,U8 S,U8 T,U8 U,U8 V,U8 X])).run prog W= .ok N W:=fun W=>by
  rw[ziA,<-f,<-h.out]
  congr 1
  exact decide_eq_decide.2 ⟨fun e=>e.symm,fun e=>e.symm⟩
 rw[f]at d;simp only[pgc,mP,Yb]at d⊢;clear m i f a6;obtain⟨ac,M⟩:=kA w.heap.size;obtain⟨a,b⟩:=kB (w.alloc (Xk #[U8 q,U8 r,U8 s,U8 t,U8 u,U8 v,U8 x,U8 z] 91));have L:=gA b
 have c:=xP b M
 have a4:Xo (Box a g [I6 n]):=Z.aA L.out;have p:Xo (_=a):=b;clear b Z
 go_enter func208,ntmps208
 go_upto_region 1 with fail;rw[p.out,M.out];have B:=fun y:zf a=>(c.aA y.aA).c 0 rfl
 have C:=fun y:zf a=>(c.aA y.aA).c 1 rfl
 have D:=fun y:zf a=>(c.aA y.aA).c 2 rfl
 have E:=fun y:zf a=>(c.aA y.aA).c 3 rfl
 have F:=fun y:zf a=>(c.aA y.aA).c 4 rfl
 have G:=fun y:zf a=>(c.aA y.aA).c 5 rfl
 have H:=fun y:zf a=>(c.aA y.aA).c 6 rfl
 have K:=fun y:zf a=>(c.aA y.aA).c 7 rfl
 have a9:=fun y:zf a=>(a4.aA y.aA).c 0 rfl
 have A:Nonempty (zf a):=⟨⟨_,zc.refl _⟩⟩;refine qx [(3,⟨fun a0=>a0= Xi #[U8 P,U8 Q,U8 R,U8 S,U8 T,U8 U,U8 V,U8 X],fun a0 w'=>True⟩)] zW Kr (Sa ⟨_,rfl⟩) ?hp ?_
 case hp=>
  intro ab j;simp only[mC,nM,or_false]at j;subst j;exact fun _ _ _ _ a5=>a5
 iterate 3 refine ze ?_
 refine zx rfl rfl (fun w' ad Y=>?_) (fun ae a8=>?_)
 ·refine zP.call [Xi #[U8 q,U8 r,U8 s,U8 t,U8 u,U8 v,U8 x,U8 z],I6 n] rfl func182 rfl rfl rfl ?_;refine(d w').mono ?_;rintro e aa ⟨rfl,k⟩;exact⟨_,rfl,k,rfl,trivial⟩
 subst a8;refine Uq ?_;iterate 2 refine ze ?_
 refine zL fun a3 k Y=>?_
 have a1:Xo (zc a a3):=k;clear k Y A B C D E F G H K a9;go_wp2;go_ret;exact⟨rfl,L.trans a1⟩
theorem zny (a:Int) (l:List Int) (p:l.length=8) (n b:Int) (x:0<=n/\n<=8) (g v gf:Nat) (w:Xn) (A:Box w g [I6 n]) (y:Box w v [I6 b]) (z:Box w gf [.func (.func 208) #[] #[Xj (Xa ⟨g,0,Xb⟩)]]):
  Xp prog 209 #[Xi (I6 a :: pgc l).toArray,Xj (Xa ⟨v,0,Xb⟩),Xj (Xa ⟨gf,0,Xb⟩)] w fun e w'=>e= Xl (Xh (decide (a=b) && zbX n l))/\zc w w':=by
 have i:Xo (∀W,zc w W->Xp prog 208 #[Xi (pgc l).toArray,Xj (Xa ⟨g,0,Xb⟩)] W fun e w'=>e= Xl (Xh (zbX n l))/\zc W w'):=dD<|fun W M=>zht l p n x g W (A.aA M)
 obtain⟨q,j⟩:=kA (zbX n l);rw[j.out]at i⊢;obtain⟨s,f⟩:=kA (decide (a=b) && q);rw[f.out];obtain⟨C,D,E,F,G,H,K,L,rfl⟩:=zba l p;simp only[pgc,mP,Yb]at i⊢;clear p x A;obtain⟨a1,r⟩:=kA w.heap.size;obtain⟨t,d⟩:=kB (w.alloc (Xk #[I6 a,U8 C,U8 D,U8 E,U8 F,U8 G,U8 H,U8 K,U8 L] 117));have h:=gA d
 have c:=xP d r
 have N:=c.c 0 rfl;have P:=c.c 1 rfl;have Q:=c.c 2 rfl;have R:=c.c 3 rfl;have S:=c.c 4 rfl;have T:=c.c 5 rfl;have U:=c.c 6 rfl;have V:=c.c 7 rfl;have X:=c.c 8 rfl;have Y:=(y.aA h).c 0 rfl;have Z:=(z.aA h).c 0 rfl;have m:Xo (_=t):=d;clear d y z
 go_enter func209,ntmps209
 go_upto_region 1 with fail;rw[m.out,r.out]
 by_cases e:a=b
 ·subst e;have k:Xo (s=q):=dD<|by rw[<-f.out];simp
  go_wp2_with fail;refine(i t h).mono ?_;clear N P Q R S T U V X Y Z;rintro e I ⟨rfl,u⟩;have B:=dD (h.trans u);clear u;go_wp2;go_ret;exact⟨Rr k.out,B⟩
 have a0:(a == b)=Xd:=by simp[e]
 have k:Xo (s=Xd):=dD<|by rw[<-f.out,decide_eq_false e,Bool.false_and]
 clear e;go_wp2;go_ret;exact⟨Rr k.out,h⟩
theorem zhs {w:Xn} {p:Nat} (t:ChW w0 X p w V m) (b:Nat) (b4:b<m.db.length) (n:Int) (b3:0<=n/\n<=8):
  Xp prog 183 #[Xj (Xa ⟨p,0,Xb⟩),I6 (b:Int),I6 n] w fun e w'=>e= Xl (Xh (zcL m (b:Int) n))/\zc w w':=by
 have b7:Xo (ChW w0 X p w V m):=t;have az:Xo (0<=n/\n<=8):=b3;obtain⟨g,ah⟩:=kA w.heap.size;obtain⟨s,c⟩:=kB ((w.alloc (Xk #[I6 (b:Int)] 3)).alloc (Xk #[I6 n] 3));have aj:=gD2 c
 have aw:Xo (Box s g [I6 (b:Int)]):=dD<|by rw[<-c];exact(Box.aE w [I6 (b:Int)] _ ah.symm).alloc _
 have b1:Xo (zl s (g+1) 3 [I6 n]):=dD<|by rw[<-c];exact zl.aE _ [I6 n] _ (by have:=ah.out;simp;omega)
 have C:Xo (s.heap.size=g+2):=dD<|by rw[<-c];have:=ah.out;simp;omega
 have al:Xo (_=s):=c;have av:∀(l:Addr) (ao:Fn) (x y:Array Xq) (w:Xn),(store l (.func ao x y)).run prog w=stored prog w l (.func ao x y) .plain:=fun l ao x y w=>run_store prog w l _ .plain rfl
 obtain⟨a,f⟩:=kB (s.alloc (Xk #[.func (.func 208) #[] #[Xj (Xa ⟨g+1,0,Xb⟩)]] 268));have k:=gA f
 have ax:Xo (Box a (g+2) [.func (.func 208) #[] #[Xj (Xa ⟨g+1,0,Xb⟩)]]):=dD<|by rw[<-f];exact Box.aE s [.func (.func 208) #[] #[Xj (Xa ⟨g+1,0,Xb⟩)]] 268 C.symm
 have am:Xo (_=a):=f;obtain⟨b9,b0⟩:=kA (zcL m (b:Int) n);rw[b0.out];have ar:∀(b2:Fn) (first Q:Array Xq) (w:Xn),(Instr.makeFunc b2 first Q).run prog w= .ok (.func b2 first Q) w:=fun _ _ _ _=>rfl
 clear c f
 go_enter func183,ntmps183
 go_upto_region 1 with fail;rw[al.out,ah.out];go_upto_region 3 with fail;rw[C.out,am.out];clear ar av;have E:=dD (b7.aA (aj.trans k));obtain⟨be,bf,a4,a5⟩:=E.at.db.rows;simp only[vJ]at a4;obtain⟨a3,aq,ap⟩:=a4;obtain⟨ai,i⟩:∃ai,m.db[b]? =Xa ai:=⟨_,gE b4⟩;have au:=E.at.db.2.1 ai (mG i);obtain⟨l,F,G,H,K,L,M,N,P,bb,rfl,h⟩:=a5 b ai i;have j:V.db.a=Xa l:=a3.trans bb;have bc:(b:Int)< (V.db.n:Int):=Wm
 obtain⟨af,A⟩:=kA (zbX n [F,G,H,K,L,M,N,P]);obtain⟨ag,B⟩:=kA (m.dq.any fun q=>decide (q.1=(b:Int)) && zbX n q.2)
 have b8:Xo (zcL m (b:Int) n=(af || ag)):=dD<|by
  unfold zcL;rw[tN,gD,i,B.out,<-A.out];rfl
 have ay:Xo (∀W,zc a W->Xp prog 208 #[Xi #[U8 F,U8 G,U8 H,U8 K,U8 L,U8 M,U8 N,U8 P],Xj (Xa ⟨g+1,0,Xb⟩)] W fun e w'=>e= Xl (Xh af)/\zc W w'):=dD<|fun W z=>by
  rw[<-A.out];exact zht [F,G,H,K,L,M,N,P] rfl n az (g+1) W (b1.box.aA (k.trans z))
 have b6:Xo (∀W,zc a W->Xp prog 112 #[V.dq.x,.func (.func 209) #[] #[Xj (Xa ⟨g,0,Xb⟩),Xj (Xa ⟨g+2,0,Xb⟩)]] W fun e w'=>e= Xl (Xh ag)/\zc W w'):=dD<|fun W z=>by
  rw[<-B.out];refine Jj (fun q=>decide (q.1=(b:Int)) && zbX n q.2) 209 #[Xj (Xa ⟨g,0,Xb⟩),Xj (Xa ⟨g+2,0,Xb⟩)] (enters_of func209 Kr rfl) _ m.dq W (E.at.dq.aA z) (fun ba q r bd=>?_)
  exact zny q.1 q.2 bd n (b:Int) az (g+1) g (g+2) ba (b1.box.aA (k.trans (z.trans r))) (aw.aA (k.trans (z.trans r))) (ax.aA (z.trans r))
 have D:Xo (b9=(af || ag)):=b0.symm.trans b8.out;clear b4 i au a3 aq ap a5 t b3;have ab:=fun y:zf a=>(ax.aA y.aA).c 0 rfl
 have a9:∀y:zf a,y.world.cell? ⟨p,5,Xb⟩=Xa (O (Xa l) V.db.n V.db.c):=fun y=>by
  have:=(E.box.box.aA y.aA).c 5 rfl;rw[j]at this;exact this
 have aa:=fun y:zf a=>(E.box.box.aA y.aA).c 6 rfl
 have ac:=fun y:zf a=>(aw.aA (k.trans y.aA)).c 0 rfl
 have T:=fun y:zf a=>(h y.world y.aA).1
 have U:=fun y:zf a=>(h y.world y.aA).2.1
 have Y:=fun y:zf a=>(h y.world y.aA).2.2.1
 have Z:=fun y:zf a=>(h y.world y.aA).2.2.2.1
 have I:=fun y:zf a=>(h y.world y.aA).2.2.2.2.1
 have a0:=fun y:zf a=>(h y.world y.aA).2.2.2.2.2.1
 have a1:=fun y:zf a=>(h y.world y.aA).2.2.2.2.2.2.1
 have a2:=fun y:zf a=>(h y.world y.aA).2.2.2.2.2.2.2
 have a7:Nonempty (zf a):=⟨⟨_,zc.refl _⟩⟩;clear h j
 cases af with
 | true=>
  refine qx [(10,⟨fun v=>v= Xh Xc,fun v w'=>True⟩)] zW Kr (Sa ⟨_,rfl⟩) ?hp ?_
  case hp=>
   intro x d;simp only[mC,nM,or_false]at d;subst d;exact fun _ _ _ _ t=>t
  iterate 2 refine ze ?_
  refine jG (.tmp 12) ⟨p,0,Xb⟩ rfl rfl rfl rfl ?_;refine Uq ?_;iterate 7 refine ze ?_
  refine zx rfl rfl (fun w' a6 u=>?_) (fun b5 a8=>?_)
  ·refine zP.cD (caps:=#[Xj (Xa ⟨g+1,0,Xb⟩)]) (.tmp 11) [Xi #[U8 F,U8 G,U8 H,U8 K,U8 L,U8 M,U8 N,U8 P]] rfl rfl func208 rfl rfl rfl ?_;refine Calls.mono (show Xp prog 208 _ w' _ from ay.out w' a6) ?_
   rintro e ae ⟨rfl,R⟩;exact⟨_,rfl,R,rfl,trivial⟩
  subst a8;refine Uq ?_;refine ze ?_
  iterate 8 (refine ji Kr ?_;simp only[Xw,sB,sS,sZ])
  iterate 2 refine ze ?_
  refine zL fun an S u=>?_
  have ak:Xo (zc w an):=dD<|(aj.trans k).trans S
  clear S u a7 a9 aa ab ac T U Y Z I a0 a1 a2;go_wp2;go_ret;exact⟨Rr D.out,ak⟩
 | false=>
  refine qx [(10,⟨fun v=>v= Xh Xd,fun v w'=>True⟩),(19,⟨fun v=>v= Xh ag,fun v w'=>True⟩)] zW Kr ?hS ?hp ?_
  case hS=>
   intro x d;simp only[mC,nM,or_false]at d
   rcases d with rfl|rfl <;> exact⟨_,rfl⟩
  case hp=>
   intro x d;simp only[mC,nM,or_false]at d
   rcases d with rfl|rfl <;> exact fun _ _ _ _ t=>t
  iterate 2 refine ze ?_
  refine jG (.tmp 12) ⟨p,0,Xb⟩ rfl rfl rfl rfl ?_;refine Uq ?_;iterate 7 refine ze ?_
  refine zx rfl rfl (fun w' a6 u=>?_) (fun b5 a8=>?_)
  ·refine zP.cD (caps:=#[Xj (Xa ⟨g+1,0,Xb⟩)]) (.tmp 11) [Xi #[U8 F,U8 G,U8 H,U8 K,U8 L,U8 M,U8 N,U8 P]] rfl rfl func208 rfl rfl rfl ?_;refine Calls.mono (show Xp prog 208 _ w' _ from ay.out w' a6) ?_
   rintro e ae ⟨rfl,R⟩;exact⟨_,rfl,R,rfl,trivial⟩
  subst a8;refine Uq ?_;iterate 2 refine ze ?_
  refine jG (.tmp 23) ⟨p,0,Xb⟩ rfl rfl rfl rfl ?_;refine Uq ?_;iterate 5 refine ze ?_
  refine zx rfl rfl (fun w' a6 u=>?_) (fun b5 a8=>?_)
  ·refine zP.call [V.dq.x,.func (.func 209) #[] #[Xj (Xa ⟨g,0,Xb⟩),Xj (Xa ⟨g+2,0,Xb⟩)]] rfl func112 rfl rfl rfl ?_;refine(b6 w' a6).mono ?_;rintro e ae ⟨rfl,R⟩;exact⟨_,rfl,R,rfl,trivial⟩
  subst a8;refine Uq ?_;iterate 2 refine ze ?_
  refine zL fun an S u=>?_
  have ak:Xo (zc w an):=dD<|(aj.trans k).trans S
  clear S u a7 a9 aa ab ac T U Y Z I a0 a1 a2;go_wp2;go_ret;exact⟨Rr D.out,ak⟩
theorem zlr (j : Nat) (w) : Xp Tryz.prog 197 #[Xe Xf (j : Int)] w fun e w' => e = Xl (Xh Xc) /\ zc w w' := by
  go_enter Tryz.func197, Tryz.ntmps197
  go_wp2
  go_ret
  exact ⟨rfl, zc.refl _⟩
theorem zgA (w : Xn) : zjt 197 #[] (fun _ => Xc) w := fun W j _ _ => zlr j W
theorem zhy (d : Xq) (ps : List (List Int)) (qs : List (Int × List Int)) (w : Xn) (hd : ZG w d ps qs) :
    Xp Tryz.prog 159 #[d] w fun e w' => ∃ d', e = Xl (Xm #[d', Xe Xf (zB ps.length qs)]) /\ zO w.heap.size w' d' (jL (fun _ => Xc) ps qs) [] /\ zc w w' := by
  have HD : Xo (ZG w d ps qs) := hd
  obtain ⟨b, q, rfl, hb, hq⟩ := hd
  obtain ⟨ab, cb, rfl, _⟩ := hb.rows
  obtain ⟨aq, cq, rfl, _⟩ := hq.rows
  clear hb hq
  obtain ⟨W0, hW0⟩ : ∃ W0, (w.alloc (.cells #[.slice ab ps.length cb, .slice aq qs.length cq] 38)).alloc (.cells #[.slice none 0 0, .slice none 0 0] 38) = W0 := ⟨_, rfl⟩
  have HG0 : Xo (zc w W0) := show zc w W0 by rw [<- hW0]; exact (za _ _).trans (za _ _)
  have B2 : Box W0 (w.heap.size + 1) [.slice none 0 0, .slice none 0 0] := by rw [<- hW0]; exact Box.aE _ [.slice none 0 0, .slice none 0 0] _ Sm
  have hcon := zeG (fun _ => Xc) 197 #[] (enters_of Tryz.func197 Kr rfl) _ ps qs W0 (HD.out.aA HG0.out) (zgA W0)
  have HB2 : Hid (Box W0 (w.heap.size + 1) [.slice none 0 0, .slice none 0 0]) := B2
  obtain ⟨nb, HNB⟩ : ∃ nb, Hid (ps.length = nb) := ⟨_, rfl⟩
  obtain ⟨nq, HNQ⟩ : ∃ nq, Hid (qs.length = nq) := ⟨_, rfl⟩
  obtain ⟨r, HW⟩ : ∃ r, Xo (zB nb qs = r) := ⟨_, rfl⟩
  rw [HNB.out, HNQ.out, HW.out] at hcon
  rw [HNB.out, HNQ.out] at hW0
  have HW0 : Hid (_ = W0) := hW0
  clear hW0
  rw [HNB.out, HNQ.out, HW.out]
  clear B2
  go_enter Tryz.func159, Tryz.ntmps159
  go_wp2_with (go_at_call 196; rw [HW0.out]
               refine hcon.mono ?_
               rintro e W1 ⟨d1, rfl, hd1, hg1⟩
               have b3 : Box W1 (w.heap.size + 1) [.slice none 0 0, .slice none 0 0] := HB2.out.aA hg1
               have c2 := b3.c 0 rfl
               have c3 := b3.c 1 rfl
               have f2 := b3.f 0
               have f3 := b3.f 1
               have HD1 : Xo (zO W0.heap.size W1 d1 (jL (fun _ => Xc) ps qs) []) := hd1
               have HG1 : Xo (zc w W1) := HG0.out.trans hg1
               obtain ⟨v1, v2, rfl, hv1, hv2, _⟩ := hd1
               obtain ⟨x1, y1, rfl, _⟩ := hv1.rows
               obtain ⟨x2, y2, rfl, _⟩ := hv2.rows
               clear hv1 hv2 b3)
  refine bodyPost_ret (v := Xm #[Xi #[.slice x1 (jL (fun _ => Xc) ps qs).length y1, O x2 0 y2], Xe Xf r]) (by simp [results, Tryz.results159, go_sem, *]) rfl ⟨_, rfl, ?_, ?_⟩
  · have := HB2.out.lt
    exact ((HD1.out.setCell (Si this) _).setCell (Si this) _).base (Below.size HG0.out)
  · exact Below.setCell (Below.setCell HG1.out (p := ⟨w.heap.size + 1, 0, none⟩) Sm _) (p := ⟨w.heap.size + 1, 1, none⟩) Sm _
variable{X:Nat->Prop}
def Qx (m:Ma) (fi ix:Nat) (n:Int):Ma:=match zcb m (fi:Int) (ix:Int)with
 | some c=>{ m with fs:=m.fs.set c.fr.toNat { zQ m c.fr with p:=zcJ (qJ (pgL (zQ m c.fr).p) 0 n) } }
 | none=>m
def zet (m:Ma) (b n:Int):List (List Int):=jL (fun _=>Xc) (qt m.db m.dq b) (qr m.db m.dq b (qJ (zS m.db m.dq b) 0 n))
def zfa (m:Ma) (fi z:Nat):Ma:=
 if z % 8=0 then m
 else if Qc m (fi:Int) ((z / 8:Nat):Int)<0\/zcL m (Qc m (fi:Int) ((z / 8:Nat):Int)) ((z % 8:Nat):Int)=Xd then Qx m fi (z / 8) ((z % 8:Nat):Int)
 else{ Qx m fi (z / 8) ((z % 8:Nat):Int)with db:=zet m (Qc m (fi:Int) ((z / 8:Nat):Int)) ((z % 8:Nat):Int),dq:=[] }
theorem zbL (m:Ma) (fi ix:Nat) (n:Int):(Qx m fi ix n).fl=m.fl/\(Qx m fi ix n).db=m.db/\(Qx m fi ix n).dq=m.dq/\(Qx m fi ix n).cnt=m.cnt/\(Qx m fi ix n).ca=m.ca/\(Qx m fi ix n).sp=m.sp:=by
 unfold Qx
 split <;> exact⟨rfl,rfl,rfl,rfl,rfl,rfl⟩
theorem zd4 (h:Rt m) {F:Fl} {a:Int} (g:m.fl[fi]? =Xa F) (b:F.bl[ix]? =Xa a):a=-1\/(0<=a/\a< (m.db.length:Int)):=by
 obtain⟨_,d,_⟩:=(zY _ _).1 h.inv.st;have e:=d F (mG g);have f:=h.inv.cnt;have c:=e.2.2 a (mG b);rw[f]at c;exact c
theorem zn2 {w:Xn} {p:Nat} (D:ChW w0 X p w V m) (cv:Rt m) (fi z:Nat) (F:Fl) (bv:m.fl[fi]? =Xa F) (gv:z<=96) (bw:z % 8≠0->z / 8<F.bl.length):
  Xp prog 151 #[Xj (Xa ⟨p,0,Xb⟩),I6 (fi:Int),I6 (z:Int)] w fun e w'=>(∃v,e= Xl v)/\Chg w0 X p w V (zfa m fi z) w':=by
 have bf:(z:Int).tdiv 8=((z / 8:Nat):Int):=by rw[Int.tdiv_eq_ediv_of_nonneg Wm];omega
 have ao:(z:Int).tmod 8=((z % 8:Nat):Int):=by rw[Int.tmod_eq_emod_of_nonneg Wm];omega
 by_cases bu:z % 8=0
 ·have fz:zfa m fi z=m:=kE bu;have c:Xo (Chg w0 X p w V (zfa m fi z) w):=dD<|by rw[fz];exact Chg.refl D (zc.refl _)
  have T:wrap64 ((z / 8:Nat):Int)=((z / 8:Nat):Int):=by unfold wrap64;omega
  rw[bu]at ao;obtain⟨gy,eh⟩:=kA (zfa m fi z);rw[eh.out]at c⊢;clear fz D cv bv bw bu
  go_enter func151,ntmps151
  go_wp2
  exact Ge c.out
 have B:zfa m fi z=if Qc m (fi:Int) ((z / 8:Nat):Int)<0\/zcL m (Qc m (fi:Int) ((z / 8:Nat):Int)) ((z % 8:Nat):Int)=Xd then Qx m fi (z / 8) ((z % 8:Nat):Int)else{ Qx m fi (z / 8) ((z % 8:Nat):Int)with db:=zet m (Qc m (fi:Int) ((z / 8:Nat):Int)) ((z % 8:Nat):Int),dq:=[] }:=kF bu;have bw:=bw bu;have be:0<z % 8/\z % 8<8:=⟨Wm,Wm⟩
 have dh:z / 8<=12:=Wm
 obtain⟨G,em⟩:=kB (z / 8);obtain⟨n,es⟩:=kB (z % 8);rw[em]at bf B bw dh;rw[es]at ao B be;clear bu;obtain⟨b,a3⟩:∃b,F.bl[G]? =Xa b:=⟨_,gE bw⟩;obtain⟨ai,f7,f5⟩:=jp cv bv;have d0:=zfM D cv fi G Wm
 have cw:Qc m (fi:Int) (G:Int)=b:=by
  unfold Qc
  simp[bv,a3]
 rw[cw]at B;have al:¬b<0->b.toNat<m.db.length/\((b.toNat:Nat):Int)=b:=fun u=>by
  have:=(zd4 cv bv a3).resolve_left Wm
  omega
 obtain⟨fh,fj,fk,_,_,_⟩:=zbL m fi G (n:Int);obtain⟨l,av⟩:=kA (Qx m fi G (n:Int));rw[av.out]at fh fj fk B;have bq:Xo (l.fl=m.fl/\l.db=m.db/\l.dq=m.dq):=⟨fh,fj,fk⟩;have eo:Xo (∀(bt:Ca) (k:Nat) (a0:Fr),zcb m (fi:Int) (G:Int)=Xa bt->bt.fr=(k:Int)->m.fs[k]? =Xa a0->l={ m with fs:=m.fs.set k { a0 with p:=zcJ (qJ (pgL a0.p) 0 (n:Int)) } }):=show∀(bt:Ca) (k:Nat) (a0:Fr),_ from fun bt k a0 dt du f2=>by
  rw[<-av.out];unfold Qx;rw[dt];simp only;rw[du,tN,zT f2]
 have en:Xo (zcb m (fi:Int) (G:Int)=Xb->l=m):=dD<|fun e=>by
  rw[<-av.out];unfold Qx;rw[e]
 obtain⟨az,ep⟩:=kA (zfa m fi z);rw[ep.out]at B⊢;have au:Xo (az=_):=B;have gd:Xo (ChW w0 X p w V m):=D;have Z:Xo (m.fl[fi]? =Xa F/\F.bl[G]? =Xa b):=⟨bv,a3⟩;have ef:Xo (¬b<0->b.toNat<m.db.length/\((b.toNat:Nat):Int)=b):=al;have aw:Xo (0<n/\n<8):=be;have ff:((n:Int) == 0)=Xd:=by simp;omega
 have T:wrap64 (G:Int)=(G:Int):=by unfold wrap64;omega
 clear D cv cw fh fj fk bv a3 bw ai f7 f5 B al be dh gv
 go_enter func151,ntmps151
 go_upto_region 2 with fail;rw[T];clear bf ao ff T;go_wp2_with fail;refine d0.mono ?_;clear d0;rintro e U ⟨⟨a4,f8,rfl,g2⟩,f4⟩;have fo:Xo (zc w U):=f4;have ch:=dD (gd.aA f4);have cd:Xo _:=show((f8=Xd/\zcb m (fi:Int) (G:Int)=Xb)\/(f8=Xc/\_))from g2
 clear g2 f4
 go_upto_if 27 with fail
 go_cut [] (fun ec=>∃(d:MaV),Xo (ChW w0 X p ec d l)/\Xo (zk (Dw p V) w ec)/\Xo (∀k,Dw p d k->Dw p V k\/w.heap.size<=k))
 case first=>
  cases f8 with
  | true=>
   obtain⟨_,bt,a0,dt,gm,du,f2,gp,f3,gq⟩:=cd.resolve_left (fun D=>nomatch D.1)
   have cu:=eo.out bt a4 a0 dt du f3;have ar:Xo (m.fs[a4]? =Xa a0):=f3;clear dt gm du f2 gp f3 gq;have fb:=(gS.1 ar).1;obtain⟨aj,ah,j⟩:=ch.fs.aJ Wm
   obtain⟨dv,cb⟩:=kA m.fs.length;have N:(a4:Int)< (dv:Int):=Hm cb.out
   rw[cb.out]at j;have gs:U.cell? ⟨p,0,Xb⟩=Xa (O (Xa ⟨aj,0,Xb⟩) dv ah):=by rw[<-j];exact ch.box.box.c 0 rfl
   have cc:Xo (zb qi w0.heap.size U (O (Xa ⟨aj,0,Xb⟩) dv ah) m.fs):=dD<|Ry j ch.fs
   have ej:Xo (V.f.x= O (Xa ⟨aj,0,Xb⟩) dv ah):=j;have el:Xo (oB V.f aj):=show oB _ _ by unfold oB;rw[j];rfl
   clear j fb;obtain⟨⟨a9,aa,ab,ac,ad,L,ae,af⟩,dk,bz,f,cn,dl⟩:=a0;have df:(qJ [a9,aa,ab,ac,ad,L,ae,af] 0 (n:Int)).length=8:=by unfold qJ;simp
   obtain⟨dz,bf,ao,ap,e8,e9,ea,eb,fg⟩:=zba _ df;have er:Xo (l={ m with fs:=m.fs.set a4 ⟨⟨dz,bf,ao,ap,e8,e9,ea,eb⟩,dk,bz,f,cn,dl⟩ }):=dD<|by
    rw[cu]
    show({ m with fs:=m.fs.set a4 ⟨zcJ (qJ [a9,aa,ab,ac,ad,L,ae,af] 0 (n:Int)),dk,bz,f,cn,dl⟩ }:Ma)=_
    rw[fg];rfl
   have dg:Xp prog 182 #[Xi #[U8 a9,U8 aa,U8 ab,U8 ac,U8 ad,U8 L,U8 ae,U8 af],I6 (n:Int)] U fun e w'=>e= Xl (Xi #[U8 dz,U8 bf,U8 ao,U8 ap,U8 e8,U8 e9,U8 ea,U8 eb])/\zc U w':=by
    have k:=Z5 [a9,aa,ab,ac,ad,L,ae,af] (n:Int) U rfl Wm (Hm aw.out)
    rw[fg]at k;exact k.mono fun e w' q=>⟨q.1,q.2.2⟩
   have K:Xo (U.rangeAt aj (a4*13) [U8 a9,U8 aa,U8 ab,U8 ac,U8 ad,U8 L,U8 ae,U8 af]):=dD<|fun x v a=>cc.bH ar x v (by
    have N:=(gS.1 a).1
    show([U8 a9,U8 aa,U8 ab,U8 ac,U8 ad,U8 L,U8 ae,U8 af]++ [I6 dk,Xh bz,Xh f,I6 cn,I6 dl])[x]? =Xa v
    rw[Xt N];exact a)
   clear fg df cu;go_upto_region 5 with fail;clear gs
   go_wp2_with (first | refine wpList_load_mid rfl 91 (.tmp 39) rfl aj (a4*13) rfl [U8 a9,U8 aa,U8 ab,U8 ac,U8 ad,U8 L,U8 ae,U8 af] _ K underlying91 rfl Kr ?_ | (go_at_call 182;refine dg.mono ?_))
   clear dg;rintro e g rfl ai;have aq:Xo (zc U g):=ai;have gi:=dD (cc.aA ai);clear ai
   go_wp2_with (refine zt (E:=qi) rfl (.tmp 44) (.tmp 42) 91 rfl w0.heap.size _ m.fs gi aj a4 0 rfl ⟨⟨a9,aa,ab,ac,ad,L,ae,af⟩,dk,bz,f,cn,dl⟩ ⟨⟨dz,bf,ao,ap,e8,e9,ea,eb⟩,dk,bz,f,cn,dl⟩ ar.out [U8 dz,U8 bf,U8 ao,U8 ap,U8 e8,U8 e9,U8 ea,U8 eb] Kr rfl (Xv rfl) (by intro bz g6;simp at g6;rcases g6 with rfl | rfl | rfl | rfl | rfl | rfl | rfl | rfl <;> rfl) ⟨aj,a4*13,Xb⟩ rfl rfl _ rfl rfl ?_)
   intro ex dj ct _;have eg:Xo (Chg w0 X p w V l ex):=dD<|by
    have dw:=(ch.aA aq).frame el ct (Rx ej.out dj)
    rw[er.out];exact Chg.aI (fo.trans aq) dw
   obtain⟨d,b9,g8,fv⟩:=eg.out;have I:Xo (ChW w0 X p ex d l):=b9;have b8:Xo (zk (Dw p V) w ex):=g8;have c8:Xo (∀k,Dw p d k->Dw p V k\/w.heap.size<=k):=fv;clear dj ct b9 g8 fv N;try simp only[Xw]
   go_wp2
   go_meet
   exact⟨d,I,b8,c8⟩
  | false=>
   have cu:=en.out (cd.resolve_right (fun D=>nomatch D.1)).2
   have I:Xo (ChW w0 X p U V l):=dD<|Rx cu ch.out
   have b8:Xo (zk (Dw p V) w U):=zk.aA fo.out;clear cu;go_wp2
   go_meet
   exact⟨V,I,b8,fun _ D=> .inl D⟩
 obtain⟨d,I,b8,c8⟩:=hcut;obtain⟨h3,h4,d7,_,bc⟩:=z7.rows I.at.fl;simp only[vJ]at d7;obtain⟨d4,d9,f9⟩:=d7;rw[bq.1]at bc d9;obtain⟨gt,d5,h5,h6,an,d1⟩:=bc fi F Z.1;have am:d.fl.a=Xa gt:=d4.trans d5;have N:(fi:Int)< (d.fl.n:Int):=by
  have:=(gS.1 Z.1).1;omega
 have fe:(G:Int)< (F.bl.length:Int):=by
  have:=(gS.1 Z.2).1;omega
 obtain⟨_,_,j,de⟩:=an.bB;simp only[vJ]at j;obtain⟨gz,cx,dc⟩:=de G b Z.2;have gl:=dc wc (zc.refl _);rw[<-j.1]at cx;subst cx;have gx:=(d1 wc (zc.refl _)).2;have ga:=I.box.box.c 7 rfl;rw[am]at ga;clear d4 d9 f9 bc d5 d1 an de dc j am
 by_cases u:b<0
 ·have g0:decide (0<=b)=Xd:=decide_eq_false Wm
  have ce:Xo (az=l):=dD<|by rw[au.out,kE (.inl u)]
  have c:Xo (Chg w0 X p w V az wc):=dD<|by rw[ce.out];exact⟨d,I,b8,c8⟩
  clear u;go_wp2
  exact Ge c.out
 have g0:decide (0<=b)=Xc:=decide_eq_true Wm
 obtain⟨cz,cy⟩:=ef.out Wm
 obtain⟨ev,ay⟩:=kA (zcL m b (n:Int));have da:Xp prog 183 #[Xj (Xa ⟨p,0,Xb⟩),I6 b,I6 (n:Int)] wc fun e w'=>e= Xl (Xh ev)/\zc wc w':=by
  have k:=zhs I b.toNat (Rx bq.2.1 cz) (n:Int) (Hm aw.out)
  rw[cy]at k;have e:zcL l b (n:Int)=ev:=by
   rw[<-ay.out];unfold zcL;rw[bq.2.1,bq.2.2]
  rw[e]at k;exact k
 have eq:Xo (¬b<0):=u;clear cz u
 go_wp2_with (go_at_call 183;refine da.mono ?_)
 clear da gx ga gl g0;rintro e a7 rfl f6;have fp:Xo (zc wc a7):=f6;have br:=dD (I.aA f6);clear f6
 cases ev with
 | false=>
  have ce:Xo (az=l):=dD<|by rw[au.out,kE (.inr ay.out)]
  have c:Xo (Chg w0 X p w V az a7):=dD<|by rw[ce.out];exact⟨d,br,b8.trans (zk.aA fp),c8⟩
  go_wp2
  exact Ge c.out
 | true=>
  have ce:Xo (az={ l with db:=zet m b (n:Int),dq:=[] }):=dD<|by rw[au.out,kF (by rintro(e | e);(have:=eq.out;omega);rw[ay.out]at e;cases e)]
  have gf:=dD (b8.trans (zk.aA fp));have fm:Xo (∀k,Dw p d k->Dw p V k\/w.heap.size<=k):=c8.out;obtain⟨r,c9⟩:=kA m.db;obtain⟨s,ca⟩:=kA m.dq;have C:Xo (qV a7 (d.db.x) r/\jr a7 (d.dq.x) s):=show _/\_ by
   have dw:=br.at.db;have fy:=br.at.dq;rw[bq.2.1,c9.out]at dw;rw[bq.2.2,ca.out]at fy;exact⟨dw,fy⟩
  have P:(zS r s b).length=8:=zgO C.1.2.1 C.2.2.1;have M:(qJ (zS r s b) 0 (n:Int)).length=8:=by rw[zja,P]
  have Y:Xo (zet m b (n:Int)=jL (fun _=>Xc) (qt r s b) (qr r s b (qJ (zS r s b) 0 (n:Int)))):=dD<|by unfold zet;rw[c9.out,ca.out]
  have Q:=zfy (Xi #[d.db.x,d.dq.x]) r s b a7 ⟨_,_,rfl,C.1,C.2⟩;have H:Xo (∀W,Xp prog 182 #[Xi (pgc (zS r s b)).toArray,I6 (n:Int)] W fun e w'=>e= Xl (Xi (pgc (qJ (zS r s b) 0 (n:Int))).toArray)/\zc W w'):=dD<|fun W=>(Z5 _ (n:Int) W P Wm (Hm aw.out)).mono fun e w' q=>⟨q.1,q.2.2⟩
  have A:Xo (∀W,zc a7 W->Xp prog 185 #[Xi #[d.db.x,d.dq.x],I6 b,Xi (pgc (qJ (zS r s b) 0 (n:Int))).toArray] W fun e w'=>∃f q:Sli,e= Xl (Xm #[Xi #[f.x,q.x],I6 (zg r.length s b)])/\zO W.heap.size w' (Xi #[f.x,q.x]) (qt r s b) (qr r s b (qJ (zS r s b) 0 (n:Int)))/\zc W w'):=dD<|fun W dx=>by
   refine(zc7 (Xi #[d.db.x,d.dq.x]) r s b _ M W ⟨_,_,rfl,C.1.aA dx,C.2.aA dx⟩).mono ?_;rintro e w' ⟨gk,rfl,y,a1⟩;obtain⟨f,q,rfl,_,_⟩:=y.form;exact⟨f,q,rfl,y,a1⟩
  obtain⟨fu,et⟩:=kA (zS r s b);rw[et.out]at P M Y Q H A;obtain⟨fl,ei⟩:=kA (qJ fu 0 (n:Int));rw[ei.out]at M Y H A;obtain⟨h,cf⟩:=kA (qt r s b);obtain⟨i,cg⟩:=kA (qr r s b fl);rw[cf.out,cg.out]at A Y;obtain⟨bp,ek⟩:=kA (zg r.length s b);rw[ek.out]at A Q;obtain⟨bg,bh,bi,bj,bl,bm,bn,bo,rfl⟩:=zba fu P;obtain⟨dm,dn,b9,dp,dr,ds,ba,ah,rfl⟩:=zba fl M;simp only[pgc,mP,Yb]at Q H A;clear P M N fe cy;go_upto_region 8 with fail;have K:Xo (a7.rangeAt p 5 [d.db.x,d.dq.x]):=dD<|br.box.box.mid 5 (fun x v a=>by
   match x,a with
   | 0,a=>exact a
   | 1,a=>exact a)
  go_upto_region 9 with(first | refine wpList_load_mid rfl 38 (.tmp 70) rfl p 5 rfl [d.db.x,d.dq.x] _ K underlying38 rfl Kr ?_ | (go_at_call 184;refine Q.mono ?_))
  clear Q;rintro e ck ⟨rfl,fx⟩;have fq:Xo (zc a7 ck):=fx;obtain⟨dy,ax⟩:=kA ck.heap.size;clear fx
  go_upto_region 9 with(refine zm rfl 91 (.tmp 12) (.tmp 74) rfl ck.heap.size rfl [U8 bg,U8 bh,U8 bi,U8 bj,U8 bl,U8 bm,U8 bn,U8 bo] rfl (zl.aE ck [U8 0,U8 0,U8 0,U8 0,U8 0,U8 0,U8 0,U8 0] _ rfl) rfl Kr (by simp[Value.oneCell']) ?_)
  intro g L ai _;have cp:zc ck g:=zd (za _ _) ai (nR _);have gh:Xo (zl g dy 91 [U8 bg,U8 bh,U8 bi,U8 bj,U8 bl,U8 bm,U8 bn,U8 bo]):=dD<|Ry ax.out L
  have aq:=dD (fq.trans cp);have bs:=dD (br.aA aq);have ft:=dD (gf.trans (zk.aA aq));have gu:p<dy:=by have:=br.aM p (.inl rfl);have:=bS fq.out;have:=ax.out;omega
  rw[ax.out];clear L ai cp;go_upto_region 9 with fail;have eu:Xo (zl g dy 91 [U8 bg,U8 bh,U8 bi,U8 bj,U8 bl,U8 bm,U8 bn,U8 bo]):=gh.out
  go_cut [] (fun ec=>Xo (Chg w0 X p w V { l with db:=h,dq:=i } ec))
  case first=>
   refine wp_region_held (S:=fun W=>zk (fun k=>k=p) g W) zW ?_
   show wpAnyH _ _ _ _ _ 18 (Yo 18 Xd) _ g.drew
   have gD:zc g g.drew:=(gW _)
   have a5:zk (fun k=>k=p) g g.drew:=zk.aA gD
   refine zD 0 (Xa 77) (Xj (Xa ⟨p,0,Xb⟩)) a5 ?_
   refine Uq ?_;refine zD 1 (Xa 78) (Xj (Xa ⟨p,0,Xb⟩)) a5 ?_
   refine Uq ?_;refine zD 2 (Xa 79) (Xj (Xa ⟨p,0,Xb⟩)) a5 ?_
   refine Uq ?_;refine zD 3 (Xa 80) (Xj (Xa ⟨p,0,Xb⟩)) a5 ?_
   refine Uq ?_;refine zD 4 (Xa 81) (Xj (Xa ⟨p,5,Xb⟩)) a5 ?_
   refine Uq ?_;refine zD 6 (Xa 83) (I6 b) a5 ?_
   refine Uq ?_;refine Qe 7 (Xa 84) (Xi #[U8 bg,U8 bh,U8 bi,U8 bj,U8 bl,U8 bm,U8 bn,U8 bo]) rfl rfl Kr Kr Kr (fun _ _ _ D=>D) (yieldsIf_load_mid rfl 91 (.tmp 12) rfl dy 0 rfl [U8 bg,U8 bh,U8 bi,U8 bj,U8 bl,U8 bm,U8 bn,U8 bo] _ (fun W dx=>(eu.aK dx Wm).box.range) underlying91 rfl Kr) a5 ?_
   refine Uq ?_;refine zD 8 (Xa 85) (I6 (n:Int)) a5 ?_
   refine Uq ?_;refine wpAnyH_all (rs:=[5,9]) Kr Sm ?_
   intro x a;simp only[mC,nM,or_false]at a
   rcases a with rfl|rfl
   ·skip
    refine zH (Xa 82) (fun v w'=>v= Xi #[d.db.x,d.dq.x]/\w'=g.drew) rfl rfl rfl (QO 38 (.tmp 81) rfl p 5 rfl [d.db.x,d.dq.x] ((bs.box.box.aA gD).mid 5 (fun x v a=>by
     match x,a with
     | 0,a=>exact a
     | 1,a=>exact a)) underlying38 rfl Kr ⟨rfl,rfl⟩) ?_
    rintro v gj ⟨rfl,R⟩;rw[R];clear R;refine⟨zk.aA gD,?_⟩;refine Uq ?_;refine wpAnyH_all (rs:=[9]) Kr Sm ?_
    intro x a;simp only[mC,nM,or_false]at a;subst a;refine zH (Xa 86) (fun v w'=>v= Xi #[U8 dm,U8 dn,U8 b9,U8 dp,U8 dr,U8 ds,U8 ba,U8 ah]/\zc g.drew w') rfl rfl rfl (zP.call [Xi #[U8 bg,U8 bh,U8 bi,U8 bj,U8 bl,U8 bm,U8 bn,U8 bo],I6 (n:Int)] rfl func182 rfl rfl rfl ((H _).mono ?_)) ?_
    ·rintro e w' ⟨rfl,a1⟩;exact⟨_,rfl,rfl,a1⟩
    rintro v a8 ⟨rfl,cq⟩;have gN:zc g a8:=gD.trans cq;refine⟨zk.aA gN,?_⟩;refine Uq ?_;refine wpAnyH_all (rs:=[10]) Kr Sm ?_
    intro x a;simp only[mC,nM,or_false]at a;subst a;refine zH (Xa 87) (fun v w'=>∃f q:Sli,v= Xm #[Xi #[f.x,q.x],I6 bp]/\zO a8.heap.size w' (Xi #[f.x,q.x]) h i/\zc a8 w') rfl rfl rfl (zP.call [Xi #[d.db.x,d.dq.x],I6 b,Xi #[U8 dm,U8 dn,U8 b9,U8 dp,U8 dr,U8 ds,U8 ba,U8 ah]] rfl func185 rfl rfl rfl ((A _ (aq.trans gN)).mono ?_)) ?_
    ·rintro e w' ⟨f,q,rfl,y,a1⟩;exact⟨_,rfl,f,q,rfl,y,a1⟩
    rintro v cl ⟨f,q,rfl,y,cr⟩;have a2:zc g cl:=gN.trans cr;have t:zk (fun k=>k=p) g cl:=zk.aA a2
    refine⟨t,?_⟩;refine Uq ?_;refine zD 11 (Xa 76) (Xm #[Xi #[f.x,q.x],I6 bp]) t ?_
    refine Uq ?_;refine zD 12 (Xa 88) (Xi #[f.x,q.x]) t ?_
    refine Uq ?_;refine zD 13 (Xa 89) (I6 bp) t ?_
    refine Uq ?_;refine zD 14 (Xa 90) (Xj (Xa ⟨p,0,Xb⟩)) t ?_
    refine Uq ?_;refine zD 15 (Xa 91) (Xj (Xa ⟨p,0,Xb⟩)) t ?_
    refine Uq ?_;refine zD 16 (Xa 92) (Xj (Xa ⟨p,5,Xb⟩)) t ?_
    refine Uq ?_;refine wpAnyH_all (rs:=[17]) Kr Sm ?_
    intro x a;simp only[mC,nM,or_false]at a;subst a;refine zH Xb (fun v w'=>Chg w0 X p w V { l with db:=h,dq:=i } w'/\zk (fun k=>k=p) g w') rfl rfl rfl (jk 38 (.tmp 92) (.tmp 88) rfl p 5 rfl (Xi #[f.x,q.x]) rfl [f.x,q.x] rfl (bs.box.aA a2) (by simp[chL]) Kr (by simp[Value.oneCell']) (fun w' ez co gw=>⟨Chg.step ft fm (bs.bT a2 (bS gN) y co ez).bW,t.trans (zk.grown co rfl)⟩)) ?_
    rintro v ey ⟨cm,di⟩;refine⟨di,?_⟩;simp only[Xw];refine wpAnyH_done Kr ?_ _
    have ed:Xo (Chg w0 X p w V { l with db:=h,dq:=i } ey):=cm;clear cm di y cr a2 t gN cq;go_wp2
    go_meet
    exact ed
   skip
   refine zH (Xa 86) (fun v w'=>v= Xi #[U8 dm,U8 dn,U8 b9,U8 dp,U8 dr,U8 ds,U8 ba,U8 ah]/\zc g.drew w') rfl rfl rfl (zP.call [Xi #[U8 bg,U8 bh,U8 bi,U8 bj,U8 bl,U8 bm,U8 bn,U8 bo],I6 (n:Int)] rfl func182 rfl rfl rfl ((H _).mono ?_)) ?_
   ·rintro e w' ⟨rfl,a1⟩;exact⟨_,rfl,rfl,a1⟩
   rintro v a8 ⟨rfl,cq⟩;have gN:zc g a8:=gD.trans cq;refine⟨zk.aA gN,?_⟩;refine Uq ?_;refine wpAnyH_all (rs:=[5]) Kr Sm ?_
   intro x a;simp only[mC,nM,or_false]at a;subst a;refine zH (Xa 82) (fun v w'=>v= Xi #[d.db.x,d.dq.x]/\w'=a8) rfl rfl rfl (QO 38 (.tmp 81) rfl p 5 rfl [d.db.x,d.dq.x] ((bs.box.box.aA gN).mid 5 (fun x v a=>by
    match x,a with
    | 0,a=>exact a
    | 1,a=>exact a)) underlying38 rfl Kr ⟨rfl,rfl⟩) ?_
   rintro v gj ⟨rfl,R⟩;rw[R];clear R;refine⟨zk.aA gN,?_⟩;refine Uq ?_;refine wpAnyH_all (rs:=[10]) Kr Sm ?_
   intro x a;simp only[mC,nM,or_false]at a;subst a;refine zH (Xa 87) (fun v w'=>∃f q:Sli,v= Xm #[Xi #[f.x,q.x],I6 bp]/\zO a8.heap.size w' (Xi #[f.x,q.x]) h i/\zc a8 w') rfl rfl rfl (zP.call [Xi #[d.db.x,d.dq.x],I6 b,Xi #[U8 dm,U8 dn,U8 b9,U8 dp,U8 dr,U8 ds,U8 ba,U8 ah]] rfl func185 rfl rfl rfl ((A _ (aq.trans gN)).mono ?_)) ?_
   ·rintro e w' ⟨f,q,rfl,y,a1⟩;exact⟨_,rfl,f,q,rfl,y,a1⟩
   rintro v cl ⟨f,q,rfl,y,cr⟩;have a2:zc g cl:=gN.trans cr;have t:zk (fun k=>k=p) g cl:=zk.aA a2
   refine⟨t,?_⟩;refine Uq ?_;refine zD 11 (Xa 76) (Xm #[Xi #[f.x,q.x],I6 bp]) t ?_
   refine Uq ?_;refine zD 12 (Xa 88) (Xi #[f.x,q.x]) t ?_
   refine Uq ?_;refine zD 13 (Xa 89) (I6 bp) t ?_
   refine Uq ?_;refine zD 14 (Xa 90) (Xj (Xa ⟨p,0,Xb⟩)) t ?_
   refine Uq ?_;refine zD 15 (Xa 91) (Xj (Xa ⟨p,0,Xb⟩)) t ?_
   refine Uq ?_;refine zD 16 (Xa 92) (Xj (Xa ⟨p,5,Xb⟩)) t ?_
   refine Uq ?_;refine wpAnyH_all (rs:=[17]) Kr Sm ?_
   intro x a;simp only[mC,nM,or_false]at a;subst a;refine zH Xb (fun v w'=>Chg w0 X p w V { l with db:=h,dq:=i } w'/\zk (fun k=>k=p) g w') rfl rfl rfl (jk 38 (.tmp 92) (.tmp 88) rfl p 5 rfl (Xi #[f.x,q.x]) rfl [f.x,q.x] rfl (bs.box.aA a2) (by simp[chL]) Kr (by simp[Value.oneCell']) (fun w' ez co gw=>⟨Chg.step ft fm (bs.bT a2 (bS gN) y co ez).bW,t.trans (zk.grown co rfl)⟩)) ?_
   rintro v ey ⟨cm,di⟩;refine⟨di,?_⟩;simp only[Xw];refine wpAnyH_done Kr ?_ _
   have ed:Xo (Chg w0 X p w V { l with db:=h,dq:=i } ey):=cm;clear cm di y cr a2 t gN cq;go_wp2
   go_meet
   exact ed
  obtain⟨a6,ba,g9,fw⟩:=hcut;have ci:Xo (ChW w0 X p wc a6 { l with db:=h,dq:=i }):=ba;have gg:Xo (zk (Dw p V) w wc):=g9;have gc:Xo (∀k,Dw p a6 k->Dw p V k\/w.heap.size<=k):=fw;clear ba g9 fw;have d8:=zhy (Xi #[a6.db.x,a6.dq.x]) h i wc ⟨_,_,rfl,ci.at.db,ci.at.dq⟩;have K:Xo (wc.rangeAt p 5 [a6.db.x,a6.dq.x]):=show World.rangeAt _ _ _ _ from ci.box.box.mid 5 (fun x v a=>by
   match x,a with
   | 0,a=>exact a
   | 1,a=>exact a)
  go_upto_region 10 with fail
  go_wp2_with (first | refine wpList_load_mid rfl 38 (.tmp 98) rfl p 5 rfl [a6.db.x,a6.dq.x] _ K underlying38 rfl Kr ?_ | (go_at_call 159;refine d8.mono ?_))
  clear d8;rintro e cj ⟨gk,rfl,y,bb⟩;obtain⟨f1,ap,rfl,_,_⟩:=y.form;have ge:Xo (zO wc.heap.size cj (Xi #[f1.x,ap.x]) (jL (fun _=>Xc) h i) []):=y
  have ee:Xo (zc wc cj):=bb;have gb:=dD (ci.box.aA bb);clear y bb
  go_wp2_with (refine qK rfl 38 (.tmp 105) (.tmp 101) rfl p 5 rfl (Xi #[f1.x,ap.x]) rfl [f1.x,ap.x] rfl gb (by simp[chL]) Kr (by simp[Value.oneCell']) ?_)
  intro ew ag ak _;have c:Xo (Chg w0 X p w V az ew):=dD<|by
   rw[ce.out,Y.out];exact Chg.step gg gc (ci.bT ee (nR _) ge ak ag).bW
  clear ag ak;go_wp2
  exact Ge c.out
theorem zhb {qs:List (Int × List Int)} {i:Nat} {q:Int × List Int} (h:∀p∈qs,p.2.length=8) (b:q.2.length=8):∀p∈qs.set i q,p.2.length=8:=fun p c=>by
 rcases List.mem_or_eq_of_mem_set c with a|a
 ·exact h p a
 rw[a];exact b
theorem zcG {w:Xn} {rest:List Oper} {a:Act} (e:o.guard=Xb) (p x:Operand) (s:o.op= .store 117 p x)
  (base:Nat) (v:Xq) (qs:List (Int × List Int)) (b:zo base w v qs) (g i:Nat) (r:v.ownBlock=Xa g) (hi:i<qs.length) (q:Int × List Int) (f:q.2.length=8)
  (c:Addr) (hp:a.eval p= Xj (Xa c)) (d:c=⟨g,i*9,Xb⟩) (t:a.eval x= Xi (ptc q).toArray)
  (k:∀w',zo base w' v (qs.set i q)->w.grownBy w' (Xa g)->w'.heap.size=w.heap.size->wpList prog ops Q rest (a.put o.dst undef) w'):wpList prog ops Q (o :: rest) a w:=by
 refine Jg e p x 117 s 9 Kr base v qs.length _ b.1 g i r hi (ptc q) (by rw[Q1,f]) (zdl q) c hp d t fun w' h l m=>?_
 rw[zac q (by rw[Q1,f]) qs i (fun j n=>by rw[Q1,b.2.1 j n]) hi]at h
 exact k w' ⟨Rx Yd h,zhb b.2.1 f,Rx Yd b.2.2⟩ l m
theorem zo.shrink {base:Nat} {w:Xn} {n cap:Nat} {L:List (Int × List Int)} (h:zo base w (O (Xa ⟨g,0,Xb⟩) n cap) L) (i:Nat) (hi:i<=L.length):zo base w (O (Xa ⟨g,0,Xb⟩) i cap) (L.take i):=by
 obtain⟨r,f,m,l,a,j,d,p⟩:=h.block;have b:(L.take i).length=i:=by rw[Xs];omega
 have:=zo.mk (base:=base) (w:=w) (g:=g) (cap:=cap) (qs:=L.take i) (cur:=a) f j Wm l d (by
  rw[b];have e:(a.toList.take (L.length*9)).take (i*9)=a.toList.take (i*9):=by rw[Yr,Yh Wm]
  rw[<-e,p]
  conv=>lhs;rw[<-Yq i L,Yi]
  rw[Yn (by rw[qT (k:=9) _ (fun q c=>by rw[Q1,h.2.1 q (Ys c)]),b])]) (fun q c=>h.2.1 q (Ys c)) (Hm h.2.2)
 rw[b]at this;exact this
theorem zgy (m:Int) (B:Nat) (q:Int × List Int) (b:q.2.length=8) (w:Xn) (a:Box w B [I6 m]):
  Xp prog 216 #[Xi (ptc q).toArray,Xj (Xa ⟨B,0,Xb⟩)] w fun e w'=>e= Xl (Xh (q.1 == m))/\zc w w':=by
 obtain⟨p,n⟩:=q;obtain⟨c,d,f,g,h,i,j,k,rfl⟩:=zba n b;have l:=a.c 0 rfl;have r:=a.lt;clear a b
 show Xp prog 216 #[Xi #[I6 p,U8 c,U8 d,U8 f,U8 g,U8 h,U8 i,U8 j,U8 k],Xj (Xa ⟨B,0,Xb⟩)] w _
 go_enter func216,ntmps216
 go_wp2;go_ret;exact⟨rfl,za _ _⟩
theorem zkW (m:Int) (B:Nat) (w:Xn) (c:Box w B [I6 m]):zku 216 #[Xj (Xa ⟨B,0,Xb⟩)] (fun q=>q.1 == m) w:=fun W q b a=>zgy m B q a W (c.aA b)
theorem ze5 {α:Type} {p:α->Bool} {l:List α} (h:∀(j:Nat) q,l[j]? =Xa q->p q=Xd):l.filter (fun q=>!p q)=l:=by
 rw[List.filter_eq_self];intro q b;obtain⟨j,a⟩:=List.getElem?_of_mem b
 simp[h j q a]
theorem zdd {α:Type} {p:α->Bool} {l:List α} {k:Nat} (h:∀(j:Nat) q,j<k->l[j]? =Xa q->p q=Xd):(l.take k).filter (fun q=>!p q)=l.take k:=by
 refine ze5 (p:=p) fun j q a=>?_
 rw[Xx]at a
 split at a
 ·exact h j q (by assumption) a
 cases a
theorem zbF {w:Xn} (h:zc w w') (a:Option Nat):w.grownBy w' a:=⟨h.os,h.tape,h.output,h.size,fun k b _=>h.block k b⟩
theorem zes (m:Int) (B base:Nat) (v:Xq) (qs:List (Int × List Int)) (w:Xn) (hown:zo base w v qs) (hB:Box w B [I6 m]) (hBb:B<base) (h400:qs.length<=400):
  Xp prog 215 #[v,.func (.func 216) #[] #[Xj (Xa ⟨B,0,Xb⟩)]] w fun e w'=>∃v',e= Xl v'/\zo base w' v' (qs.filter fun q=>!(q.1 == m))/\w.grownBy w' v.ownBlock/\v'.ownBlock=v.ownBlock:=by
 have hix:=zbz (fun q=>q.1 == m) 216 #[Xj (Xa ⟨B,0,Xb⟩)] (enters_of func216 Kr rfl) v qs w hown.at (zkW m B w hB)
 have HO:Xo (zo base w v qs):=hown;have HB:Xo (Box w B [I6 m]):=hB;obtain⟨a,c,rfl⟩:=hown.form;clear hB hown;obtain⟨nq,HNQ⟩:=kA qs.length;rw[HNQ.out]at hix h400 HO⊢
 go_enter func215,ntmps215
 go_wp2_with (
        go_at_call 164;refine hix.mono ?_;clear hix;rintro e W1 ⟨r,rfl,hg1,hr⟩
        have HG1:Xo (zc w W1):=hg1;have HR:Xo (ztg (fun q=>q.1 == m) qs r):=hr
        clear hg1 hr)
 ·have hm1:(r == -1)=Xc:=by assumption
  have hr1:r=-1:=Si hm1
  go_ret
  rcases HR with⟨_,hall⟩|⟨k,q,hk,_⟩
  ·refine⟨_,rfl,?_,zbF HG1 _,rfl⟩;rw[ze5 (p:=fun q:Int × List Int=>q.1 == m) hall]
   exact HO.aA HG1.out
  omega
 have hm1:(r == -1)=Xd:=by assumption
 rcases HR with⟨hk,_⟩|⟨k,q0,rfl,hq0,hp0,hbefore⟩
 ·subst hk;exact absurd hm1 Dc
 have hkl:k<nq:=by rw[<-HNQ.out];exact(gS.1 hq0).1
 obtain⟨g,HA,HGB⟩:∃g,Xo (a=Xa ⟨g,0,Xb⟩)/\Xo (base<=g/\nq<=c/\c<=maxLen):=by
  rcases HO.1.2 with⟨_,h0⟩|⟨gv,cap,cur,h0,h1,_,h3,h4,_⟩
  ·have:=HNQ.out;omega
  rw[HNQ.out]at h3;cases h0;exact⟨gv,rfl,h1,h3,h4⟩
 have ha:=HA.out;subst ha;have H1:=dD (HO.aA HG1);have HGR:Xo (w.grownBy W1 (Xa g)):=zbF HG1 _;have HBX:=dD (HB.aA HG1);have hnc:nq<=c:=HGB.2.1;have hcm:c<=9223372036854775807:=by have:=HGB.2.2;simpa [maxLen]using this
 have HT0:Xo (qs.take k=(qs.take (k+1)).filter fun q=>!(q.1 == m)):=dD<|by
  rw[Xy (Rx HNQ.out hkl),Yv,zdd (p:=fun q:Int × List Int=>q.1 == m) hbefore]
  have:qs[k]'(Rx HNQ.out hkl)=q0:=by
   have:=gE (l:=qs) (i:=k) (Rx HNQ.out hkl)
   rw[hq0]at this;exact(Option.some.inj this).symm
  rw[this]
  simp[hp0]
 clear hm1 hq0 hp0 hbefore
 go_loopg [5,6,7] nq (fun gg s5 s6 _ wr=>∃(i j:Nat) (L:List (Int × List Int)),s5=I6 i/\s6=I6 j/\i<j/\j<=nq/\nq - j<=gg/\Xo (zo base wr (O (Xa ⟨g,0,Xb⟩) nq c) L)/\Xo (L.length=nq)/\Xo (L.take i=(qs.take j).filter fun q=>!(q.1 == m))/\Xo (L.drop j=qs.drop j)/\Xo (w.grownBy wr (Xa g))/\Xo (Box wr B [I6 m]))
 exact⟨k,k+1,qs,rfl,by rw[show wrap64 ((k:Int)+1)=(k:Int)+1 from by unfold wrap64;omega];rfl,Wm,Wm,Wm,H1,HNQ,HT0,rfl,HGR,HBX⟩
 obtain⟨i,j,L,rfl,rfl,hij,hjn,hgg,OP,HLL,HTK,HDR,HGW,HBW⟩:=hrel
 by_cases hlt:j<nq
 ·have hltz:=kC hlt
  have hlti:(i:Int)< (nq:Int):=Wm
  obtain⟨q,hqj⟩:∃q,qs[j]? =Xa q:=⟨_,gE (Rx HNQ.out hlt)⟩
  have hLj:L[j]? =Xa q:=by
   have h1:=congrArg (fun l=>l[0]?) HDR.out
   simp only[Yl,Nat.add_zero]at h1;rw[h1];exact hqj
  obtain⟨a',c',hsl,hrows⟩:=OP.at.rows;rw[HLL.out]at hsl;cases hsl;obtain⟨x,m',b0,b1,b2,b3,b4,b5,b6,b7,hx,rfl,hl⟩:=hrows j q hLj;cases hx;have hcells:=hl wr (zc.refl _);simp only[Ya,zA]at hcells;obtain⟨d0,d1,d2,d3,d4,d5,d6,d7,d8⟩:=hcells;have hcall:=zgy m B (m',[b0,b1,b2,b3,b4,b5,b6,b7]) rfl (wr.alloc (Xk #[I6 m',U8 b0,U8 b1,U8 b2,U8 b3,U8 b4,U8 b5,U8 b6,U8 b7] 117)) (HBW.alloc _);have HQJ:Xo (qs[j]? =Xa (m',[b0,b1,b2,b3,b4,b5,b6,b7])):=hqj;have HTS:Xo ((qs.take (j+1)).filter (fun q=>!(q.1 == m))=(qs.take j).filter (fun q=>!(q.1 == m))++ [(m',[b0,b1,b2,b3,b4,b5,b6,b7])].filter (fun q=>!(q.1 == m))):=show _=_ by
   have hjl:j<qs.length:=Rx HNQ.out hlt
   rw[Xy hjl,Yv];have:qs[j]'hjl=(m',[b0,b1,b2,b3,b4,b5,b6,b7]):=by
    have:=gE (l:=qs) (i:=j) hjl;rw[HQJ.out]at this;exact(Option.some.inj this).symm
   rw[this]
  have HDS:Xo (L.drop (j+1)=qs.drop (j+1)):=dD<|by
   have:=congrArg (Yf 1) HDR.out
   simpa [List.drop_drop]using this
  clear hl hrows hLj hqj
  cases hd:(m' == m)with
  | true=>
   rw[show(((m',[b0,b1,b2,b3,b4,b5,b6,b7]):Int × List Int).1 == m)=Xc from hd]at hcall
   go_wp2_with (go_at_call 216;refine hcall.mono ?_;clear hcall;rintro e W3 ⟨rfl,g3⟩)
   go_roundg (nq -(j+1))
   case measure=>omega
   refine⟨i,j+1,L,rfl,Gn,Wm,Wm,Wm,OP.aA ((za _ _).trans g3),HLL,?_,HDS,zeZ HGW ((za _ _).trans g3),HBW.aA ((za _ _).trans g3)⟩
   show L.take i=_
   rw[HTS.out,HTK.out]
   simp[hd]
  | false=>
   rw[show(((m',[b0,b1,b2,b3,b4,b5,b6,b7]):Int × List Int).1 == m)=Xd from hd]at hcall
   go_wp2_with (first
    | (
      go_at_call 216;refine hcall.mono ?_;clear hcall;rintro e W3 ⟨rfl,g3⟩
      have b3:=(Box.aE wr [I6 m',U8 b0,U8 b1,U8 b2,U8 b3,U8 b4,U8 b5,U8 b6,U8 b7] 117 rfl).aA g3;have y0:=b3.c 0 rfl;have y1:=b3.c 1 rfl;have y2:=b3.c 2 rfl;have y3:=b3.c 3 rfl;have y4:=b3.c 4 rfl;have y5:=b3.c 5 rfl;have y6:=b3.c 6 rfl;have y7:=b3.c 7 rfl;have y8:=b3.c 8 rfl;have O3:Xo (zo base W3 (O (Xa ⟨g,0,Xb⟩) nq c) L):=OP.aA ((za _ _).trans g3);have G3:Xo (w.grownBy W3 (Xa g)):=zeZ HGW ((za _ _).trans g3);have X3:Xo (Box W3 B [I6 m]):=HBW.aA ((za _ _).trans g3);clear b3)
    | (refine zcG rfl (.tmp 33) (.tmp 32) rfl base _ L O3 g i rfl (by rw[HLL.out];omega) (m',[b0,b1,b2,b3,b4,b5,b6,b7]) rfl _ rfl Sm rfl ?_;intro W4 ow4 gr4 _))
   go_roundg (nq -(j+1))
   case measure=>omega
   refine⟨i+1,j+1,L.set i (m',[b0,b1,b2,b3,b4,b5,b6,b7]),Gn,Gn,Wm,Wm,Wm,ow4,(show Xo _ from Rx Yd HLL),?_,?_,qM G3 gr4,X3.grown gr4 (Hm HGB.1)⟩
   ·show(L.set i _).take (i+1)=_
    rw[HTS.out,<-HTK.out,Xy (by rw[Yd,HLL.out];omega)]
    simp[hd]
    apply List.ext_getElem?
    intro t;rw[Xx,Xx]
    split
    ·rw[sN Wm]
    rfl
   show(L.set i _).drop (j+1)=_
   rw[List.drop_set_of_lt Wm]
   exact HDS.out
 have hltz:=kD hlt
 have hjn':j=nq:=Wm
 subst hjn';have hin:i<j:=hij;have HS:Xo (zo base wr (O (Xa ⟨g,0,Xb⟩) i c) (L.take i)):=OP.shrink i (by rw[HLL.out];omega)
 have HLI:Xo ((L.take i).length=i):=dD<|by rw[Xs,HLL.out];omega
 have HF:Xo (L.take i=qs.filter fun q=>!(q.1 == m)):=dD<|by rw[HTK.out,Ym (by rw[HNQ.out];exact nR _)]
 have h1:(i:Int)<=(j:Int):=Wm
 have h2:¬c=i:=Wm
 go_wp2_with (
        refine Jh rfl (.tmp 38) rfl base g c i (L.take i) HS _ (j - i) _ rfl (by rw[HLI.out];omega) (fun _=>by rw[HLI.out]) ?_;intro W3 ow3 gr3 _
        have O3:Xo (zo base W3 (O (Xa ⟨g,0,Xb⟩) i c) (L.take i)):=ow3;have G3:Xo (wr.grownBy W3 (Xa g)):=gr3;clear ow3 gr3)
 go_ret;exact⟨_,rfl,Ry HF.out O3,qM HGW G3,rfl⟩
def JB (ps:List (List Int)) (qs:List (Int × List Int)) (m:Int):List (List Int):=if zg ps.length qs m=0 then ps.set m.toNat zI else []
def Jz (ps:List (List Int)) (qs:List (Int × List Int)) (m:Int):List (Int × List Int):=if zg ps.length qs m=0 then qs.filter (fun q=>!(q.1 == m))else []
theorem zoY (d:Xq) (c:List (List Int)) (qs:List (Int × List Int)) (m:Int) (w:Xn) (E:ZG w d c qs) (i:¬zg c.length qs m=0):
  Xp prog 187 #[d,I6 m] w fun e w'=>∃x,e= Xl (Xm #[x,I6 (zg c.length qs m)])/\zO w.heap.size w' x [] []/\zc w w':=by
 obtain⟨H,G,rfl,y,q⟩:=E;have A:Xo (jr w G qs):=q;obtain⟨r,t,rfl,_⟩:=y.rows;obtain⟨s,u,rfl,_⟩:=q.rows;clear y q;obtain⟨g,a⟩:=kB (((w.alloc (Xk #[O r c.length t,O s qs.length u] 38)).alloc (Xk #[I6 m] 3)).alloc (Xk #[eS,eS] 38));have f:Xo (zc w g):=show zc w g by rw[<-a];exact((za _ _).trans (za _ _)).trans (za _ _)
 have D:Xo (Box g (w.heap.size+1+1) [eS,eS]):=dD<|by rw[<-a];exact Box.aE _ [eS,eS] _ Sm
 have b:=Zm r c.length t (O s qs.length u) qs m g (A.aA f);obtain⟨z,B⟩:=kA (zg c.length qs m);rw[B.out]at b i⊢;obtain⟨N,k⟩:=kA c.length;obtain⟨nq,l⟩:=kA qs.length;rw[k.out,l.out]at b a⊢;have n:Xo (_=g):=a;clear a;have F:(z != 0)=Xc:=Si i
 go_enter func187,ntmps187
 go_wp2_with (
        go_at_call 210;rw[n.out];refine b.mono ?_;rintro e C ⟨rfl,h⟩
        have p:=D.aA h;obtain⟨K,L⟩:=p.k2;have M:=p.f)
 refine bodyPost_ret (v:= Xm #[Xi #[eS,eS],I6 z]) (by simp[results,Tryz.results187,go_sem, *]) rfl ⟨_,rfl,zdp _ _,?_⟩
 have j:zc w C:=f.trans h;iterate 2 (refine zK ?_ (by simp;omega) _)
 exact j
theorem zqP (d:Xq) (f:List (List Int)) (qs:List (Int × List Int)) (i:Nat) (w:Xn) (ao:ZG w d f qs) (E:zg f.length qs (i:Int)=0):
  Xp prog 187 #[d,I6 (i:Int)] w fun e w'=>∃F,e= Xl (Xm #[F,I6 0])/\zO w.heap.size w' F (f.set i zI) (qs.filter fun q=>!(q.1 ==(i:Int)))/\zc w w':=by
 have b0:Xo (ZG w d f qs):=ao;obtain⟨bj,q,rfl,an,ad⟩:=ao;have b1:Xo (jr w q qs):=ad;obtain⟨P,R,rfl,_⟩:=an.rows;obtain⟨Q,S,rfl,_⟩:=ad.rows;clear an ad;obtain⟨X,bk,ac,aa⟩:=qq E;obtain⟨_,x,_⟩:=qk X;have ap:i<f.length:=Wm
 clear X ac aa;obtain⟨B,j⟩:=kB (((w.alloc (Xk #[O P f.length R,O Q qs.length S] 38)).alloc (Xk #[I6 (i:Int)] 3)).alloc (Xk #[eS,eS] 38));have h:Xo (zc w B):=dD<|by rw[<-j];exact((za _ _).trans (za _ _)).trans (za _ _)
 have a5:Xo (Box B w.heap.size [O P f.length R,O Q qs.length S]):=dD<|by rw[<-j];exact((Box.aE w [O P f.length R,O Q qs.length S] _ rfl).alloc _).alloc _
 have M:Xo (Box B (w.heap.size+1) [I6 (i:Int)]):=dD<|by rw[<-j];exact(Box.aE _ [I6 (i:Int)] _ Sm).alloc _
 have N:Xo (Box B (w.heap.size+1+1) [eS,eS]):=dD<|by rw[<-j];exact Box.aE _ [eS,eS] _ Sm
 have l:=Zm P f.length R (O Q qs.length S) qs (i:Int) B (b1.aA h);rw[E]at l;have u:∀W,zc B W->Xp prog 53 #[Xi #[O P f.length R,O Q qs.length S]] W fun e w'=>∃F,e= Xl F/\J9 W.heap.size w' F f qs/\zc W w':=fun W bd=>zb2 _ f qs W (b0.aA (h.trans bd))
 obtain⟨r,m⟩:=kA f.length;obtain⟨nq,y⟩:=kA qs.length;have H:Xo (qs.length<=400):=x;rw[m.out]at ap;rw[m.out,y.out]at l j a5⊢;simp only[m.out,y.out]at u;have a2:Xo (_=B):=j;have be:(i:Int)< (r:Int):=Wm
 clear j E x
 go_enter func187,ntmps187
 go_wp2_with (first
  | (
    go_at_call 210;rw[a2.out];refine l.mono ?_;clear l;rintro e s ⟨rfl,A⟩
    have g:Xo (zc B s):=A;have ba:=(a5.aA A).c 0 rfl;have bb:=(a5.aA A).c 1 rfl)
  | (
    go_at_call 53;refine(u s g).mono ?_;clear u;rintro e p ⟨F,rfl,a8,U⟩
    obtain⟨b7,bl,rfl,ae,ag⟩:=a8;obtain⟨k,a,a7⟩:∃k a,b7= O (Xa ⟨k,0,Xb⟩) r a:=by
     rcases ae.1.2 with⟨_,al⟩|⟨bc,a6,b8,al,_⟩
     ·have:=m.out;omega
     exact⟨bc,a6,by rw[al,m.out]⟩
    subst a7;obtain⟨b,c,rfl⟩:=ag.form;have aj:Xo (zs s.heap.size p (O (Xa ⟨k,0,Xb⟩) r a) f):=ae;have ak:Xo (zo s.heap.size p (O b qs.length c) qs):=ag;have C:Xo (zc s p):=U;rw[y.out]at ak;rw[y.out];clear ae ag A U ba bb;have bg:=((M.aA g).aA C).c 0 rfl;have bh:=((M.aA g).aA C).lt)
  | (
    refine Zo rfl (.tmp 21) (.tmp 20) rfl s.heap.size _ f (aj.aA (za p (Xk #[O (Xa ⟨k,0,Xb⟩) r a,O b nq c] 38))) k i rfl (Rx m.out ap) zI rfl _ rfl Sm rfl ?_
    intro D Y n _;have b2:=ak.aA (za p (Xk #[O (Xa ⟨k,0,Xb⟩) r a,O b nq c] 38));have a3:=aj.aA (za p (Xk #[O (Xa ⟨k,0,Xb⟩) r a,O b nq c] 38));have ah:=zl.aE p [O (Xa ⟨k,0,Xb⟩) r a,O b nq c] 38 rfl;have a9:=a3.lt k rfl;have K:Xo (zo s.heap.size D (O b nq c) qs):=b2.beside a3 n;have b3:Xo (zs s.heap.size D (O (Xa ⟨k,0,Xb⟩) r a) (f.set i zI)):=Y;have I:Xo (zl D p.heap.size 38 [O (Xa ⟨k,0,Xb⟩) r a,O b nq c]):=ah.beside n (a3.ne ah);have b5:Xo (Box D (w.heap.size+1+1) [eS,eS]):=(((N.aA g).aA C).aA (za p _)).beside n (fun G z=>by cases z;have T:=(N.aA g).lt;omega)
    have ax:Xo (Box D (w.heap.size+1) [I6 (i:Int)]):=(((M.aA g).aA C).aA (za p _)).beside n (fun G z=>by cases z;have T:=(M.aA g).lt;omega)
    have ay:Xo (zc w D):=zU (((h.trans g).trans C).trans (za _ _)) n (fun G z=>by cases z;have T:=bS (h.trans g);omega)
    obtain⟨au,aw⟩:=I.box.k2;clear Y n bg bh a9)
  | (
    go_at_call 215;refine(zes (i:Int) (w.heap.size+1) s.heap.size (O b nq c) qs D K ax (M.aA g).lt H).mono ?_
    rintro e L ⟨bi,rfl,Z,t,af⟩;have ai:Xo (zo s.heap.size L bi (qs.filter fun q=>!(q.1 ==(i:Int)))):=Z
    have b4:Xo (zs s.heap.size L (O (Xa ⟨k,0,Xb⟩) r a) (f.set i zI)):=b3.beside K t;have a0:Xo (zl L p.heap.size 38 [O (Xa ⟨k,0,Xb⟩) r a,O b nq c]):=I.beside t (K.ne I);have a4:Xo (Box L (w.heap.size+1+1) [eS,eS]):=b5.beside t (fun G z=>by have am:=(K.lt G z).1;have T:=(N.aA g).lt;omega)
    have az:Xo (zc w L):=zU ay t (fun G z=>by have am:=(K.lt G z).1;have T:=bS (h.trans g);omega)
    obtain⟨b6,b9,V⟩:=ai.form;obtain⟨bf,a1⟩:=kA ((qs.filter fun q=>!(q.1 ==(i:Int))).length)
    rw[a1.out]at V;subst V;clear au aw Z t af;obtain⟨au,aw⟩:=a0.box.k2;have bm:=a0.box.f;obtain⟨bn,bo⟩:=a4.k2;have bp:=a4.f;have ar:w.heap.size+1+1≠p.heap.size:=by have:=((N.aA g).aA C).lt;omega))
 refine bodyPost_ret (v:= Xm #[Xi #[O (Xa ⟨k,0,Xb⟩) r a,O b6 bf b9],I6 0]) (by simp[results,Tryz.results187,go_sem, *]) rfl ⟨_,rfl,?_,?_⟩
 ·exact zi1 b4 ai a0 (N.aA g).lt (bS (h.trans g))
 have am:=bS (h.trans g);have T:=bS C.out;iterate 3 (refine zK ?_ (by simp;omega) _)
 exact az.out
theorem zoZ (d:Xq) (a:List (List Int)) (qs:List (Int × List Int)) (m:Int) (w:Xn) (f:ZG w d a qs):
  Xp prog 187 #[d,I6 m] w fun e w'=>∃c,e= Xl (Xm #[c,I6 (zg a.length qs m)])/\zO w.heap.size w' c (JB a qs m) (Jz a qs m)/\zc w w':=by
 by_cases b:zg a.length qs m=0
 ·rw[show JB a qs m=a.set m.toNat zI from kE b,show Jz a qs m=qs.filter (fun q=>!(q.1 == m))from kE b,b]
  obtain⟨_,i,rfl,_⟩:=qq b;rw[tN];exact zqP d a qs i w f b
 rw[show JB a qs m=[]from kF b,show Jz a qs m=[]from kF b]
 exact zoY d a qs m w f b
variable{X:Nat->Prop}
def ZT (m:Ma) (fi ix:Nat):Ma:=match zcb m (fi:Int) (ix:Int)with
 | some c=>z2 m c.fr.toNat
 | none=>m
def zb6 (m:Ma) (fi ix:Nat):Ma:=
 if Qc m (fi:Int) (ix:Int)<0 then ZT m fi ix else{ ZT m fi ix with db:=JB m.db m.dq (Qc m (fi:Int) (ix:Int)),dq:=Jz m.db m.dq (Qc m (fi:Int) (ix:Int)) }
theorem zag (m:Ma) (fi ix:Nat):(ZT m fi ix).fl=m.fl/\(ZT m fi ix).db=m.db/\(ZT m fi ix).dq=m.dq/\(ZT m fi ix).cnt=m.cnt/\(ZT m fi ix).aB=m.aB:=by
 unfold ZT
 split <;> exact⟨rfl,rfl,rfl,rfl,rfl⟩
theorem zlJ {w:Xn} {p:Nat} (l:ChW w0 X p w V m) (H:Rt m) (fi ix:Nat) (F:Fl) (a9:m.fl[fi]? =Xa F) (b8:ix<F.bl.length):
  Xp prog 152 #[Xj (Xa ⟨p,0,Xb⟩),I6 (fi:Int),I6 (ix:Int)] w fun e w'=>(∃v,e= Xl v)/\Chg w0 X p w V (zb6 m fi ix) w':=by
 obtain⟨a,x⟩:∃a,F.bl[ix]? =Xa a:=⟨_,gE b8⟩;obtain⟨bp,aq,ao⟩:=jp H a9;have N:=zfM l H fi ix Wm
 have K:Qc m (fi:Int) (ix:Int)=a:=by
  unfold Qc
  simp[a9,x]
 have ai:Xo (∀(k:Nat) (d:Fr),m.fs[k]? =Xa d->d.f≠-1->d.r≠0->∀W aj,ChW w0 X p W aj m->Xp prog 186 #[Xj (Xa ⟨p,0,Xb⟩),I6 (k:Int)] W fun e w'=>(∃v,e= Xl v)/\Chg w0 X p W aj (z2 m k) w'):=dD<|fun k d a7 a8 bq W aj M=>zdT M H k d a7 a8 bq
 obtain⟨av,aw,ax,_,_⟩:=zag m fi ix;obtain⟨h,j⟩:=kA (ZT m fi ix);have t:Xo (zb6 m fi ix=if a<0 then h else{ h with db:=JB m.db m.dq a,dq:=Jz m.db m.dq a }):=dD<|by unfold zb6;rw[K,j.out]
 rw[j.out]at av aw ax;have ag:Xo (h.fl=m.fl/\h.db=m.db/\h.dq=m.dq):=⟨av,aw,ax⟩;have ac:Xo (∀(u:Ca) (k:Nat) (d:Fr),zcb m (fi:Int) (ix:Int)=Xa u->u∈m.ca->u.fr=(k:Int)->m.fs[k]? =Xa d->d.r≠0->d.f≠-1/\h=z2 m k):=show∀(u:Ca) (k:Nat) (d:Fr),_ from fun u k d a4 a5 a6 ak b3=>by
  obtain⟨bv,bn,bt,c1,bx,M⟩:=zga H.w a5;have bl:bv=k:=Hm M.fr
  subst bl;have:=M.fa.symm.trans ak;cases this;refine⟨by rw[M.ff];omega,?_⟩
  rw[<-j.out];unfold ZT;rw[a4];simp only;rw[a6,tN]
 have ab:Xo (zcb m (fi:Int) (ix:Int)=Xb->h=m):=dD<|fun e=>by
  rw[<-j.out];unfold ZT;rw[e]
 obtain⟨a2,ae⟩:=kA (zb6 m fi ix);rw[ae.out]at t⊢;have bg:Xo (ChW w0 X p w V m):=l;have i:Xo (m.fl[fi]? =Xa F/\F.bl[ix]? =Xa a):=⟨a9,x⟩;clear l H K av aw ax a9 x b8 bp aq ao
 go_enter func152,ntmps152
 go_wp2_with fail;refine N.mono ?_;clear N;rintro e a3 ⟨⟨b9,ar,rfl,b7⟩,an⟩;have aa:Xo (zc w a3):=an;have ay:=dD (bg.aA an);have C:Xo _:=show((ar=Xd/\zcb m (fi:Int) (ix:Int)=Xb)\/(ar=Xc/\_))from b7
 clear b7 an
 go_upto_if 16 with fail
 go_cut [] (fun bb=>∃(b:MaV),Xo (ChW w0 X p bb b h)/\Xo (zk (Dw p V) w bb)/\Xo (∀k,Dw p b k->Dw p V k\/w.heap.size<=k))
 case first=>
  cases ar with
  | true=>
   obtain⟨_,u,d,a4,a5,a6,ak,b3,al,am⟩:=C.resolve_left (fun l=>nomatch l.1)
   obtain⟨b6,G⟩:=ac.out u b9 d a4 a5 a6 al am;have A:=ai.out b9 d al b6 am a3 V ay.out;rw[<-G]at A;clear a4 a5 a6 ak b3 al am b6 G
   go_wp2_with (go_at_call 186;refine A.mono ?_)
   clear A;rintro e az v rfl ⟨b,b1,ba,b2⟩;have g:Xo (ChW w0 X p az b h):=b1;have B:Xo (zk (Dw p V) w az):=show zk _ _ _ from(zk.aA aa).trans ba
   have a1:Xo (∀k,Dw p b k->Dw p V k\/w.heap.size<=k):=Chg.far aa b2;clear b1 ba b2;go_wp2
   go_meet
   exact⟨b,g,B,a1⟩
  | false=>
   have G:=ab.out (C.resolve_right (fun l=>nomatch l.1)).2
   have g:Xo (ChW w0 X p a3 V h):=dD<|Rx G ay.out
   have B:Xo (zk (Dw p V) w a3):=zk.aA aa.out;clear G;go_wp2
   go_meet
   exact⟨V,g,B,fun _ l=> .inl l⟩
 obtain⟨b,g,B,a1⟩:=hcut;obtain⟨c3,c4,S,_,z⟩:=z7.rows g.at.fl;simp only[vJ]at S;obtain⟨Q,T,au⟩:=S;rw[ag.1]at z T;obtain⟨bm,R,c5,c6,r,P⟩:=z fi F i.1;have q:b.fl.a=Xa bm:=Q.trans R;have br:(fi:Int)< (b.fl.n:Int):=by
  have:=(gS.1 i.1).1;omega
 have bs:(ix:Int)< (F.bl.length:Int):=by
  have:=(gS.1 i.2).1;omega
 obtain⟨_,_,y,Z⟩:=r.bB;simp only[vJ]at y;obtain⟨bz,L,Y⟩:=Z ix a i.2;have bj:=Y wc (zc.refl _);rw[<-y.1]at L;subst L;have bw:=(P wc (zc.refl _)).2;have bc:=g.box.box.c 7 rfl;rw[q]at bc;clear Q T au z R P r Z Y y q
 by_cases f:a<0
 ·have b5:decide (0<=a)=Xd:=decide_eq_false Wm
  have ad:Xo (a2=h):=dD<|by rw[t.out,kE f]
  have c:Xo (Chg w0 X p w V a2 wc):=dD<|by rw[ad.out];exact⟨b,g,B,a1⟩
  clear f;go_wp2
  exact Ge c.out
 have b5:decide (0<=a)=Xc:=decide_eq_true Wm
 have ad:Xo (a2={ h with db:=JB m.db m.dq a,dq:=Jz m.db m.dq a }):=dD<|by rw[t.out,kF f]
 clear f;have ah:Xo (∀W,zc wc W->Xp prog 187 #[Xi #[b.db.x,b.dq.x],I6 a] W fun e w'=>∃n s:Sli,e= Xl (Xm #[Xi #[n.x,s.x],I6 (zg m.db.length m.dq a)])/\zO W.heap.size w' (Xi #[n.x,s.x]) (JB m.db m.dq a) (Jz m.db m.dq a)/\zc W w'):=dD<|fun W b4=>by
  have a7:=(g.at.aA b4).db;have a8:=(g.at.aA b4).dq;rw[ag.2.1]at a7;rw[ag.2.2]at a8;refine(zoZ (Xi #[b.db.x,b.dq.x]) m.db m.dq a W ⟨_,_,rfl,a7,a8⟩).mono ?_;rintro e w' ⟨c0,rfl,a0,bo⟩;obtain⟨n,s,rfl,_,_⟩:=a0.form;exact⟨n,s,rfl,a0,bo⟩
 go_upto_region 5 with fail;clear bw bc bj b5;have af:Xo (wc.rangeAt p 5 [b.db.x,b.dq.x]):=dD<|g.box.box.mid 5 (fun bu v U=>by
  match bu,U with
  | 0,U=>exact U
  | 1,U=>exact U)
 have I:=ah.out wc (zc.refl _)
 go_wp2_with (first | refine wpList_load_mid rfl 38 (.tmp 40) rfl p 5 rfl [b.db.x,b.dq.x] _ af underlying38 rfl Kr ?_ | (go_at_call 187;refine I.mono ?_))
 clear I;rintro e b0 ⟨n,s,rfl,a0,ap⟩;have bh:Xo (zO wc.heap.size b0 (Xi #[n.x,s.x]) (JB m.db m.dq a) (Jz m.db m.dq a)):=a0;have bf:Xo (zc wc b0):=ap;have be:=dD (g.box.aA ap);clear a0 ap
 go_wp2_with (refine qK rfl 38 (.tmp 48) (.tmp 44) rfl p 5 rfl (Xi #[n.x,s.x]) rfl [n.x,s.x] rfl be (by simp[chL]) Kr (by simp[Value.oneCell']) ?_)
 intro bi D E _;have c:Xo (Chg w0 X p w V a2 bi):=dD<|by
  rw[ad.out];exact Chg.step B a1 (g.bT bf (nR _) bh E D).bW
 clear D E;go_wp2
 exact Ge c.out
def Zg (m M:Ma):Prop:=∀J:Ma->Prop,J m->(∀(N:Ma) (c:Ca) (k fi ix:Nat) (f:Fr) (F:Fl),J N->c∈N.ca->zoS N c k fi ix f F->f.d=Xc->Zh N.fl N.cnt f.f f.x=0->J (clM N k f F))->J M
theorem Zg.refl (m):Zg m m:=fun _ h _=>h
theorem Zg.step {c:Ca} {k:Nat} {f:Fr} {F:Fl} (h:Zg m M) (d:c∈M.ca) (hi:zoS M c k fi ix f F) (e:f.d=Xc) (b:Zh M.fl M.cnt f.f f.x=0):Zg m (clM M k f F):=fun J g a=>a M c k fi ix f F (h J g a) d hi e b
theorem zqE (m:Ma) (k:Nat) (f F):(clM m k f F).ca=m.ca:=by
 unfold clM
 split
 ·exact(zme _ _ _ _).2.2.1
 rfl
theorem Zg.ok (h:Zg m M) (a:Rt m):Rt M/\M.ca=m.ca:=
 h (fun M=>Rt M/\M.ca=m.ca) ⟨a,rfl⟩ fun N _ _ _ _ _ _ a c d _ b=>⟨zqf a.1 c d b,Rx zqE a.2⟩
def QL (m:Ma):Ma:={ m with db:=jL (fun _=>Xc) m.db m.dq,dq:=[] }
def Jl (file:Int) (i:Nat) (M:Ma):Prop:=∀(j:Nat) c (k:Nat) f,j<i->M.ca[j]? =Xa c->c.file=file->c.fr=(k:Int)->M.fs[k]? =Xa f->f.d=Xd
theorem zjh {file:Int} {i k:Nat} {f:Fr} {F:Fl} {c:Ca} (h:Jl file i M) (q:M.ca[i]? =Xa c) (n:M.fs[k]? =Xa f) (a:c.fr=(k:Int)) (e:Zh M.fl M.cnt f.f f.x=0):Jl file (i+1) (clM M k f F):=fun j m l p a b d g a=>by
 rw[zqE]at b;rw[zki e]at a
 by_cases e:l=k
 ·subst e;rw[sF (gS.1 n).1]at a;cases a;rfl
 rw[sN (fun h=>e h.symm)]at a
 by_cases n:j=i
 ·subst n;rw[q]at b;cases b;exact absurd Wm e
 exact h j m l p Wm b d g a
def zkr (m:Ma):Prop:=∃(M:Ma) (c:Ca) (k fi ix:Nat) (f:Fr) (F:Fl),Zg m M/\c∈M.ca/\zoS M c k fi ix f F/\f.d=Xc/\Zh M.fl M.cnt f.f f.x≠0
theorem zmz (V:MaV) (m:Ma) (file:Int) (w:Xn) (da:zw w V m) (c7:Rt m) (ce:0<=file) (az:file< (m.fl.length:Int)):
  Xp prog 94 #[Xi (mL V m).toArray,I6 file] w fun e w'=>((e= Xl (Xm #[Xi qj.toArray,I6 10])/\zkr m)\/∃(M:Ma) (V':MaV),Zg m M/\Jl file M.ca.length M/\e= Xl (Xm #[Xi #[V'.f.x,I6 (QL M).aB,V'.s.x,V'.sb.x,V'.sq.x,V'.db.x,V'.dq.x,V'.fl.x,I6 (QL M).cnt,V'.ca.x,V'.sp.x],I6 0])/\∀W,zk (fun k=>k<w.heap.size) w' W->zw W V' (QL M))/\zc w w':=by
 have b5:=c7.w;obtain⟨am,z⟩:=kB ((w.alloc (Xk (mL V m).toArray 45)).alloc (Xk zM.toArray 45));have cr:=gD2 z
 obtain⟨s,ag⟩:=kA w.heap.size;have cx:Xo (zl am s 45 (mL V m)):=dD<|by rw[<-z];exact(zl.aE w (mL V m) _ ag.symm).aA (za _ _)
 have dl:Xo (zl am (s+1) 45 qj):=dD<|by rw[<-z];exact zl.aE _ qj _ (by have:=ag.out;simp;omega)
 have A1:Xo (zw am V m):=da.aA cr.out;have bv:Xo (_=am):=z;have b6:=QA V m am A1 b5;clear b5;have cs:Xo (Rt m):=c7;clear z da c7
 go_enter func94,ntmps94
 go_upto_region 1 with fail;rw[bv.out,ag.out];obtain⟨cl,cm,cn,co,cp,b9,ba,R,cq,a8,a7⟩:=cx.box.bL;go_wp2_with fail;refine b6.mono ?_;clear b6 cl cm cn co cp b9 ba R cq a8 a7;rintro e F ⟨rfl,au⟩;have cy:=dD (cx.aA au);have cz:=dD (dl.aA au);have A2:=dD (A1.aA au);have bl:=dD (cr.trans au);clear au;obtain⟨-,-,-,-,-,-,de,-⟩:=A2.ns;have R:=cy.box.c 7 rfl;simp only[Sli.x]at R;rw[de]at R;clear de;obtain⟨ds,bq⟩:=kA m.fl.length;rw[bq.out]at R az;have c8:decide (file<0)=Xd:=Si ce
 have cb:decide ((ds:Int)<=file)=Xd:=Si az
 go_upto_region 6 with fail;clear R c8 cb;have b3:=zp7 V m F A2.out;obtain⟨cl,cm,cn,co,cp,b9,ba,R,cq,a8,a7⟩:=cy.box.bL;go_wp2_with fail;refine b3.mono ?_;clear b3 cl cm cn co cp b9 ba R cq a8 a7;rintro e cu ⟨r,c2,rfl,cd⟩;have bb:Xo (ChW F noX r cu c2 m):=cd;have T:Xo (s+1<F.heap.size):=cz.box.lt;have dm:Xo (zl cu (s+1) 45 qj):=cz.aA cd.gr;clear cd;obtain⟨⟨c3,b,ar⟩,d⟩:∃ca,Xo (c2.ca=ca):=⟨_,rfl⟩;obtain⟨-,-,-,-,-,-,-,b7,-⟩:=bb.at.ns;have a8:=bb.box.box.c 9 rfl;rw[d.out]at a8 b7;dsimp only at a8 b7;have ak:Xo (b=m.ca.length):=b7;have d7:b<=9223372036854775807:=Rx b7 bb.ca.at.short
 clear b7;go_wp2;clear a8
 go_loopg [35] b (fun du cj wr=>∃i:Nat,i<=b/\b - i<=du/\cj=I6 i/\(∃V' M,Xo (V'.ca=⟨c3,b,ar⟩)/\Xo (ChW F noX r wr V' M)/\Xo (Zg m M)/\Xo (Jl file i M))/\Xo (zl wr (s+1) 45 qj))
 exact⟨0,nZ _,Wm,rfl,⟨c2,m,d,bb,Zg.refl m,fun cg ap k f Y=>absurd Y (nL _)⟩,dm⟩
 obtain⟨i,ee,dv,rfl,⟨j,M,d,c,g,c0⟩,ae⟩:=hrel;have br:Xo (Rt M):=(g.ok cs).1;have aj:Xo (M.ca=m.ca):=(g.ok cs).2
 by_cases b1:i<b
 rotate_left
 ·have b2:=kD b1
  have dj:Xo (Jl file M.ca.length M):=dD<|by
   have:M.ca.length=i:=by rw[aj.out,<-ak.out];omega
   rw[this];exact c0.out
  have A:=zhy (Xi #[j.db.x,j.dq.x]) M.db M.dq wr ⟨_,_,rfl,c.at.db,c.at.dq⟩;have b9:=c.box.box.c 5 rfl;have ba:=c.box.box.c 6 rfl;go_wp2_with fail;refine A.mono ?_;clear A b9 ba;rintro e cv ⟨ed,rfl,ch,c6⟩;obtain⟨c4,Q,rfl,-,-⟩:=ch.form;have df:Xo (zO wr.heap.size cv (Xi #[c4.x,Q.x]) (jL (fun _=>Xc) M.db M.dq) []):=ch
  have dh:Xo (zc wr cv):=c6;have bj:=dD (c.box.aA c6);clear ch c6
  go_upto_region 14 with(refine qK rfl 38 (.tmp 77) (.tmp 73) rfl r 5 rfl (Xi #[c4.x,Q.x]) rfl [c4.x,Q.x] rfl bj (by simp[chL]) Kr (by simp[Value.oneCell']) ?_)
  intro cw ao aw _;obtain⟨C,-,aq,b8,-⟩:=c.bT dh (nR _) df aw ao;have S:Xo (ChW F noX r cw C (QL M)):=aq;have be:Xo (zl cw (s+1) 45 qj):=ae.aK b8 (fun e=>by have:=c.dlo _ e;have:=T.out;omega)
  clear ao aw aq b8;have ae:=be;try simp only[Xw]
  obtain⟨bc,U⟩:=kA (QL M);rw[U.out]at S;obtain⟨e0,e1,e2,e3,e4,e5,e6,e7,e8,ea,ci⟩:=S.box.box.bL;have bz:Xo (∀ck∈chL C bc,ck.oneCell'=Xc):=dD<|by simp[chL,Value.oneCell']
  go_wp2_with (refine zm rfl 45 (.tmp 4) (.tmp 81) rfl (s+1) rfl (chL C bc) rfl ae rfl Kr bz.out ?_)
  clear e0 e1 e2 e3 e4 e5 e6 e7 e8 ea ci;intro ac an p _;have bm:Xo (zc w ac):=dD<|zd (bl.trans S.gr) p (Hm ag.out)
  have bi:Xo (zl ac (s+1) 45 (chL C bc)):=an;have di:Xo (∀W,zk (fun k=>k<w.heap.size) ac W->zw W C bc):=show∀W,_ from fun W Z=>S.cF ((zk.grown p (show s+1<F.heap.size from T.out)).trans (Z.wide fun k dw=>Xu dw (bS bl)))
  clear an p;go_wp2;refine bodyPost_ret (z5 rfl _ rfl bi.box underlying45 rfl Kr) rfl ⟨.inr ⟨M,C,g,dj,Rr U.out,Rx U.out di⟩,bm⟩
 have b2:=kC b1
 obtain⟨ap,n⟩:∃ap,Xo (M.ca[i]? =Xa ap):=⟨_,gE (by rw[aj.out];have:=ak.out;omega)⟩
 obtain⟨k,N,bh,f,bk,B⟩:=zga br.w (mG n);have a:Xo (zoS M ap k N bh f bk):=B;obtain⟨dn,a0,ay⟩:=c.at.cas i ap n.out;rw[d.out]at a0;dsimp only at a0;subst a0;obtain⟨d3,d4,d5⟩:=ay wr (zc.refl _);rw[B.fr]at d5;rw[B.file]at d3;rw[B.idx]at d4;clear ay B;go_upto_region 10 with fail;obtain⟨Q,bt⟩:=kA wr.heap.size;obtain⟨G,L⟩:=kB (wr.alloc (Xk #[I6 (N:Int),I6 (bh:Int),I6 (k:Int)] 105));have aa:=gA L
 have dk:=xPT L bt
 have bg:¬Dw r j Q:=fun e=>absurd (c.aM _ e) (Hm bt.out)
 rw[L,bt.out];clear L d3 d4 d5;obtain⟨u,P,A⟩:=c.at.bF k f a.fa;obtain⟨dy,-⟩:=c.at.ns;have d8:(k:Int)< (j.f.n:Int):=by
  have:=(gS.1 a.fa).1;omega
 have bw:Xo (∀W,zc G W->W.cell? ⟨r,0,Xb⟩=Xa (O (Xa u) j.f.n j.f.c)):=dD<|fun W Z=>by
  have:=(c.box.box.aA (aa.trans Z)).c 0 rfl;rw[P]at this;exact this
 obtain⟨bf,D⟩:=kA f.d;have bp:Xo (∀W,zc G W->W.cell? { block:=(u.add (k*13)).block,off:=(u.add (k*13)).off+10 }=Xa (Xh bf)):=dD<|fun W Z=>by
  obtain⟨_,_,_,_,_,_,_,_,_,_,c5,_,_⟩:=A W (aa.trans Z);rw[<-D.out];exact c5
 obtain⟨c1,bu⟩:=kA (decide (Zh M.fl M.cnt f.f f.x=0));obtain⟨ab,bs⟩:=kA (clM M k f bk);have bn:Xo (∀W,zc G W->Xp prog 158 #[Xj (Xa ⟨r,0,Xb⟩),I6 (k:Int)] W fun e w'=>e= Xl (Xh c1)/\zaJ F noX r W j ab w'):=dD<|fun W Z=>by
  rw[<-bu.out,<-bs.out];exact zi8 (c.aA (aa.trans Z)) k f a.fa N bh bk a.ff a.fx a.fl a.sz a.lo
 clear P A dy;have al:Xo (f.d=Xd\/(N:Int)≠file->Jl file (i+1) M):=dD<|fun Y cg dp dc dr ef a1 b0 cf a2=>by
  by_cases e:cg=i
  ·subst e;rw[n.out]at a1;cases a1;have:dc=k:=Hm a.fr
   subst this;rw[a.fa]at a2;cases a2
   rcases Y with Y|Y
   ·exact Y
   exact absurd (a.file.symm.trans b0) Y
  exact c0 cg dp dc dr Wm a1 b0 cf a2
 have av:zc G G.drew:=show Below _ _ _ from(bR _ _).drew
 obtain⟨X,ai⟩:=Wq fun a6=>zl a6 Q 105 [I6 (N:Int),I6 (bh:Int),I6 (k:Int)]
 have v:X G.drew:=(ai _).2 (dk.aA av);have H:zc G G.drew:=av;have a4:=fun a9:zq X=>((ai _).1 a9.holds).box.c 0 rfl
 have a5:=fun a9:zq X=>((ai _).1 a9.holds).box.c 2 rfl
 have a3:Nonempty (zq X):=⟨⟨_,v⟩⟩;obtain⟨ct,E⟩:=kA ((N:Int) == file);have b4:((N:Int) == file)=ct:=E.out;refine Qi (I:=X) 24 [(21,fun ck=>ck= Xh c1)] [10,15] (fun a6=>zc G a6) v H zW Kr rfl rfl Dc (Sa ⟨_,rfl⟩) Kr Kr ?_
 simp only[Yj,Yf];iterate 3 refine qF ?_
 refine Zq rfl rfl rfl (fun K l=>?_);go_big_quiet_op;(try rw[b4]);refine l _ ?_;clear l K
 refine Zq rfl rfl rfl (fun K l=>?_);go_big_quiet_op;refine l _ ?_;clear l K
 clear b4
 cases ct with
 | false=>
  have t:Xo (Jl file (i+1) M):=al.out (.inr (Si E.out))
  iterate 11 (refine zdy rfl ?_;simp only[Xw,sB,sS,sZ])
  iterate 2 refine qF ?_
  iterate 5 (refine zdy rfl ?_;simp only[Xw,sB,sS,sZ])
  refine Zq rfl rfl rfl (fun K l=>?_);go_big_quiet_op;refine l _ ?_;clear l K
  refine zak fun bd y h=>?_
  have af:=dD (aa.trans h);clear y h v H a4 a5 a3 av bg;go_wp2
  go_roundg (b -(i+1));exact⟨i+1,Wm,Wm,Gn,⟨j,M,d,c.aA af,g,t⟩,ae.aA af⟩;omega
 | true=>
  refine Zq rfl rfl rfl (fun K l=>?_);go_big_quiet_op;refine l _ ?_;clear l K
  refine JR (.tmp 44) ⟨r,0,Xb⟩ rfl rfl rfl rfl ?_;refine Uq ?_;iterate 3 refine qF ?_
  refine zbx rfl rfl rfl (O (Xa u) j.f.n j.f.c) (fun w' _ q=>?_) ?_
  ·exact zeI 30 (.tmp 48) rfl r 0 rfl (O (Xa u) j.f.n j.f.c) (bw w' q) underlying30 rfl
  refine Uq ?_;iterate 4 refine qF ?_
  refine zbx rfl rfl rfl (Xh bf) (fun w' _ q=>?_) ?_
  ·exact zeH 4 (.tmp 53) rfl _ rfl (Xh bf) (bp w' q) underlying4 rfl
  refine Uq ?_;iterate 2 refine qF ?_
  cases bf with
  | false=>
   have t:Xo (Jl file (i+1) M):=al.out (.inl D);iterate 5 (refine zdy rfl ?_;simp only[Xw,sB,sS,sZ])
   refine Zq rfl rfl rfl (fun K l=>?_);go_big_quiet_op;refine l _ ?_;clear l K
   refine zak fun bd y h=>?_
   have af:=dD (aa.trans h);clear y h v H a4 a5 a3 av bg;go_wp2
   go_roundg (b -(i+1));exact⟨i+1,Wm,Wm,Gn,⟨j,M,d,c.aA af,g,t⟩,ae.aA af⟩;omega
  | true=>
   iterate 3 refine qF ?_
   refine JQ rfl rfl (fun _ a6=>zaJ F noX r wr j ab a6) (fun w' cc q=>?_) (fun eg dx=>?_)
   ·refine zP.call [Xj (Xa ⟨r,0,Xb⟩),I6 (k:Int)] rfl func158 rfl rfl rfl ?_;refine(bn w' q).mono ?_;rintro e eb ⟨rfl,ax⟩;have dt:=zaJ.aI (aa.trans q) ax;obtain⟨ec,_,_,dz,_⟩:=ax;exact⟨_,rfl,(ai _).2 (((ai _).1 cc).bW dz bg),rfl,dt⟩
   subst dx;refine Uq ?_;iterate 2 refine qF ?_
   refine zak fun bd y h=>?_
   obtain⟨C,d6,aq,b8,dq⟩:=h;have S:Xo (ChW F noX r bd C ab):=aq;have dg:Xo (C.ca=⟨Xa dn,b,ar⟩):=show _=_ from d6.trans d.out
   have be:Xo (zl bd (s+1) 45 qj):=ae.aK b8 (fun e=>by have:=c.dlo _ e;have:=T.out;omega)
   clear y d6 aq b8 dq v H a4 a5 a3 av bg
   cases c1 with
   | true=>
    have ah:Xo (Zh M.fl M.cnt f.f f.x=0):=dD<|of_decide_eq_true bu.out
    have bo:Xo (Zg m ab):=dD<|by rw[<-bs.out];exact Zg.step g (mG n) a D ah.out
    have t:Xo (Jl file (i+1) ab):=dD<|by rw[<-bs.out];exact zjh c0 n a.fa a.fr ah.out
    go_wp2
    go_roundg (b -(i+1));exact⟨i+1,Wm,Wm,Gn,⟨C,ab,dg,S,bo,t⟩,be⟩;omega
   | false=>
    have E:Xo (zkr m):=dD<|⟨M,_,k,_,_,f,_,g,mG n,a,D,of_decide_eq_false bu⟩
    go_wp2_with (refine zm rfl 45 (.tmp 4) (.tmp 63) rfl (s+1) rfl qj rfl be rfl Kr (by simp[qj,Value.oneCell']) ?_)
    intro ac an p _;have bm:Xo (zc w ac):=dD<|zd (bl.trans S.gr) p (Hm ag.out)
    have bi:Xo (zl ac (s+1) 45 qj):=an;clear an p;go_wp2;refine bodyPost_ret (z5 rfl _ rfl bi.box underlying45 rfl Kr) rfl ⟨.inl ⟨rfl,E⟩,bm⟩
theorem zfd (h:Rt m) {c:Ca} {k:Nat} {f:Fr} {F:Fl} (d:c∈m.ca) (hi:zoS m c k fi ix f F) (a:Zh m.fl m.cnt f.f f.x=0):Qd (fun _ _=>False) m (clM m k f F):=by
 obtain⟨b,e,g,-⟩:=zfo (fun _ _=>False) h d hi a (qJ (pgL f.p) f.x F.size)
 have d:(ZK m fi ix F (b:Int) (qn m.db m.dq) (qh m.dq (b:Int) (qJ (pgL f.p) f.x F.size))).fs[k]? =Xa f:=hi.fa;have b:=zeS (fun _ _=>False) g.rt d hi.r f.u Xd
 unfold clM;rw[kE a,e];exact g.trans b
theorem Zg.goes (h:Zg m M) (a:Rt m):Qd (fun _ _=>False) m M:=
 h (fun N=>Qd (fun _ _=>False) m N) (Qd.refl a) fun _ _ _ _ _ _ _ a c d _ b=>a.trans (zfd a.rt c d b)
theorem zhx (i:Nat):∀(qs:List (Int × List Int)) (j:Nat) (ps:List (List Int)),i<ps.length->(∀q∈qs,∃k:Nat,q.1=(k:Int)/\k<ps.length)->
  (qB (fun _=>Xc) qs j ps).getD i zI=zgX (qs.reverse.find? (fun q=>q.1 ==(i:Int))) (ps.getD i zI)
 | [],_,_,_,_=>rfl
 | q :: r,j,ps,hi,hin=>by
  obtain⟨k,hk,hlt⟩:=hin q Sm
  unfold qB;simp only[if_true];rw[zhx i r (j+1) _ (Si hi) (fun x hx=>by
   obtain⟨k',h1,h2⟩:=hin x (by simp[hx])
   exact⟨k',h1,Si h2⟩)]
  rw[List.reverse_cons,List.find?_append]
  cases hf:r.reverse.find? (fun q=>q.1 ==(i:Int))with
  | some x=>rfl
  | none=>
   simp only[Option.none_or,List.find?_cons,List.find?_nil,zgX]
   by_cases hki:k=i
   ·subst hki
    simp[hk,hlt]
   have hne:(q.1 ==(i:Int))=Xd:=by rw[hk];simp;omega
   rw[hne];simp only[hk,tN,gD];rw[sN hki]
theorem zcg {a:List (List Int)} {qs:List (Int × List Int)} (h:zB a.length qs=0) (m:Int):zS (qB (fun _=>Xc) qs 0 a) [] m=zS a qs m:=by
 have b:zB (qB (fun _=>Xc) qs 0 a).length []=0:=Jv (by rw[j4];exact(qk h).1) Sm Sm
 have d:zg (qB (fun _=>Xc) qs 0 a).length [] m=zg a.length qs m:=by
  rw[ZY h,ZY b,j4]
 by_cases b:zg a.length qs m=0
 ·obtain⟨_,i,rfl,c⟩:=qq b;rw[Q0 b,Q0 (d.trans b)];simp only[List.reverse_nil,List.find?_nil,zgX,tN];exact zhx i qs 0 a c (qk h).2.2
 have c:¬zg (qB (fun _=>Xc) qs 0 a).length [] m=0:=Rx d b
 unfold zS;rw[kF b,kF c]
theorem zdL (h:Rt m):Qd (fun _ _=>False) m (QL m):=by
 have e:jL (fun _=>Xc) m.db m.dq=qB (fun _=>Xc) m.dq 0 m.db:=kE h.inv.aU
 unfold QL;rw[e];exact zlq _ h (j4 _ _ _ _) (zbj _ _ _ _) (zcg h.inv.aU)
theorem Qd.bytes (h:Rt m) (g:Qd (fun _ _=>False) m m') (file:Nat):jD m' (file:Int)=jD m (file:Int):=by
 have a:jT m' (file:Int)=jT m (file:Int):=by
  unfold jT;rw[g.rt.w,h.w,g.aW.fll]
 unfold jD;rw[a,(g.views h).2]
end
end Go.Proofs.YtmfckdkcmbncdaaGreat
