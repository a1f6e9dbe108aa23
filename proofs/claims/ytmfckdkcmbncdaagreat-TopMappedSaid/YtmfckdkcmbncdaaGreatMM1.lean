import Derived.Test.YtmfckdkcmbncdaaGreatMM0
import Derived.RangeFuncNested
import Derived.RangeFuncBound
import Derived.RangeFuncCalls
import Derived.RangeFuncLeaves
import Derived.Shelf.RegionOpen
import Derived.OwnWalkIn
import Derived.TacticsInMore
import Derived.LoopNIn
import Derived.LoopIn
namespace Go.Proofs.YtmfckdkcmbncdaaGreat
open Go.Value renaming slice→O,int→Xe,bool→Xh,agg→Xi,pointer→Xj,tuple→Xm
open Go.IntKind renaming i64→Xf,u8→Xg
open Go.Obj renaming cells→Xk
open Go.Ending renaming returned→Xl
open Go renaming World→Xn,Calls→Xp,Value→Xq
open Go.RowKit renaming Hid→Xo
open Option renaming some→Xa,none→Xb
open Bool renaming true→Xc,false→Xd
open List renaming replicate→Xr
open Go.Region renaming wanted→Xs
open Go.Sem renaming run_bind→Xt,run_pure→Yb
open _root_.Nat renaming lt_of_lt_of_le→Xu
open _root_.List renaming length_cons→Xv,length_set→Xw,take_of_length_le→Xx,mem_map→Xy,eq_of_mem_replicate→Xz,drop_of_length_le→Ya,mem_append→Yc,any_eq_true→Yd,length_nil→Ye,ext_getElem?→Yf,take_zero→Yg,countP_le_length→Yh,cons_append→Yi,nil_append→Yj,mem_range→Yl,mem_of_find?_eq_some→Ym,mem_or_eq_of_mem_set→Yn,getElem?_append_left→Yo,size_toArray→Yp,length→Yq,take→Yr,drop→Ys,all_eq_true→Yt,map_toArray→Yu,length_take→Yv,map_nil→Yw,map_append→Yx,length_singleton→Yz,append_toArray→Oc,find?_eq_none→Of,mem_singleton→Og,getElem?_map→Oi,append_assoc→Oj,find?_append→Ok,push_toArray→Ol,take_add_one→Om
open Go.Addr renaming add_lit→Yk
open _root_.Bool renaming eq_iff_iff→Yy,false_eq_true→Oe
open _root_.Array renaming replicate_succ→Oa,replicate_zero→Ob,toList_modify→Od,forIn_toList→Oh,toList_push→Oo
set_option maxRecDepth 100000
set_option maxHeartbeats 4000000
variable{B B0 B1 b base' cl g hi id j kk:Nat}{L:List Oper}{Q:Exit->Act->Xn->Prop}{V:MaV}{W w':Xn}{l:List Ar}{m m':Ma}{o oj:Oper}{ops:Array Oper}{t:TypeId}{us vs xs:List Xq}{z:Int}
open Go.Proofs.Tryz
section
open Go.RowKit
def JZ(l:List Ar):Nat->Option Ar
 |0=>Xb
 |k+1=>l[k]?
theorem zaI(p:Option Ar)(a:Ar)(l)(i:Nat):zcF p (a::l) i=if arW a≠0 then(arW a,(i:Int))else match p with|some b=>if a.fr<b.tz\/goB a b=Xc then(2,(i:Int))else zcF (Xa a) l (i+1)|none=>zcF (Xa a) l (i+1):=by
 cases p<;>rfl
theorem zpt{k:Nat}{q:Ar}{r:Int×Int}(h:zcF (JZ l k) (l.drop k) k=r)(a:l[k]?=Xa q)(b:arW q≠0):r=(arW q,(k:Int)):=by
 rw[jI a,zaI,kE b]at h;exact h.symm
theorem zlo{q:Ar}{r:Int×Int}(h:zcF (JZ l 0) (l.drop 0) 0=r)(a:l[0]?=Xa q)(b:arW q=0):zcF (JZ l 1) (l.drop 1) 1=r:=by
 rw[jI a,zaI,kF (fun h=>h b)]at h
 grind[JZ]
theorem ziV{b q:Ar}{r:Int×Int}(h:zcF (JZ l (j+1)) (l.drop (j+1)) (j+1)=r)(d:l[j]?=Xa b)(a:l[j+1]?=Xa q)(c:arW q=0)(e:q.fr<b.tz\/goB q b=Xc):r=(2,((j+1:Nat):Int)):=by
 rw[jI a,zaI,kF (fun h=>h c)]at h
 grind[JZ]
theorem znM{b q:Ar}{r:Int×Int}(h:zcF (JZ l (j+1)) (l.drop (j+1)) (j+1)=r)(e:l[j]?=Xa b)(c:l[j+1]?=Xa q)(d:arW q=0)(f:¬q.fr<b.tz)(a:goB q b=Xd):zcF (JZ l (j+1+1)) (l.drop (j+1+1)) (j+1+1)=r:=by
 rw[jI c,zaI,kF (fun h=>h d)]at h
 grind[JZ]
theorem zps{r:Int×Int}(h:zcF (JZ l l.length) (l.drop l.length) l.length=r):r=(0,0):=by
 rw[List.drop_length,zcF]at h;exact h.symm
theorem zlt(h:¬16<l.length):zcF (JZ l 0) (l.drop 0) 0=wrL l:=by
 unfold wrL;rw[kF h];rfl
theorem zcC(v l w)(a5:zj arE w v l):
  Xp prog 117 #[v] w fun e w'=>e=Xl (Xi #[I6 (wrL l).1,I6 (wrL l).2])/\zc w w':=by
 have a3:=a5.short;obtain⟨cc,cd,rfl,C⟩:=a5.aE;have Z:=dD C;have aw:Xo (∀(q:Ar)W,Xp prog 129 #[Xi #[I6 q.fr,I6 q.tz,Xh q.rd,Xh q.wr,Xh q.sh,I6 q.file,I6 q.base]] W fun e w'=>e=Xl (I6 (arW q))/\zc W w'):=fun q W=>zaH q W
 have aq:Xo (∀(q b:Ar)W,jK b->Xp prog 166 #[Xi #[I6 q.fr,I6 q.tz,Xh q.rd,Xh q.wr,Xh q.sh,I6 q.file,I6 q.base],Xi #[I6 b.fr,I6 b.tz,Xh b.rd,Xh b.wr,Xh b.sh,I6 b.file,I6 b.base]] W fun e w'=>e=Xl (Xh (goB q b))/\zc W w'):=fun q b W a2=>zen q b W a2
 clear C a5;have ak:Xo (¬16<l.length->zcF (JZ l 0) (l.drop 0) 0=wrL l):=zlt;have ah:Xo (16<l.length->wrL l=(4,0)):=fun a2=>by unfold wrL;rw[kE a2]
 have V:Xo (∀T,zcF (JZ l l.length) (l.drop l.length) l.length=T->T=(0,0)):=fun T=>zps
 obtain⟨n,R⟩:=kA l.length;rw[R.out]at a3⊢;have A:Xo (¬16<n->zcF (JZ l 0) (l.drop 0) 0=wrL l):=dD<|Ry R.out ak.out
 have z:Xo (16<n->wrL l=(4,0)):=dD<|Ry R.out ah.out
 have F:Xo (∀T,zcF (JZ l n) (l.drop n) n=T->T=(0,0)):=dD<|Ry R.out V.out
 skip
 generalize c4:wrL l=D at A z⊢
 clear c4;obtain⟨al,s⟩:=kB (w.alloc (Xk #[I6 0,I6 0] 187));have X:=gA s
 have a1:=xA s
 have I:Xo (_=al):=s;clear s
 by_cases a:16<n
 ·have m:=dD<|z.out a;have ar:=kC a
  go_enter func117,ntmps117
  go_upto_region 1 with fail;rw[I.out];obtain⟨a8,a9⟩:=a1.k2;have aa:=a1.f;have p:Xo (Box ((al.setCell ⟨w.heap.size,0,Xb⟩ (I6 4)).setCell ⟨w.heap.size,1,Xb⟩ (I6 0)) w.heap.size [I6 4,I6 0]):=dD<|(a1.set 0 _).set 1 _
  have r:Xo (zc w ((al.setCell ⟨w.heap.size,0,Xb⟩ (I6 4)).setCell ⟨w.heap.size,1,Xb⟩ (I6 0))):=dD<|zG (zG X Sm _) Sm _
  go_wp2;refine bodyPost_ret (zB (vs:=[I6 4,I6 0]) rfl _ rfl p underlying187 rfl zr1) rfl ⟨?_,r⟩;rw[m.out]
 have ar:=kD a
 have bn:=dD<|A.out a
 go_enter func117,ntmps117
 go_upto_region 1 with fail;rw[I.out];go_wp2
 go_loopg[12] n (fun c3 be wr=>∃c:Nat,c<=n/\n-c<=c3/\be=I6 c/\Xo (zc w wr)/\Xo (Box wr w.heap.size [I6 0,I6 0])/\Xo (zcF (JZ l c) (l.drop c) c=D)/\Xo (∀(j:Nat)q,j<c->l[j]?=Xa q->jK q))
 exact⟨0,nZ _,Wm,rfl,X,a1,bn,fun j q bi=>absurd bi (nL _)⟩
 obtain⟨c,c8,c5,rfl,af,Q,S,bf⟩:=hrel
 by_cases M:c<n
 ·have a4:=kC M
  obtain⟨q,H⟩:∃q,Xo (l[c]?=Xa q):=⟨_,gE (Rx R.out M)⟩
  obtain⟨d,rfl,f⟩:=Z.out c q H.out;obtain⟨bp,bq,br,bs,bt,bu,bv⟩:=f wr af.out;have bo:=dD Q.lt;obtain⟨ae,aj⟩:=kA wr.heap.size;have Y:Xo (w.heap.size<ae):=show _<_ by rw[<-aj.out];exact bo.out
  clear f;go_upto_region 6 with fail;obtain⟨cb,i⟩:=kB (wr.alloc (Xk #[I6 q.fr,I6 q.tz,Xh q.rd,Xh q.wr,Xh q.sh,I6 q.file,I6 q.base] 125));have bl:=gT i af
  have bk:=yA i Q
  have bg:=xP i aj
  rw[i,aj.out];clear i bp bq br bs bt bu bv
  go_wp2_with(refine zm rfl 125 (.tmp 4) rfl ae rfl bg underlying125 rfl zr0 ?_)
  refine(aw.out q _).mono ?_;rintro e h⟨rfl,ab⟩;have g:=dD (bl.trans ab);have E:=dD (bk.aA ab);have B:=dD (bg.aA ab);clear ab;have bj:ae≠w.heap.size:=Hm Y.out
  have av:w.heap.size≠ae:=Hm Y.out
  by_cases N:arW q=0
  ·have a7:=dD N;have bd:(arW q !=0)=Xd:=by simp[N]
   have ai:=dD<|zbm.1 N;have a0:Xo (∀(j:Nat)P,j<c+1->l[j]?=Xa P->jK P):=show∀(j:Nat)P,_ from fun j P bi x=>by
    by_cases e:j=c
    ·subst e;rw[H.out]at x;cases x;exact ai.out
    exact bf j P Wm x
   clear N;go_upto_region 9 with fail
   generalize arW q=cf
   cases c with
   |zero=>
    have G:=dD<|zlo S H a7.out;have bb:¬(0:Int)<((0:Nat):Int):=Dc
    have bc:decide ((0:Int)<((0:Nat):Int))=Xd:=Dc
    go_quiet(fail);go_wp2
    go_roundg (n-1);exact⟨1,Wm,Wm,Gn,g.trans (show Below _ _ _ from bD (bR _ _) _),E.aA (show Below _ _ _ from bD (bR _ _) _),G,a0⟩;omega
   |succ j=>
    obtain⟨b,U⟩:∃b,Xo (l[j]?=Xa b):=⟨_,gE (by rw[R.out];omega)⟩
    have ag:Xo (jK b):=bf.out j b Wm U.out
    have bb:(0:Int)<((j+1:Nat):Int):=Wm
    have bc:decide ((0:Int)<((j+1:Nat):Int))=Xc:=Sm
    have c6:((j+1:Nat):Int)-1=(j:Int):=Wm
    have c7:(j:Int)<(n:Int):=Wm
    obtain⟨am,an,f⟩:=Z.out j b U.out;obtain rfl:d=am:=by cases an;rfl
    by_cases ac:q.fr<b.tz
    ·have m:Xo (D=(2,((j+1:Nat):Int))):=ziV S U H a7 (.inl ac);have ao:decide (q.fr<b.tz)=Xc:=Si ac
     obtain⟨bw,bx,bz,c0,c1,c2,e6⟩:=f h g.out;have c9:=B.c 0 rfl;clear f;go_quiet(fail);obtain⟨K,t⟩:=kB (h.drewN nq);have a6:Xo (zc w K):=dD<|by rw[<-t];exact g.trans (show Below _ _ _ from bD (bR _ _) _)
     have k:Xo (Box K w.heap.size [I6 0,I6 0]):=dD<|by rw[<-t];exact E.aA (show Below _ _ _ from bD (bR _ _) _)
     rw[t];clear t bw bx bz c0 c1 c2 e6 c9;obtain⟨a8,a9⟩:=k.k2;have aa:=k.f;have p:Xo (Box ((K.setCell ⟨w.heap.size,0,Xb⟩ (I6 2)).setCell ⟨w.heap.size,1,Xb⟩ (I6 ((j+1:Nat):Int))) w.heap.size [I6 2,I6 ((j+1:Nat):Int)]):=dD<|(k.set 0 _).set 1 _
     have r:Xo (zc w ((K.setCell ⟨w.heap.size,0,Xb⟩ (I6 2)).setCell ⟨w.heap.size,1,Xb⟩ (I6 ((j+1:Nat):Int)))):=dD<|zG (zG a6 Sm _) Sm _
     go_wp2;refine bodyPost_ret (zB (vs:=[I6 2,I6 ((j+1:Nat):Int)]) rfl _ rfl p underlying187 rfl zr1) rfl ⟨?_,r⟩;rw[m.out]
    have ao:decide (q.fr<b.tz)=Xd:=Si ac
    have bm:=dD ac;have ax:=B.gw 0 rfl
    have ay:=B.gw 1 rfl
    have az:=B.gw 2 rfl
    have b0:=B.gw 3 rfl
    have b1:=B.gw 4 rfl
    have b2:=B.gw 5 rfl
    have b3:=B.gw 6 rfl
    have b4:=fun y:zf h=>(f _ (g.trans y.aA)).1
    have b5:=fun y:zf h=>(f _ (g.trans y.aA)).2.1
    have b6:=fun y:zf h=>(f _ (g.trans y.aA)).2.2.1
    have b7:=fun y:zf h=>(f _ (g.trans y.aA)).2.2.2.1
    have b8:=fun y:zf h=>(f _ (g.trans y.aA)).2.2.2.2.1
    have b9:=fun y:zf h=>(f _ (g.trans y.aA)).2.2.2.2.2.1
    have ba:=fun y:zf h=>(f _ (g.trans y.aA)).2.2.2.2.2.2
    have au:Nonempty (zf h):=⟨⟨_,zc.refl _⟩⟩;clear f;refine qq [(19,⟨fun v=>v=Xh (goB q b),fun _ _=>True⟩)] zU Kr ?_ ?_ ?_
    ·intro P x
     simp at x
     subst x;exact⟨_,rfl⟩
    ·intro P x
     simp at x
     subst x;exact fun _ _ _ _ a2=>a2
    iterate 19 refine ze ?_
    refine zz rfl rfl (fun w' c5 bh=>?_) (fun ce a5=>?_)
    ·refine zI.call [Xi #[I6 q.fr,I6 q.tz,Xh q.rd,Xh q.wr,Xh q.sh,I6 q.file,I6 q.base],Xi #[I6 b.fr,I6 b.tz,Xh b.rd,Xh b.wr,Xh b.sh,I6 b.file,I6 b.base]] rfl func166 rfl rfl rfl ?_;refine(aq.out q b w' ag).mono ?_;rintro e ca⟨rfl,ap⟩;exact⟨_,rfl,ap,rfl,trivial⟩
    subst a5;refine Uq ?_;iterate 2 refine ze ?_
    refine zH fun K L bh=>?_
    have a6:=dD (g.trans L);have k:=dD (E.aA L);clear L bh ax ay az b0 b1 b2 b3 b4 b5 b6 b7 b8 b9 ba au
    cases u:goB q b with
    |true=>
     have m:Xo (D=(2,((j+1:Nat):Int))):=ziV S U H a7 (.inr u);clear u;obtain⟨a8,a9⟩:=k.k2;have aa:=k.f;have p:Xo (Box ((K.setCell ⟨w.heap.size,0,Xb⟩ (I6 2)).setCell ⟨w.heap.size,1,Xb⟩ (I6 ((j+1:Nat):Int))) w.heap.size [I6 2,I6 ((j+1:Nat):Int)]):=show Box _ _ _ from(k.set 0 _).set 1 _
     have r:Xo (zc w ((K.setCell ⟨w.heap.size,0,Xb⟩ (I6 2)).setCell ⟨w.heap.size,1,Xb⟩ (I6 ((j+1:Nat):Int)))):=dD<|zG (zG a6 Sm _) Sm _
     go_wp2;refine bodyPost_ret (zB (vs:=[I6 2,I6 ((j+1:Nat):Int)]) rfl _ rfl p underlying187 rfl zr1) rfl ⟨?_,r⟩;rw[m.out]
    |false=>
     have G:=dD<|znM S U H a7 bm u;clear u;go_wp2
     go_roundg (n-(j+1+1));exact⟨j+1+1,Wm,Wm,Gn,a6,k,G,a0⟩;omega
  have m:=dD<|zpt S H N;have bd:(arW q !=0)=Xc:=by simp[N]
  clear N;obtain⟨a8,a9⟩:=E.k2;have aa:=E.f;have p:Xo (Box ((h.setCell ⟨w.heap.size,0,Xb⟩ (I6 (arW q))).setCell ⟨w.heap.size,1,Xb⟩ (I6 (c:Int))) w.heap.size [I6 (arW q),I6 (c:Int)]):=dD<|(E.set 0 _).set 1 _
  have r:Xo (zc w ((h.setCell ⟨w.heap.size,0,Xb⟩ (I6 (arW q))).setCell ⟨w.heap.size,1,Xb⟩ (I6 (c:Int)))):=dD<|zG (zG g Sm _) Sm _
  go_wp2;refine bodyPost_ret (zB (vs:=[I6 (arW q),I6 (c:Int)]) rfl _ rfl p underlying187 rfl zr1) rfl ⟨?_,r⟩;rw[m.out]
 have a4:=kD M
 have:c=n:=Wm
 subst this;have m:=dD<|F.out _ S.out;obtain⟨a8,a9⟩:=Q.k2;have aa:=Q.f;have p:Xo (Box ((wr.setCell ⟨w.heap.size,0,Xb⟩ (I6 0)).setCell ⟨w.heap.size,1,Xb⟩ (I6 0)) w.heap.size [I6 0,I6 0]):=show Box _ _ _ from(Q.set 0 _).set 1 _
 have r:Xo (zc w ((wr.setCell ⟨w.heap.size,0,Xb⟩ (I6 0)).setCell ⟨w.heap.size,1,Xb⟩ (I6 0))):=dD<|zG (zG af Sm _) Sm _
 go_wp2;refine bodyPost_ret (zB (vs:=[I6 0,I6 0]) rfl _ rfl p underlying187 rfl zr1) rfl ⟨?_,r⟩;rw[m.out]
theorem zoJ(e)(l:List En):esW (e::l)=if enW e=0 then esW l else enW e:=rfl
theorem znQ(h:List En)(t:List (List En)):tbW (h::t)=if haW h=0 then tbW t else haW h:=rfl
theorem zqW{h:List En}(a:h.length=8):haW h=if esW h=0 then(if zfF h=Xc then 0 else 2)else esW h:=by
 unfold haW;rw[kF Wm,kE a]
theorem zeG(v)(fs:List En)(w)(c:zj enE w v fs):
  Xp prog 167 #[v] w fun e w'=>e=Xl (I6 (haW fs))/\zc w w':=by
 have b:=c.short;have d:=dD c;obtain⟨g,i,rfl,a⟩:=c.ens;have m:=dD a;clear a c;obtain⟨n,h⟩:=kA fs.length;obtain⟨Z,p⟩:=kA (haW fs);rw[h.out]at b d⊢;rw[p.out]
 by_cases j:n=0
 ·have l:Xo (Z=0):=dD<|by rw[<-p.out];unfold haW;rw[kE (Rx h.out j)]
  subst j
  go_enter func167,ntmps167
  go_wp2;go_ret;exact⟨Rr l.out,zc.refl _⟩
 have a:((n:Int)==0)=Xd:=Si j
 by_cases r:n=8
 ·have A:=dD (h.trans r);have x:((n:Int)!=8)=Xd:=by simp[r]
  clear j r;have f:=fun W(a:zc w W)=>ZG (O g n i) fs W (d.aA a)
  go_enter func167,ntmps167
  go_wp2
  go_loopg[14] n (fun b a wr=>∃c:Nat,c<=n/\n-c<=b/\a=I6 c/\Xo (zc w wr)/\Xo (esW (fs.drop c)=esW fs))
  exact⟨0,nZ _,Wm,rfl,zc.refl w,rfl⟩
  obtain⟨c,a,a,rfl,k,t⟩:=hrel
  by_cases i:c<n
  ·have s:=kC i
   obtain⟨q,g⟩:∃q,Xo (fs[c]?=Xa q):=⟨_,gE (Rx h.out i)⟩
   obtain⟨a,rfl,u⟩:=m.out c q g.out;obtain⟨B,C,D⟩:=u wr k.out;obtain⟨b,d⟩:=kB (wr.alloc (Xk #[I6 q.kind,I6 q.n,Xh q.wr] 127));have y:=gT d k
   have m:=dD d;have a:=J9 q.kind q.n q.wr b;have b:Xo (esW (fs.drop c)=if enW ⟨q.kind,q.n,q.wr⟩=0 then esW (fs.drop (c+1))else enW ⟨q.kind,q.n,q.wr⟩):=show _=_ by rw[jI g.out,zoJ]
   clear u d
   generalize enW ⟨q.kind,q.n,q.wr⟩=z at a b
   by_cases q:z=0
   ·have E:Xo (esW (fs.drop (c+1))=esW fs):=dD<|by rw[<-t.out,b.out,kE q]
    subst q;go_wp2_with fail;rw[m.out];refine a.mono ?_;rintro e u⟨rfl,d⟩;have g:=dD (y.trans d);clear d a B C D;go_wp2
    go_roundg (n-(c+1));exact⟨c+1,Wm,Wm,Gn,g,E⟩;omega
   have E:(z !=0)=Xc:=Si q
   have l:Xo (Z=z):=dD<|by
    have z:=t.out;rw[b.out,kF q]at z;rw[<-p.out,zqW A.out,<-z,kF q]
   go_wp2_with fail;rw[m.out];refine a.mono ?_;rintro e u⟨rfl,d⟩;have g:=dD (y.trans d);clear d a B C D;go_wp2;go_ret;exact⟨Rr l.out,g⟩
  have s:=kD i
  have:c=n:=Wm
  subst this;have c:Xo (esW fs=0):=dD<|by
   rw[<-t.out,Ya (by rw[h.out];exact nR _)]
   rfl
  have a:=f wr k.out;have b:Xo (Z=if zfF fs=Xc then 0 else 2):=dD<|by rw[<-p.out,zqW A.out,c.out,kE rfl]
  generalize zfF fs=A at a b
  clear f
  cases A with
  |true=>
   go_wp2_with fail;refine a.mono ?_;rintro e u⟨rfl,d⟩;have g:=dD (k.trans d);clear d a;go_wp2;go_ret;exact⟨Rr b.out,g⟩
  |false=>
   go_wp2_with fail;refine a.mono ?_;rintro e u⟨rfl,d⟩;have g:=dD (k.trans d);clear d a;go_wp2;go_ret;exact⟨Rr b.out,g⟩
 have x:((n:Int)!=8)=Xc:=by simp;omega
 have l:Xo (Z=2):=dD<|by rw[<-p.out];unfold haW;rw[kF (Rx h.out j),kF (Rx h.out r)]
 clear j r
 go_enter func167,ntmps167
 go_wp2;go_ret;exact⟨Rr l.out,zc.refl _⟩
theorem zcy(vs:List Xq)(t:List (List En))(w)(a:J6 w vs t):
  Xp prog 118 #[Xi vs.toArray] w fun e w'=>e=Xl (I6 (tbW t))/\zc w w':=by
 have p:=dD a;have d:=dD a.len;clear a;obtain⟨Z,n⟩:=kA (tbW t);rw[n.out];obtain⟨a,a⟩:=kB (w.alloc (Xk vs.toArray 74));have c:=gA a
 have f:=xA a
 have b:=dD a;clear a
 go_enter func118,ntmps118
 go_upto_region 1 with fail;rw[b.out]
 go_wp2_with(refine qA rfl (.tmp 1) rfl w.heap.size rfl f d.out ?_)
 go_loopg[7] 8 (fun a d wr=>∃b:Nat,b<=8/\8-b<=a/\d=I6 b/\Xo (zc w wr)/\Xo (tbW (t.drop b)=tbW t))
 exact⟨0,nZ _,Wm,rfl,c,rfl⟩
 obtain⟨b,a,a,rfl,i,k⟩:=hrel
 by_cases f:b<8
 ·have g:(b:Int)<8:=Wm
  obtain⟨c,r,q,j,h,l⟩:=p.half f;have m:=dD j;have d:=dD h;have a:=zeG (O c q.length r) q wr (l.aA i);have c:Xo (tbW (t.drop b)=if haW q=0 then tbW (t.drop (b+1))else haW q):=show _=_ by rw[jI m.out,znQ]
  clear j h l
  generalize haW q=z at a c
  generalize q.length=nq at a d
  by_cases j:z=0
  ·have m:Xo (tbW (t.drop (b+1))=tbW t):=dD<|by rw[<-k.out,c.out,kE j]
   subst j
   go_wp2_with(refine zhy rfl (.tmp 6) (.tmp 7) rfl vs rfl b rfl f d.out ?_)
   refine a.mono ?_;rintro e r⟨rfl,h⟩;have l:=dD (i.trans h);clear h a;go_wp2
   go_roundg (8-(b+1));exact⟨b+1,Wm,Wm,Gn,l,m⟩;omega
  have m:(z !=0)=Xc:=Si j
  have m:Xo (Z=z):=dD<|by
   have q:=k.out;rw[c.out,kF j]at q;rw[<-n.out,<-q]
  skip
  go_wp2_with(refine zhy rfl (.tmp 6) (.tmp 7) rfl vs rfl b rfl f d.out ?_)
  refine a.mono ?_;rintro e r⟨rfl,h⟩;have l:=dD (i.trans h);clear h a;go_wp2;go_ret;exact⟨Rr m.out,l⟩
 have g:¬(b:Int)<8:=Wm
 have:b=8:=Wm
 subst this;have m:Xo (Z=0):=dD<|by
  rw[<-n.out,<-k.out,Ya (by rw[p.aO];exact nR _)]
  rfl
 go_wp2;go_ret;exact⟨Rr m.out,i⟩
def enV(e:En):Xq:=Xi #[Xe Xf e.kind,Xe Xf e.n,Xh e.wr]
theorem zeb{n:Int}(a:0<=n)(b:n<64):∃i k:Nat,i<8/\k<8/\n=8*i+k/\n/8=(i:Int)/\n%8=(k:Int)/\n.tdiv 8=(i:Int)/\n.tmod 8=(k:Int)/\n.toNat/8=i/\n.toNat%8=k:=by
 refine⟨n.toNat/8,n.toNat%8,Wm,Wm,Wm,Wm,Wm,?_,?_,rfl,rfl⟩
 ·grind
 grind
theorem Qw(vs:List Xq)(t:List (List En))(n:Int)(w)(a:J6 w vs t):
  Xp prog 69 #[Xi vs.toArray,I6 n] w fun e w'=>e=Xl (enV (zdT t n))/\zc w w':=by
 have j:=dD a;have b:=dD a.len;clear a;obtain⟨Z,s⟩:=kA (zdT t n);rw[s.out];obtain⟨C,a⟩:=kB ((w.alloc (Xk vs.toArray 74)).alloc (Xk #[I6 0,I6 0,Xh Xd] 127));have b:=gD2 a
 have B:=x2a a
 have g:=x2b a
 have f:=dD a;clear a;have a:∀(W:Xn)(u c x:Xq),Box W (w.heap.size+1) [I6 0,I6 0,Xh Xd]->zc w W->zc w (((W.setCell ⟨w.heap.size+1,0,Xb⟩ u).setCell ⟨w.heap.size+1,1,Xb⟩ c).setCell ⟨w.heap.size+1,2,Xb⟩ x):=fun W u c x _ c=>
  Below.setCell (Below.setCell (Below.setCell c (p:=⟨w.heap.size+1,0,Xb⟩) Sm _) (p:=⟨w.heap.size+1,1,Xb⟩) Sm _) (p:=⟨w.heap.size+1,2,Xb⟩) Sm _
 have r:=dD a;clear a;obtain⟨a,a,a⟩:=g.c3;have a:=g.f
 by_cases q:0<=n/\n<64
 ·obtain⟨a,d⟩:=q;obtain⟨y,k,D,c,h,c,c,c,c,z,A⟩:=zeb a d;have l:=fun W=>QC (m:=n) (n:=64) a d W
  obtain⟨c,c,i,u,c,x⟩:=j.half D;have j:Xo (Z=i[k]?.getD en0):=dD<|by
   rw[<-s.out];unfold zdT;rw[kE ⟨a,d⟩,z,A];unfold zcv;rw[u];rfl
  have D:=B.c y c;obtain⟨_,_,d,a⟩:=x.ens;cases d;have B:=dD a;have d:(y:Int)<8:=Wm
  clear a x u c z A h;obtain⟨nq,d⟩:=kA i.length;rw[d.out]at D
  by_cases h:k<nq
  ·obtain⟨e,a⟩:∃e,Xo (i[k]?=Xa e):=⟨_,gE (Rx d.out h)⟩
   obtain⟨c,rfl,u⟩:=B.out k e a.out;obtain⟨c,c,c⟩:=u C b.out;have c:Xo (Z=e):=dD<|by rw[j.out,a.out];rfl
   have i:¬(nq:Int)<=(k:Int):=Wm
   have a:decide ((nq:Int)<=(k:Int))=Xd:=decide_eq_false i;have a:=kC h
   clear u
   go_enter func69,ntmps69
   go_wp2_with fail;rw[f.out];refine(l _).mono ?_;rintro e w'⟨rfl,a⟩;rw[a];clear a w';go_wp2;refine bodyPost_ret (v:=Xi #[I6 e.kind,I6 e.n,Xh e.wr]) (by simp[results,Tryz.results69,go_sem, *]) rfl ⟨?_,?_⟩
   ·rw[c.out];rfl
   exact r _ _ _ _ g b.out
  have c:Xo (Z=en0):=dD<|by rw[j.out,gN (by rw[d.out];omega)];rfl
  have i:(nq:Int)<=(k:Int):=Wm
  go_enter func69,ntmps69
  go_wp2_with fail;rw[f.out];refine(l _).mono ?_;rintro e w'⟨rfl,a⟩;rw[a];clear a w';go_wp2;refine bodyPost_ret (v:=Xi #[I6 0,I6 0,Xh Xd]) (by simp[results,Tryz.results69,go_sem, *]) rfl ⟨?_,?_⟩
  ·rw[c.out];rfl
  exact r _ _ _ _ g b.out
 have l:=fun W=>zbk (m:=n) (n:=64) q W
 have j:Xo (Z=en0):=dD<|by rw[<-s.out];unfold zdT;rw[kF q]
 clear q
 go_enter func69,ntmps69
 go_wp2_with fail;rw[f.out];refine(l _).mono ?_;rintro e w'⟨rfl,a⟩;rw[a];clear a w';go_wp2;refine bodyPost_ret (v:=Xi #[I6 0,I6 0,Xh Xd]) (by simp[results,Tryz.results69,go_sem, *]) rfl ⟨?_,?_⟩
 ·rw[j.out];rfl
 exact r _ _ _ _ g b.out
def zbV(_:En):Bool:=true
def zlk(k n:Int)(e:En):Bool:=(e.kind==k)&&(e.n==n)
theorem zj9(k n:Int)(b:Bool)(w):
  Xp prog 122 #[Xi #[I6 k,I6 n,Xh b]] w fun e w'=>e=Xl (Xh Xc)/\zc w w':=by
 go_enter func122,ntmps122
 go_wp2;go_ret;exact⟨rfl,za _ _⟩
theorem zmN(a c:Int)(b:Bool)(k n:Int)(d f:Nat)(w)(g:Box w d [I6 k])(h:Box w f [I6 n]):
  Xp prog 250 #[Xi #[I6 a,I6 c,Xh b],Xj (Xa ⟨d,0,Xb⟩),Xj (Xa ⟨f,0,Xb⟩)] w fun e w'=>e=Xl (Xh (zlk k n ⟨a,c,b⟩))/\zc w w':=by
 have H:Xo (zlk k n ⟨a,c,b⟩=((a==k)&&(c==n))):=rfl
 generalize zlk k n ⟨a,c,b⟩=F at H⊢
 have b:∀b:Obj,(w.alloc b).cell? ⟨d,0,Xb⟩=Xa (I6 k):=fun b=>(g.alloc b).c 0 rfl
 have d:∀b:Obj,(w.alloc b).cell? ⟨f,0,Xb⟩=Xa (I6 n):=fun b=>(h.alloc b).c 0 rfl
 clear g h
 by_cases d:a=k
 ·have b:(a==k)=Xc:=Si d
  have f:Xo (F=(c==n)):=dD<|by rw[H.out,b];rfl
  clear d
  go_enter func250,ntmps250
  go_wp2;go_ret;exact⟨Rr f.out,za _ _⟩
 have b:(a==k)=Xd:=Si d
 have f:Xo (F=Xd):=dD<|by rw[H.out,b];rfl
 clear d
 go_enter func250,ntmps250
 go_wp2;go_ret;exact⟨Rr f.out,za _ _⟩
theorem zeN(vs:List Xq)(t:List (List En))(w:Xn)(a:J6 w vs t):
  Xp prog 121 #[Xi vs.toArray,.func (.func 122) #[] #[]] w fun e w'=>∃v,e=Xl v/\zb blE w.heap.size w' v (qS t zbV 64)/\zc w w':=by
 have i:=dD a;have p:=dD a.len;clear a;obtain⟨l,a⟩:=kB (w.alloc (Xk vs.toArray 74));have h:=gA a
 have j:=xA a
 have f:=dD a;clear a;obtain⟨b,a⟩:=kA (qS t zbV);have c:Xo (b 0=[]):=show _=_ by rw[<-a.out];rfl
 have d:Xo (∀m:Nat,m<64->b (m+1)=if enS (zdT t (m:Int))&&zbV (zdT t (m:Int))then b m++[(m:Int)]else b m):=dD<|fun m g=>by
  rw[<-a.out,Ji];have:zdT t (m:Int)=zcv t (m/8) (m%8):=by unfold zdT;rw[kE Wm,tN]
  rw[this]
 have A:Xo (∀m,(b m).length<=m):=dD<|fun m=>by rw[<-a.out];exact zap _ _ _
 rw[a.out];have a:=enters_of func122 Kr rfl
 go_enter func121,ntmps121
 go_upto_region 1 with fail;rw[f.out];go_wp2
 go_loopg[5,8] 64 (fun f g k wr=>∃(a:Nat)(m:Option Addr)(q n:Nat),a<=64/\64-a<=f/\k=I6 a/\g=O m q n/\Xo (zc l wr)/\Xo (zb blE l.heap.size wr (O m q n) (b a)))
 exact⟨0,Xb,0,0,nZ _,Wm,rfl,rfl,zc.refl _,by rw[c.out];exact zb.nil _ _ _⟩
 obtain⟨a,m,q,n,c,K,rfl,rfl,s,G⟩:=hrel
 by_cases g:a<64
 ·have r:(a:Int)<64:=Wm
  have c:=Qw vs t (a:Int) wr (i.aA (h.trans s));have u:=dD (j.aA s);have f:=d.out a g;obtain⟨x,d⟩:=kA (zdT t (a:Int));rw[d.out]at c f;have d:=dD f;obtain⟨j,k,i⟩:=x
  go_wp2_with(refine qA rfl (.tmp 2) rfl w.heap.size rfl u p.out ?_)
  refine c.mono ?_;rintro e p⟨rfl,f⟩;have u:=dD (s.trans f);have x:=dD (G.aA f);clear f c;simp only[enV];go_upto_region 6 with fail;obtain⟨y,f⟩:=kB p.heap.size;obtain⟨g,c⟩:=kB (p.alloc (Xk #[I6 j,I6 k,Xh i] 127));have D:=gT c u
  have F:Xo (zb blE l.heap.size g (O m q n) (b a)):=dD<|by rw[<-c];exact x.aA (za _ _)
  have H:Xo (Box g y [I6 j,I6 k,Xh i]):=dD<|by rw[<-c];exact Box.aD _ _ _ f.symm
  rw[c];rw[f];clear c f;obtain⟨u,x,y⟩:=H.c3;have c:=zbM j k i g
  cases p:enS ⟨j,k,i⟩with
  |false=>
   have f:Xo (b (a+1)=b a):=dD<|by rw[d.out,p];rfl
   rw[p]at c;clear p;go_wp2_with fail;refine c.mono ?_;rintro e C⟨rfl,g⟩;have z:=dD (D.trans g);have B:Xo (zb blE l.heap.size C (O m q n) (b (a+1))):=show zb _ _ _ _ _ by rw[f.out];exact F.aA g
   clear g c u x y;go_wp2
   go_roundg (64-(a+1));exact⟨a+1,m,q,n,Wm,Wm,Gn,rfl,z,B⟩;omega
  |true=>
   rw[p]at c;have f:Xo (b (a+1)=if zbV ⟨j,k,i⟩=Xc then b a++[(a:Int)]else b a):=dD<|by rw[d.out,p];rfl
   clear p;go_wp2_with fail;refine c.mono ?_;rintro e C⟨rfl,g⟩;have z:=dD (D.trans g);have B:=dD (F.aA g);have d:=dD (H.aA g);clear g c u x y;obtain⟨u,x,y⟩:=d.c3;have c:=zj9 j k i C;rw[kE (show zbV ⟨j,k,i⟩=Xc from rfl)]at f
   go_wp2_with fail;refine c.mono ?_;rintro e d⟨rfl,g⟩;have i:=dD (z.trans g);have j:=dD (B.aA g);clear g c u x y;have c:Xo (zj blE (d.alloc (Xk #[I6 (a:Int)] 3)) (O (Xa ⟨d.heap.size,0,Xb⟩) 1 1) [(a:Int)]):=ZD blE d (a:Int) _ _ rfl Dc
   go_wp2_with(at_builtin;refine zr (E:=blE) rfl (.tmp 21) (.tmp 23) rfl l.heap.size _ (b a) rfl (j.aA (za _ _)) _ [(a:Int)] rfl c.out ?qb ?qc ?_)
   case qb=>
    have:=A.out a
    show(_+1)*8<=_
    omega
   case qc=>
    have:=bS i.out;simp;omega
   intro c k c d;obtain⟨m,n,rfl⟩:=c.form;have g:Xo (zb blE l.heap.size k (.slice m (b a++[(a:Int)]).length n) (b (a+1))):=dD<|Rx f.out c
   have b:=dD<|zT (i.trans (za _ _)) d (fun f K=>(j.lt f K).1)
   clear c d;go_wp2
   go_roundg (64-(a+1));exact⟨a+1,_,_,_,Wm,Wm,Gn,rfl,b,g⟩;omega
 have r:¬(a:Int)<64:=Wm
 have:a=64:=Wm
 subst this;have b:=dD<|G.base (bS h);have a:=dD (h.trans s);go_wp2;go_ret;exact⟨_,rfl,b,a⟩
theorem zf0(vs:List Xq)(t:List (List En))(k n:Int)(H K:Nat)(w:Xn)(a:J6 w vs t)(b:Box w H [I6 k])(c:Box w K [I6 n]):
  Xp prog 121 #[Xi vs.toArray,.func (.func 250) #[] #[Xj (Xa ⟨H,0,Xb⟩),Xj (Xa ⟨K,0,Xb⟩)]] w fun e w'=>∃v,e=Xl v/\zb blE w.heap.size w' v (qS t (zlk k n) 64)/\zc w w':=by
 have q:=dD a;have s:=dD a.len;clear a;have R:=dD b;have D:=dD c;clear b c;obtain⟨p,a⟩:=kB (w.alloc (Xk vs.toArray 74));have f:=gA a
 have r:=xA a
 have d:=dD a;clear a;obtain⟨c,a⟩:=kA (qS t (zlk k n));have b:Xo (c 0=[]):=show _=_ by rw[<-a.out];rfl
 have g:Xo (∀m:Nat,m<64->c (m+1)=if enS (zdT t (m:Int))&&(zlk k n) (zdT t (m:Int))then c m++[(m:Int)]else c m):=dD<|fun m h=>by
  rw[<-a.out,Ji];have:zdT t (m:Int)=zcv t (m/8) (m%8):=by unfold zdT;rw[kE Wm,tN]
  rw[this]
 have F:Xo (∀m,(c m).length<=m):=dD<|fun m=>by rw[<-a.out];exact zap _ _ _
 rw[a.out];have a:=enters_of func250 Kr rfl
 go_enter func121,ntmps121
 go_upto_region 1 with fail;rw[d.out];go_wp2
 go_loopg[5,8] 64 (fun d j m wr=>∃(a:Nat)(h:Option Addr)(l i:Nat),a<=64/\64-a<=d/\m=I6 a/\j=O h l i/\Xo (zc p wr)/\Xo (zb blE p.heap.size wr (O h l i) (c a)))
 exact⟨0,Xb,0,0,nZ _,Wm,rfl,rfl,zc.refl _,by rw[b.out];exact zb.nil _ _ _⟩
 obtain⟨a,h,l,i,b,Q,rfl,rfl,B,N⟩:=hrel
 by_cases j:a<64
 ·have x:(a:Int)<64:=Wm
  have b:=Qw vs t (a:Int) wr (q.aA (f.trans B));have u:=dD (r.aA B);have d:=g.out a j;obtain⟨j,g⟩:=kA (zdT t (a:Int));rw[g.out]at b d;have g:=dD d;obtain⟨q,r,m⟩:=j
  go_wp2_with(refine qA rfl (.tmp 2) rfl w.heap.size rfl u s.out ?_)
  refine b.mono ?_;rintro e s⟨rfl,d⟩;have u:=dD (B.trans d);have y:=dD (N.aA d);clear d b;simp only[enV];go_upto_region 6 with fail;obtain⟨z,d⟩:=kB s.heap.size;obtain⟨j,b⟩:=kB (s.alloc (Xk #[I6 q,I6 r,Xh m] 127));have L:=gT b u
  have M:Xo (zb blE p.heap.size j (O h l i) (c a)):=dD<|by rw[<-b];exact y.aA (za _ _)
  have P:Xo (Box j z [I6 q,I6 r,Xh m]):=dD<|by rw[<-b];exact Box.aD _ _ _ d.symm
  rw[b];rw[d];clear b d;obtain⟨y,z,A⟩:=P.c3;have d:=zbM q r m j
  cases u:enS ⟨q,r,m⟩with
  |false=>
   have b:Xo (c (a+1)=c a):=dD<|by rw[g.out,u];rfl
   rw[u]at d;clear u;go_wp2_with fail;refine d.mono ?_;rintro e G⟨rfl,j⟩;have s:=dD (L.trans j);have C:Xo (zb blE p.heap.size G (O h l i) (c (a+1))):=show zb _ _ _ _ _ by rw[b.out];exact M.aA j
   clear j d y z A;go_wp2
   go_roundg (64-(a+1));exact⟨a+1,h,l,i,Wm,Wm,Gn,rfl,s,C⟩;omega
  |true=>
   rw[u]at d;have b:Xo (c (a+1)=if(zlk k n) ⟨q,r,m⟩=Xc then c a++[(a:Int)]else c a):=dD<|by rw[g.out,u];rfl
   clear u;go_wp2_with fail;refine d.mono ?_;rintro e G⟨rfl,j⟩;have s:=dD (L.trans j);have C:=dD (M.aA j);have g:=dD (P.aA j);clear j d y z A;obtain⟨y,z,A⟩:=g.c3;have d:=zmN q r m k n H K G (R.aA (f.trans s)) (D.aA (f.trans s))
   generalize zlk k n ⟨q,r,m⟩=g at d b
   cases g with
   |true=>
    rw[kE rfl]at b;go_wp2_with fail;refine d.mono ?_;rintro e m⟨rfl,g⟩;have r:=dD (s.trans g);have u:=dD (C.aA g);clear g d y z A;have j:Xo (zj blE (m.alloc (Xk #[I6 (a:Int)] 3)) (O (Xa ⟨m.heap.size,0,Xb⟩) 1 1) [(a:Int)]):=ZD blE m (a:Int) _ _ rfl Dc
    go_wp2_with(at_builtin;refine zr (E:=blE) rfl (.tmp 21) (.tmp 23) rfl p.heap.size _ (c a) rfl (u.aA (za _ _)) _ [(a:Int)] rfl j.out ?qb ?qc ?_)
    case qb=>
     have:=F.out a
     show(_+1)*8<=_
     omega
    case qc=>
     have:=bS r.out;simp;omega
    intro j D j q;obtain⟨G,H,rfl⟩:=j.form;have F:Xo (zb blE p.heap.size D (.slice G (c a++[(a:Int)]).length H) (c (a+1))):=dD<|Rx b.out j
    have D:=dD<|zT (r.trans (za _ _)) q (fun G Q=>(u.lt G Q).1)
    clear j q;go_wp2
    go_roundg (64-(a+1));exact⟨a+1,_,_,_,Wm,Wm,Gn,rfl,D,F⟩;omega
   |false=>
    rw[kF Dc]at b
    go_wp2_with fail;refine d.mono ?_;rintro e m⟨rfl,g⟩;have r:=dD (s.trans g);have u:Xo (zb blE p.heap.size m (O h l i) (c (a+1))):=show zb _ _ _ _ _ by rw[b.out];exact C.aA g
    clear g d y z A;go_wp2
    go_roundg (64-(a+1));exact⟨a+1,h,l,i,Wm,Wm,Gn,rfl,r,u⟩;omega
 have x:¬(a:Int)<64:=Wm
 have:a=64:=Wm
 subst this;have b:=dD<|N.base (bS f);have a:=dD (f.trans B);go_wp2;go_ret;exact⟨_,rfl,b,a⟩
theorem zaq(vs:List Xq)(t:List (List En))(w:Xn)(f:J6 w vs t):
  Xp prog 66 #[Xi vs.toArray] w fun e w'=>∃v,e=Xl v/\zb blE w.heap.size w' v (qS t zbV 64)/\zc w w':=by
 have g:=dD f.len;obtain⟨d,b⟩:=kB (w.alloc (Xk vs.toArray 74));have c:=gA b
 have h:=xA b
 have a:=zeN vs t d (f.aA c);have d:=dD b;clear b f
 generalize qS t zbV 64=b at a⊢
 go_enter func66,ntmps66
 go_upto_region 1 with fail;rw[d.out]
 go_wp2_with(refine qA rfl (.tmp 1) rfl w.heap.size rfl h g.out ?_)
 refine a.mono ?_;rintro e b⟨v,rfl,d,b⟩;have g:=dD<|d.base (bS c);have f:=dD (c.trans b);clear d b a;go_wp2;go_ret;exact⟨v,rfl,g,f⟩
theorem zkJ(vs:List Xq)(t:List (List En))(k n:Int)(w:Xn)(f:J6 w vs t):
  Xp prog 242 #[Xi vs.toArray,I6 k,I6 n] w fun e w'=>∃v,e=Xl v/\zb blE w.heap.size w' v (qS t (zlk k n) 64)/\zc w w':=by
 have a:∀(b:Fn)(first a:Array Xq)(w:Xn),(Instr.makeFunc b first a).run prog w=.ok (.func b first a) w:=fun _ _ _ _=>rfl
 have h:=dD f.len;obtain⟨d,b⟩:=kB (((w.alloc (Xk vs.toArray 74)).alloc (Xk #[I6 k] 3)).alloc (Xk #[I6 n] 3));have c:Xo (zc w d):=show zc w d by rw[<-b];exact((za _ _).trans (za _ _)).trans (za _ _)
 have j:Xo (Box d w.heap.size vs):=dD<|by rw[<-b];exact((Box.aD w _ _ rfl).alloc _).alloc _
 have g:Xo (Box d (w.heap.size+1) [I6 k]):=dD<|by rw[<-b];exact(Box.aD _ _ _ Sm).alloc _
 have i:Xo (Box d (w.heap.size+2) [I6 n]):=dD<|by rw[<-b];exact Box.aD _ _ _ Sm
 have a:=zf0 vs t k n (w.heap.size+1) (w.heap.size+2) d (f.aA c) g i.out;have d:=dD b;clear b f
 generalize qS t (zlk k n) 64=b at a⊢
 go_enter func242,ntmps242
 go_upto_region 1 with fail;rw[d.out]
 go_wp2_with(refine qA rfl (.tmp 3) rfl w.heap.size rfl j h.out ?_)
 refine a.mono ?_;rintro e b⟨v,rfl,d,b⟩;have g:=dD<|d.base (bS c);have f:=dD (c.trans b);clear d b a;go_wp2;go_ret;exact⟨v,rfl,g,f⟩
theorem zlX(a b:Int)(W):(Instr.field 187 (Xi #[I6 a,I6 b]) 0).run prog W=.ok (I6 a) W:=by
 kernel_rfl
theorem QP(s:Sp):qS s.tb zbV 64=(qG s).map fun(n:Nat)=>(n:Int):=by
 unfold qS qG zl zbV;simp
theorem znT{s:Sp}(a:s.tb.length=8):spE s=if zC [(wrL s.aE).1,tbW s.tb]=0 then(if s.aH=Xd/\(0<s.aE.length\/0<(qS s.tb zbV 64).length)then 7 else 0)else zC [(wrL s.aE).1,tbW s.tb]:=by grind[spE,Ze,zeq,wrL,tbW,qS,zbV,QP,List.length_map,zgj,List.length_pos_iff]
theorem zdH(x:SpV)(s w)(n:j3 w x s):
  Xp prog 63 #[Xi #[Xh x.aH,x.ar.x,x.t0.x,x.t1.x,x.t2.x,x.t3.x,x.t4.x,x.t5.x,x.t6.x,x.t7.x]] w fun e w'=>e=Xl (I6 (spE s))/\zc w w':=by
 have K:=dD<|fun W(B:zc w W)=>zcC _ s.aE W (n.aA B).ar
 have L:=dD<|fun W(B:zc w W)=>zcy x.tab s.tb W (n.aA B).tb
 have u:=dD<|fun W(B:zc w W)=>zaq x.tab s.tb W (n.aA B).tb
 have b:=n.aH;have aj:=n.ar.n;rw[znT n.tb.aO,<-b,<-aj];clear n;obtain⟨r,y⟩:=kA (zC [(wrL s.aE).1,tbW s.tb]);obtain⟨H,A⟩:=kA (qS s.tb zbV 64);rw[y.out,A.out];rw[A.out]at u;clear b aj;obtain⟨ag,f⟩:=kB (w.alloc (Xk #[Xh x.aH,x.ar.x,x.t0.x,x.t1.x,x.t2.x,x.t3.x,x.t4.x,x.t5.x,x.t6.x,x.t7.x] 76));have g:=gA f
 have d:=xA f
 have N:=dD f;clear f;obtain⟨Z,c⟩:=kA (if r=0 then(if x.aH=Xd/\(0<x.ar.n\/0<H.length)then 7 else 0)else r);rw[c.out]
 go_enter func63,ntmps63
 go_upto_region 1 with fail;rw[N.out];have X:=d.gw 1 rfl
 have Y:=d.gw 2 rfl
 have I:=d.gw 3 rfl
 have a0:=d.gw 4 rfl
 have a1:=d.gw 5 rfl
 have a2:=d.gw 6 rfl
 have a3:=d.gw 7 rfl
 have a4:=d.gw 8 rfl
 have a5:=d.gw 9 rfl
 have V:Nonempty (zf ag):=⟨⟨_,zc.refl _⟩⟩;have U:=fun(ap:zf ag)=>zlX (wrL s.aE).1 (wrL s.aE).2 ap.world
 refine qq [(2,⟨fun a=>a=Xi #[I6 (wrL s.aE).1,I6 (wrL s.aE).2],fun a w'=>True⟩),(6,⟨fun a=>a=I6 (tbW s.tb),fun a w'=>True⟩),(7,⟨fun a=>∃am,a=O (Xa ⟨am,0,Xb⟩) 2 2,fun a w'=>zj zll w' a [(wrL s.aE).1,tbW s.tb]⟩),(8,⟨fun a=>a=I6 (zC [(wrL s.aE).1,tbW s.tb]),fun a w'=>True⟩)] zU Kr (Sd ⟨_,rfl⟩ ⟨_,rfl⟩ ⟨_,0,rfl⟩ ⟨_,rfl⟩) ?hp ?_
 case hp=>
  intro x E;simp only[mC,nM,or_false]at E
  rcases E with rfl|rfl|rfl|rfl
  ·exact fun _ _ _ _ h=>h
  ·exact fun _ _ _ _ h=>h
  ·exact fun _ _ _ k h=>zj.aA h k
  exact fun _ _ _ _ h=>h
 iterate 2 refine ze ?_
 refine zz rfl rfl (fun w' k q=>?_) (fun a6 p=>?_)
 ·refine zI.call [x.ar.x] rfl func117 rfl rfl rfl ?_;refine(K w' (g.trans k)).mono ?_;rintro e G⟨rfl,m⟩;exact⟨_,rfl,m,rfl,trivial⟩
 subst p;refine Uq ?_;iterate 3 refine ze ?_
 refine zz rfl rfl (fun w' k q=>?_) (fun a6 p=>?_)
 ·refine zI.call [Xi #[x.t0.x,x.t1.x,x.t2.x,x.t3.x,x.t4.x,x.t5.x,x.t6.x,x.t7.x]] rfl func118 rfl rfl rfl ?_;refine(L w' (g.trans k)).mono ?_;rintro e G⟨rfl,m⟩;exact⟨_,rfl,m,rfl,trivial⟩
 subst p;refine Uq ?_;refine zz rfl rfl (fun w' k q=>?_) (fun a6 p=>?_)
 ·have D:zj zll (w'.alloc (Xk #[I6 ((wrL s.aE).1),I6 (tbW s.tb)] 47)) (O (Xa ⟨w'.heap.size,0,Xb⟩) 2 2) [(wrL s.aE).1,tbW s.tb]:=zeS zll w' [(wrL s.aE).1,tbW s.tb] _ rfl (show 2*8<=140737488355328 by decide)
  refine zI.step (v:=O (Xa ⟨w'.heap.size,0,Xb⟩) 2 2) (w':=w'.alloc (Xk #[I6 ((wrL s.aE).1),I6 (tbW s.tb)] 47)) (by simp only[execOp];go_simp) ⟨za _ _,⟨_,rfl⟩,D⟩
 obtain⟨ai,rfl⟩:=p;refine Uq ?_;refine zz rfl rfl (fun w' k q=>?_) (fun a6 p=>?_)
 ·have an:zj zll w' (O (Xa ⟨ai,0,Xb⟩) 2 2) [(wrL s.aE).1,tbW s.tb]:=q 7 Kr
  refine zI.call [O (Xa ⟨ai,0,Xb⟩) 2 2] rfl func19 rfl rfl rfl ?_;refine(zcW _ _ w' an).mono ?_;rintro e G⟨rfl,rfl⟩;exact⟨_,rfl,zc.refl _,rfl,trivial⟩
 subst p;refine Uq ?_;refine ze ?_
 refine zH fun ak l q=>?_
 have t:=dD (g.trans l);have al:=dD (d.aA l);clear l q X Y I a0 a1 a2 a3 a4 a5 V U;rw[y.out]
 by_cases j:r=0
 ·have P:(r !=0)=Xd:=by simp[j]
  rw[kE j]at c;have aq:=dD j;clear j;obtain⟨a7,ao,a8,a9,aa,ab,ac,ad,ae,af⟩:=al.c10
  cases b:x.aH with
  |true=>
   rw[b]at c a7;have i:Xo (Z=0):=dD<|by rw[<-c.out,kF Sm]
   clear a8 a9 aa ab ac ad ae af;go_wp2;go_ret;exact⟨Rr i.out,t⟩
  |false=>
   rw[b]at c a7
   by_cases Q:0<x.ar.n
   ·have R:(0:Int)<(x.ar.n:Int):=Wm
    have i:Xo (Z=7):=dD<|by rw[<-c.out,kE ⟨rfl,.inl Q⟩]
    clear a8 a9 aa ab ac ad ae af;go_wp2;go_ret;exact⟨Rr i.out,t⟩
   have R:¬(0:Int)<(x.ar.n:Int):=Wm
   have C:=u.out ak t.out;have M:=dD Q;clear Q;go_wp2_with fail;refine C.mono ?_;clear C a7 ao a8 a9 aa ab ac ad ae af;rintro e ar⟨a,rfl,F,ah⟩;have z:=dD (t.trans ah);obtain⟨au,av,rfl⟩:=F.form;clear F ah
   by_cases S:0<H.length
   ·have T:(0:Int)<(H.length:Int):=Wm
    have i:Xo (Z=7):=dD<|by rw[<-c.out,kE (by first|exact⟨rfl,.inr S⟩|exact⟨trivial,.inr S⟩)]
    go_wp2;go_ret;exact⟨Rr i.out,z⟩
   have T:¬(0:Int)<(H.length:Int):=Wm
   have i:Xo (Z=0):=dD<|by rw[<-c.out,kF (fun h=>h.2.elim M.out S)]
   go_wp2;go_ret;exact⟨Rr i.out,z⟩
 have P:(r !=0)=Xc:=by simp[j]
 rw[kF j]at c;clear j;go_wp2;go_ret;exact⟨by rw[<-c.out];rfl,t⟩
def znr(W:Xn)(y:Addr)(x:SpV):Prop:=W.cell? y=Xa (Xh x.aH)/\W.cell? {block:=y.block,off:=y.off+1}=Xa (O x.ar.a x.ar.n x.ar.c)/\W.cell? {block:=y.block,off:=y.off+2}=Xa (O x.t0.a x.t0.n x.t0.c)/\W.cell? {block:=y.block,off:=y.off+3}=Xa (O x.t1.a x.t1.n x.t1.c)/\W.cell? {block:=y.block,off:=y.off+4}=Xa (O x.t2.a x.t2.n x.t2.c)/\W.cell? {block:=y.block,off:=y.off+5}=Xa (O x.t3.a x.t3.n x.t3.c)/\W.cell? {block:=y.block,off:=y.off+6}=Xa (O x.t4.a x.t4.n x.t4.c)/\W.cell? {block:=y.block,off:=y.off+7}=Xa (O x.t5.a x.t5.n x.t5.c)/\W.cell? {block:=y.block,off:=y.off+8}=Xa (O x.t6.a x.t6.n x.t6.c)/\W.cell? {block:=y.block,off:=y.off+9}=Xa (O x.t7.a x.t7.n x.t7.c)
theorem q8.sp10{y:Addr}{x:SpV}(h:q8 W y (spv x)):znr W y x:=⟨h 0 _ rfl,h 1 _ rfl,h 2 _ rfl,h 3 _ rfl,h 4 _ rfl,h 5 _ rfl,h 6 _ rfl,h 7 _ rfl,h 8 _ rfl,h 9 _ rfl⟩
theorem zq.bE{w:Xn}(h:zq w V m):∃a:List SpV,a.length=m.sp.length/\(∀(j:Nat)x,a[j]?=Xa x->∃b,V.sp.a=Xa b/\∀W,zc w W->znr W (b.add (j*10)) x)/\∀(i:Nat)x s,a[i]?=Xa x->m.sp[i]?=Xa s->j3 w x s:=by
 obtain⟨a,c,d,e⟩:=h.sp;refine⟨a,d,fun j x f=>?_,e⟩
 obtain⟨b,a,d⟩:=c.aZ j x f;exact⟨b,a,fun W a=>(d W a).sp10⟩
theorem zcz(V m w)(N:zq w V m):
  Xp prog 30 #[Xi (mL V m).toArray] w fun e w'=>e=Xl (I6 (Qe m))/\zc w w':=by
 obtain⟨am,an,Y,I,U,W,X,T,⟨R,a,S⟩⟩:=V;dsimp only[mL];obtain⟨-,-,-,-,-,-,-,-,P⟩:=N.ns;dsimp only at P;obtain⟨ao,A,h,z⟩:=N.bE;have G:=dD A;have a5:=dD h;have F:=dD z;have D:=dD P.symm;obtain⟨Z,a1⟩:=kA (Qe m);rw[a1.out];have r:Xo ((if 4<a then 4 else zC (m.sp.map spE))=Z):=show _=_ by rw[<-a1.out,<-D.out];rfl
 clear N A h z P;obtain⟨ap,f⟩:=kB (w.alloc (Xk #[am.x,I6 m.aB,an.x,Y.x,I.x,U.x,W.x,X.x,I6 m.cnt,T.x,O R a S] 45));have n:=gA f
 have a2:=xA f
 have q:=dD f;clear f
 by_cases u:4<a
 ·have M:=kC u
  have l:Xo (Z=4):=dD<|by rw[<-r.out,kE u]
  go_enter func30,ntmps30
  go_upto_region 1 with fail;rw[q.out];have B:=a2.c 10 rfl;go_wp2;go_ret;exact⟨Rr l.out,n⟩
 have M:=kD u
 have al:a<=4:=Wm
 have t:Xo (zC (m.sp.map spE)=Z):=dD<|by rw[<-r.out,kF u]
 clear u
 go_enter func30,ntmps30
 go_upto_region 1 with fail;rw[q.out];have B:=a2.c 10 rfl;go_wp2;clear B
 go_loopg[13] a (fun ai Q wr=>∃c:Nat,c<=a/\a-c<=ai/\Q=I6 c/\Xo (zc w wr)/\Xo (∀(j:Nat)s,j<c->m.sp[j]?=Xa s->spE s=0))
 exact⟨0,nZ _,Wm,rfl,n,fun j s a3=>absurd a3 (nL _)⟩
 obtain⟨c,ak,aj,rfl,C,H⟩:=hrel
 by_cases g:c<a
 ·have y:=kC g
  obtain⟨s,E⟩:∃s,Xo (m.sp[c]?=Xa s):=⟨_,gE (Rx D.out g)⟩
  obtain⟨x,a0⟩:∃x,Xo (ao[c]?=Xa x):=⟨_,gE (by rw[G.out,D.out];exact g)⟩
  obtain⟨ar,rfl,a4⟩:=a5.out c x a0.out;obtain⟨a6,a7,a8,a9,aa,ab,ac,ae,af,ag⟩:=a4 wr C.out;have b:=zdH x s _ ((F c x s a0 E).aA (C.trans (za wr (Xk #[Xh x.aH,x.ar.x,x.t0.x,x.t1.x,x.t2.x,x.t3.x,x.t4.x,x.t5.x,x.t6.x,x.t7.x] 76))));clear a4;obtain⟨e,d⟩:=kA (spE s);rw[d.out]at b;go_upto_region 6 with fail;clear a6 a7 a8 a9 aa ab ac ae af ag;go_wp2_with fail;refine b.mono ?_;clear b;rintro au aq⟨rfl,v⟩;have p:=dD ((C.trans (za _ _)).trans v);clear v
  by_cases i:e=0
  ·have L:(e !=0)=Xd:=by simp[i]
   have K:Xo (∀(j:Nat)s,j<c+1->m.sp[j]?=Xa s->spE s=0):=dD<|fun j s a3 k=>by
    by_cases ah:j=c
    ·subst ah;rw[E.out]at k;cases k;rw[d.out];exact i
    exact H j s Wm k
   clear i;go_wp2
   go_roundg (a-(c+1));exact⟨c+1,Wm,Wm,Gn,p,K⟩;omega
  have L:(e !=0)=Xc:=by simp[i]
  have l:Xo (Z=e):=dD<|by rw[<-t.out,zdj E H (Rx d.out i)];exact d.out
  clear i;go_wp2;go_ret;exact⟨Rr l.out,p⟩
 have y:=kD g
 have:c=a:=Wm
 subst this;have l:Xo (Z=0):=dD<|by rw[<-t.out];exact zer fun j s k=>H.out j s (by rw[<-D.out];exact(gS.1 k).1) k
 go_wp2;go_ret;exact⟨Rr l.out,C⟩
def zbz(l:List Ca)(k:Nat):Option Ca:=match k with|0=>Xb|k+1=>l[k]?
theorem zqv{p:Option Ca}{c:Ca}(h:caE m Xb c≠0):caE m p c=caE m Xb c:=by
 unfold caE at h⊢
 grind
theorem zhd{q c:Ca}(h:caE m Xb c=0):caE m (Xa q) c=if qp c<=qp q then 2 else 0:=by grind[caE]
theorem zjz{l:List Ca}{k:Nat}{c:Ca}{Z:Int}(h:zbU m (zbz l k) (l.drop k)=Z)(a:l[k]?=Xa c)(b:caE m (zbz l k) c≠0):Z=caE m (zbz l k) c:=by
 rw[jI a]at h
 grind[zbU]
theorem zhc{l:List Ca}{k:Nat}{c:Ca}{Z:Int}(h:zbU m (zbz l k) (l.drop k)=Z)(a:l[k]?=Xa c)(b:caE m (zbz l k) c=0):zbU m (zbz l (k+1)) (l.drop (k+1))=Z:=by
 rw[jI a]at h;unfold zbU at h;rw[kE b]at h
 show zbU m (l[k]?) _=Z
 grind
theorem zdL(V m w)(N:zq w V m)(b2:zjH m):
  Xp prog 31 #[Xi (mL V m).toArray] w fun e w'=>e=Xl (I6 (zd3 m))/\zc w w':=by
 have D:=dD<|fun(c:Ca)az(bl:zc w az)=>zcB V m c az (N.aA bl)
 obtain⟨b7,b8,T,W,Q,R,S,⟨F,a,G⟩,U⟩:=V;dsimp only[mL]at D⊢;obtain⟨-,-,-,-,-,-,-,ar,-⟩:=N.ns;dsimp only at ar;have aw:=dD N.cas;have a6:=dD ar.symm;have b4:a<=9223372036854775807:=Hm N.ca.short
 have a5:=dD<|fun c br(ac:caE m br c=0)=>zqu b2.st ac
 obtain⟨Z,ax⟩:=kA (zd3 m);rw[ax.out];have a9:=dD ax.out;clear N ar b2;obtain⟨c8,p⟩:=kB (w.alloc (Xk #[b7.x,I6 m.aB,b8.x,T.x,W.x,Q.x,R.x,S.x,I6 m.cnt,O F a G,U.x] 45));have a4:=gA p
 have b0:=xA p
 have a8:=dD p;clear p
 go_enter func31,ntmps31
 go_upto_region 1 with fail;rw[a8.out];have av:=b0.c 9 rfl;go_wp2;clear av
 go_loopg[9] a (fun bk bs wr=>∃d:Nat,d<=a/\a-d<=bk/\bs=I6 d/\Xo (zc w wr)/\Xo (Box wr w.heap.size [b7.x,I6 m.aB,b8.x,T.x,W.x,Q.x,R.x,S.x,I6 m.cnt,O F a G,U.x])/\Xo (zbU m (zbz m.ca d) (m.ca.drop d)=Z)/\Xo (∀(j:Nat)c,j<d->m.ca[j]?=Xa c->0<=c.idx/\c.idx<100))
 exact⟨0,nZ _,Wm,rfl,a4,b0,a9,fun j c b5=>absurd b5 (nL _)⟩
 obtain⟨d,bp,bm,rfl,I,bb,x,ay⟩:=hrel
 by_cases t:d<a
 ·have M:=kC t
  obtain⟨c,u⟩:∃c,Xo (m.ca[d]?=Xa c):=⟨_,gE (Rx a6.out t)⟩
  obtain⟨v,rfl,s⟩:=aw.out d c u.out;obtain⟨bg,bh,bi⟩:=s wr I.out;clear s;go_upto_region 4 with fail;obtain⟨b9,i⟩:=kB (wr.alloc (Xk #[I6 c.file,I6 c.idx,I6 c.fr] 105));have B:=gT i I
  have b1:=yA i bb
  have a0:=xA i
  rw[i];clear i bg bh bi;obtain⟨cc,a7⟩:=kA wr.heap.size;rw[a7.out]at a0⊢;have f:=D.out c b9 B.out;obtain⟨e,n⟩:=kA (caE m Xb c);rw[n.out]at f;obtain⟨bv,bw,bx,bz,c3,c4,c5,c6,c7,av,au⟩:=b1.aU;obtain⟨bd,be,bf⟩:=a0.c3;go_wp2_with fail;refine f.mono ?_;clear f bv bw bx bz c3 c4 c5 c6 c7 av au bd be bf;rintro ca Y⟨rfl,q⟩;have g:=dD (B.trans q);have aa:=dD (b1.aA q);have a1:=dD (a0.aA q);clear q
  by_cases r:e=0
  ·have ae:(e !=0)=Xd:=by simp[r]
   have l:Xo (caE m Xb c=0):=dD<|Rx n.out r
   have A:=dD<|a5.out c Xb l.out;have E:Xo (∀(j:Nat)c,j<d+1->m.ca[j]?=Xa c->0<=c.idx/\c.idx<100):=show∀(j:Nat)c,_ from fun j bc b5 af=>by
    by_cases bj:j=d
    ·subst bj;rw[u.out]at af;cases af;exact A.out
    exact ay j bc Wm af
   clear r;go_upto_region 7 with fail
   cases d with
   |zero=>
    have a2:=dD<|zhc x u l.out;have ap:¬(0:Int)<((0:Nat):Int):=Dc
    have aq:decide ((0:Int)<((0:Nat):Int))=Xd:=Dc
    go_quiet(fail);go_wp2
    go_roundg (a-1);exact⟨1,Wm,Wm,Gn,g.trans (show Below _ _ _ from bD (bR _ _) _),aa.aA (show Below _ _ _ from bD (bR _ _) _),a2,E⟩;omega
   |succ j=>
    obtain⟨b,X⟩:∃b,Xo (m.ca[j]?=Xa b):=⟨_,gE (by rw[a6.out];omega)⟩
    have a3:Xo (0<=b.idx/\b.idx<100):=ay.out j b Wm X.out
    have ap:(0:Int)<((j+1:Nat):Int):=Wm
    have aq:decide ((0:Int)<((j+1:Nat):Int))=Xc:=Sm
    have bn:((j+1:Nat):Int)-1=(j:Int):=Wm
    have bo:(j:Int)<(a:Int):=Wm
    obtain⟨ab,L,s⟩:=aw.out j b X.out;obtain rfl:v=ab:=by cases L;rfl
    have al:=aa.gw 9 rfl
    have ag:=a1.gw 0 rfl
    have ah:=a1.gw 1 rfl
    have ai:=a1.gw 2 rfl
    have am:=fun y:zf Y=>(s _ (g.trans y.aA)).1
    have an:=fun y:zf Y=>(s _ (g.trans y.aA)).2.1
    have ao:=fun y:zf Y=>(s _ (g.trans y.aA)).2.2
    have aj:Nonempty (zf Y):=⟨⟨_,zc.refl _⟩⟩;clear s L;have z:=dD<|zno a3 A.out;refine qq [(10,⟨fun b6=>b6=Xh (QF b c),fun b6 w'=>True⟩)] zU Kr (Sa ⟨_,rfl⟩) ?hp ?_
    case hp=>
     intro bu P;simp only[mC,nM,or_false]at P;subst P;exact fun _ _ _ _ ac=>ac
    iterate 10 refine ze ?_
    refine zz rfl rfl (fun w' cb b3=>?_) (fun cd bq=>?_)
    ·refine zI.call [Xi #[I6 b.file,I6 b.idx,I6 b.fr],Xi #[I6 c.file,I6 c.idx,I6 c.fr]] rfl func65 rfl rfl rfl ?_;refine(zic b c w').mono ?_;rintro e bt⟨rfl,k⟩;exact⟨_,rfl,k,rfl,trivial⟩
    subst bq;refine Uq ?_;iterate 2 refine ze ?_
    refine zH fun c9 k b3=>?_
    have C:=dD (g.trans k);have ba:=dD (aa.aA k);clear k b3 al ag ah ai am an ao aj
    cases K:QF b c with
    |true=>
     have a2:Xo (zbU m (zbz m.ca (j+1+1)) (m.ca.drop (j+1+1))=Z):=zhc x u (by
      have ak:zbz m.ca (j+1)=Xa b:=X.out;rw[ak,zhd l.out,kF];have:=z.out;rw[K]at this
      simpa using this)
     go_wp2
     go_roundg (a-(j+1+1));exact⟨j+1+1,Wm,Wm,Gn,C,ba,a2,E⟩;omega
    |false=>
     have h:Xo (Z=2):=dD<|by
      have ak:zbz m.ca (j+1)=Xa b:=X.out;have H:caE m (zbz m.ca (j+1)) c=2:=by
       rw[ak,zhd l.out,kE];have:=z.out;rw[K]at this
       simpa using this
      rw[zjz x u (by rw[H];decide),H]
     go_wp2;go_ret;exact⟨Rr h.out,C⟩
  have ae:(e !=0)=Xc:=by simp[r]
  have h:Xo (Z=e):=dD<|by
   have H:caE m (zbz m.ca d) c=e:=by rw[zqv (Rx n.out r),n.out]
   rw[zjz x u (Rx H r),H]
  clear r;go_wp2;go_ret;exact⟨Rr h.out,g⟩
 have M:=kD t
 have:d=a:=Wm
 subst this;have h:Xo (Z=0):=dD<|by
  rw[<-x.out,Ya (by rw[a6.out];exact nR _)]
  cases zbz m.ca d<;>rfl
 go_wp2;go_ret;exact⟨Rr h.out,I⟩
structure Q1(lo hi:Nat)(w:Xn)(x:SpV)(s:Sp):Prop where
 aH:x.aH=s.aH
 ar:zb arE lo w x.ar.v s.aE
 tb:jk lo w x.tab s.tb
 arh:∀g,x.ar.v.ownBlock=Xa g->g<hi
 tbh:∀(i:Nat)v,x.tab[i]?=Xa v->∀g,v.ownBlock=Xa g->g<hi
theorem Q1.aA{a:Nat}{w:Xn}{x:SpV}{s:Sp}(h:Q1 a hi w x s)(k:zc w w'):Q1 a hi w' x s:=⟨h.aH,h.ar.aA k,h.tb.aA k,h.arh,h.tbh⟩
theorem Q1.at{a:Nat}{w:Xn}{x:SpV}{s:Sp}(h:Q1 a hi w x s):j3 w x s:=⟨h.aH,h.ar.at,h.ar.cap,h.tb.new.now⟩
theorem jk.grown{base:Nat}{w:Xn}{t:List (List En)}(h:jk base w vs t)(b:w.grownBy w' (Xa g))(c:∀(i:Nat)v,vs[i]?=Xa v->v.ownBlock≠Xa g):jk base w' vs t:=
 ⟨h.len,h.aO,fun i v x a d=>(h.row i v x a d).grown b (fun b b e=>by cases e;exact c i v a b),h.two⟩
theorem Q1.beside{a:Nat}{w:Xn}{x:SpV}{s:Sp}{cs:Array Xq}(h:Q1 a hi w x s)(b:w.grownBy w' (Xa g))(c:w.heap[g]?=Xa (Xk cs t (0,0)))(f:t≠arE.ty)(j:t≠enE.ty):Q1 a hi w' x s:=by
 have a:∀{c:Type}{E:Elt c}{d:Nat}{v:Xq}{l:List c},zb E d w v l->t≠E.ty->∀k,v.ownBlock=Xa k->Xa g≠Xa k:=fun d c k c e=>by
  cases e;obtain⟨i,i⟩:=d.obj c
  grind
 refine⟨h.aH,h.ar.grown b (a h.ar f),h.tb.grown b (fun i v b e=>?_),h.arh,h.tbh⟩
 obtain⟨y,c⟩:∃y,s.tb[i]?=Xa y:=⟨_,gE (by rw[h.tb.aO,<-h.tb.len];exact(gS.1 b).1)⟩
 exact a (h.tb.row i v y b c) j g e rfl
def Q3(base:Nat)(w:Xn)(v:Xq)(ss:List Sp):Prop:=
 ∃(xs:List SpV)(B:Nat->Nat),zb Q4 base w v xs/\xs.length=ss.length/\base<=B 0/\(∀i,B i<=B (i+1))/\∀(i:Nat)x s,xs[i]?=Xa x->ss[i]?=Xa s->Q1 (B i) (B (i+1)) w x s
theorem Q3.aA{base:Nat}{w:Xn}{v:Xq}{a:List Sp}(h:Q3 base w v a)(k:zc w w'):Q3 base w' v a:=by
 obtain⟨f,B,a,b,c,d,e⟩:=h;exact⟨f,B,a.aA k,b,c,d,fun i x s b a=>(e i x s b a).aA k⟩
theorem Q3.base{base:Nat}{w:Xn}{v:Xq}{a:List Sp}(h:Q3 base w v a)(e:base'<=base):Q3 base' w v a:=by
 obtain⟨f,B,a,b,c,c,d⟩:=h;exact⟨f,B,a.base e,b,Wm,c,d⟩
structure zbW(base:Nat)(w:Xn)(kk:Nat)(xs ys:List SpV)(ss:List Sp)(B:Nat->Nat):Prop where
 len:ys.length=xs.length
 own:∀(i:Nat)y s,i<kk->ys[i]?=Xa y->ss[i]?=Xa s->Q1 (B i) (B (i+1)) w y s
 rest:∀(i:Nat),kk<=i->ys[i]?=xs[i]?
 b0:base<=B 0
 mono:∀i,B i<=B (i+1)
 aD:B kk<=w.heap.size
theorem zbW.aA{base:Nat}{w:Xn}{xs b:List SpV}{a:List Sp}{B:Nat->Nat}(h:zbW base w kk xs b a B)(k:zc w w'):zbW base w' kk xs b a B:=⟨h.len,fun i y s a c b=>(h.own i y s a c b).aA k,h.rest,h.b0,h.mono,nT h.aD (bS k)⟩
theorem zc0{B:Nat->Nat}(h:∀i,B i<=B (i+1)):∀{i j:Nat},i<=j->B i<=B j
 |i,0,a=>by rw[show i=0 from Wm];exact nR _
 |i,j+1,a=>by
  by_cases e:i=j+1
  ·subst e;exact nR _
  exact nT (zc0 h Wm) (h j)
theorem ZU:Q4.ty≠arE.ty/\Q4.ty≠enE.ty:=by decide
theorem zbW.step{base:Nat}{w:Xn}{xs c:List SpV}{a:List Sp}{B:Nat->Nat}{cs:Array Xq}(h:zbW base w kk xs c a B)(f:w.grownBy w' (Xa g))(j:w.heap[g]?=Xa (Xk cs Q4.ty (0,0)))(b:w'.heap.size=w.heap.size){x:SpV}{s:Sp}(e:xs[kk]?=Xa x)(k:a[kk]?=Xa s)
  {y:SpV}(d:Q1 (B kk) w.heap.size w' y s):zbW base w' (kk+1) xs (c.set kk y) a (fun i=>if i<=kk then B i else w.heap.size):=by
 have a:kk<c.length:=by rw[h.len];exact(gS.1 e).1
 refine⟨by simp[h.len],fun i z k d c a=>?_,fun i d=>?_,by simpa using h.b0,fun i=>?_,by rw[kF Wm,b];exact nR _⟩
 ·by_cases e:i=kk
  ·grind
  rw[sN (fun h=>e h.symm)]at c
  have b:=(h.own i z k Wm c a).beside f j ZU.1 ZU.2
  grind
 ·rw[sN Wm]
  exact h.rest i Wm
 by_cases a:i+1<=kk
 ·rw[kE Wm,kE a]
  exact h.mono i
 rw[kF a]
 by_cases a:i<=kk
 ·rw[kE a];exact nT (zc0 h.mono a) h.aD
 grind
theorem zbW.all{base:Nat}{w:Xn}{xs b:List SpV}{a:List Sp}{B:Nat->Nat}{v:Xq}(h:zbW base w xs.length xs b a B)(c:xs.length=a.length)(d:zb Q4 base w v b):Q3 base w v a:=
 ⟨b,B,d,h.len.trans c,h.b0,h.mono,fun i y s a b=>h.own i y s (by rw[<-h.len];exact(gS.1 a).1) a b⟩
theorem znS{base:Nat}{w:Xn}{t:List (List En)}(h:jk base w us t):∃a t1 t2 t3 b c d e:Sli,us=[a.v,t1.v,t2.v,t3.v,b.v,c.v,d.v,e.v]:=by
 obtain⟨u0,u1,u2,u3,u4,u5,u6,u7,rfl⟩:=zoM h.len;obtain⟨a,a,a,a,a,a,a,a,rfl⟩:=zoM h.aO;obtain⟨a,j,rfl⟩:=(h.row 0 _ _ rfl rfl).form;obtain⟨b,k,rfl⟩:=(h.row 1 _ _ rfl rfl).form;obtain⟨c,l,rfl⟩:=(h.row 2 _ _ rfl rfl).form;obtain⟨d,m,rfl⟩:=(h.row 3 _ _ rfl rfl).form;obtain⟨e,n,rfl⟩:=(h.row 4 _ _ rfl rfl).form;obtain⟨f,p,rfl⟩:=(h.row 5 _ _ rfl rfl).form;obtain⟨g,q,rfl⟩:=(h.row 6 _ _ rfl rfl).form;obtain⟨i,r,rfl⟩:=(h.row 7 _ _ rfl rfl).form;exact⟨⟨a,_,j⟩,⟨b,_,k⟩,⟨c,_,l⟩,⟨d,_,m⟩,⟨e,_,n⟩,⟨f,_,p⟩,⟨g,_,q⟩,⟨i,_,r⟩,rfl⟩
theorem zeX(v k)(w:Xn)(c8:Q0 w v k):
  Xp prog 56 #[v] w fun e w'=>∃bp,e=Xl bp/\Q3 w.heap.size w' bp k/\zc w w':=by
 obtain⟨u,b8,c9,ca⟩:=c8;have bl:=dD b8;have bk:=dD c9;have ay:=dD ca;have a0:=b8.short;obtain⟨cd,ce,rfl,_⟩:=b8.rows;obtain⟨n,L⟩:=kA u.length;rw[L.out]at a0 bl⊢;have b5:=zix _ u w bl.out
 go_enter func56,ntmps56
 go_wp2_with fail;refine b5.mono ?_;rintro e c0⟨da,rfl,H,c3⟩;obtain⟨bq,al,rfl⟩:=H.form;rw[L.out]at H⊢;have bx:=dD H;have bi:=dD c3;go_wp2
 go_loopg[10] n (fun c4 bb wr=>∃(a:Nat)(b:List SpV)(B:Nat->Nat),a<=n/\n-a<=c4/\bb=I6 a/\Xo (zc w wr)/\Xo (zb Q4 w.heap.size wr (O bq n al) b)/\Xo (zbW w.heap.size wr a u b k B))
 exact⟨0,u,fun _=>c0.heap.size,nZ _,Wm,rfl,bi,bx,⟨rfl,fun i y cp a4=>absurd a4 (nL _),fun i _=>rfl,bS bi,fun i=>nR _,nR _⟩⟩
 obtain⟨a,b,B,c7,c6,rfl,bh,M,r⟩:=hrel
 by_cases d:a<n
 ·have a5:=kC d
  obtain⟨x,C⟩:∃x,Xo (u[a]?=Xa x):=⟨_,gE (Rx L.out d)⟩
  obtain⟨s,U⟩:∃s,Xo (k[a]?=Xa s):=⟨_,gE (by rw[<-bk.out,L.out];exact d)⟩
  have z:=dD<|ay.out a x s C U.out;have bm:Xo (b[a]?=Xa x):=show _=_ by rw[r.rest a (nR _)];exact C.out
  have D:Xo (b.length=n):=dD<|by rw[r.len,L.out]
  obtain⟨g,cc,a3⟩:=M.aJ (by rw[D.out];omega)
  rw[D.out]at a3;cases a3;have a1:znr wr ((Addr.mk g 0 Xb).add (a*10)) x:=(M.one bm).sp10;rw[Yk,zA]at a1;obtain⟨cf,cg,ch,ci,cj,ck,cl,cm,cn,co⟩:=a1;have Q:Xo (w.heap.size<=g):=dD<|(M.lt g rfl).1
  go_upto_region 5 with fail;obtain⟨ab,c⟩:=kB (wr.alloc (Xk #[Xh x.aH,x.ar.x,x.t0.x,x.t1.x,x.t2.x,x.t3.x,x.t4.x,x.t5.x,x.t6.x,x.t7.x] 76));have N:=gT c bh
  have b3:=xA c
  have b0:Xo (zb Q4 w.heap.size ab (O (Xa ⟨g,0,Xb⟩) n al) b):=dD<|by rw[<-c];exact M.aA (za _ _)
  have bj:Xo (zbW w.heap.size ab a u b k B):=dD<|by rw[<-c];exact r.aA (za _ _)
  have R:=dD<|(M.lt g rfl).2
  rw[c];obtain⟨cb,av⟩:=kA wr.heap.size;rw[av.out]at b3 R⊢;have cq:=b3.c 1 rfl;have b4:=ziz (x.ar.x) s.aE ab (z.ar.aA N);go_wp2_with fail;refine b4.mono ?_;rintro e c1⟨db,rfl,q,Y⟩;have bw:=dD q.cap;obtain⟨f,h,rfl⟩:=q.form;obtain⟨j,aw⟩:=kA s.aE.length;rw[aw.out]at q⊢;have bf:=dD q;have an:=dD (N.trans Y);have bz:=dD (b3.aA Y);have F:=dD (b0.aA Y);have bs:=dD (bj.aA Y);have A:=dD bj.aD;have S:=dD<|bS Y
  go_wp2_with(refine zt (E:=Q4) rfl (.tmp 21) (.tmp 19) 71 rfl w.heap.size _ b F g a 1 rfl x {x with ar:=⟨f,j,h⟩} bm.out [O f j h] ?s1 rfl ?s2 ?s3 ⟨g,a*10+1,Xb⟩ rfl rfl (O f j h) rfl rfl ?_)
  case s1=>kernel_rfl
  case s2=>show 1+1<=10;omega
  case s3=>simp;rfl
  intro l b9 m bc;have aq:Xo (∃X,c1.heap[g]?=Xa (Xk X Q4.ty (0,0))):=F.obj rfl;have P:=dD<|zd an m Q.out
  have t:Xo (Box l cb [Xh x.aH,x.ar.x,x.t0.x,x.t1.x,x.t2.x,x.t3.x,x.t4.x,x.t5.x,x.t6.x,x.t7.x]):=bz.grown m (Hm R.out)
  have b1:Xo (zb Q4 w.heap.size l (O (Xa ⟨g,0,Xb⟩) n al) (b.set a {x with ar:=⟨f,j,h⟩})):=b9;have br:Xo (zb arE ab.heap.size l (O f j h) s.aE):=bf.grown m (fun ac I e=>by
   cases e;exact F.apart bf ZU.1 g rfl I)
  have bt:Xo (∀(i:Nat)y K,i<a->b[i]?=Xa y->k[i]?=Xa K->Q1 (B i) (B (i+1)) l y K):=dD<|fun i y K a4 a7 b7=>by
   obtain⟨X,p⟩:=aq.out;exact(bs.own i y K a4 a7 b7).beside m p ZU.1 ZU.2
  have T:=dD bc;have b6:=zgl x.tab s.tb l (z.aA P).tb;have a2:Xp prog 105 #[Xi #[x.t0.x,x.t1.x,x.t2.x,x.t3.x,x.t4.x,x.t5.x,x.t6.x,x.t7.x]] l fun e w'=>∃be,e=Xl (Xi be.toArray)/\jk (l.heap.size+2) w' be s.tb/\zc l w'/\l.heap.size+2<=w'.heap.size:=b6
  obtain⟨_,_,cr,ct,cu,cv,cw,cx,cy,cz⟩:=t.k10;go_wp2_with fail;refine a2.mono ?_;rintro e W⟨be,rfl,a8,Z,_⟩;obtain⟨ad,ae,af,ag,ah,ai,aj,ak,rfl⟩:=znS a8;have aa:=dD a8;have ao:=dD (P.trans Z);have V:=dD (b1.aA Z);have bg:=dD (br.aA Z);have bu:=dD<|fun(i:Nat)y K(a4:i<a)(a7:b[i]?=Xa y)(b7:k[i]?=Xa K)=>(bt i y K a4 a7 b7).aA Z
  have ax:=dD<|bS Z
  have az:Xo ((b.set a {x with ar:=⟨f,j,h⟩})[a]?=Xa {x with ar:=⟨f,j,h⟩}):=dD<|sF (Rx D.out d)
  go_wp2_with(refine zt (E:=Q4) rfl (.tmp 28) (.tmp 26) 74 rfl w.heap.size _ _ V g a 2 rfl {x with ar:=⟨f,j,h⟩} ⟨x.aH,⟨f,j,h⟩,ad,ae,af,ag,ah,ai,aj,ak⟩ az.out [ad.v,ae.v,af.v,ag.v,ah.v,ai.v,aj.v,ak.v] ?s1 rfl ?s2 ?s3 ⟨g,a*10+2,Xb⟩ rfl rfl _ rfl rfl ?_)
  case s1=>kernel_rfl
  case s2=>show 2+8<=10;omega
  case s3=>
   intro bo a6;simp only[mC,nM,or_false]at a6
   rcases a6 with rfl|rfl|rfl|rfl|rfl|rfl|rfl|rfl<;>rfl
  intro c2 ba G bd;have au:Xo (∃X,W.heap[g]?=Xa (Xk X Q4.ty (0,0))):=V.obj rfl;have ap:=dD<|zd ao G Q.out
  have b2:=dD ba;have am:Xo (zbW w.heap.size c2 (a+1) u (b.set a ⟨x.aH,⟨f,j,h⟩,ad,ae,af,ag,ah,ai,aj,ak⟩) k (fun i=>if i<=a then B i else W.heap.size)):=show zbW _ _ _ _ _ _ _ by
   obtain⟨X,p⟩:=au.out;have c5:zbW w.heap.size W a u b k B:=⟨r.len,bu,r.rest,r.b0,r.mono,by have:=A.out;have:=S.out;have:=T.out;have:=ax.out;omega⟩
   refine c5.step G p bd C U.out ?_;have a9:Q1 (B a) W.heap.size W ⟨x.aH,⟨f,j,h⟩,ad,ae,af,ag,ah,ai,aj,ak⟩ s:=⟨z.aH,bg.base A,aa.base (by have:=A.out;have:=S.out;have:=T.out;omega),fun ac I=>(bg.lt ac I).2,fun i bo a6 ac I=>by
    obtain⟨y,a7⟩:∃y,s.tb[i]?=Xa y:=⟨_,gE (by rw[aa.aO,<-aa.len];exact(gS.1 a6).1)⟩
    exact((aa.row i bo y a6 a7).lt ac I).2⟩
   exact a9.beside G p ZU.1 ZU.2
  go_wp2
  go_roundg (n-(a+1));exact⟨a+1,_,_,Wm,Wm,Gn,ap,b2,am⟩;omega
 have a5:=kD d
 have:a=n:=Wm
 subst this;have bv:Xo (Q3 w.heap.size wr (O bq a al) k):=dD<|by
  have bn:=r.out;rw[<-L.out]at bn;exact bn.all bk M.out
 go_wp2;go_ret;exact⟨_,rfl,bv,bh⟩
theorem zdu(v fs)(w:Xn)(h:zj z9 w v fs):
  Xp prog 98 #[v] w fun e w'=>∃d,e=Xl d/\zb z9 w.heap.size w' d fs/\zc w w':=by
 have i:=dD h;obtain⟨⟨f,g,rfl,b,c⟩,a⟩:=h;have h:=fun w f n g j h=>Lib.run_eql_slice_nil w _ _ f n g j h underlying30
 cases f with
 |none=>
  have f:=b rfl;subst f;clear c b a
  go_enter func98,ntmps98
  go_wp2;go_ret;exact⟨_,rfl,zb.nil z9 _ _,zc.refl w⟩
 |some x=>
  have f:=dD a;clear c b a
  go_enter func98,ntmps98
  go_wp2_with(at_builtin;refine zr (E:=z9) rfl (.tmp 5) (.tmp 6) rfl w.heap.size _ [] rfl (zb.made z9 w) _ fs rfl (i.aA (za _ _)) ?qb Sm ?_)
  case qb=>rw[Ye,zA];exact f.out
  intro d a b a;go_wp2;go_ret;exact⟨d,rfl,Si b,((bR _ w).alloc (nR _) _).grown a Sm (by intro k a;simp[Value.ownBlock]at a;omega)⟩
theorem Qq(a)(c:Nat)(fs:List Fr)(h:Int)(w:Xn)(i:zj z9 w (O a fs.length c) fs):
  Xp prog 51 #[Xi #[O a fs.length c,I6 h]] w fun e w'=>∃b,e=Xl (Xi #[b,I6 h])/\zb z9 w.heap.size w' b fs/\zc w w':=by
 have r:=dD i;clear i;obtain⟨n,d⟩:=kA fs.length;rw[d.out]at r⊢
 go_enter func51,ntmps51
 go_wp2;obtain⟨g,d⟩:=kB ((w.alloc (Xk #[O a n c,I6 h] 32)).alloc (Xk #[eS,I6 0] 32));have f:=gD2 d
 have l:Xo (g.heap.size=w.heap.size+2):=dD<|by rw[<-d];simp
 have j:=x2a d
 have s:=x2b d
 rw[d];clear d;have m:=fun x:zf g=>(j.aA x.aA).c 0 rfl
 have q:=fun x:zf g=>(j.aA x.aA).c 1 rfl
 have k:Nonempty (zf g):=⟨⟨_,zc.refl _⟩⟩;refine jc 6 [(2,⟨fun g=>∃a n c,g=O a n c,fun g w'=>zb z9 (w.heap.size+2) w' g fs⟩)] zU Kr rfl rfl Dc ?_ ?_ ?_
 ·intro x d
  simp at d
  subst d;exact⟨_,Xb,0,0,rfl⟩
 ·intro x d
  simp at d
  subst d;intro g d d d h;exact h.aA d
 simp only[Yr,Ys];iterate 2 refine ze ?_
 refine zz rfl rfl (fun w' d j=>?_) (fun g i=>?_)
 ·refine zI.call [O a n c] rfl func98 rfl rfl rfl ?_;refine(zdu _ fs w' (r.aA (f.out.trans d))).mono ?_;rintro e g⟨g,rfl,n,g⟩;obtain⟨r,r,rfl⟩:=n.form;exact⟨_,rfl,g,⟨_,_,_,rfl⟩,n.base (by have:=bS d;rw[l.out]at this;exact this)⟩
 obtain⟨l,r,n,rfl⟩:=i;refine Uq ?_;iterate 3 refine ze ?_
 refine zH fun w' d j=>?_
 have i:=dD<|j 2;have g:=s.aA d;obtain⟨s,s⟩:=g.k2;have s:=g.f;have g:=dD (f.out.trans d);clear j m q d k;go_wp2;refine bodyPost_ret (v:=Xi #[O l r n,I6 h]) (by simp[results,Tryz.results51,go_sem, *]) rfl ⟨_,rfl,((i.out.setCell Sm _).setCell Sm _).base Wm,?_⟩
 exact Below.setCell (Below.setCell g (p:=⟨w.heap.size+1,0,Xb⟩) Sm _) (p:=⟨w.heap.size+1,1,Xb⟩) Sm _
def isZ(z:Int):Bool:=z==0
def zpe(fs:List Int):Int:=if fs.findIdx isZ<fs.length then(fs.findIdx isZ:Int)else-1
theorem zkv(v fs w)(s:zj slE w v fs):
  Xp prog 247 #[v,I6 0] w fun e w'=>e=Xl (I6 (zpe fs))/\zc w w':=by
 have g:=s.short;obtain⟨E,G,rfl,c⟩:=s.sls;have y:=dD c;clear c s;obtain⟨n,m⟩:=kA fs.length;rw[m.out]at g⊢
 go_enter func247,ntmps247
 go_wp2
 go_loopg[5,8] n (fun z _ D wr=>∃a:Nat,a<=n/\n-a<=z/\D=I6 a/\Xo (zc w wr)/\Xo (∀j q,j<a->fs[j]?=Xa q->isZ q=Xd))
 exact⟨0,nZ _,Wm,rfl,zc.refl w,fun j q h=>absurd h (nL _)⟩
 obtain⟨a,B,K,rfl,l,A⟩:=hrel
 by_cases b:a<n
 ·have i:=kC b
  obtain⟨q,r⟩:∃q,Xo (fs[a]?=Xa q):=⟨_,gE (Rx m.out b)⟩
  obtain⟨F,rfl,u⟩:=y.out a q r.out;have H:=u wr l.out;clear u
  by_cases f:q=0
  ·have p:Xo (zpe fs=(a:Int)):=dD<|by unfold zpe;rw[zoG r (by simp[isZ,f]) A,m,kE b]
   have t:(q==0)=Xc:=by simp[f]
   have k:((0:Int)==q)=Xc:=by simp[f]
   clear f;go_wp2;go_ret;exact⟨Rr p.out,l⟩
  have x:Xo (∀(j:Nat)q,j<a+1->fs[j]?=Xa q->isZ q=Xd):=dD<|fun j C h d=>by
   by_cases e:j=a
   ·subst e;rw[r.out]at d;cases d
    simpa[isZ]using f
   exact A j C Wm d
  have t:(q==0)=Xd:=by simp[f]
  have k:((0:Int)==q)=Xd:=by simp;omega
  clear f;go_wp2
  go_roundg (n-(a+1));exact⟨a+1,Wm,Wm,Gn,l,x⟩;omega
 have i:=kD b
 have:a=n:=Wm
 subst this;have p:Xo (zpe fs=-1):=dD<|by
  unfold zpe;rw[zoF (fun j q h=>A.out j q (by rw[<-m.out];exact(gS.1 h).1) h),kF (Nat.lt_irrefl _)]
 go_wp2;go_ret;exact⟨Rr p.out,l⟩
theorem zbR(v fs)(w:Xn)(h:zj slE w v fs):
  Xp prog 52 #[v] w fun e w'=>∃d,e=Xl d/\zb slE w.heap.size w' d fs/\zc w w':=by
 have i:=dD h;obtain⟨⟨f,g,rfl,b,c⟩,a⟩:=h;have h:=fun w f n g j h=>Lib.run_eql_slice_nil w _ _ f n g j h underlying34
 cases f with
 |none=>
  have f:=b rfl;subst f;clear c b a
  go_enter func52,ntmps52
  go_wp2;go_ret;exact⟨_,rfl,zb.nil _ _ _,zc.refl w⟩
 |some x=>
  have f:=dD a;clear c b a
  go_enter func52,ntmps52
  go_wp2_with(at_builtin;refine zr (E:=slE) rfl (.tmp 5) (.tmp 6) rfl w.heap.size _ [] rfl (zb.made slE w) _ fs rfl (i.aA (za _ _)) ?qb Sm ?_)
  case qb=>rw[Ye,zA];exact f.out
  intro d a b a;go_wp2;go_ret;exact⟨d,rfl,Si b,((bR _ w).alloc (nR _) _).grown a Sm (by intro k a;simp[Value.ownBlock]at a;omega)⟩
section
variable(I:Xn->Prop)(P:Program)(ops:Array Oper)(S:Nat->Option (Xq->Prop))(R:Nat->Bool)
def qY(i:Nat)(F:Xn->Prop)(a:Act)(K:(Xn->Prop)->Act->Prop):Prop:=
 match ops[i]? with
 |none=>False
 |some o=>
  if Xs o (yielded ops a.tmps)then
   match S i with
   |none=>∃v,(∀w,I w->(R i=Xc->F w)->(execOp a.eval o).run P w=.ok (.value v) w)/\K F (a.put o.dst v)
   |some s=>∃p:Xq->Xn->Prop,(∀w,I w->F w->zI P o a w fun v w'=>I w'/\s v/\p v w')/\∀v,s v->K (p v) (a.put o.dst v)
  else K F (a.put o.dst undef)
end
section
variable{I:Xn->Prop}{P:Program}{ops:Array Oper}{S:Nat->Option (Xq->Prop)}{R:Nat->Bool}{T:Nat}
theorem qY.mono{i:Nat}{F:Xn->Prop}{a:Act}{K d:(Xn->Prop)->Act->Prop}
  (h:∀c e,K c e->d c e)(b:qY I P ops S R i F a K):qY I P ops S R i F a d:=by
 unfold qY at*
 split
 ·grind
 rename_i c c
 simp only[c]at b
 split
 ·rename_i c
  simp only[c,if_true]at b
  split
  ·grind
  rename_i s c
  simp only[c]at b;obtain⟨p,c,b⟩:=b;exact⟨p,c,fun v c=>h _ _ (b v c)⟩
 grind
theorem qY.swap{i:Nat}{c:Oper}{F:Xn->Prop}{a:Act}{K:(Xn->Prop)->Act->Prop}{w:Xn}
  (hi:ops[i]?=Xa c)(t:ops[j]?=Xa oj)(f:c.apart ops oj=Xc)
  (g:∀cs b,c.op≠.select cs b)(k:∀cs b,oj.op≠.select cs b)
  (l:anc ops 9 i j=Xd)(m:anc ops 9 j i=Xd)(hS:∀s,S i=Xa s->∃v,s v)(n:S i≠Xb->(S j≠Xb\/R j=Xc)->anc ops 9 i j=Xc\/anc ops 9 j i=Xc)(x:R i=Xc->S j≠Xb->anc ops 9 i j=Xc\/anc ops 9 j i=Xc)
  (q:I w)
  (h:qY I P ops S R i F a fun d e=>qY I P ops S R j d e K):qY I P ops S R j F a fun d e=>qY I P ops S R i d e K:=by
 obtain⟨e,r,p⟩:=Oper.apart_spec f;have d:∀v,execOp (a.put oj.dst v).eval c=execOp a.eval c:=fun v=>execOp_put c g a oj.dst v p
 have f:∀v,execOp (a.put c.dst v).eval oj=execOp a.eval oj:=fun v=>execOp_put oj k a c.dst v e
 have y:∀v,Xs c (yielded ops (a.put oj.dst v).tmps)=Xs c (yielded ops a.tmps):=fun v=>wanted_put c a oj.dst v p
 have z:∀v,Xs oj (yielded ops (a.put c.dst v).tmps)=Xs oj (yielded ops a.tmps):=fun v=>wanted_put oj a c.dst v e
 have g:∀v w K,zI P c (a.put oj.dst v) w K=zI P c a w K:=fun v w K=>by unfold zI;rw[d]
 have k:∀v w K,zI P oj (a.put c.dst v) w K=zI P oj a w K:=fun v w K=>by unfold zI;rw[f]
 have p:∀v u,(a.put c.dst v).put oj.dst u=(a.put oj.dst u).put c.dst v:=fun v u=>Act.put_comm a v u r
 unfold qY at h⊢;simp only[hi,t,d,f,y,z,g,k,p]at h⊢
 cases d:Xs c (yielded ops a.tmps)<;>cases c:Xs oj (yielded ops a.tmps)<;>
  simp only[d,c,if_true,if_false,Oe]at h⊢
 ·exact h
 ·cases c:S j with
  |none=>simp only[c]at h⊢;exact h
  |some s=>simp only[c]at h⊢;exact h
 ·cases d:S i with
  |none=>simp only[d]at h⊢;exact h
  |some s=>simp only[d]at h⊢;exact h
 cases d:S i with
 |none=>
  simp only[d]at h;obtain⟨r,k,h⟩:=h
  cases c:S j with
  |none=>
   simp only[c]at h⊢;obtain⟨p,g,h⟩:=h;exact⟨p,g,r,k,h⟩
  |some s=>
   simp only[c]at h⊢;obtain⟨y,u,z⟩:=h;have t:R i≠Xc:=fun f=>by
    rcases x f (by rw[c];simp)with e|e
    ·rw[l]at e;cases e
    rw[m]at e;cases e
   exact⟨y,u,fun p u=>⟨r,fun w x _=>k w x (fun f=>absurd f t),z p u⟩⟩
 |some k=>
  simp only[d]at h;obtain⟨y,t,h⟩:=h;obtain⟨z,u⟩:=hS k d
  cases c:S j with
  |none=>
   simp only[c]at h⊢;have k:R j≠Xc:=fun f=>by
    rcases n (by rw[d];simp) (.inr f)with e|e
    ·rw[l]at e;cases e
    rw[m]at e;cases e
   obtain⟨p,g,_⟩:=h z u;refine⟨p,fun w x _=>g w x (fun f=>absurd f k),y,t,fun r t=>?_⟩
   obtain⟨p,p,u⟩:=h r t;have h:=g w q (fun f=>absurd f k)
   have g:=p w q (fun f=>absurd f k)
   rw[h]at g;simp only[Result.ok.injEq,Next.value.injEq,and_true]at g;subst g;exact u
  |some f=>
   exfalso
   rcases n (by rw[d];simp) (.inl (by rw[c];simp))with e|e
   ·rw[l]at e;cases e
   rw[m]at e;cases e
theorem zrN(hS:∀k s,S k=Xa s->∃v,s v)(b:∀i k,i<k->(S i≠Xb/\(S k≠Xb\/R k=Xc))\/(R i=Xc/\S k≠Xb)->anc ops 9 i k=Xc):
  Way P ops (qY I P ops S R) (fun _ _=>∃w,I w) (fun _ F _ w=>I w/\F w) where
 mono h:=qY.mono fun c d=>h c d fun _ _ h=>h
 swap hi hj hlt hap hsi hsj hij hji:=fun⟨_,c⟩=>qY.swap hi hj hap hsi hsj hij hji (hS _) (fun d e=>.inl (b _ _ hlt (.inl ⟨d,e⟩))) (fun d e=>.inl (b _ _ hlt (.inr ⟨d,e⟩))) c
 lean _ h:=⟨_,h.1⟩
 step {listed F a w j oj K N Q} hsz hoj h0 hc hok hcm hN:=by
  obtain⟨c,d⟩:=hok;simp only[qY,hoj]at hcm
  split
  ·rename_i b
   simp only[b,if_true]at hcm
   cases f:S j with
   |none=>
    simp only[f]at hcm;obtain⟨v,b,e⟩:=hcm;unfold Oper.wp;rw[b w c fun _=>d]
    exact hN F _ w ⟨c,d⟩ e
   |some s=>
    simp only[f]at hcm;obtain⟨p,b,e⟩:=hcm;exact(b w c d).wp fun v f⟨c,d,b⟩=>hN (p v) _ f ⟨c,b⟩ (e v d)
  grind
variable{Q:Act->Xn->Prop}
variable(I P ops S R Q)in
abbrev Q9:List Oper->Nat->(Xn->Prop)->Act->Prop:=zhk ops (qY I P ops S R) fun F a=>∀w,I w->F w->Q a w
theorem Zo{Q:Exit->Act->Xn->Prop}{a:Act}{w:Xn}{l r:List Oper}(T:Nat)(S:List (Nat×(Xq->Prop)))(b:List Nat)(F:Xn->Prop)(f:I w.drew)(d:F w.drew)(n:P.follows .mixedOrders=Xc)(c:QT L.toArray T=Xc)(m:L.take T=l)(p:L.drop T=r)(j:T<=L.length)
  (hS:∀x∈S,∃v,x.2 v)(g:((S.map (·.1)++b).all fun i=>(S.map (·.1)++b).all fun k=>!decide (i<k)||anc L.toArray 9 i k||(b.contains i&&b.contains k))=Xc)(e:(b.all fun i=>(S.lookup i).isNone)=Xc)
  (h:Q9 I P L.toArray (fun k=>S.lookup k) (fun k=>b.contains k) (fun a w=>wpList P L.toArray Q r a w) l 0 F a):(Code.region id L.toArray Xc).wp P Q a w:=by
 refine zlw (zrN ?_ ?_) T n c m p j (fun _=>⟨f,d⟩) (fun _ _ _ _ c h=>h _ c.1 c.2) h
 ·intro k s d;obtain⟨x,f,rfl,_⟩:=JH d;exact hS x f
 intro i k h m;have c:∀k,S.lookup k≠Xb->k∈S.map (·.1)++b/\b.contains k=Xd:=fun k d=>by
  obtain⟨s,j⟩:=Option.ne_none_iff_exists'.1 d;obtain⟨x,f,_,rfl⟩:=JH j;refine⟨Yc.2 (.inl (Xy.2 ⟨x,f,rfl⟩)),?_⟩
  cases f:b.contains x.1 with
  |false=>rfl
  |true=>
   have:=Yt.1 e x.1 (Si f)
   rw[j]at this;cases this
 have f:∀k,b.contains k=Xc->k∈S.map (·.1)++b:=fun k d=>Yc.2 (.inr (Si d))
 have e:i∈S.map (·.1)++b->k∈S.map (·.1)++b->(b.contains i&&b.contains k)=Xd->anc L.toArray 9 i k=Xc:=fun b d j=>by
  have:=Yt.1 (Yt.1 g i b) k d;rw[j]at this
  simpa[h]using this
 rcases m with⟨b,d|d⟩|⟨b,d⟩
 ·exact e (c i b).1 (c k d).1 (by rw[(c i b).2];rfl)
 ·exact e (c i b).1 (f k d) (by rw[(c i b).2];rfl)
 exact e (f i b) (c k d).1 (by rw[(c k d).2,Bool.and_false])
variable{o:Oper}{rest:List Oper}{k:Nat}{F:Xn->Prop}{a:Act}
theorem zc5(h:ops[k]?=Xa o->qY I P ops S R k F a (Q9 I P ops S R Q rest (k+1))):Q9 I P ops S R Q (o::rest) k F a:=zhk.cons (fun h=>qY.mono h) h
theorem za1(e:Xs o (yielded ops a.tmps)=Xc)(hS:S k=Xb){v:Xq}(c:∀w,I w->(R k=Xc->F w)->(execOp a.eval o).run P w=.ok (.value v) w)(d:Q9 I P ops S R Q rest (k+1) F (a.put o.dst v)):Q9 I P ops S R Q (o::rest) k F a:=zc5 fun b=>by
 simp only[qY,b,e,if_true,hS];exact⟨v,c,d⟩
theorem qU(e:znR o=Xc)(b:Xs o (yielded ops a.tmps)=Xc)(hS:S k=Xb)
  (h:∀K:Act->Prop,(∀a,Q9 I P ops S R Q rest (k+1) F a->K a)->o.quiet P a (fun w'=>∃x:zo I,w'=x.world) K):Q9 I P ops S R Q (o::rest) k F a:=by
 obtain⟨v,c,d⟩:=zaQ e (h _ fun _ h=>h)
 exact za1 b hS (fun w b _=>c w ⟨⟨w,b⟩,rfl⟩) d
theorem qa{P Q:Prop}(k:Q)(h:Go.RowKit.Hid Q->P:=by intro h;refine qU rfl rfl rfl (fun K a=>?_);go_big_quiet_op;exact a _ h.out):P:=h k
theorem Qt(b:Xs o (yielded ops a.tmps)=Xc)(hS:S k=Xb)(f:R k=Xc)(v)(c:∀w,I w->F w->(execOp a.eval o).run P w=.ok (.value v) w)(d:Q9 I P ops S R Q rest (k+1) F (a.put o.dst v)):Q9 I P ops S R Q (o::rest) k F a:=za1 b hS (fun w b e=>c w b (e f)) d
theorem za2(b:Xs o (yielded ops a.tmps)=Xd)(h:Q9 I P ops S R Q rest (k+1) F (a.put o.dst undef)):Q9 I P ops S R Q (o::rest) k F a:=zc5 fun b=>by grind[qY,Oe]
theorem Qs{s:Xq->Prop}(d:Xs o (yielded ops a.tmps)=Xc)(hS:S k=Xa s)(p:Xq->Xn->Prop)
  (h:∀w,I w->F w->zI P o a w fun v w'=>I w'/\s v/\p v w')
  (c:∀v,s v->Q9 I P ops S R Q rest (k+1) (p v) (a.put o.dst v)):Q9 I P ops S R Q (o::rest) k F a:=zc5 fun b=>by
 simp only[qY,b,d,if_true,hS];exact⟨p,h,c⟩
theorem Qu(x p)(b:o.op=.nilCheck x)(d:a.eval x=Xj (Xa p))(c:Xs o (yielded ops a.tmps)=Xc)(hS:S k=Xb)(h:Q9 I P ops S R Q rest (k+1) F (a.put o.dst (Xj (Xa p)))):Q9 I P ops S R Q (o::rest) k F a:=za1 c hS (fun _ _ _=>ziZ x p b d) h
theorem Qa(h:∀w,I w->F w->Q a w):Q9 I P ops S R Q [] k F a:=⟨fun _=>h⟩
end
section
variable{I:Xn->Prop}{P:Program}{ops:Array Oper}{S:Nat->Option (Xq->Prop)}{Q:Act->Xn->Prop}
variable(I P ops S Q)in
structure zle(l:List Oper)(k:Nat)(F:Nat->Xn->Prop)(a:Act):Prop where
 out:(∀i w w',zc w w'->F i w->F i w')->Q9 I P ops S (fun _=>Xd) Q l k (fun w=>∀i,F i w) a
theorem zfR{Q:Exit->Act->Xn->Prop}{a:Act}{w:Xn}{l r:List Oper}(T:Nat)(S:List (Nat×(Xq->Prop)))(d:I w.drew)(g:P.follows .mixedOrders=Xc)(c:QT L.toArray T=Xc)(f:L.take T=l)(j:L.drop T=r)(e:T<=L.length)
  (hS:∀x∈S,∃v,x.2 v)(b:((S.map (·.1)).all fun i=>(S.map (·.1)).all fun k=>!decide (i<k)||anc L.toArray 9 i k)=Xc)
  (h:zle I P L.toArray (fun k=>S.lookup k) (fun a w=>wpList P L.toArray Q r a w) l 0 (fun _ _=>True) a):(Code.region id L.toArray Xc).wp P Q a w:=
 Zo T S [] _ d (fun _=>trivial) g c f j e hS (Si b) rfl (h.out fun _ _ _ _ h=>h)
variable{o:Oper}{rest:List Oper}{k:Nat}{F:Nat->Xn->Prop}{a:Act}
theorem zkm(f:znR o=Xc)(b:Xs o (yielded ops a.tmps)=Xc)(hS:S k=Xb)
  (h:∀K:Act->Prop,(∀a,zle I P ops S Q rest (k+1) F a->K a)->o.quiet P a (fun w'=>∃x:zo I,w'=x.world) K):zle I P ops S Q (o::rest) k F a:=⟨fun e=>by
 obtain⟨v,c,d⟩:=zaQ f (h _ fun _ h=>h)
 exact za1 b hS (fun w b _=>c w ⟨⟨w,b⟩,rfl⟩) (d.out e)⟩
theorem jV{P Q:Prop}(k:Q)(h:Go.RowKit.Hid Q->P:=by intro h;refine zkm rfl rfl rfl (fun K a=>?_);go_big_quiet_op;exact a _ h.out):P:=h k
theorem ZX{s:Xq->Prop}(b:Xs o (yielded ops a.tmps)=Xc)(hS:S k=Xa s)(p:Xq->Xn->Prop)(hp:∀v w w',zc w w'->p v w->p v w')
  (h:∀w,I w->(∀m,anc ops 9 m k=Xc->F m w)->zI P o a w fun v w'=>I w'/\zc w w'/\s v/\p v w')
  (e:∀v,s v->zle I P ops S Q rest (k+1) (zdc F k (p v)) (a.put o.dst v)):zle I P ops S Q (o::rest) k F a:=⟨fun c=>Qs b hS (fun v w=>∀i,zdc F k (p v) i w) (fun w d b=>(h w d fun m _=>b m).mono fun v w'⟨d,f,g,h⟩=>⟨d,g,fun i=>by
 unfold zdc
 split
 ·exact h
 ·exact c i w w' f (b i)⟩) fun v b=>(e v b).out fun i w w' b=>by
 unfold zdc
 split
 ·exact hp v w w' b
 exact c i w w' b⟩
theorem zon(h:∀w,I w->(∀i,F i w)->Q a w):zle I P ops S Q [] k F a:=⟨fun _=>Qa h⟩
end
structure zdE(base:Nat)(w:Xn)(V:MaV)(m:Ma):Prop where
 fs:zb z9 base w (O V.f.a V.f.n V.f.c) m.fs
 sl:zb slE base w (O V.s.a V.s.n V.s.c) m.sl
 sb:zs base w (O V.sb.a V.sb.n V.sb.c) m.sb
 sq:zu base w (O V.sq.a V.sq.n V.sq.c) m.sq
 db:zs base w (O V.db.a V.db.n V.db.c) m.db
 dq:zu base w (O V.dq.a V.dq.n V.dq.c) m.dq
 fl:∃lo,zV lo w (O V.fl.a V.fl.n V.fl.c) m.fl/\base<=lo/\∀g,(O V.s.a V.s.n V.s.c).ownBlock=Xa g->g<lo
 ca:zb jR base w (O V.ca.a V.ca.n V.ca.c) m.ca
 sp:Q3 base w (O V.sp.a V.sp.n V.sp.c) m.sp
 ap:∀g,(O V.sb.a V.sb.n V.sb.c).ownBlock=Xa g->(O V.db.a V.db.n V.db.c).ownBlock≠Xa g
theorem z8.bO{w:Xn}{v:Xq}{fs:List Fl}(h:z8 B0 B1 w v fs):qe w v fs:=by
 obtain⟨a,e,b,d,c⟩:=h;exact⟨a,e,b.now.s0,d,fun i x f b a=>⟨(c i x f b a).1,(c i x f b a).2.now.s0⟩⟩
theorem zdE.aA{base:Nat}{w:Xn}(h:zdE base w V m)(k:zc w w'):zdE base w' V m:=by
 obtain⟨d,c,a,b⟩:=h.fl;exact⟨h.fs.aA k,h.sl.aA k,h.sb.aA k,h.sq.aA k,h.db.aA k,h.dq.aA k,⟨d,c.aA k,a,b⟩,h.ca.aA k,h.sp.aA k,h.ap⟩
theorem zi7{base:Nat}{w:Xn}{v:Xq}{l:List (List Int)}(h:zs base w v l):∀g,v.ownBlock=Xa g->base<=g/\g<w.heap.size:=h.1.lt
theorem ZW{w:Xn}{base a n:Nat}{e:TypeId}{v:Xq}(h:w.ownsRow base e a v n xs)(i:w.grownBy w' (Xa g))(b:g<base):w'.ownsRow base e a v n xs:=by
 refine⟨h.1,?_⟩
 rcases h.2 with a|⟨c,a,b,rfl,f,d,h⟩
 ·grind
 exact .inr ⟨c,a,b,rfl,f,by rw[i.block c (aS.1 d).1 (fun e=>by cases e;omega)];exact d,h⟩
theorem zb.low{α:Type}{E:Elt α}{base:Nat}{w:Xn}{v:Xq}{l:List α}(h:zb E base w v l)(b:w.grownBy w' (Xa g))(a:g<base):zb E base w' v l:=⟨ZW h.1 b a,h.2⟩
theorem Q1.low{b:Nat}{w:Xn}{x:SpV}{s:Sp}(h:Q1 b hi w x s)(c:w.grownBy w' (Xa g))(a:g<b):Q1 b hi w' x s:=
 ⟨h.aH,h.ar.low c a,⟨h.tb.len,h.tb.aO,fun i v y b d=>(h.tb.row i v y b d).low c a,h.tb.two⟩,h.arh,h.tbh⟩
theorem zdE.below{base:Nat}{w:Xn}(h:zdE base w V m)(b:w.grownBy w' (Xa g))(a:g<base)(c:base'<=base):zdE base' w' V m:=by
 obtain⟨i,⟨j,d,f,e,l⟩,k,n⟩:=h.fl;obtain⟨s,B,p,q,k,k,r⟩:=h.sp;refine⟨(h.fs.low b a).base c,(h.sl.low b a).base c,⟨ju (ZW h.sb.1 b a) c,h.sb.2⟩,⟨ju (ZW h.sq.1 b a) c,h.sq.2⟩,⟨ju (ZW h.db.1 b a) c,h.db.2⟩,⟨ju (ZW h.dq.1 b a) c,h.dq.2⟩,⟨i,⟨j,d.low b Wm,f,fun i x f d j=>⟨(e i x f d j).1,(e i x f d j).2.low b Wm⟩,l⟩,Wm,n⟩,(h.ca.low b a).base c,⟨s,B,(p.low b a).base c,q,Wm,k,fun i x s d a=>(r i x s d a).low b ?_⟩,h.ap⟩
 have:=zc0 k (nZ i);omega
theorem zeY(V m)(w:Xn)(b:zq w V m):
  Xp prog 23 #[Xi (mL V m).toArray] w fun e w'=>∃V':MaV,e=Xl (Xi (mL V' m).toArray)/\zdE w.heap.size w' V' m/\zc w w':=by
 obtain⟨c,C,-⟩:=b.ns;have a:=dD b;have i:Xo (∀W,zc w W->Xp prog 51 #[Xi #[V.f.x,I6 m.aB]] W fun e w'=>∃f,e=Xl (Xi #[f,I6 m.aB])/\zb z9 W.heap.size w' f m.fs/\zc W w'):=show∀W,_ from fun W a=>by
  have k:=(b.aA a).fs;(try simp only[Sli.x]at k⊢);rw[c]at k⊢;exact Qq _ _ m.fs m.aB W k
 have y:=dD<|fun W(a:zc w W)=>zbR _ m.sl W (b.aA a).sl
 have D:=dD<|fun W(a:zc w W)=>zcV _ m.sb m.sq W ⟨_,_,rfl,(b.aA a).sb,(b.aA a).sq⟩
 have T:=dD<|fun W(a:zc w W)=>zcV _ m.db m.dq W ⟨_,_,rfl,(b.aA a).db,(b.aA a).dq⟩
 have X:=dD<|fun W(a:zc w W)=>Jk _ m.fl m.cnt W (b.aA a).fl
 have Y:=dD<|fun W(a:zc w W)=>ziy _ m.ca W (b.aA a).ca
 have Z:=dD<|fun W(a:zc w W)=>zeX _ m.sp W (b.aA a).sp
 clear b c C;obtain⟨g,a⟩:=kB ((w.alloc (Xk (mL V m).toArray 45)).alloc (Xk zM.toArray 45));have h:=gD2 a
 have b:=x2a a
 have ad:=x2b a
 have d:Xo (g.heap.size=(w.heap.size+1+1)):=dD<|by rw[<-a];simp
 have c:=dD a;clear a
 go_enter func23,ntmps23
 go_upto_region 1 with fail;rw[c.out];obtain⟨a,j⟩:∃a:Xn->Prop,a=fun u=>zc g u:=⟨_,rfl⟩
 have c:Xo (∀u,a u↔zc g u):=dD<|fun u=>by rw[j]
 clear j;have B:=(c _).2 (gW _)
 have a1:=b.h c 0 rfl
 have a4:=b.h c 1 rfl
 have a5:=b.h c 2 rfl
 have a6:=b.h c 3 rfl
 have a7:=b.h c 4 rfl
 have a8:=b.h c 5 rfl
 have a9:=b.h c 6 rfl
 have aa:=b.h c 7 rfl
 have ab:=b.h c 8 rfl
 have ac:=b.h c 9 rfl
 have P:=b.h c 10 rfl
 have a0:Nonempty (zo a):=⟨⟨_,B⟩⟩;have r:Xo (∀u,a u->(w.heap.size+1+1)<=u.heap.size):=dD<|fun u n=>by rw[<-d.out];exact bS ((c _).1 n)
 refine zfR (I:=a) 22 [(2,fun v=>∃s:Sli,v=Xi #[s.x,I6 m.aB]),(5,fun v=>∃s:Sli,v=s.x),(8,fun v=>∃f q:Sli,v=Xi #[f.x,q.x]),(11,fun v=>∃f q:Sli,v=Xi #[f.x,q.x]),(14,fun v=>∃s:Sli,v=Xi #[s.x,I6 m.cnt]),(17,fun v=>∃s:Sli,v=s.x),(20,fun v=>∃s:Sli,v=s.x)] B zU Kr rfl rfl Dc ?hS Kr ?_
 case hS=>
  intro x a;simp only[mC,nM,or_false]at a
  rcases a with rfl|rfl|rfl|rfl|rfl|rfl|rfl
  ·exact⟨_,Zy,rfl⟩
  ·exact⟨_,Zy,rfl⟩
  ·exact⟨_,Zy,Zy,rfl⟩
  ·exact⟨_,Zy,Zy,rfl⟩
  ·exact⟨_,Zy,rfl⟩
  ·exact⟨_,Zy,rfl⟩
  exact⟨_,Zy,rfl⟩
 simp only[Yr,Ys];iterate 2 refine jV ?_
 refine ZX rfl rfl (fun v w'=>∃s:Sli,v=Xi #[s.x,I6 m.aB]/\zb z9 (w.heap.size+1+1) w' (s.x) m.fs) (fun v u H n k=>by obtain⟨s,x,z⟩:=k;exact⟨s,x,z.aA n⟩) (fun w' a l=>?_) (fun K p=>?_)
 ·have g:=h.trans ((c _).1 a);have d:=r.out w' a;refine zI.call [Xi #[V.f.x,I6 m.aB]] rfl func51 rfl rfl rfl ?_;refine(i w' g).mono ?_;rintro e t⟨f,rfl,A,b⟩;obtain⟨i,j,rfl⟩:=A.form;exact⟨_,rfl,(c _).2 (((c _).1 a).trans b),b,⟨⟨i,_,j⟩,rfl⟩,⟨i,_,j⟩,rfl,A.base d⟩
 obtain⟨U,rfl⟩:=p;refine Uq ?_;iterate 2 refine jV ?_
 refine ZX rfl rfl (fun v w'=>zb slE (w.heap.size+1+1) w' v m.sl) (fun v u H n k=>zb.aA k n) (fun w' a l=>?_) (fun K p=>?_)
 ·have g:=h.trans ((c _).1 a);have d:=r.out w' a;refine zI.call [V.s.x] rfl func52 rfl rfl rfl ?_;refine(y w' g).mono ?_;rintro e t⟨f,rfl,A,b⟩;obtain⟨i,j,rfl⟩:=A.form;exact⟨_,rfl,(c _).2 (((c _).1 a).trans b),b,⟨⟨i,_,j⟩,rfl⟩,A.base d⟩
 obtain⟨G,rfl⟩:=p;refine Uq ?_;iterate 2 refine jV ?_
 refine ZX rfl rfl (fun v w'=>∃f q:Sli,v=Xi #[f.x,q.x]/\zs (w.heap.size+1+1) w' (f.x) m.sb/\zu (w.heap.size+1+1) w' (q.x) m.sq) (fun v u H n k=>by obtain⟨f,q,x,z,N⟩:=k;exact⟨f,q,x,z.aA n,N.aA n⟩) (fun w' a l=>?_) (fun K p=>?_)
 ·have g:=h.trans ((c _).1 a);have d:=r.out w' a;refine zI.call [Xi #[V.sb.x,V.sq.x]] rfl func53 rfl rfl rfl ?_;refine(D w' g).mono ?_;rintro e t⟨D,rfl,⟨f,q,rfl,E,R⟩,b⟩;obtain⟨i,C,j,rfl⟩:=E.slice;obtain⟨L,Q,M,rfl⟩:=R.slice;exact⟨_,rfl,(c _).2 (((c _).1 a).trans b),b,⟨⟨i,C,j⟩,⟨L,Q,M⟩,rfl⟩,⟨i,C,j⟩,⟨L,Q,M⟩,rfl,E.base d,R.base d⟩
 obtain⟨F,S,rfl⟩:=p;refine Uq ?_;iterate 2 refine jV ?_
 refine ZX rfl rfl (fun v w'=>∃f q:Sli,v=Xi #[f.x,q.x]/\zs (w.heap.size+1+1) w' (f.x) m.db/\zu (w.heap.size+1+1) w' (q.x) m.dq/\∀y,(F.x).ownBlock=Xa y->(f.x).ownBlock≠Xa y) (fun v u H n k=>by obtain⟨f,q,x,z,N,W⟩:=k;exact⟨f,q,x,z.aA n,N.aA n,W⟩) (fun w' a l=>?_) (fun K p=>?_)
 ·have g:=h.trans ((c _).1 a);have d:=r.out w' a;refine zI.call [Xi #[V.db.x,V.dq.x]] rfl func53 rfl rfl rfl ?_;refine(T w' g).mono ?_;rintro e t⟨D,rfl,⟨f,q,rfl,E,R⟩,b⟩;obtain⟨i,C,j,rfl⟩:=E.slice;obtain⟨L,Q,M,rfl⟩:=R.slice;obtain⟨ae,af,D,T,_⟩:∃f q:Sli,(Value.agg #[F.x,S.x])=Xi #[f.x,q.x]/\zs (w.heap.size+1+1) w' (f.x) m.sb/\zu (w.heap.size+1+1) w' (q.x) m.sq:=l 8 Kr
  refine⟨_,rfl,(c _).2 (((c _).1 a).trans b),b,⟨⟨i,C,j⟩,⟨L,Q,M⟩,rfl⟩,⟨i,C,j⟩,⟨L,Q,M⟩,rfl,E.base d,R.base d,fun y x z=>?_⟩
  simp only[Value.agg.injEq,Array.mk.injEq,List.cons.injEq]at D;rw[D.1]at x;have q:=(zi7 T y x).2;have q:=(zi7 E y z).1;omega
 obtain⟨C,E,rfl⟩:=p;refine Uq ?_;iterate 2 refine jV ?_
 refine ZX rfl rfl (fun v w'=>∃s:Sli,v=Xi #[s.x,I6 m.cnt]/\∃q,zV q w' (s.x) m.fl/\(w.heap.size+1+1)<=q/\∀y,(G.x).ownBlock=Xa y->y<q) (fun v u H n k=>by obtain⟨s,x,q,z,N,W⟩:=k;exact⟨s,x,q,z.aA n,N,W⟩) (fun w' a l=>?_) (fun K p=>?_)
 ·have g:=h.trans ((c _).1 a);have d:=r.out w' a;refine zI.call [Xi #[V.fl.x,I6 m.cnt]] rfl func54 rfl rfl rfl ?_;refine(X w' g).mono ?_;rintro e t⟨f,rfl,L,b,_⟩;have s:=L;obtain⟨M,z,_⟩:=L;obtain⟨i,j,rfl⟩:=z.form;have L:zb slE (w.heap.size+1+1) w' (G.x) m.sl:=l 5 Kr
  exact⟨_,rfl,(c _).2 (((c _).1 a).trans b),b,⟨⟨i,_,j⟩,rfl⟩,⟨i,_,j⟩,rfl,w'.heap.size+2,s,Wm,fun y x=>Hm ((L.lt y x).2)⟩
 obtain⟨x,rfl⟩:=p;refine Uq ?_;iterate 2 refine jV ?_
 refine ZX rfl rfl (fun v w'=>zb jR (w.heap.size+1+1) w' v m.ca) (fun v u H n k=>zb.aA k n) (fun w' a l=>?_) (fun K p=>?_)
 ·have g:=h.trans ((c _).1 a);have d:=r.out w' a;refine zI.call [V.ca.x] rfl func55 rfl rfl rfl ?_;refine(Y w' g).mono ?_;rintro e t⟨f,rfl,A,b⟩;obtain⟨i,j,rfl⟩:=A.form;exact⟨_,rfl,(c _).2 (((c _).1 a).trans b),b,⟨⟨i,_,j⟩,rfl⟩,A.base d⟩
 obtain⟨s,rfl⟩:=p;refine Uq ?_;iterate 2 refine jV ?_
 refine ZX rfl rfl (fun v w'=>Q3 (w.heap.size+1+1) w' v m.sp) (fun v u H n k=>Q3.aA k n) (fun w' a l=>?_) (fun K p=>?_)
 ·have g:=h.trans ((c _).1 a);have d:=r.out w' a;refine zI.call [V.sp.x] rfl func56 rfl rfl rfl ?_;refine(Z w' g).mono ?_;rintro e t⟨f,rfl,g,b⟩;have f:=g;obtain⟨M,k,z,_⟩:=g;obtain⟨i,j,rfl⟩:=z.form;exact⟨_,rfl,(c _).2 (((c _).1 a).trans b),b,⟨⟨i,_,j⟩,rfl⟩,f.base d⟩
 obtain⟨k,rfl⟩:=p;refine Uq ?_;refine jV ?_
 refine zon fun g f l=>?_
 have b:=(c _).1 f;have a:=l 2;have L:=l 5;have c:=l 8;have d:=l 11;have n:=l 14;have r:=l 17;have t:=l 20;have u:Xo (zdE (w.heap.size+1+1) g ⟨U,G,F,S,C,E,x,s,k⟩ m):=dD<|by
  obtain⟨g,A,H⟩:=a;obtain⟨ae,af,D,T,K⟩:=c;obtain⟨a,a,a,g,j,c⟩:=d;obtain⟨d,d,q,i,z,y⟩:=n;simp only[Value.agg.injEq,Array.mk.injEq,List.cons.injEq]at A D a d;rw[<-A.1]at H;rw[<-D.1]at T;rw[<-D.2.1]at K;rw[<-a.1]at g c;rw[<-a.2.1]at j;rw[<-d.1]at i;exact⟨H,L,T,K,g,j,⟨q,i,z,y⟩,r,t,c⟩
 have a:=dD (ad.aA b);have c:=dD (h.trans b);clear l f b a1 a4 a5 a6 a7 a8 a9 aa ab ac P a0 B
 go_wp2_with(refine zx rfl 45 (.tmp 2) (.tmp 24) rfl (w.heap.size+1) rfl [U.x,I6 m.aB,G.x,F.x,S.x,C.x,E.x,x.x,I6 m.cnt,s.x,k.x] rfl a rfl Kr (fun v p=>by
    simp only[mC,nM,or_false]at p
    rcases p with rfl|rfl|rfl|rfl|rfl|rfl|rfl|rfl|rfl|rfl|rfl<;>rfl) ?_)
 intro f d a b;have b:Xo (zc w f):=dD<|zd c a Wm
 have c:Xo (zdE w.heap.size f ⟨U,G,F,S,C,E,x,s,k⟩ m):=dD<|u.below a Wm Wm
 go_wp2;refine bodyPost_ret (zB rfl _ rfl d underlying45 rfl Kr) rfl ⟨⟨U,G,F,S,C,E,x,s,k⟩,rfl,c,b⟩
def zR:List Xq:=[O Xb 0 0,Xe Xf 0,O Xb 0 0,O Xb 0 0,O Xb 0 0,O Xb 0 0,O Xb 0 0,O Xb 0 0,Xe Xf 0,O Xb 0 0,O Xb 0 0]
theorem zr6:(Tryz.prog.info? 5).map (fun i=>(i.zero,i.size,i.bytes))=Xa (Xa (U8 0),1,1):=by kernel_rfl
def byE:Elt Int where
 enc:=fun z=>[Xe Xg z]
 k:=1
 ty:=5
 st:=23
 bytes:=1
 zv:=Xe Xg 0
 zero:=0
 len:=fun _=>rfl
 one:=fun a u hu=>by
  simp only[mC,nM,or_false]at hu;rw[hu];rfl
 bT:=underlying23
 aF:=zr6
 zok:=rfl
 few:=by decide
 pos:=by decide
def zrM(m:Ma)(f:Fr):Prop:=(f.f=-1->f.d=Xd)/\(f.r≠0->f.f≠-1->Zm (pgL f.p) f.x (Z4 m f.f)=pgL f.p/\(f.d=Xd->qF m f.f f.x=pgL f.p))
def zrL(m:Ma):Prop:=∀f∈m.fs,zrM m f
def frH(q:Fr)(n:Int):Fr:=if q.r+n=0 then frF else{q with r:=q.r+n}
def jW(fs:List Fr)(h k n:Int):Int:=if j4 fs h=0 then(if inB k fs.length&&!((fs.getD k.toNat fr0).r==0)then(if-(fs.getD k.toNat fr0).r<=n/\n<=1000-(fs.getD k.toNat fr0).r then 0 else 3)else 5)else j4 fs h
def Qv(fs:List Fr)(h k n:Int):List Fr:=if jW fs h k n=0 then fs.set k.toNat (frH (fs.getD k.toNat fr0) n)else[]
def zmt(fs:List Fr)(h k n:Int):Int:=if jW fs h k n=0 then h else 0
theorem zjo:∀{fs:List Fr},zfK fs=0->∀q∈fs,frW q=0
 |[],_,_,c=>by cases c
 |a::l,h,q,c=>by
  unfold zfK at h
  by_cases b:frW a=0
  ·rw[kE b]at h
   rcases mC.1 c with rfl|c
   ·exact b
   exact zjo h q c
  rw[kF b]at h;exact absurd h b
theorem jj{fs:List Fr}{h:Int}(a:j4 fs h=0):fs.length<=40/\(∀q∈fs,frW q=0)/\0<=h/\h<max (fs.length:Int) 1:=by grind[j4,zfK,inB,zjo]
theorem zba{q:Fr}(h:frW q=0):0<=q.r/\q.r<=1000:=by grind[frW,inB]
theorem zb.frc{base:Nat}{w:Xn}{n c:Nat}{fs:List Fr}(h:zb z9 base w (O (Xa ⟨g,0,Xb⟩) n c) fs){i:Nat}{q:Fr}(e:fs[i]?=Xa q)(j:Nat){u:Xq}(k:(frv q)[j]?=Xa u):w.cell? ⟨g,i*13+j,Xb⟩=Xa u:=by
 obtain⟨l,p,d,f⟩:=h.at.rows;obtain⟨m,a,b⟩:=f i q e;cases d;cases a;have:=b w (zc.refl _) j u k;rw[jh,Yk,zA]at this;exact this
def jT(s:List Int)(n:Int):Int:=if slW s=0 then(if 1<=n/\n<=1000 then(if s.findIdx isZ<s.length then 0 else 10)else 3)else slW s
def Z8(s:List Int)(n:Int):List Int:=if jT s n=0 then s.set (s.findIdx isZ) n else[]
def zbY(s:List Int)(n:Int):Int:=if jT s n=0 then(s.findIdx isZ:Int)else 0
theorem zeO{s:List Int}{n:Int}(h:jT s n=z)(a:z≠0):Z8 s n=[]/\zbY s n=0:=by
 have:jT s n≠0:=Rx h a
 exact⟨kF this,kF this⟩
theorem zcM(s:List Int)(m:Int):
  (slW s≠0/\jT s m=slW s/\Z8 s m=[]/\zbY s m=0)\/(slW s=0/\¬(1<=m/\m<=1000)/\jT s m=3/\Z8 s m=[]/\zbY s m=0)\/
  (slW s=0/\(1<=m/\m<=1000)/\¬s.findIdx isZ<s.length/\jT s m=10/\Z8 s m=[]/\zbY s m=0)\/
  (slW s=0/\(1<=m/\m<=1000)/\s.findIdx isZ<s.length/\jT s m=0/\Z8 s m=s.set (s.findIdx isZ) m/\zbY s m=(s.findIdx isZ:Int)):=by
 by_cases a:slW s=0
 ·by_cases b:1<=m/\m<=1000
  ·by_cases c:s.findIdx isZ<s.length
   ·have h:jT s m=0:=by unfold jT;rw[kE a,kE b,kE c]
    exact .inr (.inr (.inr ⟨a,b,c,h,kE h,kE h⟩))
   have h:jT s m=10:=by unfold jT;rw[kE a,kE b,kF c]
   exact .inr (.inr (.inl ⟨a,b,c,h,zeO h Dc⟩))
  have h:jT s m=3:=by unfold jT;rw[kE a,kF b]
  exact .inr (.inl ⟨a,b,h,zeO h Dc⟩)
 have h:jT s m=slW s:=by unfold jT;rw[kF a]
 exact .inl ⟨a,h,zeO h a⟩
theorem zlG(a)(c:Nat)(s:List Int)(m:Int)(w:Xn)(f:zj slE w (O a s.length c) s):
  Xp prog 240 #[O a s.length c,I6 m] w fun e w'=>∃b d,e=Xl (Xm #[.slice b (Z8 s m).length d,I6 (zbY s m),I6 (jT s m)])/\zP slE w.heap.size w' (.slice b (Z8 s m).length d) (Z8 s m)/\zc w w':=by
 have d:=zbo a c s w f;have n:∀W,zc w W->Xp prog 247 #[O a s.length c,I6 0] W fun e w'=>e=Xl (I6 (zpe s))/\zc W w':=fun W b=>zkv _ s W (f.aA b)
 have A:∀W,zc w W->Xp prog 52 #[O a s.length c] W fun e w'=>∃y,e=Xl y/\zb slE W.heap.size w' y s/\zc W w':=fun W b=>zbR _ s W (f.aA b)
 have b:=f.short;obtain⟨B,i⟩:=kA s.length
 rcases zcM s m with⟨h,j,k,l⟩|⟨h,f,j,k,l⟩|⟨h,f,p,j,k,l⟩|⟨h,f,p,j,k,l⟩
 ·rw[j,k,l]
  generalize slW s=z at d h⊢
  have f:(z !=0)=Xc:=Si h
  rw[i.out]at d b⊢
  go_enter func240,ntmps240
  go_wp2_with fail;refine d.mono ?_;rintro e u⟨rfl,g⟩;have f:=dD g;go_wp2;refine bodyPost_ret (v:=Xm #[eS,I6 0,I6 z]) (by simp[results,Tryz.results240,go_sem, *]) rfl ⟨Xb,0,rfl,zP.nil _ _ _,f⟩
 ·rw[h]at d;rw[j,k,l];rw[i.out]at d b⊢
  by_cases r:m<1
  ·go_enter func240,ntmps240
   go_wp2_with fail;refine d.mono ?_;rintro e u⟨rfl,g⟩;have f:=dD g;go_wp2;refine bodyPost_ret (v:=Xm #[eS,I6 0,I6 3]) (by simp[results,Tryz.results240,go_sem, *]) rfl ⟨Xb,0,rfl,zP.nil _ _ _,f⟩
  have t:1000<m:=Wm
  go_enter func240,ntmps240
  go_wp2_with fail;refine d.mono ?_;rintro e u⟨rfl,g⟩;have f:=dD g;go_wp2;refine bodyPost_ret (v:=Xm #[eS,I6 0,I6 3]) (by simp[results,Tryz.results240,go_sem, *]) rfl ⟨Xb,0,rfl,zP.nil _ _ _,f⟩
 ·rw[h]at d;rw[show zpe s=-1 from kF p]at n
  rw[j,k,l];rw[i.out]at d n b⊢;have r:¬m<1:=Wm
  have t:¬1000<m:=Wm
  go_enter func240,ntmps240
  go_wp2_with fail;refine d.mono ?_;rintro e u⟨rfl,g⟩;have f:=dD g;go_wp2_with fail;refine(n _ f).mono ?_;rintro e z⟨rfl,x⟩;have q:=dD (f.trans x);go_wp2;refine bodyPost_ret (v:=Xm #[eS,I6 0,I6 10]) (by simp[results,Tryz.results240,go_sem, *]) rfl ⟨Xb,0,rfl,zP.nil _ _ _,q⟩
 rw[h]at d;rw[show zpe s=(s.findIdx isZ:Int)from kE p]at n
 rw[j,k,l,Xw];obtain⟨h,j⟩:=kA (s.findIdx isZ);rw[j.out]at p n⊢;rw[i.out]at d n A p b⊢;have r:¬m<1:=Wm
 have t:¬1000<m:=Wm
 have b:(h:Int)<(B:Int):=Wm
 go_enter func240,ntmps240
 go_wp2_with fail;refine d.mono ?_;rintro e u⟨rfl,g⟩;have f:=dD g;go_wp2_with fail;refine(n _ f).mono ?_;rintro e z⟨rfl,x⟩;have q:=dD (f.trans x);go_wp2_with fail;refine(A _ q).mono ?_;rintro e b⟨y,rfl,b,d⟩;obtain⟨g,l,rfl⟩:=b.aJ (by rw[i.out];omega)
 rw[i.out]at b⊢;have j:=dD b;have k:=dD d
 go_wp2_with(refine z7 (E:=slE) rfl (.tmp 30) (.tmp 29) rfl z.heap.size _ s j g h rfl m (Rx i.out p) _ rfl (by simp[slE]) _ rfl rfl ?_)
 intro b i d _;have f:=(j.lt g rfl).1;have b:=dD i;have i:=dD<|zd k d f;go_wp2;refine bodyPost_ret (v:=Xm #[O (Xa ⟨g,0,Xb⟩) B l,I6 (h:Int),I6 0]) (by simp[results,Tryz.results240,go_sem, *]) rfl ⟨_,_,rfl,b.new.base (bS q),q.trans i⟩
def atS(s:List Int)(k:Int):Int:=if 0<=k then s.getD k.toNat 0 else 0
def jZ(s:List Int)(k m:Int):Int:=if slW s=0 then(if atS s k=0 then 5 else if 0<=atS s k+m/\atS s k+m<=1000 then 0 else 3)else slW s
def ZK(s:List Int)(k m:Int):List Int:=if jZ s k m=0 then s.set k.toNat (atS s k+m)else[]
theorem zlO{s:List Int}(h:slW s=0){k:Nat}{q:Int}(b:s[k]?=Xa q):0<=q/\q<=1000:=by
 have a:s.any zdC=Xd:=by grind[zdC,slW]
 have c:=List.any_eq_false.1 a q (mG b)
 grind[zdC]
theorem zig(s:List Int)(k m:Int):
  (slW s≠0/\jZ s k m=slW s/\ZK s k m=[])\/
  (slW s=0/\(k<0\/(s.length:Int)<=k)/\jZ s k m=5/\ZK s k m=[])\/
  (slW s=0/\∃i:Nat,k=(i:Int)/\s[i]?=Xa 0/\jZ s k m=5/\ZK s k m=[])\/
  (slW s=0/\∃(i:Nat)(q:Int),k=(i:Int)/\s[i]?=Xa q/\q≠0/\0<=q/\q<=1000/\¬(0<=q+m/\q+m<=1000)/\jZ s k m=3/\ZK s k m=[])\/
  (slW s=0/\∃(i:Nat)(q:Int),k=(i:Int)/\s[i]?=Xa q/\q≠0/\0<=q/\q<=1000/\(0<=q+m/\q+m<=1000)/\jZ s k m=0/\ZK s k m=s.set i (q+m)):=by
 have g:∀z,jZ s k m=z->z≠0->ZK s k m=[]:=fun z h f=>kF (Rx h f)
 by_cases b:slW s=0
 ·by_cases e:k<0\/(s.length:Int)<=k
  ·have a:atS s k=0:=by
    unfold atS
    split
    ·grind
    rfl
   have h:jZ s k m=5:=by unfold jZ;rw[kE b,kE a]
   exact .inr (.inl ⟨b,e,h,g _ h Dc⟩)
  obtain⟨i,rfl⟩:∃i:Nat,k=(i:Int):=⟨k.toNat,Wm⟩
  have c:i<s.length:=Wm
  obtain⟨q,d⟩:∃q,s[i]?=Xa q:=⟨_,gE c⟩;have a:atS s (i:Int)=q:=by
   unfold atS;rw[kE Wm,gD,tN,d]
   rfl
  by_cases j:q=0
  ·grind[jZ]
  have n:=zlO b d
  by_cases l:0<=q+m/\q+m<=1000
  ·grind[jZ,ZK,tN]
  grind[jZ]
 grind[jZ,slW]
theorem zms(a)(c:Nat)(s:List Int)(k m:Int)(w:Xn)(H:zj slE w (O a s.length c) s):
  Xp prog 174 #[O a s.length c,I6 k,I6 m] w fun e w'=>∃R S,e=Xl (Xm #[.slice R (ZK s k m).length S,I6 (jZ s k m)])/\zP slE w.heap.size w' (.slice R (ZK s k m).length S) (ZK s k m)/\zc w w':=by
 have d:=zbo a c s w H;have A:∀W,zc w W->Xp prog 52 #[O a s.length c] W fun e w'=>∃a3,e=Xl a3/\zb slE W.heap.size w' a3 s/\zc W w':=fun W ag=>zbR _ s W (H.aA ag)
 have f:=H.short;obtain⟨R,S,U,z⟩:=H.sls;cases U;have P:=dD z;clear z H;obtain⟨u,p⟩:=kA s.length
 rcases zig s k m with⟨h,j,l⟩|⟨h,Y,j,l⟩|⟨h,i,rfl,n,j,l⟩|⟨h,i,q,rfl,n,C,a1,a2,G,j,l⟩|⟨h,i,q,rfl,n,C,a1,a2,a8,j,l⟩
 ·rw[j,l];clear j l A
  generalize slW s=a9 at d h⊢
  have aj:(a9 !=0)=Xc:=Si h
  rw[p.out]at d f⊢
  go_enter func174,ntmps174
  go_wp2_with fail;refine d.mono ?_;rintro e r⟨rfl,b⟩;have g:=dD b;clear b d h;go_wp2;refine bodyPost_ret (v:=Xm #[eS,I6 a9]) (by simp[results,Tryz.results174,go_sem, *]) rfl ⟨Xb,0,rfl,zP.nil _ _ _,g⟩
 ·rw[h]at d;rw[j,l];clear j l A h;rw[p.out]at d f Y⊢
  by_cases ah:k<0
  ·go_enter func174,ntmps174
   go_wp2_with fail;refine d.mono ?_;rintro e r⟨rfl,b⟩;have g:=dD b;clear b d Y;go_wp2;refine bodyPost_ret (v:=Xm #[eS,I6 5]) (by simp[results,Tryz.results174,go_sem, *]) rfl ⟨Xb,0,rfl,zP.nil _ _ _,g⟩
  have ai:(u:Int)<=k:=Wm
  go_enter func174,ntmps174
  go_wp2_with fail;refine d.mono ?_;rintro e r⟨rfl,b⟩;have g:=dD b;clear b d Y;go_wp2;refine bodyPost_ret (v:=Xm #[eS,I6 5]) (by simp[results,Tryz.results174,go_sem, *]) rfl ⟨Xb,0,rfl,zP.nil _ _ _,g⟩
 ·rw[h]at d;rw[j,l];clear j l A h;have B:i<u:=by rw[<-p.out];exact(gS.1 n).1
  rw[p.out]at d f⊢;have y:¬(u:Int)<=(i:Int):=Wm
  have F:¬(i:Int)<0:=Wm
  have t:(i:Int)<(u:Int):=Wm
  obtain⟨a6,rfl,x⟩:=P.out i 0 n;clear n
  go_enter func174,ntmps174
  go_wp2_with fail;refine d.mono ?_;rintro e r⟨rfl,b⟩;have g:=dD b;have M:=x r b;clear b d x;go_wp2;refine bodyPost_ret (v:=Xm #[eS,I6 5]) (by simp[results,Tryz.results174,go_sem, *]) rfl ⟨Xb,0,rfl,zP.nil _ _ _,g⟩
 ·rw[h]at d;rw[j,l];clear j l A h;have B:i<u:=by rw[<-p.out];exact(gS.1 n).1
  rw[p.out]at d f⊢;have y:¬(u:Int)<=(i:Int):=Wm
  have F:¬(i:Int)<0:=Wm
  have t:(i:Int)<(u:Int):=Wm
  obtain⟨a6,rfl,x⟩:=P.out i q n;have I:(q==0)=Xd:=Si C
  by_cases Z:m< -q
  ·clear n C G
   go_enter func174,ntmps174
   go_wp2_with fail;refine d.mono ?_;rintro e r⟨rfl,b⟩;have g:=dD b;have M:=x r b;clear b d x;go_wp2;refine bodyPost_ret (v:=Xm #[eS,I6 3]) (by simp[results,Tryz.results174,go_sem, *]) rfl ⟨Xb,0,rfl,zP.nil _ _ _,g⟩
  have X:1000-q<m:=Wm
  clear n C G
  go_enter func174,ntmps174
  go_wp2_with fail;refine d.mono ?_;rintro e r⟨rfl,b⟩;have g:=dD b;have M:=x r b;clear b d x;go_wp2;refine bodyPost_ret (v:=Xm #[eS,I6 3]) (by simp[results,Tryz.results174,go_sem, *]) rfl ⟨Xb,0,rfl,zP.nil _ _ _,g⟩
 rw[h]at d;rw[j,l,Xw];clear j l h;have B:i<u:=by rw[<-p.out];exact(gS.1 n).1
 rw[p.out]at d A f⊢;have y:¬(u:Int)<=(i:Int):=Wm
 have F:¬(i:Int)<0:=Wm
 have t:(i:Int)<(u:Int):=Wm
 obtain⟨a6,rfl,x⟩:=P.out i q n;have I:(q==0)=Xd:=Si C
 have Z:¬m< -q:=Wm
 have X:¬1000-q<m:=Wm
 have ac:=dD n;clear n C
 go_enter func174,ntmps174
 go_wp2_with fail;refine d.mono ?_;rintro e r⟨rfl,b⟩;have g:=dD b;have M:=x r b;clear b d x;go_wp2_with fail;refine(A _ g).mono ?_;rintro e a5⟨a3,rfl,K,a7⟩;obtain⟨N,ae,rfl⟩:=K.aJ (by rw[p.out];omega)
 rw[p.out]at K⊢;have a4:=dD K;have aa:=dD a7;have af:a5.cell? ⟨N,i,Xb⟩=Xa (I6 q):=by
  obtain⟨al,an,T,a0⟩:=K.at.sls;cases T;obtain⟨am,T,a0⟩:=a0 i q ac.out;cases T;have:=a0 a5 (zc.refl _);rw[Yk,zA]at this;exact this
 clear a7 A K M
 go_wp2_with(refine z7 (E:=slE) rfl (.tmp 54) (.tmp 53) rfl r.heap.size _ s a4 N i rfl (q+m) (Rx p.out B) _ rfl (by simp[slE]) _ rfl rfl ?_)
 intro ak L D _;have V:=(a4.lt N rfl).1;have Q:=dD L;have ab:=dD<|zd aa D V;clear L D af;go_wp2;refine bodyPost_ret (v:=Xm #[O (Xa ⟨N,0,Xb⟩) u ae,I6 0]) (by simp[results,Tryz.results174,go_sem, *]) rfl ⟨_,_,rfl,Q.new.base (bS g),g.trans ab⟩
theorem zeK(y)(j:Nat)(h:List En)(k:Nat)(S:k<8)(x:En)(base:Nat)(w:Xn)(a:zb enE base w (O y h.length j) h)(c:base<=w.heap.size)(v:h.length=0\/h.length=8):
  Xp prog 203 #[O y h.length j,I6 (k:Int),Xi #[I6 x.kind,I6 x.n,Xh x.wr]] w fun e w'=>∃b B,e=Xl (.slice b (mk ((za9 h).set k x)).length B)/\zb enE base w' (.slice b (mk ((za9 h).set k x)).length B) (mk ((za9 h).set k x))/\w.grownBy w' (O y h.length j).ownBlock/\(∀g,(Value.slice b (mk ((za9 h).set k x)).length B).ownBlock=Xa g->(O y h.length j).ownBlock=Xa g\/w.heap.size<=g):=by
 have d:=dD a;have t:=dD c;have b:Xo (mk ((za9 h).set k x)=if zfF ((za9 h).set k x)=Xc then(za9 h).set k x else[]):=rfl;clear a c;obtain⟨f,a⟩:=kB (w.alloc (Xk #[I6 x.kind,I6 x.n,Xh x.wr] 127));have p:=gA a
 have R:=xA a
 have m:=sA a
 have A:=dD a;clear a;have a:(k:Int)<8:=Wm
 rcases v with c|v
 ·have a:=List.length_eq_zero_iff.1 c;subst a;obtain⟨L,l⟩:=kA ((za9 []).set k x);have q:Xo (L.length=8):=dD<|by rw[<-l.out];simp[za9]
  rw[l.out]at b⊢
  generalize mk L=M at b⊢
  simp only[Ye]at d⊢;clear c
  go_enter func203,ntmps203
  go_upto_region 1 with fail;rw[A.out]
  go_wp2_with(refine qr enE rfl (.const (I6 8)) rfl 8 rfl Dc ?_)
  intro C s
  show wpList _ _ _ _ _ (f.alloc (Xk C 127))
  have a:zb enE f.heap.size (f.alloc (Xk C 127)) (O (Xa ⟨f.heap.size,0,Xb⟩) 8 8) (za9 []):=s;obtain⟨c,c⟩:=kB (f.alloc (Xk C 127));have r:=gA c
  rw[c]at a⊢;obtain⟨g,i⟩:=kA f.heap.size;rw[i.out]at a⊢;have D:=dD a;have f:=dD (R.aA r);have n:Xo (base<=g/\w.heap.size<=g):=show _/\_ by
   have:=m.out;have:=t.out;have:=i.out
   constructor<;>omega
  clear c s a;obtain⟨N,P,Q⟩:=f.c3
  go_wp2_with(refine z7 (E:=enE) rfl (.tmp 14) (.tmp 13) rfl g _ (za9 []) D g k rfl x ?t1 ⟨g,k*3,Xb⟩ rfl rfl (Xi #[I6 x.kind,I6 x.n,Xh x.wr]) rfl rfl ?_)
  case t1=>exact S
  intro H c i u;rw[l.out]at c;have F:=dD<|c.base n.1;have z:=dD<|zd (p.trans r) i n.2
  have a:=ZG _ L H c.at;clear c i u N P Q
  generalize zfF L=C at a b
  cases C with
  |true=>
   have r:Xo (M=L):=dD<|by rw[b.out,kE rfl]
   go_wp2_with fail;refine a.mono ?_;rintro e s⟨rfl,f⟩;have m:Xo (w.grownBy s _):=show World.grownBy _ _ (Value.ownBlock (O y 0 j))from zdb (z.trans f) _
   have G:=dD (F.aA f);clear f a;go_wp2;go_ret;rw[r.out,q.out];exact⟨Xa ⟨g,0,Xb⟩,8,rfl,G,m,fun K t=>.inr (by cases t;exact n.2)⟩
  |false=>
   have r:Xo (M=[]):=dD<|by rw[b.out,kF Dc]
   go_wp2_with fail;refine a.mono ?_;rintro e s⟨rfl,f⟩;have m:Xo (w.grownBy s _):=show World.grownBy _ _ (Value.ownBlock (O y 0 j))from zdb (z.trans f) _
   clear f a;go_wp2;go_ret;rw[r.out];exact⟨Xb,0,rfl,zb.nil _ _ _,m,fun K t=>by cases t⟩
 obtain⟨L,l⟩:=kA ((za9 h).set k x);have n:Xo (za9 h=h):=dD<|by unfold za9;rw[kF Wm]
 have q:Xo (L.length=8):=dD<|by rw[<-l.out,n.out];simp[v]
 rw[l.out]at b⊢
 generalize mk L=M at b⊢
 have y:=dD v;obtain⟨g,B,B⟩:=d.aJ Wm
 cases B;rw[v]at d⊢;clear v
 go_enter func203,ntmps203
 go_upto_region 1 with fail;rw[A.out];have D:=dD (d.aA p);obtain⟨N,P,Q⟩:=R.c3
 go_wp2_with(refine z7 (E:=enE) rfl (.tmp 14) (.tmp 13) rfl base _ h D g k rfl x ?t1 ⟨g,k*3,Xb⟩ rfl rfl (Xi #[I6 x.kind,I6 x.n,Xh x.wr]) rfl rfl ?_)
 case t1=>rw[y.out];exact S
 intro H c i u;rw[n.out]at l;rw[l.out]at c;have F:=dD c;have z:=dD<|je (zdb p _) i
 have a:=ZG _ L H c.at;clear c i u N P Q
 generalize zfF L=C at a b
 cases C with
 |true=>
  have r:Xo (M=L):=dD<|by rw[b.out,kE rfl]
  go_wp2_with fail;refine a.mono ?_;rintro e s⟨rfl,f⟩;have m:Xo (w.grownBy s _):=show World.grownBy _ _ (Value.ownBlock (O (Xa ⟨g,0,Xb⟩) 8 j))from je z (zdb f _)
  have G:=dD (F.aA f);clear f a;go_wp2;go_ret;rw[r.out,q.out];exact⟨Xa ⟨g,0,Xb⟩,j,rfl,G,m,fun K t=>.inl t⟩
 |false=>
  have r:Xo (M=[]):=dD<|by rw[b.out,kF Dc]
  go_wp2_with fail;refine a.mono ?_;rintro e s⟨rfl,f⟩;have m:Xo (w.grownBy s _):=show World.grownBy _ _ (Value.ownBlock (O (Xa ⟨g,0,Xb⟩) 8 j))from je z (zdb f _)
  clear f a;go_wp2;go_ret;rw[r.out];exact⟨Xb,0,rfl,zb.nil _ _ _,m,fun K t=>by cases t⟩
theorem ze1:∀v∈ze2,v.oneCell'=Xc:=fun v a=>by
 rw[ze2,List.mem_replicate]at a;rw[a.2];rfl
theorem zlQ(t:List (List En))(n:Int)(x):
  (tbW t≠0/\zlg t n x=tbW t/\ziX t n x=Zq)\/
  (tbW t=0/\¬(0<=n/\n<64)/\zlg t n x=3/\ziX t n x=Zq)\/
  (tbW t=0/\(0<=n/\n<64)/\enW x≠0/\zlg t n x=enW x/\ziX t n x=Zq)\/
  (tbW t=0/\(0<=n/\n<64)/\enW x=0/\zlg t n x=0/\ziX t n x=zf6 t n.toNat x):=by
 by_cases a:tbW t=0
 ·by_cases a:0<=n/\n<64
  ·grind[zlg,enW,ziX]
  grind[zlg,ziX]
 grind[zlg,tbW,ziX]
theorem zlR(vs:List Xq)(t:List (List En))(n:Int)(x:En)(w:Xn)(r:J6 w vs t):
  Xp prog 175 #[Xi vs.toArray,I6 n,Xi #[I6 x.kind,I6 x.n,Xh x.wr]] w fun e w'=>∃k,e=Xl (Xm #[Xi k.toArray,I6 (zlg t n x)])/\zaD 0 w.heap.size w' k (ziX t n x)/\zc w w':=by
 have G:=dD r.len;have H:=dD r.aO;have j:∀W,zc w W->Xp prog 118 #[Xi vs.toArray] W fun e w'=>e=Xl (I6 (tbW t))/\zc W w':=fun W a=>zcy vs t W (r.aA a)
 have N:∀W,zc w W->Xp prog 105 #[Xi vs.toArray] W fun e w'=>∃k,e=Xl (Xi k.toArray)/\jk (W.heap.size+2) w' k t/\zc W w'/\W.heap.size+2<=w'.heap.size:=fun W a=>zgl vs t W (r.aA a)
 have v:=fun W=>J9 x.kind x.n x.wr W
 clear r;obtain⟨z,a⟩:=kB (((w.alloc (Xk vs.toArray 74)).alloc (Xk #[I6 x.kind,I6 x.n,Xh x.wr] 127)).alloc (Xk #[eS,eS,eS,eS,eS,eS,eS,eS] 74));have b:Xo (zc w z):=dD<|by rw[<-a];exact((za _ _).trans (za _ _)).trans (za _ _)
 have A:Xo (Box z w.heap.size vs):=dD<|by rw[<-a];exact((Box.aD w _ _ rfl).alloc _).alloc _
 have S:Xo (Box z (w.heap.size+1) [I6 x.kind,I6 x.n,Xh x.wr]):=dD<|by rw[<-a];exact(Box.aD _ _ _ Sm).alloc _
 have V:Xo (Box z (w.heap.size+2) ze2):=dD<|by rw[<-a];exact Box.aD _ ze2 _ Sm
 have y:=dD a;clear a
 rcases zlQ t n x with⟨l,d,f⟩|⟨l,g,d,f⟩|⟨l,g,R,d,f⟩|⟨l,g,R,d,f⟩
 ·rw[d,f];have q:(tbW t !=0)=Xc:=Si l
  clear d f l N v
  generalize tbW t=s at j q⊢
  go_enter func175,ntmps175
  go_upto_region 1 with fail;rw[y.out]
  go_wp2_with(refine qA rfl (.tmp 3) rfl w.heap.size rfl A G.out ?_)
  refine(j z b).mono ?_;rintro e K⟨rfl,a⟩;have C:=dD (b.trans a);have M:=dD (A.aA a);have B:=dD (S.aA a);have D:=dD (V.aA a);clear a j
  go_wp2_with(refine zx rfl 74 (.tmp 6) (.tmp 15) rfl (w.heap.size+2) rfl ze2 rfl D rfl zrY ze1 ?_)
  intro L h i P;have E:=dD h;have F:Xo (zc w L):=show zc _ _ from zd C i Sm
  clear h i P;go_wp2;refine bodyPost_ret (zW rfl _ rfl E underlying74 rfl zrY) rfl ⟨ze2,rfl,zaD.nil _ _ _,F⟩
 ·rw[d,f];rw[l]at j;have Q:=fun W=>zbk (m:=n) (n:=64) g W
  clear d f l g N v
  go_enter func175,ntmps175
  go_upto_region 1 with fail;rw[y.out]
  go_wp2_with(refine qA rfl (.tmp 3) rfl w.heap.size rfl A G.out ?_)
  refine(j z b).mono ?_;rintro e K⟨rfl,a⟩;have C:=dD (b.trans a);have M:=dD (A.aA a);have B:=dD (S.aA a);have D:=dD (V.aA a);clear a j;go_wp2_with fail;refine(Q _).mono ?_;rintro e w'⟨rfl,c⟩;rw[c];clear c w'
  go_wp2_with(refine zx rfl 74 (.tmp 6) (.tmp 20) rfl (w.heap.size+2) rfl ze2 rfl D rfl zrY ze1 ?_)
  intro L h i P;have E:=dD h;have F:Xo (zc w L):=show zc _ _ from zd C i Sm
  clear h i P;go_wp2;refine bodyPost_ret (zW rfl _ rfl E underlying74 rfl zrY) rfl ⟨ze2,rfl,zaD.nil _ _ _,F⟩
 ·rw[d,f];rw[l]at j;have Q:=fun W=>QC (m:=n) (n:=64) g.1 g.2 W
  change∀W,Xp prog 201 _ W fun e w'=>e=Xl (I6 (enW x))/\zc W w' at v
  have q:(enW x !=0)=Xc:=Si R
  clear d f l g R N
  generalize enW x=s at v q⊢
  go_enter func175,ntmps175
  go_upto_region 1 with fail;rw[y.out]
  go_wp2_with(refine qA rfl (.tmp 3) rfl w.heap.size rfl A G.out ?_)
  refine(j z b).mono ?_;rintro e K⟨rfl,a⟩;have C:=dD (b.trans a);have M:=dD (A.aA a);have B:=dD (S.aA a);have D:=dD (V.aA a);clear a j;go_wp2_with fail;refine(Q _).mono ?_;rintro e w'⟨rfl,c⟩;rw[c];clear c w';obtain⟨Z,d,f⟩:=B.c3;go_wp2_with fail;refine(v K).mono ?_;rintro e s⟨rfl,u⟩;have U:=dD (C.trans u);have a3:=dD (M.aA u);have a0:=dD (B.aA u);have X:=dD (D.aA u);clear u v Z d f
  go_wp2_with(refine zx rfl 74 (.tmp 6) (.tmp 25) rfl (w.heap.size+2) rfl ze2 rfl X rfl zrY ze1 ?_)
  intro L h i P;have E:=dD h;have F:Xo (zc w L):=show zc _ _ from zd U i Sm
  clear h i P;go_wp2;refine bodyPost_ret (zW rfl _ rfl E underlying74 rfl zrY) rfl ⟨ze2,rfl,zaD.nil _ _ _,F⟩
 rw[d,f];rw[l]at j;have Q:=fun W=>QC (m:=n) (n:=64) g.1 g.2 W
 change∀W,Xp prog 201 _ W fun e w'=>e=Xl (I6 (enW x))/\zc W w' at v
 rw[R]at v;obtain⟨i,W,Y,ag,F,h,h,h,h,L,a4⟩:=zeb g.1 g.2;obtain⟨q,E⟩:∃q,Xo (t[i]?=Xa q):=⟨_,gE (Rx H.out Y)⟩
 have ae:Xo (q.length=0\/q.length=8):=dD<|by
  rcases Z7.1 l q (mG E)with h|⟨h,_⟩
  ·exact .inl (Rr h)
  exact .inr h
 have P:Xo (zf6 t n.toNat x=t.set i (mk ((za9 q).set W x))):=dD<|by
  unfold zf6;rw[L,a4,E.out];rfl
 rw[P.out];obtain⟨T,P⟩:=kA (mk ((za9 q).set W x));rw[P.out];have a5:=g.1;have a5:(i:Int)<8:=Wm
 clear d f l g R F L a4
 go_enter func175,ntmps175
 go_upto_region 1 with fail;rw[y.out]
 go_wp2_with(refine qA rfl (.tmp 3) rfl w.heap.size rfl A G.out ?_)
 refine(j z b).mono ?_;rintro e K⟨rfl,a⟩;have C:=dD (b.trans a);have M:=dD (A.aA a);have B:=dD (S.aA a);have D:=dD (V.aA a);clear a j;go_wp2_with fail;refine(Q _).mono ?_;rintro e w'⟨rfl,c⟩;rw[c];clear c w';obtain⟨Z,d,f⟩:=B.c3;go_wp2_with fail;refine(v K).mono ?_;rintro e s⟨rfl,u⟩;have U:=dD (C.trans u);have a3:=dD (M.aA u);have a0:=dD (B.aA u);have X:=dD (D.aA u);clear u v Z d f
 go_wp2_with(refine qA rfl (.tmp 3) rfl w.heap.size rfl a3 G.out ?_)
 refine(N s U).mono ?_;rintro e g⟨k,rfl,b,d,j⟩;have a:=dD b;have f:=dD d;have D:=dD j;have c:=dD X.lt;clear b d j N;obtain⟨K,d⟩:=kA g.heap.size
 go_wp2_with(refine zx rfl 74 (.tmp 10) (.tmp 28) rfl g.heap.size rfl k rfl (Box.aD g ze2 74 rfl) a.len zrY a.new.one ?_)
 intro u j l v;rw[d.out]at j l⊢;have aa:=dD j;have b:Xo (zc g u):=show zc _ _ from zd (za g _) l (by rw[d.out];exact nR _)
 have F:=dD j.lt;clear j l v;have G:=dD (a.aA b);have A:=dD ((a0.aA f).aA b);have af:=dD ((X.aA f).aA b);have ad:=dD ((U.trans f).trans b);have N:Xo (∀(j:Nat)C,k[j]?=Xa C->∀g,C.ownBlock=Xa g->s.heap.size+2<=g/\g<K):=show∀(j:Nat)C,_ from fun j C S g b=>by
  obtain⟨y,M⟩:∃y,t[j]?=Xa y:=⟨_,gE (by rw[H.out,<-a.len];exact(gS.1 S).1)⟩
  rw[<-d.out];exact(a.row j C y S M).lt g b
 obtain⟨v,z,f,a,l,b⟩:=G.half Y;obtain rfl:q=f:=by rw[E.out]at a;cases a;rfl
 have f:=dD l;have a9:=dD b;clear a l b;go_upto_region 10 with fail;obtain⟨g,H,a,a,Q⟩:∃g,(∀a,(O v q.length z).ownBlock=Xa a->a=g)/\g≠K/\s.heap.size+2<=g/\((O v q.length z).ownBlock=Xb->u.heap.size<=g):=by
  cases U:(O v q.length z).ownBlock with
  |none=>exact⟨u.heap.size,fun a h=>(by cases h),Hm F.out,by have:=F.out;have:=d.out;have:=D.out;omega,fun _=>nR _⟩
  |some g=>
   have:=N.out i _ f g U;exact⟨g,fun a h=>by cases h;rfl,Wm,Wm,fun h=>by cases h⟩
 have X:Xo (s.heap.size+2<=u.heap.size):=dD<|by have:=F.out;have:=d.out;have:=D.out;omega
 obtain⟨b,E⟩:=Wq fun w=>Out g (g+1) u w
 obtain⟨nq,L⟩:=kA q.length;rw[L.out]at H Q f a9;have a5:=fun y:zo b=>(aa.out.out ((E _).1 y.holds) Wm).c i f.out
 have l:w.heap.size+1<g:=Hm c.out
 have a6:=fun y:zo b=>(A.out.out ((E _).1 y.holds) Wm).c 0 rfl
 have a7:=fun y:zo b=>(A.out.out ((E _).1 y.holds) Wm).c 1 rfl
 have a8:=fun y:zo b=>(A.out.out ((E _).1 y.holds) Wm).c 2 rfl
 have R:Nonempty (zo b):=⟨⟨u,(E _).2 (Out.refl _ _ _)⟩⟩;obtain⟨B,V⟩:=kA T.length;refine jS (I:=b) 11 [(9,⟨fun A=>∃Z a4,A=O Z B a4,fun A w'=>zb enE (s.heap.size+2) w' A T/\∀a,A.ownBlock=Xa a->(O v nq z).ownBlock=Xa a\/u.heap.size<=a,fun w w'=>w.grownBy w' (O v nq z).ownBlock,fun w=>zb enE (s.heap.size+2) w (O v nq z) q/\u.heap.size<=w.heap.size⟩)] ((E _).2 (Out.drew _)) zU Kr rfl rfl Dc ?hS ?hp ?hpre ?hpr0 ?_
 case hS=>
  intro y M
  simp at M
  subst M;exact⟨_,Xb,0,rfl⟩
 case hp=>
  intro ab ah j ac b M l _ A w w' y a0;have a0:=(zbG b).1;have a3:=(zbG M).1;exact absurd (a3.trans a0.symm) l
 case hpre=>
  intro j ac ab ah M b l w w' y y;have a0:=(zbG b).1;have a3:=(zbG M).1;exact absurd (a3.trans a0.symm) l
 case hpr0=>
  intro ab ac b;obtain⟨rfl,rfl⟩:=zbG b;exact⟨a9.aA (gW _),nR _⟩
 simp only[Yr,Ys];iterate 9 refine qT ?_
 refine jY rfl rfl (fun w' a3 y a0=>?_) (fun b r=>?_)
 ·refine zI.call [O v nq z,I6 (W:Int),Xi #[I6 x.kind,I6 x.n,Xh x.wr]] rfl func203 rfl rfl rfl ?_;have l:zb enE (s.heap.size+2) w' (O v nq z) q/\u.heap.size<=w'.heap.size:=y;have b:=zeK v z q W ag x (s.heap.size+2) w' (Rx L.out l.1) (nT X l.2) ae.out
  rw[L.out,P.out,V.out]at b;refine b.mono ?_;rintro e b⟨Z,a4,rfl,q,b,U⟩;refine⟨_,rfl,(E _).2 (((E _).1 a3).trans (Out.grown b (fun a h=>Hm (H a h)))),b,⟨Z,a4,rfl⟩,q,fun a b=>?_⟩
  rcases U a b with h|h
  ·exact .inl h
  exact .inr (nT l.2 h)
 obtain⟨y,L,rfl⟩:=r;refine Uq ?_;refine qT ?_
 refine JJ fun P V a0=>?_
 have W:zb enE (s.heap.size+2) P (O y B L) T/\∀a,(O y B L).ownBlock=Xa a->(O v nq z).ownBlock=Xa a\/u.heap.size<=a:=a0 9;have l:Xo (Out g (g+1) u P):=(E _).1 V;have q:Xo (jk (s.heap.size+2) P (k.set i (O y B L)) (t.set i T)):=G.one Y f (by
  cases U:(O v nq z).ownBlock with
  |none=>exact⟨l.os,l.tape,l.output,l.size,fun j M _=>l.block j M (.inl (Xu M (Q U)))⟩
  |some g=>
   have:=H g U;subst this;exact⟨l.os,l.tape,l.output,l.size,fun j M R=>l.block j M (by
    have:j≠g:=fun e=>R (by rw[e])
    omega)⟩) W.1 W.2
 have u:Xo (∀(j:Nat)C,(k.set i (O y B L))[j]?=Xa C->∀a,C.ownBlock=Xa a->K≠a):=dD<|fun j C S a b=>by
  by_cases e:j=i
  ·subst e;rw[sF (by rw[G.len];exact Y)]at S
   cases S
   rcases W.2 a b with h|h
   ·have:=N.out j _ f a h;omega
   have:=F.out;omega
  rw[sN (fun h=>e h.symm)]at S
  have:=N.out j C S a b;omega
 have v:Xo (Box P K k):=aa.out.out l Wm
 have E:Xo (Box P (w.heap.size+2) ze2):=af.out.out l (Hm c.out)
 have z:Xo (zc w P):=dD<|Out.bI ad (Hm c.out) l.out
 clear a0 a5 a6 a7 a8 V R W H Q;have H:=v.c i f.out;have M:=v.f;go_upto_region 11 with fail;have hlen:(k.set i (O y B L)).length=8:=Rx Xw G.len
 have g:=dD hlen;clear hlen;obtain⟨l,f⟩:=kB (P.setCell ⟨K,i,Xb⟩ (O y B L));have C:Xo (Box l K (k.set i (O y B L))):=show Box _ _ _ by rw[<-f];exact v.set i _
 have F:Xo (Box l (w.heap.size+2) ze2):=dD<|by rw[<-f];exact E.other (by have:=d.out;have:=D.out;have:=c.out;simp;omega) _
 have v:Xo (zc w l):=dD<|by rw[<-f];exact Below.setCell z (p:=⟨K,i,Xb⟩) (by have:=d.out;have:=D.out;have:=c.out;simp;omega) _
 have d:Xo (jk (s.heap.size+2) l (k.set i (O y B L)) (t.set i T)):=dD<|by
  rw[<-f];exact⟨q.len,q.aO,fun j A h r l=>(q.row j A h r l).aQ (fun a b=>u.out j A r a b) _,q.two⟩
 rw[f];clear f H M
 go_wp2_with(first|refine qA rfl (.tmp 10) rfl K rfl C g.out ?_|refine zx rfl 74 (.tmp 6) (.tmp 40) rfl (w.heap.size+2) rfl _ rfl F g zrY d.new.one ?_)
 intro q s f C;have u:=dD s;have z:Xo (zc w q):=show zc _ _ from zd v f Sm
 have v:Xo (zaD 0 w.heap.size q (k.set i (O y B L)) (t.set i T)):=show zaD _ _ _ _ _ from
  ⟨d.len,d.aO,fun j A h r l=>(((d.row j A h r l).grown f (fun a b e=>by
   cases e;have:=((d.row j A h r l).lt _ b).1;have:=c.out
   omega)).new.stays).less (nR _) (Hm c.out)⟩
 clear s f C;go_wp2;refine bodyPost_ret (zW rfl _ rfl u underlying74 rfl (Rx g.out zrY)) rfl ⟨_,rfl,v,z⟩
def chL(V:MaV)(m:Ma):List Xq:=[O V.f.a V.f.n V.f.c,Xe Xf m.aB,O V.s.a V.s.n V.s.c,O V.sb.a V.sb.n V.sb.c,O V.sq.a V.sq.n V.sq.c,O V.db.a V.db.n V.db.c,O V.dq.a V.dq.n V.dq.c,O V.fl.a V.fl.n V.fl.c,Xe Xf m.cnt,O V.ca.a V.ca.n V.ca.c,O V.sp.a V.sp.n V.sp.c]
theorem zk.grown{D:Nat->Prop}{w:Xn}(a:w.grownBy w' (Xa b))(h:D b):zk D w w':=
 ⟨a.os,a.tape,a.output,a.size,fun k d c=>a.block k d (fun e=>by cases e;exact c h)⟩
theorem zg.aK{D:Nat->Prop}{w:Xn}{cs:List Xq}(h:zg w b t cs)(k:zk D w w')(a:¬D b):zg w' b t cs:=(k.block b h.box.lt a).trans h
theorem zaD.aK{D:Nat->Prop}{w:Xn}{t:List (List En)}(h:zaD 0 B w us t)(a:∀k,D k->k<B)(k:zk D w W):J6 W us t:=
 (h.out ⟨k.os,k.tape,k.output,k.size,fun i b c=>k.block i b (fun e=>Hm (a i e))⟩).now
def Qj(m:Ma)(e:En)(n:Int):Ma:=if e.kind=1 then{m with fs:=Qv m.fs m.aB e.n n,aB:=zmt m.fs m.aB e.n n}else if e.kind=2 then{m with sl:=ZK m.sl e.n n}else m
def QH(m:Ma)(q:Nat)(n:Int):En:=zdT (m.sp.getD q ⟨Xd,[],[]⟩).tb n
def jp(m:Ma)(q:Nat)(n:Int)(e:En):Ma:={m with sp:=m.sp.set q {m.sp.getD q ⟨Xd,[],[]⟩with tb:=ziX (m.sp.getD q ⟨Xd,[],[]⟩).tb n e}}
def zkT(m:Ma)(p:Nat)(n:Int):Ma:=jp (Qj m (QH m p n) (-1)) p n en0
theorem Sp.aP{l:List Sp}{q:Nat}{s d:Sp}(h:l[q]?=Xa s):l.getD q d=s:=by
 rw[gD,h];rfl
section
variable{I:Xn->Prop}{P:Program}{ops:Array Oper}{S:Nat->Option (Xq->Prop)}{Q:Act->Xn->Prop}
variable(I P ops S Q)in
abbrev zdV:List Oper->Nat->(Xn->Prop)->Act->Prop:=Q9 I P ops S (fun _=>Xd) Q
theorem qj{Q:Exit->Act->Xn->Prop}{a:Act}{w:Xn}{l r:List Oper}(T:Nat)(S:List (Nat×(Xq->Prop)))(F:Xn->Prop)(e:I w.drew)(d:F w.drew)(j:P.follows .mixedOrders=Xc)(c:QT L.toArray T=Xc)(g:L.take T=l)(m:L.drop T=r)(f:T<=L.length)
  (hS:∀x∈S,∃v,x.2 v)(b:((S.map (·.1)).all fun i=>(S.map (·.1)).all fun k=>!decide (i<k)||anc L.toArray 9 i k)=Xc)
  (h:zdV I P L.toArray (fun k=>S.lookup k) (fun a w=>wpList P L.toArray Q r a w) l 0 F a):(Code.region id L.toArray Xc).wp P Q a w:=
 Zo T S [] F e d j c g m f hS (Si b) rfl h
variable{o:Oper}{rest:List Oper}{k:Nat}{F:Xn->Prop}{a:Act}
theorem zbI(b:znR o=Xc)(c:Xs o (yielded ops a.tmps)=Xc)(hS:S k=Xb)
  (h:∀K:Act->Prop,(∀a,zdV I P ops S Q rest (k+1) F a->K a)->o.quiet P a (fun w'=>∃x:zo I,w'=x.world) K):zdV I P ops S Q (o::rest) k F a:=qU b c hS h
theorem zw{P Q:Prop}(k:Q)(h:Go.RowKit.Hid Q->P:=by intro h;refine zbI rfl rfl rfl (fun K a=>?_);go_big_quiet_op;exact a _ h.out):P:=h k
theorem zL{s:Xq->Prop}(c:Xs o (yielded ops a.tmps)=Xc)(hS:S k=Xa s)(p:Xq->Xn->Prop)
  (h:∀w,I w->F w->zI P o a w fun v w'=>I w'/\s v/\p v w')
  (b:∀v,s v->zdV I P ops S Q rest (k+1) (p v) (a.put o.dst v)):zdV I P ops S Q (o::rest) k F a:=Qs c hS p h b
theorem qx(x p)(b:o.op=.nilCheck x)(d:a.eval x=Xj (Xa p))(c:Xs o (yielded ops a.tmps)=Xc)(hS:S k=Xb)(h:zdV I P ops S Q rest (k+1) F (a.put o.dst (Xj (Xa p)))):zdV I P ops S Q (o::rest) k F a:=Qu x p b d c hS h
theorem jL(h:∀w,I w->F w->Q a w):zdV I P ops S Q [] k F a:=Qa h
theorem Zk(v)(b:Xs o (yielded ops a.tmps)=Xc)(hS:S k=Xb)(h:∀w,I w->(execOp a.eval o).run P w=.ok (.value v) w)(c:zdV I P ops S Q rest (k+1) F (a.put o.dst v)):zdV I P ops S Q (o::rest) k F a:=za1 b hS (fun w b _=>h w b) c
end
theorem zpL(q:List Int)(i:Nat)(z:Int):pgc (q.set i z)=(pgc q).set i (U8 z):=by
 unfold pgc;rw[List.map_set]
theorem zqO{q:List Int}{i:Nat}(h:q[i]?=Xa z):(pgc q)[i]?=Xa (U8 z):=by
 unfold pgc;rw[Oi,h];rfl
theorem zr7:(Tryz.prog.info? 91).map (·.size)=Xa 8:=by kernel_rfl
theorem zh0{a:List (List Int)}{i:Nat}{l:List Int}(h:∀p∈a,p.length=8)(b:l.length=8):∀p∈a.set i l,p.length=8:=fun p a=>by grind
theorem Qn{w:Xn}{rest:List Oper}{a:Act}(f:o.guard=Xb)(p x)(m:o.op=.store 91 p x)
  (base:Nat)(v:Xq)(c:List (List Int))(b:zs base w v c)(g i:Nat)(k:v.ownBlock=Xa g)(hi:i<c.length)(l:List Int)(h:l.length=8)
  (d:Addr)(hp:a.eval p=Xj (Xa d))(e:d=⟨g,i*8,Xb⟩)(n:a.eval x=Xi (pgc l).toArray)
  (j:∀w',zs base w' v (c.set i l)->w.grownBy w' (Xa g)->w'.heap.size=w.heap.size->wpList prog ops Q rest (a.put o.dst undef) w'):wpList prog ops Q (o::rest) a w:=by
 refine zcc f p x 91 m 8 Kr base v c.length _ b.1 g i k hi (pgc l) (by rw[ZB,h]) (jt l) d hp e n fun w' d e f=>?_
 rw[zbs l (by rw[ZB,h]) c i (fun c k=>by rw[ZB,b.2.1 c k]) hi]at d
 refine j w' ⟨Rx Xw d,zh0 b.2.1 h,Rx Xw b.2.2⟩ e f
def qt(keep:Nat->Bool):List (Int×List Int)->Nat->List (List Int)->List (List Int)
 |[],_,ps=>ps
 |q::r,j,ps=>qt keep r (j+1) (if keep j then ps.set q.1.toNat q.2 else ps)
def Zc(keep:Nat->Bool)(ps:List (List Int))(qs:List (Int×List Int)):List (List Int):=if zD ps.length qs=0 then qt keep qs 0 ps else[]
def ziN(g:Nat)(lb:Array Xq)(keep:Nat->Bool)(w:Xn):Prop:=
 ∀W(j:Nat),zc w W->j<=400->Xp prog g (#[Xe Xf (j:Int)]++lb) W fun e W'=>e=Xl (Xh (keep j))/\zc W W'
theorem qN{n:Nat}{a:List (Int×List Int)}(h:zD n a=0):n<=80/\a.length<=400/\∀q∈a,∃i:Nat,q.1=(i:Int)/\i<n:=by grind[zD,ZF,Yd.2,Int.eq_ofNat_of_zero_le]
theorem ze0(base:Nat)(w):zZ base w (Xi #[eS,eS]) [] []:=
 ⟨_,_,rfl,⟨⟨Xb,0,rfl,fun _=>rfl,fun x a=>by cases a⟩,Sm,Sm⟩,⟨⟨Xb,0,rfl,fun _=>rfl,fun x a=>by cases a⟩,Sm,Sm⟩,Zt _,Zt _⟩
theorem zmd(w):jD w (eS) []:=⟨⟨Xb,0,rfl,fun _=>rfl,fun x a=>by cases a⟩,Sm,Sm⟩
theorem zd6(a:Nat->Bool)(g:Nat)(lb:Array Xq)(dl:∀H w,(callFunc g H).run prog w=.ok (.enter g H) w)(d)(m:List (List Int))(h:List (Int×List Int))(w:Xn)(cf:QG w d m h)(bp:ziN g lb a w):
  Xp prog 196 #[d,.func (.func g) #[] lb] w fun e w'=>∃bl,e=Xl (Xm #[bl,I6 (zD m.length h)])/\zZ w.heap.size w' bl (Zc a m h) []/\zc w w':=by
 obtain⟨db,F,rfl,bf,bg⟩:=cf;have bx:=dD bf;have c0:=dD bg;have c4:=dD bp;obtain⟨V,X,rfl,_⟩:=bf.rows;obtain⟨af,ar,rfl,K⟩:=bg.rows;have c1:=dD K;clear bf bg bp K;have T:Xo (Zc a m h=if zD m.length h=0 then qt a h 0 m else[]):=rfl;obtain⟨C,r⟩:=kA m.length;obtain⟨nq,s⟩:=kA h.length;have q:∀W,zc w W->Xp prog 60 #[Xi #[O V C X,O af nq ar]] W fun e w'=>e=Xl (I6 (zD m.length h))/\zc W w':=fun W be=>by
  rw[<-r.out,<-s.out];exact zaF V m.length X _ h W (c0.aA be)
 have n:∀W,zc w W->Xp prog 99 #[O V C X] W fun e w'=>∃br,e=Xl br/\zs W.heap.size w' br m/\zc W w':=fun W be=>by
  rw[<-r.out];exact zae _ m W (bx.aA be)
 rw[r.out,s.out];obtain⟨ax,ae⟩:=kA (zD m.length h);rw[ae.out]at T;simp only[ae.out]at q;have ba:Xo (zD C h=ax):=dD<|Ry r.out ae.out
 rw[ba.out];have D:Xo (zc w ((w.alloc (Xk #[O V C X,O af nq ar] 38)).alloc (Xk #[eS,eS] 38))):=dD<|(za _ _).trans (za _ _)
 by_cases bh:ax=0
 ·subst bh;rw[kE rfl]at T;obtain⟨ac,z,Z⟩:=qN ae.out;have b9:=dD Z;have cl:nq<=400:=Ry s.out z
  clear Z z ac
  go_enter func196,ntmps196
  go_wp2_with(first
   |(go_at_call 60;refine(q _ D).mono ?_;rintro e l⟨rfl,b⟩;have ca:l.cell? ⟨w.heap.size,0,Xb⟩=Xa (O V C X):=(Below.cell b (by simp;omega)).trans Sm;have bc:l.cell? ⟨w.heap.size,1,Xb⟩=Xa (O af nq ar):=(Below.cell b (by simp;omega)).trans Sm;have E:Xo (zc w l):=D.trans b)
   |(go_at_call 99;refine(n _ E).mono ?_;rintro e G⟨v,rfl,bq,k⟩;have cm:G.cell? ⟨w.heap.size,1,Xb⟩=Xa (O af nq ar):=(Below.cell k (World.block_lt_of_cell? _ _ bc)).trans bc;have c5:Xo (zs l.heap.size G v m):=bq;have az:Xo (zc w G):=E.trans k))
  have j:Xo (w.heap.size+2<=l.heap.size):=dD<|by have:=bS b;simpa using this
  have N:=dD<|bS k;have ao:G.cell? ⟨w.heap.size+1,0,Xb⟩=Xa (eS):=(Below.cell (b.trans k) Sm).trans Sm
  have ap:G.cell? ⟨w.heap.size+1,1,Xb⟩=Xa (eS):=(Below.cell (b.trans k) Sm).trans Sm
  have au:G.frozen? ⟨w.heap.size+1,0,Xb⟩=Xd:=(Below.frozen (b.trans k) Sm).trans Sm
  have aw:G.frozen? ⟨w.heap.size+1,1,Xb⟩=Xd:=(Below.frozen (b.trans k) Sm).trans Sm
  have bt:=dD ao;have bu:=dD ap;have bv:=dD au;have bw:=dD aw;have bz:Xo (∀(ad:Nat)F,h[ad]?=Xa F->h.drop ad=F::h.drop (ad+1)):=show∀(ad:Nat)F,_ from fun ad F cd=>by
   obtain⟨x,rfl⟩:=gS.1 cd;exact List.drop_eq_getElem_cons x
  clear ca bc cm b k ao ap au aw q n bq
  go_loopg[8,9,22] nq (fun cc _ _ bj wr=>∃(f:Nat)(A:List (List Int)),f<=nq/\nq-f<=cc/\bj=I6 f/\Xo (Below l.heap.size G wr)/\Xo (zs l.heap.size wr v A)/\Xo (A.length=C)/\Xo (qt a (h.drop f) f A=qt a h 0 m))
  exact⟨0,m,nZ _,Wm,rfl,bR _ _,c5,r,rfl⟩
  obtain⟨f,A,cj,cg,rfl,B,R,U,P⟩:=hrel;have ay:Xo (zc w wr):=dD<|Below.trans az (B.mono (Hm j.out))
  by_cases x:f<nq
  ·have a9:=kC x
   obtain⟨F,M⟩:∃F,Xo (h[f]?=Xa F):=⟨_,gE (Rx s.out x)⟩
   obtain⟨bs,dn,ag,ah,ai,aj,ak,al,am,an,rfl,rfl,bo⟩:=c1.out f F M.out;obtain⟨dc,dd,de,df,dg,dh,di,dj,dk⟩:=bo wr ay.out;obtain⟨L,aa,bn⟩:=b9.out _ (mG M);simp only at aa;subst aa;have I:L<C:=Ry r.out bn
   have ci:(L:Int)<(C:Int):=Wm
   have ch:(0:Int)<=(L:Int):=Wm
   have i:=c4.out (wr.alloc (Xk #[I6 (L:Int),U8 ag,U8 ah,U8 ai,U8 aj,U8 ak,U8 al,U8 am,U8 an] 117)) f (ay.trans (za _ _)) Wm
   have y:=bz.out f _ M.out;have bk:=dD y;clear bo y bn;obtain⟨Q,u,rfl,Y⟩:∃Q u,v=O (Xa ⟨Q,0,Xb⟩) C u/\l.heap.size<=Q:=by
    rcases R.1.2 with⟨_,bm⟩|⟨Q,u,c8,bm,ce,_⟩
    ·have:=U.out;omega
    exact⟨Q,u,by rw[bm,U.out],ce⟩
   have b8:=dD Y;clear Y
   cases S:a f with
   |true=>
    rw[S]at i
    go_wp2_with(first
     |(
      go_at_fn g;refine i.mono ?_;rintro e t⟨rfl,c⟩
      have cs:t.cell? ⟨wr.heap.size,0,Xb⟩=Xa (I6 (L:Int)):=(Below.cell c Sm).trans Sm
      have ct:t.cell? ⟨wr.heap.size,1,Xb⟩=Xa (U8 ag):=(Below.cell c Sm).trans Sm
      have cu:t.cell? ⟨wr.heap.size,2,Xb⟩=Xa (U8 ah):=(Below.cell c Sm).trans Sm
      have cw:t.cell? ⟨wr.heap.size,3,Xb⟩=Xa (U8 ai):=(Below.cell c Sm).trans Sm
      have cx:t.cell? ⟨wr.heap.size,4,Xb⟩=Xa (U8 aj):=(Below.cell c Sm).trans Sm
      have cy:t.cell? ⟨wr.heap.size,5,Xb⟩=Xa (U8 ak):=(Below.cell c Sm).trans Sm
      have cz:t.cell? ⟨wr.heap.size,6,Xb⟩=Xa (U8 al):=(Below.cell c Sm).trans Sm
      have d9:t.cell? ⟨wr.heap.size,7,Xb⟩=Xa (U8 am):=(Below.cell c Sm).trans Sm
      have da:t.cell? ⟨wr.heap.size,8,Xb⟩=Xa (U8 an):=(Below.cell c Sm).trans Sm
      have bb:Xo (zs l.heap.size t (O (Xa ⟨Q,0,Xb⟩) C u) A):=R.aA ((za _ _).trans c))
     |(refine Qn rfl (.tmp 35) (.tmp 34) rfl l.heap.size _ A bb Q L rfl (Rx U.out I) [ag,ah,ai,aj,ak,al,am,an] rfl _ rfl Sm rfl ?_;intro cr bi bd cp))
    go_roundg (nq-(f+1))
    case measure=>omega
    refine⟨f+1,A.set L [ag,ah,ai,aj,ak,al,am,an],Wm,Wm,Gn,?_,bi,(show Xo _ from Rx Xw U),?_⟩
    ·exact Below.grown (zjD B (by have:=B.size;have:=N.out;omega) ((za _ _).trans c)) bd (by have:=B.size;have:=N.out;have:=bS ((za wr _).trans c);omega) (fun dm S=>by cases S;exact b8)
    show qt a (h.drop (f+1)) (f+1) (A.set L _)=_
    rw[<-P.out,bk.out]
    simp[qt,S]
   |false=>
    rw[S]at i
    go_wp2_with(go_at_fn g;refine i.mono ?_;rintro e t⟨rfl,c⟩)
    go_roundg (nq-(f+1))
    case measure=>omega
    refine⟨f+1,A,Wm,Wm,Gn,?_,R.aA ((za _ _).trans c),U,?_⟩
    ·exact zjD B (by have:=B.size;have:=N.out;omega) ((za _ _).trans c)
    show qt a (h.drop (f+1)) (f+1) A=_
    rw[<-P.out,bk.out]
    simp[qt,S]
  have a9:=kD x
  have:f=nq:=Wm
  subst this;have ao:wr.cell? ⟨w.heap.size+1,0,Xb⟩=Xa (eS):=(Below.cell B (p:=⟨w.heap.size+1,0,Xb⟩) (by have:=j.out;show w.heap.size+1<_;omega)).trans bt.out
  have ap:wr.cell? ⟨w.heap.size+1,1,Xb⟩=Xa (eS):=(Below.cell B (p:=⟨w.heap.size+1,1,Xb⟩) (by have:=j.out;show w.heap.size+1<_;omega)).trans bu.out
  have au:wr.frozen? ⟨w.heap.size+1,0,Xb⟩=Xd:=(Below.frozen B (p:=⟨w.heap.size+1,0,Xb⟩) (by have:=j.out;show w.heap.size+1<_;omega)).trans bv.out
  have aw:wr.frozen? ⟨w.heap.size+1,1,Xb⟩=Xd:=(Below.frozen B (p:=⟨w.heap.size+1,1,Xb⟩) (by have:=j.out;show w.heap.size+1<_;omega)).trans bw.out
  obtain⟨c6,co,c9,rfl⟩:=R.slice;go_wp2;refine bodyPost_ret (v:=Xm #[Xi #[O c6 co c9,eS],I6 0]) (by simp[results,Tryz.results196,go_sem, *]) rfl ⟨_,rfl,⟨_,_,rfl,?_,zmd _,fun bs cn c7 e=>nT (Hm j.out) (R.fresh bs cn c7 e),Zt _⟩,?_⟩
  ·rw[T.out];have e:qt a h 0 m=A:=by
    rw[<-P.out,Ya (by rw[s.out];exact nR _)]
    rfl
   rw[e];exact((R.setCell (by have:=j.out;show w.heap.size+1<_;omega) _).setCell (by have:=j.out;show w.heap.size+1<_;omega) _).at
  exact Below.setCell (Below.setCell ay (p:=⟨w.heap.size+1,0,Xb⟩) Sm _) (p:=⟨w.heap.size+1,1,Xb⟩) Sm _
 have ck:(ax !=0)=Xc:=Si bh
 rw[kF bh]at T
 go_enter func196,ntmps196
 go_wp2_with(
  go_at_call 60;refine(q _ D).mono ?_;rintro e l⟨rfl,b⟩
  have ao:l.cell? ⟨w.heap.size+1,0,Xb⟩=Xa (eS):=(Below.cell b Sm).trans Sm
  have ap:l.cell? ⟨w.heap.size+1,1,Xb⟩=Xa (eS):=(Below.cell b Sm).trans Sm
  have au:l.frozen? ⟨w.heap.size+1,0,Xb⟩=Xd:=(Below.frozen b Sm).trans Sm
  have aw:l.frozen? ⟨w.heap.size+1,1,Xb⟩=Xd:=(Below.frozen b Sm).trans Sm
  have E:Xo (zc w l):=D.trans b)
 refine bodyPost_ret (v:=Xm #[Xi #[eS,eS],I6 ax]) (by simp[results,Tryz.results196,go_sem, *]) rfl ⟨_,rfl,?_,?_⟩
 ·rw[T.out];exact ze0 _ _
 exact Below.setCell (Below.setCell E (p:=⟨w.heap.size+1,0,Xb⟩) Sm _) (p:=⟨w.heap.size+1,1,Xb⟩) Sm _
def Jm(n:Int):Int:=if 0<=n/\n<=80 then 0 else 4
def zmg(n:Int):List (List Int):=if 0<=n/\n<=80 then Xr n.toNat zS else[]
theorem zkj(n:Nat):(madeCells #[U8 0,U8 0,U8 0,U8 0,U8 0,U8 0,U8 0,U8 0] (n*8)).toList=(Xr n zS).flatMap pgc:=by
 have g:((Xr n zS).flatMap pgc).length=n*8:=by rw[jf (k:=8) _ (fun e b=>by rw[Xz b];rfl)];simp
 apply Yf
 intro j
 rcases Nat.lt_or_ge j (n*8)with h|h
 ·have f:j=j/8*8+j%8:=Wm
  have a:j%8<8:=Nat.mod_lt _ Dc
  have i:j/8<n:=Wm
  have l:(pgc zS)[j%8]?=Xa (U8 0):=by
   generalize j%8=c at a
   match c,a with
   |0,_=>rfl
   |1,_=>rfl
   |2,_=>rfl
   |3,_=>rfl
   |4,_=>rfl
   |5,_=>rfl
   |6,_=>rfl
   |7,_=>rfl
  have d:=Zu (enc:=pgc) (k:=8) (Xr n zS) (j/8) zS (fun e b=>by rw[Xz b];rfl) (by simp[i]) (j%8) _ l
  rw[<-f]at d;rw[d];have:(#[U8 0,U8 0,U8 0,U8 0,U8 0,U8 0,U8 0,U8 0]:Array Xq)[j%8]! =U8 0:=by
   generalize j%8=c at a
   match c,a with
   |0,_=>rfl
   |1,_=>rfl
   |2,_=>rfl
   |3,_=>rfl
   |4,_=>rfl
   |5,_=>rfl
   |6,_=>rfl
   |7,_=>rfl
  simp[madeCells,h]
  grind
 rw[gN (by simp[madeCells];exact h),gN (Rx g h)]
theorem zbp{w:Xn}{rest:List Oper}{a:Act}(b:o.guard=Xb)(l)(j:o.op=.makeSlice 35 l l)(n:Nat)(i:a.eval l=I6 n)(c:n<=80)
  (h:∀C,zs w.heap.size (w.alloc (Xk C 91)) (O (Xa ⟨w.heap.size,0,Xb⟩) n n) (Xr n zS)->wpList prog ops Q rest (a.put o.dst (O (Xa ⟨w.heap.size,0,Xb⟩) n n)) (w.alloc (Xk C 91))):wpList prog ops Q (o::rest) a w:=by
 refine wpList_plain b fun K f=>?_
 obtain⟨m,g,c,d,e⟩:=info_parts zrS;have b:=run_make (P:=prog) w 35 91 m _ underlying35 g c .i64 .i64 n n Wm (Int.le_refl _) (by rw[e];omega) Wm
 rw[d,tN]at b;unfold Oper.wp;simp only[execOp,j,i,Xt,b,Result.andThen,Yb,Oper.upon];refine f _ _ (h _ ⟨⟨?_,.inr ⟨w.heap.size,n,madeCells #[U8 0,U8 0,U8 0,U8 0,U8 0,U8 0,U8 0,U8 0] (n*8),by rw[lR],nR _,?_,?_,?_,?_,?_⟩⟩,fun p b=>by rw[Xz b];rfl,by rw[lR];omega⟩)
 ·rw[jf (k:=8) _ (fun a b=>by rw[Xz b];rfl)]
 ·show(w.heap.push _)[w.heap.size]?=_
  simp[Value.cells]
 ·rw[lR];exact nR _
 ·exact jx Wm
 ·rw[size_madeCells]
 rw[lR]
 show(madeCells #[U8 0,U8 0,U8 0,U8 0,U8 0,U8 0,U8 0,U8 0] (n*8)).toList.take (n*8)=_
 rw[Xx (by simp[madeCells]),zkj]
theorem zpO(n:Int)(w:Xn):
  Xp prog 17 #[I6 n] w fun e w'=>∃a,e=Xl (Xm #[a,I6 (Jm n)])/\zZ w.heap.size w' a (zmg n) []/\zc w w':=by
 by_cases h:0<=n/\n<=80
 ·have b:Xo (Jm n=0):=dD<|by unfold Jm;rw[kE h]
  have a:Xo (zmg n=Xr n.toNat zS):=dD<|by unfold zmg;rw[kE h]
  obtain⟨k,rfl⟩:=Int.eq_ofNat_of_zero_le h.1;have g:¬(k:Int)<0:=Wm
  have i:¬(80:Int)<(k:Int):=Wm
  have c:k<=80:=Wm
  have d:Xo (zc w (w.alloc (Xk #[eS,eS] 38))):=za _ _;rw[b.out]
  go_enter func17,ntmps17
  go_wp2_with(refine zbp rfl (.tmp 11) rfl k rfl c ?_;intro C d;have f:Xo (zs (w.alloc (Xk #[eS,eS] 38)).heap.size ((w.alloc (Xk #[eS,eS] 38)).alloc (Xk C 91)) (O (Xa ⟨(w.alloc (Xk #[eS,eS] 38)).heap.size,0,Xb⟩) k k) (Xr k zS)):=d;clear d)
  refine bodyPost_ret (v:=Xm #[Xi #[O (Xa ⟨w.heap.size+1,0,Xb⟩) k k,eS],I6 0]) (by simp[results,Tryz.results17,go_sem, *]) rfl ⟨_,rfl,?_,?_⟩
  ·rw[a.out];have d:=f.out;rw[World.size_alloc]at d;exact⟨_,_,rfl,zs.at (base:=w.heap.size+1) ⟨zgk d.1 (fun k c=>ziK w _ _ _ k c),d.2⟩,zmd _,fun x n c e=>by cases e;simp,Zt _⟩
  exact(za _ _).trans (za _ _)
 have b:Xo (Jm n=4):=dD<|by unfold Jm;rw[kF h]
 have a:Xo (zmg n=[]):=dD<|by unfold zmg;rw[kF h]
 rw[b.out,a.out]
 by_cases g:n<0
 ·clear h
  go_enter func17,ntmps17
  go_wp2;refine bodyPost_ret (v:=Xm #[Xi #[eS,eS],I6 4]) (by simp[results,Tryz.results17,go_sem]) rfl ⟨_,rfl,ze0 _ _,?_⟩
  exact za _ _
 have i:(80:Int)<n:=Wm
 clear h
 go_enter func17,ntmps17
 go_wp2;refine bodyPost_ret (v:=Xm #[Xi #[eS,eS],I6 4]) (by simp[results,Tryz.results17,go_sem]) rfl ⟨_,rfl,ze0 _ _,?_⟩
 exact za _ _
end
section
open Go.RowKit Go.Shelf
section
attribute [local go_sem] Oper.semAt_some
structure P9 where
  (i m b0 b1 b2 b3 b4 b5 b6 b7:Int)
def P9.q(x:P9):Int×List Int:=(x.m,[x.b0,x.b1,x.b2,x.b3,x.b4,x.b5,x.b6,x.b7])
def P9.encs(x:P9):Array Value:=#[.int .i64 x.i,.agg #[.int .i64 x.m,.int .u8 x.b0,.int .u8 x.b1,.int .u8 x.b2,.int .u8 x.b3,.int .u8 x.b4,.int .u8 x.b5,.int .u8 x.b6,.int .u8 x.b7]]
theorem zjw{α:Type}(l:List α)(k:Nat)(q:α)(h:l[k]?=Xa q):(l.drop k).reverse=(l.drop (k+1)).reverse++[q]:=by
  grind[List.getElem?_eq_some_iff.1,List.drop_eq_getElem_cons,List.reverse_cons]
theorem zoN{α:Type}(l:List α)(k:Nat):(l.drop k).reverse<+:l.reverse:=by
  refine⟨(l.take k).reverse,?_⟩
  rw[<-List.reverse_append,List.take_append_drop]
theorem zo3(F:Fence)(n:Nat)(hF:F.fn 234)(hro:F.round=Xb)(hn:1<=n)(l Bs n₀:Nat)(w:Xn)(a)(c:Nat)(qs:List (Int×List Int))(hr:zdy w a qs)(hbig:qs.length<=9223372036854775807)(hw:w.heap.size<=n₀)(hBn:Bs<n₀)(J Jx:List P9->Xn->Prop)
    (hY:∀pre x W,J pre W->pre.length<qs.length->YieldAt F (n-1) Tryz.prog l (P9.encs x) W fun e W'=>
      (e=.returned (.bool true)/\J (pre++[x]) W'/\Below n₀ W W')\/(e=.returned (.bool false)/\Jx (pre++[x]) W'))
    (W:Xn)(hgW:zc w W)(hBs:W.cell? ⟨Bs,0,Xb⟩=Xa (O a qs.length c))(h0:J [] W):
    CallsIn F n Tryz.prog 234 #[.func (.yield l) #[] #[],.pointer (some ⟨Bs,0,none⟩)] W fun e W'=>(∃v,e=.returned v)/\
      ((∃ys,ys.map P9.q=qs.reverse/\J ys W')\/(∃pre,pre.map P9.q<+:qs.reverse/\Jx pre W')):=by
  have HR:Xo (zdy w a qs):=hr
  have HY:Hid _:=hY
  obtain⟨nq,HN⟩:∃nq,Hid (qs.length=nq):=⟨_,rfl⟩
  rw[HN.out]at hbig hBs
  have HBS:Hid (W.cell? ⟨Bs,0,none⟩=some (.slice a nq c)):=hBs
  have HGW:Xo (zc w W):=hgW
  clear hr hY hgW
  refine callsIn_of_wp Tryz.func234 rfl hF ?_ hro
  simp only[Tryz.ntmps234,List.size_toArray,List.length_cons,List.length_nil,Nat.reduceAdd,Nat.reduceSub,Array.replicate_succ,Array.replicate_zero,List.push_toArray,List.append_toArray,List.nil_append,List.cons_append]
  gi_wp2
  clear hBs
  gi_loopw[3] (fun p wr=>∃(r:Nat)(pre:List P9),r<=nq/\p=.int .i64 ((r:Int)-1)/\Hid (pre.map P9.q=(qs.drop r).reverse)/\Hid (J pre wr)/\Hid (Below n₀ W wr))
    (fun p _=>((intOf p)+1).toNat)
  case atStart=>exact⟨nq,[],Nat.le_refl _,by go_num,(show Hid _ from by rw[List.drop_of_length_le (by rw[HN.out];exact Nat.le_refl _)];rfl),h0,Below.refl _ _⟩
  case round=>
    obtain⟨r,pre,hrn,rfl,HP,HJ,HB⟩:=hrel
    cases r with
    |zero=>
      gi_wp2
      go_end0
      exact⟨⟨_,rfl⟩,.inl ⟨pre,by rw[HP.out];rfl,HJ.out⟩⟩
    |succ k=>
      obtain⟨q,HQ⟩:∃q,Hid (qs[k]?=some q):=⟨_,List.getElem?_eq_getElem (by rw[HN.out];omega)⟩
      obtain⟨x,m,b0,b1,b2,b3,b4,b5,b6,b7,rfl,rfl,hl⟩:=HR.out k q HQ.out
      obtain⟨d0,d1,d2,d3,d4,d5,d6,d7,d8⟩:=hl wr (Below.trans HGW.out (HB.out.mono hw))
      have hbs:wr.cell? ⟨Bs,0,none⟩=some (.slice (some x) nq c):=(HB.out.cell (p:=⟨Bs,0,none⟩) hBn).trans HBS.out
      have hlen:pre.length<qs.length:=by
        have:=congrArg List.length HP.out
        rw[List.length_map,List.length_reverse,List.length_drop]at this
        have:=HN.out
        omega
      obtain⟨fn,tmps,assign,body,hy,hR⟩:=HY.out pre ⟨k,m,b0,b1,b2,b3,b4,b5,b6,b7⟩ wr HJ.out hlen
      simp only[P9.encs]at hy
      have hk1:((k+1:Nat):Int)-1=(k:Int):=by omega
      have hkn:(k:Int)<(nq:Int):=by omega
      rw[hk1]
      clear hl
      gi_wp2
      refine hR.mono ?_
      rintro e W3(⟨rfl,hJ3,hk3⟩|⟨rfl,hJx3⟩)
      · gi_wp2
        go_roundw
        case rel=>exact⟨k,_,by omega,by go_num,(show Xo _ from by rw[Yx,HP.out,zjw qs k _ HQ.out];rfl),hJ3,(show Xo _ from HB.out.trans hk3)⟩
        case measure=>simp[intOf]
      · gi_wp2
        refine bodyPost_ret (results_none rfl _ _ _) rfl ?_
        refine⟨⟨_,rfl⟩,.inr ⟨_,?_,hJx3⟩⟩
        rw[List.map_append,HP.out]
        have:=zoN qs k
        rw[zjw qs k _ HQ.out]at this
        exact this
theorem zqx(F:Fence)(n:Nat)(hF:F.fn 211)(hro:F.round=Xb)(a:Option Addr)(len cap:Nat)(w:Xn):
    CallsIn F n Tryz.prog 211 #[.slice a len cap] w fun e w'=>e=.returned (.func (.func 234) #[] #[.pointer (some ⟨w.heap.size,0,none⟩)])/\w'=w.alloc (.cells #[.slice a len cap] 36):=by
  refine callsIn_of_wp Tryz.func211 rfl hF ?_ hro
  simp only[Tryz.ntmps211,List.size_toArray,List.length_cons,List.length_nil,Nat.reduceAdd,Nat.reduceSub,Array.replicate_succ,Array.replicate_zero,List.push_toArray,List.append_toArray,List.nil_append,List.cons_append]
  gi_wp2
  go_ret
  exact⟨rfl,rfl⟩
theorem zlc(F:Fence)(n:Nat)(hF:F.fn 234)(hro:F.round=Xb)(hn:1<=n)(Bs n₀:Nat)(w0 a)(c:Nat)(qs:List (Int×List Int))(hr:zdy w0 a qs)(hbig:qs.length<=9223372036854775807)(w:Xn)(hg:zc w0 w)(hBs:Bs<n₀)(hn₀:n₀=w.heap.size)
    (hc:w.cell? ⟨Bs,0,none⟩=some (.slice a qs.length c)):
    SeqStopsK F n Tryz.prog 234 #[.pointer (some ⟨Bs,0,none⟩)] P9.encs (Below n₀) (fun ys=>ys.map P9.q=qs.reverse) (fun pre=>pre.map P9.q<+:qs.reverse) qs.length w:=fun l J Jx W hW _ _ hY h0=>by
  subst hn₀
  exact zo3 F n hF hro hn l Bs w.heap.size w0 a c qs hr hbig (Below.size hg) hBs J Jx hY W (hg.trans hW) ((hW.cell (p:=⟨Bs,0,Xb⟩) hBs).trans hc) h0
end
section
attribute [local go_sem] Oper.semAt_some
theorem zfC{a:Type}(B:Nat)(f:a->List Xq):Own (fun s W=>Box W B (f s)):=fun s X Y a c d a=>by
 have b:=c.lt;obtain⟨t,h⟩:=c;refine⟨t,?_⟩;rw[d.block B b (fun e=>?_)]
 ·exact h
 obtain⟨b,b,c⟩:=a B e.symm;rw[h]at b;cases b;cases c
theorem Box.put{D:Nat}{cs:List Xq}{o:Obj}(h:Box W b cs)(o':Obj)(hD:W.heap[D]?=Xa o)(ho:o.isCells=Xd):Box (W.putObj D o') b cs:=
 zfC b (fun _:Unit=>cs) () W _ (Xa D) h (grownBy_putObj' W D o') (fun r e=>by cases e;exact⟨o,hD,ho⟩)
theorem jH{A B:Xn}(h:KeepsOthers A B)(a u):KeepsOthers A (B.setCell a u):=h.trans (KeepsOthers.setCell _ _ _)
theorem zmL{a:List (Int×List Int)}{b:List P9}{m:Int}(h:b.map P9.q=a.reverse)(c:∀x∈b,x.m≠m):a.reverse.find? (fun q=>q.1==m)=Xb:=by grind[Of,Xy.1,P9.q]
theorem zmK{b:List (Int×List Int)}{a:List P9}{x:P9}{m:Int}(h:(a++[x]).map P9.q<+:b.reverse)(c:∀y∈a,y.m≠m)(d:x.m=m):b.reverse.find? (fun q=>q.1==m)=Xa x.q:=by
 obtain⟨t,b⟩:=h;rw[<-b,Yx,Oj,Ok];have b:(a.map P9.q).find? (fun q=>q.1==m)=Xb:=by grind[Of,Xy.1,P9.q]
 rw[b]
 simp[P9.q,d]
theorem qy{n:Nat}{a:List (Int×List Int)}{m:Int}(h:zn n a m=0):zD n a=0/\∃i:Nat,m=(i:Int)/\i<n:=by grind[zn,zD,ZF,Int.eq_ofNat_of_zero_le]
theorem zi3(d)(l:List (List Int))(p:List (Int×List Int))(m:Int)(w)(di:QG w d l p):
  Xp prog 184 #[d,I6 m] w fun e w'=>e=Xl (Xm #[Xi (pgc (qw l p m)).toArray,I6 (zn l.length p m)])/\zc w w':=by
 obtain⟨du,au,rfl,bq,bs⟩:=di;have ds:=dD bq;have ci:=dD bs;obtain⟨X,Y,rfl,aj⟩:=bq.rows;obtain⟨s,t,rfl,ak⟩:=bs.rows;have ay:=dD aj;have az:=dD ak;clear bq bs aj ak;have K:Xo (qw l p m=if zn l.length p m=0 then(match p.reverse.find? (fun au=>au.1==m)with|some au=>au.2|none=>l.getD m.toNat zS)else zS):=rfl
 obtain⟨F,h⟩:=kB ((((w.alloc (Xk #[O X l.length Y,O s p.length t] 38)).alloc (Xk #[I6 m] 3)).alloc (Xk #[U8 0,U8 0,U8 0,U8 0,U8 0,U8 0,U8 0,U8 0] 91)).alloc (Xk #[I6 0] 47));have H:Xo (zc w F):=dD<|by rw[<-h];exact(((za _ _).trans (za _ _)).trans (za _ _)).trans (za _ _)
 have a5:Xo (Box F w.heap.size [O X l.length Y,O s p.length t]):=dD<|by rw[<-h];exact(((Box.aD w [O X l.length Y,O s p.length t] _ rfl).alloc _).alloc _).alloc _
 have ao:Xo (Box F (w.heap.size+1) [I6 m]):=dD<|by rw[<-h];exact((Box.aD _ [I6 m] _ Sm).alloc _).alloc _
 have a6:Xo (Box F (w.heap.size+1+1) [U8 0,U8 0,U8 0,U8 0,U8 0,U8 0,U8 0,U8 0]):=dD<|by rw[<-h];exact(Box.aD _ [U8 0,U8 0,U8 0,U8 0,U8 0,U8 0,U8 0,U8 0] _ Sm).alloc _
 have V:Xo (Box F (w.heap.size+1+1+1) [I6 0]):=dD<|by rw[<-h];exact Box.aD _ [I6 0] _ Sm
 have i:=QI X l.length Y (O s p.length t) p m F (ci.aA H);have U:p.length<=9223372036854775807:=Hm ci.2.2
 obtain⟨am,cj⟩:=kA (zn l.length p m);rw[cj.out]at i K⊢;obtain⟨bv,a1⟩:=kA l.length;obtain⟨nq,a2⟩:=kA p.length;rw[a1.out,a2.out]at i h a5⊢;have a3:=dD h;clear h
 by_cases E:am=0
 ·subst E;rw[kE rfl]at K;refine(callsIn_wide (n:=5)).1 ?_;refine callsIn_of_wp_marks func184 rfl trivial ?_ rfl;simp only[ntmps184,Yp,Xv,Ye,Nat.reduceAdd,Nat.reduceSub,Oa,Ob,Ol,Oc,Yj,Yi]
  gi_wp2_with (first
   |(
    refine⟨trivial,?_⟩;gi_at_call 210;rw[a3.out];refine(callsIn_wide.2 i).mono ?_;rintro e B⟨rfl,j⟩;have r:Xo (zc F B):=j;have dc:=(a5.aA j).c 0 rfl;have af:=(a5.aA j).c 1 rfl)
   |(
    refine⟨trivial,?_⟩;gi_at_call 211;refine(zqx Fence.wide _ trivial rfl _ _ _ _).mono ?_;rintro e q⟨rfl,ag⟩;have A:Xo (q=B.alloc (Xk #[O s nq t] 36)):=ag;clear ag))
  have g:Xo (zc w q):=dD<|by rw[A.out];exact(H.trans r).trans (za _ _)
  have c:Xo (zc F q):=dD<|by rw[A.out];exact r.trans (za _ _)
  have b8:Xo (w.heap.size+4<=B.heap.size/\q.heap.size=B.heap.size+1):=dD<|⟨by have cn:=bS r.out;have co:=V.lt;omega,by rw[A.out];simp⟩
  have bS:Box q B.heap.size [O s nq t]:=by rw[A.out];exact Box.aD _ [O s nq t] _ rfl
  have cr:=bS.c 0 rfl;obtain⟨_,Z,ai,u⟩:=qy cj.out;have cu:Xo (m=(Z:Int)/\Z<l.length):=⟨ai,u⟩;clear dc af i j ai u bS;refine wpIn_rangeFunc_ownH rfl Dc (gf:=234) (lb:=#[Xj (Xa ⟨B.heap.size,0,Xb⟩)]) rfl trivial (enters_of func234 Kr rfl)
   (zlc Fence.wide 4 trivial rfl Dc B.heap.size q.heap.size w s t p az U q g (Hm b8.2) rfl (Rx a2.out cr)) belowK_t (belowK_b (nR _)) (bR _ _) (fun _=>rfl)
   (fun k W=>(∀x∈k,x.m≠m)/\Below q.heap.size q W)
   (fun bb k W=>(bb=.ret/\∃v b,k=v++[b]/\(∀x∈v,x.m≠m)/\b.m=m/\Box W (w.heap.size+1+1) [U8 b.b0,U8 b.b1,U8 b.b2,U8 b.b3,U8 b.b4,U8 b.b5,U8 b.b6,U8 b.b7]/\Box W (w.heap.size+1+1+1) [I6 0])/\Below w.heap.size w W)
   (OwnFrom.and (fun dn a4 a7 y al ah E=>al) (ownFrom_below (nR _) (nR _)))
   (fun bb=>OwnFrom.and (Own.from (fun dn a4 a7 y al ah E=>by
    obtain⟨dh,v,b,af,bl,bm,dd,de⟩:=al;exact⟨dh,v,b,af,bl,bm,zfC _ (fun _:Unit=>_) () a4 a7 y dd ah E,zfC _ (fun _:Unit=>_) () a4 a7 y de ah E⟩) _) (ownFrom_below (nR _) (bS g)))
   ⟨Sm,bR _ _⟩
   (fun x ba W=>∃G,q.heap.size<=G/\Box W G [I6 x.m,U8 x.b0,U8 x.b1,U8 x.b2,U8 x.b3,U8 x.b4,U8 x.b5,U8 x.b6,U8 x.b7]/\
    ba={tmps:=#[Xi #[O X bv Y,O s nq t],I6 m,Xj (Xa ⟨w.heap.size,0,Xb⟩),Xj (Xa ⟨w.heap.size+1,0,Xb⟩),Xj (Xa ⟨w.heap.size+1+1,0,Xb⟩),Xj (Xa ⟨w.heap.size+1+1+1,0,Xb⟩),I6 0,undef,Xj (Xa ⟨G,0,Xb⟩),
     Xi #[O X bv Y,O s nq t],I6 m,I6 0,I6 0,Xh Xd,undef,undef,Xj (Xa ⟨w.heap.size,1,Xb⟩),O s nq t,.func (.func 234) #[] #[Xj (Xa ⟨B.heap.size,0,Xb⟩)],I6 x.i,
     Xi #[I6 x.m,U8 x.b0,U8 x.b1,U8 x.b2,U8 x.b3,U8 x.b4,U8 x.b5,U8 x.b6,U8 x.b7],undef,undef,undef,undef,undef,undef,undef,undef,undef,undef,undef],defers:=[]})
   (fun x ba _ a4 a7 y al ah E=>by obtain⟨G,cn,co,df⟩:=al;exact⟨G,cn,zfC G (fun _:Unit=>_) () a4 a7 y co ah (fun am e=>(E am e).2),df⟩)
   ?assign ?body ?done ?stop
  case assign=>
   rintro dm k x W dt⟨S,f⟩C;simp only[P9.encs]
   gi_wp2
   exact C _ _ ((KeepsOthers.alloc _ _).from _) ((bR _ W).alloc f.size _) ⟨S,f.alloc f.size _⟩ ⟨W.heap.size,f.size,Box.aD W [I6 x.m,U8 x.b0,U8 x.b1,U8 x.b2,U8 x.b3,U8 x.b4,U8 x.b5,U8 x.b6,U8 x.b7] _ rfl,rfl⟩
  case body=>
   rintro dm k x ba W br⟨dw,bt⟩⟨S,f⟩⟨G,dg,z,rfl⟩dj;have b9:=(ao.aA c).below f ((ao.aA c).lt);have N:=(a6.aA c).below f ((a6.aA c).lt);have P:=(V.aA c).below f ((V.aA c).lt);have L:=dD N;have M:=dD P;have I:=dD f;obtain⟨bc,bd,be,bf,bg,bh,bi,bj⟩:=N.c8;have bn:=N.f;have bk:=P.c 0 rfl;have bo:=P.f 0;have dv:=b9.c 0 rfl;have dx:=z.c 0 rfl;have dy:=z.c 1 rfl;have dz:=z.c 2 rfl;have e8:=z.c 3 rfl;have e9:=z.c 4 rfl;have ea:=z.c 5 rfl;have eb:=z.c 6 rfl;have ec:=z.c 7 rfl;have ed:=z.c 8 rfl;have ch:=dD S;clear S z f bt
   by_cases ar:x.m=m
   ·have bu:(x.m==m)=Xc:=Si ar
    gi_wp2
    refine⟨KeepsOthers.from ?_ _,⟨rfl,k,x,rfl,ch,ar,?_,?_⟩,?_⟩
    ·iterate 9 (refine jH ?_ _ _)
     exact KeepsOthers.refl _
    ·exact((((((((L.set 0 _).set 1 _).set 2 _).set 3 _).set 4 _).set 5 _).set 6 _).set 7 _).other Sm _
    ·refine Box.set (cs:=[I6 0]) ?_ 0 _;iterate 8 (refine Box.other ?_ Sm _)
     exact M.out
    iterate 9 (refine zG ?_ (by simp;omega) _)
    exact Below.trans g (I.mono (bS g))
   have bu:(x.m==m)=Xd:=Si ar
   gi_wp2
   exact⟨KeepsFrom.refl _ _,bR _ _,fun dp dl=>(Yc.1 dl).elim (ch dp) (fun e=>by simp at e;subst e;exact ar),I⟩
  case done=>
   rintro an ef W bp ap⟨S,f⟩C;have cv:=(a5.aA c).below f ((a5.aA c).lt);have b9:=(ao.aA c).below f ((ao.aA c).lt);have N:=(a6.aA c).below f ((a6.aA c).lt);have P:=(V.aA c).below f ((V.aA c).lt);have L:=dD N;have M:=dD P;have a0:=dD<|Below.trans g (f.mono (bS g))
   have ct:=zmL ap S;obtain⟨rfl,u⟩:=cu.out;obtain⟨bw,T⟩:∃bw,l[Z]?=Xa bw:=⟨_,gE u⟩;obtain⟨ee,a8,a9,Q,R,aa,ac,ad,ae,rfl,rfl,br⟩:=ay.out Z bw T;obtain⟨cw,cx,cy,cz,d8,d9,da,db⟩:=br W a0.out;have cp:(Z:Int)<(bv:Int):=by rw[<-a1.out];omega
   rw[ct,show l.getD (Int.toNat (Z:Int)) zS=[a8,a9,Q,R,aa,ac,ad,ae]from by simp[T]]at K
   have dq:=cv.c 0 rfl;have dr:=b9.c 0 rfl;obtain⟨bc,bd,be,bf,bg,bh,bi,bj⟩:=N.c8;have bn:=N.f;have bk:=P.c 0 rfl;have bo:=P.f 0;have ax:=dD C;clear br T u ap S C f
   gi_wp2
   clear bc bd be bf bg bh bi bj bk bn bo dq dr cw cx cy cz d8 d9 da db;have D:=(show KeepsOthers W _ from jH (jH (jH (jH (jH (jH (jH (jH (jH (KeepsOthers.refl W) ⟨w.heap.size+1+1,0,Xb⟩ (U8 a8)) ⟨w.heap.size+1+1,1,Xb⟩ (U8 a9)) ⟨w.heap.size+1+1,2,Xb⟩ (U8 Q)) ⟨w.heap.size+1+1,3,Xb⟩ (U8 R)) ⟨w.heap.size+1+1,4,Xb⟩ (U8 aa)) ⟨w.heap.size+1+1,5,Xb⟩ (U8 ac)) ⟨w.heap.size+1+1,6,Xb⟩ (U8 ad)) ⟨w.heap.size+1+1,7,Xb⟩ (U8 ae)) ⟨w.heap.size+1+1+1,0,Xb⟩ (I6 0)).same an _ ax rfl
   refine⟨Sm,.inl ⟨_,_,rfl,run_takeDeferred D,?_⟩⟩
   have av:=(((((((((L.set 0 (U8 a8)).set 1 (U8 a9)).set 2 (U8 Q)).set 3 (U8 R)).set 4 (U8 aa)).set 5 (U8 ac)).set 6 (U8 ad)).set 7 (U8 ae)).other (a:=⟨w.heap.size+1+1+1,0,Xb⟩) Sm (I6 0)).put (.deferred Xb) D rfl
   have aw:=((((((((((M.other (a:=⟨w.heap.size+1+1,0,Xb⟩) Sm (U8 a8)).other (a:=⟨w.heap.size+1+1,1,Xb⟩) Sm (U8 a9)).other (a:=⟨w.heap.size+1+1,2,Xb⟩) Sm (U8 Q)).other (a:=⟨w.heap.size+1+1,3,Xb⟩) Sm (U8 R)).other (a:=⟨w.heap.size+1+1,4,Xb⟩) Sm (U8 aa)).other (a:=⟨w.heap.size+1+1,5,Xb⟩) Sm (U8 ac)).other (a:=⟨w.heap.size+1+1,6,Xb⟩) Sm (U8 ad)).other (a:=⟨w.heap.size+1+1,7,Xb⟩) Sm (U8 ae)).set 0 (I6 0)).put (.deferred Xb) D rfl)
   obtain⟨bx,bz,c9,ca,cc,cd,ce,cf⟩:=av.c8;have cg:=aw.c 0 rfl;refine⟨Xm #[Xi #[U8 a8,U8 a9,U8 Q,U8 R,U8 aa,U8 ac,U8 ad,U8 ae],I6 0],by simp[results,Tryz.f184,go_sem,bx,bz,c9,ca,cc,cd,ce,cf,cg],?_,?_⟩
   ·rw[K.out];rfl
   refine Below.trans ?_ (belowK_b (w:=q) (n₀:=w.heap.size) (bS g) _ an _ _ bp D rfl rfl);iterate 9 (refine zG ?_ (by simp;omega) _)
   exact a0.out
  rintro an bb k W bp ap⟨⟨rfl,v,b,af,bl,bm,Q,R⟩,f⟩C
  gi_wp2
  have av:=Q.put (.deferred Xb) C rfl;have aw:=R.put (.deferred Xb) C rfl;obtain⟨bx,bz,c9,ca,cc,cd,ce,cf⟩:=av.c8;have cg:=aw.c 0 rfl;refine⟨Sm,.inl ⟨_,_,rfl,run_takeDeferred C,?_⟩⟩
  refine⟨Xm #[Xi #[U8 b.b0,U8 b.b1,U8 b.b2,U8 b.b3,U8 b.b4,U8 b.b5,U8 b.b6,U8 b.b7],I6 0],by simp[results,Tryz.f184,go_sem,bx,bz,c9,ca,cc,cd,ce,cf,cg],?_,?_⟩
  ·subst af;rw[K.out,zmK ap bl bm];rfl
  exact Below.trans f (belowK_b (w:=q) (n₀:=w.heap.size) (bS g) W an _ _ bp C rfl rfl)
 have dk:(am !=0)=Xc:=Si E
 rw[kF E]at K;rw[K.out];refine(callsIn_wide (n:=5)).1 ?_;refine callsIn_of_wp_marks func184 rfl trivial ?_ rfl;simp only[ntmps184,Yp,Xv,Ye,Nat.reduceAdd,Nat.reduceSub,Oa,Ob,Ol,Oc,Yj,Yi]
 gi_wp2_with (
  refine⟨trivial,?_⟩;gi_at_call 210;rw[a3.out];refine(callsIn_wide.2 i).mono ?_;rintro e B⟨rfl,j⟩;have ck:=dD (a6.aA j);have cl:=dD (V.aA j);obtain⟨bc,bd,be,bf,bg,bh,bi,bj⟩:=ck.c8;have bn:=ck.f;have bk:=cl.c 0 rfl;have bo:=cl.f 0)
 refine⟨Xm #[Xi #[U8 0,U8 0,U8 0,U8 0,U8 0,U8 0,U8 0,U8 0],I6 am],by simp[results,Tryz.f184,go_sem, *],rfl,?_⟩
 have r:=H.trans j;iterate 9 (refine zG ?_ (by simp;omega) _)
 exact r
end
end
section
open Go.RowKit
theorem zu.block{base:Nat}{w:Xn}{n cap:Nat}{a:List (Int×List Int)}(h:zu base w (O (Xa ⟨g,0,Xb⟩) n cap) a):
  n=a.length/\base<=g/\a.length<=cap/\cap<=maxLen/\∃cur,w.heap[g]?=Xa (Xk cur 117 (0,0))/\cur.size=cap*9/\cur.toList.take (a.length*9)=a.flatMap ptc:=by
 rcases h.1.2 with⟨b,_⟩|⟨a,a,cur,b,a,a,a,a,a,a⟩
 ·cases b
 grind
theorem zu.mk{base:Nat}{w:Xn}{cap:Nat}{b:List (Int×List Int)}{cur:Array Xq}(d:base<=g)(e:w.heap[g]?=Xa (Xk cur 117 (0,0)))(h:b.length<=cap)(f:cap<=maxLen)(i:cur.size=cap*9)(j:cur.toList.take (b.length*9)=b.flatMap ptc)
  (c:∀q∈b,q.2.length=8)(a:b.length*16<=140737488355328):zu base w (O (Xa ⟨g,0,Xb⟩) b.length cap) b:=
 ⟨⟨jf b fun q b=>by rw[zcS,c q b],.inr ⟨g,cap,cur,rfl,d,e,h,f,i,j⟩⟩,c,a⟩
theorem zai{w:Xn}{rest:List Oper}{a:Act}(c:o.guard=Xb)(s x)(D:o.op=.call {callee:=.builtin .append,args:=#[s,x],argTypes:=#[36,36]})
  (base g cap n:Nat)(j:Int×List Int)(r:List (Int×List Int))(b:zu base w (O (Xa ⟨g,0,Xb⟩) n cap) (j::r))(E:a.eval s=O (Xa ⟨g,0,Xb⟩) 0 cap)(m:Nat)(F:a.eval x=O (Xa ⟨g,9,Xb⟩) r.length m)
  (y:∀w',zu base w' (O (Xa ⟨g,0,Xb⟩) r.length cap) r->w.grownBy w' (Xa g)->w'.heap.size=w.heap.size->wpList prog ops Q rest (a.put o.dst (O (Xa ⟨g,0,Xb⟩) r.length cap)) w'):wpList prog ops Q (o::rest) a w:=by
 refine wpList_plain c fun K z=>?_
 obtain⟨c,A,c,C,e,i,d,v⟩:=b.block;obtain⟨G,B,d,l,d⟩:=info_parts zrT;have h:=b.2.1;have f:(r.flatMap ptc).length=r.length*9:=jf r fun q k=>by rw[zcS,h q (by simp[k])]
 have d:(ptc j).length=9:=by rw[zcS,h j Sm]
 simp only[Xv]at c v;have c:∀j u,(r.flatMap ptc)[j]?=Xa u->w.cell? ((⟨g,9,Xb⟩:Addr).add j)=Xa u:=fun j u t=>by
  have p:j<r.length*9:=by rw[<-f];exact(gS.1 t).1
  rw[Yk];have p:(e.toList.take ((r.length+1)*9))[9+j]?=Xa u:=by
   rw[v,List.flatMap_cons,aR Wm,d]
   simpa using t
  rw[List.getElem?_take_of_lt Wm]at p
  simp only[World.cell?,i]
  simpa using p
 have d:=run_append_room (P:=prog) w 36 o.type 117 G underlying36 B g 0 cap e i ⟨g,9,Xb⟩ r.length m (r.flatMap ptc) (Rx l f) c (qO zeT r) Wm (by rw[f];simp;omega)
 simp only[Nat.zero_mul,Yg,Yj,zA]at d;unfold Oper.wp execOp;simp only[D,resolve,invoke,builtin,Xt,Yb,rA,Yu,mP,Yw,E,F,d];refine z _ _ (y _ (zu.mk A (setRow_heap w g e _ 117 _ i) Wm C ?_ ?_ (fun q k=>h q (by simp[k])) (by have:=b.2.2;simp at this;omega)) (jU _ _ _) (by simp[World.setRow]))
 ·simp[f];omega
 rw[<-f];simp
theorem zeE(n:Nat):∀u∈(Builtin.zeroCells #[I6 0,U8 0,U8 0,U8 0,U8 0,U8 0,U8 0,U8 0,U8 0] n).toList,u.oneCell'=Xc:=fun u a=>by
 simp only[Builtin.zeroCells,Array.toList_map,Xy,Array.toList_range,Yl]at a;obtain⟨i,_,rfl⟩:=a;have a:i%9<9:=Nat.mod_lt _ Dc
 show(#[I6 0,U8 0,U8 0,U8 0,U8 0,U8 0,U8 0,U8 0,U8 0]:Array Xq)[i%9]!.oneCell'=Xc
 generalize i%9=k at a
 match k,a with
 |0,_=>rfl
 |1,_=>rfl
 |2,_=>rfl
 |3,_=>rfl
 |4,_=>rfl
 |5,_=>rfl
 |6,_=>rfl
 |7,_=>rfl
 |8,_=>rfl
theorem zcd{w:Xn}{rest:List Oper}{a:Act}(d:o.guard=Xb)(x)(t:o.op=.call {callee:=.builtin .clear,args:=#[x],argTypes:=#[36]})
  (base g cap n:Nat)(e:List (Int×List Int))(b:zu base w (O (Xa ⟨g,0,Xb⟩) n cap) e)(c:Addr)(k l:Nat)(u:a.eval x=O (Xa c) k l)(h:e.length+k<=cap)(f:0<k->c=⟨g,e.length*9,Xb⟩)
  (q:∀w',zu base w' (O (Xa ⟨g,0,Xb⟩) n cap) e->w.grownBy w' (Xa g)->w'.heap.size=w.heap.size->wpList prog ops Q rest (a.put o.dst (Xm #[])) w'):wpList prog ops Q (o::rest) a w:=by
 refine wpList_plain d fun K r=>?_
 cases k with
 |zero=>
  have d:(Builtin.clear_ #[36] o.type #[O (Xa c) 0 l]).run prog w=.ok (Xm #[]) w:=by
   simp[Builtin.clear_,run_underlying underlying36]
  unfold Oper.wp execOp;simp only[t,resolve,invoke,builtin,Xt,Yb,rA,Yu,mP,Yw,u,d];exact r _ _ (q w b (World.grownBy.rfl' _ _) rfl)
 |succ k=>
  have c:=f Wm
  subst c;obtain⟨z,v,p,y,c,s,i,A⟩:=b.block;obtain⟨Z,m⟩:=kB ((Builtin.zeroCells #[I6 0,U8 0,U8 0,U8 0,U8 0,U8 0,U8 0,U8 0,U8 0] (k+1)).toList);have j:Z.length=(k+1)*9:=by
   rw[<-m,Array.length_toList,size_zeroCells];rfl
  have f:∀h∈Z,h.oneCell'=Xc:=by rw[<-m];exact zeE _
  have h:=run_storeCells_at prog g (e.length*9) 117 Z 0 c w s (by rw[j,i];omega) f
  simp only[Nat.add_zero]at h;have d:(Builtin.clear_ #[36] o.type #[O (Xa ⟨g,e.length*9,Xb⟩) (k+1) l]).run prog w=.ok (Xm #[]) (w.setRow g (c.toList.take (e.length*9)++Z++c.toList.drop (e.length*9+Z.length)).toArray):=by
   simp only[Builtin.clear_]
   simp[run_underlying underlying36,Tryz.zeroValue117,Value.cells,m,h]
  unfold Oper.wp execOp;simp only[t,resolve,invoke,builtin,Xt,Yb,rA,Yu,mP,Yw,u,d];subst z;have d:c.toList.length=cap*9:=Si i
  refine r _ _ (q _ (zu.mk v (setRow_heap w g c _ 117 _ s) p y ?_ ?_ b.2.1 b.2.2) (jU _ _ _) (by simp[World.setRow]))
  ·simp only[Yp,lA,Yv,List.length_drop,j,d];omega
  rw[Oj,List.take_left' (by rw[Yv,d];omega)]
  exact A
theorem zaz{a b c:Xn}(h:zc a b)(k:b.grownBy c (Xa g)):a.grownBy c (Xa g):=
 ⟨k.os.trans h.os,k.tape.trans h.tape,k.output.trans h.output,nT h.size k.size,fun i e d=>(k.block i (Xu e h.size) d).trans (h.block i e)⟩
theorem zgY(base g cap:Nat)(j:Int×List Int)(r:List (Int×List Int))(w:Xn)(b:zu base w (O (Xa ⟨g,0,Xb⟩) (r.length+1) cap) (j::r))(l:1<=r.length)(f:r.length<=400):
  Xp prog 212 #[O (Xa ⟨g,0,Xb⟩) (r.length+1) cap,I6 0,I6 1] w fun e w'=>e=Xl (O (Xa ⟨g,0,Xb⟩) r.length cap)/\zu base w' (O (Xa ⟨g,0,Xb⟩) r.length cap) r/\w.grownBy w' (Xa g):=by
 obtain⟨_,_,a,c,_⟩:=b.block;have i:=dD b;simp only[Xv]at a;obtain⟨k,d⟩:=kA r.length;have h:cap<=9223372036854775807:=by simpa[maxLen]using c
 rw[d.out]at a l f i⊢;clear b c;have b:¬cap=1:=Wm
 have b:((k+1:Nat):Int)=(k:Int)+1:=Wm
 have b:(k:Int)+1<=(cap:Int):=Wm
 have b:(1:Int)<=(k:Int):=Wm
 go_enter func212,ntmps212
 go_wp2;have f:Nonempty (zf w):=⟨⟨_,zc.refl _⟩⟩;refine jc 6 [] zU Kr rfl rfl Dc Sm Sm ?_
 simp only[Yr,Ys];iterate 6 refine ze ?_
 refine zH fun w' c _=>?_
 have b:=dD (i.aA c);have l:=dD c;clear c f
 go_wp2_with(first
  |(refine zai rfl (.tmp 22) (.tmp 25) rfl base g cap (k+1) j r b rfl (cap-1) (Rr d.out) ?_;intro h c b f;have j:Xo (zu base h (O (Xa ⟨g,0,Xb⟩) r.length cap) r):=c;have i:Xo (w'.grownBy h (Xa g)):=b;clear c b f;rw[d.out])
  |(refine zcd rfl (.tmp 31) rfl base g cap _ r j _ 1 _ rfl (Rx d.out a) (fun _=>by rw[d.out]) ?_;intro f b a c;have k:Xo (zu base f (O (Xa ⟨g,0,Xb⟩) r.length cap) r):=b;have j:Xo (h.grownBy f (Xa g)):=a;clear b a c))
 go_ret;exact⟨rfl,Ry d.out k,zaz l (je i j)⟩
theorem zs.beside{base:Nat}{w:Xn}{a c:Xq}{b:List (List Int)}{d:List (Int×List Int)}(h:zs base w a b)(k:zu base' w c d)(i:w.grownBy w' c.ownBlock):zs base w' a b:=by
 refine⟨⟨h.1.1,?_⟩,h.2⟩
 rcases h.1.2 with d|⟨g,a,b,rfl,e,c,f⟩
 ·exact .inl d
 refine .inr ⟨g,a,b,rfl,e,?_,f⟩;rw[i.block g (aS.1 c).1 (fun e=>?_)]
 ·exact c
 rcases k.1.2 with⟨rfl,_⟩|⟨a,a,a,rfl,_,a,_⟩
 ·cases e
 simp only[Value.ownBlock,Option.some.injEq]at e
 grind
theorem zu.beside{base:Nat}{w:Xn}{a c:Xq}{d:List (List Int)}{b:List (Int×List Int)}(k:zu base' w c b)(h:zs base w a d)(i:w.grownBy w' a.ownBlock):zu base' w' c b:=by
 refine⟨⟨k.1.1,?_⟩,k.2⟩
 rcases k.1.2 with d|⟨g,a,b,rfl,e,c,f⟩
 ·exact .inl d
 refine .inr ⟨g,a,b,rfl,e,?_,f⟩;rw[i.block g (aS.1 c).1 (fun e=>?_)]
 ·exact c
 rcases h.1.2 with⟨rfl,_⟩|⟨a,a,a,rfl,_,a,_⟩
 ·cases e
 simp only[Value.ownBlock,Option.some.injEq]at e
 grind
theorem zu.lt{base:Nat}{w:Xn}{v:Xq}{a:List (Int×List Int)}(h:zu base w v a):∀g,v.ownBlock=Xa g->base<=g/\g<w.heap.size:=h.1.lt
theorem zs.lt{base:Nat}{w:Xn}{v:Xq}{a:List (List Int)}(h:zs base w v a):∀g,v.ownBlock=Xa g->base<=g/\g<w.heap.size:=h.1.lt
theorem zu.ne{base:Nat}{w:Xn}{v:Xq}{a:List (Int×List Int)}(h:zu base w v a){cs:List Xq}(d:zg w b 38 cs):∀g,v.ownBlock=Xa g->b≠g:=fun g a e=>by
 subst e
 rcases h.1.2 with⟨rfl,_⟩|⟨c,c,c,rfl,_,c,_⟩
 ·cases a
 simp only[Value.ownBlock,Option.some.injEq]at a;subst a;rw[d]at c;cases c
theorem zs.ne{base:Nat}{w:Xn}{v:Xq}{a:List (List Int)}(h:zs base w v a){cs:List Xq}(d:zg w b 38 cs):∀g,v.ownBlock=Xa g->b≠g:=fun g a e=>by
 subst e
 rcases h.1.2 with⟨rfl,_⟩|⟨c,c,c,rfl,_,c,_⟩
 ·cases a
 simp only[Value.ownBlock,Option.some.injEq]at a;subst a;rw[d]at c;cases c
theorem zs.aQ{base:Nat}{w:Xn}{v:Xq}{b:List (List Int)}(h:zs base w v b){a:Addr}(c:∀g,v.ownBlock=Xa g->a.block≠g)(u):zs base (w.setCell a u) v b:=⟨ZC h.1 c u,h.2⟩
theorem zu.aQ{base:Nat}{w:Xn}{v:Xq}{b:List (Int×List Int)}(h:zu base w v b){a:Addr}(c:∀g,v.ownBlock=Xa g->a.block≠g)(u):zu base (w.setCell a u) v b:=⟨ZC h.1 c u,h.2⟩
theorem zs.form{base:Nat}{w:Xn}{v:Xq}{b:List (List Int)}(h:zs base w v b):∃a c,v=O a b.length c:=by
 obtain⟨a,c,b,_⟩:=h.at.rows
 grind
theorem zu.form{base:Nat}{w:Xn}{v:Xq}{b:List (Int×List Int)}(h:zu base w v b):∃a c,v=O a b.length c:=by
 obtain⟨a,c,b,_⟩:=h.at.rows
 grind
theorem zu.snoc{base:Nat}{w:Xn}{v:Xq}{a:List (Int×List Int)}{q:Int×List Int}(h:w.ownsRow base 117 9 v (a.length+1) (a.flatMap ptc++ptc q))(c:∀x∈a,x.2.length=8)(d:q.2.length=8)(b:(a.length+1)*16<=140737488355328):zu base w v (a++[q]):=by
 refine⟨Si h,fun x a=>?_,Si b⟩
 grind
theorem zmO{base d R:Nat}{w:Xn}{c b:Xq}{f:List (List Int)}{g:List (Int×List Int)}{cs:List Xq}(hp:zs base w c f)(i:zu base w b g)(h:zg w d 38 cs)(e:R<base)(j:base'<=base):
  zZ base' (((w.setCell ⟨d,1,Xb⟩ b).setCell ⟨R,0,Xb⟩ c).setCell ⟨R,1,Xb⟩ b) (Xi #[c,b]) f g:=by
 have f:=((hp.aQ (a:=⟨d,1,Xb⟩) (hp.ne h) b).setCell (a:=⟨R,0,Xb⟩) e c).setCell (a:=⟨R,1,Xb⟩) e b;have g:=((i.aQ (a:=⟨d,1,Xb⟩) (i.ne h) b).setCell (a:=⟨R,0,Xb⟩) e c).setCell (a:=⟨R,1,Xb⟩) e b;exact zZ.base (zaE.new ⟨_,_,rfl,f,g⟩) j
theorem zu.head{base:Nat}{w:Xn}{n cap:Nat}{m b c d e f h i k:Int}{r:List (Int×List Int)}(l:zu base w (O (Xa ⟨g,0,Xb⟩) n cap) ((m,[b,c,d,e,f,h,i,k])::r)):
  w.cell? ⟨g,0,Xb⟩=Xa (I6 m)/\w.cell? ⟨g,1,Xb⟩=Xa (U8 b)/\w.cell? ⟨g,2,Xb⟩=Xa (U8 c)/\w.cell? ⟨g,3,Xb⟩=Xa (U8 d)/\w.cell? ⟨g,4,Xb⟩=Xa (U8 e)/\w.cell? ⟨g,5,Xb⟩=Xa (U8 f)/\w.cell? ⟨g,6,Xb⟩=Xa (U8 h)/\w.cell? ⟨g,7,Xb⟩=Xa (U8 i)/\w.cell? ⟨g,8,Xb⟩=Xa (U8 k):=by
 have a:∀(j:Nat)u,(((m,[b,c,d,e,f,h,i,k])::r).flatMap ptc)[j]?=Xa u->w.cell? ⟨g,j,Xb⟩=Xa u:=fun j u b=>by
  have:=l.1.cells rfl j u b;rwa[Yk,zA]at this
 exact⟨a 0 _ rfl,a 1 _ rfl,a 2 _ rfl,a 3 _ rfl,a 4 _ rfl,a 5 _ rfl,a 6 _ rfl,a 7 _ rfl,a 8 _ rfl⟩
def qJ(ps:List (List Int))(qs:List (Int×List Int)):List (List Int):=if qs.length=400 then ps.set (qs.headD (0,[])).1.toNat (qs.headD (0,[])).2 else ps
def qI(qs:List (Int×List Int))(m:Int)(p:List Int):List (Int×List Int):=(if qs.length=400 then qs.tail else qs)++[(m,p)]
def qR(ps:List (List Int))(qs:List (Int×List Int))(m:Int):List (List Int):=if zn ps.length qs m=0 then qJ ps qs else[]
def qQ(ps:List (List Int))(qs:List (Int×List Int))(m:Int)(p:List Int):List (Int×List Int):=if zn ps.length qs m=0 then qI qs m p else[]
theorem zlq(d)(b:List (List Int))(a:List (Int×List Int))(m:Int)(p:List Int)(hp:p.length=8)(w:Xn)(h:QG w d b a)(B:¬zn b.length a m=0):
  Xp prog 185 #[d,I6 m,Xi (pgc p).toArray] w fun e w'=>∃z,e=Xl (Xm #[z,I6 (zn b.length a m)])/\zZ w.heap.size w' z (qR b a m) (qQ b a m p)/\zc w w':=by
 obtain⟨f,q,r,s,t,u,x,y,rfl⟩:=zc4 p hp;have C:=dD h;obtain⟨c,c,rfl,g,c⟩:=h;have D:=dD c;obtain⟨j,l,rfl,_⟩:=g.rows;obtain⟨k,n,rfl,_⟩:=c.rows;clear g c hp
 show Xp prog 185 #[Xi #[O j b.length l,O k a.length n],I6 m,Xi #[U8 f,U8 q,U8 r,U8 s,U8 t,U8 u,U8 x,U8 y]] w _
 have A:Xo (qR b a m=if zn b.length a m=0 then qJ b a else[]):=rfl;have h:Xo (qQ b a m [f,q,r,s,t,u,x,y]=if zn b.length a m=0 then qI a m [f,q,r,s,t,u,x,y]else[]):=rfl;obtain⟨i,c⟩:=kB (((w.alloc (Xk #[O j b.length l,O k a.length n] 38)).alloc (Xk #[U8 f,U8 q,U8 r,U8 s,U8 t,U8 u,U8 x,U8 y] 91)).alloc (Xk #[eS,eS] 38));have g:Xo (zc w i):=show zc w i by rw[<-c];exact((za _ _).trans (za _ _)).trans (za _ _)
 have E:Xo (Box i w.heap.size [O j b.length l,O k a.length n]):=dD<|by rw[<-c];exact((Box.aD w [O j b.length l,O k a.length n] _ rfl).alloc _).alloc _
 have F:Xo (Box i (w.heap.size+1) [U8 f,U8 q,U8 r,U8 s,U8 t,U8 u,U8 x,U8 y]):=dD<|by rw[<-c];exact(Box.aD _ [U8 f,U8 q,U8 r,U8 s,U8 t,U8 u,U8 x,U8 y] _ Sm).alloc _
 have s:Xo (Box i (w.heap.size+1+1) [eS,eS]):=dD<|by rw[<-c];exact Box.aD _ [eS,eS] _ Sm
 have f:=QI j b.length l (O k a.length n) a m i (D.aA g);have q:∀W,zc i W->Xp prog 53 #[Xi #[O j b.length l,O k a.length n]] W fun e w'=>∃z,e=Xl z/\zaE W.heap.size w' z b a/\zc W w':=fun W i=>zcV _ b a W (C.aA (g.trans i))
 obtain⟨r,j⟩:=kA (zn b.length a m);rw[j.out]at f A h⊢;obtain⟨i,i⟩:=kA b.length;obtain⟨nq,b⟩:=kA a.length;rw[i.out,b.out]at f c E⊢;simp only[i.out,b.out]at q;have a:=dD c;clear c;have b:¬r=0:=fun e=>B (j.trans e)
 have c:(r !=0)=Xc:=Si b
 rw[kF b]at A h;rw[A.out,h.out]
 go_enter func185,ntmps185
 go_wp2_with(
  go_at_call 210;rw[a.out];refine f.mono ?_;rintro e a⟨rfl,a⟩
  have b:=s.aA a;obtain⟨c,c⟩:=b.k2;have c:=b.f)
 refine bodyPost_ret (v:=Xm #[Xi #[eS,eS],I6 r]) (by simp[results,Tryz.results185,go_sem, *]) rfl ⟨_,rfl,ze0 _ _,?_⟩
 have b:=g.trans a;iterate 2 (refine zG ?_ (by simp;omega) _)
 exact b
theorem zlp(d)(b:List (List Int))(a:List (Int×List Int))(m:Int)(p:List Int)(hp:p.length=8)(w:Xn)(c:QG w d b a)(H:zn b.length a m=0)(Q:¬a.length=400):
  Xp prog 185 #[d,I6 m,Xi (pgc p).toArray] w fun e w'=>∃D,e=Xl (Xm #[D,I6 (zn b.length a m)])/\zZ w.heap.size w' D (qR b a m) (qQ b a m p)/\zc w w':=by
 obtain⟨g,h,i,j,k,l,n,q,rfl⟩:=zc4 p hp;have C:=dD c;obtain⟨f,f,rfl,r,f⟩:=c;have x:=dD f;obtain⟨c,z,rfl,_⟩:=r.rows;obtain⟨y,A,rfl,_⟩:=f.rows;clear r f hp
 show Xp prog 185 #[Xi #[O c b.length z,O y a.length A],I6 m,Xi #[U8 g,U8 h,U8 i,U8 j,U8 k,U8 l,U8 n,U8 q]] w _
 have B:Xo (qR b a m=if zn b.length a m=0 then qJ b a else[]):=rfl;have t:Xo (qQ b a m [g,h,i,j,k,l,n,q]=if zn b.length a m=0 then qI a m [g,h,i,j,k,l,n,q]else[]):=rfl;obtain⟨u,f⟩:=kB (((w.alloc (Xk #[O c b.length z,O y a.length A] 38)).alloc (Xk #[U8 g,U8 h,U8 i,U8 j,U8 k,U8 l,U8 n,U8 q] 91)).alloc (Xk #[eS,eS] 38));have r:Xo (zc w u):=show zc w u by rw[<-f];exact((za _ _).trans (za _ _)).trans (za _ _)
 have E:Xo (Box u w.heap.size [O c b.length z,O y a.length A]):=dD<|by rw[<-f];exact((Box.aD w [O c b.length z,O y a.length A] _ rfl).alloc _).alloc _
 have T:Xo (Box u (w.heap.size+1) [U8 g,U8 h,U8 i,U8 j,U8 k,U8 l,U8 n,U8 q]):=dD<|by rw[<-f];exact(Box.aD _ [U8 g,U8 h,U8 i,U8 j,U8 k,U8 l,U8 n,U8 q] _ Sm).alloc _
 have G:Xo (Box u (w.heap.size+1+1) [eS,eS]):=dD<|by rw[<-f];exact Box.aD _ [eS,eS] _ Sm
 have s:=QI c b.length z (O y a.length A) a m u (x.aA r);have x:∀W,zc u W->Xp prog 53 #[Xi #[O c b.length z,O y a.length A]] W fun e w'=>∃D,e=Xl D/\zaE W.heap.size w' D b a/\zc W w':=fun W c=>zcV _ b a W (C.aA (r.trans c))
 obtain⟨c,y⟩:=kA (zn b.length a m);rw[y.out]at s B t⊢;obtain⟨F,A⟩:=kA b.length;obtain⟨nq,c⟩:=kA a.length;rw[A.out,c.out]at s f E⊢;simp only[A.out,c.out]at x;have C:=dD f;clear f;have f:=y.symm.trans H;subst f;rw[kE rfl]at B t;obtain⟨z,f,K,H⟩:=qy y.out;obtain⟨y,f,L⟩:=qN z;obtain⟨X,W,M,N,P⟩:=info_parts zrT;rw[B.out,t.out];clear K H;have t:¬nq=400:=fun e=>Q (c.trans e)
 have B:((nq:Int)==400)=Xd:=by simp;omega
 have H:Xo (qJ b a=b):=dD<|by unfold qJ;rw[kF (Rx c.out t)]
 have K:Xo (qI a m [g,h,i,j,k,l,n,q]=a++[(m,[g,h,i,j,k,l,n,q])]):=dD<|by unfold qI;rw[kF (Rx c.out t)]
 have t:=dD f;clear f L y z
 go_enter func185,ntmps185
 go_wp2_with(first
  |(
   go_at_call 210;rw[C.out];refine s.mono ?_;rintro e C⟨rfl,B⟩
   have y:Xo (zc u C):=B;have U:=(E.aA B).c 0 rfl;have V:=(E.aA B).c 1 rfl)
  |(
   go_at_call 53;refine(x C y).mono ?_;rintro e z⟨D,rfl,f,E⟩
   obtain⟨s,s,rfl,Q,R⟩:=f;obtain⟨f,s,rfl⟩:=Q.form;obtain⟨u,x,rfl⟩:=R.form;have S:Xo (zs C.heap.size z (O f b.length s) b):=Q;have L:Xo (zu C.heap.size z (O u a.length x) a):=R;have D:Xo (zc C z):=E;rw[A.out]at S;rw[c.out]at L;rw[A.out,c.out];clear Q R B E U V;have b:=(T.aA y).aA D.out;have B:w.heap.size+1<z.heap.size:=b.lt;obtain⟨u0,u1,u2,u3,u4,u5,u6,u7⟩:=b.c8)
  |(
   at_builtin
   have A:=L.aA ((za z (Xk #[O f F s,O u nq x] 38)).trans (za _ (Xk #[I6 m,U8 g,U8 h,U8 i,U8 j,U8 k,U8 l,U8 n,U8 q] 117)));have Q:=S.aA ((za z (Xk #[O f F s,O u nq x] 38)).trans (za _ (Xk #[I6 m,U8 g,U8 h,U8 i,U8 j,U8 k,U8 l,U8 n,U8 q] 117)));have E:=(zg.aD z [O f F s,O u nq x] 38 rfl).aA (za _ (Xk #[I6 m,U8 g,U8 h,U8 i,U8 j,U8 k,U8 l,U8 n,U8 q] 117));have R:=((((G.aA y).aA D).aA (za z (Xk #[O f F s,O u nq x] 38))).aA (za _ (Xk #[I6 m,U8 g,U8 h,U8 i,U8 j,U8 k,U8 l,U8 n,U8 q] 117)));refine wpList_append_own _ rfl (.tmp 40) (.tmp 44) 36 rfl C.heap.size 117 X _ 9 16 underlying36 W M N P rfl Dc _ _ _ rfl A.1 ⟨z.heap.size+1,0,Xb⟩ 1 1 (ptc (m,[g,h,i,j,k,l,n,q])) rfl rfl (q8.aD _ (ptc (m,[g,h,i,j,k,l,n,q])) _ Sm) (zeT _) (jx (Hm t.out)) (Hm t.out) (by have:=bS D.out;simp;omega) ?_
   intro N x u b _;have M:Xo (zu C.heap.size x N (a++[(m,[g,h,i,j,k,l,n,q])])):=zu.snoc u L.2.1 rfl (Hm t.out)
   have n:=dD<|Q.beside A b;have g:=dD<|E.beside b (A.ne E);have h:Xo (Box x (w.heap.size+1+1) [eS,eS]):=R.beside b (fun a i=>by have j:=(A.lt a i).1;have k:=(G.aA y).lt;omega)
   have l:Xo (zc w x):=zT (((r.trans y).trans D).trans ((za _ _).trans (za _ _))) b (fun a i=>by have j:=(A.lt a i).1;have k:=bS (r.trans y);omega)
   obtain⟨i,q,a⟩:=M.form;rw[lA,c.out,Yz]at a;subst a;obtain⟨a,a⟩:=g.box.k2;have a:=g.box.f;obtain⟨a,a⟩:=h.k2;have a:=h.f;have a:w.heap.size+1+1≠z.heap.size:=by have:=((G.aA y).aA D).lt;omega
   clear u b u0 u1 u2 u3 u4 u5 u6 u7 B))
 refine bodyPost_ret (v:=Xm #[Xi #[O f F s,O i (nq+1) q],I6 0]) (by simp[results,Tryz.results185,go_sem, *]) rfl ⟨_,rfl,?_,?_⟩
 ·rw[H.out,K.out];exact zmO n M g (G.aA y).lt (bS (r.trans y))
 have j:=bS (r.trans y);have k:=bS D.out;iterate 3 (refine zG ?_ (by simp;omega) _)
 exact l.out
theorem zjQ(d)(g:List (List Int))(f:List (Int×List Int))(m:Int)(p:List Int)(hp:p.length=8)(w:Xn)(ck:QG w d g f)(bw:zn g.length f m=0)(da:f.length=400):
  Xp prog 185 #[d,I6 m,Xi (pgc p).toArray] w fun e w'=>∃ak,e=Xl (Xm #[ak,I6 (zn g.length f m)])/\zZ w.heap.size w' ak (qR g f m) (qQ g f m p)/\zc w w':=by
 obtain⟨s,t,u,x,y,z,A,B,rfl⟩:=zc4 p hp;have cw:=dD ck;obtain⟨dt,dw,rfl,cj,bt⟩:=ck;have cf:=dD bt;obtain⟨ag,ai,rfl,_⟩:=cj.rows;obtain⟨ah,aj,rfl,_⟩:=bt.rows;clear cj bt hp
 show Xp prog 185 #[Xi #[O ag g.length ai,O ah f.length aj],I6 m,Xi #[U8 s,U8 t,U8 u,U8 x,U8 y,U8 z,U8 A,U8 B]] w _
 have bc:Xo (qR g f m=if zn g.length f m=0 then qJ g f else[]):=rfl;have a8:Xo (qQ g f m [s,t,u,x,y,z,A,B]=if zn g.length f m=0 then qI f m [s,t,u,x,y,z,A,B]else[]):=rfl;obtain⟨Z,q⟩:=kB (((w.alloc (Xk #[O ag g.length ai,O ah f.length aj] 38)).alloc (Xk #[U8 s,U8 t,U8 u,U8 x,U8 y,U8 z,U8 A,U8 B] 91)).alloc (Xk #[eS,eS] 38));have k:Xo (zc w Z):=show zc w Z by rw[<-q];exact((za _ _).trans (za _ _)).trans (za _ _)
 have bj:Xo (Box Z w.heap.size [O ag g.length ai,O ah f.length aj]):=dD<|by rw[<-q];exact((Box.aD w [O ag g.length ai,O ah f.length aj] _ rfl).alloc _).alloc _
 have b7:Xo (Box Z (w.heap.size+1) [U8 s,U8 t,U8 u,U8 x,U8 y,U8 z,U8 A,U8 B]):=dD<|by rw[<-q];exact(Box.aD _ [U8 s,U8 t,U8 u,U8 x,U8 y,U8 z,U8 A,U8 B] _ Sm).alloc _
 have a9:Xo (Box Z (w.heap.size+1+1) [eS,eS]):=dD<|by rw[<-q];exact Box.aD _ [eS,eS] _ Sm
 have K:=QI ag g.length ai (O ah f.length aj) f m Z (cf.aA k);have a7:∀af,zc Z af->Xp prog 53 #[Xi #[O ag g.length ai,O ah f.length aj]] af fun e w'=>∃ak,e=Xl ak/\zaE af.heap.size w' ak g f/\zc af w':=fun af db=>zcV _ g f af (cw.aA (k.trans db))
 obtain⟨G,be⟩:=kA (zn g.length f m);rw[be.out]at K bc a8⊢;obtain⟨X,C⟩:=kA g.length;obtain⟨nq,n⟩:=kA f.length;rw[C.out,n.out]at K q bj⊢;simp only[C.out,n.out]at a7;have bf:Xo (_=Z):=q;clear q;have dd:=be.symm.trans bw;subst dd;rw[kE rfl]at bc a8;obtain⟨ax,dv,bs,br⟩:=qy be.out;obtain⟨au,ae,ar⟩:=qN ax;obtain⟨de,dc,bx,bz,c8⟩:=info_parts zrT;rw[bc.out,a8.out];clear bs br;have an:=n.symm.trans da;subst an;obtain⟨b1,G,rfl⟩:∃b1 G,f=b1::G:=by
  cases f with
  |nil=>exact absurd (show _ from n.out) Sm
  |cons b1 G=>exact⟨b1,G,rfl⟩
 have a3:Xo (G.length=399):=dD<|by have:=n.out;simpa using this
 obtain⟨dq,cn⟩:=b1;obtain⟨N,P,Q,R,S,T,U,V,rfl⟩:=zc4 cn (cf.2.1 (dq,cn) Sm)
 obtain⟨F,a6,a5⟩:=ar _ (List.mem_cons_self);simp only at a6;subst a6;have ap:F<X:=Ry C.out a5
 have cl:(F:Int)<(X:Int):=Wm
 have bb:Xo (qJ g (((F:Int),[N,P,Q,R,S,T,U,V])::G)=g.set F [N,P,Q,R,S,T,U,V]):=dD<|by unfold qJ;rw[kE n.out];rfl
 have bd:Xo (qI (((F:Int),[N,P,Q,R,S,T,U,V])::G) m [s,t,u,x,y,z,A,B]=G++[(m,[s,t,u,x,y,z,A,B])]):=dD<|by unfold qI;rw[kE n.out];rfl
 clear ae ar au ax a5
 go_enter func185,ntmps185
 go_wp2_with(first
  |(
   go_at_call 210;rw[bf.out];refine K.mono ?_;rintro e I⟨rfl,a1⟩
   have j:Xo (zc Z I):=a1;have d8:=(bj.aA a1).c 0 rfl;have d9:=(bj.aA a1).c 1 rfl)
  |(
   go_at_call 53;refine(a7 I j).mono ?_;rintro e i⟨ak,rfl,bo,ao⟩
   obtain⟨d6,dr,rfl,cc,ay⟩:=bo;obtain⟨H,c,bn⟩:∃H c,d6=O (Xa ⟨H,0,Xb⟩) X c:=by
    rcases cc.1.2 with⟨_,al⟩|⟨bl,aa,bk,al,_⟩
    ·have:=C.out;omega
    exact⟨bl,aa,by rw[al,C.out]⟩
   subst bn;obtain⟨l,b,bu⟩:∃l b,dr=O (Xa ⟨l,0,Xb⟩) 400 b:=by
    rcases ay.1.2 with⟨_,al⟩|⟨bl,aa,bk,al,_⟩
    ·simp at al
    exact⟨bl,aa,by rw[al,n.out]⟩
   subst bu;have ch:Xo (zs I.heap.size i (O (Xa ⟨H,0,Xb⟩) X c) g):=cc;have cy:Xo (zu I.heap.size i (O (Xa ⟨l,0,Xb⟩) 400 b) (((F:Int),[N,P,Q,R,S,T,U,V])::G)):=ay;have Y:Xo (zc I i):=ao;obtain⟨df,dg,dh,di,dj,dk,dl,dm,dn⟩:=ay.head;have dp:l<i.heap.size:=(ay.lt l rfl).2;clear cc ay a1 ao d8 d9)
  |(
   refine Qn rfl (.tmp 34) (.tmp 33) rfl I.heap.size _ g (ch.aA ((za i (Xk #[O (Xa ⟨H,0,Xb⟩) X c,O (Xa ⟨l,0,Xb⟩) 400 b] 38)).trans (za _ (Xk #[I6 (F:Int),U8 N,U8 P,U8 Q,U8 R,U8 S,U8 T,U8 U,U8 V] 117)))) H F rfl (Rx C.out ap) [N,P,Q,R,S,T,U,V] rfl _ rfl Sm rfl ?_
   intro b5 az D _;have cx:=cy.aA ((za i (Xk #[O (Xa ⟨H,0,Xb⟩) X c,O (Xa ⟨l,0,Xb⟩) 400 b] 38)).trans (za _ (Xk #[I6 (F:Int),U8 N,U8 P,U8 Q,U8 R,U8 S,U8 T,U8 U,U8 V] 117)));have bh:=ch.aA ((za i (Xk #[O (Xa ⟨H,0,Xb⟩) X c,O (Xa ⟨l,0,Xb⟩) 400 b] 38)).trans (za _ (Xk #[I6 (F:Int),U8 N,U8 P,U8 Q,U8 R,U8 S,U8 T,U8 U,U8 V] 117)));have cd:=(zg.aD i [O (Xa ⟨H,0,Xb⟩) X c,O (Xa ⟨l,0,Xb⟩) 400 b] 38 rfl).aA (za _ (Xk #[I6 (F:Int),U8 N,U8 P,U8 Q,U8 R,U8 S,U8 T,U8 U,U8 V] 117));have bp:=bh.lt H rfl;have b4:=dD<|cx.beside bh D;have cz:=dD az;have b2:=dD<|cd.beside D (bh.ne cd);have d2:Xo (Box b5 (w.heap.size+1+1) [eS,eS]):=((((a9.aA j).aA Y).aA (za i _)).aA (za _ _)).beside D (fun a0 r=>by cases r;have W:=(a9.aA j).lt;omega)
   have cp:Xo (Box b5 (w.heap.size+1) [U8 s,U8 t,U8 u,U8 x,U8 y,U8 z,U8 A,U8 B]):=((((b7.aA j).aA Y).aA (za i _)).aA (za _ _)).beside D (fun a0 r=>by cases r;have W:=(b7.aA j).lt;omega)
   have cr:Xo (zc w b5):=zT (((k.trans j).trans Y).trans ((za _ _).trans (za _ _))) D (fun a0 r=>by cases r;have W:=bS (k.trans j);omega)
   obtain⟨b8,b9⟩:=b2.box.k2;clear az D df dg dh di dj dk dl dm dn dp bp)
  |(
   go_at_call 212
   have L:=zgY I.heap.size l b ((F:Int),[N,P,Q,R,S,T,U,V]) G b5 (Rx a3.out b4) (by rw[a3.out];decide) (by rw[a3.out];decide)
   rw[a3.out]at L;refine L.mono ?_;rintro e a4⟨rfl,b0,E⟩;have bq:=b4.lt l rfl;have bg:=dD b0;have ci:=dD<|cz.beside b4 E;have a2:=dD<|b2.beside E (b4.ne b2);have d3:Xo (Box a4 (w.heap.size+1+1) [eS,eS]):=d2.beside E (fun a0 r=>by cases r;have W:=(a9.aA j).lt;omega)
   have ba:Xo (Box a4 (w.heap.size+1) [U8 s,U8 t,U8 u,U8 x,U8 y,U8 z,U8 A,U8 B]):=cp.beside E (fun a0 r=>by cases r;have W:=(b7.aA j).lt;omega)
   have cs:Xo (zc w a4):=zT cr E (fun a0 r=>by cases r;have W:=bS (k.trans j);omega)
   clear L b0 E b8 b9 bq;obtain⟨b8,b9⟩:=a2.box.k2;have co:=a2.box.f;have ad:w.heap.size+1≠i.heap.size:=by have:=((b7.aA j).aA Y).lt;omega
   have c9:w.heap.size+1<a4.heap.size:=ba.lt;have ca:i.heap.size<a4.heap.size:=a2.box.lt;obtain⟨u0,u1,u2,u3,u4,u5,u6⟩:=ba.c7;have u7:=ba.c 7 rfl)
  |(
   at_builtin
   have ac:=za (a4.setCell ⟨i.heap.size,1,Xb⟩ (O (Xa ⟨l,0,Xb⟩) 399 b)) (Xk #[I6 m,U8 s,U8 t,U8 u,U8 x,U8 y,U8 z,U8 A,U8 B] 117);have am:=(bg.aQ (a:=⟨i.heap.size,1,Xb⟩) (bg.ne a2) (O (Xa ⟨l,0,Xb⟩) 399 b)).aA ac;have d0:=(ci.aQ (a:=⟨i.heap.size,1,Xb⟩) (ci.ne a2) (O (Xa ⟨l,0,Xb⟩) 399 b)).aA ac;have ce:=(a2.set 1 (O (Xa ⟨l,0,Xb⟩) 399 b)).aA ac;have d4:=(d3.other (a:=⟨i.heap.size,1,Xb⟩) (by have:=((a9.aA j).aA Y).lt;show w.heap.size+1+1≠i.heap.size;omega) (O (Xa ⟨l,0,Xb⟩) 399 b)).aA ac
   have ct:=(show zc w (a4.setCell ⟨i.heap.size,1,Xb⟩ (O (Xa ⟨l,0,Xb⟩) 399 b))from zG cs (by have:=bS ((k.trans j).trans Y);exact this) _).trans ac
   refine wpList_append_own _ rfl (.tmp 40) (.tmp 44) 36 rfl I.heap.size 117 de _ 9 16 underlying36 dc bx bz c8 rfl Dc _ _ _ rfl am.1 ⟨a4.heap.size,0,Xb⟩ 1 1 (ptc (m,[s,t,u,x,y,z,A,B])) rfl rfl (q8.aD _ (ptc (m,[s,t,u,x,y,z,A,B])) _ Sm) (zeT _) (jx (by rw[a3.out];decide)) (by rw[a3.out];decide) (by have bm:=bS Y.out;have W:=bS ac;have du:=a2.box.lt;simp at W⊢;omega) ?_
   intro ds b6 M h _;have cg:Xo (zu I.heap.size b6 ds (G++[(m,[s,t,u,x,y,z,A,B])])):=zu.snoc M bg.2.1 rfl (by rw[a3.out];decide)
   have d1:=dD<|d0.beside am h;have b3:Xo (zg b6 i.heap.size 38 [O (Xa ⟨H,0,Xb⟩) X c,O (Xa ⟨l,0,Xb⟩) 399 b]):=ce.beside h (am.ne ce);have bi:Xo (Box b6 (w.heap.size+1+1) [eS,eS]):=d4.beside h (fun a0 r=>by have bm:=(am.lt a0 r).1;have W:=(a9.aA j).lt;omega)
   have cu:Xo (zc w b6):=zT ct h (fun a0 r=>by have bm:=(am.lt a0 r).1;have W:=bS (k.trans j);omega)
   obtain⟨d5,d7,aw⟩:=cg.form;rw[lA,a3.out,Yz]at aw;subst aw;clear b8 b9 co;obtain⟨b8,b9⟩:=b3.box.k2;have co:=b3.box.f;obtain⟨dx,dy⟩:=bi.k2;have dz:=bi.f;have cm:w.heap.size+1+1≠i.heap.size:=by have:=((a9.aA j).aA Y).lt;omega
   clear ac M h u0 u1 u2 u3 u4 u5 u6 u7 c9 ca ad))
 refine bodyPost_ret (v:=Xm #[Xi #[O (Xa ⟨H,0,Xb⟩) X c,O d5 400 d7],I6 0]) (by simp[results,Tryz.results185,go_sem, *]) rfl ⟨_,rfl,?_,?_⟩
 ·rw[bb.out,bd.out];exact zmO d1 cg b3 (a9.aA j).lt (bS (k.trans j))
 have bm:=bS (k.trans j);have W:=bS Y.out;iterate 3 (refine zG ?_ (by simp;omega) _)
 exact cu.out
theorem zfP(d)(b:List (List Int))(a:List (Int×List Int))(m:Int)(p:List Int)(hp:p.length=8)(w:Xn)(f:QG w d b a):
  Xp prog 185 #[d,I6 m,Xi (pgc p).toArray] w fun e w'=>∃c,e=Xl (Xm #[c,I6 (zn b.length a m)])/\zZ w.heap.size w' c (qR b a m) (qQ b a m p)/\zc w w':=by
 by_cases c:zn b.length a m=0
 ·by_cases g:a.length=400
  ·exact zjQ d b a m p hp w f c g
  exact zlp d b a m p hp w f c g
 exact zlq d b a m p hp w f c
def Jw(m:Int)(j:Nat):Bool:=bits BinOp.and IntKind.i64 (m/2^(j%60)) 1==1
theorem zk1(m:Int)(B:Nat)(j:Nat)(b:j<=400)(w:Xn)(a:w.cell? ⟨B,0,Xb⟩=Xa (I6 m)):
  Xp prog 200 #[I6 (j:Int),Xj (Xa ⟨B,0,Xb⟩)] w fun e w'=>e=Xl (Xh (Jw m j))/\zc w w':=by
 have H:Xo (Jw m j=(bits BinOp.and IntKind.i64 (m/2^(j%60)) 1==1)):=rfl
 go_enter func200,ntmps200
 go_wp2;go_ret;rw[H.out];exact⟨rfl,zc.refl _⟩
theorem zf2(m:Int)(B:Nat)(w:Xn)(a:w.cell? ⟨B,0,Xb⟩=Xa (I6 m)):ziN 200 #[Xj (Xa ⟨B,0,Xb⟩)] (Jw m) w:=fun W j b c=>
 zk1 m B j c W ((Below.cell b (World.block_lt_of_cell? _ _ a)).trans a)
theorem zm8(d)(f:List (List Int))(b:List (Int×List Int))(m:Int)(w:Xn)(c:QG w d f b):
  Xp prog 161 #[d,I6 m] w fun e w'=>∃a,e=Xl (Xm #[a,I6 (zD f.length b)])/\zZ w.heap.size w' a (Zc (Jw m) f b) []/\zc w w':=by
 have k:=dD c;obtain⟨a,q,rfl,a,g⟩:=c;obtain⟨c,i,rfl,_⟩:=a.rows;obtain⟨h,l,rfl,_⟩:=g.rows;clear a g;obtain⟨j,a⟩:=kB (((w.alloc (Xk #[O c f.length i,O h b.length l] 38)).alloc (Xk #[I6 m] 3)).alloc (Xk #[eS,eS] 38));have g:Xo (zc w j):=show zc w j by rw[<-a];exact((za _ _).trans (za _ _)).trans (za _ _)
 have h:Box j (w.heap.size+1) [I6 m]:=by rw[<-a];exact(Box.aD _ [I6 m] _ Sm).alloc _
 have i:Box j (w.heap.size+1+1) [eS,eS]:=by rw[<-a];exact Box.aD _ [eS,eS] _ Sm
 have c:=zd6 (Jw m) 200 #[Xj (Xa ⟨w.heap.size+1,0,Xb⟩)] (enters_of func200 Kr rfl) _ f b j (k.aA g) (zf2 m (w.heap.size+1) j (h.c 0 rfl))
 have k:=dD i;obtain⟨l,h⟩:=kA f.length;obtain⟨nq,i⟩:=kA b.length;obtain⟨r,n⟩:=kA (zD l b);rw[h.out,i.out,n.out]at c;rw[h.out,i.out]at a;have l:=dD a;clear a;rw[h.out,i.out,n.out]
 go_enter func161,ntmps161
 go_wp2_with(
  go_at_call 196;rw[l.out]
  refine c.mono ?_;rintro e i⟨n,rfl,c,h⟩;have a:Box i (w.heap.size+1+1) [eS,eS]:=k.aA h;obtain⟨l,l⟩:=a.k2;have l:=a.f 0;have l:=a.f 1;have l:Xo (zZ j.heap.size i n (Zc (Jw m) f b) []):=c;have j:=dD (g.trans h);obtain⟨h,h,rfl,h,i,_⟩:=c;obtain⟨c,q,rfl,_⟩:=h.rows;obtain⟨n,s,rfl,_⟩:=i.rows;clear h i a)
 refine bodyPost_ret (v:=Xm #[Xi #[.slice c (Zc (Jw m) f b).length q,O n 0 s],I6 r]) (by simp[results,Tryz.results161,go_sem, *]) rfl ⟨_,rfl,?_,?_⟩
 ·have:=k.lt;exact((l.setCell (Si this) _).setCell (Si this) _).base (bS g)
 exact Below.setCell (Below.setCell j (p:=⟨w.heap.size+1+1,0,Xb⟩) (by simp;omega) _) (p:=⟨w.heap.size+1+1,1,Xb⟩) (by simp;omega) _
theorem zcA{n:Nat}{a:List (Int×List Int)}(c:n<=80)(d:a.length<=400)(b:∀q∈a,∃i:Nat,q.1=(i:Int)/\i<n):zD n a=0:=by grind[zD,Yd.1,ZF]
theorem zhu{n:Nat}{a:List (Int×List Int)}{m:Int}(h:zD n a=0){i:Nat}(b:m=(i:Int))(hi:i<n):zn n a m=0:=by
 grind[zn,ZF]
theorem ZR{n:Nat}{a:List (Int×List Int)}(h:zD n a=0)(m:Int):zn n a m=if ZF m n then 0 else 3:=by
 unfold zn;rw[kE h]
theorem ZN(a:List (List Int))(b:List (Int×List Int)):(qJ a b).length=a.length:=by
 unfold qJ
 split<;>simp
theorem ZS{b:List (List Int)}{a:List (Int×List Int)}{m:Int}{p:List Int}(h:zn b.length a m=0):zD (qJ b a).length (qI a m p)=0:=by
 obtain⟨a,i,b,b⟩:=qy h;obtain⟨b,c,c⟩:=qN a;rw[ZN];refine zcA b ?_ fun q a=>?_
 ·grind[qI]
 unfold qI at a
 rcases Yc.1 a with a|a
 ·split at a
  ·exact c q (List.mem_of_mem_tail a)
  grind
 grind
def zgg:Option (Int×List Int)->List Int->List Int
 |some q,_=>q.2
 |none,d=>d
theorem QO{b:List (List Int)}{a:List (Int×List Int)}{m:Int}(h:zn b.length a m=0):qw b a m=zgg (a.reverse.find? (fun q=>q.1==m)) (b.getD m.toNat zS):=by
 unfold qw;rw[kE h]
 cases a.reverse.find? (fun q=>q.1==m)<;>rfl
theorem zdY{b:List (List Int)}{a:List (Int×List Int)}{m:Int}{p:List Int}(h:zn b.length a m=0):zn (qJ b a).length (qI a m p) m=0/\qw (qJ b a) (qI a m p) m=p:=by grind[ZS,qy,zn,qJ,qI,zhu,ZN,QO,zgg]
theorem zcD{b:List (List Int)}{a:List (Int×List Int)}{m:Int}{p:List Int}(h:zn b.length a m=0)(o:Int):zn (qJ b a).length (qI a m p) o=zn b.length a o:=by grind[ZR,ZS,qy,ZN]
theorem zag{d:List (List Int)}{b:List (Int×List Int)}{m:Int}{p:List Int}(j:zn d.length b m=0){o:Int}(s:¬o=m):qw (qJ d b) (qI b m p) o=qw d b o:=by
 have n:=zcD (p:=p) j o
 by_cases i:zn d.length b o=0
 ·rw[QO i,QO (n.trans i)];have h:(m==o)=Xd:=by simpa using fun l=>s (Eq.symm l)
  unfold qI qJ
  by_cases f:b.length=400
  ·rw[kE f,kE f]
   cases b with
   |nil=>simp at f
   |cons e t=>
    obtain⟨_,v,c,r⟩:=qy i;obtain⟨w,a,g⟩:=(qN (qy j).1).2.2 e Sm
    simp only[List.tail_cons,List.headD_cons,List.reverse_append,List.reverse_cons,List.reverse_nil,Yj,Yi,List.find?_cons,h,Ok]
    cases u:t.reverse.find? (fun q=>q.1==o)with
    |some q=>rfl
    |none=>
     simp only[Option.none_or]
     cases k:(e.1==o)with
     |true=>
      have:e.1=o:=Si k
      subst this;simp only[a,tN,zgg]
      simp[g]
     |false=>
      have:e.1≠o:=Si k
      simp only[List.find?_nil,zgg];rw[gD,gD,sN];rw[a,c]at this;rw[a,c];simp only[tN];omega
  grind
 grind[zn,qJ,qI,qw]
def zbh(p:List Int)(idx size:Int)(k:Nat):List Int:=p.mapIdx fun i z=>if i<k/\size<=8*idx+(i:Int)then 0 else z
theorem zm3(p:List Int)(b a:Int)(k:Nat):(zbh p b a k).length=p.length:=by unfold zbh;simp
theorem zm5{p:List Int}{b a:Int}{k:Nat}(h:p.length<=k):zbh p b a k=Zm p b a:=by
 unfold zbh Zm
 apply Yf
 grind
theorem zm4{p:List Int}{b a:Int}{k:Nat}(c:k<p.length)(h:a<=8*b+(k:Int)):(zbh p b a k).set k 0=zbh p b a (k+1):=by
 unfold zbh
 apply Yf
 grind
theorem zi4{a:List (List Int)}{c:List (Int×List Int)}{b:Int}(d:∀p∈a,p.length=8)(e:∀q∈c,q.2.length=8):(qw a c b).length=8:=by
 unfold qw
 split
 ·cases h:c.reverse.find? (fun q=>q.1==b)with
  |some q=>exact e q (by have:=Ym h;simpa using this)
  |none=>
   simp only;rw[gD]
   cases c:a[b.toNat]? with
   |none=>rfl
   |some p=>exact d p (mG c)
 rfl
theorem z6{α:Type}{k:Nat}{s:α}:∀{S:List (Nat×α)},S.lookup k=Xa s->(k,s)∈S
 |[],h=>by simp at h
 |(p,a)::S,h=>by
  by_cases b:k=p
  ·subst b
   simp at h
   subst h;simp
  have c:(k==p)=Xd:=Si b
  rw[List.lookup_cons,c]at h;exact List.mem_cons_of_mem _ (z6 h)
theorem zg.part{w:Xn}:∀{ds cs:List Xq}{o:Nat},zg w b t cs->o+ds.length<=cs.length->zg (w.setCells b o ds) b t (splice cs o ds):=by
 have a:∀(ds cs:List Xq)(o:Nat)(w:Xn),zg w b t cs->o+ds.length<=cs.length->zg (w.setCells b o ds) b t (splice cs o ds):=fun ds=>by
  induction ds with
  |nil=>
   intro cs o w h a;have:splice cs o []=cs:=by simp[splice]
   rw[this];exact h
  |cons d ds e=>
   intro cs o w h a;simp only[Xv]at a;have c:=h.set o d;have a:=e (cs.set o d) (o+1) (w.setCell ⟨b,o,Xb⟩ d) c (by simp;omega)
   have c:splice (cs.set o d) (o+1) ds=splice cs o (d::ds):=by
    unfold splice;rw[List.take_set,List.drop_set,kE Wm,Om,gE Wm]
    simp only[Xv,Option.toList_some];rw[List.set_append_right _ _ (by simp;omega),show o+1+ds.length=o+(ds.length+1) by omega]
    simp[Yv,Nat.min_eq_left (show o<=cs.length by omega)]
   rw[c]at a;exact a
 grind
theorem zh{rest:List Oper}{a:Act}{w:Xn}(c:o.guard=Xb)(e p x)(i:o.op=.store e p x)(b:Nat)(hp:a.eval p=Xj (Xa ⟨b,0,Xb⟩))(vs:List Xq)(j:a.eval x=Xi vs.toArray)
  {cs:List Xq}{t:TypeId}(f:zg w b t cs)(d:vs.length=cs.length)(hi:(Tryz.prog.info? e).map (·.size)=Xa cs.length)(g:∀v∈vs,v.oneCell'=Xc)
  (h:∀w',zg w' b t vs->w.grownBy w' (Xa b)->w'.heap.size=w.heap.size->wpList prog ops Q rest (a.put o.dst undef) w'):wpList prog ops Q (o::rest) a w:=by
 refine wpList_store_mid c e p x i b 0 vs.toArray hp j ?_ ?_ (all_oneCell_toArray g) ?_
 ·simpa[d]using f.box.there
 ·simpa[d]using hi
 have:=f.part (ds:=vs) (o:=0) Wm
 rw[JE d]at this;exact h _ this (zQ b vs 0 w).1 (zQ b vs 0 w).2
end
section
def JY(m:Ma)(x:On)(e:En):List Int×Bool×Int:=
 if x.is=Xd then(zS,Xd,5)
 else if e.kind=1 then(pgL (z3 m e.n).p,decide ((z3 m e.n).f<0),0)
 else if e.kind=2 then(qw m.sb m.sq e.n,Xc,0)
 else if x.file<0 then(zS,Xd,0)
 else if bkN m x.file<=x.aI then(zS,Xd,9)
 else(z2 m x.file x.aI,Xd,0)
theorem zcp{p n:Nat}{s:Sp}(a:m.sp[p]?=Xa s)(b:n<64):zhD m (p:Int) (n:Int)=JY m (zN s.aE n) (zl s n):=by
 have b:=(gS.1 a).1;unfold zhD;rw[kF Wm]
 simp only[tN,gD,a,Option.getD_some];rfl
theorem zcq{p n:Int}(h:p<0\/(m.sp.length:Int)<=p\/n<0\/63<n):zhD m p n=(zS,Xd,5):=by
 unfold zhD;rw[kE h]
theorem zeR{x:On}{e c:En}(i:c.kind=e.kind)(j:c.n=e.n)(d:e.kind=1->(z3 m' e.n).p=(z3 m e.n).p/\((z3 m' e.n).f<0↔(z3 m e.n).f<0))(f:e.kind=2->qw m'.sb m'.sq e.n=qw m.sb m.sq e.n)
  (g:∀a,bkN m' a=bkN m a)(h:∀a b,z2 m' a b=z2 m a b):JY m' x c=JY m x e:=by
 grind[JY]
theorem zg5(d:m'.ca=m.ca)(g:m'.fl=m.fl)(e:m'.db=m.db)(f:m'.dq=m.dq)(h:∀c∈m.ca,(z3 m' c.fr).p=(z3 m c.fr).p)(a b:Int):z2 m' a b=z2 m a b:=by grind[z2,zcu,Ym,zfE,Z4]
section
variable{m:Ma}{T:List (Nat->En)}
theorem Z6.marks(h:Z6 m T){k:Nat}{fr:Fr}{p:Pg}{u d:Bool}(c:m.fs[k]?=Xa fr)(t:fr.r≠0):Z6 {m with fs:=m.fs.set k {fr with p:=p,u:=u,d:=d}} T:=by
 have f:=(gS.1 c).1;have e:=h.bV fr (mG c);have a:∀z:Int,0<=z->(z3 {m with fs:=m.fs.set k {fr with p:=p,u:=u,d:=d}} z).f=(z3 m z).f/\(z3 {m with fs:=m.fs.set k {fr with p:=p,u:=u,d:=d}} z).x=(z3 m z).x/\(z3 {m with fs:=m.fs.set k {fr with p:=p,u:=u,d:=d}} z).r=(z3 m z).r:=fun z a=>by grind[JO,zX]
 refine⟨by simpa using h.bB,fun g b=>?_,h.aX,h.bM,h.sq,h.aW,h.st,h.cnt,h.bU,h.bN,h.aT,h.bH,h.tl,?_,fun q w g v b j a=>?_,fun j g a=>?_,h.cs⟩
 ·rcases Yn b with b|rfl
  ·exact h.bV g b
  obtain⟨i,l,n,s,r⟩:=e;exact⟨i,l,n,fun h=>absurd h t,r⟩
 ·obtain⟨e,e,e⟩:=zy.1 h.ca;refine zy.2 ⟨fun r t=>?_,fun q r r=>(by cases r),e⟩
  grind[Zv,zjA,bkN]
 ·rcases h.bF q w g v b j a with e|e
  ·exact .inl e
  refine .inr ⟨e.1,e.2.1,Ju e.2.2 rfl Sm fun b=>?_⟩
  obtain⟨i,l,n,s⟩:=ja e b
  grind
 by_cases e:j=k
 ·subst e;simp only at a;rw[sF f]at a;cases a;exact h.cf j fr c
 simp only at a;rw[sN (fun h=>e h.symm)]at a
 exact h.cf j g a
def QS(fr:Fr):Fr:=if fr.r=1 then frF else{fr with r:=fr.r-1}
theorem zpV(fr:Fr):(QS fr).r=fr.r-1:=by
 unfold QS
 split
 ·simp[frF];omega
 rfl
theorem Z6.drop(h:Z6 m T){k p n:Nat}{fr:Fr}{f:Nat->En}(y:m.fs[k]?=Xa fr)(D:T[p]?=Xa f)(X:n<64)(V:(f n).kind=1)(u:(f n).n=(k:Int)):
  Z6 {m with fs:=m.fs.set k (QS fr)} (T.set p (zcf f n en0)):=by
 have W:=(gS.1 y).1;have d:=(gS.1 D).1;have A:=h.bV fr (mG y);have U:=h.cf k fr y;have G:1<=qV T 1 k:=by grind[zfh]
 have i:∀kind j:Int,qV (T.set p (zcf f n en0)) kind j+(isE (f n) kind j).toNat=qV T kind j+(isE en0 kind j).toNat:=fun kind j=>za6 en0 kind j D X
 have x:fr.r≠1->QS fr={fr with r:=fr.r-1}:=fun h=>by unfold QS;rw[kF h]
 have E:zY m.ca k≠0->fr.r≠1:=fun R S=>Wm
 have F:qV T 1 k≥2->fr.r≠1:=fun R S=>Wm
 refine⟨by simpa using h.bB,fun g a=>?_,h.aX,h.bM,h.sq,h.aW,h.st,h.cnt,h.bU,h.bN,h.aT,h.bH,by simpa using h.tl,?_,?_,fun j g b=>?_,fun j a0 b=>?_⟩
 ·rcases Yn a with a|rfl
  ·exact h.bV g a
  by_cases e:fr.r=1
  ·unfold QS;rw[kE e];exact⟨Dc,Dc,.inl rfl,fun _=>rfl,fun _=>rfl⟩
  rw[x e];obtain⟨L,B,C,M,N⟩:=A;exact⟨by simp only;omega,B,C,fun h=>by simp only at h;omega,N⟩
 ·obtain⟨a4,a5,H⟩:=zy.1 h.ca;refine zy.2 ⟨fun K a6=>?_,fun q K Y=>(by cases Y),H⟩
  grind[Zv,JO,QS,zbS,zX,zjA,bkN]
 ·intro q I g Z a j b
  by_cases l:q=p/\j=n
  ·obtain⟨rfl,rfl⟩:=l;rw[sF d]at a;cases a
   grind[zcf]
  have c:∃s,T[q]?=Xa s/\g j=s j:=by
   by_cases Q:q=p
   ·subst Q;rw[sF d]at a;cases a
    grind[zcf]
   grind
  obtain⟨s,v,w⟩:=c;rw[w]
  rcases h.bF q I s Z v j b with e|e
  ·exact .inl e
  refine .inr ⟨e.1,e.2.1,Ju e.2.2 rfl Sm fun z=>?_⟩
  obtain⟨L,B,C,M⟩:=ja e z
  grind[JO,zjk,isE,zX]
 ·simp only at b⊢;have t:=i 1 j;rw[ZM 1 j Dc]at t
  by_cases P:j=k
  ·grind[sF,isE,zpV,QS,frF]
  rw[sN (fun h=>P h.symm)]at b
  rw[zgB (by rw[u];omega)]at t
  have:=h.cf j g b
  grind
 simp only at b⊢;have t:=i 2 j;rw[ZM 2 j Dc,zji (by rw[V];decide)]at t
 have:=h.cs j a0 b
 grind
theorem Z6.dropS(h:Z6 m T){k p n:Nat}{f:Nat->En}(D:m.sl[k]?=Xa z)(u:T[p]?=Xa f)(E:n<64)(v:(f n).kind=2)(b:(f n).n=(k:Int)):
  Z6 {m with sl:=m.sl.set k (z-1)} (T.set p (zcf f n en0)):=by
 have A:=(gS.1 D).1;have d:=(gS.1 u).1;have F:1<=qV T 2 k:=JL u E (by simp[isE,v,b]) Dc
 have i:∀kind j:Int,qV (T.set p (zcf f n en0)) kind j+(isE (f n) kind j).toNat=qV T kind j+(isE en0 kind j).toNat:=fun kind j=>za6 en0 kind j u E
 refine⟨h.bB,h.bV,by simpa using h.aX,by simpa using h.bM,h.sq,h.aW,h.st,h.cnt,h.bU,h.bN,h.aT,h.bH,by simpa using h.tl,?_,?_,fun j t a=>?_,fun j S a=>?_⟩
 ·obtain⟨G,U,H⟩:=zy.1 h.ca;exact zy.2 ⟨fun B N=>G B N,fun q B P=>(by cases P),H⟩
 ·intro q R t Q s j a
  by_cases l:q=p/\j=n
  ·obtain⟨rfl,rfl⟩:=l;rw[sF d]at s;cases s
   grind[zcf]
  have c:∃r,T[q]?=Xa r/\t j=r j:=by
   by_cases L:q=p
   ·subst L;rw[sF d]at s;cases s
    grind[zcf]
   grind
  obtain⟨r,w,x⟩:=c;rw[x]
  rcases h.bF q R r Q w j a with e|e
  ·exact .inl e
  refine .inr ⟨e.1,e.2.1,Ju e.2.2 Sm rfl fun y=>?_⟩
  obtain⟨V,W,X,K⟩:=ja e y;exact⟨rfl,rfl,K⟩
 ·have g:=i 1 j;rw[ZM 1 j Dc,zji (by rw[v];decide)]at g
  have:=h.cf j t a
  grind
 simp only at a⊢;have g:=i 2 j;rw[ZM 2 j Dc]at g
 by_cases C:j=k
 ·subst C;rw[sF A]at a;cases a;have M:isE (f n) 2 (j:Int)=Xc:=by simp[isE,v,b]
  rw[M]at g;have:=h.cs j z D
  grind
 rw[sN (fun h=>C h.symm)]at a
 rw[zgB (by rw[b];omega)]at g
 have:=h.cs j S a
 grind
end
section
variable{m:Ma}{T:List (Nat->En)}
theorem Z6.more(h:Z6 m T){s':Sp}(a:m.sp.length<4)(e:(wrL s'.aE).1=0)(b:s'.aH=Xd->s'.aE=[]):Z6 {m with sp:=m.sp++[s']} (T++[fun _=>en0]):=by
 refine⟨h.bB,h.bV,h.aX,h.bM,h.sq,h.aW,h.st,h.cnt,h.bU,h.bN,by simp;omega,fun s a=>?_,by simpa using h.tl,?_,fun p s f a c n j=>?_,fun k f d=>?_,fun k z d=>?_⟩
 ·rcases Yc.1 a with a|a
  ·exact h.bH s a
  rw[Og]at a;subst a;exact⟨e,b⟩
 ·obtain⟨e,b,g⟩:=zy.1 h.ca;exact zy.2 ⟨fun b i=>e b i,fun q b b=>(by cases b),g⟩
 ·by_cases e:p<m.sp.length
  ·rw[Yo e]at a;rw[Yo (by rw[h.tl];exact e)]at c
   exact h.bF p s f a c n j
  have b:p<m.sp.length+1:=by
   have:=(gS.1 a).1
   simpa using this
  have:p=T.length:=by rw[h.tl];omega
  subst this;rw[aR (nR _),Nat.sub_self]at c;cases c;exact .inl rfl
 ·rw[zgH _ _ _ Dc]
  exact h.cf k f d
 rw[zgH _ _ _ Dc]
 exact h.cs k z d
end
end
section
open Go.RowKit
section
variable{α:Type}{E:Elt α}
theorem zdQ{w:Xn}{a:Act}(p x t)(A:o.op=.store t p x)(base:Nat)(v:Xq)(l:List α)(b:zb E base w v l)
  (g i j:Nat)(s:v.ownBlock=Xa g)(e y:α)(hi:l[i]?=Xa e)(cs:List Xq)(f:(Tryz.prog.info? t).map (·.size)=Xa cs.length)(D:E.enc y=splice (E.enc e) j cs)(z:j+cs.length<=E.k)(n:∀u∈cs,u.oneCell'=Xc)
  (d:Addr)(hp:a.eval p=Xj (Xa d))(c:d=⟨g,i*E.k+j,Xb⟩)(k:Xq)(C:a.eval x=k)(h:k.cells=cs.toArray):
  ∃w',(execOp a.eval o).run prog w=.ok .skip w'/\zb E base w' v (l.set i y)/\w.grownBy w' (Xa g)/\w'.heap.size=w.heap.size:=by
 subst c;have d:=(gS.1 hi).1;have c:i*E.k+j+cs.length<=l.length*E.k:=by
  have:(i+1)*E.k<=l.length*E.k:=Nat.mul_le_mul_right _ d;rw[Nat.add_mul]at this;omega
 obtain⟨w',B,m,q,r⟩:=jn (P:=prog) b.1 s (i*E.k+j) cs c n;have d:(Go.sizeOf t).run prog w=.ok cs.length w:=by
  cases c:Tryz.prog.info? t with
  |none=>simp[c]at f
  |some i=>simp[c]at f;simp[Go.sizeOf,typeInfo,c,f]
 have c:(Instr.storeAt t (Xj (Xa ⟨g,i*E.k+j,Xb⟩)) k).run prog w=.ok () w':=by
  simp[Instr.storeAt,Instr.sureAddr,storeVar,Xt,d,Result.andThen,h,B]
 rw[zam j cs D z l i hi]at m;refine⟨w',?_,⟨Rx Xw m,Rx Xw b.2⟩,q,r⟩
 simp only[execOp,A,hp,C,Xt,c,Result.andThen,Yb]
theorem zgW{P:Program}{a:Act}{w:Xn}{K:Xq->Xn->Prop}(b:(execOp a.eval o).run P w=.ok .skip w')(h:K undef w'):zI P o a w K:=by
 unfold zI;rw[b];exact h
end
theorem jQ{a:Act}{w:Xn}{K:Xq->Xn->Prop}(d p x)(n:o.op=.store d p x)(b c:Nat)(hp:a.eval p=Xj (Xa ⟨b,c,Xb⟩))(g:Xq)(r:a.eval x=g)(vs:List Xq)(f:g.cells=vs.toArray)
  {t:TypeId}{cs:List Xq}(h:zg w b t cs)(m:c+vs.length<=cs.length)(hi:(Tryz.prog.info? d).map (·.size)=Xa vs.length)(j:∀v∈vs,v.oneCell'=Xc)
  (i:∀w',zg w' b t (splice cs c vs)->w.grownBy w' (Xa b)->w'.heap.size=w.heap.size->K undef w'):zI prog o a w K:=by
 have e:(Value.agg vs.toArray).cells=vs.toArray:=by
  unfold Value.cells;simp
 have q:(execOp a.eval o).run prog w=.ok .skip (w.setCells b c vs):=by
  have k:=run_storeAt_mid (P:=prog) w b c d vs.toArray (fun s l=>by
   have:=h.box.there (c+s) (by simp at l;omega)
   rw[zA]at this;exact this) (Si hi) (all_oneCell_toArray j)
  have j:(Instr.storeAt d (Xj (Xa ⟨b,c,Xb⟩)) g).run prog w=(Instr.storeAt d (Xj (Xa ⟨b,c,Xb⟩)) (Xi vs.toArray)).run prog w:=by
   simp only[Instr.storeAt,Instr.sureAddr,storeVar,f,e]
  simp only[execOp,n,hp,r,Xt,j,k,rA,Yb]
 exact zgW q (i _ (h.part (ds:=vs) (o:=c) m) (zQ b vs c w).1 (zQ b vs c w).2)
theorem qK{rest:List Oper}{a:Act}{w:Xn}(d:o.guard=Xb)(f p x)(l:o.op=.store f p x)(b c:Nat)(hp:a.eval p=Xj (Xa ⟨b,c,Xb⟩))(g:Xq)(m:a.eval x=g)(vs:List Xq)(e:g.cells=vs.toArray)
  {t:TypeId}{cs:List Xq}(j:zg w b t cs)(k:c+vs.length<=cs.length)(hi:(Tryz.prog.info? f).map (·.size)=Xa vs.length)(i:∀v∈vs,v.oneCell'=Xc)
  (h:∀w',zg w' b t (splice cs c vs)->w.grownBy w' (Xa b)->w'.heap.size=w.heap.size->wpList prog ops Q rest (a.put o.dst undef) w'):wpList prog ops Q (o::rest) a w:=
 wpList_plain d fun _ d=>(jQ (K:=fun v w'=>v=undef/\wpList prog ops Q rest (a.put o.dst undef) w') f p x l b c hp g m vs e j k hi i (fun w' c e f=>⟨rfl,h w' c e f⟩)).wp (fun v w' c=>d _ _ (Rx c.1 c.2))
theorem zbe{a:Act}{w:Xn}{K:Xq->Xn->Prop}(e x)(i:o.op=.load e x)(b c:Nat)(k:a.eval x=Xj (Xa ⟨b,c,Xb⟩))(vs:List Xq)(f:w.rangeAt b c vs){d:TypeDesc}(j:Tryz.prog.underlying e=Xa d)(g:d.isRow=Xc)(hi:(Tryz.prog.info? e).map (·.size)=Xa vs.length)(h:K (Xi vs.toArray) w):zI prog o a w K:=by
 have:=run_loadAt_mid (P:=prog) w b c e vs d f j g hi;exact zI.step (by simp only[execOp,i,k,Xt,this,rA,Yb]) h
theorem zkU{a:Act}{w:Xn}{K:Xq->Xn->Prop}(f:TypeId)(x:Operand)(j:o.op=.load f x)(b c:Nat)(l:a.eval x=Xj (Xa ⟨b,c,Xb⟩))(v:Xq)(i:w.cell? ⟨b,c,Xb⟩=Xa v){d:TypeDesc}(k:Tryz.prog.underlying f=Xa d)(m:d.isRow=Xd)(h:K v w):zI prog o a w K:=by
 have e:(isAgg f).run prog w=.ok Xd w:=by
  unfold isAgg;rw[Xt,run_underlying k w]
  cases d<;>simp_all [TypeDesc.isRow]
 have g:(loadVar f ⟨b,c,Xb⟩).run prog w=.ok v w:=by simp[loadVar,Xt,e,i]
 exact zI.step (by simp only[execOp,j,l,Instr.loadAt,Instr.sureAddr,Xt,Yb,g,rA]) h
theorem zcj{α:Type}{E:Elt α}{w:Xn}{a:Act}{K:Xq->Xn->Prop}(p x t)(s:o.op=.store t p x)(base:Nat)(v:Xq)(l:List α)(c:zb E base w v l)
  (g i j:Nat)(n:v.ownBlock=Xa g)(e y:α)(hi:l[i]?=Xa e)(cs:List Xq)(r:(Tryz.prog.info? t).map (·.size)=Xa cs.length)(A:E.enc y=splice (E.enc e) j cs)(q:j+cs.length<=E.k)(m:∀u∈cs,u.oneCell'=Xc)
  (b:Addr)(hp:a.eval p=Xj (Xa b))(f:b=⟨g,i*E.k+j,Xb⟩)(d:Xq)(z:a.eval x=d)(h:d.cells=cs.toArray)
  (k:∀w',zb E base w' v (l.set i y)->w.grownBy w' (Xa g)->w'.heap.size=w.heap.size->K undef w'):zI prog o a w K:=by
 grind[zdQ,zgW]
theorem zaD.form{w:Xn}{t:List (List En)}(h:zaD B0 B1 w us t):∃a t1 t2 t3 b c d e:Sli,us=[a.v,t1.v,t2.v,t3.v,b.v,c.v,d.v,e.v]:=by
 obtain⟨u0,u1,u2,u3,u4,u5,u6,u7,rfl⟩:=zoM h.len;obtain⟨a,a,a,a,a,a,a,a,rfl⟩:=zoM h.aO;obtain⟨a,j,rfl,_⟩:=(h.row 0 _ _ rfl rfl).now.rows;obtain⟨b,k,rfl,_⟩:=(h.row 1 _ _ rfl rfl).now.rows;obtain⟨c,l,rfl,_⟩:=(h.row 2 _ _ rfl rfl).now.rows;obtain⟨d,m,rfl,_⟩:=(h.row 3 _ _ rfl rfl).now.rows;obtain⟨e,n,rfl,_⟩:=(h.row 4 _ _ rfl rfl).now.rows;obtain⟨f,p,rfl,_⟩:=(h.row 5 _ _ rfl rfl).now.rows;obtain⟨g,q,rfl,_⟩:=(h.row 6 _ _ rfl rfl).now.rows;obtain⟨i,r,rfl,_⟩:=(h.row 7 _ _ rfl rfl).now.rows;exact⟨⟨a,_,j⟩,⟨b,_,k⟩,⟨c,_,l⟩,⟨d,_,m⟩,⟨e,_,n⟩,⟨f,_,p⟩,⟨g,_,q⟩,⟨i,_,r⟩,rfl⟩
theorem zjl(m:Ma)(e:En)(n:Int):(Qj m e n).sp=m.sp:=by
 unfold Qj
 split
 ·rfl
 split<;>rfl
theorem zkQ(m:Ma)(q:Nat)(n:Int)(e):(jp m q n e).sp.length=m.sp.length:=by simp[jp]
def znt(m:Ma):Prop:=∀s∈m.sp,(wrL s.aE).1=0/\tbW s.tb=0
theorem zlY(h:Qe m=0):znt m:=fun s a=>by
 unfold Qe at h
 split at h
 ·cases h
 have:=zp.1 h (spE s) (Xy.2 ⟨s,a,rfl⟩)
 grind[spE]
theorem zqh{s:Sp}(h:tbW s.tb=0)(n:Nat):enW (zl s n)=0:=by
 unfold zl zcv;have a:=Z7.1 h;have:ziS (s.tb[n/8]?.getD []):=by
  cases e:s.tb[n/8]? with
  |none=>exact .inl rfl
  |some x=>exact a x (mG e)
 exact this.get (n%8)
theorem zfk{s:Sp}{n:Nat}(h:n<64):zdT s.tb (n:Int)=zl s n:=by
 unfold zdT zl;rw[kE Wm,tN]
theorem zgi{s:Sp}{n:Nat}(h:(qG s)[j]?=Xa n):n<64:=by
 have:=mG h;unfold qG at this;rw[List.mem_filter,Yl]at this;exact this.1
theorem zfA:∀{l:List Ar}{p:Option Ar}{k:Nat}{a:Ar},Qd p l->l[k]?=Xa a->jK a
 |[],_,_,_,_,h=>by simp at h
 |b::l,p,0,a,c,h=>by
  simp at h
  subst h;exact c.1
 |b::l,p,k+1,a,c,h=>zfA c.2.2 (Si h)
structure JX where
 ty:TypeId
 enc:Int×Int->Xq
 bT:∃fs,Tryz.prog.underlying ty=Xa (.struct fs)
 check:∀(em:Bool)(a:Int×Int)(w:Xn),(Instr.checkKey em 10000 ty (enc a)).run prog w=.ok () w
 same:∀(a b:Int×Int)(w:Xn),(Op.equal ty (enc a) (enc b)).run prog w=.ok (decide (a=b)) w
 bits:∀a:Int×Int,Instr.sameBits 10000 (enc a) (enc a)=Xc
def J1:List ((Int×Int)×Int)->Int×Int->Option Int
 |[],_=>Xb
 |p::l,k=>if k=p.1 then Xa p.2 else J1 l k
def zdk:List ((Int×Int)×Int)->Int×Int->Nat->Option (Nat×Xq)
 |[],_,_=>Xb
 |p::l,k,i=>if k=p.1 then Xa (i,Xe Xf p.2)else zdk l k (i+1)
def zhS:List ((Int×Int)×Int)->Int×Int->Int->List ((Int×Int)×Int)
 |[],k,v=>[(k,v)]
 |p::l,k,v=>if k=p.1 then(k,v)::l else p::zhS l k v
theorem za0:∀(l:List ((Int×Int)×Int))(k x:Int×Int)(v:Int),J1 (zhS l k v) x=if x=k then Xa v else J1 l x
 |[],k,x,v=>by simp[zhS,J1]
 |p::l,k,x,v=>by
  unfold zhS
  by_cases h:k=p.1
  ·rw[kE h];unfold J1
   by_cases a:x=k
   ·simp[a]
   have b:¬x=p.1:=fun e=>a (e.trans h.symm)
   simp[a,b]
  rw[kF h];unfold J1;rw[za0 l]
  by_cases a:x=p.1
  ·rw[kE a,kE a,kF (fun e=>h (e.symm.trans a))]
  rw[kF a,kF a]
theorem JQ:∀{l:List ((Int×Int)×Int)}{k:Int×Int}{i:Nat},zdk l k i=Xb->J1 l k=Xb/\∀v,zhS l k v=l++[(k,v)]
 |[],k,i,_=>⟨rfl,fun v=>rfl⟩
 |p::l,k,i,h=>by
  unfold zdk at h
  by_cases e:k=p.1
  ·rw[kE e]at h;cases h
  rw[kF e]at h;obtain⟨a,b⟩:=JQ h;refine⟨by unfold J1;rw[kF e,a],fun v=>?_⟩
  unfold zhS;rw[kF e,b];rfl
theorem JP:∀{l:List ((Int×Int)×Int)}{k:Int×Int}{i j:Nat}{u:Xq},zdk l k i=Xa (j,u)->∃n z,u=I6 z/\j=i+n/\l[n]?=Xa (k,z)/\J1 l k=Xa z/\∀v,zhS l k v=l.set n (k,v)
 |[],k,i,j,u,h=>by cases h
 |p::l,k,i,j,u,h=>by
  unfold zdk at h
  by_cases e:k=p.1
  ·rw[kE e]at h;cases h;refine⟨0,p.2,rfl,rfl,Rr e,by unfold J1;rw[kE e],fun v=>?_⟩
   unfold zhS;rw[kE e];rfl
  rw[kF e]at h;obtain⟨n,z,a,b,b,c,d⟩:=JP h;refine⟨n+1,z,a,Wm,Si b,by unfold J1;rw[kF e,c],fun v=>?_⟩
  unfold zhS;rw[kF e,d];rfl
def Zh(K:JX)(w:Xn)(b:Nat)(g:Int×Int->Option Int):Prop:=
 ∃es clock l,w.heap[b]?=Xa (.map es clock)/\(es.toList.map (fun e=>(e.key,e.val))=l.map (fun p:(Int×Int)×Int=>(K.enc p.1,Value.int .i64 p.2))/\(es.toList.map (·.born)).Pairwise (·<·)/\∀e∈es.toList,e.born<clock)/\∀k,J1 l k=g k
theorem Zh.lt{K:JX}{w:Xn}{g:Int×Int->Option Int}(h:Zh K w b g):b<w.heap.size:=by
 obtain⟨a,c,l,a,_⟩:=h;exact(aS.1 a).1
theorem Zh.made(K:JX)(w:Xn):Zh K (w.alloc (.map #[] 0)) w.heap.size (fun _=>Xb):=⟨#[],0,[],by
 show(w.heap.push _)[w.heap.size]?=_
 simp,⟨rfl,List.Pairwise.nil,fun e a=>by cases a⟩,fun k=>rfl⟩
theorem Zh.aA{K:JX}{w:Xn}{g:Int×Int->Option Int}(h:Zh K w b g)(i:zc w w'):Zh K w' b g:=by
 have a:=h.lt;obtain⟨d,c,l,e,f⟩:=h;exact⟨d,c,l,(Below.block i b a).trans e,f⟩
theorem Zh.kept{K:JX}{w:Xn}{g:Int×Int->Option Int}{a:Option Nat}(h:Zh K w b g)(j:w.grownBy w' a)(c:Xa b≠a):Zh K w' b g:=by
 have a:=h.lt;obtain⟨e,d,l,f,i⟩:=h;exact⟨e,d,l,(j.block b a c).trans f,i⟩
theorem Zh.congr{K:JX}{w:Xn}{g a:Int×Int->Option Int}(h:Zh K w b g)(e:∀k,g k=a k):Zh K w b a:=by
 obtain⟨a,c,l,d,f,i⟩:=h;exact⟨a,c,l,d,f,fun k=>(i k).trans (e k)⟩
theorem zaa(K:JX)(k:Int×Int)(w):∀(l:List ((Int×Int)×Int))(a:List MapEntry)(i:Nat),a.map (fun e=>(e.key,e.val))=l.map (fun p=>(K.enc p.1,I6 p.2))->(Instr.findAsking K.ty (K.enc k) a i).run prog w=.ok (zdk l k i) w
 |[],[],i,_=>rfl
 |[],e::a,i,h=>by simp at h
 |p::l,[],i,h=>by simp at h
 |p::l,e::a,i,h=>by
  simp only[mP,List.cons.injEq,pJ]at h;obtain⟨⟨b,c⟩,d⟩:=h;unfold Instr.findAsking zdk;simp only[Xt,b,K.same,rA]
  by_cases b:k=p.1
  ·simp[b,c]
  simp[b,zaa K k w l a (i+1) d]
theorem zan(K:JX)(k:Int×Int)(w)(l:List ((Int×Int)×Int))(a:List MapEntry)(h:a.map (fun e=>(e.key,e.val))=l.map (fun p=>(K.enc p.1,I6 p.2))):(Instr.findKey K.ty (K.enc k) a).run prog w=.ok (zdk l k 0) w:=by
 obtain⟨b,c⟩:=K.bT;unfold Instr.findKey;simp only[Xt,run_underlying c,rA]
 cases a with
 |nil=>
  cases l with
  |nil=>rfl
  |cons p l=>simp at h
 |cons e a=>
  have:Instr.findNow (.struct b) (K.enc k) (e::a) 0=Xb:=by simp[Instr.findNow,Instr.sameNow]
  rw[this];exact zaa K k w l (e::a) 0 h
theorem Zh.look{K:JX}{w:Xn}{g:Int×Int->Option Int}(a:Zh K w b g){e:TypeId}(j:Tryz.prog.underlying t=Xa (.map K.ty e))(m:(zeroValue e).run prog w=.ok (I6 0) w)(k:Int×Int)(c:Bool):
  (Instr.lookup t (.map (Xa b)) (K.enc k) c).run prog w=.ok (if c then Xm #[I6 ((g k).getD 0),Xh (g k).isSome]else I6 ((g k).getD 0)) w:=by
 obtain⟨d,f,l,f,⟨i,_⟩,h⟩:=a;have a:=zan K k w l d.toList i;unfold Instr.lookup
 cases d:zdk l k 0 with
 |none=>
  rw[d]at a;have:=(JQ d).1;rw[h k]at this
  cases c<;>simp[run_underlying j,MapKept.run_getObj_map f,K.check,a,m,this]
 |some q=>
  obtain⟨i,u⟩:=q;rw[d]at a;obtain⟨n,z,rfl,_,_,i,_⟩:=JP d;rw[h k]at i
  cases c<;>simp[run_underlying j,MapKept.run_getObj_map f,K.check,a,i]
theorem zc1(f:MapEntry->MapEntry)(b:∀e,(f e).born=e.born):∀(a:List MapEntry)(n:Nat),(a.modify n f).map (·.born)=a.map (·.born)
 |[],n=>Sm
 |e::a,0=>by simp[b]
 |e::a,n+1=>by simp[zc1 f b a n]
structure Zg(K:JX)(es:Array MapEntry)(cl:Nat)(l:List ((Int×Int)×Int)):Prop where
 bZ:es.toList.map (fun e=>(e.key,e.val))=l.map (fun p=>(K.enc p.1,Value.int .i64 p.2))
 rise:(es.toList.map (·.born)).Pairwise (·<·)
 low:∀e∈es.toList,e.born<cl
theorem Zg.push{K:JX}{a:Array MapEntry}{l:List ((Int×Int)×Int)}(h:Zg K a cl l)(k:Int×Int)(v:Int):Zg K (a.push ⟨K.enc k,I6 v,cl⟩) (cl+1) (l++[(k,v)]):=by
 refine⟨by simp[h.bZ],?_,fun e a=>?_⟩
 ·simp only[Oo,Yx,mP,Yw];rw[List.pairwise_append];refine⟨h.rise,Sm,fun b c b b=>?_⟩
  obtain⟨e,a,rfl⟩:=Xy.1 c
  simp at b
  rw[b];exact h.low e a
 simp only[Oo,Yc,Og]at a
 rcases a with a|rfl
 ·have:=h.low e a;omega
 simp
theorem Zg.modify{K:JX}{a:Array MapEntry}{l:List ((Int×Int)×Int)}(h:Zg K a cl l){n:Nat}{k:Int×Int}(d:l[n]?=Xa (k,z))(f:MapEntry->MapEntry)(v:Int)(c:∀e,(f e).born=e.born)(b:∀e,e.key=K.enc k->e.val=I6 z->(f e).key=K.enc k/\(f e).val=I6 v):Zg K (a.modify n f) cl (l.set n (k,v)):=by
 have b:(a.modify n f).toList.map (·.born)=a.toList.map (·.born):=by rw[Od];exact zc1 f c a.toList n
 refine⟨?_,Rx b h.rise,fun e c=>?_⟩
 ·have d:=h.bZ;rw[Od]
  apply Yf
  intro j;have g:=congrArg (fun(x:List (Xq×Xq))=>x[j]?) d
  grind
 have:e.born∈a.toList.map (·.born):=by rw[<-b];exact Xy.2 ⟨e,c,rfl⟩
 obtain⟨b,a,c⟩:=Xy.1 this;rw[<-c];exact h.low b a
theorem Zg.at{K:JX}{b:Array MapEntry}{l:List ((Int×Int)×Int)}(h:Zg K b cl l){n:Nat}{k:Int×Int}(a:l[n]?=Xa (k,z)):∃a,b[n]?=Xa a/\a.key=K.enc k/\a.val=I6 z:=by
 have:=congrArg (fun(x:List (Xq×Xq))=>x[n]?) h.bZ
 grind
theorem zjB:∀{l:List Nat},l.Pairwise (·<·)->∀{i j:Nat}{x:Nat},l[i]?=Xa x->l[j]?=Xa x->i=j
 |[],_,i,j,x,h,_=>by simp at h
 |a::l,hp,i,j,x,h,b=>by
  rw[List.pairwise_cons]at hp
  cases i with
  |zero=>
   cases j with
   |zero=>rfl
   |succ j=>
    simp at h b
    subst h;have:=hp.1 a (mG b);omega
  |succ i=>
   cases j with
   |zero=>
    simp at h b
    subst b;have:=hp.1 a (mG h);omega
   |succ j=>
    simp at h b
    rw[zjB hp.2 h b]
theorem zc3{K:JX}{w:Xn}{f c:Array MapEntry}{a:Nat}{l:List ((Int×Int)×Int)}{g:Int×Int->Option Int}{k:Int×Int}{v:Int}(e:w.heap[b]?=Xa (.map f cl))(h:∀k,J1 l k=g k)(d:Zg K c a (zhS l k v)):
  Zh K (ChangeMaps.setBlock w b (.map c a)) b (fun x=>if x=k then Xa v else g x)/\w.grownBy (ChangeMaps.setBlock w b (.map c a)) (Xa b)/\(ChangeMaps.setBlock w b (.map c a)).heap.size=w.heap.size:=by
 refine⟨⟨c,a,zhS l k v,ChangeMaps.heap_setBlock_same e _,⟨d.bZ,d.rise,d.low⟩,fun x=>?_⟩,⟨rfl,rfl,rfl,by simp[ChangeMaps.setBlock],fun i _ a=>ChangeMaps.heap_setBlock_other e _ (fun e=>a (by rw[e]))⟩,by simp[ChangeMaps.setBlock]⟩
 rw[za0,h]
theorem Zh.put{K:JX}{w:Xn}{g:Int×Int->Option Int}(a:Zh K w b g){e:TypeId}(n:Tryz.prog.underlying t=Xa (.map K.ty e))(k:Int×Int)(v:Int):
  ∃w',(Instr.mapUpdate t (.map (Xa b)) (K.enc k) (I6 v)).run prog w=.ok () w'/\Zh K w' b (fun x=>if x=k then Xa v else g x)/\w.grownBy w' (Xa b)/\w'.heap.size=w.heap.size:=by
 obtain⟨i,h,l,c,⟨f,d,j⟩,m⟩:=a;have a:Zg K i h l:=⟨f,d,j⟩;have d:=zan K k w l i.toList f
 cases j:zdk l k 0 with
 |none=>
  rw[j]at d;have f:=(JQ j).2 v;refine⟨ChangeMaps.setBlock w b (.map (i.push ⟨K.enc k,I6 v,h⟩) (h+1)),?_,zc3 c m (Rx f (a.push k v))⟩
  simp[Instr.mapUpdate,run_underlying n,MapKept.run_getObj_map c,K.check,d,MapKept.run_setObj_map _ c,ChangeMaps.setBlock]
 |some q=>
  obtain⟨f,u⟩:=q;rw[j]at d;obtain⟨q,z,rfl,rfl,l,_,p⟩:=JP j;rw[zA]at d;obtain⟨f,f,j,_⟩:=a.at l;refine⟨ChangeMaps.setBlock w b (.map (i.modify q fun e=>{e with key:=K.enc k,val:=I6 v}) h),?_,zc3 c m (by rw[p];exact a.modify l _ v (fun _=>rfl) (fun _ _ _=>⟨rfl,rfl⟩))⟩
  simp[Instr.mapUpdate,run_underlying n,MapKept.run_getObj_map c,K.check,d,f,j,Instr.keyThatStays,K.bits,MapKept.run_setObj_map _ c,ChangeMaps.setBlock]
def zqG(K:JX)(w:Xn)(b:Nat)(g:Int×Int->Option Int)(k:Int×Int)(st:Int):Prop:=
 ∃es cl l,w.heap[b]?=Xa (.map es cl)/\Zg K es cl l/\(∀k,J1 l k=g k)/\∃(n:Nat)(z:Int)(e:MapEntry),l[n]?=Xa (k,z)/\(∀v,zhS l k v=l.set n (k,v))/\es[n]?=Xa e/\(e.born:Int)=st
theorem zqG.f{K:JX}{w:Xn}{g:Int×Int->Option Int}{k:Int×Int}{a:Int}(h:zqG K w b g k a):Zh K w b g:=by
 obtain⟨d,c,l,e,a,f,_⟩:=h;exact⟨d,c,l,e,⟨a.bZ,a.rise,a.low⟩,f⟩
theorem zgd:∀{l:List ((Int×Int)×Int)}{k:Int×Int}(z v:Int),J1 l k=Xb->zhS (l++[(k,z)]) k v=(l++[(k,z)]).set l.length (k,v)
 |[],k,z,v,_=>by simp[zhS]
 |p::l,k,z,v,h=>by
  unfold J1 at h
  by_cases e:k=p.1
  ·rw[kE e]at h;cases h
  rw[kF e]at h;simp only[Yi,zhS,e,if_false,Xv,sS];rw[zgd z v h]
theorem Zh.entry{K:JX}{w:Xn}{g:Int×Int->Option Int}(h:Zh K w b g){e:TypeId}(A:Tryz.prog.underlying t=Xa (.map K.ty e))(s:(zeroValue e).run prog w=.ok (I6 0) w)(k:Int×Int):
  ∃w' a,(Instr.mapEntry t (.map (Xa b)) (K.enc k)).run prog w=.ok (Xm #[I6 ((g k).getD 0),I6 a]) w'/\zqG K w' b (fun x=>if x=k then Xa ((g k).getD 0)else g x) k a/\w.grownBy w' (Xa b)/\w'.heap.size=w.heap.size:=by
 obtain⟨i,f,l,c,⟨r,a,d⟩,j⟩:=h;have h:Zg K i f l:=⟨r,a,d⟩;have m:=zan K k w l i.toList r
 cases q:zdk l k 0 with
 |none=>
  rw[q]at m;obtain⟨p,d⟩:=JQ q;have n:g k=Xb:=Ry j p
  have a:=h.push k 0;have u:=zc3 c j (k:=k) (v:=0) (Rx d a)
  refine⟨ChangeMaps.setBlock w b (.map (i.push ⟨K.enc k,I6 0,f⟩) (f+1)),f,?_,⟨_,_,_,ChangeMaps.heap_setBlock_same c _,a,fun x=>?_,l.length,0,⟨K.enc k,I6 0,f⟩,Sm,fun B=>zgd 0 B p,?_,rfl⟩,u.2⟩
  ·rw[n]
   simp[Instr.mapEntry,run_underlying A,MapKept.run_getObj_map c,K.check,m,s,MapKept.run_setObj_map _ c,ChangeMaps.setBlock,goInt]
  ·rw[n,<-d,za0,j];rfl
  have:i.size=l.length:=by have:=congrArg Yq r;simpa using this
  simp[<-this]
 |some d=>
  obtain⟨p,p⟩:=d;rw[q]at m;obtain⟨r,z,rfl,rfl,p,C,s⟩:=JP q;rw[zA]at m;obtain⟨y,d,q,D⟩:=h.at p;have n:g k=Xa z:=Ry j C
  have a:Zg K (i.modify r fun e=>{e with key:=K.enc k}) f (l.set r (k,z)):=h.modify p (fun e=>{e with key:=K.enc k}) z (fun _=>rfl) (fun _ _ h=>⟨rfl,h⟩)
  have u:=zc3 c j (k:=k) (v:=z) (Rx s a)
  have h:=(gS.1 p).1;refine⟨ChangeMaps.setBlock w b (.map (i.modify r fun e=>{e with key:=K.enc k}) f),y.born,?_,⟨_,_,_,ChangeMaps.heap_setBlock_same c _,a,fun x=>?_,r,z,{y with key:=K.enc k},sF h,fun B=>?_,?_,rfl⟩,u.2⟩
  ·rw[n]
   simp[Instr.mapEntry,run_underlying A,MapKept.run_getObj_map c,K.check,m,d,q,Instr.keyThatStays,K.bits,MapKept.run_setObj_map _ c,ChangeMaps.setBlock,goInt]
  ·rw[n,<-s,za0,j];rfl
  ·rw[znV p,s]
  rw[Array.getElem?_modify,kE rfl,d];rfl
theorem zqG.store{K:JX}{w:Xn}{g:Int×Int->Option Int}{k:Int×Int}{a:Int}(h:zqG K w b g k a)(t)(v:Int):
  ∃w',(Instr.entryStore t (.map (Xa b)) (I6 a) (I6 v)).run prog w=.ok () w'/\Zh K w' b (fun x=>if x=k then Xa v else g x)/\w.grownBy w' (Xa b)/\w'.heap.size=w.heap.size:=by
 obtain⟨a,p,l,i,f,q,n,z,e,r,s,c,rfl⟩:=h;have j:=(aS.1 c).1;have d:a.findIdx? (fun h=>(h.born:Int)==(e.born:Int))=Xa n:=by
  rw[Array.findIdx?_eq_some_iff_getElem];refine⟨j,?_,fun j l=>?_⟩
  ·have:a[n]=e:=(aS.1 c).2
   simp[this]
  intro u;have m:j<a.size:=Wm
  have l:a[j].born=e.born:=by
   have:(a[j].born:Int)=(e.born:Int):=Si u
   omega
  have u:(a.toList.map (·.born))[n]?=Xa e.born:=by simp[c]
  have c:(a.toList.map (·.born))[j]?=Xa e.born:=by simp[m,l]
  have:=zjB f.rise u c;omega
 refine⟨ChangeMaps.setBlock w b (.map (a.modify n fun h=>{h with val:=I6 v}) p),?_,zc3 i q (by rw[s];exact f.modify r _ v (fun _=>rfl) (fun _ a _=>⟨a,rfl⟩))⟩
 simp[Instr.entryStore,MapKept.run_getObj_map i,asInt,asIntOf,d,MapKept.run_setObj_map _ i,ChangeMaps.setBlock]
theorem zlu{K:JX}{w:Xn}{rest:List Oper}{a:Act}(c:o.guard=Xb)(t e m x v)(f:o.op=.mapUpdate t m x v)(l:Tryz.prog.underlying t=Xa (.map K.ty e))(b:Nat)(g:Int×Int->Option Int)(h:Zh K w b g)(k:Int×Int)(z:Int)
  (j:a.eval m=.map (Xa b))(p:a.eval x=K.enc k)(n:a.eval v=I6 z)
  (i:∀w',Zh K w' b (fun x=>if x=k then Xa z else g x)->w.grownBy w' (Xa b)->w'.heap.size=w.heap.size->wpList prog ops Q rest (a.put o.dst undef) w'):wpList prog ops Q (o::rest) a w:=by
 refine wpList_plain c fun c d=>?_
 obtain⟨w',c,q,r,s⟩:=h.put l k z;unfold Oper.wp
 simp[execOp,f,j,p,n,c,Result.andThen]
 exact d _ _ (i w' q r s)
theorem zl3(em:Bool)(a:Int×Int)(w):(Instr.checkKey em 10000 198 (Xi #[I6 a.1,I6 a.2])).run prog w=.ok () w:=by
 have hf:(Tryz.prog.fieldsOf 198).toList.map (fun f=>(f.name,f.type,f.offset))=[("file",3,0),("index",3,1)]:=by kernel_rfl
 have hu:∃fs,Tryz.prog.underlying 198=Xa (.struct fs)/\Tryz.prog.fieldsOf 198=fs:=⟨_,underlying198,Kr⟩
 obtain⟨fs,hu,hfe⟩:=hu;rw[hfe]at hf;obtain⟨f0,f1,hfs⟩:∃f0 f1,fs.toList=[f0,f1]:=by
  have hl:fs.toList.length=2:=by have:=congrArg Yq hf;simpa using this
  match hq:fs.toList,hl with
  |[f0,f1],_=>exact⟨f0,f1,rfl⟩
 rw[hfs]at hf
 simp at hf
 obtain⟨⟨n0,t0,o0⟩,⟨n1,t1,o1⟩⟩:=hf;have pI:=zcT w;have pB:=zd9 w;have cI:∀(v:Int)(n:Nat),(Instr.checkKey em (n+1) 3 (I6 v)).run prog w=.ok () w:=fun v n=>by
  unfold Instr.checkKey
  simp[run_underlying underlying3]
 have cB:∀(v:Bool)(n:Nat),(Instr.checkKey em (n+1) 4 (Xh v)).run prog w=.ok () w:=fun v n=>by
  unfold Instr.checkKey
  simp[run_underlying underlying4]
 rw[show(10000:Nat)=9999+1 from rfl,Instr.checkKey]
 simp only[Xt,run_underlying hu,rA];rw[<-Oh,hfs];have k1:=cI a.1 9998;have k2:=cI a.2 9998;have k3:=cB Xd 9998;have q0:=pI (#[I6 a.1,I6 a.2]) 0 a.1 rfl;have q1:=pI (#[I6 a.1,I6 a.2]) 1 a.2 rfl
 simp[List.forIn_cons,n0,t0,o0,n1,t1,o1,q0,q1,k1,k2]
theorem zn4(a b:Int×Int)(w):(Op.equal 198 (Xi #[I6 a.1,I6 a.2]) (Xi #[I6 b.1,I6 b.2])).run prog w=.ok (decide (a=b)) w:=by
 have hf:(Tryz.prog.fieldsOf 198).toList.map (fun f=>(f.name,f.type,f.offset))=[("file",3,0),("index",3,1)]:=by kernel_rfl
 unfold Op.equal Op.maxDepth;rw[run_equalIn_struct w 9999 198 _ _ Kr Kr]
 obtain⟨f0,f1,hfs⟩:∃f0 f1,(Tryz.prog.fieldsOf 198).toList=[f0,f1]:=by
  have hl:(Tryz.prog.fieldsOf 198).toList.length=2:=by have:=congrArg Yq hf;simpa using this
  match hq:(Tryz.prog.fieldsOf 198).toList,hl with
  |[f0,f1],_=>exact⟨f0,f1,rfl⟩
 rw[hfs]at hf⊢
 simp at hf
 obtain⟨⟨n0,t0,o0⟩,⟨n1,t1,o1⟩⟩:=hf;have pI:=zcT w;have pB:=zd9 w;simp only[Op.eqFields,n0,t0,o0,n1,t1,o1];obtain⟨a1,a2⟩:=a;obtain⟨b1,b2⟩:=b
 simp[pI,run_equalIn_int w _ _ _ _ _ _ underlying3]
 by_cases e1:a1=b1<;>by_cases e2:a2=b2<;>simp[e1,e2]
def plK:JX where
 ty:=198
 enc:=fun a=>Xi #[Xe Xf a.1,Xe Xf a.2]
 bT:=⟨_,underlying198⟩
 check:=zl3
 same:=zn4
 bits:=fun a=>by simp[Instr.sameBits]
theorem zmW(em:Bool)(a:Int×Int)(w):(Instr.checkKey em 10000 127 (Xi #[I6 a.1,I6 a.2,Xh Xd])).run prog w=.ok () w:=by
 have hf:(Tryz.prog.fieldsOf 127).toList.map (fun f=>(f.name,f.type,f.offset))=[("Kind",3,0),("N",3,1),("Write",4,2)]:=by kernel_rfl
 have hu:∃fs,Tryz.prog.underlying 127=Xa (.struct fs)/\Tryz.prog.fieldsOf 127=fs:=⟨_,underlying127,Kr⟩
 obtain⟨fs,hu,hfe⟩:=hu;rw[hfe]at hf;obtain⟨f0,f1,f2,hfs⟩:∃f0 f1 f2,fs.toList=[f0,f1,f2]:=by
  have hl:fs.toList.length=3:=by have:=congrArg Yq hf;simpa using this
  match hq:fs.toList,hl with
  |[f0,f1,f2],_=>exact⟨f0,f1,f2,rfl⟩
 rw[hfs]at hf
 simp at hf
 obtain⟨⟨n0,t0,o0⟩,⟨n1,t1,o1⟩,⟨n2,t2,o2⟩⟩:=hf;have pI:=zcT w;have pB:=zd9 w;have cI:∀(v:Int)(n:Nat),(Instr.checkKey em (n+1) 3 (I6 v)).run prog w=.ok () w:=fun v n=>by
  unfold Instr.checkKey
  simp[run_underlying underlying3]
 have cB:∀(v:Bool)(n:Nat),(Instr.checkKey em (n+1) 4 (Xh v)).run prog w=.ok () w:=fun v n=>by
  unfold Instr.checkKey
  simp[run_underlying underlying4]
 rw[show(10000:Nat)=9999+1 from rfl,Instr.checkKey]
 simp only[Xt,run_underlying hu,rA];rw[<-Oh,hfs];have k1:=cI a.1 9998;have k2:=cI a.2 9998;have k3:=cB Xd 9998;have q0:=pI (#[I6 a.1,I6 a.2,Xh Xd]) 0 a.1 rfl;have q1:=pI (#[I6 a.1,I6 a.2,Xh Xd]) 1 a.2 rfl;have q2:=pB (#[I6 a.1,I6 a.2,Xh Xd]) 2 Xd rfl
 simp[List.forIn_cons,n0,t0,o0,n1,t1,o1,n2,t2,o2,q0,q1,q2,k1,k2,k3]
theorem zoL(a b:Int×Int)(w):(Op.equal 127 (Xi #[I6 a.1,I6 a.2,Xh Xd]) (Xi #[I6 b.1,I6 b.2,Xh Xd])).run prog w=.ok (decide (a=b)) w:=by
 have hf:(Tryz.prog.fieldsOf 127).toList.map (fun f=>(f.name,f.type,f.offset))=[("Kind",3,0),("N",3,1),("Write",4,2)]:=by kernel_rfl
 unfold Op.equal Op.maxDepth;rw[run_equalIn_struct w 9999 127 _ _ Kr Kr]
 obtain⟨f0,f1,f2,hfs⟩:∃f0 f1 f2,(Tryz.prog.fieldsOf 127).toList=[f0,f1,f2]:=by
  have hl:(Tryz.prog.fieldsOf 127).toList.length=3:=by have:=congrArg Yq hf;simpa using this
  match hq:(Tryz.prog.fieldsOf 127).toList,hl with
  |[f0,f1,f2],_=>exact⟨f0,f1,f2,rfl⟩
 rw[hfs]at hf⊢
 simp at hf
 obtain⟨⟨n0,t0,o0⟩,⟨n1,t1,o1⟩,⟨n2,t2,o2⟩⟩:=hf;have pI:=zcT w;have pB:=zd9 w;simp only[Op.eqFields,n0,t0,o0,n1,t1,o1,n2,t2,o2];obtain⟨a1,a2⟩:=a;obtain⟨b1,b2⟩:=b
 simp[pI,pB,run_equalIn_bool' w _ _ _ _ underlying4,run_equalIn_int w _ _ _ _ _ _ underlying3]
 by_cases e1:a1=b1<;>by_cases e2:a2=b2<;>simp[e1,e2]
def enK:JX where
 ty:=127
 enc:=fun a=>Xi #[Xe Xf a.1,Xe Xf a.2,Xh Xd]
 bT:=⟨_,underlying127⟩
 check:=zmW
 same:=zoL
 bits:=fun a=>by simp[Instr.sameBits]
theorem Box.bK{K:JX}{w:Xn}{cs:List Xq}{g:Int×Int->Option Int}(h:Box w b cs)(k:Zh K w B g):b≠B:=fun e=>by
 subst e;obtain⟨t,h⟩:=h;obtain⟨a,a,l,a,_⟩:=k
 grind
theorem zb.bK{α:Type}{E:Elt α}{K:JX}{w:Xn}{base:Nat}{v:Xq}{l:List α}{g:Int×Int->Option Int}(h:zb E base w v l)(k:Zh K w B g):∀x,v.ownBlock=Xa x->Xa B≠Xa x:=fun x a e=>by
 cases e;obtain⟨b,b⟩:=h.obj a;obtain⟨a,a,l,a,_⟩:=k
 grind
theorem zr8(w):(zeroValue 3).run prog w=.ok (I6 0) w:=by kernel_rfl
theorem QJ(V:MaV)(m:Ma)(w)(z:zq w V m):
  Xp prog 70 #[Xi (mL V m).toArray] w fun e w'=>∃Q,e=Xl (Xi #[V.f.x,I6 m.aB,V.s.x,V.sb.x,V.sq.x,V.db.x,V.dq.x,V.fl.x,I6 m.cnt,V.ca.x,V.sp.x,.map (Xa Q)])/\Zh plK w' Q (Zz m.ca)/\zc w w':=by
 obtain⟨s,t,h,j,d,f,g,⟨l,a,b⟩,i⟩:=V;dsimp only[mL];obtain⟨-,-,-,-,-,-,-,L,-⟩:=z.ns;dsimp only at L;have a4:=dD z.cas;have S:=dD L.symm;have Z:a<=9223372036854775807:=Hm z.ca.short
 clear z L;have H:=@run_makeMap prog;obtain⟨x,n⟩:=kB (((w.alloc (Xk #[s.x,I6 m.aB,t.x,h.x,j.x,d.x,f.x,g.x,I6 m.cnt,O l a b,i.x] 45)).alloc (Xk #[eS,I6 0,eS,eS,eS,eS,eS,eS,I6 0,eS,eS,.map Xb] 131)).alloc (.map #[] 0));have B:Xo (zc w x):=dD<|by rw[<-n];exact((za _ _).trans (za _ _)).trans (za _ _)
 have W:Xo (Box x w.heap.size [s.x,I6 m.aB,t.x,h.x,j.x,d.x,f.x,g.x,I6 m.cnt,O l a b,i.x]):=dD<|by rw[<-n];exact((Box.aD _ _ _ rfl).alloc _).alloc _
 have ac:Xo (Box x (w.heap.size+1) [eS,I6 0,eS,eS,eS,eS,eS,eS,I6 0,eS,eS,.map Xb]):=dD<|by rw[<-n];exact(Box.aD _ _ _ Sm).alloc _
 have a5:Xo (Zh plK x (w.heap.size+1+1) (Zz (m.ca.take 0))):=dD<|by
  rw[<-n];have:=Zh.made plK ((w.alloc (Xk #[s.x,I6 m.aB,t.x,h.x,j.x,d.x,f.x,g.x,I6 m.cnt,O l a b,i.x] 45)).alloc (Xk #[eS,I6 0,eS,eS,eS,eS,eS,eS,I6 0,eS,eS,.map Xb] 131));have aq:((w.alloc (Xk #[s.x,I6 m.aB,t.x,h.x,j.x,d.x,f.x,g.x,I6 m.cnt,O l a b,i.x] 45)).alloc (Xk #[eS,I6 0,eS,eS,eS,eS,eS,eS,I6 0,eS,eS,.map Xb] 131)).heap.size=w.heap.size+1+1:=Sm
  rw[aq]at this;exact this.congr fun ar=>Rr Yg
 have E:=dD n;clear n
 go_enter func70,ntmps70
 go_upto_region 2 with fail;rw[E.out];clear H;have P:=W.c 9 rfl;go_wp2;clear P
 go_loopg[10] a (fun an M wr=>∃k:Nat,k<=a/\a-k<=an/\M=I6 k/\Xo (zc w wr)/\Xo (Box wr w.heap.size [s.x,I6 m.aB,t.x,h.x,j.x,d.x,f.x,g.x,I6 m.cnt,O l a b,i.x])/\Xo (Box wr (w.heap.size+1) [eS,I6 0,eS,eS,eS,eS,eS,eS,I6 0,eS,eS,.map Xb])/\Xo (Zh plK wr (w.heap.size+1+1) (Zz (m.ca.take k))))
 exact⟨0,nZ _,Wm,rfl,B,W,ac,a5⟩
 obtain⟨k,ap,ao,rfl,A,X,Y,T⟩:=hrel
 by_cases r:k<a
 ·have v:=kC r
  obtain⟨p,R⟩:∃p,Xo (m.ca[k]?=Xa p):=⟨_,gE (Rx S.out r)⟩
  obtain⟨ag,rfl,I⟩:=a4.out k p R.out;obtain⟨ak,al,am⟩:=I wr A.out;clear I;go_upto_region 5 with fail;obtain⟨a9,c⟩:=kB (wr.alloc (Xk #[I6 p.file,I6 p.idx,I6 p.fr] 105));have C:=gT c A
  have aa:=yA c X
  have ae:=yA c Y
  have a6:Xo (Zh plK a9 (w.heap.size+1+1) (Zz (m.ca.take k))):=dD<|by rw[<-c];exact T.aA (za _ _)
  have a2:=xA c
  rw[c];clear c ak al am;obtain⟨ah,ai,aj⟩:=a2.c3
  go_wp2_with(refine zlu (K:=plK) rfl 129 3 (.tmp 14) (.tmp 19) (.tmp 21) rfl underlying129 (w.heap.size+1+1) _ a6 (p.file,p.idx) p.fr rfl rfl rfl ?_)
  clear ah ai aj;intro y a1 q _;have a7:Xo (Zh plK y (w.heap.size+1+1) (Zz (m.ca.take (k+1)))):=dD<|a1.congr fun ar=>by rw[Zp R.out,zgF]
  have D:Xo (zc w y):=dD<|zd C q Wm
  have ab:Xo (Box y w.heap.size [s.x,I6 m.aB,t.x,h.x,j.x,d.x,f.x,g.x,I6 m.cnt,O (Xa ag) a b,i.x]):=aa.grown q Wm
  have af:Xo (Box y (w.heap.size+1) [eS,I6 0,eS,eS,eS,eS,eS,eS,I6 0,eS,eS,.map Xb]):=ae.grown q Wm
  clear a1 q;go_wp2
  go_roundg (a-(k+1));exact⟨k+1,Wm,Wm,Gn,D,ab,af,a7⟩;omega
 have v:=kD r
 have:k=a:=Wm
 subst this;have F:Xo (Zh plK wr (w.heap.size+1+1) (Zz m.ca)):=dD<|by
  have:=T.out;rw[Xx (by rw[S.out];exact nR _)]at this
  exact this
 obtain⟨au,av,aw,ax,ay,az,b0,b1,b2,P,N⟩:=X.aU
 go_wp2_with(refine zx rfl 131 (.tmp 2) (.tmp 25) rfl (w.heap.size+1) rfl [s.x,I6 m.aB,t.x,h.x,j.x,d.x,f.x,g.x,I6 m.cnt,O l k b,i.x,.map (Xa (w.heap.size+1+1))] rfl Y rfl Kr (fun b3 a0=>by
  simp only[mC,nM,or_false]at a0
  rcases a0 with rfl|rfl|rfl|rfl|rfl|rfl|rfl|rfl|rfl|rfl|rfl|rfl<;>rfl) ?_)
 clear au av aw ax ay az b0 b1 b2 P N;intro U G u _;have a3:Xo (zc w U):=dD<|zd A u Wm
 have a8:Xo (Zh plK U (w.heap.size+1+1) (Zz m.ca)):=F.kept u Sm
 go_wp2;refine bodyPost_ret (zB rfl _ rfl G underlying131 rfl Kr) rfl ⟨_,rfl,a8,a3⟩
theorem zfi(V:MaV)(m:Ma)(B k:Nat)(g:Int×Int->Option Int)(w)(b:zq w V m)(s:k<m.fs.length)(d:Zh plK w B g):
  Xp prog 72 #[Xi #[V.f.x,I6 m.aB,V.s.x,V.sb.x,V.sq.x,V.db.x,V.dq.x,V.fl.x,I6 m.cnt,V.ca.x,V.sp.x,.map (Xa B)],I6 (k:Int)] w fun e w'=>e=Xl (Xh (decide (g ((z3 m k).f,(z3 m k).x)=Xa (k:Int))))/\zc w w':=by
 obtain⟨⟨x,r,y⟩,z,j,p,f,h,i,c,n⟩:=V;dsimp only[mL];obtain⟨t,-⟩:=b.ns;dsimp only at t;have a:k<r:=Wm
 obtain⟨q,l⟩:∃q,Xo (m.fs[k]?=Xa q):=⟨_,gE s⟩;have a:z3 m (k:Int)=q:=by unfold z3;rw[tN,gD,l.out];rfl
 rw[a];obtain⟨v,rfl,u⟩:=(show zjL w x m.fs from b.bC) k q l.out
 clear a b t s;obtain⟨l,b⟩:=kB (w.alloc (Xk #[O (Xa v) r y,I6 m.aB,z.x,j.x,p.x,f.x,h.x,i.x,I6 m.cnt,c.x,n.x,.map (Xa B)] 131));have a:=gA b
 have t:=xA b
 have h:=sA b
 obtain⟨x,y,z,A,C,D,E,F,G,H,n,p,r⟩:=u l a.out;obtain⟨i,c⟩:=kB (l.alloc (Xk #[U8 q.p.b0,U8 q.p.b1,U8 q.p.b2,U8 q.p.b3,U8 q.p.b4,U8 q.p.b5,U8 q.p.b6,U8 q.p.b7,I6 q.r,Xh q.u,Xh q.d,I6 q.f,I6 q.x] 93));have f:=gT c a
 have v:=yA c t
 have s:=xP c h
 have a:(Instr.lookup 129 (.map (Xa B)) (Xi #[I6 q.f,I6 q.x]) Xc).run prog i=.ok (Xm #[I6 ((g (q.f,q.x)).getD 0),Xh (g (q.f,q.x)).isSome]) i:=(d.aA f).look (K:=plK) underlying129 (zr8 i) (q.f,q.x) Xc;have j:Xo (_=l):=b;have l:Xo (_=i):=c;clear b c u d;obtain⟨R,b⟩:=kA (decide (g (q.f,q.x)=Xa (k:Int)));rw[b.out];obtain⟨d,c⟩:=kA (g (q.f,q.x));rw[c.out]at a b
 go_enter func72,ntmps72
 go_upto_region 1 with fail;rw[j.out];have c:=t.c 0 rfl;go_upto_region 2 with fail;rw[l.out];rw[h.out];clear x y z A C D E F G H n p r c;have c:=v.c 11 rfl;have c:=s.c 11 rfl;have c:=s.c 12 rfl
 cases d with
 |none=>
  simp only[Option.getD_none,Option.isSome_none]at a;go_wp2;go_ret;exact⟨by rw[<-b.out];rfl,f⟩
 |some z=>
  simp only[Option.getD_some,Option.isSome_some]at a;have a:Xo ((z==(k:Int))=R):=dD<|by rw[<-b.out,Yy];simp
  go_wp2;go_ret;exact⟨by rw[<-a.out];rfl,f⟩
def Ja(K:JX)(w:Xn)(b:Nat)(H:Int×Int->Int):Prop:=∃g,Zh K w b g/\∀k,(g k).getD 0=H k
theorem Ja.aA{K:JX}{w:Xn}{H:Int×Int->Int}(h:Ja K w b H)(k:zc w w'):Ja K w' b H:=by
 obtain⟨g,a,c⟩:=h;exact⟨g,a.aA k,c⟩
theorem Ja.congr{K:JX}{w:Xn}{H a:Int×Int->Int}(h:Ja K w b H)(e:∀k,H k=a k):Ja K w b a:=by
 obtain⟨g,a,c⟩:=h;exact⟨g,a,fun k=>(c k).trans (e k)⟩
theorem Ja.bP{K:JX}{w:Xn}{cs:List Xq}{H:Int×Int->Int}(k:Ja K w B H)(h:Box w b cs):b≠B:=by
 obtain⟨g,a,_⟩:=k;exact h.bK a
theorem Ja.ne_own{α:Type}{E:Elt α}{K:JX}{w:Xn}{base:Nat}{v:Xq}{l:List α}{H:Int×Int->Int}(k:Ja K w B H)(h:zb E base w v l):∀x,v.ownBlock=Xa x->Xa B≠Xa x:=by
 obtain⟨g,a,_⟩:=k;exact h.bK a
def zdX(K:JX)(w:Xn)(b:Nat)(H:Int×Int->Int)(k:Int×Int)(st:Int):Prop:=∃g,zqG K w b g k st/\∀x,(g x).getD 0=H x
theorem Ja.entry{K:JX}{w:Xn}{H:Int×Int->Int}(h:Ja K w b H){e:TypeId}(g:Tryz.prog.underlying t=Xa (.map K.ty e))(i:(zeroValue e).run prog w=.ok (I6 0) w)(k:Int×Int):
  ∃w' a,(Instr.mapEntry t (.map (Xa b)) (K.enc k)).run prog w=.ok (Xm #[I6 (H k),I6 a]) w'/\zdX K w' b H k a/\w.grownBy w' (Xa b)/\w'.heap.size=w.heap.size:=by
 obtain⟨c,f,c⟩:=h;obtain⟨w',a,d,h,j,l⟩:=f.entry g i k;rw[c k]at d;refine⟨w',a,d,⟨_,h,fun x=>?_⟩,j,l⟩
 by_cases e:x=k
 ·subst e;rw[kE rfl];exact c x
 rw[kF e];exact c x
theorem zdX.h{K:JX}{w:Xn}{H:Int×Int->Int}{k:Int×Int}{a:Int}(h:zdX K w b H k a):Ja K w b H:=by
 obtain⟨g,a,c⟩:=h;exact⟨g,a.f,c⟩
theorem Ja.look{K:JX}{w:Xn}{H:Int×Int->Int}(h:Ja K w b H){e:TypeId}(d:Tryz.prog.underlying t=Xa (.map K.ty e))(f:(zeroValue e).run prog w=.ok (I6 0) w)(k:Int×Int):
  (Instr.lookup t (.map (Xa b)) (K.enc k) Xd).run prog w=.ok (I6 (H k)) w:=by
 obtain⟨g,a,c⟩:=h;have:=a.look d f k Xd;rw[c k]at this;exact this
def zrJ(H:Int×Int->Int)(k:Int×Int):Int×Int->Int:=fun x=>H x+(if x=k then 1 else 0)
theorem zaJ{K:JX}{w:Xn}{rest:List Oper}{a:Act}(c:o.guard=Xb)(t m s x)(e:o.op=.entryStore t m s x)(b:Nat)(H:Int×Int->Int)(k:Int×Int)(d:Int)(h:zdX K w b H k d)
  (j:a.eval m=.map (Xa b))(l:a.eval s=I6 d)(n:a.eval x=I6 (H k+1))
  (i:∀w',Ja K w' b (zrJ H k)->w.grownBy w' (Xa b)->w'.heap.size=w.heap.size->wpList prog ops Q rest (a.put o.dst undef) w'):wpList prog ops Q (o::rest) a w:=by
 refine wpList_plain c fun c d=>?_
 obtain⟨g,f,g⟩:=h;obtain⟨w',c,h,p,q⟩:=f.store t (H k+1);unfold Oper.wp
 simp[execOp,e,j,l,n,c,Result.andThen]
 refine d _ _ (i w' ⟨_,h,fun y=>?_⟩ p q)
 unfold zrJ
 by_cases e:y=k
 ·subst e;rw[kE rfl,kE rfl];rfl
 rw[kF e,kF e,g y];omega
theorem zor(l:List Ca)(a:Int×Int):0<=Jo l a/\Jo l a<=l.length:=by
 grind[Jo,zY,Yh,Ca]
theorem zea(s):(qG s).length<=64:=by
 unfold qG;have:=List.length_filter_le (fun n=>enS (zl s n)) (List.range 64)
 simpa using this
theorem zp7(m:Ma)(i:Nat)(l:List Nat)(s)(a:Int×Int):0<=qn m i l s a/\qn m i l s a<=m.ca.length+64*m.sp.length+l.length:=by
 unfold qn;have b:(if a.1=1 then zY m.ca a.2 else 0)<=m.ca.length:=by
  split
  ·exact Yh
  omega
 have b:∀(L:List Sp),(L.map fun s=>(qG s).countP fun n=>isE (zl s n) a.1 a.2).sum<=64*L.length:=by
  intro L
  induction L with
  |nil=>simp
  |cons b L c=>
   have c:=Yh (p:=fun n=>isE (zl b n) a.1 a.2) (l:=qG b)
   have a:=zea b;simp only[mP,List.sum_cons,Xv];omega
 grind
def zdP:Sp:=⟨Xc,[],[]⟩
theorem zif(V)(m:Ma)(w)(g:zq w V m)(u:m.sp.length<=4)(y:∀s∈m.sp,tbW s.tb=0):
  Xp prog 71 #[Xi (mL V m).toArray] w fun e w'=>∃B,e=Xl (.map (Xa B))/\Ja enK w' B (qn m m.sp.length [] zdP)/\zc w w':=by
 obtain⟨a3,a4,t,z,p,q,r,⟨d,a,l⟩,⟨h,b,n⟩⟩:=V;dsimp only[mL];obtain⟨-,-,-,-,-,-,-,D,E⟩:=g.ns;dsimp only at D E;have F:Xo (znC w d m.ca):=g.cas;have b9:=dD D.symm;have c:a<=140737488355328:=by have:=g.ca.2;have c:jR.bytes=24:=rfl;rw[c]at this;omega
 obtain⟨bb,A,f,k⟩:=g.bE;have b1:=dD A;have az:Xo (∀(j:Nat)x,bb[j]?=Xa x->∃a8,h=Xa a8/\∀W,zc w W->znr W (a8.add (j*10)) x):=f;have b0:=dD k;have a6:=dD E.symm;have c:=dD y;have C:Xo (∀j c,0<=Jo (m.ca.take j) c/\Jo (m.ca.take j) c<=140737488355328):=show∀j c,_ from fun j c=>by
  have G:=zor (m.ca.take j) c;have i:(m.ca.take j).length<=m.ca.length:=by simp;omega
  omega
 have ay:Xo (∀i B s c,B.length<=64->0<=qn m i B s c/\qn m i B s c<=140737488360000):=dD<|fun i B s c aj=>by
  have G:=zp7 m i B s c;omega
 have c:b<=4:=Wm
 clear g D E A f k u y;have u:=@run_makeMap prog;obtain⟨f,c⟩:=kB ((w.alloc (Xk #[a3.x,I6 m.aB,a4.x,t.x,z.x,p.x,q.x,r.x,I6 m.cnt,O d a l,O h b n] 45)).alloc (.map #[] 0));have g:Xo (zc w f):=dD<|by rw[<-c];exact(za _ _).trans (za _ _)
 have y:Xo (Box f w.heap.size [a3.x,I6 m.aB,a4.x,t.x,z.x,p.x,q.x,r.x,I6 m.cnt,O d a l,O h b n]):=dD<|by rw[<-c];exact(Box.aD _ _ _ rfl).alloc _
 have A:Xo (Ja enK f (w.heap.size+1) (Jo (m.ca.take 0))):=dD<|by
  rw[<-c];have:=Zh.made enK (w.alloc (Xk #[a3.x,I6 m.aB,a4.x,t.x,z.x,p.x,q.x,r.x,I6 m.cnt,O d a l,O h b n] 45));have k:(w.alloc (Xk #[a3.x,I6 m.aB,a4.x,t.x,z.x,p.x,q.x,r.x,I6 m.cnt,O d a l,O h b n] 45)).heap.size=w.heap.size+1:=Sm
  rw[k]at this;exact⟨_,this,fun G=>by rw[Yg,zmx];rfl⟩
 have k:Xo (_=f):=c;clear c
 go_enter func71,ntmps71
 go_upto_region 2 with fail;rw[k.out];clear u;have c:=y.c 9 rfl;go_wp2;clear c
 go_loopg[15] a (fun ak c wr=>∃B:Nat,B<=a/\a-B<=ak/\c=I6 B/\Xo (zc w wr)/\Xo (Box wr w.heap.size [a3.x,I6 m.aB,a4.x,t.x,z.x,p.x,q.x,r.x,I6 m.cnt,O d a l,O h b n])/\Xo (Ja enK wr (w.heap.size+1) (Jo (m.ca.take B))))
 exact⟨0,nZ _,Wm,rfl,g,y,A⟩
 obtain⟨B,c,c,rfl,N,ba,a0⟩:=hrel
 by_cases ae:B<a
 ·have an:=kC ae
  obtain⟨c,b8⟩:∃c,Xo (m.ca[B]?=Xa c):=⟨_,gE (Rx b9.out ae)⟩
  obtain⟨a8,rfl,aj⟩:=F.out B c b8.out;obtain⟨b2,b3,b4⟩:=aj wr N.out;clear aj;go_upto_region 5 with fail;obtain⟨L,d⟩:=kB (wr.alloc (Xk #[I6 c.file,I6 c.idx,I6 c.fr] 105));have P:=gT d N
  have g:=yA d ba
  have av:Xo (Ja enK L (w.heap.size+1) (Jo (m.ca.take B))):=dD<|by rw[<-d];exact a0.aA (za _ _)
  have f:=xA d
  rw[d];clear d b2 b3 b4;obtain⟨ah,a7⟩:=kA wr.heap.size;rw[a7.out]at f⊢;obtain⟨H,a5⟩:=kA (Jo (m.ca.take B));rw[a5.out]at av;obtain⟨ab,ac⟩:0<=H (1,c.fr)/\H (1,c.fr)<=140737488355328:=by rw[<-a5.out];exact C B (1,c.fr)
  obtain⟨k,am⟩:∃k:Xn->Prop,k=fun u=>Ja enK u (w.heap.size+1) H/\Box u ah [I6 c.file,I6 c.idx,I6 c.fr]/\Box u w.heap.size [a3.x,I6 m.aB,a4.x,t.x,z.x,p.x,q.x,r.x,I6 m.cnt,O (Xa a8) a l,O h b n]/\zc w u:=⟨_,rfl⟩
  have E:Xo (∀u,k u↔Ja enK u (w.heap.size+1) H/\Box u ah [I6 c.file,I6 c.idx,I6 c.fr]/\Box u w.heap.size [a3.x,I6 m.aB,a4.x,t.x,z.x,p.x,q.x,r.x,I6 m.cnt,O (Xa a8) a l,O h b n]/\zc w u):=dD<|fun u=>by rw[am]
  clear am;have ao:=fun y:zo k=>((E _).1 y.holds).2.1.c 2 rfl
  have S:∀y:zo k,(Instr.lookup 133 (.map (Xa (w.heap.size+1))) (Xi #[I6 1,I6 c.fr,Xh Xd]) Xd).run prog y.world=.ok (I6 (H (1,c.fr))) y.world:=fun y=>((E _).1 y.holds).1.look (K:=enK) underlying133 (zr8 _) (1,c.fr)
  have A:k L.drew:=(E _).2 ⟨av.aA (gW _),f.aA (gW _),g.aA (gW _),P.trans (gW _)⟩
  have T:Nonempty (zo k):=⟨⟨_,A⟩⟩;refine jS (I:=k) 8 [(6,⟨fun M=>∃g,M=Xm #[I6 (H (1,c.fr)),I6 g],fun M w'=>∃g,M=Xm #[I6 (H (1,c.fr)),I6 g]/\zdX enK w' (w.heap.size+1) H (1,c.fr) g,fun _ _=>True,fun _=>True⟩)] A zU Kr rfl rfl Dc (Sa ⟨_,0,rfl⟩) ?hp ?hpre ?hpr0 ?_
  case hp=>
   intro G s j ar Y a1 R _ M b7 C f b5;obtain⟨rfl,rfl⟩:=zbG Y;obtain⟨rfl,rfl⟩:=zbG a1;exact absurd rfl R
  case hpre=>
   intro j ar G s a1 Y R b7 C f af;obtain⟨rfl,rfl⟩:=zbG a1;trivial
  case hpr0=>
   intro G ar Y;obtain⟨rfl,rfl⟩:=zbG Y;trivial
  simp only[Yr,Ys];iterate 6 refine qT ?_
  refine jY rfl rfl (fun w' aa af a9=>?_) (fun bf b6=>?_)
  ·obtain⟨F,Z,W,X⟩:=(E _).1 aa;obtain⟨au,g,U,aq,a2,be⟩:=F.entry (K:=enK) underlying133 (zr8 w') (1,c.fr);have ag:(Instr.mapEntry 133 (.map (Xa (w.heap.size+1))) (Xi #[I6 1,I6 c.fr,Xh Xd])).run prog w'=.ok (Xm #[I6 (H (1,c.fr)),I6 g]) au:=U;clear ao S T;refine zI.step (v:=Xm #[I6 (H (1,c.fr)),I6 g]) (w':=au) (by simp only[execOp];go_simp) ⟨(E _).2 ⟨aq.h,Z.grown a2 (F.bP Z),W.grown a2 (F.bP W),zd X a2 Wm⟩,trivial,⟨_,rfl⟩,_,rfl,aq⟩
  obtain⟨g,rfl⟩:=b6;refine Uq ?_;refine qT ?_
  refine JJ fun aw ai a9=>?_
  obtain⟨F,Z,W,X⟩:=(E _).1 ai;obtain⟨D,f,al⟩:∃D,(Value.tuple #[I6 (H (1,c.fr)),I6 g])=Xm #[I6 (H (1,c.fr)),I6 D]/\zdX enK aw (w.heap.size+1) H (1,c.fr) D:=a9 6;have Q:zdX enK aw (w.heap.size+1) H (1,c.fr) g:=by
   simp at f
   rw[f];exact al
  have bc:=dD W;have ax:=dD X;have aw:=dD Q;clear ao S T a9 ai F Z W X al f Q A;refine zaJ (K:=enK) rfl 133 (.tmp 19) (.tmp 26) (.tmp 24) rfl (w.heap.size+1) H (1,c.fr) g aw rfl rfl Gn ?_
  intro ai aw c _;have bd:Xo (Box ai w.heap.size [a3.x,I6 m.aB,a4.x,t.x,z.x,p.x,q.x,r.x,I6 m.cnt,O (Xa a8) a l,O h b n]):=bc.grown c Wm
  have p:Xo (zc w ai):=dD<|zd ax c Wm
  have ao:Xo (Ja enK ai (w.heap.size+1) (Jo (m.ca.take (B+1)))):=dD<|aw.congr fun G=>by rw[Zp b8.out,zkx,<-a5.out];rfl
  clear aw c ab ac;go_wp2
  go_roundg (a-(B+1));exact⟨B+1,Wm,Wm,Gn,p,bd,ao⟩;omega
 have an:=kD ae
 have:B=a:=Wm
 subst this;have h:Xo (Ja enK wr (w.heap.size+1) (qn m 0 [] zdP)):=dD<|a0.congr fun G=>by
  rw[Xx (by rw[b9.out];exact nR _)]
  exact zmy m zdP G
 have a:=ba.c 10 rfl;go_wp2;clear a;have a:Xo (zc w wr):=N
 go_loopg[31] b (fun ak l wr=>∃i:Nat,i<=b/\b-i<=ak/\l=I6 i/\Xo (zc w wr)/\Xo (Ja enK wr (w.heap.size+1) (qn m i [] zdP)))
 exact⟨0,nZ _,Wm,rfl,a,h⟩
 obtain⟨i,a,a,rfl,N,a0⟩:=hrel
 by_cases h:i<b
 ·have z:=kC h
  obtain⟨s,b8⟩:∃s,Xo (m.sp[i]?=Xa s):=⟨_,gE (Rx a6.out h)⟩
  obtain⟨x,a⟩:∃x,Xo (bb[i]?=Xa x):=⟨_,gE (by rw[b1.out,a6.out];exact h)⟩
  have a3:=dD<|b0.out i x s a b8.out;obtain⟨a8,rfl,aj⟩:=az.out i x a.out;obtain⟨b2,b3,b4,a,n,q,r,t,B,a4⟩:=aj wr N.out;clear aj;go_upto_region 10 with fail;obtain⟨L,d⟩:=kB (wr.alloc (Xk #[Xh x.aH,x.ar.x,x.t0.x,x.t1.x,x.t2.x,x.t3.x,x.t4.x,x.t5.x,x.t6.x,x.t7.x] 76));have P:=gT d N
  have av:Xo (Ja enK L (w.heap.size+1) (qn m i [] s)):=dD<|by rw[<-d];exact(a0.aA (za _ _)).congr fun G=>by unfold qn;simp
  have l:=xA d
  rw[d];clear d b2 b3 b4 a n q r t B a4;obtain⟨ah,a7⟩:=kA wr.heap.size;rw[a7.out]at l⊢;have a:Xp prog 66 #[Xi #[x.t0.x,x.t1.x,x.t2.x,x.t3.x,x.t4.x,x.t5.x,x.t6.x,x.t7.x]] L fun e w'=>∃M,e=Xl M/\zb blE L.heap.size w' M (qS s.tb zbV 64)/\zc L w':=zaq x.tab s.tb L (a3.aA P).tb
  obtain⟨_,_,an,aw,ax,az,b0,b1,b2,b3⟩:=l.k10;go_wp2_with fail;refine a.mono ?_;clear a an aw ax az b0 b1 b2 b3;rintro b4 a⟨a,rfl,a,d⟩;have q:=dD (P.trans d);have r:=dD (av.aA d);have t:=dD (l.aA d);have l:=dD<|bS P.out
  clear d;obtain⟨n,ae,rfl⟩:=a.form;have d:=a.at.short;rw[QP]at a d⊢;rw[List.length_map]at a d⊢;obtain⟨C,a8⟩:=kA ((qG s).length);rw[a8.out]at a d⊢;have d:=dD a
  have l:C<=64:=by rw[<-a8.out];exact zea s
  clear a;go_wp2
  go_loopg[39] C (fun ak a wr=>∃j:Nat,j<=C/\C-j<=ak/\a=I6 j/\Xo (zc w wr)/\Xo (zb blE L.heap.size wr (O n C ae) ((qG s).map fun(n:Nat)=>(n:Int)))/\Xo (Box wr ah [Xh x.aH,x.ar.x,x.t0.x,x.t1.x,x.t2.x,x.t3.x,x.t4.x,x.t5.x,x.t6.x,x.t7.x])/\Xo (Ja enK wr (w.heap.size+1) (qn m i ((qG s).take j) s)))
  exact⟨0,nZ _,Wm,rfl,q,d,t,Rx Yg r⟩
  obtain⟨j,a1,a,rfl,N,ak,l,a0⟩:=hrel
  by_cases d:j<C
  ·have B:=kC d
   obtain⟨n,q⟩:∃n,Xo ((qG s)[j]?=Xa n):=⟨_,gE (Rx a8.out d)⟩
   have a4:=zgi q.out;have aj:=dD<|Zp q.out;obtain⟨_,_,t,a7⟩:=ak.at.bA;simp only[vJ]at t;obtain⟨r,a,P⟩:=a7 j (n:Int) (by rw[Oi,q.out];rfl)
   have av:=P wr (zc.refl _);rw[<-t.1]at a;subst a;clear P t a7;have q:Xp prog 69 #[Xi #[x.t0.x,x.t1.x,x.t2.x,x.t3.x,x.t4.x,x.t5.x,x.t6.x,x.t7.x],I6 (n:Int)] wr fun e w'=>e=Xl (enV (zl s n))/\zc wr w':=by
    have:=Qw x.tab s.tb (n:Int) wr (a3.aA N).tb;rw[zfk a4]at this;exact this
   obtain⟨a,t⟩:=kA (zl s n);rw[t.out]at q;obtain⟨_,_,an,aw,ax,az,b0,b1,b2,b3⟩:=l.k10;go_wp2_with fail;refine q.mono ?_;clear q av an aw ax az b0 b1 b2 b3;rintro b4 ai⟨rfl,c⟩;have p:=dD (N.trans c);have P:=dD (ak.aA c)
   have a4:=dD (l.aA c);have ao:=dD (a0.aA c);clear c;unfold enV;go_upto_region 14 with fail;obtain⟨a3,c⟩:=kB (ai.alloc (Xk #[I6 a.kind,I6 a.n,Xh a.wr] 127));have q:=gT c p
   have p:Xo (zb blE L.heap.size a3 (O (Xa r) C ae) ((qG s).map fun(n:Nat)=>(n:Int))):=dD<|by rw[<-c];exact P.aA (za _ _)
   have a7:=yA c a4
   have a4:Xo (Ja enK a3 (w.heap.size+1) (qn m i ((qG s).take j) s)):=dD<|by rw[<-c];exact ao.aA (za _ _)
   have P:=xA c
   rw[c];clear c;obtain⟨c,l⟩:=kA ai.heap.size;rw[l.out]at P⊢;obtain⟨H,a5⟩:=kA (qn m i ((qG s).take j) s);rw[a5.out]at a4;obtain⟨ab,ac⟩:0<=H (a.kind,a.n)/\H (a.kind,a.n)<=140737488360000:=by rw[<-a5.out];exact ay i _ s (a.kind,a.n) (by simp;omega)
   obtain⟨k,am⟩:∃k:Xn->Prop,k=fun u=>Ja enK u (w.heap.size+1) H/\Box u c [I6 a.kind,I6 a.n,Xh a.wr]/\Box u ah [Xh x.aH,x.ar.x,x.t0.x,x.t1.x,x.t2.x,x.t3.x,x.t4.x,x.t5.x,x.t6.x,x.t7.x]/\zb blE L.heap.size u (O (Xa r) C ae) ((qG s).map fun(n:Nat)=>(n:Int))/\zc w u:=⟨_,rfl⟩
   have E:Xo (∀u,k u↔Ja enK u (w.heap.size+1) H/\Box u c [I6 a.kind,I6 a.n,Xh a.wr]/\Box u ah [Xh x.aH,x.ar.x,x.t0.x,x.t1.x,x.t2.x,x.t3.x,x.t4.x,x.t5.x,x.t6.x,x.t7.x]/\zb blE L.heap.size u (O (Xa r) C ae) ((qG s).map fun(n:Nat)=>(n:Int))/\zc w u):=dD<|fun u=>by rw[am]
   clear am;have l:=fun y:zo k=>((E _).1 y.holds).2.1.c 0 rfl
   have n:=fun y:zo k=>((E _).1 y.holds).2.1.c 1 rfl
   have S:∀y:zo k,(Instr.lookup 133 (.map (Xa (w.heap.size+1))) (Xi #[I6 a.kind,I6 a.n,Xh Xd]) Xd).run prog y.world=.ok (I6 (H (a.kind,a.n))) y.world:=fun y=>((E _).1 y.holds).1.look (K:=enK) underlying133 (zr8 _) (a.kind,a.n)
   have A:k a3.drew:=(E _).2 ⟨a4.aA (gW _),P.aA (gW _),a7.aA (gW _),p.aA (gW _),q.trans (gW _)⟩
   have T:Nonempty (zo k):=⟨⟨_,A⟩⟩;refine jS (I:=k) 10 [(8,⟨fun M=>∃g,M=Xm #[I6 (H (a.kind,a.n)),I6 g],fun M w'=>∃g,M=Xm #[I6 (H (a.kind,a.n)),I6 g]/\zdX enK w' (w.heap.size+1) H (a.kind,a.n) g,fun _ _=>True,fun _=>True⟩)] A zU Kr rfl rfl Dc (Sa ⟨_,0,rfl⟩) ?hp ?hpre ?hpr0 ?_
   case hp=>
    intro G s j ar Y a1 R _ M b7 C f b5;obtain⟨rfl,rfl⟩:=zbG Y;obtain⟨rfl,rfl⟩:=zbG a1;exact absurd rfl R
   case hpre=>
    intro j ar G s a1 Y R b7 C f af;obtain⟨rfl,rfl⟩:=zbG a1;trivial
   case hpr0=>
    intro G ar Y;obtain⟨rfl,rfl⟩:=zbG Y;trivial
   simp only[Yr,Ys];iterate 8 refine qT ?_
   refine jY rfl rfl (fun w' aa af a9=>?_) (fun bf b6=>?_)
   ·obtain⟨F,Z,W,X,p⟩:=(E _).1 aa;obtain⟨au,g,U,aq,a2,be⟩:=F.entry (K:=enK) underlying133 (zr8 w') (a.kind,a.n);have ag:(Instr.mapEntry 133 (.map (Xa (w.heap.size+1))) (Xi #[I6 a.kind,I6 a.n,Xh Xd])).run prog w'=.ok (Xm #[I6 (H (a.kind,a.n)),I6 g]) au:=U;clear l n S T;refine zI.step (v:=Xm #[I6 (H (a.kind,a.n)),I6 g]) (w':=au) (by simp only[execOp];go_simp) ⟨(E _).2 ⟨aq.h,Z.grown a2 (F.bP Z),W.grown a2 (F.bP W),X.grown a2 (F.ne_own X),zd p a2 Wm⟩,trivial,⟨_,rfl⟩,_,rfl,aq⟩
   obtain⟨g,rfl⟩:=b6;refine Uq ?_;refine qT ?_
   refine JJ fun c k a9=>?_
   obtain⟨F,Z,W,X,p⟩:=(E _).1 k;obtain⟨D,f,al⟩:∃D,(Value.tuple #[I6 (H (a.kind,a.n)),I6 g])=Xm #[I6 (H (a.kind,a.n)),I6 D]/\zdX enK c (w.heap.size+1) H (a.kind,a.n) D:=a9 8;have Q:zdX enK c (w.heap.size+1) H (a.kind,a.n) g:=by
    simp at f
    rw[f];exact al
   have x:=dD W;have c:=dD X
   have r:=dD p;have u:=dD F;have q:=dD Q;clear l n S T a9 k F Z W X p al f Q A;refine zaJ (K:=enK) rfl 133 (.tmp 47) (.tmp 56) (.tmp 54) rfl (w.heap.size+1) H (a.kind,a.n) g q rfl rfl Gn ?_
   intro g k a _;have n:=dD<|x.grown a (u.bP x);have f:=dD<|c.grown a (u.ne_own c)
   have c:Xo (zc w g):=dD<|zd r a Wm
   have l:Xo (Ja enK g (w.heap.size+1) (qn m i ((qG s).take (j+1)) s)):=dD<|k.congr fun G=>by rw[aj.out,zmv,t.out,a5.out];rfl
   clear k a ab ac;go_wp2
   go_roundg (C-(j+1));exact⟨j+1,Wm,Wm,Gn,c,f,n,l⟩;omega
  have B:=kD d
  have:j=C:=Wm
  subst this;have a:Xo (Ja enK wr (w.heap.size+1) (qn m (i+1) [] zdP)):=dD<|a0.congr fun G=>by
   rw[Xx (by rw[a8.out];exact nR _)]
   exact zmw m i s zdP b8 G
  go_wp2
  go_roundg (b-(i+1));exact⟨i+1,Wm,Wm,Gn,N,a⟩;omega
 have z:=kD h
 have:i=b:=Wm
 subst this;have a:Xo (Ja enK wr (w.heap.size+1) (qn m m.sp.length [] zdP)):=dD<|Rx a6.out a0.out
 go_wp2;go_ret;exact⟨_,rfl,a,N⟩
def qD(fl:List Fl)(i:Nat)(bl:List Int):List Int:=(QZ (fl.take i))++bl
theorem zav{n:Nat}{g h:List Int}(e:∀i:Nat,i<n->g.contains (i:Int)=h.contains (i:Int)):qC n g=qC n h:=by
 grind[qC,List.map_congr_left,Yl.1]
theorem zkM(fl)(i:Nat)(a){b:Int}(c:b<0)(n:Nat):qC n (qD fl i (a++[b]))=qC n (qD fl i a):=zav fun j _=>by grind[qD]
theorem zmP(fl)(i:Nat)(a)(b:Nat)(n:Nat):qC n ((b:Int)::qD fl i a)=qC n (qD fl i (a++[(b:Int)])):=zav fun j _=>by
 unfold qD
 grind
theorem zkN{fl:List Fl}{i:Nat}{f:Fl}(a:fl[i]?=Xa f):qD fl i f.bl=qD fl (i+1) []:=by
 unfold qD QZ;rw[Om,a];simp
theorem zmQ(fl:List Fl)(b:Int):(qD fl fl.length []).contains b=z4 fl b:=by
 unfold qD QZ z4;rw[List.take_length,List.append_nil,Yy];simp
theorem zr9:(Tryz.prog.info? 114).map (·.size)=Xa 80:=by kernel_rfl
theorem zgx(n:Nat)(g):∀v∈qC n g,v.oneCell'=Xc:=fun v a=>by
 unfold qC at a;obtain⟨i,_,rfl⟩:=Xy.1 a;rfl
theorem zaY(n:Nat)(g):(qC n g).length=n:=by simp[qC]
theorem zdl(v)(fl:List Fl)(d:Int)(w)(a7:qe w v fl)(H:stW fl d=0):
  Xp prog 62 #[Xi #[v,I6 d]] w fun e w'=>e=Xl (Xi (qC 80 (qD fl fl.length [])).toArray)/\zc w w':=by
 have ay:=zbw;obtain⟨a0,a1,rfl,D,n⟩:=a7.rows;have af:=dD n;clear n a7;have ac:Xo (∀f∈fl,∀b∈f.bl,b=-1\/(0<=b/\b<80)):=show∀f∈fl,_ from fun f au b a5=>by
  obtain⟨⟨_,_,ar⟩,aq,_⟩:=(qi fl d).1 H
  rcases(aq f au).2.2 b a5 with a3|a3
  ·exact .inl a3
  exact .inr Wm
 clear H;obtain⟨q,I⟩:=kA fl.length;rw[I.out]at D⊢;obtain⟨K,a⟩:=kB (((w.alloc (Xk #[O a0 q a1,I6 d] 41)).alloc (Xk zfN 114)).alloc (Xk zfN 114));have M:Xo (zc w K):=dD<|by rw[<-a];exact((za _ _).trans (za _ _)).trans (za _ _)
 have ah:Xo (Box K w.heap.size [O a0 q a1,I6 d]):=dD<|by rw[<-a];exact((Box.aD _ _ _ rfl).alloc _).alloc _
 have ai:Xo (Box K (w.heap.size+1) (qC 80 [])):=dD<|by rw[<-a,zc2];exact(Box.aD _ (Xr 80 (Xh Xd)) _ Sm).alloc _
 have al:Xo (Box K (w.heap.size+1+1) (qC 80 (qD fl 0 []))):=dD<|by
  have:qC 80 (qD fl 0 [])=qC 80 []:=zav fun i _=>by simp[qD,QZ]
  rw[<-a,this,zc2];exact Box.aD _ (Xr 80 (Xh Xd)) _ Sm
 have T:=dD a;clear a
 go_enter func62,ntmps62
 go_upto_region 2 with fail;rw[T.out];clear ay;have az:=ah.c 0 rfl;go_wp2;clear az
 go_loopg[5,11] q (fun U _ Y wr=>∃i:Nat,i<=q/\q-i<=U/\Y=I6 i/\Xo (zc w wr)/\Xo (Box wr (w.heap.size+1) (qC 80 []))/\Xo (Box wr (w.heap.size+1+1) (qC 80 (qD fl i []))))
 exact⟨0,nZ _,Wm,rfl,M,ai,al⟩
 obtain⟨i,b4,aw,rfl,h,A,l⟩:=hrel
 by_cases x:i<q
 ·have F:=kC x
  obtain⟨f,L⟩:∃f,Xo (fl[i]?=Xa f):=⟨_,gE (Rx I.out x)⟩
  obtain⟨b2,rfl,a8,b0,z,a6⟩:=af.out i f L.out;obtain⟨ao,a2⟩:=a6 wr h.out;obtain⟨_,_,u,G⟩:=z.bA;have ax:=z.short;have Q:Xo (znv w a8 f.bl):=dD<|by
   simp only[vJ]at u;rw[u.1];exact G
  clear u G z a6;obtain⟨r,R⟩:=kA f.bl.length;rw[R.out]at a2 ax;go_upto_region 5 with fail;obtain⟨b1,c⟩:=kB (wr.alloc (Xk #[I6 f.size,O a8 r b0] 159));have N:=gT c h
  have a9:=xA c
  have aj:=yA c A
  have am:=yA c l
  rw[c];clear c ao a2;have ap:=a9.c 1 rfl;go_wp2;clear ap;have ae:=dD h
  go_loopg[7,18] r (fun U _ Z wr=>∃j:Nat,j<=r/\r-j<=U/\Z=I6 j/\Xo (zc w wr)/\Xo (Box wr (w.heap.size+1) (qC 80 []))/\Xo (Box wr (w.heap.size+1+1) (qC 80 (qD fl i (f.bl.take j)))))
  exact⟨0,nZ _,Wm,rfl,N,aj,Rx Yg am⟩
  obtain⟨j,b5,av,rfl,h,A,l⟩:=hrel
  by_cases g:j<r
  ·have y:=kC g
   obtain⟨b,s⟩:∃b,Xo (f.bl[j]?=Xa b):=⟨_,gE (Rx R.out g)⟩
   obtain⟨an,rfl,E⟩:=Q.out j b s.out;have b3:=E wr h.out;have S:=dD<|ac.out f (mG L) b (mG s);have B:=dD<|Zp s.out;clear E
   by_cases a5:0<=b
   ·obtain⟨p,rfl⟩:∃p:Nat,b=(p:Int):=⟨b.toNat,Wm⟩
    have m:p<80:=Hm S.out
    have b6:=l.c p (zaZ _ m);have b7:=l.f;have C:Xo (Box (wr.setCell ⟨w.heap.size+1+1,p,Xb⟩ (Xh Xc)) (w.heap.size+1+1) (qC 80 (qD fl i (f.bl.take (j+1))))):=dD<|by
     rw[B.out,<-zmP,<-zgw _ m];exact l.set p _
    have ak:Xo (Box (wr.setCell ⟨w.heap.size+1+1,p,Xb⟩ (Xh Xc)) (w.heap.size+1) (qC 80 [])):=dD<|A.other Sm _
    have aa:Xo (zc w (wr.setCell ⟨w.heap.size+1+1,p,Xb⟩ (Xh Xc))):=dD<|zG h (by simp;omega) _
    go_wp2
    go_roundg (r-(j+1));exact⟨j+1,Wm,Wm,Gn,aa,ak,C⟩;omega
   have C:Xo (Box wr (w.heap.size+1+1) (qC 80 (qD fl i (f.bl.take (j+1))))):=dD<|by
    rw[B.out,zkM _ _ _ Wm]
    exact l.out
   go_wp2
   go_roundg (r-(j+1));exact⟨j+1,Wm,Wm,Gn,h,A,C⟩;omega
  have y:=kD g
  have:j=r:=Wm
  subst this;have C:Xo (Box wr (w.heap.size+1+1) (qC 80 (qD fl (i+1) []))):=dD<|by
   have a4:=l.out;rw[Xx (by rw[R.out];exact nR _),zkN L.out]at a4
   exact a4
  go_wp2
  go_roundg (q-(i+1));exact⟨i+1,Wm,Wm,Gn,h,A,C⟩;omega
 have F:=kD x
 have:i=q:=Wm
 subst this;obtain⟨X,k⟩:=kA (qC 80 (qD fl i []));have t:Xo (X.length=80):=dD<|by rw[<-k.out];exact zaY _ _
 have P:Xo (∀v∈X,v.oneCell'=Xc):=dD<|by rw[<-k.out];exact zgx _ _
 rw[k.out]at l;go_upto_region 12 with fail
 go_wp2_with(first|(refine zm rfl 114 (.tmp 3) rfl (w.heap.size+1+1) rfl l underlying114 rfl (Rx t.out zr9) ?_)|(refine zx rfl 114 (.tmp 2) (.tmp 28) rfl (w.heap.size+1) rfl X rfl A (by rw[t.out,zaY]) (Rx zaY zr9) P.out ?_))
 intro ag V W _;have ab:Xo (zc w ag):=dD<|zd h W Wm
 go_wp2;refine bodyPost_ret (zB rfl _ rfl V underlying114 rfl (Rx t.out zr9)) rfl ⟨by rw[<-k.out],ab⟩
theorem zln(a b c d e f g h:Int):zeV ⟨a,b,c,d,e,f,g,h⟩ ⟨0,0,0,0,0,0,0,0⟩=([a,b,c,d,e,f,g,h]==zS):=by
 rw[Yy,zaS]
 simp[zS]
def zhi(m:Ma)(b:Nat):Bool:=!z4 m.fl (b:Int)&&!(m.db.getD b []==zS)
theorem zla(a:b<m.db.length)(h:zhi m b=Xc):zbj m=7:=by
 unfold zbj;rw[kE];rw[Yd];exact⟨b,Yl.2 a,h⟩
theorem zj6{q:Int×List Int}(a:m.dq[j]?=Xa q)(h:z4 m.fl q.1=Xd):zaR m=7:=by
 grind[zaR,Yd,mG]
theorem zht{n:Nat}{a:List (Int×List Int)}(h:zD n a=0):n<=80/\∀(j:Nat)q,a[j]?=Xa q->0<=q.1/\q.1<n:=by grind[zD,ZF,Yd.2,mG]
theorem zoH(a:b<80):(qC 80 (qD m.fl m.fl.length []))[b]?=Xa (Xh (z4 m.fl (b:Int))):=by
 rw[zaZ _ a,zmQ]
theorem zoB(a:zbU m Xb m.ca=0)(k:Nat):frE m k=if(z3 m k).r≠qn m m.sp.length [] zdP (1,(k:Int))\/(0<=(z3 m k).f/\¬Zz m.ca ((z3 m k).f,(z3 m k).x)=Xa (k:Int))then 7 else 0:=by
 unfold frE;rw[zjm m zdP (k:Int) (by decide:(1:Int)≠0),kE rfl]
 grind[zkz,zY,Zz,z3]
theorem zlN(m:Ma)(k:Nat):znE m k=if m.sl.getD k 0≠qn m m.sp.length [] zdP (2,(k:Int))then 7 else 0:=by
 unfold znE;have h:=zjm m zdP (k:Int) (by decide:(2:Int)≠0)
 grind
def chk:List Nat:=[28,29,30,31,32,33]
def zqt(m:Ma):List Int:=[zC (QK m),zC (Je m),Qe m,zd3 m,zfW m,zaj m]
theorem zfV(h:Qe m=0):m.sp.length<=4:=by
 unfold Qe at h
 split at h
 ·cases h
 omega
theorem zk6(k f:Nat)(a:chk[k]?=Xa f):∀b w,(callFunc f b).run prog w=.ok (.enter f b) w:=by
 match k,a with
 |0,a=>cases a;exact enters_of func28 Kr rfl
 |1,a=>cases a;exact enters_of func29 Kr rfl
 |2,a=>cases a;exact enters_of func30 Kr rfl
 |3,a=>cases a;exact enters_of func31 Kr rfl
 |4,a=>cases a;exact enters_of func32 Kr rfl
 |5,a=>cases a;exact enters_of func33 Kr rfl
 |k+6,a=>simp[chk]at a
def fnV(f:Nat):Xq:=.func (.func f) #[] #[]
theorem zar{a n:Nat}{w:Xn}{e:TypeId}{v:Xq}(h:w.ownsRow b e a v n xs)(c:v.ownBlock=Xa g):b<=g/\g<w.heap.size/\∃cs,w.heap[g]?=Xa (Xk cs e (0,0)):=by
 rcases h.2 with⟨rfl,_⟩|⟨k,a,a,rfl,a,a,a⟩
 ·cases c
 simp only[Value.ownBlock,Option.some.injEq]at c
 grind
theorem zbZ{D:Nat->Prop}{a n:Nat}{w:Xn}{e:TypeId}{v:Xq}(h:w.ownsRow b e a v n xs)(k:zk D w W)(i:∀g,v.ownBlock=Xa g->¬D g):W.ownsRow b e a v n xs:=by
 refine⟨h.1,?_⟩
 rcases h.2 with a|⟨g,a,c,rfl,f,d,h⟩
 ·grind
 exact .inr ⟨g,a,c,rfl,f,by rw[k.block g (aS.1 d).1 (i g rfl)];exact d,h⟩
variable{X:Nat->Prop}
theorem ji{D:Nat->Prop}{a n:Nat}{w:Xn}{e:TypeId}{v:Xq}(h:w.ownsRow b e a v n xs)(k:zk D w W)(i:∀g,v.ownBlock=Xa g->¬D g):W.ownsRow b e a v n xs:=by
 refine⟨h.1,?_⟩
 rcases h.2 with a|⟨g,a,c,rfl,f,d,h⟩
 ·grind
 exact .inr ⟨g,a,c,rfl,f,by rw[k.block g (aS.1 d).1 (i g rfl)];exact d,h⟩
def oB(s:Sli)(b:Nat):Prop:=(O s.a s.n s.c).ownBlock=Xa b
def Dw(p:Nat)(V:MaV):Nat->Prop:=fun b=>b=p\/oB V.f b\/oB V.ca b\/oB V.sp b
def Dr(B:Nat)(X:Nat->Prop)(p:Nat)(V:MaV):Nat->Prop:=fun b=>(b<B\/X b)\/Dw p V b
def noX:Nat->Prop:=fun _=>False
structure ziQ(w:Xn)(V:MaV)(m:Ma):Prop where
 sl:zj slE w (O V.s.a V.s.n V.s.c) m.sl
 sb:qX w (O V.sb.a V.sb.n V.sb.c) m.sb
 sq:jD w (O V.sq.a V.sq.n V.sq.c) m.sq
 db:qX w (O V.db.a V.db.n V.db.c) m.db
 dq:jD w (O V.dq.a V.dq.n V.dq.c) m.dq
 fl:qe w (O V.fl.a V.fl.n V.fl.c) m.fl
structure ChW(w0:Xn)(X:Nat->Prop)(p:Nat)(w:Xn)(V:MaV)(m:Ma):Prop where
 grx:zc w0 w/\∀k,X k->k<w.heap.size
 lo:w0.heap.size<=p
 box:zg w p 88 (chL V m)
 fs:zb z9 w0.heap.size w (O V.f.a V.f.n V.f.c) m.fs
 ca:zb jR w0.heap.size w (O V.ca.a V.ca.n V.ca.c) m.ca
 sp:∃xs:List SpV,zb Q4 w0.heap.size w (O V.sp.a V.sp.n V.sp.c) xs/\xs.length=m.sp.length/\∀(i:Nat)x s,xs[i]?=Xa x->m.sp[i]?=Xa s->∀W,zk (Dr w0.heap.size X p V) w W->j3 W x s
 rest:∀W,zk (Dr w0.heap.size X p V) w W->ziQ W V m
def Chg(w0:Xn)(X:Nat->Prop)(p:Nat)(w:Xn)(V:MaV)(m':Ma)(w':Xn):Prop:=∃V':MaV,ChW w0 X p w' V' m'/\zk (Dw p V) w w'/\∀k,Dw p V' k->Dw p V k\/w.heap.size<=k
section
variable{w0 w w1 w2:Xn}{p:Nat}{V V':MaV}{m m':Ma}
theorem ChW.gr(h:ChW w0 X p w V m):zc w0 w:=h.grx.1
theorem ChW.aM(h:ChW w0 X p w V m):∀k,Dw p V k->k<w.heap.size:=by
 rintro k(rfl|a|a|a)
 ·exact h.box.box.lt
 ·exact(h.fs.lt k a).2
 ·exact(h.ca.lt k a).2
 obtain⟨b,b,_⟩:=h.sp;exact(b.lt k a).2
theorem ChW.dlo(h:ChW w0 X p w V m):∀k,Dw p V k->w0.heap.size<=k:=by
 rintro k(rfl|a|a|a)
 ·exact h.lo
 ·exact(h.fs.lt k a).1
 ·exact(h.ca.lt k a).1
 obtain⟨b,b,_⟩:=h.sp;exact(b.lt k a).1
theorem ChW.drt(h:ChW w0 X p w V m):∀k,Dr w0.heap.size X p V k->k<w.heap.size:=by
 rintro k((a|a)|a)
 ·exact Xu a (bS h.gr)
 ·exact h.grx.2 k a
 exact h.aM k a
theorem ChW.aA(h:ChW w0 X p w V m)(k:zc w w1):ChW w0 X p w1 V m:=by
 obtain⟨e,b,c,d⟩:=h.sp;exact⟨⟨h.gr.trans k,fun j a=>Xu (h.grx.2 j a) (bS k)⟩,h.lo,h.box.aA k,h.fs.aA k,h.ca.aA k,⟨e,b.aA k,c,fun i x s c b W a=>d i x s c b W ((zk.aA k).trans a)⟩,fun W a=>h.rest W ((zk.aA k).trans a)⟩
theorem ChW.at(h:ChW w0 X p w V m):zq w V m:=by
 have r:=h.rest w (zk.refl _ _);obtain⟨d,a,b,c⟩:=h.sp;exact⟨h.fs.at,r.sl,r.sb,r.sq,r.db,r.dq,r.fl,h.ca.at,⟨d,a.at,b,fun i x s b a=>c i x s b a w (zk.refl _ _)⟩⟩
theorem ChW.nf(h:ChW w0 X p w V m):∀g,oB V.f g->p≠g:=h.fs.ne h.box Dc
theorem ChW.nc(h:ChW w0 X p w V m):∀g,oB V.ca g->p≠g:=h.ca.ne h.box Dc
theorem ChW.ns(h:ChW w0 X p w V m):∀g,oB V.sp g->p≠g:=by
 obtain⟨a,a,_⟩:=h.sp;exact a.ne h.box Dc
theorem ChW.fc(h:ChW w0 X p w V m):∀g,oB V.f g->¬oB V.ca g:=h.fs.apart h.ca Dc
theorem ChW.fS(h:ChW w0 X p w V m):∀g,oB V.f g->¬oB V.sp g:=by
 obtain⟨a,a,_⟩:=h.sp;exact h.fs.apart a Dc
theorem ChW.cS(h:ChW w0 X p w V m):∀g,oB V.ca g->¬oB V.sp g:=by
 obtain⟨a,a,_⟩:=h.sp;exact h.ca.apart a Dc
theorem ChW.key(k:zk (Dw p V) w w1)(f:∀k,Dw p V' k->Dw p V k\/w.heap.size<=k)(a:zk (Dr w0.heap.size X p V') w1 W):zk (Dr w0.heap.size X p V) w W:=
 ⟨a.os.trans k.os,a.tape.trans k.tape,a.output.trans k.output,nT k.size a.size,fun b d c=>(a.block b (Xu d k.size) (fun e=>by
  rcases e with e|e
  ·exact c (.inl e)
  rcases f b e with e|e
  ·exact c (.inr e)
  omega)).trans (k.block b d (fun e=>c (.inr e)))⟩
theorem ChW.grOut(h:ChW w0 X p w V m)(k:zk (Dw p V) w w1):zc w0 w1:=
 ⟨k.os.trans (Below.os h.gr),k.tape.trans (Below.tape h.gr),k.output.trans (Below.output h.gr),nT (bS h.gr) k.size,fun b a=>(k.block b (Xu a (bS h.gr)) (fun e=>Hm (h.dlo b e))).trans (Below.block h.gr b a)⟩
theorem ChW.grX(h:ChW w0 X p w V m)(k:zk (Dw p V) w w1):zc w0 w1/\∀j,X j->j<w1.heap.size:=⟨h.grOut k,fun j a=>Xu (h.grx.2 j a) k.size⟩
theorem Chg.refl(h:ChW w0 X p w V m)(g:zc w w1):Chg w0 X p w V m w1:=⟨V,h.aA g,zk.aA g,fun _ a=>.inl a⟩
theorem Chg.aG(g:zc w w1)(h:Chg w0 X p w1 V m' w2):Chg w0 X p w V m' w2:=by
 obtain⟨a,b,d,c⟩:=h;refine⟨a,b,(zk.aA g).trans d,fun k a=>?_⟩
 rcases c k a with e|e
 ·grind
 exact .inr (nT (bS g) e)
theorem Chg.step{b:MaV}(a:zk (Dw p V) w w1)(c:∀k,Dw p b k->Dw p V k\/w.heap.size<=k)(e:Chg w0 X p w1 b m' w2):Chg w0 X p w V m' w2:=by
 obtain⟨c,d,b,f⟩:=e;refine⟨c,d,⟨b.os.trans a.os,b.tape.trans a.tape,b.output.trans a.output,nT a.size b.size,fun c d g=>(b.block c (Xu d a.size) (fun e=>?_)).trans (a.block c d g)⟩,fun k b=>?_⟩
 ·grind
 rcases f k b with e|e
 ·grind
 exact .inr (nT a.size e)
theorem Chg.far{a:MaV}(g:zc w w1)(d:∀k,Dw p a k->Dw p V k\/w1.heap.size<=k):∀k,Dw p a k->Dw p V k\/w.heap.size<=k:=fun k a=>(d k a).elim .inl fun e=>.inr (nT (bS g) e)
theorem zg.chg{cs:List Xq}(h:zg w b t cs)(k:zk (Dw p V) w w1)(a:¬Dw p V b):zg w1 b t cs:=h.aK k a
theorem ChW.field(h:ChW w0 X p w V m)(k:zc w w1)(c:w1.grownBy w2 (Xa p))(f:V'.f=V.f)(n:V'.ca=V.ca)(q:V'.sp=V.sp)(g:m'.fs=m.fs)(u:m'.ca=m.ca)(r:m'.sp=m.sp)(a:zg w2 p 88 (chL V' m'))(rs:∀W,zk (Dr w0.heap.size X p V) w W->zk (Dr w0.heap.size X p V) w1 W->ziQ W V m->ziQ W V' m'):Chg w0 X p w V m' w2:=by
 have j:zk (Dw p V) w w2:=(zk.aA k).trans (zk.grown c (.inl rfl));have e:Dw p V'=Dw p V:=by unfold Dw;rw[f,n,q]
 have d:Dr w0.heap.size X p V'=Dr w0.heap.size X p V:=by unfold Dr;rw[e]
 obtain⟨i,x,b,y⟩:=h.sp;refine⟨V',⟨h.grX j,h.lo,a,?_,?_,⟨i,?_,Rx r b,fun t z v s i W b=>?_⟩,fun W b=>?_⟩,j,fun l a=>.inl (by rw[e]at a;exact a)⟩
 ·rw[f,g];exact(h.fs.aA k).grown c (fun g f e=>h.nf g f (by cases e;rfl))
 ·rw[n,u];exact(h.ca.aA k).grown c (fun g f e=>h.nc g f (by cases e;rfl))
 ·rw[q];exact(x.aA k).grown c (fun g f e=>h.ns g f (by cases e;rfl))
 ·rw[d]at b;rw[r]at i;exact y t z v s i W ((j.wide fun l a=>.inr a).trans b)
 rw[d]at b;exact rs W ((j.wide fun l a=>.inr a).trans b) (((zk.grown c (.inr (.inl rfl)))).trans b) (h.rest W ((j.wide fun l a=>.inr a).trans b))
theorem ChW.setS(h:ChW w0 X p w V m){b:Sli}{a:List Int}(d:zc w w1)(f:zP slE w.heap.size w1 (b.x) a)(e:w1.grownBy w2 (Xa p))(c:zg w2 p 88 (chL {V with s:=b} {m with sl:=a})):Chg w0 X p w V {m with sl:=a} w2:=
 h.field (V':={V with s:=b}) (m':={m with sl:=a}) d e rfl rfl rfl rfl rfl rfl c (fun W _ a r=>⟨f.aN h.drt W a,r.sb,r.sq,r.db,r.dq,r.fl⟩)
theorem ChW.setF(h:ChW w0 X p w V m){b:Sli}{fs:List Fr}{a:Int}(j:zc w w1)(l:zb z9 w.heap.size w1 (b.x) fs)(d:w1.grownBy w2 (Xa p))(c:zg w2 p 88 (chL {V with f:=b} {m with fs:=fs,aB:=a})):Chg w0 X p w V {m with fs:=fs,aB:=a} w2:=by
 have i:zk (Dw p V) w w2:=(zk.aA j).trans (zk.grown d (.inl rfl));have e:=h.aM p (.inl rfl);have a:∀k,Dw p {V with f:=b} k->Dw p V k\/w.heap.size<=k:=by
  rintro k(e|e|e|e)
  ·exact .inl (.inl e)
  ·exact .inr (l.lt k e).1
  ·exact .inl (.inr (.inr (.inl e)))
  exact .inl (.inr (.inr (.inr e)))
 obtain⟨r,k,n,q⟩:=h.sp;refine⟨{V with f:=b},⟨h.grX i,h.lo,c,(l.base (bS h.gr)).grown d (fun g c e=>?_),(h.ca.aA j).grown d (fun g c e=>h.nc g c (by cases e;rfl)),⟨r,(k.aA j).grown d (fun g c e=>h.ns g c (by cases e;rfl)),n,fun k x s j g W d=>q k x s j g W (ChW.key i a d)⟩,fun W d=>?_⟩,i,a⟩
 ·cases e;have:=(l.lt _ c).1;omega
 have r:=h.rest W (ChW.key i a d);exact⟨r.sl,r.sb,r.sq,r.db,r.dq,r.fl⟩
theorem ChW.frame(h:ChW w0 X p w V m){fs:List Fr}(c:oB V.f g)(b:w.grownBy w1 (Xa g))(q:zb z9 w0.heap.size w1 (V.f.x) fs):Chg w0 X p w V {m with fs:=fs} w1:=by
 have d:zk (Dw p V) w w1:=zk.grown b (.inr (.inl c));have i:∀k,Dw p V k->Dw p V k\/w.heap.size<=k:=fun _ a=>.inl a
 obtain⟨y,t,u,v⟩:=h.sp;refine⟨V,⟨h.grX d,h.lo,h.box.beside b (fun k e=>by cases e;exact h.nf g c),q,h.ca.grown b (fun k a e=>by cases e;exact h.fc _ c a),⟨y,t.grown b (fun k a e=>by cases e;exact h.fS _ c a),u,fun n x s l j W f=>v n x s l j W (ChW.key d i f)⟩,fun W f=>?_⟩,d,i⟩
 have r:=h.rest W (ChW.key d i f);exact⟨r.sl,r.sb,r.sq,r.db,r.dq,r.fl⟩
theorem ChW.cache(h:ChW w0 X p w V m){b:Sli}{l:List Ca}(j:zk (oB V.ca) w w1)(i:∀g,oB b g->oB V.ca g\/w.heap.size<=g)(r:zb jR w0.heap.size w1 (b.x) l)(c:w1.grownBy w2 (Xa p))(n:zg w2 p 88 (chL {V with ca:=b} {m with ca:=l})):Chg w0 X p w V {m with ca:=l} w2:=by
 have a:zk (Dw p V) w w2:=(j.wide fun k d=>.inr (.inr (.inl d))).trans (zk.grown c (.inl rfl))
 have d:∀k,Dw p {V with ca:=b} k->Dw p V k\/w.heap.size<=k:=by
  rintro k(e|e|e|e)
  ·exact .inl (.inl e)
  ·exact .inl (.inr (.inl e))
  ·rcases i k e with e|e
   ·exact .inl (.inr (.inr (.inl e)))
   grind
  exact .inl (.inr (.inr (.inr e)))
 have f:=h.aM p (.inl rfl);have own:∀{f:Type}{E:Elt f}{s:Sli}{l:List f},zb E w0.heap.size w (s.x) l->(∀g,oB s g->¬oB V.ca g)->(∀g,oB s g->p≠g)->zb E w0.heap.size w2 (s.x) l:=fun f k q=>by refine zb.grown ⟨ji f.1 j k,f.2⟩ c (fun g f e=>q g f (by cases e;rfl))
 obtain⟨t,j,k,q⟩:=h.sp;refine⟨{V with ca:=b},⟨h.grX a,h.lo,n,own h.fs h.fc h.nf,r.grown c (fun g f e=>?_),⟨t,own j (fun g c b=>h.cS g b c) h.ns,k,fun n x s k j W c=>q n x s k j W (ChW.key a d c)⟩,fun W c=>?_⟩,a,d⟩
 ·cases e
  rcases i _ f with e|e
  ·exact h.nc _ e rfl
  omega
 have r:=h.rest W (ChW.key a d c);exact⟨r.sl,r.sb,r.sq,r.db,r.dq,r.fl⟩
theorem ChW.setT(h:ChW w0 X p w V m){xs:List SpV}{q:Nat}{x y:SpV}{s:Sp}{t:List (List En)}(s2:xs.length=m.sp.length)(s3:∀(i:Nat)x s,xs[i]?=Xa x->m.sp[i]?=Xa s->∀W,zk (Dr w0.heap.size X p V) w W->j3 W x s)(n:xs[q]?=Xa x)(l:m.sp[q]?=Xa s)(b:oB V.sp g)
  (d:zc w w1)(z:zaD 0 w.heap.size w1 us t)(a:w1.grownBy w2 (Xa g))(v:zb Q4 w0.heap.size w2 (V.sp.x) (xs.set q y))(r:y.aH=x.aH/\y.ar=x.ar/\y.tab=us):Chg w0 X p w V {m with sp:=m.sp.set q {s with tb:=t}} w2:=by
 have u:zk (Dr w0.heap.size X p V) w1 w2:=zk.grown a (.inr (.inr (.inr (.inr b))));have f:zk (Dw p V) w w2:=(zk.aA d).trans (zk.grown a (.inr (.inr (.inr b))));have j:∀k,Dw p V k->Dw p V k\/w.heap.size<=k:=fun _ c=>.inl c
 refine⟨V,⟨h.grX f,h.lo,(h.box.aA d).beside a (fun k e=>by cases e;exact h.ns g b),(h.fs.aA d).grown a (fun k c e=>by cases e;exact h.fS _ c b),(h.ca.aA d).grown a (fun k c e=>by cases e;exact h.cS _ c b),⟨xs.set q y,v,by simp[s2],fun i a d b a W c=>?_⟩,fun W c=>?_⟩,f,j⟩
 ·by_cases e:i=q
  ·subst e;rw[sF (gS.1 n).1]at b;have a:(m.sp.set i {s with tb:=t})[i]?=Xa d:=a;rw[sF (gS.1 l).1]at a;cases b;cases a;have k:=s3 i x s n l W (ChW.key f j c);obtain⟨b,a,d⟩:=r;refine⟨b.trans k.aH,Rx a k.ar,Rx a k.cap,?_⟩
   rw[d];exact z.aK h.drt (u.trans c)
  grind[sN,ChW.key]
 have r:=h.rest W (ChW.key f j c);exact⟨r.sl,r.sb,r.sq,r.db,r.dq,r.fl⟩
end
end
end Go.Proofs.YtmfckdkcmbncdaaGreat
