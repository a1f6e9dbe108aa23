import Derived.Test.YtkfjajbalegoeaaGreatFF2
namespace Go.Proofs.YtkfjajbalegoeaaGreat
open Go.Value renaming slice→O,int→Xe,bool→Xh,agg→Xi,pointer→Xj,tuple→Xm
open Go.IntKind renaming i64→Xf,u8→Xg
open Go.Obj renaming cells→Xk
open Go.Ending renaming returned→Xl
open Go renaming World→Xn,Calls→Xp,Value→Xq
open Go.RowKit renaming Hid→Xo
open Option renaming some→Xa,none→Xb
open Bool renaming true→Xc,false→Xd
open List renaming replicate→Xr
open _root_.List renaming getElem?_cons_succ→Xs,mem_cons_self→Xt,mem_cons_of_mem→Xu,mem_map→Xw,mem_range→Xy,getElem?_of_mem→Xz,ext_getElem?→Ya,mem_filter→Yb,take_of_length_le→Yc,length_cons→Yf,length_map→Yh,contains_iff_mem→Yi,length_nil→Yj,getElem?_map→Yk,take_add_one→Yl,filter_cons→Ym,nodup_cons→Yo,map_nil→Yp,find?_eq_none→Yq,mem_or_eq_of_mem_set→Yr,drop_eq_getElem_cons→Ys,getElem?_append_left→Yt,mem_flatMap→Yv,countP_cons→Yw,range→Yx,set_append_right→Yy,countP_le_length→Yz,take→Ob,drop→Oc,countP_eq_zero→Od,filter_eq_self→Oe,map_congr_left→Of,getElem?_set→Og,set_set→Oh,nodup_append→Oi
open Go.Addr renaming add_lit→Xv
open _root_.Bool renaming and_eq_true→Xx
open _root_.Nat renaming le_of_ble_eq_true→Yd,mul_one→Yu,le_succ→Oa
open Go.Sem renaming run_bind→Ye,run_pure→Yg
open Go.Act renaming put→Yn
set_option maxRecDepth 100000
set_option maxHeartbeats 4000000
variable{α:Type}{a:Act}{P:Addr}{R:Ar}{E:Elt α}{Z:En}{X:Fr}{H z:Int}{g:List (Int × List Int)}{G:List (List En)}{r:List (List Int)}{d:List (Nat × Nat)}{N:List Fl}{L:List Int}{K:List Oper}{D:List Xq}{y:List α}{m:Ma}{b k p:Nat}{u:Nat->En}{F:Nat->On}{s:Sp}{w:Xn}{A:Xq}
variable{B b fi ix j:Nat} {Q:Exit->Act->Xn->Prop} {T:List (Nat->En)} {V:MaV} {W w0 w1:Xn} {a0 a1 a2 a3 a4 a5 a6 a7 a8 a9:Xq} {l:List Ar} {m m' m1:Ma} {o:Oper} {ops:Array Oper} {t:TypeId} {vs:List Xq} {z:Int}
open Go.Proofs.Tryz
section
section
variable{m:Ma} {T:List (Nat->En)}
theorem qF.joinAs (h:qF m T) {q n f:Nat} {g:Nat->En} (E:m.fs[f]? =Xa X) (hp:T[k]? =Xa u) (hi:p<64) (F:u p=Z) (z:T[q]? =Xa g) (af:n<64) (ab:g n=en0) (ag:m.sp[q]? =Xa s)
  (ad:Jf m (zl s.aC n) Z) (l:Z.kind=1) (t:Z.n=(f:Int)) (a4:Z.wr=Xc->X.f≠-1):
  qF { m with fs:=m.fs.set f { X with r:=X.r+1 } } (T.set q (jM g n Z)):=by
 have I:=(gS.1 E).1;have G:=(gS.1 z).1;have K:=h.bB X (mG E);have Q:1<=qA T 1 f:=by grind [JC]
 have fr:=h.cf f X E;have v:∀kind j:Int,qA (T.set q (jM g n Z)) kind j+(isE en0 kind j).toNat=qA T kind j+(isE Z kind j).toNat:=fun kind j=>by grind [ZQ]
 refine⟨by simpa using h.aL,fun x L=>?_,h.aP,h.bC,h.sq,h.bH,h.st,h.cnt,h.bF,h.aW,h.aI,h.aO,by simpa using h.tl,?_,?_,fun j x b=>?_,fun j a8 b=>?_⟩
 ·rcases Yr L with L|rfl
  ·exact h.bB x L
  obtain⟨B,C,D,N,U⟩:=K;exact⟨by simp only;omega,C,D,fun h=>by simp only at h;omega,U⟩
 ·obtain⟨a9,aa,R⟩:=zo.1 h.ca;refine zo.2 ⟨fun S ac=>?_,fun q S z=>(by cases z),R⟩;grind [Zo,jB,zK,zbk,bkN]
 ·have w:∀(x:On) (a:En),Jf m x a->(a.kind≠2->a.n=(f:Int)->a.wr=Xc->X.f≠-1)->Jf { m with fs:=m.fs.set f { X with r:=X.r+1 } } x a:=fun x a d ae=>by
   refine⟨d.1,d.2.1,Zm d.2.2 rfl Sm fun c=>?_⟩;obtain⟨B,C,D,N⟩:=zS d c;grind [jB,zK]
  refine zaS G rfl z (fun M a7 i H e j b a0=>?_) (fun ai a5=>?_)
  ·rcases h.aM M a7 i H e j b with a|a
   ·exact .inl a
   refine .inr (w _ _ a fun c a6 ah=>?_);obtain⟨B,C,D,N⟩:=zS a c;by_cases y:M=k/\j=p;·grind
   intro Y;have d:=zdD hp hi (kind:=1) (k:=(f:Int)) (by rw[F];simp[isE,l,t]) e b (by simp[isE,B,a6]) (by
    by_cases P:k=M;·right;intro V;exact y ⟨P.symm,V.symm⟩
    exact .inl P) Dc
   grind [zK]
  grind
 ·simp only at b⊢;have A:=v 1 j;rw[qW 1 j Dc]at A;by_cases W:j=f;·grind [sF,isE]
  rw[sN (fun h=>W h.symm)]at b;rw[Qp (by rw[t];omega)]at A;have:=h.cf j x b;grind
 simp only at b⊢;have A:=v 2 j;rw[qW 2 j Dc,Jq (by rw[l];decide)]at A;have:=h.cs j a8 b;grind
end
def Zv (m:Ma) (k p n:Nat):Ma:=zai { m with fs:=m.fs.set k { zX m (k:Int)with r:=(zX m (k:Int)).r+1 } } p n ⟨1,(k:Int),Xd⟩
theorem zc7 (h:qF m (ZN m)) (a:k<m.fs.length) (w:Bool):enW ⟨1,(k:Int),w⟩=0:=
 JQ Sm ⟨Sm,by simp only;have:=h.aL;omega,fun _=>by simp only;have:=h.aL;omega⟩ Sm
section
variable{m:Ma} {k p n:Nat} {fr:Fr} {s:Sp}
theorem zit (h:Rt m) (a:m.fs[k]? =Xa fr) (b:Int) (file idx:Int):zU { m with fs:=m.fs.set k { fr with r:=b } } file idx=zU m file idx:=
 QM (gS.1 a).1 h.inv.ca (fun _=>by rw[zK a]) file idx
theorem Rt.kind0 (h:Rt m) (c:m.sp[p]? =Xa s) (b:n<64) (a:(zf s n).kind=1):0<=(zf s n).n:=by obtain⟨k,_,e,_⟩:=h.aQ c b a;omega
theorem zhZ (h:Rt m) (a:m.fs[k]? =Xa fr) (c:0<=fr.f) (b:m.sp[p]? =Xa s) (e:n<64) (x:zf s n=en0)
  (A:(zl s.aC n).is=Xc) (g:(zl s.aC n).file=fr.f) (i:(zl s.aC n).page=fr.x):
  Rt (Zv m k p n)/\Sam (fun q j=>q=p/\j=n) m (Zv m k p n):=by have u:∀s∈m.sp,QP s.tb:=fun s b=>h.tb b;have d:=(gS.1 a).1;have t:=zc7 h.inv d Xd;unfold Zv;rw[zK a];have y:=h.inv.hold (w:=false) a c b (qX b) e x A g i (fun v=>by cases v);refine⟨zd4 (m:={ m with fs:=m.fs.set k { fr with r:=fr.r+1 } }) b u e t y (Si h.aB),Sam.put (m1:={ m with fs:=m.fs.set k { fr with r:=fr.r+1 } }) rfl rfl u e t (fun q j B f z _=>zka h.inv a (h.kind0 f z)) (fun file l=>zit h a _ file l)⟩
theorem zm6 (h:Rt m) (c:m.fs[k]? =Xa fr) (A:fr.f=-1) {q i:Nat} {t:Sp} (C:m.sp[q]? =Xa t) (hi:i<64) (l:zf t i=⟨1,(k:Int),Xd⟩) (d:m.sp[p]? =Xa s) (g:n<64) (y:zf s n=en0)
  (E:(zl s.aC n).is=Xc) (D:(zl s.aC n).sh=Xd):
  Rt (Zv m k p n)/\Sam (fun q j=>q=p/\j=n) m (Zv m k p n):=by
 have w:∀s∈m.sp,QP s.tb:=fun s d=>h.tb d;have f:=(gS.1 c).1;have e:=zc7 h.inv f Xd;unfold Zv;rw[zK c];have b:Jf m (zl s.aC n) ⟨1,(k:Int),Xd⟩:=by
  refine⟨e,Sm,?_⟩;grind [zal,zK]
 have z:=h.inv.joinAs c (qX C) hi l (qX d) g y d b rfl rfl (fun x=>by cases x);refine⟨zd4 (m:={ m with fs:=m.fs.set k { fr with r:=fr.r+1 } }) d w g e z (Si h.aB),Sam.put (m1:={ m with fs:=m.fs.set k { fr with r:=fr.r+1 } }) rfl rfl w g e (fun q j F u B _=>zka h.inv c (h.kind0 u B)) (fun a v=>zit h c _ a v)⟩
theorem zqr (h:Rt m) (c:m.fs[k]? =Xa fr) (f:fr.r=0) (pg:Pg) (u:Bool) (b:m.sp[p]? =Xa s) (e:n<64) (x:zf s n=en0)
  (A:(zl s.aC n).is=Xc) (i:(zl s.aC n).sh=Xd):
  Rt (zai { m with fs:=m.fs.set k ⟨pg,1,u,Xd,-1,0⟩ } p n ⟨1,(k:Int),Xd⟩)/\Sam (fun q j=>q=p/\j=n) m (zai { m with fs:=m.fs.set k ⟨pg,1,u,Xd,-1,0⟩ } p n ⟨1,(k:Int),Xd⟩):=by have t:∀s∈m.sp,QP s.tb:=fun s b=>h.tb b;have d:=(gS.1 c).1;have r:=zc7 h.inv d Xd;have y:=h.inv.mine (pg:=pg) (u:=u) (w:=false) c f b (qX b) e x A i (fun v=>by cases v);refine⟨zd4 (m:={ m with fs:=m.fs.set k ⟨pg,1,u,Xd,-1,0⟩ }) b t e r y (Si h.aB),Sam.put (m1:={ m with fs:=m.fs.set k ⟨pg,1,u,Xd,-1,0⟩ }) rfl rfl t e r (fun q j B g z _=>zoE h.inv c f (qX g) z) (fun a l=>znV h.inv c f a l)⟩
theorem zaF (ht:∀s∈m1.sp,QP s.tb) (c:m1.sp[p]? =Xa s) (f:n<64) (d:enW Z=0) {b:Sp} (a:(zai m1 p n Z).sp[p]? =Xa b):zf b n=Z/\b.aC=s.aC:=by rw[zft,c]at a;simp only[Option.map_some,Option.some.injEq,if_true]at a;subst a;rw[zdx (ht s (mG c)) f d];grind [jM]
end
theorem zb0 {c:Sp} (ht:∀s∈m1.sp,QP s.tb) (f:b<64) (d:enW Z=0) (q:m1.sp[p]? =Xa s) (a:(zai m1 k b Z).sp[p]? =Xa c) (g:¬(p=k/\j=b)):zf c j=zf s j:=by
 rw[zft,q]at a;simp only[Option.map_some,Option.some.injEq]at a;subst a;split
 ·rename_i h
  subst h;rw[zdx (ht s (mG q)) f d];grind [jM]
 rfl
def zw (m:Ma) (k:Nat):List (Nat × Nat)->Ma
 | []=>m
 | x :: l=>zw (Zv m k x.1 x.2) k l
def zrO (m:Ma) (x:Nat × Nat):Prop:=∃s,m.sp[x.1]? =Xa s/\x.2<64/\zf s x.2=en0/\(zl s.aC x.2).is=Xc/\(zl s.aC x.2).sh=Xd
section
variable{k:Nat}
theorem zgv (a:m.fs[k]? =Xa X) (p n:Nat):(Zv m k p n).fs[k]? =Xa { X with r:=X.r+1 }:=by show(m.fs.set k _)[k]? =_;grind [sF,gS.1,zK]
theorem zfA:∀(l:List (Nat × Nat)) {m:Ma} {fr:Fr},Rt m->m.fs[k]? =Xa fr->fr.f=-1->(∃(q i:Nat) (t:Sp),m.sp[q]? =Xa t/\i<64/\zf t i=⟨1,(k:Int),Xd⟩)->(∀x∈l,zrO m x)->l.Nodup->
  Rt (zw m k l)/\Sam (fun q j=>(q,j)∈l) m (zw m k l)/\(zw m k l).fs[k]? =Xa { fr with r:=fr.r+(l.length:Int) }/\(∀x∈l,∀s',(zw m k l).sp[x.1]? =Xa s'->zf s' x.2=⟨1,(k:Int),Xd⟩)/\∀(q j:Nat) s s',m.sp[q]? =Xa s->(zw m k l).sp[q]? =Xa s'->(q,j)∉l->zf s' j=zf s j
 | [],m,fr,h,hk,_,_,_,_=>⟨h,Sam.refl _ _,(by simp only[zw,Yj,Int.ofNat_zero,Int.add_zero];exact hk),fun x hx=>(by cases hx),fun q j s s' hs hs' _=>by simp only[zw]at hs';rw[hs]at hs';cases hs';rfl⟩
 | x :: l,m,fr,h,hk,hf,hq,hb,hd=>by
  obtain⟨q,i,t,hq,hi,hqi⟩:=hq;obtain⟨s,hs,hn,h0,hx,hsh⟩:=hb x (Xt ..);have hkl:=(gS.1 hk).1;have he:=zc7 h.inv hkl Xd;have ht:∀s∈m.sp,QP s.tb:=fun s hs=>h.tb hs
  obtain⟨j1,j2⟩:=zm6 h hk hf hq hi hqi hs hn h0 hx hsh;have hd':=Yo.1 hd;have at1:∀(q:Nat) s,m.sp[q]? =Xa s->∃s',(Zv m k x.1 x.2).sp[q]? =Xa s':=fun q s hs=>⟨_,gE (by rw[j2.aI];exact(gS.1 hs).1)⟩;have oth:∀(q j:Nat) s s',m.sp[q]? =Xa s->(Zv m k x.1 x.2).sp[q]? =Xa s'->¬(q=x.1/\j=x.2)->zf s' j=zf s j:=fun q j s s' h1 h2 h3=>zb0 (m1:={ m with fs:=m.fs.set k { zX m (k:Int)with r:=(zX m (k:Int)).r+1 } }) ht hn he h1 h2 h3
  obtain⟨s1,hs1⟩:=at1 x.1 s hs;have now:=(zaF (m1:={ m with fs:=m.fs.set k { zX m (k:Int)with r:=(zX m (k:Int)).r+1 } }) ht hs hn he hs1).1;obtain⟨r1,r2,r3,r4,r5⟩:=zfA l j1 (zgv hk x.1 x.2) hf ⟨x.1,x.2,s1,hs1,hn,now⟩ (fun y hy=>by
   obtain⟨sy,a1,a2,a3,a4,a5⟩:=hb y (Xu _ hy);obtain⟨sy',b1⟩:=at1 y.1 sy a1;have b2:=(j2.sp y.1 sy sy' a1 b1).2;have b3:=oth y.1 y.2 sy sy' a1 b1 (fun e=>hd'.1 (by
    have:y=x:=Prod.ext e.1 e.2;rw[<-this];exact hy))
   exact⟨sy',b1,a2,Rx b3 a3,Rx b2 a4,Rx b2 a5⟩) hd'.2
  refine⟨r1,(j2.trans r2).mono ?_,?_,fun y hy s' hs'=>?_,fun q j s s' h1 h2 h3=>?_⟩
  ·rintro q j (⟨rfl,rfl⟩ | h1)
   ·exact Xt ..
   exact Xu _ h1
  ·show(zw (Zv m k x.1 x.2) k l).fs[k]? =_
   rw[r3];simp only[Yf,Option.some.injEq,Fr.mk.injEq,and_true,true_and];omega
  ·rcases mC.1 hy with rfl | hy
   ·rw[r5 y.1 y.2 s1 s' hs1 hs' hd'.1];exact now
   exact r4 y hy s' hs'
  obtain⟨sq,hsq⟩:=at1 q s h1;rw[r5 q j sq s' hsq h2 (fun e=>h3 (Xu _ e))]
  exact oth q j s sq h1 hsq (fun e=>h3 (by
   have:(q,j)=x:=Prod.ext e.1 e.2;rw[this];exact Xt ..))
def zqg (k:Nat) (l:List (Nat × Nat)) (sp:List Sp):List Sp:=l.foldl (fun sp x=>sp.modify x.1 fun s=>{ s with tb:=zk3 s.tb x.2 ⟨1,(k:Int),Xd⟩ }) sp
theorem zcJ:∀(l:List (Nat × Nat)) {m:Ma} {fr:Fr},m.fs[k]? =Xa fr->zw m k l={ m with fs:=m.fs.set k { fr with r:=fr.r+(l.length:Int) },sp:=zqg k l m.sp }
 | [],m,fr,hk=>by
  have:m.fs.set k { fr with r:=fr.r+(([]:List (Nat × Nat)).length:Int) }=m.fs:=by
   apply Ya;intro q;rw[Og];split
   ·rename_i hq
    subst hq;rw[if_pos (gS.1 hk).1,hk];simp
   rfl
  rw[this];rfl
 | x :: l,m,fr,hk=>by
  show zw (Zv m k x.1 x.2) k l=_;rw[zcJ l (zgv hk x.1 x.2)];have e1:(Zv m k x.1 x.2).fs=m.fs.set k { fr with r:=fr.r+1 }:=by
   show m.fs.set k _=_;rw[zK hk]
  have e2:fr.r+1+(l.length:Int)=fr.r+((x :: l).length:Int):=by simp only[Yf];omega
  rw[e1,Oh];simp only[e2];rfl
def zbJ (m:Ma) (k:Nat) (pg:Pg) (u:Bool) (l:List (Nat × Nat)):Ma:={ m with fs:=m.fs.set k ⟨pg,(l.length:Int),u,Xd,-1,0⟩,sp:=zqg k l m.sp }
theorem zqU (z:Rt m) (K:m.fs[k]? =Xa X) (a7:X.r=0) (pg:Pg) (u:Bool) (a6:d≠[]) (G:∀x∈d,zrO m x) (hd:d.Nodup):
  Rt (zbJ m k pg u d)/\Sam (fun q j=>(q,j)∈d) m (zbJ m k pg u d)/\(∀x∈d,∀b,(zbJ m k pg u d).sp[x.1]? =Xa b->zf b x.2=⟨1,(k:Int),Xd⟩):=by
 cases d with
 | nil=>exact absurd rfl a6
 | cons x d=>
  obtain⟨s,c,r,Z,a9,A⟩:=G x (Xt ..);have i:=(gS.1 K).1;have H:=zc7 z.inv i Xd;have L:∀s∈m.sp,QP s.tb:=fun s c=>z.tb c;obtain⟨N,t⟩:=zqr z K a7 pg u c r Z a9 A;have g:=Yo.1 hd;obtain⟨e,a⟩:∃e,zai { m with fs:=m.fs.set k ⟨pg,1,u,Xd,-1,0⟩ } x.1 x.2 ⟨1,(k:Int),Xd⟩=e:=⟨_,rfl⟩;rw[a]at N t;have h:e.fs[k]? =Xa ⟨pg,1,u,Xd,-1,0⟩:=by
   rw[<-a];show(m.fs.set k _)[k]? =_;rw[sF i]
  have f:∀(q:Nat) s,m.sp[q]? =Xa s->∃b,e.sp[q]? =Xa b:=fun q s c=>⟨_,gE (by rw[t.aI];exact(gS.1 c).1)⟩;have C:∀(q j:Nat) s b,m.sp[q]? =Xa s->e.sp[q]? =Xa b->¬(q=x.1/\j=x.2)->zf b j=zf s j:=fun q j s b I F a0=>by
   rw[<-a]at F;exact zb0 (m1:={ m with fs:=m.fs.set k ⟨pg,1,u,Xd,-1,0⟩ }) L r H I F a0
  obtain⟨R,n⟩:=f x.1 s c;have B:zf R x.2=⟨1,(k:Int),Xd⟩:=by
   have p:=n;rw[<-a]at p;exact(zaF (m1:={ m with fs:=m.fs.set k ⟨pg,1,u,Xd,-1,0⟩ }) L c r H p).1
  obtain⟨P,Q,ad,aa,ab⟩:=zfA d N h rfl ⟨x.1,x.2,R,n,r,B⟩ (fun y M=>by
   obtain⟨D,v,S,T,U,V⟩:=G y (Xu _ M);obtain⟨fr,w⟩:=f y.1 D v;have E:=(t.sp y.1 D fr v w).2;have W:=C y.1 y.2 D fr v w (fun ac=>g.1 (by grind))
   exact⟨fr,w,S,Rx W T,Rx E U,Rx E V⟩) g.2
  have Y:zw e k d=zbJ m k pg u (x :: d):=by
   rw[zcJ d h,<-a];have l:(1:Int)+(d.length:Int)=((x :: d).length:Int):=(by simp only[Yf];omega);unfold zbJ zai;simp only[Oh,l];rfl
  rw[Y]at P Q aa ab;refine⟨P,(t.trans Q).mono ?_,fun y M b a8=>?_⟩;·grind
  grind
theorem zpE (a:m.fs[k]? =Xa X) (pg:Pg) (u:Bool) (l:List (Nat × Nat)):
  zw { m with fs:=m.fs.set k ⟨pg,1,u,Xd,-1,0⟩ } k l={ m with fs:=m.fs.set k ⟨pg,1+(l.length:Int),u,Xd,-1,0⟩,sp:=zqg k l m.sp }:=by rw[zcJ l (fr:=⟨pg,1,u,Xd,-1,0⟩) (by show(m.fs.set k _)[k]? =_;rw[sF (gS.1 a).1])];simp only[Oh]
end
section
variable{m:Ma} {k p n:Nat} {fr:Fr} {s:Sp}
def ZG (m:Ma) (k:Nat) (pg:Pg) (u d:Bool) (file idx:Int):Ma:={ m with fs:=m.fs.set k ⟨pg,1,u,d,file,idx⟩,ca:=Z4 m.ca ⟨file,idx,k⟩ }
theorem zn2 (h:Rt m) (b:m.fs[k]? =Xa fr) (j:fr.r=0) {pg:Pg} {u d:Bool} {idx:Int} (x:0<=H/\H<m.fl.length) (hi:0<=idx/\idx<bkN m H) (r:∀c∈m.ca,¬(c.file=H/\c.idx=idx)) (hp:pgL pg=zU m H idx):
  Rt (ZG m k pg u d H idx)/\Sam (fun _ _=>False) m (ZG m k pg u d H idx):=by
 have y:=(gS.1 b).1;have w:=zl4 h.inv (u:=u) (d:=d) b j r hp;refine⟨Rt.of (h.inv.cache (p:=pg) (u:=u) (d:=d) b j x hi r) (fun s B=>h.tb B) h.aB.1 (by simpa [ZG]using h.aB.2),rfl,fun q s l a f=>?_,fun q C s l a f n _=>?_,rfl,fun _=>rfl,fun _=>rfl,fun e D _=>?_⟩
 ·have:m.sp[q]? =Xa l:=f
  grind
 ·have:m.sp[q]? =Xa l:=f;rw[a]at this;cases this;have g:=h.inv.en (qX a) n;have z:=(jV g).2.1.1;refine zdu rfl rfl (fun i=>?_) (fun _=>rfl) (fun _=>rfl) w;have A:(zf s C).n≠(k:Int):=fun t=>by
   have v:=JC (qX a) n i;rw[t]at v;have:=(h.inv.free b j).1;omega
  grind [jB,zf,zX,ZG]
 grind [zU,ZG]
theorem zpu (t:Rt m) (h:m.fs[k]? =Xa fr) (y:fr.r=0) {pg:Pg} {u d:Bool} {file idx:Int} (g:0<=file/\file<m.fl.length) (hi:0<=idx/\idx<bkN m file) (b:∀c∈m.ca,¬(c.file=file/\c.idx=idx)) (hp:pgL pg=zU m file idx)
  (z:m.sp[p]? =Xa s) (x:n<64) (v:zf s n=en0) (A:(zl s.aC n).is=Xc) (e:(zl s.aC n).file=file) (f:(zl s.aC n).page=idx):
  Rt (Zv (ZG m k pg u d file idx) k p n)/\Sam (fun q j=>q=p/\j=n) m (Zv (ZG m k pg u d file idx) k p n):=by
 have w:=(gS.1 h).1;obtain⟨i,l⟩:=zn2 t h y (u:=u) (d:=d) g hi b hp;have a:(ZG m k pg u d file idx).fs[k]? =Xa ⟨pg,1,u,d,file,idx⟩:=by
  show(m.fs.set k _)[k]? =_;grind
 obtain⟨B,C⟩:=zhZ i a g.1 (s:=s) z x v A e f;exact⟨B,(l.trans C).mono fun q j r=>r.resolve_left id⟩
theorem zro (b:(zl s.aC n).is=Xc) {w:Bool} (a:m1.fs[k]? =Xa fr):ZP m1 (zl s.aC n) ⟨1,(k:Int),w⟩=(pgL fr.p,decide (fr.f<0),0):=by grind [ZP,zK]
theorem zgq (h:Rt m) (c:m.fs[k]? =Xa fr) (f:fr.r≠0) (u d:Bool):Rt { m with fs:=m.fs.set k { fr with u:=u,d:=d } }/\Sam (fun _ _=>False) m { m with fs:=m.fs.set k { fr with u:=u,d:=d } }:=by
 have e:=(gS.1 c).1;have i:∀a b,zU { m with fs:=m.fs.set k { fr with u:=u,d:=d } } a b=zU m a b:=fun a b=>QM e h.inv.ca (fun _=>by rw[zK c]) a b;refine⟨Rt.of (h.inv.marks (p:=fr.p) (u:=u) (d:=d) c f) (fun s b=>h.tb b) h.aB.1 (Si h.aB.2),rfl,fun q s g b f=>?_,fun q j s g b f j _=>?_,rfl,fun _=>rfl,fun _=>rfl,fun a a _=>by rw[i]⟩;·grind
 have:m.sp[q]? =Xa g:=f;rw[b]at this;cases this;refine zbV e h.inv.ca (fun _=>by rw[zK c]) (h.kind0 b j) (fun _ _=>by rw[zK c];exact⟨rfl,Iff.rfl⟩)
theorem zpP (h:Rt m) (b:m.sp[p]? =Xa s) (f:n<64) {e:En} (t:e.kind=(zf s n).kind) (c:e.n=(zf s n).n) (d:Jf m (zl s.aC n) e):Rt (zai m p n e)/\Sam (fun _ _=>False) m (zai m p n e):=by
 have i:∀s∈m.sp,QP s.tb:=fun s b=>h.tb b;have u:=h.inv.entry b (qX b) f t c d;have a:=Sam.put (m1:=m) (p:=p) rfl rfl i f d.1 (fun q j y v r _=>rfl) (fun _ _=>rfl);refine⟨zd4 b i f d.1 u h.aB,a.aI,a.sp,fun q j w x g k r _=>?_,a.fll,a.sz,a.bk,a.byt⟩;by_cases l:q=p/\j=n;·obtain⟨rfl,rfl⟩:=l;rw[b]at g;cases g;rw[(zaF i b f d.1 k).1];exact zdu t c (fun _=>⟨rfl,Iff.rfl⟩) (fun _=>rfl) (fun _=>rfl) (fun _ _=>rfl)
 exact a.see q j w x g k r l
end
def JK (k:Int) (e:En) (f:Nat->En):Nat->En:=fun j=>if isE (f j) 1 k=Xc then e else f j
theorem zkI (k:Int) (e) (f:Nat->En) (kind j:Int):∀n:Nat,Zg (JK k e f) kind j n+(if kind=1/\j=k then Zg f 1 k n else 0)=Zg f kind j n+(if isE e kind j=Xc then Zg f 1 k n else 0)
 | 0=>by simp[Zg]
 | n+1=>by
  have b:=zkI k e f kind j n;unfold Zg;have a:JK k e f n=if isE (f n) 1 k=Xc then e else f n:=rfl;rw[a]
  cases d:isE (f n) 1 k with
  | true=>
   simp only[if_true];have g:isE (f n) kind j=Xc↔kind=1/\j=k:=by
    simp only[isE,Xx,decide_eq_true_eq]at d⊢;omega
   by_cases a:kind=1/\j=k
   ·rw[kE a]at b⊢;rw[g.2 a];cases c:isE e kind j <;> simp[c]at b⊢<;> omega
   rw[kF a]at b⊢;have:isE (f n) kind j=Xd:=by
    cases h:isE (f n) kind j with
    | false=>rfl
    | true=>exact absurd (g.1 h) a
   rw[this];cases c:isE e kind j <;> simp[c]at b⊢<;> omega
  | false=>
   simp only[if_false,Bool.false_eq_true];by_cases a:kind=1/\j=k
   ·rw[kE a]at b⊢;rw[a.1,a.2,d];rw[a.1,a.2]at b;simp at b⊢;omega
   rw[kF a]at b⊢;simp at b⊢;omega
theorem zer (k:Int) (e) (kind j:Int):∀T:List (Nat->En),qA (T.map (JK k e)) kind j+(if kind=1/\j=k then qA T 1 k else 0)=qA T kind j+(if isE e kind j=Xc then qA T 1 k else 0)
 | []=>by simp[qA]
 | f :: T=>by
  have a:=zer k e kind j T;have b:=zkI k e f kind j 64;simp only[qA,mP,List.sum_cons]at a⊢
  by_cases d:kind=1/\j=k
  ·rw[kE d]at a b⊢
   by_cases c:isE e kind j=Xc;·rw[kE c]at a b⊢;omega
   rw[kF c]at a b⊢;omega
  rw[kF d]at a b⊢;by_cases c:isE e kind j=Xc;·rw[kE c]at a b⊢;omega
  rw[kF c]at a b⊢;omega
section
variable{m:Ma} {T:List (Nat->En)}
theorem qF.moved (h:qF m T) (b:m.fs[k]? =Xa X) (e:En) (w:e.kind≠1) {sl':List Int} {sb':List (List Int)} {sq':List (Int × List Int)} (q:sl'.length=m.sl.length) (r:sb'.length=m.sb.length) (u:zO sb'.length sq'=0)
  (a:∀(j:Nat) z,sl'[j]? =Xa z->z=(qA T 2 j+(if isE e 2 (j:Int)=Xc then qA T 1 k else 0):Nat)) (v:e=en0\/(enW e=0/\e.kind=2/\e.n<m.sl.length/\X.f=-1)):
  qF { m with fs:=m.fs.set k frF,ca:=m.ca.filter fun d=>!decide (d.fr=(k:Int)),sl:=sl',sb:=sb',sq:=sq' } (T.map (JK (k:Int) e)):=by
 have a:=(gS.1 b).1;have c:∀j:Int,j≠(k:Int)->zG (m.ca.filter fun d=>!decide (d.fr=(k:Int))) j=zG m.ca j:=fun j f=>by grind [zG,List.countP_filter]
 have a:zG (m.ca.filter fun d=>!decide (d.fr=(k:Int))) (k:Int)=0:=by
  unfold zG;rw[Od];intro d t;rw[Yb]at t;simpa using t.2
 obtain⟨i,a⟩:∃i:Ma,{ m with fs:=m.fs.set k frF,ca:=m.ca.filter fun d=>!decide (d.fr=(k:Int)),sl:=sl',sb:=sb',sq:=sq' }=i:=⟨_,rfl⟩;have p:∀z:Int,0<=z->z≠(k:Int)->zX i z=zX m z:=fun z b g=>by grind [zX,frF,jB]
 have n:i.sl.length=m.sl.length:=Ry a q;have l:i.fs.length=m.fs.length:=by rw[<-a];simp
 rw[a];refine⟨Rx l h.aL,fun s b=>?_,Rx n h.aP,by rw[<-a];show sb'.length=sl'.length;rw[r,q];exact h.bC,Ry a u,Ry a h.bH,Ry a h.st,Ry a h.cnt,Ry a h.bF,Ry a h.aW,Ry a h.aI,Ry a h.aO,by rw[<-a];simpa using h.tl,?_,fun r x s y b j f=>?_,fun j s f=>?_,fun j z f=>?_⟩
 ·rw[<-a]at b
  rcases Yr b with b|rfl;·exact h.bB s b
  exact⟨Dc,Dc,.inl rfl,fun _=>rfl,fun _=>rfl⟩
 ·obtain⟨u,q,z⟩:=zo.1 h.ca;have q:i.ca=m.ca.filter fun d=>!decide (d.fr=(k:Int)):=by rw[<-a]
  rw[q];refine zo.2 ⟨fun d t=>?_,fun r d i=>(by cases i),z.filter _⟩;have i:=Yb.1 t;have g:d.fr≠(k:Int):=Si i.2;obtain⟨q,t,z,A⟩:=Zo (u d i.1);have i:=p d.fr q.2.2.2.2.1 g;refine zbk ?_ (Rx i t) (Rx i z) (Rx i A);rw[<-a];simpa [bkN]using q
 ·rw[Yk]at b
  cases u:T[r]? with
  | none=>rw[u]at b;cases b
  | some t=>
   rw[u]at b;simp only[Option.map_some,Option.some.injEq]at b;subst b;have q:m.sp[r]? =Xa x:=(by rw[<-a]at y;exact y);unfold JK;by_cases b:isE (t j) 1 (k:Int)=Xc
   ·rw[kE b]
    rcases v with v|⟨i,v,v,v⟩;·grind
    right;refine⟨i,Wm,?_⟩;simp only[isE,Xx,decide_eq_true_eq]at b;rcases h.aM r x t q u j f with i|i;·grind [en0]
    have v:=i.2.2;unfold zal at v⊢;split at v;·cases v
    grind [zS,zK]
   rw[kF b];rcases h.aM r x t q u j f with i|i;·grind
   refine .inr ⟨i.1,i.2.1,Zm i.2.2 n l fun l=>?_⟩;obtain⟨n,q,r,r⟩:=zS i l;have g:(t j).n≠(k:Int):=fun i=>b (by simp[isE,n,i]);rw[p _ q g];exact⟨rfl,rfl,r⟩
 ·rw[<-a]at f⊢;simp only at f⊢;have a:=zer (k:Int) e 1 (j:Int) T;rw[kF (show¬isE e 1 (j:Int)=Xc by simp[isE,w])]at a;by_cases b:j=k;·grind [sF,frF]
  rw[sN (fun h=>b h.symm)]at f;rw[kF Wm]at a;rw[c j Wm];have:=h.cf j s f;refine⟨?_,this.2⟩;omega
 grind [zer]
theorem zjA (h:zG m.ca (k:Int)=0):(m.ca.filter fun d=>!decide (d.fr=(k:Int)))=m.ca:=by grind [Oe,zG,Od]
theorem qF.mine0 (h:qF m T) (b:m.fs[k]? =Xa X) (a:X.f=-1):zG m.ca (k:Int)=0:=by refine Classical.byContradiction fun b=>?_;obtain⟨c,a,d⟩:=zcT b;obtain⟨b,b,b,b⟩:=Zo ((zo.1 h.ca).1 c a);grind [zK]
end
def Qa (k:Int) (e:En) (s:Sp):Sp:={ s with tb:=ZH (JK k e (zf s)) }
theorem zb5 (h:Rt m) (a:s∈m.sp) (b:enW Z=0):zf (Qa z Z s)=JK z Z (zf s):=by
 have c:∀n,enW (JK z Z (zf s) n)=0:=fun n=>by
  unfold JK;split;·exact b
  exact(h.tb a).get _ _
 funext j;by_cases b:j<64;·grind [Qa,zf,zgb]
 have b:zf s j=en0:=by
  unfold zf zbF;rw[gN (l:=s.tb) (by rw[(h.tb a).1];omega)];rfl
 have a:zf (Qa z Z s) j=en0:=by grind [zf,zbF,Qa,gN,ZH,JK,ZR]
 grind [JK,qW]
section
variable{m:Ma}
theorem zhO (h:Rt m) (b:enW Z=0):∀s∈m.sp.map (Qa z Z),QP s.tb:=fun s c=>by
 obtain⟨d,a,rfl⟩:=Xw.1 c;have c:∀n,n<64->enW (JK z Z (zf d) n)=0:=fun n _=>by
  unfold JK;split;·exact b
  exact(h.tb a).get _ _
 exact⟨by simp[Qa,ZH,ZR],ZY.1 (zj8 c)⟩
theorem zbA (h:(m.sp.map (Qa z Z))[k]? =Xa s):∃q,m.sp[k]? =Xa q/\s=Qa z Z q:=by grind
theorem zfE (h:Rt m) {k:Int} (b:enW Z=0) (sp':List Sp) (a:sp'=m.sp.map (Qa k Z)):sp'.map zf=(ZN m).map (JK k Z):=by grind [ZN,List.map_map,Of,zb5]
theorem zfH {p q:α->Bool}:∀{l:List α},(∀x∈l,p x=q x)->l.find? p=l.find? q
 | [],_=>rfl
 | x :: l,h=>by
  rw[List.find?_cons,List.find?_cons,h x Sm,zfH (l:=l) fun y a=>h y (by simp[a])]
theorem zgM (_hk:k<m.fs.length) (a:m'.fs=m.fs.set k X) (c:0<=z) (b:z≠(k:Int)):zX m' z=zX m z:=by unfold zX;rw[a,gD,gD,sN Wm]
def QB (m:Ma) (k j:Nat) (r:Int) (sb':List (List Int)) (sq':List (Int × List Int)):Ma:={ m with fs:=m.fs.set k frF,sl:=m.sl.set j r,sb:=sb',sq:=sq',sp:=m.sp.map (Qa (k:Int) ⟨2,(j:Int),Xd⟩) }
theorem zqh (h:Rt m) (q:m.fs[k]? =Xa X) (t:X.f=-1) (_hr:X.r≠0) (u:m.sl[j]? =Xa 0) (a:r.length=m.sb.length) (c:zO r.length g=0) (w:qN r g (j:Int)=pgL X.p) (x:∀i:Int,0<=i->i≠(j:Int)->qN r g i=qN m.sb m.sq i):
  Rt (QB m k j X.r r g)/\Sam (fun _ _=>False) m (QB m k j X.r r g):=by
 have v:=(gS.1 q).1;have b:=(gS.1 u).1;have d:=h.inv.aP;have sb':enW ⟨2,(j:Int),Xd⟩=0:=JQ Sm ⟨Sm,by simp only;omega,fun h=>by simp at h⟩ Sm
 have n:=h.inv.mine0 q t;have d:=h.inv.moved q ⟨2,(j:Int),Xd⟩ Sm (sl':=m.sl.set j X.r) (sb':=r) (sq':=g) Sm a c (fun i z a=>by
  have c:=(h.inv.cf k X q).1;by_cases l:i=j
  ·subst l;rw[sF b]at a;cases a;have:=h.inv.cs i 0 u;rw[kE (by simp[isE])];omega
  rw[sN (fun h=>l h.symm)]at a;have:=h.inv.cs i z a;rw[kF (by simp[isE];omega)]
  omega) (.inr ⟨sb',rfl,by simp only;omega,t⟩)
 rw[zjA n]at d;have b:(QB m k j X.r r g).sp=m.sp.map (Qa (k:Int) ⟨2,(j:Int),Xd⟩):=rfl;have a:=zfE h (k:=(k:Int)) sb' _ b;have c:qF (QB m k j X.r r g) (ZN (QB m k j X.r r g)):=by
  unfold ZN;rw[a];refine qF.tabs d (sp':=(QB m k j X.r r g).sp) (by rw[b];simp) fun p s A e f=>?_;rw[b]at f;obtain⟨B,sq',rfl⟩:=zbA f;have a:m.sp[p]? =Xa s:=e;rw[a]at sq';cases sq';exact⟨rfl,rfl⟩
 refine⟨Rt.of c (by rw[b];exact zhO h sb') h.aB.1 (by show m.aB<max ((m.fs.set k frF).length:Int) 1;simpa using h.aB.2),?_⟩;have a:(QB m k j X.r r g).ca=m.ca:=rfl;have c:∀a d,zU (QB m k j X.r r g) a d=zU m a d:=fun a d=>by
  refine zis (m:=m) (m':=QB m k j X.r r g) rfl rfl rfl rfl (fun y z=>?_) a d;have d:y.fr≠(k:Int):=fun l=>by have:=QO z;rw[l]at this;exact this n
  rw[zgM v (m':=QB m k j X.r r g) rfl (Zo ((zo.1 h.inv.ca).1 y z)).1.2.2.2.2.1 d]
 refine⟨by rw[b];simp,fun d s A e f=>?_,fun d n s A e f d _=>?_,rfl,fun _=>rfl,fun _=>rfl,fun a i _=>by rw[c]⟩;·rw[b]at f;obtain⟨B,sq',rfl⟩:=zbA f;rw[e]at sq';cases sq';exact⟨rfl,rfl⟩
 rw[b]at f;obtain⟨B,sq',rfl⟩:=zbA f;rw[e]at sq';cases sq';rw[zb5 h (mG e) sb'];unfold JK;by_cases a:isE (zf s n) 1 (k:Int)=Xc
 ·rw[kE a];simp only[isE,Xx,decide_eq_true_eq]at a;unfold ZP;by_cases b:(zl s.aC n).is=Xd;·grind
  rw[kF b,kF b,kF Sm,kE rfl,kE a.1,a.2,zK q];show(qN r g (j:Int),Xc,(0:Int))=_;rw[w,t];rfl
 rw[kF a];have a:=h.inv.en (qX e) d;have b:=(jV a).2.1.1;refine zdu rfl rfl (fun a=>?_) (fun a=>?_) (fun _=>rfl) c;·grind [zf,isE,zgM,QB]
 refine x _ b fun l=>?_;have b:=h.inv.cs j 0 u;have b:=za6 (qX e) d (kind:=2) (k:=(j:Int)) (by simp[isE,a,l]) Dc;omega
def qI (m:Ma) (k:Nat):Ma:={ m with fs:=m.fs.set k frF,ca:=m.ca.filter fun d=>!decide (d.fr=(k:Int)),sp:=m.sp.map (Qa (k:Int) en0) }
theorem zrG {a:Int} (h:8*H+(k:Int)<a):(Z7 L H a).getD k 0=L.getD k 0:=by
 unfold Z7;rw[gD,gD,List.getElem?_mapIdx];cases L[k]? with
 | none=>rfl
 | some z=>simp only[Option.map_some,Option.getD_some];rw[kF Wm]
theorem zqL (h:Rt m) (S:Nat->Nat->Prop) (i:m.fs[k]? =Xa X) (b:0<=X.f) (_hr:X.r≠0) (hd:Qr m X.f X.x=Z7 (pgL X.p) X.x (JF m X.f))
  (hS:Z7 (pgL X.p) X.x (JF m X.f)=pgL X.p\/∀(q n:Nat) s,m.sp[q]? =Xa s->n<64->(zl s.aC n).is=Xc->(zl s.aC n).file=X.f->(zl s.aC n).page=X.x->(zf s n).kind=0\/isE (zf s n) 1 (k:Int)=Xc->S q n):
  Rt (qI m k)/\Sam S m (qI m k):=by
 have C:=(gS.1 i).1;have a:=h.inv.cf k X i;obtain⟨c,B,d⟩:=zcT (a.2 b);obtain⟨H,a,y,z⟩:=Zo ((zo.1 h.inv.ca).1 c B);rw[d,zK i]at a y z;have c:=h.inv.moved i en0 Dc (sl':=m.sl) (sb':=m.sb) (sq':=m.sq) rfl rfl h.inv.sq (fun E a D=>by
  have:=h.inv.cs E a D;rw[kF (by simp[qW])]
  omega) (.inl rfl)
 have b:(qI m k).sp=m.sp.map (Qa (k:Int) en0):=rfl;have a:=zfE h (k:=(k:Int)) JR _ b;have e:qF (qI m k) (ZN (qI m k)):=by
  unfold ZN;rw[a];refine qF.tabs c (sp':=(qI m k).sp) (by rw[b];simp) fun p s F c g=>?_;rw[b]at g;obtain⟨G,r,rfl⟩:=zbA g;have a:m.sp[p]? =Xa s:=c;rw[a]at r;cases r;exact⟨rfl,rfl⟩
 refine⟨Rt.of e (by rw[b];exact zhO h JR) h.aB.1 (by show m.aB<max ((m.fs.set k frF).length:Int) 1;simpa using h.aB.2),?_⟩;have e:∀file a,(qI m k).ca.find? (QK file a)=if file=X.f/\a=X.x then Xb else m.ca.find? (QK file a):=fun file a=>by
  show(m.ca.filter fun j=>!decide (j.fr=(k:Int))).find? (QK file a)=_;by_cases l:file=X.f/\a=X.x
  ·rw[kE l];rw[Yq];intro j hd f;have t:=Yb.1 hd;simp only[QK,Xx,decide_eq_true_eq]at f;have c:=Ja h.inv.ca t.1;have g:=Ja h.inv.ca B;rw[f.1,f.2,l.1,l.2,y,z,g]at c;cases c;have:=t.2;simp[d]at this
  rw[kF l];rw[List.find?_filter];apply zfH;intro j hd;cases f:QK file a j with
  | false=>simp
  | true=>
   simp only[QK,Xx,decide_eq_true_eq]at f;have:j.fr≠(k:Int):=fun w=>by
    obtain⟨t,A,u,v⟩:=Zo ((zo.1 h.inv.ca).1 j hd);rw[w,zK i]at u v;exact l ⟨by rw[<-f.1,u],by rw[<-f.2,v]⟩
   simp[this]
 have x:zU m X.f X.x=pgL X.p:=by
  unfold zU;have:=Ja h.inv.ca B;rw[<-y,<-z]at this;rw[this];simp only;rw[d,zK i]
 have d:zU (qI m k) X.f X.x=Z7 (pgL X.p) X.x (JF m X.f):=by
  unfold zU;rw[e,kE ⟨rfl,rfl⟩];exact hd
 have d:∀file a,¬(file=X.f/\a=X.x)->zU (qI m k) file a=zU m file a:=fun file a d=>by
  unfold zU;rw[e,kF d];cases e:m.ca.find? (QK file a)with
  | none=>rfl
  | some j=>
   simp only;have a:=List.mem_of_find?_eq_some e;obtain⟨t,A,u,v⟩:=Zo ((zo.1 h.inv.ca).1 j a);have f:=List.find?_some e;simp only[QK,Xx,decide_eq_true_eq]at f;rw[zgM C (m':=qI m k) rfl t.2.2.2.2.1 (fun w=>?_)];rw[w,zK i]at u v;exact d ⟨by rw[<-f.1,u],by rw[<-f.2,v]⟩
 refine⟨by rw[b];simp,fun q s F c g=>?_,fun q n s F c g f a=>?_,rfl,fun _=>rfl,fun _=>rfl,fun file E D=>?_⟩;·rw[b]at g;obtain⟨G,r,rfl⟩:=zbA g;rw[c]at r;cases r;exact⟨rfl,rfl⟩
 ·rw[b]at g;obtain⟨G,r,rfl⟩:=zbA g;rw[c]at r;cases r;rw[zb5 h (mG c) JR];unfold JK;have a:X.x<bkN m X.f:=by rw[y,z];exact H.2.2.2.1
  have hcut:(zl s.aC n).is=Xc->(zl s.aC n).file=X.f->(zl s.aC n).page=X.x->(zf s n).kind=0\/isE (zf s n) 1 (k:Int)=Xc->zU (qI m k) X.f X.x=pgL X.p:=fun a a a a=>by grind
  by_cases d:isE (zf s n) 1 (k:Int)=Xc
  ·rw[kE d];have a:=d;simp only[isE,Xx,decide_eq_true_eq]at a;have b:Jf m (zl s.aC n) (zf s n):=by
    rcases h.aM c f with l|l;·grind [en0]
    exact l
   have e:=b.2.2;unfold zal at e;split at e;·cases e
   rename_i t
   rw[kF Wm,kF (Hm ((zS b Wm).2.2.1)),a.2,zK i]at e;split at e;·cases e
   rename_i A
   have b:0<=(zl s.aC n).file/\X.f=(zl s.aC n).file/\X.x=(zl s.aC n).page:=Classical.byContradiction fun w=>A (.inl ⟨Wm,w⟩);have e:(zl s.aC n).is=Xc:=(by grind);unfold ZP;rw[kF t,kF t,kF Dc,kF Dc,kF Wm,kE a.1,a.2,zK i,kF (by rw[<-b.2.1,<-b.2.2];show¬bkN m X.f<=X.x;omega),<-b.2.1,<-b.2.2,hcut e b.2.1.symm b.2.2.symm (.inr d)];have:decide (X.f<0)=Xd:=(by simp;omega);rw[this]
  rw[kF d];have a:=h.inv.en (qX c) f;have b:=(jV a).2.1.1;unfold ZP;by_cases c:(zl s.aC n).is=Xd;·grind
  rw[kF c,kF c];by_cases b:(zf s n).kind=1;·grind [zf,isE,zgM,qI]
  rw[kF b,kF b];by_cases b:(zf s n).kind=2;·rw[kE b,kE b];rfl
  rw[kF b,kF b];have b:bkN (qI m k)=bkN m:=rfl;rw[b];by_cases b:(zl s.aC n).file<0;·grind
  rw[kF b,kF b];by_cases b:bkN m (zl s.aC n).file<=(zl s.aC n).page;·grind
  rw[kF b,kF b];by_cases b:(zl s.aC n).file=X.f/\(zl s.aC n).page=X.x
  ·have e:(zl s.aC n).is=Xc:=by
    cases d:(zl s.aC n).is with
    | true=>rfl
    | false=>exact absurd d c
   have c:(zf s n).kind=0:=Hm ((jV a).1);have:=hcut e b.1 b.2 (.inl c);rw[b.1,b.2,this,x]
  grind
 grind [zrG]
end
theorem zmO:∀{l:List Ar} {p:Option Ar} {n:Nat},QQ p l->(zl l n).is=Xc->0<=(zl l n).page/\((zl l n).page<=11\/(zl l n).file<0)
 | [],_,_,_,h=>by cases h
 | a :: l,p,n,b,h=>by
  unfold zl at h⊢
  by_cases e:Z8 a n=Xc
  ·rw[kE e]at h⊢;have c:=b.1;have d:=jC.1 e;unfold jU at c;unfold z5;simp only
   split;·exact⟨Wm,.inl Wm⟩
   exact⟨Wm,.inr Wm⟩
  rw[kF e]at h⊢;exact zmO b.2.2 h
theorem Rt.page (h:Rt m) (a:m.sp[k]? =Xa s) (p:(zl s.aC b).is=Xc):0<=(zl s.aC b).page:=
 (zmO (jJ.1 (h.inv.aO s (mG a)).1).2 p).1
section
variable{m:Ma}
def zeZ (m:Ma) (file idx:Nat) (f:Fl) (b:Int) (db':List (List Int)) (dq':List (Int × List Int)):Ma:={ m with fl:=m.fl.set file ⟨f.size,f.bl.set idx b⟩,db:=db',dq:=dq' }
theorem zn7 (D:Rt m) {f:Fl} (aq:m.fl[k]? =Xa f) (a8:stW (m.fl.set k ⟨f.size,f.bl.set p (b:Int)⟩) m.cnt=0)
  (S:∀x,z4 (m.fl.set k ⟨f.size,f.bl.set p (b:Int)⟩) x=Xc↔(z4 m.fl x=Xc/\x≠-1)\/x=(b:Int)\/(x=-1/\z4 (m.fl.set k ⟨f.size,f.bl.set p (b:Int)⟩) x=Xc))
  (K:r.length=m.db.length) (L:zO r.length g=0) (G:∀i:Nat,r[i]? =m.db[i]?\/∃q∈m.dq,q.1=(i:Int)) (W:∀q∈g,q.1=(b:Int)\/∃ab∈m.dq,ab.1=q.1) (a7:∀i:Int,i≠(b:Int)->qN r g i=qN m.db m.dq i)
  (_hb0:f.bl[p]? =Xa (b:Int)\/(z4 m.fl (b:Int)=Xd)) (af:∃c∈m.ca,c.file=(k:Int)/\c.idx=(p:Int)) (N:∀(i j:Nat) idx,m.fl[i]? =Xa idx->idx.bl[j]? =Xa (b:Int)->i=k/\j=p):
  (Rt (zeZ m k p f (b:Int) r g)/\Sam (fun _ _=>False) m (zeZ m k p f (b:Int) r g))/\∀(i j:Nat),(j:Int)<bkN m (i:Int)->zU (zeZ m k p f (b:Int) r g) (i:Int) (j:Int)=zU m (i:Int) (j:Int):=by
 have ar:=(gS.1 aq).1;obtain⟨d,a⟩:∃d,zeZ m k p f (b:Int) r g=d:=⟨_,rfl⟩;have Q:∀z,JF d z=JF m z:=fun z=>by
  rw[<-a];unfold JF zeZ;simp only[gD];by_cases h:z.toNat=k;·grind
  grind
 have B:∀z,bkN d z=bkN m z:=fun z=>by
  rw[<-a];unfold bkN zeZ;simp only[gD];by_cases h:z.toNat=k;·grind
  grind
 have t:∀z,zX d z=zX m z:=fun z=>by rw[<-a];rfl
 have y:d.fl.length=m.fl.length:=by rw[<-a];simp[zeZ]
 have e:d.sp=m.sp:=by rw[<-a];rfl
 have H:d.ca=m.ca:=by rw[<-a];rfl
 have Z:qF d (ZN d):=by
  have ap:ZN d=ZN m:=by unfold ZN;rw[e]
  rw[ap];have l:=D.inv;refine⟨Ry a l.aL,Ry a l.bB,Ry a l.aP,Ry a l.bC,Ry a l.sq,Ry a L,Ry a a8,by rw[<-a];show m.cnt=(r.length:Int);rw[K];exact l.cnt,fun i w ai=>?_,fun q P=>?_,Rx e l.aI,Rx e l.aO,Rx e l.tl,?_,?_,Ry a l.cf,Ry a l.cs⟩
  ·rw[<-a]at w ai⊢;have R:z4 m.fl (i:Int)=Xd:=by
    cases h:z4 m.fl (i:Int)with
    | false=>rfl
    | true=>
     have:=(S (i:Int)).2 (.inl ⟨h,Wm⟩);have a9:z4 (m.fl.set k ⟨f.size,f.bl.set p (b:Int)⟩) (i:Int)=Xd:=ai;rw[a9]at this;cases this
   show r[i]? =_;rcases G i with h|⟨q,ac,ad⟩;·rw[h];exact l.bF i (Ry K w) R
   have:=l.aW q ac;rw[ad,R]at this;cases this
  ·rw[<-a]at P⊢
   show z4 (m.fl.set k ⟨f.size,f.bl.set p (b:Int)⟩) q.1=Xc;rcases W q P with h|⟨ab,ac,ad⟩;·grind
   refine(S _).2 (.inl ⟨?_,?_⟩);·rw[<-ad];exact l.aW ab ac
   have a0:=l.bH;unfold zO at a0;split at a0;·cases a0
   grind [List.any_eq_true.2,ZJ]
  ·obtain⟨aj,ax,ak⟩:=zo.1 l.ca;rw[H];refine zo.2 ⟨fun c af=>?_,fun q c W=>(by cases W),ak⟩;obtain⟨al,am,an,ao⟩:=Zo (aj c af);refine zbk ?_ (Rx t am) (Rx t an) (Rx t ao);rw[y,B];rw[<-a];exact al
  intro av s idx X v n ah;rw[e]at X;rcases l.aM av s idx X v n ah with h|h;·grind
  refine .inr ⟨h.1,h.2.1,Zm h.2.2 (by rw[<-a];rfl) (by rw[<-a];rfl) fun a5=>?_⟩;rw[t];exact⟨rfl,rfl,(zS h a5).2.2.2⟩
 have file:∀(i j:Nat),(j:Int)<bkN m (i:Int)->zU d (i:Int) (j:Int)=zU m (i:Int) (j:Int):=fun i j u=>by
  unfold zU;rw[H];cases W:m.ca.find? (QK (i:Int) (j:Int))with
  | some c=>simp only;rw[t]
  | none=>
   simp only;have a6:¬(i=k/\j=p):=fun h=>(by grind [Yq,QK]);have I:zgV d (i:Int) (j:Int)=zgV m (i:Int) (j:Int):=by
    rw[<-a];unfold zgV zeZ;simp only[gD,tN];by_cases h:i=k;·grind
    grind
   rw[I,Q];by_cases M:zgV m (i:Int) (j:Int)<0;·grind
   rw[kF M,kF M];have w:i<m.fl.length:=Classical.byContradiction fun A=>by
    unfold bkN at u;simp only[gD,tN]at u;rw[gN Wm]at u;simp only[Option.getD_none,Yj]at u;omega
   have v:=gE w;have ag:j< (m.fl[i]).bl.length:=by
    unfold bkN at u;simp only[gD,tN,v,Option.getD_some]at u;omega
   have:zgV m (i:Int) (j:Int)≠(b:Int):=fun h=>by
    unfold zgV at h;simp only[gD,tN,v,Option.getD_some,gE ag]at h;exact a6 (N i j _ v (by rw[gE ag,h]))
   rw[show qN d.db d.dq (zgV m (i:Int) (j:Int))=qN r g (zgV m (i:Int) (j:Int)) by rw[<-a];rfl,a7 _ this]
 rw[a];refine⟨?_,file⟩;refine⟨Rt.of Z (by rw[e];exact fun s X=>D.tb X) (Ry a D.aB.1) (Ry a D.aB.2),⟨by rw[e],fun q s aw A F=>?_,fun q n s aw A F ah _=>?_,y,Q,B,fun ae au E=>?_⟩⟩;·rw[e,A]at F;cases F;exact⟨rfl,rfl⟩
 ·rw[e,A]at F;cases F;unfold ZP;rw[t,B];by_cases T:(zl s.aC n).is=Xd;·rw[kE T,kE T]
  rw[kF T,kF T];by_cases U:(zf s n).kind=1;·rw[kE U,kE U]
  rw[kF U,kF U];by_cases C:(zf s n).kind=2;·rw[kE C,kE C];rw[<-a];rfl
  rw[kF C,kF C];by_cases V:(zl s.aC n).file<0;·rw[kE V,kE V]
  rw[kF V,kF V];by_cases Y:bkN m (zl s.aC n).file<=(zl s.aC n).page;·rw[kE Y,kE Y]
  rw[kF Y,kF Y];have a4:(zl s.aC n).is=Xc:=by
   cases aa:(zl s.aC n).is with
   | true=>rfl
   | false=>exact absurd aa T
  have ay:=D.page A a4;have:=file (zl s.aC n).file.toNat (zl s.aC n).page.toNat (by
   rw[show(((zl s.aC n).file.toNat:Nat):Int)=(zl s.aC n).file by omega,show(((zl s.aC n).page.toNat:Nat):Int)=(zl s.aC n).page by omega]
   omega)
  rw[show(((zl s.aC n).file.toNat:Nat):Int)=(zl s.aC n).file by omega,show(((zl s.aC n).page.toNat:Nat):Int)=(zl s.aC n).page by omega]at this;rw[this]
 rw[file ae (au / 8) ?_];by_cases A:ae<m.fl.length
 ·have v:=gE A;obtain⟨U,C,V⟩:=((qC _ _).1 D.inv.st).2.1 _ (mG v);unfold JF at E;simp only[gD,tN,v,Option.getD_some]at E;unfold bkN;simp only[gD,tN,v,Option.getD_some];unfold zau at C;split at C <;> omega
 unfold JF at E;simp only[gD,tN]at E;rw[gN Wm]at E;simp only[Option.getD_none]at E;omega
end
def Unc (m:Ma) (file idx:Int):Prop:=∀c∈m.ca,¬(c.file=file/\c.idx=idx)
theorem Unc.find (h:Unc m z H):m.ca.find? (QK z H)=Xb:=by rw[Yq];intro c b a;simp only[QK,Xx,decide_eq_true_eq]at a;exact h c b a
structure JY (S:Nat->Nat->Prop) (m m':Ma):Prop where
 rt:Rt m'
 aX:Sam S m m'
 fsl:m'.fs.length=m.fs.length
 bare:∀(q n:Nat) s s',m.sp[q]? =Xa s->m'.sp[q]? =Xa s'->n<64->zf s n=en0->zf s' n=en0
 unc:∀(file idx:Nat),(idx:Int)<bkN m (file:Int)->Unc m (file:Int) (idx:Int)->Unc m' (file:Int) (idx:Int)/\zU m' (file:Int) (idx:Int)=zU m (file:Int) (idx:Int)
theorem JY.refl {S:Nat->Nat->Prop} (h:Rt m):JY S m m:=⟨h,Sam.refl S m,rfl,fun q n s a c a _ b=>by rw[c]at a;cases a;exact b,fun _ _ _ h=>⟨h,rfl⟩⟩
theorem JY.trans {S:Nat->Nat->Prop} {a b c:Ma} (h:JY S a b) (k:JY S b c):JY S a c:=by
 refine⟨k.rt,(h.aX.trans k.aX).mono (fun _ _ e=>e.elim id id),k.fsl.trans h.fsl,fun q n s r f m i l=>?_,fun d e g p=>?_⟩
 ·have:∃t,b.sp[q]? =Xa t:=⟨_,gE (by rw[h.aX.aI];exact(gS.1 f).1)⟩
  obtain⟨t,j⟩:=this;exact k.bare q n t r j m i (h.bare q n s t f j i l)
 obtain⟨u1,u2⟩:=h.unc d e g p;obtain⟨f,f⟩:=k.unc d e (by rw[h.aX.bk];exact g) u1;grind
theorem JY.bareOk {S:Nat->Nat->Prop} (h:JY S m m') {x:Nat × Nat} (i:zrO m x):zrO m' x:=by obtain⟨s,a,c,d,f,g⟩:=i;have:∃t,m'.sp[x.1]? =Xa t:=⟨_,gE (by rw[h.aX.aI];exact(gS.1 a).1)⟩;obtain⟨t,b⟩:=this;have e:=(h.aX.sp x.1 s t a b).2;exact⟨t,b,c,h.bare x.1 x.2 s t a b c d,Rx e f,Rx e g⟩
section
variable{m:Ma}
theorem zhP (h:Rt m) (d:enW Z=0) {q:Sp} (a:m.sp[k]? =Xa s) (c:(m.sp.map (Qa z Z))[k]? =Xa q) (f:zf s b=en0):zf q b=en0:=by obtain⟨q,q,rfl⟩:=zbA c;rw[a]at q;cases q;rw[zb5 h (mG a) d];grind [JK,isE,en0]
theorem zmv (S:Nat->Nat->Prop) (h:Rt m) (sq':m.fs[k]? =Xa X) (f:X.f=-1) (l:X.r≠0) (e:m.sl[j]? =Xa 0) (c:r.length=m.sb.length) (d:zO r.length g=0) (a:qN r g (j:Int)=pgL X.p) (b:∀i:Int,0<=i->i≠(j:Int)->qN r g i=qN m.sb m.sq i):
  JY S m (QB m k j X.r r g):=by obtain⟨n,p⟩:=zqh h sq' f l e c d a b;have a:=h.inv.aP;have a:=(gS.1 e).1;have d:enW ⟨2,(j:Int),Xd⟩=0:=JQ Sm ⟨Sm,by simp only;omega,fun h=>by simp at h⟩ Sm;refine⟨n,p.mono (fun _ _ e=>e.elim),by simp[QB],fun q n s a b c _ a=>zhP h d b c a,fun a c _ b=>⟨b,?_⟩⟩;unfold zU;rw[show(QB m k j X.r r g).ca.find? (QK (a:Int) (c:Int))=Xb from b.find,b.find];rfl
theorem znF (h:Rt m) (S:Nat->Nat->Prop) (b:m.fs[k]? =Xa X) (a:0<=X.f) (c:X.r≠0) (hd:Qr m X.f X.x=Z7 (pgL X.p) X.x (JF m X.f))
  (hS:Z7 (pgL X.p) X.x (JF m X.f)=pgL X.p\/∀(q n:Nat) s,m.sp[q]? =Xa s->n<64->(zl s.aC n).is=Xc->(zl s.aC n).file=X.f->(zl s.aC n).page=X.x->(zf s n).kind=0\/isE (zf s n) 1 (k:Int)=Xc->S q n):
  JY S m (qI m k):=by obtain⟨f,g⟩:=zqL h S b a c hd hS;have c:∀file a,Unc m file a->Unc (qI m k) file a:=fun file a b d e=>b d (Yb.1 e).1;refine⟨f,g,by simp[qI],fun q n s d e f _ d=>zhP h JR e f d,fun file a _ b=>⟨c _ _ b,?_⟩⟩;unfold zU;rw[(c _ _ b).find,b.find];rfl
theorem zli (S:Nat->Nat->Prop) (h:Rt m) (a:m.fs[k]? =Xa X) (b:X.r≠0) (u d:Bool):JY S m { m with fs:=m.fs.set k { X with u:=u,d:=d } }:=by
 obtain⟨c,e⟩:=zgq h a b u d;refine⟨c,e.mono (fun _ _ e=>e.elim),Sm,fun q n s b b b _ b=>?_,fun b b _ b=>⟨b,?_⟩⟩;·grind
 exact QM (gS.1 a).1 h.inv.ca (fun _=>by rw[zK a]) _ _
theorem zng (S:Nat->Nat->Prop) (h:Rt m) (e:0<=z) (b:z<max (m.fs.length:Int) 1):JY S m { m with aB:=z }:=by
 have a:=h.inv;have c:qF { m with aB:=z } (ZN { m with aB:=z }):=⟨a.aL,a.bB,a.aP,a.bC,a.sq,a.bH,a.st,a.cnt,a.bF,a.aW,a.aI,a.aO,a.tl,zo.2 ⟨fun d f=>(zo.1 a.ca).1 d f,fun _ _ d=>(by cases d),(zo.1 a.ca).2.2⟩,a.aM,a.cf,a.cs⟩;refine⟨Rt.of c (fun s a=>h.tb a) e b,⟨rfl,fun q s c b a=>?_,fun q n s c b a _ _=>?_,rfl,fun _=>rfl,fun _=>rfl,fun _ _ _=>rfl⟩,rfl,fun q n s c b a _ d=>?_,fun d d _ d=>⟨d,rfl⟩⟩;·grind
 ·have:m.sp[q]? =Xa c:=a;rw[b]at this;cases this;rfl
 grind
end
theorem JY.mono {S c:Nat->Nat->Prop} {b:Ma} (h:JY S m b) (hS:∀q n,S q n->c q n):JY c m b:=⟨h.rt,h.aX.mono hS,h.fsl,h.bare,h.unc⟩
section
variable{m:Ma} {p n:Nat} {s:Sp}
theorem zeH (i:Rt m) (f:m.sp[p]? =Xa s) (g:n<64):JY (fun q j=>q=p/\j=n) m (JS m p n)/\(∀b,(JS m p n).sp[p]? =Xa b->zf b n=en0)/\(JS m p n).ca=m.ca/\(JS m p n).fl=m.fl/\∀(q j:Nat) s b,m.sp[q]? =Xa s->(JS m p n).sp[q]? =Xa b->¬(q=p/\j=n)->zf b j=zf s j:=by
 have E:m.sp.getD p ⟨Xd,[],[]⟩=s:=by rw[gD,f];rfl
 have F:∀s∈m.sp,QP s.tb:=fun s f=>i.tb f;obtain⟨x,y⟩:=zqP i f g;have r:∃d,JS m p n=zai d p n en0/\d.sp=m.sp/\d.ca=m.ca/\d.fl=m.fl/\d.fs.length=m.fs.length/\∀a c,zU d a c=zU m a c:=by
  unfold JS;simp only[E];by_cases e:(zf s n).kind=1;·rw[kE e];obtain⟨R,P,v,A,B,N⟩:=i.aQ f g e;rw[B,v,tN];exact⟨_,rfl,rfl,rfl,rfl,Sm,fun a c=>zfN i.inv A (qX f) g e v a c⟩
  rw[kF e];by_cases k:(zf s n).kind=2;·rw[kE k];exact⟨_,rfl,rfl,rfl,rfl,rfl,fun _ _=>rfl⟩
  grind
 obtain⟨d,H,l,w,K,L,M⟩:=r;rw[H]at x y⊢;have h:∀s∈d.sp,QP s.tb:=Rx l F;have u:∀(q j:Nat) s b,m.sp[q]? =Xa s->(zai d p n en0).sp[q]? =Xa b->¬(q=p/\j=n)->zf b j=zf s j:=fun q j s b e k C=>zb0 h g JR (Rx l e) k C;have t:∀b,(zai d p n en0).sp[p]? =Xa b->zf b n=en0:=fun b e=>(zaF h (Rx l f) g JR e).1;refine⟨⟨x,y,L,fun q j s b e k _ Q=>?_,fun a c _ G=>⟨fun z D=>G z (Ry w D),M _ _⟩⟩,t,w,K,u⟩;grind
end
def ze (m:Ma):List (Nat × Nat)->Ma
 | []=>m
 | x :: l=>ze (JS m x.1 x.2) l
theorem qO:∀(l:List (Nat × Nat)) {m:Ma},Rt m->(∀x∈l,x.2<64/\∃s,m.sp[x.1]? =Xa s)->
  JY (fun q j=>(q,j)∈l) m (ze m l)/\(∀x∈l,∀a,(ze m l).sp[x.1]? =Xa a->zf a x.2=en0)/\(ze m l).ca=m.ca/\(ze m l).fl=m.fl/\∀(q j:Nat) s a,m.sp[q]? =Xa s->(ze m l).sp[q]? =Xa a->(q,j)∉l->zf a j=zf s j
 | [],m,p,_=>⟨JY.refl p,fun x H=>(by cases H),rfl,rfl,fun q j s a i d _=>by simp only[ze]at d;rw[i]at d;cases d;rfl⟩
 | x :: l,m,p,u=>by
  obtain⟨G,s,k⟩:=u x (Xt ..);obtain⟨n,C,D,E,F⟩:=zeH p k G;have b:∀(q:Nat) s,m.sp[q]? =Xa s->∃a,(JS m x.1 x.2).sp[q]? =Xa a:=fun q s k=>⟨_,gE (by rw[n.aX.aI];exact(gS.1 k).1)⟩
  obtain⟨K,L,M,N,v⟩:=qO l n.rt (fun y r=>by
   obtain⟨A,P,B⟩:=u y (Xu _ r);exact⟨A,b y.1 P B⟩)
  refine⟨(n.mono ?_).trans (K.mono fun q j e=>Xu _ e),fun y r a f=>?_,M.trans D,N.trans E,fun q j s a i d t=>?_⟩;·rintro q j ⟨rfl,rfl⟩;exact Xt ..
  ·by_cases c:y∈l
   ·exact L y c a f
   rcases mC.1 r with rfl|e;·obtain⟨w,g⟩:=b y.1 s k;rw[v y.1 y.2 w a g f c];exact C w g
   exact absurd e c
  obtain⟨z,h⟩:=b q s i;rw[v q j z a h d (fun e=>t (Xu _ e))];refine F q j s z i h (fun e=>t ?_);have:(q,j)=x:=Prod.ext e.1 e.2;rw[this];exact Xt ..
theorem zqR (p) (idx a:Int):Z7 (Z7 p idx a) idx a=Z7 p idx a:=by unfold Z7;grind
theorem zkU {f:Fl} (idx:m.fl[k]? =Xa f) (hi:p<f.bl.length) (e:qN r g (b:Int)=Z7 L (p:Int) (JF m (k:Int))):
  Qr (zeZ m k p f (b:Int) r g) (k:Int) (p:Int)=Z7 L (p:Int) (JF m (k:Int)):=by
 have d:=(gS.1 idx).1;have h:zgV (zeZ m k p f (b:Int) r g) (k:Int) (p:Int)=(b:Int):=by
  unfold zgV zeZ;simp only[gD,tN];rw[sF d];simp only[Option.getD_some];rw[sF hi];rfl
 have i:JF (zeZ m k p f (b:Int) r g) (k:Int)=JF m (k:Int):=by
  unfold JF zeZ;simp only[gD,tN];rw[sF d,idx];rfl
 unfold Qr;rw[h,i,kF Wm,show qN (zeZ m k p f (b:Int) r g).db (zeZ m k p f (b:Int) r g).dq (b:Int)=qN r g (b:Int)from rfl,e,zqR]
theorem Sam.fill {S b:Nat->Nat->Prop} (h:Sam S m m') (hS:∀(q n:Nat) s a,m.sp[q]? =Xa s->m'.sp[q]? =Xa a->n<64->S q n->¬b q n->ZP m' (zl s.aC n) (zf a n)=ZP m (zl s.aC n) (zf s n)):Sam b m m':=by
 refine⟨h.aI,h.sp,fun q n s a c d f g=>?_,h.fll,h.sz,h.bk,h.byt⟩;by_cases e:S q n;·grind
 exact h.see q n s a c d f e
section
variable{m m2:Ma} {k:Nat} {fr:Fr}
theorem zrI (z:Rt m) (C:d≠[]) (hd:d.Nodup) (h:∀x∈d,x.2<64/\∃s,m.sp[x.1]? =Xa s/\(zl s.aC x.2).is=Xc/\(zl s.aC x.2).sh=Xd) (f:JY (fun q j=>(q,j)∈d) (ze m d) m2) (B:m2.fs[k]? =Xa fr) (D:fr.r=0) (pg:Pg) (u:Bool):
  Rt (zbJ m2 k pg u d)/\Sam (fun q j=>(q,j)∈d) m (zbJ m2 k pg u d)/\(zbJ m2 k pg u d).fs[k]? =Xa ⟨pg,(d.length:Int),u,Xd,-1,0⟩/\(∀x∈d,∀i,(zbJ m2 k pg u d).sp[x.1]? =Xa i->zf i x.2=⟨1,(k:Int),Xd⟩):=by
 obtain⟨l,y,E,F,G⟩:=qO d z (fun x a=>by obtain⟨c,s,b,_⟩:=h x a;exact⟨c,s,b⟩);have A:∀x∈d,zrO (ze m d) x:=fun x a=>by
  obtain⟨c,s,b,n,w⟩:=h x a;have:∃t,(ze m d).sp[x.1]? =Xa t:=⟨_,gE (by rw[l.aX.aI];exact(gS.1 b).1)⟩;obtain⟨t,g⟩:=this;have e:=(l.aX.sp x.1 s t b g).2;exact⟨t,g,c,y x a t g,Rx e n,Rx e w⟩
 obtain⟨p,r,v⟩:=zqU f.rt B D pg u C (fun x a=>f.bareOk (A x a)) hd;refine⟨p,((l.trans f).aX.trans r).mono (fun _ _ e=>e.elim id id),?_,v⟩;show(m2.fs.set k _)[k]? =_;grind
theorem zlY {a:Ma} {pg:Pg} {u:Bool} (t:Sam (fun q j=>(q,j)∈d) m a) (p:a.fs[k]? =Xa ⟨pg,z,u,Xd,-1,0⟩) (i:∀x∈d,∀b,a.sp[x.1]? =Xa b->zf b x.2=⟨1,(k:Int),Xd⟩)
  (S:Nat->Nat->Prop) (v:∀(q n:Nat) s,m.sp[q]? =Xa s->n<64->(q,n)∈d->¬S q n->(zl s.aC n).is=Xc/\ZP m (zl s.aC n) (zf s n)=(pgL pg,Xc,0)):Sam S m a:=by refine t.fill fun q n s b f g r c h=>?_;obtain⟨w,e⟩:=v q n s f r c h;rw[i (q,n) c b g,zro w p,e];rfl
theorem zqN {n:Nat} {file idx:Nat} (G:Rt m) (a:m.sp[p]? =Xa s) (c:n<64) (N:(zl s.aC n).is=Xc) (w:(zl s.aC n).file=(file:Int)) (x:(zl s.aC n).page=(idx:Int)) (S:file<m.fl.length) (hi:(idx:Int)<bkN m (file:Int)) (M:Unc m (file:Int) (idx:Int))
  (A:JY (fun q j=>q=p/\j=n) (JS m p n) m2) (B:m2.fs[k]? =Xa fr) (L:fr.r=0) {pg:Pg} (hp:pgL pg=zU m (file:Int) (idx:Int)) (u d:Bool):
  Rt (Zv (ZG m2 k pg u d file idx) k p n)/\Sam (fun q j=>q=p/\j=n) m (Zv (ZG m2 k pg u d file idx) k p n)/\(Zv (ZG m2 k pg u d file idx) k p n).fs[k]? =Xa ⟨pg,2,u,d,file,idx⟩/\∀y,(Zv (ZG m2 k pg u d file idx) k p n).sp[p]? =Xa y->zf y n=⟨1,(k:Int),Xd⟩:=by
 obtain⟨z,C,P,Q,R⟩:=zeH G a c;have g:=z.trans A;have:∃t,m2.sp[p]? =Xa t:=⟨_,gE (by rw[g.aX.aI];exact(gS.1 a).1)⟩;obtain⟨t,e⟩:=this;have:∃f,(JS m p n).sp[p]? =Xa f:=⟨_,gE (by rw[z.aX.aI];exact(gS.1 a).1)⟩;obtain⟨f,b⟩:=this;have H:zf t n=en0:=A.bare p n f t b e c (C f b);have h:=(g.aX.sp p s t a e).2;obtain⟨u1,u2⟩:=g.unc file idx hi M;have l:=(gS.1 B).1;have i:(ZG m2 k pg u d file idx).fs[k]? =Xa ⟨pg,1,u,d,file,idx⟩:=by
  show(m2.fs.set k _)[k]? =_;grind
 obtain⟨E,F⟩:=zpu g.rt B L (u:=u) (d:=d) (file:=(file:Int)) (idx:=(idx:Int)) ⟨Wm,by rw[g.aX.fll];omega⟩ ⟨Wm,by rw[g.aX.bk];exact hi⟩ u1 (Rx u2 hp) e c H (Rx h N) (Rx h w) (Rx h x);have K:=zc7 g.rt.inv l Xd;refine⟨E,(g.aX.trans F).mono (fun _ _ D=>D.elim id id),by rw[zgv i];rfl,fun y v=>?_⟩;exact(zaF (m1:={ ZG m2 k pg u d file idx with fs:=(ZG m2 k pg u d file idx).fs.set k { zX (ZG m2 k pg u d file idx) (k:Int)with r:=(zX (ZG m2 k pg u d file idx) (k:Int)).r+1 } }) (fun s a=>g.rt.tb a) e c K v).1
end
section
variable{m:Ma} {k p n:Nat} {fr:Fr} {s:Sp}
theorem zrE (h:Rt m) {x:On} {w:Bool} (b:Jf m x ⟨1,(k:Int),w⟩) (c:m.fs[k]? =Xa fr) (f:x.wr=Xc) (e:(fr.f=-1/\fr.r<=1)\/x.sh=Xc):Jf m x ⟨1,(k:Int),Xc⟩:=by have a:=(gS.1 c).1;refine⟨zc7 h.inv a Xc,Sm,?_⟩;have d:=b.2.2;grind [zal,zK]
def Jv (m:Ma) (p n k:Nat) (fr:Fr) (write sh:Bool):Ma:=
 if write=Xc then zai { m with fs:=m.fs.set k { fr with u:=true,d:=fr.d || sh } } p n ⟨1,(k:Int),Xc⟩
 else{ m with fs:=m.fs.set k { fr with u:=true,d:=fr.d } }
theorem zqt (t:Rt m) (g:m.sp[p]? =Xa s) (v:n<64) (x:m.fs[k]? =Xa fr) {w:Bool} (b:zf s n=⟨1,(k:Int),w⟩) (a:Bool) (D:a=Xc->(zl s.aC n).wr=Xc/\((fr.f=-1/\fr.r<=1)\/(zl s.aC n).sh=Xc)):
  Rt (Jv m p n k fr a (zl s.aC n).sh)/\Sam (fun _ _=>False) m (Jv m p n k fr a (zl s.aC n).sh)/\(∃u d,(Jv m p n k fr a (zl s.aC n).sh).fs[k]? =Xa { fr with u:=u,d:=d })/\∀r,(Jv m p n k fr a (zl s.aC n).sh).sp[p]? =Xa r->zf r n=⟨1,(k:Int),w || a⟩:=by
 have l:=(gS.1 x).1;have z:fr.r≠0:=by
  obtain⟨M,C,G,H,K,L⟩:=t.aQ g v (by rw[b]);grind
 unfold Jv;cases a with
 | false=>
  rw[kF Dc];obtain⟨q,y⟩:=zgq t x z Xc fr.d;refine⟨q,y,⟨Xc,fr.d,by simp only;rw[sF l]⟩,fun r h=>?_⟩;have:m.sp[p]? =Xa r:=h;rw[g]at this;cases this;rw[b,Bool.or_false]
 | true=>
  rw[kE rfl];obtain⟨q,y⟩:=zgq t x z Xc (fr.d || (zl s.aC n).sh);obtain⟨E,F⟩:=D rfl;have j:({ m with fs:=m.fs.set k { fr with u:=true,d:=fr.d || (zl s.aC n).sh } }:Ma).fs[k]? =Xa { fr with u:=true,d:=fr.d || (zl s.aC n).sh }:=by
   simp only;rw[sF l]
  have f:Jf { m with fs:=m.fs.set k { fr with u:=true,d:=fr.d || (zl s.aC n).sh } } (zl s.aC n) (zf s n):=by
   rcases q.aM (p:=p) (s:=s) g v with i|i;·rw[b]at i;cases i
   exact i
  rw[b]at f;have c:=zrE q f j E F;obtain⟨A,B⟩:=zpP q (p:=p) (s:=s) g v (e:=⟨1,(k:Int),Xc⟩) (by rw[b]) (by rw[b]) c;refine⟨A,(y.trans B).mono (fun _ _ i=>i.elim id id),⟨Xc,fr.d || (zl s.aC n).sh,j⟩,fun r h=>?_⟩;rw[(zaF (m1:={ m with fs:=m.fs.set k { fr with u:=true,d:=fr.d || (zl s.aC n).sh } }) (fun s g=>t.tb g) g v c.1 h).1,Bool.or_true]
end
def zot (s:Sp) (kind k:Int):List Nat:=(Yx 64).filter fun n=>enS (zf s n) && zmc kind k (zf s n)
def jK (m:Ma) (kind k:Int) (q:Nat):List (Nat × Nat):=(Yx q).flatMap fun p=>(zot (m.sp.getD p ⟨Xd,[],[]⟩) kind k).map fun n=>(p,n)
theorem zlw (m) (kind k:Int):jK m kind k 0=[]:=rfl
theorem zcM (m:Ma) (kind k:Int) (q:Nat):jK m kind k (q+1)=jK m kind k q++(zot (m.sp.getD q ⟨Xd,[],[]⟩) kind k).map fun n=>(q,n):=by unfold jK;rw[List.range_succ,List.flatMap_append];simp
theorem zkx (a:z≠0):k∈zot s z H↔k<64/\isE (zf s k) z H=Xc:=by unfold zot;rw[Yb,Xy];refine and_congr_right fun _=>?_;unfold enS zmc isE;grind
theorem zaP {kind k:Int} (d:kind≠0) (a:p<=m.sp.length) {x:Nat × Nat}:x∈jK m kind k p↔x.1<p/\x.2<64/\∃s,m.sp[x.1]? =Xa s/\isE (zf s x.2) kind k=Xc:=by
 unfold jK;rw[Yv];constructor
 ·rintro⟨q,b,c⟩;obtain⟨n,a,rfl⟩:=Xw.1 c;have f:=Xy.1 b;have e:=gE (show q<m.sp.length by omega);rw[gD,e,Option.getD_some,zkx d]at a;exact⟨f,a.1,_,e,a.2⟩
 rintro⟨b,c,s,a,e⟩;refine⟨x.1,Xy.2 b,Xw.2 ⟨x.2,?_,rfl⟩⟩;rw[gD,a,Option.getD_some,zkx d];exact⟨c,e⟩
theorem zlD (s:Sp) (kind k:Int):(zot s kind k).Nodup:=List.Nodup.sublist List.filter_sublist List.nodup_range
theorem zet (m:Ma) (kind k:Int):∀q,(jK m kind k q).Nodup
 | 0=>List.nodup_nil
 | q+1=>by
  rw[zcM,Oi];refine⟨zet m kind k q,?_,?_⟩
  ·exact List.Pairwise.map _ (fun a b c e=>c (Prod.mk.inj e).2) (zlD _ kind k)
  intro a d b i e;subst e;obtain⟨n,_,rfl⟩:=Xw.1 i;unfold jK at d;obtain⟨p,f,g⟩:=Yv.1 d;obtain⟨j,_,h⟩:=Xw.1 g;have:=Xy.1 f;have:=(Prod.mk.inj h).1;omega
def Z9 (m:Ma) (e:En):List (Nat × Nat)->Ma
 | []=>m
 | x :: l=>Z9 (zai m x.1 x.2 e) e l
theorem zhy (f:enW Z=0):∀(l:List (Nat × Nat)) {m:Ma},(∀s∈m.sp,QP s.tb)->(∀x∈l,x.2<64)->(Z9 m Z l).sp.length=m.sp.length/\(∀s∈(Z9 m Z l).sp,QP s.tb)/\∀(q:Nat) s b,m.sp[q]? =Xa s->(Z9 m Z l).sp[q]? =Xa b->b.aF=s.aF/\b.aC=s.aC/\∀j,zf b j=if(q,j)∈l then Z else zf s j
 | [],m,ht,_=>⟨rfl,ht,fun q s b c d=>by
   simp only[Z9]at d;rw[c]at d;cases d;exact⟨rfl,rfl,fun j=>Sm⟩⟩
 | x :: l,m,ht,a=>by
  have g:=a x (Xt ..);obtain⟨i,k,n⟩:=zhy f l (m:=zai m x.1 x.2 Z) (zdw ht f) (fun y h=>a y (Xu _ h))
  refine⟨i.trans zcC,k,fun q s b c d=>?_⟩;have:∃t,(zai m x.1 x.2 Z).sp[q]? =Xa t:=⟨_,gE (by rw[zcC];exact(gS.1 c).1)⟩;obtain⟨t,a⟩:=this;obtain⟨h,i,k⟩:=n q t b a d;obtain⟨b,d⟩:=zd5 c a;refine⟨h.trans b,i.trans d,fun j=>?_⟩;rw[k j];by_cases b:(q,j)∈l;·rw[kE b,kE (Xu _ b)]
  rw[kF b];by_cases d:q=x.1/\j=x.2;·obtain⟨rfl,rfl⟩:=d;rw[kE (Xt ..)];exact(zaF ht c g f a).1
  rw[zb0 ht g f c a d,kF];intro a;rcases mC.1 a with a|a;·rw[<-a]at d;exact d ⟨rfl,rfl⟩
  exact b a
theorem zd6 (e):∀(l:List (Nat × Nat)) (m:Ma),Z9 m e l={ m with sp:=(Z9 m e l).sp }
 | [],_=>rfl
 | x :: l,m=>by
  show Z9 (zai m x.1 x.2 e) e l=_
  rw[zd6 e l (zai m x.1 x.2 e)];rfl
theorem zrS (h:QP s.tb):s.tb=ZH (zf s):=by have:=zkB (m:=⟨[],0,[],[],[],[],[],[],0,[],[s]⟩) (fun t a=>by grind);have a:=congrArg (fun b:Ma=>b.sp) this;simp only[Qq,ZN,mP,Yp,List.zipWith_cons_cons,List.zipWith_nil_left,List.cons.injEq,and_true]at a;exact(congrArg Sp.tb a).symm
theorem zo7 (h:Rt m) (f:enW Z=0):(Z9 m Z (jK m 1 (k:Int) m.sp.length)).sp=m.sp.map (Qa (k:Int) Z):=by
 have g:∀s∈m.sp,QP s.tb:=fun s c=>h.tb c;have a:=fun b=>zaP (m:=m) (kind:=1) (k:=(k:Int)) Dc (nR m.sp.length) (x:=b);obtain⟨d,h,i⟩:=zhy f (jK m 1 (k:Int) m.sp.length) g (fun b f=>((a b).1 f).2.1);apply Ya;intro q;by_cases b:q<m.sp.length
 ·have c:=gE b;have a:=gE (show q< (Z9 m Z (jK m 1 (k:Int) m.sp.length)).sp.length by rw[d];exact b);obtain⟨f,g,j⟩:=i q _ _ c a;rw[a,Yk,c,Option.map_some];congr 1;have c:zf ((Z9 m Z (jK m 1 (k:Int) m.sp.length)).sp[q]'(Rx d b))=fun j=>if j<64 then JK (k:Int) Z (zf m.sp[q]) j else zf m.sp[q] j:=by grind [JK,isE,zf]
  have c:=zrS (h _ (mG a));have a:ZH (zf ((Z9 m Z (jK m 1 (k:Int) m.sp.length)).sp[q]'(Rx d b)))=ZH (JK (k:Int) Z (zf m.sp[q])):=by grind [ZH,ZR,Of,Xy.1]
  rw[a]at c;unfold Qa;generalize(Z9 m Z (jK m 1 (k:Int) m.sp.length)).sp[q]'(Rx d b)=s' at f g c;cases s';grind
 grind
theorem zaM (h:Rt m) {k:Int}:∀x∈jK m 2 k m.sp.length,x.2<64/\∃s,m.sp[x.1]? =Xa s/\(zl s.aC x.2).is=Xc/\(zl s.aC x.2).sh=Xd/\ZP m (zl s.aC x.2) (zf s x.2)=(qN m.sb m.sq k,Xc,0):=fun x d=>by
 obtain⟨_,b,s,c,a⟩:=(zaP Dc (nR _)).1 d;simp only[isE,Xx,decide_eq_true_eq]at a;obtain⟨p,z,e,f,g,i,j,l,n⟩:=h.cF c b a.1;grind [ZP]
theorem zc6 {P:α->Bool}:∀{l:List α} {i:Nat},i<l.length->(∀(j:Nat) d,l[j]? =Xa d->(P d=Xc↔j=i))->l.eraseIdx i=l.filter fun d=>!P d
 | [],i,hi,_=>absurd hi Sm
 | a :: l,0,_,h=>by
  have b:=(h 0 a rfl).2 rfl;rw[List.eraseIdx_cons_zero,Ym,kF (by rw[b];decide)]
  refine(Oe.2 fun d c=>?_).symm;obtain⟨j,e⟩:=Xz c;have:=h (j+1) d (Rx Xs e);cases e:P d with
  | false=>rfl
  | true=>exact absurd (this.1 e) Wm
 | a :: l,i+1,hi,h=>by
  have b:P a=Xd:=by
   cases e:P a with
   | false=>rfl
   | true=>exact absurd ((h 0 a rfl).1 e) Wm
  rw[List.eraseIdx_cons_succ,Ym,kE (Rr b),zc6 (P:=P) (l:=l) (i:=i) (Si hi) fun j d c=>?_];have:=h (j+1) d (Rx Xs c);rw[this];omega
theorem zcy (P:α->Bool):∀l:List α,l.take (l.takeWhile P).length=l.takeWhile P/\l.drop (l.takeWhile P).length=l.dropWhile P
 | []=>Sm
 | a :: l=>by
  obtain⟨c,d⟩:=zcy P l
  cases b:P a with
  | true=>simp[b,c,d]
  | false=>simp[b]
def zdi (ca:List Ca) (c:Ca):Nat:=(ca.takeWhile fun d=>decide (zY d<zY c)).length
theorem zry (ca:List Ca) (c:Ca):ca.take (zdi ca c)++c :: ca.drop (zdi ca c)=Z4 ca c:=by unfold zdi Z4;rw[(zcy _ ca).1,(zcy _ ca).2]
section
variable{m:Ma} {k:Nat} {fr:Fr}
theorem zjO (h:Rt m) (i:m.fs[k]? =Xa fr) {c:Ca} (e:m.ca[b]? =Xa c) (a:c.fr=(k:Int)):m.ca.eraseIdx b=m.ca.filter fun d=>!decide (d.fr=(k:Int)):=by
 obtain⟨i,a,a⟩:=zo.1 h.inv.ca;have a:∀d∈m.ca,d.fr=(k:Int)->d.file=fr.f/\d.idx=fr.x:=fun d a f=>by
  obtain⟨f,f,f,f⟩:=Zo (i d a);grind [zK]
 refine zc6 (P:=fun d:Ca=>decide (d.fr=(k:Int))) (gS.1 e).1 fun j d a=>?_;grind [mG,zY,gS.1,Nat.lt_trichotomy,List.pairwise_iff_getElem.1]
theorem zeT (h:Rt m) (e:m.fs[k]? =Xa fr) (d:0<=fr.f):∃(i:Nat) (c:Ca),m.ca[i]? =Xa c/\c.fr=(k:Int)/\c.file=fr.f/\c.idx=fr.x:=by obtain⟨c,a,b⟩:=zcT ((h.inv.cf k fr e).2 d);obtain⟨i,b⟩:=Xz a;obtain⟨b,b,b,b⟩:=Zo ((zo.1 h.inv.ca).1 c a);grind [zK]
theorem zjN (h:Rt m) {c:Ca} (e:c∈m.ca):∃(k:Nat) (fr:Fr),c.fr=(k:Int)/\m.fs[k]? =Xa fr/\fr.r≠0/\fr.f=c.file/\fr.x=c.idx/\zU m c.file c.idx=pgL fr.p:=by obtain⟨a,a,b,d⟩:=Zo ((zo.1 h.inv.ca).1 c e);have f:c.fr.toNat<m.fs.length:=Wm;have g:=gE f;have f:=zK g;rw[show((c.fr.toNat:Nat):Int)=c.fr by omega]at f;rw[f]at a b d;refine⟨c.fr.toNat,_,Wm,g,a,b,d,?_⟩;unfold zU;rw[Ja h.inv.ca e];grind
end
theorem zcz:∀(l:List Int) (lo b:Int),l.Pairwise (·< ·)->(∀x∈l,lo<=x/\x<b)->(l.length:Int)<=max (b - lo) 0
 | [],lo,b,_,_=>by simp only[Yj];omega
 | a :: l,lo,b,hp,c=>by
  obtain⟨d,e⟩:=List.pairwise_cons.1 hp;obtain⟨f,f⟩:=c a (Xt ..);have:=zcz l (a+1) b e fun x b=>⟨Hm (d x b),(c x (Xu _ b)).2⟩
  simp only[Yf];omega
theorem zn1 (j:qF m T) (B:m.fl.length<=2) (s:∀f∈m.fl,f.size<40):m.ca.length<=10:=by
 obtain⟨p,w,q⟩:=zo.1 j.ca;have b:∀c∈m.ca,0<=c.file/\c.file<2/\0<=c.idx/\c.idx<5:=fun c a=>by
  obtain⟨r,_⟩:=Zo (p c a);obtain⟨e,g,h,i,_⟩:=r;have t:c.file.toNat<m.fl.length:=Wm;have k:=gE t;have n:=mG k;obtain⟨D,v,E⟩:=((qC _ _).1 j.st).2.1 _ n;have C:=s _ n;have l:bkN m c.file<=5:=by
   unfold bkN;simp only[gD,k,Option.getD_some];rw[v];unfold zau;split <;> omega
  omega
 have:=zcz (m.ca.map fun c=>5*c.file+c.idx) 0 10 (by
  rw[List.pairwise_map];refine List.Pairwise.imp_of_mem (fun{c d} a hd l=>?_) q;obtain⟨e,g,h,i⟩:=b c a;obtain⟨x,y,z,A⟩:=b d hd;unfold zY at l
  omega) (fun F u=>by
  obtain⟨c,a,rfl⟩:=Xw.1 u;obtain⟨e,g,h,i⟩:=b c a
  omega)
 rw[Yh]at this;omega
theorem zke {m:Ma}:∀(S:List Sp) (T:List (Nat->En)) (b:Nat),T.length=S.length->(∀(p:Nat) s f,S[p]? =Xa s->T[p]? =Xa f->zd8 f 64<=b)->zmI T<=b*S.length
 | [],T,b,a,_=>by
  rw[List.length_eq_zero_iff.1 a];exact nZ _
 | s :: S,[],b,a,_=>by simp at a
 | s :: S,f :: T,b,a,h=>by
  have g:=h 0 s f rfl rfl;have c:=zke (m:=m) S T b (Si a) fun p s f e d=>h (p+1) s f (Rx Xs e) (Rx Xs d)
  unfold zmI at c⊢;simp only[mP,List.sum_cons,Yf,Nat.mul_add,Yu];omega
theorem zpd (h:qF m T) (k:m.sp.length<=2) (g:∀s∈m.sp,Qb s.aC 64<=12) (c:m.fl.length<=2) (d:∀f∈m.fl,f.size<40):zju m.fs<=34:=by
 have q:=h.heldLe;have r:=zn1 h c d;have t:=zke (m:=m) m.sp T 12 h.tl fun p s f b i=>by
  refine nT (zhA fun l j a=>?_) (g s (mG b));rcases h.aM p s f b i l j with e|e;·rw[e]at a;cases a
  have n:=e.2.2;grind [zal,zl]
 grind
def qL (fs:List Fr):Nat:=fs.countP fun f=>decide (f.r=0)
theorem znr (fs:List Fr):qL fs+zju fs=fs.length:=by unfold qL zju;have:=List.length_eq_countP_add_countP (fun f:Fr=>decide (f.r=0)) (l:=fs);grind
section
variable{m:Ma}
theorem zl6 (S:Nat->Nat->Prop) (t:Rt m) {f:Fl} (v:m.fl[k]? =Xa f) (a:stW (m.fl.set k ⟨f.size,f.bl.set p (b:Int)⟩) m.cnt=0)
  (s:∀x,z4 (m.fl.set k ⟨f.size,f.bl.set p (b:Int)⟩) x=Xc↔(z4 m.fl x=Xc/\x≠-1)\/x=(b:Int)\/(x=-1/\z4 (m.fl.set k ⟨f.size,f.bl.set p (b:Int)⟩) x=Xc))
  (n:r.length=m.db.length) (h:zO r.length g=0) (e:∀i:Nat,r[i]? =m.db[i]?\/∃q∈m.dq,q.1=(i:Int)) (w:∀q∈g,q.1=(b:Int)\/∃y∈m.dq,y.1=q.1) (d:∀i:Int,i≠(b:Int)->qN r g i=qN m.db m.dq i)
  (l:f.bl[p]? =Xa (b:Int)\/(z4 m.fl (b:Int)=Xd)) (u:∃c∈m.ca,c.file=(k:Int)/\c.idx=(p:Int)) (file:∀(i j:Nat) idx,m.fl[i]? =Xa idx->idx.bl[j]? =Xa (b:Int)->i=k/\j=p):
  JY S m (zeZ m k p f (b:Int) r g):=by obtain⟨⟨r,g⟩,y⟩:=zn7 t v a s n h e w d l u file;refine⟨r,g.mono (fun _ _ e=>e.elim),rfl,fun q n s h r r _ g=>?_,fun k p g e=>⟨e,y k p g⟩⟩;have:m.sp[q]? =Xa h:=r;grind
def zjW (k:Nat) (fr:Fr) (l:List (Nat × Nat)) (q:Nat) (s:Sp) (a:Ar) (n:Nat):Prop:=(z5 a n).file=fr.f/\(z5 a n).page=fr.x/\(q,n)∉l/\((zf s n).kind=0\/isE (zf s n) 1 (k:Int)=Xc)
theorem zrg (h:∀(q:Nat) s (i:Nat) a (n:Nat),m.sp[q]? =Xa s->s.aC[i]? =Xa a->Z8 a n=Xc->n<64->¬zjW k X d q s a n) (q n:Nat) (s:Sp) (g:m.sp[q]? =Xa s) (f:n<64) (b:(zl s.aC n).is=Xc) (c:(zl s.aC n).file=X.f) (hp:(zl s.aC n).page=X.x) (e:(zf s n).kind=0\/isE (zf s n) 1 (k:Int)=Xc):(q,n)∈d:=by
 obtain⟨i,a,c,l,j⟩:=QZ b;refine Classical.byContradiction fun b=>h q s i a n g c l f ⟨?_,?_,b,e⟩;·grind
 grind
theorem zgk (h:Rt m) {fr:Fr} (c:m.fs[k]? =Xa fr) (b:0<=fr.f) (l:fr.r≠0) (hd:Qr m fr.f fr.x=Z7 (pgL fr.p) fr.x (JF m fr.f))
  (hS:Z7 (pgL fr.p) fr.x (JF m fr.f)=pgL fr.p\/∀(q:Nat) s (i:Nat) a (n:Nat),m.sp[q]? =Xa s->s.aC[i]? =Xa a->Z8 a n=Xc->n<64->¬zjW k fr d q s a n):JY (fun q j=>(q,j)∈d) m (qI m k):=
 znF h _ c b l hd (hS.imp id fun b q n s c l e f g h=>zrg b q n s c l e f g h)
theorem zhb {f:Fl} {idx:Nat} (e:JY (fun q j=>(q,j)∈d) m (zeZ m k p f (b:Int) r g)) (file:m.fl[k]? =Xa f) (hi:p<f.bl.length) (t:m.fs[idx]? =Xa X) (l:X.f=(k:Int)) (h:X.x=(p:Int)) (u:X.r≠0)
  (fr:qN r g (b:Int)=Z7 (pgL X.p) (p:Int) (JF m (k:Int)))
  (hS:Z7 (pgL X.p) X.x (JF m X.f)=pgL X.p\/∀(q:Nat) s (i:Nat) a (n:Nat),m.sp[q]? =Xa s->s.aC[i]? =Xa a->Z8 a n=Xc->n<64->¬zjW idx X d q s a n):JY (fun q j=>(q,j)∈d) m (qI (zeZ m k p f (b:Int) r g) idx):=by
 refine e.trans (zgk e.rt (fr:=X) t Wm u ?_ ?_);·rw[l,h,zkU file hi fr,<-e.aX.sz]
 rw[e.aX.sz];exact hS
end
theorem Rt.parts (h:Rt m):ZW m.fs m.aB=0/\slW m.sl=0:=by have b:=h.w;unfold maW at b;rw[zj]at b;have a:zaq m=0:=b _ Sm;unfold zaq at a;rw[zj]at a;exact⟨a _ Sm,a _ Sm⟩
theorem Rt.refs (h:Rt m) (a:m.fs[k]? =Xa X):0<=X.r/\X.r<=300:=by have b:=(h.inv.cf k X a).1;have c:=zaN (ZN m) 1 k;have d:=zfS h.inv.ca (k:Int);have e:=h.inv.tl;have g:=h.inv.aI;omega
theorem Rt.slots (h:Rt m) (a:m.sl[k]? =Xa z):0<=z/\z<=300:=by have b:=h.inv.cs k z a;have c:=zaN (ZN m) 2 k;have d:=h.inv.tl;have e:=h.inv.aI;omega
theorem qF.rebirth (h:qF m T) (x:T[k]? =Xa u) (y:∀n,n<64->u n=en0) (z:(wrL l).1=0):qF { m with sp:=m.sp.set k ⟨Xc,l,qU⟩ } T:=by
 have b:∀(p:Nat) a,(m.sp.set k ⟨Xc,l,qU⟩)[p]? =Xa a->(p=k/\a=⟨Xc,l,qU⟩)\/(p≠k/\m.sp[p]? =Xa a):=fun p a w=>by grind
 refine⟨h.aL,h.bB,h.aP,h.bC,h.sq,h.bH,h.st,h.cnt,h.bF,h.aW,by show(m.sp.set k _).length<=4;rw[List.length_set];exact h.aI,fun a c=>?_,by show T.length=(m.sp.set k _).length;rw[List.length_set];exact h.tl,?_,fun p a q c e n s=>?_,h.cf,h.cs⟩
 ·obtain⟨p,t⟩:=Xz c
  rcases b p a t with⟨_,rfl⟩|⟨_,d⟩;·grind
  exact h.aO a (mG d)
 ·obtain⟨i,v,j⟩:=zo.1 h.ca;exact zo.2 ⟨fun g r=>i g r,fun A g f=>(by cases f),j⟩
 rcases b p a c with⟨rfl,rfl⟩|⟨_,d⟩;·grind
 exact h.aM p a q d e n s
theorem JM (a:k<64):zfe s.tb (k:Int)=zf s k:=by unfold zfe zf;rw[kE Wm,tN]
theorem zqk (h:QP G) (b:k<64) (a:enW Z=0):zj9 G (k:Int) Z=zk3 G k Z:=by have a:=ZY.2 h.2;grind [zmb,zj9,tN]
theorem JO (ht:∀s∈m.sp,QP s.tb) {n:Nat} (hp:p<m.sp.length) (c:n<64) (b:enW Z=0):Zl m p (n:Int) Z=zai m p n Z:=by obtain⟨s,a⟩:∃s,m.sp[p]? =Xa s:=⟨_,gE hp⟩;unfold Zl zai;rw[Sp.aK a,zqk (ht s (mG a)) c b];congr 1;apply Ya;grind
end
section
open Go.RowKit
theorem Je.aY {enc:α->List Xq} {base:Nat} (h:Je enc w A y) (c:zff base A) {D:Nat->Prop} (hd:∀k,D k->k<base) (k:qH D w W):Je enc W A y:=by obtain⟨b,d,a,e,f⟩:=h;refine⟨b,d,a,e,fun x b j u d=>?_⟩;subst b;have b:=f x rfl j u d;have d:=World.block_lt_of_cell? _ _ b;have c:=c x _ _ a;rw[World.cell?_of_block (w:=w) (k.block _ d (fun e=>by have:=hd _ e;rw[zcs]at this;omega))];exact b
theorem jE.aY {base:Nat} (h:jE base w A r g) {D:Nat->Prop} (hd:∀k,D k->k<base) (k:qH D w W):jE base W A r g:=by obtain⟨e,q,f,r,g,c,d⟩:=h;exact⟨e,q,f,⟨r.1.aY c hd k,r.2⟩,⟨g.1.aY d hd k,g.2⟩,c,d⟩
theorem jE.form (h:jE k w A r g):∃d q:Sli,A= Xi #[d.x,q.x]/\zff k d.v/\zff k q.v:=by obtain⟨g,q,rfl,⟨⟨r,c,rfl,_⟩,_⟩,⟨⟨g,e,rfl,_⟩,_⟩,f,v⟩:=h;exact⟨⟨r,_,c⟩,⟨g,_,e⟩,rfl,f,v⟩
theorem jE.rows {d q:Sli} (h:jE k w (Xi #[d.x,q.x]) r g):Zz w (d.x) r/\Zu w (q.x) g:=by obtain⟨g,q,e,r,r,_⟩:=h;grind
theorem zoU (h:stW N z≠0):zoq N z H=stW N z:=by unfold zoq;rw[kF h]
theorem zmS (h:stW N z=0) (b:¬(0<=H/\H< (N.length:Int))):zoq N z H=5:=by unfold zoq;rw[kE h,kF (Rx zaL b)]
theorem zgm {f:Fl} (h:stW N z=0) (b:N[k]? =Xa f):zoq N z (k:Int)=0:=by have:=(gS.1 b).1;unfold zoq;rw[kE h,kE (zaL.2 ⟨Wm,Wm⟩)]
theorem zfx:ZE N k=(Q1 N (k:Int)).map fun(b:Nat)=>(b:Int):=zlp N k
theorem zjS (v fs) (d k x:Int) (w:Xn) (f:qE w v fs):
  Xp prog 207 #[Xi #[v,I6 d],I6 k,I6 x] w fun e w'=>∃b,e= Xl (Xm #[Xi #[b,I6 (zmd fs d k x)],I6 (zjT fs d k x),I6 (zbf fs d k x)])/\Zq 0 w.heap.size w' b (ziN fs d k x)/\zc w w':=by
 have L:∀W,zc w W->Xp prog 208 #[Xi #[v,I6 d],I6 k] W fun e w'=>e= Xl (I6 (zoq fs d k))/\zc W w':=fun W P=>zg8 v fs d k W (f.aA P);have b7:∀W,zc w W->Xp prog 49 #[Xi #[v,I6 d]] W fun e w'=>∃b,e= Xl (Xi #[b,I6 d])/\jW (W.heap.size+2) w' b fs/\zc W w'/\W.heap.size+2<=w'.heap.size:=fun W P=>zhH v fs d W (f.aA P);have ck:=dD f;obtain⟨g,c2,rfl,c,a⟩:=f.rows;have ca:=dD a;clear f a;obtain⟨D,Z⟩:=kA fs.length;rw[Z.out]at L b7 c ck⊢;obtain⟨c,a⟩:=kB ((w.alloc (Xk #[O g D c2,I6 d] 37)).alloc (Xk #[eS,I6 0] 37));have G:=gD2 a;have ce:=x2a a;have bz:=x2b a;have ah:Xo (_=c):=a;clear a;have a9:∀z:Int,z≠0->(∀W,zc w W->Xp prog 208 #[Xi #[O g D c2,I6 d],I6 k] W fun e w'=>e= Xl (I6 z)/\zc W w')->Xp prog 207 #[Xi #[O g D c2,I6 d],I6 k,I6 x] w fun e w'=>∃b,e= Xl (Xm #[Xi #[b,I6 0],I6 0,I6 z])/\Zq 0 w.heap.size w' b []/\zc w w':=fun z a L=>by
  have c:(z != 0)=Xc:=Si a;clear b7;go_enter func207,ntmps207;go_wp2_with fail;rw[ah.out];refine(L _ G).mono ?_;rintro e N ⟨rfl,u⟩;have V:=dD (G.trans u);have X:=bz.aA u;obtain⟨cf,cg⟩:=X.k2;have ch:=X.f;clear u L;go_wp2;refine bodyPost_ret (v:= Xm #[Xi #[eS,I6 0],I6 0,I6 z]) (by simp[results,Tryz.results207,go_sem, *]) rfl ⟨_,rfl,Zq.nil _ _ _,?_⟩;exact Below.setCell (Below.setCell V (p:=⟨w.heap.size+1,0,Xb⟩) Sm _) (p:=⟨w.heap.size+1,1,Xb⟩) Sm _
 rcases zn8 fs d k x with⟨M,I,a1,a2,a3⟩|⟨M,c,I,a1,a2,a3⟩|⟨M,j,t,rfl,z,h,I,a1,a2,a3⟩|⟨M,j,t,C,b,rfl,z,rfl,ap,a,f,I,a1,a2,a3⟩|⟨M,j,t,C,rfl,z,rfl,ap,aq,I,a1,a2,a3⟩|⟨M,j,t,C,b,cp,rfl,z,rfl,ap,aq,I,a1,a2,a3⟩;·rw[I,a1,a2,a3];rw[zoU M]at L;exact a9 _ M L
 ·rw[I,a1,a2,a3];rw[zmS M c]at L;exact a9 _ Dc L
 ·rw[I,a1,a2,a3];rw[zgm M z]at L;have a4:j<D:=by rw[<-Z.out];exact(gS.1 z).1
  have ao:(j:Int)< (D:Int):=Wm;obtain⟨a8,y,bm,bn,a5,c⟩:=ca.out j t z;subst y;have s:=dD c;clear c a5 a9;obtain⟨K,g⟩:=kA t.bl.length;have bp:=dD z;clear z;rw[g.out]at s;have an:=fun W=>zdH h W;rw[g.out]at an;clear I a1 a2 a3 b7 M h;go_enter func207,ntmps207;go_wp2_with fail;rw[ah.out];refine(L _ G).mono ?_;rintro e N ⟨rfl,u⟩;have V:=dD (G.trans u);have b5:=(ce.aA u).c 0 rfl;obtain⟨bs,ak⟩:=s.out N V.out;have X:=bz.aA u;obtain⟨cf,cg⟩:=X.k2;have ch:=X.f;clear u L;go_wp2_with (go_at_call 155;refine(an _).mono ?_;rintro e w' ⟨rfl,B⟩;rw[B];clear B w')
  refine bodyPost_ret (v:= Xm #[Xi #[eS,I6 0],I6 0,I6 9]) (by simp[results,Tryz.results207,go_sem, *]) rfl ⟨_,rfl,Zq.nil _ _ _,?_⟩;exact Below.setCell (Below.setCell V (p:=⟨w.heap.size+1,0,Xb⟩) Sm _) (p:=⟨w.heap.size+1,1,Xb⟩) Sm _
 ·rw[I,a1,a2,a3];rw[zgm M z]at L;have a4:j<D:=by rw[<-Z.out];exact(gS.1 z).1
  have ao:(j:Int)< (D:Int):=Wm;obtain⟨a8,y,bm,bn,a5,c⟩:=ca.out j t z;subst y;have s:=dD c;clear c a5 a9;obtain⟨K,g⟩:=kA t.bl.length;have bp:=dD z;clear z;rw[g.out]at s;have b8:C<K:=by rw[<-g.out];exact(gS.1 ap).1
  have c4:(C:Int)< (K:Int):=Wm;have an:=fun W=>Jc (m:=(C:Int)) (n:=(K:Int)) Wm Wm W;have bv:=dD ap;have h:(b == -1)=Xd:=by simp;omega
  clear a f;clear I a1 a2 a3 M ap;go_enter func207,ntmps207;go_wp2_with fail;rw[ah.out];refine(L _ G).mono ?_;rintro e N ⟨rfl,u⟩;have V:=dD (G.trans u);have aj:=dD (ce.aA u);have X:=dD (bz.aA u);obtain⟨b5,b9⟩:=aj.k2;obtain⟨bs,ak⟩:=s.out N V.out;clear u L;go_wp2_with (go_at_call 155;refine(an _).mono ?_;rintro e w' ⟨rfl,B⟩;rw[B];clear B w')
  refine(b7 _ V).mono ?_;rintro e ai ⟨cm,rfl,ax,al,bb⟩;have F:Xo (w.heap.size+2<=N.heap.size):=X.lt;obtain⟨bo,a6,T,aw,ba⟩:=ax;obtain⟨U,av⟩:∃U,bo[j]? =Xa U:=⟨_,gE (by rw[T,Z.out];exact a4)⟩;obtain⟨Y,ac,rfl⟩:=a6.aG (by rw[T,Z.out];omega);rw[T,Z.out]at a6⊢;obtain⟨b4,ab⟩:=aw j U t av bp.out;obtain⟨b0,c8,c9,az⟩:=U;obtain⟨r,c7,ay⟩:=ab.aG (by rw[g.out];omega);rw[g.out]at ay;have c6:O c8 c9 az= O (Xa ⟨r,0,Xb⟩) K c7:=ay;cases c6;have be:=dD av;have bf:Xo (b0=t.size):=b4;have bq:=dD a6;have cb:=dD T;have cc:=dD aw;have cd:=dD ba;have bx:Xo (zb blE (N.heap.size+2) ai (O (Xa ⟨r,0,Xb⟩) K az) t.bl):=ab;have bu:=dD (V.trans al);have ag:=dD bb;have Q:=dD al;clear al bb b7 b5 b9 bs ak a6 T aw ba b4 ab ay av an;go_upto_region 7 with fail;obtain⟨aa,q⟩:=kB ai.heap.size;obtain⟨S,l⟩:=kB (ai.alloc (Xk #[O (Xa ⟨Y,0,Xb⟩) D ac,I6 d] 37));have f:=gA l;have b2:Xo (zt S aa 37 [O (Xa ⟨Y,0,Xb⟩) D ac,I6 d]):=dD (by rw[<-l];exact zt.aE _ _ _ q.symm);have br:=dD ((aj.aA Q).aA f);have bg:=dD ((X.aA Q).aA f);have b6:Xo (N.heap.size+2<=aa):=show _<=_ by rw[<-q];exact ag.out
  have bw:=dD b2.box.lt;have bd:=dD (bu.trans f);have a7:=dD (bq.aA f);have R:=dD (bx.aA f);rw[l];rw[q];clear l q;have af:Xo (∀W,zc S W->W.cell? ⟨Y,j*2+1,Xb⟩=Xa (O (Xa ⟨r,0,Xb⟩) K az)):=show∀W,_ from fun W P=>by
   obtain⟨bh,bi,i,a⟩:=(a7.aA P).at.rows;obtain⟨a8,h,c⟩:=a j _ be.out;cases i;cases h;have:=c _ (zc.refl _) 1 _ rfl;rw[zZ,Xv,zA]at this;exact this
  have ae:Xo (∀W,zc S W->W.cell? ⟨r,C,Xb⟩=Xa (I6 b)):=dD<|fun W P=>by
   obtain⟨bh,bi,i,a⟩:=(R.aA P).at.aV;obtain⟨a8,h,c⟩:=a C _ bv.out;cases i;cases h;have:=c _ (zc.refl _);rw[Xv,zA]at this;exact this
  have c5:=b2.box.c 0 rfl;have ak:=af.out S (zc.refl _);have c3:=ae.out S (zc.refl _);have A:=dD<|(jW.aA ⟨bo,bq,cb,cc,cd⟩ f).new;have cq:=b2.box.c 1 rfl;obtain⟨cf,cg⟩:=bg.k2;have ch:=bg.f;have ar:aa≠w.heap.size+1:=by have:=b6.out;have:=F.out;omega
  have bk:¬w.heap.size+1=aa:=fun e=>ar e.symm;have au:r≠w.heap.size+1:=by have:=(R.lt r rfl).1;have:=F.out;omega
  have bl:¬w.heap.size+1=r:=fun e=>au e.symm;go_wp2;go_region
  all_goals go_wp2
  all_goals
   refine bodyPost_ret (v:= Xm #[Xi #[O (Xa ⟨Y,0,Xb⟩) D ac,I6 d],I6 b,I6 0]) (by simp[results,Tryz.results207,go_sem, *]) rfl ⟨_,rfl,?_,?_⟩
   ·have ci:=A.less (A0:=0) (A1:=w.heap.size+2) (nR _) (Hm F.out)
    exact(((ci.out (Out.setCell _ _ _ (p:=⟨w.heap.size+1,0,Xb⟩) (nZ _) Sm _)).out (Out.setCell _ _ _ (p:=⟨w.heap.size+1,1,Xb⟩) (nZ _) Sm _)).less (nR _) Wm).aA (gW _)
   exact(Below.setCell (Below.setCell bd (p:=⟨w.heap.size+1,0,Xb⟩) Sm _) (p:=⟨w.heap.size+1,1,Xb⟩) Sm _).drew
 ·rw[I,a1,a2,a3];rw[zgm M z]at L;have a4:j<D:=by rw[<-Z.out];exact(gS.1 z).1
  have ao:(j:Int)< (D:Int):=Wm;obtain⟨a8,y,bm,bn,a5,c⟩:=ca.out j t z;subst y;have s:=dD c;clear c a5 a9;obtain⟨K,g⟩:=kA t.bl.length;have bp:=dD z;clear z;rw[g.out]at s;have b8:C<K:=by rw[<-g.out];exact(gS.1 ap).1
  have c4:(C:Int)< (K:Int):=Wm;have an:=fun W=>Jc (m:=(C:Int)) (n:=(K:Int)) Wm Wm W;have bv:=dD ap;obtain⟨H,bj⟩:∃H:Nat,d=(H:Int):=⟨d.toNat,by have:=((qC fs d).1 M).1;omega⟩;subst bj;have A:H<=80:=by have:=((qC fs (H:Int)).1 M).1;omega
  have b3:∀W,zc w W->Xp prog 209 #[Xi #[O (Xa a8) D c2,I6 (H:Int)]] W fun e w'=>∃b,e= Xl b/\zb blE (W.heap.size+1) w' b (ZE fs H)/\zc W w':=fun W P=>zkl _ fs H A W (ck.aA P);rw[zfx,aq]at b3;clear A aq;simp only[Yp]at b3;clear I a1 a2 a3 M ap;go_enter func207,ntmps207;go_wp2_with fail;rw[ah.out];refine(L _ G).mono ?_;rintro e N ⟨rfl,u⟩;have V:=dD (G.trans u);have aj:=dD (ce.aA u);have X:=dD (bz.aA u);obtain⟨b5,b9⟩:=aj.k2;obtain⟨bs,ak⟩:=s.out N V.out;clear u L;go_wp2_with (go_at_call 155;refine(an _).mono ?_;rintro e w' ⟨rfl,B⟩;rw[B];clear B w')
  refine(b7 _ V).mono ?_;rintro e ai ⟨cm,rfl,ax,al,bb⟩;have F:Xo (w.heap.size+2<=N.heap.size):=X.lt;obtain⟨bo,a6,T,aw,ba⟩:=ax;obtain⟨U,av⟩:∃U,bo[j]? =Xa U:=⟨_,gE (by rw[T,Z.out];exact a4)⟩;obtain⟨Y,ac,rfl⟩:=a6.aG (by rw[T,Z.out];omega);rw[T,Z.out]at a6⊢;obtain⟨b4,ab⟩:=aw j U t av bp.out;obtain⟨b0,c8,c9,az⟩:=U;obtain⟨r,c7,ay⟩:=ab.aG (by rw[g.out];omega);rw[g.out]at ay;have c6:O c8 c9 az= O (Xa ⟨r,0,Xb⟩) K c7:=ay;cases c6;have be:=dD av;have bf:Xo (b0=t.size):=b4;have bq:=dD a6;have cb:=dD T;have cc:=dD aw;have cd:=dD ba;have bx:Xo (zb blE (N.heap.size+2) ai (O (Xa ⟨r,0,Xb⟩) K az) t.bl):=ab;have bu:=dD (V.trans al);have ag:=dD bb;have Q:=dD al;clear al bb b7 b5 b9 bs ak a6 T aw ba b4 ab ay av an;go_upto_region 7 with fail;obtain⟨aa,q⟩:=kB ai.heap.size;obtain⟨S,l⟩:=kB (ai.alloc (Xk #[O (Xa ⟨Y,0,Xb⟩) D ac,I6 (H:Int)] 37));have f:=gA l;have b2:Xo (zt S aa 37 [O (Xa ⟨Y,0,Xb⟩) D ac,I6 (H:Int)]):=dD (by rw[<-l];exact zt.aE _ _ _ q.symm);have br:=dD ((aj.aA Q).aA f);have bg:=dD ((X.aA Q).aA f);have b6:Xo (N.heap.size+2<=aa):=show _<=_ by rw[<-q];exact ag.out
  have bw:=dD b2.box.lt;have bd:=dD (bu.trans f);have a7:=dD (bq.aA f);have R:=dD (bx.aA f);rw[l];rw[q];clear l q;have af:Xo (∀W,zc S W->W.cell? ⟨Y,j*2+1,Xb⟩=Xa (O (Xa ⟨r,0,Xb⟩) K az)):=show∀W,_ from fun W P=>by
   obtain⟨bh,bi,i,a⟩:=(a7.aA P).at.rows;obtain⟨a8,h,c⟩:=a j _ be.out;cases i;cases h;have:=c _ (zc.refl _) 1 _ rfl;rw[zZ,Xv,zA]at this;exact this
  have ae:Xo (∀W,zc S W->W.cell? ⟨r,C,Xb⟩=Xa (I6 (-1))):=dD<|fun W P=>by
   obtain⟨bh,bi,i,a⟩:=(R.aA P).at.aV;obtain⟨a8,h,c⟩:=a C _ bv.out;cases i;cases h;have:=c _ (zc.refl _);rw[Xv,zA]at this;exact this
  have c5:=b2.box.c 0 rfl;have ak:=af.out S (zc.refl _);have c3:=ae.out S (zc.refl _);obtain⟨b5,b9⟩:=br.k2;go_wp2_with fail;refine(b3 _ bd).mono ?_;rintro e cl ⟨co,rfl,bt,am⟩;obtain⟨c1,cn,rfl⟩:=bt.form;have cj:=dD (bd.trans am);have c1:=dD (bg.aA am);clear bt am b3 b5 b9 c5 ak c3;obtain⟨cf,cg⟩:=c1.k2;have ch:=c1.f;simp only[Yj];go_wp2;refine bodyPost_ret (v:= Xm #[Xi #[eS,I6 0],I6 0,I6 10]) (by simp[results,Tryz.results207,go_sem, *]) rfl ⟨_,rfl,Zq.nil _ _ _,?_⟩;exact Below.setCell (Below.setCell cj (p:=⟨w.heap.size+1,0,Xb⟩) Sm _) (p:=⟨w.heap.size+1,1,Xb⟩) Sm _
 rw[I,a1,a2,a3];rw[zgm M z]at L;have a4:j<D:=by rw[<-Z.out];exact(gS.1 z).1
 have ao:(j:Int)< (D:Int):=Wm;obtain⟨a8,y,bm,bn,a5,c⟩:=ca.out j t z;subst y;have s:=dD c;clear c a5 a9;obtain⟨K,g⟩:=kA t.bl.length;have bp:=dD z;clear z;rw[g.out]at s;have b8:C<K:=by rw[<-g.out];exact(gS.1 ap).1
 have c4:(C:Int)< (K:Int):=Wm;have an:=fun W=>Jc (m:=(C:Int)) (n:=(K:Int)) Wm Wm W;have bv:=dD ap;obtain⟨H,bj⟩:∃H:Nat,d=(H:Int):=⟨d.toNat,by have:=((qC fs d).1 M).1;omega⟩;subst bj;have A:H<=80:=by have:=((qC fs (H:Int)).1 M).1;omega
 have b3:∀W,zc w W->Xp prog 209 #[Xi #[O (Xa a8) D c2,I6 (H:Int)]] W fun e w'=>∃b,e= Xl b/\zb blE (W.heap.size+1) w' b (ZE fs H)/\zc W w':=fun W P=>zkl _ fs H A W (ck.aA P);rw[zfx,aq]at b3;clear A aq;rw[mP]at b3;obtain⟨A,d⟩:=kA ((b:Int) ::(cp.map fun(b:Nat)=>(b:Int)));rw[d.out]at b3;have z:Xo (A[0]? =Xa (b:Int)):=dD<|by rw[<-d.out];rfl
 have y:Xo (0<A.length):=dD<|by rw[<-d.out];simp
 clear I a1 a2 a3 M ap;go_enter func207,ntmps207;go_wp2_with fail;rw[ah.out];refine(L _ G).mono ?_;rintro e N ⟨rfl,u⟩;have V:=dD (G.trans u);have aj:=dD (ce.aA u);have X:=dD (bz.aA u);obtain⟨b5,b9⟩:=aj.k2;obtain⟨bs,ak⟩:=s.out N V.out;clear u L;go_wp2_with (go_at_call 155;refine(an _).mono ?_;rintro e w' ⟨rfl,B⟩;rw[B];clear B w')
 refine(b7 _ V).mono ?_;rintro e ai ⟨cm,rfl,ax,al,bb⟩;have F:Xo (w.heap.size+2<=N.heap.size):=X.lt;obtain⟨bo,a6,T,aw,ba⟩:=ax;obtain⟨U,av⟩:∃U,bo[j]? =Xa U:=⟨_,gE (by rw[T,Z.out];exact a4)⟩;obtain⟨Y,ac,rfl⟩:=a6.aG (by rw[T,Z.out];omega);rw[T,Z.out]at a6⊢;obtain⟨b4,ab⟩:=aw j U t av bp.out;obtain⟨b0,c8,c9,az⟩:=U;obtain⟨r,c7,ay⟩:=ab.aG (by rw[g.out];omega);rw[g.out]at ay;have c6:O c8 c9 az= O (Xa ⟨r,0,Xb⟩) K c7:=ay;cases c6;have be:=dD av;have bf:Xo (b0=t.size):=b4;have bq:=dD a6;have cb:=dD T;have cc:=dD aw;have cd:=dD ba;have bx:Xo (zb blE (N.heap.size+2) ai (O (Xa ⟨r,0,Xb⟩) K az) t.bl):=ab;have bu:=dD (V.trans al);have ag:=dD bb;have Q:=dD al;clear al bb b7 b5 b9 bs ak a6 T aw ba b4 ab ay av an;go_upto_region 7 with fail;obtain⟨aa,q⟩:=kB ai.heap.size;obtain⟨S,l⟩:=kB (ai.alloc (Xk #[O (Xa ⟨Y,0,Xb⟩) D ac,I6 (H:Int)] 37));have f:=gA l;have b2:Xo (zt S aa 37 [O (Xa ⟨Y,0,Xb⟩) D ac,I6 (H:Int)]):=dD<|by rw[<-l];exact zt.aE _ _ _ q.symm
 have br:=dD ((aj.aA Q).aA f);have bg:=dD ((X.aA Q).aA f);have b6:Xo (N.heap.size+2<=aa):=show _<=_ by rw[<-q];exact ag.out
 have bw:=dD b2.box.lt;have bd:=dD (bu.trans f);have a7:=dD (bq.aA f);have R:=dD (bx.aA f);rw[l];rw[q];clear l q;have af:Xo (∀W,zc S W->W.cell? ⟨Y,j*2+1,Xb⟩=Xa (O (Xa ⟨r,0,Xb⟩) K az)):=show∀W,_ from fun W P=>by
  obtain⟨bh,bi,i,a⟩:=(a7.aA P).at.rows;obtain⟨a8,h,c⟩:=a j _ be.out;cases i;cases h;have:=c _ (zc.refl _) 1 _ rfl;rw[zZ,Xv,zA]at this;exact this
 have ae:Xo (∀W,zc S W->W.cell? ⟨r,C,Xb⟩=Xa (I6 (-1))):=dD<|fun W P=>by
  obtain⟨bh,bi,i,a⟩:=(R.aA P).at.aV;obtain⟨a8,h,c⟩:=a C _ bv.out;cases i;cases h;have:=c _ (zc.refl _);rw[Xv,zA]at this;exact this
 have c5:=b2.box.c 0 rfl;have ak:=af.out S (zc.refl _);have c3:=ae.out S (zc.refl _);obtain⟨b5,b9⟩:=br.k2;go_wp2_with fail;refine(b3 _ bd).mono ?_;rintro e cl ⟨co,rfl,bt,am⟩;obtain⟨d,cn,rfl⟩:=bt.aG y.out;have Q:cl.cell? ⟨d,0,Xb⟩=Xa (I6 (b:Int)):=by
  obtain⟨bh,bi,i,a⟩:=bt.at.aV;obtain⟨a8,h,c⟩:=a 0 _ z.out;cases i;cases h;have:=c _ (zc.refl _);rw[Xv,zA]at this;exact this
 have cj:=dD (bd.trans am);have z:=dD am;have l:=dD (R.aA am);have u:=dD (a7.aA am);have B:=dD (b2.aA am);have c1:=dD (bg.aA am);have d:=(R.lt r rfl).1;obtain⟨q,d⟩:=kA A.length;have s:0<q:=Ry d.out y.out;have s:(0:Int)< (q:Int):=Wm;have s:((q:Int) == 0)=Xd:=by simp;omega
 rw[d.out];clear bt am b3 b5 b9 c5 ak c3;go_wp2_with (refine qB (E:=blE) rfl (.tmp 55) (.tmp 54) rfl (N.heap.size+2) _ t.bl l r C rfl (b:Int) ?t1 ⟨r,C,Xb⟩ rfl ?t2 (I6 (b:Int)) rfl rfl ?_)
 case t1=>rw[g.out];exact b8
 case t2=>show _=Addr.mk r (C*1) Xb;rw[Yu]
 intro y s d _;have A:=dD s;have L:Xo (Box y aa [O (Xa ⟨Y,0,Xb⟩) D ac,I6 (H:Int)]):=B.box.grown d (fun e=>l.ne B Dc r rfl e);have B:Xo (Box y (w.heap.size+1) [eS,I6 0]):=c1.grown d (Hm F.out);have P:Xo (zc w y):=dD<|zd cj d (Hm F.out);have M:Xo (Zq 0 (N.heap.size+2) y (O (Xa ⟨Y,0,Xb⟩) D ac) (fs.set j ⟨t.size,t.bl.set C (b:Int)⟩)):=dD<|by
  have t:=u.grown d (fun R q G=>by cases G;exact u.apart l (Ne.symm zhl) r q rfl);refine⟨t.cap,bo,t.new.stays,by simp[cb.out],fun K U N t l=>?_⟩;by_cases e:K=j
  ·subst e;rw[sF (Rx Z.out a4)]at l;rw[be.out]at t;cases t;cases l;exact⟨bf,A.new.stays⟩
  rw[sN (fun u=>e u.symm)]at l;obtain⟨b4,ab⟩:=cc.out K U N t l;have l:=ab.aA (f.trans z);exact⟨b4,(l.grown d (fun R q G=>by cases G;exact cd j K _ U (fun u=>e u.symm) be t r rfl q)).new.stays⟩
 have c3:y.cell? ⟨r,C,Xb⟩=Xa (I6 (b:Int)):=by
  obtain⟨bh,bi,i,a⟩:=s.at.aV;obtain⟨a8,h,c⟩:=a C (b:Int) (by rw[sF (Rx g.out b8)]);cases i;cases h;have:=c _ (zc.refl _);rw[Xv,zA]at this;exact this
 clear s d Q;obtain⟨c5,cq⟩:=L.k2;obtain⟨cf,cg⟩:=B.k2;have ch:=B.f;have ar:aa≠w.heap.size+1:=by have:=b6.out;have:=F.out;omega
 have bk:¬w.heap.size+1=aa:=fun e=>ar e.symm;have au:r≠w.heap.size+1:=Hm F.out;have bl:¬w.heap.size+1=r:=fun e=>au e.symm;go_wp2;go_region
 all_goals go_wp2
 all_goals
  refine bodyPost_ret (v:= Xm #[Xi #[O (Xa ⟨Y,0,Xb⟩) D ac,I6 (H:Int)],I6 (b:Int),I6 0]) (by simp[results,Tryz.results207,go_sem, *]) rfl ⟨_,rfl,?_,?_⟩
  ·have ci:=M.less (A0:=0) (A1:=w.heap.size+2) (nR _) (Hm F.out)
   exact(((ci.out (Out.setCell _ _ _ (p:=⟨w.heap.size+1,0,Xb⟩) (nZ _) Sm _)).out (Out.setCell _ _ _ (p:=⟨w.heap.size+1,1,Xb⟩) (nZ _) Sm _)).less (nR _) Wm).aA (gW _)
  exact(Below.setCell (Below.setCell P (p:=⟨w.heap.size+1,0,Xb⟩) Sm _) (p:=⟨w.heap.size+1,1,Xb⟩) Sm _).drew
section
variable{w0 w w1 w2:Xn} {p:Nat} {V:MaV} {m:Ma}
theorem ChW.setFl (h:ChW w0 p w V m) {b:Sli} (d:zc w w1) (g:w.heap.size<=B) (f:Zq 0 B w1 (b.x) N) (e:w1.grownBy w2 (Xa p)) (a:zt w2 p 102 (chL { V with fl:=b } { m with fl:=N,cnt:=z })):zfk w0 p w V { m with fl:=N,cnt:=z } w2:=
 h.fieldC (V':={ V with fl:=b }) (m':={ m with fl:=N,cnt:=z }) d e rfl rfl rfl rfl rfl rfl a (fun W _ a r=>⟨r.sl,r.sb,r.sq,r.db,r.dq,(f.out ⟨a.os,a.tape,a.output,a.size,fun k d e=>a.block k d (fun e=>Hm (h.drt k e))⟩).now0⟩)
theorem ChW.setDk (h:ChW w0 p w V m) {d q:Sli} (e:zc w w1) (i:w.heap.size<=B) (b:jE B w1 (Xi #[d.x,q.x]) r g) (f:w1.grownBy w2 (Xa p)) (c:zt w2 p 102 (chL { V with db:=d,dq:=q } { m with db:=r,dq:=g })):zfk w0 p w V { m with db:=r,dq:=g } w2:=
 h.fieldC (V':={ V with db:=d,dq:=q }) (m':={ m with db:=r,dq:=g }) e f rfl rfl rfl rfl rfl rfl c (fun W _ g a=>by
  have k:=(b.aY (fun k r=>Hm (h.drt k r)) g).rows
  exact⟨a.sl,a.sb,a.sq,k.1,k.2,a.fl⟩)
end
def wrM (m:Ma) (pg:List Int) (file idx:Int):Ma:=
 if zbf m.fl m.cnt file idx=0 then{ m with fl:=ziN m.fl m.cnt file idx,cnt:=zmd m.fl m.cnt file idx,db:=jX m.db m.dq (zjT m.fl m.cnt file idx),dq:=Zc m.db m.dq (zjT m.fl m.cnt file idx) pg }else m
theorem zeL (a:ChW w0 k w V m) (pg:List Int) (hp:pg.length=8) (file idx:Int):
  Xp prog 204 #[Xj (Xa ⟨k,0,Xb⟩),Xi (pgc pg).toArray,I6 file,I6 idx] w fun e w'=>e= Xl (Xh (decide (zbf m.fl m.cnt file idx=0)))/\zfk w0 k w V (wrM m pg file idx) w':=by
 have t:=dD a;obtain⟨E,c⟩:=kA (zbf m.fl m.cnt file idx);obtain⟨C,q⟩:=kA (zmd m.fl m.cnt file idx);obtain⟨B,f⟩:=kA (zjT m.fl m.cnt file idx);have z:Xo (∀W,zc w W->Xp prog 207 #[Xi #[V.fl.x,I6 m.cnt],I6 file,I6 idx] W fun e w'=>∃b:Sli,e= Xl (Xm #[Xi #[b.x,I6 C],I6 B,I6 E])/\Zq 0 W.heap.size w' (b.x) (ziN m.fl m.cnt file idx)/\zc W w'):=show∀W,_ from fun W D=>by
  rw[<-c.out,<-q.out,<-f.out];refine(zjS _ m.fl m.cnt file idx W (a.at.aA D).fl).mono ?_;rintro e w' ⟨b,rfl,A,G⟩;obtain⟨d,H,rfl,_⟩:=qE.rows A.now0;exact⟨⟨d,_,H⟩,rfl,A,G⟩
 have s:Xo (E=0->wrM m pg file idx={({ m with fl:=ziN m.fl m.cnt file idx,cnt:=C }:Ma)with db:=jX m.db m.dq B,dq:=Zc m.db m.dq B pg }):=dD<|fun a=>by
  unfold wrM;rw[kE (c.trans a),q.out,f.out]
 have v:Xo (E≠0->wrM m pg file idx=m):=dD<|fun a=>by
  unfold wrM;rw[kF (fun e=>a (c.symm.trans e))]
 rw[c.out];obtain⟨R,c⟩:=kA (decide (E=0));rw[c.out];have F:k<w.heap.size:=a.bK k (.inl rfl);obtain⟨N,x⟩:=kA (wrM m pg file idx);rw[x.out]at s v⊢;obtain⟨g,h,i,j,p,l,n,r,d⟩:=zc4 pg hp;have u:=dD d;have y:pgc pg=[U8 g,U8 h,U8 i,U8 j,U8 p,U8 l,U8 n,U8 r]:=Rr d;rw[y];clear a hp d y;obtain⟨b,f⟩:=kA w.heap.size;obtain⟨K,a⟩:=kB (w.alloc (Xk #[U8 g,U8 h,U8 i,U8 j,U8 p,U8 l,U8 n,U8 r] 44));have d:=gA a;have L:=xP a f;have y:=dD a;clear a;rw[f.out]at F;go_enter func204,ntmps204;go_upto_region 1 with fail;rw[y.out,f.out];have f:=(t.box.box.aA d).c 7 rfl;have y:=(t.box.box.aA d).c 8 rfl;have a:=z.out K d.out;go_wp2_with fail;refine a.mono ?_;clear a f y;rintro e F ⟨y,rfl,A,z⟩;have M:=dD A;have f:=dD z;clear A z;go_upto_region 2 with fail;obtain⟨H,q⟩:=kA F.heap.size;refine nW fun a a=>?_;have A:=gA a;have H:=xP a q;rw[q.out];clear a;by_cases a:E=0
 rotate_left
 ·have q:(E != 0)=Xc:=by simp[a]
  have F:=dD<|c.symm.trans (decide_eq_false a);have x:=dD<|v.out a;clear a;go_wp2;go_ret;exact⟨Rr F.out,by rw[x.out];exact zfk.refl t (d.trans (f.trans A))⟩
 have q:(E != 0)=Xd:=by simp[a]
 have F:=dD<|c.symm.trans (decide_eq_true a);have x:=dD<|s.out a;clear a;have c:=dD (d.trans (f.trans A));obtain⟨P,Q⟩:=H.k2;have a:=dD (t.box.aA c);go_upto_region 5 with(refine Qk rfl 37 (.tmp 30) (.tmp 27) rfl k 7 rfl (Xi #[y.x,I6 C]) rfl [y.x,I6 C] rfl a (by simp[chL]) Kr (by simp[Value.oneCell']) ?_)
 intro s v a _;have N:Xo (Box s b [U8 g,U8 h,U8 i,U8 j,U8 p,U8 l,U8 n,U8 r]):=dD<|(L.aA (f.trans A)).grown a Wm;obtain⟨f,K,y,L,H⟩:=t.setFl c (bS d) (M.aA A) a v;have Y:=dD K;have E:=dD y;have Z:=dD L;have X:=dD H;have T:Xo (∀W,zc s W->Xp prog 194 #[Xi #[f.db.x,f.dq.x],I6 B,Xi #[U8 g,U8 h,U8 i,U8 j,U8 p,U8 l,U8 n,U8 r]] W fun e w'=>∃d q:Sli,e= Xl (Xm #[Xi #[d.x,q.x],I6 (zn m.db.length m.dq B)])/\jE W.heap.size w' (Xi #[d.x,q.x]) (jX m.db m.dq B) (Zc m.db m.dq B pg)/\zc W w'):=show∀W,_ from fun W D=>by
  have c:=zhc (Xi #[f.db.x,f.dq.x]) m.db m.dq B pg (Rr u.out) W ⟨_,_,rfl,(y.at.aA D).db,(y.at.aA D).dq⟩;rw[show pgc pg=[U8 g,U8 h,U8 i,U8 j,U8 p,U8 l,U8 n,U8 r] by rw[u.out];rfl]at c;refine c.mono ?_;rintro e w' ⟨c,rfl,c,G⟩;obtain⟨d,q,rfl,_,_⟩:=c.form;exact⟨d,q,rfl,c,G⟩
 have c:k<s.heap.size:=y.bK k (.inl rfl);clear v a y L H K P Q;try simp only[Yn]
 go_upto_region 5 with fail;obtain⟨S,a⟩:=kA (zn m.db.length m.dq B);rw[a.out]at T;obtain⟨a,c⟩:=Ww fun u=>Box u b [U8 g,U8 h,U8 i,U8 j,U8 p,U8 l,U8 n,U8 r];have t:=(c _).2 (N.aA (gW _));have A:zc s s.drew:=show Below _ _ _ from(bR _ _).drew;have H:=fun y:zg a=>((c _).1 y.holds).c 0 rfl;have K:=fun y:zg a=>((c _).1 y.holds).c 1 rfl;have L:=fun y:zg a=>((c _).1 y.holds).c 2 rfl;have M:=fun y:zg a=>((c _).1 y.holds).c 3 rfl;have N:=fun y:zg a=>((c _).1 y.holds).c 4 rfl;have P:=fun y:zg a=>((c _).1 y.holds).c 5 rfl;have Q:=fun y:zg a=>((c _).1 y.holds).c 6 rfl;have R:=fun y:zg a=>((c _).1 y.holds).c 7 rfl;have G:Nonempty (zg a):=⟨⟨_,t⟩⟩;refine zQ (I:=a) 16 [(5,fun v=>v= Xi #[f.db.x,f.dq.x]),(8,fun v=>∃d q:Sli,v= Xm #[Xi #[d.x,q.x],I6 S]),(15,fun _=>True)] (fun u=>zc s u) t A z3 Kr rfl rfl Dc (Sc ⟨_,rfl⟩ ⟨_,zE,zE,rfl⟩ ⟨undef,trivial⟩) Kr ?_;simp only[Ob,Oc];iterate 2 refine zi ?_
 refine zW (.tmp 33) ⟨k,0,Xb⟩ rfl rfl rfl rfl ?_;refine Uq ?_;iterate 2 refine zi ?_
 refine zH rfl rfl (fun _ u=>zc s u) (fun w' b a=>?_) (fun U D=>?_)
 ·refine zco 34 (.tmp 36) rfl k 5 rfl [f.db.x,f.dq.x] ((E.box.box.aA a).mid 5 (fun W v y=>by
   match W,y with
   | 0,y=>exact y
   | 1,y=>exact y)) underlying34 rfl Kr ⟨b,rfl,a⟩
 cases D;refine Uq ?_;iterate 2 refine zi ?_
 refine zH rfl rfl (fun v u=>∃(d q:Sli) (y:Xn),v= Xm #[Xi #[d.x,q.x],I6 S]/\zc s y/\zc y u/\jE y.heap.size u (Xi #[d.x,q.x]) (jX m.db m.dq B) (Zc m.db m.dq B pg)) (fun w' b a=>?_) (fun U D=>?_);·refine zN.call [Xi #[f.db.x,f.dq.x],I6 B,Xi #[U8 g,U8 h,U8 i,U8 j,U8 p,U8 l,U8 n,U8 r]] rfl func194 rfl rfl rfl ?_;refine(T w' a).mono ?_;rintro e f ⟨d,q,rfl,f,z⟩;exact⟨_,rfl,(c _).2 (((c _).1 b).aA z),⟨d,q,rfl⟩,d,q,w',rfl,a,z,f⟩
 obtain⟨d,q,rfl⟩:=D;refine Uq ?_;iterate 3 refine zi ?_
 refine zW (.tmp 32) ⟨k,0,Xb⟩ rfl rfl rfl rfl ?_;refine Uq ?_;iterate 2 refine zi ?_
 refine zH rfl rfl (fun _ u=>zfk w0 k w V {({ m with fl:=ziN m.fl m.cnt file idx,cnt:=C }:Ma)with db:=jX m.db m.dq B,dq:=Zc m.db m.dq B pg } u) (fun w' b a=>?_) (fun U D=>?_)
 ·obtain⟨f,g,y,h,i,j,p⟩:=a;have a:f=d/\g=q:=by
   obtain⟨l,l,l⟩:=d;obtain⟨d,d,d⟩:=f;obtain⟨d,d,d⟩:=q;obtain⟨d,d,d⟩:=g;simp only[Value.tuple.injEq,Array.mk.injEq,List.cons.injEq,Value.agg.injEq,vJ,and_true]at h;obtain⟨⟨rfl,rfl,rfl⟩,rfl,rfl,rfl⟩:=h;exact⟨rfl,rfl⟩
  obtain⟨rfl,rfl⟩:=a;have h:=i.trans j;refine ZT 34 (.tmp 45) (.tmp 41) rfl k 5 rfl (Xi #[f.x,g.x]) rfl [f.x,g.x] rfl (E.box.aA h) (by simp[chL]) Kr (by simp[Value.oneCell']) ?_;intro f d a _;exact⟨(c _).2 (((c _).1 b).grown a Wm),trivial,zfk.step Z X Y (E.setDk h (bS i) p a d)⟩
 clear D;try simp only[Yn]
 refine qV fun f b a=>?_;have c:=dD a;clear b a t A H K L M N P Q R G;go_wp2;go_ret;exact⟨Rr F.out,Rx x.out c⟩
theorem zda (h:ChW w0 k w V m) (f:Fr) (fi ix:Nat) (F:Fl) (hf:f.f=(fi:Int)) (hx:f.x=(ix:Int)) (hF:m.fl[fi]? =Xa F) (hs:0<=F.size/\F.size<=96) (hi:ix<=12):
  Xp prog 196 #[Xj (Xa ⟨k,0,Xb⟩),Xi (frv f).toArray] w fun e w'=>e= Xl (Xi (pgc (Z7 (pgL f.p) (ix:Int) F.size)).toArray)/\(Z7 (pgL f.p) (ix:Int) F.size).length=8/\zc w w':=by
 have HM:Xo (ChW w0 k w V m):=h;obtain⟨a,c,hfe,_,hfr⟩:=qE.rows h.at.fl;simp only[vJ]at hfe;obtain⟨hfa,hfn,hfc⟩:=hfe;obtain⟨ad,ha,xa,xc,_,hcl⟩:=hfr fi F hF;have HFA:Xo (V.fl.a=Xa ad):=hfa.trans ha;have hlt:(fi:Int)< (V.fl.n:Int):=by
  have:=(gS.1 hF).1;omega
 obtain⟨s,HSZ⟩:=kA F.size;rw[HSZ.out]at hs⊢;have HCC:Xo (∀W,zc w W->W.cell? (ad.add (fi*2))=Xa (I6 s)):=dD<|fun W hW=>by
  have:=(hcl W hW).1;rw[HSZ.out]at this;exact this
 have hc8:(Z7 (pgL f.p) (ix:Int) s).length=8:=by unfold Z7;simp[pgL]
 have HC:Xo (∀W,Xp prog 162 #[Xi (pgc (pgL f.p)).toArray,I6 (s -(ix:Int)*8)] W fun e w'=>e= Xl (Xi (pgc (Z7 (pgL f.p) (ix:Int) s)).toArray)/\zc W w'):=dD<|fun W=>by
  have p:=zeb (pgL f.p) (s -(ix:Int)*8) W rfl Wm Wm;rw[znT]at p;exact p.mono fun e w' q=>⟨q.1,q.2.2⟩
 obtain⟨c0,c1,c2,c3,c4,c5,c6,c7,hce⟩:=zc4 _ hc8;rw[hce]at HC⊢;obtain⟨⟨b0,b1,b2,b3,b4,b5,b6,b7⟩,fr,fu,fd,ff,fx⟩:=f;dsimp only at hf hx;subst hf;subst hx;simp only[pgL,pgc,frv,mP,Yp]at HC⊢;have HL8:Xo ([c0,c1,c2,c3,c4,c5,c6,c7].length=8):=dD<|rfl;clear h hfa hfn hfc ha hcl hfr hF hc8 hce;obtain⟨b,HB⟩:=kA w.heap.size;obtain⟨W1,hW1⟩:=kB ((w.alloc (Xk #[U8 b0,U8 b1,U8 b2,U8 b3,U8 b4,U8 b5,U8 b6,U8 b7,I6 fr,Xh fu,Xh fd,I6 (fi:Int),I6 (ix:Int)] 53)).alloc (Xk #[U8 0,U8 0,U8 0,U8 0,U8 0,U8 0,U8 0,U8 0] 44));have G1:=gD2 hW1;have Y1:Xo (Box W1 b [U8 b0,U8 b1,U8 b2,U8 b3,U8 b4,U8 b5,U8 b6,U8 b7,I6 fr,Xh fu,Xh fd,I6 (fi:Int),I6 (ix:Int)]):=dD<|by rw[<-hW1];exact(Box.aE _ _ _ HB.symm).alloc _
 have Z1:Xo (zt W1 (b+1) 44 (pgc zq)):=dD<|by rw[<-hW1];exact zt.aE _ (pgc zq) _ (by simp[HB.out])
 have HW1:Xo (_=W1):=hW1;clear hW1;go_enter func196,ntmps196;go_upto_region 1 with fail;rw[HW1.out,HB.out];have gd:zc W1 W1.drew:=show Below _ _ _ from(bR _ _).drew;obtain⟨I,HI⟩:∃I:Xn->Prop,Xo (∀u,I u↔(Box u b [U8 b0,U8 b1,U8 b2,U8 b3,U8 b4,U8 b5,U8 b6,U8 b7,I6 fr,Xh fu,Xh fd,I6 (fi:Int),I6 (ix:Int)])/\u.cell? ⟨k,7,Xb⟩=Xa (O (Xa ad) V.fl.n V.fl.c)/\u.cell? (ad.add (fi*2))=Xa (I6 s)):=⟨fun u=>_,fun _=>Iff.rfl⟩;have x7:∀W,zc w W->W.cell? ⟨k,7,Xb⟩=Xa (O (Xa ad) V.fl.n V.fl.c):=fun W hW=>by
  have:=(HM.box.box.aA hW).c 7 rfl;rw[HFA.out]at this;exact this
 have X7:Xo (∀W,zc w W->W.cell? ⟨k,7,Xb⟩=Xa (O (Xa ad) V.fl.n V.fl.c)):=dD<|x7;clear x7;have hI0:I W1.drew:=(HI _).2 ⟨Y1.aA gd,X7 _ (G1.trans gd),HCC _ (G1.trans gd)⟩;have hF0:zc W1 W1.drew:=gd;have hy0:=fun y:zg I=>((HI _).1 y.holds).1.c 0 rfl;have hy1:=fun y:zg I=>((HI _).1 y.holds).1.c 1 rfl;have hy2:=fun y:zg I=>((HI _).1 y.holds).1.c 2 rfl;have hy3:=fun y:zg I=>((HI _).1 y.holds).1.c 3 rfl;have hy4:=fun y:zg I=>((HI _).1 y.holds).1.c 4 rfl;have hy5:=fun y:zg I=>((HI _).1 y.holds).1.c 5 rfl;have hy6:=fun y:zg I=>((HI _).1 y.holds).1.c 6 rfl;have hy7:=fun y:zg I=>((HI _).1 y.holds).1.c 7 rfl;have hyf:=fun y:zg I=>((HI _).1 y.holds).1.c 11 rfl;have hyx:=fun y:zg I=>((HI _).1 y.holds).1.c 12 rfl;have hyp:=fun y:zg I=>((HI _).1 y.holds).2.1;have hys:=fun y:zg I=>((HI _).1 y.holds).2.2;have hne:Nonempty (zg I):=⟨⟨_,hI0⟩⟩;refine zQ (I:=I) 19 [(17,fun v=>v= Xi #[U8 c0,U8 c1,U8 c2,U8 c3,U8 c4,U8 c5,U8 c6,U8 c7]),(18,fun _=>True)] (fun u=>zc W1 u) hI0 hF0 z3 Kr rfl rfl Dc (Sb ⟨_,rfl⟩ ⟨undef,trivial⟩) Kr ?_;simp only[Ob,Oc];iterate 3 (refine z9 rfl rfl rfl (fun K hK=>?_);go_big_quiet_op;refine hK _ ?_;clear hK K)
 refine zW (.tmp 7) ⟨k,0,Xb⟩ rfl rfl rfl rfl ?_;simp only[Yn,sB,sS,sZ];iterate 13 (refine z9 rfl rfl rfl (fun K hK=>?_);go_big_quiet_op;refine hK _ ?_;clear hK K)
 refine zH rfl rfl (fun _ u=>zc W1 u) (fun w' hI' hF'=>?_) (fun v1 hv=>?_);·refine zN.call [Xi #[U8 b0,U8 b1,U8 b2,U8 b3,U8 b4,U8 b5,U8 b6,U8 b7],I6 (s -(ix:Int)*8)] rfl func162 rfl rfl rfl ?_;refine(HC w').mono ?_;rintro e w'' ⟨rfl,g2⟩;obtain⟨i1,i2,i3⟩:=(HI _).1 hI';have gg:=G1.trans (hF'.trans g2);exact⟨_,rfl,(HI _).2 ⟨i1.aA g2,X7 _ gg,HCC _ gg⟩,rfl,hF'.trans g2⟩
 subst hv;simp only[Yn,sB,sS,sZ];refine zH rfl rfl (fun _ u=>zc w u/\Box u (b+1) (pgc [c0,c1,c2,c3,c4,c5,c6,c7])) (fun w' hI' hF'=>?_) (fun v1 hv=>?_)
 ·refine ZT 44 (.tmp 4) (.tmp 22) rfl (b+1) 0 rfl (Xi #[U8 c0,U8 c1,U8 c2,U8 c3,U8 c4,U8 c5,U8 c6,U8 c7]) rfl [U8 c0,U8 c1,U8 c2,U8 c3,U8 c4,U8 c5,U8 c6,U8 c7] rfl (Z1.aA hF') (by simp[pgc,zq]) Kr (by simp[Value.oneCell']) ?_
  intro W9 bx9 gr9 _;have g9:zc w W9:=zd (G1.trans hF') gr9 (Hm HB.out);obtain⟨i1,i2,i3⟩:=(HI _).1 hI';exact⟨(HI _).2 ⟨i1.grown gr9 Wm,X7 _ g9,HCC _ g9⟩,trivial,g9,bx9.box⟩
 clear hv;try simp only[Yn]
 refine qV fun W9 hI8 hF8=>?_;have G9:Xo (zc w W9):=hF8.1;have B9:Xo (Box W9 (b+1) (pgc [c0,c1,c2,c3,c4,c5,c6,c7])):=hF8.2;clear hI8 hF8 hI0 hF0 hy0 hy1 hy2 hy3 hy4 hy5 hy6 hy7 hyf hyx hyp hys hne gd;go_wp2;refine bodyPost_ret (z8 rfl _ rfl B9 underlying44 rfl zsB) rfl ⟨rfl,by first | trivial | rfl,G9⟩
theorem zpA (n:ChW w0 k w V m) (p:Nat) (f:Fr) (ak:m.fs[p]? =Xa f) (fi ix:Nat) (F:Fl) (a1:f.f=(fi:Int)) (q:f.x=(ix:Int)) (ba:m.fl[fi]? =Xa F) (bg:0<=F.size/\F.size<=96) (hi:ix<=12):
  Xp prog 198 #[Xj (Xa ⟨k,0,Xb⟩),I6 (p:Int)] w fun e w'=>e= Xl (Xh (decide (zbf m.fl m.cnt fi ix=0)))/\zfk w0 k w V (wrM m (Z7 (pgL f.p) (ix:Int) F.size) fi ix) w':=by
 have am:=dD n;have g:Xo (∀W,zc w W->Xp prog 196 #[Xj (Xa ⟨k,0,Xb⟩),Xi (frv f).toArray] W fun e w'=>e= Xl (Xi (pgc (Z7 (pgL f.p) (ix:Int) F.size)).toArray)/\zc W w'):=show∀W,_ from fun W Z=>(zda (n.aA Z) f fi ix F a1 q ba bg hi).mono fun e w' al=>⟨al.1,al.2.2⟩;have s:(Z7 (pgL f.p) (ix:Int) F.size).length=8:=by unfold Z7;simp[pgL]
 obtain⟨a7,a5⟩:=kA (wrM m (Z7 (pgL f.p) (ix:Int) F.size) fi ix);obtain⟨a8,a6⟩:=kA (decide (zbf m.fl m.cnt fi ix=0));have h:Xo (∀W,zc w W->Xp prog 204 #[Xj (Xa ⟨k,0,Xb⟩),Xi (pgc (Z7 (pgL f.p) (ix:Int) F.size)).toArray,I6 (fi:Int),I6 (ix:Int)] W fun e w'=>e= Xl (Xh a8)/\zfk w0 k W V a7 w'):=dD<|fun W Z=>by
  rw[<-a5.out,<-a6.out];exact zeL (n.aA Z) _ s (fi:Int) (ix:Int)
 rw[a5.out,a6.out];have v:¬Dw k V w.heap.size:=fun e=>absurd (n.bK _ e) Wm;obtain⟨cb,-⟩:=n.at.ns;obtain⟨c8,bc,bd⟩:=n.at.bA p f ak;have Q:=dD bc;have R:=dD bd;have be:(p:Int)< (V.f.n:Int):=by
  have:=(gS.1 ak).1;omega
 obtain⟨a9,aa,ab,ac,ae,af,ag,ah,a0⟩:=zc4 _ s;rw[a0]at g h;obtain⟨⟨z,A,B,C,D,E,G,H⟩,L,M,K,c9,ca⟩:=f;dsimp only at a1 q;subst a1;subst q;simp only[pgc,frv,mP,Yp]at g h;have bw:=am.box.box.c 0 rfl;rw[Q.out]at bw;obtain⟨ap,aq,ar,au,av,aw,ax,ay,az,b8,S,T,U⟩:=R.out w (zc.refl _);dsimp only at ap aq ar au av aw ax ay az b8 S T U;go_enter func198,ntmps198;go_upto_region 2 with fail;obtain⟨c,P⟩:=kA w.heap.size;refine nW fun l j=>?_;have N:=gA j;have ao:=xPT j P;rw[P.out];rw[P.out]at v;have aj:zc l l.drew:=show Below _ _ _ from(bR _ _).drew;obtain⟨b,a⟩:=Ww fun u=>zt u c 53 [U8 z,U8 A,U8 B,U8 C,U8 D,U8 E,U8 G,U8 H,I6 L,Xh M,Xh K,I6 (fi:Int),I6 (ix:Int)];have r:=(a _).2 (ao.aA aj);have X:zc l l.drew:=aj;have bh:=fun y:zg b=>((a _).1 y.holds).box.c 0 rfl;have bi:=fun y:zg b=>((a _).1 y.holds).box.c 1 rfl;have bj:=fun y:zg b=>((a _).1 y.holds).box.c 2 rfl;have bk:=fun y:zg b=>((a _).1 y.holds).box.c 3 rfl;have bl:=fun y:zg b=>((a _).1 y.holds).box.c 4 rfl;have bm:=fun y:zg b=>((a _).1 y.holds).box.c 5 rfl;have bn:=fun y:zg b=>((a _).1 y.holds).box.c 6 rfl;have bo:=fun y:zg b=>((a _).1 y.holds).box.c 7 rfl;have br:=fun y:zg b=>((a _).1 y.holds).box.c 8 rfl;have bs:=fun y:zg b=>((a _).1 y.holds).box.c 9 rfl;have bp:=fun y:zg b=>((a _).1 y.holds).box.c 10 rfl;have bq:=fun y:zg b=>((a _).1 y.holds).box.c 11 rfl;have bt:=fun y:zg b=>((a _).1 y.holds).box.c 12 rfl;have bf:Nonempty (zg b):=⟨⟨_,r⟩⟩;refine zQ (I:=b) 9 [(3,fun a3=>a3= Xi #[U8 a9,U8 aa,U8 ab,U8 ac,U8 ae,U8 af,U8 ag,U8 ah]),(8,fun a3=>a3= Xh a8)] (fun u=>zc l u) r X z3 Kr rfl rfl Dc (Sb ⟨_,rfl⟩ ⟨_,rfl⟩) Kr ?_;simp only[Ob,Oc];iterate 3 refine zi ?_
 refine zH rfl rfl (fun _ u=>zc l u) (fun w' i d=>?_) (fun bv a2=>?_);·refine zN.call [Xj (Xa ⟨k,0,Xb⟩),Xi #[U8 z,U8 A,U8 B,U8 C,U8 D,U8 E,U8 G,U8 H,I6 L,Xh M,Xh K,I6 (fi:Int),I6 (ix:Int)]] rfl func196 rfl rfl rfl ?_;refine(g w' (N.trans d)).mono ?_;rintro e a4 ⟨rfl,ai⟩;exact⟨_,rfl,(a _).2 (((a _).1 i).aA ai),rfl,d.trans ai⟩
 subst a2;refine Uq ?_;iterate 4 refine zi ?_
 refine zH rfl rfl (fun _ u=>zfk w0 k w V a7 u) (fun w' i d=>?_) (fun bv a2=>?_);·refine zN.call [Xj (Xa ⟨k,0,Xb⟩),Xi #[U8 a9,U8 aa,U8 ab,U8 ac,U8 ae,U8 af,U8 ag,U8 ah],I6 (fi:Int),I6 (ix:Int)] rfl func204 rfl rfl rfl ?_;refine(h w' (N.trans d)).mono ?_;rintro e a4 ⟨rfl,t⟩;have b9:=zfk.aH (N.trans d) t;obtain⟨bx,_,_,bu,_⟩:=t;exact⟨_,rfl,(a _).2 (((a _).1 i).chg bu v),rfl,b9⟩
 subst a2;refine Uq ?_;refine qV fun bz bb Y=>?_;have an:=dD Y;go_wp2;go_ret;exact⟨rfl,an⟩
theorem zre (m:Ma) (pg) (file idx:Int):(wrM m pg file idx).fs=m.fs/\(wrM m pg file idx).aB=m.aB/\(wrM m pg file idx).ca=m.ca/\(wrM m pg file idx).sp=m.sp/\(wrM m pg file idx).sl=m.sl:=by grind [wrM]
theorem zmD (e x) (g:o.op= .load e x) (b c:Nat) (i:a.eval x= Xj (Xa ⟨b,c,Xb⟩)) (vs:List Xq) (f:w.rangeAt b c vs) {d:TypeDesc} (h:Tryz.prog.underlying e=Xa d) (hd:d.isRow=Xc) (hi:(Tryz.prog.info? e).map (·.size)=Xa vs.length):(execOp a.eval o).run prog w= .ok (.value (Xi vs.toArray)) w:=by have:=run_loadAt_mid (P:=prog) w b c e vs d f h hd hi;simp only[execOp,g,i,Ye,this,rA,Yg]
theorem zk4 (f x) (i:o.op= .load f x) (b c:Nat) (j:a.eval x= Xj (Xa ⟨b,c,Xb⟩)) (v) (h:w.cell? ⟨b,c,Xb⟩=Xa v) {d:TypeDesc} (g:Tryz.prog.underlying f=Xa d) (hd:d.isRow=Xd):(execOp a.eval o).run prog w= .ok (.value v) w:=by
 have e:(isAgg f).run prog w= .ok Xd w:=by
  unfold isAgg;rw[Ye,run_underlying g w];cases d <;> simp_all [TypeDesc.isRow]
 have g:(loadVar f ⟨b,c,Xb⟩).run prog w= .ok v w:=by simp[loadVar,Ye,e,h]
 simp only[execOp,i,j,Instr.loadAt,Instr.sureAddr,Ye,Yg,g,rA]
theorem zqp (h:k<8):JJ[k]? =Xa (eS):=by
 match k,h with
 | 0,_ | 1,_ | 2,_ | 3,_ | 4,_ | 5,_ | 6,_ | 7,_=>rfl
theorem zi7 (vs:List Xq) (t:List (List En)) (w) (C:JX w vs t):
  Xp prog 40 #[Xi vs.toArray,Xi #[eS,eS,eS,eS,eS,eS,eS,eS]] w fun e w'=>e= Xl (Xh (t.all (·.isEmpty)))/\zc w w':=by
 have T:=dD C;have z:=dD C.aJ;clear C;obtain⟨k,b⟩:=kA (t.all (·.isEmpty));rw[b.out];obtain⟨v,c⟩:=kB ((w.alloc (Xk vs.toArray 61)).alloc (Xk JJ.toArray 61));have m:=gD2 c;have M:=x2a c;have V:=x2b c;have A:=dD c;clear c;go_enter func40,ntmps40;go_upto_region 1 with fail;have R:(w.alloc (Xk vs.toArray 61)).alloc (Xk #[eS,eS,eS,eS,eS,eS,eS,eS] 61)=v:=A.out;rw[R];clear R;go_wp2;go_loopg [7] 8 (fun W I wr=>∃a:Nat,a<=8/\8 - a<=W/\I=I6 a/\Xo (zc v wr)/\Xo (∀(j:Nat) h,j<a->t[j]? =Xa h->h=[]))
 exact⟨0,nZ _,Wm,rfl,zc.refl _,fun j h r=>absurd r (nL _)⟩;obtain⟨a,X,a2,rfl,l,L⟩:=hrel;by_cases s:a<8
 ·have u:(a:Int)<8:=Wm
  obtain⟨a3,a4,S,P,i,Q⟩:=T.half s;have g:=Q.short;have K:=dD P;obtain⟨D,d⟩:=kA S.length;rw[d.out]at i g;have n:=dD i;clear Q P i;have G:=(M.aA l).c a n.out;have a0:=(V.aA l).c a (zqp s);by_cases p:D=0
  ·subst p;have B:Xo (∀(j:Nat) h,j<a+1->t[j]? =Xa h->h=[]):=dD<|fun j h r q=>by
    by_cases e:j=a;·subst e;rw[K.out]at q;cases q;exact eN d.out
    exact L j h Wm q
   go_wp2;go_quiet (fail);obtain⟨U,f⟩:=kB (wr.drewN nq);have H:Xo (zc v U):=dD (by rw[<-f];exact l.trans (show Below _ _ _ from bD (bR _ _) _));rw[f];clear f G a0;have G:=(M.aA H).c a n.out;go_wp2;go_loopg [23] 0 (fun a1 E F=>E=I6 0/\Xo (zc v F))
   exact⟨rfl,H⟩;obtain⟨rfl,x⟩:=hrel;clear G;go_wp2;go_roundg (8 -(a+1));exact⟨a+1,Wm,Wm,Gn,x,B⟩;omega
  have Y:((D:Int) != 0)=Xc:=by simp[p]
  have y:Xo (k=Xd):=dD<|by
   rw[<-b.out];cases e:t.all (·.isEmpty)with
   | false=>rfl
   | true=>
    have:=List.all_eq_true.1 e S (mG K);have N:=d.out;rw[List.isEmpty_iff]at this;rw[this]at N;exact absurd N.symm p
  have Z:(D != 0)=Xc:=by simp[p]
  clear p;go_wp2;go_quiet (fail);go_wp2;go_ret;exact⟨Rr y.out,m.trans (l.trans (show Below _ _ _ from bD (bR _ _) _))⟩
 have u:¬(a:Int)<8:=Wm;have y:Xo (k=Xc):=dD<|by
  rw[<-b.out,List.all_eq_true];intro h q;obtain⟨j,r⟩:=Xz q;rw[L.out j h (by have:=(gS.1 r).1;have:=z.out;omega) r];rfl
 go_wp2;go_ret;exact⟨Rr y.out,m.trans l⟩
theorem zd1 (a) (c:Nat) (fs:List Fr) (h:Int) (w) (E:zr qR w (O a fs.length c) fs):
  Xp prog 73 #[Xi #[O a fs.length c,I6 h]] w fun e w'=>e= Xl (I6 (ZW fs h))/\zc w w':=by
 have x:=E.short;obtain⟨a1,a3,D,l⟩:=E.bA;cases D;have S:=dD l;clear l E;have t:Xo (ZW fs h=if 40<fs.length then 4 else if zcO fs=0 then(if inB h (max fs.length 1)then 0 else 3)else zcO fs):=rfl;obtain⟨n,C⟩:=kA fs.length;rw[C.out]at x t⊢;obtain⟨T,k⟩:=kB (w.alloc (Xk #[O a n c,I6 h] 28));have f:=gA k;have K:=xA k;have u:=dD k;clear k;by_cases j:40<n
 ·have v:=kC j
  go_enter func73,ntmps73;go_wp2;go_ret;exact⟨by rw[t.out,kE j];rfl,Rx u.out f⟩
 have v:=kD j;rw[kF j]at t;go_enter func73,ntmps73;go_wp2;rw[u.out];go_loopg [4,5,13] n (fun Y _ _ F wr=>∃b:Nat,b<=n/\n - b<=Y/\F=I6 b/\Xo (zc T wr)/\Xo (zcO (fs.drop b)=zcO fs))
 exact⟨0,nZ _,Wm,rfl,zc.refl _,rfl⟩;obtain⟨b,I,ah,rfl,i,B⟩:=hrel;by_cases s:b<n
 ·have A:=kC s
  obtain⟨q,H⟩:∃q,Xo (fs[b]? =Xa q):=⟨_,gE (Rx C.out s)⟩;obtain⟨a2,rfl,N⟩:=S.out b q H.out;obtain⟨a4,a5,a6,a7,a8,a9,aa,ab,ac,ae,U,V,X⟩:=N wr (f.trans i);have g:∀W,Xp prog 116 #[Xi #[U8 q.p.b0,U8 q.p.b1,U8 q.p.b2,U8 q.p.b3,U8 q.p.b4,U8 q.p.b5,U8 q.p.b6,U8 q.p.b7,I6 q.r,Xh q.u,Xh q.d,I6 q.f,I6 q.x]] W fun e w'=>e= Xl (I6 (frW q))/\zc W w':=fun W=>zcB q W;have p:Xo (zcO (fs.drop b)=if frW q=0 then zcO (fs.drop (b+1))else frW q):=dD<|by
   obtain⟨z,rfl⟩:=gS.1 H.out;rw[Ys z];rfl
  clear N;generalize frW q=G at g p;by_cases m:G=0
  ·have Q:Xo (zcO (fs.drop (b+1))=zcO fs):=dD<|by rw[<-B.out,p.out,kE m]
   subst m;go_wp2_with (go_at_call 116;refine(g _).mono ?_;rintro e w' ⟨rfl,r⟩)
   go_roundg (n -(b+1));exact⟨b+1,Wm,Wm,Gn,(i.trans (za _ _)).trans r,Q⟩;omega
  have a0:(G != 0)=Xc:=Si m;have R:Xo (ZW fs h=G):=dD<|by
   have L:=B.out;rw[p.out,kF m]at L;rw[t.out,<-L,kF m]
  skip
  go_wp2_with (go_at_call 116;refine(g _).mono ?_;rintro e w' ⟨rfl,r⟩)
  go_ret;exact⟨Rr R.out,((f.trans i).trans (za _ _)).trans r⟩
 have A:=kD s;have:b=n:=Wm;subst this;obtain⟨af,ag⟩:=(K.aA i).k2;have m:zcO fs=0:=by rw[<-B.out,List.drop_of_length_le (by rw[C.out];exact nR _)];rfl
 have d:Xo (ZW fs h=if inB h (max b 1)then 0 else 3):=dD<|by rw[t.out,kE m]
 clear m;by_cases y:h=0
 ·subst y;rw[show inB 0 (max b 1)=Xc from by simp[inB];omega,kE rfl]at d;go_wp2;go_ret;exact⟨Rr d.out,f.trans i⟩
 have M:(h != 0)=Xc:=by simp[y]
 by_cases P:h<0
 ·rw[show inB h (max b 1)=Xd from by simp[inB];omega,kF Dc]at d
  go_wp2;go_ret;exact⟨Rr d.out,f.trans i⟩
 by_cases Z:(b:Int)<=h
 ·rw[show inB h (max b 1)=Xd from by simp[inB];omega,kF Dc]at d
  go_wp2;go_ret;exact⟨Rr d.out,f.trans i⟩
 rw[show inB h (max b 1)=Xc from by simp[inB];omega,kE rfl]at d;go_wp2;go_ret;exact⟨Rr d.out,f.trans i⟩
theorem zgi (a) (c:Nat) (s:List Int) (w) (B:zr slE w (O a s.length c) s):
  Xp prog 74 #[O a s.length c] w fun e w'=>e= Xl (I6 (slW s))/\zc w w':=by
 have m:Xo (slW s=if 60<s.length then 4 else if s.any zbL then 3 else 0):=rfl;have r:=B.short;obtain⟨P,R,A,h⟩:=B.sls;cases A;have F:=dD h;clear h B;obtain⟨n,x⟩:=kA s.length;rw[x.out]at m r⊢;by_cases f:60<n
 ·have p:=kC f
  have k:Xo (slW s=4):=dD<|by rw[m.out,kE f]
  skip
  go_enter func74,ntmps74;go_wp2;go_ret;exact⟨Rr k.out,zc.refl _⟩
 have p:=kD f;rw[kF f]at m;go_enter func74,ntmps74;go_wp2;go_loopg [4,10] n (fun G _ N wr=>∃b:Nat,b<=n/\n - b<=G/\N=I6 b/\Xo (zc w wr)/\Xo (∀j q,j<b->s[j]? =Xa q->zbL q=Xd))
 exact⟨0,nZ _,Wm,rfl,zc.refl w,fun j q t=>absurd t (nL _)⟩;obtain⟨b,L,T,rfl,l,C⟩:=hrel;by_cases i:b<n
 ·have u:=kC i
  obtain⟨q,y⟩:∃q,Xo (s[b]? =Xa q):=⟨_,gE (Rx x.out i)⟩;obtain⟨Q,rfl,D⟩:=F.out b q y.out;have S:=D wr l.out;clear D;by_cases g:zbL q=Xc
  ·have k:Xo (slW s=3):=dD<|by rw[m.out,zp2 y.out g];rfl
   skip
   by_cases H:q<0;·clear g;go_wp2;go_ret;exact⟨Rr k.out,l⟩
   have K:1000<q:=(by simp[zbL]at g;omega);clear g;go_wp2;go_ret;exact⟨Rr k.out,l⟩
  have v:zbL q=Xd:=Si g;have E:Xo (∀(j:Nat) q,j<b+1->s[j]? =Xa q->zbL q=Xd):=dD<|fun j M t d=>by
   by_cases e:j=b;·subst e;rw[y.out]at d;cases d;exact v
   exact C j M Wm d
  have H:¬q<0:=by intro z;exact g (by simp[zbL,z])
  have K:¬1000<q:=by intro z;exact g (by simp[zbL,z])
  clear g v;go_wp2;go_roundg (n -(b+1));exact⟨b+1,Wm,Wm,Gn,l,E⟩;omega
 have u:=kD i;have:b=n:=Wm;subst this;have k:Xo (slW s=0):=dD<|by
  rw[m.out,zp1 (fun j q t=>C.out j q (by rw[<-x.out];exact(gS.1 t).1) t)];rfl
 go_wp2;go_ret;exact⟨Rr k.out,l⟩
def bov (b:Bool):List Xq:=[Xh b]
theorem zsF:(Tryz.prog.info? 4).map (fun i=>(i.zero,i.size,i.bytes))=Xa (Xa (Xh Xd),1,1):=by kernel_rfl
def boE:Elt Bool where
 enc:=bov
 k:=1
 ty:=4
 st:=153
 bytes:=1
 zv:= Xh Xd
 zero:=false
 len:=fun _=>rfl
 one:=fun a u hu=>by
  simp only[bov,mC,nM,or_false]at hu;subst hu;rfl
 bI:=underlying153
 aD:=zsF
 zok:=rfl
 few:=by decide
 pos:=by decide
def zar (n:Nat) (g:List Int):List Bool:=(Yx n).map fun(i:Nat)=>g.contains (i:Int)
theorem zkj (g:List Int) (hi:b<k):(zar k g)[b]? =Xa (g.contains (b:Int)):=by unfold zar;rw[Yk,List.getElem?_range hi];rfl
theorem zhU (n:Nat) (g):(zar n g).length=n:=by simp[zar]
theorem zmZ (g) (hi:b<k):(zar k g).set b Xc=zar k ((b:Int) :: g):=by apply Ya;grind [sF,zhU,zkj,sN,Nat.lt_or_ge,gN]
theorem zm0 (n:Nat):zar n []=Xr n Xd:=by unfold zar;simp[List.map_const']
theorem zfP {l:List On} (y:On) (h:j<l.length):splice (zz l) (j*6) (onv y)=zz (l.set j y):=JG (enc:=onv) (k:=6) y rfl l j (fun _ _=>rfl) h
theorem Qs {l:List On} {e:On} (h:l[j]? =Xa e) (i:Nat) (u) (a:(onv e)[i]? =Xa u):(zz l)[j*6+i]? =Xa u:=jF (enc:=onv) (k:=6) l j e (fun _ _=>rfl) h i u a
theorem Zs (f:Nat->On):(zz (tab f)).length=384:=by rw[zl1,Jt]
theorem zfm {c:Oper} (d:c.guard=Xb) (p x) (i:c.op= .store 67 p x) (b k:Nat) (g:k<64) (hp:a.eval p= Xj (Xa ⟨b,k*6,Xb⟩)) (y:On) (j:a.eval x= Xi (onv y).toArray)
  {f:Nat->On} (e:Box w b (zz (tab f)))
  (h:∀w',Box w' b (zz (tab (upd f k y)))->w.grownBy w' (Xa b)->w'.heap.size=w.heap.size->wpList prog ops Q K (a.put c.dst undef) w'):wpList prog ops Q (c :: K) a w:=by refine ziU d 67 p x i b (k*6) hp (onv y) j e (by rw[Zs];show _+6<=_;omega) zss (zmN y) fun w' c d e=>h w' ?_ d e;rw[zfP y (Rx Jt g),zi2]at c;exact c
theorem Box.onCell (h:Box w b (zz (tab F))) (d:k<64) (i:Nat) (u) (y:On) (c:(onv (F k)).set i u=onv y) (hi:i<6):Box (w.setCell ⟨b,k*6+i,Xb⟩ u) b (zz (tab (upd F k y))):=by
 have a:=h.set (k*6+i) u;have:(zz (tab F)).set (k*6+i) u=zz (tab (upd F k y)):=by
  rw[<-zi2,<-zfP y (Rx Jt d),<-c];have c:=Zs F;apply Ya;intro j;unfold splice;have c:((onv (F k)).set i u).length=6:=by simp[onv]
  rw[c];by_cases a:j<k*6;·grind
  have a:((zz (tab F)).take (k*6)).length=k*6:=by simp;omega
  rw[aR Wm,a];by_cases a:j<k*6+6
  ·rw[Yt (by rw[c];omega)]
   have a:∀a,a<6->(zz (tab F))[k*6+a]? =(onv (F k))[a]?:=fun a c=>by
    obtain⟨v,e⟩:∃v,(onv (F k))[a]? =Xa v:=⟨_,gE (by simpa [onv]using c)⟩;rw[e];exact Qs (zaA d) a v e
   grind
  grind
 grind
theorem zih (a:vs.length=b) (h:∀(i:Nat) u,vs[i]? =Xa u->D[k+i]? =Xa u):D.toArray.extract k (k+b)=vs.toArray:=by apply Array.ext_getElem?;grind
theorem zge {f:Nat->On} (i:Nat) (hi:i<64):(Instr.index 68 (Xi (zz (tab f)).toArray) (I6 (i:Int))).run prog w= .ok (Xi (onv (f i)).toArray) w:=by
 have e:(isAgg 67).run prog w= .ok Xc w:=by
  unfold isAgg;rw[Ye,run_underlying underlying67 w];rfl
 have g:(Go.sizeOf 67).run prog w= .ok 6 w:=by
  obtain⟨a,c,d⟩:∃a,Tryz.prog.info? 67=Xa a/\a.size=6:=by
   have:=zss;cases b:Tryz.prog.info? 67 with
   | none=>rw[b]at this;cases this
   | some a=>rw[b]at this;exact⟨a,rfl,by simpa using this⟩
  simp[Go.sizeOf,typeInfo,c,d]
 have a:(0:Int)<=(i:Int)/\(i:Int)< ((64:Nat):Int):=Wm;have c:(zz (tab f)).toArray.extract (i*6) (i*6+6)=(onv (f i)).toArray:=zih rfl fun j u b=>Qs (zaA hi) j u b;simp only[Instr.index,asIntOf,Ye,Yg,rA,run_underlying underlying68];rw[kE a];simp only[Ye,g,rA,part,e,if_true,tN,Yg,c]
theorem zp7 (b:o.guard=Xb) (x ix) (d:o.op= .index 68 x ix) (f:Nat->On) (e:a.eval x= Xi (zz (tab f)).toArray) (i:Nat) (c:a.eval ix=I6 (i:Int)) (hi:i<64)
  (h:wpList prog ops Q K (a.put o.dst (Xi (onv (f i)).toArray)) w):wpList prog ops Q (o :: K) a w:=by refine wpList_plain b fun rest b=>?_;unfold Oper.wp execOp;simp only[d,e,c,Ye,Yg,rA,zge i hi];exact b _ _ h
theorem zdt (b:o.guard=Xb) (x ix) (d:o.op= .index 68 x ix) (f:Nat->On) (g:a.eval x= Xi (zz (tab f)).toArray) (i:Nat) (c:a.eval ix=I6 (i:Int)) (hi:i<64) (e: Xi (onv (f i)).toArray=A)
  (h:wpList prog ops Q K (a.put o.dst A) w):wpList prog ops Q (o :: K) a w:=zp7 b x ix d f g i c hi (Rx e h)
theorem zmn (c:o.guard=Xb) (x) (g:o.op= .load 67 x) (b k:Nat) (e:k<64) (i:a.eval x= Xj (Xa ⟨b,k*6,Xb⟩)) (d:Box w b (zz (tab F)))
  (h:wpList prog ops Q K (a.put o.dst (Xi (onv (F k)).toArray)) w):wpList prog ops Q (o :: K) a w:=
 wpList_load_mid c 67 x g b (k*6) i (onv (F k)) _ (d.mid _ fun j u c=>Qs (zaA e) j u c) underlying67 rfl zss h
theorem zfn (c:o.guard=Xb) (x) (g:o.op= .load 67 x) (b k:Nat) (e:k<64) (j:a.eval x= Xj (Xa ⟨b,k*6,Xb⟩)) (d:Box w b (zz (tab F))) (i: Xi (onv (F k)).toArray=A)
  (h:wpList prog ops Q K (a.put o.dst A) w):wpList prog ops Q (o :: K) a w:=zmn c x g b k e j d (Rx i h)
theorem zrP:(Tryz.prog.info? 68).map (·.zero)=Xa (Xa (Xi (zz (tab fun _=>on0)).toArray)):=by kernel_rfl
theorem zbW (w):(zeroValue 68).run prog w= .ok (Xi (zz (tab fun _=>on0)).toArray) w:=by
 have h:=zrP;cases a:Tryz.prog.info? 68 with
 | none=>simp[a]at h
 | some i=>
  simp[a]at h;simp[zeroValue,typeInfo,a,h]
def zrr (f:Nat->On):Nat->Ar:=fun n=>zbl n (f n)
def zlg (l:List Ar) (i:Nat) (a:Ar) (n:Nat):Nat->On:=fun j=>if a.fr<=(j:Int)/\(j:Int)< (n:Int)then z5 a j else zl (l.take i) j
theorem QQ.take:∀{l:List Ar} {p:Option Ar},QQ p l->∀i,QQ p (l.take i)
 | [],_,_,i=>by simp[QQ]
 | a :: l,p,h,0=>by simp[QQ]
 | a :: l,p,h,i+1=>⟨h.1,h.2.1,h.2.2.take i⟩
theorem QQ.free (h:QQ Xb l) (d:l[k]? =Xa R) (b:R.fr<=(j:Int)):zl (l.take k) j=on0:=by
 refine zb4 fun x c=>zeV ?_;have b:=h.take (k+1);rw[Zj d]at b;obtain⟨d,e,f⟩:=zaU.1 b;cases b:zaK Xb (l.take k)with
 | none=>
  unfold zaK at b;cases e:l.take k with
  | nil=>rw[e]at c;cases c
  | cons y g=>rw[e]at b;simp[List.getLast?_cons]at b
 | some y=>
  have q:=(f y b).1;have e:jU y:=d.all y (by grind [zaK,List.mem_of_getLast?]);unfold jU at e;rcases zgu _ Xb d x c y b with e|e;·grind
  omega
theorem zmX (n:(b:Int)=R.fr):zlg l k R b=zl (l.take k):=by funext j;unfold zlg;rw[kF Wm]
def zrc (l:List Ar):Prop:=(∀a∈l,jU a)/\∀(i:Nat) a,l[i]? =Xa a->∀j:Nat,a.fr<=(j:Int)->zl (l.take i) j=on0
theorem QQ.cA (h:QQ Xb l):zrc l:=⟨h.all,fun _ _ a _ b=>h.free a b⟩
theorem zo4 {a:Ar} (d:jU R) (c:jU a) (e:R.tz<=a.fr):zrc [R,a]:=by
 refine⟨fun x c=>?_,fun i x c j c=>?_⟩;·grind
 grind [zl,on0,zb3]
theorem zo5 (b:jU R):zrc [R]:=by
 refine⟨fun x b=>?_,fun i x b j c=>?_⟩;·grind
 match i with
 | 0=>rfl
 | k+1=>simp at b
theorem zmY {i:Nat} {a:Ar} {n:Nat} (b:a.fr<=(n:Int)):upd (zlg l i a n) n (z5 a n)=zlg l i a (n+1):=by grind [upd,zlg]
theorem zoY (h:zrc l) (c:l[k]? =Xa R) (n:(b:Int)=R.tz):zlg l k R b=zl (l.take (k+1)):=by
 funext j;unfold zlg;rw[Zj c,zaI]
 ·by_cases n:R.fr<=(j:Int)/\(j:Int)< (b:Int)
  ·rw[kE n,kE (jC.2 Wm)]
  rw[kF n,kF (fun d=>n (Hm (jC.1 d)))]
 by_cases n:R.fr<=(j:Int);·exact .inl (h.2 k R c j n)
 grind [zeV]
theorem zqa (f:Nat->α) (k:Nat) (x y:α):upd (upd f k x) k y=upd f k y:=by grind [upd]
theorem Ze (v l w) (f:zr arE w v l) (c:zrc l):
  Xp prog 16 #[v] w fun e w'=>e= Xl (Xi (zz (tab (zl l))).toArray)/\zc w w':=by
 have d:=f.short;obtain⟨b,b,rfl,b⟩:=f.aC;have h:=dD b;have u:=dD c;clear b f c;have g:=zbW;obtain⟨j,c⟩:=kA (zz (tab fun _=>on0));rw[c.out]at g;have y:Xo (j.length=384):=dD<|by rw[<-c.out,Zs]
 obtain⟨E,G⟩:=kA (zz (tab (zl l)));rw[G.out];obtain⟨r,N⟩:=kA l.length;rw[N.out]at d⊢;obtain⟨f,b⟩:=kB ((w.alloc (Xk j.toArray 68)).alloc (Xk j.toArray 68));have d:=gD2 b;have m:Xo (Box f w.heap.size j):=dD<|by rw[<-b];exact(Box.aE _ _ _ Sm).alloc _
 have k:Xo (Box f (w.heap.size+1) (zz (tab (zl (l.take 0))))):=dD<|by rw[<-b,List.take_zero,show zl ([]:List Ar)=fun _=>on0 from rfl,c.out];exact Box.aE _ _ _ Sm
 have c:=dD b;clear b;go_enter func16,ntmps16;go_upto_region 2 with fail;rw[c.out];clear g;go_wp2;go_loopg [9] r (fun b f wr=>∃c:Nat,c<=r/\r - c<=b/\f=I6 c/\Xo (zc w wr)/\Xo (Box wr w.heap.size j)/\Xo (Box wr (w.heap.size+1) (zz (tab (zl (l.take c))))))
 exact⟨0,nZ _,Wm,rfl,d,m,k⟩;obtain⟨c,b,K,rfl,M,W,R⟩:=hrel;by_cases p:c<r
 ·have D:=kC p
  obtain⟨q,P⟩:∃q,Xo (l[c]? =Xa q):=⟨_,gE (Rx N.out p)⟩;obtain⟨b,rfl,f⟩:=h.out c q P.out;obtain⟨x,z,A,B,C,F,H⟩:=f wr M.out;have b:=dD<|u.1 q (mG P);have d:0<=q.fr/\q.fr<q.tz/\q.tz<=64/\0<=q.base/\q.base<=12:=by
   have:=b.out;unfold jU at this;rcases Int.lt_or_le q.file 0 with h|h;·omega
   omega
  obtain⟨b,b,b,b,b⟩:=d;obtain⟨L,d⟩:=kA wr.heap.size;have t:Xo (w.heap.size+1<L):=dD<|Ry d.out R.lt;clear f;go_upto_region 5 with fail;obtain⟨h,b⟩:=kB (wr.alloc (Xk #[I6 q.fr,I6 q.tz,Xh q.rd,Xh q.wr,Xh q.sh,I6 q.file,I6 q.base] 77));have k:=gT b M;have s:=yA b W;obtain⟨f,g⟩:∃f:Nat,(f:Int)=q.fr:=⟨q.fr.toNat,Wm⟩;have m:Xo (Box h (w.heap.size+1) (zz (tab (zlg l c q f)))):=dD (by rw[<-b,zmX g];exact R.alloc _);have h:=xP b d;rw[b,d.out];clear b x z A B C F H;have S:=h.c 0 rfl;go_wp2;go_loopg [6] (q.tz.toNat - f) (fun x z d=>∃b:Nat,f<=b/\(b:Int)<=q.tz/\q.tz.toNat - b<=x/\z=I6 b/\Xo (zc w d)/\Xo (Box d w.heap.size j)/\Xo (Box d (w.heap.size+1) (zz (tab (zlg l c q b))))/\Xo (Box d L [I6 q.fr,I6 q.tz,Xh q.rd,Xh q.wr,Xh q.sh,I6 q.file,I6 q.base]))
  exact⟨f,nR _,Wm,Wm,by rw[g],k,s,m,h⟩;obtain⟨b,d,d,d,rfl,s,B,z,d⟩:=hrel;clear S;have Q:=d.c 1 rfl;by_cases f:(b:Int)<q.tz
  ·have h:b<64:=Wm
   have f:(b:Int)<64:=Wm;have x:Xo (upd (zlg l c q b) b (z5 q b)=zlg l c q (b+1)):=zmY (l:=l) (i:=c) (a:=q) (n:=b) Wm;obtain⟨_,_,f,X,Y,T⟩:=d.k6;go_wp2_with (refine zfm rfl (.tmp 31) (.tmp 30) rfl (w.heap.size+1) b h rfl ⟨Xc,q.rd,q.wr,q.sh,q.file,0⟩ rfl z.out ?_)
   intro k C m U;have H:=dD C;have F:Xo (zc w k):=zd s m Sm;have V:Xo (Box k w.heap.size j):=B.beside m (by intro g K;cases K;simp);have A:Xo (Box k L [I6 q.fr,I6 q.tz,Xh q.rd,Xh q.wr,Xh q.sh,I6 q.file,I6 q.base]):=d.beside m (by intro g K;cases K;have:=t.out;omega);clear C m U Q f X Y T;have T:=A.c 5 rfl;by_cases g:0<=q.file
   ·have f:Xo (z5 q b=⟨Xc,q.rd,q.wr,q.sh,q.file,q.base+(b:Int) - q.fr⟩):=dD<|by
     unfold z5;rw[kE g];congr 1;omega
    have S:=A.c 0 rfl;have I:=A.c 6 rfl;have Y:=H.c (b*6+5) (Qs (zaA h) 5 (I6 0) (by unfold upd;rw[kE rfl];rfl));have Z:=H.f;go_upto_region 7 with fail;obtain⟨K,d⟩:=kB (k.setCell ⟨w.heap.size+1,b*6+5,Xb⟩ (I6 (q.base+(b:Int) - q.fr)));have Q:Xo (Box K (w.heap.size+1) (zz (tab (zlg l c q (b+1))))):=dD<|by
     rw[<-d];have:=H.onCell h 5 (I6 (q.base+(b:Int) - q.fr)) (z5 q b) (by rw[f.out];unfold upd;rw[kE rfl];rfl) Wm;rw[zqa,x.out]at this;exact this
    have h:Xo (zc w K):=dD (by rw[<-d];exact zB F Sm _);have X:Xo (Box K w.heap.size j):=dD (by rw[<-d];exact V.other Sm _);have j:Xo (Box K L [I6 q.fr,I6 q.tz,Xh q.rd,Xh q.wr,Xh q.sh,I6 q.file,I6 q.base]):=dD (by rw[<-d];exact A.other (by have:=t.out;simp;omega) _);rw[d];clear d Y Z S T I;go_wp2;go_roundg (q.tz.toNat -(b+1));exact⟨b+1,Wm,Wm,Wm,Gn,h,X,Q,j⟩;omega
   have f:Xo (z5 q b=⟨Xc,q.rd,q.wr,q.sh,q.file,0⟩):=dD<|by
    unfold z5;rw[kF g]
   have Q:Xo (Box k (w.heap.size+1) (zz (tab (zlg l c q (b+1))))):=dD (by rw[<-x.out,f.out];exact H.out);go_wp2;go_roundg (q.tz.toNat -(b+1));exact⟨b+1,Wm,Wm,Wm,Gn,F,V,Q,A⟩;omega
  have f:(b:Int)=q.tz:=Wm;have d:Xo (Box wr (w.heap.size+1) (zz (tab (zl (l.take (c+1)))))):=dD (by rw[<-zoY u.out P.out f];exact z.out);go_wp2;go_roundg (r -(c+1));exact⟨c+1,Wm,Wm,Gn,s,B,d⟩;omega
 have D:=kD p;have:c=r:=Wm;subst this;have d:Xo (Box wr (w.heap.size+1) E):=dD<|by rw[<-G.out];have:=R.out;rw[<-N.out,List.take_length]at this;exact this
 have b:Xo (E.length=384):=dD<|by rw[<-G.out,Zs]
 have c:Xo (∀v∈E,v.oneCell'=Xc):=dD<|by rw[<-G.out];exact JT _
 go_wp2_with (first | refine zD rfl 68 (.tmp 3) rfl (w.heap.size+1) rfl d underlying68 rfl (Rx b.out zst) ?_ | refine zp rfl 68 (.tmp 2) (.tmp 46) rfl w.heap.size rfl E rfl W (by rw[b.out,y.out]) (Rx y.out zst) c.out ?_)
 intro k C m U;have F:Xo (zc w k):=dD<|zd M m Sm;have c:=dD C;clear C m U;go_wp2;refine bodyPost_ret (z8 rfl _ rfl c underlying68 rfl (Rx b.out zst)) rfl ⟨rfl,F⟩
theorem zoN (h:(F k).is=Xc):zrr F k=⟨k,(k:Int)+1,(F k).rd,(F k).wr,(F k).sh,(F k).file,(F k).page⟩:=by unfold zrr zbl;rw[kE h]
theorem zrB (x y:On):zoR ⟨y.is,y.rd,y.wr,y.sh,y.file,if 0<=x.file then y.page+1 else y.page⟩ x=goJ x y:=by grind [zoR,goJ]
theorem zc1 (f:Nat->On) (w:Xn) (I:zj0 f):
  Xp prog 117 #[Xi (zz (tab f)).toArray] w fun e w'=>(∃v,e= Xl v/\zb arE (w.heap.size+1) w' v (Q7 f))/\zc w w':=by
 have K:=dD I;clear I;have be:Xo ((zz (tab f)).length=384):=Zs _;obtain⟨Z,U⟩:=kB (w.alloc (Xk (zz (tab f)).toArray 68));have bf:=gA U;have b3:=xA U;have r:=sA U;have bj:Xo (_=Z):=U;clear U;go_enter func117,ntmps117;go_upto_region 1 with fail;rw[bj.out];go_wp2_with (refine zD rfl 68 (.tmp 1) rfl w.heap.size rfl b3 underlying68 rfl (Rx be.out zst) ?_)
 go_loopg [3,9] 64 (fun cb ci cj wr=>∃(b:Nat) (a:List Ar) (a4:Option Addr) (C:Nat),b<=64/\64 - b<=cb/\cj=I6 b/\ci= O a4 a.length C/\Xo (zc Z wr)/\Xo (zb arE (w.heap.size+1) wr (O a4 a.length C) a)/\Xo (J f b a))
 exact⟨0,[],Xb,0,nZ _,Wm,rfl,rfl,zc.refl _,zb.nil _ _ _,J.zero f⟩;obtain⟨b,a,a4,C,cf,cc,rfl,rfl,ar,bp,aj⟩:=hrel;by_cases X:b<64
 ·have b5:(b:Int)<64:=Wm
  have q:=dD aj.len;have ca:=dD (b3.aA ar);obtain⟨ab,bg⟩:=kA wr.heap.size;have bh:Xo (wr.heap.size<=ab):=show _<=_ by rw[bg.out];exact nR _
  cases ak:(f b).is with
  | false=>
   have a1:Xo (Value.agg (onv (f b)).toArray= Xi #[Xh Xd,Xh (f b).rd,Xh (f b).wr,Xh (f b).sh,I6 (f b).file,I6 (f b).page]):=dD (by rw[<-ak];rfl);have Q:=dD<|aj.skip ((K b X).1 ak);clear ak;go_wp2_with (refine zdt rfl (.tmp 8) (.tmp 9) rfl f rfl b rfl X a1.out ?_)
   go_roundg (64 -(b+1));exact⟨b+1,a,a4,C,Wm,Wm,Gn,rfl,ar.trans (za _ _),bp.aA (za _ _),Q⟩;omega
  | true=>
   have az:=dD ak;have ah:Xo (zbl b (f b)=⟨b,(b:Int)+1,(f b).rd,(f b).wr,(f b).sh,(f b).file,(f b).page⟩):=zoN ak;have N:Xo ((∀c,a.getLast? =Xa c->goB (zbl b (f b)) c=Xd)->J f (b+1) (a++ [zbl b (f b)])):=fun a3=>aj.new K X az a3;have a7:Xo (∀c0 c,a=c0++ [c]->goB (zbl b (f b)) c=Xc->J f (b+1) (c0++ [{ c with tz:=(b:Int)+1 }])):=fun c0 c T ap=>by
    have:=aj.out;rw[T]at this;exact this.ext K X az ap
   have a1:Xo (Value.agg (onv (f b)).toArray= Xi #[Xh Xc,Xh (f b).rd,Xh (f b).wr,Xh (f b).sh,I6 (f b).file,I6 (f b).page]):=dD (by rw[<-ak];rfl);clear ak;obtain⟨x,H⟩:=kA (f b);rw[H.out]at a1;have av:Xo (Value.agg (onv (f b)).toArray= Xi #[Xh Xc,Xh x.rd,Xh x.wr,Xh x.sh,I6 x.file,I6 x.page]):=dD<|Rx H.out a1.out;go_upto_region 5 with(refine zdt rfl (.tmp 8) (.tmp 9) rfl f rfl b rfl X av.out ?_)
   obtain⟨b1,F⟩:=kB (wr.alloc (Xk #[Xh Xc,Xh x.rd,Xh x.wr,Xh x.sh,I6 x.file,I6 x.page] 67));have bc:=gT F ar;have bm:Xo (zb arE (w.heap.size+1) b1 (O a4 a.length C) a):=dD (by rw[<-F];exact bp.aA (za _ _));have a8:=xP F bg;have c9:=yA F ca;rw[F,bg.out];clear F;have c4:=a8.c 0 rfl;cases b with
   | zero=>
    have aw:=dD aj.first;have Q:Xo (J f (0+1) (a++ [⟨((0:Nat):Int),((0:Nat):Int)+1,x.rd,x.wr,x.sh,x.file,x.page⟩])):=show J _ _ _ by
     have:=N.out (fun c aq=>by rw[aw.out]at aq;cases aq);rw[ah.out,H.out]at this;exact this
    go_upto_region 14 with fail;clear c4;have g:Xo (w.heap.size+1<=b1.heap.size):=dD (by rw[<-r.out];exact bS bc.out);obtain⟨_,b8,b9,ba,ac,bb⟩:=a8.k6;go_wp2_with (at_builtin;refine zy (E:=arE) rfl (.tmp 41) (.tmp 56) rfl (w.heap.size+1) _ a rfl (bm.aA (za _ _)) _ [⟨((0:Nat):Int),((0:Nat):Int)+1,x.rd,x.wr,x.sh,x.file,x.page⟩] rfl (Zw arE b1 ⟨((0:Nat):Int),((0:Nat):Int)+1,x.rd,x.wr,x.sh,x.file,x.page⟩ _ _ rfl (by show 40<=_;omega)) ?qb ?qc ?_)
    case qb=>
     show(a.length+1)*40<=_;have:=q.out;omega
    case qc=>first | exact g.out | exact nT g (Oa _) | (have:=g.out;omega) | (simp;have:=g.out;omega)
    intro c5 a9 own s;obtain⟨u,z,rfl⟩:=own.form;have R:Xo (zb arE (w.heap.size+1) a9 (.slice u (a++ [(⟨((0:Nat):Int),((0:Nat):Int)+1,x.rd,x.wr,x.sh,x.file,x.page⟩:Ar)]).length z) (a++ [⟨((0:Nat):Int),((0:Nat):Int)+1,x.rd,x.wr,x.sh,x.file,x.page⟩])):=own;have a6:Xo (zc Z a9):=show zc _ _ from z2 (bc.trans (za _ _)) s (fun n I=>by
     have T:=(bm.lt n I).1;rw[r.out];exact T)
    have c3:=dD (b3.aA a6);clear own s b8 b9 ba ac bb;go_wp2;go_roundg (64 -(0+1));exact⟨0+1,a++ [(⟨((0:Nat):Int),((0:Nat):Int)+1,x.rd,x.wr,x.sh,x.file,x.page⟩:Ar)],u,z,Wm,Wm,Gn,rfl,a6,R,Q⟩;omega
   | succ j=>
    have aa:j<64:=Wm;have bt:(j:Int)<64:=Wm;have ce:(0:Int)< ((j+1:Nat):Int):=Wm;have cd:((j+1:Nat):Int) - 1=(j:Int):=Wm;have au:=aj.go az.out;obtain⟨y,bk⟩:=kA (f j);have bz:0<=y.page/\y.page<=12:=by
     rw[<-bk.out];have T:=K.out j aa;cases bx:(f j).is with
     | false=>rw[T.1 bx];exact⟨Dc,Dc⟩
     | true=>
      have ap:=T.2 bx;unfold jU zbl at ap;rw[kE bx]at ap;simp only at ap;rcases Int.lt_or_le (f j).file 0 with a3|a3;·omega
      omega
    obtain⟨cg,ch⟩:=bz;have bl:Xo (Value.agg (onv (f j)).toArray= Xi #[Xh y.is,Xh y.rd,Xh y.wr,Xh y.sh,I6 y.file,I6 y.page]):=dD<|Rr bk.out;have a0:=zrB x y;rw[H.out,bk.out]at au;have l:Xo _:=au;obtain⟨ad,ag⟩:=kA b1.heap.size;have ax:Xo (ab<ad):=dD<|Ry ag.out a8.lt;go_upto_region 9 with(refine zfn rfl (.tmp 20) rfl w.heap.size j aa rfl c9 bl.out ?_)
    clear c4;obtain⟨an,G⟩:=kB (b1.alloc (Xk #[Xh y.is,Xh y.rd,Xh y.wr,Xh y.sh,I6 y.file,I6 y.page] 67));have c2:=gT G bc;have bn:Xo (zb arE (w.heap.size+1) an (O a4 a.length C) a):=dD (by rw[<-G];exact bm.aA (za _ _));have bq:=yA G a8;have b4:=xPT G ag;rw[G,ag.out];clear G;have ac:=bq.c 4 rfl;by_cases V:0<=x.file
    ·rw[kE V]at a0;have ay:=fun bs=>zrs y.is Xc y.rd x.rd y.wr x.wr y.sh x.sh y.file x.file (y.page+1) x.page bs;have ai:Xo ((⟨Xc,x.rd,x.wr,x.sh,x.file,x.page⟩:On)=x):=dD<|by
      have a3:=az.out;rw[H.out]at a3;rw[<-a3]
     rw[ai.out,a0]at ay;obtain⟨br,bi⟩:=kA (goJ x y);rw[bi.out]at ay l;have cl:=b4.box.c 5 rfl;have cm:=b4.box.f;go_upto_region 11 with fail;obtain⟨a2,p⟩:=kB (an.setCell ⟨ad,5,Xb⟩ (I6 (y.page+1)));have b0:Xo (Z.heap.size<=ad):=dD (by have T:=ax.out;have ap:=bS ar.out;have cn:=bh.out;omega);have a5:Xo (zc Z a2):=dD (by rw[<-p];exact zB c2 b0.out _);have D:Xo (zb arE (w.heap.size+1) a2 (O a4 a.length C) a):=dD (by rw[<-p];exact bn.aN (fun n I=>bn.ne b4 Dc n I) _);have A:Xo (Box a2 ab [Xh Xc,Xh x.rd,Xh x.wr,Xh x.sh,I6 x.file,I6 x.page]):=dD (by rw[<-p];exact bq.other (by have:=ax.out;simp;omega) _);have ao:Xo (Box a2 ad [Xh y.is,Xh y.rd,Xh y.wr,Xh y.sh,I6 y.file,I6 (y.page+1)]):=dD (by rw[<-p];exact b4.box.set 5 _);rw[p];clear p cl cm ac;cases br with
     | true=>
      obtain⟨c,k,W⟩:=l.1 rfl;have h:=zi6 k;obtain⟨d,t⟩:=kB a.dropLast;rw[t]at h;have i:=dD h;have Q:Xo (J f (j+1+1) (d++ [{ c with tz:=((j+1:Nat):Int)+1 }])):=a7.out d c h (Rx H.out W);obtain⟨m,M⟩:=kA d.length;have B:Xo (a.length=m+1):=dD (by rw[i.out,<-M.out];simp);have af:Xo (a[m]? =Xa c):=dD (by rw[i.out,<-M.out];simp);obtain⟨n,c1,al⟩:=D.aG (by rw[B.out];omega);cases al;have bw:((m+1:Nat):Int) - 1=(m:Int):=Wm;have bu:(0:Int)<=(m:Int):=Wm;have b6:(m:Int)< ((m+1:Nat):Int):=Wm;have bv:m+1<=64:=(by have:=q.out;rw[B.out]at this;omega);clear k W h t;rw[B.out]at D⊢;have P:Xo (a.set m { c with tz:=((j+1:Nat):Int)+1 }=d++ [{ c with tz:=((j+1:Nat):Int)+1 }]):=dD (by rw[i.out,Yy _ _ (by rw[M.out];exact nR _),M,Nat.sub_self];rfl);go_wp2_with (first | refine zD rfl 67 (.tmp 7) rfl ad rfl ao underlying67 rfl zss ?_ | refine zD rfl 67 (.tmp 5) rfl ab rfl A underlying67 rfl zss ?_ | refine zx (E:=arE) rfl (.tmp 40) (.tmp 38) 3 rfl (w.heap.size+1) (O (Xa ⟨n,0,Xb⟩) (m+1) C) a D n m 1 rfl c { c with tz:=((j+1:Nat):Int)+1 } af.out [I6 (((j+1:Nat):Int)+1)] Kr rfl (Yd rfl) (by intro ck b7;simp at b7;subst b7;rfl) _ rfl (by simp;rfl) _ rfl rfl ?_)
      intro b2 Y S am;have ae:=D.lt n rfl;have bd:Xo (zc Z b2):=dD<|zd a5 S (Rx r.out ae.1);have L:Xo ((d++ [({ c with tz:=((j+1:Nat):Int)+1 }:Ar)]).length=m+1):=dD (by simp[M.out]);have bo:Xo (zb arE (w.heap.size+1) b2 (.slice (Xa ⟨n,0,Xb⟩) (d++ [({ c with tz:=((j+1:Nat):Int)+1 }:Ar)]).length C) (d++ [{ c with tz:=((j+1:Nat):Int)+1 }])):=dD (by rw[L.out,<-P.out];exact Y);clear Y S am;rw[<-L.out];go_wp2;go_roundg (64 -(j+1+1));exact⟨j+1+1,d++ [({ c with tz:=((j+1:Nat):Int)+1 }:Ar)],Xa ⟨n,0,Xb⟩,C,Wm,Wm,Gn,rfl,bd,bo,Q⟩;omega
     | false=>
      have Q:Xo (J f (j+1+1) (a++ [⟨((j+1:Nat)),(((j+1:Nat)):Int)+1,x.rd,x.wr,x.sh,x.file,x.page⟩])):=dD<|by
       have:=N.out (fun c aq=>Rx H.out (l.2 rfl c aq));rw[ah.out,H.out]at this;exact this
      go_upto_region 14 with(first | refine zD rfl 67 (.tmp 7) rfl ad rfl ao underlying67 rfl zss ?_ | refine zD rfl 67 (.tmp 5) rfl ab rfl A underlying67 rfl zss ?_)
      have g:Xo (w.heap.size+1<=a2.heap.size):=dD (by rw[<-r.out];exact bS a5.out);obtain⟨_,b8,b9,ba,ac,bb⟩:=A.k6;go_wp2_with (at_builtin;refine zy (E:=arE) rfl (.tmp 41) (.tmp 56) rfl (w.heap.size+1) _ a rfl (D.aA (za _ _)) _ [⟨((j+1:Nat):Int),((j+1:Nat):Int)+1,x.rd,x.wr,x.sh,x.file,x.page⟩] rfl (Zw arE a2 ⟨((j+1:Nat):Int),((j+1:Nat):Int)+1,x.rd,x.wr,x.sh,x.file,x.page⟩ _ _ rfl (by show 40<=_;omega)) ?qb ?qc ?_)
      case qb=>
       show(a.length+1)*40<=_;have:=q.out;omega
      case qc=>first | exact g.out | exact nT g (Oa _) | (have:=g.out;omega) | (simp;have:=g.out;omega)
      intro c5 a9 own s;obtain⟨u,z,rfl⟩:=own.form;have R:Xo (zb arE (w.heap.size+1) a9 (.slice u (a++ [(⟨((j+1:Nat):Int),((j+1:Nat):Int)+1,x.rd,x.wr,x.sh,x.file,x.page⟩:Ar)]).length z) (a++ [⟨((j+1:Nat):Int),((j+1:Nat):Int)+1,x.rd,x.wr,x.sh,x.file,x.page⟩])):=own;have a6:Xo (zc Z a9):=show zc _ _ from z2 (a5.trans (za _ _)) s (fun n I=>by
       have T:=(D.lt n I).1;rw[r.out];exact T)
      have c3:=dD (b3.aA a6);clear own s b8 b9 ba ac bb;go_wp2;go_roundg (64 -((j+1)+1));exact⟨(j+1)+1,a++ [(⟨((j+1:Nat):Int),((j+1:Nat):Int)+1,x.rd,x.wr,x.sh,x.file,x.page⟩:Ar)],u,z,Wm,Wm,Gn,rfl,a6,R,Q⟩;omega
    rw[kF V]at a0;have ay:=fun bs=>zrs y.is Xc y.rd x.rd y.wr x.wr y.sh x.sh y.file x.file y.page x.page bs;have ai:Xo ((⟨Xc,x.rd,x.wr,x.sh,x.file,x.page⟩:On)=x):=dD<|by
     have a3:=az.out;rw[H.out]at a3;rw[<-a3]
    rw[ai.out,a0]at ay;obtain⟨br,bi⟩:=kA (goJ x y);rw[bi.out]at ay l;go_upto_region 11 with fail;clear ac;have a5:Xo (zc Z an):=c2;have D:Xo (zb arE (w.heap.size+1) an (O a4 a.length C) a):=bn;have A:Xo (Box an ab [Xh Xc,Xh x.rd,Xh x.wr,Xh x.sh,I6 x.file,I6 x.page]):=bq;have ao:=dD b4.box;obtain⟨a2,p⟩:=kB an;rw[p]at a5 D A ao⊢;clear p;cases br with
    | true=>
     obtain⟨c,k,W⟩:=l.1 rfl;have h:=zi6 k;obtain⟨d,t⟩:=kB a.dropLast;rw[t]at h;have i:=dD h;have Q:Xo (J f (j+1+1) (d++ [{ c with tz:=((j+1:Nat):Int)+1 }])):=a7.out d c h (Rx H.out W);obtain⟨m,M⟩:=kA d.length;have B:Xo (a.length=m+1):=dD (by rw[i.out,<-M.out];simp);have af:Xo (a[m]? =Xa c):=dD (by rw[i.out,<-M.out];simp);obtain⟨n,c1,al⟩:=D.aG (by rw[B.out];omega);cases al;have bw:((m+1:Nat):Int) - 1=(m:Int):=Wm;have bu:(0:Int)<=(m:Int):=Wm;have b6:(m:Int)< ((m+1:Nat):Int):=Wm;have bv:m+1<=64:=(by have:=q.out;rw[B.out]at this;omega);clear k W h t;rw[B.out]at D⊢;have P:Xo (a.set m { c with tz:=((j+1:Nat):Int)+1 }=d++ [{ c with tz:=((j+1:Nat):Int)+1 }]):=dD (by rw[i.out,Yy _ _ (by rw[M.out];exact nR _),M,Nat.sub_self];rfl);go_wp2_with (first | refine zD rfl 67 (.tmp 7) rfl ad rfl ao underlying67 rfl zss ?_ | refine zD rfl 67 (.tmp 5) rfl ab rfl A underlying67 rfl zss ?_ | refine zx (E:=arE) rfl (.tmp 40) (.tmp 38) 3 rfl (w.heap.size+1) (O (Xa ⟨n,0,Xb⟩) (m+1) C) a D n m 1 rfl c { c with tz:=((j+1:Nat):Int)+1 } af.out [I6 (((j+1:Nat):Int)+1)] Kr rfl (Yd rfl) (by intro ck b7;simp at b7;subst b7;rfl) _ rfl (by simp;rfl) _ rfl rfl ?_)
     intro b2 Y S am;have ae:=D.lt n rfl;have bd:Xo (zc Z b2):=dD<|zd a5 S (Rx r.out ae.1);have L:Xo ((d++ [({ c with tz:=((j+1:Nat):Int)+1 }:Ar)]).length=m+1):=dD (by simp[M.out]);have bo:Xo (zb arE (w.heap.size+1) b2 (.slice (Xa ⟨n,0,Xb⟩) (d++ [({ c with tz:=((j+1:Nat):Int)+1 }:Ar)]).length C) (d++ [{ c with tz:=((j+1:Nat):Int)+1 }])):=dD (by rw[L.out,<-P.out];exact Y);clear Y S am;rw[<-L.out];go_wp2;go_roundg (64 -(j+1+1));exact⟨j+1+1,d++ [({ c with tz:=((j+1:Nat):Int)+1 }:Ar)],Xa ⟨n,0,Xb⟩,C,Wm,Wm,Gn,rfl,bd,bo,Q⟩;omega
    | false=>
     have Q:Xo (J f (j+1+1) (a++ [⟨((j+1:Nat)),(((j+1:Nat)):Int)+1,x.rd,x.wr,x.sh,x.file,x.page⟩])):=dD<|by
      have:=N.out (fun c aq=>Rx H.out (l.2 rfl c aq));rw[ah.out,H.out]at this;exact this
     go_upto_region 14 with(first | refine zD rfl 67 (.tmp 7) rfl ad rfl ao underlying67 rfl zss ?_ | refine zD rfl 67 (.tmp 5) rfl ab rfl A underlying67 rfl zss ?_)
     have g:Xo (w.heap.size+1<=a2.heap.size):=dD (by rw[<-r.out];exact bS a5.out);obtain⟨_,b8,b9,ba,ac,bb⟩:=A.k6;go_wp2_with (at_builtin;refine zy (E:=arE) rfl (.tmp 41) (.tmp 56) rfl (w.heap.size+1) _ a rfl (D.aA (za _ _)) _ [⟨((j+1:Nat):Int),((j+1:Nat):Int)+1,x.rd,x.wr,x.sh,x.file,x.page⟩] rfl (Zw arE a2 ⟨((j+1:Nat):Int),((j+1:Nat):Int)+1,x.rd,x.wr,x.sh,x.file,x.page⟩ _ _ rfl (by show 40<=_;omega)) ?qb ?qc ?_)
     case qb=>
      show(a.length+1)*40<=_;have:=q.out;omega
     case qc=>first | exact g.out | exact nT g (Oa _) | (have:=g.out;omega) | (simp;have:=g.out;omega)
     intro c5 a9 own s;obtain⟨u,z,rfl⟩:=own.form;have R:Xo (zb arE (w.heap.size+1) a9 (.slice u (a++ [(⟨((j+1:Nat):Int),((j+1:Nat):Int)+1,x.rd,x.wr,x.sh,x.file,x.page⟩:Ar)]).length z) (a++ [⟨((j+1:Nat):Int),((j+1:Nat):Int)+1,x.rd,x.wr,x.sh,x.file,x.page⟩])):=own;have a6:Xo (zc Z a9):=show zc _ _ from z2 (a5.trans (za _ _)) s (fun n I=>by
      have T:=(D.lt n I).1;rw[r.out];exact T)
     have c3:=dD (b3.aA a6);clear own s b8 b9 ba ac bb;go_wp2;go_roundg (64 -((j+1)+1));exact⟨(j+1)+1,a++ [(⟨((j+1:Nat):Int),((j+1:Nat):Int)+1,x.rd,x.wr,x.sh,x.file,x.page⟩:Ar)],u,z,Wm,Wm,Gn,rfl,a6,R,Q⟩;omega
 have b5:¬(b:Int)<64:=Wm;have:b=64:=Wm;subst this;have c7:=dD<|aj.all K.out;have c8:Xo (zb arE (w.heap.size+1) wr (O a4 a.length C) (Q7 f)):=show zb _ _ _ _ _ by rw[<-c7.out];exact bp.out
 have c6:=dD (bf.trans ar);go_wp2;go_ret;exact⟨⟨_,rfl,c8⟩,c6⟩
theorem zk8 (f:Nat->On) (w:Xn) (a:zj0 f):
  Xp prog 95 #[Xi (zz (tab f)).toArray] w fun e w'=>(∃u,e= Xl (Xm #[u,I6 (ziM f).2])/\zb arE w.heap.size w' u (ziM f).1)/\zc w w':=by
 have i:=dD<|fun W=>zc1 f W a;have c:Xo (¬16< (Q7 f).length->ziM f=(Q7 f,0)):=fun h=>by unfold ziM;rw[kF h]
 have b:Xo (16< (Q7 f).length->ziM f=([],4)):=fun h=>by unfold ziM;rw[kE h]
 have d:=dD<|(zep a).len;clear a;obtain⟨a,a⟩:=kA (ziM f);simp only[a.out]at c b⊢;obtain⟨l,a⟩:=kA (Q7 f);simp only[a.out]at c b d i;have g:Xo ((zz (tab f)).length=384):=Zs _;generalize zz (tab f)=C at i g⊢;obtain⟨k,a⟩:=kB (w.alloc (Xk C.toArray 68));have h:=gA a;have m:=xA a;have j:Xo (_=k):=a;clear a;go_enter func95,ntmps95;go_upto_region 1 with fail;rw[j.out];go_wp2_with (refine zD rfl 68 (.tmp 1) rfl w.heap.size rfl m underlying68 rfl (Rx g.out zst) ?_)
 refine(i k).mono ?_;rintro e a ⟨⟨u,rfl,a⟩,g⟩;obtain⟨i,i,rfl⟩:=a.form;have i:=dD (h.trans g);have j:=dD<|a.base (nT (bS h) (Oa _));clear g a;obtain⟨m,a⟩:=kA l.length;rw[a.out]at c b d j⊢;have a:m<=64:=d.out;by_cases a:16<m
 ·have g:=kC a
  have d:=dD<|b.out a;go_wp2;refine bodyPost_ret (results_tmp2 rfl _ _ _) rfl ?_;rw[d.out];exact⟨⟨_,rfl,zb.nil _ _ _⟩,i⟩
 have g:=kD a;have d:=dD<|c.out a;go_wp2;refine bodyPost_ret (results_tmp2 rfl _ _ _) rfl ?_;rw[d.out];exact⟨⟨_,rfl,j⟩,i⟩
theorem zoy {a:Ar} (d:jU R) (c:jU a):zj0 (zl [R,a]):=fun k _=>⟨zgl,fun c=>by grind [QZ,mG,zdz]⟩
theorem zqe {q:Ar} (h:zr arE w (O (Xa P) k b) l) (f:l[j]? =Xa R) (g:l[j+1]? =Xa q):zr arE w (O (Xa (P.add (j*7))) 2 (b - j)) [R,q]:=by
 obtain⟨⟨a,a,a,d,e⟩,d⟩:=h;cases a;refine⟨⟨Xa (P.add (j*7)),b - j,rfl,fun h=>(by cases h),fun x a d u h=>?_⟩,by show 2*40<=_;omega⟩;cases a;rw[zZ];refine e P rfl (j*7+d) u ?_;have a:(arv R++arv q)[d]? =Xa u:=by simpa [arE]using h
 by_cases e:d<7
 ·rw[Yt (by simpa [arv]using e)]at a
  exact jF (enc:=arv) (k:=7) l j R (fun _ _=>rfl) f d u a
 rw[aR (by simp[arv];omega)]at a;have:=jF (enc:=arv) (k:=7) l (j+1) q (fun _ _=>rfl) g (d - 7) u (by simpa [arv]using a);rw[show(j+1)*7+(d - 7)=j*7+d by omega]at this;exact this
theorem zk5 {ad:Addr} {n c:Nat} (a:j+2<=c):(Instr.sliceAt 58 (O (Xa ad) n c) (Xa (I6 (j:Int))) (Xa (I6 ((j:Int)+1+1))) Xb).run prog w= .ok (O (Xa (ad.add (j*7))) 2 (c - j)) w:=by
 have f:(Go.sizeOf 77).run prog w= .ok 7 w:=by
  obtain⟨a,b,d⟩:∃a,Tryz.prog.info? 77=Xa a/\a.size=7:=by
   have:=zsq;cases e:Tryz.prog.info? 77 with
   | none=>rw[e]at this;cases this
   | some a=>rw[e]at this;exact⟨a,rfl,by simpa using this⟩
  simp[Go.sizeOf,typeInfo,b,d]
 have b:(0:Int)<=(j:Int)+1+1/\(j:Int)+1+1<=(c:Int):=Wm;have d:((j:Int)+1+1).toNat=j+2:=Wm;have a:(0:Int)<=(j:Int)/\(j:Int)<=((j+2:Nat):Int):=Wm;have e:¬c=j:=Wm;simp only[Instr.sliceAt,Instr.slice,Instr.sliceBounds,Instr.sliceBound,asIntOf,Ye,Yg,rA,run_underlying underlying58];rw[kE b];simp only[Yg,rA,d];rw[kE a];simp only[Yg,rA,f,tN,kF e,Option.map_some];congr 2;omega
theorem zj6 (v fs) (D b:Int) (w) (a3:qE w v fs):
  Xp prog 24 #[Xi #[v,I6 D],I6 b] w fun e w'=>e= Xl (Xh (z4 fs b))/\zc w w':=by
 obtain⟨a7,a9,rfl,E,k⟩:=a3.rows;have a6:=dD k;clear k a3;obtain⟨y,N⟩:=kA fs.length;rw[N.out]at E⊢;obtain⟨C,d⟩:=kA (z4 fs b);rw[d.out];obtain⟨an,m⟩:=kB (w.alloc (Xk #[O a7 y a9,I6 D] 37));have M:=gA m;have R:=dD m;clear m;go_enter func24,ntmps24;go_wp2;rw[R.out];go_loopg [12] y (fun ac W wr=>∃c:Nat,c<=y/\y - c<=ac/\W=I6 c/\Xo (zc w wr)/\Xo (∀(j:Nat) (q:Fl),j<c->fs[j]? =Xa q->q.bl.contains b=Xd))
 exact⟨0,nZ _,Wm,rfl,M,fun j q h=>absurd h (nL _)⟩;obtain⟨c,ah,av,rfl,H,Z⟩:=hrel;by_cases p:c<y
 ·have G:=kC p
  obtain⟨q,P⟩:∃q,Xo (fs[c]? =Xa q):=⟨_,gE (Rx N.out p)⟩;obtain⟨aq,rfl,ak,al,u,a1⟩:=a6.out c q P.out;obtain⟨aa,a0⟩:=a1 wr H.out;have t:=u.short;obtain⟨ap,ar,U,i⟩:=u.aV;cases U;have Q:=dD i;clear a1 u i;obtain⟨A,l⟩:=kA q.bl.length;rw[l.out]at a0 t;obtain⟨ao,n⟩:=kB (wr.alloc (Xk #[I6 q.size,O ak A al] 84));have a4:=gT n H;have S:=dD n;clear n;go_wp2;rw[S.out];go_loopg [19] A (fun ab X Y=>∃a:Nat,a<=A/\A - a<=ab/\X=I6 a/\Xo (zc w Y)/\Xo (∀(j:Nat) z,j<a->q.bl[j]? =Xa z->¬z=b))
  exact⟨0,nZ _,Wm,rfl,a4,fun j z h=>absurd h (nL _)⟩;obtain⟨a,ag,af,rfl,g,I⟩:=hrel;clear aa a0;by_cases f:a<A
  ·have r:=kC f
   obtain⟨z,T⟩:∃z,Xo (q.bl[a]? =Xa z):=⟨_,gE (Rx l.out f)⟩;obtain⟨a8,rfl,F⟩:=Q.out a z T.out;have au:=F _ g.out;clear F;by_cases B:z=b
   ·have V:(z == b)=Xc:=Si B
    have L:Xo (C=Xc):=dD<|by
     rw[<-d.out];unfold z4;exact zq3 P (Yi.2 (B ▸ mG T))
    clear B;go_wp2;go_ret;exact⟨Rr L.out,g⟩
   have V:(z == b)=Xd:=Si B;have K:Xo (∀(j:Nat) z,j<a+1->q.bl[j]? =Xa z->¬z=b):=dD<|fun j am h x=>by
    by_cases e:j=a;·subst e;rw[T.out]at x;cases x;exact B
    exact I j am Wm x
   clear B;go_wp2;go_roundg (A -(a+1));exact⟨a+1,Wm,Wm,Gn,g,K⟩;omega
  have r:=kD f;have:a=A:=Wm;subst this;have a5:Xo (∀(j:Nat) (q:Fl),j<c+1->fs[j]? =Xa q->q.bl.contains b=Xd):=dD<|fun j aj h s=>by
   by_cases e:j=c
   ·subst e;rw[P.out]at s;cases s;cases ae:q.bl.contains b with
    | false=>rfl
    | true=>
     obtain⟨ai,a2⟩:=Xz (Yi.1 ae);exact absurd rfl (I ai b (by rw[<-l.out];exact(gS.1 a2).1) a2)
   exact Z j aj Wm s
  go_wp2;go_roundg (y -(c+1));exact⟨c+1,Wm,Wm,Gn,g,a5⟩;omega
 have G:=kD p;have:c=y:=Wm;subst this;have L:Xo (C=Xd):=dD<|by
  rw[<-d.out];unfold z4;rw[zq2 (fun j q h=>Z.out j q (by rw[<-N.out];exact(gS.1 h).1) h)]
 go_wp2;go_ret;exact⟨Rr L.out,H⟩
theorem zgg (vs:List Xq) (t:List (List En)) (w:Xn) (hv:JX w vs t) (h0:tbW t=0):
  Xp Tryz.prog 78 #[Xi vs.toArray] w fun e w'=>e= Xl (Xe Xf 0)/\zc w w':=by
 have HV:Xo (JX w vs t):=hv;have HL:Xo (vs.length=8):=hv.len;have HT:Xo (∀h∈t,ziH h):=show∀h,_ from ZY.1 h0;clear hv h0;obtain⟨W0,hW0⟩:∃W0,w.alloc (Xk vs.toArray 61)=W0:=⟨_,rfl⟩;have HG0:=gA hW0;have X0:=xA hW0;have HW0:Xo (_=W0):=hW0;clear hW0;go_enter Tryz.func78,Tryz.ntmps78;go_upto_region 1 with fail;rw[HW0.out];go_wp2_with (refine qM rfl (.tmp 1) rfl w.heap.size rfl X0.out HL.out ?_)
 go_loopg [9] 8 (fun gg s9 wr=>∃kk:Nat,kk<=8/\8 - kk<=gg/\s9= Xe Xf kk/\Xo (zc w wr))
 case atStart=>exact⟨0,nZ _,by omega,rfl,HG0.out⟩
 obtain⟨kk,hkk,hg,rfl,BW⟩:=hrel;by_cases hlt:kk<8
 ·have hltz:(kk:Int)<8:=by omega
  obtain⟨xa,xc,q,hq,hvk,hr⟩:=HV.out.half hlt;obtain⟨_,_,heq,hens⟩:=hr.ens;cases heq;have HE:Xo (zp5 w xa q):=hens;obtain⟨nq,HNQ⟩:∃nq,Xo (q.length=nq):=⟨_,rfl⟩;rw[HNQ.out]at hvk;have HVK:Xo (vs[kk]? =Xa (O xa nq xc)):=hvk;have HQ:=HT.out q (mG hq);have HEN:Xo (∀(j:Nat) x,q[j]? =Xa x->enW x=0):=show∀(j:Nat) x,_ from fun j x hj=>by
   rcases HQ with e | ⟨_,e,_⟩;·rw[e]at hj;cases hj
   exact e x (mG hj)
  have HAN:Xo (nq=8->zaW q=Xc):=show _->_ from fun e=>by
   rcases HQ with e2 | ⟨_,_,e2⟩;·rw[e2]at HNQ;have:=HNQ.out;simp at this;omega
   exact e2
  have h8:nq=0\/nq=8:=by
   rcases HQ with e | ⟨e,_⟩;·left;rw[<-HNQ.out,e];rfl
   right;rw[<-HNQ.out,e]
  clear hens hr hq hvk HQ;go_upto_region 4 with(refine zdQ rfl (.tmp 8) (.tmp 9) rfl vs rfl kk rfl hlt HVK.out ?_)
  obtain⟨z0,HZ0⟩:∃z0:Bool,Xo (decide (nq=0)=z0):=⟨_,rfl⟩;have hne0:((nq:Int) != 0)=!z0:=by rw[<-HZ0.out];rcases h8 with e | e <;> simp[e]
  have heq8:((nq:Int) == 8)=!z0:=by rw[<-HZ0.out];rcases h8 with e | e <;> simp[e]
  have hne8:((nq:Int) != 8)=z0:=by rw[<-HZ0.out];rcases h8 with e | e <;> simp[e]
  have H8:Xo (nq=0\/nq=8):=h8;have hq8:nq<=8:=by omega
  clear h8;cases z0
  all_goals (
   simp only[Bool.not_true,Bool.not_false]at hne0 heq8 hne8;go_wp2;go_loopg [5,22] nq (fun g2 s5 s22 wr2=>∃(k2 c:Nat),k2<=nq/\nq - k2<=g2/\s22= Xe Xf k2/\s5= Xe Xf c/\c<=k2/\Xo (zc w wr2)/\Xo (c=0↔zaW (q.take k2)=Xd))
   case atStart=>exact⟨0,0,nZ _,by omega,rfl,rfl,nR _,BW.out,show(0=0↔zaW (q.take 0)=Xd)from by simp[zaW]⟩
   obtain⟨k2,c,hk2',hg2,rfl,rfl,hck,BW2,CW⟩:=hrel;by_cases hlt2:k2<nq
   ·have hltz2:(k2:Int)< (nq:Int):=by omega
    obtain⟨x,hx⟩:∃x,q[k2]? =Xa x:=⟨_,gE (by rw[HNQ.out];exact hlt2)⟩;obtain⟨ad,rfl,hl2⟩:=HE.out k2 x hx;obtain⟨d0,d1,d2⟩:=hl2 wr BW2.out;obtain⟨e1,e2,e3⟩:=jV (HEN.out k2 x hx);have HC:Xo (zaW (q.take (k2+1))=(zaW (q.take k2) || enS x)):=show _=_ by
     rw[Zj hx];unfold zaW;rw[List.any_append];simp
    obtain⟨k,m,b⟩:=x;simp only at d0 d1 d2 e1 e2 e3;clear hl2 hx;go_upto_region 10 with fail;obtain⟨px,hpx⟩:∃px,wr.heap.size=px:=⟨_,rfl⟩;obtain⟨W2,hW2⟩:∃W2,wr.alloc (Xk #[Xe Xf k,Xe Xf m,Xh b] 55)=W2:=⟨_,rfl⟩;have G2:=gT hW2 BW2;have P2:Xo (Box W2 px [Xe Xf k,Xe Xf m,Xh b]):=show Box _ _ _ by rw[<-hW2];exact Box.aE _ _ _ hpx.symm
    rw[hW2,hpx];clear hW2 hpx d0 d1 d2;obtain⟨p0,p1,p2⟩:=P2.out.c3;have k1d:decide (m<0)=Xd:=decide_eq_false (by omega);have k2d:decide (59<m)=Xd:=decide_eq_false (by omega);obtain rfl | rfl | rfl:k=0\/k=1\/k=2:=(by omega)
    ·obtain rfl:m=0:=by omega
     have hb:b=Xd:=(by cases b <;> simp at e3⊢);subst hb;clear e1 e2 e3;go_wp2;go_roundg (nq -(k2+1))
     case measure=>omega
     exact⟨k2+1,c,by omega,by omega,by go_num,by go_num,by omega,G2.out,show(c=0↔zaW (q.take (k2+1))=Xd) by rw[HC.out,CW.out];simp[enS]⟩
    ·have k3d:decide (39<m)=Xd:=decide_eq_false (by omega)
     clear e1 e2 e3;go_wp2;go_roundg (nq -(k2+1))
     case measure=>omega
     exact⟨k2+1,c+1,by omega,by omega,by go_num,by go_num,by omega,G2.out,show(c+1=0↔zaW (q.take (k2+1))=Xd) by rw[HC.out];simp[enS]⟩
    have hb:b=Xd:=(by cases b <;> simp at e3⊢);subst hb;clear e1 e2 e3;go_wp2;go_roundg (nq -(k2+1))
    case measure=>omega
    exact⟨k2+1,c+1,by omega,by omega,by go_num,by go_num,by omega,G2.out,show(c+1=0↔zaW (q.take (k2+1))=Xd) by rw[HC.out];simp[enS]⟩
   have hltz2:¬(k2:Int)< (nq:Int):=(by omega);have:k2=nq:=(by omega);subst this;have hcb:k2=8->((c:Int) == 0)=Xd:=fun e=>by
    have h1:=CW.out;rw[Yc (by rw[HNQ.out];exact nR _),HAN.out e]at h1;simpa using h1
   have hcb2:=HZ0.out
   (first|(have hcb:=hcb (H8.out.resolve_left (of_decide_eq_false hcb2));clear hcb2)|clear hcb hcb2);go_wp2;go_roundg (8 -(kk+1));(case measure=>omega);exact⟨kk+1,by omega,by omega,by go_num,BW2.out⟩)
 have hltz:¬(kk:Int)<8:=by omega
 go_wp2;go_ret;exact⟨rfl,BW.out⟩
theorem zgh (v:Xq) (fs:List Fl) (d:Int) (w:Xn) (bm:qE w v fs) (y:stW fs d=0):
  Xp prog 76 #[Xi #[v,I6 d]] w fun e w'=>e= Xl (I6 0)/\zc w w':=by
 obtain⟨ba,c0,rfl,a3,F⟩:=bm.rows;have bt:Xo (za0 w ba fs):=F;have a4:fs.length<=5/\0<=d/\d<=80:=by
  unfold stW at y;split at y
  ·assumption
  cases y
 have bs:Xo (ze0 d [] fs=0):=dD<|by rw[<-y];unfold stW;rw[kE a4]
 clear F bm y;obtain⟨p,b7⟩:=kA fs.length;rw[b7.out]at a3 a4⊢;obtain⟨c,B⟩:=kB (w.alloc (Xk #[O ba p c0,I6 d] 37));have H:=gA B;have a1:=xA B;have am:Xo (_=c):=B;clear B;obtain⟨ap,a4⟩:=a4;have aq:¬(5:Int)< (p:Int):=Wm;have c7:decide ((5:Int)< (p:Int))=Xd:=decide_eq_false aq;have c8:decide (5<p)=Xd:=decide_eq_false Wm;obtain⟨m,rfl⟩:∃m:Nat,d=(m:Int):=⟨d.toNat,Wm⟩;have bj:m<=80:=Wm;have av:¬(m:Int)<0:=Wm;have bf:decide ((m:Int)<0)=Xd:=decide_eq_false av;have aw:¬(80:Int)< (m:Int):=Wm;have bg:decide ((80:Int)< (m:Int))=Xd:=decide_eq_false aw;clear a4;go_enter func76,ntmps76;go_upto_region 3 with fail;rw[am.out];obtain⟨b5,a9⟩:=a1.k2;go_wp2_with (refine zax boE rfl (.tmp 23) rfl m rfl (by show m*1<=_;omega) ?_)
 intro ah b0;rw[show Xr m boE.zero=zar m []from(zm0 m).symm]at b0;show wpList _ _ _ _ _ (c.alloc (Xk ah 4));obtain⟨bx,L⟩:=kB (c.alloc (Xk ah 4));have V:zb boE c.heap.size (c.alloc (Xk ah 4)) (O (Xa ⟨c.heap.size,0,Xb⟩) m m) (zar m []):=b0;have G:=gA L;rw[L]at V⊢;obtain⟨j,K⟩:=kA c.heap.size;have bu:Xo (zb boE c.heap.size bx (O (Xa ⟨j,0,Xb⟩) m m) (zar m [])):=dD<|Ry K.out V;rw[K.out];clear L b0 V b5 a9;obtain⟨b5,a9⟩:=(a1.aA G).k2;go_wp2;go_loopg [28] p (fun c5 b3 wr=>∃a:Nat,a<=p/\p - a<=c5/\b3=I6 a/\Xo (zc c wr)/\Xo (zb boE c.heap.size wr (O (Xa ⟨j,0,Xb⟩) m m) (zar m (zdF [] (fs.take a))))/\Xo (ze0 (m:Int) (zdF [] (fs.take a)) (fs.drop a)=0))
 exact⟨0,nZ _,Wm,rfl,G,bu,bs⟩;obtain⟨a,cd,cb,rfl,ag,b8,bo⟩:=hrel;clear b5 a9;by_cases R:a<p
 ·have a5:=kC R
  obtain⟨q,aa⟩:∃q,Xo (fs[a]? =Xa q):=⟨_,gE (Rx b7.out R)⟩;obtain⟨ci,rfl,bn,ch,U,bi⟩:=bt.out a q aa.out;obtain⟨c1,bb⟩:=bi wr (H.trans ag);have T:=U.short;obtain⟨_,_,ax,D⟩:=U.aV;cases ax;have Z:Xo (zjY w bn q.bl):=D;obtain⟨r,u⟩:=kA q.bl.length;rw[u.out]at bb T;clear bi U D;have a0:Xo (ze0 (m:Int) (zdF [] (fs.take a)) (fs.drop a)=if flW (m:Int) (zdF [] (fs.take a)) q=0 then ze0 (m:Int) (zdF [] (fs.take (a+1))) (fs.drop (a+1))else flW (m:Int) (zdF [] (fs.take a)) q):=show _=_ by
   rw[Zn aa.out,za1 aa.out,zck];rfl
  have Y:Xo (zdF [] (fs.take (a+1))=blG (zdF [] (fs.take a)) q.bl):=dD (by rw[za1 aa.out,zck]);obtain⟨h,b6⟩:=kA (zdF [] (fs.take a));rw[b6.out]at a0 Y b8;have n:=bo.out;rw[b6.out,a0.out]at n;split at n;case isFalse ao=>exact absurd n ao
  rename_i bh
  have br:Xo (ze0 (m:Int) (zdF [] (fs.take (a+1))) (fs.drop (a+1))=0):=n;have z:(if 0<=q.size/\q.size<=96 then(if(q.bl.length:Int)=zau q.size then blW (m:Int) h q.bl else 2)else 3)=0:=bh;split at z;case isFalse=>cases z
  rename_i cg
  split at z;case isFalse=>cases z
  rename_i P
  have ak:Xo (blW (m:Int) h q.bl=0):=z;rw[u.out]at P;clear n bh z;obtain⟨ac,k⟩:=kB (wr.alloc (Xk #[I6 q.size,O bn r ch] 84));have bp:=gT k ag;have ab:=xA k;have bv:Xo (zb boE c.heap.size ac (O (Xa ⟨j,0,Xb⟩) m m) (zar m h)):=dD (by rw[<-k];exact b8.aA (za _ _));have an:Xo (_=ac):=k;clear k;have bk:decide (q.size<0)=Xd:=decide_eq_false Wm;have bl:decide (96<q.size)=Xd:=decide_eq_false Wm;have N:=fun bw=>zc0 q.size bw Wm Wm;rw[<-P]at N;have cf:((r:Int) !=(r:Int))=Xd:=Sm;clear P cg;obtain⟨b1,b2⟩:=ab.k2;go_upto_region 9 with fail;rw[an.out];go_quiet (first | (go_at_call 23;exact Calls.quiet_of_same (N _)))
  obtain⟨bz,M⟩:=kB (ac.drewN nq);have s:Xo (zc ac bz):=dD (by rw[<-M];exact(show Below _ _ _ from bD (bR _ _) _));rw[M];clear M b1 b2 N c1 bb;obtain⟨b1,b2⟩:=(ab.aA s).k2;go_wp2;go_loopg [50] r (fun c4 b4 a8=>∃b:Nat,b<=r/\r - b<=c4/\b4=I6 b/\Xo (zc c a8)/\Xo (zb boE c.heap.size a8 (O (Xa ⟨j,0,Xb⟩) m m) (zar m (blG h (q.bl.take b))))/\Xo (blW (m:Int) (blG h (q.bl.take b)) (q.bl.drop b)=0))
  exact⟨0,nZ _,Wm,rfl,bp.trans s,bv.aA s,ak⟩;obtain⟨b,cc,ca,rfl,f,g,af⟩:=hrel;clear b1 b2;have a9:=(a1.aA f).c 1 rfl;have ai:=dD (H.trans f);by_cases l:b<r
  ·have S:=kC l
   obtain⟨C,aj⟩:∃C,Xo (q.bl[b]? =Xa C):=⟨_,gE (Rx u.out l)⟩;obtain⟨cj,rfl,a6⟩:=Z.out b C aj.out;have c2:=a6 _ ai.out;have t:Xo (blG h (q.bl.take (b+1))=zaa (blG h (q.bl.take b)) C):=dD (by rw[Zj aj.out,zgU]);clear a6;obtain⟨x,X⟩:=kA (blG h (q.bl.take b));have y:=af.out;rw[Zn aj.out,X.out]at y;have n:(if zac (m:Int) x C=0 then blW (m:Int) (zaa x C) (q.bl.drop (b+1))else zac (m:Int) x C)=0:=y;split at n;case isFalse ao=>exact absurd n ao
   rename_i ae
   rw[X.out]at t g;have W:Xo (blW (m:Int) (blG h (q.bl.take (b+1))) (q.bl.drop (b+1))=0):=dD<|Rx t.out n;clear y n;rcases zab (m:Int) x C with⟨rfl,z,A⟩|⟨_,_,A⟩|⟨_,_,_,_,A⟩|⟨i,rfl,z,A,c6,ap⟩
   ·clear z ae;have I:Xo (zb boE c.heap.size _ (O (Xa ⟨j,0,Xb⟩) m m) (zar m (blG h (q.bl.take (b+1))))):=dD (by rw[t.out,A];exact g.out);have az:¬(m:Int)<=-1:=Wm;have ce:decide ((m:Int)<=-1)=Xd:=decide_eq_false az;clear A;go_wp2;go_roundg (r -(b+1));exact⟨b+1,Wm,Wm,Gn,f,I,W⟩;omega
   ·exact absurd (ae.symm.trans A) Dc
   ·exact absurd (ae.symm.trans A) Dc
   clear c6 ae;have Q:i<m:=Wm;have ar:¬(i:Int)< -1:=Wm;have bc:decide ((i:Int)< -1)=Xd:=decide_eq_false ar;have au:¬(m:Int)<=(i:Int):=Wm;have bd:decide ((m:Int)<=(i:Int))=Xd:=decide_eq_false au;have be:decide (m<=i)=Xd:=decide_eq_false Wm;have c9:¬(i:Int)<0:=Wm;have c3:wr.cell? ⟨j,i,Xb⟩=Xa (Xh Xd):=by
    have:=g.one (zkj x Q) 0 _ rfl;rw[zZ,Xv,zA,A]at this;simpa [boE]using this
   have al:Xo (zaa x (i:Int)=(i:Int) :: x):=ap;clear A ap;go_wp2_with (refine qB (E:=boE) rfl (.tmp 70) (.const (Xh Xc)) rfl c.heap.size _ (zar m x) g j i rfl Xc ?t1 ⟨j,i,Xb⟩ rfl ?t2 (Xh Xc) rfl rfl ?_)
   case t1=>rw[zhU];exact Q
   case t2=>first | exact(Yu i).symm | (show _=Addr.mk j (i*1) Xb;rw[Yu])
   intro b9 a7 a2 _;have I:Xo (zb boE c.heap.size b9 (O (Xa ⟨j,0,Xb⟩) m m) (zar m (blG h (q.bl.take (b+1))))):=dD (by rw[t.out,al.out,<-zmZ x Q];exact a7);have bq:Xo (zc c b9):=dD<|zd f a2 (by rw[K.out];exact nR _);clear a7 a2 c3 c2 a9;go_wp2;go_roundg (r -(b+1));exact⟨b+1,Wm,Wm,Gn,bq,I,W⟩;omega
  have S:=kD l;have:b=r:=Wm;subst this;have I:Xo (zb boE c.heap.size wr (O (Xa ⟨j,0,Xb⟩) m m) (zar m (zdF [] (fs.take (a+1))))):=dD<|by
   rw[Y.out];have:=g.out;rw[Yc (by rw[u.out];exact nR _)]at this;exact this
  go_wp2;go_roundg (p -(a+1));exact⟨a+1,Wm,Wm,Gn,f,I,br⟩;omega
 have a5:=kD R;have:a=p:=Wm;subst this;have ai:=dD (H.trans ag);go_wp2;go_ret;exact⟨rfl,ai⟩
theorem zbY (v:Xq) (l:List Ar) (w:Xn) (p:zr arE w v l) (C:Cap v) (ap:(wrL l).1=0):
  Xp prog 77 #[v] w fun e w'=>e= Xl (Xi #[I6 0,I6 (wrL l).2])/\zc w w':=by
 have a5:=p.short;obtain⟨bq,c,rfl,D⟩:=p.aC;have a3:Xo (ziI w bq l):=D;have b1:Xo (∀(q:Ar) W,Xp prog 94 #[Xi #[I6 q.fr,I6 q.tz,Xh q.rd,Xh q.wr,Xh q.sh,I6 q.file,I6 q.base]] W fun e w'=>e= Xl (I6 (arW q))/\zc W w'):=fun q W=>zah q W;have bm:Xo (zr arE w (O bq l.length c) l):=p;have av:l.length<=c:=C;have cf:Xo (∀(b q:Ar) v W,zr arE W v [b,q]->jU b->jU q->b.tz<=q.fr->Xp prog 16 #[v] W fun e w'=>e= Xl (Xi (zz (tab (zl [b,q]))).toArray)/\zc W w'):=fun b q v W p au az br=>Ze v [b,q] W p (zo4 au az br)
 have cg:Xo (∀(b q:Ar) W,jU b->jU q->b.tz<=q.fr->Xp prog 117 #[Xi (zz (tab (zl [b,q]))).toArray] W fun e w'=>(∃S T,e= Xl (.slice S (Q7 (zl [b,q])).length T))/\zc W w'):=fun b q W au az br=>(zc1 (zl [b,q]) W (zoy au az)).mono (by
  rintro e w' ⟨⟨v,rfl,co⟩,cd⟩;obtain⟨S,T,rfl⟩:=co.form;exact⟨⟨S,T,rfl⟩,cd⟩)
 clear D p C;have al:Xo (¬16<l.length->zbn (QD l 0) (l.drop 0) 0=wrL l):=zhd;have ai:Xo (16<l.length->wrL l=(4,0)):=fun s=>by unfold wrL;rw[kE s]
 have I:Xo (∀Z,zbn (QD l l.length) (l.drop l.length) l.length=Z->Z=(0,0)):=fun Z=>zmf;obtain⟨f,X⟩:=kA l.length;rw[X.out]at a5 av bm⊢;have A:Xo (¬16<f->zbn (QD l 0) (l.drop 0) 0=wrL l):=dD<|Ry X.out al.out;have x:Xo (16<f->wrL l=(4,0)):=dD<|Ry X.out ai.out;have F:Xo (∀Z,zbn (QD l f) (l.drop f) f=Z->Z=(0,0)):=dD<|Ry X.out I.out
 skip
 generalize ch:wrL l=h at ap A x⊢;have a8:Xo (h.1=0):=ap;clear ch ap;obtain⟨c4,t⟩:=kB (w.alloc (Xk #[I6 0,I6 0] 150));have ah:=gA t;have c5:=xA t;have an:Xo (_=c4):=t;clear t;have P:¬16<f:=fun s=>by have:=a8.out;rw[x.out s]at this;cases this
 have a7:¬(16:Int)< (f:Int):=Wm;have bz:Xo (zbn (QD l 0) (l.drop 0) 0=h):=A.out P;go_enter func77,ntmps77;go_upto_region 1 with fail;rw[an.out];go_wp2;go_loopg [12] f (fun ce bi wr=>∃g:Nat,g<=f/\f - g<=ce/\bi=I6 g/\Xo (zc w wr)/\Xo (Box wr w.heap.size [I6 0,I6 0])/\Xo (zbn (QD l g) (l.drop g) g=h)/\Xo (∀(a:Nat) q,a<g->l[a]? =Xa q->jU q))
 exact⟨0,nZ _,Wm,rfl,ah,c5,bz,fun a q bs=>absurd bs (nL _)⟩;obtain⟨g,cm,aw,rfl,af,U,Y,bo⟩:=hrel;by_cases N:g<f
 ·have a6:=kC N
  obtain⟨q,z⟩:∃q,Xo (l[g]? =Xa q):=⟨_,gE (Rx X.out N)⟩;obtain⟨d,rfl,k⟩:=a3.out g q z.out;obtain⟨c6,c7,c8,c9,ca,cb,cc⟩:=k wr af.out;have c0:Xo (w.heap.size<wr.heap.size):=U.lt;obtain⟨ae,aj⟩:=kA wr.heap.size;have a1:Xo (w.heap.size<ae):=show _<_ by rw[<-aj.out];exact c0.out
  clear k;go_upto_region 6 with fail;refine nW fun cs i=>?_;have bw:=gT i af;have bu:=yA i U;have bp:=xP i aj;rw[aj.out];clear i c6 c7 c8 c9 ca cb cc;go_wp2_with (refine zD rfl 77 (.tmp 4) rfl ae rfl bp underlying77 rfl zsq ?_)
  refine(b1.out q _).mono ?_;rintro e B ⟨rfl,ab⟩;have m:=dD (bw.trans ab);have bk:=dD (bu.aA ab);have H:=dD (bp.aA ab);clear ab;have bt:ae≠w.heap.size:=Hm a1.out;have ay:w.heap.size≠ae:=Hm a1.out;have Q:arW q=0:=Classical.byContradiction fun Q=>by have:=a8.out;rw[zmg Y.out z.out Q]at this;exact Q this
  have a9:Xo (arW q=0):=Q;have cn:(arW q != 0)=Xd:=by simp[Q]
  have r:Xo (jU q):=QH.1 Q;have a4:Xo (∀(a:Nat) R,a<g+1->l[a]? =Xa R->jU R):=show∀(a:Nat) R,_ from fun a R bs u=>by
   by_cases e:a=g;·subst e;rw[z.out]at u;cases u;exact r.out
   exact bo a R Wm u
  clear Q;go_upto_region 9 with fail;generalize arW q=cx;cases g with
  | zero=>
   have G:Xo (zbn (QD l 1) (l.drop 1) 1=h):=zha Y z a9.out;have bg:¬(0:Int)< ((0:Nat):Int):=Dc;have bh:decide ((0:Int)< ((0:Nat):Int))=Xd:=Dc;go_quiet (fail);go_wp2;go_roundg (f - 1);exact⟨1,Wm,Wm,Gn,m.trans (show Below _ _ _ from bD (bR _ _) _),bk.aA (show Below _ _ _ from bD (bR _ _) _),G,a4⟩;omega
  | succ a=>
   obtain⟨b,V⟩:∃b,Xo (l[a]? =Xa b):=⟨_,gE (by rw[X.out];omega)⟩;have E:Xo (jU b):=bo.out a b Wm V.out;have bg:(0:Int)< ((a+1:Nat):Int):=Wm;have bh:decide ((0:Int)< ((a+1:Nat):Int))=Xc:=Sm;have ck:((a+1:Nat):Int) - 1=(a:Int):=Wm;have cl:(a:Int)< (f:Int):=Wm;obtain⟨ao,ar,k⟩:=a3.out a b V.out;obtain rfl:d=ao:=(by cases ar;rfl);have ac:¬q.fr<b.tz:=fun ac=>(by have:=a8.out;rw[zds Y.out V.out z.out a9.out (.inl ac)]at this;cases this);have cj:decide (q.fr<b.tz)=Xd:=Si ac;have ag:Xo (¬q.fr<b.tz):=ac;have b2:=H.gw 0 rfl;have b3:=H.gw 1 rfl;have b4:=H.gw 2 rfl;have b5:=H.gw 3 rfl;have b6:=H.gw 4 rfl;have b7:=H.gw 5 rfl;have b8:=H.gw 6 rfl;have b9:=fun y:zk B=>(k _ (m.trans y.aA)).1;have ba:=fun y:zk B=>(k _ (m.trans y.aA)).2.1;have bb:=fun y:zk B=>(k _ (m.trans y.aA)).2.2.1;have bc:=fun y:zk B=>(k _ (m.trans y.aA)).2.2.2.1;have bd:=fun y:zk B=>(k _ (m.trans y.aA)).2.2.2.2.1;have be:=fun y:zk B=>(k _ (m.trans y.aA)).2.2.2.2.2.1;have bf:=fun y:zk B=>(k _ (m.trans y.aA)).2.2.2.2.2.2;have ax:Nonempty (zk B):=⟨⟨_,zc.refl _⟩⟩;have ak:Xo (∀W,zc w W->zr arE W (O (Xa (d.add (a*7))) 2 (c - a)) [b,q]):=fun W ci=>zqe (bm.aA ci) V z.out;have b0:=fun W=>zk5 (w:=W) (ad:=d) (n:=f) (c:=c) (j:=a) Wm;obtain⟨aa,bl⟩:=kA ((Q7 (zl [b,q])).length);have am:Xo (decide (aa<2)=goB q b):=dD (by rw[<-bl.out];exact zrh E r (Hm ag.out));have a0:Xo (b.tz<=q.fr):=dD<|Hm ag.out;clear k;obtain⟨bn,a2⟩:=kA (zz (tab (zl [b,q])));refine jQ [(19,⟨fun v=>v= Xi bn.toArray,fun _ _=>True⟩),(20,⟨fun v=>∃S T,v= O S aa T,fun _ _=>True⟩)] z3 Kr ?_ ?_ ?_
   ·intro R u
    simp at u;rcases u with rfl|rfl;·exact⟨_,rfl⟩
    exact⟨O Xb aa 0,Xb,0,rfl⟩
   ·intro R u
    simp at u;rcases u with rfl|rfl;·exact fun _ _ _ _ s=>s
    exact fun _ _ _ _ s=>s
   iterate 19 refine zh ?_
   refine zJ rfl rfl (fun w' aw aq=>?_) (fun cp p=>?_);·refine zN.call [O (Xa (d.add (a*7))) 2 (c - a)] rfl func16 rfl rfl rfl ?_;refine(cf.out b q _ w' (ak w' (m.trans aw)) E r a0).mono ?_;rintro e bj ⟨rfl,L⟩;exact⟨_,rfl,L,by rw[a2.out],trivial⟩
   subst p;refine Uq ?_;refine zJ rfl rfl (fun w' aw aq=>?_) (fun cp p=>?_);·refine zN.call [Xi bn.toArray] rfl func117 rfl rfl rfl ?_;rw[<-a2.out];refine(cg.out b q w' E r a0).mono ?_;rintro e bj ⟨⟨S,T,rfl⟩,L⟩;exact⟨_,rfl,L,⟨S,T,by rw[bl.out]⟩,trivial⟩
   obtain⟨cq,cr,rfl⟩:=p;refine Uq ?_;have a7:decide ((aa:Int)<2)=goB q b:=(by rw[<-am.out];exact decide_eq_decide.2 Wm);iterate 4 refine zh ?_
   refine z7 fun ct K aq=>?_;have bx:=dD (m.trans K);have bv:=dD (bk.aA K);clear a7 b0 K aq b2 b3 b4 b5 b6 b7 b8 b9 ba bb bc bd be bf ax;have M:goB q b=Xd:=Bool.eq_false_iff.2 fun s=>(by have:=a8.out;rw[zds Y.out V.out z.out a9.out (.inr s)]at this;cases this);have G:Xo (zbn (QD l (a+1+1)) (l.drop (a+1+1)) (a+1+1)=h):=zj3 Y V z a9 ag M;rw[M];clear M;go_wp2;go_roundg (f -(a+1+1));exact⟨a+1+1,Wm,Wm,Gn,bx,bv,G,a4⟩;omega
 have a6:=kD N;have:g=f:=Wm;subst this;have c1:Xo (h=(0,0)):=F.out _ Y.out;obtain⟨cu,cv⟩:=U.k2;have cw:=U.f;have c2:Xo (Box ((wr.setCell ⟨w.heap.size,0,Xb⟩ (I6 0)).setCell ⟨w.heap.size,1,Xb⟩ (I6 0)) w.heap.size [I6 0,I6 0]):=show Box _ _ _ from(U.set 0 _).set 1 _;have c3:Xo (zc w ((wr.setCell ⟨w.heap.size,0,Xb⟩ (I6 0)).setCell ⟨w.heap.size,1,Xb⟩ (I6 0))):=dD<|zB (zB af Sm _) Sm _;go_wp2;refine bodyPost_ret (z8 (vs:=[I6 0,I6 0]) rfl _ rfl c2 underlying150 rfl zsr) rfl ⟨?_,c3⟩;rw[c1.out]
theorem zrk (h:spE s=0):(wrL s.aC).1=0/\tbW s.tb=0/\(s.aF=Xd->s.aC=[]/\s.tb.all (·.isEmpty)=Xc):=by grind [spE]
theorem zoc (h:zaV m=0) (a:b<m.db.length):zdc m b=Xd:=by
 cases e:zdc m b with
 | false=>rfl
 | true=>rw[zfT a e]at h;cases h
theorem zoI (h:zaE m=0) {q:Int × List Int} (a:m.dq[j]? =Xa q):z4 m.fl q.1=Xc:=by grind [z4,zfs]
theorem zjd (V m w) (A:zP w V m) (u:zaq m=0):
  Xp prog 41 #[Xi (mL V m).toArray] w fun e w'=>e= Xl (I6 0)/\zc w w':=by
 unfold zaq at u;rw[zj]at u;have e4:ZW m.fs m.aB=0:=u _ Sm;have e5:slW m.sl=0:=u _ Sm;have e6:zO m.sb.length m.sq=0:=u _ Sm;have e7:zO m.db.length m.dq=0:=u _ Sm;have e8:stW m.fl m.cnt=0:=u _ Sm;have be:znx m=0:=u _ Sm;have eh:Xo (zaV m=0):=dD<|u _ Sm;have ei:Xo (zaE m=0):=dD<|u _ Sm;have bz:(if 4<m.sp.length then(4:Int)else 0)=0:=u _ Sm;have cl:Xo (∀s∈m.sp,spE s=0):=dD<|fun s b8=>zj.1 (u (zF (m.sp.map spE)) Sm) _ (Xw.2 ⟨s,b8,rfl⟩);have bn:=dD A;obtain⟨cw,bv,bw,-,bd,cx,-,-,bx⟩:=A.ns;obtain⟨e9,bc,B,ba⟩:=A.aT;have y:=A.fs;have C:=A.sl;have ae:=dD A.pgs;have ag:=dD A.puts;have b9:=A.sp;have ct:V.dq.n<=9223372036854775807:=Hm A.dq.2.2;have cs:V.db.n<=9223372036854775807:=Hm A.db.2.2;obtain⟨bk,P,h,a9,⟨E,b,F⟩,⟨a1,i,a2⟩,bl,bj,⟨bh,d,bi⟩⟩:=V;dsimp only[mL]at cw bv bw bd cx bx cs ct ae ag y C B⊢;have c4:Xo (∀W,zc w W->Xp prog 73 #[Xi #[bk.x,I6 m.aB]] W fun e w'=>e= Xl (I6 0)/\zc W w'):=dD<|fun W c=>by (try simp only[Sli.x]at y⊢);rw[cw]at y⊢;rw[<-e4];exact zd1 bk.a bk.c m.fs m.aB W (zrD.1 (y.aA c))
 have c5:Xo (∀W,zc w W->Xp prog 74 #[P.x] W fun e w'=>e= Xl (I6 0)/\zc W w'):=dD<|fun W c=>by (try simp only[Sli.x]at C⊢);rw[bv]at C⊢;rw[<-e5];exact zgi P.a P.c m.sl W (C.aA c)
 have c6:Xo (∀W,zc w W->Xp prog 75 #[Xi #[h.x,a9.x]] W fun e w'=>e= Xl (I6 0)/\zc W w'):=dD<|fun W c=>by rw[<-e6,<-bw];exact Jn h.a h.n h.c _ m.sq W (bn.aA c).sq
 have c7:Xo (∀W,zc w W->Xp prog 75 #[Xi #[O E b F,O a1 i a2]] W fun e w'=>e= Xl (I6 0)/\zc W w'):=dD<|fun W c=>by rw[<-e7,<-bd];exact Jn E b F _ m.dq W (bn.aA c).dq
 have c8:=dD<|fun W (c:zc w W)=>zgh _ m.fl m.cnt W (bn.aA c).fl e8;have ah:=dD<|fun W ep (c:zc w W)=>zj6 _ m.fl m.cnt ep W (bn.aA c).fl;have cb:=dD bd.symm;have cc:=dD cx.symm;have ac:=dD bx.symm;have es:d<=4:=by
  rw[<-bx]at bz;split at bz;·cases bz
  omega
 have cj:Xo (e9.length=d):=dD<|Rx bc ac.out;have ce:=dD B;have cf:=dD ba;have ay:P.n=h.n/\m.cnt=(b:Int):=by
  unfold znx at be;rw[<-bv,<-bw,<-bd]at be;split at be;·cases be
  omega
 obtain⟨cm,du⟩:=ay;have cn:((P.n:Int) !=(h.n:Int))=Xd:=by simp[cm]
 have co:(P.n != h.n)=Xd:=by simp[cm]
 have cp:(m.cnt !=(b:Int))=Xd:=by simp[du]
 have eu:d<=9223372036854775807:=Wm;have et:decide ((4:Int)< (d:Int))=Xd:=by simp;omega
 clear A cw bv bw bd cx bx bc B ba y C b9 u e4 e5 e6 e7 e8 be bz cm du es;obtain⟨ak,H⟩:=kB (w.alloc (Xk #[bk.x,I6 m.aB,P.x,h.x,a9.x,O E b F,O a1 i a2,bl.x,I6 m.cnt,bj.x,O bh d bi] 41));have n:=gA H;have f:Xo (∀W,zc ak W->Box W w.heap.size [bk.x,I6 m.aB,P.x,h.x,a9.x,O E b F,O a1 i a2,bl.x,I6 m.cnt,bj.x,O bh d bi]):=dD<|fun W c=>by
  rw[<-H]at c;exact(Box.aE _ _ _ rfl).aA c
 have ci:=dD H;clear H;go_enter func41,ntmps41;go_upto_region 1 with fail;rw[ci.out];have f1:=(f _ (zc.refl _)).c 0 rfl;have f2:=(f _ (zc.refl _)).c 1 rfl;have p:=c4.out ak n.out;go_wp2_with fail;refine p.mono ?_;clear p f1 f2;rintro e ek ⟨rfl,j⟩;have ed:=dD j;have dl:=(f _ j).c 2 rfl;have p:=c5.out ek (n.trans j);go_wp2_with fail;refine p.mono ?_;clear p dl j;rintro e el ⟨rfl,j⟩;have bp:=dD (ed.trans j);clear j;have dm:=(f _ bp).c 3 rfl;have f3:=(f _ bp).c 4 rfl;have p:=c6.out el (n.trans bp);go_wp2_with fail;refine p.mono ?_;clear p dm f3;rintro e em ⟨rfl,j⟩;have bq:=dD (bp.trans j);clear j;have dn:=(f _ bq).c 5 rfl;have dp:=(f _ bq).c 6 rfl;have p:=c7.out em (n.trans bq);go_wp2_with fail;refine p.mono ?_;clear p dn dp;rintro e en ⟨rfl,j⟩;have br:=dD (bq.trans j);clear j;have bm:=(f _ br).c 7 rfl;have aa:=(f _ br).c 8 rfl;have p:=c8.out en (n.trans br);go_wp2_with fail;refine p.mono ?_;clear p bm aa;rintro e f4 ⟨rfl,j⟩;have aj:=dD (br.trans j);clear j;have dl:=(f _ aj).c 2 rfl;have dm:=(f _ aj).c 3 rfl;have dn:=(f _ aj).c 5 rfl;have aa:=(f _ aj).c 8 rfl;go_wp2;clear dl dm dn aa cn co cp;go_loopg [68] b (fun av df wr=>∃l:Nat,l<=b/\b - l<=av/\df=I6 l/\Xo (zc ak wr))
 exact⟨0,nZ _,Wm,rfl,aj⟩;obtain⟨l,ey,ex,rfl,r⟩:=hrel;by_cases a3:l<b
 ·have az:=kC a3
  have ab:Xo (l<m.db.length):=dD<|Rx cb.out a3;obtain⟨cy,dq⟩:∃cy,Xo (m.db[l]? =Xa cy):=⟨_,gE ab⟩;obtain⟨dt,S,T,U,X,Y,Z,I,a0,rfl,rfl,N⟩:=ae.out l cy dq.out;have Q:Xo ((!z4 m.fl (l:Int) && !([S,T,U,X,Y,Z,I,a0] == zq))=Xd):=dD<|by
   have:=zoc eh ab.out;unfold zdc at this;rw[gD,dq.out]at this;exact this
  obtain⟨al,am,an,ao,ap,aq,ar,au⟩:=N wr (n.trans r);have a7:=fun W=>QJ 9998 S T U X Y Z I a0 0 0 0 0 0 0 0 0 W;simp only[zg5]at a7;obtain⟨eg,cd⟩:=kA ([S,T,U,X,Y,Z,I,a0] == zq);rw[cd.out]at a7 Q;clear N;go_upto_region 21 with fail;refine nW fun R a=>?_;have ee:=xA a;have k:=gT a r;clear a al am an ao ap aq ar au;have g:=ah.out R (l:Int) (n.trans k);obtain⟨ej,bo⟩:=kA (z4 m.fl (l:Int));rw[bo.out]at g Q;have bm:=(f _ k).c 7 rfl;have aa:=(f _ k).c 8 rfl;go_wp2_with fail;refine g.mono ?_;clear g bm aa;rintro e bu ⟨rfl,G⟩;have bs:=dD (k.trans G);have ef:=ee.aA G;obtain⟨e0,f8,f9,fa,fb,fc,fd,fe⟩:=ef.c8;clear G;cases ej with
  | true=>
   clear a7;go_wp2;go_roundg (b -(l+1));exact⟨l+1,Wm,Wm,Gn,bs⟩;omega
  | false=>
   cases eg with
   | true=>
    go_wp2;go_roundg (b -(l+1));exact⟨l+1,Wm,Wm,Gn,bs⟩;omega
   | false=>cases Q.out
 have az:=kD a3;have dp:=(f _ r).c 6 rfl;go_wp2;clear dp;go_loopg [88] i (fun av di wr=>∃L:Nat,L<=i/\i - L<=av/\di=I6 L/\Xo (zc ak wr))
 exact⟨0,nZ _,Wm,rfl,r⟩;obtain⟨L,f7,ev,rfl,r⟩:=hrel;by_cases z:L<i
 ·have a4:=kC z
  obtain⟨cz,dr⟩:∃cz,Xo (m.dq[L]? =Xa cz):=⟨_,gE (Rx cc.out z)⟩;have bo:=zoI ei dr.out;obtain⟨dt,cv,S,T,U,X,Y,Z,I,a0,rfl,rfl,N⟩:=ag.out L cz dr.out;obtain⟨al,am,an,ao,ap,aq,ar,au,cq⟩:=N wr (n.trans r);have g:=fun W c=>ah.out W cv c;dsimp only at bo;rw[bo]at g;clear N;go_upto_region 27 with fail;obtain⟨R,a⟩:=kB (wr.alloc (Xk #[I6 cv,U8 S,U8 T,U8 U,U8 X,U8 Y,U8 Z,U8 I,U8 a0] 88));have e0:=((show Box R wr.heap.size [I6 cv,U8 S,U8 T,U8 U,U8 X,U8 Y,U8 Z,U8 I,U8 a0] by rw[<-a];exact Box.aE _ _ _ rfl)).c 0 rfl;have k:=gT a r;rw[a];clear a al am an ao ap aq ar au cq;have g:=g R (n.trans k);have bm:=(f _ k).c 7 rfl;have aa:=(f _ k).c 8 rfl;go_wp2_with fail;refine g.mono ?_;clear g bm aa e0;rintro e bu ⟨rfl,G⟩;have bs:=dD (k.trans G);clear G;go_wp2;go_roundg (i -(L+1));exact⟨L+1,Wm,Wm,Gn,bs⟩;omega
 have a4:=kD z;have dk:=(f _ r).c 10 rfl;go_wp2;clear dk;go_loopg [106] d (fun av bg wr=>∃v:Nat,v<=d/\d - v<=av/\bg=I6 v/\Xo (zc ak wr))
 exact⟨0,nZ _,Wm,rfl,r⟩;obtain⟨v,f6,ew,rfl,r⟩:=hrel;by_cases q:v<d
 ·have a5:=kC q
  obtain⟨x,cu⟩:∃x,e9[v]? =Xa x:=⟨_,gE (Rx cj.out q)⟩;obtain⟨s,b8⟩:∃s,m.sp[v]? =Xa s:=⟨_,gE (Rx ac.out q)⟩;have t:=dD<|cf.out v x s cu b8;obtain⟨dv,dw,cr⟩:=zrk (cl s (mG b8));have c9:Xo (s.aF=Xd->x.ar.n=0/\s.tb.all (·.isEmpty)=Xc):=show _->_ from fun dy=>⟨by rw[t.ar.n,(cr dy).1];rfl,(cr dy).2⟩;obtain⟨dt,rfl,N⟩:=ce.out v x cu;obtain⟨al,am,an,ao,ap,aq,ar,au,cq,eq⟩:=N wr (n.trans r);clear N cu b8 cr;have ca:=dD t.aF;have c3:=dD<|fun W (c:zc w W)=>zbY _ s.aC W (t.aA c).ar (show Cap (x.ar.x)from t.cap) dv;have ch:=dD<|fun W (c:zc w W)=>zgg x.tab s.tb W (t.aA c).tb dw;have cg:=dD<|fun W (c:zc w W)=>zi7 x.tab s.tb W (t.aA c).tb;clear dv dw;go_upto_region 35 with fail;refine nW fun R a=>?_;have k:=gT a r;obtain⟨ez,af⟩:=kA wr.heap.size;have bt:Xo (∀W,zc R W->Box W ez [Xh x.aF,x.ar.x,x.t0.x,x.t1.x,x.t2.x,x.t3.x,x.t4.x,x.t5.x,x.t6.x,x.t7.x]):=dD<|fun W c=>by
   rw[<-a]at c;exact(Box.aE _ _ _ af.symm).aA c
  rw[af.out];clear a al am an ao ap aq ar au cq eq;have ax:=c3.out R (n.trans k);have bf:=(bt _ (zc.refl _)).c 1 rfl;go_wp2_with fail;refine ax.mono ?_;clear ax bf;rintro e bu ⟨rfl,G⟩;have eb:=dD G;clear G;go_upto_region 36 with fail;obtain⟨ds,K⟩:=kB (bu.alloc (Xk #[I6 0,I6 (wrL s.aC).2] 150));have ck:=gT K eb;have ea:Box ds bu.heap.size [I6 0,I6 (wrL s.aC).2]:=by rw[<-K];exact Box.aE _ _ _ rfl
  have er:=ea.c 0 rfl;rw[K];clear K;have bb:=ch.out ds (n.trans (k.trans ck));have M:=bt.out _ ck.out;obtain⟨_,_,da,db,dc,dd,de,dg,dh,dj⟩:=M.k10;go_wp2_with fail;refine bb.mono ?_;clear bb er da db dc dd de dg dh dj;rintro e eo ⟨rfl,dx⟩;have ai:=dD (ck.trans dx);clear dx;have c0:=(bt _ ai).c 0 rfl;rw[ca.out]at c0;cases a6:s.aF with
  | true=>
   rw[a6]at c0;go_wp2;go_roundg (d -(v+1));exact⟨v+1,Wm,Wm,Gn,k.trans ai⟩;omega
  | false=>
   rw[a6]at c0;obtain⟨dz,aw⟩:=c9.out a6;have D:=bt.out _ ai.out;have bf:=D.c 1 rfl;(try simp only[Sli.x]at bf);rw[dz]at bf;have a8:=cg.out eo (n.trans (k.trans ai));rw[aw]at a8;obtain⟨_,_,da,db,dc,dd,de,dg,dh,dj⟩:=D.k10;clear dz aw;go_wp2_with fail;refine a8.mono ?_;clear a8 c0 bf da db dc dd de dg dh dj;rintro e f5 ⟨rfl,gA⟩;have ec:=dD (ai.trans gA);clear gA;go_wp2;go_roundg (d -(v+1));exact⟨v+1,Wm,Wm,Gn,k.trans ec⟩;omega
 have a5:=kD q;go_wp2;go_ret;exact⟨rfl,n.trans r⟩
def zaj (m:Ma) (kind k:Int) (p:Nat):Nat:=qA ((m.sp.take p).map zf) kind k
theorem zjs (h:m.sp[k]? =Xa s):zaj m z H (k+1)=zaj m z H k+Zg (zf s) z H 64:=by grind [zaj,qA,Yl]
theorem zfC:zaj m z H m.sp.length=Qv m z H:=by unfold zaj Qv;rw[List.take_length]
theorem zh8 {kind k:Int} (p:Nat):zaj m kind k p<=64*p:=by grind [zaN,zf,Yh,List.length_take,zaj]
theorem zfb (V:MaV) (m:Ma) (kind k:Int) (w:Xn) (hm:zP w V m) (h4:m.sp.length<=4) (h8:∀s∈m.sp,∀h∈s.tb,h.length<=8):
  Xp prog 43 #[Xi (mL V m).toArray,I6 kind,I6 k] w fun e w'=>e= Xl (I6 (Qv m kind k:Int))/\zc w w':=by
 obtain⟨-,-,-,-,-,-,-,-,n9⟩:=hm.ns;obtain⟨xs,hxl,hrow,hsp⟩:=hm.aT;have HR:Xo (∀(j:Nat) x,xs[j]? =Xa x->∃ad,V.sp.a=Xa ad/\∀W,zc w W->zgY W (ad.add (j*10)) x):=dD<|hrow;have HS:Xo (∀(i:Nat) x s,xs[i]? =Xa x->m.sp[i]? =Xa s->jN w x s):=dD<|hsp;obtain⟨N,HN⟩:=kA m.sp.length;have hN4:N<=4:=Ry HN.out h4;have HXL:Xo (xs.length=N):=dD<|Rx hxl HN.out;have H8:Xo (∀s∈m.sp,∀h∈s.tb,h.length<=8):=dD<|h8;obtain⟨vf,vs,vsb,vsq,vdb,vdq,vfl,vca,⟨spa,spn,spc⟩⟩:=V;dsimp only[mL]at n9 HR⊢;obtain rfl:spn=N:=Rx n9 HN.out;clear hm hrow hsp hxl n9 h8 h4;obtain⟨W0,hW0⟩:=kB (w.alloc (Xk #[vf.x,I6 m.aB,vs.x,vsb.x,vsq.x,vdb.x,vdq.x,vfl.x,I6 m.cnt,vca.x,O spa spn spc] 41));have HG0:=gA hW0;have HW0:Xo (_=W0):=hW0;have X0:=xA hW0;clear hW0;go_enter func43,ntmps43;go_upto_region 2 with fail;rw[HW0.out];have x10:=X0.c 10 rfl;go_wp2;clear x10;go_loopg [7,15] spn (fun gg s7 s15 wr=>∃p:Nat,p<=spn/\spn - p<=gg/\s15=I6 p/\s7=I6 (zaj m kind k p:Int)/\Xo (zc w wr))
 exact⟨0,nZ _,Wm,rfl,rfl,HG0⟩;obtain⟨p,hp,hg,rfl,rfl,GW⟩:=hrel;by_cases hlt:p<spn
 ·have hltz:=kC hlt
  obtain⟨x,hx⟩:∃x,xs[p]? =Xa x:=⟨_,gE (Rx HXL.out hlt)⟩;obtain⟨s,hs⟩:∃s,m.sp[p]? =Xa s:=⟨_,gE (Rx HN.out hlt)⟩;have HAT:Xo (jN w x s):=HS.out p x s hx hs;have HSS:Xo (m.sp[p]? =Xa s):=hs;obtain⟨ad,rfl,hl⟩:=HR.out p x hx;have hcl:=hl wr GW.out;obtain⟨d0,d1,d2,d3,d4,d5,d6,d7,d8,d9⟩:=hcl;clear hl hx hs;have HF64:Xo (∀j,j<64->(zas s.tb)[j]? =Xa (zf s j)):=show∀j,_ from fun j hj=>zdG s.tb hj;have hfl:∀W,zc w W->Xp prog 14 #[Xi #[x.t0.x,x.t1.x,x.t2.x,x.t3.x,x.t4.x,x.t5.x,x.t6.x,x.t7.x]] W fun e w'=>e= Xl (Xi (qG (zas s.tb)).toArray)/\zc W w':=fun W hW=>zcP x.tab s.tb W ((HAT.aA hW).tb) (H8 s (mG HSS));have HFL:Xo (∀W,zc w W->Xp prog 14 #[Xi #[x.t0.x,x.t1.x,x.t2.x,x.t3.x,x.t4.x,x.t5.x,x.t6.x,x.t7.x]] W fun e w'=>e= Xl (Xi (qG (zas s.tb)).toArray)/\zc W w'):=dD<|hfl;clear hfl;have hb0:=zh8 (m:=m) (kind:=kind) (k:=k) p;have HSU:Xo (zaj m kind k (p+1)=zaj m kind k p+Zg (zf s) kind k 64):=zjs HSS.out;obtain⟨H0,hH0⟩:=kB (zaj m kind k p);rw[hH0]at hb0 HSU⊢;clear hH0;go_upto_region 5 with fail;refine nW fun W1 hW1=>?_;have G1:=gT hW1 GW;have S1:=xA hW1;clear hW1 d0 d1 d2 d3 d4 d5 d6 d7 d8 d9;obtain⟨_,_,s2,s3,s4,s5,s6,s7,s8,s9⟩:=S1.k10;go_wp2_with fail;refine(HFL W1 G1).mono ?_;clear s2 s3 s4 s5 s6 s7 s8 s9;rintro e W2 ⟨rfl,g2⟩;have G2:=dD (G1.trans g2);clear g2;go_wp2;go_loopg [7,22] 64 (fun gg s7 s22 wr=>∃n:Nat,n<=64/\64 - n<=gg/\s22=I6 n/\s7=I6 ((H0+Zg (zf s) kind k n:Nat):Int)/\Xo (zc w wr))
  exact⟨0,nZ _,Wm,rfl,rfl,G2⟩;obtain⟨n,hn,hg2,rfl,rfl,GW2⟩:=hrel;by_cases hlt2:n<64
  ·have hltz2:(n:Int)<64:=Wm
   obtain⟨e,HE⟩:=kA (zf s n);have HZF:Xo ((zas s.tb)[n]? =Xa e):=dD (by rw[HF64.out n hlt2,HE.out]);have hcl:=znY (zf s) kind k n;have HCS:Xo (Zg (zf s) kind k (n+1)=Zg (zf s) kind k n+(isE e kind k).toNat):=dD (by rw[<-HE.out];rfl);obtain⟨c0,hc0⟩:=kB (Zg (zf s) kind k n);rw[hc0]at hcl HCS⊢;clear hc0;go_upto_region 8 with(refine zbP rfl (.tmp 21) (.tmp 22) rfl (zas s.tb) rfl n rfl hlt2 HZF.out ?_)
   refine nW fun W3 hW3=>?_;have G3:=gT hW3 GW2;have E3:=xA hW3;clear hW3;obtain⟨e0,e1⟩:=E3.k2;by_cases h1:e.kind=kind
   ·have h1e:(e.kind == kind)=Xc:=by simp[h1]
    by_cases h2:e.n=k
    ·have h2e:(e.n == k)=Xc:=by simp[h2]
     have HV:Xo (Zg (zf s) kind k (n+1)=c0+1):=dD (by rw[HCS.out];simp[isE,h1,h2]);clear h1 h2;go_wp2;go_roundg (64 -(n+1));exact⟨n+1,Wm,Wm,Gn,by rw[HV.out];go_num,G3⟩;omega
    have h2e:(e.n == k)=Xd:=(by simp[h2]);have HV:Xo (Zg (zf s) kind k (n+1)=c0):=dD (by rw[HCS.out];simp[isE,h2]);clear h1 h2;go_wp2;go_roundg (64 -(n+1));exact⟨n+1,Wm,Wm,Gn,by rw[HV.out];go_num,G3⟩;omega
   have h1e:(e.kind == kind)=Xd:=(by simp[h1]);have HV:Xo (Zg (zf s) kind k (n+1)=c0):=dD (by rw[HCS.out];simp[isE,h1]);clear h1;go_wp2;go_roundg (64 -(n+1));exact⟨n+1,Wm,Wm,Gn,by rw[HV.out];go_num,G3⟩;omega
  have hltz2:¬(n:Int)<64:=Wm;obtain rfl:n=64:=Wm;go_wp2;go_roundg (spn -(p+1));exact⟨p+1,Wm,Wm,Gn,by rw[HSU.out];go_num,GW2⟩;omega
 have hltz:=kD hlt;obtain rfl:p=spn:=Wm;have HF:Xo (zaj m kind k p=Qv m kind k):=dD<|Ry HN.out zfC;rw[HF.out];go_wp2;go_ret;exact⟨rfl,GW⟩
theorem zje (V:MaV) (m:Ma) (x:On) (e:En) (w) (L:zP w V m) (ap:0<=e.n) (b:zal m x e=0):
  Xp prog 42 #[Xi #[O V.f.a V.f.n V.f.c,Xe Xf m.aB,O V.s.a V.s.n V.s.c,O V.sb.a V.sb.n V.sb.c,O V.sq.a V.sq.n V.sq.c,O V.db.a V.db.n V.db.c,O V.dq.a V.dq.n V.dq.c,O V.fl.a V.fl.n V.fl.c,Xe Xf m.cnt,O V.ca.a V.ca.n V.ca.c,O V.sp.a V.sp.n V.sp.c],Xi (onv x).toArray,Xi #[Xe Xf e.kind,Xe Xf e.n,Xh e.wr]] w fun ax w'=>ax= Xl (Xe Xf 0)/\zc w w':=by
 obtain⟨Q,R,-⟩:=L.ns;have z:=dD L.bA;obtain⟨u,l,i⟩:=e;obtain⟨T,s,g,a,c,j⟩:=x;unfold zal at b;simp only at b ap;obtain⟨W,A⟩:=kB m.fs.length;obtain⟨aa,B⟩:=kB m.sl.length;rw[A]at b Q;rw[B]at b R;have a8:=dD Q;have a9:=dD R;clear Q R;split at b;·cases b
 obtain rfl:T=Xc:=by simp_all
 obtain⟨h,d⟩:=kB (((w.alloc (Xk #[O V.f.a V.f.n V.f.c,Xe Xf m.aB,O V.s.a V.s.n V.s.c,O V.sb.a V.sb.n V.sb.c,O V.sq.a V.sq.n V.sq.c,O V.db.a V.db.n V.db.c,O V.dq.a V.dq.n V.dq.c,O V.fl.a V.fl.n V.fl.c,Xe Xf m.cnt,O V.ca.a V.ca.n V.ca.c,O V.sp.a V.sp.n V.sp.c] 41)).alloc (Xk (onv ⟨Xc,s,g,a,c,j⟩).toArray 67)).alloc (Xk #[Xe Xf u,Xe Xf l,Xh i] 55));have y:Xo (zc w h):=dD<|by rw[<-d];exact((za _ _).trans (za _ _)).trans (za _ _)
 have X:Xo (Box h w.heap.size [O V.f.a V.f.n V.f.c,Xe Xf m.aB,O V.s.a V.s.n V.s.c,O V.sb.a V.sb.n V.sb.c,O V.sq.a V.sq.n V.sq.c,O V.db.a V.db.n V.db.c,O V.dq.a V.dq.n V.dq.c,O V.fl.a V.fl.n V.fl.c,Xe Xf m.cnt,O V.ca.a V.ca.n V.ca.c,O V.sp.a V.sp.n V.sp.c]):=dD<|by rw[<-d];exact((Box.aE _ _ _ rfl).alloc _).alloc _
 have k:Xo (Box h (w.heap.size+1) [Xh Xc,Xh s,Xh g,Xh a,Xe Xf c,Xe Xf j]):=dD<|by rw[<-d];exact(Box.aE _ _ _ Sm).alloc _
 have Y:Xo (Box h (w.heap.size+2) [Xe Xf u,Xe Xf l,Xh i]):=dD<|by rw[<-d];exact Box.aE _ _ _ Sm
 have C:=dD d;clear d L;go_enter func42,ntmps42;go_upto_region 1 with fail;rw[C.out];have S:=X.c 0 rfl;have a2:=X.c 2 rfl;obtain⟨ay,_,a3,a4,a5,a6⟩:=k.k6;obtain⟨az,b0,a7⟩:=Y.c3;rw[a8.out]at S;rw[a9.out]at a2;split at b
 ·next v=>
  have H:(u == 2)=Xc:=by simp[v]
  split at b;·cases b
  next a0=>
  have K:decide ((aa:Int)<=l)=Xd:=by simp;omega
  obtain rfl:a=Xd:=by simp_all
  go_wp2;go_ret;exact⟨rfl,y⟩
 next v=>
 have H:(u == 2)=Xd:=by simp[v]
 split at b;·cases b
 next a0=>
 have K:decide ((W:Int)<=l)=Xd:=by simp;omega
 obtain⟨r,rfl⟩:∃r:Nat,l=(r:Int):=⟨l.toNat,by omega⟩;obtain⟨q,M⟩:∃q,m.fs[r]? =Xa q:=⟨_,gE (by omega)⟩;obtain⟨b5,p,a1⟩:=z.out r q M;rw[p]at S;obtain⟨af,ag,ah,ai,aj,ak,al,am,an,ao,E,F,G⟩:=a1 h y.out;rw[zK M]at b;have au:(decide (0<=c)=Xd/\(q.f == -1)=Xc/\a=Xd/\(i=Xc->g=Xc/\decide (1<q.r)=Xd))\/(decide (0<=c)=Xc/\(q.f == c)=Xd/\(q.f == -1)=Xc/\a=Xd/\(i=Xc->g=Xc/\decide (1<q.r)=Xd))\/(decide (0<=c)=Xc/\(q.f == c)=Xc/\(q.x == j)=Xc/\(q.f == -1)=Xd/\(i=Xc->g=Xc/\a=Xc)):=by
  split at b;·cases b
  cases i <;> cases g <;> cases a <;> simp at b⊢<;> grind
 have aq:(r:Int)< (W:Int):=by omega
 clear b M v a0 a1 p;go_upto_region 10 with fail;obtain⟨ab,f⟩:=kB (h.alloc (Xk (frv q).toArray 53));obtain⟨b7,n⟩:=kA h.heap.size;have U:=gT f y;have D:=xP f n;have t:=yA f k;have ac:=yA f Y;have N:_=ab:=f;simp only[frv]at N;rw[N,n.out];clear N f af ag ah ai aj ak al am an ao E F G S a2 ay a3 a4 a5 a6 az b0 a7;have b8:=D.c 8 rfl;have av:=D.c 11 rfl;have aw:=D.c 12 rfl;obtain⟨_,_,a3,a4,a5,a6⟩:=t.k6;have a7:=ac.c 2 rfl;rcases au with⟨Z,I,rfl,P⟩|⟨Z,I,ae,rfl,P⟩|⟨Z,I,ae,b6,P⟩;all_goals
  cases i;·(try cases a) <;>(go_wp2;go_ret;exact⟨rfl,U⟩)
  obtain⟨rfl,ar⟩:=P rfl;(try subst ar);go_wp2;go_ret;exact⟨rfl,U⟩
theorem zid (h:tbW s.tb=0) (n:Nat):enW (zf s n)=0:=by
 unfold zf zbF;have a:=ZY.1 h;have:ziH (s.tb[n / 8]?.getD []):=by
  cases e:s.tb[n / 8]? with
  | none=>exact .inl rfl
  | some x=>exact a x (mG e)
 exact this.get (n % 8)
theorem zpZ (h:enW Z=0):0<=Z.n:=by
 unfold enW at h;split at h
 ·split at h
  ·omega
  cases h
 cases h
structure Pts (m:Ma):Prop where
 s4:m.sp.length<=4
 f40:m.fs.length<=40
 fr:∀(k:Nat) f,m.fs[k]? =Xa f->0<=f.r/\f.r<=1000
 fl:m.fl.length<=5/\∀f∈m.fl,f.bl.length<=12
 ar:∀s∈m.sp,(wrL s.aC).1=0/\tbW s.tb=0
theorem zhz (h:zaq m=0):Pts m:=by
 unfold zaq at h;rw[zj]at h;have a:ZW m.fs m.aB=0:=h _ Sm;have k:stW m.fl m.cnt=0:=h _ Sm;have x:(if 4<m.sp.length then(4:Int)else 0)=0:=h _ Sm;have c:=zj.1 (h (zF (m.sp.map spE)) Sm);obtain⟨⟨e,l,n⟩,g,p⟩:=(qC _ _).1 k;unfold ZW at a;split at a;·cases a
 rename_i q
 split at a
 ·rename_i i
  refine⟨?_,Wm,fun u f b=>?_,⟨e,fun f b=>?_⟩,fun s j=>?_⟩;·grind
  ·have t:=JN.1 i f (mG b)
   grind [frW,inB]
  ·obtain⟨d,v,w⟩:=g f b;have:=zgO d.1 d.2;omega
  have r:=c (spE s) (Xw.2 ⟨s,j,rfl⟩);grind [spE]
 grind
theorem tb8 (h:tbW G=0):∀x∈G,x.length<=8:=fun x a=>by
 rcases ZY.1 h x a with e|e;·rw[e];simp
 rw[e.1];omega
theorem zjM {l:List Ca} {c:Ca} (h:l[j]? =Xa c):zG (l.take (j+1)) z=zG (l.take j) z+(decide (c.fr=z)).toNat:=by unfold zG;rw[Yl,h];simp[List.countP_append,Yw,Bool.toNat]
theorem zn0 {l:List Ca} (j:Nat):zG (l.take j) z<=j:=nT Yz (by simp;omega)
def zpJ (m:Ma) (i:Nat):Option Ca:=if i=0 then Xb else m.ca[i - 1]?
theorem zqX (h:zbe m Xb m.ca=0):∀(i:Nat) c,m.ca[i]? =Xa c->caE m (zpJ m i) c=0:=by
 have a:∀i c,m.ca[i]? =Xa c->zbe m (zpJ m i) (m.ca.drop i)=0->caE m (zpJ m i) c=0/\zbe m (zpJ m (i+1)) (m.ca.drop (i+1))=0:=fun i c b b=>by grind [gS.1,gE,zpJ,Ys,zbe]
 have b:∀i,i<=m.ca.length->zbe m (zpJ m i) (m.ca.drop i)=0:=fun i=>by
  induction i with
  | zero=>exact fun _=>h
  | succ i b=>exact fun d=>(a i _ (gE Wm) (b Wm)).2
 grind
theorem zn3 {p:Option Ca} {c:Ca} (h:caE m p c=0):(0<=c.file/\c.file< (m.fl.length:Int)/\0<=c.idx/\c.idx<bkN m c.file/\0<=c.fr/\c.fr< (m.fs.length:Int))/\((zX m c.fr).r≠0/\(zX m c.fr).f=c.file/\(zX m c.fr).x=c.idx)/\∀q,p=Xa q->¬zY c<=zY q:=by
 unfold caE at h;split at h;·cases h
 grind
theorem Box.cH (h:Box w b [a0,a1,a2,a3,a4,a5,a6,a7,a8,a9,A]):w.cell? ⟨b,0,Xb⟩=Xa a0/\w.cell? ⟨b,1,Xb⟩=Xa a1/\w.cell? ⟨b,2,Xb⟩=Xa a2/\w.cell? ⟨b,3,Xb⟩=Xa a3/\w.cell? ⟨b,4,Xb⟩=Xa a4/\w.cell? ⟨b,5,Xb⟩=Xa a5/\w.cell? ⟨b,6,Xb⟩=Xa a6/\w.cell? ⟨b,7,Xb⟩=Xa a7/\w.cell? ⟨b,8,Xb⟩=Xa a8/\w.cell? ⟨b,9,Xb⟩=Xa a9/\w.cell? ⟨b,10,Xb⟩=Xa A:=⟨h.c 0 rfl,h.c 1 rfl,h.c 2 rfl,h.c 3 rfl,h.c 4 rfl,h.c 5 rfl,h.c 6 rfl,h.c 7 rfl,h.c 8 rfl,h.c 9 rfl,h.c 10 rfl⟩
theorem zcZ (V:MaV) (m:Ma) (w:Xn) (hm:zP w V m) (h0:maW m=0):
  Xp Tryz.prog 13 #[Xi #[O V.f.a V.f.n V.f.c,Xe Xf m.aB,O V.s.a V.s.n V.s.c,O V.sb.a V.sb.n V.sb.c,O V.sq.a V.sq.n V.sq.c,O V.db.a V.db.n V.db.c,O V.dq.a V.dq.n V.dq.c,O V.fl.a V.fl.n V.fl.c,Xe Xf m.cnt,O V.ca.a V.ca.n V.ca.c,O V.sp.a V.sp.n V.sp.c]] w fun e w'=>e= Xl (Xe Xf 0)/\zc w w':=by
 unfold maW at h0;rw[zj]at h0;have hp0:zaq m=0:=h0 _ Sm;have HP:Xo (Pts m):=zhz hp0;have HCE:Xo (∀(i:Nat) c,m.ca[i]? =Xa c->caE m (zpJ m i) c=0):=show∀i,_ from zqX (h0 _ Sm);have HPG:Xo (∀s∈m.sp,∀n,n<64->(zf s n).kind≠0->zal m (zl s.aC n) (zf s n)=0):=show∀s,_ from fun s hs n hn hk=>by
  have h1:=zj.1 (h0 (zF (m.sp.map (zdW m))) Sm) _ (Xw.2 ⟨s,hs,rfl⟩);have h2:=zj.1 h1 _ (Xw.2 ⟨n,Xy.2 hn,rfl⟩);rw[if_neg hk]at h2;exact h2
 have HRG:Xo (∀(i:Nat) c,m.ca[i]? =Xa c->0<=c.file/\c.file<5/\0<=c.idx/\c.idx<12):=show∀i,_ from fun i c hc=>by
  obtain⟨h1,-,-⟩:=zn3 (HCE.out i c hc);have h2:=HP.out.fl.1;have h3:bkN m c.file<=12:=by
   unfold bkN;rw[gD];cases e:m.fl[c.file.toNat]? with
   | none=>simp
   | some f=>have:=HP.out.fl.2 f (mG e);simp;omega
  omega
 have HFE:Xo (∀k,k<m.fs.length->frE m k=0):=show∀k,_ from fun k hk=>zj.1 (h0 (zF ((Yx m.fs.length).map (frE m))) Sm) _ (Xw.2 ⟨k,Xy.2 hk,rfl⟩);have HSE:Xo (∀k,k<m.sl.length->zk2 m k=0):=show∀k,_ from fun k hk=>zj.1 (h0 (zF ((Yx m.sl.length).map (zk2 m))) Sm) _ (Xw.2 ⟨k,Xy.2 hk,rfl⟩);have HM:Xo (zP w V m):=hm;obtain⟨n1,n2,-,-,-,-,n7,n8,n9⟩:=hm.ns;obtain⟨xs,hxl,hrow,hsp⟩:=hm.aT;have HFR:Xo (zaZ w V.f.a m.fs):=hm.bA;have HCA:Xo (zfZ w V.ca.a m.ca):=hm.cas;have HSL:Xo (zfX w V.s.a m.sl):=hm.sls;obtain⟨_,_,hfe,_,hfr⟩:=qE.rows hm.fl;have HFL:Xo (za0 w V.fl.a m.fl):=show za0 _ _ _ by
  simp only[vJ]at hfe;rw[hfe.1];exact hfr
 have hca5:m.ca.length<=5864062014805:=by have h:m.ca.length*24<=140737488355328:=hm.ca.2;omega
 have hsl5:m.sl.length<=9223372036854775807:=by have h:m.sl.length*8<=140737488355328:=hm.sl.2;omega
 have HPT:=zjd V m;have HXL:Xo (xs.length=m.sp.length):=hxl;have HRW:Xo (∀(j:Nat) x,xs[j]? =Xa x->∃ad,V.sp.a=Xa ad/\∀W,zc w W->zgY W (ad.add (j*10)) x):=show∀j,_ from hrow;have HSP:Xo (∀(i:Nat) x s,xs[i]? =Xa x->m.sp[i]? =Xa s->jN w x s):=show∀i,_ from hsp;obtain⟨⟨fa,fn,fc⟩,⟨sa,sn,sc⟩,vsb,vsq,vdb,vdq,⟨fla,fln,flc⟩,⟨caa,can,cac⟩,⟨spa,spn,spc⟩⟩:=V;dsimp only at n1 n2 n7 n8 n9 HFR HCA HSL HFL HRW;have HN1:Xo (m.fs.length=fn):=n1.symm;have HN2:Xo (m.sl.length=sn):=n2.symm;have HN7:Xo (m.fl.length=fln):=n7.symm;have HN8:Xo (m.ca.length=can):=n8.symm;have HN9:Xo (m.sp.length=spn):=n9.symm;have hb8:can<=5864062014805:=by rw[n8];exact hca5
 have hb2:sn<=9223372036854775807:=by rw[n2];exact hsl5
 have hsp4:spn<=4:=Rx n9 HP.out.s4;have hfn40:fn<=40:=Rx n1 HP.out.f40;obtain⟨W0,hW0⟩:∃W0,w.alloc (Xk #[O fa fn fc,Xe Xf m.aB,O sa sn sc,O vsb.a vsb.n vsb.c,O vsq.a vsq.n vsq.c,O vdb.a vdb.n vdb.c,O vdq.a vdq.n vdq.c,O fla fln flc,Xe Xf m.cnt,O caa can cac,O spa spn spc] 41)=W0:=⟨_,rfl⟩;have G0:=gA hW0;have X0:=xA hW0;have HW0:Xo (_=W0):=hW0;have hc:=HPT W0 (hm.aA G0.out) hp0;have HEN:Xo (∀W x e,zc w W->0<=e.n->zal m x e=0->Xp Tryz.prog 42 #[Xi #[O fa fn fc,Xe Xf m.aB,O sa sn sc,O vsb.a vsb.n vsb.c,O vsq.a vsq.n vsq.c,O vdb.a vdb.n vdb.c,O vdq.a vdq.n vdq.c,O fla fln flc,Xe Xf m.cnt,O caa can cac,O spa spn spc],Xi (onv x).toArray,Xi #[Xe Xf e.kind,Xe Xf e.n,Xh e.wr]] W fun r w'=>r= Xl (Xe Xf 0)/\zc W w'):=show∀W x e,_ from fun W x e hW h0 hz=>zje ⟨⟨fa,fn,fc⟩,⟨sa,sn,sc⟩,vsb,vsq,vdb,vdq,⟨fla,fln,flc⟩,⟨caa,can,cac⟩,⟨spa,spn,spc⟩⟩ m x e W (HM.out.aA hW) h0 hz;have HHO:Xo (∀W kind k,zc w W->Xp Tryz.prog 43 #[Xi #[O fa fn fc,Xe Xf m.aB,O sa sn sc,O vsb.a vsb.n vsb.c,O vsq.a vsq.n vsq.c,O vdb.a vdb.n vdb.c,O vdq.a vdq.n vdq.c,O fla fln flc,Xe Xf m.cnt,O caa can cac,O spa spn spc],Xe Xf kind,Xe Xf k] W fun e w'=>e= Xl (Xe Xf (Qv m kind k:Int))/\zc W w'):=show∀W,_ from fun W kind k hW=>zfb ⟨⟨fa,fn,fc⟩,⟨sa,sn,sc⟩,vsb,vsq,vdb,vdq,⟨fla,fln,flc⟩,⟨caa,can,cac⟩,⟨spa,spn,spc⟩⟩ m kind k W (HM.out.aA hW) HP.out.s4 (fun s hs=>tb8 (HP.out.ar s hs).2);clear hW0 hm n1 n2 n7 n8 n9 hxl hrow hsp hfe hfr h0 hp0 HPT hca5 hsl5;go_enter Tryz.func13,Tryz.ntmps13;go_upto_region 1 with fail;rw[HW0.out];clear HW0;obtain⟨x0,x1,x2,x3,x4,x5,x6,x7,x8,x9,x10⟩:=X0.out.cH;go_wp2_with fail;refine hc.mono ?_;clear hc x0 x1 x2 x3 x4 x5 x6 x7 x8 x9 x10;rintro e W1 ⟨rfl,g⟩;have G1:=dD (G0.out.trans g);have X1:=dD (X0.out.aA g);clear g G0 X0;have x9:=X1.out.c 9 rfl;go_wp2;clear x9;go_loopg [29] can (fun gg s29 wr=>∃i:Nat,i<=can/\can - i<=gg/\s29= Xe Xf i/\Xo (zc W1 wr))
 exact⟨0,nZ _,Wm,rfl,zc.refl _⟩;obtain⟨i,hi,hgg,rfl,GW⟩:=hrel;by_cases hlt:i<can
 ·have hltz:(i:Int)< (can:Int):=Wm
  obtain⟨c,HC⟩:∃c,Xo (m.ca[i]? =Xa c):=⟨_,gE (Rx HN8.out hlt)⟩;obtain⟨adc,hca,hl⟩:=HCA.out i c HC.out;subst hca;obtain⟨d0,d1,d2⟩:=hl wr (G1.out.trans GW.out);have HOK:Xo _:=zn3 (HCE.out i c HC.out);clear hl;go_upto_region 7 with fail;obtain⟨pc,HPC⟩:∃pc,Xo (wr.heap.size=pc):=⟨_,rfl⟩;obtain⟨W2,hW2⟩:∃W2,wr.alloc (Xk #[Xe Xf c.file,Xe Xf c.idx,Xe Xf c.fr] 108)=W2:=⟨_,rfl⟩;have g2:=gP hW2;have C2:=xP hW2 HPC;have G2:=dD (GW.out.trans g2);rw[hW2,HPC.out];clear hW2 g2 d0 d1 d2 GW HPC;obtain⟨⟨r0,r1,r2,r3,r4,r5⟩,⟨q0,q1,q2⟩,q3⟩:=HOK.out;obtain⟨jf,hjf⟩:∃jf:Nat,c.file=(jf:Int):=⟨c.file.toNat,Wm⟩;obtain⟨ff,hff⟩:∃ff,m.fl[jf]? =Xa ff:=⟨_,gE Wm⟩;obtain⟨adl,rfl,ba,bc,_,hlf⟩:=HFL.out jf ff hff;obtain⟨-,e1⟩:=hlf W2 (G1.out.trans G2.out);have hbk:bkN m c.file=(ff.bl.length:Int):=by unfold bkN;rw[hjf,tN,gD,hff];rfl
  obtain⟨bn,HBN⟩:∃bn,Xo (ff.bl.length=bn):=⟨_,rfl⟩;rw[HBN.out]at e1 hbk;obtain⟨j,hj⟩:∃j:Nat,c.fr=(j:Int):=⟨c.fr.toNat,Wm⟩;obtain⟨q,hq⟩:∃q,m.fs[j]? =Xa q:=⟨_,gE Wm⟩;have hqe:zX m c.fr=q:=by rw[hj];exact zK hq
  rw[hqe]at q0 q1 q2;obtain⟨adf,rfl,hlq⟩:=HFR.out j q hq;have HLQ:Xo (∀W,zc w W->_):=show∀W,_ from hlq;have HKY:Xo (∀q,zpJ m i=Xa q->¬zY c<=zY q):=show∀q,_ from q3;have hjz:(jf:Int)< (fln:Int):=Hm HN7.out;have hqz:(j:Int)< (fn:Int):=Hm HN1.out;have a1:decide ((jf:Int)<0)=Xd:=decide_eq_false Wm;have a2:decide (fln<=jf)=Xd:=decide_eq_false Wm;have a3:decide (c.idx<0)=Xd:=decide_eq_false Wm;have a4:decide ((bn:Int)<=c.idx)=Xd:=decide_eq_false Wm;have a5:decide ((j:Int)<0)=Xd:=decide_eq_false Wm;have a6:decide (fn<=j)=Xd:=decide_eq_false Wm;have x0:=(X1.out.aA G2.out).c 0 rfl;have x7:=(X1.out.aA G2.out).c 7 rfl;obtain⟨c0,c1,c2⟩:=C2.out.c3;rw[hjf]at c0;rw[hj]at c2;have HJ:Xo (c.fr=(j:Int)):=hj;have k1e:(q.r == 0)=Xd:=Si q0;have k2e:(q.f != c.file)=Xd:=Si q1;have k3e:(q.x != c.idx)=Xd:=Si q2;clear hff hlf r0 r1 r2 r3 r4 r5 q0 q1 q2 q3 hqe hq HOK hj hlq hjf hbk;go_upto_region 9 with(go_quiet (fail))
  clear a1 a2 a3 a4 a5 a6 x0 x7 c0 c1 c2 e1;obtain⟨W3,hW3⟩:∃W3,W2.drewN nq=W3:=⟨_,rfl⟩;have g3:zc W2 W3:=by rw[<-hW3];exact bD (bR _ _) _
  have G3:=dD (G2.out.trans g3);have C3:=dD (C2.out.aA g3);rw[hW3];clear hW3 g3 G2 C2;obtain⟨d0,d1,d2,d3,d4,d5,d6,d7,d8,d9,d10,d11,d12⟩:=HLQ.out W3 (G1.out.trans G3.out);have c2:=C3.out.c 2 rfl;rw[HJ.out]at c2;have x0:=(X1.out.aA G3.out).c 0 rfl;go_upto_region 10 with fail;obtain⟨pq,HPQ⟩:∃pq,Xo (W3.heap.size=pq):=⟨_,rfl⟩;obtain⟨W4,hW4⟩:∃W4,W3.alloc (Xk #[Xe Xg q.p.b0,Xe Xg q.p.b1,Xe Xg q.p.b2,Xe Xg q.p.b3,Xe Xg q.p.b4,Xe Xg q.p.b5,Xe Xg q.p.b6,Xe Xg q.p.b7,Xe Xf q.r,Xh q.u,Xh q.d,Xe Xf q.f,Xe Xf q.x] 53)=W4:=⟨_,rfl⟩;have g4:=gP hW4;have Q4:=xP hW4 HPQ;have G4:=dD (G3.out.trans g4);have C4:=dD (C3.out.aA g4);rw[hW4,HPQ.out];clear hW4 g4 x0 c2 G3 C3 HPQ d0 d1 d2 d3 d4 d5 d6 d7 d8 d9 d10 d11 d12;have q8:=Q4.out.c 8 rfl;have q11:=Q4.out.c 11 rfl;have q12:=Q4.out.c 12 rfl;obtain⟨c0,c1⟩:=C4.out.k2;go_upto_region 12 with fail;clear k1e k2e k3e q8 q11 q12 Q4;obtain⟨r0,r1,r2,r3⟩:=HRG.out i c HC.out;have x9:=(X1.out.aA G4.out).c 9 rfl;by_cases h0:i=0
  ·subst h0;go_quiet (fail);go_wp2;go_roundg (can -(0+1));exact⟨0+1,Wm,Wm,Gn,G4.out.trans (show Below _ _ _ from bD (bR _ _) _)⟩;omega
  obtain⟨i',rfl⟩:∃i',i=i'+1:=⟨i - 1,Wm⟩;obtain⟨c',HC'⟩:∃c',Xo (m.ca[i']? =Xa c'):=⟨_,gE (by rw[HN8.out];omega)⟩;obtain⟨_,he,hl⟩:=HCA.out i' c' HC'.out;cases he;obtain⟨e0,e1,-⟩:=hl W4 (G1.out.trans G4.out);obtain⟨s0,s1,s2,s3⟩:=HRG.out i' c' HC'.out;have hiz:(((i'+1:Nat):Int) - 1)=(i':Int):=Wm;have hil:(i':Int)< (can:Int):=Wm;have hpz:(0:Int)< ((i'+1:Nat):Int):=Wm;have hkd:decide (100*c.file+c.idx<=100*c'.file+c'.idx)=Xd:=decide_eq_false (HKY.out c' (by unfold zpJ;rw[if_neg Wm];exact HC'.out));clear hl h0;go_quiet (fail);go_wp2;go_roundg (can -(i'+1+1));exact⟨i'+1+1,Wm,Wm,Gn,G4.out.trans (show Below _ _ _ from bD (bR _ _) _)⟩;omega
 have hltz:¬(i:Int)< (can:Int):=Wm;have x10:=(X1.out.aA GW.out).c 10 rfl;obtain⟨WC,rfl⟩:∃WC,WC=wr:=⟨_,rfl⟩;go_wp2;clear x10;go_loopg [134] spn (fun gg s134 wr=>∃p:Nat,p<=spn/\spn - p<=gg/\s134= Xe Xf p/\Xo (zc W1 wr))
 exact⟨0,nZ _,Wm,rfl,GW.out⟩;obtain⟨p,hp,hgp,rfl,GP⟩:=hrel;clear GW;by_cases hlp:p<spn
 ·have hlpz:(p:Int)< (spn:Int):=Wm
  obtain⟨x,hx⟩:∃x,xs[p]? =Xa x:=⟨_,gE (by rw[HXL.out,HN9.out];exact hlp)⟩;obtain⟨s,HS⟩:∃s,Xo (m.sp[p]? =Xa s):=⟨_,gE (Rx HN9.out hlp)⟩;have HAT:Xo (jN w x s):=HSP.out p x s hx HS.out;obtain⟨ad,rfl,hl⟩:=HRW.out p x hx;obtain⟨d0,d1,d2,d3,d4,d5,d6,d7,d8,d9⟩:=hl wr (G1.out.trans GP.out);have hsm:=mG HS.out;have HRT:Xo ((wrL s.aC).1=0/\tbW s.tb=0):=HP.out.ar s hsm;have HPS:Xo (∀n,n<64->(zf s n).kind≠0->zal m (zl s.aC n) (zf s n)=0):=show∀n,_ from HPG.out s hsm;have HON:Xo (∀W,zc w W->Xp Tryz.prog 16 #[O x.ar.a x.ar.n x.ar.c] W fun e w'=>e= Xl (Xi (zz (tab (zl s.aC))).toArray)/\zc W w'):=show∀W,_ from fun W hW=>Ze _ s.aC W (HAT.out.ar.aA hW) (jJ.1 HRT.out.1).2.cA;have HFT:Xo (∀W,zc w W->Xp Tryz.prog 14 #[Xi #[O x.t0.a x.t0.n x.t0.c,O x.t1.a x.t1.n x.t1.c,O x.t2.a x.t2.n x.t2.c,O x.t3.a x.t3.n x.t3.c,O x.t4.a x.t4.n x.t4.c,O x.t5.a x.t5.n x.t5.c,O x.t6.a x.t6.n x.t6.c,O x.t7.a x.t7.n x.t7.c]] W fun e w'=>e= Xl (Xi (qG (zas s.tb)).toArray)/\zc W w'):=show∀W,_ from fun W hW=>zcP x.tab s.tb W ((HAT.out.aA hW).tb) (tb8 HRT.out.2);have hz:=zbW;obtain⟨Z0,HZ0⟩:∃Z0,Xo (zz (tab fun _=>on0)=Z0):=⟨_,rfl⟩;rw[HZ0.out]at hz;have HZL:Xo (Z0.length=384):=show _=_ by rw[<-HZ0.out,Zs]
  have HPL:Xo ((zz (tab (zl s.aC))).length=384):=Zs _;have HPO:Xo (∀v∈zz (tab (zl s.aC)),v.oneCell'=Xc):=JT _;have HCO:Xo (∀k,k<64->∀(i:Nat) u,(onv (zl s.aC k))[i]? =Xa u->(zz (tab (zl s.aC)))[k*6+i]? =Xa u):=show∀k,_ from fun k hk i u hu=>Qs (zaA hk) i _ hu;generalize zz (tab (zl s.aC))=CO at HON HPL HPO HCO;clear hl hx hsm;go_upto_region 18 with fail;obtain⟨px,HPX⟩:∃px,Xo (wr.heap.size=px):=⟨_,rfl⟩;obtain⟨W5,hW5⟩:∃W5,wr.alloc (Xk #[Xh x.aF,O x.ar.a x.ar.n x.ar.c,O x.t0.a x.t0.n x.t0.c,O x.t1.a x.t1.n x.t1.c,O x.t2.a x.t2.n x.t2.c,O x.t3.a x.t3.n x.t3.c,O x.t4.a x.t4.n x.t4.c,O x.t5.a x.t5.n x.t5.c,O x.t6.a x.t6.n x.t6.c,O x.t7.a x.t7.n x.t7.c] 63)=W5:=⟨_,rfl⟩;have g5:=gP hW5;have S5:=xP hW5 HPX;have G5:=dD (GP.out.trans g5);rw[hW5,HPX.out];clear hW5 g5 d0 d1 d2 d3 d4 d5 d6 d7 d8 d9 GP HPX;have s1:=S5.out.c 1 rfl;have hc:=HON.out W5 (G1.out.trans G5.out);go_wp2_with fail;refine hc.mono ?_;clear s1 hc;rintro e W6 ⟨rfl,g6⟩;obtain⟨po,HPQ⟩:∃po,Xo (W6.heap.size=po):=⟨_,rfl⟩;have G6:=dD (G5.out.trans g6);have S6:=dD (S5.out.aA g6);clear g6 G5 S5;go_upto_region 19 with(refine zp rfl 68 (.tmp 9) (.tmp 140) rfl W6.heap.size rfl CO rfl (Box.aE W6 Z0 68 rfl) (by rw[HPL.out,HZL.out]) (Rx HZL.out zst) HPO.out ?_)
  intro W7 b7 g7 s7;have g67:zc W6 W7:=zd (za _ _) g7 (nR _);have G7:=dD (G6.out.trans g67);have S7:=dD (S6.out.aA g67);rw[HPQ.out]at b7⊢;have P7:Xo (Box W7 po CO):=b7;clear b7 g7 s7 g67 G6 S6 hz HPQ HZL HZ0 HPL HPO HON;try simp only[Yn]
  obtain⟨_,_,s2,s3,s4,s5,s6,s7,s8,s9⟩:=S7.out.k10;have hc:=HFT.out W7 (G1.out.trans G7.out);go_wp2_with fail;refine hc.mono ?_;clear hc HFT s2 s3 s4 s5 s6 s7 s8 s9;rintro e W8 ⟨rfl,g8⟩;have G8:=dD (G7.out.trans g8);have P8:=dD (P7.out.aA g8);clear g8 G7 P7 S7;go_wp2;go_loopg [144] 64 (fun gg s144 wr=>∃n:Nat,n<=64/\64 - n<=gg/\s144= Xe Xf n/\Xo (zc W8 wr))
  exact⟨0,nZ _,Wm,rfl,zc.refl _⟩;obtain⟨n,hn,hgn,rfl,G9⟩:=hrel;by_cases hln:n<64
  ·have hlnz:(n:Int)<64:=Wm
   have HZK:Xo ((zf s n).kind≠0->zal m (zl s.aC n) (zf s n)=0):=show _->_ from HPS.out n hln;have HZF:Xo ((zas s.tb)[n]? =Xa (zf s n)):=zdG s.tb hln;have HON:Xo (∀(i:Nat) u,(onv (zl s.aC n))[i]? =Xa u->CO[n*6+i]? =Xa u):=show∀i,_ from HCO.out n hln;have h0:0<=(zf s n).n:=zpZ (zid HRT.out.2 n);generalize zf s n=e at HZK HZF h0;generalize zl s.aC n=o at HZK HON;go_upto_region 22 with(refine zbP rfl (.tmp 143) (.tmp 144) rfl (zas s.tb) rfl n rfl hln HZF.out ?_)
   obtain⟨pe,HPE⟩:∃pe,Xo (wr.heap.size=pe):=⟨_,rfl⟩;obtain⟨W10,hW10⟩:∃W10,wr.alloc (Xk #[Xe Xf e.kind,Xe Xf e.n,Xh e.wr] 55)=W10:=⟨_,rfl⟩;have g10:=gP hW10;have E10:=xP hW10 HPE;have G10:=dD (G9.out.trans g10);rw[hW10,HPE.out];clear hW10 g10 G9 HPE;have e0:=E10.out.c 0 rfl;by_cases hk:e.kind=0
   ·have hke:(e.kind == 0)=Xc:=by simp[hk]
    clear hk;go_wp2;go_roundg (64 -(n+1));exact⟨n+1,Wm,Wm,Gn,G10.out⟩;omega
   have hke:(e.kind == 0)=Xd:=(by simp[hk]);have HEZ:Xo (zal m o e=0):=HZK.out hk;have X10:=dD (X1.out.aA (G8.out.trans G10.out));have P10:=dD (P8.out.aA G10.out);clear hk;go_upto_region 23 with fail;clear hke e0;have hx0:∀y:zk W10,y.world.cell? ⟨w.heap.size,0,Xb⟩=_:=fun y=>(X10.out.aA y.aA).c 0 rfl;have hx1:∀y:zk W10,y.world.cell? ⟨w.heap.size,1,Xb⟩=_:=fun y=>(X10.out.aA y.aA).c 1 rfl;have hx2:∀y:zk W10,y.world.cell? ⟨w.heap.size,2,Xb⟩=_:=fun y=>(X10.out.aA y.aA).c 2 rfl;have hx3:∀y:zk W10,y.world.cell? ⟨w.heap.size,3,Xb⟩=_:=fun y=>(X10.out.aA y.aA).c 3 rfl;have hx4:∀y:zk W10,y.world.cell? ⟨w.heap.size,4,Xb⟩=_:=fun y=>(X10.out.aA y.aA).c 4 rfl;have hx5:∀y:zk W10,y.world.cell? ⟨w.heap.size,5,Xb⟩=_:=fun y=>(X10.out.aA y.aA).c 5 rfl;have hx6:∀y:zk W10,y.world.cell? ⟨w.heap.size,6,Xb⟩=_:=fun y=>(X10.out.aA y.aA).c 6 rfl;have hx7:∀y:zk W10,y.world.cell? ⟨w.heap.size,7,Xb⟩=_:=fun y=>(X10.out.aA y.aA).c 7 rfl;have hx8:∀y:zk W10,y.world.cell? ⟨w.heap.size,8,Xb⟩=_:=fun y=>(X10.out.aA y.aA).c 8 rfl;have hx9:∀y:zk W10,y.world.cell? ⟨w.heap.size,9,Xb⟩=_:=fun y=>(X10.out.aA y.aA).c 9 rfl;have hx10:∀y:zk W10,y.world.cell? ⟨w.heap.size,10,Xb⟩=_:=fun y=>(X10.out.aA y.aA).c 10 rfl;have he0:∀y:zk W10,y.world.cell? ⟨pe,0,Xb⟩=_:=fun y=>(E10.out.aA y.aA).c 0 rfl;have he1:∀y:zk W10,y.world.cell? ⟨pe,1,Xb⟩=_:=fun y=>(E10.out.aA y.aA).c 1 rfl;have he2:∀y:zk W10,y.world.cell? ⟨pe,2,Xb⟩=_:=fun y=>(E10.out.aA y.aA).c 2 rfl;have ho0:∀y:zk W10,y.world.cell? ⟨po,n*6,Xb⟩=_:=fun y=>(P10.out.aA y.aA).c _ (HON.out 0 _ rfl);have ho1:∀y:zk W10,y.world.cell? ⟨po,n*6+1,Xb⟩=_:=fun y=>(P10.out.aA y.aA).c _ (HON.out 1 _ rfl);have ho2:∀y:zk W10,y.world.cell? ⟨po,n*6+2,Xb⟩=_:=fun y=>(P10.out.aA y.aA).c _ (HON.out 2 _ rfl);have ho3:∀y:zk W10,y.world.cell? ⟨po,n*6+3,Xb⟩=_:=fun y=>(P10.out.aA y.aA).c _ (HON.out 3 _ rfl);have ho4:∀y:zk W10,y.world.cell? ⟨po,n*6+4,Xb⟩=_:=fun y=>(P10.out.aA y.aA).c _ (HON.out 4 _ rfl);have ho5:∀y:zk W10,y.world.cell? ⟨po,n*6+5,Xb⟩=_:=fun y=>(P10.out.aA y.aA).c _ (HON.out 5 _ rfl);have hne:Nonempty (zk W10):=⟨⟨_,zc.refl _⟩⟩;refine jQ [(5,⟨fun v=>v= Xe Xf 0,fun v w'=>True⟩)] z3 Kr (Sa ⟨_,rfl⟩) ?hp ?_;case hp=>
    intro x hx;simp only[mC,nM,or_false]at hx;subst hx;exact fun _ _ _ _ h=>h
   iterate 5 (refine jS rfl rfl rfl (fun K hK=>?_);go_big_quiet_op;refine hK _ ?_;clear hK K)
   refine zJ rfl rfl (fun w' hg hF=>?_) (fun v1 hv=>?_);·refine zN.call [Xi #[O fa fn fc,Xe Xf m.aB,O sa sn sc,O vsb.a vsb.n vsb.c,O vsq.a vsq.n vsq.c,O vdb.a vdb.n vdb.c,O vdq.a vdq.n vdq.c,O fla fln flc,Xe Xf m.cnt,O caa can cac,O (Xa ad) spn spc],Xi #[Xh o.is,Xh o.rd,Xh o.wr,Xh o.sh,Xe Xf o.file,Xe Xf o.page],Xi #[Xe Xf e.kind,Xe Xf e.n,Xh e.wr]] rfl Tryz.func42 rfl rfl rfl ?_;refine(HEN.out w' o e (((G1.out.trans G8.out).trans G10.out).trans hg) h0 HEZ.out).mono ?_;rintro e w'' ⟨rfl,hg2⟩;exact⟨_,rfl,hg2,rfl,trivial⟩
   subst hv;simp only[Yn,sB,sS,sZ];iterate 1 (refine jS rfl rfl rfl (fun K hK=>?_);go_big_quiet_op;refine hK _ ?_;clear hK K)
   refine z7 fun W11 hg1 hF=>?_;have G11:=dD (G10.out.trans hg1);clear hg1 hF hne hx0 hx1 hx2 hx3 hx4 hx5 hx6 hx7 hx8 hx9 hx10 he0 he1 he2 ho0 ho1 ho2 ho3 ho4 ho5 G10 X10 P10 E10;go_wp2;go_roundg (64 -(n+1));exact⟨n+1,Wm,Wm,Gn,G11.out⟩;omega
  have hlnz:¬(n:Int)<64:=Wm;go_wp2;go_roundg (spn -(p+1));exact⟨p+1,Wm,Wm,Gn,G8.out.trans G9.out⟩;omega
 have hlpz:¬(p:Int)< (spn:Int):=Wm;clear HSP HRW HXL HEN;have x0:=(X1.out.aA GP.out).c 0 rfl;obtain⟨WD,rfl⟩:∃WD,WD=wr:=⟨_,rfl⟩;go_wp2;clear x0;go_loopg [166] fn (fun gg s166 wr=>∃k:Nat,k<=fn/\fn - k<=gg/\s166= Xe Xf k/\Xo (zc W1 wr))
 exact⟨0,nZ _,Wm,rfl,GP.out⟩;obtain⟨k,hk,hgk,rfl,GK⟩:=hrel;clear GP;by_cases hlk:k<fn
 ·have hlkz:(k:Int)< (fn:Int):=Wm
  obtain⟨q,HQ⟩:∃q,Xo (m.fs[k]? =Xa q):=⟨_,gE (Rx HN1.out hlk)⟩;obtain⟨adf,rfl,hl⟩:=HFR.out k q HQ.out;obtain⟨d0,d1,d2,d3,d4,d5,d6,d7,d8,d9,d10,d11,d12⟩:=hl wr (G1.out.trans GK.out);obtain⟨Hz,HHZ⟩:∃Hz:Int,Xo ((Qv m 1 (k:Int):Int)=Hz):=⟨_,rfl⟩;obtain⟨Cz,HCZ⟩:∃Cz:Int,Xo ((zG m.ca (k:Int):Int)=Cz):=⟨_,rfl⟩;have hHz:0<=Hz/\Hz<=256:=by
   have h1:=zh8 (m:=m) (kind:=1) (k:=(k:Int)) m.sp.length;rw[zfC]at h1;have h2:=HHZ.out;have h3:=HP.out.s4;omega
  have hCz:0<=Cz/\Cz<=5864062014805:=by
   have h1:zG m.ca (k:Int)<=m.ca.length:=Yz;have h2:=HCZ.out;have h3:=HN8.out;omega
  obtain⟨hHz0,hHz1⟩:=hHz;obtain⟨hCz0,hCz1⟩:=hCz;have hgd:q.r=Hz+Cz/\¬(0<=q.f/\Cz=0):=by
   have h1:=HHZ.out;have h2:=HCZ.out;have hb:=HFE.out k (Rx HN1.out hlk);unfold frE at hb;rw[zK HQ.out]at hb;split at hb;·cases hb
   rename_i h3
   omega
  obtain⟨k1,k4⟩:=hgd;have k1e:(q.r != Hz+Cz)=Xd:=by simp[k1]
  clear hl k1;go_upto_region 31 with fail;obtain⟨pq,HPQ⟩:∃pq,Xo (wr.heap.size=pq):=⟨_,rfl⟩;obtain⟨W12,hW12⟩:∃W12,wr.alloc (Xk #[Xe Xg q.p.b0,Xe Xg q.p.b1,Xe Xg q.p.b2,Xe Xg q.p.b3,Xe Xg q.p.b4,Xe Xg q.p.b5,Xe Xg q.p.b6,Xe Xg q.p.b7,Xe Xf q.r,Xh q.u,Xh q.d,Xe Xf q.f,Xe Xf q.x] 53)=W12:=⟨_,rfl⟩;have g12:=gP hW12;have Q12:=xP hW12 HPQ;have G12:=dD (GK.out.trans g12);rw[hW12,HPQ.out];clear hW12 g12 GK HPQ d0 d1 d2 d3 d4 d5 d6 d7 d8 d9 d10 d11 d12;obtain⟨x0,x1,x2,x3,x4,x5,x6,x7,x8,x9,x10⟩:=(X1.out.aA G12.out).cH;have hc:=HHO.out W12 1 (k:Int) (G1.out.trans G12.out);rw[HHZ.out]at hc;go_wp2_with fail;refine hc.mono ?_;clear hc x0 x1 x2 x3 x4 x5 x6 x7 x8 x9 x10;rintro e W13 ⟨rfl,g13⟩;have G13:=dD (G12.out.trans g13);have Q13:=dD (Q12.out.aA g13);clear g13 G12 Q12;have x9:=(X1.out.aA G13.out).c 9 rfl;go_wp2;clear x9;go_loopg [16,177] can (fun gg s16 s177 wr=>∃j:Nat,j<=can/\can - j<=gg/\s177= Xe Xf j/\s16= Xe Xf (zG (m.ca.take j) (k:Int):Int)/\Xo (zc W13 wr))
  exact⟨0,nZ _,Wm,rfl,rfl,zc.refl _⟩;obtain⟨j,hj,hgj,rfl,rfl,GJ⟩:=hrel;by_cases hlj:j<can
  ·have hljz:(j:Int)< (can:Int):=Wm
   obtain⟨c,HC⟩:∃c,Xo (m.ca[j]? =Xa c):=⟨_,gE (Rx HN8.out hlj)⟩;obtain⟨adc,rfl,hl⟩:=HCA.out j c HC.out;obtain⟨d0,d1,d2⟩:=hl wr ((G1.out.trans G13.out).trans GJ.out);have hcl:zG (m.ca.take j) (k:Int)<=j:=zn0 j;have HCS:Xo (zG (m.ca.take (j+1)) (k:Int)=zG (m.ca.take j) (k:Int)+(decide (c.fr=(k:Int))).toNat):=zjM HC.out;obtain⟨c0,hc0⟩:∃c0,zG (m.ca.take j) (k:Int)=c0:=⟨_,rfl⟩;rw[hc0]at hcl HCS⊢;clear hc0 hl;go_upto_region 35 with fail;obtain⟨pc,HPC⟩:∃pc,Xo (wr.heap.size=pc):=⟨_,rfl⟩;obtain⟨W14,hW14⟩:∃W14,wr.alloc (Xk #[Xe Xf c.file,Xe Xf c.idx,Xe Xf c.fr] 108)=W14:=⟨_,rfl⟩;have g14:=gP hW14;have C14:=xP hW14 HPC;have G14:=dD (GJ.out.trans g14);rw[hW14,HPC.out];clear hW14 g14 d0 d1 d2 GJ HPC;have c2:=C14.out.c 2 rfl;by_cases hkk:c.fr=(k:Int)
   ·have hke:(c.fr ==(k:Int))=Xc:=by simp[hkk]
    have HV:Xo (zG (m.ca.take (j+1)) (k:Int)=c0+1):=show _=_ by rw[HCS.out,decide_eq_true hkk];rfl
    clear hkk HCS;go_wp2;go_roundg (can -(j+1));exact⟨j+1,Wm,Wm,Gn,by rw[HV.out];go_num,G14.out⟩;omega
   have hke:(c.fr ==(k:Int))=Xd:=(by simp[hkk]);have HV:Xo (zG (m.ca.take (j+1)) (k:Int)=c0):=show _=_ by rw[HCS.out,decide_eq_false hkk];rfl
   clear hkk HCS;go_wp2;go_roundg (can -(j+1));exact⟨j+1,Wm,Wm,Gn,by rw[HV.out],G14.out⟩;omega
  have hljz:¬(j:Int)< (can:Int):=Wm;obtain rfl:can=j:=Wm;have hce:(zG (m.ca.take can) (k:Int):Int)=Cz:=by rw[Yc (by rw[HN8.out];exact nR _)];exact HCZ.out
  rw[hce];clear hce;have q8:=(Q13.out.aA GJ.out).c 8 rfl;have q11:=(Q13.out.aA GJ.out).c 11 rfl;by_cases k2:0<=q.f
  ·have k2d:decide (0<=q.f)=Xc:=decide_eq_true k2;have k3e:(Cz == 0)=Xd:=(by simpa using fun e=>k4 ⟨k2,e⟩);clear k2 k4;go_wp2;go_roundg (fn -(k+1));exact⟨k+1,Wm,Wm,Gn,G13.out.trans GJ.out⟩;omega
  have k2d:decide (0<=q.f)=Xd:=decide_eq_false k2;clear k2 k4;go_wp2;go_roundg (fn -(k+1));exact⟨k+1,Wm,Wm,Gn,G13.out.trans GJ.out⟩;omega
 have hlkz:¬(k:Int)< (fn:Int):=Wm;clear HFR HCA;have x2:=(X1.out.aA GK.out).c 2 rfl;obtain⟨WE,rfl⟩:∃WE,WE=wr:=⟨_,rfl⟩;go_wp2;clear x2;go_loopg [207] sn (fun gg s207 wr=>∃j:Nat,j<=sn/\sn - j<=gg/\s207= Xe Xf j/\Xo (zc W1 wr))
 exact⟨0,nZ _,Wm,rfl,GK.out⟩;obtain⟨j,hj,hgj,rfl,GJ⟩:=hrel;clear GK;by_cases hlj:j<sn
 ·have hljz:(j:Int)< (sn:Int):=Wm
  obtain⟨z,HQ⟩:∃z,Xo (m.sl[j]? =Xa z):=⟨_,gE (Rx HN2.out hlj)⟩;obtain⟨ads,rfl,hl⟩:=HSL.out j z HQ.out;have d0:=hl wr (G1.out.trans GJ.out);have hzz:z=(Qv m 2 (j:Int):Int):=by
   have h1:=HSE.out j (Rx HN2.out hlj);unfold zk2 at h1;rw[gD,HQ.out]at h1;split at h1;·cases h1
   rename_i h2
   exact Classical.byContradiction h2
  have hc:=HHO.out wr 2 (j:Int) (G1.out.trans GJ.out);rw[<-hzz]at hc;have k1e:(z != z)=Xd:=Sm;clear hl hzz;obtain⟨x0,x1,x2,x3,x4,x5,x6,x7,x8,x9,x10⟩:=(X1.out.aA GJ.out).cH;go_wp2_with fail;refine hc.mono ?_;clear hc d0 x0 x1 x2 x3 x4 x5 x6 x7 x8 x9 x10;rintro e W13 ⟨rfl,g13⟩;have G13:=dD (GJ.out.trans g13);clear g13 GJ;go_wp2;go_roundg (sn -(j+1));exact⟨j+1,Wm,Wm,Gn,G13.out⟩;omega
 have hljz:¬(j:Int)< (sn:Int):=Wm;have GE:=dD (G1.out.trans GJ.out);go_wp2;go_ret;exact⟨rfl,GE.out⟩
theorem zhK:∀{l:List Ar} {p:Option Ar} {n:Nat},QQ p l->(zl l n).is=Xc->0<=(zl l n).page/\((zl l n).page<=11\/(zl l n).file<0)
 | [],_,_,_,h=>by cases h
 | a :: l,p,n,b,h=>by
  unfold zl at h⊢
  by_cases e:Z8 a n=Xc
  ·rw[kE e]at h⊢;have c:=b.1;have d:=jC.1 e;unfold jU at c;unfold z5;simp only
   split;·exact⟨Wm,.inl Wm⟩
   exact⟨Wm,.inr Wm⟩
  rw[kF e]at h⊢;exact zhK b.2.2 h
def zcw (r:List Int × Bool × Int):Xq:= Xm #[Xi (pgc r.1).toArray,Xh r.2.1,Xe Xf r.2.2]
theorem znI (h:maW m=0):∀s∈m.sp,∀n,n<64->(if(zf s n).kind=0 then 0 else zal m (zl s.aC n) (zf s n))=0:=fun s c n b=>by
 unfold maW at h;rw[zj]at h;have a:=zj.1 (h (zF (m.sp.map (zdW m))) Sm) (zdW m s) (Xw.2 ⟨s,c,rfl⟩);unfold zdW at a;exact zj.1 a _ (Xw.2 ⟨n,Xy.2 b,rfl⟩)
theorem zrK (h:maW m=0):∀c∈m.ca,0<=c.fr/\c.fr< (m.fs.length:Int):=fun c a=>by
 unfold maW at h;rw[zj]at h;have b:=(zo.1 (h (zbe m Xb m.ca) Sm)).1 c a;grind [caE]
theorem Q0 (h:maW m=0):zaq m=0:=by unfold maW at h;rw[zj]at h;exact h _ Sm
theorem zja (V:MaV) (m:Ma) (p n:Int) (w:Xn) (a8:zP w V m) (Q:maW m=0) (bq:∀s∈m.sp,ZA m.fl.length s.aC):
  Xp prog 29 #[Xi (mL V m).toArray,I6 p,I6 n] w fun e w'=>e= Xl (zcw (Qd m p n))/\(Qd m p n).1.length=8/\zc w w':=by
 have di:Xo (zP w V m):=a8;obtain⟨eg,fm,-,-,-,-,eh,fo,ei⟩:=a8.ns;obtain⟨cy,c8,M,bw⟩:=a8.aT;have ar:Xo (zaZ w V.f.a m.fs):=a8.bA;obtain⟨_,_,af,_,bp⟩:=qE.rows a8.fl;have aq:Xo (za0 w V.fl.a m.fl):=show za0 _ _ _ by
  simp only[vJ]at af;rw[af.1];exact bp
 have fw:Xo (Pts m):=zhz (Q0 Q);have ap:Xo (∀s∈m.sp,∀n,n<64->(if(zf s n).kind=0 then 0 else zal m (zl s.aC n) (zf s n))=0):=show∀s,_ from znI Q;have df:Xo (∀s∈m.sp,ZA m.fl.length s.aC):=dD<|bq;have ao:Xo (∀W (r ai:Nat) G ac,zc w W->m.fl[r]? =Xa G->G.bl[ai]? =Xa ac->ai<=1000->Xp prog 63 #[Xi (mL V m).toArray,I6 (r:Int),I6 (ai:Int)] W fun e w'=>e= Xl (Xi (pgc (zU m r ai)).toArray)/\(zU m r ai).length=8/\zc W w'):=dD<|fun W r ai G ac a7 gi gh gk=>zeO V m r ai G ac W (di.aA a7) (fun gd A _=>zrK Q gd A) gi gh gk;have az:Xo (∀W B,zc w W->Xp prog 62 #[Xi #[V.sb.x,V.sq.x],I6 B] W fun e w'=>e= Xl (Xm #[Xi (pgc (qN m.sb m.sq B)).toArray,I6 (zn m.sb.length m.sq B)])/\zc W w'):=dD<|fun W B a7=>zd2 _ m.sb m.sq B W ⟨_,_,rfl,(di.aA a7).sb,(di.aA a7).sq⟩;have dm:Xo (∀B,(qN m.sb m.sq B).length=8):=dD<|fun B=>zfr a8.sb.2.1 a8.sq.2.1;obtain⟨⟨ge,ci,gf⟩,⟨gv,gx,gw⟩,⟨eo,eq,ep⟩,⟨es,eu,et⟩,ev,ew,⟨e4,X,e5⟩,⟨du,dw,dv⟩,⟨aj,j,er⟩⟩:=V;dsimp only[mL]at eg fm eh fo ei M ar aq ao az⊢;have au:Xo (m.fs.length=ci):=eg.symm;have av:Xo (m.fl.length=X):=eh.symm;have R:Xo (m.sp.length=j):=ei.symm;have dq:Xo (cy.length=j):=show _=_ by rw[c8];exact R.out
 have dn:Xo (∀(fk:Nat) x,cy[fk]? =Xa x->∃ab,aj=Xa ab/\∀W,zc w W->zgY W (ab.add (fk*10)) x):=dD<|M;have dp:Xo (∀(fj:Nat) x s,cy[fj]? =Xa x->m.sp[fj]? =Xa s->jN w x s):=dD<|bw;clear a8 eg fm eh fo ei c8 M bw af bp Q bq;obtain⟨cf,K⟩:=kB ((w.alloc (Xk #[O ge ci gf,I6 m.aB,O gv gx gw,O eo eq ep,O es eu et,ev.x,ew.x,O e4 X e5,I6 m.cnt,O du dw dv,O aj j er] 41)).alloc (Xk #[U8 0,U8 0,U8 0,U8 0,U8 0,U8 0,U8 0,U8 0] 44));have cc:=gD2 K;have dt:=x2a K;have f8:Xo (Box cf (w.heap.size+1) (pgc zq)):=dD<|by rw[<-K];exact Box.aE _ (pgc zq) _ Sm
 have b4:Xo (_=cf):=K;clear K;have bz:(decide (p<0)=Xc\/decide (p<0)=Xd/\decide ((j:Int)<=p)=Xc\/decide (p<0)=Xd/\decide ((j:Int)<=p)=Xd/\decide (n<0)=Xc\/decide (p<0)=Xd/\decide ((j:Int)<=p)=Xd/\decide (n<0)=Xd/\decide (63<n)=Xc)\/¬(p<0\/(j:Int)<=p\/n<0\/63<n):=by
  simp only[decide_eq_true_eq,decide_eq_false_iff_not];omega
 rcases bz with Q|Q
 ·have i:Xo (Qd m p n=(zq,Xd,5)):=dD<|by
   unfold Qd;simp only[decide_eq_true_eq,decide_eq_false_iff_not]at Q;exact kE (by rw[R.out];omega)
  rcases Q with c9|⟨c9,cm⟩|⟨c9,cm,ef⟩|⟨c9,cm,ef,fl⟩
  all_goals (
   go_enter func29,ntmps29;go_upto_region 1 with fail;rw[b4.out];have v:=dt.c 10 rfl;go_wp2_with (refine zp rfl 44 (.tmp 6) (.tmp 31) rfl (w.heap.size+1) rfl (pgc zq) rfl f8 rfl zsB (qJ _) ?_)
   intro F g h _;have f:Xo (zc w F):=dD<|zd cc h Wm
   go_wp2;refine bodyPost_ret (zL rfl _ rfl g underlying44 rfl zsB) rfl ⟨Rr i.out,Rr i.out,f⟩)
 simp only[not_or]at Q;obtain⟨fb,ga,fd,fe⟩:=Q;obtain⟨d,rfl⟩:∃d:Nat,p=(d:Int):=⟨p.toNat,Wm⟩;obtain⟨c,rfl⟩:∃c:Nat,n=(c:Int):=⟨n.toNat,Wm⟩;have bv:d<j:=Wm;have u:c<64:=Wm;obtain⟨x,ee⟩:∃x,cy[d]? =Xa x:=⟨_,gE (Rx dq.out bv)⟩;obtain⟨s,b1⟩:∃s,Xo (m.sp[d]? =Xa s):=⟨_,gE (Rx R.out bv)⟩;have an:Xo (jN w x s):=dp.out d x s ee b1.out;obtain⟨ab,b2,eb⟩:∃ab,Xo (aj=Xa ab)/\∀W,zc w W->zgY W (ab.add (d*10)) x:=dn.out d x ee;have S:Xo ((wrL s.aC).1=0/\tbW s.tb=0):=fw.ar s (mG b1);obtain⟨a,ak⟩:=kA (zl s.aC c);obtain⟨e,ce⟩:=kA (zf s c);have b3:Xo (Qd m (d:Int) (c:Int)=if a.is=Xd then(zq,Xd,5)else if e.kind=1 then(pgL (zX m e.n).p,decide ((zX m e.n).f<0),0)else if e.kind=2 then(qN m.sb m.sq e.n,Xc,0)else if a.file<0 then(zq,Xd,0)else if bkN m a.file<=a.page then(zq,Xd,9)else(zU m a.file a.page,Xd,0)):=show _=_ by
  unfold Qd;rw[kF (by rw[R.out];omega)];have ed:m.sp.getD d ⟨Xd,[],[]⟩=s:=by rw[gD,b1.out];rfl
  simp only[tN,ed,ak.out,ce.out]
 have dj:Xo (∀W,zc w W->Xp prog 16 #[x.ar.x] W fun e w'=>e= Xl (Xi (zz (tab (zl s.aC))).toArray)/\zc W w'):=dD<|fun W a7=>Ze _ s.aC W (an.ar.aA a7) (jJ.1 S.1).2.cA;have dg:Xo (∀W,zc w W->Xp prog 14 #[Xi #[x.t0.x,x.t1.x,x.t2.x,x.t3.x,x.t4.x,x.t5.x,x.t6.x,x.t7.x]] W fun e w'=>e= Xl (Xi (qG (zas s.tb)).toArray)/\zc W w'):=dD<|fun W a7=>zcP x.tab s.tb W ((an.aA a7).tb) (tb8 S.2);have dr:Xo ((zas s.tb)[c]? =Xa e):=(zdG s.tb u).trans (congrArg Xa ce);have i3:0<=e.n:=by rw[<-ce.out];exact zpZ (zid S.2 c)
 have db:Xo (a.is=Xc->e.kind=1->e.n< (ci:Int)):=dD<|fun y H=>by
  have P:zal m a e=0:=by
   have:=ap.out s (mG b1) c u;rw[ce.out,ak.out,kF Wm]at this;exact this
  unfold zal at P;rw[kF (by rw[y];decide),kF Wm]at P;have bm:=au.out;split at P;·cases P
  omega
 have dk:Xo (a.is=Xc->0<=a.page/\(a.page<=11\/a.file<0)):=dD<|fun y=>by rw[<-ak.out]at y⊢;exact zhK (jJ.1 S.1).2 y
 have de:Xo (a.is=Xc->a.file< (X:Int)):=dD<|fun y=>by
  have H:=df.out s (mG b1) c u (Rx ak.out y);rw[ak.out,av.out]at H;exact H
 have br:Value.agg (onv (zl s.aC c)).toArray= Xi #[Xh a.is,Xh a.rd,Xh a.wr,Xh a.sh,I6 a.file,I6 a.page]:=Rr ak.out;have c9:decide ((d:Int)<0)=Xd:=decide_eq_false fb;have cm:decide (j<=d)=Xd:=decide_eq_false Wm;have ef:decide ((c:Int)<0)=Xd:=decide_eq_false fd;have fl:decide ((63:Int)< (c:Int))=Xd:=decide_eq_false fe;have gl:(d:Int)< (j:Int):=Wm;clear fb ga fd fe ee;go_enter func29,ntmps29;go_upto_region 1 with fail;rw[b4.out];have v:=dt.c 10 rfl;rw[b2.out]at v;obtain⟨b7,b8,b9,bb,bd,be,bf,bg,bh,bi⟩:=eb cf cc.out;have fv:Xo (∀W,zc w W->zgY W (ab.add (d*10)) x):=dD<|eb;clear eb b7 b9 bb bd be bf bg bh bi;have A:=dj.out cf cc.out;go_wp2_with fail;refine A.mono ?_;clear A b8 v c9 cm ef fl;rintro en f4 ⟨rfl,cj⟩;have ft:=dD (cc.trans cj);have fz:=dD (dt.aA cj);have g8:=dD (f8.aA cj);clear cj;go_upto_region 4 with(refine zdt rfl (.tmp 38) (.tmp 39) rfl (zl s.aC) rfl c rfl u br ?_)
 obtain⟨fp,ay⟩:=kA f4.heap.size;refine nW fun f5 Y=>?_;have ck:=gP Y;have f2:=xP Y ay;have cd:=dD (ft.trans ck);have f7:=dD (fz.aA ck);have f9:=dD (g8.aA ck);rw[ay.out];clear Y ck br;have ej:=f2.c 0 rfl;cases l:a.is with
 | false=>
  rw[l]at ej;have i:Xo (Qd m (d:Int) (c:Int)=(zq,Xd,5)):=dD (by rw[b3.out,kE l]);clear l;go_wp2_with (refine zp rfl 44 (.tmp 6) (.tmp 44) rfl (w.heap.size+1) rfl (pgc zq) rfl f9 rfl zsB (qJ _) ?_)
  intro F g h _;have f:Xo (zc w F):=dD<|zd cd h Wm;go_wp2;refine bodyPost_ret (zL rfl _ rfl g underlying44 rfl zsB) rfl ⟨Rr i.out,Rr i.out,f⟩
 | true=>
 rw[l]at ej;have C:Xo (Qd m (d:Int) (c:Int)=if e.kind=1 then(pgL (zX m e.n).p,decide ((zX m e.n).f<0),0)else if e.kind=2 then(qN m.sb m.sq e.n,Xc,0)else if a.file<0 then(zq,Xd,0)else if bkN m a.file<=a.page then(zq,Xd,9)else(zU m a.file a.page,Xd,0)):=dD<|by rw[b3.out,kF (by rw[l];decide)]
 obtain⟨bs,bt⟩:=dk.out l;have bo:=de.out l;have dc:Xo (e.kind=1->e.n< (ci:Int)):=dD<|db.out l;clear l;obtain⟨b7,b8,b9,bb,bd,be,bf,bg,bh,bi⟩:=fv.out f5 cd.out;have v:=f7.c 10 rfl;rw[b2.out]at v;have A:=dg.out f5 cd.out;go_wp2_with fail;refine A.mono ?_;clear A b7 b8 b9 bb bd be bf bg bh bi v ej;rintro en f6 ⟨rfl,bj⟩;have fu:=dD (cd.trans bj);have g0:=dD (f7.aA bj);have g9:=dD (f9.aA bj);have fx:=dD (f2.aA bj);clear bj;go_upto_region 7 with(refine zbP rfl (.tmp 51) (.tmp 52) rfl (zas s.tb) rfl c rfl u dr.out ?_)
 obtain⟨i4,aw⟩:=kA f6.heap.size;refine nW fun T Z=>?_;have bl:=gP Z;have ez:=xP Z aw;have a0:=dD (fu.trans bl);have b5:=dD (g0.aA bl);have al:=dD (g9.aA bl);have ds:=dD (fx.aA bl);rw[aw.out];clear Z bl;obtain⟨ff,e2⟩:=ez.k2;by_cases y:e.kind=1
 ·have e6:(e.kind == 1)=Xc:=by simp[y]
  obtain⟨B,cl⟩:∃B:Nat,e.n=(B:Int):=⟨e.n.toNat,Wm⟩;have ea:=dc.out y;rw[cl]at ea;obtain⟨q,f0⟩:∃q,Xo (m.fs[B]? =Xa q):=⟨_,gE (by rw[au.out];omega)⟩;have i:Xo (Qd m (d:Int) (c:Int)=(pgL q.p,decide (q.f<0),0)):=dD (by rw[C.out,kE y,cl,zK f0.out]);obtain⟨gc,bx,L⟩:=ar.out B q f0.out;obtain⟨b7,b8,b9,bb,bd,be,bf,bg,bh,bi,dx,dy,dz⟩:=L T a0.out;have cx:=b5.c 0 rfl;rw[bx]at cx;rw[cl]at e2;clear L bx y cl;go_upto_region 9 with fail;obtain⟨fq,aa⟩:=kA T.heap.size;refine nW fun E b=>?_;have t:=gP b;have f3:=xP b aa;have a5:=dD (a0.trans t);have U:=dD (al.aA t);have ec:w.heap.size+1≠fq:=by have:=al.lt;have H:=aa.out;omega
  have fh:fq≠w.heap.size+1:=fun gg=>ec gg.symm;rw[aa.out];clear b t cx ff e2 b7 b8 b9 bb bd be bf bg bh bi dx dy dz;obtain⟨gm,gn,gp,gq,gr,gs,gt,gu⟩:=f3.c8;have em:=f3.c 11 rfl;obtain⟨ha,hd,he,hg,hh,hj,hn,ho⟩:=U.c8;have hp:=U.f;go_region
  all_goals
   obtain⟨cg,k⟩:=kB ((((((((((E).setCell ⟨w.heap.size+1,0,Xb⟩ (U8 q.p.b0)).setCell ⟨w.heap.size+1,1,Xb⟩ (U8 q.p.b1)).setCell ⟨w.heap.size+1,2,Xb⟩ (U8 q.p.b2)).setCell ⟨w.heap.size+1,3,Xb⟩ (U8 q.p.b3)).setCell ⟨w.heap.size+1,4,Xb⟩ (U8 q.p.b4)).setCell ⟨w.heap.size+1,5,Xb⟩ (U8 q.p.b5)).setCell ⟨w.heap.size+1,6,Xb⟩ (U8 q.p.b6)).setCell ⟨w.heap.size+1,7,Xb⟩ (U8 q.p.b7)).drew);have b6:Xo (Box cg (w.heap.size+1) (pgc (pgL q.p))):=dD (by rw[<-k];exact(((((((((U).set 0 _).set 1 _).set 2 _).set 3 _).set 4 _).set 5 _).set 6 _).set 7 _).aA (show Below _ _ _ from Below.drew (bR _ _)));have am:Xo (zc w cg):=dD (by rw[<-k];exact(zB (zB (zB (zB (zB (zB (zB (zB (a5) Sm _) Sm _) Sm _) Sm _) Sm _) Sm _) Sm _) Sm _).trans (show Below _ _ _ from Below.drew (bR _ _)));rw[k];clear k hp gm gn gp gq gr gs gt gu em ha hd he hg hh hj hn ho;go_wp2;refine bodyPost_ret (zL rfl _ rfl b6 underlying44 rfl zsB) rfl ⟨Rr i.out,Rr i.out,am⟩
 have e6:(e.kind == 1)=Xd:=by simp[y]
 by_cases H:e.kind=2
 ·have e7:(e.kind == 2)=Xc:=by simp[H]
  have i:Xo (Qd m (d:Int) (c:Int)=(qN m.sb m.sq e.n,Xc,0)):=dD (by rw[C.out,kF y,kE H]);have b0:Xo ((qN m.sb m.sq e.n).length=8):=dm.out e.n;have ex:=b5.c 3 rfl;have ey:=b5.c 4 rfl;have A:=az.out T e.n a0.out;clear y H;go_wp2_with fail;refine A.mono ?_;clear A ex ey ff e2;rintro en E ⟨rfl,t⟩;have a5:=dD (a0.trans t);have U:=dD (al.aA t);obtain⟨ca,z⟩:=kA (qN m.sb m.sq e.n);rw[z.out]at i b0⊢;obtain⟨cp,cq,cr,cs,ct,cu,cv,cw,rfl⟩:=zc4 ca b0.out;simp only[pgc,mP,Yp];go_upto_region 12 with fail;obtain⟨i5,ax⟩:=kA E.heap.size;refine nW fun cg k=>?_;have ae:=gP k;have fy:=xP k ax;have am:=dD (a5.trans ae);have b6:=dD (U.aA ae);rw[ax.out];clear k ae t;obtain⟨ht,hu,hv,hy,hz,i0,i1,i2⟩:=fy.c8;go_wp2_with (refine zp rfl 44 (.tmp 6) (.tmp 80) rfl (w.heap.size+1) rfl (pgc [cp,cq,cr,cs,ct,cu,cv,cw]) rfl b6 rfl zsB (qJ _) ?_)
  intro F g h _;have f:Xo (zc w F):=dD<|zd am h Wm;go_wp2;refine bodyPost_ret (zL rfl _ rfl g underlying44 rfl zsB) rfl ⟨Rr i.out,Rr i.out,f⟩
 have e7:(e.kind == 2)=Xd:=by simp[H]
 have a6:Xo (Qd m (d:Int) (c:Int)=if a.file<0 then(zq,Xd,0)else if bkN m a.file<=a.page then(zq,Xd,9)else(zU m a.file a.page,Xd,0)):=dD<|by rw[C.out,kF y,kF H]
 clear y H;obtain⟨_,_,_,_,cn,co⟩:=ds.k6;by_cases P:a.file<0
 ·have e8:decide (a.file<0)=Xc:=decide_eq_true P;have i:Xo (Qd m (d:Int) (c:Int)=(zq,Xd,0)):=dD (by rw[a6.out,kE P]);clear P;go_wp2_with (refine zp rfl 44 (.tmp 6) (.tmp 84) rfl (w.heap.size+1) rfl (pgc zq) rfl al rfl zsB (qJ _) ?_)
  intro F g h _;have f:Xo (zc w F):=dD<|zd a0 h Wm;go_wp2;refine bodyPost_ret (zL rfl _ rfl g underlying44 rfl zsB) rfl ⟨Rr i.out,Rr i.out,f⟩
 have D:Xo (Qd m (d:Int) (c:Int)=if bkN m a.file<=a.page then(zq,Xd,9)else(zU m a.file a.page,Xd,0)):=dD<|by rw[a6.out,kF P]
 obtain⟨r,I⟩:∃r:Nat,a.file=(r:Int):=⟨a.file.toNat,Wm⟩;obtain⟨N,ah⟩:∃N:Nat,a.page=(N:Int):=⟨a.page.toNat,Wm⟩;obtain⟨G,dd⟩:∃G,Xo (m.fl[r]? =Xa G):=⟨_,gE (by rw[av.out];omega)⟩;obtain⟨gb,fg,hr,hs,_,L⟩:=aq.out r G dd.out;obtain⟨-,e3⟩:=L T a0.out;obtain⟨ch,a9⟩:=kA G.bl.length;rw[a9.out]at e3;have cz:Xo (bkN m a.file=(ch:Int)):=dD<|by unfold bkN;rw[I,tN,gD,dd.out];simp only[Option.getD_some];rw[a9.out]
 have cb:=b5.c 7 rfl;rw[fg]at cb;rw[I]at cn;rw[ah]at co;have e8:decide ((r:Int)<0)=Xd:=decide_eq_false Wm;have gj:(r:Int)< (X:Int):=Wm;have bu:N<=1000:=Wm;rw[cz.out,I,ah]at D;clear P I ah L fg bs bt bo;go_upto_region 15 with fail;by_cases bm:ch<=N
 ·have e9:decide (ch<=N)=Xc:=decide_eq_true bm;have i:Xo (Qd m (d:Int) (c:Int)=(zq,Xd,9)):=dD (by rw[D.out,kE Wm]);clear bm;go_quiet (fail);obtain⟨E,b⟩:=kB (T.drewN nq);have t:zc T E:=by rw[<-b];exact(show Below _ _ _ from bD (bR _ _) _)
  have a5:=dD (a0.trans t);have U:=dD (al.aA t);rw[b];clear b t cb e3 cn co;go_wp2_with (refine zp rfl 44 (.tmp 6) (.tmp 97) rfl (w.heap.size+1) rfl (pgc zq) rfl U rfl zsB (qJ _) ?_)
  intro F g h _;have f:Xo (zc w F):=dD<|zd a5 h Wm;go_wp2;refine bodyPost_ret (zL rfl _ rfl g underlying44 rfl zsB) rfl ⟨Rr i.out,Rr i.out,f⟩
 have e9:decide (ch<=N)=Xd:=decide_eq_false bm;obtain⟨ac,da⟩:∃ac,Xo (G.bl[N]? =Xa ac):=⟨_,gE (by rw[a9.out];omega)⟩;have dl:Xo (Qd m (d:Int) (c:Int)=(zU m (r:Int) (N:Int),Xd,0)):=dD<|by rw[D.out,kF Wm]
 clear bm;go_quiet (fail);obtain⟨E,b⟩:=kB (T.drewN nq);have t:zc T E:=by rw[<-b];exact(show Below _ _ _ from bD (bR _ _) _)
 have a5:=dD (a0.trans t);have g7:=dD (b5.aA t);have U:=dD (al.aA t);have hq:=dD (ds.aA t);have ek:E.cell? ⟨fp,4,Xb⟩=Xa (I6 (r:Int)):=Ry b cn;have el:E.cell? ⟨fp,5,Xb⟩=Xa (I6 (N:Int)):=Ry b co;rw[b];clear b t cb e3 cn co;obtain⟨cx,gy,gz,ex,ey,h5,h6,cb,h8,h9,v⟩:=g7.bN;have A:=ao.out E r N G ac a5 dd da bu;go_wp2_with fail;refine A.mono ?_;clear A;rintro en cg ⟨rfl,ag,ae⟩;have am:=dD (a5.trans ae);have b6:=dD (U.aA ae);obtain⟨ca,z⟩:=kA (zU m (r:Int) (N:Int));have i:Xo (Qd m (d:Int) (c:Int)=(ca,Xd,0)):=show _=_ by rw[dl.out,z.out]
 rw[z.out]at ag⊢;have dh:Xo (ca.length=8):=ag;clear ae ag cx gy gz ex ey h5 h6 cb h8 h9 v ek el;obtain⟨cp,cq,cr,cs,ct,cu,cv,cw,rfl⟩:=zc4 ca dh.out;go_wp2_with (refine zp rfl 44 (.tmp 6) (.tmp 103) rfl (w.heap.size+1) rfl (pgc [cp,cq,cr,cs,ct,cu,cv,cw]) rfl b6 rfl zsB (qJ _) ?_)
 intro F g h _;have f:Xo (zc w F):=dD<|zd am h Wm;go_wp2;refine bodyPost_ret (zL rfl _ rfl g underlying44 rfl zsB) rfl ⟨Rr i.out,Rr i.out,f⟩
theorem zrV (h:maW m=0) {f:Fl} (c:m.fl[fi]? =Xa f):(0<=f.size/\f.size<=96)/\(f.bl.length:Int)=zau f.size:=by have a:=Q0 h;unfold zaq at a;rw[zj]at a;have b:=((qC _ _).1 (a (stW m.fl m.cnt) Sm)).2.1 f (mG c);exact⟨b.1,b.2.1⟩
structure zr1 (m:Ma) (c:Ca) (k fi ix:Nat) (f:Fr) (F:Fl):Prop where
 fr:c.fr=(k:Int)
 file:c.file=(fi:Int)
 idx:c.idx=(ix:Int)
 fa:m.fs[k]? =Xa f
 ff:f.f=(fi:Int)
 fx:f.x=(ix:Int)
 fl:m.fl[fi]? =Xa F
 sz:0<=F.size/\F.size<=96
 lo:ix<=12
 r:f.r≠0
 bl:ix<F.bl.length
theorem zn4 (p:maW m=0) {c:Ca} (a:c∈m.ca):∃k b e f F,zr1 m c k b e f F:=by
 obtain⟨⟨d,d,d,s,d,d⟩,⟨j,l,n⟩,-⟩:=zn3 ((zo.1 (zbX p).1.ca).1 c a);obtain⟨k,r⟩:∃k:Nat,c.fr=(k:Int):=⟨c.fr.toNat,Wm⟩;obtain⟨b,a⟩:∃b:Nat,c.file=(b:Int):=⟨c.file.toNat,Wm⟩;obtain⟨e,d⟩:∃e:Nat,c.idx=(e:Int):=⟨c.idx.toNat,Wm⟩;obtain⟨f,q⟩:∃f,m.fs[k]? =Xa f:=⟨_,gE Wm⟩;obtain⟨F,g⟩:∃F,m.fl[b]? =Xa F:=⟨_,gE Wm⟩;have i:zX m c.fr=f:=by unfold zX;rw[r,tN,gD,q];rfl
 have h:bkN m c.file=(F.bl.length:Int):=by unfold bkN;rw[a,tN,gD,g];rfl
 rw[i]at j l n;rw[h]at s;obtain⟨h,i⟩:=zrV p g;have:=zgO h.1 h.2;exact⟨k,b,e,f,F,r,a,d,q,l.trans a,n.trans d,g,h,Wm,j,Wm⟩
end
section
theorem zir (P:α->Bool):∀{l:List α} {k:Nat} {x y:α},l[k]? =Xa x->(l.set k y).countP P+(P x).toNat=l.countP P+(P y).toNat
 | [],k,x,y,h=>by simp at h
 | a :: l,0,x,y,h=>by
  have:a=x:=Si h
  subst this;rw[sZ,Yw,Yw];cases P a <;> cases P y <;> simp
 | a :: l,k+1,x,y,h=>by grind
theorem zpk {fs:List Fr} (a:fs[k]? =Xa X) (b:X.r≠0):qL (fs.set k frF)=qL fs+1:=by grind [qL,frF,zir]
theorem ZB:z4 N z=Xc↔∃(i:Nat) (f:Fl) (j:Nat),N[i]? =Xa f/\f.bl[j]? =Xa z:=by grind [z4,List.any_eq_true,Xz,Yi.1,mG,Yi.2]
theorem zaD (h:z∈L) (a:z≠-1):z∈Jh L:=Yb.2 ⟨h,Si a⟩
theorem zd3 (g:z≠-1):∀{l:List Int} {j k:Nat},(Jh l).Nodup->l[j]? =Xa z->l[k]? =Xa z->j=k
 | [],j,k,_,h,_=>by simp at h
 | a :: l,j,k,c,d,e=>by
  have h:(Jh l).Nodup:=by
   unfold Jh at c⊢;rw[Ym]at c;split at c;·exact(Yo.1 c).2
   exact c
  have f:a=z->z∉l:=fun i m=>by
   subst i;unfold Jh at c;rw[Ym,kE (Si g)]at c;exact(Yo.1 c).1 (zaD m g)
  cases j with
  | zero=>
   cases k with
   | zero=>rfl
   | succ k=>
    rw[Xs]at e;exact absurd (mG e) (f (Si d))
  | succ j=>
   cases k with
   | zero=>
    rw[Xs]at d;exact absurd (mG d) (f (Si e))
   | succ k=>
    rw[Xs]at d e;rw[zd3 g h d e]
theorem ziD {f:Fl} (a:N[k]? =Xa f) (c:f.bl[j]? =Xa z):z∈Jg N:=Yv.2 ⟨f,mG a,mG c⟩
theorem zfU (d:z≠-1):∀{fs:List Fl} {i k j l:Nat} {f g:Fl},(Jh (Jg fs)).Nodup->fs[i]? =Xa f->f.bl[j]? =Xa z->fs[k]? =Xa g->g.bl[l]? =Xa z->i=k/\j=l
 | [],i,k,j,l,f,g,_,h,_,_,_=>by simp at h
 | a :: fs,i,k,j,l,f,g,p,e,h,c,m=>by
  have n:Jh (Jg (a :: fs))=Jh a.bl++Jh (Jg fs):=by
   unfold Jh Jg;rw[List.flatMap_cons,List.filter_append]
  rw[n,Oi]at p;obtain⟨r,s,q⟩:=p;cases i with
  | zero=>
   have n:a=f:=Si e;subst n;cases k with
   | zero=>
    have n:a=g:=Si c;subst n;exact⟨rfl,zd3 d r h m⟩
   | succ k=>
    rw[Xs]at c;exact absurd rfl (q z (zaD (mG h) d) z (zaD (ziD c m) d))
  | succ i=>
   rw[Xs]at e;cases k with
   | zero=>
    have n:a=g:=Si c;subst n;exact absurd rfl (q z (zaD (mG m) d) z (zaD (ziD e h) d))
   | succ k=>
    rw[Xs]at c;obtain⟨n,p⟩:=zfU d s e h c m;exact⟨by rw[n],p⟩
theorem zn5 {f:Fl} (h:stW N z=0) (c:N[k]? =Xa f) (d:f.bl[p]? =Xa (b:Int)):
  N.set k ⟨f.size,f.bl.set p (b:Int)⟩=N/\(∀x,z4 N x=Xc↔(z4 N x=Xc/\x≠-1)\/x=(b:Int)\/(x=-1/\z4 N x=Xc))/\∀(i j:Nat) g,N[i]? =Xa g->g.bl[j]? =Xa (b:Int)->i=k/\j=p:=by
 obtain⟨_,_,idx⟩:=(qC N z).1 h;have h:(b:Int)≠-1:=Wm;refine⟨?_,fun x=>?_,fun i j g z e=>zfU h idx z e c d⟩
 ·have z:f.bl.set p (b:Int)=f.bl:=by
   apply Ya;grind
  rw[z];apply Ya;intro q;rw[Og];split
  ·rename_i e
   subst e;rw[kE (gS.1 c).1,c]
  rfl
 constructor;·grind
 rintro(⟨z,_⟩|rfl|⟨_,z⟩);·exact z
 ·exact ZB.2 ⟨k,f,p,c,d⟩
 exact z
theorem zn6 {f:Fl} (h:stW N z=0) (l:N[k]? =Xa f) (e:f.bl[p]? =Xa (-1)) (c:b∈Q1 N z):
  stW (N.set k ⟨f.size,f.bl.set p (b:Int)⟩) z=0/\(∀x,z4 (N.set k ⟨f.size,f.bl.set p (b:Int)⟩) x=Xc↔(z4 N x=Xc/\x≠-1)\/x=(b:Int)\/(x=-1/\z4 (N.set k ⟨f.size,f.bl.set p (b:Int)⟩) x=Xc))/\z4 N (b:Int)=Xd/\∀(i j:Nat) g,N[i]? =Xa g->g.bl[j]? =Xa (b:Int)->i=k/\j=p:=by
 have z:z4 N (b:Int)=Xd:=by
  have:=(Yb.1 c).2;grind
 have d:=(gS.1 l).1;have n:=(gS.1 e).1;refine⟨(zlz h l e c).1,fun x=>?_,z,fun i j g z c=>?_⟩
 ·constructor
  ·intro h
   by_cases m:x=-1;·grind
   obtain⟨i,g,j,z,c⟩:=ZB.1 h;by_cases e:k=i
   ·subst e;rw[sF d]at z;cases z;simp only at c;by_cases idx:p=j;·grind
    rw[sN idx]at c;exact .inl ⟨ZB.2 ⟨k,f,j,l,c⟩,m⟩
   rw[sN e]at z;exact .inl ⟨ZB.2 ⟨i,g,j,z,c⟩,m⟩
  rintro(⟨h,m⟩|rfl|⟨_,h⟩)
  ·obtain⟨i,g,j,z,c⟩:=ZB.1 h
   by_cases e:i=k
   ·subst e;rw[l]at z;cases z;have l:p≠j:=fun idx=>(by grind);exact ZB.2 ⟨i,⟨f.size,f.bl.set p (b:Int)⟩,j,by rw[sF d],by simp only;rw[sN l];exact c⟩
   exact ZB.2 ⟨i,g,j,by rw[sN (fun idx=>e idx.symm)];exact z,c⟩
  ·exact ZB.2 ⟨k,⟨f.size,f.bl.set p (b:Int)⟩,p,by rw[sF d],by simp only;rw[sF n]⟩
  exact h
 have:=ZB.2 ⟨i,g,j,z,c⟩;grind
end
section
open Go.RowKit
theorem zrL (h:Rt m) {F:Fl} (d:m.fl[fi]? =Xa F) (f:ix<F.bl.length) (a:zbf m.fl m.cnt (fi:Int) (ix:Int)=0):
  ∃b:Nat,(b:Int)<m.cnt/\zjT m.fl m.cnt (fi:Int) (ix:Int)=(b:Int)/\zmd m.fl m.cnt (fi:Int) (ix:Int)=m.cnt/\ziN m.fl m.cnt (fi:Int) (ix:Int)=m.fl.set fi ⟨F.size,F.bl.set ix (b:Int)⟩/\(F.bl[ix]? =Xa (b:Int)\/(F.bl[ix]? =Xa (-1)/\b∈Q1 m.fl m.cnt)):=by
 have a:=h.inv.st;have c:zn9 m.fl (fi:Int)=F.bl:=by unfold zn9;rw[tN,d]
 have e:zri m.fl (fi:Int)=F.size:=by unfold zri;rw[tN,d]
 obtain⟨z,e⟩:∃z,F.bl[ix]? =Xa z:=⟨_,gE f⟩;have g:F.bl.getD ix 0=z:=by rw[gD,e];rfl
 obtain⟨f,f,_⟩:=(qC _ _).1 a;have a:∃b:Nat,(b:Int)<m.cnt/\zp0 m.fl m.cnt (fi:Int) (ix:Int)=(b:Int)/\(z=(b:Int)\/(z=-1/\b∈Q1 m.fl m.cnt)):=by
  unfold zp0;rw[c,tN,g];by_cases c:z=-1
  ·have g:Q1 m.fl m.cnt≠[]:=fun a=>by grind [zbf,gS.1,tN]
   cases a:Q1 m.fl m.cnt with
   | nil=>exact absurd a g
   | cons b l=>
    have g:b∈Q1 m.fl m.cnt:=(by rw[a];exact Xt ..);have a:=Xy.1 (Yb.1 g).1;refine⟨b,Wm,by rw[kE c];rfl,.inr ⟨c,Xt ..⟩⟩
  rw[kF c];obtain⟨_,_,a⟩:=f F (mG d);have:=a z (mG e);exact⟨z.toNat,Wm,Wm,.inl Wm⟩
 grind [zjT,zmd,ziN,tN]
theorem zmj (c:List (List Int)) (a:List (Int × List Int)) (b:∀q∈a,∃i:Nat,q.1=(i:Int)/\i<c.length) (i:Nat):(Zi c a)[i]? =c[i]?\/∃q∈a,q.1=(i:Int):=by
 unfold Zi;split
 ·rename_i c
  cases a with
  | nil=>cases c
  | cons q l=>
   simp only[List.headD_cons];obtain⟨j,a,_⟩:=b q (Xt ..);by_cases e:i=j;·grind
   grind
 grind
def zr3 (x:Nat × Nat):List Xq:=[Xe Xf (x.1:Int),Xe Xf (x.2:Int)]
theorem zsG:(Tryz.prog.info? 95).map (fun i=>(i.zero,i.size,i.bytes))=Xa (Xa (Xi #[I6 0,I6 0]),2,16):=by kernel_rfl
theorem zsH:Tryz.prog.underlying 183=Xa (.slice 95):=by kernel_rfl
def JZ:Elt (Nat × Nat) where
 enc:=zr3
 k:=2
 ty:=95
 st:=183
 bytes:=16
 zv:= Xi #[Xe Xf 0,Xe Xf 0]
 zero:=(0,0)
 len:=fun _=>rfl
 one:=fun a u hu=>by
  simp only[zr3,mC,nM,or_false]at hu
  rcases hu with rfl|rfl <;> rfl
 bI:=zsH
 aD:=zsG
 zok:=rfl
 few:=by decide
 pos:=by decide
theorem zky (s) (kind k:Int):(zot s kind k).length<=64:=by unfold zot;exact nT (List.length_filter_le _ _) Sm
theorem zcg (m) (kind k:Int):∀q,(jK m kind k q).length<=64*q
 | 0=>by simp[zlw]
 | q+1=>by
  rw[zcM,lA,Yh];have a:=zcg m kind k q;have a:=zky (m.sp.getD q ⟨Xd,[],[]⟩) kind k;omega
theorem zcp (a1:ChW w0 k w V m) (kind p:Int) (bb:m.sp.length<=4):
  Xp prog 115 #[Xj (Xa ⟨k,0,Xb⟩),I6 kind,I6 p] w fun e w'=>∃v,e= Xl v/\zb JZ w.heap.size w' v (jK m kind p m.sp.length)/\zc w w':=by
 obtain⟨b0,X,s,W⟩:=a1.at.aT;obtain⟨-,-,-,-,-,-,-,-,bf⟩:=a1.at.ns;obtain⟨az,M⟩:=kA V.sp.a;obtain⟨u,c⟩:=kA m.sp.length;have Q:=a1.box.box.c 10 rfl;rw[bf,c.out,M.out]at Q;have aj:Xo (b0.length=u):=dD<|Rx X c.out;have af:Xo (∀(j:Nat) x,b0[j]? =Xa x->∃am,az=Xa am/\∀b7,zc w b7->zgY b7 (am.add (j*10)) x):=dD<|Ry M.out s;have ag:=dD W;have be:u<=4:=Ry c.out bb;rw[c.out];clear a1 X s W bf bb;go_enter func115,ntmps115;go_wp2;clear Q;go_loopg [7,18] u (fun aq Y ax wr=>∃(q:Nat) (z:Option Addr) (F A:Nat),q<=u/\u - q<=aq/\ax=I6 q/\Y= O z F A/\Xo (zc w wr)/\Xo (zb JZ w.heap.size wr (O z F A) (jK m kind p q)))
 exact⟨0,Xb,0,0,nZ _,Wm,rfl,rfl,zc.refl _,zb.nil _ _ _⟩;obtain⟨q,z,F,A,cg,c0,rfl,rfl,a6,b6⟩:=hrel;by_cases h:q<u
 ·have T:=kC h
  obtain⟨x,aw⟩:∃x,b0[q]? =Xa x:=⟨_,gE (Rx aj.out h)⟩;obtain⟨t,b3⟩:∃t,Xo (m.sp[q]? =Xa t):=⟨_,gE (Rx c.out h)⟩;have aa:=dD<|ag.out q x t aw b3.out;obtain⟨am,rfl,bd⟩:=af.out q x aw;obtain⟨bo,bp,bq,br,bs,bt,bu,bv,bw,bx⟩:=bd wr a6.out;have L:Xo (jK m kind p (q+1)=jK m kind p q++(zot t kind p).map fun n=>(q,n)):=show _=_ by rw[zcM,Sp.aK b3.out]
  have ae:=dD<|zcg m kind p q;have y:=dD<|zky t kind p;clear bd aw;go_upto_region 5 with fail;refine nW fun N g=>?_;have ao:=gP g;have i:=xA g;have b1:=dD (a6.trans ao);have bk:=dD (b6.aA ao);clear g ao bo bp bq br bs bt bu bv bw bx;have bc:Xp prog 142 #[Xi #[x.t0.x,x.t1.x,x.t2.x,x.t3.x,x.t4.x,x.t5.x,x.t6.x,x.t7.x],I6 kind,I6 p] N fun e w'=>∃v,e= Xl v/\zb blE N.heap.size w' v ((zot t kind p).map fun(n:Nat)=>(n:Int))/\zc N w':=zlF x.tab t.tb kind p N (aa.tb.aA b1);obtain⟨_,_,c1,c2,c3,c4,c5,Y,c6,ca⟩:=i.k10;go_wp2_with fail;refine bc.mono ?_;clear bc c1 c2 c3 c4 c5 Y c6 ca;rintro e cc ⟨v,rfl,f,ap⟩;obtain⟨a,ac⟩:=kA (zot t kind p);rw[ac.out]at f L y;obtain⟨cb,bg,rfl⟩:=f.form;rw[Yh]at f;have a3:=dD f;have b2:=dD (b1.trans ap);have bl:=dD (bk.aA ap);rw[Yh];obtain⟨l,b⟩:=kA a.length;rw[b.out]at a3 y⊢;have ar:l<=64:=y.out;clear f ap;obtain⟨b9,ab⟩:=kA N.heap.size;have bj:=dD<|bS b2.out;rw[ab.out]at a3;go_wp2;go_loopg [7,29] l (fun aq Y ay wr=>∃(j:Nat) (z:Option Addr) (F A:Nat),j<=l/\l - j<=aq/\ay=I6 j/\Y= O z F A/\Xo (zc w wr)/\Xo (zb JZ w.heap.size wr (O z F A) (jK m kind p q++(a.take j).map fun n=>(q,n)))/\Xo (zb blE b9 wr (O cb l bg) (a.map fun(n:Nat)=>(n:Int))))
  exact⟨0,z,F,A,nZ _,Wm,rfl,rfl,b2,show zb _ _ _ _ _ by simpa using(show zb _ _ _ _ _ from bl.out),a3.out⟩;obtain⟨j,Z,a2,I,cf,bz,rfl,rfl,a5,al,a4⟩:=hrel;by_cases C:j<l
  ·have S:=kC C
   obtain⟨n,av⟩:∃n,a[j]? =Xa n:=⟨_,gE (Rx b.out C)⟩;have U:(a.map fun(n:Nat)=>(n:Int))[j]? =Xa (n:Int):=(by rw[Yk,av];rfl);obtain⟨_,_,D,d⟩:=a4.at.rows;simp only[vJ]at D;obtain⟨P,r,R⟩:=d j _ U;rw[<-D.1]at r;subst r;have ba:wr.cell? (P.add (j*1))=Xa (I6 (n:Int)):=by
    have:=R wr (zc.refl _) 0 _ rfl;rw[Addr.add_add]at this;exact this
   rw[Yu]at ba;have ai:Xo ((a.take (j+1)).map (fun n=>(q,n))=(a.take j).map (fun n=>(q,n))++ [(q,n)]):=dD (by rw[Yl,av];simp);have H:Xo (((jK m kind p q++(a.take j).map fun n=>(q,n)).length+ [(q,n)].length)*16<=140737488355328):=dD<|by
    rw[lA,Yh,List.length_take];have:=ae.out;simp only[Yf,Yj];omega
   clear av U D d R;obtain⟨b4,K⟩:=kA (jK m kind p q++(a.take j).map fun n=>(q,n));rw[K.out]at al H;have ak:Xo (zb JZ w.heap.size (wr.alloc (Xk #[I6 (q:Int),I6 (n:Int)] 95)) (O Z a2 I) b4):=al.aA (za wr (Xk #[I6 (q:Int),I6 (n:Int)] 95));have ah:Xo (w.heap.size<=(wr.alloc (Xk #[I6 (q:Int),I6 (n:Int)] 95)).heap.size):=show _<=_ from nT (bS a5) (bS (za _ _));go_wp2_with (at_builtin;refine zy (E:=JZ) rfl (.tmp 33) (.tmp 37) rfl w.heap.size (O Z a2 I) b4 rfl ak _ [(q,n)] rfl (Zw JZ wr (q,n) _ _ rfl Dc) H ah.out ?_)
   intro ch b8 G B;obtain⟨cd,ce,rfl⟩:=G.form;have bm:Xo (zb JZ w.heap.size b8 _ (jK m kind p q++(a.take (j+1)).map fun n=>(q,n))):=dD (by rw[ai.out,<-List.append_assoc,K.out];exact G);have a0:zc wr (wr.alloc (Xk #[I6 (q:Int),I6 (n:Int)] 95)):=za _ _;have bh:Xo (zb blE b9 b8 (O (Xa P) l bg) (a.map fun(n:Nat)=>(n:Int))):=dD<|(a4.aA a0).grown B (fun an au e=>(a4.aA a0).apart ak Dc an au e);have bi:=dD<|z2 (a5.trans a0) B (fun an au=>(ak.lt an au).1);clear G B a0 ba;try simp only[Yn]
   go_wp2;go_roundg (l -(j+1));exact⟨j+1,_,_,_,Wm,Wm,Gn,rfl,bi,bm,bh⟩;omega
  have S:=kD C;have bn:Xo (zb JZ w.heap.size wr (O Z a2 I) (jK m kind p (q+1))):=dD<|by
   rw[L.out];have:=al.out;rw[Yc (by rw[b.out];omega)]at this;exact this
  go_wp2;go_roundg (u -(q+1));exact⟨q+1,Z,a2,I,Wm,Wm,Gn,rfl,a5,bn⟩;omega
 have T:=kD h;obtain rfl:q=u:=Wm;go_wp2;go_ret;exact⟨_,rfl,b6,a6⟩
theorem zae (a5:ChW w0 k w V m) (q:Nat) (a9:q<m.sp.length) (n:Int) (z:En):
  Xp prog 93 #[Xj (Xa ⟨k,0,Xb⟩),Xi #[I6 (q:Int),I6 n],Xi #[I6 z.kind,I6 z.n,Xh z.wr]] w fun e w'=>(∃v,e= Xl v)/\Chg w0 k w V (Zl m q n z) w':=by
 obtain⟨s,S⟩:∃s,m.sp[q]? =Xa s:=⟨_,gE a9⟩;obtain⟨ar,N,ah,ai⟩:=a5.sp;obtain⟨x,D⟩:∃x,ar[q]? =Xa x:=⟨_,gE (Rx ah a9)⟩;have T:=dD<|ai q x s D S w (qH.refl _ _);obtain⟨b8,G⟩:=kA ar.length;obtain⟨p,be,l⟩:=N.aG Wm;rw[G.out]at l;have bi:(q:Int)< (b8:Int):=Hm G.out;have A:=dD l;have aw:=dD a5;have ax:=dD D;have ba:=dD S;have Z:=dD ah;have a0:=dD ai;rw[l]at N;have F:=dD N;have X:Xo (∀W,zc w W->zgY W ⟨p,q*10,Xb⟩ x):=show∀W,_ from fun W a7=>by
  have:=((N.aA a7).one D).sp10;rw[Xv,zA]at this;exact this
 have b9:=dD<|fun W (a7:zc w W)=>zmA x.tab s.tb n z W (T.tb.aA a7);have Y:Xo (Zl m q n z={ m with sp:=m.sp.set q { s with tb:=zj9 s.tb n z } }):=dD<|by unfold Zl;rw[Sp.aK S]
 rw[Y.out];clear a5 a9 S N ah ai D l;obtain⟨az,d⟩:=kB ((w.alloc (Xk #[I6 (q:Int),I6 n] 95)).alloc (Xk #[I6 z.kind,I6 z.n,Xh z.wr] 55));have au:=gD2 d;have a2:=x2a d;have b0:=x2b d;have a1:=dD d;clear d;have a3:az.cell? ⟨k,10,Xb⟩=Xa (O (Xa ⟨p,0,Xb⟩) b8 be):=by rw[<-A.out];exact(aw.box.box.aA au).c 10 rfl
 have b7:=a2.c 0 rfl;go_enter func93,ntmps93;go_upto_region 1 with fail;rw[a1.out];obtain⟨g,U⟩:=kA w.heap.size;rw[U.out]at a2 b0 b7⊢;go_upto_region 2 with(go_quiet (fail))
 clear a3 b7;obtain⟨j,f⟩:=kB (az.drewN nq);have Q:Xo (zc w j):=dD<|by rw[<-f];exact au.trans (show Below _ _ _ from bD (bR _ _) _)
 have bc:Xo (Box j g [I6 (q:Int),I6 n]):=dD<|by rw[<-f];exact a2.aA (show Below _ _ _ from bD (bR _ _) _)
 have bd:Xo (Box j (g+1) [I6 z.kind,I6 z.n,Xh z.wr]):=dD<|by rw[<-f];exact b0.aA (show Below _ _ _ from bD (bR _ _) _)
 rw[f];clear f;obtain⟨i,h⟩:=Ww fun u=>Box u g [I6 (q:Int),I6 n]/\Box u (g+1) [I6 z.kind,I6 z.n,Xh z.wr];have C:i j.drew:=(h _).2 ⟨bc.aA (gW _),bd.aA (gW _)⟩;have H:zc j j.drew:=show Below _ _ _ from(bR _ _).drew;have ab:=fun y:zg i=>((h _).1 y.holds).1.c 1 rfl;have ac:=fun y:zg i=>((h _).1 y.holds).2.c 0 rfl;have ad:=fun y:zg i=>((h _).1 y.holds).2.c 1 rfl;have ae:=fun y:zg i=>((h _).1 y.holds).2.c 2 rfl;have a8:Nonempty (zg i):=⟨⟨_,C⟩⟩;refine zQ (I:=i) 15 [(4,fun v=>v= Xi #[x.t0.x,x.t1.x,x.t2.x,x.t3.x,x.t4.x,x.t5.x,x.t6.x,x.t7.x]),(8,fun v=>∃r:List Xq,v= Xm #[Xi r.toArray,I6 (zmb s.tb n z)]),(14,fun _=>True)] (fun u=>zc j u) C H z3 Kr rfl rfl Dc (Sc ⟨_,rfl⟩ ⟨_,[],rfl⟩ ⟨undef,trivial⟩) Kr ?_;simp only[Ob,Oc];iterate 2 refine zi ?_
 refine zW (.tmp 17) ⟨p,q*10,Xb⟩ rfl rfl rfl rfl ?_;refine Uq ?_;refine zi ?_;refine zH rfl rfl (fun _ u=>zc j u) (fun w' c b=>?_) (fun b6 L=>?_)
 ·refine zco 61 (.tmp 19) rfl p (q*10+2) rfl [x.t0.x,x.t1.x,x.t2.x,x.t3.x,x.t4.x,x.t5.x,x.t6.x,x.t7.x] ?_ underlying61 rfl Kr ⟨c,rfl,b⟩
  have t:=X.out _ (Q.trans b);intro b4 v a;have bj:(w'.cell? ⟨p,q*10+2+b4,Xb⟩)=Xa v:=by
   match b4,a with
   | 0,a=>cases a;exact t.2.2.1
   | 1,a=>cases a;exact t.2.2.2.1
   | 2,a=>cases a;exact t.2.2.2.2.1
   | 3,a=>cases a;exact t.2.2.2.2.2.1
   | 4,a=>cases a;exact t.2.2.2.2.2.2.1
   | 5,a=>cases a;exact t.2.2.2.2.2.2.2.1
   | 6,a=>cases a;exact t.2.2.2.2.2.2.2.2.1
   | 7,a=>cases a;exact t.2.2.2.2.2.2.2.2.2
  exact bj
 cases L;refine Uq ?_;iterate 3 refine zi ?_
 refine zH rfl rfl (fun v u=>∃(r:List Xq) (R:Xn),v= Xm #[Xi r.toArray,I6 (zmb s.tb n z)]/\zc j R/\zc R u/\Jr 0 R.heap.size u r (zj9 s.tb n z)) (fun w' c b=>?_) (fun b6 L=>?_);·refine zN.call [Xi #[x.t0.x,x.t1.x,x.t2.x,x.t3.x,x.t4.x,x.t5.x,x.t6.x,x.t7.x],I6 n,Xi #[I6 z.kind,I6 z.n,Xh z.wr]] rfl func123 rfl rfl rfl ?_;refine(b9 w' (Q.trans b)).mono ?_;rintro e bk ⟨r,rfl,P,a4⟩;obtain⟨af,ag⟩:=(h _).1 c;exact⟨_,rfl,(h _).2 ⟨af.aA a4,ag.aA a4⟩,⟨r,rfl⟩,r,w',rfl,b,a4,P⟩
 obtain⟨r,rfl⟩:=L;refine Uq ?_;iterate 3 refine zi ?_
 refine zW (.tmp 16) ⟨p,q*10,Xb⟩ rfl rfl rfl rfl ?_;refine Uq ?_;refine zi ?_;refine zH rfl rfl (fun _ u=>Chg w0 k w V { m with sp:=m.sp.set q { s with tb:=zj9 s.tb n z } } u) (fun w' c b=>?_) (fun b6 L=>?_)
 ·obtain⟨aq,R,bg,b1,bf,b5⟩:=b;have aa:aq=r:=by simpa using bg.symm
  subst aa;obtain⟨aj,ak,P,al,am,an,ao,ap,rfl⟩:=b5.form;have av:=(Q.trans b1).trans bf;refine zdm (E:=Qm) (.tmp 28) (.tmp 25) 61 rfl w0.heap.size _ ar (F.aA av) p q 2 rfl x ⟨x.aF,x.ar,aj,ak,P,al,am,an,ao,ap⟩ ax.out [aj.v,ak.v,P.v,al.v,am.v,an.v,ao.v,ap.v] Kr rfl (by show 2+8<=10;omega) ?_ ⟨p,q*10+2,Xb⟩ rfl rfl (Xi #[aj.v,ak.v,P.v,al.v,am.v,an.v,ao.v,ap.v]) rfl rfl ?_
  ·intro u b3;simp only[mC,nM,or_false]at b3;rcases b3 with rfl|rfl|rfl|rfl|rfl|rfl|rfl|rfl <;> rfl
  intro bb M B _;rw[<-A.out]at M;obtain⟨af,ag⟩:=(h _).1 c;have bh:=F.lt p rfl;refine⟨(h _).2 ⟨af.grown B (Hm U.out),ag.grown B (Hm U.out)⟩,trivial,aw.bQ Z a0 ax ba (by have b2:=A.out;(try simp only[Sli.x]at b2);unfold oB;rw[b2];rfl) av (b5.less (nR _) (nT (bS Q) (bS b1))) B M ⟨rfl,rfl,rfl⟩⟩
 clear L;try simp only[Yn]
 refine qV fun bb a6 K=>?_;have ay:=dD K;clear a6 K C H ab ac ad ae a8;go_wp2;exact Wq ay.out
theorem zlS (u:ChW w0 k w V m) (q:Nat) (N:q<m.sp.length) (n:Int) (M:(JD m q n).kind=1->ZS m.fs m.aB (JD m q n).n (-1)=0):
  Xp prog 87 #[Xj (Xa ⟨k,0,Xb⟩),Xi #[I6 (q:Int),I6 n]] w fun e w'=>(∃v,e= Xl v)/\Chg w0 k w V (zjE m q n) w':=by
 obtain⟨E,g⟩:=kA (JD m q n);have j:Xo (zjE m q n=Zl (Q8 m E (-1)) q n ⟨0,0,Xd⟩):=dD<|by rw[<-g.out];rfl
 have B:Xo (ChW w0 k w V m):=u;have C:Xo (q<m.sp.length):=N;have Q:Xo (∀p,Dw k V p->p<w.heap.size):=u.bK;have R:Xo (E.kind=1->ZS m.fs m.aB E.n (-1)=0):=show _->_ by rw[<-g.out];exact M
 clear u N M;obtain⟨U,b⟩:=kB (w.alloc (Xk #[I6 (q:Int),I6 n] 95));have A:=gA b;obtain⟨H,f⟩:=kA w.heap.size;have s:=xPT b f;have h:Xo (¬Dw k V H):=dD<|fun e=>by have:=Q.out _ e;have:=f.out;omega
 have l:Xo (_=U):=b;clear b;have a:=Jb (B.aA A) q C n;rw[g.out]at a;go_enter func87,ntmps87;go_upto_region 1 with fail;rw[l.out,f.out];obtain⟨y,z⟩:=s.box.k2;go_wp2_with fail;refine a.mono ?_;clear a y z;rintro e Y ⟨rfl,t⟩;have d:=dD (A.trans t);have X:=dD (s.aA t);clear t;unfold enV;have c:=zfK (B.aA d) E (-1) R.out;go_wp2_with fail;refine c.mono ?_;clear c;rintro e r ⟨⟨Z,rfl⟩,F,P,x,K⟩;have S:Xo (ChW w0 k r F (Q8 m E (-1))):=P;have i:Xo (∀p,Dw k F p->Dw k V p\/w.heap.size<=p):=show∀p,_ from Chg.far d K;have T:Xo (qH (Dw k V) w r):=dD<|(qH.aA d).trans x;have G:Xo (zt r H 95 [I6 (q:Int),I6 n]):=X.aU x h.out;clear P K x;obtain⟨y,z⟩:=G.box.k2;have a:=zae S q (Rx zkr C) n ⟨0,0,Xd⟩;go_wp2_with fail;refine a.mono ?_;clear a y z;rintro e W ⟨⟨I,rfl⟩,L⟩;have D:Xo (Chg w0 k w V (zjE m q n) W):=dD<|Rx j.out (Chg.step T i L);clear L;go_wp2;exact Wq D.out
def zdk (m:Ma) (q:Nat) (n:Int) (k:Int):Ma:=Zl (Q8 m ⟨1,k,Xd⟩ 1) q n ⟨1,k,Xd⟩
theorem zcR (t:ChW w0 k w V m) (q:Nat) (H:q<m.sp.length) (n:Int) (p:Int) (G:ZS m.fs m.aB p 1=0):
  Xp prog 113 #[Xj (Xa ⟨k,0,Xb⟩),Xi #[I6 (q:Int),I6 n],I6 p] w fun e w'=>(∃v,e= Xl v)/\Chg w0 k w V (zdk m q n p) w':=by
 have M:Xo (ChW w0 k w V m):=t;have N:Xo (q<m.sp.length):=H;have L:Xo (ZS m.fs m.aB p 1=0):=G;have z:Xo (∀p,Dw k V p->p<w.heap.size):=t.bK;clear t H G;obtain⟨s,a⟩:=kB ((w.alloc (Xk #[I6 (q:Int),I6 n] 95)).alloc (Xk #[I6 1,I6 p,Xh Xd] 55));have j:=gD2 a;obtain⟨b,c⟩:=kA w.heap.size;have S:Xo (zt s b 95 [I6 (q:Int),I6 n]):=dD<|by rw[<-a];exact(zt.aE w [I6 (q:Int),I6 n] _ c.symm).aA (za _ _)
 have D:Xo (zt s (b+1) 55 [I6 1,I6 p,Xh Xd]):=dD<|by rw[<-a];exact zt.aE _ [I6 1,I6 p,Xh Xd] _ (by have:=c.out;simp;omega)
 have d:Xo (¬Dw k V b/\¬Dw k V (b+1)):=dD<|⟨fun e=>by have:=z.out _ e;have:=c.out;omega,fun e=>by have:=z.out _ e;have:=c.out;omega⟩;have r:Xo (_=s):=a;clear a;have g:=zfK (M.aA j) ⟨1,p,Xd⟩ 1 (fun _=>L.out);go_enter func113,ntmps113;go_upto_region 2 with fail;rw[r.out,c.out];obtain⟨u,x,y⟩:=D.box.c3;go_wp2_with fail;refine g.mono ?_;clear g u x y;rintro e h ⟨⟨X,rfl⟩,B,K,i,E⟩;have P:Xo (ChW w0 k h B (Q8 m ⟨1,p,Xd⟩ 1)):=K;have l:Xo (∀p,Dw k B p->Dw k V p\/w.heap.size<=p):=show∀p,_ from Chg.far j E;have Q:Xo (qH (Dw k V) w h):=dD<|(qH.aA j).trans i;have C:Xo (zt h b 95 [I6 (q:Int),I6 n]):=S.aU i d.1;have T:Xo (zt h (b+1) 55 [I6 1,I6 p,Xh Xd]):=D.aU i d.2;clear K E i;obtain⟨U,W⟩:=C.box.k2;obtain⟨u,x,y⟩:=T.box.c3;have f:=zae P q (Rx zkr N) n ⟨1,p,Xd⟩;go_wp2_with fail;refine f.mono ?_;clear f U W u x y;rintro e R ⟨⟨Y,rfl⟩,F⟩;have A:Xo (Chg w0 k w V (zdk m q n p) R):=dD<|Chg.step Q l F;clear F;go_wp2;exact Wq A.out
theorem zjH (K:ChW w0 k w V m) (q:Nat) (M:q<m.sp.length) (n:Int):
  Xp prog 72 #[Xj (Xa ⟨k,0,Xb⟩),Xi #[I6 (q:Int),I6 n]] w fun e w'=>(∃v,e= Xl v)/\Chg w0 k w V (Zl m q n { JD m q n with wr:=true }) w':=by
 obtain⟨E,A⟩:=kA (JD m q n);rw[A.out];have B:Xo (ChW w0 k w V m):=K;have C:Xo (q<m.sp.length):=M;clear K M;obtain⟨P,b⟩:=kB (w.alloc (Xk #[I6 (q:Int),I6 n] 95));have l:=gA b;obtain⟨H,z⟩:=kA w.heap.size;have j:=xPT b z;have r:Xo (_=P):=b;clear b;have a:=Jb (B.aA l) q C n;rw[A.out]at a;go_enter func72,ntmps72;go_upto_region 1 with fail;rw[r.out,z.out];obtain⟨u,x⟩:=j.box.k2;go_wp2_with fail;refine a.mono ?_;clear a u x;rintro e F ⟨rfl,h⟩;unfold enV;go_upto_region 2 with fail;obtain⟨p,i⟩:=kA F.heap.size;refine nW fun Y c=>?_;have t:=gP c;have S:=xPT c i;have R:=dD (j.aA (h.trans t));have N:=dD ((l.trans h).trans t);have f:Xo (H<p/\w.heap.size<=p):=show _/\_ from⟨by have:=(j.aA h).box.lt;have:=i.out;omega,by have:=i.out;have:=bS (l.trans h);omega⟩;rw[i.out];clear c t h;go_upto_region 3 with(refine Qk rfl 4 (.tmp 8) (.const (Xh Xc)) rfl p 2 rfl (Xh Xc) rfl [Xh Xc] rfl S Sm Kr (by simp[Value.oneCell']) ?_)
 intro s g d _;have T:Xo (zt s p 55 [I6 E.kind,I6 E.n,Xh Xc]):=g;have G:Xo (zt s H 95 [I6 (q:Int),I6 n]):=R.beside d (fun Z e=>by cases e;have:=f.out;omega);have y:Xo (zc w s):=dD<|zd N d f.2;clear g d;try simp only[Yn]
 have a:=zae (B.aA y) q C n ⟨E.kind,E.n,Xc⟩;obtain⟨u,x⟩:=G.box.k2;obtain⟨U,W,X⟩:=T.box.c3;go_wp2_with fail;refine a.mono ?_;clear a u x U W X;rintro e Q ⟨⟨I,rfl⟩,L⟩;have D:Xo (Chg w0 k w V (Zl m q n { E with wr:=true }) Q):=dD<|Chg.aH y L;clear L;go_wp2;exact Wq D.out
theorem ChW.off {w:Xn} {p:Nat} (h:ChW w0 p w V m) {g:Nat} {cs:Array Xq} (a:w.heap[g]? =Xa (Xk cs t (0,0))) (t1:102≠t) (t2:qR.ty≠t) (d:jA.ty≠t) (f:Qm.ty≠t):¬Dw p V g:=by
 have a:∀{c:Type} {E:Elt c} {b:Nat} {v:Xq} {l:List c},zb E b w v l->E.ty≠t->v.ownBlock≠Xa g:=fun r b e=>by
  obtain⟨b,b⟩:=r.obj e;grind
 rintro(e|e|e|e)
 ·subst e;have b:w.heap[g]? =_:=h.box;grind
 ·exact a h.fs t2 e
 ·exact a h.ca d e
 obtain⟨b,b,_⟩:=h.sp;exact a b f e
theorem ChW.bW (h:ChW w0 k w V m) (a:zt w b t D) (t1:102≠t) (t2:qR.ty≠t) (c:jA.ty≠t) (d:Qm.ty≠t):¬Dw k V b:=h.off (show w.heap[b]? =_ from a) t1 t2 c d
theorem ChW.offR (h:ChW w0 k w V m) (r:zb E p w A y) (t1:102≠E.ty) (t2:qR.ty≠E.ty) (c:jA.ty≠E.ty) (d:Qm.ty≠E.ty):∀g,A.ownBlock=Xa g->¬Dw k V g:=fun g b=>by
 obtain⟨a,a⟩:=r.obj b;exact h.off a t1 t2 c d
theorem zb.chg (r:zb E b w A y) (o:qH (Dw k V) w w1) (a:∀g,A.ownBlock=Xa g->¬Dw k V g):zb E b w1 A y:=⟨zhF r.1 o a,r.2⟩
def JP (m:Ma) (e:En) (l:List (Nat × Nat)):Ma:=l.foldl (fun m x=>Zl m x.1 (x.2:Int) e) m
theorem zjD (m e) (l:List (Nat × Nat)) (x:Nat × Nat):JP m e (l++ [x])=Zl (JP m e l) x.1 (x.2:Int) e:=by simp[JP]
theorem zbH (e):∀(l:List (Nat × Nat)) (m:Ma),(JP m e l).sp.length=m.sp.length/\(JP m e l).fs=m.fs/\(JP m e l).aB=m.aB
 | [],_=>⟨rfl,rfl,rfl⟩
 | x :: l,m=>by
  have h:=zbH e l (Zl m x.1 (x.2:Int) e);exact⟨h.1.trans (zlM _ _ _ _),h.2⟩
def zbj (m:Ma) (k:Nat) (r:Int) (e:En):Ma:={ JP m e (jK m 1 (k:Int) m.sp.length)with fs:=JA m.fs m.aB (k:Int) (-r),aB:=m.aB }
theorem zeM (h:ChW w0 k w V m) (p:Nat) (fr:Fr) (f:m.fs[p]? =Xa fr) (z:En) (a:m.sp.length<=4) (d:0<=fr.r/\fr.r<=1000) (b:ZS m.fs m.aB (p:Int) (-fr.r)=0):
  Xp prog 195 #[Xj (Xa ⟨k,0,Xb⟩),I6 (p:Int),Xi #[I6 z.kind,I6 z.n,Xh z.wr]] w fun e w'=>(∃v,e= Xl v)/\Chg w0 k w V (zbj m p fr.r z) w':=by
 have l:=dD h;have H:=dD f;have X:=dD b;have u:=dD d;have c:=dD a;clear h f a b d;obtain⟨j,a⟩:=kB (w.alloc (Xk #[I6 z.kind,I6 z.n,Xh z.wr] 55));have g:=gA a;obtain⟨C,h⟩:=kA w.heap.size;have s:=xPT a h;have d:=dD a;clear a;have a:=zcp (l.aA g) 1 (p:Int) c.out;obtain⟨L,F⟩:=kA (jK m 1 (p:Int) m.sp.length);rw[F.out]at a;have b:Xo (L.length<=256):=show _<=_ by
  rw[<-F.out];have G:=zcg m 1 (p:Int) m.sp.length;have q:=c.out;omega
 have q:Xo (∀D∈L,D.1<m.sp.length):=dD<|fun D c=>by
  rw[<-F.out]at c;exact((zaP Dc (nR _)).1 c).1
 go_enter func195,ntmps195;go_upto_region 1 with fail;rw[d.out,h.out];go_wp2_with fail;refine a.mono ?_;clear a;rintro e a ⟨v,rfl,a,A⟩;obtain⟨t,U,rfl⟩:=a.form;obtain⟨h,d⟩:=kA L.length;rw[d.out]at a b⊢;have r:h<=256:=b.out;obtain⟨N,b⟩:=kA j.heap.size;rw[b.out]at a;have r:=dD a;have b:=dD (g.trans A);have g:=dD (s.aA A);clear a A;go_wp2;go_loopg [12] h (fun s a wr=>∃(j:Nat) (B:MaV),j<=h/\h - j<=s/\a=I6 j/\Xo (ChW w0 k wr B (JP m z (L.take j)))/\Xo (qH (Dw k V) w wr)/\Xo (∀p,Dw k B p->Dw k V p\/w.heap.size<=p)/\Xo (zb JZ N wr (O t h U) L)/\Xo (zt wr C 55 [I6 z.kind,I6 z.n,Xh z.wr]))
 exact⟨0,V,nZ _,Wm,rfl,l.aA b,qH.aA b,fun p f=> .inl f,r,g⟩;obtain⟨j,B,y,a,rfl,f,Q,P,t,T⟩:=hrel;by_cases l:j<h
 ·have s:=kC l
  obtain⟨⟨E,n⟩,c⟩:∃D,L[j]? =Xa D:=⟨_,gE (Rx d.out l)⟩;obtain⟨g,Y,b⟩:=t.aG (by rw[d.out];omega);simp only[vJ]at b;obtain⟨rfl,-,-⟩:=b;have a:=t.one c;have r:wr.cell? ⟨g,j*2,Xb⟩=Xa (I6 (E:Int)):=by
   have:=a 0 _ rfl;rw[Xv,Xv,zA,Nat.add_zero]at this;exact this
  have M:wr.cell? ⟨g,j*2+1,Xb⟩=Xa (I6 (n:Int)):=by
   have:=a 1 _ rfl;rw[Xv,Xv,zA]at this;exact this
  have S:=dD<|q.out _ (mG c);have K:Xo (L.take (j+1)=L.take j++ [(E,n)]):=show _=_ by rw[Yl,c];rfl
  clear a c;go_upto_region 4 with fail;clear r M;obtain⟨a,r⟩:=kA wr.heap.size;refine nW fun a a=>?_;have q:=gA a;have R:=xPT a r;have M:=dD (T.aA q);rw[r.out];clear a;have r:=dD (f.aA q);have a:=zae r E (by rw[(zbH z _ m).1];exact S) (n:Int) z;obtain⟨E,S⟩:=R.box.k2;obtain⟨R,T,W⟩:=M.box.c3;go_wp2_with fail;refine a.mono ?_;clear a E S R T W;rintro e E ⟨⟨a,rfl⟩,R,T,a,S⟩;have W:Xo (ChW w0 k E R (JP m z (L.take (j+1)))):=dD (by rw[K.out,zjD];exact T);have K:=Chg.step (w0:=w0) (m':=JP m z (L.take (j+1))) Q P (Chg.aH q ⟨R,W,a,S⟩);have R:Xo (zb JZ N E (O (Xa ⟨g,0,Xb⟩) h U) L):=(t.aA q).chg a (r.offR (t.aA q) Dc Dc Dc Dc);have W:Xo (zt E C 55 [I6 z.kind,I6 z.n,Xh z.wr]):=M.aU a (r.bW M Dc Dc Dc Dc);obtain⟨U,r,t,q⟩:=K;have K:=dD r;have M:=dD t;have E:=dD q;clear T a S r t q;go_wp2;go_roundg (h -(j+1));exact⟨j+1,U,Wm,Wm,Gn,K,M,E,R,W⟩;omega
 have s:=kD l;have a:Xo (L.take j=L):=dD<|Yc (by rw[d.out];omega);rw[a.out]at f;obtain⟨K,l⟩:=kA (JP m z L);rw[l.out]at f;have a:Xo (K.fs=m.fs/\K.aB=m.aB):=dD<|by rw[<-l.out];exact(zbH z L m).2
 obtain⟨g,Y,b⟩:=f.fs.aG (by rw[a.1];have:=(gS.1 H).1;omega);obtain⟨⟨d,t,q⟩,d,d,d,d,d,d,d,d⟩:=B;simp only[vJ]at b;obtain⟨rfl,d,-⟩:=b;have b:(p:Int)< (t:Int):=by
  have G:=(gS.1 H).1;rw[d,a.1];omega
 have b:Xo (∀W,zc wr W->W.cell? ⟨g,p*13+8,Xb⟩=Xa (I6 fr.r)):=dD<|fun W h=>by
  have:=(f.fs.aA h).one (i:=p) (x:=fr) (Rx a.1 H) 8 _ rfl;rw[Xv,Xv,zA]at this;exact this
 have M:Xo (∀W,zc wr W->Xp prog 121 #[Xi #[O (Xa ⟨g,0,Xb⟩) t q,I6 m.aB],I6 (p:Int),I6 (-fr.r)] W fun e w'=>∃s:Sli,e= Xl (Xm #[Xi #[s.x,I6 m.aB],I6 0])/\zb qR W.heap.size w' (s.x) (JA m.fs m.aB (p:Int) (-fr.r))/\zc W w'):=dD<|fun W h=>by
  have r:=(f.at.aA h).fs;rw[a.1]at r d;rw[d]at r⊢;refine(zgH (Xa ⟨g,0,Xb⟩) q m.fs m.aB (p:Int) (-fr.r) W r X).mono ?_;rintro e w' ⟨C,rfl,r,g⟩;have h:zb qR W.heap.size w' C (JA m.fs m.aB (p:Int) (-fr.r)):=r;obtain⟨B,C,rfl⟩:=h.form;exact⟨⟨B,_,C⟩,rfl,r,g⟩
 have h:=dD f.box;have H:=dD a.2;clear d;obtain⟨r,B⟩:=kA fr.r;rw[B.out]at b M u;obtain⟨a,a⟩:=u.out;go_upto_region 6 with fail;obtain⟨a,E⟩:=Ww fun u=>u.cell? ⟨g,p*13+8,Xb⟩=Xa (I6 r);have L:zc wr wr.drew:=show Below _ _ _ from(bR _ _).drew;have d:=(E _).2 (b _ L);have C:zc wr wr.drew:=L;have R:=fun L:zg a=>(E _).1 L.holds;have L:Nonempty (zg a):=⟨⟨_,d⟩⟩;refine zav (I:=a) 26 [(18,fun v=>∃s:Sli,v= Xm #[Xi #[s.x,I6 m.aB],I6 0]),(25,fun _=>True)] [5,12] (fun u=>zc wr u) d C z3 Kr rfl rfl Dc (Sb ⟨_,zE,rfl⟩ ⟨undef,trivial⟩) Kr Kr ?_;simp only[Ob,Oc];iterate 2 refine Qe ?_
 refine zaJ (.tmp 23) ⟨k,0,Xb⟩ rfl rfl rfl rfl ?_;refine Uq ?_;iterate 2 refine Qe ?_
 refine zhX rfl rfl rfl (Xi #[O (Xa ⟨g,0,Xb⟩) t q,I6 m.aB]) (fun w' _ a=>?_) ?_
 ·exact zmD 28 (.tmp 26) rfl k 0 rfl [O (Xa ⟨g,0,Xb⟩) t q,I6 m.aB] ((h.box.aA a).mid 0 (fun j v y=>by
   match j,y with
   | 0,y=>exact y
   | 1,y=>rw[<-H.out]at y;exact y)) underlying28 rfl Kr
 refine Uq ?_;iterate 2 refine Qe ?_
 refine zaJ (.tmp 29) ⟨k,0,Xb⟩ rfl rfl rfl rfl ?_;refine Uq ?_;iterate 3 refine Qe ?_
 refine zhX rfl rfl rfl (O (Xa ⟨g,0,Xb⟩) t q) (fun w' _ a=>?_) ?_;·exact zk4 26 (.tmp 33) rfl k 0 rfl (O (Xa ⟨g,0,Xb⟩) t q) ((h.box.aA a).c 0 rfl) underlying26 rfl
 refine Uq ?_;iterate 5 refine Qe ?_
 refine zcb rfl rfl (fun v u=>∃(s:Sli) (c:Xn),v= Xm #[Xi #[s.x,I6 m.aB],I6 0]/\zc wr c/\zc c u/\zb qR c.heap.size u (s.x) (JA m.fs m.aB (p:Int) (-r))) (fun w' j a=>?_) (fun D y=>?_);·refine zN.call [Xi #[O (Xa ⟨g,0,Xb⟩) t q,I6 m.aB],I6 (p:Int),I6 (-r)] rfl func121 rfl rfl rfl ?_;refine(M w' a).mono ?_;rintro e q ⟨s,rfl,q,A⟩;exact⟨_,rfl,(E _).2 (b _ (a.trans A)),⟨s,rfl⟩,s,w',rfl,a,A,q⟩
 obtain⟨s,rfl⟩:=y;refine Uq ?_;iterate 3 refine Qe ?_
 refine zaJ (.tmp 22) ⟨k,0,Xb⟩ rfl rfl rfl rfl ?_;refine Uq ?_;iterate 2 refine Qe ?_
 refine zcb rfl rfl (fun _ u=>Chg w0 k w V (zbj m p r z) u) (fun w' j a=>?_) (fun D y=>?_)
 ·obtain⟨j,c,c,t,q,u⟩:=a;have a:j=s:=by
   obtain⟨A,A,A⟩:=s;obtain⟨N,s,s⟩:=j;simp only[Value.tuple.injEq,Array.mk.injEq,List.cons.injEq,Value.agg.injEq,vJ,and_true]at c;obtain⟨rfl,rfl,rfl⟩:=c;rfl
  subst a;have c:=t.trans q;refine ZT 28 (.tmp 45) (.tmp 41) rfl k 0 rfl (Xi #[j.x,I6 m.aB]) rfl [j.x,I6 m.aB] rfl (h.aA c) (by simp[chL]) Kr (by simp[Value.oneCell']) ?_;intro q h a _;have j:=f.nf g rfl;refine⟨(E _).2 ?_,trivial,?_⟩
  ·have G:=b.out _ c;have b:=World.block_lt_of_cell? _ _ G;rw[World.cell?_of_block (w:=w') (a.block g b (fun e=>by cases e;exact j rfl))];exact G
  have b:zbj m p r z={ K with fs:=JA m.fs m.aB (p:Int) (-r),aB:=m.aB }:=by
   unfold zbj;rw[F.out,l.out]
  rw[b];exact Chg.step Q P (f.bM c (u.base (bS t)) a h)
 clear y;try simp only[Yn]
 refine zgs fun q b a=>?_;have c:Xo (Chg w0 k w V (zbj m p fr.r z) q):=dD<|Rx B.out a;clear b a d C R L;go_wp2;exact Wq c.out
def frU (q:Fr):Fr:={ q with u:=false }
def zkq (q:Fr):Bool:=decide (0<q.r) && !q.u
theorem zoa (h:Below b w W) (c:b<=P.block) (u):Below b w (W.setCell P u):=Below.setCell h c u
theorem zoM (B g n f i base v:Nat) (fs:List Fr) (q W) (b:fs.length=n) (a:n<=40) (h:fs[i]? =Xa q) (j:Box W B [O (Xa ⟨g,0,Xb⟩) n f,I6 (i:Int)]) (k:zb qR base W (O (Xa ⟨g,0,Xb⟩) n f) fs) (p:B≠g) (t:v<=B) (C:v<=g):
  Xp prog 189 #[Xj (Xa ⟨B,0,Xb⟩)] W fun e a=>e= Xl (Xm #[I6 (i:Int),Xh (zkq q)])/\Box a B [O (Xa ⟨g,0,Xb⟩) n f,I6 (((i+1) % n:Nat):Int)]/\zb qR base a (O (Xa ⟨g,0,Xb⟩) n f) (fs.set i (frU q))/\Below v W a:=by
 have d:=dD k;have c:=dD j;have u:=dD h;have a:i<n:=by rw[<-b];exact(gS.1 h).1
 have a:=dD b;clear k j h b;have a:(i:Int)< (n:Int):=Wm;have a:(0:Int)< (n:Int):=Wm;have a:¬(n:Int)=0:=Wm;have a:(((i:Int)+1) %(n:Int))=(((i+1) % n:Nat):Int):=Sm;have k:=dD a;clear a;have a:=Ne.symm p;obtain⟨z,j⟩:=c.k2;have s:=c.f;have m:=c.lt;have a:=(d.lt g rfl).2;have u8:=d.frc u 8 rfl;have u9:=d.frc u 9 rfl;go_enter func189,ntmps189;go_upto_region 3 with fail;obtain⟨h,b⟩:=kB (W.setCell ⟨B,1,Xb⟩ (I6 (((i:Int)+1) %(n:Int))));rw[b];have r:Xo (Box h B [O (Xa ⟨g,0,Xb⟩) n f,I6 (((i:Int)+1) %(n:Int))]):=dD<|by rw[<-b];exact c.set 1 _
 have l:Xo (zb qR base h (O (Xa ⟨g,0,Xb⟩) n f) fs):=dD<|by rw[<-b];exact d.aN (fun w a=>by cases a;exact p) _
 have d:Xo (Below v W h):=dD<|by rw[<-b];exact zoa (bR _ _) t _
 clear b z j s m u8 u9;have z:=r.c 0 rfl;have u8:=l.frc u 8 rfl;have u9:=l.frc u 9 rfl;have y:Xo (zkq q=(decide (0<q.r) && !q.u)):=rfl;obtain⟨h,b⟩:=kA q.r;obtain⟨A,c⟩:=kA q.u;rw[b.out]at u8 y;rw[c.out]at u9 y;by_cases D:0<h
 ·cases A with
  | true=>
   have x:Xo (zkq q=Xd):=dD<|by rw[y.out];simp[D]
   skip
   go_wp2_with (refine zx (E:=qR) rfl (.tmp 32) (.const (Xh Xd)) 4 rfl base (O (Xa ⟨g,0,Xb⟩) n f) fs l g i 9 rfl q (frU q) u.out [Xh Xd] Kr rfl (Yd rfl) (by intro A t;simp at t;subst t;rfl) _ rfl (by simp[qR]) _ rfl rfl ?_)
   intro s c b _;have m:=dD c;have j:Xo (Box s B [O (Xa ⟨g,0,Xb⟩) n f,I6 (((i:Int)+1) %(n:Int))]):=r.beside b (fun w a=>by cases a;exact p);have h:Xo (Below v W s):=Below.grown d b (Hm (bS d.out)) (fun w a=>by cases a;exact C);clear c b u8 u9 z;go_wp2;go_ret2;exact⟨Rr x.out,Ry k.out j,m,h⟩
  | false=>
   have x:Xo (zkq q=Xc):=dD<|by rw[y.out];simp[D]
   skip
   go_wp2_with (refine zx (E:=qR) rfl (.tmp 32) (.const (Xh Xd)) 4 rfl base (O (Xa ⟨g,0,Xb⟩) n f) fs l g i 9 rfl q (frU q) u.out [Xh Xd] Kr rfl (Yd rfl) (by intro A t;simp at t;subst t;rfl) _ rfl (by simp[qR]) _ rfl rfl ?_)
   intro s c b _;have m:=dD c;have j:Xo (Box s B [O (Xa ⟨g,0,Xb⟩) n f,I6 (((i:Int)+1) %(n:Int))]):=r.beside b (fun w a=>by cases a;exact p);have h:Xo (Below v W s):=Below.grown d b (Hm (bS d.out)) (fun w a=>by cases a;exact C);clear c b u8 u9 z;go_wp2;go_ret2;exact⟨Rr x.out,Ry k.out j,m,h⟩
 
 have x:Xo (zkq q=Xd):=dD<|by rw[y.out];simp[D]
 skip
 go_wp2_with (refine zx (E:=qR) rfl (.tmp 32) (.const (Xh Xd)) 4 rfl base (O (Xa ⟨g,0,Xb⟩) n f) fs l g i 9 rfl q (frU q) u.out [Xh Xd] Kr rfl (Yd rfl) (by intro A t;simp at t;subst t;rfl) _ rfl (by simp[qR]) _ rfl rfl ?_)
 intro s c b _;have m:=dD c;have j:Xo (Box s B [O (Xa ⟨g,0,Xb⟩) n f,I6 (((i:Int)+1) %(n:Int))]):=r.beside b (fun w a=>by cases a;exact p);have h:Xo (Below v W s):=Below.grown d b (Hm (bS d.out)) (fun w a=>by cases a;exact C);clear c b u8 u9 z;go_wp2;go_ret2;exact⟨Rr x.out,Ry k.out j,m,h⟩
end
end Go.Proofs.YtkfjajbalegoeaaGreat
