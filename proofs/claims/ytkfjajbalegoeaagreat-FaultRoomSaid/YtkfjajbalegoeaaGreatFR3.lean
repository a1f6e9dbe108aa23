import Derived.Test.YtkfjajbalegoeaaGreatFR2
namespace Go.Proofs.YtkfjajbalegoeaaGreat
open Go.Value renaming slice→O,int→Xe,bool→Xh,agg→Xi,pointer→Xj,tuple→Xm
open Go.IntKind renaming i64→Xf,u8→Xg
open Go.Obj renaming cells→Xk
open Go.Ending renaming returned→Xl
open Go renaming World→Xn,Calls→Xp,Value→Xq
open Go.RowKit renaming Hid→Xo
open Option renaming some→Xa,none→Xb
open Bool renaming true→Xc,false→Xd
open List renaming replicate→Xr
open _root_.List renaming mem_cons_self→Xs,mem_cons_of_mem→Xt,mem_range→Xu,getElem?_cons_succ→Xv,ext_getElem?→Xy,getElem?_of_mem→Xz,mem_map→Ya,any_eq_true→Yb,take_of_length_le→Yc,mem_filter→Yd,length_set→Yf,getElem?_map→Yg,length_cons→Yi,contains_iff_mem→Yl,take_add_one→Ym,countP_cons→Yn,drop_eq_getElem_cons→Yo,length_nil→Yp,length_map→Yq,range→Yr,filter_cons→Ys,nodup_cons→Yv,find?_eq_none→Yx,getElem?_append_left→Yy,mem_flatMap→Yz,length_take→Oa,map_nil→Ob,set_append_right→Oe,countP_le_length→Of,take→Oi,drop→Oj,countP_eq_zero→Ok,filter_eq_self→Ol,map_congr_left→Om,getElem?_set→Oo,set_set→Oq,nodup_append→Ot,append_assoc→Ou
open Go.Addr renaming add_lit→Xw
open _root_.Bool renaming and_eq_true→Xx
open _root_.Nat renaming le_of_ble_eq_true→Ye,mod_eq_of_lt→Yj,mod_lt→Yt,mod_add_mod→Yw,sub_self→Oc,add_zero→Od,mul_one→Og,le_succ→Oh
open Go.Sem renaming run_bind→Yh,run_pure→Yk
open Go.Act renaming put→Yu
set_option maxRecDepth 100000
set_option maxHeartbeats 4000000
variable{α:Type}{a:Act}{P:Addr}{C:Ar}{E:Elt α}{Z:En}{X:Fr}{R z:Int}{g:List (Int × List Int)}{G:List (List En)}{r:List (List Int)}{d:List (Nat × Nat)}{N:List Fl}{L:List Int}{K:List Oper}{D:List Xq}{y:List α}{m:Ma}{b k p:Nat}{F:Nat->On}{s:Sp}{w:Xn}{A:Xq}
variable{B b fi ix j:Nat} {Q:Exit->Act->Xn->Prop} {T:List (Nat->En)} {V:MaV} {W w0 w1:Xn} {a0 a1 a2 a3 a4 a5 a6 a7 a8 a9:Xq} {l:List Ar} {m m' m1:Ma} {o:Oper} {ops:Array Oper} {t:TypeId} {vs:List Xq} {z:Int}
open Go.Proofs.Tryz
section
theorem zbx {c:Sp} (ht:∀s∈m1.sp,Qo s.tb) (f:b<64) (d:enW Z=0) (n:m1.sp[p]? =Xa s) (a:(JS m1 k b Z).sp[p]? =Xa c) (g:¬(p=k/\j=b)):zf c j=zf s j:=by
 rw[zeU,n]at a;simp only[Option.map_some,Option.some.injEq]at a;subst a;split
 ·rename_i h
  subst h;rw[zc0 (ht s (mG n)) f d];grind [qZ]
 rfl
def zu (m:Ma) (k:Nat):List (Nat × Nat)->Ma
 | []=>m
 | x :: l=>zu (jY m k x.1 x.2) k l
def zq1 (m:Ma) (x:Nat × Nat):Prop:=∃s,m.sp[x.1]? =Xa s/\x.2<64/\zf s x.2=en0/\(zo s.aC x.2).is=Xc/\(zo s.aC x.2).sh=Xd
section
variable{k:Nat}
theorem zfW (a:m.fs[k]? =Xa X) (p n:Nat):(jY m k p n).fs[k]? =Xa { X with r:=X.r+1 }:=by show(m.fs.set k _)[k]? =_;grind [sF,gS.1,zK]
theorem ze1:∀(l:List (Nat × Nat)) {m:Ma} {fr:Fr},Rt m->m.fs[k]? =Xa fr->fr.f=-1->(∃(q i:Nat) (t:Sp),m.sp[q]? =Xa t/\i<64/\zf t i=⟨1,(k:Int),Xd⟩)->(∀x∈l,zq1 m x)->l.Nodup->
  Rt (zu m k l)/\Sam (fun q j=>(q,j)∈l) m (zu m k l)/\(zu m k l).fs[k]? =Xa { fr with r:=fr.r+(l.length:Int) }/\(∀x∈l,∀s',(zu m k l).sp[x.1]? =Xa s'->zf s' x.2=⟨1,(k:Int),Xd⟩)/\∀(q j:Nat) s s',m.sp[q]? =Xa s->(zu m k l).sp[q]? =Xa s'->(q,j)∉l->zf s' j=zf s j
 | [],m,fr,h,hk,_,_,_,_=>⟨h,Sam.refl _ _,(by simp only[zu,Yp,Int.ofNat_zero,Int.add_zero];exact hk),fun x hx=>(by cases hx),fun q j s s' hs hs' _=>by simp only[zu]at hs';rw[hs]at hs';cases hs';rfl⟩
 | x :: l,m,fr,h,hk,hf,hq,hb,hd=>by
  obtain⟨q,i,t,hq,hi,hqi⟩:=hq;obtain⟨s,hs,hn,h0,hx,hsh⟩:=hb x (Xs ..);have hkl:=(gS.1 hk).1;have he:=zcA h.inv hkl Xd;have ht:∀s∈m.sp,Qo s.tb:=fun s hs=>h.tb hs
  obtain⟨j1,j2⟩:=zmp h hk hf hq hi hqi hs hn h0 hx hsh;have hd':=Yv.1 hd;have at1:∀(q:Nat) s,m.sp[q]? =Xa s->∃s',(jY m k x.1 x.2).sp[q]? =Xa s':=fun q s hs=>⟨_,gE (by rw[j2.aI];exact(gS.1 hs).1)⟩;have oth:∀(q j:Nat) s s',m.sp[q]? =Xa s->(jY m k x.1 x.2).sp[q]? =Xa s'->¬(q=x.1/\j=x.2)->zf s' j=zf s j:=fun q j s s' h1 h2 h3=>zbx (m1:={ m with fs:=m.fs.set k { zW m (k:Int)with r:=(zW m (k:Int)).r+1 } }) ht hn he h1 h2 h3
  obtain⟨s1,hs1⟩:=at1 x.1 s hs;have now:=(zae (m1:={ m with fs:=m.fs.set k { zW m (k:Int)with r:=(zW m (k:Int)).r+1 } }) ht hs hn he hs1).1;obtain⟨r1,r2,r3,r4,r5⟩:=ze1 l j1 (zfW hk x.1 x.2) hf ⟨x.1,x.2,s1,hs1,hn,now⟩ (fun y hy=>by
   obtain⟨sy,a1,a2,a3,a4,a5⟩:=hb y (Xt _ hy);obtain⟨sy',b1⟩:=at1 y.1 sy a1;have b2:=(j2.sp y.1 sy sy' a1 b1).2;have b3:=oth y.1 y.2 sy sy' a1 b1 (fun e=>hd'.1 (by
    have:y=x:=Prod.ext e.1 e.2;rw[<-this];exact hy))
   exact⟨sy',b1,a2,Rx b3 a3,Rx b2 a4,Rx b2 a5⟩) hd'.2
  refine⟨r1,(j2.trans r2).mono ?_,?_,fun y hy s' hs'=>?_,fun q j s s' h1 h2 h3=>?_⟩
  ·rintro q j (⟨rfl,rfl⟩ | h1)
   ·exact Xs ..
   exact Xt _ h1
  ·show(zu (jY m k x.1 x.2) k l).fs[k]? =_
   rw[r3];simp only[Yi,Option.some.injEq,Fr.mk.injEq,and_true,true_and];omega
  ·rcases mC.1 hy with rfl | hy
   ·rw[r5 y.1 y.2 s1 s' hs1 hs' hd'.1];exact now
   exact r4 y hy s' hs'
  obtain⟨sq,hsq⟩:=at1 q s h1;rw[r5 q j sq s' hsq h2 (fun e=>h3 (Xt _ e))]
  exact oth q j s sq h1 hsq (fun e=>h3 (by
   have:(q,j)=x:=Prod.ext e.1 e.2;rw[this];exact Xs ..))
def zps (k:Nat) (l:List (Nat × Nat)) (sp:List Sp):List Sp:=l.foldl (fun sp x=>sp.modify x.1 fun s=>{ s with tb:=zkm s.tb x.2 ⟨1,(k:Int),Xd⟩ }) sp
theorem zcf:∀(l:List (Nat × Nat)) {m:Ma} {fr:Fr},m.fs[k]? =Xa fr->zu m k l={ m with fs:=m.fs.set k { fr with r:=fr.r+(l.length:Int) },sp:=zps k l m.sp }
 | [],m,fr,hk=>by
  have:m.fs.set k { fr with r:=fr.r+(([]:List (Nat × Nat)).length:Int) }=m.fs:=by
   apply Xy;intro q;rw[Oo];split
   ·rename_i hq
    subst hq;rw[if_pos (gS.1 hk).1,hk];simp
   rfl
  rw[this];rfl
 | x :: l,m,fr,hk=>by
  show zu (jY m k x.1 x.2) k l=_;rw[zcf l (zfW hk x.1 x.2)];have e1:(jY m k x.1 x.2).fs=m.fs.set k { fr with r:=fr.r+1 }:=by
   show m.fs.set k _=_;rw[zK hk]
  have e2:fr.r+1+(l.length:Int)=fr.r+((x :: l).length:Int):=by simp only[Yi];omega
  rw[e1,Oq];simp only[e2];rfl
def zbi (m:Ma) (k:Nat) (pg:Pg) (u:Bool) (l:List (Nat × Nat)):Ma:={ m with fs:=m.fs.set k ⟨pg,(l.length:Int),u,Xd,-1,0⟩,sp:=zps k l m.sp }
theorem zp7 (z:Rt m) (K:m.fs[k]? =Xa X) (a8:X.r=0) (pg:Pg) (u:Bool) (a7:d≠[]) (G:∀x∈d,zq1 m x) (a6:d.Nodup):
  Rt (zbi m k pg u d)/\Sam (fun q j=>(q,j)∈d) m (zbi m k pg u d)/\(∀x∈d,∀b,(zbi m k pg u d).sp[x.1]? =Xa b->zf b x.2=⟨1,(k:Int),Xd⟩):=by
 cases d with
 | nil=>exact absurd rfl a7
 | cons x d=>
  obtain⟨s,c,r,Z,aa,A⟩:=G x (Xs ..);have i:=(gS.1 K).1;have H:=zcA z.inv i Xd;have L:∀s∈m.sp,Qo s.tb:=fun s c=>z.tb c;obtain⟨N,t⟩:=zpD z K a8 pg u c r Z aa A;have g:=Yv.1 a6;obtain⟨e,a⟩:∃e,JS { m with fs:=m.fs.set k ⟨pg,1,u,Xd,-1,0⟩ } x.1 x.2 ⟨1,(k:Int),Xd⟩=e:=⟨_,rfl⟩;rw[a]at N t;have h:e.fs[k]? =Xa ⟨pg,1,u,Xd,-1,0⟩:=by
   rw[<-a];show(m.fs.set k _)[k]? =_;rw[sF i]
  have f:∀(q:Nat) s,m.sp[q]? =Xa s->∃b,e.sp[q]? =Xa b:=fun q s c=>⟨_,gE (by rw[t.aI];exact(gS.1 c).1)⟩;have C:∀(q j:Nat) s b,m.sp[q]? =Xa s->e.sp[q]? =Xa b->¬(q=x.1/\j=x.2)->zf b j=zf s j:=fun q j s b I F a0=>by
   rw[<-a]at F;exact zbx (m1:={ m with fs:=m.fs.set k ⟨pg,1,u,Xd,-1,0⟩ }) L r H I F a0
  obtain⟨R,n⟩:=f x.1 s c;have B:zf R x.2=⟨1,(k:Int),Xd⟩:=by
   have p:=n;rw[<-a]at p;exact(zae (m1:={ m with fs:=m.fs.set k ⟨pg,1,u,Xd,-1,0⟩ }) L c r H p).1
  obtain⟨P,Q,ae,ab,ac⟩:=ze1 d N h rfl ⟨x.1,x.2,R,n,r,B⟩ (fun y M=>by
   obtain⟨D,v,S,T,U,V⟩:=G y (Xt _ M);obtain⟨l,w⟩:=f y.1 D v;have E:=(t.sp y.1 D l v w).2;have W:=C y.1 y.2 D l v w (fun ad=>g.1 (by grind))
   exact⟨l,w,S,Rx W T,Rx E U,Rx E V⟩) g.2
  have Y:zu e k d=zbi m k pg u (x :: d):=by
   rw[zcf d h,<-a];have fr:(1:Int)+(d.length:Int)=((x :: d).length:Int):=(by simp only[Yi];omega);unfold zbi JS;simp only[Oq,fr];rfl
  rw[Y]at P Q ab ac;refine⟨P,(t.trans Q).mono ?_,fun y M b a9=>?_⟩;·grind
  grind
theorem zoU (a:m.fs[k]? =Xa X) (pg:Pg) (u:Bool) (l:List (Nat × Nat)):
  zu { m with fs:=m.fs.set k ⟨pg,1,u,Xd,-1,0⟩ } k l={ m with fs:=m.fs.set k ⟨pg,1+(l.length:Int),u,Xd,-1,0⟩,sp:=zps k l m.sp }:=by rw[zcf l (fr:=⟨pg,1,u,Xd,-1,0⟩) (by show(m.fs.set k _)[k]? =_;rw[sF (gS.1 a).1])];simp only[Oq]
end
section
variable{m:Ma} {k p n:Nat} {fr:Fr} {s:Sp}
def Zj (m:Ma) (k:Nat) (pg:Pg) (u d:Bool) (file idx:Int):Ma:={ m with fs:=m.fs.set k ⟨pg,1,u,d,file,idx⟩,ca:=ZC m.ca ⟨file,idx,k⟩ }
theorem znj (h:Rt m) (b:m.fs[k]? =Xa fr) (j:fr.r=0) {pg:Pg} {u d:Bool} {idx:Int} (x:0<=R/\R<m.fl.length) (hi:0<=idx/\idx<bkN m R) (r:∀c∈m.ca,¬(c.file=R/\c.idx=idx)) (hp:pgL pg=zZ m R idx):
  Rt (Zj m k pg u d R idx)/\Sam (fun _ _=>False) m (Zj m k pg u d R idx):=by
 have y:=(gS.1 b).1;have w:=zln h.inv (u:=u) (d:=d) b j r hp;refine⟨Rt.of (h.inv.cache (p:=pg) (u:=u) (d:=d) b j x hi r) (fun s B=>h.tb B) h.aB.1 (by simpa [Zj]using h.aB.2),rfl,fun q s l a f=>?_,fun q C s l a f n _=>?_,rfl,fun _=>rfl,fun _=>rfl,fun e D _=>?_⟩
 ·have:m.sp[q]? =Xa l:=f
  grind
 ·have:m.sp[q]? =Xa l:=f;rw[a]at this;cases this;have g:=h.inv.en (qz a) n;have z:=(q7 g).2.1.1;refine zcX rfl rfl (fun i=>?_) (fun _=>rfl) (fun _=>rfl) w;have A:(zf s C).n≠(k:Int):=fun t=>by
   have v:=Q7 (qz a) n i;rw[t]at v;have:=(h.inv.free b j).1;omega
  grind [qG,zf,zW,Zj]
 grind [zZ,Zj]
theorem zoK (t:Rt m) (h:m.fs[k]? =Xa fr) (y:fr.r=0) {pg:Pg} {u d:Bool} {file idx:Int} (g:0<=file/\file<m.fl.length) (hi:0<=idx/\idx<bkN m file) (b:∀c∈m.ca,¬(c.file=file/\c.idx=idx)) (hp:pgL pg=zZ m file idx)
  (z:m.sp[p]? =Xa s) (x:n<64) (v:zf s n=en0) (A:(zo s.aC n).is=Xc) (e:(zo s.aC n).file=file) (f:(zo s.aC n).page=idx):
  Rt (jY (Zj m k pg u d file idx) k p n)/\Sam (fun q j=>q=p/\j=n) m (jY (Zj m k pg u d file idx) k p n):=by
 have w:=(gS.1 h).1;obtain⟨i,l⟩:=znj t h y (u:=u) (d:=d) g hi b hp;have a:(Zj m k pg u d file idx).fs[k]? =Xa ⟨pg,1,u,d,file,idx⟩:=by
  show(m.fs.set k _)[k]? =_;grind
 obtain⟨B,C⟩:=zho i a g.1 (s:=s) z x v A e f;exact⟨B,(l.trans C).mono fun q j r=>r.resolve_left id⟩
theorem zqB (b:(zo s.aC n).is=Xc) {w:Bool} (a:m1.fs[k]? =Xa fr):ZA m1 (zo s.aC n) ⟨1,(k:Int),w⟩=(pgL fr.p,decide (fr.f<0),0):=by grind [ZA,zK]
theorem zfR (h:Rt m) (c:m.fs[k]? =Xa fr) (f:fr.r≠0) (u d:Bool):Rt { m with fs:=m.fs.set k { fr with u:=u,d:=d } }/\Sam (fun _ _=>False) m { m with fs:=m.fs.set k { fr with u:=u,d:=d } }:=by
 have e:=(gS.1 c).1;have i:∀a b,zZ { m with fs:=m.fs.set k { fr with u:=u,d:=d } } a b=zZ m a b:=fun a b=>Ql e h.inv.ca (fun _=>by rw[zK c]) a b;refine⟨Rt.of (h.inv.marks (p:=fr.p) (u:=u) (d:=d) c f) (fun s b=>h.tb b) h.aB.1 (Si h.aB.2),rfl,fun q s g b f=>?_,fun q j s g b f j _=>?_,rfl,fun _=>rfl,fun _=>rfl,fun a a _=>by rw[i]⟩;·grind
 have:m.sp[q]? =Xa g:=f;rw[b]at this;cases this;refine zbs e h.inv.ca (fun _=>by rw[zK c]) (h.kind0 b j) (fun _ _=>by rw[zK c];exact⟨rfl,Iff.rfl⟩)
theorem zo5 (h:Rt m) (b:m.sp[p]? =Xa s) (f:n<64) {e:En} (t:e.kind=(zf s n).kind) (c:e.n=(zf s n).n) (d:QL m (zo s.aC n) e):Rt (JS m p n e)/\Sam (fun _ _=>False) m (JS m p n e):=by
 have i:∀s∈m.sp,Qo s.tb:=fun s b=>h.tb b;have u:=h.inv.entry b (qz b) f t c d;have a:=Sam.put (m1:=m) (p:=p) rfl rfl i f d.1 (fun q j y v r _=>rfl) (fun _ _=>rfl);refine⟨zdv b i f d.1 u h.aB,a.aI,a.sp,fun q j w x g k r _=>?_,a.fll,a.sz,a.bk,a.byt⟩;by_cases l:q=p/\j=n;·obtain⟨rfl,rfl⟩:=l;rw[b]at g;cases g;rw[(zae i b f d.1 k).1];exact zcX t c (fun _=>⟨rfl,Iff.rfl⟩) (fun _=>rfl) (fun _=>rfl) (fun _ _=>rfl)
 exact a.see q j w x g k r l
end
def Jf (k:Int) (e:En) (f:Nat->En):Nat->En:=fun j=>if isE (f j) 1 k=Xc then e else f j
theorem zj2 (k:Int) (e) (f:Nat->En) (kind j:Int):∀n:Nat,Zg (Jf k e f) kind j n+(if kind=1/\j=k then Zg f 1 k n else 0)=Zg f kind j n+(if isE e kind j=Xc then Zg f 1 k n else 0)
 | 0=>by simp[Zg]
 | n+1=>by
  have b:=zj2 k e f kind j n;unfold Zg;have a:Jf k e f n=if isE (f n) 1 k=Xc then e else f n:=rfl;rw[a]
  cases d:isE (f n) 1 k with
  | true=>
   simp only[if_true];have g:isE (f n) kind j=Xc↔kind=1/\j=k:=by
    simp only[isE,Xx,decide_eq_true_eq]at d⊢;omega
   by_cases a:kind=1/\j=k
   ·rw[kE a]at b⊢;rw[g.2 a];cases c:isE e kind j <;> simp[c]at b⊢<;> omega
   rw[kF a]at b⊢;have:isE (f n) kind j=Xd:=by
    cases h:isE (f n) kind j with
    | false=>rfl
    | true=>exact absurd (g.1 h) a
   rw[this];cases c:isE e kind j <;> simp[c]at b⊢<;> omega
  | false=>
   simp only[if_false,Bool.false_eq_true];by_cases a:kind=1/\j=k
   ·rw[kE a]at b⊢;rw[a.1,a.2,d];rw[a.1,a.2]at b;simp at b⊢;omega
   rw[kF a]at b⊢;simp at b⊢;omega
theorem zdT (k:Int) (e) (kind j:Int):∀T:List (Nat->En),qi (T.map (Jf k e)) kind j+(if kind=1/\j=k then qi T 1 k else 0)=qi T kind j+(if isE e kind j=Xc then qi T 1 k else 0)
 | []=>by simp[qi]
 | f :: T=>by
  have a:=zdT k e kind j T;have b:=zj2 k e f kind j 64;simp only[qi,mP,List.sum_cons]at a⊢
  by_cases d:kind=1/\j=k
  ·rw[kE d]at a b⊢
   by_cases c:isE e kind j=Xc;·rw[kE c]at a b⊢;omega
   rw[kF c]at a b⊢;omega
  rw[kF d]at a b⊢;by_cases c:isE e kind j=Xc;·rw[kE c]at a b⊢;omega
  rw[kF c]at a b⊢;omega
section
variable{m:Ma} {T:List (Nat->En)}
theorem qo.moved (h:qo m T) (b:m.fs[k]? =Xa X) (e:En) (w:e.kind≠1) {sl':List Int} {sb':List (List Int)} {sq':List (Int × List Int)} (q:sl'.length=m.sl.length) (r:sb'.length=m.sb.length) (u:zN sb'.length sq'=0)
  (a:∀(j:Nat) z,sl'[j]? =Xa z->z=(qi T 2 j+(if isE e 2 (j:Int)=Xc then qi T 1 k else 0):Nat)) (v:e=en0\/(enW e=0/\e.kind=2/\e.n<m.sl.length/\X.f=-1)):
  qo { m with fs:=m.fs.set k frF,ca:=m.ca.filter fun d=>!decide (d.fr=(k:Int)),sl:=sl',sb:=sb',sq:=sq' } (T.map (Jf (k:Int) e)):=by
 have a:=(gS.1 b).1;have c:∀j:Int,j≠(k:Int)->zH (m.ca.filter fun d=>!decide (d.fr=(k:Int))) j=zH m.ca j:=fun j f=>by grind [zH,List.countP_filter]
 have a:zH (m.ca.filter fun d=>!decide (d.fr=(k:Int))) (k:Int)=0:=by
  unfold zH;rw[Ok];intro d t;rw[Yd]at t;simpa using t.2
 obtain⟨i,a⟩:∃i:Ma,{ m with fs:=m.fs.set k frF,ca:=m.ca.filter fun d=>!decide (d.fr=(k:Int)),sl:=sl',sb:=sb',sq:=sq' }=i:=⟨_,rfl⟩;have p:∀z:Int,0<=z->z≠(k:Int)->zW i z=zW m z:=fun z b g=>by grind [zW,frF,qG]
 have n:i.sl.length=m.sl.length:=Ry a q;have l:i.fs.length=m.fs.length:=by rw[<-a];simp
 rw[a];refine⟨Rx l h.aK,fun s b=>?_,Rx n h.aO,by rw[<-a];show sb'.length=sl'.length;rw[r,q];exact h.bE,Ry a u,Ry a h.bI,Ry a h.st,Ry a h.cnt,Ry a h.bG,Ry a h.aV,Ry a h.aI,Ry a h.aP,by rw[<-a];simpa using h.tl,?_,fun r x s y b j f=>?_,fun j s f=>?_,fun j z f=>?_⟩
 ·rw[<-a]at b
  rcases List.mem_or_eq_of_mem_set b with b|rfl;·exact h.bB s b
  exact⟨Dc,Dc,.inl rfl,fun _=>rfl,fun _=>rfl⟩
 ·obtain⟨u,q,z⟩:=zn.1 h.ca;have q:i.ca=m.ca.filter fun d=>!decide (d.fr=(k:Int)):=by rw[<-a]
  rw[q];refine zn.2 ⟨fun d t=>?_,fun r d i=>(by cases i),z.filter _⟩;have i:=Yd.1 t;have g:d.fr≠(k:Int):=Si i.2;obtain⟨q,t,z,A⟩:=jW (u d i.1);have i:=p d.fr q.2.2.2.2.1 g;refine zaU ?_ (Rx i t) (Rx i z) (Rx i A);rw[<-a];simpa [bkN]using q
 ·rw[Yg]at b
  cases u:T[r]? with
  | none=>rw[u]at b;cases b
  | some t=>
   rw[u]at b;simp only[Option.map_some,Option.some.injEq]at b;subst b;have q:m.sp[r]? =Xa x:=(by rw[<-a]at y;exact y);unfold Jf;by_cases b:isE (t j) 1 (k:Int)=Xc
   ·rw[kE b]
    rcases v with v|⟨i,v,v,v⟩;·grind
    right;refine⟨i,Wm,?_⟩;simp only[isE,Xx,decide_eq_true_eq]at b;rcases h.aM r x t q u j f with i|i;·grind [en0]
    have v:=i.2.2;unfold zaJ at v⊢;split at v;·cases v
    grind [zQ,zK]
   rw[kF b];rcases h.aM r x t q u j f with i|i;·grind
   refine .inr ⟨i.1,i.2.1,jO i.2.2 n l fun l=>?_⟩;obtain⟨n,q,r,r⟩:=zQ i l;have g:(t j).n≠(k:Int):=fun i=>b (by simp[isE,n,i]);rw[p _ q g];exact⟨rfl,rfl,r⟩
 ·rw[<-a]at f⊢;simp only at f⊢;have a:=zdT (k:Int) e 1 (j:Int) T;rw[kF (show¬isE e 1 (j:Int)=Xc by simp[isE,w])]at a;by_cases b:j=k;·grind [sF,frF]
  rw[sN (fun h=>b h.symm)]at f;rw[kF Wm]at a;rw[c j Wm];have:=h.cf j s f;refine⟨?_,this.2⟩;omega
 grind [zdT]
theorem ziW (h:zH m.ca (k:Int)=0):(m.ca.filter fun d=>!decide (d.fr=(k:Int)))=m.ca:=by grind [Ol,zH,Ok]
theorem qo.mine0 (h:qo m T) (b:m.fs[k]? =Xa X) (a:X.f=-1):zH m.ca (k:Int)=0:=by refine Classical.byContradiction fun b=>?_;obtain⟨c,a,d⟩:=zcn b;obtain⟨b,b,b,b⟩:=jW ((zn.1 h.ca).1 c a);grind [zK]
end
def ZH (k:Int) (e:En) (s:Sp):Sp:={ s with tb:=Zm (Jf k e (zf s)) }
theorem zbC (h:Rt m) (a:s∈m.sp) (b:enW Z=0):zf (ZH z Z s)=Jf z Z (zf s):=by
 have c:∀n,enW (Jf z Z (zf s) n)=0:=fun n=>by
  unfold Jf;split;·exact b
  exact(h.tb a).get _ _
 funext j;by_cases b:j<64;·grind [ZH,zf,zfD]
 have b:zf s j=en0:=by
  unfold zf zbe;rw[gN (l:=s.tb) (by rw[(h.tb a).1];omega)];rfl
 have a:zf (ZH z Z s) j=en0:=by grind [zf,zbe,ZH,gN,Zm,Jf,Zs]
 grind [Jf,qw]
section
variable{m:Ma}
theorem zhd (h:Rt m) (b:enW Z=0):∀s∈m.sp.map (ZH z Z),Qo s.tb:=fun s c=>by
 obtain⟨d,a,rfl⟩:=Ya.1 c;have c:∀n,n<64->enW (Jf z Z (zf d) n)=0:=fun n _=>by
  unfold Jf;split;·exact b
  exact(h.tb a).get _ _
 exact⟨by simp[ZH,Zm,Zs],Zz.1 (zjv c)⟩
theorem za9 (h:(m.sp.map (ZH z Z))[k]? =Xa s):∃a,m.sp[k]? =Xa a/\s=ZH z Z a:=by grind
theorem ze5 (h:Rt m) {k:Int} (b:enW Z=0) (sp':List Sp) (a:sp'=m.sp.map (ZH k Z)):sp'.map zf=(Zp m).map (Jf k Z):=by grind [Zp,List.map_map,Om,zbC]
theorem ze9 {p q:α->Bool}:∀{l:List α},(∀x∈l,p x=q x)->l.find? p=l.find? q
 | [],_=>rfl
 | x :: l,h=>by
  rw[List.find?_cons,List.find?_cons,h x Sm,ze9 (l:=l) fun y a=>h y (by simp[a])]
theorem zgc (_hk:k<m.fs.length) (a:m'.fs=m.fs.set k X) (c:0<=z) (b:z≠(k:Int)):zW m' z=zW m z:=by unfold zW;rw[a,gD,gD,sN Wm]
def Qb (m:Ma) (k j:Nat) (r:Int) (sb':List (List Int)) (sq':List (Int × List Int)):Ma:={ m with fs:=m.fs.set k frF,sl:=m.sl.set j r,sb:=sb',sq:=sq',sp:=m.sp.map (ZH (k:Int) ⟨2,(j:Int),Xd⟩) }
theorem zpt (h:Rt m) (q:m.fs[k]? =Xa X) (t:X.f=-1) (_hr:X.r≠0) (u:m.sl[j]? =Xa 0) (a:r.length=m.sb.length) (c:zN r.length g=0) (w:qI r g (j:Int)=pgL X.p) (x:∀i:Int,0<=i->i≠(j:Int)->qI r g i=qI m.sb m.sq i):
  Rt (Qb m k j X.r r g)/\Sam (fun _ _=>False) m (Qb m k j X.r r g):=by
 have v:=(gS.1 q).1;have b:=(gS.1 u).1;have d:=h.inv.aO;have sb':enW ⟨2,(j:Int),Xd⟩=0:=Jm Sm ⟨Sm,by simp only;omega,fun h=>by simp at h⟩ Sm
 have n:=h.inv.mine0 q t;have d:=h.inv.moved q ⟨2,(j:Int),Xd⟩ Sm (sl':=m.sl.set j X.r) (sb':=r) (sq':=g) Sm a c (fun i z a=>by
  have c:=(h.inv.cf k X q).1;by_cases l:i=j
  ·subst l;rw[sF b]at a;cases a;have:=h.inv.cs i 0 u;rw[kE (by simp[isE])];omega
  rw[sN (fun h=>l h.symm)]at a;have:=h.inv.cs i z a;rw[kF (by simp[isE];omega)]
  omega) (.inr ⟨sb',rfl,by simp only;omega,t⟩)
 rw[ziW n]at d;have b:(Qb m k j X.r r g).sp=m.sp.map (ZH (k:Int) ⟨2,(j:Int),Xd⟩):=rfl;have a:=ze5 h (k:=(k:Int)) sb' _ b;have c:qo (Qb m k j X.r r g) (Zp (Qb m k j X.r r g)):=by
  unfold Zp;rw[a];refine qo.tabs d (sp':=(Qb m k j X.r r g).sp) (by rw[b];simp) fun p s A e f=>?_;rw[b]at f;obtain⟨B,sq',rfl⟩:=za9 f;have a:m.sp[p]? =Xa s:=e;rw[a]at sq';cases sq';exact⟨rfl,rfl⟩
 refine⟨Rt.of c (by rw[b];exact zhd h sb') h.aB.1 (by show m.aB<max ((m.fs.set k frF).length:Int) 1;simpa using h.aB.2),?_⟩;have a:(Qb m k j X.r r g).ca=m.ca:=rfl;have c:∀a d,zZ (Qb m k j X.r r g) a d=zZ m a d:=fun a d=>by
  refine zhP (m:=m) (m':=Qb m k j X.r r g) rfl rfl rfl rfl (fun y z=>?_) a d;have d:y.fr≠(k:Int):=fun l=>by have:=Qn z;rw[l]at this;exact this n
  rw[zgc v (m':=Qb m k j X.r r g) rfl (jW ((zn.1 h.inv.ca).1 y z)).1.2.2.2.2.1 d]
 refine⟨by rw[b];simp,fun d s A e f=>?_,fun d n s A e f d _=>?_,rfl,fun _=>rfl,fun _=>rfl,fun a i _=>by rw[c]⟩;·rw[b]at f;obtain⟨B,sq',rfl⟩:=za9 f;rw[e]at sq';cases sq';exact⟨rfl,rfl⟩
 rw[b]at f;obtain⟨B,sq',rfl⟩:=za9 f;rw[e]at sq';cases sq';rw[zbC h (mG e) sb'];unfold Jf;by_cases a:isE (zf s n) 1 (k:Int)=Xc
 ·rw[kE a];simp only[isE,Xx,decide_eq_true_eq]at a;unfold ZA;by_cases b:(zo s.aC n).is=Xd;·grind
  rw[kF b,kF b,kF Sm,kE rfl,kE a.1,a.2,zK q];show(qI r g (j:Int),Xc,(0:Int))=_;rw[w,t];rfl
 rw[kF a];have a:=h.inv.en (qz e) d;have b:=(q7 a).2.1.1;refine zcX rfl rfl (fun a=>?_) (fun a=>?_) (fun _=>rfl) c;·grind [zf,isE,zgc,Qb]
 refine x _ b fun l=>?_;have b:=h.inv.cs j 0 u;have b:=zaF (qz e) d (kind:=2) (k:=(j:Int)) (by simp[isE,a,l]) Dc;omega
def qh (m:Ma) (k:Nat):Ma:={ m with fs:=m.fs.set k frF,ca:=m.ca.filter fun d=>!decide (d.fr=(k:Int)),sp:=m.sp.map (ZH (k:Int) en0) }
theorem zqT {a:Int} (h:8*R+(k:Int)<a):(ZF L R a).getD k 0=L.getD k 0:=by
 unfold ZF;rw[gD,gD,List.getElem?_mapIdx];cases L[k]? with
 | none=>rfl
 | some z=>simp only[Option.map_some,Option.getD_some];rw[kF Wm]
theorem zpX (h:Rt m) (S:Nat->Nat->Prop) (i:m.fs[k]? =Xa X) (b:0<=X.f) (_hr:X.r≠0) (x:ZW m X.f X.x=ZF (pgL X.p) X.x (Jb m X.f))
  (hS:ZF (pgL X.p) X.x (Jb m X.f)=pgL X.p\/∀(q n:Nat) s,m.sp[q]? =Xa s->n<64->(zo s.aC n).is=Xc->(zo s.aC n).file=X.f->(zo s.aC n).page=X.x->(zf s n).kind=0\/isE (zf s n) 1 (k:Int)=Xc->S q n):
  Rt (qh m k)/\Sam S m (qh m k):=by
 have D:=(gS.1 i).1;have a:=h.inv.cf k X i;obtain⟨c,C,d⟩:=zcn (a.2 b);obtain⟨K,a,z,A⟩:=jW ((zn.1 h.inv.ca).1 c C);rw[d,zK i]at a z A;have c:=h.inv.moved i en0 Dc (sl':=m.sl) (sb':=m.sb) (sq':=m.sq) rfl rfl h.inv.sq (fun F a E=>by
  have:=h.inv.cs F a E;rw[kF (by simp[qw])]
  omega) (.inl rfl)
 have b:(qh m k).sp=m.sp.map (ZH (k:Int) en0):=rfl;have a:=ze5 h (k:=(k:Int)) Jn _ b;have e:qo (qh m k) (Zp (qh m k)):=by
  unfold Zp;rw[a];refine qo.tabs c (sp':=(qh m k).sp) (by rw[b];simp) fun p s G c g=>?_;rw[b]at g;obtain⟨H,r,rfl⟩:=za9 g;have a:m.sp[p]? =Xa s:=c;rw[a]at r;cases r;exact⟨rfl,rfl⟩
 refine⟨Rt.of e (by rw[b];exact zhd h Jn) h.aB.1 (by show m.aB<max ((m.fs.set k frF).length:Int) 1;simpa using h.aB.2),?_⟩;have e:∀file a,(qh m k).ca.find? (Qj file a)=if file=X.f/\a=X.x then Xb else m.ca.find? (Qj file a):=fun file a=>by
  show(m.ca.filter fun j=>!decide (j.fr=(k:Int))).find? (Qj file a)=_;by_cases l:file=X.f/\a=X.x
  ·rw[kE l];rw[Yx];intro j x f;have t:=Yd.1 x;simp only[Qj,Xx,decide_eq_true_eq]at f;have c:=QF h.inv.ca t.1;have g:=QF h.inv.ca C;rw[f.1,f.2,l.1,l.2,z,A,g]at c;cases c;have:=t.2;simp[d]at this
  rw[kF l];rw[List.find?_filter];apply ze9;intro j x;cases f:Qj file a j with
  | false=>simp
  | true=>
   simp only[Qj,Xx,decide_eq_true_eq]at f;have:j.fr≠(k:Int):=fun w=>by
    obtain⟨t,B,u,v⟩:=jW ((zn.1 h.inv.ca).1 j x);rw[w,zK i]at u v;exact l ⟨by rw[<-f.1,u],by rw[<-f.2,v]⟩
   simp[this]
 have y:zZ m X.f X.x=pgL X.p:=by
  unfold zZ;have:=QF h.inv.ca C;rw[<-z,<-A]at this;rw[this];simp only;rw[d,zK i]
 have d:zZ (qh m k) X.f X.x=ZF (pgL X.p) X.x (Jb m X.f):=by
  unfold zZ;rw[e,kE ⟨rfl,rfl⟩];exact x
 have d:∀file a,¬(file=X.f/\a=X.x)->zZ (qh m k) file a=zZ m file a:=fun file a d=>by
  unfold zZ;rw[e,kF d];cases e:m.ca.find? (Qj file a)with
  | none=>rfl
  | some j=>
   simp only;have a:=List.mem_of_find?_eq_some e;obtain⟨t,B,u,v⟩:=jW ((zn.1 h.inv.ca).1 j a);have f:=List.find?_some e;simp only[Qj,Xx,decide_eq_true_eq]at f;rw[zgc D (m':=qh m k) rfl t.2.2.2.2.1 (fun w=>?_)];rw[w,zK i]at u v;exact d ⟨by rw[<-f.1,u],by rw[<-f.2,v]⟩
 refine⟨by rw[b];simp,fun q s G c g=>?_,fun q n s G c g f a=>?_,rfl,fun _=>rfl,fun _=>rfl,fun file F E=>?_⟩;·rw[b]at g;obtain⟨H,r,rfl⟩:=za9 g;rw[c]at r;cases r;exact⟨rfl,rfl⟩
 ·rw[b]at g;obtain⟨H,r,rfl⟩:=za9 g;rw[c]at r;cases r;rw[zbC h (mG c) Jn];unfold Jf;have a:X.x<bkN m X.f:=by rw[z,A];exact K.2.2.2.1
  have hcut:(zo s.aC n).is=Xc->(zo s.aC n).file=X.f->(zo s.aC n).page=X.x->(zf s n).kind=0\/isE (zf s n) 1 (k:Int)=Xc->zZ (qh m k) X.f X.x=pgL X.p:=fun a a a a=>by grind
  by_cases d:isE (zf s n) 1 (k:Int)=Xc
  ·rw[kE d];have a:=d;simp only[isE,Xx,decide_eq_true_eq]at a;have b:QL m (zo s.aC n) (zf s n):=by
    rcases h.aM c f with l|l;·grind [en0]
    exact l
   have e:=b.2.2;unfold zaJ at e;split at e;·cases e
   rename_i t
   rw[kF Wm,kF (Hm ((zQ b Wm).2.2.1)),a.2,zK i]at e;split at e;·cases e
   rename_i B
   have b:0<=(zo s.aC n).file/\X.f=(zo s.aC n).file/\X.x=(zo s.aC n).page:=Classical.byContradiction fun w=>B (.inl ⟨Wm,w⟩);have e:(zo s.aC n).is=Xc:=(by grind);unfold ZA;rw[kF t,kF t,kF Dc,kF Dc,kF Wm,kE a.1,a.2,zK i,kF (by rw[<-b.2.1,<-b.2.2];show¬bkN m X.f<=X.x;omega),<-b.2.1,<-b.2.2,hcut e b.2.1.symm b.2.2.symm (.inr d)];have:decide (X.f<0)=Xd:=(by simp;omega);rw[this]
  rw[kF d];have a:=h.inv.en (qz c) f;have b:=(q7 a).2.1.1;unfold ZA;by_cases c:(zo s.aC n).is=Xd;·grind
  rw[kF c,kF c];by_cases b:(zf s n).kind=1;·grind [zf,isE,zgc,qh]
  rw[kF b,kF b];by_cases b:(zf s n).kind=2;·rw[kE b,kE b];rfl
  rw[kF b,kF b];have b:bkN (qh m k)=bkN m:=rfl;rw[b];by_cases b:(zo s.aC n).file<0;·grind
  rw[kF b,kF b];by_cases b:bkN m (zo s.aC n).file<=(zo s.aC n).page;·grind
  rw[kF b,kF b];by_cases b:(zo s.aC n).file=X.f/\(zo s.aC n).page=X.x
  ·have e:(zo s.aC n).is=Xc:=by
    cases d:(zo s.aC n).is with
    | true=>rfl
    | false=>exact absurd d c
   have c:(zf s n).kind=0:=Hm ((q7 a).1);have:=hcut e b.1 b.2 (.inl c);rw[b.1,b.2,this,y]
  grind
 grind [zqT]
end
theorem zl8:∀{l:List Ar} {p:Option Ar} {n:Nat},QM p l->(zo l n).is=Xc->0<=(zo l n).page/\((zo l n).page<=11\/(zo l n).file<0)
 | [],_,_,_,h=>by cases h
 | a :: l,p,n,b,h=>by
  unfold zo at h⊢
  by_cases e:ZP a n=Xc
  ·rw[kE e]at h⊢;have c:=b.1;have d:=qK.1 e;unfold q4 at c;unfold z5;simp only
   split;·exact⟨Wm,.inl Wm⟩
   exact⟨Wm,.inr Wm⟩
  rw[kF e]at h⊢;exact zl8 b.2.2 h
theorem Rt.page (h:Rt m) (a:m.sp[k]? =Xa s) (n:(zo s.aC b).is=Xc):0<=(zo s.aC b).page:=
 (zl8 (jT.1 (h.inv.aP s (mG a)).1).2 n).1
section
variable{m:Ma}
def zeq (m:Ma) (file idx:Nat) (f:Fl) (b:Int) (db':List (List Int)) (dq':List (Int × List Int)):Ma:={ m with fl:=m.fl.set file ⟨f.size,f.bl.set idx b⟩,db:=db',dq:=dq' }
theorem zno (D:Rt m) {f:Fl} (aq:m.fl[k]? =Xa f) (a8:stW (m.fl.set k ⟨f.size,f.bl.set p (b:Int)⟩) m.cnt=0)
  (S:∀x,z3 (m.fl.set k ⟨f.size,f.bl.set p (b:Int)⟩) x=Xc↔(z3 m.fl x=Xc/\x≠-1)\/x=(b:Int)\/(x=-1/\z3 (m.fl.set k ⟨f.size,f.bl.set p (b:Int)⟩) x=Xc))
  (K:r.length=m.db.length) (L:zN r.length g=0) (G:∀i:Nat,r[i]? =m.db[i]?\/∃q∈m.dq,q.1=(i:Int)) (W:∀q∈g,q.1=(b:Int)\/∃ab∈m.dq,ab.1=q.1) (a7:∀i:Int,i≠(b:Int)->qI r g i=qI m.db m.dq i)
  (_hb0:f.bl[p]? =Xa (b:Int)\/(z3 m.fl (b:Int)=Xd)) (af:∃c∈m.ca,c.file=(k:Int)/\c.idx=(p:Int)) (N:∀(i j:Nat) d,m.fl[i]? =Xa d->d.bl[j]? =Xa (b:Int)->i=k/\j=p):
  (Rt (zeq m k p f (b:Int) r g)/\Sam (fun _ _=>False) m (zeq m k p f (b:Int) r g))/\∀(i j:Nat),(j:Int)<bkN m (i:Int)->zZ (zeq m k p f (b:Int) r g) (i:Int) (j:Int)=zZ m (i:Int) (j:Int):=by
 have ar:=(gS.1 aq).1;obtain⟨idx,a⟩:∃idx,zeq m k p f (b:Int) r g=idx:=⟨_,rfl⟩;have Q:∀z,Jb idx z=Jb m z:=fun z=>by
  rw[<-a];unfold Jb zeq;simp only[gD];by_cases h:z.toNat=k;·grind
  grind
 have B:∀z,bkN idx z=bkN m z:=fun z=>by
  rw[<-a];unfold bkN zeq;simp only[gD];by_cases h:z.toNat=k;·grind
  grind
 have t:∀z,zW idx z=zW m z:=fun z=>by rw[<-a];rfl
 have y:idx.fl.length=m.fl.length:=by rw[<-a];simp[zeq]
 have e:idx.sp=m.sp:=by rw[<-a];rfl
 have H:idx.ca=m.ca:=by rw[<-a];rfl
 have Z:qo idx (Zp idx):=by
  have ap:Zp idx=Zp m:=by unfold Zp;rw[e]
  rw[ap];have l:=D.inv;refine⟨Ry a l.aK,Ry a l.bB,Ry a l.aO,Ry a l.bE,Ry a l.sq,Ry a L,Ry a a8,by rw[<-a];show m.cnt=(r.length:Int);rw[K];exact l.cnt,fun i w ai=>?_,fun q P=>?_,Rx e l.aI,Rx e l.aP,Rx e l.tl,?_,?_,Ry a l.cf,Ry a l.cs⟩
  ·rw[<-a]at w ai⊢;have R:z3 m.fl (i:Int)=Xd:=by
    cases h:z3 m.fl (i:Int)with
    | false=>rfl
    | true=>
     have:=(S (i:Int)).2 (.inl ⟨h,Wm⟩);have a9:z3 (m.fl.set k ⟨f.size,f.bl.set p (b:Int)⟩) (i:Int)=Xd:=ai;rw[a9]at this;cases this
   show r[i]? =_;rcases G i with h|⟨q,ac,ad⟩;·rw[h];exact l.bG i (Ry K w) R
   have:=l.aV q ac;rw[ad,R]at this;cases this
  ·rw[<-a]at P⊢
   show z3 (m.fl.set k ⟨f.size,f.bl.set p (b:Int)⟩) q.1=Xc;rcases W q P with h|⟨ab,ac,ad⟩;·grind
   refine(S _).2 (.inl ⟨?_,?_⟩);·rw[<-ad];exact l.aV ab ac
   have a0:=l.bI;unfold zN at a0;split at a0;·cases a0
   grind [Yb.2,Zk]
  ·obtain⟨aj,ax,ak⟩:=zn.1 l.ca;rw[H];refine zn.2 ⟨fun c af=>?_,fun q c W=>(by cases W),ak⟩;obtain⟨al,am,an,ao⟩:=jW (aj c af);refine zaU ?_ (Rx t am) (Rx t an) (Rx t ao);rw[y,B];rw[<-a];exact al
  intro av s d X v n ah;rw[e]at X;rcases l.aM av s d X v n ah with h|h;·grind
  refine .inr ⟨h.1,h.2.1,jO h.2.2 (by rw[<-a];rfl) (by rw[<-a];rfl) fun a5=>?_⟩;rw[t];exact⟨rfl,rfl,(zQ h a5).2.2.2⟩
 have file:∀(i j:Nat),(j:Int)<bkN m (i:Int)->zZ idx (i:Int) (j:Int)=zZ m (i:Int) (j:Int):=fun i j u=>by
  unfold zZ;rw[H];cases W:m.ca.find? (Qj (i:Int) (j:Int))with
  | some c=>simp only;rw[t]
  | none=>
   simp only;have a6:¬(i=k/\j=p):=fun h=>(by grind [Yx,Qj]);have I:zgm idx (i:Int) (j:Int)=zgm m (i:Int) (j:Int):=by
    rw[<-a];unfold zgm zeq;simp only[gD,tN];by_cases h:i=k;·grind
    grind
   rw[I,Q];by_cases M:zgm m (i:Int) (j:Int)<0;·grind
   rw[kF M,kF M];have w:i<m.fl.length:=Classical.byContradiction fun A=>by
    unfold bkN at u;simp only[gD,tN]at u;rw[gN Wm]at u;simp only[Option.getD_none,Yp]at u;omega
   have v:=gE w;have ag:j< (m.fl[i]).bl.length:=by
    unfold bkN at u;simp only[gD,tN,v,Option.getD_some]at u;omega
   have:zgm m (i:Int) (j:Int)≠(b:Int):=fun h=>by
    unfold zgm at h;simp only[gD,tN,v,Option.getD_some,gE ag]at h;exact a6 (N i j _ v (by rw[gE ag,h]))
   rw[show qI idx.db idx.dq (zgm m (i:Int) (j:Int))=qI r g (zgm m (i:Int) (j:Int)) by rw[<-a];rfl,a7 _ this]
 rw[a];refine⟨?_,file⟩;refine⟨Rt.of Z (by rw[e];exact fun s X=>D.tb X) (Ry a D.aB.1) (Ry a D.aB.2),⟨by rw[e],fun q s aw A F=>?_,fun q n s aw A F ah _=>?_,y,Q,B,fun ae au E=>?_⟩⟩;·rw[e,A]at F;cases F;exact⟨rfl,rfl⟩
 ·rw[e,A]at F;cases F;unfold ZA;rw[t,B];by_cases T:(zo s.aC n).is=Xd;·rw[kE T,kE T]
  rw[kF T,kF T];by_cases U:(zf s n).kind=1;·rw[kE U,kE U]
  rw[kF U,kF U];by_cases C:(zf s n).kind=2;·rw[kE C,kE C];rw[<-a];rfl
  rw[kF C,kF C];by_cases V:(zo s.aC n).file<0;·rw[kE V,kE V]
  rw[kF V,kF V];by_cases Y:bkN m (zo s.aC n).file<=(zo s.aC n).page;·rw[kE Y,kE Y]
  rw[kF Y,kF Y];have a4:(zo s.aC n).is=Xc:=by
   cases aa:(zo s.aC n).is with
   | true=>rfl
   | false=>exact absurd aa T
  have ay:=D.page A a4;have:=file (zo s.aC n).file.toNat (zo s.aC n).page.toNat (by
   rw[show(((zo s.aC n).file.toNat:Nat):Int)=(zo s.aC n).file by omega,show(((zo s.aC n).page.toNat:Nat):Int)=(zo s.aC n).page by omega]
   omega)
  rw[show(((zo s.aC n).file.toNat:Nat):Int)=(zo s.aC n).file by omega,show(((zo s.aC n).page.toNat:Nat):Int)=(zo s.aC n).page by omega]at this;rw[this]
 rw[file ae (au / 8) ?_];by_cases A:ae<m.fl.length
 ·have v:=gE A;obtain⟨U,C,V⟩:=((qf _ _).1 D.inv.st).2.1 _ (mG v);unfold Jb at E;simp only[gD,tN,v,Option.getD_some]at E;unfold bkN;simp only[gD,tN,v,Option.getD_some];unfold zau at C;split at C <;> omega
 unfold Jb at E;simp only[gD,tN]at E;rw[gN Wm]at E;simp only[Option.getD_none]at E;omega
end
def Unc (m:Ma) (file idx:Int):Prop:=∀c∈m.ca,¬(c.file=file/\c.idx=idx)
theorem Unc.find (h:Unc m z R):m.ca.find? (Qj z R)=Xb:=by rw[Yx];intro c b a;simp only[Qj,Xx,decide_eq_true_eq]at a;exact h c b a
structure Jt (S:Nat->Nat->Prop) (m m':Ma):Prop where
 rt:Rt m'
 aW:Sam S m m'
 fsl:m'.fs.length=m.fs.length
 bare:∀(q n:Nat) s s',m.sp[q]? =Xa s->m'.sp[q]? =Xa s'->n<64->zf s n=en0->zf s' n=en0
 unc:∀(file idx:Nat),(idx:Int)<bkN m (file:Int)->Unc m (file:Int) (idx:Int)->Unc m' (file:Int) (idx:Int)/\zZ m' (file:Int) (idx:Int)=zZ m (file:Int) (idx:Int)
theorem Jt.refl {S:Nat->Nat->Prop} (h:Rt m):Jt S m m:=⟨h,Sam.refl S m,rfl,fun q n s a c a _ b=>by rw[c]at a;cases a;exact b,fun _ _ _ h=>⟨h,rfl⟩⟩
theorem Jt.trans {S:Nat->Nat->Prop} {a b c:Ma} (h:Jt S a b) (k:Jt S b c):Jt S a c:=by
 refine⟨k.rt,(h.aW.trans k.aW).mono (fun _ _ e=>e.elim id id),k.fsl.trans h.fsl,fun q n s r f m i l=>?_,fun d e g p=>?_⟩
 ·have:∃t,b.sp[q]? =Xa t:=⟨_,gE (by rw[h.aW.aI];exact(gS.1 f).1)⟩
  obtain⟨t,j⟩:=this;exact k.bare q n t r j m i (h.bare q n s t f j i l)
 obtain⟨u1,u2⟩:=h.unc d e g p;obtain⟨f,f⟩:=k.unc d e (by rw[h.aW.bk];exact g) u1;grind
theorem Jt.bareOk {S:Nat->Nat->Prop} (h:Jt S m m') {x:Nat × Nat} (i:zq1 m x):zq1 m' x:=by obtain⟨s,a,c,d,f,g⟩:=i;have:∃t,m'.sp[x.1]? =Xa t:=⟨_,gE (by rw[h.aW.aI];exact(gS.1 a).1)⟩;obtain⟨t,b⟩:=this;have e:=(h.aW.sp x.1 s t a b).2;exact⟨t,b,c,h.bare x.1 x.2 s t a b c d,Rx e f,Rx e g⟩
section
variable{m:Ma}
theorem zhe (h:Rt m) (d:enW Z=0) {n:Sp} (a:m.sp[k]? =Xa s) (c:(m.sp.map (ZH z Z))[k]? =Xa n) (f:zf s b=en0):zf n b=en0:=by obtain⟨n,n,rfl⟩:=za9 c;rw[a]at n;cases n;rw[zbC h (mG a) d];grind [Jf,isE,en0]
theorem zlP (S:Nat->Nat->Prop) (h:Rt m) (sq':m.fs[k]? =Xa X) (f:X.f=-1) (l:X.r≠0) (e:m.sl[j]? =Xa 0) (c:r.length=m.sb.length) (d:zN r.length g=0) (a:qI r g (j:Int)=pgL X.p) (b:∀i:Int,0<=i->i≠(j:Int)->qI r g i=qI m.sb m.sq i):
  Jt S m (Qb m k j X.r r g):=by obtain⟨n,p⟩:=zpt h sq' f l e c d a b;have a:=h.inv.aO;have a:=(gS.1 e).1;have d:enW ⟨2,(j:Int),Xd⟩=0:=Jm Sm ⟨Sm,by simp only;omega,fun h=>by simp at h⟩ Sm;refine⟨n,p.mono (fun _ _ e=>e.elim),by simp[Qb],fun q n s a b c _ a=>zhe h d b c a,fun a c _ b=>⟨b,?_⟩⟩;unfold zZ;rw[show(Qb m k j X.r r g).ca.find? (Qj (a:Int) (c:Int))=Xb from b.find,b.find];rfl
theorem zmY (h:Rt m) (S:Nat->Nat->Prop) (c:m.fs[k]? =Xa X) (b:0<=X.f) (d:X.r≠0) (a:ZW m X.f X.x=ZF (pgL X.p) X.x (Jb m X.f))
  (hS:ZF (pgL X.p) X.x (Jb m X.f)=pgL X.p\/∀(q n:Nat) s,m.sp[q]? =Xa s->n<64->(zo s.aC n).is=Xc->(zo s.aC n).file=X.f->(zo s.aC n).page=X.x->(zf s n).kind=0\/isE (zf s n) 1 (k:Int)=Xc->S q n):
  Jt S m (qh m k):=by obtain⟨f,g⟩:=zpX h S c b d a hS;have c:∀file a,Unc m file a->Unc (qh m k) file a:=fun file a b d e=>b d (Yd.1 e).1;refine⟨f,g,by simp[qh],fun q n s d e f _ d=>zhe h Jn e f d,fun file a _ b=>⟨c _ _ b,?_⟩⟩;unfold zZ;rw[(c _ _ b).find,b.find];rfl
theorem zkB (S:Nat->Nat->Prop) (h:Rt m) (a:m.fs[k]? =Xa X) (b:X.r≠0) (u d:Bool):Jt S m { m with fs:=m.fs.set k { X with u:=u,d:=d } }:=by
 obtain⟨c,e⟩:=zfR h a b u d;refine⟨c,e.mono (fun _ _ e=>e.elim),Sm,fun q n s b b b _ b=>?_,fun b b _ b=>⟨b,?_⟩⟩;·grind
 exact Ql (gS.1 a).1 h.inv.ca (fun _=>by rw[zK a]) _ _
theorem zmz (S:Nat->Nat->Prop) (h:Rt m) (e:0<=z) (b:z<max (m.fs.length:Int) 1):Jt S m { m with aB:=z }:=by
 have a:=h.inv;have c:qo { m with aB:=z } (Zp { m with aB:=z }):=⟨a.aK,a.bB,a.aO,a.bE,a.sq,a.bI,a.st,a.cnt,a.bG,a.aV,a.aI,a.aP,a.tl,zn.2 ⟨fun d f=>(zn.1 a.ca).1 d f,fun _ _ d=>(by cases d),(zn.1 a.ca).2.2⟩,a.aM,a.cf,a.cs⟩;refine⟨Rt.of c (fun s a=>h.tb a) e b,⟨rfl,fun q s c b a=>?_,fun q n s c b a _ _=>?_,rfl,fun _=>rfl,fun _=>rfl,fun _ _ _=>rfl⟩,rfl,fun q n s c b a _ d=>?_,fun d d _ d=>⟨d,rfl⟩⟩;·grind
 ·have:m.sp[q]? =Xa c:=a;rw[b]at this;cases this;rfl
 grind
end
theorem Jt.mono {S c:Nat->Nat->Prop} {b:Ma} (h:Jt S m b) (hS:∀q n,S q n->c q n):Jt c m b:=⟨h.rt,h.aW.mono hS,h.fsl,h.bare,h.unc⟩
section
variable{m:Ma} {p n:Nat} {s:Sp}
theorem zd9 (i:Rt m) (f:m.sp[p]? =Xa s) (g:n<64):Jt (fun q j=>q=p/\j=n) m (Jo m p n)/\(∀b,(Jo m p n).sp[p]? =Xa b->zf b n=en0)/\(Jo m p n).ca=m.ca/\(Jo m p n).fl=m.fl/\∀(q j:Nat) s b,m.sp[q]? =Xa s->(Jo m p n).sp[q]? =Xa b->¬(q=p/\j=n)->zf b j=zf s j:=by
 have E:m.sp.getD p ⟨Xd,[],[]⟩=s:=by rw[gD,f];rfl
 have F:∀s∈m.sp,Qo s.tb:=fun s f=>i.tb f;obtain⟨x,y⟩:=zp2 i f g;have r:∃d,Jo m p n=JS d p n en0/\d.sp=m.sp/\d.ca=m.ca/\d.fl=m.fl/\d.fs.length=m.fs.length/\∀a c,zZ d a c=zZ m a c:=by
  unfold Jo;simp only[E];by_cases e:(zf s n).kind=1;·rw[kE e];obtain⟨R,P,v,A,B,N⟩:=i.aQ f g e;rw[B,v,tN];exact⟨_,rfl,rfl,rfl,rfl,Sm,fun a c=>zff i.inv A (qz f) g e v a c⟩
  rw[kF e];by_cases k:(zf s n).kind=2;·rw[kE k];exact⟨_,rfl,rfl,rfl,rfl,rfl,fun _ _=>rfl⟩
  grind
 obtain⟨d,H,l,w,K,L,M⟩:=r;rw[H]at x y⊢;have h:∀s∈d.sp,Qo s.tb:=Rx l F;have u:∀(q j:Nat) s b,m.sp[q]? =Xa s->(JS d p n en0).sp[q]? =Xa b->¬(q=p/\j=n)->zf b j=zf s j:=fun q j s b e k C=>zbx h g Jn (Rx l e) k C;have t:∀b,(JS d p n en0).sp[p]? =Xa b->zf b n=en0:=fun b e=>(zae h (Rx l f) g Jn e).1;refine⟨⟨x,y,L,fun q j s b e k _ Q=>?_,fun a c _ G=>⟨fun z D=>G z (Ry w D),M _ _⟩⟩,t,w,K,u⟩;grind
end
def ze (m:Ma):List (Nat × Nat)->Ma
 | []=>m
 | x :: l=>ze (Jo m x.1 x.2) l
theorem qp:∀(l:List (Nat × Nat)) {m:Ma},Rt m->(∀x∈l,x.2<64/\∃s,m.sp[x.1]? =Xa s)->
  Jt (fun q j=>(q,j)∈l) m (ze m l)/\(∀x∈l,∀a,(ze m l).sp[x.1]? =Xa a->zf a x.2=en0)/\(ze m l).ca=m.ca/\(ze m l).fl=m.fl/\∀(q j:Nat) s a,m.sp[q]? =Xa s->(ze m l).sp[q]? =Xa a->(q,j)∉l->zf a j=zf s j
 | [],m,p,_=>⟨Jt.refl p,fun x H=>(by cases H),rfl,rfl,fun q j s a i d _=>by simp only[ze]at d;rw[i]at d;cases d;rfl⟩
 | x :: l,m,p,u=>by
  obtain⟨G,s,k⟩:=u x (Xs ..);obtain⟨n,C,D,E,F⟩:=zd9 p k G;have b:∀(q:Nat) s,m.sp[q]? =Xa s->∃a,(Jo m x.1 x.2).sp[q]? =Xa a:=fun q s k=>⟨_,gE (by rw[n.aW.aI];exact(gS.1 k).1)⟩
  obtain⟨K,L,M,N,v⟩:=qp l n.rt (fun y r=>by
   obtain⟨A,P,B⟩:=u y (Xt _ r);exact⟨A,b y.1 P B⟩)
  refine⟨(n.mono ?_).trans (K.mono fun q j e=>Xt _ e),fun y r a f=>?_,M.trans D,N.trans E,fun q j s a i d t=>?_⟩;·rintro q j ⟨rfl,rfl⟩;exact Xs ..
  ·by_cases c:y∈l
   ·exact L y c a f
   rcases mC.1 r with rfl|e;·obtain⟨w,g⟩:=b y.1 s k;rw[v y.1 y.2 w a g f c];exact C w g
   exact absurd e c
  obtain⟨z,h⟩:=b q s i;rw[v q j z a h d (fun e=>t (Xt _ e))];refine F q j s z i h (fun e=>t ?_);have:(q,j)=x:=Prod.ext e.1 e.2;rw[this];exact Xs ..
theorem zp4 (p) (idx a:Int):ZF (ZF p idx a) idx a=ZF p idx a:=by unfold ZF;grind
theorem zkd {f:Fl} (a:m.fl[k]? =Xa f) (hi:p<f.bl.length) (e:qI r g (b:Int)=ZF L (p:Int) (Jb m (k:Int))):
  ZW (zeq m k p f (b:Int) r g) (k:Int) (p:Int)=ZF L (p:Int) (Jb m (k:Int)):=by
 have d:=(gS.1 a).1;have h:zgm (zeq m k p f (b:Int) r g) (k:Int) (p:Int)=(b:Int):=by
  unfold zgm zeq;simp only[gD,tN];rw[sF d];simp only[Option.getD_some];rw[sF hi];rfl
 have i:Jb (zeq m k p f (b:Int) r g) (k:Int)=Jb m (k:Int):=by
  unfold Jb zeq;simp only[gD,tN];rw[sF d,a];rfl
 unfold ZW;rw[h,i,kF Wm,show qI (zeq m k p f (b:Int) r g).db (zeq m k p f (b:Int) r g).dq (b:Int)=qI r g (b:Int)from rfl,e,zp4]
theorem Sam.fill {S b:Nat->Nat->Prop} (h:Sam S m m') (hS:∀(q n:Nat) s a,m.sp[q]? =Xa s->m'.sp[q]? =Xa a->n<64->S q n->¬b q n->ZA m' (zo s.aC n) (zf a n)=ZA m (zo s.aC n) (zf s n)):Sam b m m':=by
 refine⟨h.aI,h.sp,fun q n s a c d f g=>?_,h.fll,h.sz,h.bk,h.byt⟩;by_cases e:S q n;·grind
 exact h.see q n s a c d f e
section
variable{m m2:Ma} {k:Nat} {fr:Fr}
theorem zqV (z:Rt m) (D:d≠[]) (B:d.Nodup) (h:∀x∈d,x.2<64/\∃s,m.sp[x.1]? =Xa s/\(zo s.aC x.2).is=Xc/\(zo s.aC x.2).sh=Xd) (f:Jt (fun q j=>(q,j)∈d) (ze m d) m2) (C:m2.fs[k]? =Xa fr) (E:fr.r=0) (pg:Pg) (u:Bool):
  Rt (zbi m2 k pg u d)/\Sam (fun q j=>(q,j)∈d) m (zbi m2 k pg u d)/\(zbi m2 k pg u d).fs[k]? =Xa ⟨pg,(d.length:Int),u,Xd,-1,0⟩/\(∀x∈d,∀i,(zbi m2 k pg u d).sp[x.1]? =Xa i->zf i x.2=⟨1,(k:Int),Xd⟩):=by
 obtain⟨l,y,F,G,H⟩:=qp d z (fun x a=>by obtain⟨c,s,b,_⟩:=h x a;exact⟨c,s,b⟩);have A:∀x∈d,zq1 (ze m d) x:=fun x a=>by
  obtain⟨c,s,b,n,w⟩:=h x a;have:∃t,(ze m d).sp[x.1]? =Xa t:=⟨_,gE (by rw[l.aW.aI];exact(gS.1 b).1)⟩;obtain⟨t,g⟩:=this;have e:=(l.aW.sp x.1 s t b g).2;exact⟨t,g,c,y x a t g,Rx e n,Rx e w⟩
 obtain⟨p,r,v⟩:=zp7 f.rt C E pg u D (fun x a=>f.bareOk (A x a)) B;refine⟨p,((l.trans f).aW.trans r).mono (fun _ _ e=>e.elim id id),?_,v⟩;show(m2.fs.set k _)[k]? =_;grind
theorem zlh {a:Ma} {pg:Pg} {u:Bool} (t:Sam (fun q j=>(q,j)∈d) m a) (p:a.fs[k]? =Xa ⟨pg,z,u,Xd,-1,0⟩) (i:∀x∈d,∀b,a.sp[x.1]? =Xa b->zf b x.2=⟨1,(k:Int),Xd⟩)
  (S:Nat->Nat->Prop) (v:∀(q n:Nat) s,m.sp[q]? =Xa s->n<64->(q,n)∈d->¬S q n->(zo s.aC n).is=Xc/\ZA m (zo s.aC n) (zf s n)=(pgL pg,Xc,0)):Sam S m a:=by refine t.fill fun q n s b f g r c h=>?_;obtain⟨w,e⟩:=v q n s f r c h;rw[i (q,n) c b g,zqB w p,e];rfl
theorem zpZ {n:Nat} {file idx:Nat} (G:Rt m) (a:m.sp[p]? =Xa s) (c:n<64) (N:(zo s.aC n).is=Xc) (w:(zo s.aC n).file=(file:Int)) (x:(zo s.aC n).page=(idx:Int)) (S:file<m.fl.length) (hi:(idx:Int)<bkN m (file:Int)) (M:Unc m (file:Int) (idx:Int))
  (A:Jt (fun q j=>q=p/\j=n) (Jo m p n) m2) (B:m2.fs[k]? =Xa fr) (L:fr.r=0) {pg:Pg} (hp:pgL pg=zZ m (file:Int) (idx:Int)) (u d:Bool):
  Rt (jY (Zj m2 k pg u d file idx) k p n)/\Sam (fun q j=>q=p/\j=n) m (jY (Zj m2 k pg u d file idx) k p n)/\(jY (Zj m2 k pg u d file idx) k p n).fs[k]? =Xa ⟨pg,2,u,d,file,idx⟩/\∀y,(jY (Zj m2 k pg u d file idx) k p n).sp[p]? =Xa y->zf y n=⟨1,(k:Int),Xd⟩:=by
 obtain⟨z,C,P,Q,R⟩:=zd9 G a c;have g:=z.trans A;have:∃t,m2.sp[p]? =Xa t:=⟨_,gE (by rw[g.aW.aI];exact(gS.1 a).1)⟩;obtain⟨t,e⟩:=this;have:∃f,(Jo m p n).sp[p]? =Xa f:=⟨_,gE (by rw[z.aW.aI];exact(gS.1 a).1)⟩;obtain⟨f,b⟩:=this;have H:zf t n=en0:=A.bare p n f t b e c (C f b);have h:=(g.aW.sp p s t a e).2;obtain⟨u1,u2⟩:=g.unc file idx hi M;have l:=(gS.1 B).1;have i:(Zj m2 k pg u d file idx).fs[k]? =Xa ⟨pg,1,u,d,file,idx⟩:=by
  show(m2.fs.set k _)[k]? =_;grind
 obtain⟨E,F⟩:=zoK g.rt B L (u:=u) (d:=d) (file:=(file:Int)) (idx:=(idx:Int)) ⟨Wm,by rw[g.aW.fll];omega⟩ ⟨Wm,by rw[g.aW.bk];exact hi⟩ u1 (Rx u2 hp) e c H (Rx h N) (Rx h w) (Rx h x);have K:=zcA g.rt.inv l Xd;refine⟨E,(g.aW.trans F).mono (fun _ _ D=>D.elim id id),by rw[zfW i];rfl,fun y v=>?_⟩;exact(zae (m1:={ Zj m2 k pg u d file idx with fs:=(Zj m2 k pg u d file idx).fs.set k { zW (Zj m2 k pg u d file idx) (k:Int)with r:=(zW (Zj m2 k pg u d file idx) (k:Int)).r+1 } }) (fun s a=>g.rt.tb a) e c K v).1
end
section
variable{m:Ma} {k p n:Nat} {fr:Fr} {s:Sp}
theorem zqQ (h:Rt m) {x:On} {w:Bool} (b:QL m x ⟨1,(k:Int),w⟩) (c:m.fs[k]? =Xa fr) (f:x.wr=Xc) (e:(fr.f=-1/\fr.r<=1)\/x.sh=Xc):QL m x ⟨1,(k:Int),Xc⟩:=by have a:=(gS.1 c).1;refine⟨zcA h.inv a Xc,Sm,?_⟩;have d:=b.2.2;grind [zaJ,zK]
def Jg (m:Ma) (p n k:Nat) (fr:Fr) (write sh:Bool):Ma:=
 if write=Xc then JS { m with fs:=m.fs.set k { fr with u:=true,d:=fr.d || sh } } p n ⟨1,(k:Int),Xc⟩
 else{ m with fs:=m.fs.set k { fr with u:=true,d:=fr.d } }
theorem zpF (t:Rt m) (g:m.sp[p]? =Xa s) (v:n<64) (x:m.fs[k]? =Xa fr) {w:Bool} (b:zf s n=⟨1,(k:Int),w⟩) (a:Bool) (D:a=Xc->(zo s.aC n).wr=Xc/\((fr.f=-1/\fr.r<=1)\/(zo s.aC n).sh=Xc)):
  Rt (Jg m p n k fr a (zo s.aC n).sh)/\Sam (fun _ _=>False) m (Jg m p n k fr a (zo s.aC n).sh)/\(∃u d,(Jg m p n k fr a (zo s.aC n).sh).fs[k]? =Xa { fr with u:=u,d:=d })/\∀r,(Jg m p n k fr a (zo s.aC n).sh).sp[p]? =Xa r->zf r n=⟨1,(k:Int),w || a⟩:=by
 have l:=(gS.1 x).1;have z:fr.r≠0:=by
  obtain⟨M,C,G,H,K,L⟩:=t.aQ g v (by rw[b]);grind
 unfold Jg;cases a with
 | false=>
  rw[kF Dc];obtain⟨q,y⟩:=zfR t x z Xc fr.d;refine⟨q,y,⟨Xc,fr.d,by simp only;rw[sF l]⟩,fun r h=>?_⟩;have:m.sp[p]? =Xa r:=h;rw[g]at this;cases this;rw[b,Bool.or_false]
 | true=>
  rw[kE rfl];obtain⟨q,y⟩:=zfR t x z Xc (fr.d || (zo s.aC n).sh);obtain⟨E,F⟩:=D rfl;have j:({ m with fs:=m.fs.set k { fr with u:=true,d:=fr.d || (zo s.aC n).sh } }:Ma).fs[k]? =Xa { fr with u:=true,d:=fr.d || (zo s.aC n).sh }:=by
   simp only;rw[sF l]
  have f:QL { m with fs:=m.fs.set k { fr with u:=true,d:=fr.d || (zo s.aC n).sh } } (zo s.aC n) (zf s n):=by
   rcases q.aM (p:=p) (s:=s) g v with i|i;·rw[b]at i;cases i
   exact i
  rw[b]at f;have c:=zqQ q f j E F;obtain⟨A,B⟩:=zo5 q (p:=p) (s:=s) g v (e:=⟨1,(k:Int),Xc⟩) (by rw[b]) (by rw[b]) c;refine⟨A,(y.trans B).mono (fun _ _ i=>i.elim id id),⟨Xc,fr.d || (zo s.aC n).sh,j⟩,fun r h=>?_⟩;rw[(zae (m1:={ m with fs:=m.fs.set k { fr with u:=true,d:=fr.d || (zo s.aC n).sh } }) (fun s g=>t.tb g) g v c.1 h).1,Bool.or_true]
end
def znK (s:Sp) (kind k:Int):List Nat:=(Yr 64).filter fun n=>enS (zf s n) && zlv kind k (zf s n)
def qQ (m:Ma) (kind k:Int) (q:Nat):List (Nat × Nat):=(Yr q).flatMap fun p=>(znK (m.sp.getD p ⟨Xd,[],[]⟩) kind k).map fun n=>(p,n)
theorem zkP (m) (kind k:Int):qQ m kind k 0=[]:=rfl
theorem zci (m:Ma) (kind k:Int) (q:Nat):qQ m kind k (q+1)=qQ m kind k q++(znK (m.sp.getD q ⟨Xd,[],[]⟩) kind k).map fun n=>(q,n):=by unfold qQ;rw[List.range_succ,List.flatMap_append];simp
theorem zjS (a:z≠0):k∈znK s z R↔k<64/\isE (zf s k) z R=Xc:=by unfold znK;rw[Yd,Xu];refine and_congr_right fun _=>?_;unfold enS zlv isE;grind
theorem zap {kind k:Int} (d:kind≠0) (a:p<=m.sp.length) {x:Nat × Nat}:x∈qQ m kind k p↔x.1<p/\x.2<64/\∃s,m.sp[x.1]? =Xa s/\isE (zf s x.2) kind k=Xc:=by
 unfold qQ;rw[Yz];constructor
 ·rintro⟨q,b,c⟩;obtain⟨n,a,rfl⟩:=Ya.1 c;have f:=Xu.1 b;have e:=gE (show q<m.sp.length by omega);rw[gD,e,Option.getD_some,zjS d]at a;exact⟨f,a.1,_,e,a.2⟩
 rintro⟨b,c,s,a,e⟩;refine⟨x.1,Xu.2 b,Ya.2 ⟨x.2,?_,rfl⟩⟩;rw[gD,a,Option.getD_some,zjS d];exact⟨c,e⟩
theorem zkW (s:Sp) (kind k:Int):(znK s kind k).Nodup:=List.Nodup.sublist List.filter_sublist List.nodup_range
theorem zdV (m:Ma) (kind k:Int):∀q,(qQ m kind k q).Nodup
 | 0=>List.nodup_nil
 | q+1=>by
  rw[zci,Ot];refine⟨zdV m kind k q,?_,?_⟩
  ·exact List.Pairwise.map _ (fun a b c e=>c (Prod.mk.inj e).2) (zkW _ kind k)
  intro a d b i e;subst e;obtain⟨n,_,rfl⟩:=Ya.1 i;unfold qQ at d;obtain⟨p,f,g⟩:=Yz.1 d;obtain⟨j,_,h⟩:=Ya.1 g;have:=Xu.1 f;have:=(Prod.mk.inj h).1;omega
def ZG (m:Ma) (e:En):List (Nat × Nat)->Ma
 | []=>m
 | x :: l=>ZG (JS m x.1 x.2 e) e l
theorem zg1 (f:enW Z=0):∀(l:List (Nat × Nat)) {m:Ma},(∀s∈m.sp,Qo s.tb)->(∀x∈l,x.2<64)->(ZG m Z l).sp.length=m.sp.length/\(∀s∈(ZG m Z l).sp,Qo s.tb)/\∀(q:Nat) s b,m.sp[q]? =Xa s->(ZG m Z l).sp[q]? =Xa b->b.aF=s.aF/\b.aC=s.aC/\∀j,zf b j=if(q,j)∈l then Z else zf s j
 | [],m,ht,_=>⟨rfl,ht,fun q s b c d=>by
   simp only[ZG]at d;rw[c]at d;cases d;exact⟨rfl,rfl,fun j=>Sm⟩⟩
 | x :: l,m,ht,a=>by
  have g:=a x (Xs ..);obtain⟨i,k,n⟩:=zg1 f l (m:=JS m x.1 x.2 Z) (zcZ ht f) (fun y h=>a y (Xt _ h))
  refine⟨i.trans zb8,k,fun q s b c d=>?_⟩;have:∃t,(JS m x.1 x.2 Z).sp[q]? =Xa t:=⟨_,gE (by rw[zb8];exact(gS.1 c).1)⟩;obtain⟨t,a⟩:=this;obtain⟨h,i,k⟩:=n q t b a d;obtain⟨b,d⟩:=zdw c a;refine⟨h.trans b,i.trans d,fun j=>?_⟩;rw[k j];by_cases b:(q,j)∈l;·rw[kE b,kE (Xt _ b)]
  rw[kF b];by_cases d:q=x.1/\j=x.2;·obtain⟨rfl,rfl⟩:=d;rw[kE (Xs ..)];exact(zae ht c g f a).1
  rw[zbx ht g f c a d,kF];intro a;rcases mC.1 a with a|a;·rw[<-a]at d;exact d ⟨rfl,rfl⟩
  exact b a
theorem zdx (e):∀(l:List (Nat × Nat)) (m:Ma),ZG m e l={ m with sp:=(ZG m e l).sp }
 | [],_=>rfl
 | x :: l,m=>by
  show ZG (JS m x.1 x.2 e) e l=_
  rw[zdx e l (JS m x.1 x.2 e)];rfl
theorem zq5 (h:Qo s.tb):s.tb=Zm (zf s):=by have:=zjW (m:=⟨[],0,[],[],[],[],[],[],0,[],[s]⟩) (fun t a=>by grind);have a:=congrArg (fun b:Ma=>b.sp) this;simp only[QE,Zp,mP,Ob,List.zipWith_cons_cons,List.zipWith_nil_left,List.cons.injEq,and_true]at a;exact(congrArg Sp.tb a).symm
theorem zoo (h:Rt m) (f:enW Z=0):(ZG m Z (qQ m 1 (k:Int) m.sp.length)).sp=m.sp.map (ZH (k:Int) Z):=by
 have g:∀s∈m.sp,Qo s.tb:=fun s c=>h.tb c;have a:=fun b=>zap (m:=m) (kind:=1) (k:=(k:Int)) Dc (nR m.sp.length) (x:=b);obtain⟨d,h,i⟩:=zg1 f (qQ m 1 (k:Int) m.sp.length) g (fun b f=>((a b).1 f).2.1);apply Xy;intro q;by_cases b:q<m.sp.length
 ·have c:=gE b;have a:=gE (show q< (ZG m Z (qQ m 1 (k:Int) m.sp.length)).sp.length by rw[d];exact b);obtain⟨f,g,j⟩:=i q _ _ c a;rw[a,Yg,c,Option.map_some];congr 1;have c:zf ((ZG m Z (qQ m 1 (k:Int) m.sp.length)).sp[q]'(Rx d b))=fun j=>if j<64 then Jf (k:Int) Z (zf m.sp[q]) j else zf m.sp[q] j:=by grind [Jf,isE,zf]
  have c:=zq5 (h _ (mG a));have a:Zm (zf ((ZG m Z (qQ m 1 (k:Int) m.sp.length)).sp[q]'(Rx d b)))=Zm (Jf (k:Int) Z (zf m.sp[q])):=by grind [Zm,Zs,Om,Xu.1]
  rw[a]at c;unfold ZH;generalize(ZG m Z (qQ m 1 (k:Int) m.sp.length)).sp[q]'(Rx d b)=s' at f g c;cases s';grind
 grind
theorem zam (h:Rt m) {k:Int}:∀x∈qQ m 2 k m.sp.length,x.2<64/\∃s,m.sp[x.1]? =Xa s/\(zo s.aC x.2).is=Xc/\(zo s.aC x.2).sh=Xd/\ZA m (zo s.aC x.2) (zf s x.2)=(qI m.sb m.sq k,Xc,0):=fun x d=>by
 obtain⟨_,b,s,c,a⟩:=(zap Dc (nR _)).1 d;simp only[isE,Xx,decide_eq_true_eq]at a;obtain⟨p,z,e,f,g,i,j,l,n⟩:=h.cD c b a.1;grind [ZA]
theorem zcz {P:α->Bool}:∀{l:List α} {i:Nat},i<l.length->(∀(j:Nat) d,l[j]? =Xa d->(P d=Xc↔j=i))->l.eraseIdx i=l.filter fun d=>!P d
 | [],i,hi,_=>absurd hi Sm
 | a :: l,0,_,h=>by
  have b:=(h 0 a rfl).2 rfl;rw[List.eraseIdx_cons_zero,Ys,kF (by rw[b];decide)]
  refine(Ol.2 fun d c=>?_).symm;obtain⟨j,e⟩:=Xz c;have:=h (j+1) d (Rx Xv e);cases e:P d with
  | false=>rfl
  | true=>exact absurd (this.1 e) Wm
 | a :: l,i+1,hi,h=>by
  have b:P a=Xd:=by
   cases e:P a with
   | false=>rfl
   | true=>exact absurd ((h 0 a rfl).1 e) Wm
  rw[List.eraseIdx_cons_succ,Ys,kE (Rr b),zcz (P:=P) (l:=l) (i:=i) (Si hi) fun j d c=>?_];have:=h (j+1) d (Rx Xv c);rw[this];omega
theorem zb5 (P:α->Bool):∀l:List α,l.take (l.takeWhile P).length=l.takeWhile P/\l.drop (l.takeWhile P).length=l.dropWhile P
 | []=>Sm
 | a :: l=>by
  obtain⟨c,d⟩:=zb5 P l
  cases b:P a with
  | true=>simp[b,c,d]
  | false=>simp[b]
def zcL (ca:List Ca) (c:Ca):Nat:=(ca.takeWhile fun d=>decide (zV d<zV c)).length
theorem zqK (ca:List Ca) (c:Ca):ca.take (zcL ca c)++c :: ca.drop (zcL ca c)=ZC ca c:=by unfold zcL ZC;rw[(zb5 _ ca).1,(zb5 _ ca).2]
section
variable{m:Ma} {k:Nat} {fr:Fr}
theorem zjb (h:Rt m) (i:m.fs[k]? =Xa fr) {c:Ca} (e:m.ca[b]? =Xa c) (a:c.fr=(k:Int)):m.ca.eraseIdx b=m.ca.filter fun d=>!decide (d.fr=(k:Int)):=by
 obtain⟨i,a,a⟩:=zn.1 h.inv.ca;have a:∀d∈m.ca,d.fr=(k:Int)->d.file=fr.f/\d.idx=fr.x:=fun d a f=>by
  obtain⟨f,f,f,f⟩:=jW (i d a);grind [zK]
 refine zcz (P:=fun d:Ca=>decide (d.fr=(k:Int))) (gS.1 e).1 fun j d a=>?_;grind [mG,zV,gS.1,Nat.lt_trichotomy,List.pairwise_iff_getElem.1]
theorem zek (h:Rt m) (e:m.fs[k]? =Xa fr) (d:0<=fr.f):∃(i:Nat) (c:Ca),m.ca[i]? =Xa c/\c.fr=(k:Int)/\c.file=fr.f/\c.idx=fr.x:=by obtain⟨c,a,b⟩:=zcn ((h.inv.cf k fr e).2 d);obtain⟨i,b⟩:=Xz a;obtain⟨b,b,b,b⟩:=jW ((zn.1 h.inv.ca).1 c a);grind [zK]
theorem zja (h:Rt m) {c:Ca} (e:c∈m.ca):∃(k:Nat) (fr:Fr),c.fr=(k:Int)/\m.fs[k]? =Xa fr/\fr.r≠0/\fr.f=c.file/\fr.x=c.idx/\zZ m c.file c.idx=pgL fr.p:=by obtain⟨a,a,b,d⟩:=jW ((zn.1 h.inv.ca).1 c e);have f:c.fr.toNat<m.fs.length:=Wm;have g:=gE f;have f:=zK g;rw[show((c.fr.toNat:Nat):Int)=c.fr by omega]at f;rw[f]at a b d;refine⟨c.fr.toNat,_,Wm,g,a,b,d,?_⟩;unfold zZ;rw[QF h.inv.ca e];grind
end
theorem zeS:∀(l:List Int) (lo b:Int),l.Pairwise (·< ·)->(∀x∈l,lo<=x/\x<b)->(l.length:Int)<=max (b - lo) 0
 | [],lo,b,_,_=>by simp only[Yp];omega
 | a :: l,lo,b,hp,c=>by
  obtain⟨d,e⟩:=List.pairwise_cons.1 hp;obtain⟨f,f⟩:=c a (Xs ..);have:=zeS l (a+1) b e fun x b=>⟨Hm (d x b),(c x (Xt _ b)).2⟩
  simp only[Yi];omega
def qy (fs:List Fr):Nat:=fs.countP fun f=>decide (f.r=0)
section
variable{m:Ma}
theorem zlp (S:Nat->Nat->Prop) (t:Rt m) {f:Fl} (v:m.fl[k]? =Xa f) (file:stW (m.fl.set k ⟨f.size,f.bl.set p (b:Int)⟩) m.cnt=0)
  (s:∀x,z3 (m.fl.set k ⟨f.size,f.bl.set p (b:Int)⟩) x=Xc↔(z3 m.fl x=Xc/\x≠-1)\/x=(b:Int)\/(x=-1/\z3 (m.fl.set k ⟨f.size,f.bl.set p (b:Int)⟩) x=Xc))
  (n:r.length=m.db.length) (h:zN r.length g=0) (e:∀i:Nat,r[i]? =m.db[i]?\/∃q∈m.dq,q.1=(i:Int)) (w:∀q∈g,q.1=(b:Int)\/∃y∈m.dq,y.1=q.1) (idx:∀i:Int,i≠(b:Int)->qI r g i=qI m.db m.dq i)
  (l:f.bl[p]? =Xa (b:Int)\/(z3 m.fl (b:Int)=Xd)) (u:∃c∈m.ca,c.file=(k:Int)/\c.idx=(p:Int)) (a:∀(i j:Nat) d,m.fl[i]? =Xa d->d.bl[j]? =Xa (b:Int)->i=k/\j=p):
  Jt S m (zeq m k p f (b:Int) r g):=by obtain⟨⟨r,g⟩,y⟩:=zno t v file s n h e w idx l u a;refine⟨r,g.mono (fun _ _ e=>e.elim),rfl,fun q n s h r r _ g=>?_,fun k p g e=>⟨e,y k p g⟩⟩;have:m.sp[q]? =Xa h:=r;grind
def zjk (k:Nat) (fr:Fr) (l:List (Nat × Nat)) (q:Nat) (s:Sp) (a:Ar) (n:Nat):Prop:=(z5 a n).file=fr.f/\(z5 a n).page=fr.x/\(q,n)∉l/\((zf s n).kind=0\/isE (zf s n) 1 (k:Int)=Xc)
theorem zqu (h:∀(q:Nat) s (i:Nat) a (n:Nat),m.sp[q]? =Xa s->s.aC[i]? =Xa a->ZP a n=Xc->n<64->¬zjk k X d q s a n) (q n:Nat) (s:Sp) (g:m.sp[q]? =Xa s) (f:n<64) (b:(zo s.aC n).is=Xc) (c:(zo s.aC n).file=X.f) (hp:(zo s.aC n).page=X.x) (e:(zf s n).kind=0\/isE (zf s n) 1 (k:Int)=Xc):(q,n)∈d:=by
 obtain⟨i,a,c,fr,j⟩:=Qw b;refine Classical.byContradiction fun b=>h q s i a n g c fr f ⟨?_,?_,b,e⟩;·grind
 grind
theorem zfL (h:Rt m) {fr:Fr} (l:m.fs[k]? =Xa fr) (c:0<=fr.f) (e:fr.r≠0) (b:ZW m fr.f fr.x=ZF (pgL fr.p) fr.x (Jb m fr.f))
  (hS:ZF (pgL fr.p) fr.x (Jb m fr.f)=pgL fr.p\/∀(q:Nat) s (i:Nat) a (n:Nat),m.sp[q]? =Xa s->s.aC[i]? =Xa a->ZP a n=Xc->n<64->¬zjk k fr d q s a n):Jt (fun q j=>(q,j)∈d) m (qh m k):=
 zmY h _ l c e b (hS.imp id fun b q n s c l e f g h=>zqu b q n s c l e f g h)
theorem zgB {f:Fl} {c:Nat} (e:Jt (fun q j=>(q,j)∈d) m (zeq m k p f (b:Int) r g)) (idx:m.fl[k]? =Xa f) (hi:p<f.bl.length) (t:m.fs[c]? =Xa X) (fr:X.f=(k:Int)) (h:X.x=(p:Int)) (u:X.r≠0)
  (l:qI r g (b:Int)=ZF (pgL X.p) (p:Int) (Jb m (k:Int)))
  (hS:ZF (pgL X.p) X.x (Jb m X.f)=pgL X.p\/∀(q:Nat) s (i:Nat) a (n:Nat),m.sp[q]? =Xa s->s.aC[i]? =Xa a->ZP a n=Xc->n<64->¬zjk c X d q s a n):Jt (fun q j=>(q,j)∈d) m (qh (zeq m k p f (b:Int) r g) c):=by
 refine e.trans (zfL e.rt (fr:=X) t Wm u ?_ ?_);·rw[fr,h,zkd idx hi l,<-e.aW.sz]
 rw[e.aW.sz];exact hS
end
theorem Rt.parts (h:Rt m):Zx m.fs m.aB=0/\slW m.sl=0:=by have b:=h.w;unfold maW at b;rw[zk]at b;have a:J1 m=0:=b _ Sm;unfold J1 at a;rw[zk]at a;exact⟨a _ Sm,a _ Sm⟩
theorem Rt.refs (h:Rt m) (a:m.fs[k]? =Xa X):0<=X.r/\X.r<=300:=by have b:=(h.inv.cf k X a).1;have c:=zan (Zp m) 1 k;have d:=zfj h.inv.ca (k:Int);have e:=h.inv.tl;have g:=h.inv.aI;omega
theorem Rt.slots (h:Rt m) (a:m.sl[k]? =Xa z):0<=z/\z<=300:=by have b:=h.inv.cs k z a;have c:=zan (Zp m) 2 k;have d:=h.inv.tl;have e:=h.inv.aI;omega
theorem qo.rebirth (h:qo m T) {k:Nat} {f:Nat->En} (x:T[k]? =Xa f) (y:∀n,n<64->f n=en0) (z:(wrL l).1=0):qo { m with sp:=m.sp.set k ⟨Xc,l,qJ⟩ } T:=by
 have b:∀(p:Nat) a,(m.sp.set k ⟨Xc,l,qJ⟩)[p]? =Xa a->(p=k/\a=⟨Xc,l,qJ⟩)\/(p≠k/\m.sp[p]? =Xa a):=fun p a w=>by grind
 refine⟨h.aK,h.bB,h.aO,h.bE,h.sq,h.bI,h.st,h.cnt,h.bG,h.aV,by show(m.sp.set k _).length<=4;rw[Yf];exact h.aI,fun a c=>?_,by show T.length=(m.sp.set k _).length;rw[Yf];exact h.tl,?_,fun p a q c e n s=>?_,h.cf,h.cs⟩
 ·obtain⟨p,t⟩:=Xz c
  rcases b p a t with⟨_,rfl⟩|⟨_,d⟩;·grind
  exact h.aP a (mG d)
 ·obtain⟨i,v,j⟩:=zn.1 h.ca;exact zn.2 ⟨fun g r=>i g r,fun A g u=>(by cases u),j⟩
 rcases b p a c with⟨rfl,rfl⟩|⟨_,d⟩;·grind
 exact h.aM p a q d e n s
theorem Ji (a:k<64):zeE s.tb (k:Int)=zf s k:=by unfold zeE zf;rw[kE Wm,tN]
theorem zpw (h:Qo G) (b:k<64) (a:enW Z=0):zjw G (k:Int) Z=zkm G k Z:=by have a:=Zz.2 h.2;grind [zlu,zjw,tN]
theorem Jk (ht:∀s∈m.sp,Qo s.tb) {n:Nat} (hp:p<m.sp.length) (c:n<64) (b:enW Z=0):jN m p (n:Int) Z=JS m p n Z:=by obtain⟨s,a⟩:∃s,m.sp[p]? =Xa s:=⟨_,gE hp⟩;unfold jN JS;rw[Sp.aL a,zpw (ht s (mG a)) c b];congr 1;apply Xy;grind
end
section
open Go.RowKit
theorem QK.aY {enc:α->List Xq} {base:Nat} (h:QK enc w A y) (c:zeF base A) {D:Nat->Prop} (g:∀k,D k->k<base) (k:qn D w W):QK enc W A y:=by obtain⟨b,d,a,e,f⟩:=h;refine⟨b,d,a,e,fun x b j u d=>?_⟩;subst b;have b:=f x rfl j u d;have d:=World.block_lt_of_cell? _ _ b;have c:=c x _ _ a;rw[World.cell?_of_block (w:=w) (k.block _ d (fun e=>by have:=g _ e;rw[zbZ]at this;omega))];exact b
theorem qL.aY {base:Nat} (h:qL base w A r g) {D:Nat->Prop} (e:∀k,D k->k<base) (k:qn D w W):qL base W A r g:=by obtain⟨f,q,b,r,g,c,d⟩:=h;exact⟨f,q,b,⟨r.1.aY c e k,r.2⟩,⟨g.1.aY d e k,g.2⟩,c,d⟩
theorem qL.form (h:qL k w A r g):∃d q:Sli,A= Xi #[d.x,q.x]/\zeF k d.v/\zeF k q.v:=by obtain⟨g,q,rfl,⟨⟨r,c,rfl,_⟩,_⟩,⟨⟨g,e,rfl,_⟩,_⟩,f,b⟩:=h;exact⟨⟨r,_,c⟩,⟨g,_,e⟩,rfl,f,b⟩
theorem qL.rows {d q:Sli} (h:qL k w (Xi #[d.x,q.x]) r g):Zc w (d.x) r/\jX w (q.x) g:=by obtain⟨g,q,e,r,r,_⟩:=h;grind
theorem zoa (h:stW N z≠0):znH N z R=stW N z:=by unfold znH;rw[kF h]
theorem zmb (h:stW N z=0) (b:¬(0<=R/\R< (N.length:Int))):znH N z R=5:=by unfold znH;rw[kE h,kF (Rx zal b)]
theorem zfN {f:Fl} (h:stW N z=0) (b:N[k]? =Xa f):znH N z (k:Int)=0:=by have:=(gS.1 b).1;unfold znH;rw[kE h,kE (zal.2 ⟨Wm,Wm⟩)]
theorem zeY:Zh N k=(Qx N (k:Int)).map fun(b:Nat)=>(b:Int):=zkI N k
theorem zjf (v fs) (d k x:Int) (w:Xn) (f:qg w v fs):
  Xp prog 207 #[Xi #[v,I6 d],I6 k,I6 x] w fun e w'=>∃b,e= Xl (Xm #[Xi #[b,I6 (zlw fs d k x)],I6 (zjg fs d k x),I6 (zaO fs d k x)])/\jR 0 w.heap.size w' b (zh9 fs d k x)/\zc w w':=by
 have L:∀W,zc w W->Xp prog 208 #[Xi #[v,I6 d],I6 k] W fun e w'=>e= Xl (I6 (znH fs d k))/\zc W w':=fun W P=>zgy v fs d k W (f.aA P);have b7:∀W,zc w W->Xp prog 49 #[Xi #[v,I6 d]] W fun e w'=>∃b,e= Xl (Xi #[b,I6 d])/\q9 (W.heap.size+2) w' b fs/\zc W w'/\W.heap.size+2<=w'.heap.size:=fun W P=>zg8 v fs d W (f.aA P);have ck:=dD f;obtain⟨g,c2,rfl,c,a⟩:=f.rows;have ca:=dD a;clear f a;obtain⟨D,Z⟩:=kA fs.length;rw[Z.out]at L b7 c ck⊢;obtain⟨c,a⟩:=kB ((w.alloc (Xk #[O g D c2,I6 d] 37)).alloc (Xk #[eS,I6 0] 37));have G:=gD2 a;have ce:=x2a a;have bz:=x2b a;have ah:Xo (_=c):=a;clear a;have a9:∀z:Int,z≠0->(∀W,zc w W->Xp prog 208 #[Xi #[O g D c2,I6 d],I6 k] W fun e w'=>e= Xl (I6 z)/\zc W w')->Xp prog 207 #[Xi #[O g D c2,I6 d],I6 k,I6 x] w fun e w'=>∃b,e= Xl (Xm #[Xi #[b,I6 0],I6 0,I6 z])/\jR 0 w.heap.size w' b []/\zc w w':=fun z a L=>by
  have c:(z != 0)=Xc:=Si a;clear b7;go_enter func207,ntmps207;go_wp2_with fail;rw[ah.out];refine(L _ G).mono ?_;rintro e N ⟨rfl,u⟩;have V:=dD (G.trans u);have X:=bz.aA u;obtain⟨cf,cg⟩:=X.k2;have ch:=X.f;clear u L;go_wp2;refine bodyPost_ret (v:= Xm #[Xi #[eS,I6 0],I6 0,I6 z]) (by simp[results,Tryz.results207,go_sem, *]) rfl ⟨_,rfl,jR.nil _ _ _,?_⟩;exact Below.setCell (Below.setCell V (p:=⟨w.heap.size+1,0,Xb⟩) Sm _) (p:=⟨w.heap.size+1,1,Xb⟩) Sm _
 rcases znp fs d k x with⟨M,I,a1,a2,a3⟩|⟨M,c,I,a1,a2,a3⟩|⟨M,j,t,rfl,z,h,I,a1,a2,a3⟩|⟨M,j,t,C,b,rfl,z,rfl,ap,a,f,I,a1,a2,a3⟩|⟨M,j,t,C,rfl,z,rfl,ap,aq,I,a1,a2,a3⟩|⟨M,j,t,C,b,cp,rfl,z,rfl,ap,aq,I,a1,a2,a3⟩;·rw[I,a1,a2,a3];rw[zoa M]at L;exact a9 _ M L
 ·rw[I,a1,a2,a3];rw[zmb M c]at L;exact a9 _ Dc L
 ·rw[I,a1,a2,a3];rw[zfN M z]at L;have a4:j<D:=by rw[<-Z.out];exact(gS.1 z).1
  have ao:(j:Int)< (D:Int):=Wm;obtain⟨a8,y,bm,bn,a5,c⟩:=ca.out j t z;subst y;have s:=dD c;clear c a5 a9;obtain⟨K,g⟩:=kA t.bl.length;have bp:=dD z;clear z;rw[g.out]at s;have an:=fun W=>zc9 h W;rw[g.out]at an;clear I a1 a2 a3 b7 M h;go_enter func207,ntmps207;go_wp2_with fail;rw[ah.out];refine(L _ G).mono ?_;rintro e N ⟨rfl,u⟩;have V:=dD (G.trans u);have b5:=(ce.aA u).c 0 rfl;obtain⟨bs,ak⟩:=s.out N V.out;have X:=bz.aA u;obtain⟨cf,cg⟩:=X.k2;have ch:=X.f;clear u L;go_wp2_with (go_at_call 155;refine(an _).mono ?_;rintro e w' ⟨rfl,B⟩;rw[B];clear B w')
  refine bodyPost_ret (v:= Xm #[Xi #[eS,I6 0],I6 0,I6 9]) (by simp[results,Tryz.results207,go_sem, *]) rfl ⟨_,rfl,jR.nil _ _ _,?_⟩;exact Below.setCell (Below.setCell V (p:=⟨w.heap.size+1,0,Xb⟩) Sm _) (p:=⟨w.heap.size+1,1,Xb⟩) Sm _
 ·rw[I,a1,a2,a3];rw[zfN M z]at L;have a4:j<D:=by rw[<-Z.out];exact(gS.1 z).1
  have ao:(j:Int)< (D:Int):=Wm;obtain⟨a8,y,bm,bn,a5,c⟩:=ca.out j t z;subst y;have s:=dD c;clear c a5 a9;obtain⟨K,g⟩:=kA t.bl.length;have bp:=dD z;clear z;rw[g.out]at s;have b8:C<K:=by rw[<-g.out];exact(gS.1 ap).1
  have c4:(C:Int)< (K:Int):=Wm;have an:=fun W=>QH (m:=(C:Int)) (n:=(K:Int)) Wm Wm W;have bv:=dD ap;have h:(b == -1)=Xd:=by simp;omega
  clear a f;clear I a1 a2 a3 M ap;go_enter func207,ntmps207;go_wp2_with fail;rw[ah.out];refine(L _ G).mono ?_;rintro e N ⟨rfl,u⟩;have V:=dD (G.trans u);have aj:=dD (ce.aA u);have X:=dD (bz.aA u);obtain⟨b5,b9⟩:=aj.k2;obtain⟨bs,ak⟩:=s.out N V.out;clear u L;go_wp2_with (go_at_call 155;refine(an _).mono ?_;rintro e w' ⟨rfl,B⟩;rw[B];clear B w')
  refine(b7 _ V).mono ?_;rintro e ai ⟨cm,rfl,ax,al,bb⟩;have F:Xo (w.heap.size+2<=N.heap.size):=X.lt;obtain⟨bo,a6,T,aw,ba⟩:=ax;obtain⟨U,av⟩:∃U,bo[j]? =Xa U:=⟨_,gE (by rw[T,Z.out];exact a4)⟩;obtain⟨Y,ac,rfl⟩:=a6.aG (by rw[T,Z.out];omega);rw[T,Z.out]at a6⊢;obtain⟨b4,ab⟩:=aw j U t av bp.out;obtain⟨b0,c8,c9,az⟩:=U;obtain⟨r,c7,ay⟩:=ab.aG (by rw[g.out];omega);rw[g.out]at ay;have c6:O c8 c9 az= O (Xa ⟨r,0,Xb⟩) K c7:=ay;cases c6;have be:=dD av;have bf:Xo (b0=t.size):=b4;have bq:=dD a6;have cb:=dD T;have cc:=dD aw;have cd:=dD ba;have bx:Xo (zb blE (N.heap.size+2) ai (O (Xa ⟨r,0,Xb⟩) K az) t.bl):=ab;have bu:=dD (V.trans al);have ag:=dD bb;have Q:=dD al;clear al bb b7 b5 b9 bs ak a6 T aw ba b4 ab ay av an;go_upto_region 7 with fail;obtain⟨aa,q⟩:=kB ai.heap.size;obtain⟨S,l⟩:=kB (ai.alloc (Xk #[O (Xa ⟨Y,0,Xb⟩) D ac,I6 d] 37));have f:=gA l;have b2:Xo (zr S aa 37 [O (Xa ⟨Y,0,Xb⟩) D ac,I6 d]):=dD (by rw[<-l];exact zr.aE _ _ _ q.symm);have br:=dD ((aj.aA Q).aA f);have bg:=dD ((X.aA Q).aA f);have b6:Xo (N.heap.size+2<=aa):=show _<=_ by rw[<-q];exact ag.out
  have bw:=dD b2.box.lt;have bd:=dD (bu.trans f);have a7:=dD (bq.aA f);have R:=dD (bx.aA f);rw[l];rw[q];clear l q;have af:Xo (∀W,zc S W->W.cell? ⟨Y,j*2+1,Xb⟩=Xa (O (Xa ⟨r,0,Xb⟩) K az)):=show∀W,_ from fun W P=>by
   obtain⟨bh,bi,i,a⟩:=(a7.aA P).at.rows;obtain⟨a8,h,c⟩:=a j _ be.out;cases i;cases h;have:=c _ (zc.refl _) 1 _ rfl;rw[zX,Xw,zA]at this;exact this
  have ae:Xo (∀W,zc S W->W.cell? ⟨r,C,Xb⟩=Xa (I6 b)):=dD<|fun W P=>by
   obtain⟨bh,bi,i,a⟩:=(R.aA P).at.aU;obtain⟨a8,h,c⟩:=a C _ bv.out;cases i;cases h;have:=c _ (zc.refl _);rw[Xw,zA]at this;exact this
  have c5:=b2.box.c 0 rfl;have ak:=af.out S (zc.refl _);have c3:=ae.out S (zc.refl _);have A:=dD<|(q9.aA ⟨bo,bq,cb,cc,cd⟩ f).new;have cq:=b2.box.c 1 rfl;obtain⟨cf,cg⟩:=bg.k2;have ch:=bg.f;have ar:aa≠w.heap.size+1:=by have:=b6.out;have:=F.out;omega
  have bk:¬w.heap.size+1=aa:=fun e=>ar e.symm;have au:r≠w.heap.size+1:=by have:=(R.lt r rfl).1;have:=F.out;omega
  have bl:¬w.heap.size+1=r:=fun e=>au e.symm;go_wp2;go_region
  all_goals go_wp2
  all_goals
   refine bodyPost_ret (v:= Xm #[Xi #[O (Xa ⟨Y,0,Xb⟩) D ac,I6 d],I6 b,I6 0]) (by simp[results,Tryz.results207,go_sem, *]) rfl ⟨_,rfl,?_,?_⟩
   ·have ci:=A.less (A0:=0) (A1:=w.heap.size+2) (nR _) (Hm F.out)
    exact(((ci.out (Out.setCell _ _ _ (p:=⟨w.heap.size+1,0,Xb⟩) (nZ _) Sm _)).out (Out.setCell _ _ _ (p:=⟨w.heap.size+1,1,Xb⟩) (nZ _) Sm _)).less (nR _) Wm).aA (gW _)
   exact(Below.setCell (Below.setCell bd (p:=⟨w.heap.size+1,0,Xb⟩) Sm _) (p:=⟨w.heap.size+1,1,Xb⟩) Sm _).drew
 ·rw[I,a1,a2,a3];rw[zfN M z]at L;have a4:j<D:=by rw[<-Z.out];exact(gS.1 z).1
  have ao:(j:Int)< (D:Int):=Wm;obtain⟨a8,y,bm,bn,a5,c⟩:=ca.out j t z;subst y;have s:=dD c;clear c a5 a9;obtain⟨K,g⟩:=kA t.bl.length;have bp:=dD z;clear z;rw[g.out]at s;have b8:C<K:=by rw[<-g.out];exact(gS.1 ap).1
  have c4:(C:Int)< (K:Int):=Wm;have an:=fun W=>QH (m:=(C:Int)) (n:=(K:Int)) Wm Wm W;have bv:=dD ap;obtain⟨H,bj⟩:∃H:Nat,d=(H:Int):=⟨d.toNat,by have:=((qf fs d).1 M).1;omega⟩;subst bj;have A:H<=80:=by have:=((qf fs (H:Int)).1 M).1;omega
  have b3:∀W,zc w W->Xp prog 209 #[Xi #[O (Xa a8) D c2,I6 (H:Int)]] W fun e w'=>∃b,e= Xl b/\zb blE (W.heap.size+1) w' b (Zh fs H)/\zc W w':=fun W P=>zjH _ fs H A W (ck.aA P);rw[zeY,aq]at b3;clear A aq;simp only[Ob]at b3;clear I a1 a2 a3 M ap;go_enter func207,ntmps207;go_wp2_with fail;rw[ah.out];refine(L _ G).mono ?_;rintro e N ⟨rfl,u⟩;have V:=dD (G.trans u);have aj:=dD (ce.aA u);have X:=dD (bz.aA u);obtain⟨b5,b9⟩:=aj.k2;obtain⟨bs,ak⟩:=s.out N V.out;clear u L;go_wp2_with (go_at_call 155;refine(an _).mono ?_;rintro e w' ⟨rfl,B⟩;rw[B];clear B w')
  refine(b7 _ V).mono ?_;rintro e ai ⟨cm,rfl,ax,al,bb⟩;have F:Xo (w.heap.size+2<=N.heap.size):=X.lt;obtain⟨bo,a6,T,aw,ba⟩:=ax;obtain⟨U,av⟩:∃U,bo[j]? =Xa U:=⟨_,gE (by rw[T,Z.out];exact a4)⟩;obtain⟨Y,ac,rfl⟩:=a6.aG (by rw[T,Z.out];omega);rw[T,Z.out]at a6⊢;obtain⟨b4,ab⟩:=aw j U t av bp.out;obtain⟨b0,c8,c9,az⟩:=U;obtain⟨r,c7,ay⟩:=ab.aG (by rw[g.out];omega);rw[g.out]at ay;have c6:O c8 c9 az= O (Xa ⟨r,0,Xb⟩) K c7:=ay;cases c6;have be:=dD av;have bf:Xo (b0=t.size):=b4;have bq:=dD a6;have cb:=dD T;have cc:=dD aw;have cd:=dD ba;have bx:Xo (zb blE (N.heap.size+2) ai (O (Xa ⟨r,0,Xb⟩) K az) t.bl):=ab;have bu:=dD (V.trans al);have ag:=dD bb;have Q:=dD al;clear al bb b7 b5 b9 bs ak a6 T aw ba b4 ab ay av an;go_upto_region 7 with fail;obtain⟨aa,q⟩:=kB ai.heap.size;obtain⟨S,l⟩:=kB (ai.alloc (Xk #[O (Xa ⟨Y,0,Xb⟩) D ac,I6 (H:Int)] 37));have f:=gA l;have b2:Xo (zr S aa 37 [O (Xa ⟨Y,0,Xb⟩) D ac,I6 (H:Int)]):=dD (by rw[<-l];exact zr.aE _ _ _ q.symm);have br:=dD ((aj.aA Q).aA f);have bg:=dD ((X.aA Q).aA f);have b6:Xo (N.heap.size+2<=aa):=show _<=_ by rw[<-q];exact ag.out
  have bw:=dD b2.box.lt;have bd:=dD (bu.trans f);have a7:=dD (bq.aA f);have R:=dD (bx.aA f);rw[l];rw[q];clear l q;have af:Xo (∀W,zc S W->W.cell? ⟨Y,j*2+1,Xb⟩=Xa (O (Xa ⟨r,0,Xb⟩) K az)):=show∀W,_ from fun W P=>by
   obtain⟨bh,bi,i,a⟩:=(a7.aA P).at.rows;obtain⟨a8,h,c⟩:=a j _ be.out;cases i;cases h;have:=c _ (zc.refl _) 1 _ rfl;rw[zX,Xw,zA]at this;exact this
  have ae:Xo (∀W,zc S W->W.cell? ⟨r,C,Xb⟩=Xa (I6 (-1))):=dD<|fun W P=>by
   obtain⟨bh,bi,i,a⟩:=(R.aA P).at.aU;obtain⟨a8,h,c⟩:=a C _ bv.out;cases i;cases h;have:=c _ (zc.refl _);rw[Xw,zA]at this;exact this
  have c5:=b2.box.c 0 rfl;have ak:=af.out S (zc.refl _);have c3:=ae.out S (zc.refl _);obtain⟨b5,b9⟩:=br.k2;go_wp2_with fail;refine(b3 _ bd).mono ?_;rintro e cl ⟨co,rfl,bt,am⟩;obtain⟨c1,cn,rfl⟩:=bt.form;have cj:=dD (bd.trans am);have c1:=dD (bg.aA am);clear bt am b3 b5 b9 c5 ak c3;obtain⟨cf,cg⟩:=c1.k2;have ch:=c1.f;simp only[Yp];go_wp2;refine bodyPost_ret (v:= Xm #[Xi #[eS,I6 0],I6 0,I6 10]) (by simp[results,Tryz.results207,go_sem, *]) rfl ⟨_,rfl,jR.nil _ _ _,?_⟩;exact Below.setCell (Below.setCell cj (p:=⟨w.heap.size+1,0,Xb⟩) Sm _) (p:=⟨w.heap.size+1,1,Xb⟩) Sm _
 rw[I,a1,a2,a3];rw[zfN M z]at L;have a4:j<D:=by rw[<-Z.out];exact(gS.1 z).1
 have ao:(j:Int)< (D:Int):=Wm;obtain⟨a8,y,bm,bn,a5,c⟩:=ca.out j t z;subst y;have s:=dD c;clear c a5 a9;obtain⟨K,g⟩:=kA t.bl.length;have bp:=dD z;clear z;rw[g.out]at s;have b8:C<K:=by rw[<-g.out];exact(gS.1 ap).1
 have c4:(C:Int)< (K:Int):=Wm;have an:=fun W=>QH (m:=(C:Int)) (n:=(K:Int)) Wm Wm W;have bv:=dD ap;obtain⟨H,bj⟩:∃H:Nat,d=(H:Int):=⟨d.toNat,by have:=((qf fs d).1 M).1;omega⟩;subst bj;have A:H<=80:=by have:=((qf fs (H:Int)).1 M).1;omega
 have b3:∀W,zc w W->Xp prog 209 #[Xi #[O (Xa a8) D c2,I6 (H:Int)]] W fun e w'=>∃b,e= Xl b/\zb blE (W.heap.size+1) w' b (Zh fs H)/\zc W w':=fun W P=>zjH _ fs H A W (ck.aA P);rw[zeY,aq]at b3;clear A aq;rw[mP]at b3;obtain⟨A,d⟩:=kA ((b:Int) ::(cp.map fun(b:Nat)=>(b:Int)));rw[d.out]at b3;have z:Xo (A[0]? =Xa (b:Int)):=dD<|by rw[<-d.out];rfl
 have y:Xo (0<A.length):=dD<|by rw[<-d.out];simp
 clear I a1 a2 a3 M ap;go_enter func207,ntmps207;go_wp2_with fail;rw[ah.out];refine(L _ G).mono ?_;rintro e N ⟨rfl,u⟩;have V:=dD (G.trans u);have aj:=dD (ce.aA u);have X:=dD (bz.aA u);obtain⟨b5,b9⟩:=aj.k2;obtain⟨bs,ak⟩:=s.out N V.out;clear u L;go_wp2_with (go_at_call 155;refine(an _).mono ?_;rintro e w' ⟨rfl,B⟩;rw[B];clear B w')
 refine(b7 _ V).mono ?_;rintro e ai ⟨cm,rfl,ax,al,bb⟩;have F:Xo (w.heap.size+2<=N.heap.size):=X.lt;obtain⟨bo,a6,T,aw,ba⟩:=ax;obtain⟨U,av⟩:∃U,bo[j]? =Xa U:=⟨_,gE (by rw[T,Z.out];exact a4)⟩;obtain⟨Y,ac,rfl⟩:=a6.aG (by rw[T,Z.out];omega);rw[T,Z.out]at a6⊢;obtain⟨b4,ab⟩:=aw j U t av bp.out;obtain⟨b0,c8,c9,az⟩:=U;obtain⟨r,c7,ay⟩:=ab.aG (by rw[g.out];omega);rw[g.out]at ay;have c6:O c8 c9 az= O (Xa ⟨r,0,Xb⟩) K c7:=ay;cases c6;have be:=dD av;have bf:Xo (b0=t.size):=b4;have bq:=dD a6;have cb:=dD T;have cc:=dD aw;have cd:=dD ba;have bx:Xo (zb blE (N.heap.size+2) ai (O (Xa ⟨r,0,Xb⟩) K az) t.bl):=ab;have bu:=dD (V.trans al);have ag:=dD bb;have Q:=dD al;clear al bb b7 b5 b9 bs ak a6 T aw ba b4 ab ay av an;go_upto_region 7 with fail;obtain⟨aa,q⟩:=kB ai.heap.size;obtain⟨S,l⟩:=kB (ai.alloc (Xk #[O (Xa ⟨Y,0,Xb⟩) D ac,I6 (H:Int)] 37));have f:=gA l;have b2:Xo (zr S aa 37 [O (Xa ⟨Y,0,Xb⟩) D ac,I6 (H:Int)]):=dD<|by rw[<-l];exact zr.aE _ _ _ q.symm
 have br:=dD ((aj.aA Q).aA f);have bg:=dD ((X.aA Q).aA f);have b6:Xo (N.heap.size+2<=aa):=show _<=_ by rw[<-q];exact ag.out
 have bw:=dD b2.box.lt;have bd:=dD (bu.trans f);have a7:=dD (bq.aA f);have R:=dD (bx.aA f);rw[l];rw[q];clear l q;have af:Xo (∀W,zc S W->W.cell? ⟨Y,j*2+1,Xb⟩=Xa (O (Xa ⟨r,0,Xb⟩) K az)):=show∀W,_ from fun W P=>by
  obtain⟨bh,bi,i,a⟩:=(a7.aA P).at.rows;obtain⟨a8,h,c⟩:=a j _ be.out;cases i;cases h;have:=c _ (zc.refl _) 1 _ rfl;rw[zX,Xw,zA]at this;exact this
 have ae:Xo (∀W,zc S W->W.cell? ⟨r,C,Xb⟩=Xa (I6 (-1))):=dD<|fun W P=>by
  obtain⟨bh,bi,i,a⟩:=(R.aA P).at.aU;obtain⟨a8,h,c⟩:=a C _ bv.out;cases i;cases h;have:=c _ (zc.refl _);rw[Xw,zA]at this;exact this
 have c5:=b2.box.c 0 rfl;have ak:=af.out S (zc.refl _);have c3:=ae.out S (zc.refl _);obtain⟨b5,b9⟩:=br.k2;go_wp2_with fail;refine(b3 _ bd).mono ?_;rintro e cl ⟨co,rfl,bt,am⟩;obtain⟨d,cn,rfl⟩:=bt.aG y.out;have Q:cl.cell? ⟨d,0,Xb⟩=Xa (I6 (b:Int)):=by
  obtain⟨bh,bi,i,a⟩:=bt.at.aU;obtain⟨a8,h,c⟩:=a 0 _ z.out;cases i;cases h;have:=c _ (zc.refl _);rw[Xw,zA]at this;exact this
 have cj:=dD (bd.trans am);have z:=dD am;have l:=dD (R.aA am);have u:=dD (a7.aA am);have B:=dD (b2.aA am);have c1:=dD (bg.aA am);have d:=(R.lt r rfl).1;obtain⟨q,d⟩:=kA A.length;have s:0<q:=Ry d.out y.out;have s:(0:Int)< (q:Int):=Wm;have s:((q:Int) == 0)=Xd:=by simp;omega
 rw[d.out];clear bt am b3 b5 b9 c5 ak c3;go_wp2_with (refine qa (E:=blE) rfl (.tmp 55) (.tmp 54) rfl (N.heap.size+2) _ t.bl l r C rfl (b:Int) ?t1 ⟨r,C,Xb⟩ rfl ?t2 (I6 (b:Int)) rfl rfl ?_)
 case t1=>rw[g.out];exact b8
 case t2=>show _=Addr.mk r (C*1) Xb;rw[Og]
 intro y s d _;have A:=dD s;have L:Xo (Box y aa [O (Xa ⟨Y,0,Xb⟩) D ac,I6 (H:Int)]):=B.box.grown d (fun e=>l.ne B Dc r rfl e);have B:Xo (Box y (w.heap.size+1) [eS,I6 0]):=c1.grown d (Hm F.out);have P:Xo (zc w y):=dD<|zd cj d (Hm F.out);have M:Xo (jR 0 (N.heap.size+2) y (O (Xa ⟨Y,0,Xb⟩) D ac) (fs.set j ⟨t.size,t.bl.set C (b:Int)⟩)):=dD<|by
  have t:=u.grown d (fun R q G=>by cases G;exact u.apart l (Ne.symm zgM) r q rfl);refine⟨t.cap,bo,t.new.stays,by simp[cb.out],fun K U N t l=>?_⟩;by_cases e:K=j
  ·subst e;rw[sF (Rx Z.out a4)]at l;rw[be.out]at t;cases t;cases l;exact⟨bf,A.new.stays⟩
  rw[sN (fun u=>e u.symm)]at l;obtain⟨b4,ab⟩:=cc.out K U N t l;have l:=ab.aA (f.trans z);exact⟨b4,(l.grown d (fun R q G=>by cases G;exact cd j K _ U (fun u=>e u.symm) be t r rfl q)).new.stays⟩
 have c3:y.cell? ⟨r,C,Xb⟩=Xa (I6 (b:Int)):=by
  obtain⟨bh,bi,i,a⟩:=s.at.aU;obtain⟨a8,h,c⟩:=a C (b:Int) (by rw[sF (Rx g.out b8)]);cases i;cases h;have:=c _ (zc.refl _);rw[Xw,zA]at this;exact this
 clear s d Q;obtain⟨c5,cq⟩:=L.k2;obtain⟨cf,cg⟩:=B.k2;have ch:=B.f;have ar:aa≠w.heap.size+1:=by have:=b6.out;have:=F.out;omega
 have bk:¬w.heap.size+1=aa:=fun e=>ar e.symm;have au:r≠w.heap.size+1:=Hm F.out;have bl:¬w.heap.size+1=r:=fun e=>au e.symm;go_wp2;go_region
 all_goals go_wp2
 all_goals
  refine bodyPost_ret (v:= Xm #[Xi #[O (Xa ⟨Y,0,Xb⟩) D ac,I6 (H:Int)],I6 (b:Int),I6 0]) (by simp[results,Tryz.results207,go_sem, *]) rfl ⟨_,rfl,?_,?_⟩
  ·have ci:=M.less (A0:=0) (A1:=w.heap.size+2) (nR _) (Hm F.out)
   exact(((ci.out (Out.setCell _ _ _ (p:=⟨w.heap.size+1,0,Xb⟩) (nZ _) Sm _)).out (Out.setCell _ _ _ (p:=⟨w.heap.size+1,1,Xb⟩) (nZ _) Sm _)).less (nR _) Wm).aA (gW _)
  exact(Below.setCell (Below.setCell P (p:=⟨w.heap.size+1,0,Xb⟩) Sm _) (p:=⟨w.heap.size+1,1,Xb⟩) Sm _).drew
section
variable{w0 w w1 w2:Xn} {p:Nat} {V:MaV} {m:Ma}
theorem ChW.setFl (h:ChW w0 p w V m) {b:Sli} (d:zc w w1) (g:w.heap.size<=B) (f:jR 0 B w1 (b.x) N) (e:w1.grownBy w2 (Xa p)) (a:zr w2 p 102 (chL { V with fl:=b } { m with fl:=N,cnt:=z })):zeL w0 p w V { m with fl:=N,cnt:=z } w2:=
 h.fieldC (V':={ V with fl:=b }) (m':={ m with fl:=N,cnt:=z }) d e rfl rfl rfl rfl rfl rfl a (fun W _ a r=>⟨r.sl,r.sb,r.sq,r.db,r.dq,(f.out ⟨a.os,a.tape,a.output,a.size,fun k d e=>a.block k d (fun e=>Hm (h.drt k e))⟩).now0⟩)
theorem ChW.setDk (h:ChW w0 p w V m) {d q:Sli} (e:zc w w1) (i:w.heap.size<=B) (b:qL B w1 (Xi #[d.x,q.x]) r g) (f:w1.grownBy w2 (Xa p)) (c:zr w2 p 102 (chL { V with db:=d,dq:=q } { m with db:=r,dq:=g })):zeL w0 p w V { m with db:=r,dq:=g } w2:=
 h.fieldC (V':={ V with db:=d,dq:=q }) (m':={ m with db:=r,dq:=g }) e f rfl rfl rfl rfl rfl rfl c (fun W _ g a=>by
  have k:=(b.aY (fun k r=>Hm (h.drt k r)) g).rows
  exact⟨a.sl,a.sb,a.sq,k.1,k.2,a.fl⟩)
end
def wrM (m:Ma) (pg:List Int) (file idx:Int):Ma:=
 if zaO m.fl m.cnt file idx=0 then{ m with fl:=zh9 m.fl m.cnt file idx,cnt:=zlw m.fl m.cnt file idx,db:=jA m.db m.dq (zjg m.fl m.cnt file idx),dq:=jG m.db m.dq (zjg m.fl m.cnt file idx) pg }else m
theorem zed (a:ChW w0 k w V m) (pg:List Int) (hp:pg.length=8) (file idx:Int):
  Xp prog 204 #[Xj (Xa ⟨k,0,Xb⟩),Xi (pgc pg).toArray,I6 file,I6 idx] w fun e w'=>e= Xl (Xh (decide (zaO m.fl m.cnt file idx=0)))/\zeL w0 k w V (wrM m pg file idx) w':=by
 have t:=dD a;obtain⟨E,c⟩:=kA (zaO m.fl m.cnt file idx);obtain⟨C,q⟩:=kA (zlw m.fl m.cnt file idx);obtain⟨B,f⟩:=kA (zjg m.fl m.cnt file idx);have z:Xo (∀W,zc w W->Xp prog 207 #[Xi #[V.fl.x,I6 m.cnt],I6 file,I6 idx] W fun e w'=>∃b:Sli,e= Xl (Xm #[Xi #[b.x,I6 C],I6 B,I6 E])/\jR 0 W.heap.size w' (b.x) (zh9 m.fl m.cnt file idx)/\zc W w'):=show∀W,_ from fun W D=>by
  rw[<-c.out,<-q.out,<-f.out];refine(zjf _ m.fl m.cnt file idx W (a.at.aA D).fl).mono ?_;rintro e w' ⟨b,rfl,A,G⟩;obtain⟨d,H,rfl,_⟩:=qg.rows A.now0;exact⟨⟨d,_,H⟩,rfl,A,G⟩
 have s:Xo (E=0->wrM m pg file idx={({ m with fl:=zh9 m.fl m.cnt file idx,cnt:=C }:Ma)with db:=jA m.db m.dq B,dq:=jG m.db m.dq B pg }):=dD<|fun a=>by
  unfold wrM;rw[kE (c.trans a),q.out,f.out]
 have v:Xo (E≠0->wrM m pg file idx=m):=dD<|fun a=>by
  unfold wrM;rw[kF (fun e=>a (c.symm.trans e))]
 rw[c.out];obtain⟨R,c⟩:=kA (decide (E=0));rw[c.out];have F:k<w.heap.size:=a.bL k (.inl rfl);obtain⟨N,x⟩:=kA (wrM m pg file idx);rw[x.out]at s v⊢;obtain⟨g,h,i,j,p,l,n,r,d⟩:=zdL pg hp;have u:=dD d;have y:pgc pg=[U8 g,U8 h,U8 i,U8 j,U8 p,U8 l,U8 n,U8 r]:=Rr d;rw[y];clear a hp d y;obtain⟨b,f⟩:=kA w.heap.size;obtain⟨K,a⟩:=kB (w.alloc (Xk #[U8 g,U8 h,U8 i,U8 j,U8 p,U8 l,U8 n,U8 r] 44));have d:=gA a;have L:=xP a f;have y:=dD a;clear a;rw[f.out]at F;go_enter func204,ntmps204;go_upto_region 1 with fail;rw[y.out,f.out];have f:=(t.box.box.aA d).c 7 rfl;have y:=(t.box.box.aA d).c 8 rfl;have a:=z.out K d.out;go_wp2_with fail;refine a.mono ?_;clear a f y;rintro e F ⟨y,rfl,A,z⟩;have M:=dD A;have f:=dD z;clear A z;go_upto_region 2 with fail;obtain⟨H,q⟩:=kA F.heap.size;refine nW fun a a=>?_;have A:=gA a;have H:=xP a q;rw[q.out];clear a;by_cases a:E=0
 rotate_left
 ·have q:(E != 0)=Xc:=by simp[a]
  have F:=dD<|c.symm.trans (decide_eq_false a);have x:=dD<|v.out a;clear a;go_wp2;go_ret;exact⟨Rr F.out,by rw[x.out];exact zeL.refl t (d.trans (f.trans A))⟩
 have q:(E != 0)=Xd:=by simp[a]
 have F:=dD<|c.symm.trans (decide_eq_true a);have x:=dD<|s.out a;clear a;have c:=dD (d.trans (f.trans A));obtain⟨P,Q⟩:=H.k2;have a:=dD (t.box.aA c);go_upto_region 5 with(refine ZS rfl 37 (.tmp 30) (.tmp 27) rfl k 7 rfl (Xi #[y.x,I6 C]) rfl [y.x,I6 C] rfl a (by simp[chL]) Kr (by simp[Value.oneCell']) ?_)
 intro s v a _;have N:Xo (Box s b [U8 g,U8 h,U8 i,U8 j,U8 p,U8 l,U8 n,U8 r]):=dD<|(L.aA (f.trans A)).grown a Wm;obtain⟨f,K,y,L,H⟩:=t.setFl c (bS d) (M.aA A) a v;have Y:=dD K;have E:=dD y;have Z:=dD L;have X:=dD H;have T:Xo (∀W,zc s W->Xp prog 194 #[Xi #[f.db.x,f.dq.x],I6 B,Xi #[U8 g,U8 h,U8 i,U8 j,U8 p,U8 l,U8 n,U8 r]] W fun e w'=>∃d q:Sli,e= Xl (Xm #[Xi #[d.x,q.x],I6 (zm m.db.length m.dq B)])/\qL W.heap.size w' (Xi #[d.x,q.x]) (jA m.db m.dq B) (jG m.db m.dq B pg)/\zc W w'):=show∀W,_ from fun W D=>by
  have c:=zgC (Xi #[f.db.x,f.dq.x]) m.db m.dq B pg (Rr u.out) W ⟨_,_,rfl,(y.at.aA D).db,(y.at.aA D).dq⟩;rw[show pgc pg=[U8 g,U8 h,U8 i,U8 j,U8 p,U8 l,U8 n,U8 r] by rw[u.out];rfl]at c;refine c.mono ?_;rintro e w' ⟨c,rfl,c,G⟩;obtain⟨d,q,rfl,_,_⟩:=c.form;exact⟨d,q,rfl,c,G⟩
 have c:k<s.heap.size:=y.bL k (.inl rfl);clear v a y L H K P Q;try simp only[Yu]
 go_upto_region 5 with fail;obtain⟨S,a⟩:=kA (zm m.db.length m.dq B);rw[a.out]at T;obtain⟨a,c⟩:=Ww fun u=>Box u b [U8 g,U8 h,U8 i,U8 j,U8 p,U8 l,U8 n,U8 r];have t:=(c _).2 (N.aA (gW _));have A:zc s s.drew:=show Below _ _ _ from(bR _ _).drew;have H:=fun y:zg a=>((c _).1 y.holds).c 0 rfl;have K:=fun y:zg a=>((c _).1 y.holds).c 1 rfl;have L:=fun y:zg a=>((c _).1 y.holds).c 2 rfl;have M:=fun y:zg a=>((c _).1 y.holds).c 3 rfl;have N:=fun y:zg a=>((c _).1 y.holds).c 4 rfl;have P:=fun y:zg a=>((c _).1 y.holds).c 5 rfl;have Q:=fun y:zg a=>((c _).1 y.holds).c 6 rfl;have R:=fun y:zg a=>((c _).1 y.holds).c 7 rfl;have G:Nonempty (zg a):=⟨⟨_,t⟩⟩;refine zO (I:=a) 16 [(5,fun v=>v= Xi #[f.db.x,f.dq.x]),(8,fun v=>∃d q:Sli,v= Xm #[Xi #[d.x,q.x],I6 S]),(15,fun _=>True)] (fun u=>zc s u) t A z2 Kr rfl rfl Dc (Sc ⟨_,rfl⟩ ⟨_,zF,zF,rfl⟩ ⟨undef,trivial⟩) Kr ?_;simp only[Oi,Oj];iterate 2 refine zi ?_
 refine zU (.tmp 33) ⟨k,0,Xb⟩ rfl rfl rfl rfl ?_;refine Uq ?_;iterate 2 refine zi ?_
 refine zE rfl rfl (fun _ u=>zc s u) (fun w' b a=>?_) (fun U D=>?_)
 ·refine zbV 34 (.tmp 36) rfl k 5 rfl [f.db.x,f.dq.x] ((E.box.box.aA a).mid 5 (fun W v y=>by
   match W,y with
   | 0,y=>exact y
   | 1,y=>exact y)) underlying34 rfl Kr ⟨b,rfl,a⟩
 cases D;refine Uq ?_;iterate 2 refine zi ?_
 refine zE rfl rfl (fun v u=>∃(d q:Sli) (y:Xn),v= Xm #[Xi #[d.x,q.x],I6 S]/\zc s y/\zc y u/\qL y.heap.size u (Xi #[d.x,q.x]) (jA m.db m.dq B) (jG m.db m.dq B pg)) (fun w' b a=>?_) (fun U D=>?_);·refine zL.call [Xi #[f.db.x,f.dq.x],I6 B,Xi #[U8 g,U8 h,U8 i,U8 j,U8 p,U8 l,U8 n,U8 r]] rfl func194 rfl rfl rfl ?_;refine(T w' a).mono ?_;rintro e f ⟨d,q,rfl,f,z⟩;exact⟨_,rfl,(c _).2 (((c _).1 b).aA z),⟨d,q,rfl⟩,d,q,w',rfl,a,z,f⟩
 obtain⟨d,q,rfl⟩:=D;refine Uq ?_;iterate 3 refine zi ?_
 refine zU (.tmp 32) ⟨k,0,Xb⟩ rfl rfl rfl rfl ?_;refine Uq ?_;iterate 2 refine zi ?_
 refine zE rfl rfl (fun _ u=>zeL w0 k w V {({ m with fl:=zh9 m.fl m.cnt file idx,cnt:=C }:Ma)with db:=jA m.db m.dq B,dq:=jG m.db m.dq B pg } u) (fun w' b a=>?_) (fun U D=>?_)
 ·obtain⟨f,g,y,h,i,j,p⟩:=a;have a:f=d/\g=q:=by
   obtain⟨l,l,l⟩:=d;obtain⟨d,d,d⟩:=f;obtain⟨d,d,d⟩:=q;obtain⟨d,d,d⟩:=g;simp only[Value.tuple.injEq,Array.mk.injEq,List.cons.injEq,Value.agg.injEq,vJ,and_true]at h;obtain⟨⟨rfl,rfl,rfl⟩,rfl,rfl,rfl⟩:=h;exact⟨rfl,rfl⟩
  obtain⟨rfl,rfl⟩:=a;have h:=i.trans j;refine Zu 34 (.tmp 45) (.tmp 41) rfl k 5 rfl (Xi #[f.x,g.x]) rfl [f.x,g.x] rfl (E.box.aA h) (by simp[chL]) Kr (by simp[Value.oneCell']) ?_;intro f d a _;exact⟨(c _).2 (((c _).1 b).grown a Wm),trivial,zeL.step Z X Y (E.setDk h (bS i) p a d)⟩
 clear D;try simp only[Yu]
 refine qv fun f b a=>?_;have c:=dD a;clear b a t A H K L M N P Q R G;go_wp2;go_ret;exact⟨Rr F.out,Rx x.out c⟩
theorem zcD (h:ChW w0 k w V m) (f:Fr) (fi ix:Nat) (F:Fl) (hf:f.f=(fi:Int)) (hx:f.x=(ix:Int)) (hF:m.fl[fi]? =Xa F) (hs:0<=F.size/\F.size<=96) (hi:ix<=12):
  Xp prog 196 #[Xj (Xa ⟨k,0,Xb⟩),Xi (frv f).toArray] w fun e w'=>e= Xl (Xi (pgc (ZF (pgL f.p) (ix:Int) F.size)).toArray)/\(ZF (pgL f.p) (ix:Int) F.size).length=8/\zc w w':=by
 have HM:Xo (ChW w0 k w V m):=h;obtain⟨a,c,hfe,_,hfr⟩:=qg.rows h.at.fl;simp only[vJ]at hfe;obtain⟨hfa,hfn,hfc⟩:=hfe;obtain⟨ad,ha,xa,xc,_,hcl⟩:=hfr fi F hF;have HFA:Xo (V.fl.a=Xa ad):=hfa.trans ha;have hlt:(fi:Int)< (V.fl.n:Int):=by
  have:=(gS.1 hF).1;omega
 obtain⟨s,HSZ⟩:=kA F.size;rw[HSZ.out]at hs⊢;have HCC:Xo (∀W,zc w W->W.cell? (ad.add (fi*2))=Xa (I6 s)):=dD<|fun W hW=>by
  have:=(hcl W hW).1;rw[HSZ.out]at this;exact this
 have hc8:(ZF (pgL f.p) (ix:Int) s).length=8:=by unfold ZF;simp[pgL]
 have HC:Xo (∀W,Xp prog 162 #[Xi (pgc (pgL f.p)).toArray,I6 (s -(ix:Int)*8)] W fun e w'=>e= Xl (Xi (pgc (ZF (pgL f.p) (ix:Int) s)).toArray)/\zc W w'):=dD<|fun W=>by
  have p:=zdB (pgL f.p) (s -(ix:Int)*8) W rfl Wm Wm;rw[znb]at p;exact p.mono fun e w' q=>⟨q.1,q.2.2⟩
 obtain⟨c0,c1,c2,c3,c4,c5,c6,c7,hce⟩:=zdL _ hc8;rw[hce]at HC⊢;obtain⟨⟨b0,b1,b2,b3,b4,b5,b6,b7⟩,fr,fu,fd,ff,fx⟩:=f;dsimp only at hf hx;subst hf;subst hx;simp only[pgL,pgc,frv,mP,Ob]at HC⊢;have HL8:Xo ([c0,c1,c2,c3,c4,c5,c6,c7].length=8):=dD<|rfl;clear h hfa hfn hfc ha hcl hfr hF hc8 hce;obtain⟨b,HB⟩:=kA w.heap.size;obtain⟨W1,hW1⟩:=kB ((w.alloc (Xk #[U8 b0,U8 b1,U8 b2,U8 b3,U8 b4,U8 b5,U8 b6,U8 b7,I6 fr,Xh fu,Xh fd,I6 (fi:Int),I6 (ix:Int)] 53)).alloc (Xk #[U8 0,U8 0,U8 0,U8 0,U8 0,U8 0,U8 0,U8 0] 44));have G1:=gD2 hW1;have Y1:Xo (Box W1 b [U8 b0,U8 b1,U8 b2,U8 b3,U8 b4,U8 b5,U8 b6,U8 b7,I6 fr,Xh fu,Xh fd,I6 (fi:Int),I6 (ix:Int)]):=dD<|by rw[<-hW1];exact(Box.aE _ _ _ HB.symm).alloc _
 have Z1:Xo (zr W1 (b+1) 44 (pgc zt)):=dD<|by rw[<-hW1];exact zr.aE _ (pgc zt) _ (by simp[HB.out])
 have HW1:Xo (_=W1):=hW1;clear hW1;go_enter func196,ntmps196;go_upto_region 1 with fail;rw[HW1.out,HB.out];have gd:zc W1 W1.drew:=show Below _ _ _ from(bR _ _).drew;obtain⟨I,HI⟩:∃I:Xn->Prop,Xo (∀u,I u↔(Box u b [U8 b0,U8 b1,U8 b2,U8 b3,U8 b4,U8 b5,U8 b6,U8 b7,I6 fr,Xh fu,Xh fd,I6 (fi:Int),I6 (ix:Int)])/\u.cell? ⟨k,7,Xb⟩=Xa (O (Xa ad) V.fl.n V.fl.c)/\u.cell? (ad.add (fi*2))=Xa (I6 s)):=⟨fun u=>_,fun _=>Iff.rfl⟩;have x7:∀W,zc w W->W.cell? ⟨k,7,Xb⟩=Xa (O (Xa ad) V.fl.n V.fl.c):=fun W hW=>by
  have:=(HM.box.box.aA hW).c 7 rfl;rw[HFA.out]at this;exact this
 have X7:Xo (∀W,zc w W->W.cell? ⟨k,7,Xb⟩=Xa (O (Xa ad) V.fl.n V.fl.c)):=dD<|x7;clear x7;have hI0:I W1.drew:=(HI _).2 ⟨Y1.aA gd,X7 _ (G1.trans gd),HCC _ (G1.trans gd)⟩;have hF0:zc W1 W1.drew:=gd;have hy0:=fun y:zg I=>((HI _).1 y.holds).1.c 0 rfl;have hy1:=fun y:zg I=>((HI _).1 y.holds).1.c 1 rfl;have hy2:=fun y:zg I=>((HI _).1 y.holds).1.c 2 rfl;have hy3:=fun y:zg I=>((HI _).1 y.holds).1.c 3 rfl;have hy4:=fun y:zg I=>((HI _).1 y.holds).1.c 4 rfl;have hy5:=fun y:zg I=>((HI _).1 y.holds).1.c 5 rfl;have hy6:=fun y:zg I=>((HI _).1 y.holds).1.c 6 rfl;have hy7:=fun y:zg I=>((HI _).1 y.holds).1.c 7 rfl;have hyf:=fun y:zg I=>((HI _).1 y.holds).1.c 11 rfl;have hyx:=fun y:zg I=>((HI _).1 y.holds).1.c 12 rfl;have hyp:=fun y:zg I=>((HI _).1 y.holds).2.1;have hys:=fun y:zg I=>((HI _).1 y.holds).2.2;have hne:Nonempty (zg I):=⟨⟨_,hI0⟩⟩;refine zO (I:=I) 19 [(17,fun v=>v= Xi #[U8 c0,U8 c1,U8 c2,U8 c3,U8 c4,U8 c5,U8 c6,U8 c7]),(18,fun _=>True)] (fun u=>zc W1 u) hI0 hF0 z2 Kr rfl rfl Dc (Sb ⟨_,rfl⟩ ⟨undef,trivial⟩) Kr ?_;simp only[Oi,Oj];iterate 3 (refine z8 rfl rfl rfl (fun K hK=>?_);go_big_quiet_op;refine hK _ ?_;clear hK K)
 refine zU (.tmp 7) ⟨k,0,Xb⟩ rfl rfl rfl rfl ?_;simp only[Yu,sB,sS,sZ];iterate 13 (refine z8 rfl rfl rfl (fun K hK=>?_);go_big_quiet_op;refine hK _ ?_;clear hK K)
 refine zE rfl rfl (fun _ u=>zc W1 u) (fun w' hI' hF'=>?_) (fun v1 hv=>?_);·refine zL.call [Xi #[U8 b0,U8 b1,U8 b2,U8 b3,U8 b4,U8 b5,U8 b6,U8 b7],I6 (s -(ix:Int)*8)] rfl func162 rfl rfl rfl ?_;refine(HC w').mono ?_;rintro e w'' ⟨rfl,g2⟩;obtain⟨i1,i2,i3⟩:=(HI _).1 hI';have gg:=G1.trans (hF'.trans g2);exact⟨_,rfl,(HI _).2 ⟨i1.aA g2,X7 _ gg,HCC _ gg⟩,rfl,hF'.trans g2⟩
 subst hv;simp only[Yu,sB,sS,sZ];refine zE rfl rfl (fun _ u=>zc w u/\Box u (b+1) (pgc [c0,c1,c2,c3,c4,c5,c6,c7])) (fun w' hI' hF'=>?_) (fun v1 hv=>?_)
 ·refine Zu 44 (.tmp 4) (.tmp 22) rfl (b+1) 0 rfl (Xi #[U8 c0,U8 c1,U8 c2,U8 c3,U8 c4,U8 c5,U8 c6,U8 c7]) rfl [U8 c0,U8 c1,U8 c2,U8 c3,U8 c4,U8 c5,U8 c6,U8 c7] rfl (Z1.aA hF') (by simp[pgc,zt]) Kr (by simp[Value.oneCell']) ?_
  intro W9 bx9 gr9 _;have g9:zc w W9:=zd (G1.trans hF') gr9 (Hm HB.out);obtain⟨i1,i2,i3⟩:=(HI _).1 hI';exact⟨(HI _).2 ⟨i1.grown gr9 Wm,X7 _ g9,HCC _ g9⟩,trivial,g9,bx9.box⟩
 clear hv;try simp only[Yu]
 refine qv fun W9 hI8 hF8=>?_;have G9:Xo (zc w W9):=hF8.1;have B9:Xo (Box W9 (b+1) (pgc [c0,c1,c2,c3,c4,c5,c6,c7])):=hF8.2;clear hI8 hF8 hI0 hF0 hy0 hy1 hy2 hy3 hy4 hy5 hy6 hy7 hyf hyx hyp hys hne gd;go_wp2;refine bodyPost_ret (z7 rfl _ rfl B9 underlying44 rfl zrQ) rfl ⟨rfl,by first | trivial | rfl,G9⟩
theorem zoQ (n:ChW w0 k w V m) (p:Nat) (f:Fr) (ak:m.fs[p]? =Xa f) (fi ix:Nat) (F:Fl) (a1:f.f=(fi:Int)) (q:f.x=(ix:Int)) (ba:m.fl[fi]? =Xa F) (bg:0<=F.size/\F.size<=96) (hi:ix<=12):
  Xp prog 198 #[Xj (Xa ⟨k,0,Xb⟩),I6 (p:Int)] w fun e w'=>e= Xl (Xh (decide (zaO m.fl m.cnt fi ix=0)))/\zeL w0 k w V (wrM m (ZF (pgL f.p) (ix:Int) F.size) fi ix) w':=by
 have am:=dD n;have g:Xo (∀W,zc w W->Xp prog 196 #[Xj (Xa ⟨k,0,Xb⟩),Xi (frv f).toArray] W fun e w'=>e= Xl (Xi (pgc (ZF (pgL f.p) (ix:Int) F.size)).toArray)/\zc W w'):=show∀W,_ from fun W Z=>(zcD (n.aA Z) f fi ix F a1 q ba bg hi).mono fun e w' al=>⟨al.1,al.2.2⟩;have s:(ZF (pgL f.p) (ix:Int) F.size).length=8:=by unfold ZF;simp[pgL]
 obtain⟨a7,a5⟩:=kA (wrM m (ZF (pgL f.p) (ix:Int) F.size) fi ix);obtain⟨a8,a6⟩:=kA (decide (zaO m.fl m.cnt fi ix=0));have h:Xo (∀W,zc w W->Xp prog 204 #[Xj (Xa ⟨k,0,Xb⟩),Xi (pgc (ZF (pgL f.p) (ix:Int) F.size)).toArray,I6 (fi:Int),I6 (ix:Int)] W fun e w'=>e= Xl (Xh a8)/\zeL w0 k W V a7 w'):=dD<|fun W Z=>by
  rw[<-a5.out,<-a6.out];exact zed (n.aA Z) _ s (fi:Int) (ix:Int)
 rw[a5.out,a6.out];have v:¬Dw k V w.heap.size:=fun e=>absurd (n.bL _ e) Wm;obtain⟨cb,-⟩:=n.at.ns;obtain⟨c8,bc,bd⟩:=n.at.bA p f ak;have Q:=dD bc;have R:=dD bd;have be:(p:Int)< (V.f.n:Int):=by
  have:=(gS.1 ak).1;omega
 obtain⟨a9,aa,ab,ac,ae,af,ag,ah,a0⟩:=zdL _ s;rw[a0]at g h;obtain⟨⟨z,A,B,C,D,E,G,H⟩,L,M,K,c9,ca⟩:=f;dsimp only at a1 q;subst a1;subst q;simp only[pgc,frv,mP,Ob]at g h;have bw:=am.box.box.c 0 rfl;rw[Q.out]at bw;obtain⟨ap,aq,ar,au,av,aw,ax,ay,az,b8,S,T,U⟩:=R.out w (zc.refl _);dsimp only at ap aq ar au av aw ax ay az b8 S T U;go_enter func198,ntmps198;go_upto_region 2 with fail;obtain⟨c,P⟩:=kA w.heap.size;refine nW fun l j=>?_;have N:=gA j;have ao:=xPT j P;rw[P.out];rw[P.out]at v;have aj:zc l l.drew:=show Below _ _ _ from(bR _ _).drew;obtain⟨b,a⟩:=Ww fun u=>zr u c 53 [U8 z,U8 A,U8 B,U8 C,U8 D,U8 E,U8 G,U8 H,I6 L,Xh M,Xh K,I6 (fi:Int),I6 (ix:Int)];have r:=(a _).2 (ao.aA aj);have X:zc l l.drew:=aj;have bh:=fun y:zg b=>((a _).1 y.holds).box.c 0 rfl;have bi:=fun y:zg b=>((a _).1 y.holds).box.c 1 rfl;have bj:=fun y:zg b=>((a _).1 y.holds).box.c 2 rfl;have bk:=fun y:zg b=>((a _).1 y.holds).box.c 3 rfl;have bl:=fun y:zg b=>((a _).1 y.holds).box.c 4 rfl;have bm:=fun y:zg b=>((a _).1 y.holds).box.c 5 rfl;have bn:=fun y:zg b=>((a _).1 y.holds).box.c 6 rfl;have bo:=fun y:zg b=>((a _).1 y.holds).box.c 7 rfl;have br:=fun y:zg b=>((a _).1 y.holds).box.c 8 rfl;have bs:=fun y:zg b=>((a _).1 y.holds).box.c 9 rfl;have bp:=fun y:zg b=>((a _).1 y.holds).box.c 10 rfl;have bq:=fun y:zg b=>((a _).1 y.holds).box.c 11 rfl;have bt:=fun y:zg b=>((a _).1 y.holds).box.c 12 rfl;have bf:Nonempty (zg b):=⟨⟨_,r⟩⟩;refine zO (I:=b) 9 [(3,fun a3=>a3= Xi #[U8 a9,U8 aa,U8 ab,U8 ac,U8 ae,U8 af,U8 ag,U8 ah]),(8,fun a3=>a3= Xh a8)] (fun u=>zc l u) r X z2 Kr rfl rfl Dc (Sb ⟨_,rfl⟩ ⟨_,rfl⟩) Kr ?_;simp only[Oi,Oj];iterate 3 refine zi ?_
 refine zE rfl rfl (fun _ u=>zc l u) (fun w' i d=>?_) (fun bv a2=>?_);·refine zL.call [Xj (Xa ⟨k,0,Xb⟩),Xi #[U8 z,U8 A,U8 B,U8 C,U8 D,U8 E,U8 G,U8 H,I6 L,Xh M,Xh K,I6 (fi:Int),I6 (ix:Int)]] rfl func196 rfl rfl rfl ?_;refine(g w' (N.trans d)).mono ?_;rintro e a4 ⟨rfl,ai⟩;exact⟨_,rfl,(a _).2 (((a _).1 i).aA ai),rfl,d.trans ai⟩
 subst a2;refine Uq ?_;iterate 4 refine zi ?_
 refine zE rfl rfl (fun _ u=>zeL w0 k w V a7 u) (fun w' i d=>?_) (fun bv a2=>?_);·refine zL.call [Xj (Xa ⟨k,0,Xb⟩),Xi #[U8 a9,U8 aa,U8 ab,U8 ac,U8 ae,U8 af,U8 ag,U8 ah],I6 (fi:Int),I6 (ix:Int)] rfl func204 rfl rfl rfl ?_;refine(h w' (N.trans d)).mono ?_;rintro e a4 ⟨rfl,t⟩;have b9:=zeL.aH (N.trans d) t;obtain⟨bx,_,_,bu,_⟩:=t;exact⟨_,rfl,(a _).2 (((a _).1 i).chg bu v),rfl,b9⟩
 subst a2;refine Uq ?_;refine qv fun bz bb Y=>?_;have an:=dD Y;go_wp2;go_ret;exact⟨rfl,an⟩
theorem zqs (m:Ma) (pg) (file idx:Int):(wrM m pg file idx).fs=m.fs/\(wrM m pg file idx).aB=m.aB/\(wrM m pg file idx).ca=m.ca/\(wrM m pg file idx).sp=m.sp/\(wrM m pg file idx).sl=m.sl:=by grind [wrM]
theorem zlX (e x) (h:o.op= .load e x) (b c:Nat) (j:a.eval x= Xj (Xa ⟨b,c,Xb⟩)) (vs:List Xq) (f:w.rangeAt b c vs) {d:TypeDesc} (i:Tryz.prog.underlying e=Xa d) (g:d.isRow=Xc) (hi:(Tryz.prog.info? e).map (·.size)=Xa vs.length):(execOp a.eval o).run prog w= .ok (.value (Xi vs.toArray)) w:=by have:=run_loadAt_mid (P:=prog) w b c e vs d f i g hi;simp only[execOp,h,j,Yh,this,rA,Yk]
theorem zkn (f x) (i:o.op= .load f x) (b c:Nat) (j:a.eval x= Xj (Xa ⟨b,c,Xb⟩)) (v) (h:w.cell? ⟨b,c,Xb⟩=Xa v) {d:TypeDesc} (g:Tryz.prog.underlying f=Xa d) (e:d.isRow=Xd):(execOp a.eval o).run prog w= .ok (.value v) w:=by
 have e:(isAgg f).run prog w= .ok Xd w:=by
  unfold isAgg;rw[Yh,run_underlying g w];cases d <;> simp_all [TypeDesc.isRow]
 have g:(loadVar f ⟨b,c,Xb⟩).run prog w= .ok v w:=by simp[loadVar,Yh,e,h]
 simp only[execOp,i,j,Instr.loadAt,Instr.sureAddr,Yh,Yk,g,rA]
theorem zpB (h:k<8):Jv[k]? =Xa (eS):=by
 match k,h with
 | 0,_ | 1,_ | 2,_ | 3,_ | 4,_ | 5,_ | 6,_ | 7,_=>rfl
theorem zit (vs:List Xq) (t:List (List En)) (w) (C:JN w vs t):
  Xp prog 40 #[Xi vs.toArray,Xi #[eS,eS,eS,eS,eS,eS,eS,eS]] w fun e w'=>e= Xl (Xh (t.all (·.isEmpty)))/\zc w w':=by
 have T:=dD C;have z:=dD C.aJ;clear C;obtain⟨k,b⟩:=kA (t.all (·.isEmpty));rw[b.out];obtain⟨v,c⟩:=kB ((w.alloc (Xk vs.toArray 61)).alloc (Xk Jv.toArray 61));have m:=gD2 c;have M:=x2a c;have V:=x2b c;have A:=dD c;clear c;go_enter func40,ntmps40;go_upto_region 1 with fail;have R:(w.alloc (Xk vs.toArray 61)).alloc (Xk #[eS,eS,eS,eS,eS,eS,eS,eS] 61)=v:=A.out;rw[R];clear R;go_wp2;go_loopg [7] 8 (fun W I wr=>∃a:Nat,a<=8/\8 - a<=W/\I=I6 a/\Xo (zc v wr)/\Xo (∀(j:Nat) h,j<a->t[j]? =Xa h->h=[]))
 exact⟨0,nZ _,Wm,rfl,zc.refl _,fun j h r=>absurd r (nL _)⟩;obtain⟨a,X,a2,rfl,l,L⟩:=hrel;by_cases s:a<8
 ·have u:(a:Int)<8:=Wm
  obtain⟨a3,a4,S,P,i,Q⟩:=T.half s;have g:=Q.short;have K:=dD P;obtain⟨D,d⟩:=kA S.length;rw[d.out]at i g;have n:=dD i;clear Q P i;have G:=(M.aA l).c a n.out;have a0:=(V.aA l).c a (zpB s);by_cases p:D=0
  ·subst p;have B:Xo (∀(j:Nat) h,j<a+1->t[j]? =Xa h->h=[]):=dD<|fun j h r q=>by
    by_cases e:j=a;·subst e;rw[K.out]at q;cases q;exact eN d.out
    exact L j h Wm q
   go_wp2;go_quiet (fail);obtain⟨U,f⟩:=kB (wr.drewN nq);have H:Xo (zc v U):=dD (by rw[<-f];exact l.trans (show Below _ _ _ from bD (bR _ _) _));rw[f];clear f G a0;have G:=(M.aA H).c a n.out;go_wp2;go_loopg [23] 0 (fun a1 E F=>E=I6 0/\Xo (zc v F))
   exact⟨rfl,H⟩;obtain⟨rfl,x⟩:=hrel;clear G;go_wp2;go_roundg (8 -(a+1));exact⟨a+1,Wm,Wm,Gn,x,B⟩;omega
  have Y:((D:Int) != 0)=Xc:=by simp[p]
  have y:Xo (k=Xd):=dD<|by
   rw[<-b.out];cases e:t.all (·.isEmpty)with
   | false=>rfl
   | true=>
    have:=List.all_eq_true.1 e S (mG K);have N:=d.out;rw[List.isEmpty_iff]at this;rw[this]at N;exact absurd N.symm p
  have Z:(D != 0)=Xc:=by simp[p]
  clear p;go_wp2;go_quiet (fail);go_wp2;go_ret;exact⟨Rr y.out,m.trans (l.trans (show Below _ _ _ from bD (bR _ _) _))⟩
 have u:¬(a:Int)<8:=Wm;have y:Xo (k=Xc):=dD<|by
  rw[<-b.out,List.all_eq_true];intro h q;obtain⟨j,r⟩:=Xz q;rw[L.out j h (by have:=(gS.1 r).1;have:=z.out;omega) r];rfl
 go_wp2;go_ret;exact⟨Rr y.out,m.trans l⟩
theorem zdt (a) (c:Nat) (fs:List Fr) (h:Int) (w) (E:zp qx w (O a fs.length c) fs):
  Xp prog 73 #[Xi #[O a fs.length c,I6 h]] w fun e w'=>e= Xl (I6 (Zx fs h))/\zc w w':=by
 have x:=E.short;obtain⟨a1,a3,D,l⟩:=E.bA;cases D;have S:=dD l;clear l E;have t:Xo (Zx fs h=if 40<fs.length then 4 else if zck fs=0 then(if inB h (max fs.length 1)then 0 else 3)else zck fs):=rfl;obtain⟨n,C⟩:=kA fs.length;rw[C.out]at x t⊢;obtain⟨T,k⟩:=kB (w.alloc (Xk #[O a n c,I6 h] 28));have f:=gA k;have K:=xA k;have u:=dD k;clear k;by_cases j:40<n
 ·have v:=kC j
  go_enter func73,ntmps73;go_wp2;go_ret;exact⟨by rw[t.out,kE j];rfl,Rx u.out f⟩
 have v:=kD j;rw[kF j]at t;go_enter func73,ntmps73;go_wp2;rw[u.out];go_loopg [4,5,13] n (fun Y _ _ F wr=>∃b:Nat,b<=n/\n - b<=Y/\F=I6 b/\Xo (zc T wr)/\Xo (zck (fs.drop b)=zck fs))
 exact⟨0,nZ _,Wm,rfl,zc.refl _,rfl⟩;obtain⟨b,I,ah,rfl,i,B⟩:=hrel;by_cases s:b<n
 ·have A:=kC s
  obtain⟨q,H⟩:∃q,Xo (fs[b]? =Xa q):=⟨_,gE (Rx C.out s)⟩;obtain⟨a2,rfl,N⟩:=S.out b q H.out;obtain⟨a4,a5,a6,a7,a8,a9,aa,ab,ac,ae,U,V,X⟩:=N wr (f.trans i);have g:∀W,Xp prog 116 #[Xi #[U8 q.p.b0,U8 q.p.b1,U8 q.p.b2,U8 q.p.b3,U8 q.p.b4,U8 q.p.b5,U8 q.p.b6,U8 q.p.b7,I6 q.r,Xh q.u,Xh q.d,I6 q.f,I6 q.x]] W fun e w'=>e= Xl (I6 (frW q))/\zc W w':=fun W=>zb7 q W;have p:Xo (zck (fs.drop b)=if frW q=0 then zck (fs.drop (b+1))else frW q):=dD<|by
   obtain⟨z,rfl⟩:=gS.1 H.out;rw[Yo z];rfl
  clear N;generalize frW q=G at g p;by_cases m:G=0
  ·have Q:Xo (zck (fs.drop (b+1))=zck fs):=dD<|by rw[<-B.out,p.out,kE m]
   subst m;go_wp2_with (go_at_call 116;refine(g _).mono ?_;rintro e w' ⟨rfl,r⟩)
   go_roundg (n -(b+1));exact⟨b+1,Wm,Wm,Gn,(i.trans (za _ _)).trans r,Q⟩;omega
  have a0:(G != 0)=Xc:=Si m;have R:Xo (Zx fs h=G):=dD<|by
   have L:=B.out;rw[p.out,kF m]at L;rw[t.out,<-L,kF m]
  skip
  go_wp2_with (go_at_call 116;refine(g _).mono ?_;rintro e w' ⟨rfl,r⟩)
  go_ret;exact⟨Rr R.out,((f.trans i).trans (za _ _)).trans r⟩
 have A:=kD s;have:b=n:=Wm;subst this;obtain⟨af,ag⟩:=(K.aA i).k2;have m:zck fs=0:=by rw[<-B.out,List.drop_of_length_le (by rw[C.out];exact nR _)];rfl
 have d:Xo (Zx fs h=if inB h (max b 1)then 0 else 3):=dD<|by rw[t.out,kE m]
 clear m;by_cases y:h=0
 ·subst y;rw[show inB 0 (max b 1)=Xc from by simp[inB];omega,kE rfl]at d;go_wp2;go_ret;exact⟨Rr d.out,f.trans i⟩
 have M:(h != 0)=Xc:=by simp[y]
 by_cases P:h<0
 ·rw[show inB h (max b 1)=Xd from by simp[inB];omega,kF Dc]at d
  go_wp2;go_ret;exact⟨Rr d.out,f.trans i⟩
 by_cases Z:(b:Int)<=h
 ·rw[show inB h (max b 1)=Xd from by simp[inB];omega,kF Dc]at d
  go_wp2;go_ret;exact⟨Rr d.out,f.trans i⟩
 rw[show inB h (max b 1)=Xc from by simp[inB];omega,kE rfl]at d;go_wp2;go_ret;exact⟨Rr d.out,f.trans i⟩
theorem zfJ (a) (c:Nat) (s:List Int) (w) (B:zp slE w (O a s.length c) s):
  Xp prog 74 #[O a s.length c] w fun e w'=>e= Xl (I6 (slW s))/\zc w w':=by
 have m:Xo (slW s=if 60<s.length then 4 else if s.any zbk then 3 else 0):=rfl;have r:=B.short;obtain⟨P,R,A,h⟩:=B.sls;cases A;have F:=dD h;clear h B;obtain⟨n,x⟩:=kA s.length;rw[x.out]at m r⊢;by_cases f:60<n
 ·have p:=kC f
  have k:Xo (slW s=4):=dD<|by rw[m.out,kE f]
  skip
  go_enter func74,ntmps74;go_wp2;go_ret;exact⟨Rr k.out,zc.refl _⟩
 have p:=kD f;rw[kF f]at m;go_enter func74,ntmps74;go_wp2;go_loopg [4,10] n (fun G _ N wr=>∃b:Nat,b<=n/\n - b<=G/\N=I6 b/\Xo (zc w wr)/\Xo (∀j q,j<b->s[j]? =Xa q->zbk q=Xd))
 exact⟨0,nZ _,Wm,rfl,zc.refl w,fun j q t=>absurd t (nL _)⟩;obtain⟨b,L,T,rfl,l,C⟩:=hrel;by_cases i:b<n
 ·have u:=kC i
  obtain⟨q,y⟩:∃q,Xo (s[b]? =Xa q):=⟨_,gE (Rx x.out i)⟩;obtain⟨Q,rfl,D⟩:=F.out b q y.out;have S:=D wr l.out;clear D;by_cases g:zbk q=Xc
  ·have k:Xo (slW s=3):=dD<|by rw[m.out,zpg y.out g];rfl
   skip
   by_cases H:q<0;·clear g;go_wp2;go_ret;exact⟨Rr k.out,l⟩
   have K:1000<q:=(by simp[zbk]at g;omega);clear g;go_wp2;go_ret;exact⟨Rr k.out,l⟩
  have v:zbk q=Xd:=Si g;have E:Xo (∀(j:Nat) q,j<b+1->s[j]? =Xa q->zbk q=Xd):=dD<|fun j M t d=>by
   by_cases e:j=b;·subst e;rw[y.out]at d;cases d;exact v
   exact C j M Wm d
  have H:¬q<0:=by intro z;exact g (by simp[zbk,z])
  have K:¬1000<q:=by intro z;exact g (by simp[zbk,z])
  clear g v;go_wp2;go_roundg (n -(b+1));exact⟨b+1,Wm,Wm,Gn,l,E⟩;omega
 have u:=kD i;have:b=n:=Wm;subst this;have k:Xo (slW s=0):=dD<|by
  rw[m.out,zpf (fun j q t=>C.out j q (by rw[<-x.out];exact(gS.1 t).1) t)];rfl
 go_wp2;go_ret;exact⟨Rr k.out,l⟩
def bov (b:Bool):List Xq:=[Xh b]
theorem zrU:(Tryz.prog.info? 4).map (fun i=>(i.zero,i.size,i.bytes))=Xa (Xa (Xh Xd),1,1):=by kernel_rfl
def boE:Elt Bool where
 enc:=bov
 k:=1
 ty:=4
 st:=153
 bytes:=1
 zv:= Xh Xd
 zero:=false
 len:=fun _=>rfl
 one:=fun a u hu=>by
  simp only[bov,mC,nM,or_false]at hu;subst hu;rfl
 bH:=underlying153
 aD:=zrU
 zok:=rfl
 few:=by decide
 pos:=by decide
def J2 (n:Nat) (g:List Int):List Bool:=(Yr n).map fun(i:Nat)=>g.contains (i:Int)
theorem zjF (g:List Int) (hi:b<k):(J2 k g)[b]? =Xa (g.contains (b:Int)):=by unfold J2;rw[Yg,List.getElem?_range hi];rfl
theorem zhj (n:Nat) (g):(J2 n g).length=n:=by simp[J2]
theorem zmi (g) (hi:b<k):(J2 k g).set b Xc=J2 k ((b:Int) :: g):=by apply Xy;grind [sF,zhj,zjF,sN,Nat.lt_or_ge,gN]
theorem zmj (n:Nat):J2 n []=Xr n Xd:=by unfold J2;simp[List.map_const']
theorem zfh {l:List On} (y:On) (h:j<l.length):splice (zB l) (j*6) (onv y)=zB (l.set j y):=Jc (enc:=onv) (k:=6) y rfl l j (fun _ _=>rfl) h
theorem ZX {l:List On} {e:On} (h:l[j]? =Xa e) (i:Nat) (u) (a:(onv e)[i]? =Xa u):(zB l)[j*6+i]? =Xa u:=qM (enc:=onv) (k:=6) l j e (fun _ _=>rfl) h i u a
theorem jU (f:Nat->On):(zB (tab f)).length=384:=by rw[zlk,Q0]
theorem zeN {c:Oper} (d:c.guard=Xb) (p x) (i:c.op= .store 67 p x) (b k:Nat) (g:k<64) (hp:a.eval p= Xj (Xa ⟨b,k*6,Xb⟩)) (y:On) (j:a.eval x= Xi (onv y).toArray)
  {f:Nat->On} (e:Box w b (zB (tab f)))
  (h:∀w',Box w' b (zB (tab (upd f k y)))->w.grownBy w' (Xa b)->w'.heap.size=w.heap.size->wpList prog ops Q K (a.put c.dst undef) w'):wpList prog ops Q (c :: K) a w:=by refine zih d 67 p x i b (k*6) hp (onv y) j e (by rw[jU];show _+6<=_;omega) zrH (zl7 y) fun w' c d e=>h w' ?_ d e;rw[zfh y (Rx Q0 g),zip]at c;exact c
theorem Box.onCell (h:Box w b (zB (tab F))) (d:k<64) (i:Nat) (u) (y:On) (c:(onv (F k)).set i u=onv y) (hi:i<6):Box (w.setCell ⟨b,k*6+i,Xb⟩ u) b (zB (tab (upd F k y))):=by
 have a:=h.set (k*6+i) u;have:(zB (tab F)).set (k*6+i) u=zB (tab (upd F k y)):=by
  rw[<-zip,<-zfh y (Rx Q0 d),<-c];have c:=jU F;apply Xy;intro j;unfold splice;have c:((onv (F k)).set i u).length=6:=by simp[onv]
  rw[c];by_cases a:j<k*6;·grind
  have a:((zB (tab F)).take (k*6)).length=k*6:=by simp;omega
  rw[aR Wm,a];by_cases a:j<k*6+6
  ·rw[Yy (by rw[c];omega)]
   have a:∀a,a<6->(zB (tab F))[k*6+a]? =(onv (F k))[a]?:=fun a c=>by
    obtain⟨v,e⟩:∃v,(onv (F k))[a]? =Xa v:=⟨_,gE (by simpa [onv]using c)⟩;rw[e];exact ZX (J9 d) a v e
   grind
  grind
 grind
theorem zhE (a:vs.length=b) (h:∀(i:Nat) u,vs[i]? =Xa u->D[k+i]? =Xa u):D.toArray.extract k (k+b)=vs.toArray:=by apply Array.ext_getElem?;grind
theorem znV (i:Nat) (hi:i<64):(Instr.index 68 (Xi (zB (tab F)).toArray) (I6 (i:Int))).run prog w= .ok (Xi (onv (F i)).toArray) w:=by
 have e:(isAgg 67).run prog w= .ok Xc w:=by
  unfold isAgg;rw[Yh,run_underlying underlying67 w];rfl
 have g:(Go.sizeOf 67).run prog w= .ok 6 w:=by
  obtain⟨a,c,d⟩:∃a,Tryz.prog.info? 67=Xa a/\a.size=6:=by
   have:=zrH;cases b:Tryz.prog.info? 67 with
   | none=>rw[b]at this;cases this
   | some a=>rw[b]at this;exact⟨a,rfl,by simpa using this⟩
  simp[Go.sizeOf,typeInfo,c,d]
 have a:(0:Int)<=(i:Int)/\(i:Int)< ((64:Nat):Int):=Wm;have c:(zB (tab F)).toArray.extract (i*6) (i*6+6)=(onv (F i)).toArray:=zhE rfl fun j u b=>ZX (J9 hi) j u b;simp only[Instr.index,asIntOf,Yh,Yk,rA,run_underlying underlying68];rw[kE a];simp only[Yh,g,rA,part,e,if_true,tN,Yk,c]
theorem zpk (b:o.guard=Xb) (x ix) (d:o.op= .index 68 x ix) (f:Nat->On) (e:a.eval x= Xi (zB (tab f)).toArray) (i:Nat) (c:a.eval ix=I6 (i:Int)) (hi:i<64)
  (h:wpList prog ops Q K (a.put o.dst (Xi (onv (f i)).toArray)) w):wpList prog ops Q (o :: K) a w:=by refine wpList_plain b fun rest b=>?_;unfold Oper.wp execOp;simp only[d,e,c,Yh,Yk,rA,znV i hi];exact b _ _ h
theorem zfx (b:o.guard=Xb) (x ix) (d:o.op= .index 68 x ix) (f:Nat->On) (g:a.eval x= Xi (zB (tab f)).toArray) (i:Nat) (c:a.eval ix=I6 (i:Int)) (hi:i<64) (e: Xi (onv (f i)).toArray=A)
  (h:wpList prog ops Q K (a.put o.dst A) w):wpList prog ops Q (o :: K) a w:=zpk b x ix d f g i c hi (Rx e h)
theorem zlG (c:o.guard=Xb) (x) (g:o.op= .load 67 x) (b k:Nat) (e:k<64) (i:a.eval x= Xj (Xa ⟨b,k*6,Xb⟩)) (d:Box w b (zB (tab F)))
  (h:wpList prog ops Q K (a.put o.dst (Xi (onv (F k)).toArray)) w):wpList prog ops Q (o :: K) a w:=
 wpList_load_mid c 67 x g b (k*6) i (onv (F k)) _ (d.mid _ fun j u c=>ZX (J9 e) j u c) underlying67 rfl zrH h
theorem zeO (c:o.guard=Xb) (x) (g:o.op= .load 67 x) (b k:Nat) (e:k<64) (j:a.eval x= Xj (Xa ⟨b,k*6,Xb⟩)) (d:Box w b (zB (tab F))) (i: Xi (onv (F k)).toArray=A)
  (h:wpList prog ops Q K (a.put o.dst A) w):wpList prog ops Q (o :: K) a w:=zlG c x g b k e j d (Rx i h)
theorem zq2:(Tryz.prog.info? 68).map (·.zero)=Xa (Xa (Xi (zB (tab fun _=>on0)).toArray)):=by kernel_rfl
theorem zbt (w):(zeroValue 68).run prog w= .ok (Xi (zB (tab fun _=>on0)).toArray) w:=by
 have h:=zq2;cases a:Tryz.prog.info? 68 with
 | none=>simp[a]at h
 | some i=>
  simp[a]at h;simp[zeroValue,typeInfo,a,h]
def zqD (f:Nat->On):Nat->Ar:=fun n=>zaV n (f n)
def zkz (l:List Ar) (i:Nat) (a:Ar) (n:Nat):Nat->On:=fun j=>if a.fr<=(j:Int)/\(j:Int)< (n:Int)then z5 a j else zo (l.take i) j
theorem QM.take:∀{l:List Ar} {p:Option Ar},QM p l->∀i,QM p (l.take i)
 | [],_,_,i=>by simp[QM]
 | a :: l,p,h,0=>by simp[QM]
 | a :: l,p,h,i+1=>⟨h.1,h.2.1,h.2.2.take i⟩
theorem QM.free (h:QM Xb l) (d:l[k]? =Xa C) (b:C.fr<=(j:Int)):zo (l.take k) j=on0:=by
 refine zbB fun x c=>zem ?_;have b:=h.take (k+1);rw[jB d]at b;obtain⟨d,e,f⟩:=zav.1 b;cases b:zak Xb (l.take k)with
 | none=>
  unfold zak at b;cases e:l.take k with
  | nil=>rw[e]at c;cases c
  | cons y g=>rw[e]at b;simp[List.getLast?_cons]at b
 | some y=>
  have q:=(f y b).1;have e:q4 y:=d.all y (by grind [zak,List.mem_of_getLast?]);unfold q4 at e;rcases zfV _ Xb d x c y b with e|e;·grind
  omega
theorem zmg (n:(b:Int)=C.fr):zkz l k C b=zo (l.take k):=by funext j;unfold zkz;rw[kF Wm]
def zqq (l:List Ar):Prop:=(∀a∈l,q4 a)/\∀(i:Nat) a,l[i]? =Xa a->∀j:Nat,a.fr<=(j:Int)->zo (l.take i) j=on0
theorem QM.lies (h:QM Xb l):zqq l:=⟨h.all,fun _ _ a _ b=>h.free a b⟩
theorem zol {a:Ar} (d:q4 C) (c:q4 a) (e:C.tz<=a.fr):zqq [C,a]:=by
 refine⟨fun x c=>?_,fun i x c j c=>?_⟩;·grind
 grind [zo,on0,zbA]
theorem zom (b:q4 C):zqq [C]:=by
 refine⟨fun x b=>?_,fun i x b j c=>?_⟩;·grind
 match i with
 | 0=>rfl
 | k+1=>simp at b
theorem zmh {i:Nat} {a:Ar} {n:Nat} (b:a.fr<=(n:Int)):upd (zkz l i a n) n (z5 a n)=zkz l i a (n+1):=by grind [upd,zkz]
theorem zoe (h:zqq l) (c:l[k]? =Xa C) (n:(b:Int)=C.tz):zkz l k C b=zo (l.take (k+1)):=by
 funext j;unfold zkz;rw[jB c,zah]
 ·by_cases n:C.fr<=(j:Int)/\(j:Int)< (b:Int)
  ·rw[kE n,kE (qK.2 Wm)]
  rw[kF n,kF (fun d=>n (Hm (qK.1 d)))]
 by_cases n:C.fr<=(j:Int);·exact .inl (h.2 k C c j n)
 grind [zem]
theorem zpm (f:Nat->α) (k:Nat) (x y:α):upd (upd f k x) k y=upd f k y:=by grind [upd]
theorem ZJ (v l w) (f:zp arE w v l) (c:zqq l):
  Xp prog 16 #[v] w fun e w'=>e= Xl (Xi (zB (tab (zo l))).toArray)/\zc w w':=by
 have d:=f.short;obtain⟨b,b,rfl,b⟩:=f.aC;have h:=dD b;have u:=dD c;clear b f c;have g:=zbt;obtain⟨j,c⟩:=kA (zB (tab fun _=>on0));rw[c.out]at g;have y:Xo (j.length=384):=dD<|by rw[<-c.out,jU]
 obtain⟨E,G⟩:=kA (zB (tab (zo l)));rw[G.out];obtain⟨r,N⟩:=kA l.length;rw[N.out]at d⊢;obtain⟨f,b⟩:=kB ((w.alloc (Xk j.toArray 68)).alloc (Xk j.toArray 68));have d:=gD2 b;have m:Xo (Box f w.heap.size j):=dD<|by rw[<-b];exact(Box.aE _ _ _ Sm).alloc _
 have k:Xo (Box f (w.heap.size+1) (zB (tab (zo (l.take 0))))):=dD<|by rw[<-b,List.take_zero,show zo ([]:List Ar)=fun _=>on0 from rfl,c.out];exact Box.aE _ _ _ Sm
 have c:=dD b;clear b;go_enter func16,ntmps16;go_upto_region 2 with fail;rw[c.out];clear g;go_wp2;go_loopg [9] r (fun b f wr=>∃c:Nat,c<=r/\r - c<=b/\f=I6 c/\Xo (zc w wr)/\Xo (Box wr w.heap.size j)/\Xo (Box wr (w.heap.size+1) (zB (tab (zo (l.take c))))))
 exact⟨0,nZ _,Wm,rfl,d,m,k⟩;obtain⟨c,b,K,rfl,M,W,R⟩:=hrel;by_cases p:c<r
 ·have D:=kC p
  obtain⟨q,P⟩:∃q,Xo (l[c]? =Xa q):=⟨_,gE (Rx N.out p)⟩;obtain⟨b,rfl,f⟩:=h.out c q P.out;obtain⟨x,z,A,B,C,F,H⟩:=f wr M.out;have b:=dD<|u.1 q (mG P);have d:0<=q.fr/\q.fr<q.tz/\q.tz<=64/\0<=q.base/\q.base<=12:=by
   have:=b.out;unfold q4 at this;rcases Int.lt_or_le q.file 0 with h|h;·omega
   omega
  obtain⟨b,b,b,b,b⟩:=d;obtain⟨L,d⟩:=kA wr.heap.size;have t:Xo (w.heap.size+1<L):=dD<|Ry d.out R.lt;clear f;go_upto_region 5 with fail;obtain⟨h,b⟩:=kB (wr.alloc (Xk #[I6 q.fr,I6 q.tz,Xh q.rd,Xh q.wr,Xh q.sh,I6 q.file,I6 q.base] 77));have k:=gT b M;have s:=yA b W;obtain⟨f,g⟩:∃f:Nat,(f:Int)=q.fr:=⟨q.fr.toNat,Wm⟩;have m:Xo (Box h (w.heap.size+1) (zB (tab (zkz l c q f)))):=dD (by rw[<-b,zmg g];exact R.alloc _);have h:=xP b d;rw[b,d.out];clear b x z A B C F H;have S:=h.c 0 rfl;go_wp2;go_loopg [6] (q.tz.toNat - f) (fun x z d=>∃b:Nat,f<=b/\(b:Int)<=q.tz/\q.tz.toNat - b<=x/\z=I6 b/\Xo (zc w d)/\Xo (Box d w.heap.size j)/\Xo (Box d (w.heap.size+1) (zB (tab (zkz l c q b))))/\Xo (Box d L [I6 q.fr,I6 q.tz,Xh q.rd,Xh q.wr,Xh q.sh,I6 q.file,I6 q.base]))
  exact⟨f,nR _,Wm,Wm,by rw[g],k,s,m,h⟩;obtain⟨b,d,d,d,rfl,s,B,z,d⟩:=hrel;clear S;have Q:=d.c 1 rfl;by_cases f:(b:Int)<q.tz
  ·have h:b<64:=Wm
   have f:(b:Int)<64:=Wm;have x:Xo (upd (zkz l c q b) b (z5 q b)=zkz l c q (b+1)):=zmh (l:=l) (i:=c) (a:=q) (n:=b) Wm;obtain⟨_,_,f,X,Y,T⟩:=d.k6;go_wp2_with (refine zeN rfl (.tmp 31) (.tmp 30) rfl (w.heap.size+1) b h rfl ⟨Xc,q.rd,q.wr,q.sh,q.file,0⟩ rfl z.out ?_)
   intro k C m U;have H:=dD C;have F:Xo (zc w k):=zd s m Sm;have V:Xo (Box k w.heap.size j):=B.beside m (by intro g K;cases K;simp);have A:Xo (Box k L [I6 q.fr,I6 q.tz,Xh q.rd,Xh q.wr,Xh q.sh,I6 q.file,I6 q.base]):=d.beside m (by intro g K;cases K;have:=t.out;omega);clear C m U Q f X Y T;have T:=A.c 5 rfl;by_cases g:0<=q.file
   ·have f:Xo (z5 q b=⟨Xc,q.rd,q.wr,q.sh,q.file,q.base+(b:Int) - q.fr⟩):=dD<|by
     unfold z5;rw[kE g];congr 1;omega
    have S:=A.c 0 rfl;have I:=A.c 6 rfl;have Y:=H.c (b*6+5) (ZX (J9 h) 5 (I6 0) (by unfold upd;rw[kE rfl];rfl));have Z:=H.f;go_upto_region 7 with fail;obtain⟨K,d⟩:=kB (k.setCell ⟨w.heap.size+1,b*6+5,Xb⟩ (I6 (q.base+(b:Int) - q.fr)));have Q:Xo (Box K (w.heap.size+1) (zB (tab (zkz l c q (b+1))))):=dD<|by
     rw[<-d];have:=H.onCell h 5 (I6 (q.base+(b:Int) - q.fr)) (z5 q b) (by rw[f.out];unfold upd;rw[kE rfl];rfl) Wm;rw[zpm,x.out]at this;exact this
    have h:Xo (zc w K):=dD (by rw[<-d];exact zJ F Sm _);have X:Xo (Box K w.heap.size j):=dD (by rw[<-d];exact V.other Sm _);have j:Xo (Box K L [I6 q.fr,I6 q.tz,Xh q.rd,Xh q.wr,Xh q.sh,I6 q.file,I6 q.base]):=dD (by rw[<-d];exact A.other (by have:=t.out;simp;omega) _);rw[d];clear d Y Z S T I;go_wp2;go_roundg (q.tz.toNat -(b+1));exact⟨b+1,Wm,Wm,Wm,Gn,h,X,Q,j⟩;omega
   have f:Xo (z5 q b=⟨Xc,q.rd,q.wr,q.sh,q.file,0⟩):=dD<|by
    unfold z5;rw[kF g]
   have Q:Xo (Box k (w.heap.size+1) (zB (tab (zkz l c q (b+1))))):=dD (by rw[<-x.out,f.out];exact H.out);go_wp2;go_roundg (q.tz.toNat -(b+1));exact⟨b+1,Wm,Wm,Wm,Gn,F,V,Q,A⟩;omega
  have f:(b:Int)=q.tz:=Wm;have d:Xo (Box wr (w.heap.size+1) (zB (tab (zo (l.take (c+1)))))):=dD (by rw[<-zoe u.out P.out f];exact z.out);go_wp2;go_roundg (r -(c+1));exact⟨c+1,Wm,Wm,Gn,s,B,d⟩;omega
 have D:=kD p;have:c=r:=Wm;subst this;have d:Xo (Box wr (w.heap.size+1) E):=dD<|by rw[<-G.out];have:=R.out;rw[<-N.out,List.take_length]at this;exact this
 have b:Xo (E.length=384):=dD<|by rw[<-G.out,jU]
 have c:Xo (∀v∈E,v.oneCell'=Xc):=dD<|by rw[<-G.out];exact Jp _
 go_wp2_with (first | refine zC rfl 68 (.tmp 3) rfl (w.heap.size+1) rfl d underlying68 rfl (Rx b.out zrI) ?_ | refine zw rfl 68 (.tmp 2) (.tmp 46) rfl w.heap.size rfl E rfl W (by rw[b.out,y.out]) (Rx y.out zrI) c.out ?_)
 intro k C m U;have F:Xo (zc w k):=dD<|zd M m Sm;have c:=dD C;clear C m U;go_wp2;refine bodyPost_ret (z7 rfl _ rfl c underlying68 rfl (Rx b.out zrI)) rfl ⟨rfl,F⟩
theorem zn3 (h:(F k).is=Xc):zqD F k=⟨k,(k:Int)+1,(F k).rd,(F k).wr,(F k).sh,(F k).file,(F k).page⟩:=by unfold zqD zaV;rw[kE h]
theorem zqN (x y:On):zn7 ⟨y.is,y.rd,y.wr,y.sh,y.file,if 0<=x.file then y.page+1 else y.page⟩ x=goJ x y:=by grind [zn7,goJ]
theorem zcu (f:Nat->On) (w:Xn) (I:zjo f):
  Xp prog 117 #[Xi (zB (tab f)).toArray] w fun e w'=>(∃v,e= Xl v/\zb arE (w.heap.size+1) w' v (QB f))/\zc w w':=by
 have K:=dD I;clear I;have be:Xo ((zB (tab f)).length=384):=jU _;obtain⟨Z,U⟩:=kB (w.alloc (Xk (zB (tab f)).toArray 68));have bf:=gA U;have b3:=xA U;have r:=sA U;have bj:Xo (_=Z):=U;clear U;go_enter func117,ntmps117;go_upto_region 1 with fail;rw[bj.out];go_wp2_with (refine zC rfl 68 (.tmp 1) rfl w.heap.size rfl b3 underlying68 rfl (Rx be.out zrI) ?_)
 go_loopg [3,9] 64 (fun cb ci cj wr=>∃(b:Nat) (a:List Ar) (a4:Option Addr) (C:Nat),b<=64/\64 - b<=cb/\cj=I6 b/\ci= O a4 a.length C/\Xo (zc Z wr)/\Xo (zb arE (w.heap.size+1) wr (O a4 a.length C) a)/\Xo (J f b a))
 exact⟨0,[],Xb,0,nZ _,Wm,rfl,rfl,zc.refl _,zb.nil _ _ _,J.zero f⟩;obtain⟨b,a,a4,C,cf,cc,rfl,rfl,ar,bp,aj⟩:=hrel;by_cases X:b<64
 ·have b5:(b:Int)<64:=Wm
  have q:=dD aj.len;have ca:=dD (b3.aA ar);obtain⟨ab,bg⟩:=kA wr.heap.size;have bh:Xo (wr.heap.size<=ab):=show _<=_ by rw[bg.out];exact nR _
  cases ak:(f b).is with
  | false=>
   have a1:Xo (Value.agg (onv (f b)).toArray= Xi #[Xh Xd,Xh (f b).rd,Xh (f b).wr,Xh (f b).sh,I6 (f b).file,I6 (f b).page]):=dD (by rw[<-ak];rfl);have Q:=dD<|aj.skip ((K b X).1 ak);clear ak;go_wp2_with (refine zfx rfl (.tmp 8) (.tmp 9) rfl f rfl b rfl X a1.out ?_)
   go_roundg (64 -(b+1));exact⟨b+1,a,a4,C,Wm,Wm,Gn,rfl,ar.trans (za _ _),bp.aA (za _ _),Q⟩;omega
  | true=>
   have az:=dD ak;have ah:Xo (zaV b (f b)=⟨b,(b:Int)+1,(f b).rd,(f b).wr,(f b).sh,(f b).file,(f b).page⟩):=zn3 ak;have N:Xo ((∀c,a.getLast? =Xa c->goB (zaV b (f b)) c=Xd)->J f (b+1) (a++ [zaV b (f b)])):=fun a3=>aj.new K X az a3;have a7:Xo (∀c0 c,a=c0++ [c]->goB (zaV b (f b)) c=Xc->J f (b+1) (c0++ [{ c with tz:=(b:Int)+1 }])):=fun c0 c T ap=>by
    have:=aj.out;rw[T]at this;exact this.ext K X az ap
   have a1:Xo (Value.agg (onv (f b)).toArray= Xi #[Xh Xc,Xh (f b).rd,Xh (f b).wr,Xh (f b).sh,I6 (f b).file,I6 (f b).page]):=dD (by rw[<-ak];rfl);clear ak;obtain⟨x,H⟩:=kA (f b);rw[H.out]at a1;have av:Xo (Value.agg (onv (f b)).toArray= Xi #[Xh Xc,Xh x.rd,Xh x.wr,Xh x.sh,I6 x.file,I6 x.page]):=dD<|Rx H.out a1.out;go_upto_region 5 with(refine zfx rfl (.tmp 8) (.tmp 9) rfl f rfl b rfl X av.out ?_)
   obtain⟨b1,F⟩:=kB (wr.alloc (Xk #[Xh Xc,Xh x.rd,Xh x.wr,Xh x.sh,I6 x.file,I6 x.page] 67));have bc:=gT F ar;have bm:Xo (zb arE (w.heap.size+1) b1 (O a4 a.length C) a):=dD (by rw[<-F];exact bp.aA (za _ _));have a8:=xP F bg;have c9:=yA F ca;rw[F,bg.out];clear F;have c4:=a8.c 0 rfl;cases b with
   | zero=>
    have aw:=dD aj.first;have Q:Xo (J f (0+1) (a++ [⟨((0:Nat):Int),((0:Nat):Int)+1,x.rd,x.wr,x.sh,x.file,x.page⟩])):=show J _ _ _ by
     have:=N.out (fun c aq=>by rw[aw.out]at aq;cases aq);rw[ah.out,H.out]at this;exact this
    go_upto_region 14 with fail;clear c4;have g:Xo (w.heap.size+1<=b1.heap.size):=dD (by rw[<-r.out];exact bS bc.out);obtain⟨_,b8,b9,ba,ac,bb⟩:=a8.k6;go_wp2_with (at_builtin;refine zy (E:=arE) rfl (.tmp 41) (.tmp 56) rfl (w.heap.size+1) _ a rfl (bm.aA (za _ _)) _ [⟨((0:Nat):Int),((0:Nat):Int)+1,x.rd,x.wr,x.sh,x.file,x.page⟩] rfl (jZ arE b1 ⟨((0:Nat):Int),((0:Nat):Int)+1,x.rd,x.wr,x.sh,x.file,x.page⟩ _ _ rfl (by show 40<=_;omega)) ?qb ?qc ?_)
    case qb=>
     show(a.length+1)*40<=_;have:=q.out;omega
    case qc=>first | exact g.out | exact nT g (Oh _) | (have:=g.out;omega) | (simp;have:=g.out;omega)
    intro c5 a9 own s;obtain⟨u,z,rfl⟩:=own.form;have R:Xo (zb arE (w.heap.size+1) a9 (.slice u (a++ [(⟨((0:Nat):Int),((0:Nat):Int)+1,x.rd,x.wr,x.sh,x.file,x.page⟩:Ar)]).length z) (a++ [⟨((0:Nat):Int),((0:Nat):Int)+1,x.rd,x.wr,x.sh,x.file,x.page⟩])):=own;have a6:Xo (zc Z a9):=show zc _ _ from zY (bc.trans (za _ _)) s (fun n I=>by
     have T:=(bm.lt n I).1;rw[r.out];exact T)
    have c3:=dD (b3.aA a6);clear own s b8 b9 ba ac bb;go_wp2;go_roundg (64 -(0+1));exact⟨0+1,a++ [(⟨((0:Nat):Int),((0:Nat):Int)+1,x.rd,x.wr,x.sh,x.file,x.page⟩:Ar)],u,z,Wm,Wm,Gn,rfl,a6,R,Q⟩;omega
   | succ j=>
    have aa:j<64:=Wm;have bt:(j:Int)<64:=Wm;have ce:(0:Int)< ((j+1:Nat):Int):=Wm;have cd:((j+1:Nat):Int) - 1=(j:Int):=Wm;have au:=aj.go az.out;obtain⟨y,bk⟩:=kA (f j);have bz:0<=y.page/\y.page<=12:=by
     rw[<-bk.out];have T:=K.out j aa;cases bx:(f j).is with
     | false=>rw[T.1 bx];exact⟨Dc,Dc⟩
     | true=>
      have ap:=T.2 bx;unfold q4 zaV at ap;rw[kE bx]at ap;simp only at ap;rcases Int.lt_or_le (f j).file 0 with a3|a3;·omega
      omega
    obtain⟨cg,ch⟩:=bz;have bl:Xo (Value.agg (onv (f j)).toArray= Xi #[Xh y.is,Xh y.rd,Xh y.wr,Xh y.sh,I6 y.file,I6 y.page]):=dD<|Rr bk.out;have a0:=zqN x y;rw[H.out,bk.out]at au;have l:Xo _:=au;obtain⟨ad,ag⟩:=kA b1.heap.size;have ax:Xo (ab<ad):=dD<|Ry ag.out a8.lt;go_upto_region 9 with(refine zeO rfl (.tmp 20) rfl w.heap.size j aa rfl c9 bl.out ?_)
    clear c4;obtain⟨an,G⟩:=kB (b1.alloc (Xk #[Xh y.is,Xh y.rd,Xh y.wr,Xh y.sh,I6 y.file,I6 y.page] 67));have c2:=gT G bc;have bn:Xo (zb arE (w.heap.size+1) an (O a4 a.length C) a):=dD (by rw[<-G];exact bm.aA (za _ _));have bq:=yA G a8;have b4:=xPT G ag;rw[G,ag.out];clear G;have ac:=bq.c 4 rfl;by_cases V:0<=x.file
    ·rw[kE V]at a0;have ay:=fun bs=>zqE y.is Xc y.rd x.rd y.wr x.wr y.sh x.sh y.file x.file (y.page+1) x.page bs;have ai:Xo ((⟨Xc,x.rd,x.wr,x.sh,x.file,x.page⟩:On)=x):=dD<|by
      have a3:=az.out;rw[H.out]at a3;rw[<-a3]
     rw[ai.out,a0]at ay;obtain⟨br,bi⟩:=kA (goJ x y);rw[bi.out]at ay l;have cl:=b4.box.c 5 rfl;have cm:=b4.box.f;go_upto_region 11 with fail;obtain⟨a2,p⟩:=kB (an.setCell ⟨ad,5,Xb⟩ (I6 (y.page+1)));have b0:Xo (Z.heap.size<=ad):=dD (by have T:=ax.out;have ap:=bS ar.out;have cn:=bh.out;omega);have a5:Xo (zc Z a2):=dD (by rw[<-p];exact zJ c2 b0.out _);have D:Xo (zb arE (w.heap.size+1) a2 (O a4 a.length C) a):=dD (by rw[<-p];exact bn.aN (fun n I=>bn.ne b4 Dc n I) _);have A:Xo (Box a2 ab [Xh Xc,Xh x.rd,Xh x.wr,Xh x.sh,I6 x.file,I6 x.page]):=dD (by rw[<-p];exact bq.other (by have:=ax.out;simp;omega) _);have ao:Xo (Box a2 ad [Xh y.is,Xh y.rd,Xh y.wr,Xh y.sh,I6 y.file,I6 (y.page+1)]):=dD (by rw[<-p];exact b4.box.set 5 _);rw[p];clear p cl cm ac;cases br with
     | true=>
      obtain⟨c,k,W⟩:=l.1 rfl;have h:=zis k;obtain⟨d,t⟩:=kB a.dropLast;rw[t]at h;have i:=dD h;have Q:Xo (J f (j+1+1) (d++ [{ c with tz:=((j+1:Nat):Int)+1 }])):=a7.out d c h (Rx H.out W);obtain⟨m,M⟩:=kA d.length;have B:Xo (a.length=m+1):=dD (by rw[i.out,<-M.out];simp);have af:Xo (a[m]? =Xa c):=dD (by rw[i.out,<-M.out];simp);obtain⟨n,c1,al⟩:=D.aG (by rw[B.out];omega);cases al;have bw:((m+1:Nat):Int) - 1=(m:Int):=Wm;have bu:(0:Int)<=(m:Int):=Wm;have b6:(m:Int)< ((m+1:Nat):Int):=Wm;have bv:m+1<=64:=(by have:=q.out;rw[B.out]at this;omega);clear k W h t;rw[B.out]at D⊢;have P:Xo (a.set m { c with tz:=((j+1:Nat):Int)+1 }=d++ [{ c with tz:=((j+1:Nat):Int)+1 }]):=dD (by rw[i.out,Oe _ _ (by rw[M.out];exact nR _),M,Oc];rfl);go_wp2_with (first | refine zC rfl 67 (.tmp 7) rfl ad rfl ao underlying67 rfl zrH ?_ | refine zC rfl 67 (.tmp 5) rfl ab rfl A underlying67 rfl zrH ?_ | refine zx (E:=arE) rfl (.tmp 40) (.tmp 38) 3 rfl (w.heap.size+1) (O (Xa ⟨n,0,Xb⟩) (m+1) C) a D n m 1 rfl c { c with tz:=((j+1:Nat):Int)+1 } af.out [I6 (((j+1:Nat):Int)+1)] Kr rfl (Ye rfl) (by intro ck b7;simp at b7;subst b7;rfl) _ rfl (by simp;rfl) _ rfl rfl ?_)
      intro b2 Y S am;have ae:=D.lt n rfl;have bd:Xo (zc Z b2):=dD<|zd a5 S (Rx r.out ae.1);have L:Xo ((d++ [({ c with tz:=((j+1:Nat):Int)+1 }:Ar)]).length=m+1):=dD (by simp[M.out]);have bo:Xo (zb arE (w.heap.size+1) b2 (.slice (Xa ⟨n,0,Xb⟩) (d++ [({ c with tz:=((j+1:Nat):Int)+1 }:Ar)]).length C) (d++ [{ c with tz:=((j+1:Nat):Int)+1 }])):=dD (by rw[L.out,<-P.out];exact Y);clear Y S am;rw[<-L.out];go_wp2;go_roundg (64 -(j+1+1));exact⟨j+1+1,d++ [({ c with tz:=((j+1:Nat):Int)+1 }:Ar)],Xa ⟨n,0,Xb⟩,C,Wm,Wm,Gn,rfl,bd,bo,Q⟩;omega
     | false=>
      have Q:Xo (J f (j+1+1) (a++ [⟨((j+1:Nat)),(((j+1:Nat)):Int)+1,x.rd,x.wr,x.sh,x.file,x.page⟩])):=dD<|by
       have:=N.out (fun c aq=>Rx H.out (l.2 rfl c aq));rw[ah.out,H.out]at this;exact this
      go_upto_region 14 with(first | refine zC rfl 67 (.tmp 7) rfl ad rfl ao underlying67 rfl zrH ?_ | refine zC rfl 67 (.tmp 5) rfl ab rfl A underlying67 rfl zrH ?_)
      have g:Xo (w.heap.size+1<=a2.heap.size):=dD (by rw[<-r.out];exact bS a5.out);obtain⟨_,b8,b9,ba,ac,bb⟩:=A.k6;go_wp2_with (at_builtin;refine zy (E:=arE) rfl (.tmp 41) (.tmp 56) rfl (w.heap.size+1) _ a rfl (D.aA (za _ _)) _ [⟨((j+1:Nat):Int),((j+1:Nat):Int)+1,x.rd,x.wr,x.sh,x.file,x.page⟩] rfl (jZ arE a2 ⟨((j+1:Nat):Int),((j+1:Nat):Int)+1,x.rd,x.wr,x.sh,x.file,x.page⟩ _ _ rfl (by show 40<=_;omega)) ?qb ?qc ?_)
      case qb=>
       show(a.length+1)*40<=_;have:=q.out;omega
      case qc=>first | exact g.out | exact nT g (Oh _) | (have:=g.out;omega) | (simp;have:=g.out;omega)
      intro c5 a9 own s;obtain⟨u,z,rfl⟩:=own.form;have R:Xo (zb arE (w.heap.size+1) a9 (.slice u (a++ [(⟨((j+1:Nat):Int),((j+1:Nat):Int)+1,x.rd,x.wr,x.sh,x.file,x.page⟩:Ar)]).length z) (a++ [⟨((j+1:Nat):Int),((j+1:Nat):Int)+1,x.rd,x.wr,x.sh,x.file,x.page⟩])):=own;have a6:Xo (zc Z a9):=show zc _ _ from zY (a5.trans (za _ _)) s (fun n I=>by
       have T:=(D.lt n I).1;rw[r.out];exact T)
      have c3:=dD (b3.aA a6);clear own s b8 b9 ba ac bb;go_wp2;go_roundg (64 -((j+1)+1));exact⟨(j+1)+1,a++ [(⟨((j+1:Nat):Int),((j+1:Nat):Int)+1,x.rd,x.wr,x.sh,x.file,x.page⟩:Ar)],u,z,Wm,Wm,Gn,rfl,a6,R,Q⟩;omega
    rw[kF V]at a0;have ay:=fun bs=>zqE y.is Xc y.rd x.rd y.wr x.wr y.sh x.sh y.file x.file y.page x.page bs;have ai:Xo ((⟨Xc,x.rd,x.wr,x.sh,x.file,x.page⟩:On)=x):=dD<|by
     have a3:=az.out;rw[H.out]at a3;rw[<-a3]
    rw[ai.out,a0]at ay;obtain⟨br,bi⟩:=kA (goJ x y);rw[bi.out]at ay l;go_upto_region 11 with fail;clear ac;have a5:Xo (zc Z an):=c2;have D:Xo (zb arE (w.heap.size+1) an (O a4 a.length C) a):=bn;have A:Xo (Box an ab [Xh Xc,Xh x.rd,Xh x.wr,Xh x.sh,I6 x.file,I6 x.page]):=bq;have ao:=dD b4.box;obtain⟨a2,p⟩:=kB an;rw[p]at a5 D A ao⊢;clear p;cases br with
    | true=>
     obtain⟨c,k,W⟩:=l.1 rfl;have h:=zis k;obtain⟨d,t⟩:=kB a.dropLast;rw[t]at h;have i:=dD h;have Q:Xo (J f (j+1+1) (d++ [{ c with tz:=((j+1:Nat):Int)+1 }])):=a7.out d c h (Rx H.out W);obtain⟨m,M⟩:=kA d.length;have B:Xo (a.length=m+1):=dD (by rw[i.out,<-M.out];simp);have af:Xo (a[m]? =Xa c):=dD (by rw[i.out,<-M.out];simp);obtain⟨n,c1,al⟩:=D.aG (by rw[B.out];omega);cases al;have bw:((m+1:Nat):Int) - 1=(m:Int):=Wm;have bu:(0:Int)<=(m:Int):=Wm;have b6:(m:Int)< ((m+1:Nat):Int):=Wm;have bv:m+1<=64:=(by have:=q.out;rw[B.out]at this;omega);clear k W h t;rw[B.out]at D⊢;have P:Xo (a.set m { c with tz:=((j+1:Nat):Int)+1 }=d++ [{ c with tz:=((j+1:Nat):Int)+1 }]):=dD (by rw[i.out,Oe _ _ (by rw[M.out];exact nR _),M,Oc];rfl);go_wp2_with (first | refine zC rfl 67 (.tmp 7) rfl ad rfl ao underlying67 rfl zrH ?_ | refine zC rfl 67 (.tmp 5) rfl ab rfl A underlying67 rfl zrH ?_ | refine zx (E:=arE) rfl (.tmp 40) (.tmp 38) 3 rfl (w.heap.size+1) (O (Xa ⟨n,0,Xb⟩) (m+1) C) a D n m 1 rfl c { c with tz:=((j+1:Nat):Int)+1 } af.out [I6 (((j+1:Nat):Int)+1)] Kr rfl (Ye rfl) (by intro ck b7;simp at b7;subst b7;rfl) _ rfl (by simp;rfl) _ rfl rfl ?_)
     intro b2 Y S am;have ae:=D.lt n rfl;have bd:Xo (zc Z b2):=dD<|zd a5 S (Rx r.out ae.1);have L:Xo ((d++ [({ c with tz:=((j+1:Nat):Int)+1 }:Ar)]).length=m+1):=dD (by simp[M.out]);have bo:Xo (zb arE (w.heap.size+1) b2 (.slice (Xa ⟨n,0,Xb⟩) (d++ [({ c with tz:=((j+1:Nat):Int)+1 }:Ar)]).length C) (d++ [{ c with tz:=((j+1:Nat):Int)+1 }])):=dD (by rw[L.out,<-P.out];exact Y);clear Y S am;rw[<-L.out];go_wp2;go_roundg (64 -(j+1+1));exact⟨j+1+1,d++ [({ c with tz:=((j+1:Nat):Int)+1 }:Ar)],Xa ⟨n,0,Xb⟩,C,Wm,Wm,Gn,rfl,bd,bo,Q⟩;omega
    | false=>
     have Q:Xo (J f (j+1+1) (a++ [⟨((j+1:Nat)),(((j+1:Nat)):Int)+1,x.rd,x.wr,x.sh,x.file,x.page⟩])):=dD<|by
      have:=N.out (fun c aq=>Rx H.out (l.2 rfl c aq));rw[ah.out,H.out]at this;exact this
     go_upto_region 14 with(first | refine zC rfl 67 (.tmp 7) rfl ad rfl ao underlying67 rfl zrH ?_ | refine zC rfl 67 (.tmp 5) rfl ab rfl A underlying67 rfl zrH ?_)
     have g:Xo (w.heap.size+1<=a2.heap.size):=dD (by rw[<-r.out];exact bS a5.out);obtain⟨_,b8,b9,ba,ac,bb⟩:=A.k6;go_wp2_with (at_builtin;refine zy (E:=arE) rfl (.tmp 41) (.tmp 56) rfl (w.heap.size+1) _ a rfl (D.aA (za _ _)) _ [⟨((j+1:Nat):Int),((j+1:Nat):Int)+1,x.rd,x.wr,x.sh,x.file,x.page⟩] rfl (jZ arE a2 ⟨((j+1:Nat):Int),((j+1:Nat):Int)+1,x.rd,x.wr,x.sh,x.file,x.page⟩ _ _ rfl (by show 40<=_;omega)) ?qb ?qc ?_)
     case qb=>
      show(a.length+1)*40<=_;have:=q.out;omega
     case qc=>first | exact g.out | exact nT g (Oh _) | (have:=g.out;omega) | (simp;have:=g.out;omega)
     intro c5 a9 own s;obtain⟨u,z,rfl⟩:=own.form;have R:Xo (zb arE (w.heap.size+1) a9 (.slice u (a++ [(⟨((j+1:Nat):Int),((j+1:Nat):Int)+1,x.rd,x.wr,x.sh,x.file,x.page⟩:Ar)]).length z) (a++ [⟨((j+1:Nat):Int),((j+1:Nat):Int)+1,x.rd,x.wr,x.sh,x.file,x.page⟩])):=own;have a6:Xo (zc Z a9):=show zc _ _ from zY (a5.trans (za _ _)) s (fun n I=>by
      have T:=(D.lt n I).1;rw[r.out];exact T)
     have c3:=dD (b3.aA a6);clear own s b8 b9 ba ac bb;go_wp2;go_roundg (64 -((j+1)+1));exact⟨(j+1)+1,a++ [(⟨((j+1:Nat):Int),((j+1:Nat):Int)+1,x.rd,x.wr,x.sh,x.file,x.page⟩:Ar)],u,z,Wm,Wm,Gn,rfl,a6,R,Q⟩;omega
 have b5:¬(b:Int)<64:=Wm;have:b=64:=Wm;subst this;have c7:=dD<|aj.all K.out;have c8:Xo (zb arE (w.heap.size+1) wr (O a4 a.length C) (QB f)):=show zb _ _ _ _ _ by rw[<-c7.out];exact bp.out
 have c6:=dD (bf.trans ar);go_wp2;go_ret;exact⟨⟨_,rfl,c8⟩,c6⟩
theorem zkr (f:Nat->On) (w:Xn) (a:zjo f):
  Xp prog 95 #[Xi (zB (tab f)).toArray] w fun e w'=>(∃u,e= Xl (Xm #[u,I6 (zh8 f).2])/\zb arE w.heap.size w' u (zh8 f).1)/\zc w w':=by
 have i:=dD<|fun W=>zcu f W a;have c:Xo (¬16< (QB f).length->zh8 f=(QB f,0)):=fun h=>by unfold zh8;rw[kF h]
 have b:Xo (16< (QB f).length->zh8 f=([],4)):=fun h=>by unfold zh8;rw[kE h]
 have d:=dD<|(zdR a).len;clear a;obtain⟨a,a⟩:=kA (zh8 f);simp only[a.out]at c b⊢;obtain⟨l,a⟩:=kA (QB f);simp only[a.out]at c b d i;have g:Xo ((zB (tab f)).length=384):=jU _;generalize zB (tab f)=C at i g⊢;obtain⟨k,a⟩:=kB (w.alloc (Xk C.toArray 68));have h:=gA a;have m:=xA a;have j:Xo (_=k):=a;clear a;go_enter func95,ntmps95;go_upto_region 1 with fail;rw[j.out];go_wp2_with (refine zC rfl 68 (.tmp 1) rfl w.heap.size rfl m underlying68 rfl (Rx g.out zrI) ?_)
 refine(i k).mono ?_;rintro e a ⟨⟨u,rfl,a⟩,g⟩;obtain⟨i,i,rfl⟩:=a.form;have i:=dD (h.trans g);have j:=dD<|a.base (nT (bS h) (Oh _));clear g a;obtain⟨m,a⟩:=kA l.length;rw[a.out]at c b d j⊢;have a:m<=64:=d.out;by_cases a:16<m
 ·have g:=kC a
  have d:=dD<|b.out a;go_wp2;refine bodyPost_ret (results_tmp2 rfl _ _ _) rfl ?_;rw[d.out];exact⟨⟨_,rfl,zb.nil _ _ _⟩,i⟩
 have g:=kD a;have d:=dD<|c.out a;go_wp2;refine bodyPost_ret (results_tmp2 rfl _ _ _) rfl ?_;rw[d.out];exact⟨⟨_,rfl,j⟩,i⟩
theorem znN {a:Ar} (d:q4 C) (c:q4 a):zjo (zo [C,a]):=fun k _=>⟨zfM,fun c=>by grind [Qw,mG,zc2]⟩
theorem zpq {q:Ar} (h:zp arE w (O (Xa P) k b) l) (f:l[j]? =Xa C) (g:l[j+1]? =Xa q):zp arE w (O (Xa (P.add (j*7))) 2 (b - j)) [C,q]:=by
 obtain⟨⟨a,a,a,d,e⟩,d⟩:=h;cases a;refine⟨⟨Xa (P.add (j*7)),b - j,rfl,fun h=>(by cases h),fun x a d u h=>?_⟩,by show 2*40<=_;omega⟩;cases a;rw[zX];refine e P rfl (j*7+d) u ?_;have a:(arv C++arv q)[d]? =Xa u:=by simpa [arE]using h
 by_cases e:d<7
 ·rw[Yy (by simpa [arv]using e)]at a
  exact qM (enc:=arv) (k:=7) l j C (fun _ _=>rfl) f d u a
 rw[aR (by simp[arv];omega)]at a;have:=qM (enc:=arv) (k:=7) l (j+1) q (fun _ _=>rfl) g (d - 7) u (by simpa [arv]using a);rw[show(j+1)*7+(d - 7)=j*7+d by omega]at this;exact this
theorem zko {ad:Addr} {n c:Nat} (a:j+2<=c):(Instr.sliceAt 58 (O (Xa ad) n c) (Xa (I6 (j:Int))) (Xa (I6 ((j:Int)+1+1))) Xb).run prog w= .ok (O (Xa (ad.add (j*7))) 2 (c - j)) w:=by
 have f:(Go.sizeOf 77).run prog w= .ok 7 w:=by
  obtain⟨a,b,d⟩:∃a,Tryz.prog.info? 77=Xa a/\a.size=7:=by
   have:=zrF;cases e:Tryz.prog.info? 77 with
   | none=>rw[e]at this;cases this
   | some a=>rw[e]at this;exact⟨a,rfl,by simpa using this⟩
  simp[Go.sizeOf,typeInfo,b,d]
 have b:(0:Int)<=(j:Int)+1+1/\(j:Int)+1+1<=(c:Int):=Wm;have d:((j:Int)+1+1).toNat=j+2:=Wm;have a:(0:Int)<=(j:Int)/\(j:Int)<=((j+2:Nat):Int):=Wm;have e:¬c=j:=Wm;simp only[Instr.sliceAt,Instr.slice,Instr.sliceBounds,Instr.sliceBound,asIntOf,Yh,Yk,rA,run_underlying underlying58];rw[kE b];simp only[Yk,rA,d];rw[kE a];simp only[Yk,rA,f,tN,kF e,Option.map_some];congr 2;omega
theorem zjt (v fs) (D b:Int) (w) (a3:qg w v fs):
  Xp prog 24 #[Xi #[v,I6 D],I6 b] w fun e w'=>e= Xl (Xh (z3 fs b))/\zc w w':=by
 obtain⟨a7,a9,rfl,E,k⟩:=a3.rows;have a6:=dD k;clear k a3;obtain⟨y,N⟩:=kA fs.length;rw[N.out]at E⊢;obtain⟨C,d⟩:=kA (z3 fs b);rw[d.out];obtain⟨an,m⟩:=kB (w.alloc (Xk #[O a7 y a9,I6 D] 37));have M:=gA m;have R:=dD m;clear m;go_enter func24,ntmps24;go_wp2;rw[R.out];go_loopg [12] y (fun ac W wr=>∃c:Nat,c<=y/\y - c<=ac/\W=I6 c/\Xo (zc w wr)/\Xo (∀(j:Nat) (q:Fl),j<c->fs[j]? =Xa q->q.bl.contains b=Xd))
 exact⟨0,nZ _,Wm,rfl,M,fun j q h=>absurd h (nL _)⟩;obtain⟨c,ah,av,rfl,H,Z⟩:=hrel;by_cases p:c<y
 ·have G:=kC p
  obtain⟨q,P⟩:∃q,Xo (fs[c]? =Xa q):=⟨_,gE (Rx N.out p)⟩;obtain⟨aq,rfl,ak,al,u,a1⟩:=a6.out c q P.out;obtain⟨aa,a0⟩:=a1 wr H.out;have t:=u.short;obtain⟨ap,ar,U,i⟩:=u.aU;cases U;have Q:=dD i;clear a1 u i;obtain⟨A,l⟩:=kA q.bl.length;rw[l.out]at a0 t;obtain⟨ao,n⟩:=kB (wr.alloc (Xk #[I6 q.size,O ak A al] 84));have a4:=gT n H;have S:=dD n;clear n;go_wp2;rw[S.out];go_loopg [19] A (fun ab X Y=>∃a:Nat,a<=A/\A - a<=ab/\X=I6 a/\Xo (zc w Y)/\Xo (∀(j:Nat) z,j<a->q.bl[j]? =Xa z->¬z=b))
  exact⟨0,nZ _,Wm,rfl,a4,fun j z h=>absurd h (nL _)⟩;obtain⟨a,ag,af,rfl,g,I⟩:=hrel;clear aa a0;by_cases f:a<A
  ·have r:=kC f
   obtain⟨z,T⟩:∃z,Xo (q.bl[a]? =Xa z):=⟨_,gE (Rx l.out f)⟩;obtain⟨a8,rfl,F⟩:=Q.out a z T.out;have au:=F _ g.out;clear F;by_cases B:z=b
   ·have V:(z == b)=Xc:=Si B
    have L:Xo (C=Xc):=dD<|by
     rw[<-d.out];unfold z3;exact zqg P (Yl.2 (B ▸ mG T))
    clear B;go_wp2;go_ret;exact⟨Rr L.out,g⟩
   have V:(z == b)=Xd:=Si B;have K:Xo (∀(j:Nat) z,j<a+1->q.bl[j]? =Xa z->¬z=b):=dD<|fun j am h x=>by
    by_cases e:j=a;·subst e;rw[T.out]at x;cases x;exact B
    exact I j am Wm x
   clear B;go_wp2;go_roundg (A -(a+1));exact⟨a+1,Wm,Wm,Gn,g,K⟩;omega
  have r:=kD f;have:a=A:=Wm;subst this;have a5:Xo (∀(j:Nat) (q:Fl),j<c+1->fs[j]? =Xa q->q.bl.contains b=Xd):=dD<|fun j aj h s=>by
   by_cases e:j=c
   ·subst e;rw[P.out]at s;cases s;cases ae:q.bl.contains b with
    | false=>rfl
    | true=>
     obtain⟨ai,a2⟩:=Xz (Yl.1 ae);exact absurd rfl (I ai b (by rw[<-l.out];exact(gS.1 a2).1) a2)
   exact Z j aj Wm s
  go_wp2;go_roundg (y -(c+1));exact⟨c+1,Wm,Wm,Gn,g,a5⟩;omega
 have G:=kD p;have:c=y:=Wm;subst this;have L:Xo (C=Xd):=dD<|by
  rw[<-d.out];unfold z3;rw[zqf (fun j q h=>Z.out j q (by rw[<-N.out];exact(gS.1 h).1) h)]
 go_wp2;go_ret;exact⟨Rr L.out,H⟩
theorem zfH (vs:List Xq) (t:List (List En)) (w:Xn) (hv:JN w vs t) (h0:tbW t=0):
  Xp Tryz.prog 78 #[Xi vs.toArray] w fun e w'=>e= Xl (Xe Xf 0)/\zc w w':=by
 have HV:Xo (JN w vs t):=hv;have HL:Xo (vs.length=8):=hv.len;have HT:Xo (∀h∈t,zia h):=show∀h,_ from Zz.1 h0;clear hv h0;obtain⟨W0,hW0⟩:∃W0,w.alloc (Xk vs.toArray 61)=W0:=⟨_,rfl⟩;have HG0:=gA hW0;have X0:=xA hW0;have HW0:Xo (_=W0):=hW0;clear hW0;go_enter Tryz.func78,Tryz.ntmps78;go_upto_region 1 with fail;rw[HW0.out];go_wp2_with (refine qm rfl (.tmp 1) rfl w.heap.size rfl X0.out HL.out ?_)
 go_loopg [9] 8 (fun gg s9 wr=>∃kk:Nat,kk<=8/\8 - kk<=gg/\s9= Xe Xf kk/\Xo (zc w wr))
 case atStart=>exact⟨0,nZ _,by omega,rfl,HG0.out⟩
 obtain⟨kk,hkk,hg,rfl,BW⟩:=hrel;by_cases hlt:kk<8
 ·have hltz:(kk:Int)<8:=by omega
  obtain⟨xa,xc,q,hq,hvk,hr⟩:=HV.out.half hlt;obtain⟨_,_,heq,hens⟩:=hr.ens;cases heq;have HE:Xo (zq0 w xa q):=hens;obtain⟨nq,HNQ⟩:∃nq,Xo (q.length=nq):=⟨_,rfl⟩;rw[HNQ.out]at hvk;have HVK:Xo (vs[kk]? =Xa (O xa nq xc)):=hvk;have HQ:=HT.out q (mG hq);have HEN:Xo (∀(j:Nat) x,q[j]? =Xa x->enW x=0):=show∀(j:Nat) x,_ from fun j x hj=>by
   rcases HQ with e | ⟨_,e,_⟩;·rw[e]at hj;cases hj
   exact e x (mG hj)
  have HAN:Xo (nq=8->zax q=Xc):=show _->_ from fun e=>by
   rcases HQ with e2 | ⟨_,_,e2⟩;·rw[e2]at HNQ;have:=HNQ.out;simp at this;omega
   exact e2
  have h8:nq=0\/nq=8:=by
   rcases HQ with e | ⟨e,_⟩;·left;rw[<-HNQ.out,e];rfl
   right;rw[<-HNQ.out,e]
  clear hens hr hq hvk HQ;go_upto_region 4 with(refine zdi rfl (.tmp 8) (.tmp 9) rfl vs rfl kk rfl hlt HVK.out ?_)
  obtain⟨z0,HZ0⟩:∃z0:Bool,Xo (decide (nq=0)=z0):=⟨_,rfl⟩;have hne0:((nq:Int) != 0)=!z0:=by rw[<-HZ0.out];rcases h8 with e | e <;> simp[e]
  have heq8:((nq:Int) == 8)=!z0:=by rw[<-HZ0.out];rcases h8 with e | e <;> simp[e]
  have hne8:((nq:Int) != 8)=z0:=by rw[<-HZ0.out];rcases h8 with e | e <;> simp[e]
  have H8:Xo (nq=0\/nq=8):=h8;have hq8:nq<=8:=by omega
  clear h8;cases z0
  all_goals (
   simp only[Bool.not_true,Bool.not_false]at hne0 heq8 hne8;go_wp2;go_loopg [5,22] nq (fun g2 s5 s22 wr2=>∃(k2 c:Nat),k2<=nq/\nq - k2<=g2/\s22= Xe Xf k2/\s5= Xe Xf c/\c<=k2/\Xo (zc w wr2)/\Xo (c=0↔zax (q.take k2)=Xd))
   case atStart=>exact⟨0,0,nZ _,by omega,rfl,rfl,nR _,BW.out,show(0=0↔zax (q.take 0)=Xd)from by simp[zax]⟩
   obtain⟨k2,c,hk2',hg2,rfl,rfl,hck,BW2,CW⟩:=hrel;by_cases hlt2:k2<nq
   ·have hltz2:(k2:Int)< (nq:Int):=by omega
    obtain⟨x,hx⟩:∃x,q[k2]? =Xa x:=⟨_,gE (by rw[HNQ.out];exact hlt2)⟩;obtain⟨ad,rfl,hl2⟩:=HE.out k2 x hx;obtain⟨d0,d1,d2⟩:=hl2 wr BW2.out;obtain⟨e1,e2,e3⟩:=q7 (HEN.out k2 x hx);have HC:Xo (zax (q.take (k2+1))=(zax (q.take k2) || enS x)):=show _=_ by
     rw[jB hx];unfold zax;rw[List.any_append];simp
    obtain⟨k,m,b⟩:=x;simp only at d0 d1 d2 e1 e2 e3;clear hl2 hx;go_upto_region 10 with fail;obtain⟨px,hpx⟩:∃px,wr.heap.size=px:=⟨_,rfl⟩;obtain⟨W2,hW2⟩:∃W2,wr.alloc (Xk #[Xe Xf k,Xe Xf m,Xh b] 55)=W2:=⟨_,rfl⟩;have G2:=gT hW2 BW2;have P2:Xo (Box W2 px [Xe Xf k,Xe Xf m,Xh b]):=show Box _ _ _ by rw[<-hW2];exact Box.aE _ _ _ hpx.symm
    rw[hW2,hpx];clear hW2 hpx d0 d1 d2;obtain⟨p0,p1,p2⟩:=P2.out.c3;have k1d:decide (m<0)=Xd:=decide_eq_false (by omega);have k2d:decide (59<m)=Xd:=decide_eq_false (by omega);obtain rfl | rfl | rfl:k=0\/k=1\/k=2:=(by omega)
    ·obtain rfl:m=0:=by omega
     have hb:b=Xd:=(by cases b <;> simp at e3⊢);subst hb;clear e1 e2 e3;go_wp2;go_roundg (nq -(k2+1))
     case measure=>omega
     exact⟨k2+1,c,by omega,by omega,by go_num,by go_num,by omega,G2.out,show(c=0↔zax (q.take (k2+1))=Xd) by rw[HC.out,CW.out];simp[enS]⟩
    ·have k3d:decide (39<m)=Xd:=decide_eq_false (by omega)
     clear e1 e2 e3;go_wp2;go_roundg (nq -(k2+1))
     case measure=>omega
     exact⟨k2+1,c+1,by omega,by omega,by go_num,by go_num,by omega,G2.out,show(c+1=0↔zax (q.take (k2+1))=Xd) by rw[HC.out];simp[enS]⟩
    have hb:b=Xd:=(by cases b <;> simp at e3⊢);subst hb;clear e1 e2 e3;go_wp2;go_roundg (nq -(k2+1))
    case measure=>omega
    exact⟨k2+1,c+1,by omega,by omega,by go_num,by go_num,by omega,G2.out,show(c+1=0↔zax (q.take (k2+1))=Xd) by rw[HC.out];simp[enS]⟩
   have hltz2:¬(k2:Int)< (nq:Int):=(by omega);have:k2=nq:=(by omega);subst this;have hcb:k2=8->((c:Int) == 0)=Xd:=fun e=>by
    have h1:=CW.out;rw[Yc (by rw[HNQ.out];exact nR _),HAN.out e]at h1;simpa using h1
   have hcb2:=HZ0.out
   (first|(have hcb:=hcb (H8.out.resolve_left (of_decide_eq_false hcb2));clear hcb2)|clear hcb hcb2);go_wp2;go_roundg (8 -(kk+1));(case measure=>omega);exact⟨kk+1,by omega,by omega,by go_num,BW2.out⟩)
 have hltz:¬(kk:Int)<8:=by omega
 go_wp2;go_ret;exact⟨rfl,BW.out⟩
theorem zfI (v:Xq) (fs:List Fl) (d:Int) (w:Xn) (bm:qg w v fs) (y:stW fs d=0):
  Xp prog 76 #[Xi #[v,I6 d]] w fun e w'=>e= Xl (I6 0)/\zc w w':=by
 obtain⟨ba,c0,rfl,a3,F⟩:=bm.rows;have bt:Xo (zb1 w ba fs):=F;have a4:fs.length<=5/\0<=d/\d<=80:=by
  unfold stW at y;split at y
  ·assumption
  cases y
 have bs:Xo (zer d [] fs=0):=dD<|by rw[<-y];unfold stW;rw[kE a4]
 clear F bm y;obtain⟨p,b7⟩:=kA fs.length;rw[b7.out]at a3 a4⊢;obtain⟨c,B⟩:=kB (w.alloc (Xk #[O ba p c0,I6 d] 37));have H:=gA B;have a1:=xA B;have am:Xo (_=c):=B;clear B;obtain⟨ap,a4⟩:=a4;have aq:¬(5:Int)< (p:Int):=Wm;have c7:decide ((5:Int)< (p:Int))=Xd:=decide_eq_false aq;have c8:decide (5<p)=Xd:=decide_eq_false Wm;obtain⟨m,rfl⟩:∃m:Nat,d=(m:Int):=⟨d.toNat,Wm⟩;have bj:m<=80:=Wm;have av:¬(m:Int)<0:=Wm;have bf:decide ((m:Int)<0)=Xd:=decide_eq_false av;have aw:¬(80:Int)< (m:Int):=Wm;have bg:decide ((80:Int)< (m:Int))=Xd:=decide_eq_false aw;clear a4;go_enter func76,ntmps76;go_upto_region 3 with fail;rw[am.out];obtain⟨b5,a9⟩:=a1.k2;go_wp2_with (refine J6 boE rfl (.tmp 23) rfl m rfl (by show m*1<=_;omega) ?_)
 intro ah b0;rw[show Xr m boE.zero=J2 m []from(zmj m).symm]at b0;show wpList _ _ _ _ _ (c.alloc (Xk ah 4));obtain⟨bx,L⟩:=kB (c.alloc (Xk ah 4));have V:zb boE c.heap.size (c.alloc (Xk ah 4)) (O (Xa ⟨c.heap.size,0,Xb⟩) m m) (J2 m []):=b0;have G:=gA L;rw[L]at V⊢;obtain⟨j,K⟩:=kA c.heap.size;have bu:Xo (zb boE c.heap.size bx (O (Xa ⟨j,0,Xb⟩) m m) (J2 m [])):=dD<|Ry K.out V;rw[K.out];clear L b0 V b5 a9;obtain⟨b5,a9⟩:=(a1.aA G).k2;go_wp2;go_loopg [28] p (fun c5 b3 wr=>∃a:Nat,a<=p/\p - a<=c5/\b3=I6 a/\Xo (zc c wr)/\Xo (zb boE c.heap.size wr (O (Xa ⟨j,0,Xb⟩) m m) (J2 m (zc8 [] (fs.take a))))/\Xo (zer (m:Int) (zc8 [] (fs.take a)) (fs.drop a)=0))
 exact⟨0,nZ _,Wm,rfl,G,bu,bs⟩;obtain⟨a,cd,cb,rfl,ag,b8,bo⟩:=hrel;clear b5 a9;by_cases R:a<p
 ·have a5:=kC R
  obtain⟨q,aa⟩:∃q,Xo (fs[a]? =Xa q):=⟨_,gE (Rx b7.out R)⟩;obtain⟨ci,rfl,bn,ch,U,bi⟩:=bt.out a q aa.out;obtain⟨c1,bb⟩:=bi wr (H.trans ag);have T:=U.short;obtain⟨_,_,ax,D⟩:=U.aU;cases ax;have Z:Xo (zjm w bn q.bl):=D;obtain⟨r,u⟩:=kA q.bl.length;rw[u.out]at bb T;clear bi U D;have a0:Xo (zer (m:Int) (zc8 [] (fs.take a)) (fs.drop a)=if flW (m:Int) (zc8 [] (fs.take a)) q=0 then zer (m:Int) (zc8 [] (fs.take (a+1))) (fs.drop (a+1))else flW (m:Int) (zc8 [] (fs.take a)) q):=show _=_ by
   rw[jP aa.out,zaA aa.out,zbR];rfl
  have Y:Xo (zc8 [] (fs.take (a+1))=blG (zc8 [] (fs.take a)) q.bl):=dD (by rw[zaA aa.out,zbR]);obtain⟨h,b6⟩:=kA (zc8 [] (fs.take a));rw[b6.out]at a0 Y b8;have n:=bo.out;rw[b6.out,a0.out]at n;split at n;case isFalse ao=>exact absurd n ao
  rename_i bh
  have br:Xo (zer (m:Int) (zc8 [] (fs.take (a+1))) (fs.drop (a+1))=0):=n;have z:(if 0<=q.size/\q.size<=96 then(if(q.bl.length:Int)=zau q.size then blW (m:Int) h q.bl else 2)else 3)=0:=bh;split at z;case isFalse=>cases z
  rename_i cg
  split at z;case isFalse=>cases z
  rename_i P
  have ak:Xo (blW (m:Int) h q.bl=0):=z;rw[u.out]at P;clear n bh z;obtain⟨ac,k⟩:=kB (wr.alloc (Xk #[I6 q.size,O bn r ch] 84));have bp:=gT k ag;have ab:=xA k;have bv:Xo (zb boE c.heap.size ac (O (Xa ⟨j,0,Xb⟩) m m) (J2 m h)):=dD (by rw[<-k];exact b8.aA (za _ _));have an:Xo (_=ac):=k;clear k;have bk:decide (q.size<0)=Xd:=decide_eq_false Wm;have bl:decide (96<q.size)=Xd:=decide_eq_false Wm;have N:=fun bw=>zct q.size bw Wm Wm;rw[<-P]at N;have cf:((r:Int) !=(r:Int))=Xd:=Sm;clear P cg;obtain⟨b1,b2⟩:=ab.k2;go_upto_region 9 with fail;rw[an.out];go_quiet (first | (go_at_call 23;exact Calls.quiet_of_same (N _)))
  obtain⟨bz,M⟩:=kB (ac.drewN nq);have s:Xo (zc ac bz):=dD (by rw[<-M];exact(show Below _ _ _ from bD (bR _ _) _));rw[M];clear M b1 b2 N c1 bb;obtain⟨b1,b2⟩:=(ab.aA s).k2;go_wp2;go_loopg [50] r (fun c4 b4 a8=>∃b:Nat,b<=r/\r - b<=c4/\b4=I6 b/\Xo (zc c a8)/\Xo (zb boE c.heap.size a8 (O (Xa ⟨j,0,Xb⟩) m m) (J2 m (blG h (q.bl.take b))))/\Xo (blW (m:Int) (blG h (q.bl.take b)) (q.bl.drop b)=0))
  exact⟨0,nZ _,Wm,rfl,bp.trans s,bv.aA s,ak⟩;obtain⟨b,cc,ca,rfl,f,g,af⟩:=hrel;clear b1 b2;have a9:=(a1.aA f).c 1 rfl;have ai:=dD (H.trans f);by_cases l:b<r
  ·have S:=kC l
   obtain⟨C,aj⟩:∃C,Xo (q.bl[b]? =Xa C):=⟨_,gE (Rx u.out l)⟩;obtain⟨cj,rfl,a6⟩:=Z.out b C aj.out;have c2:=a6 _ ai.out;have t:Xo (blG h (q.bl.take (b+1))=JI (blG h (q.bl.take b)) C):=dD (by rw[jB aj.out,zgl]);clear a6;obtain⟨x,X⟩:=kA (blG h (q.bl.take b));have y:=af.out;rw[jP aj.out,X.out]at y;have n:(if JK (m:Int) x C=0 then blW (m:Int) (JI x C) (q.bl.drop (b+1))else JK (m:Int) x C)=0:=y;split at n;case isFalse ao=>exact absurd n ao
   rename_i ae
   rw[X.out]at t g;have W:Xo (blW (m:Int) (blG h (q.bl.take (b+1))) (q.bl.drop (b+1))=0):=dD<|Rx t.out n;clear y n;rcases JJ (m:Int) x C with⟨rfl,z,A⟩|⟨_,_,A⟩|⟨_,_,_,_,A⟩|⟨i,rfl,z,A,c6,ap⟩
   ·clear z ae;have I:Xo (zb boE c.heap.size _ (O (Xa ⟨j,0,Xb⟩) m m) (J2 m (blG h (q.bl.take (b+1))))):=dD (by rw[t.out,A];exact g.out);have az:¬(m:Int)<=-1:=Wm;have ce:decide ((m:Int)<=-1)=Xd:=decide_eq_false az;clear A;go_wp2;go_roundg (r -(b+1));exact⟨b+1,Wm,Wm,Gn,f,I,W⟩;omega
   ·exact absurd (ae.symm.trans A) Dc
   ·exact absurd (ae.symm.trans A) Dc
   clear c6 ae;have Q:i<m:=Wm;have ar:¬(i:Int)< -1:=Wm;have bc:decide ((i:Int)< -1)=Xd:=decide_eq_false ar;have au:¬(m:Int)<=(i:Int):=Wm;have bd:decide ((m:Int)<=(i:Int))=Xd:=decide_eq_false au;have be:decide (m<=i)=Xd:=decide_eq_false Wm;have c9:¬(i:Int)<0:=Wm;have c3:wr.cell? ⟨j,i,Xb⟩=Xa (Xh Xd):=by
    have:=g.one (zjF x Q) 0 _ rfl;rw[zX,Xw,zA,A]at this;simpa [boE]using this
   have al:Xo (JI x (i:Int)=(i:Int) :: x):=ap;clear A ap;go_wp2_with (refine qa (E:=boE) rfl (.tmp 70) (.const (Xh Xc)) rfl c.heap.size _ (J2 m x) g j i rfl Xc ?t1 ⟨j,i,Xb⟩ rfl ?t2 (Xh Xc) rfl rfl ?_)
   case t1=>rw[zhj];exact Q
   case t2=>first | exact(Og i).symm | (show _=Addr.mk j (i*1) Xb;rw[Og])
   intro b9 a7 a2 _;have I:Xo (zb boE c.heap.size b9 (O (Xa ⟨j,0,Xb⟩) m m) (J2 m (blG h (q.bl.take (b+1))))):=dD (by rw[t.out,al.out,<-zmi x Q];exact a7);have bq:Xo (zc c b9):=dD<|zd f a2 (by rw[K.out];exact nR _);clear a7 a2 c3 c2 a9;go_wp2;go_roundg (r -(b+1));exact⟨b+1,Wm,Wm,Gn,bq,I,W⟩;omega
  have S:=kD l;have:b=r:=Wm;subst this;have I:Xo (zb boE c.heap.size wr (O (Xa ⟨j,0,Xb⟩) m m) (J2 m (zc8 [] (fs.take (a+1))))):=dD<|by
   rw[Y.out];have:=g.out;rw[Yc (by rw[u.out];exact nR _)]at this;exact this
  go_wp2;go_roundg (p -(a+1));exact⟨a+1,Wm,Wm,Gn,f,I,br⟩;omega
 have a5:=kD R;have:a=p:=Wm;subst this;have ai:=dD (H.trans ag);go_wp2;go_ret;exact⟨rfl,ai⟩
theorem zbv (v:Xq) (l:List Ar) (w:Xn) (p:zp arE w v l) (C:Cap v) (ap:(wrL l).1=0):
  Xp prog 77 #[v] w fun e w'=>e= Xl (Xi #[I6 0,I6 (wrL l).2])/\zc w w':=by
 have a5:=p.short;obtain⟨bq,c,rfl,D⟩:=p.aC;have a3:Xo (zh4 w bq l):=D;have b1:Xo (∀(q:Ar) W,Xp prog 94 #[Xi #[I6 q.fr,I6 q.tz,Xh q.rd,Xh q.wr,Xh q.sh,I6 q.file,I6 q.base]] W fun e w'=>e= Xl (I6 (arW q))/\zc W w'):=fun q W=>JR q W;have bm:Xo (zp arE w (O bq l.length c) l):=p;have av:l.length<=c:=C;have cf:Xo (∀(b q:Ar) v W,zp arE W v [b,q]->q4 b->q4 q->b.tz<=q.fr->Xp prog 16 #[v] W fun e w'=>e= Xl (Xi (zB (tab (zo [b,q]))).toArray)/\zc W w'):=fun b q v W p au az br=>ZJ v [b,q] W p (zol au az br)
 have cg:Xo (∀(b q:Ar) W,q4 b->q4 q->b.tz<=q.fr->Xp prog 117 #[Xi (zB (tab (zo [b,q]))).toArray] W fun e w'=>(∃S T,e= Xl (.slice S (QB (zo [b,q])).length T))/\zc W w'):=fun b q W au az br=>(zcu (zo [b,q]) W (znN au az)).mono (by
  rintro e w' ⟨⟨v,rfl,co⟩,cd⟩;obtain⟨S,T,rfl⟩:=co.form;exact⟨⟨S,T,rfl⟩,cd⟩)
 clear D p C;have al:Xo (¬16<l.length->zaX (Qd l 0) (l.drop 0) 0=wrL l):=zgD;have ai:Xo (16<l.length->wrL l=(4,0)):=fun s=>by unfold wrL;rw[kE s]
 have I:Xo (∀Z,zaX (Qd l l.length) (l.drop l.length) l.length=Z->Z=(0,0)):=fun Z=>zly;obtain⟨f,X⟩:=kA l.length;rw[X.out]at a5 av bm⊢;have A:Xo (¬16<f->zaX (Qd l 0) (l.drop 0) 0=wrL l):=dD<|Ry X.out al.out;have x:Xo (16<f->wrL l=(4,0)):=dD<|Ry X.out ai.out;have F:Xo (∀Z,zaX (Qd l f) (l.drop f) f=Z->Z=(0,0)):=dD<|Ry X.out I.out
 skip
 generalize ch:wrL l=h at ap A x⊢;have a8:Xo (h.1=0):=ap;clear ch ap;obtain⟨c4,t⟩:=kB (w.alloc (Xk #[I6 0,I6 0] 150));have ah:=gA t;have c5:=xA t;have an:Xo (_=c4):=t;clear t;have P:¬16<f:=fun s=>by have:=a8.out;rw[x.out s]at this;cases this
 have a7:¬(16:Int)< (f:Int):=Wm;have bz:Xo (zaX (Qd l 0) (l.drop 0) 0=h):=A.out P;go_enter func77,ntmps77;go_upto_region 1 with fail;rw[an.out];go_wp2;go_loopg [12] f (fun ce bi wr=>∃g:Nat,g<=f/\f - g<=ce/\bi=I6 g/\Xo (zc w wr)/\Xo (Box wr w.heap.size [I6 0,I6 0])/\Xo (zaX (Qd l g) (l.drop g) g=h)/\Xo (∀(a:Nat) q,a<g->l[a]? =Xa q->q4 q))
 exact⟨0,nZ _,Wm,rfl,ah,c5,bz,fun a q bs=>absurd bs (nL _)⟩;obtain⟨g,cm,aw,rfl,af,U,Y,bo⟩:=hrel;by_cases N:g<f
 ·have a6:=kC N
  obtain⟨q,z⟩:∃q,Xo (l[g]? =Xa q):=⟨_,gE (Rx X.out N)⟩;obtain⟨d,rfl,k⟩:=a3.out g q z.out;obtain⟨c6,c7,c8,c9,ca,cb,cc⟩:=k wr af.out;have c0:Xo (w.heap.size<wr.heap.size):=U.lt;obtain⟨ae,aj⟩:=kA wr.heap.size;have a1:Xo (w.heap.size<ae):=show _<_ by rw[<-aj.out];exact c0.out
  clear k;go_upto_region 6 with fail;refine nW fun cs i=>?_;have bw:=gT i af;have bu:=yA i U;have bp:=xP i aj;rw[aj.out];clear i c6 c7 c8 c9 ca cb cc;go_wp2_with (refine zC rfl 77 (.tmp 4) rfl ae rfl bp underlying77 rfl zrF ?_)
  refine(b1.out q _).mono ?_;rintro e B ⟨rfl,ab⟩;have m:=dD (bw.trans ab);have bk:=dD (bu.aA ab);have H:=dD (bp.aA ab);clear ab;have bt:ae≠w.heap.size:=Hm a1.out;have ay:w.heap.size≠ae:=Hm a1.out;have Q:arW q=0:=Classical.byContradiction fun Q=>by have:=a8.out;rw[zlz Y.out z.out Q]at this;exact Q this
  have a9:Xo (arW q=0):=Q;have cn:(arW q != 0)=Xd:=by simp[Q]
  have r:Xo (q4 q):=Qh.1 Q;have a4:Xo (∀(a:Nat) R,a<g+1->l[a]? =Xa R->q4 R):=show∀(a:Nat) R,_ from fun a R bs u=>by
   by_cases e:a=g;·subst e;rw[z.out]at u;cases u;exact r.out
   exact bo a R Wm u
  clear Q;go_upto_region 9 with fail;generalize arW q=cx;cases g with
  | zero=>
   have G:Xo (zaX (Qd l 1) (l.drop 1) 1=h):=zgA Y z a9.out;have bg:¬(0:Int)< ((0:Nat):Int):=Dc;have bh:decide ((0:Int)< ((0:Nat):Int))=Xd:=Dc;go_quiet (fail);go_wp2;go_roundg (f - 1);exact⟨1,Wm,Wm,Gn,m.trans (show Below _ _ _ from bD (bR _ _) _),bk.aA (show Below _ _ _ from bD (bR _ _) _),G,a4⟩;omega
  | succ a=>
   obtain⟨b,V⟩:∃b,Xo (l[a]? =Xa b):=⟨_,gE (by rw[X.out];omega)⟩;have E:Xo (q4 b):=bo.out a b Wm V.out;have bg:(0:Int)< ((a+1:Nat):Int):=Wm;have bh:decide ((0:Int)< ((a+1:Nat):Int))=Xc:=Sm;have ck:((a+1:Nat):Int) - 1=(a:Int):=Wm;have cl:(a:Int)< (f:Int):=Wm;obtain⟨ao,ar,k⟩:=a3.out a b V.out;obtain rfl:d=ao:=(by cases ar;rfl);have ac:¬q.fr<b.tz:=fun ac=>(by have:=a8.out;rw[zcW Y.out V.out z.out a9.out (.inl ac)]at this;cases this);have cj:decide (q.fr<b.tz)=Xd:=Si ac;have ag:Xo (¬q.fr<b.tz):=ac;have b2:=H.gw 0 rfl;have b3:=H.gw 1 rfl;have b4:=H.gw 2 rfl;have b5:=H.gw 3 rfl;have b6:=H.gw 4 rfl;have b7:=H.gw 5 rfl;have b8:=H.gw 6 rfl;have b9:=fun y:zj B=>(k _ (m.trans y.aA)).1;have ba:=fun y:zj B=>(k _ (m.trans y.aA)).2.1;have bb:=fun y:zj B=>(k _ (m.trans y.aA)).2.2.1;have bc:=fun y:zj B=>(k _ (m.trans y.aA)).2.2.2.1;have bd:=fun y:zj B=>(k _ (m.trans y.aA)).2.2.2.2.1;have be:=fun y:zj B=>(k _ (m.trans y.aA)).2.2.2.2.2.1;have bf:=fun y:zj B=>(k _ (m.trans y.aA)).2.2.2.2.2.2;have ax:Nonempty (zj B):=⟨⟨_,zc.refl _⟩⟩;have ak:Xo (∀W,zc w W->zp arE W (O (Xa (d.add (a*7))) 2 (c - a)) [b,q]):=fun W ci=>zpq (bm.aA ci) V z.out;have b0:=fun W=>zko (w:=W) (ad:=d) (n:=f) (c:=c) (j:=a) Wm;obtain⟨aa,bl⟩:=kA ((QB (zo [b,q])).length);have am:Xo (decide (aa<2)=goB q b):=dD (by rw[<-bl.out];exact zqv E r (Hm ag.out));have a0:Xo (b.tz<=q.fr):=dD<|Hm ag.out;clear k;obtain⟨bn,a2⟩:=kA (zB (tab (zo [b,q])));refine qV [(19,⟨fun v=>v= Xi bn.toArray,fun _ _=>True⟩),(20,⟨fun v=>∃S T,v= O S aa T,fun _ _=>True⟩)] z2 Kr ?_ ?_ ?_
   ·intro R u
    simp at u;rcases u with rfl|rfl;·exact⟨_,rfl⟩
    exact⟨O Xb aa 0,Xb,0,rfl⟩
   ·intro R u
    simp at u;rcases u with rfl|rfl;·exact fun _ _ _ _ s=>s
    exact fun _ _ _ _ s=>s
   iterate 19 refine zh ?_
   refine zI rfl rfl (fun w' aw aq=>?_) (fun cp p=>?_);·refine zL.call [O (Xa (d.add (a*7))) 2 (c - a)] rfl func16 rfl rfl rfl ?_;refine(cf.out b q _ w' (ak w' (m.trans aw)) E r a0).mono ?_;rintro e bj ⟨rfl,L⟩;exact⟨_,rfl,L,by rw[a2.out],trivial⟩
   subst p;refine Uq ?_;refine zI rfl rfl (fun w' aw aq=>?_) (fun cp p=>?_);·refine zL.call [Xi bn.toArray] rfl func117 rfl rfl rfl ?_;rw[<-a2.out];refine(cg.out b q w' E r a0).mono ?_;rintro e bj ⟨⟨S,T,rfl⟩,L⟩;exact⟨_,rfl,L,⟨S,T,by rw[bl.out]⟩,trivial⟩
   obtain⟨cq,cr,rfl⟩:=p;refine Uq ?_;have a7:decide ((aa:Int)<2)=goB q b:=(by rw[<-am.out];exact decide_eq_decide.2 Wm);iterate 4 refine zh ?_
   refine z6 fun ct K aq=>?_;have bx:=dD (m.trans K);have bv:=dD (bk.aA K);clear a7 b0 K aq b2 b3 b4 b5 b6 b7 b8 b9 ba bb bc bd be bf ax;have M:goB q b=Xd:=Bool.eq_false_iff.2 fun s=>(by have:=a8.out;rw[zcW Y.out V.out z.out a9.out (.inr s)]at this;cases this);have G:Xo (zaX (Qd l (a+1+1)) (l.drop (a+1+1)) (a+1+1)=h):=zjq Y V z a9 ag M;rw[M];clear M;go_wp2;go_roundg (f -(a+1+1));exact⟨a+1+1,Wm,Wm,Gn,bx,bv,G,a4⟩;omega
 have a6:=kD N;have:g=f:=Wm;subst this;have c1:Xo (h=(0,0)):=F.out _ Y.out;obtain⟨cu,cv⟩:=U.k2;have cw:=U.f;have c2:Xo (Box ((wr.setCell ⟨w.heap.size,0,Xb⟩ (I6 0)).setCell ⟨w.heap.size,1,Xb⟩ (I6 0)) w.heap.size [I6 0,I6 0]):=show Box _ _ _ from(U.set 0 _).set 1 _;have c3:Xo (zc w ((wr.setCell ⟨w.heap.size,0,Xb⟩ (I6 0)).setCell ⟨w.heap.size,1,Xb⟩ (I6 0))):=dD<|zJ (zJ af Sm _) Sm _;go_wp2;refine bodyPost_ret (z7 (vs:=[I6 0,I6 0]) rfl _ rfl c2 underlying150 rfl zrG) rfl ⟨?_,c3⟩;rw[c1.out]
theorem zqx (h:spE s=0):(wrL s.aC).1=0/\tbW s.tb=0/\(s.aF=Xd->s.aC=[]/\s.tb.all (·.isEmpty)=Xc):=by grind [spE]
theorem znt (h:zaw m=0) (a:b<m.db.length):zcF m b=Xd:=by
 cases e:zcF m b with
 | false=>rfl
 | true=>rw[zfk a e]at h;cases h
theorem znY (h:zad m=0) {q:Int × List Int} (a:m.dq[j]? =Xa q):z3 m.fl q.1=Xc:=by grind [z3,zeT]
theorem ziz (V m w) (A:zR w V m) (u:J1 m=0):
  Xp prog 41 #[Xi (mL V m).toArray] w fun e w'=>e= Xl (I6 0)/\zc w w':=by
 unfold J1 at u;rw[zk]at u;have e4:Zx m.fs m.aB=0:=u _ Sm;have e5:slW m.sl=0:=u _ Sm;have e6:zN m.sb.length m.sq=0:=u _ Sm;have e7:zN m.db.length m.dq=0:=u _ Sm;have e8:stW m.fl m.cnt=0:=u _ Sm;have be:zmQ m=0:=u _ Sm;have eh:Xo (zaw m=0):=dD<|u _ Sm;have ei:Xo (zad m=0):=dD<|u _ Sm;have bz:(if 4<m.sp.length then(4:Int)else 0)=0:=u _ Sm;have cl:Xo (∀s∈m.sp,spE s=0):=dD<|fun s b8=>zk.1 (u (zD (m.sp.map spE)) Sm) _ (Ya.2 ⟨s,b8,rfl⟩);have bn:=dD A;obtain⟨cw,bv,bw,-,bd,cx,-,-,bx⟩:=A.ns;obtain⟨e9,bc,B,ba⟩:=A.aX;have y:=A.fs;have C:=A.sl;have ae:=dD A.pgs;have ag:=dD A.puts;have b9:=A.sp;have ct:V.dq.n<=9223372036854775807:=Hm A.dq.2.2;have cs:V.db.n<=9223372036854775807:=Hm A.db.2.2;obtain⟨bk,P,h,a9,⟨E,b,F⟩,⟨a1,i,a2⟩,bl,bj,⟨bh,d,bi⟩⟩:=V;dsimp only[mL]at cw bv bw bd cx bx cs ct ae ag y C B⊢;have c4:Xo (∀W,zc w W->Xp prog 73 #[Xi #[bk.x,I6 m.aB]] W fun e w'=>e= Xl (I6 0)/\zc W w'):=dD<|fun W c=>by (try simp only[Sli.x]at y⊢);rw[cw]at y⊢;rw[<-e4];exact zdt bk.a bk.c m.fs m.aB W (zqP.1 (y.aA c))
 have c5:Xo (∀W,zc w W->Xp prog 74 #[P.x] W fun e w'=>e= Xl (I6 0)/\zc W w'):=dD<|fun W c=>by (try simp only[Sli.x]at C⊢);rw[bv]at C⊢;rw[<-e5];exact zfJ P.a P.c m.sl W (C.aA c)
 have c6:Xo (∀W,zc w W->Xp prog 75 #[Xi #[h.x,a9.x]] W fun e w'=>e= Xl (I6 0)/\zc W w'):=dD<|fun W c=>by rw[<-e6,<-bw];exact QU h.a h.n h.c _ m.sq W (bn.aA c).sq
 have c7:Xo (∀W,zc w W->Xp prog 75 #[Xi #[O E b F,O a1 i a2]] W fun e w'=>e= Xl (I6 0)/\zc W w'):=dD<|fun W c=>by rw[<-e7,<-bd];exact QU E b F _ m.dq W (bn.aA c).dq
 have c8:=dD<|fun W (c:zc w W)=>zfI _ m.fl m.cnt W (bn.aA c).fl e8;have ah:=dD<|fun W ep (c:zc w W)=>zjt _ m.fl m.cnt ep W (bn.aA c).fl;have cb:=dD bd.symm;have cc:=dD cx.symm;have ac:=dD bx.symm;have es:d<=4:=by
  rw[<-bx]at bz;split at bz;·cases bz
  omega
 have cj:Xo (e9.length=d):=dD<|Rx bc ac.out;have ce:=dD B;have cf:=dD ba;have ay:P.n=h.n/\m.cnt=(b:Int):=by
  unfold zmQ at be;rw[<-bv,<-bw,<-bd]at be;split at be;·cases be
  omega
 obtain⟨cm,du⟩:=ay;have cn:((P.n:Int) !=(h.n:Int))=Xd:=by simp[cm]
 have co:(P.n != h.n)=Xd:=by simp[cm]
 have cp:(m.cnt !=(b:Int))=Xd:=by simp[du]
 have eu:d<=9223372036854775807:=Wm;have et:decide ((4:Int)< (d:Int))=Xd:=by simp;omega
 clear A cw bv bw bd cx bx bc B ba y C b9 u e4 e5 e6 e7 e8 be bz cm du es;obtain⟨ak,H⟩:=kB (w.alloc (Xk #[bk.x,I6 m.aB,P.x,h.x,a9.x,O E b F,O a1 i a2,bl.x,I6 m.cnt,bj.x,O bh d bi] 41));have n:=gA H;have f:Xo (∀W,zc ak W->Box W w.heap.size [bk.x,I6 m.aB,P.x,h.x,a9.x,O E b F,O a1 i a2,bl.x,I6 m.cnt,bj.x,O bh d bi]):=dD<|fun W c=>by
  rw[<-H]at c;exact(Box.aE _ _ _ rfl).aA c
 have ci:=dD H;clear H;go_enter func41,ntmps41;go_upto_region 1 with fail;rw[ci.out];have f1:=(f _ (zc.refl _)).c 0 rfl;have f2:=(f _ (zc.refl _)).c 1 rfl;have p:=c4.out ak n.out;go_wp2_with fail;refine p.mono ?_;clear p f1 f2;rintro e ek ⟨rfl,j⟩;have ed:=dD j;have dl:=(f _ j).c 2 rfl;have p:=c5.out ek (n.trans j);go_wp2_with fail;refine p.mono ?_;clear p dl j;rintro e el ⟨rfl,j⟩;have bp:=dD (ed.trans j);clear j;have dm:=(f _ bp).c 3 rfl;have f3:=(f _ bp).c 4 rfl;have p:=c6.out el (n.trans bp);go_wp2_with fail;refine p.mono ?_;clear p dm f3;rintro e em ⟨rfl,j⟩;have bq:=dD (bp.trans j);clear j;have dn:=(f _ bq).c 5 rfl;have dp:=(f _ bq).c 6 rfl;have p:=c7.out em (n.trans bq);go_wp2_with fail;refine p.mono ?_;clear p dn dp;rintro e en ⟨rfl,j⟩;have br:=dD (bq.trans j);clear j;have bm:=(f _ br).c 7 rfl;have aa:=(f _ br).c 8 rfl;have p:=c8.out en (n.trans br);go_wp2_with fail;refine p.mono ?_;clear p bm aa;rintro e f4 ⟨rfl,j⟩;have aj:=dD (br.trans j);clear j;have dl:=(f _ aj).c 2 rfl;have dm:=(f _ aj).c 3 rfl;have dn:=(f _ aj).c 5 rfl;have aa:=(f _ aj).c 8 rfl;go_wp2;clear dl dm dn aa cn co cp;go_loopg [68] b (fun av df wr=>∃l:Nat,l<=b/\b - l<=av/\df=I6 l/\Xo (zc ak wr))
 exact⟨0,nZ _,Wm,rfl,aj⟩;obtain⟨l,ey,ex,rfl,r⟩:=hrel;by_cases a3:l<b
 ·have az:=kC a3
  have ab:Xo (l<m.db.length):=dD<|Rx cb.out a3;obtain⟨cy,dq⟩:∃cy,Xo (m.db[l]? =Xa cy):=⟨_,gE ab⟩;obtain⟨dt,S,T,U,X,Y,Z,I,a0,rfl,rfl,N⟩:=ae.out l cy dq.out;have Q:Xo ((!z3 m.fl (l:Int) && !([S,T,U,X,Y,Z,I,a0] == zt))=Xd):=dD<|by
   have:=znt eh ab.out;unfold zcF at this;rw[gD,dq.out]at this;exact this
  obtain⟨al,am,an,ao,ap,aq,ar,au⟩:=N wr (n.trans r);have a7:=fun W=>Qi 9998 S T U X Y Z I a0 0 0 0 0 0 0 0 0 W;simp only[zgv]at a7;obtain⟨eg,cd⟩:=kA ([S,T,U,X,Y,Z,I,a0] == zt);rw[cd.out]at a7 Q;clear N;go_upto_region 21 with fail;refine nW fun R a=>?_;have ee:=xA a;have k:=gT a r;clear a al am an ao ap aq ar au;have g:=ah.out R (l:Int) (n.trans k);obtain⟨ej,bo⟩:=kA (z3 m.fl (l:Int));rw[bo.out]at g Q;have bm:=(f _ k).c 7 rfl;have aa:=(f _ k).c 8 rfl;go_wp2_with fail;refine g.mono ?_;clear g bm aa;rintro e bu ⟨rfl,G⟩;have bs:=dD (k.trans G);have ef:=ee.aA G;obtain⟨e0,f8,f9,fa,fb,fc,fd,fe⟩:=ef.c8;clear G;cases ej with
  | true=>
   clear a7;go_wp2;go_roundg (b -(l+1));exact⟨l+1,Wm,Wm,Gn,bs⟩;omega
  | false=>
   cases eg with
   | true=>
    go_wp2;go_roundg (b -(l+1));exact⟨l+1,Wm,Wm,Gn,bs⟩;omega
   | false=>cases Q.out
 have az:=kD a3;have dp:=(f _ r).c 6 rfl;go_wp2;clear dp;go_loopg [88] i (fun av di wr=>∃L:Nat,L<=i/\i - L<=av/\di=I6 L/\Xo (zc ak wr))
 exact⟨0,nZ _,Wm,rfl,r⟩;obtain⟨L,f7,ev,rfl,r⟩:=hrel;by_cases z:L<i
 ·have a4:=kC z
  obtain⟨cz,dr⟩:∃cz,Xo (m.dq[L]? =Xa cz):=⟨_,gE (Rx cc.out z)⟩;have bo:=znY ei dr.out;obtain⟨dt,cv,S,T,U,X,Y,Z,I,a0,rfl,rfl,N⟩:=ag.out L cz dr.out;obtain⟨al,am,an,ao,ap,aq,ar,au,cq⟩:=N wr (n.trans r);have g:=fun W c=>ah.out W cv c;dsimp only at bo;rw[bo]at g;clear N;go_upto_region 27 with fail;obtain⟨R,a⟩:=kB (wr.alloc (Xk #[I6 cv,U8 S,U8 T,U8 U,U8 X,U8 Y,U8 Z,U8 I,U8 a0] 88));have e0:=((show Box R wr.heap.size [I6 cv,U8 S,U8 T,U8 U,U8 X,U8 Y,U8 Z,U8 I,U8 a0] by rw[<-a];exact Box.aE _ _ _ rfl)).c 0 rfl;have k:=gT a r;rw[a];clear a al am an ao ap aq ar au cq;have g:=g R (n.trans k);have bm:=(f _ k).c 7 rfl;have aa:=(f _ k).c 8 rfl;go_wp2_with fail;refine g.mono ?_;clear g bm aa e0;rintro e bu ⟨rfl,G⟩;have bs:=dD (k.trans G);clear G;go_wp2;go_roundg (i -(L+1));exact⟨L+1,Wm,Wm,Gn,bs⟩;omega
 have a4:=kD z;have dk:=(f _ r).c 10 rfl;go_wp2;clear dk;go_loopg [106] d (fun av bg wr=>∃v:Nat,v<=d/\d - v<=av/\bg=I6 v/\Xo (zc ak wr))
 exact⟨0,nZ _,Wm,rfl,r⟩;obtain⟨v,f6,ew,rfl,r⟩:=hrel;by_cases q:v<d
 ·have a5:=kC q
  obtain⟨x,cu⟩:∃x,e9[v]? =Xa x:=⟨_,gE (Rx cj.out q)⟩;obtain⟨s,b8⟩:∃s,m.sp[v]? =Xa s:=⟨_,gE (Rx ac.out q)⟩;have t:=dD<|cf.out v x s cu b8;obtain⟨dv,dw,cr⟩:=zqx (cl s (mG b8));have c9:Xo (s.aF=Xd->x.ar.n=0/\s.tb.all (·.isEmpty)=Xc):=show _->_ from fun dy=>⟨by rw[t.ar.n,(cr dy).1];rfl,(cr dy).2⟩;obtain⟨dt,rfl,N⟩:=ce.out v x cu;obtain⟨al,am,an,ao,ap,aq,ar,au,cq,eq⟩:=N wr (n.trans r);clear N cu b8 cr;have ca:=dD t.aF;have c3:=dD<|fun W (c:zc w W)=>zbv _ s.aC W (t.aA c).ar (show Cap (x.ar.x)from t.cap) dv;have ch:=dD<|fun W (c:zc w W)=>zfH x.tab s.tb W (t.aA c).tb dw;have cg:=dD<|fun W (c:zc w W)=>zit x.tab s.tb W (t.aA c).tb;clear dv dw;go_upto_region 35 with fail;refine nW fun R a=>?_;have k:=gT a r;obtain⟨ez,af⟩:=kA wr.heap.size;have bt:Xo (∀W,zc R W->Box W ez [Xh x.aF,x.ar.x,x.t0.x,x.t1.x,x.t2.x,x.t3.x,x.t4.x,x.t5.x,x.t6.x,x.t7.x]):=dD<|fun W c=>by
   rw[<-a]at c;exact(Box.aE _ _ _ af.symm).aA c
  rw[af.out];clear a al am an ao ap aq ar au cq eq;have ax:=c3.out R (n.trans k);have bf:=(bt _ (zc.refl _)).c 1 rfl;go_wp2_with fail;refine ax.mono ?_;clear ax bf;rintro e bu ⟨rfl,G⟩;have eb:=dD G;clear G;go_upto_region 36 with fail;obtain⟨ds,K⟩:=kB (bu.alloc (Xk #[I6 0,I6 (wrL s.aC).2] 150));have ck:=gT K eb;have ea:Box ds bu.heap.size [I6 0,I6 (wrL s.aC).2]:=by rw[<-K];exact Box.aE _ _ _ rfl
  have er:=ea.c 0 rfl;rw[K];clear K;have bb:=ch.out ds (n.trans (k.trans ck));have M:=bt.out _ ck.out;obtain⟨_,_,da,db,dc,dd,de,dg,dh,dj⟩:=M.k10;go_wp2_with fail;refine bb.mono ?_;clear bb er da db dc dd de dg dh dj;rintro e eo ⟨rfl,dx⟩;have ai:=dD (ck.trans dx);clear dx;have c0:=(bt _ ai).c 0 rfl;rw[ca.out]at c0;cases a6:s.aF with
  | true=>
   rw[a6]at c0;go_wp2;go_roundg (d -(v+1));exact⟨v+1,Wm,Wm,Gn,k.trans ai⟩;omega
  | false=>
   rw[a6]at c0;obtain⟨dz,aw⟩:=c9.out a6;have D:=bt.out _ ai.out;have bf:=D.c 1 rfl;(try simp only[Sli.x]at bf);rw[dz]at bf;have a8:=cg.out eo (n.trans (k.trans ai));rw[aw]at a8;obtain⟨_,_,da,db,dc,dd,de,dg,dh,dj⟩:=D.k10;clear dz aw;go_wp2_with fail;refine a8.mono ?_;clear a8 c0 bf da db dc dd de dg dh dj;rintro e f5 ⟨rfl,gA⟩;have ec:=dD (ai.trans gA);clear gA;go_wp2;go_roundg (d -(v+1));exact⟨v+1,Wm,Wm,Gn,k.trans ec⟩;omega
 have a5:=kD q;go_wp2;go_ret;exact⟨rfl,n.trans r⟩
def JT (m:Ma) (kind k:Int) (p:Nat):Nat:=qi ((m.sp.take p).map zf) kind k
theorem ziP (h:m.sp[k]? =Xa s):JT m z R (k+1)=JT m z R k+Zg (zf s) z R 64:=by grind [JT,qi,Ym]
theorem ze3:JT m z R m.sp.length=Z5 m z R:=by unfold JT Z5;rw[List.take_length]
theorem zhw {kind k:Int} (p:Nat):JT m kind k p<=64*p:=by grind [zan,zf,Yq,Oa,JT]
theorem zeB (V:MaV) (m:Ma) (kind k:Int) (w:Xn) (hm:zR w V m) (h4:m.sp.length<=4) (h8:∀s∈m.sp,∀h∈s.tb,h.length<=8):
  Xp prog 43 #[Xi (mL V m).toArray,I6 kind,I6 k] w fun e w'=>e= Xl (I6 (Z5 m kind k:Int))/\zc w w':=by
 obtain⟨-,-,-,-,-,-,-,-,n9⟩:=hm.ns;obtain⟨xs,hxl,hrow,hsp⟩:=hm.aX;have HR:Xo (∀(j:Nat) x,xs[j]? =Xa x->∃ad,V.sp.a=Xa ad/\∀W,zc w W->zjj W (ad.add (j*10)) x):=dD<|hrow;have HS:Xo (∀(i:Nat) x s,xs[i]? =Xa x->m.sp[i]? =Xa s->jJ w x s):=dD<|hsp;obtain⟨N,HN⟩:=kA m.sp.length;have hN4:N<=4:=Ry HN.out h4;have HXL:Xo (xs.length=N):=dD<|Rx hxl HN.out;have H8:Xo (∀s∈m.sp,∀h∈s.tb,h.length<=8):=dD<|h8;obtain⟨vf,vs,vsb,vsq,vdb,vdq,vfl,vca,⟨spa,spn,spc⟩⟩:=V;dsimp only[mL]at n9 HR⊢;obtain rfl:spn=N:=Rx n9 HN.out;clear hm hrow hsp hxl n9 h8 h4;obtain⟨W0,hW0⟩:=kB (w.alloc (Xk #[vf.x,I6 m.aB,vs.x,vsb.x,vsq.x,vdb.x,vdq.x,vfl.x,I6 m.cnt,vca.x,O spa spn spc] 41));have HG0:=gA hW0;have HW0:Xo (_=W0):=hW0;have X0:=xA hW0;clear hW0;go_enter func43,ntmps43;go_upto_region 2 with fail;rw[HW0.out];have x10:=X0.c 10 rfl;go_wp2;clear x10;go_loopg [7,15] spn (fun gg s7 s15 wr=>∃p:Nat,p<=spn/\spn - p<=gg/\s15=I6 p/\s7=I6 (JT m kind k p:Int)/\Xo (zc w wr))
 exact⟨0,nZ _,Wm,rfl,rfl,HG0⟩;obtain⟨p,hp,hg,rfl,rfl,GW⟩:=hrel;by_cases hlt:p<spn
 ·have hltz:=kC hlt
  obtain⟨x,hx⟩:∃x,xs[p]? =Xa x:=⟨_,gE (Rx HXL.out hlt)⟩;obtain⟨s,hs⟩:∃s,m.sp[p]? =Xa s:=⟨_,gE (Rx HN.out hlt)⟩;have HAT:Xo (jJ w x s):=HS.out p x s hx hs;have HSS:Xo (m.sp[p]? =Xa s):=hs;obtain⟨ad,rfl,hl⟩:=HR.out p x hx;have hcl:=hl wr GW.out;obtain⟨d0,d1,d2,d3,d4,d5,d6,d7,d8,d9⟩:=hcl;clear hl hx hs;have HF64:Xo (∀j,j<64->(zbf s.tb)[j]? =Xa (zf s j)):=show∀j,_ from fun j hj=>zgd s.tb hj;have hfl:∀W,zc w W->Xp prog 14 #[Xi #[x.t0.x,x.t1.x,x.t2.x,x.t3.x,x.t4.x,x.t5.x,x.t6.x,x.t7.x]] W fun e w'=>e= Xl (Xi (qk (zbf s.tb)).toArray)/\zc W w':=fun W hW=>ze6 x.tab s.tb W ((HAT.aA hW).tb) (H8 s (mG HSS));have HFL:Xo (∀W,zc w W->Xp prog 14 #[Xi #[x.t0.x,x.t1.x,x.t2.x,x.t3.x,x.t4.x,x.t5.x,x.t6.x,x.t7.x]] W fun e w'=>e= Xl (Xi (qk (zbf s.tb)).toArray)/\zc W w'):=dD<|hfl;clear hfl;have hb0:=zhw (m:=m) (kind:=kind) (k:=k) p;have HSU:Xo (JT m kind k (p+1)=JT m kind k p+Zg (zf s) kind k 64):=ziP HSS.out;obtain⟨H0,hH0⟩:=kB (JT m kind k p);rw[hH0]at hb0 HSU⊢;clear hH0;go_upto_region 5 with fail;refine nW fun W1 hW1=>?_;have G1:=gT hW1 GW;have S1:=xA hW1;clear hW1 d0 d1 d2 d3 d4 d5 d6 d7 d8 d9;obtain⟨_,_,s2,s3,s4,s5,s6,s7,s8,s9⟩:=S1.k10;go_wp2_with fail;refine(HFL W1 G1).mono ?_;clear s2 s3 s4 s5 s6 s7 s8 s9;rintro e W2 ⟨rfl,g2⟩;have G2:=dD (G1.trans g2);clear g2;go_wp2;go_loopg [7,22] 64 (fun gg s7 s22 wr=>∃n:Nat,n<=64/\64 - n<=gg/\s22=I6 n/\s7=I6 ((H0+Zg (zf s) kind k n:Nat):Int)/\Xo (zc w wr))
  exact⟨0,nZ _,Wm,rfl,rfl,G2⟩;obtain⟨n,hn,hg2,rfl,rfl,GW2⟩:=hrel;by_cases hlt2:n<64
  ·have hltz2:(n:Int)<64:=Wm
   obtain⟨e,HE⟩:=kA (zf s n);have HZF:Xo ((zbf s.tb)[n]? =Xa e):=dD (by rw[HF64.out n hlt2,HE.out]);have hcl:=zng (zf s) kind k n;have HCS:Xo (Zg (zf s) kind k (n+1)=Zg (zf s) kind k n+(isE e kind k).toNat):=dD (by rw[<-HE.out];rfl);obtain⟨c0,hc0⟩:=kB (Zg (zf s) kind k n);rw[hc0]at hcl HCS⊢;clear hc0;go_upto_region 8 with(refine zdj rfl (.tmp 21) (.tmp 22) rfl (zbf s.tb) rfl n rfl hlt2 HZF.out ?_)
   refine nW fun W3 hW3=>?_;have G3:=gT hW3 GW2;have E3:=xA hW3;clear hW3;obtain⟨e0,e1⟩:=E3.k2;by_cases h1:e.kind=kind
   ·have h1e:(e.kind == kind)=Xc:=by simp[h1]
    by_cases h2:e.n=k
    ·have h2e:(e.n == k)=Xc:=by simp[h2]
     have HV:Xo (Zg (zf s) kind k (n+1)=c0+1):=dD (by rw[HCS.out];simp[isE,h1,h2]);clear h1 h2;go_wp2;go_roundg (64 -(n+1));exact⟨n+1,Wm,Wm,Gn,by rw[HV.out];go_num,G3⟩;omega
    have h2e:(e.n == k)=Xd:=(by simp[h2]);have HV:Xo (Zg (zf s) kind k (n+1)=c0):=dD (by rw[HCS.out];simp[isE,h2]);clear h1 h2;go_wp2;go_roundg (64 -(n+1));exact⟨n+1,Wm,Wm,Gn,by rw[HV.out];go_num,G3⟩;omega
   have h1e:(e.kind == kind)=Xd:=(by simp[h1]);have HV:Xo (Zg (zf s) kind k (n+1)=c0):=dD (by rw[HCS.out];simp[isE,h1]);clear h1;go_wp2;go_roundg (64 -(n+1));exact⟨n+1,Wm,Wm,Gn,by rw[HV.out];go_num,G3⟩;omega
  have hltz2:¬(n:Int)<64:=Wm;obtain rfl:n=64:=Wm;go_wp2;go_roundg (spn -(p+1));exact⟨p+1,Wm,Wm,Gn,by rw[HSU.out];go_num,GW2⟩;omega
 have hltz:=kD hlt;obtain rfl:p=spn:=Wm;have HF:Xo (JT m kind k p=Z5 m kind k):=dD<|Ry HN.out ze3;rw[HF.out];go_wp2;go_ret;exact⟨rfl,GW⟩
theorem ziA (V:MaV) (m:Ma) (x:On) (e:En) (w) (L:zR w V m) (ap:0<=e.n) (b:zaJ m x e=0):
  Xp prog 42 #[Xi #[O V.f.a V.f.n V.f.c,Xe Xf m.aB,O V.s.a V.s.n V.s.c,O V.sb.a V.sb.n V.sb.c,O V.sq.a V.sq.n V.sq.c,O V.db.a V.db.n V.db.c,O V.dq.a V.dq.n V.dq.c,O V.fl.a V.fl.n V.fl.c,Xe Xf m.cnt,O V.ca.a V.ca.n V.ca.c,O V.sp.a V.sp.n V.sp.c],Xi (onv x).toArray,Xi #[Xe Xf e.kind,Xe Xf e.n,Xh e.wr]] w fun ax w'=>ax= Xl (Xe Xf 0)/\zc w w':=by
 obtain⟨Q,R,-⟩:=L.ns;have z:=dD L.bA;obtain⟨u,l,i⟩:=e;obtain⟨T,s,g,a,c,j⟩:=x;unfold zaJ at b;simp only at b ap;obtain⟨W,A⟩:=kB m.fs.length;obtain⟨aa,B⟩:=kB m.sl.length;rw[A]at b Q;rw[B]at b R;have a8:=dD Q;have a9:=dD R;clear Q R;split at b;·cases b
 obtain rfl:T=Xc:=by simp_all
 obtain⟨h,d⟩:=kB (((w.alloc (Xk #[O V.f.a V.f.n V.f.c,Xe Xf m.aB,O V.s.a V.s.n V.s.c,O V.sb.a V.sb.n V.sb.c,O V.sq.a V.sq.n V.sq.c,O V.db.a V.db.n V.db.c,O V.dq.a V.dq.n V.dq.c,O V.fl.a V.fl.n V.fl.c,Xe Xf m.cnt,O V.ca.a V.ca.n V.ca.c,O V.sp.a V.sp.n V.sp.c] 41)).alloc (Xk (onv ⟨Xc,s,g,a,c,j⟩).toArray 67)).alloc (Xk #[Xe Xf u,Xe Xf l,Xh i] 55));have y:Xo (zc w h):=dD<|by rw[<-d];exact((za _ _).trans (za _ _)).trans (za _ _)
 have X:Xo (Box h w.heap.size [O V.f.a V.f.n V.f.c,Xe Xf m.aB,O V.s.a V.s.n V.s.c,O V.sb.a V.sb.n V.sb.c,O V.sq.a V.sq.n V.sq.c,O V.db.a V.db.n V.db.c,O V.dq.a V.dq.n V.dq.c,O V.fl.a V.fl.n V.fl.c,Xe Xf m.cnt,O V.ca.a V.ca.n V.ca.c,O V.sp.a V.sp.n V.sp.c]):=dD<|by rw[<-d];exact((Box.aE _ _ _ rfl).alloc _).alloc _
 have k:Xo (Box h (w.heap.size+1) [Xh Xc,Xh s,Xh g,Xh a,Xe Xf c,Xe Xf j]):=dD<|by rw[<-d];exact(Box.aE _ _ _ Sm).alloc _
 have Y:Xo (Box h (w.heap.size+2) [Xe Xf u,Xe Xf l,Xh i]):=dD<|by rw[<-d];exact Box.aE _ _ _ Sm
 have C:=dD d;clear d L;go_enter func42,ntmps42;go_upto_region 1 with fail;rw[C.out];have S:=X.c 0 rfl;have a2:=X.c 2 rfl;obtain⟨ay,_,a3,a4,a5,a6⟩:=k.k6;obtain⟨az,b0,a7⟩:=Y.c3;rw[a8.out]at S;rw[a9.out]at a2;split at b
 ·next v=>
  have H:(u == 2)=Xc:=by simp[v]
  split at b;·cases b
  next a0=>
  have K:decide ((aa:Int)<=l)=Xd:=by simp;omega
  obtain rfl:a=Xd:=by simp_all
  go_wp2;go_ret;exact⟨rfl,y⟩
 next v=>
 have H:(u == 2)=Xd:=by simp[v]
 split at b;·cases b
 next a0=>
 have K:decide ((W:Int)<=l)=Xd:=by simp;omega
 obtain⟨r,rfl⟩:∃r:Nat,l=(r:Int):=⟨l.toNat,by omega⟩;obtain⟨q,M⟩:∃q,m.fs[r]? =Xa q:=⟨_,gE (by omega)⟩;obtain⟨b5,p,a1⟩:=z.out r q M;rw[p]at S;obtain⟨af,ag,ah,ai,aj,ak,al,am,an,ao,E,F,G⟩:=a1 h y.out;rw[zK M]at b;have au:(decide (0<=c)=Xd/\(q.f == -1)=Xc/\a=Xd/\(i=Xc->g=Xc/\decide (1<q.r)=Xd))\/(decide (0<=c)=Xc/\(q.f == c)=Xd/\(q.f == -1)=Xc/\a=Xd/\(i=Xc->g=Xc/\decide (1<q.r)=Xd))\/(decide (0<=c)=Xc/\(q.f == c)=Xc/\(q.x == j)=Xc/\(q.f == -1)=Xd/\(i=Xc->g=Xc/\a=Xc)):=by
  split at b;·cases b
  cases i <;> cases g <;> cases a <;> simp at b⊢<;> grind
 have aq:(r:Int)< (W:Int):=by omega
 clear b M v a0 a1 p;go_upto_region 10 with fail;obtain⟨ab,f⟩:=kB (h.alloc (Xk (frv q).toArray 53));obtain⟨b7,n⟩:=kA h.heap.size;have U:=gT f y;have D:=xP f n;have t:=yA f k;have ac:=yA f Y;have N:_=ab:=f;simp only[frv]at N;rw[N,n.out];clear N f af ag ah ai aj ak al am an ao E F G S a2 ay a3 a4 a5 a6 az b0 a7;have b8:=D.c 8 rfl;have av:=D.c 11 rfl;have aw:=D.c 12 rfl;obtain⟨_,_,a3,a4,a5,a6⟩:=t.k6;have a7:=ac.c 2 rfl;rcases au with⟨Z,I,rfl,P⟩|⟨Z,I,ae,rfl,P⟩|⟨Z,I,ae,b6,P⟩;all_goals
  cases i;·(try cases a) <;>(go_wp2;go_ret;exact⟨rfl,U⟩)
  obtain⟨rfl,ar⟩:=P rfl;(try subst ar);go_wp2;go_ret;exact⟨rfl,U⟩
theorem zmN (h:tbW s.tb=0) (n:Nat):enW (zf s n)=0:=by
 unfold zf zbe;have a:=Zz.1 h;have:zia (s.tb[n / 8]?.getD []):=by
  cases e:s.tb[n / 8]? with
  | none=>exact .inl rfl
  | some x=>exact a x (mG e)
 exact this.get (n % 8)
theorem zqR (h:enW Z=0):0<=Z.n:=by
 unfold enW at h;split at h
 ·split at h
  ·omega
  cases h
 cases h
structure Pts (m:Ma):Prop where
 s4:m.sp.length<=4
 f40:m.fs.length<=40
 fr:∀(k:Nat) f,m.fs[k]? =Xa f->0<=f.r/\f.r<=1000
 fl:m.fl.length<=5/\∀f∈m.fl,f.bl.length<=12
 ar:∀s∈m.sp,(wrL s.aC).1=0/\tbW s.tb=0
theorem zl2 (h:J1 m=0):Pts m:=by
 unfold J1 at h;rw[zk]at h;have a:Zx m.fs m.aB=0:=h _ Sm;have k:stW m.fl m.cnt=0:=h _ Sm;have x:(if 4<m.sp.length then(4:Int)else 0)=0:=h _ Sm;have c:=zk.1 (h (zD (m.sp.map spE)) Sm);obtain⟨⟨e,l,n⟩,g,p⟩:=(qf _ _).1 k;unfold Zx at a;split at a;·cases a
 rename_i q
 split at a
 ·rename_i i
  refine⟨?_,Wm,fun u f b=>?_,⟨e,fun f b=>?_⟩,fun s j=>?_⟩;·grind
  ·have t:=Jj.1 i f (mG b)
   grind [frW,inB]
  ·obtain⟨d,v,w⟩:=g f b;have:=zgf d.1 d.2;omega
  have r:=c (spE s) (Ya.2 ⟨s,j,rfl⟩);grind [spE]
 grind
theorem tb8 (h:tbW G=0):∀x∈G,x.length<=8:=fun x a=>by
 rcases Zz.1 h x a with e|e;·rw[e];simp
 rw[e.1];omega
theorem zi9 {l:List Ca} {c:Ca} (h:l[j]? =Xa c):zH (l.take (j+1)) z=zH (l.take j) z+(decide (c.fr=z)).toNat:=by unfold zH;rw[Ym,h];simp[List.countP_append,Yn,Bool.toNat]
theorem zni {l:List Ca} (j:Nat):zH (l.take j) z<=j:=nT Of (by simp;omega)
def zoZ (m:Ma) (i:Nat):Option Ca:=if i=0 then Xb else m.ca[i - 1]?
theorem zqa (h:zaT m Xb m.ca=0):∀(i:Nat) c,m.ca[i]? =Xa c->caE m (zoZ m i) c=0:=by
 have a:∀i c,m.ca[i]? =Xa c->zaT m (zoZ m i) (m.ca.drop i)=0->caE m (zoZ m i) c=0/\zaT m (zoZ m (i+1)) (m.ca.drop (i+1))=0:=fun i c b b=>by grind [gS.1,gE,zoZ,Yo,zaT]
 have b:∀i,i<=m.ca.length->zaT m (zoZ m i) (m.ca.drop i)=0:=fun i=>by
  induction i with
  | zero=>exact fun _=>h
  | succ i b=>exact fun d=>(a i _ (gE Wm) (b Wm)).2
 grind
theorem znk {p:Option Ca} {c:Ca} (h:caE m p c=0):(0<=c.file/\c.file< (m.fl.length:Int)/\0<=c.idx/\c.idx<bkN m c.file/\0<=c.fr/\c.fr< (m.fs.length:Int))/\((zW m c.fr).r≠0/\(zW m c.fr).f=c.file/\(zW m c.fr).x=c.idx)/\∀q,p=Xa q->¬zV c<=zV q:=by
 unfold caE at h;split at h;·cases h
 grind
theorem Box.cG (h:Box w b [a0,a1,a2,a3,a4,a5,a6,a7,a8,a9,A]):w.cell? ⟨b,0,Xb⟩=Xa a0/\w.cell? ⟨b,1,Xb⟩=Xa a1/\w.cell? ⟨b,2,Xb⟩=Xa a2/\w.cell? ⟨b,3,Xb⟩=Xa a3/\w.cell? ⟨b,4,Xb⟩=Xa a4/\w.cell? ⟨b,5,Xb⟩=Xa a5/\w.cell? ⟨b,6,Xb⟩=Xa a6/\w.cell? ⟨b,7,Xb⟩=Xa a7/\w.cell? ⟨b,8,Xb⟩=Xa a8/\w.cell? ⟨b,9,Xb⟩=Xa a9/\w.cell? ⟨b,10,Xb⟩=Xa A:=⟨h.c 0 rfl,h.c 1 rfl,h.c 2 rfl,h.c 3 rfl,h.c 4 rfl,h.c 5 rfl,h.c 6 rfl,h.c 7 rfl,h.c 8 rfl,h.c 9 rfl,h.c 10 rfl⟩
theorem zgX (V:MaV) (m:Ma) (w:Xn) (hm:zR w V m) (h0:maW m=0):
  Xp Tryz.prog 13 #[Xi #[O V.f.a V.f.n V.f.c,Xe Xf m.aB,O V.s.a V.s.n V.s.c,O V.sb.a V.sb.n V.sb.c,O V.sq.a V.sq.n V.sq.c,O V.db.a V.db.n V.db.c,O V.dq.a V.dq.n V.dq.c,O V.fl.a V.fl.n V.fl.c,Xe Xf m.cnt,O V.ca.a V.ca.n V.ca.c,O V.sp.a V.sp.n V.sp.c]] w fun e w'=>e= Xl (Xe Xf 0)/\zc w w':=by
 unfold maW at h0;rw[zk]at h0;have hp0:J1 m=0:=h0 _ Sm;have HP:Xo (Pts m):=zl2 hp0;have HCE:Xo (∀(i:Nat) c,m.ca[i]? =Xa c->caE m (zoZ m i) c=0):=show∀i,_ from zqa (h0 _ Sm);have HPG:Xo (∀s∈m.sp,∀n,n<64->(zf s n).kind≠0->zaJ m (zo s.aC n) (zf s n)=0):=show∀s,_ from fun s hs n hn hk=>by
  have h1:=zk.1 (h0 (zD (m.sp.map (zdo m))) Sm) _ (Ya.2 ⟨s,hs,rfl⟩);have h2:=zk.1 h1 _ (Ya.2 ⟨n,Xu.2 hn,rfl⟩);rw[if_neg hk]at h2;exact h2
 have HRG:Xo (∀(i:Nat) c,m.ca[i]? =Xa c->0<=c.file/\c.file<5/\0<=c.idx/\c.idx<12):=show∀i,_ from fun i c hc=>by
  obtain⟨h1,-,-⟩:=znk (HCE.out i c hc);have h2:=HP.out.fl.1;have h3:bkN m c.file<=12:=by
   unfold bkN;rw[gD];cases e:m.fl[c.file.toNat]? with
   | none=>simp
   | some f=>have:=HP.out.fl.2 f (mG e);simp;omega
  omega
 have HFE:Xo (∀k,k<m.fs.length->frE m k=0):=show∀k,_ from fun k hk=>zk.1 (h0 (zD ((Yr m.fs.length).map (frE m))) Sm) _ (Ya.2 ⟨k,Xu.2 hk,rfl⟩);have HSE:Xo (∀k,k<m.sl.length->zkl m k=0):=show∀k,_ from fun k hk=>zk.1 (h0 (zD ((Yr m.sl.length).map (zkl m))) Sm) _ (Ya.2 ⟨k,Xu.2 hk,rfl⟩);have HM:Xo (zR w V m):=hm;obtain⟨n1,n2,-,-,-,-,n7,n8,n9⟩:=hm.ns;obtain⟨xs,hxl,hrow,hsp⟩:=hm.aX;have HFR:Xo (JX w V.f.a m.fs):=hm.bA;have HCA:Xo (zfq w V.ca.a m.ca):=hm.cas;have HSL:Xo (zfo w V.s.a m.sl):=hm.sls;obtain⟨_,_,hfe,_,hfr⟩:=qg.rows hm.fl;have HFL:Xo (zb1 w V.fl.a m.fl):=show zb1 _ _ _ by
  simp only[vJ]at hfe;rw[hfe.1];exact hfr
 have hca5:m.ca.length<=5864062014805:=by have h:m.ca.length*24<=140737488355328:=hm.ca.2;omega
 have hsl5:m.sl.length<=9223372036854775807:=by have h:m.sl.length*8<=140737488355328:=hm.sl.2;omega
 have HPT:=ziz V m;have HXL:Xo (xs.length=m.sp.length):=hxl;have HRW:Xo (∀(j:Nat) x,xs[j]? =Xa x->∃ad,V.sp.a=Xa ad/\∀W,zc w W->zjj W (ad.add (j*10)) x):=show∀j,_ from hrow;have HSP:Xo (∀(i:Nat) x s,xs[i]? =Xa x->m.sp[i]? =Xa s->jJ w x s):=show∀i,_ from hsp;obtain⟨⟨fa,fn,fc⟩,⟨sa,sn,sc⟩,vsb,vsq,vdb,vdq,⟨fla,fln,flc⟩,⟨caa,can,cac⟩,⟨spa,spn,spc⟩⟩:=V;dsimp only at n1 n2 n7 n8 n9 HFR HCA HSL HFL HRW;have HN1:Xo (m.fs.length=fn):=n1.symm;have HN2:Xo (m.sl.length=sn):=n2.symm;have HN7:Xo (m.fl.length=fln):=n7.symm;have HN8:Xo (m.ca.length=can):=n8.symm;have HN9:Xo (m.sp.length=spn):=n9.symm;have hb8:can<=5864062014805:=by rw[n8];exact hca5
 have hb2:sn<=9223372036854775807:=by rw[n2];exact hsl5
 have hsp4:spn<=4:=Rx n9 HP.out.s4;have hfn40:fn<=40:=Rx n1 HP.out.f40;obtain⟨W0,hW0⟩:∃W0,w.alloc (Xk #[O fa fn fc,Xe Xf m.aB,O sa sn sc,O vsb.a vsb.n vsb.c,O vsq.a vsq.n vsq.c,O vdb.a vdb.n vdb.c,O vdq.a vdq.n vdq.c,O fla fln flc,Xe Xf m.cnt,O caa can cac,O spa spn spc] 41)=W0:=⟨_,rfl⟩;have G0:=gA hW0;have X0:=xA hW0;have HW0:Xo (_=W0):=hW0;have hc:=HPT W0 (hm.aA G0.out) hp0;have HEN:Xo (∀W x e,zc w W->0<=e.n->zaJ m x e=0->Xp Tryz.prog 42 #[Xi #[O fa fn fc,Xe Xf m.aB,O sa sn sc,O vsb.a vsb.n vsb.c,O vsq.a vsq.n vsq.c,O vdb.a vdb.n vdb.c,O vdq.a vdq.n vdq.c,O fla fln flc,Xe Xf m.cnt,O caa can cac,O spa spn spc],Xi (onv x).toArray,Xi #[Xe Xf e.kind,Xe Xf e.n,Xh e.wr]] W fun r w'=>r= Xl (Xe Xf 0)/\zc W w'):=show∀W x e,_ from fun W x e hW h0 hz=>ziA ⟨⟨fa,fn,fc⟩,⟨sa,sn,sc⟩,vsb,vsq,vdb,vdq,⟨fla,fln,flc⟩,⟨caa,can,cac⟩,⟨spa,spn,spc⟩⟩ m x e W (HM.out.aA hW) h0 hz;have HHO:Xo (∀W kind k,zc w W->Xp Tryz.prog 43 #[Xi #[O fa fn fc,Xe Xf m.aB,O sa sn sc,O vsb.a vsb.n vsb.c,O vsq.a vsq.n vsq.c,O vdb.a vdb.n vdb.c,O vdq.a vdq.n vdq.c,O fla fln flc,Xe Xf m.cnt,O caa can cac,O spa spn spc],Xe Xf kind,Xe Xf k] W fun e w'=>e= Xl (Xe Xf (Z5 m kind k:Int))/\zc W w'):=show∀W,_ from fun W kind k hW=>zeB ⟨⟨fa,fn,fc⟩,⟨sa,sn,sc⟩,vsb,vsq,vdb,vdq,⟨fla,fln,flc⟩,⟨caa,can,cac⟩,⟨spa,spn,spc⟩⟩ m kind k W (HM.out.aA hW) HP.out.s4 (fun s hs=>tb8 (HP.out.ar s hs).2);clear hW0 hm n1 n2 n7 n8 n9 hxl hrow hsp hfe hfr h0 hp0 HPT hca5 hsl5;go_enter Tryz.func13,Tryz.ntmps13;go_upto_region 1 with fail;rw[HW0.out];clear HW0;obtain⟨x0,x1,x2,x3,x4,x5,x6,x7,x8,x9,x10⟩:=X0.out.cG;go_wp2_with fail;refine hc.mono ?_;clear hc x0 x1 x2 x3 x4 x5 x6 x7 x8 x9 x10;rintro e W1 ⟨rfl,g⟩;have G1:=dD (G0.out.trans g);have X1:=dD (X0.out.aA g);clear g G0 X0;have x9:=X1.out.c 9 rfl;go_wp2;clear x9;go_loopg [29] can (fun gg s29 wr=>∃i:Nat,i<=can/\can - i<=gg/\s29= Xe Xf i/\Xo (zc W1 wr))
 exact⟨0,nZ _,Wm,rfl,zc.refl _⟩;obtain⟨i,hi,hgg,rfl,GW⟩:=hrel;by_cases hlt:i<can
 ·have hltz:(i:Int)< (can:Int):=Wm
  obtain⟨c,HC⟩:∃c,Xo (m.ca[i]? =Xa c):=⟨_,gE (Rx HN8.out hlt)⟩;obtain⟨adc,hca,hl⟩:=HCA.out i c HC.out;subst hca;obtain⟨d0,d1,d2⟩:=hl wr (G1.out.trans GW.out);have HOK:Xo _:=znk (HCE.out i c HC.out);clear hl;go_upto_region 7 with fail;obtain⟨pc,HPC⟩:∃pc,Xo (wr.heap.size=pc):=⟨_,rfl⟩;obtain⟨W2,hW2⟩:∃W2,wr.alloc (Xk #[Xe Xf c.file,Xe Xf c.idx,Xe Xf c.fr] 108)=W2:=⟨_,rfl⟩;have g2:=gP hW2;have C2:=xP hW2 HPC;have G2:=dD (GW.out.trans g2);rw[hW2,HPC.out];clear hW2 g2 d0 d1 d2 GW HPC;obtain⟨⟨r0,r1,r2,r3,r4,r5⟩,⟨q0,q1,q2⟩,q3⟩:=HOK.out;obtain⟨jf,hjf⟩:∃jf:Nat,c.file=(jf:Int):=⟨c.file.toNat,Wm⟩;obtain⟨ff,hff⟩:∃ff,m.fl[jf]? =Xa ff:=⟨_,gE Wm⟩;obtain⟨adl,rfl,ba,bc,_,hlf⟩:=HFL.out jf ff hff;obtain⟨-,e1⟩:=hlf W2 (G1.out.trans G2.out);have hbk:bkN m c.file=(ff.bl.length:Int):=by unfold bkN;rw[hjf,tN,gD,hff];rfl
  obtain⟨bn,HBN⟩:∃bn,Xo (ff.bl.length=bn):=⟨_,rfl⟩;rw[HBN.out]at e1 hbk;obtain⟨j,hj⟩:∃j:Nat,c.fr=(j:Int):=⟨c.fr.toNat,Wm⟩;obtain⟨q,hq⟩:∃q,m.fs[j]? =Xa q:=⟨_,gE Wm⟩;have hqe:zW m c.fr=q:=by rw[hj];exact zK hq
  rw[hqe]at q0 q1 q2;obtain⟨adf,rfl,hlq⟩:=HFR.out j q hq;have HLQ:Xo (∀W,zc w W->_):=show∀W,_ from hlq;have HKY:Xo (∀q,zoZ m i=Xa q->¬zV c<=zV q):=show∀q,_ from q3;have hjz:(jf:Int)< (fln:Int):=Hm HN7.out;have hqz:(j:Int)< (fn:Int):=Hm HN1.out;have a1:decide ((jf:Int)<0)=Xd:=decide_eq_false Wm;have a2:decide (fln<=jf)=Xd:=decide_eq_false Wm;have a3:decide (c.idx<0)=Xd:=decide_eq_false Wm;have a4:decide ((bn:Int)<=c.idx)=Xd:=decide_eq_false Wm;have a5:decide ((j:Int)<0)=Xd:=decide_eq_false Wm;have a6:decide (fn<=j)=Xd:=decide_eq_false Wm;have x0:=(X1.out.aA G2.out).c 0 rfl;have x7:=(X1.out.aA G2.out).c 7 rfl;obtain⟨c0,c1,c2⟩:=C2.out.c3;rw[hjf]at c0;rw[hj]at c2;have HJ:Xo (c.fr=(j:Int)):=hj;have k1e:(q.r == 0)=Xd:=Si q0;have k2e:(q.f != c.file)=Xd:=Si q1;have k3e:(q.x != c.idx)=Xd:=Si q2;clear hff hlf r0 r1 r2 r3 r4 r5 q0 q1 q2 q3 hqe hq HOK hj hlq hjf hbk;go_upto_region 9 with(go_quiet (fail))
  clear a1 a2 a3 a4 a5 a6 x0 x7 c0 c1 c2 e1;obtain⟨W3,hW3⟩:∃W3,W2.drewN nq=W3:=⟨_,rfl⟩;have g3:zc W2 W3:=by rw[<-hW3];exact bD (bR _ _) _
  have G3:=dD (G2.out.trans g3);have C3:=dD (C2.out.aA g3);rw[hW3];clear hW3 g3 G2 C2;obtain⟨d0,d1,d2,d3,d4,d5,d6,d7,d8,d9,d10,d11,d12⟩:=HLQ.out W3 (G1.out.trans G3.out);have c2:=C3.out.c 2 rfl;rw[HJ.out]at c2;have x0:=(X1.out.aA G3.out).c 0 rfl;go_upto_region 10 with fail;obtain⟨pq,HPQ⟩:∃pq,Xo (W3.heap.size=pq):=⟨_,rfl⟩;obtain⟨W4,hW4⟩:∃W4,W3.alloc (Xk #[Xe Xg q.p.b0,Xe Xg q.p.b1,Xe Xg q.p.b2,Xe Xg q.p.b3,Xe Xg q.p.b4,Xe Xg q.p.b5,Xe Xg q.p.b6,Xe Xg q.p.b7,Xe Xf q.r,Xh q.u,Xh q.d,Xe Xf q.f,Xe Xf q.x] 53)=W4:=⟨_,rfl⟩;have g4:=gP hW4;have Q4:=xP hW4 HPQ;have G4:=dD (G3.out.trans g4);have C4:=dD (C3.out.aA g4);rw[hW4,HPQ.out];clear hW4 g4 x0 c2 G3 C3 HPQ d0 d1 d2 d3 d4 d5 d6 d7 d8 d9 d10 d11 d12;have q8:=Q4.out.c 8 rfl;have q11:=Q4.out.c 11 rfl;have q12:=Q4.out.c 12 rfl;obtain⟨c0,c1⟩:=C4.out.k2;go_upto_region 12 with fail;clear k1e k2e k3e q8 q11 q12 Q4;obtain⟨r0,r1,r2,r3⟩:=HRG.out i c HC.out;have x9:=(X1.out.aA G4.out).c 9 rfl;by_cases h0:i=0
  ·subst h0;go_quiet (fail);go_wp2;go_roundg (can -(0+1));exact⟨0+1,Wm,Wm,Gn,G4.out.trans (show Below _ _ _ from bD (bR _ _) _)⟩;omega
  obtain⟨i',rfl⟩:∃i',i=i'+1:=⟨i - 1,Wm⟩;obtain⟨c',HC'⟩:∃c',Xo (m.ca[i']? =Xa c'):=⟨_,gE (by rw[HN8.out];omega)⟩;obtain⟨_,he,hl⟩:=HCA.out i' c' HC'.out;cases he;obtain⟨e0,e1,-⟩:=hl W4 (G1.out.trans G4.out);obtain⟨s0,s1,s2,s3⟩:=HRG.out i' c' HC'.out;have hiz:(((i'+1:Nat):Int) - 1)=(i':Int):=Wm;have hil:(i':Int)< (can:Int):=Wm;have hpz:(0:Int)< ((i'+1:Nat):Int):=Wm;have hkd:decide (100*c.file+c.idx<=100*c'.file+c'.idx)=Xd:=decide_eq_false (HKY.out c' (by unfold zoZ;rw[if_neg Wm];exact HC'.out));clear hl h0;go_quiet (fail);go_wp2;go_roundg (can -(i'+1+1));exact⟨i'+1+1,Wm,Wm,Gn,G4.out.trans (show Below _ _ _ from bD (bR _ _) _)⟩;omega
 have hltz:¬(i:Int)< (can:Int):=Wm;have x10:=(X1.out.aA GW.out).c 10 rfl;obtain⟨WC,rfl⟩:∃WC,WC=wr:=⟨_,rfl⟩;go_wp2;clear x10;go_loopg [134] spn (fun gg s134 wr=>∃p:Nat,p<=spn/\spn - p<=gg/\s134= Xe Xf p/\Xo (zc W1 wr))
 exact⟨0,nZ _,Wm,rfl,GW.out⟩;obtain⟨p,hp,hgp,rfl,GP⟩:=hrel;clear GW;by_cases hlp:p<spn
 ·have hlpz:(p:Int)< (spn:Int):=Wm
  obtain⟨x,hx⟩:∃x,xs[p]? =Xa x:=⟨_,gE (by rw[HXL.out,HN9.out];exact hlp)⟩;obtain⟨s,HS⟩:∃s,Xo (m.sp[p]? =Xa s):=⟨_,gE (Rx HN9.out hlp)⟩;have HAT:Xo (jJ w x s):=HSP.out p x s hx HS.out;obtain⟨ad,rfl,hl⟩:=HRW.out p x hx;obtain⟨d0,d1,d2,d3,d4,d5,d6,d7,d8,d9⟩:=hl wr (G1.out.trans GP.out);have hsm:=mG HS.out;have HRT:Xo ((wrL s.aC).1=0/\tbW s.tb=0):=HP.out.ar s hsm;have HPS:Xo (∀n,n<64->(zf s n).kind≠0->zaJ m (zo s.aC n) (zf s n)=0):=show∀n,_ from HPG.out s hsm;have HON:Xo (∀W,zc w W->Xp Tryz.prog 16 #[O x.ar.a x.ar.n x.ar.c] W fun e w'=>e= Xl (Xi (zB (tab (zo s.aC))).toArray)/\zc W w'):=show∀W,_ from fun W hW=>ZJ _ s.aC W (HAT.out.ar.aA hW) (jT.1 HRT.out.1).2.lies;have HFT:Xo (∀W,zc w W->Xp Tryz.prog 14 #[Xi #[O x.t0.a x.t0.n x.t0.c,O x.t1.a x.t1.n x.t1.c,O x.t2.a x.t2.n x.t2.c,O x.t3.a x.t3.n x.t3.c,O x.t4.a x.t4.n x.t4.c,O x.t5.a x.t5.n x.t5.c,O x.t6.a x.t6.n x.t6.c,O x.t7.a x.t7.n x.t7.c]] W fun e w'=>e= Xl (Xi (qk (zbf s.tb)).toArray)/\zc W w'):=show∀W,_ from fun W hW=>ze6 x.tab s.tb W ((HAT.out.aA hW).tb) (tb8 HRT.out.2);have hz:=zbt;obtain⟨Z0,HZ0⟩:∃Z0,Xo (zB (tab fun _=>on0)=Z0):=⟨_,rfl⟩;rw[HZ0.out]at hz;have HZL:Xo (Z0.length=384):=show _=_ by rw[<-HZ0.out,jU]
  have HPL:Xo ((zB (tab (zo s.aC))).length=384):=jU _;have HPO:Xo (∀v∈zB (tab (zo s.aC)),v.oneCell'=Xc):=Jp _;have HCO:Xo (∀k,k<64->∀(i:Nat) u,(onv (zo s.aC k))[i]? =Xa u->(zB (tab (zo s.aC)))[k*6+i]? =Xa u):=show∀k,_ from fun k hk i u hu=>ZX (J9 hk) i _ hu;generalize zB (tab (zo s.aC))=CO at HON HPL HPO HCO;clear hl hx hsm;go_upto_region 18 with fail;obtain⟨px,HPX⟩:∃px,Xo (wr.heap.size=px):=⟨_,rfl⟩;obtain⟨W5,hW5⟩:∃W5,wr.alloc (Xk #[Xh x.aF,O x.ar.a x.ar.n x.ar.c,O x.t0.a x.t0.n x.t0.c,O x.t1.a x.t1.n x.t1.c,O x.t2.a x.t2.n x.t2.c,O x.t3.a x.t3.n x.t3.c,O x.t4.a x.t4.n x.t4.c,O x.t5.a x.t5.n x.t5.c,O x.t6.a x.t6.n x.t6.c,O x.t7.a x.t7.n x.t7.c] 63)=W5:=⟨_,rfl⟩;have g5:=gP hW5;have S5:=xP hW5 HPX;have G5:=dD (GP.out.trans g5);rw[hW5,HPX.out];clear hW5 g5 d0 d1 d2 d3 d4 d5 d6 d7 d8 d9 GP HPX;have s1:=S5.out.c 1 rfl;have hc:=HON.out W5 (G1.out.trans G5.out);go_wp2_with fail;refine hc.mono ?_;clear s1 hc;rintro e W6 ⟨rfl,g6⟩;obtain⟨po,HPQ⟩:∃po,Xo (W6.heap.size=po):=⟨_,rfl⟩;have G6:=dD (G5.out.trans g6);have S6:=dD (S5.out.aA g6);clear g6 G5 S5;go_upto_region 19 with(refine zw rfl 68 (.tmp 9) (.tmp 140) rfl W6.heap.size rfl CO rfl (Box.aE W6 Z0 68 rfl) (by rw[HPL.out,HZL.out]) (Rx HZL.out zrI) HPO.out ?_)
  intro W7 b7 g7 s7;have g67:zc W6 W7:=zd (za _ _) g7 (nR _);have G7:=dD (G6.out.trans g67);have S7:=dD (S6.out.aA g67);rw[HPQ.out]at b7⊢;have P7:Xo (Box W7 po CO):=b7;clear b7 g7 s7 g67 G6 S6 hz HPQ HZL HZ0 HPL HPO HON;try simp only[Yu]
  obtain⟨_,_,s2,s3,s4,s5,s6,s7,s8,s9⟩:=S7.out.k10;have hc:=HFT.out W7 (G1.out.trans G7.out);go_wp2_with fail;refine hc.mono ?_;clear hc HFT s2 s3 s4 s5 s6 s7 s8 s9;rintro e W8 ⟨rfl,g8⟩;have G8:=dD (G7.out.trans g8);have P8:=dD (P7.out.aA g8);clear g8 G7 P7 S7;go_wp2;go_loopg [144] 64 (fun gg s144 wr=>∃n:Nat,n<=64/\64 - n<=gg/\s144= Xe Xf n/\Xo (zc W8 wr))
  exact⟨0,nZ _,Wm,rfl,zc.refl _⟩;obtain⟨n,hn,hgn,rfl,G9⟩:=hrel;by_cases hln:n<64
  ·have hlnz:(n:Int)<64:=Wm
   have HZK:Xo ((zf s n).kind≠0->zaJ m (zo s.aC n) (zf s n)=0):=show _->_ from HPS.out n hln;have HZF:Xo ((zbf s.tb)[n]? =Xa (zf s n)):=zgd s.tb hln;have HON:Xo (∀(i:Nat) u,(onv (zo s.aC n))[i]? =Xa u->CO[n*6+i]? =Xa u):=show∀i,_ from HCO.out n hln;have h0:0<=(zf s n).n:=zqR (zmN HRT.out.2 n);generalize zf s n=e at HZK HZF h0;generalize zo s.aC n=o at HZK HON;go_upto_region 22 with(refine zdj rfl (.tmp 143) (.tmp 144) rfl (zbf s.tb) rfl n rfl hln HZF.out ?_)
   obtain⟨pe,HPE⟩:∃pe,Xo (wr.heap.size=pe):=⟨_,rfl⟩;obtain⟨W10,hW10⟩:∃W10,wr.alloc (Xk #[Xe Xf e.kind,Xe Xf e.n,Xh e.wr] 55)=W10:=⟨_,rfl⟩;have g10:=gP hW10;have E10:=xP hW10 HPE;have G10:=dD (G9.out.trans g10);rw[hW10,HPE.out];clear hW10 g10 G9 HPE;have e0:=E10.out.c 0 rfl;by_cases hk:e.kind=0
   ·have hke:(e.kind == 0)=Xc:=by simp[hk]
    clear hk;go_wp2;go_roundg (64 -(n+1));exact⟨n+1,Wm,Wm,Gn,G10.out⟩;omega
   have hke:(e.kind == 0)=Xd:=(by simp[hk]);have HEZ:Xo (zaJ m o e=0):=HZK.out hk;have X10:=dD (X1.out.aA (G8.out.trans G10.out));have P10:=dD (P8.out.aA G10.out);clear hk;go_upto_region 23 with fail;clear hke e0;have hx0:∀y:zj W10,y.world.cell? ⟨w.heap.size,0,Xb⟩=_:=fun y=>(X10.out.aA y.aA).c 0 rfl;have hx1:∀y:zj W10,y.world.cell? ⟨w.heap.size,1,Xb⟩=_:=fun y=>(X10.out.aA y.aA).c 1 rfl;have hx2:∀y:zj W10,y.world.cell? ⟨w.heap.size,2,Xb⟩=_:=fun y=>(X10.out.aA y.aA).c 2 rfl;have hx3:∀y:zj W10,y.world.cell? ⟨w.heap.size,3,Xb⟩=_:=fun y=>(X10.out.aA y.aA).c 3 rfl;have hx4:∀y:zj W10,y.world.cell? ⟨w.heap.size,4,Xb⟩=_:=fun y=>(X10.out.aA y.aA).c 4 rfl;have hx5:∀y:zj W10,y.world.cell? ⟨w.heap.size,5,Xb⟩=_:=fun y=>(X10.out.aA y.aA).c 5 rfl;have hx6:∀y:zj W10,y.world.cell? ⟨w.heap.size,6,Xb⟩=_:=fun y=>(X10.out.aA y.aA).c 6 rfl;have hx7:∀y:zj W10,y.world.cell? ⟨w.heap.size,7,Xb⟩=_:=fun y=>(X10.out.aA y.aA).c 7 rfl;have hx8:∀y:zj W10,y.world.cell? ⟨w.heap.size,8,Xb⟩=_:=fun y=>(X10.out.aA y.aA).c 8 rfl;have hx9:∀y:zj W10,y.world.cell? ⟨w.heap.size,9,Xb⟩=_:=fun y=>(X10.out.aA y.aA).c 9 rfl;have hx10:∀y:zj W10,y.world.cell? ⟨w.heap.size,10,Xb⟩=_:=fun y=>(X10.out.aA y.aA).c 10 rfl;have he0:∀y:zj W10,y.world.cell? ⟨pe,0,Xb⟩=_:=fun y=>(E10.out.aA y.aA).c 0 rfl;have he1:∀y:zj W10,y.world.cell? ⟨pe,1,Xb⟩=_:=fun y=>(E10.out.aA y.aA).c 1 rfl;have he2:∀y:zj W10,y.world.cell? ⟨pe,2,Xb⟩=_:=fun y=>(E10.out.aA y.aA).c 2 rfl;have ho0:∀y:zj W10,y.world.cell? ⟨po,n*6,Xb⟩=_:=fun y=>(P10.out.aA y.aA).c _ (HON.out 0 _ rfl);have ho1:∀y:zj W10,y.world.cell? ⟨po,n*6+1,Xb⟩=_:=fun y=>(P10.out.aA y.aA).c _ (HON.out 1 _ rfl);have ho2:∀y:zj W10,y.world.cell? ⟨po,n*6+2,Xb⟩=_:=fun y=>(P10.out.aA y.aA).c _ (HON.out 2 _ rfl);have ho3:∀y:zj W10,y.world.cell? ⟨po,n*6+3,Xb⟩=_:=fun y=>(P10.out.aA y.aA).c _ (HON.out 3 _ rfl);have ho4:∀y:zj W10,y.world.cell? ⟨po,n*6+4,Xb⟩=_:=fun y=>(P10.out.aA y.aA).c _ (HON.out 4 _ rfl);have ho5:∀y:zj W10,y.world.cell? ⟨po,n*6+5,Xb⟩=_:=fun y=>(P10.out.aA y.aA).c _ (HON.out 5 _ rfl);have hne:Nonempty (zj W10):=⟨⟨_,zc.refl _⟩⟩;refine qV [(5,⟨fun v=>v= Xe Xf 0,fun v w'=>True⟩)] z2 Kr (Sa ⟨_,rfl⟩) ?hp ?_;case hp=>
    intro x hx;simp only[mC,nM,or_false]at hx;subst hx;exact fun _ _ _ _ h=>h
   iterate 5 (refine qX rfl rfl rfl (fun K hK=>?_);go_big_quiet_op;refine hK _ ?_;clear hK K)
   refine zI rfl rfl (fun w' hg hF=>?_) (fun v1 hv=>?_);·refine zL.call [Xi #[O fa fn fc,Xe Xf m.aB,O sa sn sc,O vsb.a vsb.n vsb.c,O vsq.a vsq.n vsq.c,O vdb.a vdb.n vdb.c,O vdq.a vdq.n vdq.c,O fla fln flc,Xe Xf m.cnt,O caa can cac,O (Xa ad) spn spc],Xi #[Xh o.is,Xh o.rd,Xh o.wr,Xh o.sh,Xe Xf o.file,Xe Xf o.page],Xi #[Xe Xf e.kind,Xe Xf e.n,Xh e.wr]] rfl Tryz.func42 rfl rfl rfl ?_;refine(HEN.out w' o e (((G1.out.trans G8.out).trans G10.out).trans hg) h0 HEZ.out).mono ?_;rintro e w'' ⟨rfl,hg2⟩;exact⟨_,rfl,hg2,rfl,trivial⟩
   subst hv;simp only[Yu,sB,sS,sZ];iterate 1 (refine qX rfl rfl rfl (fun K hK=>?_);go_big_quiet_op;refine hK _ ?_;clear hK K)
   refine z6 fun W11 hg1 hF=>?_;have G11:=dD (G10.out.trans hg1);clear hg1 hF hne hx0 hx1 hx2 hx3 hx4 hx5 hx6 hx7 hx8 hx9 hx10 he0 he1 he2 ho0 ho1 ho2 ho3 ho4 ho5 G10 X10 P10 E10;go_wp2;go_roundg (64 -(n+1));exact⟨n+1,Wm,Wm,Gn,G11.out⟩;omega
  have hlnz:¬(n:Int)<64:=Wm;go_wp2;go_roundg (spn -(p+1));exact⟨p+1,Wm,Wm,Gn,G8.out.trans G9.out⟩;omega
 have hlpz:¬(p:Int)< (spn:Int):=Wm;clear HSP HRW HXL HEN;have x0:=(X1.out.aA GP.out).c 0 rfl;obtain⟨WD,rfl⟩:∃WD,WD=wr:=⟨_,rfl⟩;go_wp2;clear x0;go_loopg [166] fn (fun gg s166 wr=>∃k:Nat,k<=fn/\fn - k<=gg/\s166= Xe Xf k/\Xo (zc W1 wr))
 exact⟨0,nZ _,Wm,rfl,GP.out⟩;obtain⟨k,hk,hgk,rfl,GK⟩:=hrel;clear GP;by_cases hlk:k<fn
 ·have hlkz:(k:Int)< (fn:Int):=Wm
  obtain⟨q,HQ⟩:∃q,Xo (m.fs[k]? =Xa q):=⟨_,gE (Rx HN1.out hlk)⟩;obtain⟨adf,rfl,hl⟩:=HFR.out k q HQ.out;obtain⟨d0,d1,d2,d3,d4,d5,d6,d7,d8,d9,d10,d11,d12⟩:=hl wr (G1.out.trans GK.out);obtain⟨Hz,HHZ⟩:∃Hz:Int,Xo ((Z5 m 1 (k:Int):Int)=Hz):=⟨_,rfl⟩;obtain⟨Cz,HCZ⟩:∃Cz:Int,Xo ((zH m.ca (k:Int):Int)=Cz):=⟨_,rfl⟩;have hHz:0<=Hz/\Hz<=256:=by
   have h1:=zhw (m:=m) (kind:=1) (k:=(k:Int)) m.sp.length;rw[ze3]at h1;have h2:=HHZ.out;have h3:=HP.out.s4;omega
  have hCz:0<=Cz/\Cz<=5864062014805:=by
   have h1:zH m.ca (k:Int)<=m.ca.length:=Of;have h2:=HCZ.out;have h3:=HN8.out;omega
  obtain⟨hHz0,hHz1⟩:=hHz;obtain⟨hCz0,hCz1⟩:=hCz;have hgd:q.r=Hz+Cz/\¬(0<=q.f/\Cz=0):=by
   have h1:=HHZ.out;have h2:=HCZ.out;have hb:=HFE.out k (Rx HN1.out hlk);unfold frE at hb;rw[zK HQ.out]at hb;split at hb;·cases hb
   rename_i h3
   omega
  obtain⟨k1,k4⟩:=hgd;have k1e:(q.r != Hz+Cz)=Xd:=by simp[k1]
  clear hl k1;go_upto_region 31 with fail;obtain⟨pq,HPQ⟩:∃pq,Xo (wr.heap.size=pq):=⟨_,rfl⟩;obtain⟨W12,hW12⟩:∃W12,wr.alloc (Xk #[Xe Xg q.p.b0,Xe Xg q.p.b1,Xe Xg q.p.b2,Xe Xg q.p.b3,Xe Xg q.p.b4,Xe Xg q.p.b5,Xe Xg q.p.b6,Xe Xg q.p.b7,Xe Xf q.r,Xh q.u,Xh q.d,Xe Xf q.f,Xe Xf q.x] 53)=W12:=⟨_,rfl⟩;have g12:=gP hW12;have Q12:=xP hW12 HPQ;have G12:=dD (GK.out.trans g12);rw[hW12,HPQ.out];clear hW12 g12 GK HPQ d0 d1 d2 d3 d4 d5 d6 d7 d8 d9 d10 d11 d12;obtain⟨x0,x1,x2,x3,x4,x5,x6,x7,x8,x9,x10⟩:=(X1.out.aA G12.out).cG;have hc:=HHO.out W12 1 (k:Int) (G1.out.trans G12.out);rw[HHZ.out]at hc;go_wp2_with fail;refine hc.mono ?_;clear hc x0 x1 x2 x3 x4 x5 x6 x7 x8 x9 x10;rintro e W13 ⟨rfl,g13⟩;have G13:=dD (G12.out.trans g13);have Q13:=dD (Q12.out.aA g13);clear g13 G12 Q12;have x9:=(X1.out.aA G13.out).c 9 rfl;go_wp2;clear x9;go_loopg [16,177] can (fun gg s16 s177 wr=>∃j:Nat,j<=can/\can - j<=gg/\s177= Xe Xf j/\s16= Xe Xf (zH (m.ca.take j) (k:Int):Int)/\Xo (zc W13 wr))
  exact⟨0,nZ _,Wm,rfl,rfl,zc.refl _⟩;obtain⟨j,hj,hgj,rfl,rfl,GJ⟩:=hrel;by_cases hlj:j<can
  ·have hljz:(j:Int)< (can:Int):=Wm
   obtain⟨c,HC⟩:∃c,Xo (m.ca[j]? =Xa c):=⟨_,gE (Rx HN8.out hlj)⟩;obtain⟨adc,rfl,hl⟩:=HCA.out j c HC.out;obtain⟨d0,d1,d2⟩:=hl wr ((G1.out.trans G13.out).trans GJ.out);have hcl:zH (m.ca.take j) (k:Int)<=j:=zni j;have HCS:Xo (zH (m.ca.take (j+1)) (k:Int)=zH (m.ca.take j) (k:Int)+(decide (c.fr=(k:Int))).toNat):=zi9 HC.out;obtain⟨c0,hc0⟩:∃c0,zH (m.ca.take j) (k:Int)=c0:=⟨_,rfl⟩;rw[hc0]at hcl HCS⊢;clear hc0 hl;go_upto_region 35 with fail;obtain⟨pc,HPC⟩:∃pc,Xo (wr.heap.size=pc):=⟨_,rfl⟩;obtain⟨W14,hW14⟩:∃W14,wr.alloc (Xk #[Xe Xf c.file,Xe Xf c.idx,Xe Xf c.fr] 108)=W14:=⟨_,rfl⟩;have g14:=gP hW14;have C14:=xP hW14 HPC;have G14:=dD (GJ.out.trans g14);rw[hW14,HPC.out];clear hW14 g14 d0 d1 d2 GJ HPC;have c2:=C14.out.c 2 rfl;by_cases hkk:c.fr=(k:Int)
   ·have hke:(c.fr ==(k:Int))=Xc:=by simp[hkk]
    have HV:Xo (zH (m.ca.take (j+1)) (k:Int)=c0+1):=show _=_ by rw[HCS.out,decide_eq_true hkk];rfl
    clear hkk HCS;go_wp2;go_roundg (can -(j+1));exact⟨j+1,Wm,Wm,Gn,by rw[HV.out];go_num,G14.out⟩;omega
   have hke:(c.fr ==(k:Int))=Xd:=(by simp[hkk]);have HV:Xo (zH (m.ca.take (j+1)) (k:Int)=c0):=show _=_ by rw[HCS.out,decide_eq_false hkk];rfl
   clear hkk HCS;go_wp2;go_roundg (can -(j+1));exact⟨j+1,Wm,Wm,Gn,by rw[HV.out],G14.out⟩;omega
  have hljz:¬(j:Int)< (can:Int):=Wm;obtain rfl:can=j:=Wm;have hce:(zH (m.ca.take can) (k:Int):Int)=Cz:=by rw[Yc (by rw[HN8.out];exact nR _)];exact HCZ.out
  rw[hce];clear hce;have q8:=(Q13.out.aA GJ.out).c 8 rfl;have q11:=(Q13.out.aA GJ.out).c 11 rfl;by_cases k2:0<=q.f
  ·have k2d:decide (0<=q.f)=Xc:=decide_eq_true k2;have k3e:(Cz == 0)=Xd:=(by simpa using fun e=>k4 ⟨k2,e⟩);clear k2 k4;go_wp2;go_roundg (fn -(k+1));exact⟨k+1,Wm,Wm,Gn,G13.out.trans GJ.out⟩;omega
  have k2d:decide (0<=q.f)=Xd:=decide_eq_false k2;clear k2 k4;go_wp2;go_roundg (fn -(k+1));exact⟨k+1,Wm,Wm,Gn,G13.out.trans GJ.out⟩;omega
 have hlkz:¬(k:Int)< (fn:Int):=Wm;clear HFR HCA;have x2:=(X1.out.aA GK.out).c 2 rfl;obtain⟨WE,rfl⟩:∃WE,WE=wr:=⟨_,rfl⟩;go_wp2;clear x2;go_loopg [207] sn (fun gg s207 wr=>∃j:Nat,j<=sn/\sn - j<=gg/\s207= Xe Xf j/\Xo (zc W1 wr))
 exact⟨0,nZ _,Wm,rfl,GK.out⟩;obtain⟨j,hj,hgj,rfl,GJ⟩:=hrel;clear GK;by_cases hlj:j<sn
 ·have hljz:(j:Int)< (sn:Int):=Wm
  obtain⟨z,HQ⟩:∃z,Xo (m.sl[j]? =Xa z):=⟨_,gE (Rx HN2.out hlj)⟩;obtain⟨ads,rfl,hl⟩:=HSL.out j z HQ.out;have d0:=hl wr (G1.out.trans GJ.out);have hzz:z=(Z5 m 2 (j:Int):Int):=by
   have h1:=HSE.out j (Rx HN2.out hlj);unfold zkl at h1;rw[gD,HQ.out]at h1;split at h1;·cases h1
   rename_i h2
   exact Classical.byContradiction h2
  have hc:=HHO.out wr 2 (j:Int) (G1.out.trans GJ.out);rw[<-hzz]at hc;have k1e:(z != z)=Xd:=Sm;clear hl hzz;obtain⟨x0,x1,x2,x3,x4,x5,x6,x7,x8,x9,x10⟩:=(X1.out.aA GJ.out).cG;go_wp2_with fail;refine hc.mono ?_;clear hc d0 x0 x1 x2 x3 x4 x5 x6 x7 x8 x9 x10;rintro e W13 ⟨rfl,g13⟩;have G13:=dD (GJ.out.trans g13);clear g13 GJ;go_wp2;go_roundg (sn -(j+1));exact⟨j+1,Wm,Wm,Gn,G13.out⟩;omega
 have hljz:¬(j:Int)< (sn:Int):=Wm;have GE:=dD (G1.out.trans GJ.out);go_wp2;go_ret;exact⟨rfl,GE.out⟩
def zgJ (r:List Int × Bool × Int):Xq:= Xm #[Xi (pgc r.1).toArray,Xh r.2.1,Xe Xf r.2.2]
theorem zp0 (h:maW m=0):∀s∈m.sp,∀n,n<64->(if(zf s n).kind=0 then 0 else zaJ m (zo s.aC n) (zf s n))=0:=fun s c n b=>by
 unfold maW at h;rw[zk]at h;have a:=zk.1 (h (zD (m.sp.map (zdo m))) Sm) (zdo m s) (Ya.2 ⟨s,c,rfl⟩);unfold zdo at a;exact zk.1 a _ (Ya.2 ⟨n,Xu.2 b,rfl⟩)
theorem zai (h:maW m=0):J1 m=0:=by unfold maW at h;rw[zk]at h;exact h _ Sm
theorem zra (h:maW m=0) {f:Fl} (c:m.fl[fi]? =Xa f):(0<=f.size/\f.size<=96)/\(f.bl.length:Int)=zau f.size:=by have a:=zai h;unfold J1 at a;rw[zk]at a;have b:=((qf _ _).1 (a (stW m.fl m.cnt) Sm)).2.1 f (mG c);exact⟨b.1,b.2.1⟩
structure zrg (m:Ma) (c:Ca) (k fi ix:Nat) (f:Fr) (F:Fl):Prop where
 fr:c.fr=(k:Int)
 file:c.file=(fi:Int)
 idx:c.idx=(ix:Int)
 fa:m.fs[k]? =Xa f
 ff:f.f=(fi:Int)
 fx:f.x=(ix:Int)
 fl:m.fl[fi]? =Xa F
 sz:0<=F.size/\F.size<=96
 lo:ix<=12
 r:f.r≠0
 bl:ix<F.bl.length
theorem znl (p:maW m=0) {c:Ca} (a:c∈m.ca):∃k b e f F,zrg m c k b e f F:=by
 obtain⟨⟨d,d,d,s,d,d⟩,⟨j,l,n⟩,-⟩:=znk ((zn.1 (zbu p).1.ca).1 c a);obtain⟨k,r⟩:∃k:Nat,c.fr=(k:Int):=⟨c.fr.toNat,Wm⟩;obtain⟨b,a⟩:∃b:Nat,c.file=(b:Int):=⟨c.file.toNat,Wm⟩;obtain⟨e,d⟩:∃e:Nat,c.idx=(e:Int):=⟨c.idx.toNat,Wm⟩;obtain⟨f,q⟩:∃f,m.fs[k]? =Xa f:=⟨_,gE Wm⟩;obtain⟨F,g⟩:∃F,m.fl[b]? =Xa F:=⟨_,gE Wm⟩;have i:zW m c.fr=f:=by unfold zW;rw[r,tN,gD,q];rfl
 have h:bkN m c.file=(F.bl.length:Int):=by unfold bkN;rw[a,tN,gD,g];rfl
 rw[i]at j l n;rw[h]at s;obtain⟨h,i⟩:=zra p g;have:=zgf h.1 h.2;exact⟨k,b,e,f,F,r,a,d,q,l.trans a,n.trans d,g,h,Wm,j,Wm⟩
end
section
theorem zhO (P:α->Bool):∀{l:List α} {k:Nat} {x y:α},l[k]? =Xa x->(l.set k y).countP P+(P x).toNat=l.countP P+(P y).toNat
 | [],k,x,y,h=>by simp at h
 | a :: l,0,x,y,h=>by
  have:a=x:=Si h
  subst this;rw[sZ,Yn,Yn];cases P a <;> cases P y <;> simp
 | a :: l,k+1,x,y,h=>by grind
theorem zoA {fs:List Fr} (a:fs[k]? =Xa X) (b:X.r≠0):qy (fs.set k frF)=qy fs+1:=by grind [qy,frF,zhO]
theorem Zd:z3 N z=Xc↔∃(i:Nat) (f:Fl) (j:Nat),N[i]? =Xa f/\f.bl[j]? =Xa z:=by grind [z3,Yb,Xz,Yl.1,mG,Yl.2]
theorem zac (h:z∈L) (a:z≠-1):z∈QO L:=Yd.2 ⟨h,Si a⟩
theorem zdu (g:z≠-1):∀{l:List Int} {j k:Nat},(QO l).Nodup->l[j]? =Xa z->l[k]? =Xa z->j=k
 | [],j,k,_,h,_=>by simp at h
 | a :: l,j,k,c,d,e=>by
  have h:(QO l).Nodup:=by
   unfold QO at c⊢;rw[Ys]at c;split at c;·exact(Yv.1 c).2
   exact c
  have f:a=z->z∉l:=fun i m=>by
   subst i;unfold QO at c;rw[Ys,kE (Si g)]at c;exact(Yv.1 c).1 (zac m g)
  cases j with
  | zero=>
   cases k with
   | zero=>rfl
   | succ k=>
    rw[Xv]at e;exact absurd (mG e) (f (Si d))
  | succ j=>
   cases k with
   | zero=>
    rw[Xv]at d;exact absurd (mG d) (f (Si e))
   | succ k=>
    rw[Xv]at d e;rw[zdu g h d e]
theorem zh0 {f:Fl} (a:N[k]? =Xa f) (c:f.bl[j]? =Xa z):z∈QN N:=Yz.2 ⟨f,mG a,mG c⟩
theorem zfl (d:z≠-1):∀{fs:List Fl} {i k j l:Nat} {f g:Fl},(QO (QN fs)).Nodup->fs[i]? =Xa f->f.bl[j]? =Xa z->fs[k]? =Xa g->g.bl[l]? =Xa z->i=k/\j=l
 | [],i,k,j,l,f,g,_,h,_,_,_=>by simp at h
 | a :: fs,i,k,j,l,f,g,p,e,h,c,m=>by
  have n:QO (QN (a :: fs))=QO a.bl++QO (QN fs):=by
   unfold QO QN;rw[List.flatMap_cons,List.filter_append]
  rw[n,Ot]at p;obtain⟨r,s,q⟩:=p;cases i with
  | zero=>
   have n:a=f:=Si e;subst n;cases k with
   | zero=>
    have n:a=g:=Si c;subst n;exact⟨rfl,zdu d r h m⟩
   | succ k=>
    rw[Xv]at c;exact absurd rfl (q z (zac (mG h) d) z (zac (zh0 c m) d))
  | succ i=>
   rw[Xv]at e;cases k with
   | zero=>
    have n:a=g:=Si c;subst n;exact absurd rfl (q z (zac (mG m) d) z (zac (zh0 e h) d))
   | succ k=>
    rw[Xv]at c;obtain⟨n,p⟩:=zfl d s e h c m;exact⟨by rw[n],p⟩
theorem znm {f:Fl} (h:stW N z=0) (c:N[k]? =Xa f) (d:f.bl[p]? =Xa (b:Int)):
  N.set k ⟨f.size,f.bl.set p (b:Int)⟩=N/\(∀x,z3 N x=Xc↔(z3 N x=Xc/\x≠-1)\/x=(b:Int)\/(x=-1/\z3 N x=Xc))/\∀(i j:Nat) g,N[i]? =Xa g->g.bl[j]? =Xa (b:Int)->i=k/\j=p:=by
 obtain⟨_,_,file⟩:=(qf N z).1 h;have h:(b:Int)≠-1:=Wm;refine⟨?_,fun x=>?_,fun i j g z e=>zfl h file z e c d⟩
 ·have z:f.bl.set p (b:Int)=f.bl:=by
   apply Xy;grind
  rw[z];apply Xy;intro q;rw[Oo];split
  ·rename_i e
   subst e;rw[kE (gS.1 c).1,c]
  rfl
 constructor;·grind
 rintro(⟨z,_⟩|rfl|⟨_,z⟩);·exact z
 ·exact Zd.2 ⟨k,f,p,c,d⟩
 exact z
theorem znn {f:Fl} (h:stW N z=0) (l:N[k]? =Xa f) (e:f.bl[p]? =Xa (-1)) (c:b∈Qx N z):
  stW (N.set k ⟨f.size,f.bl.set p (b:Int)⟩) z=0/\(∀x,z3 (N.set k ⟨f.size,f.bl.set p (b:Int)⟩) x=Xc↔(z3 N x=Xc/\x≠-1)\/x=(b:Int)\/(x=-1/\z3 (N.set k ⟨f.size,f.bl.set p (b:Int)⟩) x=Xc))/\z3 N (b:Int)=Xd/\∀(i j:Nat) g,N[i]? =Xa g->g.bl[j]? =Xa (b:Int)->i=k/\j=p:=by
 have z:z3 N (b:Int)=Xd:=by
  have:=(Yd.1 c).2;grind
 have d:=(gS.1 l).1;have n:=(gS.1 e).1;refine⟨(zkS h l e c).1,fun x=>?_,z,fun i j g z c=>?_⟩
 ·constructor
  ·intro h
   by_cases m:x=-1;·grind
   obtain⟨i,g,j,z,c⟩:=Zd.1 h;by_cases e:k=i
   ·subst e;rw[sF d]at z;cases z;simp only at c;by_cases file:p=j;·grind
    rw[sN file]at c;exact .inl ⟨Zd.2 ⟨k,f,j,l,c⟩,m⟩
   rw[sN e]at z;exact .inl ⟨Zd.2 ⟨i,g,j,z,c⟩,m⟩
  rintro(⟨h,m⟩|rfl|⟨_,h⟩)
  ·obtain⟨i,g,j,z,c⟩:=Zd.1 h
   by_cases e:i=k
   ·subst e;rw[l]at z;cases z;have l:p≠j:=fun file=>(by grind);exact Zd.2 ⟨i,⟨f.size,f.bl.set p (b:Int)⟩,j,by rw[sF d],by simp only;rw[sN l];exact c⟩
   exact Zd.2 ⟨i,g,j,by rw[sN (fun file=>e file.symm)];exact z,c⟩
  ·exact Zd.2 ⟨k,⟨f.size,f.bl.set p (b:Int)⟩,p,by rw[sF d],by simp only;rw[sF n]⟩
  exact h
 have:=Zd.2 ⟨i,g,j,z,c⟩;grind
end
section
open Go.RowKit
theorem zqX (h:Rt m) {F:Fl} (d:m.fl[fi]? =Xa F) (f:ix<F.bl.length) (a:zaO m.fl m.cnt (fi:Int) (ix:Int)=0):
  ∃b:Nat,(b:Int)<m.cnt/\zjg m.fl m.cnt (fi:Int) (ix:Int)=(b:Int)/\zlw m.fl m.cnt (fi:Int) (ix:Int)=m.cnt/\zh9 m.fl m.cnt (fi:Int) (ix:Int)=m.fl.set fi ⟨F.size,F.bl.set ix (b:Int)⟩/\(F.bl[ix]? =Xa (b:Int)\/(F.bl[ix]? =Xa (-1)/\b∈Qx m.fl m.cnt)):=by
 have a:=h.inv.st;have c:znq m.fl (fi:Int)=F.bl:=by unfold znq;rw[tN,d]
 have e:zqw m.fl (fi:Int)=F.size:=by unfold zqw;rw[tN,d]
 obtain⟨z,e⟩:∃z,F.bl[ix]? =Xa z:=⟨_,gE f⟩;have g:F.bl.getD ix 0=z:=by rw[gD,e];rfl
 obtain⟨f,f,_⟩:=(qf _ _).1 a;have a:∃b:Nat,(b:Int)<m.cnt/\zpe m.fl m.cnt (fi:Int) (ix:Int)=(b:Int)/\(z=(b:Int)\/(z=-1/\b∈Qx m.fl m.cnt)):=by
  unfold zpe;rw[c,tN,g];by_cases c:z=-1
  ·have g:Qx m.fl m.cnt≠[]:=fun a=>by grind [zaO,gS.1,tN]
   cases a:Qx m.fl m.cnt with
   | nil=>exact absurd a g
   | cons b l=>
    have g:b∈Qx m.fl m.cnt:=(by rw[a];exact Xs ..);have a:=Xu.1 (Yd.1 g).1;refine⟨b,Wm,by rw[kE c];rfl,.inr ⟨c,Xs ..⟩⟩
  rw[kF c];obtain⟨_,_,a⟩:=f F (mG d);have:=a z (mG e);exact⟨z.toNat,Wm,Wm,.inl Wm⟩
 grind [zjg,zlw,zh9,tN]
theorem zlC (c:List (List Int)) (a:List (Int × List Int)) (b:∀q∈a,∃i:Nat,q.1=(i:Int)/\i<c.length) (i:Nat):(jL c a)[i]? =c[i]?\/∃q∈a,q.1=(i:Int):=by
 unfold jL;split
 ·rename_i c
  cases a with
  | nil=>cases c
  | cons q l=>
   simp only[List.headD_cons];obtain⟨j,a,_⟩:=b q (Xs ..);by_cases e:i=j;·grind
   grind
 grind
def zri (x:Nat × Nat):List Xq:=[Xe Xf (x.1:Int),Xe Xf (x.2:Int)]
theorem zrV:(Tryz.prog.info? 95).map (fun i=>(i.zero,i.size,i.bytes))=Xa (Xa (Xi #[I6 0,I6 0]),2,16):=by kernel_rfl
theorem zrW:Tryz.prog.underlying 183=Xa (.slice 95):=by kernel_rfl
def Ju:Elt (Nat × Nat) where
 enc:=zri
 k:=2
 ty:=95
 st:=183
 bytes:=16
 zv:= Xi #[Xe Xf 0,Xe Xf 0]
 zero:=(0,0)
 len:=fun _=>rfl
 one:=fun a u hu=>by
  simp only[zri,mC,nM,or_false]at hu
  rcases hu with rfl|rfl <;> rfl
 bH:=zrW
 aD:=zrV
 zok:=rfl
 few:=by decide
 pos:=by decide
theorem zjT (s) (kind k:Int):(znK s kind k).length<=64:=by unfold znK;exact nT (List.length_filter_le _ _) Sm
theorem zbN (m) (kind k:Int):∀q,(qQ m kind k q).length<=64*q
 | 0=>by simp[zkP]
 | q+1=>by
  rw[zci,lA,Yq];have a:=zbN m kind k q;have a:=zjT (m.sp.getD q ⟨Xd,[],[]⟩) kind k;omega
theorem zbW (a1:ChW w0 k w V m) (kind p:Int) (bb:m.sp.length<=4):
  Xp prog 115 #[Xj (Xa ⟨k,0,Xb⟩),I6 kind,I6 p] w fun e w'=>∃v,e= Xl v/\zb Ju w.heap.size w' v (qQ m kind p m.sp.length)/\zc w w':=by
 obtain⟨b0,X,s,W⟩:=a1.at.aX;obtain⟨-,-,-,-,-,-,-,-,bf⟩:=a1.at.ns;obtain⟨az,M⟩:=kA V.sp.a;obtain⟨u,c⟩:=kA m.sp.length;have Q:=a1.box.box.c 10 rfl;rw[bf,c.out,M.out]at Q;have aj:Xo (b0.length=u):=dD<|Rx X c.out;have af:Xo (∀(j:Nat) x,b0[j]? =Xa x->∃am,az=Xa am/\∀b7,zc w b7->zjj b7 (am.add (j*10)) x):=dD<|Ry M.out s;have ag:=dD W;have be:u<=4:=Ry c.out bb;rw[c.out];clear a1 X s W bf bb;go_enter func115,ntmps115;go_wp2;clear Q;go_loopg [7,18] u (fun aq Y ax wr=>∃(q:Nat) (z:Option Addr) (F A:Nat),q<=u/\u - q<=aq/\ax=I6 q/\Y= O z F A/\Xo (zc w wr)/\Xo (zb Ju w.heap.size wr (O z F A) (qQ m kind p q)))
 exact⟨0,Xb,0,0,nZ _,Wm,rfl,rfl,zc.refl _,zb.nil _ _ _⟩;obtain⟨q,z,F,A,cg,c0,rfl,rfl,a6,b6⟩:=hrel;by_cases h:q<u
 ·have T:=kC h
  obtain⟨x,aw⟩:∃x,b0[q]? =Xa x:=⟨_,gE (Rx aj.out h)⟩;obtain⟨t,b3⟩:∃t,Xo (m.sp[q]? =Xa t):=⟨_,gE (Rx c.out h)⟩;have aa:=dD<|ag.out q x t aw b3.out;obtain⟨am,rfl,bd⟩:=af.out q x aw;obtain⟨bo,bp,bq,br,bs,bt,bu,bv,bw,bx⟩:=bd wr a6.out;have L:Xo (qQ m kind p (q+1)=qQ m kind p q++(znK t kind p).map fun n=>(q,n)):=show _=_ by rw[zci,Sp.aL b3.out]
  have ae:=dD<|zbN m kind p q;have y:=dD<|zjT t kind p;clear bd aw;go_upto_region 5 with fail;refine nW fun N g=>?_;have ao:=gP g;have i:=xA g;have b1:=dD (a6.trans ao);have bk:=dD (b6.aA ao);clear g ao bo bp bq br bs bt bu bv bw bx;have bc:Xp prog 142 #[Xi #[x.t0.x,x.t1.x,x.t2.x,x.t3.x,x.t4.x,x.t5.x,x.t6.x,x.t7.x],I6 kind,I6 p] N fun e w'=>∃v,e= Xl v/\zb blE N.heap.size w' v ((znK t kind p).map fun(n:Nat)=>(n:Int))/\zc N w':=zkY x.tab t.tb kind p N (aa.tb.aA b1);obtain⟨_,_,c1,c2,c3,c4,c5,Y,c6,ca⟩:=i.k10;go_wp2_with fail;refine bc.mono ?_;clear bc c1 c2 c3 c4 c5 Y c6 ca;rintro e cc ⟨v,rfl,f,ap⟩;obtain⟨a,ac⟩:=kA (znK t kind p);rw[ac.out]at f L y;obtain⟨cb,bg,rfl⟩:=f.form;rw[Yq]at f;have a3:=dD f;have b2:=dD (b1.trans ap);have bl:=dD (bk.aA ap);rw[Yq];obtain⟨l,b⟩:=kA a.length;rw[b.out]at a3 y⊢;have ar:l<=64:=y.out;clear f ap;obtain⟨b9,ab⟩:=kA N.heap.size;have bj:=dD<|bS b2.out;rw[ab.out]at a3;go_wp2;go_loopg [7,29] l (fun aq Y ay wr=>∃(j:Nat) (z:Option Addr) (F A:Nat),j<=l/\l - j<=aq/\ay=I6 j/\Y= O z F A/\Xo (zc w wr)/\Xo (zb Ju w.heap.size wr (O z F A) (qQ m kind p q++(a.take j).map fun n=>(q,n)))/\Xo (zb blE b9 wr (O cb l bg) (a.map fun(n:Nat)=>(n:Int))))
  exact⟨0,z,F,A,nZ _,Wm,rfl,rfl,b2,show zb _ _ _ _ _ by simpa using(show zb _ _ _ _ _ from bl.out),a3.out⟩;obtain⟨j,Z,a2,I,cf,bz,rfl,rfl,a5,al,a4⟩:=hrel;by_cases C:j<l
  ·have S:=kC C
   obtain⟨n,av⟩:∃n,a[j]? =Xa n:=⟨_,gE (Rx b.out C)⟩;have U:(a.map fun(n:Nat)=>(n:Int))[j]? =Xa (n:Int):=(by rw[Yg,av];rfl);obtain⟨_,_,D,d⟩:=a4.at.rows;simp only[vJ]at D;obtain⟨P,r,R⟩:=d j _ U;rw[<-D.1]at r;subst r;have ba:wr.cell? (P.add (j*1))=Xa (I6 (n:Int)):=by
    have:=R wr (zc.refl _) 0 _ rfl;rw[Addr.add_add]at this;exact this
   rw[Og]at ba;have ai:Xo ((a.take (j+1)).map (fun n=>(q,n))=(a.take j).map (fun n=>(q,n))++ [(q,n)]):=dD (by rw[Ym,av];simp);have H:Xo (((qQ m kind p q++(a.take j).map fun n=>(q,n)).length+ [(q,n)].length)*16<=140737488355328):=dD<|by
    rw[lA,Yq,Oa];have:=ae.out;simp only[Yi,Yp];omega
   clear av U D d R;obtain⟨b4,K⟩:=kA (qQ m kind p q++(a.take j).map fun n=>(q,n));rw[K.out]at al H;have ak:Xo (zb Ju w.heap.size (wr.alloc (Xk #[I6 (q:Int),I6 (n:Int)] 95)) (O Z a2 I) b4):=al.aA (za wr (Xk #[I6 (q:Int),I6 (n:Int)] 95));have ah:Xo (w.heap.size<=(wr.alloc (Xk #[I6 (q:Int),I6 (n:Int)] 95)).heap.size):=show _<=_ from nT (bS a5) (bS (za _ _));go_wp2_with (at_builtin;refine zy (E:=Ju) rfl (.tmp 33) (.tmp 37) rfl w.heap.size (O Z a2 I) b4 rfl ak _ [(q,n)] rfl (jZ Ju wr (q,n) _ _ rfl Dc) H ah.out ?_)
   intro ch b8 G B;obtain⟨cd,ce,rfl⟩:=G.form;have bm:Xo (zb Ju w.heap.size b8 _ (qQ m kind p q++(a.take (j+1)).map fun n=>(q,n))):=dD (by rw[ai.out,<-Ou,K.out];exact G);have a0:zc wr (wr.alloc (Xk #[I6 (q:Int),I6 (n:Int)] 95)):=za _ _;have bh:Xo (zb blE b9 b8 (O (Xa P) l bg) (a.map fun(n:Nat)=>(n:Int))):=dD<|(a4.aA a0).grown B (fun an au e=>(a4.aA a0).apart ak Dc an au e);have bi:=dD<|zY (a5.trans a0) B (fun an au=>(ak.lt an au).1);clear G B a0 ba;try simp only[Yu]
   go_wp2;go_roundg (l -(j+1));exact⟨j+1,_,_,_,Wm,Wm,Gn,rfl,bi,bm,bh⟩;omega
  have S:=kD C;have bn:Xo (zb Ju w.heap.size wr (O Z a2 I) (qQ m kind p (q+1))):=dD<|by
   rw[L.out];have:=al.out;rw[Yc (by rw[b.out];omega)]at this;exact this
  go_wp2;go_roundg (u -(q+1));exact⟨q+1,Z,a2,I,Wm,Wm,Gn,rfl,a5,bn⟩;omega
 have T:=kD h;obtain rfl:q=u:=Wm;go_wp2;go_ret;exact⟨_,rfl,b6,a6⟩
theorem JM (a5:ChW w0 k w V m) (q:Nat) (a9:q<m.sp.length) (n:Int) (z:En):
  Xp prog 93 #[Xj (Xa ⟨k,0,Xb⟩),Xi #[I6 (q:Int),I6 n],Xi #[I6 z.kind,I6 z.n,Xh z.wr]] w fun e w'=>(∃v,e= Xl v)/\Chg w0 k w V (jN m q n z) w':=by
 obtain⟨s,S⟩:∃s,m.sp[q]? =Xa s:=⟨_,gE a9⟩;obtain⟨ar,N,ah,ai⟩:=a5.sp;obtain⟨x,D⟩:∃x,ar[q]? =Xa x:=⟨_,gE (Rx ah a9)⟩;have T:=dD<|ai q x s D S w (qn.refl _ _);obtain⟨b8,G⟩:=kA ar.length;obtain⟨p,be,l⟩:=N.aG Wm;rw[G.out]at l;have bi:(q:Int)< (b8:Int):=Hm G.out;have A:=dD l;have aw:=dD a5;have ax:=dD D;have ba:=dD S;have Z:=dD ah;have a0:=dD ai;rw[l]at N;have F:=dD N;have X:Xo (∀W,zc w W->zjj W ⟨p,q*10,Xb⟩ x):=show∀W,_ from fun W a7=>by
  have:=((N.aA a7).one D).sp10;rw[Xw,zA]at this;exact this
 have b9:=dD<|fun W (a7:zc w W)=>zlU x.tab s.tb n z W (T.tb.aA a7);have Y:Xo (jN m q n z={ m with sp:=m.sp.set q { s with tb:=zjw s.tb n z } }):=dD<|by unfold jN;rw[Sp.aL S]
 rw[Y.out];clear a5 a9 S N ah ai D l;obtain⟨az,d⟩:=kB ((w.alloc (Xk #[I6 (q:Int),I6 n] 95)).alloc (Xk #[I6 z.kind,I6 z.n,Xh z.wr] 55));have au:=gD2 d;have a2:=x2a d;have b0:=x2b d;have a1:=dD d;clear d;have a3:az.cell? ⟨k,10,Xb⟩=Xa (O (Xa ⟨p,0,Xb⟩) b8 be):=by rw[<-A.out];exact(aw.box.box.aA au).c 10 rfl
 have b7:=a2.c 0 rfl;go_enter func93,ntmps93;go_upto_region 1 with fail;rw[a1.out];obtain⟨g,U⟩:=kA w.heap.size;rw[U.out]at a2 b0 b7⊢;go_upto_region 2 with(go_quiet (fail))
 clear a3 b7;obtain⟨j,f⟩:=kB (az.drewN nq);have Q:Xo (zc w j):=dD<|by rw[<-f];exact au.trans (show Below _ _ _ from bD (bR _ _) _)
 have bc:Xo (Box j g [I6 (q:Int),I6 n]):=dD<|by rw[<-f];exact a2.aA (show Below _ _ _ from bD (bR _ _) _)
 have bd:Xo (Box j (g+1) [I6 z.kind,I6 z.n,Xh z.wr]):=dD<|by rw[<-f];exact b0.aA (show Below _ _ _ from bD (bR _ _) _)
 rw[f];clear f;obtain⟨i,h⟩:=Ww fun u=>Box u g [I6 (q:Int),I6 n]/\Box u (g+1) [I6 z.kind,I6 z.n,Xh z.wr];have C:i j.drew:=(h _).2 ⟨bc.aA (gW _),bd.aA (gW _)⟩;have H:zc j j.drew:=show Below _ _ _ from(bR _ _).drew;have ab:=fun y:zg i=>((h _).1 y.holds).1.c 1 rfl;have ac:=fun y:zg i=>((h _).1 y.holds).2.c 0 rfl;have ad:=fun y:zg i=>((h _).1 y.holds).2.c 1 rfl;have ae:=fun y:zg i=>((h _).1 y.holds).2.c 2 rfl;have a8:Nonempty (zg i):=⟨⟨_,C⟩⟩;refine zO (I:=i) 15 [(4,fun v=>v= Xi #[x.t0.x,x.t1.x,x.t2.x,x.t3.x,x.t4.x,x.t5.x,x.t6.x,x.t7.x]),(8,fun v=>∃r:List Xq,v= Xm #[Xi r.toArray,I6 (zlu s.tb n z)]),(14,fun _=>True)] (fun u=>zc j u) C H z2 Kr rfl rfl Dc (Sc ⟨_,rfl⟩ ⟨_,[],rfl⟩ ⟨undef,trivial⟩) Kr ?_;simp only[Oi,Oj];iterate 2 refine zi ?_
 refine zU (.tmp 17) ⟨p,q*10,Xb⟩ rfl rfl rfl rfl ?_;refine Uq ?_;refine zi ?_;refine zE rfl rfl (fun _ u=>zc j u) (fun w' c b=>?_) (fun b6 L=>?_)
 ·refine zbV 61 (.tmp 19) rfl p (q*10+2) rfl [x.t0.x,x.t1.x,x.t2.x,x.t3.x,x.t4.x,x.t5.x,x.t6.x,x.t7.x] ?_ underlying61 rfl Kr ⟨c,rfl,b⟩
  have t:=X.out _ (Q.trans b);intro b4 v a;have bj:(w'.cell? ⟨p,q*10+2+b4,Xb⟩)=Xa v:=by
   match b4,a with
   | 0,a=>cases a;exact t.2.2.1
   | 1,a=>cases a;exact t.2.2.2.1
   | 2,a=>cases a;exact t.2.2.2.2.1
   | 3,a=>cases a;exact t.2.2.2.2.2.1
   | 4,a=>cases a;exact t.2.2.2.2.2.2.1
   | 5,a=>cases a;exact t.2.2.2.2.2.2.2.1
   | 6,a=>cases a;exact t.2.2.2.2.2.2.2.2.1
   | 7,a=>cases a;exact t.2.2.2.2.2.2.2.2.2
  exact bj
 cases L;refine Uq ?_;iterate 3 refine zi ?_
 refine zE rfl rfl (fun v u=>∃(r:List Xq) (R:Xn),v= Xm #[Xi r.toArray,I6 (zlu s.tb n z)]/\zc j R/\zc R u/\QY 0 R.heap.size u r (zjw s.tb n z)) (fun w' c b=>?_) (fun b6 L=>?_);·refine zL.call [Xi #[x.t0.x,x.t1.x,x.t2.x,x.t3.x,x.t4.x,x.t5.x,x.t6.x,x.t7.x],I6 n,Xi #[I6 z.kind,I6 z.n,Xh z.wr]] rfl func123 rfl rfl rfl ?_;refine(b9 w' (Q.trans b)).mono ?_;rintro e bk ⟨r,rfl,P,a4⟩;obtain⟨af,ag⟩:=(h _).1 c;exact⟨_,rfl,(h _).2 ⟨af.aA a4,ag.aA a4⟩,⟨r,rfl⟩,r,w',rfl,b,a4,P⟩
 obtain⟨r,rfl⟩:=L;refine Uq ?_;iterate 3 refine zi ?_
 refine zU (.tmp 16) ⟨p,q*10,Xb⟩ rfl rfl rfl rfl ?_;refine Uq ?_;refine zi ?_;refine zE rfl rfl (fun _ u=>Chg w0 k w V { m with sp:=m.sp.set q { s with tb:=zjw s.tb n z } } u) (fun w' c b=>?_) (fun b6 L=>?_)
 ·obtain⟨aq,R,bg,b1,bf,b5⟩:=b;have aa:aq=r:=by simpa using bg.symm
  subst aa;obtain⟨aj,ak,P,al,am,an,ao,ap,rfl⟩:=b5.form;have av:=(Q.trans b1).trans bf;refine zcQ (E:=ZZ) (.tmp 28) (.tmp 25) 61 rfl w0.heap.size _ ar (F.aA av) p q 2 rfl x ⟨x.aF,x.ar,aj,ak,P,al,am,an,ao,ap⟩ ax.out [aj.v,ak.v,P.v,al.v,am.v,an.v,ao.v,ap.v] Kr rfl (by show 2+8<=10;omega) ?_ ⟨p,q*10+2,Xb⟩ rfl rfl (Xi #[aj.v,ak.v,P.v,al.v,am.v,an.v,ao.v,ap.v]) rfl rfl ?_
  ·intro u b3;simp only[mC,nM,or_false]at b3;rcases b3 with rfl|rfl|rfl|rfl|rfl|rfl|rfl|rfl <;> rfl
  intro bb M B _;rw[<-A.out]at M;obtain⟨af,ag⟩:=(h _).1 c;have bh:=F.lt p rfl;refine⟨(h _).2 ⟨af.grown B (Hm U.out),ag.grown B (Hm U.out)⟩,trivial,aw.bP Z a0 ax ba (by have b2:=A.out;(try simp only[Sli.x]at b2);unfold oB;rw[b2];rfl) av (b5.less (nR _) (nT (bS Q) (bS b1))) B M ⟨rfl,rfl,rfl⟩⟩
 clear L;try simp only[Yu]
 refine qv fun bb a6 K=>?_;have ay:=dD K;clear a6 K C H ab ac ad ae a8;go_wp2;exact Wq ay.out
theorem zla (u:ChW w0 k w V m) (q:Nat) (N:q<m.sp.length) (n:Int) (M:(Q8 m q n).kind=1->Zt m.fs m.aB (Q8 m q n).n (-1)=0):
  Xp prog 87 #[Xj (Xa ⟨k,0,Xb⟩),Xi #[I6 (q:Int),I6 n]] w fun e w'=>(∃v,e= Xl v)/\Chg w0 k w V (zi0 m q n) w':=by
 obtain⟨E,g⟩:=kA (Q8 m q n);have j:Xo (zi0 m q n=jN (QC m E (-1)) q n ⟨0,0,Xd⟩):=dD<|by rw[<-g.out];rfl
 have B:Xo (ChW w0 k w V m):=u;have C:Xo (q<m.sp.length):=N;have Q:Xo (∀p,Dw k V p->p<w.heap.size):=u.bL;have R:Xo (E.kind=1->Zt m.fs m.aB E.n (-1)=0):=show _->_ by rw[<-g.out];exact M
 clear u N M;obtain⟨U,b⟩:=kB (w.alloc (Xk #[I6 (q:Int),I6 n] 95));have A:=gA b;obtain⟨H,f⟩:=kA w.heap.size;have s:=xPT b f;have h:Xo (¬Dw k V H):=dD<|fun e=>by have:=Q.out _ e;have:=f.out;omega
 have l:Xo (_=U):=b;clear b;have a:=QG (B.aA A) q C n;rw[g.out]at a;go_enter func87,ntmps87;go_upto_region 1 with fail;rw[l.out,f.out];obtain⟨y,z⟩:=s.box.k2;go_wp2_with fail;refine a.mono ?_;clear a y z;rintro e Y ⟨rfl,t⟩;have d:=dD (A.trans t);have X:=dD (s.aA t);clear t;unfold enV;have c:=zfc (B.aA d) E (-1) R.out;go_wp2_with fail;refine c.mono ?_;clear c;rintro e r ⟨⟨Z,rfl⟩,F,P,x,K⟩;have S:Xo (ChW w0 k r F (QC m E (-1))):=P;have i:Xo (∀p,Dw k F p->Dw k V p\/w.heap.size<=p):=show∀p,_ from Chg.far d K;have T:Xo (qn (Dw k V) w r):=dD<|(qn.aA d).trans x;have G:Xo (zr r H 95 [I6 (q:Int),I6 n]):=X.aT x h.out;clear P K x;obtain⟨y,z⟩:=G.box.k2;have a:=JM S q (Rx zjN C) n ⟨0,0,Xd⟩;go_wp2_with fail;refine a.mono ?_;clear a y z;rintro e W ⟨⟨I,rfl⟩,L⟩;have D:Xo (Chg w0 k w V (zi0 m q n) W):=dD<|Rx j.out (Chg.step T i L);clear L;go_wp2;exact Wq D.out
def zcN (m:Ma) (q:Nat) (n:Int) (k:Int):Ma:=jN (QC m ⟨1,k,Xd⟩ 1) q n ⟨1,k,Xd⟩
theorem zcl (t:ChW w0 k w V m) (q:Nat) (H:q<m.sp.length) (n:Int) (p:Int) (G:Zt m.fs m.aB p 1=0):
  Xp prog 113 #[Xj (Xa ⟨k,0,Xb⟩),Xi #[I6 (q:Int),I6 n],I6 p] w fun e w'=>(∃v,e= Xl v)/\Chg w0 k w V (zcN m q n p) w':=by
 have M:Xo (ChW w0 k w V m):=t;have N:Xo (q<m.sp.length):=H;have L:Xo (Zt m.fs m.aB p 1=0):=G;have z:Xo (∀p,Dw k V p->p<w.heap.size):=t.bL;clear t H G;obtain⟨s,a⟩:=kB ((w.alloc (Xk #[I6 (q:Int),I6 n] 95)).alloc (Xk #[I6 1,I6 p,Xh Xd] 55));have j:=gD2 a;obtain⟨b,c⟩:=kA w.heap.size;have S:Xo (zr s b 95 [I6 (q:Int),I6 n]):=dD<|by rw[<-a];exact(zr.aE w [I6 (q:Int),I6 n] _ c.symm).aA (za _ _)
 have D:Xo (zr s (b+1) 55 [I6 1,I6 p,Xh Xd]):=dD<|by rw[<-a];exact zr.aE _ [I6 1,I6 p,Xh Xd] _ (by have:=c.out;simp;omega)
 have d:Xo (¬Dw k V b/\¬Dw k V (b+1)):=dD<|⟨fun e=>by have:=z.out _ e;have:=c.out;omega,fun e=>by have:=z.out _ e;have:=c.out;omega⟩;have r:Xo (_=s):=a;clear a;have g:=zfc (M.aA j) ⟨1,p,Xd⟩ 1 (fun _=>L.out);go_enter func113,ntmps113;go_upto_region 2 with fail;rw[r.out,c.out];obtain⟨u,x,y⟩:=D.box.c3;go_wp2_with fail;refine g.mono ?_;clear g u x y;rintro e h ⟨⟨X,rfl⟩,B,K,i,E⟩;have P:Xo (ChW w0 k h B (QC m ⟨1,p,Xd⟩ 1)):=K;have l:Xo (∀p,Dw k B p->Dw k V p\/w.heap.size<=p):=show∀p,_ from Chg.far j E;have Q:Xo (qn (Dw k V) w h):=dD<|(qn.aA j).trans i;have C:Xo (zr h b 95 [I6 (q:Int),I6 n]):=S.aT i d.1;have T:Xo (zr h (b+1) 55 [I6 1,I6 p,Xh Xd]):=D.aT i d.2;clear K E i;obtain⟨U,W⟩:=C.box.k2;obtain⟨u,x,y⟩:=T.box.c3;have f:=JM P q (Rx zjN N) n ⟨1,p,Xd⟩;go_wp2_with fail;refine f.mono ?_;clear f U W u x y;rintro e R ⟨⟨Y,rfl⟩,F⟩;have A:Xo (Chg w0 k w V (zcN m q n p) R):=dD<|Chg.step Q l F;clear F;go_wp2;exact Wq A.out
theorem zi3 (K:ChW w0 k w V m) (q:Nat) (M:q<m.sp.length) (n:Int):
  Xp prog 72 #[Xj (Xa ⟨k,0,Xb⟩),Xi #[I6 (q:Int),I6 n]] w fun e w'=>(∃v,e= Xl v)/\Chg w0 k w V (jN m q n { Q8 m q n with wr:=true }) w':=by
 obtain⟨E,A⟩:=kA (Q8 m q n);rw[A.out];have B:Xo (ChW w0 k w V m):=K;have C:Xo (q<m.sp.length):=M;clear K M;obtain⟨P,b⟩:=kB (w.alloc (Xk #[I6 (q:Int),I6 n] 95));have l:=gA b;obtain⟨H,z⟩:=kA w.heap.size;have j:=xPT b z;have r:Xo (_=P):=b;clear b;have a:=QG (B.aA l) q C n;rw[A.out]at a;go_enter func72,ntmps72;go_upto_region 1 with fail;rw[r.out,z.out];obtain⟨u,x⟩:=j.box.k2;go_wp2_with fail;refine a.mono ?_;clear a u x;rintro e F ⟨rfl,h⟩;unfold enV;go_upto_region 2 with fail;obtain⟨p,i⟩:=kA F.heap.size;refine nW fun Y c=>?_;have t:=gP c;have S:=xPT c i;have R:=dD (j.aA (h.trans t));have N:=dD ((l.trans h).trans t);have f:Xo (H<p/\w.heap.size<=p):=show _/\_ from⟨by have:=(j.aA h).box.lt;have:=i.out;omega,by have:=i.out;have:=bS (l.trans h);omega⟩;rw[i.out];clear c t h;go_upto_region 3 with(refine ZS rfl 4 (.tmp 8) (.const (Xh Xc)) rfl p 2 rfl (Xh Xc) rfl [Xh Xc] rfl S Sm Kr (by simp[Value.oneCell']) ?_)
 intro s g d _;have T:Xo (zr s p 55 [I6 E.kind,I6 E.n,Xh Xc]):=g;have G:Xo (zr s H 95 [I6 (q:Int),I6 n]):=R.beside d (fun Z e=>by cases e;have:=f.out;omega);have y:Xo (zc w s):=dD<|zd N d f.2;clear g d;try simp only[Yu]
 have a:=JM (B.aA y) q C n ⟨E.kind,E.n,Xc⟩;obtain⟨u,x⟩:=G.box.k2;obtain⟨U,W,X⟩:=T.box.c3;go_wp2_with fail;refine a.mono ?_;clear a u x U W X;rintro e Q ⟨⟨I,rfl⟩,L⟩;have D:Xo (Chg w0 k w V (jN m q n { E with wr:=true }) Q):=dD<|Chg.aH y L;clear L;go_wp2;exact Wq D.out
theorem ChW.off {w:Xn} {p:Nat} (h:ChW w0 p w V m) {g:Nat} {cs:Array Xq} (a:w.heap[g]? =Xa (Xk cs t (0,0))) (t1:102≠t) (t2:qx.ty≠t) (d:qE.ty≠t) (f:ZZ.ty≠t):¬Dw p V g:=by
 have a:∀{c:Type} {E:Elt c} {b:Nat} {v:Xq} {l:List c},zb E b w v l->E.ty≠t->v.ownBlock≠Xa g:=fun r b e=>by
  obtain⟨b,b⟩:=r.obj e;grind
 rintro(e|e|e|e)
 ·subst e;have b:w.heap[g]? =_:=h.box;grind
 ·exact a h.fs t2 e
 ·exact a h.ca d e
 obtain⟨b,b,_⟩:=h.sp;exact a b f e
theorem ChW.bW (h:ChW w0 k w V m) (a:zr w b t D) (t1:102≠t) (t2:qx.ty≠t) (c:qE.ty≠t) (d:ZZ.ty≠t):¬Dw k V b:=h.off (show w.heap[b]? =_ from a) t1 t2 c d
theorem ChW.offR (h:ChW w0 k w V m) (r:zb E p w A y) (t1:102≠E.ty) (t2:qx.ty≠E.ty) (c:qE.ty≠E.ty) (d:ZZ.ty≠E.ty):∀g,A.ownBlock=Xa g->¬Dw k V g:=fun g b=>by
 obtain⟨a,a⟩:=r.obj b;exact h.off a t1 t2 c d
theorem zb.chg (r:zb E b w A y) (o:qn (Dw k V) w w1) (a:∀g,A.ownBlock=Xa g->¬Dw k V g):zb E b w1 A y:=⟨zg6 r.1 o a,r.2⟩
def Jl (m:Ma) (e:En) (l:List (Nat × Nat)):Ma:=l.foldl (fun m x=>jN m x.1 (x.2:Int) e) m
theorem ziZ (m e) (l:List (Nat × Nat)) (x:Nat × Nat):Jl m e (l++ [x])=jN (Jl m e l) x.1 (x.2:Int) e:=by simp[Jl]
theorem zbg (e):∀(l:List (Nat × Nat)) (m:Ma),(Jl m e l).sp.length=m.sp.length/\(Jl m e l).fs=m.fs/\(Jl m e l).aB=m.aB
 | [],_=>⟨rfl,rfl,rfl⟩
 | x :: l,m=>by
  have h:=zbg e l (jN m x.1 (x.2:Int) e);exact⟨h.1.trans (zk4 _ _ _ _),h.2⟩
def zaS (m:Ma) (k:Nat) (r:Int) (e:En):Ma:={ Jl m e (qQ m 1 (k:Int) m.sp.length)with fs:=Q6 m.fs m.aB (k:Int) (-r),aB:=m.aB }
theorem zee (h:ChW w0 k w V m) (p:Nat) (fr:Fr) (f:m.fs[p]? =Xa fr) (z:En) (a:m.sp.length<=4) (d:0<=fr.r/\fr.r<=1000) (b:Zt m.fs m.aB (p:Int) (-fr.r)=0):
  Xp prog 195 #[Xj (Xa ⟨k,0,Xb⟩),I6 (p:Int),Xi #[I6 z.kind,I6 z.n,Xh z.wr]] w fun e w'=>(∃v,e= Xl v)/\Chg w0 k w V (zaS m p fr.r z) w':=by
 have l:=dD h;have H:=dD f;have X:=dD b;have u:=dD d;have c:=dD a;clear h f a b d;obtain⟨j,a⟩:=kB (w.alloc (Xk #[I6 z.kind,I6 z.n,Xh z.wr] 55));have g:=gA a;obtain⟨C,h⟩:=kA w.heap.size;have s:=xPT a h;have d:=dD a;clear a;have a:=zbW (l.aA g) 1 (p:Int) c.out;obtain⟨L,F⟩:=kA (qQ m 1 (p:Int) m.sp.length);rw[F.out]at a;have b:Xo (L.length<=256):=show _<=_ by
  rw[<-F.out];have G:=zbN m 1 (p:Int) m.sp.length;have q:=c.out;omega
 have q:Xo (∀D∈L,D.1<m.sp.length):=dD<|fun D c=>by
  rw[<-F.out]at c;exact((zap Dc (nR _)).1 c).1
 go_enter func195,ntmps195;go_upto_region 1 with fail;rw[d.out,h.out];go_wp2_with fail;refine a.mono ?_;clear a;rintro e a ⟨v,rfl,a,A⟩;obtain⟨t,U,rfl⟩:=a.form;obtain⟨h,d⟩:=kA L.length;rw[d.out]at a b⊢;have r:h<=256:=b.out;obtain⟨N,b⟩:=kA j.heap.size;rw[b.out]at a;have r:=dD a;have b:=dD (g.trans A);have g:=dD (s.aA A);clear a A;go_wp2;go_loopg [12] h (fun s a wr=>∃(j:Nat) (B:MaV),j<=h/\h - j<=s/\a=I6 j/\Xo (ChW w0 k wr B (Jl m z (L.take j)))/\Xo (qn (Dw k V) w wr)/\Xo (∀p,Dw k B p->Dw k V p\/w.heap.size<=p)/\Xo (zb Ju N wr (O t h U) L)/\Xo (zr wr C 55 [I6 z.kind,I6 z.n,Xh z.wr]))
 exact⟨0,V,nZ _,Wm,rfl,l.aA b,qn.aA b,fun p f=> .inl f,r,g⟩;obtain⟨j,B,y,a,rfl,f,Q,P,t,T⟩:=hrel;by_cases l:j<h
 ·have s:=kC l
  obtain⟨⟨E,n⟩,c⟩:∃D,L[j]? =Xa D:=⟨_,gE (Rx d.out l)⟩;obtain⟨g,Y,b⟩:=t.aG (by rw[d.out];omega);simp only[vJ]at b;obtain⟨rfl,-,-⟩:=b;have a:=t.one c;have r:wr.cell? ⟨g,j*2,Xb⟩=Xa (I6 (E:Int)):=by
   have:=a 0 _ rfl;rw[Xw,Xw,zA,Od]at this;exact this
  have M:wr.cell? ⟨g,j*2+1,Xb⟩=Xa (I6 (n:Int)):=by
   have:=a 1 _ rfl;rw[Xw,Xw,zA]at this;exact this
  have S:=dD<|q.out _ (mG c);have K:Xo (L.take (j+1)=L.take j++ [(E,n)]):=show _=_ by rw[Ym,c];rfl
  clear a c;go_upto_region 4 with fail;clear r M;obtain⟨a,r⟩:=kA wr.heap.size;refine nW fun a a=>?_;have q:=gA a;have R:=xPT a r;have M:=dD (T.aA q);rw[r.out];clear a;have r:=dD (f.aA q);have a:=JM r E (by rw[(zbg z _ m).1];exact S) (n:Int) z;obtain⟨E,S⟩:=R.box.k2;obtain⟨R,T,W⟩:=M.box.c3;go_wp2_with fail;refine a.mono ?_;clear a E S R T W;rintro e E ⟨⟨a,rfl⟩,R,T,a,S⟩;have W:Xo (ChW w0 k E R (Jl m z (L.take (j+1)))):=dD (by rw[K.out,ziZ];exact T);have K:=Chg.step (w0:=w0) (m':=Jl m z (L.take (j+1))) Q P (Chg.aH q ⟨R,W,a,S⟩);have R:Xo (zb Ju N E (O (Xa ⟨g,0,Xb⟩) h U) L):=(t.aA q).chg a (r.offR (t.aA q) Dc Dc Dc Dc);have W:Xo (zr E C 55 [I6 z.kind,I6 z.n,Xh z.wr]):=M.aT a (r.bW M Dc Dc Dc Dc);obtain⟨U,r,t,q⟩:=K;have K:=dD r;have M:=dD t;have E:=dD q;clear T a S r t q;go_wp2;go_roundg (h -(j+1));exact⟨j+1,U,Wm,Wm,Gn,K,M,E,R,W⟩;omega
 have s:=kD l;have a:Xo (L.take j=L):=dD<|Yc (by rw[d.out];omega);rw[a.out]at f;obtain⟨K,l⟩:=kA (Jl m z L);rw[l.out]at f;have a:Xo (K.fs=m.fs/\K.aB=m.aB):=dD<|by rw[<-l.out];exact(zbg z L m).2
 obtain⟨g,Y,b⟩:=f.fs.aG (by rw[a.1];have:=(gS.1 H).1;omega);obtain⟨⟨d,t,q⟩,d,d,d,d,d,d,d,d⟩:=B;simp only[vJ]at b;obtain⟨rfl,d,-⟩:=b;have b:(p:Int)< (t:Int):=by
  have G:=(gS.1 H).1;rw[d,a.1];omega
 have b:Xo (∀W,zc wr W->W.cell? ⟨g,p*13+8,Xb⟩=Xa (I6 fr.r)):=dD<|fun W h=>by
  have:=(f.fs.aA h).one (i:=p) (x:=fr) (Rx a.1 H) 8 _ rfl;rw[Xw,Xw,zA]at this;exact this
 have M:Xo (∀W,zc wr W->Xp prog 121 #[Xi #[O (Xa ⟨g,0,Xb⟩) t q,I6 m.aB],I6 (p:Int),I6 (-fr.r)] W fun e w'=>∃s:Sli,e= Xl (Xm #[Xi #[s.x,I6 m.aB],I6 0])/\zb qx W.heap.size w' (s.x) (Q6 m.fs m.aB (p:Int) (-fr.r))/\zc W w'):=dD<|fun W h=>by
  have r:=(f.at.aA h).fs;rw[a.1]at r d;rw[d]at r⊢;refine(zf7 (Xa ⟨g,0,Xb⟩) q m.fs m.aB (p:Int) (-fr.r) W r X).mono ?_;rintro e w' ⟨C,rfl,r,g⟩;have h:zb qx W.heap.size w' C (Q6 m.fs m.aB (p:Int) (-fr.r)):=r;obtain⟨B,C,rfl⟩:=h.form;exact⟨⟨B,_,C⟩,rfl,r,g⟩
 have h:=dD f.box;have H:=dD a.2;clear d;obtain⟨r,B⟩:=kA fr.r;rw[B.out]at b M u;obtain⟨a,a⟩:=u.out;go_upto_region 6 with fail;obtain⟨a,E⟩:=Ww fun u=>u.cell? ⟨g,p*13+8,Xb⟩=Xa (I6 r);have L:zc wr wr.drew:=show Below _ _ _ from(bR _ _).drew;have d:=(E _).2 (b _ L);have C:zc wr wr.drew:=L;have R:=fun L:zg a=>(E _).1 L.holds;have L:Nonempty (zg a):=⟨⟨_,d⟩⟩;refine J4 (I:=a) 26 [(18,fun v=>∃s:Sli,v= Xm #[Xi #[s.x,I6 m.aB],I6 0]),(25,fun _=>True)] [5,12] (fun u=>zc wr u) d C z2 Kr rfl rfl Dc (Sb ⟨_,zF,rfl⟩ ⟨undef,trivial⟩) Kr Kr ?_;simp only[Oi,Oj];iterate 2 refine ZK ?_
 refine zaj (.tmp 23) ⟨k,0,Xb⟩ rfl rfl rfl rfl ?_;refine Uq ?_;iterate 2 refine ZK ?_
 refine zhm rfl rfl rfl (Xi #[O (Xa ⟨g,0,Xb⟩) t q,I6 m.aB]) (fun w' _ a=>?_) ?_
 ·exact zlX 28 (.tmp 26) rfl k 0 rfl [O (Xa ⟨g,0,Xb⟩) t q,I6 m.aB] ((h.box.aA a).mid 0 (fun j v y=>by
   match j,y with
   | 0,y=>exact y
   | 1,y=>rw[<-H.out]at y;exact y)) underlying28 rfl Kr
 refine Uq ?_;iterate 2 refine ZK ?_
 refine zaj (.tmp 29) ⟨k,0,Xb⟩ rfl rfl rfl rfl ?_;refine Uq ?_;iterate 3 refine ZK ?_
 refine zhm rfl rfl rfl (O (Xa ⟨g,0,Xb⟩) t q) (fun w' _ a=>?_) ?_;·exact zkn 26 (.tmp 33) rfl k 0 rfl (O (Xa ⟨g,0,Xb⟩) t q) ((h.box.aA a).c 0 rfl) underlying26 rfl
 refine Uq ?_;iterate 5 refine ZK ?_
 refine zbI rfl rfl (fun v u=>∃(s:Sli) (c:Xn),v= Xm #[Xi #[s.x,I6 m.aB],I6 0]/\zc wr c/\zc c u/\zb qx c.heap.size u (s.x) (Q6 m.fs m.aB (p:Int) (-r))) (fun w' j a=>?_) (fun D y=>?_);·refine zL.call [Xi #[O (Xa ⟨g,0,Xb⟩) t q,I6 m.aB],I6 (p:Int),I6 (-r)] rfl func121 rfl rfl rfl ?_;refine(M w' a).mono ?_;rintro e q ⟨s,rfl,q,A⟩;exact⟨_,rfl,(E _).2 (b _ (a.trans A)),⟨s,rfl⟩,s,w',rfl,a,A,q⟩
 obtain⟨s,rfl⟩:=y;refine Uq ?_;iterate 3 refine ZK ?_
 refine zaj (.tmp 22) ⟨k,0,Xb⟩ rfl rfl rfl rfl ?_;refine Uq ?_;iterate 2 refine ZK ?_
 refine zbI rfl rfl (fun _ u=>Chg w0 k w V (zaS m p r z) u) (fun w' j a=>?_) (fun D y=>?_)
 ·obtain⟨j,c,c,t,q,u⟩:=a;have a:j=s:=by
   obtain⟨A,A,A⟩:=s;obtain⟨N,s,s⟩:=j;simp only[Value.tuple.injEq,Array.mk.injEq,List.cons.injEq,Value.agg.injEq,vJ,and_true]at c;obtain⟨rfl,rfl,rfl⟩:=c;rfl
  subst a;have c:=t.trans q;refine Zu 28 (.tmp 45) (.tmp 41) rfl k 0 rfl (Xi #[j.x,I6 m.aB]) rfl [j.x,I6 m.aB] rfl (h.aA c) (by simp[chL]) Kr (by simp[Value.oneCell']) ?_;intro q h a _;have j:=f.nf g rfl;refine⟨(E _).2 ?_,trivial,?_⟩
  ·have G:=b.out _ c;have b:=World.block_lt_of_cell? _ _ G;rw[World.cell?_of_block (w:=w') (a.block g b (fun e=>by cases e;exact j rfl))];exact G
  have b:zaS m p r z={ K with fs:=Q6 m.fs m.aB (p:Int) (-r),aB:=m.aB }:=by
   unfold zaS;rw[F.out,l.out]
  rw[b];exact Chg.step Q P (f.bM c (u.base (bS t)) a h)
 clear y;try simp only[Yu]
 refine zfT fun q b a=>?_;have c:Xo (Chg w0 k w V (zaS m p fr.r z) q):=dD<|Rx B.out a;clear b a d C R L;go_wp2;exact Wq c.out
def frU (q:Fr):Fr:={ q with u:=false }
def zjM (q:Fr):Bool:=decide (0<q.r) && !q.u
theorem znr (h:Below b w W) (c:b<=P.block) (u):Below b w (W.setCell P u):=Below.setCell h c u
theorem zn2 (B g n f i base v:Nat) (fs:List Fr) (q W) (b:fs.length=n) (a:n<=40) (h:fs[i]? =Xa q) (j:Box W B [O (Xa ⟨g,0,Xb⟩) n f,I6 (i:Int)]) (k:zb qx base W (O (Xa ⟨g,0,Xb⟩) n f) fs) (p:B≠g) (t:v<=B) (C:v<=g):
  Xp prog 189 #[Xj (Xa ⟨B,0,Xb⟩)] W fun e a=>e= Xl (Xm #[I6 (i:Int),Xh (zjM q)])/\Box a B [O (Xa ⟨g,0,Xb⟩) n f,I6 (((i+1) % n:Nat):Int)]/\zb qx base a (O (Xa ⟨g,0,Xb⟩) n f) (fs.set i (frU q))/\Below v W a:=by
 have d:=dD k;have c:=dD j;have u:=dD h;have a:i<n:=by rw[<-b];exact(gS.1 h).1
 have a:=dD b;clear k j h b;have a:(i:Int)< (n:Int):=Wm;have a:(0:Int)< (n:Int):=Wm;have a:¬(n:Int)=0:=Wm;have a:(((i:Int)+1) %(n:Int))=(((i+1) % n:Nat):Int):=Sm;have k:=dD a;clear a;have a:=Ne.symm p;obtain⟨z,j⟩:=c.k2;have s:=c.f;have m:=c.lt;have a:=(d.lt g rfl).2;have u8:=d.frc u 8 rfl;have u9:=d.frc u 9 rfl;go_enter func189,ntmps189;go_upto_region 3 with fail;obtain⟨h,b⟩:=kB (W.setCell ⟨B,1,Xb⟩ (I6 (((i:Int)+1) %(n:Int))));rw[b];have r:Xo (Box h B [O (Xa ⟨g,0,Xb⟩) n f,I6 (((i:Int)+1) %(n:Int))]):=dD<|by rw[<-b];exact c.set 1 _
 have l:Xo (zb qx base h (O (Xa ⟨g,0,Xb⟩) n f) fs):=dD<|by rw[<-b];exact d.aN (fun w a=>by cases a;exact p) _
 have d:Xo (Below v W h):=dD<|by rw[<-b];exact znr (bR _ _) t _
 clear b z j s m u8 u9;have z:=r.c 0 rfl;have u8:=l.frc u 8 rfl;have u9:=l.frc u 9 rfl;have y:Xo (zjM q=(decide (0<q.r) && !q.u)):=rfl;obtain⟨h,b⟩:=kA q.r;obtain⟨A,c⟩:=kA q.u;rw[b.out]at u8 y;rw[c.out]at u9 y;by_cases D:0<h
 ·cases A with
  | true=>
   have x:Xo (zjM q=Xd):=dD<|by rw[y.out];simp[D]
   skip
   go_wp2_with (refine zx (E:=qx) rfl (.tmp 32) (.const (Xh Xd)) 4 rfl base (O (Xa ⟨g,0,Xb⟩) n f) fs l g i 9 rfl q (frU q) u.out [Xh Xd] Kr rfl (Ye rfl) (by intro A t;simp at t;subst t;rfl) _ rfl (by simp[qx]) _ rfl rfl ?_)
   intro s c b _;have m:=dD c;have j:Xo (Box s B [O (Xa ⟨g,0,Xb⟩) n f,I6 (((i:Int)+1) %(n:Int))]):=r.beside b (fun w a=>by cases a;exact p);have h:Xo (Below v W s):=Below.grown d b (Hm (bS d.out)) (fun w a=>by cases a;exact C);clear c b u8 u9 z;go_wp2;go_ret2;exact⟨Rr x.out,Ry k.out j,m,h⟩
  | false=>
   have x:Xo (zjM q=Xc):=dD<|by rw[y.out];simp[D]
   skip
   go_wp2_with (refine zx (E:=qx) rfl (.tmp 32) (.const (Xh Xd)) 4 rfl base (O (Xa ⟨g,0,Xb⟩) n f) fs l g i 9 rfl q (frU q) u.out [Xh Xd] Kr rfl (Ye rfl) (by intro A t;simp at t;subst t;rfl) _ rfl (by simp[qx]) _ rfl rfl ?_)
   intro s c b _;have m:=dD c;have j:Xo (Box s B [O (Xa ⟨g,0,Xb⟩) n f,I6 (((i:Int)+1) %(n:Int))]):=r.beside b (fun w a=>by cases a;exact p);have h:Xo (Below v W s):=Below.grown d b (Hm (bS d.out)) (fun w a=>by cases a;exact C);clear c b u8 u9 z;go_wp2;go_ret2;exact⟨Rr x.out,Ry k.out j,m,h⟩
 
 have x:Xo (zjM q=Xd):=dD<|by rw[y.out];simp[D]
 skip
 go_wp2_with (refine zx (E:=qx) rfl (.tmp 32) (.const (Xh Xd)) 4 rfl base (O (Xa ⟨g,0,Xb⟩) n f) fs l g i 9 rfl q (frU q) u.out [Xh Xd] Kr rfl (Ye rfl) (by intro A t;simp at t;subst t;rfl) _ rfl (by simp[qx]) _ rfl rfl ?_)
 intro s c b _;have m:=dD c;have j:Xo (Box s B [O (Xa ⟨g,0,Xb⟩) n f,I6 (((i:Int)+1) %(n:Int))]):=r.beside b (fun w a=>by cases a;exact p);have h:Xo (Below v W s):=Below.grown d b (Hm (bS d.out)) (fun w a=>by cases a;exact C);clear c b u8 u9 z;go_wp2;go_ret2;exact⟨Rr x.out,Ry k.out j,m,h⟩
def Za:Nat->List Fr->Nat->List Fr × Nat × Int
 | 0,fs,h=>(fs,h,-1)
 | m+1,fs,h=>if zjM (fs.getD h fr0)then(fs.set h (frU (fs.getD h fr0)),(h+1) % fs.length,(h:Int))else Za m (fs.set h (frU (fs.getD h fr0))) ((h+1) % fs.length)
def za7 (fs:List Fr) (h:Int):List Fr × Nat × Int:=Za (2*fs.length) fs h.toNat
def zcb (fs:List Fr) (h:Int):List Fr:=if Zx fs h=0 then(za7 fs h).1 else []
def zdE (fs:List Fr) (h:Int):Int:=if Zx fs h=0 then((za7 fs h).2.1:Int)else 0
def zaM (fs:List Fr) (h:Int):Int:=if Zx fs h=0 then(za7 fs h).2.2 else 0
theorem zqF (a) (c:Nat) (fs:List Fr) (l:Nat) (w:Xn) (aq:zp qx w (O a fs.length c) fs) (S:Zx fs (l:Int)=0):
  Xp prog 182 #[Xi #[O a fs.length c,I6 (l:Int)]] w fun e w'=>∃b,e= Xl (Xm #[Xi #[b,I6 ((Za (2*fs.length) fs l).2.1:Int)],I6 (Za (2*fs.length) fs l).2.2,I6 0])/\zb qx w.heap.size w' b (Za (2*fs.length) fs l).1/\zc w w':=by
 have a3:=dD aq;have ah:∀W,zc w W->Xp prog 125 #[Xi #[O a fs.length c,I6 (l:Int)]] W fun e w'=>e= Xl (I6 (Zx fs (l:Int)))/\zc W w':=fun W ae=>by rw[S];exact Qp a c fs _ W (a3.aA ae) S
 have ag:∀W,zc w W->Xp prog 46 #[Xi #[O a fs.length c,I6 (l:Int)]] W fun e w'=>∃b,e= Xl (Xi #[b,I6 (l:Int)])/\zb qx W.heap.size w' b fs/\zc W w':=fun W ae=>Je a c fs _ W (a3.aA ae);obtain⟨P,_,_,A⟩:=jM S;have bb:=enters_of func189 Kr rfl;clear aq;obtain⟨n,a1⟩:=kA fs.length;simp only[a1.out,S]at ah a3 ag P A⊢;clear S;obtain⟨V,G⟩:=kA (Za (2*n) fs l);rw[G.out];obtain⟨b9,p⟩:=kB ((w.alloc (Xk #[O a n c,I6 (l:Int)] 28)).alloc (Xk #[eS,I6 0] 28));have r:=gD2 p;have X:=x2a p;have am:=x2b p;have a4:=dD p;clear p;go_enter func182,ntmps182;go_upto_region 1 with fail;rw[a4.out];obtain⟨aa,ab⟩:=X.k2;go_wp2_with fail;refine(ah _ r).mono ?_;rintro e x ⟨rfl,ao⟩;have B:=dD ao;clear ao aa ab ah;obtain⟨aa,ab⟩:=(X.aA B).k2;go_wp2_with fail;refine(ag _ (r.trans B)).mono ?_;rintro e L ⟨b,rfl,i,ad⟩;obtain⟨D,m,rfl⟩:=i.form;rw[a1.out]at i⊢;have ay:=dD i;have aj:=dD (B.trans ad);have ac:=dD<|bS ad;have a7:=dD<|(am.aA B).lt;have a6:=dD<|bS (r.trans B);clear i ad aa ab ag;obtain⟨M,k⟩:=kB (L.alloc (Xk #[O D n m,I6 (l:Int)] 28));have an:=xT k;have K:Xo (zb qx x.heap.size M (O D n m) fs):=dD<|by rw[<-k];exact ay.aA (za _ _)
 have a9:Xo (Box M (w.heap.size+1) [eS,I6 0]):=dD<|by rw[<-k];exact(am.aA aj).alloc _
 have au:Xo (zc w M):=dD<|by rw[<-k];exact(r.trans aj).trans (za _ _)
 have a5:=dD k;clear k;go_wp2;rw[a5.out];go_loopg [8,9,23] (2*n) (fun az _ _ ai wr=>∃(h d:Nat) (g:List Fr),h<=2*n/\2*n - h<=az/\ai=I6 h/\d<max n 1/\Xo (g.length=n)/\Xo (Box wr L.heap.size [O D n m,I6 (d:Int)])/\Xo (zb qx x.heap.size wr (O D n m) g)/\Xo (Below x.heap.size M wr)/\Xo (Za (2*n - h) g d=V))
 exact⟨0,l,fs,nZ _,Wm,rfl,Wm,a1,an.box,K,bR _ _,G⟩;obtain⟨h,d,g,b1,bc,rfl,b0,C,I,U,Z,Y⟩:=hrel;have u:=a7.out;have t:=a6.out;have j:=dD<|a9.below Z u;have ak:=dD<|Below.trans au (Z.mono t);by_cases b2:h<2*n
 ·have R:(h:Int)<2*(n:Int):=Wm
  obtain⟨s,ba,ap⟩:=U.aG (by rw[C.out];omega);rw[C.out]at ap;cases ap;obtain⟨q,al⟩:∃q,Xo (g[d]? =Xa q):=⟨_,gE (by rw[C.out];omega)⟩;have af:=U.lt s rfl;have a2:Xo (L.heap.size≠s):=(K.ne an Dc s rfl);have f:=zn2 L.heap.size s n m d x.heap.size x.heap.size g q wr C P al I U a2 ac.out af.1;have Q:g.getD d fr0=q:=by rw[gD,al.out];rfl
  have H:Xo (Za (2*n - h) g d=if zjM q then(g.set d (frU q),(d+1) % n,(d:Int))else Za (2*n -(h+1)) (g.set d (frU q)) ((d+1) % n)):=dD<|by
   rw[show 2*n - h=(2*n -(h+1))+1 by omega,Za,Q,C.out]
  clear Q;cases E:zjM q with
  | true=>
   rw[E]at f;have F:Xo (V=(g.set d (frU q),(d+1) % n,(d:Int))):=dD (by rw[<-Y.out,H.out,E,kE rfl]);clear E;go_wp2_with (go_at_call 189;refine f.mono ?_;rintro e z ⟨rfl,N,T,y⟩;obtain⟨b5,b7⟩:=(j.below y u).k2;have b8:=(j.below y u).f;obtain⟨b3,b4⟩:=N.k2;have a8:Xo (zb qx x.heap.size z (O (Xa ⟨s,0,Xb⟩) n m) (g.set d (frU q))):=T;have a0:Xo (zc w z):=show zc w z from Below.trans ak (y.mono t);clear T y)
   refine bodyPost_ret (v:= Xm #[Xi #[O (Xa ⟨s,0,Xb⟩) n m,I6 (((d+1) % n:Nat):Int)],I6 (d:Int),I6 0]) (by simp[results,Tryz.results182,go_sem, *]) rfl ⟨O (Xa ⟨s,0,Xb⟩) n m,?_,?_,?_⟩;·rw[F.out]
   ·rw[F.out];exact((a8.setCell (a:=⟨w.heap.size+1,0,Xb⟩) (by show w.heap.size+1<_;omega) _).setCell (a:=⟨w.heap.size+1,1,Xb⟩) (by show w.heap.size+1<_;omega) _).base t
   exact zJ (zJ a0 Sm _) Sm _
  | false=>
   rw[E]at f;have aw:Xo (Za (2*n -(h+1)) (g.set d (frU q)) ((d+1) % n)=V):=dD (by rw[<-Y.out,H.out,E];rfl);clear E;go_wp2_with (go_at_call 189;refine f.mono ?_;rintro e z ⟨rfl,N,T,y⟩;have ar:Xo (Box z L.heap.size [O (Xa ⟨s,0,Xb⟩) n m,I6 (((d+1) % n:Nat):Int)]):=N;have a8:Xo (zb qx x.heap.size z (O (Xa ⟨s,0,Xb⟩) n m) (g.set d (frU q))):=T;have ax:Xo (Below x.heap.size M z):=Below.trans Z y;clear N T y)
   go_roundg (2*n -(h+1));exact⟨h+1,(d+1) % n,g.set d (frU q),Wm,Wm,Gn,(by have:=Yt (d+1) (show 0<n by omega);omega),(show(g.set d (frU q)).length=n by rw[Yf];exact C),ar,a8,ax,aw⟩;omega
 have R:¬(h:Int)<2*(n:Int):=Wm;have:h=2*n:=Wm;subst this;have F:Xo (V=(g,d,-1)):=dD<|by rw[<-Y.out,Oc];rfl
 obtain⟨b5,b7⟩:=j.k2;have b8:=j.f;obtain⟨b3,b4⟩:=I.k2;go_wp2;refine bodyPost_ret (v:= Xm #[Xi #[O D n m,I6 (d:Int)],I6 (-1),I6 0]) (by simp[results,Tryz.results182,go_sem, *]) rfl ⟨O D n m,?_,?_,?_⟩;·rw[F.out]
 ·rw[F.out];exact((U.setCell (a:=⟨w.heap.size+1,0,Xb⟩) (by show w.heap.size+1<_;omega) _).setCell (a:=⟨w.heap.size+1,1,Xb⟩) (by show w.heap.size+1<_;omega) _).base t
 exact zJ (zJ ak Sm _) Sm _
theorem zoc (a) (c:Nat) (fs:List Fr) (h:Int) (w:Xn) (f:zp qx w (O a fs.length c) fs) (d:Zx fs h=0):
  Xp prog 182 #[Xi #[O a fs.length c,I6 h]] w fun e w'=>∃b,e= Xl (Xm #[Xi #[b,I6 (zdE fs h)],I6 (zaM fs h),I6 (Zx fs h)])/\zb qx w.heap.size w' b (zcb fs h)/\zc w w':=by unfold zdE zaM zcb za7;rw[kE d,kE d,kE d];obtain⟨g,rfl⟩:=Int.eq_ofNat_of_zero_le (jM d).2.2.1;rw[tN,d];exact zqF a c fs g w f d
def ZT (m:Ma):Ma:={ m with fs:=zcb m.fs m.aB,aB:=zdE m.fs m.aB }
theorem zqS (h:ChW w0 k w V m) (c:Zx m.fs m.aB=0):
  Xp prog 182 #[Xi #[V.f.x,I6 m.aB]] w fun e w'=>∃b:Sli,e= Xl (Xm #[Xi #[b.x,I6 (zdE m.fs m.aB)],I6 (zaM m.fs m.aB),I6 0])/\zb qx w.heap.size w' (b.x) (zcb m.fs m.aB)/\zc w w':=by obtain⟨a,-⟩:=h.at.ns;have p:=h.at.fs;(try simp only[Sli.x]at p⊢);rw[a]at p⊢;refine(zoc V.f.a V.f.c m.fs m.aB w p c).mono ?_;rintro e w' ⟨b,rfl,d,h⟩;have a:zb qx w.heap.size w' b (zcb m.fs m.aB):=d;obtain⟨f,g,rfl⟩:=a.form;rw[c];exact⟨⟨f,_,g⟩,rfl,d,h⟩
theorem zhb:∀(m:Nat) (fs:List Fr) (h:Nat),h<fs.length->(∀q∈fs,q=frF)->Za m fs h=(fs,(h+m) % fs.length,-1)
 | 0,fs,h,a,_=>by
  rw[Za,Od,Yj a]
 | m+1,fs,h,a,b=>by
  have d:fs.getD h fr0=frF:=by
   rw[gD,gE a];exact b _ (List.getElem_mem a)
  have e:fs.set h (frU frF)=fs:=by
   apply Xy;intro j;by_cases c:j=h;·subst c;rw[sF a,gE a,b _ (List.getElem_mem a)];rfl
   rw[sN (Ne.symm c)]
  rw[Za,d,show zjM frF=Xd from rfl,e];rw[kF Dc,zhb m fs ((h+1) % fs.length) (Yt _ Wm) b];rw[Yw,Nat.add_assoc,Nat.add_comm 1 m]
theorem zmJ (a:frW X=0) (b:X.r=0):X=frF:=by grind [frW,inB,QP,frF,zc7]
def zgt (q:Fr):Bool:=decide (0<q.r)
theorem zky {fs:List Fr} (a:Zx fs z=0) (e:fs.any zgt=Xd):za7 fs z=(fs,z.toNat,-1):=by
 obtain⟨b,c,b,b⟩:=jM a;have a:∀q∈fs,q=frF:=fun q b=>by
  have d:=List.any_eq_false.1 e q b;unfold zgt at d;have d:=(zbQ (c q b)).1;grind [zmJ]
 unfold za7;by_cases b:fs.length=0;·rw[b];rfl
 rw[zhb _ fs z.toNat Wm a,Nat.add_comm,Nat.two_mul,Nat.add_assoc,Nat.add_mod_left,Nat.add_mod_left,Yj Wm]
def zb0 (fs gs:List Fr):Prop:=gs.length=fs.length/\∀(i:Nat) q,fs[i]? =Xa q->∃q',gs[i]? =Xa q'/\(q'=q\/q'=frU q)
theorem zb0.refl (fs):zb0 fs fs:=⟨rfl,fun _ q h=>⟨q,h,.inl rfl⟩⟩
theorem zb0.set {fs a:List Fr} (h:zb0 fs a) (i:Nat):zb0 fs (a.set i (frU (a.getD i fr0))):=by
 refine⟨Rx Yf h.1,fun j q c=>?_⟩;obtain⟨d,a,b⟩:=h.2 j q c;by_cases e:j=i
 ·subst e;have c:=(gS.1 a).1;refine⟨frU d,?_,?_⟩;·grind
  right;rcases b with rfl|rfl <;> rfl
 grind
theorem za8:∀(m:Nat) (fs b:List Fr) (h:Nat),zb0 fs b->h<b.length->∀(a:List Fr) (c:Nat) (r:Int),Za m b h=(a,c,r)->zb0 fs a/\c<a.length/\(r=-1\/∃(k:Nat) (q:Fr),r=(k:Int)/\fs[k]? =Xa q/\0<q.r/\a[k]? =Xa (frU q)/\c=(k+1) % fs.length)
 | 0,fs,b,h,f,l,a,c,r,e=>by
  rw[Za]at e;cases e;exact⟨f,l,.inl rfl⟩
 | m+1,fs,b,h,f,l,a,c,r,e=>by
  rw[Za]at e;have j:=f.set h;have i:(h+1) % b.length< (b.set h (frU (b.getD h fr0))).length:=by
   rw[Yf];exact Yt _ Wm
  by_cases d:zjM (b.getD h fr0)=Xc
  ·rw[kE d]at e;cases e;refine⟨j,i,.inr ?_⟩;have g:h<fs.length:=Ry f.1 l;obtain⟨s,t,n⟩:=f.2 h fs[h] (gE g);have p:b.getD h fr0=s:=(by rw[gD,t];rfl);rw[p]at d;have b:0<s.r:=(by unfold zjM at d;simp at d;exact d.1);refine⟨h,fs[h],rfl,gE g,?_,?_,by rw[f.1]⟩
   ·rcases n with rfl|rfl
    ·exact b
    exact b
   rw[sF l,p];rcases n with rfl|rfl <;> rfl
  rw[kF d]at e;exact za8 m fs _ _ j i a c r e
theorem zkN {fs:List Fr} (b:∀q∈fs,0<=q.r):fs.countP zgt+qy fs=fs.length:=by
 induction fs with
 | nil=>rfl
 | cons a l d=>
  have c:=d fun q d=>b q (by simp[d]);have d:=b a Sm;unfold qy at c⊢;rw[Yn,Yn,Yi];by_cases b:a.r=0;·grind [zgt]
  grind [zgt]
theorem zeX:∀(d m:Nat) (a:List Fr) (h:Nat),h<a.length->d<m->zgt (a.getD ((h+d) % a.length) fr0)=Xc->(a.getD ((h+d) % a.length) fr0).u=Xd->(Za m a h).2.2≠-1
 | d,0,_,_,_,l,_,_=>Wm
 | d,m+1,a,h,f,l,b,j=>by
  rw[Za]
  by_cases hi:zjM (a.getD h fr0)=Xc
  ·rw[kE hi];simp only;omega
  rw[kF hi]
  cases d with
  | zero=>
   rw[Od,Yj f]at b j;unfold zjM at hi;unfold zgt at b;rw[b,j]at hi;exact absurd rfl hi
  | succ d=>
   have g:(a.set h (frU (a.getD h fr0))).length=a.length:=Yf;have c:∀i,(a.set h (frU (a.getD h fr0))).getD i fr0=if i=h/\h<a.length then frU (a.getD h fr0)else a.getD i fr0:=fun i=>by
    rw[gD];by_cases e:i=h;·subst e;rw[kE ⟨rfl,f⟩,sF f];rfl
    rw[kF Wm,sN (Ne.symm e),<-gD]
   have k:((h+1) % a.length+d) % a.length=(h+(d+1)) % a.length:=(by rw[Yw,show h+1+d=h+(d+1) by omega]);refine zeX d m _ _ (by rw[g];exact Yt _ Wm) Wm ?_ ?_
   ·rw[g,k,c]
    split
    ·rename_i e
     rw[e.1]at b;exact b
    exact b
   rw[g,k,c];split;·rfl
   exact j
theorem zdF:∀(d m:Nat) (a:List Fr) (h:Nat),h<a.length->d+a.length<m->zgt (a.getD ((h+d) % a.length) fr0)=Xc->(Za m a h).2.2≠-1
 | d,0,_,_,_,k,_=>Wm
 | d,m+1,a,h,c,k,f=>by
  rw[Za]
  by_cases hi:zjM (a.getD h fr0)=Xc
  ·rw[kE hi];simp only;omega
  rw[kF hi];have e:(a.set h (frU (a.getD h fr0))).length=a.length:=Yf;have b:∀i,(a.set h (frU (a.getD h fr0))).getD i fr0=if i=h/\h<a.length then frU (a.getD h fr0)else a.getD i fr0:=fun i=>by
   rw[gD];by_cases g:i=h;·subst g;rw[kE ⟨rfl,c⟩,sF c];rfl
   rw[kF Wm,sN (Ne.symm g),<-gD]
  cases d with
  | zero=>
   rw[Od,Yj c]at f;have j:((h+1) % a.length+(a.length - 1)) % a.length=h:=by
    rw[Yw,show h+1+(a.length - 1)=h+a.length by omega,Nat.add_mod_right,Yj c]
   refine zeX (a.length - 1) m _ _ (by rw[e];exact Yt _ Wm) Wm ?_ ?_;·rw[e,j,b,kE ⟨rfl,c⟩];exact f
   rw[e,j,b,kE ⟨rfl,c⟩];rfl
  | succ d=>
   have j:((h+1) % a.length+d) % a.length=(h+(d+1)) % a.length:=(by rw[Yw,show h+1+d=h+(d+1) by omega]);refine zdF d m _ _ (by rw[e];exact Yt _ Wm) (by rw[e];omega) ?_;rw[e,j,b];split
   ·rename_i g
    rw[g.1]at f;exact f
   exact f
theorem zkx {fs:List Fr} (a:Zx fs z=0):
  (zaM fs z=-1/\qy fs=fs.length)\/∃(k:Nat) (q:Fr),zaM fs z=(k:Int)/\fs[k]? =Xa q/\0<q.r/\zb0 fs (zcb fs z)/\(zcb fs z)[k]? =Xa (frU q)/\zdE fs z=(((k+1) % fs.length:Nat):Int):=by
 obtain⟨b,b,c,c⟩:=jM a;have d:zaM fs z=(za7 fs z).2.2:=kE a;have c:zcb fs z=(za7 fs z).1:=kE a;have c:zdE fs z=((za7 fs z).2.1:Int):=kE a;cases c:fs.any zgt with
 | false=>
  left;rw[d,zky a c];refine⟨rfl,?_⟩;have a:=zkN (fs:=fs) (fun q l=>(zbQ (b q l)).1);have a:fs.countP zgt=0:=by grind
  omega
 | true=>
  right;obtain⟨a,a,f⟩:=Yb.1 c;obtain⟨i,j⟩:=Xz a;have e:=(gS.1 j).1;have c:z.toNat<fs.length:=Wm;obtain⟨b,d,r,g⟩:∃b d r,Za (2*fs.length) fs z.toNat=(b,d,r):=⟨_,_,_,rfl⟩;have a:r≠-1:=by
   have a:=zdF ((i+fs.length - z.toNat) % fs.length) (2*fs.length) fs z.toNat c (by have:=Yt (i+fs.length - z.toNat) (show 0<fs.length by omega);omega) (by
    rw[Nat.add_mod_mod,show z.toNat+(i+fs.length - z.toNat)=i+fs.length by omega,Nat.add_mod_right,Yj e,gD,j]
    exact f)
   rw[g]at a;exact a
  obtain⟨a,a,a⟩:=za8 (2*fs.length) fs fs z.toNat (zb0.refl fs) c b d r g;rcases a with a|⟨k,q,rfl,l,a,a,rfl⟩;·grind
  grind [za7]
theorem zfa (a:enW Z=0):∀(l:List (Nat × Nat)) {m:Ma},(∀s∈m.sp,Qo s.tb)->(∀x∈l,x.1<m.sp.length/\x.2<64)->Jl m Z l=ZG m Z l
 | [],m,_,_=>rfl
 | x :: l,m,ht,b=>by
  obtain⟨c,d⟩:=b x (Xs ..)
  show Jl (jN m x.1 (x.2:Int) Z) Z l=ZG (JS m x.1 x.2 Z) Z l;rw[Jk ht c d a];exact zfa a l (zcZ ht a) (fun y a=>by rw[zb8];exact b y (Xt _ a))
theorem zg0:∀(l:List (Nat × Nat)) {m m0:Ma},m.sp=m0.sp->(ZG m Z l).sp=(ZG m0 Z l).sp
 | [],_,_,h=>h
 | x :: l,m,m0,h=>zg0 l (m:=JS m x.1 x.2 Z) (m0:=JS m0 x.1 x.2 Z) (by unfold JS;simp only;rw[h])
theorem zbM (h:Rt m) (b:m.fs[k]? =Xa X) (a:X.r≠0):0<=X.r/\X.r<=1000/\Zt m.fs m.aB (k:Int) (-X.r)=0:=by
 obtain⟨a,c⟩:=zbQ ((jM h.parts.1).2.1 X (mG b));refine⟨a,c,?_⟩;have a:m.fs.getD k fr0=X:=by rw[gD,b];rfl
 have c:=(gS.1 b).1;unfold Zt;rw[kE h.parts.1,tN,a];grind [inB]
theorem zjI {m0:Ma} (h:Rt m0) (b:m.sp=m0.sp) (c:m.fs=m0.fs) (g:m.aB=m0.aB) (f:m0.fs[k]? =Xa X) (a:X.r≠0) (d:enW Z=0):
  zaS m k X.r Z={ m with fs:=m.fs.set k frF,sp:=m.sp.map (ZH (k:Int) Z) }:=by
 obtain⟨_,_,c⟩:=zbM h f a;have i:∀s∈m.sp,Qo s.tb:=fun s a=>h.tb (Ry b a);have c:qQ m 1 (k:Int) m.sp.length=qQ m0 1 (k:Int) m0.sp.length:=by unfold qQ;rw[b]
 have a:∀x∈qQ m0 1 (k:Int) m0.sp.length,x.1<m.sp.length/\x.2<64:=fun x g=>by
  obtain⟨j,j,_⟩:=(zap (m:=m0) Dc (nR _)).1 g;grind
 have g:(ZG m Z (qQ m0 1 (k:Int) m0.sp.length)).sp=m.sp.map (ZH (k:Int) Z):=by rw[zg0 _ b,zoo h d,b]
 have b:m0.fs.getD k fr0=X:=by rw[gD,f];rfl
 unfold zaS;rw[c,zfa d _ i a,zdx];grind [Q6,tN,frH,frF]
def zaa (k:Nat) (fr:Fr) (l:List (Nat × Nat)) (q:Nat) (s:Sp) (a:Ar) (n:Nat):Bool:=decide ((z5 a n).file=fr.f) && decide ((z5 a n).page=fr.x) && !(l.contains (q,n)) &&(decide ((zf s n).kind=0) || isE (zf s n) 1 (k:Int))
def zgR (m:Ma) (k:Nat) (fr:Fr) (l:List (Nat × Nat)):Bool:=(Yr m.sp.length).any fun q=>(m.sp.getD q ⟨Xd,[],[]⟩).aC.any fun a=>(Yr 64).any fun n=>ZP a n && zaa k fr l q (m.sp.getD q ⟨Xd,[],[]⟩) a n
theorem zbr:zaa k X d b s C p=Xc↔zjk k X d b s C p:=by unfold zaa zjk;simp[and_assoc]
theorem zdq:zgR m k X d=Xc↔∃(q:Nat) (s:Sp) (i:Nat) (a:Ar) (n:Nat),m.sp[q]? =Xa s/\s.aC[i]? =Xa a/\ZP a n=Xc/\n<64/\zjk k X d q s a n:=by
 unfold zgR;constructor;·intro h;obtain⟨q,fr,h⟩:=Yb.1 h;obtain⟨a,b,h⟩:=Yb.1 h;obtain⟨n,e,h⟩:=Yb.1 h;obtain⟨i,c⟩:=Xz b;have b:=Xu.1 fr;have fr:=gE b;rw[Sp.aL fr]at c h;rw[Xx]at h;exact⟨q,_,i,a,n,fr,c,h.1,Xu.1 e,zbr.1 h.2⟩
 rintro⟨q,s,i,a,n,b,c,fr,e,f⟩;refine Yb.2 ⟨q,Xu.2 (gS.1 b).1,?_⟩;rw[Sp.aL b];refine Yb.2 ⟨a,mG c,Yb.2 ⟨n,Xu.2 e,?_⟩⟩;rw[Xx];exact⟨fr,zbr.2 f⟩
def zle (m:Ma) (fr:Fr):List Int:=ZF (pgL fr.p) fr.x (Jb m fr.f)
def J0 (m:Ma):Nat:=m.sl.findIdx isZ
def zbq (m:Ma) (k:Nat) (fr:Fr):Bool × Ma:=if J0 m<m.sl.length then(Xc,Qb m k (J0 m) fr.r (jL m.sb m.sq) (jS m.sq (J0 m:Int) (pgL fr.p)))else(Xd,m)
def zeH (m:Ma) (k:Nat) (fr:Fr) (l:List (Nat × Nat)):Bool × Ma:=
 if zle m fr≠pgL fr.p/\zgR m k fr l=Xc then(Xd,m)
 else if fr.d=Xc\/ZW m fr.f fr.x≠zle m fr then
  (if zaO m.fl m.cnt fr.f fr.x=0 then(Xc,qh (wrM m (zle m fr) fr.f fr.x) k)else if ZW m fr.f fr.x=zle m fr then(Xc,qh m k)else(Xd,m))
 else(Xc,qh m k)
def Zi (m:Ma) (k:Nat) (fr:Fr) (l:List (Nat × Nat)):Bool × Ma:=if fr.f=-1 then zbq m k fr else zeH m k fr l
def QD:Nat->Ma->List (Nat × Nat)->Bool × Ma
 | 0,m,_=>(Xd,m)
 | n+1,m,l=>
  if zaM m.fs m.aB<0 then(Xd,ZT m)
  else if(Zi (ZT m) (zaM m.fs m.aB).toNat (zW (ZT m) (zaM m.fs m.aB)) l).1=Xc then Zi (ZT m) (zaM m.fs m.aB).toNat (zW (ZT m) (zaM m.fs m.aB)) l
  else QD n (ZT m) l
def Z6 (m:Ma) (l:List (Nat × Nat)):Bool × Ma:=QD (2*m.fs.length) m l
section
variable{m:Ma} {k:Nat} {fr:Fr}
theorem Rt.frw (h:Rt m) (a:m.fs[k]? =Xa fr):frW fr=0:=(jM h.parts.1).2.1 fr (mG a)
theorem zkA (S:Nat->Nat->Prop) (f:Rt m) {a:List Fr} (h:zb0 m.fs a):Jt S m { m with fs:=a }:=by
 have j:∀i,i<=m.fs.length->Jt S m { m with fs:=a.take i++m.fs.drop i }:=by
  intro i;induction i with
  | zero=>
   intro _;have:a.take 0++m.fs.drop 0=m.fs:=Sm;rw[this];exact Jt.refl f
  | succ i b=>
   intro c;have g:=b Wm;obtain⟨q,l⟩:∃q,m.fs[i]? =Xa q:=⟨_,gE Wm⟩;obtain⟨c,b,k⟩:=h.2 i q l;have e:=h.1;have e:(a.take i).length=i:=(by rw[Oa];omega);have r:(a.take i++m.fs.drop i)[i]? =Xa q:=(by grind);have n:a.take (i+1)++m.fs.drop (i+1)=(a.take i++m.fs.drop i).set i c:=by
    rw[List.set_append,kF Wm,e,Oc,Ym,b,Ou];congr 1;rw[Yo (by omega:i<m.fs.length),sZ];rfl
   rw[n];by_cases n:q.r=0
   ·have p:=zmJ (f.frw l) n;have b:c=q:=by
     rcases k with e|e;·exact e
     rw[e,p];rfl
    have f:(a.take i++m.fs.drop i).set i c=a.take i++m.fs.drop i:=by
     rw[b];apply Xy;intro a;by_cases e:i=a;·grind
     grind
    rw[f];exact g
   have b:c={ q with u:=c.u,d:=q.d }:=by
    rcases k with e|e;·rw[e]
    rw[e];rfl
   rw[b];exact g.trans (zkB S g.rt r n c.u q.d)
 have:=j m.fs.length (nR _);rw[List.drop_length,List.append_nil,Yc (by rw[h.1];exact nR _)]at this;exact this
theorem zkC {fs a:List Fr} (d:zb0 fs a):qy a=qy fs:=by
 unfold qy;have b:a.map (fun f=>decide (f.r=0))=fs.map (fun f=>decide (f.r=0)):=by
  apply Xy;intro i;rw[Yg,Yg];cases c:fs[i]? with
  | none=>
   have:a[i]? =Xb:=(by rw[List.getElem?_eq_none_iff]at c⊢;rw[d.1];exact c);rw[this]
  | some q=>
   obtain⟨a,b,a⟩:=d.2 i q c;rw[b];rcases a with e|e <;> rw[e] <;> rfl
 have a:=congrArg (List.countP id) b;rw[List.countP_map,List.countP_map]at a;exact a
theorem zhc (S:Nat->Nat->Prop) (h:Rt m):Jt S m (ZT m)/\qy (ZT m).fs=qy m.fs/\((zaM m.fs m.aB=-1/\qy m.fs=m.fs.length)\/∃(k:Nat) (fr:Fr),zaM m.fs m.aB=(k:Int)/\(ZT m).fs[k]? =Xa fr/\fr.r≠0):=by
 have c:=h.parts.1;obtain⟨a,a,a,a⟩:=jM c;have a:zcb m.fs m.aB=(za7 m.fs m.aB).1:=kE c;have b:zdE m.fs m.aB=((za7 m.fs m.aB).2.1:Int):=kE c;have d:zb0 m.fs (zcb m.fs m.aB)/\0<=zdE m.fs m.aB/\zdE m.fs m.aB<max (m.fs.length:Int) 1:=by
  rw[a,b];by_cases a:m.fs.length=0
  ·have:za7 m.fs m.aB=(m.fs,m.aB.toNat,-1):=by unfold za7;rw[a];rfl
   rw[this];exact⟨zb0.refl _,by simp only;omega,by simp only;omega⟩
  obtain⟨a,b,r,e⟩:∃a b r,Za (2*m.fs.length) m.fs m.aB.toNat=(a,b,r):=⟨_,_,_,rfl⟩;obtain⟨f,g,_⟩:=za8 _ m.fs m.fs m.aB.toNat (zb0.refl _) Wm a b r e;have:za7 m.fs m.aB=(a,b,r):=e;rw[this];have:=f.1;grind
 obtain⟨a,e,f⟩:=d;have b:=zkA S h a;have d:Jt S { m with fs:=zcb m.fs m.aB } (ZT m):=zmz S b.rt e (by show _<max ((zcb m.fs m.aB).length:Int) 1;rw[a.1];exact f);refine⟨b.trans d,zkC a,?_⟩;rcases zkx c with⟨a,b⟩ | ⟨k,q,a,b,b,b,b,c⟩;·grind
 exact .inr ⟨k,frU q,a,b,by show q.r≠0;omega⟩
theorem zpu (a:J0 m<m.sl.length):m.sl[J0 m]? =Xa 0:=by have b:(m.sl[J0 m] == 0)=Xc:=List.findIdx_getElem (w:=a);rw[gE a,eq_of_beq b]
theorem zlO (S:Nat->Nat->Prop) (h:Rt m) (d:m.fs[k]? =Xa fr) (c:fr.f=-1) (e:fr.r≠0):Jt S m (zbq m k fr).2:=by
 unfold zbq;by_cases b:J0 m<m.sl.length
 ·rw[kE b];have a:=h.inv.bE;have a:zm m.sb.length m.sq ((J0 m:Nat):Int)=0:=by
   unfold zm;rw[kE h.inv.sq,kE (by simp[Zk];omega)]
  exact zlP S h d c e (zpu b) (Q9 _ _) (Jz a) (zeM a).2 (fun i _ b=>zdg a b)
 grind [Jt.refl]
theorem zlD (S:Nat->Nat->Prop) (h:Rt m) {c:Ca} {F:Fl} (t:c∈m.ca) (hi:zrg m c k fi ix fr F) (a:zaO m.fl m.cnt fr.f fr.x=0) (pg):∃b:Nat,wrM m pg fr.f fr.x=zeq m fi ix F (b:Int) (jL m.db m.dq) (jS m.dq (b:Int) pg)/\Jt S m (zeq m fi ix F (b:Int) (jL m.db m.dq) (jS m.dq (b:Int) pg))/\qI (jL m.db m.dq) (jS m.dq (b:Int) pg) (b:Int)=pg/\(b:Int)<m.cnt/\(∀(i j:Nat) g,m.fl[i]? =Xa g->g.bl[j]? =Xa (b:Int)->i=fi/\j=ix):=by
 have e:=a;rw[hi.ff,hi.fx]at a;obtain⟨b,l,f,n,p,q⟩:=zqX h hi.fl hi.bl a;obtain⟨a,a,r⟩:=Qq h.inv.bI;have a:=h.inv.cnt;have a:zm m.db.length m.dq (b:Int)=0:=by
  unfold zm;rw[kE h.inv.bI,kE (by simp[Zk];omega)]
 have d:=h.inv.st;have s:wrM m pg fr.f fr.x=zeq m fi ix F (b:Int) (jL m.db m.dq) (jS m.dq (b:Int) pg):=by
  unfold wrM zeq;rw[kE e,hi.ff,hi.fx,f,n,p];grind [jA,jG]
 have f:stW (m.fl.set fi ⟨F.size,F.bl.set ix (b:Int)⟩) m.cnt=0/\(∀x,z3 (m.fl.set fi ⟨F.size,F.bl.set ix (b:Int)⟩) x=Xc↔(z3 m.fl x=Xc/\x≠-1)\/x=(b:Int)\/(x=-1/\z3 (m.fl.set fi ⟨F.size,F.bl.set ix (b:Int)⟩) x=Xc))/\(F.bl[ix]? =Xa (b:Int)\/z3 m.fl (b:Int)=Xd)/\∀(i j:Nat) g,m.fl[i]? =Xa g->g.bl[j]? =Xa (b:Int)->i=fi/\j=ix:=by
  rcases q with e|⟨e,n⟩
  ·obtain⟨p,q,u⟩:=znm d hi.fl e
   grind
  obtain⟨p,q,u,p⟩:=znn d hi.fl e n;grind
 obtain⟨u1,u2,u3,u4⟩:=f;refine⟨b,s,zlp S h hi.fl u1 u2 (Q9 _ _) (Jz a) (zlC _ _ r) (fun q e=>?_) (fun i d=>zdg a d) u3 ⟨c,t,hi.file,hi.idx⟩ u4,(zeM a).2,l,u4⟩;unfold jS at e;grind [List.mem_append.1,List.mem_of_mem_tail,List.mem_singleton]
theorem zgb (h:Rt m) (a:m.fs[k]? =Xa fr) (b:fr.f≠-1):∃(i:Nat) (c:Ca) (b d:Nat) (F:Fl),m.ca[i]? =Xa c/\zrg m c k b d fr F:=by
 have e:0<=fr.f:=by
  have:=h.frw a;grind [frW,inB]
 obtain⟨i,c,g,j,j,j⟩:=zek h a e;obtain⟨j,b,d,f,F,b⟩:=znl h.w (mG g);have e:j=k:=Hm b.fr;subst e;have:=b.fa.symm.trans a;grind
theorem zm8 (h:Rt m) (d:m.fs[k]? =Xa fr) (b:fr.f≠-1) (f:fr.r≠0) (l:List (Nat × Nat)):Jt (fun q j=>(q,j)∈l) m (zeH m k fr l).2:=by
 obtain⟨i,c,a,a,F,c,a⟩:=zgb h d b;have x:=mG c;have b:=(gS.1 a.fl).1;have b:Jb m fr.f=F.size:=by unfold Jb;rw[a.ff,tN,gD,a.fl];rfl
 have g:0<=fr.f:=by rw[a.ff];omega
 unfold zeH;by_cases p:zle m fr≠pgL fr.p/\zgR m k fr l=Xc;·grind [Jt.refl]
 rw[kF p];have e:ZF (pgL fr.p) fr.x (Jb m fr.f)=pgL fr.p\/∀(q:Nat) s (i:Nat) c (n:Nat),m.sp[q]? =Xa s->s.aC[i]? =Xa c->ZP c n=Xc->n<64->¬zjk k fr l q s c n:=by
  by_cases b:zle m fr=pgL fr.p;·exact .inl b
  exact .inr fun q s i c n r t u v w=>p ⟨b,zdq.2 ⟨q,s,i,c,n,r,t,u,v,w⟩⟩
 by_cases b:fr.d=Xc\/ZW m fr.f fr.x≠zle m fr
 ·rw[kE b]
  by_cases c:zaO m.fl m.cnt fr.f fr.x=0
  ·rw[kE c];obtain⟨i,i,n,p,_⟩:=zlD (fun q j=>(q,j)∈l) h x a c (zle m fr);simp only;rw[i];refine zgB n a.fl a.bl d a.ff a.fx f ?_ e;rw[p];unfold zle;rw[a.fx,a.ff]
  rw[kF c];by_cases a:ZW m fr.f fr.x=zle m fr;·rw[kE a];exact zfL h d g f a e
  grind [Jt.refl]
 rw[kF b];exact zfL h d g f (Classical.byContradiction fun a=>b (.inr a)) e
theorem zk5 (h:Rt m) (a:m.fs[k]? =Xa fr) (b:fr.r≠0) (l:List (Nat × Nat)):Jt (fun q j=>(q,j)∈l) m (Zi m k fr l).2:=by grind [Zi,zlO,zm8]
theorem zlE (m:Ma) (pg) (file idx:Int):(wrM m pg file idx).fs=m.fs:=(zqs _ _ _ _).1
theorem zjZ (m:Ma) (k:Nat) (fr) (l:List (Nat × Nat)):((Zi m k fr l).1=Xc/\(Zi m k fr l).2.fs=m.fs.set k frF)\/((Zi m k fr l).1=Xd/\(Zi m k fr l).2=m):=by
 unfold Zi;split
 ·unfold zbq
  split;·exact .inl ⟨rfl,rfl⟩
  grind
 grind [zeH,qh,zlE]
theorem zd1 (l:List (Nat × Nat)):∀(n:Nat) {m:Ma},Rt m->Jt (fun q j=>(q,j)∈l) m (QD n m l).2/\qy (QD n m l).2.fs=qy m.fs+((QD n m l).1).toNat
 | 0,m,h=>⟨Jt.refl h,rfl⟩
 | n+1,m,h=>by
  obtain⟨a,d,b⟩:=zhc (fun q j=>(q,j)∈l) h
  unfold QD;rcases b with⟨b,_⟩|⟨k,f,b,c,e⟩
  ·rw[kE Wm]
   exact⟨a,d⟩
  rw[kF Wm,b,tN,zK c];rcases zjZ (ZT m) k f l with⟨b,f⟩|⟨b,f⟩;·rw[kE b];refine⟨a.trans (zk5 a.rt c e l),?_⟩;rw[b,f,zoA c e,d];rfl
  rw[kF (by rw[b];decide)];obtain⟨b,c⟩:=zd1 l n a.rt;exact⟨a.trans b,by rw[c,d]⟩
theorem zmK (h:Rt m) (l:List (Nat × Nat)):Jt (fun q j=>(q,j)∈l) m (Z6 m l).2/\qy (Z6 m l).2.fs=qy m.fs+((Z6 m l).1).toNat:=zd1 l _ h
end
end
end Go.Proofs.YtkfjajbalegoeaaGreat
