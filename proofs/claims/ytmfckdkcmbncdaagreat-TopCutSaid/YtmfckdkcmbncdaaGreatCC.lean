/- TopCut,proved:a file of any size that is written,synced,cut,and grown again,reads as it did up to the cut,and as noughts behind it,whether or not the power fails between,whatever then is lost. No condition. -/
import Derived.Test.YtmfckdkcmbncdaaGreatCC4
import Derived.Test.YtmfckdkcmbncdaaGreatRows
import Derived.ProofKit
import Derived.OpenShut
import Derived.ShutString
import Derived.ChangeOld
import Derived.Carry
import Derived.SizedLaws
import Derived.Test.YtmfckdkcmbncdaaGreatChecked
namespace Go.Proofs.YtmfckdkcmbncdaaGreat
open Go.Value renaming slice→O,int→Xe,bool→Xh,agg→Xi,pointer→Xj,tuple→Xm
open Go.IntKind renaming i64→Xf,u8→Xg
open Go.Obj renaming cells→Xk
open Go.Ending renaming returned→Xl
open Go renaming World→Xn,Calls→Xp,Value→Xq
open Go.RowKit renaming Hid→Xo
open Option renaming some→Xa,none→Xb
open Bool renaming true→Xc,false→Xd
open List renaming replicate→Xr
open _root_.Nat renaming lt_of_lt_of_le→Xs,mul_le_mul_right→Yh,lt_or_ge→Yr,min_eq_left→Yv,mul_one→Ob,le_succ→Oh
open _root_.List renaming getElem?_append_left→Xt,range→Xu,length_take→Xv,mem_of_find?_eq_some→Xw,getElem?_replicate→Xx,mem_filter→Xy,length_set→Xz,getElem?_of_mem→Ya,mem_range→Yb,length_range→Yc,drop_eq_nil_of_le→Yd,getElem?_map→Ye,length_drop→Yf,length_map→Yj,take_replicate→Yk,getElem?_range→Yl,mem_cons_self→Yn,mem_or_eq_of_mem_set→Yo,getElem?_take_of_lt→Yp,ext_getElem→Yq,getElem_replicate→Yt,find?_some→Yu,length_filter_le→Yw,take_append_drop→Yx,getElem?_mapIdx→Yy,mem_cons_of_mem→Yz,drop_zero→Oa,map_congr_left→Oc,flatMap_append→Od,find?_eq_none→Oe,getElem?_take→Of,getElem_range→Og
open Go.Act renaming put→Yg
open _root_.Array renaming replicate→Yi
open Go.Sem renaming run_bind→Ym
open Go.Addr renaming add_lit→Ys
set_option maxRecDepth 100000
set_option maxHeartbeats 4000000
variable{B B0 b base' fi g ix kk:Nat} {M m m':Ma} {Q:Exit->Act->Xn->Prop} {V:MaV} {W w' w0 w1 w2:Xn} {l:List Ar} {o:Oper} {ops:Array Oper} {t:TypeId} {us vs:List Xq}
open Go.Proofs.Tryz
section
open Go.RowKit
section
variable{m:Ma}
theorem zms (h:Rt m) {k:Nat} {fr:Fr} (l:m.fs[k]? =Xa fr):Rt (z2 m k):=by
 have i:=h.inv.moved l en0 Dc (sl':=m.sl) (sb':=m.sb) (sq':=m.sq) rfl rfl h.inv.sq (fun n z j=>by
  have:=h.inv.cs n z j;rw[kF (by simp[Zy])]
  omega) (.inl rfl)
 have a:(z2 m k).sp=m.sp.map (j7 (k:Int) en0):=rfl;have g:=zch h (k:=(k:Int)) Qg _ a;have c:ZA (z2 m k) (jd (z2 m k)):=by
  unfold jd;rw[g];refine ZA.tabs i (sp':=(z2 m k).sp) (by rw[a];simp) fun p s q f d=>?_
  rw[a]at d;obtain⟨r,e,rfl⟩:=JO d;have b:m.sp[p]? =Xa s:=f;rw[b]at e;cases e;exact⟨rfl,rfl⟩
 exact Rt.of c (by rw[a];exact zds h Qg) h.aB.1 (by show m.aB<max ((m.fs.set k frF).length:Int) 1;simpa using h.aB.2)
theorem znY (h:Rt m) {db':List (List Int)} {dq':List (Int × List Int)} (g:db'.length=m.db.length) (v:zB db'.length dq'=0) (p:∀i:Nat,zR m.fl (i:Int)=Xd->db'[i]? =m.db[i]?) (c:∀q∈dq',zR m.fl q.1=Xc):Rt { m with db:=db',dq:=dq' }:=by
 have a:=h.inv;obtain⟨k,y,l⟩:=zn.1 a.ca;refine Rt.of ⟨a.aY,a.bN,a.aX,a.bI,a.sq,v,a.st,by show m.cnt=_;rw[g];exact a.cnt,fun e b j=>(p e j).trans (a.bJ e (Ry g b) j),c,a.aQ,a.bA,a.tl,zn.2 ⟨fun f r=>k f r,fun q f c=>(by cases c),l⟩,fun x s n d t w u=>a.aZ x s n d t w u,a.cf,a.cs⟩ (fun s d=>h.tb d) h.aB.1 h.aB.2
theorem zmq {F:Fl} {b:Int} (c:m.fl[fi]? =Xa F) (a:F.bl[ix]? =Xa b):zR m.fl b=Xc:=qE.2 ⟨fi,F,ix,c,a⟩
theorem zqm {F:Fl} {b:Int} (c:m.fl[fi]? =Xa F) (a:F.bl[ix]? =Xa b):Qc m (fi:Int) (ix:Int)=b:=by
 unfold Qc
 simp[c,a]
theorem QH (h:Rt m) {fi ix:Int} {c:Ca} (e:zcb m fi ix=Xa c):∃(k:Nat) (fr:Fr),c.fr=(k:Int)/\m.fs[k]? =Xa fr/\fr.r≠0:=by
 obtain⟨k,fr,a,b,d,_⟩:=qU h (Xw e);exact⟨k,fr,a,b,d⟩
theorem zpE (h:Rt m) (fi ix:Nat):Rt (ZT m fi ix):=by
 unfold ZT
 cases e:zcb m (fi:Int) (ix:Int)with
 | none=>exact h
 | some c=>
  obtain⟨k,d,a,b,_⟩:=QH h e;simp only;rw[a,tN];exact zms h b
theorem zfz (h:Rt m):∀q∈m.dq,∃i:Nat,q.1=(i:Int)/\i<m.db.length:=(qk h.inv.aU).2.2
theorem QB (h:Rt m) {a:Int} (b:0<=a/\a< (m.db.length:Int)):zg m.db.length m.dq a=0:=by
 unfold zg;rw[kE h.inv.aU,kE (by simp[j0];omega)]
theorem znh (h:Rt m) {F:Fl} (d:m.fl[fi]? =Xa F) (v:ix<F.bl.length):Rt (zb6 m fi ix):=by
 obtain⟨c,a⟩:∃c,F.bl[ix]? =Xa c:=⟨_,gE v⟩;have g:=zpE h fi ix;obtain⟨j,k,z,_,_⟩:=zag m fi ix;unfold zb6;rw[zqm d a]
 by_cases i:c<0
 ·rw[kE i];exact g
 rw[kF i];have r:=(zd4 h d a).resolve_left Wm
 have b:=QB h r;have u:=zmq d a;unfold JB Jz;rw[kE b,kE b];refine znY g (by rw[k];simp) ?_ (fun w e=>?_) (fun q f=>?_)
 ·obtain⟨l,n,p⟩:=qk h.inv.aU;refine Jv (Si l) (nT (Yw _ _) n) fun q f=>?_
  obtain⟨x,s,t⟩:=p q ((Xy.1 f).1);exact⟨x,s,Si t⟩
 ·rw[j]at e;rw[k];rw[sN];intro y;have:(w:Int)=c:=Wm
  rw[this,u]at e;cases e
 rw[j];exact h.inv.bE q (Xy.1 f).1
theorem zrM (h:Rt m) (fi ix:Nat) (n:Int):Rt (Qx m fi ix n):=by
 unfold Qx
 cases e:zcb m (fi:Int) (ix:Int)with
 | none=>exact h
 | some d=>
  obtain⟨k,f,b,a,c⟩:=QH h e;simp only;rw[b,tN,zT a];exact zmV h a c _ _ _
theorem zqB (h:Rt m) {z:Nat} {F:Fl} (f:m.fl[fi]? =Xa F) (u:z % 8≠0->z / 8<F.bl.length):Rt (zfa m fi z):=by
 unfold zfa
 by_cases e:z % 8=0
 ·rw[kE e];exact h
 rw[kF e];obtain⟨a,c⟩:∃a,F.bl[z / 8]? =Xa a:=⟨_,gE (u e)⟩;rw[zqm f c];have i:=zrM h fi (z / 8) ((z % 8:Nat):Int);obtain⟨l,n,y,_,_,_⟩:=zbL m fi (z / 8) ((z % 8:Nat):Int)
 by_cases k:a<0\/zcL m a ((z % 8:Nat):Int)=Xd
 ·rw[kE k];exact i
 rw[kF k];have s:=(zd4 h f c).resolve_left Wm
 have d:=QB h s;have t:=zmq f c;have g:∀P:List Int,Rt { Qx m fi (z / 8) ((z % 8:Nat):Int)with db:=jL (fun _=>Xc) (qt m.db m.dq a) (qr m.db m.dq a P),dq:=[] }:=fun P=>by
  have r:Rt { Qx m fi (z / 8) ((z % 8:Nat):Int)with db:=qt m.db m.dq a,dq:=qr m.db m.dq a P }:=by
   unfold qt qr;rw[kE d,kE d];refine znY i (by rw[n,jE]) (jx d) (fun v j=>?_) (fun q b=>?_)
   ·rw[l]at j;rw[n]
    rcases zbe m.db m.dq (zfz h) v with p|⟨q,w,x⟩
    ·exact p
    have:=h.inv.bE q w;rw[x,j]at this;cases this
   rw[l];unfold qh at b
   rcases List.mem_append.1 b with b|b
   ·refine h.inv.bE q ?_
    split at b
    ·exact List.mem_of_mem_tail b
    exact b
   rw[List.mem_singleton.1 b];exact t
  exact(zdL r).rt
 exact g _
end
variable{X:Nat->Prop}
def zr4 (w0 u:Xn) (k:Nat):Prop:=w0.heap.size<=k/\k<u.heap.size
def Aft (w0 u w:Xn) (k:Nat):Prop:=k<w0.heap.size\/(u.heap.size<=k/\k<w.heap.size)
def ZQ (K:Int->Int->List Int->Ma->Prop) (w0:Xn) (p:Nat) (u w:Xn) (e:Ending) (w':Xn):Prop:=
 ∃(er n:Int) (s:Sli) (l:List Int) (V':MaV) (m':Ma),e= Xl (Ju er n s)/\K er n l m'/\zk (zr4 w0 u) w w'/\zc w0 w'/\(∀W,zk (Aft w0 u w) w' W->zj byE W (O s.a s.n s.c) l)/\(er=0->zl w' p 88 (chL V' m')/\∀W,zk (Aft w0 u w) w' W->zw W V' m')
theorem Qh.more {K:Int->Int->List Int->Ma->Prop} {u w:Xn} {p:Nat} {e:Ending} (h:Qh K w0 p w e w') (t:w0.heap.size<=p) (hp:p<u.heap.size) (r:w0.heap.size<=w.heap.size):ZQ K w0 p u w e w':=by
 obtain⟨i,x,y,s,g,v,j,l,m,n,q,f⟩:=h;have b:∀W,zk (Aft w0 u w) w' W->zk (fun k=>k<w.heap.size) w' W:=fun W a=>a.wide fun k c=>c.elim (fun h=>Xs h r) fun h=>h.2
 exact⟨i,x,y,s,g,v,j,l,m.wide fun k c=>by cases c;exact⟨t,hp⟩,n,fun W a=>q W (b W a),fun d=>⟨(f d).1,fun W a=>(f d).2 W (b W a)⟩⟩
def zd9 (m:Ma) (pr:Int) (K:Int->Int->List Int->Ma->Prop) (er n:Int) (l:List Int) (m':Ma):Prop:=
 (er=5/\n=0/\l=[]/\∀q s,¬zcn m pr q s)\/((∃q s,zcn m pr q s)/\K er n l m')
theorem zb3 {w:Xn} {p:Nat} (h:ChW w0 X p w V m) (c:Cl) (g F:Nat) (K:Int->Int->List Int->Ma->Prop) (bb:Enters prog F) (ae:zl w g 80 [.func (.func F) #[] #[]])
  (aa:∀W,zc w W->(∃q s,zcn m c.aC q s)->Xp prog F #[Xj (Xa ⟨p,0,Xb⟩),Xi #[I6 c.kind,I6 c.aC,I6 c.pt,I6 c.n,I6 c.file,I6 c.base,Xh c.rd,Xh c.wr,Xh c.sh,c.dv.x]] W fun e w'=>ZQ K w0 p w W e w'):
  Xp prog 73 #[Xj (Xa ⟨p,0,Xb⟩),Xi #[I6 c.kind,I6 c.aC,I6 c.pt,I6 c.n,I6 c.file,I6 c.base,Xh c.rd,Xh c.wr,Xh c.sh,c.dv.x],Xj (Xa ⟨g,0,Xb⟩)] w fun e w'=>ZQ (zd9 m c.aC K) w0 p w w e w':=by
 have Q:Xo (ChW w0 X p w V m):=h;have T:Xo (p<w.heap.size):=h.aM p (.inl rfl);have ar:Xo (zl w g 80 [.func (.func F) #[] #[]]):=ae;have aq:=show Xo _ from aa
 have bn:Xo (∀(N:Array Xq) (w:Xn),(callFunc F N).run prog w= .ok (.enter F N) w):=bb;obtain⟨b,B⟩:=kA w.heap.size;obtain⟨r,u⟩:=kB ((w.alloc (Xk #[I6 c.kind,I6 c.aC,I6 c.pt,I6 c.n,I6 c.file,I6 c.base,Xh c.rd,Xh c.wr,Xh c.sh,c.dv.x] 25)).alloc (Xk #[I6 0,I6 0,eS] 54));have al:=gD2 u
 have ba:Xo (zl r b 25 [I6 c.kind,I6 c.aC,I6 c.pt,I6 c.n,I6 c.file,I6 c.base,Xh c.rd,Xh c.wr,Xh c.sh,c.dv.x]):=dD<|by rw[<-u];exact(zl.aE w [I6 c.kind,I6 c.aC,I6 c.pt,I6 c.n,I6 c.file,I6 c.base,Xh c.rd,Xh c.wr,Xh c.sh,c.dv.x] _ B.symm).aA (za _ _)
 have A1:Xo (zl r (b+1) 54 [I6 0,I6 0,eS]):=dD<|by rw[<-u];exact zl.aE _ [I6 0,I6 0,eS] _ (by have:=B.out;simp;omega)
 have ap:Xo (b+1<r.heap.size):=A1.box.lt;have a5:Xo (p<b):=show _<_ by have:=T.out;have:=B.out;omega
 have au:Xo (w0.heap.size<=b):=dD<|by have:=Q.lo;have:=a5.out;omega
 have b9:Xo (ChW w0 X p r V m):=h.aA al.out;have ay:Xo (_=r):=u;obtain⟨-,-,-,-,-,-,-,-,bi⟩:=h.at.ns;have R:Xo (V.sp.n=m.sp.length):=bi;obtain⟨y,C⟩:=kA V.sp.n;clear u h aa ae bi bb
 go_enter func73,ntmps73
 go_upto_region 1 with fail;rw[ay.out,B.out];have H:=fun z:zf r=>(ba.box.aA z.aA).c 1 rfl
 have d:∀z:zf r,z.world.cell? ⟨p,10,Xb⟩=Xa (O V.sp.a y V.sp.c):=fun z=>by rw[<-C.out];exact(b9.box.box.aA z.aA).c 10 rfl
 have Y:Nonempty (zf r):=⟨⟨_,zc.refl _⟩⟩
 by_cases j:0<=c.aC/\c.aC< (y:Int)
 rotate_left
 ·have l:Xo ((Value.bool (decide (0<=c.aC) && decide (c.aC< (y:Int))))= Xh Xd):=dD<|by
   congr 1
   rw[Bool.and_eq_false_iff]
   by_cases a9:0<=c.aC
   ·exact .inr (decide_eq_false fun bw=>j ⟨a9,bw⟩)
   exact .inl (decide_eq_false a9)
  have S:Xo (∀q s,¬zcn m c.aC q s):=dD<|fun q s U=>j (by
   have:=U.1;have:=(gS.1 U.2.1).1;have:=C.out;have:=R.out
   omega)
  clear j;refine qx [(8,⟨fun aj=>aj= Xh Xd,fun _ _=>True⟩)] zW Kr ?_ ?_ ?_
  ·intro x a
   simp at a
   subst a;exact⟨_,rfl⟩
  ·intro x a
   simp at a
   subst a;exact fun _ _ _ _ h=>h
  iterate 3 refine ze ?_
  refine jG (.tmp 8) ⟨p,0,Xb⟩ rfl rfl rfl rfl ?_;refine Uq ?_;iterate 4 refine ze ?_
  refine zx rfl rfl (fun w' ae aa=>?_) (fun bm k=>?_)
  ·refine zP.call [I6 c.aC,I6 (y:Int)] rfl func74 rfl rfl rfl ?_;refine(ZW c.aC (y:Int) w').mono ?_;rintro e ak ⟨rfl,rfl⟩;exact⟨_,rfl,zc.refl _,l,trivial⟩
  subst k;refine Uq ?_;iterate 2 refine ze ?_
  iterate 11 (refine ji rfl ?_;simp only[Yg,sB,sS,sZ])
  refine ze ?_
  refine zL fun M f _=>?_
  have A2:=dD (A1.aA f);have L:=dD (al.trans f);clear f H d Y;have v:=jY 5 M;go_wp2_with fail;refine v.mono ?_;rintro e Z ⟨rfl,A⟩;have a0:=dD (A2.aA A);have a7:=dD (L.trans A);clear v A;unfold Ju noS
  go_wp2_with (refine zm rfl 54 (.tmp 5) (.tmp 29) rfl (b+1) rfl [I6 5,I6 0,eS] rfl a0 rfl Kr (by simp[Value.oneCell']) ?_)
  intro t P i _;have ao:Xo (zc w0 t):=dD<|zd (Q.gr.trans a7) i (Hm au.out)
  have a1:Xo (zl t (b+1) 54 [I6 5,I6 0,eS]):=P;have b1:Xo (zk (fun ah=>ah=p) w t):=show zk _ _ _ from zk.beyond (zk.aA a7) i (Hm B.out)
  clear P i;go_wp2;refine bodyPost_ret (zE rfl _ rfl a1.box underlying54 rfl Kr) rfl (Qh.more (Qh.err (V:=V) (m:=m) Dc (.inl ⟨rfl,rfl,rfl,S⟩) b1 ao) Q.lo T (bS Q.gr))
 have l:Xo ((Value.bool (decide (0<=c.aC) && decide (c.aC< (y:Int))))= Xh Xc):=dD<|by
  rw[decide_eq_true j.1,decide_eq_true j.2];rfl
 obtain⟨q,a6⟩:∃q:Nat,Xo (c.aC=(q:Int)):=⟨c.aC.toNat,show _=_ by omega⟩
 have bz:(q:Int)< (y:Int):=Hm a6.out
 obtain⟨an,b7,bk,bl⟩:=b9.sp;obtain⟨x,a⟩:∃x,an[q]? =Xa x:=⟨_,gE (by rw[bk,<-R.out,C.out];omega)⟩
 obtain⟨s,b3⟩:∃s,m.sp[q]? =Xa s:=⟨_,gE (by rw[<-R.out,C.out];omega)⟩
 have af:=(bl q x s a b3 r (zk.refl _ _)).aH;obtain⟨b2,bu,E⟩:=b7.aJ (Hm ((gS.1 a).1))
 have b8:Xo (m.sp[q]? =Xa s):=b3;have av:Xo (x.aH=s.aH):=af;have ax:Xo (zb Jm w0.heap.size r (O (Xa ⟨b2,0,Xb⟩) an.length bu) an):=show zb _ _ _ _ _ by rw[<-E];exact b7
 have b0:Xo (an[q]? =Xa x):=a;have ag:V.sp.a=Xa ⟨b2,0,Xb⟩:=by simp only[vJ]at E;exact E.1
 rw[ag]at d;rw[a6.out]at H l;have G:∀z:zf r,z.world.cell? ⟨b2,q*10,Xb⟩=Xa (Xh s.aH):=fun z=>by
  rw[<-av.out];exact(ax.aA z.aA).bH b0 0 _ rfl
 clear j b7 bk bl a b3 af E ag;have bx:decide ((0:Int)<=(q:Int))=Xc:=Sm
 have bq:Xo (c.aC=(q:Int)):=a6
 cases k:s.aH with
 | false=>
  rw[k]at G;have S:Xo (∀b6 bj,¬zcn m c.aC b6 bj):=dD<|fun b6 bj U=>by
   have e:b6=q:=by have:=U.1;have:=a6.out;omega
   rw[e]at U;have bc:=U.2.1;rw[b8.out]at bc;cases bc;have bd:=U.2.2;rw[k]at bd;cases bd
  clear k;refine qx [(8,⟨fun aj=>aj= Xh Xc,fun _ _=>True⟩)] zW Kr ?_ ?_ ?_
  ·intro x a
   simp at a
   subst a;exact⟨_,rfl⟩
  ·intro x a
   simp at a
   subst a;exact fun _ _ _ _ h=>h
  iterate 3 refine ze ?_
  refine jG (.tmp 8) ⟨p,0,Xb⟩ rfl rfl rfl rfl ?_;refine Uq ?_;iterate 4 refine ze ?_
  refine zx rfl rfl (fun w' ae aa=>?_) (fun bm k=>?_)
  ·refine zP.call [I6 (q:Int),I6 (y:Int)] rfl func74 rfl rfl rfl ?_;refine(ZW (q:Int) (y:Int) w').mono ?_;rintro e ak ⟨rfl,rfl⟩;exact⟨_,rfl,zc.refl _,l,trivial⟩
  subst k;refine Uq ?_;iterate 2 refine ze ?_
  refine qR rfl rfl rfl (fun K ab=>?_);go_big_quiet_op;refine ab _ ?_;clear ab K
  refine jG (.tmp 17) ⟨p,0,Xb⟩ rfl rfl rfl rfl ?_;refine Uq ?_;iterate 10 refine ze ?_
  clear G;refine zL fun M f _=>?_
  have A2:=dD (A1.aA f);have L:=dD (al.trans f);clear f H d Y;have v:=jY 5 M;go_wp2_with fail;refine v.mono ?_;rintro e Z ⟨rfl,A⟩;have a0:=dD (A2.aA A);have a7:=dD (L.trans A);clear v A;unfold Ju noS
  go_wp2_with (refine zm rfl 54 (.tmp 5) (.tmp 29) rfl (b+1) rfl [I6 5,I6 0,eS] rfl a0 rfl Kr (by simp[Value.oneCell']) ?_)
  intro t P i _;have ao:Xo (zc w0 t):=dD<|zd (Q.gr.trans a7) i (Hm au.out)
  have a1:Xo (zl t (b+1) 54 [I6 5,I6 0,eS]):=P;have b1:Xo (zk (fun ah=>ah=p) w t):=show zk _ _ _ from zk.beyond (zk.aA a7) i (Hm B.out)
  clear P i;go_wp2;refine bodyPost_ret (zE rfl _ rfl a1.box underlying54 rfl Kr) rfl (Qh.more (Qh.err (V:=V) (m:=m) Dc (.inl ⟨rfl,rfl,rfl,S⟩) b1 ao) Q.lo T (bS Q.gr))
 | true=>
  rw[k]at G;have a4:Xo (∃q s,zcn m c.aC q s):=dD<|⟨q,s,a6,b8,k⟩
  clear k;refine qx [(8,⟨fun aj=>aj= Xh Xc,fun _ _=>True⟩)] zW Kr ?_ ?_ ?_
  ·intro x a
   simp at a
   subst a;exact⟨_,rfl⟩
  ·intro x a
   simp at a
   subst a;exact fun _ _ _ _ h=>h
  iterate 3 refine ze ?_
  refine jG (.tmp 8) ⟨p,0,Xb⟩ rfl rfl rfl rfl ?_;refine Uq ?_;iterate 4 refine ze ?_
  refine zx rfl rfl (fun w' ae aa=>?_) (fun bm k=>?_)
  ·refine zP.call [I6 (q:Int),I6 (y:Int)] rfl func74 rfl rfl rfl ?_;refine(ZW (q:Int) (y:Int) w').mono ?_;rintro e ak ⟨rfl,rfl⟩;exact⟨_,rfl,zc.refl _,l,trivial⟩
  subst k;refine Uq ?_;iterate 2 refine ze ?_
  refine qR rfl rfl rfl (fun K ab=>?_);go_big_quiet_op;refine ab _ ?_;clear ab K
  refine jG (.tmp 17) ⟨p,0,Xb⟩ rfl rfl rfl rfl ?_;refine Uq ?_;iterate 10 refine ze ?_
  clear G;refine zL fun M f _=>?_
  have A2:=dD (A1.aA f);have bt:=dD (ba.aA f);have L:=dD (al.trans f);have az:Xo (b+1<M.heap.size):=show _<_ from Xs ap (bS f)
  clear f H d Y;have ad:=aq.out M L a4.out;have bv:=(ar.aA L).box.c 0 rfl
  go_wp2_with (first | refine zp rfl 25 (.tmp 4) rfl b rfl bt.box underlying25 rfl Kr ?_ | fail)
  rw[bn.out];refine ad.mono ?_;clear ad bv;rintro e Z ⟨a8,n,am,bg,bs,bh,rfl,I,b5,A,bf,be⟩;have a0:Xo (zl Z (b+1) 54 [I6 0,I6 0,eS]):=dD<|A2.aK b5 (fun I=>by have:=B.out;have:=I.2;omega)
  have bp:Xo (K a8 n bg bh):=I;have br:Xo (zk (zr4 w0 w) w Z):=show zk _ _ _ from(zk.aA L).trans b5
  have bo:Xo (zc w0 Z):=A;have aw:=show Xo _ from bf
  have a2:=show Xo _ from be
  clear I b5 A bf be;unfold Ju
  go_wp2_with (refine zm rfl 54 (.tmp 5) (.tmp 33) rfl (b+1) rfl [I6 a8,I6 n,am.x] rfl a0 rfl Kr (by simp[Value.oneCell']) ?_)
  intro t P i _;have a1:Xo (zl t (b+1) 54 [I6 a8,I6 n,am.x]):=P;have a3:Xo (ZQ (zd9 m c.aC K) w0 p w w (Xl (Ju a8 n am)) t):=show ZQ _ _ _ _ _ _ _ from by
   have ai:∀W,zk (Aft w0 w w) t W->zk (Aft w0 w M) Z W:=fun W ac=>(zk.grown (D:=Aft w0 w M) i (.inr ⟨Hm B.out,az⟩)).trans (ac.wide fun ah I=>I.imp id fun h=>⟨h.1,Xs h.2 (bS L)⟩)
   exact⟨a8,n,am,bg,bs,bh,rfl,.inr ⟨a4,bp⟩,br.beyond i (Hm B.out),zd bo i (Hm au.out),fun W ac=>aw.out W (ai W ac),fun a9=>⟨(a2 a9).1.beside i (fun ah e=>by cases e;have:=a5.out;omega),fun W ac=>(a2 a9).2 W (ai W ac)⟩⟩
  clear P i;go_wp2;refine bodyPost_ret (zE rfl _ rfl a1.box underlying54 rfl Kr) rfl a3.out
def Qu:List (Int × Xq)->Int->Option Xq
 | [],_=>Xb
 | p :: l,k=>if k=p.1 then Xa p.2 else Qu l k
def zf4:List (Int × Xq)->Int->Nat->Option (Nat × Xq)
 | [],_,_=>Xb
 | p :: l,k,i=>if k=p.1 then Xa (i,p.2)else zf4 l k (i+1)
theorem zci:∀(l:List (Int × Xq)) (k:Int) (i:Nat),(zf4 l k i).map (·.2)=Qu l k
 | [],_,_=>rfl
 | p :: l,k,i=>by
  unfold zf4 Qu
  by_cases e:k=p.1
  ·rw[kE e,kE e];rfl
  rw[kF e,kF e,zci l k (i+1)]
def zee (w:Xn) (b:Nat) (l:List (Int × Xq)):Prop:=∃es clock,w.heap[b]? =Xa (.map es clock)/\es.toList.map (fun e=>(e.key,e.val))=l.map (fun p:Int × Xq=>(Value.int .i64 p.1,p.2))
theorem zee.lt {w:Xn} {l:List (Int × Xq)} (h:zee w b l):b<w.heap.size:=by
 obtain⟨d,c,a,_⟩:=h;exact(aS.1 a).1
theorem zee.made (w:Xn):zee (w.alloc (.map #[] 0)) w.heap.size []:=⟨#[],0,by
 show(w.heap.push _)[w.heap.size]? =_
 simp,rfl⟩
theorem zee.aA {w:Xn} {l:List (Int × Xq)} (h:zee w b l) (g:zc w w'):zee w' b l:=by
 have a:=h.lt;obtain⟨d,c,e,f⟩:=h;exact⟨d,c,(Below.block g b a).trans e,f⟩
theorem zka {k:Int} {c:IntKind}:∀(l:List (Int × Xq)) (a:List MapEntry) (i:Nat),a.map (fun e=>(e.key,e.val))=l.map (fun p:Int × Xq=>(I6 p.1,p.2))->Instr.findNow (.int c) (I6 k) a i=Xa (zf4 l k i)
 | [],[],i,_=>rfl
 | [],e :: a,i,h=>by simp at h
 | p :: l,[],i,h=>by simp at h
 | p :: l,e :: a,i,h=>by
  simp only[mP,List.cons.injEq,pJ]at h;obtain⟨⟨d,f⟩,g⟩:=h;unfold Instr.findNow zf4;rw[d]
  by_cases b:k=p.1
  ·rw[kE b];have:Instr.sameNow (.int c) (I6 k) (I6 p.1)=Xa Xc:=by simp[Instr.sameNow,b]
   rw[this,f]
  rw[kF b];have:Instr.sameNow (.int c) (I6 k) (I6 p.1)=Xa Xd:=by simp[Instr.sameNow,b]
  rw[this];exact zka l a (i+1) g
theorem zdg {d:IntKind} {b:TypeId} (c:Tryz.prog.underlying b=Xa (.int d)) (k:Int) (w:Xn) (l:List (Int × Xq)) (a:List MapEntry) (h:a.map (fun e=>(e.key,e.val))=l.map (fun p:Int × Xq=>(I6 p.1,p.2))):(Instr.findKey b (I6 k) a).run prog w= .ok (zf4 l k 0) w:=by
 unfold Instr.findKey;simp only[Ym,run_underlying c,rA,zka l a 0 h];rfl
theorem JE {d:IntKind} {a:TypeId} (c:Tryz.prog.underlying a=Xa (.int d)) (b:Bool) (k:Int) (w:Xn):(Instr.checkKey b 10000 a (I6 k)).run prog w= .ok () w:=by
 unfold Instr.checkKey;simp only[Ym,run_underlying c,rA];rfl
theorem zee.look {w:Xn} {l:List (Int × Xq)} (m:zee w b l) {q:IntKind} {i e:TypeId} {z:Xq} (d:Tryz.prog.underlying i=Xa (.int q)) (h:Tryz.prog.underlying t=Xa (.map i e)) (p:(zeroValue e).run prog w= .ok z w) (k:Int):
  (Instr.lookup t (.map (Xa b)) (I6 k) Xc).run prog w= .ok (Xm #[(Qu l k).getD z,Xh (Qu l k).isSome]) w:=by
 obtain⟨j,r,f,n⟩:=m;have a:=zdg d k w l j.toList n;have c:=zci l k 0;unfold Instr.lookup
 cases g:zf4 l k 0 with
 | none=>
  rw[g]at a c;rw[<-c]
  simp[run_underlying h,MapKept.run_getObj_map f,JE d,a,p]
 | some s=>
  rw[g]at a c;rw[<-c]
  simp[run_underlying h,MapKept.run_getObj_map f,JE d,a]
theorem zee.put {w:Xn} {l:List (Int × Xq)} (j:zee w b l) {s:IntKind} {i e:TypeId} (h:Tryz.prog.underlying i=Xa (.int s)) (r:Tryz.prog.underlying t=Xa (.map i e)) (k:Int) (v:Xq) (n:Qu l k=Xb):
  ∃w',(Instr.mapUpdate t (.map (Xa b)) (I6 k) v).run prog w= .ok () w'/\zee w' b (l++ [(k,v)])/\w.grownBy w' (Xa b)/\w'.heap.size=w.heap.size:=by
 obtain⟨d,c,a,f⟩:=j;have g:=zdg h k w l d.toList f;have p:zf4 l k 0=Xb:=by
  have:=zci l k 0;rw[n]at this
  cases q:zf4 l k 0 with
  | none=>rfl
  | some x=>rw[q]at this;cases this
 rw[p]at g;refine⟨ChangeMaps.setBlock w b (.map (d.push ⟨I6 k,v,c⟩) (c+1)),?_,⟨_,_,ChangeMaps.heap_setBlock_same a _,?_⟩,⟨rfl,rfl,rfl,by simp[ChangeMaps.setBlock],fun u _ m=>ChangeMaps.heap_setBlock_other a _ (fun e=>m (by rw[e]))⟩,by simp[ChangeMaps.setBlock]⟩
 ·simp[Instr.mapUpdate,run_underlying r,MapKept.run_getObj_map a,JE h,g,MapKept.run_setObj_map _ a,ChangeMaps.setBlock]
 simp[f]
theorem zF {w:Xn} {rest:List Oper} {a:Act} (j:o.guard=Xb) {z:IntKind} {g e:TypeId} (r:Tryz.prog.underlying g=Xa (.int z)) (q:Tryz.prog.underlying t=Xa (.map g e)) (m x v:Operand) (f:o.op= .insert t m x v) (b:Nat) (l:List (Int × Xq)) (h:zee w b l) (k:Int) (u:Xq)
  (n:a.eval m= .map (Xa b)) (y:a.eval x=I6 k) (s:a.eval v=u) (p:Qu l k=Xb)
  (i:∀w',zee w' b (l++ [(k,u)])->w.grownBy w' (Xa b)->wpList prog ops Q rest (a.put o.dst undef) w'):wpList prog ops Q (o :: rest) a w:=by
 refine wpList_plain j fun C d=>?_
 obtain⟨w',c,A,B,_⟩:=h.put r q k u p;unfold Oper.wp
 simp[execOp,f,n,y,s,c,Result.andThen]
 exact d _ _ (i w' A B)
def zsQ:Int->Option Nat
 | 1=>Xa 35
 | 2=>Xa 36
 | 3=>Xa 37
 | 4=>Xa 38
 | 5=>Xa 39
 | 6=>Xa 40
 | 7=>Xa 41
 | _=>Xb
def zsS:Int->Option Nat
 | 9=>Xa 44
 | 10=>Xa 45
 | 11=>Xa 46
 | 12=>Xa 47
 | _=>Xb
def zsR:Int->Option Nat
 | 8=>Xa 42
 | 13=>Xa 48
 | 14=>Xa 49
 | 15=>Xa 50
 | _=>Xb
def qQ (w:Xn) (k:Int) (v:Xq):Prop:=
 (k=1->∃g,v= .func (.func 73) #[] #[Xj (Xa ⟨g,0,Xb⟩)]/\zl w g 80 [.func (.func 35) #[] #[]])/\
 (k=2->∃g,v= .func (.func 73) #[] #[Xj (Xa ⟨g,0,Xb⟩)]/\zl w g 80 [.func (.func 36) #[] #[]])/\
 (k=3->∃g,v= .func (.func 73) #[] #[Xj (Xa ⟨g,0,Xb⟩)]/\zl w g 80 [.func (.func 37) #[] #[]])/\
 (k=4->∃g,v= .func (.func 73) #[] #[Xj (Xa ⟨g,0,Xb⟩)]/\zl w g 80 [.func (.func 38) #[] #[]])/\
 (k=5->∃g,v= .func (.func 73) #[] #[Xj (Xa ⟨g,0,Xb⟩)]/\zl w g 80 [.func (.func 39) #[] #[]])/\
 (k=6->∃g,v= .func (.func 73) #[] #[Xj (Xa ⟨g,0,Xb⟩)]/\zl w g 80 [.func (.func 40) #[] #[]])/\
 (k=7->∃g,v= .func (.func 73) #[] #[Xj (Xa ⟨g,0,Xb⟩)]/\zl w g 80 [.func (.func 41) #[] #[]])/\
 (k=8->v= .func (.func 42) #[] #[])/\
 (k=9->∃g,v= .func (.func 88) #[] #[Xj (Xa ⟨g,0,Xb⟩)]/\zl w g 80 [.func (.func 44) #[] #[]])/\
 (k=10->∃g,v= .func (.func 88) #[] #[Xj (Xa ⟨g,0,Xb⟩)]/\zl w g 80 [.func (.func 45) #[] #[]])/\
 (k=11->∃g,v= .func (.func 88) #[] #[Xj (Xa ⟨g,0,Xb⟩)]/\zl w g 80 [.func (.func 46) #[] #[]])/\
 (k=12->∃g,v= .func (.func 88) #[] #[Xj (Xa ⟨g,0,Xb⟩)]/\zl w g 80 [.func (.func 47) #[] #[]])/\
 (k=13->v= .func (.func 48) #[] #[])/\
 (k=14->v= .func (.func 49) #[] #[])/\
 (k=15->v= .func (.func 50) #[] #[])
theorem qQ.aA {w:Xn} {k:Int} {v:Xq} (i:qQ w k v) (g:zc w w'):qQ w' k v:=by
 obtain⟨j,l,m,n,p,q,r,s,t,a,b,c,d,f,h⟩:=i;exact⟨fun e=>(j e).imp fun _ x=>⟨x.1,x.2.aA g⟩,fun e=>(l e).imp fun _ x=>⟨x.1,x.2.aA g⟩,fun e=>(m e).imp fun _ x=>⟨x.1,x.2.aA g⟩,fun e=>(n e).imp fun _ x=>⟨x.1,x.2.aA g⟩,fun e=>(p e).imp fun _ x=>⟨x.1,x.2.aA g⟩,fun e=>(q e).imp fun _ x=>⟨x.1,x.2.aA g⟩,fun e=>(r e).imp fun _ x=>⟨x.1,x.2.aA g⟩,s,fun e=>(t e).imp fun _ x=>⟨x.1,x.2.aA g⟩,fun e=>(a e).imp fun _ x=>⟨x.1,x.2.aA g⟩,fun e=>(b e).imp fun _ x=>⟨x.1,x.2.aA g⟩,fun e=>(c e).imp fun _ x=>⟨x.1,x.2.aA g⟩,d,f,h⟩
theorem jh (n:Nat) (w:Xn):Xp prog 34 #[.func (.func n) #[] #[]] w fun e w'=>e= Xl (.func (.func 73) #[] #[Xj (Xa ⟨w.heap.size,0,Xb⟩)])/\w'=w.alloc (Xk #[.func (.func n) #[] #[]] 80):=by
 go_enter func34,ntmps34
 go_wp2;go_ret;exact⟨rfl,rfl⟩
theorem zaf (n:Nat) (w:Xn):Xp prog 43 #[.func (.func n) #[] #[]] w fun e w'=>e= Xl (.func (.func 88) #[] #[Xj (Xa ⟨w.heap.size,0,Xb⟩)])/\w'=w.alloc (Xk #[.func (.func n) #[] #[]] 80):=by
 go_enter func43,ntmps43
 go_wp2;go_ret;exact⟨rfl,rfl⟩
theorem J7 {w:Xn} {cs:List Xq} {l:List (Int × Xq)} (h:zl w g t cs) (k:zee w b l):g≠b:=fun e=>by
 subst e;obtain⟨f,d,c,_⟩:=k;have a:w.heap[g]? =Xa (Xk cs.toArray t (0,0)):=h;rw[c]at a;cases a
theorem qQ.aC {w:Xn} {k:Int} {f:Nat} (a:zsQ k=Xa f) (x:zl w g 80 [.func (.func f) #[] #[]]):qQ w k (.func (.func 73) #[] #[Xj (Xa ⟨g,0,Xb⟩)]):=by
 refine⟨fun e=>?_,fun e=>?_,fun e=>?_,fun e=>?_,fun e=>?_,fun e=>?_,fun e=>?_,fun e=>?_,fun e=>?_,fun e=>?_,fun e=>?_,fun e=>?_,fun e=>?_,fun e=>?_,fun e=>?_⟩ <;>(subst e;cases a) <;> exact⟨g,rfl,x⟩
theorem qQ.file {w:Xn} {k:Int} {f:Nat} (a:zsS k=Xa f) (x:zl w g 80 [.func (.func f) #[] #[]]):qQ w k (.func (.func 88) #[] #[Xj (Xa ⟨g,0,Xb⟩)]):=by
 refine⟨fun e=>?_,fun e=>?_,fun e=>?_,fun e=>?_,fun e=>?_,fun e=>?_,fun e=>?_,fun e=>?_,fun e=>?_,fun e=>?_,fun e=>?_,fun e=>?_,fun e=>?_,fun e=>?_,fun e=>?_⟩ <;>(subst e;cases a) <;> exact⟨g,rfl,x⟩
theorem qQ.own {w:Xn} {k:Int} {f:Nat} (a:zsR k=Xa f):qQ w k (.func (.func f) #[] #[]):=by
 refine⟨fun e=>?_,fun e=>?_,fun e=>?_,fun e=>?_,fun e=>?_,fun e=>?_,fun e=>?_,fun e=>?_,fun e=>?_,fun e=>?_,fun e=>?_,fun e=>?_,fun e=>?_,fun e=>?_,fun e=>?_⟩ <;>(subst e;cases a) <;> rfl
structure Wks (w0 w:Xn) (B:Nat) (n:Int) (l:List (Int × Xq)):Prop where
 gr:zc w0 w
 map:zee w B l
 all:∀k v,Qu l k=Xa v->qQ w k v
 dom:∀k,(Qu l k).isSome=decide (1<=k/\k<=n)
theorem Wks.aA {w:Xn} {n:Int} {l:List (Int × Xq)} (h:Wks w0 w B n l) (g:zc w w'):Wks w0 w' B n l:=⟨h.gr.trans g,h.map.aA g,fun k v a=>(h.all k v a).aA g,h.dom⟩
theorem zhg (l:List (Int × Xq)) (k j:Int) (v:Xq):Qu (l++ [(k,v)]) j=(Qu l j).or (if j=k then Xa v else Xb):=by
 induction l with
 | nil=>rfl
 | cons p l a=>
  simp only[List.cons_append,Qu]
  split
  ·rfl
  exact a
theorem Wks.no {w:Xn} {n:Int} {l:List (Int × Xq)} (h:Wks w0 w B n l):Qu l (n+1)=Xb:=by
 have:=h.dom (n+1);rw[decide_eq_false Wm]at this
 simpa using this
theorem qQ.beside {w:Xn} {k:Int} {v:Xq} {l:List (Int × Xq)} (m:qQ w k v) (b:zee w B l) (g:w.grownBy w' (Xa B)):qQ w' k v:=by
 obtain⟨n,p,q,r,s,t,u,z,A,c,d,f,h,i,j⟩:=m;exact⟨fun e=>(n e).imp fun _ x=>⟨x.1,x.2.beside g fun y a=>by cases a;exact J7 x.2 b⟩,fun e=>(p e).imp fun _ x=>⟨x.1,x.2.beside g fun y a=>by cases a;exact J7 x.2 b⟩,fun e=>(q e).imp fun _ x=>⟨x.1,x.2.beside g fun y a=>by cases a;exact J7 x.2 b⟩,fun e=>(r e).imp fun _ x=>⟨x.1,x.2.beside g fun y a=>by cases a;exact J7 x.2 b⟩,fun e=>(s e).imp fun _ x=>⟨x.1,x.2.beside g fun y a=>by cases a;exact J7 x.2 b⟩,fun e=>(t e).imp fun _ x=>⟨x.1,x.2.beside g fun y a=>by cases a;exact J7 x.2 b⟩,fun e=>(u e).imp fun _ x=>⟨x.1,x.2.beside g fun y a=>by cases a;exact J7 x.2 b⟩,z,fun e=>(A e).imp fun _ x=>⟨x.1,x.2.beside g fun y a=>by cases a;exact J7 x.2 b⟩,fun e=>(c e).imp fun _ x=>⟨x.1,x.2.beside g fun y a=>by cases a;exact J7 x.2 b⟩,fun e=>(d e).imp fun _ x=>⟨x.1,x.2.beside g fun y a=>by cases a;exact J7 x.2 b⟩,fun e=>(f e).imp fun _ x=>⟨x.1,x.2.beside g fun y a=>by cases a;exact J7 x.2 b⟩,h,i,j⟩
theorem Wks.put {w:Xn} {n:Int} {l:List (Int × Xq)} {v:Xq} (h:Wks w0 w B n l) (p:0<=n) (i:w0.heap.size<=B) (k:qQ w (n+1) v) (m:zee w' B (l++ [(n+1,v)])) (g:w.grownBy w' (Xa B)):Wks w0 w' B (n+1) (l++ [(n+1,v)]):=by
 refine⟨zd h.gr g i,m,fun j u a=>?_,fun j=>?_⟩
 ·rw[zhg]at a
  cases e:Qu l j with
  | some d=>
   rw[e]at a;have f:d=u:=Si a
   subst f;exact(h.all j _ e).beside h.map g
  | none=>
   rw[e,Option.none_or]at a
   by_cases b:j=n+1
   ·rw[kE b]at a;cases a;rw[b];exact k.beside h.map g
   rw[kF b]at a;cases a
 have c:=h.dom j;rw[zhg]
 cases e:Qu l j with
 | some d=>
  rw[e]at c;have:=of_decide_eq_true c.symm;exact(decide_eq_true Wm).symm
 | none=>
  rw[e]at c;have:=of_decide_eq_false c.symm;rw[Option.none_or]
  by_cases b:j=n+1
  ·rw[kE b];exact(decide_eq_true Wm).symm
  rw[kF b];exact(decide_eq_false Wm).symm
theorem zmk (w:Xn):Xp prog 22 #[] w fun e w'=>(∃(I:Nat) (l:List (Int × Xq)),e= Xl (.map (Xa I))/\zee w' I l/\(∀k v,Qu l k=Xa v->qQ w' k v)/\∀k,(Qu l k).isSome=decide (1<=k/\k<=15))/\zc w w':=by
 obtain⟨c,y⟩:=kA w.heap.size;obtain⟨D,m⟩:=kB (w.alloc (.map #[] 0));have U:=@run_makeMap prog;have i:Xo (w.heap.size<=c):=dD<|by rw[y.out];exact nR _
 obtain⟨a0,a9⟩:∃l,Xo (Wks w D c 0 l):=⟨[],show Wks _ _ _ _ _ from⟨by rw[<-m];exact za _ _,by rw[<-m,<-y.out];exact zee.made w,(fun _ _ aj=>nomatch aj),fun k=>(decide_eq_false Wm).symm⟩⟩
 go_enter func22,ntmps22
 go_wp2_with fail;rw[y.out];clear U;try rw[m]
 clear m;refine(jh _ _).mono ?_;rintro r w' ⟨rfl,a⟩;rw[a];clear a w';obtain⟨A,b⟩:=kB (D.alloc (Xk #[.func (.func 35) #[] #[]] 80));obtain⟨h,g⟩:=kA D.heap.size;have X:Xo (qQ A 1 (.func (.func 73) #[] #[Xj (Xa ⟨h,0,Xb⟩)])):=dD<|qQ.aC rfl (by rw[<-b];exact zl.aE _ [.func (.func 35) #[] #[]] _ g.symm)
 have K:Xo (Wks w A c 0 a0):=dD<|a9.aA (by rw[<-b];exact za _ _)
 rw[b,g.out];clear b
 go_wp2_with (refine zF rfl underlying3 underlying82 (.tmp 1) (.const (I6 1)) (.tmp 2) rfl c a0 K.map 1 (.func (.func 73) #[] #[Xj (Xa ⟨h,0,Xb⟩)]) rfl rfl rfl K.no ?_)
 intro E f d;obtain⟨a1,aa⟩:∃l,Xo (Wks w E c 1 l):=⟨_,K.put Wm i X f d⟩
 clear f d K;go_wp2_with fail;refine(jh _ _).mono ?_;rintro r w' ⟨rfl,a⟩;rw[a];clear a w';obtain⟨A,b⟩:=kB (E.alloc (Xk #[.func (.func 36) #[] #[]] 80));obtain⟨h,g⟩:=kA E.heap.size;have X:Xo (qQ A 2 (.func (.func 73) #[] #[Xj (Xa ⟨h,0,Xb⟩)])):=dD<|qQ.aC rfl (by rw[<-b];exact zl.aE _ [.func (.func 36) #[] #[]] _ g.symm)
 have K:Xo (Wks w A c 1 a1):=dD<|aa.aA (by rw[<-b];exact za _ _)
 rw[b,g.out];clear b
 go_wp2_with (refine zF rfl underlying3 underlying82 (.tmp 1) (.const (I6 2)) (.tmp 3) rfl c a1 K.map 2 (.func (.func 73) #[] #[Xj (Xa ⟨h,0,Xb⟩)]) rfl rfl rfl K.no ?_)
 intro M f d;obtain⟨a2,ab⟩:∃l,Xo (Wks w M c 2 l):=⟨_,K.put Wm i X f d⟩
 clear f d K;go_wp2_with fail;refine(jh _ _).mono ?_;rintro r w' ⟨rfl,a⟩;rw[a];clear a w';obtain⟨A,b⟩:=kB (M.alloc (Xk #[.func (.func 37) #[] #[]] 80));obtain⟨h,g⟩:=kA M.heap.size;have X:Xo (qQ A 3 (.func (.func 73) #[] #[Xj (Xa ⟨h,0,Xb⟩)])):=dD<|qQ.aC rfl (by rw[<-b];exact zl.aE _ [.func (.func 37) #[] #[]] _ g.symm)
 have K:Xo (Wks w A c 2 a2):=dD<|ab.aA (by rw[<-b];exact za _ _)
 rw[b,g.out];clear b
 go_wp2_with (refine zF rfl underlying3 underlying82 (.tmp 1) (.const (I6 3)) (.tmp 4) rfl c a2 K.map 3 (.func (.func 73) #[] #[Xj (Xa ⟨h,0,Xb⟩)]) rfl rfl rfl K.no ?_)
 intro N f d;obtain⟨a3,ac⟩:∃l,Xo (Wks w N c 3 l):=⟨_,K.put Wm i X f d⟩
 clear f d K;go_wp2_with fail;refine(jh _ _).mono ?_;rintro r w' ⟨rfl,a⟩;rw[a];clear a w';obtain⟨A,b⟩:=kB (N.alloc (Xk #[.func (.func 38) #[] #[]] 80));obtain⟨h,g⟩:=kA N.heap.size;have X:Xo (qQ A 4 (.func (.func 73) #[] #[Xj (Xa ⟨h,0,Xb⟩)])):=dD<|qQ.aC rfl (by rw[<-b];exact zl.aE _ [.func (.func 38) #[] #[]] _ g.symm)
 have K:Xo (Wks w A c 3 a3):=dD<|ac.aA (by rw[<-b];exact za _ _)
 rw[b,g.out];clear b
 go_wp2_with (refine zF rfl underlying3 underlying82 (.tmp 1) (.const (I6 4)) (.tmp 5) rfl c a3 K.map 4 (.func (.func 73) #[] #[Xj (Xa ⟨h,0,Xb⟩)]) rfl rfl rfl K.no ?_)
 intro P f d;obtain⟨a4,ad⟩:∃l,Xo (Wks w P c 4 l):=⟨_,K.put Wm i X f d⟩
 clear f d K;go_wp2_with fail;refine(jh _ _).mono ?_;rintro r w' ⟨rfl,a⟩;rw[a];clear a w';obtain⟨A,b⟩:=kB (P.alloc (Xk #[.func (.func 39) #[] #[]] 80));obtain⟨h,g⟩:=kA P.heap.size;have X:Xo (qQ A 5 (.func (.func 73) #[] #[Xj (Xa ⟨h,0,Xb⟩)])):=dD<|qQ.aC rfl (by rw[<-b];exact zl.aE _ [.func (.func 39) #[] #[]] _ g.symm)
 have K:Xo (Wks w A c 4 a4):=dD<|ad.aA (by rw[<-b];exact za _ _)
 rw[b,g.out];clear b
 go_wp2_with (refine zF rfl underlying3 underlying82 (.tmp 1) (.const (I6 5)) (.tmp 6) rfl c a4 K.map 5 (.func (.func 73) #[] #[Xj (Xa ⟨h,0,Xb⟩)]) rfl rfl rfl K.no ?_)
 intro Q f d;obtain⟨a5,ae⟩:∃l,Xo (Wks w Q c 5 l):=⟨_,K.put Wm i X f d⟩
 clear f d K;go_wp2_with fail;refine(jh _ _).mono ?_;rintro r w' ⟨rfl,a⟩;rw[a];clear a w';obtain⟨A,b⟩:=kB (Q.alloc (Xk #[.func (.func 40) #[] #[]] 80));obtain⟨h,g⟩:=kA Q.heap.size;have X:Xo (qQ A 6 (.func (.func 73) #[] #[Xj (Xa ⟨h,0,Xb⟩)])):=dD<|qQ.aC rfl (by rw[<-b];exact zl.aE _ [.func (.func 40) #[] #[]] _ g.symm)
 have K:Xo (Wks w A c 5 a5):=dD<|ae.aA (by rw[<-b];exact za _ _)
 rw[b,g.out];clear b
 go_wp2_with (refine zF rfl underlying3 underlying82 (.tmp 1) (.const (I6 6)) (.tmp 7) rfl c a5 K.map 6 (.func (.func 73) #[] #[Xj (Xa ⟨h,0,Xb⟩)]) rfl rfl rfl K.no ?_)
 intro R f d;obtain⟨a6,af⟩:∃l,Xo (Wks w R c 6 l):=⟨_,K.put Wm i X f d⟩
 clear f d K;go_wp2_with fail;refine(jh _ _).mono ?_;rintro r w' ⟨rfl,a⟩;rw[a];clear a w';obtain⟨A,b⟩:=kB (R.alloc (Xk #[.func (.func 41) #[] #[]] 80));obtain⟨h,g⟩:=kA R.heap.size;have X:Xo (qQ A 7 (.func (.func 73) #[] #[Xj (Xa ⟨h,0,Xb⟩)])):=dD<|qQ.aC rfl (by rw[<-b];exact zl.aE _ [.func (.func 41) #[] #[]] _ g.symm)
 have K:Xo (Wks w A c 6 a6):=dD<|af.aA (by rw[<-b];exact za _ _)
 rw[b,g.out];clear b
 go_wp2_with (refine zF rfl underlying3 underlying82 (.tmp 1) (.const (I6 7)) (.tmp 8) rfl c a6 K.map 7 (.func (.func 73) #[] #[Xj (Xa ⟨h,0,Xb⟩)]) rfl rfl rfl K.no ?_)
 intro ai f d;obtain⟨ak,C⟩:∃l,Xo (Wks w ai c 7 l):=⟨_,K.put Wm i X f d⟩
 clear f d K
 go_wp2_with (refine zF rfl underlying3 underlying82 (.tmp 1) (.const (I6 8)) (.func 42) rfl c ak C.map 8 (.func (.func 42) #[] #[]) rfl rfl rfl C.no ?_)
 intro S f d;obtain⟨a7,ag⟩:∃l,Xo (Wks w S c 8 l):=⟨_,C.put Wm i (qQ.own rfl) f d⟩
 clear f d;go_wp2_with fail;refine(zaf _ _).mono ?_;rintro r w' ⟨rfl,a⟩;rw[a];clear a w';obtain⟨A,b⟩:=kB (S.alloc (Xk #[.func (.func 44) #[] #[]] 80));obtain⟨h,g⟩:=kA S.heap.size;have X:Xo (qQ A 9 (.func (.func 88) #[] #[Xj (Xa ⟨h,0,Xb⟩)])):=dD<|qQ.file rfl (by rw[<-b];exact zl.aE _ [.func (.func 44) #[] #[]] _ g.symm)
 have K:Xo (Wks w A c 8 a7):=dD<|ag.aA (by rw[<-b];exact za _ _)
 rw[b,g.out];clear b
 go_wp2_with (refine zF rfl underlying3 underlying82 (.tmp 1) (.const (I6 9)) (.tmp 9) rfl c a7 K.map 9 (.func (.func 88) #[] #[Xj (Xa ⟨h,0,Xb⟩)]) rfl rfl rfl K.no ?_)
 intro T f d;obtain⟨a8,ah⟩:∃l,Xo (Wks w T c 9 l):=⟨_,K.put Wm i X f d⟩
 clear f d K;go_wp2_with fail;refine(zaf _ _).mono ?_;rintro r w' ⟨rfl,a⟩;rw[a];clear a w';obtain⟨A,b⟩:=kB (T.alloc (Xk #[.func (.func 45) #[] #[]] 80));obtain⟨h,g⟩:=kA T.heap.size;have X:Xo (qQ A 10 (.func (.func 88) #[] #[Xj (Xa ⟨h,0,Xb⟩)])):=dD<|qQ.file rfl (by rw[<-b];exact zl.aE _ [.func (.func 45) #[] #[]] _ g.symm)
 have K:Xo (Wks w A c 9 a8):=dD<|ah.aA (by rw[<-b];exact za _ _)
 rw[b,g.out];clear b
 go_wp2_with (refine zF rfl underlying3 underlying82 (.tmp 1) (.const (I6 10)) (.tmp 10) rfl c a8 K.map 10 (.func (.func 88) #[] #[Xj (Xa ⟨h,0,Xb⟩)]) rfl rfl rfl K.no ?_)
 intro s f d;obtain⟨u,z⟩:∃l,Xo (Wks w s c 10 l):=⟨_,K.put Wm i X f d⟩
 clear f d K;go_wp2_with fail;refine(zaf _ _).mono ?_;rintro r w' ⟨rfl,a⟩;rw[a];clear a w';obtain⟨A,b⟩:=kB (s.alloc (Xk #[.func (.func 46) #[] #[]] 80));obtain⟨h,g⟩:=kA s.heap.size;have X:Xo (qQ A 11 (.func (.func 88) #[] #[Xj (Xa ⟨h,0,Xb⟩)])):=dD<|qQ.file rfl (by rw[<-b];exact zl.aE _ [.func (.func 46) #[] #[]] _ g.symm)
 have K:Xo (Wks w A c 10 u):=dD<|z.aA (by rw[<-b];exact za _ _)
 rw[b,g.out];clear b
 go_wp2_with (refine zF rfl underlying3 underlying82 (.tmp 1) (.const (I6 11)) (.tmp 11) rfl c u K.map 11 (.func (.func 88) #[] #[Xj (Xa ⟨h,0,Xb⟩)]) rfl rfl rfl K.no ?_)
 intro t f d;obtain⟨x,B⟩:∃l,Xo (Wks w t c 11 l):=⟨_,K.put Wm i X f d⟩
 clear f d K;go_wp2_with fail;refine(zaf _ _).mono ?_;rintro r w' ⟨rfl,a⟩;rw[a];clear a w';obtain⟨A,b⟩:=kB (t.alloc (Xk #[.func (.func 47) #[] #[]] 80));obtain⟨h,g⟩:=kA t.heap.size;have X:Xo (qQ A 12 (.func (.func 88) #[] #[Xj (Xa ⟨h,0,Xb⟩)])):=dD<|qQ.file rfl (by rw[<-b];exact zl.aE _ [.func (.func 47) #[] #[]] _ g.symm)
 have K:Xo (Wks w A c 11 x):=dD<|B.aA (by rw[<-b];exact za _ _)
 rw[b,g.out];clear b
 go_wp2_with (refine zF rfl underlying3 underlying82 (.tmp 1) (.const (I6 12)) (.tmp 12) rfl c x K.map 12 (.func (.func 88) #[] #[Xj (Xa ⟨h,0,Xb⟩)]) rfl rfl rfl K.no ?_)
 intro F f d;obtain⟨V,n⟩:∃l,Xo (Wks w F c 12 l):=⟨_,K.put Wm i X f d⟩
 clear f d K
 go_wp2_with (refine zF rfl underlying3 underlying82 (.tmp 1) (.const (I6 13)) (.func 48) rfl c V n.map 13 (.func (.func 48) #[] #[]) rfl rfl rfl n.no ?_)
 intro G f d;obtain⟨W,p⟩:∃l,Xo (Wks w G c 13 l):=⟨_,n.put Wm i (qQ.own rfl) f d⟩
 clear f d
 go_wp2_with (refine zF rfl underlying3 underlying82 (.tmp 1) (.const (I6 14)) (.func 49) rfl c W p.map 14 (.func (.func 49) #[] #[]) rfl rfl rfl p.no ?_)
 intro H f d;obtain⟨Y,q⟩:∃l,Xo (Wks w H c 14 l):=⟨_,p.put Wm i (qQ.own rfl) f d⟩
 clear f d
 go_wp2_with (refine zF rfl underlying3 underlying82 (.tmp 1) (.const (I6 15)) (.func 50) rfl c Y q.map 15 (.func (.func 50) #[] #[]) rfl rfl rfl q.no ?_)
 intro L f d;obtain⟨Z,j⟩:∃l,Xo (Wks w L c 15 l):=⟨_,q.put Wm i (qQ.own rfl) f d⟩
 clear f d;go_wp2;go_ret;exact⟨⟨c,Z,rfl,j.map,j.all,j.dom⟩,j.gr⟩
theorem zeJ {s:Func} {p q:Tmp} {g c:TypeId} (t:s.results=#[.cell p g,.cell q c]) (a:Array Xq) {w:Xn} {f:Nat} (hp:a.getD p undef= Xj (Xa ⟨b,0,Xb⟩)) (x:a.getD q undef= Xj (Xa ⟨f,0,Xb⟩)) (u:Box w b vs) (i:Box w f us) {d h:TypeDesc} (y:Tryz.prog.underlying g=Xa d) (v:d.isRow=Xc) (hi:(Tryz.prog.info? g).map (·.size)=Xa vs.length) (r:Tryz.prog.underlying c=Xa h) (j:h.isRow=Xc) (k:(Tryz.prog.info? c).map (·.size)=Xa us.length):
  (results s a).run prog w= .ok (Xm #[Xi vs.toArray,Xi us.toArray]) w:=by
 have m:a[p]?.getD undef= Xj (Xa ⟨b,0,Xb⟩):=Si hp
 have n:a[q]?.getD undef= Xj (Xa ⟨f,0,Xb⟩):=Si x
 have l:=run_loadVar_mid (P:=prog) w b 0 g vs d u.range y v hi;have e:=run_loadVar_mid (P:=prog) w f 0 c us h i.range r j k
 simp[results,t,m,n,asAddr,l,e]
theorem zmK {l:List (Int × Xq)} {x:Xq} {k:Int} (o:Oper) (a:Act) (y z:Operand) (w:Xn) (f:o.op= .lookup 82 y z Xc) (i:a.eval y= .map (Xa B)) (j:a.eval z=I6 k) (d:zee w B l) (g:Qu l k=Xa x):(execOp a.eval o).run prog w= .ok (.value (Xm #[x,Xh Xc])) w:=by
 obtain⟨c,b⟩:∃c,(zeroValue 80).run prog w= .ok c w:=⟨.nilFunc,by go_simp⟩
 have h:=d.look (t:=82) (e:=80) underlying3 underlying82 b k;rw[g]at h;simp only[execOp,f,i,j,Ym,h,rA,Sem.run_pure];rfl
theorem zed.cF {w:Xn} (h:zed B w V m) (j:B0<=B) (o:zk (fun k=>k<B0) w W):zw W V m:=by
 obtain⟨r,c⟩:=h.bZ (p:=w.heap.size) j (nR _) (o.wide fun k q=> .inl (.inl q))
 obtain⟨d,i,y,z,A,C,D⟩:=h.sp;have a:∀{f:Type} {E:Elt f} {v:Xq} {l:List f},zb E B w v l->zj E W v l:=fun b=>zb.at (base:=B) ⟨jm b.1 o (fun g n e=>by have:=(b.lt g n).1;have e:g<B0:=e;omega),b.2⟩
 exact⟨a h.fs,r.sl,r.sb,r.sq,r.db,r.dq,r.fl,a h.ca,⟨d,a y,z,fun u F x t s=>c d i A C D u F x t s⟩⟩
def Did (m:Ma) (K:Int->Int->List Int->Ma->Prop) (w:Xn) (e:Ending) (w':Xn):Prop:=
 ∃(er n:Int) (s:Sli) (l:List Int) (m' m2:Ma) (V':MaV),e= Xl (Xm #[Xi #[O V'.f.a V'.f.n V'.f.c,Xe Xf m2.aB,O V'.s.a V'.s.n V'.s.c,O V'.sb.a V'.sb.n V'.sb.c,O V'.sq.a V'.sq.n V'.sq.c,O V'.db.a V'.db.n V'.db.c,O V'.dq.a V'.dq.n V'.dq.c,O V'.fl.a V'.fl.n V'.fl.c,Xe Xf m2.cnt,O V'.ca.a V'.ca.n V'.ca.c,O V'.sp.a V'.sp.n V'.sp.c],Ju er n s])/\K er n l m'/\((er=0/\m2=m')\/(er≠0/\m2=m))/\∀W,zk (fun k=>k<w.heap.size) w' W->zw W V' m2/\zj byE W (O s.a s.n s.c) l
def J8 (w:Xn) (m:Ma) (c:Cl) (K:Int->Int->List Int->Ma->Prop):Prop:=
 ∀(w0 W:Xn) (p:Nat) (V1:MaV) (v:Xq),zc w w0->ChW w0 noX p W V1 m->qQ W c.kind v->∃(F:Nat) (caps:Array Xq),v= .func (.func F) #[] caps/\Enters prog F/\Xp prog F (#[Xj (Xa ⟨p,0,Xb⟩),Xi #[Xe Xf c.kind,Xe Xf c.aC,Xe Xf c.pt,Xe Xf c.n,Xe Xf c.file,Xe Xf c.base,Xh c.rd,Xh c.wr,Xh c.sh,O c.dv.a c.dv.n c.dv.c]]++caps) W fun e w'=>ZQ K w0 p W W e w'
theorem zsu (V:MaV) (m:Ma) (w:Xn) (bu:zw w V m) (bs:maW m=0) (c:Cl) (K:Int->Int->List Int->Ma->Prop) (g:1<=c.kind/\c.kind<=15) (Y:J8 w m c K):
  Xp prog 14 #[Xi (mL V m).toArray,Xi #[I6 c.kind,I6 c.aC,I6 c.pt,I6 c.n,I6 c.file,I6 c.base,Xh c.rd,Xh c.wr,Xh c.sh,c.dv.x]] w fun e w'=>Did m K w e w'/\zc w w':=by
 have cj:Xo (zw w V m):=bu;have dj:Xo (maW m=0):=bs;have bd:Xo (1<=c.kind/\c.kind<=15):=g;have bc:Xo (J8 w m c K):=Y;obtain⟨b,H⟩:=kA w.heap.size;obtain⟨a4,p⟩:=kB ((((w.alloc (Xk (mL V m).toArray 45)).alloc (Xk #[I6 c.kind,I6 c.aC,I6 c.pt,I6 c.n,I6 c.file,I6 c.base,Xh c.rd,Xh c.wr,Xh c.sh,c.dv.x] 25)).alloc (Xk zM.toArray 45)).alloc (Xk #[I6 0,I6 0,eS] 54));have cg:Xo (zc w a4):=show zc _ _ by rw[<-p];exact(((za _ _).trans (za _ _)).trans (za _ _)).trans (za _ _)
 have cn:Xo (zl a4 b 45 (chL V m)):=dD<|by rw[<-p];exact(zl.aE w (chL V m) _ H.symm).aA (((za _ _).trans (za _ _)).trans (za _ _))
 have d4:Xo (zl a4 (b+1) 25 [I6 c.kind,I6 c.aC,I6 c.pt,I6 c.n,I6 c.file,I6 c.base,Xh c.rd,Xh c.wr,Xh c.sh,c.dv.x]):=dD<|by rw[<-p];exact(zl.aE _ [I6 c.kind,I6 c.aC,I6 c.pt,I6 c.n,I6 c.file,I6 c.base,Xh c.rd,Xh c.wr,Xh c.sh,c.dv.x] _ (by have:=H.out;simp;omega)).aA ((za _ _).trans (za _ _))
 have d7:Xo (zl a4 (b+2) 45 qj):=dD<|by rw[<-p];exact(zl.aE _ qj _ (by have:=H.out;simp;omega)).aA (za _ _)
 have A1:Xo (zl a4 (b+3) 54 [I6 0,I6 0,eS]):=dD<|by rw[<-p];exact zl.aE _ [I6 0,I6 0,eS] _ (by have:=H.out;simp;omega)
 have bh:Xo (_=a4):=p;have b0:=QA V m a4 (bu.aA cg) bs;have a3:Xo ((Tryz.prog.info? 45).map (·.size)=Xa (chL V m).length):=show _=_ by kernel_rfl
 clear p bu bs g Y
 go_enter func14,ntmps14
 go_upto_region 1 with fail;rw[bh.out,H.out]
 go_wp2_with (first | refine zp rfl 45 (.tmp 2) rfl b rfl cn.box underlying45 rfl a3.out ?_ | (go_at_call 20;refine b0.mono ?_))
 clear b0;rintro e cm ⟨rfl,ai⟩;have d0:=dD (cg.trans ai);have d2:=dD (cn.aA ai);have cp:=dD (d4.aA ai);have d8:=dD (d7.aA ai);have A2:=dD (A1.aA ai);clear ai;go_upto_region 4 with fail;have c0:=fun cb:zf cm=>(cp.box.aA cb.aA).c 0 rfl
 have bv:Nonempty (zf cm):=⟨⟨_,zc.refl _⟩⟩;refine qx [(0,⟨fun d=>∃F,d= .map (Xa F),fun d w=>∃(F:Nat) (s:List (Int × Xq)),d= .map (Xa F)/\zee w F s/\(∀k d,Qu s k=Xa d->qQ w k d)/\∀k,(Qu s k).isSome=decide (1<=k/\k<=15)⟩),(3,⟨fun d=>∃x,d= Xm #[x,Xh Xc],fun d w=>∃x,d= Xm #[x,Xh Xc]/\qQ w c.kind x⟩)] zW Kr ?_ ?_ ?_
 ·intro x I;simp only[mC,nM,or_false]at I
  rcases I with rfl|rfl
  ·exact⟨_,0,rfl⟩
  exact⟨_,I6 0,rfl⟩
 ·intro x I;simp only[mC,nM,or_false]at I
  rcases I with rfl|rfl
  ·rintro d de df al ⟨F,s,z,R,ar,b5⟩;exact⟨F,s,z,R.aA al,fun k d az=>(ar k d az).aA al,b5⟩
  rintro d de df al ⟨x,z,R⟩;exact⟨x,z,R.aA al⟩
 refine zx rfl rfl (fun w' al Y=>?_) (fun dg az=>?_)
 ·refine zP.call [] rfl func22 rfl rfl rfl ?_;refine(zmk w').mono ?_;rintro e c7 ⟨⟨F,s,rfl,z,R,ar⟩,bt⟩;exact⟨_,rfl,bt,⟨F,rfl⟩,F,s,rfl,z,R,ar⟩
 obtain⟨F,rfl⟩:=az;refine Uq ?_;iterate 2 refine ze ?_
 refine zx rfl rfl (fun w' al Y=>?_) (fun dg az=>?_)
 ·obtain⟨dh,s,da,z,R,ar⟩:=Y 0 Kr
  cases da;obtain⟨x,I⟩:∃x,Qu s c.kind=Xa x:=by
   have b5:=ar c.kind;rw[decide_eq_true bd.out]at b5;exact Option.isSome_iff_exists.1 b5
  refine zP.step (v:= Xm #[x,Xh Xc]) (w':=w') (zmK _ _ _ _ w' rfl rfl rfl z I) ⟨zc.refl _,⟨x,rfl⟩,x,rfl,R _ _ I⟩
 obtain⟨x,rfl⟩:=az;refine Uq ?_;iterate 5 refine ze ?_
 refine zL fun y aj Y=>?_
 obtain⟨b7,b2,b1⟩:=Y 3;have bz:b7=x:=by
  have z:(Value.tuple #[x,Xh Xc])= Xm #[b7,Xh Xc]:=b2;simp only[Value.tuple.injEq,Array.mk.injEq,List.cons.injEq,and_true]at z;exact z.symm
 subst bz;have bi:Xo (qQ y c.kind b7):=b1;have a1:=dD (d0.trans aj);have co:=dD (d2.aA aj);have d5:=dD (cp.aA aj);have d9:=dD (d8.aA aj);have ce:=dD (A2.aA aj);clear aj Y b2 b1 c0 bv;have ax:=zg5 V m y (cj.aA a1)
 go_wp2_with (first | refine zp rfl 45 (.tmp 2) rfl b rfl co.box underlying45 rfl a3.out ?_ | (go_at_call 24;refine ax.mono ?_))
 clear ax;rintro e G ⟨U,di,cl,rfl,Z,au,ay,cr,b4⟩;have ck:Xo (ChW y noX U G cl m):=dD<|ChW.of Z au b4 ay cr
 have d6:=dD (d5.aA b4);have B:Xo (b+3<y.heap.size):=ce.box.lt;obtain⟨cf,cs,bw,ct,E⟩:=bc.out y G U cl b7 a1 ck (bi.aA b4);subst bw;have cz:Xo (∀(X:Array Xq) (w:Xn),(callFunc cf X).run prog w= .ok (.enter cf X) w):=ct;have aw:=E;clear Z au ay cr b4 ct E
 go_wp2_with (first | refine zp rfl 25 (.tmp 3) rfl (b+1) rfl d6.box underlying25 rfl Kr ?_ | fail)
 rw[cz.out];refine aw.mono ?_;clear aw;rintro e L ⟨q,n,i,s,t,h,rfl,g,dd,cu,cw,cv⟩;have ap:Xo (∀W,zk (Aft y G G) L W->zj byE W (i.x) s):=cw;have bb:Xo (q=0->zl L U 88 (chL t h)/\∀W,zk (Aft y G G) L W->zw W t h):=cv;have ci:Xo (K q n s h):=g;have an:Xo (zc y L):=cu;have bj:Xo (∀d∈chL t h,d.oneCell'=Xc):=show∀d∈chL t h,_ by simp[chL,Value.oneCell']
 clear cw cv g dd cu;unfold Ju;go_upto_region 9 with fail;obtain⟨c5,bf⟩:=kA L.heap.size;obtain⟨f,T⟩:=kB (L.alloc (Xk #[I6 q,I6 n,i.x] 54));have br:=gP T
 have bk:=xPT T bf
 have a2:Xo (zc L f):=br;have A:=dD (an.trans br);have be:Xo (y.heap.size<=U):=ck.lo;have ao:Xo (y.heap.size<=c5):=show _<=_ by rw[<-bf.out];exact bS an.out
 rw[T,bf.out];clear T br;have d3:=dD (co.aA A);have cq:=dD (d9.aA A);have b8:=dD (ce.aA A);have am:Xo (b+3<f.heap.size):=b8.box.lt;have cy:=bk.box.c 0 rfl
 by_cases ak:q=0
 ·have ch:Xo (q=0):=ak;obtain⟨cx,dc⟩:=bb.out ak;have d1:Xo (zl f U 88 (chL t h)):=cx.aA a2.out;have bg:Xo ((Tryz.prog.info? 45).map (·.size)=Xa (chL t h).length):=show _=_ by kernel_rfl
  subst ak;clear cx;go_upto_region 11 with fail;clear cy;refine wp_region_held (S:=fun W=>zk (fun k=>k=b+2\/k=b+3) f W/\zc w W) zW ?_
  show wpAnyH _ _ _ _ _ 7 (Yi 7 Xd) _ f.drew
  have Q:zc f f.drew:=(gW _)
  have a:zk (fun k=>k=b+2\/k=b+3) f f.drew/\zc w f.drew:=⟨zk.aA Q,(a1.trans A).trans Q⟩
  have cc:=cq.aA Q;have bl:=b8.aA Q;refine zD 0 (Xa 42) (Xj (Xa ⟨U,0,Xb⟩)) a ?_
  refine Uq ?_;refine zD 1 (Xa 43) (Xj (Xa ⟨U,0,Xb⟩)) a ?_
  refine Uq ?_;refine zD 2 (Xa 44) (Xj (Xa ⟨U,0,Xb⟩)) a ?_
  refine Uq ?_;refine Qe 3 (Xa 45) (Xi (chL t h).toArray) rfl rfl Kr Kr Kr (fun _ _ _ ac=>ac) (yieldsIf_load_mid rfl 45 (.tmp 44) rfl U 0 rfl (chL t h) _ (fun W u=>(d1.aK u.1 (by have:=be.out;have:=B.out;omega)).box.range) underlying45 rfl bg) a ?_
  refine Uq ?_;refine Qe 4 (Xa 46) (Xi #[I6 0,I6 n,i.x]) rfl rfl Kr Kr Kr (fun _ _ _ ac=>ac) (yieldsIf_load_mid rfl 54 (.tmp 10) rfl c5 0 rfl ([I6 0,I6 n,i.x]) _ (fun W u=>(bk.aK u.1 (by have:=ao.out;have:=B.out;omega)).box.range) underlying54 rfl Kr) a ?_
  refine Uq ?_;refine wpAnyH_all (rs:=[5]) Kr Sm ?_
  intro b6 r;simp only[mC,nM,or_false]at r;subst r;refine zH Xb (fun d w'=>zl w' (b+2) 45 (chL t h)/\(f.drew).grownBy w' (Xa (b+2))) rfl rfl rfl (zP.aL 45 (.tmp 4) (.tmp 45) rfl (b+2) rfl (chL t h) rfl cc rfl Kr bj (fun w' a8 a9 c6=>⟨a8,a9⟩)) ?_
  rintro d a5 ⟨bn,aa⟩;have ad:zk (fun k=>k=b+2\/k=b+3) f a5/\zc w a5:=⟨a.1.trans (zk.grown aa (.inl rfl)),zd a.2 aa (Hm H.out)⟩
  have c1:=bl.beside aa (fun k e=>by cases e;omega)
  refine⟨ad,?_⟩;simp only[Yg];refine wpAnyH_all (rs:=[6]) Kr Sm ?_
  intro b6 r;simp only[mC,nM,or_false]at r;subst r;refine zH Xb (fun d w'=>zl w' (b+3) 54 ([I6 0,I6 n,i.x])/\(a5).grownBy w' (Xa (b+3))) rfl rfl rfl (zP.aL 54 (.tmp 5) (.tmp 46) rfl (b+3) rfl ([I6 0,I6 n,i.x]) rfl c1 rfl Kr (by simp[Value.oneCell']) (fun w' a8 a9 c6=>⟨a8,a9⟩)) ?_
  rintro d j ⟨bo,ab⟩;have ae:zk (fun k=>k=b+2\/k=b+3) f j/\zc w j:=⟨ad.1.trans (zk.grown ab (.inr rfl)),zd ad.2 ab (Hm H.out)⟩
  have c2:=bn.beside ab (fun k e=>by cases e;omega)
  refine⟨ae,?_⟩;simp only[Yg];refine wpAnyH_done Kr ?_ _
  have ba:Xo (zl j (b+2) 45 (chL t h)):=c2;have b9:Xo (zl j (b+3) 54 [I6 0,I6 n,i.x]):=bo;have b3:zk (Aft y G G) L j:=(zk.aA a2).trans (ae.1.wide fun k g=> .inl (by have:=B.out;rcases g with g | g <;> omega))
  have C:Xo (Did m K w (Xl (Xm #[Xi (mL t h).toArray,Ju 0 n i])) j/\zc w j):=dD<|⟨⟨0,n,i,s,h,h,t,rfl,ci,.inl ⟨rfl,rfl⟩,fun W u=>⟨dc W (b3.trans (u.wide fun k g=> .inl (Xs g (bS a1)))),ap W (b3.trans (u.wide fun k g=> .inl (Xs g (bS a1))))⟩⟩,ae.2⟩
  go_wp2;refine bodyPost_ret (zeJ rfl _ rfl rfl ba.box b9.box underlying45 rfl Kr underlying54 rfl Kr) rfl C.out
 have ch:Xo (q≠0):=ak;have db:(q != 0)=Xc:=by simp[ak]
 clear ak;go_upto_region 10 with fail;clear cy db;refine wp_region_held (S:=fun W=>zk (fun k=>k=b+2\/k=b+3) f W/\zc w W) zW ?_
 show wpAnyH _ _ _ _ _ 5 (Yi 5 Xd) _ f.drew
 have Q:zc f f.drew:=(gW _)
 have a:zk (fun k=>k=b+2\/k=b+3) f f.drew/\zc w f.drew:=⟨zk.aA Q,(a1.trans A).trans Q⟩
 have cc:=cq.aA Q;have bl:=b8.aA Q;refine Qe 0 (Xa 39) (Xi (chL V m).toArray) rfl rfl Kr Kr Kr (fun _ _ _ ac=>ac) (yieldsIf_load_mid rfl 45 (.tmp 2) rfl b 0 rfl (chL V m) _ (fun W u=>(d3.aK u.1 Wm).box.range) underlying45 rfl a3) a ?_
 refine Uq ?_;refine Qe 2 (Xa 41) (Xi #[I6 q,I6 n,i.x]) rfl rfl Kr Kr Kr (fun _ _ _ ac=>ac) (yieldsIf_load_mid rfl 54 (.tmp 10) rfl c5 0 rfl ([I6 q,I6 n,i.x]) _ (fun W u=>(bk.aK u.1 (by have:=ao.out;have:=B.out;omega)).box.range) underlying54 rfl Kr) a ?_
 refine Uq ?_;refine wpAnyH_all (rs:=[1]) Kr Sm ?_
 intro b6 r;simp only[mC,nM,or_false]at r;subst r;refine zH (Xa 40) (fun d w'=>∃D:MaV,d= Xi (mL D m).toArray/\zed (f.drew).heap.size w' D m/\zc (f.drew) w') rfl rfl rfl (zP.call [Xi (mL V m).toArray] rfl func23 rfl rfl rfl ((zfD V m (f.drew) (cj.aA a.2)).mono ?_)) ?_
 ·rintro e c7 ⟨D,rfl,z,R⟩;exact⟨_,rfl,D,rfl,z,R⟩
 rintro d a6 ⟨D,rfl,c8,M⟩;have av:b+3< (f.drew).heap.size:=Xs am a.1.size;have af:zk (fun k=>k=b+2\/k=b+3) f a6/\zc w a6:=⟨a.1.trans (zk.aA M),a.2.trans M⟩
 have cd:=cc.aA M;have bm:=bl.aA M;have aq:∀d∈chL D m,d.oneCell'=Xc:=by simp[chL,Value.oneCell']
 refine⟨af,?_⟩;refine Uq ?_;refine wpAnyH_all (rs:=[3]) Kr Sm ?_
 intro b6 r;simp only[mC,nM,or_false]at r;subst r;refine zH Xb (fun d w'=>zl w' (b+2) 45 (chL D m)/\(a6).grownBy w' (Xa (b+2))) rfl rfl rfl (zP.aL 45 (.tmp 4) (.tmp 40) rfl (b+2) rfl (chL D m) rfl cd rfl Kr aq (fun w' a8 a9 c6=>⟨a8,a9⟩)) ?_
 rintro d a7 ⟨bp,N⟩;have ag:zk (fun k=>k=b+2\/k=b+3) f a7/\zc w a7:=⟨af.1.trans (zk.grown N (.inl rfl)),zd af.2 N (Hm H.out)⟩
 have c3:=bm.beside N (fun k e=>by cases e;omega)
 have c9:=c8.below N (Hm av) (nR _)
 refine⟨ag,?_⟩;simp only[Yg];refine wpAnyH_all (rs:=[4]) Kr Sm ?_
 intro b6 r;simp only[mC,nM,or_false]at r;subst r;refine zH Xb (fun d w'=>zl w' (b+3) 54 ([I6 q,I6 n,i.x])/\(a7).grownBy w' (Xa (b+3))) rfl rfl rfl (zP.aL 54 (.tmp 5) (.tmp 41) rfl (b+3) rfl ([I6 q,I6 n,i.x]) rfl c3 rfl Kr (by simp[Value.oneCell']) (fun w' a8 a9 c6=>⟨a8,a9⟩)) ?_
 rintro d l ⟨bq,P⟩;have ah:zk (fun k=>k=b+2\/k=b+3) f l/\zc w l:=⟨ag.1.trans (zk.grown P (.inr rfl)),zd ag.2 P (Hm H.out)⟩
 have c4:=bp.beside P (fun k e=>by cases e;omega)
 have ca:=c9.below P (Hm av) (nR _)
 refine⟨ah,?_⟩;simp only[Yg];refine wpAnyH_done Kr ?_ _
 have ba:Xo (zl l (b+2) 45 (chL D m)):=c4;have b9:Xo (zl l (b+3) 54 [I6 q,I6 n,i.x]):=bq;have b3:zk (Aft y G G) L l:=(zk.aA a2).trans (ah.1.wide fun k g=> .inl (by have:=B.out;rcases g with g | g <;> omega))
 have C:Xo (Did m K w (Xl (Xm #[Xi (mL D m).toArray,Ju q n i])) l/\zc w l):=dD<|⟨⟨q,n,i,s,h,m,D,rfl,ci,.inr ⟨ch,rfl⟩,fun W u=>⟨(ca).cF (nR _) (u.wide fun k g=>Xs g (bS a.2)),ap W (b3.trans (u.wide fun k g=> .inl (Xs g (bS a1))))⟩⟩,ah.2⟩
 go_wp2;refine bodyPost_ret (zeJ rfl _ rfl rfl ba.box b9.box underlying45 rfl Kr underlying54 rfl Kr) rfl C.out
theorem zf5:Enters prog 73:=enters_of func73 Kr rfl
theorem zkF (w:Xn) (m:Ma) (c:Cl) (BF:Nat->Nat->Ar->Pg->Bool->Bool × Nat × Ma) (v:c.kind=4) (f:-9223372036854775808<=c.pt) (g:c.pt<=9223372036854775807) (i:-9223372036854775808<=c.n) (j:c.n<=9223372036854775807)
  (t:∀(a:MaV) (W:Xn),zw W a m->Xp prog 140 #[Xi (mL a m).toArray,I6 c.aC,I6 (c.pt / 8),Xh Xd] W fun e w'=>((∃l:Int,e= Xl (Xm #[Xi qj.toArray,I6 0,I6 l])/\jO m BF c.aC (c.pt / 8) Xd l)\/(∃(V':MaV) (k z:Nat) (m':Ma),e= Xl (Xm #[Xi (mL V' m').toArray,I6 (k:Int),I6 0])/\zec m BF c.aC (c.pt / 8) Xd k m'/\ChW W noX z w' V' m'))/\zc W w')
  (s:∀(q:Nat) (m':Ma),zec m BF c.aC (c.pt / 8) Xd q m'->∃fr:Fr,m'.fs[q]? =Xa fr/\(fr.f=-1\/∃(p:Nat) (fl:Fl),fr.f=(p:Int)/\m'.fl[p]? =Xa fl)/\0<=fr.x/\fr.x<1000):J8 w m c (zd9 m c.aC (zoD m BF c)):=by
 intro D W y a C B h x;obtain⟨n,rfl,u⟩:=x.2.2.2.1 v;exact⟨73,#[Xj (Xa ⟨n,0,Xb⟩)],rfl,zf5,zb3 h c n 38 _ (enters_of func38 Kr rfl) u fun A b _=>(znn (h.aA b) c BF f g i j (fun r d=>t a r ((h.aA b).at.aA d)) s).mono fun e w' k=>k.more h.lo (h.aM y (.inl rfl)) (bS (h.gr.trans b))⟩
theorem zic (w:Xn) (m:Ma) (c:Cl) (ns:List Int) (BF:Nat->Nat->Ar->Pg->Bool->Bool × Nat × Ma) (x:c.kind=5) (f:-9223372036854775808<=c.pt) (g:c.pt<=9223372036854775807) (r:zj byE w (c.dv.x) ns) (i:(c.dv.n:Int)<=9223372036854775807)
  (t:∀(a:MaV) (W:Xn),zw W a m->Xp prog 140 #[Xi (mL a m).toArray,I6 c.aC,I6 (c.pt / 8),Xh Xc] W fun e w'=>((∃j:Int,e= Xl (Xm #[Xi qj.toArray,I6 0,I6 j])/\jO m BF c.aC (c.pt / 8) Xc j)\/(∃(V':MaV) (k A:Nat) (m':Ma),e= Xl (Xm #[Xi (mL V' m').toArray,I6 (k:Int),I6 0])/\zec m BF c.aC (c.pt / 8) Xc k m'/\ChW W noX A w' V' m'))/\zc W w')
  (s:∀(p:Nat) (m':Ma),zec m BF c.aC (c.pt / 8) Xc p m'->∃fr:Fr,m'.fs[p]? =Xa fr/\(fr.f=-1\/∃(n:Nat) (fl:Fl),fr.f=(n:Int)/\m'.fl[n]? =Xa fl)/\0<=fr.x/\fr.x<1000):J8 w m c (zd9 m c.aC (zh4 m BF c ns)):=by
 intro D W z a C v h y;obtain⟨l,rfl,u⟩:=y.2.2.2.2.1 x;exact⟨73,#[Xj (Xa ⟨l,0,Xb⟩)],rfl,zf5,zb3 h c l 39 _ (enters_of func39 Kr rfl) u fun B b _=>(zle (h.aA b) c ns BF f g (r.aA v) i (fun q d=>t a q ((h.aA b).at.aA d)) s).mono fun e w' k=>k.more h.lo (h.aM z (.inl rfl)) (bS (h.gr.trans b))⟩
theorem z4.append {base:Nat} {w:Xn} {v s:Xq} {fs:List Fl} {xs:List FlV} (t:zb fvE base w v xs) (q:xs.length=fs.length) (u:∀(i:Nat) x f,xs[i]? =Xa x->fs[i]? =Xa f->x.size=f.size/\zb blE base w x.v f.bl)
  (z:∀(i j:Nat) x y,i≠j->xs[i]? =Xa x->xs[j]? =Xa y->∀g,x.v.ownBlock=Xa g->y.v.ownBlock≠Xa g) (C:zb fvE base' w' s (xs++ [⟨0,Xb,0,0⟩])) (B:w.grownBy w' v.ownBlock) (A:base'<=base):z4 base' w' s (fs++ [⟨0,[]⟩]):=by
 refine⟨xs++ [⟨0,Xb,0,0⟩],C,by simp[q],fun i x f a e=>?_,fun i j x y m a d g h=>?_⟩
 ·rcases Yr i xs.length with b|b
  ·rw[Xt b]at a;rw[Xt Wm]at e
   obtain⟨D,r⟩:=u i x f a e;exact⟨D,(r.grown B (fun g l k=>t.apart r (Ne.symm QC) g k l)).base A⟩
  rw[aR b]at a;rw[aR Wm,<-q]at e
  have c:i - xs.length=0:=by
   have:=(gS.1 a).1
   simp at this
   omega
  rw[c]at a e;cases a;cases e;exact⟨rfl,zb.nil _ _ _⟩
 rcases Yr i xs.length with b|b
 ·rw[Xt b]at a
  rcases Yr j xs.length with n|n
  ·rw[Xt n]at d;exact z i j x y m a d g h
  rw[aR n]at d;have p:j - xs.length=0:=by
   have:=(gS.1 d).1
   simp at this
   omega
  rw[p]at d;cases d;exact fun k=>by cases k
 rw[aR b]at a;have c:i - xs.length=0:=by
  have:=(gS.1 a).1
  simp at this
  omega
 rw[c]at a;cases a;cases h
theorem zhL (v:Xq) (fs:List Fl) (c:Int) (w:Xn) (a8:z7 w v fs):
  Xp prog 87 #[Xi #[v,I6 c]] w fun e w'=>∃b,e= Xl (Xm #[Xi #[b,I6 (zrR fs c)],I6 (zrQ fs c),I6 (zhM fs c)])/\qo 0 w.heap.size w' b (zoP fs c)/\zc w w':=by
 have u:∀W,zc w W->Xp prog 61 #[Xi #[v,I6 c]] W fun e w'=>e= Xl (I6 (stW fs c))/\zc W w':=fun W aj=>zaK v fs c W (a8.aA aj)
 have a1:∀W,zc w W->Xp prog 54 #[Xi #[v,I6 c]] W fun e w'=>∃b,e= Xl (Xi #[b,I6 c])/\z4 (W.heap.size+2) w' b fs/\zc W w'/\W.heap.size+2<=w'.heap.size:=fun W aj=>JJ v fs c W (a8.aA aj)
 obtain⟨a,ah,rfl,a2,_⟩:=a8.rows;clear a8;obtain⟨n,R⟩:=kA fs.length;rw[R.out]at u a1 a2⊢;obtain⟨bi,q⟩:=kB ((w.alloc (Xk #[O a n ah,I6 c] 41)).alloc (Xk #[eS,I6 0] 41));have j:=gD2 q
 have au:=x2a q
 have af:=x2b q
 have M:Xo (_=bi):=q;clear q
 rcases zoa fs c with⟨K,B,C,D,F⟩|⟨K,a7,B,C,D,F⟩|⟨K,a7,B,C,D,F⟩
 ·rw[B,C,D,F];have bn:(stW fs c != 0)=Xc:=Si K
  clear B C D F a1 K
  generalize stW fs c=bh at*
  go_enter func87,ntmps87
  go_wp2_with fail;rw[M.out];refine(u _ j).mono ?_;rintro e m ⟨rfl,k⟩;have Q:=dD (j.trans k);have s:=af.aA k;obtain⟨b5,b6⟩:=s.k2;have b7:=s.f;clear k u;go_wp2;refine bodyPost_ret (v:= Xm #[Xi #[eS,I6 0],I6 0,I6 bh]) (by simp[results,Tryz.results87,go_sem, *]) rfl ⟨_,rfl,qo.nil _ _ _,?_⟩
  exact Below.setCell (Below.setCell Q (p:=⟨w.heap.size+1,0,Xb⟩) Sm _) (p:=⟨w.heap.size+1,1,Xb⟩) Sm _
 ·rw[B,C,D,F];rw[K]at u;rw[R.out]at a7;have ak:((n:Int) == 5)=Xc:=by simp;omega
  clear B C D F a1 K a7
  go_enter func87,ntmps87
  go_wp2_with fail;rw[M.out];refine(u _ j).mono ?_;rintro e m ⟨rfl,k⟩;have Q:=dD (j.trans k);have ap:=(au.aA k).c 0 rfl;have s:=af.aA k;obtain⟨b5,b6⟩:=s.k2;have b7:=s.f;clear k u;go_wp2;refine bodyPost_ret (v:= Xm #[Xi #[eS,I6 0],I6 0,I6 4]) (by simp[results,Tryz.results87,go_sem, *]) rfl ⟨_,rfl,qo.nil _ _ _,?_⟩
  exact Below.setCell (Below.setCell Q (p:=⟨w.heap.size+1,0,Xb⟩) Sm _) (p:=⟨w.heap.size+1,1,Xb⟩) Sm _
 rw[B,C,D,F];rw[K]at u;rw[R.out]at a7⊢;have ak:((n:Int) == 5)=Xd:=by simp;omega
 clear B C D F K
 go_enter func87,ntmps87
 go_wp2_with fail;rw[M.out];refine(u _ j).mono ?_;rintro e m ⟨rfl,k⟩;have Q:=dD (j.trans k);have ae:=dD (au.aA k);have s:=dD (af.aA k);obtain⟨ap,b3⟩:=ae.k2;clear k u;go_wp2_with fail;refine(a1 _ Q).mono ?_;rintro e S ⟨b,rfl,ao,ai,b2⟩;have d:Xo (w.heap.size+2<=m.heap.size):=s.lt;obtain⟨V,a9,an,az,b0⟩:=ao;obtain⟨I,a0,rfl⟩:=a9.form;rw[an,R.out]at a9⊢;have a5:Xo (zb fvE (m.heap.size+2) S (O I n a0) V):=a9;have ac:Xo (V.length=fs.length):=an;have aq:Xo (∀(L:Nat) A U,V[L]? =Xa A->fs[L]? =Xa U->A.size=U.size/\zb blE (m.heap.size+2) S A.v U.bl):=az;have be:Xo (∀(L ay:Nat) A b4,L≠ay->V[L]? =Xa A->V[ay]? =Xa b4->∀g,A.v.ownBlock=Xa g->b4.v.ownBlock≠Xa g):=b0;have b8:=dD (Q.trans ai);have ab:Xo (m.heap.size+2<=S.heap.size):=b2;have X:Xo (zc m S):=ai;clear ai b2 a1 ap b3 a9 an az b0;go_upto_region 7 with fail;obtain⟨r,z⟩:=kB S.heap.size;obtain⟨ad,x⟩:=kB (S.alloc (Xk #[O I n a0,I6 c] 41));have f:=gA x
 have a6:Xo (zl ad r 41 [O I n a0,I6 c]):=dD<|by rw[<-x];exact zl.aE _ _ _ z.symm
 have bj:=dD ((ae.aA X).aA f);have bl:=dD ((s.aA X).aA f);have t:Xo (m.heap.size+2<=r):=show _<=_ by rw[<-z];exact ab.out
 have aa:Xo (r<ad.heap.size):=a6.box.lt;have b9:=dD (b8.trans f);rw[x];rw[z];clear x z;have b1:=a6.box.c 0 rfl
 go_wp2_with (at_builtin;refine zu (E:=fvE) rfl (.tmp 21) (.tmp 23) rfl (m.heap.size+2) _ V rfl (a5.aA (f.trans (za _ _))) _ [⟨0,Xb,0,0⟩] rfl (Qs fvE ad ⟨0,Xb,0,0⟩ _ _ rfl (by show 32<=_;omega)) ?qb ?qc ?_)
 case qb=>
  rw[ac.out,R.out]
  show(_+1)*32<=_
  omega
 case qc=>simp;have:=t.out;have:=aa.out;omega
 intro bs T P l;have N:=z4.append (a5.aA (f.trans (za _ _))) ac (fun L A U ax aw=>⟨(aq L A U ax aw).1,(aq L A U ax aw).2.aA (f.trans (za _ _))⟩) be P l (nR _)
 obtain⟨a3,a4,rfl⟩:=P.form;rw[lA,ac.out,R.out]at N⊢;simp only[List.length_cons,List.length_nil,zA]at N⊢;have i:∀g,(O I n a0).ownBlock=Xa g->m.heap.size+2<=g:=fun g y=>(a5.lt g y).1
 have Y:Xo (zl T r 41 [O I n a0,I6 c]):=(a6.aA (za _ _)).beside l (fun g y=>(a5.aA f).ne a6 Dc g y)
 have bk:Xo (Box T w.heap.size [O a n ah,I6 c]):=(bj.aA (za _ _)).beside l (fun g y=>by have:=i g y;have:=d.out;omega)
 have bm:Xo (Box T (w.heap.size+1) [eS,I6 0]):=(bl.aA (za _ _)).beside l (fun g y=>by have:=i g y;have:=d.out;omega)
 have bb:Xo (zc w T):=dD<|zU (b9.trans (za _ _)) l (fun g y=>by have:=i g y;have:=d.out;omega)
 have bf:Xo (z4 (m.heap.size+2) T (O a3 (n+1) a4) (fs++ [⟨0,[]⟩])):=N;clear P l i b1;obtain⟨bo,bp⟩:=Y.box.k2;have bq:=Y.box.f;go_upto_region 8 with fail;obtain⟨Z,h⟩:=kB (T.setCell ⟨r,0,Xb⟩ (O a3 (n+1) a4));have G:r≠w.heap.size:=by have:=t.out;have:=d.out;omega
 have H:r≠w.heap.size+1:=by have:=t.out;have:=d.out;omega
 have ar:Xo (Box Z r [O a3 (n+1) a4,I6 c]):=dD<|by rw[<-h];exact Y.box.set 0 _
 have av:Xo (Box Z w.heap.size [O a n ah,I6 c]):=dD<|by rw[<-h];exact bk.other (fun e=>G e.symm) _
 have ag:Xo (Box Z (w.heap.size+1) [eS,I6 0]):=dD<|by rw[<-h];exact bm.other (fun e=>H e.symm) _
 have bg:Xo (z4 (m.heap.size+2) Z (O a3 (n+1) a4) (fs++ [⟨0,[]⟩])):=dD<|by rw[<-h];exact bf.setBox Y Dc Dc 0 _
 have bd:Xo (zc w Z):=dD<|by rw[<-h];exact Below.setCell bb (p:=⟨r,0,Xb⟩) (by have:=t.out;have:=d.out;simp;omega) _
 rw[h];clear h bo bp bq;obtain⟨b1,br⟩:=ar.k2;obtain⟨ap,b3⟩:=av.k2;obtain⟨b5,b6⟩:=ag.k2;have b7:=ag.f;have al:¬w.heap.size=r:=fun e=>G e.symm
 have am:¬w.heap.size+1=r:=fun e=>H e.symm
 go_region
 all_goals go_wp2
 all_goals
  refine bodyPost_ret (v:= Xm #[Xi #[O a3 (n+1) a4,I6 c],I6 n,I6 0]) (by simp[results,Tryz.results87,go_sem, *]) rfl ⟨_,rfl,?_,?_⟩
  ·refine qo.aA ((z4.setCell (z4.setCell bg (a:=⟨w.heap.size+1,0,Xb⟩) ?_ _) (a:=⟨w.heap.size+1,1,Xb⟩) ?_ _).new.less (nR _) ?_) (gW _)
   ·have:=d.out;simp;omega
   ·have:=d.out;simp;omega
   have:=d.out;omega
  exact(Below.setCell (Below.setCell bd (p:=⟨w.heap.size+1,0,Xb⟩) Sm _) (p:=⟨w.heap.size+1,1,Xb⟩) Sm _).drew
variable{X:Nat->Prop}
theorem zly {u w:Xn} {p:Nat} {b:Sli} {fl:List Fl} {c:Int} (h:ChW w0 X p u V m) (s:zc u w) (B:zc w w1) (G:qo 0 w.heap.size w1 (b.x) fl) (q:w1.grownBy w2 (Xa p)) (d:zk (Aft w0 u w) w2 W):zw W { V with fl:=b } { m with fl:=fl,cnt:=c }:=by
 have P:=h.aM p (.inl rfl);have D:=bS s;have y:zk (fun k=>k<w0.heap.size\/k=p) u W:=by
  have f:zk (fun k=>k<w0.heap.size\/k=p) u w2:=(zk.aA (s.trans B)).trans (zk.grown q (.inr rfl))
  refine⟨d.os.trans f.os,d.tape.trans f.tape,d.output.trans f.output,nT f.size d.size,fun j t g=>?_⟩
  rw[d.block j (Xs t f.size) (fun e=>by rcases e with e | e;exact g (.inl e);omega)]
  exact f.block j t g
 have z:zk (Dr w0.heap.size X p V) u W:=y.wide fun k a=>a.elim (fun e=> .inl (.inl e)) fun e=> .inr (.inl e)
 have r:=h.rest W z;obtain⟨N,K,L,M⟩:=h.sp;have own:∀{A:Type} {E:Elt A} {l:Sli} {v:List A},zb E w0.heap.size u (l.x) v->(∀k,oB l k->p≠k)->zj E W (l.x) v:=fun n g=>zb.at ⟨jm n.1 y (fun k a e=>by
  rcases e with e|e
  ·have:=(n.lt k a).1;omega
  exact g _ a e.symm),n.2⟩
 have i:zk (fun k=>k<w.heap.size) w1 W:=(zk.grown q Wm).trans (d.wide fun k a=>by
  rcases a with e|e
  ·have:=bS h.gr;omega
  exact e.2)
 exact⟨own h.fs h.nf,r.sl,r.sb,r.sq,r.db,r.dq,(G.out ⟨i.os,i.tape,i.output,i.size,fun k a g=>i.block k a (fun e=>Wm)⟩).bQ,own h.ca h.nc,⟨N,own K h.ns,L,fun j x H F C=>M j x H F C W z⟩⟩
def zgi (m:Ma) (er n:Int) (l:List Int) (m':Ma):Prop:=
 l=[]/\er=zhM m.fl m.cnt/\(er=0->n=zrQ m.fl m.cnt/\m'={ m with fl:=zoP m.fl m.cnt,cnt:=zrR m.fl m.cnt })
theorem ziO {u w:Xn} {p:Nat} (h:ChW w0 X p u V m) (M:zc u w) (c:Cl):
  Xp prog 42 #[Xj (Xa ⟨p,0,Xb⟩),Xi #[I6 c.kind,I6 c.aC,I6 c.pt,I6 c.n,I6 c.file,I6 c.base,Xh c.rd,Xh c.wr,Xh c.sh,c.dv.x]] w fun e w'=>ZQ (zgi m) w0 p u w e w':=by
 have z:Xo (ChW w0 X p u V m):=h;have y:Xo (zc u w):=M;obtain⟨b,q⟩:=kA w.heap.size;obtain⟨a,f⟩:=kB ((w.alloc (Xk #[I6 c.kind,I6 c.aC,I6 c.pt,I6 c.n,I6 c.file,I6 c.base,Xh c.rd,Xh c.wr,Xh c.sh,c.dv.x] 25)).alloc (Xk #[I6 0,I6 0,eS] 54));have t:=gD2 f
 have ay:Xo (zl a b 25 [I6 c.kind,I6 c.aC,I6 c.pt,I6 c.n,I6 c.file,I6 c.base,Xh c.rd,Xh c.wr,Xh c.sh,c.dv.x]):=dD<|by rw[<-f];exact(zl.aE w [I6 c.kind,I6 c.aC,I6 c.pt,I6 c.n,I6 c.file,I6 c.base,Xh c.rd,Xh c.wr,Xh c.sh,c.dv.x] _ q.symm).aA (za _ _)
 have A1:Xo (zl a (b+1) 54 [I6 0,I6 0,eS]):=dD<|by rw[<-f];exact zl.aE _ [I6 0,I6 0,eS] _ (by have:=q.out;simp;omega)
 have v:Xo (b+1<a.heap.size):=A1.box.lt;have l:Xo (zc u a):=show zc _ _ from M.trans t.out
 have U:Xo (zl a p 88 (chL V m)):=h.box.aA l.out;have g:Xo (p<u.heap.size):=h.aM p (.inl rfl);have i:Xo (u.heap.size<=b):=show _<=_ by rw[<-q.out];exact bS M
 have a4:Xo (w0.heap.size<=b):=dD<|by have:=h.lo;have:=g.out;have:=i.out;omega
 have T:Xo (_=a):=f;obtain⟨E,S⟩:=kA (zhM m.fl m.cnt);obtain⟨C,a2⟩:=kA (zrR m.fl m.cnt);obtain⟨I,a3⟩:=kA (zrQ m.fl m.cnt);have G:Xp prog 87 #[Xi #[V.fl.x,I6 m.cnt]] a fun e w'=>∃b:Sli,e= Xl (Xm #[Xi #[b.x,I6 C],I6 I,I6 E])/\qo 0 a.heap.size w' (b.x) (zoP m.fl m.cnt)/\zc a w':=by
  rw[<-S.out,<-a2.out,<-a3.out];refine(zhL _ m.fl m.cnt a (h.at.aA l).fl).mono ?_;rintro e w' ⟨b,rfl,K,ao⟩;obtain⟨an,c,rfl,_⟩:=z7.rows K.bQ;exact⟨⟨an,_,c⟩,rfl,K,ao⟩
 have av:=U.box.c 7 rfl;have aw:=U.box.c 8 rfl;clear f h M
 go_enter func42,ntmps42
 go_upto_region 1 with fail;rw[T.out,q.out]
 go_wp2_with (go_at_call 87;refine G.mono ?_)
 clear G av aw;rintro e B ⟨s,rfl,K,Z⟩;have ae:Xo (qo 0 a.heap.size B (s.x) (zoP m.fl m.cnt)):=K;have Q:Xo (zc a B):=Z;have ai:Xo (b+1<B.heap.size):=show _<_ from Xs v (bS Z)
 clear K Z;go_upto_region 2 with fail;obtain⟨b0,a5⟩:=kA B.heap.size;obtain⟨W,k⟩:=kB (B.alloc (Xk #[s.x,I6 C] 41));have n:=gP k
 have a6:=xPT k a5
 have af:=dD (ae.aA n);have d:=dD (Q.trans n);have a1:=dD (A1.aA d);have al:=dD (U.aA d);rw[k,a5.out];clear k n
 by_cases N:E=0
 rotate_left
 ·have az:(E != 0)=Xc:=by simp[N]
  have A:Xo (E≠0):=N;clear N;have H:=jY E W;go_wp2_with fail;refine H.mono ?_;rintro e L ⟨rfl,j⟩;have P:=dD (a1.aA j);have a7:Xo (zc w L):=show zc _ _ from(t.trans d).trans j
  clear H j;unfold Ju noS
  go_wp2_with (refine zm rfl 54 (.tmp 4) (.tmp 21) rfl (b+1) rfl [I6 E,I6 0,eS] rfl P rfl Kr (by simp[Value.oneCell']) ?_)
  intro Y aa a0 _;have ah:Xo (zc w0 Y):=dD<|zd ((z.gr.trans y).trans a7) a0 (Hm a4.out)
  have ad:Xo (zl Y (b+1) 54 [I6 E,I6 0,eS]):=aa;have ak:Xo (zk (zr4 w0 u) w Y):=show zk _ _ _ from zk.beyond (zk.aA a7) a0 (Hm q.out)
  clear aa a0;go_wp2;refine bodyPost_ret (zE rfl _ rfl ad.box underlying54 rfl Kr) rfl ⟨E,0,noS,[],V,m,rfl,⟨rfl,S.symm,fun h=>absurd h A⟩,ak,ah,fun _ _=>zj.nil _ _,fun h=>absurd h A⟩
 subst N;obtain⟨ar,au⟩:=a6.box.k2
 go_wp2_with (refine qK rfl 41 (.tmp 26) (.tmp 23) rfl p 7 rfl (Xi #[s.x,I6 C]) rfl [s.x,I6 C] rfl al (by simp[chL]) Kr (by simp[Value.oneCell']) ?_)
 intro r a8 F _;clear ar au;have am:Xo (zl r p 88 (chL { V with fl:=s } { m with fl:=zoP m.fl m.cnt,cnt:=C })):=a8;have R:Xo (W.grownBy r (Xa p)):=F;have ac:Xo (zl r (b+1) 54 [I6 0,I6 0,eS]):=show zl _ _ _ _ from a1.beside F (fun ab e=>by cases e;have:=g.out;have:=i.out;omega)
 have ag:Xo (zc w0 r):=dD<|zd (((z.gr.trans y).trans t).trans d) F z.lo
 have aj:Xo (zk (zr4 w0 u) w r):=dD<|(zk.aA (t.trans d)).trans (zk.grown F ⟨z.lo,g⟩)
 clear a8 F
 go_wp2_with (refine zm rfl 54 (.tmp 4) (.tmp 28) rfl (b+1) rfl [I6 0,I6 I,eS] rfl ac rfl Kr (by simp[Value.oneCell']) ?_)
 intro L a9 j _;have P:Xo (zl L (b+1) 54 [I6 0,I6 I,eS]):=a9;have x:Xo (ZQ (zgi m) w0 p u w (Xl (Ju 0 I noS)) L):=show ZQ _ _ _ _ _ _ _ from by
  refine⟨0,I,noS,[],{ V with fl:=s },{ m with fl:=zoP m.fl m.cnt,cnt:=C },rfl,⟨rfl,S.symm,fun _=>⟨a3.symm,by rw[a2.out]⟩⟩,aj.beyond j (Hm q.out),zd ag j (Hm a4.out),fun _ _=>zj.nil _ _,fun _=>⟨am.beside j (fun ab e=>by cases e;have:=g.out;have:=i.out;omega),fun ax ap=>?_⟩⟩
  exact zly (w:=a) (w1:=W) (w2:=r) z l d af R ((zk.grown (D:=Aft w0 u a) j (.inr ⟨Hm i.out,v⟩)).trans (ap.wide fun ab aq=>aq.imp id fun h=>⟨h.1,Xs h.2 (bS t)⟩))
 clear a9 j;go_wp2;refine bodyPost_ret (zE rfl _ rfl P.box underlying54 rfl Kr) rfl x.out
theorem zgt (w:Xn) (m:Ma) (c:Cl) (a:c.kind=8):J8 w m c (zgi m):=by
 intro f W p d v e h b;obtain rfl:=b.2.2.2.2.2.2.2.1 a;exact⟨42,#[],rfl,enters_of func42 Kr rfl,ziO h (zc.refl _) c⟩
variable{X:Nat->Prop}
theorem zbr {w:Xn} {p:Nat} (h:ChW w0 X p w V m) (c:Cl) (d:0<=c.file/\c.file< (m.fl.length:Int)) (g F:Nat) (K:Int->Int->List Int->Ma->Prop) (a9:Enters prog F) (a2:zl w g 80 [.func (.func F) #[] #[]])
  (a1:∀W,zc w W->Xp prog F #[Xj (Xa ⟨p,0,Xb⟩),Xi #[I6 c.kind,I6 c.aC,I6 c.pt,I6 c.n,I6 c.file,I6 c.base,Xh c.rd,Xh c.wr,Xh c.sh,c.dv.x]] W fun e w'=>ZQ K w0 p w W e w'):
  Xp prog 88 #[Xj (Xa ⟨p,0,Xb⟩),Xi #[I6 c.kind,I6 c.aC,I6 c.pt,I6 c.n,I6 c.file,I6 c.base,Xh c.rd,Xh c.wr,Xh c.sh,c.dv.x],Xj (Xa ⟨g,0,Xb⟩)] w fun e w'=>ZQ K w0 p w w e w':=by
 have am:Xo (ChW w0 X p w V m):=h;have U:Xo (p<w.heap.size):=h.aM p (.inl rfl);have T:Xo (zl w g 80 [.func (.func F) #[] #[]]):=a2;have S:=show Xo _ from a1
 have ai:Xo (∀(i:Array Xq) (w:Xn),(callFunc F i).run prog w= .ok (.enter F i) w):=a9;obtain⟨b,j⟩:=kA w.heap.size;obtain⟨f,a⟩:=kB ((w.alloc (Xk #[I6 c.kind,I6 c.aC,I6 c.pt,I6 c.n,I6 c.file,I6 c.base,Xh c.rd,Xh c.wr,Xh c.sh,c.dv.x] 25)).alloc (Xk #[I6 0,I6 0,eS] 54));have a6:=gD2 a
 have a7:Xo (zl f b 25 [I6 c.kind,I6 c.aC,I6 c.pt,I6 c.n,I6 c.file,I6 c.base,Xh c.rd,Xh c.wr,Xh c.sh,c.dv.x]):=dD<|by rw[<-a];exact(zl.aE w [I6 c.kind,I6 c.aC,I6 c.pt,I6 c.n,I6 c.file,I6 c.base,Xh c.rd,Xh c.wr,Xh c.sh,c.dv.x] _ j.symm).aA (za _ _)
 have A1:Xo (zl f (b+1) 54 [I6 0,I6 0,eS]):=dD<|by rw[<-a];exact zl.aE _ [I6 0,I6 0,eS] _ (by have:=j.out;simp;omega)
 have R:Xo (b+1<f.heap.size):=A1.box.lt;have s:Xo (p<b):=show _<_ by have:=U.out;have:=j.out;omega
 have al:Xo (w0.heap.size<=b):=dD<|by have:=am.lo;have:=s.out;omega
 have an:Xo (ChW w0 X p f V m):=h.aA a6.out;have Z:Xo (_=f):=a;have A:=h.at.fl.n;obtain⟨N,r⟩:=kA V.fl.n;rw[<-A,r.out]at d;have Q:Xo ((Value.bool (decide (0<=c.file) && decide (c.file< (N:Int))))= Xh Xc):=show _=_ by
  rw[decide_eq_true d.1,decide_eq_true d.2];rfl
 clear a h a1 a2 a9 A d
 go_enter func88,ntmps88
 go_upto_region 1 with fail;rw[Z.out,j.out];have a4:=fun y:zf f=>(a7.box.aA y.aA).c 4 rfl
 have E:∀y:zf f,y.world.cell? ⟨p,7,Xb⟩=Xa (O V.fl.a N V.fl.c):=fun y=>by rw[<-r.out];exact(an.box.box.aA y.aA).c 7 rfl
 have a3:Nonempty (zf f):=⟨⟨_,zc.refl _⟩⟩;refine qx [(9,⟨fun aw=>aw= Xh Xc,fun _ _=>True⟩)] zW Kr ?_ ?_ ?_
 ·intro x C
  simp at C
  subst C;exact⟨_,rfl⟩
 ·intro x C
  simp at C
  subst C;exact fun _ _ _ _ h=>h
 iterate 3 refine ze ?_
 refine jG (.tmp 8) ⟨p,0,Xb⟩ rfl rfl rfl rfl ?_;refine Uq ?_;iterate 5 refine ze ?_
 refine zx rfl rfl (fun w' a2 a1=>?_) (fun ay au=>?_)
 ·refine zP.call [I6 c.file,I6 (N:Int)] rfl func74 rfl rfl rfl ?_;refine(ZW c.file (N:Int) w').mono ?_;rintro e ax ⟨rfl,rfl⟩;exact⟨_,rfl,zc.refl _,Q,trivial⟩
 subst au;refine Uq ?_;refine ze ?_
 refine zL fun L u _=>?_
 have A2:=dD (A1.aA u);have aq:=dD (a7.aA u);have H:=dD (a6.trans u);have I:Xo (b+1<L.heap.size):=show _<_ from Xs R (bS u)
 clear u a4 E a3;have B:=S.out L H.out;have ar:=(T.aA H).box.c 0 rfl
 go_wp2_with (first | refine zp rfl 25 (.tmp 4) rfl b rfl aq.box underlying25 rfl Kr ?_ | fail)
 rw[ai.out];refine B.mono ?_;clear B ar;rintro e M ⟨t,n,P,ae,ap,af,rfl,k,a5,aa,ad,ac⟩;have ag:Xo (zl M (b+1) 54 [I6 0,I6 0,eS]):=dD<|A2.aK a5 (fun k=>by have:=j.out;have:=k.2;omega)
 have ak:Xo (K t n ae af):=k;have ao:Xo (zk (zr4 w0 w) w M):=show zk _ _ _ from(zk.aA H).trans a5
 have aj:Xo (zc w0 M):=aa;have Y:=show Xo _ from ad
 have l:=show Xo _ from ac
 clear k a5 aa ad ac;unfold Ju
 go_wp2_with (refine zm rfl 54 (.tmp 5) (.tmp 21) rfl (b+1) rfl [I6 t,I6 n,P.x] rfl ag rfl Kr (by simp[Value.oneCell']) ?_)
 intro a0 a8 v _;have ah:Xo (zl a0 (b+1) 54 [I6 t,I6 n,P.x]):=a8;have q:Xo (ZQ K w0 p w w (Xl (Ju t n P)) a0):=show ZQ _ _ _ _ _ _ _ from by
  have G:∀W,zk (Aft w0 w w) a0 W->zk (Aft w0 w L) M W:=fun W z=>(zk.grown (D:=Aft w0 w L) v (.inr ⟨Hm j.out,I⟩)).trans (z.wide fun av k=>k.imp id fun h=>⟨h.1,Xs h.2 (bS H)⟩)
  exact⟨t,n,P,ae,ap,af,rfl,ak,ao.beyond v (Hm j.out),zd aj v (Hm al.out),fun W z=>Y.out W (G W z),fun ab=>⟨(l ab).1.beside v (fun av e=>by cases e;have:=s.out;omega),fun W z=>(l ab).2 W (G W z)⟩⟩
 clear a8 v;go_wp2;refine bodyPost_ret (zE rfl _ rfl ah.box underlying54 rfl Kr) rfl q.out
theorem zar:Enters prog 88:=enters_of func88 Kr rfl
variable{X:Nat->Prop}
variable{X:Nat->Prop}
def j8 (m:Ma) (fi a:Nat):Nat->Ma
 | 0=>m
 | k+1=>zb6 (j8 m fi a k) fi (a+k)
def zbS (m:Ma) (fi n:Nat) (F:Fl):Ma:=
 { j8 (zfa m fi (min n F.size.toNat)) fi (jH ((min n F.size.toNat:Nat):Int)).toNat (F.bl.length -(jH ((min n F.size.toNat:Nat):Int)).toNat)with fl:=zkQ m.fl m.cnt (fi:Int) (n:Int),cnt:=zoM m.fl m.cnt (fi:Int) (n:Int) }
theorem zrg (m:Ma) (fi ix:Nat):(zb6 m fi ix).fl=m.fl/\(zb6 m fi ix).cnt=m.cnt:=by
 obtain⟨a,_,_,b,_⟩:=zag m fi ix;unfold zb6
 split
 ·exact⟨a,b⟩
 exact⟨a,b⟩
theorem zsw (m:Ma) (fi z:Nat):(zfa m fi z).fl=m.fl/\(zfa m fi z).cnt=m.cnt:=by
 unfold zfa
 split
 ·exact⟨rfl,rfl⟩
 obtain⟨a,_,_,b,_,_⟩:=zbL m fi (z / 8) ((z % 8:Nat):Int)
 split
 ·exact⟨a,b⟩
 exact⟨a,b⟩
theorem zni (h:Rt m) {a:Nat} {F:Fl} (d:m.fl[fi]? =Xa F) (k:Nat) (q:a+k<=F.bl.length):Rt (j8 m fi a k)/\(j8 m fi a k).fl=m.fl/\(j8 m fi a k).cnt=m.cnt:=by
 induction k with
 | zero=>exact⟨h,rfl,rfl⟩
 | succ k g=>
  obtain⟨i,c,j⟩:=g Wm
  obtain⟨n,p⟩:=zrg (j8 m fi a k) fi (a+k);have b:(j8 m fi a k).fl[fi]? =Xa F:=Rx c d
  have f:a+k<F.bl.length:=Wm
  have l:=znh i b f;have e:j8 m fi a (k+1)=zb6 (j8 m fi a k) fi (a+k):=rfl;rw[e];exact⟨l,n.trans c,p.trans j⟩
theorem zcA {w:Xn} {p:Nat} (U:ChW w0 X p w V m) (Z:Rt m) (fi n:Nat) (F:Fl) (r:m.fl[fi]? =Xa F) (ch:n<=96):
  Xp prog 90 #[Xj (Xa ⟨p,0,Xb⟩),I6 (fi:Int),I6 (n:Int)] w fun e w'=>(∃v,e= Xl v)/\Chg w0 X p w V (zbS m fi n F) w':=by
 obtain⟨ae,ax,C⟩:=jp Z r;obtain⟨av,l⟩:=zi0 Z.w r;obtain⟨z,an⟩:∃z:Nat,Xo (F.size=(z:Int)):=⟨F.size.toNat,show _=_ by omega⟩
 obtain⟨b,j⟩:=kA (min n z);have s:b<=96:=Hm j.out
 obtain⟨a,h⟩:∃a:Nat,Xo (jH (b:Int)=(a:Int)):=⟨(jH (b:Int)).toNat,show _=_ by have:=(Qm (n:=(b:Int)) Wm Wm).1;omega⟩
 have E:a<=F.bl.length:=by
  have Y:=h.out;rw[an.out]at l;have bf:=j.out;unfold jH at Y l
  split at Y <;> split at l <;> omega
 have G:b % 8≠0->b / 8<F.bl.length:=fun cp=>by
  have Y:=h.out;unfold jH at Y
  split at Y <;> omega
 have c:Xo (zbS m fi n F={ j8 (zfa m fi b) fi a (F.bl.length - a)with fl:=zkQ m.fl m.cnt (fi:Int) (n:Int),cnt:=zoM m.fl m.cnt (fi:Int) (n:Int) }):=dD<|by
  unfold zbS;rw[an.out,tN,j.out,h.out,tN]
 obtain⟨c7,am⟩:=kA (zbS m fi n F);rw[am.out]at c⊢;have D:=zqB Z r (z:=b) G;obtain⟨af,b1⟩:=zsw m fi b;obtain⟨d,T⟩:=kA (zfa m fi b);rw[T.out]at D af b1 c;have i:Xo (d.fl[fi]? =Xa F/\d.fl=m.fl/\d.cnt=m.cnt):=⟨Rx af r,af,b1⟩
 have y:Xo (∀k,a+k<=F.bl.length->Rt (j8 d fi a k)/\(j8 d fi a k).fl=d.fl/\(j8 d fi a k).cnt=d.cnt):=dD<|fun k cg=>zni D i.1 k cg
 have R:Xo (∀W,zc w W->Xp prog 151 #[Xj (Xa ⟨p,0,Xb⟩),I6 (fi:Int),I6 (b:Int)] W fun e w'=>(∃v,e= Xl v)/\Chg w0 X p W V d w'):=dD<|fun W ce=>by
  rw[<-T.out];exact zn2 (U.aA ce) Z fi b F r s G
 have bu:Xo (ChW w0 X p w V m):=U;have x:=U.at;have a9:=U.box.box.c 7 rfl;obtain⟨ca,cb,H,I,u⟩:=x.fl.rows;have bv:Xo (V.fl.x= O ca m.fl.length cb):=H;rw[H]at a9;obtain⟨co,rfl,ck,cl,_,bh⟩:=u fi _ r;obtain⟨bb,bc⟩:=bh w (bR _ _);rw[an.out]at bb;have az:(fi:Int)< (m.fl.length:Int):=Hm ((gS.1 r).1)
 obtain⟨cq,aj⟩:=kA m.fl.length;rw[aj.out]at a9 az I;obtain⟨f,Q⟩:=kA F.bl.length;rw[Q.out]at bc E y c C;have a3:min (n:Int) (z:Int)=(b:Int):=Hm j.out
 have g:Xo (a<=f/\f<=12):=⟨E,C⟩;have a0:∀W,Xp prog 149 #[I6 (b:Int)] W fun e w'=>e= Xl (I6 (a:Int))/\w'=W:=fun W=>by
  have:=zbM (b:Int) W Wm Wm
  rw[h.out]at this;exact this
 have ai:Xo (∀W,Xp prog 149 #[I6 (b:Int)] W fun e w'=>e= Xl (I6 (a:Int))/\w'=W):=a0
 clear bh u H U Z r ch D af b1 G E s ae ax C av l a0
 go_enter func90,ntmps90
 go_upto_region 1 with fail;obtain⟨N,ah⟩:=kA w.heap.size;obtain⟨B,q⟩:=kB (w.alloc (Xk #[I6 (z:Int),O ck f cl] 159));have b4:=gA q
 have b7:=xPT q ah
 rw[q,ah.out];have cm:=b7.box.c 0 rfl;have a1:=R.out B b4.out;have al:Xo (¬Dw p V N):=dD<|fun e=>by have:=bu.aM N e;have:=ah.out;omega
 clear q a9 bb bc;go_upto_region 2 with fail;clear cm a3
 go_wp2_with (go_at_call 151;refine a1.mono ?_)
 clear a1;rintro e ar v rfl bf;obtain⟨ap,b9,bj,bd⟩:=bf;have bw:Xo (ChW w0 X p ar ap d):=b9;have c1:Xo (zk (Dw p V) B ar):=bj;have bo:Xo (∀k,Dw p ap k->Dw p V k\/B.heap.size<=k):=bd;clear b9 bj bd;go_wp2_with fail;refine(ai ar).mono ?_;rintro e cn ⟨rfl,a5⟩;rw[a5];clear a5;go_wp2
 go_loopg [8] (f - a) (fun cd ci wr=>∃(t:Nat) (L:MaV),a+t<=f/\f - a - t<=cd/\ci=I6 ((a:Int)+(t:Int))/\Xo (ChW w0 X p wr L (j8 d fi a t))/\Xo (zk (Dw p V) B wr)/\Xo (∀k,Dw p L k->Dw p V k\/B.heap.size<=k))
 exact⟨0,ap,Hm g.out,Wm,Sm,bw,c1,bo⟩
 obtain⟨t,L,bi,cf,rfl,A,ao,b3⟩:=hrel;have bn:=(b7.aK ao al).box.c 1 rfl
 by_cases b0:a+t<f
 ·have a2:(a:Int)+(t:Int)< (f:Int):=Wm
  have a6:wrap64 ((a:Int)+(t:Int))=(a:Int)+(t:Int):=by have:=g.out;unfold wrap64;omega
  have a7:wrap64 ((a:Int)+(t:Int)+1)=(a:Int)+(t:Int)+1:=by have:=g.out;unfold wrap64;omega
  obtain⟨bm,P,_⟩:=y.out t bi;have K:=zlJ A bm fi (a+t) F (Rx P i.1) (Rx Q.out b0)
  rw[show((a+t:Nat):Int)=(a:Int)+(t:Int) by omega]at K
  clear bm P;go_wp2_with fail;refine K.mono ?_;clear K bn;rintro e M ⟨⟨cr,rfl⟩,bg⟩;obtain⟨aq,ba,bk,be⟩:=Chg.step ao b3 bg;have bx:Xo (ChW w0 X p M aq (j8 d fi a (t+1))):=ba;have c3:Xo (zk (Dw p V) B M):=bk;have bp:Xo (∀k,Dw p aq k->Dw p V k\/B.heap.size<=k):=be;clear bg ba bk be;go_wp2
  go_roundg (f - a -(t+1));exact⟨t+1,aq,Wm,Wm,by(try rw[a6]);(try rw[a7]);go_num,bx,c3,bp⟩;omega
 have a2:¬(a:Int)+(t:Int)< (f:Int):=Wm
 have ay:t=f - a:=Wm
 subst ay;obtain⟨ab,ak⟩:=kA (j8 d fi a (f - a));obtain⟨_,P,b2⟩:=y.out _ bi;rw[ak.out]at P b2 c A;have S:Xo (ab.fl=m.fl/\ab.cnt=m.cnt):=⟨P.trans i.2.1,b2.trans i.2.2⟩;have x:Xo (z7 wr (L.fl.x) m.fl):=show z7 _ _ _ by
  rw[<-S.1];exact A.at.fl
 have a9:=A.box.box.c 7 rfl;have cj:=A.box.box.c 8 rfl;obtain⟨aa,b6⟩:=kA (zoM m.fl m.cnt (fi:Int) (n:Int));obtain⟨bq,bt⟩:=kA (zgj m.fl m.cnt (fi:Int) (n:Int));have a4:Xp prog 153 #[Xi #[L.fl.x,I6 ab.cnt],I6 (fi:Int),I6 (n:Int)] wr fun e w'=>∃N:Sli,e= Xl (Xm #[Xi #[N.x,I6 aa],I6 bq])/\qo 0 wr.heap.size w' (N.x) (zkQ m.fl m.cnt (fi:Int) (n:Int))/\zc wr w':=by
  rw[<-b6.out,<-bt.out,S.2];refine(zkP _ m.fl m.cnt (fi:Int) (n:Int) wr x).mono ?_;rintro e w' ⟨N,rfl,a8,cc⟩;obtain⟨c8,c9,rfl,_⟩:=z7.rows a8.bQ;exact⟨⟨c8,_,c9⟩,rfl,a8,cc⟩
 rw[b6.out]at c;clear P b2;go_wp2_with fail;refine a4.mono ?_;clear a4 bn a9 cj;rintro e M ⟨ac,rfl,a8,aw⟩;have br:Xo (qo 0 wr.heap.size M (ac.x) (zkQ m.fl m.cnt (fi:Int) (n:Int))):=a8;have bs:Xo (zc wr M):=aw;have c5:=dD (A.box.aA aw);clear a8 aw
 go_wp2_with (refine qK rfl 41 (.tmp 53) (.tmp 49) rfl p 7 rfl (Xi #[ac.x,I6 aa]) rfl [ac.x,I6 aa] rfl c5 (by simp[chL]) Kr (by simp[Value.oneCell']) ?_)
 intro au b8 ae _;have c6:Xo (zl au p 88 (chL { L with fl:=ac } { ab with fl:=zkQ m.fl m.cnt (fi:Int) (n:Int),cnt:=aa })):=b8;have ag:Xo (M.grownBy au (Xa p)):=ae;clear b8 ae;have bz:Xo (Chg w0 X p w V c7 au):=show Chg _ _ _ _ _ _ _ by
  rw[c.out];exact Chg.aI b4 (Chg.step ao b3 (A.setFl bs (nR _) br ag c6).bW)
 go_wp2
 (first | go_end0 | ((try simp only[Exit.inBlock,Exit.then]);refine bodyPost_ret (results_none rfl _ _ _) rfl ?_))
 exact⟨⟨_,rfl⟩,bz⟩
def FrD (m:Ma) (f:Fr):Prop:=z9 m f.f f.x=zfb m f
structure Syn (m:Ma) (fi:Nat):Prop where
 fr:∀f∈m.fs,f.r≠0->f.f=(fi:Int)->f.d=Xd/\FrD m f
 qu:∀F,m.fl[fi]? =Xa F->∀q∈m.dq,q.1∉F.bl
section
variable{m:Ma} {fi:Nat}
theorem zmX {a:Nat} {F:Fl} {db':List (List Int)} {dq':List (Int × List Int)} (p:m.fl[a]? =Xa F) (n:∀i:Int,i≠(b:Int)->zS db' dq' i=zS m.db m.dq i) (f:∀(i j:Nat) g,m.fl[i]? =Xa g->g.bl[j]? =Xa (b:Int)->i=a/\j=ix)
  {G:Fl} (c:m.fl[fi]? =Xa G) {j:Nat} (e:j<G.bl.length) (d:¬(fi=a/\j=ix)):z9 (ZK m a ix F (b:Int) db' dq') (fi:Int) (j:Int)=z9 m (fi:Int) (j:Int):=by
 obtain⟨z,k⟩:∃z,G.bl[j]? =Xa z:=⟨_,gE e⟩;have l:=(gS.1 p).1;have q:∃h,(ZK m a ix F (b:Int) db' dq').fl[fi]? =Xa h/\h.bl[j]? =Xa z/\h.size=G.size:=by
  unfold ZK;simp only
  by_cases e:a=fi
  ·subst e;rw[sF l];rw[p]at c;cases c;exact⟨_,rfl,by simp only;rw[sN (fun e=>d ⟨rfl,e.symm⟩)];exact k,rfl⟩
  rw[sN e];exact⟨G,c,k,rfl⟩
 obtain⟨h,a,h,l⟩:=q;rw[ZU a h,ZU c k,l];have a:z≠(b:Int):=fun e=>d (f fi j G c (by rw[k,e]))
 show(if z<0 then zI else qJ (zS db' dq' z) (j:Int) G.size)=_
 rw[n z a]
theorem zmW {a:Nat} {b:Int} {F:Fl} {db':List (List Int)} {dq':List (Int × List Int)} (d:m.fl[a]? =Xa F) (z:Int):qW (ZK m a ix F b db' dq') z=qW m z:=by
 have c:=(gS.1 d).1;unfold qW ZK;simp only[gD]
 by_cases e:z.toNat=a
 ·rw[e,sF c,d];rfl
 rw[sN (fun h=>e h.symm)]
theorem zoV (h:Rt m) (a:(b:Int)<m.cnt) (pg) (i:Int) (hi:i≠(b:Int)):zS (qn m.db m.dq) (qh m.dq (b:Int) pg) i=zS m.db m.dq i:=by
 have a:=h.inv.cnt;have a:zg m.db.length m.dq (b:Int)=0:=by
  unfold zg;rw[kE h.inv.aU,kE (by simp[j0];omega)]
 exact Zn a hi
theorem zpa {fs:List Fr} {k:Nat} {f:Fr} (h:f∈fs.set k frF) (a:f.r≠0):f∈fs:=by
 rcases Yo h with e|e
 ·exact e
 rw[e]at a;exact absurd rfl a
theorem zoh (b:Rt m) (i:zs8 m) (a:Zg m M):Rt M/\∀f∈M.fs,f.r≠0->f.f=(fi:Int)->f.d=Xd->FrD M f:=by
 refine a (fun N=>Rt N/\∀f∈N.fs,f.r≠0->f.f=(fi:Int)->f.d=Xd->FrD N f) ⟨b,fun f n q l g=>?_⟩ fun N c k j v f F c r b C h=>⟨(zfd c.1 r b h).rt,fun B s q l g=>?_⟩
 ·obtain⟨a,e⟩:=(i f n).2 q (by rw[l];omega)
  unfold FrD zfb;rw[a,e g]
 obtain⟨a,i,_,x,y,A⟩:=zfo (fun _ _=>False) c.1 r b h (qJ (pgL f.p) f.x F.size)
 have u:qW N (j:Int)=F.size:=by unfold qW;rw[tN,gD,b.fl];rfl
 have n:clM N k f F={ ZK N j v F (a:Int) (qn N.db N.dq) (qh N.dq (a:Int) (qJ (pgL f.p) f.x F.size))with fs:=N.fs.set k { f with d:=false } }:=by
  unfold clM;rw[kE h,i]
 have t:∀z i,z9 (clM N k f F) z i=z9 (ZK N j v F (a:Int) (qn N.db N.dq) (qh N.dq (a:Int) (qJ (pgL f.p) f.x F.size))) z i:=fun z i=>Rr n
 have i:∀z,qW (clM N k f F) z=qW N z:=fun z=>by rw[n];exact zmW (db':=qn N.db N.dq) (dq':=qh N.dq (a:Int) (qJ (pgL f.p) f.x F.size)) b.fl z
 unfold FrD zfb;rw[i,t];rw[zki h]at s
 rcases Yo s with i|i
 ·obtain⟨z,h⟩:=Ya i;obtain⟨_,a,n,w,a,s,a⟩:=zao c.1 h (by rw[l];omega)
  have t:¬(n=j/\w=v):=fun j=>by
   have n:=jZ c.1.inv.ca r;have r:=jZ c.1.inv.ca (mG s);rw[b.file,b.idx,<-j.1,<-j.2,<-a.file,<-a.idx,r]at n;cases n;have j:=b.fr.symm.trans a.fr;have j:k=z:=Wm
   subst j;have:=b.fa.symm.trans h;cases this;rw[C]at g;cases g
  have e:=c.2 B i q l g;unfold FrD zfb at e;rw[a.ff,a.fx]at e⊢;rw[zmX b.fl (zoV c.1 y _) A a.fl a.bl t];exact e
 rw[i]
 show z9 _ f.f f.x=qJ (pgL f.p) f.x (qW N f.f)
 rw[b.ff,b.fx]at⊢;rw[b.fx]at x;rw[zez b.fl b.bl (p:=pgL f.p) (by rw[x,u])]
theorem zo4 (e:Rt m) (c:zs8 m) (a:Zg m M) (d:Jl (fi:Int) M.ca.length M):Syn (QL M) fi:=by
 obtain⟨b,l⟩:=zoh (fi:=fi) e c a;refine⟨fun f c g e=>?_,fun _ _ q a=>by cases a⟩
 have a:f∈M.fs:=c;obtain⟨p,j⟩:=Ya a;obtain⟨n,k,c,c,F,i,c⟩:=zao b j (by rw[e];omega)
 have h:f.d=Xd:=d n k p f (gS.1 i).1 i (by rw[c.file,<-c.ff];exact e) c.fr j
 refine⟨h,?_⟩;have c:=l f a g e h;unfold FrD at c⊢;have e:jL (fun _=>Xc) M.db M.dq=qB (fun _=>Xc) M.dq 0 M.db:=kE b.inv.aU
 have:z9 (QL M) f.f f.x=z9 M f.f f.x:=by
  unfold z9 QL
  show(if Qc M f.f f.x<0 then zI else qJ (zS (jL (fun _=>Xc) M.db M.dq) [] (Qc M f.f f.x)) f.x (qW M f.f))=_
  rw[e,zcg b.inv.aU]
 rw[this];exact c
theorem Syn.crash (i:Syn m fi) (c:Rt m) (b:fi<m.fl.length) (a:Nat->Bool):jD (Qb m (jL a m.db m.dq)) (fi:Int)=jD m (fi:Int):=by
 have g:=zeV c a;have d:=gE b;obtain⟨G,b⟩:=kB (m.fl[fi]);rw[b]at d;obtain⟨b,f⟩:=zi0 c.w d;have e:qW m (fi:Int)=G.size:=by unfold qW;rw[tN,gD,d];rfl
 have b:jT (Qb m (jL a m.db m.dq)) (fi:Int)=jT m (fi:Int):=by
  unfold jT;rw[g.w,c.w];rfl
 unfold jD;rw[b]
 congr 1
 unfold zcD;have b:qW (Qb m (jL a m.db m.dq)) (fi:Int)=qW m (fi:Int):=rfl;rw[b];refine Oc fun k g=>?_
 have b:=Yb.1 g;rw[e]at b;have b:k / 8<G.bl.length:=by
  unfold jH at f
  split at f <;> omega
 obtain⟨z,f⟩:∃z,G.bl[k / 8]? =Xa z:=⟨_,gE b⟩;have l:zN (Qb m (jL a m.db m.dq)) (fi:Int) ((k / 8:Nat):Int)=z9 m (fi:Int) ((k / 8:Nat):Int):=by
  have b:zN (Qb m (jL a m.db m.dq)) (fi:Int) ((k / 8:Nat):Int)=z9 (Qb m (jL a m.db m.dq)) (fi:Int) ((k / 8:Nat):Int):=rfl;rw[b,ZU (m:=Qb m (jL a m.db m.dq)) d f,ZU d f]
  by_cases b:z<0
  ·rw[kE b,kE b]
  rw[kF b,kF b]
  congr 1
  have h:=mG f;have b:∀q∈m.dq,q.1≠z:=fun q g f=>i.qu G d q g (Rx f h)
  have d:jL a m.db m.dq=qB a m.dq 0 m.db:=kE c.inv.aU;have h:zB (qB a m.dq 0 m.db).length []=0:=Jv (by rw[j4];exact(qk c.inv.aU).1) Sm Sm
  have j:zg (qB a m.dq 0 m.db).length [] z=zg m.db.length m.dq z:=by
   rw[ZY c.inv.aU,ZY h,j4]
  show zS (jL a m.db m.dq) [] z=_
  rw[d]
  by_cases d:zg m.db.length m.dq z=0
  ·rw[Q0 d,Q0 (j.trans d)];have n:m.dq.reverse.find? (fun q=>q.1 == z)=Xb:=by
    rw[Oe];intro q g h;exact b q (List.mem_reverse.1 g) (Si h)
   rw[n];simp only[List.reverse_nil,List.find?_nil,zgX,gD]
   rcases zbj a m.dq 0 m.db z.toNat with f|⟨q,g,h⟩
   ·rw[f]
   have:=zmR c.inv.aU g;exact absurd (show q.1=z by omega) (b q g)
  have b:¬zg (qB a m.dq 0 m.db).length [] z=0:=Rx j d
  unfold zS;rw[kF d,kF b]
 rw[l];unfold zN
 cases b:m.ca.find? (QU (fi:Int) ((k / 8:Nat):Int))with
 | none=>rfl
 | some a=>
  simp only;have d:=Xw b;have a:=Yu b;simp only[QU,Bool.and_eq_true,decide_eq_true_eq]at a;obtain⟨b,h,j,f,k,g,l,_⟩:=qU c d;have b:=(i.fr h (mG f) k (Rx g a.1)).2
  unfold FrD zfb at b;rw[g,l,a.1,a.2]at b;rw[j,zT f,b,e];exact zqC Wm
end
theorem zo0 {qs:List (Int × List Int)} {m o:Int} (h:¬o=m):(qs.filter fun q=>!(q.1 == m)).find? (fun q=>q.1 == o)=qs.find? (fun q=>q.1 == o):=by
 induction qs with
 | nil=>rfl
 | cons q r c=>
  by_cases b:q.1=o
  ·have a:(!(q.1 == m))=Xc:=by simp[b,h]
   rw[List.filter_cons,kE a]
   simp[b]
  have a:(q.1 == o)=Xd:=Si b
  rw[List.find?_cons,a,List.filter_cons]
  split
  ·rw[List.find?_cons,a];exact c
  exact c
theorem zse {b:List (List Int)} {qs:List (Int × List Int)} {i:Nat} (h:zB b.length qs=0) {o:Int} (m:¬o=(i:Int)):zS (b.set i zI) (qs.filter fun q=>!(q.1 ==(i:Int))) o=zS b qs o:=by
 have d:zB (b.set i zI).length (qs.filter fun q=>!(q.1 ==(i:Int)))=0:=by
  obtain⟨e,f,g⟩:=qk h;exact Jv (Rx Xz e) (nT (Yw _ _) f) fun q n=>by
   obtain⟨p,k,l⟩:=g q ((Xy.1 n).1);exact⟨p,k,Si l⟩
 have j:zg (b.set i zI).length (qs.filter fun q=>!(q.1 ==(i:Int))) o=zg b.length qs o:=by
  unfold zg;rw[kE h,kE d,Xz]
 unfold zS;rw[j]
 by_cases a:zg b.length qs o=0
 ·rw[kE a,kE a,<-List.filter_reverse,zo0 m];have r:0<=o:=by
   unfold zg at a;rw[kE h]at a
   by_cases c:j0 o b.length=Xc
   ·simp[j0]at c
    omega
   rw[kF c]at a;cases a
  simp only[gD];rw[sN Wm]
 rw[kF a,kF a]
section
variable{m:Ma}
theorem zhi (e:zcb m (fi:Int) (ix:Int)=Xb):∀c∈m.ca,¬(c.file=(fi:Int)/\c.idx=(ix:Int)):=fun c d ⟨a,b⟩=>by
 have:=Oe.1 e c d
 simp[qa,a,b]at this
theorem zdA (h:Rt m) (f:ix<100) {c:Ca} (e:zcb m (fi:Int) (ix:Int)=Xa c):c∈m.ca/\c.file=(fi:Int)/\c.idx=(ix:Int):=by
 have a:=Xw e;obtain⟨b,d⟩:=zfL (h.cache.2.1 c a) (show 0<=(ix:Int)/\(ix:Int)<100 by omega) (Si (Yu e))
 exact⟨a,b,d⟩
theorem zfJ (h:Rt m) (k:ix<100) (c:Ca):c∈(ZT m fi ix).ca↔c∈m.ca/\¬(c.file=(fi:Int)/\c.idx=(ix:Int)):=by
 unfold ZT
 cases e:zcb m (fi:Int) (ix:Int)with
 | none=>exact⟨fun a=>⟨a,zhi e c a⟩,fun a=>a.1⟩
 | some l=>
  obtain⟨g,i,j⟩:=zdA h k e;obtain⟨q,p,d,n,_⟩:=QH h e;simp only;rw[d,tN];unfold z2;simp only[Xy];constructor
  ·rintro⟨a,f⟩;refine⟨a,fun b=>?_⟩
   have:=J5 h g a (b.1.trans i.symm) (b.2.trans j.symm);subst this
   simp[d]at f
  rintro⟨a,f⟩;refine⟨a,?_⟩;simp only[Bool.not_eq_true',decide_eq_false_iff_not];intro b;have:=zbN h g a (b.trans d.symm);subst this;exact f ⟨i,j⟩
theorem zpG (h:Rt m) (d:ix<100) (c:Ca) (b:c∈(ZT m fi ix).ca):zQ (ZT m fi ix) c.fr=zQ m c.fr:=by
 have a:=(zfJ h d c).1 b
 revert b
 unfold ZT
 cases e:zcb m (fi:Int) (ix:Int)with
 | none=>exact fun _=>rfl
 | some l=>
  obtain⟨i,j,k⟩:=zdA h d e;obtain⟨s,fr,f,p,_⟩:=QH h e;simp only;rw[f,tN];intro _;obtain⟨t,g,q,r,_⟩:=qU h a.1;unfold zQ z2;simp only[gD];rw[sN];intro n;have:=zbN h i a.1 Wm
  subst this;exact a.2 ⟨j,k⟩
theorem zpF {f:Fr} (a:f∈(ZT m fi ix).fs) (b:f.r≠0):f∈m.fs:=by
 unfold ZT at a
 cases e:zcb m (fi:Int) (ix:Int)with
 | none=>rw[e]at a;exact a
 | some c=>rw[e]at a;exact zpa a b
structure zqJ (m L:Ma) (fi:Nat) (F:Fl) (a k:Nat):Prop where
 rt:Rt L
 fl:L.fl=m.fl
 cnt:L.cnt=m.cnt
 ca:∀c,c∈L.ca↔c∈m.ca/\¬(c.file=(fi:Int)/\(a:Int)<=c.idx/\c.idx< ((a+k:Nat):Int))
 fr:∀c∈L.ca,zQ L c.fr=zQ m c.fr
 fs:∀f∈L.fs,f.r≠0->f∈m.fs
 dl:L.db.length=m.db.length
 dq:∀q∈L.dq,q∈m.dq/\∀x,a<=x->x<a+k->F.bl[x]?≠Xa q.1
 db:∀b:Nat,b<m.db.length->(L.db[b]? =m.db[b]?\/L.db[b]? =Xa zI)/\∀x,a<=x->x<a+k->F.bl[x]? =Xa (b:Int)->L.db[b]? =Xa zI
 rd:∀z:Int,(∀x,a<=x->x<a+k->F.bl[x]?≠Xa z)->zS L.db L.dq z=zS m.db m.dq z
theorem zqJ.zero (h:Rt m) (fi:Nat) (F:Fl) (a:Nat):zqJ m m fi F a 0:=
 ⟨h,rfl,rfl,fun i=>⟨fun b=>⟨b,Wm⟩,fun b=>b.1⟩,fun _ _=>rfl,fun _ e _=>e,rfl,fun q f=>⟨f,fun x c d=>Wm⟩,fun g j=>⟨.inl rfl,fun x c d=>Wm⟩,fun _ _=>rfl⟩
theorem zqJ.step {L:Ma} {a k:Nat} {F:Fl} (Y:m.fl[fi]? =Xa F) (h:zqJ m L fi F a k) (T:a+k<F.bl.length):zqJ m (zb6 L fi (a+k)) fi F a (k+1):=by
 have q:L.fl[fi]? =Xa F:=by rw[h.fl];exact Y
 obtain⟨_,_,X⟩:=jp h.rt q;have j:a+k<100:=Wm
 obtain⟨w,b⟩:∃w,F.bl[a+k]? =Xa w:=⟨_,gE T⟩;obtain⟨U,N,V,W,_⟩:=zag L fi (a+k);have c:=znh h.rt q T;have z:∀d,d∈(ZT L fi (a+k)).ca↔d∈m.ca/\¬(d.file=(fi:Int)/\(a:Int)<=d.idx/\d.idx< ((a+(k+1):Nat):Int)):=fun d=>by
  rw[zfJ h.rt j,h.ca];constructor
  ·rintro⟨⟨t,r⟩,a0⟩;exact⟨t,fun e=>by
    by_cases f:d.idx=((a+k:Nat):Int)
    ·exact a0 ⟨e.1,f⟩
    exact r ⟨e.1,e.2.1,Wm⟩⟩
  rintro⟨t,r⟩;exact⟨⟨t,fun e=>r ⟨e.1,e.2.1,Wm⟩⟩,fun e=>r ⟨e.1,Wm,Wm⟩⟩
 have A:∀d∈(ZT L fi (a+k)).ca,zQ (ZT L fi (a+k)) d.fr=zQ m d.fr:=fun d Q=>(zpG h.rt j d Q).trans (h.fr d ((zfJ h.rt j d).1 Q).1)
 have B:∀D∈(ZT L fi (a+k)).fs,D.r≠0->D∈m.fs:=fun D I S=>h.fs D (zpF I S) S
 have p:∀{x},a<=x->x<a+(k+1)->(a<=x/\x<a+k)\/x=a+k:=fun i l=>Wm
 unfold zb6 at c⊢;rw[zqm q b]at c⊢
 by_cases R:w<0
 ·rw[kE R]at c⊢;refine⟨c,U.trans h.fl,W.trans h.cnt,z,A,B,Rx N h.dl,?_,?_,?_⟩
  ·rw[V];intro v u;obtain⟨t,r⟩:=h.dq v u;refine⟨t,fun x i l e=>?_⟩
   rcases p i l with f|rfl
   ·exact r x f.1 f.2 e
   rw[b]at e;obtain⟨a2,a1,_⟩:=zfz h.rt v u;have:=Option.some.inj e;omega
  ·rw[N];intro g E;refine⟨(h.db g E).1,fun x i l e=>?_⟩
   rcases p i l with f|rfl
   ·exact(h.db g E).2 x f.1 f.2 e
   rw[b]at e;have:=Option.some.inj e;omega
  rw[N,V];exact fun H G=>h.rd H fun x i l=>G x i Wm
 rw[kF R]at c⊢;have E:=(zd4 h.rt q b).resolve_left Wm
 obtain⟨g,rfl⟩:∃g:Nat,w=(g:Int):=⟨w.toNat,Wm⟩
 have C:=QB h.rt E;have K:JB L.db L.dq (g:Int)=L.db.set g zI:=by
  unfold JB;rw[kE C,tN]
 have M:Jz L.db L.dq (g:Int)=L.dq.filter (fun v=>!(v.1 ==(g:Int))):=by
  unfold Jz;rw[kE C]
 rw[K,M]at c⊢;refine⟨c,U.trans h.fl,W.trans h.cnt,z,A,B,by simp only[Xz];exact h.dl,?_,?_,?_⟩
 ·intro v u;obtain⟨u,s⟩:=Xy.1 u;obtain⟨t,r⟩:=h.dq v u;refine⟨t,fun x i l e=>?_⟩
  rcases p i l with f|rfl
  ·exact r x f.1 f.2 e
  rw[b]at e;have:=Option.some.inj e
  simp[this]at s
 ·intro n y;have Z:=h.dl
  by_cases P:n=g
  ·subst P;have:(L.db.set n zI)[n]? =Xa zI:=sF Wm
   exact⟨.inr this,fun _ _ _ _=>this⟩
  have:(L.db.set g zI)[n]? =L.db[n]?:=sN (fun e=>P e.symm)
  rw[show(_:List (List Int))[n]? =L.db[n]? from this]
  refine⟨(h.db n y).1,fun x i l e=>?_⟩
  rcases p i l with f|rfl
  ·exact(h.db n y).2 x f.1 f.2 e
  rw[b]at e;have:=Option.some.inj e;omega
 intro H G;have s:¬H=(g:Int):=fun e=>G (a+k) Wm Wm (by rw[b,e])
 refine(zse h.rt.inv.aU s).trans (h.rd H fun x i l=>G x i Wm)
theorem zpD (h:Rt m) {a:Nat} {F:Fl} (b:m.fl[fi]? =Xa F):∀k,a+k<=F.bl.length->zqJ m (j8 m fi a k) fi F a k:=by
 intro k
 induction k with
 | zero=>exact fun _=>zqJ.zero h fi F a
 | succ k c=>exact fun d=>zqJ.step b (c Wm) Wm
end
theorem zjb {l:List Int} {n:Int} (i:Nat):(qJ l 0 n).getD i 0=if n<=(i:Int)then 0 else l.getD i 0:=by
 unfold qJ;rw[gD,gD,Yy]
 cases l[i]? with
 | none=>simp
 | some z=>by_cases h:n<=(i:Int) <;> simp[h]
theorem zdV {l:List Int} {x:Nat} {n:Int} (i:Nat):(qJ l (x:Int) n).getD i 0=if n<=((8*x+i:Nat):Int)then 0 else l.getD i 0:=by
 unfold qJ;rw[gD,gD,Yy]
 cases l[i]? with
 | none=>simp
 | some z=>
  simp only[Option.map_some,Option.getD_some];rw[show 8*(x:Int)+(i:Int)=((8*x+i:Nat):Int) by omega]
theorem zmx {l:List Int} {n:Int} (h:zbX n l=Xd) (i:Nat) (hi:n<=(i:Int)):l.getD i 0=0:=by
 unfold zbX at h;have a:qJ l 0 n=l:=Si h
 rw[<-a,zjb,kE hi]
section
variable{m:Ma}
def za9 (z x i:Nat):Prop:=z % 8≠0/\x=z / 8/\z % 8<=i
instance (z x i:Nat):Decidable (za9 z x i):=by unfold za9;infer_instance
structure ztn (m N:Ma) (fi:Nat) (F:Fl) (z:Nat):Prop where
 rt:Rt N
 fl:N.fl=m.fl
 cnt:N.cnt=m.cnt
 ca:N.ca=m.ca
 fr:∀c∈m.ca,∃p,zQ N c.fr={ zQ m c.fr with p:=p }/\∀i:Nat,(pgL p).getD i 0=if c.file=(fi:Int)/\za9 z c.idx.toNat i then 0 else(pgL (zQ m c.fr).p).getD i 0
 dl:N.db.length=m.db.length
 dq:∀q∈N.dq,q∈m.dq
 bJ:∀b:Nat,b<m.db.length->zR m.fl (b:Int)=Xd->N.db[b]? =Xa zI
 rd:∀(x:Nat) (bk:Int),F.bl[x]? =Xa bk->0<=bk->∀i:Nat,(zS N.db N.dq bk).getD i 0=if za9 z x i then 0 else(zS m.db m.dq bk).getD i 0
theorem zrN (h:Rt m) {z:Nat} (u:z % 8≠0) (t:z / 8<100) (c:Ca) (a:c∈m.ca):∃p,zQ (Qx m fi (z / 8) ((z % 8:Nat):Int)) c.fr={ zQ m c.fr with p:=p }/\∀i:Nat,(pgL p).getD i 0=if c.file=(fi:Int)/\za9 z c.idx.toNat i then 0 else(pgL (zQ m c.fr).p).getD i 0:=by
 obtain⟨n,r,s,x,y,A,B,_⟩:=qU h a;unfold Qx
 cases e:zcb m (fi:Int) ((z / 8:Nat):Int)with
 | none=>
  refine⟨(zQ m c.fr).p,rfl,fun i=>?_⟩
  rw[kF];rintro⟨b,_,d,_⟩;exact zhi e c a ⟨b,Hm ((h.cache.2.1 c a).1)⟩
 | some w=>
  obtain⟨g,j,C⟩:=zdA h t e;obtain⟨v,fr,q,f,_⟩:=QH h e;simp only;rw[q,tN,s]
  by_cases l:n=v
  ·have:=zbN h g a Wm
   subst this;subst l;rw[zT f];refine⟨zcJ (qJ (pgL fr.p) 0 ((z % 8:Nat):Int)),?_,fun i=>?_⟩
   ·unfold zQ;simp only[gD,tN];rw[sF (gS.1 f).1];rfl
   rw[zgZ (Rr zja),zjb]
   by_cases k:z % 8<=i
   ·rw[kE Wm,kE ⟨j,u,Wm,k⟩]
   rw[kF Wm,kF]
   rintro⟨_,_,_,d⟩;exact k d
  refine⟨(zQ m (n:Int)).p,?_,fun i=>?_⟩
  ·unfold zQ;simp only[gD,tN];rw[sN (fun e=>l e.symm)]
  rw[kF];rintro⟨b,_,d,_⟩;have:=J5 h g a (b.trans j.symm) (Hm ((h.cache.2.1 c a).1))
  subst this;omega
theorem ztl (h:Rt m) {z:Nat} {F:Fl} (k:m.fl[fi]? =Xa F) (H:z % 8≠0->z / 8<F.bl.length):ztn m (zfa m fi z) fi F z:=by
 have d:=zqB h k H;have r:∀f:Nat,f<m.db.length->zR m.fl (f:Int)=Xd->m.db[f]? =Xa zI:=h.inv.bJ
 by_cases n:z % 8=0
 ·have R:zfa m fi z=m:=kE n;rw[R];have K:∀x i,¬za9 z x i:=fun x i g=>g.1 n
  exact⟨h,rfl,rfl,rfl,fun v _=>⟨(zQ m v.fr).p,rfl,fun i=>by rw[kF (fun g=>K _ i g.2)]⟩,rfl,fun q j=>j,r,fun x a _ _ i=>by rw[kF (K x i)]⟩
 obtain⟨_,_,P⟩:=jp h k;have C:=H n;have u:=fun v s=>zrN h (fi:=fi) n Wm v s
 obtain⟨D,E,L,M,N,_⟩:=zbL m fi (z / 8) ((z % 8:Nat):Int);obtain⟨a,c⟩:∃a,F.bl[z / 8]? =Xa a:=⟨_,gE C⟩;obtain⟨_,_,A⟩:=(zY _ _).1 h.inv.st;unfold zfa at d⊢;rw[kF n,zqm k c]at d⊢
 by_cases y:a<0\/zcL m a ((z % 8:Nat):Int)=Xd
 ·rw[kE y]at d⊢;refine⟨d,D,M,N,u,by rw[E],fun q j=>by rw[L]at j;exact j,Rx E r,fun x f p Q i=>?_⟩
  rw[E,L]
  by_cases s:za9 z x i
  ·rw[kE s];obtain⟨_,rfl,w⟩:=s;rw[c]at p;cases p;have B:=y.resolve_left Wm
   unfold zcL at B;rw[Bool.or_eq_false_iff]at B;obtain⟨U,V⟩:=B;unfold zS;rw[kE (QB h ((zd4 h k c).resolve_left Wm))]
   have W:=(zd4 h k c).resolve_left Wm
   cases j:m.dq.reverse.find? (fun q=>q.1 == a)with
   | none=>
    have:m.db.getD a.toNat zI=m.db.getD a.toNat []:=by
     rw[gD,gD,gE (show a.toNat<m.db.length by omega)]
     rfl
    show(m.db.getD a.toNat zI).getD i 0=0
    rw[this];exact zmx U i Wm
   | some q=>
    have S:=List.mem_reverse.1 (Xw j);have p:=Yu j;have:=List.any_eq_false.1 V q S;have b:q.1=a:=Si p
    refine zmx ?_ i (show((z % 8:Nat):Int)<=(i:Int) by omega)
    simpa [b]using this
  rw[kF s]
 rw[kF y]at d⊢;have p:=(zd4 h k c).resolve_left Wm
 have e:=QB h p;have G:zB (qn m.db m.dq).length (qh m.dq a (qJ (zS m.db m.dq a) 0 ((z % 8:Nat):Int)))=0:=jx e;have t:zet m a ((z % 8:Nat):Int)=qB (fun _=>Xc) (qh m.dq a (qJ (zS m.db m.dq a) 0 ((z % 8:Nat):Int))) 0 (qn m.db m.dq):=by
  unfold zet qt qr;rw[kE e,kE e];exact kE G
 have hlen:(zet m a ((z % 8:Nat):Int)).length=m.db.length:=by rw[t,j4,jE]
 refine⟨d,D,M,N,u,hlen,fun q j=>(by cases j),fun f b T=>?_,fun x f b Q i=>?_⟩
 ·exact d.inv.bJ f (by show f< (zet m a ((z % 8:Nat):Int)).length;rw[hlen];exact b) (by show zR (Qx m fi (z / 8) ((z % 8:Nat):Int)).fl _=Xd;rw[D];exact T)
 show(zS (zet m a ((z % 8:Nat):Int)) [] f).getD i 0=_
 rw[t,zcg G]
 by_cases l:x=z / 8
 ·subst l;rw[c]at b;cases b;rw[(zaa e).2,zjb]
  by_cases w:z % 8<=i
  ·rw[kE Wm,kE ⟨n,rfl,w⟩]
  rw[kF Wm,kF (fun g=>w g.2.2)]
 rw[kF (fun g=>l g.2.1),Zn e]
 intro g;subst g;exact l (zat Wm A k b k c).2
end
section
variable{m:Ma}
theorem zq3 {F:Fl} (h:Rt m) (b:m.fl[fi]? =Xa F) (n:Nat):(jH ((min n F.size.toNat:Nat):Int)).toNat<=F.bl.length/\(min n F.size.toNat % 8≠0->min n F.size.toNat / 8<F.bl.length)/\(F.size.toNat<=n->(jH ((min n F.size.toNat:Nat):Int)).toNat=F.bl.length):=by
 obtain⟨_,d,c⟩:=jp h b;have a:=(zi0 h.w b).2;unfold jH at a⊢
 split at a <;> split <;> refine⟨?_,?_,?_⟩ <;> intros <;> omega
theorem zsj {F:Fl} (h:Rt m) {n:Nat} (b:m.fl[fi]? =Xa F) (k:n<=96):(zbS m fi n F).fl=m.fl.set fi ⟨(n:Int),jt F.bl (jH (n:Int)).toNat⟩/\(zbS m fi n F).cnt=m.cnt:=by
 show zkQ m.fl m.cnt (fi:Int) (n:Int)=_/\zoM m.fl m.cnt (fi:Int) (n:Int)=m.cnt
 have j:=(gS.1 b).1
 rcases zgG m.fl m.cnt (fi:Int) (n:Int)with e|e|e|e
 ·exact absurd h.inv.st e.1
 ·exact absurd ⟨Wm,Wm⟩ e.2.1
 ·obtain⟨_,_,_,_,_,e,_⟩:=e;exact absurd ⟨Wm,Wm⟩ e
 obtain⟨_,i,g,f,a,_,_,c,d⟩:=e;obtain rfl:fi=i:=Wm
 rw[b]at a;cases a;exact⟨c,d⟩
structure zsI (m R:Ma) (fi:Nat) (F:Fl) (n kp c0:Nat):Prop where
 rt:Rt R
 fl:R.fl=m.fl.set fi ⟨(n:Int),jt F.bl (jH (n:Int)).toNat⟩
 cnt:R.cnt=m.cnt
 ca:∀c,c∈R.ca↔c∈m.ca/\¬(c.file=(fi:Int)/\(c0:Int)<=c.idx)
 fr:∀c∈R.ca,∃p,zQ R c.fr={ zQ m c.fr with p:=p }/\∀i:Nat,(pgL p).getD i 0=if c.file=(fi:Int)/\za9 kp c.idx.toNat i then 0 else(pgL (zQ m c.fr).p).getD i 0
 dq:∀q∈R.dq,q∈m.dq/\∀x,c0<=x->F.bl[x]?≠Xa q.1
 rd:∀(x:Nat) (bk:Int),x<c0->F.bl[x]? =Xa bk->0<=bk->∀i:Nat,(zS R.db R.dq bk).getD i 0=if za9 kp x i then 0 else(zS m.db m.dq bk).getD i 0
theorem zsM {F:Fl} (l:Rt m) {n:Nat} (h:m.fl[fi]? =Xa F) (X:n<=96):zsI m (zbS m fi n F) fi F n (min n F.size.toNat) (jH ((min n F.size.toNat:Nat):Int)).toNat:=by
 obtain⟨au,ao,av⟩:=zq3 l h n;obtain⟨a6,a7⟩:=zsj l h X;have f:=ztl l h ao;have T:(zfa m fi (min n F.size.toNat)).fl[fi]? =Xa F:=by rw[f.fl];exact h
 have b:=zpD f.rt (a:=(jH ((min n F.size.toNat:Nat):Int)).toNat) T (F.bl.length -(jH ((min n F.size.toNat:Nat):Int)).toNat) Wm
 have t:zbS m fi n F={ j8 (zfa m fi (min n F.size.toNat)) fi (jH ((min n F.size.toNat:Nat):Int)).toNat (F.bl.length -(jH ((min n F.size.toNat:Nat):Int)).toNat)with fl:=(zbS m fi n F).fl,cnt:=(zbS m fi n F).cnt }:=rfl;rw[a6,a7]at t;rw[t];clear t a6 a7;have ai:(jH ((min n F.size.toNat:Nat):Int)).toNat<=(jH (n:Int)).toNat/\(n<F.size.toNat->(jH ((min n F.size.toNat:Nat):Int)).toNat=(jH (n:Int)).toNat):=by
  unfold jH
  split <;> split <;> refine⟨?_,?_⟩ <;> intros <;> omega
 obtain⟨_,af,ae⟩:=jp l h
 generalize am:min n F.size.toNat=a5 at*
 generalize aq:zfa m fi a5=a0 at*
 generalize aj:(jH (a5:Int)).toNat=q at*
 generalize ah:j8 a0 fi q (F.bl.length - q)=L at*
 have G:=(gS.1 h).1;have d:=b.rt.inv;have V:L.fl=m.fl:=b.fl.trans f.fl;have U:L.cnt=m.cnt:=b.cnt.trans f.cnt;have W:L.db.length=m.db.length:=b.dl.trans f.dl;have D:q+(F.bl.length - q)=F.bl.length:=Wm
 have i:∀c,c∈L.ca↔c∈m.ca/\¬(c.file=(fi:Int)/\(q:Int)<=c.idx):=fun c=>by
  rw[b.ca,f.ca,D];constructor
  ·rintro⟨k,p⟩;refine⟨k,fun e=>p ⟨e.1,e.2,?_⟩⟩
   have:=(q9 ((zn.1 l.inv.ca).1 c k)).1.2.2.2.1;unfold bkN at this;rw[e.1,tN,gD,h]at this;exact this
  rintro⟨k,p⟩;exact⟨k,fun e=>p ⟨e.1,e.2.1⟩⟩
 have j:∀g:Int,zR m.fl g=Xc->zR (m.fl.set fi ⟨(n:Int),jt F.bl (jH (n:Int)).toNat⟩) g=Xc\/∃x,q<=x/\F.bl[x]? =Xa g:=fun g w=>by
  obtain⟨y,S,P,s,A⟩:=qE.1 w
  by_cases e:y=fi
  ·subst e;rw[h]at s;cases s
   by_cases ar:P<q
   ·refine .inl (qE.2 ⟨y,_,P,sF G,?_⟩);unfold jt;have al:=(gS.1 A).1;rw[Xt (by rw[Xv];omega),Of,kE Wm]
    exact A
   exact .inr ⟨P,Wm,A⟩
  exact .inl (qE.2 ⟨y,S,P,by rw[sN (fun R=>e R.symm)];exact s,A⟩)
 have E:∀c∈L.ca,c.idx<bkN { L with fl:=m.fl.set fi ⟨(n:Int),jt F.bl (jH (n:Int)).toNat⟩,cnt:=m.cnt } c.file:=fun c u=>by
  obtain⟨k,p⟩:=(i c).1 u;have s:=(q9 ((zn.1 l.inv.ca).1 c k)).1;unfold bkN at s⊢
  by_cases e:c.file=(fi:Int)
  ·rw[e,tN,gD,sF G]
   show c.idx< (((jt F.bl (jH (n:Int)).toNat).length:Nat):Int)
   rw[zgE];have:¬(q:Int)<=c.idx:=fun R=>p ⟨e,R⟩
   omega
  rw[gD,sN Wm,<-gD]
  exact s.2.2.2.1
 refine⟨?_,rfl,rfl,i,fun c u=>?_,fun v H=>?_,fun x Q a4 w ag y=>?_⟩
 ·obtain⟨a9,ap,aa⟩:=zn.1 d.ca;refine Rt.of ⟨d.aY,d.bN,d.aX,d.bI,d.sq,d.aU,zkO l.inv.st h Wm Wm,by show m.cnt=_;rw[<-U];exact d.cnt,fun g w an=>?_,fun v H=>?_,d.aQ,d.bA,d.tl,zn.2 ⟨fun c u=>?_,fun v c H=>(by cases H),aa⟩,fun I a8 S Z ak n X=>d.aZ I a8 S Z ak n X,d.cf,d.cs⟩ (fun a8 Z=>b.rt.tb Z) b.rt.aB.1 b.rt.aB.2
  ·have B:g<m.db.length:=Ry W w
   have C:g<a0.db.length:=by rw[f.dl];exact B
   cases M:zR m.fl (g:Int)with
   | false=>
    rcases(b.db g C).1 with e|e
    ·exact e.trans (f.bJ g B M)
    exact e
   | true=>
    rcases j _ M with e|⟨x,z,r⟩
    ·have K:zR (m.fl.set fi ⟨(n:Int),jt F.bl (jH (n:Int)).toNat⟩) (g:Int)=Xd:=an;rw[e]at K;cases K
    exact(b.db g C).2 x z (Hm ((gS.1 r).1)) r
  ·obtain⟨k,p⟩:=b.dq v H
   rcases j _ (l.inv.bE v (f.dq v k))with e|⟨x,z,r⟩
   ·exact e
   exact absurd r (p x z (Hm ((gS.1 r).1)))
  obtain⟨N,ab,ac,ad⟩:=q9 (a9 c u);exact zd1 ⟨N.1,by show c.file< ((m.fl.set fi _).length:Int);rw[Xz,<-V];exact N.2.1,N.2.2.1,E c u,N.2.2.2.2⟩ ab ac ad
 ·obtain⟨I,z,r⟩:=f.fr c ((i c).1 u).1;exact⟨I,(b.fr c u).trans z,r⟩
 ·obtain⟨k,p⟩:=b.dq v H;exact⟨f.dq v k,fun x a4 e=>p x a4 (Hm ((gS.1 e).1)) e⟩
 have:=b.rd Q fun aw s A e=>by
  obtain⟨_,_,Y⟩:=(zY _ _).1 l.inv.st;have:=(zat Wm Y h w h e).2
  omega
 show(zS L.db L.dq Q).getD y 0=_
 rw[this];exact f.rd x Q w ag y
end
section
variable{m R:Ma} {fi n kp c0:Nat} {F:Fl}
theorem zo7 {l:List Int} {n x:Nat} (b:x<l.length) (a:x<n):(jt l n)[x]? =l[x]?:=by
 unfold jt;rw[Xt (by rw[Xv];omega),Of,kE a]
theorem zo8 {l:List Int} {n x:Nat} (b:l.length<=x) (a:x<n):(jt l n)[x]? =Xa (-1):=by
 unfold jt;rw[aR (by rw[Xv];omega),Xv,Xx,kE Wm]
structure zsN (F:Fl) (n kp c0:Nat):Prop where
 sz:0<=F.size/\F.size<=96
 mn:kp=min n F.size.toNat
 c8:c0*8<kp+8/\kp<=c0*8
 n8:(jH (n:Int)).toNat*8<n+8/\n<=(jH (n:Int)).toNat*8
 b8:(F.bl.length:Int)*8<F.size+8/\F.size<=(F.bl.length:Int)*8
theorem ztb (h:Rt m) (c:m.fl[fi]? =Xa F) (n:Nat):zsN F n (min n F.size.toNat) (jH ((min n F.size.toNat:Nat):Int)).toNat:=by
 obtain⟨_,a,_⟩:=jp h c;have b:=(zi0 h.w c).2;refine⟨a,rfl,?_,?_,?_⟩
 ·unfold jH
  split <;> omega
 ·unfold jH
  split <;> omega
 rw[b];unfold jH
 split <;> omega
theorem zdh (c:zsI m R fi F n kp c0) (b:m.fl[fi]? =Xa F):R.fl[fi]? =Xa ⟨(n:Int),jt F.bl (jH (n:Int)).toNat⟩/\qW R (fi:Int)=(n:Int):=by
 have a:=(gS.1 b).1;have e:R.fl[fi]? =Xa ⟨(n:Int),jt F.bl (jH (n:Int)).toNat⟩:=by rw[c.fl,sF a]
 refine⟨e,?_⟩;unfold qW;rw[tN,gD,e];rfl
theorem zgN (v:zsN F n kp c0) (p:zsI m R fi F n kp c0) (l:m.fl[fi]? =Xa F) (x i:Nat) (hi:i<8) (D:8*x+i<n):(z9 R (fi:Int) (x:Int)).getD i 0=if 8*x+i<kp then(z9 m (fi:Int) (x:Int)).getD i 0 else 0:=by
 obtain⟨y,z,⟨A,s⟩,⟨B,t⟩,C,u⟩:=v;obtain⟨k,w⟩:=zdh p l;have d:x< (jH (n:Int)).toNat:=Wm
 have r:∀j,zI.getD j 0=0:=fun j=>by
  rcases(show j=0\/j=1\/j=2\/j=3\/j=4\/j=5\/j=6\/j=7\/8<=j by omega)with rfl|rfl|rfl|rfl|rfl|rfl|rfl|rfl|e <;> try rfl
  rw[gD,gN (by simpa [zI]using e)]
  rfl
 by_cases q:x<F.bl.length
 ·obtain⟨b,a⟩:∃b,F.bl[x]? =Xa b:=⟨_,gE q⟩;have c:(jt F.bl (jH (n:Int)).toNat)[x]? =Xa b:=(zo7 q d).trans a;have h:x<c0:=Wm
  rw[ZU k c,ZU l a]
  by_cases f:b<0
  ·rw[kE f,kE f,r]
   split <;> rfl
  rw[kF f,kF f,zdV,zdV,kF (by show¬(n:Int)<=_;omega),p.rd x b h a Wm]
  by_cases g:za9 kp x i
  ·rw[kE g];unfold za9 at g;rw[kF Wm]
  rw[kF g];unfold za9 at g;rw[kE Wm,kF Wm]
 rw[ZU k (zo8 Wm d),kE Dc,r,kF Wm]
theorem zeK (q:zsN F n kp c0) (d:zsI m R fi F n kp c0) {c:Ca} (a:c∈R.ca) (f:c.file=(fi:Int)) {x:Nat} (r:c.idx=(x:Int)) (i:Nat) (hi:i<8):x<c0/\(pgL (zQ R c.fr).p).getD i 0=if 8*x+i<kp then(pgL (zQ m c.fr).p).getD i 0 else 0:=by
 obtain⟨t,u,⟨v,j⟩,⟨w,k⟩,y,l⟩:=q;obtain⟨z,s⟩:=(d.ca c).1 a;have b:x<c0:=by
  have:¬(c0:Int)<=c.idx:=fun e=>s ⟨f,e⟩
  omega
 obtain⟨p,g,h⟩:=d.fr c a;refine⟨b,?_⟩;rw[g]
 show(pgL p).getD i 0=_
 rw[h,r,tN]
 by_cases a:za9 kp x i
 ·rw[kE ⟨f,a⟩];unfold za9 at a;rw[kF Wm]
 rw[kF (fun e=>a e.2)]
 unfold za9 at a;rw[kE Wm]
theorem zoe (h:Rt m) {c:Ca} (e:c∈m.ca):zN m c.file c.idx=pgL (zQ m c.fr).p:=by
 obtain⟨k,fr,a,b,_,_,_,d⟩:=qU h e;rw[d,a,zT b]
theorem zmP (g:zsN F n kp c0) (t:Rt m) (d:zsI m R fi F n kp c0) (s:m.fl[fi]? =Xa F) (k:Nat) (v:k<n):zev R fi k=if k<kp then zev m fi k else 0:=by
 have e:8*(k / 8)+k % 8=k:=Wm
 unfold zev
 by_cases h:∃c∈R.ca,c.file=(fi:Int)/\c.idx=((k / 8:Nat):Int)
 ·obtain⟨c,b,j,l⟩:=h;obtain⟨_,r⟩:=zeK g d b j l (k % 8) Wm
  have p:=zoe d.rt b;have q:=zoe t ((d.ca c).1 b).1;rw[j,l]at p q;rw[p,q,r,e]
 have i:Unc R (fi:Int) ((k / 8:Nat):Int):=fun c b f=>h ⟨c,b,f⟩
 rw[zc1 i,zgN g d s (k / 8) (k % 8) Wm Wm,e]
 by_cases a:k<kp
 ·rw[kE a,kE a,zc1];intro c b f;refine h ⟨c,(d.ca c).2 ⟨b,fun u=>?_⟩,f⟩
  have:=g.c8;omega
 rw[kF a,kF a]
theorem zmQ (c:Rt m) (a:m.fl[fi]? =Xa F) (g:n<=96):jD (zbS m fi n F) (fi:Int)=(Xu n).map fun k=>if k<min n F.size.toNat then zev m fi k else 0:=by
 have b:=zsM c a g;have e:=(gS.1 (zdh b a).1).1;have d:jT (zbS m fi n F) (fi:Int)=0:=by
  unfold jT;rw[kF (by rw[b.rt.w];decide),kF Wm]
 unfold jD zcD;rw[kE d,(zdh b a).2,tN];refine Oc fun k f=>?_
 exact zmP (ztb c a n) c b a k (Yb.1 f)
theorem zkk (d:Rt m) (a:m.fl[fi]? =Xa F):jD m (fi:Int)=(Xu F.size.toNat).map (zev m fi):=by
 have c:=(gS.1 a).1;have b:jT m (fi:Int)=0:=by
  unfold jT;rw[kF (by rw[d.w];decide),kF Wm]
 have e:qW m (fi:Int)=F.size:=by unfold qW;rw[tN,gD,a];rfl
 unfold jD zcD;rw[kE b,e];rfl
theorem ztk {a b:List Int} (e:a.length=8) (f:b.length=8) (h:∀i,i<8->a.getD i 0=b.getD i 0):a=b:=by
 refine Yq (e.trans f.symm) fun i c d=>?_
 have:=h i Wm
 rwa [gD,gD,gE c,gE d]at this
theorem zq2 (y:Rt m) (h:m.fl[fi]? =Xa F) (I:n<=96) (W:∀M:Ma,M=m\/M=zbS m fi n F->∀x:Nat,(z9 M (fi:Int) (x:Int)).length=8) (hS:Syn m fi):Syn (zbS m fi n F) fi:=by
 have c:=zsM y h I;have K:=ztb y h n;obtain⟨t,Q⟩:=zdh c h;refine⟨fun D Y a4 v=>?_,fun a3 H A N u=>?_⟩
 ·obtain⟨a5,q⟩:=Ya Y;obtain⟨P,j,S,x,C,p,a⟩:=zao c.rt q (by rw[v];omega)
  have g:=mG p;have f:j.file=(fi:Int):=by rw[a.file,<-a.ff];exact v
  have k:zQ (zbS m fi n F) j.fr=D:=by rw[a.fr];exact zT q
  obtain⟨a7,R,_⟩:=c.fr j g;obtain⟨a6,e,T,E,U,G,V,_⟩:=qU y ((c.ca j).1 g).1;have d:zQ m j.fr=e:=by rw[T];exact zT E
  obtain⟨a2,B⟩:=hS.fr e (mG E) U (G.trans f);have w:D.d=e.d:=by rw[<-k,R,d]
  refine⟨w.trans a2,?_⟩;unfold FrD zfb at B⊢;rw[G,f,V,a.idx]at B;rw[v,a.fx,Q];refine ztk (W _ (.inr rfl) x) (Rr zja) fun i p=>?_
  have z:qW m (fi:Int)=F.size:=by unfold qW;rw[tN,gD,h];rfl
  rw[zdV]
  by_cases q:8*x+i<n
  ·obtain⟨a0,L⟩:=zeK K c g f a.idx i p;rw[k,d]at L;rw[zgN K c h x i p q,kF (show¬(n:Int)<=((8*x+i:Nat):Int) by omega),L]
   by_cases b:8*x+i<min n F.size.toNat
   ·rw[kE b,kE b,B,zdV,z,kF Wm]
   rw[kF b,kF b]
  rw[kE Wm]
  have l:x<C.bl.length:=a.bl;rw[show C=⟨(n:Int),jt F.bl (jH (n:Int)).toNat⟩ by
   have:=a.fl;rw[show S=fi by have:=a.file;omega,t]at this
   exact(Option.some.inj this).symm]at l
  obtain⟨r,u⟩:∃r,(jt F.bl (jH (n:Int)).toNat)[x]? =Xa r:=⟨_,gE l⟩;rw[ZU t u]
  split
  ·rcases(show i=0\/i=1\/i=2\/i=3\/i=4\/i=5\/i=6\/i=7 by omega)with rfl|rfl|rfl|rfl|rfl|rfl|rfl|rfl <;> rfl
  rw[zdV,kE (by show(n:Int)<=_;omega)]
 rw[t]at H;cases H;obtain⟨a1,a8⟩:=c.dq A N;obtain⟨P,Z⟩:=Ya u;obtain⟨_,u2,u3⟩:=zgF Z;obtain⟨r,X,_⟩:=zfz c.rt A N
 rcases Yr P F.bl.length with s|s
 ·exact hS.qu F h A a1 (mG (u2 s))
 have:=u3 s;omega
end
def QE (fi:Nat):Nat->Ma->Nat->List Int->Bool × Ma
 | 0,m,_,_=>(Xc,m)
 | g+1,m,t,ns=>
  if ns.length=0 then(Xc,m)
  else
   let r:=zgT m fi (t / 8) (t % 8) (ns.take (min (8 - t % 8) ns.length))
   if r.1=Xc then QE fi g r.2 (t+min (8 - t % 8) ns.length) (ns.drop (min (8 - t % 8) ns.length))else r
theorem zjJ (fi g t:Nat) (m:Ma):QE fi g m t []=(Xc,m):=by
 cases g with
 | zero=>rfl
 | succ g=>rfl
theorem zgP {t n:Nat} {ns:List Int} (h:QE fi (g+1) m t ns=(Xc,M)) (c:0<ns.length) (b:min (8 - t % 8) ns.length=n):(zgT m fi (t / 8) (t % 8) (ns.take n)).1=Xc/\QE fi g (zgT m fi (t / 8) (t % 8) (ns.take n)).2 (t+n) (ns.drop n)=(Xc,M):=by
 unfold QE at h;rw[kF Wm,b]at h
 simp only at h
 by_cases a:(zgT m fi (t / 8) (t % 8) (ns.take n)).1=Xc
 ·rw[kE a]at h;exact⟨a,h⟩
 rw[kF a]at h;rw[h]at a;exact absurd rfl a
theorem zpk {i:Nat} {ns:List Int} (h:zgg m m' fi ix i ns) {F:Fl} (d:m.fl[fi]? =Xa F):∃a,m'.fl[fi]? =Xa a/\a.size=F.size/\a.bl.length=F.bl.length:=by
 have g:=(gS.1 d).1;have f:fi<m'.fl.length:=by rw[h.fll];exact g
 have e:=gE f;have b:=h.sz (fi:Int);have c:=h.bk (fi:Int);unfold qW at b;unfold bkN at c;simp only[gD,tN,d,e,Option.getD_some]at b c;exact⟨_,e,b,Wm⟩
theorem zgQ {t n:Nat} {ns:List Int} (c:0<ns.length) (b:min (8 - t % 8) ns.length=n) (a:(zgT m fi (t / 8) (t % 8) (ns.take n)).1=Xc):QE fi (g+1) m t ns=QE fi g (zgT m fi (t / 8) (t % 8) (ns.take n)).2 (t+n) (ns.drop n):=by
 conv=>lhs;unfold QE
 rw[kF Wm,b]
 simp only;rw[kE a]
theorem zpj {c:List Int} (p:Nat):∀(m:Ma) (s:Nat) (a:List Int),a.length=8*p->QE fi p m (8*s) a=(Xc,M)->QE fi (p+g) m (8*s) (a++c)=QE fi g M (8*(s+p)) c:=by
 induction p with
 | zero=>
  intro m s a i h;have:a=[]:=eN Wm
  subst this;cases h;rw[zA];rfl
 | succ p j=>
  intro m s a i h;have k:(8*s) % 8=0:=Wm
  obtain⟨e,b⟩:=zgP (n:=8) h Wm Wm
  have d:(a++c).take 8=a.take 8:=by rw[List.take_append_of_le_length Wm]
  have f:(a++c).drop 8=a.drop 8++c:=by rw[List.drop_append_of_le_length Wm]
  rw[show p+1+g=p+g+1 by omega,zgQ (n:=8) (by rw[lA];omega) (by rw[lA];omega) (Rx d e),d,f,show 8*s+8=8*(s+1) by omega]
  rw[show 8*s+8=8*(s+1) by omega]at b
  rw[j _ (s+1) (a.drop 8) (by rw[Yf];omega) b,show s+1+p=s+(p+1) by omega]
theorem znW {p n k:Nat} {s:Sp} {fr:Fr} (i:Rt m) (e:m.sp[p]? =Xa s) (l:n<64) (a:m.fs[k]? =Xa fr) (q:fr.r=0):(Jp m p n).fs[k]? =Xa fr:=by
 have j:m.sp.getD p ⟨Xd,[],[]⟩=s:=by rw[gD,e];rfl
 unfold Jp;simp only[j]
 by_cases b:(zh s n).kind=1
 ·rw[kE b];obtain⟨u,t,g,c,r,h⟩:=i.aV e l b
  show(m.fs.set _ _)[k]? =_
  rw[g,tN,sN,a];intro f;subst f;rw[a]at c;cases c;exact h q
 rw[kF b]
 by_cases d:(zh s n).kind=2
 ·rw[kE d];exact a
 rw[kF d];exact a
theorem zcx:∀(l:List (Nat × Nat)) {m:Ma} {k:Nat} {fr:Fr},Rt m->(∀x∈l,x.2<64/\∃s,m.sp[x.1]? =Xa s)->m.fs[k]? =Xa fr->fr.r=0->(zi m l).fs[k]? =Xa fr
 | [],_,_,_,_,_,a,_=>a
 | x :: l,m,k,fr,h,c,a,e=>by
  obtain⟨d,s,f⟩:=c x (Yn ..);obtain⟨b,_⟩:=zhG h f d;refine zcx l b.rt (fun y j=>?_) (znW h f d a e) e
  obtain⟨g,t,i⟩:=c y (Yz _ j);exact⟨g,_,gE (by rw[b.aW.aQ];exact(gS.1 i).1)⟩
theorem zcz {k:Nat} {fr:Fr} (l:List (Nat × Nat)) (h:Rt m) (d:∀x∈l,x.2<64/\∃s,m.sp[x.1]? =Xa s) (c:m.fs[k]? =Xa fr) (a:fr.r=0):jo (zi m l).fs≠0:=by
 have b:=mG (zcx l h d c a);have e:0<jo (zi m l).fs:=List.countP_pos_iff.2 ⟨fr,b,Si a⟩
 omega
def bkC (l:List Int):Nat:=l.countP fun b=>decide (0<=b)
def zr6:List Fl->Nat
 | []=>0
 | f :: l=>bkC f.bl+zr6 l
theorem zri {fs:List Fl} {m:Nat} (h:Zp fs (m:Int)=[]):∀j,j<m->zR fs (j:Int)=Xc:=fun j a=>by
 unfold Zp at h;have:=List.filter_eq_nil_iff.1 h j (Yb.2 Wm)
 simpa using this
theorem zqn {l:List Int} (h:∀b∈l,b=-1\/0<=b):bkC l=(ZJ l).length:=by
 unfold bkC ZJ;rw[List.countP_eq_length_filter]
 congr 1
 refine List.filter_congr fun b a=>?_
 have:=h b a
 by_cases e:0<=b
 ·simp[e];omega
 simp[e];omega
theorem zgw:∀{fs:List Fl},(∀f∈fs,∀b∈f.bl,b=-1\/0<=b)->zr6 fs=(ZJ (Jd fs)).length
 | [],_=>rfl
 | f :: l,h=>by
  have a:=zgw (fs:=l) fun g e=>h g (Yz _ e)
  have c:=zqn (h f (Yn ..));have d:ZJ (Jd (f :: l))=ZJ f.bl++ZJ (Jd l):=by
   unfold ZJ Jd;rw[List.flatMap_cons,List.filter_append]
  rw[d,lA,zr6,a,c]
theorem zpR {fs:List Fl} {a:Int} (q:stW fs a=0) (s:Zp fs a=[]):a -(zr6 fs:Int)=0:=by
 obtain⟨⟨_,v,w⟩,k,l⟩:=(zY _ _).1 q;obtain⟨n,rfl⟩:∃n:Nat,a=(n:Int):=⟨a.toNat,Wm⟩
 have t:=zri s;rw[zgw (fun f g j e=>Hm ((k f g).2.2 j e))]
 have m:(ZJ (Jd fs)).length<=((Xu n).map fun(i:Nat)=>(i:Int)).length:=l.length_le_of_subset (fun x h=>by
  obtain⟨b,c⟩:=Xy.1 h;obtain⟨f,g,e⟩:=List.mem_flatMap.1 b;have:=(k f g).2.2 x e;have z:x≠-1:=Si c
  exact List.mem_map.2 ⟨x.toNat,Yb.2 Wm,Wm⟩)
 have p:((Xu n).map fun(i:Nat)=>(i:Int)).length<=(ZJ (Jd fs)).length:=List.Nodup.length_le_of_subset (List.Pairwise.map _ (fun u j d y=>d Wm) List.nodup_range) (fun x h=>by
  obtain⟨i,r,rfl⟩:=List.mem_map.1 h;have:=t i (Yb.1 r);obtain⟨B,f,A,b,c⟩:=qE.1 this;exact QD (zd7 b c) Wm)
 simp only[Yj,Yc]at m p;omega
theorem zon (h:Rt m) {c:Ca} {k:Nat} {f:Fr} {F:Fl} (hi:zoS m c k fi ix f F) (i:m.cnt -(zr6 m.fl:Int)≠0):Zh m.fl m.cnt f.f f.x=0:=by
 have a:=h.inv.st
 cases b:Zp m.fl m.cnt with
 | nil=>exact absurd (zpR a b) i
 | cons j l=>
  have g:=(gS.1 hi.fl).1;have e:=hi.bl;have d:zlY m.fl (fi:Int)=F.bl:=by unfold zlY;rw[tN,hi.fl]
  unfold Zh;rw[kE a,hi.ff,hi.fx,kE (Qv.2 ⟨Wm,Wm⟩),d,kE (Qv.2 ⟨Wm,Wm⟩),b]
  split
  ·rfl
  rfl
def ct1:Ma:={ ZC 4 2 8 with fl:=[⟨0,[]⟩] }
def ctR (N:Nat):Ma:=zbS ct1 0 N ⟨0,[]⟩
def ctW (N:Nat) (b:Int):Bool × Ma:=QE 0 (N+5) (ctR N) 0 (Xr N b)
def ctF (N:Nat) (b:Int):Bool × Ma:=QE 0 4 (ctR N) 0 (Xr 32 b)
def ctE (N:Nat) (b:Int):Ma:=z2 (wrM (jK (ctF N b).2) [b,b,b,b,b,b,b,b] 0 0) 0
def ctX (N:Nat) (b:Int):Ma:=znq (J6 (ctE N b) 0 ⟨0,0,0,0,0,0,0,0⟩ Xc Xd 0 4) 0 0 (Xr (N - 32) b)
def ctB (m:Ma):Bool:=m.fs.all fun f=>if f.f=-1 then !f.d else f.d || decide (f.r=0)
def CtM (b:Int) (N:Nat) (m:Ma):Prop:=(maW m,jD m 0,m.fs.map (fun f=>qJ (pgL f.p) f.x (qW m f.f)),ctB m,m.cnt,m.fl.length,decide (bkN m 0<=5),m.sp)=(0,Xr N b,m.fs.map (fun f=>pgL f.p),Xc,8,1,Xc,[⟨Xc,[],Qt⟩])
theorem zsy (b:Int):∀n,n<32->(ctW (n+1) b).1=Xc/\CtM b (n+1) (ctW (n+1) b).2:=by
 intro n a;iterate 32 (rcases n with _ | n;· exact⟨Kr,by unfold CtM;kernel_rfl⟩)
 omega
theorem zjc (b:Int):∀n,n<8->((ctF (n+33) b).1=Xc/\(JM (ctF (n+33) b).2.fs (ctF (n+33) b).2.aB,(jK (ctF (n+33) b).2).fs[0]?,qJ [b,b,b,b,b,b,b,b] 0 (qW (jK (ctF (n+33) b).2) 0),jo (ctF (n+33) b).2.fs,zcb (ctF (n+33) b).2 0 4,z9 (ctF (n+33) b).2 0 4,Zh (jK (ctF (n+33) b).2).fl (jK (ctF (n+33) b).2).cnt 0 0,(ctF (n+33) b).2.fs.length,Zk (ctE (n+33) b).fs)=(0,Xa ⟨⟨b,b,b,b,b,b,b,b⟩,1,Xd,Xc,0,0⟩,[b,b,b,b,b,b,b,b],0,Xb,zI,0,4,0))/\CtM b (n+33) (ctX (n+33) b):=by
 intro n a;iterate 8 (rcases n with _ | n;· exact⟨⟨Kr,Kr⟩,by unfold CtM;kernel_rfl⟩)
 omega
theorem zrP {n:Nat} {b:Int} (k:n<8):z8 (ctF (n+33) b).2 []=(Xc,ctE (n+33) b):=by
 obtain⟨⟨_,h⟩,_⟩:=zjc b n k;simp only[pJ]at h;obtain⟨c,d,f,g,m,p,i,j,q⟩:=h;unfold z8;rw[kE g];unfold Qf;have l:jw (jK (ctF (n+33) b).2) 0 ⟨⟨b,b,b,b,b,b,b,b⟩,1,Xd,Xc,0,0⟩ []=(Xc,ctE (n+33) b):=by
  unfold jw;rw[kF (by show¬(0:Int)=-1;omega)]
  unfold zdS zfb;have a:qJ (pgL ⟨b,b,b,b,b,b,b,b⟩) 0 (qW (jK (ctF (n+33) b).2) 0)=[b,b,b,b,b,b,b,b]:=f;rw[kF (fun e=>e.1 a),kE (.inl rfl),kE i,a]
  rfl
 rw[j,show 2*4=7+1 from rfl,zdI 7 _ [] c d,l]
 rfl
theorem zsx {n:Nat} {b:Int} (d:n<8):zgT (ctF (n+33) b).2 0 4 0 (Xr (n+33 - 32) b)=(Xc,ctX (n+33) b):=by
 have k:=zrP (b:=b) d;obtain⟨⟨_,h⟩,_⟩:=zjc b n d;simp only[pJ]at h;obtain⟨l,p,q,r,e,f,s,t,g⟩:=h;have i:∀m:Ma,zi m []=m:=fun _=>rfl
 have j:jq (ctF (n+33) b).2 (zcJ (z9 (ctF (n+33) b).2 ((0:Nat):Int) ((4:Nat):Int))) ((0:Nat):Int) ((4:Nat):Int) []=(Xc,0,J6 (ctE (n+33) b) 0 ⟨0,0,0,0,0,0,0,0⟩ Xc Xd 0 4):=by
  have c:z9 (ctF (n+33) b).2 ((0:Nat):Int) ((4:Nat):Int)=zI:=f;unfold jq;rw[i,k,kE rfl,g,c];rfl
 have a:zcb (ctF (n+33) b).2 ((0:Nat):Int) ((4:Nat):Int)=Xb:=e;unfold zgT;rw[a];simp only;rw[j,kE rfl];rfl
theorem zsz {N:Nat} (b:Int) (j:1<=N/\N<=40):∃M,QE 0 (N+5) (ctR N) 0 (Xr N b)=(Xc,M)/\CtM b N M:=by
 by_cases g:N<=32
 ·obtain⟨a,rfl⟩:∃a,N=a+1:=⟨N - 1,Wm⟩
  obtain⟨c,d⟩:=zsy b a Wm
  exact⟨_,by rw[<-c];rfl,d⟩
 obtain⟨a,rfl⟩:∃a,N=a+33:=⟨N - 33,Wm⟩
 obtain⟨⟨c,_⟩,d⟩:=zjc b a Wm
 refine⟨_,?_,d⟩;have f:Xr (a+33) b=Xr 32 b++Xr (a+33 - 32) b:=by rw[List.replicate_append_replicate];congr 1;omega
 have h:QE 0 4 (ctR (a+33)) (8*0) (Xr 32 b)=(Xc,(ctF (a+33) b).2):=by
  rw[<-c];rfl
 rw[f,show a+33+5=4+(a+33+1) by omega]
 refine(zpj 4 _ 0 _ (by rw[lR]) h).trans ?_
 have i:(Xr (a+33 - 32) b).take (a+33 - 32)=Xr (a+33 - 32) b:=by rw[Yk,Nat.min_self]
 have e:zgT (ctF (a+33) b).2 0 (8*(0+4) / 8) (8*(0+4) % 8) ((Xr (a+33 - 32) b).take (a+33 - 32))=(Xc,ctX (a+33) b):=by
  rw[i];exact zsx Wm
 rw[zgQ (n:=a+33 - 32) (by rw[lR];omega) (by rw[lR];omega) (by rw[e]),e,Yd (by rw[lR];omega),zjJ]
theorem ChW.more {u w:Xn} {p:Nat} (h:ChW w0 noX p u V m) (g:zc u w):ChW w0 (fun k=>u.heap.size<=k/\k<w.heap.size) p w V m:=by
 obtain⟨v,q,r,t⟩:=h.sp;have b:∀{W:Xn},zk (Dr w0.heap.size (fun k=>u.heap.size<=k/\k<w.heap.size) p V) w W->zk (Dr w0.heap.size noX p V) u W:=fun a=>
  ⟨a.os.trans (Below.os g),a.tape.trans (Below.tape g),a.output.trans (Below.output g),nT (bS g) a.size,fun c d f=>(a.block c (Xs d (bS g)) (fun e=>by
   rcases e with(e|e) | e
   ·exact f (.inl (.inl e))
   ·omega
   exact f (.inr e))).trans (Below.block g c d)⟩
 exact⟨⟨h.gr.trans g,fun k i=>i.2⟩,h.lo,h.box.aA g,h.fs.aA g,h.ca.aA g,⟨v,q.aA g,r,fun n x s l j W a=>t n x s l j W (b a)⟩,fun W a=>h.rest W (b a)⟩
theorem ChW.afar {w:Xn} {X D:Nat->Prop} {p:Nat} (h:ChW w0 X p w V m) (i:∀k,D k->k<w0.heap.size\/X k) (j:∀k,D k->¬Dw p V k) (c:zk D w W):zw W V m:=by
 have f:zk (Dr w0.heap.size X p V) w W:=c.wide fun k b=> .inl (i k b)
 have r:=h.rest W f;obtain⟨A,v,x,y⟩:=h.sp;have own:∀{g:Type} {E:Elt g} {a:Sli} {l:List g},zb E w0.heap.size w (a.x) l->(∀k,oB a k->Dw p V k)->zj E W (a.x) l:=fun d b=>zb.at ⟨jm d.1 c (fun k n e=>j k e (b k n)),d.2⟩
 exact⟨own h.fs (fun k e=> .inr (.inl e)),r.sl,r.sb,r.sq,r.db,r.dq,r.fl,own h.ca (fun k e=> .inr (.inr (.inl e))),⟨A,own v (fun k e=> .inr (.inr (.inr e))),x,fun t z u s q=>y t z u s q W f⟩⟩
theorem zfn (p d c:Nat) (file x i:Int) (v:Xq) (w:Xn) (cs:List Xq) (J:Int->Xn->Prop) (hp:zl w d 85 [Xj (Xa ⟨p,0,Xb⟩)]) (g:zl w c 25 cs) (b:cs[4]? =Xa (I6 file))
  (f:Xp prog 93 #[Xj (Xa ⟨p,0,Xb⟩),I6 file,I6 x,I6 i,v] w fun e w'=>∃a:Int,e= Xl (I6 a)/\J a w'):
  Xp prog 92 #[I6 x,I6 i,v,Xj (Xa ⟨d,0,Xb⟩),Xj (Xa ⟨c,0,Xb⟩)] w fun e w'=>∃a:Int,e= Xl (I6 a)/\J a w':=by
 have l:=hp.box.c 0 rfl;have m:=g.box.c 4 b;clear hp g b
 go_enter func92,ntmps92
 go_wp2_with fail;refine f.mono ?_;clear f l m;rintro e k ⟨a,rfl,h⟩;have j:Xo (J a k):=h;clear h;go_wp2;go_ret;exact⟨a,rfl,j⟩
def D8 (m:Ma):Prop:=(∀p∈m.db,p.length=8)/\∀q∈m.dq,q.2.length=8
def zh3 (m:Ma) (fi z:Nat) (F:Fl) (er n:Int) (l:List Int) (m':Ma):Prop:=er=0/\n=0/\l=[]/\m'=zbS m fi z F/\D8 m/\D8 m'
theorem ziL {u w:Xn} {p:Nat} (h:ChW w0 noX p u V m) (A:zc u w) (U:Rt m) (c:Cl) (fi z:Nat) (F:Fl) (W:c.file=(fi:Int)) (T:m.fl[fi]? =Xa F) (Y:c.n=(z:Int)) (X:z<=96):
  Xp prog 46 #[Xj (Xa ⟨p,0,Xb⟩),Xi #[I6 c.kind,I6 c.aC,I6 c.pt,I6 c.n,I6 c.file,I6 c.base,Xh c.rd,Xh c.wr,Xh c.sh,c.dv.x]] w fun e w'=>ZQ (zh3 m fi z F) w0 p u w e w':=by
 have q:Xo (ChW w0 noX p u V m):=h;have E:Xo (D8 m):=⟨h.at.db.2.1,h.at.dq.2.1⟩;have a4:Xo (zc u w):=A;obtain⟨d,l⟩:=kA w.heap.size;obtain⟨a,b⟩:=kB ((w.alloc (Xk #[I6 c.kind,I6 c.aC,I6 c.pt,I6 c.n,I6 c.file,I6 c.base,Xh c.rd,Xh c.wr,Xh c.sh,c.dv.x] 25)).alloc (Xk #[I6 0,I6 0,eS] 54));have y:=gD2 b
 have Q:Xo (zl a d 25 [I6 c.kind,I6 c.aC,I6 c.pt,I6 c.n,I6 c.file,I6 c.base,Xh c.rd,Xh c.wr,Xh c.sh,c.dv.x]):=dD<|by rw[<-b];exact(zl.aE w [I6 c.kind,I6 c.aC,I6 c.pt,I6 c.n,I6 c.file,I6 c.base,Xh c.rd,Xh c.wr,Xh c.sh,c.dv.x] _ l.symm).aA (za _ _)
 have A1:Xo (zl a (d+1) 54 [I6 0,I6 0,eS]):=dD<|by rw[<-b];exact zl.aE _ [I6 0,I6 0,eS] _ (by have:=l.out;simp;omega)
 have C:Xo (d+1<a.heap.size):=A1.box.lt;have B:Xo (zc u a):=show zc _ _ from A.trans y.out
 have a6:Xo (ChW w0 (fun k=>u.heap.size<=k/\k<a.heap.size) p a V m):=h.more B.out
 have s:Xo (p<u.heap.size):=h.aM p (.inl rfl);have g:Xo (u.heap.size<=d):=show _<=_ by rw[<-l.out];exact bS A
 have a5:Xo (w0.heap.size<=d):=dD<|by have:=h.lo;have:=s.out;have:=g.out;omega
 have H:Xo (_=a):=b;have I:=Q.box.c 3 rfl;have a0:=Q.box.c 4 rfl;rw[Y]at I;rw[W]at a0;have i:=ZW (z:Int) 97 a;rw[decide_eq_true (show 0<=(z:Int) by omega),decide_eq_true (show(z:Int)<97 by omega)]at i
 have j:=zcA a6 U fi z F T X;obtain⟨N,r⟩:=kA (zbS m fi z F);rw[r.out]at j;clear b h A X T W Y U
 go_enter func46,ntmps46
 go_upto_region 1 with fail;rw[H.out,l.out];go_wp2_with fail;refine i.mono ?_;clear i;rintro e af ⟨rfl,x⟩;rw[x];clear x;go_wp2_with fail;refine j.mono ?_;clear j I a0;rintro e L ⟨⟨aj,rfl⟩,a8⟩;obtain⟨K,Z,M,S⟩:=a8;have t:Xo (ChW w0 (fun k=>u.heap.size<=k/\k<a.heap.size) p L K N):=Z
 have a7:Xo (zk (Dw p V) a L):=M;have a3:Xo (∀k,Dw p K k->Dw p V k\/a.heap.size<=k):=S;have G:Xo (∀k,d<=k->¬Dw p V k):=show∀k,_ from fun k f e=>by have:=q.aM k e;have:=g.out;omega
 have a1:Xo (zl L (d+1) 54 [I6 0,I6 0,eS]):=dD<|A1.aK M (G _ Wm)
 clear Z M S
 go_wp2_with (refine zm rfl 54 (.tmp 4) (.tmp 16) rfl (d+1) rfl [I6 0,I6 0,eS] rfl a1 rfl Kr (by simp[Value.oneCell']) ?_)
 intro P R v _;have a2:Xo (zl P (d+1) 54 [I6 0,I6 0,eS]):=R;have n:Xo (ZQ (zh3 m fi z F) w0 p u w (Xl (Ju 0 0 noS)) P):=show ZQ _ _ _ _ _ _ _ from by
  have aa:=C.out;have ad:=g.out;have ai:=a5.out;have ac:=s.out;have ab:=bS y.out;refine⟨0,0,noS,[],K,N,rfl,⟨rfl,rfl,rfl,r.symm,E,t.at.db.2.1,t.at.dq.2.1⟩,((zk.aA y).trans (a7.wide fun k f=>⟨q.dlo k f,q.aM k f⟩)).beyond v (Hm l.out),zd t.gr v Wm,fun _ _=>zj.nil _ _,fun _=>⟨t.box.beside v (fun k e=>by cases e;omega),fun ae a9=>?_⟩⟩
  refine t.afar (D:=fun k=>k<w0.heap.size\/(u.heap.size<=k/\k<a.heap.size)) (fun k f=>f) (fun k f e=>?_) ((zk.grown v (.inr ⟨Wm,Wm⟩)).trans (a9.wide fun k f=>f.imp id fun h=>⟨h.1,Xs h.2 (bS y)⟩))
  rcases a3 k e with e|e
  ·have ag:=q.dlo k e;have ah:=q.aM k e;omega
  omega
 clear R v;go_wp2;refine bodyPost_ret (zE rfl _ rfl a2.box underlying54 rfl Kr) rfl n.out
theorem zcq (w:Xn) (m:Ma) (b:Rt m) (c:Cl) (fi z:Nat) (F:Fl) (i:c.kind=11) (f:c.file=(fi:Int)) (a:m.fl[fi]? =Xa F) (l:c.n=(z:Int)) (j:z<=96):J8 w m c (zh3 m fi z F):=by
 intro s W r n v q h k;obtain⟨g,rfl,e⟩:=k.2.2.2.2.2.2.2.2.2.2.1 i;exact⟨88,#[Xj (Xa ⟨g,0,Xb⟩)],rfl,zar,zbr h c (Hm ((gS.1 a).1)) g 46 _ (enters_of func46 Kr rfl) e fun p d=>ziL h d b c fi z F f a l j⟩
section
variable{α:Type} {E:Elt α} {w:Xn} {a:Option Addr} {n c k:Nat} {l:List α}
theorem zj.takeE (h:zj E w (O a n c) l) (q:k<=n):zj E w (O a k c) (l.take k):=by
 have r:=h.n;obtain⟨⟨s,t,g,i,m⟩,p⟩:=h;cases g;refine⟨⟨a,c,by rw[Xv,Yv Wm],fun e=>by rw[i e];simp,fun d e=>?_⟩,?_⟩
 ·intro j u b;refine m d e j u ?_;have f:l.flatMap E.enc=(l.take k).flatMap E.enc++(l.drop k).flatMap E.enc:=by rw[<-Od,Yx]
  rw[f,Xt (gS.1 b).1];exact b
 refine nT (Yh _ ?_) p;rw[Xv];omega
theorem zj.dropE (h:zj E w (O a n c) l) (v:k<=n) (t:n<=c):zj E w (O (a.map fun b=>if c=k then b else b.add (k*E.k)) (n - k) (c - k)) (l.drop k):=by
 have x:=h.n;obtain⟨⟨y,z,p,q,r⟩,s⟩:=h;cases p;refine⟨⟨_,_,by rw[Yf],fun e=>?_,fun b e=>?_⟩,?_⟩
 ·cases a with
  | none=>rw[q rfl];simp
  | some b=>cases e
 ·cases a with
  | none=>cases e
  | some d=>
   simp only[Option.map_some,Option.some.injEq]at e;intro j u g
   by_cases f:c=k
   ·have:l.drop k=[]:=Yd Wm
    rw[this]at g;cases g
   rw[kF f]at e;subst e;rw[qO];refine r d rfl _ u ?_;have m:l.flatMap E.enc=(l.take k).flatMap E.enc++(l.drop k).flatMap E.enc:=by rw[<-Od,Yx]
   have i:((l.take k).flatMap E.enc).length=k*E.k:=by rw[qC,Xv,Yv Wm]
   rw[m,aR (by rw[i];omega),i,show k*E.k+j - k*E.k=j by omega]
   exact g
 refine nT (Yh _ ?_) s;rw[Yf];omega
end
theorem zhF (F:Nat) (caps:Array Xq) (eg:Enters prog F) (at0 N cap:Nat) (ad:Option Addr) (ns:List Int) (ht:at0+N<9000) (w0 w:Xn) (hv:zj byE w0 (O ad N cap) ns) (hcap:N<=cap) (J:Nat->Xn->Prop) (R:Int->Xn->Prop) (hJ:∀k W W',J k W->zc W W'->J k W') (h0:J 0 w)
  (hF:∀(k:Nat) (a:Addr) (c n:Nat) (W:Xn),k<N->n=min (8 -(at0+k) % 8) (N - k)->n<=c->zj byE w0 (O (Xa a) n c) ((ns.drop k).take n)->J k W->Xp prog F (#[I6 (((at0+k) / 8:Nat):Int),I6 (((at0+k) % 8:Nat):Int),O (Xa a) n c]++caps) W fun e w'=>∃er:Int,e= Xl (I6 er)/\(er=0->J (k+n) w')/\(er≠0->R er w')):
  Xp prog 91 #[I6 (at0:Int),O ad N cap,.func (.func F) #[] caps] w fun e w'=>∃er:Int,e= Xl (I6 er)/\(er=0->J N w')/\(er≠0->R er w'):=by
 have EG:Xo (∀(args:Array Xq) (w:Xn),(callFunc F args).run prog w= .ok (.enter F args) w):=eg;have HF:Xo (∀(k:Nat) (a:Addr) (c n:Nat) (W:Xn),k<N->n=min (8 -(at0+k) % 8) (N - k)->n<=c->zj byE w0 (O (Xa a) n c) ((ns.drop k).take n)->J k W->Xp prog F (#[I6 (((at0+k) / 8:Nat):Int),I6 (((at0+k) % 8:Nat):Int),O (Xa a) n c]++caps) W fun e w'=>∃er:Int,e= Xl (I6 er)/\(er=0->J (k+n) w')/\(er≠0->R er w')):=hF
 have HJ:Xo (∀k W W',J k W->zc W W'->J k W'):=hJ;have HV:Xo (zj byE w0 (O ad N cap) ns/\N<=cap):=⟨hv,hcap⟩;have HJ0:Xo (J 0 w):=h0;have HT:Xo (at0+N<9000):=ht;clear eg hF hJ hv hcap h0 ht
 go_enter func91,ntmps91
 go_wp2
 go_loopg [0,1] N (fun gg s0 s1 wr=>∃(k t r c':Nat) (a':Option Addr),k<=N/\N - k<=gg/\at0+k=t/\N - k=r/\s0=I6 (t:Int)/\s1= O a' r c'/\r<=c'/\Xo (zj byE w0 (O a' r c') (ns.drop k))/\Xo (J k wr))
 exact⟨0,at0,N,cap,ad,nZ _,Wm,rfl,rfl,rfl,rfl,HV.2,Rx Oa HV.1,HJ0⟩
 obtain⟨k,t,r,c',a',hk,hgg,h1,h2,rfl,rfl,h3,VK,JK⟩:=hrel;have HK:Xo (k<=N/\at0+k=t/\N - k=r/\r<=c'):=⟨hk,h1,h2,h3⟩;have ht9:t<9000:=Hm HT.out
 by_cases hlt:0<r
 ·obtain⟨aa,rfl⟩:∃aa,a'=Xa aa:=by
   obtain⟨x,_,hx,hq⟩:=VK.rows;have hl:=VK.n;cases hx;obtain⟨ad',e,_⟩:=hq 0 _ (gE Wm)
   exact⟨ad',e⟩
  have hl:=kC hlt
  obtain⟨n,HN⟩:=kA (min (8 - t % 8) r);obtain⟨ix,HIX⟩:=kA (t / 8);obtain⟨i,HI⟩:=kA (t % 8);rw[HI.out]at HN;have hi8:i<8:=Hm HI.out
  have q1:(t:Int).tdiv 8=(ix:Int):=by have:=HIX.out;rw[Int.tdiv_eq_ediv_of_nonneg Wm];omega
  have q2:(t:Int).tmod 8=(i:Int):=by have:=HI.out;rw[Int.tmod_eq_emod_of_nonneg Wm];omega
  have q3:min (8 -(i:Int)) (r:Int)=(n:Int):=Hm HN.out
  have hx0:wrap64 (ix:Int)=(ix:Int):=by have:=HIX.out;unfold wrap64;omega
  have hnr:n<=r/\0<n:=Hm HN.out
  have HNR:Xo (n<=r/\0<n/\n<=c'):=⟨hnr.1,hnr.2,Wm⟩
  have hnz:(n:Int)<=(r:Int):=Wm
  have hf:=HF.out k aa c' n _ Wm (by rw[h1,h2,HI.out];exact HN.symm) Wm (VK.takeE hnr.1) JK.out
  rw[h1,HIX.out,HI.out]at hf;have hnc:(n:Int)<=(c':Int):=Hm HNR.out
  have HGG:Xo (N - k<=gk):=hgg;clear hk h1 h2 h3 hgg hnr;go_upto_region 4 with fail;clear q1 q2 q3;go_wp2_with fail;rw[EG.out];refine hf.mono ?_;clear hf;rintro e W3 ⟨er,rfl,j3,r3⟩
  by_cases he:er=0
  ·subst he;have J3:Xo (J (k+n) W3):=j3 rfl;clear j3 r3;go_upto_region 7 with fail;go_quiet (fail);have J4:Xo (J (k+n) (W3.drewN nq)):=show J _ _ from HJ.out _ _ _ J3 (show Below _ _ _ from bD (bR _ _) _)
   have V4:Xo (zj byE w0 (O (if c'=n then Xa aa else Xa (aa.add n)) (r - n) (c' - n)) (ns.drop (k+n))):=dD<|by
    have:=VK.dropE (k:=n) HNR.1 HK.2.2.2;rw[List.drop_drop]at this;rw[show(if c'=n then Xa aa else Xa (aa.add n))=(Xa aa).map fun ad=>if c'=n then ad else ad.add (n*byE.k) by
     have:n*byE.k=n:=Ob n;rw[this]
     by_cases hc:c'=n
     ·simp[hc]
     simp[hc]]
    exact this
   go_wp2
   all_goals
    go_roundg (N -(k+n))
    case measure=>have:=HK.out;have:=HNR.out;have:=HGG.out;omega
    have hk:=HK.out;have hn:=HNR.out;have ht:=HT.out;have v4:=V4.out;refine⟨k+n,t+n,r - n,c' - n,if c'=n then Xa aa else Xa (aa.add n),Wm,Wm,Wm,Wm,?_,?_,Wm,V4,J4⟩
    ·rw[show wrap64 ((t:Int)+(n:Int))=((t+n:Nat):Int) by unfold wrap64;omega]
    simp[*]
  have R3:Xo (R er W3):=r3 he;have hz:(er != 0)=Xc:=by simp[he]
  have HE:Xo (er≠0):=he;clear he j3 r3;go_wp2;go_ret;exact⟨er,rfl,fun e=>absurd e HE,fun _=>R3.out⟩
 have hl:=kD hlt
 obtain rfl:k=N:=Wm
 go_wp2;go_ret;exact⟨0,rfl,fun _=>JK.out,fun e=>absurd rfl e⟩
def zgh (M:Ma) (N:Nat) (er n:Int) (l:List Int) (m':Ma):Prop:=er=0/\n=(N:Int)/\l=[]/\m'=M
theorem ziK {u w:Xn} {p:Nat} (s:ChW w0 noX p u V m) (b4:zc u w) (bt:Rt m) (c:Cl) (fi a am:Nat) (ns:List Int) (F a8:Fl) (C:Ma) (a1:c.file=(fi:Int)) (an:m.fl[fi]? =Xa F) (av:0<ns.length) (hp:c.pt=(a:Int)) (t:a+ns.length<=96) (ci:F.size< ((a+ns.length:Nat):Int)) (a2:zj byE w0 (c.dv.x) ns) (f:c.dv.n<=c.dv.c) (E:Rt (zbS m fi (a+ns.length) F)) (v:(zbS m fi (a+ns.length) F).fl[fi]? =Xa a8/\a8.size=((a+ns.length:Nat):Int)) (a5:ns.length<=am) (L:QE fi am (zbS m fi (a+ns.length) F) a ns=(Xc,C)):
  Xp prog 45 #[Xj (Xa ⟨p,0,Xb⟩),Xi #[I6 c.kind,I6 c.aC,I6 c.pt,I6 c.n,I6 c.file,I6 c.base,Xh c.rd,Xh c.wr,Xh c.sh,c.dv.x]] w fun e w'=>ZQ (zgh C ns.length) w0 p u w e w':=by
 have ac:Xo (ChW w0 noX p u V m):=s;have cw:Xo (zc u w):=b4;obtain⟨b,a4⟩:=kA w.heap.size;obtain⟨d,q⟩:=kB (((w.alloc (Xk #[Xj (Xa ⟨p,0,Xb⟩)] 85)).alloc (Xk #[I6 c.kind,I6 c.aC,I6 c.pt,I6 c.n,I6 c.file,I6 c.base,Xh c.rd,Xh c.wr,Xh c.sh,c.dv.x] 25)).alloc (Xk #[I6 0,I6 0,eS] 54));have bc:Xo (zc w d):=show zc _ _ by rw[<-q];exact((za _ _).trans (za _ _)).trans (za _ _)
 have cb:Xo (zl d b 85 [Xj (Xa ⟨p,0,Xb⟩)]):=dD<|by rw[<-q];exact(zl.aE w [Xj (Xa ⟨p,0,Xb⟩)] _ a4.symm).aA ((za _ _).trans (za _ _))
 have b1:Xo (zl d (b+1) 25 [I6 c.kind,I6 c.aC,I6 c.pt,I6 c.n,I6 c.file,I6 c.base,Xh c.rd,Xh c.wr,Xh c.sh,c.dv.x]):=dD<|by rw[<-q];exact(zl.aE _ [I6 c.kind,I6 c.aC,I6 c.pt,I6 c.n,I6 c.file,I6 c.base,Xh c.rd,Xh c.wr,Xh c.sh,c.dv.x] _ (by have:=a4.out;simp;omega)).aA (za _ _)
 have A1:Xo (zl d (b+2) 54 [I6 0,I6 0,eS]):=dD<|by rw[<-q];exact zl.aE _ [I6 0,I6 0,eS] _ (by have:=a4.out;simp;omega)
 have be:Xo (b+2<d.heap.size):=A1.box.lt;have a9:Xo (zc u d):=show zc _ _ from b4.trans bc.out
 have c8:Xo (ChW w0 (fun k=>u.heap.size<=k/\k<d.heap.size) p d V m):=s.more a9.out
 have af:Xo (p<u.heap.size):=s.aM p (.inl rfl);have U:Xo (u.heap.size<=b):=show _<=_ by rw[<-a4.out];exact bS b4
 have cx:Xo (w0.heap.size<=b):=dD<|by have:=s.lo;have:=af.out;have:=U.out;omega
 have bk:Xo (_=d):=q;obtain⟨N,ae⟩:=kA ns.length;have x:c.dv.n=N:=by
  obtain⟨b2,Y,e,_⟩:=a2.rows;simp only[vJ]at e;exact e.2.1.trans ae.out
 obtain⟨M,G⟩:∃M,c.dv.a=Xa M:=by
  obtain⟨b2,Y,e,cg⟩:=a2.rows;simp only[vJ]at e;obtain⟨M,d2,_⟩:=cg 0 ns[0] (gE av);exact⟨M,e.1.trans d2⟩
 obtain⟨Y,B⟩:=kA c.dv.c;(try unfold Sli.x at f);rw[x,B.out]at f;(try unfold Sli.x at a2);rw[G,x,B.out]at a2;obtain⟨cl,ag⟩:=kA F.size;obtain⟨Z,br,bq⟩:=jp bt an;(try unfold Sli.x at t);(try unfold Sli.x at ci);(try unfold Sli.x at E);(try unfold Sli.x at v);(try unfold Sli.x at a5);(try unfold Sli.x at L);(try unfold Sli.x at av);rw[ae.out]at t ci E v a5 L av;have bg:Xo (zj byE w0 (O (Xa M) N Y) ns):=a2;have h:=fun W (bu:zc d W)=>zcA (c8.aA bu) bt fi (a+N) F an t
 have c2:cl< (a:Int)+(N:Int):=by rw[<-ag.out];omega
 obtain⟨a6,bf⟩:=kA (zbS m fi (a+N) F);(try unfold Sli.x at h);(try unfold Sli.x at E);(try unfold Sli.x at v);(try unfold Sli.x at L);rw[bf.out]at h E v L;have bj:Xo (∀W,zc d W->Xp prog 90 #[Xj (Xa ⟨p,0,Xb⟩),I6 (fi:Int),I6 ((a+N:Nat):Int)] W fun e w'=>(∃dm,e= Xl dm)/\Chg w0 (fun k=>u.heap.size<=k/\k<d.heap.size) p W V a6 w'):=dD<|h
 have bi:Xo (Rt a6/\a6.fl[fi]? =Xa a8/\a8.size=((a+N:Nat):Int)/\N<=am/\QE fi am a6 a ns=(Xc,C)):=⟨E,v.1,v.2,a5,L⟩;have bd:Xo (a+N<=96/\0<N/\N<=Y):=⟨t,av,f⟩;have a0:=ZW (a:Int) 97 d;(try unfold Sli.x at a0);rw[decide_eq_true (show 0<=(a:Int) by omega),decide_eq_true (show(a:Int)<97 by omega)]at a0
 obtain⟨dr,ds,ar,_,au⟩:=z7.rows (s.at.aA a9).fl;simp only[vJ]at ar;obtain⟨ap,bz,bx⟩:=ar;obtain⟨d7,aq,dy,dz,_,ao⟩:=au fi F an;have P:V.fl.a=Xa d7:=ap.trans aq;have dc:(fi:Int)< (V.fl.n:Int):=by
  have:=(gS.1 an).1;omega
 have cn:=(ao d (zc.refl _)).1;(first|rw[ag.out]at cn|(unfold Sli.x at cn;rw[ag.out]at cn)|(have h9:=ag.out;unfold Sli.x at h9;rw[h9]at cn;clear h9));have co:=c8.box.box.c 7 rfl;(try unfold Sli.x at co);rw[P]at co;have c7:=cb.box.c 0 rfl;have b0:=b1.box.c 2 rfl;have ba:=b1.box.c 4 rfl;have S:=b1.box.c 9 rfl;(try unfold Sli.x at b0);rw[hp]at b0;(try unfold Sli.x at ba);rw[a1]at ba;(try unfold Sli.x at S);rw[G,x,B.out]at S;have aa:Xo (c.file=(fi:Int)):=a1;have bh:Xo (c.pt=(a:Int)):=hp;have ah:Xo (c.dv.x=O (Xa M) N Y):=show _=_ by (try unfold Sli.x);rw[G,x,B.out]
 have bs:((N:Int) == 0)=Xd:=by simp;omega
 have du:0<=(a:Int)/\(a:Int)<=96:=Wm
 have da:(N:Int)<=96:=Wm
 have c0:decide ((96:Int) -(a:Int)< (N:Int))=Xd:=decide_eq_false Wm
 have c1:decide (cl< (a:Int)+(N:Int))=Xc:=decide_eq_true Wm
 have dd:∀(cf:Fn) (first al:Array Xq) (w:Xn),(Instr.makeFunc cf first al).run prog w= .ok (.func cf first al) w:=fun _ _ _ _=>rfl
 clear q s b4 bt an hp a1 ci c2 a2 L Z br bq ap bz bx aq ao au P G x av f t h E v a5
 go_enter func45,ntmps45
 go_upto_region 1 with fail;rw[bk.out,a4.out];go_wp2_with fail;refine a0.mono ?_;clear a0;rintro e g ⟨rfl,aw⟩;rw[aw];clear aw;go_upto_region 6 with fail;go_quiet (fail);have T:Xo (zc d (d.drewN nq)):=dD<|bD (bR _ _) _
 obtain⟨g,I⟩:=kB (d.drewN nq);(try unfold Sli.x at T);rw[I]at T;rw[I];clear I cn co c7 b0 ba S bs c0;have bn:=dD (b1.aA T);have A2:=dD (A1.aA T);have bo:=dD (cb.aA T);have c7:=bo.box.c 0 rfl;have ba:g.cell? ⟨b+1,4,Xb⟩=Xa (I6 (fi:Int)):=by
  have:=bn.box.c 4 rfl;(first|rw[aa.out]at this|(unfold Sli.x at this;rw[aa.out]at this)|(have h9:=aa.out;unfold Sli.x at h9;rw[h9]at this;clear h9));exact this
 have h:=bj.out g T.out;(try unfold Sli.x at h);rw[show((a+N:Nat):Int)=(a:Int)+(N:Int) by omega]at h
 go_wp2_with fail;refine h.mono ?_;clear h c7 ba;rintro e X ⟨⟨dx,rfl⟩,d9⟩;obtain⟨bm,cj,ax,ce⟩:=d9;have cy:Xo (ChW w0 (fun k=>u.heap.size<=k/\k<d.heap.size) p X bm a6):=cj
 have cz:Xo (zk (Dw p V) g X):=ax;have cs:Xo (∀k,Dw p bm k->Dw p V k\/g.heap.size<=k):=ce;have i:Xo (∀k,b<=k->¬Dw p V k):=show∀k,_ from fun k K e=>by have:=ac.aM k e;have:=U.out;omega
 have dn:Xo (zl X (b+2) 54 [I6 0,I6 0,eS]):=dD<|A2.aK ax (i _ Wm)
 have ca:Xo (zl X (b+1) 25 [I6 c.kind,I6 c.aC,I6 c.pt,I6 c.n,I6 c.file,I6 c.base,Xh c.rd,Xh c.wr,Xh c.sh,c.dv.x]):=dD<|bn.aK ax (i _ Wm)
 have dq:Xo (zl X b 85 [Xj (Xa ⟨p,0,Xb⟩)]):=dD<|bo.aK ax (i _ Wm)
 have bb:=fun W (o:zk (Dw p V) g W)=>A2.aK o (i _ (show b<=b+2 by omega))
 have ak:=fun W (o:zk (Dw p V) g W)=>bn.aK o (i _ (Oh b))
 have bp:=fun W (o:zk (Dw p V) g W)=>bo.aK o (i _ (nR b))
 clear cj ax ce;have cv:Xo (Xp prog 91 #[I6 (a:Int),O (Xa M) N Y,.func (.func 92) #[] #[Xj (Xa ⟨b,0,Xb⟩),Xj (Xa ⟨b+1,0,Xb⟩)]] X fun e w'=>∃A:Int,e= Xl (I6 A)/\(A=0->Chg w0 (fun k=>u.heap.size<=k/\k<d.heap.size) p g V C w')/\(A≠0->False)):=dD<|by
  obtain⟨t,av,f⟩:=bd.out;obtain⟨dh,di,dj,dw,dk⟩:=bi.out;have c3:=zhF 92 #[Xj (Xa ⟨b,0,Xb⟩),Xj (Xa ⟨b+1,0,Xb⟩)] (enters_of func92 Kr rfl) a N Y (Xa M) ns Wm w0 X bg f
   (fun k W=>∃(j:Ma) (z:MaV) (l:Nat) (r:Fl),Rt j/\j.fl[fi]? =Xa r/\r.size=((a+N:Nat):Int)/\N - k<=l/\QE fi l j (a+k) (ns.drop k)=(Xc,C)/\ChW w0 (fun k=>u.heap.size<=k/\k<d.heap.size) p W z j/\zk (Dw p V) g W/\(∀k,Dw p z k->Dw p V k\/g.heap.size<=k))
   (fun _ _=>False) ?_ ⟨a6,bm,am,a8,dh,di,dj,Wm,Rx Oa dk,cy,cz,cs⟩ ?_
  ·refine c3.mono ?_;rintro e w' ⟨A,rfl,b7,b8⟩;refine⟨A,rfl,fun s=>?_,b8⟩
   obtain⟨j,z,l,r,_,_,_,_,Q,R,a3,b9⟩:=b7 s;(try unfold Sli.x at Q);rw[Yd (Hm ae.out),zjJ]at Q
   cases Q;exact⟨z,R,a3,b9⟩
  ·rintro k W dp ⟨j,z,l,r,Q,R,a3,b9,c5,ay,az,c6⟩ a5;exact⟨j,z,l,r,Q,R,a3,b9,c5,ay.aA a5,az.trans (zk.aA a5),c6⟩
  rintro k b2 cd n W K db dv a2 ⟨j,z,l,r,Q,R,a3,b9,c5,ay,az,c6⟩;obtain⟨l,rfl⟩:∃d8,l=d8+1:=⟨l - 1,Wm⟩
  have b6:(ns.drop k).length=N - k:=by rw[Yf,ae.out]
  obtain⟨cm,dl⟩:=zgP (n:=n) c5 (by rw[b6];omega) (Rx b6 db.symm)
  have y:((ns.drop k).take n).length=n:=by rw[Xv,b6];omega
  have bw:=Qa ay.at.db.2.1 ay.at.dq.2.1 (fi:Int) (((a+k) / 8:Nat):Int);have H:=(zi0 Q.w R).2;have ch:(a+k) / 8<r.bl.length:=by
   (try unfold Sli.x at H);rw[a3]at H;unfold jH at H
   split at H <;> omega
  have ok:=zsk Q R ch bw (by rw[y];omega) (by rw[y,a3];omega) cm
  obtain⟨cu,d5,d6,_⟩:=zpk ok R;have hp:=zn1 ay Q fi ((a+k) / 8) ((a+k) % 8) r R ch ((ns.drop k).take n) (Xa b2) cd (Rx y a2) Wm (by rw[y];omega)
  (try unfold Sli.x at hp);rw[cm,kE rfl,y]at hp;refine zfn p b (b+1) (fi:Int) _ _ (O (Xa b2) n cd) W [I6 c.kind,I6 c.aC,I6 c.pt,I6 c.n,I6 c.file,I6 c.base,Xh c.rd,Xh c.wr,Xh c.sh,c.dv.x] (fun A w'=>(A=0->∃(j:Ma) (z:MaV) (l:Nat) (r:Fl),Rt j/\j.fl[fi]? =Xa r/\r.size=((a+N:Nat):Int)/\N -(k+n)<=l/\QE fi l j (a+(k+n)) (ns.drop (k+n))=(Xc,C)/\ChW w0 (fun k=>u.heap.size<=k/\k<d.heap.size) p w' z j/\zk (Dw p V) g w'/\(∀k,Dw p z k->Dw p V k\/g.heap.size<=k))/\(A≠0->False)) ((bp W az)) ((ak W az)) (by show Xa (I6 c.file)=_;rw[aa.out]) (hp.mono ?_)
  rintro e w' ⟨rfl,bv⟩;obtain⟨ai,d1,a7,b3⟩:=Chg.step az c6 bv;refine⟨0,rfl,fun _=>⟨_,ai,l,cu,ok.rt,d5,d6.trans a3,Wm,?_,d1,a7,b3⟩,fun e=>absurd rfl e⟩
  rw[<-Nat.add_assoc,<-List.drop_drop];exact dl
 have b0:=ca.box.c 2 rfl;have S:=ca.box.c 9 rfl;(first|rw[ah.out]at S|(unfold Sli.x at S;rw[ah.out]at S)|(have h9:=ah.out;unfold Sli.x at h9;rw[h9]at S;clear h9));rw[show I6 c.pt=I6 (a:Int) by rw[bh.out]]at b0
 clear c1
 go_wp2_with (go_at_call 91;refine cv.mono ?_)
 clear b0 S;rintro e aj ⟨A,rfl,b7,b8⟩;obtain rfl:A=0:=Classical.byContradiction b8;obtain⟨ai,ck,a7,b3⟩:=b7 rfl;have bl:Xo (ChW w0 (fun k=>u.heap.size<=k/\k<d.heap.size) p aj ai C):=ck
 have d0:Xo (zk (Dw p V) g aj):=a7;have ct:Xo (∀k,Dw p ai k->Dw p V k\/g.heap.size<=k):=b3;have cq:Xo (zl aj (b+2) 54 [I6 0,I6 0,eS]):=show zl _ _ _ _ from bb aj a7
 have S:=(ak aj a7).box.c 9 rfl;(first|rw[ah.out]at S|(unfold Sli.x at S;rw[ah.out]at S)|(have h9:=ah.out;unfold Sli.x at h9;rw[h9]at S;clear h9));clear ck a7 b3 b7 b8
 go_wp2_with (refine zm rfl 54 (.tmp 4) (.tmp 63) rfl (b+2) rfl [I6 0,I6 (N:Int),eS] rfl cq rfl Kr (by simp[Value.oneCell']) ?_)
 intro c9 cc Z _;have cr:Xo (zl c9 (b+2) 54 [I6 0,I6 (N:Int),eS]):=cc;have ab:Xo (ZQ (zgh C ns.length) w0 p u w (Xl (Ju 0 (N:Int) noS)) c9):=show ZQ _ _ _ _ _ _ _ from by
  have df:=bS T.out;have H:=be.out;have dg:=U.out;have b6:=cx.out;have de:=af.out;refine⟨0,(N:Int),noS,[],ai,C,rfl,⟨rfl,by rw[ae.out],rfl,rfl⟩,((zk.aA (bc.trans T)).trans (d0.wide fun k K=>⟨ac.dlo k K,ac.aM k K⟩)).beyond Z (Hm a4.out),zd bl.gr Z Wm,fun _ _=>zj.nil _ _,fun _=>⟨bl.box.beside Z (fun k e=>by cases e;omega),fun W bu=>?_⟩⟩
  refine bl.afar (D:=fun k=>k<w0.heap.size\/(u.heap.size<=k/\k<d.heap.size)) (fun k K=>K) (fun k K e=>?_) ((zk.grown Z (.inr ⟨Wm,Wm⟩)).trans (bu.wide fun k K=>K.imp id fun s=>⟨s.1,Xs s.2 (bS bc)⟩))
  rcases ct k e with e|e
  ·have cg:=ac.dlo k e;have dt:=ac.aM k e;omega
  omega
 clear cc Z S;go_wp2;refine bodyPost_ret (zE rfl _ rfl cr.box underlying54 rfl Kr) rfl ab.out
theorem zgs (w:Xn) (m:Ma) (c:Cl) (fi a f:Nat) (ns:List Int) (F d:Fl) (e:Ma) (u:c.kind=10) (r:Rt m) (j:c.file=(fi:Int)) (q:m.fl[fi]? =Xa F) (x:0<ns.length) (hp:c.pt=(a:Int)) (g:a+ns.length<=96) (A:F.size< ((a+ns.length:Nat):Int)) (y:zj byE w (c.dv.x) ns) (b:c.dv.n<=c.dv.c) (i:Rt (zbS m fi (a+ns.length) F)) (h:(zbS m fi (a+ns.length) F).fl[fi]? =Xa d/\d.size=((a+ns.length:Nat):Int)) (k:ns.length<=f) (l:QE fi f (zbS m fi (a+ns.length) F) a ns=(Xc,e)):J8 w m c (zgh e ns.length):=by
 intro G W D B E v p z;obtain⟨n,rfl,t⟩:=z.2.2.2.2.2.2.2.2.2.1 u;exact⟨88,#[Xj (Xa ⟨n,0,Xb⟩)],rfl,zar,zbr p c (Hm ((gS.1 q).1)) n 45 _ (enters_of func45 Kr rfl) t fun C s=>ziK p s r c fi a f ns F d e j q x hp g A (y.aA v) b i h k l⟩
variable{X:Nat->Prop}
def BeA (w0:Xn) (Q:Ma->Prop) (cs:List Xq) (er:Int) (w:Xn):Prop:=er=0/\∃(V':MaV) (M:Ma),Q M/\cs=chL V' M/\∀W',zk (fun k=>k<w0.heap.size) w W'->zw W' V' M
theorem BeA.by {w:Xn} {Q:Ma->Prop} {cs:List Xq} {a:Int} (h:BeA w1 Q cs a w) (g:∀W,zk (fun k=>k<w0.heap.size) w' W->zk (fun k=>k<w1.heap.size) w W):BeA w0 Q cs a w':=by
 obtain⟨e,b,M,c,d,f⟩:=h;exact⟨e,b,M,c,d,fun W i=>f W (g W i)⟩
def KBe (Q:Ma->Prop) (er n:Int) (l:List Int) (m':Ma):Prop:=er=0/\n=0/\l=[]/\Q m'
theorem zhj {w:Xn} {p:Nat} (n:ChW w0 X p w V m) (c:Cl) {Q:Ma->Prop} (ax:∀W,zw W V m->Xp prog 94 #[Xi (mL V m).toArray,I6 c.file] W fun e w'=>(∃(V':MaV) (M:Ma),Q M/\e= Xl (Xm #[Xi (chL V' M).toArray,I6 0])/\∀a0,zk (fun k=>k<W.heap.size) w' a0->zw a0 V' M)/\zc W w'):
  Xp prog 47 #[Xj (Xa ⟨p,0,Xb⟩),Xi #[I6 c.kind,I6 c.aC,I6 c.pt,I6 c.n,I6 c.file,I6 c.base,Xh c.rd,Xh c.wr,Xh c.sh,c.dv.x]] w fun e w'=>Qh (KBe Q) w0 p w e w':=by
 have ag:Xo (ChW w0 X p w V m):=n;have ah:Xo (p<w.heap.size):=n.aM p (.inl rfl);clear n;obtain⟨l,T⟩:=kA w.heap.size;obtain⟨a,q⟩:=kB ((w.alloc (Xk #[I6 c.kind,I6 c.aC,I6 c.pt,I6 c.n,I6 c.file,I6 c.base,Xh c.rd,Xh c.wr,Xh c.sh,c.dv.x] 25)).alloc (Xk #[I6 0,I6 0,eS] 54));have ad:=gD2 q
 have b9:Xo (zl a l 25 [I6 c.kind,I6 c.aC,I6 c.pt,I6 c.n,I6 c.file,I6 c.base,Xh c.rd,Xh c.wr,Xh c.sh,c.dv.x]):=dD<|by rw[<-q];exact(zl.aE w [I6 c.kind,I6 c.aC,I6 c.pt,I6 c.n,I6 c.file,I6 c.base,Xh c.rd,Xh c.wr,Xh c.sh,c.dv.x] _ T.symm).aA (za _ _)
 have A1:Xo (zl a (l+1) 54 [I6 0,I6 0,eS]):=dD<|by rw[<-q];exact zl.aE _ [I6 0,I6 0,eS] _ (by have:=T.out;simp;omega)
 have ae:Xo (l+1<a.heap.size):=A1.box.lt;have ai:Xo (_=a):=q;clear q;have a7:=dD (ag.aA ad);have U:Xo (∀W,zc a W->Xp prog 94 #[Xi (mL V m).toArray,I6 c.file] W fun e w'=>(∃(V':MaV) (M:Ma),Q M/\e= Xl (Xm #[Xi (chL V' M).toArray,I6 0])/\∀a0,zk (fun k=>k<W.heap.size) w' a0->zw a0 V' M)/\zc W w'):=show∀W,_ from fun W E=>ax W (a7.at.aA E)
 clear ax
 go_enter func47,ntmps47
 go_upto_region 1 with fail;rw[ai.out,T.out]
 go_cut [5,6] (fun bb bc ao=>∃(g:Nat) (d:Int) (b:List Xq),bb= Xj (Xa ⟨g,0,Xb⟩)/\bc=I6 d/\Xo (zl ao g 45 b)/\Xo (zc a ao)/\Xo (BeA a Q b d ao))
 case first=>
  refine wp_region_held (S:=fun W=>zc a W) zW ?_
  show wpAnyH _ _ _ _ _ 13 (Yi 13 Xd) _ a.drew
  have j:zc a a.drew:=(gW _)
  refine zD 0 (Xa 8) (Xj (Xa ⟨p,0,Xb⟩)) j ?_
  refine Uq ?_;refine zD 1 (Xa 9) (Xj (Xa ⟨p,0,Xb⟩)) j ?_
  refine Uq ?_;refine zD 2 (Xa 10) (Xj (Xa ⟨p,0,Xb⟩)) j ?_
  refine Uq ?_;refine Qe 3 (Xa 11) (Xi (chL V m).toArray) rfl rfl Kr Kr Kr (fun _ _ _ n=>n) (yieldsIf_load_mid rfl 45 (.tmp 10) rfl p 0 rfl (chL V m) _ (fun W E=>(a7.box.box.aA E).range) underlying45 rfl Kr) j ?_
  refine Uq ?_;refine zD 4 (Xa 12) (Xj (Xa ⟨l,4,Xb⟩)) j ?_
  refine Uq ?_;refine Qe 5 (Xa 13) (I6 c.file) rfl rfl Kr Kr Kr (fun _ _ _ n=>n) (.inl ⟨rfl,fun W E=>jP _ (.tmp 12) rfl ⟨l,4,Xb⟩ rfl (I6 c.file) ((b9.box.aA E).c 4 rfl) underlying3 rfl⟩) j ?_
  refine Uq ?_;refine wpAnyH_all (rs:=[6,10]) Kr Sm ?_
  intro ac h;simp only[mC,nM,or_false]at h
  rcases h with rfl|rfl
  ·skip
   refine zH (Xa 14) (fun v w'=>(∃(b:List Xq) (d:Int),v= Xm #[Xi b.toArray,I6 d]/\b.length=11/\(∀x∈b,x.oneCell'=Xc)/\BeA a.drew Q b d w')/\zc a.drew w') rfl rfl rfl (zP.call [Xi (mL V m).toArray,I6 c.file] rfl func94 rfl rfl rfl ((U _ j).mono ?_)) ?_
   ·rintro e w' ⟨n,H⟩;obtain⟨V',M,ak,rfl,am⟩:=n;exact⟨_,rfl,⟨chL V' M,0,rfl,rfl,by simp[chL,Value.oneCell'],⟨rfl,V',M,ak,rfl,am⟩⟩,H⟩
   rintro v B ⟨⟨b,d,rfl,hlen,r,K⟩,aa⟩;have i:zc a B:=j.trans aa;refine⟨i,?_⟩;refine Uq ?_;refine zD 7 (Xa 7) (Xm #[Xi b.toArray,I6 d]) i ?_
   refine Uq ?_;refine zD 8 (Xa 15) (Xi b.toArray) i ?_
   refine Uq ?_;refine zD 9 (Xa 16) (I6 d) i ?_
   refine Uq ?_;refine wpAnyH_all (rs:=[10]) Kr Sm ?_
   intro ac h;simp only[mC,nM,or_false]at h;subst h;refine zH (Xa 5) (fun v w'=>v= Xj (Xa ⟨(B).heap.size,0,Xb⟩)/\w'=(B).alloc (Xk qj.toArray 45)) rfl rfl rfl (zP.step (jF rfl) ⟨rfl,rfl⟩) ?_
   rintro v t ⟨rfl,f⟩;have C:zc a t:=by rw[f];exact i.trans (za _ _)
   have au:zc B t:=by rw[f];exact za _ _
   obtain⟨g,z⟩:=kA ((B).heap.size);have P:zl t g 45 qj:=by rw[f];exact zl.aE _ qj _ z.symm
   have G:a.heap.size<=g:=by rw[<-z.out];exact bS i
   rw[z.out];clear f;refine⟨C,?_⟩;refine Uq ?_;refine wpAnyH_all (rs:=[11]) Kr Sm ?_
   intro ac h;simp only[mC,nM,or_false]at h;subst h;refine zH Xb (fun v w'=>zc a w'/\zl w' g 45 b/\BeA a Q b d w') rfl rfl rfl (zP.aL 45 (.tmp 5) (.tmp 15) rfl g rfl b rfl P (by rw[hlen];rfl) Kr r (fun w' aj a3 ba=>⟨zd C a3 G,aj,K.by (zeP (zd au a3 (by rw[z.out];exact nR _)) (bS j))⟩)) ?_
   rintro v A ⟨u,a2,a5⟩;refine⟨u,?_⟩;simp only[Yg];refine zD 12 (Xa 6) (I6 d) u ?_
   refine Uq ?_;refine wpAnyH_done Kr ?_ _
   have L:Xo (zl A g 45 b):=a2;have y:Xo (zc a A):=u;have I:Xo (BeA a Q b d A):=a5;clear u a2 a5;go_wp2
   go_meet
   exact⟨g,d,b,rfl,rfl,L,y,I⟩
  skip
  refine zH (Xa 5) (fun v w'=>v= Xj (Xa ⟨(a.drew).heap.size,0,Xb⟩)/\w'=(a.drew).alloc (Xk qj.toArray 45)) rfl rfl rfl (zP.step (jF rfl) ⟨rfl,rfl⟩) ?_
  rintro v t ⟨rfl,f⟩;have C:zc a t:=by rw[f];exact j.trans (za _ _)
  have au:zc a.drew t:=by rw[f];exact za _ _
  obtain⟨g,z⟩:=kA ((a.drew).heap.size);have P:zl t g 45 qj:=by rw[f];exact zl.aE _ qj _ z.symm
  have G:a.heap.size<=g:=by rw[<-z.out];exact bS j
  rw[z.out];clear f;refine⟨C,?_⟩;refine Uq ?_;refine wpAnyH_all (rs:=[6]) Kr Sm ?_
  intro ac h;simp only[mC,nM,or_false]at h;subst h;refine zH (Xa 14) (fun v w'=>(∃(b:List Xq) (d:Int),v= Xm #[Xi b.toArray,I6 d]/\b.length=11/\(∀x∈b,x.oneCell'=Xc)/\BeA t Q b d w')/\zc t w') rfl rfl rfl (zP.call [Xi (mL V m).toArray,I6 c.file] rfl func94 rfl rfl rfl ((U _ C).mono ?_)) ?_
  ·rintro e w' ⟨n,H⟩;obtain⟨V',M,ak,rfl,am⟩:=n;exact⟨_,rfl,⟨chL V' M,0,rfl,rfl,by simp[chL,Value.oneCell'],⟨rfl,V',M,ak,rfl,am⟩⟩,H⟩
  rintro v B ⟨⟨b,d,rfl,hlen,r,K⟩,aa⟩;have i:zc a B:=C.trans aa;refine⟨i,?_⟩;refine Uq ?_;have al:=P.box.lt;have P:=P.aA aa;refine zD 7 (Xa 7) (Xm #[Xi b.toArray,I6 d]) i ?_
  refine Uq ?_;refine zD 8 (Xa 15) (Xi b.toArray) i ?_
  refine Uq ?_;refine zD 9 (Xa 16) (I6 d) i ?_
  refine Uq ?_;refine wpAnyH_all (rs:=[11]) Kr Sm ?_
  intro ac h;simp only[mC,nM,or_false]at h;subst h;refine zH Xb (fun v w'=>zc a w'/\zl w' g 45 b/\BeA a Q b d w') rfl rfl rfl (zP.aL 45 (.tmp 5) (.tmp 15) rfl g rfl b rfl P (by rw[hlen];rfl) Kr r (fun w' aj a3 ba=>⟨zd i a3 G,aj,K.by (zeQ a3 al (bS C))⟩)) ?_
  rintro v A ⟨u,a2,a5⟩;refine⟨u,?_⟩;simp only[Yg];refine zD 12 (Xa 6) (I6 d) u ?_
  refine Uq ?_;refine wpAnyH_done Kr ?_ _
  have L:Xo (zl A g 45 b):=a2;have y:Xo (zc a A):=u;have I:Xo (BeA a Q b d A):=a5;clear u a2 a5;go_wp2
  go_meet
  exact⟨g,d,b,rfl,rfl,L,y,I⟩
 obtain⟨g,d,b,rfl,rfl,L,y,I⟩:=hcut;have b0:=dD (A1.aA y);have s:Xo (p<l):=show _<_ by have:=ah.out;have:=T.out;omega
 obtain⟨rfl,N,a8,av,rfl,aw⟩:=I.out;have F:=zhY (V':=N) (m':=a8) (a7.box.aA y) ag.lo (a7.gr.trans y) 0;have af:=show Xo (Q a8)from av
 have R:Xo (∀W,zk (fun k=>k<a.heap.size) wc W->zw W N a8):=aw
 obtain⟨a6,Y⟩:=kA a8;rw[Y.out]at F R L;clear av aw
 go_wp2_with (first | refine zp rfl 45 (.tmp 5) rfl g rfl L.box underlying45 rfl Kr ?_ | (go_at_call 85;refine F.mono ?_))
 clear F;rintro e a9 ⟨rfl,ay,an,ar⟩;have A2:Xo (zl a9 (l+1) 54 [I6 0,I6 0,eS]):=dD<|b0.aK an (Hm s.out)
 have b1:Xo (zc w0 a9):=ar;have b7:Xo (zl a9 p 88 (chL N a6)):=ay;have ap:Xo (zk (fun k=>k=p) wc a9):=an
 have b4:Xo (w0.heap.size<=l):=dD<|by have:=ag.lo;have:=s.out;omega
 have Z:Xo (l+1<a.heap.size):=ae;clear ar ay an;unfold Ju noS
 go_wp2_with (refine zm rfl 54 (.tmp 4) (.tmp 20) rfl (l+1) rfl [I6 0,I6 0,eS] rfl A2 rfl Kr (by simp[Value.oneCell']) ?_)
 intro a1 aq a4 _;have b2:Xo (zc w0 a1):=dD<|zd b1 a4 (Hm b4.out)
 have az:Xo (zl a1 (l+1) 54 [I6 0,I6 0,eS]):=aq;have b8:Xo (zl a1 p 88 (chL N a6)):=show zl _ _ _ _ from b7.beside a4 (fun k e=>by cases e;have:=s.out;omega)
 have b5:Xo (∀W,zk (fun k=>k<w.heap.size) a1 W->zw W N a6):=dD<|fun W E=>R.out W (((ap.wide fun k ab=>by have ab:k=p:=ab;have:=s.out;have:=Z.out;omega).trans (zk.grown (D:=fun k=>k<a.heap.size) a4 Z)).trans (E.wide fun k ab=>Xs ab (bS ad)))
 have b6:Xo (zk (fun k=>k=p) w a1):=dD<|zk.beyond ((zk.aA (ad.trans y)).trans ap) a4 (Hm T.out)
 clear aq a4;go_wp2;refine bodyPost_ret (zE rfl _ rfl az.box underlying54 rfl Kr) rfl (Qh.ok (V':=N) (m':=a6) ⟨rfl,rfl,rfl,Ry Y.out af⟩ b6 b2 b8 b5)
theorem zfN {w:Xn} {p:Nat} (n:ChW w0 X p w V m) (c:Cl) {Q:Ma->Prop} (ax:∀W,zw W V m->Xp prog 97 #[Xi (mL V m).toArray,I6 c.n] W fun e w'=>(∃(V':MaV) (M:Ma),Q M/\e= Xl (Xm #[Xi (chL V' M).toArray,I6 0])/\∀a0,zk (fun k=>k<W.heap.size) w' a0->zw a0 V' M)/\zc W w'):
  Xp prog 50 #[Xj (Xa ⟨p,0,Xb⟩),Xi #[I6 c.kind,I6 c.aC,I6 c.pt,I6 c.n,I6 c.file,I6 c.base,Xh c.rd,Xh c.wr,Xh c.sh,c.dv.x]] w fun e w'=>Qh (KBe Q) w0 p w e w':=by
 have ag:Xo (ChW w0 X p w V m):=n;have ah:Xo (p<w.heap.size):=n.aM p (.inl rfl);clear n;obtain⟨l,T⟩:=kA w.heap.size;obtain⟨a,q⟩:=kB ((w.alloc (Xk #[I6 c.kind,I6 c.aC,I6 c.pt,I6 c.n,I6 c.file,I6 c.base,Xh c.rd,Xh c.wr,Xh c.sh,c.dv.x] 25)).alloc (Xk #[I6 0,I6 0,eS] 54));have ad:=gD2 q
 have b9:Xo (zl a l 25 [I6 c.kind,I6 c.aC,I6 c.pt,I6 c.n,I6 c.file,I6 c.base,Xh c.rd,Xh c.wr,Xh c.sh,c.dv.x]):=dD<|by rw[<-q];exact(zl.aE w [I6 c.kind,I6 c.aC,I6 c.pt,I6 c.n,I6 c.file,I6 c.base,Xh c.rd,Xh c.wr,Xh c.sh,c.dv.x] _ T.symm).aA (za _ _)
 have A1:Xo (zl a (l+1) 54 [I6 0,I6 0,eS]):=dD<|by rw[<-q];exact zl.aE _ [I6 0,I6 0,eS] _ (by have:=T.out;simp;omega)
 have ae:Xo (l+1<a.heap.size):=A1.box.lt;have ai:Xo (_=a):=q;clear q;have a7:=dD (ag.aA ad);have U:Xo (∀W,zc a W->Xp prog 97 #[Xi (mL V m).toArray,I6 c.n] W fun e w'=>(∃(V':MaV) (M:Ma),Q M/\e= Xl (Xm #[Xi (chL V' M).toArray,I6 0])/\∀a0,zk (fun k=>k<W.heap.size) w' a0->zw a0 V' M)/\zc W w'):=show∀W,_ from fun W E=>ax W (a7.at.aA E)
 clear ax
 go_enter func50,ntmps50
 go_upto_region 1 with fail;rw[ai.out,T.out]
 go_cut [5,6] (fun bb bc ao=>∃(g:Nat) (d:Int) (b:List Xq),bb= Xj (Xa ⟨g,0,Xb⟩)/\bc=I6 d/\Xo (zl ao g 45 b)/\Xo (zc a ao)/\Xo (BeA a Q b d ao))
 case first=>
  refine wp_region_held (S:=fun W=>zc a W) zW ?_
  show wpAnyH _ _ _ _ _ 13 (Yi 13 Xd) _ a.drew
  have j:zc a a.drew:=(gW _)
  refine zD 0 (Xa 8) (Xj (Xa ⟨p,0,Xb⟩)) j ?_
  refine Uq ?_;refine zD 1 (Xa 9) (Xj (Xa ⟨p,0,Xb⟩)) j ?_
  refine Uq ?_;refine zD 2 (Xa 10) (Xj (Xa ⟨p,0,Xb⟩)) j ?_
  refine Uq ?_;refine Qe 3 (Xa 11) (Xi (chL V m).toArray) rfl rfl Kr Kr Kr (fun _ _ _ n=>n) (yieldsIf_load_mid rfl 45 (.tmp 10) rfl p 0 rfl (chL V m) _ (fun W E=>(a7.box.box.aA E).range) underlying45 rfl Kr) j ?_
  refine Uq ?_;refine zD 4 (Xa 12) (Xj (Xa ⟨l,3,Xb⟩)) j ?_
  refine Uq ?_;refine Qe 5 (Xa 13) (I6 c.n) rfl rfl Kr Kr Kr (fun _ _ _ n=>n) (.inl ⟨rfl,fun W E=>jP _ (.tmp 12) rfl ⟨l,3,Xb⟩ rfl (I6 c.n) ((b9.box.aA E).c 3 rfl) underlying3 rfl⟩) j ?_
  refine Uq ?_;refine wpAnyH_all (rs:=[6,10]) Kr Sm ?_
  intro ac h;simp only[mC,nM,or_false]at h
  rcases h with rfl|rfl
  ·skip
   refine zH (Xa 14) (fun v w'=>(∃(b:List Xq) (d:Int),v= Xm #[Xi b.toArray,I6 d]/\b.length=11/\(∀x∈b,x.oneCell'=Xc)/\BeA a.drew Q b d w')/\zc a.drew w') rfl rfl rfl (zP.call [Xi (mL V m).toArray,I6 c.n] rfl func97 rfl rfl rfl ((U _ j).mono ?_)) ?_
   ·rintro e w' ⟨n,H⟩;obtain⟨V',M,ak,rfl,am⟩:=n;exact⟨_,rfl,⟨chL V' M,0,rfl,rfl,by simp[chL,Value.oneCell'],⟨rfl,V',M,ak,rfl,am⟩⟩,H⟩
   rintro v B ⟨⟨b,d,rfl,hlen,r,K⟩,aa⟩;have i:zc a B:=j.trans aa;refine⟨i,?_⟩;refine Uq ?_;refine zD 7 (Xa 7) (Xm #[Xi b.toArray,I6 d]) i ?_
   refine Uq ?_;refine zD 8 (Xa 15) (Xi b.toArray) i ?_
   refine Uq ?_;refine zD 9 (Xa 16) (I6 d) i ?_
   refine Uq ?_;refine wpAnyH_all (rs:=[10]) Kr Sm ?_
   intro ac h;simp only[mC,nM,or_false]at h;subst h;refine zH (Xa 5) (fun v w'=>v= Xj (Xa ⟨(B).heap.size,0,Xb⟩)/\w'=(B).alloc (Xk qj.toArray 45)) rfl rfl rfl (zP.step (jF rfl) ⟨rfl,rfl⟩) ?_
   rintro v t ⟨rfl,f⟩;have C:zc a t:=by rw[f];exact i.trans (za _ _)
   have au:zc B t:=by rw[f];exact za _ _
   obtain⟨g,z⟩:=kA ((B).heap.size);have P:zl t g 45 qj:=by rw[f];exact zl.aE _ qj _ z.symm
   have G:a.heap.size<=g:=by rw[<-z.out];exact bS i
   rw[z.out];clear f;refine⟨C,?_⟩;refine Uq ?_;refine wpAnyH_all (rs:=[11]) Kr Sm ?_
   intro ac h;simp only[mC,nM,or_false]at h;subst h;refine zH Xb (fun v w'=>zc a w'/\zl w' g 45 b/\BeA a Q b d w') rfl rfl rfl (zP.aL 45 (.tmp 5) (.tmp 15) rfl g rfl b rfl P (by rw[hlen];rfl) Kr r (fun w' aj a3 ba=>⟨zd C a3 G,aj,K.by (zeP (zd au a3 (by rw[z.out];exact nR _)) (bS j))⟩)) ?_
   rintro v A ⟨u,a2,a5⟩;refine⟨u,?_⟩;simp only[Yg];refine zD 12 (Xa 6) (I6 d) u ?_
   refine Uq ?_;refine wpAnyH_done Kr ?_ _
   have L:Xo (zl A g 45 b):=a2;have y:Xo (zc a A):=u;have I:Xo (BeA a Q b d A):=a5;clear u a2 a5;go_wp2
   go_meet
   exact⟨g,d,b,rfl,rfl,L,y,I⟩
  skip
  refine zH (Xa 5) (fun v w'=>v= Xj (Xa ⟨(a.drew).heap.size,0,Xb⟩)/\w'=(a.drew).alloc (Xk qj.toArray 45)) rfl rfl rfl (zP.step (jF rfl) ⟨rfl,rfl⟩) ?_
  rintro v t ⟨rfl,f⟩;have C:zc a t:=by rw[f];exact j.trans (za _ _)
  have au:zc a.drew t:=by rw[f];exact za _ _
  obtain⟨g,z⟩:=kA ((a.drew).heap.size);have P:zl t g 45 qj:=by rw[f];exact zl.aE _ qj _ z.symm
  have G:a.heap.size<=g:=by rw[<-z.out];exact bS j
  rw[z.out];clear f;refine⟨C,?_⟩;refine Uq ?_;refine wpAnyH_all (rs:=[6]) Kr Sm ?_
  intro ac h;simp only[mC,nM,or_false]at h;subst h;refine zH (Xa 14) (fun v w'=>(∃(b:List Xq) (d:Int),v= Xm #[Xi b.toArray,I6 d]/\b.length=11/\(∀x∈b,x.oneCell'=Xc)/\BeA t Q b d w')/\zc t w') rfl rfl rfl (zP.call [Xi (mL V m).toArray,I6 c.n] rfl func97 rfl rfl rfl ((U _ C).mono ?_)) ?_
  ·rintro e w' ⟨n,H⟩;obtain⟨V',M,ak,rfl,am⟩:=n;exact⟨_,rfl,⟨chL V' M,0,rfl,rfl,by simp[chL,Value.oneCell'],⟨rfl,V',M,ak,rfl,am⟩⟩,H⟩
  rintro v B ⟨⟨b,d,rfl,hlen,r,K⟩,aa⟩;have i:zc a B:=C.trans aa;refine⟨i,?_⟩;refine Uq ?_;have al:=P.box.lt;have P:=P.aA aa;refine zD 7 (Xa 7) (Xm #[Xi b.toArray,I6 d]) i ?_
  refine Uq ?_;refine zD 8 (Xa 15) (Xi b.toArray) i ?_
  refine Uq ?_;refine zD 9 (Xa 16) (I6 d) i ?_
  refine Uq ?_;refine wpAnyH_all (rs:=[11]) Kr Sm ?_
  intro ac h;simp only[mC,nM,or_false]at h;subst h;refine zH Xb (fun v w'=>zc a w'/\zl w' g 45 b/\BeA a Q b d w') rfl rfl rfl (zP.aL 45 (.tmp 5) (.tmp 15) rfl g rfl b rfl P (by rw[hlen];rfl) Kr r (fun w' aj a3 ba=>⟨zd i a3 G,aj,K.by (zeQ a3 al (bS C))⟩)) ?_
  rintro v A ⟨u,a2,a5⟩;refine⟨u,?_⟩;simp only[Yg];refine zD 12 (Xa 6) (I6 d) u ?_
  refine Uq ?_;refine wpAnyH_done Kr ?_ _
  have L:Xo (zl A g 45 b):=a2;have y:Xo (zc a A):=u;have I:Xo (BeA a Q b d A):=a5;clear u a2 a5;go_wp2
  go_meet
  exact⟨g,d,b,rfl,rfl,L,y,I⟩
 obtain⟨g,d,b,rfl,rfl,L,y,I⟩:=hcut;have b0:=dD (A1.aA y);have s:Xo (p<l):=show _<_ by have:=ah.out;have:=T.out;omega
 obtain⟨rfl,N,a8,av,rfl,aw⟩:=I.out;have F:=zhY (V':=N) (m':=a8) (a7.box.aA y) ag.lo (a7.gr.trans y) 0;have af:=show Xo (Q a8)from av
 have R:Xo (∀W,zk (fun k=>k<a.heap.size) wc W->zw W N a8):=aw
 obtain⟨a6,Y⟩:=kA a8;rw[Y.out]at F R L;clear av aw
 go_wp2_with (first | refine zp rfl 45 (.tmp 5) rfl g rfl L.box underlying45 rfl Kr ?_ | (go_at_call 85;refine F.mono ?_))
 clear F;rintro e a9 ⟨rfl,ay,an,ar⟩;have A2:Xo (zl a9 (l+1) 54 [I6 0,I6 0,eS]):=dD<|b0.aK an (Hm s.out)
 have b1:Xo (zc w0 a9):=ar;have b7:Xo (zl a9 p 88 (chL N a6)):=ay;have ap:Xo (zk (fun k=>k=p) wc a9):=an
 have b4:Xo (w0.heap.size<=l):=dD<|by have:=ag.lo;have:=s.out;omega
 have Z:Xo (l+1<a.heap.size):=ae;clear ar ay an;unfold Ju noS
 go_wp2_with (refine zm rfl 54 (.tmp 4) (.tmp 20) rfl (l+1) rfl [I6 0,I6 0,eS] rfl A2 rfl Kr (by simp[Value.oneCell']) ?_)
 intro a1 aq a4 _;have b2:Xo (zc w0 a1):=dD<|zd b1 a4 (Hm b4.out)
 have az:Xo (zl a1 (l+1) 54 [I6 0,I6 0,eS]):=aq;have b8:Xo (zl a1 p 88 (chL N a6)):=show zl _ _ _ _ from b7.beside a4 (fun k e=>by cases e;have:=s.out;omega)
 have b5:Xo (∀W,zk (fun k=>k<w.heap.size) a1 W->zw W N a6):=dD<|fun W E=>R.out W (((ap.wide fun k ab=>by have ab:k=p:=ab;have:=s.out;have:=Z.out;omega).trans (zk.grown (D:=fun k=>k<a.heap.size) a4 Z)).trans (E.wide fun k ab=>Xs ab (bS ad)))
 have b6:Xo (zk (fun k=>k=p) w a1):=dD<|zk.beyond ((zk.aA (ad.trans y)).trans ap) a4 (Hm T.out)
 clear aq a4;go_wp2;refine bodyPost_ret (zE rfl _ rfl az.box underlying54 rfl Kr) rfl (Qh.ok (V':=N) (m':=a6) ⟨rfl,rfl,rfl,Ry Y.out af⟩ b6 b2 b8 b5)
theorem zkE (w:Xn) (m:Ma) (c:Cl) (q:c.kind=12) (a:0<=c.file/\c.file< (m.fl.length:Int)) (n:Rt m) (s:¬zkr m):J8 w m c (KBe fun d=>∃M,Zg m M/\Jl c.file M.ca.length M/\d=QL M):=by
 intro C W x f B A h u;obtain⟨g,rfl,p⟩:=u.2.2.2.2.2.2.2.2.2.2.2.1 q;refine⟨88,#[Xj (Xa ⟨g,0,Xb⟩)],rfl,zar,zbr h c a g 47 _ (enters_of func47 Kr rfl) p fun z b=>((zhj (h.aA b) c fun W r=>?_).mono fun i y v=>v.more h.lo (h.aM x (.inl rfl)) (nT (bS h.gr) (bS b)))⟩
 refine(zmz f m c.file W r n a.1 a.2).mono ?_;rintro i y ⟨⟨_,t⟩|⟨M,e,j,k,rfl,l⟩,g⟩
 ·exact absurd t s
 exact⟨⟨e,QL M,⟨M,j,k,rfl⟩,rfl,l⟩,g⟩
theorem zie (w:Xn) (m:Ma) (c:Cl) (j:c.kind=15) (i:Rt m):J8 w m c (KBe fun a=>a=Qb m (jL (J0 c.n) m.db m.dq)):=by
 intro s W p d v r h l;obtain rfl:=l.2.2.2.2.2.2.2.2.2.2.2.2.2.2 j;refine⟨50,#[],rfl,enters_of func50 Kr rfl,(zfN h c fun W k=>?_).mono fun e q n=>n.more h.lo (h.aM p (.inl rfl)) (bS h.gr)⟩
 refine(zlO d m c.n W k i).mono ?_;rintro e q ⟨⟨b,rfl,f,_⟩,g⟩;exact⟨⟨b,_,rfl,rfl,f⟩,g⟩
theorem zda {α:Type} (E:Elt α) {w:Xn} {ops:Array Oper} {rest:List Oper} {o:Oper} {a:Act} {Q:Exit->Act->Xn->Prop} (hgd:o.guard=Xb) (l c:Operand) (ho:o.op= .makeSlice E.st l c) (n:Nat) (hl:a.eval l= Xe Xf 0) (hc:a.eval c= Xe Xf n) (hn:n*E.bytes<=140737488355328)
  (h:∀C,zb E w.heap.size (w.alloc (Xk C E.ty)) (O (Xa ⟨w.heap.size,0,Xb⟩) 0 n) ([]:List α)->wpList Tryz.prog ops Q rest (a.put o.dst (O (Xa ⟨w.heap.size,0,Xb⟩) 0 n)) (w.alloc (Xk C E.ty))):wpList Tryz.prog ops Q (o :: rest) a w:=by
 refine wpList_plain hgd fun K hK=>?_
 obtain⟨i0,hi,hz0,hz1,hz2⟩:=info_parts E.aF;have h2:n*1<=n*E.bytes:=Nat.mul_le_mul_left _ (nT E.pos E.few);have hb:((E.bytes:Int)*(n:Int))<=140737488355328:=by
  obtain⟨B,hB⟩:∃B,n*E.bytes=B:=⟨_,rfl⟩;rw[hB]at hn;rw[<-Int.natCast_mul,Nat.mul_comm,hB];omega
 have hrun:=run_make (P:=Tryz.prog) w E.st E.ty i0 _ E.bV hi hz0 .i64 .i64 0 n (by omega) (by omega) (by rw[hz2];exact Int.le_trans hb (by omega)) (by omega)
 rw[hz1,tN]at hrun;unfold Oper.wp;simp only[execOp,ho,hl,hc,Ym,hrun,Result.andThen,Sem.run_pure,Oper.upon];refine hK _ _ (h _ ⟨World.ownsRow_made w _ n (nR _) (jB (by omega)) (by rw[size_madeCells]),by simp⟩)
theorem zrY {k c:Nat} (e:(zN m (fi:Int) (k:Int)).length=8) (d:c<=8):(Xu (8*k)).map (byD m fi)++(zN m (fi:Int) (k:Int)).take c=(Xu (8*k+c)).map (byD m fi):=by
 apply List.ext_getElem?
 intro i
 by_cases a:i<8*k
 ·rw[Xt (Si a),Ye,Ye,Yl a,Yl Wm]
 rw[aR (by simp;omega),Yj,Yc,Ye]
 by_cases b:i<8*k+c
 ·rw[Yl b,Yp Wm]
  simp only[Option.map_some];unfold byD;rw[show i / 8=k by omega,show i % 8=i - 8*k by omega,gD,gE Wm]
  rfl
 rw[gN (by simp;omega),gN (by simp;omega)]
 rfl
theorem zqj {f:Int} (h:jT m f=0):maW m=0/\0<=f/\f< (m.fl.length:Int):=by
 unfold jT at h
 by_cases e:maW m=0
 ·rw[kF (fun h=>h e)]at h
  split at h
  ·cases h
  omega
 rw[kE e]at h;exact absurd h e
theorem zom (V:MaV) (m:Ma) (file:Int) (w:Xn) (br:zw w V m) (al:jT m file=0):
  Xp prog 89 #[Xi (mL V m).toArray,I6 file] w fun e w'=>Byt m file w e w'/\zc w w':=by
 have ca:Xo (zw w V m):=br;obtain⟨d6,ao,ap⟩:=zqj al;have p:Xo (maW m=0):=d6;have ae:Xo (∀W,zc w W->Xp prog 20 #[Xi (mL V m).toArray] W fun e w'=>e= Xl (I6 0)/\zc W w'):=show∀W,_ from fun W am=>QA V m W (ca.aA am) p.out
 have ad:Xo (∀W,zc w W->Xp prog 70 #[Xi (mL V m).toArray] W fun e w'=>∃B,e= Xl (Xi #[V.f.x,I6 m.aB,V.s.x,V.sb.x,V.sq.x,V.db.x,V.dq.x,V.fl.x,I6 m.cnt,V.ca.x,V.sp.x,.map (Xa B)])/\Zw plK w' B (ZI m.ca)/\zc W w'):=dD<|fun W am=>QV V m W (ca.aA am)
 have aa:Xo (maW m=0->∀W B (a a4:Nat) f a0,zc w W->m.fl[a]? =Xa f->f.bl[a4]? =Xa a0->a4<=1000->Zw plK W B (ZI m.ca)->Xp prog 150 #[Xi #[V.f.x,I6 m.aB,V.s.x,V.sb.x,V.sq.x,V.db.x,V.dq.x,V.fl.x,I6 m.cnt,V.ca.x,V.sp.x,.map (Xa B)],I6 (a:Int),I6 (a4:Int)] W fun e w'=>e= Xl (Xi (pgc (zN m a a4)).toArray)/\(zN m a a4).length=8/\zc W w'):=dD<|fun al W B a a4 f a0 am d4 an ec A=>zcu V m B a a4 f a0 W (ca.aA am) (zol al) d4 an ec (ziZ al d4).1 A
 obtain⟨-,-,-,-,-,-,cl,-,-⟩:=br.ns;obtain⟨_,_,a2,_,ar⟩:=z7.rows br.fl;have a9:Xo (zkx w V.fl.a m.fl):=dD<|by
  simp only[vJ]at a2;rw[a2.1];exact ar
 obtain⟨bs,bt,G,K,D,F,⟨cg,d,t⟩,C,H⟩:=V;dsimp only[mL]at ae ad aa a9 cl⊢;have X:Xo (m.fl.length=d):=cl.symm;have a6:Xo (0<=file/\file< (m.fl.length:Int)):=show _/\_ from⟨ao,ap⟩
 clear br cl a2 ar al d6 ao ap;obtain⟨ag,h⟩:=kB (w.alloc (Xk #[bs.x,I6 m.aB,bt.x,G.x,K.x,D.x,F.x,O cg d t,I6 m.cnt,C.x,H.x] 45));have a5:=gA h
 have g:=xA h
 have r:=sA h
 have cc:Xo (_=ag):=h;clear h
 go_enter func89,ntmps89
 go_upto_region 1 with fail;rw[cc.out];obtain⟨b8,b9,bb,bd,be,bf,bg,L,bh,bi,l⟩:=g.bL;have Q:=ae.out ag a5.out;go_wp2_with fail;refine Q.mono ?_;clear Q b8 b9 bb bd be bf bg L bh bi l;rintro b7 ce ⟨rfl,d3⟩;have b:Xo (zc ag ce):=d3;clear d3;have c8:=show Xo _ from aa.out p.out
 have L:=(g.aA b).c 7 rfl;have P:=QR file (d:Int) ce;go_wp2_with fail;refine P.mono ?_;rintro b7 w' ⟨rfl,j⟩;rw[j];clear j w' P L;have an:bel file (d:Int)=Xc:=Zu.2 ⟨a6.1,by have:=a6.2;have:=X.out;omega⟩
 rw[an];obtain⟨dt,eg⟩:=Zu.1 an;clear an;obtain⟨a,rfl⟩:∃a:Nat,file=(a:Int):=⟨file.toNat,Wm⟩
 obtain⟨f,bm⟩:∃f,Xo (m.fl[a]? =Xa f):=⟨_,gE (by rw[X.out];omega)⟩
 obtain⟨⟨ed,ee⟩,d8⟩:=zi0 p bm.out;obtain⟨z,bn⟩:∃z:Nat,Xo (f.size=(z:Int)):=⟨f.size.toNat,show _=_ by omega⟩
 have d7:z<=96:=Hm bn.out
 obtain⟨M,cq⟩:=kA f.bl.length;have a8:Xo (jH (z:Int)=(M:Int)):=dD<|by rw[<-bn.out,<-cq.out];exact d8.symm
 have ea:8*M<z+8/\z<=8*M:=by
  have:=a8.out;unfold jH at this
  split at this <;> omega
 have a7:Xo (jT m (a:Int)=0):=dD<|by unfold jT;rw[kF (fun e7=>e7 p),kF (by rw[X.out];omega)]
 have bx:Xo (jD m (a:Int)=(Xu z).map (byD m a)):=dD<|by
  unfold jD;rw[kE a7.out];unfold zcD;rw[show(qW m (a:Int)).toNat=z from by unfold qW;rw[tN,gD,bm.out];show f.size.toNat=z;rw[bn.out];rfl]
  rfl
 obtain⟨s,e9,du,dv,_,au⟩:=a9.out a f bm.out;have c9:Xo (∀W,zc w W->zoH W (s.add (a*2)) (z:Int) (O du f.bl.length dv)):=dD<|Ry bn.out au
 subst e9;clear dt ed ee d8 au;have Q:=ad.out ce (a5.trans b);have b8:=(g.aA b).c 0 rfl;have b9:=(g.aA b).c 1 rfl;have bb:=(g.aA b).c 2 rfl;have bd:=(g.aA b).c 3 rfl;have be:=(g.aA b).c 4 rfl;have bf:=(g.aA b).c 5 rfl;have bg:=(g.aA b).c 6 rfl;have L:=(g.aA b).c 7 rfl;have bh:=(g.aA b).c 8 rfl;have bi:=(g.aA b).c 9 rfl;have l:=(g.aA b).c 10 rfl;go_wp2_with fail;refine Q.mono ?_;clear Q b8 b9 bb bd be bf bg L bh bi l;rintro b7 cz ⟨B,rfl,A,ci⟩;go_upto_region 7 with fail;obtain⟨cn,Y⟩:=kA cz.heap.size;obtain⟨ah,v⟩:=kB (cz.alloc (Xk #[bs.x,I6 m.aB,bt.x,G.x,K.x,D.x,F.x,O (Xa s) d t,I6 m.cnt,C.x,H.x,.map (Xa B)] 131));have cj:=gP v
 have dg:Xo (Zw plK ah B (ZI m.ca)):=A.aA cj;have dk:=xPT v Y
 have bo:=dD ((b.trans ci).trans cj);have db:Xo (w.heap.size+1<=cn):=show _<=_ by rw[<-Y.out,<-r.out];exact bS (b.trans ci)
 rw[v,Y.out];clear v ci cj A;have L:=(g.aA bo).c 7 rfl;obtain⟨e4,-⟩:=c9.out ah (a5.trans bo)
 go_wp2_with (refine zda byE rfl (.const (I6 0)) (.tmp 33) rfl z rfl rfl (by show z*1<=_;omega) ?_)
 intro d9 own;obtain⟨cf,x⟩:=kB (ah.alloc (Xk d9 byE.ty));have bq:zc ah cf:=by rw[<-x];exact za _ _
 have dp:Xo (zb byE (w.heap.size+1) cf (O (Xa ⟨ah.heap.size,0,Xb⟩) 0 z) ((Xu 0).map (byD m a))):=dD<|by
  rw[x]at own;exact own.base (by rw[<-r.out];exact bS bo)
 have dh:=dD (dg.aA bq);have dl:=dD (dk.aA bq);have dd:=dD (bo.trans bq);have a1:=zbM (z:Int) cf Wm Wm
 rw[a8.out]at a1;rw[x];clear x bq own L e4;go_wp2_with fail;refine a1.mono ?_;rintro b7 w' ⟨rfl,j⟩;rw[j];clear j w' a1;go_wp2
 go_loopg [9,37] M (fun e5 ef co wr=>∃(k n:Nat) (bu:Option Addr) (bv:Nat),k<=M/\M - k<=e5/\n=min (8*k) z/\co=I6 k/\ef= O bu n bv/\Xo (zc ag wr)/\Xo (zb byE (w.heap.size+1) wr (O bu n bv) ((Xu n).map (byD m a)))/\Xo (Zw plK wr B (ZI m.ca))/\Xo (zl wr cn 131 [bs.x,I6 m.aB,bt.x,G.x,K.x,D.x,F.x,O (Xa s) d t,I6 m.cnt,C.x,H.x,.map (Xa B)]))
 exact⟨0,0,_,_,nZ _,Wm,Wm,rfl,rfl,dd,dp,dh,dl⟩
 obtain⟨k,n,bu,bv,eh,eb,d5,rfl,rfl,cd,cy,cv,cx⟩:=hrel;have cr:Xo (n=min (8*k) z):=d5;clear d5
 by_cases a3:k<M
 ·have av:=kC a3
  have q:Xo (n=8*k):=dD<|Hm cr.out
  obtain⟨a0,bw⟩:∃a0,Xo (f.bl[k]? =Xa a0):=⟨_,gE (Rx cq.out a3)⟩
  have Q:=c8.out wr B a k f a0 (a5.trans cd) bm bw Wm cv.out
  obtain⟨b8,b9,bb,bd,be,bf,bg,L,bh,bi,l,cp⟩:=cx.box.c12;go_wp2_with fail;refine Q.mono ?_;clear Q b8 b9 bb bd be bf bg L bh bi l cp;rintro b7 d1 ⟨rfl,i,ai⟩;obtain⟨cm,cs⟩:=kA (zN m (a:Int) (k:Int));obtain⟨c,bz⟩:∃c:Nat,Xo (c=min (z - 8*k) 8):=⟨_,rfl⟩;have aq:c<=8:=Hm bz.out
  have U:Xo ((Xu n).map (byD m a)++cm.take c=(Xu (n+c)).map (byD m a)):=dD<|by
   rw[q.out,<-cs.out];exact zrY i aq
  rw[cs.out]at i⊢;have da:Xo (cm.length=8):=i;obtain⟨ax,ay,az,b2,b3,b4,b5,b6,rfl⟩:=zba cm i;simp only[pgc,mP,List.map_nil];go_upto_region 13 with fail;obtain⟨ei,ac⟩:=kA d1.heap.size;obtain⟨ds,y⟩:=kB (d1.alloc (Xk #[U8 ax,U8 ay,U8 az,U8 b2,U8 b3,U8 b4,U8 b5,U8 b6] 91));have aj:=gP y
  have dr:=xP y ac
  have de:=dD ((cd.trans ai).trans aj);have dq:=dD ((cy.aA ai).aA aj);have di:=dD ((cv.aA ai).aA aj);have dm:=dD ((cx.aA ai).aA aj);rw[y,ac.out];clear y ai aj i;have R:=ziz [ax,ay,az,b2,b3,b4,b5,b6] c ds rfl aq;have S:min ((z:Int) -(n:Int)) 8=(c:Int):=by have:=q.out;have:=bz.out;omega
  obtain⟨dw,dx,dy,dz,e0,e1,e2,e3⟩:=dr.c8;go_wp2_with fail;try rw[S]
  refine R.mono ?_;clear R S dw dx dy dz e0 e1 e2 e3;rintro b7 d2 ⟨e6,rfl,N,ak⟩;have ct:=dD (de.trans ak);have af:=dD (dq.aA ak);have cu:=dD (di.aA ak);have cw:=dD (dm.aA ak);have ab:Xo (zj byE d2 e6 ([ax,ay,az,b2,b3,b4,b5,b6].take c)):=N.at;have T:Xo (((Xu n).map (byD m a)).length=n):=show _=_ by simp
  have Z:Xo (([ax,ay,az,b2,b3,b4,b5,b6].take c).length=c):=dD<|by rw[Xv];show min c 8=c;omega
  have cb:Xo (w.heap.size+1<=d2.heap.size):=dD<|by rw[<-r.out];exact bS ct.out
  generalize(Xu n).map (byD m a)=acc at af U T
  generalize [ax,ay,az,b2,b3,b4,b5,b6].take c=I at ab U Z
  clear N ak
  go_wp2_with (at_builtin;refine zu (E:=byE) rfl (.tmp 44) (.tmp 51) rfl (w.heap.size+1) _ acc rfl af _ I rfl ab.out ?qb ?qc ?_)
  case qb=>
   show(acc.length+I.length)*1<=_
   have:=T.out;have:=Z.out;have:=q.out;omega
  case qc=>exact cb.out
  intro ej bp own u;obtain⟨bj,bl,aw⟩:=own.form;rw[show(acc++I).length=n+c from by rw[lA,T.out,Z.out]]at aw
  subst aw;have On:Xo (zb byE (w.heap.size+1) bp (O bj (n+c) bl) ((Xu (n+c)).map (byD m a))):=dD<|Ry U.out own
  have df:Xo (zc ag bp):=dD<|zU ct u (fun ch ck=>by
   have e8:=(af.lt ch ck).1;rw[r.out];exact e8)
  have dj:Xo (Zw plK bp B (ZI m.ca)):=cu.kept u (fun e=>by
   exact af.bM cu _ e.symm rfl)
  have dn:Xo (zl bp cn 131 [bs.x,I6 m.aB,bt.x,G.x,K.x,D.x,F.x,O (Xa s) d t,I6 m.cnt,C.x,H.x,.map (Xa B)]):=cw.beside u (fun ch ck=>af.ne cw Dc ch ck)
  clear own u;go_wp2
  go_roundg (M -(k+1));exact⟨k+1,n+c,bj,bl,Wm,Wm,by have:=q.out;have:=bz.out;omega,Gn,rfl,df,On,dj,dn⟩;omega
 have av:=kD a3
 obtain rfl:n=z:=Hm cr.out
 have dc:Xo (Byt m (a:Int) w (Xl (Xm #[O bu n bv,I6 0])) wr):=⟨_,by rw[a7.out],by rw[bx.out];exact cy.base (Oh _)⟩
 go_wp2
 go_ret2
 exact⟨dc,a5.trans cd⟩
def zqs (m:Ma) (file:Int) (i z:Nat) (er n:Int) (l:List Int) (m':Ma):Prop:=er=0/\n=(z:Int)/\l=((jD m file).drop i).take z/\m'=m
theorem zqS {j i z e:Nat} {L:List Int} (h:zj byE W (O (Xa ⟨g,0,Xb⟩) L.length j) L) (s:i+z<=L.length):zj byE W (O (Xa ⟨g,i,Xb⟩) z e) ((L.drop i).take z):=by
 have hlen:((L.drop i).take z).length=z:=by simp;omega
 have f:=h.2;refine⟨⟨Xa ⟨g,i,Xb⟩,e,by rw[hlen],fun l=>(by cases l),fun y q=>?_⟩,by rw[hlen];have:z*byE.bytes<=L.length*byE.bytes:=Yh _ Wm;omega⟩
 cases q;intro k v a;have m:(((L.drop i).take z).flatMap byE.enc)=((L.drop i).take z).map fun x=>U8 x:=(List.map_eq_flatMap ..).symm
 rw[m,Ye]at a
 cases b:((L.drop i).take z)[k]? with
 | none=>rw[b]at a;cases a
 | some x=>
  rw[b]at a;cases a;have d:k<z:=by
   have:=(gS.1 b).1;omega
  rw[Yp d,List.getElem?_drop]at b;obtain⟨r,c,p⟩:=h.bC (i+k) x b;cases c;have:=p W (zc.refl _) 0 _ rfl;rw[qO,Ys]at this;rw[Ys];have n:0+((i+k)*1+0)=i+k:=Wm
  rw[show byE.k=1 from rfl,n]at this
  exact this
theorem ChW.still {u w:Xn} {p:Nat} (h:ChW w0 noX p u V m) (b:zc u w) (a:zk (fun k=>u.heap.size<=k) w w') (c:zk (Aft w0 u w) w' W):zw W V m:=by
 refine h.cF ?_;refine⟨?_,?_,?_,?_,fun i d g=>?_⟩
 ·exact c.os.trans (a.os.trans (Below.os b))
 ·exact c.tape.trans (a.tape.trans (Below.tape b))
 ·exact c.output.trans (a.output.trans (Below.output b))
 ·exact nT (bS b) (nT a.size c.size)
 have f:=bS b;rw[c.block i (Xs d (nT f a.size)) (fun e=>by rcases e with e | e;exact g e;omega),a.block i Wm (fun e=>Wm)]
 exact Below.block b i d
theorem znm {u w:Xn} {p:Nat} (F:ChW w0 noX p u V m) (a5:zc u w) (c:Cl) (i y z:Nat) (hi:c.pt=(i:Int)) (au:c.n=(y:Int)) (af:jT m c.file=0) (ak:i+z<=(jD m c.file).length) (Y:0<z) (ar:min y ((jD m c.file).length - i)=z):
  Xp prog 44 #[Xj (Xa ⟨p,0,Xb⟩),Xi #[I6 c.kind,I6 c.aC,I6 c.pt,I6 c.n,I6 c.file,I6 c.base,Xh c.rd,Xh c.wr,Xh c.sh,c.dv.x]] w fun e w'=>ZQ (zqs m c.file i z) w0 p u w e w':=by
 have a9:Xo (ChW w0 noX p u V m):=F;have s:Xo (zc u w):=a5;obtain⟨n,K⟩:=kA w.heap.size;obtain⟨a,g⟩:=kB ((w.alloc (Xk #[I6 c.kind,I6 c.aC,I6 c.pt,I6 c.n,I6 c.file,I6 c.base,Xh c.rd,Xh c.wr,Xh c.sh,c.dv.x] 25)).alloc (Xk #[I6 0,I6 0,eS] 54));have G:=gD2 g
 have P:Xo (zl a n 25 [I6 c.kind,I6 c.aC,I6 c.pt,I6 c.n,I6 c.file,I6 c.base,Xh c.rd,Xh c.wr,Xh c.sh,c.dv.x]):=dD<|by rw[<-g];exact(zl.aE w [I6 c.kind,I6 c.aC,I6 c.pt,I6 c.n,I6 c.file,I6 c.base,Xh c.rd,Xh c.wr,Xh c.sh,c.dv.x] _ K.symm).aA (za _ _)
 have A1:Xo (zl a (n+1) 54 [I6 0,I6 0,eS]):=dD<|by rw[<-g];exact zl.aE _ [I6 0,I6 0,eS] _ (by have:=K.out;simp;omega)
 have a7:Xo (n+1<a.heap.size):=A1.box.lt;have H:Xo (zc u a):=show zc _ _ from a5.trans G.out
 have d:Xo (zl a p 88 (chL V m)):=F.box.aA H.out;have N:Xo (p<u.heap.size):=F.aM p (.inl rfl);have C:Xo (u.heap.size<=n):=show _<=_ by rw[<-K.out];exact bS a5
 have b0:Xo (w0.heap.size<=n):=dD<|by have:=F.lo;have:=N.out;have:=C.out;omega
 have aa:Xo (_=a):=g;have a0:=P.box.c 2 rfl;have a4:=P.box.c 3 rfl;have az:Xo (c.pt=(i:Int)):=hi;have b2:Xo (c.n=(y:Int)):=au;rw[hi]at a0;rw[au]at a4;obtain⟨L,v⟩:=kA (jD m c.file);rw[v.out]at ak ar;have a8:Xo (∀W,zc a W->Xp prog 89 #[Xi (mL V m).toArray,I6 c.file] W fun e w'=>(∃t:Sli,e= Xl (Xm #[t.x,I6 0])/\zb byE a.heap.size w' (t.x) L)/\zc W w'):=show∀W,_ from fun W r=>by
  refine(zom V m c.file W ((F.at.aA H).aA r) af).mono ?_;rintro e w' ⟨⟨I,rfl,T⟩,R⟩;rw[af];rw[v.out]at T;obtain⟨bm,bn,rfl⟩:=T.form;exact⟨⟨⟨bm,_,bn⟩,rfl,T.base (bS r)⟩,R⟩
 have f:Xo (i+z<=L.length/\0<z/\min y (L.length - i)=z):=dD<|⟨ak,Y,ar⟩
 have ah:decide ((i:Int)<0)=Xd:=decide_eq_false Wm
 have ai:decide ((y:Int)<0)=Xd:=decide_eq_false Wm
 clear g F a5 hi au af ak Y ar
 go_enter func44,ntmps44
 go_upto_region 1 with fail;rw[aa.out,K.out];go_upto_region 3 with fail;clear ah ai a0 a4;have b1:Xo ((Tryz.prog.info? 45).map (·.size)=Xa (chL V m).length):=dD<|Kr
 have aq:=fun y:zf a=>(P.box.aA y.aA).c 4 rfl
 have b4:=fun y:zf a=>(d.box.aA y.aA).c 0 rfl
 have b6:=fun y:zf a=>(d.box.aA y.aA).c 1 rfl
 have b7:=fun y:zf a=>(d.box.aA y.aA).c 2 rfl
 have b8:=fun y:zf a=>(d.box.aA y.aA).c 3 rfl
 have b9:=fun y:zf a=>(d.box.aA y.aA).c 4 rfl
 have ba:=fun y:zf a=>(d.box.aA y.aA).c 5 rfl
 have bb:=fun y:zf a=>(d.box.aA y.aA).c 6 rfl
 have bc:=fun y:zf a=>(d.box.aA y.aA).c 7 rfl
 have bd:=fun y:zf a=>(d.box.aA y.aA).c 8 rfl
 have be:=fun y:zf a=>(d.box.aA y.aA).c 9 rfl
 have ae:=fun y:zf a=>(d.box.aA y.aA).c 10 rfl
 have ao:Nonempty (zf a):=⟨⟨_,zc.refl _⟩⟩;refine qx [(6,⟨fun I=>∃t:Sli,I= Xm #[t.x,I6 0],fun I W=>∃t:Sli,I= Xm #[t.x,I6 0]/\zb byE a.heap.size W (t.x) L⟩)] zW Kr ?_ ?_ ?_
 ·intro x X;simp only[mC,nM,or_false]at X;subst X;exact⟨_,noS,rfl⟩
 ·intro x X;simp only[mC,nM,or_false]at X;subst X;rintro I u bs R ⟨t,a6,bf⟩;exact⟨t,a6,bf.aA R⟩
 refine qR rfl rfl rfl (fun b3 ax=>?_);go_big_quiet_op;refine ax _ ?_;clear ax b3
 refine jG (.tmp 17) ⟨p,0,Xb⟩ rfl rfl rfl rfl ?_;refine Uq ?_;iterate 4 refine ze ?_
 refine zx rfl rfl (fun w' R ag=>?_) (fun bt bi=>?_)
 ·refine zP.call [Xi (mL V m).toArray,I6 c.file] rfl func89 rfl rfl rfl ?_;refine(a8 w' R).mono ?_;rintro e bo ⟨⟨t,rfl,T⟩,aj⟩;exact⟨_,rfl,aj,⟨t,rfl⟩,t,rfl,T⟩
 obtain⟨t,rfl⟩:=bi;refine Uq ?_;iterate 5 refine ze ?_
 refine zL fun ab Q ag=>?_
 obtain⟨av,U,l⟩:=ag 6;have ap:av=t:=by
  have a6:(Value.tuple #[t.x,I6 0])= Xm #[av.x,I6 0]:=U;simp only[Value.tuple.injEq,Array.mk.injEq,List.cons.injEq,vJ,and_true]at a6;obtain⟨bp,bq,br⟩:=a6;cases t;cases av
  simp_all
 subst ap;clear U ag b4 b6 b7 b8 b9 ba bb bc bd be ae aq ao;have h:Xo (zc a ab):=Q;have a0:=(P.aA Q).box.c 2 rfl;have a4:=(P.aA Q).box.c 3 rfl;rw[az.out]at a0;rw[b2.out]at a4;have A2:=dD (A1.aA Q);have b:=l.cap;obtain⟨D,q,j⟩:=l.aJ (Hm f.out)
 have B:Xo (zb byE a.heap.size ab (O (Xa ⟨D,0,Xb⟩) L.length q) L):=dD<|Ry j l
 rw[j]at b;have b:L.length<=q:=b;rw[j];obtain⟨Z,A⟩:=kA L.length;have bg:i+z<=Z:=Ry A.out f.1
 have bl:0<z:=f.2.1;have bj:min y (Z - i)=z:=Ry A.out f.2.2
 rw[A.out]at b⊢;clear Q l j;have am:min (i:Int) (Z:Int)=(i:Int):=Wm
 have an:min (y:Int) ((Z - i:Nat):Int)=(z:Int):=Wm
 have bk:z<=Z - i:=Wm
 go_upto_region 8 with fail;clear a0 a4 am an
 go_wp2_with (refine zm rfl 54 (.tmp 4) (.tmp 47) rfl (n+1) rfl [I6 0,I6 (z:Int),O (Xa ⟨D,i,Xb⟩) z (q - i)] rfl A2 rfl Kr (by simp[Value.oneCell']) ?_)
 intro ac aw E _;have ay:Xo (zl ac (n+1) 54 [I6 0,I6 (z:Int),O (Xa ⟨D,i,Xb⟩) z (q - i)]):=aw;have M:Xo (ZQ (zqs m c.file i z) w0 p u w (Xl (Ju 0 (z:Int) ⟨Xa ⟨D,i,Xb⟩,z,q - i⟩)) ac):=show ZQ _ _ _ _ _ _ _ from by
  have al:∀k,(O (Xa ⟨D,0,Xb⟩) L.length q).ownBlock=Xa k->a.heap.size<=k:=fun k S=>(B.lt k S).1
  have ad:∀W,zk (Aft w0 u w) ac W->zk (fun k=>k<a.heap.size) ab W:=fun W r=>(zk.grown E a7).trans (r.wide fun k S=>by
   have:=bS G.out;have:=bS a9.gr;have:=bS s.out
   rcases S with e|e
   ·omega
   have:=e.2
   omega)
  refine⟨0,(z:Int),⟨Xa ⟨D,i,Xb⟩,z,q - i⟩,(L.drop i).take z,V,m,rfl,⟨rfl,rfl,by rw[v.out],rfl⟩,(zk.aA (G.trans h)).beyond E (Hm K.out),zd (((a9.gr.trans s).trans G).trans h) E (Hm b0.out),fun W r=>?_,fun _=>⟨(d.aA h).beside E (fun k e=>by cases e;have:=N.out;have:=C.out;omega),fun W r=>?_⟩⟩
  ·have bh:zb byE a.heap.size W (O (Xa ⟨D,0,Xb⟩) L.length q) L:=⟨jm B.1 (ad W r) (fun k S e=>Hm (al k S)),B.2⟩
   exact zqS bh.at f.1
  exact a9.still (w:=w) s (((zk.aA (G.trans h))).trans (zk.grown E (Hm C.out))) r
 clear aw E;go_wp2;refine bodyPost_ret (zE rfl _ rfl ay.box underlying54 rfl Kr) rfl M.out
theorem zid (w:Xn) (m:Ma) (c:Cl) (i y z:Nat) (f:c.kind=9) (j:0<=c.file/\c.file< (m.fl.length:Int)) (hi:c.pt=(i:Int)) (p:c.n=(y:Int)) (b:jT m c.file=0) (k:i+z<=(jD m c.file).length) (a:0<z) (n:min y ((jD m c.file).length - i)=z):J8 w m c (zqs m c.file i z):=by
 intro u W t q v s h l;obtain⟨g,rfl,e⟩:=l.2.2.2.2.2.2.2.2.1 f;exact⟨88,#[Xj (Xa ⟨g,0,Xb⟩)],rfl,zar,zbr h c j g 44 _ (enters_of func44 Kr rfl) e fun r d=>znm h d c i y z hi p b k a n⟩
def clZ:Xq:= Xi #[Xe Xf 0,Xe Xf 0,Xe Xf 0,Xe Xf 0,Xe Xf 0,Xe Xf 0,Xh Xd,Xh Xd,Xh Xd,O Xb 0 0]
theorem ztN:(Tryz.prog.info? 25).map (fun i=>(i.zero,i.size,i.bytes))=Xa (Xa clZ,10,80):=by kernel_rfl
def clE:Elt Cl where
 enc:=clL
 k:=10
 ty:=25
 st:=29
 bytes:=80
 zv:=clZ
 zero:=⟨0,0,0,0,0,0,Xd,Xd,Xd,noS⟩
 len:=fun _=>rfl
 one:=fun a u hu=>by
  simp only[clL,mC,nM,or_false]at hu
  rcases hu with rfl|rfl|rfl|rfl|rfl|rfl|rfl|rfl|rfl|rfl <;> rfl
 bV:=underlying29
 aF:=ztN
 zok:=rfl
 few:=by decide
 pos:=by decide
structure An where
 er:Int
 n:Int
 s:Sli
def anL (a:An):List Xq:=[Xe Xf a.er,Xe Xf a.n,O a.s.a a.s.n a.s.c]
def anZ:Xq:= Xi #[Xe Xf 0,Xe Xf 0,O Xb 0 0]
theorem ztO:(Tryz.prog.info? 54).map (fun i=>(i.zero,i.size,i.bytes))=Xa (Xa anZ,3,40):=by kernel_rfl
def anE:Elt An where
 enc:=anL
 k:=3
 ty:=54
 st:=46
 bytes:=40
 zv:=anZ
 zero:=⟨0,0,noS⟩
 len:=fun _=>rfl
 one:=fun a u hu=>by
  simp only[anL,mC,nM,or_false]at hu
  rcases hu with rfl|rfl|rfl <;> rfl
 bV:=underlying46
 aF:=ztO
 zok:=rfl
 few:=by decide
 pos:=by decide
def zea (w:Xn) (ys:List An) (az:List (Int × Int × List Int)):Prop:=
 ∀(j:Nat) (a:Int × Int × List Int),az[j]? =Xa a->∃x,ys[j]? =Xa x/\x.er=a.1/\x.n=a.2.1/\zj byE w (O x.s.a x.s.n x.s.c) a.2.2
theorem zpN {D:Nat->Prop} {w:Xn} (g:zc w w1) (o:zk D w1 W) (c:∀k,D k->w.heap.size<=k):zc w W:=
 ⟨o.os.trans (Below.os g),o.tape.trans (Below.tape g),o.output.trans (Below.output g),nT (bS g) o.size,fun b a=>(o.block b (Xs a (bS g)) (fun e=>Hm (c b e))).trans (Below.block g b a)⟩
theorem zea.step {w:Xn} {b:List An} {az:List (Int × Int × List Int)} {c n:Int} {l:List Int} {s:Sli} (m:az.length=kk) (k:kk<b.length) (h:zea w b az) (p:zj byE w (s.x) l):zea w (b.set kk ⟨c,n,s⟩) (az++ [(c,n,l)]):=by
 intro j d a
 by_cases e:j=kk
 ·subst e;rw[aR Wm,m,Nat.sub_self]at a
  cases a;exact⟨_,sF k,rfl,rfl,p⟩
 have i:j<az.length:=by
  have:=(gS.1 a).1
  simp at this
  omega
 rw[Xt i]at a;obtain⟨x,f,g⟩:=h j d a;exact⟨x,by rw[sN (fun h=>e h.symm)];exact f,g⟩
theorem jc.cl10 {y:Addr} {c:Cl} (h:jc W y (clL c)):W.cell? y=Xa (I6 c.kind)/\W.cell? { block:=y.block,off:=y.off+1 }=Xa (I6 c.aC)/\W.cell? { block:=y.block,off:=y.off+2 }=Xa (I6 c.pt)/\W.cell? { block:=y.block,off:=y.off+3 }=Xa (I6 c.n)/\W.cell? { block:=y.block,off:=y.off+4 }=Xa (I6 c.file)/\W.cell? { block:=y.block,off:=y.off+5 }=Xa (I6 c.base)/\W.cell? { block:=y.block,off:=y.off+6 }=Xa (Xh c.rd)/\W.cell? { block:=y.block,off:=y.off+7 }=Xa (Xh c.wr)/\W.cell? { block:=y.block,off:=y.off+8 }=Xa (Xh c.sh)/\W.cell? { block:=y.block,off:=y.off+9 }=Xa (c.dv.x):=
 ⟨h 0 _ rfl,h 1 _ rfl,h 2 _ rfl,h 3 _ rfl,h 4 _ rfl,h 5 _ rfl,h 6 _ rfl,h 7 _ rfl,h 8 _ rfl,h 9 _ rfl⟩
def zsJ (n:Nat) (J:Nat->Ma->List (Int × Int × List Int)->Prop) (e:Ending) (w':Xn):Prop:=
 ∃(V:MaV) (m:Ma) (ga:Nat) (ys:List An) (az:List (Int × Int × List Int)),e= Xl (Xm #[Xi #[O V.f.a V.f.n V.f.c,Xe Xf m.aB,O V.s.a V.s.n V.s.c,O V.sb.a V.sb.n V.sb.c,O V.sq.a V.sq.n V.sq.c,O V.db.a V.db.n V.db.c,O V.dq.a V.dq.n V.dq.c,O V.fl.a V.fl.n V.fl.c,Xe Xf m.cnt,O V.ca.a V.ca.n V.ca.c,O V.sp.a V.sp.n V.sp.c],O (Xa ⟨ga,0,Xb⟩) n n,Xe Xf 0])/\J n m az/\zj anE w' (O (Xa ⟨ga,0,Xb⟩) n n) ys/\zea w' ys az
theorem zjL (G cs x:Int) (Q:zst G cs x) (v:Xq) (p:List Cl) (w:Xn) (c1:zj clE w v p) (bf:p.length<=80) (J:Nat->Ma->List (Int × Int × List Int)->Prop) (af:J 0 (ZC G cs x) [])
  (bz:∀(i:Nat) (c:Cl) (m:Ma) f,p[i]? =Xa c->f.length=i->J i m f->maW m=0/\(1<=c.kind/\c.kind<=15)/\∃K,(∀W,zc w W->J8 W m c K)/\∀d n l m' h,K d n l m'->((d=0/\h=m')\/(d≠0/\h=m))->J (i+1) h (f++ [(d,n,l)])):
  Xp prog 11 #[Xi #[I6 G,I6 cs,I6 x],v] w fun e w'=>zsJ p.length J e w'/\zc w w':=by
 obtain⟨e5,eb,rfl,R⟩:=c1.rows;have ac:Xo (∀(bg:Nat) c4,p[bg]? =Xa c4->∃bc,e5=Xa bc/\∀W,zc w W->jc W (bc.add (bg*10)) (clL c4)):=dD<|R
 obtain⟨n,bm⟩:=kA p.length;rw[bm.out]at bf⊢;have a8:Xo (J 0 (ZC G cs x) []):=af;have co:=show Xo _ from bz
 have ah:decide (80<n)=Xd:=decide_eq_false Wm
 obtain⟨t,Y⟩:=kA w.heap.size;obtain⟨ar,D⟩:=kB ((w.alloc (Xk #[I6 G,I6 cs,I6 x] 51)).alloc (Xk zM.toArray 45));have ce:=gD2 D
 have df:Xo (zl ar t 51 [I6 G,I6 cs,I6 x]):=dD<|by rw[<-D];exact(zl.aE w [I6 G,I6 cs,I6 x] _ Y.symm).aA (za _ _)
 have dg:Xo (zl ar (t+1) 45 qj):=dD<|by rw[<-D];exact zl.aE _ qj _ (by have:=Y.out;simp;omega)
 have b2:Xo (_=ar):=D;have an:=zjT G cs x Q ar;clear D c1 R bz af Q
 go_enter func11,ntmps11
 go_upto_region 1 with fail;rw[b2.out,Y.out];obtain⟨e6,e7,e8⟩:=df.box.c3
 go_wp2_with (go_at_call 13;refine an.mono ?_)
 clear an e6 e7 e8;rintro e Z ⟨⟨V,rfl,am,_,_⟩,bd⟩;have b5:Xo (zw Z V (ZC G cs x)):=am;have cg:=dD (ce.trans bd);have bq:=dD (dg.aA bd);obtain⟨q,aq⟩:=kA Z.heap.size;have z:Xo (t+1<q):=show _<_ by rw[<-aq.out];exact bq.box.lt
 obtain⟨S,aa⟩:=kA (ZC G cs x);have a7:Xo (S.aB=0/\S.cnt=x):=dD<|by rw[<-aa.out];exact⟨rfl,rfl⟩
 have b4:Xo (∀v∈chL V S,v.oneCell'=Xc):=dD<|by simp[chL,Value.oneCell']
 rw[aa.out]at b5 a8;have ag:chL V S=[V.f.x,I6 0,V.s.x,V.sb.x,V.sq.x,V.db.x,V.dq.x,V.fl.x,I6 x,V.ca.x,V.sp.x]:=by
  unfold chL;rw[a7.1,a7.2]
 have aw:Xo (_=_):=ag;clear am bd ag
 go_upto_region 2 with(refine zm rfl 45 (.tmp 7) (.tmp 15) rfl Z.heap.size rfl (chL V S) (Rr aw.out) (zl.aE Z qj _ rfl) (by rfl) Kr b4.out ?_)
 intro I bt bw e1;clear e1;have B:zc Z I:=zd (za _ _) bw (nR _);have bo:Xo (zl I q 45 (chL V S)):=dD<|Ry aq.out bt
 have ch:=dD (cg.trans B);have dh:=dD (bq.aA B);have e9:=dD (b5.aA B);rw[aq.out];have a6:Xo (zc Z I):=B;clear bt bw B;go_upto_region 6 with fail;clear ah
 go_wp2_with (refine qv anE rfl (.tmp 26) rfl n rfl (by show n*40<=_;omega) ?_)
 intro cc bh;obtain⟨a,H⟩:=kA I.heap.size;obtain⟨bb,M⟩:=kB (I.alloc (Xk cc anE.ty));have C:zc I bb:=by rw[<-M];exact za _ _
 rw[M,H.out]at bh;rw[M,H.out];have cw:Xo (zb anE a bb (O (Xa ⟨a,0,Xb⟩) n n) (Xr n anE.zero)):=bh;have db:=dD (bo.aA C);have ci:=dD (ch.trans C);have di:=dD (dh.aA C);have A:Xo (q<a):=show _<_ by rw[<-H.out];exact bo.box.lt
 have cp:Xo (∀W,zk (fun k=>k=q\/k=a) bb W->zw W V S):=dD<|fun W g=>b5.aA (zpN (a6.trans C) g fun k y=>by have:=aq.out;have:=H.out;have:=bS a6.out;rcases y with e | e <;> omega)
 clear bh M C;go_wp2
 go_loopg [30] n (fun dx bi wr=>∃(b:Nat) (V:MaV) (m:Ma) (s:List An) (f:List (Int × Int × List Int)),b<=n/\n - b<=dx/\bi=I6 b/\Xo (zc w wr)/\Xo (zl wr q 45 (chL V m))/\Xo (zl wr (t+1) 45 qj)/\Xo (zb anE a wr (O (Xa ⟨a,0,Xb⟩) n n) s)/\Xo (f.length=b/\s.length=n/\J b m f)/\Xo (∀W,zk (fun k=>k=q\/k=a) wr W->zw W V m)/\Xo (∀W,zk (fun k=>k=q\/k=a\/k=t+1) wr W->zea W s f))
 exact⟨0,V,S,_,[],nZ _,Wm,rfl,ci,db,di,cw,show _/\_/\_ from⟨rfl,Sm,a8⟩,cp,show∀W,_ from fun W g bg ea dy=>by cases dy⟩
 obtain⟨b,V,m,s,f,e0,dz,rfl,av,ba,bs,b6,j,cv,bj⟩:=hrel
 by_cases F:b<n
 ·have ak:=kC F
  obtain⟨c,bl⟩:∃c,Xo (p[b]? =Xa c):=⟨_,gE (Rx bm.out F)⟩
  obtain⟨bc,rfl,c0⟩:=ac.out b c bl.out;obtain⟨dm,dn,dp,dq,dr,ds,dt,du,dv,dw⟩:=jc.cl10 (c0 wr av);clear c0;obtain⟨bx,aj,K,ap,ao⟩:=co.out b c m f bl j.1 j.2.2;go_upto_region 10 with fail;clear dm dn dp dq dr ds dt du dv dw;obtain⟨c3,ab⟩:=kA wr.heap.size;obtain⟨L,N⟩:=kB (wr.alloc (Xk #[I6 c.kind,I6 c.aC,I6 c.pt,I6 c.n,I6 c.file,I6 c.base,Xh c.rd,Xh c.wr,Xh c.sh,c.dv.x] 25));have X:=gP N
  have cd:Xo (zl L c3 25 (clL c)):=dD<|by rw[<-N];exact zl.aE _ (clL c) _ ab.symm
  rw[N,ab.out];have bk:=dD (av.trans X);have b8:=dD (ba.aA X);have br:=dD (bs.aA X);have bn:=dD (b6.aA X);have cq:Xo (∀W,zk (fun k=>k=q\/k=a) L W->zw W V m):=show∀W,_ from fun W g=>cv.out W ((zk.aA X).trans g)
  have c5:Xo (∀W,zk (fun k=>k=q\/k=a\/k=t+1) L W->zea W s f):=dD<|fun W g=>bj.out W ((zk.aA X).trans g)
  have b0:Xo (∀d n l m' h,K d n l m'->((d=0/\h=m')\/(d≠0/\h=m))->J (b+1) h (f++ [(d,n,l)])):=ao;have ai:=zsu V m L (cq L (zk.refl _ _)) bx c K aj (ap L bk);have T:Xo ((Tryz.prog.info? 45).map (·.size)=Xa (chL V m).length):=show _=_ by kernel_rfl
  have b1:Xo ((Tryz.prog.info? 25).map (·.size)=Xa (clL c).length):=dD<|Kr
  clear N X bx aj ap ao
  go_wp2_with (first | refine zp rfl 45 (.tmp 7) rfl q rfl b8.box underlying45 rfl T.out ?_ | refine zp rfl 25 (.tmp 11) rfl c3 rfl cd.box underlying25 rfl b1.out ?_ | (go_at_call 14;refine ai.mono ?_))
  clear ai;rintro e bp ⟨⟨d,u,a5,l,m',h,P,rfl,y,al,r⟩,a2⟩;have ay:Xo (J (b+1) h (f++ [(d,u,l)])):=b0.out d u l m' h y al;have a9:Xo (q<L.heap.size/\a<L.heap.size/\t+1<L.heap.size):=show _/\_/\_ from⟨b8.box.lt,(bn.lt a rfl).2,br.box.lt⟩
  have cj:=dD (bk.trans a2);have dc:=dD (b8.aA a2);have dj:=dD (br.aA a2);have cx:=dD (bn.aA a2);have cr:Xo (∀W,zk (fun k=>k=q\/k=a) bp W->zw W P h):=show∀W,_ from fun W g=>(r W (g.wide fun k y=>by have:=a9.out;rcases y with e | e <;> omega)).1
  have c6:Xo (∀W,zk (fun k=>k=q\/k=a\/k=t+1) bp W->zea W (s.set b ⟨d,u,a5⟩) (f++ [(d,u,l)])):=dD<|fun W g=>zea.step j.1 (Rx j.2.1 F) (c5 W ((zk.aA a2).trans g)) (r W (g.wide fun k y=>by have:=a9.out;rcases y with e | e | e <;> omega)).2
  have U:Xo (∀v∈chL P h,v.oneCell'=Xc):=dD<|by simp[chL,Value.oneCell']
  clear y al r a2;unfold Ju
  go_wp2_with (refine zm rfl 45 (.tmp 7) (.tmp 41) rfl q rfl (chL P h) rfl dc rfl Kr U.out ?_)
  intro a0 bu a3 e2;clear e2;have ck:Xo (zc w a0):=dD<|zd cj a3 (by have:=z.out;have:=Y.out;omega)
  have dd:Xo (zl a0 q 45 (chL P h)):=bu;have dk:Xo (zl a0 (t+1) 45 qj):=show zl _ _ _ _ from dj.beside a3 (fun k e=>by cases e;have:=z.out;omega)
  have cy:Xo (zb anE a a0 (O (Xa ⟨a,0,Xb⟩) n n) s):=dD<|cx.grown a3 (fun k y e=>by
   have be:Xa a=Xa k:=y;simp only[Option.some.injEq]at be e;have:=A.out
   omega)
  have ct:Xo (∀W,zk (fun k=>k=q\/k=a) a0 W->zw W P h):=dD<|fun W g=>cr.out W ((zk.grown a3 (.inl rfl)).trans g)
  have c7:Xo (∀W,zk (fun k=>k=q\/k=a\/k=t+1) a0 W->zea W (s.set b ⟨d,u,a5⟩) (f++ [(d,u,l)])):=dD<|fun W g=>c6.out W ((zk.grown a3 (.inl rfl)).trans g)
  clear bu a3
  go_wp2_with (refine qg (E:=anE) rfl (.tmp 43) (.tmp 42) rfl a _ s cy a b rfl ⟨d,u,a5⟩ (Rx j.2.1 F) ⟨a,b*3,Xb⟩ rfl rfl _ rfl rfl ?_)
  intro a1 c2 a4 e3;clear e3;have cl:Xo (zc w a1):=dD<|zd ck a4 (by have:=A.out;have:=z.out;have:=Y.out;omega)
  have de:Xo (zl a1 q 45 (chL P h)):=dD<|dd.beside a4 (fun k e=>by cases e;have:=A.out;omega)
  have dl:Xo (zl a1 (t+1) 45 qj):=dD<|dk.beside a4 (fun k e=>by cases e;have:=A.out;have:=z.out;omega)
  have cz:Xo (zb anE a a1 (O (Xa ⟨a,0,Xb⟩) n n) (s.set b ⟨d,u,a5⟩)):=c2;have cu:Xo (∀W,zk (fun k=>k=q\/k=a) a1 W->zw W P h):=show∀W,_ from fun W g=>ct.out W ((zk.grown a4 (.inr rfl)).trans g)
  have c8:Xo (∀W,zk (fun k=>k=q\/k=a\/k=t+1) a1 W->zea W (s.set b ⟨d,u,a5⟩) (f++ [(d,u,l)])):=dD<|fun W g=>c7.out W ((zk.grown a4 (.inr (.inl rfl))).trans g)
  have ax:Xo ((f++ [(d,u,l)]).length=b+1/\(s.set b ⟨d,u,a5⟩).length=n/\J (b+1) h (f++ [(d,u,l)])):=dD<|⟨by simp[j.1],Rx Xz j.2.1,ay⟩
  clear c2 a4;go_wp2
  go_roundg (n -(b+1));exact⟨b+1,P,h,_,_,Wm,Wm,Gn,cl,de,dl,cz,ax,cu,c8⟩;omega
 have ak:=kD F
 have:b=n:=Wm
 subst this;have U:Xo (∀v∈chL V m,v.oneCell'=Xc):=dD<|by simp[chL,Value.oneCell']
 have T:Xo ((Tryz.prog.info? 45).map (·.size)=Xa (chL V m).length):=dD<|Kr
 have cn:Xo (a<wr.heap.size/\q<wr.heap.size):=dD<|⟨(b6.lt a rfl).2,ba.box.lt⟩
 skip
 go_wp2_with (first | refine zp rfl 45 (.tmp 7) rfl q rfl ba.box underlying45 rfl T.out ?_ | refine zm rfl 45 (.tmp 4) (.tmp 45) rfl (t+1) rfl (chL V m) rfl bs rfl Kr U.out ?_)
 intro ae bv au e4;clear e4;have ca:Xo (zl ae (t+1) 45 (chL V m)):=bv;have cm:Xo (zc w ae):=show zc _ _ from zd av au (Hm Y.out)
 have da:Xo (zj anE ae (O (Xa ⟨a,0,Xb⟩) b b) s):=dD<|(b6.grown au (fun k y e=>by
  have be:Xa a=Xa k:=y;simp only[Option.some.injEq]at be e;have:=A.out;have:=z.out
  omega)).at
 have c9:Xo (zea ae s f):=bj.out ae (zk.grown au (.inr (.inr rfl)));clear bv au;go_wp2;refine bodyPost_ret (z6 rfl _ rfl ca.box underlying45 rfl Kr) rfl ⟨⟨V,m,a,s,f,rfl,j.2.2,da,c9⟩,cm⟩
structure CtE (B:List Int) (m:Ma):Prop where
 rt:Rt m
 fl:m.fl.length=1
 bX:jD m 0=B
structure CtY (B:List Int) (m:Ma):Prop extends CtE B m where
 syn:Syn m 0
section
variable{m:Ma} {b:Int} {N:Nat} {B:List Int}
theorem zn8 (h:CtM b N m):Rt m:=by
 unfold CtM at h;simp only[pJ]at h;obtain⟨c,_,_,_,_,_,_,d⟩:=h;refine⟨c,fun s a=>?_⟩
 rw[d]at a
 rcases mC.1 a with rfl|a
 ·rfl
 cases a
theorem ztd (h:CtM b N m):CtE (Xr N b) m:=by
 have d:=zn8 h;unfold CtM at h;simp only[pJ]at h;obtain⟨_,a,_,_,_,c,_,_⟩:=h;exact⟨d,c,a⟩
theorem zs3 (h:CtM b N m):zs8 m:=by
 unfold CtM at h;simp only[pJ]at h;obtain⟨_,_,j,d,_,_,_,_⟩:=h;intro f g;have i:=(List.map_inj_left.1 j) f g;unfold ctB at d;have a:=List.all_eq_true.1 d f g
 by_cases e:f.f=-1
 ·rw[kE e]at a;exact⟨fun _=>Si a,fun _ c=>absurd e c⟩
 rw[kF e]at a;refine⟨fun c=>absurd c e,fun l _=>⟨i,fun k=>?_⟩⟩
 simp[k,l]at a
theorem zsD (l:List Int):bkC l<=l.length:=List.countP_le_length
theorem zp9 (h:CtM b N m):¬zkr m:=fun⟨M,k,z,l,y,f,F,j,_,w,_,v⟩=>by
 have x:=zn8 h;have g:=j.goes x;unfold CtM at h;simp only[pJ]at h;obtain⟨_,_,_,_,q,r,s,_⟩:=h;have c:M.cnt=8:=j (fun N=>N.cnt=8) q fun N k z l y f F u _ _ _ d=>by
  unfold clM wrM;rw[kE d,kE d]
  show zkm N.fl N.cnt f.f f.x=8
  unfold zkm;rw[kE d];exact u
 have i:M.fl.length=1:=g.aW.fll.trans r;have a:=g.aW.bk 0;have e:bkN m 0<=5:=Si s
 refine v (zon g.rt w ?_)
 match t:M.fl,i with
 | [G],_=>
  unfold bkN at a e;rw[t]at a;have n:zr6 [G]=bkC G.bl+0:=rfl;have A:=zsD G.bl;have p:([G].getD (0:Int).toNat ⟨0,[]⟩).bl.length=G.bl.length:=rfl;rw[p]at a;rw[n,c];omega
theorem zrO (h:CtM b N m) (c:Zg m M) (e:Jl 0 M.ca.length M):CtY (Xr N b) (QL M):=by
 have a:=zn8 h;have g:=(c.goes a).trans (zdL (c.goes a).rt);have d:=ztd h;exact⟨⟨g.rt,g.aW.fll.trans d.fl,(g.bytes a 0).trans d.bX⟩,zo4 (fi:=0) a (zs3 h) c e⟩
theorem CtE.err (h:CtE B m):jT m 0=0:=by
 unfold jT;rw[kF (by rw[h.rt.w];decide),kF (Hm h.fl)]
theorem CtE.file (h:CtE B m):∃F,m.fl[0]? =Xa F/\F.size.toNat=B.length/\0<=F.size:=by
 have b:0<m.fl.length:=by rw[h.fl];decide
 have a:=gE b;refine⟨_,a,?_,(jp h.rt a).2.1.1⟩;have:=zkk h.rt a;rw[show((0:Nat):Int)=0 from rfl,h.bX]at this
 rw[this,Yj,Yc]
theorem zp8 (f:Nat->Int) (n s:Nat):((Xu n).map fun k=>if k<min n s then f k else 0)=((Xu s).map f).take n++Xr (n - s) 0:=by
 refine Yq (by simp;omega) fun i a b=>?_
 have c:i<n:=Si a
 rw[List.getElem_map,Og]
 by_cases e:i<s
 ·rw[kE Wm,List.getElem_append_left (by simp;omega),List.getElem_take,List.getElem_map,Og]
 rw[kF Wm,List.getElem_append_right (by simp;omega),Yt]
theorem CtE.cE (h:CtE B m) {z:Nat} {F:Fl} (b:m.fl[0]? =Xa F) (e:z<=96):CtE (B.take z++Xr (z - B.length) 0) (zbS m 0 z F):=by
 have c:=zsM h.rt b e;have d:=zmQ h.rt b e;have a:=zkk h.rt b;rw[show((0:Nat):Int)=0 from rfl]at d a
 rw[h.bX]at a;refine⟨c.rt,by rw[c.fl,Xz];exact h.fl,?_⟩
 rw[d,zp8,<-a]
 congr 2
 rw[a,Yj,Yc]
theorem CtY.cE (h:CtY B m) {z:Nat} {F:Fl} (c:m.fl[0]? =Xa F) (d:z<=96) (a:D8 m) (b:D8 (zbS m 0 z F)):CtY (B.take z++Xr (z - B.length) 0) (zbS m 0 z F):=
 ⟨h.toCtE.cE c d,zq2 h.rt c d (fun M e x=>by
  rcases e with rfl|rfl
  ·exact Qa a.1 a.2 _ _
  exact Qa b.1 b.2 _ _) h.syn⟩
theorem CtY.crash (h:CtY B m) (a:Nat->Bool):CtE B (Qb m (jL a m.db m.dq)):=⟨zeV h.rt a,h.fl,(h.syn.crash h.rt (by rw[h.fl];decide) a).trans h.bX⟩
end
def cCr:Cl:=⟨8,0,0,0,0,0,Xd,Xd,Xd,noS⟩
def cWr (v:Sli):Cl:=⟨10,0,0,0,0,0,Xd,Xd,Xd,v⟩
def cSy:Cl:=⟨12,0,0,0,0,0,Xd,Xd,Xd,noS⟩
def cTr (z:Int):Cl:=⟨11,0,0,z,0,0,Xd,Xd,Xd,noS⟩
def cCa (z:Int):Cl:=⟨15,0,0,z,0,0,Xd,Xd,Xd,noS⟩
def cRe:Cl:=⟨9,0,0,99,0,0,Xd,Xd,Xd,noS⟩
def Nx (w:Xn) (m:Ma) (c:Cl) (P:Int->Int->List Int->Ma->Prop):Prop:=
 maW m=0/\(1<=c.kind/\c.kind<=15)/\∃K,(∀W,zc w W->J8 W m c K)/\∀er n l m' m2,K er n l m'->((er=0/\m2=m')\/(er≠0/\m2=m))->P er n l m2
theorem ziB {w:Xn} {c:Cl} {P:Int->Int->List Int->Ma->Prop} {K:Int->Int->List Int->Ma->Prop} (g:maW m=0) (d:1<=c.kind/\c.kind<=15) (j:∀W,zc w W->J8 W m c K) (h:∀a n l m',K a n l m'->a=0/\P a n l m'):Nx w m c P:=by
 refine⟨g,d,K,j,fun a n l m' k d i=>?_⟩
 obtain⟨e,f⟩:=h a n l m' d
 rcases i with⟨_,b⟩|⟨b,_⟩
 ·rw[b];exact f
 exact absurd e b
section
variable{w:Xn} {m:Ma} {b:Int} {N:Nat} {B:List Int}
theorem cx0:Nx w (ZC 4 2 8) cCr fun _ _ _ d=>d=ct1:=
 ziB (K:=zgi (ZC 4 2 8)) Kr Dc (fun W _=>zgt W _ cCr rfl) (fun a n l f h=>by
  obtain⟨_,b,c⟩:=h;have e:a=0:=b.trans Dc
  exact⟨e,(c e).2⟩)
theorem zn9:Rt ct1:=⟨Kr,fun s a=>by
 rcases mC.1 a with rfl|a
 ·rfl
 cases a⟩
theorem cx1 (j:1<=N/\N<=40) {v:Sli} (l:v.n<=v.c) (p:zj byE w (v.x) (Xr N b)):Nx w ct1 (cWr v) fun _ _ _ q=>CtM b N q:=by
 obtain⟨M,h,i⟩:=zsz b j;have a:(Xr N b).length=N:=lR;have c:ct1.fl[0]? =Xa ⟨0,[]⟩:=rfl;have d:=zsM zn9 c (n:=N) Wm
 obtain⟨g,_⟩:=zdh d c;exact ziB (K:=zgh M (Xr N b).length) zn9.w (by show(1:Int)<=10/\(10:Int)<=15;omega) (fun W k=>zgs W ct1 (cWr v) 0 0 (N+5) (Xr N b) ⟨0,[]⟩ _ M rfl zn9 rfl c Wm rfl Wm (by show(0:Int)<_;omega) (p.aA k) l (by rw[a,zA];exact d.rt) ⟨by rw[a,zA];exact g,by rw[a,zA]⟩ Wm (by rw[a,zA];exact h)) (fun r n s t m=>by
  obtain⟨e,_,_,f⟩:=m;rw[f];exact⟨e,i⟩)
theorem cx2 (h:CtM b N m):Nx w m cSy fun _ _ _ e=>CtY (Xr N b) e:=
 ziB (zn8 h).w Dc (fun W _=>zkE W _ cSy rfl ⟨Dc,by have:=(ztd h).fl;show(0:Int)<_;omega⟩ (zn8 h) (zp9 h)) (fun f n l g a=>⟨a.1,by obtain⟨_,_,_,M,c,d,rfl⟩:=a;exact zrO h c d⟩)
theorem cxT (h:CtE B m) {z:Nat} (c:z<=96):Nx w m (cTr (z:Int)) fun _ _ _ d=>CtE (B.take z++Xr (z - B.length) 0) d:=by
 obtain⟨F,a,_⟩:=h.file;exact ziB (K:=zh3 m 0 z F) h.rt.w (by show(1:Int)<=11/\(11:Int)<=15;omega) (fun W _=>zcq W m h.rt (cTr (z:Int)) 0 z F rfl rfl a rfl c) (fun e n l f b=>⟨b.1,by obtain⟨_,_,_,rfl,_⟩:=b;exact h.cE a c⟩)
theorem cxY (h:CtY B m) {z:Nat} (c:z<=96):Nx w m (cTr (z:Int)) fun _ _ _ f=>CtY (B.take z++Xr (z - B.length) 0) f:=by
 obtain⟨F,a,_⟩:=h.file;exact ziB (K:=zh3 m 0 z F) h.rt.w (by show(1:Int)<=11/\(11:Int)<=15;omega) (fun W _=>zcq W m h.rt (cTr (z:Int)) 0 z F rfl rfl a rfl c) (fun g n l i b=>⟨b.1,by obtain⟨_,_,_,rfl,d,e⟩:=b;exact h.cE a c d e⟩)
theorem cxC (h:CtY B m) (z:Int):Nx w m (cCa z) fun _ _ _ b=>CtE B b:=
 ziB h.rt.w (by show(1:Int)<=15/\(15:Int)<=15;omega) (fun W _=>zie W _ (cCa z) rfl h.rt) (fun c n l d a=>⟨a.1,by obtain⟨_,_,_,rfl⟩:=a;exact h.crash _⟩)
theorem cxR (h:CtE B m) (e:0<B.length/\B.length<=99):Nx w m cRe fun a _ l g=>a=0/\l=B/\g=m:=
 ziB (K:=zqs m 0 0 B.length) h.rt.w Dc (fun W _=>zid W m cRe 0 99 B.length rfl ⟨Dc,by have:=h.fl;show(0:Int)<_;omega⟩ rfl rfl h.err (by show 0+B.length<=(jD m 0).length;rw[h.bX];omega) e.1 (by show min 99 ((jD m 0).length - 0)=_;rw[h.bX];omega)) (fun a n l i f=>by
  obtain⟨b,_,c,d⟩:=f;rw[b,c,d,h.bX,Oa,List.take_length];exact⟨rfl,rfl,rfl,rfl⟩)
end
def zr8 (cr:Bool) (v:Sli) (z N bits:Int):List Cl:=[cCr,cWr v,cSy,cTr z]++(if cr=Xc then [cCa bits]else [])++ [cTr N,cRe]
def zm2 (z N:Nat) (b:Int):List Int:=Xr z b++Xr (N - z) 0
theorem zjN {z N:Nat} (b:Int) (h:z<=N):(zm2 z N b).length=N:=by
 unfold zm2;rw[lA,lR,lR];omega
def SC (e z N:Nat) (b:Int) (k:Nat) (m:Ma):Prop:=
 (k=0->m=ZC 4 2 8)/\(k=1->m=ct1)/\(k=2->CtM b N m)/\(k=3->CtY (Xr N b) m)/\(k=4->CtY (Xr z b) m)/\(k=4+e->CtE (Xr z b) m)/\(k=5+e->CtE (zm2 z N b) m)
def JC (e z N:Nat) (b:Int) (k:Nat) (m:Ma) (az:List (Int × Int × List Int)):Prop:=
 SC e z N b k m/\(k=6+e->∃n,az[5+e]? =Xa (0,n,zm2 z N b))
section
variable{w:Xn} {m:Ma} {b:Int} {N z e k:Nat} {c:Cl} {az:List (Int × Int × List Int)}
theorem zrl (u:az.length=k) (j:Nx w m c fun a _ l d=>SC e z N b (k+1) d/\(k=5+e->a=0/\l=zm2 z N b)):
  maW m=0/\(1<=c.kind/\c.kind<=15)/\∃K,(∀W,zc w W->J8 W m c K)/\∀a n l m' d,K a n l m'->((a=0/\d=m')\/(a≠0/\d=m))->JC e z N b (k+1) d (az++ [(a,n,l)]):=by
 obtain⟨p,q,K,r,s⟩:=j;refine⟨p,q,K,r,fun a n l m' d t v=>?_⟩
 obtain⟨f,g⟩:=s a n l m' d t v;refine⟨f,fun x=>?_⟩
 obtain⟨h,i⟩:=g Wm
 exact⟨n,by rw[aR Wm,u,show 5+e - k=0 by omega,h,i];rfl⟩
theorem Nx.mono {P Q:Int->Int->List Int->Ma->Prop} (h:Nx w m c P) (hp:∀a n l m',P a n l m'->Q a n l m'):Nx w m c Q:=by
 obtain⟨e,f,K,g,i⟩:=h;exact⟨e,f,K,g,fun a n l m' j b d=>hp _ _ _ _ (i a n l m' j b d)⟩
theorem zrm (f:Bool) (x:1<=N/\N<=40) (g:z<=N) {e:Int} {v:Sli} (B:v.n<=v.c) (A:zj byE w (v.x) (Xr N b))
  (k:Nat) (c:Cl) (m:Ma) (az:List (Int × Int × List Int)) (d:(zr8 f v (z:Int) (N:Int) e)[k]? =Xa c) (y:az.length=k) (u:JC f.toNat z N b k m az):
  maW m=0/\(1<=c.kind/\c.kind<=15)/\∃K,(∀W,zc w W->J8 W m c K)/\∀a n l m' r,K a n l m'->((a=0/\r=m')\/(a≠0/\r=m))->JC f.toNat z N b (k+1) r (az++ [(a,n,l)]):=by
 refine zrl y ?_;obtain⟨⟨C,D,E,F,G,i,j⟩,_⟩:=u;have L:(Xr N b).take z++Xr (z -(Xr N b).length) 0=Xr z b:=by
  rw[Yk,lR,Nat.sub_eq_zero_of_le g,Yv g];simp
 have H:(Xr z b).take N++Xr (N -(Xr z b).length) 0=zm2 z N b:=by
  rw[Yk,lR,Nat.min_eq_right g];rfl
 have hlen:=zjN b g;have t:k<6+f.toNat:=by
  have:=(gS.1 d).1
  cases f <;> simpa [zr8]using this
 by_cases M:k<4
 ·rcases(show k=0\/k=1\/k=2\/k=3 by omega)with rfl|rfl|rfl|rfl
  ·cases d;obtain rfl:=C rfl;exact cx0.mono fun a n l m' h=>⟨⟨Wm,fun _=>h,Wm,Wm,Wm,Wm,Wm⟩,Wm⟩
  ·cases d;obtain rfl:=D rfl;exact(cx1 x B A).mono fun a n l m' h=>⟨⟨Wm,Wm,fun _=>h,Wm,Wm,Wm,Wm⟩,Wm⟩
  ·cases d;exact(cx2 (E rfl)).mono fun a n l m' h=>⟨⟨Wm,Wm,Wm,fun _=>h,Wm,Wm,Wm⟩,Wm⟩
  cases d;have:=cxY (w:=w) (F rfl) (z:=z) Wm
  rw[L]at this;exact this.mono fun a n l m' h=>⟨⟨Wm,Wm,Wm,Wm,fun _=>h,fun _=>h.toCtE,Wm⟩,Wm⟩
 have q:=fun(h:CtE (Xr z b) m)=>cxT (w:=w) h (z:=N) Wm
 rw[H]at q;have s:=fun(h:CtE (zm2 z N b) m)=>cxR (w:=w) h Wm
 cases f with
 | false=>
  have p:false.toNat=0:=rfl;rw[p]at t i j⊢
  rcases(show k=4\/k=5 by omega)with rfl|rfl
  ·cases d;exact(q (i rfl)).mono fun a n l m' h=>⟨⟨Wm,Wm,Wm,Wm,Wm,Wm,fun _=>h⟩,Wm⟩
  cases d;exact(s (j rfl)).mono fun a n l m' h=>⟨⟨Wm,Wm,Wm,Wm,Wm,Wm,Wm⟩,fun _=>⟨h.1,h.2.1⟩⟩
 | true=>
  have p:true.toNat=1:=rfl;rw[p]at t i j⊢
  rcases(show k=4\/k=5\/k=6 by omega)with rfl|rfl|rfl
  ·cases d;exact(cxC (G rfl) e).mono fun a n l m' h=>⟨⟨Wm,Wm,Wm,Wm,Wm,fun _=>h,Wm⟩,Wm⟩
  ·cases d;exact(q (i rfl)).mono fun a n l m' h=>⟨⟨Wm,Wm,Wm,Wm,Wm,Wm,fun _=>h⟩,Wm⟩
  cases d;exact(s (j rfl)).mono fun a n l m' h=>⟨⟨Wm,Wm,Wm,Wm,Wm,Wm,Wm⟩,fun _=>⟨h.1,h.2.1⟩⟩
end
def chF (f g:Nat->On) (s e:Nat):Nat->On:=fun j=>if s<=j/\j<e then g j else f j
theorem zqg (f g:Nat->On) (s:Nat):chF f g s s=f:=by
 funext j
 unfold chF;rw[kF Wm]
theorem zsB (f g:Nat->On) (s k:Nat):qD (chF f g s k) k=qD f k:=by
 unfold qD chF;rw[kF Wm]
theorem zqh (f g:Nat->On) {s k:Nat} (h:s<=k):upd (qD (chF f g s k)) k (Jq k (g k))=qD (chF f g s (k+1)):=by
 funext j
 unfold upd qD chF
 by_cases e:j=k
 ·subst e;rw[kE rfl,kE Wm]
 rw[kF e]
 congr 1
 by_cases h:s<=j/\j<k
 ·rw[kE h,kE Wm]
 rw[kF h,kF Wm]
theorem zji (v:Xq) (l:List Ar) (s n:Nat) (F:Nat) (caps:Array Xq) (g:Nat->On) (w:Xn) (ai:zj arE w v l) (C:Qo Xb l) (a0:s<=n) (b6:n<=64) (j:zoR (chF (zJ l) g s n)) (ac:Enters prog F)
  (c:∀W (k:Nat),zc w W->s<=k->k<n->Xp prog F (#[I6 (k:Int),arA (qD (zJ l) k)]++caps) W fun e w'=>e= Xl (arA (Jq k (g k)))/\zc W w'):
  Xp prog 130 #[v,I6 (s:Int),I6 (n:Int),.func (.func F) #[] caps] w fun e w'=>(∃u,e= Xl (Xm #[u,I6 (zi3 (chF (zJ l) g s n)).2])/\zb arE w.heap.size w' u (zi3 (chF (zJ l) g s n)).1)/\zc w w':=by
 have N:=zkY v l w ai C;have r:Xo (∀W,Xp prog 171 #[Xi (qA (tab (qD (chF (zJ l) g s n)))).toArray] W fun e w'=>(∃v,e= Xl v/\zb arE (W.heap.size+1) w' v (zcc (chF (zJ l) g s n)))/\zc W w'):=fun W=>zlf _ W j
 have H:Xo _:=c;have am:Xo (∀(h:Array Xq) (w:Xn),(callFunc F h).run prog w= .ok (.enter F h) w):=ac;have f:Xo (¬16< (zcc (chF (zJ l) g s n)).length->zi3 (chF (zJ l) g s n)=(zcc (chF (zJ l) g s n),0)):=fun Z=>by unfold zi3;rw[kF Z]
 have d:Xo (16< (zcc (chF (zJ l) g s n)).length->zi3 (chF (zJ l) g s n)=([],4)):=fun Z=>by unfold zi3;rw[kE Z]
 have i:Xo ((zcc (chF (zJ l) g s n)).length<=64):=(ziP j).len;have T:Xo (qD (zJ l)=qD (chF (zJ l) g s s)):=show _=_ by rw[zqg]
 clear ai C j c ac;obtain⟨a3,L⟩:=kA (zi3 (chF (zJ l) g s n));simp only[L.out]at f d⊢;obtain⟨E,M⟩:=kA (zcc (chF (zJ l) g s n));simp only[M.out]at f d i r;have aj:=zgK;obtain⟨aa,x⟩:=kA (qA (tab fun _=>ar0))
 rw[x.out]at aj;have y:Xo (aa.length=448):=dD<|by rw[<-x.out,QX]
 have P:Xo ((qA (tab (qD (zJ l)))).length=448):=QX _;have Q:Xo (∀v∈qA (tab (qD (zJ l))),v.oneCell'=Xc):=zfe _
 go_enter func130,ntmps130
 go_wp2_with fail;refine N.mono ?_;rintro e G ⟨rfl,ad⟩;have a4:Xo (zc w G):=ad;clear ad;obtain⟨q,a6⟩:=kA G.heap.size;have t:Xo (w.heap.size<=q):=show _<=_ by rw[<-a6.out];exact bS a4.out
 go_upto_region 2 with(refine zz rfl 233 (.tmp 10) (.tmp 14) rfl G.heap.size rfl (qA (tab (qD (zJ l)))) rfl (Box.aE G aa 233 rfl) (by rw[P.out,y.out]) (Rx y.out ztA) Q.out ?_)
 intro a8 V X b0;rw[a6.out]at V X⊢;have an:Xo (zc w a8):=zd (a4.trans (za _ _)) X t.out;have au:Xo (Box a8 q (qA (tab (qD (chF (zJ l) g s s))))):=show Box _ _ _ by rw[<-T.out];exact V
 clear V X b0 aj;go_wp2
 go_loopg [11] (n - s) (fun ay a2 wr=>∃a:Nat,s<=a/\a<=n/\n - a<=ay/\a2=I6 a/\Xo (zc w wr)/\Xo (Box wr q (qA (tab (qD (chF (zJ l) g s a))))))
 exact⟨s,nR _,a0,Wm,rfl,an,au⟩
 obtain⟨a,A,az,b5,rfl,D,U⟩:=hrel
 by_cases m:a<n
 ·have B:=kC m
  have z:a<64:=Wm
  have ag:(a:Int)<64:=Wm
  have ar:Xo (arA (qD (chF (zJ l) g s a) a)=arA (qD (zJ l) a)):=dD<|by rw[zsB]
  have S:Xo (upd (qD (chF (zJ l) g s a)) a (Jq a (g a))=qD (chF (zJ l) g s (a+1))):=zqh _ _ A
  go_wp2_with (refine zkC rfl (.tmp 25) rfl q a z rfl U ar.out ?_)
  rw[am.out];refine(H wr a D A m).mono ?_;rintro e b3 ⟨rfl,Y⟩;have ao:=dD (D.trans Y);have av:=dD (U.aA Y);clear Y
  go_wp2_with (refine zeA rfl (.tmp 28) (.tmp 27) rfl q a z rfl (Jq a (g a)) rfl av.out ?_)
  intro a9 ab ae b1;have aw:Xo (Box a9 q (qA (tab (qD (chF (zJ l) g s (a+1)))))):=dD<|Ry S.out ab
  have ap:Xo (zc w a9):=zd ao ae t.out;clear ab ae b1;go_wp2
  go_roundg (n -(a+1));exact⟨a+1,Wm,Wm,Wm,Gn,ap,aw⟩;omega
 have B:=kD m
 have:a=n:=Wm
 subst this;have K:Xo ((qA (tab (qD (chF (zJ l) g s a)))).length=448):=QX _
 go_wp2_with (refine zp rfl 233 (.tmp 10) rfl q rfl U underlying233 rfl (Rx K.out ztA) ?_)
 refine(r wr).mono ?_;rintro e ax ⟨⟨u,rfl,p⟩,af⟩;obtain⟨ak,al,rfl⟩:=p.form;have a5:=dD (D.trans af);have a7:Xo (zb arE w.heap.size ax (O ak E.length al) E):=p.base (nT (bS D) (Oh _));clear af p;obtain⟨a1,aq⟩:=kA E.length;rw[aq.out]at f d i a7⊢;have ah:a1<=64:=i.out
 by_cases b:16<a1
 ·have I:=kC b
  have R:Xo (a3=([],4)):=d.out b;go_wp2;refine bodyPost_ret (v:= Xm #[eS,I6 4]) (by simp[results,Tryz.results130]) rfl ?_
  rw[R.out];exact⟨⟨_,rfl,zb.nil _ _ _⟩,a5⟩
 have I:=kD b
 have R:Xo (a3=(E,0)):=f.out b;go_wp2;refine bodyPost_ret (v:= Xm #[O ak a1 al,I6 0]) (by simp[results,Tryz.results130]) rfl ?_
 rw[R.out];exact⟨⟨_,rfl,a7⟩,a5⟩
theorem zpC (a q:Ar) (k c:Nat) (w:Xn) (p:Box w c [I6 a.fr,I6 a.tz,Xh a.rd,Xh a.wr,Xh a.sh,I6 a.file,I6 a.base]) (n:jV a) (r:k<64):
  Xp prog 131 #[I6 (k:Int),Xi #[I6 q.fr,I6 q.tz,Xh q.rd,Xh q.wr,Xh q.sh,I6 q.file,I6 q.base],Xj (Xa ⟨c,0,Xb⟩)] w fun e w'=>e= Xl (arA (Jq k (qp a k)))/\zc w w':=by
 have h:∀W,Xp prog 132 #[Xi #[I6 a.fr,I6 a.tz,Xh a.rd,Xh a.wr,Xh a.sh,I6 a.file,I6 a.base],I6 (k:Int)] W fun e w'=>e= Xl (arA (Jq k (qp a k)))/\zc W w':=fun W=>zjO a k W n r
 obtain⟨x,s⟩:=kB (Jq k (qp a k));simp only[s]at h⊢;clear s n r;obtain⟨i,b⟩:=kB ((w.alloc (Xk #[I6 q.fr,I6 q.tz,Xh q.rd,Xh q.wr,Xh q.sh,I6 q.file,I6 q.base] 125)).alloc (Xk #[I6 0,I6 0,Xh Xd,Xh Xd,Xh Xd,I6 0,I6 0] 125));have d:=gD2 b
 have y:Xo (Box i c [I6 a.fr,I6 a.tz,Xh a.rd,Xh a.wr,Xh a.sh,I6 a.file,I6 a.base]):=dD<|by rw[<-b];exact(p.alloc _).alloc _
 have z:=x2b b
 have f:Xo (_=i):=b;clear b p
 go_enter func131,ntmps131
 go_upto_region 1 with fail;rw[f.out]
 go_wp2_with (refine zp rfl 125 (.tmp 2) rfl c rfl y underlying125 rfl zty ?_)
 refine(h _).mono ?_;rintro e C ⟨rfl,g⟩;have u:=dD (d.trans g);have A:=dD (z.aA g);clear g
 go_wp2_with (refine zz rfl 125 (.tmp 5) (.tmp 8) rfl (w.heap.size+1) rfl (arv x) rfl A rfl zty (arE.one x) ?_)
 intro j l m B;have v:Xo (zc w j):=zd u m Sm
 have t:Xo (Box j (w.heap.size+1) (arv x)):=l;clear l m B;go_wp2;refine bodyPost_ret (zE rfl _ rfl t underlying125 rfl zty) rfl ⟨rfl,v⟩
theorem znR (x y:Int) (w:Xn):(Instr.field 187 (Xi #[I6 x,I6 y]) 0).run prog w= .ok (I6 x) w:=by
 simp only[Instr.field,Ym,run_underlying underlying187,rA,asAgg];exact run_part_plain w (by simp[Program.plainKey,underlying47]) rfl
theorem zqF (l:List Ar) {a:Ar} (c:jV a):chF (zJ l) (qp a) a.fr.toNat a.tz.toNat=zl5 l a:=by
 unfold jV at c
 funext j
 unfold chF zl5
 by_cases h:Jt a j=Xc
 ·have:=jl.1 h;rw[kE h,kE Wm]
 have d:¬(a.fr<=(j:Int)/\(j:Int)<a.tz):=fun b=>h (jl.2 b)
 rw[kF h,kF Wm]
def zs7 (R:List Ar × Int) (w:Xn) (e:Ending) (w':Xn):Prop:=(∃u,e= Xl (Xm #[u,Xe Xf R.2])/\zb arE w.heap.size w' u R.1)/\zc w w'
theorem zsY {a:Ar} {v:Xq} {w:Xn} {c:Nat} (n:zj arE w v l) (f:Qo Xb l) (b:jV a) (j:zc w W) (m:Box W c [I6 a.fr,I6 a.tz,Xh a.rd,Xh a.wr,Xh a.sh,I6 a.file,I6 a.base]):
  Xp prog 130 #[v,I6 a.fr,I6 a.tz,.func (.func 131) #[] #[Xj (Xa ⟨c,0,Xb⟩)]] W fun e w'=>(∃u,e= Xl (Xm #[u,I6 (zi3 (zl5 l a)).2])/\zb arE W.heap.size w' u (zi3 (zl5 l a)).1)/\zc W w':=by
 have d:=b;unfold jV at d;have h:=zji v l a.fr.toNat a.tz.toNat 131 #[Xj (Xa ⟨c,0,Xb⟩)] (qp a) W (n.aA j) f Wm Wm (by rw[zqF l b];exact zng f b) (enters_of func131 Kr rfl) (fun g k i p q=>zpC a (qD (zJ l) k) k c g (m.aA i) b Wm)
 rw[zqF l b,show((a.fr.toNat:Nat):Int)=a.fr by omega,show((a.tz.toNat:Nat):Int)=a.tz by omega]at h
 exact h
theorem zre (v:Xq) (l:List Ar) (a:Ar) (w:Xn) (a3:zj arE w v l):
  Xp prog 76 #[v,Xi #[I6 a.fr,I6 a.tz,Xh a.rd,Xh a.wr,Xh a.sh,I6 a.file,I6 a.base]] w (zs7 (zjV l a) w):=by
 have L:Xo (zj arE w v l):=a3;have af:=znR;have ag:∀(a0:Fn) (first A:Array Xq) (w:Xn),(Instr.makeFunc a0 first A).run prog w= .ok (.func a0 first A) w:=fun _ _ _ _=>rfl
 have x:Xo (∀W,zc w W->Xp prog 117 #[v] W fun e j=>e= Xl (Xi #[I6 (wrL l).1,I6 (wrL l).2])/\zc W j):=fun W B=>zc5 v l W (L.aA B)
 have m:Xo (∀W,Xp prog 129 #[Xi #[I6 a.fr,I6 a.tz,Xh a.rd,Xh a.wr,Xh a.sh,I6 a.file,I6 a.base]] W fun e j=>e= Xl (I6 (arW a))/\zc W j):=fun W=>zbd a W
 clear a3;obtain⟨E,g⟩:=kB (w.alloc (Xk #[I6 a.fr,I6 a.tz,Xh a.rd,Xh a.wr,Xh a.sh,I6 a.file,I6 a.base] 125));have c:=gA g
 have Z:=xA g
 have k:Xo (_=E):=g;clear g
 by_cases h:(wrL l).1=0
 ·rw[h]at x
  generalize(wrL l).2=I at x
  by_cases b:arW a=0
  ·rw[b]at m;have a9:Xo (l.length<=16/\Qo Xb l):=zab.1 h;have X:Xo (jV a):=zbQ.1 b;obtain⟨s,n,S,a2,t,R⟩:∃s n:Nat,(s:Int)=a.fr/\(s:Int)+(n:Int)=a.tz/\s+n<=64/\1<=n:=⟨a.fr.toNat,a.tz.toNat - a.fr.toNat,by have:=X.out;unfold jV at this;omega⟩
   have aa:Xo (∀W,zc w W->Xp prog 128 #[v,I6 a.fr,I6 a.tz] W fun e j=>e= Xl (I6 (jS l s n:Int))/\zc W j):=fun W B=>by
    have:=zmt v l s n W (L.aA B) t;rw[a2,S]at this;exact this
   have d:=zod (l:=l) t;rw[S,show(n:Int)=a.tz - a.fr by omega]at d
   have i:=zhN l s n;have a8:Xo (∀W,zc w W->Box W w.heap.size [I6 a.fr,I6 a.tz,Xh a.rd,Xh a.wr,Xh a.sh,I6 a.file,I6 a.base]->Xp prog 130 #[v,I6 a.fr,I6 a.tz,.func (.func 131) #[] #[Xj (Xa ⟨w.heap.size,0,Xb⟩)]] W fun e j=>(∃H,e= Xl (Xm #[H,I6 (zi3 (zl5 l a)).2])/\zb arE W.heap.size j H (zi3 (zl5 l a)).1)/\zc W j):=fun W B ae=>zsY L a9.2 X B ae
   have u:Xo (zjV l a=if zr7 l a.fr (a.tz - a.fr)=Xc then([],6)else zi3 (zl5 l a)):=dD<|by unfold zjV;rw[kF (fun p=>p h),kF (fun p=>p b)]
   clear h b S a2 t R
   go_enter func76,ntmps76
   go_upto_region 1 with fail;rw[k.out];go_wp2_with fail;refine(x E c).mono ?_;rintro e F ⟨rfl,f⟩;have z:=dD (c.trans f);have G:=dD (Z.aA f);clear f
   go_wp2_with (refine zp rfl 125 (.tmp 3) rfl w.heap.size rfl G underlying125 rfl zty ?_)
   refine(m F).mono ?_;rintro e Y ⟨rfl,y⟩;have C:=dD (z.trans y);have M:=dD (G.aA y);clear y;obtain⟨U,V⟩:=M.k2;go_wp2_with fail;refine(aa Y C).mono ?_;rintro e ac ⟨rfl,P⟩;have D:=dD (C.trans P);have N:=dD (M.aA P);clear P U V
   cases r:zr7 l a.fr (a.tz - a.fr)with
   | true=>
    have q:(0:Int)< (jS l s n:Int):=by
     have:jS l s n≠0:=fun p=>by rw[d.1 p]at r;cases r
     omega
    have K:Xo (zjV l a=([],6)):=dD<|by rw[u.out,r,kE rfl]
    clear r d i
    generalize jS l s n=a5 at q
    go_wp2;refine bodyPost_ret (results_tmp2 rfl _ _ _) rfl ?_;rw[K.out];exact⟨⟨_,rfl,zb.nil _ _ _⟩,D⟩
   | false=>
    have Q:jS l s n=0:=d.2 r;have q:¬(0:Int)< (jS l s n:Int):=Wm
    have K:Xo (zjV l a=zi3 (zl5 l a)):=dD<|by rw[u.out,r,kF Dc]
    clear r d i Q
    generalize jS l s n=a5 at q
    obtain⟨U,V⟩:=N.k2;go_wp2_with fail;refine(a8 ac D N).mono ?_;rintro e ad ⟨⟨H,rfl,a4⟩,a1⟩;have a7:=dD (D.trans a1);have ab:Xo (zb arE w.heap.size ad H (zi3 (zl5 l a)).1):=a4.base (bS D);clear a1 a4 U V;go_wp2;refine bodyPost_ret (results_tmp2 rfl _ _ _) rfl ?_;rw[K.out];exact⟨⟨_,rfl,ab⟩,a7⟩
  have T:(arW a != 0)=Xc:=by simp[b]
  have u:Xo (zjV l a=([],arW a)):=dD<|by unfold zjV;rw[kF (fun p=>p h),kE b]
  clear h b
  generalize arW a=a6 at*
  go_enter func76,ntmps76
  go_upto_region 1 with fail;rw[k.out];go_wp2_with fail;refine(x E c).mono ?_;rintro e F ⟨rfl,f⟩;have z:=dD (c.trans f);have G:=dD (Z.aA f);clear f
  go_wp2_with (refine zp rfl 125 (.tmp 3) rfl w.heap.size rfl G underlying125 rfl zty ?_)
  refine(m F).mono ?_;rintro e Y ⟨rfl,y⟩;have C:=dD (z.trans y);clear y;go_wp2;refine bodyPost_ret (results_tmp2 rfl _ _ _) rfl ?_;rw[u.out];exact⟨⟨_,rfl,zb.nil _ _ _⟩,C⟩
 have T:((wrL l).1 != 0)=Xc:=by simp[h]
 have u:Xo (zjV l a=([],(wrL l).1)):=dD<|by unfold zjV;rw[kE h]
 clear h
 generalize(wrL l).2=I at x
 generalize(wrL l).1=a6 at*
 go_enter func76,ntmps76
 go_upto_region 1 with fail;rw[k.out];go_wp2_with fail;refine(x E c).mono ?_;rintro e F ⟨rfl,f⟩;have z:=dD (c.trans f);clear f;go_wp2;refine bodyPost_ret (results_tmp2 rfl _ _ _) rfl ?_;rw[u.out];exact⟨⟨_,rfl,zb.nil _ _ _⟩,z⟩
def A0:Ar:=⟨2,8,Xc,Xd,Xd,-1,0⟩
def A1:List Ar:=[⟨2,4,Xc,Xd,Xd,-1,0⟩,⟨5,8,Xc,Xd,Xd,-1,0⟩]
def A2:List Ar:=[⟨2,4,Xc,Xc,Xd,-1,0⟩,⟨4,8,Xc,Xd,Xd,-1,0⟩]
variable{X:Nat->Prop}
def arC (c:Cl):Ar:=⟨c.pt,c.pt+c.n,c.rd,c.wr,c.sh,c.file,c.base⟩
def zou (m:Ma) (q:Nat) (s:Sp) (l:List Ar):Ma:={ m with sp:=m.sp.set q { s with aD:=l } }
def zsK (m:Ma) (c:Cl) (er n:Int) (l:List Int) (m':Ma):Prop:=
 l=[]/\∃(q:Nat) (s:Sp),zcn m c.aC q s/\er=(zjV s.aD (arC c)).2/\(er=0->n=c.pt/\m'=zou m q s (zjV s.aD (arC c)).1)
theorem zpB {u w:Xn} {p q:Nat} {x y:SpV} {s:Sp} {xs:List SpV} {b:Sli} (h:ChW w0 X p u V m) (s1:zb Jm w0.heap.size u (V.sp.x) xs) (s2:xs.length=m.sp.length) (s3:∀(i:Nat) x s,xs[i]? =Xa x->m.sp[i]? =Xa s->∀W,zk (Dr w0.heap.size X p V) u W->Zf W x s) (N:xs[q]? =Xa x) (M:m.sp[q]? =Xa s) (j:oB V.sp g)
  (H:zc u w) (U:zc w w1) (B:zb arE w.heap.size w1 (b.x) l) (G:w1.grownBy w2 (Xa g)) (Q:zb Jm w0.heap.size w2 (V.sp.x) (xs.set q y)) (a0:y.aH=x.aH/\y.ar=b/\y.tab=x.tab) (f:zk (Aft w0 u w) w2 W):zw W V (zou m q s l):=by
 have Z:=(s1.lt g j).2;have Y:=(s1.lt g j).1;have I:=bS H;have P:zk (fun k=>k<w0.heap.size\/k=g) u W:=by
  have n:zk (fun k=>k<w0.heap.size\/k=g) u w2:=(zk.aA (H.trans U)).trans (zk.grown G (.inr rfl))
  refine⟨f.os.trans n.os,f.tape.trans n.tape,f.output.trans n.output,nT n.size f.size,fun i L v=>?_⟩
  rw[f.block i (Xs L n.size) (fun e=>by rcases e with e | e;exact v (.inl e);omega)]
  exact n.block i L v
 have C:zk (Dr w0.heap.size X p V) u W:=P.wide fun k c=>c.elim (fun e=> .inl (.inl e)) fun e=>by cases e;exact .inr (.inr (.inr (.inr j)))
 have r:=h.rest W C;have own:∀{S:Type} {F:Elt S} {z:Sli} {l:List S},zb F w0.heap.size u (z.x) l->(∀k,oB z k->¬oB V.sp k)->zj F W (z.x) l:=fun A v=>zb.at ⟨jm A.1 P (fun k c e=>by
  rcases e with e|e
  ·have:=(A.lt k c).1;omega
  cases e;exact v _ c j),A.2⟩
 have t:zb arE w.heap.size W (b.x) l:=by
  refine⟨jm (D:=fun k=>k<w.heap.size) B.1 ((zk.grown G Wm).trans (f.wide fun k c=>?_)) (fun k c e=>?_),B.2⟩
  ·rcases c with e|e
   ·have:=bS h.gr;omega
   exact e.2
  have:=(B.lt k c).1;omega
 refine⟨own h.fs h.fS,r.sl,r.sb,r.sq,r.db,r.dq,r.fl,own h.ca h.cS,xs.set q y,zb.at ⟨jm Q.1 f (fun k c e=>?_),Q.2⟩,by simp[zou,s2],fun i a1 E d a=>?_⟩
 ·have T:k=g:=by
   have K:oB V.sp k:=c;unfold oB at K j;rw[K]at j;cases j;rfl
  subst T
  rcases e with e|e <;> omega
 by_cases e:i=q
 ·subst e;rw[sF (gS.1 N).1]at d;have a:(m.sp.set i { s with aD:=l })[i]? =Xa E:=a;rw[sF (gS.1 M).1]at a;cases d;cases a;have k:=s3 i x s N M W C;obtain⟨a2,R,a3⟩:=a0;refine⟨a2.trans k.aH,Rx R t.at,?_,Rx a3 k.tb⟩
  rw[R];exact t.cap
 rw[sN (fun h=>e h.symm)]at d
 have a:(m.sp.set q { s with aD:=l })[i]? =Xa E:=a;rw[sN (fun h=>e h.symm)]at a
 exact s3 i a1 E d a W C
def zkp:Ar:=⟨0,1,Xc,Xc,Xd,-1,0⟩
def zaZ:Ma:=zou (ZC 2 2 0) 0 ⟨Xc,[],Qt⟩ [zkp]
def frA (pg:Pg):Fr:=⟨pg,1,Xc,Xd,-1,0⟩
def tbA (w:Bool):List (List En):=zjC Qt 0 ⟨1,0,w⟩
def Qz (pg:Pg) (w:Bool):Ma:={ zaZ with fs:=[frA pg,frF],sp:=[⟨Xc,[zkp],tbA w⟩] }
theorem zsX:zjV [] zkp=([zkp],0):=by rfl
theorem zph:maW (ZC 2 2 0)=0:=by decide
theorem zjI:maW zaZ=0:=by decide
theorem zjH:∀w,maW (Qz ⟨0,0,0,9,0,0,0,0⟩ w)=0:=by decide
theorem zpg:∀w,maW (Qz pg0 w)=0:=by decide
theorem zsg:Rt zaZ:=⟨zjI,by intro s a;cases a with | head=>rfl | tail _ h=>cases h⟩
theorem zq1 (w:Bool):Rt (Qz ⟨0,0,0,9,0,0,0,0⟩ w):=⟨zjH w,by intro s a;cases a with | head=>rfl | tail _ h=>cases h⟩
theorem zsV (w:Bool):Rt (Qz pg0 w):=⟨zpg w,by intro s a;cases a with | head=>rfl | tail _ h=>cases h⟩
theorem zmp:Z0 zaZ 0 0=(zI,Xd,0):=by decide
theorem zmo (w:Bool):Z0 (Qz ⟨0,0,0,9,0,0,0,0⟩ w) 0 0=([0,0,0,9,0,0,0,0],Xc,0):=by revert w;decide
theorem zkH {l:List (List En)} (b:m.sp=[⟨Xc,[zkp],l⟩]) {wr:Bool} {a:Ar} {e:Int} (h:jU m 0 0 wr a e):e=0/\a=zkp:=by
 rcases h with⟨_,_,h⟩|⟨d,p,k,s,x,j,n,_,c,f,_,_,_,h⟩
 ·rcases h with(h|h) | ⟨d,s,j,c,h⟩
  ·omega
  ·rw[b]at h
   simp at h
  have:d=0:=Wm
  subst this;rw[b]at c;cases c;have:=h zkp (Yn ..);cases this
 have:d=0:=Wm
 subst this;rw[b]at c;cases c
 cases k with
 | zero=>
  cases f
  rcases h with⟨_,_,h⟩|⟨g,i,_⟩
  ·cases wr <;> cases h
  exact⟨g,i⟩
 | succ k=>
  simp at f
theorem zq7 {pg:Pg} (h:zI=pgL pg):pg=pg0:=by
 cases pg;simp only[zI,pgL,List.cons.injEq]at h;simp only[pg0,Pg.mk.injEq];omega
theorem zmZ {pg:Pg} (h: [0,0,0,9,0,0,0,0]=pgL pg):pg=⟨0,0,0,9,0,0,0,0⟩:=by
 cases pg;simp only[pgL,List.cons.injEq]at h;simp only[Pg.mk.injEq];omega
theorem zql (BF:Bool × Nat × Ma):jJ zaZ BF pg0 zkp Xd Xc 0 0=(Xc,0,Qz pg0 Xd):=by
 rfl
theorem zqk (BF:Bool × Nat × Ma):jJ (Qz ⟨0,0,0,9,0,0,0,0⟩ Xc) BF ⟨0,0,0,9,0,0,0,0⟩ zkp Xc Xd 0 0=(Xc,0,Qz ⟨0,0,0,9,0,0,0,0⟩ Xc):=by
 rfl
theorem ziN {BF:Nat->Nat->Ar->Pg->Bool->Bool × Nat × Ma} {q i:Nat} {a:Ar} {pg:Pg} {ic:Bool} (k:(0:Int)=(q:Int)) (hi:(0:Int)=(i:Int)) (j:jU zaZ 0 0 Xc a 0) (b:Z0 zaZ 0 0=(pgL pg,ic,0)):q=0/\i=0/\a=zkp/\jJ zaZ (BF q i a pg Xc) pg a ic Xc q i=(Xc,0,Qz pg0 Xd):=by
 have c:q=0:=Wm
 have d:i=0:=Wm
 subst c d;obtain⟨_,e⟩:=zkH rfl j;subst e;rw[zmp]at b;simp only[pJ]at b;obtain⟨g,h,_⟩:=b;have f:=zq7 g;subst f h;exact⟨rfl,rfl,rfl,zql _⟩
theorem zsn {BF:Nat->Nat->Ar->Pg->Bool->Bool × Nat × Ma} {d:Int}:¬jO zaZ BF 0 0 Xc d:=by
 rintro⟨b,h|⟨c,_,h⟩|⟨_,q,j,c,l,k,f,e,g,i,a⟩⟩
 ·exact b (zkH rfl h).1
 ·rw[zmp]at h;exact b h.symm
 rw[(ziN f e g i).2.2.2]at a;cases a
theorem zii {BF:Nat->Nat->Ar->Pg->Bool->Bool × Nat × Ma} (i:zec zaZ BF 0 0 Xc kk m'):kk=0/\m'=Qz pg0 Xc:=by
 obtain⟨t,q,n,s,r,h,k,j,l,m,p,b,a,c⟩:=i;obtain⟨d,e,f,g⟩:=ziN (BF:=BF) k j l m;rw[g]at b a c;subst d e f b;have a:(Qz pg0 Xd).fs[0]? =Xa h:=a;cases a;exact⟨rfl,c⟩
theorem zrq {BF:Nat->Nat->Ar->Pg->Bool->Bool × Nat × Ma} {q i:Nat} {a:Ar} {pg:Pg} {ic:Bool} (e:(0:Int)=(q:Int)) (hi:(0:Int)=(i:Int)) (f:jU zaZ 0 0 Xc a 0) (g:Z0 zaZ 0 0=(pgL pg,ic,0)):zsO (jJ zaZ (BF q i a pg Xc) pg a ic Xc q i).2.1 q i (jJ zaZ (BF q i a pg Xc) pg a ic Xc q i).2.2:=by
 obtain⟨b,c,h,d⟩:=ziN (BF:=BF) e hi f g;rw[d];subst b c;exact⟨_,_,_,zsV Xd,rfl,rfl,rfl⟩
theorem zqO (V:MaV) (W:Xn) (BF:Nat->Nat->Ar->Pg->Bool->Bool × Nat × Ma) (i:zw W V zaZ):Xp prog 140 #[Xi #[V.f.x,I6 (zaZ).aB,V.s.x,V.sb.x,V.sq.x,V.db.x,V.dq.x,V.fl.x,I6 (zaZ).cnt,V.ca.x,V.sp.x],I6 0,I6 0,Xh Xc] W fun e w'=>((∃b:Int,e= Xl (Xm #[Xi qj.toArray,I6 0,I6 b])/\jO zaZ BF 0 0 Xc b)\/(∃(V':MaV) (k p:Nat) (m':Ma),e= Xl (Xm #[Xi (mL V' m').toArray,I6 (k:Int),I6 0])/\zec zaZ BF 0 0 Xc k m'/\ChW W noX p w' V' m'))/\zc W w':=
 zmr V zaZ 0 0 Xc W i zsg BF (fun x W w s u v n h e _ _ f _=>absurd f (by rw[e];exact zcz n zsg h (k:=1) (fr:=frF) rfl rfl))
  (fun r m d q _ _ a _ c _=>by
   obtain⟨_,e⟩:=zkH rfl a;rw[e]at c;exact absurd c Dc) (fun r m d q t j g a l _=>zrq j g a l)
theorem ziM {BF:Nat->Nat->Ar->Pg->Bool->Bool × Nat × Ma} {q i:Nat} {a:Ar} {pg:Pg} {ic:Bool} (k:(0:Int)=(q:Int)) (hi:(0:Int)=(i:Int)) (j:jU (Qz ⟨0,0,0,9,0,0,0,0⟩ Xc) 0 0 Xd a 0) (b:Z0 (Qz ⟨0,0,0,9,0,0,0,0⟩ Xc) 0 0=(pgL pg,ic,0)):q=0/\i=0/\a=zkp/\jJ (Qz ⟨0,0,0,9,0,0,0,0⟩ Xc) (BF q i a pg Xd) pg a ic Xd q i=(Xc,0,Qz ⟨0,0,0,9,0,0,0,0⟩ Xc):=by
 have c:q=0:=Wm
 have d:i=0:=Wm
 subst c d;obtain⟨_,e⟩:=zkH rfl j;subst e;rw[zmo]at b;simp only[pJ]at b;obtain⟨g,h,_⟩:=b;have f:=zmZ g;subst f h;exact⟨rfl,rfl,rfl,zqk _⟩
theorem zsm {BF:Nat->Nat->Ar->Pg->Bool->Bool × Nat × Ma} {d:Int}:¬jO (Qz ⟨0,0,0,9,0,0,0,0⟩ Xc) BF 0 0 Xd d:=by
 rintro⟨b,h|⟨c,_,h⟩|⟨_,q,j,c,l,k,f,e,g,i,a⟩⟩
 ·exact b (zkH rfl h).1
 ·rw[zmo]at h;exact b h.symm
 rw[(ziM f e g i).2.2.2]at a;cases a
theorem zih {BF:Nat->Nat->Ar->Pg->Bool->Bool × Nat × Ma} (i:zec (Qz ⟨0,0,0,9,0,0,0,0⟩ Xc) BF 0 0 Xd kk m'):kk=0/\m'=Qz ⟨0,0,0,9,0,0,0,0⟩ Xc:=by
 obtain⟨t,q,n,s,r,h,k,j,l,m,p,b,a,c⟩:=i;obtain⟨d,e,f,g⟩:=ziM (BF:=BF) k j l m;rw[g]at b a c;subst d e f b;have a:(Qz ⟨0,0,0,9,0,0,0,0⟩ Xc).fs[0]? =Xa h:=a;cases a;exact⟨rfl,c⟩
theorem zrp {BF:Nat->Nat->Ar->Pg->Bool->Bool × Nat × Ma} {q i:Nat} {a:Ar} {pg:Pg} {ic:Bool} (e:(0:Int)=(q:Int)) (hi:(0:Int)=(i:Int)) (f:jU (Qz ⟨0,0,0,9,0,0,0,0⟩ Xc) 0 0 Xd a 0) (g:Z0 (Qz ⟨0,0,0,9,0,0,0,0⟩ Xc) 0 0=(pgL pg,ic,0)):zsO (jJ (Qz ⟨0,0,0,9,0,0,0,0⟩ Xc) (BF q i a pg Xd) pg a ic Xd q i).2.1 q i (jJ (Qz ⟨0,0,0,9,0,0,0,0⟩ Xc) (BF q i a pg Xd) pg a ic Xd q i).2.2:=by
 obtain⟨b,c,h,d⟩:=ziM (BF:=BF) e hi f g;rw[d];subst b c;exact⟨_,_,_,zq1 Xc,rfl,rfl,rfl⟩
theorem zqN (V:MaV) (W:Xn) (BF:Nat->Nat->Ar->Pg->Bool->Bool × Nat × Ma) (i:zw W V (Qz ⟨0,0,0,9,0,0,0,0⟩ Xc)):Xp prog 140 #[Xi #[V.f.x,I6 ((Qz ⟨0,0,0,9,0,0,0,0⟩ Xc)).aB,V.s.x,V.sb.x,V.sq.x,V.db.x,V.dq.x,V.fl.x,I6 ((Qz ⟨0,0,0,9,0,0,0,0⟩ Xc)).cnt,V.ca.x,V.sp.x],I6 0,I6 0,Xh Xd] W fun e w'=>((∃b:Int,e= Xl (Xm #[Xi qj.toArray,I6 0,I6 b])/\jO (Qz ⟨0,0,0,9,0,0,0,0⟩ Xc) BF 0 0 Xd b)\/(∃(V':MaV) (k p:Nat) (m':Ma),e= Xl (Xm #[Xi (mL V' m').toArray,I6 (k:Int),I6 0])/\zec (Qz ⟨0,0,0,9,0,0,0,0⟩ Xc) BF 0 0 Xd k m'/\ChW W noX p w' V' m'))/\zc W w':=
 zmr V (Qz ⟨0,0,0,9,0,0,0,0⟩ Xc) 0 0 Xd W i (zq1 Xc) BF (fun x W w s u v n h e _ _ f _=>absurd f (by rw[e];exact zcz n (zq1 Xc) h (k:=1) (fr:=frF) rfl rfl))
  (fun r m d q _ _ a _ c _=>by
   obtain⟨_,e⟩:=zkH rfl a;rw[e]at c;exact absurd c Dc) (fun r m d q t j g a l _=>zrp j g a l)
def zrU:Cl:=⟨1,0,0,1,-1,0,Xc,Xc,Xd,noS⟩
def zrT (s:Sli):Cl:=⟨5,0,3,0,0,0,Xd,Xd,Xd,s⟩
def zrS:Cl:=⟨4,0,3,1,0,0,Xd,Xd,Xd,noS⟩
theorem zpA {b n:Int} {l:List Int} (h:zd9 (ZC 2 2 0) 0 (zsK (ZC 2 2 0) zrU) b n l m'):b=0/\m'=zaZ:=by
 rcases h with⟨_,_,_,c⟩|⟨_,_,q,s,e,a,d⟩
 ·exact absurd (⟨rfl,rfl,rfl⟩:zcn (ZC 2 2 0) 0 0 ⟨Xc,[],Qt⟩) (c 0 _)
 have f:q=0:=by have:=e.1;simp only[zrU]at this;omega
 subst f;have i:=e.2.1;cases i;have g:zjV [] (arC zrU)=([zkp],0):=zsX;rw[g]at a d;have a:b=0:=a;exact⟨a,(d a).2⟩
theorem zkM {s:Sli} (p:s.n=1) {BF:Nat->Nat->Ar->Pg->Bool->Bool × Nat × Ma} {g n:Int} {l:List Int} (h:zd9 zaZ 0 (zh4 zaZ BF (zrT s) [9]) g n l m'):g=0/\m'=Qz ⟨0,0,0,9,0,0,0,0⟩ Xc:=by
 have r:jg (zrT s).pt ((zrT s).dv.n:Int)=Xc:=by
  show jg 3 (s.n:Int)=Xc
  rw[p]
  decide
 rcases h with⟨_,_,_,e⟩|⟨_,_,⟨_,h⟩|⟨k,_,u,v,d,w,⟨_,f,a,_⟩,q,m⟩⟩
 ·exact absurd (⟨rfl,rfl,rfl⟩:zcn zaZ 0 0 ⟨Xc,[zkp],Qt⟩) (e 0 _)
 ·rcases h with⟨h,_⟩|⟨_,h⟩|⟨_,_,u,v,d,t,x,f,a,i,_⟩
  ·rw[r]at h;cases h
  ·exact absurd h zsn
  obtain⟨b,c⟩:=zii f;subst b c;have a:(Qz pg0 Xc).fs[0]? =Xa d:=a;cases a;have i:(-1:Int)=(t:Int):=i;omega
 obtain⟨b,c⟩:=zii f;subst b c;have a:(Qz pg0 Xc).fs[0]? =Xa d:=a;cases a;have j:=zmZ (pg:=w) q;subst j;exact⟨k,m⟩
theorem znk {BF:Nat->Nat->Ar->Pg->Bool->Bool × Nat × Ma} {g n:Int} {l:List Int} (h:zd9 (Qz ⟨0,0,0,9,0,0,0,0⟩ Xc) 0 (zoD (Qz ⟨0,0,0,9,0,0,0,0⟩ Xc) BF zrS) g n l m'):g=0/\l=[9]:=by
 have m:jg zrS.pt zrS.n=Xc:=Dc
 rcases h with⟨_,_,_,e⟩|⟨_,⟨_,_,h⟩|⟨j,_,q,d,⟨_,f,a,_⟩,k⟩⟩
 ·exact absurd (⟨rfl,rfl,rfl⟩:zcn (Qz ⟨0,0,0,9,0,0,0,0⟩ Xc) 0 0 ⟨Xc,[zkp],tbA Xc⟩) (e 0 _)
 ·rcases h with⟨h,_⟩|⟨_,h⟩|⟨_,_,q,s,d,p,r,f,a,i,_⟩
  ·rw[m]at h;cases h
  ·exact absurd h zsm
  obtain⟨b,c⟩:=zih f;subst b c;have a:(Qz ⟨0,0,0,9,0,0,0,0⟩ Xc).fs[0]? =Xa d:=a;cases a;have i:(-1:Int)=(p:Int):=i;omega
 obtain⟨b,c⟩:=zih f;subst b c;have a:(Qz ⟨0,0,0,9,0,0,0,0⟩ Xc).fs[0]? =Xa d:=a;cases a;exact⟨j,k⟩
theorem zs0 {BF:Nat->Nat->Ar->Pg->Bool->Bool × Nat × Ma} (kk:Nat) (m':Ma) (h:zec zaZ BF 0 0 Xc kk m'):∃fr:Fr,m'.fs[kk]? =Xa fr/\(fr.f=-1\/∃(j:Nat) (fl:Fl),fr.f=(j:Int)/\m'.fl[j]? =Xa fl)/\0<=fr.x/\fr.x<1000:=by
 obtain⟨a,b⟩:=zii h;subst a b;exact⟨_,rfl,.inl rfl,Dc,Dc⟩
theorem zsZ {BF:Nat->Nat->Ar->Pg->Bool->Bool × Nat × Ma} (kk:Nat) (m':Ma) (h:zec (Qz ⟨0,0,0,9,0,0,0,0⟩ Xc) BF 0 0 Xd kk m'):∃fr:Fr,m'.fs[kk]? =Xa fr/\(fr.f=-1\/∃(j:Nat) (fl:Fl),fr.f=(j:Int)/\m'.fl[j]? =Xa fl)/\0<=fr.x/\fr.x<1000:=by
 obtain⟨a,b⟩:=zih h;subst a b;exact⟨_,rfl,.inl rfl,Dc,Dc⟩
variable{X:Nat->Prop}
theorem zpK {w0 u w:Xn} {p:Nat} {V:MaV} {m:Ma} (h:ChW w0 X p u V m) (gu:zc u w) (c:Cl) (hlv:∃q s,zcn m c.aC q s) (h1:0<=c.pt) (h2:1<=c.n) (h3:c.n<=64 - c.pt) (h4:-1<=c.file) (h5:c.file< (m.fl.length:Int)):
  Xp Tryz.prog 35 #[Xj (Xa ⟨p,0,Xb⟩),Xi #[Xe Xf c.kind,Xe Xf c.aC,Xe Xf c.pt,Xe Xf c.n,Xe Xf c.file,Xe Xf c.base,Xh c.rd,Xh c.wr,Xh c.sh,O c.dv.a c.dv.n c.dv.c]] w fun e w'=>ZQ (zsK m c) w0 p u w e w':=by
 obtain⟨q,s,hpq,hs,hlive⟩:=hlv;have HM:Xo (ChW w0 X p u V m):=h;have HGU:Xo (zc u w):=gu;have HLV:Xo (zcn m c.aC q s):=show zcn _ _ _ _ from⟨hpq,hs,hlive⟩
 obtain⟨b,HB⟩:∃b,Xo (w.heap.size=b):=⟨_,rfl⟩;obtain⟨W1,hW1⟩:∃W1,(w.alloc (Xk #[Xe Xf c.kind,Xe Xf c.aC,Xe Xf c.pt,Xe Xf c.n,Xe Xf c.file,Xe Xf c.base,Xh c.rd,Xh c.wr,Xh c.sh,O c.dv.a c.dv.n c.dv.c] 25)).alloc (Xk #[Xe Xf 0,Xe Xf 0,O Xb 0 0] 54)=W1:=⟨_,rfl⟩;have G1:=gD2 hW1
 have X1:Xo (zl W1 b 25 [Xe Xf c.kind,Xe Xf c.aC,Xe Xf c.pt,Xe Xf c.n,Xe Xf c.file,Xe Xf c.base,Xh c.rd,Xh c.wr,Xh c.sh,O c.dv.a c.dv.n c.dv.c]):=show zl _ _ _ _ by rw[<-hW1];exact(zl.aE w [Xe Xf c.kind,Xe Xf c.aC,Xe Xf c.pt,Xe Xf c.n,Xe Xf c.file,Xe Xf c.base,Xh c.rd,Xh c.wr,Xh c.sh,O c.dv.a c.dv.n c.dv.c] _ HB.out.symm).aA (za _ _)
 have A1:Xo (zl W1 (b+1) 54 [Xe Xf 0,Xe Xf 0,O Xb 0 0]):=show zl _ _ _ _ by rw[<-hW1];exact zl.aE _ [Xe Xf 0,Xe Xf 0,O Xb 0 0] _ (by have:=HB.out;simp;omega)
 have HBL:Xo (b+1<W1.heap.size):=A1.out.box.lt;have GU1:Xo (zc u W1):=show zc _ _ from gu.trans G1.out
 have P1:Xo (zl W1 p 88 (chL V m)):=h.box.aA GU1.out;have HPU:Xo (p<u.heap.size):=h.aM p (.inl rfl);have HUB:Xo (u.heap.size<=b):=show _<=_ by rw[<-HB.out];exact bS gu
 have HW1:Xo (_=W1):=hW1;obtain⟨xs,s1,s2,s3⟩:=h.sp;obtain⟨x,hx⟩:∃x,xs[q]? =Xa x:=⟨_,gE (by rw[s2];exact(gS.1 hs).1)⟩
 obtain⟨gs,cc,heq⟩:=s1.aJ (by have:=(gS.1 hx).1;omega)
 have HOB:Xo (oB V.sp gs):=show(O V.sp.a V.sp.n V.sp.c).ownBlock=Xa gs by rw[heq];rfl
 have HS1:Xo (zb Jm w0.heap.size u (O V.sp.a V.sp.n V.sp.c) xs):=s1;have HS2:Xo (xs.length=m.sp.length):=s2;have HS3:Xo (∀(i:Nat) x s,xs[i]? =Xa x->m.sp[i]? =Xa s->∀W,zk (Dr w0.heap.size X p V) u W->Zf W x s):=s3;have HX:Xo (xs[q]? =Xa x):=hx;have HS:Xo (m.sp[q]? =Xa s):=hs;have HSP:Xo (Zf W1 x s):=s3 q x s hx hs W1 (zk.aA GU1.out);have HGS:Xo (w0.heap.size<=gs/\gs<u.heap.size):=s1.lt gs HOB.out;have hq10:=P1.out.box.c 10 rfl;have hql:(q:Int)< (xs.length:Int):=by have:=(gS.1 hx).1;omega
 have HSO:Xo (zb Jm w0.heap.size W1 (O (Xa ⟨gs,0,Xb⟩) xs.length cc) xs):=show zb _ _ _ _ _ by rw[<-heq];exact s1.aA GU1.out
 rw[heq]at hq10;have HEQ:Xo (O V.sp.a V.sp.n V.sp.c= O (Xa ⟨gs,0,Xb⟩) xs.length cc):=heq;have hfl:=h.at.fl.n;obtain⟨fn,HFN⟩:∃fn,Xo (m.fl.length=fn):=⟨_,rfl⟩;have HFV:Xo (V.fl.n=fn):=show _=_ by rw[hfl];exact HFN.out
 rw[HFN.out]at h5;obtain⟨sn,HSN⟩:∃sn,Xo (xs.length=sn):=⟨_,rfl⟩;rw[HSN.out]at hq10 hql;have hx1:=X1.out.box.c 1 rfl;rw[hpq]at hx1;have hx2:=X1.out.box.c 2 rfl;have hx3:=X1.out.box.c 3 rfl;have hx4:=X1.out.box.c 4 rfl;have HPQ:Xo (c.aC=(q:Int)):=hpq;have hd1:decide (c.pt<0)=Xd:=decide_eq_false (by omega)
 have hd2:decide (c.n<1)=Xd:=decide_eq_false (by omega)
 have hd3:decide (64 - c.pt<c.n)=Xd:=decide_eq_false (by omega)
 have hd4:decide (c.file< -1)=Xd:=decide_eq_false (by omega)
 have hd5:decide ((fn:Int)<=c.file)=Xd:=decide_eq_false (by omega)
 have hpt:c.pt<=63:=by omega
 have HPN:Xo (0<=c.pt/\c.pt<=63/\1<=c.n/\c.n<=64):=show _/\_/\_/\_ from⟨h1,hpt,h2,by omega⟩
 clear hW1 h gu hpq hs hlive s1 s2 s3 hx heq hfl h2 h3 h4 h5
 go_enter Tryz.func35,Tryz.ntmps35
 go_upto_region 1 with fail;rw[HW1.out,HB.out];clear HW1;go_quiet (fail);obtain⟨W2,hW2⟩:∃W2,W1.drewN nq=W2:=⟨_,rfl⟩;have g12:zc W1 W2:=by rw[<-hW2];exact(show Below _ _ _ from bD (bR _ _) _)
 rw[hW2];have G12:Xo (zc W1 W2):=g12;have hx3:=(X1.out.aA g12).box.c 3 rfl;have hx4:=(X1.out.aA g12).box.c 4 rfl;have hf7:W2.cell? ⟨p,7,Xb⟩=Xa (O V.fl.a fn V.fl.c):=by rw[<-HFV.out];exact(P1.out.aA g12).box.c 7 rfl
 clear hW2 g12 hx1 hx2 hq10;go_upto_region 6 with fail;go_quiet (fail);obtain⟨W3,hW3⟩:∃W3,W2.drewN nq=W3:=⟨_,rfl⟩;have g13:zc W1 W3:=by rw[<-hW3];exact G12.out.trans (show Below _ _ _ from bD (bR _ _) _)
 rw[hW3];have G13:Xo (zc W1 W3):=g13;clear hW3 g13 hx3 hx4 hf7 G12 hd1 hd2 hd3 hd4;go_upto_region 8 with fail;clear hd5;have hx3:∀y:zf W3,y.world.cell? ⟨b,3,Xb⟩=Xa (Xe Xf c.n):=fun y=>(X1.out.box.aA (G13.out.trans y.aA)).c 3 rfl
 have hx4:∀y:zf W3,y.world.cell? ⟨b,4,Xb⟩=Xa (Xe Xf c.file):=fun y=>(X1.out.box.aA (G13.out.trans y.aA)).c 4 rfl
 have hx5:∀y:zf W3,y.world.cell? ⟨b,5,Xb⟩=Xa (Xe Xf c.base):=fun y=>(X1.out.box.aA (G13.out.trans y.aA)).c 5 rfl
 have hx6:∀y:zf W3,y.world.cell? ⟨b,6,Xb⟩=Xa (Xh c.rd):=fun y=>(X1.out.box.aA (G13.out.trans y.aA)).c 6 rfl
 have hx7:∀y:zf W3,y.world.cell? ⟨b,7,Xb⟩=Xa (Xh c.wr):=fun y=>(X1.out.box.aA (G13.out.trans y.aA)).c 7 rfl
 have hx8:∀y:zf W3,y.world.cell? ⟨b,8,Xb⟩=Xa (Xh c.sh):=fun y=>(X1.out.box.aA (G13.out.trans y.aA)).c 8 rfl
 have hac:∀y:zf W3,y.world.cell? ⟨gs,q*10+1,Xb⟩=Xa (O x.ar.a x.ar.n x.ar.c):=fun y=>(HSO.out.aA (G13.out.trans y.aA)).bH HX.out 1 _ rfl
 have hne:Nonempty (zf W3):=⟨⟨_,zc.refl _⟩⟩;obtain⟨R1,R2,HRR⟩:∃R1 R2,Xo (zjV s.aD (arC c)=(R1,R2)):=⟨_,_,rfl⟩;have HMP:Xo (∀W,zc W1 W->Xp Tryz.prog 76 #[O x.ar.a x.ar.n x.ar.c,Xi #[Xe Xf c.pt,Xe Xf (c.pt+c.n),Xh c.rd,Xh c.wr,Xh c.sh,Xe Xf c.file,Xe Xf c.base]] W fun e w'=>(∃t:Sli,e= Xl (Xm #[O t.a t.n t.c,Xe Xf R2])/\zb arE W1.heap.size w' (O t.a t.n t.c) R1)/\zc W w'):=show∀W,_ from fun W hW=>by
  refine(zre _ s.aD (arC c) W (HSP.out.ar.aA hW)).mono ?_;rw[HRR.out];rintro e w' ⟨⟨v,rfl,ho⟩,hg⟩;obtain⟨ta,tc,rfl⟩:=ho.form;exact⟨⟨⟨ta,_,tc⟩,rfl,ho.base (bS hW)⟩,hg⟩
 have hsum:-9223372036854775808<=c.pt+c.n/\c.pt+c.n<=9223372036854775807:=by have:=HPN.out;omega
 refine qx [(20,⟨fun v=>∃t:Sli,v= Xm #[O t.a t.n t.c,Xe Xf R2],fun v W=>∃t:Sli,v= Xm #[O t.a t.n t.c,Xe Xf R2]/\zb arE W1.heap.size W (O t.a t.n t.c) R1⟩)] zW (by kernel_rfl) ?_ ?_ ?_
 ·intro x hx;simp only[mC,nM,or_false]at hx;subst hx;exact⟨_,noS,rfl⟩
 ·intro x hx;simp only[mC,nM,or_false]at hx;subst hx;rintro v u u' hg ⟨t,h1,h2⟩;exact⟨t,h1,h2.aA hg⟩
 refine qR rfl rfl rfl (fun K hK=>?_);go_big_quiet_op;refine hK _ ?_;clear hK K
 refine jG (.tmp 60) ⟨gs,q*10,Xb⟩ rfl rfl rfl rfl ?_;simp only[Yg,sB,sS,sZ];iterate 18 (refine qR rfl rfl rfl (fun K hK=>?_);go_big_quiet_op;refine hK _ ?_;clear hK K)
 refine zx rfl rfl (fun w' hg hF=>?_) (fun v1 hv=>?_)
 ·refine zP.call [O x.ar.a x.ar.n x.ar.c,Xi #[Xe Xf c.pt,Xe Xf (c.pt+c.n),Xh c.rd,Xh c.wr,Xh c.sh,Xe Xf c.file,Xe Xf c.base]] rfl Tryz.func76 rfl rfl rfl ?_;refine(HMP.out w' (G13.out.trans hg)).mono ?_;rintro e w'' ⟨⟨t,rfl,ho⟩,hg2⟩;exact⟨_,rfl,hg2,⟨t,rfl⟩,t,rfl,ho⟩
 obtain⟨t,rfl⟩:=hv;simp only[Yg,sB,sS,sZ];iterate 5 (refine qR rfl rfl rfl (fun K hK=>?_);go_big_quiet_op;refine hK _ ?_;clear hK K)
 refine zL fun W4 g4 hF=>?_
 obtain⟨t',ht',ho'⟩:=hF 20;have htt:t'=t:=by
  have h1:(Value.tuple #[O t.a t.n t.c,Xe Xf R2])= Xm #[O t'.a t'.n t'.c,Xe Xf R2]:=ht';simp only[Value.tuple.injEq,Array.mk.injEq,List.cons.injEq,vJ,and_true]at h1;obtain⟨a1,a2,a3⟩:=h1;cases t;cases t'
  simp_all
 subst htt;have O4:Xo (zb arE W1.heap.size W4 (O t'.a t'.n t'.c) R1):=ho';have G14:=dD (G13.out.trans g4);have A4:=dD (A1.out.aA G14.out);clear g4 hF ht' ho' hx3 hx4 hx5 hx6 hx7 hx8 hac hne HMP hsum h1 hpt;have HL:Xo (w0.heap.size<=b):=show _<=_ by have:=HUB.out;have:=HM.out.lo;have:=HPU.out;omega
 by_cases he:R2=0
 rotate_left
 ·have hz:(R2 != 0)=Xc:=by simp[he]
  have HE:Xo (R2≠0):=he;clear he;have hrf:=jY R2 W4;go_wp2_with fail;refine hrf.mono ?_;rintro e W5 ⟨rfl,g5⟩;have A5:=dD (A4.out.aA g5);have Q5:Xo (zc w W5):=show zc _ _ from(G1.out.trans G14.out).trans g5
  clear hrf g5;unfold Ju noS
  go_wp2_with (refine zm rfl 54 (.tmp 4) (.tmp 86) rfl (b+1) rfl [Xe Xf R2,Xe Xf 0,O Xb 0 0] rfl A5.out rfl (by kernel_rfl) (by simp[Value.oneCell']) ?_)
  intro W6 b6 g6 _;have G6:Xo (zc w0 W6):=show zc _ _ from zd ((HM.out.gr.trans HGU.out).trans Q5.out) g6 (by have:=HL.out;omega)
  have A6:Xo (zl W6 (b+1) 54 [Xe Xf R2,Xe Xf 0,O Xb 0 0]):=b6;have O6:Xo (zk (zr4 w0 u) w W6):=show zk _ _ _ from zk.beyond (zk.aA Q5.out) g6 (by have:=HB.out;omega)
  clear b6 g6;go_wp2;refine bodyPost_ret (zE rfl _ rfl A6.out.box Tryz.underlying54 rfl (by kernel_rfl)) rfl ⟨R2,0,noS,[],V,m,rfl,⟨rfl,q,s,HLV.out,by rw[HRR.out],fun h=>absurd h HE.out⟩,O6.out,G6.out,fun _ _=>zj.nil _ _,fun h=>absurd h HE.out⟩
 have HR0:Xo (R2=0):=he;subst he;have HS4:=dD (HSO.out.aA G14.out)
 go_wp2_with (refine zt (E:=Jm) rfl (.tmp 90) (.tmp 88) 71 rfl w0.heap.size _ xs HS4.out gs q 1 rfl x { x with ar:=t' } HX.out [O t'.a t'.n t'.c] (by kernel_rfl) rfl (by show 1+1<=10;omega) (by simp;rfl) ⟨gs,q*10+1,Xb⟩ rfl rfl _ rfl rfl ?_)
 intro W5 o5 g5 s5;clear s5;have A5:Xo (zl W5 (b+1) 54 [Xe Xf 0,Xe Xf 0,O Xb 0 0]):=show zl _ _ _ _ from A4.out.beside g5 (fun k e=>by cases e;have:=HGS.out;have:=HUB.out;omega)
 have P5:Xo (zl W5 p 88 (chL V m)):=show zl _ _ _ _ from(P1.out.aA G14.out).beside g5 (fun k e=>by cases e;first | exact HM.out.ns _ HOB.out | exact(HM.out.ns _ HOB.out).symm)
 have OW5:Xo (zb Jm w0.heap.size W5 (O V.sp.a V.sp.n V.sp.c) (xs.set q { x with ar:=t' })):=show zb _ _ _ _ _ by rw[HEQ.out];exact o5
 have GB5:Xo (W4.grownBy W5 (Xa gs)):=g5;have GR5:Xo (zc w0 W5):=show zc _ _ from zd (((HM.out.gr.trans HGU.out).trans G1.out).trans G14.out) g5 HGS.out.1
 have OD5:Xo (zk (zr4 w0 u) w W5):=show zk _ _ _ from(zk.aA (G1.out.trans G14.out)).trans (zk.grown g5 HGS.out)
 clear o5 g5
 go_wp2_with (refine zm rfl 54 (.tmp 4) (.tmp 92) rfl (b+1) rfl [Xe Xf 0,Xe Xf c.pt,O Xb 0 0] rfl A5.out rfl (by kernel_rfl) (by simp[Value.oneCell']) ?_)
 intro W6 b6 g6 _;have A6:Xo (zl W6 (b+1) 54 [Xe Xf 0,Xe Xf c.pt,O Xb 0 0]):=b6;have HFIN:Xo (ZQ (zsK m c) w0 p u w (Xl (Ju 0 c.pt noS)) W6):=show ZQ _ _ _ _ _ _ _ from by
  refine⟨0,c.pt,noS,[],V,zou m q s R1,rfl,⟨rfl,q,s,HLV.out,by rw[HRR.out],fun _=>⟨rfl,by rw[HRR.out]⟩⟩,OD5.out.beyond g6 (by have:=HB.out;omega),zd GR5.out g6 (by have:=HL.out;omega),fun _ _=>zj.nil _ _,fun _=>⟨P5.out.beside g6 (fun k e=>by cases e;have:=HPU.out;have:=HUB.out;omega),fun W hW=>?_⟩⟩
  refine zpB (w:=W1) (w1:=W4) (w2:=W5) (y:={ x with ar:=t' }) HM.out HS1.out HS2.out HS3.out HX.out HS.out HOB.out GU1.out G14.out O4.out GB5.out OW5.out ⟨rfl,rfl,rfl⟩ ?_;refine(zk.grown (D:=Aft w0 u W1) g6 (.inr ⟨by have:=HUB.out;omega,HBL.out⟩)).trans (hW.wide fun k hk=>hk.imp id fun h=>⟨h.1,Xs h.2 (bS G1.out)⟩)
 clear b6 g6;go_wp2;refine bodyPost_ret (zE rfl _ rfl A6.out.box Tryz.underlying54 rfl (by kernel_rfl)) rfl HFIN.out
theorem zmj (w:Xn) (m:Ma) (c:Cl) (k:c.kind=1) (a:0<=c.pt) (b:1<=c.n) (d:c.n<=64 - c.pt) (e:-1<=c.file) (f:c.file< (m.fl.length:Int)):J8 w m c (zd9 m c.aC (zsK m c)):=by
 intro t W s p v r h n;obtain⟨g,rfl,j⟩:=n.1 k;exact⟨73,#[Xj (Xa ⟨g,0,Xb⟩)],rfl,zf5,zb3 h c g 35 _ (enters_of func35 Kr rfl) j fun q i l=>zpK h i c l a b d e f⟩
def JA (i:Nat) (m:Ma) (az:List (Int × Int × List Int)):Prop:=
 (i=0->m=ZC 2 2 0)/\(i=1->m=zaZ)/\(i=2->m=Qz ⟨0,0,0,9,0,0,0,0⟩ Xc)/\(i=3->∃n,az[2]? =Xa (0,n,[9]))
theorem zrn (w:Xn) (s:Sli) (A:s.n=1) (B:zj byE w (s.x) [9]) (i:Nat) (c:Cl) (m:Ma) (az:List (Int × Int × List Int)) (a: [zrU,zrT s,zrS][i]? =Xa c) (q:az.length=i) (z:JA i m az):
  maW m=0/\(1<=c.kind/\c.kind<=15)/\∃K,(∀W,zc w W->J8 W m c K)/\∀e n l m' f,K e n l m'->((e=0/\f=m')\/(e≠0/\f=m))->JA (i+1) f (az++ [(e,n,l)]):=by
 obtain⟨u,v,x,_⟩:=z
 match i,a,q,u,v,x with
 | 0,a,q,u,_,_=>
  cases a;have g:=u rfl;subst g;refine⟨zph,Dc,zd9 (ZC 2 2 0) 0 (zsK (ZC 2 2 0) zrU),fun W _=>zmj W (ZC 2 2 0) zrU rfl Dc Dc Dc Dc Dc,fun e n l m' f p b=>?_⟩
  obtain⟨j,k⟩:=zpA p
  rcases b with⟨_,d⟩|⟨d,_⟩
  ·exact⟨(fun h=>nomatch h),(fun _=>by rw[d,k]),(fun h=>nomatch h),(fun h=>nomatch h)⟩
  exact absurd j d
 | 1,a,q,_,v,_=>
  cases a;have g:=v rfl;subst g;refine⟨zjI,by show(1:Int)<=5/\(5:Int)<=15;omega,zd9 zaZ 0 (zh4 zaZ (fun _ _ _ _ _=>(Xd,0,zaZ)) (zrT s) [9]),fun W y=>zic W zaZ (zrT s) [9] _ rfl (by show _<=(3:Int);omega) (by show(3:Int)<=_;omega) (B.aA y) (by show(s.n:Int)<=_;omega) (fun r t b=>zqO r t _ b) zs0,fun e n l m' f p b=>?_⟩
  obtain⟨j,k⟩:=zkM A p
  rcases b with⟨_,d⟩|⟨d,_⟩
  ·exact⟨(fun h=>nomatch h),(fun h=>nomatch h),(fun _=>by rw[d,k]),(fun h=>nomatch h)⟩
  exact absurd j d
 | 2,a,q,_,_,x=>
  cases a;have g:=x rfl;subst g;refine⟨zjH Xc,Dc,zd9 (Qz ⟨0,0,0,9,0,0,0,0⟩ Xc) 0 (zoD (Qz ⟨0,0,0,9,0,0,0,0⟩ Xc) (fun _ _ _ _ _=>(Xd,0,zaZ)) zrS),fun W y=>zkF W (Qz ⟨0,0,0,9,0,0,0,0⟩ Xc) zrS _ rfl Dc Dc Dc Dc (fun r t b=>zqN r t _ b) zsZ,fun e n l m' f p b=>?_⟩
  obtain⟨j,k⟩:=znk p;refine⟨(fun h=>nomatch h),(fun h=>nomatch h),(fun h=>nomatch h),fun _=>⟨n,?_⟩⟩
  rw[aR Wm,q,j,k]
  rfl
 | i+3,a,_,_,_,_=>exact absurd a Sm
theorem zjr {α:Type} (E:Elt α) (w:Xn) (l:List α) (cs:Array Xq) (t:TypeId) (n:Nat) (a:cs=(l.flatMap E.enc).toArray) (c:n=l.length) (b:l.length*E.bytes<=140737488355328):zj E (w.alloc (Xk cs t)) (O (Xa ⟨w.heap.size,0,Xb⟩) n n) l:=by
 subst a c;exact⟨⟨_,l.length,rfl,fun h=>(by cases h),fun y d=>by
  cases d;exact jc.aE w (l.flatMap E.enc) t rfl⟩,b⟩
theorem zpl (p a x:Int) (w:Xn):Xp prog 9 #[I6 p,I6 a,U8 x] w fun e w'=>(∃s:Sli,e= Xl (Xi (clL ⟨5,p,a,0,0,0,Xd,Xd,Xd,s⟩).toArray)/\s.n=1/\zb byE w.heap.size w' (s.x) [x])/\zc w w':=by
 obtain⟨i,d⟩:=kA w.heap.size;obtain⟨b,c⟩:=kB (w.alloc (Xk #[I6 0,I6 0,I6 0,I6 0,I6 0,I6 0,Xh Xd,Xh Xd,Xh Xd,eS] 25));have k:=gA c
 have m:=xPT c d
 have g:Xo (_=b):=c;obtain⟨A,l⟩:=kA b.heap.size;have f:Xo (i<A):=show _<_ by rw[<-l.out];exact m.box.lt
 clear c
 go_enter func9,ntmps9
 go_upto_region 1 with fail;rw[g.out,d.out]
 go_wp2_with (refine zm rfl 25 (.tmp 6) (.tmp 11) rfl i rfl [I6 5,I6 p,I6 a,I6 0,I6 0,I6 0,Xh Xd,Xh Xd,Xh Xd,O (Xa ⟨b.heap.size,0,Xb⟩) 1 1] rfl (m.aA (za _ _)) rfl Kr (by simp[Value.oneCell']) ?_)
 intro h n j B;clear B;have q:Xo (zl h i 25 [I6 5,I6 p,I6 a,I6 0,I6 0,I6 0,Xh Xd,Xh Xd,Xh Xd,O (Xa ⟨b.heap.size,0,Xb⟩) 1 1]):=n;have r:Xo (zc w h):=show zc _ _ from zd (k.trans (za _ _)) j (Hm d.out)
 have t:Xo (zb byE w.heap.size h (O (Xa ⟨b.heap.size,0,Xb⟩) 1 1) [x]):=dD<|by
  have u:zb byE b.heap.size (b.alloc (Xk #[U8 x] 5)) (.slice (Xa ⟨b.heap.size,0,Xb⟩) [x].length 1) [x]:=
   zb.mk' (E:=byE) (nR _) (zl.aE b [U8 x] 5 rfl) (nR _) Dc rfl rfl (by show 1*1<=_;omega)
  exact(u.grown j (fun z y e=>by
   have v:Xa b.heap.size=Xa z:=y;simp only[Option.some.injEq]at v e;have:=f.out;have:=l.out
   omega)).base (bS k)
 clear n j;go_wp2;refine bodyPost_ret (zE rfl _ rfl q.box underlying25 rfl Kr) rfl ⟨⟨⟨Xa ⟨b.heap.size,0,Xb⟩,1,1⟩,rfl,rfl,t⟩,r⟩
theorem zq5 (p a x:Int) (w:Xn):Xp prog 9 #[I6 p,I6 a,U8 x] w fun e w'=>(∃s:Sli,e= Xl (Xi (clL ⟨5,p,a,0,0,0,Xd,Xd,Xd,s⟩).toArray)/\s.n=1/\zj byE w' (s.x) [x])/\zc w w':=by
 refine(zpl p a x w).mono ?_;rintro e w' ⟨⟨s,b,c,d⟩,f⟩;exact⟨⟨s,b,c,d.at⟩,f⟩
theorem zqr (a n:Int) (w:Xn):Xp prog 7 #[I6 a,I6 n] w fun e w'=>e= Xl (Xi #[I6 1,I6 0,I6 a,I6 n,I6 (-1),I6 0,Xh Xc,Xh Xc,Xh Xd,eS])/\zc w w':=by
 go_enter func7,ntmps7
 go_wp2;refine bodyPost_ret (zE rfl _ rfl (Box.aE _ [I6 1,I6 0,I6 a,I6 n,I6 (-1),I6 0,Xh Xc,Xh Xc,Xh Xd,eS] _ rfl) underlying25 rfl Kr) rfl ⟨rfl,(show Below _ _ _ from(bR _ _).alloc (nR _) _)⟩
theorem zry (p a:Int) (w:Xn):Xp prog 10 #[I6 p,I6 a] w fun e w'=>e= Xl (Xi #[I6 4,I6 p,I6 a,I6 1,I6 0,I6 0,Xh Xd,Xh Xd,Xh Xd,eS])/\zc w w':=by
 go_enter func10,ntmps10
 go_wp2;refine bodyPost_ret (zE rfl _ rfl (Box.aE _ [I6 4,I6 p,I6 a,I6 1,I6 0,I6 0,Xh Xd,Xh Xd,Xh Xd,eS] _ rfl) underlying25 rfl Kr) rfl ⟨rfl,(show Below _ _ _ from(bR _ _).alloc (nR _) _)⟩
theorem znJ (n:Int) (s:Sli) (x:Int) (xs:List Int) (w:Xn) (h:zj byE w (s.x) (x :: xs)):Xp prog 12 #[Ju 0 n s] w fun e w'=>e= Xl (U8 x)/\zc w w':=by
 have p:s.n=(x :: xs).length:=h.n;obtain⟨l,c,m⟩:=h.bC 0 x rfl;obtain⟨A,B,t⟩:=s;simp only at c p;subst c p;unfold Ju;simp only;have b:0< (x :: xs).length:=Nat.succ_pos _;obtain⟨i,d⟩:=kA ((x :: xs).length);rw[d.out]at b⊢;obtain⟨y,k⟩:=kA w.heap.size;obtain⟨g,a⟩:=kB (w.alloc (Xk #[I6 0,I6 n,O (Xa l) i t] 54));have j:=gA a
 have A1:=xPT a k
 have f:Xo (_=g):=a;have z:g.cell? l=Xa (U8 x):=by simpa [Addr.add]using m g j 0 _ rfl
 clear a m h;have r:decide ((i:Int)<1)=Xd:=decide_eq_false Wm
 have q:(0:Int)< (i:Int):=Wm
 clear b
 go_enter func12,ntmps12
 go_upto_region 1 with fail;rw[f.out,k.out];have u:=A1.box.c 0 rfl;have v:=A1.box.c 2 rfl;go_wp2;go_ret;exact⟨rfl,j⟩
theorem zh0 (w:Xn):Xp prog 6 #[] w fun e w'=>e= Xl (Xh Xc)/\zc w w':=by
 have n:Xo (∀W,Xp prog 7 #[I6 0,I6 1] W fun e w'=>e= Xl (Xi #[I6 1,I6 0,I6 0,I6 1,I6 (-1),I6 0,Xh Xc,Xh Xc,Xh Xd,eS])/\zc W w'):=fun W=>zqr 0 1 W
 have r:Xo (∀W,Xp prog 9 #[I6 0,I6 3,U8 9] W fun e w'=>(∃s:Sli,e= Xl (Xi #[I6 5,I6 0,I6 3,I6 0,I6 0,I6 0,Xh Xd,Xh Xd,Xh Xd,s.x])/\s.n=1/\zj byE w' (s.x) [9])/\zc W w'):=fun W=>zq5 0 3 9 W
 have p:Xo (∀W,Xp prog 10 #[I6 0,I6 3] W fun e w'=>e= Xl (Xi #[I6 4,I6 0,I6 3,I6 1,I6 0,I6 0,Xh Xd,Xh Xd,Xh Xd,eS])/\zc W w'):=fun W=>zry 0 3 W
 go_enter func6,ntmps6
 go_wp2_with fail;refine(n _).mono ?_;rintro e I ⟨rfl,D⟩;have P:Xo (zc w I):=D;clear D;go_wp2_with fail;refine(r _).mono ?_;rintro e a0 ⟨⟨s,rfl,L,M⟩,E⟩;have Q:=dD (P.trans E);have q:Xo (s.n=1):=L;have X:Xo (zj byE a0 (s.x) [9]):=M;clear E L M;go_wp2_with fail;refine(p _).mono ?_;rintro e a1 ⟨rfl,v⟩;have R:=dD (Q.trans v);have Y:=dD (X.aA v);clear v;have a:=zjr clE a1 [zrU,zrT s,zrS] #[I6 1,I6 0,I6 0,I6 1,I6 (-1),I6 0,Xh Xc,Xh Xc,Xh Xd,eS,I6 5,I6 0,I6 3,I6 0,I6 0,I6 0,Xh Xd,Xh Xd,Xh Xd,s.x,I6 4,I6 0,I6 3,I6 1,I6 0,I6 0,Xh Xd,Xh Xd,Xh Xd,eS] 25 3 rfl rfl (by show 3*80<=_;omega)
 have f:=zjL 2 2 0 ⟨Wm,Wm,Wm⟩ _ _ _ a (by show 3<=80;omega) JA ⟨fun _=>rfl,(fun h=>nomatch h),(fun h=>nomatch h),(fun h=>nomatch h)⟩ (zrn _ s q (Y.aA (za _ _)))
 go_wp2_with (go_at_call 11;refine f.mono ?_)
 clear f a;rintro e u ⟨⟨Z,a5,y,a9,a8,rfl,K,g,d⟩,F⟩;obtain⟨B,H⟩:=K.2.2.2 rfl;obtain⟨x,N,j,k,i⟩:=d 2 _ H;obtain⟨a7,A,m⟩:=g.bC 2 x N;cases A;have S:=dD ((R.trans (za _ _)).trans F);have t:Xo (zj byE u (x.s.x) [9]):=i;have V:Xo (∀W,zc u W->W.cell? ⟨y,6,Xb⟩=Xa (I6 0)/\W.cell? ⟨y,7,Xb⟩=Xa (I6 B)/\W.cell? ⟨y,8,Xb⟩=Xa (x.s.x)):=show∀W,_ from fun W z=>by
  have j:x.er=0:=j;have k:x.n=B:=k;rw[<-j,<-k];exact⟨m W z 0 _ rfl,m W z 1 _ rfl,m W z 2 _ rfl⟩
 clear K g d F H N j k i m;go_upto_region 2 with fail;obtain⟨C,b⟩:=kB (u.alloc (Xk (mL Z a5).toArray 45));have l:=gP b
 obtain⟨a2,a3,a4⟩:=V.out C l;have T:=dD (S.trans l);have c:=znJ B x.s 9 [] C (t.aA l);unfold Ju at c;rw[b];clear b l
 go_wp2_with (go_at_call 12;refine c.mono ?_)
 clear c a2 a3 a4;rintro e a6 ⟨rfl,G⟩;have U:=dD (T.trans G);clear G;go_wp2;go_ret;exact⟨rfl,U⟩
theorem zkJ (p A b:Int) (f:Bool) (c:Int) (w:Xn):Xp prog 4 #[I6 p,I6 A,U8 b,Xh f,I6 c] w fun e w'=>e= Xl (Xh Xc)/\zc w w':=by
 have ak:=zh0 w
 go_enter func4,ntmps4
 go_wp2_with fail;refine ak.mono ?_;clear ak;rintro e ae ⟨rfl,aj⟩;have U:Xo (zc w ae):=aj;clear aj
 by_cases S:p<1
 ·have bp:decide (p<1)=Xc:=decide_eq_true S;clear S;go_wp2;go_ret;exact⟨rfl,U⟩
 have bp:decide (p<1)=Xd:=decide_eq_false S
 by_cases a2:40<p
 ·have bq:decide (40<p)=Xc:=decide_eq_true a2;clear S a2;go_wp2;go_ret;exact⟨rfl,U⟩
 have bq:decide (40<p)=Xd:=decide_eq_false a2
 by_cases a6:A<0
 ·have br:decide (A<0)=Xc:=decide_eq_true a6;clear S a2 a6;go_wp2;go_ret;exact⟨rfl,U⟩
 have br:decide (A<0)=Xd:=decide_eq_false a6
 by_cases av:p<A
 ·have b3:decide (p<A)=Xc:=decide_eq_true av;clear S a2 a6 av;go_wp2;go_ret;exact⟨rfl,U⟩
 have b3:decide (p<A)=Xd:=decide_eq_false av
 by_cases ca:b=255
 ·subst ca;clear S a2 a6 av;go_wp2;go_ret;exact⟨rfl,U⟩
 have dd:(b == 255)=Xd:=beq_eq_false_iff_ne.2 ca;clear ca;obtain⟨N,ba⟩:∃N:Nat,Xo (p=(N:Int)):=⟨p.toNat,show _=_ by omega⟩
 obtain⟨z,bg⟩:∃z:Nat,Xo (A=(z:Int)):=⟨A.toNat,show _=_ by omega⟩
 (try unfold mL at bp);(try unfold Sli.x at bp);(try unfold mL at bq);(try unfold Sli.x at bq);(try unfold mL at b3);(try unfold Sli.x at b3);rw[ba.out]at bp bq b3;(try unfold mL at br);(try unfold Sli.x at br);(try unfold mL at b3);(try unfold Sli.x at b3);rw[bg.out]at br b3;have h:Xo ((1<=N/\N<=40)/\z<=N):=dD<|by have:=ba.out;have:=bg.out;omega
 rw[ba.out,bg.out];clear S a2 a6 av;have de:decide (N<z)=Xd:=decide_eq_false (Hm h.out)
 have bb:Xo (w.heap.size<=ae.heap.size):=dD<|bS U.out
 obtain⟨i,X⟩:=kA ae.heap.size;go_upto_region 5 with fail;clear bp bq br b3 dd de
 go_wp2_with (refine qv byE rfl (.tmp 41) rfl N rfl (by show N*1<=_;have:=h.out;omega) ?_)
 intro cn own;obtain⟨cf,C⟩:=kB (ae.alloc (Xk cn byE.ty));have aj:zc ae cf:=by rw[<-C];exact za _ _
 have cv:Xo (zb byE i cf (O (Xa ⟨i,0,Xb⟩) N N) (Xr N 0)):=dD<|by
  (try unfold mL at own);(try unfold Sli.x at own);rw[C,X.out]at own;exact own
 have co:=dD (U.trans aj);rw[C,X.out];clear C own aj;go_wp2
 go_loopg [45] N (fun bt c9 wr=>∃a:Nat,a<=N/\N - a<=bt/\c9=I6 (a:Int)/\Xo (zc w wr)/\Xo (zb byE i wr (O (Xa ⟨i,0,Xb⟩) N N) (Xr a b++Xr (N - a) 0)))
 exact⟨0,nZ _,Wm,rfl,co,cv⟩
 obtain⟨a,M,m,rfl,b7,ac⟩:=hrel;have t:Xo (N - a<=gk/\a<=N):=⟨m,M⟩
 by_cases G:a<N
 ·have ao:=kC G
  have Q:(Xr a b++Xr (N - a) 0)[a]? =Xa 0:=by
   rw[aR (by rw[lR];omega),lR,Xx,kE Wm]
  have du:wr.cell? ⟨i,a,Xb⟩=Xa (U8 0):=by
   have:=ac.one Q 0 _ rfl;(try unfold mL at this);(try unfold Sli.x at this);rw[qO,Ys,zA,show a*byE.k+0=a from Ob a]at this
   exact this
  have e4:=ac.unfrozen (g:=i) rfl a;obtain⟨b4,bu,au⟩:=ac.cell (k:=a) (o:=0) (g:=i) rfl Q (y:=b) (u:=U8 b) rfl Dc
  (try unfold mL at b4);(try unfold Sli.x at b4);(try unfold mL at bu);(try unfold Sli.x at bu);(try unfold mL at au);(try unfold Sli.x at au);rw[show a*byE.k+0=a from Ob a]at b4 bu au
  have P:(Xr a b++Xr (N - a) 0).set a b=Xr (a+1) b++Xr (N -(a+1)) 0:=by
   refine Yq (by simp;omega) fun dx K ck=>?_
   simp only[List.getElem_set,List.getElem_append,Yt,lR]
   grind
  (try unfold mL at b4);(try unfold Sli.x at b4);rw[P]at b4;have d5:Xo (zb byE i (wr.setCell ⟨i,a,Xb⟩ (U8 b)) (O (Xa ⟨i,0,Xb⟩) N N) (Xr (a+1) b++Xr (N -(a+1)) 0)):=b4;have d6:Xo (zc w (wr.setCell ⟨i,a,Xb⟩ (U8 b))):=show zc _ _ from zd b7 bu (by have:=bb.out;have:=X.out;omega)
  clear b4 bu au P Q m M;have bz:(a:Int)+1<100:=Hm h.out
  go_wp2
  go_roundg (N -(a+1))
  case measure=>have:=t.out;omega
  exact⟨a+1,Wm,Wm,Gn,d6,d5⟩
 have e:N=a:=Wm
 subst e;clear m M;(try unfold mL at ac);(try unfold Sli.x at ac);rw[Nat.sub_self,List.replicate_zero,List.append_nil]at ac;obtain⟨s,ax⟩:=kA wr.heap.size;obtain⟨a3,D⟩:=kB (wr.alloc (Xk #[I6 8,I6 0,I6 0,I6 0,I6 0,I6 0,Xh Xd,Xh Xd,Xh Xd,eS,I6 10,I6 0,I6 0,I6 0,I6 0,I6 0,Xh Xd,Xh Xd,Xh Xd,O (Xa ⟨i,0,Xb⟩) N N,I6 12,I6 0,I6 0,I6 0,I6 0,I6 0,Xh Xd,Xh Xd,Xh Xd,eS,I6 11,I6 0,I6 0,I6 (z:Int),I6 0,I6 0,Xh Xd,Xh Xd,Xh Xd,eS] 25));have gA:=gP D
 obtain⟨V,bd⟩:∃V:Sli,Xo (V=⟨Xa ⟨i,0,Xb⟩,N,N⟩):=⟨_,rfl⟩;have b0:Xo (zb clE s a3 (O (Xa ⟨s,0,Xb⟩) 4 4) [cCr,cWr V,cSy,cTr (z:Int)]):=dD<|by
  have K:zl a3 s 25 [I6 8,I6 0,I6 0,I6 0,I6 0,I6 0,Xh Xd,Xh Xd,Xh Xd,eS,I6 10,I6 0,I6 0,I6 0,I6 0,I6 0,Xh Xd,Xh Xd,Xh Xd,O (Xa ⟨i,0,Xb⟩) N N,I6 12,I6 0,I6 0,I6 0,I6 0,I6 0,Xh Xd,Xh Xd,Xh Xd,eS,I6 11,I6 0,I6 0,I6 (z:Int),I6 0,I6 0,Xh Xd,Xh Xd,Xh Xd,eS]:=by rw[<-D];exact zl.aE wr _ _ ax.symm
  rw[bd.out];exact zb.mk' (E:=clE) (l:=[cCr,cWr ⟨Xa ⟨i,0,Xb⟩,N,N⟩,cSy,cTr (z:Int)]) (nR _) K (by show 4<=4;omega) Dc rfl rfl (by show 4*80<=_;omega)
 have cd:=dD (b7.trans gA);have b6:Xo (zb byE i a3 (V.x) (Xr N b)):=show zb _ _ _ _ _ by rw[bd.out];exact ac.aA gA
 have bi:Xo (s<=a3.heap.size):=dD<|by rw[<-ax.out];exact bS gA
 have ab:Xo (w.heap.size<=s):=dD<|by rw[<-ax.out];exact bS b7.out
 have be:Xo (V.n<=V.c):=dD<|by rw[bd.out];exact nR _
 have bf:Xo (_=a3):=D;clear D gA;go_upto_region 11 with fail
 go_upto_if 60 with fail
 rw[ax.out,bf.out]
 go_cut [13] (fun c8 b5=>∃(bn:Option Addr) (R bo:Nat),c8= O bn R bo/\Xo (zc w b5)/\Xo (s<=b5.heap.size)/\Xo (zb clE s b5 (O bn R bo) ([cCr,cWr V,cSy,cTr (z:Int)]++(if f=Xc then [cCa c]else [])))/\Xo (zb byE i b5 (V.x) (Xr N b)))
 case first=>
  cases f with
  | false=>
   go_wp2
   go_meet
   exact⟨_,_,_,rfl,cd,bi,b0,b6⟩
  | true=>
   have d:=zjr clE a3 [cCa c] #[I6 15,I6 0,I6 0,I6 c,I6 0,I6 0,Xh Xd,Xh Xd,Xh Xd,eS] 25 1 rfl rfl (by show 1*80<=_;omega)
   go_wp2_with (at_builtin;refine zu (E:=clE) rfl (.tmp 61) (.tmp 64) rfl s _ [cCr,cWr V,cSy,cTr (z:Int)] rfl (b0.aA (za _ _)) _ [cCa c] rfl d ?qb ?qc ?_)
   case qb=>show(4+1)*80<=_;omega
   case qc=>have:=bi.out;simp;omega
   clear d;intro dy x a1 B;obtain⟨da,dc,rfl⟩:=a1.form;have b8:Xo (zc w x):=dD<|zU (cd.trans (za _ _)) B (fun Z a0=>by
    have K:=(b0.lt Z a0).1;have:=ab.out
    omega)
   have d7:Xo (s<=x.heap.size):=dD<|by
    have K:=B.size;have:=bi.out
    simp at K
    omega
   have cz:Xo (zb byE i x (V.x) (Xr N b)):=dD<|(b6.aA (za _ _)).grown B (fun Z a0 e=>(b6.apart b0 Dc) Z a0 e)
   have cx:Xo (zb clE s x (O da _ dc) ([cCr,cWr V,cSy,cTr (z:Int)]++ [cCa c])):=a1;clear a1 B;go_wp2
   go_meet
   exact⟨_,_,_,rfl,b8,d7,cx,cz⟩
 case rest=>
 obtain⟨bn,R,bo,rfl,cm,bc,b1,ce⟩:=hcut;go_upto_region 14 with fail;obtain⟨bh,Y⟩:=kA ([cCr,cWr V,cSy,cTr (z:Int)]++(if f=Xc then [cCa c]else []));(try unfold mL at b1);(try unfold Sli.x at b1);rw[Y.out]at b1;have a9:Xo (bh.length=4+f.toNat):=dD<|by rw[<-Y.out];cases f <;> rfl
 have aa:Xo (bh++ [cTr (N:Int),cRe]=zr8 f V (z:Int) (N:Int) c):=dD<|by rw[<-Y.out];rfl
 have an:f.toNat<=1:=by cases f <;> decide
 have b9:Xo (f.toNat<=1):=an;have d:=zjr clE wc [cTr (N:Int),cRe] #[I6 11,I6 0,I6 0,I6 (N:Int),I6 0,I6 0,Xh Xd,Xh Xd,Xh Xd,eS,I6 9,I6 0,I6 0,I6 99,I6 0,I6 0,Xh Xd,Xh Xd,Xh Xd,eS] 25 2 rfl rfl (by show 2*80<=_;omega)
 go_upto_region 15 with(at_builtin;refine zu (E:=clE) rfl (.tmp 66) (.tmp 70) rfl s _ bh rfl (b1.aA (za _ _)) _ [cTr (N:Int),cRe] rfl d ?qb ?qc ?_)
 case qb=>
  rw[a9.out]
  show(4+f.toNat+2)*80<=_
  omega
 case qc=>have:=bc.out;simp;omega
 clear d;intro dq b2 r I;(try unfold mL at r);(try unfold Sli.x at r);rw[aa.out]at r;have hlen:(zr8 f V (z:Int) (N:Int) c).length=6+f.toNat:=by rw[<-aa.out,lA,a9.out];show 4+f.toNat+2=_;omega
 obtain⟨d9,db,rfl⟩:=r.form;rw[hlen]at r⊢;have cw:Xo (zj clE b2 (O d9 (6+f.toNat) db) (zr8 f V (z:Int) (N:Int) c)):=r.at;have cp:Xo (zc w b2):=show zc _ _ from zU (cm.trans (za _ _)) I (fun Z a0=>by
  have K:=(b1.lt Z a0).1;have:=ab.out
  omega)
 have cy:Xo (zb byE i b2 (V.x) (Xr N b)):=dD<|(ce.aA (za _ _)).grown I (fun Z a0 e=>(ce.apart b1 Dc) Z a0 e)
 obtain⟨bj,ay⟩:=kA (6+f.toNat);have H:=zjL 4 2 8 ⟨Wm,Wm,Wm⟩ _ (zr8 f V (z:Int) (N:Int) c) b2 cw (by rw[hlen];omega) (JC f.toNat z N b) ⟨⟨fun _=>rfl,fun j=>absurd j Wm,fun j=>absurd j Wm,fun j=>absurd j Wm,fun j=>absurd j Wm,fun j=>absurd j Wm,fun j=>absurd j Wm⟩,fun j=>absurd j Wm⟩ (zrm f h.1 h.2 be cy.at)
 (try unfold mL at H);(try unfold Sli.x at H);rw[hlen]at H;rw[ay.out]at H⊢;clear r I hlen an
 go_upto_region 16 with(go_at_call 11;refine H.mono ?_)
 clear H;rintro e x ⟨⟨d8,dm,bs,e5,dt,rfl,cl,ap,al⟩,cj⟩;have b8:=dD (cp.trans cj);obtain⟨aq,a8⟩:=kA (5+f.toNat);obtain⟨dp,T,c3,F⟩:∃(R:Int) (T:Sli),zj byE x (T.x) (zm2 z N b)/\∀W,zc x W->W.cell? ⟨bs,aq*3,Xb⟩=Xa (I6 0)/\W.cell? ⟨bs,aq*3+1,Xb⟩=Xa (I6 R)/\W.cell? ⟨bs,aq*3+2,Xb⟩=Xa (T.x):=by
  obtain⟨R,dj⟩:=cl.2 ay.symm;obtain⟨y,dl,ah,ai,dg⟩:=al _ _ dj;obtain⟨af,q,F⟩:=ap.bC _ y dl;cases q;have ah:y.er=0:=ah;have ai:y.n=R:=ai;refine⟨R,y.s,dg,fun W bw=>?_⟩
  have cg:=F W bw 0 _ rfl;have ch:=F W bw 1 _ rfl;have ci:=F W bw 2 _ rfl;(try unfold mL at cg);(try unfold Sli.x at cg);(try unfold mL at ch);(try unfold Sli.x at ch);(try unfold mL at ci);(try unfold Sli.x at ci);rw[qO,Ys,zA,a8.out]at cg ch ci;rw[<-ah,<-ai];exact⟨cg,ch,ci⟩
 have v:Xo (zj byE x (T.x) (zm2 z N b)):=c3;have c7:T.n=N:=c3.n.trans (zjN b h.2);(try unfold mL at F);(try unfold Sli.x at F);(try unfold mL at v);(try unfold Sli.x at v);rw[c7]at F v;clear cl al ap cj c3;go_upto_region 16 with fail;obtain⟨bl,L⟩:=kB (x.alloc (Xk (mL d8 dm).toArray 45));have cb:=gA L
 rw[L];clear L;obtain⟨df,ah,ai⟩:=F bl cb.out;have c6:(bj:Int) - 1=(aq:Int):=by have:=ay.out;have:=a8.out;omega
 have bx:(aq:Int)< (bj:Int):=Wm
 have bv:(bj:Int)<100:=by have:=ay.out;have:=b9.out;omega
 go_upto_region 17 with fail;obtain⟨dv,a7⟩:=kA bl.heap.size;obtain⟨bm,L⟩:=kB (bl.alloc (Xk #[I6 0,I6 dp,O T.a N T.c] 54));have cc:=gT L cb
 have bk:=xPT L a7
 have cq:=dD (b8.trans cc);rw[L,a7.out];clear L df ah ai c6 bx bv F;obtain⟨af,q⟩:∃af,T.a=Xa af:=by
  obtain⟨dz,_,Q,dk⟩:=v.rows;have dw:=v.n;simp only[vJ]at Q;obtain⟨ag,e,_⟩:=dk 0 _ (gE (Hm h.out))
  exact⟨ag,Q.1.trans e⟩
 have cu:Xo (∀a,a<N->jc bm (af.add (a*byE.k)) [U8 (if a<z then b else 0)]):=dD<|fun a M=>by
  have Q:(zm2 z N b)[a]? =Xa (if a<z then b else 0):=by
   unfold zm2;rw[List.getElem?_append,lR]
   by_cases j:a<z
   ·rw[kE j,kE j,Xx,kE j]
   rw[kF j,kF j,Xx,kE (Hm h.out)]
  obtain⟨ag,e,F⟩:=v.bC a _ Q;(try unfold mL at e);(try unfold Sli.x at e);rw[q]at e;cases e;exact F bm cc.out
 (try unfold mL at bk);(try unfold Sli.x at bk);rw[q]at bk;have dr:=bk.box.c 0 rfl;have ds:=bk.box.c 2 rfl;clear q;go_wp2;clear dr ds
 go_loopg [102] N (fun bt ar wr=>∃a:Nat,a<=N/\N - a<=bt/\ar=I6 (a:Int)/\Xo (zc bm wr))
 exact⟨0,nZ _,Wm,rfl,zc.refl _⟩
 obtain⟨a,M,m,rfl,aw⟩:=hrel;have t:Xo (N - a<=gk/\a<=N):=⟨m,M⟩
 by_cases G:a<N
 ·have ao:=kC G
  have bz:(a:Int)+1<100:=Hm h.out
  have am:wr.cell? (af.add a)=Xa (U8 (if a<z then b else 0)):=by
   have:=(cu a G).aA aw 0 _ rfl;(try unfold mL at this);(try unfold Sli.x at this);rw[qO,show a*byE.k+0=a from Ob a]at this
   exact this
  by_cases n:a<z
  ·(try unfold mL at am);(try unfold Sli.x at am);rw[kE n]at am;have K:decide ((a:Int)< (z:Int))=Xc:=decide_eq_true Wm
   have ck:decide (a<z)=Xc:=decide_eq_true n;have dh:decide (z<=a)=Xd:=decide_eq_false Wm
   have di:decide ((z:Int)<=(a:Int))=Xd:=decide_eq_false Wm
   clear m M n;go_wp2
   go_roundg (N -(a+1))
   case measure=>have:=t.out;omega
   exact⟨a+1,Wm,Wm,Gn,aw⟩
  (try unfold mL at am);(try unfold Sli.x at am);rw[kF n]at am;have K:decide ((a:Int)< (z:Int))=Xd:=decide_eq_false Wm
  have ck:decide (a<z)=Xd:=decide_eq_false n;have dh:decide (z<=a)=Xc:=decide_eq_true Wm
  have di:decide ((z:Int)<=(a:Int))=Xc:=decide_eq_true Wm
  clear m M n;go_wp2
  go_roundg (N -(a+1))
  case measure=>have:=t.out;omega
  exact⟨a+1,Wm,Wm,Gn,aw⟩
 obtain rfl:a=N:=Wm
 have cs:=dD (cq.trans aw);go_wp2;go_ret;exact⟨rfl,cs⟩
end
section
open Go.ChangeShapes Go.WideShapes Go.ChangeAt Go.RowKit
theorem own:ownKnob Tryz.prog.godebug=Xb:=by kernel_rfl
theorem laidOut:laidOutB prog=Xc:=by kernel_rfl
theorem zfr (T:Os) (e:T.Started) (L:Type) (enc:TypeId × Xq->L):
  ReturnsInHanded {} Tryz.checked T 4 .any (Rows.topCutSpec.pre6 enc prog Tryz.f4 Rows.topCutRow.domain Xd) (Rows.topCutSpec.post enc prog Tryz.f4 Xd Xc Xd Xd):=by
 refine returnsInHanded_of_change_sized (C:=Tryz.checked) own e Kr func4
  (ChangeSpec.witness6 (enc:=enc) (C:=Tryz.checked) Xd ⟨#[],#[I6 0,I6 0,U8 0,Xh Xd,I6 0],[]⟩ 8 Kr Kr Kr Kr) ?_
 intro W h c N a6 j d Q R g _;have n:(DataW.weightsEach prog (Tryz.f4.params.toList++Rows.topCutSpec.plain.varTypes prog) (N++a6)).all (·<=reachBytes)=Xc:=g;have a:∀(S:Nat) t v,Tryz.f4.params[S]? =Xa t->c[S]? =Xa v->Value.okWide prog W .any h t v:=d;have k:=Q;obtain⟨al,b9,i,ac,rfl,ae,af⟩:=Q;have P:DataW.TrodAll enc prog W 0 (fun _=>Xc) Xc Tryz.f4.params.toList c.toList N al:=i
 rw[Tryz.params4]at P a n;obtain⟨U,ay,b3,a1,am,ba,l,rfl,rfl,p,ar⟩:=trodAll_cons P;obtain⟨V,az,b4,a2,an,bb,rfl,rfl,rfl,r,au⟩:=trodAll_cons ar;obtain⟨X,b0,b5,a3,ao,bc,rfl,rfl,rfl,u,av⟩:=trodAll_cons au;obtain⟨Y,b1,b6,a4,ap,bd,rfl,rfl,rfl,y,aw⟩:=trodAll_cons av;obtain⟨Z,b2,b7,a5,aq,be,rfl,rfl,rfl,A,ax⟩:=trodAll_cons aw;obtain⟨rfl,rfl,rfl⟩:=trodAll_nil ax;obtain rfl:c=#[U,V,X,Y,Z]:=by cases c;simp_all
 obtain⟨rfl,rfl⟩:=trodVars_none ac;have D:∀x∈am,x.block<W.heap.size:=by obtain⟨m,f⟩:=p;exact DataW.trod_lt m _ _ _ f
 have E:∀x∈an,x.block<W.heap.size:=by obtain⟨m,f⟩:=r;exact DataW.trod_lt m _ _ _ f
 have F:∀x∈ao,x.block<W.heap.size:=by obtain⟨m,f⟩:=u;exact DataW.trod_lt m _ _ _ f
 have G:∀x∈ap,x.block<W.heap.size:=by obtain⟨m,f⟩:=y;exact DataW.trod_lt m _ _ _ f
 have H:∀x∈aq,x.block<W.heap.size:=by obtain⟨m,f⟩:=A;exact DataW.trod_lt m _ _ _ f
 have q:=p;have s:=r;have w:=u;have z:=y;have B:=A;obtain⟨ag,rfl,rfl,rfl,bf⟩:=open_int underlying3 (a 0 3 U rfl rfl) p;obtain⟨ah,rfl,rfl,rfl,bg⟩:=open_int underlying3 (a 1 3 V rfl rfl) r;obtain⟨ai,rfl,rfl,rfl,bh⟩:=open_int underlying5 (a 2 5 X rfl rfl) u;obtain⟨aj,rfl,rfl,rfl⟩:=open_bool underlying4 (a 3 4 Y rfl rfl) y;obtain⟨ak,rfl,rfl,rfl,bi⟩:=open_int underlying3 (a 4 3 Z rfl rfl) A;clear i d g;refine(zkJ ag ah ai aj ak W).mono fun b8 I ⟨ad,bel⟩=>?_
 subst ad;have b:∀{t:TypeId} {v:Xq} {M:DataW L} {K:List MemPlace},Tryz.prog.readableRec t=Xc->t<Tryz.prog.types.size->DataW.Trod enc prog W 0 (fun _=>Xc) Xc t v M K->(∀x∈K,x.block<W.heap.size)->DataW.Trod enc prog I 0 (fun a0=>decide (a0<W.heap.size)) Xc t v M K:=
  fun a8 a9 aa ab=>Below.trod laidOut a8 a9 aa bel ab
 exact⟨_,rfl,_,_,_,[],_,[],k,trodAll_mk1 (shut_bool underlying4 _),(trodAll_cons_mk (b Kr (of_decide_eq_true Kr) q D) (trodAll_cons_mk (b Kr (of_decide_eq_true Kr) s E) (trodAll_cons_mk (b Kr (of_decide_eq_true Kr) w F) (trodAll_cons_mk (b Kr (of_decide_eq_true Kr) z G) (trodAll_cons_mk (b Kr (of_decide_eq_true Kr) B H) trodAll_mk0))))),rfl,Below.frame bel _,fun a7=>by cases a7⟩
theorem zim:Rows.topCutRow.holds Tryz.pinned (OpenSpec.ofChange Rows.topCutSpec):=
 OpenClaim.holds_of_wide 4 Tryz.f4 rfl rfl rfl rfl rfl rfl rfl ⟨rfl,rfl,rfl,rfl,rfl⟩ rfl rfl rfl rfl rfl Kr func4 Kr
  (of_decide_eq_true Kr) (by unfold Func.isWrapper;first | (rw[kE (by decide+kernel)];kernel_rfl) | (rw[kF (by decide+kernel)];exact⟨rfl,rfl⟩))
  (fun c a H b _=>zfr c a H b)
theorem topCut_holds:Rows.TopCutSaid:=zim
#print axioms topCut_holds
end
end Go.Proofs.YtmfckdkcmbncdaaGreat
