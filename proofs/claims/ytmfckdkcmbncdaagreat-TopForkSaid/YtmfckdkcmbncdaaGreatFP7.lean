import Derived.Test.YtmfckdkcmbncdaaGreatFP6
import Derived.Deep.DeepCutAuto
namespace Go.Proofs.YtmfckdkcmbncdaaGreat
open Go.Value renaming slice→O,int→Xe,bool→Xh,agg→Xi,pointer→Xj,tuple→Xm
open Go.IntKind renaming i64→Xf,u8→Xg
open Go.Obj renaming cells→Xk
open Go.Ending renaming returned→Xl
open Go renaming World→Xn,Calls→Xp,Value→Xq
open Go.RowKit renaming Hid→Xo
open Option renaming some→Xa,none→Xb
open Bool renaming true→Xc,false→Xd
open List renaming replicate→Xr
open Go.Act renaming put→Xs
open _root_.List renaming any_eq_true→Xt,length_take→Xu,getElem?_of_mem→Xv,pairwise_iff_getElem→Xx,length_set→Xy,mem_range→Xz,flatMap_append→Yd,ext_getElem?→Yf,countP_cons→Yg,getElem?_cons_succ→Yh,length_drop→Yi,take_of_length_le→Yj,take_left'→Yk,take_append_drop→Yl,findIdx_getElem→Ym,takeWhile_cons→Yn,any_eq_false→Yo,take_add_one→Yp,append_assoc→Yq,getElem?_map→Yr,map_nil→Yt,size_toArray→Yu,take→Yv,drop→Yw
open _root_.Nat renaming mod_eq_of_lt→Xw,mod_lt→Ya,mul_le_mul_right→Yb,mod_add_mod→Yc,add_zero→Ye
open Go.Sem renaming run_bind→Ys
set_option maxRecDepth 100000
set_option maxHeartbeats 4000000
variable{B fi g ix:Nat} {Q:Exit->Act->Xn->Prop} {V:MaV} {W w0 w1:Xn} {m:Ma} {o:Oper} {ops:Array Oper}
open Go.Proofs.Tryz
section
open Go.RowKit
theorem zgr:∀(m:Nat) (fs:List Fr) (h:Nat),h<fs.length->(∀q∈fs,q=frF)->jv m fs h=(fs,(h+m) % fs.length,-1)
 | 0,fs,h,a,_=>by
  rw[jv,Ye,Xw a]
 | m+1,fs,h,a,b=>by
  have d:fs.getD h fr0=frF:=by
   rw[gD,gE a];exact b _ (List.getElem_mem a)
  have e:fs.set h (frU frF)=fs:=by
   apply Yf
   intro j
   by_cases c:j=h
   ·subst c;rw[sF a,gE a,b _ (List.getElem_mem a)];rfl
   rw[sN (Ne.symm c)]
  rw[jv,d,show zjq frF=Xd from rfl,e]
  rw[kF (by decide),zgr m fs ((h+1) % fs.length) (Ya _ (by omega)) b]
  rw[Yc,Nat.add_assoc,Nat.add_comm 1 m]
theorem zm4 {q:Fr} (a:frW q=0) (c:q.r=0):q=frF:=by
 unfold frW at a
 by_cases b:(inB q.r 1001 && inB q.x 12)=Xd
 ·rw[kE b]at a;omega
 rw[kF b]at a
 by_cases b:(!(q.f == -1) && !inB q.f 5)=Xc
 ·rw[kE b]at a;omega
 rw[kF b]at a
 by_cases b:(q.r == 0 && !zbr q frF || q.f == -1 && !(q.x == 0))=Xc
 ·rw[kE b]at a;omega
 simp[c]at b
 exact zfB b.1
def zn3 (q:Fr):Bool:=decide (0<q.r)
theorem zkt {fs:List Fr} {h:Int} (a:Zb fs h=0) (e:fs.any zn3=Xd):Jp fs h=(fs,h.toNat,-1):=by
 obtain⟨b,c,b,b⟩:=ji a;have a:∀q∈fs,q=frF:=fun q b=>by
  have d:=Yo.1 e q b;unfold zn3 at d;have e:=(zbp (c q b)).1;exact zm4 (c q b) (by simp at d;omega)
 unfold Jp
 by_cases b:fs.length=0
 ·rw[b];rfl
 rw[zgr _ fs h.toNat (by omega) a,Nat.add_comm,Nat.two_mul,Nat.add_assoc,Nat.add_mod_left,Nat.add_mod_left,Xw (by omega)]
def zbC (fs gs:List Fr):Prop:=gs.length=fs.length/\∀(i:Nat) q,fs[i]? =Xa q->∃q',gs[i]? =Xa q'/\(q'=q\/q'=frU q)
theorem zbC.refl (fs):zbC fs fs:=⟨rfl,fun _ q h=>⟨q,h,.inl rfl⟩⟩
theorem zbC.set {fs a:List Fr} (h:zbC fs a) (i:Nat):zbC fs (a.set i (frU (a.getD i fr0))):=by
 refine⟨by rw[Xy];exact h.1,fun j q d=>?_⟩
 obtain⟨c,a,b⟩:=h.2 j q d
 by_cases e:j=i
 ·subst e;have d:=(gS.1 a).1;refine⟨frU c,?_,?_⟩
  ·rw[sF d,gD,a];rfl
  right
  rcases b with rfl|rfl <;> rfl
 exact⟨c,by rw[sN (Ne.symm e)];exact a,b⟩
theorem zaI:∀(m:Nat) (fs b:List Fr) (h:Nat),zbC fs b->h<b.length->∀(a:List Fr) (c:Nat) (r:Int),jv m b h=(a,c,r)->zbC fs a/\c<a.length/\(r=-1\/∃(k:Nat) (q:Fr),r=(k:Int)/\fs[k]? =Xa q/\0<q.r/\a[k]? =Xa (frU q)/\c=(k+1) % fs.length)
 | 0,fs,b,h,f,l,a,c,r,e=>by
  rw[jv]at e;cases e;exact⟨f,l,.inl rfl⟩
 | m+1,fs,b,h,f,l,a,c,r,e=>by
  rw[jv]at e;have j:=f.set h;have i:(h+1) % b.length< (b.set h (frU (b.getD h fr0))).length:=by
   rw[Xy];exact Ya _ (by omega)
  by_cases d:zjq (b.getD h fr0)=Xc
  ·rw[kE d]at e;cases e;refine⟨j,i,.inr ?_⟩;have g:h<fs.length:=by rw[<-f.1];exact l
   obtain⟨s,t,n⟩:=f.2 h fs[h] (gE g);have p:b.getD h fr0=s:=by rw[gD,t];rfl
   rw[p]at d;have b:0<s.r:=by unfold zjq at d;simp at d;exact d.1
   refine⟨h,fs[h],rfl,gE g,?_,?_,by rw[f.1]⟩
   ·rcases n with rfl|rfl
    ·exact b
    exact b
   rw[sF l,p]
   rcases n with rfl|rfl <;> rfl
  rw[kF d]at e;exact zaI m fs _ _ j i a c r e
theorem zkO {fs:List Fr} (b:∀q∈fs,0<=q.r):fs.countP zn3+qL fs=fs.length:=by
 induction fs with
 | nil=>rfl
 | cons a l d=>
  have c:=d fun q d=>b q (by simp[d])
  have d:=b a (by simp)
  unfold qL at c⊢;rw[Yg,Yg,List.length_cons]
  by_cases b:a.r=0
  ·rw[kF (by unfold zn3;simp;omega),kE (by simp[b])]
   omega
  rw[kE (by unfold zn3;simp;omega),kF (by simp[b])]
  omega
theorem zes:∀(d m:Nat) (a:List Fr) (h:Nat),h<a.length->d<m->zn3 (a.getD ((h+d) % a.length) fr0)=Xc->(a.getD ((h+d) % a.length) fr0).u=Xd->(jv m a h).2.2≠-1
 | d,0,_,_,_,l,_,_=>by omega
 | d,m+1,a,h,f,l,b,j=>by
  rw[jv]
  by_cases hi:zjq (a.getD h fr0)=Xc
  ·rw[kE hi];simp only;omega
  rw[kF hi]
  cases d with
  | zero=>
   rw[Ye,Xw f]at b j;unfold zjq at hi;unfold zn3 at b;rw[b,j]at hi;exact absurd rfl hi
  | succ d=>
   have g:(a.set h (frU (a.getD h fr0))).length=a.length:=Xy;have c:∀i,(a.set h (frU (a.getD h fr0))).getD i fr0=if i=h/\h<a.length then frU (a.getD h fr0)else a.getD i fr0:=fun i=>by
    rw[gD]
    by_cases e:i=h
    ·subst e;rw[kE ⟨rfl,f⟩,sF f];rfl
    rw[kF (by omega),sN (Ne.symm e),<-gD]
   have k:((h+1) % a.length+d) % a.length=(h+(d+1)) % a.length:=by rw[Yc,show h+1+d=h+(d+1) by omega]
   refine zes d m _ _ (by rw[g];exact Ya _ (by omega)) (by omega) ?_ ?_
   ·rw[g,k,c]
    split
    ·rename_i e
     rw[e.1]at b;exact b
    exact b
   rw[g,k,c]
   split
   ·rfl
   exact j
theorem zdf:∀(d m:Nat) (a:List Fr) (h:Nat),h<a.length->d+a.length<m->zn3 (a.getD ((h+d) % a.length) fr0)=Xc->(jv m a h).2.2≠-1
 | d,0,_,_,_,k,_=>by omega
 | d,m+1,a,h,c,k,f=>by
  rw[jv]
  by_cases hi:zjq (a.getD h fr0)=Xc
  ·rw[kE hi];simp only;omega
  rw[kF hi];have e:(a.set h (frU (a.getD h fr0))).length=a.length:=Xy;have b:∀i,(a.set h (frU (a.getD h fr0))).getD i fr0=if i=h/\h<a.length then frU (a.getD h fr0)else a.getD i fr0:=fun i=>by
   rw[gD]
   by_cases g:i=h
   ·subst g;rw[kE ⟨rfl,c⟩,sF c];rfl
   rw[kF (by omega),sN (Ne.symm g),<-gD]
  cases d with
  | zero=>
   rw[Ye,Xw c]at f;have j:((h+1) % a.length+(a.length - 1)) % a.length=h:=by
    rw[Yc,show h+1+(a.length - 1)=h+a.length by omega,Nat.add_mod_right,Xw c]
   refine zes (a.length - 1) m _ _ (by rw[e];exact Ya _ (by omega)) (by omega) ?_ ?_
   ·rw[e,j,b,kE ⟨rfl,c⟩];exact f
   rw[e,j,b,kE ⟨rfl,c⟩];rfl
  | succ d=>
   have j:((h+1) % a.length+d) % a.length=(h+(d+1)) % a.length:=by rw[Yc,show h+1+d=h+(d+1) by omega]
   refine zdf d m _ _ (by rw[e];exact Ya _ (by omega)) (by rw[e];omega) ?_
   rw[e,j,b]
   split
   ·rename_i g
    rw[g.1]at f;exact f
   exact f
theorem zks {fs:List Fr} {h:Int} (a:Zb fs h=0):
  (zan fs h=-1/\qL fs=fs.length)\/∃(k:Nat) (q:Fr),zan fs h=(k:Int)/\fs[k]? =Xa q/\0<q.r/\zbC fs (zbP fs h)/\(zbP fs h)[k]? =Xa (frU q)/\zde fs h=(((k+1) % fs.length:Nat):Int):=by
 obtain⟨b,b,c,c⟩:=ji a;have n:zan fs h=(Jp fs h).2.2:=kE a;have m:zbP fs h=(Jp fs h).1:=kE a;have s:zde fs h=((Jp fs h).2.1:Int):=kE a
 cases c:fs.any zn3 with
 | false=>
  left;rw[n,zkt a c];refine⟨rfl,?_⟩;have a:=zkO (fs:=fs) (fun q j=>(zbp (b q j)).1)
  have a:fs.countP zn3=0:=by
   rw[List.countP_eq_zero];intro a b;have:=Yo.1 c a b
   simpa using this
  omega
 | true=>
  right;obtain⟨a,a,l⟩:=Xt.1 c;obtain⟨i,p⟩:=Xv a;have f:=(gS.1 p).1;have c:h.toNat<fs.length:=by omega
  obtain⟨b,d,r,e⟩:∃b d r,jv (2*fs.length) fs h.toNat=(b,d,r):=⟨_,_,_,rfl⟩;have g:r≠-1:=by
   have a:=zdf ((i+fs.length - h.toNat) % fs.length) (2*fs.length) fs h.toNat c (by have:=Ya (i+fs.length - h.toNat) (show 0<fs.length by omega);omega) (by
    rw[Nat.add_mod_mod,show h.toNat+(i+fs.length - h.toNat)=i+fs.length by omega,Nat.add_mod_right,Xw f,gD,p]
    exact l)
   rw[e]at a;exact a
  obtain⟨f,a,a⟩:=zaI (2*fs.length) fs fs h.toNat (zbC.refl fs) c b d r e
  rcases a with a|⟨k,q,rfl,j,c,b,rfl⟩
  ·exact absurd a g
  refine⟨k,q,?_,j,c,?_,?_,?_⟩
  ·rw[n];unfold Jp;rw[e]
  ·rw[m];unfold Jp;rw[e];exact f
  ·rw[m];unfold Jp;rw[e];exact b
  rw[s];unfold Jp;rw[e]
theorem zeF {e:En} (a:enW e=0):∀(l:List (Nat × Nat)) {m:Ma},(∀s∈m.sp,ZU s.tb)->(∀x∈l,x.1<m.sp.length/\x.2<64)->QO m e l=Ze m e l
 | [],m,_,_=>rfl
 | x :: l,m,c,b=>by
  obtain⟨d,f⟩:=b x (List.mem_cons_self ..)
  show QO (qV m x.1 (x.2:Int) e) e l=Ze (Ji m x.1 x.2 e) e l
  rw[QN c d f a];exact zeF a l (zcE c a) (fun y a=>by rw[zbL];exact b y (List.mem_cons_of_mem _ a))
theorem zgf {e:En}:∀(l:List (Nat × Nat)) {m m0:Ma},m.sp=m0.sp->(Ze m e l).sp=(Ze m0 e l).sp
 | [],_,_,h=>h
 | x :: l,m,m0,h=>zgf l (m:=Ji m x.1 x.2 e) (m0:=Ji m0 x.1 x.2 e) (by unfold Ji;simp only;rw[h])
theorem zbm (h:Rt m) {k:Nat} {fr:Fr} (b:m.fs[k]? =Xa fr) (d:fr.r≠0):0<=fr.r/\fr.r<=1000/\jQ m.fs m.hand (k:Int) (-fr.r)=0:=by
 obtain⟨a,c⟩:=zbp ((ji h.parts.1).2.1 fr (mG b));refine⟨a,c,?_⟩;have a:m.fs.getD k fr0=fr:=by rw[gD,b];rfl
 have c:=(gS.1 b).1;unfold jQ;rw[kE h.parts.1,tN,a];have a:(inB (k:Int) m.fs.length && !(fr.r == 0))=Xc:=by
  simp[inB,d]
  omega
 rw[a,kE rfl,kE (by omega)]
theorem zjm {m0:Ma} (h:Rt m0) (b:m.sp=m0.sp) (i:m.fs=m0.fs) (n:m.hand=m0.hand) {k:Nat} {fr:Fr} (j:m0.fs[k]? =Xa fr) (a:fr.r≠0) {e:En} (g:enW e=0):
  zaz m k fr.r e={ m with fs:=m.fs.set k frF,sp:=m.sp.map (Zf (k:Int) e) }:=by
 obtain⟨_,_,f⟩:=zbm h j a;have p:∀s∈m.sp,ZU s.tb:=fun s a=>h.tb (by rw[<-b];exact a)
 have c:qK m 1 (k:Int) m.sp.length=qK m0 1 (k:Int) m0.sp.length:=by unfold qK;rw[b]
 have a:∀x∈qK m0 1 (k:Int) m0.sp.length,x.1<m.sp.length/\x.2<64:=fun x q=>by
  obtain⟨d,l,_⟩:=(QJ (m:=m0) (by decide) (nR _)).1 q
  exact⟨by rw[b];exact d,l⟩
 have d:(Ze m e (qK m0 1 (k:Int) m0.sp.length)).sp=m.sp.map (Zf (k:Int) e):=by
  rw[zgf _ b,zoL h g,b]
 have b:m0.fs.getD k fr0=fr:=by rw[gD,j];rfl
 unfold zaz;rw[c,zeF g _ p a,zc7];rw[<-i,<-n]at f;unfold QI;rw[kE f,tN,i,b,d];have:frH fr (-fr.r)=frF:=by unfold frH;rw[kE (by omega)]
 rw[this]
def JE (k:Nat) (fr:Fr) (l:List (Nat × Nat)) (q:Nat) (s:Sp) (a:Ar) (n:Nat):Bool:=decide ((qg a n).file=fr.f) && decide ((qg a n).page=fr.x) && !(l.contains (q,n)) &&(decide ((ze s n).kind=0) || isE (ze s n) 1 (k:Int))
def zf9 (m:Ma) (k:Nat) (fr:Fr) (l:List (Nat × Nat)):Bool:=(List.range m.sp.length).any fun q=>(m.sp.getD q ⟨Xd,[],[]⟩).ars.any fun a=>(List.range 64).any fun n=>Jk a n && JE k fr l q (m.sp.getD q ⟨Xd,[],[]⟩) a n
theorem za1 {k:Nat} {fr:Fr} {l:List (Nat × Nat)} {q:Nat} {s:Sp} {a:Ar} {n:Nat}:JE k fr l q s a n=Xc↔ziU k fr l q s a n:=by
 unfold JE ziU
 simp[and_assoc]
theorem zc1 {k:Nat} {fr:Fr} {l:List (Nat × Nat)}:zf9 m k fr l=Xc↔∃(q:Nat) (s:Sp) (i:Nat) (a:Ar) (n:Nat),m.sp[q]? =Xa s/\s.ars[i]? =Xa a/\Jk a n=Xc/\n<64/\ziU k fr l q s a n:=by
 unfold zf9;constructor
 ·intro h;obtain⟨q,d,h⟩:=Xt.1 h;obtain⟨a,b,h⟩:=Xt.1 h;obtain⟨n,e,h⟩:=Xt.1 h;obtain⟨i,c⟩:=Xv b;have b:=Xz.1 d;have d:=gE b;rw[Sp.getD_of d]at c h;rw[Bool.and_eq_true]at h;exact⟨q,_,i,a,n,d,c,h.1,Xz.1 e,za1.1 h.2⟩
 rintro⟨q,s,i,a,n,b,c,d,e,f⟩;refine Xt.2 ⟨q,Xz.2 (gS.1 b).1,?_⟩;rw[Sp.getD_of b];refine Xt.2 ⟨a,mG c,Xt.2 ⟨n,Xz.2 e,?_⟩⟩;rw[Bool.and_eq_true];exact⟨d,za1.2 f⟩
def zlh (m:Ma) (fr:Fr):List Int:=Qh (pgL fr.p) fr.x (QD m fr.f)
def Jn (m:Ma):Nat:=m.sl.findIdx isZ
def zaZ (m:Ma) (k:Nat) (fr:Fr):Bool × Ma:=if Jn m<m.sl.length then(Xc,ZF m k (Jn m) fr.r (jg m.sb m.sq) (jf m.sq (Jn m:Int) (pgL fr.p)))else(Xd,m)
def zd9 (m:Ma) (k:Nat) (fr:Fr) (l:List (Nat × Nat)):Bool × Ma:=
 if zlh m fr≠pgL fr.p/\zf9 m k fr l=Xc then(Xd,m)
 else if fr.d=Xc\/Qk m fr.f fr.x≠zlh m fr then
  (if Jy m.fl m.cnt fr.f fr.x=0 then(Xc,qi (wrM m (zlh m fr) fr.f fr.x) k)else if Qk m fr.f fr.x=zlh m fr then(Xc,qi m k)else(Xd,m))
 else(Xc,qi m k)
def jF (m:Ma) (k:Nat) (fr:Fr) (l:List (Nat × Nat)):Bool × Ma:=if fr.f=-1 then zaZ m k fr else zd9 m k fr l
def Qf:Nat->Ma->List (Nat × Nat)->Bool × Ma
 | 0,m,_=>(Xd,m)
 | n+1,m,l=>
  if zan m.fs m.hand<0 then(Xd,Zt m)
  else if(jF (Zt m) (zan m.fs m.hand).toNat (zQ (Zt m) (zan m.fs m.hand)) l).1=Xc then jF (Zt m) (zan m.fs m.hand).toNat (zQ (Zt m) (zan m.fs m.hand)) l
  else Qf n (Zt m) l
def Qe (m:Ma) (l:List (Nat × Nat)):Bool × Ma:=Qf (2*m.fs.length) m l
section
variable{m:Ma} {k:Nat} {fr:Fr}
theorem Rt.frw (h:Rt m) (a:m.fs[k]? =Xa fr):frW fr=0:=(ji h.parts.1).2.1 fr (mG a)
theorem zkz (S:Nat->Nat->Prop) (l:Rt m) {a:List Fr} (j:zbC m.fs a):Qw S m { m with fs:=a }:=by
 have k:∀i,i<=m.fs.length->Qw S m { m with fs:=a.take i++m.fs.drop i }:=by
  intro i
  induction i with
  | zero=>
   intro _;have:a.take 0++m.fs.drop 0=m.fs:=by simp
   rw[this];exact Qw.refl l
  | succ i b=>
   intro c;have g:=b (by omega)
   obtain⟨q,e⟩:∃q,m.fs[i]? =Xa q:=⟨_,gE (by omega)⟩
   obtain⟨c,h,n⟩:=j.2 i q e;have b:=j.1;have b:(a.take i).length=i:=by rw[Xu];omega
   have f:(a.take i++m.fs.drop i)[i]? =Xa q:=by
    rw[aR (by omega),b,Nat.sub_self,List.getElem?_drop,Ye]
    exact e
   have p:a.take (i+1)++m.fs.drop (i+1)=(a.take i++m.fs.drop i).set i c:=by
    rw[List.set_append,kF (by omega),b,Nat.sub_self,Yp,h,Yq]
    congr 1
    rw[List.drop_eq_getElem_cons (by omega:i<m.fs.length),sZ]
    rfl
   rw[p]
   by_cases p:q.r=0
   ·have h:=zm4 (l.frw e) p;have b:c=q:=by
     rcases n with e|e
     ·exact e
     rw[e,h];rfl
    have h:(a.take i++m.fs.drop i).set i c=a.take i++m.fs.drop i:=by
     rw[b]
     apply Yf
     intro a
     by_cases e:i=a
     ·subst e;rw[sF (gS.1 f).1,f]
     rw[sN e]
    rw[h];exact g
   have b:c={ q with u:=c.u,d:=q.d }:=by
    rcases n with e|e
    ·rw[e]
    rw[e];rfl
   rw[b];exact g.trans (zkA S g.rt f p c.u q.d)
 have:=k m.fs.length (nR _);rw[List.drop_length,List.append_nil,Yj (by rw[j.1];exact nR _)]at this
 exact this
theorem zkB {fs a:List Fr} (d:zbC fs a):qL a=qL fs:=by
 unfold qL;have b:a.map (fun f=>decide (f.r=0))=fs.map (fun f=>decide (f.r=0)):=by
  apply Yf
  intro i;rw[Yr,Yr]
  cases c:fs[i]? with
  | none=>
   have:a[i]? =Xb:=by rw[List.getElem?_eq_none_iff]at c⊢;rw[d.1];exact c
   rw[this]
  | some q=>
   obtain⟨a,b,a⟩:=d.2 i q c;rw[b]
   rcases a with e|e <;> rw[e] <;> rfl
 have a:=congrArg (List.countP id) b;rw[List.countP_map,List.countP_map]at a;exact a
theorem zgs (S:Nat->Nat->Prop) (h:Rt m):Qw S m (Zt m)/\qL (Zt m).fs=qL m.fs/\((zan m.fs m.hand=-1/\qL m.fs=m.fs.length)\/∃(k:Nat) (fr:Fr),zan m.fs m.hand=(k:Int)/\(Zt m).fs[k]? =Xa fr/\fr.r≠0):=by
 have c:=h.parts.1;obtain⟨a,a,a,a⟩:=ji c;have a:zbP m.fs m.hand=(Jp m.fs m.hand).1:=kE c;have b:zde m.fs m.hand=((Jp m.fs m.hand).2.1:Int):=kE c;have d:zbC m.fs (zbP m.fs m.hand)/\0<=zde m.fs m.hand/\zde m.fs m.hand<max (m.fs.length:Int) 1:=by
  rw[a,b]
  by_cases a:m.fs.length=0
  ·have:Jp m.fs m.hand=(m.fs,m.hand.toNat,-1):=by unfold Jp;rw[a];rfl
   rw[this];exact⟨zbC.refl _,by simp only;omega,by simp only;omega⟩
  obtain⟨a,b,r,f⟩:∃a b r,jv (2*m.fs.length) m.fs m.hand.toNat=(a,b,r):=⟨_,_,_,rfl⟩;obtain⟨e,g,_⟩:=zaI _ m.fs m.fs m.hand.toNat (zbC.refl _) (by omega) a b r f
  have:Jp m.fs m.hand=(a,b,r):=f;rw[this];have:=e.1;exact⟨e,by simp only;omega,by simp only;omega⟩
 obtain⟨a,e,f⟩:=d;have b:=zkz S h a;have d:Qw S { m with fs:=zbP m.fs m.hand } (Zt m):=zmW S b.rt e (by show _<max ((zbP m.fs m.hand).length:Int) 1;rw[a.1];exact f)
 refine⟨b.trans d,zkB a,?_⟩
 rcases zks c with⟨a,b⟩ | ⟨k,q,a,b,c,c,c,d⟩
 ·exact .inl ⟨a,b⟩
 exact .inr ⟨k,frU q,a,c,by show q.r≠0;omega⟩
theorem zpW (a:Jn m<m.sl.length):m.sl[Jn m]? =Xa 0:=by
 have b:(m.sl[Jn m] == 0)=Xc:=Ym (w:=a);rw[gE a,eq_of_beq b]
theorem zl8 (S:Nat->Nat->Prop) (h:Rt m) (d:m.fs[k]? =Xa fr) (c:fr.f=-1) (e:fr.r≠0):Qw S m (zaZ m k fr).2:=by
 unfold zaZ
 by_cases b:Jn m<m.sl.length
 ·rw[kE b];have a:=h.inv.sbl;have a:zr m.sb.length m.sq ((Jn m:Nat):Int)=0:=by
   unfold zr;rw[kE h.inv.sq,kE (by simp[j7];omega)]
  exact zl9 S h d c e (zpW b) (QB _ _) (QX a) (zeg a).2 (fun i _ c=>zcS a c)
 rw[kF b];exact Qw.refl h
theorem zlM (S:Nat->Nat->Prop) (h:Rt m) {c:Ca} {F:Fl} (t:c∈m.ca) (hi:zrT m c k fi ix fr F) (a:Jy m.fl m.cnt fr.f fr.x=0) (pg):∃b:Nat,wrM m pg fr.f fr.x=zdT m fi ix F (b:Int) (jg m.db m.dq) (jf m.dq (b:Int) pg)/\Qw S m (zdT m fi ix F (b:Int) (jg m.db m.dq) (jf m.dq (b:Int) pg))/\qY (jg m.db m.dq) (jf m.dq (b:Int) pg) (b:Int)=pg/\(b:Int)<m.cnt/\(∀(i j:Nat) g,m.fl[i]? =Xa g->g.bl[j]? =Xa (b:Int)->i=fi/\j=ix):=by
 have e:=a;rw[hi.ff,hi.fx]at a;obtain⟨b,p,f,l,n,q⟩:=zro h hi.fl hi.bl a;obtain⟨a,a,r⟩:=ZW h.inv.dok;have a:=h.inv.cnt;have a:zr m.db.length m.dq (b:Int)=0:=by
  unfold zr;rw[kE h.inv.dok,kE (by simp[j7];omega)]
 have d:=h.inv.st;have s:wrM m pg fr.f fr.x=zdT m fi ix F (b:Int) (jg m.db m.dq) (jf m.dq (b:Int) pg):=by
  unfold wrM zdT;rw[kE e,hi.ff,hi.fx,f,l,n];unfold q8 q7;rw[kE a,kE a]
 have f:stW (m.fl.set fi ⟨F.size,F.bl.set ix (b:Int)⟩) m.cnt=0/\(∀x,qe (m.fl.set fi ⟨F.size,F.bl.set ix (b:Int)⟩) x=Xc↔(qe m.fl x=Xc/\x≠-1)\/x=(b:Int)\/(x=-1/\qe (m.fl.set fi ⟨F.size,F.bl.set ix (b:Int)⟩) x=Xc))/\(F.bl[ix]? =Xa (b:Int)\/qe m.fl (b:Int)=Xd)/\∀(i j:Nat) g,m.fl[i]? =Xa g->g.bl[j]? =Xa (b:Int)->i=fi/\j=ix:=by
  rcases q with e|⟨e,q⟩
  ·obtain⟨j,l,n⟩:=znF d hi.fl e;rw[j];exact⟨d,l,.inl e,n⟩
  obtain⟨j,l,n,u⟩:=znG d hi.fl e q;exact⟨j,l,.inr n,u⟩
 obtain⟨u1,u2,u3,u4⟩:=f;refine⟨b,s,zlq S h hi.fl u1 u2 (QB _ _) (QX a) (zlL _ _ r) (fun q f=>?_) (fun i d=>zcS a d) u3 ⟨c,t,hi.file,hi.idx⟩ u4,(zeg a).2,p,u4⟩
 unfold jf at f
 rcases List.mem_append.1 f with e|e
 ·refine .inr ⟨q,?_,rfl⟩
  split at e
  ·exact List.mem_of_mem_tail e
  exact e
 simp only[List.mem_singleton]at e;exact .inl (by rw[e])
theorem zfA (h:Rt m) (e:m.fs[k]? =Xa fr) (j:fr.f≠-1):∃(i:Nat) (c:Ca) (a g:Nat) (F:Fl),m.ca[i]? =Xa c/\zrT m c k a g fr F:=by
 have l:0<=fr.f:=by
  have:=h.frw e;unfold frW at this
  by_cases b:(inB fr.r 1001 && inB fr.x 12)=Xd
  ·rw[kE b]at this;omega
  rw[kF b]at this
  by_cases d:(!(fr.f == -1) && !inB fr.f 5)=Xc
  ·rw[kE d]at this;omega
  simp[j,inB]at d
  omega
 obtain⟨i,c,j,n,b,d⟩:=zdN h e l;obtain⟨l,a,g,f,F,b⟩:=znC h.w (mG j);have d:l=k:=by have:=b.fr;omega
 subst d;have:=b.fa.symm.trans e;cases this;exact⟨i,c,a,g,F,j,b⟩
theorem zno (h:Rt m) (d:m.fs[k]? =Xa fr) (b:fr.f≠-1) (g:fr.r≠0) (l:List (Nat × Nat)):Qw (fun q j=>(q,j)∈l) m (zd9 m k fr l).2:=by
 obtain⟨i,c,a,a,F,c,a⟩:=zfA h d b;have x:=mG c;have b:=(gS.1 a.fl).1;have b:QD m fr.f=F.size:=by unfold QD;rw[a.ff,tN,gD,a.fl];rfl
 have p:0<=fr.f:=by rw[a.ff];omega
 unfold zd9
 by_cases e:zlh m fr≠pgL fr.p/\zf9 m k fr l=Xc
 ·rw[kE e];exact Qw.refl h
 rw[kF e];have f:Qh (pgL fr.p) fr.x (QD m fr.f)=pgL fr.p\/∀(q:Nat) s (i:Nat) c (n:Nat),m.sp[q]? =Xa s->s.ars[i]? =Xa c->Jk c n=Xc->n<64->¬ziU k fr l q s c n:=by
  by_cases b:zlh m fr=pgL fr.p
  ·exact .inl b
  exact .inr fun q s i c n r t u v w=>e ⟨b,zc1.2 ⟨q,s,i,c,n,r,t,u,v,w⟩⟩
 by_cases b:fr.d=Xc\/Qk m fr.f fr.x≠zlh m fr
 ·rw[kE b]
  by_cases c:Jy m.fl m.cnt fr.f fr.x=0
  ·rw[kE c];obtain⟨e,e,i,n,_⟩:=zlM (fun q j=>(q,j)∈l) h x a c (zlh m fr)
   simp only;rw[e];refine zfV i a.fl a.bl d a.ff a.fx g ?_ f;rw[n];unfold zlh;rw[a.fx,a.ff]
  rw[kF c]
  by_cases a:Qk m fr.f fr.x=zlh m fr
  ·rw[kE a];exact zfc h d p g a f
  rw[kF a];exact Qw.refl h
 rw[kF b];exact zfc h d p g (Classical.byContradiction fun e=>b (.inr e)) f
theorem zk8 (h:Rt m) (b:m.fs[k]? =Xa fr) (c:fr.r≠0) (l:List (Nat × Nat)):Qw (fun q j=>(q,j)∈l) m (jF m k fr l).2:=by
 unfold jF
 split
 ·rename_i a
  exact zl8 _ h b a c
 rename_i a
 exact zno h b a c l
theorem zlN (m:Ma) (pg) (file idx:Int):(wrM m pg file idx).fs=m.fs:=(zq0 _ _ _ _).1
theorem zjE (m:Ma) (k:Nat) (fr) (l:List (Nat × Nat)):((jF m k fr l).1=Xc/\(jF m k fr l).2.fs=m.fs.set k frF)\/((jF m k fr l).1=Xd/\(jF m k fr l).2=m):=by
 unfold jF
 split
 ·unfold zaZ
  split
  ·exact .inl ⟨rfl,rfl⟩
  exact .inr ⟨rfl,rfl⟩
 unfold zd9
 split
 ·exact .inr ⟨rfl,rfl⟩
 split
 ·split
  ·refine .inl ⟨rfl,?_⟩
   show(qi _ _).fs=_
   unfold qi;simp only;rw[zlN]
  split
  ·exact .inl ⟨rfl,rfl⟩
  exact .inr ⟨rfl,rfl⟩
 exact .inl ⟨rfl,rfl⟩
theorem zdx (l:List (Nat × Nat)):∀(n:Nat) {m:Ma},Rt m->Qw (fun q j=>(q,j)∈l) m (Qf n m l).2/\qL (Qf n m l).2.fs=qL m.fs+((Qf n m l).1).toNat
 | 0,m,h=>⟨Qw.refl h,rfl⟩
 | n+1,m,h=>by
  obtain⟨a,d,b⟩:=zgs (fun q j=>(q,j)∈l) h
  unfold Qf
  rcases b with⟨b,_⟩|⟨k,f,b,c,e⟩
  ·rw[kE (by omega)]
   exact⟨a,d⟩
  rw[kF (by omega),b,tN,zJ c]
  rcases zjE (Zt m) k f l with⟨b,f⟩|⟨b,f⟩
  ·rw[kE b];refine⟨a.trans (zk8 a.rt c e l),?_⟩;rw[b,f,zoV c e,d];rfl
  rw[kF (by rw[b];decide)]
  obtain⟨b,c⟩:=zdx l n a.rt;exact⟨a.trans b,by rw[c,d]⟩
theorem zgJ (h:Rt m) (l:List (Nat × Nat)):Qw (fun q j=>(q,j)∈l) m (Qe m l).2/\qL (Qe m l).2.fs=qL m.fs+((Qe m l).1).toNat:=zdx l _ h
end
end
section
theorem zqD (h:Rt m) {q n:Nat} {s:Sp} (j:m.sp[q]? =Xa s) (p:n<64):zla m q (n:Int)=qO m q n:=by
 have u:∀s∈m.sp,ZU s.tb:=fun s j=>h.tb j
 have g:=(gS.1 j).1;obtain⟨e,l⟩:=kB (ze s n);have a:Zr m q (n:Int)=e:=by unfold Zr;rw[Sp.getD_of j,Qd p,l]
 have b:m.sp.getD q ⟨Xd,[],[]⟩=s:=Sp.getD_of j;unfold zla qO;rw[a];simp only[b,l]
 by_cases a:e.kind=1
 ·obtain⟨i,c,d,k,r,v⟩:=h.present j p (by rw[l];exact a)
  rw[l]at d r;obtain⟨x,y⟩:=h.refs k;have b:=(gS.1 k).1;have f:m.fs.getD i fr0=c:=by rw[gD,k];rfl
  have b:ZQ m e (-1)={ m with fs:=m.fs.set i (QH c) }:=by
   have t:jQ m.fs m.hand e.n (-1)=0:=by
    unfold jQ;rw[kE h.parts.1,d,tN,f];have w:(inB (i:Int) m.fs.length && !(c.r == 0))=Xc:=by
     simp[inB,v]
     omega
    rw[w,kE rfl,kE (by omega)]
   unfold ZQ;rw[kE a];unfold QI zmR;rw[kE t,kE t,d,tN,f];have:frH c (-1)=QH c:=by
    unfold frH QH
    by_cases w:c.r=1
    ·rw[kE w,kE (by omega)]
    rw[kF w,kF (by omega)]
    rfl
   rw[this]
  rw[b,kE a,r,d,tN];exact QN (m:={ m with fs:=m.fs.set i (QH c) }) u g p QP
 rw[kF a]
 by_cases c:e.kind=2
 ·rw[kE c];obtain⟨i,z,d,k,r,v,_⟩:=h.swapped j p (by rw[l];exact c)
  rw[l]at d r;obtain⟨x,y⟩:=h.slots k;have f:m.sl.getD i 0=z:=by rw[gD,k];rfl
  have b:ZQ m e (-1)={ m with sl:=m.sl.set i (z - 1) }:=by
   have j:atS m.sl e.n=z:=by unfold atS;rw[d,kE (by omega),tN,f]
   have t:jx m.sl e.n (-1)=0:=by
    unfold jx;rw[kE h.parts.2,j,kF (by omega),kE (by omega)]
   unfold ZQ;rw[kF a,kE c];unfold ZI;rw[kE t,j,d,tN];rfl
  rw[b,r,d,tN];exact QN (m:={ m with sl:=m.sl.set i (z - 1) }) u g p QP
 rw[kF c];have b:ZQ m e (-1)=m:=by unfold ZQ;rw[kF a,kF c]
 rw[b];exact QN u g p QP
end
section
open Go.RowKit
def zfz (fs:List Fr):Nat:=fs.countP fun a=>a.r == 0
theorem zkU {fs:List Fr} {k:Nat} {q:Fr} (h:fs[k]? =Xa q):zfz (fs.take (k+1))=zfz (fs.take k)+if q.r=0 then 1 else 0:=by
 obtain⟨a,rfl⟩:=gS.1 h;rw[List.take_succ_eq_append_getElem a];unfold zfz;rw[List.countP_append,Yg,List.countP_nil];simp
theorem zgw (a) (c:Nat) (fs:List Fr) (h:Int) (w) (g:qh w (O a fs.length c) fs):
  Xp prog 222 #[Xi #[O a fs.length c,I6 h]] w fun e w'=>e= Xl (I6 (zfz fs))/\zb w w':=by
 have d:=g.short;obtain⟨b,b,f,b⟩:=g.frs;cases f;have i:=dD b;clear b g;obtain⟨n,l⟩:=kA fs.length;rw[l.out]at d⊢;obtain⟨f,b⟩:=kB (w.alloc (Xk #[O a n c,I6 h] 32));have h:=gA b
 have d:=dD b;clear b
 go_enter func222,ntmps222
 go_wp2;rw[d.out]
 go_loopg [3,5,9] n (fun d g _ j wr=>∃(b m:Nat),b<=n/\n - b<=d/\m<=b/\j=I6 b/\g=I6 m/\Xo (zb f wr)/\Xo (zfz (fs.take b)=m))
 case atStart=>exact⟨0,0,nZ _,by omega,nR _,rfl,rfl,zb.refl _,rfl⟩
 obtain⟨b,m,d,d,d,rfl,rfl,k,A⟩:=hrel
 by_cases d:b<n
 ·have j:=kC d
  obtain⟨q,f⟩:∃q,Xo (fs[b]? =Xa q):=⟨_,gE (by rw[l.out];exact d)⟩
  obtain⟨g,rfl,g⟩:=i.out b q f.out;obtain⟨i,i,i,i,i,i,i,i,i,i,i,i,i⟩:=g wr (h.trans k);have i:=dD<|zkU f.out;clear g
  by_cases f:q.r=0
  ·have g:Xo (zfz (fs.take (b+1))=m+1):=dD<|by rw[i.out,A.out,kE f]
   have p:(q.r == 0)=Xc:=by simp[f]
   have r:=dD f;clear f;go_wp2
   go_roundg (n -(b+1))
   case measure=>omega
   exact⟨b+1,m+1,by omega,by omega,by omega,by go_num,by go_num,k.trans (za _ _),g⟩
  have g:Xo (zfz (fs.take (b+1))=m):=dD<|by rw[i.out,A.out,kF f];rfl
  have p:(q.r == 0)=Xd:=by simp[f]
  go_wp2
  go_roundg (n -(b+1))
  case measure=>omega
  exact⟨b+1,m,by omega,by omega,by omega,by go_num,rfl,k.trans (za _ _),g⟩
 have j:=kD d
 have:b=n:=by omega
 subst this;have g:Xo (zfz fs=m):=dD<|by rw[<-A.out,Yj (by rw[l.out];exact nR _)]
 go_wp2;go_ret;exact⟨by rw[g.out];rfl,h.trans k⟩
def isF (a:Fr):Bool:=a.r == 0
def frT (p:Pg) (fi ix:Int):Fr:=⟨p,1,Xc,Xd,fi,ix⟩
theorem zl7 (q w):
  Xp prog 237 #[Xi (frv q).toArray] w fun e w'=>e= Xl (Xh (isF q))/\zb w w':=by
 show Xp prog 237 #[Xi #[U8 q.p.b0,U8 q.p.b1,U8 q.p.b2,U8 q.p.b3,U8 q.p.b4,U8 q.p.b5,U8 q.p.b6,U8 q.p.b7,I6 q.r,Xh q.u,Xh q.d,I6 q.f,I6 q.x]] w _
 go_enter func237,ntmps237
 go_wp2;go_ret;exact⟨rfl,(bR _ _).alloc (nR _) _⟩
def zpy (fs:List Fr):Int:=if fs.findIdx isF<fs.length then(fs.findIdx isF:Int)else -1
theorem zk3 {fs:List Fr} {k:Nat} {q:Fr} (h:fs[k]? =Xa q) (b:isF q=Xc) (hb:∀(j:Nat) x,j<k->fs[j]? =Xa x->isF x=Xd):fs.findIdx isF=k:=by
 obtain⟨a,rfl⟩:=gS.1 h;refine(List.findIdx_eq a).2 ⟨b,fun j a=>?_⟩
 exact hb j _ a (gE (by omega))
theorem zk2 {fs:List Fr} (hb:∀(j:Nat) x,fs[j]? =Xa x->isF x=Xd):fs.findIdx isF=fs.length:=by
 refine List.findIdx_eq_length.2 fun x b=>?_
 obtain⟨j,a⟩:=Xv b;exact hb j x a
theorem zdm (v fs w) (c:qh w v fs):
  Xp prog 236 #[v,.func (.func 237) #[] #[]] w fun e w'=>e= Xl (I6 (zpy fs))/\zb w w':=by
 have b:=c.short;obtain⟨a,a,rfl,a⟩:=c.frs;have f:=dD a;have d:=enters_of func237 (by kernel_rfl) rfl
 clear a c;obtain⟨n,l⟩:=kA fs.length;rw[l.out]at b⊢
 go_enter func236,ntmps236
 go_wp2
 go_loopg [5,8] n (fun a _ c wr=>∃b:Nat,b<=n/\n - b<=a/\c=I6 b/\Xo (zb w wr)/\Xo (∀j q,j<b->fs[j]? =Xa q->isF q=Xd))
 case atStart=>exact⟨0,nZ _,by omega,rfl,zb.refl w,fun j q h=>absurd h (nL _)⟩
 obtain⟨b,a,a,rfl,k,A⟩:=hrel
 by_cases c:b<n
 ·have i:=kC c
  obtain⟨q,p⟩:∃q,Xo (fs[b]? =Xa q):=⟨_,gE (by rw[l.out];exact c)⟩
  obtain⟨a,rfl,d⟩:=f.out b q p.out;obtain⟨a,a,a,a,a,a,a,a,a,a,a,a,a⟩:=d wr k.out;have a:=zl7 q wr
  clear d
  cases g:isF q with
  | true=>
   rw[g]at a;have m:Xo (zpy fs=(b:Int)):=dD<|by unfold zpy;rw[zk3 p.out g A.out,l.out,kE c]
   clear g
   go_wp2_with (go_at_call 237;refine a.mono ?_;rintro e w' ⟨rfl,d⟩)
   go_ret;exact⟨by rw[m.out];rfl,k.trans d⟩
  | false=>
   rw[g]at a;have r:Xo (∀(j:Nat) q,j<b+1->fs[j]? =Xa q->isF q=Xd):=dD<|fun j s h f=>by
    by_cases e:j=b
    ·subst e;rw[p.out]at f;cases f;exact g
    exact A j s (by omega) f
   clear g
   go_wp2_with (go_at_call 237;refine a.mono ?_;rintro e w' ⟨rfl,d⟩)
   go_roundg (n -(b+1))
   case measure=>omega
   exact⟨b+1,by omega,by omega,by go_num,k.trans d,r⟩
 have i:=kD c
 have:b=n:=by omega
 subst this;have m:Xo (zpy fs=-1):=dD<|by
  unfold zpy;rw[zk2 (fun j q h=>A.out j q (by rw[<-l.out];exact(gS.1 h).1) h),kF (Nat.lt_irrefl _)]
 go_wp2;go_ret;exact⟨by rw[m.out];rfl,k⟩
theorem zrF (a) (c:Nat) (fs:List Fr) (h:Int) (p) (fi ix:Int) (w:Xn) (i:qh w (O a fs.length c) fs) (l:Zb fs h=0) (g:frW (frT p fi ix)=0) (k:Nat) (m:zpy fs=(k:Int)) (s:k<fs.length):
  Xp prog 223 #[Xi #[O a fs.length c,I6 h],Xi (pgv p).toArray,I6 fi,I6 ix] w fun e w'=>∃b,e= Xl (Xm #[Xi #[b,I6 h],I6 (k:Int),I6 0])/\zi w.heap.size w' b (fs.set k (frT p fi ix))/\zb w w':=by
 have d:=dD i;have j:∀W,zb w W->Xp prog 58 #[Xi #[O a fs.length c,I6 h]] W fun e w'=>e= Xl (I6 (Zb fs h))/\zb W w':=fun W f=>by rw[l];exact ZV a c fs h W (d.grew f) l
 have t:∀W,Xp prog 108 #[Xi #[U8 p.b0,U8 p.b1,U8 p.b2,U8 p.b3,U8 p.b4,U8 p.b5,U8 p.b6,U8 p.b7,I6 1,Xh Xc,Xh Xd,I6 fi,I6 ix]] W fun e w'=>e= Xl (I6 (frW (frT p fi ix)))/\zb W w':=fun W=>by rw[g];exact zaU (frT p fi ix) W g
 have q:∀W,zb w W->Xp prog 236 #[O a fs.length c,.func (.func 237) #[] #[]] W fun e w'=>e= Xl (I6 (zpy fs))/\zb W w':=fun W f=>zdm _ fs W (d.grew f)
 have z:∀W,zb w W->Xp prog 51 #[Xi #[O a fs.length c,I6 h]] W fun e w'=>∃b,e= Xl (Xi #[b,I6 h])/\zi W.heap.size w' b fs/\zb W w':=fun W f=>QF a c fs h W (d.grew f)
 clear i;obtain⟨n,i⟩:=kA fs.length;simp only[i.out]at j q z d⊢;simp only[l]at j;clear l;simp only[g]at t;clear g;simp only[m]at q;clear m;rw[i.out]at s;have f:(k:Int)< (n:Int):=by omega
 have f:n<=9223372036854775807:=by have:=d.short;rw[i.out]at this;exact this
 show Xp prog 223 #[Xi #[O a n c,I6 h],Xi #[U8 p.b0,U8 p.b1,U8 p.b2,U8 p.b3,U8 p.b4,U8 p.b5,U8 p.b6,U8 p.b7],I6 fi,I6 ix] w _
 obtain⟨l,d⟩:=kB (((w.alloc (Xk #[O a n c,I6 h] 32)).alloc (Xk #[U8 p.b0,U8 p.b1,U8 p.b2,U8 p.b3,U8 p.b4,U8 p.b5,U8 p.b6,U8 p.b7] 91)).alloc (Xk #[eS,I6 0] 32));have g:Xo (zb w l):=dD<|by rw[<-d];exact((za _ _).trans (za _ _)).trans (za _ _)
 have m:Xo (Box l w.heap.size [O a n c,I6 h]):=dD<|by rw[<-d];exact((Box.top w _ _ rfl).alloc _).alloc _
 have f:Xo (Box l (w.heap.size+1) [U8 p.b0,U8 p.b1,U8 p.b2,U8 p.b3,U8 p.b4,U8 p.b5,U8 p.b6,U8 p.b7]):=dD<|by rw[<-d];exact(Box.top _ _ _ (by simp)).alloc _
 have F:Xo (Box l (w.heap.size+2) [eS,I6 0]):=dD<|by rw[<-d];exact Box.top _ _ _ (by simp)
 have r:=dD d;clear d
 go_enter func223,ntmps223
 go_upto_region 1 with fail;rw[r.out];have r:=m.c 0 rfl;have x:=m.c 1 rfl;go_wp2_with fail;refine(j _ g).mono ?_;rintro e y ⟨rfl,u⟩;have d:=dD u;clear u r x j;have A:=(f.grew d).c 0 rfl;have B:=(f.grew d).c 1 rfl;have C:=(f.grew d).c 2 rfl;have D:=(f.grew d).c 3 rfl;have E:=(f.grew d).c 4 rfl;have G:=(f.grew d).c 5 rfl;have H:=(f.grew d).c 6 rfl;have K:=(f.grew d).c 7 rfl;go_wp2_with fail;refine(t _).mono ?_;rintro e f ⟨rfl,j⟩;have u:=dD<|(Box.top y [U8 p.b0,U8 p.b1,U8 p.b2,U8 p.b3,U8 p.b4,U8 p.b5,U8 p.b6,U8 p.b7,I6 1,Xh Xc,Xh Xd,I6 fi,I6 ix] _ rfl).grew j;have f:=dD ((d.trans (za _ _)).trans j);clear j A B C D E G H K t;have r:=(m.grew f).c 0 rfl;go_wp2_with fail;refine(q _ (g.trans f)).mono ?_;rintro e H ⟨rfl,t⟩;have j:=dD (f.trans t);have d:=u.grew t;clear t r q;have q:=dD d;have r:=(m.grew j).c 0 rfl;have x:=(m.grew j).c 1 rfl;go_wp2_with fail;refine(z _ (g.trans j)).mono ?_;rintro e E ⟨b,rfl,f,m⟩;obtain⟨t,G,rfl⟩:=f.formS (by rw[i.out];omega)
 rw[i.out]at f⊢;have D:=dD f;have u:=dD (j.trans m);have d:=dD (q.grew m);have y:=dD<|bS m;have A:=q.lt;clear f m r x z;have m:=d.lt;have K:=d.c 0 rfl;have L:=d.c 1 rfl;have M:=d.c 2 rfl;have N:=d.c 3 rfl;have P:=d.c 4 rfl;have Q:=d.c 5 rfl;have R:=d.c 6 rfl;have S:=d.c 7 rfl;have T:=d.c 8 rfl;have U:=d.c 9 rfl;have z:=d.c 10 rfl;have B:=d.c 11 rfl;have C:=d.c 12 rfl;have d:=D.lt t rfl
 go_wp2_with (refine Qp rfl (.tmp 44) (.tmp 43) rfl H.heap.size _ fs (D.grew (za _ _)) t k rfl (frT p fi ix) (by rw[i.out];exact s) _ rfl (by simp) _ rfl rfl ?_)
 intro s q f x;have r:=dD q;have d:=y.out;have d:=bS u.out;have d:=bS j.out;have d:=F.lt;have j:Xo (Box s E.heap.size [O (Xa ⟨t,0,Xb⟩) n G,I6 h]):=(Box.top E _ _ rfl).beside f (fun y d=>by cases d;omega)
 have i:Xo (Box s (w.heap.size+2) [eS,I6 0]):=((F.grew u).alloc _).beside f (fun y d=>by cases d;omega)
 have D:Xo (zb l s):=zX (u.trans (za _ _)) f (fun y d=>by cases d;omega)
 clear q f x K L M N P Q R S T U z B C A m;have d:=j.c 0 rfl;have d:=j.c 1 rfl;have d:=i.c 0 rfl;have d:=i.c 1 rfl;have d:=i.f;go_wp2;refine bodyPost_ret (v:= Xm #[Xi #[O (Xa ⟨t,0,Xb⟩) n G,I6 h],I6 (k:Int),I6 0]) (by simp[results,Tryz.results223,go_sem, *]) rfl ⟨_,rfl,?_,?_⟩
 ·exact((r.setCell (a:=⟨w.heap.size+2,0,Xb⟩) (by show w.heap.size+2<_;omega) _).setCell (a:=⟨w.heap.size+2,1,Xb⟩) (by show w.heap.size+2<_;omega) _).base (by have:=bS g.out;omega)
 exact zL (zL (g.trans D) (by simp;omega) _) (by simp;omega) _
theorem zm.far {p:Nat} {V':MaV} {w:Xn} (k:zm (Dw p V) w w1) (f:∀k,Dw p V' k->Dw p V k\/w.heap.size<=k) (a:zm (Dw p V') w1 W):zm (Dw p V) w W:=
 ⟨a.os.trans k.os,a.tape.trans k.tape,a.output.trans k.output,nT k.size a.size,fun b c d=>(a.block b (Nat.lt_of_lt_of_le c k.size) (fun e=>by
  rcases f b e with e|e
  ·exact d e
  omega)).trans (k.block b c d)⟩
theorem znn (h:Rt m) {q n:Nat} {s:Sp} (d:m.sp[q]? =Xa s) (b:n<64):(Zr m q (n:Int)).kind=1->jQ m.fs m.hand (Zr m q (n:Int)).n (-1)=0:=by
 have a:Zr m q (n:Int)=ze s n:=by unfold Zr;rw[Sp.getD_of d,Qd b]
 rw[a];intro g;obtain⟨i,c,e,a,f,f⟩:=h.present d b g;obtain⟨b,b⟩:=h.refs a;have b:=(gS.1 a).1;have b:m.fs.getD i fr0=c:=by rw[gD,a];rfl
 unfold jQ;rw[kE h.parts.1,e,tN,b];have a:(inB (i:Int) m.fs.length && !(c.r == 0))=Xc:=by
  simp[inB,f]
  omega
 rw[a,kE rfl,kE (by omega)]
theorem zcj:∀(l:List (Nat × Nat)) (m:Ma) (x:Nat × Nat),zh m (l++ [x])=qO (zh m l) x.1 x.2
 | [],_,_=>rfl
 | y :: l,m,x=>zcj l (qO m y.1 y.2) x
theorem zoW (fs):zfz fs=qL fs:=rfl
def jm (fs:List Fr):Nat:=fs.findIdx isF
theorem zdw {fs:List Fr} (h:0<qL fs):zpy fs=(jm fs:Int)/\jm fs<fs.length/\∃fr,fs[jm fs]? =Xa fr/\fr.r=0:=by
 have a:fs.findIdx isF<fs.length:=by
  obtain⟨x,c,b⟩:=List.countP_pos_iff.1 h;exact List.findIdx_lt_length_of_exists ⟨x,c,by unfold isF;simpa using b⟩
 refine⟨kE a,a,fs[fs.findIdx isF],gE a,?_⟩;exact eq_of_beq (show(fs[fs.findIdx isF].r == 0)=Xc from Ym (w:=a))
def qz (m:Ma) (l:List (Nat × Nat)):Bool × Ma:=if qL m.fs=0 then Qe m l else(Xc,m)
def zct (m:Ma) (x:Fr) (l:List (Nat × Nat)):Bool × Nat × Ma:=
 if(qz (zh m l) l).1=Xc then(Xc,jm (qz (zh m l) l).2.fs,{(qz (zh m l) l).2 with fs:=(qz (zh m l) l).2.fs.set (jm (qz (zh m l) l).2.fs) x })else(Xd,0,(qz (zh m l) l).2)
theorem zgd (h:Rt m) (l:List (Nat × Nat)):Qw (fun q j=>(q,j)∈l) m (qz m l).2/\((qz m l).1=Xc->0<qL (qz m l).2.fs)/\((qz m l).1=Xd->qL m.fs=0/\qL (qz m l).2.fs=0):=by
 unfold qz
 split
 ·rename_i a
  obtain⟨g,e⟩:=zgJ h l;refine⟨g,fun b=>?_,fun b=>?_⟩
  ·rw[e,b]
   show 0<_+1
   omega
  rw[e,b,a];exact⟨rfl,rfl⟩
 rename_i a
 exact⟨Qw.refl h,fun _=>Nat.pos_of_ne_zero a,fun e=>by cases e⟩
section
variable{m:Ma} {k q n:Nat} {fr:Fr}
theorem zid {fs:List Fr} {h:Int} {i:Nat} {x:Fr} (a:Zb fs h=0) (d:frW x=0):Zb (fs.set i x) h=0:=by
 obtain⟨b,b,c,c⟩:=ji a;have c:zfS (fs.set i x)=0:=QL.2 fun f a=>by
  rcases List.mem_or_eq_of_mem_set a with e|e
  ·exact b f e
  rw[e];exact d
 unfold Zb;rw[Xy,kF (by omega),kE c,kE]
 simp[inB]
 omega
theorem zqu {x:Fr} {a:Int} (h:frW x=0) (c:x.r≠0) (b:0<a) (d:a<=1000):frW { x with r:=a }=0:=by
 unfold frW at h⊢;obtain⟨b,b,d,d,d,d⟩:=x;simp only at h c⊢;have d:inB a 1001=Xc:=by simp[inB];omega
 have f:inB b 1001=Xc:=by
  cases e:inB b 1001 with
  | true=>rfl
  | false=>rw[e]at h;simp at h
 have e:(a == 0)=Xd:=by simpa using(by omega:¬a=0)
 have a:(b == 0)=Xd:=by simpa using c
 rw[d,e];rw[f,a]at h
 simpa using h
theorem zin (c:Zb m.fs m.hand=0) (b:m.fs[k]? =Xa fr) (y:0<fr.r) (z:fr.r<1000) (j:∀s∈m.sp,ZU s.tb) (w:q<m.sp.length) (v:n<64):
  jQ m.fs m.hand (k:Int) 1=0/\zdl m q (n:Int) (k:Int)=q5 m k q n/\Zb (q5 m k q n).fs (q5 m k q n).hand=0/\(q5 m k q n).fs[k]? =Xa { fr with r:=fr.r+1 }/\(∀s∈(q5 m k q n).sp,ZU s.tb)/\(q5 m k q n).sp.length=m.sp.length:=by
 have e:=(gS.1 b).1;have d:m.fs.getD k fr0=fr:=by rw[gD,b];rfl
 have t:=(ji c).1;have h:enW ⟨1,(k:Int),Xd⟩=0:=JV ⟨by simp only;omega,by simp only;omega⟩ ⟨by simp only;omega,by simp only;omega,fun _=>by simp only;omega⟩ (by simp)
 have g:jQ m.fs m.hand (k:Int) 1=0:=by
  unfold jQ;rw[kE c,tN,d];have u:(inB (k:Int) m.fs.length && !(fr.r == 0))=Xc:=by
   simp[inB]
   omega
  rw[u,kE rfl,kE (by omega)]
 have a:q5 m k q n=Ji { m with fs:=m.fs.set k { fr with r:=fr.r+1 } } q n ⟨1,(k:Int),Xd⟩:=by
  unfold q5;rw[zJ b]
 refine⟨g,?_,?_,?_,?_,?_⟩
 ·obtain⟨i,A,x,f,_,_,_,_,l,p⟩:=zag g;have:i=k:=by omega
  subst this;rw[b]at f;cases f;unfold zdl ZQ;rw[kE rfl]
  show qV { m with fs:=QI m.fs m.hand (i:Int) 1,hand:=zmR m.fs m.hand (i:Int) 1 } q (n:Int) _=_
  rw[l,p,QN (m:={ m with fs:=m.fs.set i (frH fr 1),hand:=m.hand }) j w v h,a];have:frH fr 1={ fr with r:=fr.r+1 }:=by unfold frH;rw[kF (by omega)]
  rw[this]
 ·rw[a];exact zid c (zqu ((ji c).2.1 fr (mG b)) (by omega) (by omega) (by omega))
 ·rw[a]
  show(m.fs.set k _)[k]? =_
  rw[sF e]
 ·rw[a];exact zcE (m:={ m with fs:=m.fs.set k { fr with r:=fr.r+1 } }) j h
 rw[a,zbL]
theorem zcc:∀(l:List (Nat × Nat)) (m:Ma) (x:Nat × Nat),zF m k (l++ [x])=q5 (zF m k l) k x.1 x.2
 | [],_,_=>rfl
 | y :: l,m,x=>zcc l (q5 m k y.1 y.2) x
theorem zrK (t:Zb m.fs m.hand=0) (A:m.fs[k]? =Xa fr) (a:0<fr.r) (p:∀s∈m.sp,ZU s.tb) {l:List (Nat × Nat)} (d:∀x∈l,x.2<64/\x.1<m.sp.length) (b:fr.r+l.length<=1000):∀j,j<=l.length->
  Zb (zF m k (l.take j)).fs (zF m k (l.take j)).hand=0/\(zF m k (l.take j)).fs[k]? =Xa { fr with r:=fr.r+(j:Int) }/\(∀s∈(zF m k (l.take j)).sp,ZU s.tb)/\(zF m k (l.take j)).sp.length=m.sp.length/\
  ∀x,l[j]? =Xa x->jQ (zF m k (l.take j)).fs (zF m k (l.take j)).hand (k:Int) 1=0/\zF m k (l.take (j+1))=zdl (zF m k (l.take j)) x.1 (x.2:Int) (k:Int)/\x.1< (zF m k (l.take j)).sp.length:=by
 have a:∀(j:Nat) (M:Ma),Zb M.fs M.hand=0->M.fs[k]? =Xa { fr with r:=fr.r+(j:Int) }->(∀s∈M.sp,ZU s.tb)->M.sp.length=m.sp.length->zF m k (l.take j)=M->∀x,l[j]? =Xa x->jQ M.fs M.hand (k:Int) 1=0/\zF m k (l.take (j+1))=zdl M x.1 (x.2:Int) (k:Int)/\x.1<M.sp.length/\Zb (zF m k (l.take (j+1))).fs (zF m k (l.take (j+1))).hand=0/\(zF m k (l.take (j+1))).fs[k]? =Xa { fr with r:=fr.r+((j+1:Nat):Int) }/\(∀s∈(zF m k (l.take (j+1))).sp,ZU s.tb)/\(zF m k (l.take (j+1))).sp.length=m.sp.length:=by
  intro j M g c h i u x b;obtain⟨v,e⟩:=d x (mG b);have d:=(gS.1 b).1;obtain⟨d,e,f,w,y,z⟩:=zin (q:=x.1) (n:=x.2) g c (by simp only;omega) (by simp only;omega) h (by omega) v
  have v:zF m k (l.take (j+1))=q5 M k x.1 x.2:=by
   rw[Yp,b]
   show zF m k (l.take j++ [x])=_
   rw[zcc,u]
  rw[v];refine⟨d,e.symm,by omega,f,?_,y,by rw[z,i]⟩
  rw[w];have:fr.r+(j:Int)+1=fr.r+((j+1:Nat):Int):=by omega
  simp only[this]
 intro j
 induction j with
 | zero=>
  intro _;have c:m.fs[k]? =Xa { fr with r:=fr.r+((0:Nat):Int) }:=by
   rw[A];have:fr.r+((0:Nat):Int)=fr.r:=by omega
   rw[this]
  refine⟨t,c,p,rfl,fun x b=>?_⟩
  obtain⟨d,e,f,_⟩:=a 0 m t c p rfl rfl x b;exact⟨d,e,f⟩
 | succ j p=>
  intro t;obtain⟨g,c,h,i,_⟩:=p (by omega)
  obtain⟨_,_,_,p,t,u,v⟩:=a j _ g c h i rfl _ (gE (by omega))
  refine⟨p,t,u,v,fun x b=>?_⟩
  obtain⟨d,e,f,_⟩:=a (j+1) _ p t u v rfl x b;exact⟨d,e,f⟩
def JY (m:Ma) (pg:Pg) (l:List (Nat × Nat)):Bool × Nat × Ma:=
 if(qz (zh m l) l).1=Xc then(Xc,jm (qz (zh m l) l).2.fs,zaS (qz (zh m l) l).2 (jm (qz (zh m l) l).2.fs) pg Xc l)else(Xd,0,(qz (zh m l) l).2)
def zaA (m:Ma) (pg:Pg) (file idx:Int) (l:List (Nat × Nat)):Bool × Nat × Ma:=
 if(qz (zh m l) l).1=Xc then(Xc,jm (qz (zh m l) l).2.fs,zF (qZ (qz (zh m l) l).2 (jm (qz (zh m l) l).2.fs) pg Xc Xd file idx) (jm (qz (zh m l) l).2.fs) l)else(Xd,0,(qz (zh m l) l).2)
theorem ziz {pg:Pg} {fi ix:Int} (h:(fi=-1/\ix=0)\/(0<=fi/\fi<5/\0<=ix/\ix<12)):frW (frT pg fi ix)=0:=by
 have a:(frT pg fi ix).r=1:=rfl;refine zgK ⟨by rw[a];decide,?_,?_,(fun e=>absurd e (by rw[a];decide)),?_⟩ (by rw[a];decide)
 ·show 0<=ix/\ix<12
  omega
 ·show fi=-1\/(0<=fi/\fi<5)
  omega
 show fi=-1->ix=0
 omega
theorem zli {m2:Ma} (h:Rt m2) (e:m2.fs[k]? =Xa fr) (pg) {l:List (Nat × Nat)} (c:∀x∈l,x.2<64/\x.1<m2.sp.length) (d:l≠[]) (a:l.length<=900):
  (∀j,j<=l.length->(zF { m2 with fs:=m2.fs.set k (frT pg (-1) 0) } k (l.take j)).sp.length=m2.sp.length/\∀x,l[j]? =Xa x->jQ (zF { m2 with fs:=m2.fs.set k (frT pg (-1) 0) } k (l.take j)).fs (zF { m2 with fs:=m2.fs.set k (frT pg (-1) 0) } k (l.take j)).hand (k:Int) 1=0/\zF { m2 with fs:=m2.fs.set k (frT pg (-1) 0) } k (l.take (j+1))=zdl (zF { m2 with fs:=m2.fs.set k (frT pg (-1) 0) } k (l.take j)) x.1 (x.2:Int) (k:Int)/\x.1< (zF { m2 with fs:=m2.fs.set k (frT pg (-1) 0) } k (l.take j)).sp.length)/\
  jQ (zF { m2 with fs:=m2.fs.set k (frT pg (-1) 0) } k l).fs (zF { m2 with fs:=m2.fs.set k (frT pg (-1) 0) } k l).hand (k:Int) (-1)=0/\({ zF { m2 with fs:=m2.fs.set k (frT pg (-1) 0) } k l with fs:=QI (zF { m2 with fs:=m2.fs.set k (frT pg (-1) 0) } k l).fs (zF { m2 with fs:=m2.fs.set k (frT pg (-1) 0) } k l).hand (k:Int) (-1) }:Ma)=zaS m2 k pg Xc l:=by
 have b:=(gS.1 e).1;have g:frT pg (-1) 0=⟨pg,1,Xc,Xd,-1,0⟩:=rfl;have a:({ m2 with fs:=m2.fs.set k (frT pg (-1) 0) }:Ma).fs[k]? =Xa (frT pg (-1) 0):=by
  show(m2.fs.set k _)[k]? =_
  rw[sF b]
 have b:Zb (m2.fs.set k (frT pg (-1) 0)) m2.hand=0:=zid h.parts.1 (ziz (.inl ⟨rfl,rfl⟩));have J:=zrK (m:={ m2 with fs:=m2.fs.set k (frT pg (-1) 0) }) (l:=l) b a (show(0:Int)<1 by decide) (fun s a=>h.tb a) c (by show(1:Int)+_<=1000;omega)
 refine⟨fun j a=>⟨(J j a).2.2.2.1,(J j a).2.2.2.2⟩,?_⟩
 obtain⟨c,a,_⟩:=J l.length (nR _);rw[List.take_length]at c a;have b:=List.length_pos_iff.2 d;have b:(zF { m2 with fs:=m2.fs.set k (frT pg (-1) 0) } k l).fs.getD k fr0={ frT pg (-1) 0 with r:=(frT pg (-1) 0).r+(l.length:Int) }:=by rw[gD,a];rfl
 have d:=(gS.1 a).1;have d:jQ (zF { m2 with fs:=m2.fs.set k (frT pg (-1) 0) } k l).fs (zF { m2 with fs:=m2.fs.set k (frT pg (-1) 0) } k l).hand (k:Int) (-1)=0:=by
  unfold jQ;rw[kE c,tN,b];have b:({ frT pg (-1) 0 with r:=(frT pg (-1) 0).r+(l.length:Int) }:Fr).r=1+(l.length:Int):=rfl;rw[b];have c:(inB (k:Int) (zF { m2 with fs:=m2.fs.set k (frT pg (-1) 0) } k l).fs.length && !((1+(l.length:Int)) == 0))=Xc:=by
   simp[inB]
   omega
  rw[c,kE rfl,kE (by omega)]
 refine⟨d,?_⟩;obtain⟨i,x,c,c,_,_,_,_,f,_⟩:=zag d;have:i=k:=by omega
 subst this;rw[a]at c;cases c;rw[f];have a:=zpe e pg Xc l;rw[<-g]at a;rw[a];unfold zaS;have:frH { frT pg (-1) 0 with r:=(frT pg (-1) 0).r+(l.length:Int) } (-1)=⟨pg,(l.length:Int),Xc,Xd,-1,0⟩:=by
  unfold frH;have b:({ frT pg (-1) 0 with r:=(frT pg (-1) 0).r+(l.length:Int) }:Fr).r=1+(l.length:Int):=rfl;rw[b,kF (by omega)]
  have:(1:Int)+(l.length:Int)+-1=(l.length:Int):=by omega
  rw[this];rfl
 rw[this];simp only[List.set_set]
end
def zcm (a b:Int):Int:=if a<b then -1 else if b<a then 1 else 0
def zn5 (c d:Ca):Int:=zu [zcm c.file d.file,zcm c.idx d.idx]
theorem zph {c d:Ca} (a:0<=c.idx/\c.idx<100) (b:0<=d.idx/\d.idx<100):(zn5 c d<0↔z5 c<z5 d)/\(zn5 c d=0↔z5 c=z5 d):=by
 unfold zn5 zu zu zu zcm z5
 by_cases a:c.file<d.file
 ·rw[kE a,kF (by decide)]
  constructor
  ·constructor
   ·intro _;omega
   intro _;decide
  constructor
  ·intro h;cases h
  intro h;omega
 rw[kF a]
 by_cases a:d.file<c.file
 ·rw[kE a,kF (by decide)]
  constructor
  ·constructor
   ·intro h;exact absurd h (by decide)
   intro h;omega
  constructor
  ·intro h;cases h
  intro h;omega
 rw[kF a,kE rfl];have e:c.file=d.file:=by omega
 by_cases a:c.idx<d.idx
 ·rw[kE a,kF (by decide)]
  constructor
  ·constructor
   ·intro _;omega
   intro _;decide
  constructor
  ·intro h;cases h
  intro h;omega
 rw[kF a]
 by_cases a:d.idx<c.idx
 ·rw[kE a,kF (by decide)]
  constructor
  ·constructor
   ·intro h;exact absurd h (by decide)
   intro h;omega
  constructor
  ·intro h;cases h
  intro h;omega
 rw[kF a,kE rfl];constructor
 ·constructor
  ·intro h;exact absurd h (by decide)
  intro h;omega
 constructor
 ·intro _;omega
 intro _;rfl
theorem zR.callF {P:Program} {a:Act} {w:Xn} {K:Xq->Xn->Prop} {f:FuncId} {xs:List Operand} {ts:Array TypeId} {caps:Array Xq} {fn:Func} (x args)
  (ho : o.op = .call { callee := .value x, args := xs.toArray, argTypes := ts }) (hx : a.eval x = .func (.func f) #[] caps) (hf : P.funcs[f]? = some fn) (hb : fn.body.isNone = false) (hn : (fn.name == "runtime.NumGoroutine") = false)
  (ha:xs.map a.eval=args) (h:Xp P f (args.toArray++caps) w fun e w'=>∃v,e= Xl v/\K v w'):zR P o a w K:=by
 have hr:(execOp a.eval o).run P w= .ok (.enter f (args.toArray++caps)) w:=by
  simp only [execOp, ho, resolve, hx, List.map_toArray, ha, Deferred.ofValue, pure_bind, invoke];have hn' : fn.name ≠ "runtime.NumGoroutine" := by simpa using hn
  have hb':fn.body≠Xb:=fun e=>by rw[e]at hb;cases hb
  simp[callFunc,hf,hb',hn',program,Ys,Sem.run]
 unfold zR;rw[hr];exact h
def zbE (ca:List Ca) (t:Ca):Bool:=ca.any fun c=>decide (z5 c=z5 t)
theorem zh8 {t:Ca}:∀{ca:List Ca} {i:Nat},i<=ca.length->(∀(j:Nat) c,j<i->ca[j]? =Xa c->z5 c<z5 t)->(∀c,ca[i]? =Xa c->¬z5 c<z5 t)->ze6 ca t=i
 | [],i,hi,_,_=>by
  have:i=0:=by simpa using hi
  subst this;rfl
 | a :: l,0,_,_,b=>by
  unfold ze6;rw[Yn,kF (by simpa using b a rfl)]
  rfl
 | a :: l,i+1,hi,e,b=>by
  have f:=zh8 (t:=t) (ca:=l) (i:=i) (by simpa using hi) (fun j c d d=>e (j+1) c (by omega) (by rw[Yh];exact d)) (fun c d=>b c (by rw[Yh];exact d))
  unfold ze6 at f⊢;rw[Yn,kE (by simpa using e 0 a (by omega) rfl),List.length_cons,f]
theorem zqm {ca:List Ca} {t:Ca} {i:Nat} (p:ca.Pairwise fun a b=>z5 a<z5 b) (k:∀(j:Nat) c,j<i->ca[j]? =Xa c->z5 c<z5 t) (m:∀c,ca[i]? =Xa c->¬z5 c<z5 t):zbE ca t=match ca[i]? with | some c=>decide (z5 c=z5 t) | none=>Xd:=by
 have e:zbE ca t=Xc↔∃c,ca[i]? =Xa c/\z5 c=z5 t:=by
  unfold zbE;rw[Xt];constructor
  ·rintro⟨c,f,d⟩;have d:=of_decide_eq_true d;obtain⟨j,h⟩:=Xv f
   rcases Nat.lt_trichotomy j i with g|g|g
   ·have:=k j c g h;omega
   ·subst g;exact⟨c,h,d⟩
   obtain⟨l,k⟩:=gS.1 h;have h:i<ca.length:=by omega
   have n:=Xx.1 p i j h l g;have g:=m _ (gE h);rw[k]at n;omega
  rintro⟨c,f,d⟩;exact⟨c,mG f,decide_eq_true d⟩
 cases h:ca[i]? with
 | none=>
  cases g:zbE ca t with
  | false=>rfl
  | true=>
   obtain⟨c,f,_⟩:=e.1 g;rw[h]at f;cases f
 | some c=>
  simp only
  cases g:zbE ca t with
  | false=>
   symm
   refine decide_eq_false fun f=>?_
   have:=e.2 ⟨c,h,f⟩;rw[g]at this;cases this
  | true=>
   obtain⟨f,f,d⟩:=e.1 g;rw[h]at f;cases f;exact(decide_eq_true d).symm
theorem zmC (a:Int) (w):Xp prog 235 #[I6 a] w fun e w'=>e= Xl (Xh Xd)/\w'=w:=by
 have h:(a != a)=Xd:=by simp
 go_enter func235,ntmps235
 go_wp2;go_ret
 first | exact⟨rfl,rfl⟩ | exact⟨by rw[h],rfl⟩
theorem zdK (a b:Int) (w):Xp prog 221 #[I6 a,I6 b] w fun e w'=>e= Xl (I6 (zcm a b))/\w'=w:=by
 have h:=zmC a w;have i:=zmC b w
 by_cases f:a<b
 ·have d:Xo (zcm a b=-1):=dD<|by unfold zcm;rw[kE f]
  have g:decide (a<b)=Xc:=decide_eq_true f
  go_enter func221,ntmps221
  go_wp2_with fail;refine h.mono ?_;rintro e W ⟨rfl,c⟩;rw[c];go_wp2_with fail;refine i.mono ?_;rintro e W ⟨rfl,c⟩;rw[c];go_wp2;go_ret;exact⟨by rw[d.out];rfl,rfl⟩
 have g:decide (a<b)=Xd:=decide_eq_false f
 by_cases g:b<a
 ·have d:Xo (zcm a b=1):=dD<|by unfold zcm;rw[kF f,kE g]
  have j:decide (b<a)=Xc:=decide_eq_true g
  go_enter func221,ntmps221
  go_wp2_with fail;refine h.mono ?_;rintro e W ⟨rfl,c⟩;rw[c];go_wp2_with fail;refine i.mono ?_;rintro e W ⟨rfl,c⟩;rw[c];go_wp2;go_ret;exact⟨by rw[d.out];rfl,rfl⟩
 have d:Xo (zcm a b=0):=dD<|by unfold zcm;rw[kF f,kF g]
 have j:decide (b<a)=Xd:=decide_eq_false g
 go_enter func221,ntmps221
 go_wp2_with fail;refine h.mono ?_;rintro e W ⟨rfl,c⟩;rw[c];go_wp2_with fail;refine i.mono ?_;rintro e W ⟨rfl,c⟩;rw[c];go_wp2;go_ret;exact⟨by rw[d.out];rfl,rfl⟩
theorem zmu (v l w) (s:zl blE w v l):
  Xp prog 220 #[v] w fun e w'=>e= Xl (I6 (zu l))/\w'=w:=by
 have g:=s.short;obtain⟨G,H,rfl,b⟩:=s.nums;have z:=dD b;clear b s;obtain⟨n,m⟩:=kA l.length;rw[m.out]at g⊢;obtain⟨F,k⟩:=kA (zu l);rw[k.out]
 go_enter func220,ntmps220
 go_wp2
 go_loopg [5,8] n (fun B _ E wr=>∃a:Nat,a<=n/\n - a<=B/\E=I6 a/\wr=w/\Xo (∀(j:Nat) x,j<a->l[j]? =Xa x->x=0))
 case atStart=>exact⟨0,nZ _,by omega,rfl,rfl,fun j x t=>absurd t (nL _)⟩
 obtain⟨a,D,C,rfl,rfl,A⟩:=hrel
 by_cases c:a<n
 ·have h:=kC c
  obtain⟨q,p⟩:∃q,Xo (l[a]? =Xa q):=⟨_,gE (by rw[m.out];exact c)⟩
  obtain⟨x,rfl,u⟩:=z.out a q p.out;have K:=u wr (zb.refl _);clear u
  by_cases d:q=0
  ·have r:(q != 0)=Xd:=by simp[d]
   have y:Xo (∀(j:Nat) x,j<a+1->l[j]? =Xa x->x=0):=dD<|fun j x t f=>by
    by_cases e:j=a
    ·subst e;rw[p.out]at f;cases f;exact d
    exact A j x (by omega) f
   clear d;go_wp2
   go_roundg (n -(a+1))
   case measure=>omega
   exact⟨a+1,by omega,by omega,by go_num,rfl,y⟩
  have r:(q != 0)=Xc:=by simp[d]
  have i:Xo (F=q):=dD<|by rw[<-k.out];exact zdz A p d
  clear d;go_wp2;go_ret;exact⟨by rw[i.out];rfl,rfl⟩
 have h:=kD c
 have:a=n:=by omega
 subst this;have i:Xo (F=0):=dD<|by
  rw[<-k.out];exact zdA fun j x f=>A.out j x (by rw[<-m.out];exact(gS.1 f).1) f
 go_wp2;go_ret;exact⟨by rw[i.out];rfl,rfl⟩
theorem zkn (c d:Ca) (w):Xp prog 219 #[Xi #[I6 c.file,I6 c.idx,I6 c.fr],Xi #[I6 d.file,I6 d.idx,I6 d.fr]] w fun e w'=>e= Xl (I6 (zn5 c d))/\zb w w':=by
 obtain⟨E,a⟩:=kA (zn5 c d);have j:Xo (zu [zcm c.file d.file,zcm c.idx d.idx]=E):=a.out;rw[a.out];obtain⟨b,f,i⟩:=c;obtain⟨g,h,l⟩:=d;simp only at j⊢;obtain⟨k,a⟩:=kB ((w.alloc (Xk #[I6 b,I6 f,I6 i] 105)).alloc (Xk #[I6 g,I6 h,I6 l] 105));have n:=gD2 a
 have l:=x2a a
 have m:=x2b a
 have i:Xo (_=k):=a;clear a
 go_enter func219,ntmps219
 go_upto_region 1 with fail;rw[i.out];have q:=l.gw 0 rfl
 have r:=l.gw 1 rfl
 have s:=m.gw 0 rfl
 have t:=m.gw 1 rfl
 have p:Nonempty (zg k):=⟨⟨_,zb.refl _⟩⟩;refine qu [(4,⟨fun a=>a=I6 (zcm b g),fun a w'=>True⟩),(9,⟨fun a=>a=I6 (zcm f h),fun a w'=>True⟩),(10,⟨fun a=>∃i,a= O (Xa ⟨i,0,Xb⟩) 2 2,fun a w'=>zl blE w' a [zcm b g,zcm f h]⟩),(11,⟨fun a=>a=I6 E,fun a w'=>True⟩)] zZ (by kernel_rfl) ?hS ?hp ?_
 case hS=>
  intro x a;simp only[mC,nM,or_false]at a
  rcases a with rfl|rfl|rfl|rfl
  ·exact⟨_,rfl⟩
  ·exact⟨_,rfl⟩
  ·exact⟨_,0,rfl⟩
  exact⟨_,rfl⟩
 case hp=>
  intro x a;simp only[mC,nM,or_false]at a
  rcases a with rfl|rfl|rfl|rfl
  ·exact fun _ _ _ _ a=>a
  ·exact fun _ _ _ _ a=>a
  ·exact fun _ _ _ k a=>zl.grew a k
  exact fun _ _ _ _ a=>a
 iterate 4 refine zf ?_
 refine zC rfl rfl (fun w' k i=>?_) (fun u a=>?_)
 ·refine zR.call [I6 b,I6 g] rfl func221 rfl rfl rfl ?_;refine(zdK b g w').mono ?_;rintro e m ⟨rfl,rfl⟩;exact⟨_,rfl,zb.refl _,rfl,trivial⟩
 subst a;simp only[Xs,sB,sS,sZ];iterate 4 refine zf ?_
 refine zC rfl rfl (fun w' k i=>?_) (fun u a=>?_)
 ·refine zR.call [I6 f,I6 h] rfl func221 rfl rfl rfl ?_;refine(zdK f h w').mono ?_;rintro e m ⟨rfl,rfl⟩;exact⟨_,rfl,zb.refl _,rfl,trivial⟩
 subst a;simp only[Xs,sB,sS,sZ];refine zC rfl rfl (fun w' k i=>?_) (fun u a=>?_)
 ·have l:zl blE (w'.alloc (Xk #[I6 (zcm b g),I6 (zcm f h)] 3)) (O (Xa ⟨w'.heap.size,0,Xb⟩) 2 2) [zcm b g,zcm f h]:=zc3 blE w' [zcm b g,zcm f h] _ rfl (show 2*8<=140737488355328 by decide)
  refine zR.step (v:= O (Xa ⟨w'.heap.size,0,Xb⟩) 2 2) (w':=w'.alloc (Xk #[I6 (zcm b g),I6 (zcm f h)] 3)) (by simp only[execOp];go_simp) ⟨za _ _,⟨_,rfl⟩,l⟩
 obtain⟨l,rfl⟩:=a;simp only[Xs,sB,sS,sZ];refine zC rfl rfl (fun w' k i=>?_) (fun u a=>?_)
 ·have k:zl blE w' (O (Xa ⟨l,0,Xb⟩) 2 2) [zcm b g,zcm f h]:=i 10 (by kernel_rfl)
  refine zR.call [O (Xa ⟨l,0,Xb⟩) 2 2] rfl func220 rfl rfl rfl ?_;refine(zmu _ _ w' k).mono ?_;rintro e m ⟨rfl,rfl⟩;exact⟨_,rfl,zb.refl _,by rw[j.out],trivial⟩
 subst a;simp only[Xs,sB,sS,sZ];refine zf ?_
 refine zP fun a a i=>?_
 have b:=dD (n.trans a);clear a i q r s t p;go_wp2;go_ret;exact⟨rfl,b⟩
theorem ziN (v) (ca:List Ca) (t:Ca) (w) (a3:zl Jw w v ca) (g:ca.Pairwise fun a b=>z5 a<z5 b) (hi:∀c∈ca,0<=c.idx/\c.idx<100) (l:0<=t.idx/\t.idx<100) (d:ca.length<=1000):
  Xp prog 218 #[v,Xi #[I6 t.file,I6 t.idx,I6 t.fr],.func (.func 219) #[] #[]] w fun e w'=>e= Xl (Xm #[I6 (ze6 ca t:Int),Xh (zbE ca t)])/\zb w w':=by
 obtain⟨a,c,rfl,f⟩:=a3.cas;have an:=dD f;have q:=dD g
 have ae:Xo (∀c∈ca,(zn5 c t<0↔z5 c<z5 t)/\(zn5 c t=0↔z5 c=z5 t)):=dD<|fun c p=>zph (hi c p) l
 have h:=enters_of func219 (by kernel_rfl) rfl
 obtain⟨U,X⟩:=kA ca.length;rw[X.out]at d⊢;obtain⟨P,k⟩:=kA (ze6 ca t);obtain⟨ac,h⟩:=kA (zbE ca t);rw[k.out,h.out];have a5:Xo (∀(i j:Nat) x y,ca[i]? =Xa x->ca[j]? =Xa y->i<=j->z5 x<=z5 y):=dD<|fun i j x y K n d=>by
  obtain⟨m,r⟩:=gS.1 K;obtain⟨s,u⟩:=gS.1 n
  rcases Nat.lt_or_eq_of_le d with F|F
  ·have:=Xx.1 g i j m s F;rw[r,u]at this;omega
  subst F;rw[K]at n;cases n;exact Int.le_refl _
 obtain⟨A,B,C⟩:=t;obtain⟨m,d⟩:=kA (z5 ⟨A,B,C⟩);have a8:∀(x:Ca) (W:Xn),Xp prog 219 #[Xi #[I6 x.file,I6 x.idx,I6 x.fr],Xi #[I6 A,I6 B,I6 C]] W fun e w'=>e= Xl (I6 (zn5 x ⟨A,B,C⟩))/\zb W w':=fun x W=>zkn x ⟨A,B,C⟩ W
 rw[d.out]at ae;have a4:Xo (∀i,i<=U->(∀(j:Nat) x,j<i->ca[j]? =Xa x->z5 x<m)->(∀(j:Nat) x,i<=j->ca[j]? =Xa x->m<=z5 x)->P=i/\ac=match ca[i]? with | some x=>decide (z5 x=m) | none=>Xd):=dD<|fun i K n F=>by
  rw[<-k.out,<-h.out,<-d.out];rw[<-d.out]at n F;exact⟨zh8 (by rw[X.out];exact K) n (fun x d=>by have:=F i x (nR _) d;omega),zqm q n (fun x d=>by have:=F i x (nR _) d;omega)⟩
 clear a3 g hi l f;simp only;obtain⟨b,h⟩:=kA w.heap.size;obtain⟨f,f⟩:=kB (w.alloc (Xk #[I6 A,I6 B,I6 C] 105));have i:=gA f
 have k:=xP f h
 have g:=dD f;clear f
 go_enter func218,ntmps218
 go_upto_region 1 with fail;rw[g.out,h.out];go_wp2
 go_loopg [9,10] U (fun g l f wr=>∃h hi:Nat,l=I6 h/\f=I6 hi/\h<=hi/\hi<=U/\hi - h<=g/\Xo (zb w wr)/\Xo (Box wr b [I6 A,I6 B,I6 C])/\Xo ((∀(j:Nat) x,j<h->ca[j]? =Xa x->z5 x<m)/\(∀(j:Nat) x,hi<=j->ca[j]? =Xa x->m<=z5 x)))
 case atStart=>exact⟨0,U,rfl,rfl,nZ _,nR _,by omega,i,k,⟨fun j x ai=>absurd ai (nL _),fun j x K n=>by have:=(gS.1 n).1;have:=X.out;omega⟩⟩
 obtain⟨h,hi,rfl,rfl,f,a9,aq,G,E,ab⟩:=hrel;obtain⟨ak,al,am⟩:=E.c3
 by_cases f:h<hi
 ·obtain⟨r,D⟩:∃r,Xo (ca[(h+hi) / 2]? =Xa r):=⟨_,gE (by have:=X.out;omega)⟩
  obtain⟨l,rfl,M⟩:=an.out _ r D.out;obtain⟨Y,I,a0⟩:=M wr G.out;have p:=a8 r;have g:(h+hi) / 2<U:=by omega
  obtain⟨s,u,z⟩:=r;simp only at p Y I a0;obtain⟨Z,a6⟩:=kA (zn5 ⟨s,u,z⟩ ⟨A,B,C⟩);rw[a6.out]at p;have a7:Xo (Z<0↔z5 ⟨s,u,z⟩<m):=dD<|by rw[<-a6.out];exact(ae _ (mG D)).1
  obtain⟨i,f⟩:=kA ((h+hi) / 2);rw[f.out]at Y I a0 g D;have g:Xo (∀W,zb wr W->zn1 W (l.add (i*3)) ⟨s,u,z⟩):=dD<|fun W ah=>by have:=M W (G.trans ah);rw[f.out]at this;exact this
  clear M Y I a0 ak al am;go_upto_region 5 with fail;rw[show((h:Int)+(hi:Int)) / 2=(i:Int) by have:=f.out;omega]
  have k:(i:Int)< (U:Int):=by omega
  have R:∀y:zg wr,y.world.cell? (l.add (i*3))=Xa (I6 s):=fun y=>(g _ y.grew).1
  have S:∀y:zg wr,y.world.cell? ⟨(l.add (i*3)).block,(l.add (i*3)).off+1,Xb⟩=Xa (I6 u):=fun y=>(g _ y.grew).2.1
  have T:∀y:zg wr,y.world.cell? ⟨(l.add (i*3)).block,(l.add (i*3)).off+2,Xb⟩=Xa (I6 z):=fun y=>(g _ y.grew).2.2
  have N:=E.gw 0 rfl
  have P:=E.gw 1 rfl
  have Q:=E.gw 2 rfl
  have q:Nonempty (zg wr):=⟨⟨_,zb.refl _⟩⟩;refine qu [(6,⟨fun v=>v=I6 Z,fun v w'=>True⟩)] zZ (by kernel_rfl) ?hS ?hp ?_
  case hS=>
   intro x d;simp only[mC,nM,or_false]at d;subst d;exact⟨_,rfl⟩
  case hp=>
   intro x d;simp only[mC,nM,or_false]at d;subst d;exact fun _ _ _ _ ag=>ag
  iterate 6 refine zf ?_
  refine zC rfl rfl (fun w' aq L=>?_) (fun ar a3=>?_)
  ·refine zR.callF (.tmp 24) [Xi #[I6 s,I6 u,I6 z],Xi #[I6 A,I6 B,I6 C]] rfl rfl func219 rfl rfl rfl ?_;refine(p w').mono ?_;rintro e aj ⟨rfl,k⟩;exact⟨_,rfl,k,rfl,trivial⟩
  subst a3;simp only[Xs,sB,sS,sZ];refine zf ?_
  refine zP fun ao k L=>?_
  have V:=dD (G.trans k);have ap:=dD (E.grew k);clear k p L R S T N P Q q
  by_cases aa:Z<0
  ·have H:=dD aa;go_wp2
   go_roundg (hi -(i+1))
   case measure=>have:=f.out;omega
   have af:Xo ((∀(j:Nat) x,j<i+1->ca[j]? =Xa x->z5 x<m)/\(∀(j:Nat) x,hi<=j->ca[j]? =Xa x->m<=z5 x)):=dD<|⟨fun j x ai d=>by
    have K:=a5.out j _ x _ d D (by omega)
    have n:=a7.1 H.out
    omega,ab.2⟩
   exact⟨i+1,hi,by go_num,rfl,by have:=f.out;omega,a9,nR _,V,ap,af⟩
  have H:=dD aa;go_wp2
  go_roundg (i - h)
  case measure=>have:=f.out;omega
  have af:Xo ((∀(j:Nat) x,j<h->ca[j]? =Xa x->z5 x<m)/\(∀(j:Nat) x,i<=j->ca[j]? =Xa x->m<=z5 x)):=dD<|⟨ab.1,fun j x ai d=>by
   have K:=a5.out _ j _ x D d (by omega)
   have n:¬z5 ⟨s,u,z⟩<m:=fun e=>by have F:=a7.2 e;have j:=H.out;omega
   omega⟩
  exact⟨h,i,rfl,by go_num,by have:=f.out;omega,by have:=f.out;omega,nR _,V,ap,af⟩
 obtain rfl:hi=h:=by omega
 obtain⟨h,f⟩:=a4.out hi a9 ab.1 ab.2;have j:=dD h;clear h
 by_cases m:hi<U
 ·obtain⟨r,D⟩:∃r,Xo (ca[hi]? =Xa r):=⟨_,gE (by have:=X.out;omega)⟩
  obtain⟨l,rfl,M⟩:=an.out _ r D.out;obtain⟨Y,I,a0⟩:=M wr G.out;rw[D.out]at f;have p:=a8 r;obtain⟨s,u,z⟩:=r;simp only at p Y I a0 f;obtain⟨Z,a6⟩:=kA (zn5 ⟨s,u,z⟩ ⟨A,B,C⟩);rw[a6.out]at p;have i:Xo (ac=(Z == 0)):=dD<|by
   rw[f];have:=(ae _ (mG D)).2;rw[a6.out]at this
   by_cases h:Z=0
   ·rw[decide_eq_true (this.1 h),h];rfl
   rw[decide_eq_false (fun e=>h (this.2 e))];simp[h]
  have h:=kC m
  have g:=dD<|fun W (ah:zb wr W)=>M W (G.trans ah)
  clear M f Y I a0 ak al am;go_upto_region 8 with fail;have R:∀y:zg wr,y.world.cell? (l.add (hi*3))=Xa (I6 s):=fun y=>(g _ y.grew).1
  have S:∀y:zg wr,y.world.cell? ⟨(l.add (hi*3)).block,(l.add (hi*3)).off+1,Xb⟩=Xa (I6 u):=fun y=>(g _ y.grew).2.1
  have T:∀y:zg wr,y.world.cell? ⟨(l.add (hi*3)).block,(l.add (hi*3)).off+2,Xb⟩=Xa (I6 z):=fun y=>(g _ y.grew).2.2
  have N:=E.gw 0 rfl
  have P:=E.gw 1 rfl
  have Q:=E.gw 2 rfl
  have q:Nonempty (zg wr):=⟨⟨_,zb.refl _⟩⟩;refine qu [(11,⟨fun v=>v=I6 Z,fun v w'=>True⟩)] zZ (by kernel_rfl) ?hS ?hp ?_
  case hS=>
   intro x d;simp only[mC,nM,or_false]at d;subst d;exact⟨_,rfl⟩
  case hp=>
   intro x d;simp only[mC,nM,or_false]at d;subst d;exact fun _ _ _ _ ag=>ag
  iterate 11 refine zf ?_
  refine zC rfl rfl (fun w' aq L=>?_) (fun ar a3=>?_)
  ·refine zR.callF (.tmp 40) [Xi #[I6 s,I6 u,I6 z],Xi #[I6 A,I6 B,I6 C]] rfl rfl func219 rfl rfl rfl ?_;refine(p w').mono ?_;rintro e aj ⟨rfl,k⟩;exact⟨_,rfl,k,rfl,trivial⟩
  subst a3;simp only[Xs,sB,sS,sZ];iterate 4 refine zf ?_
  refine zP fun ao k L=>?_
  have V:=dD (G.trans k);clear k p L R S T N P Q q;go_wp2
  go_ret2
  exact⟨by rw[j.out,i.out];rfl,V⟩
 have h:=kD m
 have i:Xo (ac=Xd):=dD<|by
  rw[f,gN (by have:=X.out;omega)]
 clear f ak al am;go_upto_region 8 with fail;have q:Nonempty (zg wr):=⟨⟨_,zb.refl _⟩⟩;refine qu [] zZ (by kernel_rfl) (by simp) (by simp) ?_
 iterate 5 refine zf ?_
 iterate 8 (refine jo (by kernel_rfl) ?_;simp only[Xs,sB,sS,sZ])
 iterate 3 refine zf ?_
 refine zP fun ao k L=>?_
 have V:=dD (G.trans k);clear k L q;go_wp2
 go_ret2
 exact⟨by rw[j.out,i.out];rfl,V⟩
theorem zaR {w:Xn} {p:Nat} (h:ChW w0 p w V m) (g:m.ca.Pairwise fun a b=>z5 a<z5 b) (hi:∀c∈m.ca,0<=c.idx/\c.idx<100) (d:m.ca.length<=1000) (file idx:Int) (i:0<=idx/\idx<100):
  Xp prog 190 #[Xj (Xa ⟨p,0,Xb⟩),I6 file,I6 idx] w fun e w'=>e= Xl (Xm #[I6 (ze6 m.ca ⟨file,idx,0⟩:Int),Xh (zbE m.ca ⟨file,idx,0⟩)])/\zb w w':=by
 have f:=ziN _ m.ca ⟨file,idx,0⟩ w h.at.ca g hi i d;simp only at f;have j:=h.box.box.c 9 rfl;obtain⟨P,k⟩:=kA (ze6 m.ca ⟨file,idx,0⟩);obtain⟨H,j⟩:=kA (zbE m.ca ⟨file,idx,0⟩);rw[k.out,j.out]at f⊢;clear h g hi d i
 go_enter func190,ntmps190
 go_wp2_with fail;refine f.mono ?_;clear f;rintro e d ⟨rfl,d⟩;have f:=dD d;clear d;go_wp2
 go_ret2
 exact⟨rfl,f⟩
theorem zc.block {α:Type} {E:Elt α} {base:Nat} {w:Xn} {n cap:Nat} {l:List α} (h:zc E base w (O (Xa ⟨g,0,Xb⟩) n cap) l):
  n=l.length/\base<=g/\l.length<=cap/\cap<=maxLen/\∃a,w.heap[g]? =Xa (Xk a E.ty (0,0))/\a.size=cap*E.k/\a.toList.take (l.length*E.k)=l.flatMap E.enc:=by
 rcases h.1.2 with⟨b,_⟩|⟨c,c,a,b,c,d,e,f,h,i⟩
 ·cases b
 cases b;exact⟨rfl,c,e,f,a,d,h,i⟩
theorem zc.mk' {α:Type} {E:Elt α} {base:Nat} {w:Xn} {cap:Nat} {l:List α} {a:Array Xq} (hb:base<=g) (c:w.heap[g]? =Xa (Xk a E.ty (0,0))) (e:l.length<=cap) (d:cap<=maxLen) (f:a.size=cap*E.k) (h:a.toList.take (l.length*E.k)=l.flatMap E.enc)
  (b:l.length*E.bytes<=140737488355328):zc E base w (O (Xa ⟨g,0,Xb⟩) l.length cap) l:=
 ⟨⟨jH E l,.inr ⟨g,cap,a,rfl,hb,c,e,d,f,h⟩⟩,b⟩
theorem zcs {α:Type} {E:Elt α} {w:Xn} {rest:List Oper} {a:Act} (j:o.guard=Xb) (s x) (D:o.op= .call { callee:= .builtin .append,args:=#[s,x],argTypes:=#[E.st,E.st] })
  (base g cap n:Nat) (l:List α) (h:zc E base w (O (Xa ⟨g,0,Xb⟩) n cap) l) (i:Nat) (hi:i<=l.length) (F:a.eval s= O (Xa ⟨g,0,Xb⟩) i cap) (r:Addr) (c:List α) (b v:Nat) (H:a.eval x= O (Xa r) b v) (k:b=c.length)
  (f:∀m u,(c.flatMap E.enc)[m]? =Xa u->w.cell? (r.add m)=Xa u) (d:i+c.length<=cap) (e:(i+c.length)*E.bytes<=140737488355328)
  (z:∀w',zc E base w' (O (Xa ⟨g,0,Xb⟩) (i+b) cap) (l.take i++c)->w.grownBy w' (Xa g)->w'.heap.size=w.heap.size->wpList prog ops Q rest (a.put o.dst (O (Xa ⟨g,0,Xb⟩) (i+b) cap)) w'):wpList prog ops Q (o :: rest) a w:=by
 subst k;refine wpList_plain j fun K A=>?_
 obtain⟨b,B,t,C,b,y,p,G⟩:=h.block;obtain⟨K,m,h,k,h⟩:=info_parts E.info;have q:=jH E c;have h:(i+c.length)*E.k<=cap*E.k:=Yb _ d;rw[Nat.add_mul]at h;have j:=run_append_room (P:=prog) w E.st o.type E.ty K E.und m g i cap b y r c.length v (c.flatMap E.enc) (by rw[k];exact q) f (qJ E.one c) d (by rw[q,k,p];exact h)
 rw[k]at j;unfold Oper.wp execOp;simp only[D,resolve,invoke,builtin,Ys,Sem.run_pure,rA,List.map_toArray,mP,Yt,F,H,j];have hlen:(l.take i++c).length=i+c.length:=by rw[lA,Xu];omega
 have h:b.toList.length=cap*E.k:=by simpa using p
 have f:i*E.k<=l.length*E.k:=Yb _ hi;have j:l.length*E.k<=cap*E.k:=Yb _ t;have k:b.toList.take (i*E.k)=(l.take i).flatMap E.enc:=by
  have j:(b.toList.take (l.length*E.k)).take (i*E.k)=b.toList.take (i*E.k):=by rw[List.take_take,Nat.min_eq_left f]
  rw[<-j,G]
  conv=>lhs;rw[<-Yl i l,Yd]
  exact Yk (by rw[jH,Xu,Nat.min_eq_left hi])
 have j:(b.toList.take (i*E.k)).length=i*E.k:=by rw[Xu,h];omega
 have f:=zc.mk' (E:=E) (base:=base) (w:=w.setRow g (b.toList.take (i*E.k)++c.flatMap E.enc++b.toList.drop (i*E.k+(c.flatMap E.enc).length)).toArray) (g:=g) (cap:=cap) (l:=l.take i++c) B (setRow_heap w g b _ E.ty _ y) (by rw[hlen];exact d) C (by
  simp only[Yu,lA,j,q,Yi,h]
  omega) (by
  rw[hlen,Yd,<-k,Nat.add_mul];have:(b.toList.take (i*E.k)++c.flatMap E.enc).length=i*E.k+c.length*E.k:=by rw[lA,j,q]
  simp only;rw[Yk this]) (by rw[hlen];exact e)
 rw[hlen]at f;exact A _ _ (z _ f (Zs _ _ _) (by simp[World.setRow]))
theorem zfT (n:Nat):∀u∈(Builtin.zeroCells #[I6 0,I6 0,I6 0] n).toList,u.oneCell'=Xc:=fun u a=>by
 simp only[Builtin.zeroCells,Array.toList_map,List.mem_map,Array.toList_range,Xz]at a;obtain⟨i,_,rfl⟩:=a;have a:i % 3<3:=Ya _ (by decide)
 show(#[I6 0,I6 0,I6 0]:Array Xq)[i % 3]!.oneCell'=Xc
 generalize i % 3=k at a
 match k,a with
 | 0,_=>rfl
 | 1,_=>rfl
 | 2,_=>rfl
theorem zcW {w:Xn} {rest:List Oper} {a:Act} (b:o.guard=Xb) (x) (z:o.op= .call { callee:= .builtin .clear,args:=#[x],argTypes:=#[42] })
  (base g cap n:Nat) (l:List Ca) (c:zc Jw base w (O (Xa ⟨g,0,Xb⟩) n cap) l) (k p:Nat) (A:a.eval x= O (Xa ⟨g,l.length*3,Xb⟩) (k+1) p) (d:l.length+(k+1)<=cap)
  (s:∀w',zc Jw base w' (O (Xa ⟨g,0,Xb⟩) n cap) l->w.grownBy w' (Xa g)->w'.heap.size=w.heap.size->wpList prog ops Q rest (a.put o.dst (Xm #[])) w'):wpList prog ops Q (o :: rest) a w:=by
 refine wpList_plain b fun K t=>?_
 obtain⟨y,u,m,v,b,q,e,r⟩:=c.block;have d:Jw.k=3:=rfl;rw[d]at e r;obtain⟨Z,j⟩:=kB ((Builtin.zeroCells #[I6 0,I6 0,I6 0] (k+1)).toList);have i:Z.length=(k+1)*3:=by
  rw[<-j,Array.length_toList,size_zeroCells];rfl
 have f:∀h∈Z,h.oneCell'=Xc:=by rw[<-j];exact zfT _
 have h:=run_storeCells_at prog g (l.length*3) 105 Z 0 b w q (by rw[i,e];omega) f
 simp only[Ye]at h;have f:(Builtin.clear_ #[42] o.type #[O (Xa ⟨g,l.length*3,Xb⟩) (k+1) p]).run prog w= .ok (Xm #[]) (w.setRow g (b.toList.take (l.length*3)++Z++b.toList.drop (l.length*3+Z.length)).toArray):=by
  simp only[Builtin.clear_]
  simp[run_underlying underlying42,Tryz.zeroValue105,Value.cells,j,h]
 unfold Oper.wp execOp;simp only[z,resolve,invoke,builtin,Ys,Sem.run_pure,rA,List.map_toArray,mP,Yt,A,f];subst y;have f:b.toList.length=cap*3:=by simpa using e
 refine t _ _ (s _ (zc.mk' u (setRow_heap w g b _ 105 _ q) m v ?_ ?_ c.2) (Zs _ _ _) (by simp[World.setRow]))
 ·rw[d];simp only[Yu,lA,Xu,Yi,i,f];omega
 rw[d,Yq,Yk (by rw[Xu,f];omega)]
 exact r
theorem zk7 {α:Type} (l:List α) (i:Nat):l.take i++l.drop (i+1)=l.eraseIdx i:=(List.eraseIdx_eq_take_drop_succ ..).symm
theorem zgV (base g cap i:Nat) (l:List Ca) (w:Xn) (a:zc Jw base w (O (Xa ⟨g,0,Xb⟩) l.length cap) l) (hi:i<l.length) (b:l.length<=1000):
  Xp prog 213 #[O (Xa ⟨g,0,Xb⟩) l.length cap,I6 i,I6 ((i:Int)+1)] w fun e w'=>e= Xl (O (Xa ⟨g,0,Xb⟩) (l.length - 1) cap)/\zc Jw base w' (O (Xa ⟨g,0,Xb⟩) (l.length - 1) cap) (l.eraseIdx i)/\w.grownBy w' (Xa g):=by
 obtain⟨_,_,d,c,_⟩:=a.block;have f:cap<=9223372036854775807:=by simpa [maxLen]using c
 have j:=dD a;have f:=dD<|zk7 l i;have a:Xo ((l.drop (i+1)).length=l.length -(i+1)):=show _=_ from Yi
 obtain⟨n,c⟩:=kA l.length;rw[c.out]at d hi b j a⊢;obtain⟨q,b⟩:∃q,Xo (n=q+1):=⟨n - 1,show _=_ by omega⟩
 have d:(i:Int)+1<=(n:Int):=by omega
 have d:(n:Int)<=(cap:Int):=by omega
 have d:¬((i:Int)=(i:Int)+1):=by omega
 have h:((i:Int) ==(i:Int)+1)=Xd:=by simpa using d
 have d:(i:Int)<=(i:Int)+1:=by omega
 have d:(i:Int)<=(cap:Int):=by omega
 have d:((i:Int)+1).toNat=i+1:=by omega
 go_enter func213,ntmps213
 go_upto_region 5 with fail;have d:Nonempty (zg w):=⟨⟨_,zb.refl _⟩⟩;refine jO 6 [] zZ (by kernel_rfl) rfl rfl (by decide) (by simp) (by simp) ?_
 simp only[Yv,Yw];iterate 6 refine zf ?_
 refine zP fun w' p _=>?_
 obtain⟨k,d,m⟩:∃k:Addr,(if cap=i+1 then Xa (⟨g,0,Xb⟩:Addr)else Xa ⟨g,(i+1)*3,Xb⟩)=Xa k/\Xo (¬cap=i+1->k=⟨g,(i+1)*3,Xb⟩):=by
  by_cases e:cap=i+1
  ·exact⟨_,kE e,show _->_ from fun h=>absurd e h⟩
  exact⟨_,kF e,show _->_ from fun _=>rfl⟩
 rw[d];have h:=dD (j.grew p);have r:=dD p;have p:Xo (∀j u,((l.drop (i+1)).flatMap Jw.enc)[j]? =Xa u->w'.cell? (k.add j)=Xa u):=show∀j u,_ from fun j u d=>by
  by_cases e:cap=i+1
  ·rw[List.drop_of_length_le (by have:=c.out;omega)]at d
   cases d
  rw[m.out e,Addr.add_lit];have m:(l.flatMap Jw.enc)[(i+1)*3+j]? =Xa u:=by
   conv=>lhs;rw[<-Yl (i+1) l,Yd]
   rw[aR (by rw[jH,Xu];show _*3<=_;have:=c.out;omega),jH,Xu,show min (i+1) l.length=i+1 by have:=c.out;omega]
   show((l.drop (i+1)).flatMap Jw.enc)[(i+1)*3+j -(i+1)*3]? =_
   rw[Nat.add_sub_cancel_left];exact d
  have:=h.1.cells rfl _ u m;rw[Addr.add_lit,zA]at this;exact this
 have d:i+(n -(i+1))=q:=by have:=b.out;omega
 have j:Xo (i+(l.drop (i+1)).length<=cap/\(i+(l.drop (i+1)).length)*24<=140737488355328):=dD<|by rw[a.out];omega
 have d:Xo ((l.eraseIdx i).length=q):=dD<|by rw[<-f.out,lA,a.out,Xu];have:=c.out;have:=b.out;omega
 go_wp2_with (refine zcs (E:=Jw) rfl (.tmp 22) (.tmp 25) rfl base g cap n l h i (by have:=c.out;omega) rfl k (l.drop (i+1)) (n -(i+1)) (cap -(i+1)) rfl a.symm p j.1 j.2 ?_)
 intro a a c _;rw[f.out]at a;have h:=dD a;have f:=dD c;have a:¬cap=q:=by have:=b.out;omega
 have a:(q:Int)<=(n:Int):=by have:=b.out;omega
 have a:n - q=0+1:=by have:=b.out;omega
 try simp only[Xs,sB,sS,sZ]
 go_wp2_with (refine zcW rfl (.tmp 31) rfl base g cap q (l.eraseIdx i) h 0 (cap - q) (by rw[d.out];rfl) (by rw[d.out];have:=b.out;omega) ?_)
 intro a c a _;have d:=dD c;have c:=dD<|zdr r (Zj f a)
 have a:Xo (n - 1=q):=dD<|by have:=b.out;omega
 go_wp2;go_ret;exact⟨by rw[a.out];rfl,by rw[a.out];exact d,c⟩
theorem Rt.cache (h:Rt m):(m.ca.Pairwise fun a b=>z5 a<z5 b)/\(∀c∈m.ca,0<=c.idx/\c.idx<100)/\m.ca.length<=1000:=by
 obtain⟨d,d,g⟩:=zw.1 h.inv.ca;have d:∀c∈m.ca,0<=c.idx/\c.idx<100/\0<=z5 c/\z5 c<1000:=fun c e=>by
  obtain⟨k,f,f,f,F,f⟩:=znC h.w e;have i:=(gS.1 f.fl).1;have i:=((qC _ _).1 h.inv.st).1;have h:=f.idx;have h:=f.file;have h:=f.lo;unfold z5;omega
 refine⟨g,fun c e=>⟨(d c e).1,(d c e).2.1⟩,?_⟩
 have:=zel (m.ca.map z5) 0 1000 (by rw[List.pairwise_map];exact g) (fun x f=>by
  obtain⟨c,e,rfl⟩:=List.mem_map.1 f;exact(d c e).2.2)
 rw[List.length_map]at this;omega
theorem zop (h:Rt m) {i:Nat} {c:Ca} (b:m.ca[i]? =Xa c):ze6 m.ca ⟨c.file,c.idx,0⟩=i/\zbE m.ca ⟨c.file,c.idx,0⟩=Xc:=by
 obtain⟨l,_,_⟩:=h.cache;obtain⟨g,h⟩:=gS.1 b;have f:z5 ⟨c.file,c.idx,0⟩=z5 c:=rfl;refine⟨zh8 (Nat.le_of_lt g) (fun k d j a=>?_) (fun d a=>?_),?_⟩
 ·obtain⟨e,d⟩:=gS.1 a;have:=Xx.1 l k i e g j;rw[d,h]at this;rw[f];exact this
 ·rw[b]at a;cases a;rw[f];omega
 unfold zbE;exact Xt.2 ⟨c,mG b,decide_eq_true rfl⟩
theorem zgX {w:Xn} {p:Nat} (l:ChW w0 p w V m) (g:Rt m) (k:Nat) (f:Fr) (h:m.fs[k]? =Xa f) (L:f.f≠-1) (D:f.r≠0):
  Xp prog 186 #[Xj (Xa ⟨p,0,Xb⟩),I6 (k:Int)] w fun e w'=>(∃v,e= Xl v)/\Chg w0 p w V (qi m k) w':=by
 obtain⟨j,c,A,u,F,d,a⟩:=zfA g h L;obtain⟨R,S,G⟩:=g.cache;obtain⟨E,F⟩:=zop g d;rw[a.file,a.idx]at E F;have t:=(gS.1 d).1;have B:u<=12:=a.lo;have c:=dD<|ziL g h d a.fr
 obtain⟨P,Q,M⟩:=zbm g h D;have z:Xo (∀W,zb w W->Xp prog 190 #[Xj (Xa ⟨p,0,Xb⟩),I6 (A:Int),I6 (u:Int)] W fun e w'=>e= Xl (Xm #[I6 (j:Int),Xh Xc])/\zb W w'):=dD<|fun W i=>by
  have:=zaR (l.grew i) R S G (A:Int) (u:Int) (by omega)
  rw[E,F]at this;exact this
 have q:Xo (qi m k=zaz { m with ca:=m.ca.eraseIdx j } k f.r ⟨0,0,Xd⟩):=dD<|by
  rw[show(⟨0,0,Xd⟩:En)=en0 from rfl,zjm (m:={ m with ca:=m.ca.eraseIdx j }) g rfl rfl rfl h D QP]
  unfold qi;rw[c.out]
 have n:Xo (∀c i,ChW w0 p c i { m with ca:=m.ca.eraseIdx j }->Xp prog 214 #[Xj (Xa ⟨p,0,Xb⟩),I6 (k:Int),Xi #[I6 0,I6 0,Xh Xd]] c fun e w'=>(∃v,e= Xl v)/\Chg w0 p c i (qi m k) w'):=dD<|fun c i c=>by
  rw[q.out];exact zdH c k f h ⟨0,0,Xd⟩ g.inv.spl ⟨P,Q⟩ M
 have H:=dD l;have C:¬Dw p V w.heap.size:=fun e=>absurd (l.dlt _ e) (by omega)
 obtain⟨a4,-⟩:=l.at.ns;obtain⟨c,K,N⟩:=l.at.frs k f h;have x:=dD K;have y:=dD N
 have c:(k:Int)< (V.f.n:Int):=by
  have:=(gS.1 h).1;omega
 have r:=a.ff;have s:=a.fx;have i:=dD t;have c:=dD G;obtain⟨⟨T,U,W,X,Y,Z,I,a0⟩,a2,a3,a1,a5,a5⟩:=f;dsimp only at r s;subst r;subst s;obtain⟨r,r⟩:=kA (qi m k);rw[r.out]at n q⊢;clear l g h L D d a R S G E F t B P Q M K N a4;have F:=H.box.box.c 0 rfl;(first|rw[x.out]at F|(simp only[Sli.x]at F;rw[x.out]at F));obtain⟨h,l,r,s,q,t,x,B,D,E,a,d,g⟩:=y.out w (zb.refl _);dsimp only at h l r s q t x B D E a d g
 go_enter func186,ntmps186
 go_upto_region 1 with fail;clear h l r s q t x B D E a d g F;obtain⟨a,d⟩:=kA w.heap.size;obtain⟨r,a⟩:=kB (w.alloc (Xk #[U8 T,U8 U,U8 W,U8 X,U8 Y,U8 Z,U8 I,U8 a0,I6 a2,Xh a3,Xh a1,I6 (A:Int),I6 (u:Int)] 93));have h:=gA a
 have l:=xPT a d
 rw[a,d.out];rw[d.out]at C;clear a;have d:=l.box.c 11 rfl;have g:=l.box.c 12 rfl;have a:=z.out r h.out;go_wp2_with fail;refine a.mono ?_;clear a d g;rintro e x ⟨rfl,a⟩;have u:=dD (h.trans a);clear a;have h:=dD (H.grew u);obtain⟨l,r,a⟩:=h.ca.formS (by have:=i.out;omega)
 have g:=zgV w0.heap.size l r j m.ca x (by rw[<-a];exact h.ca) i c.out
 have s:=h.box.box.c 9 rfl;(first|rw[a]at s|(simp only[Sli.x]at s;rw[a]at s));have d:=dD a;clear a;obtain⟨t,a⟩:=kA m.ca.length;rw[a.out]at g s;have a:j<1000:=by have:=i.out;have:=c.out;omega
 go_wp2_with fail;refine g.mono ?_;clear g s;rintro e y ⟨rfl,g,c⟩;have i:p≠l:=h.nc l (by have a:=d.out;unfold oB;(first|rw[a]|(simp only[Sli.x]at a;rw[a]));rfl)
 have z:Xo (zn y p 88 (chL V m)):=h.box.beside c (fun k e=>by cases e;exact i)
 have A:=dD g;have s:=dD c;clear g c
 go_upto_region 3 with(refine jt rfl 42 (.tmp 37) (.tmp 34) rfl p 9 rfl (O (Xa ⟨l,0,Xb⟩) (t - 1) r) rfl [O (Xa ⟨l,0,Xb⟩) (t - 1) r] rfl z (by simp[chL]) (by kernel_rfl) (by simp[Value.oneCell']) ?_)
 intro z c g _;have i:Chg w0 p x V { m with ca:=m.ca.eraseIdx j } z:=by
  refine h.cache (w1:=y) (b:=⟨Xa ⟨l,0,Xb⟩,t - 1,r⟩) (zm.grown s (by have a:=d.out;unfold oB;(first|rw[a]|(simp only[Sli.x]at a;rw[a]));rfl)) (fun h h=>?_) A g c
  unfold oB at h;cases h;exact .inl (by have a:=d.out;unfold oB;(first|rw[a]|(simp only[Sli.x]at a;rw[a]));rfl)
 have a:=Chg.of_grew u i;obtain⟨r,d,h,q⟩:=a;have a:=dD d;have l:=dD h;have j:=dD q;have a:=n.out z r d;clear i d h q c g;try simp only[Xs]
 go_wp2_with fail;refine a.mono ?_;clear a;rintro e a ⟨⟨a,rfl⟩,c⟩;have a:=dD<|Chg.step l j c
 clear c;go_wp2
 (first | go_end0 | ((try simp only[Exit.inBlock,Exit.then]);refine bodyPost_ret (results_none rfl _ _ _) rfl ?_))
 first | exact a.out | exact⟨⟨_,rfl⟩,a⟩
section
variable{w0 w w1 w2:Xn} {p:Nat} {V:MaV} {m:Ma}
theorem ChW.setSw (h:ChW w0 p w V m) {d q:Sli} {a:List (List Int)} {b:List (Int × List Int)} (e:zb w w1) (i:w.heap.size<=B) (g:qy B w1 (Xi #[d.x,q.x]) a b) (f:w1.grownBy w2 (Xa p)) (c:zn w2 p 88 (chL { V with sb:=d,sq:=q } { m with sb:=a,sq:=b })):Chg w0 p w V { m with sb:=a,sq:=b } w2:=
 h.field (V':={ V with sb:=d,sq:=q }) (m':={ m with sb:=a,sq:=b }) e f rfl rfl rfl rfl rfl rfl c (fun W _ b r=>by
  have k:=(g.staysD (fun k a=>by have:=h.drt k a;omega) b).rows
  exact⟨r.sl,k.1,k.2,r.db,r.dq,r.fl⟩)
end
theorem zl5 (h:Rt m) {k:Nat} {f:Fr} (a:m.fs[k]? =Xa f) (b:f.r≠0):(Jn m<m.sl.length->jV m.sl f.r=0/\Qn m.sl f.r=m.sl.set (Jn m) f.r/\zb9 m.sl f.r=(Jn m:Int))/\(¬Jn m<m.sl.length->jV m.sl f.r=10):=by
 obtain⟨c,j,_⟩:=zbm h a b;have g:=h.parts.2
 rcases zcY m.sl f.r with⟨i,_⟩|⟨_,e,_⟩|⟨_,_,b,a,_⟩|⟨_,_,b,a,c,d⟩
 ·exact absurd g i
 ·exact absurd ⟨by omega,j⟩ e
 ·exact⟨fun h=>absurd h b,fun _=>a⟩
 exact⟨fun _=>⟨a,c,d⟩,fun h=>absurd b h⟩
theorem zlb {w:Xn} {p:Nat} (K:ChW w0 p w V m) (Q:Rt m) (k:Nat) (f:Fr) (Y:m.fs[k]? =Xa f) (bx:f.r≠0):
  Xp prog 229 #[Xj (Xa ⟨p,0,Xb⟩),I6 (k:Int)] w fun e w'=>e= Xl (Xh (zaZ m k f).1)/\Chg w0 p w V (zaZ m k f).2 w':=by
 obtain⟨ck,ah⟩:=zl5 Q Y bx;obtain⟨eb,ec,dq⟩:=zbm Q Y bx;have dn:=Q.inv.sl60;have ch:=Q.inv.sbl;obtain⟨E,L⟩:=kA (jV m.sl f.r);obtain⟨aj,a7⟩:=kA (zb9 m.sl f.r);have a8:Xo (∀W,zb w W->Xp prog 240 #[V.s.x,I6 f.r] W fun e w'=>∃s:Sli,e= Xl (Xm #[s.x,I6 aj,I6 E])/\qj slE W.heap.size w' (s.x) (Qn m.sl f.r)/\zb W w'):=dD<|fun W am=>by
  obtain⟨-,e7,-⟩:=K.at.ns;have ag:=(K.at.grew am).sl;(try simp only[Sli.x]at ag⊢);rw[e7]at ag⊢;rw[<-L.out,<-a7.out];refine(zl6 V.s.a V.s.c m.sl f.r W ag).mono ?_;rintro e w' ⟨ct,cx,rfl,e8,bs⟩;exact⟨⟨ct,_,cx⟩,rfl,e8,bs⟩
 have a6:Xo (E≠0->zaZ m k f=(Xd,m)):=dD<|fun e=>by
  unfold zaZ;rw[kF (fun Z=>e (L.symm.trans (ck Z).1))]
 have af:E=0->Jn m<m.sl.length:=fun e=>Classical.byContradiction fun ds=>by
  have:=ah ds;rw[L.out,e]at this;cases this
 have i:Xo (E=0->(zaZ m k f).1=Xc/\∃j:Nat,aj=(j:Int)/\j<=60/\zr m.sb.length m.sq (j:Int)=0/\(zaZ m k f).2=zaz {({ m with sl:=Qn m.sl f.r }:Ma)with sb:=q8 m.sb m.sq (j:Int),sq:=q7 m.sb m.sq (j:Int) (pgL f.p) } k f.r ⟨2,(j:Int),Xd⟩):=dD<|fun e=>by
  have Z:=af e;obtain⟨dk,ce,cf⟩:=ck Z;have U:zr m.sb.length m.sq ((Jn m:Nat):Int)=0:=by
   unfold zr;rw[kE Q.inv.sq,kE (by simp[j7];omega)]
  have S:enW ⟨2,(Jn m:Int),Xd⟩=0:=JV (by simp) ⟨by simp,by simp only;omega,fun K=>by simp at K⟩ (by simp)
  unfold zaZ;rw[kE Z];refine⟨rfl,Jn m,a7.symm.trans cf,by omega,U,?_⟩
  rw[zjm (m:={({ m with sl:=Qn m.sl f.r }:Ma)with sb:=q8 m.sb m.sq (Jn m:Int),sq:=q7 m.sb m.sq (Jn m:Int) (pgL f.p) }) Q rfl rfl rfl Y bx S];simp only;unfold ZF q8 q7;rw[kE U,kE U,ce]
 have a4:Xo (∀(ar:Xn) be (j:Nat) c4 c0 c5,ChW w0 p ar be {({ m with sl:=c4 }:Ma)with sb:=c0,sq:=c5 }->Xp prog 214 #[Xj (Xa ⟨p,0,Xb⟩),I6 (k:Int),Xi #[I6 2,I6 (j:Int),Xh Xd]] ar fun e w'=>(∃v,e= Xl v)/\Chg w0 p ar be (zaz {({ m with sl:=c4 }:Ma)with sb:=c0,sq:=c5 } k f.r ⟨2,(j:Int),Xd⟩) w'):=dD<|fun ar be j c4 c0 c5 dl=>zdH dl k f Y ⟨2,(j:Int),Xd⟩ Q.inv.spl ⟨eb,ec⟩ dq
 have a5:=dD K;have bw:p<w.heap.size:=K.dlt p (.inl rfl);obtain⟨eq,-⟩:=K.at.ns;obtain⟨el,dp,Z⟩:=K.at.frs k f Y;have aw:=dD dp;have ax:=dD Z
 have dr:(k:Int)< (V.f.n:Int):=by
  have:=(gS.1 Y).1;omega
 obtain⟨cb,az⟩:=kA (zaZ m k f);rw[az.out]at a6 i⊢;obtain⟨⟨r,t,x,z,A,B,C,D⟩,M,bq,bo,bp,br⟩:=f;dsimp only at a8 i a4;have ee:=a5.box.box.c 0 rfl;(first|rw[aw.out]at ee|(simp only[Sli.x]at ee;rw[aw.out]at ee));obtain⟨db,dc,de,df,bm,dg,dh,di,dj,bn,bj,bk,bl⟩:=ax.out w (zb.refl _);dsimp only at db dc de df bm dg dh di dj bn bj bk bl
 go_enter func229,ntmps229
 go_upto_region 2 with fail;obtain⟨h,av⟩:=kA w.heap.size;obtain⟨H,R⟩:=kB (w.alloc (Xk #[U8 r,U8 t,U8 x,U8 z,U8 A,U8 B,U8 C,U8 D,I6 M,Xh bq,Xh bo,I6 bp,I6 br] 93));have ai:=gA R
 have cd:=xPT R av
 rw[R,av.out];rw[av.out]at bw;have cg:zb H H.drew:=show Below _ _ _ from(bR _ _).drew
 obtain⟨c,b⟩:∃c:Xn->Prop,Xo (∀u,c u↔zb H u):=⟨fun u=>zb H u,fun _=>Iff.rfl⟩
 have n:=(b _).2 cg;have N:zb H H.drew:=cg;have du:∀y:zk c,y.world.cell? ⟨p,2,Xb⟩=Xa (V.s.x):=fun y=>(a5.box.box.grew (ai.trans ((b _).1 y.holds))).c 2 rfl
 have e6:∀y:zk c,y.world.cell? ⟨h,8,Xb⟩=Xa (I6 M):=fun y=>(cd.box.grew ((b _).1 y.holds)).c 8 rfl
 have bv:Nonempty (zk c):=⟨⟨_,n⟩⟩;refine z7 (I:=c) 15 [(7,fun v=>∃s:Sli,v= Xm #[s.x,I6 aj,I6 E])] (fun u=>zb H u) n N zZ (by kernel_rfl) rfl rfl (by decide) ?hS (by kernel_rfl) ?_
 case hS=>
  intro ed ae;simp only[mC,nM,or_false]at ae;subst ae;exact⟨_,je,rfl⟩
 simp only[Yv,Yw];refine zt ?_
 refine qa (.tmp 19) ⟨p,0,Xb⟩ rfl rfl rfl rfl ?_;simp only[Xs,sB,sS,sZ];iterate 5 refine zt ?_
 refine zK rfl rfl (fun v u=>∃(s:Sli) (G:Xn),v= Xm #[s.x,I6 aj,I6 E]/\zb H G/\zb G u/\qj slE G.heap.size u (s.x) (Qn m.sl M)) (fun w' g a=>?_) (fun c7 a0=>?_)
 ·refine zR.call [V.s.x,I6 M] rfl func240 rfl rfl rfl ?_;refine(a8 w' (ai.trans a)).mono ?_;rintro e c8 ⟨s,rfl,ah,a9⟩;exact⟨_,rfl,(b _).2 (((b _).1 g).trans a9),⟨s,rfl⟩,s,w',rfl,a,a9,ah⟩
 obtain⟨s,rfl⟩:=a0;simp only[Xs,sB,sS,sZ];iterate 7 refine zt ?_
 refine jp fun ek bt P=>?_
 obtain⟨aq,G,S,X,al,c6⟩:=P;have T:aq=s:=by
  obtain⟨cu,cv,cw⟩:=s;obtain⟨cy,cz,da⟩:=aq;simp only[Value.tuple.injEq,Array.mk.injEq,List.cons.injEq,vJ,and_true]at S;obtain⟨rfl,rfl,rfl⟩:=S;rfl
 subst T;have bd:=dD<|c6.base (bS (ai.trans X))
 have au:=dD (ai.trans (X.trans al));have cr:=dD (cd.grew (X.trans al))
 by_cases an:E=0
 rotate_left
 ·have bz:(E != 0)=Xc:=by simp[an]
  have ca:=dD<|a6.out an;go_wp2;go_ret;exact⟨by rw[ca.out];rfl,by rw[ca.out];exact Chg.refl a5 au⟩
 have bz:(E != 0)=Xd:=by simp[an]
 obtain⟨ef,j,eg,es,eh,ei⟩:=i.out an;subst eg;have b8:=dD ef;have b9:=dD eh;have ba:Xo (cb.2=_):=ei;have cl:=dD (a5.box.grew au)
 go_upto_region 6 with(refine jt rfl 34 (.tmp 36) (.tmp 33) rfl p 2 rfl (aq.x) rfl [aq.x] rfl cl (by simp[chL]) (by kernel_rfl) (by simp[Value.oneCell']) ?_)
 intro F bh aa _;have cs:Xo (zn F h 93 [U8 r,U8 t,U8 x,U8 z,U8 A,U8 B,U8 C,U8 D,I6 M,Xh bq,Xh bo,I6 bp,I6 br]):=dD<|cr.beside aa (fun k e=>by cases e;omega)
 obtain⟨l,ao,e9,bm⟩:=a5.setS au bd aa bh;have bc:=dD ao;have cp:=dD e9;have cm:=dD bm;have co:Xo (∀W,zb F W->Xp prog 185 #[Xi #[l.sb.x,l.sq.x],I6 (j:Int),Xi #[U8 r,U8 t,U8 x,U8 z,U8 A,U8 B,U8 C,U8 D]] W fun e w'=>∃d q:Sli,e= Xl (Xm #[Xi #[d.x,q.x],I6 0])/\qy W.heap.size w' (Xi #[d.x,q.x]) (q8 m.sb m.sq (j:Int)) (q7 m.sb m.sq (j:Int) (pgL ⟨r,t,x,z,A,B,C,D⟩))/\zb W w'):=show∀W,_ from fun W am=>by
  have ag:=zfW (Xi #[l.sb.x,l.sq.x]) m.sb m.sq (j:Int) (pgL ⟨r,t,x,z,A,B,C,D⟩) rfl W ⟨_,_,rfl,(ao.at.grew am).sb,(ao.at.grew am).sq⟩;rw[b9.out]at ag;refine ag.mono ?_;rintro e w' ⟨em,rfl,cj,bs⟩;obtain⟨d,q,rfl,_,_⟩:=cj.form;exact⟨d,q,rfl,cj,bs⟩
 have dt:p<F.heap.size:=ao.dlt p (.inl rfl);have ay:Xo (p≠h):=dD<|by omega
 try simp only[Xs]
 go_upto_region 6 with fail;obtain⟨c,b⟩:∃c:Xn->Prop,Xo (∀u,c u↔zn u h 93 [U8 r,U8 t,U8 x,U8 z,U8 A,U8 B,U8 C,U8 D,I6 M,Xh bq,Xh bo,I6 bp,I6 br]):=⟨fun u=>_,fun _=>Iff.rfl⟩
 have n:=(b _).2 (cs.grew (gW _))
 have N:zb F F.drew:=show Below _ _ _ from(bR _ _).drew
 have dv:∀y:zk c,y.world.cell? ⟨h,0,Xb⟩=Xa (U8 r):=fun y=>((b _).1 y.holds).box.c 0 rfl
 have dw:∀y:zk c,y.world.cell? ⟨h,1,Xb⟩=Xa (U8 t):=fun y=>((b _).1 y.holds).box.c 1 rfl
 have dx:∀y:zk c,y.world.cell? ⟨h,2,Xb⟩=Xa (U8 x):=fun y=>((b _).1 y.holds).box.c 2 rfl
 have dy:∀y:zk c,y.world.cell? ⟨h,3,Xb⟩=Xa (U8 z):=fun y=>((b _).1 y.holds).box.c 3 rfl
 have dz:∀y:zk c,y.world.cell? ⟨h,4,Xb⟩=Xa (U8 A):=fun y=>((b _).1 y.holds).box.c 4 rfl
 have e0:∀y:zk c,y.world.cell? ⟨h,5,Xb⟩=Xa (U8 B):=fun y=>((b _).1 y.holds).box.c 5 rfl
 have e4:∀y:zk c,y.world.cell? ⟨h,6,Xb⟩=Xa (U8 C):=fun y=>((b _).1 y.holds).box.c 6 rfl
 have e5:∀y:zk c,y.world.cell? ⟨h,7,Xb⟩=Xa (U8 D):=fun y=>((b _).1 y.holds).box.c 7 rfl
 have bv:Nonempty (zk c):=⟨⟨_,n⟩⟩;refine z7 (I:=c) 17 [(5,fun v=>v= Xi #[l.sb.x,l.sq.x]),(9,fun v=>∃d q:Sli,v= Xm #[Xi #[d.x,q.x],I6 0]),(16,fun _=>True)] (fun u=>zb F u) n N zZ (by kernel_rfl) rfl rfl (by decide) ?hS (by kernel_rfl) ?_
 case hS=>
  intro ed ae;simp only[mC,nM,or_false]at ae
  rcases ae with rfl|rfl|rfl
  ·exact⟨_,rfl⟩
  ·exact⟨_,je,je,rfl⟩
  exact⟨undef,trivial⟩
 simp only[Yv,Yw];iterate 2 refine zt ?_
 refine qa (.tmp 39) ⟨p,0,Xb⟩ rfl rfl rfl rfl ?_;simp only[Xs,sB,sS,sZ];iterate 2 refine zt ?_
 refine zK rfl rfl (fun _ u=>zb F u) (fun w' g a=>?_) (fun c7 a0=>?_)
 ·refine zbu 38 (.tmp 42) rfl p 3 rfl [l.sb.x,l.sq.x] ((bc.box.box.grew a).mid 3 (fun j v ac=>by
   match j,ac with
   | 0,ac=>exact ac
   | 1,ac=>exact ac)) underlying38 rfl (by kernel_rfl) ⟨g,rfl,a⟩
 cases a0;simp only[Xs,sB,sS,sZ];iterate 3 refine zt ?_
 refine zK rfl rfl (fun v u=>∃(d q:Sli) (G:Xn),v= Xm #[Xi #[d.x,q.x],I6 0]/\zb F G/\zb G u/\qy G.heap.size u (Xi #[d.x,q.x]) (q8 m.sb m.sq (j:Int)) (q7 m.sb m.sq (j:Int) (pgL ⟨r,t,x,z,A,B,C,D⟩))) (fun w' g a=>?_) (fun c7 a0=>?_)
 ·refine zR.call [Xi #[l.sb.x,l.sq.x],I6 (j:Int),Xi #[U8 r,U8 t,U8 x,U8 z,U8 A,U8 B,U8 C,U8 D]] rfl func185 rfl rfl rfl ?_;refine(co w' a).mono ?_;rintro e c8 ⟨d,q,rfl,ah,a9⟩;exact⟨_,rfl,(b _).2 (((b _).1 g).grew a9),⟨d,q,rfl⟩,d,q,w',rfl,a,a9,ah⟩
 obtain⟨d,q,rfl⟩:=a0;simp only[Xs,sB,sS,sZ];iterate 3 refine zt ?_
 refine qa (.tmp 38) ⟨p,0,Xb⟩ rfl rfl rfl rfl ?_;simp only[Xs,sB,sS,sZ];iterate 2 refine zt ?_
 refine zK rfl rfl (fun _ u=>Chg w0 p F l {({ m with sl:=Qn m.sl M }:Ma)with sb:=q8 m.sb m.sq (j:Int),sq:=q7 m.sb m.sq (j:Int) (pgL ⟨r,t,x,z,A,B,C,D⟩) } u) (fun w' g a=>?_) (fun c7 a0=>?_)
 ·obtain⟨ak,ap,G,S,X,al,c6⟩:=a;have T:ak=d/\ap=q:=by
   obtain⟨cu,cv,cw⟩:=d;obtain⟨cy,cz,da⟩:=ak;obtain⟨dk,ce,cf⟩:=q;obtain⟨en,eo,ep⟩:=ap;simp only[Value.tuple.injEq,Array.mk.injEq,List.cons.injEq,Value.agg.injEq,vJ,and_true]at S;obtain⟨⟨rfl,rfl,rfl⟩,rfl,rfl,rfl⟩:=S;exact⟨rfl,rfl⟩
  obtain⟨rfl,rfl⟩:=T;have c9:=X.trans al;refine jS 38 (.tmp 52) (.tmp 48) rfl p 3 rfl (Xi #[ak.x,ap.x]) rfl [ak.x,ap.x] rfl (bc.box.grew c9) (by simp[chL]) (by kernel_rfl) (by simp[Value.oneCell']) ?_
  intro bg bi ab _;exact⟨(b _).2 (((b _).1 g).beside ab (fun k e=>by cases e;exact fun e=>ay.out e.symm)),trivial,bc.setSw c9 (bS X) c6 ab bi⟩
 try simp only[Xs]
 refine jp fun bg bt P=>?_
 obtain⟨cc,ci,ea,bn⟩:=Chg.step cp cm P;have ej:Xo (ChW w0 p bg cc _):=ci;have cq:=dD ea;have cn:=dD bn;have bu:=a4.out bg cc j _ _ _ ci;go_wp2_with fail;refine bu.mono ?_;rintro e bf ⟨⟨er,rfl⟩,dm⟩;have bb:Xo (Chg w0 p w V cb.2 bf):=show Chg _ _ _ _ _ _ by rw[ba.out];exact Chg.step cq cn dm
 go_wp2;go_ret;exact⟨by rw[b8.out];rfl,bb⟩
theorem zpS (x0 y0:Int) (x1 y1:Int) (w):(Op.equalIn 10000 142 (Xi #[I6 x0,I6 x1]) (Xi #[I6 y0,I6 y1])).run prog w= .ok ((x0 == y0) &&(x1 == y1)) w:=by
 have hf : (Tryz.prog.fieldsOf 142).toList.map (fun f => (f.name, f.type, f.offset)) = [("Proc", 3, 0), ("Page", 3, 1)] := by kernel_rfl
 rw[run_equalIn_struct w 9999 142 _ _ (by kernel_rfl) (by kernel_rfl)]
 obtain⟨f0,f1,hfs⟩:∃f0 f1,(Tryz.prog.fieldsOf 142).toList=[f0,f1]:=by
  have hl:(Tryz.prog.fieldsOf 142).toList.length=2:=by have:=congrArg List.length hf;simpa using this
  match hq:(Tryz.prog.fieldsOf 142).toList,hl with
  | [f0,f1],_=>exact⟨f0,f1,rfl⟩
 rw[hfs]at hf⊢
 simp at hf
 obtain⟨⟨n0,t0,o0⟩,⟨n1,t1,o1⟩⟩:=hf;have pI:∀(zs:Array Xq) (o:Nat) v,zs[o]? =Xa (I6 v)->(part 3 zs o).run prog w= .ok (I6 v) w:=fun zs o v hz=>run_part_plain w (by simp[Program.plainKey,underlying3]) hz
 simp only[Op.eqFields,n0,t0,o0,n1,t1,o1]
 simp[pI,run_equalIn_int w _ _ _ _ _ _ underlying3]
 by_cases e0:x0=y0
 case neg=>simp[e0]
 subst e0
 by_cases e1:x1=y1
 case neg=>simp[e1]
 subst e1;simp
def znR (W:Xn) (y:Addr) (x:Nat × Nat):Prop:=W.cell? y=Xa (I6 (x.1:Int))/\W.cell? { block:=y.block,off:=y.off+1 }=Xa (I6 (x.2:Int))
theorem zl.spots {w:Xn} {v:Xq} {l:List (Nat × Nat)} (h:zl zaw w v l):∃a c,v= O a l.length c/\∀(j:Nat) x,l[j]? =Xa x->∃b,a=Xa b/\∀W,zb w W->znR W (b.add (j*2)) x:=by
 obtain⟨a,c,d,e⟩:=h.rows;refine⟨a,c,d,fun j x g=>?_⟩
 obtain⟨b,f,d⟩:=e j x g;exact⟨b,f,fun W b=>⟨d W b 0 _ rfl,d W b 1 _ rfl⟩⟩
theorem zfn (v) (l:List (Nat × Nat)) (q n:Nat) (w) (U:zl zaw w v l):
  Xp prog 253 #[v,Xi #[I6 (q:Int),I6 (n:Int)]] w fun e w'=>(∃E:Int,e= Xl (I6 E)/\(0<=E↔(q,n)∈l))/\zb w w':=by
 have s:=U.short;obtain⟨ae,af,rfl,f⟩:=U.spots;have I:=dD f;clear f U;obtain⟨L,K⟩:=kA l.length;rw[K.out]at s⊢;obtain⟨c,b⟩:∃c:Int->Prop,Xo (∀E,(0<=E↔(q,n)∈l)=c E):=⟨_,fun _=>rfl⟩
 simp only[b.out];obtain⟨a3,W⟩:=kA w.heap.size;obtain⟨ac,d⟩:=kB (w.alloc (Xk #[I6 (q:Int),I6 (n:Int)] 142));have Z:=gA d
 have a1:=xP d W
 have N:=dD d;clear d;have aa:=zpS
 go_enter func253,ntmps253
 go_upto_region 1 with fail;rw[N.out,W.out];go_wp2
 go_loopg [5,8] L (fun a5 _ ab wr=>∃a:Nat,a<=L/\L - a<=a5/\ab=I6 a/\Xo (zb w wr)/\Xo (Box wr a3 [I6 (q:Int),I6 (n:Int)])/\Xo (∀(j:Nat) x,j<a->l[j]? =Xa x->x≠(q,n)))
 case atStart=>exact⟨0,nZ _,by omega,rfl,Z,a1,fun j x t=>absurd t (nL _)⟩
 obtain⟨a,a9,a8,rfl,F,P,V⟩:=hrel
 by_cases g:a<L
 ·have u:=kC g
  obtain⟨x,M⟩:∃x,Xo (l[a]? =Xa x):=⟨_,gE (by rw[K.out];exact g)⟩
  obtain⟨Q,rfl,Y⟩:=I.out a x M.out;have r:=dD<|fun X (a6:zb wr X)=>Y X (F.trans a6)
  clear Y;obtain⟨i,m⟩:=x;go_upto_region 4 with fail;have C:∀y:zg wr,y.world.cell? (Q.add (a*2))=Xa (I6 (i:Int)):=fun y=>(r _ y.grew).1
  have D:∀y:zg wr,y.world.cell? ⟨(Q.add (a*2)).block,(Q.add (a*2)).off+1,Xb⟩=Xa (I6 (m:Int)):=fun y=>(r _ y.grew).2
  have A:=P.gw 0 rfl
  have B:=P.gw 1 rfl
  have z:Nonempty (zg wr):=⟨⟨_,zb.refl _⟩⟩
  by_cases G:i=q/\m=n
  ·obtain⟨rfl,rfl⟩:=G;have p:Xo (c (a:Int)):=dD<|by
    rw[<-b.out];exact⟨fun _=>mG M,fun _=>by omega⟩
   refine qu [] zZ (by kernel_rfl) (by simp) (by simp) ?_
   iterate 6 refine zf ?_
   refine zP fun a0 k T=>?_
   have H:=dD (F.trans k);clear k T z C D A B;have a7:(((i:Int) ==(i:Int)) &&((m:Int) ==(m:Int)))=Xc:=by simp
   go_wp2;go_ret;exact⟨⟨_,rfl,p⟩,H⟩
  have p:Xo (∀(j:Nat) x,j<a+1->l[j]? =Xa x->x≠(q,n)):=dD<|fun j x t h=>by
   by_cases e:j=a
   ·subst e;rw[M.out]at h;cases h;exact fun e=>G (Prod.mk.inj e)
   exact V j x (by omega) h
  have a7:(((q:Int) ==(i:Int)) &&((n:Int) ==(m:Int)))=Xd:=by
   by_cases e:i=q
   ·have R:¬(n:Int)=(m:Int):=fun a4=>G ⟨e,by omega⟩
    simp[R]
   have R:¬(q:Int)=(i:Int):=fun a4=>e (by omega)
   simp[R]
  clear G;refine qu [] zZ (by kernel_rfl) (by simp) (by simp) ?_
  iterate 6 refine zf ?_
  refine zP fun a0 k T=>?_
  have H:=dD (F.trans k);have a2:=dD (P.grew k);clear k T z C D A B;go_wp2
  go_roundg (L -(a+1))
  case measure=>omega
  exact⟨a+1,by omega,by omega,by go_num,H,a2,p⟩
 have u:=kD g
 have:a=L:=by omega
 subst this;have p:Xo (c (-1)):=dD<|by
  rw[<-b.out];refine⟨fun S=>absurd S (by decide),fun S=>?_⟩
  obtain⟨j,t⟩:=Xv S;exact absurd rfl (V j _ (by rw[<-K.out];exact(gS.1 t).1) t)
 go_wp2;go_ret;exact⟨⟨_,rfl,p⟩,F⟩
theorem zcy (v) (l:List (Nat × Nat)) (q n:Nat) (w) (b:zl zaw w v l):
  Xp prog 249 #[v,Xi #[I6 (q:Int),I6 (n:Int)]] w fun e w'=>e= Xl (Xh (l.contains (q,n)))/\zb w w':=by
 have a:=zfn v l q n (w.alloc (Xk #[I6 (q:Int),I6 (n:Int)] 142)) (b.grew (za _ _));obtain⟨R,c⟩:=kA (l.contains (q,n));rw[c.out];clear b
 go_enter func249,ntmps249
 go_wp2_with fail;refine a.mono ?_;clear a;rintro e a ⟨⟨z,rfl,a⟩,b⟩;have f:=dD<|(za _ _).trans b
 clear b
 by_cases d:0<=z
 ·have b:Xo (R=Xc):=dD<|by rw[<-c.out];simpa using a.1 d
  clear a;go_wp2;go_ret;exact⟨by rw[b.out];rfl,f⟩
 have b:Xo (R=Xd):=dD<|by
  rw[<-c.out]
  cases c:l.contains (q,n)with
  | false=>rfl
  | true=>exact absurd (a.2 (by simpa using c)) d
 have c:Xo (decide (0<=z)=Xd):=decide_eq_false d;clear a;go_wp2;go_ret;exact⟨by rw[b.out,<-c.out];rfl,f⟩
theorem zqj {e:En} {a b:Int}:isE e a b=(decide (e.kind=a) && decide (e.n=b)):=by
 unfold isE
 cases c:decide (e.kind=a) <;> cases c:decide (e.n=b) <;> simp_all
theorem zmf {w:Xn} {p:Nat} (F:ChW w0 p w V m) (ap bc c0 bz:Nat) (f:Fr) (k:Nat) (a7) (l:List (Nat × Nat)) (ad:Box w ap (frv f)) (ag:Box w bc [a7]) (ah:Box w c0 [Xj (Xa ⟨p,0,Xb⟩)]) (ae:Box w bz [I6 (k:Int)]) (H:zl zaw w a7 l)
  (q n:Nat) (s:Sp) (a:Ar) (bn:m.sp[q]? =Xa s) (c4:n<64) (c9:0<=f.f) (bg:a.file=f.f->(0<=a.base/\a.base<=100)/\(0<=a.fr/\a.fr<=100)):
  Xp prog 248 #[Xi #[I6 (q:Int),I6 (n:Int)],Xi #[I6 a.fr,I6 a.tz,Xh a.rd,Xh a.wr,Xh a.sh,I6 a.file,I6 a.base],Xj (Xa ⟨ap,0,Xb⟩),Xj (Xa ⟨bc,0,Xb⟩),Xj (Xa ⟨c0,0,Xb⟩),Xj (Xa ⟨bz,0,Xb⟩)] w fun e w'=>e= Xl (Xh (JE k f l q s a n))/\zb w w':=by
 have am:=(gS.1 bn).1;have ak:Zr m q (n:Int)=ze s n:=by unfold Zr;rw[Sp.getD_of bn,Qd c4]
 have bs:Xo (∀W,zb w W->Xp prog 136 #[Xj (Xa ⟨p,0,Xb⟩),Xi #[I6 (q:Int),I6 (n:Int)]] W fun e w'=>e= Xl (enV (ze s n))/\zb W w'):=dD<|fun W be=>by rw[<-ak];exact Zm (F.grew be) q am (n:Int)
 have bt:Xo (∀W,a.file=f.f->Xp prog 169 #[Xi #[I6 a.fr,I6 a.tz,Xh a.rd,Xh a.wr,Xh a.sh,I6 a.file,I6 a.base],I6 (n:Int)] W fun e w'=>e= Xl (I6 (a.base+(n:Int) - a.fr))/\zb W w'):=dD<|fun W bh=>Ja a (n:Int) W (bg bh).1 (bg bh).2 (by omega)
 have br:Xo (∀W,zb w W->Xp prog 249 #[a7,Xi #[I6 (q:Int),I6 (n:Int)]] W fun e w'=>e= Xl (Xh (l.contains (q,n)))/\zb W w'):=dD<|fun W be=>zcy a7 l q n W (H.grew be)
 have M:Xo (a.file=f.f->(qg a n).page=a.base+(n:Int) - a.fr):=dD<|fun bh=>by
  unfold qg;simp only;rw[kE (by omega)]
  omega
 have c:Xo (JE k f l q s a n=(decide (a.file=f.f) && decide ((qg a n).page=f.x) && !(l.contains (q,n)) &&(decide ((ze s n).kind=0) || (decide ((ze s n).kind=1) && decide ((ze s n).n=(k:Int)))))):=dD<|by
  unfold JE;rw[zqj];rfl
 obtain⟨bq,ax⟩:=kA (l.contains (q,n));rw[ax.out]at br c;obtain⟨a2,b8⟩:=kA ((qg a n).page);rw[b8.out]at M c;obtain⟨B,aq,bd,aj⟩:∃B aq bd,ze s n=⟨B,aq,bd⟩:=⟨_,_,_,rfl⟩;rw[aj]at bs c;obtain⟨a3,c7⟩:=kA (JE k f l q s a n);rw[c7.out]at c⊢;simp only at c;have a8:=dD ad;have av:=dD ag;have aw:=dD ah;have au:=dD ae;obtain⟨⟨cd,ce,cf,cg,ch,ci,cj,ck⟩,fr,cn,cm,ab,ac⟩:=f;obtain⟨aa,r,i,t,j,b,d⟩:=a;simp only at bt M c c9;clear F ad ag ah ae H bn c4 bg am ak aj;obtain⟨bx,ar⟩:=kA w.heap.size;obtain⟨N,u⟩:=kB ((w.alloc (Xk #[I6 (q:Int),I6 (n:Int)] 142)).alloc (Xk #[I6 aa,I6 r,Xh i,Xh t,Xh j,I6 b,I6 d] 125));have L:=gD2 u
 have bb:Xo (Box N bx [I6 (q:Int),I6 (n:Int)]):=dD<|by rw[<-u,<-ar.out];exact(Box.top w _ _ rfl).alloc _
 have P:Xo (Box N (bx+1) [I6 aa,I6 r,Xh i,Xh t,Xh j,I6 b,I6 d]):=dD<|by rw[<-u];exact Box.top _ [I6 aa,I6 r,Xh i,Xh t,Xh j,I6 b,I6 d] _ (by have:=ar.out;simp;omega)
 have b9:Xo (_=N):=u;clear u
 go_enter func248,ntmps248
 go_upto_region 1 with fail;rw[b9.out,ar.out];have U:=P.gw 0 rfl
 have X:=P.gw 1 rfl
 have Y:=P.gw 2 rfl
 have Z:=P.gw 3 rfl
 have I:=P.gw 4 rfl
 have a0:=P.gw 5 rfl
 have a1:=P.gw 6 rfl
 have S:=bb.gw 0 rfl
 have T:=bb.gw 1 rfl
 have v:∀A:zg N,A.world.cell? ⟨ap,11,Xb⟩=Xa (I6 ab):=fun A=>(a8.grew (L.trans A.grew)).c 11 rfl
 have x:∀A:zg N,A.world.cell? ⟨ap,12,Xb⟩=Xa (I6 ac):=fun A=>(a8.grew (L.trans A.grew)).c 12 rfl
 have Q:∀A:zg N,A.world.cell? ⟨bc,0,Xb⟩=Xa a7:=fun A=>(av.grew (L.trans A.grew)).c 0 rfl
 have R:Nonempty (zg N):=⟨⟨_,zb.refl _⟩⟩
 by_cases E:b=ab
 rotate_left
 ·have c2:(b != ab)=Xc:=by simpa using E
  have h:Xo (a3=Xd):=dD<|by rw[c.out,decide_eq_false E];rfl
  clear E;refine qu [] zZ (by kernel_rfl) (by simp) (by simp) ?_
  iterate 6 refine zf ?_
  iterate 7 (refine jo (by kernel_rfl) ?_;simp only[Xs,sB,sS,sZ])
  iterate 2 refine zf ?_
  iterate 3 (refine jo (by kernel_rfl) ?_;simp only[Xs,sB,sS,sZ])
  refine zf ?_
  refine zP fun ba g G=>?_
  have D:=dD (L.trans g);clear g G R U X Y Z I a0 a1 S T v x Q;go_wp2;go_ret;exact⟨by rw[h.out];rfl,D⟩
 have c2:(b != ab)=Xd:=by simp[E]
 have al:=M.out E;have y:=fun W=>bt.out W E
 rw[<-al]at y;have ay:Xo (decide (b=ab)=Xc):=decide_eq_true E;rw[ay.out]at c;clear E al
 by_cases a4:a2=ac
 rotate_left
 ·have c3:(a2 != ac)=Xc:=by simpa using a4
  have h:Xo (a3=Xd):=dD<|by rw[c.out,decide_eq_false a4];rfl
  clear a4;refine qu [(9,⟨fun K=>K=I6 a2,fun K w'=>True⟩)] zZ (by kernel_rfl) ?hS ?hp ?_
  case hS=>
   intro bo z;simp only[mC,nM,or_false]at z;subst z;exact⟨_,rfl⟩
  case hp=>
   intro bo z;simp only[mC,nM,or_false]at z;subst z;exact fun _ _ _ _ F=>F
  iterate 9 refine zf ?_
  refine zC rfl rfl (fun w' bi G=>?_) (fun c5 H=>?_)
  ·refine zR.call [Xi #[I6 aa,I6 r,Xh i,Xh t,Xh j,I6 b,I6 d],I6 (n:Int)] rfl func169 rfl rfl rfl ?_;refine(y w').mono ?_;rintro e an ⟨rfl,g⟩;exact⟨_,rfl,g,rfl,trivial⟩
  subst H;simp only[Xs,sB,sS,sZ];iterate 5 refine zf ?_
  iterate 3 (refine jo (by kernel_rfl) ?_;simp only[Xs,sB,sS,sZ])
  refine zf ?_
  refine zP fun ba g G=>?_
  have D:=dD (L.trans g);clear g G R U X Y Z I a0 a1 S T v x Q y;go_wp2;go_ret;exact⟨by rw[h.out];rfl,D⟩
 have c3:(a2 != ac)=Xd:=by simp[a4]
 have az:Xo (decide (a2=ac)=Xc):=decide_eq_true a4;rw[az.out]at c;clear a4;refine qu [(9,⟨fun K=>K=I6 a2,fun K w'=>True⟩),(17,⟨fun K=>K= Xh bq,fun K w'=>True⟩)] zZ (by kernel_rfl) ?hS ?hp ?_
 case hS=>
  intro bo z;simp only[mC,nM,or_false]at z
  rcases z with rfl|rfl
  ·exact⟨_,rfl⟩
  exact⟨_,rfl⟩
 case hp=>
  intro bo z;simp only[mC,nM,or_false]at z
  rcases z with rfl|rfl
  ·exact fun _ _ _ _ F=>F
  exact fun _ _ _ _ F=>F
 iterate 9 refine zf ?_
 refine zC rfl rfl (fun w' bi G=>?_) (fun c5 H=>?_)
 ·refine zR.call [Xi #[I6 aa,I6 r,Xh i,Xh t,Xh j,I6 b,I6 d],I6 (n:Int)] rfl func169 rfl rfl rfl ?_;refine(y w').mono ?_;rintro e an ⟨rfl,g⟩;exact⟨_,rfl,g,rfl,trivial⟩
 subst H;simp only[Xs,sB,sS,sZ];iterate 7 refine zf ?_
 refine zC rfl rfl (fun w' bi G=>?_) (fun c5 H=>?_)
 ·refine zR.call [a7,Xi #[I6 (q:Int),I6 (n:Int)]] rfl func249 rfl rfl rfl ?_;refine(br w' (L.trans bi)).mono ?_;rintro e an ⟨rfl,g⟩;exact⟨_,rfl,g,rfl,trivial⟩
 subst H;simp only[Xs,sB,sS,sZ];refine zf ?_
 refine zP fun ba g G=>?_
 have D:=dD (L.trans g);have bv:=dD (bb.grew g);clear g G R U X Y Z I a0 a1 S T v x Q y c2 c3
 cases bq with
 | true=>
  have h:Xo (a3=Xd):=dD<|by rw[c.out];rfl
  go_wp2;go_ret;exact⟨by rw[h.out];rfl,D⟩
 | false=>
  have cb:=bv.c 0 rfl;have cc:=bv.c 1 rfl;have ca:=(aw.grew D).c 0 rfl;have ai:=bs.out ba D.out;go_wp2_with fail;refine ai.mono ?_;clear ai cb cc ca;rintro e bu ⟨rfl,c1⟩;have c6:=dD (D.trans c1);clear c1;unfold enV;go_upto_region 4 with fail;obtain⟨cl,a9⟩:=kA bu.heap.size;obtain⟨c8,C⟩:=kB (bu.alloc (Xk #[I6 B,I6 aq,Xh bd] 127));have ao:Xo (zb w c8):=show zb _ _ from c6.trans (by rw[<-C];exact za _ _)
  have bw:=xP C a9
  rw[C,a9.out];clear C;have cp:=bw.c 0 rfl;have cq:=bw.c 1 rfl;have co:=(au.grew ao).c 0 rfl
  by_cases a5:B=0
  ·have bj:(B == 0)=Xc:=by rw[a5];rfl
   have h:Xo (a3=Xc):=dD<|by rw[c.out,decide_eq_true a5];rfl
   clear a5;go_wp2;go_ret;exact⟨by rw[h.out];rfl,ao⟩
  have bj:(B == 0)=Xd:=by simpa using a5
  rw[decide_eq_false a5]at c;clear a5
  by_cases a6:B=1
  ·have bl:(B == 1)=Xc:=by rw[a6];rfl
   rw[decide_eq_true a6]at c;clear a6;have h:Xo (a3=(aq ==(k:Int))):=dD<|by rw[c.out];rfl
   go_wp2;go_ret;exact⟨by rw[h.out];rfl,ao⟩
  have bl:(B == 1)=Xd:=by simpa using a6
  rw[decide_eq_false a6]at c;clear a6;have h:Xo (a3=Xd):=dD<|by rw[c.out];rfl
  go_wp2;go_ret;exact⟨by rw[h.out];rfl,ao⟩
theorem zR.allocFr {a:Act} {w:Xn} {K:Xq->Xn->Prop} (d:o.op= .alloc 93) (h:K (Xj (Xa ⟨w.heap.size,0,Xb⟩)) (w.alloc (Xk (frv fr0).toArray 93))):zR prog o a w K:=by
 have e:(zeroValue 93).run prog w= .ok frz w:=by
  obtain⟨f,c,b,_,_⟩:=info_parts Qy.info;have:Qy.ty=93:=rfl;rw[this]at c;have b:f.zero=Xa frz:=b
  simp[zeroValue,typeInfo,c,b]
 unfold zR;have:(execOp a.eval o).run prog w= .ok (.value (Xj (Xa ⟨w.heap.size,0,Xb⟩))) (w.alloc (Xk (frv fr0).toArray 93)):=by
  simp[execOp,d,go_sem,e]
  rfl
 rw[this];exact h
theorem zlc {w:Xn} {p:Nat} (bi:ChW w0 p w V m) (dq:Rt m) (k:Nat) (f:Fr) (dr:m.fs[k]? =Xa f) (ex:0<=f.f) (f1) (l:List (Nat × Nat)) (ap:zl zaw w f1 l):
  Xp prog 241 #[Xj (Xa ⟨p,0,Xb⟩),I6 (k:Int),f1] w fun e w'=>e= Xl (Xh (zf9 m k f l))/\zb w w':=by
 obtain⟨cp,cq,rfl,_⟩:=ap.rows;obtain⟨cr,dc⟩:=kA l.length;rw[dc.out]at ap⊢;have db:=dD bi;have f7:=dD ap;have av:Xo (∀(q:Nat) s,m.sp[q]? =Xa s->s.ars.length<=16/\∀a∈s.ars,jN a):=show∀(q:Nat) s,_ from fun q s ba=>by
  obtain⟨C,a9⟩:=J6.1 (dq.inv.spok s (mG ba)).1;exact⟨C,a9.all⟩
 have bp:=dD ex;obtain⟨gl,-⟩:=bi.at.ns;obtain⟨bf,U,ce⟩:=bi.at.frs k f dr;have cz:=dD U;have da:=dD ce
 have gh:(k:Int)< (V.f.n:Int):=by
  have:=(gS.1 dr).1;omega
 obtain⟨ec,ck,ao,cj⟩:=bi.at.spaces;obtain⟨-,-,-,-,-,-,-,-,f2⟩:=bi.at.ns;obtain⟨eb,bu⟩:=kA V.sp.a;obtain⟨aq,X⟩:=kA m.sp.length;have dd:Xo (V.sp.n=aq):=dD<|by rw[f2];exact X.out
 have f0:aq<=4:=by rw[<-X.out];exact dq.inv.spl
 have dj:Xo (ec.length=aq):=dD<|by rw[ck];exact X.out
 have dg:Xo (∀(j:Nat) x,ec[j]? =Xa x->∃bf,eb=Xa bf/\∀ay,zb w ay->zly ay (bf.add (j*10)) x):=dD<|by rw[<-bu.out];exact ao
 have dh:=dD cj
 obtain⟨cl,aw⟩:=kA (zf9 m k f l);rw[aw.out];have bw:Xo ((∃(q:Nat) (s:Sp) (i:Nat) (a:Ar) (n:Nat),m.sp[q]? =Xa s/\s.ars[i]? =Xa a/\Jk a n=Xc/\n<64/\JE k f l q s a n=Xc)->cl=Xc):=dD<|fun⟨q,s,i,a,n,C,a9,c1,c2,dm⟩=>by
  rw[<-aw.out];exact zc1.2 ⟨q,s,i,a,n,C,a9,c1,c2,za1.1 dm⟩
 have de:Xo ((∀(q:Nat) (s:Sp) (i:Nat) (a:Ar) (n:Nat),m.sp[q]? =Xa s->s.ars[i]? =Xa a->Jk a n=Xc->n<64->JE k f l q s a n=Xd)->cl=Xd):=dD<|fun dw=>by
  rw[<-aw.out]
  cases ga:zf9 m k f l with
  | false=>rfl
  | true=>
   obtain⟨q,s,i,a,n,C,a9,c1,c2,dm⟩:=zc1.1 ga;have:=dw q s i a n C a9 c1 c2;rw[za1.2 dm]at this;cases this
 clear bi dq dr ex ap U ce gl f2 ck ao cj;obtain⟨h,bn⟩:=kA w.heap.size;obtain⟨g,r⟩:=kB (((w.alloc (Xk #[Xj (Xa ⟨p,0,Xb⟩)] 85)).alloc (Xk #[I6 (k:Int)] 3)).alloc (Xk #[O cp cr cq] 255));have ct:Xo (zb w g):=dD<|by rw[<-r];exact((za _ _).trans (za _ _)).trans (za _ _)
 have ek:Xo (Box g h [Xj (Xa ⟨p,0,Xb⟩)]):=dD<|by rw[<-r,<-bn.out];exact((Box.top w [Xj (Xa ⟨p,0,Xb⟩)] _ rfl).alloc _).alloc _
 have ej:Xo (Box g (h+1) [I6 (k:Int)]):=dD<|by rw[<-r];exact(Box.top _ [I6 (k:Int)] _ (by have:=bn.out;simp;omega)).alloc _
 have f9:Xo (Box g (h+2) [O cp cr cq]):=dD<|by rw[<-r];exact Box.top _ [O cp cr cq] _ (by have:=bn.out;simp;omega)
 have bo:Xo (g.heap.size=h+3):=dD<|by rw[<-r];have:=bn.out;simp;omega
 have di:Xo (_=g):=r;clear r
 go_enter func241,ntmps241
 go_upto_region 1 with fail;rw[di.out,bn.out];obtain⟨⟨F,G,H,K,L,M,N,P⟩,R,S,Q,z,T⟩:=f;have cm:zb g g.drew:=show Below _ _ _ from(bR _ _).drew
 obtain⟨I,au⟩:∃I:Xn->Prop,Xo (∀W,I W↔zb g W):=⟨fun W=>zb g W,fun _=>Iff.rfl⟩
 have az:=(au _).2 cm;have c3:g.drew=g.drew:=rfl;have dx:=ek.h au 0 rfl
 have ds:=ej.h au 0 rfl
 have dz:∀y:zk I,y.world.cell? ⟨p,0,Xb⟩=Xa (O (Xa bf) V.f.n V.f.c):=fun y=>by rw[<-cz.out];exact(db.box.box.grew (ct.trans ((au _).1 y.holds))).c 0 rfl
 have b:∀y:zk I,zfQ y.world (bf.add (k*13)) ⟨⟨F,G,H,K,L,M,N,P⟩,R,S,Q,z,T⟩:=fun y=>da.out _ (ct.trans ((au _).1 y.holds))
 have c4:=fun y=>(b y).1
 have c5:=fun y=>(b y).2.1
 have c6:=fun y=>(b y).2.2.1
 have c7:=fun y=>(b y).2.2.2.1
 have c8:=fun y=>(b y).2.2.2.2.1
 have c9:=fun y=>(b y).2.2.2.2.2.1
 have ca:=fun y=>(b y).2.2.2.2.2.2.1
 have cb:=fun y=>(b y).2.2.2.2.2.2.2.1
 have cc:=fun y=>(b y).2.2.2.2.2.2.2.2.1
 have cd:=fun y=>(b y).2.2.2.2.2.2.2.2.2.1
 have ak:=fun y=>(b y).2.2.2.2.2.2.2.2.2.2.1
 have al:=fun y=>(b y).2.2.2.2.2.2.2.2.2.2.2.1
 have am:=fun y=>(b y).2.2.2.2.2.2.2.2.2.2.2.2
 dsimp only at c4 c5 c6 c7 c8 c9 ca cb cc cd ak al am;clear b;have dv:Nonempty (zk I):=⟨⟨_,az⟩⟩;refine z7 (I:=I) 11 [(9,fun gp=>gp= Xj (Xa ⟨h+3,0,Xb⟩)),(10,fun _=>True)] (fun W=>W=g.drew) az c3 zZ (by kernel_rfl) rfl rfl (by decide) ?hS (by kernel_rfl) ?_
 case hS=>
  intro x bk;simp only[mC,nM,or_false]at bk
  rcases bk with rfl|rfl
  ·exact⟨_,rfl⟩
  exact⟨undef,trivial⟩
 simp only[Yv,Yw];refine zt ?_
 refine qa (.tmp 14) ⟨p,0,Xb⟩ rfl rfl rfl rfl ?_;simp only[Xs,sB,sS,sZ];iterate 7 refine zt ?_
 refine zK rfl rfl (fun _ W=>zn W (h+3) 93 (frv fr0)/\zb g W) (fun w' dn ag=>?_) (fun gq ap=>?_)
 ·subst ag;refine zR.allocFr rfl ?_;have ba:g.drew.heap.size=h+3:=bo.out;refine⟨(au _).2 (cm.trans (za _ _)),by rw[ba],zn.top _ (frv fr0) _ ba.symm,cm.trans (za _ _)⟩
 subst ap;simp only[Xs,sB,sS,sZ];refine zK rfl rfl (fun _ W=>zn W (h+3) 93 [U8 F,U8 G,U8 H,U8 K,U8 L,U8 M,U8 N,U8 P,I6 R,Xh S,Xh Q,I6 z,I6 T]/\zb g W) (fun w' dn ag=>?_) (fun gq ap=>?_)
 ·refine zR.storeAllT 93 (.tmp 7) (.tmp 22) rfl (h+3) rfl [U8 F,U8 G,U8 H,U8 K,U8 L,U8 M,U8 N,U8 P,I6 R,Xh S,Xh Q,I6 z,I6 T] rfl ag.1 rfl (by kernel_rfl) (by simp[Value.oneCell']) ?_
  intro eo dk dl _;have bh:zb g eo:=zd ag.2 dl (by have:=bo.out;omega)
  exact⟨(au _).2 bh,trivial,dk,bh⟩
 clear ap;try simp only[Xs]
 refine jp fun be dp D=>?_
 have f4:=dD D.1.box;have ar:=dD<|ct.trans D.2;have el:=dD<|ek.grew D.2;have f8:=dD<|ej.grew D.2;have fb:=dD<|f9.grew D.2;clear dp D az c3 dx ds dz c4 c5 c6 c7 c8 c9 ca cb cc cd ak al am dv cm;have gi:∀(ew:Fn) (first bz:Array Xq) (w:Xn),(Instr.makeFunc ew first bz).run prog w= .ok (.func ew first bz) w:=fun _ _ _ _=>rfl
 have h9:=enters_of func248 (by kernel_rfl) rfl
 have gm:=el.c 0 rfl;have bx:=(db.box.box.grew ar).c 10 rfl;(first|rw[dd.out,bu.out]at bx|(simp only[Sli.x]at bx;rw[dd.out,bu.out]at bx));go_wp2;clear gm bx;have bv:Xo (∀ay,zb be ay->∀(q n:Nat) s a,m.sp[q]? =Xa s->a∈s.ars->n<64->Xp prog 248 #[Xi #[I6 (q:Int),I6 (n:Int)],Xi #[I6 a.fr,I6 a.tz,Xh a.rd,Xh a.wr,Xh a.sh,I6 a.file,I6 a.base],Xj (Xa ⟨h+3,0,Xb⟩),Xj (Xa ⟨h+2,0,Xb⟩),Xj (Xa ⟨h,0,Xb⟩),Xj (Xa ⟨h+1,0,Xb⟩)] ay fun e w'=>e= Xl (Xh (JE k ⟨⟨F,G,H,K,L,M,N,P⟩,R,S,Q,z,T⟩ l q s a n))/\zb ay w'):=dD<|fun ay bj q n s a ba U co=>by
  obtain⟨fj,gx,gy,gz,h6,fk,h7,fl⟩:=(av q s ba).2 a U;exact zmf (db.grew (ar.trans bj)) (h+3) (h+2) h (h+1) ⟨⟨F,G,H,K,L,M,N,P⟩,R,S,Q,z,T⟩ k (O cp cr cq) l (f4.grew bj) (fb.grew bj) (el.grew bj) (f8.grew bj) (f7.grew (ar.trans bj)) q n s a ba co bp (fun e=>⟨⟨fk,by have:a.file=z:=e;have he:0<=z:=bp.out;have:=fl (by omega);omega⟩,fj,by omega⟩)
 go_loopg [30] aq (fun c0 e9 wr=>∃q:Nat,q<=aq/\aq - q<=c0/\e9=I6 q/\Xo (zb be wr)/\Xo (∀(B:Nat) (s:Sp) (i:Nat) (a:Ar) (n:Nat),B<q->m.sp[B]? =Xa s->s.ars[i]? =Xa a->Jk a n=Xc->n<64->JE k ⟨⟨F,G,H,K,L,M,N,P⟩,R,S,Q,z,T⟩ l B s a n=Xd))
 case atStart=>exact⟨0,nZ _,by omega,rfl,zb.refl _,fun B s i a n ez=>absurd ez (nL _)⟩
 obtain⟨q,ez,gf,rfl,cw,ee⟩:=hrel
 by_cases A:q<aq
 ·have ci:=kC A
  obtain⟨x,bk⟩:∃x,ec[q]? =Xa x:=⟨_,gE (by rw[dj.out];exact A)⟩
  obtain⟨s,bd⟩:∃s,Xo (m.sp[q]? =Xa s):=⟨_,gE (by rw[X.out];exact A)⟩
  have bm:=dD<|dh.out q x s bk bd.out;obtain⟨bf,rfl,ce⟩:=dg.out q x bk;obtain⟨ft,fv,fw,fy,fz,g0,g1,g2,g3,g4⟩:=ce wr (ar.trans cw);clear ce bk;go_upto_region 6 with fail;obtain⟨hd,bq⟩:=kA wr.heap.size;obtain⟨fh,ah⟩:=kB (wr.alloc (Xk #[Xh x.live,x.ar.x,x.t0.x,x.t1.x,x.t2.x,x.t3.x,x.t4.x,x.t5.x,x.t6.x,x.t7.x] 76));have f5:Xo (zb be fh):=show zb _ _ from cw.trans (by rw[<-ah];exact za _ _)
  have fc:=xP ah bq
  rw[ah,bq.out];clear ah ft fv fw fy fz g0 g1 g2 g3 g4;have cx:=dD bm.ar.n;obtain⟨bg,ae⟩:=kA s.ars.length;have g7:bg<=16:=by rw[<-ae.out];exact(av q s bd).1
  obtain⟨fo,fp,b8,aj⟩:=bm.ar.ars;simp only[vJ]at b8;have cy:=dD aj;have e7:=fc.c 1 rfl;simp only[Sli.x]at e7;rw[b8.1,cx.out,ae.out]at e7;clear b8 aj;go_wp2;clear e7
  go_loopg [38] bg (fun c0 ea wr=>∃j:Nat,j<=bg/\bg - j<=c0/\ea=I6 j/\Xo (zb be wr)/\Xo (∀(i:Nat) (a:Ar) (n:Nat),i<j->s.ars[i]? =Xa a->Jk a n=Xc->n<64->JE k ⟨⟨F,G,H,K,L,M,N,P⟩,R,S,Q,z,T⟩ l q s a n=Xd))
  case atStart=>exact⟨0,nZ _,by omega,rfl,f5,fun i a n ey=>absurd ey (nL _)⟩
  obtain⟨j,hg,gc,rfl,cu,ef⟩:=hrel
  by_cases ab:j<bg
  ·have cg:=kC ab
   obtain⟨a,bl⟩:∃a,Xo (s.ars[j]? =Xa a):=⟨_,gE (by rw[ae.out];exact ab)⟩
   obtain⟨fm,rfl,cf⟩:=cy.out j a bl.out;obtain⟨ep,eq,er,es,et,eu,ev⟩:=cf wr (ar.trans cu);have E:=(av q s bd).2 a (mG bl);obtain⟨v,b9⟩:∃v:Nat,a.fr=(v:Int):=⟨a.fr.toNat,by have:=E.1;omega⟩
   obtain⟨u,bc⟩:∃u:Nat,a.tz=(u:Int):=⟨a.tz.toNat,by have:=E.1;have:=E.2.1;omega⟩
   have gb:v<u:=by have:=E.2.1;omega
   have dy:u<=64:=by have:=E.2.2.1;omega
   have bt:=dD<|mG bl.out;have bs:Xo (∀n:Nat,Jk a n=Xc↔v<=n/\n<u):=show∀n:Nat,_ from fun n=>by rw[ja,b9,bc];omega
   obtain⟨h8,fq,Y,a0,Z,d,c⟩:=a;simp only at b9 bc ep eq er es et eu ev;subst b9;subst bc;clear cf E;go_upto_region 9 with fail;obtain⟨g6,br⟩:=kA wr.heap.size;obtain⟨fi,ai⟩:=kB (wr.alloc (Xk #[I6 (v:Int),I6 (u:Int),Xh Y,Xh a0,Xh Z,I6 d,I6 c] 125));have f6:Xo (zb be fi):=dD<|cu.trans (by rw[<-ai];exact za _ _)
   have em:=xP ai br
   rw[ai,br.out];clear ai ep eq er es et eu ev;have ed:=em.c 0 rfl;go_wp2;clear ed
   go_loopg [13] (u - v) (fun c0 e8 wr=>∃n:Nat,v<=n/\n<=u/\u - n<=c0/\e8=I6 n/\Xo (zb be wr)/\Xo (Box wr g6 [I6 (v:Int),I6 (u:Int),Xh Y,Xh a0,Xh Z,I6 d,I6 c])/\Xo (∀t:Nat,v<=t->t<n->JE k ⟨⟨F,G,H,K,L,M,N,P⟩,R,S,Q,z,T⟩ l q s ⟨(v:Int),(u:Int),Y,a0,Z,d,c⟩ t=Xd))
   case atStart=>exact⟨v,nR _,by omega,by omega,rfl,f6,em,fun t C a9=>absurd a9 (by omega)⟩
   obtain⟨n,du,gj,ge,rfl,cv,en,eh⟩:=hrel;obtain⟨ed,gr,gs,gt,gu,gv,gw⟩:=en.c7
   by_cases ac:n<u
   ·have ch:=kC ac
    have cn:=bv.out wr cv q n s _ bd bt (by omega)
    simp only at cn;obtain⟨fg,ax⟩:=kA (JE k ⟨⟨F,G,H,K,L,M,N,P⟩,R,S,Q,z,T⟩ l q s ⟨(v:Int),(u:Int),Y,a0,Z,d,c⟩ n);rw[ax.out]at cn;go_wp2_with fail;refine cn.mono ?_;rintro e eo ⟨rfl,bh⟩;have ei:=dD (cv.trans bh);have fe:=dD (en.grew bh);clear bh cn ed gr gs gt gu gv gw
    cases fg with
    | true=>
     have df:Xo (cl=Xc):=bw.out ⟨q,s,j,_,n,bd,bl,(bs n).2 ⟨du,ac⟩,by omega,ax⟩
     go_wp2;go_ret;exact⟨by rw[df.out];rfl,ar.trans ei⟩
    | false=>
     have f3:Xo (∀t:Nat,v<=t->t<n+1->JE k ⟨⟨F,G,H,K,L,M,N,P⟩,R,S,Q,z,T⟩ l q s ⟨(v:Int),(u:Int),Y,a0,Z,d,c⟩ t=Xd):=dD<|fun t C a9=>by
      by_cases e:t=n
      ·subst e;exact ax.out
      exact eh t C (by omega)
     go_wp2
     go_roundg (u -(n+1))
     case measure=>omega
     exact⟨n+1,by omega,by omega,by omega,by go_num,ei,fe,f3⟩
   have ch:=kD ac
   have cs:Xo (∀(i:Nat) (a:Ar) (n:Nat),i<j+1->s.ars[i]? =Xa a->Jk a n=Xc->n<64->JE k ⟨⟨F,G,H,K,L,M,N,P⟩,R,S,Q,z,T⟩ l q s a n=Xd):=dD<|fun i a t ey U aa dt=>by
    by_cases e:i=j
    ·subst e;rw[bl.out]at U;cases U;obtain⟨C,a9⟩:=(bs t).1 aa;exact eh t C (by omega)
    exact ef i a t (by omega) U aa dt
   go_wp2
   go_roundg (bg -(j+1))
   case measure=>omega
   exact⟨j+1,by omega,by omega,by go_num,cv,cs⟩
  have cg:=kD ab
  have A2:Xo (∀(B:Nat) (s:Sp) (i:Nat) (a:Ar) (n:Nat),B<q+1->m.sp[B]? =Xa s->s.ars[i]? =Xa a->Jk a n=Xc->n<64->JE k ⟨⟨F,G,H,K,L,M,N,P⟩,R,S,Q,z,T⟩ l B s a n=Xd):=show∀(B:Nat) (s:Sp) (i:Nat) (a:Ar) (n:Nat),_ from fun B gn i a n gk bb U aa co=>by
   by_cases e:B=q
   ·subst e;rw[bd.out]at bb;cases bb;exact ef i a n (by have:=(gS.1 U).1;have:=ae.out;omega) U aa co
   exact ee B gn i a n (by omega) bb U aa co
  go_wp2
  go_roundg (aq -(q+1))
  case measure=>omega
  exact⟨q+1,by omega,by omega,by go_num,cu,A2⟩
 have ci:=kD A
 have df:Xo (cl=Xd):=de.out fun B s i a n C a9 c1 c2=>ee.out B s i a n (by have:=(gS.1 C).1;have:=X.out;omega) C a9 c1 c2
 go_wp2;go_ret;exact⟨by rw[df.out];rfl,ar.trans cw⟩
theorem zmt (a0 a1 a2 a3 a4 a5 a6 a7 a b c d e f g h:Int) (x):(Op.equalIn 10000 91 (Xi #[U8 a0,U8 a1,U8 a2,U8 a3,U8 a4,U8 a5,U8 a6,U8 a7]) (Xi #[U8 a,U8 b,U8 c,U8 d,U8 e,U8 f,U8 g,U8 h])).run prog x= .ok (decide ([a0,a1,a2,a3,a4,a5,a6,a7]=[a,b,c,d,e,f,g,h])) x:=by
 have i:=zbN 9998 a0 a1 a2 a3 a4 a5 a6 a7 a b c d e f g h x;rw[show ze7 ⟨a0,a1,a2,a3,a4,a5,a6,a7⟩ ⟨a,b,c,d,e,f,g,h⟩=decide ([a0,a1,a2,a3,a4,a5,a6,a7]=[a,b,c,d,e,f,g,h])from by
  rw[Bool.eq_iff_iff,za7,decide_eq_true_iff]
  simp]at i
 exact i
theorem zlf {w:Xn} {p:Nat} (h:ChW w0 p w V m) (aw:Rt m) (k:Nat) (f:Fr) (a7:m.fs[k]? =Xa f) (cf:f.f≠-1) (dd:f.r≠0) (bz) (l:List (Nat × Nat)) (A:zl zaw w bz l):
  Xp prog 230 #[Xj (Xa ⟨p,0,Xb⟩),I6 (k:Int),bz] w fun e w'=>e= Xl (Xh (zd9 m k f l).1)/\Chg w0 p w V (zd9 m k f l).2 w':=by
 obtain⟨f2,ez,X,B,al,bs,a⟩:=zfA aw a7 cf;have a8:=mG bs;have bw:QD m f.f=al.size:=by unfold QD;rw[a.ff,tN,gD,a.fl];rfl
 have hcut:zlh m f=Qh (pgL f.p) (B:Int) al.size:=by unfold zlh;rw[bw,a.fx]
 have e0:0<=f.f:=by rw[a.ff];omega
 obtain⟨co,br⟩:∃co,al.bl[B]? =Xa co:=⟨_,gE a.bl⟩;have s:=dD h;obtain⟨q,Z⟩:=kA (zlh m f);have a5:q.length=8:=by rw[<-Z.out,hcut];unfold Qh;simp[pgL]
 have C:Xo (∀W,zb w W->Xp prog 227 #[Xj (Xa ⟨p,0,Xb⟩),Xi (frv f).toArray] W fun e w'=>e= Xl (Xi (pgc q).toArray)/\zb W w'):=dD<|fun W z=>by
  rw[<-Z.out,hcut];exact(zck (h.grew z) f X B al a.ff a.fx a.fl a.sz a.lo).mono fun e w' S=>⟨S.1,S.2.2⟩
 obtain⟨aj,b9⟩:=kA (zf9 m k f l);have ck:Xo (∀W,zb w W->Xp prog 241 #[Xj (Xa ⟨p,0,Xb⟩),I6 (k:Int),bz] W fun e w'=>e= Xl (Xh aj)/\zb W w'):=dD<|fun W z=>by
  rw[<-b9.out];exact zlc (h.grew z) aw k f a7 e0 bz l (A.grew z)
 obtain⟨ca,ab⟩:=kA (Qk m f.f f.x);have a6:ca.length=8:=by
  rw[<-ab.out];have ei:=h.at;exact zdF ei.db.2.1 ei.dq.2.1 _ _
 have ae:Xo (∀W,zb w W->Xp prog 155 #[Xi (mL V m).toArray,I6 (X:Int),I6 (B:Int)] W fun e w'=>e= Xl (Xi (pgc ca).toArray)/\zb W w'):=dD<|fun W z=>by
  rw[<-ab.out,a.ff,a.fx];have f3:=a.sz;have f4:=a.lo;exact(zc0 V m X B al co W (h.at.grew z) a.fl br (by omega) (by omega)).mono fun e w' S=>⟨S.1,S.2.2⟩
 obtain⟨T,aa⟩:=kA (decide (Jy m.fl m.cnt f.f f.x=0));have bc:Xo (∀W,zb w W->Xp prog 195 #[Xj (Xa ⟨p,0,Xb⟩),I6 (k:Int)] W fun e w'=>e= Xl (Xh T)/\Chg w0 p w V (wrM m q f.f f.x) w'):=dD<|fun W z=>by
  have eg:=zpc (h.grew z) k f a7 X B al a.ff a.fx a.fl a.sz a.lo;rw[<-hcut,Z.out,<-a.ff,<-a.fx,aa.out]at eg;exact eg.mono fun e w' S=>⟨S.1,Chg.of_grew z S.2.chg⟩
 have ba:Xo (∀W cn,ChW w0 p W cn (wrM m q f.f f.x)->Xp prog 186 #[Xj (Xa ⟨p,0,Xb⟩),I6 (k:Int)] W fun e w'=>(∃v,e= Xl v)/\Chg w0 p W cn (qi (wrM m q f.f f.x) k) w'):=dD<|fun W cn cq=>by
  have de:Rt (wrM m q f.f f.x):=by
   by_cases e:Jy m.fl m.cnt f.f f.x=0
   ·obtain⟨dq,et,eu,_⟩:=zlM (fun _ _=>False) aw a8 a e q
    rw[et];exact eu.rt
   have:wrM m q f.f f.x=m:=by unfold wrM;rw[kF e]
   rw[this];exact aw
  exact zgX cq de k f (by rw[zlN];exact a7) cf dd
 have bb:Xo (∀W,zb w W->Xp prog 186 #[Xj (Xa ⟨p,0,Xb⟩),I6 (k:Int)] W fun e w'=>(∃v,e= Xl v)/\Chg w0 p w V (qi m k) w'):=dD<|fun W z=>(zgX (h.grew z) aw k f a7 cf dd).mono fun e w' S=>⟨S.1,Chg.of_grew z S.2⟩
 obtain⟨ai,ac⟩:=kA (decide (q=pgL f.p));obtain⟨j,a4⟩:=kA (decide (ca=q));obtain⟨U,b8⟩:=kA (zd9 m k f l);have cb:Xo (U=if ai=Xd/\aj=Xc then(Xd,m)else if f.d=Xc\/j=Xd then(if T=Xc then(Xc,qi (wrM m q f.f f.x) k)else if j=Xc then(Xc,qi m k)else(Xd,m))else(Xc,qi m k)):=dD<|by
  rw[<-b8.out];unfold zd9;rw[Z.out,b9.out,ab.out,<-ac.out,<-a4.out,<-aa.out];simp only[decide_eq_false_iff_not,decide_eq_true_eq]
 have ah:Xo (T=Xd->wrM m q f.f f.x=m):=dD<|fun e=>by
  unfold wrM;rw[kF (of_decide_eq_false (aa.trans e))]
 rw[b8.out];obtain⟨cc,cj⟩:=kA (wrM m q f.f f.x);rw[cj.out]at bc ba cb ah;obtain⟨ex,-⟩:=h.at.ns;obtain⟨ey,e5,e6⟩:=h.at.frs k f a7;have ch:=dD e5;have ci:=dD e6
 have ew:(k:Int)< (V.f.n:Int):=by
  have:=(gS.1 a7).1;omega
 have bt:=a.ff;have bu:=a.fx;obtain⟨bd,be,bf,bg,bh,bi,I,bj,a1⟩:=zfh q a5;obtain⟨e8,e9,ea,eb,ec,ed,ee,ef,ak⟩:=zfh ca a6;obtain⟨⟨am,an,ao,ap,aq,ar,au,av⟩,bp,bq,D,f0,f1⟩:=f;dsimp only at bt bu ac cb;have db:∀W,(Op.equalIn 10000 91 (Xi #[U8 bd,U8 be,U8 bf,U8 bg,U8 bh,U8 bi,U8 I,U8 bj]) (Xi #[U8 am,U8 an,U8 ao,U8 ap,U8 aq,U8 ar,U8 au,U8 av])).run prog W= .ok ai W:=fun W=>by
  rw[zmt];have:=ac.out;rw[a1]at this;rw[<-this];rfl
 have dc:∀W,(Op.equalIn 10000 91 (Xi #[U8 e8,U8 e9,U8 ea,U8 eb,U8 ec,U8 ed,U8 ee,U8 ef]) (Xi #[U8 bd,U8 be,U8 bf,U8 bg,U8 bh,U8 bi,U8 I,U8 bj])).run prog W= .ok j W:=fun W=>by
  rw[zmt,<-a1,<-ak,a4.out]
 rw[a1]at C;rw[ak]at ae;subst bt;subst bu;simp only[pgc,frv,mP,Yt]at C ae;clear h aw a7 cf dd A bs a a8 bw hcut e0 br a5 a6 e5 e6 ex a1 ak;have ej:=s.box.box.c 0 rfl;(first|rw[ch.out]at ej|(simp only[Sli.x]at ej;rw[ch.out]at ej));obtain⟨dr,ds,dt,du,dv,dw,bo,dx,dy,dz,bl,bm,bn⟩:=ci.out w (zb.refl _);dsimp only at dr ds dt du dv dw bo dx dy dz bl bm bn
 go_enter func230,ntmps230
 go_upto_region 2 with fail;clear dr ds dt du dv dw bo dx dy dz bl bm bn ej;obtain⟨dq,dl⟩:=kA w.heap.size;obtain⟨cd,a0⟩:=kB (w.alloc (Xk #[U8 am,U8 an,U8 ao,U8 ap,U8 aq,U8 ar,U8 au,U8 av,I6 bp,Xh bq,Xh D,I6 (X:Int),I6 (B:Int)] 93));have ax:=gA a0
 have dp:=xP a0 dl
 rw[a0,dl.out];clear a0;have e7:∀y:zg cd,Box y.world dq [U8 am,U8 an,U8 ao,U8 ap,U8 aq,U8 ar,U8 au,U8 av,I6 bp,Xh bq,Xh D,I6 (X:Int),I6 (B:Int)]:=fun y=>dp.grew y.grew
 have t:Xo (∀y:zg cd,_):=e7;clear e7;have F:=fun y=>(t y).c 0 rfl
 have G:=fun y=>(t y).c 1 rfl
 have H:=fun y=>(t y).c 2 rfl
 have K:=fun y=>(t y).c 3 rfl
 have L:=fun y=>(t y).c 4 rfl
 have M:=fun y=>(t y).c 5 rfl
 have N:=fun y=>(t y).c 6 rfl
 have P:=fun y=>(t y).c 7 rfl
 have Q:=fun y=>(t y).c 8 rfl
 have R:=fun y=>(t y).c 9 rfl
 have d:=fun y=>(t y).c 10 rfl
 have g:=fun y=>(t y).c 11 rfl
 have i:=fun y=>(t y).c 12 rfl
 have E:Nonempty (zg cd):=⟨⟨_,zb.refl _⟩⟩
 go_cut [30] (fun df c8=>df= Xh (!ai && aj)/\Xo (zb cd c8))
 case first=>
  cases ai with
  | true=>
   refine qu [(2,⟨fun v=>v= Xi #[U8 bd,U8 be,U8 bf,U8 bg,U8 bh,U8 bi,U8 I,U8 bj],fun v w'=>True⟩)] zZ (by kernel_rfl) ?hS ?hp ?_
   case hS=>
    intro c9 c;simp only[mC,nM,or_false]at c;subst c;exact⟨_,rfl⟩
   case hp=>
    intro c9 c;simp only[mC,nM,or_false]at c;subst c;exact fun _ _ _ _ h=>h
   iterate 2 refine zf ?_
   refine zC rfl rfl (fun w' a2 Y=>?_) (fun cg A=>?_)
   ·refine zR.call [Xj (Xa ⟨p,0,Xb⟩),Xi #[U8 am,U8 an,U8 ao,U8 ap,U8 aq,U8 ar,U8 au,U8 av,I6 bp,Xh bq,Xh D,I6 (X:Int),I6 (B:Int)]] rfl func227 rfl rfl rfl ?_;refine(C w' (ax.trans a2)).mono ?_;rintro e a3 ⟨rfl,n⟩;exact⟨_,rfl,n,rfl,trivial⟩
   subst A;simp only[Xs,sB,sS,sZ];iterate 4 refine zf ?_
   iterate 4 (refine jo (by kernel_rfl) ?_;simp only[Xs,sB,sS,sZ])
   refine zf ?_
   refine zP fun ep n Y=>?_
   have a9:=dD n;clear n Y E F G H K L M N P Q R d g i;go_wp2
   go_meet
   exact⟨rfl,a9⟩
  | false=>
   refine qu [(2,⟨fun v=>v= Xi #[U8 bd,U8 be,U8 bf,U8 bg,U8 bh,U8 bi,U8 I,U8 bj],fun v w'=>True⟩),(10,⟨fun v=>v= Xh aj,fun v w'=>True⟩)] zZ (by kernel_rfl) ?hS ?hp ?_
   case hS=>
    intro c9 c;simp only[mC,nM,or_false]at c
    rcases c with rfl|rfl
    ·exact⟨_,rfl⟩
    exact⟨_,rfl⟩
   case hp=>
    intro c9 c;simp only[mC,nM,or_false]at c
    rcases c with rfl|rfl
    ·exact fun _ _ _ _ h=>h
    exact fun _ _ _ _ h=>h
   iterate 2 refine zf ?_
   refine zC rfl rfl (fun w' a2 Y=>?_) (fun cg A=>?_)
   ·refine zR.call [Xj (Xa ⟨p,0,Xb⟩),Xi #[U8 am,U8 an,U8 ao,U8 ap,U8 aq,U8 ar,U8 au,U8 av,I6 bp,Xh bq,Xh D,I6 (X:Int),I6 (B:Int)]] rfl func227 rfl rfl rfl ?_;refine(C w' (ax.trans a2)).mono ?_;rintro e a3 ⟨rfl,n⟩;exact⟨_,rfl,n,rfl,trivial⟩
   subst A;simp only[Xs,sB,sS,sZ];iterate 7 refine zf ?_
   refine zC rfl rfl (fun w' a2 Y=>?_) (fun cg A=>?_)
   ·refine zR.call [Xj (Xa ⟨p,0,Xb⟩),I6 (k:Int),bz] rfl func241 rfl rfl rfl ?_;refine(ck w' (ax.trans a2)).mono ?_;rintro e a3 ⟨rfl,n⟩;exact⟨_,rfl,n,rfl,trivial⟩
   subst A;simp only[Xs,sB,sS,sZ];refine zf ?_
   refine zP fun ep n Y=>?_
   have a9:=dD n;clear n Y E F G H K L M N P Q R d g i;go_wp2
   go_meet
   exact⟨rfl,a9⟩
 obtain⟨rfl,a9⟩:=hcut;clear E F G H K L M N P Q R d g i;obtain⟨em,cl⟩:=kA (!ai && aj);rw[cl.out]
 cases em with
 | true=>
  have x:Xo (U=(Xd,m)):=dD<|by
   rw[cb.out,kE];have:=cl.out
   cases ai <;> cases aj <;> simp_all
  go_wp2;go_ret;exact⟨by rw[x.out];rfl,by rw[x.out];exact Chg.refl s (ax.trans a9)⟩
 | false=>
  have ay:Xo (U=if D=Xc\/j=Xd then(if T=Xc then(Xc,qi cc k)else if j=Xc then(Xc,qi m k)else(Xd,m))else(Xc,qi m k)):=dD<|by
   rw[cb.out,kF];have:=cl.out
   cases ai <;> cases aj <;> simp_all
  go_upto_region 4 with fail;have b:=dD (ax.trans a9);have r:=dD (dp.grew a9);have F:=fun y:zg wc=>(r.grew y.grew).c 0 rfl
  have G:=fun y:zg wc=>(r.grew y.grew).c 1 rfl
  have H:=fun y:zg wc=>(r.grew y.grew).c 2 rfl
  have K:=fun y:zg wc=>(r.grew y.grew).c 3 rfl
  have L:=fun y:zg wc=>(r.grew y.grew).c 4 rfl
  have M:=fun y:zg wc=>(r.grew y.grew).c 5 rfl
  have N:=fun y:zg wc=>(r.grew y.grew).c 6 rfl
  have P:=fun y:zg wc=>(r.grew y.grew).c 7 rfl
  have Q:=fun y:zg wc=>(r.grew y.grew).c 8 rfl
  have R:=fun y:zg wc=>(r.grew y.grew).c 9 rfl
  have d:=fun y:zg wc=>(r.grew y.grew).c 10 rfl
  have g:=fun y:zg wc=>(r.grew y.grew).c 11 rfl
  have i:=fun y:zg wc=>(r.grew y.grew).c 12 rfl
  have cr:=fun y:zg wc=>(s.box.box.grew (b.trans y.grew)).c 0 rfl
  have cs:=fun y:zg wc=>(s.box.box.grew (b.trans y.grew)).c 1 rfl
  have ct:=fun y:zg wc=>(s.box.box.grew (b.trans y.grew)).c 2 rfl
  have cu:=fun y:zg wc=>(s.box.box.grew (b.trans y.grew)).c 3 rfl
  have cv:=fun y:zg wc=>(s.box.box.grew (b.trans y.grew)).c 4 rfl
  have cw:=fun y:zg wc=>(s.box.box.grew (b.trans y.grew)).c 5 rfl
  have cx:=fun y:zg wc=>(s.box.box.grew (b.trans y.grew)).c 6 rfl
  have cy:=fun y:zg wc=>(s.box.box.grew (b.trans y.grew)).c 7 rfl
  have cz:=fun y:zg wc=>(s.box.box.grew (b.trans y.grew)).c 8 rfl
  have da:=fun y:zg wc=>(s.box.box.grew (b.trans y.grew)).c 9 rfl
  have bv:=fun y:zg wc=>(s.box.box.grew (b.trans y.grew)).c 10 rfl
  have E:Nonempty (zg wc):=⟨⟨_,zb.refl _⟩⟩;refine qu [(8,⟨fun v=>v= Xi #[U8 e8,U8 e9,U8 ea,U8 eb,U8 ec,U8 ed,U8 ee,U8 ef],fun v w'=>True⟩),(11,⟨fun v=>v= Xi #[U8 bd,U8 be,U8 bf,U8 bg,U8 bh,U8 bi,U8 I,U8 bj],fun v w'=>True⟩)] zZ (by kernel_rfl) ?hS ?hp ?_
  case hS=>
   intro c9 c;simp only[mC,nM,or_false]at c
   rcases c with rfl|rfl
   ·exact⟨_,rfl⟩
   exact⟨_,rfl⟩
  case hp=>
   intro c9 c;simp only[mC,nM,or_false]at c
   rcases c with rfl|rfl
   ·exact fun _ _ _ _ h=>h
   exact fun _ _ _ _ h=>h
  refine zf ?_
  refine Zp (.tmp 31) ⟨p,0,Xb⟩ rfl rfl rfl rfl ?_;simp only[Xs,sB,sS,sZ];iterate 6 refine zf ?_
  refine zC rfl rfl (fun w' a2 Y=>?_) (fun cg A=>?_)
  ·refine zR.call [Xi (mL V m).toArray,I6 (X:Int),I6 (B:Int)] rfl func155 rfl rfl rfl ?_;refine(ae w' (b.trans a2)).mono ?_;rintro e a3 ⟨rfl,n⟩;exact⟨_,rfl,n,rfl,trivial⟩
  subst A;simp only[Xs,sB,sS,sZ];iterate 2 refine zf ?_
  refine zC rfl rfl (fun w' a2 Y=>?_) (fun cg A=>?_)
  ·refine zR.call [Xj (Xa ⟨p,0,Xb⟩),Xi #[U8 am,U8 an,U8 ao,U8 ap,U8 aq,U8 ar,U8 au,U8 av,I6 bp,Xh bq,Xh D,I6 (X:Int),I6 (B:Int)]] rfl func227 rfl rfl rfl ?_;refine(C w' (b.trans a2)).mono ?_;rintro e a3 ⟨rfl,n⟩;exact⟨_,rfl,n,rfl,trivial⟩
  subst A;simp only[Xs,sB,sS,sZ];iterate 2 refine zf ?_
  refine zP fun eq cp Y=>?_
  have dk:=dD (b.trans cp);have es:=dD (r.grew cp);clear cp Y E F G H K L M N P Q R d g i cr cs ct cu cv cw cx cy cz da bv db dc;have di:=es.c 10 rfl;go_upto_region 5 with fail
  go_cut [49] (fun dg c8=>dg= Xh (D || !j)/\c8=eq)
  case first=>
   cases D <;> cases j
   all_goals (go_wp2;go_meet;exact⟨rfl,rfl⟩)
  obtain⟨rfl,rfl⟩:=hcut;clear di;obtain⟨en,af⟩:=kA (D || !j);rw[af.out]
  cases en with
  | false=>
   have x:Xo (U=(Xc,qi m k)):=dD<|by
    rw[ay.out,kF];have:=af.out
    cases D <;> cases j <;> simp_all
   have u:=bb.out wc dk.out;go_wp2_with fail;refine u.mono ?_;clear u;rintro e ce ⟨⟨f5,rfl⟩,e3⟩;have cm:Xo (Chg w0 p w V U.2 ce):=dD<|by rw[x.out];exact e3
   clear e3;go_wp2;go_ret;exact⟨by rw[x.out];rfl,cm⟩
  | true=>
   have az:Xo (U=if T=Xc then(Xc,qi cc k)else if j=Xc then(Xc,qi m k)else(Xd,m)):=dD<|by
    rw[ay.out,kE];have:=af.out
    cases D <;> cases j <;> simp_all
   have bx:=bc.out wc dk.out;go_wp2_with fail;refine bx.mono ?_;clear bx;rintro e ce ⟨rfl,dn,I,eh,bo⟩;have cm:=dD I;have dm:=dD eh;have dj:=dD bo;have u:=ba.out ce dn I;clear I eh bo;go_upto_region 7 with fail
   go_cut [58] (fun dh c8=>dh= Xh (!T && !j)/\c8=ce)
   case first=>
    cases T <;> cases j
    all_goals (go_wp2;go_meet;exact⟨rfl,rfl⟩)
   obtain⟨rfl,rfl⟩:=hcut;obtain⟨eo,ag⟩:=kA (!T && !j);rw[ag.out]
   cases eo with
   | true=>
    have x:Xo (U=(Xd,m)/\cc=m):=dD<|by
     have cq:=ag.out;have ev:=ah.out;rw[az.out]
     cases T <;> cases j <;> simp_all
    have ek:Xo (Chg w0 p w V U.2 wc):=dD<|by
     rw[x.1,<-x.2];exact⟨dn,cm,dm,dj⟩
    clear u;go_wp2;go_ret;exact⟨by rw[x.1];rfl,ek⟩
   | false=>
    have x:Xo (U=(Xc,qi cc k)):=dD<|by
     have cq:=ag.out;have ev:=ah.out;rw[az.out]
     cases T <;> cases j <;> simp_all
    go_wp2_with fail;refine u.mono ?_;clear u;rintro e er ⟨⟨f6,rfl⟩,e4⟩;have el:Xo (Chg w0 p w V U.2 er):=dD<|by rw[x.out];exact Chg.step dm dj e4
    clear e4;go_wp2;go_ret;exact⟨by rw[x.out];rfl,el⟩
theorem ziG {w:Xn} {p:Nat} (h:ChW w0 p w V m) (s:Rt m) (k:Nat) (f:Fr) (g:m.fs[k]? =Xa f) (t:f.r≠0) (q) (l:List (Nat × Nat)) (v:zl zaw w q l):
  Xp prog 199 #[Xj (Xa ⟨p,0,Xb⟩),I6 (k:Int),q] w fun e w'=>e= Xl (Xh (jF m k f l).1)/\Chg w0 p w V (jF m k f l).2 w':=by
 obtain⟨a,-⟩:=h.at.ns;obtain⟨a,a,c⟩:=h.at.frs k f g;have b:(k:Int)< (V.f.n:Int):=by
  have:=(gS.1 g).1;omega
 have b:=h.box.box.c 0 rfl;(first|rw[a]at b|(simp only[Sli.x]at b;rw[a]at b));obtain⟨a,a,a,a,a,a,a,a,a,a,a,a,b⟩:=c w (zb.refl _);obtain⟨r,b⟩:=kA f.f;rw[b.out]at a
 by_cases d:f.f=-1
 ·have c:=zlb h s k f g t;have j:Xo (jF m k f l=zaZ m k f):=dD<|by unfold jF;rw[kE d]
  have x:(r == -1)=Xc:=by rw[<-b.out,d];rfl
  rw[j.out];obtain⟨E,a⟩:=kA (zaZ m k f);rw[a.out]at c⊢
  go_enter func199,ntmps199
  go_wp2_with fail;refine c.mono ?_;rintro e u ⟨rfl,n⟩;have i:=dD n;go_wp2;go_ret;exact⟨rfl,i⟩
 have c:=zlf h s k f g d t q l v;have j:Xo (jF m k f l=zd9 m k f l):=dD<|by unfold jF;rw[kF d]
 have x:(r == -1)=Xd:=by rw[<-b.out];simpa using d
 rw[j.out];obtain⟨E,a⟩:=kA (zd9 m k f l);rw[a.out]at c⊢
 go_enter func199,ntmps199
 go_wp2_with fail;refine c.mono ?_;rintro e u ⟨rfl,n⟩;have i:=dD n;go_wp2;go_ret;exact⟨rfl,i⟩
theorem ziy (n:Nat) (m:Ma) (l:List (Nat × Nat)) {k:Nat} {f:Fr} (hi:zan m.fs m.hand=(k:Int)) (a:(Zt m).fs[k]? =Xa f):Qf (n+1) m l=if(jF (Zt m) k f l).1=Xc then jF (Zt m) k f l else Qf n (Zt m) l:=by
 conv=>lhs;unfold Qf
 rw[kF (by omega),hi,tN,zJ a]
theorem zix (n:Nat) (m:Ma) (l:List (Nat × Nat)) (hi:zan m.fs m.hand=-1):Qf (n+1) m l=(Xd,Zt m):=by
 conv=>lhs;unfold Qf
 rw[kE (by omega)]
theorem zld {w:Xn} {p:Nat} (v:ChW w0 p w V m) (X:Rt m) (Z) (l:List (Nat × Nat)) (ai:zjR zaw (Dw p V) w Z l):
  Xp prog 160 #[Xj (Xa ⟨p,0,Xb⟩),Z] w fun e w'=>e= Xl (Xh (Qe m l).1)/\Chg w0 p w V (Qe m l).2 w':=by
 have aw:=dD ai;have au:=dD v;have av:=dD X;obtain⟨aj,-⟩:=v.at.ns;have Y:V.f.n<=40:=by have:=X.inv.fs40;omega
 obtain⟨f,z⟩:=kA (Qe m l);have A:Xo (Qf (2*V.f.n) m l=f):=dD<|by rw[<-z.out,aj];rfl
 rw[z.out];have L:=v.box.box.c 0 rfl;clear v ai X aj;obtain⟨c,M⟩:=kA V.f.n;(try simp only[Sli.x]at L);rw[M.out]at L Y A
 go_enter func160,ntmps160
 go_wp2;clear L
 go_loopg [14] (2*c) (fun b1 I wr=>∃(t:Nat) (a:Ma) (K:MaV),t<=2*c/\2*c - t<=b1/\I=I6 t/\Xo (ChW w0 p wr K a)/\Xo (Rt a)/\Xo (zm (Dw p V) w wr)/\Xo (∀k,Dw p K k->Dw p V k\/w.heap.size<=k)/\Xo (Qf (2*c - t) a l=f))
 case atStart=>exact⟨0,m,V,nZ _,by omega,rfl,au,av,zm.refl _ _,(fun _ v=> .inl v:∀k,Dw p V k->Dw p V k\/w.heap.size<=k),A⟩
 obtain⟨t,a,K,b8,b2,rfl,s,a7,a6,a2,H⟩:=hrel
 by_cases b3:t<2*c
 ·have F:(t:Int)<2*(c:Int):=by omega
  obtain⟨r,B⟩:∃r,Xo (2*c - t=r+1):=⟨2*c - t - 1,show _=_ by omega⟩
  have P:Xo (2*c -(t+1)=r):=dD<|by have:=B.out;omega
  rw[B.out]at H;obtain⟨u,_,d⟩:=zgs (fun _ _=>False) a7.out
  have C:=dD u.rt;have x:=dD d;have L:=s.box.box.c 0 rfl;have b6:=s.box.box.c 1 rfl;have q:=zri s a7.parts.1;obtain⟨b7,i⟩:=kA (zan a.fs a.hand);rw[i.out]at q x;clear u d;go_wp2_with fail;refine q.mono ?_;clear q L b6;rintro e az ⟨U,rfl,ak,u⟩;have an:=dD (s.box.grew u);have N:Xo (zc Qy wr.heap.size az (U.x) (zbP a.fs a.hand)):=ak;have aq:=dD u;clear ak u
  go_upto_region 5 with(refine jt rfl 32 (.tmp 29) (.tmp 24) rfl p 0 rfl (Xi #[U.x,I6 (zde a.fs a.hand)]) rfl [U.x,I6 (zde a.fs a.hand)] rfl an (by simp[chL]) (by kernel_rfl) (by simp[Value.oneCell']) ?_)
  intro T aa E _;obtain⟨a8,ab,al,ad⟩:=Chg.step a6 a2 (s.setF aq N E aa);have a4:Xo (ChW w0 p T a8 (Zt a)):=ab;have S:=dD al;have a0:=dD ad;clear aa E ab al ad;try simp only[Xs]
  rcases x with⟨D,_⟩|⟨k,j,D,W,af⟩
  ·have b:Xo (f=(Xd,Zt a)):=dD<|by rw[<-H.out,zix r a l (by rw[i.out];exact D)]
   subst D;have ax:Xo (Chg w0 p w V f.2 T):=dD<|by rw[b.out];exact⟨a8,a4,S,a0⟩
   go_wp2;go_ret;exact⟨by rw[b.out];rfl,ax⟩
  have b:Xo (f=if(jF (Zt a) k j l).1=Xc then jF (Zt a) k j l else Qf r (Zt a) l):=dD<|by rw[<-H.out,ziy r a l (by rw[i.out];exact D) W]
  have n:=ziG a4 C k j W af Z l (aw T S);have h:Xo ((jF (Zt a) k j l).1=Xd->(jF (Zt a) k j l).2=Zt a):=dD<|fun e=>by
   rcases zjE (Zt a) k j l with⟨b4,_⟩|⟨_,b5⟩
   ·rw[b4]at e;cases e
   exact b5
  obtain⟨ao,ar⟩:=kA (jF (Zt a) k j l);rw[ar.out]at n b h;subst D;have ah:(0:Int)<=(k:Int):=by omega
  clear W af;go_wp2_with fail;refine n.mono ?_;clear n;rintro e b0 ⟨rfl,ag⟩;obtain⟨a9,ac,am,ae⟩:=Chg.step S a0 ag;have Q:=dD ac;have a5:=dD am;have a1:=dD ae;clear ag ac am ae;obtain⟨ap,G⟩:=ao;simp only at Q b h
  cases ap with
  | true=>
   have g:Xo (f=(Xc,G)):=dD<|by rw[b.out];rfl
   have R:Xo (Chg w0 p w V f.2 b0):=dD<|by rw[g.out];exact⟨a9,Q,a5,a1⟩
   go_wp2;go_ret;exact⟨by rw[g.out];rfl,R⟩
  | false=>
   have y:=dD<|h.out rfl;have g:Xo (Qf r G l=f):=show _=_ by rw[b.out,y.out];rfl
   have ay:Xo (Rt G):=dD<|by rw[y.out];exact C.out
   go_wp2
   go_roundg (2*c -(t+1))
   case measure=>omega
   exact⟨t+1,G,a9,by omega,by omega,by go_num,Q,ay,a5,a1,by rw[P.out];exact g⟩
 have F:¬(t:Int)<2*(c:Int):=by omega
 have a3:Xo (f=(Xd,a)):=dD<|by
  rw[<-H.out,show 2*c - t=0 by omega]
  rfl
 have R:Xo (Chg w0 p w V f.2 wr):=dD<|by rw[a3.out];exact⟨K,s,a6,a2⟩
 go_wp2;go_ret;exact⟨by rw[a3.out];rfl,R⟩
end
end Go.Proofs.YtmfckdkcmbncdaaGreat
