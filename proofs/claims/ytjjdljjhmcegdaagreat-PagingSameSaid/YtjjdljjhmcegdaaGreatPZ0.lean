import Derived.Orders
import Derived.Below
import Derived.Deep.QuietTactic
import Derived.BigQuiet
import Derived.Test.YtjjdljjhmcegdaaGreatProg
import Derived.WalkKit
import Derived.Deep.LoopGhost
import Derived.Deep.Slices
import Derived.Laws.AppendOwn
import Derived.Lib.Walk
import Derived.Lib.SliceRun
import Derived.Laws.CopyRow
import Derived.Laws.CopyOwn
import Derived.Laws.MakeOwn
import Derived.Laws.OwnMore
import Derived.Shelf.Abstract
import Derived.WalkSmall
import Derived.Deep.Cut
import Derived.ChangeKeysEq
import Derived.Laws.StructEq
import Derived.ArgAppend
import Derived.Deep.MidRow
import Derived.Laws.ResultCell
import Derived.OrdersHeld
namespace Go.Proofs.YtjjdljjhmcegdaaGreat
open Go.Value renaming slice→O,int→Xe,bool→Xh,agg→Xi,pointer→Xj,tuple→Xm
open Go.IntKind renaming i64→Xf,u8→Xg
open Go.Obj renaming cells→Xk
open Go.Ending renaming returned→Xl
open Go renaming World→Xn,Calls→Xp,Value→Xq
open Go.RowKit renaming Hid→Xo
open Option renaming some→Xa,none→Xb
open Bool renaming true→Xc,false→Xd
open List renaming replicate→Xr
open _root_.List renaming mem_range→Xs,mem_append→Xt,range→Xv,mem_or_eq_of_mem_set→Xw,getElem?_of_mem→Xy,mem_filter→Xz,getElem?_range→Ya,getElem?_map→Yb,mem_map→Yc,pairwise_cons→Yd,any_eq_true→Ye,flatMap_cons→Yf,all_eq_true→Yh,getElem?_replicate→Yi,append_assoc→Yj,length_cons→Yk,filter_append→Yl,length_nil→Yn,ext_getElem?→Yo,filter_cons_of_pos→Ys,length_eq_zero_iff→Yt,countP_append→Yw,length_set→Yx,nodup_append→Yy,mem_of_getLast?→Yz,cons_append→Ob,getElem?_append_left→Oc,flatMap_append→Od,nodup_cons→Oe,mem_singleton→Of,any_eq_false→Og,drop_of_length_le→Oh,mem_cons_of_mem→Oj,drop_append_of_le_length→Ok,take_append_of_le_length→Ol,nil_append→Oo,map_congr_left→Oq,take_length_add_append→Ou,drop_length_add_append→Ov,mem_replicate→Ow,take_add_one→Oy,lookup→Oz,sum_cons→Ua,length_erase_of_mem→Ub,getElem?_cons_succ→Uc,length_take→Ud,filter_cons_of_neg→Ue,pairwise_lt_range→Ug,zipWith→Uh,zipWith_cons_cons→Ui,append_nil→Uj,set_getElem_self→Um,range_eq_range'→Un,take_zero→Uo,filter_eq_self→Ur,countP_eq_zero→Us,countP_pos_iff→Ut,takeWhile_cons→Uu,dropWhile_cons→Uv,getLast?_cons→Uw,filter_filter→Ux,getElem?_drop→Uy,mem_cons_self→Uz
open Go.Region renaming wanted→Xu,ready→Uf,binds→Ga
open _root_.Bool renaming and_eq_true→Xx,false_eq_true→Yu,or_eq_true→Om,eq_iff_iff→Uk
open Go.Sem renaming run_bind→Yg,run_pure→Yq
open _root_.Array renaming getElem?_eq_getElem→Ym,getElem_modify→Up
open _root_.Nat renaming lt_or_ge→Yp,mul_le_mul_left→Yr,lt_of_lt_of_le→Yv,mul_le_mul_right→Oa,add_assoc→Oi,add_comm→Ot,add_mul→Ox,min_eq_left→Ul,zero_mul→Gb,succ_mul→Gc
open Go.Act renaming put→Gd
theorem Wm{P:Prop}(h:P:=by omega):P:=h
theorem Dc{P:Prop}(h:P:=by decide):P:=h
theorem Kr{P:Prop}(h:P:=by kernel_rfl):P:=h
theorem Sm{P:Prop}(h:P:=by simp):P:=h
theorem Gn{P:Prop}(h:P:=by go_num):P:=h
theorem Hm{P Q:Prop}(k:Q)(h:Q->P:=by intro _;omega):P:=h k
theorem Si{P Q:Prop}(k:Q)(h:Q->P:=by intro k;simpa using k):P:=h k
theorem Rr{P Q:Prop}(k:Q)(h:Q->P:=by intro k;rw[k];rfl):P:=h k
theorem Rx{E P Q:Prop}(e:E)(k:Q)(h:E->Q->P:=by intro e k;rw[e];exact k):P:=h e k
theorem Ry{E P Q:Prop}(e:E)(k:Q)(h:E->Q->P:=by intro e k;rw[<-e];exact k):P:=h e k
theorem Ge{P Q:Prop}(k:Q)(h:Q->P:=by intro k;(first|go_end0|((try simp only[Exit.inBlock,Exit.then]);refine bodyPost_ret (results_none rfl _ _ _) rfl ?_));(first|exact k|exact⟨⟨_,rfl⟩,k⟩)):P:=h k
theorem Wq(P:World->Prop):∃j:World->Prop,Go.RowKit.Hid (∀a,j a↔P a):=⟨P,fun _=>Iff.rfl⟩
section
variable{α:Type _}{P:α->Prop}{a b c d:α}
theorem Sa(h:P a):∀x∈[a],P x:=by simpa using h
theorem Sb(h:P a)(k:P b):∀x∈[a,b],P x:=by simpa using⟨h,k⟩
theorem Sc(h:P a)(k:P b)(l:P c):∀x∈[a,b,c],P x:=by simpa using⟨h,k,l⟩
theorem Sd(h:P a)(k:P b)(l:P c)(m:P d):∀x∈[a,b,c,d],P x:=by simpa using⟨h,k,l,m⟩
end
theorem dD{P:Prop}(h:P):Go.RowKit.Hid P:=h
theorem kA{α:Type}(e:α):∃x,Go.RowKit.Hid (e=x):=⟨_,rfl⟩
theorem kB{α:Type}(e:α):∃x,e=x:=⟨_,rfl⟩
theorem kE{c:Prop}{h:Decidable c}(hc:c){α:Sort _}{t e:α}:ite c t e=t:=if_pos hc
theorem kF{c:Prop}{h:Decidable c}(hc:¬c){α:Sort _}{t e:α}:ite c t e=e:=if_neg hc
theorem kC{a b:Nat}(h:a<b):(a:Int)<(b:Int):=by omega
theorem kD{a b:Nat}(h:¬a<b):¬(a:Int)<(b:Int):=by omega
theorem Uq{P Q:Prop}(k:Q)(h:Go.RowKit.Hid Q->P:=by intro h;simp only[Go.Act.put,sB,sS,sZ];exact h.out):P:=h k
theorem gE{α:Type}{l:List α}{i:Nat}(h:i<l.length):l[i]? =Xa l[i]:=List.getElem?_eq_getElem h
theorem sB{α:Type}(l:List α)(i:Nat)(a:α):l.toArray.setIfInBounds i a=(l.set i a).toArray:=List.setIfInBounds_toArray l i a
theorem gS{α:Type}{i:Nat}{a:α}{l:List α}:l[i]? =Xa a<->∃h:i<l.length,l[i]=a:=List.getElem?_eq_some_iff
theorem sZ{α:Type}{x:α}{k:List α}{a:α}:(x::k).set 0 a=a::k:=rfl
theorem sS{α:Type}{x:α}{k:List α}{i:Nat}{a:α}:(x::k).set (i+1) a=x::k.set i a:=rfl
theorem nM{α:Type}{a:α}:¬a∈([]:List α):=List.not_mem_nil
theorem mC{α:Type}{b:α}{l:List α}{a:α}:a∈b::l<->a=b\/a∈l:=List.mem_cons
theorem mG{α:Type}{l:List α}{i:Nat}{a:α}(h:l[i]? =Xa a):a∈l:=List.mem_of_getElem? h
theorem sF{α:Type}{l:List α}{i:Nat}{a:α}(h:i<l.length):(l.set i a)[i]? =Xa a:=List.getElem?_set_self h
theorem gD{α:Type}{l:List α}{i:Nat}{a:α}:l.getD i a=l[i]?.getD a:=List.getD_eq_getElem?_getD
theorem sN{α:Type}{l:List α}{i j:Nat}(h:i≠j){a:α}:(l.set i a)[j]? =l[j]?:=List.getElem?_set_ne h
theorem tN(n:Nat):(n:Int).toNat=n:=Int.toNat_natCast n
theorem lR{α:Type}{n:Nat}{a:α}:(Xr n a).length=n:=List.length_replicate
theorem pJ{α β:Type}(a:α)(b:β)(c:α)(d:β):((a,b)=(c,d))=(a=c/\b=d):=Prod.mk.injEq a b c d
theorem vJ(a n c d e f):(O a n c=O d e f)=(a=d/\n=e/\c=f):=Value.slice.injEq a n c d e f
theorem eN{α:Type}{l:List α}(h:l.length=0):l=[]:=List.eq_nil_of_length_eq_zero h
theorem aR{α:Type}{k l:List α}{i:Nat}(h:k.length<=i):(k++l)[i]? =l[i-k.length]?:=List.getElem?_append_right h
theorem gN{α:Type}{l:List α}{i:Nat}(h:l.length<=i):l[i]? =Xb:=List.getElem?_eq_none h
theorem lA{α:Type}{k l:List α}:(k++l).length=k.length+l.length:=List.length_append
theorem aS{α:Type}{i:Nat}{b:α}{k:Array α}:k[i]? =Xa b<->∃h:i<k.size,k[i]=b:=Array.getElem?_eq_some_iff
theorem bD{B:Nat}{a w:Xn}(h:Go.RowKit.Below B a w)(n:Nat):Go.RowKit.Below B a (w.drewN n):=Go.below_drewN h n
theorem nT{n m k:Nat}(h:n<=m)(g:m<=k):n<=k:=Nat.le_trans h g
theorem nR(n:Nat):n<=n:=Nat.le_refl n
theorem nZ(n:Nat):0<=n:=Nat.zero_le n
theorem nL(n:Nat):¬n<0:=Nat.not_lt_zero n
theorem mP{α β:Type}{f:α->β}{a:α}{l:List α}:(a::l).map f=f a::l.map f:=rfl
theorem rA{α β:Type}(a:α)(w:Xn)(f:α->Xn->Result β):(Result.ok a w).andThen f=f a w:=rfl
theorem zA(n:Nat):0+n=n:=Nat.zero_add n
theorem bR(B:Nat)(w:Xn):Go.RowKit.Below B w w:=Go.RowKit.Below.refl B w
theorem bS{B:Nat}{w v:Xn}(h:Go.RowKit.Below B w v):w.heap.size<=v.heap.size:=Go.RowKit.Below.size h
set_option maxRecDepth 100000
set_option maxHeartbeats 4000000
variable{A0 A1 B B0 B1 b base' id j kk:Nat} {Q:Exit->Act->Xn->Prop} {W w' w1:Xn} {a0 a1 a2 a3 a4 a5 a6 a7 a8 a9:Xq} {o oj:Oper} {ops:Array Oper} {s z:Int} {t:TypeId} {us vs xs:List Xq}
open Go.Proofs.Tryz
section
structure Pg where
 (b0 b1 b2 b3 b4 b5 b6 b7:Int)
structure Fr where
 p:Pg
 r:Int
 u:Bool
 d:Bool
 f:Int
 x:Int
def pg0:Pg:=⟨0,0,0,0,0,0,0,0⟩
def fr0:Fr:=⟨pg0,0,Xd,Xd,0,0⟩
def frF:Fr:=⟨pg0,0,Xd,Xd,-1,0⟩
def zb4 (p q:Pg):Bool:=(p.b0 == q.b0) &&(p.b1 == q.b1) &&(p.b2 == q.b2) &&(p.b3 == q.b3) &&(p.b4 == q.b4) &&(p.b5 == q.b5) &&(p.b6 == q.b6) &&(p.b7 == q.b7)
theorem zaU (p q):zb4 p q=Xc↔p=q:=by
 obtain⟨a,a,a,a,a,a,a,a⟩:=p;obtain⟨a,a,a,a,a,a,a,a⟩:=q
 simp[zb4,and_assoc]
def Qf (a b:Fr):Bool:=zb4 a.p b.p &&(a.r == b.r) &&(a.u == b.u) &&(a.d == b.d) &&(a.f == b.f) &&(a.x == b.x)
theorem zdc (a b):Qf a b=Xc↔a=b:=by
 obtain⟨p,r,u,d,f,x⟩:=a;obtain⟨c,c,c,c,c,c⟩:=b
 simp[Qf,zaU,and_assoc]
def inB (m n:Int):Bool:=decide (0<=m) && decide (m<n)
def frW (a:Fr):Int:=if(inB a.r 1001 && inB a.x 12)=Xd then 3 else if(!(a.f == -1) && !inB a.f 5)=Xc then 3 else if(a.r == 0 && !Qf a frF || a.f == -1 && !(a.x == 0))=Xc then 7 else 0
def zbU:List Fr->Int
 | []=>0
 | a :: l=>if frW a=0 then zbU l else frW a
def Zt (fs:List Fr) (h:Int):Int:=if 40<fs.length then 4 else if zbU fs=0 then(if inB h (max fs.length 1)then 0 else 3)else zbU fs
def zbN (z:Int):Bool:=decide (z<0) || decide (1000<z)
def slW (s:List Int):Int:=if 60<s.length then 4 else if s.any zbN then 3 else 0
def jn (at_:Int) (n:Nat):Bool:=decide (0<=at_) && decide (at_<n)
def zF (n:Nat) (qs:List (Int × List Int)):Int:=if 80<n then 4 else if 400<qs.length then 4 else if qs.any (fun q=>!jn q.1 n)then 3 else 0
def zk (n:Nat) (qs:List (Int × List Int)) (m:Int):Int:=if zF n qs=0 then(if jn m n then 0 else 3)else zF n qs
def zp:List Int:=[0,0,0,0,0,0,0,0]
def qv (ps:List (List Int)) (qs:List (Int × List Int)) (m:Int):List Int:=
 if zk ps.length qs m=0 then(match qs.reverse.find? (fun q=>q.1 == m)with | some q=>q.2 | none=>ps.getD m.toNat zp)else zp
structure Fl where
 size:Int
 bl:List Int
def Jn (n:Int):Int:=if n<1 then 0 else(n - 1) / 8+1
def Qe (cnt:Int) (g:List Int) (b:Int):Int:=if b=-1 then 0 else if 0<=b/\b<cnt then(if g.contains b then 7 else 0)else 3
def JP (g:List Int) (b:Int):List Int:=if b=-1 then g else b :: g
def blW (cnt:Int):List Int->List Int->Int
 | _,[]=>0
 | g,b :: l=>if Qe cnt g b=0 then blW cnt (JP g b) l else Qe cnt g b
def blG (g:List Int) (l:List Int):List Int:=l.foldl JP g
def flW (cnt:Int) (g:List Int) (f:Fl):Int:=if 0<=f.size/\f.size<=96 then(if(f.bl.length:Int)=Jn f.size then blW cnt g f.bl else 2)else 3
def zcm (cnt:Int):List Int->List Fl->Int
 | _,[]=>0
 | g,f :: l=>if flW cnt g f=0 then zcm cnt (blG g f.bl) l else flW cnt g f
def stW (fs:List Fl) (cnt:Int):Int:=if fs.length<=5/\0<=cnt/\cnt<=80 then zcm cnt [] fs else 4
def zR (fs:List Fl) (b:Int):Bool:=fs.any fun f=>f.bl.contains b
def ZR (fs:List Fl) (cnt:Int):List Nat:=(Xv cnt.toNat).filter fun b=>!zR fs (b:Int)
def zpH (l:List Int) (n:Nat):List Int:=l.take n++Xr (n - l.length) (-1)
theorem zfn {n:Int} (a:0<=n) (b:n<=96):0<=Jn n/\Jn n<=12:=by
 unfold Jn
 split <;> omega
theorem Jb (a:Int) (g:List Int) (b:Int):
  (b=-1/\Qe a g b=0/\JP g b=g)\/
  (b≠-1/\¬(0<=b/\b<a)/\Qe a g b=3)\/
  (∃i:Nat,b=(i:Int)/\b<a/\g.contains b=Xc/\Qe a g b=7)\/
  (∃i:Nat,b=(i:Int)/\b<a/\g.contains b=Xd/\Qe a g b=0/\JP g b=b :: g):=by
 by_cases c:b=-1
 ·exact .inl ⟨c,by unfold Qe;rw[kE c],by unfold JP;rw[kE c]⟩
 by_cases d:0<=b/\b<a
 ·obtain⟨i,e⟩:∃i:Nat,b=(i:Int):=⟨b.toNat,Wm⟩
  cases a:g.contains b with
  | true=>exact .inr (.inr (.inl ⟨i,e,d.2,rfl,by unfold Qe;rw[kF c,kE d,kE a]⟩))
  | false=>exact .inr (.inr (.inr ⟨i,e,d.2,rfl,by unfold Qe;rw[kF c,kE d,kF (by rw[a];decide)],by unfold JP;rw[kF c]⟩))
 exact .inr (.inl ⟨c,d,by unfold Qe;rw[kF c,kF d]⟩)
theorem zhP (a:Int) (g) (b:Int):Qe a g b=0\/Qe a g b=3\/Qe a g b=7:=by
 rcases Jb a g b with⟨_,h,_⟩|⟨_,_,h⟩|⟨_,_,_,_,h⟩|⟨_,_,_,_,h,_⟩ <;> omega
theorem zg2 (a:Int):∀(l g:List Int),blW a g l=0\/blW a g l=3\/blW a g l=7
 | [],g=> .inl rfl
 | b :: l,g=>by
  unfold blW
  split
  ·exact zg2 a l _
  exact zhP a g b
theorem zl3 (a:Int) (g f):0<=flW a g f/\flW a g f<=7:=by
 have:=zg2 a f.bl g;unfold flW
 split
 ·split <;> omega
 omega
theorem zj8 (a:Int):∀(l:List Fl) (g:List Int),0<=zcm a g l/\zcm a g l<=7
 | [],g=>by simp[zcm]
 | f :: l,g=>by
  unfold zcm
  split
  ·exact zj8 a l _
  exact zl3 a g f
def Z7 (l:List Int):List Int:=l.filter (·≠-1)
theorem ze0 (b:Int) (d:b≠-1):∀(l g:List Int),b∈blG g l↔b∈g\/b∈l
 | [],g=>by simp[blG]
 | c :: l,g=>by
  have a:=ze0 b d l (JP g c);unfold blG at a⊢;rw[List.foldl_cons,a];unfold JP
  split
  ·rename_i h
   simp;constructor
   ·rintro(h|h) <;> simp[h]
   rintro(a|a|a)
   ·exact .inl a
   ·exact absurd (a.trans h) d
   exact .inr a
  simp;constructor
  ·rintro((h|h) | h) <;> simp[h]
  rintro(h|h|h) <;> simp[h]
theorem zcp (a:Int):∀(l g:List Int),blW a g l=0↔(∀b∈l,b=-1\/(0<=b/\b<a))/\(∀b∈l,b≠-1->b∉g)/\(Z7 l).Nodup
 | [],g=>by simp[blW,Z7]
 | b :: l,g=>by
  unfold blW
  rcases Jb a g b with⟨e,d,c⟩|⟨e,d,c⟩|⟨i,e,d,c,f⟩|⟨i,e,d,c,f,j⟩
  ·rw[kE d,c,zcp a l g];subst e
   simp[Z7]
  ·rw[kF Wm,c]
   constructor
   ·intro h;omega
   rintro⟨h,_⟩
   rcases h b Sm with h|h
   ·exact absurd h e
   exact absurd h d
  ·rw[kF Wm,f]
   constructor
   ·intro h;omega
   rintro⟨_,h,_⟩;exact absurd (Si c) (h b Sm Wm)
  rw[kE f,j,zcp a l (b :: g)];have f:b≠-1:=Wm
  have m:b∉g:=Si c
  constructor
  ·rintro⟨k,j,e⟩;refine⟨fun c a=>?_,fun c a h=>?_,?_⟩
   ·rcases mC.1 a with rfl|a
    ·exact .inr ⟨Wm,d⟩
    exact k c a
   ·rcases mC.1 a with rfl|a
    ·exact m
    exact fun d=>j c a h (by simp[d])
   unfold Z7;rw[Ys (Si f)]
   refine Oe.2 ⟨fun h=>?_,e⟩
   obtain⟨d,_⟩:=Xz.1 h;exact j b d f Sm
  rintro⟨k,j,e⟩;unfold Z7 at e;rw[Ys (Si f)]at e
  obtain⟨m,n⟩:=Oe.1 e;refine⟨fun c a=>k c (by simp[a]),fun c a h d=>?_,n⟩
  rcases mC.1 d with rfl|d
  ·exact m (Xz.2 ⟨a,Si f⟩)
  exact j c (by simp[a]) h d
def zpC (cnt:Int) (f:Fl):Prop:=(0<=f.size/\f.size<=96)/\(f.bl.length:Int)=Jn f.size/\∀b∈f.bl,b=-1\/(0<=b/\b<cnt)
def Z4 (fs:List Fl):List Int:=fs.flatMap fun f=>f.bl
theorem znT (a:Int) (g) (f:Fl):flW a g f=0↔zpC a f/\(∀b∈f.bl,b≠-1->b∉g)/\(Z7 f.bl).Nodup:=by
 unfold flW zpC;constructor
 ·intro h
  split at h
  ·rename_i c
   split at h
   ·rename_i d
    have:=(zcp a f.bl g).1 h;exact⟨⟨c,d,this.1⟩,this.2⟩
   omega
  omega
 rintro⟨⟨c,d,e⟩,h⟩;rw[kE c,kE d];exact(zcp a f.bl g).2 ⟨e,h⟩
theorem zgC (a:Int):∀(fs:List Fl) (g:List Int),zcm a g fs=0↔(∀f∈fs,zpC a f)/\(∀b∈Z4 fs,b≠-1->b∉g)/\(Z7 (Z4 fs)).Nodup
 | [],g=>by simp[zcm,Z4,Z7]
 | f :: l,g=>by
  unfold zcm;have key:(flW a g f=0/\zcm a (blG g f.bl) l=0)↔(∀d∈f :: l,zpC a d)/\(∀b∈Z4 (f :: l),b≠-1->b∉g)/\(Z7 (Z4 (f :: l))).Nodup:=by
   rw[znT,zgC a l];unfold Z4 Z7;rw[Yf,Yl,Yy];constructor
   ·rintro⟨⟨i,j,n⟩,p,k,h⟩;refine⟨fun d e=>?_,fun b c a=>?_,n,h,fun m s b c=>?_⟩
    ·rcases mC.1 e with rfl|e
     ·exact i
     exact p d e
    ·rcases Xt.1 c with c|c
     ·exact j b c a
     exact fun h=>k b c a ((ze0 b a _ _).2 (.inl h))
    rintro rfl;obtain⟨q,r⟩:=Xz.1 s;obtain⟨a,_⟩:=Xz.1 c;have s:m≠-1:=Si r
    exact k m a s ((ze0 m s _ _).2 (.inr q))
   rintro⟨i,j,n,p,k⟩;refine⟨⟨i f Sm,fun b c=>j b (Xt.2 (.inl c)),n⟩,fun d e=>i d (by simp[e]),fun b c a h=>?_,p⟩
   rcases(ze0 b a _ _).1 h with h|h
   ·exact j b (Xt.2 (.inr c)) a h
   exact k b (Xz.2 ⟨h,Si a⟩) b (Xz.2 ⟨c,Si a⟩) rfl
  split
  ·rename_i h
   rw[<-key];exact⟨fun a=>⟨h,a⟩,fun a=>a.2⟩
  rename_i h
  rw[<-key];exact⟨fun a=>absurd a h,fun a=>absurd a.1 h⟩
theorem qi (fs:List Fl) (a:Int):stW fs a=0↔(fs.length<=5/\0<=a/\a<=80)/\(∀f∈fs,zpC a f)/\(Z7 (Z4 fs)).Nodup:=by
 unfold stW
 split
 ·rename_i h
  rw[zgC]
  simp[h]
 rename_i h
 simp[h]
theorem Qk (fs) (b:Int):zR fs b=Xc↔b∈Z4 fs:=by
 simp[zR,Z4]
structure En where
 kind:Int
 n:Int
 wr:Bool
def en0:En:=⟨0,0,Xd⟩
def enS (e:En):Bool:=e.kind != 0
def enW (e:En):Int:=
 if 0<=e.kind/\e.kind<=2 then
  (if 0<=e.n/\e.n<=59/\(e.kind=1->e.n<=39)then
   (if(e.kind=0/\(e.n≠0\/e.wr=Xc))\/(e.kind=2/\e.wr=Xc)then 7 else 0)
  else 3)
 else 1
def esW:List En->Int
 | []=>0
 | e :: l=>if enW e=0 then esW l else enW e
def Zn (l:List En):Bool:=l.any enS
def haW (h:List En):Int:=if h.length=0 then 0 else if h.length=8 then(if esW h=0 then(if Zn h=Xc then 0 else 2)else esW h)else 2
def tbW:List (List En)->Int
 | []=>0
 | h :: t=>if haW h=0 then tbW t else haW h
def zaC (t:List (List En)) (i k:Nat):En:=((t[i]?.getD [])[k]?).getD en0
def zeh (t:List (List En)) (n:Int):En:=if 0<=n/\n<64 then zaC t (n.toNat / 8) (n.toNat % 8)else en0
def mk (l:List En):List En:=if Zn l=Xc then l else []
def za7 (h:List En):List En:=if h.length=0 then Xr 8 en0 else h
def zkH (t:List (List En)) (n:Nat) (e:En):List (List En):=t.set (n / 8) (mk ((za7 (t[n / 8]?.getD [])).set (n % 8) e))
def zg9 (t:List (List En)) (n:Int) (e:En):Int:=if tbW t=0 then(if 0<=n/\n<64 then enW e else 3)else tbW t
def qG:List (List En):=Xr 8 []
def zhr (t:List (List En)) (n:Int) (e:En):List (List En):=if zg9 t n e=0 then zkH t n.toNat e else qG
def JT (t:List (List En)):List En:=(Xv 64).map fun j=>zaC t (j / 8) (j % 8)
def Qi (l:List En) (i:Nat):List En:=(Xv 8).map fun k=>l[8*i+k]?.getD en0
def jT (l:List En):List (List En):=(Xv 8).map fun i=>mk (Qi l i)
def jj (t:List (List En)) (f:En->Bool) (m:Nat):List Int:=((Xv m).filter fun n=>enS (zaC t (n / 8) (n % 8)) && f (zaC t (n / 8) (n % 8))).map fun(n:Nat)=>(n:Int)
theorem Qr {e:En} (h:enW e=0):(0<=e.kind/\e.kind<=2)/\(0<=e.n/\e.n<=59/\(e.kind=1->e.n<=39))/\¬((e.kind=0/\(e.n≠0\/e.wr=Xc))\/(e.kind=2/\e.wr=Xc)):=by
 unfold enW at h
 by_cases a:0<=e.kind/\e.kind<=2
 ·rw[kE a]at h
  by_cases b:0<=e.n/\e.n<=59/\(e.kind=1->e.n<=39)
  ·rw[kE b]at h
   by_cases c:(e.kind=0/\(e.n≠0\/e.wr=Xc))\/(e.kind=2/\e.wr=Xc)
   ·rw[kE c]at h;omega
   exact⟨a,b,c⟩
  rw[kF b]at h;omega
 rw[kF a]at h;omega
theorem Zy {e:En} (a:0<=e.kind/\e.kind<=2) (b:0<=e.n/\e.n<=59/\(e.kind=1->e.n<=39)) (c:¬((e.kind=0/\(e.n≠0\/e.wr=Xc))\/(e.kind=2/\e.wr=Xc))):enW e=0:=by
 unfold enW;rw[kE a,kE b,kF c]
theorem zfl:enW en0=0:=by decide
theorem zmf {e:En} (h:enW e=0) (b:enS e=Xd):e=en0:=by
 obtain⟨a,a,a⟩:=Qr h;obtain⟨k,n,w⟩:=e
 simp[enS]at b
 subst b
 simp at a
 obtain⟨rfl,b⟩:=a;cases w
 ·rfl
 simp at b
theorem ziZ {l:List En}:esW l=0↔∀e∈l,enW e=0:=by
 induction l with
 | nil=>simp[esW]
 | cons e l a=>
  unfold esW
  by_cases h:enW e=0
  ·rw[kE h,a]
   simp[h]
  rw[kF h]
  simp[h]
def zhb (h:List En):Prop:=h=[]\/(h.length=8/\(∀e∈h,enW e=0)/\Zn h=Xc)
theorem ziR {h:List En}:haW h=0↔zhb h:=by
 unfold haW zhb
 by_cases a:h.length=0
 ·rw[kE a];have:h=[]:=Yt.1 a
  simp[this]
 have d:h≠[]:=fun e=>a (Rr e)
 rw[kF a]
 by_cases c:h.length=8
 ·rw[kE c]
  by_cases a:esW h=0
  ·rw[kE a];have e:=ziZ.1 a
   by_cases b:Zn h=Xc
   ·rw[kE b]
    simp[c,b,d]
    exact e
   rw[kF b]
   simp[d,b]
  rw[kF a];simp only[a,d,false_or,false_iff];exact fun h=>a (ziZ.2 h.2.1)
 rw[kF c]
 simp[d,c]
theorem Zd {t:List (List En)}:tbW t=0↔∀h∈t,zhb h:=by
 induction t with
 | nil=>simp[tbW]
 | cons h t b=>
  unfold tbW
  by_cases a:haW h=0
  ·rw[kE a,b]
   simp[ziR.1 a]
  rw[kF a];simp only[a,mC,forall_eq_or_imp,false_iff];exact fun b=>a (ziR.2 b.1)
structure zb0 (t:List (List En)):Prop where
 len:t.length=8
 ok:∀h∈t,zhb h
theorem zb0.half {t:List (List En)} (h:zb0 t) (i:Nat):zhb (t[i]?.getD []):=by
 cases a:t[i]? with
 | none=>exact .inl rfl
 | some x=>exact h.ok x (mG a)
theorem zhb.get {h:List En} (a:zhb h) (k:Nat):enW (h[k]?.getD en0)=0:=by
 rcases a with rfl|⟨_,a,_⟩
 ·exact zfl
 cases b:h[k]? with
 | none=>exact zfl
 | some x=>exact a x (mG b)
theorem zb0.get {t:List (List En)} (h:zb0 t) (i k:Nat):enW (zaC t i k)=0:=(h.half i).get k
theorem zfh {h:List En} (a:zhb h):(za7 h).length=8:=by
 unfold za7
 rcases a with rfl|⟨a,_⟩
 ·rfl
 rw[kF Wm]
 exact a
theorem zo4 (h:List En) (a:zhb h) {k:Nat} (b:k<8):(za7 h)[k]? =Xa (h[k]?.getD en0):=by
 unfold za7
 rcases a with rfl|⟨a,_⟩
 ·rw[kE (show([]:List En).length=0 from rfl),Yi,kE b]
  rfl
 rw[kF Wm,gE Wm]
 rfl
theorem znM (h:List En) (k:Nat):(za7 h)[k]?.getD en0=h[k]?.getD en0:=by
 unfold za7
 by_cases a:h.length=0
 ·rw[kE a];have:h=[]:=Yt.1 a;subst this;rw[Yi]
  split <;> rfl
 rw[kF a]
theorem zoi (l:List En) (b:∀e∈l,enW e=0) (k:Nat):(mk l)[k]?.getD en0=l[k]?.getD en0:=by
 unfold mk
 by_cases h:Zn l=Xc
 ·rw[kE h]
 rw[kF h]
 cases c:l[k]? with
 | none=>simp
 | some x=>
  have a:=mG c;have:enS x=Xd:=by
   cases c:enS x with
   | false=>rfl
   | true=>exact absurd (Ye.2 ⟨x,a,c⟩) h
  simp[zmf (b x a) this]
theorem zpP {l:List En} (a:l.length=8) (b:∀e∈l,enW e=0):zhb (mk l):=by
 unfold mk
 by_cases h:Zn l=Xc
 ·rw[kE h];exact .inr ⟨a,b,h⟩
 rw[kF h];exact .inl rfl
theorem zoS {h:List En} (a:zhb h):mk (za7 h)=h:=by
 unfold mk za7
 rcases a with rfl|⟨a,_,a⟩
 ·rfl
 rw[kF (show¬h.length=0 by omega),kE a]
theorem zei {h:List En} (b:zhb h):∀e∈za7 h,enW e=0:=fun e a=>by
 unfold za7 at a
 rcases b with rfl|⟨b,b,_⟩
 ·simp at a
  rw[a];exact zfl
 rw[kF Wm]at a
 exact b e a
theorem zfV {l:List En} {k:Nat} {e:En} (b:∀x∈l,enW x=0) (a:enW e=0):∀x∈l.set k e,enW x=0:=fun x c=>by
 rcases Xw c with h|h
 ·exact b x h
 rw[h];exact a
theorem zoL {t:List (List En)} (h:zb0 t) {n:Nat} {e:En} (b:enW e=0):zb0 (zkH t n e):=by
 refine⟨by simp[zkH,h.len],fun x a=>?_⟩
 rcases Xw a with a|a
 ·exact h.ok x a
 rw[a];have a:=h.half (n / 8);exact zpP (by rw[Yx];exact zfh a) (zfV (zei a) b)
theorem znL {t:List (List En)} (h:zb0 t) {n:Nat} (b:n<64) {e:En} (a:enW e=0) (i k:Nat) (d:k<8):zaC (zkH t n e) i k=if i=n / 8/\k=n % 8 then e else zaC t i k:=by
 unfold zaC zkH;have c:=h.half (n / 8)
 by_cases b:i=n / 8
 ·subst b;rw[sF (by rw[h.len];omega)]
  simp only[Option.getD_some];rw[zoi _ (zfV (zei c) a)]
  by_cases a:k=n % 8
  ·subst a;rw[sF (by rw[zfh c];exact d)]
   simp
  rw[sN (fun h=>a h.symm),kF (fun h=>a h.2)]
  exact znM _ k
 rw[sN (fun h=>b h.symm),kF (fun h=>b h.1)]
theorem zgE (t:List (List En)):(JT t).length=64:=by simp[JT]
theorem zcn (t:List (List En)) (a:j<64):(JT t)[j]? =Xa (zaC t (j / 8) (j % 8)):=by
 unfold JT;rw[Yb,Ya a];rfl
theorem zkv {l:List En} {h:List En} (b:zhb h) {i:Nat} (c:∀k,k<8->l[8*i+k]? =Xa (h[k]?.getD en0)):Qi l i=za7 h:=by
 apply Yo
 intro k
 by_cases a:k<8
 ·unfold Qi;rw[Yb,Ya a,zo4 h b a]
  simp[c k a]
 rw[gN (by simp[Qi];omega),gN (by rw[zfh b];omega)]
theorem zjn {l:List En} {t:List (List En)} (h:zb0 t) (c:∀j,j<64->l[j]? =Xa (zaC t (j / 8) (j % 8))):jT l=t:=by
 apply Yo
 intro i
 by_cases a:i<8
 ·unfold jT;rw[Yb,Ya a];obtain⟨x,b⟩:∃x,t[i]? =Xa x:=⟨_,gE (by rw[h.len];omega)⟩
  have a:=h.half i;rw[b]at a⊢;simp only[Option.getD_some]at a;have:Qi l i=za7 x:=zkv a (fun k d=>by
   rw[c _ Wm,show(8*i+k) / 8=i by omega,show(8*i+k) % 8=k by omega]
   unfold zaC;rw[b]
   rfl)
  simp[this,zoS a]
 rw[gN (by simp[jT];omega),gN (by rw[h.len];omega)]
theorem JF (t:List (List En)) (f:En->Bool) (m:Nat):jj t f (m+1)=if enS (zaC t (m / 8) (m % 8)) && f (zaC t (m / 8) (m % 8))then jj t f m++ [(m:Int)]else jj t f m:=by
 unfold jj;rw[List.range_succ,Yl,List.map_append]
 split
 ·rename_i h
  simp[h]
 rename_i h
 simp[h]
theorem zau (t:List (List En)) (f:En->Bool):∀m,(jj t f m).length<=m
 | 0=>by simp[jj]
 | m+1=>by
  rw[JF];have:=zau t f m
  split
  ·simp;omega
  omega
structure Ar where
 fr:Int
 tz:Int
 rd:Bool
 wr:Bool
 sh:Bool
 file:Int
 base:Int
structure On where
 is:Bool
 rd:Bool
 wr:Bool
 sh:Bool
 file:Int
 page:Int
def on0:On:=⟨Xd,Xd,Xd,Xd,0,0⟩
def ar0:Ar:=⟨0,0,Xd,Xd,Xd,0,0⟩
def jQ (a:Ar):Prop:=0<=a.fr/\a.fr<a.tz/\a.tz<=64/\-1<=a.file/\a.file<5/\0<=a.base/\(a.file<0->a.base=0/\a.sh=Xd)/\(0<=a.file->a.base<=12 -(a.tz - a.fr))
def arW (a:Ar):Int:=
 if a.fr<0\/a.tz<=a.fr\/64<a.tz\/a.file< -1\/5<=a.file\/a.base<0 then 3
 else if a.file<0 then(if a.base≠0\/a.sh=Xc then 7 else 0)
 else if 12 -(a.tz - a.fr)<a.base then 7 else 0
theorem ZG {a:Ar}:arW a=0↔jQ a:=by
 unfold arW jQ;obtain⟨k,r,q,wr,j,b,e⟩:=a;simp only;constructor
 ·intro h
  (repeat' split at h) <;> first | omega | skip
  rename_i g i d
  cases j
  ·simp at d⊢
   omega
  simp at d
 intro⟨g,i,d,l,m,n,f,p⟩;rw[kF Wm]
 by_cases c:b<0
 ·rw[kE c,kF (by rintro(h | h);exact h (f c).1;rw[(f c).2]at h;cases h)]
 rw[kF c,kF Wm]
def goB (a b:Ar):Bool:=decide (a.fr=b.tz) &&(a.rd == b.rd) &&(a.wr == b.wr) &&(a.sh == b.sh) && decide (a.file=b.file) && decide (a.base=if 0<=b.file then b.base+(b.tz - b.fr)else b.base)
theorem zc9 {a b:Ar}:goB a b=Xc↔a.fr=b.tz/\a.rd=b.rd/\a.wr=b.wr/\a.sh=b.sh/\a.file=b.file/\a.base=if 0<=b.file then b.base+(b.tz - b.fr)else b.base:=by
 simp[goB,and_assoc]
def zpv (b a:Ar):Prop:=b.tz<=a.fr/\goB a b=Xd
def Qa:Option Ar->List Ar->Prop
 | _,[]=>True
 | p,a :: l=>jQ a/\(∀b,p=Xa b->zpv b a)/\Qa (Xa a) l
def jX (a:Ar) (n:Nat):Bool:=decide (a.fr<=(n:Int)) && decide ((n:Int)<a.tz)
theorem z5 {a:Ar} {n:Nat}:jX a n=Xc↔a.fr<=(n:Int)/\(n:Int)<a.tz:=by simp[jX]
theorem zdw {a:Ar} {n:Nat} (h:¬(a.fr<=(n:Int)/\(n:Int)<a.tz)):jX a n=Xd:=by
 cases b:jX a n with
 | false=>rfl
 | true=>exact absurd (z5.1 b) h
def qw (a:Ar) (n:Nat):On:=⟨Xc,a.rd,a.wr,a.sh,a.file,if 0<=a.file then a.base+((n:Int) - a.fr)else 0⟩
def zB:List Ar->Nat->On
 | [],_=>on0
 | a :: l,n=>if jX a n=Xc then qw a n else zB l n
def zal (n:Nat) (x:On):Ar:=if x.is=Xc then⟨n,n+1,x.rd,x.wr,x.sh,x.file,x.page⟩else ar0
theorem Qa.low:∀{l:List Ar} {p:Option Ar} {a:Ar} {n:Nat},Qa p l->p=Xa a->(n:Int)<a.tz->zB l n=on0
 | [],_,_,_,_,_,_=>rfl
 | b :: l,p,a,n,h,hp,c=>by
  have c:=h.2.1 a hp;have d:=h.1;unfold zpv at c;unfold jQ at d;unfold zB;rw[kF (by rw[z5];omega)]
  exact h.2.2.low rfl Wm
theorem Qa.head {l:List Ar} {p:Option Ar} {a:Ar} {n:Nat} (h:Qa p (a :: l)) (b:(n:Int)<a.fr):zB (a :: l) n=on0:=by
 have b:=h.1;unfold jQ at b;unfold zB;rw[kF (by rw[z5];omega)]
 exact h.2.2.low rfl Wm
theorem Q1 {a:Ar} {l:List Ar} {n:Nat} (h:a.fr<=(n:Int)) (b:(n:Int)<a.tz):zB (a :: l) n=qw a n:=by
 unfold zB;rw[kE (by rw[z5];omega)]
theorem zaV {a:Ar} {l:List Ar} {n:Nat} (h:(n:Int)<a.fr\/a.tz<=(n:Int)):zB (a :: l) n=zB l n:=by
 rw[zB,kF (by rw[z5];omega)]
theorem ziH (a) (n:Nat):(qw a n).is=Xc:=rfl
theorem zga {a:Ar} {n:Nat} (h:qw a n=on0):False:=by
 have:=congrArg On.is h
 simp[on0,qw]at this
theorem Qa.next {l:List Ar} {a b:Ar} {n:Nat} (h:Qa (Xa a) l) (e:(n:Int)=a.tz) (d:zB l n=qw b n):∃c m,l=c :: m/\c.fr=(n:Int)/\qw c n=qw b n/\zpv a c:=by
 cases l with
 | nil=>exact(zga d.symm).elim
 | cons c m=>
  have e:=h.2.1 a rfl;have f:=h.1;unfold jQ at f
  by_cases f:(n:Int)<c.fr
  ·rw[h.head f]at d;exact(zga d.symm).elim
  have:c.fr=(n:Int):=by unfold zpv at e;omega
  rw[Q1 Wm Wm]at d
  exact⟨c,m,rfl,this,d,e⟩
theorem ziI {a b:Ar} {n:Nat} (h:qw a n=qw b n):a.rd=b.rd/\a.wr=b.wr/\a.sh=b.sh/\a.file=b.file/\(0<=a.file->a.base+((n:Int) - a.fr)=b.base+((n:Int) - b.fr)):=by
 unfold qw at h;simp only[On.mk.injEq,true_and]at h;obtain⟨d,e,f,g,c⟩:=h;refine⟨d,e,f,g,fun d=>?_⟩
 rw[kE d,kE Wm]at c
 exact c
theorem zom {p:Option Ar} {l m:List Ar} {a b:Ar} (d:Qa p (a :: l)) (g:Qa p (b :: m)) (h:∀n:Nat,n<64->zB (a :: l) n=zB (b :: m) n) (e:a.fr=b.fr) (c:a.rd=b.rd/\a.wr=b.wr/\a.sh=b.sh/\a.file=b.file/\a.base=b.base):¬a.tz<b.tz:=by
 intro e;have e:=d.1;have f:=g.1;unfold jQ at e f;obtain⟨n,g⟩:∃n:Nat,(n:Int)=a.tz:=⟨a.tz.toNat,Wm⟩
 have e:=h n Wm
 rw[zaV Wm,Q1 (a:=b) Wm Wm]at e
 obtain⟨f,k,rfl,h,i,j⟩:=d.2.2.next g e;obtain⟨e,g,h,k,k⟩:=ziI i;have i:=d.2.2.1;unfold jQ at i;have:goB f a=Xc:=by
  rw[zc9];refine⟨Wm,by rw[e,c.1],by rw[g,c.2.1],by rw[h,c.2.2.1],Wm,?_⟩
  split <;> omega
 rw[j.2]at this;cases this
theorem zh9:∀{l m:List Ar} {p:Option Ar},Qa p l->Qa p m->(∀n:Nat,n<64->zB l n=zB m n)->l=m
 | [],[],_,_,_,_=>rfl
 | [],b :: m,_,_,f,d=>by
  have g:=f.1;unfold jQ at g;have:=d b.fr.toNat Wm
  rw[Q1 (a:=b) Wm Wm]at this
  exact(zga this.symm).elim
 | c :: l,[],_,e,_,d=>by
  have g:=e.1;unfold jQ at g;have:=d c.fr.toNat Wm
  rw[Q1 (a:=c) Wm Wm]at this
  exact(zga this).elim
 | c :: l,b :: m,p,e,f,d=>by
  have y:=e.1;have g:=f.1;unfold jQ at y g;have s:c.fr=b.fr:=by
   rcases Int.lt_trichotomy c.fr b.fr with h|h|h
   ·have:=d c.fr.toNat Wm
    rw[Q1 (a:=c) Wm Wm,f.head Wm]at this
    exact(zga this).elim
   ·exact h
   have:=d b.fr.toNat Wm
   rw[Q1 (a:=b) Wm Wm,e.head Wm]at this
   exact(zga this.symm).elim
  have v:=d c.fr.toNat Wm
  rw[Q1 (a:=c) Wm Wm,Q1 (a:=b) Wm Wm]at v
  obtain⟨i,j,k,q,x⟩:=ziI v;have r:c.base=b.base:=by
   rcases Int.lt_or_le c.file 0 with h|h
   ·omega
   have:=x h;omega
  have w:c.tz=b.tz:=by
   have z:=zom e f d s ⟨i,j,k,q,r⟩;have A:=zom f e (fun n u=>(d n u).symm) s.symm ⟨i.symm,j.symm,k.symm,q.symm,r.symm⟩
   omega
  have t:c=b:=by
   obtain⟨_,_,_,_,_,_,_⟩:=c;obtain⟨_,_,_,_,_,_,_⟩:=b;simp only at s w i j k q r;subst s w i j k q r;rfl
  subst t;have:l=m:=zh9 e.2.2 f.2.2 fun n u=>by
   by_cases h:(n:Int)<c.tz
   ·rw[e.2.2.low rfl h,f.2.2.low rfl h]
   have:=d n u;rw[zaV Wm,zaV Wm]at this
   exact this
  rw[this]
def JK (p:Option Ar) (l:List Ar):Option Ar:=match l.getLast? with | some b=>Xa b | none=>p
theorem zbB (p:Option Ar) (a l):JK p (a :: l)=JK (Xa a) l:=by
 unfold JK
 cases l with
 | nil=>simp
 | cons b m=>simp[Uw]
theorem JX {x:Ar}:∀{l:List Ar} {p:Option Ar},Qa p (l++ [x])↔Qa p l/\jQ x/\∀b,JK p l=Xa b->zpv b x
 | [],p=>by simp[Qa,JK]
 | a :: l,p=>by
  simp only[Ob,Qa,zbB,JX (l:=l) (p:=some a),and_assoc]
theorem JH {x:Ar} {n:Nat}:∀{l:List Ar},zB l n=on0\/jX x n=Xd->zB (l++ [x]) n=if jX x n=Xc then qw x n else zB l n
 | [],_=>by simp[zB]
 | a :: l,h=>by
  simp only[Ob,zB]
  by_cases b:jX a n=Xc
  ·rcases h with h|h
   ·rw[zB,kE b]at h;exact(zga h).elim
   simp[b,h]
  rw[kF b,kF b];exact JH (h.imp (fun h=>by rwa [zB,kF b]at h) id)
theorem zaW {n:Nat}:∀{l:List Ar},(∀a∈l,jX a n=Xd)->zB l n=on0
 | [],_=>rfl
 | a :: l,h=>by
  rw[zB,kF (by rw[h a Sm];simp)]
  exact zaW fun b c=>h b (by simp[c])
theorem ZQ {n:Nat}:∀{l:List Ar},(zB l n).is=Xc->∃(i:Nat) (a:Ar),l[i]? =Xa a/\jX a n=Xc/\zB l n=qw a n
 | [],h=>by cases h
 | a :: l,h=>by
  by_cases c:jX a n=Xc
  ·exact⟨0,a,rfl,c,by rw[zB,kE c]⟩
  rw[zB,kF c]at h;obtain⟨i,b,d,e,f⟩:=ZQ h;exact⟨i+1,b,d,e,by rw[zB,kF c,f]⟩
theorem zeV {n:Nat}:∀{l:List Ar},(zB l n).is=Xd->zB l n=on0
 | [],_=>rfl
 | a :: l,h=>by
  by_cases b:jX a n=Xc
  ·rw[zB,kE b]at h;cases h
  rw[zB,kF b]at h⊢;exact zeV h
theorem Qa.all {l:List Ar}:∀{p:Option Ar},Qa p l->∀a∈l,jQ a:=by
 induction l with
 | nil=>intro p _ a b;cases b
 | cons b l c=>
  intro p h x b
  rcases mC.1 b with e|b
  ·rw[e];exact h.1
  exact c h.2.2 _ b
def zip (f:Nat->On):Prop:=∀k:Nat,k<64->((f k).is=Xd->f k=on0)/\((f k).is=Xc->jQ (zal k (f k)))
theorem J8 {a:Ar} {n:Nat} (h:jQ a) (b:jX a n=Xc):jQ (zal n (qw a n)):=by
 have:=z5.1 b;unfold jQ at h⊢;unfold zal;rw[kE (ziH a n)];unfold qw;refine⟨Sm,by simp;omega,by simp;omega,h.2.2.2.1,h.2.2.2.2.1,?_,fun b=>⟨?_,(h.2.2.2.2.2.2.1 b).2⟩,fun b=>?_⟩
 ·simp only
  split <;> omega
 ·simp only at b⊢;rw[kF Wm]
 simp only at b⊢;rw[kE b];omega
theorem Qa.good {l:List Ar} {p:Option Ar} (h:Qa p l):zip (zB l):=fun k _=>⟨zeV,fun b=>by
 obtain⟨i,a,c,d,e⟩:=ZQ b;rw[e];exact J8 (h.all a (mG c)) d⟩
def J (f:Nat->On) (n:Nat) (acc:List Ar):Prop:=Qa Xb acc/\(∀a∈acc,a.tz<=(n:Int))/\∀k:Nat,zB acc k=if k<n then f k else on0
theorem J.zero (f:Nat->On):J f 0 []:=⟨trivial,Sm,fun k=>by simp[zB]⟩
theorem J.skip {f:Nat->On} {n:Nat} {a:List Ar} (h:J f n a) (b:f n=on0):J f (n+1) a:=by
 refine⟨h.1,fun a c=>Hm (h.2.1 a c),fun k=>?_⟩
 rw[h.2.2 k]
 by_cases a:k<n
 ·rw[kE a,kE Wm]
 rw[kF a]
 by_cases a:k=n
 ·subst a;rw[kE Wm,b]
 rw[kF Wm]
theorem zod (n:Nat) (x:On) (h:x.is=Xc) (hp:x.file<0->x.page=0):qw (zal n x) n=x:=by
 unfold zal;rw[kE h];unfold qw;obtain⟨_,_,_,_,_,_⟩:=x;simp only at h hp⊢;subst h;simp only[On.mk.injEq,true_and]
 split
 ·omega
 exact(hp Wm).symm
theorem zii {n k:Nat} {x:On} (h:x.is=Xc):jX (zal n x) k=Xc↔k=n:=by
 rw[z5];unfold zal;rw[kE h];simp only;omega
theorem J.new {f:Nat->On} {n:Nat} {a:List Ar} (h:J f n a) (e:zip f) (g:n<64) (d:(f n).is=Xc) (l:∀b,a.getLast? =Xa b->goB (zal n (f n)) b=Xd):J f (n+1) (a++ [zal n (f n)]):=by
 have c:=(e n g).2 d;have g:qw (zal n (f n)) n=f n:=zod n _ d fun e=>by
  unfold jQ zal at c;rw[kE d]at c;exact(c.2.2.2.2.2.2.1 e).1
 refine⟨JX.2 ⟨h.1,c,fun b i=>?_⟩,fun j c=>?_,fun k=>?_⟩
 ·have e:a.getLast? =Xa b:=by
   unfold JK at i
   split at i
   ·rename_i a;rw[a];exact i
   cases i
  refine⟨?_,l b e⟩;have:=h.2.1 b (Yz e);unfold zal;rw[kE d];exact this
 ·rcases Xt.1 c with c|c
  ·have:=h.2.1 j c;omega
  rw[Of]at c;subst c;unfold zal;rw[kE d];simp
 have a:=h.2.2 k;rw[JH]
 ·by_cases e:k=n
  ·subst e;rw[kE ((zii d).2 rfl),kE Wm,g]
  rw[kF (fun c=>e ((zii d).1 c)),a]
  by_cases c:k<n
  ·rw[kE c,kE Wm]
  rw[kF c,kF Wm]
 by_cases e:k=n
 ·left;rw[a,kF Wm]
 right
 cases a:jX (zal n (f n)) k with
 | false=>rfl
 | true=>exact absurd ((zii d).1 a) e
theorem J.ext {f:Nat->On} {n:Nat} {i:List Ar} {b:Ar} (j:J f n (i++ [b])) (a:zip f) (e:n<64) (p:(f n).is=Xc) (d:goB (zal n (f n)) b=Xc):J f (n+1) (i++ [{ b with tz:=(n:Int)+1 }]):=by
 have c:=(a n e).2 p;obtain⟨a,E,F⟩:=j;obtain⟨A,e,z⟩:=JX.1 a;have a:=zc9.1 d;unfold zal at a c;rw[kE p]at a c;simp only at a;obtain⟨d,t,u,v,w,r⟩:=a;have q:=e;unfold jQ at q c;simp only at c;have g:∀k:Nat,b.fr<=(k:Int)->zB i k=on0:=fun k m=>by
  refine zaW fun s e=>zdw ?_
  have:s.tz<=b.fr:=by
   have l:∀(a:List Ar) (h:Option Ar),Qa h a->∀x∈a,∀y,JK h a=Xa y->x.tz<=y.tz:=by
    intro a
    induction a with
    | nil=>intro h _ x d;cases d
    | cons D C B=>
     intro h a x d y h;rw[zbB]at h
     rcases mC.1 d with rfl|d
     ·cases C with
      | nil=>simp[JK]at h;subst h;exact Int.le_refl _
      | cons C G=>
       have G:=B (Xa x) a.2.2 C Sm y h
       have C:=a.2.2.2.1 x rfl;have H:=a.2.2.1;unfold zpv at C;unfold jQ at H;omega
     exact B (Xa D) a.2.2 x d y h
   cases a:JK Xb i with
   | none=>
    unfold JK at a
    cases i with
    | nil=>cases e
    | cons _ _=>simp[Uw]at a
   | some y=>
    have G:=l i Xb A s e y a;have C:=(z y a).1;omega
  omega
 refine⟨JX.2 ⟨A,?_,fun y h=>?_⟩,fun s e=>?_,fun k=>?_⟩
 ·unfold jQ;simp only;refine⟨Wm,Wm,Wm,Wm,Wm,Wm,fun j=>q.2.2.2.2.2.2.1 j,fun j=>?_⟩
  rw[kE j]at r;omega
 ·exact⟨(z y h).1,(z y h).2⟩
 ·rcases Xt.1 e with e|e
  ·have:=E s (by simp[e]);omega
  rw[Of]at e;subst e;simp
 have a:=F k;rw[JH (by
  by_cases m:b.fr<=(k:Int)
  ·exact .inl (g k m)
  exact .inr (zdw Wm))]at a
 rw[JH (by
  by_cases m:b.fr<=(k:Int)
  ·exact .inl (g k m)
  exact .inr (zdw (by simp only;omega)))]
 by_cases m:k=n
 ·subst m;rw[kE (by rw[z5];simp only;omega),kE Wm]
  unfold qw;simp only;have d:=c.2.2.2.2.2.2.1
  revert p t u v w r d
  generalize f k=x
  obtain⟨_,_,_,_,_,_⟩:=x;intro p t u v w r d;simp only at p t u v w r d⊢;subst p t u v;simp only[On.mk.injEq,true_and];refine⟨w.symm,?_⟩
  split
  ·rename_i j;rw[kE j]at r;omega
  exact(d Wm).1.symm
 have c:jX { b with tz:=(n:Int)+1 } k=jX b k:=by
  unfold jX;simp only
  congr 1
  apply decide_eq_decide.2
  omega
 rw[c];have c:qw { b with tz:=(n:Int)+1 } k=qw b k:=rfl;rw[c,a]
 by_cases a:k<n
 ·rw[kE a,kE Wm]
 rw[kF a,kF Wm]
def ze5 (f:Nat->On):Nat->List Ar
 | 0=>[]
 | n+1=>
  if(f n).is=Xc then
   match(ze5 f n).getLast? with
   | some b=>if goB (zal n (f n)) b=Xc then(ze5 f n).dropLast++ [{ b with tz:=(n:Int)+1 }]else ze5 f n++ [zal n (f n)]
   | none=>ze5 f n++ [zal n (f n)]
  else ze5 f n
theorem zhq {l:List Ar} {b:Ar} (h:l.getLast? =Xa b):l=l.dropLast++ [b]:=by
 cases l with
 | nil=>cases h
 | cons a m=>
  rw[List.getLast?_eq_some_getLast (List.cons_ne_nil a m)]at h;cases h;exact(List.dropLast_concat_getLast _).symm
theorem zlD {f:Nat->On} (c:zip f):∀n:Nat,n<=64->J f n (ze5 f n)
 | 0,_=>J.zero f
 | n+1,a=>by
  have d:=zlD c n Wm
  unfold ze5
  by_cases b:(f n).is=Xc
  ·rw[kE b]
   cases e:(ze5 f n).getLast? with
   | none=>exact d.new c Wm b (fun g a=>by rw[e]at a;cases a)
   | some g=>
    simp only
    by_cases a:goB (zal n (f n)) g=Xc
    ·rw[kE a];rw[zhq e]at d;exact d.ext c Wm b a
    rw[kF a];refine d.new c Wm b (fun g g=>?_)
    rw[e]at g;cases g
    simpa using a
  rw[kF b];exact d.skip ((c n Wm).1 (Si b))
def ZX (f:Nat->On):List Ar:=ze5 f 64
theorem zc1 {f:Nat->On} (a:zip f):J f 64 (ZX f):=zlD a 64 (nR _)
theorem J.all {f:Nat->On} {a:List Ar} (h:J f 64 a) (b:zip f):a=ZX f:=
 zh9 h.1 (zc1 b).1 fun n _=>by rw[h.2.2,(zc1 b).2.2]
theorem zgq {f:Nat->On} (a:zip f):Qa Xb (ZX f):=(zc1 a).1
theorem ze6 {f:Nat->On} (a:zip f) {k:Nat} (b:k<64):zB (ZX f) k=f k:=by rw[(zc1 a).2.2,kE b]
theorem ziO {f:Nat->On} {l:List Ar} (a:zip f) (b:Qa Xb l) (c:∀k,k<64->f k=zB l k):ZX f=l:=
 zh9 (zgq a) b fun n b=>by rw[ze6 a b,c n b]
theorem J.len {f:Nat->On} {n:Nat} {a:List Ar} (i:J f n a):a.length<=n:=by
 have h:∀(l:List Ar) (p:Option Ar) (c:Int),Qa p l->(∀b,p=Xa b->c<=b.tz)->(p=Xb->c<=0)->(∀d∈l,d.tz<=(n:Int))->c<=n->c+l.length<=n:=by
  intro l
  induction l with
  | nil=>intro p c _ _ _ _ k;simpa using k
  | cons d l m=>
   intro p c e l g j k;have k:=e.1;unfold jQ at k;have k:c<=d.fr:=by
    cases p with
    | none=>have:=g rfl;omega
    | some b=>have:=l b rfl;have:=(e.2.1 b rfl).1;omega
   have g:=m (Xa d) (c+1) e.2.2 (fun b c=>by cases c;omega) (fun c=>by cases c) (fun x e=>j x (by simp[e])) (Hm (j d Sm))
   rw[Yk];omega
 have:=h a Xb 0 i.1 (fun b c=>by cases c) (fun _=>Wm) i.2.1 Wm
 omega
def goJ (x y:On):Bool:=y.is == x.is && y.rd == x.rd && y.wr == x.wr && y.sh == x.sh && decide (y.file=x.file) && decide ((if 0<=x.file then y.page+1 else y.page)=x.page)
theorem zlP {x y:On}:goJ x y=Xc↔y.is=x.is/\y.rd=x.rd/\y.wr=x.wr/\y.sh=x.sh/\y.file=x.file/\(if 0<=x.file then y.page+1 else y.page)=x.page:=by
 simp[goJ,and_assoc]
theorem ze4:∀(l:List Ar) (p:Option Ar),Qa p l->∀x∈l,∀y,JK p l=Xa y->x=y\/x.tz<=y.fr
 | [],_,_,_,a,_,_=>by cases a
 | c :: m,p,f,x,a,y,b=>by
  rw[zbB]at b
  rcases mC.1 a with e|a
  ·cases m with
   | nil=>simp[JK]at b;left;rw[e,b]
   | cons d g=>
    right;have h:=f.2.2.2.1 c rfl;have i:=f.2.2.1;unfold zpv at h;unfold jQ at i;rw[e]
    rcases ze4 (d :: g) (Xa c) f.2.2 d Sm y b with g|g
    ·rw[<-g];exact h.1
    omega
  exact ze4 m (Xa c) f.2.2 x a y b
theorem J.last {f:Nat->On} {n:Nat} {a:List Ar} (h:J f (n+1) a) (i:(f n).is=Xc):∃b,a.getLast? =Xa b/\b.tz=(n:Int)+1/\f n=qw b n/\jQ b:=by
 have g:=h.2.2 n;rw[kE Wm]at g
 obtain⟨c,c,e,d,k⟩:=ZQ (l:=a) (n:=n) (Rx g i)
 have i:=z5.1 d;have d:=mG e;have e:=h.2.1 c d;have j:c.tz=(n:Int)+1:=Wm
 cases e:a.getLast? with
 | none=>rw[List.getLast?_eq_none_iff]at e;rw[e]at d;cases d
 | some y=>
  have m:JK Xb a=Xa y:=by unfold JK;rw[e]
  have i:c=y:=by
   rcases ze4 a Xb h.1 c d y m with q|q
   ·exact q
   have a:=h.1.all y (Yz e);have m:=h.2.1 y (Yz e);unfold jQ at a;omega
  subst i;exact⟨c,rfl,j,by rw[<-g,k],h.1.all c d⟩
theorem J.go {f:Nat->On} {n:Nat} {c:List Ar} (i:J f (n+1) c) (l:(f (n+1)).is=Xc):(goJ (f (n+1)) (f n)=Xc->∃b,c.getLast? =Xa b/\goB (zal (n+1) (f (n+1))) b=Xc)/\(goJ (f (n+1)) (f n)=Xd->∀b,c.getLast? =Xa b->goB (zal (n+1) (f (n+1))) b=Xd):=by
 constructor
 ·intro k;obtain⟨p,e,g,h,a,d⟩:=zlP.1 k;obtain⟨b,j,v,m,q⟩:=i.last (Rx p l)
  refine⟨b,j,zc9.2 ?_⟩;unfold zal;rw[kE l];rw[m]at e g h a d;unfold qw at e g h a d;unfold jQ at q;simp only at e g h a d⊢;refine⟨Wm,e.symm,g.symm,h.symm,a.symm,?_⟩
  rw[<-a]at d
  by_cases a:0<=b.file
  ·rw[kE a,kE a]at d;rw[kE a];omega
  rw[kF a,kF a]at d;rw[kF a];omega
 intro k b r
 cases e:goB (zal (n+1) (f (n+1))) b with
 | false=>rfl
 | true=>
  exfalso;have d:=zc9.1 e;unfold zal at d;rw[kE l]at d;simp only at d;obtain⟨e,y,z,A,s,t⟩:=d;have d:=Yz r;have g:=i.1.all b d;have e:=g;unfold jQ at e;have h:(f n).is=Xc:=by
   have p:=i.2.2 n;rw[kE Wm]at p
   cases w:(f n).is with
   | true=>rfl
   | false=>
    exfalso;have:∀(e:List Ar),b∈e->(zB e n).is=Xc:=by
     intro e
     induction e with
     | nil=>intro e;cases e
     | cons u g x=>
      intro e
      by_cases g:jX u n=Xc
      ·rw[zB,kE g];rfl
      rw[zB,kF g]
      rcases mC.1 e with u|e
      ·subst u;exact absurd (z5.2 Wm) g
      exact x e
    have:=this c d;rw[p,w]at this;cases this
  obtain⟨c,j,v,m,q⟩:=i.last h;rw[r]at j;cases j;have:goJ (f (n+1)) (f n)=Xc:=by
   rw[zlP,m];unfold qw;simp only;refine⟨l.symm,y.symm,z.symm,A.symm,s.symm,?_⟩;rw[s]
   by_cases a:0<=b.file
   ·rw[kE a]at t;rw[kE a,kE a];omega
   rw[kF a]at t;rw[kF a,kF a];omega
  rw[this]at k;cases k
theorem J.first {f:Nat->On} {a:List Ar} (h:J f 0 a):a=[]:=Yt.1 (Hm h.len)
def zbl:Option Ar->List Ar->Nat->Int × Int
 | _,[],_=>(0,0)
 | p,a :: l,i=>
  if arW a≠0 then(arW a,i)
  else match p with
   | some b=>if a.fr<b.tz\/goB a b=Xc then(2,i)else zbl (Xa a) l (i+1)
   | none=>zbl (Xa a) l (i+1)
def wrL (l:List Ar):Int × Int:=if 16<l.length then(4,0)else zbl Xb l 0
theorem zcw:∀{l:List Ar} {p:Option Ar} {i:Nat},(zbl p l i).1=0↔Qa p l
 | [],p,i=>by simp[zbl,Qa]
 | a :: l,p,i=>by
  unfold zbl Qa
  by_cases h:arW a=0
  ·rw[kF (fun c=>c h)]
   cases p with
   | none=>simp[zcw (l:=l),ZG.1 h]
   | some b=>
    simp only
    by_cases c:a.fr<b.tz\/goB a b=Xc
    ·rw[kE c];simp only[Option.some.injEq,forall_eq'];constructor
     ·intro d;exact absurd d Dc
     rintro⟨_,⟨d,e⟩,_⟩
     rcases c with c|c
     ·omega
     rw[e]at c;cases c
    rw[kF c,zcw];simp only[Option.some.injEq,forall_eq',ZG.1 h,true_and];constructor
    ·intro d;exact⟨⟨Wm,by cases e:goB a b with | false=>rfl | true=>exact absurd (.inr e) c⟩,d⟩
    exact fun d=>d.2
  rw[kE h];constructor
  ·intro c;exact absurd c h
  intro c;exact absurd (ZG.2 c.1) h
theorem jq {l:List Ar}:(wrL l).1=0↔l.length<=16/\Qa Xb l:=by
 unfold wrL
 by_cases h:16<l.length
 ·rw[kE h];constructor
  ·intro a;exact absurd a Dc
  intro a;omega
 rw[kF h,zcw];exact⟨fun a=>⟨Wm,a⟩,fun a=>a.2⟩
def zhI (l:List Ar) (a:Ar):Nat->On:=fun k=>if jX a k=Xc then qw a k else zB l k
def zis (s n:Int) (k:Nat):Bool:=decide (s<=(k:Int)) && decide ((k:Int)<s+n)
theorem zjl {n:Int} {k:Nat}:zis s n k=Xc↔s<=(k:Int)/\(k:Int)<s+n:=by simp[zis]
def zhY (f:Nat->On):List Ar × Int:=if 16< (ZX f).length then([],4)else(ZX f,0)
def zmR (l:List Ar) (s n:Int):Bool:=(Xv 64).any fun k=>zis s n k &&(zB l k).is
def zb6 (l:List Ar) (a:Ar):List Ar × Int:=if(wrL l).1≠0 then([],(wrL l).1)else if arW a≠0 then([],arW a)else if zmR l a.fr (a.tz - a.fr)=Xc then([],6)else zhY (zhI l a)
theorem znI {l:List Ar} {n:Int}:zmR l s n=Xc↔∃k:Nat,k<64/\(s<=(k:Int)/\(k:Int)<s+n)/\(zB l k).is=Xc:=by
 simp[zmR,zis]
theorem zoY {l:List Ar} {n:Int}:zmR l s n=Xd↔∀k:Nat,k<64->(s<=(k:Int)/\(k:Int)<s+n)->(zB l k).is=Xd:=by
 simp only[zmR,Og,Xs,Xx,zjl,not_and,Bool.not_eq_true]
theorem za1 {l:List Ar} {a:Ar} (e:Qa Xb l) (c:jQ a):zip (zhI l a):=fun k d=>by
 unfold zhI
 by_cases h:jX a k=Xc
 ·rw[kE h];exact⟨fun b=>(by cases b),fun _=>J8 c h⟩
 rw[kF h];exact e.good k d
theorem zpd {f:Nat->On} (h:(zhY f).2=0):zhY f=(ZX f,0)/\(ZX f).length<=16:=by
 unfold zhY at h⊢
 by_cases a:16< (ZX f).length
 ·rw[kE a]at h;exact absurd h Dc
 rw[kF a];exact⟨rfl,Wm⟩
theorem zp4 {f:Nat->On} (a:zip f) (h:(ZX f).length<=16):(wrL (ZX f)).1=0:=jq.2 ⟨h,zgq a⟩
theorem zhJ {l:List Ar} {a:Ar} (h:(zb6 l a).2=0):(wrL l).1=0/\arW a=0/\zmR l a.fr (a.tz - a.fr)=Xd/\(ZX (zhI l a)).length<=16/\(zb6 l a).1=ZX (zhI l a):=by
 unfold zb6 at h⊢
 by_cases b:(wrL l).1=0
 ·rw[kF (fun d=>d b)]at h⊢
  by_cases c:arW a=0
  ·rw[kF (fun d=>d c)]at h⊢
   cases d:zmR l a.fr (a.tz - a.fr)with
   | true=>rw[d,kE rfl]at h;exact absurd h Dc
   | false=>
    rw[d,kF Dc]at h
    rw[kF Dc]
    obtain⟨d,e⟩:=zpd h;exact⟨b,c,rfl,e,by rw[d]⟩
  rw[kE c]at h;exact absurd h c
 rw[kE b]at h;exact absurd h b
theorem zpE {a b:Ar} (j:jQ b) (i:jQ a) (u:b.tz<=a.fr):decide ((ZX (zB [b,a])).length<2)=goB a b:=by
 have c:=i;have f:=j;unfold jQ at c f;have c:zip (zB [b,a]):=fun k _=>⟨zeV,fun d=>by
  obtain⟨e,g,e,h,l⟩:=ZQ d;rw[l];have:g=b\/g=a:=by simpa using mG e
  rcases this with g|g <;> subst g
  ·exact J8 j h
  exact J8 i h⟩
 cases p:goB a b with
 | true=>
  obtain⟨g,q,r,s,t,n⟩:=zc9.1 p;have l:Qa Xb [{ b with tz:=a.tz }]:=by
   refine⟨?_,fun x g=>(by cases g),trivial⟩
   unfold jQ;simp only;refine⟨Wm,Wm,Wm,Wm,Wm,Wm,f.2.2.2.2.2.2.1,fun h=>?_⟩
   rw[kE h]at n;omega
  rw[ziO c l fun k f=>?_]
  ·rfl
  have m:qw { b with tz:=a.tz } k=qw b k:=rfl;simp only[zB]
  by_cases d:jX b k=Xc
  ·have:=z5.1 d;rw[kE d,kE (z5.2 (by simp only;omega)),m]
  have f:¬(b.fr<=(k:Int)/\(k:Int)<b.tz):=fun h=>d (z5.2 h)
  rw[kF d]
  by_cases e:jX a k=Xc
  ·have f:=z5.1 e;rw[kE e,kE (z5.2 (by simp only;omega)),m]
   unfold qw;rw[q,r,s,t,n]
   by_cases d:0<=b.file
   ·rw[kE d,kE d,kE d]
    congr 1
    omega
   rw[kF d,kF d]
  have f:¬(a.fr<=(k:Int)/\(k:Int)<a.tz):=fun h=>e (z5.2 h)
  rw[kF e,kF (fun h=>by have:=z5.1 h;simp only at this;omega)]
 | false=>
  have l:Qa Xb [b,a]:=⟨j,fun x g=>(by cases g),i,fun x g=>(by cases g;exact⟨u,p⟩),trivial⟩
  rw[ziO c l fun _ _=>rfl]
  rfl
structure Sp where
 live:Bool
 ars:List Ar
 tb:List (List En)
structure Ca where
 file:Int
 idx:Int
 fr:Int
structure Ma where
 fs:List Fr
 hand:Int
 sl:List Int
 sb:List (List Int)
 sq:List (Int × List Int)
 db:List (List Int)
 dq:List (Int × List Int)
 fl:List Fl
 cnt:Int
 ca:List Ca
 sp:List Sp
def zw:List Int->Int
 | []=>0
 | e :: l=>if e=0 then zw l else e
theorem zi:∀{l:List Int},zw l=0↔∀e∈l,e=0
 | []=>by simp[zw]
 | e :: l=>by
  unfold zw
  by_cases h:e=0
  ·rw[kE h,zi]
   simp[h]
  rw[kF h]
  simp[h]
def JY (m:Ma):Int:=if(Xv m.db.length).any (fun(b:Nat)=>!zR m.fl (b:Int) && !(m.db.getD b [] == zp))=Xc then 7 else 0
def JE (m:Ma):Int:=if m.dq.any (fun q=>!zR m.fl q.1)=Xc then 7 else 0
def spE (s:Sp):Int:=if(wrL s.ars).1≠0 then(wrL s.ars).1 else if tbW s.tb≠0 then tbW s.tb else if(!s.live &&(!s.ars.isEmpty || !s.tb.all (·.isEmpty)))=Xc then 7 else 0
def zl4 (m:Ma):Int:=if m.sl.length≠m.sb.length\/m.cnt≠(m.db.length:Int)then 7 else 0
def Jq (m:Ma):Int:=zw [Zt m.fs m.hand,slW m.sl,zF m.sb.length m.sq,zF m.db.length m.dq,stW m.fl m.cnt,zl4 m,JY m,JE m,if 4<m.sp.length then 4 else 0,zw (m.sp.map spE)]
def bkN (m:Ma) (file:Int):Int:=((m.fl.getD file.toNat ⟨0,[]⟩).bl.length:Nat)
def zU (m:Ma) (k:Int):Fr:=m.fs.getD k.toNat frF
def qj (c:Ca):Int:=100*c.file+c.idx
def caE (m:Ma) (p:Option Ca) (c:Ca):Int:=
 if c.file<0\/(m.fl.length:Int)<=c.file\/c.idx<0\/bkN m c.file<=c.idx\/c.fr<0\/(m.fs.length:Int)<=c.fr then 3
 else if(zU m c.fr).r=0\/(zU m c.fr).f≠c.file\/(zU m c.fr).x≠c.idx then 7
 else match p with | some q=>(if qj c<=qj q then 2 else 0) | none=>0
def zbf (m:Ma):Option Ca->List Ca->Int
 | _,[]=>0
 | p,c :: l=>if caE m p c=0 then zbf m (Xa c) l else caE m p c
def Jm (m:Ma) (x:On) (e:En):Int:=
 if x.is=Xd then 5
 else if e.kind=2 then(if(m.sl.length:Int)<=e.n\/x.sh=Xc then 7 else 0)
 else if(m.fs.length:Int)<=e.n then 3
 else if(¬(zU m e.n).f=-1/\¬(0<=x.file/\(zU m e.n).f=x.file/\(zU m e.n).x=x.page))\/(x.sh=Xc/\¬(0<=x.file/\(zU m e.n).f=x.file/\(zU m e.n).x=x.page))\/(e.wr=Xc/\x.wr=Xd)\/(e.wr=Xc/\(0<=x.file/\(zU m e.n).f=x.file/\(zU m e.n).x=x.page)/\x.sh=Xd)\/(e.wr=Xc/\(zU m e.n).f=-1/\1< (zU m e.n).r)then 7 else 0
def zm (s:Sp) (n:Nat):En:=zaC s.tb (n / 8) (n % 8)
def zcA (m:Ma) (s:Sp):Int:=zw ((Xv 64).map fun n=>if(zm s n).kind=0 then 0 else Jm m (zB s.ars n) (zm s n))
def isE (e:En) (kind k:Int):Bool:=decide (e.kind=kind) && decide (e.n=k)
def jL (f:Nat->En) (kind k:Int):Nat->Nat
 | 0=>0
 | n+1=>jL f kind k n+(isE (f n) kind k).toNat
def qP (T:List (Nat->En)) (kind k:Int):Nat:=(T.map fun f=>jL f kind k 64).sum
def Zu (m:Ma) (kind k:Int):Nat:=qP (m.sp.map zm) kind k
def zH (ca:List Ca) (k:Int):Nat:=ca.countP fun c=>decide (c.fr=k)
def frE (m:Ma) (k:Nat):Int:=if(zU m k).r≠((Zu m 1 k+zH m.ca k:Nat):Int)\/(0<=(zU m k).f/\zH m.ca k=0)then 7 else 0
def zjq (m:Ma) (k:Nat):Int:=if m.sl.getD k 0≠(Zu m 2 k:Int)then 7 else 0
def maW (m:Ma):Int:=zw [Jq m,zbf m Xb m.ca,zw (m.sp.map (zcA m)),zw ((Xv m.fs.length).map (frE m)),zw ((Xv m.sl.length).map (zjq m))]
def jt (f:Nat->En) (n:Nat) (e:En):Nat->En:=fun j=>if j=n then e else f j
theorem zmp (f:Nat->En) {n:Nat} (e) (kind k:Int):∀m:Nat,jL (jt f n e) kind k m+(if n<m then(isE (f n) kind k).toNat else 0)=jL f kind k m+(if n<m then(isE e kind k).toNat else 0)
 | 0=>by simp[jL]
 | m+1=>by
  have b:=zmp f e kind k (n:=n) m;unfold jL
  by_cases h:n=m
  ·subst h;rw[kF (Nat.lt_irrefl _),kF (Nat.lt_irrefl _)]at b;rw[kE (Nat.lt_succ_self _),kE (Nat.lt_succ_self _)];have:jt f n e n=e:=by unfold jt;rw[kE rfl]
   rw[this];omega
  have:jt f n e m=f m:=by unfold jt;rw[kF (fun a=>h a.symm)]
  rw[this]
  by_cases a:n<m
  ·rw[kE a,kE a]at b;rw[kE Wm,kE Wm]
   omega
  rw[kF a,kF a]at b;rw[kF Wm,kF Wm]
  omega
theorem ZD:∀{T:List (Nat->En)} {p:Nat} {f:Nat->En} {n:Nat} (e:En) (kind k:Int),T[p]? =Xa f->n<64->qP (T.set p (jt f n e)) kind k+(isE (f n) kind k).toNat=qP T kind k+(isE e kind k).toNat
 | [],p,f,n,e,kind,k,h,_=>by simp at h
 | g :: T,0,f,n,e,kind,k,h,a=>by
  simp at h
  subst h;have:=zmp g e kind k (n:=n) 64;rw[kE a,kE a]at this;simp only[sZ,qP,mP,Ua];omega
 | g :: T,p+1,f,n,e,kind,k,h,a=>by
  have b:=ZD (T:=T) (p:=p) (f:=f) (n:=n) e kind k (Si h) a
  simp only[sS,qP,mP,Ua]at b⊢;omega
theorem zmr (f:Nat->En) (kind k:Int):∀m:Nat,jL f kind k m<=m
 | 0=>nR _
 | m+1=>by
  have:=zmr f kind k m;unfold jL
  cases isE (f m) kind k <;> simp <;> omega
theorem zbD:∀(T:List (Nat->En)) (kind k:Int),qP T kind k<=64*T.length
 | [],_,_=>by simp[qP]
 | f :: T,kind,k=>by
  have a:=zmr f kind k 64;have a:=zbD T kind k;simp only[qP,mP,Ua,Yk]at a⊢;omega
theorem jr (kind k:Int) (h:kind≠0):isE en0 kind k=Xd:=by
 have:¬en0.kind=kind:=fun e=>h e.symm
 simp[isE,this]
theorem zck {T:List (Nat->En)} {p:Nat} {f:Nat->En} {n:Nat} {kind k:Int} (a:T[p]? =Xa f) (c:n<64) (h:isE (f n) kind k=Xc) (b:kind≠0):1<=qP T kind k:=by
 have:=ZD en0 kind k a c;rw[h,jr kind k b]at this
 simp at this
 omega
theorem znF {T:List (Nat->En)} {p q:Nat} {f g:Nat->En} {n:Nat} {kind k:Int} (a:T[p]? =Xa f) (m:n<64) (h:isE (f n) kind k=Xc) (d:T[q]? =Xa g) (l:j<64) (i:isE (g j) kind k=Xc) (c:p≠q\/n≠j) (b:kind≠0):2<=qP T kind k:=by
 have e:=ZD en0 kind k a m;rw[h,jr kind k b]at e
 simp at e
 have m:=(gS.1 a).1
 by_cases e:q=p
 ·subst e;rw[a]at d;cases d;have a:1<=qP (T.set q (jt f n en0)) kind k:=by
   refine zck (p:=q) (f:=jt f n en0) (n:=j) (sF m) l ?_ b;have:j≠n:=fun e=>(c.resolve_left (fun h=>h rfl)) e.symm
   unfold jt;rw[kF this];exact i
  omega
 have a:1<=qP (T.set p (jt f n en0)) kind k:=zck (p:=q) (f:=g) (n:=j) (by rw[sN (fun h=>e h.symm)];exact d) l i b
 omega
theorem zgu (T:List (Nat->En)) (kind k:Int) (a:kind≠0):qP (T++ [fun _=>en0]) kind k=qP T kind k:=by
 have:∀m,jL (fun _=>en0) kind k m=0:=by
  intro m
  induction m with
  | zero=>rfl
  | succ m b=>
   unfold jL;rw[b,jr kind k a];rfl
 simp[qP,this]
end
section
open Go.RowKit
def zc (w w':Xn):Prop:=Below w.heap.size w w'
theorem zc.refl (w):zc w w:=bR _ _
theorem zc.trans {a b c:Xn} (h:zc a b) (k:zc b c):zc a c:=Below.trans h (k.mono h.size)
def zJ (P:Program) (o:Oper) (a:Act) (w:Xn) (K:Xq->Xn->Prop):Prop:=
 match(execOp a.eval o).run P w with
 | .ok (.value v) w'=>K v w'
 | .ok .skip w'=>K undef w'
 | .ok (.enter f args) w'=>Xp P f args w' fun e w''=>∃v,e= Xl v/\K v w''
 | _=>False
theorem zJ.wp {P:Program} {a:Act} {w:Xn} {K:Xq->Xn->Prop} {next:Act->Xn->Prop}
  (h:zJ P o a w K) (b:∀v w',K v w'->next (a.put o.dst v) w'):o.wp P a w next Q:=by
 unfold zJ at h;unfold Oper.wp
 generalize(execOp a.eval o).run P w=r at*
 cases r with
 | ok n w'=>
  cases n <;> simp only[Oper.upon]at h⊢
  case value v=>exact b _ _ h
  case skip=>exact b _ _ h
  case enter f c=>exact h.mono fun e c ⟨v,c,d⟩=>by subst c;exact b _ _ d
 | halt x w'=>simp only at h
def zki (ops:Array Oper) (i j:Nat):Bool:=((ops[j]?).map fun o=>o.after.any fun e=>Ga .any e && e.on == i).getD Xd
def anc (ops:Array Oper):Nat->Nat->Nat->Bool
 | 0,_,_=>Xd
 | f+1,i,j=>zki ops i j || (Xv j).any fun k=>zki ops k j && anc ops f i k
theorem zJ.mono {P:Program} {a:Act} {w:Xn} {K c:Xq->Xn->Prop} (h:zJ P o a w K) (b:∀v w',K v w'->c v w'):zJ P o a w c:=by
 unfold zJ at*
 generalize(execOp a.eval o).run P w=r at*
 cases r with
 | ok n w'=>
  cases n <;> simp only at h⊢
  case value v=>exact b _ _ h
  case skip=>exact b _ _ h
  case enter f c=>exact h.mono fun e c ⟨v,c,d⟩=>⟨v,c,b _ _ d⟩
 | halt x w'=>simp only at h
def zda (F:Nat->Xn->Prop) (k:Nat) (p:Xn->Prop):Nat->Xn->Prop:=fun i=>if i=k then p else F i
section
variable{P:Program} {ops:Array Oper} {T:Nat}
theorem ZJ {F:Nat->Xn->Prop} {k m:Nat} {p:Xn->Prop} (h:m≠k):zda F k p m=F m:=by simp[zda,h]
theorem zlS {F:Nat->Xn->Prop} {i:Nat} {p q:Xn->Prop} (h:i≠j):zda (zda F i p) j q=zda (zda F j q) i p:=by
 funext m
 simp only[zda]
 by_cases a:m=j
 ·by_cases b:m=i
  ·omega
  simp[a];intro b;omega
 simp[a]
theorem zdi {i:Nat} (a:ops[j]? =Xa o):zki ops i j=Xc↔∃e∈o.after,Ga .any e=Xc/\e.on=i:=by
 unfold zki;rw[a,Option.map_some,Option.getD_some,Array.any_eq_true'];simp
theorem zgI {i:Nat} (h:zki ops i j=Xc):∃a,ops[j]? =Xa a:=by
 cases b:ops[j]? with
 | none=>simp[zki,b]at h
 | some a=>exact⟨a,rfl⟩
def zgT (ops:Array Oper) (listed:Array Bool):Prop:=∀i j,listed.getD j Xd=Xc->zki ops i j=Xc->listed.getD i Xd=Xc
theorem QQ {a:Array Bool} (b:zgT ops a):∀(f i j:Nat),(∀k,zki ops k j=Xc->a.getD k Xd=Xc)->anc ops f i j=Xc->a.getD i Xd=Xc
 | 0,_,_,_,h=>by simp[anc]at h
 | f+1,i,j,c,h=>by
  simp only[anc,Om,Ye,Xs,Xx]at h
  rcases h with h|⟨k,_,a,h⟩
  ·exact c i h
  exact QQ b f i k (fun m d=>b m k (c k a) d) h
theorem JR {a:Array Bool} {i:Nat} (h:a.getD i Xc=Xd):a.getD i Xd=Xd:=by
 rcases Yp i a.size with a | a
 ·simp[a]at h⊢;exact h
 simp[Array.getElem?_eq_none a]at h
end
def Qu (ops:Array Oper) (T:Nat):Bool:=
 Region.noSelect ops && decide (T<=ops.size) &&(Xv ops.size).all fun j=>match ops[j]? with
  | none=>Xd
  | some oj=>oj.after.all (fun e=>!Ga .any e || decide (e.on<j)) &&
    (if j<T then(Xv j).all fun i=>zki ops i j || (match ops[i]? with | some oi=>oi.apart ops oj | none=>Xd)else(Xv j).all fun i=>anc ops j i j)
def qh (listed:Array Bool) (T:Nat):List Nat:=(Xv T).filter fun i=>listed.getD i Xc == Xd
section
variable{P:Program} {ops:Array Oper} {T:Nat}
theorem J9 (b:Qu ops T=Xc) (a:ops[j]? =Xa oj):∀i,zki ops i j=Xc->i<j:=by
 simp only[Qu,Xx,Yh,Xs]at b;have h:=b.2 j (aS.1 a).1;simp only[a,Xx]at h;intro i d;obtain⟨e,c,b,rfl⟩:=(zdi a).1 d;have:=Array.all_eq_true_iff_forall_mem.1 h.1 e c
 simpa [b]using this
theorem zhL (a:Qu ops T=Xc) (c:ops[j]? =Xa oj) (d:j<T):∀i,i<j->zki ops i j=Xc\/∃b,ops[i]? =Xa b/\b.apart ops oj=Xc:=by
 simp only[Qu,Xx,Yh,Xs]at a;have h:=a.2 j (aS.1 c).1;simp only[c,Xx,kE d,Yh,Xs]at h;intro i a;have:=h.2 i a;rw[Om]at this
 rcases this with a|a
 ·exact Or.inl a
 right
 cases c:ops[i]? with
 | none=>simp[c]at a
 | some b=>simp only[c]at a;exact⟨b,rfl,a⟩
theorem zec (a:Qu ops T=Xc) (b:ops[j]? =Xa oj) (c:T<=j):∀i,i<j->anc ops j i j=Xc:=by
 simp only[Qu,Xx,Yh,Xs]at a;have h:=a.2 j (aS.1 b).1;simp only[b,Xx,kF (Nat.not_lt.2 c),Yh,Xs]at h;exact h.2
theorem zmD (a:Qu ops T=Xc):∀(f i j:Nat),anc ops f i j=Xc->i<j
 | 0,_,_,h=>by simp[anc]at h
 | f+1,i,j,h=>by
  simp only[anc,Om,Ye,Xs,Xx]at h
  rcases h with h|⟨k,b,_,h⟩
  ·obtain⟨oj,b⟩:=zgI h;exact J9 a b i h
  have:=zmD a f i k h;omega
theorem zaN {a:Array Bool} (b:j<a.size):qh (a.setIfInBounds j Xc) T=(qh a T).filter (· != j):=by
 unfold qh;rw[Ux];refine List.filter_congr fun i a=>?_
 by_cases h:j=i
 ·subst h
  simp[b]
 rw[getD_set_ne Xc h];have:(i != j)=Xc:=by simpa using Ne.symm h
 rw[this,Bool.true_and]
theorem zhQ {a:Array Bool} {i:Nat} (hi:i<a.size) (h:a.getD i Xc=Xc):a.getD i Xd=Xc:=by
 simp[hi]at h⊢;exact h
theorem zjk (z:Qu ops T=Xc):∀(m:Nat) (l:List Oper) (k:Nat) (b:Array Bool) (a:Act) (w:Xn),T<=k->b.size=ops.size->k+m=ops.size->l.length=m->(∀j,l[j]? =ops[k+j]?)->
  (∀i,i<k->b.getD i Xc=Xc)->(∀i,k<=i->i<ops.size->b.getD i Xc=Xd)->wpList P ops Q l a w->wpAny P .any ops Q m b a w:=by
 intro m
 induction m with
 | zero=>
  intro l k b a w n v p x g d c h;have:l=[]:=eN x;subst this;refine⟨?_,h⟩
  cases s:Uf .any ops b with
  | nil=>rfl
  | cons f e=>
   have t:f∈Uf .any ops b:=by rw[s];simp
   obtain⟨r,e,q,_⟩:=mem_ready.1 t;have t:=(aS.1 q).1;rw[d f Wm]at r
   cases r
 | succ m F=>
  intro l k b a w n v p x g d c h;obtain⟨e,q,rfl⟩:∃e q,l=e :: q:=by
   cases l with
   | nil=>simp at x
   | cons e q=>exact⟨e,q,rfl⟩
  have f:ops[k]? =Xa e:=by have:=g 0;simpa using this.symm
  have p:k∈Uf .any ops b:=by
   refine mem_ready.2 ⟨c k (nR _) Wm,e,f,fun n B A=>?_⟩
   have t:=J9 z f n.on ((zdi f).2 ⟨n,B,A,rfl⟩);exact zhQ Wm (d n.on t)
  refine⟨fun s=>?_,fun j u=>?_⟩
  ·rw[s]at p;cases p
  obtain⟨r,e,e,s⟩:=mem_ready.1 u;have p:=(aS.1 e).1;have p:k<=j:=by
   rcases Yp j k with p|p
   ·rw[d j p]at r;cases r
   exact p
  have C:j=k:=by
   rcases Yp k j with p|p
   ·exfalso;have D:=zec z e Wm k p
    have E:zgT ops b:=fun i p y r=>by
     obtain⟨u,u⟩:=zgI r;have t:=J9 z u i r;have r:p<k:=by
      rcases Yp p k with r|r
      ·exact r
      have:=JR (c p r (aS.1 u).1);rw[this]at y;cases y
     exact zhQ Wm (d i Wm)
    have:=QQ E j k j (fun p y=>by
     obtain⟨n,B,A,rfl⟩:=(zdi e).1 y;exact s n B A) D
    rw[JR (c k (nR _) Wm)]at this
    cases this
   omega
  subst C;rw[f]at e;cases e;unfold wpList at h;unfold wpOp;simp only[f];have e:∀a w,wpList P ops Q q a w->wpAny P .any ops Q m (b.setIfInBounds j Xc) a w:=fun a w f=>
   F q (j+1) _ a w Wm (by simp[v]) Wm (Si x) (fun p=>by have:=g (p+1);rw[Uc]at this;rw[this];congr 1;omega)
    (fun i g=>by
     by_cases n:j=i
     ·subst n
      simp[show j<b.size by omega]
     rw[getD_set_ne Xc n];exact d i Wm)
    (fun i g b=>by rw[getD_set_ne Xc Wm];exact c i Wm b) f
  split
  ·rename_i b
   rw[kE b]at h
   rcases h with h|h
   ·exact .inl (Oper.wp_mono e h)
   exact .inr h
  rename_i b
  rw[kF b]at h;exact e _ _ h
structure Way {σ:Type} (P:Program) (ops:Array Oper) (C:Nat->σ->Act->(σ->Act->Prop)->Prop) (Ln:Nat->σ->Prop) (ok:Array Bool->σ->Act->Xn->Prop):Prop where
 mono:∀{i:Nat} {F:σ} {a:Act} {K K':σ->Act->Prop},(∀F' a',(∀j,anc ops 9 i j=Xd->Ln j F->Ln j F')->K F' a'->K' F' a')->C i F a K->C i F a K'
 swap:∀{i j:Nat} {oi oj:Oper} {F:σ} {a:Act} {K:σ->Act->Prop},ops[i]? =Xa oi->ops[j]? =Xa oj->i<j->oi.apart ops oj=Xc->(∀cs b,oi.op≠.select cs b)->(∀cs b,oj.op≠.select cs b)->anc ops 9 i j=Xd->anc ops 9 j i=Xd->Ln j F->C i F a (fun F' a'=>C j F' a' K)->C j F a fun F' a'=>C i F' a' K
 lean:∀{listed:Array Bool} {F:σ} {a:Act} {w:Xn} (j:Nat),ok listed F a w->Ln j F
 step:∀{listed:Array Bool} {F:σ} {a:Act} {w:Xn} {j:Nat} {oj:Oper} {K:σ->Act->Prop} {N:Act->Xn->Prop} {Q:Exit->Act->Xn->Prop},listed.size=ops.size->ops[j]? =Xa oj->listed.getD j Xc=Xd->zgT ops listed->ok listed F a w->C j F a K->
  (∀F' a' w',ok (listed.setIfInBounds j Xc) F' a' w'->K F' a'->N a' w')->if Xu oj (yielded ops a.tmps)then oj.wp P a w N Q else N (a.put oj.dst undef) w
section
variable{σ:Type} {C:Nat->σ->Act->(σ->Act->Prop)->Prop} {Ln:Nat->σ->Prop} {ok:Array Bool->σ->Act->Xn->Prop} {E:σ->Act->Prop}
variable(C E)in
def Lex:List Nat->σ->Act->Prop
 | [],F,a=>E F a
 | i :: l,F,a=>C i F a (Lex l)
theorem Lex.commute (W:Way P ops C Ln ok) {j:Nat} {oj:Oper} (t:ops[j]? =Xa oj) (d:∀(k:Nat) (o:Oper) cs b,ops[k]? =Xa o->o.op≠.select cs b):
  ∀(l:List Nat) (F:σ) (a:Act),l.Nodup->j∈l->
   (∀i∈l,i≠j->∃r,ops[i]? =Xa r/\(i<j->r.apart ops oj=Xc)/\anc ops 9 i j=Xd/\(i<j->anc ops 9 j i=Xd))->
   (l.Pairwise (·< ·))->Ln j F->Lex C E l F a->Lex C E (j :: l.filter (· != j)) F a
 | [],_,_,_,h,_,_,_,_=>by cases h
 | i :: l,F,a,p,h,g,c,v,u=>by
  by_cases e:i=j
  ·subst e;have:(i :: l).filter (· != i)=l:=by
    rw[List.filter_cons];simp only[bne_self_eq_false,Yu,if_false];refine Ur.2 fun x m=>?_
    have:x≠i:=fun f=>(Oe.1 p).1 (f ▸ m)
    simpa using this
   rw[this];exact u
  have n:j∈l:=by
   rcases mC.1 h with f|f
   ·exact absurd f.symm e
   exact f
  have h:=(Yd.1 c).1 j n;obtain⟨r,q,s,f,m⟩:=g i Sm e
  have w:(i :: l).filter (· != j)=i :: l.filter (· != j):=by
   rw[List.filter_cons];have:(i != j)=Xc:=Si e
   simp[this]
  rw[w];refine W.swap q t h (s h) (fun cs b=>d i r cs b q) (fun cs b=>d j oj cs b t) f (m h) v ?_
  refine W.mono (fun h m e q=>?_) u
  exact Lex.commute W t d l h m (Oe.1 p).2 n (fun k d=>g k (by simp[d])) (Yd.1 c).2 (e j f v) q
theorem zfK (W:Way P ops C Ln ok) {Q':Exit->Act->Xn->Prop} {l:List Oper} {m:Nat} (p:Qu ops T=Xc) (f:T+m=ops.size) (h:l.length=m) (e:∀j,l[j]? =ops[T+j]?) (n:∀b F a w,ok b F a w->E F a->wpList P ops Q' l a w):
  ∀(d:Nat) (b:Array Bool) (F:σ) (a:Act) (w:Xn),b.size=ops.size->(∀i,T<=i->i<ops.size->b.getD i Xc=Xd)->(qh b T).length=d->zgT ops b->ok b F a w->
   Lex C E (qh b T) F a->wpAny P .any ops Q' (d+m) b a w:=by
 have A:=Region.noSelect_spec (ops:=ops) (by simp only[Qu,Xx]at p;exact p.1.1)
 intro d
 induction d with
 | zero=>
  intro b F a w k g z v G D;have c:=eN z;rw[c]at D;rw[zA];refine zjk p m l T b a w (nR _) k f h e (fun i y=>?_) g (n _ _ _ _ G D)
  cases f:b.getD i Xc with
  | true=>rfl
  | false=>
   have:i∈qh b T:=Xz.2 ⟨Xs.2 y,by simp only[f,beq_self_eq_true]⟩
   rw[c]at this;cases this
 | succ d R=>
  intro b F a w k g z v G D;rw[Nat.add_right_comm];refine⟨fun u=>?_,fun j H=>?_⟩
  ·exfalso
   cases s:qh b T with
   | nil=>simp[s]at z
   | cons x S=>
    have K:x∈qh b T:=by rw[s];simp
    have h:=Xz.1 K;have L:=Xs.1 h.1;have c:x<ops.size:=Wm
    have t:=Ym c;have c:(qh b T).Pairwise (·< ·):=List.Pairwise.filter _ Ug;have:x∈Uf .any ops b:=by
     refine mem_ready.2 ⟨Si h.2,ops[x],t,fun r q B=>?_⟩
     have e:zki ops r.on x=Xc:=(zdi t).2 ⟨r,q,B,rfl⟩;have n:=J9 p t _ e
     cases f:b.getD r.on Xc with
     | true=>exact zhQ Wm f
     | false=>
      have e:r.on∈qh b T:=Xz.2 ⟨Xs.2 Wm,by simp only[f,beq_self_eq_true]⟩
      rw[s]at e c
      rcases mC.1 e with e|e
      ·omega
      have:=(Yd.1 c).1 _ e;omega
    rw[u]at this;cases this
  obtain⟨M,e,e,u⟩:=mem_ready.1 H;have f:=(aS.1 e).1;have f:∀t,zki ops t j=Xc->b.getD t Xd=Xc:=fun t H=>by
   obtain⟨r,q,B,rfl⟩:=(zdi e).1 H;exact u r q B
  have u:j<T:=by
   rcases Yp j T with r|r
   ·exact r
   exfalso
   cases s:qh b T with
   | nil=>simp[s]at z
   | cons x S=>
    have K:x∈qh b T:=by rw[s];simp
    have h:=Xz.1 K;have L:=Xs.1 h.1;have:=QQ v j x j f (zec p e r x Wm)
    rw[JR (Si h.2)]at this
    cases this
  have x:j∈qh b T:=Xz.2 ⟨Xs.2 u,by simp only[M,beq_self_eq_true]⟩
  have z:(qh b T).Nodup:=List.Pairwise.filter _ List.nodup_range;have c:(qh b T).Pairwise (·< ·):=List.Pairwise.filter _ Ug;have s:=Lex.commute W e A (qh b T) F a z x (fun i y h=>by
   have h:=Xz.1 y;have B:b.getD i Xd=Xd:=JR (Si h.2)
   have K:i<ops.size:=Hm (Xs.1 h.1)
   have A:=Ym K;refine⟨ops[i],A,fun n=>?_,?_,fun n=>?_⟩
   ·rcases zhL p e u i n with q|⟨n,n,u⟩
    ·have:=f i q;rw[B]at this;cases this
    rw[A]at n;cases n;exact u
   ·cases n:anc ops 9 i j with
    | false=>rfl
    | true=>
     have:=QQ v 9 i j f n;rw[B]at this;cases this
   cases n:anc ops 9 j i with
   | false=>rfl
   | true=>
    have:=zmD p 9 j i n
    omega) c (W.lean j G) D
  have p:(b.setIfInBounds j Xc).size=ops.size:=by simp[k]
  have n:∀i,T<=i->i<ops.size->(b.setIfInBounds j Xc).getD i Xc=Xd:=fun i y h=>by rw[getD_set_ne Xc Wm];exact g i y h
  have g:(qh (b.setIfInBounds j Xc) T).length=d:=by
   rw[zaN Wm]
   have q:(qh b T).filter (· != j)=(qh b T).erase j:=by
    rw[List.Nodup.erase_eq_filter z]
   rw[q,Ub x];omega
  have q:zgT ops (b.setIfInBounds j Xc):=fun i t H c=>by
   by_cases h:j=t
   ·subst h;exact getD_set_true (f i c)
   rw[getD_set_ne Xd h]at H;exact getD_set_true (v i t H c)
  rw[<-zaN Wm]at s
  have c:=W.step (Q:=Q') (N:=wpAny P .any ops Q' (d+m) (b.setIfInBounds j Xc)) k e M v G s fun b d h r f=>R _ b d h p n g q r f
  unfold wpOp;simp only[e]
  split
  ·rename_i b
   rw[kE b]at c;exact .inl c
  rename_i b
  rw[kF b]at c;exact c
variable(ops C E)in
structure zg5 (l:List Oper) (k:Nat) (F:σ) (a:Act):Prop where
 out:(∀j,l[j]? =ops[k+j]?\/l.length<=j)->Lex C E (List.range' k l.length) F a
theorem zg5.cons {rest:List Oper} {k:Nat} {F:σ} {a:Act} (c:∀{i:Nat} {F:σ} {a:Act} {K b:σ->Act->Prop},(∀d f,K d f->b d f)->C i F a K->C i F a b) (h:ops[k]? =Xa o->C k F a (zg5 ops C E rest (k+1))):zg5 ops C E (o :: rest) k F a:=⟨fun g=>by
 have l:ops[k]? =Xa o:=by
  rcases g 0 with e|e
  ·simpa using e.symm
  simp at e
 have b:∀j,rest[j]? =ops[k+1+j]?\/rest.length<=j:=fun j=>by
  rcases g (j+1)with e|e
  ·left;rw[Uc]at e;rw[e];congr 1;omega
  right;simpa using e
 exact c (fun d f c=>c.out b) (h l)⟩
theorem zhi {a:Act} {w:Xn} {L l r:List Oper} {F:σ} (W:Way P L.toArray C Ln ok) (T:Nat) (e:P.follows .mixedOrders=Xc) (p:Qu L.toArray T=Xc) (g:L.take T=l) (h:L.drop T=r) (d:T<=L.length) (n:∀b:Array Bool,ok b F a w.drew)
  (q:∀b F a w,ok b F a w->E F a->wpList P L.toArray Q r a w) (c:zg5 L.toArray C E l 0 F a):(Code.region id L.toArray Xc).wp P Q a w:=by
 have b:l.length=T:=by rw[<-g,Ud];omega
 have d:r.length=L.length - T:=by rw[<-h,List.length_drop]
 refine wp_region_any e ?_;have k:qh (Array.replicate L.toArray.size Xd) T=Xv T:=by
  unfold qh;refine Ur.2 fun i f=>?_
  have:i<T:=Si f
  simp[show i<L.length by omega]
 have e:=c.out (fun j=>by
  rcases Yp j T with c|c
  ·left;rw[<-g,List.getElem?_take_of_lt c];simp
  right;omega)
 rw[b,<-Un]at e;have b:=zfK (E:=E) W (T:=T) (l:=r) (m:=L.length - T) (Q':=Q) p (by simp;omega) d (fun j=>by rw[<-h,Uy];simp) q
  T (Array.replicate L.toArray.size Xd) F a w.drew Sm (fun i f d=>by simp at d;simp[d]) (by rw[k];simp) (fun i j c _=>by
   exfalso;rw[Array.getD_eq_getD_getElem?,Array.getElem?_replicate]at c
   split at c <;> simp at c)
  (n _) (Rx k e)
 have c:T+(L.length - T)=L.toArray.size:=by simp;omega
 rw[c]at b;exact b
end
end
theorem Q3 {α:Type}:∀{S:List (Nat × α)} {k:Nat} {s:α},S.lookup k=Xa s->∃x∈S,x.2=s/\x.1=k
 | [],k,s,h=>by simp at h
 | x :: S,k,s,h=>by
  rw[List.lookup_cons]at h
  split at h
  ·rename_i a
   exact⟨x,Sm,by simpa using h,(by simpa using a:k=x.1).symm⟩
  obtain⟨y,b,a⟩:=Q3 h;exact⟨y,by simp[b],a⟩
structure ze (w0:Xn) where
 world:Xn
 grew:zc w0 world
def zmW (o:Oper):Bool:=
 match o.op with
 | .move _ | .assign _ | .pick .. | .build .. | .load .. | .binOp .. | .unOp .. | .convert .. | .fieldAddr .. | .field .. | .indexAddr .. | .index .. | .extract .. | .slice .. | .lookup ..=>Xc
 | .call { callee:= .builtin .len,.. } | .call { callee:= .builtin .cap,.. } | .call { callee:= .builtin .max,.. } | .call { callee:= .builtin .min,.. }=>Xc
 | _=>Xd
theorem zbn {P:Program} {α:Type} {s:Sem α} {g:α->Xq} {w:Xn} {n:Next}:(s >>= fun v=>pure (Next.value (g v))).run P w= .ok n w'->∃v,n= .value v:=by
 intro h;rw[Yg]at h
 cases a:s.run P w with
 | ok x b=>simp[a,Result.andThen,Yq]at h;exact⟨_,h.1.symm⟩
 | halt x b=>simp[a,Result.andThen]at h
structure zj (I:Xn->Prop) where
 world:Xn
 holds:I world
section
variable{P:Program} {o:Oper} {a:Act}
theorem zjm (ht:zmW o=Xc) {a:Operand->Xq} {w w':Xn} {n:Next}:(execOp a o).run P w= .ok n w'->∃v,n= .value v:=by
 obtain⟨a,b,a,a,a,a⟩:=o
 cases b <;> simp only[zmW,Yu]at ht <;> simp only[execOp]
 all_goals first
  | exact zbn (g:=id)
  | exact zbn
  | (intro h;simp[Yq]at h;exact⟨_,h.1.symm⟩)
  | skip
 rename_i c
 obtain⟨a,b,b⟩:=c
 cases a with
 | value _=>simp at ht
 | invoke _ _=>simp at ht
 | builtin b=>
  cases b <;> simp only[Yu]at ht <;> simp only[resolve,pure_bind,invoke,builtin] <;> exact zbn (g:=id)
theorem zaT (ht:zmW o=Xc) {U:Xn->Prop} {K:Act->Prop} (h:o.quiet P a U K):∃v,(∀w,U w->(execOp a.eval o).run P w= .ok (.value v) w)/\K (a.put o.dst v):=by
 obtain⟨v,c,b⟩:=h;refine⟨v,fun w d=>?_,b⟩
 have b:=c w d;unfold Oper.quietAt at b;have c:=fun n e=>@zjm P o ht a.eval w e n
 generalize(execOp a.eval o).run P w=r at*
 cases r with
 | ok n e=>
  cases n <;> simp only[Oper.quietUpon]at b
  case value u=>rw[b.1,b.2]
  case skip=>obtain⟨_,d⟩:=c _ _ rfl;cases d
  case enter f f=>obtain⟨_,d⟩:=c _ _ rfl;cases d
 | halt x e=>simp only[Oper.quietUpon]at b
theorem ziz {w:Xn} (x p) (b:o.op= .nilCheck x) (c:a.eval x= Xj (Xa p)):(execOp a.eval o).run P w= .ok (.value (Xj (Xa p))) w:=by
 simp[execOp,b,c]
theorem zJ.call {w:Xn} {K:Xq->Xn->Prop} {f:FuncId} {xs:List Operand} {ts:Array TypeId} {fn:Func} (args)
  (ho : o.op = .call { callee := .value (.func f), args := xs.toArray, argTypes := ts }) (hf : P.funcs[f]? = some fn) (hb : fn.body.isNone = false) (hn : (fn.name == "runtime.NumGoroutine") = false)
  (ha:xs.map a.eval=args) (h:Xp P f args.toArray w fun e w'=>∃v,e= Xl v/\K v w'):zJ P o a w K:=by
 have hr:(execOp a.eval o).run P w= .ok (.enter f args.toArray) w:=by
  have he : a.eval (.func f) = .func (.func f) #[] #[] := rfl;simp only [execOp, ho, resolve, he, List.map_toArray, ha, Deferred.ofValue, pure_bind, invoke];have hn' : fn.name ≠ "runtime.NumGoroutine" := by simpa using hn
  have hb':fn.body≠Xb:=fun e=>by rw[e]at hb;cases hb
  simp[callFunc,hf,hb',hn',program,Yg,Sem.run]
 unfold zJ;rw[hr];exact h
end
structure zft where
 arg:Operand
 pv:Xq->Prop
 post:Xq->Xq->Xn->Prop
 step:Xn->Xn->Prop
 pre:Xn->Prop:=fun _=>True
section
variable(I:Xn->Prop) (P:Program) (ops:Array Oper) (S:Nat->Option zft)
def jm (i:Nat) (F:Nat->Xn->Prop) (a:Act) (K:(Nat->Xn->Prop)->Act->Prop):Prop:=
 match ops[i]? with
 | none=>False
 | some o=>
  if Xu o (yielded ops a.tmps)then
   match S i with
   | none=>∃v,(∀w,I w->(∀m,anc ops 9 m i=Xc->F m w)->(execOp a.eval o).run P w= .ok (.value v) w)/\K F (a.put o.dst v)
   | some s=>(∀w,I w->s.pre w->(∀m,anc ops 9 m i=Xc->F m w)->zJ P o a w fun v w'=>I w'/\s.step w w'/\s.pv v/\s.post (a.eval s.arg) v w')/\∀v,s.pv v->K (zda F i (s.post (a.eval s.arg) v)) (a.put o.dst v)
  else K F (a.put o.dst undef)
end
section
variable{I:Xn->Prop} {P:Program} {ops:Array Oper} {S:Nat->Option zft} {J:Act->Xn->Prop}
theorem jm.mono {i:Nat} {F:Nat->Xn->Prop} {a:Act} {K d:(Nat->Xn->Prop)->Act->Prop}
  (h:∀c e,(∀m,m≠i->c m=F m)->K c e->d c e) (b:jm I P ops S i F a K):jm I P ops S i F a d:=by
 unfold jm at*
 split
 ·rename_i c;simp only[c]at b
 rename_i d c
 simp only[c]at b
 split
 ·rename_i d
  simp only[d,if_true]at b
  split
  ·rename_i c
   simp only[c]at b;obtain⟨v,e,f⟩:=b;exact⟨v,e,h _ _ (fun _ _=>rfl) f⟩
  rename_i s c
  simp only[c]at b;exact⟨b.1,fun v e=>h _ _ (fun m c=>ZJ c) (b.2 v e)⟩
 rename_i d
 simp only[d]at b;exact h _ _ (fun _ _=>rfl) b
theorem jm.swap {i:Nat} {c:Oper} {F:Nat->Xn->Prop} {a:Act} {K:(Nat->Xn->Prop)->Act->Prop} {w:Xn}
  (hi:ops[i]? =Xa c) (y:ops[j]? =Xa oj) (E:i≠j) (n:c.apart ops oj=Xc)
  (p:∀cs b,c.op≠.select cs b) (r:∀cs b,oj.op≠.select cs b)
  (u:∀k s o,S k=Xa s->ops[k]? =Xa o->∀d,s.arg= .tmp d->d∈o.looksAt ops) (q:anc ops 9 i j=Xd) (l:anc ops 9 j i=Xd) (hS:∀s,S i=Xa s->∃v,s.pv v)
  (B:I w) (H:∀m,anc ops 9 m j=Xc->F m w)
  (h:jm I P ops S i F a fun e f=>jm I P ops S j e f K):jm I P ops S j F a fun e f=>jm I P ops S i e f K:=by
 obtain⟨f,G,g⟩:=Oper.apart_spec n;have t:∀v,execOp (a.put oj.dst v).eval c=execOp a.eval c:=fun v=>execOp_put c p a oj.dst v g
 have x:∀v,execOp (a.put c.dst v).eval oj=execOp a.eval oj:=fun v=>execOp_put oj r a c.dst v f
 have M:∀v,Xu c (yielded ops (a.put oj.dst v).tmps)=Xu c (yielded ops a.tmps):=fun v=>wanted_put c a oj.dst v g
 have N:∀v,Xu oj (yielded ops (a.put c.dst v).tmps)=Xu oj (yielded ops a.tmps):=fun v=>wanted_put oj a c.dst v f
 have z:∀v w K,zJ P c (a.put oj.dst v) w K=zJ P c a w K:=fun v w K=>by unfold zJ;rw[t]
 have A:∀v w K,zJ P oj (a.put c.dst v) w K=zJ P oj a w K:=fun v w K=>by unfold zJ;rw[x]
 have C:∀v s,S i=Xa s->(a.put oj.dst v).eval s.arg=a.eval s.arg:=fun v s p=>Act.eval_put fun d n e=>g d n (u i s c p hi d e)
 have D:∀v s,S j=Xa s->(a.put c.dst v).eval s.arg=a.eval s.arg:=fun v s p=>Act.eval_put fun d n e=>f d n (u j s oj p y d e)
 have L:∀v u,(a.put c.dst v).put oj.dst u=(a.put oj.dst u).put c.dst v:=fun v u=>Act.put_comm a v u G
 have u:∀n,(fun m=>anc ops 9 m i=Xc->zda F j n m w=F m w)=fun _=>True:=fun n=>by
  funext m
  simp only[eq_iff_iff,iff_true];intro e;rw[ZJ (fun f=>by subst f;rw[l]at e;cases e)]
 have p:∀n g,(∀m,anc ops 9 m i=Xc->zda F j n m g)↔(∀m,anc ops 9 m i=Xc->F m g):=fun n g=>by
  constructor <;> intro r m e <;> have:=r m e
  ·rwa [ZJ (fun f=>by subst f;rw[l]at e;cases e)]at this
  rwa [ZJ (fun f=>by subst f;rw[l]at e;cases e)]
 have l:∀n g,(∀m,anc ops 9 m j=Xc->zda F i n m g)↔(∀m,anc ops 9 m j=Xc->F m g):=fun n g=>by
  constructor <;> intro r m e <;> have:=r m e
  ·rwa [ZJ (fun f=>by subst f;rw[q]at e;cases e)]at this
  rwa [ZJ (fun f=>by subst f;rw[q]at e;cases e)]
 clear u;unfold jm at h⊢;simp only[hi,y,t,x,M,N,z,A,L]at h⊢
 cases e:Xu c (yielded ops a.tmps) <;> cases c:Xu oj (yielded ops a.tmps) <;>
  simp only[e,c,if_true,if_false,Yu]at h⊢
 ·exact h
 ·cases c:S j with
  | none=>simp only[c]at h⊢;exact h
  | some s=>simp only[c,D _ s c]at h⊢;exact h
 ·cases e:S i with
  | none=>simp only[e]at h⊢;exact h
  | some s=>simp only[e,C _ s e]at h⊢;exact h
 cases e:S i with
 | none=>
  simp only[e]at h;obtain⟨x,r,h⟩:=h
  cases c:S j with
  | none=>
   simp only[c]at h⊢;obtain⟨u,n,h⟩:=h;exact⟨u,n,x,r,h⟩
  | some s=>
   simp only[c,D _ s c]at h⊢;exact⟨h.1,fun u t=>⟨x,fun g f q=>r g f ((p _ _).1 q),h.2 u t⟩⟩
 | some G=>
  simp only[e]at h;obtain⟨y,h⟩:=h;obtain⟨L,A⟩:=hS G e
  cases c:S j with
  | none=>
   simp only[c,C _ G e]at h⊢;obtain⟨u,n,_⟩:=h L A;refine⟨u,fun g f q=>n g f ((l _ _).2 q),y,fun x r=>?_⟩
   obtain⟨z,z,N⟩:=h x r;have M:=n w B ((l _ _).2 H);have n:=z w B ((l _ _).2 H);rw[M]at n;simp only[Result.ok.injEq,Next.value.injEq,and_true]at n;subst n;exact N
  | some n=>
   simp only[c,D _ n c,C _ G e]at h⊢;refine⟨fun g f c q=>(h L A).1 g f c ((l _ _).2 q),fun u t=>⟨fun g f c q=>y g f c ((p _ _).1 q),fun x r=>?_⟩⟩
   have:=(h x r).2 u t;rwa [zlS E]at this
def okE (I:Xn->Prop) (J:Act->Xn->Prop) (S:Nat->Option zft) (listed:Array Bool) (F:Nat->Xn->Prop) (a:Act) (w:Xn):Prop:=
 I w/\J a w/\(∀i,F i w)/\(∀i,(∀w,F i w)\/∃s u v,S i=Xa s/\F i=s.post u v/\listed.getD i Xd=Xc)/\∀k t,S k=Xa t->listed.getD k Xc=Xd->t.pre w
theorem zqc (g:∀k s o,S k=Xa s->ops[k]? =Xa o->∀d,s.arg= .tmp d->d∈o.looksAt ops) (hS:∀k s,S k=Xa s->∃v,s.pv v)
  (hp:∀k s j t,S k=Xa s->S j=Xa t->j≠k->anc ops 9 j k=Xd->∀u v w w',t.step w w'->s.post u v w->s.post u v w') (hpre:∀j t k s,S j=Xa t->S k=Xa s->j≠k->∀w w',s.step w w'->t.pre w->t.pre w')
  (hJq:∀(j:Nat) o,ops[j]? =Xa o->S j=Xb->∀a v w,(execOp a.eval o).run P w= .ok (.value v) w->J a w->J (a.put o.dst v) w) (hJs:∀(j:Nat) o s,ops[j]? =Xa o->S j=Xa s->∀a w K,J a w->I w->zJ P o a w K->zJ P o a w fun v w'=>K v w'/\J (a.put o.dst v) w') (hJu:∀(j:Nat) o,ops[j]? =Xa o->∀a w,J a w->J (a.put o.dst undef) w):
  Way P ops (jm I P ops S) (fun j F=>∃w,I w/\∀m,anc ops 9 m j=Xc->F m w) (okE I J S) where
 mono h:=jm.mono fun b c e D=>h b c (fun j b ⟨w,l,c⟩=>⟨w,l,fun m f=>by
  rw[e m (fun q=>by subst q;rw[b]at f;cases f)]
  exact c m f⟩) D
 swap hi hj hlt hap hsi hsj b hji:=fun⟨_,l,c⟩=>jm.swap hi hj Wm hap hsi hsj g b hji (hS _) l c
 lean j h:=⟨_,h.1,fun m _=>h.2.2.1 m⟩
 step {listed F a w j oj K N Q} hsz hoj h0 hc hok hcm hN:=by
  obtain⟨E,G,B,C,e⟩:=hok;have r:∀i,(∀w,F i w)\/∃s u v,S i=Xa s/\F i=s.post u v/\(listed.setIfInBounds j Xc).getD i Xd=Xc:=fun i=>(C i).imp id fun⟨s,u,v,z,y,A⟩=>⟨s,u,v,z,y,getD_set_true A⟩
  have n:∀k,(listed.setIfInBounds j Xc).getD k Xc=Xd->k≠j/\listed.getD k Xc=Xd:=fun k c=>by
   by_cases q:j=k
   ·subst q;have:=(aS.1 hoj).1
    simp[show j<listed.size by omega]at c
   rw[getD_set_ne Xc q]at c;exact⟨fun h=>q h.symm,c⟩
  simp only[jm,hoj]at hcm
  split
  ·rename_i c
   simp only[c,if_true]at hcm
   cases p:S j with
   | none=>
    simp only[p]at hcm;obtain⟨v,f,D⟩:=hcm;have g:=f w E (fun m _=>B m)
    unfold Oper.wp;rw[g];exact hN F _ w ⟨E,hJq j oj hoj p a v w g G,B,r,fun k t f g=>e k t f (n k g).2⟩ D
   | some s=>
    simp only[p]at hcm;refine(hJs j oj s hoj p a w _ G E (hcm.1 w E (e j s p h0) (fun m _=>B m))).wp fun v w' ⟨⟨L,h,M,x⟩,H⟩=>?_
    refine hN (zda F j (s.post (a.eval s.arg) v)) _ w' ⟨L,H,fun i=>?_,fun i=>?_,fun k t f g=>hpre k t j s f p (n k g).1 w w' h (e k t f (n k g).2)⟩ (hcm.2 v M)
    ·unfold zda
     split
     ·exact x
     rename_i b
     rcases C i with l|⟨x,u1,C,z,y,A⟩
     ·exact l w'
     rw[y];refine hp i x j s z p (fun q=>b q.symm) ?_ u1 C w w' h ?_
     ·cases h:anc ops 9 j i with
      | false=>rfl
      | true=>
       have l:=QQ hc 9 j i (fun k D=>hc k i A D) h
       rw[JR h0]at l;cases l
     have:=B i;rw[y]at this;exact this
    by_cases b:i=j
    ·subst b;refine .inr ⟨s,a.eval s.arg,v,p,?_,?_⟩
     ·unfold zda;rw[kE rfl]
     have:=(aS.1 hoj).1
     simp[show i<listed.size by omega]
    rcases r i with l|⟨x,u1,C,z,y,A⟩
    ·refine .inl fun w=>?_
     unfold zda;rw[kF b];exact l w
    refine .inr ⟨x,u1,C,z,?_,A⟩;unfold zda;rw[kF b];exact y
  rename_i c
  simp only[c]at hcm;exact hN F _ w ⟨E,hJu j oj hoj a w G,B,r,fun k t f g=>e k t f (n k g).2⟩ hcm
variable{Q:Act->Xn->Prop}
variable(I P ops S Q)in
abbrev J0:List Oper->Nat->(Nat->Xn->Prop)->Act->Prop:=zg5 ops (jm I P ops S) fun F a=>∀w,I w->(∀i,F i w)->Q a w
theorem zoA {Q:Exit->Act->Xn->Prop} {a:Act} {w:Xn} {L l r:List Oper} (T:Nat) (e:I w.drew) (hJ0:J a w.drew) (i:P.follows .mixedOrders=Xc) (c:Qu L.toArray T=Xc) (g:L.take T=l) (m:L.drop T=r) (f:T<=L.length) (b:∀k s o,S k=Xa s->L.toArray[k]? =Xa o->∀d,s.arg= .tmp d->d∈o.looksAt L.toArray)
  (hS:∀k s,S k=Xa s->∃v,s.pv v) (hp:∀k s j t,S k=Xa s->S j=Xa t->j≠k->anc L.toArray 9 j k=Xd->∀u v w w',t.step w w'->s.post u v w->s.post u v w') (hpre:∀j t k s,S j=Xa t->S k=Xa s->j≠k->∀w w',s.step w w'->t.pre w->t.pre w') (hpr0:∀k t,S k=Xa t->t.pre w.drew)
  (hJq:∀(j:Nat) o,L.toArray[j]? =Xa o->S j=Xb->∀a v w,(execOp a.eval o).run P w= .ok (.value v) w->J a w->J (a.put o.dst v) w) (hJs:∀(j:Nat) o s,L.toArray[j]? =Xa o->S j=Xa s->∀a w K,J a w->I w->zJ P o a w K->zJ P o a w fun v w'=>K v w'/\J (a.put o.dst v) w') (hJu:∀(j:Nat) o,L.toArray[j]? =Xa o->∀a w,J a w->J (a.put o.dst undef) w)
  (h:J0 I P L.toArray S (fun a w=>J a w->wpList P L.toArray Q r a w) l 0 (fun _ _=>True) a):(Code.region id L.toArray Xc).wp P Q a w:=
 zhi (zqc b hS hp hpre hJq hJs hJu) T i c g m f (fun _=>⟨e,hJ0,fun _=>trivial,fun _=> .inl fun _=>trivial,fun k t b _=>hpr0 k t b⟩) (fun _ _ _ _ b h=>h _ b.1 b.2.2.1 b.2.1) h
theorem zhj {Q:Exit->Act->Xn->Prop} {a:Act} {w:Xn} {L l r:List Oper} (T:Nat) (e:I w.drew) (i:P.follows .mixedOrders=Xc) (c:Qu L.toArray T=Xc) (g:L.take T=l) (m:L.drop T=r) (f:T<=L.length) (b:∀k s o,S k=Xa s->L.toArray[k]? =Xa o->∀d,s.arg= .tmp d->d∈o.looksAt L.toArray)
  (hS:∀k s,S k=Xa s->∃v,s.pv v) (hp:∀k s j t,S k=Xa s->S j=Xa t->j≠k->anc L.toArray 9 j k=Xd->∀u v w w',t.step w w'->s.post u v w->s.post u v w') (hpre:∀j t k s,S j=Xa t->S k=Xa s->j≠k->∀w w',s.step w w'->t.pre w->t.pre w') (hpr0:∀k t,S k=Xa t->t.pre w.drew)
  (h:J0 I P L.toArray S (fun a w=>wpList P L.toArray Q r a w) l 0 (fun _ _=>True) a):(Code.region id L.toArray Xc).wp P Q a w:=
 zhi (zqc (J:=fun _ _=>True) b hS hp hpre (fun _ _ _ _ _ _ _ _ _=>trivial) (fun _ _ _ _ _ _ _ _ _ _ h=>h.mono fun _ _ b=>⟨b,trivial⟩) (fun _ _ _ _ _ _=>trivial)) T i c g m f (fun _=>⟨e,trivial,fun _=>trivial,fun _=> .inl fun _=>trivial,fun k t b _=>hpr0 k t b⟩) (fun _ _ _ _ b h=>h _ b.1 b.2.2.1) h
variable{o:Oper} {rest:List Oper} {k:Nat} {F:Nat->Xn->Prop} {a:Act}
theorem zcZ (h:ops[k]? =Xa o->jm I P ops S k F a (J0 I P ops S Q rest (k+1))):J0 I P ops S Q (o :: rest) k F a:=zg5.cons (fun h=>jm.mono fun b c _=>h b c) h
theorem ze2 (b:Xu o (yielded ops a.tmps)=Xc) (hS:S k=Xb) {v:Xq} (d:∀w,I w->(execOp a.eval o).run P w= .ok (.value v) w) (e:J0 I P ops S Q rest (k+1) F (a.put o.dst v)):J0 I P ops S Q (o :: rest) k F a:=zcZ fun c=>by
 simp only[jm,c,b,if_true,hS];exact⟨v,fun w b _=>d w b,e⟩
theorem zed (ht:zmW o=Xc) (b:Xu o (yielded ops a.tmps)=Xc) (hS:S k=Xb)
  (h:∀K:Act->Prop,(∀a,J0 I P ops S Q rest (k+1) F a->K a)->o.quiet P a (fun w'=>∃x:zj I,w'=x.world) K):J0 I P ops S Q (o :: rest) k F a:=by
 obtain⟨v,c,d⟩:=zaT ht (h _ fun _ h=>h)
 exact ze2 b hS (fun w b=>c w ⟨⟨w,b⟩,rfl⟩) d
theorem zbA{P Q:Prop}(k:Q)(h:Go.RowKit.Hid Q->P:=by intro h;refine zed rfl rfl rfl (fun K a=>?_);go_big_quiet_op;exact a _ h.out):P:=h k
theorem zgo (c:Xu o (yielded ops a.tmps)=Xd) (h:J0 I P ops S Q rest (k+1) F (a.put o.dst undef)):J0 I P ops S Q (o :: rest) k F a:=zcZ fun b=>by
 simp only[jm,b,c,Yu,if_false];exact h
theorem JJ {s:zft} (d:Xu o (yielded ops a.tmps)=Xc) (hS:S k=Xa s)
  (h:∀w,I w->s.pre w->(∀m,anc ops 9 m k=Xc->F m w)->zJ P o a w fun v w'=>I w'/\s.step w w'/\s.pv v/\s.post (a.eval s.arg) v w')
  (c:∀v,s.pv v->J0 I P ops S Q rest (k+1) (zda F k (s.post (a.eval s.arg) v)) (a.put o.dst v)):J0 I P ops S Q (o :: rest) k F a:=zcZ fun b=>by
 simp only[jm,b,d,if_true,hS];exact⟨h,c⟩
theorem ze3 (h:∀w,I w->(∀i,F i w)->Q a w):J0 I P ops S Q [] k F a:=⟨fun _=>h⟩
theorem zgp (x p) (b:o.op= .nilCheck x) (d:a.eval x= Xj (Xa p)) (c:Xu o (yielded ops a.tmps)=Xc) (hS:S k=Xb) (h:J0 I P ops S Q rest (k+1) F (a.put o.dst (Xj (Xa p)))):J0 I P ops S Q (o :: rest) k F a:=ze2 c hS (fun _ _=>ziz x p b d) h
end
def zmC (ops:Array Oper) (S:List (Nat × zft)):Bool:=S.all fun x=>match x.2.arg with
 | .tmp d=>(match ops[x.1]? with | some o=>(o.looksAt ops).contains d | none=>Xd)
 | _=>Xc
theorem zih {S:List (Nat × zft)} (h:zmC ops S=Xc):∀k s o,S.lookup k=Xa s->ops[k]? =Xa o->∀d,s.arg= .tmp d->d∈o.looksAt ops:=fun k s o a i d f=>by
 have g:(k,s)∈S:=by
  induction S with
  | nil=>simp at a
  | cons x S j=>
   rw[List.lookup_cons]at a
   split at a
   ·rename_i e
    have b:k=x.1:=Si e
    have c:x.2=s:=Si a
    rw[b,<-c];simp
   exact Oj _ (j (by simp only[zmC,List.all_cons,Xx]at h;exact h.2) a)
 have:=Yh.1 h _ g;simp only[f,i]at this
 simpa using this
theorem zfJ {I:Xn->Prop} {P:Program} {a:Act} {w:Xn} {L l r:List Oper} (T:Nat) (S:List (Nat × zft)) (d:I w.drew) (g:P.follows .mixedOrders=Xc) (b:zmC L.toArray S=Xc) (c:Qu L.toArray T=Xc) (f:L.take T=l) (i:L.drop T=r) (e:T<=L.length)
  (hS:∀x∈S,∃v,x.2.pv v) (hp:∀k s j t,S.lookup k=Xa s->S.lookup j=Xa t->j≠k->anc L.toArray 9 j k=Xd->∀u v w w',t.step w w'->s.post u v w->s.post u v w') (hpre:∀j t k s,S.lookup j=Xa t->S.lookup k=Xa s->j≠k->∀w w',s.step w w'->t.pre w->t.pre w') (hpr0:∀k t,S.lookup k=Xa t->t.pre w.drew)
  (h:J0 I P L.toArray (fun k=>S.lookup k) (fun a w=>wpList P L.toArray Q r a w) l 0 (fun _ _=>True) a):(Code.region id L.toArray Xc).wp P Q a w:=
 zhj T d g c f i e (zih b) (fun k s b=>by obtain⟨x,c,rfl,_⟩:=Q3 b;exact hS x c) hp hpre hpr0 h
structure zdy where
 pv:Xq->Prop
 post:Xq->Xn->Prop
 step:Xn->Xn->Prop
 pre:Xn->Prop:=fun _=>True
def zdy.e (s:zdy):zft:=⟨.const undef,s.pv,fun _=>s.post,s.step,s.pre⟩
theorem zaA {x:Option zdy} {s:zft} (h:x.map zdy.e=Xa s):∃t,x=Xa t/\s=t.e:=by
 cases x with
 | none=>cases h
 | some t=>cases h;exact⟨t,rfl,rfl⟩
section
variable{I:Xn->Prop} {P:Program} {ops:Array Oper} {S:Nat->Option zdy} {Q:Act->Xn->Prop}
variable(I P ops S Q)in
abbrev zcc:List Oper->Nat->(Nat->Xn->Prop)->Act->Prop:=J0 I P ops (fun k=>(S k).map zdy.e) Q
theorem qX {Q:Exit->Act->Xn->Prop} {a:Act} {w:Xn} {L l r:List Oper} (T:Nat) (S:List (Nat × zdy)) (c:I w.drew) (f:P.follows .mixedOrders=Xc) (b:Qu L.toArray T=Xc) (e:L.take T=l) (g:L.drop T=r) (d:T<=L.length)
  (hS:∀x∈S,∃v,x.2.pv v) (hp:∀k s j t,S.lookup k=Xa s->S.lookup j=Xa t->j≠k->anc L.toArray 9 j k=Xd->∀v w w',t.step w w'->s.post v w->s.post v w') (hpre:∀j t k s,S.lookup j=Xa t->S.lookup k=Xa s->j≠k->∀w w',s.step w w'->t.pre w->t.pre w') (hpr0:∀k t,S.lookup k=Xa t->t.pre w.drew)
  (h:zcc I P L.toArray (fun k=>S.lookup k) (fun a w=>wpList P L.toArray Q r a w) l 0 (fun _ _=>True) a):(Code.region id L.toArray Xc).wp P Q a w:=by
 refine zhj T c f b e g d ?_ ?_ ?_ ?_ ?_ h
 ·intro k s b b _ d c;obtain⟨t,_,rfl⟩:=zaA b;cases c
 ·intro k s b;obtain⟨t,c,rfl⟩:=zaA b;obtain⟨x,d,rfl,_⟩:=Q3 c;exact hS x d
 ·intro k s j t b f d g _ v;obtain⟨s,c,rfl⟩:=zaA b;obtain⟨t,e,rfl⟩:=zaA f;exact hp k s j t c e d g v
 ·intro j t k s f b d;obtain⟨s,c,rfl⟩:=zaA b;obtain⟨t,e,rfl⟩:=zaA f;exact hpre j t k s e c d
 intro k t b;obtain⟨t,c,rfl⟩:=zaA b;exact hpr0 k t c
variable{o:Oper} {rest:List Oper} {k:Nat} {F:Nat->Xn->Prop} {a:Act}
theorem qu (ht:zmW o=Xc) (b:Xu o (yielded ops a.tmps)=Xc) (hS:S k=Xb)
  (h:∀K:Act->Prop,(∀a,zcc I P ops S Q rest (k+1) F a->K a)->o.quiet P a (fun w'=>∃x:zj I,w'=x.world) K):zcc I P ops S Q (o :: rest) k F a:=zed ht b (Rr hS) h
theorem zN{P Q:Prop}(k:Q)(h:Go.RowKit.Hid Q->P:=by intro h;refine qu rfl rfl rfl (fun K a=>?_);go_big_quiet_op;exact a _ h.out):P:=h k
theorem zlC (b:Xu o (yielded ops a.tmps)=Xd) (h:zcc I P ops S Q rest (k+1) F (a.put o.dst undef)):zcc I P ops S Q (o :: rest) k F a:=zgo b h
theorem zcX{P Q:Prop}(k:Q)(h:Go.RowKit.Hid Q->P:=by intro h;refine zlC ?_ ?_;kernel_rfl;simp only[_root_.Go.Act.put,sB,sS,sZ];exact h.out):P:=h k
theorem zV {s:zdy} (c:Xu o (yielded ops a.tmps)=Xc) (hS:S k=Xa s)
  (h:∀w,I w->s.pre w->(∀m,anc ops 9 m k=Xc->F m w)->zJ P o a w fun v w'=>I w'/\s.step w w'/\s.pv v/\s.post v w')
  (b:∀v,s.pv v->zcc I P ops S Q rest (k+1) (zda F k (s.post v)) (a.put o.dst v)):zcc I P ops S Q (o :: rest) k F a:=JJ (s:=s.e) c (Rr hS) h b
theorem j2 (h:∀w,I w->(∀i,F i w)->Q a w):zcc I P ops S Q [] k F a:=ze3 h
theorem ZS (x p) (b:o.op= .nilCheck x) (d:a.eval x= Xj (Xa p)) (c:Xu o (yielded ops a.tmps)=Xc) (hS:S k=Xb) (h:zcc I P ops S Q rest (k+1) F (a.put o.dst (Xj (Xa p)))):zcc I P ops S Q (o :: rest) k F a:=zgp x p b d c (Rr hS) h
end
structure zow where
 pv:Xq->Prop
 post:Xq->Xn->Prop
def zow.i (s:zow):zdy:=⟨s.pv,s.post,zc,fun _=>True⟩
section
variable{P:Program} {ops:Array Oper} {w0:Xn} {S:Nat->Option zow} {Q:Act->Xn->Prop}
variable(P ops w0 S Q)in
abbrev zmF:List Oper->Nat->(Nat->Xn->Prop)->Act->Prop:=zcc (zc w0) P ops (fun k=>(S k).map zow.i) Q
theorem zlN (w:Xn):zc w w.drew:=show Below _ _ _ from(bR _ _).drew
theorem jb {Q:Exit->Act->Xn->Prop} {a:Act} {w:Xn} {L l r:List Oper} (T:Nat) (S:List (Nat × zow)) (j:P.follows .mixedOrders=Xc) (f:Qu L.toArray T=Xc) (i:L.take T=l) (m:L.drop T=r) (g:T<=L.length)
  (hS:∀x∈S,∃v,x.2.pv v) (hp:∀x∈S,∀v w w',zc w w'->x.2.post v w->x.2.post v w')
  (h:zmF P L.toArray w (fun k=>S.lookup k) (fun a w=>wpList P L.toArray Q r a w) l 0 (fun _ _=>True) a):(Code.region id L.toArray Xc).wp P Q a w:=by
 have b:∀k s,((S.lookup k).map zow.i).map zdy.e=Xa s->∃x∈S,s=x.2.i.e:=fun k s c=>by
  cases e:S.lookup k with
  | none=>rw[e]at c;cases c
  | some t=>
   rw[e]at c;cases c;obtain⟨x,d,rfl,_⟩:=Q3 e;exact⟨x,d,rfl⟩
 refine zhj T (zlN w) j f i m g ?_ ?_ ?_ ?_ ?_ h
 ·intro k s e c _ e e;obtain⟨x,_,rfl⟩:=b k s c;cases e
 ·intro k s c;obtain⟨x,d,rfl⟩:=b k s c;exact hS x d
 ·intro k s j t c e _ _ _ v w w' f;obtain⟨x,d,rfl⟩:=b k s c;obtain⟨y,_,rfl⟩:=b j t e;exact hp x d v w w' f
 ·intro j t k s e _ _ _ _ _ _;obtain⟨x,_,rfl⟩:=b j t e;trivial
 intro k t c;obtain⟨x,_,rfl⟩:=b k t c;trivial
theorem ju {Q:Exit->Act->Xn->Prop} {a:Act} {w:Xn} {l:List Oper} (S:List (Nat × zow)) (c:P.follows .mixedOrders=Xc) (b:Qu l.toArray l.length=Xc)
  (hS:∀x∈S,∃v,x.2.pv v) (hp:∀x∈S,∀v w w',zc w w'->x.2.post v w->x.2.post v w')
  (h:zmF P l.toArray w (fun k=>S.lookup k) (fun a w=>Q .normal a w) l 0 (fun _ _=>True) a):(Code.region id l.toArray Xc).wp P Q a w:=
 jb l.length S c b (List.take_length ..) (List.drop_length ..) (nR _) hS hp h
variable{o:Oper} {rest:List Oper} {k:Nat} {F:Nat->Xn->Prop} {a:Act}
theorem z3 (ht:zmW o=Xc) (b:Xu o (yielded ops a.tmps)=Xc) (hS:S k=Xb)
  (h:∀K:Act->Prop,(∀a,zmF P ops w0 S Q rest (k+1) F a->K a)->o.quiet P a (fun w'=>∃x:ze w0,w'=x.world) K):zmF P ops w0 S Q (o :: rest) k F a:=by
 obtain⟨v,c,d⟩:=zaT ht (h _ fun _ h=>h)
 exact ze2 b (by simp only[hS];rfl) (fun w b=>c w ⟨⟨w,b⟩,rfl⟩) d
theorem zg{P Q:Prop}(k:Q)(h:Go.RowKit.Hid Q->P:=by intro h;refine z3 rfl rfl rfl (fun K a=>?_);go_big_quiet_op;exact a _ h.out):P:=h k
theorem j1 (b:Xu o (yielded ops a.tmps)=Xd) (h:zmF P ops w0 S Q rest (k+1) F (a.put o.dst undef)):zmF P ops w0 S Q (o :: rest) k F a:=zgo b h
theorem zx {s:zow} (b:Xu o (yielded ops a.tmps)=Xc) (hS:S k=Xa s)
  (h:∀w,zc w0 w->(∀m,anc ops 9 m k=Xc->F m w)->zJ P o a w fun v w'=>zc w w'/\s.pv v/\s.post v w')
  (d:∀v,s.pv v->zmF P ops w0 S Q rest (k+1) (zda F k (s.post v)) (a.put o.dst v)):zmF P ops w0 S Q (o :: rest) k F a:=JJ (s:=s.i.e) b (by simp only[hS];rfl) (fun w b _ c=>(h w b c).mono fun _ _ c=>⟨b.trans c.1,c⟩) d
theorem qd (h:∀w,zc w0 w->(∀i,F i w)->Q a w):zmF P ops w0 S Q [] k F a:=ze3 h
theorem znC (x p) (b:o.op= .nilCheck x) (d:a.eval x= Xj (Xa p)) (c:Xu o (yielded ops a.tmps)=Xc) (hS:S k=Xb) (h:zmF P ops w0 S Q rest (k+1) F (a.put o.dst (Xj (Xa p)))):zmF P ops w0 S Q (o :: rest) k F a:=zgp x p b d c (by simp only[hS];rfl) h
end
theorem zS (a:Addr) (i j:Nat):(a.add i).add j=a.add (i+j):=by
 unfold Addr.add
 by_cases b:i=0 <;> by_cases c:j=0 <;> simp[b,c] <;> omega
def jP (w:Xn) (x:Addr) (cs:List Xq):Prop:=∀j u,cs[j]? =Xa u->w.cell? (x.add j)=Xa u
theorem jP.grew {w:Xn} {x:Addr} {cs:List Xq} (h:jP w x cs) (b:zc w w'):jP w' x cs:=fun j u c=>by
 have a:=h j u c;rw[Below.cell b (World.block_lt_of_cell? _ _ a)];exact a
theorem qQ {α:Type} {enc:α->List Xq} {k:Nat}:∀(l:List α),(∀a∈l,(enc a).length=k)->(l.flatMap enc).length=l.length*k
 | [],_=>Sm
 | a :: l,h=>by
  rw[Yf,lA,h a Sm,qQ l (fun b c=>h b (by simp[c])),Yk,Ox,Nat.one_mul,Ot]
theorem qM {α:Type} {enc:α->List Xq} {k:Nat}:∀(l:List α) (j:Nat) (a:α),(∀b∈l,(enc b).length=k)->l[j]? =Xa a->∀i u,(enc a)[i]? =Xa u->(l.flatMap enc)[j*k+i]? =Xa u
 | [],j,a,_,h,_,_,_=>by simp at h
 | b :: l,0,a,d,h,i,u,hi=>by
  simp at h;subst h
  have c:i< (enc b).length:=by
   rcases Yp i (enc b).length with h|h
   ·exact h
   rw[gN h]at hi;cases hi
  rw[Yf,Gb,zA,Oc c];exact hi
 | b :: l,j+1,a,d,h,i,u,hi=>by
  have c:=d b Sm
  rw[Yf,aR (by rw[c,Ox];omega),c]
  have e:(j+1)*k+i - k=j*k+i:=by rw[Ox];omega
  rw[e];exact qM l j a (fun c e=>d c (by simp[e])) (Si h) i u hi
theorem jP.elem {α:Type} {enc:α->List Xq} {k:Nat} {w:Xn} {x:Addr} {l:List α} (h:jP w x (l.flatMap enc)) (e:∀b∈l,(enc b).length=k) {a:α} (c:l[j]? =Xa a):jP w (x.add (j*k)) (enc a):=fun i u d=>by
 rw[zS];exact h _ _ (qM l j a e c i u d)
def jF {α:Type} (enc:α->List Xq) (w:Xn) (v:Xq) (l:List α):Prop:=
 ∃a c,v= O a l.length c/\(a=Xb->l=[])/\∀x,a=Xa x->jP w x (l.flatMap enc)
theorem jF.grew {α:Type} {enc:α->List Xq} {w:Xn} {v:Xq} {l:List α} (h:jF enc w v l) (f:zc w w'):jF enc w' v l:=by
 obtain⟨a,c,b,d,e⟩:=h;exact⟨a,c,b,d,fun x a=>(e x a).grew f⟩
theorem ZO {α:Type} {enc:α->List Xq} {w:Xn} {base a:Nat} {e:TypeId} {v:Xq} {l:List α} (h:w.ownsRow base e a v l.length (l.flatMap enc)):jF enc w v l:=by
 rcases h.2 with⟨rfl,c⟩|⟨g,a,b,rfl,b,b,b,b,b,b⟩
 ·have b:=eN c;subst b;exact⟨Xb,0,rfl,fun _=>rfl,fun x b=>by cases b⟩
 refine⟨Xa ⟨g,0,Xb⟩,a,rfl,fun h=>(by cases h),fun x b=>?_⟩
 cases b;exact h.cells rfl
theorem JG {w:Xn} {base a n:Nat} {e:TypeId} {v:Xq} (h:w.ownsRow base e a v n xs) (i:zc w w'):w'.ownsRow base e a v n xs:=by
 refine⟨h.1,?_⟩
 rcases h.2 with d|⟨g,a,b,rfl,f,c,h⟩
 ·exact .inl d
 exact .inr ⟨g,a,b,rfl,f,by rw[Below.block i g (aS.1 c).1];exact c,h⟩
theorem qZ {w:Xn} {base a n:Nat} {e:TypeId} {v:Xq} (h:w.ownsRow base e a v n xs) (i:base'<=base):w.ownsRow base' e a v n xs:=by
 refine⟨h.1,?_⟩
 rcases h.2 with c|⟨g,a,b,rfl,d,f⟩
 ·exact .inl c
 exact .inr ⟨g,a,b,rfl,nT i d,f⟩
theorem je {α:Type} {enc:α->List Xq} (h:∀a,∀u∈enc a,u.oneCell'=Xc) (l:List α):∀u∈l.flatMap enc,u.oneCell'=Xc:=fun u c=>by
 obtain⟨a,_,b⟩:=List.mem_flatMap.1 c;exact h a u b
theorem qO {n:Nat} (h:n<=140737488355328):n<=maxLen:=by simp[maxLen];omega
theorem za (w:Xn) (o):zc w (w.alloc o):=(bR _ _).alloc (nR _) _
theorem zq {w:Xn} (h:zc w W) {a:Addr} (b:w.heap.size<=a.block) (u):zc w (W.setCell a u):=Below.setCell h b u
theorem z6:Tryz.prog.follows .mixedOrders=Xc:=by kernel_rfl
def j4 (base:Nat) (v:Xq):Prop:=∀x n c,v= O (Xa x) n c->base<=x.block
theorem Zj (base:Nat):j4 base (O Xb 0 0):=fun x n c e=>by cases e
theorem QS (x:Addr) (j:Nat):(x.add j).block=x.block:=by unfold Addr.add;split <;> rfl
theorem jF.setCell {α:Type} {enc:α->List Xq} {base:Nat} {w:Xn} {v:Xq} {l:List α} (h:jF enc w v l) (f:j4 base v) {a:Addr} (b:a.block<base) (u):jF enc (w.setCell a u) v l:=by
 obtain⟨x,c,b,d,e⟩:=h;refine⟨x,c,b,d,fun y d j t c=>?_⟩
 subst d;have:=f y _ _ b;rw[World.cell?_of_block (w:=w) (Below.heap_setCell _ _ _ _ (by rw[QS];omega))]
 exact e y rfl j t c
theorem Zh (w:Xn) (g:Nat) (cs:Array Xq):w.grownBy (w.setRow g cs) (Xa g):=by
 refine⟨rfl,rfl,rfl,by simp[World.setRow],fun k a a=>?_⟩
 have:g≠k:=fun e=>a (by rw[e])
 unfold World.setRow
 simp[Array.getElem?_modify,this]
theorem jy {P:Program} {w:Xn} {base b n:Nat} {e:TypeId} {v:Xq} (d:w.ownsRow base e b v n xs) {g:Nat} (h:v.ownBlock=Xa g) (a:Nat) (cs:List Xq) (c:a+cs.length<=n*b) (k:∀u∈cs,u.oneCell'=Xc):
  ∃w',(storeCells ⟨g,a,Xb⟩ cs 0).run P w= .ok () w'/\w'.ownsRow base e b v n (splice xs a cs)/\w.grownBy w' (Xa g)/\w'.heap.size=w.heap.size:=by
 obtain⟨m,c⟩:=d
 rcases c with⟨rfl,i⟩|⟨f,d,c,rfl,l,j,i,p,q,r⟩
 ·simp[Value.ownBlock]at h
 simp[Value.ownBlock]at h
 subst h;have h:n*b<=c.size:=by rw[q];exact Oa _ i
 refine⟨_,run_storeCells_at P f a e cs 0 c w j Wm k,⟨by rw[length_splice _ _ _ Wm];exact m,.inr ⟨f,d,_,rfl,l,setRow_heap w f c _ e _ j,i,p,?_,?_⟩⟩,Zh _ _ _,by simp[World.setRow]⟩
 ·simp;omega
 subst r
 apply Yo
 intro j;simp only[splice,Nat.add_zero];simp only[List.getElem?_take,List.getElem?_append,Uy,Ud,lA,Array.length_toList];have d:min a c.size=a:=Wm
 have f:min a (min (n*b) c.size)=a:=Wm
 simp only[d,f]
 split <;> split <;>(try split) <;>(try split) <;>(try split) <;> first | rfl | omega | (congr 1;omega) | skip
theorem zb1 {P:Program} {w:Xn} {rest:List Oper} {a:Act} (e:o.guard=Xb) (p x t) (s:o.op= .store t p x) (k:Nat) (f:(P.info? t).map (·.size)=Xa k)
  (base:Nat) (v:Xq) (n:Nat) (xs:List Xq) (d:w.ownsRow base t k v n xs) (g i:Nat) (r:v.ownBlock=Xa g) (hi:i<n) (cs:List Xq) (c:cs.length=k) (j:∀u∈cs,u.oneCell'=Xc)
  (ad:Addr) (hp:a.eval p= Xj (Xa ad)) (b:ad=⟨g,i*k,Xb⟩) (z:a.eval x= Xi cs.toArray)
  (h:∀w',w'.ownsRow base t k v n (splice xs (i*k) cs)->w.grownBy w' (Xa g)->w'.heap.size=w.heap.size->wpList P ops Q rest (a.put o.dst undef) w'):wpList P ops Q (o :: rest) a w:=by
 subst b;refine wpList_plain e fun K q=>?_
 have b:i*k+cs.length<=n*k:=by
  rw[c,<-Gc];exact Oa _ hi
 obtain⟨w',y,e,l,m⟩:=jy (P:=P) d r (i*k) cs b j;have d:(Go.sizeOf t).run P w= .ok k w:=by
  cases b:P.info? t with
  | none=>simp[b]at f
  | some i=>simp[b]at f;simp[Go.sizeOf,typeInfo,b,f]
 have b:(Instr.storeAt t (Xj (Xa ⟨g,i*k,Xb⟩)) (Xi cs.toArray)).run P w= .ok () w':=by
  simp[Instr.storeAt,Instr.sureAddr,storeVar,Yg,d,Result.andThen,Value.cells,c,y]
 unfold Oper.wp;simp only[execOp,s,hp,z,Yg,b,Result.andThen,Yq,Oper.upon];exact q _ _ (h w' e l m)
theorem Qz {α:Type} {enc:α->List Xq} {k:Nat} (x:α) (b:(enc x).length=k):∀(l:List α) (i:Nat),(∀a∈l,(enc a).length=k)->i<l.length->splice (l.flatMap enc) (i*k) (enc x)=(l.set i x).flatMap enc
 | [],i,_,hi=>by simp at hi
 | a :: l,0,h,_=>by
  simp only[splice,Yf,Gb,Uo,Oo,zA,sZ];rw[Ok (by rw[b,h a Sm];exact nR _),Oh (by rw[b,h a Sm];exact nR _),Oo]
 | a :: l,i+1,h,hi=>by
  have d:=h a Sm
  have c:=Qz x b l i (fun b e=>h b (by simp[e])) (Si hi)
  simp only[splice,Yf,sS]at c⊢;rw[<-c,Gc,Ot (i*k) k,<-d,Ou,Oi,Ov,Yj]
theorem zd {w W':Xn} {g:Nat} (h:zc w W) (b:W.grownBy W' (Xa g)) (a:w.heap.size<=g):zc w W':=
 Below.grown h b (bS h) (fun k b=>by cases b;exact a)
theorem zi8 {a w:Xn} (h:Below B a w) (b:B<=w.heap.size) (c:zc w w'):Below B a w':=h.trans (Below.mono c b)
def Box (w:Xn) (b:Nat) (cs:List Xq):Prop:=∃t,w.heap[b]? =Xa (Xk cs.toArray t (0,0))
theorem Box.lt {w:Xn} {cs:List Xq} (h:Box w b cs):b<w.heap.size:=by
 obtain⟨t,h⟩:=h;exact(aS.1 h).1
theorem Box.c {w:Xn} {cs:List Xq} (h:Box w b cs) (i:Nat) {u:Xq} (hi:cs[i]? =Xa u):w.cell? ⟨b,i,Xb⟩=Xa u:=by
 obtain⟨t,h⟩:=h
 simp[World.cell?,h,hi]
theorem Box.f {w:Xn} {cs:List Xq} (h:Box w b cs) (i:Nat):w.frozen? ⟨b,i,Xb⟩=Xd:=by
 obtain⟨t,h⟩:=h
 simp[World.frozen?,h]
theorem Box.below {w:Xn} {cs:List Xq} (h:Box w b cs) (c:Below B w w') (a:b<B):Box w' b cs:=by
 obtain⟨t,h⟩:=h;exact⟨t,by rw[c.block b a];exact h⟩
theorem Box.grew {w:Xn} {cs:List Xq} (h:Box w b cs) (a:zc w w'):Box w' b cs:=h.below a h.lt
theorem Box.top (w:Xn) (cs:List Xq) (t) (a:b=w.heap.size):Box (w.alloc (Xk cs.toArray t)) b cs:=by
 subst a;refine⟨t,?_⟩
 show(w.heap.push _)[w.heap.size]? =_
 simp
theorem Box.alloc {w:Xn} {cs:List Xq} (h:Box w b cs) (o):Box (w.alloc o) b cs:=h.grew (za _ _)
theorem Box.grown {w:Xn} {g:Nat} {cs:List Xq} (h:Box w b cs) (d:w.grownBy w' (Xa g)) (c:b≠g):Box w' b cs:=by
 have a:=h.lt;obtain⟨t,h⟩:=h;exact⟨t,by rw[d.block b a (fun e=>c (by cases e;rfl))];exact h⟩
theorem Box.other {w:Xn} {cs:List Xq} (h:Box w b cs) {a:Addr} (c:b≠a.block) (u):Box (w.setCell a u) b cs:=by
 obtain⟨t,h⟩:=h;exact⟨t,by rw[Below.heap_setCell _ _ _ _ c];exact h⟩
theorem Box.set {w:Xn} {cs:List Xq} (h:Box w b cs) (i:Nat) (u):Box (w.setCell ⟨b,i,Xb⟩ u) b (cs.set i u):=by
 have a:=h.lt;obtain⟨t,h⟩:=h;refine⟨t,?_⟩;obtain⟨_,c⟩:=aS.1 h;unfold World.setCell;rw[Ym (Si a)]
 simp[Up,c]
theorem zf7 {w:Xn} {base a n:Nat} {e:TypeId} {v:Xq} (h:w.ownsRow base e a v n xs) (i:∀k,base<=k->w'.heap[k]? =w.heap[k]?):w'.ownsRow base e a v n xs:=by
 refine⟨h.1,?_⟩
 rcases h.2 with d|⟨g,a,b,rfl,c,f,h⟩
 ·exact .inl d
 exact .inr ⟨g,a,b,rfl,c,by rw[i g c];exact f,h⟩
theorem zij (w:Xn) (A B C) (k:Nat) (a:w.heap.size+1<=k):((w.alloc A).alloc C).heap[k]? =((w.alloc B).alloc C).heap[k]?:=by
 show((w.heap.push A).push C)[k]? =((w.heap.push B).push C)[k]?
 simp only[Array.getElem?_push,Array.size_push]
 split
 ·rfl
 rw[kF Wm,kF Wm]
theorem World.grownBy.rfl' (w:Xn) (a:Option Nat):w.grownBy w a:=⟨rfl,rfl,rfl,nR _,fun _ _ _=>rfl⟩
theorem jP.top (w:Xn) (cs:List Xq) (t) (a:b=w.heap.size):jP (w.alloc (Xk cs.toArray t)) ⟨b,0,Xb⟩ cs:=fun j u c=>by
 rw[Addr.add_lit,zA];exact(Box.top w cs t a).c j c
theorem Box.beside {w:Xn} {cs:List Xq} {a:Option Nat} (h:Box w b cs) (d:w.grownBy w' a) (c:∀g,a=Xa g->b≠g):Box w' b cs:=by
 have a:=h.lt;obtain⟨t,h⟩:=h;exact⟨t,by rw[d.block b a (fun e=>c b e.symm rfl)];exact h⟩
theorem zT {w W':Xn} {a:Option Nat} (h:zc w W) (c:W.grownBy W' a) (b:∀g,a=Xa g->w.heap.size<=g):zc w W':=Below.grown h c (bS h) b
def zo (w:Xn) (b:Nat) (t:TypeId) (cs:List Xq):Prop:=w.heap[b]? =Xa (Xk cs.toArray t (0,0))
theorem zo.box {w:Xn} {cs:List Xq} (h:zo w b t cs):Box w b cs:=⟨t,h⟩
theorem zo.top (w:Xn) (cs:List Xq) (t) (a:b=w.heap.size):zo (w.alloc (Xk cs.toArray t)) b t cs:=by
 subst a
 show(w.heap.push _)[w.heap.size]? =_
 simp
theorem Box.c3 {w:Xn} {l:List Xq} (h:Box w b (a0::a1::a2::l)):w.cell? ⟨b,0,Xb⟩=Xa a0/\w.cell? ⟨b,1,Xb⟩=Xa a1/\w.cell? ⟨b,2,Xb⟩=Xa a2:=⟨h.c 0 rfl,h.c 1 rfl,h.c 2 rfl⟩
theorem Box.c7 {w:Xn} {l:List Xq} (h:Box w b (a0::a1::a2::a3::a4::a5::a6::l)):w.cell? ⟨b,0,Xb⟩=Xa a0/\w.cell? ⟨b,1,Xb⟩=Xa a1/\w.cell? ⟨b,2,Xb⟩=Xa a2/\w.cell? ⟨b,3,Xb⟩=Xa a3/\w.cell? ⟨b,4,Xb⟩=Xa a4/\w.cell? ⟨b,5,Xb⟩=Xa a5/\w.cell? ⟨b,6,Xb⟩=Xa a6:=⟨h.c 0 rfl,h.c 1 rfl,h.c 2 rfl,h.c 3 rfl,h.c 4 rfl,h.c 5 rfl,h.c 6 rfl⟩
theorem Box.c8 {w:Xn} {l:List Xq} (h:Box w b (a0::a1::a2::a3::a4::a5::a6::a7::l)):w.cell? ⟨b,0,Xb⟩=Xa a0/\w.cell? ⟨b,1,Xb⟩=Xa a1/\w.cell? ⟨b,2,Xb⟩=Xa a2/\w.cell? ⟨b,3,Xb⟩=Xa a3/\w.cell? ⟨b,4,Xb⟩=Xa a4/\w.cell? ⟨b,5,Xb⟩=Xa a5/\w.cell? ⟨b,6,Xb⟩=Xa a6/\w.cell? ⟨b,7,Xb⟩=Xa a7:=⟨h.c 0 rfl,h.c 1 rfl,h.c 2 rfl,h.c 3 rfl,h.c 4 rfl,h.c 5 rfl,h.c 6 rfl,h.c 7 rfl⟩
theorem Box.c10 {w:Xn} {l:List Xq} (h:Box w b (a0::a1::a2::a3::a4::a5::a6::a7::a8::a9::l)):w.cell? ⟨b,0,Xb⟩=Xa a0/\w.cell? ⟨b,1,Xb⟩=Xa a1/\w.cell? ⟨b,2,Xb⟩=Xa a2/\w.cell? ⟨b,3,Xb⟩=Xa a3/\w.cell? ⟨b,4,Xb⟩=Xa a4/\w.cell? ⟨b,5,Xb⟩=Xa a5/\w.cell? ⟨b,6,Xb⟩=Xa a6/\w.cell? ⟨b,7,Xb⟩=Xa a7/\w.cell? ⟨b,8,Xb⟩=Xa a8/\w.cell? ⟨b,9,Xb⟩=Xa a9:=⟨h.c 0 rfl,h.c 1 rfl,h.c 2 rfl,h.c 3 rfl,h.c 4 rfl,h.c 5 rfl,h.c 6 rfl,h.c 7 rfl,h.c 8 rfl,h.c 9 rfl⟩
theorem Box.c11 {w:Xn} {a:Xq} {l:List Xq} (h:Box w b (a0::a1::a2::a3::a4::a5::a6::a7::a8::a9::a::l)):w.cell? ⟨b,0,Xb⟩=Xa a0/\w.cell? ⟨b,1,Xb⟩=Xa a1/\w.cell? ⟨b,2,Xb⟩=Xa a2/\w.cell? ⟨b,3,Xb⟩=Xa a3/\w.cell? ⟨b,4,Xb⟩=Xa a4/\w.cell? ⟨b,5,Xb⟩=Xa a5/\w.cell? ⟨b,6,Xb⟩=Xa a6/\w.cell? ⟨b,7,Xb⟩=Xa a7/\w.cell? ⟨b,8,Xb⟩=Xa a8/\w.cell? ⟨b,9,Xb⟩=Xa a9/\w.cell? ⟨b,10,Xb⟩=Xa a:=⟨h.c 0 rfl,h.c 1 rfl,h.c 2 rfl,h.c 3 rfl,h.c 4 rfl,h.c 5 rfl,h.c 6 rfl,h.c 7 rfl,h.c 8 rfl,h.c 9 rfl,h.c 10 rfl⟩
theorem Box.c12 {w:Xn} {a c:Xq} {l:List Xq} (h:Box w b (a0::a1::a2::a3::a4::a5::a6::a7::a8::a9::a::c::l)):w.cell? ⟨b,0,Xb⟩=Xa a0/\w.cell? ⟨b,1,Xb⟩=Xa a1/\w.cell? ⟨b,2,Xb⟩=Xa a2/\w.cell? ⟨b,3,Xb⟩=Xa a3/\w.cell? ⟨b,4,Xb⟩=Xa a4/\w.cell? ⟨b,5,Xb⟩=Xa a5/\w.cell? ⟨b,6,Xb⟩=Xa a6/\w.cell? ⟨b,7,Xb⟩=Xa a7/\w.cell? ⟨b,8,Xb⟩=Xa a8/\w.cell? ⟨b,9,Xb⟩=Xa a9/\w.cell? ⟨b,10,Xb⟩=Xa a/\w.cell? ⟨b,11,Xb⟩=Xa c:=⟨h.c 0 rfl,h.c 1 rfl,h.c 2 rfl,h.c 3 rfl,h.c 4 rfl,h.c 5 rfl,h.c 6 rfl,h.c 7 rfl,h.c 8 rfl,h.c 9 rfl,h.c 10 rfl,h.c 11 rfl⟩
theorem Box.h {I:Xn->Prop} {cs:List Xq} (h:Box W b cs) (a:∀u,I u↔zc W u) (i:Nat) {v:Xq} (c:cs[i]?=Xa v):∀y:zj I,y.world.cell? ⟨b,i,Xb⟩=Xa v:=fun y=>(h.grew ((a _).1 y.holds)).c i c
theorem Box.gw {cs:List Xq} (h:Box W b cs) (i:Nat) {v:Xq} (a:cs[i]?=Xa v):∀y:ze W,y.world.cell? ⟨b,i,Xb⟩=Xa v:=fun y=>(h.grew y.grew).c i a
theorem gP {w:Xn} {o:Obj} (h:w.alloc o=W):zc w W:=by subst h;exact za _ _
theorem gA {w:Xn} {o:Obj} (h:w.alloc o=W):Go.RowKit.Hid (zc w W):=show zc _ _ from gP h
theorem gT {v w:Xn} {o:Obj} (h:w.alloc o=W) (g:Go.RowKit.Hid (zc v w)):Go.RowKit.Hid (zc v W):=show zc _ _ from g.out.trans (gP h)
theorem gD2 {w:Xn} {o q:Obj} (h:(w.alloc o).alloc q=W):Go.RowKit.Hid (zc w W):=show zc _ _ from(gP rfl).trans (gP h)
theorem xP {w:Xn} {l:List Xq} {p:Nat} (h:w.alloc (Xk l.toArray t)=W) (e:Go.RowKit.Hid (w.heap.size=p)):Go.RowKit.Hid (Box W p l):=show Box _ _ _ by subst h;exact Box.top w l t e.out.symm
theorem xA {w:Xn} {l:List Xq} (h:w.alloc (Xk l.toArray t)=W):Go.RowKit.Hid (Box W w.heap.size l):=xP h rfl
theorem xPT {w:Xn} {l:List Xq} {p:Nat} (h:w.alloc (Xk l.toArray t)=W) (e:Go.RowKit.Hid (w.heap.size=p)):Go.RowKit.Hid (zo W p t l):=show zo _ _ _ _ by subst h;exact zo.top w l t e.out.symm
theorem xT {w:Xn} {l:List Xq} (h:w.alloc (Xk l.toArray t)=W):Go.RowKit.Hid (zo W w.heap.size t l):=xPT h rfl
theorem yA {w:Xn} {o:Obj} {l:List Xq} (h:w.alloc o=W) (y:Go.RowKit.Hid (Box w b l)):Go.RowKit.Hid (Box W b l):=show Box _ _ _ by subst h;exact y.out.alloc _
theorem x2a {w:Xn} {l:List Xq} {o:Obj} (h:(w.alloc (Xk l.toArray t)).alloc o=W):Go.RowKit.Hid (Box W w.heap.size l):=yA h (xA rfl)
theorem x2b {w:Xn} {l:List Xq} {o:Obj} (h:(w.alloc o).alloc (Xk l.toArray t)=W):Go.RowKit.Hid (Box W (w.heap.size+1) l):=show Box _ _ _ by subst h;exact Box.top _ l t Sm
theorem sA {w:Xn} {o:Obj} (h:w.alloc o=W):Go.RowKit.Hid (W.heap.size=w.heap.size+1):=show _=_ by subst h;simp
theorem gW (w:Xn):zc w w.drew:=show Go.RowKit.Below _ _ _ from(Go.RowKit.Below.refl _ _).drew
theorem zo.grew {w:Xn} {cs:List Xq} (h:zo w b t cs) (a:zc w w'):zo w' b t cs:=(a.block b h.box.lt).trans h
theorem zo.beside {w:Xn} {cs:List Xq} {a:Option Nat} (h:zo w b t cs) (d:w.grownBy w' a) (c:∀g,a=Xa g->b≠g):zo w' b t cs:=by
 unfold zo;rw[d.block b h.box.lt (fun e=>c b e.symm rfl)]
 exact h
theorem zo.set {w:Xn} {cs:List Xq} (h:zo w b t cs) (i:Nat) (u):zo (w.setCell ⟨b,i,Xb⟩ u) b t (cs.set i u):=by
 have a:=h.box.lt;obtain⟨_,c⟩:=aS.1 h;unfold zo World.setCell;rw[Ym (Si a)]
 simp[Up,c]
theorem Zs {w:Xn} {base b n:Nat} {e:TypeId} {v:Xq} (h:w.ownsRow base e b v n xs) {a:Addr} (j:∀g,v.ownBlock=Xa g->a.block≠g) (u):(w.setCell a u).ownsRow base e b v n xs:=by
 refine⟨h.1,?_⟩
 rcases h.2 with d|⟨g,b,c,rfl,f,h,i⟩
 ·exact .inl d
 exact .inr ⟨g,b,c,rfl,f,by rw[Below.heap_setCell _ _ _ _ (fun e=>j g rfl e.symm)];exact h,i⟩
structure Elt (α:Type) where
 enc:α->List Xq
 k:Nat
 ty:TypeId
 st:TypeId
 bytes:Nat
 zv:Xq
 zero:α
 len:∀a,(enc a).length=k
 one:∀a,∀u∈enc a,u.oneCell'=Xc
 und:Tryz.prog.underlying st=Xa (.slice ty)
 info:(Tryz.prog.info? ty).map (fun i=>(i.zero,i.size,i.bytes))=Xa (Xa zv,k,bytes)
 zok:zv.cells=(enc zero).toArray
 few:k<=bytes
 pos:0<k
section
variable{α:Type} {E:Elt α}
def zl (E:Elt α) (w:Xn) (v:Xq) (l:List α):Prop:=jF E.enc w v l/\l.length*E.bytes<=140737488355328
def zb (E:Elt α) (base:Nat) (w:Xn) (v:Xq) (l:List α):Prop:=w.ownsRow base E.ty E.k v l.length (l.flatMap E.enc)/\l.length*E.bytes<=140737488355328
def zox (E:Elt α) (w:Xn) (a:Option Addr) (l:List α):Prop:=∀(j:Nat) x,l[j]? =Xa x->∃ad,a=Xa ad/\∀W,zc w W->jP W (ad.add (j*E.k)) (E.enc x)
theorem zmU (E:Elt α):E.zv.cells.size=E.k:=by rw[E.zok];simp[E.len]
theorem qV (E:Elt α) (l:List α):(l.flatMap E.enc).length=l.length*E.k:=qQ l fun a _=>E.len a
theorem zl.grew {w:Xn} {v:Xq} {l:List α} (h:zl E w v l) (a:zc w w'):zl E w' v l:=⟨h.1.grew a,h.2⟩
theorem zl.rows {w:Xn} {v:Xq} {l:List α} (h:zl E w v l):∃a c,v= O a l.length c/\zox E w a l:=by
 obtain⟨⟨a,c,e,f,g⟩,_⟩:=h;refine⟨a,c,e,fun j q b=>?_⟩
 cases a with
 | none=>rw[f rfl]at b;simp at b
 | some x=>exact⟨x,rfl,fun W i=>((g x rfl).grew i).elem (k:=E.k) (fun d _=>E.len d) b⟩
theorem zl.short {w:Xn} {v:Xq} {l:List α} (h:zl E w v l):l.length<=9223372036854775807:=by
 have a:=h.2;have a:l.length*1<=l.length*E.bytes:=Yr _ (nT E.pos E.few);omega
theorem zl.setCell {base:Nat} {w:Xn} {v:Xq} {l:List α} (h:zl E w v l) (hf:j4 base v) {a:Addr} (ha:a.block<base) (u:Xq):zl E (w.setCell a u) v l:=⟨h.1.setCell hf ha u,h.2⟩
theorem zl.nil (E:Elt α) (w):zl E w (O Xb 0 0) ([]:List α):=⟨⟨Xb,0,rfl,fun _=>rfl,fun x a=>by cases a⟩,Sm⟩
theorem zb.at {base:Nat} {w:Xn} {v:Xq} {l:List α} (h:zb E base w v l):zl E w v l:=⟨ZO h.1,h.2⟩
theorem zb.grew {base:Nat} {w:Xn} {v:Xq} {l:List α} (h:zb E base w v l) (a:zc w w'):zb E base w' v l:=⟨JG h.1 a,h.2⟩
theorem zb.base {base:Nat} {w:Xn} {v:Xq} {l:List α} (h:zb E base w v l) (a:base'<=base):zb E base' w v l:=⟨qZ h.1 a,h.2⟩
theorem zb.setCell {base:Nat} {w:Xn} {v:Xq} {l:List α} (h:zb E base w v l) {a:Addr} (b:a.block<base) (u):zb E base (w.setCell a u) v l:=⟨ownsRow_setCell_below h.1 b u,h.2⟩
theorem zb.setOther {base:Nat} {w:Xn} {v:Xq} {l:List α} (h:zb E base w v l) {a:Addr} (b:∀g,v.ownBlock=Xa g->a.block≠g) (u):zb E base (w.setCell a u) v l:=⟨Zs h.1 b u,h.2⟩
theorem zb.lt {base:Nat} {w:Xn} {v:Xq} {l:List α} (h:zb E base w v l):∀g,v.ownBlock=Xa g->base<=g/\g<w.heap.size:=h.1.lt
theorem zb.form {base:Nat} {w:Xn} {v:Xq} {l:List α} (h:zb E base w v l):∃a c,v= O a l.length c:=by
 obtain⟨a,c,b,_⟩:=h.at.rows;exact⟨a,c,b⟩
theorem zb.formS {base:Nat} {w:Xn} {v:Xq} {l:List α} (h:zb E base w v l) (a:0<l.length):∃g c,v= O (Xa ⟨g,0,Xb⟩) l.length c:=by
 rcases h.1.2 with⟨rfl,b⟩|⟨g,a,d,b,_⟩
 ·omega
 exact⟨g,a,b⟩
theorem zb.fresh {base:Nat} {w:Xn} {v:Xq} {l:List α} (h:zb E base w v l):j4 base v:=fun x n c e=>by
 rcases h.1.2 with⟨a,_⟩|⟨g,b,b,a,b,_⟩
 ·rw[a]at e;cases e
 rw[a]at e;cases e;exact b
theorem zb.nil (E:Elt α) (base:Nat) (w):zb E base w (O Xb 0 0) ([]:List α):=⟨World.ownsRow_nil _ _ _ _,Sm⟩
theorem zb.made (E:Elt α) (w:Xn):zb E w.heap.size (w.alloc (Xk #[] E.ty)) (O (Xa ⟨w.heap.size,0,Xb⟩) 0 0) ([]:List α):=⟨World.ownsRow_made w #[] 0 (nR _) (nZ _) Sm,Sm⟩
theorem zb.ne {base:Nat} {w:Xn} {v:Xq} {l:List α} (h:zb E base w v l) {cs:List Xq} (d:zo w b t cs) (ht:t≠E.ty):∀g,v.ownBlock=Xa g->b≠g:=fun g a e=>by
 subst e
 rcases h.1.2 with⟨rfl,_⟩|⟨c,c,c,rfl,_,c,_⟩
 ·cases a
 simp only[Value.ownBlock,Option.some.injEq]at a;subst a;rw[d]at c;cases c;exact ht rfl
theorem zb.grown {base:Nat} {w:Xn} {a:Option Nat} {v:Xq} {l:List α} (h:zb E base w v l) (i:w.grownBy w' a) (c:∀g,v.ownBlock=Xa g->a≠Xa g):zb E base w' v l:=by
 refine⟨⟨h.1.1,?_⟩,h.2⟩
 rcases h.1.2 with e|⟨g,a,b,rfl,f,d,h⟩
 ·exact .inl e
 exact .inr ⟨g,a,b,rfl,f,by rw[i.block g (aS.1 d).1 (fun e=>c g rfl e.symm)];exact d,h⟩
def qE (E:Elt α) (base:Nat) (w:Xn) (v:Xq) (l:List α):Prop:=zl E w v l/\j4 base v
theorem qE.base {base:Nat} {w:Xn} {v:Xq} {l:List α} (h:qE E base w v l) (a:base'<=base):qE E base' w v l:=⟨h.1,fun x n c e=>nT a (h.2 x n c e)⟩
theorem qE.setCell {base:Nat} {w:Xn} {v:Xq} {l:List α} (h:qE E base w v l) {a:Addr} (ha:a.block<base) (u:Xq):qE E base (w.setCell a u) v l:=⟨h.1.setCell h.2 ha u,h.2⟩
theorem qE.nil (E:Elt α) (base:Nat) (w):qE E base w (O Xb 0 0) ([]:List α):=⟨zl.nil E w,Zj _⟩
theorem zb.new {base:Nat} {w:Xn} {v:Xq} {l:List α} (h:zb E base w v l):qE E base w v l:=⟨h.at,h.fresh⟩
theorem JC {w:Xn} {base:Nat} {v:Xq} {l:List α} (b) (a:zb E base w v l) (c:Nat):(Builtin.append_ #[E.st,E.st] b #[v,O Xb 0 c]).run prog w= .ok v w:=by
 obtain⟨b,b,_,d,_⟩:=info_parts E.info
 rcases a.1.2 with⟨rfl,_⟩|⟨g,a,a,rfl,_,_,a,_⟩
 ·simp[Builtin.append_,run_underlying E.und,sizeOf,typeInfo,b,Builtin.lenOf,Builtin.firstCells]
 simp[Builtin.append_,run_underlying E.und,sizeOf,typeInfo,b,Builtin.lenOf,Builtin.firstCells,a,storeCells]
theorem zn {w:Xn} {rest:List Oper} {a:Act} (f:o.guard=Xb) (s x) (q:o.op= .call { callee:= .builtin .append,args:=#[s,x],argTypes:=#[E.st,E.st] })
  (base:Nat) (vs:Xq) (l0:List α) (r:a.eval s=vs) (b:zb E base w vs l0) (c:Xq) (l:List α) (t:a.eval x=c) (i:zl E w c l) (p:(l0.length+l.length)*E.bytes<=140737488355328) (d:base<=w.heap.size)
  (m:∀g w',zb E base w' g (l0++l)->w.grownBy w' vs.ownBlock->wpList prog ops Q rest (a.put o.dst g) w'):wpList prog ops Q (o :: rest) a w:=by
 obtain⟨⟨h,k,rfl,e,c⟩,_⟩:=i
 cases h with
 | none=>
  have h:=e rfl;subst h;refine wpList_plain f fun K h=>?_
  have e:=JC o.type b k;unfold Oper.wp execOp;simp only[q,resolve,invoke,builtin,Yg,Yq,rA,List.map_toArray,mP,List.map_nil,r,t,Yn,e];exact h _ _ (m vs w (Rx Uj b) (World.grownBy.rfl' _ _))
 | some j=>
  obtain⟨v,u,e,h,i⟩:=info_parts E.info;have n:(l0.length+l.length)*1<=(l0.length+l.length)*E.bytes:=Yr _ (nT E.pos E.few);refine wpList_append_own w f s x E.st q base E.ty v _ E.k E.bytes E.und u e h i (zmU E) E.pos vs l0.length _ r b.1 j l.length k (l.flatMap E.enc) t (qV E l) (c j rfl) (je E.one l) (qO Wm) p d fun g w' b n _=>?_
  exact m g w' ⟨by rw[lA,Od];exact b,Rx lA p⟩ n
theorem QY {x y:α} (j:Nat) (cs:List Xq) (b:E.enc y=splice (E.enc x) j cs) (e:j+cs.length<=E.k):∀(l:List α) (i:Nat),l[i]? =Xa x->splice (l.flatMap E.enc) (i*E.k+j) cs=(l.set i y).flatMap E.enc
 | [],i,hi=>by simp at hi
 | a :: l,0,hi=>by
  simp at hi
  subst hi;have c:=E.len a;simp only[splice,Yf,Gb,zA,sZ]at b⊢;rw[b,Ol Wm,Ok Wm]
  simp
 | a :: l,i+1,hi=>by
  have c:=E.len a;have d:=QY j cs b e l i (Si hi)
  simp only[splice,Yf,sS]at d⊢;rw[<-d,Gc,Ot (i*E.k) E.k,Oi,<-c,Ou,Oi,Ov,Yj]
theorem zD {w:Xn} {rest:List Oper} {a:Act} (d:o.guard=Xb) (p x t) (C:o.op= .store t p x) (base:Nat) (v:Xq) (l:List α) (b:zb E base w v l)
  (g i j:Nat) (A:v.ownBlock=Xa g) (e y:α) (hi:l[i]? =Xa e) (cs:List Xq) (f:(Tryz.prog.info? t).map (·.size)=Xa cs.length) (G:E.enc y=splice (E.enc e) j cs) (B:j+cs.length<=E.k) (q:∀u∈cs,u.oneCell'=Xc)
  (ad:Addr) (hp:a.eval p= Xj (Xa ad)) (c:ad=⟨g,i*E.k+j,Xb⟩) (k:Xq) (F:a.eval x=k) (h:k.cells=cs.toArray)
  (n:∀w',zb E base w' v (l.set i y)->w.grownBy w' (Xa g)->w'.heap.size=w.heap.size->wpList prog ops Q rest (a.put o.dst undef) w'):wpList prog ops Q (o :: rest) a w:=by
 subst c;refine wpList_plain d fun K z=>?_
 have d:=(gS.1 hi).1;have c:i*E.k+j+cs.length<=l.length*E.k:=by
  have:(i+1)*E.k<=l.length*E.k:=Oa _ d;rw[Ox]at this;omega
 obtain⟨w',D,m,r,s⟩:=jy (P:=prog) b.1 A (i*E.k+j) cs c q;have d:(Go.sizeOf t).run prog w= .ok cs.length w:=by
  cases c:Tryz.prog.info? t with
  | none=>simp[c]at f
  | some i=>simp[c]at f;simp[Go.sizeOf,typeInfo,c,f]
 have c:(Instr.storeAt t (Xj (Xa ⟨g,i*E.k+j,Xb⟩)) k).run prog w= .ok () w':=by
  simp[Instr.storeAt,Instr.sureAddr,storeVar,Yg,d,Result.andThen,h,D]
 unfold Oper.wp;simp only[execOp,C,hp,F,Yg,c,Result.andThen,Yq,Oper.upon];rw[QY j cs G B l i hi]at m;exact z _ _ (n w' ⟨Rx Yx m,Rx Yx b.2⟩ r s)
theorem qF {w:Xn} {rest:List Oper} {a:Act} (d:o.guard=Xb) (p x) (n:o.op= .store E.ty p x) (base:Nat) (v:Xq) (l:List α) (b:zb E base w v l)
  (g i:Nat) (m:v.ownBlock=Xa g) (y:α) (hi:i<l.length) (ad:Addr) (hp:a.eval p= Xj (Xa ad)) (c:ad=⟨g,i*E.k,Xb⟩) (j:Xq) (q:a.eval x=j) (f:j.cells=(E.enc y).toArray)
  (k:∀w',zb E base w' v (l.set i y)->w.grownBy w' (Xa g)->w'.heap.size=w.heap.size->wpList prog ops Q rest (a.put o.dst undef) w'):wpList prog ops Q (o :: rest) a w:=by
 obtain⟨e,e,_,h,_⟩:=info_parts E.info;refine zD d p x E.ty n base v l b g i 0 m (l[i]) y (gE hi) (E.enc y) (by rw[e];simp[h,E.len]) ?_ (by rw[E.len];omega) (E.one y) ad hp (Rr c) j q f k
 unfold splice;rw[Uo,Oo,zA,Oh (by rw[E.len,E.len];exact nR _),Uj]
theorem ziK (E:Elt α) (n:Nat):(madeCells E.zv.cells (n*E.k)).toList=(Xr n E.zero).flatMap E.enc:=by
 have e:((Xr n E.zero).flatMap E.enc).length=n*E.k:=by rw[qV E];simp
 have a:0<E.k:=E.pos
 apply Yo
 intro j
 rcases Yp j (n*E.k)with h|h
 ·have d:j=j / E.k*E.k+j % E.k:=by rw[Nat.mul_comm];exact(Nat.div_add_mod _ _).symm
  have b:j % E.k<E.k:=Nat.mod_lt _ a;have f:j / E.k<n:=(Nat.div_lt_iff_lt_mul a).2 h;have g:(E.enc E.zero)[j % E.k]? =Xa ((E.enc E.zero)[j % E.k]'(by rw[E.len];exact b)):=gE _
  have a:=qM (enc:=E.enc) (k:=E.k) (Xr n E.zero) (j / E.k) E.zero (fun c _=>E.len c) (by simp[f]) (j % E.k) _ g
  rw[<-d]at a;rw[a]
  simp[madeCells,h,E.zok,E.len,b]
 rw[gN (by simp[madeCells];exact h),gN (Rx e h)]
theorem jA (E:Elt α) {w:Xn} {rest:List Oper} {a:Act} (b:o.guard=Xb) (l) (m:o.op= .makeSlice E.st l l) (n:Nat) (k:a.eval l= Xe Xf n) (f:n*E.bytes<=140737488355328)
  (h:∀C,zb E w.heap.size (w.alloc (Xk C E.ty)) (O (Xa ⟨w.heap.size,0,Xb⟩) n n) (Xr n E.zero)->wpList prog ops Q rest (a.put o.dst (O (Xa ⟨w.heap.size,0,Xb⟩) n n)) (w.alloc (Xk C E.ty))):wpList prog ops Q (o :: rest) a w:=by
 refine wpList_plain b fun K g=>?_
 obtain⟨p,j,c,d,e⟩:=info_parts E.info;have b:n*1<=n*E.bytes:=Yr _ (nT E.pos E.few);have i:((E.bytes:Int)*(n:Int))<=140737488355328:=by
  obtain⟨B,b⟩:=kB (n*E.bytes);rw[b]at f;rw[<-Int.natCast_mul,Nat.mul_comm,b];omega
 have b:=run_make (P:=prog) w E.st E.ty p _ E.und j c .i64 .i64 n n Wm (Int.le_refl _) (by rw[e];exact Int.le_trans i Wm) Wm
 rw[d,tN]at b;unfold Oper.wp;simp only[execOp,m,k,Yg,b,Result.andThen,Yq,Oper.upon];refine g _ _ (h _ ⟨⟨?_,.inr ⟨w.heap.size,n,madeCells E.zv.cells (n*E.k),by rw[lR],nR _,?_,?_,?_,?_,?_⟩⟩,by rw[lR];exact f⟩)
 ·rw[qV E]
 ·show(w.heap.push _)[w.heap.size]? =_
  simp
 ·rw[lR];exact nR _
 ·exact qO Wm
 ·rw[size_madeCells]
 rw[lR,List.take_of_length_le (by simp[madeCells]),ziK E]
end
structure Out (B0 B1:Nat) (w w':Xn):Prop where
 os:w'.os=w.os
 tape:w'.tape=w.tape
 output:w'.output=w.output
 size:w.heap.size<=w'.heap.size
 block:∀k,k<w.heap.size->(k<B0\/B1<=k)->w'.heap[k]? =w.heap[k]?
theorem Out.refl (B0 B1:Nat) (w):Out B0 B1 w w:=⟨rfl,rfl,rfl,nR _,fun _ _ _=>rfl⟩
theorem Out.trans {a b c:Xn} (h:Out B0 B1 a b) (k:Out B0 B1 b c):Out B0 B1 a c:=
 ⟨k.os.trans h.os,k.tape.trans h.tape,k.output.trans h.output,nT h.size k.size,fun i e d=>(k.block i (Yv e h.size) d).trans (h.block i e d)⟩
theorem Out.grew {a b:Xn} (h:zc a b):Out B0 B1 a b:=⟨Below.os h,Below.tape h,Below.output h,bS h,fun i c _=>Below.block h i c⟩
theorem Out.setCell (B0 B1:Nat) (w:Xn) {p:Addr} (a:B0<=p.block) (b:p.block<B1) (u):Out B0 B1 w (w.setCell p u):=
 ⟨rfl,rfl,rfl,by simp[World.setCell],fun k _ a=>Below.heap_setCell _ _ _ _ Wm⟩
theorem Out.grown {w:Xn} {b:Option Nat} (a:w.grownBy w' b) (h:∀g,b=Xa g->B0<=g/\g<B1):Out B0 B1 w w':=
 ⟨a.os,a.tape,a.output,a.size,fun k b c=>a.block k b (fun e=>Hm (h k e.symm))⟩
theorem Out.wide {a b:Xn} (h:Out A0 A1 a b) (c:B0<=A0) (d:A1<=B1):Out B0 B1 a b:=
 ⟨h.os,h.tape,h.output,h.size,fun i c d=>h.block i c Wm⟩
theorem Out.drew (w:Xn):Out B0 B1 w w.drew:=Out.grew (gW _)
theorem Out.grew_of {w:Xn} (h:zc w W) (b:w.heap.size<=B0) (k:Out B0 B1 W w'):zc w w':=
 (show Below _ _ _ from Below.trans h ⟨k.os,k.tape,k.output,k.size,fun i a=>k.block i (Yv a (bS h)) (.inl (Yv a b))⟩)
theorem Out.zero {w:Xn} (h:Out 0 0 w w'):zc w w':=⟨h.os,h.tape,h.output,h.size,fun k a=>h.block k a (.inr (nZ _))⟩
theorem Box.out {w:Xn} {cs:List Xq} (h:Box w b cs) (k:Out B0 B1 w w') (c:b<B0\/B1<=b):Box w' b cs:=by
 have a:=h.lt;obtain⟨t,h⟩:=h;exact⟨t,by rw[k.block b a c];exact h⟩
section
variable{α:Type} {E:Elt α}
def zin (E:Elt α) (B0 B1:Nat) (w:Xn) (v:Xq) (l:List α):Prop:=∀w',Out B0 B1 w w'->zl E w' v l
theorem zin.now {w:Xn} {v:Xq} {l:List α} (h:zin E B0 B1 w v l):zl E w v l:=h w (Out.refl _ _ _)
theorem zin.out {w:Xn} {v:Xq} {l:List α} (h:zin E B0 B1 w v l) (k:Out B0 B1 w w'):zin E B0 B1 w' v l:=fun b a=>h b (k.trans a)
theorem zin.less {w:Xn} {v:Xq} {l:List α} (h:zin E B0 B1 w v l) (a:B0<=A0) (b:A1<=B1):zin E A0 A1 w v l:=fun d c=>h d (c.wide a b)
theorem zl.stays (B1:Nat) {w:Xn} {v:Xq} {l:List α} (h:zl E w v l) (a:w.heap.size<=B0) (b:zc w W):zin E B0 B1 W v l:=fun _ k=>h.grew (k.grew_of b a)
theorem zl.s0 {w:Xn} {v:Xq} {l:List α} (h:zl E w v l):zin E 0 0 w v l:=fun _ k=>h.grew k.zero
theorem qE.stays {base:Nat} {w:Xn} {v:Xq} {l:List α} (h:qE E base w v l):zin E 0 base w v l:=fun a k=>by
 obtain⟨⟨⟨b,c,a,d,e⟩,f⟩,g⟩:=h;refine⟨⟨b,c,a,d,fun x b j u c=>?_⟩,f⟩
 subst b;have b:=e x rfl j u c;have d:=World.block_lt_of_cell? _ _ b;have c:=g x _ _ a;rw[World.cell?_of_block (w:=w) (k.block _ d (.inr (Rx QS c)))]
 exact b
theorem qN (E:Elt α) (w:Xn) (x:α) (cs:Array Xq) (t) (a:cs=(E.enc x).toArray) (b:E.bytes<=140737488355328):zl E (w.alloc (Xk cs t)) (O (Xa ⟨w.heap.size,0,Xb⟩) 1 1) [x]:=by
 subst a;refine⟨⟨_,1,rfl,fun h=>(by cases h),fun y a=>?_⟩,Si b⟩
 cases a
 simpa using jP.top w (E.enc x) t rfl
end
def Cap:Xq->Prop
 | O _ n c=>n<=c
 | _=>True
theorem zb.cap {α:Type} {E:Elt α} {base:Nat} {w:Xn} {v:Xq} {l:List α} (h:zb E base w v l):Cap v:=by
 rcases h.1.2 with⟨rfl,_⟩|⟨g,a,a,rfl,_,_,a,_⟩
 ·exact nR _
 exact a
structure qD (D:Nat->Prop) (w w':Xn):Prop where
 os:w'.os=w.os
 tape:w'.tape=w.tape
 output:w'.output=w.output
 size:w.heap.size<=w'.heap.size
 block:∀k,k<w.heap.size->¬D k->w'.heap[k]? =w.heap[k]?
theorem qD.refl (D:Nat->Prop) (w):qD D w w:=⟨rfl,rfl,rfl,nR _,fun _ _ _=>rfl⟩
theorem qD.trans {D:Nat->Prop} {a b c:Xn} (h:qD D a b) (k:qD D b c):qD D a c:=
 ⟨k.os.trans h.os,k.tape.trans h.tape,k.output.trans h.output,nT h.size k.size,fun i e d=>(k.block i (Yv e h.size) d).trans (h.block i e d)⟩
theorem qD.grew {D:Nat->Prop} {a b:Xn} (h:zc a b):qD D a b:=⟨Below.os h,Below.tape h,Below.output h,bS h,fun i c _=>Below.block h i c⟩
theorem qD.wide {D c:Nat->Prop} {a b:Xn} (h:qD c a b) (d:∀k,c k->D k):qD D a b:=⟨h.os,h.tape,h.output,h.size,fun i e c=>h.block i e (fun e=>c (d i e))⟩
section
variable{α:Type} {E:Elt α}
def zqf (E:Elt α) (D:Nat->Prop) (w:Xn) (v:Xq) (l:List α):Prop:=∀w',qD D w w'->zl E w' v l
theorem qE.staysD {base:Nat} {w:Xn} {v:Xq} {l:List α} (h:qE E base w v l) {D:Nat->Prop} (i:∀k,D k->k<base):zqf E D w v l:=fun a k=>by
 obtain⟨⟨⟨b,c,a,d,e⟩,f⟩,g⟩:=h;refine⟨⟨b,c,a,d,fun x b j u c=>?_⟩,f⟩
 subst b;have b:=e x rfl j u c;have c:=World.block_lt_of_cell? _ _ b;have d:=g x _ _ a;rw[World.cell?_of_block (w:=w) (k.block _ c (fun e=>by have:=i _ e;rw[QS]at this;omega))]
 exact b
end
theorem zb.obj {α:Type} {E:Elt α} {base:Nat} {w:Xn} {v:Xq} {l:List α} (h:zb E base w v l) {g:Nat} (b:v.ownBlock=Xa g):∃cs,w.heap[g]? =Xa (Xk cs E.ty (0,0)):=by
 rcases h.1.2 with⟨rfl,_⟩|⟨a,a,a,rfl,_,c,_⟩
 ·cases b
 simp only[Value.ownBlock,Option.some.injEq]at b;subst b;exact⟨a,c⟩
theorem zb.apart {α a:Type} {E:Elt α} {F:Elt a} {base:Nat} {w:Xn} {v u:Xq} {l:List α} {m:List a} (h:zb E base w v l) (k:zb F base' w u m) (ht:E.ty≠F.ty):∀g,v.ownBlock=Xa g->u.ownBlock≠Xa g:=fun g a c=>by
 obtain⟨b,b⟩:=h.obj a;obtain⟨a,a⟩:=k.obj c;rw[b]at a;simp only[Option.some.injEq,Obj.cells.injEq]at a;exact ht a.2.1
theorem zb.one {α:Type} {E:Elt α} {base g n c:Nat} {w:Xn} {l:List α} (h:zb E base w (O (Xa ⟨g,0,Xb⟩) n c) l) {i:Nat} {x:α} (f:l[i]? =Xa x):jP w ((Addr.mk g 0 Xb).add (i*E.k)) (E.enc x):=by
 obtain⟨a,a,e,a⟩:=h.at.rows;obtain⟨b,b,d⟩:=a i _ f;cases e;cases b;exact d w (zc.refl _)
def bel (m n:Int):Bool:=decide (0<=m) && decide (m<n)
theorem JZ {m n:Int}:bel m n=Xc↔0<=m/\m<n:=by simp[bel]
theorem zmA {m n:Int} (h:¬(0<=m/\m<n)):bel m n=Xd:=by
 cases a:bel m n with
 | false=>rfl
 | true=>exact absurd (JZ.1 a) h
theorem zpr {α:Type} {p:α->Bool} {fs:List α} {k:Nat} {q:α} (h:fs[k]? =Xa q) (a:p q=Xc):fs.any p=Xc:=Ye.2 ⟨q,mG h,a⟩
theorem zpq {α:Type} {p:α->Bool} {fs:List α} (a:∀(j:Nat) x,fs[j]? =Xa x->p x=Xd):fs.any p=Xd:=Og.2 fun x c=>by
 obtain⟨j,b⟩:=Xy c;rw[a j x b]
 decide
theorem qS {α:Type} {l:List α} {k:Nat} {q:α} (h:l[k]? =Xa q):l.drop k=q :: l.drop (k+1):=by
 obtain⟨a,rfl⟩:=gS.1 h;exact List.drop_eq_getElem_cons a
theorem qe {α:Type} {l:List α} {k:Nat} {q:α} (h:l[k]? =Xa q):l.take (k+1)=l.take k++ [q]:=by
 rw[Oy,h];rfl
theorem zbz {α:Type} {A:α} {p k:Nat} {s:α} (h:Oz k [(p,A)]=Xa s):k=p/\s=A:=by
 by_cases a:k=p
 ·subst a
  simp at h
  exact⟨rfl,h.symm⟩
 have b:(k == p)=Xd:=Si a
 simp[Oz,b]at h
theorem zjS {α:Type} {A B:α} {p q k:Nat} {s:α} (h:Oz k [(p,A),(q,B)]=Xa s):(k=p/\s=A)\/(k=q/\s=B):=by
 by_cases b:k=p
 ·subst b
  simp at h
  exact .inl ⟨rfl,h.symm⟩
 by_cases c:k=q
 ·subst c;have a:(k == p)=Xd:=Si b
  simp[Oz,a]at h
  exact .inr ⟨rfl,h.symm⟩
 have a:(k == p)=Xd:=Si b
 have b:(k == q)=Xd:=Si c
 simp[Oz,a,b]at h
theorem zl.beside {α:Type} {E:Elt α} {w:Xn} {a:Option Nat} {v:Xq} {l:List α} (h:zl E w v l) (g:w.grownBy w' a) (i:∀x n c,v= O (Xa x) n c->Xa x.block≠a):zl E w' v l:=by
 obtain⟨⟨b,c,a,d,e⟩,f⟩:=h;refine⟨⟨b,c,a,d,fun x d j u b=>?_⟩,f⟩
 subst d;exact g.cell (e x rfl j u b) (by rw[QS];exact i x _ _ a)
theorem zeP {α:Type} {l:List α} {i:Nat} {v:α} (h:l[i]? =Xa v):l.set i v=l:=by
 apply Yo
 intro j
 by_cases e:j=i
 ·subst e;rw[sF (gS.1 h).1,h]
 rw[sN (fun h=>e h.symm)]
theorem jD {a b c:Xn} {d:Option Nat} (h:a.grownBy b d) (k:b.grownBy c d):a.grownBy c d:=
 ⟨k.os.trans h.os,k.tape.trans h.tape,k.output.trans h.output,nT h.size k.size,fun i d e=>(k.block i (Yv d h.size) e).trans (h.block i d e)⟩
theorem zbE {a b:Xn} (h:zc a b) (c:Option Nat):a.grownBy b c:=⟨Below.os h,Below.tape h,Below.output h,bS h,fun i c _=>Below.block h i c⟩
def frv (a:Fr):List Xq:=[Xe Xg a.p.b0,Xe Xg a.p.b1,Xe Xg a.p.b2,Xe Xg a.p.b3,Xe Xg a.p.b4,Xe Xg a.p.b5,Xe Xg a.p.b6,Xe Xg a.p.b7,Xe Xf a.r,Xh a.u,Xh a.d,Xe Xf a.f,Xe Xf a.x]
theorem zqq:(Tryz.prog.info? 62).map (fun i=>(i.zero,i.size,i.bytes))=Xa (Xa (Xi #[Xe Xg 0,Xe Xg 0,Xe Xg 0,Xe Xg 0,Xe Xg 0,Xe Xg 0,Xe Xg 0,Xe Xg 0,Xe Xf 0,Xh Xd,Xh Xd,Xe Xf 0,Xe Xf 0]),13,40):=by kernel_rfl
def frz:Xq:= Xi #[Xe Xg 0,Xe Xg 0,Xe Xg 0,Xe Xg 0,Xe Xg 0,Xe Xg 0,Xe Xg 0,Xe Xg 0,Xe Xf 0,Xh Xd,Xh Xd,Xe Xf 0,Xe Xf 0]
theorem zpU:frz.cells=(frv fr0).toArray:=rfl
theorem zo7 (a):(frv a).length=13:=rfl
theorem zo6 (a):∀u∈frv a,u.oneCell'=Xc:=fun u b=>by
 simp only[frv,mC,nM,or_false]at b
 rcases b with rfl|rfl|rfl|rfl|rfl|rfl|rfl|rfl|rfl|rfl|rfl|rfl|rfl <;> rfl
theorem zcl {a b:Fr} (h:Qf a b=Xc):a=b:=(zdc a b).1 h
theorem znQ {a b:Fr} (h:a≠b):Qf a b=Xd:=by
 cases c:Qf a b with
 | false=>rfl
 | true=>exact absurd (zcl c) h
def qA:Elt Fr where
 enc:=frv
 k:=13
 ty:=62
 st:=26
 bytes:=40
 zv:=frz
 zero:=fr0
 len:=zo7
 one:=zo6
 und:=underlying26
 info:=zqq
 zok:=zpU
 few:=by decide
 pos:=by decide
theorem Ji {P:Program} (w E) (k:IntKind) (d:Nat) (xs c:Array Xq) (i:TypeInfo) (e:P.underlying E=Xa (.int k)) (hi:P.info? E=Xa i) (q:i.size=1):
  ∀(a b:List Int) (o:Nat),a.length=b.length->(∀j v,a[j]? =Xa v->xs[o+j]? =Xa (.int k v))->(∀j v,b[j]? =Xa v->c[o+j]? =Xa (.int k v))->
   (Op.eqItems (d+1) E 1 xs c (List.range' o a.length)).run P w= .ok (decide (a=b)) w
 | [],[],_,_,_,_=>by simp[Op.eqItems]
 | [],_ :: _,_,h,_,_=>by simp at h
 | _ :: _,[],_,h,_,_=>by simp at h
 | x :: a,y :: b,o,h,l,m=>by
  have n:=l 0 x rfl;have p:=m 0 y rfl;have g:∀(f:Array Xq) v,f[o+0]? =Xa (.int k v)->(part E f (o*1)).run P w= .ok (.int k v) w:=fun f v f=>by
   rw[Nat.mul_one];exact run_part_plain w (by simp[Program.plainKey,e]) f
  have r:=Ji w E k d xs c i e hi q a b (o+1) (Si h) (fun j v f=>by rw[Oi,Ot 1 j];exact l (j+1) v (Si f)) (fun j v f=>by rw[Oi,Ot 1 j];exact m (j+1) v (Si f))
  simp only[Yk,List.range'_succ,Op.eqItems,Yg,g xs x n,g c y p,rA,run_equalIn_int w d E k k x y e]
  by_cases c:x=y
  ·subst c
   simp[r]
  have:(x == y)=Xd:=Si c
  simp[this,c]
theorem zdJ {P:Program} (w T E) (k:IntKind) (d n:Nat) (a b:List Int) (i:TypeInfo) (f:P.underlying T=Xa (.array n E)) (e:P.underlying E=Xa (.int k)) (hi:P.info? E=Xa i) (c:i.size=1)
  (g:a.length=n) (h:b.length=n):
  (Op.equalIn (d+2) T (Xi (a.map (Value.int k)).toArray) (Xi (b.map (Value.int k)).toArray)).run P w= .ok (decide (a=b)) w:=by
 have h:P.cellsOf E=1:=by simp[Program.cellsOf,hi,c]
 rw[run_equalIn_array w (d+1) _ _ f hi,h,Un,<-g];exact Ji w E k d _ _ i e hi c a b 0 Wm (fun j v c=>by simp[c]) (fun j v c=>by simp[c])
def ziq (W:Xn) (y:Addr) (a:Fr):Prop:=
 W.cell? y=Xa (Xe Xg a.p.b0)/\W.cell? { block:=y.block,off:=y.off+1 }=Xa (Xe Xg a.p.b1)/\W.cell? { block:=y.block,off:=y.off+2 }=Xa (Xe Xg a.p.b2)/\W.cell? { block:=y.block,off:=y.off+3 }=Xa (Xe Xg a.p.b3)/\
 W.cell? { block:=y.block,off:=y.off+4 }=Xa (Xe Xg a.p.b4)/\W.cell? { block:=y.block,off:=y.off+5 }=Xa (Xe Xg a.p.b5)/\W.cell? { block:=y.block,off:=y.off+6 }=Xa (Xe Xg a.p.b6)/\W.cell? { block:=y.block,off:=y.off+7 }=Xa (Xe Xg a.p.b7)/\
 W.cell? { block:=y.block,off:=y.off+8 }=Xa (Xe Xf a.r)/\W.cell? { block:=y.block,off:=y.off+9 }=Xa (Xh a.u)/\W.cell? { block:=y.block,off:=y.off+10 }=Xa (Xh a.d)/\W.cell? { block:=y.block,off:=y.off+11 }=Xa (Xe Xf a.f)/\W.cell? { block:=y.block,off:=y.off+12 }=Xa (Xe Xf a.x)
theorem jP.fr {y:Addr} {a:Fr} (h:jP W y (frv a)):ziq W y a:=
 ⟨h 0 _ rfl,h 1 _ rfl,h 2 _ rfl,h 3 _ rfl,h 4 _ rfl,h 5 _ rfl,h 6 _ rfl,h 7 _ rfl,h 8 _ rfl,h 9 _ rfl,h 10 _ rfl,h 11 _ rfl,h 12 _ rfl⟩
def zdA (w:Xn) (a:Option Addr) (l:List Fr):Prop:=∀(j:Nat) x,l[j]? =Xa x->∃ad,a=Xa ad/\∀W,zc w W->ziq W (ad.add (j*13)) x
theorem zl.frs {w:Xn} {v:Xq} {l:List Fr} (h:zl qA w v l):∃a c,v= O a l.length c/\zdA w a l:=by
 obtain⟨a,c,h1,h2⟩:=h.rows;refine⟨a,c,h1,fun j x hj=>?_⟩
 obtain⟨ad,h3,h4⟩:=h2 j x hj;exact⟨ad,h3,fun W hW=>(h4 W hW).fr⟩
theorem zqr:(Tryz.prog.info? 5).map (fun i=>(i.zero,i.size,i.bytes))=Xa (Xa (Xe Xg 0),1,1):=by kernel_rfl
theorem ZI (k:Nat) (a b c d e f g h i j l m n p q r:Int) (x):(Op.equalIn (k+2) 60 (Xi #[Xe Xg a,Xe Xg b,Xe Xg c,Xe Xg d,Xe Xg e,Xe Xg f,Xe Xg g,Xe Xg h]) (Xi #[Xe Xg i,Xe Xg j,Xe Xg l,Xe Xg m,Xe Xg n,Xe Xg p,Xe Xg q,Xe Xg r])).run prog x= .ok (zb4 ⟨a,b,c,d,e,f,g,h⟩ ⟨i,j,l,m,n,p,q,r⟩) x:=by
 obtain⟨u,s,_,t,_⟩:=info_parts zqr;have:=zdJ (P:=prog) x 60 5 .u8 k 8 [a,b,c,d,e,f,g,h] [i,j,l,m,n,p,q,r] u underlying60 underlying5 s t rfl rfl;rw[show zb4 ⟨a,b,c,d,e,f,g,h⟩ ⟨i,j,l,m,n,p,q,r⟩=decide ([a,b,c,d,e,f,g,h]=[i,j,l,m,n,p,q,r])from by
  rw[Uk,zaU,decide_eq_true_iff];simp only[Pg.mk.injEq,List.cons.injEq,and_true]]
 exact this
theorem zgy (a b c e g h i j w:Int) (u d:Bool) (f x:Int) (k l m n p q r s y:Int) (u' t:Bool) (v z:Int) (W):
  (Op.equalIn 10000 62 (Xi #[Xe Xg a,Xe Xg b,Xe Xg c,Xe Xg e,Xe Xg g,Xe Xg h,Xe Xg i,Xe Xg j,Xe Xf w,Xh u,Xh d,Xe Xf f,Xe Xf x]) (Xi #[Xe Xg k,Xe Xg l,Xe Xg m,Xe Xg n,Xe Xg p,Xe Xg q,Xe Xg r,Xe Xg s,Xe Xf y,Xh u',Xh t,Xe Xf v,Xe Xf z])).run prog W
   = .ok (Qf ⟨⟨a,b,c,e,g,h,i,j⟩,w,u,d,f,x⟩ ⟨⟨k,l,m,n,p,q,r,s⟩,y,u',t,v,z⟩) W:=by
 have C:Tryz.prog.underlying 62=Xa (.struct (Tryz.prog.fieldsOf 62)):=Kr
 have D:Tryz.prog.stoodInHeld 62=Xd:=Kr
 have A:=ZI 9997 a b c e g h i j k l m n p q r s;have u3:=underlying3;have B:=Tryz.isAgg3;have B:=Tryz.sizeOf3;have u4:=underlying4;have B:=Tryz.isAgg4;have B:=Tryz.sizeOf4;have B:=Tryz.isAgg60;have B:=Tryz.sizeOf60;rw[show Qf ⟨⟨a,b,c,e,g,h,i,j⟩,w,u,d,f,x⟩ ⟨⟨k,l,m,n,p,q,r,s⟩,y,u',t,v,z⟩=(zb4 ⟨a,b,c,e,g,h,i,j⟩ ⟨k,l,m,n,p,q,r,s⟩ &&(w == y) &&(u == u') &&(d == t) &&(f == v) &&(x == z))from rfl]
 generalize zb4 ⟨a,b,c,e,g,h,i,j⟩ ⟨k,l,m,n,p,q,r,s⟩=P at A⊢
 rw[show(10000:Nat)=9999+1 from rfl,run_equalIn_agg W 9999 62 _ _ C D]
 simp only[Program.fieldsOf,underlying62]
 go_simp
 cases P
 ·simp
 by_cases a:w=y <;> by_cases b:u=u' <;> by_cases c:d=t <;> by_cases e:f=v <;> by_cases g:x=z <;> simp[a,b,c,e,g]
theorem zJ.step {P:Program} {a:Act} {w:Xn} {v:Xq} {K:Xq->Xn->Prop} (b:(execOp a.eval o).run P w= .ok (.value v) w') (h:K v w'):zJ P o a w K:=by
 unfold zJ;rw[b];exact h
section
variable{α:Type} {E:Elt α}
theorem Ze {w:Xn} {base g:Nat} (n) (q:zb E base w (O (Xa ⟨g,0,Xb⟩) 0 0) ([]:List α)) (a) (l:List α) (e:zl E w a l) (b:base<=w.heap.size):
  ∃d w',(Builtin.append_ #[E.st,E.st] n #[O (Xa ⟨g,0,Xb⟩) 0 0,a]).run prog w= .ok d w'/\zb E base w' d l/\zc w w'/\(l=[]->d= O (Xa ⟨g,0,Xb⟩) 0 0):=by
 obtain⟨s,f,h,i,j⟩:=info_parts E.info;obtain⟨⟨k,p,rfl,c,a⟩,m⟩:=e
 by_cases e:l=[]
 ·subst e;refine⟨_,w,?_,q,zc.refl w,fun _=>rfl⟩
  cases k with
  | none=>simp[Builtin.append_,run_underlying E.und,sizeOf,typeInfo,f,Builtin.lenOf,Builtin.firstCells,storeCells]
  | some x=>simp[Builtin.append_,run_underlying E.und,sizeOf,typeInfo,f,Builtin.lenOf,Builtin.firstCells,loadCells,loadCellsFrom,storeCells]
 cases k with
 | none=>exact absurd (c rfl) e
 | some k=>
  have c:=List.length_pos_iff.2 e;have c:l.length*1<=l.length*E.bytes:=Yr _ (nT E.pos E.few);obtain⟨d,w',r,q,c⟩:=run_append_arg_grows (P:=prog) w E.st n E.ty s _ E.k E.bytes E.und f h i j (zmU E) E.pos ⟨g,0,Xb⟩ 0 0 [] Sm (fun j u f=>by simp at f) k l.length p (l.flatMap E.enc) (qV E l) (a k rfl) Wm (qO Wm) (Si m)
  refine⟨d,w',r,⟨qZ (Si q) b,m⟩,⟨c.os,c.tape,c.output,c.size,fun k a=>c.block k a Sm⟩,fun h=>absurd h e⟩
theorem qx {w:Xn} {base:Nat} {v:Xq} {l0:List α} (x) (j:zb E base w v l0) (a) (l:List α) (f:zl E w a l) (q:(l0.length+l.length)*E.bytes<=140737488355328) (d:base<=w.heap.size):
  ∃n w',(Builtin.append_ #[E.st,E.st] x #[v,a]).run prog w= .ok n w'/\zb E base w' n (l0++l)/\w.grownBy w' v.ownBlock/\∀u m,m.length<=l0.length->zb E base w u m->zb E base w' u m:=by
 obtain⟨H,G,s,g,t⟩:=info_parts E.info;obtain⟨⟨c,y,rfl,b,a⟩,e⟩:=f;have e:(l0.length+l.length)*1<=(l0.length+l.length)*E.bytes:=Yr _ (nT E.pos E.few)
 cases c with
 | none=>
  have c:=b rfl;subst c;exact⟨v,w,JC x j y,Si j,World.grownBy.rfl' _ _,fun u m _ h=>h⟩
 | some i=>
  rcases j.1.2 with⟨rfl,b⟩|⟨B,e,b,rfl,b,F,b,b,C,D⟩
  ·obtain⟨n,w',r,k,b,_⟩:=run_append_own (P:=prog) w base E.st x E.ty H _ E.k E.bytes E.und G s g t (zmU E) E.pos _ l0.length _ j.1 i l.length y (l.flatMap E.enc) (qV E l) (a i rfl) (je E.one l) (qO Wm) q d
   refine⟨n,w',r,⟨by rw[lA,Od];exact k,Rx lA q⟩,b,fun u m _ h=>h.grown b (fun z _ p=>by cases p)⟩
  by_cases c:l0.length+l.length<=e
  ·obtain⟨w',r,k,b⟩:=run_append_fits (P:=prog) w base E.st x E.ty H E.k E.und G g B l0.length e _ j.1 i l.length y (l.flatMap E.enc) (qV E l) (a i rfl) (je E.one l) c;refine⟨_,w',r,⟨by rw[lA,Od];exact k,Rx lA q⟩,b,fun u m M h=>?_⟩
   by_cases A:u.ownBlock=Xa B
   ·rcases h.1.2 with⟨rfl,_⟩|⟨z,f,c,rfl,Q,c,R,S,K,T⟩
    ·cases A
    simp only[Value.ownBlock,Option.some.injEq]at A;subst A;rw[F]at c;simp only[Option.some.injEq,Obj.cells.injEq,and_true]at c;obtain rfl:=c;have c:f=e:=Nat.eq_of_mul_eq_mul_right E.pos (K.symm.trans C);subst c
    rcases k.2 with⟨N,_⟩|⟨c,c,c,C,_,F,K,K,K,L⟩
    ·cases N
    cases C;refine⟨⟨h.1.1,.inr ⟨z,f,c,rfl,Q,F,R,S,K,?_⟩⟩,h.2⟩;have f:m.length*E.k<=l0.length*E.k:=Oa _ M;have C:=qV E l0;have F:c.toList.take (m.length*E.k)=(c.toList.take ((l0.length+l.length)*E.k)).take (m.length*E.k):=by
     rw[List.take_take,Ul (by rw[Ox];omega)]
    rw[F,L,Ol (Rx C f),<-D,List.take_take,Ul f]
    exact T
   exact h.grown b (fun z c p=>by cases p;exact A c)
  obtain⟨n,w',r,k,b⟩:=run_append_arg_grows (P:=prog) w E.st x E.ty H _ E.k E.bytes E.und G s g t (zmU E) E.pos ⟨B,0,Xb⟩ l0.length e (l0.flatMap E.enc) (qV E l0) (j.1.cells rfl) i l.length y (l.flatMap E.enc) (qV E l) (a i rfl) Wm (qO Wm) q
  refine⟨n,w',r,⟨by rw[lA,Od];exact qZ k d,Rx lA q⟩,⟨b.os,b.tape,b.output,b.size,fun k a _=>b.block k a Sm⟩,fun u m _ h=>h.grown b (fun z _ p=>by cases p)⟩
end
def pgc (p:List Int):List Xq:=p.map (Value.int .u8)
def ptc (q:Int × List Int):List Xq:= Xe Xf q.1 :: pgc q.2
theorem Zr (p:List Int):(pgc p).length=p.length:=by simp[pgc]
theorem zbt (q:Int × List Int):(ptc q).length=q.2.length+1:=by simp[ptc,pgc]
theorem jd (p):∀u∈pgc p,u.oneCell'=Xc:=fun u a=>by
 obtain⟨x,_,rfl⟩:=Yc.1 a;rfl
theorem zcK (q:Int × List Int):∀u∈ptc q,u.oneCell'=Xc:=fun u a=>by
 rcases mC.1 a with rfl|h
 ·rfl
 exact jd _ u h
def jk (w:Xn) (v:Xq) (ps:List (List Int)):Prop:=jF pgc w v ps/\(∀p∈ps,p.length=8)/\ps.length*8<=140737488355328
def jz (w:Xn) (v:Xq) (qs:List (Int × List Int)):Prop:=jF ptc w v qs/\(∀q∈qs,q.2.length=8)/\qs.length*16<=140737488355328
theorem jk.grew {w:Xn} {v:Xq} {a:List (List Int)} (h:jk w v a) (b:zc w w'):jk w' v a:=⟨h.1.grew b,h.2⟩
theorem jz.grew {w:Xn} {v:Xq} {a:List (Int × List Int)} (h:jz w v a) (b:zc w w'):jz w' v a:=⟨h.1.grew b,h.2⟩
def zh (base:Nat) (w:Xn) (v:Xq) (ps:List (List Int)):Prop:=w.ownsRow base 60 8 v ps.length (ps.flatMap pgc)/\(∀p∈ps,p.length=8)/\ps.length*8<=140737488355328
def zt (base:Nat) (w:Xn) (v:Xq) (qs:List (Int × List Int)):Prop:=w.ownsRow base 69 9 v qs.length (qs.flatMap ptc)/\(∀q∈qs,q.2.length=8)/\qs.length*16<=140737488355328
theorem zh.at {base:Nat} {w:Xn} {v:Xq} {a:List (List Int)} (h:zh base w v a):jk w v a:=⟨ZO h.1,h.2⟩
theorem zt.at {base:Nat} {w:Xn} {v:Xq} {a:List (Int × List Int)} (h:zt base w v a):jz w v a:=⟨ZO h.1,h.2⟩
def ZB (w:Xn) (d:Xq) (ps:List (List Int)) (qs:List (Int × List Int)):Prop:=∃b q,d= Xi #[b,q]/\jk w b ps/\jz w q qs
theorem ZB.grew {w:Xn} {d:Xq} {b:List (List Int)} {c:List (Int × List Int)} (h:ZB w d b c) (a:zc w w'):ZB w' d b c:=by
 obtain⟨b,q,c,e,f⟩:=h;exact⟨b,q,c,e.grew a,f.grew a⟩
theorem zdB (l:List Int) (i:l.length=8):∃a b c d e f g h,l=[a,b,c,d,e,f,g,h]:=by
 match l,i with
 | [a,b,c,d,e,f,g,h],_=>exact⟨a,b,c,d,e,f,g,h,rfl⟩
def zjd (W:Xn) (y:Addr) (m b0 b1 b2 b3 b4 b5 b6 b7:Int):Prop:=
 W.cell? y=Xa (Xe Xf m)/\W.cell? { block:=y.block,off:=y.off+1 }=Xa (Xe Xg b0)/\W.cell? { block:=y.block,off:=y.off+2 }=Xa (Xe Xg b1)/\W.cell? { block:=y.block,off:=y.off+3 }=Xa (Xe Xg b2)/\
 W.cell? { block:=y.block,off:=y.off+4 }=Xa (Xe Xg b3)/\W.cell? { block:=y.block,off:=y.off+5 }=Xa (Xe Xg b4)/\W.cell? { block:=y.block,off:=y.off+6 }=Xa (Xe Xg b5)/\W.cell? { block:=y.block,off:=y.off+7 }=Xa (Xe Xg b6)/\W.cell? { block:=y.block,off:=y.off+8 }=Xa (Xe Xg b7)
def zg7 (W:Xn) (y:Addr) (b0 b1 b2 b3 b4 b5 b6 b7:Int):Prop:=
 W.cell? y=Xa (Xe Xg b0)/\W.cell? { block:=y.block,off:=y.off+1 }=Xa (Xe Xg b1)/\W.cell? { block:=y.block,off:=y.off+2 }=Xa (Xe Xg b2)/\W.cell? { block:=y.block,off:=y.off+3 }=Xa (Xe Xg b3)/\
 W.cell? { block:=y.block,off:=y.off+4 }=Xa (Xe Xg b4)/\W.cell? { block:=y.block,off:=y.off+5 }=Xa (Xe Xg b5)/\W.cell? { block:=y.block,off:=y.off+6 }=Xa (Xe Xg b6)/\W.cell? { block:=y.block,off:=y.off+7 }=Xa (Xe Xg b7)
theorem jP.put {y:Addr} {m a b c d e f g i:Int} (h:jP W y (ptc (m,[a,b,c,d,e,f,g,i]))):zjd W y m a b c d e f g i:=
 ⟨h 0 _ rfl,h 1 _ rfl,h 2 _ rfl,h 3 _ rfl,h 4 _ rfl,h 5 _ rfl,h 6 _ rfl,h 7 _ rfl,h 8 _ rfl⟩
theorem jP.page {y:Addr} {a b c d e f g i:Int} (h:jP W y (pgc [a,b,c,d,e,f,g,i])):zg7 W y a b c d e f g i:=
 ⟨h 0 _ rfl,h 1 _ rfl,h 2 _ rfl,h 3 _ rfl,h 4 _ rfl,h 5 _ rfl,h 6 _ rfl,h 7 _ rfl⟩
def zdz (w:Xn) (a:Option Addr) (qs:List (Int × List Int)):Prop:=
 ∀(j:Nat) q,qs[j]? =Xa q->∃x m b0 b1 b2 b3 b4 b5 b6 b7,a=Xa x/\q=(m,[b0,b1,b2,b3,b4,b5,b6,b7])/\∀W,zc w W->zjd W (x.add (j*9)) m b0 b1 b2 b3 b4 b5 b6 b7
def zje (w:Xn) (a:Option Addr) (ps:List (List Int)):Prop:=
 ∀(j:Nat) p,ps[j]? =Xa p->∃x b0 b1 b2 b3 b4 b5 b6 b7,a=Xa x/\p=[b0,b1,b2,b3,b4,b5,b6,b7]/\∀W,zc w W->zg7 W (x.add (j*8)) b0 b1 b2 b3 b4 b5 b6 b7
theorem jz.rows {w:Xn} {v:Xq} {d:List (Int × List Int)} (r:jz w v d):∃a c,v= O a d.length c/\zdz w a d:=by
 obtain⟨⟨a,c,s,t,u⟩,e,_⟩:=r;refine⟨a,c,s,fun D C f=>?_⟩
 have b:=mG f;obtain⟨B,A⟩:=C;obtain⟨h,i,j,l,m,n,p,q,rfl⟩:=zdB A (e _ b)
 cases a with
 | none=>rw[t rfl]at b;cases b
 | some x=>exact⟨x,B,h,i,j,l,m,n,p,q,rfl,rfl,fun W y=>(((u x rfl).grew y).elem (k:=9) (fun g z=>by rw[zbt,e g z]) f).put⟩
theorem jk.rows {w:Xn} {v:Xq} {d:List (List Int)} (r:jk w v d):∃a c,v= O a d.length c/\zje w a d:=by
 obtain⟨⟨a,c,s,t,u⟩,e,_⟩:=r;refine⟨a,c,s,fun B A f=>?_⟩
 have b:=mG f;obtain⟨h,i,j,l,m,n,p,q,rfl⟩:=zdB A (e _ b)
 cases a with
 | none=>rw[t rfl]at b;cases b
 | some x=>exact⟨x,h,i,j,l,m,n,p,q,rfl,rfl,fun W y=>(((u x rfl).grew y).elem (k:=8) (fun g z=>by rw[Zr,e g z]) f).page⟩
theorem JO (a) (n c:Nat) (q) (m:Int) (w):
  Xp prog 108 #[Xi #[O a n c,q],Xe Xf m] w fun e w'=>e= Xl (Xh (jn m n))/\zc w w':=by
 have H:Xo (jn m n=(decide (0<=m) && decide (m<n))):=rfl
 by_cases b:0<=m
 ·by_cases b:m<n
  ·go_enter func108,ntmps108
   go_wp2;go_ret;exact⟨by rw[H.out];simp[*],(bR _ _).alloc (nR _) _⟩
  go_enter func108,ntmps108
  go_wp2;go_ret;exact⟨by rw[H.out];simp[*],(bR _ _).alloc (nR _) _⟩
 go_enter func108,ntmps108
 go_wp2;go_ret;exact⟨by rw[H.out];simp;omega,(bR _ _).alloc (nR _) _⟩
theorem zjh (a) (n c:Nat) (f) (B:Nat) (q:Int × List Int) (m:q.2.length=8) (w:Xn) (b:w.cell? ⟨B,0,Xb⟩=Xa (O a n c)) (d:w.cell? ⟨B,1,Xb⟩=Xa f):
  Xp prog 107 #[Xi (ptc q).toArray,Xj (Xa ⟨B,0,Xb⟩)] w fun e w'=>e= Xl (Xh (!jn q.1 n))/\zc w w':=by
 obtain⟨r,p⟩:=q;obtain⟨d,f,g,h,i,j,k,l,rfl⟩:=zdB p m;have m:=World.block_lt_of_cell? _ _ b;have b:B≠w.heap.size:=by simp at m;omega
 show Xp prog 107 #[Xi #[Xe Xf r,Xe Xg d,Xe Xg f,Xe Xg g,Xe Xg h,Xe Xg i,Xe Xg j,Xe Xg k,Xe Xg l],Xj (Xa ⟨B,0,Xb⟩)] w _
 go_enter func107,ntmps107
 go_wp2_with (go_at_call 108;refine(JO _ _ _ _ _ _).mono ?_;rintro e w' ⟨rfl,b⟩)
 go_ret;exact⟨rfl,zc.trans ((bR _ _).alloc (nR _) _) b⟩
def zqo (p:Int × List Int->Bool) (qs:List (Int × List Int)) (r:Int):Prop:=
 (r=-1/\∀(j:Nat) q,qs[j]? =Xa q->p q=Xd)\/∃(k:Nat) (q:Int × List Int),r=(k:Int)/\qs[k]? =Xa q/\p q=Xc/\∀(j:Nat) q',j<k->qs[j]? =Xa q'->p q'=Xd
def zmI (g:Nat) (lb:Array Xq) (p:Int × List Int->Bool) (w:Xn):Prop:=
 ∀W q,zc w W->q.2.length=8->Xp prog g (#[Xi (ptc q).toArray]++lb) W fun e W'=>e= Xl (Xh (p q))/\zc W W'
theorem zfa (p:Int × List Int->Bool) (g:Nat) (lb:Array Xq) (a6:∀c w,(callFunc g c).run prog w= .ok (.enter g c) w) (v) (k:List (Int × List Int)) (w) (z:jz w v k) (hp:zmI g lb p w):
  Xp prog 137 #[v,.func (.func g) #[] lb] w fun e w'=>∃P:Int,e= Xl (Xe Xf P)/\zc w w'/\zqo p k P:=by
 obtain⟨W,X,rfl,d⟩:=z.rows;have m:k.length<=9223372036854775807:=Hm z.2.2
 have R:=dD d;have Q:=dD hp;clear d hp z;obtain⟨n,y⟩:=kB k.length;have B:=dD y;rw[y]at m⊢;clear y
 go_enter func137,ntmps137
 go_wp2
 go_loopg [5,8] n (fun S _ V wr=>∃b:Nat,b<=n/\n - b<=S/\V= Xe Xf b/\Xo (zc w wr)/\Xo (∀j q,j<b->k[j]? =Xa q->p q=Xd))
 exact⟨0,nZ _,Wm,rfl,zc.refl w,fun j q r=>absurd r (nL _)⟩
 obtain⟨b,T,a7,rfl,l,A⟩:=hrel
 by_cases h:b<n
 ·have t:=kC h
  have s:b<k.length:=Rx B.out h
  obtain⟨q,x⟩:∃q,Xo (k[b]? =Xa q):=⟨_,gE s⟩;obtain⟨a8,N,C,D,E,F,G,H,K,L,rfl,rfl,M⟩:=R.out b q x.out;obtain⟨Y,Z,I,a0,a1,a2,a3,a4,a5⟩:=M wr l.out;have a:=Q.out wr (N,[C,D,E,F,G,H,K,L]) l rfl;clear M s
  cases u:p (N,[C,D,E,F,G,H,K,L])with
  | true=>
   rw[u]at a
   go_wp2_with (go_at_fn g;refine a.mono ?_;rintro e w' ⟨rfl,f⟩)
   go_ret;exact⟨_,rfl,l.trans f, .inr ⟨b,_,rfl,x,u,A⟩⟩
  | false=>
   rw[u]at a
   go_wp2_with (go_at_fn g;refine a.mono ?_;rintro e w' ⟨rfl,f⟩)
   go_roundg (n -(b+1))
   case measure=>omega
   refine⟨b+1,Wm,Wm,Gn,l.trans f,(show Xo _ from fun j U r i=>?_)⟩
   by_cases e:j=b
   ·subst e;rw[x.out]at i;cases i;exact u
   exact A j U Wm i
 have t:=kD h
 have:b=n:=Wm
 subst this;go_wp2;go_ret;refine⟨_,rfl,l,.inl ⟨rfl,fun j q r=>A.out j q ?_ r⟩⟩
 have:=(gS.1 r).1;rw[B.out]at this;exact this
theorem zca (p:Int × List Int->Bool) (g:Nat) (lb:Array Xq) (c:∀a w,(callFunc g a).run prog w= .ok (.enter g a) w) (v) (b:List (Int × List Int)) (w) (d:jz w v b) (hp:zmI g lb p w):
  Xp prog 106 #[v,.func (.func g) #[] lb] w fun e w'=>e= Xl (Xh (b.any p))/\zc w w':=by
 have a:=zfa p g lb c v b w d hp;clear d hp c
 go_enter func106,ntmps106
 go_wp2_with (go_at_call 137;refine a.mono ?_;rintro e w' ⟨r,rfl,d,a⟩)
 go_ret;have c:b.any p=decide (0<=r):=by
  rcases a with⟨rfl,h⟩|⟨k,q,rfl,a,b,_⟩
  ·rw[show decide ((0:Int)<=-1)=Xd from rfl,Og]
   intro q i;obtain⟨j,f⟩:=Xy i;rw[h j q f];simp
  rw[show decide ((0:Int)<=(k:Int))=Xc from Sm,Ye]
  exact⟨q,mG a,b⟩
 rw[c];exact⟨rfl,d⟩
theorem zhC (a) (n c:Nat) (g) (B:Nat) (w:Xn) (b:w.cell? ⟨B,0,Xb⟩=Xa (O a n c)) (d:w.cell? ⟨B,1,Xb⟩=Xa g):
  zmI 107 #[Xj (Xa ⟨B,0,Xb⟩)] (fun q=>!jn q.1 n) w:=fun W q f h=>by
 have e:=World.block_lt_of_cell? _ _ b;exact zjh a n c g B q h W ((Below.cell f (p:=⟨B,0,Xb⟩) e).trans b) ((Below.cell f (p:=⟨B,1,Xb⟩) e).trans d)
theorem zaH (a) (n c:Nat) (r) (d:List (Int × List Int)) (w) (l:jz w r d):
  Xp prog 73 #[Xi #[O a n c,r]] w fun e w'=>e= Xl (Xe Xf (zF n d))/\zc w w':=by
 have f:Xo (zF n d=if 80<n then 4 else if 400<d.length then 4 else if d.any (fun q=>!jn q.1 n)then 3 else 0):=rfl
 obtain⟨g,h,rfl,_⟩:=l.rows;have b:=zca (fun q=>!jn q.1 n) 107 #[Xj (Xa ⟨w.heap.size,0,Xb⟩)] (enters_of func107 Kr rfl) (O g d.length h) d (w.alloc (Xk #[O a n c,O g d.length h] 34)) (l.grew (za _ _)) (zhC a n c (O g d.length h) _ _ Sm Sm)
 clear l;obtain⟨nq,t⟩:=kA d.length;rw[t.out]at b f⊢;obtain⟨u,s⟩:=kA (d.any fun q=>!jn q.1 n)
 rw[s.out]at b f
 by_cases m:80<n
 ·have i:(80:Int)< (n:Int):=Wm
  rw[kE m]at f;clear b
  go_enter func73,ntmps73
  go_wp2;go_ret;exact⟨Rr f.out,za _ _⟩
 have i:¬(80:Int)< (n:Int):=Wm
 rw[kF m]at f
 by_cases p:400<nq
 ·have j:(400:Int)< (nq:Int):=Wm
  rw[kE p]at f;clear b
  go_enter func73,ntmps73
  go_wp2;go_ret;exact⟨Rr f.out,za _ _⟩
 have j:¬(400:Int)< (nq:Int):=Wm
 rw[kF p]at f
 cases u with
 | true=>
  go_enter func73,ntmps73
  go_wp2_with (go_at_call 106;refine b.mono ?_;rintro e w' ⟨rfl,k⟩)
  go_ret;exact⟨Rr f.out,(za _ _).trans k⟩
 | false=>
  go_enter func73,ntmps73
  go_wp2_with (go_at_call 106;refine b.mono ?_;rintro e w' ⟨rfl,k⟩)
  go_ret;exact⟨Rr f.out,(za _ _).trans k⟩
theorem QV (a) (n c:Nat) (h) (d:List (Int × List Int)) (m:Int) (w) (g:jz w h d):
  Xp prog 147 #[Xi #[O a n c,h],Xe Xf m] w fun e w'=>e= Xl (Xe Xf (zk n d m))/\zc w w':=by
 have f:Xo (zk n d m=if zF n d=0 then(if jn m n then 0 else 3)else zF n d):=rfl;have b:=zaH a n c h d (w.alloc (Xk #[O a n c,h] 34)) (g.grew (za _ _));clear g;obtain⟨r,g⟩:=kA (zF n d);rw[g.out]at b f
 by_cases j:r=0
 ·subst j;rw[kE rfl]at f
  cases i:jn m n with
  | true=>
   rw[i]at f
   go_enter func147,ntmps147
   go_wp2_with (first
    | (go_at_call 73;refine b.mono ?_;rintro e w' ⟨rfl,d⟩;have l:w'.cell? ⟨w.heap.size,0,Xb⟩=Xa (O a n c):=(Below.cell d Sm).trans Sm;have p:w'.cell? ⟨w.heap.size,1,Xb⟩=Xa h:=(Below.cell d Sm).trans Sm)
    | (go_at_call 108;refine(JO _ _ _ _ _ _).mono ?_;rintro e k ⟨rfl,g⟩;rw[i]))
   go_ret;exact⟨Rr f.out,((za _ _).trans d).trans g⟩
  | false=>
   rw[i]at f
   go_enter func147,ntmps147
   go_wp2_with (first
    | (go_at_call 73;refine b.mono ?_;rintro e w' ⟨rfl,d⟩;have l:w'.cell? ⟨w.heap.size,0,Xb⟩=Xa (O a n c):=(Below.cell d Sm).trans Sm;have p:w'.cell? ⟨w.heap.size,1,Xb⟩=Xa h:=(Below.cell d Sm).trans Sm)
    | (go_at_call 108;refine(JO _ _ _ _ _ _).mono ?_;rintro e k ⟨rfl,g⟩;rw[i]))
   go_ret;exact⟨Rr f.out,((za _ _).trans d).trans g⟩
 have g:(r != 0)=Xc:=Si j
 rw[kF j]at f
 go_enter func147,ntmps147
 go_wp2_with (go_at_call 73;refine b.mono ?_;rintro e w' ⟨rfl,d⟩)
 go_ret;exact⟨Rr f.out,(za _ _).trans d⟩
theorem zqs:(Tryz.prog.info? 60).map (fun i=>(i.zero,i.size,i.bytes))=Xa (Xa (Xi #[Xe Xg 0,Xe Xg 0,Xe Xg 0,Xe Xg 0,Xe Xg 0,Xe Xg 0,Xe Xg 0,Xe Xg 0]),8,8):=by kernel_rfl
theorem zqt:(Tryz.prog.info? 69).map (fun i=>(i.zero,i.size,i.bytes))=Xa (Xa (Xi #[Xe Xf 0,Xe Xg 0,Xe Xg 0,Xe Xg 0,Xe Xg 0,Xe Xg 0,Xe Xg 0,Xe Xg 0,Xe Xg 0]),9,16):=by kernel_rfl
theorem zak (v) (f:List (List Int)) (w:Xn) (i:jk w v f):
  Xp prog 98 #[v] w fun e w'=>∃h,e= Xl h/\zh w.heap.size w' h f/\zc w w':=by
 obtain⟨⟨d,g,rfl,c,b⟩,j,a⟩:=i;have i:∀(w:Xn) (d:Option Addr) (n g k i:Nat),(binOp .eql 31 (O d n g) (O Xb k i)).run prog w= .ok (Xh d.isNone) w:=fun w d n g k i=>Lib.run_eql_slice_nil w _ _ d n g k i underlying31
 cases d with
 | none=>
  have d:=c rfl;subst d;clear b c j a
  go_enter func98,ntmps98
  go_wp2;go_ret;exact⟨_,rfl,⟨World.ownsRow_nil _ _ _ _,Sm,Sm⟩,zc.refl w⟩
 | some x=>
  have A:=b x rfl;have k:=dD A;have d:=dD a;have i:=dD j;clear b c a j;obtain⟨l,j,a,b,c⟩:=info_parts zqs
  go_enter func98,ntmps98
  go_wp2_with (at_builtin;refine wpList_append_own _ rfl _ _ 31 rfl w.heap.size 60 l _ 8 8 underlying31 j a b c rfl Dc _ _ _ rfl (World.ownsRow_made w #[] 0 (nR _) (nZ _) Sm) x f.length g (f.flatMap pgc) rfl ?qc1 ?qc2 ?qc3 ?qc4 ?qc5 ?qc6 ?_)
  case qc1=>exact qQ f fun p a=>by rw[Zr,i.out p a]
  case qc2=>exact k.grew (za _ _)
  case qc3=>exact je jd f
  case qc4=>rw[zA];exact qO (Hm d.out)
  case qc5=>rw[zA];exact d.out
  case qc6=>simp
  intro h a b a c;go_wp2;go_ret;exact⟨h,rfl,⟨Si b,i,d⟩,((bR _ w).alloc (nR _) _).grown a Sm (by intro k a;simp[Value.ownBlock]at a;omega)⟩
theorem zfo (v) (f:List (Int × List Int)) (w:Xn) (i:jz w v f):
  Xp prog 123 #[v] w fun e w'=>∃h,e= Xl h/\zt w.heap.size w' h f/\zc w w':=by
 obtain⟨⟨d,g,rfl,c,b⟩,j,a⟩:=i;have i:∀(w:Xn) (d:Option Addr) (n g k i:Nat),(binOp .eql 32 (O d n g) (O Xb k i)).run prog w= .ok (Xh d.isNone) w:=fun w d n g k i=>Lib.run_eql_slice_nil w _ _ d n g k i underlying32
 cases d with
 | none=>
  have d:=c rfl;subst d;clear b c j a
  go_enter func123,ntmps123
  go_wp2;go_ret;exact⟨_,rfl,⟨World.ownsRow_nil _ _ _ _,Sm,Sm⟩,zc.refl w⟩
 | some x=>
  have A:=b x rfl;have k:=dD A;have d:=dD a;have i:=dD j;clear b c a j;obtain⟨l,j,a,b,c⟩:=info_parts zqt
  go_enter func123,ntmps123
  go_wp2_with (at_builtin;refine wpList_append_own _ rfl _ _ 32 rfl w.heap.size 69 l _ 9 16 underlying32 j a b c rfl Dc _ _ _ rfl (World.ownsRow_made w #[] 0 (nR _) (nZ _) Sm) x f.length g (f.flatMap ptc) rfl ?qc1 ?qc2 ?qc3 ?qc4 ?qc5 ?qc6 ?_)
  case qc1=>exact qQ f fun p a=>by rw[zbt,i.out p a]
  case qc2=>exact k.grew (za _ _)
  case qc3=>exact je zcK f
  case qc4=>rw[zA];exact qO (Hm d.out)
  case qc5=>rw[zA];exact d.out
  case qc6=>simp
  intro h a b a c;go_wp2;go_ret;exact⟨h,rfl,⟨Si b,i,d⟩,((bR _ w).alloc (nR _) _).grown a Sm (by intro k a;simp[Value.ownBlock]at a;omega)⟩
def zaG (base:Nat) (w:Xn) (d:Xq) (ps:List (List Int)) (qs:List (Int × List Int)):Prop:=∃b q,d= Xi #[b,q]/\zh base w b ps/\zt base w q qs
theorem zh.grew {base:Nat} {w:Xn} {v:Xq} {a:List (List Int)} (h:zh base w v a) (b:zc w w'):zh base w' v a:=⟨JG h.1 b,h.2⟩
theorem zt.grew {base:Nat} {w:Xn} {v:Xq} {a:List (Int × List Int)} (h:zt base w v a) (b:zc w w'):zt base w' v a:=⟨JG h.1 b,h.2⟩
theorem zh.base {base:Nat} {w:Xn} {v:Xq} {a:List (List Int)} (h:zh base w v a) (b:base'<=base):zh base' w v a:=⟨qZ h.1 b,h.2⟩
theorem zt.base {base:Nat} {w:Xn} {v:Xq} {a:List (Int × List Int)} (h:zt base w v a) (b:base'<=base):zt base' w v a:=⟨qZ h.1 b,h.2⟩
theorem zh.slice {base:Nat} {w:Xn} {v:Xq} {b:List (List Int)} (h:zh base w v b):∃a n c,v= O a n c:=by
 rcases h.1.2 with⟨rfl,_⟩|⟨g,b,b,rfl,_⟩
 ·exact⟨_,_,_,rfl⟩
 exact⟨_,_,_,rfl⟩
theorem zt.slice {base:Nat} {w:Xn} {v:Xq} {b:List (Int × List Int)} (h:zt base w v b):∃a n c,v= O a n c:=by
 rcases h.1.2 with⟨rfl,_⟩|⟨g,b,b,rfl,_⟩
 ·exact⟨_,_,_,rfl⟩
 exact⟨_,_,_,rfl⟩
theorem zh.setCell {base:Nat} {w:Xn} {v:Xq} {b:List (List Int)} (h:zh base w v b) {a:Addr} (c:a.block<base) (u):zh base (w.setCell a u) v b:=⟨ownsRow_setCell_below h.1 c u,h.2⟩
theorem zt.setCell {base:Nat} {w:Xn} {v:Xq} {b:List (Int × List Int)} (h:zt base w v b) {a:Addr} (c:a.block<base) (u):zt base (w.setCell a u) v b:=⟨ownsRow_setCell_below h.1 c u,h.2⟩
def qa (base:Nat) (w:Xn) (d:Xq) (ps:List (List Int)) (qs:List (Int × List Int)):Prop:=∃b q,d= Xi #[b,q]/\jk w b ps/\jz w q qs/\j4 base b/\j4 base q
theorem qa.base {base:Nat} {w:Xn} {d:Xq} {b:List (List Int)} {c:List (Int × List Int)} (h:qa base w d b c) (a:base'<=base):qa base' w d b c:=by
 obtain⟨b,q,c,e,f,g,i⟩:=h;exact⟨b,q,c,e,f,fun x n c e=>nT a (g x n c e),fun x n c e=>nT a (i x n c e)⟩
theorem qa.setCell {base:Nat} {w:Xn} {d:Xq} {b:List (List Int)} {c:List (Int × List Int)} (i:qa base w d b c) {a:Addr} (g:a.block<base) (u):qa base (w.setCell a u) d b c:=by
 obtain⟨h,q,j,b,c,e,f⟩:=i;exact⟨h,q,j,⟨b.1.setCell e g u,b.2⟩,⟨c.1.setCell f g u,c.2⟩,e,f⟩
theorem zh.fresh {base:Nat} {w:Xn} {v:Xq} {a:List (List Int)} (h:zh base w v a):j4 base v:=fun x n c e=>by
 rcases h.1.2 with⟨a,_⟩|⟨g,b,b,a,b,_⟩
 ·rw[a]at e;cases e
 rw[a]at e;cases e;exact b
theorem zt.fresh {base:Nat} {w:Xn} {v:Xq} {a:List (Int × List Int)} (h:zt base w v a):j4 base v:=fun x n c e=>by
 rcases h.1.2 with⟨a,_⟩|⟨g,b,b,a,b,_⟩
 ·rw[a]at e;cases e
 rw[a]at e;cases e;exact b
theorem zaG.new {base:Nat} {w:Xn} {d:Xq} {a:List (List Int)} {b:List (Int × List Int)} (h:zaG base w d a b):qa base w d a b:=by
 obtain⟨c,q,e,a,b⟩:=h;exact⟨c,q,e,a.at,b.at,a.fresh,b.fresh⟩
theorem zcP (d) (g:List (List Int)) (h:List (Int × List Int)) (w:Xn) (b:ZB w d g h):
  Xp prog 88 #[d] w fun e w'=>∃a,e= Xl a/\zaG w.heap.size w' a g h/\zc w w':=by
 obtain⟨a,q,rfl,c,a⟩:=b;have E:=dD c;have F:=dD a;obtain⟨l,n,rfl,_⟩:=c.rows;obtain⟨m,q,rfl,_⟩:=a.rows;clear c a
 go_enter func88,ntmps88
 go_wp2;obtain⟨a,b⟩:=kB ((w.alloc (Xk #[O l g.length n,O m h.length q] 34)).alloc (Xk #[O Xb 0 0,O Xb 0 0] 34));have i:=gD2 b
 have k:Xo (a.heap.size=w.heap.size+2):=dD<|by rw[<-b];simp
 have A:a.cell? ⟨w.heap.size,0,Xb⟩=Xa (O l g.length n):=by rw[<-b];simp
 have B:a.cell? ⟨w.heap.size,1,Xb⟩=Xa (O m h.length q):=by rw[<-b];simp
 have r:a.cell? ⟨w.heap.size+1,0,Xb⟩=Xa (O Xb 0 0):=by rw[<-b];simp
 have s:a.cell? ⟨w.heap.size+1,1,Xb⟩=Xa (O Xb 0 0):=by rw[<-b];simp
 have C:a.frozen? ⟨w.heap.size+1,0,Xb⟩=Xd:=by rw[<-b];simp
 have D:a.frozen? ⟨w.heap.size+1,1,Xb⟩=Xd:=by rw[<-b];simp
 rw[b];have y:∀x:ze a,x.world.cell? ⟨w.heap.size,0,Xb⟩=Xa (O l g.length n):=fun x=>(Below.cell x.grew (World.block_lt_of_cell? _ _ A)).trans A
 have z:∀x:ze a,x.world.cell? ⟨w.heap.size,1,Xb⟩=Xa (O m h.length q):=fun x=>(Below.cell x.grew (World.block_lt_of_cell? _ _ B)).trans B
 have t:Nonempty (ze a):=⟨⟨_,zc.refl _⟩⟩;refine jb 7 [(2,⟨fun f=>∃a u j,f= O a u j,fun f w'=>zh (w.heap.size+2) w' f g⟩),(5,⟨fun f=>∃a u j,f= O a u j,fun f w'=>zt (w.heap.size+2) w' f h⟩)] z6 Kr rfl rfl Dc ?_ ?_ ?_
 ·intro x a
  simp at a
  rcases a with rfl|rfl
  ·exact⟨_,Xb,0,0,rfl⟩
  exact⟨_,Xb,0,0,rfl⟩
 ·intro x a
  simp at a
  rcases a with rfl|rfl
  ·intro f u x a j;exact j.grew a
  intro f u x a j;exact j.grew a
 simp only[List.take,List.drop];iterate 2 refine zg ?_
 refine zx rfl rfl (fun w' a j=>?_) (fun G u=>?_)
 ·refine zJ.call [O l g.length n] rfl func98 rfl rfl rfl ?_;refine(zak _ g w' (E.grew (i.out.trans a))).mono ?_;rintro e g ⟨E,rfl,c,f⟩;exact⟨_,rfl,f,c.slice,c.base (by have:=bS a;rw[k.out]at this;exact this)⟩
 obtain⟨l,x,n,rfl⟩:=u;refine Uq ?_;iterate 2 refine zg ?_
 refine zx rfl rfl (fun w' a j=>?_) (fun G u=>?_)
 ·refine zJ.call [O m h.length q] rfl func123 rfl rfl rfl ?_;refine(zfo _ h w' (F.grew (i.out.trans a))).mono ?_;rintro e g ⟨E,rfl,c,f⟩;exact⟨_,rfl,f,c.slice,c.base (by have:=bS a;rw[k.out]at this;exact this)⟩
 obtain⟨h,m,k,rfl⟩:=u;refine Uq ?_;refine zg ?_
 refine qd fun w' a j=>?_
 have c:=dD<|j 2;have f:=dD<|j 5;have g:=(Below.cell a (World.block_lt_of_cell? _ _ r)).trans r;have g:=(Below.cell a (World.block_lt_of_cell? _ _ s)).trans s;have g:=(Below.frozen a (World.block_lt_of_cell? _ _ r)).trans C;have g:=(Below.frozen a (World.block_lt_of_cell? _ _ s)).trans D;have g:=dD (i.out.trans a);clear j A B r s C D y z b a t;go_wp2;refine bodyPost_ret (v:= Xi #[O l x n,O h m k]) (by simp[results,Tryz.results88,go_sem, *]) rfl ⟨_,rfl,⟨_,_,rfl,((c.out.setCell Sm _).setCell Sm _).base Wm,((f.out.setCell Sm _).setCell Sm _).base Wm⟩,?_⟩
 exact Below.setCell (Below.setCell g (p:=⟨w.heap.size+1,0,Xb⟩) Sm _) (p:=⟨w.heap.size+1,1,Xb⟩) Sm _
def siv (z:Int):List Xq:=[Xe Xf z]
theorem zqu:(Tryz.prog.info? 3).map (fun i=>(i.zero,i.size,i.bytes))=Xa (Xa (Xe Xf 0),1,8):=by kernel_rfl
def slE:Elt Int where
 enc:=siv
 k:=1
 ty:=3
 st:=30
 bytes:=8
 zv:= Xe Xf 0
 zero:=0
 len:=fun _=>rfl
 one:=fun a u hu=>by
  simp only[siv,mC,nM,or_false]at hu;subst hu;rfl
 und:=underlying30
 info:=zqu
 zok:=rfl
 few:=by decide
 pos:=by decide
def zjb (w:Xn) (a:Option Addr) (l:List Int):Prop:=∀(j:Nat) x,l[j]? =Xa x->∃ad,a=Xa ad/\∀W,zc w W->W.cell? (ad.add j)=Xa (Xe Xf x)
theorem zl.sls {w:Xn} {v:Xq} {l:List Int} (h:zl slE w v l):∃a c,v= O a l.length c/\zjb w a l:=by
 obtain⟨a,c,b,d⟩:=h.rows;refine⟨a,c,b,fun j x g=>?_⟩
 obtain⟨b,e,f⟩:=d j x g;refine⟨b,e,fun W b=>?_⟩
 have:=f W b 0 _ rfl;rw[zS,show j*slE.k+0=j from by show j*1+0=j;omega]at this
 exact this
def niv (z:Int):List Xq:=[Xe Xf z]
theorem zqv:(Tryz.prog.info? 3).map (fun i=>(i.zero,i.size,i.bytes))=Xa (Xa (Xe Xf 0),1,8):=by kernel_rfl
def blE:Elt Int where
 enc:=niv
 k:=1
 ty:=3
 st:=29
 bytes:=8
 zv:= Xe Xf 0
 zero:=0
 len:=fun _=>rfl
 one:=fun a u hu=>by
  simp only[niv,mC,nM,or_false]at hu;subst hu;rfl
 und:=underlying29
 info:=zqv
 zok:=rfl
 few:=by decide
 pos:=by decide
def zmJ (w:Xn) (a:Option Addr) (l:List Int):Prop:=∀(j:Nat) x,l[j]? =Xa x->∃ad,a=Xa ad/\∀W,zc w W->W.cell? (ad.add j)=Xa (Xe Xf x)
theorem zl.nums {w:Xn} {v:Xq} {l:List Int} (h:zl blE w v l):∃a c,v= O a l.length c/\zmJ w a l:=by
 obtain⟨a,c,b,d⟩:=h.rows;refine⟨a,c,b,fun j x g=>?_⟩
 obtain⟨b,e,f⟩:=d j x g;refine⟨b,e,fun W b=>?_⟩
 have:=f W b 0 _ rfl;rw[zS,show j*blE.k+0=j from by show j*1+0=j;omega]at this
 exact this
end
section
def inL (n:Nat) (k:Int):Bool:=decide (0<=k) && decide (k< (n:Int))
def zmy (fs:List Fl) (k:Int):List Int:=match fs[k.toNat]? with | some f=>f.bl | none=>[]
def zpF (fs:List Fl) (k:Int):Int:=match fs[k.toNat]? with | some f=>f.size | none=>0
def zg8 (fs:List Fl) (cnt k n:Int):Int:=if stW fs cnt=0 then(if inL fs.length k=Xc then(if 0<=n/\n<=96 then 0 else 3)else 5)else stW fs cnt
def zpz (fs:List Fl) (cnt k n:Int):List Fl:=if zg8 fs cnt k n=0 then fs.set k.toNat ⟨n,zpH (zmy fs k) (Jn n).toNat⟩else []
def zpJ (fs:List Fl) (cnt k n:Int):Int:=if zg8 fs cnt k n=0 then cnt else 0
def j9 (fs:List Fl) (cnt k x:Int):Int:=if stW fs cnt=0 then(if inL fs.length k=Xc then(if inL (zmy fs k).length x=Xc then(if(zmy fs k).getD x.toNat 0=-1 then(if ZR fs cnt=[]then 10 else 0)else 0)else 9)else 5)else stW fs cnt
def zos (fs:List Fl) (cnt k x:Int):Int:=if(zmy fs k).getD x.toNat 0=-1 then(((ZR fs cnt).headD 0:Nat):Int)else(zmy fs k).getD x.toNat 0
def zig (fs:List Fl) (cnt k x:Int):Int:=if j9 fs cnt k x=0 then zos fs cnt k x else 0
def zha (fs:List Fl) (cnt k x:Int):List Fl:=if j9 fs cnt k x=0 then fs.set k.toNat ⟨zpF fs k,(zmy fs k).set x.toNat (zos fs cnt k x)⟩else []
def zkM (fs:List Fl) (cnt k x:Int):Int:=if j9 fs cnt k x=0 then cnt else 0
theorem Qv {n:Nat} {k:Int}:inL n k=Xc↔0<=k/\k< (n:Int):=by simp[inL]
theorem zpI (fs:List Fl) (a k n:Int):
  (stW fs a≠0/\zg8 fs a k n=stW fs a/\zpz fs a k n=[]/\zpJ fs a k n=0)\/
  (stW fs a=0/\¬(0<=k/\k< (fs.length:Int))/\zg8 fs a k n=5/\zpz fs a k n=[]/\zpJ fs a k n=0)\/
  (stW fs a=0/\∃(i:Nat) (f:Fl),k=(i:Int)/\fs[i]? =Xa f/\¬(0<=n/\n<=96)/\zg8 fs a k n=3/\zpz fs a k n=[]/\zpJ fs a k n=0)\/
  (stW fs a=0/\∃(i:Nat) (f:Fl),k=(i:Int)/\fs[i]? =Xa f/\(0<=n/\n<=96)/\zg8 fs a k n=0/\zpz fs a k n=fs.set i ⟨n,zpH f.bl (Jn n).toNat⟩/\zpJ fs a k n=a):=by
 have g:∀z,zg8 fs a k n=z->z≠0->zpz fs a k n=[]/\zpJ fs a k n=0:=fun z h b=>by
  have:¬zg8 fs a k n=0:=Wm
  exact⟨kF this,kF this⟩
 by_cases b:stW fs a=0
 ·by_cases d:0<=k/\k< (fs.length:Int)
  ·obtain⟨i,rfl⟩:∃i:Nat,k=(i:Int):=⟨k.toNat,Wm⟩
   obtain⟨f,e⟩:∃f,fs[i]? =Xa f:=⟨_,gE Wm⟩
   have j:=Qv.2 d
   by_cases c:0<=n/\n<=96
   ·have h:zg8 fs a i n=0:=by unfold zg8;rw[kE b,kE j,kE c]
    refine .inr (.inr (.inr ⟨b,i,f,rfl,e,c,h,?_,kE h⟩));unfold zpz zmy;rw[kE h,tN,e]
   have h:zg8 fs a i n=3:=by unfold zg8;rw[kE b,kE j,kF c]
   exact .inr (.inr (.inl ⟨b,i,f,rfl,e,c,h,g _ h Dc⟩))
  have h:zg8 fs a k n=5:=by unfold zg8;rw[kE b,kF (Rx Qv d)]
  exact .inr (.inl ⟨b,d,h,g _ h Dc⟩)
 have h:zg8 fs a k n=stW fs a:=by unfold zg8;rw[kF b]
 exact .inl ⟨b,h,g _ h b⟩
theorem zmx (fs:List Fl) (a k x:Int):
  (stW fs a≠0/\j9 fs a k x=stW fs a/\zha fs a k x=[]/\zkM fs a k x=0/\zig fs a k x=0)\/
  (stW fs a=0/\¬(0<=k/\k< (fs.length:Int))/\j9 fs a k x=5/\zha fs a k x=[]/\zkM fs a k x=0/\zig fs a k x=0)\/
  (stW fs a=0/\∃(i:Nat) (f:Fl),k=(i:Int)/\fs[i]? =Xa f/\¬(0<=x/\x< (f.bl.length:Int))/\j9 fs a k x=9/\zha fs a k x=[]/\zkM fs a k x=0/\zig fs a k x=0)\/
  (stW fs a=0/\∃(i:Nat) (f:Fl) (j:Nat) (b:Int),k=(i:Int)/\fs[i]? =Xa f/\x=(j:Int)/\f.bl[j]? =Xa b/\0<=b/\b<a/\j9 fs a k x=0/\zha fs a k x=fs/\zkM fs a k x=a/\zig fs a k x=b)\/
  (stW fs a=0/\∃(i:Nat) (f:Fl) (j:Nat),k=(i:Int)/\fs[i]? =Xa f/\x=(j:Int)/\f.bl[j]? =Xa (-1)/\ZR fs a=[]/\j9 fs a k x=10/\zha fs a k x=[]/\zkM fs a k x=0/\zig fs a k x=0)\/
  (stW fs a=0/\∃(i:Nat) (f:Fl) (j:Nat) (b:Nat) (l:List Nat),k=(i:Int)/\fs[i]? =Xa f/\x=(j:Int)/\f.bl[j]? =Xa (-1)/\ZR fs a=b :: l/\j9 fs a k x=0/\zha fs a k x=fs.set i ⟨f.size,f.bl.set j (b:Int)⟩/\zkM fs a k x=a/\zig fs a k x=(b:Int)):=by
 have r:∀z,j9 fs a k x=z->z≠0->zha fs a k x=[]/\zkM fs a k x=0/\zig fs a k x=0:=fun z h C=>by
  have:¬j9 fs a k x=0:=Wm
  exact⟨kF this,kF this,kF this⟩
 by_cases c:stW fs a=0
 ·by_cases s:0<=k/\k< (fs.length:Int)
  ·obtain⟨i,rfl⟩:∃i:Nat,k=(i:Int):=⟨k.toNat,Wm⟩
   obtain⟨f,e⟩:∃f,fs[i]? =Xa f:=⟨_,gE Wm⟩
   have q:=Qv.2 s;have d:zmy fs (i:Int)=f.bl:=by unfold zmy;rw[tN,e]
   have y:zpF fs (i:Int)=f.size:=by unfold zpF;rw[tN,e]
   by_cases t:0<=x/\x< (f.bl.length:Int)
   ·obtain⟨j,rfl⟩:∃j:Nat,x=(j:Int):=⟨x.toNat,Wm⟩
    obtain⟨b,m⟩:∃b,f.bl[j]? =Xa b:=⟨_,gE Wm⟩
    have g:=Qv.2 t;have p:f.bl.getD (j:Int).toNat 0=b:=by rw[tN,gD,m];rfl
    by_cases u:b=-1
    ·subst u
     cases v:ZR fs a with
     | nil=>
      have h:j9 fs a i j=10:=by unfold j9;rw[kE c,kE q,d,kE g,p,kE rfl,kE v]
      exact .inr (.inr (.inr (.inr (.inl ⟨c,i,f,j,rfl,e,rfl,m,rfl,h,r _ h Dc⟩))))
     | cons b l=>
      have h:j9 fs a i j=0:=by unfold j9;rw[kE c,kE q,d,kE g,p,kE rfl,kF (by rw[v];simp)]
      have n:zos fs a i j=(b:Int):=by unfold zos;rw[d,p,kE rfl,v];rfl
      refine .inr (.inr (.inr (.inr (.inr ⟨c,i,f,j,b,l,rfl,e,rfl,m,rfl,h,?_,kE h,?_⟩))))
      ·unfold zha;rw[kE h,n,d,y,tN,tN]
      unfold zig;rw[kE h,n]
    have h:j9 fs a i j=0:=by unfold j9;rw[kE c,kE q,d,kE g,p,kF u]
    have n:zos fs a i j=b:=by unfold zos;rw[d,p,kF u]
    have B:=(((qi fs a).1 c).2.1 f (mG e)).2.2 b (mG m);refine .inr (.inr (.inr (.inl ⟨c,i,f,j,b,rfl,e,rfl,m,Wm,Wm,h,?_,kE h,?_⟩)))
    ·unfold zha;rw[kE h,n,d,y,tN,tN];have A:f.bl.set j b=f.bl:=by
      obtain⟨w,rfl⟩:=gS.1 m;exact Um w
     rw[A];obtain⟨w,rfl⟩:=gS.1 e;exact Um w
    unfold zig;rw[kE h,n]
   have h:j9 fs a i x=9:=by unfold j9;rw[kE c,kE q,d,kF (Rx Qv t)]
   exact .inr (.inr (.inl ⟨c,i,f,rfl,e,t,h,r _ h Dc⟩))
  have h:j9 fs a k x=5:=by unfold j9;rw[kE c,kF (Rx Qv s)]
  exact .inr (.inl ⟨c,s,h,r _ h Dc⟩)
 have h:j9 fs a k x=stW fs a:=by unfold j9;rw[kF c]
 exact .inl ⟨c,h,r _ h c⟩
theorem zi9 (f:Fl):∀(fs:List Fl) (i:Nat) (b:Fl),fs[i]? =Xa b->Z4 (fs.set i f)=Z4 (fs.take i)++(f.bl++Z4 (fs.drop (i+1)))/\Z4 fs=Z4 (fs.take i)++(b.bl++Z4 (fs.drop (i+1)))
 | [],i,b,h=>by simp at h
 | a :: l,0,b,h=>by
  simp at h
  subst h
  simp[Z4]
 | a :: l,i+1,b,h=>by
  obtain⟨c,d⟩:=zi9 f l i b (Si h)
  unfold Z4 at c d⊢;simp only[sS,Yf,List.take_succ_cons,List.drop_succ_cons,Yj];rw[c,<-d];exact⟨rfl,rfl⟩
theorem znA {fs:List Fl} {a:Int} (h:b∈ZR fs a):(b:Int)<a/\(b:Int)∉Z4 fs:=by
 unfold ZR at h;obtain⟨c,a⟩:=Xz.1 h;have:=Xs.1 c;refine⟨Wm,fun h=>?_⟩
 rw[(Qk fs _).2 h]at a;cases a
theorem zoT {A C l:List Int} {b:Int} (d:l[j]? =Xa (-1)):∀x,x≠-1->(x∈A++(l.set j b++C)↔(x∈A++(l++C)\/x=b)):=fun x g=>by
 have c:=(gS.1 d).1;have:x∈l.set j b↔x∈l\/x=b:=by
  constructor
  ·intro h;exact(Xw h)
  rintro(h|rfl)
  ·obtain⟨f,a⟩:=Xy h
   by_cases e:f=j
   ·subst e;rw[d]at a;cases a;exact absurd rfl g
   exact mG (i:=f) (by rw[sN (fun h=>e h.symm)];exact a)
  exact mG (i:=j) (by rw[sF c])
 simp only[Xt,this];constructor
 ·rintro(h | (h|h) | h) <;> simp[h]
 rintro((h|h|h) | h) <;> simp[h]
theorem zjz {l:List Int} (b:Int) (d:b≠-1) (c:l[j]? =Xa (-1)):Z7 (l.set j b)=Z7 (l.take j)++(b :: Z7 (l.drop (j+1)))/\Z7 l=Z7 (l.take j)++Z7 (l.drop (j+1)):=by
 obtain⟨a,e⟩:=gS.1 c;have c:l.set j b=l.take j++b :: l.drop (j+1):=List.set_eq_take_append_cons_drop.trans (kE a);have a:l=l.take j++(-1) :: l.drop (j+1):=by
  rw[<-e,List.getElem_cons_drop,List.take_append_drop]
 unfold Z7;constructor
 ·rw[c,Yl,Ys (Si d)]
 conv=>lhs;rw[a]
 rw[Yl,Ue Sm]
theorem zlr {A B C:List Int} {b:Int} (h:(A++(B++C)).Nodup) (i:b∉A) (f:b∉B++C):(A++((B++(b :: C)))).Nodup:=by
 rw[Yy]at h⊢;obtain⟨l,d,g⟩:=h;have m:=d;rw[Yy]at d;obtain⟨n,p,q⟩:=d;have j:b∉B:=fun h=>f (Xt.2 (.inl h))
 have k:b∉C:=fun h=>f (Xt.2 (.inr h))
 refine⟨l,?_,fun x c y a=>?_⟩
 ·rw[Yy];refine⟨n,Oe.2 ⟨k,p⟩,fun x c y a=>?_⟩
  rcases mC.1 a with rfl|a
  ·exact fun e=>j (e ▸ c)
  exact q x c y a
 rcases Xt.1 a with a|a
 ·exact g x c y (Xt.2 (.inl a))
 rcases mC.1 a with rfl|a
 ·exact fun e=>i (e ▸ c)
 exact g x c y (Xt.2 (.inr a))
theorem zj3 {fs:List Fl} {a:Int} {i:Nat} {f:Fl} (h:stW fs a=0) (q:fs[i]? =Xa f) (r:f.bl[j]? =Xa (-1)) (l:b∈ZR fs a):
  stW (fs.set i ⟨f.size,f.bl.set j (b:Int)⟩) a=0/\(ZR (fs.set i ⟨f.size,f.bl.set j (b:Int)⟩) a).length+1=(ZR fs a).length:=by
 obtain⟨g,d⟩:=znA l;obtain⟨⟨c,s,t⟩,e,p⟩:=(qi fs a).1 h;obtain⟨n,k⟩:=zi9 ⟨f.size,f.bl.set j (b:Int)⟩ fs i f q;have m:(b:Int)≠-1:=Wm
 constructor
 ·refine(qi _ _).2 ⟨⟨Rx Yx c,s,t⟩,fun s c=>?_,?_⟩
  ·rcases Xw c with c | rfl
   ·exact e s c
   obtain⟨c,s,t⟩:=e f (mG q);refine⟨c,by simp only[Yx];exact s,fun c e=>?_⟩
   rcases Xw e with e|rfl
   ·exact t c e
   exact .inr ⟨Wm,g⟩
  obtain⟨q,s⟩:=zjz (b:Int) m r;have g:∀A B:List Int,Z7 (A++B)=Z7 A++Z7 B:=fun A B=>Yl ..
  rw[n,g,g,q,Yj];rw[k,g,g,s,Yj]at p;rw[k]at d;have q:∀L:List Int,(b:Int)∉L->(b:Int)∉Z7 L:=fun L h m=>h (Xz.1 m).1
  have m:(b:Int)∉Z7 (f.bl.take j)++(Z7 (f.bl.drop (j+1))++Z7 (Z4 (fs.drop (i+1)))):=by
   intro h;refine q _ (fun h=>d (Xt.2 (.inr h))) (?_:(b:Int)∈Z7 (f.bl++Z4 (fs.drop (i+1))))
   rw[g,s,Yj];exact h
  exact zlr p (q _ (fun h=>d (Xt.2 (.inl h)))) m
 have g:∀c:Nat,zR (fs.set i ⟨f.size,f.bl.set j (b:Int)⟩) (c:Int)=(zR fs (c:Int) || decide (c=b)):=fun c=>by
  rw[Uk,Om,Qk,Qk,n,k,zoT r _ Wm,decide_eq_true_eq,Int.ofNat_inj]
 have d:ZR (fs.set i ⟨f.size,f.bl.set j (b:Int)⟩) a=(ZR fs a).erase b:=by
  have h:(ZR fs a).Nodup:=List.Nodup.sublist List.filter_sublist List.nodup_range;rw[List.Nodup.erase_eq_filter h];unfold ZR;rw[Ux]
  congr 1
  funext c
  rw[g c]
  by_cases e:c=b <;> simp[e]
 rw[d,Ub l];have:=List.length_pos_of_mem l;omega
end
section
open Go.RowKit
structure FlV where
 size:Int
 a:Option Addr
 n:Nat
 c:Nat
def FlV.v (x:FlV):Xq:= O x.a x.n x.c
def flv (x:FlV):List Xq:=[Xe Xf x.size,O x.a x.n x.c]
theorem zqw:(Tryz.prog.info? 65).map (fun i=>(i.zero,i.size,i.bytes))=Xa (Xa (Xi #[Xe Xf 0,O Xb 0 0]),2,32):=by kernel_rfl
def fvE:Elt FlV where
 enc:=flv
 k:=2
 ty:=65
 st:=35
 bytes:=32
 zv:= Xi #[Xe Xf 0,O Xb 0 0]
 zero:=⟨0,Xb,0,0⟩
 len:=fun _=>rfl
 one:=fun a u hu=>by
  simp only[flv,mC,nM,or_false]at hu
  rcases hu with rfl|rfl <;> rfl
 und:=underlying35
 info:=zqw
 zok:=rfl
 few:=by decide
 pos:=by decide
def jo (B0 B1:Nat) (w:Xn) (v:Xq) (fs:List Fl):Prop:=
 Cap v/\∃xs:List FlV,zin fvE B0 B1 w v xs/\xs.length=fs.length/\∀(i:Nat) x f,xs[i]? =Xa x->fs[i]? =Xa f->x.size=f.size/\zin blE B0 B1 w (O x.a x.n x.c) f.bl
def qg (w:Xn) (v:Xq) (fs:List Fl):Prop:=jo 0 0 w v fs
theorem jo.out {w:Xn} {v:Xq} {fs:List Fl} (h:jo B0 B1 w v fs) (k:Out B0 B1 w w'):jo B0 B1 w' v fs:=by
 obtain⟨d,e,b,c,a⟩:=h;exact⟨d,e,b.out k,c,fun i x f c b=>⟨(a i x f c b).1,(a i x f c b).2.out k⟩⟩
theorem jo.grew {w:Xn} {v:Xq} {fs:List Fl} (h:jo B0 B1 w v fs) (k:zc w w'):jo B0 B1 w' v fs:=h.out (Out.grew k)
theorem jo.less {w:Xn} {v:Xq} {fs:List Fl} (h:jo B0 B1 w v fs) (a:B0<=A0) (b:A1<=B1):jo A0 A1 w v fs:=by
 obtain⟨c,g,d,f,e⟩:=h;exact⟨c,g,d.less a b,f,fun i x f d c=>⟨(e i x f d c).1,(e i x f d c).2.less a b⟩⟩
theorem qg.grew {w:Xn} {v:Xq} {fs:List Fl} (h:qg w v fs) (k:zc w w'):qg w' v fs:=jo.grew h k
theorem jo.nil (B0 B1:Nat) (w):jo B0 B1 w (O Xb 0 0) []:=⟨nR _,[],fun a _=>zl.nil fvE a,rfl,fun i x f a=>by simp at a⟩
def zmM (W:Xn) (y:Addr) (s:Int) (b:Xq):Prop:=W.cell? y=Xa (Xe Xf s)/\W.cell? { block:=y.block,off:=y.off+1 }=Xa b
def J1 (w:Xn) (a:Option Addr) (fs:List Fl):Prop:=∀(j:Nat) f,fs[j]? =Xa f->∃ad,a=Xa ad/\∃xa xc,zl blE w (O xa f.bl.length xc) f.bl/\∀W,zc w W->zmM W (ad.add (j*2)) f.size (O xa f.bl.length xc)
theorem qg.rows {w:Xn} {v:Xq} {fs:List Fl} (h:qg w v fs):∃a c,v= O a fs.length c/\fs.length<=9223372036854775807/\J1 w a fs:=by
 obtain⟨_,i,d,b,l⟩:=h;obtain⟨a,c,e,g⟩:=d.now.rows;refine⟨a,c,Ry b e,Ry b d.now.short,fun j k e=>?_⟩
 obtain⟨x,f⟩:∃x,i[j]? =Xa x:=⟨_,gE (by rw[b];exact(gS.1 e).1)⟩
 obtain⟨h,i,d⟩:=g j x f;obtain⟨g,m⟩:=l j x k f e;have b:=m.now;obtain⟨⟨e,e,e,_⟩,_⟩:=id b;cases x;simp only at g b e;cases e;subst g;refine⟨h,i,_,_,b,fun W b=>⟨?_,?_⟩⟩
 ·exact d W b 0 _ rfl
 exact d W b 1 _ rfl
theorem zdv (m n:Int) (w):
  Xp prog 101 #[Xe Xf m,Xe Xf n] w fun e w'=>e= Xl (Xh (bel m n))/\w'=w:=by
 have H:Xo (bel m n=(decide (0<=m) && decide (m<n))):=rfl
 by_cases a:0<=m
 ·by_cases a:m<n
  ·go_enter func101,ntmps101
   go_wp2;go_ret;exact⟨by rw[H.out];simp[*],rfl⟩
  go_enter func101,ntmps101
  go_wp2;go_ret;exact⟨by rw[H.out];simp[*],rfl⟩
 go_enter func101,ntmps101
 go_wp2;go_ret;exact⟨by rw[H.out];simp;omega,rfl⟩
theorem Zm {m n:Int} (a:0<=m) (b:m<n) (w):Xp prog 101 #[Xe Xf m,Xe Xf n] w fun e w'=>e= Xl (Xh Xc)/\w'=w:=by
 have:=zdv m n w;rw[JZ.2 ⟨a,b⟩]at this;exact this
theorem zbi {m n:Int} (h:¬(0<=m/\m<n)) (w):Xp prog 101 #[Xe Xf m,Xe Xf n] w fun e w'=>e= Xl (Xh Xd)/\w'=w:=by
 have:=zdv m n w;rw[zmA h]at this;exact this
theorem zcE {a b:Int} (h:a=b):Ending.returned (Xe Xf a)= Xl (Xe Xf b):=by rw[h]
theorem zmo (n:Int) (w) (a:0<=n) (b:n<=96):
  Xp prog 139 #[Xe Xf n] w fun e w'=>e= Xl (Xe Xf (Jn n))/\w'=w:=by
 by_cases h:n<1
 ·have H:Xo (Jn n=0):=dD<|by unfold Jn;rw[kE h]
  go_enter func139,ntmps139
  go_wp2;go_ret;exact⟨zcE H.symm,rfl⟩
 have H:Xo (Jn n=(n - 1) / 8+1):=dD<|by unfold Jn;rw[kF h]
 go_enter func139,ntmps139
 go_wp2;go_ret;exact⟨zcE H.symm,rfl⟩
theorem zbS (n:Int) (w) (c:0<=n) (d:n<=96):
  Xp prog 16 #[Xe Xf n] w fun e w'=>e= Xl (Xe Xf (Jn n))/\w'=w:=by
 by_cases h:n<1
 ·have H:Xo (Jn n=0):=dD<|by unfold Jn;rw[kE h]
  have b:n<=0:=Wm
  go_enter func16,ntmps16
  go_wp2;go_ret;exact⟨zcE H.symm,rfl⟩
 have H:Xo (Jn n=(n - 1) / 8+1):=dD<|by unfold Jn;rw[kF h]
 have b:¬n<=0:=Wm
 by_cases f:0<n % 8
 ·have a:Xo (Jn n=n / 8+1):=dD<|by rw[H.out];omega
  go_enter func16,ntmps16
  go_wp2;go_ret;exact⟨zcE a.symm,rfl⟩
 have a:Xo (Jn n=n / 8):=dD<|by rw[H.out];omega
 go_enter func16,ntmps16
 go_wp2;go_ret;exact⟨zcE a.symm,rfl⟩
theorem zgU (v fs) (w:Xn) (h:zl blE w v fs):
  Xp prog 66 #[v] w fun e w'=>∃g,e= Xl g/\zb blE w.heap.size w' g fs/\zc w w':=by
 have j:=dD h;obtain⟨⟨d,f,rfl,b,c⟩,a⟩:=h;have h:∀(w:Xn) (d:Option Addr) (n f i h:Nat),(binOp .eql 29 (O d n f) (O Xb i h)).run prog w= .ok (Xh d.isNone) w:=fun w d n f i h=>Lib.run_eql_slice_nil w _ _ d n f i h underlying29
 cases d with
 | none=>
  have d:=b rfl;subst d;clear c b a
  go_enter func66,ntmps66
  go_wp2;go_ret;exact⟨_,rfl,zb.nil _ _ _,zc.refl w⟩
 | some x=>
  have d:=dD a;clear c b a
  go_enter func66,ntmps66
  go_wp2_with (at_builtin;refine zn (E:=blE) rfl (.tmp 5) (.tmp 6) rfl w.heap.size _ [] rfl (zb.made blE w) _ fs rfl (j.grew (za _ _)) ?qb Sm ?_)
  case qb=>rw[Yn,zA];exact d.out
  intro g a b a;go_wp2;go_ret;exact⟨g,rfl,Si b,((bR _ w).alloc (nR _) _).grown a Sm (by intro k a;simp[Value.ownBlock]at a;omega)⟩
theorem zfp (v) (fs:List FlV) (w:Xn) (h:zl fvE w v fs):
  Xp prog 65 #[v] w fun e w'=>∃g,e= Xl g/\zb fvE w.heap.size w' g fs/\zc w w':=by
 have j:=dD h;obtain⟨⟨d,f,rfl,b,c⟩,a⟩:=h;have h:∀(w:Xn) (d:Option Addr) (n f i h:Nat),(binOp .eql 35 (O d n f) (O Xb i h)).run prog w= .ok (Xh d.isNone) w:=fun w d n f i h=>Lib.run_eql_slice_nil w _ _ d n f i h underlying35
 cases d with
 | none=>
  have d:=b rfl;subst d;clear c b a
  go_enter func65,ntmps65
  go_wp2;go_ret;exact⟨_,rfl,zb.nil _ _ _,zc.refl w⟩
 | some x=>
  have d:=dD a;clear c b a
  go_enter func65,ntmps65
  go_wp2_with (at_builtin;refine zn (E:=fvE) rfl (.tmp 5) (.tmp 6) rfl w.heap.size _ [] rfl (zb.made fvE w) _ fs rfl (j.grew (za _ _)) ?qb Sm ?_)
  case qb=>rw[Yn,zA];exact d.out
  intro g a b a;go_wp2;go_ret;exact⟨g,rfl,Si b,((bR _ w).alloc (nR _) _).grown a Sm (by intro k a;simp[Value.ownBlock]at a;omega)⟩
def jg (base:Nat) (w:Xn) (v:Xq) (fs:List Fl):Prop:=
 ∃xs:List FlV,zb fvE base w v xs/\xs.length=fs.length/\(∀(i:Nat) x f,xs[i]? =Xa x->fs[i]? =Xa f->x.size=f.size/\zb blE base w x.v f.bl)/\
  ∀(i j:Nat) x y,i≠j->xs[i]? =Xa x->xs[j]? =Xa y->∀g,x.v.ownBlock=Xa g->y.v.ownBlock≠Xa g
theorem jg.new {base:Nat} {w:Xn} {v:Xq} {fs:List Fl} (h:jg base w v fs):jo 0 base w v fs:=by
 obtain⟨d,a,c,b,_⟩:=h;exact⟨a.cap,d,a.new.stays,c,fun i x f c a=>⟨(b i x f c a).1,(b i x f c a).2.new.stays⟩⟩
theorem jg.grew {base:Nat} {w:Xn} {v:Xq} {fs:List Fl} (h:jg base w v fs) (k:zc w w'):jg base w' v fs:=by
 obtain⟨e,b,c,a,d⟩:=h;exact⟨e,b.grew k,c,fun i x f c b=>⟨(a i x f c b).1,(a i x f c b).2.grew k⟩,d⟩
theorem jg.setCell {base:Nat} {w:Xn} {v:Xq} {fs:List Fl} (h:jg base w v fs) {a:Addr} (c:a.block<base) (u):jg base (w.setCell a u) v fs:=by
 obtain⟨f,d,e,b,g⟩:=h;exact⟨f,d.setCell c u,e,fun i x f e d=>⟨(b i x f e d).1,(b i x f e d).2.setCell c u⟩,g⟩
theorem zfN:blE.ty≠fvE.ty:=by decide
structure zpw (base:Nat) (w:Xn) (kk:Nat) (xs ys:List FlV) (fs:List Fl):Prop where
 len:ys.length=xs.length
 own:∀(i:Nat) y f,i<kk->ys[i]? =Xa y->fs[i]? =Xa f->y.size=f.size/\zb blE base w y.v f.bl
 rest:∀(i:Nat),kk<=i->ys[i]? =xs[i]?
 two:∀(i j:Nat) x y,i<kk->j<kk->i≠j->ys[i]? =Xa x->ys[j]? =Xa y->∀g,x.v.ownBlock=Xa g->y.v.ownBlock≠Xa g
theorem zpw.step {base:Nat} {w w2:Xn} {xs z:List FlV} {fs:List Fl} (j:zpw base w kk xs z fs) (V:zc w w1) {g:Nat} (F:w1.grownBy w2 (Xa g)) {f:Fl} {x:FlV} (M:fs[kk]? =Xa f) (Y:xs[kk]? =Xa x)
  (W:x.size=f.size) {a:Option Addr} {n c:Nat} (e:zb blE w.heap.size w1 (O a n c) f.bl) (U:base<=w.heap.size) {v:Xq} (X:zb fvE base w1 v z) (K:v.ownBlock=Xa g):zpw base w2 (kk+1) xs (z.set kk ⟨x.size,a,n,c⟩) fs:=by
 have H:kk<z.length:=by rw[j.len];exact(gS.1 Y).1
 have k:∀(y:FlV) (L:List Int),zb blE base w1 y.v L->zb blE base w2 y.v L:=fun y L N=>N.grown F (fun p D B=>by
  cases B;exact X.apart N (Ne.symm zfN) g K D)
 refine⟨Rx Yx j.len,fun i y d t r b=>?_,fun i t=>?_,fun i C P Q t a0 G u q p l=>?_⟩
 ·by_cases B:i=kk
  ·subst B;rw[sF H]at r;cases r;rw[M]at b;cases b;exact⟨W,k ⟨x.size,a,n,c⟩ _ (e.base U)⟩
  rw[sN (fun j=>B j.symm)]at r
  obtain⟨Z,I⟩:=j.own i y d Wm r b
  exact⟨Z,k y _ (I.grew V)⟩
 ·rw[sN Wm]
  exact j.rest i Wm
 have h:∀(i:Nat) y d,i<kk->z[i]? =Xa y->fs[i]? =Xa d->∀A,y.v.ownBlock=Xa A->A<w.heap.size:=fun i y d t r b A E=>((j.own i y d t r b).2.lt A E).2
 have s:∀i,i<kk->∃d,fs[i]? =Xa d:=fun i t=>⟨_,gE (Hm ((gS.1 M).1))⟩
 by_cases R:i=kk
 ·subst R;rw[sF H]at u;cases u;rw[sN Wm]at q
  obtain⟨d,b⟩:=s C Wm
  intro m;have D:=h C Q d Wm q b p m
  have T:=(e.lt p l).1;omega
 rw[sN Wm]at u
 by_cases S:C=kk
 ·subst S;rw[sF H]at q;cases q;obtain⟨d,b⟩:=s i Wm
  intro m;have D:=h i P d Wm u b p l
  have T:=(e.lt p m).1;omega
 rw[sN Wm]at q
 exact j.two i C P Q Wm Wm G u q p l
theorem zpw.all {base:Nat} {w:Xn} {xs a:List FlV} {fs:List Fl} {v:Xq} (h:zpw base w xs.length xs a fs) (b:xs.length=fs.length) (c:zb fvE base w v a):jg base w v fs:=by
 refine⟨a,c,h.len.trans b,fun i y f a b=>h.own i y f (by rw[<-h.len];exact(gS.1 a).1) a b,fun i j p q a b c=>h.two i j p q ?_ ?_ a b c⟩
 ·rw[<-h.len];exact(gS.1 b).1
 rw[<-h.len];exact(gS.1 c).1
theorem zcQ (v fs) (i:Int) (w:Xn) (b3:qg w v fs):
  Xp prog 36 #[Xi #[v,Xe Xf i]] w fun e w'=>∃b,e= Xl (Xi #[b,Xe Xf i])/\jg (w.heap.size+2) w' b fs/\zc w w'/\w.heap.size+2<=w'.heap.size:=by
 obtain⟨_,y,S,ag,a1⟩:=b3;have a8:=dD S.now;have ao:Xo (∀(k:Nat) x f,y[k]? =Xa x->fs[k]? =Xa f->x.size=f.size/\zl blE w (O x.a x.n x.c) f.bl):=show∀(k:Nat) x f,_ from fun k x f af ae=>⟨(a1 k x f af ae).1,(a1 k x f af ae).2.now⟩
 have a7:=dD ag;have G:=S.now.short;obtain⟨ax,ay,rfl,_⟩:=S.now.rows;clear S ag a1;obtain⟨n,l⟩:=kA y.length;rw[l.out]at G a8⊢;obtain⟨B,c⟩:=kB ((w.alloc (Xk #[O ax n ay,Xe Xf i] 37)).alloc (Xk #[O Xb 0 0,Xe Xf 0] 37));have r:=gD2 c
 have av:=x2a c
 have aw:=x2b c
 have h:Xo (B.heap.size=w.heap.size+2):=dD<|by rw[<-c];simp
 have V:Xo (_=B):=c;clear c
 go_enter func36,ntmps36
 go_wp2_with fail;rw[V.out];refine(zfp _ y B (a8.grew r)).mono ?_;rintro e b6 ⟨bc,rfl,g,ab⟩;obtain⟨a4,T,rfl⟩:=g.form;rw[h.out]at g;rw[l.out]at g⊢;have ap:=dD g;have aj:=dD ab;clear g ab;go_wp2
 go_loopg [4,10] n (fun b0 _ a3 wr=>∃(a:Nat) (z:List FlV),a<=n/\n - a<=b0/\a3= Xe Xf a/\Xo (zc B wr)/\Xo (zb fvE (w.heap.size+2) wr (O a4 n T) z)/\Xo (zpw (w.heap.size+2) wr a y z fs))
 exact⟨0,y,nZ _,Wm,rfl,aj,ap,⟨rfl,fun k b5 f I=>absurd I (nL _),fun k _=>rfl,fun k bb x b5 I=>absurd I (nL _)⟩⟩
 obtain⟨a,z,b2,b1,rfl,m,R,A⟩:=hrel
 by_cases j:a<n
 ·have M:=kC j
  obtain⟨q,U⟩:∃q,Xo (y[a]? =Xa q):=⟨_,gE (Rx l.out j)⟩
  obtain⟨f,a6⟩:∃f,Xo (fs[a]? =Xa f):=⟨_,gE (by rw[<-a7.out,l.out];exact j)⟩
  have a9:Xo (z[a]? =Xa q):=dD<|by rw[A.rest a (nR _)];exact U.out
  obtain⟨F,b4,L⟩:=R.formS (by rw[A.len,l.out];omega)
  rw[A.len,l.out]at L;cases L;obtain⟨ah,ai⟩:=ao.out a q f U a6.out;have au:=dD ah;have K:=zgU _ f.bl wr (ai.grew (r.trans m));obtain⟨b8,ba,N,d⟩:=R.at.rows;obtain⟨b9,Z,H⟩:=d a q a9.out;rw[A.len,l.out]at N;cases N;cases Z;have az:wr.cell? ⟨F,a*2+1,Xb⟩=Xa (O q.a q.n q.c):=by
   have:=H wr (zc.refl _) 1 _ rfl;rw[zS,Addr.add_lit,zA]at this;exact this
  clear ah ai d H;go_wp2_with fail;refine K.mono ?_;rintro e b7 ⟨bd,rfl,u,Y⟩;obtain⟨C,D,rfl⟩:=u.form;have aa:=dD u;have a5:=dD Y;have s:=dD (R.grew Y);have am:Xo (w.heap.size+2<=wr.heap.size):=show _<=_ by
   have:=bS m.out;rw[h.out]at this;exact this
  clear u Y K az
  generalize f.bl.length=P at aa⊢
  go_wp2_with (refine zD (E:=fvE) rfl (.tmp 22) (.tmp 20) 29 rfl (w.heap.size+2) _ z s F a 1 rfl q ⟨q.size,C,P,D⟩ a9.out [O C P D] ?s1 rfl ?s2 ?s3 ⟨F,a*2+1,Xb⟩ rfl rfl (O C P D) rfl rfl ?_)
  case s1=>kernel_rfl
  case s2=>exact nR 2
  case s3=>simp;rfl
  intro W Q t _;have aq:Xo (zb fvE (w.heap.size+2) W (O (Xa ⟨F,0,Xb⟩) n T) (z.set a ⟨q.size,C,P,D⟩)):=Q;have al:Xo (zpw (w.heap.size+2) W (a+1) y (z.set a ⟨q.size,C,P,D⟩) fs):=A.step a5 t a6 U au aa am s rfl;have ak:Xo (zc B W):=show zc _ _ from zd (m.trans a5) t (by
   rw[h.out];exact(s.lt F rfl).1)
  clear Q t;go_wp2
  go_roundg (n -(a+1));exact⟨a+1,_,Wm,Wm,Gn,ak,aq,al⟩;omega
 have M:=kD j
 have:a=n:=Wm
 subst this;have ar:Xo (jg (w.heap.size+2) wr (O a4 a T) fs):=dD<|by
  have ac:=A.out;rw[<-l.out]at ac;exact ac.all a7 R.out
 have be:=(av.grew m).c 1 rfl;have X:=aw.grew m.out;have bf:=X.c 0 rfl;have bg:=X.c 1 rfl;have bh:=X.f;have an:=dD (r.trans m);go_wp2;refine bodyPost_ret (v:= Xi #[O a4 a T,Xe Xf i]) (by simp[results,Tryz.results36,go_sem, *]) rfl ⟨_,rfl,(ar.setCell Sm _).setCell Sm _,?_,?_⟩
 ·exact Below.setCell (Below.setCell an (p:=⟨w.heap.size+1,0,Xb⟩) Sm _) (p:=⟨w.heap.size+1,1,Xb⟩) Sm _
 have:=bS m.out;rw[h.out]at this
 simp[World.setCell]
 exact this
def env (e:En):List Xq:=[Xe Xf e.kind,Xe Xf e.n,Xh e.wr]
theorem zqx:(Tryz.prog.info? 75).map (fun i=>(i.zero,i.size,i.bytes))=Xa (Xa (Xi #[Xe Xf 0,Xe Xf 0,Xh Xd]),3,24):=by kernel_rfl
def enE:Elt En where
 enc:=env
 k:=3
 ty:=75
 st:=70
 bytes:=24
 zv:= Xi #[Xe Xf 0,Xe Xf 0,Xh Xd]
 zero:=en0
 len:=fun _=>rfl
 one:=fun a u hu=>by
  simp only[env,mC,nM,or_false]at hu
  rcases hu with rfl|rfl|rfl <;> rfl
 und:=underlying70
 info:=zqx
 zok:=rfl
 few:=by decide
 pos:=by decide
def zpx (W:Xn) (y:Addr) (e:En):Prop:=W.cell? y=Xa (Xe Xf e.kind)/\W.cell? { block:=y.block,off:=y.off+1 }=Xa (Xe Xf e.n)/\W.cell? { block:=y.block,off:=y.off+2 }=Xa (Xh e.wr)
def zp1 (w:Xn) (a:Option Addr) (l:List En):Prop:=∀(j:Nat) e,l[j]? =Xa e->∃ad,a=Xa ad/\∀W,zc w W->zpx W (ad.add (j*3)) e
theorem zl.ens {w:Xn} {v:Xq} {l:List En} (h:zl enE w v l):∃a c,v= O a l.length c/\zp1 w a l:=by
 obtain⟨a,c,b,e⟩:=h.rows;refine⟨a,c,b,fun j x g=>?_⟩
 obtain⟨d,f,b⟩:=e j x g;exact⟨d,f,fun W d=>⟨b W d 0 _ rfl,b W d 1 _ rfl,b W d 2 _ rfl⟩⟩
structure Qw (B0 B1:Nat) (w:Xn) (vs:List Xq) (t:List (List En)):Prop where
 len:vs.length=8
 tlen:t.length=8
 row:∀(i:Nat) v h,vs[i]? =Xa v->t[i]? =Xa h->zin enE B0 B1 w v h
def Je (w:Xn) (vs:List Xq) (t:List (List En)):Prop:=Qw 0 0 w vs t
theorem Qw.out {w:Xn} {t:List (List En)} (h:Qw B0 B1 w vs t) (k:Out B0 B1 w w'):Qw B0 B1 w' vs t:=⟨h.len,h.tlen,fun i v x a b=>(h.row i v x a b).out k⟩
theorem Qw.grew {w:Xn} {t:List (List En)} (h:Qw B0 B1 w vs t) (k:zc w w'):Qw B0 B1 w' vs t:=h.out (Out.grew k)
theorem Qw.less {w:Xn} {t:List (List En)} (h:Qw B0 B1 w vs t) (a:B0<=A0) (b:A1<=B1):Qw A0 A1 w vs t:=⟨h.len,h.tlen,fun i v x c d=>(h.row i v x c d).less a b⟩
theorem Qw.now {w:Xn} {t:List (List En)} (h:Qw B0 B1 w vs t):Je w vs t:=⟨h.len,h.tlen,fun i v x a b=>(h.row i v x a b).now.s0⟩
theorem Je.grew {w:Xn} {t:List (List En)} (h:Je w vs t) (k:zc w w'):Je w' vs t:=Qw.grew h k
def QF:List Xq:=Xr 8 (O Xb 0 0)
theorem Qw.nil (B0 B1:Nat) (w):Qw B0 B1 w QF qG:=⟨rfl,rfl,fun i v h b c=>by
 have a:=mG b;have b:=mG c;rw[QF,Ow]at a;rw[qG,Ow]at b;rw[a.2,b.2];exact fun a _=>zl.nil enE a⟩
theorem Je.half {w:Xn} {t:List (List En)} (h:Je w vs t) {i:Nat} (hi:i<8):∃a c x,t[i]? =Xa x/\vs[i]? =Xa (O a x.length c)/\zl enE w (O a x.length c) x:=by
 obtain⟨v,d⟩:∃v,vs[i]? =Xa v:=⟨_,gE (by rw[h.len];exact hi)⟩
 obtain⟨x,e⟩:∃x,t[i]? =Xa x:=⟨_,gE (by rw[h.tlen];exact hi)⟩
 have b:=(h.row i v x d e).now;obtain⟨a,c,rfl,_⟩:=b.rows;exact⟨a,c,x,e,d,b⟩
theorem zmi {α:Type}:∀{l:List α},l.length=8->∃a b c d e f g h,l=[a,b,c,d,e,f,g,h]
 | [a,b,c,d,e,f,g,h],_=>⟨a,b,c,d,e,f,g,h,rfl⟩
theorem zey (m n:Int) (w):
  Xp prog 121 #[Xe Xf m,Xe Xf n] w fun e w'=>e= Xl (Xh (bel m n))/\w'=w:=by
 have H:Xo (bel m n=(decide (0<=m) && decide (m<n))):=rfl
 by_cases a:0<=m
 ·by_cases a:m<n
  ·go_enter func121,ntmps121
   go_wp2;go_ret;exact⟨by rw[H.out];simp[*],rfl⟩
  go_enter func121,ntmps121
  go_wp2;go_ret;exact⟨by rw[H.out];simp[*],rfl⟩
 go_enter func121,ntmps121
 go_wp2;go_ret;exact⟨by rw[H.out];simp;omega,rfl⟩
theorem QP {m n:Int} (a:0<=m) (b:m<n) (w):Xp prog 121 #[Xe Xf m,Xe Xf n] w fun e w'=>e= Xl (Xh Xc)/\w'=w:=by
 have:=zey m n w;rw[JZ.2 ⟨a,b⟩]at this;exact this
theorem zbj {m n:Int} (h:¬(0<=m/\m<n)) (w):Xp prog 121 #[Xe Xf m,Xe Xf n] w fun e w'=>e= Xl (Xh Xd)/\w'=w:=by
 have:=zey m n w;rw[zmA h]at this;exact this
theorem zbC (k n:Int) (b:Bool) (w):
  Xp prog 143 #[Xi #[Xe Xf k,Xe Xf n,Xh b]] w fun e w'=>e= Xl (Xh (enS ⟨k,n,b⟩))/\zc w w':=by
 have H:Xo (enS ⟨k,n,b⟩=(k != 0)):=rfl
 go_enter func143,ntmps143
 go_wp2;go_ret;exact⟨Rr H.out,za _ _⟩
theorem zbd {e:En} (h:¬(0<=e.kind/\e.kind<=2)):enW e=1:=by unfold enW;rw[kF h]
theorem Zk {e:En} (h:0<=e.kind/\e.kind<=2) (a:¬(0<=e.n/\e.n<=59/\(e.kind=1->e.n<=39))):enW e=3:=by unfold enW;rw[kE h,kF a]
theorem JV {e:En} (h:0<=e.kind/\e.kind<=2) (a:0<=e.n/\e.n<=59/\(e.kind=1->e.n<=39)) (b:(e.kind=0/\(e.n≠0\/e.wr=Xc))\/(e.kind=2/\e.wr=Xc)):enW e=7:=by unfold enW;rw[kE h,kE a,kE b]
def zmh (a b:En):Bool:=(a.kind == b.kind) &&((a.n == b.n) &&(a.wr == b.wr))
theorem zp7 (k n k' n':Int) (b b':Bool) (w):(Op.equalIn 10000 75 (Xi #[Xe Xf k,Xe Xf n,Xh b]) (Xi #[Xe Xf k',Xe Xf n',Xh b'])).run prog w= .ok (zmh ⟨k,n,b⟩ ⟨k',n',b'⟩) w:=by
 have hf : (Tryz.prog.fieldsOf 75).toList.map (fun f => (f.name, f.type, f.offset)) = [("Kind", 3, 0), ("N", 3, 1), ("Write", 4, 2)] := by kernel_rfl
 rw[run_equalIn_struct w 9999 75 _ _ Kr Kr]
 obtain⟨f0,f1,f2,hfs⟩:∃f0 f1 f2,(Tryz.prog.fieldsOf 75).toList=[f0,f1,f2]:=by
  match hq:(Tryz.prog.fieldsOf 75).toList with
  | [f0,f1,f2]=>exact⟨f0,f1,f2,rfl⟩
  | []=>rw[hq]at hf;simp at hf
  | [_]=>rw[hq]at hf;simp at hf
  | [_,_]=>rw[hq]at hf;simp at hf
  | _ :: _ :: _ :: _ :: _=>rw[hq]at hf;simp at hf
 rw[hfs]at hf⊢
 simp at hf
 obtain⟨⟨h1,h2,h3⟩,⟨h4,h5,h6⟩,h7,h8,h9⟩:=hf;have pI:∀(zs:Array Xq) (o:Nat) v,zs[o]? =Xa (Xe Xf v)->(part 3 zs o).run prog w= .ok (Xe Xf v) w:=fun zs o v hz=>run_part_plain w (by simp[Program.plainKey,underlying3]) hz
 have pB:∀(zs:Array Xq) (o:Nat) v,zs[o]? =Xa (Xh v)->(part 4 zs o).run prog w= .ok (Xh v) w:=fun zs o v hz=>run_part_plain w (by simp[Program.plainKey,underlying4]) hz
 simp only[Op.eqFields,h1,h2,h3,h4,h5,h6,h7,h8,h9]
 simp[pI,pB,run_equalIn_int w _ _ _ _ _ _ underlying3,run_equalIn_bool' w _ _ _ _ underlying4]
 unfold zmh
 by_cases e1:k=k' <;> by_cases e2:n=n' <;> cases b <;> cases b' <;> simp[e1,e2]
theorem zaf (k n:Int) (b:Bool) (w):
  Xp prog 163 #[Xi #[Xe Xf k,Xe Xf n,Xh b]] w fun e w'=>e= Xl (Xe Xf (enW ⟨k,n,b⟩))/\zc w w':=by
 obtain⟨Z,f⟩:=kA (enW ⟨k,n,b⟩);rw[f.out]
 by_cases g:0<=k/\k<=2
 ·have a:=fun W=>QP (m:=k) (n:=3) g.1 Wm W
  by_cases l:0<=n/\n<=59
  ·have c:=fun W=>QP (m:=n) (n:=60) l.1 Wm W
   by_cases i:k=1/\39<n
   ·have d:Xo (Z=3):=dD<|by rw[<-f.out];exact Zk g (fun h=>by have:=h.2.2 i.1;simp at this;omega)
    obtain⟨rfl,i⟩:=i;have q:40<=n:=Wm
    go_enter func163,ntmps163
    go_wp2_with fail;refine(a _).mono ?_;rintro e w' ⟨rfl,rfl⟩;go_wp2_with fail;refine(c _).mono ?_;rintro e w' ⟨rfl,rfl⟩;go_wp2;go_ret;exact⟨Rr d.out,za _ _⟩
   have j:0<=n/\n<=59/\(k=1->n<=39):=⟨l.1,l.2,fun h=>Wm⟩
   obtain rfl|rfl|rfl:k=0\/k=1\/k=2:=Wm
   ·have p:=fun W=>zp7 0 n 0 0 b Xd W
    by_cases i:n=0/\b=Xd
    ·have d:Xo (Z=0):=dD<|by rw[<-f.out];exact Zy g j (fun h=>by simp[i.1,i.2]at h)
     obtain⟨rfl,rfl⟩:=i;rw[show zmh ⟨0,0,Xd⟩ ⟨0,0,Xd⟩=Xc from rfl]at p
     go_enter func163,ntmps163
     go_wp2_with fail;refine(a _).mono ?_;rintro e w' ⟨rfl,rfl⟩;go_wp2_with fail;refine(c _).mono ?_;rintro e w' ⟨rfl,rfl⟩;go_wp2;go_ret;exact⟨Rr d.out,za _ _⟩
    have d:Xo (Z=7):=dD<|by
     rw[<-f.out];refine JV g j (.inl ⟨rfl,?_⟩)
     cases b with
     | false=>exact .inl (fun h=>i ⟨h,rfl⟩)
     | true=>exact .inr rfl
    have r:zmh ⟨0,n,b⟩ ⟨0,0,Xd⟩=Xd:=by
     unfold zmh
     cases b with
     | false=>simp;exact fun h=>i ⟨h,rfl⟩
     | true=>simp
    rw[r]at p
    go_enter func163,ntmps163
    go_wp2_with fail;refine(a _).mono ?_;rintro e w' ⟨rfl,rfl⟩;go_wp2_with fail;refine(c _).mono ?_;rintro e w' ⟨rfl,rfl⟩;go_wp2;go_ret;exact⟨Rr d.out,za _ _⟩
   ·have d:Xo (Z=0):=dD<|by rw[<-f.out];exact Zy g j (fun h=>by simp at h)
    have q:¬40<=n:=Wm
    go_enter func163,ntmps163
    go_wp2_with fail;refine(a _).mono ?_;rintro e w' ⟨rfl,rfl⟩;go_wp2_with fail;refine(c _).mono ?_;rintro e w' ⟨rfl,rfl⟩;go_wp2;go_ret;exact⟨Rr d.out,za _ _⟩
   cases b with
   | false=>
    have d:Xo (Z=0):=dD<|by rw[<-f.out];exact Zy g j (fun h=>by simp at h)
    go_enter func163,ntmps163
    go_wp2_with fail;refine(a _).mono ?_;rintro e w' ⟨rfl,rfl⟩;go_wp2_with fail;refine(c _).mono ?_;rintro e w' ⟨rfl,rfl⟩;go_wp2;go_ret;exact⟨Rr d.out,za _ _⟩
   | true=>
    have d:Xo (Z=7):=dD<|by rw[<-f.out];exact JV g j (.inr ⟨rfl,rfl⟩)
    go_enter func163,ntmps163
    go_wp2_with fail;refine(a _).mono ?_;rintro e w' ⟨rfl,rfl⟩;go_wp2_with fail;refine(c _).mono ?_;rintro e w' ⟨rfl,rfl⟩;go_wp2;go_ret;exact⟨Rr d.out,za _ _⟩
  have d:Xo (Z=3):=dD<|by rw[<-f.out];exact Zk g (fun h=>l ⟨h.1,h.2.1⟩)
  have c:=fun W=>zbj (m:=n) (n:=60) Wm W
  go_enter func163,ntmps163
  go_wp2_with fail;refine(a _).mono ?_;rintro e w' ⟨rfl,rfl⟩;go_wp2_with fail;refine(c _).mono ?_;rintro e w' ⟨rfl,rfl⟩;go_wp2;go_ret;exact⟨Rr d.out,za _ _⟩
 have d:Xo (Z=1):=dD<|by rw[<-f.out];exact zbd g
 have a:=fun W=>zbj (m:=k) (n:=3) Wm W
 go_enter func163,ntmps163
 go_wp2_with fail;refine(a _).mono ?_;rintro e w' ⟨rfl,rfl⟩;go_wp2;go_ret;exact⟨Rr d.out,za _ _⟩
theorem ze9 (v) (fs:List En) (w) (y:zl enE w v fs):
  Xp prog 176 #[v,.func (.func 143) #[] #[]] w fun e w'=>(∃B:Int,e= Xl (Xe Xf B)/\decide (0<=B)=Zn fs)/\zc w w':=by
 have h:=y.short;obtain⟨N,Q,rfl,k⟩:=y.ens;have D:=dD k;obtain⟨n,s⟩:=kA fs.length;rw[s.out]at h⊢;obtain⟨g,c⟩:=kA (Zn fs);rw[c.out];have U:=enters_of func143 Kr rfl
 go_enter func176,ntmps176
 go_wp2
 go_loopg [8] n (fun F L wr=>∃b:Nat,b<=n/\n - b<=F/\L= Xe Xf b/\Xo (zc w wr)/\Xo (∀(j:Nat) q,j<b->fs[j]? =Xa q->enS q=Xd))
 exact⟨0,nZ _,Wm,rfl,zc.refl w,fun j q x=>absurd x (nL _)⟩
 obtain⟨b,G,V,rfl,l,A⟩:=hrel
 by_cases d:b<n
 ·have i:=kC d
  obtain⟨q,t⟩:∃q,Xo (fs[b]? =Xa q):=⟨_,gE (Rx s.out d)⟩
  obtain⟨P,rfl,H⟩:=D.out b q t.out;obtain⟨R,S,T⟩:=H wr l.out;have a:=zbC q.kind q.n q.wr wr
  cases m:enS q with
  | true=>
   have r:Xo (decide (0<=(b:Int))=g):=dD<|by
    rw[<-c.out,show Zn fs=Xc from zpr t.out m]
    simp
   rw[show enS ⟨q.kind,q.n,q.wr⟩=Xc from m]at a
   go_wp2_with fail;refine a.mono ?_;rintro e E ⟨rfl,u⟩;have p:=dD (l.trans u);go_wp2;go_ret;exact⟨⟨_,rfl,r⟩,p⟩
  | false=>
   have C:Xo (∀(j:Nat) q,j<b+1->fs[j]? =Xa q->enS q=Xd):=dD<|fun j K x f=>by
    by_cases e:j=b
    ·subst e;rw[t.out]at f;cases f;exact m
    exact A j K Wm f
   rw[show enS ⟨q.kind,q.n,q.wr⟩=Xd from m]at a
   go_wp2_with fail;refine a.mono ?_;rintro e E ⟨rfl,u⟩;have p:=dD (l.trans u);go_wp2
   go_roundg (n -(b+1));exact⟨b+1,Wm,Wm,Gn,p,C⟩;omega
 have i:=kD d
 have:b=n:=Wm
 subst this;have r:Xo (decide (0<=(-1:Int))=g):=dD<|by
  rw[<-c.out]
  symm
  exact zpq (fun j M z=>A.out j M (by rw[<-s.out];exact(gS.1 z).1) z)
 go_wp2;go_ret;exact⟨⟨_,rfl,r⟩,l⟩
theorem Zv (v) (fs:List En) (w) (b:zl enE w v fs):
  Xp prog 164 #[v,.func (.func 143) #[] #[]] w fun e w'=>e= Xl (Xh (Zn fs))/\zc w w':=by
 have a:=ze9 v fs w b;obtain⟨c,c,rfl,_⟩:=b.rows;clear b
 generalize fs.length=n at*
 generalize Zn fs=A at*
 go_enter func164,ntmps164
 go_wp2_with fail;refine a.mono ?_;rintro e b ⟨⟨z,rfl,b⟩,c⟩;have f:=dD b;have d:=dD c;clear b c a;go_wp2;go_ret;exact⟨by rw[<-f.out];rfl,d⟩
theorem zdP (v) (fs:List En) (w:Xn) (h:zl enE w v fs):
  Xp prog 145 #[v] w fun e w'=>∃g,e= Xl g/\zb enE w.heap.size w' g fs/\zc w w':=by
 have j:=dD h;obtain⟨⟨d,f,rfl,b,c⟩,a⟩:=h;have h:∀(w:Xn) (d:Option Addr) (n f i h:Nat),(binOp .eql 70 (O d n f) (O Xb i h)).run prog w= .ok (Xh d.isNone) w:=fun w d n f i h=>Lib.run_eql_slice_nil w _ _ d n f i h underlying70
 cases d with
 | none=>
  have d:=b rfl;subst d;clear c b a
  go_enter func145,ntmps145
  go_wp2;go_ret;exact⟨_,rfl,zb.nil _ _ _,zc.refl w⟩
 | some x=>
  have d:=dD a;clear c b a
  go_enter func145,ntmps145
  go_wp2_with (at_builtin;refine zn (E:=enE) rfl (.tmp 5) (.tmp 6) rfl w.heap.size _ [] rfl (zb.made enE w) _ fs rfl (j.grew (za _ _)) ?qb Sm ?_)
  case qb=>rw[Yn,zA];exact d.out
  intro g a b a;go_wp2;go_ret;exact⟨g,rfl,Si b,((bR _ w).alloc (nR _) _).grown a Sm (by intro k a;simp[Value.ownBlock]at a;omega)⟩
theorem Box.range {w:Xn} {cs:List Xq} (h:Box w b cs):w.rangeAt b 0 cs:=fun j v a=>by
 rw[zA];exact h.c j a
theorem Box.there {w:Xn} {cs:List Xq} (h:Box w b cs):w.there b 0 cs.length:=fun j a=>by
 rw[zA];exact⟨by rw[h.c j (gE a)];rfl,h.f j⟩
theorem Box.part {w:Xn}:∀{ds cs:List Xq} {o:Nat},Box w b cs->o+ds.length<=cs.length->Box (w.setCells b o ds) b (splice cs o ds):=by
 have c:∀(ds cs:List Xq) (o:Nat) (w:Xn),Box w b cs->o+ds.length<=cs.length->Box (w.setCells b o ds) b (splice cs o ds):=fun ds=>by
  induction ds with
  | nil=>
   intro cs o w h a;have:splice cs o []=cs:=by simp[splice]
   rw[this];exact h
  | cons d ds g=>
   intro cs o w h a;simp only[Yk]at a;have f:=h.set o d;have e:=g (cs.set o d) (o+1) (w.setCell ⟨b,o,Xb⟩ d) f (by simp;omega)
   have f:splice (cs.set o d) (o+1) ds=splice cs o (d :: ds):=by
    unfold splice;rw[List.take_set,List.drop_set,kE Wm,Oy,gE Wm]
    simp only[Yk,Option.toList_some];rw[List.set_append_right _ _ (by simp;omega),show o+1+ds.length=o+(ds.length+1) by omega]
    simp[Ud,Ul (show o<=cs.length by omega)]
   rw[f]at e;exact e
 exact fun{ds cs o} h a=>c ds cs o w h a
theorem zO (b:Nat):∀(ds:List Xq) (o:Nat) (w:Xn),w.grownBy (w.setCells b o ds) (Xa b)/\(w.setCells b o ds).heap.size=w.heap.size
 | [],_,w=>⟨World.grownBy.rfl' _ _,rfl⟩
 | d :: ds,o,w=>by
  obtain⟨a,c⟩:=zO b ds (o+1) (w.setCell ⟨b,o,Xb⟩ d);have f:w.grownBy (w.setCell ⟨b,o,Xb⟩ d) (Xa b):=⟨rfl,rfl,rfl,by simp[World.setCell],fun k _ g=>Below.heap_setCell _ _ _ _ (fun e=>g (by rw[e]))⟩
  exact⟨jD f a,c.trans (by simp[World.setCell])⟩
theorem zK {rest:List Oper} {a:Act} {w:Xn} (e:o.guard=Xb) (c x) (i:o.op= .load c x) (b:Nat) (k:a.eval x= Xj (Xa ⟨b,0,Xb⟩)) (f:Box w b vs) {d:TypeDesc} (j:Tryz.prog.underlying c=Xa d) (g:d.isRow=Xc) (hi:(Tryz.prog.info? c).map (·.size)=Xa vs.length)
  (h:wpList prog ops Q rest (a.put o.dst (Xi vs.toArray)) w):wpList prog ops Q (o :: rest) a w:=
 wpList_load_mid e c x i b 0 k vs _ f.range j g hi h
theorem J4 {cs:List Xq} (h:vs.length=cs.length):splice cs 0 vs=vs:=by
 unfold splice;rw[Uo,Oo,zA,Oh Wm,Uj]
theorem zr {rest:List Oper} {a:Act} {w:Xn} (c:o.guard=Xb) (e p x) (i:o.op= .store e p x) (b:Nat) (hp:a.eval p= Xj (Xa ⟨b,0,Xb⟩)) (vs:List Xq) (j:a.eval x= Xi vs.toArray)
  {cs:List Xq} (f:Box w b cs) (d:vs.length=cs.length) (hi:(Tryz.prog.info? e).map (·.size)=Xa cs.length) (g:∀v∈vs,v.oneCell'=Xc)
  (h:∀w',Box w' b vs->w.grownBy w' (Xa b)->w'.heap.size=w.heap.size->wpList prog ops Q rest (a.put o.dst undef) w'):wpList prog ops Q (o :: rest) a w:=by
 refine wpList_store_mid c e p x i b 0 vs.toArray hp j ?_ ?_ (all_oneCell_toArray g) ?_
 ·simpa [d]using f.there
 ·simpa [d]using hi
 have:=f.part (ds:=vs) (o:=0) Wm
 rw[J4 d]at this;exact h _ this (zO b vs 0 w).1 (zO b vs 0 w).2
theorem zhh {rest:List Oper} {c:Oper} {a:Act} {w:Xn} (d:c.guard=Xb) (e p x) (j:c.op= .store e p x) (b o:Nat) (hp:a.eval p= Xj (Xa ⟨b,o,Xb⟩)) (vs:List Xq) (k:a.eval x= Xi vs.toArray)
  {cs:List Xq} (f:Box w b cs) (i:o+vs.length<=cs.length) (hi:(Tryz.prog.info? e).map (·.size)=Xa vs.length) (g:∀v∈vs,v.oneCell'=Xc)
  (h:∀w',Box w' b (splice cs o vs)->w.grownBy w' (Xa b)->w'.heap.size=w.heap.size->wpList prog ops Q rest (a.put c.dst undef) w'):wpList prog ops Q (c :: rest) a w:=by
 refine wpList_store_mid d e p x j b o vs.toArray hp k ?_ ?_ (all_oneCell_toArray g) ?_
 ·intro j c;have:=f.there (o+j) (by simp at c;omega)
  rw[zA]at this;exact this
 ·simpa using hi
 exact h _ (f.part i) (zO b vs o w).1 (zO b vs o w).2
theorem Box.mid {w:Xn} {cs:List Xq} (h:Box w b cs) (o:Nat) (c:∀(j:Nat) v,vs[j]? =Xa v->cs[o+j]? =Xa v):w.rangeAt b o vs:=fun j v a=>h.c _ (c j v a)
theorem zX {e:Func} {p:Tmp} {c:TypeId} (h:e.results=#[.cell p c]) (a:Array Xq) {w:Xn} (hp:a.getD p undef= Xj (Xa ⟨b,0,Xb⟩)) (f:Box w b vs) {d:TypeDesc} (i:Tryz.prog.underlying c=Xa d) (g:d.isRow=Xc) (hi:(Tryz.prog.info? c).map (·.size)=Xa vs.length):
  (results e a).run prog w= .ok (Xi vs.toArray) w:=by
 have e:a[p]?.getD undef= Xj (Xa ⟨b,0,Xb⟩):=Si hp
 have a:=run_loadVar_mid (P:=prog) w b 0 c vs d f.range i g hi
 simp[results,h,e,asAddr,a]
theorem jY {P:Program} {i:Nat} {a:Act} {w:Xn} {next:Act->Xn->Prop} (d:Option Tmp) (K:Xq->Xn->Prop) (hi:ops[i]? =Xa o) (b:o.dst=d) (e:Xu o (yielded ops a.tmps)=Xc) (h:zJ P o a w K) (c:∀v w',K v w'->next (a.put d v) w'):wpOp P ops Q i next a w:=by
 subst b;unfold wpOp;simp only[hi,e,if_true];exact .inl (h.wp c)
theorem zJ.storeAll {a:Act} {w:Xn} {K:Xq->Xn->Prop} (d p x) (g:o.op= .store d p x) (b:Nat) (hp:a.eval p= Xj (Xa ⟨b,0,Xb⟩)) (vs:List Xq) (j:a.eval x= Xi vs.toArray)
  {cs:List Xq} (e:Box w b cs) (c:vs.length=cs.length) (hi:(Tryz.prog.info? d).map (·.size)=Xa cs.length) (f:∀v∈vs,v.oneCell'=Xc)
  (h:∀w',Box w' b vs->w.grownBy w' (Xa b)->w'.heap.size=w.heap.size->K undef w'):zJ prog o a w K:=by
 unfold zJ;have i:(execOp a.eval o).run prog w= .ok .skip (w.setCells b 0 vs):=by
  have:=run_storeAt_mid (P:=prog) w b 0 d vs.toArray (by simpa [c]using e.there) (by simpa [c]using hi) (all_oneCell_toArray f)
  simp only[execOp,g,hp,j,Yg,this,rA,Yq]
 rw[i];have hp:=e.part (ds:=vs) (o:=0) Wm
 rw[J4 c]at hp;exact h _ hp (zO b vs 0 w).1 (zO b vs 0 w).2
theorem zqy:(Tryz.prog.info? 72).map (·.size)=Xa 8:=by kernel_rfl
theorem qt {rest:List Oper} {a:Act} {w:Xn} (c:o.guard=Xb) (x) (f:o.op= .load 72 x) (b:Nat) (g:a.eval x= Xj (Xa ⟨b,0,Xb⟩)) (d:Box w b vs) (e:vs.length=8)
  (h:wpList prog ops Q rest (a.put o.dst (Xi vs.toArray)) w):wpList prog ops Q (o :: rest) a w:=
 wpList_load_mid c 72 x f b 0 g vs _ d.range underlying72 rfl (Rx e zqy) h
theorem zm4 {w:Xn} (i:Nat) (hi:i<8) {v:Xq} (g:vs[i]? =Xa v):(Instr.index 72 (Xi vs.toArray) (Xe Xf (i:Int))).run prog w= .ok v w:=by
 have e:(isAgg 70).run prog w= .ok Xd w:=by
  unfold isAgg;rw[Yg,run_underlying underlying70 w];rfl
 have f:(Go.sizeOf 70).run prog w= .ok 1 w:=by
  obtain⟨a,c,d⟩:∃a,Tryz.prog.info? 70=Xa a/\a.size=1:=by
   have:(Tryz.prog.info? 70).map (·.size)=Xa 1:=Kr
   cases b:Tryz.prog.info? 70 with
   | none=>rw[b]at this;cases this
   | some a=>rw[b]at this;exact⟨a,rfl,by simpa using this⟩
  simp[Go.sizeOf,typeInfo,c,d]
 have a:(0:Int)<=(i:Int)/\(i:Int)< ((8:Nat):Int):=Wm
 simp only[Instr.index,asIntOf,Yg,Yq,rA,run_underlying underlying72];rw[kE a];simp only[Yg,f,rA,part,e,Nat.mul_one,tN]
 simp[g]
theorem zcx {rest:List Oper} {a:Act} {w:Xn} (b:o.guard=Xb) (x ix) (d:o.op= .index 72 x ix) (vs:List Xq) (f:a.eval x= Xi vs.toArray) (i:Nat) (c:a.eval ix= Xe Xf (i:Int)) (hi:i<8) {v:Xq} (e:vs[i]? =Xa v)
  (h:wpList prog ops Q rest (a.put o.dst v) w):wpList prog ops Q (o :: rest) a w:=by
 refine wpList_plain b fun K b=>?_
 unfold Oper.wp execOp;simp only[d,f,c,Yg,Yq,rA,zm4 i hi e];exact b _ _ h
theorem qL {e:Func} {p u:Tmp} {c:TypeId} (h:e.results=#[.cell p c,.tmp u]) (a:Array Xq) {w:Xn} (hp:a.getD p undef= Xj (Xa ⟨b,0,Xb⟩)) (f:Box w b vs) {d:TypeDesc} (i:Tryz.prog.underlying c=Xa d) (g:d.isRow=Xc) (hi:(Tryz.prog.info? c).map (·.size)=Xa vs.length):
  (results e a).run prog w= .ok (Xm #[Xi vs.toArray,a.getD u undef]) w:=by
 have a:=run_loadVar_mid (P:=prog) w b 0 c vs d f.range i g hi;rw[results_cell_tmp h,hp]
 simp[asAddr,Result.andThen,a]
theorem Qw.one {w:Xn} {t:List (List En)} (h:Qw B0 B1 w vs t):∀v∈vs,v.oneCell'=Xc:=fun v b=>by
 obtain⟨i,a⟩:=Xy b;have b:i<8:=by rw[<-h.len];exact(gS.1 a).1
 obtain⟨c,c,x,_,c,_⟩:=h.now.half b;rw[c]at a;cases a;rfl
structure jv (base:Nat) (w:Xn) (vs:List Xq) (t:List (List En)):Prop where
 len:vs.length=8
 tlen:t.length=8
 row:∀(i:Nat) v h,vs[i]? =Xa v->t[i]? =Xa h->zb enE base w v h
 two:∀(i j:Nat) u v,i≠j->vs[i]? =Xa u->vs[j]? =Xa v->∀g,u.ownBlock=Xa g->v.ownBlock≠Xa g
theorem jv.new {base:Nat} {w:Xn} {t:List (List En)} (h:jv base w vs t):Qw 0 base w vs t:=⟨h.len,h.tlen,fun i v x a b=>(h.row i v x a b).new.stays⟩
theorem jv.grew {base:Nat} {w:Xn} {t:List (List En)} (h:jv base w vs t) (k:zc w w'):jv base w' vs t:=⟨h.len,h.tlen,fun i v x a b=>(h.row i v x a b).grew k,h.two⟩
theorem jv.base {base:Nat} {w:Xn} {t:List (List En)} (h:jv base w vs t) (a:base'<=base):jv base' w vs t:=⟨h.len,h.tlen,fun i v x b c=>(h.row i v x b c).base a,h.two⟩
theorem jv.half {base:Nat} {w:Xn} {t:List (List En)} (h:jv base w vs t) {i:Nat} (hi:i<8):∃a c x,t[i]? =Xa x/\vs[i]? =Xa (O a x.length c)/\zb enE base w (O a x.length c) x:=by
 obtain⟨v,d⟩:∃v,vs[i]? =Xa v:=⟨_,gE (by rw[h.len];exact hi)⟩
 obtain⟨x,e⟩:∃x,t[i]? =Xa x:=⟨_,gE (by rw[h.tlen];exact hi)⟩
 have b:=h.row i v x d e;obtain⟨a,c,rfl⟩:=b.form;exact⟨a,c,x,e,d,b⟩
theorem jv.one {base:Nat} {w:Xn} {t:List (List En)} (h:jv base w vs t) {i:Nat} {v a:Xq} {b:List En} (hi:i<8) (q:vs[i]? =Xa v) (p:w.grownBy w' v.ownBlock) (z:zb enE base w' a b) (y:∀g,a.ownBlock=Xa g->v.ownBlock=Xa g\/w.heap.size<=g):jv base w' (vs.set i a) (t.set i b):=by
 have l:∀(j:Nat) u,vs[j]? =Xa u->∀g,u.ownBlock=Xa g->g<w.heap.size:=fun j u d g p=>by
  obtain⟨x,k⟩:∃x,t[j]? =Xa x:=⟨_,gE (by rw[h.tlen,<-h.len];exact(gS.1 d).1)⟩
  exact((h.row j u x d k).lt g p).2
 refine⟨by simp[h.len],by simp[h.tlen],fun j u x d k=>?_,fun j m r s a f e g b c=>?_⟩
 ·by_cases n:j=i
  ·subst n;rw[sF (by rw[h.len];exact hi)]at d
   rw[sF (by rw[h.tlen];exact hi)]at k
   cases d;cases k;exact z
  rw[sN (fun h=>n h.symm)]at d k
  exact(h.row j u x d k).grown p (fun g k p=>h.two j i u v n d q g k p)
 by_cases k:j=i
 ·subst k;rw[sF (by rw[h.len];exact hi)]at f
  cases f;rw[sN a]at e
  rcases y g b with d|d
  ·exact h.two j m v s a q e g d c
  have:=l m s e g c;omega
 rw[sN (fun h=>k h.symm)]at f
 by_cases k:m=i
 ·subst k;rw[sF (by rw[h.len];exact hi)]at e
  cases e
  rcases y g c with d|d
  ·exact h.two j m r v a f q g b d
  have:=l j r f g b;omega
 rw[sN (fun h=>k h.symm)]at e
 exact h.two j m r s a f e g b c
structure zmK (base:Nat) (w:Xn) (kk:Nat) (vs us:List Xq) (t:List (List En)):Prop where
 len:us.length=8
 own:∀(i:Nat) v h,i<kk->us[i]? =Xa v->t[i]? =Xa h->zb enE base w v h
 two:∀(i j:Nat) u v,i<kk->j<kk->i≠j->us[i]? =Xa u->us[j]? =Xa v->∀g,u.ownBlock=Xa g->v.ownBlock≠Xa g
 one:∀v∈us,v.oneCell'=Xc
theorem zmK.step {base:Nat} {w:Xn} {t:List (List En)} (h:zmK base w kk vs us t) (ht:t.length=8) (n:zc w w1) {x:List En} {v:Xq} (q:kk<8) (H:t[kk]? =Xa x) (a:zb enE w.heap.size w1 v x) (F:base<=w.heap.size) {p:Addr} (hp:p.block<base) (u):zmK base (w1.setCell p u) (kk+1) vs (us.set kk v) t:=by
 have k:∀(j:Nat) u,j<kk->us[j]? =Xa u->∀g,u.ownBlock=Xa g->g<w.heap.size:=fun j u A B g n=>by
  obtain⟨y,c⟩:∃y,t[j]? =Xa y:=⟨_,gE (by rw[ht,<-h.len];exact(gS.1 B).1)⟩
  exact((h.own j u y A B c).lt g n).2
 refine⟨by simp[h.len],fun i y E G c m=>?_,fun i j C D G A f b e g d l=>?_,fun y c=>?_⟩
 ·by_cases r:i=kk
  ·subst r;rw[sF (by rw[h.len];exact q)]at c
   cases c;rw[H]at m;cases m;exact(a.base F).setCell hp u
  rw[sN (fun h=>r h.symm)]at c
  exact((h.own i y E Wm c m).grew n).setCell hp u
 ·by_cases s:i=kk
  ·subst s;rw[sF (by rw[h.len];exact q)]at b
   cases b;rw[sN f]at e;have:=k j D Wm e g l
   have:=(a.lt g d).1;omega
  rw[sN (fun h=>s h.symm)]at b
  by_cases z:j=kk
  ·subst z;rw[sF (by rw[h.len];exact q)]at e
   cases e;have:=k i C Wm b g d
   have:=(a.lt g l).1;omega
  rw[sN (fun h=>z h.symm)]at e
  exact h.two i j C D Wm Wm f b e g d l
 rcases Xw c with d|d
 ·exact h.one y d
 subst d;obtain⟨K,L,rfl⟩:=a.form;rfl
theorem zf9 (vs:List Xq) (t:List (List En)) (w:Xn) (a:Je w vs t):
  Xp prog 126 #[Xi vs.toArray] w fun e w'=>∃c,e= Xl (Xi c.toArray)/\jv (w.heap.size+2) w' c t/\zc w w'/\w.heap.size+2<=w'.heap.size:=by
 have q:=dD a;have h:=dD a.len;clear a;obtain⟨g,a⟩:=kB ((w.alloc (Xk vs.toArray 72)).alloc (Xk #[O Xb 0 0,O Xb 0 0,O Xb 0 0,O Xb 0 0,O Xb 0 0,O Xb 0 0,O Xb 0 0,O Xb 0 0] 72));have b:=gD2 a
 have i:=x2a a
 have j:Xo (Box g (w.heap.size+1) QF):=dD<|by rw[<-a];exact Box.top _ QF _ Sm
 have d:Xo (g.heap.size=w.heap.size+2):=dD<|by rw[<-a];simp
 have f:Xo (_=g):=a;clear a
 go_enter func126,ntmps126
 go_upto_region 1 with fail;rw[f.out]
 go_wp2_with (refine qt rfl (.tmp 1) rfl w.heap.size rfl i h.out ?_)
 go_loopg [6] 8 (fun f g wr=>∃(a:Nat) (c:List Xq),a<=8/\8 - a<=f/\g= Xe Xf a/\Xo (zc w wr)/\Xo (w.heap.size+2<=wr.heap.size)/\Xo (Box wr w.heap.size c)/\Xo (Box wr (w.heap.size+1) QF)/\Xo (zmK (w.heap.size+2) wr a vs c t))
 exact⟨0,vs,nZ _,Wm,rfl,b,by rw[d.out];exact nR _,i,j,⟨h,fun i v l b=>absurd b (nL _),fun i D E v b=>absurd b (nL _),q.one⟩⟩
 obtain⟨a,c,b,C,rfl,s,x,A,B,d⟩:=hrel
 by_cases f:a<8
 ·have m:(a:Int)<8:=Wm
  obtain⟨n,u,r,j,h,k⟩:=q.half f;have F:=dD j;have g:=dD h;have b:=zdP (O n r.length u) r wr (k.grew s);clear j h k
  generalize r.length=nq at b g
  go_wp2_with (refine zcx rfl (.tmp 5) (.tmp 6) rfl vs rfl a rfl f g.out ?_)
  refine b.mono ?_;rintro e k ⟨g,rfl,j,y⟩;obtain⟨g,h,rfl⟩:=j.form;have z:=dD j;have n:=dD y;have u:=dD (A.grew y);clear j y b
  generalize r.length=b at z⊢
  obtain⟨r,j⟩:∃r,c[a]? =Xa r:=⟨_,gE (by rw[d.len];exact f)⟩
  have r:=u.c a j;have r:=u.f;clear j;go_wp2;have r:Xo (zmK (w.heap.size+2) (k.setCell ⟨w.heap.size,a,Xb⟩ (O g b h)) (a+1) vs (c.set a (O g b h)) t):=d.step q.tlen n f F z x Sm _
  have f:Xo (Box (k.setCell ⟨w.heap.size,a,Xb⟩ (O g b h)) w.heap.size (c.set a (O g b h))):=u.set a _;have y:Xo (Box (k.setCell ⟨w.heap.size,a,Xb⟩ (O g b h)) (w.heap.size+1) QF):=(B.grew n).other Sm _
  have j:Xo (zc w (k.setCell ⟨w.heap.size,a,Xb⟩ (O g b h))):=dD<|Below.setCell (s.trans n) (p:=⟨w.heap.size,a,Xb⟩) Sm _
  have u:Xo (w.heap.size+2<=(k.setCell ⟨w.heap.size,a,Xb⟩ (O g b h)).heap.size):=dD<|by
   have:=bS n.out;have:=x.out
   simp[World.setCell]
   omega
  go_roundg (8 -(a+1));exact⟨a+1,_,Wm,Wm,Gn,j,u,f,y,r⟩;omega
 have m:¬(a:Int)<8:=Wm
 have:a=8:=Wm
 subst this;have b:Xo (jv (w.heap.size+2) wr c t):=dD<|⟨d.len,q.tlen,fun i v l a f=>d.own i v l (by rw[<-d.len];exact(gS.1 a).1) a f,fun i D E v g h a=>d.two i D E v (by rw[<-d.len];exact(gS.1 h).1) (by rw[<-d.len];exact(gS.1 a).1) g h a⟩
 go_wp2_with (first | refine qt rfl (.tmp 1) rfl w.heap.size rfl A d.len ?_ | refine zr rfl 72 (.tmp 2) (.tmp 15) rfl (w.heap.size+1) rfl c rfl B d.len zqy d.one ?_)
 intro g k h m;have n:Xo (jv (w.heap.size+2) g c t):=dD<|⟨b.len,b.tlen,fun i v l a f=>(b.row i v l a f).grown h (fun q C e=>by
  cases e;have:=((b.row i v l a f).lt _ C).1
  omega),b.two⟩
 have j:Xo (zc w g):=dD<|zd s h Sm
 have u:Xo (w.heap.size+2<=g.heap.size):=dD<|Rx m x.out
 have a:=dD k;clear k h m;go_wp2;refine bodyPost_ret (zX rfl _ rfl a underlying72 rfl (by rw[d.len];exact zqy)) rfl ⟨c,rfl,n,j,u⟩
def arv (a:Ar):List Xq:=[Xe Xf a.fr,Xe Xf a.tz,Xh a.rd,Xh a.wr,Xh a.sh,Xe Xf a.file,Xe Xf a.base]
def arA (a:Ar):Xq:= Xi #[Xe Xf a.fr,Xe Xf a.tz,Xh a.rd,Xh a.wr,Xh a.sh,Xe Xf a.file,Xe Xf a.base]
theorem zqz:(Tryz.prog.info? 105).map (fun i=>(i.zero,i.size,i.bytes))=Xa (Xa (Xi #[Xe Xf 0,Xe Xf 0,Xh Xd,Xh Xd,Xh Xd,Xe Xf 0,Xe Xf 0]),7,40):=by kernel_rfl
theorem zqA:(Tryz.prog.info? 105).map (·.size)=Xa 7:=by kernel_rfl
theorem zqB:(Tryz.prog.info? 122).map (·.size)=Xa 2:=by kernel_rfl
theorem zqC:(Tryz.prog.info? 81).map (·.size)=Xa 6:=by kernel_rfl
theorem zqD:(Tryz.prog.info? 82).map (·.size)=Xa 384:=by kernel_rfl
def arE:Elt Ar where
 enc:=arv
 k:=7
 ty:=105
 st:=77
 bytes:=40
 zv:= Xi #[Xe Xf 0,Xe Xf 0,Xh Xd,Xh Xd,Xh Xd,Xe Xf 0,Xe Xf 0]
 zero:=ar0
 len:=fun _=>rfl
 one:=fun a u hu=>by
  simp only[arv,mC,nM,or_false]at hu
  rcases hu with rfl|rfl|rfl|rfl|rfl|rfl|rfl <;> rfl
 und:=underlying77
 info:=zqz
 zok:=rfl
 few:=by decide
 pos:=by decide
def zpy (W:Xn) (y:Addr) (e:Ar):Prop:=W.cell? y=Xa (Xe Xf e.fr)/\W.cell? { block:=y.block,off:=y.off+1 }=Xa (Xe Xf e.tz)/\W.cell? { block:=y.block,off:=y.off+2 }=Xa (Xh e.rd)/\W.cell? { block:=y.block,off:=y.off+3 }=Xa (Xh e.wr)/\W.cell? { block:=y.block,off:=y.off+4 }=Xa (Xh e.sh)/\W.cell? { block:=y.block,off:=y.off+5 }=Xa (Xe Xf e.file)/\W.cell? { block:=y.block,off:=y.off+6 }=Xa (Xe Xf e.base)
def zmP (w:Xn) (a:Option Addr) (l:List Ar):Prop:=∀(j:Nat) e,l[j]? =Xa e->∃ad,a=Xa ad/\∀W,zc w W->zpy W (ad.add (j*7)) e
theorem zl.ars {w:Xn} {v:Xq} {l:List Ar} (h:zl arE w v l):∃a c,v= O a l.length c/\zmP w a l:=by
 obtain⟨a,c,b,e⟩:=h.rows;refine⟨a,c,b,fun j x g=>?_⟩
 obtain⟨d,f,b⟩:=e j x g;exact⟨d,f,fun W d=>⟨b W d 0 _ rfl,b W d 1 _ rfl,b W d 2 _ rfl,b W d 3 _ rfl,b W d 4 _ rfl,b W d 5 _ rfl,b W d 6 _ rfl⟩⟩
def onv (x:On):List Xq:=[Xh x.is,Xh x.rd,Xh x.wr,Xh x.sh,Xe Xf x.file,Xe Xf x.page]
def tab {α:Type} (f:Nat->α):List α:=(Xv 64).map f
theorem Qs {α:Type} (f:Nat->α):(tab f).length=64:=by simp[tab]
theorem Jh {α:Type} {f:Nat->α} {k:Nat} (h:k<64):(tab f)[k]? =Xa (f k):=by
 unfold tab;rw[Yb,Ya h];rfl
theorem zoF {α:Type} {f g:Nat->α} (h:∀k,k<64->f k=g k):tab f=tab g:=by
 unfold tab;exact Oq fun k a=>h k (Xs.1 a)
def upd {α:Type} (f:Nat->α) (k:Nat) (x:α):Nat->α:=fun j=>if j=k then x else f j
theorem zhl {α:Type} (f:Nat->α) (k:Nat) (x:α):(tab f).set k x=tab (upd f k x):=by
 apply Yo
 intro j
 by_cases a:j<64
 ·rw[Jh a];unfold upd
  by_cases e:j=k
  ·subst e;rw[sF (Rx Qs a),kE rfl]
  rw[sN (fun h=>e h.symm),Jh a,kF e]
 rw[gN (by simp[tab];omega),gN (by simp[tab];omega)]
def zE (l:List On):List Xq:=l.flatMap onv
theorem zkx (l:List On):(zE l).length=l.length*6:=qQ l (fun _ _=>rfl)
theorem zln (x:On):∀u∈onv x,u.oneCell'=Xc:=fun u a=>by
 simp only[onv,mC,nM,or_false]at a
 rcases a with rfl|rfl|rfl|rfl|rfl|rfl <;> rfl
theorem QO (l:List On):∀v∈zE l,v.oneCell'=Xc:=je zln l
theorem zpV {w:Xn} {v:Xq} {l:List Fr}:zl qA w v l↔zl qA w v l:=Iff.rfl
def cav (c:Ca):List Xq:=[Xe Xf c.file,Xe Xf c.idx,Xe Xf c.fr]
theorem zqE:(Tryz.prog.info? 93).map (fun i=>(i.zero,i.size,i.bytes))=Xa (Xa (Xi #[Xe Xf 0,Xe Xf 0,Xe Xf 0]),3,24):=by kernel_rfl
def jG:Elt Ca where
 enc:=cav
 k:=3
 ty:=93
 st:=38
 bytes:=24
 zv:= Xi #[Xe Xf 0,Xe Xf 0,Xe Xf 0]
 zero:=⟨0,0,0⟩
 len:=fun _=>rfl
 one:=fun a u hu=>by
  simp only[cav,mC,nM,or_false]at hu
  rcases hu with rfl|rfl|rfl <;> rfl
 und:=underlying38
 info:=zqE
 zok:=rfl
 few:=by decide
 pos:=by decide
def zmN (W:Xn) (y:Addr) (c:Ca):Prop:=W.cell? y=Xa (Xe Xf c.file)/\W.cell? { block:=y.block,off:=y.off+1 }=Xa (Xe Xf c.idx)/\W.cell? { block:=y.block,off:=y.off+2 }=Xa (Xe Xf c.fr)
def zeB (w:Xn) (a:Option Addr) (l:List Ca):Prop:=∀(j:Nat) c,l[j]? =Xa c->∃ad,a=Xa ad/\∀W,zc w W->zmN W (ad.add (j*3)) c
theorem zl.cas {w:Xn} {v:Xq} {l:List Ca} (h:zl jG w v l):∃a c,v= O a l.length c/\zeB w a l:=by
 obtain⟨a,c,b,e⟩:=h.rows;refine⟨a,c,b,fun j x g=>?_⟩
 obtain⟨d,f,b⟩:=e j x g;exact⟨d,f,fun W d=>⟨b W d 0 _ rfl,b W d 1 _ rfl,b W d 2 _ rfl⟩⟩
structure Sli where
 a:Option Addr
 n:Nat
 c:Nat
abbrev Sli.x (s:Sli):Xq:= O s.a s.n s.c
abbrev eS:Xq:= O Xb 0 0
abbrev I6 (x:Int):Xq:= Xe Xf x
abbrev U8 (x:Int):Xq:= Xe Xg x
def Sli.v (s:Sli):Xq:= O s.a s.n s.c
def zG:Sli:=⟨Xb,0,0⟩
theorem zl.n {α:Type} {E:Elt α} {w:Xn} {a:Option Addr} {n c:Nat} {l:List α} (h:zl E w (O a n c) l):n=l.length:=by
 obtain⟨_,_,b,_⟩:=h.rows;cases b;rfl
theorem zb.n {α:Type} {E:Elt α} {w:Xn} {a:Option Addr} {n c:Nat} {l:List α} (h:zb E b w (O a n c) l):n=l.length:=h.at.n
structure SpV where
 live:Bool
 ar:Sli
 (t0 t1 t2 t3 t4 t5 t6 t7:Sli)
def SpV.tab (x:SpV):List Xq:=[x.t0.v,x.t1.v,x.t2.v,x.t3.v,x.t4.v,x.t5.v,x.t6.v,x.t7.v]
def spv (x:SpV):List Xq:=[Xh x.live,x.ar.v,x.t0.v,x.t1.v,x.t2.v,x.t3.v,x.t4.v,x.t5.v,x.t6.v,x.t7.v]
def spz:Xq:= Xi #[Xh Xd,O Xb 0 0,O Xb 0 0,O Xb 0 0,O Xb 0 0,O Xb 0 0,O Xb 0 0,O Xb 0 0,O Xb 0 0,O Xb 0 0]
theorem zqF:(Tryz.prog.info? 79).map (fun i=>(i.zero,i.size,i.bytes))=Xa (Xa spz,10,224):=by kernel_rfl
def ZC:Elt SpV where
 enc:=spv
 k:=10
 ty:=79
 st:=39
 bytes:=224
 zv:=spz
 zero:=⟨Xd,zG,zG,zG,zG,zG,zG,zG,zG,zG⟩
 len:=fun _=>rfl
 one:=fun a u hu=>by
  simp only[spv,mC,nM,or_false]at hu
  rcases hu with rfl|rfl|rfl|rfl|rfl|rfl|rfl|rfl|rfl|rfl <;> rfl
 und:=underlying39
 info:=zqF
 zok:=rfl
 few:=by decide
 pos:=by decide
structure jO (w:Xn) (x:SpV) (s:Sp):Prop where
 live:x.live=s.live
 ar:zl arE w (O x.ar.a x.ar.n x.ar.c) s.ars
 cap:x.ar.n<=x.ar.c
 tb:Je w x.tab s.tb
theorem jO.grew {w:Xn} {x:SpV} {s:Sp} (h:jO w x s) (k:zc w w'):jO w' x s:=⟨h.live,h.ar.grew k,h.cap,h.tb.grew k⟩
def Jf (w:Xn) (v:Xq) (ss:List Sp):Prop:=∃xs:List SpV,zl ZC w v xs/\xs.length=ss.length/\∀(i:Nat) x s,xs[i]? =Xa x->ss[i]? =Xa s->jO w x s
theorem Jf.grew {w:Xn} {v:Xq} {a:List Sp} (h:Jf w v a) (k:zc w w'):Jf w' v a:=by
 obtain⟨d,a,b,c⟩:=h;exact⟨d,a.grew k,b,fun i x s b a=>(c i x s b a).grew k⟩
structure MaV where
 (f s sb sq db dq fl ca sp:Sli)
structure zy (w:Xn) (V:MaV) (m:Ma):Prop where
 fs:zl qA w (O V.f.a V.f.n V.f.c) m.fs
 sl:zl slE w (O V.s.a V.s.n V.s.c) m.sl
 sb:jk w (O V.sb.a V.sb.n V.sb.c) m.sb
 sq:jz w (O V.sq.a V.sq.n V.sq.c) m.sq
 db:jk w (O V.db.a V.db.n V.db.c) m.db
 dq:jz w (O V.dq.a V.dq.n V.dq.c) m.dq
 fl:qg w (O V.fl.a V.fl.n V.fl.c) m.fl
 ca:zl jG w (O V.ca.a V.ca.n V.ca.c) m.ca
 sp:Jf w (O V.sp.a V.sp.n V.sp.c) m.sp
abbrev mL (V:MaV) (m:Ma):List Xq:=[V.f.x,I6 m.hand,V.s.x,V.sb.x,V.sq.x,V.db.x,V.dq.x,V.fl.x,I6 m.cnt,V.ca.x,V.sp.x]
abbrev zM:List Xq:=[eS,I6 0,eS,eS,eS,eS,eS,eS,I6 0,eS,eS]
theorem zy.grew {w:Xn} {V:MaV} {m:Ma} (h:zy w V m) (k:zc w w'):zy w' V m:=⟨h.fs.grew k,h.sl.grew k,h.sb.grew k,h.sq.grew k,h.db.grew k,h.dq.grew k,jo.grew h.fl k,h.ca.grew k,h.sp.grew k⟩
theorem jk.n {w:Xn} {a:Option Addr} {n c:Nat} {l:List (List Int)} (h:jk w (O a n c) l):n=l.length:=by
 obtain⟨⟨_,_,b,_⟩,_⟩:=h;cases b;rfl
theorem jz.n {w:Xn} {a:Option Addr} {n c:Nat} {l:List (Int × List Int)} (h:jz w (O a n c) l):n=l.length:=by
 obtain⟨⟨_,_,b,_⟩,_⟩:=h;cases b;rfl
theorem qg.n {w:Xn} {a:Option Addr} {n c:Nat} {l:List Fl} (h:qg w (O a n c) l):n=l.length:=by
 obtain⟨_,b,b,d,_⟩:=h;rw[b.now.n,d]
theorem Jf.n {w:Xn} {a:Option Addr} {n c:Nat} {l:List Sp} (h:Jf w (O a n c) l):n=l.length:=by
 obtain⟨b,b,d,_⟩:=h;rw[b.n,d]
theorem zy.ns {w:Xn} {V:MaV} {m:Ma} (h:zy w V m):V.f.n=m.fs.length/\V.s.n=m.sl.length/\V.sb.n=m.sb.length/\V.sq.n=m.sq.length/\V.db.n=m.db.length/\V.dq.n=m.dq.length/\V.fl.n=m.fl.length/\V.ca.n=m.ca.length/\V.sp.n=m.sp.length:=
 ⟨h.fs.n,h.sl.n,h.sb.n,h.sq.n,h.db.n,h.dq.n,qg.n h.fl,h.ca.n,h.sp.n⟩
theorem zl.rowsAt {α:Type} {E:Elt α} {w:Xn} {a:Option Addr} {n c:Nat} {l:List α} (h:zl E w (O a n c) l):zox E w a l:=by
 obtain⟨_,_,b,d⟩:=h.rows;cases b;exact d
theorem zy.frs {w:Xn} {V:MaV} {m:Ma} (h:zy w V m):zdA w V.f.a m.fs:=fun j x d=>by
 obtain⟨a,b,c⟩:=h.fs.rowsAt j x d;exact⟨a,b,fun W a=>(c W a).fr⟩
theorem zy.cas {w:Xn} {V:MaV} {m:Ma} (h:zy w V m):zeB w V.ca.a m.ca:=by
 obtain⟨_,_,a,b⟩:=h.ca.cas;simp only[vJ]at a;rw[a.1];exact b
theorem zy.sls {w:Xn} {V:MaV} {m:Ma} (h:zy w V m):zjb w V.s.a m.sl:=by
 obtain⟨_,_,a,b⟩:=h.sl.sls;simp only[vJ]at a;rw[a.1];exact b
theorem zy.pgs {w:Xn} {V:MaV} {m:Ma} (h:zy w V m):zje w V.db.a m.db:=by
 obtain⟨_,_,a,b⟩:=h.db.rows;simp only[vJ]at a;rw[a.1];exact b
theorem zy.puts {w:Xn} {V:MaV} {m:Ma} (h:zy w V m):zdz w V.dq.a m.dq:=by
 obtain⟨_,_,a,b⟩:=h.dq.rows;simp only[vJ]at a;rw[a.1];exact b
theorem zh6 (v fs) (w:Xn) (h:zl jG w v fs):
  Xp prog 89 #[v] w fun e w'=>∃g,e= Xl g/\zb jG w.heap.size w' g fs/\zc w w':=by
 have j:=dD h;obtain⟨⟨d,f,rfl,b,c⟩,a⟩:=h;have h:∀(w:Xn) (d:Option Addr) (n f i h:Nat),(binOp .eql 38 (O d n f) (O Xb i h)).run prog w= .ok (Xh d.isNone) w:=fun w d n f i h=>Lib.run_eql_slice_nil w _ _ d n f i h underlying38
 cases d with
 | none=>
  have d:=b rfl;subst d;clear c b a
  go_enter func89,ntmps89
  go_wp2;go_ret;exact⟨_,rfl,zb.nil _ _ _,zc.refl w⟩
 | some x=>
  have d:=dD a;clear c b a
  go_enter func89,ntmps89
  go_wp2_with (at_builtin;refine zn (E:=jG) rfl (.tmp 5) (.tmp 6) rfl w.heap.size _ [] rfl (zb.made jG w) _ fs rfl (j.grew (za _ _)) ?qb Sm ?_)
  case qb=>rw[Yn,zA];exact d.out
  intro g a b a;go_wp2;go_ret;exact⟨g,rfl,Si b,((bR _ w).alloc (nR _) _).grown a Sm (by intro k a;simp[Value.ownBlock]at a;omega)⟩
theorem zh5 (v) (fs:List SpV) (w:Xn) (h:zl ZC w v fs):
  Xp prog 124 #[v] w fun e w'=>∃g,e= Xl g/\zb ZC w.heap.size w' g fs/\zc w w':=by
 have j:=dD h;obtain⟨⟨d,f,rfl,b,c⟩,a⟩:=h;have h:∀(w:Xn) (d:Option Addr) (n f i h:Nat),(binOp .eql 39 (O d n f) (O Xb i h)).run prog w= .ok (Xh d.isNone) w:=fun w d n f i h=>Lib.run_eql_slice_nil w _ _ d n f i h underlying39
 cases d with
 | none=>
  have d:=b rfl;subst d;clear c b a
  go_enter func124,ntmps124
  go_wp2;go_ret;exact⟨_,rfl,zb.nil _ _ _,zc.refl w⟩
 | some x=>
  have d:=dD a;clear c b a
  go_enter func124,ntmps124
  go_wp2_with (at_builtin;refine zn (E:=ZC) rfl (.tmp 5) (.tmp 6) rfl w.heap.size _ [] rfl (zb.made ZC w) _ fs rfl (j.grew (za _ _)) ?qb Sm ?_)
  case qb=>rw[Yn,zA];exact d.out
  intro g a b a;go_wp2;go_ret;exact⟨g,rfl,Si b,((bR _ w).alloc (nR _) _).grown a Sm (by intro k a;simp[Value.ownBlock]at a;omega)⟩
theorem zh7 (v fs) (w:Xn) (h:zl arE w v fs):
  Xp prog 125 #[v] w fun e w'=>∃g,e= Xl g/\zb arE w.heap.size w' g fs/\zc w w':=by
 have j:=dD h;obtain⟨⟨d,f,rfl,b,c⟩,a⟩:=h;have h:∀(w:Xn) (d:Option Addr) (n f i h:Nat),(binOp .eql 77 (O d n f) (O Xb i h)).run prog w= .ok (Xh d.isNone) w:=fun w d n f i h=>Lib.run_eql_slice_nil w _ _ d n f i h underlying77
 cases d with
 | none=>
  have d:=b rfl;subst d;clear c b a
  go_enter func125,ntmps125
  go_wp2;go_ret;exact⟨_,rfl,zb.nil _ _ _,zc.refl w⟩
 | some x=>
  have d:=dD a;clear c b a
  go_enter func125,ntmps125
  go_wp2_with (at_builtin;refine zn (E:=arE) rfl (.tmp 5) (.tmp 6) rfl w.heap.size _ [] rfl (zb.made arE w) _ fs rfl (j.grew (za _ _)) ?qb Sm ?_)
  case qb=>rw[Yn,zA];exact d.out
  intro g a b a;go_wp2;go_ret;exact⟨g,rfl,Si b,((bR _ w).alloc (nR _) _).grown a Sm (by intro k a;simp[Value.ownBlock]at a;omega)⟩
end
section
def zmL (f:Fr):Prop:=0<=f.r/\(0<=f.x/\f.x<12)/\(f.f=-1\/(0<=f.f/\f.f<5))/\(f.r=0->f=frF)/\(f.f=-1->f.x=0)
theorem zl0 {f:Fr} (h:zmL f) (a:f.r<=1000):frW f=0:=by
 obtain⟨a,a,c,d,e⟩:=h;unfold frW;have a:inB f.r 1001=Xc:=by simp[inB];omega
 have b:inB f.x 12=Xc:=by simp[inB];omega
 rw[a,b,kF Dc]
 have a:(!(f.f == -1) && !inB f.f 5)=Xd:=by
  rcases c with h|h
  ·simp[h]
  have:inB f.f 5=Xc:=by simp[inB];omega
  simp[this]
 rw[a,kF Dc]
 have b:(f.r == 0 && !Qf f frF)=Xd:=by
  by_cases a:f.r=0
  ·rw[(zdc f frF).2 (d a)];simp
  simp[a]
 have c:(f.f == -1 && !(f.x == 0))=Xd:=by
  by_cases a:f.f=-1
  ·simp[e a]
  simp[a]
 rw[b,c];rfl
theorem JS:∀{l:List Fr},zbU l=0↔∀f∈l,frW f=0
 | []=>by simp[zbU]
 | f :: l=>by
  unfold zbU
  by_cases h:frW f=0
  ·rw[kE h,JS]
   simp[h]
  rw[kF h]
  simp[h]
def zbQ (m:Ma) (x:On) (e:En):Prop:=enW e=0/\e.kind≠0/\Jm m x e=0
structure qK (m:Ma) (T:List (Nat->En)):Prop where
 fs40:m.fs.length<=40
 fok:∀f∈m.fs,zmL f
 sl60:m.sl.length<=60
 sbl:m.sb.length=m.sl.length
 sq:zF m.sb.length m.sq=0
 dok:zF m.db.length m.dq=0
 st:stW m.fl m.cnt=0
 cnt:m.cnt=(m.db.length:Int)
 blk:∀b:Nat,b<m.db.length->zR m.fl (b:Int)=Xd->m.db[b]? =Xa zp
 que:∀q∈m.dq,zR m.fl q.1=Xc
 spl:m.sp.length<=4
 spok:∀s∈m.sp,(wrL s.ars).1=0/\(s.live=Xd->s.ars=[])
 tl:T.length=m.sp.length
 ca:zbf m Xb m.ca=0
 ent:∀(p:Nat) s f,m.sp[p]? =Xa s->T[p]? =Xa f->∀n:Nat,n<64->f n=en0\/zbQ m (zB s.ars n) (f n)
 cf:∀(k:Nat) f,m.fs[k]? =Xa f->f.r=((qP T 1 k+zH m.ca k:Nat):Int)/\(0<=f.f->zH m.ca k≠0)
 cs:∀(k:Nat) z,m.sl[k]? =Xa z->z=(qP T 2 k:Int)
theorem zu {m:Ma}:∀{l:List Ca} {p:Option Ca},zbf m p l=0↔(∀c∈l,caE m Xb c=0)/\(∀q c,p=Xa q->c∈l->qj q<qj c)/\l.Pairwise (fun a b=>qj a<qj b)
 | [],p=>by simp[zbf]
 | c :: l,p=>by
  unfold zbf;have s:caE m p c=0↔caE m Xb c=0/\∀q,p=Xa q->qj q<qj c:=by
   unfold caE
   by_cases j:c.file<0\/(m.fl.length:Int)<=c.file\/c.idx<0\/bkN m c.file<=c.idx\/c.fr<0\/(m.fs.length:Int)<=c.fr
   ·rw[kE j,kE j];simp
   rw[kF j,kF j]
   by_cases k:(zU m c.fr).r=0\/(zU m c.fr).f≠c.file\/(zU m c.fr).x≠c.idx
   ·rw[kE k,kE k];simp
   rw[kF k,kF k]
   cases p with
   | none=>simp
   | some q=>
    simp only[Option.some.injEq,forall_eq',true_and]
    by_cases r:qj c<=qj q
    ·rw[kE r];constructor
     ·intro h;cases h
     intro h;omega
    rw[kF r];simp;omega
  by_cases h:caE m p c=0
  ·rw[kE h,zu];obtain⟨v,n⟩:=s.1 h;constructor
   ·rintro⟨f,g,i⟩;refine⟨?_,?_,?_⟩
    ·intro x d
     rcases mC.1 d with rfl|d
     ·exact v
     exact f x d
    ·intro q x e d
     rcases mC.1 d with rfl|d
     ·exact n q e
     have:=n q e;have:=g c x rfl d;omega
    exact Yd.2 ⟨fun x d=>g c x rfl d,i⟩
   rintro⟨f,g,i⟩;obtain⟨t,u⟩:=Yd.1 i;exact⟨fun x d=>f x (by simp[d]),fun q x e d=>by cases e;exact t x d,u⟩
  rw[kF h];constructor
  ·intro w;exact absurd w h
  rintro⟨f,g,i⟩;exact absurd (s.2 ⟨f c Sm,fun q e=>g q c e Sm⟩) h
theorem j8 {m:Ma} {c:Ca} (h:caE m Xb c=0):(0<=c.file/\c.file<m.fl.length/\0<=c.idx/\c.idx<bkN m c.file/\0<=c.fr/\c.fr<m.fs.length)/\(zU m c.fr).r≠0/\(zU m c.fr).f=c.file/\(zU m c.fr).x=c.idx:=by
 unfold caE at h
 split at h
 ·cases h
 split at h
 ·cases h
 rename_i a a
 refine⟨Wm,fun h=>a (.inl h),?_,?_⟩
 ·exact Classical.byContradiction fun h=>a (.inr (.inl h))
 exact Classical.byContradiction fun h=>a (.inr (.inr h))
theorem zbg {m:Ma} {c:Ca} (e:0<=c.file/\c.file<m.fl.length/\0<=c.idx/\c.idx<bkN m c.file/\0<=c.fr/\c.fr<m.fs.length) (a:(zU m c.fr).r≠0) (b:(zU m c.fr).f=c.file) (d:(zU m c.fr).x=c.idx):caE m Xb c=0:=by
 unfold caE;rw[kF Wm,kF (by rintro(h | h | h);exact a h;exact h b;exact h d)]
theorem zkz {m:Ma} (h:zbf m Xb m.ca=0) (k:Int):zH m.ca k<=1:=by
 obtain⟨j,_,n⟩:=zu.1 h;have h:∀(l:List Ca),(∀c∈l,caE m Xb c=0)->l.Pairwise (fun a b=>qj a<qj b)->zH l k<=1:=by
  intro l
  induction l with
  | nil=>intro _ _;simp[zH]
  | cons c l d=>
   intro e a;obtain⟨i,f⟩:=Yd.1 a;have b:=d (fun x d=>e x (by simp[d])) f
   unfold zH at b⊢;rw[List.countP_cons]
   by_cases g:c.fr=k
   ·have:l.countP (fun c=>decide (c.fr=k))=0:=by
     rw[Us];intro x d f;have a:x.fr=k:=Si f
     have f:=j8 (e c Sm)
     have c:=j8 (e x (by simp[d]))
     have e:=i x d;rw[g]at f;rw[a]at c;unfold qj at e;have:=f.2.2.1;have:=f.2.2.2;have:=c.2.2.1;have:=c.2.2.2;omega
    rw[this]
    simp[g]
   simp[g]
   exact b
 exact h m.ca j n
theorem zac {ca:List Ca} {c:Ca} (h:c∈ca):zH ca c.fr≠0:=by
 unfold zH;intro a;rw[Us]at a;exact a c h Sm
theorem zbL {ca:List Ca} {k:Int} (h:zH ca k≠0):∃c∈ca,c.fr=k:=by
 unfold zH at h;have:0<ca.countP fun c=>decide (c.fr=k):=Nat.pos_of_ne_zero h
 rw[Ut]at this;obtain⟨c,a,b⟩:=this;exact⟨c,a,Si b⟩
def jU (f:Nat->En):List (List En):=jT ((Xv 64).map f)
def jS (m:Ma) (T:List (Nat->En)) (h:Int):Ma:={ m with hand:=h,sp:=Uh (fun s f=>{ s with tb:=jU f }) m.sp T }
theorem zeN {f:Nat->En} (h:∀n,n<64->enW (f n)=0) {n:Nat} (a:n<64):zaC (jU f) (n / 8) (n % 8)=f n:=by
 unfold jU zaC jT;rw[Yb,Ya Wm]
 simp only[Option.map_some,Option.getD_some];have b:∀e∈Qi ((Xv 64).map f) (n / 8),enW e=0:=by
  intro e a;unfold Qi at a;obtain⟨k,c,rfl⟩:=Yc.1 a;rw[Xs]at c;rw[Yb,Ya Wm]
  exact h _ Wm
 rw[zoi _ b];unfold Qi;rw[Yb,Ya Wm]
 simp only[Option.map_some,Option.getD_some];rw[Yb,Ya Wm]
 simp only[Option.map_some,Option.getD_some]
 congr 1
 omega
theorem zix {f:Nat->En} (h:∀n,n<64->enW (f n)=0):tbW (jU f)=0:=by
 rw[Zd];intro x a;unfold jU jT at a;obtain⟨i,b,rfl⟩:=Yc.1 a;rw[Xs]at b;refine zpP (by simp[Qi]) ?_
 intro e a;unfold Qi at a;obtain⟨k,b,rfl⟩:=Yc.1 a;rw[Xs]at b;rw[Yb,Ya Wm]
 exact h _ Wm
theorem zhm {f:Nat->En} (h:∀n,n<64->f n=en0):(jU f).all (·.isEmpty)=Xc:=by
 rw[Yh];intro x a;unfold jU jT at a;obtain⟨i,b,rfl⟩:=Yc.1 a;rw[Xs]at b;have:Zn (Qi ((Xv 64).map f) i)=Xd:=by
  unfold Zn;rw[Og];intro e a;unfold Qi at a;obtain⟨k,b,rfl⟩:=Yc.1 a;rw[Xs]at b;rw[Yb,Ya Wm]
  simp only[Option.map_some,Option.getD_some];rw[h _ Wm]
  decide
 unfold mk;rw[kF (by rw[this];decide)]
 rfl
theorem zgS {f g:Nat->En} (kind k:Int):∀{m:Nat},(∀n,n<m->f n=g n)->jL f kind k m=jL g kind k m
 | 0,_=>rfl
 | m+1,h=>by
  unfold jL;rw[zgS kind k (fun n a=>h n Wm),h m Wm]
section
variable{m:Ma} {T:List (Nat->En)}
theorem qK.en (h:qK m T) {p:Nat} {f:Nat->En} (a:T[p]? =Xa f) {n:Nat} (b:n<64):enW (f n)=0:=by
 have c:p<m.sp.length:=by rw[<-h.tl];exact(gS.1 a).1
 rcases h.ent p _ f (gE c) a n b with a|a
 ·rw[a];exact zfl
 exact a.1
theorem zol (h:qK m T) (b:Int) {p:Nat} {s:Sp} (a:(jS m T b).sp[p]? =Xa s):∃s0 f,m.sp[p]? =Xa s0/\T[p]? =Xa f/\s={ s0 with tb:=jU f }:=by
 unfold jS at a;simp only[List.getElem?_zipWith]at a;have c:p<m.sp.length:=by
  rcases Yp p m.sp.length with b|b
  ·exact b
  rw[gN b]at a;cases a
 have b:p<T.length:=by rw[h.tl];exact c
 rw[gE c,gE b]at a;simp only[Option.some.injEq]at a;exact⟨_,_,gE c,gE b,a.symm⟩
theorem ziY (h:qK m T) (a:Int) (kind k:Int):Zu (jS m T a) kind k=qP T kind k:=by
 have b:∀(S:List Sp) (T:List (Nat->En)),T.length=S.length->(∀(p:Nat) f,T[p]? =Xa f->∀n,n<64->enW (f n)=0)->qP ((Uh (fun s f=>({ s with tb:=jU f }:Sp)) S T).map zm) kind k=qP T kind k:=by
  intro S
  induction S with
  | nil=>intro T a _;rw[Yt.1 a];rfl
  | cons s S e=>
   intro T a d
   cases T with
   | nil=>simp at a
   | cons f T=>
    have c:=e T (Si a) (fun p g a=>d (p+1) g (Si a))
    have e:jL (zm { s with tb:=jU f }) kind k 64=jL f kind k 64:=zgS kind k fun n a=>by
     unfold zm;exact zeN (d 0 f rfl) a
    simp only[Ui,mP,qP,Ua]at c⊢;rw[c,e]
 exact b m.sp T h.tl fun p f b n a=>h.en b a
theorem qK.right (h:qK m T) {d:Int} (a:0<=d) (b:d<max (m.fs.length:Int) 1):maW (jS m T d)=0:=by
 have a:T.length<=4:=by rw[h.tl];exact h.spl
 unfold maW;rw[zi];intro e a;simp only[mC,nM,or_false]at a
 rcases a with rfl|rfl|rfl|rfl|rfl
 ·unfold Jq;rw[zi];intro e a;simp only[mC,nM,or_false]at a
  rcases a with rfl|rfl|rfl|rfl|rfl|rfl|rfl|rfl|rfl|rfl
  ·show Zt m.fs d=0
   unfold Zt;have b:zbU m.fs=0:=JS.2 fun f l=>by
    obtain⟨k,g⟩:=Xy l;refine zl0 (h.fok f l) ?_;rw[(h.cf k f g).1];have:=zbD T 1 k;have:=zkz h.ca k;omega
   rw[kF (Hm h.fs40),kE b,kE]
   simp[inB]
   omega
  ·show slW m.sl=0
   unfold slW;rw[kF (Hm h.sl60),kF]
   rw[Ye];rintro⟨z,b,i⟩;obtain⟨k,g⟩:=Xy b;have c:=h.cs k z g;have:=zbD T 2 k;unfold zbN at i
   simp at i
   omega
  ·exact h.sq
  ·exact h.dok
  ·exact h.st
  ·show zl4 m=0
   unfold zl4;rw[kF];have:=h.sbl;have:=h.cnt;omega
  ·show JY m=0
   unfold JY;rw[kF];rw[Ye];rintro⟨j,i,b⟩;rw[Xs]at i;simp only[Xx,Bool.not_eq_true']at b;have:=h.blk j i b.1;rw[gD,this]at b
   simp at b
  ·show JE m=0
   unfold JE;rw[kF];rw[Ye];rintro⟨y,w,b⟩;rw[h.que y w]at b;cases b
  ·have:(jS m T d).sp.length<=4:=by
    unfold jS;simp;have:=h.spl;omega
   rw[kF Wm]
  rw[zi];intro e a;obtain⟨z,u,rfl⟩:=Yc.1 a;obtain⟨x,v⟩:=Xy u;obtain⟨s,f,q,r,rfl⟩:=zol h d v;have t:=h.spok s (mG q);unfold spE;simp only;rw[kF (fun h=>h t.1),kF (fun i=>i (zix fun n i=>h.en r i)),kF]
  intro b;rw[Xx]at b;have p:s.live=Xd:=Si b.1
  have j:=t.2 p;have p:(jU f).all (·.isEmpty)=Xc:=zhm fun n i=>by
   rcases h.ent x s f q r n i with e|e
   ·exact e
   have:=e.2.2;unfold Jm at this;rw[j,kE (show(zB [] n).is=Xd from rfl)]at this
   cases this
  rw[j,p]at b
  simp at b
 ·obtain⟨q,r,j⟩:=zu.1 h.ca;exact zu.2 ⟨fun b p=>q b p,fun y b w=>(by cases w),j⟩
 ·rw[zi];intro e a;obtain⟨z,u,rfl⟩:=Yc.1 a;obtain⟨x,v⟩:=Xy u;obtain⟨s,f,q,r,rfl⟩:=zol h d v;unfold zcA;rw[zi];intro e a;obtain⟨n,i,rfl⟩:=Yc.1 a;rw[Xs]at i;have l:zm { s with tb:=jU f } n=f n:=by
   unfold zm;exact zeN (fun n i=>h.en r i) i
  rw[l]
  rcases h.ent x s f q r n i with c|c
  ·rw[c,kE (show en0.kind=0 from rfl)]
  rw[kF c.2.1];exact c.2.2
 ·rw[zi];intro e a;obtain⟨k,g,rfl⟩:=Yc.1 a;rw[Xs]at g;have b:k<m.fs.length:=g;have l:=h.cf k _ (gE b);unfold frE;rw[ziY h d];have f:zU (jS m T d) k=m.fs[k]:=by
   show m.fs.getD (k:Int).toNat frF=_
   rw[tN,gD,gE b];rfl
  rw[f,kF];rintro(c|⟨c,i⟩)
  ·exact c l.1
  exact l.2 c i
 rw[zi];intro e a;obtain⟨k,g,rfl⟩:=Yc.1 a;rw[Xs]at g;have b:k<m.sl.length:=g;have u:=h.cs k _ (gE b);unfold zjq;rw[ziY h d];have f:(jS m T d).sl.getD k 0=m.sl[k]:=by
  show m.sl.getD k 0=_
  rw[gD,gE b];rfl
 rw[f,kF (fun c=>c u)]
def Qg (m:Ma):List (Nat->En):=m.sp.map zm
theorem zaS {m:Ma} (h:maW m=0):qK m (Qg m)/\0<=m.hand/\m.hand<max (m.fs.length:Int) 1:=by
 unfold maW at h;rw[zi]at h;have c:Jq m=0:=h _ Sm
 have q:zbf m Xb m.ca=0:=h _ Sm
 have C:=zi.1 (h (zw (m.sp.map (zcA m))) Sm)
 have D:=zi.1 (h (zw ((Xv m.fs.length).map (frE m))) Sm)
 have E:=zi.1 (h (zw ((Xv m.sl.length).map (zjq m))) Sm)
 unfold Jq at c;rw[zi]at c;have a:Zt m.fs m.hand=0:=c _ Sm
 have f:slW m.sl=0:=c _ Sm
 have k:zF m.sb.length m.sq=0:=c _ Sm
 have l:zF m.db.length m.dq=0:=c _ Sm
 have n:stW m.fl m.cnt=0:=c _ Sm
 have g:zl4 m=0:=c _ Sm
 have u:JY m=0:=c _ Sm
 have v:JE m=0:=c _ Sm
 have A:(if 4<m.sp.length then(4:Int)else 0)=0:=c _ Sm
 have j:=zi.1 (c (zw (m.sp.map spE)) Sm)
 have e:m.fs.length<=40/\zbU m.fs=0/\0<=m.hand/\m.hand<max (m.fs.length:Int) 1:=by
  unfold Zt at a
  split at a
  ·cases a
  split at a
  ·rename_i b d
   split at a
   ·rename_i i
    unfold inB at i
    simp at i
    exact⟨Wm,d,Wm,Wm⟩
   cases a
  rename_i b d
  exact absurd a d
 have r:m.sl.length<=60:=by
  unfold slW at f
  split at f
  ·cases f
  omega
 have a:m.sl.length=m.sb.length/\m.cnt=(m.db.length:Int):=by
  unfold zl4 at g
  split at g
  ·cases g
  rename_i b
  constructor
  ·exact Classical.byContradiction fun h=>b (.inl h)
  exact Classical.byContradiction fun h=>b (.inr h)
 refine⟨⟨e.1,fun f p=>?_,r,a.1.symm,k,l,n,a.2,fun d t H=>?_,fun B G=>?_,?_,fun s l=>?_,by simp[Qg],q,fun a s f l r n F=>?_,fun k f g=>?_,fun k z g=>?_⟩,e.2.2.1,e.2.2.2⟩
 ·have a:=JS.1 e.2.1 f p;unfold frW at a
  split at a
  ·cases a
  rename_i e
  split at a
  ·cases a
  rename_i z
  split at a
  ·cases a
  rename_i w
  have x:inB f.r 1001=Xc/\inB f.x 12=Xc:=by
   cases p:inB f.r 1001 <;> cases a:inB f.x 12 <;> simp[p,a]at e⊢
  have y:f.f=-1\/inB f.f 5=Xc:=by
   by_cases e:f.f=-1
   ·exact .inl e
   right
   cases a:inB f.f 5 with
   | true=>rfl
   | false=>simp[e,a]at z
  have z:(f.r=0->f=frF)/\(f.f=-1->f.x=0):=by
   constructor
   ·intro e
    cases a:Qf f frF with
    | true=>exact(zdc f frF).1 a
    | false=>simp[e,a]at w
   intro e
   by_cases a:f.x=0
   ·exact a
   simp[e,a]at w
  unfold inB at x y
  simp at x y
  exact⟨Wm,Wm,Wm,z.1,z.2⟩
 ·unfold JY at u
  split at u
  ·cases u
  rename_i b
  have:¬(!zR m.fl (d:Int) && !(m.db.getD d [] == zp))=Xc:=fun h=>b (Ye.2 ⟨d,Xs.2 t,h⟩)
  rw[H,gD,gE t]at this;rw[gE t]
  simp at this
  rw[this]
 ·unfold JE at v
  split at v
  ·cases v
  rename_i b
  cases e:zR m.fl B.1 with
  | true=>rfl
  | false=>exact absurd (Ye.2 ⟨B,G,by simp[e]⟩) b
 ·split at A
  ·cases A
  omega
 ·have a:=j (spE s) (Yc.2 ⟨s,l,rfl⟩);unfold spE at a
  split at a
  ·rename_i b;exact absurd a b
  rename_i b
  split at a
  ·rename_i d;exact absurd a d
  split at a
  ·cases a
  rename_i i
  refine⟨Si b,fun t=>?_⟩
  rw[t]at i
  cases e:s.ars with
  | nil=>rfl
  | cons x y=>rw[e]at i;simp at i
 ·unfold Qg at r;rw[Yb,l]at r;cases r;have i:=mG l;have a:=j (spE s) (Yc.2 ⟨s,i,rfl⟩);have j:tbW s.tb=0:=by
   unfold spE at a
   split at a
   ·rename_i b;exact absurd a b
   split at a
   ·rename_i d;exact absurd a d
   rename_i d;simpa using d
  have d:enW (zm s n)=0:=by
   unfold zm zaC;have a:=Zd.1 j;have:zhb (s.tb[n / 8]?.getD []):=by
    cases e:s.tb[n / 8]? with
    | none=>exact .inl rfl
    | some x=>exact a x (mG e)
   exact this.get (n % 8)
  have a:=zi.1 (C (zcA m s) (Yc.2 ⟨s,i,rfl⟩)) _ (Yc.2 ⟨n,Xs.2 F,rfl⟩)
  by_cases g:(zm s n).kind=0
  ·left;exact zmf d (by simp[enS,g])
  right;rw[kF g]at a;exact⟨d,g,a⟩
 ·have a:=(gS.1 g).1;have:=D (frE m k) (Yc.2 ⟨k,Xs.2 a,rfl⟩);unfold frE at this;have p:zU m k=f:=by unfold zU;rw[tN,gD,g];rfl
  rw[p]at this
  split at this
  ·cases this
  rename_i b
  refine⟨Classical.byContradiction fun h=>b (.inl h),fun c q=>b (.inr ⟨c,q⟩)⟩
 have a:=(gS.1 g).1;have:=E (zjq m k) (Yc.2 ⟨k,Xs.2 a,rfl⟩);unfold zjq at this;rw[gD,g]at this
 split at this
 ·cases this
 rename_i b
 exact Classical.byContradiction fun h=>b h
end
section
variable{m:Ma} {T:List (Nat->En)}
theorem qp {m:Ma} {k:Nat} {f:Fr} (h:m.fs[k]? =Xa f):zU m (k:Int)=f:=by
 unfold zU;rw[tN,gD,h];rfl
theorem js {m:Ma} {k:Nat} {f:Fr} (a:k<m.fs.length) (z:Int) (b:0<=z):zU { m with fs:=m.fs.set k f } z=if z=(k:Int)then f else zU m z:=by
 unfold zU;simp only[gD]
 by_cases e:z=(k:Int)
 ·subst e;rw[kE rfl,tN,sF a];rfl
 rw[kF e,sN Wm]
theorem j5 {m m':Ma} {x:On} {e:En} (h:Jm m x e=0) (b:m'.sl.length=m.sl.length) (a:m'.fs.length=m.fs.length) (f:e.kind≠2->(zU m' e.n).f=(zU m e.n).f/\(zU m' e.n).x=(zU m e.n).x/\(e.wr=Xc->(zU m e.n).f=-1->(zU m' e.n).r<=1)):Jm m' x e=0:=by
 unfold Jm at h⊢;rw[b,a]
 by_cases a:x.is=Xd
 ·rw[kE a]at h;cases h
 rw[kF a]at h⊢
 by_cases a:e.kind=2
 ·rw[kE a]at h⊢;exact h
 rw[kF a]at h⊢;obtain⟨b,c,d⟩:=f a
 by_cases a:(m.fs.length:Int)<=e.n
 ·rw[kE a]at h;cases h
 rw[kF a]at h⊢;rw[b,c]
 split at h
 ·cases h
 rename_i b
 rw[kF];rintro(a|a|a|a|a)
 ·exact b (.inl a)
 ·exact b (.inr (.inl a))
 ·exact b (.inr (.inr (.inl a)))
 ·exact b (.inr (.inr (.inr (.inl a))))
 have:=d a.1 a.2.1;omega
theorem z8 {m:Ma} {x:On} {e:En} (h:zbQ m x e) (c:e.kind≠2):e.kind=1/\0<=e.n/\e.n<m.fs.length/\(e.wr=Xc->(zU m e.n).f=-1->(zU m e.n).r<=1):=by
 obtain⟨b,a,a⟩:=h;obtain⟨d,d,_⟩:=Qr b;unfold Jm at a
 by_cases b:x.is=Xd
 ·rw[kE b]at a;cases a
 rw[kF b,kF c]at a
 by_cases b:(m.fs.length:Int)<=e.n
 ·rw[kE b]at a;cases a
 rw[kF b]at a
 split at a
 ·cases a
 rename_i c
 refine⟨Wm,Wm,Wm,fun a b=>?_⟩
 have:¬1< (zU m e.n).r:=fun h=>c (.inr (.inr (.inr (.inr ⟨a,b,h⟩))))
 omega
theorem zff {T:List (Nat->En)} {p:Nat} {f:Nat->En} (a:T[p]? =Xa f) {n:Nat} (c:n<64) (b:(f n).kind=1):1<=qP T 1 (f n).n:=zck a c (by simp[isE,b]) Dc
theorem qK.free (h:qK m T) {f:Fr} (b:m.fs[j]? =Xa f) (a:f.r=0):qP T 1 j=0/\zH m.ca j=0:=by
 have:=(h.cf j f b).1;rw[a]at this;omega
def Qd (ca:List Ca) (c:Ca):List Ca:=ca.takeWhile (fun d=>decide (qj d<qj c))++c :: ca.dropWhile (fun d=>decide (qj d<qj c))
theorem zjV (ca) (c:Ca) (k:Int):zH (Qd ca c) k=zH ca k+(if c.fr=k then 1 else 0):=by
 unfold Qd zH;have h:=List.takeWhile_append_dropWhile (p:=fun d=>decide (qj d<qj c)) (l:=ca)
 rw[Yw,List.countP_cons]
 conv=>rhs;rw[<-h,Yw]
 by_cases e:c.fr=k
 ·simp[e];omega
 simp[e]
theorem zlE {ca:List Ca} {c d:Ca} (h:d∈Qd ca c):d=c\/d∈ca:=by
 unfold Qd at h;rw[Xt,mC]at h
 rcases h with h|h|h
 ·exact .inr ((List.takeWhile_sublist _).subset h)
 ·exact .inl h
 exact .inr ((List.dropWhile_sublist _).subset h)
theorem zee {c:Ca}:∀{ca:List Ca},ca.Pairwise (fun a b=>qj a<qj b)->(∀d∈ca,qj d≠qj c)->(Qd ca c).Pairwise (fun a b=>qj a<qj b)
 | [],_,_=>by simp[Qd]
 | d :: ca,i,g=>by
  obtain⟨j,k⟩:=Yd.1 i
  by_cases f:qj d<qj c
  ·have h:Qd (d :: ca) c=d :: Qd ca c:=by
    unfold Qd;rw[Uu,Uv,kE (Si f),kE (Si f)]
    rfl
   rw[h];refine Yd.2 ⟨fun x e=>?_,zee k fun x e=>g x (by simp[e])⟩
   rcases zlE e with rfl|e
   ·exact f
   exact j x e
  have h:Qd (d :: ca) c=c :: d :: ca:=by
   unfold Qd;rw[Uu,Uv,kF (Si f),kF (Si f)]
   rfl
  rw[h];have:=g d Sm
  refine Yd.2 ⟨fun x e=>?_,i⟩
  rcases mC.1 e with rfl|e
  ·omega
  have:=j x e;omega
theorem qK.pages (h:qK m T) {file:Int} (a:0<=file) (b:file<m.fl.length):bkN m file<=12/\file<5:=by
 obtain⟨⟨a,a,a⟩,c,a⟩:=(qi m.fl m.cnt).1 h.st;have a:file.toNat<m.fl.length:=Wm
 have b:=c _ (List.getElem_mem a);unfold bkN;rw[gD,gE a];simp only[Option.getD_some];obtain⟨a,a,c⟩:=b;unfold Jn at a
 split at a <;> omega
theorem qK.cache (h:qK m T) {b:Fr} {p:Pg} {u d:Bool} {file a:Int} (e:m.fs[j]? =Xa b) (f:b.r=0) (r:0<=file/\file<m.fl.length) (hi:0<=a/\a<bkN m file) (i:∀c∈m.ca,¬(c.file=file/\c.idx=a)):
  qK { m with fs:=m.fs.set j ⟨p,1,u,d,file,a⟩,ca:=Qd m.ca ⟨file,a,j⟩ } T:=by
 have b:=(gS.1 e).1;obtain⟨g,k⟩:=h.free e f;obtain⟨e,e⟩:=h.pages r.1 r.2;obtain⟨t,e,y⟩:=zu.1 h.ca;have s:∀c∈m.ca,c.fr≠(j:Int):=fun c g e=>by
  have:=zac g;rw[e]at this;exact this k
 have l:∀c∈m.ca,qj c≠qj ⟨file,a,j⟩:=fun c g e=>by
  have f:=(j8 (t c g)).1;have k:=h.pages f.1 f.2.1;have:=i c g;unfold qj at e;simp only at e;omega
 refine⟨by simpa using h.fs40,fun f i=>?_,h.sl60,h.sbl,h.sq,h.dok,h.st,h.cnt,h.blk,h.que,h.spl,h.spok,h.tl,?_,fun x B f A v n q=>?_,fun w f k=>?_,h.cs⟩
 ·rcases Xw i with i | rfl
  ·exact h.fok f i
  refine⟨Sm,by simp only;omega,.inr (by simp only;omega),fun h=>by simp at h,fun h=>by simp only at h;omega⟩
 ·refine zu.2 ⟨fun c g=>?_,fun x c i=>(by cases i),zee y l⟩
  rcases zlE g with rfl|g
  ·refine zbg ⟨r.1,r.2,hi.1,hi.2,Sm,Si b⟩ ?_ ?_ ?_ <;> rw[show zU { m with fs:=m.fs.set j ⟨p,1,u,d,file,a⟩,ca:=Qd m.ca ⟨file,a,j⟩ } (⟨file,a,(j:Int)⟩:Ca).fr=⟨p,1,u,d,file,a⟩from by rw[show zU { m with fs:=m.fs.set j ⟨p,1,u,d,file,a⟩,ca:=Qd m.ca ⟨file,a,j⟩ } (⟨file,a,(j:Int)⟩:Ca).fr=zU { m with fs:=m.fs.set j ⟨p,1,u,d,file,a⟩ } (j:Int)from rfl,js b _ Wm,kE rfl]]
   simp
  obtain⟨l,r,y,z⟩:=j8 (t c g);have i:zU { m with fs:=m.fs.set j ⟨p,1,u,d,file,a⟩,ca:=Qd m.ca ⟨file,a,j⟩ } c.fr=zU m c.fr:=by
   rw[show zU { m with fs:=m.fs.set j ⟨p,1,u,d,file,a⟩,ca:=Qd m.ca ⟨file,a,j⟩ } c.fr=zU { m with fs:=m.fs.set j ⟨p,1,u,d,file,a⟩ } c.fr from rfl,js b _ l.2.2.2.2.1,kF (s c g)]
  exact zbg (by simpa [bkN]using l) (Rx i r) (Rx i y) (Rx i z)
 ·rcases h.ent x B f A v n q with e|e
  ·exact .inl e
  refine .inr ⟨e.1,e.2.1,j5 e.2.2 rfl Sm fun k=>?_⟩
  obtain⟨l,r,g,s⟩:=z8 e k;have g:(f n).n≠(j:Int):=fun t=>by
   have:=zff v q l;rw[t]at this;omega
  have i:zU { m with fs:=m.fs.set j ⟨p,1,u,d,file,a⟩,ca:=Qd m.ca ⟨file,a,j⟩ } (f n).n=zU m (f n).n:=by
   rw[show zU { m with fs:=m.fs.set j ⟨p,1,u,d,file,a⟩,ca:=Qd m.ca ⟨file,a,j⟩ } (f n).n=zU { m with fs:=m.fs.set j ⟨p,1,u,d,file,a⟩ } (f n).n from rfl,js b _ r,kF g]
  rw[i];exact⟨rfl,rfl,s⟩
 simp only at k⊢;rw[zjV]
 by_cases e:w=j
 ·subst e;rw[sF b]at k;cases k;refine⟨?_,fun _=>Sm⟩
  simp only[if_true];omega
 rw[sN (fun h=>e h.symm)]at k
 have:=h.cf w f k;rw[kF (by simp only;omega)]
 exact this
theorem zbJ {m':Ma} {T:List (Nat->En)} {p n:Nat} {f:Nat->En} {e:En} (hp:p<T.length) (h:m'.sp=m.sp) (k:T[p]? =Xa f)
  (a:∀(q:Nat) s g,m.sp[q]? =Xa s->T[q]? =Xa g->∀j:Nat,j<64->(q≠p\/j≠n)->g j=en0\/zbQ m' (zB s.ars j) (g j)) (b:∀s,m.sp[p]? =Xa s->zbQ m' (zB s.ars n) e):
  ∀(q:Nat) s g,m'.sp[q]? =Xa s->(T.set p (jt f n e))[q]? =Xa g->∀j:Nat,j<64->g j=en0\/zbQ m' (zB s.ars j) (g j):=by
 intro q s g d c j l;rw[h]at d
 by_cases i:q=p
 ·subst i;rw[sF hp]at c;cases c;unfold jt
  by_cases h:j=n
  ·subst h;rw[kE rfl];exact .inr (b s d)
  rw[kF h];exact a q s f d k j l (.inr h)
 rw[sN (fun h=>i h.symm)]at c
 exact a q s g d c j l (.inl i)
theorem ze7 (k:Int) (kind:Int) (w:Bool):isE ⟨kind,k,w⟩ kind k=Xc:=by simp[isE]
theorem za5 {kind k:Int} {e:En} (h:e.kind≠kind):isE e kind k=Xd:=by simp[isE,h]
theorem JM {kind k:Int} {e:En} (h:e.n≠k):isE e kind k=Xd:=by simp[isE,h]
theorem qK.hold (h:qK m T) {k p n:Nat} {fr:Fr} {f:Nat->En} {s:Sp} {w:Bool} (x:m.fs[k]? =Xa fr) (a:0<=fr.f) (F:m.sp[p]? =Xa s) (D:T[p]? =Xa f) (g:n<64) (c:f n=en0)
  (S:(zB s.ars n).is=Xc) (t:(zB s.ars n).file=fr.f) (u:(zB s.ars n).page=fr.x) (L:w=Xc->(zB s.ars n).sh=Xc/\(zB s.ars n).wr=Xc):
  qK { m with fs:=m.fs.set k { fr with r:=fr.r+1 } } (T.set p (jt f n ⟨1,k,w⟩)):=by
 have d:=(gS.1 x).1;have E:=(gS.1 D).1;have l:=h.fok fr (mG x);have i:∀z:Int,0<=z->(zU { m with fs:=m.fs.set k { fr with r:=fr.r+1 } } z).f=(zU m z).f/\(zU { m with fs:=m.fs.set k { fr with r:=fr.r+1 } } z).x=(zU m z).x/\((zU m z).f=-1->(zU { m with fs:=m.fs.set k { fr with r:=fr.r+1 } } z).r=(zU m z).r):=fun z a=>by
  rw[js d z a]
  by_cases b:z=(k:Int)
  ·subst b;rw[kE rfl,qp x];exact⟨rfl,rfl,fun h=>Wm⟩
  rw[kF b];exact⟨rfl,rfl,fun _=>rfl⟩
 have q:∀a j:Int,qP (T.set p (jt f n ⟨1,k,w⟩)) a j+(isE en0 a j).toNat=qP T a j+(isE ⟨1,k,w⟩ a j).toNat:=fun a j=>by
  have:=ZD ⟨1,k,w⟩ a j D g;rw[c]at this;exact this
 refine⟨by simpa using h.fs40,fun g a=>?_,h.sl60,h.sbl,h.sq,h.dok,h.st,h.cnt,h.blk,h.que,h.spl,h.spok,by simpa using h.tl,?_,?_,fun j g c=>?_,fun j z c=>?_⟩
 ·rcases Xw a with a|rfl
  ·exact h.fok g a
  obtain⟨R,A,G,H,v⟩:=l;exact⟨by simp only;omega,A,G,fun h=>by simp only at h;omega,v⟩
 ·obtain⟨B,v,y⟩:=zu.1 h.ca;refine zu.2 ⟨fun v C=>?_,fun M v K=>(by cases K),y⟩
  obtain⟨y,N,P,Q⟩:=j8 (B v C);obtain⟨B,C,K⟩:=i v.fr y.2.2.2.2.1;refine zbg (by simpa [bkN]using y) ?_ (Rx B P) (Rx C Q)
  rw[js d _ y.2.2.2.2.1]
  by_cases b:v.fr=(k:Int)
  ·rw[kE b];have:=l.1;simp only;omega
  rw[kF b];exact N
 ·refine zbJ E rfl D (fun M s g F a j c l=>?_) (fun l l=>?_)
  ·rcases h.ent M s g F a j c with b|b
   ·exact .inl b
   refine .inr ⟨b.1,b.2.1,j5 b.2.2 rfl Sm fun a=>?_⟩
   obtain⟨R,A,G,H⟩:=z8 b a;obtain⟨B,C,K⟩:=i (g j).n A;exact⟨B,C,fun i a=>by rw[K a];exact H i a⟩
  rw[F]at l;cases l;refine⟨Zy Sm ⟨Sm,by simp only;have:=h.fs40;omega,fun _=>by simp only;have:=h.fs40;omega⟩ Sm,Sm,?_⟩
  have a:zU { m with fs:=m.fs.set k { fr with r:=fr.r+1 } } ((k:Nat):Int)={ fr with r:=fr.r+1 }:=by rw[js d _ Wm,kE rfl]
  unfold Jm;simp only;rw[kF (by rw[S];decide),kF Dc,kF (by simp;omega),a,kF]
  simp only;rintro(a|a|a|a|a)
  ·exact a.2 ⟨Wm,t.symm,u.symm⟩
  ·exact a.2 ⟨Wm,t.symm,u.symm⟩
  ·rw[(L a.1).2]at a;cases a.2
  ·rw[(L a.1).1]at a;cases a.2.2
  omega
 ·simp only at c⊢;have a:=q 1 j;rw[jr 1 j Dc]at a
  by_cases b:j=k
  ·subst b;rw[sF d]at c;cases c;rw[ze7]at a;have:=h.cf j fr x;refine⟨?_,this.2⟩
   simp at a
   simp only;omega
  rw[sN (fun h=>b h.symm)]at c
  rw[JM (e:=⟨1,(k:Int),w⟩) (by simp only;omega)]at a
  have:=h.cf j g c;refine⟨?_,this.2⟩
  simp at a
  omega
 simp only at c⊢;have a:=q 2 j;rw[jr 2 j Dc,za5 (e:=⟨1,(k:Int),w⟩) Sm]at a
 have:=h.cs j z c
 simp at a
 omega
theorem qK.mine (h:qK m T) {p n:Nat} {a:Fr} {r:Pg} {u w:Bool} {f:Nat->En} {s:Sp} (b:m.fs[j]? =Xa a) (i:a.r=0) (y:m.sp[p]? =Xa s) (t:T[p]? =Xa f) (g:n<64) (d:f n=en0)
  (G:(zB s.ars n).is=Xc) (z:(zB s.ars n).sh=Xd) (F:w=Xc->(zB s.ars n).wr=Xc):
  qK { m with fs:=m.fs.set j ⟨r,1,u,Xd,-1,0⟩ } (T.set p (jt f n ⟨1,j,w⟩)):=by
 have c:=(gS.1 b).1;have x:=(gS.1 t).1;obtain⟨a,K⟩:=h.free b i;have q:∀a k:Int,qP (T.set p (jt f n ⟨1,j,w⟩)) a k+(isE en0 a k).toNat=qP T a k+(isE ⟨1,j,w⟩ a k).toNat:=fun a k=>by
  have:=ZD ⟨1,j,w⟩ a k t g;rw[d]at this;exact this
 refine⟨by simpa using h.fs40,fun g i=>?_,h.sl60,h.sbl,h.sq,h.dok,h.st,h.cnt,h.blk,h.que,h.spl,h.spok,by simpa using h.tl,?_,?_,fun k g d=>?_,fun k H d=>?_⟩
 ·rcases Xw i with i|rfl
  ·exact h.fok g i
  exact⟨Sm,Sm,.inl rfl,fun h=>by simp at h,fun _=>rfl⟩
 ·obtain⟨a,b,b⟩:=zu.1 h.ca;refine zu.2 ⟨fun l v=>?_,fun B l A=>(by cases A),b⟩
  obtain⟨A,C,D,E⟩:=j8 (a l v);have b:l.fr≠(j:Int):=fun a=>by
   have:=zac v;rw[a]at this;exact this K
  have v:zU { m with fs:=m.fs.set j ⟨r,1,u,Xd,-1,0⟩ } l.fr=zU m l.fr:=by rw[js c _ A.2.2.2.2.1,kF b]
  exact zbg (by simpa [bkN]using A) (Rx v C) (Rx v D) (Rx v E)
 ·refine zbJ x rfl t (fun B s g y i x v b=>?_) (fun l l=>?_)
  ·rcases h.ent B s g y i x v with a|a
   ·exact .inl a
   refine .inr ⟨a.1,a.2.1,j5 a.2.2 rfl Sm fun t=>?_⟩
   obtain⟨A,B,C,C⟩:=z8 a t;have b:(g x).n≠(j:Int):=fun t=>by
    have:=zff i v A;rw[t]at this;omega
   rw[js c _ B,kF b];exact⟨rfl,rfl,C⟩
  rw[y]at l;cases l;refine⟨Zy Sm ⟨Sm,by simp only;have:=h.fs40;omega,fun _=>by simp only;have:=h.fs40;omega⟩ Sm,Sm,?_⟩
  have b:zU { m with fs:=m.fs.set j ⟨r,1,u,Xd,-1,0⟩ } ((j:Nat):Int)=⟨r,1,u,Xd,-1,0⟩:=by rw[js c _ Wm,kE rfl]
  unfold Jm;simp only;rw[kF (by rw[G];decide),kF Dc,kF (by simp;omega),b,kF]
  simp only;rintro(b|b|b|b|b)
  ·exact b.1 trivial
  ·rw[z]at b;cases b.1
  ·rw[F b.1]at b;cases b.2
  ·omega
  omega
 ·simp only at d⊢;have b:=q 1 k;rw[jr 1 k Dc]at b
  by_cases a:k=j
  ·subst a;rw[sF c]at d;cases d;rw[ze7]at b;refine⟨?_,fun h=>by simp at h⟩
   simp at b
   simp only;omega
  rw[sN (fun h=>a h.symm)]at d
  rw[JM (e:=⟨1,(j:Int),w⟩) (by simp only;omega)]at b
  have:=h.cf k g d;refine⟨?_,this.2⟩
  simp at b
  omega
 simp only at d⊢;have b:=q 2 k;rw[jr 2 k Dc,za5 (e:=⟨1,(j:Int),w⟩) Sm]at b
 have:=h.cs k H d
 simp at b
 omega
theorem qK.swap (h:qK m T) {p n:Nat} {b:List Int} {f:Nat->En} {s:Sp} (u:m.sl[j]? =Xa 0) (r:m.sp[p]? =Xa s) (c:T[p]? =Xa f) (i:n<64) (d:f n=en0)
  (y:(zB s.ars n).is=Xc) (t:(zB s.ars n).sh=Xd):
  qK { m with sl:=m.sl.set j 1,sb:=m.sb.set j b } (T.set p (jt f n ⟨2,j,Xd⟩)):=by
 have l:=(gS.1 u).1;have q:=(gS.1 c).1;have g:∀a k:Int,qP (T.set p (jt f n ⟨2,j,Xd⟩)) a k+(isE en0 a k).toNat=qP T a k+(isE ⟨2,j,Xd⟩ a k).toNat:=fun a k=>by
  have:=ZD ⟨2,j,Xd⟩ a k c i;rw[d]at this;exact this
 refine⟨h.fs40,h.fok,by simpa using h.sl60,by simpa using h.sbl,by simpa using h.sq,h.dok,h.st,h.cnt,h.blk,h.que,h.spl,h.spok,by simpa using h.tl,?_,?_,fun k i d=>?_,fun k z d=>?_⟩
 ·obtain⟨v,a,w⟩:=zu.1 h.ca;exact zu.2 ⟨fun a x=>v a x,fun v a a=>(by cases a),w⟩
 ·refine zbJ q rfl c (fun v s i r a w q c=>?_) (fun c c=>?_)
  ·rcases h.ent v s i r a w q with a|a
   ·exact .inl a
   refine .inr ⟨a.1,a.2.1,j5 a.2.2 Sm rfl fun q=>?_⟩
   obtain⟨v,v,v,v⟩:=z8 a q;exact⟨rfl,rfl,v⟩
  rw[r]at c;cases c;refine⟨Zy Sm ⟨Sm,by simp only;have:=h.sl60;omega,fun h=>by simp at h⟩ Sm,Sm,?_⟩
  unfold Jm;simp only;rw[kF (by rw[y];decide),kE trivial,kF]
  rintro(c|c)
  ·simp at c;omega
  rw[t]at c;cases c
 ·have c:=g 1 k;rw[jr 1 k Dc,za5 (e:=⟨2,(j:Int),Xd⟩) Sm]at c
  have:=h.cf k i d;refine⟨?_,this.2⟩;simp only at this⊢
  simp at c
  omega
 simp only at d⊢;have c:=g 2 k;rw[jr 2 k Dc]at c
 by_cases a:k=j
 ·subst a;rw[sF l]at d;cases d;rw[ze7]at c;have:=h.cs k 0 u
  simp at c
  omega
 rw[sN (fun h=>a h.symm)]at d
 rw[JM (e:=⟨2,(j:Int),Xd⟩) (by simp only;omega)]at c
 have:=h.cs k z d
 simp at c
 omega
theorem qK.space (h:qK m T) {l:List Ar} (d:(wrL l).1=0) (a:m.sp.length<4):qK { m with sp:=m.sp++ [⟨Xc,l,qG⟩] } (T++ [fun _=>en0]):=by
 refine⟨h.fs40,h.fok,h.sl60,h.sbl,h.sq,h.dok,h.st,h.cnt,h.blk,h.que,by simp;omega,fun s a=>?_,by simpa using h.tl,?_,fun p s f a b n j=>?_,fun k f c=>?_,fun k z c=>?_⟩
 ·rcases Xt.1 a with a|a
  ·exact h.spok s a
  rw[Of]at a;subst a;exact⟨d,fun h=>by cases h⟩
 ·obtain⟨e,d,g⟩:=zu.1 h.ca;exact zu.2 ⟨fun d i=>e d i,fun q d d=>(by cases d),g⟩
 ·have d:p<m.sp.length+1:=by
   have:=(gS.1 a).1
   simpa using this
  by_cases e:p<m.sp.length
  ·rw[Oc e]at a;rw[Oc (by rw[h.tl];exact e)]at b
   exact h.ent p s f a b n j
  have:p=T.length:=by rw[h.tl];omega
  subst this;rw[aR (nR _),Nat.sub_self]at b;cases b;exact .inl rfl
 ·rw[zgu _ _ _ Dc]
  exact h.cf k f c
 rw[zgu _ _ _ Dc]
 exact h.cs k z c
end
section
variable{m:Ma} {T:List (Nat->En)}
theorem znE {e e':En} (a:e'.kind=e.kind) (b:e'.n=e.n) (kind k:Int):isE e' kind k=isE e kind k:=by unfold isE;rw[a,b]
theorem zlF {p n:Nat} {f:Nat->En} {e':En} (c:T[p]? =Xa f) (d:n<64) (a:e'.kind=(f n).kind) (b:e'.n=(f n).n) (kind k:Int):qP (T.set p (jt f n e')) kind k=qP T kind k:=by
 have:=ZD e' kind k c d;rw[znE a b]at this;omega
theorem qK.guard (h:qK m T) {p n:Nat} {f:Nat->En} (a:T[p]? =Xa f) (d:n<64) (j:f n≠en0):qK m (T.set p (jt f n { f n with wr:=false })):=by
 have c:=(gS.1 a).1;have i:=zlF (e':={ f n with wr:=false }) a d rfl rfl;refine⟨h.fs40,h.fok,h.sl60,h.sbl,h.sq,h.dok,h.st,h.cnt,h.blk,h.que,h.spl,h.spok,by simpa using h.tl,h.ca,?_,fun k g b=>?_,fun k z b=>?_⟩
 ·refine zbJ c rfl a (fun r s g c e q l _=>h.ent r s g c e q l) (fun s c=>?_)
  rcases h.ent p s f c a n d with e|e
  ·exact absurd e j
  obtain⟨j,c,a⟩:=e;obtain⟨d,e,l⟩:=Qr j;refine⟨Zy d e ?_,c,?_⟩
  ·rintro(⟨d,e⟩|⟨d,e⟩)
   ·exact c d
   simp at e
  unfold Jm at a⊢;simp only at a⊢
  by_cases c:(zB s.ars n).is=Xd
  ·rw[kE c]at a;cases a
  rw[kF c]at a⊢
  by_cases c:(f n).kind=2
  ·rw[kE c]at a⊢;exact a
  rw[kF c]at a⊢
  by_cases c:(m.fs.length:Int)<=(f n).n
  ·rw[kE c]at a;cases a
  rw[kF c]at a⊢
  split at a
  ·cases a
  rename_i c
  rw[kF];rintro(a|a|a|a|a)
  ·exact c (.inl a)
  ·exact c (.inr (.inl a))
  ·simp at a
  ·simp at a
  simp at a
 ·rw[i];exact h.cf k g b
 rw[i];exact h.cs k z b
theorem qK.share (h:qK m T) {p q n k:Nat} {fr:Fr} {f g:Nat->En} {s:Sp} {e:En} (y:m.fs[k]? =Xa fr) (hp:T[p]? =Xa f) (t:f n=e) (E:T[q]? =Xa g) (al:p≠q) (Y:n<64) (af:g n=en0) (am:m.sp[q]? =Xa s)
  (ai:zbQ m (zB s.ars n) e) (c:e.kind=1) (d:e.n=(k:Int)) (D:e.wr=Xc->fr.f≠-1):
  qK { m with fs:=m.fs.set k { fr with r:=fr.r+1 } } (T.set q (jt g n e)):=by
 have z:=(gS.1 y).1;have Z:=(gS.1 E).1;have G:=h.fok fr (mG y);have a9:1<=qP T 1 k:=by
  have:=zff hp Y (Rx t c)
  rw[t,d]at this;exact this
 have X:=h.cf k fr y;have H:∀kind j:Int,qP (T.set q (jt g n e)) kind j+(isE en0 kind j).toNat=qP T kind j+(isE e kind j).toNat:=fun kind j=>by
  have:=ZD e kind j E Y;rw[af]at this;exact this
 refine⟨by simpa using h.fs40,fun A a0=>?_,h.sl60,h.sbl,h.sq,h.dok,h.st,h.cnt,h.blk,h.que,h.spl,h.spok,by simpa using h.tl,?_,?_,fun j A b=>?_,fun j ao b=>?_⟩
 ·rcases Xw a0 with a0|rfl
  ·exact h.fok A a0
  obtain⟨S,M,U,N,ac⟩:=G;exact⟨by simp only;omega,M,U,fun h=>by simp only at h;omega,ac⟩
 ·obtain⟨aa,ap,ab⟩:=zu.1 h.ca;refine zu.2 ⟨fun L ah=>?_,fun q L E=>(by cases E),ab⟩
  obtain⟨P,a6,Q,R⟩:=j8 (aa L ah);have B:=js (f:={ fr with r:=fr.r+1 }) z L.fr P.2.2.2.2.1
  by_cases u:L.fr=(k:Int)
  ·rw[kE u]at B;rw[u,qp y]at a6 Q R;refine zbg (by simpa [bkN]using P) ?_ ?_ ?_ <;> rw[B]
   ·have:=G.1;simp only;omega
   ·exact Q
   exact R
  rw[kF u]at B;exact zbg (by simpa [bkN]using P) (Rx B a6) (Rx B Q) (Rx B R)
 ·have w:∀(A:On) (a:En),zbQ m A a->(a.kind≠2->a.n=(k:Int)->a.wr=Xc->fr.f≠-1)->zbQ { m with fs:=m.fs.set k { fr with r:=fr.r+1 } } A a:=fun A a C aj=>by
   refine⟨C.1,C.2.1,j5 C.2.2 rfl Sm fun l=>?_⟩
   obtain⟨S,M,U,N⟩:=z8 C l;rw[js z _ M]
   by_cases u:a.n=(k:Int)
   ·rw[kE u,u,qp y];exact⟨rfl,rfl,fun ae V=>absurd V (aj l u ae)⟩
   rw[kF u];exact⟨rfl,rfl,N⟩
  refine zbJ Z rfl E (fun a5 an V I i j b ak=>?_) (fun aq F=>?_)
  ·rcases h.ent a5 an V I i j b with a|a
   ·exact .inl a
   refine .inr (w _ _ a fun l a4 K=>?_)
   obtain⟨S,M,U,N⟩:=z8 a l
   by_cases x:a5=p/\j=n
   ·obtain⟨rfl,rfl⟩:=x;rw[hp]at i;cases i;rw[t]at K;exact D K
   intro W;have C:=znF hp Y (kind:=1) (k:=(k:Int)) (by rw[t];simp[isE,c,d]) i b (by simp[isE,S,a4]) (by
    by_cases a7:p=a5
    ·right;intro ad;exact x ⟨a7.symm,ad.symm⟩
    exact .inl a7) Dc
   have ag:=N K (by rw[a4,qp y];exact W)
   rw[a4,qp y]at ag;omega
  rw[am]at F;cases F;exact w _ _ ai fun _ _ K=>D K
 ·simp only at b⊢;have v:=H 1 j;rw[jr 1 j Dc]at v
  by_cases a8:j=k
  ·subst a8;rw[sF z]at b;cases b;have:isE e 1 (j:Int)=Xc:=by simp[isE,c,d]
   rw[this]at v;refine⟨?_,X.2⟩
   simp at v
   simp only;omega
  rw[sN (fun h=>a8 h.symm)]at b
  rw[JM (by rw[d];omega)]at v
  have:=h.cf j A b;refine⟨?_,this.2⟩
  simp at v
  omega
 simp only at b⊢;have v:=H 2 j;rw[jr 2 j Dc,za5 (by rw[c];decide)]at v
 have:=h.cs j ao b
 simp at v
 omega
theorem qK.shareS (h:qK m T) {q n k:Nat} {g:Nat->En} {s:Sp} {e:En} (u:m.sl[k]? =Xa z) (f:T[q]? =Xa g) (b:n<64) (a:g n=en0) (y:m.sp[q]? =Xa s)
  (w:zbQ m (zB s.ars n) e) (c:e.kind=2) (d:e.n=(k:Int)):
  qK { m with sl:=m.sl.set k (z+1) } (T.set q (jt g n e)):=by
 have r:=(gS.1 u).1;have t:=(gS.1 f).1;have i:∀kind j:Int,qP (T.set q (jt g n e)) kind j+(isE en0 kind j).toNat=qP T kind j+(isE e kind j).toNat:=fun kind j=>by
  have:=ZD e kind j f b;rw[a]at this;exact this
 refine⟨h.fs40,h.fok,by simpa using h.sl60,by simpa using h.sbl,h.sq,h.dok,h.st,h.cnt,h.blk,h.que,h.spl,h.spok,by simpa using h.tl,?_,?_,fun j x a=>?_,fun j x a=>?_⟩
 ·obtain⟨l,b,p⟩:=zu.1 h.ca;exact zu.2 ⟨fun b v=>l b v,fun q b f=>(by cases f),p⟩
 ·have b:∀(x:On) (l:En),zbQ m x l->zbQ { m with sl:=m.sl.set k (z+1) } x l:=fun x l l=>by
   refine⟨l.1,l.2.1,j5 l.2.2 Sm rfl fun p=>?_⟩
   obtain⟨v,v,v,v⟩:=z8 l p;exact⟨rfl,rfl,v⟩
  refine zbJ t rfl f (fun v A p l f j a t=>(h.ent v A p l f j a).imp id (b _ _)) (fun f f=>?_)
  rw[y]at f;cases f;exact b _ _ w
 ·have b:=i 1 j;rw[jr 1 j Dc,za5 (by rw[c];decide)]at b
  have:=h.cf j x a;refine⟨?_,this.2⟩;simp only at this⊢
  simp at b
  omega
 simp only at a⊢;have b:=i 2 j;rw[jr 2 j Dc]at b
 by_cases f:j=k
 ·subst f;rw[sF r]at a;cases a;have:isE e 2 (j:Int)=Xc:=by simp[isE,c,d]
  rw[this]at b;have:=h.cs j z u
  simp at b
  omega
 rw[sN (fun h=>f h.symm)]at a
 rw[JM (by rw[d];omega)]at b
 have:=h.cs j x a
 simp at b
 omega
end
structure zfu (fl:List Fl) (cnt:Int) (db:List (List Int)) (dq:List (Int × List Int)) (bl:List Int):Prop where
 st:stW fl cnt=0
 cn:cnt=(db.length:Int)
 ql:dq.length<=(Z4 fl).length+bl.length
 blok:∀b∈bl,b=-1\/(0<=b/\b<cnt)
 nod:(Z7 (Z4 fl++bl)).Nodup
 blk:∀b:Nat,b<db.length->zR fl (b:Int)=Xd->(b:Int)∉bl->db[b]? =Xa zp
 que:∀q∈dq,(0<=q.1/\q.1<cnt)/\(zR fl q.1=Xc\/q.1∈bl)
theorem zfu.none {fl:List Fl} {a:Int} {b:List (List Int)} {c:List (Int × List Int)} {bl:List Int} (h:zfu fl a b c bl):zfu fl a b c (bl++ [-1]):=by
 refine⟨h.st,h.cn,by have:=h.ql;simp;omega,fun b a=>?_,?_,fun b a c d=>h.blk b a c (fun c=>d (by simp[c])),fun q c=>⟨(h.que q c).1,(h.que q c).2.imp id (fun h=>by simp[h])⟩⟩
 ·rcases Xt.1 a with a|a
  ·exact h.blok b a
  left;simpa using a
 have:Z7 (Z4 fl++(bl++ [-1]))=Z7 (Z4 fl++bl):=by simp[Z7]
 rw[this];exact h.nod
theorem zfu.block {fl:List Fl} {d:Int} {a:List (List Int)} {f:List (Int × List Int)} {bl:List Int} (h:zfu fl d a f bl) {p:List Int} {more:Bool} (c:b<a.length) (k:zR fl (b:Int)=Xd) (l:(b:Int)∉bl):
  zfu fl d (a.set b p) (if more then f++ [((b:Int),p)]else f) (bl++ [(b:Int)]):=by
 refine⟨h.st,by simpa using h.cn,?_,fun x a=>?_,?_,fun x a j e=>?_,fun q c=>?_⟩
 ·have:=h.ql
  cases more <;> simp <;> omega
 ·rcases Xt.1 a with a|a
  ·exact h.blok x a
  right;have:x=(b:Int):=Si a
  have:=h.cn;omega
 ·have g:Z7 (Z4 fl++(bl++ [(b:Int)]))=Z7 (Z4 fl++bl)++ [(b:Int)]:=by
   unfold Z7;rw[<-Yj,Yl]
   congr 1
  rw[g,Yy];refine⟨h.nod,Sm,fun x a y m=>?_⟩
  have i:y=(b:Int):=Si m
  subst i;intro i;subst i;unfold Z7 at a;rw[Xz,Xt]at a
  rcases a.1 with i|i
  ·rw[(Qk fl (b:Int)).2 i]at k;cases k
  exact l i
 ·have i:b≠x:=fun g=>e (by simp[g])
  rw[sN i];exact h.blk x (Si a) j (fun a=>e (by simp[a]))
 have a:q∈f->(0<=q.1/\q.1<d)/\(zR fl q.1=Xc\/q.1∈bl++ [(b:Int)]):=fun c=>⟨(h.que q c).1,(h.que q c).2.imp id (fun h=>by simp[h])⟩
 cases more with
 | false=>exact a (Si c)
 | true=>
  rw[kE rfl]at c
  rcases Xt.1 c with c|c
  ·exact a c
  have:q=((b:Int),p):=Si c
  subst this;have:=h.cn;exact⟨by simp only;omega,.inr Sm⟩
theorem zfu.file {fl:List Fl} {c:Int} {b:List (List Int)} {d:List (Int × List Int)} {bl:List Int} (h:zfu fl c b d bl) {a:Int} (e:fl.length<5) (k:0<=a/\a<=96) (j:(bl.length:Int)=Jn a):zfu (fl++ [⟨a,bl⟩]) c b d []:=by
 have d:Z4 (fl++ [⟨a,bl⟩])=Z4 fl++bl:=by simp[Z4]
 have f:∀b,zR (fl++ [⟨a,bl⟩]) b=Xc↔zR fl b=Xc\/b∈bl:=fun b=>by rw[Qk,d,Xt,<-Qk]
 obtain⟨⟨a,a,e⟩,g,i⟩:=(qi fl c).1 h.st;refine⟨(qi _ _).2 ⟨⟨by simp;omega,a,e⟩,fun e c=>?_,Rx d h.nod⟩,h.cn,by rw[d];simpa using h.ql,Sm,by rw[d];simpa using h.nod,fun b i a _=>?_,fun q d=>⟨(h.que q d).1,.inl ((f _).2 (h.que q d).2)⟩⟩
 ·rcases Xt.1 c with c|c
  ·exact g e c
  rw[Of]at c;subst c;exact⟨k,j,h.blok⟩
 refine h.blk b i ?_ ?_
 ·cases e:zR fl (b:Int)with
  | false=>rfl
  | true=>rw[(f _).2 (.inl e)]at a;cases a
 intro e;rw[(f _).2 (.inr e)]at a;cases a
theorem zfu.zero {n:Nat} (h:n<=80):zfu [] (n:Int) (Xr n zp) [] []:=by
 refine⟨(qi _ _).2 ⟨⟨Sm,Wm,Wm⟩,Sm,by simp[Z4,Z7]⟩,Sm,Sm,Sm,by simp[Z4,Z7],fun b a _ _=>?_,Sm⟩
 rw[Yi,kE (Si a)]
theorem zfs {a:Int}:∀{fl:List Fl},(∀f∈fl,zpC a f)->(Z4 fl).length<=12*fl.length
 | [],_=>by simp[Z4]
 | f :: fl,h=>by
  have b:=zfs (fl:=fl) fun g a=>h g (by simp[a])
  obtain⟨a,a,c⟩:=h f Sm
  unfold Jn at a;simp only[Z4,Yf,lA,Yk]at b⊢
  split at a <;> omega
theorem zfu.start {fl:List Fl} {a:Int} {c:List (List Int)} {d:List (Int × List Int)} (h:zfu fl a c d []) {n k:Nat} (f:n<=40) (e:k<=60) (b:Int):qK ⟨Xr n frF,b,Xr k 0,Xr k zp,[],c,d,fl,a,[],[]⟩ []:=by
 obtain⟨⟨b,b,b⟩,g,b⟩:=(qi fl a).1 h.st;refine⟨Si f,fun f i=>?_,Si e,Sm,?_,?_,h.st,h.cn,fun a b e=>h.blk a b e Sm,fun q e=>?_,Sm,Sm,rfl,rfl,fun p s f a=>by simp at a,fun j f a=>?_,fun j z a=>?_⟩
 ·have:=(Ow.1 i).2;subst this;exact⟨Dc,Dc,.inl rfl,fun _=>rfl,fun _=>rfl⟩
 ·show zF (Xr k zp).length []=0
  unfold zF;rw[kF (by simp;omega),kF Sm]
  rfl
 ·show zF c.length d=0
  have c:=zfs g;have c:=h.ql;have d:=h.cn;unfold zF;rw[kF Wm,kF (by simp at c;omega),kF]
  rw[Ye];rintro⟨q,e,b⟩;have:=(h.que q e).1;unfold jn at b
  simp at b
  omega
 ·exact(h.que q e).2.resolve_right Sm
 ·simp only at a;rw[Yi]at a
  split at a
  ·cases a;exact⟨rfl,fun h=>by simp[frF]at h⟩
  cases a
 simp only at a;rw[Yi]at a
 split at a
 ·cases a;rfl
 cases a
def pgL (p:Pg):List Int:=[p.b0,p.b1,p.b2,p.b3,p.b4,p.b5,p.b6,p.b7]
def jV (p:List Int) (idx size:Int):List Int:=p.mapIdx fun i z=>if size<=8*idx+(i:Int)then 0 else z
def zdQ (m:Ma) (file idx:Int):Int:=(m.fl.getD file.toNat ⟨0,[]⟩).bl.getD idx.toNat 0
def Qb (m:Ma) (file:Int):Int:=(m.fl.getD file.toNat ⟨0,[]⟩).size
def Jw (file idx:Int) (c:Ca):Bool:=decide (c.file=file) && decide (c.idx=idx)
def qn (m:Ma) (file idx:Int):List Int:=
 match m.ca.find? (Jw file idx)with
 | some c=>pgL (zU m c.fr).p
 | none=>if zdQ m file idx<0 then zp else jV (qv m.db m.dq (zdQ m file idx)) idx (Qb m file)
def Qh (m:Ma) (file idx:Int):List Int:=if zdQ m file idx<0 then zp else jV (qv m.db m.dq (zdQ m file idx)) idx (Qb m file)
def zev (m:Ma) (file:Int):List Int:=(Xv (Qb m file).toNat).map fun(k:Nat)=>(qn m file ((k / 8:Nat):Int)).getD (k % 8) 0
def zbh (m:Ma) (file:Int):Int:=if maW m≠0 then maW m else if file<0\/(m.fl.length:Int)<=file then 5 else 0
def Zz (m:Ma) (file:Int):List Int:=if zbh m file=0 then zev m file else []
def qY (m:Ma) (p n:Int):List Int × Bool × Int:=
 if p<0\/(m.sp.length:Int)<=p\/n<0\/63<n then(zp,Xd,5)
 else
  let s:=m.sp.getD p.toNat ⟨Xd,[],[]⟩
  let x:=zB s.ars n.toNat
  let e:=zm s n.toNat
  if x.is=Xd then(zp,Xd,5)
  else if e.kind=1 then(pgL (zU m e.n).p,decide ((zU m e.n).f<0),0)
  else if e.kind=2 then(qv m.sb m.sq e.n,Xc,0)
  else if x.file<0 then(zp,Xd,0)
  else if bkN m x.file<=x.page then(zp,Xd,9)
  else(qn m x.file x.page,Xd,0)
def zoD (m:Ma) (p n:Int):List Int × Bool × Int:=if maW m≠0 then(zp,Xd,maW m)else qY m p n
def qH (nf:Nat) (l:List Ar):Prop:=∀k:Nat,k<64->(zB l k).is=Xc->(zB l k).file< (nf:Int)
theorem zhW (nf:Nat):qH nf []:=fun k _ h=>by cases h
theorem zhX {nf:Nat} {l:List Ar} {a:Ar} (g:qH nf l) (f:a.file< (nf:Int)) (h:(zb6 l a).2=0):qH nf (zb6 l a).1:=by
 obtain⟨b,c,d,d,d⟩:=zhJ h;have e:=za1 (jq.1 b).2 (ZG.1 c);intro k c b;rw[d,ze6 e c]at b⊢;unfold zhI at b⊢
 by_cases e:jX a k=Xc
 ·rw[kE e];exact f
 rw[kF e]at b⊢;exact g k c b
theorem zpQ {l:List Ar} {a:Ar} (h:(zb6 l a).2=0):(wrL (zb6 l a).1).1=0:=by
 obtain⟨b,c,d,d,e⟩:=zhJ h;rw[e];exact zp4 (za1 (jq.1 b).2 (ZG.1 c)) d
theorem ziX {m:Ma} (h:∀s∈m.sp,zb0 s.tb):jS m (Qg m) m.hand=m:=by
 have:Uh (fun s f=>({ s with tb:=jU f }:Sp)) m.sp (Qg m)=m.sp:=by
  have a:∀l:List Sp,(∀s∈l,zb0 s.tb)->Uh (fun s f=>({ s with tb:=jU f }:Sp)) l (l.map zm)=l:=by
   intro l
   induction l with
   | nil=>intro _;rfl
   | cons s l e=>
    intro b;have c:=b s Sm
    have d:jU (zm s)=s.tb:=by
     unfold jU;refine zjn c fun j c=>?_
     rw[Yb,Ya c];rfl
    rw[mP,Ui,e (fun x c=>b x (by simp[c])),d]
  exact a m.sp h
 unfold jS;rw[this]
theorem zaD {m:Ma} (a:zbf m Xb m.ca=0) {c:Ca} (g:c∈m.ca):m.ca.find? (Jw c.file c.idx)=Xa c:=by
 obtain⟨b,_,h⟩:=zu.1 a
 cases a:m.ca.find? (Jw c.file c.idx)with
 | none=>
  rw[List.find?_eq_none]at a;exact absurd (by simp[Jw]) (a c g)
 | some d=>
  have j:=List.mem_of_find?_eq_some a;have b:d.file=c.file/\d.idx=c.idx:=by
   have:=List.find?_some a
   simpa [Jw]using this
  have a:qj d=qj c:=by unfold qj;rw[b.1,b.2]
  by_cases f:d=c
  ·rw[f]
  exfalso;have:∀l:List Ca,l.Pairwise (fun a b=>qj a<qj b)->c∈l->d∈l->False:=by
   intro l
   induction l with
   | nil=>intro _ b;cases b
   | cons x l l=>
    intro k b a;obtain⟨e,i⟩:=Yd.1 k
    rcases mC.1 b with b|b
    ·rcases mC.1 a with a|a
     ·exact f (by rw[b,a])
     have:=e d a;rw[<-b]at this;omega
    rcases mC.1 a with a|a
    ·have:=e c b;rw[<-a]at this;omega
    exact l i b a
  exact this m.ca h g j
theorem zdf {α:Type} {f:α->Int}:∀{l:List α} {k:Nat} {q:α},l[k]? =Xa q->(∀(j:Nat) x,j<k->l[j]? =Xa x->f x=0)->f q≠0->zw (l.map f)=f q
 | [],k,q,h,_,_=>by simp at h
 | a :: l,0,q,h,_,b=>by
  simp at h
  subst h;simp only[mP,zw];rw[kF b]
 | a :: l,k+1,q,h,c,b=>by
  simp only[mP,zw];rw[kE (c 0 a Wm rfl)]
  exact zdf (Si h) (fun j x d d=>c (j+1) x Wm (Si d)) b
theorem zel {α:Type} {f:α->Int} {l:List α} (a:∀(j:Nat) x,l[j]? =Xa x->f x=0):zw (l.map f)=0:=by
 rw[zi];intro e b;obtain⟨x,c,rfl⟩:=Yc.1 b;obtain⟨j,b⟩:=Xy c;exact a j x b
theorem Jd {α:Type} {p:α->Bool} {g:α->Int}:∀(l:List α),zw (l.map fun x=>if p x=Xc then g x else 0)=zw ((l.filter p).map g)
 | []=>rfl
 | a :: l=>by
  simp only[mP,zw]
  by_cases h:p a=Xc
  ·rw[kE h,Ys h];simp only[mP,zw];rw[Jd l]
  rw[kF h,kE rfl,Ue h,Jd l]
theorem jE (a:Int) (l):zw (a :: l)=if a=0 then zw l else a:=rfl
theorem zbI:zw []=0:=rfl
def Zq (m:Ma):List Int:=[Zt m.fs m.hand,slW m.sl,zF m.sb.length m.sq,zF m.db.length m.dq,stW m.fl m.cnt]
def ZM (m:Ma):List Int:=[zl4 m,JY m,JE m]
def Zp (m:Ma):Int:=if 4<m.sp.length then 4 else zw (m.sp.map spE)
def zas (m:Ma):Int:=if zw ((Xv m.fs.length).map (frE m))=0 then zw ((Xv m.sl.length).map (zjq m))else zw ((Xv m.fs.length).map (frE m))
def zfM (m:Ma):Int:=zw (m.sp.map (zcA m))
def zdX (m:Ma):Int:=zbf m Xb m.ca
theorem zek (l k):zw (l++k)=if zw l=0 then zw k else zw l:=by
 induction l with
 | nil=>simp[zw]
 | cons a l d=>
  by_cases h:a=0
  ·have b:zw (a :: l)=zw l:=by rw[jE,kE h]
   have c:zw (a :: l++k)=zw (l++k):=by rw[Ob,jE,kE h]
   rw[b,c,d]
  have b:zw (a :: l)=a:=by rw[jE,kF h]
  have c:zw (a :: l++k)=a:=by rw[Ob,jE,kF h]
  rw[b,c,kF h]
theorem zoU (m):maW m=zw [zw (Zq m),zw (ZM m),Zp m,zdX m,zfM m,zas m]:=by
 have a:Jq m=if zw (Zq m)=0 then(if zw (ZM m)=0 then Zp m else zw (ZM m))else zw (Zq m):=by
  have:Jq m=zw (Zq m++(ZM m++ [if 4<m.sp.length then 4 else 0,zw (m.sp.map spE)])):=rfl;rw[this,zek,zek]
  congr 1
  congr 1
  unfold Zp;rw[jE,jE,zbI]
  split <;> simp_all
 unfold maW;simp only[jE,zbI,a];unfold zas zfM zdX
 by_cases a:zw (Zq m)=0 <;> by_cases b:zw (ZM m)=0 <;> by_cases c:Zp m=0 <;> simp only[a,b,c,if_true,if_false] <;>(by_cases a:zw ((Xv m.fs.length).map (frE m))=0 <;> by_cases b:zw ((Xv m.sl.length).map (zjq m))=0 <;> simp[a,b])
structure zjc (m:Ma):Prop where
 mem:Zt m.fs m.hand=0
 sl:slW m.sl=0
 sq:zF m.sb.length m.sq=0
 dq:zF m.db.length m.dq=0
 st:stW m.fl m.cnt=0
theorem zpK {m:Ma}:zw (Zq m)=0↔zjc m:=by
 rw[zi];unfold Zq;constructor
 ·intro h;exact⟨h _ Sm,h _ Sm,h _ Sm,h _ Sm,h _ Sm⟩
 intro h e a;simp only[mC,nM,or_false]at a
 rcases a with rfl|rfl|rfl|rfl|rfl
 ·exact h.mem
 ·exact h.sl
 ·exact h.sq
 ·exact h.dq
 exact h.st
theorem zgb {n:Nat}:∀{l:List Ar} {p:Option Ar} {k:Nat} {a:Ar},Qa p l->l[k]? =Xa a->jX a n=Xc->zB l n=qw a n
 | [],_,_,_,_,h,_=>by simp at h
 | b :: l,p,0,a,_,h,c=>by
  simp at h
  subst h;rw[z5]at c;exact Q1 c.1 c.2
 | b :: l,p,k+1,a,e,h,c=>by
  have f:l[k]? =Xa a:=Si h
  have d:=zgb e.2.2 f c
  by_cases c:(n:Int)<b.tz
  ·have:=e.2.2.low rfl c;rw[this]at d;exact(zga d.symm).elim
  rw[zaV (.inr Wm)]
  exact d
def qU (s:Sp):List Nat:=(Xv 64).filter fun n=>enS (zm s n)
theorem zhp (m) (s:Sp):zcA m s=zw ((qU s).map fun n=>Jm m (zB s.ars n) (zm s n)):=by
 unfold zcA qU;rw[<-Jd]
 congr 1
 apply Oq
 intro n _
 by_cases h:(zm s n).kind=0
 ·simp[enS,h]
 simp[enS,h]
theorem zf6 {s:Sp} (ht:tbW s.tb=0) (d:s.tb.length=8):qU s=[]↔s.tb.all (·.isEmpty)=Xc:=by
 unfold qU;rw[List.filter_eq_nil_iff,Yh];constructor
 ·intro h x a;obtain⟨i,b⟩:=Xy a;have c:i<8:=by rw[<-d];exact(gS.1 b).1
  rcases Zd.1 ht x a with c|⟨d,a,a⟩
  ·rw[c];rfl
  exfalso;unfold Zn at a;rw[Ye]at a;obtain⟨e,c,f⟩:=a;obtain⟨j,a⟩:=Xy c;have c:j<8:=by rw[<-d];exact(gS.1 a).1
  refine h (8*i+j) (Xs.2 Wm) ?_
  unfold zm zaC;rw[show(8*i+j) / 8=i by omega,show(8*i+j) % 8=j by omega,b]
  simp only[Option.getD_some];rw[a];exact f
 intro h n a;rw[Xs]at a;unfold zm zaC
 cases e:s.tb[n / 8]? with
 | none=>simp[enS,en0]
 | some x=>
  have:=h x (mG e);have:x=[]:=by simpa using this
  subst this
  simp[enS,en0]
def Qp (f:Fr) (a:Ar) (n:Nat):Bool:=if f.f<0 then !a.sh else f.f == a.file && f.x == a.base+(n:Int) - a.fr
def Zi (f:Fr) (a:Ar):Bool:=a.wr &&(if f.f<0 then decide (f.r<=1)else a.sh)
def zdW (m:Ma) (a:Ar) (n:Nat) (e:En):Int:=
 if e.kind=2 then(if(m.sl.length:Int)<=e.n\/a.sh=Xc then 7 else 0)
 else if(m.fs.length:Int)<=e.n then 3
 else if Qp (zU m e.n) a n=Xd\/(e.wr=Xc/\Zi (zU m e.n) a=Xd)then 7 else 0
theorem zo9 {m:Ma} (a:Zt m.fs m.hand=0) (k:Int):(zU m k).f=-1\/(0<=(zU m k).f/\(zU m k).f<5):=by
 unfold zU;rw[gD]
 cases h:m.fs[k.toNat]? with
 | none=>left;rfl
 | some f=>
  have b:zbU m.fs=0:=by
   unfold Zt at a
   split at a
   ·cases a
   split at a
   ·rename_i h;exact h
   rename_i h;exact absurd a h
  have a:=JS.1 b f (mG h);simp only[Option.getD_some];unfold frW at a
  split at a
  ·cases a
  split at a
  ·cases a
  rename_i b
  by_cases e:f.f=-1
  ·exact .inl e
  right
  cases a:inB f.f 5 with
  | false=>simp[e,a]at b
  | true=>simpa [inB]using a
theorem zkW {m:Ma} {a:Ar} {n:Nat} {e:En} (c:Zt m.fs m.hand=0) (d:jQ a):Jm m (qw a n) e=zdW m a n e:=by
 unfold Jm zdW;rw[kF (by simp[qw])]
 by_cases b:e.kind=2
 ·rw[kE b,kE b];rfl
 rw[kF b,kF b]
 by_cases b:(m.fs.length:Int)<=e.n
 ·rw[kE b,kE b]
 rw[kF b,kF b];have b:=zo9 c e.n;obtain⟨f,c⟩:=kB (zU m e.n);rw[c]at b⊢;unfold Qp Zi qw;simp only;obtain⟨c,c,c,c,c,c,c,c⟩:=d
 rcases b with b|b
 ·rw[b];have b:¬(0<=a.file/\(-1:Int)=a.file/\f.x=if 0<=a.file then a.base+((n:Int) - a.fr)else 0):=Wm
  simp only[b]
  cases j:e.wr <;> cases h:a.sh <;> cases i:a.wr <;> simp
 have g:¬f.f=-1:=Wm
 have b:¬f.f<0:=Wm
 rw[kF b,kF b]
 by_cases c:f.f=a.file/\f.x=a.base+(n:Int) - a.fr
 ·have b:0<=a.file/\f.f=a.file/\f.x=(if 0<=a.file then a.base+((n:Int) - a.fr)else 0):=by
   rw[kE Wm]
   omega
  have d:(f.f == a.file && f.x == a.base+(n:Int) - a.fr)=Xc:=by simp[c.1,c.2]
  rw[d];simp only[b]
  cases j:e.wr <;> cases h:a.sh <;> cases i:a.wr <;> simp <;>(intro;omega)
 have b:¬(0<=a.file/\f.f=a.file/\f.x=(if 0<=a.file then a.base+((n:Int) - a.fr)else 0)):=by
  rintro⟨h,i,j⟩;rw[kE h]at j;exact c ⟨i,Wm⟩
 have d:(f.f == a.file && f.x == a.base+(n:Int) - a.fr)=Xd:=by
  cases h:(f.f == a.file && f.x == a.base+(n:Int) - a.fr)with
  | false=>rfl
  | true=>simp at h;exact absurd h c
 rw[d,kE (.inl ⟨g,b⟩),kE (.inl rfl)]
def QR (c d:Ca):Bool:=decide (c.file<d.file) || (c.file == d.file && decide (c.idx<d.idx))
theorem zmE {c d:Ca} (a:0<=c.idx/\c.idx<100) (b:0<=d.idx/\d.idx<100):QR c d=decide (¬qj d<=qj c):=by
 unfold QR qj;rw[Uk];simp;omega
theorem zpm {m:Ma} {p:Option Ca} {c:Ca} (a:stW m.fl m.cnt=0) (h:caE m p c=0):0<=c.idx/\c.idx<100:=by
 unfold caE at h
 split at h
 ·cases h
 rename_i b
 have b:bkN m c.file<=12:=by
  unfold bkN;rw[gD]
  cases e:m.fl[c.file.toNat]? with
  | none=>simp
  | some f=>
   have:=((qi _ _).1 a).2.1 f (mG e);simp only[Option.getD_some];have a:=zfn this.1.1 this.1.2;rw[this.2.1];exact a.2
 omega
theorem zgR (f:Nat->En) (kind k:Int):∀m:Nat,jL f kind k m=(Xv m).countP fun n=>isE (f n) kind k
 | 0=>rfl
 | m+1=>by
  unfold jL;rw[zgR f kind k m,List.range_succ,Yw]
  cases h:isE (f m) kind k <;> simp[h]
theorem zmq (s) {kind k:Int} (a:kind≠0):jL (zm s) kind k 64=(qU s).countP fun n=>isE (zm s n) kind k:=by
 rw[zgR];unfold qU;rw[List.countP_filter]
 apply List.countP_congr
 intro n _;constructor
 ·intro h;rw[Xx];refine⟨h,?_⟩;unfold isE at h;rw[Xx]at h;have:(zm s n).kind=kind:=Si h.1
  simp[enS,this,a]
 intro h;rw[Xx]at h;exact h.1
def qy (m:Ma) (i:Nat) (l:List Nat) (s:Sp) (key:Int × Int):Int:=
 ((if key.1=1 then(zH m.ca key.2:Nat)else 0:Nat):Int)+((((m.sp.take i).map fun s=>(qU s).countP fun n=>isE (zm s n) key.1 key.2).sum:Nat):Int)+((l.countP fun n=>isE (zm s n) key.1 key.2:Nat):Int)
theorem zlH (m) (i:Nat) (l:List Nat) (s) (n:Nat) (key:Int × Int):qy m i (l++ [n]) s key=qy m i l s key+(if key=((zm s n).kind,(zm s n).n)then 1 else 0):=by
 unfold qy;rw[Yw]
 by_cases h:key=((zm s n).kind,(zm s n).n)
 ·subst h;have:isE (zm s n) (zm s n).kind (zm s n).n=Xc:=by simp[isE]
  simp[this]
  omega
 rw[kF h];have:isE (zm s n) key.1 key.2=Xd:=by
  cases a:isE (zm s n) key.1 key.2 with
  | false=>rfl
  | true=>
   unfold isE at a
   simp at a
   exact absurd (Prod.ext a.1.symm a.2.symm) h
 simp[this]
theorem zlI (m:Ma) (i:Nat) (s b) (a:m.sp[i]? =Xa s) (key:Int × Int):qy m i (qU s) s key=qy m (i+1) [] b key:=by
 unfold qy;rw[Oy,a];simp;omega
theorem ziQ (m:Ma) (s) {kind:Int} (k:Int) (a:kind≠0):qy m m.sp.length [] s (kind,k)=((Zu m kind k+(if kind=1 then zH m.ca k else 0):Nat):Int):=by
 unfold qy Zu qP;rw[List.take_length];have:(m.sp.map zm).map (fun f=>jL f kind k 64)=m.sp.map fun s=>(qU s).countP fun n=>isE (zm s n) kind k:=by
  rw[List.map_map]
  apply Oq
  intro s _;exact zmq s a
 rw[this];simp;omega
def JN (l:List Ca) (key:Int × Int):Int:=if key.1=1 then(zH l key.2:Int)else 0
theorem zjZ (l) (c:Ca) (key:Int × Int):JN (l++ [c]) key=JN l key+(if key=(1,c.fr)then 1 else 0):=by
 unfold JN zH;obtain⟨b,d⟩:=key;simp only[Yw,pJ]
 by_cases a:b=1
 ·rw[kE a,kE a]
  by_cases b:d=c.fr
  ·simp[a,b]
  have:¬c.fr=d:=fun e=>b e.symm
  simp[a,b,this]
 rw[kF a,kF a]
 simp[a]
theorem zlK (m:Ma) (s) (key:Int × Int):JN m.ca key=qy m 0 [] s key:=by
 unfold JN qy;simp
 split <;> rfl
theorem zlJ (key:Int × Int):JN [] key=0:=by
 unfold JN zH;simp
def zaB:List Ca->Int × Int->Option Int
 | [],_=>Xb
 | c :: l,key=>match zaB l key with | some z=>Xa z | none=>if key=(c.file,c.idx)then Xa c.fr else Xb
theorem zgt (c:Ca) (key:Int × Int):∀(l:List Ca),zaB (l++ [c]) key=if key=(c.file,c.idx)then Xa c.fr else zaB l key
 | []=>by simp[zaB]
 | d :: l=>by
  simp only[Ob,zaB];rw[zgt c key l]
  by_cases h:key=(c.file,c.idx)
  ·rw[kE h,kE h]
  rw[kF h,kF h]
theorem zfd {key:Int × Int} {z:Int}:∀{l:List Ca},zaB l key=Xa z->∃c∈l,key=(c.file,c.idx)/\c.fr=z
 | [],h=>by cases h
 | d :: l,h=>by
  unfold zaB at h
  cases e:zaB l key with
  | some y=>
   rw[e]at h;cases h;obtain⟨c,a,b⟩:=zfd e;exact⟨c,Oj _ a,b⟩
  | none=>
   rw[e]at h;simp only at h
   split at h
   ·rename_i a
    cases h;exact⟨d,Uz,a,rfl⟩
   cases h
theorem zc3 {key:Int × Int}:∀{l:List Ca},zaB l key=Xb↔∀c∈l,key≠(c.file,c.idx)
 | []=>by simp[zaB]
 | d :: l=>by
  unfold zaB;constructor
  ·intro h c a
   cases e:zaB l key with
   | some y=>rw[e]at h;cases h
   | none=>
    rw[e]at h;simp only at h
    rcases mC.1 a with rfl|a
    ·intro b;rw[kE b]at h;cases h
    exact zc3.1 e c a
  intro h;rw[zc3.2 fun c a=>h c (Oj _ a)]
  simp only;rw[kF (h d Uz)]
theorem zid {l:List Ca} (h:l.Pairwise fun a b=>qj a<qj b) {c d:Ca} (e:c∈l) (g:d∈l) (f:qj c=qj d):c=d:=by
 induction l with
 | nil=>cases e
 | cons a l i=>
  rw[Yd]at h
  rcases mC.1 e with rfl|f
  ·rcases mC.1 g with rfl|e
   ·rfl
   have:=h.1 d e;omega
  rcases mC.1 g with rfl|e
  ·have:=h.1 c f;omega
  exact i h.2 f e
theorem zj1 {m:Ma} (a:zbf m Xb m.ca=0) (k:Nat):(zaB m.ca ((zU m k).f,(zU m k).x)=Xa (k:Int))↔zH m.ca k≠0:=by
 obtain⟨d,_,i⟩:=zu.1 a;have b:∀c∈m.ca,(zU m c.fr).f=c.file/\(zU m c.fr).x=c.idx:=by
  intro c a;have:=d c a;unfold caE at this
  split at this
  ·cases this
  split at this
  ·cases this
  rename_i h
  exact⟨Classical.byContradiction fun e=>h (.inr (.inl e)),Classical.byContradiction fun e=>h (.inr (.inr e))⟩
 have a:zH m.ca k≠0↔∃c∈m.ca,c.fr=(k:Int):=by
  unfold zH;rw[Nat.ne_zero_iff_zero_lt,Ut];simp
 rw[a];constructor
 ·intro h;obtain⟨c,a,_,d⟩:=zfd h;exact⟨c,a,d⟩
 rintro⟨c,a,g⟩;obtain⟨d,f⟩:=b c a;rw[g]at d f
 cases e:zaB m.ca ((zU m k).f,(zU m k).x)with
 | none=>
  have:=zc3.1 e c a;rw[d,f]at this;exact absurd rfl this
 | some z=>
  obtain⟨h,j,b,l⟩:=zfd e;rw[d,f]at b;simp only[pJ]at b;have:c=h:=zid i a j (by unfold qj;rw[b.1,b.2])
  rw[<-l,<-this,g]
end
section
open Go.RowKit
theorem zbM (m n:Int) (w):
  Xp prog 114 #[I6 m,I6 n] w fun e w'=>e= Xl (Xh (bel m n))/\w'=w:=by
 have H:Xo (bel m n=(decide (0<=m) && decide (m<n))):=rfl
 by_cases a:0<=m
 ·by_cases a:m<n
  ·go_enter func114,ntmps114
   go_wp2;go_ret;exact⟨by rw[H.out];simp[*],rfl⟩
  go_enter func114,ntmps114
  go_wp2;go_ret;exact⟨by rw[H.out];simp[*],rfl⟩
 go_enter func114,ntmps114
 go_wp2;go_ret;exact⟨by rw[H.out];simp;omega,rfl⟩
theorem zqG:(Tryz.prog.info? 44).map (fun i=>(i.zero,i.size,i.bytes))=Xa (Xa (I6 0),1,8):=by kernel_rfl
def zkL:Elt Int where
 enc:=fun z=>[Xe Xf z]
 k:=1
 ty:=44
 st:=171
 bytes:=8
 zv:= Xe Xf 0
 zero:=0
 len:=fun _=>rfl
 one:=fun a u hu=>by
  simp only[mC,nM,or_false]at hu;rw[hu];rfl
 und:=underlying171
 info:=zqG
 zok:=rfl
 few:=by decide
 pos:=by decide
theorem zl.errs {w:Xn} {v:Xq} {l:List Int} (h:zl zkL w v l):∃a c,v= O a l.length c/\zjb w a l:=by
 obtain⟨a,c,b,d⟩:=h.rows;refine⟨a,c,b,fun j x g=>?_⟩
 obtain⟨b,e,f⟩:=d j x g;refine⟨b,e,fun W b=>?_⟩
 have:=f W b 0 _ rfl;rw[zS]at this
 simpa [zkL]using this
theorem zbq {α:Type} (E:Elt α) (w:Xn) (l:List α) (cs:Array Xq) (a:cs=(l.flatMap E.enc).toArray) (b:l.length*E.bytes<=140737488355328):zl E (w.alloc (Xk cs E.ty)) (O (Xa ⟨w.heap.size,0,Xb⟩) l.length l.length) l:=by
 subst a;refine⟨⟨_,l.length,rfl,fun h=>(by cases h),fun y a=>?_⟩,b⟩
 cases a;exact jP.top w (l.flatMap E.enc) E.ty rfl
theorem zdd {l:List Int} {k:Nat} (a:∀(j:Nat) x,j<k->l[j]? =Xa x->x=0) {q:Int} (c:l[k]? =Xa q) (b:q≠0):zw l=q:=by
 have:=zdf (f:=fun x=>x) c a b
 simpa using this
theorem zde {l:List Int} (a:∀(j:Nat) x,l[j]? =Xa x->x=0):zw l=0:=by
 have:=zel (f:=fun x=>x) a
 simpa using this
theorem zcR (v l w) (s:zl zkL w v l):
  Xp prog 63 #[v] w fun e w'=>e= Xl (I6 (zw l))/\w'=w:=by
 have g:=s.short;obtain⟨G,H,rfl,b⟩:=s.errs;have z:=dD b;clear b s;obtain⟨n,m⟩:=kA l.length;rw[m.out]at g⊢;obtain⟨F,k⟩:=kA (zw l);rw[k.out]
 go_enter func63,ntmps63
 go_wp2
 go_loopg [5,8] n (fun B _ E wr=>∃a:Nat,a<=n/\n - a<=B/\E=I6 a/\wr=w/\Xo (∀(j:Nat) x,j<a->l[j]? =Xa x->x=0))
 exact⟨0,nZ _,Wm,rfl,rfl,fun j x t=>absurd t (nL _)⟩
 obtain⟨a,D,C,rfl,rfl,A⟩:=hrel
 by_cases c:a<n
 ·have h:=kC c
  obtain⟨q,p⟩:∃q,Xo (l[a]? =Xa q):=⟨_,gE (Rx m.out c)⟩
  obtain⟨x,rfl,u⟩:=z.out a q p.out;have K:=u wr (zc.refl _);clear u
  by_cases d:q=0
  ·have r:(q != 0)=Xd:=by simp[d]
   have y:Xo (∀(j:Nat) x,j<a+1->l[j]? =Xa x->x=0):=dD<|fun j x t f=>by
    by_cases e:j=a
    ·subst e;rw[p.out]at f;cases f;exact d
    exact A j x Wm f
   clear d;go_wp2
   go_roundg (n -(a+1));exact⟨a+1,Wm,Wm,Gn,rfl,y⟩;omega
  have r:(q != 0)=Xc:=by simp[d]
  have i:Xo (F=q):=dD<|by rw[<-k.out];exact zdd A p d
  clear d;go_wp2;go_ret;exact⟨Rr i.out,rfl⟩
 have h:=kD c
 have:a=n:=Wm
 subst this;have i:Xo (F=0):=dD<|by
  rw[<-k.out];exact zde fun j x f=>A.out j x (by rw[<-m.out];exact(gS.1 f).1) f
 go_wp2;go_ret;exact⟨Rr i.out,rfl⟩
theorem zc2 (a:Ar) (n:Int) (w) (b:0<=a.base/\a.base<=100) (c:0<=a.fr/\a.fr<=100) (d:0<=n/\n<=100):
  Xp prog 144 #[Xi #[I6 a.fr,I6 a.tz,Xh a.rd,Xh a.wr,Xh a.sh,I6 a.file,I6 a.base],I6 n] w fun e w'=>e= Xl (I6 (a.base+n - a.fr))/\zc w w':=by
 obtain⟨fr,d,d,wr,d,file,base⟩:=a;simp only at b c
 go_enter func144,ntmps144
 go_wp2;go_ret;exact⟨rfl,za _ _⟩
theorem zhM (c d:Ca) (w):
  Xp prog 78 #[Xi #[I6 c.file,I6 c.idx,I6 c.fr],Xi #[I6 d.file,I6 d.idx,I6 d.fr]] w fun e w'=>e= Xl (Xh (QR c d))/\zc w w':=by
 obtain⟨b,f,i⟩:=c;obtain⟨g,h,j⟩:=d
 by_cases l:b<g
 ·have a:QR ⟨b,f,i⟩ ⟨g,h,j⟩=Xc:=by simp[QR,l]
  rw[a];clear a
  go_enter func78,ntmps78
  go_wp2;go_ret;exact⟨rfl,(za _ _).trans (za _ _)⟩
 by_cases k:b=g
 ·subst k
  by_cases m:f<h
  ·have a:QR ⟨b,f,i⟩ ⟨b,h,j⟩=Xc:=by simp[QR,m]
   rw[a];clear a
   go_enter func78,ntmps78
   go_wp2;go_ret;exact⟨rfl,(za _ _).trans (za _ _)⟩
  have a:QR ⟨b,f,i⟩ ⟨b,h,j⟩=Xd:=by simp[QR,m]
  rw[a];clear a
  go_enter func78,ntmps78
  go_wp2;go_ret;exact⟨rfl,(za _ _).trans (za _ _)⟩
 have a:QR ⟨b,f,i⟩ ⟨g,h,j⟩=Xd:=by simp[QR,l,k]
 rw[a];clear a;have a:(b == g)=Xd:=by simp[k]
 clear k
 go_enter func78,ntmps78
 go_wp2;go_ret;exact⟨rfl,(za _ _).trans (za _ _)⟩
theorem zgj (f) (a:Ar) (w):
  Xp prog 120 #[Xi (frv f).toArray,Xi #[I6 a.fr,I6 a.tz,Xh a.rd,Xh a.wr,Xh a.sh,I6 a.file,I6 a.base]] w fun e w'=>e= Xl (Xh (Zi f a))/\zc w w':=by
 obtain⟨⟨d,g,i,j,k,l,m,n⟩,r,u,p,c,x⟩:=f;obtain⟨fr,t,q,wr,s,file,base⟩:=a;unfold frv Zi;simp only;cases wr
 ·simp only[Bool.false_and]
  go_enter func120,ntmps120
  go_wp2;go_ret;exact⟨rfl,(za _ _).trans (za _ _)⟩
 simp only[Bool.true_and]
 by_cases h:c<0
 ·rw[kE h];obtain⟨D,b⟩:=kA (decide (r<=1));rw[b.out]
  go_enter func120,ntmps120
  go_wp2;go_ret;exact⟨by rw[<-b.out];rfl,(za _ _).trans (za _ _)⟩
 rw[kF h]
 go_enter func120,ntmps120
 go_wp2;go_ret;exact⟨rfl,(za _ _).trans (za _ _)⟩
theorem Zb (m n:Int) (w):
  Xp prog 103 #[I6 m,I6 n] w fun e w'=>e= Xl (Xh (inB m n))/\w'=w:=by
 have H:Xo (inB m n=(decide (0<=m) && decide (m<n))):=rfl
 by_cases a:0<=m
 ·by_cases a:m<n
  ·go_enter func103,ntmps103
   go_wp2;go_ret;exact⟨by rw[H.out];simp[*],rfl⟩
  go_enter func103,ntmps103
  go_wp2;go_ret;exact⟨by rw[H.out];simp[*],rfl⟩
 go_enter func103,ntmps103
 go_wp2;go_ret;exact⟨by rw[H.out];simp;omega,rfl⟩
theorem Jc (w):
  Xp prog 100 #[] w fun e w'=>e= Xl (Xi (frv frF).toArray)/\zc w w':=by
 go_enter func100,ntmps100
 go_wp2;refine bodyPost_ret (v:= Xi (frv frF).toArray) (by simp[results,Tryz.results100,go_sem,frv,frF,pg0]) rfl ⟨rfl,?_⟩
 exact(bR _ _).alloc (nR _) _
theorem wf5 (a c g h i j k l r:Int) (u d:Bool) (f x:Int) (w) (b:inB r 1001=Xc) (m:inB x 12=Xc) (p:(f != -1)=Xc) (_hfe:(f == -1)=Xd) (n:inB f 5=Xc) (q:(r == 0)=Xd):
  Xp prog 102 #[Xi #[U8 a,U8 c,U8 g,U8 h,U8 i,U8 j,U8 k,U8 l,I6 r,Xh u,Xh d,I6 f,I6 x]] w fun e w'=>e= Xl (I6 0)/\zc w w':=by
 go_enter func102,ntmps102
 go_wp2_with (go_at_call 103;refine(Zb _ _ _).mono ?_;rintro e w' ⟨rfl,rfl⟩)
 obtain⟨m,b⟩:=kB (w.alloc (Xk #[U8 a,U8 c,U8 g,U8 h,U8 i,U8 j,U8 k,U8 l,I6 r,Xh u,Xh d,I6 f,I6 x] 62));have c:=gA b
 have a:=xA b
 rw[b];clear b;have b:=a.gw 0 rfl
 have b:=a.gw 1 rfl
 have b:=a.gw 2 rfl
 have b:=a.gw 3 rfl
 have b:=a.gw 4 rfl
 have b:=a.gw 5 rfl
 have b:=a.gw 6 rfl
 have b:=a.gw 7 rfl
 have b:=a.gw 8 rfl
 have b:=a.gw 9 rfl
 have b:=a.gw 10 rfl
 have b:=a.gw 11 rfl
 have b:=a.gw 12 rfl
 have a:Nonempty (ze m):=⟨⟨_,zc.refl _⟩⟩;refine ju [(5,⟨fun v=>v= Xi (frv frF).toArray,fun _ _=>True⟩)] z6 Kr ?_ ?_ ?_
 ·intro x a
  simp at a
  subst a;exact⟨_,rfl⟩
 ·intro x a
  simp at a
  subst a;exact fun _ _ _ _ h=>h
 iterate 4 refine zg ?_
 iterate 3 (refine j1 ?_ ?_;kernel_rfl;simp only[Gd,sB,sS,sZ])
 iterate 6 refine zg ?_
 iterate 3 (refine j1 ?_ ?_;kernel_rfl;simp only[Gd,sB,sS,sZ])
 iterate 2 refine zg ?_
 refine qd fun a b a=>?_
 have a:=dD (c.trans b);go_wp2;go_ret;exact⟨rfl,a⟩
theorem wf7 (g h i j k l m n r:Int) (u d:Bool) (f x:Int) (w) (b:inB r 1001=Xc) (p:inB x 12=Xc) (q:(f != -1)=Xd) (_hfe:(f == -1)=Xc) (s:(r == 0)=Xc) (a:Qf (⟨⟨g,h,i,j,k,l,m,n⟩,r,u,d,f,x⟩:Fr) frF=Xc) (c:(x != 0)=Xd):
  Xp prog 102 #[Xi #[U8 g,U8 h,U8 i,U8 j,U8 k,U8 l,U8 m,U8 n,I6 r,Xh u,Xh d,I6 f,I6 x]] w fun e w'=>e= Xl (I6 0)/\zc w w':=by
 have p:Xo _:=a;clear a
 go_enter func102,ntmps102
 go_wp2_with (go_at_call 103;refine(Zb _ _ _).mono ?_;rintro e w' ⟨rfl,rfl⟩)
 obtain⟨s,b⟩:=kB (w.alloc (Xk #[U8 g,U8 h,U8 i,U8 j,U8 k,U8 l,U8 m,U8 n,I6 r,Xh u,Xh d,I6 f,I6 x] 62));have q:=gA b
 have a:=xA b
 rw[b];clear b;have b:=a.gw 0 rfl
 have b:=a.gw 1 rfl
 have b:=a.gw 2 rfl
 have b:=a.gw 3 rfl
 have b:=a.gw 4 rfl
 have b:=a.gw 5 rfl
 have b:=a.gw 6 rfl
 have b:=a.gw 7 rfl
 have b:=a.gw 8 rfl
 have b:=a.gw 9 rfl
 have b:=a.gw 10 rfl
 have b:=a.gw 11 rfl
 have b:=a.gw 12 rfl
 have a:Nonempty (ze s):=⟨⟨_,zc.refl _⟩⟩;refine ju [(5,⟨fun v=>v= Xi (frv frF).toArray,fun _ _=>True⟩)] z6 Kr ?_ ?_ ?_
 ·intro x c
  simp at c
  subst c;exact⟨_,rfl⟩
 ·intro x c
  simp at c
  subst c;exact fun _ _ _ _ a=>a
 iterate 5 refine zg ?_
 refine zx rfl rfl (fun w' a c=>?_) (fun a b=>?_)
 ·refine zJ.call [] rfl func100 rfl rfl rfl ?_;refine(Jc w').mono ?_;rintro e a ⟨rfl,a⟩;exact⟨_,rfl,a,rfl,trivial⟩
 subst b;have a:=fun W=>zgy g h i j k l m n r u d f x 0 0 0 0 0 0 0 0 0 Xd Xd (-1) 0 W
 simp only[show(⟨⟨0,0,0,0,0,0,0,0⟩,0,Xd,Xd,-1,0⟩:Fr)=frF from rfl,p.out]at a
 simp only[Gd,sB,sS,sZ,frv,frF,pg0];iterate 12 refine zg ?_
 refine qd fun a b c=>?_
 have a:=dD (q.trans b);go_wp2;go_ret;exact⟨rfl,a⟩
theorem wf9 (a g h i j k l m r:Int) (u d:Bool) (f x:Int) (w) (b:inB r 1001=Xc) (n:inB x 12=Xc) (p:(f != -1)=Xd) (_hfe:(f == -1)=Xc) (q:(r == 0)=Xd) (c:(x != 0)=Xd):
  Xp prog 102 #[Xi #[U8 a,U8 g,U8 h,U8 i,U8 j,U8 k,U8 l,U8 m,I6 r,Xh u,Xh d,I6 f,I6 x]] w fun e w'=>e= Xl (I6 0)/\zc w w':=by
 go_enter func102,ntmps102
 go_wp2_with (go_at_call 103;refine(Zb _ _ _).mono ?_;rintro e w' ⟨rfl,rfl⟩)
 obtain⟨n,b⟩:=kB (w.alloc (Xk #[U8 a,U8 g,U8 h,U8 i,U8 j,U8 k,U8 l,U8 m,I6 r,Xh u,Xh d,I6 f,I6 x] 62));have g:=gA b
 have a:=xA b
 rw[b];clear b;have b:=a.gw 0 rfl
 have b:=a.gw 1 rfl
 have b:=a.gw 2 rfl
 have b:=a.gw 3 rfl
 have b:=a.gw 4 rfl
 have b:=a.gw 5 rfl
 have b:=a.gw 6 rfl
 have b:=a.gw 7 rfl
 have b:=a.gw 8 rfl
 have b:=a.gw 9 rfl
 have b:=a.gw 10 rfl
 have b:=a.gw 11 rfl
 have b:=a.gw 12 rfl
 have a:Nonempty (ze n):=⟨⟨_,zc.refl _⟩⟩;refine ju [(5,⟨fun v=>v= Xi (frv frF).toArray,fun _ _=>True⟩)] z6 Kr ?_ ?_ ?_
 ·intro x c
  simp at c
  subst c;exact⟨_,rfl⟩
 ·intro x c
  simp at c
  subst c;exact fun _ _ _ _ h=>h
 iterate 4 refine zg ?_
 iterate 3 (refine j1 ?_ ?_;kernel_rfl;simp only[Gd,sB,sS,sZ])
 iterate 11 refine zg ?_
 refine qd fun a b a=>?_
 have a:=dD (g.trans b);go_wp2;go_ret;exact⟨rfl,a⟩
theorem rw1 (a b c g h i j k r:Int) (u d:Bool) (f x:Int) (w) (_h:r<0):
  Xp prog 94 #[Xi #[U8 a,U8 b,U8 c,U8 g,U8 h,U8 i,U8 j,U8 k,I6 r,Xh u,Xh d,I6 f,I6 x]] w fun e w'=>e= Xl (I6 3)/\zc w w':=by
 go_enter func94,ntmps94
 go_wp2;go_ret;exact⟨rfl,(bR _ _).alloc (nR _) _⟩
theorem rw2 (a b c g h i j k r:Int) (u d:Bool) (f x:Int) (w) (_h:¬r<0) (_h2:1000<r):
  Xp prog 94 #[Xi #[U8 a,U8 b,U8 c,U8 g,U8 h,U8 i,U8 j,U8 k,I6 r,Xh u,Xh d,I6 f,I6 x]] w fun e w'=>e= Xl (I6 3)/\zc w w':=by
 go_enter func94,ntmps94
 go_wp2;go_ret;exact⟨rfl,(bR _ _).alloc (nR _) _⟩
theorem rw3 (a b c g h i j k r:Int) (u d:Bool) (f x:Int) (w) (_h:¬r<0) (_h2:¬1000<r) (_h3:f< -1):
  Xp prog 94 #[Xi #[U8 a,U8 b,U8 c,U8 g,U8 h,U8 i,U8 j,U8 k,I6 r,Xh u,Xh d,I6 f,I6 x]] w fun e w'=>e= Xl (I6 3)/\zc w w':=by
 go_enter func94,ntmps94
 go_wp2;go_ret;exact⟨rfl,(bR _ _).alloc (nR _) _⟩
theorem rw4 (a b c g h i j k r:Int) (u d:Bool) (f x:Int) (w) (_h:¬r<0) (_h2:¬1000<r) (_h3:¬f< -1) (_h4:4<f):
  Xp prog 94 #[Xi #[U8 a,U8 b,U8 c,U8 g,U8 h,U8 i,U8 j,U8 k,I6 r,Xh u,Xh d,I6 f,I6 x]] w fun e w'=>e= Xl (I6 3)/\zc w w':=by
 go_enter func94,ntmps94
 go_wp2;go_ret;exact⟨rfl,(bR _ _).alloc (nR _) _⟩
theorem rw5 (a b c g h i j k r:Int) (u d:Bool) (f x:Int) (w) (_h:¬r<0) (_h2:¬1000<r) (_h3:¬f< -1) (_h4:¬4<f) (_h5:x<0):
  Xp prog 94 #[Xi #[U8 a,U8 b,U8 c,U8 g,U8 h,U8 i,U8 j,U8 k,I6 r,Xh u,Xh d,I6 f,I6 x]] w fun e w'=>e= Xl (I6 3)/\zc w w':=by
 go_enter func94,ntmps94
 go_wp2;go_ret;exact⟨rfl,(bR _ _).alloc (nR _) _⟩
theorem rw6 (a b c g h i j k r:Int) (u d:Bool) (f x:Int) (w) (_h:¬r<0) (_h2:¬1000<r) (_h3:¬f< -1) (_h4:¬4<f) (_h5:¬x<0) (_h6:11<x):
  Xp prog 94 #[Xi #[U8 a,U8 b,U8 c,U8 g,U8 h,U8 i,U8 j,U8 k,I6 r,Xh u,Xh d,I6 f,I6 x]] w fun e w'=>e= Xl (I6 3)/\zc w w':=by
 go_enter func94,ntmps94
 go_wp2;go_ret;exact⟨rfl,(bR _ _).alloc (nR _) _⟩
theorem rw7 (a b c g h i j k r:Int) (u d:Bool) (f x:Int) (w) (_h:¬r<0) (_h2:¬1000<r) (_h3:¬f< -1) (_h4:¬4<f) (_h5:¬x<0) (_h6:¬11<x) (_h7:(r == 0)=Xd) (_h8:f<0) (_h9:0<x):
  Xp prog 94 #[Xi #[U8 a,U8 b,U8 c,U8 g,U8 h,U8 i,U8 j,U8 k,I6 r,Xh u,Xh d,I6 f,I6 x]] w fun e w'=>e= Xl (I6 7)/\zc w w':=by
 go_enter func94,ntmps94
 go_wp2;go_ret;exact⟨rfl,(bR _ _).alloc (nR _) _⟩
theorem rw8 (a b c g h i j k r:Int) (u d:Bool) (f x:Int) (w) (_h:¬r<0) (_h2:¬1000<r) (_h3:¬f< -1) (_h4:¬4<f) (_h5:¬x<0) (_h6:¬11<x) (_h7:(r == 0)=Xd) (_h8:f<0) (_h9:¬0<x):
  Xp prog 94 #[Xi #[U8 a,U8 b,U8 c,U8 g,U8 h,U8 i,U8 j,U8 k,I6 r,Xh u,Xh d,I6 f,I6 x]] w fun e w'=>e= Xl (I6 0)/\zc w w':=by
 go_enter func94,ntmps94
 go_wp2;go_ret;exact⟨rfl,(bR _ _).alloc (nR _) _⟩
theorem rw9 (a b c g h i j k r:Int) (u d:Bool) (f x:Int) (w) (_h:¬r<0) (_h2:¬1000<r) (_h3:¬f< -1) (_h4:¬4<f) (_h5:¬x<0) (_h6:¬11<x) (_h7:(r == 0)=Xd) (_h8:¬f<0):
  Xp prog 94 #[Xi #[U8 a,U8 b,U8 c,U8 g,U8 h,U8 i,U8 j,U8 k,I6 r,Xh u,Xh d,I6 f,I6 x]] w fun e w'=>e= Xl (I6 0)/\zc w w':=by
 go_enter func94,ntmps94
 go_wp2;go_ret;exact⟨rfl,(bR _ _).alloc (nR _) _⟩
theorem zqn (b c g h i j k l r:Int) (u d:Bool) (f x:Int) (w) (_h:¬r<0) (_h2:¬1000<r) (_h3:¬f< -1) (_h4:¬4<f) (_h5:¬x<0) (_h6:¬11<x) (_h7:(r == 0)=Xc) (a:Qf (⟨⟨b,c,g,h,i,j,k,l⟩,r,u,d,f,x⟩:Fr) frF=Xc) (_h8:f<0) (_h9:¬0<x):
  Xp prog 94 #[Xi #[U8 b,U8 c,U8 g,U8 h,U8 i,U8 j,U8 k,U8 l,I6 r,Xh u,Xh d,I6 f,I6 x]] w fun e w'=>e= Xl (I6 0)/\zc w w':=by
 have m:=fun W=>zgy b c g h i j k l r u d f x 0 0 0 0 0 0 0 0 0 Xd Xd (-1) 0 W
 simp only[show(⟨⟨0,0,0,0,0,0,0,0⟩,0,Xd,Xd,-1,0⟩:Fr)=frF from rfl,a]at m
 clear a
 go_enter func94,ntmps94
 go_wp2;go_ret;exact⟨rfl,(bR _ _).alloc (nR _) _⟩
theorem zqm (b c g h i j k l r:Int) (u d:Bool) (f x:Int) (w) (_h:¬r<0) (_h2:¬1000<r) (_h3:¬f< -1) (_h4:¬4<f) (_h5:¬x<0) (_h6:¬11<x) (_h7:(r == 0)=Xc) (a:Qf (⟨⟨b,c,g,h,i,j,k,l⟩,r,u,d,f,x⟩:Fr) frF=Xd) (_h8:(f == -1)=Xd):
  Xp prog 94 #[Xi #[U8 b,U8 c,U8 g,U8 h,U8 i,U8 j,U8 k,U8 l,I6 r,Xh u,Xh d,I6 f,I6 x]] w fun e w'=>e= Xl (I6 7)/\zc w w':=by
 have m:=fun W=>zgy b c g h i j k l r u d f x 0 0 0 0 0 0 0 0 0 Xd Xd (-1) 0 W
 simp only[show(⟨⟨0,0,0,0,0,0,0,0⟩,0,Xd,Xd,-1,0⟩:Fr)=frF from rfl,a]at m
 clear a
 go_enter func94,ntmps94
 go_wp2;go_ret;exact⟨rfl,(bR _ _).alloc (nR _) _⟩
theorem zql (b c g h i j k l r:Int) (u d:Bool) (f x:Int) (w) (_h:¬r<0) (_h2:¬1000<r) (_h3:¬f< -1) (_h4:¬4<f) (_h5:¬x<0) (_h6:¬11<x) (_h7:(r == 0)=Xc) (a:Qf (⟨⟨b,c,g,h,i,j,k,l⟩,r,u,d,f,x⟩:Fr) frF=Xd) (_h8:(f == -1)=Xc) (_h9:¬0<x):
  Xp prog 94 #[Xi #[U8 b,U8 c,U8 g,U8 h,U8 i,U8 j,U8 k,U8 l,I6 r,Xh u,Xh d,I6 f,I6 x]] w fun e w'=>e= Xl (I6 7)/\zc w w':=by
 have m:=fun W=>zgy b c g h i j k l r u d f x 0 0 0 0 0 0 0 0 0 Xd Xd (-1) 0 W
 simp only[show(⟨⟨0,0,0,0,0,0,0,0⟩,0,Xd,Xd,-1,0⟩:Fr)=frF from rfl,a]at m
 clear a
 go_enter func94,ntmps94
 go_wp2;go_ret;exact⟨rfl,(bR _ _).alloc (nR _) _⟩
theorem zqk (b c g h i j k l r:Int) (d:Bool) (f x:Int) (w) (_h:¬r<0) (_h2:¬1000<r) (_h3:¬f< -1) (_h4:¬4<f) (_h5:¬x<0) (_h6:¬11<x) (_h7:(r == 0)=Xc) (a:Qf (⟨⟨b,c,g,h,i,j,k,l⟩,r,Xc,d,f,x⟩:Fr) frF=Xd) (_h8:(f == -1)=Xc) (_h9:0<x):
  Xp prog 94 #[Xi #[U8 b,U8 c,U8 g,U8 h,U8 i,U8 j,U8 k,U8 l,I6 r,Xh Xc,Xh d,I6 f,I6 x]] w fun e w'=>e= Xl (I6 7)/\zc w w':=by
 have m:=fun W=>zgy b c g h i j k l r Xc d f x 0 0 0 0 0 0 0 0 0 Xd Xd (-1) 0 W
 simp only[show(⟨⟨0,0,0,0,0,0,0,0⟩,0,Xd,Xd,-1,0⟩:Fr)=frF from rfl,a]at m
 clear a
 go_enter func94,ntmps94
 go_wp2;go_ret;exact⟨rfl,(bR _ _).alloc (nR _) _⟩
theorem zqj (b c d g h i j k r:Int) (f x:Int) (w) (_h:¬r<0) (_h2:¬1000<r) (_h3:¬f< -1) (_h4:¬4<f) (_h5:¬x<0) (_h6:¬11<x) (_h7:(r == 0)=Xc) (a:Qf (⟨⟨b,c,d,g,h,i,j,k⟩,r,Xd,Xc,f,x⟩:Fr) frF=Xd) (_h8:(f == -1)=Xc) (_h9:0<x):
  Xp prog 94 #[Xi #[U8 b,U8 c,U8 d,U8 g,U8 h,U8 i,U8 j,U8 k,I6 r,Xh Xd,Xh Xc,I6 f,I6 x]] w fun e w'=>e= Xl (I6 7)/\zc w w':=by
 have l:=fun W=>zgy b c d g h i j k r Xd Xc f x 0 0 0 0 0 0 0 0 0 Xd Xd (-1) 0 W
 simp only[show(⟨⟨0,0,0,0,0,0,0,0⟩,0,Xd,Xd,-1,0⟩:Fr)=frF from rfl,a]at l
 clear a
 go_enter func94,ntmps94
 go_wp2;go_ret;exact⟨rfl,(bR _ _).alloc (nR _) _⟩
theorem zqi (a b c d g h i j r:Int) (f x:Int) (w) (_h:¬r<0) (_h2:¬1000<r) (_h3:¬f< -1) (_h4:¬4<f) (_h5:¬x<0) (_h6:¬11<x) (_h7:(r == 0)=Xc) (k:Qf (⟨⟨a,b,c,d,g,h,i,j⟩,r,Xd,Xd,f,x⟩:Fr) frF=Xd) (_h8:(f == -1)=Xc) (_h9:0<x) (l:zb4 (⟨a,b,c,d,g,h,i,j⟩:Pg) pg0=Xd):
  Xp prog 94 #[Xi #[U8 a,U8 b,U8 c,U8 d,U8 g,U8 h,U8 i,U8 j,I6 r,Xh Xd,Xh Xd,I6 f,I6 x]] w fun e w'=>e= Xl (I6 7)/\zc w w':=by
 have m:=fun W=>zgy a b c d g h i j r Xd Xd f x 0 0 0 0 0 0 0 0 0 Xd Xd (-1) 0 W
 simp only[show(⟨⟨0,0,0,0,0,0,0,0⟩,0,Xd,Xd,-1,0⟩:Fr)=frF from rfl,k]at m
 clear k;have k:=fun W=>ZI 9998 a b c d g h i j 0 0 0 0 0 0 0 0 W
 simp only[show(⟨0,0,0,0,0,0,0,0⟩:Pg)=pg0 from rfl,l]at k
 clear l
 go_enter func94,ntmps94
 go_wp2;go_ret;exact⟨rfl,(bR _ _).alloc (nR _) _⟩
theorem zqh (a b c d g h i j r:Int) (f x:Int) (w) (_h:¬r<0) (_h2:¬1000<r) (_h3:¬f< -1) (_h4:¬4<f) (_h5:¬x<0) (_h6:¬11<x) (_h7:(r == 0)=Xc) (k:Qf (⟨⟨a,b,c,d,g,h,i,j⟩,r,Xd,Xd,f,x⟩:Fr) frF=Xd) (_h8:(f == -1)=Xc) (_h9:0<x) (_h10:f<0) (l:zb4 (⟨a,b,c,d,g,h,i,j⟩:Pg) pg0=Xc):
  Xp prog 94 #[Xi #[U8 a,U8 b,U8 c,U8 d,U8 g,U8 h,U8 i,U8 j,I6 r,Xh Xd,Xh Xd,I6 f,I6 x]] w fun e w'=>e= Xl (I6 7)/\zc w w':=by
 have m:=fun W=>zgy a b c d g h i j r Xd Xd f x 0 0 0 0 0 0 0 0 0 Xd Xd (-1) 0 W
 simp only[show(⟨⟨0,0,0,0,0,0,0,0⟩,0,Xd,Xd,-1,0⟩:Fr)=frF from rfl,k]at m
 clear k;have k:=fun W=>ZI 9998 a b c d g h i j 0 0 0 0 0 0 0 0 W
 simp only[show(⟨0,0,0,0,0,0,0,0⟩:Pg)=pg0 from rfl,l]at k
 clear l
 go_enter func94,ntmps94
 go_wp2;go_ret;exact⟨rfl,(bR _ _).alloc (nR _) _⟩
theorem zbr (a w):Xp prog 94 #[Xi (frv a).toArray] w fun e w'=>e= Xl (I6 (frW a))/\zc w w':=by
 obtain⟨⟨m,n,p,q,s,t,u,v⟩,r,A,y,f,x⟩:=a
 show Xp prog 94 #[Xi #[U8 m,U8 n,U8 p,U8 q,U8 s,U8 t,U8 u,U8 v,I6 r,Xh A,Xh y,I6 f,I6 x]] w _
 by_cases i:r<0
 ·rw[show frW (⟨⟨m,n,p,q,s,t,u,v⟩,r,A,y,f,x⟩:Fr)=3 from by simp[frW,inB];omega];exact rw1 _ _ _ _ _ _ _ _ _ _ _ _ _ w i
 by_cases k:1000<r
 ·rw[show frW (⟨⟨m,n,p,q,s,t,u,v⟩,r,A,y,f,x⟩:Fr)=3 from by simp[frW,inB];omega];exact rw2 _ _ _ _ _ _ _ _ _ _ _ _ _ w i k
 have h:inB r 1001=Xc:=by simp[inB];omega
 by_cases B:x<0
 ·have d:inB x 12=Xd:=by simp[inB];omega
  rw[show frW (⟨⟨m,n,p,q,s,t,u,v⟩,r,A,y,f,x⟩:Fr)=3 from by simp[frW,h,d]]
  by_cases j:f< -1
  ·exact rw3 _ _ _ _ _ _ _ _ _ _ _ _ _ w i k j
  by_cases l:4<f
  ·exact rw4 _ _ _ _ _ _ _ _ _ _ _ _ _ w i k j l
  exact rw5 _ _ _ _ _ _ _ _ _ _ _ _ _ w i k j l B
 by_cases C:11<x
 ·have d:inB x 12=Xd:=by simp[inB];omega
  rw[show frW (⟨⟨m,n,p,q,s,t,u,v⟩,r,A,y,f,x⟩:Fr)=3 from by simp[frW,h,d]]
  by_cases j:f< -1
  ·exact rw3 _ _ _ _ _ _ _ _ _ _ _ _ _ w i k j
  by_cases l:4<f
  ·exact rw4 _ _ _ _ _ _ _ _ _ _ _ _ _ w i k j l
  exact rw6 _ _ _ _ _ _ _ _ _ _ _ _ _ w i k j l B C
 have d:inB x 12=Xc:=by simp[inB];omega
 by_cases j:f< -1
 ·have D:(f == -1)=Xd:=by simp;omega
  have z:inB f 5=Xd:=by simp[inB];omega
  rw[show frW (⟨⟨m,n,p,q,s,t,u,v⟩,r,A,y,f,x⟩:Fr)=3 from by simp only[frW,h,d,D,z];rfl]
  exact rw3 _ _ _ _ _ _ _ _ _ _ _ _ _ w i k j
 by_cases l:4<f
 ·have D:(f == -1)=Xd:=by simp;omega
  have z:inB f 5=Xd:=by simp[inB];omega
  rw[show frW (⟨⟨m,n,p,q,s,t,u,v⟩,r,A,y,f,x⟩:Fr)=3 from by simp only[frW,h,d,D,z];rfl]
  exact rw4 _ _ _ _ _ _ _ _ _ _ _ _ _ w i k j l
 by_cases H:r=0
 ·have b:(r == 0)=Xc:=by simp[H]
  cases g:Qf (⟨⟨m,n,p,q,s,t,u,v⟩,r,A,y,f,x⟩:Fr) frF with
  | true=>
   have c:=zcl g;simp only[frF,Fr.mk.injEq]at c;have D:(f == -1)=Xc:=by simp[c.2.2.2.2.1]
   have G:(x == 0)=Xc:=by simp[c.2.2.2.2.2]
   rw[show frW (⟨⟨m,n,p,q,s,t,u,v⟩,r,A,y,f,x⟩:Fr)=0 from by simp only[frW,h,d,D,b,g,G];rfl]
   exact zqn _ _ _ _ _ _ _ _ _ _ _ _ _ w i k j l B C b g Wm Wm
  | false=>
   by_cases D:f=-1
   ·have c:(f == -1)=Xc:=by simp[D]
    rw[show frW (⟨⟨m,n,p,q,s,t,u,v⟩,r,A,y,f,x⟩:Fr)=7 from by simp only[frW,h,d,c,b,g];rfl]
    by_cases E:0<x
    ·cases A with
     | true=>exact zqk _ _ _ _ _ _ _ _ _ _ _ _ w i k j l B C b g c E
     | false=>
      cases y with
      | true=>exact zqj _ _ _ _ _ _ _ _ _ _ _ w i k j l B C b g c E
      | false=>
       cases F:zb4 (⟨m,n,p,q,s,t,u,v⟩:Pg) pg0 with
       | true=>exact zqh _ _ _ _ _ _ _ _ _ _ _ w i k j l B C b g c E Wm F
       | false=>exact zqi _ _ _ _ _ _ _ _ _ _ _ w i k j l B C b g c E F
    exact zql _ _ _ _ _ _ _ _ _ _ _ _ _ w i k j l B C b g c E
   have c:(f == -1)=Xd:=by simp[D]
   have z:inB f 5=Xc:=by simp[inB];omega
   rw[show frW (⟨⟨m,n,p,q,s,t,u,v⟩,r,A,y,f,x⟩:Fr)=7 from by simp only[frW,h,d,c,z,b,g];rfl]
   exact zqm _ _ _ _ _ _ _ _ _ _ _ _ _ w i k j l B C b g c
 have b:(r == 0)=Xd:=by simp[H]
 by_cases D:f=-1
 ·have c:(f == -1)=Xc:=by simp[D]
  by_cases E:0<x
  ·have G:(x == 0)=Xd:=by simp;omega
   rw[show frW (⟨⟨m,n,p,q,s,t,u,v⟩,r,A,y,f,x⟩:Fr)=7 from by simp only[frW,h,d,c,b,G];rfl]
   exact rw7 _ _ _ _ _ _ _ _ _ _ _ _ _ w i k j l B C b Wm E
  have G:(x == 0)=Xc:=by simp;omega
  rw[show frW (⟨⟨m,n,p,q,s,t,u,v⟩,r,A,y,f,x⟩:Fr)=0 from by simp only[frW,h,d,c,b,G];rfl]
  exact rw8 _ _ _ _ _ _ _ _ _ _ _ _ _ w i k j l B C b Wm E
 have c:(f == -1)=Xd:=by simp[D]
 have z:inB f 5=Xc:=by simp[inB];omega
 rw[show frW (⟨⟨m,n,p,q,s,t,u,v⟩,r,A,y,f,x⟩:Fr)=0 from by simp only[frW,h,d,c,z,b];rfl]
 exact rw9 _ _ _ _ _ _ _ _ _ _ _ _ _ w i k j l B C b Wm
end
end Go.Proofs.YtjjdljjhmcegdaaGreat
