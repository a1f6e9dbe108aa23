import Derived.Orders
import Derived.Below
import Derived.Deep.QuietTactic
import Derived.BigQuiet
import Derived.Test.YtjjdljjhmcegdaaGreatProg
import Derived.WalkKit
import Derived.Deep.LoopGhost
import Derived.Deep.Slices
import Derived.Laws.AppendOwn
import Derived.Lib.Walk
import Derived.Lib.SliceRun
import Derived.Laws.CopyRow
import Derived.Laws.CopyOwn
import Derived.Laws.MakeOwn
import Derived.Laws.OwnMore
import Derived.Shelf.Abstract
import Derived.WalkSmall
import Derived.Deep.Cut
import Derived.ChangeKeysEq
import Derived.Laws.StructEq
import Derived.ArgAppend
import Derived.Deep.MidRow
import Derived.Laws.ResultCell
import Derived.OrdersHeld
namespace Go.Proofs.YtjjdljjhmcegdaaGreat
open Go.Value renaming slice→O,int→Xe,bool→Xh,agg→Xi,pointer→Xj,tuple→Xm
open Go.IntKind renaming i64→Xf,u8→Xg
open Go.Obj renaming cells→Xk
open Go.Ending renaming returned→Xl
open Go renaming World→Xn,Calls→Xp,Value→Xq
open Go.RowKit renaming Hid→Xo
open Option renaming some→Xa,none→Xb
open Bool renaming true→Xc,false→Xd
open List renaming replicate→Xr
open _root_.List renaming mem_range→Xs,mem_append→Xt,range→Xv,mem_or_eq_of_mem_set→Xw,getElem?_of_mem→Xy,mem_filter→Xz,getElem?_range→Ya,flatMap_cons→Yb,getElem?_map→Yc,mem_map→Ye,pairwise_cons→Yf,any_eq_true→Yg,append_assoc→Yj,all_eq_true→Yk,getElem?_replicate→Yl,ext_getElem?→Ym,length_set→Yn,length_nil→Yo,length_cons→Yq,filter_append→Yr,flatMap_append→Yu,filter_cons_of_pos→Yv,length_eq_zero_iff→Yw,drop_append_of_le_length→Yx,take_append_of_le_length→Yy,drop_of_length_le→Oa,countP_append→Oc,nodup_append→Oe,take_length_add_append→Of,drop_length_add_append→Og,mem_of_getLast?→Oh,cons_append→Oi,getElem?_append_left→Oj,nodup_cons→Ok,nil_append→Ol,append_nil→Om,mem_singleton→Oo,any_eq_false→Oq,mem_cons_of_mem→Ou,map_congr_left→Ox,take_zero→Oy,mem_replicate→Oz,take_add_one→Ua,lookup→Ub,sum_cons→Uc,length_erase_of_mem→Ud,getElem?_cons_succ→Ue,length_take→Uf,filter_cons_of_neg→Ug,pairwise_lt_range→Ui,take_of_length_le→Ul,zipWith→Um,zipWith_cons_cons→Un,set_getElem_self→Us,range_eq_range'→Ut,filter_eq_self→Uv,countP_eq_zero→Uw,countP_pos_iff→Ux,takeWhile_cons→Uy,dropWhile_cons→Uz,getLast?_cons→Ga,filter_filter→Gb,getElem?_drop→Gc,mem_cons_self→Gd
open Go.Region renaming wanted→Xu,ready→Uh,binds→Ge
open _root_.Bool renaming and_eq_true→Xx,false_eq_true→Yz,or_eq_true→Ow,eq_iff_iff→Uo
open Go.Sem renaming run_bind→Yd,run_pure→Yi
open _root_.Nat renaming mul_le_mul_left→Yh,lt_or_ge→Yp,mul_le_mul_right→Yt,lt_of_lt_of_le→Ob,add_assoc→Od,add_comm→Ot,add_mul→Ov,zero_mul→Uj,succ_mul→Uk,min_eq_left→Up,div_lt_iff_lt_mul→Ur,mul_comm→Gf
open _root_.Array renaming getElem?_eq_getElem→Ys,getElem_modify→Uu
open Go.Act renaming put→Gg
theorem dD{P:Prop}(h:P):Go.RowKit.Hid P:=h
theorem kA{α:Type}(e:α):∃x,Go.RowKit.Hid (e=x):=⟨_,rfl⟩
theorem kB{α:Type}(e:α):∃x,e=x:=⟨_,rfl⟩
theorem kE{c:Prop}{h:Decidable c}(hc:c){α:Sort _}{t e:α}:ite c t e=t:=if_pos hc
theorem kF{c:Prop}{h:Decidable c}(hc:¬c){α:Sort _}{t e:α}:ite c t e=e:=if_neg hc
theorem kC{a b:Nat}(h:a<b):(a:Int)<(b:Int):=by omega
theorem kD{a b:Nat}(h:¬a<b):¬(a:Int)<(b:Int):=by omega
theorem Uq{P Q:Prop}(k:Q)(h:Go.RowKit.Hid Q->P:=by intro h;simp only[Go.Act.put,sB,sS,sZ];exact h.out):P:=h k
theorem gE{α:Type}{l:List α}{i:Nat}(h:i<l.length):l[i]? =Xa l[i]:=List.getElem?_eq_getElem h
theorem sB{α:Type}(l:List α)(i:Nat)(a:α):l.toArray.setIfInBounds i a=(l.set i a).toArray:=List.setIfInBounds_toArray l i a
theorem gS{α:Type}{i:Nat}{a:α}{l:List α}:l[i]? =Xa a<->∃h:i<l.length,l[i]=a:=List.getElem?_eq_some_iff
theorem sZ{α:Type}{x:α}{k:List α}{a:α}:(x::k).set 0 a=a::k:=rfl
theorem sS{α:Type}{x:α}{k:List α}{i:Nat}{a:α}:(x::k).set (i+1) a=x::k.set i a:=rfl
theorem nM{α:Type}{a:α}:¬a∈([]:List α):=List.not_mem_nil
theorem mC{α:Type}{b:α}{l:List α}{a:α}:a∈b::l<->a=b\/a∈l:=List.mem_cons
theorem mG{α:Type}{l:List α}{i:Nat}{a:α}(h:l[i]? =Xa a):a∈l:=List.mem_of_getElem? h
theorem sF{α:Type}{l:List α}{i:Nat}{a:α}(h:i<l.length):(l.set i a)[i]? =Xa a:=List.getElem?_set_self h
theorem gD{α:Type}{l:List α}{i:Nat}{a:α}:l.getD i a=l[i]?.getD a:=List.getD_eq_getElem?_getD
theorem sN{α:Type}{l:List α}{i j:Nat}(h:i≠j){a:α}:(l.set i a)[j]? =l[j]?:=List.getElem?_set_ne h
theorem tN(n:Nat):(n:Int).toNat=n:=Int.toNat_natCast n
theorem lR{α:Type}{n:Nat}{a:α}:(Xr n a).length=n:=List.length_replicate
theorem pJ{α β:Type}(a:α)(b:β)(c:α)(d:β):((a,b)=(c,d))=(a=c/\b=d):=Prod.mk.injEq a b c d
theorem vJ(a n c d e f):(O a n c=O d e f)=(a=d/\n=e/\c=f):=Value.slice.injEq a n c d e f
theorem eN{α:Type}{l:List α}(h:l.length=0):l=[]:=List.eq_nil_of_length_eq_zero h
theorem aR{α:Type}{k l:List α}{i:Nat}(h:k.length<=i):(k++l)[i]? =l[i-k.length]?:=List.getElem?_append_right h
theorem gN{α:Type}{l:List α}{i:Nat}(h:l.length<=i):l[i]? =Xb:=List.getElem?_eq_none h
theorem lA{α:Type}{k l:List α}:(k++l).length=k.length+l.length:=List.length_append
theorem aS{α:Type}{i:Nat}{b:α}{k:Array α}:k[i]? =Xa b<->∃h:i<k.size,k[i]=b:=Array.getElem?_eq_some_iff
theorem bD{B:Nat}{a w:Xn}(h:Go.RowKit.Below B a w)(n:Nat):Go.RowKit.Below B a (w.drewN n):=Go.below_drewN h n
theorem nT{n m k:Nat}(h:n<=m)(g:m<=k):n<=k:=Nat.le_trans h g
theorem nR(n:Nat):n<=n:=Nat.le_refl n
theorem nZ(n:Nat):0<=n:=Nat.zero_le n
theorem nL(n:Nat):¬n<0:=Nat.not_lt_zero n
theorem mP{α β:Type}{f:α->β}{a:α}{l:List α}:(a::l).map f=f a::l.map f:=rfl
theorem rA{α β:Type}(a:α)(w:Xn)(f:α->Xn->Result β):(Result.ok a w).andThen f=f a w:=rfl
theorem zA(n:Nat):0+n=n:=Nat.zero_add n
theorem bR(B:Nat)(w:Xn):Go.RowKit.Below B w w:=Go.RowKit.Below.refl B w
theorem bS{B:Nat}{w v:Xn}(h:Go.RowKit.Below B w v):w.heap.size<=v.heap.size:=Go.RowKit.Below.size h
set_option maxRecDepth 100000
set_option maxHeartbeats 4000000
variable{A0 A1 B B0 B1 b base' id j kk:Nat} {Q:Exit->Act->Xn->Prop} {W w' w1:Xn} {a0 a1 a2 a3 a4 a5 a6 a7 a8 a9:Xq} {o oj:Oper} {ops:Array Oper} {s z:Int} {t:TypeId} {us vs xs:List Xq}
open Go.Proofs.Tryz
section
structure Pg where
 (b0 b1 b2 b3 b4 b5 b6 b7:Int)
structure Fr where
 p:Pg
 r:Int
 u:Bool
 d:Bool
 f:Int
 x:Int
def pg0:Pg:=⟨0,0,0,0,0,0,0,0⟩
def fr0:Fr:=⟨pg0,0,Xd,Xd,0,0⟩
def frF:Fr:=⟨pg0,0,Xd,Xd,-1,0⟩
def zcq (p q:Pg):Bool:=(p.b0 == q.b0) &&(p.b1 == q.b1) &&(p.b2 == q.b2) &&(p.b3 == q.b3) &&(p.b4 == q.b4) &&(p.b5 == q.b5) &&(p.b6 == q.b6) &&(p.b7 == q.b7)
theorem zbj (p q):zcq p q=Xc↔p=q:=by
 obtain⟨a,a,a,a,a,a,a,a⟩:=p;obtain⟨a,a,a,a,a,a,a,a⟩:=q
 simp[zcq,and_assoc]
def QO (a b:Fr):Bool:=zcq a.p b.p &&(a.r == b.r) &&(a.u == b.u) &&(a.d == b.d) &&(a.f == b.f) &&(a.x == b.x)
theorem zdy (a b):QO a b=Xc↔a=b:=by
 obtain⟨p,r,u,d,f,x⟩:=a;obtain⟨c,c,c,c,c,c⟩:=b
 simp[QO,zbj,and_assoc]
def inB (m n:Int):Bool:=decide (0<=m) && decide (m<n)
def frW (a:Fr):Int:=if(inB a.r 1001 && inB a.x 12)=Xd then 3 else if(!(a.f == -1) && !inB a.f 5)=Xc then 3 else if(a.r == 0 && !QO a frF || a.f == -1 && !(a.x == 0))=Xc then 7 else 0
def zch:List Fr->Int
 | []=>0
 | a :: l=>if frW a=0 then zch l else frW a
def Qa (fs:List Fr) (h:Int):Int:=if 40<fs.length then 4 else if zch fs=0 then(if inB h (max fs.length 1)then 0 else 3)else zch fs
def zb8 (z:Int):Bool:=decide (z<0) || decide (1000<z)
def slW (s:List Int):Int:=if 60<s.length then 4 else if s.any zb8 then 3 else 0
def jE (at_:Int) (n:Nat):Bool:=decide (0<=at_) && decide (at_<n)
def zB (n:Nat) (qs:List (Int × List Int)):Int:=if 80<n then 4 else if 400<qs.length then 4 else if qs.any (fun q=>!jE q.1 n)then 3 else 0
def zi (n:Nat) (qs:List (Int × List Int)) (m:Int):Int:=if zB n qs=0 then(if jE m n then 0 else 3)else zB n qs
def zz:List Int:=[0,0,0,0,0,0,0,0]
def qj (ps:List (List Int)) (qs:List (Int × List Int)) (m:Int):List Int:=
 if zi ps.length qs m=0 then(match qs.reverse.find? (fun q=>q.1 == m)with | some q=>q.2 | none=>ps.getD m.toNat zz)else zz
structure Fl where
 size:Int
 bl:List Int
def JI (n:Int):Int:=if n<1 then 0 else(n - 1) / 8+1
def QN (cnt:Int) (g:List Int) (b:Int):Int:=if b=-1 then 0 else if 0<=b/\b<cnt then(if g.contains b then 7 else 0)else 3
def zag (g:List Int) (b:Int):List Int:=if b=-1 then g else b :: g
def blW (cnt:Int):List Int->List Int->Int
 | _,[]=>0
 | g,b :: l=>if QN cnt g b=0 then blW cnt (zag g b) l else QN cnt g b
def blG (g:List Int) (l:List Int):List Int:=l.foldl zag g
def flW (cnt:Int) (g:List Int) (f:Fl):Int:=if 0<=f.size/\f.size<=96 then(if(f.bl.length:Int)=JI f.size then blW cnt g f.bl else 2)else 3
def zcG (cnt:Int):List Int->List Fl->Int
 | _,[]=>0
 | g,f :: l=>if flW cnt g f=0 then zcG cnt (blG g f.bl) l else flW cnt g f
def stW (fs:List Fl) (cnt:Int):Int:=if fs.length<=5/\0<=cnt/\cnt<=80 then zcG cnt [] fs else 4
def zU (fs:List Fl) (b:Int):Bool:=fs.any fun f=>f.bl.contains b
def QM (fs:List Fl) (cnt:Int):List Nat:=(Xv cnt.toNat).filter fun b=>!zU fs (b:Int)
def zpV (l:List Int) (n:Nat):List Int:=l.take n++Xr (n - l.length) (-1)
theorem zfP {n:Int} (a:0<=n) (b:n<=96):0<=JI n/\JI n<=12:=by
 unfold JI
 split <;> omega
theorem JE (a:Int) (g:List Int) (b:Int):
  (b=-1/\QN a g b=0/\zag g b=g)\/
  (b≠-1/\¬(0<=b/\b<a)/\QN a g b=3)\/
  (∃i:Nat,b=(i:Int)/\b<a/\g.contains b=Xc/\QN a g b=7)\/
  (∃i:Nat,b=(i:Int)/\b<a/\g.contains b=Xd/\QN a g b=0/\zag g b=b :: g):=by
 by_cases c:b=-1
 ·exact .inl ⟨c,by unfold QN;rw[kE c],by unfold zag;rw[kE c]⟩
 by_cases d:0<=b/\b<a
 ·obtain⟨i,e⟩:∃i:Nat,b=(i:Int):=⟨b.toNat,by omega⟩
  cases a:g.contains b with
  | true=>exact .inr (.inr (.inl ⟨i,e,d.2,rfl,by unfold QN;rw[kF c,kE d,kE a]⟩))
  | false=>exact .inr (.inr (.inr ⟨i,e,d.2,rfl,by unfold QN;rw[kF c,kE d,kF (by rw[a];decide)],by unfold zag;rw[kF c]⟩))
 exact .inr (.inl ⟨c,d,by unfold QN;rw[kF c,kF d]⟩)
theorem zid (a:Int) (g) (b:Int):QN a g b=0\/QN a g b=3\/QN a g b=7:=by
 rcases JE a g b with⟨_,h,_⟩|⟨_,_,h⟩|⟨_,_,_,_,h⟩|⟨_,_,_,_,h,_⟩ <;> omega
theorem zhp (a:Int):∀(l g:List Int),blW a g l=0\/blW a g l=3\/blW a g l=7
 | [],g=> .inl rfl
 | b :: l,g=>by
  unfold blW
  split
  ·exact zhp a l _
  exact zid a g b
theorem zmm (a:Int) (g f):0<=flW a g f/\flW a g f<=7:=by
 have:=zhp a f.bl g;unfold flW
 split
 ·split <;> omega
 omega
theorem zkw (a:Int):∀(l:List Fl) (g:List Int),0<=zcG a g l/\zcG a g l<=7
 | [],g=>by simp[zcG]
 | f :: l,g=>by
  unfold zcG
  split
  ·exact zkw a l _
  exact zmm a g f
def QJ (l:List Int):List Int:=l.filter (·≠-1)
theorem zfp (b:Int) (d:b≠-1):∀(l g:List Int),b∈blG g l↔b∈g\/b∈l
 | [],g=>by simp[blG]
 | c :: l,g=>by
  have a:=zfp b d l (zag g c);unfold blG at a⊢;rw[List.foldl_cons,a];unfold zag
  split
  ·rename_i h
   simp;constructor
   ·rintro(h|h) <;> simp[h]
   rintro(a|a|a)
   ·exact .inl a
   ·exact absurd (a.trans h) d
   exact .inr a
  simp;constructor
  ·rintro((h|h) | h) <;> simp[h]
  rintro(h|h|h) <;> simp[h]
theorem zcI (a:Int):∀(l g:List Int),blW a g l=0↔(∀b∈l,b=-1\/(0<=b/\b<a))/\(∀b∈l,b≠-1->b∉g)/\(QJ l).Nodup
 | [],g=>by simp[blW,QJ]
 | b :: l,g=>by
  unfold blW
  rcases JE a g b with⟨e,d,c⟩|⟨e,d,c⟩|⟨i,e,d,c,f⟩|⟨i,e,d,c,f,j⟩
  ·rw[kE d,c,zcI a l g];subst e
   simp[QJ]
  ·rw[kF (by omega),c]
   constructor
   ·intro h;omega
   rintro⟨h,_⟩
   rcases h b (by simp)with h|h
   ·exact absurd h e
   exact absurd h d
  ·rw[kF (by omega),f]
   constructor
   ·intro h;omega
   rintro⟨_,h,_⟩;exact absurd (by simpa using c) (h b (by simp) (by omega))
  rw[kE f,j,zcI a l (b :: g)];have f:b≠-1:=by omega
  have m:b∉g:=by simpa using c
  constructor
  ·rintro⟨k,j,e⟩;refine⟨fun c a=>?_,fun c a h=>?_,?_⟩
   ·rcases mC.1 a with rfl|a
    ·exact .inr ⟨by omega,d⟩
    exact k c a
   ·rcases mC.1 a with rfl|a
    ·exact m
    exact fun d=>j c a h (by simp[d])
   unfold QJ;rw[Yv (by simpa using f)]
   refine Ok.2 ⟨fun h=>?_,e⟩
   obtain⟨d,_⟩:=Xz.1 h;exact j b d f (by simp)
  rintro⟨k,j,e⟩;unfold QJ at e;rw[Yv (by simpa using f)]at e
  obtain⟨m,n⟩:=Ok.1 e;refine⟨fun c a=>k c (by simp[a]),fun c a h d=>?_,n⟩
  rcases mC.1 d with rfl|d
  ·exact m (Xz.2 ⟨a,by simpa using f⟩)
  exact j c (by simp[a]) h d
def zpQ (cnt:Int) (f:Fl):Prop:=(0<=f.size/\f.size<=96)/\(f.bl.length:Int)=JI f.size/\∀b∈f.bl,b=-1\/(0<=b/\b<cnt)
def QI (fs:List Fl):List Int:=fs.flatMap fun f=>f.bl
theorem zod (a:Int) (g) (f:Fl):flW a g f=0↔zpQ a f/\(∀b∈f.bl,b≠-1->b∉g)/\(QJ f.bl).Nodup:=by
 unfold flW zpQ;constructor
 ·intro h
  split at h
  ·rename_i c
   split at h
   ·rename_i d
    have:=(zcI a f.bl g).1 h;exact⟨⟨c,d,this.1⟩,this.2⟩
   omega
  omega
 rintro⟨⟨c,d,e⟩,h⟩;rw[kE c,kE d];exact(zcI a f.bl g).2 ⟨e,h⟩
theorem zg0 (a:Int):∀(fs:List Fl) (g:List Int),zcG a g fs=0↔(∀f∈fs,zpQ a f)/\(∀b∈QI fs,b≠-1->b∉g)/\(QJ (QI fs)).Nodup
 | [],g=>by simp[zcG,QI,QJ]
 | f :: l,g=>by
  unfold zcG;have key:(flW a g f=0/\zcG a (blG g f.bl) l=0)↔(∀d∈f :: l,zpQ a d)/\(∀b∈QI (f :: l),b≠-1->b∉g)/\(QJ (QI (f :: l))).Nodup:=by
   rw[zod,zg0 a l];unfold QI QJ;rw[Yb,Yr,Oe];constructor
   ·rintro⟨⟨i,j,n⟩,p,k,h⟩;refine⟨fun d e=>?_,fun b c a=>?_,n,h,fun m s b c=>?_⟩
    ·rcases mC.1 e with rfl|e
     ·exact i
     exact p d e
    ·rcases Xt.1 c with c|c
     ·exact j b c a
     exact fun h=>k b c a ((zfp b a _ _).2 (.inl h))
    rintro rfl;obtain⟨q,r⟩:=Xz.1 s;obtain⟨a,_⟩:=Xz.1 c;have s:m≠-1:=by simpa using r
    exact k m a s ((zfp m s _ _).2 (.inr q))
   rintro⟨i,j,n,p,k⟩;refine⟨⟨i f (by simp),fun b c=>j b (Xt.2 (.inl c)),n⟩,fun d e=>i d (by simp[e]),fun b c a h=>?_,p⟩
   rcases(zfp b a _ _).1 h with h|h
   ·exact j b (Xt.2 (.inr c)) a h
   exact k b (Xz.2 ⟨h,by simpa using a⟩) b (Xz.2 ⟨c,by simpa using a⟩) rfl
  split
  ·rename_i h
   rw[<-key];exact⟨fun a=>⟨h,a⟩,fun a=>a.2⟩
  rename_i h
  rw[<-key];exact⟨fun a=>absurd a h,fun a=>absurd a.1 h⟩
theorem z6 (fs:List Fl) (a:Int):stW fs a=0↔(fs.length<=5/\0<=a/\a<=80)/\(∀f∈fs,zpQ a f)/\(QJ (QI fs)).Nodup:=by
 unfold stW
 split
 ·rename_i h
  rw[zg0]
  simp[h]
 rename_i h
 simp[h]
theorem QT (fs) (b:Int):zU fs b=Xc↔b∈QI fs:=by
 simp[zU,QI]
structure En where
 kind:Int
 n:Int
 wr:Bool
def en0:En:=⟨0,0,Xd⟩
def enS (e:En):Bool:=e.kind != 0
def enW (e:En):Int:=
 if 0<=e.kind/\e.kind<=2 then
  (if 0<=e.n/\e.n<=59/\(e.kind=1->e.n<=39)then
   (if(e.kind=0/\(e.n≠0\/e.wr=Xc))\/(e.kind=2/\e.wr=Xc)then 7 else 0)
  else 3)
 else 1
def esW:List En->Int
 | []=>0
 | e :: l=>if enW e=0 then esW l else enW e
def Z5 (l:List En):Bool:=l.any enS
def haW (h:List En):Int:=if h.length=0 then 0 else if h.length=8 then(if esW h=0 then(if Z5 h=Xc then 0 else 2)else esW h)else 2
def tbW:List (List En)->Int
 | []=>0
 | h :: t=>if haW h=0 then tbW t else haW h
def zaL (t:List (List En)) (i k:Nat):En:=((t[i]?.getD [])[k]?).getD en0
def zeC (t:List (List En)) (n:Int):En:=if 0<=n/\n<64 then zaL t (n.toNat / 8) (n.toNat % 8)else en0
def mk (l:List En):List En:=if Z5 l=Xc then l else []
def zby (h:List En):List En:=if h.length=0 then Xr 8 en0 else h
def zkZ (t:List (List En)) (n:Nat) (e:En):List (List En):=t.set (n / 8) (mk ((zby (t[n / 8]?.getD [])).set (n % 8) e))
def zhy (t:List (List En)) (n:Int) (e:En):Int:=if tbW t=0 then(if 0<=n/\n<64 then enW e else 3)else tbW t
def qI:List (List En):=Xr 8 []
def zhP (t:List (List En)) (n:Int) (e:En):List (List En):=if zhy t n e=0 then zkZ t n.toNat e else qI
def zct (t:List (List En)):List En:=(Xv 64).map fun j=>zaL t (j / 8) (j % 8)
def QP (l:List En) (i:Nat):List En:=(Xv 8).map fun k=>l[8*i+k]?.getD en0
def Zs (l:List En):List (List En):=(Xv 8).map fun i=>mk (QP l i)
def jD (t:List (List En)) (f:En->Bool) (m:Nat):List Int:=((Xv m).filter fun n=>enS (zaL t (n / 8) (n % 8)) && f (zaL t (n / 8) (n % 8))).map fun(n:Nat)=>(n:Int)
theorem Q2 {e:En} (h:enW e=0):(0<=e.kind/\e.kind<=2)/\(0<=e.n/\e.n<=59/\(e.kind=1->e.n<=39))/\¬((e.kind=0/\(e.n≠0\/e.wr=Xc))\/(e.kind=2/\e.wr=Xc)):=by
 unfold enW at h
 by_cases a:0<=e.kind/\e.kind<=2
 ·rw[kE a]at h
  by_cases b:0<=e.n/\e.n<=59/\(e.kind=1->e.n<=39)
  ·rw[kE b]at h
   by_cases c:(e.kind=0/\(e.n≠0\/e.wr=Xc))\/(e.kind=2/\e.wr=Xc)
   ·rw[kE c]at h;omega
   exact⟨a,b,c⟩
  rw[kF b]at h;omega
 rw[kF a]at h;omega
theorem Qg {e:En} (a:0<=e.kind/\e.kind<=2) (b:0<=e.n/\e.n<=59/\(e.kind=1->e.n<=39)) (c:¬((e.kind=0/\(e.n≠0\/e.wr=Xc))\/(e.kind=2/\e.wr=Xc))):enW e=0:=by
 unfold enW;rw[kE a,kE b,kF c]
theorem zfM:enW en0=0:=by decide
theorem zmy {e:En} (h:enW e=0) (b:enS e=Xd):e=en0:=by
 obtain⟨a,a,a⟩:=Q2 h;obtain⟨k,n,w⟩:=e
 simp[enS]at b
 subst b
 simp at a
 obtain⟨rfl,b⟩:=a;cases w
 ·rfl
 simp at b
theorem zjt {l:List En}:esW l=0↔∀e∈l,enW e=0:=by
 induction l with
 | nil=>simp[esW]
 | cons e l a=>
  unfold esW
  by_cases h:enW e=0
  ·rw[kE h,a]
   simp[h]
  rw[kF h]
  simp[h]
def zhA (h:List En):Prop:=h=[]\/(h.length=8/\(∀e∈h,enW e=0)/\Z5 h=Xc)
theorem zjl {h:List En}:haW h=0↔zhA h:=by
 unfold haW zhA
 by_cases a:h.length=0
 ·rw[kE a];have:h=[]:=Yw.1 a
  simp[this]
 have d:h≠[]:=fun e=>a (by rw[e];rfl)
 rw[kF a]
 by_cases c:h.length=8
 ·rw[kE c]
  by_cases a:esW h=0
  ·rw[kE a];have e:=zjt.1 a
   by_cases b:Z5 h=Xc
   ·rw[kE b]
    simp[c,b,d]
    exact e
   rw[kF b]
   simp[d,b]
  rw[kF a];simp only[a,d,false_or,false_iff];exact fun h=>a (zjt.2 h.2.1)
 rw[kF c]
 simp[d,c]
theorem ZS {t:List (List En)}:tbW t=0↔∀h∈t,zhA h:=by
 induction t with
 | nil=>simp[tbW]
 | cons h t b=>
  unfold tbW
  by_cases a:haW h=0
  ·rw[kE a,b]
   simp[zjl.1 a]
  rw[kF a];simp only[a,mC,forall_eq_or_imp,false_iff];exact fun b=>a (zjl.2 b.1)
structure zca (t:List (List En)):Prop where
 len:t.length=8
 ok:∀h∈t,zhA h
theorem zca.half {t:List (List En)} (h:zca t) (i:Nat):zhA (t[i]?.getD []):=by
 cases a:t[i]? with
 | none=>exact .inl rfl
 | some x=>exact h.ok x (mG a)
theorem zhA.get {h:List En} (a:zhA h) (k:Nat):enW (h[k]?.getD en0)=0:=by
 rcases a with rfl|⟨_,a,_⟩
 ·exact zfM
 cases b:h[k]? with
 | none=>exact zfM
 | some x=>exact a x (mG b)
theorem zca.get {t:List (List En)} (h:zca t) (i k:Nat):enW (zaL t i k)=0:=(h.half i).get k
theorem zfH {h:List En} (a:zhA h):(zby h).length=8:=by
 unfold zby
 rcases a with rfl|⟨a,_⟩
 ·rfl
 rw[kF (by omega)]
 exact a
theorem zpl (h:List En) (a:zhA h) {k:Nat} (b:k<8):(zby h)[k]? =Xa (h[k]?.getD en0):=by
 unfold zby
 rcases a with rfl|⟨a,_⟩
 ·rw[kE (show([]:List En).length=0 from rfl),Yl,kE b]
  rfl
 rw[kF (by omega),gE (by omega)]
 rfl
theorem zn5 (h:List En) (k:Nat):(zby h)[k]?.getD en0=h[k]?.getD en0:=by
 unfold zby
 by_cases a:h.length=0
 ·rw[kE a];have:h=[]:=Yw.1 a;subst this;rw[Yl]
  split <;> rfl
 rw[kF a]
theorem zoC (l:List En) (b:∀e∈l,enW e=0) (k:Nat):(mk l)[k]?.getD en0=l[k]?.getD en0:=by
 unfold mk
 by_cases h:Z5 l=Xc
 ·rw[kE h]
 rw[kF h]
 cases c:l[k]? with
 | none=>simp
 | some x=>
  have a:=mG c;have:enS x=Xd:=by
   cases c:enS x with
   | false=>rfl
   | true=>exact absurd (Yg.2 ⟨x,a,c⟩) h
  simp[zmy (b x a) this]
theorem zp3 {l:List En} (a:l.length=8) (b:∀e∈l,enW e=0):zhA (mk l):=by
 unfold mk
 by_cases h:Z5 l=Xc
 ·rw[kE h];exact .inr ⟨a,b,h⟩
 rw[kF h];exact .inl rfl
theorem zo9 {h:List En} (a:zhA h):mk (zby h)=h:=by
 unfold mk zby
 rcases a with rfl|⟨a,_,a⟩
 ·rfl
 rw[kF (show¬h.length=0 by omega),kE a]
theorem zeD {h:List En} (b:zhA h):∀e∈zby h,enW e=0:=fun e a=>by
 unfold zby at a
 rcases b with rfl|⟨b,b,_⟩
 ·simp at a
  rw[a];exact zfM
 rw[kF (by omega)]at a
 exact b e a
theorem zgj {l:List En} {k:Nat} {e:En} (b:∀x∈l,enW x=0) (a:enW e=0):∀x∈l.set k e,enW x=0:=fun x c=>by
 rcases Xw c with h|h
 ·exact b x h
 rw[h];exact a
theorem zo2 {t:List (List En)} (h:zca t) {n:Nat} {e:En} (b:enW e=0):zca (zkZ t n e):=by
 refine⟨by simp[zkZ,h.len],fun x a=>?_⟩
 rcases Xw a with a|a
 ·exact h.ok x a
 rw[a];have a:=h.half (n / 8);exact zp3 (by rw[Yn];exact zfH a) (zgj (zeD a) b)
theorem zn4 {t:List (List En)} (h:zca t) {n:Nat} (b:n<64) {e:En} (a:enW e=0) (i k:Nat) (d:k<8):zaL (zkZ t n e) i k=if i=n / 8/\k=n % 8 then e else zaL t i k:=by
 unfold zaL zkZ;have c:=h.half (n / 8)
 by_cases b:i=n / 8
 ·subst b;rw[sF (by rw[h.len];omega)]
  simp only[Option.getD_some];rw[zoC _ (zgj (zeD c) a)]
  by_cases a:k=n % 8
  ·subst a;rw[sF (by rw[zfH c];exact d)]
   simp
  rw[sN (fun h=>a h.symm),kF (fun h=>a h.2)]
  exact zn5 _ k
 rw[sN (fun h=>b h.symm),kF (fun h=>b h.1)]
theorem zg1 (t:List (List En)):(zct t).length=64:=by simp[zct]
theorem zfK (t:List (List En)) (a:j<64):(zct t)[j]? =Xa (zaL t (j / 8) (j % 8)):=by
 unfold zct;rw[Yc,Ya a];rfl
theorem zkN {l:List En} {h:List En} (b:zhA h) {i:Nat} (c:∀k,k<8->l[8*i+k]? =Xa (h[k]?.getD en0)):QP l i=zby h:=by
 apply Ym
 intro k
 by_cases a:k<8
 ·unfold QP;rw[Yc,Ya a,zpl h b a]
  simp[c k a]
 rw[gN (by simp[QP];omega),gN (by rw[zfH b];omega)]
theorem zjP {l:List En} {t:List (List En)} (h:zca t) (c:∀j,j<64->l[j]? =Xa (zaL t (j / 8) (j % 8))):Zs l=t:=by
 apply Ym
 intro i
 by_cases a:i<8
 ·unfold Zs;rw[Yc,Ya a];obtain⟨x,b⟩:∃x,t[i]? =Xa x:=⟨_,gE (by rw[h.len];omega)⟩
  have a:=h.half i;rw[b]at a⊢;simp only[Option.getD_some]at a;have:QP l i=zby x:=zkN a (fun k d=>by
   rw[c _ (by omega),show(8*i+k) / 8=i by omega,show(8*i+k) % 8=k by omega]
   unfold zaL;rw[b]
   rfl)
  simp[this,zo9 a]
 rw[gN (by simp[Zs];omega),gN (by rw[h.len];omega)]
theorem J8 (t:List (List En)) (f:En->Bool) (m:Nat):jD t f (m+1)=if enS (zaL t (m / 8) (m % 8)) && f (zaL t (m / 8) (m % 8))then jD t f m++ [(m:Int)]else jD t f m:=by
 unfold jD;rw[List.range_succ,Yr,List.map_append]
 split
 ·rename_i h
  simp[h]
 rename_i h
 simp[h]
theorem zaU (t:List (List En)) (f:En->Bool):∀m,(jD t f m).length<=m
 | 0=>by simp[jD]
 | m+1=>by
  rw[J8];have:=zaU t f m
  split
  ·simp;omega
  omega
structure Ar where
 fr:Int
 tz:Int
 rd:Bool
 wr:Bool
 sh:Bool
 file:Int
 base:Int
structure On where
 is:Bool
 rd:Bool
 wr:Bool
 sh:Bool
 file:Int
 page:Int
def on0:On:=⟨Xd,Xd,Xd,Xd,0,0⟩
def ar0:Ar:=⟨0,0,Xd,Xd,Xd,0,0⟩
def Zi (a:Ar):Prop:=0<=a.fr/\a.fr<a.tz/\a.tz<=64/\-1<=a.file/\a.file<5/\0<=a.base/\(a.file<0->a.base=0/\a.sh=Xd)/\(0<=a.file->a.base<=12 -(a.tz - a.fr))
def arW (a:Ar):Int:=
 if a.fr<0\/a.tz<=a.fr\/64<a.tz\/a.file< -1\/5<=a.file\/a.base<0 then 3
 else if a.file<0 then(if a.base≠0\/a.sh=Xc then 7 else 0)
 else if 12 -(a.tz - a.fr)<a.base then 7 else 0
theorem Qp {a:Ar}:arW a=0↔Zi a:=by
 unfold arW Zi;obtain⟨k,r,q,wr,j,b,e⟩:=a;simp only;constructor
 ·intro h
  (repeat' split at h) <;> first | omega | skip
  rename_i g i d
  cases j
  ·simp at d⊢
   omega
  simp at d
 intro⟨g,i,d,l,m,n,f,p⟩;rw[kF (by omega)]
 by_cases c:b<0
 ·rw[kE c,kF (by rintro(h | h);exact h (f c).1;rw[(f c).2]at h;cases h)]
 rw[kF c,kF (by omega)]
def goB (a b:Ar):Bool:=decide (a.fr=b.tz) &&(a.rd == b.rd) &&(a.wr == b.wr) &&(a.sh == b.sh) && decide (a.file=b.file) && decide (a.base=if 0<=b.file then b.base+(b.tz - b.fr)else b.base)
theorem zdu {a b:Ar}:goB a b=Xc↔a.fr=b.tz/\a.rd=b.rd/\a.wr=b.wr/\a.sh=b.sh/\a.file=b.file/\a.base=if 0<=b.file then b.base+(b.tz - b.fr)else b.base:=by
 simp[goB,and_assoc]
def zpH (b a:Ar):Prop:=b.tz<=a.fr/\goB a b=Xd
def Q5:Option Ar->List Ar->Prop
 | _,[]=>True
 | p,a :: l=>Zi a/\(∀b,p=Xa b->zpH b a)/\Q5 (Xa a) l
def ZF (a:Ar) (n:Nat):Bool:=decide (a.fr<=(n:Int)) && decide ((n:Int)<a.tz)
theorem z4 {a:Ar} {n:Nat}:ZF a n=Xc↔a.fr<=(n:Int)/\(n:Int)<a.tz:=by simp[ZF]
theorem zdS {a:Ar} {n:Nat} (h:¬(a.fr<=(n:Int)/\(n:Int)<a.tz)):ZF a n=Xd:=by
 cases b:ZF a n with
 | false=>rfl
 | true=>exact absurd (z4.1 b) h
def qm (a:Ar) (n:Nat):On:=⟨Xc,a.rd,a.wr,a.sh,a.file,if 0<=a.file then a.base+((n:Int) - a.fr)else 0⟩
def zE:List Ar->Nat->On
 | [],_=>on0
 | a :: l,n=>if ZF a n=Xc then qm a n else zE l n
def zaN (n:Nat) (x:On):Ar:=if x.is=Xc then⟨n,n+1,x.rd,x.wr,x.sh,x.file,x.page⟩else ar0
theorem Q5.low:∀{l:List Ar} {p:Option Ar} {a:Ar} {n:Nat},Q5 p l->p=Xa a->(n:Int)<a.tz->zE l n=on0
 | [],_,_,_,_,_,_=>rfl
 | b :: l,p,a,n,h,hp,c=>by
  have c:=h.2.1 a hp;have d:=h.1;unfold zpH at c;unfold Zi at d;unfold zE;rw[kF (by rw[z4];omega)]
  exact h.2.2.low rfl (by omega)
theorem Q5.head {l:List Ar} {p:Option Ar} {a:Ar} {n:Nat} (h:Q5 p (a :: l)) (b:(n:Int)<a.fr):zE (a :: l) n=on0:=by
 have b:=h.1;unfold Zi at b;unfold zE;rw[kF (by rw[z4];omega)]
 exact h.2.2.low rfl (by omega)
theorem Jv {a:Ar} {l:List Ar} {n:Nat} (h:a.fr<=(n:Int)) (b:(n:Int)<a.tz):zE (a :: l) n=qm a n:=by
 unfold zE;rw[kE (by rw[z4];omega)]
theorem zbk {a:Ar} {l:List Ar} {n:Nat} (h:(n:Int)<a.fr\/a.tz<=(n:Int)):zE (a :: l) n=zE l n:=by
 rw[zE,kF (by rw[z4];omega)]
theorem zjb (a) (n:Nat):(qm a n).is=Xc:=rfl
theorem zgA {a:Ar} {n:Nat} (h:qm a n=on0):False:=by
 have:=congrArg On.is h
 simp[on0,qm]at this
theorem Q5.next {l:List Ar} {a b:Ar} {n:Nat} (h:Q5 (Xa a) l) (e:(n:Int)=a.tz) (d:zE l n=qm b n):∃c m,l=c :: m/\c.fr=(n:Int)/\qm c n=qm b n/\zpH a c:=by
 cases l with
 | nil=>exact(zgA d.symm).elim
 | cons c m=>
  have e:=h.2.1 a rfl;have f:=h.1;unfold Zi at f
  by_cases f:(n:Int)<c.fr
  ·rw[h.head f]at d;exact(zgA d.symm).elim
  have:c.fr=(n:Int):=by unfold zpH at e;omega
  rw[Jv (by omega) (by omega)]at d
  exact⟨c,m,rfl,this,d,e⟩
theorem zjc {a b:Ar} {n:Nat} (h:qm a n=qm b n):a.rd=b.rd/\a.wr=b.wr/\a.sh=b.sh/\a.file=b.file/\(0<=a.file->a.base+((n:Int) - a.fr)=b.base+((n:Int) - b.fr)):=by
 unfold qm at h;simp only[On.mk.injEq,true_and]at h;obtain⟨d,e,f,g,c⟩:=h;refine⟨d,e,f,g,fun d=>?_⟩
 rw[kE d,kE (by omega)]at c
 exact c
theorem zoG {p:Option Ar} {l m:List Ar} {a b:Ar} (d:Q5 p (a :: l)) (g:Q5 p (b :: m)) (h:∀n:Nat,n<64->zE (a :: l) n=zE (b :: m) n) (e:a.fr=b.fr) (c:a.rd=b.rd/\a.wr=b.wr/\a.sh=b.sh/\a.file=b.file/\a.base=b.base):¬a.tz<b.tz:=by
 intro e;have e:=d.1;have f:=g.1;unfold Zi at e f;obtain⟨n,g⟩:∃n:Nat,(n:Int)=a.tz:=⟨a.tz.toNat,by omega⟩
 have e:=h n (by omega)
 rw[zbk (by omega),Jv (a:=b) (by omega) (by omega)]at e
 obtain⟨f,k,rfl,h,i,j⟩:=d.2.2.next g e;obtain⟨e,g,h,k,k⟩:=zjc i;have i:=d.2.2.1;unfold Zi at i;have:goB f a=Xc:=by
  rw[zdu];refine⟨by omega,by rw[e,c.1],by rw[g,c.2.1],by rw[h,c.2.2.1],by omega,?_⟩
  split <;> omega
 rw[j.2]at this;cases this
theorem ziz:∀{l m:List Ar} {p:Option Ar},Q5 p l->Q5 p m->(∀n:Nat,n<64->zE l n=zE m n)->l=m
 | [],[],_,_,_,_=>rfl
 | [],b :: m,_,_,f,d=>by
  have g:=f.1;unfold Zi at g;have:=d b.fr.toNat (by omega)
  rw[Jv (a:=b) (by omega) (by omega)]at this
  exact(zgA this.symm).elim
 | c :: l,[],_,e,_,d=>by
  have g:=e.1;unfold Zi at g;have:=d c.fr.toNat (by omega)
  rw[Jv (a:=c) (by omega) (by omega)]at this
  exact(zgA this).elim
 | c :: l,b :: m,p,e,f,d=>by
  have y:=e.1;have g:=f.1;unfold Zi at y g;have s:c.fr=b.fr:=by
   rcases Int.lt_trichotomy c.fr b.fr with h|h|h
   ·have:=d c.fr.toNat (by omega)
    rw[Jv (a:=c) (by omega) (by omega),f.head (by omega)]at this
    exact(zgA this).elim
   ·exact h
   have:=d b.fr.toNat (by omega)
   rw[Jv (a:=b) (by omega) (by omega),e.head (by omega)]at this
   exact(zgA this.symm).elim
  have v:=d c.fr.toNat (by omega)
  rw[Jv (a:=c) (by omega) (by omega),Jv (a:=b) (by omega) (by omega)]at v
  obtain⟨i,j,k,q,x⟩:=zjc v;have r:c.base=b.base:=by
   rcases Int.lt_or_le c.file 0 with h|h
   ·omega
   have:=x h;omega
  have w:c.tz=b.tz:=by
   have z:=zoG e f d s ⟨i,j,k,q,r⟩;have A:=zoG f e (fun n u=>(d n u).symm) s.symm ⟨i.symm,j.symm,k.symm,q.symm,r.symm⟩
   omega
  have t:c=b:=by
   obtain⟨_,_,_,_,_,_,_⟩:=c;obtain⟨_,_,_,_,_,_,_⟩:=b;simp only at s w i j k q r;subst s w i j k q r;rfl
  subst t;have:l=m:=ziz e.2.2 f.2.2 fun n u=>by
   by_cases h:(n:Int)<c.tz
   ·rw[e.2.2.low rfl h,f.2.2.low rfl h]
   have:=d n u;rw[zbk (by omega),zbk (by omega)]at this
   exact this
  rw[this]
def zac (p:Option Ar) (l:List Ar):Option Ar:=match l.getLast? with | some b=>Xa b | none=>p
theorem zbY (p:Option Ar) (a l):zac p (a :: l)=zac (Xa a) l:=by
 unfold zac
 cases l with
 | nil=>simp
 | cons b m=>simp[Ga]
theorem zao {x:Ar}:∀{l:List Ar} {p:Option Ar},Q5 p (l++ [x])↔Q5 p l/\Zi x/\∀b,zac p l=Xa b->zpH b x
 | [],p=>by simp[Q5,zac]
 | a :: l,p=>by
  simp only[Oi,Q5,zbY,zao (l:=l) (p:=some a),and_assoc]
theorem J9 {x:Ar} {n:Nat}:∀{l:List Ar},zE l n=on0\/ZF x n=Xd->zE (l++ [x]) n=if ZF x n=Xc then qm x n else zE l n
 | [],_=>by simp[zE]
 | a :: l,h=>by
  simp only[Oi,zE]
  by_cases b:ZF a n=Xc
  ·rcases h with h|h
   ·rw[zE,kE b]at h;exact(zgA h).elim
   simp[b,h]
  rw[kF b,kF b];exact J9 (h.imp (fun h=>by rwa [zE,kF b]at h) id)
theorem zbl {n:Nat}:∀{l:List Ar},(∀a∈l,ZF a n=Xd)->zE l n=on0
 | [],_=>rfl
 | a :: l,h=>by
  rw[zE,kF (by rw[h a (by simp)];simp)]
  exact zbl fun b c=>h b (by simp[c])
theorem QB {n:Nat}:∀{l:List Ar},(zE l n).is=Xc->∃(i:Nat) (a:Ar),l[i]? =Xa a/\ZF a n=Xc/\zE l n=qm a n
 | [],h=>by cases h
 | a :: l,h=>by
  by_cases c:ZF a n=Xc
  ·exact⟨0,a,rfl,c,by rw[zE,kE c]⟩
  rw[zE,kF c]at h;obtain⟨i,b,d,e,f⟩:=QB h;exact⟨i+1,b,d,e,by rw[zE,kF c,f]⟩
theorem zfk {n:Nat}:∀{l:List Ar},(zE l n).is=Xd->zE l n=on0
 | [],_=>rfl
 | a :: l,h=>by
  by_cases b:ZF a n=Xc
  ·rw[zE,kE b]at h;cases h
  rw[zE,kF b]at h⊢;exact zfk h
theorem Q5.all {l:List Ar}:∀{p:Option Ar},Q5 p l->∀a∈l,Zi a:=by
 induction l with
 | nil=>intro p _ a b;cases b
 | cons b l c=>
  intro p h x b
  rcases mC.1 b with e|b
  ·rw[e];exact h.1
  exact c h.2.2 _ b
def ziR (f:Nat->On):Prop:=∀k:Nat,k<64->((f k).is=Xd->f k=on0)/\((f k).is=Xc->Zi (zaN k (f k)))
theorem zax {a:Ar} {n:Nat} (h:Zi a) (b:ZF a n=Xc):Zi (zaN n (qm a n)):=by
 have:=z4.1 b;unfold Zi at h⊢;unfold zaN;rw[kE (zjb a n)];unfold qm;refine⟨by simp,by simp;omega,by simp;omega,h.2.2.2.1,h.2.2.2.2.1,?_,fun b=>⟨?_,(h.2.2.2.2.2.2.1 b).2⟩,fun b=>?_⟩
 ·simp only
  split <;> omega
 ·simp only at b⊢;rw[kF (by omega)]
 simp only at b⊢;rw[kE b];omega
theorem Q5.good {l:List Ar} {p:Option Ar} (h:Q5 p l):ziR (zE l):=fun k _=>⟨zfk,fun b=>by
 obtain⟨i,a,c,d,e⟩:=QB b;rw[e];exact zax (h.all a (mG c)) d⟩
def J (f:Nat->On) (n:Nat) (acc:List Ar):Prop:=Q5 Xb acc/\(∀a∈acc,a.tz<=(n:Int))/\∀k:Nat,zE acc k=if k<n then f k else on0
theorem J.zero (f:Nat->On):J f 0 []:=⟨trivial,by simp,fun k=>by simp[zE]⟩
theorem J.skip {f:Nat->On} {n:Nat} {a:List Ar} (h:J f n a) (b:f n=on0):J f (n+1) a:=by
 refine⟨h.1,fun a c=>by have:=h.2.1 a c;omega,fun k=>?_⟩
 rw[h.2.2 k]
 by_cases a:k<n
 ·rw[kE a,kE (by omega)]
 rw[kF a]
 by_cases a:k=n
 ·subst a;rw[kE (by omega),b]
 rw[kF (by omega)]
theorem zox (n:Nat) (x:On) (h:x.is=Xc) (hp:x.file<0->x.page=0):qm (zaN n x) n=x:=by
 unfold zaN;rw[kE h];unfold qm;obtain⟨_,_,_,_,_,_⟩:=x;simp only at h hp⊢;subst h;simp only[On.mk.injEq,true_and]
 split
 ·omega
 exact(hp (by omega)).symm
theorem ziK {n k:Nat} {x:On} (h:x.is=Xc):ZF (zaN n x) k=Xc↔k=n:=by
 rw[z4];unfold zaN;rw[kE h];simp only;omega
theorem J.new {f:Nat->On} {n:Nat} {a:List Ar} (h:J f n a) (e:ziR f) (g:n<64) (d:(f n).is=Xc) (l:∀b,a.getLast? =Xa b->goB (zaN n (f n)) b=Xd):J f (n+1) (a++ [zaN n (f n)]):=by
 have c:=(e n g).2 d;have g:qm (zaN n (f n)) n=f n:=zox n _ d fun e=>by
  unfold Zi zaN at c;rw[kE d]at c;exact(c.2.2.2.2.2.2.1 e).1
 refine⟨zao.2 ⟨h.1,c,fun b i=>?_⟩,fun j c=>?_,fun k=>?_⟩
 ·have e:a.getLast? =Xa b:=by
   unfold zac at i
   split at i
   ·rename_i a;rw[a];exact i
   cases i
  refine⟨?_,l b e⟩;have:=h.2.1 b (Oh e);unfold zaN;rw[kE d];exact this
 ·rcases Xt.1 c with c|c
  ·have:=h.2.1 j c;omega
  rw[Oo]at c;subst c;unfold zaN;rw[kE d];simp
 have a:=h.2.2 k;rw[J9]
 ·by_cases e:k=n
  ·subst e;rw[kE ((ziK d).2 rfl),kE (by omega),g]
  rw[kF (fun c=>e ((ziK d).1 c)),a]
  by_cases c:k<n
  ·rw[kE c,kE (by omega)]
  rw[kF c,kF (by omega)]
 by_cases e:k=n
 ·left;rw[a,kF (by omega)]
 right
 cases a:ZF (zaN n (f n)) k with
 | false=>rfl
 | true=>exact absurd ((ziK d).1 a) e
theorem J.ext {f:Nat->On} {n:Nat} {i:List Ar} {b:Ar} (j:J f n (i++ [b])) (a:ziR f) (e:n<64) (p:(f n).is=Xc) (d:goB (zaN n (f n)) b=Xc):J f (n+1) (i++ [{ b with tz:=(n:Int)+1 }]):=by
 have c:=(a n e).2 p;obtain⟨a,E,F⟩:=j;obtain⟨A,e,z⟩:=zao.1 a;have a:=zdu.1 d;unfold zaN at a c;rw[kE p]at a c;simp only at a;obtain⟨d,t,u,v,w,r⟩:=a;have q:=e;unfold Zi at q c;simp only at c;have g:∀k:Nat,b.fr<=(k:Int)->zE i k=on0:=fun k m=>by
  refine zbl fun s e=>zdS ?_
  have:s.tz<=b.fr:=by
   have l:∀(a:List Ar) (h:Option Ar),Q5 h a->∀x∈a,∀y,zac h a=Xa y->x.tz<=y.tz:=by
    intro a
    induction a with
    | nil=>intro h _ x d;cases d
    | cons D C B=>
     intro h a x d y h;rw[zbY]at h
     rcases mC.1 d with rfl|d
     ·cases C with
      | nil=>simp[zac]at h;subst h;exact Int.le_refl _
      | cons C G=>
       have G:=B (Xa x) a.2.2 C (by simp) y h
       have C:=a.2.2.2.1 x rfl;have H:=a.2.2.1;unfold zpH at C;unfold Zi at H;omega
     exact B (Xa D) a.2.2 x d y h
   cases a:zac Xb i with
   | none=>
    unfold zac at a
    cases i with
    | nil=>cases e
    | cons _ _=>simp[Ga]at a
   | some y=>
    have G:=l i Xb A s e y a;have C:=(z y a).1;omega
  omega
 refine⟨zao.2 ⟨A,?_,fun y h=>?_⟩,fun s e=>?_,fun k=>?_⟩
 ·unfold Zi;simp only;refine⟨by omega,by omega,by omega,by omega,by omega,by omega,fun j=>q.2.2.2.2.2.2.1 j,fun j=>?_⟩
  rw[kE j]at r;omega
 ·exact⟨(z y h).1,(z y h).2⟩
 ·rcases Xt.1 e with e|e
  ·have:=E s (by simp[e]);omega
  rw[Oo]at e;subst e;simp
 have a:=F k;rw[J9 (by
  by_cases m:b.fr<=(k:Int)
  ·exact .inl (g k m)
  exact .inr (zdS (by omega)))]at a
 rw[J9 (by
  by_cases m:b.fr<=(k:Int)
  ·exact .inl (g k m)
  exact .inr (zdS (by simp only;omega)))]
 by_cases m:k=n
 ·subst m;rw[kE (by rw[z4];simp only;omega),kE (by omega)]
  unfold qm;simp only;have d:=c.2.2.2.2.2.2.1
  revert p t u v w r d
  generalize f k=x
  obtain⟨_,_,_,_,_,_⟩:=x;intro p t u v w r d;simp only at p t u v w r d⊢;subst p t u v;simp only[On.mk.injEq,true_and];refine⟨w.symm,?_⟩
  split
  ·rename_i j;rw[kE j]at r;omega
  exact(d (by omega)).1.symm
 have c:ZF { b with tz:=(n:Int)+1 } k=ZF b k:=by
  unfold ZF;simp only
  congr 1
  apply decide_eq_decide.2
  omega
 rw[c];have c:qm { b with tz:=(n:Int)+1 } k=qm b k:=rfl;rw[c,a]
 by_cases a:k<n
 ·rw[kE a,kE (by omega)]
 rw[kF a,kF (by omega)]
def zfv (f:Nat->On):Nat->List Ar
 | 0=>[]
 | n+1=>
  if(f n).is=Xc then
   match(zfv f n).getLast? with
   | some b=>if goB (zaN n (f n)) b=Xc then(zfv f n).dropLast++ [{ b with tz:=(n:Int)+1 }]else zfv f n++ [zaN n (f n)]
   | none=>zfv f n++ [zaN n (f n)]
  else zfv f n
theorem zhO {l:List Ar} {b:Ar} (h:l.getLast? =Xa b):l=l.dropLast++ [b]:=by
 cases l with
 | nil=>cases h
 | cons a m=>
  rw[List.getLast?_eq_some_getLast (List.cons_ne_nil a m)]at h;cases h;exact(List.dropLast_concat_getLast _).symm
theorem zlV {f:Nat->On} (c:ziR f):∀n:Nat,n<=64->J f n (zfv f n)
 | 0,_=>J.zero f
 | n+1,a=>by
  have d:=zlV c n (by omega)
  unfold zfv
  by_cases b:(f n).is=Xc
  ·rw[kE b]
   cases e:(zfv f n).getLast? with
   | none=>exact d.new c (by omega) b (fun g a=>by rw[e]at a;cases a)
   | some g=>
    simp only
    by_cases a:goB (zaN n (f n)) g=Xc
    ·rw[kE a];rw[zhO e]at d;exact d.ext c (by omega) b a
    rw[kF a];refine d.new c (by omega) b (fun g g=>?_)
    rw[e]at g;cases g
    simpa using a
  rw[kF b];exact d.skip ((c n (by omega)).1 (by simpa using b))
def QD (f:Nat->On):List Ar:=zfv f 64
theorem zdm {f:Nat->On} (a:ziR f):J f 64 (QD f):=zlV a 64 (nR _)
theorem J.all {f:Nat->On} {a:List Ar} (h:J f 64 a) (b:ziR f):a=QD f:=
 ziz h.1 (zdm b).1 fun n _=>by rw[h.2.2,(zdm b).2.2]
theorem zgO {f:Nat->On} (a:ziR f):Q5 Xb (QD f):=(zdm a).1
theorem zfw {f:Nat->On} (a:ziR f) {k:Nat} (b:k<64):zE (QD f) k=f k:=by rw[(zdm a).2.2,kE b]
theorem zji {f:Nat->On} {l:List Ar} (a:ziR f) (b:Q5 Xb l) (c:∀k,k<64->f k=zE l k):QD f=l:=
 ziz (zgO a) b fun n b=>by rw[zfw a b,c n b]
theorem J.len {f:Nat->On} {n:Nat} {a:List Ar} (i:J f n a):a.length<=n:=by
 have h:∀(l:List Ar) (p:Option Ar) (c:Int),Q5 p l->(∀b,p=Xa b->c<=b.tz)->(p=Xb->c<=0)->(∀d∈l,d.tz<=(n:Int))->c<=n->c+l.length<=n:=by
  intro l
  induction l with
  | nil=>intro p c _ _ _ _ k;simpa using k
  | cons d l m=>
   intro p c e l g j k;have k:=e.1;unfold Zi at k;have k:c<=d.fr:=by
    cases p with
    | none=>have:=g rfl;omega
    | some b=>have:=l b rfl;have:=(e.2.1 b rfl).1;omega
   have g:=m (Xa d) (c+1) e.2.2 (fun b c=>by cases c;omega) (fun c=>by cases c) (fun x e=>j x (by simp[e])) (by have:=j d (by simp);omega)
   rw[Yq];omega
 have:=h a Xb 0 i.1 (fun b c=>by cases c) (fun _=>by omega) i.2.1 (by omega)
 omega
def goJ (x y:On):Bool:=y.is == x.is && y.rd == x.rd && y.wr == x.wr && y.sh == x.sh && decide (y.file=x.file) && decide ((if 0<=x.file then y.page+1 else y.page)=x.page)
theorem zl7 {x y:On}:goJ x y=Xc↔y.is=x.is/\y.rd=x.rd/\y.wr=x.wr/\y.sh=x.sh/\y.file=x.file/\(if 0<=x.file then y.page+1 else y.page)=x.page:=by
 simp[goJ,and_assoc]
theorem zfu:∀(l:List Ar) (p:Option Ar),Q5 p l->∀x∈l,∀y,zac p l=Xa y->x=y\/x.tz<=y.fr
 | [],_,_,_,a,_,_=>by cases a
 | c :: m,p,f,x,a,y,b=>by
  rw[zbY]at b
  rcases mC.1 a with e|a
  ·cases m with
   | nil=>simp[zac]at b;left;rw[e,b]
   | cons d g=>
    right;have h:=f.2.2.2.1 c rfl;have i:=f.2.2.1;unfold zpH at h;unfold Zi at i;rw[e]
    rcases zfu (d :: g) (Xa c) f.2.2 d (by simp) y b with g|g
    ·rw[<-g];exact h.1
    omega
  exact zfu m (Xa c) f.2.2 x a y b
theorem J.last {f:Nat->On} {n:Nat} {a:List Ar} (h:J f (n+1) a) (i:(f n).is=Xc):∃b,a.getLast? =Xa b/\b.tz=(n:Int)+1/\f n=qm b n/\Zi b:=by
 have g:=h.2.2 n;rw[kE (by omega)]at g
 obtain⟨c,c,e,d,k⟩:=QB (l:=a) (n:=n) (by rw[g];exact i)
 have i:=z4.1 d;have d:=mG e;have e:=h.2.1 c d;have j:c.tz=(n:Int)+1:=by omega
 cases e:a.getLast? with
 | none=>rw[List.getLast?_eq_none_iff]at e;rw[e]at d;cases d
 | some y=>
  have m:zac Xb a=Xa y:=by unfold zac;rw[e]
  have i:c=y:=by
   rcases zfu a Xb h.1 c d y m with q|q
   ·exact q
   have a:=h.1.all y (Oh e);have m:=h.2.1 y (Oh e);unfold Zi at a;omega
  subst i;exact⟨c,rfl,j,by rw[<-g,k],h.1.all c d⟩
theorem J.go {f:Nat->On} {n:Nat} {c:List Ar} (i:J f (n+1) c) (l:(f (n+1)).is=Xc):(goJ (f (n+1)) (f n)=Xc->∃b,c.getLast? =Xa b/\goB (zaN (n+1) (f (n+1))) b=Xc)/\(goJ (f (n+1)) (f n)=Xd->∀b,c.getLast? =Xa b->goB (zaN (n+1) (f (n+1))) b=Xd):=by
 constructor
 ·intro k;obtain⟨p,e,g,h,a,d⟩:=zl7.1 k;obtain⟨b,j,v,m,q⟩:=i.last (by rw[p];exact l)
  refine⟨b,j,zdu.2 ?_⟩;unfold zaN;rw[kE l];rw[m]at e g h a d;unfold qm at e g h a d;unfold Zi at q;simp only at e g h a d⊢;refine⟨by omega,e.symm,g.symm,h.symm,a.symm,?_⟩
  rw[<-a]at d
  by_cases a:0<=b.file
  ·rw[kE a,kE a]at d;rw[kE a];omega
  rw[kF a,kF a]at d;rw[kF a];omega
 intro k b r
 cases e:goB (zaN (n+1) (f (n+1))) b with
 | false=>rfl
 | true=>
  exfalso;have d:=zdu.1 e;unfold zaN at d;rw[kE l]at d;simp only at d;obtain⟨e,y,z,A,s,t⟩:=d;have d:=Oh r;have g:=i.1.all b d;have e:=g;unfold Zi at e;have h:(f n).is=Xc:=by
   have p:=i.2.2 n;rw[kE (by omega)]at p
   cases w:(f n).is with
   | true=>rfl
   | false=>
    exfalso;have:∀(e:List Ar),b∈e->(zE e n).is=Xc:=by
     intro e
     induction e with
     | nil=>intro e;cases e
     | cons u g x=>
      intro e
      by_cases g:ZF u n=Xc
      ·rw[zE,kE g];rfl
      rw[zE,kF g]
      rcases mC.1 e with u|e
      ·subst u;exact absurd (z4.2 (by omega)) g
      exact x e
    have:=this c d;rw[p,w]at this;cases this
  obtain⟨c,j,v,m,q⟩:=i.last h;rw[r]at j;cases j;have:goJ (f (n+1)) (f n)=Xc:=by
   rw[zl7,m];unfold qm;simp only;refine⟨l.symm,y.symm,z.symm,A.symm,s.symm,?_⟩;rw[s]
   by_cases a:0<=b.file
   ·rw[kE a]at t;rw[kE a,kE a];omega
   rw[kF a]at t;rw[kF a,kF a];omega
  rw[this]at k;cases k
theorem J.first {f:Nat->On} {a:List Ar} (h:J f 0 a):a=[]:=Yw.1 (by have:=h.len;omega)
def zbN:Option Ar->List Ar->Nat->Int × Int
 | _,[],_=>(0,0)
 | p,a :: l,i=>
  if arW a≠0 then(arW a,i)
  else match p with
   | some b=>if a.fr<b.tz\/goB a b=Xc then(2,i)else zbN (Xa a) l (i+1)
   | none=>zbN (Xa a) l (i+1)
def wrL (l:List Ar):Int × Int:=if 16<l.length then(4,0)else zbN Xb l 0
theorem zcS:∀{l:List Ar} {p:Option Ar} {i:Nat},(zbN p l i).1=0↔Q5 p l
 | [],p,i=>by simp[zbN,Q5]
 | a :: l,p,i=>by
  unfold zbN Q5
  by_cases h:arW a=0
  ·rw[kF (fun c=>c h)]
   cases p with
   | none=>simp[zcS (l:=l),Qp.1 h]
   | some b=>
    simp only
    by_cases c:a.fr<b.tz\/goB a b=Xc
    ·rw[kE c];simp only[Option.some.injEq,forall_eq'];constructor
     ·intro d;exact absurd d (by decide)
     rintro⟨_,⟨d,e⟩,_⟩
     rcases c with c|c
     ·omega
     rw[e]at c;cases c
    rw[kF c,zcS];simp only[Option.some.injEq,forall_eq',Qp.1 h,true_and];constructor
    ·intro d;exact⟨⟨by omega,by cases e:goB a b with | false=>rfl | true=>exact absurd (.inr e) c⟩,d⟩
    exact fun d=>d.2
  rw[kE h];constructor
  ·intro c;exact absurd c h
  intro c;exact absurd (Qp.2 c.1) h
theorem Zo {l:List Ar}:(wrL l).1=0↔l.length<=16/\Q5 Xb l:=by
 unfold wrL
 by_cases h:16<l.length
 ·rw[kE h];constructor
  ·intro a;exact absurd a (by decide)
  intro a;omega
 rw[kF h,zcS];exact⟨fun a=>⟨by omega,a⟩,fun a=>a.2⟩
def zh6 (l:List Ar) (a:Ar):Nat->On:=fun k=>if ZF a k=Xc then qm a k else zE l k
def ziV (s n:Int) (k:Nat):Bool:=decide (s<=(k:Int)) && decide ((k:Int)<s+n)
theorem zjN {n:Int} {k:Nat}:ziV s n k=Xc↔s<=(k:Int)/\(k:Int)<s+n:=by simp[ziV]
def zim (f:Nat->On):List Ar × Int:=if 16< (QD f).length then([],4)else(QD f,0)
def znc (l:List Ar) (s n:Int):Bool:=(Xv 64).any fun k=>ziV s n k &&(zE l k).is
def za6 (l:List Ar) (a:Ar):List Ar × Int:=if(wrL l).1≠0 then([],(wrL l).1)else if arW a≠0 then([],arW a)else if znc l a.fr (a.tz - a.fr)=Xc then([],6)else zim (zh6 l a)
theorem zn1 {l:List Ar} {n:Int}:znc l s n=Xc↔∃k:Nat,k<64/\(s<=(k:Int)/\(k:Int)<s+n)/\(zE l k).is=Xc:=by
 simp[znc,ziV]
theorem zpf {l:List Ar} {n:Int}:znc l s n=Xd↔∀k:Nat,k<64->(s<=(k:Int)/\(k:Int)<s+n)->(zE l k).is=Xd:=by
 simp only[znc,Oq,Xs,Xx,zjN,not_and,Bool.not_eq_true]
theorem zbq {l:List Ar} {a:Ar} (e:Q5 Xb l) (c:Zi a):ziR (zh6 l a):=fun k d=>by
 unfold zh6
 by_cases h:ZF a k=Xc
 ·rw[kE h];exact⟨fun b=>(by cases b),fun _=>zax c h⟩
 rw[kF h];exact e.good k d
theorem zps {f:Nat->On} (h:(zim f).2=0):zim f=(QD f,0)/\(QD f).length<=16:=by
 unfold zim at h⊢
 by_cases a:16< (QD f).length
 ·rw[kE a]at h;exact absurd h (by decide)
 rw[kF a];exact⟨rfl,by omega⟩
theorem zqh {f:Nat->On} (a:ziR f) (h:(QD f).length<=16):(wrL (QD f)).1=0:=Zo.2 ⟨h,zgO a⟩
theorem zh7 {l:List Ar} {a:Ar} (h:(za6 l a).2=0):(wrL l).1=0/\arW a=0/\znc l a.fr (a.tz - a.fr)=Xd/\(QD (zh6 l a)).length<=16/\(za6 l a).1=QD (zh6 l a):=by
 unfold za6 at h⊢
 by_cases b:(wrL l).1=0
 ·rw[kF (fun d=>d b)]at h⊢
  by_cases c:arW a=0
  ·rw[kF (fun d=>d c)]at h⊢
   cases d:znc l a.fr (a.tz - a.fr)with
   | true=>rw[d,kE rfl]at h;exact absurd h (by decide)
   | false=>
    rw[d,kF (by decide)]at h
    rw[kF (by decide)]
    obtain⟨d,e⟩:=zps h;exact⟨b,c,rfl,e,by rw[d]⟩
  rw[kE c]at h;exact absurd h c
 rw[kE b]at h;exact absurd h b
theorem zpS {a b:Ar} (j:Zi b) (i:Zi a) (u:b.tz<=a.fr):decide ((QD (zE [b,a])).length<2)=goB a b:=by
 have c:=i;have f:=j;unfold Zi at c f;have c:ziR (zE [b,a]):=fun k _=>⟨zfk,fun d=>by
  obtain⟨e,g,e,h,l⟩:=QB d;rw[l];have:g=b\/g=a:=by simpa using mG e
  rcases this with g|g <;> subst g
  ·exact zax j h
  exact zax i h⟩
 cases p:goB a b with
 | true=>
  obtain⟨g,q,r,s,t,n⟩:=zdu.1 p;have l:Q5 Xb [{ b with tz:=a.tz }]:=by
   refine⟨?_,fun x g=>(by cases g),trivial⟩
   unfold Zi;simp only;refine⟨by omega,by omega,by omega,by omega,by omega,by omega,f.2.2.2.2.2.2.1,fun h=>?_⟩
   rw[kE h]at n;omega
  rw[zji c l fun k f=>?_]
  ·rfl
  have m:qm { b with tz:=a.tz } k=qm b k:=rfl;simp only[zE]
  by_cases d:ZF b k=Xc
  ·have:=z4.1 d;rw[kE d,kE (z4.2 (by simp only;omega)),m]
  have f:¬(b.fr<=(k:Int)/\(k:Int)<b.tz):=fun h=>d (z4.2 h)
  rw[kF d]
  by_cases e:ZF a k=Xc
  ·have f:=z4.1 e;rw[kE e,kE (z4.2 (by simp only;omega)),m]
   unfold qm;rw[q,r,s,t,n]
   by_cases d:0<=b.file
   ·rw[kE d,kE d,kE d]
    congr 1
    omega
   rw[kF d,kF d]
  have f:¬(a.fr<=(k:Int)/\(k:Int)<a.tz):=fun h=>e (z4.2 h)
  rw[kF e,kF (fun h=>by have:=z4.1 h;simp only at this;omega)]
 | false=>
  have l:Q5 Xb [b,a]:=⟨j,fun x g=>(by cases g),i,fun x g=>(by cases g;exact⟨u,p⟩),trivial⟩
  rw[zji c l fun _ _=>rfl]
  rfl
structure Sp where
 live:Bool
 ars:List Ar
 tb:List (List En)
structure Ca where
 file:Int
 idx:Int
 fr:Int
structure Ma where
 fs:List Fr
 hand:Int
 sl:List Int
 sb:List (List Int)
 sq:List (Int × List Int)
 db:List (List Int)
 dq:List (Int × List Int)
 fl:List Fl
 cnt:Int
 ca:List Ca
 sp:List Sp
def zu:List Int->Int
 | []=>0
 | e :: l=>if e=0 then zu l else e
theorem zn:∀{l:List Int},zu l=0↔∀e∈l,e=0
 | []=>by simp[zu]
 | e :: l=>by
  unfold zu
  by_cases h:e=0
  ·rw[kE h,zn]
   simp[h]
  rw[kF h]
  simp[h]
def zap (m:Ma):Int:=if(Xv m.db.length).any (fun(b:Nat)=>!zU m.fl (b:Int) && !(m.db.getD b [] == zz))=Xc then 7 else 0
def J6 (m:Ma):Int:=if m.dq.any (fun q=>!zU m.fl q.1)=Xc then 7 else 0
def spE (s:Sp):Int:=if(wrL s.ars).1≠0 then(wrL s.ars).1 else if tbW s.tb≠0 then tbW s.tb else if(!s.live &&(!s.ars.isEmpty || !s.tb.all (·.isEmpty)))=Xc then 7 else 0
def zmn (m:Ma):Int:=if m.sl.length≠m.sb.length\/m.cnt≠(m.db.length:Int)then 7 else 0
def J7 (m:Ma):Int:=zu [Qa m.fs m.hand,slW m.sl,zB m.sb.length m.sq,zB m.db.length m.dq,stW m.fl m.cnt,zmn m,zap m,J6 m,if 4<m.sp.length then 4 else 0,zu (m.sp.map spE)]
def bkN (m:Ma) (file:Int):Int:=((m.fl.getD file.toNat ⟨0,[]⟩).bl.length:Nat)
def zW (m:Ma) (k:Int):Fr:=m.fs.getD k.toNat frF
def qg (c:Ca):Int:=100*c.file+c.idx
def caE (m:Ma) (p:Option Ca) (c:Ca):Int:=
 if c.file<0\/(m.fl.length:Int)<=c.file\/c.idx<0\/bkN m c.file<=c.idx\/c.fr<0\/(m.fs.length:Int)<=c.fr then 3
 else if(zW m c.fr).r=0\/(zW m c.fr).f≠c.file\/(zW m c.fr).x≠c.idx then 7
 else match p with | some q=>(if qg c<=qg q then 2 else 0) | none=>0
def zbH (m:Ma):Option Ca->List Ca->Int
 | _,[]=>0
 | p,c :: l=>if caE m p c=0 then zbH m (Xa c) l else caE m p c
def za4 (m:Ma) (x:On) (e:En):Int:=
 if x.is=Xd then 5
 else if e.kind=2 then(if(m.sl.length:Int)<=e.n\/x.sh=Xc then 7 else 0)
 else if(m.fs.length:Int)<=e.n then 3
 else if(¬(zW m e.n).f=-1/\¬(0<=x.file/\(zW m e.n).f=x.file/\(zW m e.n).x=x.page))\/(x.sh=Xc/\¬(0<=x.file/\(zW m e.n).f=x.file/\(zW m e.n).x=x.page))\/(e.wr=Xc/\x.wr=Xd)\/(e.wr=Xc/\(0<=x.file/\(zW m e.n).f=x.file/\(zW m e.n).x=x.page)/\x.sh=Xd)\/(e.wr=Xc/\(zW m e.n).f=-1/\1< (zW m e.n).r)then 7 else 0
def zo (s:Sp) (n:Nat):En:=zaL s.tb (n / 8) (n % 8)
def zgh (m:Ma) (s:Sp):Int:=zu ((Xv 64).map fun n=>if(zo s n).kind=0 then 0 else za4 m (zE s.ars n) (zo s n))
def isE (e:En) (kind k:Int):Bool:=decide (e.kind=kind) && decide (e.n=k)
def Ze (f:Nat->En) (kind k:Int):Nat->Nat
 | 0=>0
 | n+1=>Ze f kind k n+(isE (f n) kind k).toNat
def qO (T:List (Nat->En)) (kind k:Int):Nat:=(T.map fun f=>Ze f kind k 64).sum
def QE (m:Ma) (kind k:Int):Nat:=qO (m.sp.map zo) kind k
def zL (ca:List Ca) (k:Int):Nat:=ca.countP fun c=>decide (c.fr=k)
def frE (m:Ma) (k:Nat):Int:=if(zW m k).r≠((QE m 1 k+zL m.ca k:Nat):Int)\/(0<=(zW m k).f/\zL m.ca k=0)then 7 else 0
def zjR (m:Ma) (k:Nat):Int:=if m.sl.getD k 0≠(QE m 2 k:Int)then 7 else 0
def maW (m:Ma):Int:=zu [J7 m,zbH m Xb m.ca,zu (m.sp.map (zgh m)),zu ((Xv m.fs.length).map (frE m)),zu ((Xv m.sl.length).map (zjR m))]
def qN (f:Nat->En) (n:Nat) (e:En):Nat->En:=fun j=>if j=n then e else f j
theorem zmI (f:Nat->En) {n:Nat} (e) (kind k:Int):∀m:Nat,Ze (qN f n e) kind k m+(if n<m then(isE (f n) kind k).toNat else 0)=Ze f kind k m+(if n<m then(isE e kind k).toNat else 0)
 | 0=>by simp[Ze]
 | m+1=>by
  have b:=zmI f e kind k (n:=n) m;unfold Ze
  by_cases h:n=m
  ·subst h;rw[kF (Nat.lt_irrefl _),kF (Nat.lt_irrefl _)]at b;rw[kE (Nat.lt_succ_self _),kE (Nat.lt_succ_self _)];have:qN f n e n=e:=by unfold qN;rw[kE rfl]
   rw[this];omega
  have:qN f n e m=f m:=by unfold qN;rw[kF (fun a=>h a.symm)]
  rw[this]
  by_cases a:n<m
  ·rw[kE a,kE a]at b;rw[kE (by omega),kE (by omega)]
   omega
  rw[kF a,kF a]at b;rw[kF (by omega),kF (by omega)]
  omega
theorem Ql:∀{T:List (Nat->En)} {p:Nat} {f:Nat->En} {n:Nat} (e:En) (kind k:Int),T[p]? =Xa f->n<64->qO (T.set p (qN f n e)) kind k+(isE (f n) kind k).toNat=qO T kind k+(isE e kind k).toNat
 | [],p,f,n,e,kind,k,h,_=>by simp at h
 | g :: T,0,f,n,e,kind,k,h,a=>by
  simp at h
  subst h;have:=zmI g e kind k (n:=n) 64;rw[kE a,kE a]at this;simp only[sZ,qO,mP,Uc];omega
 | g :: T,p+1,f,n,e,kind,k,h,a=>by
  have b:=Ql (T:=T) (p:=p) (f:=f) (n:=n) e kind k (by simpa using h) a
  simp only[sS,qO,mP,Uc]at b⊢;omega
theorem zmK (f:Nat->En) (kind k:Int):∀m:Nat,Ze f kind k m<=m
 | 0=>nR _
 | m+1=>by
  have:=zmK f kind k m;unfold Ze
  cases isE (f m) kind k <;> simp <;> omega
theorem zb0:∀(T:List (Nat->En)) (kind k:Int),qO T kind k<=64*T.length
 | [],_,_=>by simp[qO]
 | f :: T,kind,k=>by
  have a:=zmK f kind k 64;have a:=zb0 T kind k;simp only[qO,mP,Uc,Yq]at a⊢;omega
theorem jI (kind k:Int) (h:kind≠0):isE en0 kind k=Xd:=by
 have:¬en0.kind=kind:=fun e=>h e.symm
 simp[isE,this]
theorem zcE {T:List (Nat->En)} {p:Nat} {f:Nat->En} {n:Nat} {kind k:Int} (a:T[p]? =Xa f) (c:n<64) (h:isE (f n) kind k=Xc) (b:kind≠0):1<=qO T kind k:=by
 have:=Ql en0 kind k a c;rw[h,jI kind k b]at this
 simp at this
 omega
theorem znY {T:List (Nat->En)} {p q:Nat} {f g:Nat->En} {n:Nat} {kind k:Int} (a:T[p]? =Xa f) (m:n<64) (h:isE (f n) kind k=Xc) (d:T[q]? =Xa g) (l:j<64) (i:isE (g j) kind k=Xc) (c:p≠q\/n≠j) (b:kind≠0):2<=qO T kind k:=by
 have e:=Ql en0 kind k a m;rw[h,jI kind k b]at e
 simp at e
 have m:=(gS.1 a).1
 by_cases e:q=p
 ·subst e;rw[a]at d;cases d;have a:1<=qO (T.set q (qN f n en0)) kind k:=by
   refine zcE (p:=q) (f:=qN f n en0) (n:=j) (sF m) l ?_ b;have:j≠n:=fun e=>(c.resolve_left (fun h=>h rfl)) e.symm
   unfold qN;rw[kF this];exact i
  omega
 have a:1<=qO (T.set p (qN f n en0)) kind k:=zcE (p:=q) (f:=g) (n:=j) (by rw[sN (fun h=>e h.symm)];exact d) l i b
 omega
theorem zbw (T:List (Nat->En)) (kind k:Int) (a:kind≠0):qO (T++ [fun _=>en0]) kind k=qO T kind k:=by
 have:∀m,Ze (fun _=>en0) kind k m=0:=by
  intro m
  induction m with
  | zero=>rfl
  | succ m b=>
   unfold Ze;rw[b,jI kind k a];rfl
 simp[qO,this]
end
section
open Go.RowKit
def zc (w w':Xn):Prop:=Below w.heap.size w w'
theorem zc.refl (w):zc w w:=bR _ _
theorem zc.trans {a b c:Xn} (h:zc a b) (k:zc b c):zc a c:=Below.trans h (k.mono h.size)
def zQ (P:Program) (o:Oper) (a:Act) (w:Xn) (K:Xq->Xn->Prop):Prop:=
 match(execOp a.eval o).run P w with
 | .ok (.value v) w'=>K v w'
 | .ok .skip w'=>K undef w'
 | .ok (.enter f args) w'=>Xp P f args w' fun e w''=>∃v,e= Xl v/\K v w''
 | _=>False
theorem zQ.wp {P:Program} {a:Act} {w:Xn} {K:Xq->Xn->Prop} {next:Act->Xn->Prop}
  (h:zQ P o a w K) (b:∀v w',K v w'->next (a.put o.dst v) w'):o.wp P a w next Q:=by
 unfold zQ at h;unfold Oper.wp
 generalize(execOp a.eval o).run P w=r at*
 cases r with
 | ok n w'=>
  cases n <;> simp only[Oper.upon]at h⊢
  case value v=>exact b _ _ h
  case skip=>exact b _ _ h
  case enter f c=>exact h.mono fun e c ⟨v,c,d⟩=>by subst c;exact b _ _ d
 | halt x w'=>simp only at h
def zkF (ops:Array Oper) (i j:Nat):Bool:=((ops[j]?).map fun o=>o.after.any fun e=>Ge .any e && e.on == i).getD Xd
def anc (ops:Array Oper):Nat->Nat->Nat->Bool
 | 0,_,_=>Xd
 | f+1,i,j=>zkF ops i j || (Xv j).any fun k=>zkF ops k j && anc ops f i k
theorem zQ.mono {P:Program} {a:Act} {w:Xn} {K c:Xq->Xn->Prop} (h:zQ P o a w K) (b:∀v w',K v w'->c v w'):zQ P o a w c:=by
 unfold zQ at*
 generalize(execOp a.eval o).run P w=r at*
 cases r with
 | ok n w'=>
  cases n <;> simp only at h⊢
  case value v=>exact b _ _ h
  case skip=>exact b _ _ h
  case enter f c=>exact h.mono fun e c ⟨v,c,d⟩=>⟨v,c,b _ _ d⟩
 | halt x w'=>simp only at h
def zdv (F:Nat->Xn->Prop) (k:Nat) (p:Xn->Prop):Nat->Xn->Prop:=fun i=>if i=k then p else F i
section
variable{P:Program} {ops:Array Oper} {T:Nat}
theorem Qs {F:Nat->Xn->Prop} {k m:Nat} {p:Xn->Prop} (h:m≠k):zdv F k p m=F m:=by simp[zdv,h]
theorem zma {F:Nat->Xn->Prop} {i:Nat} {p q:Xn->Prop} (h:i≠j):zdv (zdv F i p) j q=zdv (zdv F j q) i p:=by
 funext m
 simp only[zdv]
 by_cases a:m=j
 ·by_cases b:m=i
  ·omega
  simp[a];intro b;omega
 simp[a]
theorem zdF {i:Nat} (a:ops[j]? =Xa o):zkF ops i j=Xc↔∃e∈o.after,Ge .any e=Xc/\e.on=i:=by
 unfold zkF;rw[a,Option.map_some,Option.getD_some,Array.any_eq_true'];simp
theorem zg4 {i:Nat} (h:zkF ops i j=Xc):∃a,ops[j]? =Xa a:=by
 cases b:ops[j]? with
 | none=>simp[zkF,b]at h
 | some a=>exact⟨a,rfl⟩
def zhg (ops:Array Oper) (listed:Array Bool):Prop:=∀i j,listed.getD j Xd=Xc->zkF ops i j=Xc->listed.getD i Xd=Xc
theorem Jm {a:Array Bool} (b:zhg ops a):∀(f i j:Nat),(∀k,zkF ops k j=Xc->a.getD k Xd=Xc)->anc ops f i j=Xc->a.getD i Xd=Xc
 | 0,_,_,_,h=>by simp[anc]at h
 | f+1,i,j,c,h=>by
  simp only[anc,Ow,Yg,Xs,Xx]at h
  rcases h with h|⟨k,_,a,h⟩
  ·exact c i h
  exact Jm b f i k (fun m d=>b m k (c k a) d) h
theorem zai {a:Array Bool} {i:Nat} (h:a.getD i Xc=Xd):a.getD i Xd=Xd:=by
 rcases Yp i a.size with a | a
 ·simp[a]at h⊢;exact h
 simp[Array.getElem?_eq_none a]at h
end
def Q8 (ops:Array Oper) (T:Nat):Bool:=
 Region.noSelect ops && decide (T<=ops.size) &&(Xv ops.size).all fun j=>match ops[j]? with
  | none=>Xd
  | some oj=>oj.after.all (fun e=>!Ge .any e || decide (e.on<j)) &&
    (if j<T then(Xv j).all fun i=>zkF ops i j || (match ops[i]? with | some oi=>oi.apart ops oj | none=>Xd)else(Xv j).all fun i=>anc ops j i j)
def qa (listed:Array Bool) (T:Nat):List Nat:=(Xv T).filter fun i=>listed.getD i Xc == Xd
section
variable{P:Program} {ops:Array Oper} {T:Nat}
theorem zay (b:Q8 ops T=Xc) (a:ops[j]? =Xa oj):∀i,zkF ops i j=Xc->i<j:=by
 simp only[Q8,Xx,Yk,Xs]at b;have h:=b.2 j (aS.1 a).1;simp only[a,Xx]at h;intro i d;obtain⟨e,c,b,rfl⟩:=(zdF a).1 d;have:=Array.all_eq_true_iff_forall_mem.1 h.1 e c
 simpa [b]using this
theorem zh9 (a:Q8 ops T=Xc) (c:ops[j]? =Xa oj) (d:j<T):∀i,i<j->zkF ops i j=Xc\/∃b,ops[i]? =Xa b/\b.apart ops oj=Xc:=by
 simp only[Q8,Xx,Yk,Xs]at a;have h:=a.2 j (aS.1 c).1;simp only[c,Xx,kE d,Yk,Xs]at h;intro i a;have:=h.2 i a;rw[Ow]at this
 rcases this with a|a
 ·exact Or.inl a
 right
 cases c:ops[i]? with
 | none=>simp[c]at a
 | some b=>simp only[c]at a;exact⟨b,rfl,a⟩
theorem zew (a:Q8 ops T=Xc) (b:ops[j]? =Xa oj) (c:T<=j):∀i,i<j->anc ops j i j=Xc:=by
 simp only[Q8,Xx,Yk,Xs]at a;have h:=a.2 j (aS.1 b).1;simp only[b,Xx,kF (Nat.not_lt.2 c),Yk,Xs]at h;exact h.2
theorem zmW (a:Q8 ops T=Xc):∀(f i j:Nat),anc ops f i j=Xc->i<j
 | 0,_,_,h=>by simp[anc]at h
 | f+1,i,j,h=>by
  simp only[anc,Ow,Yg,Xs,Xx]at h
  rcases h with h|⟨k,b,_,h⟩
  ·obtain⟨oj,b⟩:=zg4 h;exact zay a b i h
  have:=zmW a f i k h;omega
theorem zbc {a:Array Bool} (b:j<a.size):qa (a.setIfInBounds j Xc) T=(qa a T).filter (· != j):=by
 unfold qa;rw[Gb];refine List.filter_congr fun i a=>?_
 by_cases h:j=i
 ·subst h
  simp[b]
 rw[getD_set_ne Xc h];have:(i != j)=Xc:=by simpa using Ne.symm h
 rw[this,Bool.true_and]
theorem zie {a:Array Bool} {i:Nat} (hi:i<a.size) (h:a.getD i Xc=Xc):a.getD i Xd=Xc:=by
 simp[hi]at h⊢;exact h
theorem zjM (z:Q8 ops T=Xc):∀(m:Nat) (l:List Oper) (k:Nat) (b:Array Bool) (a:Act) (w:Xn),T<=k->b.size=ops.size->k+m=ops.size->l.length=m->(∀j,l[j]? =ops[k+j]?)->
  (∀i,i<k->b.getD i Xc=Xc)->(∀i,k<=i->i<ops.size->b.getD i Xc=Xd)->wpList P ops Q l a w->wpAny P .any ops Q m b a w:=by
 intro m
 induction m with
 | zero=>
  intro l k b a w n v p x g d c h;have:l=[]:=eN x;subst this;refine⟨?_,h⟩
  cases s:Uh .any ops b with
  | nil=>rfl
  | cons f e=>
   have t:f∈Uh .any ops b:=by rw[s];simp
   obtain⟨r,e,q,_⟩:=mem_ready.1 t;have t:=(aS.1 q).1;rw[d f (by omega)]at r
   cases r
 | succ m F=>
  intro l k b a w n v p x g d c h;obtain⟨e,q,rfl⟩:∃e q,l=e :: q:=by
   cases l with
   | nil=>simp at x
   | cons e q=>exact⟨e,q,rfl⟩
  have f:ops[k]? =Xa e:=by have:=g 0;simpa using this.symm
  have p:k∈Uh .any ops b:=by
   refine mem_ready.2 ⟨c k (nR _) (by omega),e,f,fun n B A=>?_⟩
   have t:=zay z f n.on ((zdF f).2 ⟨n,B,A,rfl⟩);exact zie (by omega) (d n.on t)
  refine⟨fun s=>?_,fun j u=>?_⟩
  ·rw[s]at p;cases p
  obtain⟨r,e,e,s⟩:=mem_ready.1 u;have p:=(aS.1 e).1;have p:k<=j:=by
   rcases Yp j k with p|p
   ·rw[d j p]at r;cases r
   exact p
  have C:j=k:=by
   rcases Yp k j with p|p
   ·exfalso;have D:=zew z e (by omega) k p
    have E:zhg ops b:=fun i p y r=>by
     obtain⟨u,u⟩:=zg4 r;have t:=zay z u i r;have r:p<k:=by
      rcases Yp p k with r|r
      ·exact r
      have:=zai (c p r (aS.1 u).1);rw[this]at y;cases y
     exact zie (by omega) (d i (by omega))
    have:=Jm E j k j (fun p y=>by
     obtain⟨n,B,A,rfl⟩:=(zdF e).1 y;exact s n B A) D
    rw[zai (c k (nR _) (by omega))]at this
    cases this
   omega
  subst C;rw[f]at e;cases e;unfold wpList at h;unfold wpOp;simp only[f];have e:∀a w,wpList P ops Q q a w->wpAny P .any ops Q m (b.setIfInBounds j Xc) a w:=fun a w f=>
   F q (j+1) _ a w (by omega) (by simp[v]) (by omega) (by simpa using x) (fun p=>by have:=g (p+1);rw[Ue]at this;rw[this];congr 1;omega)
    (fun i g=>by
     by_cases n:j=i
     ·subst n
      simp[show j<b.size by omega]
     rw[getD_set_ne Xc n];exact d i (by omega))
    (fun i g b=>by rw[getD_set_ne Xc (by omega)];exact c i (by omega) b) f
  split
  ·rename_i b
   rw[kE b]at h
   rcases h with h|h
   ·exact .inl (Oper.wp_mono e h)
   exact .inr h
  rename_i b
  rw[kF b]at h;exact e _ _ h
structure Way {σ:Type} (P:Program) (ops:Array Oper) (C:Nat->σ->Act->(σ->Act->Prop)->Prop) (Ln:Nat->σ->Prop) (ok:Array Bool->σ->Act->Xn->Prop):Prop where
 mono:∀{i:Nat} {F:σ} {a:Act} {K K':σ->Act->Prop},(∀F' a',(∀j,anc ops 9 i j=Xd->Ln j F->Ln j F')->K F' a'->K' F' a')->C i F a K->C i F a K'
 swap:∀{i j:Nat} {oi oj:Oper} {F:σ} {a:Act} {K:σ->Act->Prop},ops[i]? =Xa oi->ops[j]? =Xa oj->i<j->oi.apart ops oj=Xc->(∀cs b,oi.op≠.select cs b)->(∀cs b,oj.op≠.select cs b)->anc ops 9 i j=Xd->anc ops 9 j i=Xd->Ln j F->C i F a (fun F' a'=>C j F' a' K)->C j F a fun F' a'=>C i F' a' K
 lean:∀{listed:Array Bool} {F:σ} {a:Act} {w:Xn} (j:Nat),ok listed F a w->Ln j F
 step:∀{listed:Array Bool} {F:σ} {a:Act} {w:Xn} {j:Nat} {oj:Oper} {K:σ->Act->Prop} {N:Act->Xn->Prop} {Q:Exit->Act->Xn->Prop},listed.size=ops.size->ops[j]? =Xa oj->listed.getD j Xc=Xd->zhg ops listed->ok listed F a w->C j F a K->
  (∀F' a' w',ok (listed.setIfInBounds j Xc) F' a' w'->K F' a'->N a' w')->if Xu oj (yielded ops a.tmps)then oj.wp P a w N Q else N (a.put oj.dst undef) w
section
variable{σ:Type} {C:Nat->σ->Act->(σ->Act->Prop)->Prop} {Ln:Nat->σ->Prop} {ok:Array Bool->σ->Act->Xn->Prop} {E:σ->Act->Prop}
variable(C E)in
def Lex:List Nat->σ->Act->Prop
 | [],F,a=>E F a
 | i :: l,F,a=>C i F a (Lex l)
theorem Lex.commute (W:Way P ops C Ln ok) {j:Nat} {oj:Oper} (t:ops[j]? =Xa oj) (d:∀(k:Nat) (o:Oper) cs b,ops[k]? =Xa o->o.op≠.select cs b):
  ∀(l:List Nat) (F:σ) (a:Act),l.Nodup->j∈l->
   (∀i∈l,i≠j->∃r,ops[i]? =Xa r/\(i<j->r.apart ops oj=Xc)/\anc ops 9 i j=Xd/\(i<j->anc ops 9 j i=Xd))->
   (l.Pairwise (·< ·))->Ln j F->Lex C E l F a->Lex C E (j :: l.filter (· != j)) F a
 | [],_,_,_,h,_,_,_,_=>by cases h
 | i :: l,F,a,p,h,g,c,v,u=>by
  by_cases e:i=j
  ·subst e;have:(i :: l).filter (· != i)=l:=by
    rw[List.filter_cons];simp only[bne_self_eq_false,Yz,if_false];refine Uv.2 fun x m=>?_
    have:x≠i:=fun f=>(Ok.1 p).1 (f ▸ m)
    simpa using this
   rw[this];exact u
  have n:j∈l:=by
   rcases mC.1 h with f|f
   ·exact absurd f.symm e
   exact f
  have h:=(Yf.1 c).1 j n;obtain⟨r,q,s,f,m⟩:=g i (by simp) e
  have w:(i :: l).filter (· != j)=i :: l.filter (· != j):=by
   rw[List.filter_cons];have:(i != j)=Xc:=by simpa using e
   simp[this]
  rw[w];refine W.swap q t h (s h) (fun cs b=>d i r cs b q) (fun cs b=>d j oj cs b t) f (m h) v ?_
  refine W.mono (fun h m e q=>?_) u
  exact Lex.commute W t d l h m (Ok.1 p).2 n (fun k d=>g k (by simp[d])) (Yf.1 c).2 (e j f v) q
theorem zf8 (W:Way P ops C Ln ok) {Q':Exit->Act->Xn->Prop} {l:List Oper} {m:Nat} (p:Q8 ops T=Xc) (f:T+m=ops.size) (h:l.length=m) (e:∀j,l[j]? =ops[T+j]?) (n:∀b F a w,ok b F a w->E F a->wpList P ops Q' l a w):
  ∀(d:Nat) (b:Array Bool) (F:σ) (a:Act) (w:Xn),b.size=ops.size->(∀i,T<=i->i<ops.size->b.getD i Xc=Xd)->(qa b T).length=d->zhg ops b->ok b F a w->
   Lex C E (qa b T) F a->wpAny P .any ops Q' (d+m) b a w:=by
 have A:=Region.noSelect_spec (ops:=ops) (by simp only[Q8,Xx]at p;exact p.1.1)
 intro d
 induction d with
 | zero=>
  intro b F a w k g z v G D;have c:=eN z;rw[c]at D;rw[zA];refine zjM p m l T b a w (nR _) k f h e (fun i y=>?_) g (n _ _ _ _ G D)
  cases f:b.getD i Xc with
  | true=>rfl
  | false=>
   have:i∈qa b T:=Xz.2 ⟨Xs.2 y,by simp only[f,beq_self_eq_true]⟩
   rw[c]at this;cases this
 | succ d R=>
  intro b F a w k g z v G D;rw[Nat.add_right_comm];refine⟨fun u=>?_,fun j H=>?_⟩
  ·exfalso
   cases s:qa b T with
   | nil=>simp[s]at z
   | cons x S=>
    have K:x∈qa b T:=by rw[s];simp
    have h:=Xz.1 K;have L:=Xs.1 h.1;have c:x<ops.size:=by omega
    have t:=Ys c;have c:(qa b T).Pairwise (·< ·):=List.Pairwise.filter _ Ui;have:x∈Uh .any ops b:=by
     refine mem_ready.2 ⟨by simpa using h.2,ops[x],t,fun r q B=>?_⟩
     have e:zkF ops r.on x=Xc:=(zdF t).2 ⟨r,q,B,rfl⟩;have n:=zay p t _ e
     cases f:b.getD r.on Xc with
     | true=>exact zie (by omega) f
     | false=>
      have e:r.on∈qa b T:=Xz.2 ⟨Xs.2 (by omega),by simp only[f,beq_self_eq_true]⟩
      rw[s]at e c
      rcases mC.1 e with e|e
      ·omega
      have:=(Yf.1 c).1 _ e;omega
    rw[u]at this;cases this
  obtain⟨M,e,e,u⟩:=mem_ready.1 H;have f:=(aS.1 e).1;have f:∀t,zkF ops t j=Xc->b.getD t Xd=Xc:=fun t H=>by
   obtain⟨r,q,B,rfl⟩:=(zdF e).1 H;exact u r q B
  have u:j<T:=by
   rcases Yp j T with r|r
   ·exact r
   exfalso
   cases s:qa b T with
   | nil=>simp[s]at z
   | cons x S=>
    have K:x∈qa b T:=by rw[s];simp
    have h:=Xz.1 K;have L:=Xs.1 h.1;have:=Jm v j x j f (zew p e r x (by omega))
    rw[zai (by simpa using h.2)]at this
    cases this
  have x:j∈qa b T:=Xz.2 ⟨Xs.2 u,by simp only[M,beq_self_eq_true]⟩
  have z:(qa b T).Nodup:=List.Pairwise.filter _ List.nodup_range;have c:(qa b T).Pairwise (·< ·):=List.Pairwise.filter _ Ui;have s:=Lex.commute W e A (qa b T) F a z x (fun i y h=>by
   have h:=Xz.1 y;have B:b.getD i Xd=Xd:=zai (by simpa using h.2)
   have K:i<ops.size:=by have:=Xs.1 h.1;omega
   have A:=Ys K;refine⟨ops[i],A,fun n=>?_,?_,fun n=>?_⟩
   ·rcases zh9 p e u i n with q|⟨n,n,u⟩
    ·have:=f i q;rw[B]at this;cases this
    rw[A]at n;cases n;exact u
   ·cases n:anc ops 9 i j with
    | false=>rfl
    | true=>
     have:=Jm v 9 i j f n;rw[B]at this;cases this
   cases n:anc ops 9 j i with
   | false=>rfl
   | true=>
    have:=zmW p 9 j i n
    omega) c (W.lean j G) D
  have p:(b.setIfInBounds j Xc).size=ops.size:=by simp[k]
  have n:∀i,T<=i->i<ops.size->(b.setIfInBounds j Xc).getD i Xc=Xd:=fun i y h=>by rw[getD_set_ne Xc (by omega)];exact g i y h
  have g:(qa (b.setIfInBounds j Xc) T).length=d:=by
   rw[zbc (by omega)]
   have q:(qa b T).filter (· != j)=(qa b T).erase j:=by
    rw[List.Nodup.erase_eq_filter z]
   rw[q,Ud x];omega
  have q:zhg ops (b.setIfInBounds j Xc):=fun i t H c=>by
   by_cases h:j=t
   ·subst h;exact getD_set_true (f i c)
   rw[getD_set_ne Xd h]at H;exact getD_set_true (v i t H c)
  rw[<-zbc (by omega)]at s
  have c:=W.step (Q:=Q') (N:=wpAny P .any ops Q' (d+m) (b.setIfInBounds j Xc)) k e M v G s fun b d h r f=>R _ b d h p n g q r f
  unfold wpOp;simp only[e]
  split
  ·rename_i b
   rw[kE b]at c;exact .inl c
  rename_i b
  rw[kF b]at c;exact c
variable(ops C E)in
structure zhs (l:List Oper) (k:Nat) (F:σ) (a:Act):Prop where
 out:(∀j,l[j]? =ops[k+j]?\/l.length<=j)->Lex C E (List.range' k l.length) F a
theorem zhs.cons {rest:List Oper} {k:Nat} {F:σ} {a:Act} (c:∀{i:Nat} {F:σ} {a:Act} {K b:σ->Act->Prop},(∀d f,K d f->b d f)->C i F a K->C i F a b) (h:ops[k]? =Xa o->C k F a (zhs ops C E rest (k+1))):zhs ops C E (o :: rest) k F a:=⟨fun g=>by
 have l:ops[k]? =Xa o:=by
  rcases g 0 with e|e
  ·simpa using e.symm
  simp at e
 have b:∀j,rest[j]? =ops[k+1+j]?\/rest.length<=j:=fun j=>by
  rcases g (j+1)with e|e
  ·left;rw[Ue]at e;rw[e];congr 1;omega
  right;simpa using e
 exact c (fun d f c=>c.out b) (h l)⟩
theorem zhG {a:Act} {w:Xn} {L l r:List Oper} {F:σ} (W:Way P L.toArray C Ln ok) (T:Nat) (e:P.follows .mixedOrders=Xc) (p:Q8 L.toArray T=Xc) (g:L.take T=l) (h:L.drop T=r) (d:T<=L.length) (n:∀b:Array Bool,ok b F a w.drew)
  (q:∀b F a w,ok b F a w->E F a->wpList P L.toArray Q r a w) (c:zhs L.toArray C E l 0 F a):(Code.region id L.toArray Xc).wp P Q a w:=by
 have b:l.length=T:=by rw[<-g,Uf];omega
 have d:r.length=L.length - T:=by rw[<-h,List.length_drop]
 refine wp_region_any e ?_;have k:qa (Array.replicate L.toArray.size Xd) T=Xv T:=by
  unfold qa;refine Uv.2 fun i f=>?_
  have:i<T:=by simpa using f
  simp[show i<L.length by omega]
 have e:=c.out (fun j=>by
  rcases Yp j T with c|c
  ·left;rw[<-g,List.getElem?_take_of_lt c];simp
  right;omega)
 rw[b,<-Ut]at e;have b:=zf8 (E:=E) W (T:=T) (l:=r) (m:=L.length - T) (Q':=Q) p (by simp;omega) d (fun j=>by rw[<-h,Gc];simp) q
  T (Array.replicate L.toArray.size Xd) F a w.drew (by simp) (fun i f d=>by simp at d;simp[d]) (by rw[k];simp) (fun i j c _=>by
   exfalso;rw[Array.getD_eq_getD_getElem?,Array.getElem?_replicate]at c
   split at c <;> simp at c)
  (n _) (by rw[k];exact e)
 have c:T+(L.length - T)=L.toArray.size:=by simp;omega
 rw[c]at b;exact b
end
end
theorem JA {α:Type}:∀{S:List (Nat × α)} {k:Nat} {s:α},S.lookup k=Xa s->∃x∈S,x.2=s/\x.1=k
 | [],k,s,h=>by simp at h
 | x :: S,k,s,h=>by
  rw[List.lookup_cons]at h
  split at h
  ·rename_i a
   exact⟨x,by simp,by simpa using h,(by simpa using a:k=x.1).symm⟩
  obtain⟨y,b,a⟩:=JA h;exact⟨y,by simp[b],a⟩
structure zl (w0:Xn) where
 world:Xn
 grew:zc w0 world
def zng (o:Oper):Bool:=
 match o.op with
 | .move _ | .assign _ | .pick .. | .build .. | .load .. | .binOp .. | .unOp .. | .convert .. | .fieldAddr .. | .field .. | .indexAddr .. | .index .. | .extract .. | .slice .. | .lookup ..=>Xc
 | .call { callee:= .builtin .len,.. } | .call { callee:= .builtin .cap,.. } | .call { callee:= .builtin .max,.. } | .call { callee:= .builtin .min,.. }=>Xc
 | _=>Xd
theorem zbP {P:Program} {α:Type} {s:Sem α} {g:α->Xq} {w:Xn} {n:Next}:(s >>= fun v=>pure (Next.value (g v))).run P w= .ok n w'->∃v,n= .value v:=by
 intro h;rw[Yd]at h
 cases a:s.run P w with
 | ok x b=>simp[a,Result.andThen,Yi]at h;exact⟨_,h.1.symm⟩
 | halt x b=>simp[a,Result.andThen]at h
structure zh (I:Xn->Prop) where
 world:Xn
 holds:I world
section
variable{P:Program} {o:Oper} {a:Act}
theorem zjO (ht:zng o=Xc) {a:Operand->Xq} {w w':Xn} {n:Next}:(execOp a o).run P w= .ok n w'->∃v,n= .value v:=by
 obtain⟨a,b,a,a,a,a⟩:=o
 cases b <;> simp only[zng,Yz]at ht <;> simp only[execOp]
 all_goals first
  | exact zbP (g:=id)
  | exact zbP
  | (intro h;simp[Yi]at h;exact⟨_,h.1.symm⟩)
  | skip
 rename_i c
 obtain⟨a,b,b⟩:=c
 cases a with
 | value _=>simp at ht
 | invoke _ _=>simp at ht
 | builtin b=>
  cases b <;> simp only[Yz]at ht <;> simp only[resolve,pure_bind,invoke,builtin] <;> exact zbP (g:=id)
theorem zbh (ht:zng o=Xc) {U:Xn->Prop} {K:Act->Prop} (h:o.quiet P a U K):∃v,(∀w,U w->(execOp a.eval o).run P w= .ok (.value v) w)/\K (a.put o.dst v):=by
 obtain⟨v,c,b⟩:=h;refine⟨v,fun w d=>?_,b⟩
 have b:=c w d;unfold Oper.quietAt at b;have c:=fun n e=>@zjO P o ht a.eval w e n
 generalize(execOp a.eval o).run P w=r at*
 cases r with
 | ok n e=>
  cases n <;> simp only[Oper.quietUpon]at b
  case value u=>rw[b.1,b.2]
  case skip=>obtain⟨_,d⟩:=c _ _ rfl;cases d
  case enter f f=>obtain⟨_,d⟩:=c _ _ rfl;cases d
 | halt x e=>simp only[Oper.quietUpon]at b
theorem zi3 {w:Xn} (x p) (b:o.op= .nilCheck x) (c:a.eval x= Xj (Xa p)):(execOp a.eval o).run P w= .ok (.value (Xj (Xa p))) w:=by
 simp[execOp,b,c]
theorem zQ.call {w:Xn} {K:Xq->Xn->Prop} {f:FuncId} {xs:List Operand} {ts:Array TypeId} {fn:Func} (args)
  (ho : o.op = .call { callee := .value (.func f), args := xs.toArray, argTypes := ts }) (hf : P.funcs[f]? = some fn) (hb : fn.body.isNone = false) (hn : (fn.name == "runtime.NumGoroutine") = false)
  (ha:xs.map a.eval=args) (h:Xp P f args.toArray w fun e w'=>∃v,e= Xl v/\K v w'):zQ P o a w K:=by
 have hr:(execOp a.eval o).run P w= .ok (.enter f args.toArray) w:=by
  have he : a.eval (.func f) = .func (.func f) #[] #[] := rfl;simp only [execOp, ho, resolve, he, List.map_toArray, ha, Deferred.ofValue, pure_bind, invoke];have hn' : fn.name ≠ "runtime.NumGoroutine" := by simpa using hn
  have hb':fn.body≠Xb:=fun e=>by rw[e]at hb;cases hb
  simp[callFunc,hf,hb',hn',program,Yd,Sem.run]
 unfold zQ;rw[hr];exact h
end
structure zfU where
 arg:Operand
 pv:Xq->Prop
 post:Xq->Xq->Xn->Prop
 step:Xn->Xn->Prop
 pre:Xn->Prop:=fun _=>True
section
variable(I:Xn->Prop) (P:Program) (ops:Array Oper) (S:Nat->Option zfU)
def jH (i:Nat) (F:Nat->Xn->Prop) (a:Act) (K:(Nat->Xn->Prop)->Act->Prop):Prop:=
 match ops[i]? with
 | none=>False
 | some o=>
  if Xu o (yielded ops a.tmps)then
   match S i with
   | none=>∃v,(∀w,I w->(∀m,anc ops 9 m i=Xc->F m w)->(execOp a.eval o).run P w= .ok (.value v) w)/\K F (a.put o.dst v)
   | some s=>(∀w,I w->s.pre w->(∀m,anc ops 9 m i=Xc->F m w)->zQ P o a w fun v w'=>I w'/\s.step w w'/\s.pv v/\s.post (a.eval s.arg) v w')/\∀v,s.pv v->K (zdv F i (s.post (a.eval s.arg) v)) (a.put o.dst v)
  else K F (a.put o.dst undef)
end
section
variable{I:Xn->Prop} {P:Program} {ops:Array Oper} {S:Nat->Option zfU} {J:Act->Xn->Prop}
theorem jH.mono {i:Nat} {F:Nat->Xn->Prop} {a:Act} {K d:(Nat->Xn->Prop)->Act->Prop}
  (h:∀c e,(∀m,m≠i->c m=F m)->K c e->d c e) (b:jH I P ops S i F a K):jH I P ops S i F a d:=by
 unfold jH at*
 split
 ·rename_i c;simp only[c]at b
 rename_i d c
 simp only[c]at b
 split
 ·rename_i d
  simp only[d,if_true]at b
  split
  ·rename_i c
   simp only[c]at b;obtain⟨v,e,f⟩:=b;exact⟨v,e,h _ _ (fun _ _=>rfl) f⟩
  rename_i s c
  simp only[c]at b;exact⟨b.1,fun v e=>h _ _ (fun m c=>Qs c) (b.2 v e)⟩
 rename_i d
 simp only[d]at b;exact h _ _ (fun _ _=>rfl) b
theorem jH.swap {i:Nat} {c:Oper} {F:Nat->Xn->Prop} {a:Act} {K:(Nat->Xn->Prop)->Act->Prop} {w:Xn}
  (hi:ops[i]? =Xa c) (y:ops[j]? =Xa oj) (E:i≠j) (n:c.apart ops oj=Xc)
  (p:∀cs b,c.op≠.select cs b) (r:∀cs b,oj.op≠.select cs b)
  (u:∀k s o,S k=Xa s->ops[k]? =Xa o->∀d,s.arg= .tmp d->d∈o.looksAt ops) (q:anc ops 9 i j=Xd) (l:anc ops 9 j i=Xd) (hS:∀s,S i=Xa s->∃v,s.pv v)
  (B:I w) (H:∀m,anc ops 9 m j=Xc->F m w)
  (h:jH I P ops S i F a fun e f=>jH I P ops S j e f K):jH I P ops S j F a fun e f=>jH I P ops S i e f K:=by
 obtain⟨f,G,g⟩:=Oper.apart_spec n;have t:∀v,execOp (a.put oj.dst v).eval c=execOp a.eval c:=fun v=>execOp_put c p a oj.dst v g
 have x:∀v,execOp (a.put c.dst v).eval oj=execOp a.eval oj:=fun v=>execOp_put oj r a c.dst v f
 have M:∀v,Xu c (yielded ops (a.put oj.dst v).tmps)=Xu c (yielded ops a.tmps):=fun v=>wanted_put c a oj.dst v g
 have N:∀v,Xu oj (yielded ops (a.put c.dst v).tmps)=Xu oj (yielded ops a.tmps):=fun v=>wanted_put oj a c.dst v f
 have z:∀v w K,zQ P c (a.put oj.dst v) w K=zQ P c a w K:=fun v w K=>by unfold zQ;rw[t]
 have A:∀v w K,zQ P oj (a.put c.dst v) w K=zQ P oj a w K:=fun v w K=>by unfold zQ;rw[x]
 have C:∀v s,S i=Xa s->(a.put oj.dst v).eval s.arg=a.eval s.arg:=fun v s p=>Act.eval_put fun d n e=>g d n (u i s c p hi d e)
 have D:∀v s,S j=Xa s->(a.put c.dst v).eval s.arg=a.eval s.arg:=fun v s p=>Act.eval_put fun d n e=>f d n (u j s oj p y d e)
 have L:∀v u,(a.put c.dst v).put oj.dst u=(a.put oj.dst u).put c.dst v:=fun v u=>Act.put_comm a v u G
 have u:∀n,(fun m=>anc ops 9 m i=Xc->zdv F j n m w=F m w)=fun _=>True:=fun n=>by
  funext m
  simp only[eq_iff_iff,iff_true];intro e;rw[Qs (fun f=>by subst f;rw[l]at e;cases e)]
 have p:∀n g,(∀m,anc ops 9 m i=Xc->zdv F j n m g)↔(∀m,anc ops 9 m i=Xc->F m g):=fun n g=>by
  constructor <;> intro r m e <;> have:=r m e
  ·rwa [Qs (fun f=>by subst f;rw[l]at e;cases e)]at this
  rwa [Qs (fun f=>by subst f;rw[l]at e;cases e)]
 have l:∀n g,(∀m,anc ops 9 m j=Xc->zdv F i n m g)↔(∀m,anc ops 9 m j=Xc->F m g):=fun n g=>by
  constructor <;> intro r m e <;> have:=r m e
  ·rwa [Qs (fun f=>by subst f;rw[q]at e;cases e)]at this
  rwa [Qs (fun f=>by subst f;rw[q]at e;cases e)]
 clear u;unfold jH at h⊢;simp only[hi,y,t,x,M,N,z,A,L]at h⊢
 cases e:Xu c (yielded ops a.tmps) <;> cases c:Xu oj (yielded ops a.tmps) <;>
  simp only[e,c,if_true,if_false,Yz]at h⊢
 ·exact h
 ·cases c:S j with
  | none=>simp only[c]at h⊢;exact h
  | some s=>simp only[c,D _ s c]at h⊢;exact h
 ·cases e:S i with
  | none=>simp only[e]at h⊢;exact h
  | some s=>simp only[e,C _ s e]at h⊢;exact h
 cases e:S i with
 | none=>
  simp only[e]at h;obtain⟨x,r,h⟩:=h
  cases c:S j with
  | none=>
   simp only[c]at h⊢;obtain⟨u,n,h⟩:=h;exact⟨u,n,x,r,h⟩
  | some s=>
   simp only[c,D _ s c]at h⊢;exact⟨h.1,fun u t=>⟨x,fun g f q=>r g f ((p _ _).1 q),h.2 u t⟩⟩
 | some G=>
  simp only[e]at h;obtain⟨y,h⟩:=h;obtain⟨L,A⟩:=hS G e
  cases c:S j with
  | none=>
   simp only[c,C _ G e]at h⊢;obtain⟨u,n,_⟩:=h L A;refine⟨u,fun g f q=>n g f ((l _ _).2 q),y,fun x r=>?_⟩
   obtain⟨z,z,N⟩:=h x r;have M:=n w B ((l _ _).2 H);have n:=z w B ((l _ _).2 H);rw[M]at n;simp only[Result.ok.injEq,Next.value.injEq,and_true]at n;subst n;exact N
  | some n=>
   simp only[c,D _ n c,C _ G e]at h⊢;refine⟨fun g f c q=>(h L A).1 g f c ((l _ _).2 q),fun u t=>⟨fun g f c q=>y g f c ((p _ _).1 q),fun x r=>?_⟩⟩
   have:=(h x r).2 u t;rwa [zma E]at this
def okE (I:Xn->Prop) (J:Act->Xn->Prop) (S:Nat->Option zfU) (listed:Array Bool) (F:Nat->Xn->Prop) (a:Act) (w:Xn):Prop:=
 I w/\J a w/\(∀i,F i w)/\(∀i,(∀w,F i w)\/∃s u v,S i=Xa s/\F i=s.post u v/\listed.getD i Xd=Xc)/\∀k t,S k=Xa t->listed.getD k Xc=Xd->t.pre w
theorem zqo (g:∀k s o,S k=Xa s->ops[k]? =Xa o->∀d,s.arg= .tmp d->d∈o.looksAt ops) (hS:∀k s,S k=Xa s->∃v,s.pv v)
  (hp:∀k s j t,S k=Xa s->S j=Xa t->j≠k->anc ops 9 j k=Xd->∀u v w w',t.step w w'->s.post u v w->s.post u v w') (hpre:∀j t k s,S j=Xa t->S k=Xa s->j≠k->∀w w',s.step w w'->t.pre w->t.pre w')
  (hJq:∀(j:Nat) o,ops[j]? =Xa o->S j=Xb->∀a v w,(execOp a.eval o).run P w= .ok (.value v) w->J a w->J (a.put o.dst v) w) (hJs:∀(j:Nat) o s,ops[j]? =Xa o->S j=Xa s->∀a w K,J a w->I w->zQ P o a w K->zQ P o a w fun v w'=>K v w'/\J (a.put o.dst v) w') (hJu:∀(j:Nat) o,ops[j]? =Xa o->∀a w,J a w->J (a.put o.dst undef) w):
  Way P ops (jH I P ops S) (fun j F=>∃w,I w/\∀m,anc ops 9 m j=Xc->F m w) (okE I J S) where
 mono h:=jH.mono fun b c e D=>h b c (fun j b ⟨w,l,c⟩=>⟨w,l,fun m f=>by
  rw[e m (fun q=>by subst q;rw[b]at f;cases f)]
  exact c m f⟩) D
 swap hi hj hlt hap hsi hsj b hji:=fun⟨_,l,c⟩=>jH.swap hi hj (by omega) hap hsi hsj g b hji (hS _) l c
 lean j h:=⟨_,h.1,fun m _=>h.2.2.1 m⟩
 step {listed F a w j oj K N Q} hsz hoj h0 hc hok hcm hN:=by
  obtain⟨E,G,B,C,e⟩:=hok;have r:∀i,(∀w,F i w)\/∃s u v,S i=Xa s/\F i=s.post u v/\(listed.setIfInBounds j Xc).getD i Xd=Xc:=fun i=>(C i).imp id fun⟨s,u,v,z,y,A⟩=>⟨s,u,v,z,y,getD_set_true A⟩
  have n:∀k,(listed.setIfInBounds j Xc).getD k Xc=Xd->k≠j/\listed.getD k Xc=Xd:=fun k c=>by
   by_cases q:j=k
   ·subst q;have:=(aS.1 hoj).1
    simp[show j<listed.size by omega]at c
   rw[getD_set_ne Xc q]at c;exact⟨fun h=>q h.symm,c⟩
  simp only[jH,hoj]at hcm
  split
  ·rename_i c
   simp only[c,if_true]at hcm
   cases p:S j with
   | none=>
    simp only[p]at hcm;obtain⟨v,f,D⟩:=hcm;have g:=f w E (fun m _=>B m)
    unfold Oper.wp;rw[g];exact hN F _ w ⟨E,hJq j oj hoj p a v w g G,B,r,fun k t f g=>e k t f (n k g).2⟩ D
   | some s=>
    simp only[p]at hcm;refine(hJs j oj s hoj p a w _ G E (hcm.1 w E (e j s p h0) (fun m _=>B m))).wp fun v w' ⟨⟨L,h,M,x⟩,H⟩=>?_
    refine hN (zdv F j (s.post (a.eval s.arg) v)) _ w' ⟨L,H,fun i=>?_,fun i=>?_,fun k t f g=>hpre k t j s f p (n k g).1 w w' h (e k t f (n k g).2)⟩ (hcm.2 v M)
    ·unfold zdv
     split
     ·exact x
     rename_i b
     rcases C i with l|⟨x,u1,C,z,y,A⟩
     ·exact l w'
     rw[y];refine hp i x j s z p (fun q=>b q.symm) ?_ u1 C w w' h ?_
     ·cases h:anc ops 9 j i with
      | false=>rfl
      | true=>
       have l:=Jm hc 9 j i (fun k D=>hc k i A D) h
       rw[zai h0]at l;cases l
     have:=B i;rw[y]at this;exact this
    by_cases b:i=j
    ·subst b;refine .inr ⟨s,a.eval s.arg,v,p,?_,?_⟩
     ·unfold zdv;rw[kE rfl]
     have:=(aS.1 hoj).1
     simp[show i<listed.size by omega]
    rcases r i with l|⟨x,u1,C,z,y,A⟩
    ·refine .inl fun w=>?_
     unfold zdv;rw[kF b];exact l w
    refine .inr ⟨x,u1,C,z,?_,A⟩;unfold zdv;rw[kF b];exact y
  rename_i c
  simp only[c]at hcm;exact hN F _ w ⟨E,hJu j oj hoj a w G,B,r,fun k t f g=>e k t f (n k g).2⟩ hcm
variable{Q:Act->Xn->Prop}
variable(I P ops S Q)in
abbrev zar:List Oper->Nat->(Nat->Xn->Prop)->Act->Prop:=zhs ops (jH I P ops S) fun F a=>∀w,I w->(∀i,F i w)->Q a w
theorem zoS {Q:Exit->Act->Xn->Prop} {a:Act} {w:Xn} {L l r:List Oper} (T:Nat) (e:I w.drew) (hJ0:J a w.drew) (i:P.follows .mixedOrders=Xc) (c:Q8 L.toArray T=Xc) (g:L.take T=l) (m:L.drop T=r) (f:T<=L.length) (b:∀k s o,S k=Xa s->L.toArray[k]? =Xa o->∀d,s.arg= .tmp d->d∈o.looksAt L.toArray)
  (hS:∀k s,S k=Xa s->∃v,s.pv v) (hp:∀k s j t,S k=Xa s->S j=Xa t->j≠k->anc L.toArray 9 j k=Xd->∀u v w w',t.step w w'->s.post u v w->s.post u v w') (hpre:∀j t k s,S j=Xa t->S k=Xa s->j≠k->∀w w',s.step w w'->t.pre w->t.pre w') (hpr0:∀k t,S k=Xa t->t.pre w.drew)
  (hJq:∀(j:Nat) o,L.toArray[j]? =Xa o->S j=Xb->∀a v w,(execOp a.eval o).run P w= .ok (.value v) w->J a w->J (a.put o.dst v) w) (hJs:∀(j:Nat) o s,L.toArray[j]? =Xa o->S j=Xa s->∀a w K,J a w->I w->zQ P o a w K->zQ P o a w fun v w'=>K v w'/\J (a.put o.dst v) w') (hJu:∀(j:Nat) o,L.toArray[j]? =Xa o->∀a w,J a w->J (a.put o.dst undef) w)
  (h:zar I P L.toArray S (fun a w=>J a w->wpList P L.toArray Q r a w) l 0 (fun _ _=>True) a):(Code.region id L.toArray Xc).wp P Q a w:=
 zhG (zqo b hS hp hpre hJq hJs hJu) T i c g m f (fun _=>⟨e,hJ0,fun _=>trivial,fun _=> .inl fun _=>trivial,fun k t b _=>hpr0 k t b⟩) (fun _ _ _ _ b h=>h _ b.1 b.2.2.1 b.2.1) h
theorem zhH {Q:Exit->Act->Xn->Prop} {a:Act} {w:Xn} {L l r:List Oper} (T:Nat) (e:I w.drew) (i:P.follows .mixedOrders=Xc) (c:Q8 L.toArray T=Xc) (g:L.take T=l) (m:L.drop T=r) (f:T<=L.length) (b:∀k s o,S k=Xa s->L.toArray[k]? =Xa o->∀d,s.arg= .tmp d->d∈o.looksAt L.toArray)
  (hS:∀k s,S k=Xa s->∃v,s.pv v) (hp:∀k s j t,S k=Xa s->S j=Xa t->j≠k->anc L.toArray 9 j k=Xd->∀u v w w',t.step w w'->s.post u v w->s.post u v w') (hpre:∀j t k s,S j=Xa t->S k=Xa s->j≠k->∀w w',s.step w w'->t.pre w->t.pre w') (hpr0:∀k t,S k=Xa t->t.pre w.drew)
  (h:zar I P L.toArray S (fun a w=>wpList P L.toArray Q r a w) l 0 (fun _ _=>True) a):(Code.region id L.toArray Xc).wp P Q a w:=
 zhG (zqo (J:=fun _ _=>True) b hS hp hpre (fun _ _ _ _ _ _ _ _ _=>trivial) (fun _ _ _ _ _ _ _ _ _ _ h=>h.mono fun _ _ b=>⟨b,trivial⟩) (fun _ _ _ _ _ _=>trivial)) T i c g m f (fun _=>⟨e,trivial,fun _=>trivial,fun _=> .inl fun _=>trivial,fun k t b _=>hpr0 k t b⟩) (fun _ _ _ _ b h=>h _ b.1 b.2.2.1) h
variable{o:Oper} {rest:List Oper} {k:Nat} {F:Nat->Xn->Prop} {a:Act}
theorem zdk (h:ops[k]? =Xa o->jH I P ops S k F a (zar I P ops S Q rest (k+1))):zar I P ops S Q (o :: rest) k F a:=zhs.cons (fun h=>jH.mono fun b c _=>h b c) h
theorem zfs (b:Xu o (yielded ops a.tmps)=Xc) (hS:S k=Xb) {v:Xq} (d:∀w,I w->(execOp a.eval o).run P w= .ok (.value v) w) (e:zar I P ops S Q rest (k+1) F (a.put o.dst v)):zar I P ops S Q (o :: rest) k F a:=zdk fun c=>by
 simp only[jH,c,b,if_true,hS];exact⟨v,fun w b _=>d w b,e⟩
theorem zex (ht:zng o=Xc) (b:Xu o (yielded ops a.tmps)=Xc) (hS:S k=Xb)
  (h:∀K:Act->Prop,(∀a,zar I P ops S Q rest (k+1) F a->K a)->o.quiet P a (fun w'=>∃x:zh I,w'=x.world) K):zar I P ops S Q (o :: rest) k F a:=by
 obtain⟨v,c,d⟩:=zbh ht (h _ fun _ h=>h)
 exact zfs b hS (fun w b=>c w ⟨⟨w,b⟩,rfl⟩) d
theorem zbX{P Q:Prop}(k:Q)(h:Go.RowKit.Hid Q->P:=by intro h;refine zex rfl rfl rfl (fun K a=>?_);go_big_quiet_op;exact a _ h.out):P:=h k
theorem zgM (c:Xu o (yielded ops a.tmps)=Xd) (h:zar I P ops S Q rest (k+1) F (a.put o.dst undef)):zar I P ops S Q (o :: rest) k F a:=zdk fun b=>by
 simp only[jH,b,c,Yz,if_false];exact h
theorem zab {s:zfU} (d:Xu o (yielded ops a.tmps)=Xc) (hS:S k=Xa s)
  (h:∀w,I w->s.pre w->(∀m,anc ops 9 m k=Xc->F m w)->zQ P o a w fun v w'=>I w'/\s.step w w'/\s.pv v/\s.post (a.eval s.arg) v w')
  (c:∀v,s.pv v->zar I P ops S Q rest (k+1) (zdv F k (s.post (a.eval s.arg) v)) (a.put o.dst v)):zar I P ops S Q (o :: rest) k F a:=zdk fun b=>by
 simp only[jH,b,d,if_true,hS];exact⟨h,c⟩
theorem zft (h:∀w,I w->(∀i,F i w)->Q a w):zar I P ops S Q [] k F a:=⟨fun _=>h⟩
theorem zgN (x p) (b:o.op= .nilCheck x) (d:a.eval x= Xj (Xa p)) (c:Xu o (yielded ops a.tmps)=Xc) (hS:S k=Xb) (h:zar I P ops S Q rest (k+1) F (a.put o.dst (Xj (Xa p)))):zar I P ops S Q (o :: rest) k F a:=zfs c hS (fun _ _=>zi3 x p b d) h
end
def zmV (ops:Array Oper) (S:List (Nat × zfU)):Bool:=S.all fun x=>match x.2.arg with
 | .tmp d=>(match ops[x.1]? with | some o=>(o.looksAt ops).contains d | none=>Xd)
 | _=>Xc
theorem ziJ {S:List (Nat × zfU)} (h:zmV ops S=Xc):∀k s o,S.lookup k=Xa s->ops[k]? =Xa o->∀d,s.arg= .tmp d->d∈o.looksAt ops:=fun k s o a i d f=>by
 have g:(k,s)∈S:=by
  induction S with
  | nil=>simp at a
  | cons x S j=>
   rw[List.lookup_cons]at a
   split at a
   ·rename_i e
    have b:k=x.1:=by simpa using e
    have c:x.2=s:=by simpa using a
    rw[b,<-c];simp
   exact Ou _ (j (by simp only[zmV,List.all_cons,Xx]at h;exact h.2) a)
 have:=Yk.1 h _ g;simp only[f,i]at this
 simpa using this
theorem zf7 {I:Xn->Prop} {P:Program} {a:Act} {w:Xn} {L l r:List Oper} (T:Nat) (S:List (Nat × zfU)) (d:I w.drew) (g:P.follows .mixedOrders=Xc) (b:zmV L.toArray S=Xc) (c:Q8 L.toArray T=Xc) (f:L.take T=l) (i:L.drop T=r) (e:T<=L.length)
  (hS:∀x∈S,∃v,x.2.pv v) (hp:∀k s j t,S.lookup k=Xa s->S.lookup j=Xa t->j≠k->anc L.toArray 9 j k=Xd->∀u v w w',t.step w w'->s.post u v w->s.post u v w') (hpre:∀j t k s,S.lookup j=Xa t->S.lookup k=Xa s->j≠k->∀w w',s.step w w'->t.pre w->t.pre w') (hpr0:∀k t,S.lookup k=Xa t->t.pre w.drew)
  (h:zar I P L.toArray (fun k=>S.lookup k) (fun a w=>wpList P L.toArray Q r a w) l 0 (fun _ _=>True) a):(Code.region id L.toArray Xc).wp P Q a w:=
 zhH T d g c f i e (ziJ b) (fun k s b=>by obtain⟨x,c,rfl,_⟩:=JA b;exact hS x c) hp hpre hpr0 h
structure zdT where
 pv:Xq->Prop
 post:Xq->Xn->Prop
 step:Xn->Xn->Prop
 pre:Xn->Prop:=fun _=>True
def zdT.e (s:zdT):zfU:=⟨.const undef,s.pv,fun _=>s.post,s.step,s.pre⟩
theorem zaZ {x:Option zdT} {s:zfU} (h:x.map zdT.e=Xa s):∃t,x=Xa t/\s=t.e:=by
 cases x with
 | none=>cases h
 | some t=>cases h;exact⟨t,rfl,rfl⟩
section
variable{I:Xn->Prop} {P:Program} {ops:Array Oper} {S:Nat->Option zdT} {Q:Act->Xn->Prop}
variable(I P ops S Q)in
abbrev zcy:List Oper->Nat->(Nat->Xn->Prop)->Act->Prop:=zar I P ops (fun k=>(S k).map zdT.e) Q
theorem qK {Q:Exit->Act->Xn->Prop} {a:Act} {w:Xn} {L l r:List Oper} (T:Nat) (S:List (Nat × zdT)) (c:I w.drew) (f:P.follows .mixedOrders=Xc) (b:Q8 L.toArray T=Xc) (e:L.take T=l) (g:L.drop T=r) (d:T<=L.length)
  (hS:∀x∈S,∃v,x.2.pv v) (hp:∀k s j t,S.lookup k=Xa s->S.lookup j=Xa t->j≠k->anc L.toArray 9 j k=Xd->∀v w w',t.step w w'->s.post v w->s.post v w') (hpre:∀j t k s,S.lookup j=Xa t->S.lookup k=Xa s->j≠k->∀w w',s.step w w'->t.pre w->t.pre w') (hpr0:∀k t,S.lookup k=Xa t->t.pre w.drew)
  (h:zcy I P L.toArray (fun k=>S.lookup k) (fun a w=>wpList P L.toArray Q r a w) l 0 (fun _ _=>True) a):(Code.region id L.toArray Xc).wp P Q a w:=by
 refine zhH T c f b e g d ?_ ?_ ?_ ?_ ?_ h
 ·intro k s b b _ d c;obtain⟨t,_,rfl⟩:=zaZ b;cases c
 ·intro k s b;obtain⟨t,c,rfl⟩:=zaZ b;obtain⟨x,d,rfl,_⟩:=JA c;exact hS x d
 ·intro k s j t b f d g _ v;obtain⟨s,c,rfl⟩:=zaZ b;obtain⟨t,e,rfl⟩:=zaZ f;exact hp k s j t c e d g v
 ·intro j t k s f b d;obtain⟨s,c,rfl⟩:=zaZ b;obtain⟨t,e,rfl⟩:=zaZ f;exact hpre j t k s e c d
 intro k t b;obtain⟨t,c,rfl⟩:=zaZ b;exact hpr0 k t c
variable{o:Oper} {rest:List Oper} {k:Nat} {F:Nat->Xn->Prop} {a:Act}
theorem zkg (ht:zng o=Xc) (b:Xu o (yielded ops a.tmps)=Xc) (hS:S k=Xb)
  (h:∀K:Act->Prop,(∀a,zcy I P ops S Q rest (k+1) F a->K a)->o.quiet P a (fun w'=>∃x:zh I,w'=x.world) K):zcy I P ops S Q (o :: rest) k F a:=zex ht b (by rw[hS];rfl) h
theorem zm{P Q:Prop}(k:Q)(h:Go.RowKit.Hid Q->P:=by intro h;refine zkg rfl rfl rfl (fun K a=>?_);go_big_quiet_op;exact a _ h.out):P:=h k
theorem zlT (b:Xu o (yielded ops a.tmps)=Xd) (h:zcy I P ops S Q rest (k+1) F (a.put o.dst undef)):zcy I P ops S Q (o :: rest) k F a:=zgM b h
theorem zdi{P Q:Prop}(k:Q)(h:Go.RowKit.Hid Q->P:=by intro h;refine zlT ?_ ?_;kernel_rfl;simp only[Gg,sB,sS,sZ];exact h.out):P:=h k
theorem zP {s:zdT} (c:Xu o (yielded ops a.tmps)=Xc) (hS:S k=Xa s)
  (h:∀w,I w->s.pre w->(∀m,anc ops 9 m k=Xc->F m w)->zQ P o a w fun v w'=>I w'/\s.step w w'/\s.pv v/\s.post v w')
  (b:∀v,s.pv v->zcy I P ops S Q rest (k+1) (zdv F k (s.post v)) (a.put o.dst v)):zcy I P ops S Q (o :: rest) k F a:=zab (s:=s.e) c (by rw[hS];rfl) h b
theorem Zq (h:∀w,I w->(∀i,F i w)->Q a w):zcy I P ops S Q [] k F a:=zft h
theorem Zk (x p) (b:o.op= .nilCheck x) (d:a.eval x= Xj (Xa p)) (c:Xu o (yielded ops a.tmps)=Xc) (hS:S k=Xb) (h:zcy I P ops S Q rest (k+1) F (a.put o.dst (Xj (Xa p)))):zcy I P ops S Q (o :: rest) k F a:=zgN x p b d c (by rw[hS];rfl) h
end
structure zoO where
 pv:Xq->Prop
 post:Xq->Xn->Prop
def zoO.i (s:zoO):zdT:=⟨s.pv,s.post,zc,fun _=>True⟩
section
variable{P:Program} {ops:Array Oper} {w0:Xn} {S:Nat->Option zoO} {Q:Act->Xn->Prop}
variable(P ops w0 S Q)in
abbrev zmY:List Oper->Nat->(Nat->Xn->Prop)->Act->Prop:=zcy (zc w0) P ops (fun k=>(S k).map zoO.i) Q
theorem zl5 (w:Xn):zc w w.drew:=show Below _ _ _ from(bR _ _).drew
theorem Zr {Q:Exit->Act->Xn->Prop} {a:Act} {w:Xn} {L l r:List Oper} (T:Nat) (S:List (Nat × zoO)) (j:P.follows .mixedOrders=Xc) (f:Q8 L.toArray T=Xc) (i:L.take T=l) (m:L.drop T=r) (g:T<=L.length)
  (hS:∀x∈S,∃v,x.2.pv v) (hp:∀x∈S,∀v w w',zc w w'->x.2.post v w->x.2.post v w')
  (h:zmY P L.toArray w (fun k=>S.lookup k) (fun a w=>wpList P L.toArray Q r a w) l 0 (fun _ _=>True) a):(Code.region id L.toArray Xc).wp P Q a w:=by
 have b:∀k s,((S.lookup k).map zoO.i).map zdT.e=Xa s->∃x∈S,s=x.2.i.e:=fun k s c=>by
  cases e:S.lookup k with
  | none=>rw[e]at c;cases c
  | some t=>
   rw[e]at c;cases c;obtain⟨x,d,rfl,_⟩:=JA e;exact⟨x,d,rfl⟩
 refine zhH T (zl5 w) j f i m g ?_ ?_ ?_ ?_ ?_ h
 ·intro k s e c _ e e;obtain⟨x,_,rfl⟩:=b k s c;cases e
 ·intro k s c;obtain⟨x,d,rfl⟩:=b k s c;exact hS x d
 ·intro k s j t c e _ _ _ v w w' f;obtain⟨x,d,rfl⟩:=b k s c;obtain⟨y,_,rfl⟩:=b j t e;exact hp x d v w w' f
 ·intro j t k s e _ _ _ _ _ _;obtain⟨x,_,rfl⟩:=b j t e;trivial
 intro k t c;obtain⟨x,_,rfl⟩:=b k t c;trivial
theorem jK {Q:Exit->Act->Xn->Prop} {a:Act} {w:Xn} {l:List Oper} (S:List (Nat × zoO)) (c:P.follows .mixedOrders=Xc) (b:Q8 l.toArray l.length=Xc)
  (hS:∀x∈S,∃v,x.2.pv v) (hp:∀x∈S,∀v w w',zc w w'->x.2.post v w->x.2.post v w')
  (h:zmY P l.toArray w (fun k=>S.lookup k) (fun a w=>Q .normal a w) l 0 (fun _ _=>True) a):(Code.region id l.toArray Xc).wp P Q a w:=
 Zr l.length S c b (List.take_length ..) (List.drop_length ..) (nR _) hS hp h
variable{o:Oper} {rest:List Oper} {k:Nat} {F:Nat->Xn->Prop} {a:Act}
theorem zlS (ht:zng o=Xc) (b:Xu o (yielded ops a.tmps)=Xc) (hS:S k=Xb)
  (h:∀K:Act->Prop,(∀a,zmY P ops w0 S Q rest (k+1) F a->K a)->o.quiet P a (fun w'=>∃x:zl w0,w'=x.world) K):zmY P ops w0 S Q (o :: rest) k F a:=by
 obtain⟨v,c,d⟩:=zbh ht (h _ fun _ h=>h)
 exact zfs b (by simp only[hS];rfl) (fun w b=>c w ⟨⟨w,b⟩,rfl⟩) d
theorem zg{P Q:Prop}(k:Q)(h:Go.RowKit.Hid Q->P:=by intro h;refine zlS rfl rfl rfl (fun K a=>?_);go_big_quiet_op;exact a _ h.out):P:=h k
theorem Qk (b:Xu o (yielded ops a.tmps)=Xd) (h:zmY P ops w0 S Q rest (k+1) F (a.put o.dst undef)):zmY P ops w0 S Q (o :: rest) k F a:=zgM b h
theorem zH {s:zoO} (b:Xu o (yielded ops a.tmps)=Xc) (hS:S k=Xa s)
  (h:∀w,zc w0 w->(∀m,anc ops 9 m k=Xc->F m w)->zQ P o a w fun v w'=>zc w w'/\s.pv v/\s.post v w')
  (d:∀v,s.pv v->zmY P ops w0 S Q rest (k+1) (zdv F k (s.post v)) (a.put o.dst v)):zmY P ops w0 S Q (o :: rest) k F a:=zab (s:=s.i.e) b (by simp only[hS];rfl) (fun w b _ c=>(h w b c).mono fun _ _ c=>⟨b.trans c.1,c⟩) d
theorem z7 (h:∀w,zc w0 w->(∀i,F i w)->Q a w):zmY P ops w0 S Q [] k F a:=zft h
theorem znV (x p) (b:o.op= .nilCheck x) (d:a.eval x= Xj (Xa p)) (c:Xu o (yielded ops a.tmps)=Xc) (hS:S k=Xb) (h:zmY P ops w0 S Q rest (k+1) F (a.put o.dst (Xj (Xa p)))):zmY P ops w0 S Q (o :: rest) k F a:=zgN x p b d c (by simp only[hS];rfl) h
end
theorem zV (a:Addr) (i j:Nat):(a.add i).add j=a.add (i+j):=by
 unfold Addr.add
 by_cases b:i=0 <;> by_cases c:j=0 <;> simp[b,c] <;> omega
def Zf (w:Xn) (x:Addr) (cs:List Xq):Prop:=∀j u,cs[j]? =Xa u->w.cell? (x.add j)=Xa u
theorem Zf.grew {w:Xn} {x:Addr} {cs:List Xq} (h:Zf w x cs) (b:zc w w'):Zf w' x cs:=fun j u c=>by
 have a:=h j u c;rw[Below.cell b (World.block_lt_of_cell? _ _ a)];exact a
theorem qF {α:Type} {enc:α->List Xq} {k:Nat}:∀(l:List α),(∀a∈l,(enc a).length=k)->(l.flatMap enc).length=l.length*k
 | [],_=>by simp
 | a :: l,h=>by
  rw[Yb,lA,h a (by simp),qF l (fun b c=>h b (by simp[c])),Yq,Ov,Nat.one_mul,Ot]
theorem qC {α:Type} {enc:α->List Xq} {k:Nat}:∀(l:List α) (j:Nat) (a:α),(∀b∈l,(enc b).length=k)->l[j]? =Xa a->∀i u,(enc a)[i]? =Xa u->(l.flatMap enc)[j*k+i]? =Xa u
 | [],j,a,_,h,_,_,_=>by simp at h
 | b :: l,0,a,d,h,i,u,hi=>by
  simp at h;subst h
  have c:i< (enc b).length:=by
   rcases Yp i (enc b).length with h|h
   ·exact h
   rw[gN h]at hi;cases hi
  rw[Yb,Uj,zA,Oj c];exact hi
 | b :: l,j+1,a,d,h,i,u,hi=>by
  have c:=d b (by simp)
  rw[Yb,aR (by rw[c,Ov];omega),c]
  have e:(j+1)*k+i - k=j*k+i:=by rw[Ov];omega
  rw[e];exact qC l j a (fun c e=>d c (by simp[e])) (by simpa using h) i u hi
theorem Zf.elem {α:Type} {enc:α->List Xq} {k:Nat} {w:Xn} {x:Addr} {l:List α} (h:Zf w x (l.flatMap enc)) (e:∀b∈l,(enc b).length=k) {a:α} (c:l[j]? =Xa a):Zf w (x.add (j*k)) (enc a):=fun i u d=>by
 rw[zV];exact h _ _ (qC l j a e c i u d)
def jP {α:Type} (enc:α->List Xq) (w:Xn) (v:Xq) (l:List α):Prop:=
 ∃a c,v= O a l.length c/\(a=Xb->l=[])/\∀x,a=Xa x->Zf w x (l.flatMap enc)
theorem jP.grew {α:Type} {enc:α->List Xq} {w:Xn} {v:Xq} {l:List α} (h:jP enc w v l) (f:zc w w'):jP enc w' v l:=by
 obtain⟨a,c,b,d,e⟩:=h;exact⟨a,c,b,d,fun x a=>(e x a).grew f⟩
theorem Zz {α:Type} {enc:α->List Xq} {w:Xn} {base a:Nat} {e:TypeId} {v:Xq} {l:List α} (h:w.ownsRow base e a v l.length (l.flatMap enc)):jP enc w v l:=by
 rcases h.2 with⟨rfl,c⟩|⟨g,a,b,rfl,b,b,b,b,b,b⟩
 ·have b:=eN c;subst b;exact⟨Xb,0,rfl,fun _=>rfl,fun x b=>by cases b⟩
 refine⟨Xa ⟨g,0,Xb⟩,a,rfl,fun h=>(by cases h),fun x b=>?_⟩
 cases b;exact h.cells rfl
theorem QY {w:Xn} {base a n:Nat} {e:TypeId} {v:Xq} (h:w.ownsRow base e a v n xs) (i:zc w w'):w'.ownsRow base e a v n xs:=by
 refine⟨h.1,?_⟩
 rcases h.2 with d|⟨g,a,b,rfl,f,c,h⟩
 ·exact .inl d
 exact .inr ⟨g,a,b,rfl,f,by rw[Below.block i g (aS.1 c).1];exact c,h⟩
theorem qM {w:Xn} {base a n:Nat} {e:TypeId} {v:Xq} (h:w.ownsRow base e a v n xs) (i:base'<=base):w.ownsRow base' e a v n xs:=by
 refine⟨h.1,?_⟩
 rcases h.2 with c|⟨g,a,b,rfl,d,f⟩
 ·exact .inl c
 exact .inr ⟨g,a,b,rfl,nT i d,f⟩
theorem qP {α:Type} {enc:α->List Xq} (h:∀a,∀u∈enc a,u.oneCell'=Xc) (l:List α):∀u∈l.flatMap enc,u.oneCell'=Xc:=fun u c=>by
 obtain⟨a,_,b⟩:=List.mem_flatMap.1 c;exact h a u b
theorem qB {n:Nat} (h:n<=140737488355328):n<=maxLen:=by simp[maxLen];omega
theorem za (w:Xn) (o):zc w (w.alloc o):=(bR _ _).alloc (nR _) _
theorem zy {w:Xn} (h:zc w W) {a:Addr} (b:w.heap.size<=a.block) (u):zc w (W.setCell a u):=Below.setCell h b u
theorem zY:Tryz.prog.follows .mixedOrders=Xc:=by kernel_rfl
def Zm (base:Nat) (v:Xq):Prop:=∀x n c,v= O (Xa x) n c->base<=x.block
theorem ZB (base:Nat):Zm base (O Xb 0 0):=fun x n c e=>by cases e
theorem Jo (x:Addr) (j:Nat):(x.add j).block=x.block:=by unfold Addr.add;split <;> rfl
theorem jP.setCell {α:Type} {enc:α->List Xq} {base:Nat} {w:Xn} {v:Xq} {l:List α} (h:jP enc w v l) (f:Zm base v) {a:Addr} (b:a.block<base) (u):jP enc (w.setCell a u) v l:=by
 obtain⟨x,c,b,d,e⟩:=h;refine⟨x,c,b,d,fun y d j t c=>?_⟩
 subst d;have:=f y _ _ b;rw[World.cell?_of_block (w:=w) (Below.heap_setCell _ _ _ _ (by rw[Jo];omega))]
 exact e y rfl j t c
theorem ZV (w:Xn) (g:Nat) (cs:Array Xq):w.grownBy (w.setRow g cs) (Xa g):=by
 refine⟨rfl,rfl,rfl,by simp[World.setRow],fun k a a=>?_⟩
 have:g≠k:=fun e=>a (by rw[e])
 unfold World.setRow
 simp[Array.getElem?_modify,this]
theorem qW {P:Program} {w:Xn} {base b n:Nat} {e:TypeId} {v:Xq} (d:w.ownsRow base e b v n xs) {g:Nat} (h:v.ownBlock=Xa g) (a:Nat) (cs:List Xq) (c:a+cs.length<=n*b) (k:∀u∈cs,u.oneCell'=Xc):
  ∃w',(storeCells ⟨g,a,Xb⟩ cs 0).run P w= .ok () w'/\w'.ownsRow base e b v n (splice xs a cs)/\w.grownBy w' (Xa g)/\w'.heap.size=w.heap.size:=by
 obtain⟨m,c⟩:=d
 rcases c with⟨rfl,i⟩|⟨f,d,c,rfl,l,j,i,p,q,r⟩
 ·simp[Value.ownBlock]at h
 simp[Value.ownBlock]at h
 subst h;have h:n*b<=c.size:=by rw[q];exact Yt _ i
 refine⟨_,run_storeCells_at P f a e cs 0 c w j (by omega) k,⟨by rw[length_splice _ _ _ (by omega)];exact m,.inr ⟨f,d,_,rfl,l,setRow_heap w f c _ e _ j,i,p,?_,?_⟩⟩,ZV _ _ _,by simp[World.setRow]⟩
 ·simp;omega
 subst r
 apply Ym
 intro j;simp only[splice,Nat.add_zero];simp only[List.getElem?_take,List.getElem?_append,Gc,Uf,lA,Array.length_toList];have d:min a c.size=a:=by omega
 have f:min a (min (n*b) c.size)=a:=by omega
 simp only[d,f]
 split <;> split <;>(try split) <;>(try split) <;>(try split) <;> first | rfl | omega | (congr 1;omega) | skip
theorem zcn {P:Program} {w:Xn} {rest:List Oper} {a:Act} (e:o.guard=Xb) (p x t) (s:o.op= .store t p x) (k:Nat) (f:(P.info? t).map (·.size)=Xa k)
  (base:Nat) (v:Xq) (n:Nat) (xs:List Xq) (d:w.ownsRow base t k v n xs) (g i:Nat) (r:v.ownBlock=Xa g) (hi:i<n) (cs:List Xq) (c:cs.length=k) (j:∀u∈cs,u.oneCell'=Xc)
  (ad:Addr) (hp:a.eval p= Xj (Xa ad)) (b:ad=⟨g,i*k,Xb⟩) (z:a.eval x= Xi cs.toArray)
  (h:∀w',w'.ownsRow base t k v n (splice xs (i*k) cs)->w.grownBy w' (Xa g)->w'.heap.size=w.heap.size->wpList P ops Q rest (a.put o.dst undef) w'):wpList P ops Q (o :: rest) a w:=by
 subst b;refine wpList_plain e fun K q=>?_
 have b:i*k+cs.length<=n*k:=by
  rw[c,<-Uk];exact Yt _ hi
 obtain⟨w',y,e,l,m⟩:=qW (P:=P) d r (i*k) cs b j;have d:(Go.sizeOf t).run P w= .ok k w:=by
  cases b:P.info? t with
  | none=>simp[b]at f
  | some i=>simp[b]at f;simp[Go.sizeOf,typeInfo,b,f]
 have b:(Instr.storeAt t (Xj (Xa ⟨g,i*k,Xb⟩)) (Xi cs.toArray)).run P w= .ok () w':=by
  simp[Instr.storeAt,Instr.sureAddr,storeVar,Yd,d,Result.andThen,Value.cells,c,y]
 unfold Oper.wp;simp only[execOp,s,hp,z,Yd,b,Result.andThen,Yi,Oper.upon];exact q _ _ (h w' e l m)
theorem Jd {α:Type} {enc:α->List Xq} {k:Nat} (x:α) (b:(enc x).length=k):∀(l:List α) (i:Nat),(∀a∈l,(enc a).length=k)->i<l.length->splice (l.flatMap enc) (i*k) (enc x)=(l.set i x).flatMap enc
 | [],i,_,hi=>by simp at hi
 | a :: l,0,h,_=>by
  simp only[splice,Yb,Uj,Oy,Ol,zA,sZ];rw[Yx (by rw[b,h a (by simp)];exact nR _),Oa (by rw[b,h a (by simp)];exact nR _),Ol]
 | a :: l,i+1,h,hi=>by
  have d:=h a (by simp)
  have c:=Jd x b l i (fun b e=>h b (by simp[e])) (by simpa using hi)
  simp only[splice,Yb,sS]at c⊢;rw[<-c,Uk,Ot (i*k) k,<-d,Of,Od,Og,Yj]
theorem zd {w W':Xn} {g:Nat} (h:zc w W) (b:W.grownBy W' (Xa g)) (a:w.heap.size<=g):zc w W':=
 Below.grown h b (bS h) (fun k b=>by cases b;exact a)
theorem zjB {a w:Xn} (h:Below B a w) (b:B<=w.heap.size) (c:zc w w'):Below B a w':=h.trans (Below.mono c b)
def Box (w:Xn) (b:Nat) (cs:List Xq):Prop:=∃t,w.heap[b]? =Xa (Xk cs.toArray t (0,0))
theorem Box.lt {w:Xn} {cs:List Xq} (h:Box w b cs):b<w.heap.size:=by
 obtain⟨t,h⟩:=h;exact(aS.1 h).1
theorem Box.c {w:Xn} {cs:List Xq} (h:Box w b cs) (i:Nat) {u:Xq} (hi:cs[i]? =Xa u):w.cell? ⟨b,i,Xb⟩=Xa u:=by
 obtain⟨t,h⟩:=h
 simp[World.cell?,h,hi]
theorem Box.f {w:Xn} {cs:List Xq} (h:Box w b cs) (i:Nat):w.frozen? ⟨b,i,Xb⟩=Xd:=by
 obtain⟨t,h⟩:=h
 simp[World.frozen?,h]
theorem Box.below {w:Xn} {cs:List Xq} (h:Box w b cs) (c:Below B w w') (a:b<B):Box w' b cs:=by
 obtain⟨t,h⟩:=h;exact⟨t,by rw[c.block b a];exact h⟩
theorem Box.grew {w:Xn} {cs:List Xq} (h:Box w b cs) (a:zc w w'):Box w' b cs:=h.below a h.lt
theorem Box.top (w:Xn) (cs:List Xq) (t) (a:b=w.heap.size):Box (w.alloc (Xk cs.toArray t)) b cs:=by
 subst a;refine⟨t,?_⟩
 show(w.heap.push _)[w.heap.size]? =_
 simp
theorem Box.alloc {w:Xn} {cs:List Xq} (h:Box w b cs) (o):Box (w.alloc o) b cs:=h.grew (za _ _)
theorem Box.grown {w:Xn} {g:Nat} {cs:List Xq} (h:Box w b cs) (d:w.grownBy w' (Xa g)) (c:b≠g):Box w' b cs:=by
 have a:=h.lt;obtain⟨t,h⟩:=h;exact⟨t,by rw[d.block b a (fun e=>c (by cases e;rfl))];exact h⟩
theorem Box.other {w:Xn} {cs:List Xq} (h:Box w b cs) {a:Addr} (c:b≠a.block) (u):Box (w.setCell a u) b cs:=by
 obtain⟨t,h⟩:=h;exact⟨t,by rw[Below.heap_setCell _ _ _ _ c];exact h⟩
theorem Box.set {w:Xn} {cs:List Xq} (h:Box w b cs) (i:Nat) (u):Box (w.setCell ⟨b,i,Xb⟩ u) b (cs.set i u):=by
 have a:=h.lt;obtain⟨t,h⟩:=h;refine⟨t,?_⟩;obtain⟨_,c⟩:=aS.1 h;unfold World.setCell;rw[Ys (by simpa using a)]
 simp[Uu,c]
theorem zgx {w:Xn} {base a n:Nat} {e:TypeId} {v:Xq} (h:w.ownsRow base e a v n xs) (i:∀k,base<=k->w'.heap[k]? =w.heap[k]?):w'.ownsRow base e a v n xs:=by
 refine⟨h.1,?_⟩
 rcases h.2 with d|⟨g,a,b,rfl,c,f,h⟩
 ·exact .inl d
 exact .inr ⟨g,a,b,rfl,c,by rw[i g c];exact f,h⟩
theorem ziL (w:Xn) (A B C) (k:Nat) (a:w.heap.size+1<=k):((w.alloc A).alloc C).heap[k]? =((w.alloc B).alloc C).heap[k]?:=by
 show((w.heap.push A).push C)[k]? =((w.heap.push B).push C)[k]?
 simp only[Array.getElem?_push,Array.size_push]
 split
 ·rfl
 rw[kF (by omega),kF (by omega)]
theorem World.grownBy.rfl' (w:Xn) (a:Option Nat):w.grownBy w a:=⟨rfl,rfl,rfl,nR _,fun _ _ _=>rfl⟩
theorem Zf.top (w:Xn) (cs:List Xq) (t) (a:b=w.heap.size):Zf (w.alloc (Xk cs.toArray t)) ⟨b,0,Xb⟩ cs:=fun j u c=>by
 rw[Addr.add_lit,zA];exact(Box.top w cs t a).c j c
theorem Box.beside {w:Xn} {cs:List Xq} {a:Option Nat} (h:Box w b cs) (d:w.grownBy w' a) (c:∀g,a=Xa g->b≠g):Box w' b cs:=by
 have a:=h.lt;obtain⟨t,h⟩:=h;exact⟨t,by rw[d.block b a (fun e=>c b e.symm rfl)];exact h⟩
theorem zT {w W':Xn} {a:Option Nat} (h:zc w W) (c:W.grownBy W' a) (b:∀g,a=Xa g->w.heap.size<=g):zc w W':=Below.grown h c (bS h) b
def zx (w:Xn) (b:Nat) (t:TypeId) (cs:List Xq):Prop:=w.heap[b]? =Xa (Xk cs.toArray t (0,0))
theorem zx.box {w:Xn} {cs:List Xq} (h:zx w b t cs):Box w b cs:=⟨t,h⟩
theorem zx.top (w:Xn) (cs:List Xq) (t) (a:b=w.heap.size):zx (w.alloc (Xk cs.toArray t)) b t cs:=by
 subst a
 show(w.heap.push _)[w.heap.size]? =_
 simp
theorem Box.c3 {w:Xn} {l:List Xq} (h:Box w b (a0::a1::a2::l)):w.cell? ⟨b,0,Xb⟩=Xa a0/\w.cell? ⟨b,1,Xb⟩=Xa a1/\w.cell? ⟨b,2,Xb⟩=Xa a2:=⟨h.c 0 rfl,h.c 1 rfl,h.c 2 rfl⟩
theorem Box.c7 {w:Xn} {l:List Xq} (h:Box w b (a0::a1::a2::a3::a4::a5::a6::l)):w.cell? ⟨b,0,Xb⟩=Xa a0/\w.cell? ⟨b,1,Xb⟩=Xa a1/\w.cell? ⟨b,2,Xb⟩=Xa a2/\w.cell? ⟨b,3,Xb⟩=Xa a3/\w.cell? ⟨b,4,Xb⟩=Xa a4/\w.cell? ⟨b,5,Xb⟩=Xa a5/\w.cell? ⟨b,6,Xb⟩=Xa a6:=⟨h.c 0 rfl,h.c 1 rfl,h.c 2 rfl,h.c 3 rfl,h.c 4 rfl,h.c 5 rfl,h.c 6 rfl⟩
theorem Box.c8 {w:Xn} {l:List Xq} (h:Box w b (a0::a1::a2::a3::a4::a5::a6::a7::l)):w.cell? ⟨b,0,Xb⟩=Xa a0/\w.cell? ⟨b,1,Xb⟩=Xa a1/\w.cell? ⟨b,2,Xb⟩=Xa a2/\w.cell? ⟨b,3,Xb⟩=Xa a3/\w.cell? ⟨b,4,Xb⟩=Xa a4/\w.cell? ⟨b,5,Xb⟩=Xa a5/\w.cell? ⟨b,6,Xb⟩=Xa a6/\w.cell? ⟨b,7,Xb⟩=Xa a7:=⟨h.c 0 rfl,h.c 1 rfl,h.c 2 rfl,h.c 3 rfl,h.c 4 rfl,h.c 5 rfl,h.c 6 rfl,h.c 7 rfl⟩
theorem Box.c10 {w:Xn} {l:List Xq} (h:Box w b (a0::a1::a2::a3::a4::a5::a6::a7::a8::a9::l)):w.cell? ⟨b,0,Xb⟩=Xa a0/\w.cell? ⟨b,1,Xb⟩=Xa a1/\w.cell? ⟨b,2,Xb⟩=Xa a2/\w.cell? ⟨b,3,Xb⟩=Xa a3/\w.cell? ⟨b,4,Xb⟩=Xa a4/\w.cell? ⟨b,5,Xb⟩=Xa a5/\w.cell? ⟨b,6,Xb⟩=Xa a6/\w.cell? ⟨b,7,Xb⟩=Xa a7/\w.cell? ⟨b,8,Xb⟩=Xa a8/\w.cell? ⟨b,9,Xb⟩=Xa a9:=⟨h.c 0 rfl,h.c 1 rfl,h.c 2 rfl,h.c 3 rfl,h.c 4 rfl,h.c 5 rfl,h.c 6 rfl,h.c 7 rfl,h.c 8 rfl,h.c 9 rfl⟩
theorem Box.c11 {w:Xn} {a:Xq} {l:List Xq} (h:Box w b (a0::a1::a2::a3::a4::a5::a6::a7::a8::a9::a::l)):w.cell? ⟨b,0,Xb⟩=Xa a0/\w.cell? ⟨b,1,Xb⟩=Xa a1/\w.cell? ⟨b,2,Xb⟩=Xa a2/\w.cell? ⟨b,3,Xb⟩=Xa a3/\w.cell? ⟨b,4,Xb⟩=Xa a4/\w.cell? ⟨b,5,Xb⟩=Xa a5/\w.cell? ⟨b,6,Xb⟩=Xa a6/\w.cell? ⟨b,7,Xb⟩=Xa a7/\w.cell? ⟨b,8,Xb⟩=Xa a8/\w.cell? ⟨b,9,Xb⟩=Xa a9/\w.cell? ⟨b,10,Xb⟩=Xa a:=⟨h.c 0 rfl,h.c 1 rfl,h.c 2 rfl,h.c 3 rfl,h.c 4 rfl,h.c 5 rfl,h.c 6 rfl,h.c 7 rfl,h.c 8 rfl,h.c 9 rfl,h.c 10 rfl⟩
theorem Box.c12 {w:Xn} {a c:Xq} {l:List Xq} (h:Box w b (a0::a1::a2::a3::a4::a5::a6::a7::a8::a9::a::c::l)):w.cell? ⟨b,0,Xb⟩=Xa a0/\w.cell? ⟨b,1,Xb⟩=Xa a1/\w.cell? ⟨b,2,Xb⟩=Xa a2/\w.cell? ⟨b,3,Xb⟩=Xa a3/\w.cell? ⟨b,4,Xb⟩=Xa a4/\w.cell? ⟨b,5,Xb⟩=Xa a5/\w.cell? ⟨b,6,Xb⟩=Xa a6/\w.cell? ⟨b,7,Xb⟩=Xa a7/\w.cell? ⟨b,8,Xb⟩=Xa a8/\w.cell? ⟨b,9,Xb⟩=Xa a9/\w.cell? ⟨b,10,Xb⟩=Xa a/\w.cell? ⟨b,11,Xb⟩=Xa c:=⟨h.c 0 rfl,h.c 1 rfl,h.c 2 rfl,h.c 3 rfl,h.c 4 rfl,h.c 5 rfl,h.c 6 rfl,h.c 7 rfl,h.c 8 rfl,h.c 9 rfl,h.c 10 rfl,h.c 11 rfl⟩
theorem Box.h {I:Xn->Prop} {cs:List Xq} (h:Box W b cs) (a:∀u,I u↔zc W u) (i:Nat) {v:Xq} (c:cs[i]?=Xa v):∀y:zh I,y.world.cell? ⟨b,i,Xb⟩=Xa v:=fun y=>(h.grew ((a _).1 y.holds)).c i c
theorem Box.gw {cs:List Xq} (h:Box W b cs) (i:Nat) {v:Xq} (a:cs[i]?=Xa v):∀y:zl W,y.world.cell? ⟨b,i,Xb⟩=Xa v:=fun y=>(h.grew y.grew).c i a
theorem gP {w:Xn} {o:Obj} (h:w.alloc o=W):zc w W:=by subst h;exact za _ _
theorem gA {w:Xn} {o:Obj} (h:w.alloc o=W):Go.RowKit.Hid (zc w W):=show zc _ _ from gP h
theorem gT {v w:Xn} {o:Obj} (h:w.alloc o=W) (g:Go.RowKit.Hid (zc v w)):Go.RowKit.Hid (zc v W):=show zc _ _ from g.out.trans (gP h)
theorem gD2 {w:Xn} {o q:Obj} (h:(w.alloc o).alloc q=W):Go.RowKit.Hid (zc w W):=show zc _ _ from(gP rfl).trans (gP h)
theorem xP {w:Xn} {l:List Xq} {p:Nat} (h:w.alloc (Xk l.toArray t)=W) (e:Go.RowKit.Hid (w.heap.size=p)):Go.RowKit.Hid (Box W p l):=show Box _ _ _ by subst h;exact Box.top w l t e.out.symm
theorem xA {w:Xn} {l:List Xq} (h:w.alloc (Xk l.toArray t)=W):Go.RowKit.Hid (Box W w.heap.size l):=xP h rfl
theorem xPT {w:Xn} {l:List Xq} {p:Nat} (h:w.alloc (Xk l.toArray t)=W) (e:Go.RowKit.Hid (w.heap.size=p)):Go.RowKit.Hid (zx W p t l):=show zx _ _ _ _ by subst h;exact zx.top w l t e.out.symm
theorem xT {w:Xn} {l:List Xq} (h:w.alloc (Xk l.toArray t)=W):Go.RowKit.Hid (zx W w.heap.size t l):=xPT h rfl
theorem yA {w:Xn} {o:Obj} {l:List Xq} (h:w.alloc o=W) (y:Go.RowKit.Hid (Box w b l)):Go.RowKit.Hid (Box W b l):=show Box _ _ _ by subst h;exact y.out.alloc _
theorem x2a {w:Xn} {l:List Xq} {o:Obj} (h:(w.alloc (Xk l.toArray t)).alloc o=W):Go.RowKit.Hid (Box W w.heap.size l):=yA h (xA rfl)
theorem x2b {w:Xn} {l:List Xq} {o:Obj} (h:(w.alloc o).alloc (Xk l.toArray t)=W):Go.RowKit.Hid (Box W (w.heap.size+1) l):=show Box _ _ _ by subst h;exact Box.top _ l t (by simp)
theorem sA {w:Xn} {o:Obj} (h:w.alloc o=W):Go.RowKit.Hid (W.heap.size=w.heap.size+1):=show _=_ by subst h;simp
theorem gW (w:Xn):zc w w.drew:=show Go.RowKit.Below _ _ _ from(Go.RowKit.Below.refl _ _).drew
theorem zx.grew {w:Xn} {cs:List Xq} (h:zx w b t cs) (a:zc w w'):zx w' b t cs:=(a.block b h.box.lt).trans h
theorem zx.beside {w:Xn} {cs:List Xq} {a:Option Nat} (h:zx w b t cs) (d:w.grownBy w' a) (c:∀g,a=Xa g->b≠g):zx w' b t cs:=by
 unfold zx;rw[d.block b h.box.lt (fun e=>c b e.symm rfl)]
 exact h
theorem zx.set {w:Xn} {cs:List Xq} (h:zx w b t cs) (i:Nat) (u):zx (w.setCell ⟨b,i,Xb⟩ u) b t (cs.set i u):=by
 have a:=h.box.lt;obtain⟨_,c⟩:=aS.1 h;unfold zx World.setCell;rw[Ys (by simpa using a)]
 simp[Uu,c]
theorem Zp {w:Xn} {base b n:Nat} {e:TypeId} {v:Xq} (h:w.ownsRow base e b v n xs) {a:Addr} (j:∀g,v.ownBlock=Xa g->a.block≠g) (u):(w.setCell a u).ownsRow base e b v n xs:=by
 refine⟨h.1,?_⟩
 rcases h.2 with d|⟨g,b,c,rfl,f,h,i⟩
 ·exact .inl d
 exact .inr ⟨g,b,c,rfl,f,by rw[Below.heap_setCell _ _ _ _ (fun e=>j g rfl e.symm)];exact h,i⟩
structure Elt (α:Type) where
 enc:α->List Xq
 k:Nat
 ty:TypeId
 st:TypeId
 bytes:Nat
 zv:Xq
 zero:α
 len:∀a,(enc a).length=k
 one:∀a,∀u∈enc a,u.oneCell'=Xc
 und:Tryz.prog.underlying st=Xa (.slice ty)
 info:(Tryz.prog.info? ty).map (fun i=>(i.zero,i.size,i.bytes))=Xa (Xa zv,k,bytes)
 zok:zv.cells=(enc zero).toArray
 few:k<=bytes
 pos:0<k
section
variable{α:Type} {E:Elt α}
def zq (E:Elt α) (w:Xn) (v:Xq) (l:List α):Prop:=jP E.enc w v l/\l.length*E.bytes<=140737488355328
def zb (E:Elt α) (base:Nat) (w:Xn) (v:Xq) (l:List α):Prop:=w.ownsRow base E.ty E.k v l.length (l.flatMap E.enc)/\l.length*E.bytes<=140737488355328
def zoP (E:Elt α) (w:Xn) (a:Option Addr) (l:List α):Prop:=∀(j:Nat) x,l[j]? =Xa x->∃ad,a=Xa ad/\∀W,zc w W->Zf W (ad.add (j*E.k)) (E.enc x)
theorem zne (E:Elt α):E.zv.cells.size=E.k:=by rw[E.zok];simp[E.len]
theorem jO (E:Elt α) (l:List α):(l.flatMap E.enc).length=l.length*E.k:=qF l fun a _=>E.len a
theorem zq.grew {w:Xn} {v:Xq} {l:List α} (h:zq E w v l) (a:zc w w'):zq E w' v l:=⟨h.1.grew a,h.2⟩
theorem zq.rows {w:Xn} {v:Xq} {l:List α} (h:zq E w v l):∃a c,v= O a l.length c/\zoP E w a l:=by
 obtain⟨⟨a,c,e,f,g⟩,_⟩:=h;refine⟨a,c,e,fun j q b=>?_⟩
 cases a with
 | none=>rw[f rfl]at b;simp at b
 | some x=>exact⟨x,rfl,fun W i=>((g x rfl).grew i).elem (k:=E.k) (fun d _=>E.len d) b⟩
theorem zq.short {w:Xn} {v:Xq} {l:List α} (h:zq E w v l):l.length<=9223372036854775807:=by
 have a:=h.2;have a:l.length*1<=l.length*E.bytes:=Yh _ (nT E.pos E.few);omega
theorem zq.nil (E:Elt α) (w):zq E w (O Xb 0 0) ([]:List α):=⟨⟨Xb,0,rfl,fun _=>rfl,fun x a=>by cases a⟩,by simp⟩
theorem zb.at {base:Nat} {w:Xn} {v:Xq} {l:List α} (h:zb E base w v l):zq E w v l:=⟨Zz h.1,h.2⟩
theorem zb.grew {base:Nat} {w:Xn} {v:Xq} {l:List α} (h:zb E base w v l) (a:zc w w'):zb E base w' v l:=⟨QY h.1 a,h.2⟩
theorem zb.base {base:Nat} {w:Xn} {v:Xq} {l:List α} (h:zb E base w v l) (a:base'<=base):zb E base' w v l:=⟨qM h.1 a,h.2⟩
theorem zb.setCell {base:Nat} {w:Xn} {v:Xq} {l:List α} (h:zb E base w v l) {a:Addr} (b:a.block<base) (u):zb E base (w.setCell a u) v l:=⟨ownsRow_setCell_below h.1 b u,h.2⟩
theorem zb.setOther {base:Nat} {w:Xn} {v:Xq} {l:List α} (h:zb E base w v l) {a:Addr} (b:∀g,v.ownBlock=Xa g->a.block≠g) (u):zb E base (w.setCell a u) v l:=⟨Zp h.1 b u,h.2⟩
theorem zb.lt {base:Nat} {w:Xn} {v:Xq} {l:List α} (h:zb E base w v l):∀g,v.ownBlock=Xa g->base<=g/\g<w.heap.size:=h.1.lt
theorem zb.form {base:Nat} {w:Xn} {v:Xq} {l:List α} (h:zb E base w v l):∃a c,v= O a l.length c:=by
 obtain⟨a,c,b,_⟩:=h.at.rows;exact⟨a,c,b⟩
theorem zb.formS {base:Nat} {w:Xn} {v:Xq} {l:List α} (h:zb E base w v l) (a:0<l.length):∃g c,v= O (Xa ⟨g,0,Xb⟩) l.length c:=by
 rcases h.1.2 with⟨rfl,b⟩|⟨g,a,d,b,_⟩
 ·omega
 exact⟨g,a,b⟩
theorem zb.fresh {base:Nat} {w:Xn} {v:Xq} {l:List α} (h:zb E base w v l):Zm base v:=fun x n c e=>by
 rcases h.1.2 with⟨a,_⟩|⟨g,b,b,a,b,_⟩
 ·rw[a]at e;cases e
 rw[a]at e;cases e;exact b
theorem zb.nil (E:Elt α) (base:Nat) (w):zb E base w (O Xb 0 0) ([]:List α):=⟨World.ownsRow_nil _ _ _ _,by simp⟩
theorem zb.made (E:Elt α) (w:Xn):zb E w.heap.size (w.alloc (Xk #[] E.ty)) (O (Xa ⟨w.heap.size,0,Xb⟩) 0 0) ([]:List α):=⟨World.ownsRow_made w #[] 0 (nR _) (nZ _) (by simp),by simp⟩
theorem zb.ne {base:Nat} {w:Xn} {v:Xq} {l:List α} (h:zb E base w v l) {cs:List Xq} (d:zx w b t cs) (ht:t≠E.ty):∀g,v.ownBlock=Xa g->b≠g:=fun g a e=>by
 subst e
 rcases h.1.2 with⟨rfl,_⟩|⟨c,c,c,rfl,_,c,_⟩
 ·cases a
 simp only[Value.ownBlock,Option.some.injEq]at a;subst a;rw[d]at c;cases c;exact ht rfl
theorem zb.grown {base:Nat} {w:Xn} {a:Option Nat} {v:Xq} {l:List α} (h:zb E base w v l) (i:w.grownBy w' a) (c:∀g,v.ownBlock=Xa g->a≠Xa g):zb E base w' v l:=by
 refine⟨⟨h.1.1,?_⟩,h.2⟩
 rcases h.1.2 with e|⟨g,a,b,rfl,f,d,h⟩
 ·exact .inl e
 exact .inr ⟨g,a,b,rfl,f,by rw[i.block g (aS.1 d).1 (fun e=>c g rfl e.symm)];exact d,h⟩
def Za (E:Elt α) (base:Nat) (w:Xn) (v:Xq) (l:List α):Prop:=zq E w v l/\Zm base v
theorem Za.base {base:Nat} {w:Xn} {v:Xq} {l:List α} (h:Za E base w v l) (a:base'<=base):Za E base' w v l:=⟨h.1,fun x n c e=>nT a (h.2 x n c e)⟩
theorem Za.nil (E:Elt α) (base:Nat) (w):Za E base w (O Xb 0 0) ([]:List α):=⟨zq.nil E w,ZB _⟩
theorem zb.new {base:Nat} {w:Xn} {v:Xq} {l:List α} (h:zb E base w v l):Za E base w v l:=⟨h.at,h.fresh⟩
theorem J4 {w:Xn} {base:Nat} {v:Xq} {l:List α} (b) (a:zb E base w v l) (c:Nat):(Builtin.append_ #[E.st,E.st] b #[v,O Xb 0 c]).run prog w= .ok v w:=by
 obtain⟨b,b,_,d,_⟩:=info_parts E.info
 rcases a.1.2 with⟨rfl,_⟩|⟨g,a,a,rfl,_,_,a,_⟩
 ·simp[Builtin.append_,run_underlying E.und,sizeOf,typeInfo,b,Builtin.lenOf,Builtin.firstCells]
 simp[Builtin.append_,run_underlying E.und,sizeOf,typeInfo,b,Builtin.lenOf,Builtin.firstCells,a,storeCells]
theorem zt {w:Xn} {rest:List Oper} {a:Act} (f:o.guard=Xb) (s x) (q:o.op= .call { callee:= .builtin .append,args:=#[s,x],argTypes:=#[E.st,E.st] })
  (base:Nat) (vs:Xq) (l0:List α) (r:a.eval s=vs) (b:zb E base w vs l0) (c:Xq) (l:List α) (t:a.eval x=c) (i:zq E w c l) (p:(l0.length+l.length)*E.bytes<=140737488355328) (d:base<=w.heap.size)
  (m:∀g w',zb E base w' g (l0++l)->w.grownBy w' vs.ownBlock->wpList prog ops Q rest (a.put o.dst g) w'):wpList prog ops Q (o :: rest) a w:=by
 obtain⟨⟨h,k,rfl,e,c⟩,_⟩:=i
 cases h with
 | none=>
  have h:=e rfl;subst h;refine wpList_plain f fun K h=>?_
  have e:=J4 o.type b k;unfold Oper.wp execOp;simp only[q,resolve,invoke,builtin,Yd,Yi,rA,List.map_toArray,mP,List.map_nil,r,t,Yo,e];exact h _ _ (m vs w (by rw[Om];exact b) (World.grownBy.rfl' _ _))
 | some j=>
  obtain⟨v,u,e,h,i⟩:=info_parts E.info;have n:(l0.length+l.length)*1<=(l0.length+l.length)*E.bytes:=Yh _ (nT E.pos E.few);refine wpList_append_own w f s x E.st q base E.ty v _ E.k E.bytes E.und u e h i (zne E) E.pos vs l0.length _ r b.1 j l.length k (l.flatMap E.enc) t (jO E l) (c j rfl) (qP E.one l) (qB (by omega)) p d fun g w' b n _=>?_
  exact m g w' ⟨by rw[lA,Yu];exact b,by rw[lA];exact p⟩ n
theorem Jt {x y:α} (j:Nat) (cs:List Xq) (b:E.enc y=splice (E.enc x) j cs) (e:j+cs.length<=E.k):∀(l:List α) (i:Nat),l[i]? =Xa x->splice (l.flatMap E.enc) (i*E.k+j) cs=(l.set i y).flatMap E.enc
 | [],i,hi=>by simp at hi
 | a :: l,0,hi=>by
  simp at hi
  subst hi;have c:=E.len a;simp only[splice,Yb,Uj,zA,sZ]at b⊢;rw[b,Yy (by omega),Yx (by omega)]
  simp
 | a :: l,i+1,hi=>by
  have c:=E.len a;have d:=Jt j cs b e l i (by simpa using hi)
  simp only[splice,Yb,sS]at d⊢;rw[<-d,Uk,Ot (i*E.k) E.k,Od,<-c,Of,Od,Og,Yj]
theorem zw {w:Xn} {rest:List Oper} {a:Act} (d:o.guard=Xb) (p x t) (C:o.op= .store t p x) (base:Nat) (v:Xq) (l:List α) (b:zb E base w v l)
  (g i j:Nat) (A:v.ownBlock=Xa g) (e y:α) (hi:l[i]? =Xa e) (cs:List Xq) (f:(Tryz.prog.info? t).map (·.size)=Xa cs.length) (G:E.enc y=splice (E.enc e) j cs) (B:j+cs.length<=E.k) (q:∀u∈cs,u.oneCell'=Xc)
  (ad:Addr) (hp:a.eval p= Xj (Xa ad)) (c:ad=⟨g,i*E.k+j,Xb⟩) (k:Xq) (F:a.eval x=k) (h:k.cells=cs.toArray)
  (n:∀w',zb E base w' v (l.set i y)->w.grownBy w' (Xa g)->w'.heap.size=w.heap.size->wpList prog ops Q rest (a.put o.dst undef) w'):wpList prog ops Q (o :: rest) a w:=by
 subst c;refine wpList_plain d fun K z=>?_
 have d:=(gS.1 hi).1;have c:i*E.k+j+cs.length<=l.length*E.k:=by
  have:(i+1)*E.k<=l.length*E.k:=Yt _ d;rw[Ov]at this;omega
 obtain⟨w',D,m,r,s⟩:=qW (P:=prog) b.1 A (i*E.k+j) cs c q;have d:(Go.sizeOf t).run prog w= .ok cs.length w:=by
  cases c:Tryz.prog.info? t with
  | none=>simp[c]at f
  | some i=>simp[c]at f;simp[Go.sizeOf,typeInfo,c,f]
 have c:(Instr.storeAt t (Xj (Xa ⟨g,i*E.k+j,Xb⟩)) k).run prog w= .ok () w':=by
  simp[Instr.storeAt,Instr.sureAddr,storeVar,Yd,d,Result.andThen,h,D]
 unfold Oper.wp;simp only[execOp,C,hp,F,Yd,c,Result.andThen,Yi,Oper.upon];rw[Jt j cs G B l i hi]at m;exact z _ _ (n w' ⟨by rw[Yn];exact m,by rw[Yn];exact b.2⟩ r s)
theorem qV {w:Xn} {rest:List Oper} {a:Act} (d:o.guard=Xb) (p x) (n:o.op= .store E.ty p x) (base:Nat) (v:Xq) (l:List α) (b:zb E base w v l)
  (g i:Nat) (m:v.ownBlock=Xa g) (y:α) (hi:i<l.length) (ad:Addr) (hp:a.eval p= Xj (Xa ad)) (c:ad=⟨g,i*E.k,Xb⟩) (j:Xq) (q:a.eval x=j) (f:j.cells=(E.enc y).toArray)
  (k:∀w',zb E base w' v (l.set i y)->w.grownBy w' (Xa g)->w'.heap.size=w.heap.size->wpList prog ops Q rest (a.put o.dst undef) w'):wpList prog ops Q (o :: rest) a w:=by
 obtain⟨e,e,_,h,_⟩:=info_parts E.info;refine zw d p x E.ty n base v l b g i 0 m (l[i]) y (gE hi) (E.enc y) (by rw[e];simp[h,E.len]) ?_ (by rw[E.len];omega) (E.one y) ad hp (by rw[c];rfl) j q f k
 unfold splice;rw[Oy,Ol,zA,Oa (by rw[E.len,E.len];exact nR _),Om]
theorem zje (E:Elt α) (n:Nat):(madeCells E.zv.cells (n*E.k)).toList=(Xr n E.zero).flatMap E.enc:=by
 have e:((Xr n E.zero).flatMap E.enc).length=n*E.k:=by rw[jO E];simp
 have a:0<E.k:=E.pos
 apply Ym
 intro j
 rcases Yp j (n*E.k)with h|h
 ·have d:j=j / E.k*E.k+j % E.k:=by rw[Gf];exact(Nat.div_add_mod _ _).symm
  have b:j % E.k<E.k:=Nat.mod_lt _ a;have f:j / E.k<n:=(Ur a).2 h;have g:(E.enc E.zero)[j % E.k]? =Xa ((E.enc E.zero)[j % E.k]'(by rw[E.len];exact b)):=gE _
  have a:=qC (enc:=E.enc) (k:=E.k) (Xr n E.zero) (j / E.k) E.zero (fun c _=>E.len c) (by simp[f]) (j % E.k) _ g
  rw[<-d]at a;rw[a]
  simp[madeCells,h,E.zok,E.len,b]
 rw[gN (by simp[madeCells];exact h),gN (by rw[e];exact h)]
theorem Qw (E:Elt α) {w:Xn} {rest:List Oper} {a:Act} (b:o.guard=Xb) (l) (m:o.op= .makeSlice E.st l l) (n:Nat) (k:a.eval l= Xe Xf n) (f:n*E.bytes<=140737488355328)
  (h:∀C,zb E w.heap.size (w.alloc (Xk C E.ty)) (O (Xa ⟨w.heap.size,0,Xb⟩) n n) (Xr n E.zero)->wpList prog ops Q rest (a.put o.dst (O (Xa ⟨w.heap.size,0,Xb⟩) n n)) (w.alloc (Xk C E.ty))):wpList prog ops Q (o :: rest) a w:=by
 refine wpList_plain b fun K g=>?_
 obtain⟨p,j,c,d,e⟩:=info_parts E.info;have b:n*1<=n*E.bytes:=Yh _ (nT E.pos E.few);have i:((E.bytes:Int)*(n:Int))<=140737488355328:=by
  obtain⟨B,b⟩:=kB (n*E.bytes);rw[b]at f;rw[<-Int.natCast_mul,Gf,b];omega
 have b:=run_make (P:=prog) w E.st E.ty p _ E.und j c .i64 .i64 n n (by omega) (Int.le_refl _) (by rw[e];exact Int.le_trans i (by omega)) (by omega)
 rw[d,tN]at b;unfold Oper.wp;simp only[execOp,m,k,Yd,b,Result.andThen,Yi,Oper.upon];refine g _ _ (h _ ⟨⟨?_,.inr ⟨w.heap.size,n,madeCells E.zv.cells (n*E.k),by rw[lR],nR _,?_,?_,?_,?_,?_⟩⟩,by rw[lR];exact f⟩)
 ·rw[jO E]
 ·show(w.heap.push _)[w.heap.size]? =_
  simp
 ·rw[lR];exact nR _
 ·exact qB (by omega)
 ·rw[size_madeCells]
 rw[lR,Ul (by simp[madeCells]),zje E]
end
structure Out (B0 B1:Nat) (w w':Xn):Prop where
 os:w'.os=w.os
 tape:w'.tape=w.tape
 output:w'.output=w.output
 size:w.heap.size<=w'.heap.size
 block:∀k,k<w.heap.size->(k<B0\/B1<=k)->w'.heap[k]? =w.heap[k]?
theorem Out.refl (B0 B1:Nat) (w):Out B0 B1 w w:=⟨rfl,rfl,rfl,nR _,fun _ _ _=>rfl⟩
theorem Out.trans {a b c:Xn} (h:Out B0 B1 a b) (k:Out B0 B1 b c):Out B0 B1 a c:=
 ⟨k.os.trans h.os,k.tape.trans h.tape,k.output.trans h.output,nT h.size k.size,fun i e d=>(k.block i (Ob e h.size) d).trans (h.block i e d)⟩
theorem Out.grew {a b:Xn} (h:zc a b):Out B0 B1 a b:=⟨Below.os h,Below.tape h,Below.output h,bS h,fun i c _=>Below.block h i c⟩
theorem Out.setCell (B0 B1:Nat) (w:Xn) {p:Addr} (a:B0<=p.block) (b:p.block<B1) (u):Out B0 B1 w (w.setCell p u):=
 ⟨rfl,rfl,rfl,by simp[World.setCell],fun k _ a=>Below.heap_setCell _ _ _ _ (by omega)⟩
theorem Out.grown {w:Xn} {b:Option Nat} (a:w.grownBy w' b) (h:∀g,b=Xa g->B0<=g/\g<B1):Out B0 B1 w w':=
 ⟨a.os,a.tape,a.output,a.size,fun k b c=>a.block k b (fun e=>by have:=h k e.symm;omega)⟩
theorem Out.wide {a b:Xn} (h:Out A0 A1 a b) (c:B0<=A0) (d:A1<=B1):Out B0 B1 a b:=
 ⟨h.os,h.tape,h.output,h.size,fun i c d=>h.block i c (by omega)⟩
theorem Out.drew (w:Xn):Out B0 B1 w w.drew:=Out.grew (gW _)
theorem Out.grew_of {w:Xn} (h:zc w W) (b:w.heap.size<=B0) (k:Out B0 B1 W w'):zc w w':=
 (show Below _ _ _ from Below.trans h ⟨k.os,k.tape,k.output,k.size,fun i a=>k.block i (Ob a (bS h)) (.inl (Ob a b))⟩)
theorem Out.zero {w:Xn} (h:Out 0 0 w w'):zc w w':=⟨h.os,h.tape,h.output,h.size,fun k a=>h.block k a (.inr (nZ _))⟩
theorem Box.out {w:Xn} {cs:List Xq} (h:Box w b cs) (k:Out B0 B1 w w') (c:b<B0\/B1<=b):Box w' b cs:=by
 have a:=h.lt;obtain⟨t,h⟩:=h;exact⟨t,by rw[k.block b a c];exact h⟩
section
variable{α:Type} {E:Elt α}
def ziP (E:Elt α) (B0 B1:Nat) (w:Xn) (v:Xq) (l:List α):Prop:=∀w',Out B0 B1 w w'->zq E w' v l
theorem ziP.now {w:Xn} {v:Xq} {l:List α} (h:ziP E B0 B1 w v l):zq E w v l:=h w (Out.refl _ _ _)
theorem ziP.out {w:Xn} {v:Xq} {l:List α} (h:ziP E B0 B1 w v l) (k:Out B0 B1 w w'):ziP E B0 B1 w' v l:=fun b a=>h b (k.trans a)
theorem ziP.less {w:Xn} {v:Xq} {l:List α} (h:ziP E B0 B1 w v l) (a:B0<=A0) (b:A1<=B1):ziP E A0 A1 w v l:=fun d c=>h d (c.wide a b)
theorem zq.stays (B1:Nat) {w:Xn} {v:Xq} {l:List α} (h:zq E w v l) (a:w.heap.size<=B0) (b:zc w W):ziP E B0 B1 W v l:=fun _ k=>h.grew (k.grew_of b a)
theorem zq.s0 {w:Xn} {v:Xq} {l:List α} (h:zq E w v l):ziP E 0 0 w v l:=fun _ k=>h.grew k.zero
theorem Za.stays {base:Nat} {w:Xn} {v:Xq} {l:List α} (h:Za E base w v l):ziP E 0 base w v l:=fun a k=>by
 obtain⟨⟨⟨b,c,a,d,e⟩,f⟩,g⟩:=h;refine⟨⟨b,c,a,d,fun x b j u c=>?_⟩,f⟩
 subst b;have b:=e x rfl j u c;have d:=World.block_lt_of_cell? _ _ b;have c:=g x _ _ a;rw[World.cell?_of_block (w:=w) (k.block _ d (.inr (by rw[Jo];exact c)))]
 exact b
theorem jV (E:Elt α) (w:Xn) (x:α) (cs:Array Xq) (t) (a:cs=(E.enc x).toArray) (b:E.bytes<=140737488355328):zq E (w.alloc (Xk cs t)) (O (Xa ⟨w.heap.size,0,Xb⟩) 1 1) [x]:=by
 subst a;refine⟨⟨_,1,rfl,fun h=>(by cases h),fun y a=>?_⟩,by simpa using b⟩
 cases a
 simpa using Zf.top w (E.enc x) t rfl
end
def Cap:Xq->Prop
 | O _ n c=>n<=c
 | _=>True
theorem zb.cap {α:Type} {E:Elt α} {base:Nat} {w:Xn} {v:Xq} {l:List α} (h:zb E base w v l):Cap v:=by
 rcases h.1.2 with⟨rfl,_⟩|⟨g,a,a,rfl,_,_,a,_⟩
 ·exact nR _
 exact a
structure qT (D:Nat->Prop) (w w':Xn):Prop where
 os:w'.os=w.os
 tape:w'.tape=w.tape
 output:w'.output=w.output
 size:w.heap.size<=w'.heap.size
 block:∀k,k<w.heap.size->¬D k->w'.heap[k]? =w.heap[k]?
theorem qT.refl (D:Nat->Prop) (w):qT D w w:=⟨rfl,rfl,rfl,nR _,fun _ _ _=>rfl⟩
theorem qT.trans {D:Nat->Prop} {a b c:Xn} (h:qT D a b) (k:qT D b c):qT D a c:=
 ⟨k.os.trans h.os,k.tape.trans h.tape,k.output.trans h.output,nT h.size k.size,fun i e d=>(k.block i (Ob e h.size) d).trans (h.block i e d)⟩
theorem qT.grew {D:Nat->Prop} {a b:Xn} (h:zc a b):qT D a b:=⟨Below.os h,Below.tape h,Below.output h,bS h,fun i c _=>Below.block h i c⟩
theorem qT.wide {D c:Nat->Prop} {a b:Xn} (h:qT c a b) (d:∀k,c k->D k):qT D a b:=⟨h.os,h.tape,h.output,h.size,fun i e c=>h.block i e (fun e=>c (d i e))⟩
section
variable{α:Type} {E:Elt α}
def zqr (E:Elt α) (D:Nat->Prop) (w:Xn) (v:Xq) (l:List α):Prop:=∀w',qT D w w'->zq E w' v l
theorem Za.staysD {base:Nat} {w:Xn} {v:Xq} {l:List α} (h:Za E base w v l) {D:Nat->Prop} (i:∀k,D k->k<base):zqr E D w v l:=fun a k=>by
 obtain⟨⟨⟨b,c,a,d,e⟩,f⟩,g⟩:=h;refine⟨⟨b,c,a,d,fun x b j u c=>?_⟩,f⟩
 subst b;have b:=e x rfl j u c;have c:=World.block_lt_of_cell? _ _ b;have d:=g x _ _ a;rw[World.cell?_of_block (w:=w) (k.block _ c (fun e=>by have:=i _ e;rw[Jo]at this;omega))]
 exact b
end
theorem zb.obj {α:Type} {E:Elt α} {base:Nat} {w:Xn} {v:Xq} {l:List α} (h:zb E base w v l) {g:Nat} (b:v.ownBlock=Xa g):∃cs,w.heap[g]? =Xa (Xk cs E.ty (0,0)):=by
 rcases h.1.2 with⟨rfl,_⟩|⟨a,a,a,rfl,_,c,_⟩
 ·cases b
 simp only[Value.ownBlock,Option.some.injEq]at b;subst b;exact⟨a,c⟩
theorem zb.apart {α a:Type} {E:Elt α} {F:Elt a} {base:Nat} {w:Xn} {v u:Xq} {l:List α} {m:List a} (h:zb E base w v l) (k:zb F base' w u m) (ht:E.ty≠F.ty):∀g,v.ownBlock=Xa g->u.ownBlock≠Xa g:=fun g a c=>by
 obtain⟨b,b⟩:=h.obj a;obtain⟨a,a⟩:=k.obj c;rw[b]at a;simp only[Option.some.injEq,Obj.cells.injEq]at a;exact ht a.2.1
theorem zb.one {α:Type} {E:Elt α} {base g n c:Nat} {w:Xn} {l:List α} (h:zb E base w (O (Xa ⟨g,0,Xb⟩) n c) l) {i:Nat} {x:α} (f:l[i]? =Xa x):Zf w ((Addr.mk g 0 Xb).add (i*E.k)) (E.enc x):=by
 obtain⟨a,a,e,a⟩:=h.at.rows;obtain⟨b,b,d⟩:=a i _ f;cases e;cases b;exact d w (zc.refl _)
def bel (m n:Int):Bool:=decide (0<=m) && decide (m<n)
theorem zaq {m n:Int}:bel m n=Xc↔0<=m/\m<n:=by simp[bel]
theorem zmT {m n:Int} (h:¬(0<=m/\m<n)):bel m n=Xd:=by
 cases a:bel m n with
 | false=>rfl
 | true=>exact absurd (zaq.1 a) h
theorem zpE {α:Type} {p:α->Bool} {fs:List α} {k:Nat} {q:α} (h:fs[k]? =Xa q) (a:p q=Xc):fs.any p=Xc:=Yg.2 ⟨q,mG h,a⟩
theorem zpD {α:Type} {p:α->Bool} {fs:List α} (a:∀(j:Nat) x,fs[j]? =Xa x->p x=Xd):fs.any p=Xd:=Oq.2 fun x c=>by
 obtain⟨j,b⟩:=Xy c;rw[a j x b]
 decide
theorem qR {α:Type} {l:List α} {k:Nat} {q:α} (h:l[k]? =Xa q):l.drop k=q :: l.drop (k+1):=by
 obtain⟨a,rfl⟩:=gS.1 h;exact List.drop_eq_getElem_cons a
theorem qr {α:Type} {l:List α} {k:Nat} {q:α} (h:l[k]? =Xa q):l.take (k+1)=l.take k++ [q]:=by
 rw[Ua,h];rfl
theorem zbW {α:Type} {A:α} {p k:Nat} {s:α} (h:Ub k [(p,A)]=Xa s):k=p/\s=A:=by
 by_cases a:k=p
 ·subst a
  simp at h
  exact⟨rfl,h.symm⟩
 have b:(k == p)=Xd:=by simpa using a
 simp[Ub,b]at h
theorem zkd {α:Type} {A B:α} {p q k:Nat} {s:α} (h:Ub k [(p,A),(q,B)]=Xa s):(k=p/\s=A)\/(k=q/\s=B):=by
 by_cases b:k=p
 ·subst b
  simp at h
  exact .inl ⟨rfl,h.symm⟩
 by_cases c:k=q
 ·subst c;have a:(k == p)=Xd:=by simpa using b
  simp[Ub,a]at h
  exact .inr ⟨rfl,h.symm⟩
 have a:(k == p)=Xd:=by simpa using b
 have b:(k == q)=Xd:=by simpa using c
 simp[Ub,a,b]at h
theorem zq.beside {α:Type} {E:Elt α} {w:Xn} {a:Option Nat} {v:Xq} {l:List α} (h:zq E w v l) (g:w.grownBy w' a) (i:∀x n c,v= O (Xa x) n c->Xa x.block≠a):zq E w' v l:=by
 obtain⟨⟨b,c,a,d,e⟩,f⟩:=h;refine⟨⟨b,c,a,d,fun x d j u b=>?_⟩,f⟩
 subst d;exact g.cell (e x rfl j u b) (by rw[Jo];exact i x _ _ a)
theorem zfd {α:Type} {l:List α} {i:Nat} {v:α} (h:l[i]? =Xa v):l.set i v=l:=by
 apply Ym
 intro j
 by_cases e:j=i
 ·subst e;rw[sF (gS.1 h).1,h]
 rw[sN (fun h=>e h.symm)]
theorem jY {a b c:Xn} {d:Option Nat} (h:a.grownBy b d) (k:b.grownBy c d):a.grownBy c d:=
 ⟨k.os.trans h.os,k.tape.trans h.tape,k.output.trans h.output,nT h.size k.size,fun i d e=>(k.block i (Ob d h.size) e).trans (h.block i d e)⟩
theorem zb1 {a b:Xn} (h:zc a b) (c:Option Nat):a.grownBy b c:=⟨Below.os h,Below.tape h,Below.output h,bS h,fun i c _=>Below.block h i c⟩
def frv (a:Fr):List Xq:=[Xe Xg a.p.b0,Xe Xg a.p.b1,Xe Xg a.p.b2,Xe Xg a.p.b3,Xe Xg a.p.b4,Xe Xg a.p.b5,Xe Xg a.p.b6,Xe Xg a.p.b7,Xe Xf a.r,Xh a.u,Xh a.d,Xe Xf a.f,Xe Xf a.x]
theorem zqD:(Tryz.prog.info? 62).map (fun i=>(i.zero,i.size,i.bytes))=Xa (Xa (Xi #[Xe Xg 0,Xe Xg 0,Xe Xg 0,Xe Xg 0,Xe Xg 0,Xe Xg 0,Xe Xg 0,Xe Xg 0,Xe Xf 0,Xh Xd,Xh Xd,Xe Xf 0,Xe Xf 0]),13,40):=by kernel_rfl
def frz:Xq:= Xi #[Xe Xg 0,Xe Xg 0,Xe Xg 0,Xe Xg 0,Xe Xg 0,Xe Xg 0,Xe Xg 0,Xe Xg 0,Xe Xf 0,Xh Xd,Xh Xd,Xe Xf 0,Xe Xf 0]
theorem zme:frz.cells=(frv fr0).toArray:=rfl
theorem ZO (a):(frv a).length=13:=rfl
theorem zfI (a):∀u∈frv a,u.oneCell'=Xc:=fun u b=>by
 simp only[frv,mC,nM,or_false]at b
 rcases b with rfl|rfl|rfl|rfl|rfl|rfl|rfl|rfl|rfl|rfl|rfl|rfl|rfl <;> rfl
theorem zif:13<=40:=by decide
theorem zdw:0<13:=by decide
theorem zcF {a b:Fr} (h:QO a b=Xc):a=b:=(zdy a b).1 h
theorem zoa {a b:Fr} (h:a≠b):QO a b=Xd:=by
 cases c:QO a b with
 | false=>rfl
 | true=>exact absurd (zcF c) h
def qh (w:Xn) (v:Xq) (l:List Fr):Prop:=jP frv w v l/\l.length*40<=140737488355328
def zk (base:Nat) (w:Xn) (v:Xq) (l:List Fr):Prop:=w.ownsRow base 62 13 v l.length (l.flatMap frv)/\l.length*40<=140737488355328
def zn9 (w:Xn) (a:Option Addr) (l:List Fr):Prop:=∀(j:Nat) x,l[j]? =Xa x->∃ad,a=Xa ad/\∀W,zc w W->Zf W (ad.add (j*13)) (frv x)
theorem zpn:frz.cells.size=13:=by rw[zme];simp[ZO]
theorem QF (l:List Fr):(l.flatMap frv).length=l.length*13:=qF l fun a _=>ZO a
theorem qh.grew {w:Xn} {v:Xq} {l:List Fr} (h:qh w v l) (a:zc w w'):qh w' v l:=⟨h.1.grew a,h.2⟩
theorem qh.rows {w:Xn} {v:Xq} {l:List Fr} (h:qh w v l):∃a c,v= O a l.length c/\zn9 w a l:=by
 obtain⟨⟨a,c,e,f,g⟩,_⟩:=h;refine⟨a,c,e,fun j q b=>?_⟩
 cases a with
 | none=>rw[f rfl]at b;simp at b
 | some x=>exact⟨x,rfl,fun W i=>((g x rfl).grew i).elem (k:=13) (fun d _=>ZO d) b⟩
theorem qh.short {w:Xn} {v:Xq} {l:List Fr} (h:qh w v l):l.length<=9223372036854775807:=by
 have a:=h.2;have a:l.length*1<=l.length*40:=Yh _ (nT zdw zif);omega
theorem qh.setCell {base:Nat} {w:Xn} {v:Xq} {l:List Fr} (h:qh w v l) (c:Zm base v) {a:Addr} (b:a.block<base) (u):qh (w.setCell a u) v l:=⟨h.1.setCell c b u,h.2⟩
theorem qh.nil (w):qh w (O Xb 0 0) ([]:List Fr):=⟨⟨Xb,0,rfl,fun _=>rfl,fun x a=>by cases a⟩,by simp⟩
theorem zk.at {base:Nat} {w:Xn} {v:Xq} {l:List Fr} (h:zk base w v l):qh w v l:=⟨Zz h.1,h.2⟩
theorem zk.grew {base:Nat} {w:Xn} {v:Xq} {l:List Fr} (h:zk base w v l) (a:zc w w'):zk base w' v l:=⟨QY h.1 a,h.2⟩
theorem zk.base {base:Nat} {w:Xn} {v:Xq} {l:List Fr} (h:zk base w v l) (a:base'<=base):zk base' w v l:=⟨qM h.1 a,h.2⟩
theorem zk.setCell {base:Nat} {w:Xn} {v:Xq} {l:List Fr} (h:zk base w v l) {a:Addr} (b:a.block<base) (u):zk base (w.setCell a u) v l:=⟨ownsRow_setCell_below h.1 b u,h.2⟩
theorem zk.setOther {base:Nat} {w:Xn} {v:Xq} {l:List Fr} (h:zk base w v l) {a:Addr} (b:∀g,v.ownBlock=Xa g->a.block≠g) (u):zk base (w.setCell a u) v l:=⟨Zp h.1 b u,h.2⟩
theorem zk.lt {base:Nat} {w:Xn} {v:Xq} {l:List Fr} (h:zk base w v l):∀g,v.ownBlock=Xa g->base<=g/\g<w.heap.size:=h.1.lt
theorem zk.form {base:Nat} {w:Xn} {v:Xq} {l:List Fr} (h:zk base w v l):∃a c,v= O a l.length c:=by
 obtain⟨a,c,b,_⟩:=h.at.rows;exact⟨a,c,b⟩
theorem zk.formS {base:Nat} {w:Xn} {v:Xq} {l:List Fr} (h:zk base w v l) (a:0<l.length):∃g c,v= O (Xa ⟨g,0,Xb⟩) l.length c:=by
 rcases h.1.2 with⟨rfl,b⟩|⟨g,a,d,b,_⟩
 ·omega
 exact⟨g,a,b⟩
theorem zk.fresh {base:Nat} {w:Xn} {v:Xq} {l:List Fr} (h:zk base w v l):Zm base v:=fun x n c e=>by
 rcases h.1.2 with⟨a,_⟩|⟨g,b,b,a,b,_⟩
 ·rw[a]at e;cases e
 rw[a]at e;cases e;exact b
theorem zk.nil (base:Nat) (w):zk base w (O Xb 0 0) ([]:List Fr):=⟨World.ownsRow_nil _ _ _ _,by simp⟩
theorem zk.made (w:Xn):zk w.heap.size (w.alloc (Xk #[] 62)) (O (Xa ⟨w.heap.size,0,Xb⟩) 0 0) ([]:List Fr):=⟨World.ownsRow_made w #[] 0 (nR _) (nZ _) (by simp),by simp⟩
theorem zk.ne {base:Nat} {w:Xn} {v:Xq} {l:List Fr} (h:zk base w v l) {cs:List Xq} (d:zx w b t cs) (ht:t≠62):∀g,v.ownBlock=Xa g->b≠g:=fun g a e=>by
 subst e
 rcases h.1.2 with⟨rfl,_⟩|⟨c,c,c,rfl,_,c,_⟩
 ·cases a
 simp only[Value.ownBlock,Option.some.injEq]at a;subst a;rw[d]at c;cases c;exact ht rfl
def qX (base:Nat) (w:Xn) (v:Xq) (l:List Fr):Prop:=qh w v l/\Zm base v
theorem qX.base {base:Nat} {w:Xn} {v:Xq} {l:List Fr} (h:qX base w v l) (a:base'<=base):qX base' w v l:=⟨h.1,fun x n c e=>nT a (h.2 x n c e)⟩
theorem qX.setCell {base:Nat} {w:Xn} {v:Xq} {l:List Fr} (h:qX base w v l) {a:Addr} (b:a.block<base) (u):qX base (w.setCell a u) v l:=⟨h.1.setCell h.2 b u,h.2⟩
theorem qX.nil (base:Nat) (w):qX base w (O Xb 0 0) ([]:List Fr):=⟨qh.nil w,ZB _⟩
theorem zk.new {base:Nat} {w:Xn} {v:Xq} {l:List Fr} (h:zk base w v l):qX base w v l:=⟨h.at,h.fresh⟩
theorem zb2 {w:Xn} {base:Nat} {v:Xq} {l:List Fr} (b) (a:zk base w v l) (c:Nat):(Builtin.append_ #[26,26] b #[v,O Xb 0 c]).run prog w= .ok v w:=by
 obtain⟨b,b,_,d,_⟩:=info_parts zqD
 rcases a.1.2 with⟨rfl,_⟩|⟨g,a,a,rfl,_,_,a,_⟩
 ·simp[Builtin.append_,run_underlying underlying26,sizeOf,typeInfo,b,Builtin.lenOf,Builtin.firstCells]
 simp[Builtin.append_,run_underlying underlying26,sizeOf,typeInfo,b,Builtin.lenOf,Builtin.firstCells,a,storeCells]
theorem za2 {w:Xn} {rest:List Oper} {a:Act} (f:o.guard=Xb) (s x) (q:o.op= .call { callee:= .builtin .append,args:=#[s,x],argTypes:=#[26,26] })
  (base:Nat) (vs:Xq) (l0:List Fr) (r:a.eval s=vs) (b:zk base w vs l0) (c:Xq) (l:List Fr) (t:a.eval x=c) (i:qh w c l) (p:(l0.length+l.length)*40<=140737488355328) (d:base<=w.heap.size)
  (m:∀g w',zk base w' g (l0++l)->w.grownBy w' vs.ownBlock->wpList prog ops Q rest (a.put o.dst g) w'):wpList prog ops Q (o :: rest) a w:=by
 obtain⟨⟨h,k,rfl,e,c⟩,_⟩:=i
 cases h with
 | none=>
  have h:=e rfl;subst h;refine wpList_plain f fun K h=>?_
  have e:=zb2 o.type b k;unfold Oper.wp execOp;simp only[q,resolve,invoke,builtin,Yd,Yi,rA,List.map_toArray,mP,List.map_nil,r,t,Yo,e];exact h _ _ (m vs w (by rw[Om];exact b) (World.grownBy.rfl' _ _))
 | some j=>
  obtain⟨v,u,e,h,i⟩:=info_parts zqD;have n:(l0.length+l.length)*1<=(l0.length+l.length)*40:=Yh _ (nT zdw zif);refine wpList_append_own w f s x 26 q base 62 v _ 13 40 underlying26 u e h i zpn zdw vs l0.length _ r b.1 j l.length k (l.flatMap frv) t (QF l) (c j rfl) (qP zfI l) (qB (by omega)) p d fun g w' b n _=>?_
  exact m g w' ⟨by rw[lA,Yu];exact b,by rw[lA];exact p⟩ n
theorem zbB {x y:Fr} (j:Nat) (cs:List Xq) (b:frv y=splice (frv x) j cs) (e:j+cs.length<=13):∀(l:List Fr) (i:Nat),l[i]? =Xa x->splice (l.flatMap frv) (i*13+j) cs=(l.set i y).flatMap frv
 | [],i,hi=>by simp at hi
 | a :: l,0,hi=>by
  simp at hi
  subst hi;have c:=ZO a;simp only[splice,Yb,Uj,zA,sZ]at b⊢;rw[b,Yy (by omega),Yx (by omega)]
  simp
 | a :: l,i+1,hi=>by
  have c:=ZO a;have d:=zbB j cs b e l i (by simpa using hi)
  simp only[splice,Yb,sS]at d⊢;rw[<-d,Uk,Ot (i*13) 13,Od,<-c,Of,Od,Og,Yj]
theorem qy {w:Xn} {rest:List Oper} {a:Act} (d:o.guard=Xb) (p x t) (C:o.op= .store t p x) (base:Nat) (v:Xq) (l:List Fr) (b:zk base w v l)
  (g i j:Nat) (A:v.ownBlock=Xa g) (e y:Fr) (hi:l[i]? =Xa e) (cs:List Xq) (f:(Tryz.prog.info? t).map (·.size)=Xa cs.length) (F:frv y=splice (frv e) j cs) (B:j+cs.length<=13) (q:∀u∈cs,u.oneCell'=Xc)
  (ad:Addr) (hp:a.eval p= Xj (Xa ad)) (c:ad=⟨g,i*13+j,Xb⟩) (k:Xq) (E:a.eval x=k) (h:k.cells=cs.toArray)
  (n:∀w',zk base w' v (l.set i y)->w.grownBy w' (Xa g)->w'.heap.size=w.heap.size->wpList prog ops Q rest (a.put o.dst undef) w'):wpList prog ops Q (o :: rest) a w:=by
 subst c;refine wpList_plain d fun K z=>?_
 have d:=(gS.1 hi).1;have c:i*13+j+cs.length<=l.length*13:=by
  have:(i+1)*13<=l.length*13:=Yt _ d;rw[Ov]at this;omega
 obtain⟨w',D,m,r,s⟩:=qW (P:=prog) b.1 A (i*13+j) cs c q;have d:(Go.sizeOf t).run prog w= .ok cs.length w:=by
  cases c:Tryz.prog.info? t with
  | none=>simp[c]at f
  | some i=>simp[c]at f;simp[Go.sizeOf,typeInfo,c,f]
 have c:(Instr.storeAt t (Xj (Xa ⟨g,i*13+j,Xb⟩)) k).run prog w= .ok () w':=by
  simp[Instr.storeAt,Instr.sureAddr,storeVar,Yd,d,Result.andThen,h,D]
 unfold Oper.wp;simp only[execOp,C,hp,E,Yd,c,Result.andThen,Yi,Oper.upon];rw[zbB j cs F B l i hi]at m;exact z _ _ (n w' ⟨by rw[Yn];exact m,by rw[Yn];exact b.2⟩ r s)
theorem zbz {w:Xn} {rest:List Oper} {a:Act} (d:o.guard=Xb) (p x) (n:o.op= .store 62 p x) (base:Nat) (v:Xq) (l:List Fr) (b:zk base w v l)
  (g i:Nat) (m:v.ownBlock=Xa g) (y:Fr) (hi:i<l.length) (ad:Addr) (hp:a.eval p= Xj (Xa ad)) (c:ad=⟨g,i*13,Xb⟩) (j:Xq) (q:a.eval x=j) (f:j.cells=(frv y).toArray)
  (k:∀w',zk base w' v (l.set i y)->w.grownBy w' (Xa g)->w'.heap.size=w.heap.size->wpList prog ops Q rest (a.put o.dst undef) w'):wpList prog ops Q (o :: rest) a w:=by
 obtain⟨e,e,_,h,_⟩:=info_parts zqD;refine qy d p x 62 n base v l b g i 0 m (l[i]) y (gE hi) (frv y) (by rw[e];simp[h,ZO]) ?_ (by rw[ZO];omega) (zfI y) ad hp (by rw[c];rfl) j q f k
 unfold splice;rw[Oy,Ol,zA,Oa (by rw[ZO,ZO];exact nR _),Om]
theorem zkt (n:Nat):(madeCells frz.cells (n*13)).toList=(Xr n fr0).flatMap frv:=by
 have e:((Xr n fr0).flatMap frv).length=n*13:=by rw[QF];simp
 have a:0<13:=zdw
 apply Ym
 intro j
 rcases Yp j (n*13)with h|h
 ·have d:j=j / 13*13+j % 13:=by rw[Gf];exact(Nat.div_add_mod _ _).symm
  have c:j % 13<13:=Nat.mod_lt _ a;have f:j / 13<n:=(Ur a).2 h;have b:(frv fr0)[j % 13]? =Xa ((frv fr0)[j % 13]'(by rw[ZO];exact c)):=gE _
  have a:=qC (enc:=frv) (k:=13) (Xr n fr0) (j / 13) fr0 (fun c _=>ZO c) (by simp[f]) (j % 13) _ b
  rw[<-d]at a;rw[a]
  simp[madeCells,h,zme,ZO]
  rw[b];rfl
 rw[gN (by simp[madeCells];exact h),gN (by rw[e];exact h)]
theorem Ji {w:Xn} {rest:List Oper} {a:Act} (b:o.guard=Xb) (l) (m:o.op= .makeSlice 26 l l) (n:Nat) (j:a.eval l= Xe Xf n) (k:n*40<=140737488355328)
  (h:∀C,zk w.heap.size (w.alloc (Xk C 62)) (O (Xa ⟨w.heap.size,0,Xb⟩) n n) (Xr n fr0)->wpList prog ops Q rest (a.put o.dst (O (Xa ⟨w.heap.size,0,Xb⟩) n n)) (w.alloc (Xk C 62))):wpList prog ops Q (o :: rest) a w:=by
 refine wpList_plain b fun K f=>?_
 obtain⟨p,i,c,d,e⟩:=info_parts zqD;have b:n*1<=n*40:=Yh _ (nT zdw zif);have g:((40:Nat):Int)*(n:Int)<=140737488355328:=by omega
 have b:=run_make (P:=prog) w 26 62 p _ underlying26 i c .i64 .i64 n n (by omega) (Int.le_refl _) (by rw[e];exact Int.le_trans g (by omega)) (by omega)
 rw[d,tN]at b;unfold Oper.wp;simp only[execOp,m,j,Yd,b,Result.andThen,Yi,Oper.upon];refine f _ _ (h _ ⟨⟨?_,.inr ⟨w.heap.size,n,madeCells frz.cells (n*13),by rw[lR],nR _,?_,?_,?_,?_,?_⟩⟩,by rw[lR];exact k⟩)
 ·rw[QF]
 ·show(w.heap.push _)[w.heap.size]? =_
  simp;rfl
 ·rw[lR];exact nR _
 ·exact qB (by omega)
 ·rw[size_madeCells]
 rw[lR,Ul (by simp[madeCells]),zkt]
theorem JM {P:Program} (w E) (k:IntKind) (d:Nat) (xs c:Array Xq) (i:TypeInfo) (e:P.underlying E=Xa (.int k)) (hi:P.info? E=Xa i) (q:i.size=1):
  ∀(a b:List Int) (o:Nat),a.length=b.length->(∀j v,a[j]? =Xa v->xs[o+j]? =Xa (.int k v))->(∀j v,b[j]? =Xa v->c[o+j]? =Xa (.int k v))->
   (Op.eqItems (d+1) E 1 xs c (List.range' o a.length)).run P w= .ok (decide (a=b)) w
 | [],[],_,_,_,_=>by simp[Op.eqItems]
 | [],_ :: _,_,h,_,_=>by simp at h
 | _ :: _,[],_,h,_,_=>by simp at h
 | x :: a,y :: b,o,h,l,m=>by
  have n:=l 0 x rfl;have p:=m 0 y rfl;have g:∀(f:Array Xq) v,f[o+0]? =Xa (.int k v)->(part E f (o*1)).run P w= .ok (.int k v) w:=fun f v f=>by
   rw[Nat.mul_one];exact run_part_plain w (by simp[Program.plainKey,e]) f
  have r:=JM w E k d xs c i e hi q a b (o+1) (by simpa using h) (fun j v f=>by rw[Od,Ot 1 j];exact l (j+1) v (by simpa using f)) (fun j v f=>by rw[Od,Ot 1 j];exact m (j+1) v (by simpa using f))
  simp only[Yq,List.range'_succ,Op.eqItems,Yd,g xs x n,g c y p,rA,run_equalIn_int w d E k k x y e]
  by_cases c:x=y
  ·subst c
   simp[r]
  have:(x == y)=Xd:=by simpa using c
  simp[this,c]
theorem zd3 {P:Program} (w T E) (k:IntKind) (d n:Nat) (a b:List Int) (i:TypeInfo) (f:P.underlying T=Xa (.array n E)) (e:P.underlying E=Xa (.int k)) (hi:P.info? E=Xa i) (c:i.size=1)
  (g:a.length=n) (h:b.length=n):
  (Op.equalIn (d+2) T (Xi (a.map (Value.int k)).toArray) (Xi (b.map (Value.int k)).toArray)).run P w= .ok (decide (a=b)) w:=by
 have h:P.cellsOf E=1:=by simp[Program.cellsOf,hi,c]
 rw[run_equalIn_array w (d+1) _ _ f hi,h,Ut,<-g];exact JM w E k d _ _ i e hi c a b 0 (by omega) (fun j v c=>by simp[c]) (fun j v c=>by simp[c])
def ziS (W:Xn) (y:Addr) (a:Fr):Prop:=
 W.cell? y=Xa (Xe Xg a.p.b0)/\W.cell? { block:=y.block,off:=y.off+1 }=Xa (Xe Xg a.p.b1)/\W.cell? { block:=y.block,off:=y.off+2 }=Xa (Xe Xg a.p.b2)/\W.cell? { block:=y.block,off:=y.off+3 }=Xa (Xe Xg a.p.b3)/\
 W.cell? { block:=y.block,off:=y.off+4 }=Xa (Xe Xg a.p.b4)/\W.cell? { block:=y.block,off:=y.off+5 }=Xa (Xe Xg a.p.b5)/\W.cell? { block:=y.block,off:=y.off+6 }=Xa (Xe Xg a.p.b6)/\W.cell? { block:=y.block,off:=y.off+7 }=Xa (Xe Xg a.p.b7)/\
 W.cell? { block:=y.block,off:=y.off+8 }=Xa (Xe Xf a.r)/\W.cell? { block:=y.block,off:=y.off+9 }=Xa (Xh a.u)/\W.cell? { block:=y.block,off:=y.off+10 }=Xa (Xh a.d)/\W.cell? { block:=y.block,off:=y.off+11 }=Xa (Xe Xf a.f)/\W.cell? { block:=y.block,off:=y.off+12 }=Xa (Xe Xf a.x)
theorem Zf.fr {y:Addr} {a:Fr} (h:Zf W y (frv a)):ziS W y a:=
 ⟨h 0 _ rfl,h 1 _ rfl,h 2 _ rfl,h 3 _ rfl,h 4 _ rfl,h 5 _ rfl,h 6 _ rfl,h 7 _ rfl,h 8 _ rfl,h 9 _ rfl,h 10 _ rfl,h 11 _ rfl,h 12 _ rfl⟩
def zjI (w:Xn) (a:Option Addr) (l:List Fr):Prop:=∀(j:Nat) x,l[j]? =Xa x->∃ad,a=Xa ad/\∀W,zc w W->ziS W (ad.add (j*13)) x
theorem qh.frs {w:Xn} {v:Xq} {l:List Fr} (h:qh w v l):∃a c,v= O a l.length c/\zjI w a l:=by
 obtain⟨a,c,b,d⟩:=h.rows;refine⟨a,c,b,fun j x g=>?_⟩
 obtain⟨b,e,f⟩:=d j x g;exact⟨b,e,fun W b=>(f W b).fr⟩
theorem zqE:(Tryz.prog.info? 5).map (fun i=>(i.zero,i.size,i.bytes))=Xa (Xa (Xe Xg 0),1,1):=by kernel_rfl
theorem Qr (k:Nat) (a b c d e f g h i j l m n p q r:Int) (x):(Op.equalIn (k+2) 60 (Xi #[Xe Xg a,Xe Xg b,Xe Xg c,Xe Xg d,Xe Xg e,Xe Xg f,Xe Xg g,Xe Xg h]) (Xi #[Xe Xg i,Xe Xg j,Xe Xg l,Xe Xg m,Xe Xg n,Xe Xg p,Xe Xg q,Xe Xg r])).run prog x= .ok (zcq ⟨a,b,c,d,e,f,g,h⟩ ⟨i,j,l,m,n,p,q,r⟩) x:=by
 obtain⟨u,s,_,t,_⟩:=info_parts zqE;have:=zd3 (P:=prog) x 60 5 .u8 k 8 [a,b,c,d,e,f,g,h] [i,j,l,m,n,p,q,r] u underlying60 underlying5 s t rfl rfl;rw[show zcq ⟨a,b,c,d,e,f,g,h⟩ ⟨i,j,l,m,n,p,q,r⟩=decide ([a,b,c,d,e,f,g,h]=[i,j,l,m,n,p,q,r])from by
  rw[Uo,zbj,decide_eq_true_iff];simp only[Pg.mk.injEq,List.cons.injEq,and_true]]
 exact this
theorem zgV (a b c e g h i j w:Int) (u d:Bool) (f x:Int) (k l m n p q r s y:Int) (u' t:Bool) (v z:Int) (W):
  (Op.equalIn 10000 62 (Xi #[Xe Xg a,Xe Xg b,Xe Xg c,Xe Xg e,Xe Xg g,Xe Xg h,Xe Xg i,Xe Xg j,Xe Xf w,Xh u,Xh d,Xe Xf f,Xe Xf x]) (Xi #[Xe Xg k,Xe Xg l,Xe Xg m,Xe Xg n,Xe Xg p,Xe Xg q,Xe Xg r,Xe Xg s,Xe Xf y,Xh u',Xh t,Xe Xf v,Xe Xf z])).run prog W
   = .ok (QO ⟨⟨a,b,c,e,g,h,i,j⟩,w,u,d,f,x⟩ ⟨⟨k,l,m,n,p,q,r,s⟩,y,u',t,v,z⟩) W:=by
 have C:Tryz.prog.underlying 62=Xa (.struct (Tryz.prog.fieldsOf 62)):=by kernel_rfl
 have D:Tryz.prog.stoodInHeld 62=Xd:=by kernel_rfl
 have A:=Qr 9997 a b c e g h i j k l m n p q r s;have u3:=underlying3;have B:=Tryz.isAgg3;have B:=Tryz.sizeOf3;have u4:=underlying4;have B:=Tryz.isAgg4;have B:=Tryz.sizeOf4;have B:=Tryz.isAgg60;have B:=Tryz.sizeOf60;rw[show QO ⟨⟨a,b,c,e,g,h,i,j⟩,w,u,d,f,x⟩ ⟨⟨k,l,m,n,p,q,r,s⟩,y,u',t,v,z⟩=(zcq ⟨a,b,c,e,g,h,i,j⟩ ⟨k,l,m,n,p,q,r,s⟩ &&(w == y) &&(u == u') &&(d == t) &&(f == v) &&(x == z))from rfl]
 generalize zcq ⟨a,b,c,e,g,h,i,j⟩ ⟨k,l,m,n,p,q,r,s⟩=P at A⊢
 rw[show(10000:Nat)=9999+1 from rfl,run_equalIn_agg W 9999 62 _ _ C D]
 simp only[Program.fieldsOf,underlying62]
 go_simp
 cases P
 ·simp
 by_cases a:w=y <;> by_cases b:u=u' <;> by_cases c:d=t <;> by_cases e:f=v <;> by_cases g:x=z <;> simp[a,b,c,e,g]
theorem zQ.step {P:Program} {a:Act} {w:Xn} {v:Xq} {K:Xq->Xn->Prop} (b:(execOp a.eval o).run P w= .ok (.value v) w') (h:K v w'):zQ P o a w K:=by
 unfold zQ;rw[b];exact h
section
variable{α:Type} {E:Elt α}
theorem jN {w:Xn} {base g:Nat} (n) (q:zb E base w (O (Xa ⟨g,0,Xb⟩) 0 0) ([]:List α)) (a) (l:List α) (e:zq E w a l) (b:base<=w.heap.size):
  ∃d w',(Builtin.append_ #[E.st,E.st] n #[O (Xa ⟨g,0,Xb⟩) 0 0,a]).run prog w= .ok d w'/\zb E base w' d l/\zc w w'/\(l=[]->d= O (Xa ⟨g,0,Xb⟩) 0 0):=by
 obtain⟨s,f,h,i,j⟩:=info_parts E.info;obtain⟨⟨k,p,rfl,c,a⟩,m⟩:=e
 by_cases e:l=[]
 ·subst e;refine⟨_,w,?_,q,zc.refl w,fun _=>rfl⟩
  cases k with
  | none=>simp[Builtin.append_,run_underlying E.und,sizeOf,typeInfo,f,Builtin.lenOf,Builtin.firstCells,storeCells]
  | some x=>simp[Builtin.append_,run_underlying E.und,sizeOf,typeInfo,f,Builtin.lenOf,Builtin.firstCells,loadCells,loadCellsFrom,storeCells]
 cases k with
 | none=>exact absurd (c rfl) e
 | some k=>
  have c:=List.length_pos_iff.2 e;have c:l.length*1<=l.length*E.bytes:=Yh _ (nT E.pos E.few);obtain⟨d,w',r,q,c⟩:=run_append_arg_grows (P:=prog) w E.st n E.ty s _ E.k E.bytes E.und f h i j (zne E) E.pos ⟨g,0,Xb⟩ 0 0 [] (by simp) (fun j u f=>by simp at f) k l.length p (l.flatMap E.enc) (jO E l) (a k rfl) (by omega) (qB (by omega)) (by simpa using m)
  refine⟨d,w',r,⟨qM (by simpa using q) b,m⟩,⟨c.os,c.tape,c.output,c.size,fun k a=>c.block k a (by simp)⟩,fun h=>absurd h e⟩
theorem qk {w:Xn} {base:Nat} {v:Xq} {l0:List α} (x) (j:zb E base w v l0) (a) (l:List α) (f:zq E w a l) (q:(l0.length+l.length)*E.bytes<=140737488355328) (d:base<=w.heap.size):
  ∃n w',(Builtin.append_ #[E.st,E.st] x #[v,a]).run prog w= .ok n w'/\zb E base w' n (l0++l)/\w.grownBy w' v.ownBlock/\∀u m,m.length<=l0.length->zb E base w u m->zb E base w' u m:=by
 obtain⟨H,G,s,g,t⟩:=info_parts E.info;obtain⟨⟨c,y,rfl,b,a⟩,e⟩:=f;have e:(l0.length+l.length)*1<=(l0.length+l.length)*E.bytes:=Yh _ (nT E.pos E.few)
 cases c with
 | none=>
  have c:=b rfl;subst c;exact⟨v,w,J4 x j y,by simpa using j,World.grownBy.rfl' _ _,fun u m _ h=>h⟩
 | some i=>
  rcases j.1.2 with⟨rfl,b⟩|⟨B,e,b,rfl,b,F,b,b,C,D⟩
  ·obtain⟨n,w',r,k,b,_⟩:=run_append_own (P:=prog) w base E.st x E.ty H _ E.k E.bytes E.und G s g t (zne E) E.pos _ l0.length _ j.1 i l.length y (l.flatMap E.enc) (jO E l) (a i rfl) (qP E.one l) (qB (by omega)) q d
   refine⟨n,w',r,⟨by rw[lA,Yu];exact k,by rw[lA];exact q⟩,b,fun u m _ h=>h.grown b (fun z _ p=>by cases p)⟩
  by_cases c:l0.length+l.length<=e
  ·obtain⟨w',r,k,b⟩:=run_append_fits (P:=prog) w base E.st x E.ty H E.k E.und G g B l0.length e _ j.1 i l.length y (l.flatMap E.enc) (jO E l) (a i rfl) (qP E.one l) c;refine⟨_,w',r,⟨by rw[lA,Yu];exact k,by rw[lA];exact q⟩,b,fun u m M h=>?_⟩
   by_cases A:u.ownBlock=Xa B
   ·rcases h.1.2 with⟨rfl,_⟩|⟨z,f,c,rfl,Q,c,R,S,K,T⟩
    ·cases A
    simp only[Value.ownBlock,Option.some.injEq]at A;subst A;rw[F]at c;simp only[Option.some.injEq,Obj.cells.injEq,and_true]at c;obtain rfl:=c;have c:f=e:=Nat.eq_of_mul_eq_mul_right E.pos (K.symm.trans C);subst c
    rcases k.2 with⟨N,_⟩|⟨c,c,c,C,_,F,K,K,K,L⟩
    ·cases N
    cases C;refine⟨⟨h.1.1,.inr ⟨z,f,c,rfl,Q,F,R,S,K,?_⟩⟩,h.2⟩;have f:m.length*E.k<=l0.length*E.k:=Yt _ M;have C:=jO E l0;have F:c.toList.take (m.length*E.k)=(c.toList.take ((l0.length+l.length)*E.k)).take (m.length*E.k):=by
     rw[List.take_take,Up (by rw[Ov];omega)]
    rw[F,L,Yy (by rw[C];exact f),<-D,List.take_take,Up f]
    exact T
   exact h.grown b (fun z c p=>by cases p;exact A c)
  obtain⟨n,w',r,k,b⟩:=run_append_arg_grows (P:=prog) w E.st x E.ty H _ E.k E.bytes E.und G s g t (zne E) E.pos ⟨B,0,Xb⟩ l0.length e (l0.flatMap E.enc) (jO E l0) (j.1.cells rfl) i l.length y (l.flatMap E.enc) (jO E l) (a i rfl) (by omega) (qB (by omega)) q
  refine⟨n,w',r,⟨by rw[lA,Yu];exact qM k d,by rw[lA];exact q⟩,⟨b.os,b.tape,b.output,b.size,fun k a _=>b.block k a (by simp)⟩,fun u m _ h=>h.grown b (fun z _ p=>by cases p)⟩
end
def pgc (p:List Int):List Xq:=p.map (Value.int .u8)
def ptc (q:Int × List Int):List Xq:= Xe Xf q.1 :: pgc q.2
theorem Z9 (p:List Int):(pgc p).length=p.length:=by simp[pgc]
theorem zbS (q:Int × List Int):(ptc q).length=q.2.length+1:=by simp[ptc,pgc]
theorem Z8 (p):∀u∈pgc p,u.oneCell'=Xc:=fun u a=>by
 obtain⟨x,_,rfl⟩:=Ye.1 a;rfl
theorem zc5 (q:Int × List Int):∀u∈ptc q,u.oneCell'=Xc:=fun u a=>by
 rcases mC.1 a with rfl|h
 ·rfl
 exact Z8 _ u h
def jF (w:Xn) (v:Xq) (ps:List (List Int)):Prop:=jP pgc w v ps/\(∀p∈ps,p.length=8)/\ps.length*8<=140737488355328
def jU (w:Xn) (v:Xq) (qs:List (Int × List Int)):Prop:=jP ptc w v qs/\(∀q∈qs,q.2.length=8)/\qs.length*16<=140737488355328
theorem jF.grew {w:Xn} {v:Xq} {a:List (List Int)} (h:jF w v a) (b:zc w w'):jF w' v a:=⟨h.1.grew b,h.2⟩
theorem jU.grew {w:Xn} {v:Xq} {a:List (Int × List Int)} (h:jU w v a) (b:zc w w'):jU w' v a:=⟨h.1.grew b,h.2⟩
def zj (base:Nat) (w:Xn) (v:Xq) (ps:List (List Int)):Prop:=w.ownsRow base 60 8 v ps.length (ps.flatMap pgc)/\(∀p∈ps,p.length=8)/\ps.length*8<=140737488355328
def zr (base:Nat) (w:Xn) (v:Xq) (qs:List (Int × List Int)):Prop:=w.ownsRow base 69 9 v qs.length (qs.flatMap ptc)/\(∀q∈qs,q.2.length=8)/\qs.length*16<=140737488355328
theorem zj.at {base:Nat} {w:Xn} {v:Xq} {a:List (List Int)} (h:zj base w v a):jF w v a:=⟨Zz h.1,h.2⟩
theorem zr.at {base:Nat} {w:Xn} {v:Xq} {a:List (Int × List Int)} (h:zr base w v a):jU w v a:=⟨Zz h.1,h.2⟩
def Qi (w:Xn) (d:Xq) (ps:List (List Int)) (qs:List (Int × List Int)):Prop:=∃b q,d= Xi #[b,q]/\jF w b ps/\jU w q qs
theorem Qi.grew {w:Xn} {d:Xq} {b:List (List Int)} {c:List (Int × List Int)} (h:Qi w d b c) (a:zc w w'):Qi w' d b c:=by
 obtain⟨b,q,c,e,f⟩:=h;exact⟨b,q,c,e.grew a,f.grew a⟩
theorem zfr (l:List Int) (i:l.length=8):∃a b c d e f g h,l=[a,b,c,d,e,f,g,h]:=by
 match l,i with
 | [a,b,c,d,e,f,g,h],_=>exact⟨a,b,c,d,e,f,g,h,rfl⟩
def zjF (W:Xn) (y:Addr) (m b0 b1 b2 b3 b4 b5 b6 b7:Int):Prop:=
 W.cell? y=Xa (Xe Xf m)/\W.cell? { block:=y.block,off:=y.off+1 }=Xa (Xe Xg b0)/\W.cell? { block:=y.block,off:=y.off+2 }=Xa (Xe Xg b1)/\W.cell? { block:=y.block,off:=y.off+3 }=Xa (Xe Xg b2)/\
 W.cell? { block:=y.block,off:=y.off+4 }=Xa (Xe Xg b3)/\W.cell? { block:=y.block,off:=y.off+5 }=Xa (Xe Xg b4)/\W.cell? { block:=y.block,off:=y.off+6 }=Xa (Xe Xg b5)/\W.cell? { block:=y.block,off:=y.off+7 }=Xa (Xe Xg b6)/\W.cell? { block:=y.block,off:=y.off+8 }=Xa (Xe Xg b7)
def zhu (W:Xn) (y:Addr) (b0 b1 b2 b3 b4 b5 b6 b7:Int):Prop:=
 W.cell? y=Xa (Xe Xg b0)/\W.cell? { block:=y.block,off:=y.off+1 }=Xa (Xe Xg b1)/\W.cell? { block:=y.block,off:=y.off+2 }=Xa (Xe Xg b2)/\W.cell? { block:=y.block,off:=y.off+3 }=Xa (Xe Xg b3)/\
 W.cell? { block:=y.block,off:=y.off+4 }=Xa (Xe Xg b4)/\W.cell? { block:=y.block,off:=y.off+5 }=Xa (Xe Xg b5)/\W.cell? { block:=y.block,off:=y.off+6 }=Xa (Xe Xg b6)/\W.cell? { block:=y.block,off:=y.off+7 }=Xa (Xe Xg b7)
theorem Zf.put {y:Addr} {m a b c d e f g i:Int} (h:Zf W y (ptc (m,[a,b,c,d,e,f,g,i]))):zjF W y m a b c d e f g i:=
 ⟨h 0 _ rfl,h 1 _ rfl,h 2 _ rfl,h 3 _ rfl,h 4 _ rfl,h 5 _ rfl,h 6 _ rfl,h 7 _ rfl,h 8 _ rfl⟩
theorem Zf.page {y:Addr} {a b c d e f g i:Int} (h:Zf W y (pgc [a,b,c,d,e,f,g,i])):zhu W y a b c d e f g i:=
 ⟨h 0 _ rfl,h 1 _ rfl,h 2 _ rfl,h 3 _ rfl,h 4 _ rfl,h 5 _ rfl,h 6 _ rfl,h 7 _ rfl⟩
def zdU (w:Xn) (a:Option Addr) (qs:List (Int × List Int)):Prop:=
 ∀(j:Nat) q,qs[j]? =Xa q->∃x m b0 b1 b2 b3 b4 b5 b6 b7,a=Xa x/\q=(m,[b0,b1,b2,b3,b4,b5,b6,b7])/\∀W,zc w W->zjF W (x.add (j*9)) m b0 b1 b2 b3 b4 b5 b6 b7
def zjG (w:Xn) (a:Option Addr) (ps:List (List Int)):Prop:=
 ∀(j:Nat) p,ps[j]? =Xa p->∃x b0 b1 b2 b3 b4 b5 b6 b7,a=Xa x/\p=[b0,b1,b2,b3,b4,b5,b6,b7]/\∀W,zc w W->zhu W (x.add (j*8)) b0 b1 b2 b3 b4 b5 b6 b7
theorem jU.rows {w:Xn} {v:Xq} {d:List (Int × List Int)} (r:jU w v d):∃a c,v= O a d.length c/\zdU w a d:=by
 obtain⟨⟨a,c,s,t,u⟩,e,_⟩:=r;refine⟨a,c,s,fun D C f=>?_⟩
 have b:=mG f;obtain⟨B,A⟩:=C;obtain⟨h,i,j,l,m,n,p,q,rfl⟩:=zfr A (e _ b)
 cases a with
 | none=>rw[t rfl]at b;cases b
 | some x=>exact⟨x,B,h,i,j,l,m,n,p,q,rfl,rfl,fun W y=>(((u x rfl).grew y).elem (k:=9) (fun g z=>by rw[zbS,e g z]) f).put⟩
theorem jF.rows {w:Xn} {v:Xq} {d:List (List Int)} (r:jF w v d):∃a c,v= O a d.length c/\zjG w a d:=by
 obtain⟨⟨a,c,s,t,u⟩,e,_⟩:=r;refine⟨a,c,s,fun B A f=>?_⟩
 have b:=mG f;obtain⟨h,i,j,l,m,n,p,q,rfl⟩:=zfr A (e _ b)
 cases a with
 | none=>rw[t rfl]at b;cases b
 | some x=>exact⟨x,h,i,j,l,m,n,p,q,rfl,rfl,fun W y=>(((u x rfl).grew y).elem (k:=8) (fun g z=>by rw[Z9,e g z]) f).page⟩
theorem zaf (a) (n c:Nat) (q) (m:Int) (w):
  Xp prog 108 #[Xi #[O a n c,q],Xe Xf m] w fun e w'=>e= Xl (Xh (jE m n))/\zc w w':=by
 have H:Xo (jE m n=(decide (0<=m) && decide (m<n))):=rfl
 by_cases b:0<=m
 ·by_cases b:m<n
  ·go_enter func108,ntmps108
   go_wp2;go_ret;exact⟨by rw[H.out];simp[*],(bR _ _).alloc (nR _) _⟩
  go_enter func108,ntmps108
  go_wp2;go_ret;exact⟨by rw[H.out];simp[*],(bR _ _).alloc (nR _) _⟩
 go_enter func108,ntmps108
 go_wp2;go_ret;exact⟨by rw[H.out];simp;omega,(bR _ _).alloc (nR _) _⟩
theorem zjJ (a) (n c:Nat) (f) (B:Nat) (q:Int × List Int) (m:q.2.length=8) (w:Xn) (b:w.cell? ⟨B,0,Xb⟩=Xa (O a n c)) (d:w.cell? ⟨B,1,Xb⟩=Xa f):
  Xp prog 107 #[Xi (ptc q).toArray,Xj (Xa ⟨B,0,Xb⟩)] w fun e w'=>e= Xl (Xh (!jE q.1 n))/\zc w w':=by
 obtain⟨r,p⟩:=q;obtain⟨d,f,g,h,i,j,k,l,rfl⟩:=zfr p m;have m:=World.block_lt_of_cell? _ _ b;have b:B≠w.heap.size:=by simp at m;omega
 show Xp prog 107 #[Xi #[Xe Xf r,Xe Xg d,Xe Xg f,Xe Xg g,Xe Xg h,Xe Xg i,Xe Xg j,Xe Xg k,Xe Xg l],Xj (Xa ⟨B,0,Xb⟩)] w _
 go_enter func107,ntmps107
 go_wp2_with (go_at_call 108;refine(zaf _ _ _ _ _ _).mono ?_;rintro e w' ⟨rfl,b⟩)
 go_ret;exact⟨rfl,zc.trans ((bR _ _).alloc (nR _) _) b⟩
def zqB (p:Int × List Int->Bool) (qs:List (Int × List Int)) (r:Int):Prop:=
 (r=-1/\∀(j:Nat) q,qs[j]? =Xa q->p q=Xd)\/∃(k:Nat) (q:Int × List Int),r=(k:Int)/\qs[k]? =Xa q/\p q=Xc/\∀(j:Nat) q',j<k->qs[j]? =Xa q'->p q'=Xd
def zm2 (g:Nat) (lb:Array Xq) (p:Int × List Int->Bool) (w:Xn):Prop:=
 ∀W q,zc w W->q.2.length=8->Xp prog g (#[Xi (ptc q).toArray]++lb) W fun e W'=>e= Xl (Xh (p q))/\zc W W'
theorem zfA (p:Int × List Int->Bool) (g:Nat) (lb:Array Xq) (a6:∀c w,(callFunc g c).run prog w= .ok (.enter g c) w) (v) (k:List (Int × List Int)) (w) (z:jU w v k) (hp:zm2 g lb p w):
  Xp prog 137 #[v,.func (.func g) #[] lb] w fun e w'=>∃P:Int,e= Xl (Xe Xf P)/\zc w w'/\zqB p k P:=by
 obtain⟨W,X,rfl,d⟩:=z.rows;have m:k.length<=9223372036854775807:=by have:=z.2.2;omega
 have R:=dD d;have Q:=dD hp;clear d hp z;obtain⟨n,y⟩:=kB k.length;have B:=dD y;rw[y]at m⊢;clear y
 go_enter func137,ntmps137
 go_wp2
 go_loopg [5,8] n (fun S _ V wr=>∃b:Nat,b<=n/\n - b<=S/\V= Xe Xf b/\Xo (zc w wr)/\Xo (∀j q,j<b->k[j]? =Xa q->p q=Xd))
 case atStart=>exact⟨0,nZ _,by omega,rfl,zc.refl w,fun j q r=>absurd r (nL _)⟩
 obtain⟨b,T,a7,rfl,l,A⟩:=hrel
 by_cases h:b<n
 ·have t:=kC h
  have s:b<k.length:=by rw[B.out];exact h
  obtain⟨q,x⟩:∃q,Xo (k[b]? =Xa q):=⟨_,gE s⟩;obtain⟨a8,N,C,D,E,F,G,H,K,L,rfl,rfl,M⟩:=R.out b q x.out;obtain⟨Y,Z,I,a0,a1,a2,a3,a4,a5⟩:=M wr l.out;have a:=Q.out wr (N,[C,D,E,F,G,H,K,L]) l rfl;clear M s
  cases u:p (N,[C,D,E,F,G,H,K,L])with
  | true=>
   rw[u]at a
   go_wp2_with (go_at_fn g;refine a.mono ?_;rintro e w' ⟨rfl,f⟩)
   go_ret;exact⟨_,rfl,l.trans f, .inr ⟨b,_,rfl,x,u,A⟩⟩
  | false=>
   rw[u]at a
   go_wp2_with (go_at_fn g;refine a.mono ?_;rintro e w' ⟨rfl,f⟩)
   go_roundg (n -(b+1))
   case measure=>omega
   refine⟨b+1,by omega,by omega,by go_num,l.trans f,(show Xo _ from fun j U r i=>?_)⟩
   by_cases e:j=b
   ·subst e;rw[x.out]at i;cases i;exact u
   exact A j U (by omega) i
 have t:=kD h
 have:b=n:=by omega
 subst this;go_wp2;go_ret;refine⟨_,rfl,l,.inl ⟨rfl,fun j q r=>A.out j q ?_ r⟩⟩
 have:=(gS.1 r).1;rw[B.out]at this;exact this
theorem zcw (p:Int × List Int->Bool) (g:Nat) (lb:Array Xq) (c:∀a w,(callFunc g a).run prog w= .ok (.enter g a) w) (v) (b:List (Int × List Int)) (w) (d:jU w v b) (hp:zm2 g lb p w):
  Xp prog 106 #[v,.func (.func g) #[] lb] w fun e w'=>e= Xl (Xh (b.any p))/\zc w w':=by
 have a:=zfA p g lb c v b w d hp;clear d hp c
 go_enter func106,ntmps106
 go_wp2_with (go_at_call 137;refine a.mono ?_;rintro e w' ⟨r,rfl,d,a⟩)
 go_ret;have c:b.any p=decide (0<=r):=by
  rcases a with⟨rfl,h⟩|⟨k,q,rfl,a,b,_⟩
  ·rw[show decide ((0:Int)<=-1)=Xd from rfl,Oq]
   intro q i;obtain⟨j,f⟩:=Xy i;rw[h j q f];simp
  rw[show decide ((0:Int)<=(k:Int))=Xc from by simp,Yg]
  exact⟨q,mG a,b⟩
 rw[c];exact⟨rfl,d⟩
theorem zhZ (a) (n c:Nat) (g) (B:Nat) (w:Xn) (b:w.cell? ⟨B,0,Xb⟩=Xa (O a n c)) (d:w.cell? ⟨B,1,Xb⟩=Xa g):
  zm2 107 #[Xj (Xa ⟨B,0,Xb⟩)] (fun q=>!jE q.1 n) w:=fun W q f h=>by
 have e:=World.block_lt_of_cell? _ _ b;exact zjJ a n c g B q h W ((Below.cell f (p:=⟨B,0,Xb⟩) e).trans b) ((Below.cell f (p:=⟨B,1,Xb⟩) e).trans d)
theorem za8 (a) (n c:Nat) (r) (d:List (Int × List Int)) (w) (l:jU w r d):
  Xp prog 73 #[Xi #[O a n c,r]] w fun e w'=>e= Xl (Xe Xf (zB n d))/\zc w w':=by
 have f:Xo (zB n d=if 80<n then 4 else if 400<d.length then 4 else if d.any (fun q=>!jE q.1 n)then 3 else 0):=rfl
 obtain⟨g,h,rfl,_⟩:=l.rows;have b:=zcw (fun q=>!jE q.1 n) 107 #[Xj (Xa ⟨w.heap.size,0,Xb⟩)] (enters_of func107 (by kernel_rfl) rfl) (O g d.length h) d (w.alloc (Xk #[O a n c,O g d.length h] 34)) (l.grew (za _ _)) (zhZ a n c (O g d.length h) _ _ (by simp) (by simp))
 clear l;obtain⟨nq,t⟩:=kA d.length;rw[t.out]at b f⊢;obtain⟨u,s⟩:=kA (d.any fun q=>!jE q.1 n)
 rw[s.out]at b f
 by_cases m:80<n
 ·have i:(80:Int)< (n:Int):=by omega
  rw[kE m]at f;clear b
  go_enter func73,ntmps73
  go_wp2;go_ret;exact⟨by rw[f.out];rfl,za _ _⟩
 have i:¬(80:Int)< (n:Int):=by omega
 rw[kF m]at f
 by_cases p:400<nq
 ·have j:(400:Int)< (nq:Int):=by omega
  rw[kE p]at f;clear b
  go_enter func73,ntmps73
  go_wp2;go_ret;exact⟨by rw[f.out];rfl,za _ _⟩
 have j:¬(400:Int)< (nq:Int):=by omega
 rw[kF p]at f
 cases u with
 | true=>
  go_enter func73,ntmps73
  go_wp2_with (go_at_call 106;refine b.mono ?_;rintro e w' ⟨rfl,k⟩)
  go_ret;exact⟨by rw[f.out];rfl,(za _ _).trans k⟩
 | false=>
  go_enter func73,ntmps73
  go_wp2_with (go_at_call 106;refine b.mono ?_;rintro e w' ⟨rfl,k⟩)
  go_ret;exact⟨by rw[f.out];rfl,(za _ _).trans k⟩
theorem Jr (a) (n c:Nat) (h) (d:List (Int × List Int)) (m:Int) (w) (g:jU w h d):
  Xp prog 147 #[Xi #[O a n c,h],Xe Xf m] w fun e w'=>e= Xl (Xe Xf (zi n d m))/\zc w w':=by
 have f:Xo (zi n d m=if zB n d=0 then(if jE m n then 0 else 3)else zB n d):=rfl;have b:=za8 a n c h d (w.alloc (Xk #[O a n c,h] 34)) (g.grew (za _ _));clear g;obtain⟨r,g⟩:=kA (zB n d);rw[g.out]at b f
 by_cases j:r=0
 ·subst j;rw[kE rfl]at f
  cases i:jE m n with
  | true=>
   rw[i]at f
   go_enter func147,ntmps147
   go_wp2_with (first
    | (go_at_call 73;refine b.mono ?_;rintro e w' ⟨rfl,d⟩;have l:w'.cell? ⟨w.heap.size,0,Xb⟩=Xa (O a n c):=(Below.cell d (by simp)).trans (by simp);have p:w'.cell? ⟨w.heap.size,1,Xb⟩=Xa h:=(Below.cell d (by simp)).trans (by simp))
    | (go_at_call 108;refine(zaf _ _ _ _ _ _).mono ?_;rintro e k ⟨rfl,g⟩;rw[i]))
   go_ret;exact⟨by rw[f.out];rfl,((za _ _).trans d).trans g⟩
  | false=>
   rw[i]at f
   go_enter func147,ntmps147
   go_wp2_with (first
    | (go_at_call 73;refine b.mono ?_;rintro e w' ⟨rfl,d⟩;have l:w'.cell? ⟨w.heap.size,0,Xb⟩=Xa (O a n c):=(Below.cell d (by simp)).trans (by simp);have p:w'.cell? ⟨w.heap.size,1,Xb⟩=Xa h:=(Below.cell d (by simp)).trans (by simp))
    | (go_at_call 108;refine(zaf _ _ _ _ _ _).mono ?_;rintro e k ⟨rfl,g⟩;rw[i]))
   go_ret;exact⟨by rw[f.out];rfl,((za _ _).trans d).trans g⟩
 have g:(r != 0)=Xc:=by simpa using j
 rw[kF j]at f
 go_enter func147,ntmps147
 go_wp2_with (go_at_call 73;refine b.mono ?_;rintro e w' ⟨rfl,d⟩)
 go_ret;exact⟨by rw[f.out];rfl,(za _ _).trans d⟩
theorem zqF:(Tryz.prog.info? 60).map (fun i=>(i.zero,i.size,i.bytes))=Xa (Xa (Xi #[Xe Xg 0,Xe Xg 0,Xe Xg 0,Xe Xg 0,Xe Xg 0,Xe Xg 0,Xe Xg 0,Xe Xg 0]),8,8):=by kernel_rfl
theorem zqG:(Tryz.prog.info? 69).map (fun i=>(i.zero,i.size,i.bytes))=Xa (Xa (Xi #[Xe Xf 0,Xe Xg 0,Xe Xg 0,Xe Xg 0,Xe Xg 0,Xe Xg 0,Xe Xg 0,Xe Xg 0,Xe Xg 0]),9,16):=by kernel_rfl
theorem zaM (v) (f:List (List Int)) (w:Xn) (i:jF w v f):
  Xp prog 98 #[v] w fun e w'=>∃h,e= Xl h/\zj w.heap.size w' h f/\zc w w':=by
 obtain⟨⟨d,g,rfl,c,b⟩,j,a⟩:=i;have i:∀(w:Xn) (d:Option Addr) (n g k i:Nat),(binOp .eql 31 (O d n g) (O Xb k i)).run prog w= .ok (Xh d.isNone) w:=fun w d n g k i=>Lib.run_eql_slice_nil w _ _ d n g k i underlying31
 cases d with
 | none=>
  have d:=c rfl;subst d;clear b c j a
  go_enter func98,ntmps98
  go_wp2;go_ret;exact⟨_,rfl,⟨World.ownsRow_nil _ _ _ _,by simp,by simp⟩,zc.refl w⟩
 | some x=>
  have A:=b x rfl;have k:=dD A;have d:=dD a;have i:=dD j;clear b c a j;obtain⟨l,j,a,b,c⟩:=info_parts zqF
  go_enter func98,ntmps98
  go_wp2_with (at_builtin;refine wpList_append_own _ rfl _ _ 31 rfl w.heap.size 60 l _ 8 8 underlying31 j a b c rfl (by decide) _ _ _ rfl (World.ownsRow_made w #[] 0 (nR _) (nZ _) (by simp)) x f.length g (f.flatMap pgc) rfl ?qc1 ?qc2 ?qc3 ?qc4 ?qc5 ?qc6 ?_)
  case qc1=>exact qF f fun p a=>by rw[Z9,i.out p a]
  case qc2=>exact k.grew (za _ _)
  case qc3=>exact qP Z8 f
  case qc4=>rw[zA];exact qB (by have:=d.out;omega)
  case qc5=>rw[zA];exact d.out
  case qc6=>simp
  intro h a b a c;go_wp2;go_ret;exact⟨h,rfl,⟨by simpa using b,i,d⟩,((bR _ w).alloc (nR _) _).grown a (by simp) (by intro k a;simp[Value.ownBlock]at a;omega)⟩
theorem zfQ (v) (f:List (Int × List Int)) (w:Xn) (i:jU w v f):
  Xp prog 123 #[v] w fun e w'=>∃h,e= Xl h/\zr w.heap.size w' h f/\zc w w':=by
 obtain⟨⟨d,g,rfl,c,b⟩,j,a⟩:=i;have i:∀(w:Xn) (d:Option Addr) (n g k i:Nat),(binOp .eql 32 (O d n g) (O Xb k i)).run prog w= .ok (Xh d.isNone) w:=fun w d n g k i=>Lib.run_eql_slice_nil w _ _ d n g k i underlying32
 cases d with
 | none=>
  have d:=c rfl;subst d;clear b c j a
  go_enter func123,ntmps123
  go_wp2;go_ret;exact⟨_,rfl,⟨World.ownsRow_nil _ _ _ _,by simp,by simp⟩,zc.refl w⟩
 | some x=>
  have A:=b x rfl;have k:=dD A;have d:=dD a;have i:=dD j;clear b c a j;obtain⟨l,j,a,b,c⟩:=info_parts zqG
  go_enter func123,ntmps123
  go_wp2_with (at_builtin;refine wpList_append_own _ rfl _ _ 32 rfl w.heap.size 69 l _ 9 16 underlying32 j a b c rfl (by decide) _ _ _ rfl (World.ownsRow_made w #[] 0 (nR _) (nZ _) (by simp)) x f.length g (f.flatMap ptc) rfl ?qc1 ?qc2 ?qc3 ?qc4 ?qc5 ?qc6 ?_)
  case qc1=>exact qF f fun p a=>by rw[zbS,i.out p a]
  case qc2=>exact k.grew (za _ _)
  case qc3=>exact qP zc5 f
  case qc4=>rw[zA];exact qB (by have:=d.out;omega)
  case qc5=>rw[zA];exact d.out
  case qc6=>simp
  intro h a b a c;go_wp2;go_ret;exact⟨h,rfl,⟨by simpa using b,i,d⟩,((bR _ w).alloc (nR _) _).grown a (by simp) (by intro k a;simp[Value.ownBlock]at a;omega)⟩
def za5 (base:Nat) (w:Xn) (d:Xq) (ps:List (List Int)) (qs:List (Int × List Int)):Prop:=∃b q,d= Xi #[b,q]/\zj base w b ps/\zr base w q qs
theorem zj.grew {base:Nat} {w:Xn} {v:Xq} {a:List (List Int)} (h:zj base w v a) (b:zc w w'):zj base w' v a:=⟨QY h.1 b,h.2⟩
theorem zr.grew {base:Nat} {w:Xn} {v:Xq} {a:List (Int × List Int)} (h:zr base w v a) (b:zc w w'):zr base w' v a:=⟨QY h.1 b,h.2⟩
theorem zj.base {base:Nat} {w:Xn} {v:Xq} {a:List (List Int)} (h:zj base w v a) (b:base'<=base):zj base' w v a:=⟨qM h.1 b,h.2⟩
theorem zr.base {base:Nat} {w:Xn} {v:Xq} {a:List (Int × List Int)} (h:zr base w v a) (b:base'<=base):zr base' w v a:=⟨qM h.1 b,h.2⟩
theorem zj.slice {base:Nat} {w:Xn} {v:Xq} {b:List (List Int)} (h:zj base w v b):∃a n c,v= O a n c:=by
 rcases h.1.2 with⟨rfl,_⟩|⟨g,b,b,rfl,_⟩
 ·exact⟨_,_,_,rfl⟩
 exact⟨_,_,_,rfl⟩
theorem zr.slice {base:Nat} {w:Xn} {v:Xq} {b:List (Int × List Int)} (h:zr base w v b):∃a n c,v= O a n c:=by
 rcases h.1.2 with⟨rfl,_⟩|⟨g,b,b,rfl,_⟩
 ·exact⟨_,_,_,rfl⟩
 exact⟨_,_,_,rfl⟩
theorem zj.setCell {base:Nat} {w:Xn} {v:Xq} {b:List (List Int)} (h:zj base w v b) {a:Addr} (c:a.block<base) (u):zj base (w.setCell a u) v b:=⟨ownsRow_setCell_below h.1 c u,h.2⟩
theorem zr.setCell {base:Nat} {w:Xn} {v:Xq} {b:List (Int × List Int)} (h:zr base w v b) {a:Addr} (c:a.block<base) (u):zr base (w.setCell a u) v b:=⟨ownsRow_setCell_below h.1 c u,h.2⟩
def z3 (base:Nat) (w:Xn) (d:Xq) (ps:List (List Int)) (qs:List (Int × List Int)):Prop:=∃b q,d= Xi #[b,q]/\jF w b ps/\jU w q qs/\Zm base b/\Zm base q
theorem z3.base {base:Nat} {w:Xn} {d:Xq} {b:List (List Int)} {c:List (Int × List Int)} (h:z3 base w d b c) (a:base'<=base):z3 base' w d b c:=by
 obtain⟨b,q,c,e,f,g,i⟩:=h;exact⟨b,q,c,e,f,fun x n c e=>nT a (g x n c e),fun x n c e=>nT a (i x n c e)⟩
theorem z3.setCell {base:Nat} {w:Xn} {d:Xq} {b:List (List Int)} {c:List (Int × List Int)} (i:z3 base w d b c) {a:Addr} (g:a.block<base) (u):z3 base (w.setCell a u) d b c:=by
 obtain⟨h,q,j,b,c,e,f⟩:=i;exact⟨h,q,j,⟨b.1.setCell e g u,b.2⟩,⟨c.1.setCell f g u,c.2⟩,e,f⟩
theorem zj.fresh {base:Nat} {w:Xn} {v:Xq} {a:List (List Int)} (h:zj base w v a):Zm base v:=fun x n c e=>by
 rcases h.1.2 with⟨a,_⟩|⟨g,b,b,a,b,_⟩
 ·rw[a]at e;cases e
 rw[a]at e;cases e;exact b
theorem zr.fresh {base:Nat} {w:Xn} {v:Xq} {a:List (Int × List Int)} (h:zr base w v a):Zm base v:=fun x n c e=>by
 rcases h.1.2 with⟨a,_⟩|⟨g,b,b,a,b,_⟩
 ·rw[a]at e;cases e
 rw[a]at e;cases e;exact b
theorem za5.new {base:Nat} {w:Xn} {d:Xq} {a:List (List Int)} {b:List (Int × List Int)} (h:za5 base w d a b):z3 base w d a b:=by
 obtain⟨c,q,e,a,b⟩:=h;exact⟨c,q,e,a.at,b.at,a.fresh,b.fresh⟩
theorem zda (d) (g:List (List Int)) (h:List (Int × List Int)) (w:Xn) (b:Qi w d g h):
  Xp prog 88 #[d] w fun e w'=>∃a,e= Xl a/\za5 w.heap.size w' a g h/\zc w w':=by
 obtain⟨a,q,rfl,c,a⟩:=b;have E:=dD c;have F:=dD a;obtain⟨l,n,rfl,_⟩:=c.rows;obtain⟨m,q,rfl,_⟩:=a.rows;clear c a
 go_enter func88,ntmps88
 go_wp2;obtain⟨a,b⟩:=kB ((w.alloc (Xk #[O l g.length n,O m h.length q] 34)).alloc (Xk #[O Xb 0 0,O Xb 0 0] 34));have i:=gD2 b
 have k:Xo (a.heap.size=w.heap.size+2):=dD<|by rw[<-b];simp
 have A:a.cell? ⟨w.heap.size,0,Xb⟩=Xa (O l g.length n):=by rw[<-b];simp
 have B:a.cell? ⟨w.heap.size,1,Xb⟩=Xa (O m h.length q):=by rw[<-b];simp
 have r:a.cell? ⟨w.heap.size+1,0,Xb⟩=Xa (O Xb 0 0):=by rw[<-b];simp
 have s:a.cell? ⟨w.heap.size+1,1,Xb⟩=Xa (O Xb 0 0):=by rw[<-b];simp
 have C:a.frozen? ⟨w.heap.size+1,0,Xb⟩=Xd:=by rw[<-b];simp
 have D:a.frozen? ⟨w.heap.size+1,1,Xb⟩=Xd:=by rw[<-b];simp
 rw[b];have y:∀x:zl a,x.world.cell? ⟨w.heap.size,0,Xb⟩=Xa (O l g.length n):=fun x=>(Below.cell x.grew (World.block_lt_of_cell? _ _ A)).trans A
 have z:∀x:zl a,x.world.cell? ⟨w.heap.size,1,Xb⟩=Xa (O m h.length q):=fun x=>(Below.cell x.grew (World.block_lt_of_cell? _ _ B)).trans B
 have t:Nonempty (zl a):=⟨⟨_,zc.refl _⟩⟩;refine Zr 7 [(2,⟨fun f=>∃a u j,f= O a u j,fun f w'=>zj (w.heap.size+2) w' f g⟩),(5,⟨fun f=>∃a u j,f= O a u j,fun f w'=>zr (w.heap.size+2) w' f h⟩)] zY (by kernel_rfl) rfl rfl (by decide) ?_ ?_ ?_
 ·intro x a
  simp at a
  rcases a with rfl|rfl
  ·exact⟨_,Xb,0,0,rfl⟩
  exact⟨_,Xb,0,0,rfl⟩
 ·intro x a
  simp at a
  rcases a with rfl|rfl
  ·intro f u x a j;exact j.grew a
  intro f u x a j;exact j.grew a
 simp only[List.take,List.drop];iterate 2 refine zg ?_
 refine zH rfl rfl (fun w' a j=>?_) (fun G u=>?_)
 ·refine zQ.call [O l g.length n] rfl func98 rfl rfl rfl ?_;refine(zaM _ g w' (E.grew (i.out.trans a))).mono ?_;rintro e g ⟨E,rfl,c,f⟩;exact⟨_,rfl,f,c.slice,c.base (by have:=bS a;rw[k.out]at this;exact this)⟩
 obtain⟨l,x,n,rfl⟩:=u;refine Uq ?_;iterate 2 refine zg ?_
 refine zH rfl rfl (fun w' a j=>?_) (fun G u=>?_)
 ·refine zQ.call [O m h.length q] rfl func123 rfl rfl rfl ?_;refine(zfQ _ h w' (F.grew (i.out.trans a))).mono ?_;rintro e g ⟨E,rfl,c,f⟩;exact⟨_,rfl,f,c.slice,c.base (by have:=bS a;rw[k.out]at this;exact this)⟩
 obtain⟨h,m,k,rfl⟩:=u;refine Uq ?_;refine zg ?_
 refine z7 fun w' a j=>?_
 have c:=dD<|j 2;have f:=dD<|j 5;have g:=(Below.cell a (World.block_lt_of_cell? _ _ r)).trans r;have g:=(Below.cell a (World.block_lt_of_cell? _ _ s)).trans s;have g:=(Below.frozen a (World.block_lt_of_cell? _ _ r)).trans C;have g:=(Below.frozen a (World.block_lt_of_cell? _ _ s)).trans D;have g:=dD (i.out.trans a);clear j A B r s C D y z b a t;go_wp2;refine bodyPost_ret (v:= Xi #[O l x n,O h m k]) (by simp[results,Tryz.results88,go_sem, *]) rfl ⟨_,rfl,⟨_,_,rfl,((c.out.setCell (by simp) _).setCell (by simp) _).base (by omega),((f.out.setCell (by simp) _).setCell (by simp) _).base (by omega)⟩,?_⟩
 exact Below.setCell (Below.setCell g (p:=⟨w.heap.size+1,0,Xb⟩) (by simp) _) (p:=⟨w.heap.size+1,1,Xb⟩) (by simp) _
def siv (z:Int):List Xq:=[Xe Xf z]
theorem zqH:(Tryz.prog.info? 3).map (fun i=>(i.zero,i.size,i.bytes))=Xa (Xa (Xe Xf 0),1,8):=by kernel_rfl
def slE:Elt Int where
 enc:=siv
 k:=1
 ty:=3
 st:=30
 bytes:=8
 zv:= Xe Xf 0
 zero:=0
 len:=fun _=>rfl
 one:=fun a u hu=>by
  simp only[siv,mC,nM,or_false]at hu;subst hu;rfl
 und:=underlying30
 info:=zqH
 zok:=rfl
 few:=by decide
 pos:=by decide
def zm0 (w:Xn) (a:Option Addr) (l:List Int):Prop:=∀(j:Nat) x,l[j]? =Xa x->∃ad,a=Xa ad/\∀W,zc w W->W.cell? (ad.add j)=Xa (Xe Xf x)
theorem zq.sls {w:Xn} {v:Xq} {l:List Int} (h:zq slE w v l):∃a c,v= O a l.length c/\zm0 w a l:=by
 obtain⟨a,c,b,d⟩:=h.rows;refine⟨a,c,b,fun j x g=>?_⟩
 obtain⟨b,e,f⟩:=d j x g;refine⟨b,e,fun W b=>?_⟩
 have:=f W b 0 _ rfl;rw[zV,show j*slE.k+0=j from by show j*1+0=j;omega]at this
 exact this
def niv (z:Int):List Xq:=[Xe Xf z]
theorem zqI:(Tryz.prog.info? 3).map (fun i=>(i.zero,i.size,i.bytes))=Xa (Xa (Xe Xf 0),1,8):=by kernel_rfl
def blE:Elt Int where
 enc:=niv
 k:=1
 ty:=3
 st:=29
 bytes:=8
 zv:= Xe Xf 0
 zero:=0
 len:=fun _=>rfl
 one:=fun a u hu=>by
  simp only[niv,mC,nM,or_false]at hu;subst hu;rfl
 und:=underlying29
 info:=zqI
 zok:=rfl
 few:=by decide
 pos:=by decide
def zm3 (w:Xn) (a:Option Addr) (l:List Int):Prop:=∀(j:Nat) x,l[j]? =Xa x->∃ad,a=Xa ad/\∀W,zc w W->W.cell? (ad.add j)=Xa (Xe Xf x)
theorem zq.nums {w:Xn} {v:Xq} {l:List Int} (h:zq blE w v l):∃a c,v= O a l.length c/\zm3 w a l:=by
 obtain⟨a,c,b,d⟩:=h.rows;refine⟨a,c,b,fun j x g=>?_⟩
 obtain⟨b,e,f⟩:=d j x g;refine⟨b,e,fun W b=>?_⟩
 have:=f W b 0 _ rfl;rw[zV,show j*blE.k+0=j from by show j*1+0=j;omega]at this
 exact this
end
section
def inL (n:Nat) (k:Int):Bool:=decide (0<=k) && decide (k< (n:Int))
def zmR (fs:List Fl) (k:Int):List Int:=match fs[k.toNat]? with | some f=>f.bl | none=>[]
def zpT (fs:List Fl) (k:Int):Int:=match fs[k.toNat]? with | some f=>f.size | none=>0
def zhx (fs:List Fl) (cnt k n:Int):Int:=if stW fs cnt=0 then(if inL fs.length k=Xc then(if 0<=n/\n<=96 then 0 else 3)else 5)else stW fs cnt
def zpN (fs:List Fl) (cnt k n:Int):List Fl:=if zhx fs cnt k n=0 then fs.set k.toNat ⟨n,zpV (zmR fs k) (JI n).toNat⟩else []
def zpX (fs:List Fl) (cnt k n:Int):Int:=if zhx fs cnt k n=0 then cnt else 0
def Qu (fs:List Fl) (cnt k x:Int):Int:=if stW fs cnt=0 then(if inL fs.length k=Xc then(if inL (zmR fs k).length x=Xc then(if(zmR fs k).getD x.toNat 0=-1 then(if QM fs cnt=[]then 10 else 0)else 0)else 9)else 5)else stW fs cnt
def zoL (fs:List Fl) (cnt k x:Int):Int:=if(zmR fs k).getD x.toNat 0=-1 then(((QM fs cnt).headD 0:Nat):Int)else(zmR fs k).getD x.toNat 0
def ziI (fs:List Fl) (cnt k x:Int):Int:=if Qu fs cnt k x=0 then zoL fs cnt k x else 0
def zhz (fs:List Fl) (cnt k x:Int):List Fl:=if Qu fs cnt k x=0 then fs.set k.toNat ⟨zpT fs k,(zmR fs k).set x.toNat (zoL fs cnt k x)⟩else []
def zk4 (fs:List Fl) (cnt k x:Int):Int:=if Qu fs cnt k x=0 then cnt else 0
theorem Q9 {n:Nat} {k:Int}:inL n k=Xc↔0<=k/\k< (n:Int):=by simp[inL]
theorem zpW (fs:List Fl) (a k n:Int):
  (stW fs a≠0/\zhx fs a k n=stW fs a/\zpN fs a k n=[]/\zpX fs a k n=0)\/
  (stW fs a=0/\¬(0<=k/\k< (fs.length:Int))/\zhx fs a k n=5/\zpN fs a k n=[]/\zpX fs a k n=0)\/
  (stW fs a=0/\∃(i:Nat) (f:Fl),k=(i:Int)/\fs[i]? =Xa f/\¬(0<=n/\n<=96)/\zhx fs a k n=3/\zpN fs a k n=[]/\zpX fs a k n=0)\/
  (stW fs a=0/\∃(i:Nat) (f:Fl),k=(i:Int)/\fs[i]? =Xa f/\(0<=n/\n<=96)/\zhx fs a k n=0/\zpN fs a k n=fs.set i ⟨n,zpV f.bl (JI n).toNat⟩/\zpX fs a k n=a):=by
 have g:∀z,zhx fs a k n=z->z≠0->zpN fs a k n=[]/\zpX fs a k n=0:=fun z h b=>by
  have:¬zhx fs a k n=0:=by omega
  exact⟨kF this,kF this⟩
 by_cases b:stW fs a=0
 ·by_cases d:0<=k/\k< (fs.length:Int)
  ·obtain⟨i,rfl⟩:∃i:Nat,k=(i:Int):=⟨k.toNat,by omega⟩
   obtain⟨f,e⟩:∃f,fs[i]? =Xa f:=⟨_,gE (by omega)⟩
   have j:=Q9.2 d
   by_cases c:0<=n/\n<=96
   ·have h:zhx fs a i n=0:=by unfold zhx;rw[kE b,kE j,kE c]
    refine .inr (.inr (.inr ⟨b,i,f,rfl,e,c,h,?_,kE h⟩));unfold zpN zmR;rw[kE h,tN,e]
   have h:zhx fs a i n=3:=by unfold zhx;rw[kE b,kE j,kF c]
   exact .inr (.inr (.inl ⟨b,i,f,rfl,e,c,h,g _ h (by decide)⟩))
  have h:zhx fs a k n=5:=by unfold zhx;rw[kE b,kF (by rw[Q9];exact d)]
  exact .inr (.inl ⟨b,d,h,g _ h (by decide)⟩)
 have h:zhx fs a k n=stW fs a:=by unfold zhx;rw[kF b]
 exact .inl ⟨b,h,g _ h b⟩
theorem zmQ (fs:List Fl) (a k x:Int):
  (stW fs a≠0/\Qu fs a k x=stW fs a/\zhz fs a k x=[]/\zk4 fs a k x=0/\ziI fs a k x=0)\/
  (stW fs a=0/\¬(0<=k/\k< (fs.length:Int))/\Qu fs a k x=5/\zhz fs a k x=[]/\zk4 fs a k x=0/\ziI fs a k x=0)\/
  (stW fs a=0/\∃(i:Nat) (f:Fl),k=(i:Int)/\fs[i]? =Xa f/\¬(0<=x/\x< (f.bl.length:Int))/\Qu fs a k x=9/\zhz fs a k x=[]/\zk4 fs a k x=0/\ziI fs a k x=0)\/
  (stW fs a=0/\∃(i:Nat) (f:Fl) (j:Nat) (b:Int),k=(i:Int)/\fs[i]? =Xa f/\x=(j:Int)/\f.bl[j]? =Xa b/\0<=b/\b<a/\Qu fs a k x=0/\zhz fs a k x=fs/\zk4 fs a k x=a/\ziI fs a k x=b)\/
  (stW fs a=0/\∃(i:Nat) (f:Fl) (j:Nat),k=(i:Int)/\fs[i]? =Xa f/\x=(j:Int)/\f.bl[j]? =Xa (-1)/\QM fs a=[]/\Qu fs a k x=10/\zhz fs a k x=[]/\zk4 fs a k x=0/\ziI fs a k x=0)\/
  (stW fs a=0/\∃(i:Nat) (f:Fl) (j:Nat) (b:Nat) (l:List Nat),k=(i:Int)/\fs[i]? =Xa f/\x=(j:Int)/\f.bl[j]? =Xa (-1)/\QM fs a=b :: l/\Qu fs a k x=0/\zhz fs a k x=fs.set i ⟨f.size,f.bl.set j (b:Int)⟩/\zk4 fs a k x=a/\ziI fs a k x=(b:Int)):=by
 have r:∀z,Qu fs a k x=z->z≠0->zhz fs a k x=[]/\zk4 fs a k x=0/\ziI fs a k x=0:=fun z h C=>by
  have:¬Qu fs a k x=0:=by omega
  exact⟨kF this,kF this,kF this⟩
 by_cases c:stW fs a=0
 ·by_cases s:0<=k/\k< (fs.length:Int)
  ·obtain⟨i,rfl⟩:∃i:Nat,k=(i:Int):=⟨k.toNat,by omega⟩
   obtain⟨f,e⟩:∃f,fs[i]? =Xa f:=⟨_,gE (by omega)⟩
   have q:=Q9.2 s;have d:zmR fs (i:Int)=f.bl:=by unfold zmR;rw[tN,e]
   have y:zpT fs (i:Int)=f.size:=by unfold zpT;rw[tN,e]
   by_cases t:0<=x/\x< (f.bl.length:Int)
   ·obtain⟨j,rfl⟩:∃j:Nat,x=(j:Int):=⟨x.toNat,by omega⟩
    obtain⟨b,m⟩:∃b,f.bl[j]? =Xa b:=⟨_,gE (by omega)⟩
    have g:=Q9.2 t;have p:f.bl.getD (j:Int).toNat 0=b:=by rw[tN,gD,m];rfl
    by_cases u:b=-1
    ·subst u
     cases v:QM fs a with
     | nil=>
      have h:Qu fs a i j=10:=by unfold Qu;rw[kE c,kE q,d,kE g,p,kE rfl,kE v]
      exact .inr (.inr (.inr (.inr (.inl ⟨c,i,f,j,rfl,e,rfl,m,rfl,h,r _ h (by decide)⟩))))
     | cons b l=>
      have h:Qu fs a i j=0:=by unfold Qu;rw[kE c,kE q,d,kE g,p,kE rfl,kF (by rw[v];simp)]
      have n:zoL fs a i j=(b:Int):=by unfold zoL;rw[d,p,kE rfl,v];rfl
      refine .inr (.inr (.inr (.inr (.inr ⟨c,i,f,j,b,l,rfl,e,rfl,m,rfl,h,?_,kE h,?_⟩))))
      ·unfold zhz;rw[kE h,n,d,y,tN,tN]
      unfold ziI;rw[kE h,n]
    have h:Qu fs a i j=0:=by unfold Qu;rw[kE c,kE q,d,kE g,p,kF u]
    have n:zoL fs a i j=b:=by unfold zoL;rw[d,p,kF u]
    have B:=(((z6 fs a).1 c).2.1 f (mG e)).2.2 b (mG m);refine .inr (.inr (.inr (.inl ⟨c,i,f,j,b,rfl,e,rfl,m,by omega,by omega,h,?_,kE h,?_⟩)))
    ·unfold zhz;rw[kE h,n,d,y,tN,tN];have A:f.bl.set j b=f.bl:=by
      obtain⟨w,rfl⟩:=gS.1 m;exact Us w
     rw[A];obtain⟨w,rfl⟩:=gS.1 e;exact Us w
    unfold ziI;rw[kE h,n]
   have h:Qu fs a i x=9:=by unfold Qu;rw[kE c,kE q,d,kF (by rw[Q9];exact t)]
   exact .inr (.inr (.inl ⟨c,i,f,rfl,e,t,h,r _ h (by decide)⟩))
  have h:Qu fs a k x=5:=by unfold Qu;rw[kE c,kF (by rw[Q9];exact s)]
  exact .inr (.inl ⟨c,s,h,r _ h (by decide)⟩)
 have h:Qu fs a k x=stW fs a:=by unfold Qu;rw[kF c]
 exact .inl ⟨c,h,r _ h c⟩
theorem zjD (f:Fl):∀(fs:List Fl) (i:Nat) (b:Fl),fs[i]? =Xa b->QI (fs.set i f)=QI (fs.take i)++(f.bl++QI (fs.drop (i+1)))/\QI fs=QI (fs.take i)++(b.bl++QI (fs.drop (i+1)))
 | [],i,b,h=>by simp at h
 | a :: l,0,b,h=>by
  simp at h
  subst h
  simp[QI]
 | a :: l,i+1,b,h=>by
  obtain⟨c,d⟩:=zjD f l i b (by simpa using h)
  unfold QI at c d⊢;simp only[sS,Yb,List.take_succ_cons,List.drop_succ_cons,Yj];rw[c,<-d];exact⟨rfl,rfl⟩
theorem znT {fs:List Fl} {a:Int} (h:b∈QM fs a):(b:Int)<a/\(b:Int)∉QI fs:=by
 unfold QM at h;obtain⟨c,a⟩:=Xz.1 h;have:=Xs.1 c;refine⟨by omega,fun h=>?_⟩
 rw[(QT fs _).2 h]at a;cases a
theorem zpa {A C l:List Int} {b:Int} (d:l[j]? =Xa (-1)):∀x,x≠-1->(x∈A++(l.set j b++C)↔(x∈A++(l++C)\/x=b)):=fun x g=>by
 have c:=(gS.1 d).1;have:x∈l.set j b↔x∈l\/x=b:=by
  constructor
  ·intro h;exact(Xw h)
  rintro(h|rfl)
  ·obtain⟨f,a⟩:=Xy h
   by_cases e:f=j
   ·subst e;rw[d]at a;cases a;exact absurd rfl g
   exact mG (i:=f) (by rw[sN (fun h=>e h.symm)];exact a)
  exact mG (i:=j) (by rw[sF c])
 simp only[Xt,this];constructor
 ·rintro(h | (h|h) | h) <;> simp[h]
 rintro((h|h|h) | h) <;> simp[h]
theorem zjX {l:List Int} (b:Int) (d:b≠-1) (c:l[j]? =Xa (-1)):QJ (l.set j b)=QJ (l.take j)++(b :: QJ (l.drop (j+1)))/\QJ l=QJ (l.take j)++QJ (l.drop (j+1)):=by
 obtain⟨a,e⟩:=gS.1 c;have c:l.set j b=l.take j++b :: l.drop (j+1):=List.set_eq_take_append_cons_drop.trans (kE a);have a:l=l.take j++(-1) :: l.drop (j+1):=by
  rw[<-e,List.getElem_cons_drop,List.take_append_drop]
 unfold QJ;constructor
 ·rw[c,Yr,Yv (by simpa using d)]
 conv=>lhs;rw[a]
 rw[Yr,Ug (by simp)]
theorem zlG {A B C:List Int} {b:Int} (h:(A++(B++C)).Nodup) (i:b∉A) (f:b∉B++C):(A++((B++(b :: C)))).Nodup:=by
 rw[Oe]at h⊢;obtain⟨l,d,g⟩:=h;have m:=d;rw[Oe]at d;obtain⟨n,p,q⟩:=d;have j:b∉B:=fun h=>f (Xt.2 (.inl h))
 have k:b∉C:=fun h=>f (Xt.2 (.inr h))
 refine⟨l,?_,fun x c y a=>?_⟩
 ·rw[Oe];refine⟨n,Ok.2 ⟨k,p⟩,fun x c y a=>?_⟩
  rcases mC.1 a with rfl|a
  ·exact fun e=>j (e ▸ c)
  exact q x c y a
 rcases Xt.1 a with a|a
 ·exact g x c y (Xt.2 (.inl a))
 rcases mC.1 a with rfl|a
 ·exact fun e=>i (e ▸ c)
 exact g x c y (Xt.2 (.inr a))
theorem zkr {fs:List Fl} {a:Int} {i:Nat} {f:Fl} (h:stW fs a=0) (q:fs[i]? =Xa f) (r:f.bl[j]? =Xa (-1)) (l:b∈QM fs a):
  stW (fs.set i ⟨f.size,f.bl.set j (b:Int)⟩) a=0/\(QM (fs.set i ⟨f.size,f.bl.set j (b:Int)⟩) a).length+1=(QM fs a).length:=by
 obtain⟨g,d⟩:=znT l;obtain⟨⟨c,s,t⟩,e,p⟩:=(z6 fs a).1 h;obtain⟨n,k⟩:=zjD ⟨f.size,f.bl.set j (b:Int)⟩ fs i f q;have m:(b:Int)≠-1:=by omega
 constructor
 ·refine(z6 _ _).2 ⟨⟨by rw[Yn];exact c,s,t⟩,fun s c=>?_,?_⟩
  ·rcases Xw c with c | rfl
   ·exact e s c
   obtain⟨c,s,t⟩:=e f (mG q);refine⟨c,by simp only[Yn];exact s,fun c e=>?_⟩
   rcases Xw e with e|rfl
   ·exact t c e
   exact .inr ⟨by omega,g⟩
  obtain⟨q,s⟩:=zjX (b:Int) m r;have g:∀A B:List Int,QJ (A++B)=QJ A++QJ B:=fun A B=>Yr ..
  rw[n,g,g,q,Yj];rw[k,g,g,s,Yj]at p;rw[k]at d;have q:∀L:List Int,(b:Int)∉L->(b:Int)∉QJ L:=fun L h m=>h (Xz.1 m).1
  have m:(b:Int)∉QJ (f.bl.take j)++(QJ (f.bl.drop (j+1))++QJ (QI (fs.drop (i+1)))):=by
   intro h;refine q _ (fun h=>d (Xt.2 (.inr h))) (?_:(b:Int)∈QJ (f.bl++QI (fs.drop (i+1))))
   rw[g,s,Yj];exact h
  exact zlG p (q _ (fun h=>d (Xt.2 (.inl h)))) m
 have g:∀c:Nat,zU (fs.set i ⟨f.size,f.bl.set j (b:Int)⟩) (c:Int)=(zU fs (c:Int) || decide (c=b)):=fun c=>by
  rw[Uo,Ow,QT,QT,n,k,zpa r _ (by omega),decide_eq_true_eq,Int.ofNat_inj]
 have d:QM (fs.set i ⟨f.size,f.bl.set j (b:Int)⟩) a=(QM fs a).erase b:=by
  have h:(QM fs a).Nodup:=List.Nodup.sublist List.filter_sublist List.nodup_range;rw[List.Nodup.erase_eq_filter h];unfold QM;rw[Gb]
  congr 1
  funext c
  rw[g c]
  by_cases e:c=b <;> simp[e]
 rw[d,Ud l];have:=List.length_pos_of_mem l;omega
end
section
open Go.RowKit
structure FlV where
 size:Int
 a:Option Addr
 n:Nat
 c:Nat
def FlV.v (x:FlV):Xq:= O x.a x.n x.c
def flv (x:FlV):List Xq:=[Xe Xf x.size,O x.a x.n x.c]
theorem zqJ:(Tryz.prog.info? 65).map (fun i=>(i.zero,i.size,i.bytes))=Xa (Xa (Xi #[Xe Xf 0,O Xb 0 0]),2,32):=by kernel_rfl
def fvE:Elt FlV where
 enc:=flv
 k:=2
 ty:=65
 st:=35
 bytes:=32
 zv:= Xi #[Xe Xf 0,O Xb 0 0]
 zero:=⟨0,Xb,0,0⟩
 len:=fun _=>rfl
 one:=fun a u hu=>by
  simp only[flv,mC,nM,or_false]at hu
  rcases hu with rfl|rfl <;> rfl
 und:=underlying35
 info:=zqJ
 zok:=rfl
 few:=by decide
 pos:=by decide
def jM (B0 B1:Nat) (w:Xn) (v:Xq) (fs:List Fl):Prop:=
 Cap v/\∃xs:List FlV,ziP fvE B0 B1 w v xs/\xs.length=fs.length/\∀(i:Nat) x f,xs[i]? =Xa x->fs[i]? =Xa f->x.size=f.size/\ziP blE B0 B1 w (O x.a x.n x.c) f.bl
def z5 (w:Xn) (v:Xq) (fs:List Fl):Prop:=jM 0 0 w v fs
theorem jM.out {w:Xn} {v:Xq} {fs:List Fl} (h:jM B0 B1 w v fs) (k:Out B0 B1 w w'):jM B0 B1 w' v fs:=by
 obtain⟨d,e,b,c,a⟩:=h;exact⟨d,e,b.out k,c,fun i x f c b=>⟨(a i x f c b).1,(a i x f c b).2.out k⟩⟩
theorem jM.grew {w:Xn} {v:Xq} {fs:List Fl} (h:jM B0 B1 w v fs) (k:zc w w'):jM B0 B1 w' v fs:=h.out (Out.grew k)
theorem jM.less {w:Xn} {v:Xq} {fs:List Fl} (h:jM B0 B1 w v fs) (a:B0<=A0) (b:A1<=B1):jM A0 A1 w v fs:=by
 obtain⟨c,g,d,f,e⟩:=h;exact⟨c,g,d.less a b,f,fun i x f d c=>⟨(e i x f d c).1,(e i x f d c).2.less a b⟩⟩
theorem z5.grew {w:Xn} {v:Xq} {fs:List Fl} (h:z5 w v fs) (k:zc w w'):z5 w' v fs:=jM.grew h k
theorem jM.nil (B0 B1:Nat) (w):jM B0 B1 w (O Xb 0 0) []:=⟨nR _,[],fun a _=>zq.nil fvE a,rfl,fun i x f a=>by simp at a⟩
def zm6 (W:Xn) (y:Addr) (s:Int) (b:Xq):Prop:=W.cell? y=Xa (Xe Xf s)/\W.cell? { block:=y.block,off:=y.off+1 }=Xa b
def zbL (w:Xn) (a:Option Addr) (fs:List Fl):Prop:=∀(j:Nat) f,fs[j]? =Xa f->∃ad,a=Xa ad/\∃xa xc,zq blE w (O xa f.bl.length xc) f.bl/\∀W,zc w W->zm6 W (ad.add (j*2)) f.size (O xa f.bl.length xc)
theorem z5.rows {w:Xn} {v:Xq} {fs:List Fl} (h:z5 w v fs):∃a c,v= O a fs.length c/\fs.length<=9223372036854775807/\zbL w a fs:=by
 obtain⟨_,i,d,b,l⟩:=h;obtain⟨a,c,e,g⟩:=d.now.rows;refine⟨a,c,by rw[<-b];exact e,by rw[<-b];exact d.now.short,fun j k e=>?_⟩
 obtain⟨x,f⟩:∃x,i[j]? =Xa x:=⟨_,gE (by rw[b];exact(gS.1 e).1)⟩
 obtain⟨h,i,d⟩:=g j x f;obtain⟨g,m⟩:=l j x k f e;have b:=m.now;obtain⟨⟨e,e,e,_⟩,_⟩:=id b;cases x;simp only at g b e;cases e;subst g;refine⟨h,i,_,_,b,fun W b=>⟨?_,?_⟩⟩
 ·exact d W b 0 _ rfl
 exact d W b 1 _ rfl
theorem zdR (m n:Int) (w):
  Xp prog 101 #[Xe Xf m,Xe Xf n] w fun e w'=>e= Xl (Xh (bel m n))/\w'=w:=by
 have H:Xo (bel m n=(decide (0<=m) && decide (m<n))):=rfl
 by_cases a:0<=m
 ·by_cases a:m<n
  ·go_enter func101,ntmps101
   go_wp2;go_ret;exact⟨by rw[H.out];simp[*],rfl⟩
  go_enter func101,ntmps101
  go_wp2;go_ret;exact⟨by rw[H.out];simp[*],rfl⟩
 go_enter func101,ntmps101
 go_wp2;go_ret;exact⟨by rw[H.out];simp;omega,rfl⟩
theorem Z4 {m n:Int} (a:0<=m) (b:m<n) (w):Xp prog 101 #[Xe Xf m,Xe Xf n] w fun e w'=>e= Xl (Xh Xc)/\w'=w:=by
 have:=zdR m n w;rw[zaq.2 ⟨a,b⟩]at this;exact this
theorem zbJ {m n:Int} (h:¬(0<=m/\m<n)) (w):Xp prog 101 #[Xe Xf m,Xe Xf n] w fun e w'=>e= Xl (Xh Xd)/\w'=w:=by
 have:=zdR m n w;rw[zmT h]at this;exact this
theorem zc0 {a b:Int} (h:a=b):Ending.returned (Xe Xf a)= Xl (Xe Xf b):=by rw[h]
theorem zmH (n:Int) (w) (a:0<=n) (b:n<=96):
  Xp prog 139 #[Xe Xf n] w fun e w'=>e= Xl (Xe Xf (JI n))/\w'=w:=by
 by_cases h:n<1
 ·have H:Xo (JI n=0):=dD<|by unfold JI;rw[kE h]
  go_enter func139,ntmps139
  go_wp2;go_ret;exact⟨zc0 H.symm,rfl⟩
 have H:Xo (JI n=(n - 1) / 8+1):=dD<|by unfold JI;rw[kF h]
 go_enter func139,ntmps139
 go_wp2;go_ret;exact⟨zc0 H.symm,rfl⟩
theorem zce (n:Int) (w) (c:0<=n) (d:n<=96):
  Xp prog 16 #[Xe Xf n] w fun e w'=>e= Xl (Xe Xf (JI n))/\w'=w:=by
 by_cases h:n<1
 ·have H:Xo (JI n=0):=dD<|by unfold JI;rw[kE h]
  have b:n<=0:=by omega
  go_enter func16,ntmps16
  go_wp2;go_ret;exact⟨zc0 H.symm,rfl⟩
 have H:Xo (JI n=(n - 1) / 8+1):=dD<|by unfold JI;rw[kF h]
 have b:¬n<=0:=by omega
 by_cases f:0<n % 8
 ·have a:Xo (JI n=n / 8+1):=dD<|by rw[H.out];omega
  go_enter func16,ntmps16
  go_wp2;go_ret;exact⟨zc0 a.symm,rfl⟩
 have a:Xo (JI n=n / 8):=dD<|by rw[H.out];omega
 go_enter func16,ntmps16
 go_wp2;go_ret;exact⟨zc0 a.symm,rfl⟩
theorem zhh (v fs) (w:Xn) (h:zq blE w v fs):
  Xp prog 66 #[v] w fun e w'=>∃g,e= Xl g/\zb blE w.heap.size w' g fs/\zc w w':=by
 have j:=dD h;obtain⟨⟨d,f,rfl,b,c⟩,a⟩:=h;have h:∀(w:Xn) (d:Option Addr) (n f i h:Nat),(binOp .eql 29 (O d n f) (O Xb i h)).run prog w= .ok (Xh d.isNone) w:=fun w d n f i h=>Lib.run_eql_slice_nil w _ _ d n f i h underlying29
 cases d with
 | none=>
  have d:=b rfl;subst d;clear c b a
  go_enter func66,ntmps66
  go_wp2;go_ret;exact⟨_,rfl,zb.nil _ _ _,zc.refl w⟩
 | some x=>
  have d:=dD a;clear c b a
  go_enter func66,ntmps66
  go_wp2_with (at_builtin;refine zt (E:=blE) rfl (.tmp 5) (.tmp 6) rfl w.heap.size _ [] rfl (zb.made blE w) _ fs rfl (j.grew (za _ _)) ?qb (by simp) ?_)
  case qb=>rw[Yo,zA];exact d.out
  intro g a b a;go_wp2;go_ret;exact⟨g,rfl,by simpa using b,((bR _ w).alloc (nR _) _).grown a (by simp) (by intro k a;simp[Value.ownBlock]at a;omega)⟩
theorem zfR (v) (fs:List FlV) (w:Xn) (h:zq fvE w v fs):
  Xp prog 65 #[v] w fun e w'=>∃g,e= Xl g/\zb fvE w.heap.size w' g fs/\zc w w':=by
 have j:=dD h;obtain⟨⟨d,f,rfl,b,c⟩,a⟩:=h;have h:∀(w:Xn) (d:Option Addr) (n f i h:Nat),(binOp .eql 35 (O d n f) (O Xb i h)).run prog w= .ok (Xh d.isNone) w:=fun w d n f i h=>Lib.run_eql_slice_nil w _ _ d n f i h underlying35
 cases d with
 | none=>
  have d:=b rfl;subst d;clear c b a
  go_enter func65,ntmps65
  go_wp2;go_ret;exact⟨_,rfl,zb.nil _ _ _,zc.refl w⟩
 | some x=>
  have d:=dD a;clear c b a
  go_enter func65,ntmps65
  go_wp2_with (at_builtin;refine zt (E:=fvE) rfl (.tmp 5) (.tmp 6) rfl w.heap.size _ [] rfl (zb.made fvE w) _ fs rfl (j.grew (za _ _)) ?qb (by simp) ?_)
  case qb=>rw[Yo,zA];exact d.out
  intro g a b a;go_wp2;go_ret;exact⟨g,rfl,by simpa using b,((bR _ w).alloc (nR _) _).grown a (by simp) (by intro k a;simp[Value.ownBlock]at a;omega)⟩
def jA (base:Nat) (w:Xn) (v:Xq) (fs:List Fl):Prop:=
 ∃xs:List FlV,zb fvE base w v xs/\xs.length=fs.length/\(∀(i:Nat) x f,xs[i]? =Xa x->fs[i]? =Xa f->x.size=f.size/\zb blE base w x.v f.bl)/\
  ∀(i j:Nat) x y,i≠j->xs[i]? =Xa x->xs[j]? =Xa y->∀g,x.v.ownBlock=Xa g->y.v.ownBlock≠Xa g
theorem jA.new {base:Nat} {w:Xn} {v:Xq} {fs:List Fl} (h:jA base w v fs):jM 0 base w v fs:=by
 obtain⟨d,a,c,b,_⟩:=h;exact⟨a.cap,d,a.new.stays,c,fun i x f c a=>⟨(b i x f c a).1,(b i x f c a).2.new.stays⟩⟩
theorem jA.grew {base:Nat} {w:Xn} {v:Xq} {fs:List Fl} (h:jA base w v fs) (k:zc w w'):jA base w' v fs:=by
 obtain⟨e,b,c,a,d⟩:=h;exact⟨e,b.grew k,c,fun i x f c b=>⟨(a i x f c b).1,(a i x f c b).2.grew k⟩,d⟩
theorem jA.setCell {base:Nat} {w:Xn} {v:Xq} {fs:List Fl} (h:jA base w v fs) {a:Addr} (c:a.block<base) (u):jA base (w.setCell a u) v fs:=by
 obtain⟨f,d,e,b,g⟩:=h;exact⟨f,d.setCell c u,e,fun i x f e d=>⟨(b i x f e d).1,(b i x f e d).2.setCell c u⟩,g⟩
theorem zgb:blE.ty≠fvE.ty:=by decide
structure zpI (base:Nat) (w:Xn) (kk:Nat) (xs ys:List FlV) (fs:List Fl):Prop where
 len:ys.length=xs.length
 own:∀(i:Nat) y f,i<kk->ys[i]? =Xa y->fs[i]? =Xa f->y.size=f.size/\zb blE base w y.v f.bl
 rest:∀(i:Nat),kk<=i->ys[i]? =xs[i]?
 two:∀(i j:Nat) x y,i<kk->j<kk->i≠j->ys[i]? =Xa x->ys[j]? =Xa y->∀g,x.v.ownBlock=Xa g->y.v.ownBlock≠Xa g
theorem zpI.step {base:Nat} {w w2:Xn} {xs z:List FlV} {fs:List Fl} (j:zpI base w kk xs z fs) (V:zc w w1) {g:Nat} (F:w1.grownBy w2 (Xa g)) {f:Fl} {x:FlV} (M:fs[kk]? =Xa f) (Y:xs[kk]? =Xa x)
  (W:x.size=f.size) {a:Option Addr} {n c:Nat} (e:zb blE w.heap.size w1 (O a n c) f.bl) (U:base<=w.heap.size) {v:Xq} (X:zb fvE base w1 v z) (K:v.ownBlock=Xa g):zpI base w2 (kk+1) xs (z.set kk ⟨x.size,a,n,c⟩) fs:=by
 have H:kk<z.length:=by rw[j.len];exact(gS.1 Y).1
 have k:∀(y:FlV) (L:List Int),zb blE base w1 y.v L->zb blE base w2 y.v L:=fun y L N=>N.grown F (fun p D B=>by
  cases B;exact X.apart N (Ne.symm zgb) g K D)
 refine⟨by rw[Yn];exact j.len,fun i y d t r b=>?_,fun i t=>?_,fun i C P Q t a0 G u q p l=>?_⟩
 ·by_cases B:i=kk
  ·subst B;rw[sF H]at r;cases r;rw[M]at b;cases b;exact⟨W,k ⟨x.size,a,n,c⟩ _ (e.base U)⟩
  rw[sN (fun j=>B j.symm)]at r
  obtain⟨Z,I⟩:=j.own i y d (by omega) r b
  exact⟨Z,k y _ (I.grew V)⟩
 ·rw[sN (by omega)]
  exact j.rest i (by omega)
 have h:∀(i:Nat) y d,i<kk->z[i]? =Xa y->fs[i]? =Xa d->∀A,y.v.ownBlock=Xa A->A<w.heap.size:=fun i y d t r b A E=>((j.own i y d t r b).2.lt A E).2
 have s:∀i,i<kk->∃d,fs[i]? =Xa d:=fun i t=>⟨_,gE (by have:=(gS.1 M).1;omega)⟩
 by_cases R:i=kk
 ·subst R;rw[sF H]at u;cases u;rw[sN (by omega)]at q
  obtain⟨d,b⟩:=s C (by omega)
  intro m;have D:=h C Q d (by omega) q b p m
  have T:=(e.lt p l).1;omega
 rw[sN (by omega)]at u
 by_cases S:C=kk
 ·subst S;rw[sF H]at q;cases q;obtain⟨d,b⟩:=s i (by omega)
  intro m;have D:=h i P d (by omega) u b p l
  have T:=(e.lt p m).1;omega
 rw[sN (by omega)]at q
 exact j.two i C P Q (by omega) (by omega) G u q p l
theorem zpI.all {base:Nat} {w:Xn} {xs a:List FlV} {fs:List Fl} {v:Xq} (h:zpI base w xs.length xs a fs) (b:xs.length=fs.length) (c:zb fvE base w v a):jA base w v fs:=by
 refine⟨a,c,h.len.trans b,fun i y f a b=>h.own i y f (by rw[<-h.len];exact(gS.1 a).1) a b,fun i j p q a b c=>h.two i j p q ?_ ?_ a b c⟩
 ·rw[<-h.len];exact(gS.1 b).1
 rw[<-h.len];exact(gS.1 c).1
theorem zdb (v fs) (i:Int) (w:Xn) (b3:z5 w v fs):
  Xp prog 36 #[Xi #[v,Xe Xf i]] w fun e w'=>∃b,e= Xl (Xi #[b,Xe Xf i])/\jA (w.heap.size+2) w' b fs/\zc w w'/\w.heap.size+2<=w'.heap.size:=by
 obtain⟨_,y,S,ag,a1⟩:=b3;have a8:=dD S.now;have ao:Xo (∀(k:Nat) x f,y[k]? =Xa x->fs[k]? =Xa f->x.size=f.size/\zq blE w (O x.a x.n x.c) f.bl):=show∀(k:Nat) x f,_ from fun k x f af ae=>⟨(a1 k x f af ae).1,(a1 k x f af ae).2.now⟩
 have a7:=dD ag;have G:=S.now.short;obtain⟨ax,ay,rfl,_⟩:=S.now.rows;clear S ag a1;obtain⟨n,l⟩:=kA y.length;rw[l.out]at G a8⊢;obtain⟨B,c⟩:=kB ((w.alloc (Xk #[O ax n ay,Xe Xf i] 37)).alloc (Xk #[O Xb 0 0,Xe Xf 0] 37));have r:=gD2 c
 have av:=x2a c
 have aw:=x2b c
 have h:Xo (B.heap.size=w.heap.size+2):=dD<|by rw[<-c];simp
 have V:Xo (_=B):=c;clear c
 go_enter func36,ntmps36
 go_wp2_with fail;rw[V.out];refine(zfR _ y B (a8.grew r)).mono ?_;rintro e b6 ⟨bc,rfl,g,ab⟩;obtain⟨a4,T,rfl⟩:=g.form;rw[h.out]at g;rw[l.out]at g⊢;have ap:=dD g;have aj:=dD ab;clear g ab;go_wp2
 go_loopg [4,10] n (fun b0 _ a3 wr=>∃(a:Nat) (z:List FlV),a<=n/\n - a<=b0/\a3= Xe Xf a/\Xo (zc B wr)/\Xo (zb fvE (w.heap.size+2) wr (O a4 n T) z)/\Xo (zpI (w.heap.size+2) wr a y z fs))
 case atStart=>exact⟨0,y,nZ _,by omega,rfl,aj,ap,⟨rfl,fun k b5 f I=>absurd I (nL _),fun k _=>rfl,fun k bb x b5 I=>absurd I (nL _)⟩⟩
 obtain⟨a,z,b2,b1,rfl,m,R,A⟩:=hrel
 by_cases j:a<n
 ·have M:=kC j
  obtain⟨q,U⟩:∃q,Xo (y[a]? =Xa q):=⟨_,gE (by rw[l.out];exact j)⟩
  obtain⟨f,a6⟩:∃f,Xo (fs[a]? =Xa f):=⟨_,gE (by rw[<-a7.out,l.out];exact j)⟩
  have a9:Xo (z[a]? =Xa q):=dD<|by rw[A.rest a (nR _)];exact U.out
  obtain⟨F,b4,L⟩:=R.formS (by rw[A.len,l.out];omega)
  rw[A.len,l.out]at L;cases L;obtain⟨ah,ai⟩:=ao.out a q f U a6.out;have au:=dD ah;have K:=zhh _ f.bl wr (ai.grew (r.trans m));obtain⟨b8,ba,N,d⟩:=R.at.rows;obtain⟨b9,Z,H⟩:=d a q a9.out;rw[A.len,l.out]at N;cases N;cases Z;have az:wr.cell? ⟨F,a*2+1,Xb⟩=Xa (O q.a q.n q.c):=by
   have:=H wr (zc.refl _) 1 _ rfl;rw[zV,Addr.add_lit,zA]at this;exact this
  clear ah ai d H;go_wp2_with fail;refine K.mono ?_;rintro e b7 ⟨bd,rfl,u,Y⟩;obtain⟨C,D,rfl⟩:=u.form;have aa:=dD u;have a5:=dD Y;have s:=dD (R.grew Y);have am:Xo (w.heap.size+2<=wr.heap.size):=show _<=_ by
   have:=bS m.out;rw[h.out]at this;exact this
  clear u Y K az
  generalize f.bl.length=P at aa⊢
  go_wp2_with (refine zw (E:=fvE) rfl (.tmp 22) (.tmp 20) 29 rfl (w.heap.size+2) _ z s F a 1 rfl q ⟨q.size,C,P,D⟩ a9.out [O C P D] ?s1 rfl ?s2 ?s3 ⟨F,a*2+1,Xb⟩ rfl rfl (O C P D) rfl rfl ?_)
  case s1=>kernel_rfl
  case s2=>exact nR 2
  case s3=>simp;rfl
  intro W Q t _;have aq:Xo (zb fvE (w.heap.size+2) W (O (Xa ⟨F,0,Xb⟩) n T) (z.set a ⟨q.size,C,P,D⟩)):=Q;have al:Xo (zpI (w.heap.size+2) W (a+1) y (z.set a ⟨q.size,C,P,D⟩) fs):=A.step a5 t a6 U au aa am s rfl;have ak:Xo (zc B W):=show zc _ _ from zd (m.trans a5) t (by
   rw[h.out];exact(s.lt F rfl).1)
  clear Q t;go_wp2
  go_roundg (n -(a+1))
  case measure=>omega
  exact⟨a+1,_,by omega,by omega,by go_num,ak,aq,al⟩
 have M:=kD j
 have:a=n:=by omega
 subst this;have ar:Xo (jA (w.heap.size+2) wr (O a4 a T) fs):=dD<|by
  have ac:=A.out;rw[<-l.out]at ac;exact ac.all a7 R.out
 have be:=(av.grew m).c 1 rfl;have X:=aw.grew m.out;have bf:=X.c 0 rfl;have bg:=X.c 1 rfl;have bh:=X.f;have an:=dD (r.trans m);go_wp2;refine bodyPost_ret (v:= Xi #[O a4 a T,Xe Xf i]) (by simp[results,Tryz.results36,go_sem, *]) rfl ⟨_,rfl,(ar.setCell (by simp) _).setCell (by simp) _,?_,?_⟩
 ·exact Below.setCell (Below.setCell an (p:=⟨w.heap.size+1,0,Xb⟩) (by simp) _) (p:=⟨w.heap.size+1,1,Xb⟩) (by simp) _
 have:=bS m.out;rw[h.out]at this
 simp[World.setCell]
 exact this
def env (e:En):List Xq:=[Xe Xf e.kind,Xe Xf e.n,Xh e.wr]
theorem zqK:(Tryz.prog.info? 75).map (fun i=>(i.zero,i.size,i.bytes))=Xa (Xa (Xi #[Xe Xf 0,Xe Xf 0,Xh Xd]),3,24):=by kernel_rfl
def enE:Elt En where
 enc:=env
 k:=3
 ty:=75
 st:=70
 bytes:=24
 zv:= Xi #[Xe Xf 0,Xe Xf 0,Xh Xd]
 zero:=en0
 len:=fun _=>rfl
 one:=fun a u hu=>by
  simp only[env,mC,nM,or_false]at hu
  rcases hu with rfl|rfl|rfl <;> rfl
 und:=underlying70
 info:=zqK
 zok:=rfl
 few:=by decide
 pos:=by decide
def zpK (W:Xn) (y:Addr) (e:En):Prop:=W.cell? y=Xa (Xe Xf e.kind)/\W.cell? { block:=y.block,off:=y.off+1 }=Xa (Xe Xf e.n)/\W.cell? { block:=y.block,off:=y.off+2 }=Xa (Xh e.wr)
def zqe (w:Xn) (a:Option Addr) (l:List En):Prop:=∀(j:Nat) e,l[j]? =Xa e->∃ad,a=Xa ad/\∀W,zc w W->zpK W (ad.add (j*3)) e
theorem zq.ens {w:Xn} {v:Xq} {l:List En} (h:zq enE w v l):∃a c,v= O a l.length c/\zqe w a l:=by
 obtain⟨a,c,b,e⟩:=h.rows;refine⟨a,c,b,fun j x g=>?_⟩
 obtain⟨d,f,b⟩:=e j x g;exact⟨d,f,fun W d=>⟨b W d 0 _ rfl,b W d 1 _ rfl,b W d 2 _ rfl⟩⟩
structure Ja (B0 B1:Nat) (w:Xn) (vs:List Xq) (t:List (List En)):Prop where
 len:vs.length=8
 tlen:t.length=8
 row:∀(i:Nat) v h,vs[i]? =Xa v->t[i]? =Xa h->ziP enE B0 B1 w v h
def JJ (w:Xn) (vs:List Xq) (t:List (List En)):Prop:=Ja 0 0 w vs t
theorem Ja.out {w:Xn} {t:List (List En)} (h:Ja B0 B1 w vs t) (k:Out B0 B1 w w'):Ja B0 B1 w' vs t:=⟨h.len,h.tlen,fun i v x a b=>(h.row i v x a b).out k⟩
theorem Ja.grew {w:Xn} {t:List (List En)} (h:Ja B0 B1 w vs t) (k:zc w w'):Ja B0 B1 w' vs t:=h.out (Out.grew k)
theorem Ja.less {w:Xn} {t:List (List En)} (h:Ja B0 B1 w vs t) (a:B0<=A0) (b:A1<=B1):Ja A0 A1 w vs t:=⟨h.len,h.tlen,fun i v x c d=>(h.row i v x c d).less a b⟩
theorem Ja.now {w:Xn} {t:List (List En)} (h:Ja B0 B1 w vs t):JJ w vs t:=⟨h.len,h.tlen,fun i v x a b=>(h.row i v x a b).now.s0⟩
theorem JJ.grew {w:Xn} {t:List (List En)} (h:JJ w vs t) (k:zc w w'):JJ w' vs t:=Ja.grew h k
def Jw:List Xq:=Xr 8 (O Xb 0 0)
theorem Ja.nil (B0 B1:Nat) (w):Ja B0 B1 w Jw qI:=⟨rfl,rfl,fun i v h b c=>by
 have a:=mG b;have b:=mG c;rw[Jw,Oz]at a;rw[qI,Oz]at b;rw[a.2,b.2];exact fun a _=>zq.nil enE a⟩
theorem JJ.half {w:Xn} {t:List (List En)} (h:JJ w vs t) {i:Nat} (hi:i<8):∃a c x,t[i]? =Xa x/\vs[i]? =Xa (O a x.length c)/\zq enE w (O a x.length c) x:=by
 obtain⟨v,d⟩:∃v,vs[i]? =Xa v:=⟨_,gE (by rw[h.len];exact hi)⟩
 obtain⟨x,e⟩:∃x,t[i]? =Xa x:=⟨_,gE (by rw[h.tlen];exact hi)⟩
 have b:=(h.row i v x d e).now;obtain⟨a,c,rfl,_⟩:=b.rows;exact⟨a,c,x,e,d,b⟩
theorem zmB {α:Type}:∀{l:List α},l.length=8->∃a b c d e f g h,l=[a,b,c,d,e,f,g,h]
 | [a,b,c,d,e,f,g,h],_=>⟨a,b,c,d,e,f,g,h,rfl⟩
theorem zeW (m n:Int) (w):
  Xp prog 121 #[Xe Xf m,Xe Xf n] w fun e w'=>e= Xl (Xh (bel m n))/\w'=w:=by
 have H:Xo (bel m n=(decide (0<=m) && decide (m<n))):=rfl
 by_cases a:0<=m
 ·by_cases a:m<n
  ·go_enter func121,ntmps121
   go_wp2;go_ret;exact⟨by rw[H.out];simp[*],rfl⟩
  go_enter func121,ntmps121
  go_wp2;go_ret;exact⟨by rw[H.out];simp[*],rfl⟩
 go_enter func121,ntmps121
 go_wp2;go_ret;exact⟨by rw[H.out];simp;omega,rfl⟩
theorem Jl {m n:Int} (a:0<=m) (b:m<n) (w):Xp prog 121 #[Xe Xf m,Xe Xf n] w fun e w'=>e= Xl (Xh Xc)/\w'=w:=by
 have:=zeW m n w;rw[zaq.2 ⟨a,b⟩]at this;exact this
theorem zbK {m n:Int} (h:¬(0<=m/\m<n)) (w):Xp prog 121 #[Xe Xf m,Xe Xf n] w fun e w'=>e= Xl (Xh Xd)/\w'=w:=by
 have:=zeW m n w;rw[zmT h]at this;exact this
theorem zbZ (k n:Int) (b:Bool) (w):
  Xp prog 143 #[Xi #[Xe Xf k,Xe Xf n,Xh b]] w fun e w'=>e= Xl (Xh (enS ⟨k,n,b⟩))/\zc w w':=by
 have H:Xo (enS ⟨k,n,b⟩=(k != 0)):=rfl
 go_enter func143,ntmps143
 go_wp2;go_ret;exact⟨by rw[H.out];rfl,za _ _⟩
theorem zbE {e:En} (h:¬(0<=e.kind/\e.kind<=2)):enW e=1:=by unfold enW;rw[kF h]
theorem ZY {e:En} (h:0<=e.kind/\e.kind<=2) (a:¬(0<=e.n/\e.n<=59/\(e.kind=1->e.n<=39))):enW e=3:=by unfold enW;rw[kE h,kF a]
theorem zam {e:En} (h:0<=e.kind/\e.kind<=2) (a:0<=e.n/\e.n<=59/\(e.kind=1->e.n<=39)) (b:(e.kind=0/\(e.n≠0\/e.wr=Xc))\/(e.kind=2/\e.wr=Xc)):enW e=7:=by unfold enW;rw[kE h,kE a,kE b]
def zmA (a b:En):Bool:=(a.kind == b.kind) &&((a.n == b.n) &&(a.wr == b.wr))
theorem zqk (k n k' n':Int) (b b':Bool) (w):(Op.equalIn 10000 75 (Xi #[Xe Xf k,Xe Xf n,Xh b]) (Xi #[Xe Xf k',Xe Xf n',Xh b'])).run prog w= .ok (zmA ⟨k,n,b⟩ ⟨k',n',b'⟩) w:=by
 have hf : (Tryz.prog.fieldsOf 75).toList.map (fun f => (f.name, f.type, f.offset)) = [("Kind", 3, 0), ("N", 3, 1), ("Write", 4, 2)] := by kernel_rfl
 rw[run_equalIn_struct w 9999 75 _ _ (by kernel_rfl) (by kernel_rfl)]
 obtain⟨f0,f1,f2,hfs⟩:∃f0 f1 f2,(Tryz.prog.fieldsOf 75).toList=[f0,f1,f2]:=by
  match hq:(Tryz.prog.fieldsOf 75).toList with
  | [f0,f1,f2]=>exact⟨f0,f1,f2,rfl⟩
  | []=>rw[hq]at hf;simp at hf
  | [_]=>rw[hq]at hf;simp at hf
  | [_,_]=>rw[hq]at hf;simp at hf
  | _ :: _ :: _ :: _ :: _=>rw[hq]at hf;simp at hf
 rw[hfs]at hf⊢
 simp at hf
 obtain⟨⟨h1,h2,h3⟩,⟨h4,h5,h6⟩,h7,h8,h9⟩:=hf;have pI:∀(zs:Array Xq) (o:Nat) v,zs[o]? =Xa (Xe Xf v)->(part 3 zs o).run prog w= .ok (Xe Xf v) w:=fun zs o v hz=>run_part_plain w (by simp[Program.plainKey,underlying3]) hz
 have pB:∀(zs:Array Xq) (o:Nat) v,zs[o]? =Xa (Xh v)->(part 4 zs o).run prog w= .ok (Xh v) w:=fun zs o v hz=>run_part_plain w (by simp[Program.plainKey,underlying4]) hz
 simp only[Op.eqFields,h1,h2,h3,h4,h5,h6,h7,h8,h9]
 simp[pI,pB,run_equalIn_int w _ _ _ _ _ _ underlying3,run_equalIn_bool' w _ _ _ _ underlying4]
 unfold zmA
 by_cases e1:k=k' <;> by_cases e2:n=n' <;> cases b <;> cases b' <;> simp[e1,e2]
theorem zaG (k n:Int) (b:Bool) (w):
  Xp prog 163 #[Xi #[Xe Xf k,Xe Xf n,Xh b]] w fun e w'=>e= Xl (Xe Xf (enW ⟨k,n,b⟩))/\zc w w':=by
 obtain⟨Z,f⟩:=kA (enW ⟨k,n,b⟩);rw[f.out]
 by_cases g:0<=k/\k<=2
 ·have a:=fun W=>Jl (m:=k) (n:=3) g.1 (by omega) W
  by_cases l:0<=n/\n<=59
  ·have c:=fun W=>Jl (m:=n) (n:=60) l.1 (by omega) W
   by_cases i:k=1/\39<n
   ·have d:Xo (Z=3):=dD<|by rw[<-f.out];exact ZY g (fun h=>by have:=h.2.2 i.1;simp at this;omega)
    obtain⟨rfl,i⟩:=i;have q:40<=n:=by omega
    go_enter func163,ntmps163
    go_wp2_with fail;refine(a _).mono ?_;rintro e w' ⟨rfl,rfl⟩;go_wp2_with fail;refine(c _).mono ?_;rintro e w' ⟨rfl,rfl⟩;go_wp2;go_ret;exact⟨by rw[d.out];rfl,za _ _⟩
   have j:0<=n/\n<=59/\(k=1->n<=39):=⟨l.1,l.2,fun h=>by omega⟩
   obtain rfl|rfl|rfl:k=0\/k=1\/k=2:=by omega
   ·have p:=fun W=>zqk 0 n 0 0 b Xd W
    by_cases i:n=0/\b=Xd
    ·have d:Xo (Z=0):=dD<|by rw[<-f.out];exact Qg g j (fun h=>by simp[i.1,i.2]at h)
     obtain⟨rfl,rfl⟩:=i;rw[show zmA ⟨0,0,Xd⟩ ⟨0,0,Xd⟩=Xc from rfl]at p
     go_enter func163,ntmps163
     go_wp2_with fail;refine(a _).mono ?_;rintro e w' ⟨rfl,rfl⟩;go_wp2_with fail;refine(c _).mono ?_;rintro e w' ⟨rfl,rfl⟩;go_wp2;go_ret;exact⟨by rw[d.out];rfl,za _ _⟩
    have d:Xo (Z=7):=dD<|by
     rw[<-f.out];refine zam g j (.inl ⟨rfl,?_⟩)
     cases b with
     | false=>exact .inl (fun h=>i ⟨h,rfl⟩)
     | true=>exact .inr rfl
    have r:zmA ⟨0,n,b⟩ ⟨0,0,Xd⟩=Xd:=by
     unfold zmA
     cases b with
     | false=>simp;exact fun h=>i ⟨h,rfl⟩
     | true=>simp
    rw[r]at p
    go_enter func163,ntmps163
    go_wp2_with fail;refine(a _).mono ?_;rintro e w' ⟨rfl,rfl⟩;go_wp2_with fail;refine(c _).mono ?_;rintro e w' ⟨rfl,rfl⟩;go_wp2;go_ret;exact⟨by rw[d.out];rfl,za _ _⟩
   ·have d:Xo (Z=0):=dD<|by rw[<-f.out];exact Qg g j (fun h=>by simp at h)
    have q:¬40<=n:=by omega
    go_enter func163,ntmps163
    go_wp2_with fail;refine(a _).mono ?_;rintro e w' ⟨rfl,rfl⟩;go_wp2_with fail;refine(c _).mono ?_;rintro e w' ⟨rfl,rfl⟩;go_wp2;go_ret;exact⟨by rw[d.out];rfl,za _ _⟩
   cases b with
   | false=>
    have d:Xo (Z=0):=dD<|by rw[<-f.out];exact Qg g j (fun h=>by simp at h)
    go_enter func163,ntmps163
    go_wp2_with fail;refine(a _).mono ?_;rintro e w' ⟨rfl,rfl⟩;go_wp2_with fail;refine(c _).mono ?_;rintro e w' ⟨rfl,rfl⟩;go_wp2;go_ret;exact⟨by rw[d.out];rfl,za _ _⟩
   | true=>
    have d:Xo (Z=7):=dD<|by rw[<-f.out];exact zam g j (.inr ⟨rfl,rfl⟩)
    go_enter func163,ntmps163
    go_wp2_with fail;refine(a _).mono ?_;rintro e w' ⟨rfl,rfl⟩;go_wp2_with fail;refine(c _).mono ?_;rintro e w' ⟨rfl,rfl⟩;go_wp2;go_ret;exact⟨by rw[d.out];rfl,za _ _⟩
  have d:Xo (Z=3):=dD<|by rw[<-f.out];exact ZY g (fun h=>l ⟨h.1,h.2.1⟩)
  have c:=fun W=>zbK (m:=n) (n:=60) (by omega) W
  go_enter func163,ntmps163
  go_wp2_with fail;refine(a _).mono ?_;rintro e w' ⟨rfl,rfl⟩;go_wp2_with fail;refine(c _).mono ?_;rintro e w' ⟨rfl,rfl⟩;go_wp2;go_ret;exact⟨by rw[d.out];rfl,za _ _⟩
 have d:Xo (Z=1):=dD<|by rw[<-f.out];exact zbE g
 have a:=fun W=>zbK (m:=k) (n:=3) (by omega) W
 go_enter func163,ntmps163
 go_wp2_with fail;refine(a _).mono ?_;rintro e w' ⟨rfl,rfl⟩;go_wp2;go_ret;exact⟨by rw[d.out];rfl,za _ _⟩
theorem zfz (v) (fs:List En) (w) (y:zq enE w v fs):
  Xp prog 176 #[v,.func (.func 143) #[] #[]] w fun e w'=>(∃B:Int,e= Xl (Xe Xf B)/\decide (0<=B)=Z5 fs)/\zc w w':=by
 have h:=y.short;obtain⟨N,Q,rfl,k⟩:=y.ens;have D:=dD k;obtain⟨n,s⟩:=kA fs.length;rw[s.out]at h⊢;obtain⟨g,c⟩:=kA (Z5 fs);rw[c.out];have U:=enters_of func143 (by kernel_rfl) rfl
 go_enter func176,ntmps176
 go_wp2
 go_loopg [8] n (fun F L wr=>∃b:Nat,b<=n/\n - b<=F/\L= Xe Xf b/\Xo (zc w wr)/\Xo (∀(j:Nat) q,j<b->fs[j]? =Xa q->enS q=Xd))
 case atStart=>exact⟨0,nZ _,by omega,rfl,zc.refl w,fun j q x=>absurd x (nL _)⟩
 obtain⟨b,G,V,rfl,l,A⟩:=hrel
 by_cases d:b<n
 ·have i:=kC d
  obtain⟨q,t⟩:∃q,Xo (fs[b]? =Xa q):=⟨_,gE (by rw[s.out];exact d)⟩
  obtain⟨P,rfl,H⟩:=D.out b q t.out;obtain⟨R,S,T⟩:=H wr l.out;have a:=zbZ q.kind q.n q.wr wr
  cases m:enS q with
  | true=>
   have r:Xo (decide (0<=(b:Int))=g):=dD<|by
    rw[<-c.out,show Z5 fs=Xc from zpE t.out m]
    simp
   rw[show enS ⟨q.kind,q.n,q.wr⟩=Xc from m]at a
   go_wp2_with fail;refine a.mono ?_;rintro e E ⟨rfl,u⟩;have p:=dD (l.trans u);go_wp2;go_ret;exact⟨⟨_,rfl,r⟩,p⟩
  | false=>
   have C:Xo (∀(j:Nat) q,j<b+1->fs[j]? =Xa q->enS q=Xd):=dD<|fun j K x f=>by
    by_cases e:j=b
    ·subst e;rw[t.out]at f;cases f;exact m
    exact A j K (by omega) f
   rw[show enS ⟨q.kind,q.n,q.wr⟩=Xd from m]at a
   go_wp2_with fail;refine a.mono ?_;rintro e E ⟨rfl,u⟩;have p:=dD (l.trans u);go_wp2
   go_roundg (n -(b+1))
   case measure=>omega
   exact⟨b+1,by omega,by omega,by go_num,p,C⟩
 have i:=kD d
 have:b=n:=by omega
 subst this;have r:Xo (decide (0<=(-1:Int))=g):=dD<|by
  rw[<-c.out]
  symm
  exact zpD (fun j M z=>A.out j M (by rw[<-s.out];exact(gS.1 z).1) z)
 go_wp2;go_ret;exact⟨⟨_,rfl,r⟩,l⟩
theorem Qc (v) (fs:List En) (w) (b:zq enE w v fs):
  Xp prog 164 #[v,.func (.func 143) #[] #[]] w fun e w'=>e= Xl (Xh (Z5 fs))/\zc w w':=by
 have a:=zfz v fs w b;obtain⟨c,c,rfl,_⟩:=b.rows;clear b
 generalize fs.length=n at*
 generalize Z5 fs=A at*
 go_enter func164,ntmps164
 go_wp2_with fail;refine a.mono ?_;rintro e b ⟨⟨z,rfl,b⟩,c⟩;have f:=dD b;have d:=dD c;clear b c a;go_wp2;go_ret;exact⟨by rw[<-f.out];rfl,d⟩
theorem zd8 (v) (fs:List En) (w:Xn) (h:zq enE w v fs):
  Xp prog 145 #[v] w fun e w'=>∃g,e= Xl g/\zb enE w.heap.size w' g fs/\zc w w':=by
 have j:=dD h;obtain⟨⟨d,f,rfl,b,c⟩,a⟩:=h;have h:∀(w:Xn) (d:Option Addr) (n f i h:Nat),(binOp .eql 70 (O d n f) (O Xb i h)).run prog w= .ok (Xh d.isNone) w:=fun w d n f i h=>Lib.run_eql_slice_nil w _ _ d n f i h underlying70
 cases d with
 | none=>
  have d:=b rfl;subst d;clear c b a
  go_enter func145,ntmps145
  go_wp2;go_ret;exact⟨_,rfl,zb.nil _ _ _,zc.refl w⟩
 | some x=>
  have d:=dD a;clear c b a
  go_enter func145,ntmps145
  go_wp2_with (at_builtin;refine zt (E:=enE) rfl (.tmp 5) (.tmp 6) rfl w.heap.size _ [] rfl (zb.made enE w) _ fs rfl (j.grew (za _ _)) ?qb (by simp) ?_)
  case qb=>rw[Yo,zA];exact d.out
  intro g a b a;go_wp2;go_ret;exact⟨g,rfl,by simpa using b,((bR _ w).alloc (nR _) _).grown a (by simp) (by intro k a;simp[Value.ownBlock]at a;omega)⟩
theorem Box.range {w:Xn} {cs:List Xq} (h:Box w b cs):w.rangeAt b 0 cs:=fun j v a=>by
 rw[zA];exact h.c j a
theorem Box.there {w:Xn} {cs:List Xq} (h:Box w b cs):w.there b 0 cs.length:=fun j a=>by
 rw[zA];exact⟨by rw[h.c j (gE a)];rfl,h.f j⟩
theorem Box.part {w:Xn}:∀{ds cs:List Xq} {o:Nat},Box w b cs->o+ds.length<=cs.length->Box (w.setCells b o ds) b (splice cs o ds):=by
 have c:∀(ds cs:List Xq) (o:Nat) (w:Xn),Box w b cs->o+ds.length<=cs.length->Box (w.setCells b o ds) b (splice cs o ds):=fun ds=>by
  induction ds with
  | nil=>
   intro cs o w h a;have:splice cs o []=cs:=by simp[splice]
   rw[this];exact h
  | cons d ds g=>
   intro cs o w h a;simp only[Yq]at a;have f:=h.set o d;have e:=g (cs.set o d) (o+1) (w.setCell ⟨b,o,Xb⟩ d) f (by simp;omega)
   have f:splice (cs.set o d) (o+1) ds=splice cs o (d :: ds):=by
    unfold splice;rw[List.take_set,List.drop_set,kE (by omega),Ua,gE (by omega)]
    simp only[Yq,Option.toList_some];rw[List.set_append_right _ _ (by simp;omega),show o+1+ds.length=o+(ds.length+1) by omega]
    simp[Uf,Up (show o<=cs.length by omega)]
   rw[f]at e;exact e
 exact fun{ds cs o} h a=>c ds cs o w h a
theorem zS (b:Nat):∀(ds:List Xq) (o:Nat) (w:Xn),w.grownBy (w.setCells b o ds) (Xa b)/\(w.setCells b o ds).heap.size=w.heap.size
 | [],_,w=>⟨World.grownBy.rfl' _ _,rfl⟩
 | d :: ds,o,w=>by
  obtain⟨a,c⟩:=zS b ds (o+1) (w.setCell ⟨b,o,Xb⟩ d);have f:w.grownBy (w.setCell ⟨b,o,Xb⟩ d) (Xa b):=⟨rfl,rfl,rfl,by simp[World.setCell],fun k _ g=>Below.heap_setCell _ _ _ _ (fun e=>g (by rw[e]))⟩
  exact⟨jY f a,c.trans (by simp[World.setCell])⟩
theorem zO {rest:List Oper} {a:Act} {w:Xn} (e:o.guard=Xb) (c x) (i:o.op= .load c x) (b:Nat) (k:a.eval x= Xj (Xa ⟨b,0,Xb⟩)) (f:Box w b vs) {d:TypeDesc} (j:Tryz.prog.underlying c=Xa d) (g:d.isRow=Xc) (hi:(Tryz.prog.info? c).map (·.size)=Xa vs.length)
  (h:wpList prog ops Q rest (a.put o.dst (Xi vs.toArray)) w):wpList prog ops Q (o :: rest) a w:=
 wpList_load_mid e c x i b 0 k vs _ f.range j g hi h
theorem zau {cs:List Xq} (h:vs.length=cs.length):splice cs 0 vs=vs:=by
 unfold splice;rw[Oy,Ol,zA,Oa (by omega),Om]
theorem zF {rest:List Oper} {a:Act} {w:Xn} (c:o.guard=Xb) (e p x) (i:o.op= .store e p x) (b:Nat) (hp:a.eval p= Xj (Xa ⟨b,0,Xb⟩)) (vs:List Xq) (j:a.eval x= Xi vs.toArray)
  {cs:List Xq} (f:Box w b cs) (d:vs.length=cs.length) (hi:(Tryz.prog.info? e).map (·.size)=Xa cs.length) (g:∀v∈vs,v.oneCell'=Xc)
  (h:∀w',Box w' b vs->w.grownBy w' (Xa b)->w'.heap.size=w.heap.size->wpList prog ops Q rest (a.put o.dst undef) w'):wpList prog ops Q (o :: rest) a w:=by
 refine wpList_store_mid c e p x i b 0 vs.toArray hp j ?_ ?_ (all_oneCell_toArray g) ?_
 ·simpa [d]using f.there
 ·simpa [d]using hi
 have:=f.part (ds:=vs) (o:=0) (by omega)
 rw[zau d]at this;exact h _ this (zS b vs 0 w).1 (zS b vs 0 w).2
theorem zhF {rest:List Oper} {c:Oper} {a:Act} {w:Xn} (d:c.guard=Xb) (e p x) (j:c.op= .store e p x) (b o:Nat) (hp:a.eval p= Xj (Xa ⟨b,o,Xb⟩)) (vs:List Xq) (k:a.eval x= Xi vs.toArray)
  {cs:List Xq} (f:Box w b cs) (i:o+vs.length<=cs.length) (hi:(Tryz.prog.info? e).map (·.size)=Xa vs.length) (g:∀v∈vs,v.oneCell'=Xc)
  (h:∀w',Box w' b (splice cs o vs)->w.grownBy w' (Xa b)->w'.heap.size=w.heap.size->wpList prog ops Q rest (a.put c.dst undef) w'):wpList prog ops Q (c :: rest) a w:=by
 refine wpList_store_mid d e p x j b o vs.toArray hp k ?_ ?_ (all_oneCell_toArray g) ?_
 ·intro j c;have:=f.there (o+j) (by simp at c;omega)
  rw[zA]at this;exact this
 ·simpa using hi
 exact h _ (f.part i) (zS b vs o w).1 (zS b vs o w).2
theorem Box.mid {w:Xn} {cs:List Xq} (h:Box w b cs) (o:Nat) (c:∀(j:Nat) v,vs[j]? =Xa v->cs[o+j]? =Xa v):w.rangeAt b o vs:=fun j v a=>h.c _ (c j v a)
theorem zX {e:Func} {p:Tmp} {c:TypeId} (h:e.results=#[.cell p c]) (a:Array Xq) {w:Xn} (hp:a.getD p undef= Xj (Xa ⟨b,0,Xb⟩)) (f:Box w b vs) {d:TypeDesc} (i:Tryz.prog.underlying c=Xa d) (g:d.isRow=Xc) (hi:(Tryz.prog.info? c).map (·.size)=Xa vs.length):
  (results e a).run prog w= .ok (Xi vs.toArray) w:=by
 have e:a[p]?.getD undef= Xj (Xa ⟨b,0,Xb⟩):=by simpa using hp
 have a:=run_loadVar_mid (P:=prog) w b 0 c vs d f.range i g hi
 simp[results,h,e,asAddr,a]
theorem Zy {P:Program} {i:Nat} {a:Act} {w:Xn} {next:Act->Xn->Prop} (d:Option Tmp) (K:Xq->Xn->Prop) (hi:ops[i]? =Xa o) (b:o.dst=d) (e:Xu o (yielded ops a.tmps)=Xc) (h:zQ P o a w K) (c:∀v w',K v w'->next (a.put d v) w'):wpOp P ops Q i next a w:=by
 subst b;unfold wpOp;simp only[hi,e,if_true];exact .inl (h.wp c)
theorem zQ.storeAll {a:Act} {w:Xn} {K:Xq->Xn->Prop} (d p x) (g:o.op= .store d p x) (b:Nat) (hp:a.eval p= Xj (Xa ⟨b,0,Xb⟩)) (vs:List Xq) (j:a.eval x= Xi vs.toArray)
  {cs:List Xq} (e:Box w b cs) (c:vs.length=cs.length) (hi:(Tryz.prog.info? d).map (·.size)=Xa cs.length) (f:∀v∈vs,v.oneCell'=Xc)
  (h:∀w',Box w' b vs->w.grownBy w' (Xa b)->w'.heap.size=w.heap.size->K undef w'):zQ prog o a w K:=by
 unfold zQ;have i:(execOp a.eval o).run prog w= .ok .skip (w.setCells b 0 vs):=by
  have:=run_storeAt_mid (P:=prog) w b 0 d vs.toArray (by simpa [c]using e.there) (by simpa [c]using hi) (all_oneCell_toArray f)
  simp only[execOp,g,hp,j,Yd,this,rA,Yi]
 rw[i];have hp:=e.part (ds:=vs) (o:=0) (by omega)
 rw[zau c]at hp;exact h _ hp (zS b vs 0 w).1 (zS b vs 0 w).2
theorem zqL:(Tryz.prog.info? 72).map (·.size)=Xa 8:=by kernel_rfl
theorem qi {rest:List Oper} {a:Act} {w:Xn} (c:o.guard=Xb) (x) (f:o.op= .load 72 x) (b:Nat) (g:a.eval x= Xj (Xa ⟨b,0,Xb⟩)) (d:Box w b vs) (e:vs.length=8)
  (h:wpList prog ops Q rest (a.put o.dst (Xi vs.toArray)) w):wpList prog ops Q (o :: rest) a w:=
 wpList_load_mid c 72 x f b 0 g vs _ d.range underlying72 rfl (by rw[e];exact zqL) h
theorem zno {w:Xn} (i:Nat) (hi:i<8) {v:Xq} (g:vs[i]? =Xa v):(Instr.index 72 (Xi vs.toArray) (Xe Xf (i:Int))).run prog w= .ok v w:=by
 have e:(isAgg 70).run prog w= .ok Xd w:=by
  unfold isAgg;rw[Yd,run_underlying underlying70 w];rfl
 have f:(Go.sizeOf 70).run prog w= .ok 1 w:=by
  obtain⟨a,c,d⟩:∃a,Tryz.prog.info? 70=Xa a/\a.size=1:=by
   have:(Tryz.prog.info? 70).map (·.size)=Xa 1:=by kernel_rfl
   cases b:Tryz.prog.info? 70 with
   | none=>rw[b]at this;cases this
   | some a=>rw[b]at this;exact⟨a,rfl,by simpa using this⟩
  simp[Go.sizeOf,typeInfo,c,d]
 have a:(0:Int)<=(i:Int)/\(i:Int)< ((8:Nat):Int):=by omega
 simp only[Instr.index,asIntOf,Yd,Yi,rA,run_underlying underlying72];rw[kE a];simp only[Yd,f,rA,part,e,Nat.mul_one,tN]
 simp[g]
theorem zcT {rest:List Oper} {a:Act} {w:Xn} (b:o.guard=Xb) (x ix) (d:o.op= .index 72 x ix) (vs:List Xq) (f:a.eval x= Xi vs.toArray) (i:Nat) (c:a.eval ix= Xe Xf (i:Int)) (hi:i<8) {v:Xq} (e:vs[i]? =Xa v)
  (h:wpList prog ops Q rest (a.put o.dst v) w):wpList prog ops Q (o :: rest) a w:=by
 refine wpList_plain b fun K b=>?_
 unfold Oper.wp execOp;simp only[d,f,c,Yd,Yi,rA,zno i hi e];exact b _ _ h
theorem qL {e:Func} {p u:Tmp} {c:TypeId} (h:e.results=#[.cell p c,.tmp u]) (a:Array Xq) {w:Xn} (hp:a.getD p undef= Xj (Xa ⟨b,0,Xb⟩)) (f:Box w b vs) {d:TypeDesc} (i:Tryz.prog.underlying c=Xa d) (g:d.isRow=Xc) (hi:(Tryz.prog.info? c).map (·.size)=Xa vs.length):
  (results e a).run prog w= .ok (Xm #[Xi vs.toArray,a.getD u undef]) w:=by
 have a:=run_loadVar_mid (P:=prog) w b 0 c vs d f.range i g hi;rw[results_cell_tmp h,hp]
 simp[asAddr,Result.andThen,a]
theorem Ja.one {w:Xn} {t:List (List En)} (h:Ja B0 B1 w vs t):∀v∈vs,v.oneCell'=Xc:=fun v b=>by
 obtain⟨i,a⟩:=Xy b;have b:i<8:=by rw[<-h.len];exact(gS.1 a).1
 obtain⟨c,c,x,_,c,_⟩:=h.now.half b;rw[c]at a;cases a;rfl
structure jL (base:Nat) (w:Xn) (vs:List Xq) (t:List (List En)):Prop where
 len:vs.length=8
 tlen:t.length=8
 row:∀(i:Nat) v h,vs[i]? =Xa v->t[i]? =Xa h->zb enE base w v h
 two:∀(i j:Nat) u v,i≠j->vs[i]? =Xa u->vs[j]? =Xa v->∀g,u.ownBlock=Xa g->v.ownBlock≠Xa g
theorem jL.new {base:Nat} {w:Xn} {t:List (List En)} (h:jL base w vs t):Ja 0 base w vs t:=⟨h.len,h.tlen,fun i v x a b=>(h.row i v x a b).new.stays⟩
theorem jL.grew {base:Nat} {w:Xn} {t:List (List En)} (h:jL base w vs t) (k:zc w w'):jL base w' vs t:=⟨h.len,h.tlen,fun i v x a b=>(h.row i v x a b).grew k,h.two⟩
theorem jL.base {base:Nat} {w:Xn} {t:List (List En)} (h:jL base w vs t) (a:base'<=base):jL base' w vs t:=⟨h.len,h.tlen,fun i v x b c=>(h.row i v x b c).base a,h.two⟩
theorem jL.half {base:Nat} {w:Xn} {t:List (List En)} (h:jL base w vs t) {i:Nat} (hi:i<8):∃a c x,t[i]? =Xa x/\vs[i]? =Xa (O a x.length c)/\zb enE base w (O a x.length c) x:=by
 obtain⟨v,d⟩:∃v,vs[i]? =Xa v:=⟨_,gE (by rw[h.len];exact hi)⟩
 obtain⟨x,e⟩:∃x,t[i]? =Xa x:=⟨_,gE (by rw[h.tlen];exact hi)⟩
 have b:=h.row i v x d e;obtain⟨a,c,rfl⟩:=b.form;exact⟨a,c,x,e,d,b⟩
theorem jL.one {base:Nat} {w:Xn} {t:List (List En)} (h:jL base w vs t) {i:Nat} {v a:Xq} {b:List En} (hi:i<8) (q:vs[i]? =Xa v) (p:w.grownBy w' v.ownBlock) (z:zb enE base w' a b) (y:∀g,a.ownBlock=Xa g->v.ownBlock=Xa g\/w.heap.size<=g):jL base w' (vs.set i a) (t.set i b):=by
 have l:∀(j:Nat) u,vs[j]? =Xa u->∀g,u.ownBlock=Xa g->g<w.heap.size:=fun j u d g p=>by
  obtain⟨x,k⟩:∃x,t[j]? =Xa x:=⟨_,gE (by rw[h.tlen,<-h.len];exact(gS.1 d).1)⟩
  exact((h.row j u x d k).lt g p).2
 refine⟨by simp[h.len],by simp[h.tlen],fun j u x d k=>?_,fun j m r s a f e g b c=>?_⟩
 ·by_cases n:j=i
  ·subst n;rw[sF (by rw[h.len];exact hi)]at d
   rw[sF (by rw[h.tlen];exact hi)]at k
   cases d;cases k;exact z
  rw[sN (fun h=>n h.symm)]at d k
  exact(h.row j u x d k).grown p (fun g k p=>h.two j i u v n d q g k p)
 by_cases k:j=i
 ·subst k;rw[sF (by rw[h.len];exact hi)]at f
  cases f;rw[sN a]at e
  rcases y g b with d|d
  ·exact h.two j m v s a q e g d c
  have:=l m s e g c;omega
 rw[sN (fun h=>k h.symm)]at f
 by_cases k:m=i
 ·subst k;rw[sF (by rw[h.len];exact hi)]at e
  cases e
  rcases y g c with d|d
  ·exact h.two j m r v a f q g b d
  have:=l j r f g b;omega
 rw[sN (fun h=>k h.symm)]at e
 exact h.two j m r s a f e g b c
structure zm4 (base:Nat) (w:Xn) (kk:Nat) (vs us:List Xq) (t:List (List En)):Prop where
 len:us.length=8
 own:∀(i:Nat) v h,i<kk->us[i]? =Xa v->t[i]? =Xa h->zb enE base w v h
 two:∀(i j:Nat) u v,i<kk->j<kk->i≠j->us[i]? =Xa u->us[j]? =Xa v->∀g,u.ownBlock=Xa g->v.ownBlock≠Xa g
 one:∀v∈us,v.oneCell'=Xc
theorem zm4.step {base:Nat} {w:Xn} {t:List (List En)} (h:zm4 base w kk vs us t) (ht:t.length=8) (n:zc w w1) {x:List En} {v:Xq} (q:kk<8) (H:t[kk]? =Xa x) (a:zb enE w.heap.size w1 v x) (F:base<=w.heap.size) {p:Addr} (hp:p.block<base) (u):zm4 base (w1.setCell p u) (kk+1) vs (us.set kk v) t:=by
 have k:∀(j:Nat) u,j<kk->us[j]? =Xa u->∀g,u.ownBlock=Xa g->g<w.heap.size:=fun j u A B g n=>by
  obtain⟨y,c⟩:∃y,t[j]? =Xa y:=⟨_,gE (by rw[ht,<-h.len];exact(gS.1 B).1)⟩
  exact((h.own j u y A B c).lt g n).2
 refine⟨by simp[h.len],fun i y E G c m=>?_,fun i j C D G A f b e g d l=>?_,fun y c=>?_⟩
 ·by_cases r:i=kk
  ·subst r;rw[sF (by rw[h.len];exact q)]at c
   cases c;rw[H]at m;cases m;exact(a.base F).setCell hp u
  rw[sN (fun h=>r h.symm)]at c
  exact((h.own i y E (by omega) c m).grew n).setCell hp u
 ·by_cases s:i=kk
  ·subst s;rw[sF (by rw[h.len];exact q)]at b
   cases b;rw[sN f]at e;have:=k j D (by omega) e g l
   have:=(a.lt g d).1;omega
  rw[sN (fun h=>s h.symm)]at b
  by_cases z:j=kk
  ·subst z;rw[sF (by rw[h.len];exact q)]at e
   cases e;have:=k i C (by omega) b g d
   have:=(a.lt g l).1;omega
  rw[sN (fun h=>z h.symm)]at e
  exact h.two i j C D (by omega) (by omega) f b e g d l
 rcases Xw c with d|d
 ·exact h.one y d
 subst d;obtain⟨K,L,rfl⟩:=a.form;rfl
theorem zgz (vs:List Xq) (t:List (List En)) (w:Xn) (a:JJ w vs t):
  Xp prog 126 #[Xi vs.toArray] w fun e w'=>∃c,e= Xl (Xi c.toArray)/\jL (w.heap.size+2) w' c t/\zc w w'/\w.heap.size+2<=w'.heap.size:=by
 have q:=dD a;have h:=dD a.len;clear a;obtain⟨g,a⟩:=kB ((w.alloc (Xk vs.toArray 72)).alloc (Xk #[O Xb 0 0,O Xb 0 0,O Xb 0 0,O Xb 0 0,O Xb 0 0,O Xb 0 0,O Xb 0 0,O Xb 0 0] 72));have b:=gD2 a
 have i:=x2a a
 have j:Xo (Box g (w.heap.size+1) Jw):=dD<|by rw[<-a];exact Box.top _ Jw _ (by simp)
 have d:Xo (g.heap.size=w.heap.size+2):=dD<|by rw[<-a];simp
 have f:Xo (_=g):=a;clear a
 go_enter func126,ntmps126
 go_upto_region 1 with fail;rw[f.out]
 go_wp2_with (refine qi rfl (.tmp 1) rfl w.heap.size rfl i h.out ?_)
 go_loopg [6] 8 (fun f g wr=>∃(a:Nat) (c:List Xq),a<=8/\8 - a<=f/\g= Xe Xf a/\Xo (zc w wr)/\Xo (w.heap.size+2<=wr.heap.size)/\Xo (Box wr w.heap.size c)/\Xo (Box wr (w.heap.size+1) Jw)/\Xo (zm4 (w.heap.size+2) wr a vs c t))
 case atStart=>exact⟨0,vs,nZ _,by omega,rfl,b,by rw[d.out];exact nR _,i,j,⟨h,fun i v l b=>absurd b (nL _),fun i D E v b=>absurd b (nL _),q.one⟩⟩
 obtain⟨a,c,b,C,rfl,s,x,A,B,d⟩:=hrel
 by_cases f:a<8
 ·have m:(a:Int)<8:=by omega
  obtain⟨n,u,r,j,h,k⟩:=q.half f;have F:=dD j;have g:=dD h;have b:=zd8 (O n r.length u) r wr (k.grew s);clear j h k
  generalize r.length=nq at b g
  go_wp2_with (refine zcT rfl (.tmp 5) (.tmp 6) rfl vs rfl a rfl f g.out ?_)
  refine b.mono ?_;rintro e k ⟨g,rfl,j,y⟩;obtain⟨g,h,rfl⟩:=j.form;have z:=dD j;have n:=dD y;have u:=dD (A.grew y);clear j y b
  generalize r.length=b at z⊢
  obtain⟨r,j⟩:∃r,c[a]? =Xa r:=⟨_,gE (by rw[d.len];exact f)⟩
  have r:=u.c a j;have r:=u.f;clear j;go_wp2;have r:Xo (zm4 (w.heap.size+2) (k.setCell ⟨w.heap.size,a,Xb⟩ (O g b h)) (a+1) vs (c.set a (O g b h)) t):=d.step q.tlen n f F z x (by simp) _
  have f:Xo (Box (k.setCell ⟨w.heap.size,a,Xb⟩ (O g b h)) w.heap.size (c.set a (O g b h))):=u.set a _;have y:Xo (Box (k.setCell ⟨w.heap.size,a,Xb⟩ (O g b h)) (w.heap.size+1) Jw):=(B.grew n).other (by simp) _
  have j:Xo (zc w (k.setCell ⟨w.heap.size,a,Xb⟩ (O g b h))):=dD<|Below.setCell (s.trans n) (p:=⟨w.heap.size,a,Xb⟩) (by simp) _
  have u:Xo (w.heap.size+2<=(k.setCell ⟨w.heap.size,a,Xb⟩ (O g b h)).heap.size):=dD<|by
   have:=bS n.out;have:=x.out
   simp[World.setCell]
   omega
  go_roundg (8 -(a+1))
  case measure=>omega
  exact⟨a+1,_,by omega,by omega,by go_num,j,u,f,y,r⟩
 have m:¬(a:Int)<8:=by omega
 have:a=8:=by omega
 subst this;have b:Xo (jL (w.heap.size+2) wr c t):=dD<|⟨d.len,q.tlen,fun i v l a f=>d.own i v l (by rw[<-d.len];exact(gS.1 a).1) a f,fun i D E v g h a=>d.two i D E v (by rw[<-d.len];exact(gS.1 h).1) (by rw[<-d.len];exact(gS.1 a).1) g h a⟩
 go_wp2_with (first | refine qi rfl (.tmp 1) rfl w.heap.size rfl A d.len ?_ | refine zF rfl 72 (.tmp 2) (.tmp 15) rfl (w.heap.size+1) rfl c rfl B d.len zqL d.one ?_)
 intro g k h m;have n:Xo (jL (w.heap.size+2) g c t):=dD<|⟨b.len,b.tlen,fun i v l a f=>(b.row i v l a f).grown h (fun q C e=>by
  cases e;have:=((b.row i v l a f).lt _ C).1
  omega),b.two⟩
 have j:Xo (zc w g):=dD<|zd s h (by simp)
 have u:Xo (w.heap.size+2<=g.heap.size):=dD<|by rw[m];exact x.out
 have a:=dD k;clear k h m;go_wp2;refine bodyPost_ret (zX rfl _ rfl a underlying72 rfl (by rw[d.len];exact zqL)) rfl ⟨c,rfl,n,j,u⟩
def arv (a:Ar):List Xq:=[Xe Xf a.fr,Xe Xf a.tz,Xh a.rd,Xh a.wr,Xh a.sh,Xe Xf a.file,Xe Xf a.base]
def arA (a:Ar):Xq:= Xi #[Xe Xf a.fr,Xe Xf a.tz,Xh a.rd,Xh a.wr,Xh a.sh,Xe Xf a.file,Xe Xf a.base]
theorem zqM:(Tryz.prog.info? 105).map (fun i=>(i.zero,i.size,i.bytes))=Xa (Xa (Xi #[Xe Xf 0,Xe Xf 0,Xh Xd,Xh Xd,Xh Xd,Xe Xf 0,Xe Xf 0]),7,40):=by kernel_rfl
theorem zqN:(Tryz.prog.info? 105).map (·.size)=Xa 7:=by kernel_rfl
theorem zqO:(Tryz.prog.info? 122).map (·.size)=Xa 2:=by kernel_rfl
theorem zqP:(Tryz.prog.info? 81).map (·.size)=Xa 6:=by kernel_rfl
theorem zqQ:(Tryz.prog.info? 82).map (·.size)=Xa 384:=by kernel_rfl
def arE:Elt Ar where
 enc:=arv
 k:=7
 ty:=105
 st:=77
 bytes:=40
 zv:= Xi #[Xe Xf 0,Xe Xf 0,Xh Xd,Xh Xd,Xh Xd,Xe Xf 0,Xe Xf 0]
 zero:=ar0
 len:=fun _=>rfl
 one:=fun a u hu=>by
  simp only[arv,mC,nM,or_false]at hu
  rcases hu with rfl|rfl|rfl|rfl|rfl|rfl|rfl <;> rfl
 und:=underlying77
 info:=zqM
 zok:=rfl
 few:=by decide
 pos:=by decide
def zpM (W:Xn) (y:Addr) (e:Ar):Prop:=W.cell? y=Xa (Xe Xf e.fr)/\W.cell? { block:=y.block,off:=y.off+1 }=Xa (Xe Xf e.tz)/\W.cell? { block:=y.block,off:=y.off+2 }=Xa (Xh e.rd)/\W.cell? { block:=y.block,off:=y.off+3 }=Xa (Xh e.wr)/\W.cell? { block:=y.block,off:=y.off+4 }=Xa (Xh e.sh)/\W.cell? { block:=y.block,off:=y.off+5 }=Xa (Xe Xf e.file)/\W.cell? { block:=y.block,off:=y.off+6 }=Xa (Xe Xf e.base)
def zna (w:Xn) (a:Option Addr) (l:List Ar):Prop:=∀(j:Nat) e,l[j]? =Xa e->∃ad,a=Xa ad/\∀W,zc w W->zpM W (ad.add (j*7)) e
theorem zq.ars {w:Xn} {v:Xq} {l:List Ar} (h:zq arE w v l):∃a c,v= O a l.length c/\zna w a l:=by
 obtain⟨a,c,b,e⟩:=h.rows;refine⟨a,c,b,fun j x g=>?_⟩
 obtain⟨d,f,b⟩:=e j x g;exact⟨d,f,fun W d=>⟨b W d 0 _ rfl,b W d 1 _ rfl,b W d 2 _ rfl,b W d 3 _ rfl,b W d 4 _ rfl,b W d 5 _ rfl,b W d 6 _ rfl⟩⟩
def onv (x:On):List Xq:=[Xh x.is,Xh x.rd,Xh x.wr,Xh x.sh,Xe Xf x.file,Xe Xf x.page]
def tab {α:Type} (f:Nat->α):List α:=(Xv 64).map f
theorem Q6 {α:Type} (f:Nat->α):(tab f).length=64:=by simp[tab]
theorem JL {α:Type} {f:Nat->α} {k:Nat} (h:k<64):(tab f)[k]? =Xa (f k):=by
 unfold tab;rw[Yc,Ya h];rfl
theorem zoW {α:Type} {f g:Nat->α} (h:∀k,k<64->f k=g k):tab f=tab g:=by
 unfold tab;exact Ox fun k a=>h k (Xs.1 a)
def upd {α:Type} (f:Nat->α) (k:Nat) (x:α):Nat->α:=fun j=>if j=k then x else f j
theorem zhJ {α:Type} (f:Nat->α) (k:Nat) (x:α):(tab f).set k x=tab (upd f k x):=by
 apply Ym
 intro j
 by_cases a:j<64
 ·rw[JL a];unfold upd
  by_cases e:j=k
  ·subst e;rw[sF (by rw[Q6];exact a),kE rfl]
  rw[sN (fun h=>e h.symm),JL a,kF e]
 rw[gN (by simp[tab];omega),gN (by simp[tab];omega)]
def zC (l:List On):List Xq:=l.flatMap onv
theorem zkP (l:List On):(zC l).length=l.length*6:=qF l (fun _ _=>rfl)
theorem zlC (x:On):∀u∈onv x,u.oneCell'=Xc:=fun u a=>by
 simp only[onv,mC,nM,or_false]at a
 rcases a with rfl|rfl|rfl|rfl|rfl|rfl <;> rfl
theorem Jk (l:List On):∀v∈zC l,v.oneCell'=Xc:=qP zlC l
def JR:Elt Fr where
 enc:=frv
 k:=13
 ty:=62
 st:=26
 bytes:=40
 zv:=frz
 zero:=fr0
 len:=ZO
 one:=zfI
 und:=underlying26
 info:=zqD
 zok:=zme
 few:=by decide
 pos:=by decide
theorem zp7 {w:Xn} {v:Xq} {l:List Fr}:zq JR w v l↔qh w v l:=Iff.rfl
def cav (c:Ca):List Xq:=[Xe Xf c.file,Xe Xf c.idx,Xe Xf c.fr]
theorem zqR:(Tryz.prog.info? 93).map (fun i=>(i.zero,i.size,i.bytes))=Xa (Xa (Xi #[Xe Xf 0,Xe Xf 0,Xe Xf 0]),3,24):=by kernel_rfl
def qS:Elt Ca where
 enc:=cav
 k:=3
 ty:=93
 st:=38
 bytes:=24
 zv:= Xi #[Xe Xf 0,Xe Xf 0,Xe Xf 0]
 zero:=⟨0,0,0⟩
 len:=fun _=>rfl
 one:=fun a u hu=>by
  simp only[cav,mC,nM,or_false]at hu
  rcases hu with rfl|rfl|rfl <;> rfl
 und:=underlying38
 info:=zqR
 zok:=rfl
 few:=by decide
 pos:=by decide
def zm8 (W:Xn) (y:Addr) (c:Ca):Prop:=W.cell? y=Xa (Xe Xf c.file)/\W.cell? { block:=y.block,off:=y.off+1 }=Xa (Xe Xf c.idx)/\W.cell? { block:=y.block,off:=y.off+2 }=Xa (Xe Xf c.fr)
def zhw (w:Xn) (a:Option Addr) (l:List Ca):Prop:=∀(j:Nat) c,l[j]? =Xa c->∃ad,a=Xa ad/\∀W,zc w W->zm8 W (ad.add (j*3)) c
theorem zq.cas {w:Xn} {v:Xq} {l:List Ca} (h:zq qS w v l):∃a c,v= O a l.length c/\zhw w a l:=by
 obtain⟨a,c,b,e⟩:=h.rows;refine⟨a,c,b,fun j x g=>?_⟩
 obtain⟨d,f,b⟩:=e j x g;exact⟨d,f,fun W d=>⟨b W d 0 _ rfl,b W d 1 _ rfl,b W d 2 _ rfl⟩⟩
structure Sli where
 a:Option Addr
 n:Nat
 c:Nat
abbrev Sli.x (s:Sli):Xq:= O s.a s.n s.c
abbrev eS:Xq:= O Xb 0 0
abbrev I6 (x:Int):Xq:= Xe Xf x
abbrev U8 (x:Int):Xq:= Xe Xg x
def Sli.v (s:Sli):Xq:= O s.a s.n s.c
def zK:Sli:=⟨Xb,0,0⟩
theorem zq.n {α:Type} {E:Elt α} {w:Xn} {a:Option Addr} {n c:Nat} {l:List α} (h:zq E w (O a n c) l):n=l.length:=by
 obtain⟨_,_,b,_⟩:=h.rows;cases b;rfl
theorem zb.n {α:Type} {E:Elt α} {w:Xn} {a:Option Addr} {n c:Nat} {l:List α} (h:zb E b w (O a n c) l):n=l.length:=h.at.n
structure SpV where
 live:Bool
 ar:Sli
 (t0 t1 t2 t3 t4 t5 t6 t7:Sli)
def SpV.tab (x:SpV):List Xq:=[x.t0.v,x.t1.v,x.t2.v,x.t3.v,x.t4.v,x.t5.v,x.t6.v,x.t7.v]
def spv (x:SpV):List Xq:=[Xh x.live,x.ar.v,x.t0.v,x.t1.v,x.t2.v,x.t3.v,x.t4.v,x.t5.v,x.t6.v,x.t7.v]
def spz:Xq:= Xi #[Xh Xd,O Xb 0 0,O Xb 0 0,O Xb 0 0,O Xb 0 0,O Xb 0 0,O Xb 0 0,O Xb 0 0,O Xb 0 0,O Xb 0 0]
theorem zqS:(Tryz.prog.info? 79).map (fun i=>(i.zero,i.size,i.bytes))=Xa (Xa spz,10,224):=by kernel_rfl
def Qz:Elt SpV where
 enc:=spv
 k:=10
 ty:=79
 st:=39
 bytes:=224
 zv:=spz
 zero:=⟨Xd,zK,zK,zK,zK,zK,zK,zK,zK,zK⟩
 len:=fun _=>rfl
 one:=fun a u hu=>by
  simp only[spv,mC,nM,or_false]at hu
  rcases hu with rfl|rfl|rfl|rfl|rfl|rfl|rfl|rfl|rfl|rfl <;> rfl
 und:=underlying39
 info:=zqS
 zok:=rfl
 few:=by decide
 pos:=by decide
structure Jb (w:Xn) (x:SpV) (s:Sp):Prop where
 live:x.live=s.live
 ar:zq arE w (O x.ar.a x.ar.n x.ar.c) s.ars
 cap:x.ar.n<=x.ar.c
 tb:JJ w x.tab s.tb
theorem Jb.grew {w:Xn} {x:SpV} {s:Sp} (h:Jb w x s) (k:zc w w'):Jb w' x s:=⟨h.live,h.ar.grew k,h.cap,h.tb.grew k⟩
def JK (w:Xn) (v:Xq) (ss:List Sp):Prop:=∃xs:List SpV,zq Qz w v xs/\xs.length=ss.length/\∀(i:Nat) x s,xs[i]? =Xa x->ss[i]? =Xa s->Jb w x s
theorem JK.grew {w:Xn} {v:Xq} {a:List Sp} (h:JK w v a) (k:zc w w'):JK w' v a:=by
 obtain⟨d,a,b,c⟩:=h;exact⟨d,a.grew k,b,fun i x s b a=>(c i x s b a).grew k⟩
structure MaV where
 (f s sb sq db dq fl ca sp:Sli)
structure zN (w:Xn) (V:MaV) (m:Ma):Prop where
 fs:zq JR w (O V.f.a V.f.n V.f.c) m.fs
 sl:zq slE w (O V.s.a V.s.n V.s.c) m.sl
 sb:jF w (O V.sb.a V.sb.n V.sb.c) m.sb
 sq:jU w (O V.sq.a V.sq.n V.sq.c) m.sq
 db:jF w (O V.db.a V.db.n V.db.c) m.db
 dq:jU w (O V.dq.a V.dq.n V.dq.c) m.dq
 fl:z5 w (O V.fl.a V.fl.n V.fl.c) m.fl
 ca:zq qS w (O V.ca.a V.ca.n V.ca.c) m.ca
 sp:JK w (O V.sp.a V.sp.n V.sp.c) m.sp
abbrev mL (V:MaV) (m:Ma):List Xq:=[V.f.x,I6 m.hand,V.s.x,V.sb.x,V.sq.x,V.db.x,V.dq.x,V.fl.x,I6 m.cnt,V.ca.x,V.sp.x]
abbrev zM:List Xq:=[eS,I6 0,eS,eS,eS,eS,eS,eS,I6 0,eS,eS]
theorem zN.grew {w:Xn} {V:MaV} {m:Ma} (h:zN w V m) (k:zc w w'):zN w' V m:=⟨h.fs.grew k,h.sl.grew k,h.sb.grew k,h.sq.grew k,h.db.grew k,h.dq.grew k,jM.grew h.fl k,h.ca.grew k,h.sp.grew k⟩
theorem jF.n {w:Xn} {a:Option Addr} {n c:Nat} {l:List (List Int)} (h:jF w (O a n c) l):n=l.length:=by
 obtain⟨⟨_,_,b,_⟩,_⟩:=h;cases b;rfl
theorem jU.n {w:Xn} {a:Option Addr} {n c:Nat} {l:List (Int × List Int)} (h:jU w (O a n c) l):n=l.length:=by
 obtain⟨⟨_,_,b,_⟩,_⟩:=h;cases b;rfl
theorem z5.n {w:Xn} {a:Option Addr} {n c:Nat} {l:List Fl} (h:z5 w (O a n c) l):n=l.length:=by
 obtain⟨_,b,b,d,_⟩:=h;rw[b.now.n,d]
theorem JK.n {w:Xn} {a:Option Addr} {n c:Nat} {l:List Sp} (h:JK w (O a n c) l):n=l.length:=by
 obtain⟨b,b,d,_⟩:=h;rw[b.n,d]
theorem zN.ns {w:Xn} {V:MaV} {m:Ma} (h:zN w V m):V.f.n=m.fs.length/\V.s.n=m.sl.length/\V.sb.n=m.sb.length/\V.sq.n=m.sq.length/\V.db.n=m.db.length/\V.dq.n=m.dq.length/\V.fl.n=m.fl.length/\V.ca.n=m.ca.length/\V.sp.n=m.sp.length:=
 ⟨h.fs.n,h.sl.n,h.sb.n,h.sq.n,h.db.n,h.dq.n,z5.n h.fl,h.ca.n,h.sp.n⟩
theorem zq.rowsAt {α:Type} {E:Elt α} {w:Xn} {a:Option Addr} {n c:Nat} {l:List α} (h:zq E w (O a n c) l):zoP E w a l:=by
 obtain⟨_,_,b,d⟩:=h.rows;cases b;exact d
theorem zN.frs {w:Xn} {V:MaV} {m:Ma} (h:zN w V m):zjI w V.f.a m.fs:=fun j x d=>by
 obtain⟨a,b,c⟩:=h.fs.rowsAt j x d;exact⟨a,b,fun W a=>(c W a).fr⟩
theorem zN.cas {w:Xn} {V:MaV} {m:Ma} (h:zN w V m):zhw w V.ca.a m.ca:=by
 obtain⟨_,_,a,b⟩:=h.ca.cas;simp only[vJ]at a;rw[a.1];exact b
theorem zN.sls {w:Xn} {V:MaV} {m:Ma} (h:zN w V m):zm0 w V.s.a m.sl:=by
 obtain⟨_,_,a,b⟩:=h.sl.sls;simp only[vJ]at a;rw[a.1];exact b
theorem zN.pgs {w:Xn} {V:MaV} {m:Ma} (h:zN w V m):zjG w V.db.a m.db:=by
 obtain⟨_,_,a,b⟩:=h.db.rows;simp only[vJ]at a;rw[a.1];exact b
theorem zN.puts {w:Xn} {V:MaV} {m:Ma} (h:zN w V m):zdU w V.dq.a m.dq:=by
 obtain⟨_,_,a,b⟩:=h.dq.rows;simp only[vJ]at a;rw[a.1];exact b
theorem ziw (v fs) (w:Xn) (h:zq qS w v fs):
  Xp prog 89 #[v] w fun e w'=>∃g,e= Xl g/\zb qS w.heap.size w' g fs/\zc w w':=by
 have j:=dD h;obtain⟨⟨d,f,rfl,b,c⟩,a⟩:=h;have h:∀(w:Xn) (d:Option Addr) (n f i h:Nat),(binOp .eql 38 (O d n f) (O Xb i h)).run prog w= .ok (Xh d.isNone) w:=fun w d n f i h=>Lib.run_eql_slice_nil w _ _ d n f i h underlying38
 cases d with
 | none=>
  have d:=b rfl;subst d;clear c b a
  go_enter func89,ntmps89
  go_wp2;go_ret;exact⟨_,rfl,zb.nil _ _ _,zc.refl w⟩
 | some x=>
  have d:=dD a;clear c b a
  go_enter func89,ntmps89
  go_wp2_with (at_builtin;refine zt (E:=qS) rfl (.tmp 5) (.tmp 6) rfl w.heap.size _ [] rfl (zb.made qS w) _ fs rfl (j.grew (za _ _)) ?qb (by simp) ?_)
  case qb=>rw[Yo,zA];exact d.out
  intro g a b a;go_wp2;go_ret;exact⟨g,rfl,by simpa using b,((bR _ w).alloc (nR _) _).grown a (by simp) (by intro k a;simp[Value.ownBlock]at a;omega)⟩
theorem ziv (v) (fs:List SpV) (w:Xn) (h:zq Qz w v fs):
  Xp prog 124 #[v] w fun e w'=>∃g,e= Xl g/\zb Qz w.heap.size w' g fs/\zc w w':=by
 have j:=dD h;obtain⟨⟨d,f,rfl,b,c⟩,a⟩:=h;have h:∀(w:Xn) (d:Option Addr) (n f i h:Nat),(binOp .eql 39 (O d n f) (O Xb i h)).run prog w= .ok (Xh d.isNone) w:=fun w d n f i h=>Lib.run_eql_slice_nil w _ _ d n f i h underlying39
 cases d with
 | none=>
  have d:=b rfl;subst d;clear c b a
  go_enter func124,ntmps124
  go_wp2;go_ret;exact⟨_,rfl,zb.nil _ _ _,zc.refl w⟩
 | some x=>
  have d:=dD a;clear c b a
  go_enter func124,ntmps124
  go_wp2_with (at_builtin;refine zt (E:=Qz) rfl (.tmp 5) (.tmp 6) rfl w.heap.size _ [] rfl (zb.made Qz w) _ fs rfl (j.grew (za _ _)) ?qb (by simp) ?_)
  case qb=>rw[Yo,zA];exact d.out
  intro g a b a;go_wp2;go_ret;exact⟨g,rfl,by simpa using b,((bR _ w).alloc (nR _) _).grown a (by simp) (by intro k a;simp[Value.ownBlock]at a;omega)⟩
theorem zix (v fs) (w:Xn) (h:zq arE w v fs):
  Xp prog 125 #[v] w fun e w'=>∃g,e= Xl g/\zb arE w.heap.size w' g fs/\zc w w':=by
 have j:=dD h;obtain⟨⟨d,f,rfl,b,c⟩,a⟩:=h;have h:∀(w:Xn) (d:Option Addr) (n f i h:Nat),(binOp .eql 77 (O d n f) (O Xb i h)).run prog w= .ok (Xh d.isNone) w:=fun w d n f i h=>Lib.run_eql_slice_nil w _ _ d n f i h underlying77
 cases d with
 | none=>
  have d:=b rfl;subst d;clear c b a
  go_enter func125,ntmps125
  go_wp2;go_ret;exact⟨_,rfl,zb.nil _ _ _,zc.refl w⟩
 | some x=>
  have d:=dD a;clear c b a
  go_enter func125,ntmps125
  go_wp2_with (at_builtin;refine zt (E:=arE) rfl (.tmp 5) (.tmp 6) rfl w.heap.size _ [] rfl (zb.made arE w) _ fs rfl (j.grew (za _ _)) ?qb (by simp) ?_)
  case qb=>rw[Yo,zA];exact d.out
  intro g a b a;go_wp2;go_ret;exact⟨g,rfl,by simpa using b,((bR _ w).alloc (nR _) _).grown a (by simp) (by intro k a;simp[Value.ownBlock]at a;omega)⟩
end
section
def zm5 (f:Fr):Prop:=0<=f.r/\(0<=f.x/\f.x<12)/\(f.f=-1\/(0<=f.f/\f.f<5))/\(f.r=0->f=frF)/\(f.f=-1->f.x=0)
theorem zmi {f:Fr} (h:zm5 f) (a:f.r<=1000):frW f=0:=by
 obtain⟨a,a,c,d,e⟩:=h;unfold frW;have a:inB f.r 1001=Xc:=by simp[inB];omega
 have b:inB f.x 12=Xc:=by simp[inB];omega
 rw[a,b,kF (by decide)]
 have a:(!(f.f == -1) && !inB f.f 5)=Xd:=by
  rcases c with h|h
  ·simp[h]
  have:inB f.f 5=Xc:=by simp[inB];omega
  simp[this]
 rw[a,kF (by decide)]
 have b:(f.r == 0 && !QO f frF)=Xd:=by
  by_cases a:f.r=0
  ·rw[(zdy f frF).2 (d a)];simp
  simp[a]
 have c:(f.f == -1 && !(f.x == 0))=Xd:=by
  by_cases a:f.f=-1
  ·simp[e a]
  simp[a]
 rw[b,c];rfl
theorem zaj:∀{l:List Fr},zch l=0↔∀f∈l,frW f=0
 | []=>by simp[zch]
 | f :: l=>by
  unfold zch
  by_cases h:frW f=0
  ·rw[kE h,zaj]
   simp[h]
  rw[kF h]
  simp[h]
def zcc (m:Ma) (x:On) (e:En):Prop:=enW e=0/\e.kind≠0/\za4 m x e=0
structure qH (m:Ma) (T:List (Nat->En)):Prop where
 fs40:m.fs.length<=40
 fok:∀f∈m.fs,zm5 f
 sl60:m.sl.length<=60
 sbl:m.sb.length=m.sl.length
 sq:zB m.sb.length m.sq=0
 dok:zB m.db.length m.dq=0
 st:stW m.fl m.cnt=0
 cnt:m.cnt=(m.db.length:Int)
 blk:∀b:Nat,b<m.db.length->zU m.fl (b:Int)=Xd->m.db[b]? =Xa zz
 que:∀q∈m.dq,zU m.fl q.1=Xc
 spl:m.sp.length<=4
 spok:∀s∈m.sp,(wrL s.ars).1=0/\(s.live=Xd->s.ars=[])
 tl:T.length=m.sp.length
 ca:zbH m Xb m.ca=0
 ent:∀(p:Nat) s f,m.sp[p]? =Xa s->T[p]? =Xa f->∀n:Nat,n<64->f n=en0\/zcc m (zE s.ars n) (f n)
 cf:∀(k:Nat) f,m.fs[k]? =Xa f->f.r=((qO T 1 k+zL m.ca k:Nat):Int)/\(0<=f.f->zL m.ca k≠0)
 cs:∀(k:Nat) z,m.sl[k]? =Xa z->z=(qO T 2 k:Int)
theorem zp {m:Ma}:∀{l:List Ca} {p:Option Ca},zbH m p l=0↔(∀c∈l,caE m Xb c=0)/\(∀q c,p=Xa q->c∈l->qg q<qg c)/\l.Pairwise (fun a b=>qg a<qg b)
 | [],p=>by simp[zbH]
 | c :: l,p=>by
  unfold zbH;have s:caE m p c=0↔caE m Xb c=0/\∀q,p=Xa q->qg q<qg c:=by
   unfold caE
   by_cases j:c.file<0\/(m.fl.length:Int)<=c.file\/c.idx<0\/bkN m c.file<=c.idx\/c.fr<0\/(m.fs.length:Int)<=c.fr
   ·rw[kE j,kE j];simp
   rw[kF j,kF j]
   by_cases k:(zW m c.fr).r=0\/(zW m c.fr).f≠c.file\/(zW m c.fr).x≠c.idx
   ·rw[kE k,kE k];simp
   rw[kF k,kF k]
   cases p with
   | none=>simp
   | some q=>
    simp only[Option.some.injEq,forall_eq',true_and]
    by_cases r:qg c<=qg q
    ·rw[kE r];constructor
     ·intro h;cases h
     intro h;omega
    rw[kF r];simp;omega
  by_cases h:caE m p c=0
  ·rw[kE h,zp];obtain⟨v,n⟩:=s.1 h;constructor
   ·rintro⟨f,g,i⟩;refine⟨?_,?_,?_⟩
    ·intro x d
     rcases mC.1 d with rfl|d
     ·exact v
     exact f x d
    ·intro q x e d
     rcases mC.1 d with rfl|d
     ·exact n q e
     have:=n q e;have:=g c x rfl d;omega
    exact Yf.2 ⟨fun x d=>g c x rfl d,i⟩
   rintro⟨f,g,i⟩;obtain⟨t,u⟩:=Yf.1 i;exact⟨fun x d=>f x (by simp[d]),fun q x e d=>by cases e;exact t x d,u⟩
  rw[kF h];constructor
  ·intro w;exact absurd w h
  rintro⟨f,g,i⟩;exact absurd (s.2 ⟨f c (by simp),fun q e=>g q c e (by simp)⟩) h
theorem ZE {m:Ma} {c:Ca} (h:caE m Xb c=0):(0<=c.file/\c.file<m.fl.length/\0<=c.idx/\c.idx<bkN m c.file/\0<=c.fr/\c.fr<m.fs.length)/\(zW m c.fr).r≠0/\(zW m c.fr).f=c.file/\(zW m c.fr).x=c.idx:=by
 unfold caE at h
 split at h
 ·cases h
 split at h
 ·cases h
 rename_i a a
 refine⟨by omega,fun h=>a (.inl h),?_,?_⟩
 ·exact Classical.byContradiction fun h=>a (.inr (.inl h))
 exact Classical.byContradiction fun h=>a (.inr (.inr h))
theorem zbI {m:Ma} {c:Ca} (e:0<=c.file/\c.file<m.fl.length/\0<=c.idx/\c.idx<bkN m c.file/\0<=c.fr/\c.fr<m.fs.length) (a:(zW m c.fr).r≠0) (b:(zW m c.fr).f=c.file) (d:(zW m c.fr).x=c.idx):caE m Xb c=0:=by
 unfold caE;rw[kF (by omega),kF (by rintro(h | h | h);exact a h;exact h b;exact h d)]
theorem zkR {m:Ma} (h:zbH m Xb m.ca=0) (k:Int):zL m.ca k<=1:=by
 obtain⟨j,_,n⟩:=zp.1 h;have h:∀(l:List Ca),(∀c∈l,caE m Xb c=0)->l.Pairwise (fun a b=>qg a<qg b)->zL l k<=1:=by
  intro l
  induction l with
  | nil=>intro _ _;simp[zL]
  | cons c l d=>
   intro e a;obtain⟨i,f⟩:=Yf.1 a;have b:=d (fun x d=>e x (by simp[d])) f
   unfold zL at b⊢;rw[List.countP_cons]
   by_cases g:c.fr=k
   ·have:l.countP (fun c=>decide (c.fr=k))=0:=by
     rw[Uw];intro x d f;have a:x.fr=k:=by simpa using f
     have f:=ZE (e c (by simp))
     have c:=ZE (e x (by simp[d]))
     have e:=i x d;rw[g]at f;rw[a]at c;unfold qg at e;have:=f.2.2.1;have:=f.2.2.2;have:=c.2.2.1;have:=c.2.2.2;omega
    rw[this]
    simp[g]
   simp[g]
   exact b
 exact h m.ca j n
theorem zaC {ca:List Ca} {c:Ca} (h:c∈ca):zL ca c.fr≠0:=by
 unfold zL;intro a;rw[Uw]at a;exact a c h (by simp)
theorem zb6 {ca:List Ca} {k:Int} (h:zL ca k≠0):∃c∈ca,c.fr=k:=by
 unfold zL at h;have:0<ca.countP fun c=>decide (c.fr=k):=Nat.pos_of_ne_zero h
 rw[Ux]at this;obtain⟨c,a,b⟩:=this;exact⟨c,a,by simpa using b⟩
def Zt (f:Nat->En):List (List En):=Zs ((Xv 64).map f)
def Zn (m:Ma) (T:List (Nat->En)) (h:Int):Ma:={ m with hand:=h,sp:=Um (fun s f=>{ s with tb:=Zt f }) m.sp T }
theorem zfb {f:Nat->En} (h:∀n,n<64->enW (f n)=0) {n:Nat} (a:n<64):zaL (Zt f) (n / 8) (n % 8)=f n:=by
 unfold Zt zaL Zs;rw[Yc,Ya (by omega)]
 simp only[Option.map_some,Option.getD_some];have b:∀e∈QP ((Xv 64).map f) (n / 8),enW e=0:=by
  intro e a;unfold QP at a;obtain⟨k,c,rfl⟩:=Ye.1 a;rw[Xs]at c;rw[Yc,Ya (by omega)]
  exact h _ (by omega)
 rw[zoC _ b];unfold QP;rw[Yc,Ya (by omega)]
 simp only[Option.map_some,Option.getD_some];rw[Yc,Ya (by omega)]
 simp only[Option.map_some,Option.getD_some]
 congr 1
 omega
theorem zi0 {f:Nat->En} (h:∀n,n<64->enW (f n)=0):tbW (Zt f)=0:=by
 rw[ZS];intro x a;unfold Zt Zs at a;obtain⟨i,b,rfl⟩:=Ye.1 a;rw[Xs]at b;refine zp3 (by simp[QP]) ?_
 intro e a;unfold QP at a;obtain⟨k,b,rfl⟩:=Ye.1 a;rw[Xs]at b;rw[Yc,Ya (by omega)]
 exact h _ (by omega)
theorem zhK {f:Nat->En} (h:∀n,n<64->f n=en0):(Zt f).all (·.isEmpty)=Xc:=by
 rw[Yk];intro x a;unfold Zt Zs at a;obtain⟨i,b,rfl⟩:=Ye.1 a;rw[Xs]at b;have:Z5 (QP ((Xv 64).map f) i)=Xd:=by
  unfold Z5;rw[Oq];intro e a;unfold QP at a;obtain⟨k,b,rfl⟩:=Ye.1 a;rw[Xs]at b;rw[Yc,Ya (by omega)]
  simp only[Option.map_some,Option.getD_some];rw[h _ (by omega)]
  decide
 unfold mk;rw[kF (by rw[this];decide)]
 rfl
theorem zhf {f g:Nat->En} (kind k:Int):∀{m:Nat},(∀n,n<m->f n=g n)->Ze f kind k m=Ze g kind k m
 | 0,_=>rfl
 | m+1,h=>by
  unfold Ze;rw[zhf kind k (fun n a=>h n (by omega)),h m (by omega)]
section
variable{m:Ma} {T:List (Nat->En)}
theorem qH.en (h:qH m T) {p:Nat} {f:Nat->En} (a:T[p]? =Xa f) {n:Nat} (b:n<64):enW (f n)=0:=by
 have c:p<m.sp.length:=by rw[<-h.tl];exact(gS.1 a).1
 rcases h.ent p _ f (gE c) a n b with a|a
 ·rw[a];exact zfM
 exact a.1
theorem zoF (h:qH m T) (b:Int) {p:Nat} {s:Sp} (a:(Zn m T b).sp[p]? =Xa s):∃s0 f,m.sp[p]? =Xa s0/\T[p]? =Xa f/\s={ s0 with tb:=Zt f }:=by
 unfold Zn at a;simp only[List.getElem?_zipWith]at a;have c:p<m.sp.length:=by
  rcases Yp p m.sp.length with b|b
  ·exact b
  rw[gN b]at a;cases a
 have b:p<T.length:=by rw[h.tl];exact c
 rw[gE c,gE b]at a;simp only[Option.some.injEq]at a;exact⟨_,_,gE c,gE b,a.symm⟩
theorem zjs (h:qH m T) (a:Int) (kind k:Int):QE (Zn m T a) kind k=qO T kind k:=by
 have b:∀(S:List Sp) (T:List (Nat->En)),T.length=S.length->(∀(p:Nat) f,T[p]? =Xa f->∀n,n<64->enW (f n)=0)->qO ((Um (fun s f=>({ s with tb:=Zt f }:Sp)) S T).map zo) kind k=qO T kind k:=by
  intro S
  induction S with
  | nil=>intro T a _;rw[Yw.1 a];rfl
  | cons s S e=>
   intro T a d
   cases T with
   | nil=>simp at a
   | cons f T=>
    have c:=e T (by simpa using a) (fun p g a=>d (p+1) g (by simpa using a))
    have e:Ze (zo { s with tb:=Zt f }) kind k 64=Ze f kind k 64:=zhf kind k fun n a=>by
     unfold zo;exact zfb (d 0 f rfl) a
    simp only[Un,mP,qO,Uc]at c⊢;rw[c,e]
 exact b m.sp T h.tl fun p f b n a=>h.en b a
theorem qH.right (h:qH m T) {d:Int} (a:0<=d) (b:d<max (m.fs.length:Int) 1):maW (Zn m T d)=0:=by
 have a:T.length<=4:=by rw[h.tl];exact h.spl
 unfold maW;rw[zn];intro e a;simp only[mC,nM,or_false]at a
 rcases a with rfl|rfl|rfl|rfl|rfl
 ·unfold J7;rw[zn];intro e a;simp only[mC,nM,or_false]at a
  rcases a with rfl|rfl|rfl|rfl|rfl|rfl|rfl|rfl|rfl|rfl
  ·show Qa m.fs d=0
   unfold Qa;have b:zch m.fs=0:=zaj.2 fun f l=>by
    obtain⟨k,g⟩:=Xy l;refine zmi (h.fok f l) ?_;rw[(h.cf k f g).1];have:=zb0 T 1 k;have:=zkR h.ca k;omega
   rw[kF (by have:=h.fs40;omega),kE b,kE]
   simp[inB]
   omega
  ·show slW m.sl=0
   unfold slW;rw[kF (by have:=h.sl60;omega),kF]
   rw[Yg];rintro⟨z,b,i⟩;obtain⟨k,g⟩:=Xy b;have c:=h.cs k z g;have:=zb0 T 2 k;unfold zb8 at i
   simp at i
   omega
  ·exact h.sq
  ·exact h.dok
  ·exact h.st
  ·show zmn m=0
   unfold zmn;rw[kF];have:=h.sbl;have:=h.cnt;omega
  ·show zap m=0
   unfold zap;rw[kF];rw[Yg];rintro⟨j,i,b⟩;rw[Xs]at i;simp only[Xx,Bool.not_eq_true']at b;have:=h.blk j i b.1;rw[gD,this]at b
   simp at b
  ·show J6 m=0
   unfold J6;rw[kF];rw[Yg];rintro⟨y,w,b⟩;rw[h.que y w]at b;cases b
  ·have:(Zn m T d).sp.length<=4:=by
    unfold Zn;simp;have:=h.spl;omega
   rw[kF (by omega)]
  rw[zn];intro e a;obtain⟨z,u,rfl⟩:=Ye.1 a;obtain⟨x,v⟩:=Xy u;obtain⟨s,f,q,r,rfl⟩:=zoF h d v;have t:=h.spok s (mG q);unfold spE;simp only;rw[kF (fun h=>h t.1),kF (fun i=>i (zi0 fun n i=>h.en r i)),kF]
  intro b;rw[Xx]at b;have p:s.live=Xd:=by simpa using b.1
  have j:=t.2 p;have p:(Zt f).all (·.isEmpty)=Xc:=zhK fun n i=>by
   rcases h.ent x s f q r n i with e|e
   ·exact e
   have:=e.2.2;unfold za4 at this;rw[j,kE (show(zE [] n).is=Xd from rfl)]at this
   cases this
  rw[j,p]at b
  simp at b
 ·obtain⟨q,r,j⟩:=zp.1 h.ca;exact zp.2 ⟨fun b p=>q b p,fun y b w=>(by cases w),j⟩
 ·rw[zn];intro e a;obtain⟨z,u,rfl⟩:=Ye.1 a;obtain⟨x,v⟩:=Xy u;obtain⟨s,f,q,r,rfl⟩:=zoF h d v;unfold zgh;rw[zn];intro e a;obtain⟨n,i,rfl⟩:=Ye.1 a;rw[Xs]at i;have l:zo { s with tb:=Zt f } n=f n:=by
   unfold zo;exact zfb (fun n i=>h.en r i) i
  rw[l]
  rcases h.ent x s f q r n i with c|c
  ·rw[c,kE (show en0.kind=0 from rfl)]
  rw[kF c.2.1];exact c.2.2
 ·rw[zn];intro e a;obtain⟨k,g,rfl⟩:=Ye.1 a;rw[Xs]at g;have b:k<m.fs.length:=g;have l:=h.cf k _ (gE b);unfold frE;rw[zjs h d];have f:zW (Zn m T d) k=m.fs[k]:=by
   show m.fs.getD (k:Int).toNat frF=_
   rw[tN,gD,gE b];rfl
  rw[f,kF];rintro(c|⟨c,i⟩)
  ·exact c l.1
  exact l.2 c i
 rw[zn];intro e a;obtain⟨k,g,rfl⟩:=Ye.1 a;rw[Xs]at g;have b:k<m.sl.length:=g;have u:=h.cs k _ (gE b);unfold zjR;rw[zjs h d];have f:(Zn m T d).sl.getD k 0=m.sl[k]:=by
  show m.sl.getD k 0=_
  rw[gD,gE b];rfl
 rw[f,kF (fun c=>c u)]
def Qn (m:Ma):List (Nat->En):=m.sp.map zo
theorem zcZ {m:Ma} (h:maW m=0):qH m (Qn m)/\0<=m.hand/\m.hand<max (m.fs.length:Int) 1:=by
 unfold maW at h;rw[zn]at h;have c:J7 m=0:=h _ (by simp)
 have q:zbH m Xb m.ca=0:=h _ (by simp)
 have C:=zn.1 (h (zu (m.sp.map (zgh m))) (by simp))
 have D:=zn.1 (h (zu ((Xv m.fs.length).map (frE m))) (by simp))
 have E:=zn.1 (h (zu ((Xv m.sl.length).map (zjR m))) (by simp))
 unfold J7 at c;rw[zn]at c;have a:Qa m.fs m.hand=0:=c _ (by simp)
 have f:slW m.sl=0:=c _ (by simp)
 have k:zB m.sb.length m.sq=0:=c _ (by simp)
 have l:zB m.db.length m.dq=0:=c _ (by simp)
 have n:stW m.fl m.cnt=0:=c _ (by simp)
 have g:zmn m=0:=c _ (by simp)
 have u:zap m=0:=c _ (by simp)
 have v:J6 m=0:=c _ (by simp)
 have A:(if 4<m.sp.length then(4:Int)else 0)=0:=c _ (by simp)
 have j:=zn.1 (c (zu (m.sp.map spE)) (by simp))
 have e:m.fs.length<=40/\zch m.fs=0/\0<=m.hand/\m.hand<max (m.fs.length:Int) 1:=by
  unfold Qa at a
  split at a
  ·cases a
  split at a
  ·rename_i b d
   split at a
   ·rename_i i
    unfold inB at i
    simp at i
    exact⟨by omega,d,by omega,by omega⟩
   cases a
  rename_i b d
  exact absurd a d
 have r:m.sl.length<=60:=by
  unfold slW at f
  split at f
  ·cases f
  omega
 have a:m.sl.length=m.sb.length/\m.cnt=(m.db.length:Int):=by
  unfold zmn at g
  split at g
  ·cases g
  rename_i b
  constructor
  ·exact Classical.byContradiction fun h=>b (.inl h)
  exact Classical.byContradiction fun h=>b (.inr h)
 refine⟨⟨e.1,fun f p=>?_,r,a.1.symm,k,l,n,a.2,fun d t H=>?_,fun B G=>?_,?_,fun s l=>?_,by simp[Qn],q,fun a s f l r n F=>?_,fun k f g=>?_,fun k z g=>?_⟩,e.2.2.1,e.2.2.2⟩
 ·have a:=zaj.1 e.2.1 f p;unfold frW at a
  split at a
  ·cases a
  rename_i e
  split at a
  ·cases a
  rename_i z
  split at a
  ·cases a
  rename_i w
  have x:inB f.r 1001=Xc/\inB f.x 12=Xc:=by
   cases p:inB f.r 1001 <;> cases a:inB f.x 12 <;> simp[p,a]at e⊢
  have y:f.f=-1\/inB f.f 5=Xc:=by
   by_cases e:f.f=-1
   ·exact .inl e
   right
   cases a:inB f.f 5 with
   | true=>rfl
   | false=>simp[e,a]at z
  have z:(f.r=0->f=frF)/\(f.f=-1->f.x=0):=by
   constructor
   ·intro e
    cases a:QO f frF with
    | true=>exact(zdy f frF).1 a
    | false=>simp[e,a]at w
   intro e
   by_cases a:f.x=0
   ·exact a
   simp[e,a]at w
  unfold inB at x y
  simp at x y
  exact⟨by omega,by omega,by omega,z.1,z.2⟩
 ·unfold zap at u
  split at u
  ·cases u
  rename_i b
  have:¬(!zU m.fl (d:Int) && !(m.db.getD d [] == zz))=Xc:=fun h=>b (Yg.2 ⟨d,Xs.2 t,h⟩)
  rw[H,gD,gE t]at this;rw[gE t]
  simp at this
  rw[this]
 ·unfold J6 at v
  split at v
  ·cases v
  rename_i b
  cases e:zU m.fl B.1 with
  | true=>rfl
  | false=>exact absurd (Yg.2 ⟨B,G,by simp[e]⟩) b
 ·split at A
  ·cases A
  omega
 ·have a:=j (spE s) (Ye.2 ⟨s,l,rfl⟩);unfold spE at a
  split at a
  ·rename_i b;exact absurd a b
  rename_i b
  split at a
  ·rename_i d;exact absurd a d
  split at a
  ·cases a
  rename_i i
  refine⟨by simpa using b,fun t=>?_⟩
  rw[t]at i
  cases e:s.ars with
  | nil=>rfl
  | cons x y=>rw[e]at i;simp at i
 ·unfold Qn at r;rw[Yc,l]at r;cases r;have i:=mG l;have a:=j (spE s) (Ye.2 ⟨s,i,rfl⟩);have j:tbW s.tb=0:=by
   unfold spE at a
   split at a
   ·rename_i b;exact absurd a b
   split at a
   ·rename_i d;exact absurd a d
   rename_i d;simpa using d
  have d:enW (zo s n)=0:=by
   unfold zo zaL;have a:=ZS.1 j;have:zhA (s.tb[n / 8]?.getD []):=by
    cases e:s.tb[n / 8]? with
    | none=>exact .inl rfl
    | some x=>exact a x (mG e)
   exact this.get (n % 8)
  have a:=zn.1 (C (zgh m s) (Ye.2 ⟨s,i,rfl⟩)) _ (Ye.2 ⟨n,Xs.2 F,rfl⟩)
  by_cases g:(zo s n).kind=0
  ·left;exact zmy d (by simp[enS,g])
  right;rw[kF g]at a;exact⟨d,g,a⟩
 ·have a:=(gS.1 g).1;have:=D (frE m k) (Ye.2 ⟨k,Xs.2 a,rfl⟩);unfold frE at this;have p:zW m k=f:=by unfold zW;rw[tN,gD,g];rfl
  rw[p]at this
  split at this
  ·cases this
  rename_i b
  refine⟨Classical.byContradiction fun h=>b (.inl h),fun c q=>b (.inr ⟨c,q⟩)⟩
 have a:=(gS.1 g).1;have:=E (zjR m k) (Ye.2 ⟨k,Xs.2 a,rfl⟩);unfold zjR at this;rw[gD,g]at this
 split at this
 ·cases this
 rename_i b
 exact Classical.byContradiction fun h=>b h
end
section
variable{m:Ma} {T:List (Nat->En)}
theorem z8 {m:Ma} {k:Nat} {f:Fr} (h:m.fs[k]? =Xa f):zW m (k:Int)=f:=by
 unfold zW;rw[tN,gD,h];rfl
theorem jJ {m:Ma} {k:Nat} {f:Fr} (a:k<m.fs.length) (z:Int) (b:0<=z):zW { m with fs:=m.fs.set k f } z=if z=(k:Int)then f else zW m z:=by
 unfold zW;simp only[gD]
 by_cases e:z=(k:Int)
 ·subst e;rw[kE rfl,tN,sF a];rfl
 rw[kF e,sN (by omega)]
theorem ZC {m m':Ma} {x:On} {e:En} (h:za4 m x e=0) (b:m'.sl.length=m.sl.length) (a:m'.fs.length=m.fs.length) (f:e.kind≠2->(zW m' e.n).f=(zW m e.n).f/\(zW m' e.n).x=(zW m e.n).x/\(e.wr=Xc->(zW m e.n).f=-1->(zW m' e.n).r<=1)):za4 m' x e=0:=by
 unfold za4 at h⊢;rw[b,a]
 by_cases a:x.is=Xd
 ·rw[kE a]at h;cases h
 rw[kF a]at h⊢
 by_cases a:e.kind=2
 ·rw[kE a]at h⊢;exact h
 rw[kF a]at h⊢;obtain⟨b,c,d⟩:=f a
 by_cases a:(m.fs.length:Int)<=e.n
 ·rw[kE a]at h;cases h
 rw[kF a]at h⊢;rw[b,c]
 split at h
 ·cases h
 rename_i b
 rw[kF];rintro(a|a|a|a|a)
 ·exact b (.inl a)
 ·exact b (.inr (.inl a))
 ·exact b (.inr (.inr (.inl a)))
 ·exact b (.inr (.inr (.inr (.inl a))))
 have:=d a.1 a.2.1;omega
theorem zZ {m:Ma} {x:On} {e:En} (h:zcc m x e) (c:e.kind≠2):e.kind=1/\0<=e.n/\e.n<m.fs.length/\(e.wr=Xc->(zW m e.n).f=-1->(zW m e.n).r<=1):=by
 obtain⟨b,a,a⟩:=h;obtain⟨d,d,_⟩:=Q2 b;unfold za4 at a
 by_cases b:x.is=Xd
 ·rw[kE b]at a;cases a
 rw[kF b,kF c]at a
 by_cases b:(m.fs.length:Int)<=e.n
 ·rw[kE b]at a;cases a
 rw[kF b]at a
 split at a
 ·cases a
 rename_i c
 refine⟨by omega,by omega,by omega,fun a b=>?_⟩
 have:¬1< (zW m e.n).r:=fun h=>c (.inr (.inr (.inr (.inr ⟨a,b,h⟩))))
 omega
theorem zfF {T:List (Nat->En)} {p:Nat} {f:Nat->En} (a:T[p]? =Xa f) {n:Nat} (c:n<64) (b:(f n).kind=1):1<=qO T 1 (f n).n:=zcE a c (by simp[isE,b]) (by decide)
theorem qH.free (h:qH m T) {f:Fr} (b:m.fs[j]? =Xa f) (a:f.r=0):qO T 1 j=0/\zL m.ca j=0:=by
 have:=(h.cf j f b).1;rw[a]at this;omega
def Qb (ca:List Ca) (c:Ca):List Ca:=ca.takeWhile (fun d=>decide (qg d<qg c))++c :: ca.dropWhile (fun d=>decide (qg d<qg c))
theorem zkj (ca) (c:Ca) (k:Int):zL (Qb ca c) k=zL ca k+(if c.fr=k then 1 else 0):=by
 unfold Qb zL;have h:=List.takeWhile_append_dropWhile (p:=fun d=>decide (qg d<qg c)) (l:=ca)
 rw[Oc,List.countP_cons]
 conv=>rhs;rw[<-h,Oc]
 by_cases e:c.fr=k
 ·simp[e];omega
 simp[e]
theorem zlW {ca:List Ca} {c d:Ca} (h:d∈Qb ca c):d=c\/d∈ca:=by
 unfold Qb at h;rw[Xt,mC]at h
 rcases h with h|h|h
 ·exact .inr ((List.takeWhile_sublist _).subset h)
 ·exact .inl h
 exact .inr ((List.dropWhile_sublist _).subset h)
theorem zez {c:Ca}:∀{ca:List Ca},ca.Pairwise (fun a b=>qg a<qg b)->(∀d∈ca,qg d≠qg c)->(Qb ca c).Pairwise (fun a b=>qg a<qg b)
 | [],_,_=>by simp[Qb]
 | d :: ca,i,g=>by
  obtain⟨j,k⟩:=Yf.1 i
  by_cases f:qg d<qg c
  ·have h:Qb (d :: ca) c=d :: Qb ca c:=by
    unfold Qb;rw[Uy,Uz,kE (by simpa using f),kE (by simpa using f)]
    rfl
   rw[h];refine Yf.2 ⟨fun x e=>?_,zez k fun x e=>g x (by simp[e])⟩
   rcases zlW e with rfl|e
   ·exact f
   exact j x e
  have h:Qb (d :: ca) c=c :: d :: ca:=by
   unfold Qb;rw[Uy,Uz,kF (by simpa using f),kF (by simpa using f)]
   rfl
  rw[h];have:=g d (by simp)
  refine Yf.2 ⟨fun x e=>?_,i⟩
  rcases mC.1 e with rfl|e
  ·omega
  have:=j x e;omega
theorem qH.pages (h:qH m T) {file:Int} (a:0<=file) (b:file<m.fl.length):bkN m file<=12/\file<5:=by
 obtain⟨⟨a,a,a⟩,c,a⟩:=(z6 m.fl m.cnt).1 h.st;have a:file.toNat<m.fl.length:=by omega
 have b:=c _ (List.getElem_mem a);unfold bkN;rw[gD,gE a];simp only[Option.getD_some];obtain⟨a,a,c⟩:=b;unfold JI at a
 split at a <;> omega
theorem qH.cache (h:qH m T) {b:Fr} {p:Pg} {u d:Bool} {file a:Int} (e:m.fs[j]? =Xa b) (f:b.r=0) (r:0<=file/\file<m.fl.length) (hi:0<=a/\a<bkN m file) (i:∀c∈m.ca,¬(c.file=file/\c.idx=a)):
  qH { m with fs:=m.fs.set j ⟨p,1,u,d,file,a⟩,ca:=Qb m.ca ⟨file,a,j⟩ } T:=by
 have b:=(gS.1 e).1;obtain⟨g,k⟩:=h.free e f;obtain⟨e,e⟩:=h.pages r.1 r.2;obtain⟨t,e,y⟩:=zp.1 h.ca;have s:∀c∈m.ca,c.fr≠(j:Int):=fun c g e=>by
  have:=zaC g;rw[e]at this;exact this k
 have l:∀c∈m.ca,qg c≠qg ⟨file,a,j⟩:=fun c g e=>by
  have f:=(ZE (t c g)).1;have k:=h.pages f.1 f.2.1;have:=i c g;unfold qg at e;simp only at e;omega
 refine⟨by simpa using h.fs40,fun f i=>?_,h.sl60,h.sbl,h.sq,h.dok,h.st,h.cnt,h.blk,h.que,h.spl,h.spok,h.tl,?_,fun x B f A v n q=>?_,fun w f k=>?_,h.cs⟩
 ·rcases Xw i with i | rfl
  ·exact h.fok f i
  refine⟨by simp,by simp only;omega,.inr (by simp only;omega),fun h=>by simp at h,fun h=>by simp only at h;omega⟩
 ·refine zp.2 ⟨fun c g=>?_,fun x c i=>(by cases i),zez y l⟩
  rcases zlW g with rfl|g
  ·refine zbI ⟨r.1,r.2,hi.1,hi.2,by simp,by simpa using b⟩ ?_ ?_ ?_ <;> rw[show zW { m with fs:=m.fs.set j ⟨p,1,u,d,file,a⟩,ca:=Qb m.ca ⟨file,a,j⟩ } (⟨file,a,(j:Int)⟩:Ca).fr=⟨p,1,u,d,file,a⟩from by rw[show zW { m with fs:=m.fs.set j ⟨p,1,u,d,file,a⟩,ca:=Qb m.ca ⟨file,a,j⟩ } (⟨file,a,(j:Int)⟩:Ca).fr=zW { m with fs:=m.fs.set j ⟨p,1,u,d,file,a⟩ } (j:Int)from rfl,jJ b _ (by omega),kE rfl]]
   simp
  obtain⟨l,r,y,z⟩:=ZE (t c g);have i:zW { m with fs:=m.fs.set j ⟨p,1,u,d,file,a⟩,ca:=Qb m.ca ⟨file,a,j⟩ } c.fr=zW m c.fr:=by
   rw[show zW { m with fs:=m.fs.set j ⟨p,1,u,d,file,a⟩,ca:=Qb m.ca ⟨file,a,j⟩ } c.fr=zW { m with fs:=m.fs.set j ⟨p,1,u,d,file,a⟩ } c.fr from rfl,jJ b _ l.2.2.2.2.1,kF (s c g)]
  exact zbI (by simpa [bkN]using l) (by rw[i];exact r) (by rw[i];exact y) (by rw[i];exact z)
 ·rcases h.ent x B f A v n q with e|e
  ·exact .inl e
  refine .inr ⟨e.1,e.2.1,ZC e.2.2 rfl (by simp) fun k=>?_⟩
  obtain⟨l,r,g,s⟩:=zZ e k;have g:(f n).n≠(j:Int):=fun t=>by
   have:=zfF v q l;rw[t]at this;omega
  have i:zW { m with fs:=m.fs.set j ⟨p,1,u,d,file,a⟩,ca:=Qb m.ca ⟨file,a,j⟩ } (f n).n=zW m (f n).n:=by
   rw[show zW { m with fs:=m.fs.set j ⟨p,1,u,d,file,a⟩,ca:=Qb m.ca ⟨file,a,j⟩ } (f n).n=zW { m with fs:=m.fs.set j ⟨p,1,u,d,file,a⟩ } (f n).n from rfl,jJ b _ r,kF g]
  rw[i];exact⟨rfl,rfl,s⟩
 simp only at k⊢;rw[zkj]
 by_cases e:w=j
 ·subst e;rw[sF b]at k;cases k;refine⟨?_,fun _=>by simp⟩
  simp only[if_true];omega
 rw[sN (fun h=>e h.symm)]at k
 have:=h.cf w f k;rw[kF (by simp only;omega)]
 exact this
theorem zb4 {m':Ma} {T:List (Nat->En)} {p n:Nat} {f:Nat->En} {e:En} (hp:p<T.length) (h:m'.sp=m.sp) (k:T[p]? =Xa f)
  (a:∀(q:Nat) s g,m.sp[q]? =Xa s->T[q]? =Xa g->∀j:Nat,j<64->(q≠p\/j≠n)->g j=en0\/zcc m' (zE s.ars j) (g j)) (b:∀s,m.sp[p]? =Xa s->zcc m' (zE s.ars n) e):
  ∀(q:Nat) s g,m'.sp[q]? =Xa s->(T.set p (qN f n e))[q]? =Xa g->∀j:Nat,j<64->g j=en0\/zcc m' (zE s.ars j) (g j):=by
 intro q s g d c j l;rw[h]at d
 by_cases i:q=p
 ·subst i;rw[sF hp]at c;cases c;unfold qN
  by_cases h:j=n
  ·subst h;rw[kE rfl];exact .inr (b s d)
  rw[kF h];exact a q s f d k j l (.inr h)
 rw[sN (fun h=>i h.symm)]at c
 exact a q s g d c j l (.inl i)
theorem zfx (k:Int) (kind:Int) (w:Bool):isE ⟨kind,k,w⟩ kind k=Xc:=by simp[isE]
theorem zbv {kind k:Int} {e:En} (h:e.kind≠kind):isE e kind k=Xd:=by simp[isE,h]
theorem zad {kind k:Int} {e:En} (h:e.n≠k):isE e kind k=Xd:=by simp[isE,h]
theorem qH.hold (h:qH m T) {k p n:Nat} {fr:Fr} {f:Nat->En} {s:Sp} {w:Bool} (x:m.fs[k]? =Xa fr) (a:0<=fr.f) (F:m.sp[p]? =Xa s) (D:T[p]? =Xa f) (g:n<64) (c:f n=en0)
  (S:(zE s.ars n).is=Xc) (t:(zE s.ars n).file=fr.f) (u:(zE s.ars n).page=fr.x) (L:w=Xc->(zE s.ars n).sh=Xc/\(zE s.ars n).wr=Xc):
  qH { m with fs:=m.fs.set k { fr with r:=fr.r+1 } } (T.set p (qN f n ⟨1,k,w⟩)):=by
 have d:=(gS.1 x).1;have E:=(gS.1 D).1;have l:=h.fok fr (mG x);have i:∀z:Int,0<=z->(zW { m with fs:=m.fs.set k { fr with r:=fr.r+1 } } z).f=(zW m z).f/\(zW { m with fs:=m.fs.set k { fr with r:=fr.r+1 } } z).x=(zW m z).x/\((zW m z).f=-1->(zW { m with fs:=m.fs.set k { fr with r:=fr.r+1 } } z).r=(zW m z).r):=fun z a=>by
  rw[jJ d z a]
  by_cases b:z=(k:Int)
  ·subst b;rw[kE rfl,z8 x];exact⟨rfl,rfl,fun h=>by omega⟩
  rw[kF b];exact⟨rfl,rfl,fun _=>rfl⟩
 have q:∀a j:Int,qO (T.set p (qN f n ⟨1,k,w⟩)) a j+(isE en0 a j).toNat=qO T a j+(isE ⟨1,k,w⟩ a j).toNat:=fun a j=>by
  have:=Ql ⟨1,k,w⟩ a j D g;rw[c]at this;exact this
 refine⟨by simpa using h.fs40,fun g a=>?_,h.sl60,h.sbl,h.sq,h.dok,h.st,h.cnt,h.blk,h.que,h.spl,h.spok,by simpa using h.tl,?_,?_,fun j g c=>?_,fun j z c=>?_⟩
 ·rcases Xw a with a|rfl
  ·exact h.fok g a
  obtain⟨R,A,G,H,v⟩:=l;exact⟨by simp only;omega,A,G,fun h=>by simp only at h;omega,v⟩
 ·obtain⟨B,v,y⟩:=zp.1 h.ca;refine zp.2 ⟨fun v C=>?_,fun M v K=>(by cases K),y⟩
  obtain⟨y,N,P,Q⟩:=ZE (B v C);obtain⟨B,C,K⟩:=i v.fr y.2.2.2.2.1;refine zbI (by simpa [bkN]using y) ?_ (by rw[B];exact P) (by rw[C];exact Q)
  rw[jJ d _ y.2.2.2.2.1]
  by_cases b:v.fr=(k:Int)
  ·rw[kE b];have:=l.1;simp only;omega
  rw[kF b];exact N
 ·refine zb4 E rfl D (fun M s g F a j c l=>?_) (fun l l=>?_)
  ·rcases h.ent M s g F a j c with b|b
   ·exact .inl b
   refine .inr ⟨b.1,b.2.1,ZC b.2.2 rfl (by simp) fun a=>?_⟩
   obtain⟨R,A,G,H⟩:=zZ b a;obtain⟨B,C,K⟩:=i (g j).n A;exact⟨B,C,fun i a=>by rw[K a];exact H i a⟩
  rw[F]at l;cases l;refine⟨Qg (by simp) ⟨by simp,by simp only;have:=h.fs40;omega,fun _=>by simp only;have:=h.fs40;omega⟩ (by simp),by simp,?_⟩
  have a:zW { m with fs:=m.fs.set k { fr with r:=fr.r+1 } } ((k:Nat):Int)={ fr with r:=fr.r+1 }:=by rw[jJ d _ (by omega),kE rfl]
  unfold za4;simp only;rw[kF (by rw[S];decide),kF (by decide),kF (by simp;omega),a,kF]
  simp only;rintro(a|a|a|a|a)
  ·exact a.2 ⟨by omega,t.symm,u.symm⟩
  ·exact a.2 ⟨by omega,t.symm,u.symm⟩
  ·rw[(L a.1).2]at a;cases a.2
  ·rw[(L a.1).1]at a;cases a.2.2
  omega
 ·simp only at c⊢;have a:=q 1 j;rw[jI 1 j (by decide)]at a
  by_cases b:j=k
  ·subst b;rw[sF d]at c;cases c;rw[zfx]at a;have:=h.cf j fr x;refine⟨?_,this.2⟩
   simp at a
   simp only;omega
  rw[sN (fun h=>b h.symm)]at c
  rw[zad (e:=⟨1,(k:Int),w⟩) (by simp only;omega)]at a
  have:=h.cf j g c;refine⟨?_,this.2⟩
  simp at a
  omega
 simp only at c⊢;have a:=q 2 j;rw[jI 2 j (by decide),zbv (e:=⟨1,(k:Int),w⟩) (by simp)]at a
 have:=h.cs j z c
 simp at a
 omega
theorem qH.mine (h:qH m T) {p n:Nat} {a:Fr} {r:Pg} {u w:Bool} {f:Nat->En} {s:Sp} (b:m.fs[j]? =Xa a) (i:a.r=0) (y:m.sp[p]? =Xa s) (t:T[p]? =Xa f) (g:n<64) (d:f n=en0)
  (G:(zE s.ars n).is=Xc) (z:(zE s.ars n).sh=Xd) (F:w=Xc->(zE s.ars n).wr=Xc):
  qH { m with fs:=m.fs.set j ⟨r,1,u,Xd,-1,0⟩ } (T.set p (qN f n ⟨1,j,w⟩)):=by
 have c:=(gS.1 b).1;have x:=(gS.1 t).1;obtain⟨a,K⟩:=h.free b i;have q:∀a k:Int,qO (T.set p (qN f n ⟨1,j,w⟩)) a k+(isE en0 a k).toNat=qO T a k+(isE ⟨1,j,w⟩ a k).toNat:=fun a k=>by
  have:=Ql ⟨1,j,w⟩ a k t g;rw[d]at this;exact this
 refine⟨by simpa using h.fs40,fun g i=>?_,h.sl60,h.sbl,h.sq,h.dok,h.st,h.cnt,h.blk,h.que,h.spl,h.spok,by simpa using h.tl,?_,?_,fun k g d=>?_,fun k H d=>?_⟩
 ·rcases Xw i with i|rfl
  ·exact h.fok g i
  exact⟨by simp,by simp,.inl rfl,fun h=>by simp at h,fun _=>rfl⟩
 ·obtain⟨a,b,b⟩:=zp.1 h.ca;refine zp.2 ⟨fun l v=>?_,fun B l A=>(by cases A),b⟩
  obtain⟨A,C,D,E⟩:=ZE (a l v);have b:l.fr≠(j:Int):=fun a=>by
   have:=zaC v;rw[a]at this;exact this K
  have v:zW { m with fs:=m.fs.set j ⟨r,1,u,Xd,-1,0⟩ } l.fr=zW m l.fr:=by rw[jJ c _ A.2.2.2.2.1,kF b]
  exact zbI (by simpa [bkN]using A) (by rw[v];exact C) (by rw[v];exact D) (by rw[v];exact E)
 ·refine zb4 x rfl t (fun B s g y i x v b=>?_) (fun l l=>?_)
  ·rcases h.ent B s g y i x v with a|a
   ·exact .inl a
   refine .inr ⟨a.1,a.2.1,ZC a.2.2 rfl (by simp) fun t=>?_⟩
   obtain⟨A,B,C,C⟩:=zZ a t;have b:(g x).n≠(j:Int):=fun t=>by
    have:=zfF i v A;rw[t]at this;omega
   rw[jJ c _ B,kF b];exact⟨rfl,rfl,C⟩
  rw[y]at l;cases l;refine⟨Qg (by simp) ⟨by simp,by simp only;have:=h.fs40;omega,fun _=>by simp only;have:=h.fs40;omega⟩ (by simp),by simp,?_⟩
  have b:zW { m with fs:=m.fs.set j ⟨r,1,u,Xd,-1,0⟩ } ((j:Nat):Int)=⟨r,1,u,Xd,-1,0⟩:=by rw[jJ c _ (by omega),kE rfl]
  unfold za4;simp only;rw[kF (by rw[G];decide),kF (by decide),kF (by simp;omega),b,kF]
  simp only;rintro(b|b|b|b|b)
  ·exact b.1 trivial
  ·rw[z]at b;cases b.1
  ·rw[F b.1]at b;cases b.2
  ·omega
  omega
 ·simp only at d⊢;have b:=q 1 k;rw[jI 1 k (by decide)]at b
  by_cases a:k=j
  ·subst a;rw[sF c]at d;cases d;rw[zfx]at b;refine⟨?_,fun h=>by simp at h⟩
   simp at b
   simp only;omega
  rw[sN (fun h=>a h.symm)]at d
  rw[zad (e:=⟨1,(j:Int),w⟩) (by simp only;omega)]at b
  have:=h.cf k g d;refine⟨?_,this.2⟩
  simp at b
  omega
 simp only at d⊢;have b:=q 2 k;rw[jI 2 k (by decide),zbv (e:=⟨1,(j:Int),w⟩) (by simp)]at b
 have:=h.cs k H d
 simp at b
 omega
theorem qH.swap (h:qH m T) {p n:Nat} {b:List Int} {f:Nat->En} {s:Sp} (u:m.sl[j]? =Xa 0) (r:m.sp[p]? =Xa s) (c:T[p]? =Xa f) (i:n<64) (d:f n=en0)
  (y:(zE s.ars n).is=Xc) (t:(zE s.ars n).sh=Xd):
  qH { m with sl:=m.sl.set j 1,sb:=m.sb.set j b } (T.set p (qN f n ⟨2,j,Xd⟩)):=by
 have l:=(gS.1 u).1;have q:=(gS.1 c).1;have g:∀a k:Int,qO (T.set p (qN f n ⟨2,j,Xd⟩)) a k+(isE en0 a k).toNat=qO T a k+(isE ⟨2,j,Xd⟩ a k).toNat:=fun a k=>by
  have:=Ql ⟨2,j,Xd⟩ a k c i;rw[d]at this;exact this
 refine⟨h.fs40,h.fok,by simpa using h.sl60,by simpa using h.sbl,by simpa using h.sq,h.dok,h.st,h.cnt,h.blk,h.que,h.spl,h.spok,by simpa using h.tl,?_,?_,fun k i d=>?_,fun k z d=>?_⟩
 ·obtain⟨v,a,w⟩:=zp.1 h.ca;exact zp.2 ⟨fun a x=>v a x,fun v a a=>(by cases a),w⟩
 ·refine zb4 q rfl c (fun v s i r a w q c=>?_) (fun c c=>?_)
  ·rcases h.ent v s i r a w q with a|a
   ·exact .inl a
   refine .inr ⟨a.1,a.2.1,ZC a.2.2 (by simp) rfl fun q=>?_⟩
   obtain⟨v,v,v,v⟩:=zZ a q;exact⟨rfl,rfl,v⟩
  rw[r]at c;cases c;refine⟨Qg (by simp) ⟨by simp,by simp only;have:=h.sl60;omega,fun h=>by simp at h⟩ (by simp),by simp,?_⟩
  unfold za4;simp only;rw[kF (by rw[y];decide),kE trivial,kF]
  rintro(c|c)
  ·simp at c;omega
  rw[t]at c;cases c
 ·have c:=g 1 k;rw[jI 1 k (by decide),zbv (e:=⟨2,(j:Int),Xd⟩) (by simp)]at c
  have:=h.cf k i d;refine⟨?_,this.2⟩;simp only at this⊢
  simp at c
  omega
 simp only at d⊢;have c:=g 2 k;rw[jI 2 k (by decide)]at c
 by_cases a:k=j
 ·subst a;rw[sF l]at d;cases d;rw[zfx]at c;have:=h.cs k 0 u
  simp at c
  omega
 rw[sN (fun h=>a h.symm)]at d
 rw[zad (e:=⟨2,(j:Int),Xd⟩) (by simp only;omega)]at c
 have:=h.cs k z d
 simp at c
 omega
theorem qH.space (h:qH m T) {l:List Ar} (d:(wrL l).1=0) (a:m.sp.length<4):qH { m with sp:=m.sp++ [⟨Xc,l,qI⟩] } (T++ [fun _=>en0]):=by
 refine⟨h.fs40,h.fok,h.sl60,h.sbl,h.sq,h.dok,h.st,h.cnt,h.blk,h.que,by simp;omega,fun s a=>?_,by simpa using h.tl,?_,fun p s f a b n j=>?_,fun k f c=>?_,fun k z c=>?_⟩
 ·rcases Xt.1 a with a|a
  ·exact h.spok s a
  rw[Oo]at a;subst a;exact⟨d,fun h=>by cases h⟩
 ·obtain⟨e,d,g⟩:=zp.1 h.ca;exact zp.2 ⟨fun d i=>e d i,fun q d d=>(by cases d),g⟩
 ·have d:p<m.sp.length+1:=by
   have:=(gS.1 a).1
   simpa using this
  by_cases e:p<m.sp.length
  ·rw[Oj e]at a;rw[Oj (by rw[h.tl];exact e)]at b
   exact h.ent p s f a b n j
  have:p=T.length:=by rw[h.tl];omega
  subst this;rw[aR (nR _),Nat.sub_self]at b;cases b;exact .inl rfl
 ·rw[zbw _ _ _ (by decide)]
  exact h.cf k f c
 rw[zbw _ _ _ (by decide)]
 exact h.cs k z c
end
section
variable{m:Ma} {T:List (Nat->En)}
theorem znX {e e':En} (a:e'.kind=e.kind) (b:e'.n=e.n) (kind k:Int):isE e' kind k=isE e kind k:=by unfold isE;rw[a,b]
theorem zlX {p n:Nat} {f:Nat->En} {e':En} (c:T[p]? =Xa f) (d:n<64) (a:e'.kind=(f n).kind) (b:e'.n=(f n).n) (kind k:Int):qO (T.set p (qN f n e')) kind k=qO T kind k:=by
 have:=Ql e' kind k c d;rw[znX a b]at this;omega
theorem qH.guard (h:qH m T) {p n:Nat} {f:Nat->En} (a:T[p]? =Xa f) (d:n<64) (j:f n≠en0):qH m (T.set p (qN f n { f n with wr:=false })):=by
 have c:=(gS.1 a).1;have i:=zlX (e':={ f n with wr:=false }) a d rfl rfl;refine⟨h.fs40,h.fok,h.sl60,h.sbl,h.sq,h.dok,h.st,h.cnt,h.blk,h.que,h.spl,h.spok,by simpa using h.tl,h.ca,?_,fun k g b=>?_,fun k z b=>?_⟩
 ·refine zb4 c rfl a (fun r s g c e q l _=>h.ent r s g c e q l) (fun s c=>?_)
  rcases h.ent p s f c a n d with e|e
  ·exact absurd e j
  obtain⟨j,c,a⟩:=e;obtain⟨d,e,l⟩:=Q2 j;refine⟨Qg d e ?_,c,?_⟩
  ·rintro(⟨d,e⟩|⟨d,e⟩)
   ·exact c d
   simp at e
  unfold za4 at a⊢;simp only at a⊢
  by_cases c:(zE s.ars n).is=Xd
  ·rw[kE c]at a;cases a
  rw[kF c]at a⊢
  by_cases c:(f n).kind=2
  ·rw[kE c]at a⊢;exact a
  rw[kF c]at a⊢
  by_cases c:(m.fs.length:Int)<=(f n).n
  ·rw[kE c]at a;cases a
  rw[kF c]at a⊢
  split at a
  ·cases a
  rename_i c
  rw[kF];rintro(a|a|a|a|a)
  ·exact c (.inl a)
  ·exact c (.inr (.inl a))
  ·simp at a
  ·simp at a
  simp at a
 ·rw[i];exact h.cf k g b
 rw[i];exact h.cs k z b
theorem qH.share (h:qH m T) {p q n k:Nat} {fr:Fr} {f g:Nat->En} {s:Sp} {e:En} (y:m.fs[k]? =Xa fr) (hp:T[p]? =Xa f) (t:f n=e) (E:T[q]? =Xa g) (al:p≠q) (Y:n<64) (af:g n=en0) (am:m.sp[q]? =Xa s)
  (ai:zcc m (zE s.ars n) e) (c:e.kind=1) (d:e.n=(k:Int)) (D:e.wr=Xc->fr.f≠-1):
  qH { m with fs:=m.fs.set k { fr with r:=fr.r+1 } } (T.set q (qN g n e)):=by
 have z:=(gS.1 y).1;have Z:=(gS.1 E).1;have G:=h.fok fr (mG y);have a9:1<=qO T 1 k:=by
  have:=zfF hp Y (by rw[t];exact c)
  rw[t,d]at this;exact this
 have X:=h.cf k fr y;have H:∀kind j:Int,qO (T.set q (qN g n e)) kind j+(isE en0 kind j).toNat=qO T kind j+(isE e kind j).toNat:=fun kind j=>by
  have:=Ql e kind j E Y;rw[af]at this;exact this
 refine⟨by simpa using h.fs40,fun A a0=>?_,h.sl60,h.sbl,h.sq,h.dok,h.st,h.cnt,h.blk,h.que,h.spl,h.spok,by simpa using h.tl,?_,?_,fun j A b=>?_,fun j ao b=>?_⟩
 ·rcases Xw a0 with a0|rfl
  ·exact h.fok A a0
  obtain⟨S,M,U,N,ac⟩:=G;exact⟨by simp only;omega,M,U,fun h=>by simp only at h;omega,ac⟩
 ·obtain⟨aa,ap,ab⟩:=zp.1 h.ca;refine zp.2 ⟨fun L ah=>?_,fun q L E=>(by cases E),ab⟩
  obtain⟨P,a6,Q,R⟩:=ZE (aa L ah);have B:=jJ (f:={ fr with r:=fr.r+1 }) z L.fr P.2.2.2.2.1
  by_cases u:L.fr=(k:Int)
  ·rw[kE u]at B;rw[u,z8 y]at a6 Q R;refine zbI (by simpa [bkN]using P) ?_ ?_ ?_ <;> rw[B]
   ·have:=G.1;simp only;omega
   ·exact Q
   exact R
  rw[kF u]at B;exact zbI (by simpa [bkN]using P) (by rw[B];exact a6) (by rw[B];exact Q) (by rw[B];exact R)
 ·have w:∀(A:On) (a:En),zcc m A a->(a.kind≠2->a.n=(k:Int)->a.wr=Xc->fr.f≠-1)->zcc { m with fs:=m.fs.set k { fr with r:=fr.r+1 } } A a:=fun A a C aj=>by
   refine⟨C.1,C.2.1,ZC C.2.2 rfl (by simp) fun l=>?_⟩
   obtain⟨S,M,U,N⟩:=zZ C l;rw[jJ z _ M]
   by_cases u:a.n=(k:Int)
   ·rw[kE u,u,z8 y];exact⟨rfl,rfl,fun ae V=>absurd V (aj l u ae)⟩
   rw[kF u];exact⟨rfl,rfl,N⟩
  refine zb4 Z rfl E (fun a5 an V I i j b ak=>?_) (fun aq F=>?_)
  ·rcases h.ent a5 an V I i j b with a|a
   ·exact .inl a
   refine .inr (w _ _ a fun l a4 K=>?_)
   obtain⟨S,M,U,N⟩:=zZ a l
   by_cases x:a5=p/\j=n
   ·obtain⟨rfl,rfl⟩:=x;rw[hp]at i;cases i;rw[t]at K;exact D K
   intro W;have C:=znY hp Y (kind:=1) (k:=(k:Int)) (by rw[t];simp[isE,c,d]) i b (by simp[isE,S,a4]) (by
    by_cases a7:p=a5
    ·right;intro ad;exact x ⟨a7.symm,ad.symm⟩
    exact .inl a7) (by decide)
   have ag:=N K (by rw[a4,z8 y];exact W)
   rw[a4,z8 y]at ag;omega
  rw[am]at F;cases F;exact w _ _ ai fun _ _ K=>D K
 ·simp only at b⊢;have v:=H 1 j;rw[jI 1 j (by decide)]at v
  by_cases a8:j=k
  ·subst a8;rw[sF z]at b;cases b;have:isE e 1 (j:Int)=Xc:=by simp[isE,c,d]
   rw[this]at v;refine⟨?_,X.2⟩
   simp at v
   simp only;omega
  rw[sN (fun h=>a8 h.symm)]at b
  rw[zad (by rw[d];omega)]at v
  have:=h.cf j A b;refine⟨?_,this.2⟩
  simp at v
  omega
 simp only at b⊢;have v:=H 2 j;rw[jI 2 j (by decide),zbv (by rw[c];decide)]at v
 have:=h.cs j ao b
 simp at v
 omega
theorem qH.shareS (h:qH m T) {q n k:Nat} {g:Nat->En} {s:Sp} {e:En} (u:m.sl[k]? =Xa z) (f:T[q]? =Xa g) (b:n<64) (a:g n=en0) (y:m.sp[q]? =Xa s)
  (w:zcc m (zE s.ars n) e) (c:e.kind=2) (d:e.n=(k:Int)):
  qH { m with sl:=m.sl.set k (z+1) } (T.set q (qN g n e)):=by
 have r:=(gS.1 u).1;have t:=(gS.1 f).1;have i:∀kind j:Int,qO (T.set q (qN g n e)) kind j+(isE en0 kind j).toNat=qO T kind j+(isE e kind j).toNat:=fun kind j=>by
  have:=Ql e kind j f b;rw[a]at this;exact this
 refine⟨h.fs40,h.fok,by simpa using h.sl60,by simpa using h.sbl,h.sq,h.dok,h.st,h.cnt,h.blk,h.que,h.spl,h.spok,by simpa using h.tl,?_,?_,fun j x a=>?_,fun j x a=>?_⟩
 ·obtain⟨l,b,p⟩:=zp.1 h.ca;exact zp.2 ⟨fun b v=>l b v,fun q b f=>(by cases f),p⟩
 ·have b:∀(x:On) (l:En),zcc m x l->zcc { m with sl:=m.sl.set k (z+1) } x l:=fun x l l=>by
   refine⟨l.1,l.2.1,ZC l.2.2 (by simp) rfl fun p=>?_⟩
   obtain⟨v,v,v,v⟩:=zZ l p;exact⟨rfl,rfl,v⟩
  refine zb4 t rfl f (fun v A p l f j a t=>(h.ent v A p l f j a).imp id (b _ _)) (fun f f=>?_)
  rw[y]at f;cases f;exact b _ _ w
 ·have b:=i 1 j;rw[jI 1 j (by decide),zbv (by rw[c];decide)]at b
  have:=h.cf j x a;refine⟨?_,this.2⟩;simp only at this⊢
  simp at b
  omega
 simp only at a⊢;have b:=i 2 j;rw[jI 2 j (by decide)]at b
 by_cases f:j=k
 ·subst f;rw[sF r]at a;cases a;have:isE e 2 (j:Int)=Xc:=by simp[isE,c,d]
  rw[this]at b;have:=h.cs j z u
  simp at b
  omega
 rw[sN (fun h=>f h.symm)]at a
 rw[zad (by rw[d];omega)]at b
 have:=h.cs j x a
 simp at b
 omega
end
structure zeX (fl:List Fl) (cnt:Int) (db:List (List Int)) (dq:List (Int × List Int)) (bl:List Int):Prop where
 st:stW fl cnt=0
 cn:cnt=(db.length:Int)
 ql:dq.length<=(QI fl).length+bl.length
 blok:∀b∈bl,b=-1\/(0<=b/\b<cnt)
 nod:(QJ (QI fl++bl)).Nodup
 blk:∀b:Nat,b<db.length->zU fl (b:Int)=Xd->(b:Int)∉bl->db[b]? =Xa zz
 que:∀q∈dq,(0<=q.1/\q.1<cnt)/\(zU fl q.1=Xc\/q.1∈bl)
theorem zeX.none {fl:List Fl} {a:Int} {b:List (List Int)} {c:List (Int × List Int)} {bl:List Int} (h:zeX fl a b c bl):zeX fl a b c (bl++ [-1]):=by
 refine⟨h.st,h.cn,by have:=h.ql;simp;omega,fun b a=>?_,?_,fun b a c d=>h.blk b a c (fun c=>d (by simp[c])),fun q c=>⟨(h.que q c).1,(h.que q c).2.imp id (fun h=>by simp[h])⟩⟩
 ·rcases Xt.1 a with a|a
  ·exact h.blok b a
  left;simpa using a
 have:QJ (QI fl++(bl++ [-1]))=QJ (QI fl++bl):=by simp[QJ]
 rw[this];exact h.nod
theorem zeX.block {fl:List Fl} {d:Int} {a:List (List Int)} {f:List (Int × List Int)} {bl:List Int} (h:zeX fl d a f bl) {p:List Int} {more:Bool} (c:b<a.length) (k:zU fl (b:Int)=Xd) (l:(b:Int)∉bl):
  zeX fl d (a.set b p) (if more then f++ [((b:Int),p)]else f) (bl++ [(b:Int)]):=by
 refine⟨h.st,by simpa using h.cn,?_,fun x a=>?_,?_,fun x a j e=>?_,fun q c=>?_⟩
 ·have:=h.ql
  cases more <;> simp <;> omega
 ·rcases Xt.1 a with a|a
  ·exact h.blok x a
  right;have:x=(b:Int):=by simpa using a
  have:=h.cn;omega
 ·have g:QJ (QI fl++(bl++ [(b:Int)]))=QJ (QI fl++bl)++ [(b:Int)]:=by
   unfold QJ;rw[<-Yj,Yr]
   congr 1
  rw[g,Oe];refine⟨h.nod,by simp,fun x a y m=>?_⟩
  have i:y=(b:Int):=by simpa using m
  subst i;intro i;subst i;unfold QJ at a;rw[Xz,Xt]at a
  rcases a.1 with i|i
  ·rw[(QT fl (b:Int)).2 i]at k;cases k
  exact l i
 ·have i:b≠x:=fun g=>e (by simp[g])
  rw[sN i];exact h.blk x (by simpa using a) j (fun a=>e (by simp[a]))
 have a:q∈f->(0<=q.1/\q.1<d)/\(zU fl q.1=Xc\/q.1∈bl++ [(b:Int)]):=fun c=>⟨(h.que q c).1,(h.que q c).2.imp id (fun h=>by simp[h])⟩
 cases more with
 | false=>exact a (by simpa using c)
 | true=>
  rw[kE rfl]at c
  rcases Xt.1 c with c|c
  ·exact a c
  have:q=((b:Int),p):=by simpa using c
  subst this;have:=h.cn;exact⟨by simp only;omega,.inr (by simp)⟩
theorem zeX.file {fl:List Fl} {c:Int} {b:List (List Int)} {d:List (Int × List Int)} {bl:List Int} (h:zeX fl c b d bl) {a:Int} (e:fl.length<5) (k:0<=a/\a<=96) (j:(bl.length:Int)=JI a):zeX (fl++ [⟨a,bl⟩]) c b d []:=by
 have d:QI (fl++ [⟨a,bl⟩])=QI fl++bl:=by simp[QI]
 have f:∀b,zU (fl++ [⟨a,bl⟩]) b=Xc↔zU fl b=Xc\/b∈bl:=fun b=>by rw[QT,d,Xt,<-QT]
 obtain⟨⟨a,a,e⟩,g,i⟩:=(z6 fl c).1 h.st;refine⟨(z6 _ _).2 ⟨⟨by simp;omega,a,e⟩,fun e c=>?_,by rw[d];exact h.nod⟩,h.cn,by rw[d];simpa using h.ql,by simp,by rw[d];simpa using h.nod,fun b i a _=>?_,fun q d=>⟨(h.que q d).1,.inl ((f _).2 (h.que q d).2)⟩⟩
 ·rcases Xt.1 c with c|c
  ·exact g e c
  rw[Oo]at c;subst c;exact⟨k,j,h.blok⟩
 refine h.blk b i ?_ ?_
 ·cases e:zU fl (b:Int)with
  | false=>rfl
  | true=>rw[(f _).2 (.inl e)]at a;cases a
 intro e;rw[(f _).2 (.inr e)]at a;cases a
theorem zeX.zero {n:Nat} (h:n<=80):zeX [] (n:Int) (Xr n zz) [] []:=by
 refine⟨(z6 _ _).2 ⟨⟨by simp,by omega,by omega⟩,by simp,by simp[QI,QJ]⟩,by simp,by simp,by simp,by simp[QI,QJ],fun b a _ _=>?_,by simp⟩
 rw[Yl,kE (by simpa using a)]
theorem zfT {a:Int}:∀{fl:List Fl},(∀f∈fl,zpQ a f)->(QI fl).length<=12*fl.length
 | [],_=>by simp[QI]
 | f :: fl,h=>by
  have b:=zfT (fl:=fl) fun g a=>h g (by simp[a])
  obtain⟨a,a,c⟩:=h f (by simp)
  unfold JI at a;simp only[QI,Yb,lA,Yq]at b⊢
  split at a <;> omega
theorem zeX.start {fl:List Fl} {a:Int} {c:List (List Int)} {d:List (Int × List Int)} (h:zeX fl a c d []) {n k:Nat} (f:n<=40) (e:k<=60) (b:Int):qH ⟨Xr n frF,b,Xr k 0,Xr k zz,[],c,d,fl,a,[],[]⟩ []:=by
 obtain⟨⟨b,b,b⟩,g,b⟩:=(z6 fl a).1 h.st;refine⟨by simpa using f,fun f i=>?_,by simpa using e,by simp,?_,?_,h.st,h.cn,fun a b e=>h.blk a b e (by simp),fun q e=>?_,by simp,by simp,rfl,rfl,fun p s f a=>by simp at a,fun j f a=>?_,fun j z a=>?_⟩
 ·have:=(Oz.1 i).2;subst this;exact⟨by decide,by decide,.inl rfl,fun _=>rfl,fun _=>rfl⟩
 ·show zB (Xr k zz).length []=0
  unfold zB;rw[kF (by simp;omega),kF (by simp)]
  rfl
 ·show zB c.length d=0
  have c:=zfT g;have c:=h.ql;have d:=h.cn;unfold zB;rw[kF (by omega),kF (by simp at c;omega),kF]
  rw[Yg];rintro⟨q,e,b⟩;have:=(h.que q e).1;unfold jE at b
  simp at b
  omega
 ·exact(h.que q e).2.resolve_right (by simp)
 ·simp only at a;rw[Yl]at a
  split at a
  ·cases a;exact⟨rfl,fun h=>by simp[frF]at h⟩
  cases a
 simp only at a;rw[Yl]at a
 split at a
 ·cases a;rfl
 cases a
def pgL (p:Pg):List Int:=[p.b0,p.b1,p.b2,p.b3,p.b4,p.b5,p.b6,p.b7]
def Zb (p:List Int) (idx size:Int):List Int:=p.mapIdx fun i z=>if size<=8*idx+(i:Int)then 0 else z
def zcK (m:Ma) (file idx:Int):Int:=(m.fl.getD file.toNat ⟨0,[]⟩).bl.getD idx.toNat 0
def ZG (m:Ma) (file:Int):Int:=(m.fl.getD file.toNat ⟨0,[]⟩).size
def JQ (file idx:Int) (c:Ca):Bool:=decide (c.file=file) && decide (c.idx=idx)
def qn (m:Ma) (file idx:Int):List Int:=
 match m.ca.find? (JQ file idx)with
 | some c=>pgL (zW m c.fr).p
 | none=>if zcK m file idx<0 then zz else Zb (qj m.db m.dq (zcK m file idx)) idx (ZG m file)
def Zh (m:Ma) (file idx:Int):List Int:=if zcK m file idx<0 then zz else Zb (qj m.db m.dq (zcK m file idx)) idx (ZG m file)
def zeT (m:Ma) (file:Int):List Int:=(Xv (ZG m file).toNat).map fun(k:Nat)=>(qn m file ((k / 8:Nat):Int)).getD (k % 8) 0
def QH (m:Ma) (file:Int):Int:=if maW m≠0 then maW m else if file<0\/(m.fl.length:Int)<=file then 5 else 0
def Q3 (m:Ma) (file:Int):List Int:=if QH m file=0 then zeT m file else []
def zle (m:Ma) (p n:Int):List Int × Bool × Int:=
 if p<0\/(m.sp.length:Int)<=p\/n<0\/63<n then(zz,Xd,5)
 else
  let s:=m.sp.getD p.toNat ⟨Xd,[],[]⟩
  let x:=zE s.ars n.toNat
  let e:=zo s n.toNat
  if x.is=Xd then(zz,Xd,5)
  else if e.kind=1 then(pgL (zW m e.n).p,decide ((zW m e.n).f<0),0)
  else if e.kind=2 then(qj m.sb m.sq e.n,Xc,0)
  else if x.file<0 then(zz,Xd,0)
  else if bkN m x.file<=x.page then(zz,Xd,9)
  else(qn m x.file x.page,Xd,0)
def zoU (m:Ma) (p n:Int):List Int × Bool × Int:=if maW m≠0 then(zz,Xd,maW m)else zle m p n
def Zv (nf:Nat) (l:List Ar):Prop:=∀k:Nat,k<64->(zE l k).is=Xc->(zE l k).file< (nf:Int)
theorem zil (nf:Nat):Zv nf []:=fun k _ h=>by cases h
theorem zdD {nf:Nat} {l:List Ar} {a:Ar} (g:Zv nf l) (f:a.file< (nf:Int)) (h:(za6 l a).2=0):Zv nf (za6 l a).1:=by
 obtain⟨b,c,d,d,d⟩:=zh7 h;have e:=zbq (Zo.1 b).2 (Qp.1 c);intro k c b;rw[d,zfw e c]at b⊢;unfold zh6 at b⊢
 by_cases e:ZF a k=Xc
 ·rw[kE e];exact f
 rw[kF e]at b⊢;exact g k c b
theorem zoD {l:List Ar} {a:Ar} (h:(za6 l a).2=0):(wrL (za6 l a).1).1=0:=by
 obtain⟨b,c,d,d,e⟩:=zh7 h;rw[e];exact zqh (zbq (Zo.1 b).2 (Qp.1 c)) d
theorem zjr {m:Ma} (h:∀s∈m.sp,zca s.tb):Zn m (Qn m) m.hand=m:=by
 have:Um (fun s f=>({ s with tb:=Zt f }:Sp)) m.sp (Qn m)=m.sp:=by
  have a:∀l:List Sp,(∀s∈l,zca s.tb)->Um (fun s f=>({ s with tb:=Zt f }:Sp)) l (l.map zo)=l:=by
   intro l
   induction l with
   | nil=>intro _;rfl
   | cons s l e=>
    intro b;have c:=b s (by simp)
    have d:Zt (zo s)=s.tb:=by
     unfold Zt;refine zjP c fun j c=>?_
     rw[Yc,Ya c];rfl
    rw[mP,Un,e (fun x c=>b x (by simp[c])),d]
  exact a m.sp h
 unfold Zn;rw[this]
theorem ZQ {m:Ma} (a:zbH m Xb m.ca=0) {c:Ca} (g:c∈m.ca):m.ca.find? (JQ c.file c.idx)=Xa c:=by
 obtain⟨b,_,h⟩:=zp.1 a
 cases a:m.ca.find? (JQ c.file c.idx)with
 | none=>
  rw[List.find?_eq_none]at a;exact absurd (by simp[JQ]) (a c g)
 | some d=>
  have j:=List.mem_of_find?_eq_some a;have b:d.file=c.file/\d.idx=c.idx:=by
   have:=List.find?_some a
   simpa [JQ]using this
  have a:qg d=qg c:=by unfold qg;rw[b.1,b.2]
  by_cases f:d=c
  ·rw[f]
  exfalso;have:∀l:List Ca,l.Pairwise (fun a b=>qg a<qg b)->c∈l->d∈l->False:=by
   intro l
   induction l with
   | nil=>intro _ b;cases b
   | cons x l l=>
    intro k b a;obtain⟨e,i⟩:=Yf.1 k
    rcases mC.1 b with b|b
    ·rcases mC.1 a with a|a
     ·exact f (by rw[b,a])
     have:=e d a;rw[<-b]at this;omega
    rcases mC.1 a with a|a
    ·have:=e c b;rw[<-a]at this;omega
    exact l i b a
  exact this m.ca h g j
theorem zdB {α:Type} {f:α->Int}:∀{l:List α} {k:Nat} {q:α},l[k]? =Xa q->(∀(j:Nat) x,j<k->l[j]? =Xa x->f x=0)->f q≠0->zu (l.map f)=f q
 | [],k,q,h,_,_=>by simp at h
 | a :: l,0,q,h,_,b=>by
  simp at h
  subst h;simp only[mP,zu];rw[kF b]
 | a :: l,k+1,q,h,c,b=>by
  simp only[mP,zu];rw[kE (c 0 a (by omega) rfl)]
  exact zdB (by simpa using h) (fun j x d d=>c (j+1) x (by omega) (by simpa using d)) b
theorem zeI {α:Type} {f:α->Int} {l:List α} (a:∀(j:Nat) x,l[j]? =Xa x->f x=0):zu (l.map f)=0:=by
 rw[zn];intro e b;obtain⟨x,c,rfl⟩:=Ye.1 b;obtain⟨j,b⟩:=Xy c;exact a j x b
theorem JH {α:Type} {p:α->Bool} {g:α->Int}:∀(l:List α),zu (l.map fun x=>if p x=Xc then g x else 0)=zu ((l.filter p).map g)
 | []=>rfl
 | a :: l=>by
  simp only[mP,zu]
  by_cases h:p a=Xc
  ·rw[kE h,Yv h];simp only[mP,zu];rw[JH l]
  rw[kF h,kE rfl,Ug h,JH l]
theorem jZ (a:Int) (l):zu (a :: l)=if a=0 then zu l else a:=rfl
theorem zb3:zu []=0:=rfl
def Z7 (m:Ma):List Int:=[Qa m.fs m.hand,slW m.sl,zB m.sb.length m.sq,zB m.db.length m.dq,stW m.fl m.cnt]
def Qx (m:Ma):List Int:=[zmn m,zap m,J6 m]
def Z6 (m:Ma):Int:=if 4<m.sp.length then 4 else zu (m.sp.map spE)
def zaR (m:Ma):Int:=if zu ((Xv m.fs.length).map (frE m))=0 then zu ((Xv m.sl.length).map (zjR m))else zu ((Xv m.fs.length).map (frE m))
def zga (m:Ma):Int:=zu (m.sp.map (zgh m))
def zeg (m:Ma):Int:=zbH m Xb m.ca
theorem zeH (l k):zu (l++k)=if zu l=0 then zu k else zu l:=by
 induction l with
 | nil=>simp[zu]
 | cons a l d=>
  by_cases h:a=0
  ·have b:zu (a :: l)=zu l:=by rw[jZ,kE h]
   have c:zu (a :: l++k)=zu (l++k):=by rw[Oi,jZ,kE h]
   rw[b,c,d]
  have b:zu (a :: l)=a:=by rw[jZ,kF h]
  have c:zu (a :: l++k)=a:=by rw[Oi,jZ,kF h]
  rw[b,c,kF h]
theorem zpb (m):maW m=zu [zu (Z7 m),zu (Qx m),Z6 m,zeg m,zga m,zaR m]:=by
 have a:J7 m=if zu (Z7 m)=0 then(if zu (Qx m)=0 then Z6 m else zu (Qx m))else zu (Z7 m):=by
  have:J7 m=zu (Z7 m++(Qx m++ [if 4<m.sp.length then 4 else 0,zu (m.sp.map spE)])):=rfl;rw[this,zeH,zeH]
  congr 1
  congr 1
  unfold Z6;rw[jZ,jZ,zb3]
  split <;> simp_all
 unfold maW;simp only[jZ,zb3,a];unfold zaR zga zeg
 by_cases a:zu (Z7 m)=0 <;> by_cases b:zu (Qx m)=0 <;> by_cases c:Z6 m=0 <;> simp only[a,b,c,if_true,if_false] <;>(by_cases a:zu ((Xv m.fs.length).map (frE m))=0 <;> by_cases b:zu ((Xv m.sl.length).map (zjR m))=0 <;> simp[a,b])
structure zjE (m:Ma):Prop where
 mem:Qa m.fs m.hand=0
 sl:slW m.sl=0
 sq:zB m.sb.length m.sq=0
 dq:zB m.db.length m.dq=0
 st:stW m.fl m.cnt=0
theorem zpY {m:Ma}:zu (Z7 m)=0↔zjE m:=by
 rw[zn];unfold Z7;constructor
 ·intro h;exact⟨h _ (by simp),h _ (by simp),h _ (by simp),h _ (by simp),h _ (by simp)⟩
 intro h e a;simp only[mC,nM,or_false]at a
 rcases a with rfl|rfl|rfl|rfl|rfl
 ·exact h.mem
 ·exact h.sl
 ·exact h.sq
 ·exact h.dq
 exact h.st
theorem zgB {n:Nat}:∀{l:List Ar} {p:Option Ar} {k:Nat} {a:Ar},Q5 p l->l[k]? =Xa a->ZF a n=Xc->zE l n=qm a n
 | [],_,_,_,_,h,_=>by simp at h
 | b :: l,p,0,a,_,h,c=>by
  simp at h
  subst h;rw[z4]at c;exact Jv c.1 c.2
 | b :: l,p,k+1,a,e,h,c=>by
  have f:l[k]? =Xa a:=by simpa using h
  have d:=zgB e.2.2 f c
  by_cases c:(n:Int)<b.tz
  ·have:=e.2.2.low rfl c;rw[this]at d;exact(zgA d.symm).elim
  rw[zbk (.inr (by omega))]
  exact d
def qU (s:Sp):List Nat:=(Xv 64).filter fun n=>enS (zo s n)
theorem zhN (m) (s:Sp):zgh m s=zu ((qU s).map fun n=>za4 m (zE s.ars n) (zo s n)):=by
 unfold zgh qU;rw[<-JH]
 congr 1
 apply Ox
 intro n _
 by_cases h:(zo s n).kind=0
 ·simp[enS,h]
 simp[enS,h]
theorem zgw {s:Sp} (ht:tbW s.tb=0) (d:s.tb.length=8):qU s=[]↔s.tb.all (·.isEmpty)=Xc:=by
 unfold qU;rw[List.filter_eq_nil_iff,Yk];constructor
 ·intro h x a;obtain⟨i,b⟩:=Xy a;have c:i<8:=by rw[<-d];exact(gS.1 b).1
  rcases ZS.1 ht x a with c|⟨d,a,a⟩
  ·rw[c];rfl
  exfalso;unfold Z5 at a;rw[Yg]at a;obtain⟨e,c,f⟩:=a;obtain⟨j,a⟩:=Xy c;have c:j<8:=by rw[<-d];exact(gS.1 a).1
  refine h (8*i+j) (Xs.2 (by omega)) ?_
  unfold zo zaL;rw[show(8*i+j) / 8=i by omega,show(8*i+j) % 8=j by omega,b]
  simp only[Option.getD_some];rw[a];exact f
 intro h n a;rw[Xs]at a;unfold zo zaL
 cases e:s.tb[n / 8]? with
 | none=>simp[enS,en0]
 | some x=>
  have:=h x (mG e);have:x=[]:=by simpa using this
  subst this
  simp[enS,en0]
def Q0 (f:Fr) (a:Ar) (n:Nat):Bool:=if f.f<0 then !a.sh else f.f == a.file && f.x == a.base+(n:Int) - a.fr
def ZX (f:Fr) (a:Ar):Bool:=a.wr &&(if f.f<0 then decide (f.r<=1)else a.sh)
def zef (m:Ma) (a:Ar) (n:Nat) (e:En):Int:=
 if e.kind=2 then(if(m.sl.length:Int)<=e.n\/a.sh=Xc then 7 else 0)
 else if(m.fs.length:Int)<=e.n then 3
 else if Q0 (zW m e.n) a n=Xd\/(e.wr=Xc/\ZX (zW m e.n) a=Xd)then 7 else 0
theorem zpo {m:Ma} (a:Qa m.fs m.hand=0) (k:Int):(zW m k).f=-1\/(0<=(zW m k).f/\(zW m k).f<5):=by
 unfold zW;rw[gD]
 cases h:m.fs[k.toNat]? with
 | none=>left;rfl
 | some f=>
  have b:zch m.fs=0:=by
   unfold Qa at a
   split at a
   ·cases a
   split at a
   ·rename_i h;exact h
   rename_i h;exact absurd a h
  have a:=zaj.1 b f (mG h);simp only[Option.getD_some];unfold frW at a
  split at a
  ·cases a
  split at a
  ·cases a
  rename_i b
  by_cases e:f.f=-1
  ·exact .inl e
  right
  cases a:inB f.f 5 with
  | false=>simp[e,a]at b
  | true=>simpa [inB]using a
theorem zld {m:Ma} {a:Ar} {n:Nat} {e:En} (c:Qa m.fs m.hand=0) (d:Zi a):za4 m (qm a n) e=zef m a n e:=by
 unfold za4 zef;rw[kF (by simp[qm])]
 by_cases b:e.kind=2
 ·rw[kE b,kE b];rfl
 rw[kF b,kF b]
 by_cases b:(m.fs.length:Int)<=e.n
 ·rw[kE b,kE b]
 rw[kF b,kF b];have b:=zpo c e.n;obtain⟨f,c⟩:=kB (zW m e.n);rw[c]at b⊢;unfold Q0 ZX qm;simp only;obtain⟨c,c,c,c,c,c,c,c⟩:=d
 rcases b with b|b
 ·rw[b];have b:¬(0<=a.file/\(-1:Int)=a.file/\f.x=if 0<=a.file then a.base+((n:Int) - a.fr)else 0):=by omega
  simp only[b]
  cases j:e.wr <;> cases h:a.sh <;> cases i:a.wr <;> simp
 have g:¬f.f=-1:=by omega
 have b:¬f.f<0:=by omega
 rw[kF b,kF b]
 by_cases c:f.f=a.file/\f.x=a.base+(n:Int) - a.fr
 ·have b:0<=a.file/\f.f=a.file/\f.x=(if 0<=a.file then a.base+((n:Int) - a.fr)else 0):=by
   rw[kE (by omega)]
   omega
  have d:(f.f == a.file && f.x == a.base+(n:Int) - a.fr)=Xc:=by simp[c.1,c.2]
  rw[d];simp only[b]
  cases j:e.wr <;> cases h:a.sh <;> cases i:a.wr <;> simp <;>(intro;omega)
 have b:¬(0<=a.file/\f.f=a.file/\f.x=(if 0<=a.file then a.base+((n:Int) - a.fr)else 0)):=by
  rintro⟨h,i,j⟩;rw[kE h]at j;exact c ⟨i,by omega⟩
 have d:(f.f == a.file && f.x == a.base+(n:Int) - a.fr)=Xd:=by
  cases h:(f.f == a.file && f.x == a.base+(n:Int) - a.fr)with
  | false=>rfl
  | true=>simp at h;exact absurd h c
 rw[d,kE (.inl ⟨g,b⟩),kE (.inl rfl)]
def Jn (c d:Ca):Bool:=decide (c.file<d.file) || (c.file == d.file && decide (c.idx<d.idx))
theorem zmX {c d:Ca} (a:0<=c.idx/\c.idx<100) (b:0<=d.idx/\d.idx<100):Jn c d=decide (¬qg d<=qg c):=by
 unfold Jn qg;rw[Uo];simp;omega
theorem zpA {m:Ma} {p:Option Ca} {c:Ca} (a:stW m.fl m.cnt=0) (h:caE m p c=0):0<=c.idx/\c.idx<100:=by
 unfold caE at h
 split at h
 ·cases h
 rename_i b
 have b:bkN m c.file<=12:=by
  unfold bkN;rw[gD]
  cases e:m.fl[c.file.toNat]? with
  | none=>simp
  | some f=>
   have:=((z6 _ _).1 a).2.1 f (mG e);simp only[Option.getD_some];have a:=zfP this.1.1 this.1.2;rw[this.2.1];exact a.2
 omega
theorem zhe (f:Nat->En) (kind k:Int):∀m:Nat,Ze f kind k m=(Xv m).countP fun n=>isE (f n) kind k
 | 0=>rfl
 | m+1=>by
  unfold Ze;rw[zhe f kind k m,List.range_succ,Oc]
  cases h:isE (f m) kind k <;> simp[h]
theorem zmJ (s) {kind k:Int} (a:kind≠0):Ze (zo s) kind k 64=(qU s).countP fun n=>isE (zo s n) kind k:=by
 rw[zhe];unfold qU;rw[List.countP_filter]
 apply List.countP_congr
 intro n _;constructor
 ·intro h;rw[Xx];refine⟨h,?_⟩;unfold isE at h;rw[Xx]at h;have:(zo s n).kind=kind:=by simpa using h.1
  simp[enS,this,a]
 intro h;rw[Xx]at h;exact h.1
def qt (m:Ma) (i:Nat) (l:List Nat) (s:Sp) (key:Int × Int):Int:=
 ((if key.1=1 then(zL m.ca key.2:Nat)else 0:Nat):Int)+((((m.sp.take i).map fun s=>(qU s).countP fun n=>isE (zo s n) key.1 key.2).sum:Nat):Int)+((l.countP fun n=>isE (zo s n) key.1 key.2:Nat):Int)
theorem zlZ (m) (i:Nat) (l:List Nat) (s) (n:Nat) (key:Int × Int):qt m i (l++ [n]) s key=qt m i l s key+(if key=((zo s n).kind,(zo s n).n)then 1 else 0):=by
 unfold qt;rw[Oc]
 by_cases h:key=((zo s n).kind,(zo s n).n)
 ·subst h;have:isE (zo s n) (zo s n).kind (zo s n).n=Xc:=by simp[isE]
  simp[this]
  omega
 rw[kF h];have:isE (zo s n) key.1 key.2=Xd:=by
  cases a:isE (zo s n) key.1 key.2 with
  | false=>rfl
  | true=>
   unfold isE at a
   simp at a
   exact absurd (Prod.ext a.1.symm a.2.symm) h
 simp[this]
theorem zl0 (m:Ma) (i:Nat) (s s') (a:m.sp[i]? =Xa s) (key:Int × Int):qt m i (qU s) s key=qt m (i+1) [] s' key:=by
 unfold qt;rw[Ua,a];simp;omega
theorem zjk (m:Ma) (s) {kind:Int} (k:Int) (a:kind≠0):qt m m.sp.length [] s (kind,k)=((QE m kind k+(if kind=1 then zL m.ca k else 0):Nat):Int):=by
 unfold qt QE qO;rw[List.take_length];have:(m.sp.map zo).map (fun f=>Ze f kind k 64)=m.sp.map fun s=>(qU s).countP fun n=>isE (zo s n) kind k:=by
  rw[List.map_map]
  apply Ox
  intro s _;exact zmJ s a
 rw[this];simp;omega
def zae (l:List Ca) (key:Int × Int):Int:=if key.1=1 then(zL l key.2:Int)else 0
theorem zkn (l) (c:Ca) (key:Int × Int):zae (l++ [c]) key=zae l key+(if key=(1,c.fr)then 1 else 0):=by
 unfold zae zL;obtain⟨b,d⟩:=key;simp only[Oc,pJ]
 by_cases a:b=1
 ·rw[kE a,kE a]
  by_cases b:d=c.fr
  ·simp[a,b]
  have:¬c.fr=d:=fun e=>b e.symm
  simp[a,b,this]
 rw[kF a,kF a]
 simp[a]
theorem zl2 (m:Ma) (s) (key:Int × Int):zae m.ca key=qt m 0 [] s key:=by
 unfold zae qt;simp
 split <;> rfl
theorem zl1 (key:Int × Int):zae [] key=0:=by
 unfold zae zL;simp
def za0:List Ca->Int × Int->Option Int
 | [],_=>Xb
 | c :: l,key=>match za0 l key with | some z=>Xa z | none=>if key=(c.file,c.idx)then Xa c.fr else Xb
theorem zgR (c:Ca) (key:Int × Int):∀(l:List Ca),za0 (l++ [c]) key=if key=(c.file,c.idx)then Xa c.fr else za0 l key
 | []=>by simp[za0]
 | d :: l=>by
  simp only[Oi,za0];rw[zgR c key l]
  by_cases h:key=(c.file,c.idx)
  ·rw[kE h,kE h]
  rw[kF h,kF h]
theorem zfD {key:Int × Int} {z:Int}:∀{l:List Ca},za0 l key=Xa z->∃c∈l,key=(c.file,c.idx)/\c.fr=z
 | [],h=>by cases h
 | d :: l,h=>by
  unfold za0 at h
  cases e:za0 l key with
  | some y=>
   rw[e]at h;cases h;obtain⟨c,a,b⟩:=zfD e;exact⟨c,Ou _ a,b⟩
  | none=>
   rw[e]at h;simp only at h
   split at h
   ·rename_i a
    cases h;exact⟨d,Gd,a,rfl⟩
   cases h
theorem zdo {key:Int × Int}:∀{l:List Ca},za0 l key=Xb↔∀c∈l,key≠(c.file,c.idx)
 | []=>by simp[za0]
 | d :: l=>by
  unfold za0;constructor
  ·intro h c a
   cases e:za0 l key with
   | some y=>rw[e]at h;cases h
   | none=>
    rw[e]at h;simp only at h
    rcases mC.1 a with rfl|a
    ·intro b;rw[kE b]at h;cases h
    exact zdo.1 e c a
  intro h;rw[zdo.2 fun c a=>h c (Ou _ a)]
  simp only;rw[kF (h d Gd)]
theorem ziE {l:List Ca} (h:l.Pairwise fun a b=>qg a<qg b) {c d:Ca} (e:c∈l) (g:d∈l) (f:qg c=qg d):c=d:=by
 induction l with
 | nil=>cases e
 | cons a l i=>
  rw[Yf]at h
  rcases mC.1 e with rfl|f
  ·rcases mC.1 g with rfl|e
   ·rfl
   have:=h.1 d e;omega
  rcases mC.1 g with rfl|e
  ·have:=h.1 c f;omega
  exact i h.2 f e
theorem zkp {m:Ma} (a:zbH m Xb m.ca=0) (k:Nat):(za0 m.ca ((zW m k).f,(zW m k).x)=Xa (k:Int))↔zL m.ca k≠0:=by
 obtain⟨d,_,i⟩:=zp.1 a;have b:∀c∈m.ca,(zW m c.fr).f=c.file/\(zW m c.fr).x=c.idx:=by
  intro c a;have:=d c a;unfold caE at this
  split at this
  ·cases this
  split at this
  ·cases this
  rename_i h
  exact⟨Classical.byContradiction fun e=>h (.inr (.inl e)),Classical.byContradiction fun e=>h (.inr (.inr e))⟩
 have a:zL m.ca k≠0↔∃c∈m.ca,c.fr=(k:Int):=by
  unfold zL;rw[Nat.ne_zero_iff_zero_lt,Ux];simp
 rw[a];constructor
 ·intro h;obtain⟨c,a,_,d⟩:=zfD h;exact⟨c,a,d⟩
 rintro⟨c,a,g⟩;obtain⟨d,f⟩:=b c a;rw[g]at d f
 cases e:za0 m.ca ((zW m k).f,(zW m k).x)with
 | none=>
  have:=zdo.1 e c a;rw[d,f]at this;exact absurd rfl this
 | some z=>
  obtain⟨h,j,b,l⟩:=zfD e;rw[d,f]at b;simp only[pJ]at b;have:c=h:=ziE i a j (by unfold qg;rw[b.1,b.2])
  rw[<-l,<-this,g]
end
section
open Go.RowKit
theorem zb7 (m n:Int) (w):
  Xp prog 114 #[I6 m,I6 n] w fun e w'=>e= Xl (Xh (bel m n))/\w'=w:=by
 have H:Xo (bel m n=(decide (0<=m) && decide (m<n))):=rfl
 by_cases a:0<=m
 ·by_cases a:m<n
  ·go_enter func114,ntmps114
   go_wp2;go_ret;exact⟨by rw[H.out];simp[*],rfl⟩
  go_enter func114,ntmps114
  go_wp2;go_ret;exact⟨by rw[H.out];simp[*],rfl⟩
 go_enter func114,ntmps114
 go_wp2;go_ret;exact⟨by rw[H.out];simp;omega,rfl⟩
theorem zqT:(Tryz.prog.info? 44).map (fun i=>(i.zero,i.size,i.bytes))=Xa (Xa (I6 0),1,8):=by kernel_rfl
def zk3:Elt Int where
 enc:=fun z=>[Xe Xf z]
 k:=1
 ty:=44
 st:=171
 bytes:=8
 zv:= Xe Xf 0
 zero:=0
 len:=fun _=>rfl
 one:=fun a u hu=>by
  simp only[mC,nM,or_false]at hu;rw[hu];rfl
 und:=underlying171
 info:=zqT
 zok:=rfl
 few:=by decide
 pos:=by decide
theorem zq.errs {w:Xn} {v:Xq} {l:List Int} (h:zq zk3 w v l):∃a c,v= O a l.length c/\zm0 w a l:=by
 obtain⟨a,c,b,d⟩:=h.rows;refine⟨a,c,b,fun j x g=>?_⟩
 obtain⟨b,e,f⟩:=d j x g;refine⟨b,e,fun W b=>?_⟩
 have:=f W b 0 _ rfl;rw[zV]at this
 simpa [zk3]using this
theorem zff {α:Type} (E:Elt α) (w:Xn) (l:List α) (cs:Array Xq) (a:cs=(l.flatMap E.enc).toArray) (b:l.length*E.bytes<=140737488355328):zq E (w.alloc (Xk cs E.ty)) (O (Xa ⟨w.heap.size,0,Xb⟩) l.length l.length) l:=by
 subst a;refine⟨⟨_,l.length,rfl,fun h=>(by cases h),fun y a=>?_⟩,b⟩
 cases a;exact Zf.top w (l.flatMap E.enc) E.ty rfl
theorem zdz {l:List Int} {k:Nat} (a:∀(j:Nat) x,j<k->l[j]? =Xa x->x=0) {q:Int} (c:l[k]? =Xa q) (b:q≠0):zu l=q:=by
 have:=zdB (f:=fun x=>x) c a b
 simpa using this
theorem zdA {l:List Int} (a:∀(j:Nat) x,l[j]? =Xa x->x=0):zu l=0:=by
 have:=zeI (f:=fun x=>x) a
 simpa using this
theorem zdc (v l w) (s:zq zk3 w v l):
  Xp prog 63 #[v] w fun e w'=>e= Xl (I6 (zu l))/\w'=w:=by
 have g:=s.short;obtain⟨G,H,rfl,b⟩:=s.errs;have z:=dD b;clear b s;obtain⟨n,m⟩:=kA l.length;rw[m.out]at g⊢;obtain⟨F,k⟩:=kA (zu l);rw[k.out]
 go_enter func63,ntmps63
 go_wp2
 go_loopg [5,8] n (fun B _ E wr=>∃a:Nat,a<=n/\n - a<=B/\E=I6 a/\wr=w/\Xo (∀(j:Nat) x,j<a->l[j]? =Xa x->x=0))
 case atStart=>exact⟨0,nZ _,by omega,rfl,rfl,fun j x t=>absurd t (nL _)⟩
 obtain⟨a,D,C,rfl,rfl,A⟩:=hrel
 by_cases c:a<n
 ·have h:=kC c
  obtain⟨q,p⟩:∃q,Xo (l[a]? =Xa q):=⟨_,gE (by rw[m.out];exact c)⟩
  obtain⟨x,rfl,u⟩:=z.out a q p.out;have K:=u wr (zc.refl _);clear u
  by_cases d:q=0
  ·have r:(q != 0)=Xd:=by simp[d]
   have y:Xo (∀(j:Nat) x,j<a+1->l[j]? =Xa x->x=0):=dD<|fun j x t f=>by
    by_cases e:j=a
    ·subst e;rw[p.out]at f;cases f;exact d
    exact A j x (by omega) f
   clear d;go_wp2
   go_roundg (n -(a+1))
   case measure=>omega
   exact⟨a+1,by omega,by omega,by go_num,rfl,y⟩
  have r:(q != 0)=Xc:=by simp[d]
  have i:Xo (F=q):=dD<|by rw[<-k.out];exact zdz A p d
  clear d;go_wp2;go_ret;exact⟨by rw[i.out];rfl,rfl⟩
 have h:=kD c
 have:a=n:=by omega
 subst this;have i:Xo (F=0):=dD<|by
  rw[<-k.out];exact zdA fun j x f=>A.out j x (by rw[<-m.out];exact(gS.1 f).1) f
 go_wp2;go_ret;exact⟨by rw[i.out];rfl,rfl⟩
theorem zdn (a:Ar) (n:Int) (w) (b:0<=a.base/\a.base<=100) (c:0<=a.fr/\a.fr<=100) (d:0<=n/\n<=100):
  Xp prog 144 #[Xi #[I6 a.fr,I6 a.tz,Xh a.rd,Xh a.wr,Xh a.sh,I6 a.file,I6 a.base],I6 n] w fun e w'=>e= Xl (I6 (a.base+n - a.fr))/\zc w w':=by
 obtain⟨fr,d,d,wr,d,file,base⟩:=a;simp only at b c
 go_enter func144,ntmps144
 go_wp2;go_ret;exact⟨rfl,za _ _⟩
theorem zia (c d:Ca) (w):
  Xp prog 78 #[Xi #[I6 c.file,I6 c.idx,I6 c.fr],Xi #[I6 d.file,I6 d.idx,I6 d.fr]] w fun e w'=>e= Xl (Xh (Jn c d))/\zc w w':=by
 obtain⟨b,f,i⟩:=c;obtain⟨g,h,j⟩:=d
 by_cases l:b<g
 ·have a:Jn ⟨b,f,i⟩ ⟨g,h,j⟩=Xc:=by simp[Jn,l]
  rw[a];clear a
  go_enter func78,ntmps78
  go_wp2;go_ret;exact⟨rfl,(za _ _).trans (za _ _)⟩
 by_cases k:b=g
 ·subst k
  by_cases m:f<h
  ·have a:Jn ⟨b,f,i⟩ ⟨b,h,j⟩=Xc:=by simp[Jn,m]
   rw[a];clear a
   go_enter func78,ntmps78
   go_wp2;go_ret;exact⟨rfl,(za _ _).trans (za _ _)⟩
  have a:Jn ⟨b,f,i⟩ ⟨b,h,j⟩=Xd:=by simp[Jn,m]
  rw[a];clear a
  go_enter func78,ntmps78
  go_wp2;go_ret;exact⟨rfl,(za _ _).trans (za _ _)⟩
 have a:Jn ⟨b,f,i⟩ ⟨g,h,j⟩=Xd:=by simp[Jn,l,k]
 rw[a];clear a;have a:(b == g)=Xd:=by simp[k]
 clear k
 go_enter func78,ntmps78
 go_wp2;go_ret;exact⟨rfl,(za _ _).trans (za _ _)⟩
theorem zgH (f) (a:Ar) (w):
  Xp prog 120 #[Xi (frv f).toArray,Xi #[I6 a.fr,I6 a.tz,Xh a.rd,Xh a.wr,Xh a.sh,I6 a.file,I6 a.base]] w fun e w'=>e= Xl (Xh (ZX f a))/\zc w w':=by
 obtain⟨⟨d,g,i,j,k,l,m,n⟩,r,u,p,c,x⟩:=f;obtain⟨fr,t,q,wr,s,file,base⟩:=a;unfold frv ZX;simp only;cases wr
 ·simp only[Bool.false_and]
  go_enter func120,ntmps120
  go_wp2;go_ret;exact⟨rfl,(za _ _).trans (za _ _)⟩
 simp only[Bool.true_and]
 by_cases h:c<0
 ·rw[kE h];obtain⟨D,b⟩:=kA (decide (r<=1));rw[b.out]
  go_enter func120,ntmps120
  go_wp2;go_ret;exact⟨by rw[<-b.out];rfl,(za _ _).trans (za _ _)⟩
 rw[kF h]
 go_enter func120,ntmps120
 go_wp2;go_ret;exact⟨rfl,(za _ _).trans (za _ _)⟩
theorem ZP (m n:Int) (w):
  Xp prog 103 #[I6 m,I6 n] w fun e w'=>e= Xl (Xh (inB m n))/\w'=w:=by
 have H:Xo (inB m n=(decide (0<=m) && decide (m<n))):=rfl
 by_cases a:0<=m
 ·by_cases a:m<n
  ·go_enter func103,ntmps103
   go_wp2;go_ret;exact⟨by rw[H.out];simp[*],rfl⟩
  go_enter func103,ntmps103
  go_wp2;go_ret;exact⟨by rw[H.out];simp[*],rfl⟩
 go_enter func103,ntmps103
 go_wp2;go_ret;exact⟨by rw[H.out];simp;omega,rfl⟩
theorem JF (w):
  Xp prog 100 #[] w fun e w'=>e= Xl (Xi (frv frF).toArray)/\zc w w':=by
 go_enter func100,ntmps100
 go_wp2;refine bodyPost_ret (v:= Xi (frv frF).toArray) (by simp[results,Tryz.results100,go_sem,frv,frF,pg0]) rfl ⟨rfl,?_⟩
 exact(bR _ _).alloc (nR _) _
theorem wf5 (a c g h i j k l r:Int) (u d:Bool) (f x:Int) (w) (b:inB r 1001=Xc) (m:inB x 12=Xc) (p:(f != -1)=Xc) (_hfe:(f == -1)=Xd) (n:inB f 5=Xc) (q:(r == 0)=Xd):
  Xp prog 102 #[Xi #[U8 a,U8 c,U8 g,U8 h,U8 i,U8 j,U8 k,U8 l,I6 r,Xh u,Xh d,I6 f,I6 x]] w fun e w'=>e= Xl (I6 0)/\zc w w':=by
 go_enter func102,ntmps102
 go_wp2_with (go_at_call 103;refine(ZP _ _ _).mono ?_;rintro e w' ⟨rfl,rfl⟩)
 obtain⟨m,b⟩:=kB (w.alloc (Xk #[U8 a,U8 c,U8 g,U8 h,U8 i,U8 j,U8 k,U8 l,I6 r,Xh u,Xh d,I6 f,I6 x] 62));have c:=gA b
 have a:=xA b
 rw[b];clear b;have b:=a.gw 0 rfl
 have b:=a.gw 1 rfl
 have b:=a.gw 2 rfl
 have b:=a.gw 3 rfl
 have b:=a.gw 4 rfl
 have b:=a.gw 5 rfl
 have b:=a.gw 6 rfl
 have b:=a.gw 7 rfl
 have b:=a.gw 8 rfl
 have b:=a.gw 9 rfl
 have b:=a.gw 10 rfl
 have b:=a.gw 11 rfl
 have b:=a.gw 12 rfl
 have a:Nonempty (zl m):=⟨⟨_,zc.refl _⟩⟩;refine jK [(5,⟨fun v=>v= Xi (frv frF).toArray,fun _ _=>True⟩)] zY (by kernel_rfl) ?_ ?_ ?_
 ·intro x a
  simp at a
  subst a;exact⟨_,rfl⟩
 ·intro x a
  simp at a
  subst a;exact fun _ _ _ _ h=>h
 iterate 4 refine zg ?_
 iterate 3 (refine Qk ?_ ?_;kernel_rfl;simp only[Gg,sB,sS,sZ])
 iterate 6 refine zg ?_
 iterate 3 (refine Qk ?_ ?_;kernel_rfl;simp only[Gg,sB,sS,sZ])
 iterate 2 refine zg ?_
 refine z7 fun a b a=>?_
 have a:=dD (c.trans b);go_wp2;go_ret;exact⟨rfl,a⟩
theorem wf7 (g h i j k l m n r:Int) (u d:Bool) (f x:Int) (w) (b:inB r 1001=Xc) (p:inB x 12=Xc) (q:(f != -1)=Xd) (_hfe:(f == -1)=Xc) (s:(r == 0)=Xc) (a:QO (⟨⟨g,h,i,j,k,l,m,n⟩,r,u,d,f,x⟩:Fr) frF=Xc) (c:(x != 0)=Xd):
  Xp prog 102 #[Xi #[U8 g,U8 h,U8 i,U8 j,U8 k,U8 l,U8 m,U8 n,I6 r,Xh u,Xh d,I6 f,I6 x]] w fun e w'=>e= Xl (I6 0)/\zc w w':=by
 have p:Xo _:=a;clear a
 go_enter func102,ntmps102
 go_wp2_with (go_at_call 103;refine(ZP _ _ _).mono ?_;rintro e w' ⟨rfl,rfl⟩)
 obtain⟨s,b⟩:=kB (w.alloc (Xk #[U8 g,U8 h,U8 i,U8 j,U8 k,U8 l,U8 m,U8 n,I6 r,Xh u,Xh d,I6 f,I6 x] 62));have q:=gA b
 have a:=xA b
 rw[b];clear b;have b:=a.gw 0 rfl
 have b:=a.gw 1 rfl
 have b:=a.gw 2 rfl
 have b:=a.gw 3 rfl
 have b:=a.gw 4 rfl
 have b:=a.gw 5 rfl
 have b:=a.gw 6 rfl
 have b:=a.gw 7 rfl
 have b:=a.gw 8 rfl
 have b:=a.gw 9 rfl
 have b:=a.gw 10 rfl
 have b:=a.gw 11 rfl
 have b:=a.gw 12 rfl
 have a:Nonempty (zl s):=⟨⟨_,zc.refl _⟩⟩;refine jK [(5,⟨fun v=>v= Xi (frv frF).toArray,fun _ _=>True⟩)] zY (by kernel_rfl) ?_ ?_ ?_
 ·intro x c
  simp at c
  subst c;exact⟨_,rfl⟩
 ·intro x c
  simp at c
  subst c;exact fun _ _ _ _ a=>a
 iterate 5 refine zg ?_
 refine zH rfl rfl (fun w' a c=>?_) (fun a b=>?_)
 ·refine zQ.call [] rfl func100 rfl rfl rfl ?_;refine(JF w').mono ?_;rintro e a ⟨rfl,a⟩;exact⟨_,rfl,a,rfl,trivial⟩
 subst b;have a:=fun W=>zgV g h i j k l m n r u d f x 0 0 0 0 0 0 0 0 0 Xd Xd (-1) 0 W
 simp only[show(⟨⟨0,0,0,0,0,0,0,0⟩,0,Xd,Xd,-1,0⟩:Fr)=frF from rfl,p.out]at a
 simp only[Gg,sB,sS,sZ,frv,frF,pg0];iterate 12 refine zg ?_
 refine z7 fun a b c=>?_
 have a:=dD (q.trans b);go_wp2;go_ret;exact⟨rfl,a⟩
theorem wf9 (a g h i j k l m r:Int) (u d:Bool) (f x:Int) (w) (b:inB r 1001=Xc) (n:inB x 12=Xc) (p:(f != -1)=Xd) (_hfe:(f == -1)=Xc) (q:(r == 0)=Xd) (c:(x != 0)=Xd):
  Xp prog 102 #[Xi #[U8 a,U8 g,U8 h,U8 i,U8 j,U8 k,U8 l,U8 m,I6 r,Xh u,Xh d,I6 f,I6 x]] w fun e w'=>e= Xl (I6 0)/\zc w w':=by
 go_enter func102,ntmps102
 go_wp2_with (go_at_call 103;refine(ZP _ _ _).mono ?_;rintro e w' ⟨rfl,rfl⟩)
 obtain⟨n,b⟩:=kB (w.alloc (Xk #[U8 a,U8 g,U8 h,U8 i,U8 j,U8 k,U8 l,U8 m,I6 r,Xh u,Xh d,I6 f,I6 x] 62));have g:=gA b
 have a:=xA b
 rw[b];clear b;have b:=a.gw 0 rfl
 have b:=a.gw 1 rfl
 have b:=a.gw 2 rfl
 have b:=a.gw 3 rfl
 have b:=a.gw 4 rfl
 have b:=a.gw 5 rfl
 have b:=a.gw 6 rfl
 have b:=a.gw 7 rfl
 have b:=a.gw 8 rfl
 have b:=a.gw 9 rfl
 have b:=a.gw 10 rfl
 have b:=a.gw 11 rfl
 have b:=a.gw 12 rfl
 have a:Nonempty (zl n):=⟨⟨_,zc.refl _⟩⟩;refine jK [(5,⟨fun v=>v= Xi (frv frF).toArray,fun _ _=>True⟩)] zY (by kernel_rfl) ?_ ?_ ?_
 ·intro x c
  simp at c
  subst c;exact⟨_,rfl⟩
 ·intro x c
  simp at c
  subst c;exact fun _ _ _ _ h=>h
 iterate 4 refine zg ?_
 iterate 3 (refine Qk ?_ ?_;kernel_rfl;simp only[Gg,sB,sS,sZ])
 iterate 11 refine zg ?_
 refine z7 fun a b a=>?_
 have a:=dD (g.trans b);go_wp2;go_ret;exact⟨rfl,a⟩
end
end Go.Proofs.YtjjdljjhmcegdaaGreat
