import Derived.Orders
import Derived.Below
import Derived.Deep.QuietTactic
import Derived.BigQuiet
import Derived.Test.YtmfckdkcmbncdaaGreatProg
import Derived.WalkKit
import Derived.Deep.LoopGhost
import Derived.Deep.Slices
import Derived.Laws.AppendOwn
import Derived.Lib.Walk
import Derived.Lib.SliceRun
import Derived.Laws.CopyRow
import Derived.Laws.CopyOwn
import Derived.Laws.MakeOwn
import Derived.Laws.OwnMore
import Derived.Shelf.Abstract
import Derived.WalkSmall
import Derived.Deep.Cut
import Derived.ChangeKeysEq
import Derived.Laws.StructEq
import Derived.ArgAppend
import Derived.Deep.MidRow
import Derived.Laws.ResultCell
import Derived.OrdersHeld
namespace Go.Proofs.YtmfckdkcmbncdaaGreat
open Go.Value renaming slice→O,int→Xe,bool→Xh,agg→Xi,pointer→Xj,tuple→Xm
open Go.IntKind renaming i64→Xf,u8→Xg
open Go.Obj renaming cells→Xk
open Go.Ending renaming returned→Xl
open Go renaming World→Xn,Calls→Xp,Value→Xq
open Go.RowKit renaming Hid→Xo
open Option renaming some→Xa,none→Xb
open Bool renaming true→Xc,false→Xd
open List renaming replicate→Xr
open _root_.List renaming mem_range→Xs,getElem?_of_mem→Xt,range→Xu,getElem?_range→Xw,mem_filter→Xx,getElem?_map→Xz,mem_map→Ya,any_eq_true→Yb,flatMap_cons→Yc,pairwise_cons→Ye,ext_getElem?→Yf,length_cons→Yg,mem_or_eq_of_mem_set→Yh,length_nil→Yi,all_eq_true→Yk,drop_of_length_le→Yn,length_set→Yp,any_eq_false→Yq,append_assoc→Yr,cons_append→Ys,mem_append→Yt,filter_cons_of_pos→Yu,take_add_one→Yv,mem_cons_of_mem→Yx,drop_append_of_le_length→Yz,nodup_cons→Oa,take_length_add_append→Od,drop_length_add_append→Oe,filter_append→Of,mem_replicate→Og,countP_append→Oh,sum_cons→Oj,length_erase_of_mem→Ok,length_take→Ol,getElem?_replicate→Om,pairwise_lt_range→Oq,take_of_length_le→Ot,zipWith→Ou,zipWith_cons_cons→Ov,nil_append→Ox,set_getElem_self→Oz,range_eq_range'→Ua,filter_eq_self→Ud,countP_eq_zero→Ue,countP_pos_iff→Uf,map_congr_left→Ug,getLast?_cons→Ui,filter_filter→Uj,getElem?_drop→Uk,mem_cons_self→Ul,foldl_append→Up
open Go.Region renaming wanted→Xv,ready→Oo,binds→Um
open _root_.Bool renaming and_eq_true→Xy,false_eq_true→Ym,or_eq_true→Ow,eq_iff_iff→Oy,false_and→Uc,true_and→Uh
open Go.Sem renaming run_bind→Yd,run_pure→Yj
open _root_.Nat renaming lt_or_ge→Yl,lt_of_lt_of_le→Yo,add_assoc→Yw,mul_le_mul_right→Yy,mul_le_mul_left→Ob,add_comm→Oc,add_mul→Ub,zero_mul→Un,succ_mul→Uo
open _root_.Array renaming getElem?_eq_getElem→Oi
theorem Wm{P:Prop}(h:P:=by omega):P:=h
theorem Dc{P:Prop}(h:P:=by decide):P:=h
theorem Kr{P:Prop}(h:P:=by kernel_rfl):P:=h
theorem Sm{P:Prop}(h:P:=by simp):P:=h
theorem Gn{P:Prop}(h:P:=by go_num):P:=h
theorem Hm{P Q:Prop}(k:Q)(h:Q->P:=by intro _;omega):P:=h k
theorem Si{P Q:Prop}(k:Q)(h:Q->P:=by intro k;simpa using k):P:=h k
theorem Rr{P Q:Prop}(k:Q)(h:Q->P:=by intro k;(first|rw[k]|(unfold Sli.x;rw[k])|(unfold Sli.x at k;rw[k]));rfl):P:=h k
theorem Rx{E P Q:Prop}(e:E)(k:Q)(h:E->Q->P:=by intro e k;(first|rw[e]|(unfold Sli.x;rw[e])|(unfold Sli.x at e;rw[e]));exact k):P:=h e k
theorem Ry{E P Q:Prop}(e:E)(k:Q)(h:E->Q->P:=by intro e k;rw[<-e];exact k):P:=h e k
theorem Ge{P Q:Prop}(k:Q)(h:Q->P:=by intro k;(first|go_end0|((try simp only[Exit.inBlock,Exit.then]);refine bodyPost_ret (results_none rfl _ _ _) rfl ?_));(first|exact k|exact⟨⟨_,rfl⟩,k⟩)):P:=h k
theorem Wq(P:World->Prop):∃j:World->Prop,Go.RowKit.Hid (∀a,j a↔P a):=⟨P,fun _=>Iff.rfl⟩
section
variable{α:Type _}{P:α->Prop}{a b c d:α}
theorem Sa(h:P a):∀x∈[a],P x:=by simpa using h
theorem Sb(h:P a)(k:P b):∀x∈[a,b],P x:=by simpa using⟨h,k⟩
theorem Sc(h:P a)(k:P b)(l:P c):∀x∈[a,b,c],P x:=by simpa using⟨h,k,l⟩
theorem Sd(h:P a)(k:P b)(l:P c)(m:P d):∀x∈[a,b,c,d],P x:=by simpa using⟨h,k,l,m⟩
end
theorem dD{P:Prop}(h:P):Go.RowKit.Hid P:=h
theorem kA{α:Type}(e:α):∃x,Go.RowKit.Hid (e=x):=⟨_,rfl⟩
theorem kB{α:Type}(e:α):∃x,e=x:=⟨_,rfl⟩
theorem kE{c:Prop}{h:Decidable c}(hc:c){α:Sort _}{t e:α}:ite c t e=t:=if_pos hc
theorem kF{c:Prop}{h:Decidable c}(hc:¬c){α:Sort _}{t e:α}:ite c t e=e:=if_neg hc
theorem kC{a b:Nat}(h:a<b):(a:Int)<(b:Int):=by omega
theorem kD{a b:Nat}(h:¬a<b):¬(a:Int)<(b:Int):=by omega
theorem Uq{P Q:Prop}(k:Q)(h:Go.RowKit.Hid Q->P:=by intro h;simp only[Go.Act.put,sB,sS,sZ];exact h.out):P:=h k
theorem gE{α:Type}{l:List α}{i:Nat}(h:i<l.length):l[i]?=Xa l[i]:=List.getElem?_eq_getElem h
theorem sB{α:Type}(l:List α)(i:Nat)(a:α):l.toArray.setIfInBounds i a=(l.set i a).toArray:=List.setIfInBounds_toArray l i a
theorem gS{α:Type}{i:Nat}{a:α}{l:List α}:l[i]?=Xa a<->∃h:i<l.length,l[i]=a:=List.getElem?_eq_some_iff
theorem sZ{α:Type}{x:α}{k:List α}{a:α}:(x::k).set 0 a=a::k:=rfl
theorem sS{α:Type}{x:α}{k:List α}{i:Nat}{a:α}:(x::k).set (i+1) a=x::k.set i a:=rfl
theorem nM{α:Type}{a:α}:¬a∈([]:List α):=List.not_mem_nil
theorem mC{α:Type}{b:α}{l:List α}{a:α}:a∈b::l<->a=b\/a∈l:=List.mem_cons
theorem mG{α:Type}{l:List α}{i:Nat}{a:α}(h:l[i]?=Xa a):a∈l:=List.mem_of_getElem? h
theorem sF{α:Type}{l:List α}{i:Nat}{a:α}(h:i<l.length):(l.set i a)[i]?=Xa a:=List.getElem?_set_self h
theorem gD{α:Type}{l:List α}{i:Nat}{a:α}:l.getD i a=l[i]?.getD a:=List.getD_eq_getElem?_getD
theorem sN{α:Type}{l:List α}{i j:Nat}(h:i≠j){a:α}:(l.set i a)[j]?=l[j]?:=List.getElem?_set_ne h
theorem tN(n:Nat):(n:Int).toNat=n:=Int.toNat_natCast n
theorem lR{α:Type}{n:Nat}{a:α}:(Xr n a).length=n:=List.length_replicate
theorem pJ{α β:Type}(a:α)(b:β)(c:α)(d:β):((a,b)=(c,d))=(a=c/\b=d):=Prod.mk.injEq a b c d
theorem vJ(a n c d e f):(O a n c=O d e f)=(a=d/\n=e/\c=f):=Value.slice.injEq a n c d e f
theorem eN{α:Type}{l:List α}(h:l.length=0):l=[]:=List.eq_nil_of_length_eq_zero h
theorem aR{α:Type}{k l:List α}{i:Nat}(h:k.length<=i):(k++l)[i]?=l[i-k.length]?:=List.getElem?_append_right h
theorem gN{α:Type}{l:List α}{i:Nat}(h:l.length<=i):l[i]?=Xb:=List.getElem?_eq_none h
theorem lA{α:Type}{k l:List α}:(k++l).length=k.length+l.length:=List.length_append
theorem aS{α:Type}{i:Nat}{b:α}{k:Array α}:k[i]?=Xa b<->∃h:i<k.size,k[i]=b:=Array.getElem?_eq_some_iff
theorem bD{B:Nat}{a w:Xn}(h:Go.RowKit.Below B a w)(n:Nat):Go.RowKit.Below B a (w.drewN n):=Go.below_drewN h n
theorem nT{n m k:Nat}(h:n<=m)(g:m<=k):n<=k:=Nat.le_trans h g
theorem nR(n:Nat):n<=n:=Nat.le_refl n
theorem nZ(n:Nat):0<=n:=Nat.zero_le n
theorem nL(n:Nat):¬n<0:=Nat.not_lt_zero n
theorem mP{α β:Type}{f:α->β}{a:α}{l:List α}:(a::l).map f=f a::l.map f:=rfl
theorem rA{α β:Type}(a:α)(w:Xn)(f:α->Xn->Result β):(Result.ok a w).andThen f=f a w:=rfl
theorem zA(n:Nat):0+n=n:=Nat.zero_add n
theorem bR(B:Nat)(w:Xn):Go.RowKit.Below B w w:=Go.RowKit.Below.refl B w
theorem bS{B:Nat}{w v:Xn}(h:Go.RowKit.Below B w v):w.heap.size<=v.heap.size:=Go.RowKit.Below.size h
set_option maxRecDepth 100000
set_option maxHeartbeats 4000000
variable{B B0 B1 b base' g id j kk:Nat}{L:List Oper}{Q:Exit->Act->Xn->Prop}{W w' w1 w2:Xn}{a0 a1 a2 a3 a4 a5 a6 a7:Xq}{o oj:Oper}{ops:Array Oper}{t:TypeId}{us vs xs:List Xq}{z:Int}
open Go.Proofs.Tryz
section
structure Pg where
 (b0 b1 b2 b3 b4 b5 b6 b7:Int)
structure Fr where
 p:Pg
 r:Int
 u:Bool
 d:Bool
 f:Int
 x:Int
def pg0:Pg:=⟨0,0,0,0,0,0,0,0⟩
def fr0:Fr:=⟨pg0,0,Xd,Xd,0,0⟩
def frF:Fr:=⟨pg0,0,Xd,Xd,-1,0⟩
def zeV(p q:Pg):Bool:=(p.b0==q.b0)&&(p.b1==q.b1)&&(p.b2==q.b2)&&(p.b3==q.b3)&&(p.b4==q.b4)&&(p.b5==q.b5)&&(p.b6==q.b6)&&(p.b7==q.b7)
theorem zaS(p q):zeV p q=Xc↔p=q:=by
 obtain⟨a,a,a,a,a,a,a,a⟩:=p;obtain⟨a,a,a,a,a,a,a,a⟩:=q
 simp[zeV,and_assoc]
def zbb(a b:Fr):Bool:=zeV a.p b.p&&(a.r==b.r)&&(a.u==b.u)&&(a.d==b.d)&&(a.f==b.f)&&(a.x==b.x)
theorem zdg(a b):zbb a b=Xc↔a=b:=by
 obtain⟨p,r,u,d,f,x⟩:=a;obtain⟨c,c,c,c,c,c⟩:=b
 simp[zbb,zaS,and_assoc]
def inB(m n:Int):Bool:=decide (0<=m)&&decide (m<n)
def frW(a:Fr):Int:=if(inB a.r 1001&&inB a.x 12)=Xd then 3 else if(!(a.f==-1)&&!inB a.f 5)=Xc then 3 else if(a.r==0&&!zbb a frF||a.f==-1&&!(a.x==0))=Xc then 7 else 0
def zfK:List Fr->Int
 |[]=>0
 |a::l=>if frW a=0 then zfK l else frW a
def j4(fs:List Fr)(h:Int):Int:=if 40<fs.length then 4 else if zfK fs=0 then(if inB h (max fs.length 1)then 0 else 3)else zfK fs
def zdC(z:Int):Bool:=decide (z<0)||decide (1000<z)
def slW(s:List Int):Int:=if 60<s.length then 4 else if s.any zdC then 3 else 0
def ZF(at_:Int)(n:Nat):Bool:=decide (0<=at_)&&decide (at_<n)
def zD(n:Nat)(qs:List (Int×List Int)):Int:=if 80<n then 4 else if 400<qs.length then 4 else if qs.any (fun q=>!ZF q.1 n)then 3 else 0
def zn(n:Nat)(qs:List (Int×List Int))(m:Int):Int:=if zD n qs=0 then(if ZF m n then 0 else 3)else zD n qs
def zS:List Int:=[0,0,0,0,0,0,0,0]
def qw(ps:List (List Int))(qs:List (Int×List Int))(m:Int):List Int:=
 if zn ps.length qs m=0 then(match qs.reverse.find? (fun q=>q.1==m)with|some q=>q.2|none=>ps.getD m.toNat zS)else zS
structure Fl where
 size:Int
 bl:List Int
def zbQ(n:Int):Int:=if n<1 then 0 else(n-1)/8+1
def Jr(cnt:Int)(g:List Int)(b:Int):Int:=if b=-1 then 0 else if 0<=b/\b<cnt then(if g.contains b then 7 else 0)else 3
def J3(g:List Int)(b:Int):List Int:=if b=-1 then g else b::g
def blW(cnt:Int):List Int->List Int->Int
 |_,[]=>0
 |g,b::l=>if Jr cnt g b=0 then blW cnt (J3 g b) l else Jr cnt g b
def blG(g:List Int)(l:List Int):List Int:=l.foldl J3 g
def flW(cnt:Int)(g:List Int)(f:Fl):Int:=if 0<=f.size/\f.size<=96 then(if(f.bl.length:Int)=zbQ f.size then blW cnt g f.bl else 2)else 3
def zgO(cnt:Int):List Int->List Fl->Int
 |_,[]=>0
 |g,f::l=>if flW cnt g f=0 then zgO cnt (blG g f.bl) l else flW cnt g f
def stW(fs:List Fl)(cnt:Int):Int:=if fs.length<=5/\0<=cnt/\cnt<=80 then zgO cnt [] fs else 4
def z4(fs:List Fl)(b:Int):Bool:=fs.any fun f=>f.bl.contains b
def Za(fs:List Fl)(cnt:Int):List Nat:=(Xu cnt.toNat).filter fun b=>!z4 fs (b:Int)
def zbt(l:List Int)(n:Nat):List Int:=l.take n++Xr (n-l.length) (-1)
theorem JU{n:Int}(a:0<=n)(b:n<=96):0<=zbQ n/\zbQ n<=12:=by
 unfold zbQ
 split<;>omega
theorem zaA(a:Int)(g:List Int)(b:Int):
  (b=-1/\Jr a g b=0/\J3 g b=g)\/
  (b≠-1/\¬(0<=b/\b<a)/\Jr a g b=3)\/
  (∃i:Nat,b=(i:Int)/\b<a/\g.contains b=Xc/\Jr a g b=7)\/
  (∃i:Nat,b=(i:Int)/\b<a/\g.contains b=Xd/\Jr a g b=0/\J3 g b=b::g):=by
 by_cases c:b=-1
 ·grind[Jr,J3]
 by_cases c:0<=b/\b<a
 ·obtain⟨i,a⟩:∃i:Nat,b=(i:Int):=⟨b.toNat,Wm⟩
  grind[Jr,J3]
 grind[Jr]
theorem zih(a:Int)(g)(b:Int):Jr a g b=0\/Jr a g b=3\/Jr a g b=7:=by
 rcases zaA a g b with⟨_,h,_⟩|⟨_,_,h⟩|⟨_,_,_,_,h⟩|⟨_,_,_,_,h,_⟩<;>omega
theorem zhh(a:Int):∀(l g:List Int),blW a g l=0\/blW a g l=3\/blW a g l=7
 |[],g=>.inl rfl
 |b::l,g=>by
  unfold blW
  split
  ·exact zhh a l _
  exact zih a g b
theorem zmJ(a:Int)(g f):0<=flW a g f/\flW a g f<=7:=by
 have:=zhh a f.bl g;unfold flW
 split
 ·split<;>omega
 omega
theorem zkG(a:Int):∀(l:List Fl)(g:List Int),0<=zgO a g l/\zgO a g l<=7
 |[],g=>by simp[zgO]
 |f::l,g=>by
  unfold zgO
  split
  ·exact zkG a l _
  exact zmJ a g f
def Z5(l:List Int):List Int:=l.filter (·≠-1)
theorem ze4(b:Int)(d:b≠-1):∀(l g:List Int),b∈blG g l↔b∈g\/b∈l
 |[],g=>by simp[blG]
 |c::l,g=>by
  have a:=ze4 b d l (J3 g c);unfold blG at a⊢;rw[List.foldl_cons,a];unfold J3
  split
  ·rename_i h
   simp;constructor
   ·rintro(h|h)<;>simp[h]
   rintro(a|a|a)
   ·exact .inl a
   ·exact absurd (a.trans h) d
   exact .inr a
  simp;constructor
  ·rintro((h|h)|h)<;>simp[h]
  rintro(h|h|h)<;>simp[h]
theorem zfD(a:Int):∀(l g:List Int),blW a g l=0↔(∀b∈l,b=-1\/(0<=b/\b<a))/\(∀b∈l,b≠-1->b∉g)/\(Z5 l).Nodup
 |[],g=>by simp[blW,Z5]
 |b::l,g=>by
  unfold blW
  rcases zaA a g b with⟨e,d,c⟩|⟨e,d,c⟩|⟨i,e,d,c,f⟩|⟨i,e,d,c,f,j⟩
  ·rw[kE d,c,zfD a l g];subst e
   simp[Z5]
  ·rw[kF Wm,c]
   constructor
   ·intro h;omega
   rintro⟨h,_⟩
   rcases h b Sm with h|h
   ·exact absurd h e
   exact absurd h d
  ·rw[kF Wm,f]
   constructor
   ·intro h;omega
   rintro⟨_,h,_⟩;exact absurd (Si c) (h b Sm Wm)
  rw[kE f,j,zfD a l (b::g)];have f:b≠-1:=Wm
  have m:b∉g:=Si c
  constructor
  ·rintro⟨k,j,e⟩;refine⟨fun c a=>?_,fun c a h=>?_,?_⟩
   ·rcases mC.1 a with rfl|a
    ·exact .inr ⟨Wm,d⟩
    exact k c a
   ·rcases mC.1 a with rfl|a
    ·exact m
    exact fun d=>j c a h (by simp[d])
   unfold Z5;rw[Yu (Si f)]
   refine Oa.2 ⟨fun h=>?_,e⟩
   obtain⟨d,_⟩:=Xx.1 h;exact j b d f Sm
  rintro⟨k,j,e⟩;unfold Z5 at e;rw[Yu (Si f)]at e
  obtain⟨m,n⟩:=Oa.1 e;refine⟨fun c a=>k c (by simp[a]),fun c a h d=>?_,n⟩
  rcases mC.1 d with rfl|d
  ·exact m (Xx.2 ⟨a,Si f⟩)
  exact j c (by simp[a]) h d
def zqI(cnt:Int)(f:Fl):Prop:=(0<=f.size/\f.size<=96)/\(f.bl.length:Int)=zbQ f.size/\∀b∈f.bl,b=-1\/(0<=b/\b<cnt)
def QZ(fs:List Fl):List Int:=fs.flatMap fun f=>f.bl
theorem zoC(a:Int)(g)(f:Fl):flW a g f=0↔zqI a f/\(∀b∈f.bl,b≠-1->b∉g)/\(Z5 f.bl).Nodup:=by grind[flW,zqI,zfD]
theorem zgN(a:Int):∀(fs:List Fl)(g:List Int),zgO a g fs=0↔(∀f∈fs,zqI a f)/\(∀b∈QZ fs,b≠-1->b∉g)/\(Z5 (QZ fs)).Nodup
 |[],g=>by simp[zgO,QZ,Z5]
 |f::l,g=>by
  unfold zgO;have i:(flW a g f=0/\zgO a (blG g f.bl) l=0)↔(∀d∈f::l,zqI a d)/\(∀b∈QZ (f::l),b≠-1->b∉g)/\(Z5 (QZ (f::l))).Nodup:=by
   rw[zoC,zgN a l];unfold QZ Z5;rw[Yc,Of,List.nodup_append];constructor
   ·rintro⟨⟨j,k,p⟩,q,m,h⟩;refine⟨fun d e=>?_,fun b c a=>?_,p,h,fun n t b c=>?_⟩
    ·rcases mC.1 e with rfl|e
     ·exact j
     exact q d e
    ·rcases Yt.1 c with c|c
     ·exact k b c a
     exact fun h=>m b c a ((ze4 b a _ _).2 (.inl h))
    rintro rfl;obtain⟨r,s⟩:=Xx.1 t;obtain⟨a,_⟩:=Xx.1 c;have t:n≠-1:=Si s
    exact m n a t ((ze4 n t _ _).2 (.inr r))
   rintro⟨j,k,p,q,m⟩;refine⟨⟨j f Sm,fun b c=>k b (Yt.2 (.inl c)),p⟩,fun d e=>j d (by simp[e]),fun b c a h=>?_,q⟩
   rcases(ze4 b a _ _).1 h with h|h
   ·exact k b (Yt.2 (.inr c)) a h
   exact m b (Xx.2 ⟨h,Si a⟩) b (Xx.2 ⟨c,Si a⟩) rfl
  split
  ·rename_i h
   rw[<-i];exact⟨fun a=>⟨h,a⟩,fun a=>a.2⟩
  rename_i h
  rw[<-i];exact⟨fun a=>absurd a h,fun a=>absurd a.1 h⟩
theorem qi(fs:List Fl)(a:Int):stW fs a=0↔(fs.length<=5/\0<=a/\a<=80)/\(∀f∈fs,zqI a f)/\(Z5 (QZ fs)).Nodup:=by
 grind[stW,zgN]
theorem zeL(fs)(b:Int):z4 fs b=Xc↔b∈QZ fs:=by
 simp[z4,QZ]
structure En where
 kind:Int
 n:Int
 wr:Bool
def en0:En:=⟨0,0,Xd⟩
def enS(e:En):Bool:=e.kind !=0
def enW(e:En):Int:=
 if 0<=e.kind/\e.kind<=2 then
  (if 0<=e.n/\e.n<=59/\(e.kind=1->e.n<=39)then
   (if(e.kind=0/\(e.n≠0\/e.wr=Xc))\/(e.kind=2/\e.wr=Xc)then 7 else 0)
  else 3)
 else 1
def esW:List En->Int
 |[]=>0
 |e::l=>if enW e=0 then esW l else enW e
def zfF(l:List En):Bool:=l.any enS
def haW(h:List En):Int:=if h.length=0 then 0 else if h.length=8 then(if esW h=0 then(if zfF h=Xc then 0 else 2)else esW h)else 2
def tbW:List (List En)->Int
 |[]=>0
 |h::t=>if haW h=0 then tbW t else haW h
def zcv(t:List (List En))(i k:Nat):En:=((t[i]?.getD [])[k]?).getD en0
def zdT(t:List (List En))(n:Int):En:=if 0<=n/\n<64 then zcv t (n.toNat/8) (n.toNat%8)else en0
def mk(l:List En):List En:=if zfF l=Xc then l else[]
def za9(h:List En):List En:=if h.length=0 then Xr 8 en0 else h
def zf6(t:List (List En))(n:Nat)(e:En):List (List En):=t.set (n/8) (mk ((za9 (t[n/8]?.getD [])).set (n%8) e))
def zlg(t:List (List En))(n:Int)(e:En):Int:=if tbW t=0 then(if 0<=n/\n<64 then enW e else 3)else tbW t
def Zq:List (List En):=Xr 8 []
def ziX(t:List (List En))(n:Int)(e:En):List (List En):=if zlg t n e=0 then zf6 t n.toNat e else Zq
def zcn(l:List En)(i:Nat):List En:=(Xu 8).map fun k=>l[8*i+k]?.getD en0
def Qg(l:List En):List (List En):=(Xu 8).map fun i=>mk (zcn l i)
def qS(t:List (List En))(f:En->Bool)(m:Nat):List Int:=((Xu m).filter fun n=>enS (zcv t (n/8) (n%8))&&f (zcv t (n/8) (n%8))).map fun(n:Nat)=>(n:Int)
theorem Zl{e:En}(h:enW e=0):(0<=e.kind/\e.kind<=2)/\(0<=e.n/\e.n<=59/\(e.kind=1->e.n<=39))/\¬((e.kind=0/\(e.n≠0\/e.wr=Xc))\/(e.kind=2/\e.wr=Xc)):=by grind[enW]
theorem zb4{e:En}(a:0<=e.kind/\e.kind<=2)(b:0<=e.n/\e.n<=59/\(e.kind=1->e.n<=39))(c:¬((e.kind=0/\(e.n≠0\/e.wr=Xc))\/(e.kind=2/\e.wr=Xc))):enW e=0:=by
 grind[enW]
theorem QB:enW en0=0:=by decide
theorem zmU{e:En}(h:enW e=0)(b:enS e=Xd):e=en0:=by
 obtain⟨a,a,a⟩:=Zl h;obtain⟨k,n,w⟩:=e
 simp[enS]at b
 subst b
 simp at a
 obtain⟨rfl,b⟩:=a;cases w
 ·rfl
 simp at b
theorem zju{l:List En}:esW l=0↔∀e∈l,enW e=0:=by
 induction l with
 |nil=>simp[esW]
 |cons e l a=>
  unfold esW
  by_cases h:enW e=0
  ·rw[kE h,a]
   simp[h]
  rw[kF h]
  simp[h]
def ziS(h:List En):Prop:=h=[]\/(h.length=8/\(∀e∈h,enW e=0)/\zfF h=Xc)
theorem zjn{h:List En}:haW h=0↔ziS h:=by
 unfold haW ziS
 by_cases a:h.length=0
 ·grind
 have b:h≠[]:=fun e=>a (Rr e)
 rw[kF a]
 by_cases a:h.length=8
 ·rw[kE a]
  by_cases a:esW h=0
  ·rw[kE a];have c:=zju.1 a
   grind
  rw[kF a];simp only[a,b,false_or,false_iff];exact fun h=>a (zju.2 h.2.1)
 grind
theorem Z7{t:List (List En)}:tbW t=0↔∀h∈t,ziS h:=by
 induction t with
 |nil=>simp[tbW]
 |cons h t b=>
  unfold tbW
  by_cases a:haW h=0
  ·rw[kE a,b]
   simp[zjn.1 a]
  rw[kF a];simp only[a,mC,forall_eq_or_imp,false_iff];exact fun b=>a (zjn.2 b.1)
structure Qc(t:List (List En)):Prop where
 len:t.length=8
 ok:∀h∈t,ziS h
theorem Qc.half{t:List (List En)}(h:Qc t)(i:Nat):ziS (t[i]?.getD []):=by
 cases a:t[i]? with
 |none=>exact .inl rfl
 |some x=>exact h.ok x (mG a)
theorem ziS.get{h:List En}(a:ziS h)(k:Nat):enW (h[k]?.getD en0)=0:=by
 rcases a with rfl|⟨_,a,_⟩
 ·exact QB
 grind[QB,mG]
theorem Qc.get{t:List (List En)}(h:Qc t)(i k:Nat):enW (zcv t i k)=0:=(h.half i).get k
theorem zfl{h:List En}(a:ziS h):(za9 h).length=8:=by
 unfold za9
 rcases a with rfl|⟨a,_⟩
 ·rfl
 rw[kF Wm]
 exact a
theorem zqc(h:List En)(a:ziS h){k:Nat}(b:k<8):(za9 h)[k]?=Xa (h[k]?.getD en0):=by
 unfold za9
 rcases a with rfl|⟨a,_⟩
 ·grind
 grind
theorem zow(h:List En)(k:Nat):(za9 h)[k]?.getD en0=h[k]?.getD en0:=by
 unfold za9
 by_cases a:h.length=0
 ·grind
 grind
theorem zpc(l:List En)(b:∀e∈l,enW e=0)(k:Nat):(mk l)[k]?.getD en0=l[k]?.getD en0:=by
 unfold mk
 by_cases h:zfF l=Xc
 ·grind
 rw[kF h]
 cases c:l[k]? with
 |none=>simp
 |some x=>
  have a:=mG c;have:enS x=Xd:=by
   cases c:enS x with
   |false=>rfl
   |true=>exact absurd (Yb.2 ⟨x,a,c⟩) h
  simp[zmU (b x a) this]
theorem zqT{l:List En}(a:l.length=8)(b:∀e∈l,enW e=0):ziS (mk l):=by
 unfold mk
 by_cases h:zfF l=Xc
 ·rw[kE h];exact .inr ⟨a,b,h⟩
 rw[kF h];exact .inl rfl
theorem zpQ{h:List En}(a:ziS h):mk (za9 h)=h:=by
 unfold mk za9
 rcases a with rfl|⟨a,_,a⟩
 ·rfl
 rw[kF (show¬h.length=0 by omega),kE a]
theorem zeo{h:List En}(b:ziS h):∀e∈za9 h,enW e=0:=fun e a=>by
 unfold za9 at a
 rcases b with rfl|⟨a,a,_⟩
 ·grind[QB]
 grind
theorem zf5{l:List En}{k:Nat}{e:En}(b:∀x∈l,enW x=0)(a:enW e=0):∀x∈l.set k e,enW x=0:=fun x a=>by grind
theorem zpG{t:List (List En)}(h:Qc t){n:Nat}{e:En}(a:enW e=0):Qc (zf6 t n e):=by
 refine⟨by simp[zf6,h.len],fun x a=>?_⟩
 rcases Yh a with a|a
 ·exact h.ok x a
 rw[a];have a:=h.half (n/8)
 grind[zqT,Yp,zfl,zf5,zeo]
theorem zov{t:List (List En)}(h:Qc t){n:Nat}(b:n<64){e:En}(a:enW e=0)(i k:Nat)(d:k<8):zcv (zf6 t n e) i k=if i=n/8/\k=n%8 then e else zcv t i k:=by
 unfold zcv zf6;have b:=h.half (n/8)
 by_cases c:i=n/8
 ·subst c;rw[sF (by rw[h.len];omega)]
  simp only[Option.getD_some];rw[zpc _ (zf5 (zeo b) a)]
  by_cases a:k=n%8
  ·subst a;rw[sF (by rw[zfl b];exact d)]
   simp
  grind[sN,zow]
 grind
theorem zk5{l:List En}{h:List En}(b:ziS h){i:Nat}(c:∀k,k<8->l[8*i+k]?=Xa (h[k]?.getD en0)):zcn l i=za9 h:=by
 apply Yf
 intro k
 by_cases a:k<8
 ·unfold zcn;rw[Xz,Xw a,zqc h b a]
  simp[c k a]
 grind[gN,zcn,zfl]
theorem zjZ{l:List En}{t:List (List En)}(h:Qc t)(a:∀j,j<64->l[j]?=Xa (zcv t (j/8) (j%8))):Qg l=t:=by
 apply Yf
 intro i
 by_cases a:i<8
 ·unfold Qg;rw[Xz,Xw a];obtain⟨x,b⟩:∃x,t[i]?=Xa x:=⟨_,gE (by rw[h.len];omega)⟩
  have a:=h.half i;rw[b]at a⊢;simp only[Option.getD_some]at a;have:zcn l i=za9 x:=zk5 a (fun k b=>by grind[zcv])
  simp[this,zpQ a]
 rw[gN (by simp[Qg];omega),gN (by rw[h.len];omega)]
theorem Ji(t:List (List En))(f:En->Bool)(m:Nat):qS t f (m+1)=if enS (zcv t (m/8) (m%8))&&f (zcv t (m/8) (m%8))then qS t f m++[(m:Int)]else qS t f m:=by
 unfold qS;rw[List.range_succ,Of,List.map_append]
 split
 ·grind
 grind
theorem zap(t:List (List En))(f:En->Bool):∀m,(qS t f m).length<=m
 |0=>by simp[qS]
 |m+1=>by
  rw[Ji];have:=zap t f m
  split
  ·simp;omega
  omega
structure Ar where
 fr:Int
 tz:Int
 rd:Bool
 wr:Bool
 sh:Bool
 file:Int
 base:Int
structure On where
 is:Bool
 rd:Bool
 wr:Bool
 sh:Bool
 file:Int
 aI:Int
def on0:On:=⟨Xd,Xd,Xd,Xd,0,0⟩
def ar0:Ar:=⟨0,0,Xd,Xd,Xd,0,0⟩
def jK(a:Ar):Prop:=0<=a.fr/\a.fr<a.tz/\a.tz<=64/\-1<=a.file/\a.file<5/\0<=a.base/\(a.file<0->a.base=0/\a.sh=Xd)/\(0<=a.file->a.base<=12-(a.tz-a.fr))
def arW(a:Ar):Int:=
 if a.fr<0\/a.tz<=a.fr\/64<a.tz\/a.file< -1\/5<=a.file\/a.base<0 then 3
 else if a.file<0 then(if a.base≠0\/a.sh=Xc then 7 else 0)
 else if 12-(a.tz-a.fr)<a.base then 7 else 0
theorem zbm{a:Ar}:arW a=0↔jK a:=by grind[arW,jK]
def goB(a b:Ar):Bool:=decide (a.fr=b.tz)&&(a.rd==b.rd)&&(a.wr==b.wr)&&(a.sh==b.sh)&&decide (a.file=b.file)&&decide (a.base=if 0<=b.file then b.base+(b.tz-b.fr)else b.base)
theorem zmB{a b:Ar}:goB a b=Xc↔a.fr=b.tz/\a.rd=b.rd/\a.wr=b.wr/\a.sh=b.sh/\a.file=b.file/\a.base=if 0<=b.file then b.base+(b.tz-b.fr)else b.base:=by
 grind[goB]
def zqz(b a:Ar):Prop:=b.tz<=a.fr/\goB a b=Xd
def Qd:Option Ar->List Ar->Prop
 |_,[]=>True
 |p,a::l=>jK a/\(∀b,p=Xa b->zqz b a)/\Qd (Xa a) l
def Jc(a:Ar)(n:Nat):Bool:=decide (a.fr<=(n:Int))&&decide ((n:Int)<a.tz)
theorem jg{a:Ar}{n:Nat}:Jc a n=Xc↔a.fr<=(n:Int)/\(n:Int)<a.tz:=by simp[Jc]
theorem zdw{a:Ar}{n:Nat}(h:¬(a.fr<=(n:Int)/\(n:Int)<a.tz)):Jc a n=Xd:=by
 cases b:Jc a n with
 |false=>rfl
 |true=>exact absurd (jg.1 b) h
def qg(a:Ar)(n:Nat):On:=⟨Xc,a.rd,a.wr,a.sh,a.file,if 0<=a.file then a.base+((n:Int)-a.fr)else 0⟩
def zN:List Ar->Nat->On
 |[],_=>on0
 |a::l,n=>if Jc a n=Xc then qg a n else zN l n
def Q8(n:Nat)(x:On):Ar:=if x.is=Xc then⟨n,n+1,x.rd,x.wr,x.sh,x.file,x.aI⟩else ar0
theorem Qd.low:∀{l:List Ar}{p:Option Ar}{a:Ar}{n:Nat},Qd p l->p=Xa a->(n:Int)<a.tz->zN l n=on0
 |[],_,_,_,_,_,_=>rfl
 |b::l,p,a,n,h,hp,c=>by
  have c:=h.2.1 a hp;have d:=h.1;unfold zqz at c;unfold jK at d;unfold zN;rw[kF (by rw[jg];omega)]
  exact h.2.2.low rfl Wm
theorem Qd.head{l:List Ar}{p:Option Ar}{a:Ar}{n:Nat}(h:Qd p (a::l))(b:(n:Int)<a.fr):zN (a::l) n=on0:=by
 have b:=h.1;unfold jK at b;unfold zN;rw[kF (by rw[jg];omega)]
 exact h.2.2.low rfl Wm
theorem QR{a:Ar}{l:List Ar}{n:Nat}(h:a.fr<=(n:Int))(b:(n:Int)<a.tz):zN (a::l) n=qg a n:=by
 unfold zN;rw[kE (by rw[jg];omega)]
theorem zct{a:Ar}{l:List Ar}{n:Nat}(h:(n:Int)<a.fr\/a.tz<=(n:Int)):zN (a::l) n=zN l n:=by
 rw[zN,kF (by rw[jg];omega)]
theorem zja(a)(n:Nat):(qg a n).is=Xc:=rfl
theorem zgm{a:Ar}{n:Nat}(h:qg a n=on0):False:=by
 have:=congrArg On.is h
 simp[on0,qg]at this
theorem Qd.next{l:List Ar}{a b:Ar}{n:Nat}(h:Qd (Xa a) l)(e:(n:Int)=a.tz)(d:zN l n=qg b n):∃c m,l=c::m/\c.fr=(n:Int)/\qg c n=qg b n/\zqz a c:=by
 cases l with
 |nil=>exact(zgm d.symm).elim
 |cons c m=>
  have e:=h.2.1 a rfl;have e:=h.1;unfold jK at e
  by_cases e:(n:Int)<c.fr
  ·rw[h.head e]at d;exact(zgm d.symm).elim
  grind[zqz,QR]
theorem zjb{a b:Ar}{n:Nat}(h:qg a n=qg b n):a.rd=b.rd/\a.wr=b.wr/\a.sh=b.sh/\a.file=b.file/\(0<=a.file->a.base+((n:Int)-a.fr)=b.base+((n:Int)-b.fr)):=by grind[qg]
theorem zph{p:Option Ar}{l m:List Ar}{a b:Ar}(c:Qd p (a::l))(f:Qd p (b::m))(g:∀n:Nat,n<64->zN (a::l) n=zN (b::m) n)(e:a.fr=b.fr)(d:a.rd=b.rd/\a.wr=b.wr/\a.sh=b.sh/\a.file=b.file/\a.base=b.base):¬a.tz<b.tz:=by
 intro d;have d:=c.1;have e:=f.1;unfold jK at d e;obtain⟨n,h⟩:∃n:Nat,(n:Int)=a.tz:=⟨a.tz.toNat,Wm⟩
 have d:=g n Wm
 rw[zct Wm,QR (a:=b) Wm Wm]at d
 obtain⟨e,k,rfl,f,f,g⟩:=c.2.2.next h d;obtain⟨d,d,d,d,d⟩:=zjb f;have d:=c.2.2.1;unfold jK at d;have:goB e a=Xc:=by grind[zmB]
 rw[g.2]at this;cases this
theorem zne:∀{l m:List Ar}{p:Option Ar},Qd p l->Qd p m->(∀n:Nat,n<64->zN l n=zN m n)->l=m
 |[],[],_,_,_,_=>rfl
 |[],b::m,_,_,f,d=>by
  have g:=f.1;unfold jK at g;have:=d b.fr.toNat Wm
  rw[QR (a:=b) Wm Wm]at this
  exact(zgm this.symm).elim
 |c::l,[],_,e,_,d=>by
  have g:=e.1;unfold jK at g;have:=d c.fr.toNat Wm
  rw[QR (a:=c) Wm Wm]at this
  exact(zgm this).elim
 |c::l,b::m,p,e,f,d=>by
  have y:=e.1;have g:=f.1;unfold jK at y g;have s:c.fr=b.fr:=by
   rcases Int.lt_trichotomy c.fr b.fr with h|h|h
   ·have:=d c.fr.toNat Wm
    rw[QR (a:=c) Wm Wm,f.head Wm]at this
    exact(zgm this).elim
   ·exact h
   have:=d b.fr.toNat Wm
   rw[QR (a:=b) Wm Wm,e.head Wm]at this
   exact(zgm this.symm).elim
  have v:=d c.fr.toNat Wm
  rw[QR (a:=c) Wm Wm,QR (a:=b) Wm Wm]at v
  obtain⟨i,j,k,q,x⟩:=zjb v;have r:c.base=b.base:=by
   rcases Int.lt_or_le c.file 0 with h|h
   ·omega
   have:=x h;omega
  have w:c.tz=b.tz:=by
   have z:=zph e f d s ⟨i,j,k,q,r⟩;have A:=zph f e (fun n u=>(d n u).symm) s.symm ⟨i.symm,j.symm,k.symm,q.symm,r.symm⟩
   omega
  have t:c=b:=by
   obtain⟨_,_,_,_,_,_,_⟩:=c;obtain⟨_,_,_,_,_,_,_⟩:=b;simp only at s w i j k q r;subst s w i j k q r;rfl
  subst t;have:l=m:=zne e.2.2 f.2.2 fun n u=>by
   by_cases h:(n:Int)<c.tz
   ·rw[e.2.2.low rfl h,f.2.2.low rfl h]
   have:=d n u;rw[zct Wm,zct Wm]at this
   exact this
  rw[this]
def zax(p:Option Ar)(l:List Ar):Option Ar:=match l.getLast? with|some b=>Xa b|none=>p
theorem zbJ(p:Option Ar)(a l):zax p (a::l)=zax (Xa a) l:=by
 unfold zax
 cases l with
 |nil=>simp
 |cons b m=>simp[Ui]
theorem Jy{x:Ar}:∀{l:List Ar}{p:Option Ar},Qd p (l++[x])↔Qd p l/\jK x/\∀b,zax p l=Xa b->zqz b x
 |[],p=>by simp[Qd,zax]
 |a::l,p=>by
  simp only[Ys,Qd,zbJ,Jy (l:=l) (p:=some a),and_assoc]
theorem Jl{x:Ar}{n:Nat}:∀{l:List Ar},zN l n=on0\/Jc x n=Xd->zN (l++[x]) n=if Jc x n=Xc then qg x n else zN l n
 |[],_=>by simp[zN]
 |a::l,h=>by
  simp only[Ys,zN]
  by_cases b:Jc a n=Xc
  ·rcases h with h|h
   ·rw[zN,kE b]at h;exact(zgm h).elim
   simp[b,h]
  rw[kF b,kF b];exact Jl (h.imp (fun h=>by rwa[zN,kF b]at h) id)
theorem zaU{n:Nat}:∀{l:List Ar},(∀a∈l,Jc a n=Xd)->zN l n=on0
 |[],_=>rfl
 |a::l,h=>by
  rw[zN,kF (by rw[h a Sm];simp)]
  exact zaU fun b c=>h b (by simp[c])
theorem zcX{n:Nat}:∀{l:List Ar},(zN l n).is=Xc->∃(i:Nat)(a:Ar),l[i]?=Xa a/\Jc a n=Xc/\zN l n=qg a n
 |[],h=>by cases h
 |a::l,h=>by
  by_cases c:Jc a n=Xc
  ·exact⟨0,a,rfl,c,by rw[zN,kE c]⟩
  rw[zN,kF c]at h;obtain⟨i,b,d,e,f⟩:=zcX h;exact⟨i+1,b,d,e,by rw[zN,kF c,f]⟩
theorem zma{n:Nat}:∀{l:List Ar},(zN l n).is=Xd->zN l n=on0
 |[],_=>rfl
 |a::l,h=>by
  by_cases b:Jc a n=Xc
  ·rw[zN,kE b]at h;cases h
  rw[zN,kF b]at h⊢;exact zma h
theorem Qd.all{l:List Ar}:∀{p:Option Ar},Qd p l->∀a∈l,jK a:=by
 induction l with
 |nil=>intro p _ a b;cases b
 |cons b l c=>
  intro p h x b
  rcases mC.1 b with e|b
  ·rw[e];exact h.1
  exact c h.2.2 _ b
def znK(f:Nat->On):Prop:=∀k:Nat,k<64->((f k).is=Xd->f k=on0)/\((f k).is=Xc->jK (Q8 k (f k)))
theorem zi9{a:Ar}{n:Nat}(h:jK a)(b:Jc a n=Xc):jK (Q8 n (qg a n)):=by
 have:=jg.1 b
 grind[jK,Q8,zja,qg]
theorem Qd.good{l:List Ar}{p:Option Ar}(h:Qd p l):znK (zN l):=fun k _=>⟨zma,fun b=>by
 obtain⟨i,a,c,d,e⟩:=zcX b;rw[e];exact zi9 (h.all a (mG c)) d⟩
def J(f:Nat->On)(n:Nat)(acc:List Ar):Prop:=Qd Xb acc/\(∀a∈acc,a.tz<=(n:Int))/\∀k:Nat,zN acc k=if k<n then f k else on0
theorem J.zero(f:Nat->On):J f 0 []:=⟨trivial,Sm,fun k=>by simp[zN]⟩
theorem J.skip{f:Nat->On}{n:Nat}{a:List Ar}(h:J f n a)(b:f n=on0):J f (n+1) a:=by
 refine⟨h.1,fun a b=>Hm (h.2.1 a b),fun k=>?_⟩
 rw[h.2.2 k]
 grind
theorem zo4(n:Nat)(x:On)(h:x.is=Xc)(hp:x.file<0->x.aI=0):qg (Q8 n x) n=x:=by
 unfold Q8;rw[kE h];unfold qg;obtain⟨_,_,_,_,_,_⟩:=x
 grind
theorem zqy{n k:Nat}{x:On}(h:x.is=Xc):Jc (Q8 n x) k=Xc↔k=n:=by
 rw[jg];unfold Q8;rw[kE h];simp only;omega
theorem J.new{f:Nat->On}{n:Nat}{a:List Ar}(h:J f n a)(d:znK f)(i:n<64)(e:(f n).is=Xc)(g:∀b,a.getLast?=Xa b->goB (Q8 n (f n)) b=Xd):J f (n+1) (a++[Q8 n (f n)]):=by
 have c:=(d n i).2 e;have d:qg (Q8 n (f n)) n=f n:=zo4 n _ e fun d=>by grind[jK,Q8]
 refine⟨Jy.2 ⟨h.1,c,fun b c=>?_⟩,fun e d=>?_,fun k=>?_⟩
 ·have c:a.getLast?=Xa b:=by grind[zax]
  refine⟨?_,g b c⟩;have:=h.2.1 b (List.mem_of_getLast? c)
  grind[Q8]
 ·rcases Yt.1 d with d|d
  ·have:=h.2.1 e d;omega
  grind[List.mem_singleton,Q8]
 have a:=h.2.2 k
 grind[Jl,zqy,Jc,Q8]
theorem J.ext{f:Nat->On}{n:Nat}{i:List Ar}{b:Ar}(a:J f n (i++[b]))(e:znK f)(g:n<64)(h:(f n).is=Xc)(d:goB (Q8 n (f n)) b=Xc):J f (n+1) (i++[{b with tz:=(n:Int)+1}]):=by
 have c:=(e n g).2 h;obtain⟨g,e,B⟩:=a;obtain⟨v,e,s⟩:=Jy.1 g;have a:=zmB.1 d;unfold Q8 at a c;rw[kE h]at a c;simp only at a;obtain⟨d,j,m,p,q,t⟩:=a;have a:=e;unfold jK at a c;simp only at c;have a:∀k:Nat,b.fr<=(k:Int)->zN i k=on0:=fun k w=>by
  refine zaU fun r u=>zdw ?_
  have:r.tz<=b.fr:=by
   have g:∀(l:List Ar)(a:Option Ar),Qd a l->∀x∈l,∀y,zax a l=Xa y->x.tz<=y.tz:=by
    intro l
    induction l with
    |nil=>intro a _ x d;cases d
    |cons A z l=>
     intro a a x d y e;rw[zbJ]at e
     rcases mC.1 d with rfl|d
     ·cases z with
      |nil=>simp[zax]at e;subst e;exact Int.le_refl _
      |cons z C=>
       have C:=l (Xa x) a.2.2 z Sm y e
       have z:=a.2.2.2.1 x rfl;have D:=a.2.2.1;unfold zqz at z;unfold jK at D;omega
     exact l (Xa A) a.2.2 x d y e
   cases a:zax Xb i with
   |none=>
    unfold zax at a
    cases i with
    |nil=>cases u
    |cons _ _=>simp[Ui]at a
   |some y=>
    have C:=g i Xb v r u y a;have z:=(s y a).1;omega
  omega
 refine⟨Jy.2 ⟨v,?_,fun y e=>?_⟩,fun r u=>?_,fun k=>?_⟩
 ·grind[jK]
 ·exact⟨(s y e).1,(s y e).2⟩
 ·grind
 have a:=B k;rw[Jl (by grind[zdw])]at a
 rw[Jl (by grind[zdw])]
 by_cases w:k=n
 ·subst w;rw[kE (by rw[jg];simp only;omega),kE Wm]
  unfold qg;simp only;have d:=c.2.2.2.2.2.2.1
  revert h j m p q t d
  generalize f k=x
  obtain⟨_,_,_,_,_,_⟩:=x;intro h j m p q t d;simp only at h j m p q t d⊢;subst h j m p;simp only[On.mk.injEq,true_and];refine⟨q.symm,?_⟩
  split
  ·grind
  grind
 grind[Jc,qg]
def ze8(f:Nat->On):Nat->List Ar
 |0=>[]
 |n+1=>
  if(f n).is=Xc then
   match(ze8 f n).getLast? with
   |some b=>if goB (Q8 n (f n)) b=Xc then(ze8 f n).dropLast++[{b with tz:=(n:Int)+1}]else ze8 f n++[Q8 n (f n)]
   |none=>ze8 f n++[Q8 n (f n)]
  else ze8 f n
theorem zpD{l:List Ar}{b:Ar}(h:l.getLast?=Xa b):l=l.dropLast++[b]:=by
 cases l with
 |nil=>cases h
 |cons a m=>
  rw[List.getLast?_eq_some_getLast (List.cons_ne_nil a m)]at h;cases h;exact(List.dropLast_concat_getLast _).symm
theorem zmr{f:Nat->On}(c:znK f):∀n:Nat,n<=64->J f n (ze8 f n)
 |0,_=>J.zero f
 |n+1,a=>by
  have d:=zmr c n Wm
  unfold ze8
  by_cases b:(f n).is=Xc
  ·rw[kE b]
   cases e:(ze8 f n).getLast? with
   |none=>exact d.new c Wm b (fun g a=>by rw[e]at a;cases a)
   |some g=>
    simp only
    by_cases a:goB (Q8 n (f n)) g=Xc
    ·rw[kE a];rw[zpD e]at d;exact d.ext c Wm b a
    rw[kF a];refine d.new c Wm b (fun g g=>?_)
    rw[e]at g;cases g
    simpa using a
  rw[kF b];exact d.skip ((c n Wm).1 (Si b))
def zbL(f:Nat->On):List Ar:=ze8 f 64
theorem zib{f:Nat->On}(a:znK f):J f 64 (zbL f):=zmr a 64 (nR _)
theorem J.all{f:Nat->On}{a:List Ar}(h:J f 64 a)(b:znK f):a=zbL f:=
 zne h.1 (zib b).1 fun n _=>by rw[h.2.2,(zib b).2.2]
theorem J.len{f:Nat->On}{n:Nat}{a:List Ar}(i:J f n a):a.length<=n:=by
 have h:∀(l:List Ar)(p:Option Ar)(c:Int),Qd p l->(∀b,p=Xa b->c<=b.tz)->(p=Xb->c<=0)->(∀d∈l,d.tz<=(n:Int))->c<=n->c+l.length<=n:=by
  intro l
  induction l with
  |nil=>intro p c _ _ _ _ k;simpa using k
  |cons d l m=>
   intro p c e l g j k;have k:=e.1;unfold jK at k;have k:c<=d.fr:=by
    cases p with
    |none=>have:=g rfl;omega
    |some b=>have:=l b rfl;have:=(e.2.1 b rfl).1;omega
   have g:=m (Xa d) (c+1) e.2.2 (fun b c=>by cases c;omega) (fun c=>by cases c) (fun x e=>j x (by simp[e])) (Hm (j d Sm))
   rw[Yg];omega
 have:=h a Xb 0 i.1 (fun b c=>by cases c) (fun _=>Wm) i.2.1 Wm
 omega
theorem zh6:∀(l:List Ar)(p:Option Ar),Qd p l->∀x∈l,∀y,zax p l=Xa y->x=y\/x.tz<=y.fr
 |[],_,_,_,a,_,_=>by cases a
 |c::m,p,f,x,a,y,b=>by
  rw[zbJ]at b
  rcases mC.1 a with e|a
  ·cases m with
   |nil=>simp[zax]at b;left;rw[e,b]
   |cons d g=>
    right;have h:=f.2.2.2.1 c rfl;have i:=f.2.2.1;unfold zqz at h;unfold jK at i;rw[e]
    rcases zh6 (d::g) (Xa c) f.2.2 d Sm y b with g|g
    ·rw[<-g];exact h.1
    omega
  exact zh6 m (Xa c) f.2.2 x a y b
def zcF:Option Ar->List Ar->Nat->Int×Int
 |_,[],_=>(0,0)
 |p,a::l,i=>
  if arW a≠0 then(arW a,i)
  else match p with
   |some b=>if a.fr<b.tz\/goB a b=Xc then(2,i)else zcF (Xa a) l (i+1)
   |none=>zcF (Xa a) l (i+1)
def wrL(l:List Ar):Int×Int:=if 16<l.length then(4,0)else zcF Xb l 0
theorem zcE:∀{l:List Ar}{p:Option Ar}{i:Nat},(zcF p l i).1=0↔Qd p l
 |[],p,i=>by simp[zcF,Qd]
 |a::l,p,i=>by
  unfold zcF Qd
  by_cases h:arW a=0
  ·rw[kF (fun c=>c h)]
   cases p with
   |none=>simp[zcE (l:=l),zbm.1 h]
   |some b=>
    simp only
    by_cases c:a.fr<b.tz\/goB a b=Xc
    ·rw[kE c];simp only[Option.some.injEq,forall_eq'];constructor
     ·intro d;exact absurd d Dc
     rintro⟨_,⟨d,e⟩,_⟩
     rcases c with c|c
     ·omega
     rw[e]at c;cases c
    rw[kF c,zcE];simp only[Option.some.injEq,forall_eq',zbm.1 h,true_and];constructor
    ·intro d;exact⟨⟨Wm,by cases e:goB a b with|false=>rfl|true=>exact absurd (.inr e) c⟩,d⟩
    exact fun d=>d.2
  rw[kE h];constructor
  ·intro c;exact absurd c h
  intro c;exact absurd (zbm.2 c.1) h
theorem JD{l:List Ar}:(wrL l).1=0↔l.length<=16/\Qd Xb l:=by grind[wrL,zcE]
def zlj(l:List Ar)(a:Ar):Nat->On:=fun k=>if Jc a k=Xc then qg a k else zN l k
def zly(s n:Int)(k:Nat):Bool:=decide (s<=(k:Int))&&decide ((k:Int)<s+n)
theorem zjV{s n:Int}{k:Nat}:zly s n k=Xc↔s<=(k:Int)/\(k:Int)<s+n:=by simp[zly]
def zip(f:Nat->On):List Ar×Int:=if 16<(zbL f).length then([],4)else(zbL f,0)
def zqE(l:List Ar)(s n:Int):Bool:=(Xu 64).any fun k=>zly s n k&&(zN l k).is
def zhq(l:List Ar)(a:Ar):List Ar×Int:=if(wrL l).1≠0 then([],(wrL l).1)else if arW a≠0 then([],arW a)else if zqE l a.fr (a.tz-a.fr)=Xc then([],6)else zip (zlj l a)
theorem zp6{l:List Ar}{s n:Int}:zqE l s n=Xd↔∀k:Nat,k<64->(s<=(k:Int)/\(k:Int)<s+n)->(zN l k).is=Xd:=by
 simp only[zqE,Yq,Xs,Xy,zjV,not_and,Bool.not_eq_true]
theorem zml{l:List Ar}{a:Ar}(e:Qd Xb l)(c:jK a):znK (zlj l a):=fun k d=>by
 unfold zlj
 by_cases h:Jc a k=Xc
 ·rw[kE h];exact⟨fun b=>(by cases b),fun _=>zi9 c h⟩
 rw[kF h];exact e.good k d
structure Sp where
 aH:Bool
 aE:List Ar
 tb:List (List En)
structure Ca where
 file:Int
 idx:Int
 fr:Int
structure Ma where
 fs:List Fr
 aB:Int
 sl:List Int
 sb:List (List Int)
 sq:List (Int×List Int)
 db:List (List Int)
 dq:List (Int×List Int)
 fl:List Fl
 cnt:Int
 ca:List Ca
 sp:List Sp
def zC:List Int->Int
 |[]=>0
 |e::l=>if e=0 then zC l else e
theorem zp:∀{l:List Int},zC l=0↔∀e∈l,e=0
 |[]=>by simp[zC]
 |e::l=>by
  unfold zC
  by_cases h:e=0
  ·rw[kE h,zp]
   simp[h]
  rw[kF h]
  simp[h]
def zbj(m:Ma):Int:=if(Xu m.db.length).any (fun(b:Nat)=>!z4 m.fl (b:Int)&&!(m.db.getD b []==zS))=Xc then 7 else 0
def zaR(m:Ma):Int:=if m.dq.any (fun q=>!z4 m.fl q.1)=Xc then 7 else 0
def spE(s:Sp):Int:=if(wrL s.aE).1≠0 then(wrL s.aE).1 else if tbW s.tb≠0 then tbW s.tb else if(!s.aH&&(!s.aE.isEmpty||!s.tb.all (·.isEmpty)))=Xc then 7 else 0
def zoE(m:Ma):Int:=if m.sl.length≠m.sb.length\/m.cnt≠(m.db.length:Int)then 7 else 0
def zao(m:Ma):Int:=zC [j4 m.fs m.aB,slW m.sl,zD m.sb.length m.sq,zD m.db.length m.dq,stW m.fl m.cnt,zoE m,zbj m,zaR m,if 4<m.sp.length then 4 else 0,zC (m.sp.map spE)]
def bkN(m:Ma)(file:Int):Int:=((m.fl.getD file.toNat ⟨0,[]⟩).bl.length:Nat)
def z3(m:Ma)(k:Int):Fr:=m.fs.getD k.toNat frF
def qp(c:Ca):Int:=100*c.file+c.idx
def caE(m:Ma)(p:Option Ca)(c:Ca):Int:=
 if c.file<0\/(m.fl.length:Int)<=c.file\/c.idx<0\/bkN m c.file<=c.idx\/c.fr<0\/(m.fs.length:Int)<=c.fr then 3
 else if(z3 m c.fr).r=0\/(z3 m c.fr).f≠c.file\/(z3 m c.fr).x≠c.idx then 7
 else match p with|some q=>(if qp c<=qp q then 2 else 0)|none=>0
def zbU(m:Ma):Option Ca->List Ca->Int
 |_,[]=>0
 |p,c::l=>if caE m p c=0 then zbU m (Xa c) l else caE m p c
def zgS(m:Ma)(x:On)(e:En):Int:=
 if x.is=Xd then 5
 else if e.kind=2 then(if(m.sl.length:Int)<=e.n\/x.sh=Xc then 7 else 0)
 else if(m.fs.length:Int)<=e.n then 3
 else if(¬(z3 m e.n).f=-1/\¬(0<=x.file/\(z3 m e.n).f=x.file/\(z3 m e.n).x=x.aI))\/(x.sh=Xc/\¬(0<=x.file/\(z3 m e.n).f=x.file/\(z3 m e.n).x=x.aI))\/(e.wr=Xc/\x.wr=Xd)\/(e.wr=Xc/\(0<=x.file/\(z3 m e.n).f=x.file/\(z3 m e.n).x=x.aI)/\x.sh=Xd)\/(e.wr=Xc/\(z3 m e.n).f=-1/\1<(z3 m e.n).r)then 7 else 0
def zl(s:Sp)(n:Nat):En:=zcv s.tb (n/8) (n%8)
def zdO(m:Ma)(s:Sp):Int:=zC ((Xu 64).map fun n=>if(zl s n).kind=0 then 0 else zgS m (zN s.aE n) (zl s n))
def isE(e:En)(kind k:Int):Bool:=decide (e.kind=kind)&&decide (e.n=k)
def ZH(f:Nat->En)(kind k:Int):Nat->Nat
 |0=>0
 |n+1=>ZH f kind k n+(isE (f n) kind k).toNat
def qV(T:List (Nat->En))(kind k:Int):Nat:=(T.map fun f=>ZH f kind k 64).sum
def zc8(m:Ma)(kind k:Int):Nat:=qV (m.sp.map zl) kind k
def zY(ca:List Ca)(k:Int):Nat:=ca.countP fun c=>decide (c.fr=k)
def frE(m:Ma)(k:Nat):Int:=if(z3 m k).r≠((zc8 m 1 k+zY m.ca k:Nat):Int)\/(0<=(z3 m k).f/\zY m.ca k=0)then 7 else 0
def znE(m:Ma)(k:Nat):Int:=if m.sl.getD k 0≠(zc8 m 2 k:Int)then 7 else 0
def maW(m:Ma):Int:=zC [zao m,zbU m Xb m.ca,zC (m.sp.map (zdO m)),zC ((Xu m.fs.length).map (frE m)),zC ((Xu m.sl.length).map (znE m))]
def zcf(f:Nat->En)(n:Nat)(e:En):Nat->En:=fun j=>if j=n then e else f j
theorem znb(f:Nat->En){n:Nat}(e)(kind k:Int):∀m:Nat,ZH (zcf f n e) kind k m+(if n<m then(isE (f n) kind k).toNat else 0)=ZH f kind k m+(if n<m then(isE e kind k).toNat else 0)
 |0=>by simp[ZH]
 |m+1=>by
  have b:=znb f e kind k (n:=n) m;unfold ZH
  by_cases h:n=m
  ·subst h;rw[kF (Nat.lt_irrefl _),kF (Nat.lt_irrefl _)]at b;rw[kE (Nat.lt_succ_self _),kE (Nat.lt_succ_self _)];have:zcf f n e n=e:=by unfold zcf;rw[kE rfl]
   rw[this];omega
  have:zcf f n e m=f m:=by unfold zcf;rw[kF (fun a=>h a.symm)]
  rw[this]
  by_cases a:n<m
  ·rw[kE a,kE a]at b;rw[kE Wm,kE Wm]
   omega
  rw[kF a,kF a]at b;rw[kF Wm,kF Wm]
  omega
theorem za6:∀{T:List (Nat->En)}{p:Nat}{f:Nat->En}{n:Nat}(e:En)(kind k:Int),T[p]?=Xa f->n<64->qV (T.set p (zcf f n e)) kind k+(isE (f n) kind k).toNat=qV T kind k+(isE e kind k).toNat
 |[],p,f,n,e,kind,k,h,_=>by simp at h
 |g::T,0,f,n,e,kind,k,h,a=>by
  simp at h
  subst h;have:=znb g e kind k (n:=n) 64;rw[kE a,kE a]at this;simp only[sZ,qV,mP,Oj];omega
 |g::T,p+1,f,n,e,kind,k,h,a=>by
  have b:=za6 (T:=T) (p:=p) (f:=f) (n:=n) e kind k (Si h) a
  simp only[sS,qV,mP,Oj]at b⊢;omega
theorem zpk(f:Nat->En)(kind k:Int):∀m:Nat,ZH f kind k m<=m
 |0=>nR _
 |m+1=>by
  have:=zpk f kind k m;unfold ZH
  cases isE (f m) kind k<;>simp<;>omega
theorem zda:∀(T:List (Nat->En))(kind k:Int),qV T kind k<=64*T.length
 |[],_,_=>by simp[qV]
 |f::T,kind,k=>by
  have a:=zpk f kind k 64;have a:=zda T kind k;simp only[qV,mP,Oj,Yg]at a⊢;omega
theorem ZM(kind k:Int)(h:kind≠0):isE en0 kind k=Xd:=by
 have:¬en0.kind=kind:=fun e=>h e.symm
 simp[isE,this]
theorem JL{T:List (Nat->En)}{p:Nat}{f:Nat->En}{n:Nat}{kind k:Int}(a:T[p]?=Xa f)(b:n<64)(h:isE (f n) kind k=Xc)(c:kind≠0):1<=qV T kind k:=by
 have:=za6 en0 kind k a b
 grind[ZM]
theorem zjk{T:List (Nat->En)}{p q:Nat}{f g:Nat->En}{n:Nat}{kind k:Int}(b:T[p]?=Xa f)(e:n<64)(h:isE (f n) kind k=Xc)(l:T[q]?=Xa g)(i:j<64)(d:isE (g j) kind k=Xc)(a:p≠q\/n≠j)(c:kind≠0):2<=qV T kind k:=by
 have a:=za6 en0 kind k b e;rw[h,ZM kind k c]at a
 simp at a
 have a:=(gS.1 b).1
 by_cases e:q=p
 ·grind[qV,zcf,en0,JL,sF]
 have a:1<=qV (T.set p (zcf f n en0)) kind k:=JL (p:=q) (f:=g) (n:=j) (by rw[sN (fun h=>e h.symm)];exact l) i d c
 omega
theorem zgH(T:List (Nat->En))(kind k:Int)(a:kind≠0):qV (T++[fun _=>en0]) kind k=qV T kind k:=by
 have:∀m,ZH (fun _=>en0) kind k m=0:=by
  intro m
  induction m with
  |zero=>rfl
  |succ m b=>
   unfold ZH;rw[b,ZM kind k a];rfl
 grind[qV]
end
section
open Go.RowKit
def zc(w w':Xn):Prop:=Below w.heap.size w w'
theorem zc.refl(w):zc w w:=bR _ _
theorem zc.trans{a b c:Xn}(h:zc a b)(k:zc b c):zc a c:=Below.trans h (k.mono h.size)
def zI(P:Program)(o:Oper)(a:Act)(w:Xn)(K:Xq->Xn->Prop):Prop:=
 match(execOp a.eval o).run P w with
 |.ok (.value v) w'=>K v w'
 |.ok .skip w'=>K undef w'
 |.ok (.enter f args) w'=>Xp P f args w' fun e w''=>∃v,e=Xl v/\K v w''
 |_=>False
theorem zI.wp{P:Program}{a:Act}{w:Xn}{K:Xq->Xn->Prop}{next:Act->Xn->Prop}
  (h:zI P o a w K)(b:∀v w',K v w'->next (a.put o.dst v) w'):o.wp P a w next Q:=by
 unfold zI at h;unfold Oper.wp
 generalize(execOp a.eval o).run P w=r at*
 cases r with
 |ok n w'=>
  cases n<;>simp only[Oper.upon]at h⊢
  case value v=>exact b _ _ h
  case skip=>exact b _ _ h
  case enter f c=>exact h.mono fun e c⟨v,c,d⟩=>by subst c;exact b _ _ d
 |halt x w'=>simp only at h
def zkS(ops:Array Oper)(i j:Nat):Bool:=((ops[j]?).map fun o=>o.after.any fun e=>Um .any e&&e.on==i).getD Xd
def anc(ops:Array Oper):Nat->Nat->Nat->Bool
 |0,_,_=>Xd
 |f+1,i,j=>zkS ops i j||(Xu j).any fun k=>zkS ops k j&&anc ops f i k
theorem zI.mono{P:Program}{a:Act}{w:Xn}{K c:Xq->Xn->Prop}(h:zI P o a w K)(b:∀v w',K v w'->c v w'):zI P o a w c:=by
 unfold zI at*
 generalize(execOp a.eval o).run P w=r at*
 cases r with
 |ok n w'=>
  cases n<;>simp only at h⊢
  case value v=>exact b _ _ h
  case skip=>exact b _ _ h
  case enter f c=>exact h.mono fun e c⟨v,c,d⟩=>⟨v,c,b _ _ d⟩
 |halt x w'=>simp only at h
def zdc(F:Nat->Xn->Prop)(k:Nat)(p:Xn->Prop):Nat->Xn->Prop:=fun i=>if i=k then p else F i
section
variable{P:Program}{ops:Array Oper}{T:Nat}
theorem ZO{F:Nat->Xn->Prop}{k m:Nat}{p:Xn->Prop}(h:m≠k):zdc F k p m=F m:=by simp[zdc,h]
theorem zmE{F:Nat->Xn->Prop}{i:Nat}{p q:Xn->Prop}(h:i≠j):zdc (zdc F i p) j q=zdc (zdc F j q) i p:=by grind[zdc]
theorem zdm{i:Nat}(a:ops[j]?=Xa o):zkS ops i j=Xc↔∃e∈o.after,Um .any e=Xc/\e.on=i:=by
 unfold zkS;rw[a,Option.map_some,Option.getD_some,Array.any_eq_true'];simp
theorem zgU{i:Nat}(h:zkS ops i j=Xc):∃a,ops[j]?=Xa a:=by
 cases b:ops[j]? with
 |none=>simp[zkS,b]at h
 |some a=>exact⟨a,rfl⟩
def zg8(ops:Array Oper)(listed:Array Bool):Prop:=∀i j,listed.getD j Xd=Xc->zkS ops i j=Xc->listed.getD i Xd=Xc
theorem QE{a:Array Bool}(b:zg8 ops a):∀(f i j:Nat),(∀k,zkS ops k j=Xc->a.getD k Xd=Xc)->anc ops f i j=Xc->a.getD i Xd=Xc
 |0,_,_,_,h=>by simp[anc]at h
 |f+1,i,j,c,h=>by
  simp only[anc,Ow,Yb,Xs,Xy]at h
  rcases h with h|⟨k,_,a,h⟩
  ·exact c i h
  exact QE b f i k (fun m d=>b m k (c k a) d) h
theorem Jt{a:Array Bool}{i:Nat}(h:a.getD i Xc=Xd):a.getD i Xd=Xd:=by
 grind
end
def QT(ops:Array Oper)(T:Nat):Bool:=
 Region.noSelect ops&&decide (T<=ops.size)&&(Xu ops.size).all fun j=>match ops[j]? with
  |none=>Xd
  |some oj=>oj.after.all (fun e=>!Um .any e||decide (e.on<j))&&
    (if j<T then(Xu j).all fun i=>zkS ops i j||(match ops[i]? with|some oi=>oi.apart ops oj|none=>Xd)else(Xu j).all fun i=>anc ops j i j)
def z5(listed:Array Bool)(T:Nat):List Nat:=(Xu T).filter fun i=>listed.getD i Xc==Xd
section
variable{P:Program}{ops:Array Oper}{T:Nat}
theorem JI(a:QT ops T=Xc)(b:ops[j]?=Xa oj):∀i,zkS ops i j=Xc->i<j:=by
 simp only[QT,Xy,Yk,Xs]at a;have h:=a.2 j (aS.1 b).1;simp only[b,Xy]at h
 grind[zdm,Array.all_eq_true_iff_forall_mem.1]
theorem zh5(b:QT ops T=Xc)(c:ops[j]?=Xa oj)(a:j<T):∀i,i<j->zkS ops i j=Xc\/∃a,ops[i]?=Xa a/\a.apart ops oj=Xc:=by
 simp only[QT,Xy,Yk,Xs]at b
 grind
theorem zej(a:QT ops T=Xc)(c:ops[j]?=Xa oj)(b:T<=j):∀i,i<j->anc ops j i j=Xc:=by
 simp only[QT,Xy,Yk,Xs]at a
 grind
theorem znn(a:QT ops T=Xc):∀(f i j:Nat),anc ops f i j=Xc->i<j
 |0,_,_,h=>by simp[anc]at h
 |f+1,i,j,h=>by
  simp only[anc,Ow,Yb,Xs,Xy]at h
  rcases h with h|⟨k,b,_,h⟩
  ·obtain⟨oj,b⟩:=zgU h;exact JI a b i h
  have:=znn a f i k h;omega
theorem zaK{a:Array Bool}(b:j<a.size):z5 (a.setIfInBounds j Xc) T=(z5 a T).filter (· !=j):=by
 unfold z5;rw[Uj];refine List.filter_congr fun i a=>?_
 by_cases h:j=i
 ·subst h
  simp[b]
 rw[getD_set_ne Xc h]
 grind
theorem zii{a:Array Bool}{i:Nat}(hi:i<a.size)(h:a.getD i Xc=Xc):a.getD i Xd=Xc:=by
 simp[hi]at h⊢;exact h
theorem zjT(z:QT ops T=Xc):∀(m:Nat)(l:List Oper)(k:Nat)(b:Array Bool)(a:Act)(w:Xn),T<=k->b.size=ops.size->k+m=ops.size->l.length=m->(∀j,l[j]?=ops[k+j]?)->
  (∀i,i<k->b.getD i Xc=Xc)->(∀i,k<=i->i<ops.size->b.getD i Xc=Xd)->wpList P ops Q l a w->wpAny P .any ops Q m b a w:=by
 intro m
 induction m with
 |zero=>
  intro l k b a w n v p x g d c h;have:l=[]:=eN x;subst this;refine⟨?_,h⟩
  cases s:Oo .any ops b with
  |nil=>rfl
  |cons f e=>
   have t:f∈Oo .any ops b:=by rw[s];simp
   obtain⟨r,e,q,_⟩:=mem_ready.1 t;have t:=(aS.1 q).1;rw[d f Wm]at r
   cases r
 |succ m F=>
  intro l k b a w n v p x g d c h;obtain⟨e,q,rfl⟩:∃e q,l=e::q:=by
   cases l with
   |nil=>simp at x
   |cons e q=>exact⟨e,q,rfl⟩
  have f:ops[k]?=Xa e:=by have:=g 0;simpa using this.symm
  have p:k∈Oo .any ops b:=by
   refine mem_ready.2 ⟨c k (nR _) Wm,e,f,fun n B A=>?_⟩
   have t:=JI z f n.on ((zdm f).2 ⟨n,B,A,rfl⟩);exact zii Wm (d n.on t)
  refine⟨fun s=>?_,fun j u=>?_⟩
  ·rw[s]at p;cases p
  obtain⟨r,e,e,s⟩:=mem_ready.1 u;have p:=(aS.1 e).1;have p:k<=j:=by
   rcases Yl j k with p|p
   ·rw[d j p]at r;cases r
   exact p
  have C:j=k:=by
   rcases Yl k j with p|p
   ·exfalso;have D:=zej z e Wm k p
    have E:zg8 ops b:=fun i p y r=>by
     obtain⟨u,u⟩:=zgU r;have t:=JI z u i r;have r:p<k:=by
      rcases Yl p k with r|r
      ·exact r
      have:=Jt (c p r (aS.1 u).1);rw[this]at y;cases y
     exact zii Wm (d i Wm)
    have:=QE E j k j (fun p y=>by
     obtain⟨n,B,A,rfl⟩:=(zdm e).1 y;exact s n B A) D
    rw[Jt (c k (nR _) Wm)]at this
    cases this
   omega
  subst C;rw[f]at e;cases e;unfold wpList at h;unfold wpOp;simp only[f];have e:∀a w,wpList P ops Q q a w->wpAny P .any ops Q m (b.setIfInBounds j Xc) a w:=fun a w f=>
   F q (j+1) _ a w Wm (by simp[v]) Wm (Si x) (fun p=>by have:=g (p+1);rw[List.getElem?_cons_succ]at this;rw[this];congr 1;omega)
    (fun i g=>by
     by_cases n:j=i
     ·subst n
      simp[show j<b.size by omega]
     rw[getD_set_ne Xc n];exact d i Wm)
    (fun i g b=>by rw[getD_set_ne Xc Wm];exact c i Wm b) f
  split
  ·rename_i b
   rw[kE b]at h
   rcases h with h|h
   ·exact .inl (Oper.wp_mono e h)
   exact .inr h
  rename_i b
  rw[kF b]at h;exact e _ _ h
structure Way{σ:Type}(P:Program)(ops:Array Oper)(C:Nat->σ->Act->(σ->Act->Prop)->Prop)(Ln:Nat->σ->Prop)(ok:Array Bool->σ->Act->Xn->Prop):Prop where
 mono:∀{i:Nat}{F:σ}{a:Act}{K K':σ->Act->Prop},(∀F' a',(∀j,anc ops 9 i j=Xd->Ln j F->Ln j F')->K F' a'->K' F' a')->C i F a K->C i F a K'
 swap:∀{i j:Nat}{oi oj:Oper}{F:σ}{a:Act}{K:σ->Act->Prop},ops[i]?=Xa oi->ops[j]?=Xa oj->i<j->oi.apart ops oj=Xc->(∀cs b,oi.op≠.select cs b)->(∀cs b,oj.op≠.select cs b)->anc ops 9 i j=Xd->anc ops 9 j i=Xd->Ln j F->C i F a (fun F' a'=>C j F' a' K)->C j F a fun F' a'=>C i F' a' K
 lean:∀{listed:Array Bool}{F:σ}{a:Act}{w:Xn}(j:Nat),ok listed F a w->Ln j F
 step:∀{listed:Array Bool}{F:σ}{a:Act}{w:Xn}{j:Nat}{oj:Oper}{K:σ->Act->Prop}{N:Act->Xn->Prop}{Q:Exit->Act->Xn->Prop},listed.size=ops.size->ops[j]?=Xa oj->listed.getD j Xc=Xd->zg8 ops listed->ok listed F a w->C j F a K->
  (∀F' a' w',ok (listed.setIfInBounds j Xc) F' a' w'->K F' a'->N a' w')->if Xv oj (yielded ops a.tmps)then oj.wp P a w N Q else N (a.put oj.dst undef) w
section
variable{σ:Type}{C:Nat->σ->Act->(σ->Act->Prop)->Prop}{Ln:Nat->σ->Prop}{ok:Array Bool->σ->Act->Xn->Prop}{E:σ->Act->Prop}
variable(C E)in
def Lex:List Nat->σ->Act->Prop
 |[],F,a=>E F a
 |i::l,F,a=>C i F a (Lex l)
theorem Lex.cA(W:Way P ops C Ln ok){j:Nat}{oj:Oper}(t:ops[j]?=Xa oj)(d:∀(k:Nat)(o:Oper)cs b,ops[k]?=Xa o->o.op≠.select cs b):
  ∀(l:List Nat)(F:σ)(a:Act),l.Nodup->j∈l->
   (∀i∈l,i≠j->∃r,ops[i]?=Xa r/\(i<j->r.apart ops oj=Xc)/\anc ops 9 i j=Xd/\(i<j->anc ops 9 j i=Xd))->
   (l.Pairwise (·<·))->Ln j F->Lex C E l F a->Lex C E (j::l.filter (· !=j)) F a
 |[],_,_,_,h,_,_,_,_=>by cases h
 |i::l,F,a,p,h,g,c,v,u=>by
  by_cases e:i=j
  ·subst e;have:(i::l).filter (· !=i)=l:=by
    rw[List.filter_cons];simp only[bne_self_eq_false,Ym,if_false];refine Ud.2 fun x m=>?_
    have:x≠i:=fun f=>(Oa.1 p).1 (f▸m)
    simpa using this
   rw[this];exact u
  have n:j∈l:=by
   rcases mC.1 h with f|f
   ·exact absurd f.symm e
   exact f
  have h:=(Ye.1 c).1 j n;obtain⟨r,q,s,f,m⟩:=g i Sm e
  have w:(i::l).filter (· !=j)=i::l.filter (· !=j):=by
   rw[List.filter_cons];have:(i !=j)=Xc:=Si e
   simp[this]
  rw[w];refine W.swap q t h (s h) (fun cs b=>d i r cs b q) (fun cs b=>d j oj cs b t) f (m h) v ?_
  refine W.mono (fun h m e q=>?_) u
  exact Lex.cA W t d l h m (Oa.1 p).2 n (fun k d=>g k (by simp[d])) (Ye.1 c).2 (e j f v) q
theorem zfS(W:Way P ops C Ln ok){Q':Exit->Act->Xn->Prop}{l:List Oper}{m:Nat}(p:QT ops T=Xc)(f:T+m=ops.size)(h:l.length=m)(e:∀j,l[j]?=ops[T+j]?)(n:∀b F a w,ok b F a w->E F a->wpList P ops Q' l a w):
  ∀(d:Nat)(b:Array Bool)(F:σ)(a:Act)(w:Xn),b.size=ops.size->(∀i,T<=i->i<ops.size->b.getD i Xc=Xd)->(z5 b T).length=d->zg8 ops b->ok b F a w->
   Lex C E (z5 b T) F a->wpAny P .any ops Q' (d+m) b a w:=by
 have A:=Region.noSelect_spec (ops:=ops) (by simp only[QT,Xy]at p;exact p.1.1)
 intro d
 induction d with
 |zero=>
  intro b F a w k g z v G D;have c:=eN z;rw[c]at D;rw[zA];refine zjT p m l T b a w (nR _) k f h e (fun i y=>?_) g (n _ _ _ _ G D)
  cases f:b.getD i Xc with
  |true=>rfl
  |false=>
   have:i∈z5 b T:=Xx.2 ⟨Xs.2 y,by simp only[f,beq_self_eq_true]⟩
   rw[c]at this;cases this
 |succ d R=>
  intro b F a w k g z v G D;rw[Nat.add_right_comm];refine⟨fun u=>?_,fun j H=>?_⟩
  ·exfalso
   cases s:z5 b T with
   |nil=>simp[s]at z
   |cons x S=>
    have K:x∈z5 b T:=by rw[s];simp
    have h:=Xx.1 K;have L:=Xs.1 h.1;have c:x<ops.size:=Wm
    have t:=Oi c;have c:(z5 b T).Pairwise (·<·):=List.Pairwise.filter _ Oq;have:x∈Oo .any ops b:=by
     refine mem_ready.2 ⟨Si h.2,ops[x],t,fun r q B=>?_⟩
     have e:zkS ops r.on x=Xc:=(zdm t).2 ⟨r,q,B,rfl⟩;have n:=JI p t _ e
     cases f:b.getD r.on Xc with
     |true=>exact zii Wm f
     |false=>
      have e:r.on∈z5 b T:=Xx.2 ⟨Xs.2 Wm,by simp only[f,beq_self_eq_true]⟩
      rw[s]at e c
      rcases mC.1 e with e|e
      ·omega
      have:=(Ye.1 c).1 _ e;omega
    rw[u]at this;cases this
  obtain⟨M,e,e,u⟩:=mem_ready.1 H;have f:=(aS.1 e).1;have f:∀t,zkS ops t j=Xc->b.getD t Xd=Xc:=fun t H=>by
   obtain⟨r,q,B,rfl⟩:=(zdm e).1 H;exact u r q B
  have u:j<T:=by
   rcases Yl j T with r|r
   ·exact r
   exfalso
   cases s:z5 b T with
   |nil=>simp[s]at z
   |cons x S=>
    have K:x∈z5 b T:=by rw[s];simp
    have h:=Xx.1 K;have L:=Xs.1 h.1;have:=QE v j x j f (zej p e r x Wm)
    rw[Jt (Si h.2)]at this
    cases this
  have x:j∈z5 b T:=Xx.2 ⟨Xs.2 u,by simp only[M,beq_self_eq_true]⟩
  have z:(z5 b T).Nodup:=List.Pairwise.filter _ List.nodup_range;have c:(z5 b T).Pairwise (·<·):=List.Pairwise.filter _ Oq;have s:=Lex.cA W e A (z5 b T) F a z x (fun i y h=>by
   have h:=Xx.1 y;have B:b.getD i Xd=Xd:=Jt (Si h.2)
   have F:i<ops.size:=Hm (Xs.1 h.1)
   have A:=Oi F;refine⟨ops[i],A,fun n=>?_,?_,fun n=>?_⟩
   ·rcases zh5 p e u i n with q|⟨n,n,u⟩
    ·have:=f i q;rw[B]at this;cases this
    rw[A]at n;cases n;exact u
   ·cases n:anc ops 9 i j with
    |false=>rfl
    |true=>
     have:=QE v 9 i j f n;rw[B]at this;cases this
   cases n:anc ops 9 j i with
   |false=>rfl
   |true=>
    have:=znn p 9 j i n
    omega) c (W.lean j G) D
  have p:(b.setIfInBounds j Xc).size=ops.size:=by simp[k]
  have n:∀i,T<=i->i<ops.size->(b.setIfInBounds j Xc).getD i Xc=Xd:=fun i y h=>by rw[getD_set_ne Xc Wm];exact g i y h
  have g:(z5 (b.setIfInBounds j Xc) T).length=d:=by
   rw[zaK Wm]
   have q:(z5 b T).filter (· !=j)=(z5 b T).erase j:=by
    rw[List.Nodup.erase_eq_filter z]
   rw[q,Ok x];omega
  have q:zg8 ops (b.setIfInBounds j Xc):=fun i t H c=>by
   by_cases h:j=t
   ·subst h;exact getD_set_true (f i c)
   rw[getD_set_ne Xd h]at H;exact getD_set_true (v i t H c)
  rw[<-zaK Wm]at s
  have c:=W.step (Q:=Q') (N:=wpAny P .any ops Q' (d+m) (b.setIfInBounds j Xc)) k e M v G s fun b d h r f=>R _ b d h p n g q r f
  unfold wpOp;simp only[e]
  split
  ·rename_i b
   rw[kE b]at c;exact .inl c
  rename_i b
  rw[kF b]at c;exact c
variable(ops C E)in
structure zhk(l:List Oper)(k:Nat)(F:σ)(a:Act):Prop where
 out:(∀j,l[j]?=ops[k+j]?\/l.length<=j)->Lex C E (List.range' k l.length) F a
theorem zhk.cons{rest:List Oper}{k:Nat}{F:σ}{a:Act}(c:∀{i:Nat}{F:σ}{a:Act}{K b:σ->Act->Prop},(∀d f,K d f->b d f)->C i F a K->C i F a b)(h:ops[k]?=Xa o->C k F a (zhk ops C E rest (k+1))):zhk ops C E (o::rest) k F a:=⟨fun g=>by
 have l:ops[k]?=Xa o:=by
  rcases g 0 with e|e
  ·grind
  simp at e
 have b:∀j,rest[j]?=ops[k+1+j]?\/rest.length<=j:=fun j=>by
  rcases g (j+1)with e|e
  ·grind
  grind
 exact c (fun d f c=>c.out b) (h l)⟩
theorem zlw{a:Act}{w:Xn}{l r:List Oper}{F:σ}(W:Way P L.toArray C Ln ok)(T:Nat)(e:P.follows .mixedOrders=Xc)(p:QT L.toArray T=Xc)(g:L.take T=l)(h:L.drop T=r)(d:T<=L.length)(n:∀b:Array Bool,ok b F a w.drew)
  (q:∀b F a w,ok b F a w->E F a->wpList P L.toArray Q r a w)(c:zhk L.toArray C E l 0 F a):(Code.region id L.toArray Xc).wp P Q a w:=by
 have b:l.length=T:=by rw[<-g,Ol];omega
 have d:r.length=L.length-T:=by rw[<-h,List.length_drop]
 refine wp_region_any e ?_;have k:z5 (Array.replicate L.toArray.size Xd) T=Xu T:=by
  unfold z5;refine Ud.2 fun i f=>?_
  have:i<T:=Si f
  simp[show i<L.length by omega]
 have e:=c.out (fun j=>by
  rcases Yl j T with c|c
  ·left;rw[<-g,List.getElem?_take_of_lt c];simp
  right;omega)
 rw[b,<-Ua]at e;have b:=zfS (E:=E) W (T:=T) (l:=r) (m:=L.length-T) (Q':=Q) p (by simp;omega) d (fun j=>by rw[<-h,Uk];simp) q
  T (Array.replicate L.toArray.size Xd) F a w.drew Sm (fun i f d=>by simp at d;simp[d]) (by rw[k];simp) (fun i j c _=>by
   exfalso;rw[Array.getD_eq_getD_getElem?,Array.getElem?_replicate]at c
   split at c<;>simp at c)
  (n _) (Rx k e)
 have c:T+(L.length-T)=L.toArray.size:=by simp;omega
 rw[c]at b;exact b
end
end
theorem JH{α:Type}:∀{S:List (Nat×α)}{k:Nat}{s:α},S.lookup k=Xa s->∃x∈S,x.2=s/\x.1=k
 |[],k,s,h=>by simp at h
 |x::S,k,s,h=>by
  rw[List.lookup_cons]at h
  split at h
  ·rename_i he
   exact⟨x,Sm,by simpa using h,(by simpa using he:k=x.1).symm⟩
  obtain⟨y,hy,he⟩:=JH h;exact⟨y,by simp[hy],he⟩
structure zf(w0:Xn)where
 world:Xn
 aA:zc w0 world
def znR(o:Oper):Bool:=
 match o.op with
 |.move _|.assign _|.pick ..|.build ..|.load ..|.binOp ..|.unOp ..|.convert ..|.fieldAddr ..|.field ..|.indexAddr ..|.index ..|.extract ..|.slice ..|.lookup ..=>Xc
 |.call {callee:=.builtin .len,..}|.call {callee:=.builtin .cap,..}|.call {callee:=.builtin .max,..}|.call {callee:=.builtin .min,..}=>Xc
 |_=>Xd
theorem zbq{P:Program}{α:Type}{s:Sem α}{g:α->Xq}{w:Xn}{n:Next}:(s>>=fun v=>pure (Next.value (g v))).run P w=.ok n w'->∃v,n=.value v:=by
 intro h;rw[Yd]at h
 cases a:s.run P w with
 |ok x b=>simp[a,Result.andThen,Yj]at h;exact⟨_,h.1.symm⟩
 |halt x b=>simp[a,Result.andThen]at h
structure zo(I:Xn->Prop)where
 world:Xn
 holds:I world
section
variable{P:Program}{o:Oper}{a:Act}
theorem zjY(b:znR o=Xc){a:Operand->Xq}{w w':Xn}{n:Next}:(execOp a o).run P w=.ok n w'->∃v,n=.value v:=by
 obtain⟨a,c,a,a,a,a⟩:=o
 cases c<;>simp only[znR,Ym]at b<;>simp only[execOp]
 all_goals first
  |exact zbq (g:=id)
  |exact zbq
  |(intro h;simp[Yj]at h;exact⟨_,h.1.symm⟩)
  |skip
 rename_i d
 obtain⟨a,c,c⟩:=d
 cases a with
 |value _=>simp at b
 |invoke _ _=>simp at b
 |builtin a=>
  cases a<;>simp only[Ym]at b<;>simp only[resolve,pure_bind,invoke,builtin]<;>exact zbq (g:=id)
theorem zaQ(f:znR o=Xc){U:Xn->Prop}{K:Act->Prop}(h:o.quiet P a U K):∃v,(∀w,U w->(execOp a.eval o).run P w=.ok (.value v) w)/\K (a.put o.dst v):=by
 obtain⟨v,c,b⟩:=h;refine⟨v,fun w d=>?_,b⟩
 have b:=c w d;unfold Oper.quietAt at b;have c:=fun n e=>@zjY P o f a.eval w e n
 generalize(execOp a.eval o).run P w=r at*
 cases r with
 |ok n e=>
  cases n<;>simp only[Oper.quietUpon]at b
  case value u=>rw[b.1,b.2]
  case skip=>obtain⟨_,d⟩:=c _ _ rfl;cases d
  case enter f f=>obtain⟨_,d⟩:=c _ _ rfl;cases d
 |halt x e=>simp only[Oper.quietUpon]at b
theorem ziZ{w:Xn}(x p)(b:o.op=.nilCheck x)(c:a.eval x=Xj (Xa p)):(execOp a.eval o).run P w=.ok (.value (Xj (Xa p))) w:=by
 simp[execOp,b,c]
theorem zI.call{w:Xn}{K:Xq->Xn->Prop}{f:FuncId}{xs:List Operand}{ts:Array TypeId}{fn:Func}(args)
  (ho:o.op=.call {callee:=.value (.func f),args:=xs.toArray,argTypes:=ts})(hf:P.funcs[f]?=some fn)(hb:fn.body.isNone=false)(hn:(fn.name=="runtime.NumGoroutine")=false)
  (ha:xs.map a.eval=args)(h:Xp P f args.toArray w fun e w'=>∃v,e=Xl v/\K v w'):zI P o a w K:=by
 have hr:(execOp a.eval o).run P w=.ok (.enter f args.toArray) w:=by
  have he:a.eval (.func f)=.func (.func f) #[] #[]:=rfl;simp only[execOp,ho,resolve,he,List.map_toArray,ha,Deferred.ofValue,pure_bind,invoke];have hn':fn.name≠"runtime.NumGoroutine":=by simpa using hn
  have hb':fn.body≠Xb:=fun e=>by rw[e]at hb;cases hb
  simp[callFunc,hf,hb',hn',program,Yd,Sem.run]
 unfold zI;rw[hr];exact h
end
structure zfG where
 arg:Operand
 pv:Xq->Prop
 post:Xq->Xq->Xn->Prop
 step:Xn->Xn->Prop
 pre:Xn->Prop:=fun _=>True
section
variable(I:Xn->Prop)(P:Program)(ops:Array Oper)(S:Nat->Option zfG)
def qZ(i:Nat)(F:Nat->Xn->Prop)(a:Act)(K:(Nat->Xn->Prop)->Act->Prop):Prop:=
 match ops[i]? with
 |none=>False
 |some o=>
  if Xv o (yielded ops a.tmps)then
   match S i with
   |none=>∃v,(∀w,I w->(∀m,anc ops 9 m i=Xc->F m w)->(execOp a.eval o).run P w=.ok (.value v) w)/\K F (a.put o.dst v)
   |some s=>(∀w,I w->s.pre w->(∀m,anc ops 9 m i=Xc->F m w)->zI P o a w fun v w'=>I w'/\s.step w w'/\s.pv v/\s.post (a.eval s.arg) v w')/\∀v,s.pv v->K (zdc F i (s.post (a.eval s.arg) v)) (a.put o.dst v)
  else K F (a.put o.dst undef)
end
section
variable{I:Xn->Prop}{P:Program}{ops:Array Oper}{S:Nat->Option zfG}{J:Act->Xn->Prop}
theorem qZ.mono{i:Nat}{F:Nat->Xn->Prop}{a:Act}{K c:(Nat->Xn->Prop)->Act->Prop}
  (h:∀b d,(∀m,m≠i->b m=F m)->K b d->c b d)(e:qZ I P ops S i F a K):qZ I P ops S i F a c:=by
 unfold qZ at*
 split
 ·grind
 grind[ZO]
theorem qZ.swap{i:Nat}{c:Oper}{F:Nat->Xn->Prop}{a:Act}{K:(Nat->Xn->Prop)->Act->Prop}{w:Xn}
  (hi:ops[i]?=Xa c)(y:ops[j]?=Xa oj)(E:i≠j)(n:c.apart ops oj=Xc)
  (p:∀cs b,c.op≠.select cs b)(r:∀cs b,oj.op≠.select cs b)
  (u:∀k s o,S k=Xa s->ops[k]?=Xa o->∀d,s.arg=.tmp d->d∈o.looksAt ops)(q:anc ops 9 i j=Xd)(l:anc ops 9 j i=Xd)(hS:∀s,S i=Xa s->∃v,s.pv v)
  (B:I w)(H:∀m,anc ops 9 m j=Xc->F m w)
  (h:qZ I P ops S i F a fun e f=>qZ I P ops S j e f K):qZ I P ops S j F a fun e f=>qZ I P ops S i e f K:=by
 obtain⟨f,G,g⟩:=Oper.apart_spec n;have t:∀v,execOp (a.put oj.dst v).eval c=execOp a.eval c:=fun v=>execOp_put c p a oj.dst v g
 have x:∀v,execOp (a.put c.dst v).eval oj=execOp a.eval oj:=fun v=>execOp_put oj r a c.dst v f
 have M:∀v,Xv c (yielded ops (a.put oj.dst v).tmps)=Xv c (yielded ops a.tmps):=fun v=>wanted_put c a oj.dst v g
 have N:∀v,Xv oj (yielded ops (a.put c.dst v).tmps)=Xv oj (yielded ops a.tmps):=fun v=>wanted_put oj a c.dst v f
 have z:∀v w K,zI P c (a.put oj.dst v) w K=zI P c a w K:=fun v w K=>by unfold zI;rw[t]
 have A:∀v w K,zI P oj (a.put c.dst v) w K=zI P oj a w K:=fun v w K=>by unfold zI;rw[x]
 have C:∀v s,S i=Xa s->(a.put oj.dst v).eval s.arg=a.eval s.arg:=fun v s p=>Act.eval_put fun d n e=>g d n (u i s c p hi d e)
 have D:∀v s,S j=Xa s->(a.put c.dst v).eval s.arg=a.eval s.arg:=fun v s p=>Act.eval_put fun d n e=>f d n (u j s oj p y d e)
 have L:∀v u,(a.put c.dst v).put oj.dst u=(a.put oj.dst u).put c.dst v:=fun v u=>Act.put_comm a v u G
 have u:∀n,(fun m=>anc ops 9 m i=Xc->zdc F j n m w=F m w)=fun _=>True:=fun n=>by
  funext m
  simp only[eq_iff_iff,iff_true];intro e;rw[ZO (fun f=>by subst f;rw[l]at e;cases e)]
 have p:∀n g,(∀m,anc ops 9 m i=Xc->zdc F j n m g)↔(∀m,anc ops 9 m i=Xc->F m g):=fun n g=>by
  constructor<;>intro r m e<;>have:=r m e
  ·rwa[ZO (fun f=>by subst f;rw[l]at e;cases e)]at this
  rwa[ZO (fun f=>by subst f;rw[l]at e;cases e)]
 have l:∀n g,(∀m,anc ops 9 m j=Xc->zdc F i n m g)↔(∀m,anc ops 9 m j=Xc->F m g):=fun n g=>by
  constructor<;>intro r m e<;>have:=r m e
  ·rwa[ZO (fun f=>by subst f;rw[q]at e;cases e)]at this
  rwa[ZO (fun f=>by subst f;rw[q]at e;cases e)]
 clear u;unfold qZ at h⊢;simp only[hi,y,t,x,M,N,z,A,L]at h⊢
 cases e:Xv c (yielded ops a.tmps)<;>cases c:Xv oj (yielded ops a.tmps)<;>
  simp only[e,c,if_true,if_false,Ym]at h⊢
 ·exact h
 ·cases c:S j with
  |none=>simp only[c]at h⊢;exact h
  |some s=>simp only[c,D _ s c]at h⊢;exact h
 ·cases e:S i with
  |none=>simp only[e]at h⊢;exact h
  |some s=>simp only[e,C _ s e]at h⊢;exact h
 cases e:S i with
 |none=>
  simp only[e]at h;obtain⟨x,r,h⟩:=h
  cases c:S j with
  |none=>
   simp only[c]at h⊢;obtain⟨u,n,h⟩:=h;exact⟨u,n,x,r,h⟩
  |some s=>
   simp only[c,D _ s c]at h⊢;exact⟨h.1,fun u t=>⟨x,fun g f q=>r g f ((p _ _).1 q),h.2 u t⟩⟩
 |some G=>
  simp only[e]at h;obtain⟨y,h⟩:=h;obtain⟨L,A⟩:=hS G e
  cases c:S j with
  |none=>
   simp only[c,C _ G e]at h⊢;obtain⟨u,n,_⟩:=h L A;refine⟨u,fun g f q=>n g f ((l _ _).2 q),y,fun x r=>?_⟩
   obtain⟨z,z,N⟩:=h x r;have M:=n w B ((l _ _).2 H);have n:=z w B ((l _ _).2 H);rw[M]at n;simp only[Result.ok.injEq,Next.value.injEq,and_true]at n;subst n;exact N
  |some n=>
   simp only[c,D _ n c,C _ G e]at h⊢;refine⟨fun g f c q=>(h L A).1 g f c ((l _ _).2 q),fun u t=>⟨fun g f c q=>y g f c ((p _ _).1 q),fun x r=>?_⟩⟩
   have:=(h x r).2 u t;rwa[zmE E]at this
def okE(I:Xn->Prop)(J:Act->Xn->Prop)(S:Nat->Option zfG)(listed:Array Bool)(F:Nat->Xn->Prop)(a:Act)(w:Xn):Prop:=
 I w/\J a w/\(∀i,F i w)/\(∀i,(∀w,F i w)\/∃s u v,S i=Xa s/\F i=s.post u v/\listed.getD i Xd=Xc)/\∀k t,S k=Xa t->listed.getD k Xc=Xd->t.pre w
theorem zrO(i:∀k s o,S k=Xa s->ops[k]?=Xa o->∀d,s.arg=.tmp d->d∈o.looksAt ops)(hS:∀k s,S k=Xa s->∃v,s.pv v)
  (hp:∀k s j t,S k=Xa s->S j=Xa t->j≠k->anc ops 9 j k=Xd->∀u v w w',t.step w w'->s.post u v w->s.post u v w')(hpre:∀j t k s,S j=Xa t->S k=Xa s->j≠k->∀w w',s.step w w'->t.pre w->t.pre w')
  (g:∀(j:Nat)o,ops[j]?=Xa o->S j=Xb->∀a v w,(execOp a.eval o).run P w=.ok (.value v) w->J a w->J (a.put o.dst v) w)(x:∀(j:Nat)o s,ops[j]?=Xa o->S j=Xa s->∀a w K,J a w->I w->zI P o a w K->zI P o a w fun v w'=>K v w'/\J (a.put o.dst v) w')(L:∀(j:Nat)o,ops[j]?=Xa o->∀a w,J a w->J (a.put o.dst undef) w):
  Way P ops (qZ I P ops S) (fun j F=>∃w,I w/\∀m,anc ops 9 m j=Xc->F m w) (okE I J S) where
 mono h:=qZ.mono fun b c e D=>h b c (fun j b⟨w,l,c⟩=>⟨w,l,fun m f=>by
  rw[e m (fun q=>by subst q;rw[b]at f;cases f)]
  exact c m f⟩) D
 swap hi hj hlt hap hsi hsj b hji:=fun⟨_,l,c⟩=>qZ.swap hi hj Wm hap hsi hsj i b hji (hS _) l c
 lean j h:=⟨_,h.1,fun m _=>h.2.2.1 m⟩
 step {listed F a w j oj K N Q} hsz hoj h0 hc hok hcm hN:=by
  obtain⟨E,G,B,C,e⟩:=hok;have r:∀i,(∀w,F i w)\/∃s u v,S i=Xa s/\F i=s.post u v/\(listed.setIfInBounds j Xc).getD i Xd=Xc:=fun i=>(C i).imp id fun⟨s,u,v,z,y,A⟩=>⟨s,u,v,z,y,getD_set_true A⟩
  have n:∀k,(listed.setIfInBounds j Xc).getD k Xc=Xd->k≠j/\listed.getD k Xc=Xd:=fun k c=>by
   by_cases q:j=k
   ·subst q;have:=(aS.1 hoj).1
    simp[show j<listed.size by omega]at c
   rw[getD_set_ne Xc q]at c;exact⟨fun h=>q h.symm,c⟩
  simp only[qZ,hoj]at hcm
  split
  ·rename_i c
   simp only[c,if_true]at hcm
   cases p:S j with
   |none=>
    simp only[p]at hcm;obtain⟨v,f,D⟩:=hcm;have h:=f w E (fun m _=>B m)
    unfold Oper.wp;rw[h];exact hN F _ w ⟨E,g j oj hoj p a v w h G,B,r,fun k t f g=>e k t f (n k g).2⟩ D
   |some s=>
    simp only[p]at hcm;refine(x j oj s hoj p a w _ G E (hcm.1 w E (e j s p h0) (fun m _=>B m))).wp fun v w'⟨⟨M,h,R,x⟩,H⟩=>?_
    refine hN (zdc F j (s.post (a.eval s.arg) v)) _ w' ⟨M,H,fun i=>?_,fun i=>?_,fun k t f g=>hpre k t j s f p (n k g).1 w w' h (e k t f (n k g).2)⟩ (hcm.2 v R)
    ·unfold zdc
     split
     ·exact x
     rename_i b
     rcases C i with l|⟨x,u1,C,z,y,A⟩
     ·exact l w'
     rw[y];refine hp i x j s z p (fun q=>b q.symm) ?_ u1 C w w' h ?_
     ·cases h:anc ops 9 j i with
      |false=>rfl
      |true=>
       have l:=QE hc 9 j i (fun k D=>hc k i A D) h
       rw[Jt h0]at l;cases l
     have:=B i;rw[y]at this;exact this
    by_cases b:i=j
    ·subst b;refine .inr ⟨s,a.eval s.arg,v,p,?_,?_⟩
     ·unfold zdc;rw[kE rfl]
     have:=(aS.1 hoj).1
     simp[show i<listed.size by omega]
    rcases r i with l|⟨x,u1,C,z,y,A⟩
    ·refine .inl fun w=>?_
     unfold zdc;rw[kF b];exact l w
    refine .inr ⟨x,u1,C,z,?_,A⟩;unfold zdc;rw[kF b];exact y
  rename_i c
  simp only[c]at hcm;exact hN F _ w ⟨E,L j oj hoj a w G,B,r,fun k t f g=>e k t f (n k g).2⟩ hcm
variable{Q:Act->Xn->Prop}
variable(I P ops S Q)in
abbrev J5:List Oper->Nat->(Nat->Xn->Prop)->Act->Prop:=zhk ops (qZ I P ops S) fun F a=>∀w,I w->(∀i,F i w)->Q a w
theorem zhx{Q:Exit->Act->Xn->Prop}{a:Act}{w:Xn}{l r:List Oper}(T:Nat)(e:I w.drew)(i:P.follows .mixedOrders=Xc)(c:QT L.toArray T=Xc)(g:L.take T=l)(m:L.drop T=r)(f:T<=L.length)(b:∀k s o,S k=Xa s->L.toArray[k]?=Xa o->∀d,s.arg=.tmp d->d∈o.looksAt L.toArray)
  (hS:∀k s,S k=Xa s->∃v,s.pv v)(hp:∀k s j t,S k=Xa s->S j=Xa t->j≠k->anc L.toArray 9 j k=Xd->∀u v w w',t.step w w'->s.post u v w->s.post u v w')(hpre:∀j t k s,S j=Xa t->S k=Xa s->j≠k->∀w w',s.step w w'->t.pre w->t.pre w')(hpr0:∀k t,S k=Xa t->t.pre w.drew)
  (h:J5 I P L.toArray S (fun a w=>wpList P L.toArray Q r a w) l 0 (fun _ _=>True) a):(Code.region id L.toArray Xc).wp P Q a w:=
 zlw (zrO (J:=fun _ _=>True) b hS hp hpre (fun _ _ _ _ _ _ _ _ _=>trivial) (fun _ _ _ _ _ _ _ _ _ _ h=>h.mono fun _ _ b=>⟨b,trivial⟩) (fun _ _ _ _ _ _=>trivial)) T i c g m f (fun _=>⟨e,trivial,fun _=>trivial,fun _=>.inl fun _=>trivial,fun k t b _=>hpr0 k t b⟩) (fun _ _ _ _ b h=>h _ b.1 b.2.2.1) h
variable{o:Oper}{rest:List Oper}{k:Nat}{F:Nat->Xn->Prop}{a:Act}
theorem zc6(h:ops[k]?=Xa o->qZ I P ops S k F a (J5 I P ops S Q rest (k+1))):J5 I P ops S Q (o::rest) k F a:=zhk.cons (fun h=>qZ.mono fun b c _=>h b c) h
theorem ze6(b:Xv o (yielded ops a.tmps)=Xc)(hS:S k=Xb){v:Xq}(d:∀w,I w->(execOp a.eval o).run P w=.ok (.value v) w)(e:J5 I P ops S Q rest (k+1) F (a.put o.dst v)):J5 I P ops S Q (o::rest) k F a:=zc6 fun c=>by
 simp only[qZ,c,b,if_true,hS];exact⟨v,fun w b _=>d w b,e⟩
theorem JK(e:znR o=Xc)(b:Xv o (yielded ops a.tmps)=Xc)(hS:S k=Xb)
  (h:∀K:Act->Prop,(∀a,J5 I P ops S Q rest (k+1) F a->K a)->o.quiet P a (fun w'=>∃x:zo I,w'=x.world) K):J5 I P ops S Q (o::rest) k F a:=by
 obtain⟨v,c,d⟩:=zaQ e (h _ fun _ h=>h)
 exact ze6 b hS (fun w b=>c w ⟨⟨w,b⟩,rfl⟩) d
theorem Zb{P Q:Prop}(k:Q)(h:Go.RowKit.Hid Q->P:=by intro h;refine JK rfl rfl rfl (fun K a=>?_);go_big_quiet_op;exact a _ h.out):P:=h k
theorem zmo(b:Xv o (yielded ops a.tmps)=Xd)(h:J5 I P ops S Q rest (k+1) F (a.put o.dst undef)):J5 I P ops S Q (o::rest) k F a:=zc6 fun b=>by grind[qZ,Ym]
theorem jy{s:zfG}(d:Xv o (yielded ops a.tmps)=Xc)(hS:S k=Xa s)
  (h:∀w,I w->s.pre w->(∀m,anc ops 9 m k=Xc->F m w)->zI P o a w fun v w'=>I w'/\s.step w w'/\s.pv v/\s.post (a.eval s.arg) v w')
  (c:∀v,s.pv v->J5 I P ops S Q rest (k+1) (zdc F k (s.post (a.eval s.arg) v)) (a.put o.dst v)):J5 I P ops S Q (o::rest) k F a:=zc6 fun b=>by
 simp only[qZ,b,d,if_true,hS];exact⟨h,c⟩
theorem za3(h:∀w,I w->(∀i,F i w)->Q a w):J5 I P ops S Q [] k F a:=⟨fun _=>h⟩
theorem zgz(x p)(b:o.op=.nilCheck x)(d:a.eval x=Xj (Xa p))(c:Xv o (yielded ops a.tmps)=Xc)(hS:S k=Xb)(h:J5 I P ops S Q rest (k+1) F (a.put o.dst (Xj (Xa p)))):J5 I P ops S Q (o::rest) k F a:=ze6 c hS (fun _ _=>ziZ x p b d) h
end
def znl(ops:Array Oper)(S:List (Nat×zfG)):Bool:=S.all fun x=>match x.2.arg with
 |.tmp d=>(match ops[x.1]? with|some o=>(o.looksAt ops).contains d|none=>Xd)
 |_=>Xc
theorem ziI{S:List (Nat×zfG)}(h:znl ops S=Xc):∀k s o,S.lookup k=Xa s->ops[k]?=Xa o->∀d,s.arg=.tmp d->d∈o.looksAt ops:=fun k s o a e d b=>by
 have c:(k,s)∈S:=by
  induction S with
  |nil=>simp at a
  |cons x S f=>
   rw[List.lookup_cons]at a
   split at a
   ·grind
   exact Yx _ (f (by simp only[znl,List.all_cons,Xy]at h;exact h.2) a)
 have:=Yk.1 h _ c;simp only[b,e]at this
 simpa using this
theorem Jd{I:Xn->Prop}{P:Program}{a:Act}{w:Xn}{l r:List Oper}(T:Nat)(S:List (Nat×zfG))(d:I w.drew)(g:P.follows .mixedOrders=Xc)(b:znl L.toArray S=Xc)(c:QT L.toArray T=Xc)(f:L.take T=l)(i:L.drop T=r)(e:T<=L.length)
  (hS:∀x∈S,∃v,x.2.pv v)(hp:∀k s j t,S.lookup k=Xa s->S.lookup j=Xa t->j≠k->anc L.toArray 9 j k=Xd->∀u v w w',t.step w w'->s.post u v w->s.post u v w')(hpre:∀j t k s,S.lookup j=Xa t->S.lookup k=Xa s->j≠k->∀w w',s.step w w'->t.pre w->t.pre w')(hpr0:∀k t,S.lookup k=Xa t->t.pre w.drew)
  (h:J5 I P L.toArray (fun k=>S.lookup k) (fun a w=>wpList P L.toArray Q r a w) l 0 (fun _ _=>True) a):(Code.region id L.toArray Xc).wp P Q a w:=
 zhx T d g c f i e (ziI b) (fun k s b=>by obtain⟨x,c,rfl,_⟩:=JH b;exact hS x c) hp hpre hpr0 h
structure zdW where
 pv:Xq->Prop
 post:Xq->Xn->Prop
 step:Xn->Xn->Prop
 pre:Xn->Prop:=fun _=>True
def zdW.e(s:zdW):zfG:=⟨.const undef,s.pv,fun _=>s.post,s.step,s.pre⟩
theorem zh3{x:Option zdW}{s:zfG}(h:x.map zdW.e=Xa s):∃t,x=Xa t/\s=t.e:=by
 cases x with
 |none=>cases h
 |some t=>cases h;exact⟨t,rfl,rfl⟩
section
variable{I:Xn->Prop}{P:Program}{ops:Array Oper}{S:Nat->Option zdW}{Q:Act->Xn->Prop}
variable(I P ops S Q)in
abbrev ziM:List Oper->Nat->(Nat->Xn->Prop)->Act->Prop:=J5 I P ops (fun k=>(S k).map zdW.e) Q
theorem jS{Q:Exit->Act->Xn->Prop}{a:Act}{w:Xn}{l r:List Oper}(T:Nat)(S:List (Nat×zdW))(c:I w.drew)(f:P.follows .mixedOrders=Xc)(b:QT L.toArray T=Xc)(e:L.take T=l)(g:L.drop T=r)(d:T<=L.length)
  (hS:∀x∈S,∃v,x.2.pv v)(hp:∀k s j t,S.lookup k=Xa s->S.lookup j=Xa t->j≠k->anc L.toArray 9 j k=Xd->∀v w w',t.step w w'->s.post v w->s.post v w')(hpre:∀j t k s,S.lookup j=Xa t->S.lookup k=Xa s->j≠k->∀w w',s.step w w'->t.pre w->t.pre w')(hpr0:∀k t,S.lookup k=Xa t->t.pre w.drew)
  (h:ziM I P L.toArray (fun k=>S.lookup k) (fun a w=>wpList P L.toArray Q r a w) l 0 (fun _ _=>True) a):(Code.region id L.toArray Xc).wp P Q a w:=by
 refine zhx T c f b e g d ?_ ?_ ?_ ?_ ?_ h
 ·intro k s b b _ d c;obtain⟨t,_,rfl⟩:=zh3 b;cases c
 ·intro k s b;obtain⟨t,c,rfl⟩:=zh3 b;obtain⟨x,d,rfl,_⟩:=JH c;exact hS x d
 ·intro k s j t b f d g _ v;obtain⟨s,c,rfl⟩:=zh3 b;obtain⟨t,e,rfl⟩:=zh3 f;exact hp k s j t c e d g v
 ·intro j t k s f b d;obtain⟨s,c,rfl⟩:=zh3 b;obtain⟨t,e,rfl⟩:=zh3 f;exact hpre j t k s e c d
 intro k t b;obtain⟨t,c,rfl⟩:=zh3 b;exact hpr0 k t c
variable{o:Oper}{rest:List Oper}{k:Nat}{F:Nat->Xn->Prop}{a:Act}
theorem zbH(b:znR o=Xc)(c:Xv o (yielded ops a.tmps)=Xc)(hS:S k=Xb)
  (h:∀K:Act->Prop,(∀a,ziM I P ops S Q rest (k+1) F a->K a)->o.quiet P a (fun w'=>∃x:zo I,w'=x.world) K):ziM I P ops S Q (o::rest) k F a:=JK b c (Rr hS) h
theorem qT{P Q:Prop}(k:Q)(h:Go.RowKit.Hid Q->P:=by intro h;refine zbH rfl rfl rfl (fun K a=>?_);go_big_quiet_op;exact a _ h.out):P:=h k
theorem jY{s:zdW}(c:Xv o (yielded ops a.tmps)=Xc)(hS:S k=Xa s)
  (h:∀w,I w->s.pre w->(∀m,anc ops 9 m k=Xc->F m w)->zI P o a w fun v w'=>I w'/\s.step w w'/\s.pv v/\s.post v w')
  (b:∀v,s.pv v->ziM I P ops S Q rest (k+1) (zdc F k (s.post v)) (a.put o.dst v)):ziM I P ops S Q (o::rest) k F a:=jy (s:=s.e) c (Rr hS) h b
theorem JJ(h:∀w,I w->(∀i,F i w)->Q a w):ziM I P ops S Q [] k F a:=za3 h
end
structure zpp where
 pv:Xq->Prop
 post:Xq->Xn->Prop
def zpp.i(s:zpp):zdW:=⟨s.pv,s.post,zc,fun _=>True⟩
section
variable{P:Program}{ops:Array Oper}{w0:Xn}{S:Nat->Option zpp}{Q:Act->Xn->Prop}
variable(P ops w0 S Q)in
abbrev znp:List Oper->Nat->(Nat->Xn->Prop)->Act->Prop:=ziM (zc w0) P ops (fun k=>(S k).map zpp.i) Q
theorem zmA(w:Xn):zc w w.drew:=show Below _ _ _ from(bR _ _).drew
theorem jc{Q:Exit->Act->Xn->Prop}{a:Act}{w:Xn}{l r:List Oper}(T:Nat)(S:List (Nat×zpp))(j:P.follows .mixedOrders=Xc)(f:QT L.toArray T=Xc)(i:L.take T=l)(m:L.drop T=r)(g:T<=L.length)
  (hS:∀x∈S,∃v,x.2.pv v)(hp:∀x∈S,∀v w w',zc w w'->x.2.post v w->x.2.post v w')
  (h:znp P L.toArray w (fun k=>S.lookup k) (fun a w=>wpList P L.toArray Q r a w) l 0 (fun _ _=>True) a):(Code.region id L.toArray Xc).wp P Q a w:=by
 have b:∀k s,((S.lookup k).map zpp.i).map zdW.e=Xa s->∃x∈S,s=x.2.i.e:=fun k s c=>by
  cases e:S.lookup k with
  |none=>rw[e]at c;cases c
  |some t=>
   rw[e]at c;cases c;obtain⟨x,d,rfl,_⟩:=JH e;exact⟨x,d,rfl⟩
 refine zhx T (zmA w) j f i m g ?_ ?_ ?_ ?_ ?_ h
 ·intro k s e c _ e e;obtain⟨x,_,rfl⟩:=b k s c;cases e
 ·intro k s c;obtain⟨x,d,rfl⟩:=b k s c;exact hS x d
 ·intro k s j t c e _ _ _ v w w' f;obtain⟨x,d,rfl⟩:=b k s c;obtain⟨y,_,rfl⟩:=b j t e;exact hp x d v w w' f
 ·intro j t k s e _ _ _ _ _ _;obtain⟨x,_,rfl⟩:=b j t e;trivial
 intro k t c;obtain⟨x,_,rfl⟩:=b k t c;trivial
theorem qq{Q:Exit->Act->Xn->Prop}{a:Act}{w:Xn}{l:List Oper}(S:List (Nat×zpp))(c:P.follows .mixedOrders=Xc)(b:QT l.toArray l.length=Xc)
  (hS:∀x∈S,∃v,x.2.pv v)(hp:∀x∈S,∀v w w',zc w w'->x.2.post v w->x.2.post v w')
  (h:znp P l.toArray w (fun k=>S.lookup k) (fun a w=>Q .normal a w) l 0 (fun _ _=>True) a):(Code.region id l.toArray Xc).wp P Q a w:=
 jc l.length S c b (List.take_length ..) (List.drop_length ..) (nR _) hS hp h
variable{o:Oper}{rest:List Oper}{k:Nat}{F:Nat->Xn->Prop}{a:Act}
theorem qL(e:znR o=Xc)(b:Xv o (yielded ops a.tmps)=Xc)(hS:S k=Xb)
  (h:∀K:Act->Prop,(∀a,znp P ops w0 S Q rest (k+1) F a->K a)->o.quiet P a (fun w'=>∃x:zf w0,w'=x.world) K):znp P ops w0 S Q (o::rest) k F a:=by
 obtain⟨v,c,d⟩:=zaQ e (h _ fun _ h=>h)
 exact ze6 b (by simp only[hS];rfl) (fun w b=>c w ⟨⟨w,b⟩,rfl⟩) d
theorem ze{P Q:Prop}(k:Q)(h:Go.RowKit.Hid Q->P:=by intro h;refine qL rfl rfl rfl (fun K a=>?_);go_big_quiet_op;exact a _ h.out):P:=h k
theorem jo(b:Xv o (yielded ops a.tmps)=Xd)(h:znp P ops w0 S Q rest (k+1) F (a.put o.dst undef)):znp P ops w0 S Q (o::rest) k F a:=zmo b h
theorem zz{s:zpp}(b:Xv o (yielded ops a.tmps)=Xc)(hS:S k=Xa s)
  (h:∀w,zc w0 w->(∀m,anc ops 9 m k=Xc->F m w)->zI P o a w fun v w'=>zc w w'/\s.pv v/\s.post v w')
  (d:∀v,s.pv v->znp P ops w0 S Q rest (k+1) (zdc F k (s.post v)) (a.put o.dst v)):znp P ops w0 S Q (o::rest) k F a:=jy (s:=s.i.e) b (by simp only[hS];rfl) (fun w b _ c=>(h w b c).mono fun _ _ c=>⟨b.trans c.1,c⟩) d
theorem zH(h:∀w,zc w0 w->(∀i,F i w)->Q a w):znp P ops w0 S Q [] k F a:=za3 h
theorem Zj(x p)(b:o.op=.nilCheck x)(d:a.eval x=Xj (Xa p))(c:Xv o (yielded ops a.tmps)=Xc)(hS:S k=Xb)(h:znp P ops w0 S Q rest (k+1) F (a.put o.dst (Xj (Xa p)))):znp P ops w0 S Q (o::rest) k F a:=zgz x p b d c (by simp only[hS];rfl) h
end
theorem jh(a:Addr)(i j:Nat):(a.add i).add j=a.add (i+j):=by
 unfold Addr.add
 by_cases b:i=0<;>by_cases c:j=0<;>simp[b,c]<;>omega
def q8(w:Xn)(x:Addr)(cs:List Xq):Prop:=∀j u,cs[j]?=Xa u->w.cell? (x.add j)=Xa u
theorem q8.aA{w:Xn}{x:Addr}{cs:List Xq}(h:q8 w x cs)(b:zc w w'):q8 w' x cs:=fun j u c=>by
 have a:=h j u c;rw[Below.cell b (World.block_lt_of_cell? _ _ a)];exact a
theorem jf{α:Type}{enc:α->List Xq}{k:Nat}:∀(l:List α),(∀a∈l,(enc a).length=k)->(l.flatMap enc).length=l.length*k
 |[],_=>Sm
 |a::l,h=>by
  rw[Yc,lA,h a Sm,jf l (fun b c=>h b (by simp[c])),Yg,Ub,Nat.one_mul,Oc]
theorem Zu{α:Type}{enc:α->List Xq}{k:Nat}:∀(l:List α)(j:Nat)(a:α),(∀b∈l,(enc b).length=k)->l[j]?=Xa a->∀i u,(enc a)[i]?=Xa u->(l.flatMap enc)[j*k+i]?=Xa u
 |[],j,a,_,h,_,_,_=>by simp at h
 |b::l,0,a,d,h,i,u,hi=>by
  simp at h;subst h
  have c:i<(enc b).length:=by
   rcases Yl i (enc b).length with h|h
   ·exact h
   rw[gN h]at hi;cases hi
  rw[Yc,Un,zA,List.getElem?_append_left c];exact hi
 |b::l,j+1,a,d,h,i,u,hi=>by
  have c:=d b Sm
  rw[Yc,aR (by rw[c,Ub];omega),c]
  have e:(j+1)*k+i-k=j*k+i:=by rw[Ub];omega
  rw[e];exact Zu l j a (fun c e=>d c (by simp[e])) (Si h) i u hi
theorem q8.elem{α:Type}{enc:α->List Xq}{k:Nat}{w:Xn}{x:Addr}{l:List α}(h:q8 w x (l.flatMap enc))(e:∀b∈l,(enc b).length=k){a:α}(c:l[j]?=Xa a):q8 w (x.add (j*k)) (enc a):=fun i u d=>by
 rw[jh];exact h _ _ (Zu l j a e c i u d)
def jF{α:Type}(enc:α->List Xq)(w:Xn)(v:Xq)(l:List α):Prop:=
 ∃a c,v=O a l.length c/\(a=Xb->l=[])/\∀x,a=Xa x->q8 w x (l.flatMap enc)
theorem jF.aA{α:Type}{enc:α->List Xq}{w:Xn}{v:Xq}{l:List α}(h:jF enc w v l)(f:zc w w'):jF enc w' v l:=by
 obtain⟨a,c,b,d,e⟩:=h;exact⟨a,c,b,d,fun x a=>(e x a).aA f⟩
theorem ZV{α:Type}{enc:α->List Xq}{w:Xn}{base a:Nat}{e:TypeId}{v:Xq}{l:List α}(h:w.ownsRow base e a v l.length (l.flatMap enc)):jF enc w v l:=by
 rcases h.2 with⟨rfl,c⟩|⟨g,a,b,rfl,b,b,b,b,b,b⟩
 ·have b:=eN c;subst b;exact⟨Xb,0,rfl,fun _=>rfl,fun x b=>by cases b⟩
 refine⟨Xa ⟨g,0,Xb⟩,a,rfl,fun h=>(by cases h),fun x b=>?_⟩
 cases b;exact h.cells rfl
theorem Jj{w:Xn}{base a n:Nat}{e:TypeId}{v:Xq}(h:w.ownsRow base e a v n xs)(i:zc w w'):w'.ownsRow base e a v n xs:=by
 refine⟨h.1,?_⟩
 rcases h.2 with a|⟨g,a,b,rfl,d,c,f⟩
 ·grind
 exact .inr ⟨g,a,b,rfl,d,by rw[Below.block i g (aS.1 c).1];exact c,f⟩
theorem ju{w:Xn}{base a n:Nat}{e:TypeId}{v:Xq}(h:w.ownsRow base e a v n xs)(f:base'<=base):w.ownsRow base' e a v n xs:=by
 refine⟨h.1,?_⟩
 rcases h.2 with a|⟨g,a,b,rfl,c,d⟩
 ·grind
 exact .inr ⟨g,a,b,rfl,nT f c,d⟩
theorem qO{α:Type}{enc:α->List Xq}(h:∀a,∀u∈enc a,u.oneCell'=Xc)(l:List α):∀u∈l.flatMap enc,u.oneCell'=Xc:=fun u b=>by grind
theorem jx{n:Nat}(h:n<=140737488355328):n<=maxLen:=by simp[maxLen];omega
theorem za(w:Xn)(o):zc w (w.alloc o):=(bR _ _).alloc (nR _) _
theorem zG{w:Xn}(h:zc w W){a:Addr}(b:w.heap.size<=a.block)(u):zc w (W.setCell a u):=Below.setCell h b u
theorem zU:Tryz.prog.follows .mixedOrders=Xc:=by kernel_rfl
def j0(base:Nat)(v:Xq):Prop:=∀x n c,v=O (Xa x) n c->base<=x.block
theorem Zt(base:Nat):j0 base (O Xb 0 0):=fun x n c e=>by cases e
theorem j2(x:Addr)(j:Nat):(x.add j).block=x.block:=by unfold Addr.add;split<;>rfl
theorem jF.setCell{α:Type}{enc:α->List Xq}{base:Nat}{w:Xn}{v:Xq}{l:List α}(h:jF enc w v l)(f:j0 base v){a:Addr}(b:a.block<base)(u):jF enc (w.setCell a u) v l:=by
 obtain⟨x,c,b,d,e⟩:=h;refine⟨x,c,b,d,fun y d j t c=>?_⟩
 subst d;have:=f y _ _ b;rw[World.cell?_of_block (w:=w) (Below.heap_setCell _ _ _ _ (by rw[j2];omega))]
 exact e y rfl j t c
theorem jU(w:Xn)(g:Nat)(cs:Array Xq):w.grownBy (w.setRow g cs) (Xa g):=by
 refine⟨rfl,rfl,rfl,by simp[World.setRow],fun k a a=>?_⟩
 have:g≠k:=fun e=>a (by rw[e])
 unfold World.setRow
 grind
theorem jn{P:Program}{w:Xn}{base b n:Nat}{e:TypeId}{v:Xq}(d:w.ownsRow base e b v n xs)(h:v.ownBlock=Xa g)(a:Nat)(cs:List Xq)(c:a+cs.length<=n*b)(k:∀u∈cs,u.oneCell'=Xc):
  ∃w',(storeCells ⟨g,a,Xb⟩ cs 0).run P w=.ok () w'/\w'.ownsRow base e b v n (splice xs a cs)/\w.grownBy w' (Xa g)/\w'.heap.size=w.heap.size:=by
 obtain⟨m,c⟩:=d
 rcases c with⟨rfl,i⟩|⟨f,d,c,rfl,l,j,i,p,q,r⟩
 ·simp[Value.ownBlock]at h
 simp[Value.ownBlock]at h
 subst h;have h:n*b<=c.size:=by rw[q];exact Yy _ i
 refine⟨_,run_storeCells_at P f a e cs 0 c w j Wm k,⟨by rw[length_splice _ _ _ Wm];exact m,.inr ⟨f,d,_,rfl,l,setRow_heap w f c _ e _ j,i,p,?_,?_⟩⟩,jU _ _ _,by simp[World.setRow]⟩
 ·simp;omega
 subst r
 apply Yf
 intro j;simp only[splice,Nat.add_zero];simp only[List.getElem?_take,List.getElem?_append,Uk,Ol,lA,Array.length_toList];have d:min a c.size=a:=Wm
 have f:min a (min (n*b) c.size)=a:=Wm
 simp only[d,f]
 split<;>split<;>(try split)<;>(try split)<;>(try split)<;>first|rfl|omega|(congr 1;omega)|skip
theorem zcc{P:Program}{w:Xn}{rest:List Oper}{a:Act}(e:o.guard=Xb)(p x t)(s:o.op=.store t p x)(k:Nat)(f:(P.info? t).map (·.size)=Xa k)
  (base:Nat)(v:Xq)(n:Nat)(xs:List Xq)(d:w.ownsRow base t k v n xs)(g i:Nat)(r:v.ownBlock=Xa g)(hi:i<n)(cs:List Xq)(c:cs.length=k)(l:∀u∈cs,u.oneCell'=Xc)
  (h:Addr)(hp:a.eval p=Xj (Xa h))(b:h=⟨g,i*k,Xb⟩)(z:a.eval x=Xi cs.toArray)
  (j:∀w',w'.ownsRow base t k v n (splice xs (i*k) cs)->w.grownBy w' (Xa g)->w'.heap.size=w.heap.size->wpList P ops Q rest (a.put o.dst undef) w'):wpList P ops Q (o::rest) a w:=by
 subst b;refine wpList_plain e fun K q=>?_
 have b:i*k+cs.length<=n*k:=by
  rw[c,<-Uo];exact Yy _ hi
 obtain⟨w',y,e,h,m⟩:=jn (P:=P) d r (i*k) cs b l;have d:(Go.sizeOf t).run P w=.ok k w:=by
  cases b:P.info? t with
  |none=>simp[b]at f
  |some i=>simp[b]at f;simp[Go.sizeOf,typeInfo,b,f]
 have b:(Instr.storeAt t (Xj (Xa ⟨g,i*k,Xb⟩)) (Xi cs.toArray)).run P w=.ok () w':=by
  simp[Instr.storeAt,Instr.sureAddr,storeVar,Yd,d,Result.andThen,Value.cells,c,y]
 unfold Oper.wp;simp only[execOp,s,hp,z,Yd,b,Result.andThen,Yj,Oper.upon];exact q _ _ (j w' e h m)
theorem zbs{α:Type}{enc:α->List Xq}{k:Nat}(x:α)(b:(enc x).length=k):∀(l:List α)(i:Nat),(∀a∈l,(enc a).length=k)->i<l.length->splice (l.flatMap enc) (i*k) (enc x)=(l.set i x).flatMap enc
 |[],i,_,hi=>by simp at hi
 |a::l,0,h,_=>by
  simp only[splice,Yc,Un,List.take_zero,Ox,zA,sZ];rw[Yz (by rw[b,h a Sm];exact nR _),Yn (by rw[b,h a Sm];exact nR _),Ox]
 |a::l,i+1,h,hi=>by
  have d:=h a Sm
  have c:=zbs x b l i (fun b e=>h b (by simp[e])) (Si hi)
  simp only[splice,Yc,sS]at c⊢;rw[<-c,Uo,Oc (i*k) k,<-d,Od,Yw,Oe,Yr]
theorem zd{w a:Xn}(h:zc w W)(c:W.grownBy a (Xa g))(b:w.heap.size<=g):zc w a:=
 Below.grown h c (bS h) (fun k a=>by cases a;exact b)
theorem zjD{a w:Xn}(h:Below B a w)(b:B<=w.heap.size)(c:zc w w'):Below B a w':=h.trans (Below.mono c b)
def Box(w:Xn)(b:Nat)(cs:List Xq):Prop:=∃t,w.heap[b]?=Xa (Xk cs.toArray t (0,0))
theorem Box.lt{w:Xn}{cs:List Xq}(h:Box w b cs):b<w.heap.size:=by
 obtain⟨t,h⟩:=h;exact(aS.1 h).1
theorem Box.c{w:Xn}{cs:List Xq}(h:Box w b cs)(i:Nat){u:Xq}(hi:cs[i]?=Xa u):w.cell? ⟨b,i,Xb⟩=Xa u:=by
 obtain⟨t,h⟩:=h
 simp[World.cell?,h,hi]
theorem Box.f{w:Xn}{cs:List Xq}(h:Box w b cs)(i:Nat):w.frozen? ⟨b,i,Xb⟩=Xd:=by
 obtain⟨t,h⟩:=h
 simp[World.frozen?,h]
theorem Box.below{w:Xn}{cs:List Xq}(h:Box w b cs)(c:Below B w w')(a:b<B):Box w' b cs:=by
 obtain⟨t,h⟩:=h;exact⟨t,by rw[c.block b a];exact h⟩
theorem Box.aA{w:Xn}{cs:List Xq}(h:Box w b cs)(a:zc w w'):Box w' b cs:=h.below a h.lt
theorem Box.aD(w:Xn)(cs:List Xq)(t)(a:b=w.heap.size):Box (w.alloc (Xk cs.toArray t)) b cs:=by
 subst a;refine⟨t,?_⟩
 show(w.heap.push _)[w.heap.size]?=_
 simp
theorem Box.alloc{w:Xn}{cs:List Xq}(h:Box w b cs)(o):Box (w.alloc o) b cs:=h.aA (za _ _)
theorem Box.grown{w:Xn}{cs:List Xq}(h:Box w b cs)(d:w.grownBy w' (Xa g))(c:b≠g):Box w' b cs:=by
 have a:=h.lt;obtain⟨t,h⟩:=h;exact⟨t,by rw[d.block b a (fun e=>c (by cases e;rfl))];exact h⟩
theorem Box.other{w:Xn}{cs:List Xq}(h:Box w b cs){a:Addr}(c:b≠a.block)(u):Box (w.setCell a u) b cs:=by
 obtain⟨t,h⟩:=h;exact⟨t,by rw[Below.heap_setCell _ _ _ _ c];exact h⟩
theorem Box.set{w:Xn}{cs:List Xq}(h:Box w b cs)(i:Nat)(u):Box (w.setCell ⟨b,i,Xb⟩ u) b (cs.set i u):=by
 have a:=h.lt;obtain⟨t,h⟩:=h;refine⟨t,?_⟩;obtain⟨_,a⟩:=aS.1 h;unfold World.setCell
 grind
theorem zgk{w:Xn}{base a n:Nat}{e:TypeId}{v:Xq}(h:w.ownsRow base e a v n xs)(i:∀k,base<=k->w'.heap[k]?=w.heap[k]?):w'.ownsRow base e a v n xs:=by
 refine⟨h.1,?_⟩
 rcases h.2 with d|⟨g,a,b,rfl,c,f,h⟩
 ·exact .inl d
 exact .inr ⟨g,a,b,rfl,c,by rw[i g c];exact f,h⟩
theorem ziK(w:Xn)(A B C)(k:Nat)(a:w.heap.size+1<=k):((w.alloc A).alloc C).heap[k]?=((w.alloc B).alloc C).heap[k]?:=by
 show((w.heap.push A).push C)[k]?=((w.heap.push B).push C)[k]?
 simp only[Array.getElem?_push,Array.size_push]
 split
 ·rfl
 rw[kF Wm,kF Wm]
theorem World.grownBy.rfl'(w:Xn)(a:Option Nat):w.grownBy w a:=⟨rfl,rfl,rfl,nR _,fun _ _ _=>rfl⟩
theorem q8.aD(w:Xn)(cs:List Xq)(t)(a:b=w.heap.size):q8 (w.alloc (Xk cs.toArray t)) ⟨b,0,Xb⟩ cs:=fun j u c=>by
 rw[Addr.add_lit,zA];exact(Box.aD w cs t a).c j c
theorem Box.beside{w:Xn}{cs:List Xq}{a:Option Nat}(h:Box w b cs)(d:w.grownBy w' a)(c:∀g,a=Xa g->b≠g):Box w' b cs:=by
 have a:=h.lt;obtain⟨t,h⟩:=h;exact⟨t,by rw[d.block b a (fun e=>c b e.symm rfl)];exact h⟩
theorem zT{w b:Xn}{a:Option Nat}(h:zc w W)(d:W.grownBy b a)(c:∀g,a=Xa g->w.heap.size<=g):zc w b:=Below.grown h d (bS h) c
def zg(w:Xn)(b:Nat)(t:TypeId)(cs:List Xq):Prop:=w.heap[b]?=Xa (Xk cs.toArray t (0,0))
theorem zg.box{w:Xn}{cs:List Xq}(h:zg w b t cs):Box w b cs:=⟨t,h⟩
theorem zg.aD(w:Xn)(cs:List Xq)(t)(a:b=w.heap.size):zg (w.alloc (Xk cs.toArray t)) b t cs:=by
 subst a
 show(w.heap.push _)[w.heap.size]?=_
 simp
theorem Box.c3{w:Xn}{l:List Xq}(h:Box w b (a0::a1::a2::l)):w.cell? ⟨b,0,Xb⟩=Xa a0/\w.cell? ⟨b,1,Xb⟩=Xa a1/\w.cell? ⟨b,2,Xb⟩=Xa a2:=⟨h.c 0 rfl,h.c 1 rfl,h.c 2 rfl⟩
theorem Box.c7{w:Xn}{l:List Xq}(h:Box w b (a0::a1::a2::a3::a4::a5::a6::l)):w.cell? ⟨b,0,Xb⟩=Xa a0/\w.cell? ⟨b,1,Xb⟩=Xa a1/\w.cell? ⟨b,2,Xb⟩=Xa a2/\w.cell? ⟨b,3,Xb⟩=Xa a3/\w.cell? ⟨b,4,Xb⟩=Xa a4/\w.cell? ⟨b,5,Xb⟩=Xa a5/\w.cell? ⟨b,6,Xb⟩=Xa a6:=⟨h.c 0 rfl,h.c 1 rfl,h.c 2 rfl,h.c 3 rfl,h.c 4 rfl,h.c 5 rfl,h.c 6 rfl⟩
theorem Box.c8{w:Xn}{l:List Xq}(h:Box w b (a0::a1::a2::a3::a4::a5::a6::a7::l)):w.cell? ⟨b,0,Xb⟩=Xa a0/\w.cell? ⟨b,1,Xb⟩=Xa a1/\w.cell? ⟨b,2,Xb⟩=Xa a2/\w.cell? ⟨b,3,Xb⟩=Xa a3/\w.cell? ⟨b,4,Xb⟩=Xa a4/\w.cell? ⟨b,5,Xb⟩=Xa a5/\w.cell? ⟨b,6,Xb⟩=Xa a6/\w.cell? ⟨b,7,Xb⟩=Xa a7:=⟨h.c 0 rfl,h.c 1 rfl,h.c 2 rfl,h.c 3 rfl,h.c 4 rfl,h.c 5 rfl,h.c 6 rfl,h.c 7 rfl⟩
theorem Box.c10{w:Xn}{a c:Xq}{l:List Xq}(h:Box w b (a0::a1::a2::a3::a4::a5::a6::a7::a::c::l)):w.cell? ⟨b,0,Xb⟩=Xa a0/\w.cell? ⟨b,1,Xb⟩=Xa a1/\w.cell? ⟨b,2,Xb⟩=Xa a2/\w.cell? ⟨b,3,Xb⟩=Xa a3/\w.cell? ⟨b,4,Xb⟩=Xa a4/\w.cell? ⟨b,5,Xb⟩=Xa a5/\w.cell? ⟨b,6,Xb⟩=Xa a6/\w.cell? ⟨b,7,Xb⟩=Xa a7/\w.cell? ⟨b,8,Xb⟩=Xa a/\w.cell? ⟨b,9,Xb⟩=Xa c:=⟨h.c 0 rfl,h.c 1 rfl,h.c 2 rfl,h.c 3 rfl,h.c 4 rfl,h.c 5 rfl,h.c 6 rfl,h.c 7 rfl,h.c 8 rfl,h.c 9 rfl⟩
theorem Box.aU{w:Xn}{c d a:Xq}{l:List Xq}(h:Box w b (a0::a1::a2::a3::a4::a5::a6::a7::c::d::a::l)):w.cell? ⟨b,0,Xb⟩=Xa a0/\w.cell? ⟨b,1,Xb⟩=Xa a1/\w.cell? ⟨b,2,Xb⟩=Xa a2/\w.cell? ⟨b,3,Xb⟩=Xa a3/\w.cell? ⟨b,4,Xb⟩=Xa a4/\w.cell? ⟨b,5,Xb⟩=Xa a5/\w.cell? ⟨b,6,Xb⟩=Xa a6/\w.cell? ⟨b,7,Xb⟩=Xa a7/\w.cell? ⟨b,8,Xb⟩=Xa c/\w.cell? ⟨b,9,Xb⟩=Xa d/\w.cell? ⟨b,10,Xb⟩=Xa a:=⟨h.c 0 rfl,h.c 1 rfl,h.c 2 rfl,h.c 3 rfl,h.c 4 rfl,h.c 5 rfl,h.c 6 rfl,h.c 7 rfl,h.c 8 rfl,h.c 9 rfl,h.c 10 rfl⟩
theorem Box.c12{w:Xn}{d e a c:Xq}{l:List Xq}(h:Box w b (a0::a1::a2::a3::a4::a5::a6::a7::d::e::a::c::l)):w.cell? ⟨b,0,Xb⟩=Xa a0/\w.cell? ⟨b,1,Xb⟩=Xa a1/\w.cell? ⟨b,2,Xb⟩=Xa a2/\w.cell? ⟨b,3,Xb⟩=Xa a3/\w.cell? ⟨b,4,Xb⟩=Xa a4/\w.cell? ⟨b,5,Xb⟩=Xa a5/\w.cell? ⟨b,6,Xb⟩=Xa a6/\w.cell? ⟨b,7,Xb⟩=Xa a7/\w.cell? ⟨b,8,Xb⟩=Xa d/\w.cell? ⟨b,9,Xb⟩=Xa e/\w.cell? ⟨b,10,Xb⟩=Xa a/\w.cell? ⟨b,11,Xb⟩=Xa c:=⟨h.c 0 rfl,h.c 1 rfl,h.c 2 rfl,h.c 3 rfl,h.c 4 rfl,h.c 5 rfl,h.c 6 rfl,h.c 7 rfl,h.c 8 rfl,h.c 9 rfl,h.c 10 rfl,h.c 11 rfl⟩
theorem Box.h{I:Xn->Prop}{cs:List Xq}(h:Box W b cs)(a:∀u,I u↔zc W u)(i:Nat){v:Xq}(c:cs[i]?=Xa v):∀y:zo I,y.world.cell? ⟨b,i,Xb⟩=Xa v:=fun y=>(h.aA ((a _).1 y.holds)).c i c
theorem Box.gw{cs:List Xq}(h:Box W b cs)(i:Nat){v:Xq}(a:cs[i]?=Xa v):∀y:zf W,y.world.cell? ⟨b,i,Xb⟩=Xa v:=fun y=>(h.aA y.aA).c i a
theorem Box.k2{w b l a0 a1}(h:Box w b (a0::a1::l)):w.cell? ⟨b,0,none⟩=some a0/\w.cell? ⟨b,1,none⟩=some a1:=⟨h.c 0 rfl,h.c 1 rfl⟩
theorem Box.k10{w b l a0 a1 a2 a3 a4 a5 a6 a7 a8 a9}(h:Box w b (a0::a1::a2::a3::a4::a5::a6::a7::a8::a9::l)):w.cell? ⟨b,0,none⟩=some a0/\w.cell? ⟨b,1,none⟩=some a1/\w.cell? ⟨b,2,none⟩=some a2/\w.cell? ⟨b,3,none⟩=some a3/\w.cell? ⟨b,4,none⟩=some a4/\w.cell? ⟨b,5,none⟩=some a5/\w.cell? ⟨b,6,none⟩=some a6/\w.cell? ⟨b,7,none⟩=some a7/\w.cell? ⟨b,8,none⟩=some a8/\w.cell? ⟨b,9,none⟩=some a9:=⟨h.c 0 rfl,h.c 1 rfl,h.c 2 rfl,h.c 3 rfl,h.c 4 rfl,h.c 5 rfl,h.c 6 rfl,h.c 7 rfl,h.c 8 rfl,h.c 9 rfl⟩
theorem gP{w:Xn}{o:Obj}(h:w.alloc o=W):zc w W:=by subst h;exact za _ _
theorem gA{w:Xn}{o:Obj}(h:w.alloc o=W):Go.RowKit.Hid (zc w W):=show zc _ _ from gP h
theorem gT{v w:Xn}{o:Obj}(h:w.alloc o=W)(g:Go.RowKit.Hid (zc v w)):Go.RowKit.Hid (zc v W):=show zc _ _ from g.out.trans (gP h)
theorem gD2{w:Xn}{o q:Obj}(h:(w.alloc o).alloc q=W):Go.RowKit.Hid (zc w W):=show zc _ _ from(gP rfl).trans (gP h)
theorem xP{w:Xn}{l:List Xq}{p:Nat}(h:w.alloc (Xk l.toArray t)=W)(e:Go.RowKit.Hid (w.heap.size=p)):Go.RowKit.Hid (Box W p l):=show Box _ _ _ by subst h;exact Box.aD w l t e.out.symm
theorem xA{w:Xn}{l:List Xq}(h:w.alloc (Xk l.toArray t)=W):Go.RowKit.Hid (Box W w.heap.size l):=xP h rfl
theorem xPT{w:Xn}{l:List Xq}{p:Nat}(h:w.alloc (Xk l.toArray t)=W)(e:Go.RowKit.Hid (w.heap.size=p)):Go.RowKit.Hid (zg W p t l):=show zg _ _ _ _ by subst h;exact zg.aD w l t e.out.symm
theorem xT{w:Xn}{l:List Xq}(h:w.alloc (Xk l.toArray t)=W):Go.RowKit.Hid (zg W w.heap.size t l):=xPT h rfl
theorem yA{w:Xn}{o:Obj}{l:List Xq}(h:w.alloc o=W)(y:Go.RowKit.Hid (Box w b l)):Go.RowKit.Hid (Box W b l):=show Box _ _ _ by subst h;exact y.out.alloc _
theorem x2a{w:Xn}{l:List Xq}{o:Obj}(h:(w.alloc (Xk l.toArray t)).alloc o=W):Go.RowKit.Hid (Box W w.heap.size l):=yA h (xA rfl)
theorem x2b{w:Xn}{l:List Xq}{o:Obj}(h:(w.alloc o).alloc (Xk l.toArray t)=W):Go.RowKit.Hid (Box W (w.heap.size+1) l):=show Box _ _ _ by subst h;exact Box.aD _ l t Sm
theorem sA{w:Xn}{o:Obj}(h:w.alloc o=W):Go.RowKit.Hid (W.heap.size=w.heap.size+1):=show _=_ by subst h;simp
theorem gW(w:Xn):zc w w.drew:=show Go.RowKit.Below _ _ _ from(Go.RowKit.Below.refl _ _).drew
theorem zg.aA{w:Xn}{cs:List Xq}(h:zg w b t cs)(a:zc w w'):zg w' b t cs:=(a.block b h.box.lt).trans h
theorem zg.beside{w:Xn}{cs:List Xq}{a:Option Nat}(h:zg w b t cs)(d:w.grownBy w' a)(c:∀g,a=Xa g->b≠g):zg w' b t cs:=by
 unfold zg;rw[d.block b h.box.lt (fun e=>c b e.symm rfl)]
 exact h
theorem zg.set{w:Xn}{cs:List Xq}(h:zg w b t cs)(i:Nat)(u):zg (w.setCell ⟨b,i,Xb⟩ u) b t (cs.set i u):=by
 have a:=h.box.lt;obtain⟨_,a⟩:=aS.1 h;unfold zg World.setCell
 grind
theorem ZC{w:Xn}{base b n:Nat}{e:TypeId}{v:Xq}(h:w.ownsRow base e b v n xs){a:Addr}(i:∀g,v.ownBlock=Xa g->a.block≠g)(u):(w.setCell a u).ownsRow base e b v n xs:=by
 refine⟨h.1,?_⟩
 rcases h.2 with b|⟨g,b,c,rfl,d,f,h⟩
 ·grind
 exact .inr ⟨g,b,c,rfl,d,by rw[Below.heap_setCell _ _ _ _ (fun e=>i g rfl e.symm)];exact f,h⟩
structure Elt(α:Type)where
 enc:α->List Xq
 k:Nat
 ty:TypeId
 st:TypeId
 bytes:Nat
 zv:Xq
 zero:α
 len:∀a,(enc a).length=k
 one:∀a,∀u∈enc a,u.oneCell'=Xc
 bT:Tryz.prog.underlying st=Xa (.slice ty)
 aF:(Tryz.prog.info? ty).map (fun i=>(i.zero,i.size,i.bytes))=Xa (Xa zv,k,bytes)
 zok:zv.cells=(enc zero).toArray
 few:k<=bytes
 pos:0<k
section
variable{α:Type}{E:Elt α}
def zj(E:Elt α)(w:Xn)(v:Xq)(l:List α):Prop:=jF E.enc w v l/\l.length*E.bytes<=140737488355328
def zb(E:Elt α)(base:Nat)(w:Xn)(v:Xq)(l:List α):Prop:=w.ownsRow base E.ty E.k v l.length (l.flatMap E.enc)/\l.length*E.bytes<=140737488355328
def zpq(E:Elt α)(w:Xn)(a:Option Addr)(l:List α):Prop:=∀(j:Nat)x,l[j]?=Xa x->∃ad,a=Xa ad/\∀W,zc w W->q8 W (ad.add (j*E.k)) (E.enc x)
theorem znL(E:Elt α):E.zv.cells.size=E.k:=by rw[E.zok];simp[E.len]
theorem qB(E:Elt α)(l:List α):(l.flatMap E.enc).length=l.length*E.k:=jf l fun a _=>E.len a
theorem zj.aA{w:Xn}{v:Xq}{l:List α}(h:zj E w v l)(a:zc w w'):zj E w' v l:=⟨h.1.aA a,h.2⟩
theorem zj.rows{w:Xn}{v:Xq}{l:List α}(h:zj E w v l):∃a c,v=O a l.length c/\zpq E w a l:=by
 obtain⟨⟨a,c,e,f,g⟩,_⟩:=h;refine⟨a,c,e,fun j q b=>?_⟩
 cases a with
 |none=>rw[f rfl]at b;simp at b
 |some x=>exact⟨x,rfl,fun W i=>((g x rfl).aA i).elem (k:=E.k) (fun d _=>E.len d) b⟩
theorem zj.short{w:Xn}{v:Xq}{l:List α}(h:zj E w v l):l.length<=9223372036854775807:=by
 have a:=h.2;have a:l.length*1<=l.length*E.bytes:=Ob _ (nT E.pos E.few);omega
theorem zj.setCell{base:Nat}{w:Xn}{v:Xq}{l:List α}(h:zj E w v l)(c:j0 base v){a:Addr}(b:a.block<base)(u:Xq):zj E (w.setCell a u) v l:=⟨h.1.setCell c b u,h.2⟩
theorem zj.nil(E:Elt α)(w):zj E w (O Xb 0 0) ([]:List α):=⟨⟨Xb,0,rfl,fun _=>rfl,fun x a=>by cases a⟩,Sm⟩
theorem zb.at{base:Nat}{w:Xn}{v:Xq}{l:List α}(h:zb E base w v l):zj E w v l:=⟨ZV h.1,h.2⟩
theorem zb.aA{base:Nat}{w:Xn}{v:Xq}{l:List α}(h:zb E base w v l)(a:zc w w'):zb E base w' v l:=⟨Jj h.1 a,h.2⟩
theorem zb.base{base:Nat}{w:Xn}{v:Xq}{l:List α}(h:zb E base w v l)(a:base'<=base):zb E base' w v l:=⟨ju h.1 a,h.2⟩
theorem zb.setCell{base:Nat}{w:Xn}{v:Xq}{l:List α}(h:zb E base w v l){a:Addr}(b:a.block<base)(u):zb E base (w.setCell a u) v l:=⟨ownsRow_setCell_below h.1 b u,h.2⟩
theorem zb.aQ{base:Nat}{w:Xn}{v:Xq}{l:List α}(h:zb E base w v l){a:Addr}(b:∀g,v.ownBlock=Xa g->a.block≠g)(u):zb E base (w.setCell a u) v l:=⟨ZC h.1 b u,h.2⟩
theorem zb.lt{base:Nat}{w:Xn}{v:Xq}{l:List α}(h:zb E base w v l):∀g,v.ownBlock=Xa g->base<=g/\g<w.heap.size:=h.1.lt
theorem zb.form{base:Nat}{w:Xn}{v:Xq}{l:List α}(h:zb E base w v l):∃a c,v=O a l.length c:=by
 obtain⟨a,c,b,_⟩:=h.at.rows;exact⟨a,c,b⟩
theorem zb.aJ{base:Nat}{w:Xn}{v:Xq}{l:List α}(h:zb E base w v l)(a:0<l.length):∃g c,v=O (Xa ⟨g,0,Xb⟩) l.length c:=by
 rcases h.1.2 with⟨rfl,b⟩|⟨g,a,a,b,_⟩
 ·omega
 grind
theorem zb.fresh{base:Nat}{w:Xn}{v:Xq}{l:List α}(h:zb E base w v l):j0 base v:=fun x n c e=>by
 rcases h.1.2 with⟨b,_⟩|⟨g,a,a,b,a,_⟩
 ·grind
 grind
theorem zb.nil(E:Elt α)(base:Nat)(w):zb E base w (O Xb 0 0) ([]:List α):=⟨World.ownsRow_nil _ _ _ _,Sm⟩
theorem zb.made(E:Elt α)(w:Xn):zb E w.heap.size (w.alloc (Xk #[] E.ty)) (O (Xa ⟨w.heap.size,0,Xb⟩) 0 0) ([]:List α):=⟨World.ownsRow_made w #[] 0 (nR _) (nZ _) Sm,Sm⟩
theorem zb.ne{base:Nat}{w:Xn}{v:Xq}{l:List α}(h:zb E base w v l){cs:List Xq}(d:zg w b t cs)(a:t≠E.ty):∀g,v.ownBlock=Xa g->b≠g:=fun g a e=>by
 subst e
 rcases h.1.2 with⟨rfl,_⟩|⟨c,c,c,rfl,_,c,_⟩
 ·cases a
 simp only[Value.ownBlock,Option.some.injEq]at a;subst a;rw[d]at c
 grind
theorem zb.grown{base:Nat}{w:Xn}{a:Option Nat}{v:Xq}{l:List α}(h:zb E base w v l)(i:w.grownBy w' a)(c:∀g,v.ownBlock=Xa g->a≠Xa g):zb E base w' v l:=by
 refine⟨⟨h.1.1,?_⟩,h.2⟩
 rcases h.1.2 with a|⟨g,a,b,rfl,e,d,f⟩
 ·grind
 exact .inr ⟨g,a,b,rfl,e,by rw[i.block g (aS.1 d).1 (fun e=>c g rfl e.symm)];exact d,f⟩
def zP(E:Elt α)(base:Nat)(w:Xn)(v:Xq)(l:List α):Prop:=zj E w v l/\j0 base v
theorem zP.base{base:Nat}{w:Xn}{v:Xq}{l:List α}(h:zP E base w v l)(a:base'<=base):zP E base' w v l:=⟨h.1,fun x n c e=>nT a (h.2 x n c e)⟩
theorem zP.setCell{base:Nat}{w:Xn}{v:Xq}{l:List α}(h:zP E base w v l){a:Addr}(b:a.block<base)(u:Xq):zP E base (w.setCell a u) v l:=⟨h.1.setCell h.2 b u,h.2⟩
theorem zP.nil(E:Elt α)(base:Nat)(w):zP E base w (O Xb 0 0) ([]:List α):=⟨zj.nil E w,Zt _⟩
theorem zb.new{base:Nat}{w:Xn}{v:Xq}{l:List α}(h:zb E base w v l):zP E base w v l:=⟨h.at,h.fresh⟩
theorem Jh{w:Xn}{base:Nat}{v:Xq}{l:List α}(b)(a:zb E base w v l)(c:Nat):(Builtin.append_ #[E.st,E.st] b #[v,O Xb 0 c]).run prog w=.ok v w:=by
 obtain⟨b,b,_,d,_⟩:=info_parts E.aF
 rcases a.1.2 with⟨rfl,_⟩|⟨g,a,a,rfl,_,_,a,_⟩
 ·simp[Builtin.append_,run_underlying E.bT,sizeOf,typeInfo,b,Builtin.lenOf,Builtin.firstCells]
 simp[Builtin.append_,run_underlying E.bT,sizeOf,typeInfo,b,Builtin.lenOf,Builtin.firstCells,a,storeCells]
theorem zr{w:Xn}{rest:List Oper}{a:Act}(g:o.guard=Xb)(s x)(r:o.op=.call {callee:=.builtin .append,args:=#[s,x],argTypes:=#[E.st,E.st]})
  (base:Nat)(vs:Xq)(f:List α)(t:a.eval s=vs)(b:zb E base w vs f)(c:Xq)(l:List α)(u:a.eval x=c)(j:zj E w c l)(q:(f.length+l.length)*E.bytes<=140737488355328)(d:base<=w.heap.size)
  (n:∀h w',zb E base w' h (f++l)->w.grownBy w' vs.ownBlock->wpList prog ops Q rest (a.put o.dst h) w'):wpList prog ops Q (o::rest) a w:=by
 obtain⟨⟨i,m,rfl,e,c⟩,_⟩:=j
 cases i with
 |none=>
  have i:=e rfl;subst i;refine wpList_plain g fun K i=>?_
  have e:=Jh o.type b m;unfold Oper.wp execOp;simp only[r,resolve,invoke,builtin,Yd,Yj,rA,List.map_toArray,mP,List.map_nil,t,u,Yi,e];exact i _ _ (n vs w (by rw[List.append_nil];exact b) (World.grownBy.rfl' _ _))
 |some k=>
  obtain⟨y,v,e,i,j⟩:=info_parts E.aF;have p:(f.length+l.length)*1<=(f.length+l.length)*E.bytes:=Ob _ (nT E.pos E.few);refine wpList_append_own w g s x E.st r base E.ty y _ E.k E.bytes E.bT v e i j (znL E) E.pos vs f.length _ t b.1 k l.length m (l.flatMap E.enc) u (qB E l) (c k rfl) (qO E.one l) (jx Wm) q d fun h w' b p _=>?_
  exact n h w' ⟨by rw[lA,List.flatMap_append];exact b,Rx lA q⟩ p
theorem zam{x y:α}(j:Nat)(cs:List Xq)(b:E.enc y=splice (E.enc x) j cs)(e:j+cs.length<=E.k):∀(l:List α)(i:Nat),l[i]?=Xa x->splice (l.flatMap E.enc) (i*E.k+j) cs=(l.set i y).flatMap E.enc
 |[],i,hi=>by simp at hi
 |a::l,0,hi=>by
  simp at hi
  subst hi;have c:=E.len a;simp only[splice,Yc,Un,zA,sZ]at b⊢;rw[b,List.take_append_of_le_length Wm,Yz Wm]
  simp
 |a::l,i+1,hi=>by
  have c:=E.len a;have d:=zam j cs b e l i (Si hi)
  simp only[splice,Yc,sS]at d⊢;rw[<-d,Uo,Oc (i*E.k) E.k,Yw,<-c,Od,Yw,Oe,Yr]
theorem zt{w:Xn}{rest:List Oper}{a:Act}(d:o.guard=Xb)(p x t)(C:o.op=.store t p x)(base:Nat)(v:Xq)(l:List α)(b:zb E base w v l)
  (g i j:Nat)(A:v.ownBlock=Xa g)(e y:α)(hi:l[i]?=Xa e)(cs:List Xq)(f:(Tryz.prog.info? t).map (·.size)=Xa cs.length)(G:E.enc y=splice (E.enc e) j cs)(B:j+cs.length<=E.k)(q:∀u∈cs,u.oneCell'=Xc)
  (m:Addr)(hp:a.eval p=Xj (Xa m))(c:m=⟨g,i*E.k+j,Xb⟩)(k:Xq)(F:a.eval x=k)(h:k.cells=cs.toArray)
  (n:∀w',zb E base w' v (l.set i y)->w.grownBy w' (Xa g)->w'.heap.size=w.heap.size->wpList prog ops Q rest (a.put o.dst undef) w'):wpList prog ops Q (o::rest) a w:=by
 subst c;refine wpList_plain d fun K z=>?_
 have d:=(gS.1 hi).1;have c:i*E.k+j+cs.length<=l.length*E.k:=by
  have:(i+1)*E.k<=l.length*E.k:=Yy _ d;rw[Ub]at this;omega
 obtain⟨w',D,m,r,s⟩:=jn (P:=prog) b.1 A (i*E.k+j) cs c q;have d:(Go.sizeOf t).run prog w=.ok cs.length w:=by
  cases c:Tryz.prog.info? t with
  |none=>simp[c]at f
  |some i=>simp[c]at f;simp[Go.sizeOf,typeInfo,c,f]
 have c:(Instr.storeAt t (Xj (Xa ⟨g,i*E.k+j,Xb⟩)) k).run prog w=.ok () w':=by
  simp[Instr.storeAt,Instr.sureAddr,storeVar,Yd,d,Result.andThen,h,D]
 unfold Oper.wp;simp only[execOp,C,hp,F,Yd,c,Result.andThen,Yj,Oper.upon];rw[zam j cs G B l i hi]at m;exact z _ _ (n w' ⟨Rx Yp m,Rx Yp b.2⟩ r s)
theorem z7{w:Xn}{rest:List Oper}{a:Act}(e:o.guard=Xb)(p x)(q:o.op=.store E.ty p x)(base:Nat)(v:Xq)(l:List α)(b:zb E base w v l)
  (g i:Nat)(n:v.ownBlock=Xa g)(y:α)(hi:i<l.length)(c:Addr)(hp:a.eval p=Xj (Xa c))(d:c=⟨g,i*E.k,Xb⟩)(k:Xq)(r:a.eval x=k)(h:k.cells=(E.enc y).toArray)
  (m:∀w',zb E base w' v (l.set i y)->w.grownBy w' (Xa g)->w'.heap.size=w.heap.size->wpList prog ops Q rest (a.put o.dst undef) w'):wpList prog ops Q (o::rest) a w:=by
 obtain⟨f,f,_,j,_⟩:=info_parts E.aF;refine zt e p x E.ty q base v l b g i 0 n (l[i]) y (gE hi) (E.enc y) (by rw[f];simp[j,E.len]) ?_ (by rw[E.len];omega) (E.one y) c hp (Rr d) k r h m
 unfold splice;rw[List.take_zero,Ox,zA,Yn (by rw[E.len,E.len];exact nR _),List.append_nil]
theorem ze5(E:Elt α)(n:Nat):(madeCells E.zv.cells (n*E.k)).toList=(Xr n E.zero).flatMap E.enc:=by
 have e:((Xr n E.zero).flatMap E.enc).length=n*E.k:=by rw[qB E];simp
 have a:0<E.k:=E.pos
 apply Yf
 intro j
 rcases Yl j (n*E.k)with h|h
 ·have d:j=j/E.k*E.k+j%E.k:=by rw[Nat.mul_comm];exact(Nat.div_add_mod _ _).symm
  have b:j%E.k<E.k:=Nat.mod_lt _ a;have f:j/E.k<n:=(Nat.div_lt_iff_lt_mul a).2 h;have g:(E.enc E.zero)[j%E.k]?=Xa ((E.enc E.zero)[j%E.k]'(by rw[E.len];exact b)):=gE _
  have a:=Zu (enc:=E.enc) (k:=E.k) (Xr n E.zero) (j/E.k) E.zero (fun c _=>E.len c) (by simp[f]) (j%E.k) _ g
  rw[<-d]at a;rw[a]
  simp[madeCells,h,E.zok,E.len,b]
 rw[gN (by simp[madeCells];exact h),gN (Rx e h)]
theorem qr(E:Elt α){w:Xn}{rest:List Oper}{a:Act}(hgd:o.guard=Xb)(l:Operand)(ho:o.op=.makeSlice E.st l l)(n:Nat)(hl:a.eval l=Xe Xf n)(hn:n*E.bytes<=140737488355328)
  (h:∀C,zb E w.heap.size (w.alloc (Xk C E.ty)) (O (Xa ⟨w.heap.size,0,Xb⟩) n n) (Xr n E.zero)->wpList prog ops Q rest (a.put o.dst (O (Xa ⟨w.heap.size,0,Xb⟩) n n)) (w.alloc (Xk C E.ty))):wpList prog ops Q (o::rest) a w:=by
 refine wpList_plain hgd fun K hK=>?_
 obtain⟨i0,hi,hz0,hz1,hz2⟩:=info_parts E.aF;have h2:n*1<=n*E.bytes:=Ob _ (nT E.pos E.few);have hb:((E.bytes:Int)*(n:Int))<=140737488355328:=by
  obtain⟨B,hB⟩:=kB (n*E.bytes);rw[hB]at hn;rw[<-Int.natCast_mul,Nat.mul_comm,hB];omega
 have hrun:=run_make (P:=prog) w E.st E.ty i0 _ E.bT hi hz0 .i64 .i64 n n (by omega) (Int.le_refl _) (by rw[hz2];exact Int.le_trans hb (by omega)) (by omega)
 rw[hz1,tN]at hrun;unfold Oper.wp;simp only[execOp,ho,hl,Yd,hrun,Result.andThen,Yj,Oper.upon];refine hK _ _ (h _ ⟨⟨?_,.inr ⟨w.heap.size,n,madeCells E.zv.cells (n*E.k),by rw[lR],nR _,?_,?_,?_,?_,?_⟩⟩,by rw[lR];exact hn⟩)
 ·rw[qB E]
 ·show(w.heap.push _)[w.heap.size]?=_
  simp
 ·rw[lR];exact nR _
 ·exact jx (by omega)
 ·rw[size_madeCells]
 rw[lR,Ot (by simp[madeCells]),ze5 E]
end
structure Out(B0 B1:Nat)(w w':Xn):Prop where
 os:w'.os=w.os
 tape:w'.tape=w.tape
 output:w'.output=w.output
 size:w.heap.size<=w'.heap.size
 block:∀k,k<w.heap.size->(k<B0\/B1<=k)->w'.heap[k]?=w.heap[k]?
theorem Out.refl(B0 B1:Nat)(w):Out B0 B1 w w:=⟨rfl,rfl,rfl,nR _,fun _ _ _=>rfl⟩
theorem Out.trans{a b c:Xn}(h:Out B0 B1 a b)(k:Out B0 B1 b c):Out B0 B1 a c:=
 ⟨k.os.trans h.os,k.tape.trans h.tape,k.output.trans h.output,nT h.size k.size,fun i e d=>(k.block i (Yo e h.size) d).trans (h.block i e d)⟩
theorem Out.aA{a b:Xn}(h:zc a b):Out B0 B1 a b:=⟨Below.os h,Below.tape h,Below.output h,bS h,fun i c _=>Below.block h i c⟩
theorem Out.setCell(B0 B1:Nat)(w:Xn){p:Addr}(a:B0<=p.block)(b:p.block<B1)(u):Out B0 B1 w (w.setCell p u):=
 ⟨rfl,rfl,rfl,by simp[World.setCell],fun k _ a=>Below.heap_setCell _ _ _ _ Wm⟩
theorem Out.grown{w:Xn}{b:Option Nat}(a:w.grownBy w' b)(h:∀g,b=Xa g->B0<=g/\g<B1):Out B0 B1 w w':=
 ⟨a.os,a.tape,a.output,a.size,fun k b c=>a.block k b (fun e=>Hm (h k e.symm))⟩
theorem Out.wide{A0 A1:Nat}{a b:Xn}(h:Out A0 A1 a b)(c:B0<=A0)(d:A1<=B1):Out B0 B1 a b:=
 ⟨h.os,h.tape,h.output,h.size,fun i c d=>h.block i c Wm⟩
theorem Out.drew(w:Xn):Out B0 B1 w w.drew:=Out.aA (gW _)
theorem Out.bI{w:Xn}(h:zc w W)(b:w.heap.size<=B0)(k:Out B0 B1 W w'):zc w w':=
 (show Below _ _ _ from Below.trans h ⟨k.os,k.tape,k.output,k.size,fun i a=>k.block i (Yo a (bS h)) (.inl (Yo a b))⟩)
theorem Out.zero{w:Xn}(h:Out 0 0 w w'):zc w w':=⟨h.os,h.tape,h.output,h.size,fun k a=>h.block k a (.inr (nZ _))⟩
theorem Box.out{w:Xn}{cs:List Xq}(h:Box w b cs)(k:Out B0 B1 w w')(c:b<B0\/B1<=b):Box w' b cs:=by
 have a:=h.lt;obtain⟨t,h⟩:=h;exact⟨t,by rw[k.block b a c];exact h⟩
section
variable{α:Type}{E:Elt α}
def ziP(E:Elt α)(B0 B1:Nat)(w:Xn)(v:Xq)(l:List α):Prop:=∀w',Out B0 B1 w w'->zj E w' v l
theorem ziP.now{w:Xn}{v:Xq}{l:List α}(h:ziP E B0 B1 w v l):zj E w v l:=h w (Out.refl _ _ _)
theorem ziP.out{w:Xn}{v:Xq}{l:List α}(h:ziP E B0 B1 w v l)(k:Out B0 B1 w w'):ziP E B0 B1 w' v l:=fun b a=>h b (k.trans a)
theorem ziP.less{A0 A1:Nat}{w:Xn}{v:Xq}{l:List α}(h:ziP E B0 B1 w v l)(a:B0<=A0)(b:A1<=B1):ziP E A0 A1 w v l:=fun d c=>h d (c.wide a b)
theorem zj.stays(B1:Nat){w:Xn}{v:Xq}{l:List α}(h:zj E w v l)(a:w.heap.size<=B0)(b:zc w W):ziP E B0 B1 W v l:=fun _ k=>h.aA (k.bI b a)
theorem zj.s0{w:Xn}{v:Xq}{l:List α}(h:zj E w v l):ziP E 0 0 w v l:=fun _ k=>h.aA k.zero
theorem zP.stays{base:Nat}{w:Xn}{v:Xq}{l:List α}(h:zP E base w v l):ziP E 0 base w v l:=fun a k=>by
 obtain⟨⟨⟨b,c,a,d,e⟩,f⟩,g⟩:=h;refine⟨⟨b,c,a,d,fun x b j u c=>?_⟩,f⟩
 subst b;have b:=e x rfl j u c;have d:=World.block_lt_of_cell? _ _ b;have c:=g x _ _ a;rw[World.cell?_of_block (w:=w) (k.block _ d (.inr (Rx j2 c)))]
 exact b
theorem ZD(E:Elt α)(w:Xn)(x:α)(cs:Array Xq)(t)(a:cs=(E.enc x).toArray)(b:E.bytes<=140737488355328):zj E (w.alloc (Xk cs t)) (O (Xa ⟨w.heap.size,0,Xb⟩) 1 1) [x]:=by
 subst a;refine⟨⟨_,1,rfl,fun h=>(by cases h),fun y a=>?_⟩,Si b⟩
 grind[q8.aD]
end
def Cap:Xq->Prop
 |O _ n c=>n<=c
 |_=>True
theorem zb.cap{α:Type}{E:Elt α}{base:Nat}{w:Xn}{v:Xq}{l:List α}(h:zb E base w v l):Cap v:=by
 rcases h.1.2 with⟨rfl,_⟩|⟨g,a,a,rfl,_,_,a,_⟩
 ·exact nR _
 exact a
structure zk(D:Nat->Prop)(w w':Xn):Prop where
 os:w'.os=w.os
 tape:w'.tape=w.tape
 output:w'.output=w.output
 size:w.heap.size<=w'.heap.size
 block:∀k,k<w.heap.size->¬D k->w'.heap[k]?=w.heap[k]?
theorem zk.refl(D:Nat->Prop)(w):zk D w w:=⟨rfl,rfl,rfl,nR _,fun _ _ _=>rfl⟩
theorem zk.trans{D:Nat->Prop}{a b c:Xn}(h:zk D a b)(k:zk D b c):zk D a c:=
 ⟨k.os.trans h.os,k.tape.trans h.tape,k.output.trans h.output,nT h.size k.size,fun i e d=>(k.block i (Yo e h.size) d).trans (h.block i e d)⟩
theorem zk.aA{D:Nat->Prop}{a b:Xn}(h:zc a b):zk D a b:=⟨Below.os h,Below.tape h,Below.output h,bS h,fun i c _=>Below.block h i c⟩
theorem zk.wide{D c:Nat->Prop}{a b:Xn}(h:zk c a b)(d:∀k,c k->D k):zk D a b:=⟨h.os,h.tape,h.output,h.size,fun i e c=>h.block i e (fun e=>c (d i e))⟩
section
variable{α:Type}{E:Elt α}
def zhm(E:Elt α)(D:Nat->Prop)(w:Xn)(v:Xq)(l:List α):Prop:=∀w',zk D w w'->zj E w' v l
theorem zhm.out{D:Nat->Prop}{w:Xn}{v:Xq}{l:List α}(h:zhm E D w v l)(k:zk D w w'):zhm E D w' v l:=fun b a=>h b (k.trans a)
theorem zP.aN{base:Nat}{w:Xn}{v:Xq}{l:List α}(h:zP E base w v l){D:Nat->Prop}(i:∀k,D k->k<base):zhm E D w v l:=fun a k=>by
 obtain⟨⟨⟨b,c,a,d,e⟩,f⟩,g⟩:=h;refine⟨⟨b,c,a,d,fun x b j u c=>?_⟩,f⟩
 subst b;have b:=e x rfl j u c;have c:=World.block_lt_of_cell? _ _ b;have d:=g x _ _ a;rw[World.cell?_of_block (w:=w) (k.block _ c (fun e=>by have:=i _ e;rw[j2]at this;omega))]
 exact b
end
theorem zb.obj{α:Type}{E:Elt α}{base:Nat}{w:Xn}{v:Xq}{l:List α}(h:zb E base w v l)(a:v.ownBlock=Xa g):∃cs,w.heap[g]?=Xa (Xk cs E.ty (0,0)):=by
 rcases h.1.2 with⟨rfl,_⟩|⟨b,b,b,rfl,_,b,_⟩
 ·cases a
 simp only[Value.ownBlock,Option.some.injEq]at a
 grind
theorem zb.apart{α a:Type}{E:Elt α}{F:Elt a}{base:Nat}{w:Xn}{v u:Xq}{l:List α}{m:List a}(h:zb E base w v l)(k:zb F base' w u m)(b:E.ty≠F.ty):∀g,v.ownBlock=Xa g->u.ownBlock≠Xa g:=fun g a b=>by
 obtain⟨c,c⟩:=h.obj a;obtain⟨a,a⟩:=k.obj b
 grind
theorem zb.one{α:Type}{E:Elt α}{base n c:Nat}{w:Xn}{l:List α}(h:zb E base w (O (Xa ⟨g,0,Xb⟩) n c) l){i:Nat}{x:α}(d:l[i]?=Xa x):q8 w ((Addr.mk g 0 Xb).add (i*E.k)) (E.enc x):=by
 obtain⟨a,a,a,a⟩:=h.at.rows;obtain⟨b,b,b⟩:=a i _ d
 grind[zc.refl]
def bel(m n:Int):Bool:=decide (0<=m)&&decide (m<n)
theorem Zf{m n:Int}:bel m n=Xc↔0<=m/\m<n:=by simp[bel]
theorem znk{m n:Int}(h:¬(0<=m/\m<n)):bel m n=Xd:=by
 cases a:bel m n with
 |false=>rfl
 |true=>exact absurd (Zf.1 a) h
theorem zra{α:Type}{p:α->Bool}{fs:List α}{k:Nat}{q:α}(h:fs[k]?=Xa q)(a:p q=Xc):fs.any p=Xc:=Yb.2 ⟨q,mG h,a⟩
theorem zq9{α:Type}{p:α->Bool}{fs:List α}(a:∀(j:Nat)x,fs[j]?=Xa x->p x=Xd):fs.any p=Xd:=Yq.2 fun x a=>by grind[Xt]
theorem jI{α:Type}{l:List α}{k:Nat}{q:α}(h:l[k]?=Xa q):l.drop k=q::l.drop (k+1):=by
 grind[gS.1,List.drop_eq_getElem_cons]
theorem Zp{α:Type}{l:List α}{k:Nat}{q:α}(h:l[k]?=Xa q):l.take (k+1)=l.take k++[q]:=by
 rw[Yv,h];rfl
theorem zbG{α:Type}{A:α}{p k:Nat}{s:α}(h:List.lookup k [(p,A)]=Xa s):k=p/\s=A:=by grind
theorem zb.out{α:Type}{E:Elt α}{base:Nat}{w:Xn}{v:Xq}{l:List α}(h:zb E base w v l)(k:Out B0 B1 w w')(i:∀g,v.ownBlock=Xa g->g<B0\/B1<=g):zb E base w' v l:=by
 refine⟨⟨h.1.1,?_⟩,h.2⟩
 rcases h.1.2 with d|⟨g,a,b,rfl,e,c,f⟩
 ·exact .inl d
 exact .inr ⟨g,a,b,rfl,e,by rw[k.block g (aS.1 c).1 (i g rfl)];exact c,f⟩
theorem zmm{α:Type}{A B:α}{p q k:Nat}{s:α}(h:List.lookup k [(p,A),(q,B)]=Xa s):(k=p/\s=A)\/(k=q/\s=B):=by grind
theorem zj.beside{α:Type}{E:Elt α}{w:Xn}{a:Option Nat}{v:Xq}{l:List α}(h:zj E w v l)(g:w.grownBy w' a)(i:∀x n c,v=O (Xa x) n c->Xa x.block≠a):zj E w' v l:=by
 obtain⟨⟨b,c,a,d,e⟩,f⟩:=h;refine⟨⟨b,c,a,d,fun x d j u b=>?_⟩,f⟩
 subst d;exact g.cell (e x rfl j u b) (by rw[j2];exact i x _ _ a)
theorem znV{α:Type}{l:List α}{i:Nat}{v:α}(h:l[i]?=Xa v):l.set i v=l:=by
 apply Yf
 grind
theorem je{a b c:Xn}{d:Option Nat}(h:a.grownBy b d)(k:b.grownBy c d):a.grownBy c d:=
 ⟨k.os.trans h.os,k.tape.trans h.tape,k.output.trans h.output,nT h.size k.size,fun i d e=>(k.block i (Yo d h.size) e).trans (h.block i d e)⟩
theorem zdb{a b:Xn}(h:zc a b)(c:Option Nat):a.grownBy b c:=⟨Below.os h,Below.tape h,Below.output h,bS h,fun i c _=>Below.block h i c⟩
def pgv(p:Pg):List Xq:=[Xe Xg p.b0,Xe Xg p.b1,Xe Xg p.b2,Xe Xg p.b3,Xe Xg p.b4,Xe Xg p.b5,Xe Xg p.b6,Xe Xg p.b7]
def frv(a:Fr):List Xq:=[Xe Xg a.p.b0,Xe Xg a.p.b1,Xe Xg a.p.b2,Xe Xg a.p.b3,Xe Xg a.p.b4,Xe Xg a.p.b5,Xe Xg a.p.b6,Xe Xg a.p.b7,Xe Xf a.r,Xh a.u,Xh a.d,Xe Xf a.f,Xe Xf a.x]
theorem zrQ:(Tryz.prog.info? 93).map (fun i=>(i.zero,i.size,i.bytes))=Xa (Xa (Xi #[Xe Xg 0,Xe Xg 0,Xe Xg 0,Xe Xg 0,Xe Xg 0,Xe Xg 0,Xe Xg 0,Xe Xg 0,Xe Xf 0,Xh Xd,Xh Xd,Xe Xf 0,Xe Xf 0]),13,40):=by kernel_rfl
def frz:Xq:=Xi #[Xe Xg 0,Xe Xg 0,Xe Xg 0,Xe Xg 0,Xe Xg 0,Xe Xg 0,Xe Xg 0,Xe Xg 0,Xe Xf 0,Xh Xd,Xh Xd,Xe Xf 0,Xe Xf 0]
theorem zqX:frz.cells=(frv fr0).toArray:=rfl
theorem zqe(a):(frv a).length=13:=rfl
theorem zqd(a):∀u∈frv a,u.oneCell'=Xc:=fun u b=>by
 simp only[frv,mC,nM,or_false]at b
 rcases b with rfl|rfl|rfl|rfl|rfl|rfl|rfl|rfl|rfl|rfl|rfl|rfl|rfl<;>rfl
theorem zfo{a b:Fr}(h:zbb a b=Xc):a=b:=(zdg a b).1 h
theorem zoA{a b:Fr}(h:a≠b):zbb a b=Xd:=by
 cases c:zbb a b with
 |false=>rfl
 |true=>exact absurd (zfo c) h
def z9:Elt Fr where
 enc:=frv
 k:=13
 ty:=93
 st:=30
 bytes:=40
 zv:=frz
 zero:=fr0
 len:=zqe
 one:=zqd
 bT:=underlying30
 aF:=zrQ
 zok:=zqX
 few:=by decide
 pos:=by decide
theorem Q2{P:Program}(w E)(k:IntKind)(d:Nat)(xs c:Array Xq)(i:TypeInfo)(e:P.underlying E=Xa (.int k))(hi:P.info? E=Xa i)(q:i.size=1):
  ∀(a b:List Int)(o:Nat),a.length=b.length->(∀j v,a[j]?=Xa v->xs[o+j]?=Xa (.int k v))->(∀j v,b[j]?=Xa v->c[o+j]?=Xa (.int k v))->
   (Op.eqItems (d+1) E 1 xs c (List.range' o a.length)).run P w=.ok (decide (a=b)) w
 |[],[],_,_,_,_=>by simp[Op.eqItems]
 |[],_::_,_,h,_,_=>by simp at h
 |_::_,[],_,h,_,_=>by simp at h
 |x::a,y::b,o,h,l,m=>by
  have n:=l 0 x rfl;have p:=m 0 y rfl;have g:∀(f:Array Xq)v,f[o+0]?=Xa (.int k v)->(part E f (o*1)).run P w=.ok (.int k v) w:=fun f v f=>by
   rw[Nat.mul_one];exact run_part_plain w (by simp[Program.plainKey,e]) f
  have r:=Q2 w E k d xs c i e hi q a b (o+1) (Si h) (fun j v f=>by rw[Yw,Oc 1 j];exact l (j+1) v (Si f)) (fun j v f=>by rw[Yw,Oc 1 j];exact m (j+1) v (Si f))
  simp only[Yg,List.range'_succ,Op.eqItems,Yd,g xs x n,g c y p,rA,run_equalIn_int w d E k k x y e]
  by_cases c:x=y
  ·subst c
   simp[r]
  have:(x==y)=Xd:=Si c
  simp[this,c]
theorem zdR{P:Program}(w T E)(k:IntKind)(d n:Nat)(a b:List Int)(i:TypeInfo)(f:P.underlying T=Xa (.array n E))(e:P.underlying E=Xa (.int k))(hi:P.info? E=Xa i)(c:i.size=1)
  (g:a.length=n)(h:b.length=n):
  (Op.equalIn (d+2) T (Xi (a.map (Value.int k)).toArray) (Xi (b.map (Value.int k)).toArray)).run P w=.ok (decide (a=b)) w:=by
 have h:P.cellsOf E=1:=by simp[Program.cellsOf,hi,c]
 rw[run_equalIn_array w (d+1) _ _ f hi,h,Ua,<-g];exact Q2 w E k d _ _ i e hi c a b 0 Wm (fun j v c=>by simp[c]) (fun j v c=>by simp[c])
def ziT(W:Xn)(y:Addr)(a:Fr):Prop:=
 W.cell? y=Xa (Xe Xg a.p.b0)/\W.cell? {block:=y.block,off:=y.off+1}=Xa (Xe Xg a.p.b1)/\W.cell? {block:=y.block,off:=y.off+2}=Xa (Xe Xg a.p.b2)/\W.cell? {block:=y.block,off:=y.off+3}=Xa (Xe Xg a.p.b3)/\
 W.cell? {block:=y.block,off:=y.off+4}=Xa (Xe Xg a.p.b4)/\W.cell? {block:=y.block,off:=y.off+5}=Xa (Xe Xg a.p.b5)/\W.cell? {block:=y.block,off:=y.off+6}=Xa (Xe Xg a.p.b6)/\W.cell? {block:=y.block,off:=y.off+7}=Xa (Xe Xg a.p.b7)/\
 W.cell? {block:=y.block,off:=y.off+8}=Xa (Xe Xf a.r)/\W.cell? {block:=y.block,off:=y.off+9}=Xa (Xh a.u)/\W.cell? {block:=y.block,off:=y.off+10}=Xa (Xh a.d)/\W.cell? {block:=y.block,off:=y.off+11}=Xa (Xe Xf a.f)/\W.cell? {block:=y.block,off:=y.off+12}=Xa (Xe Xf a.x)
theorem q8.fr{y:Addr}{a:Fr}(h:q8 W y (frv a)):ziT W y a:=
 ⟨h 0 _ rfl,h 1 _ rfl,h 2 _ rfl,h 3 _ rfl,h 4 _ rfl,h 5 _ rfl,h 6 _ rfl,h 7 _ rfl,h 8 _ rfl,h 9 _ rfl,h 10 _ rfl,h 11 _ rfl,h 12 _ rfl⟩
def zjL(w:Xn)(a:Option Addr)(l:List Fr):Prop:=∀(j:Nat)x,l[j]?=Xa x->∃ad,a=Xa ad/\∀W,zc w W->ziT W (ad.add (j*13)) x
theorem zj.bC{w:Xn}{v:Xq}{l:List Fr}(h:zj z9 w v l):∃a c,v=O a l.length c/\zjL w a l:=by
 obtain⟨a,c,d,e⟩:=h.rows;refine⟨a,c,d,fun k x j=>?_⟩
 obtain⟨b,f,g⟩:=e k x j;exact⟨b,f,fun W i=>(g W i).fr⟩
theorem zrR:(Tryz.prog.info? 5).map (fun i=>(i.zero,i.size,i.bytes))=Xa (Xa (Xe Xg 0),1,1):=by kernel_rfl
theorem zbB(k:Nat)(a b c d e f g h i j l m n p q r:Int)(x):(Op.equalIn (k+2) 91 (Xi #[Xe Xg a,Xe Xg b,Xe Xg c,Xe Xg d,Xe Xg e,Xe Xg f,Xe Xg g,Xe Xg h]) (Xi #[Xe Xg i,Xe Xg j,Xe Xg l,Xe Xg m,Xe Xg n,Xe Xg p,Xe Xg q,Xe Xg r])).run prog x=.ok (zeV ⟨a,b,c,d,e,f,g,h⟩ ⟨i,j,l,m,n,p,q,r⟩) x:=by
 obtain⟨u,s,_,t,_⟩:=info_parts zrR;have:=zdR (P:=prog) x 91 5 .u8 k 8 [a,b,c,d,e,f,g,h] [i,j,l,m,n,p,q,r] u underlying91 underlying5 s t rfl rfl;rw[show zeV ⟨a,b,c,d,e,f,g,h⟩ ⟨i,j,l,m,n,p,q,r⟩=decide ([a,b,c,d,e,f,g,h]=[i,j,l,m,n,p,q,r])from by
  rw[Oy,zaS,decide_eq_true_iff];simp only[Pg.mk.injEq,List.cons.injEq,and_true]]
 exact this
theorem zrx(a b c e g h i j w:Int)(u d:Bool)(f x:Int)(k l m n p q r s y:Int)(z t:Bool)(v A:Int)(W):
  (Op.equalIn 10000 93 (Xi #[Xe Xg a,Xe Xg b,Xe Xg c,Xe Xg e,Xe Xg g,Xe Xg h,Xe Xg i,Xe Xg j,Xe Xf w,Xh u,Xh d,Xe Xf f,Xe Xf x]) (Xi #[Xe Xg k,Xe Xg l,Xe Xg m,Xe Xg n,Xe Xg p,Xe Xg q,Xe Xg r,Xe Xg s,Xe Xf y,Xh z,Xh t,Xe Xf v,Xe Xf A])).run prog W
   =.ok (zbb ⟨⟨a,b,c,e,g,h,i,j⟩,w,u,d,f,x⟩ ⟨⟨k,l,m,n,p,q,r,s⟩,y,z,t,v,A⟩) W:=by
 have D:Tryz.prog.underlying 93=Xa (.struct (Tryz.prog.fieldsOf 93)):=Kr
 have E:Tryz.prog.stoodInHeld 93=Xd:=Kr
 have B:=zbB 9997 a b c e g h i j k l m n p q r s;have u3:=underlying3;have C:=Tryz.isAgg3;have C:=Tryz.sizeOf3;have u4:=underlying4;have C:=Tryz.isAgg4;have C:=Tryz.sizeOf4;have C:=Tryz.isAgg91;have C:=Tryz.sizeOf91;rw[show zbb ⟨⟨a,b,c,e,g,h,i,j⟩,w,u,d,f,x⟩ ⟨⟨k,l,m,n,p,q,r,s⟩,y,z,t,v,A⟩=(zeV ⟨a,b,c,e,g,h,i,j⟩ ⟨k,l,m,n,p,q,r,s⟩&&(w==y)&&(u==z)&&(d==t)&&(f==v)&&(x==A))from rfl]
 generalize zeV ⟨a,b,c,e,g,h,i,j⟩ ⟨k,l,m,n,p,q,r,s⟩=P at B⊢
 rw[show(10000:Nat)=9999+1 from rfl,run_equalIn_agg W 9999 93 _ _ D E]
 simp only[Program.fieldsOf,underlying93]
 go_simp
 cases P
 ·simp
 by_cases a:w=y<;>by_cases b:u=z<;>by_cases c:d=t<;>by_cases e:f=v<;>by_cases g:x=A<;>simp[a,b,c,e,g]
theorem zI.step{P:Program}{a:Act}{w:Xn}{v:Xq}{K:Xq->Xn->Prop}(b:(execOp a.eval o).run P w=.ok (.value v) w')(h:K v w'):zI P o a w K:=by
 unfold zI;rw[b];exact h
def pgc(p:List Int):List Xq:=p.map (Value.int .u8)
def ptc(q:Int×List Int):List Xq:=Xe Xf q.1::pgc q.2
theorem ZB(p:List Int):(pgc p).length=p.length:=by simp[pgc]
theorem zcS(q:Int×List Int):(ptc q).length=q.2.length+1:=by simp[ptc,pgc]
theorem jt(p):∀u∈pgc p,u.oneCell'=Xc:=fun u a=>by
 obtain⟨x,_,rfl⟩:=Ya.1 a;rfl
theorem zeT(q:Int×List Int):∀u∈ptc q,u.oneCell'=Xc:=fun u a=>by
 rcases mC.1 a with rfl|h
 ·rfl
 exact jt _ u h
def qX(w:Xn)(v:Xq)(ps:List (List Int)):Prop:=jF pgc w v ps/\(∀p∈ps,p.length=8)/\ps.length*8<=140737488355328
def jD(w:Xn)(v:Xq)(qs:List (Int×List Int)):Prop:=jF ptc w v qs/\(∀q∈qs,q.2.length=8)/\qs.length*16<=140737488355328
theorem qX.aA{w:Xn}{v:Xq}{a:List (List Int)}(h:qX w v a)(b:zc w w'):qX w' v a:=⟨h.1.aA b,h.2⟩
theorem jD.aA{w:Xn}{v:Xq}{a:List (Int×List Int)}(h:jD w v a)(b:zc w w'):jD w' v a:=⟨h.1.aA b,h.2⟩
def zs(base:Nat)(w:Xn)(v:Xq)(ps:List (List Int)):Prop:=w.ownsRow base 91 8 v ps.length (ps.flatMap pgc)/\(∀p∈ps,p.length=8)/\ps.length*8<=140737488355328
def zu(base:Nat)(w:Xn)(v:Xq)(qs:List (Int×List Int)):Prop:=w.ownsRow base 117 9 v qs.length (qs.flatMap ptc)/\(∀q∈qs,q.2.length=8)/\qs.length*16<=140737488355328
theorem zs.at{base:Nat}{w:Xn}{v:Xq}{a:List (List Int)}(h:zs base w v a):qX w v a:=⟨ZV h.1,h.2⟩
theorem zu.at{base:Nat}{w:Xn}{v:Xq}{a:List (Int×List Int)}(h:zu base w v a):jD w v a:=⟨ZV h.1,h.2⟩
def QG(w:Xn)(d:Xq)(ps:List (List Int))(qs:List (Int×List Int)):Prop:=∃b q,d=Xi #[b,q]/\qX w b ps/\jD w q qs
theorem QG.aA{w:Xn}{d:Xq}{b:List (List Int)}{c:List (Int×List Int)}(h:QG w d b c)(a:zc w w'):QG w' d b c:=by
 obtain⟨b,q,c,e,f⟩:=h;exact⟨b,q,c,e.aA a,f.aA a⟩
theorem zc4(l:List Int)(i:l.length=8):∃a b c d e f g h,l=[a,b,c,d,e,f,g,h]:=by
 match l,i with
 |[a,b,c,d,e,f,g,h],_=>exact⟨a,b,c,d,e,f,g,h,rfl⟩
def zjI(W:Xn)(y:Addr)(m b0 b1 b2 b3 b4 b5 b6 b7:Int):Prop:=
 W.cell? y=Xa (Xe Xf m)/\W.cell? {block:=y.block,off:=y.off+1}=Xa (Xe Xg b0)/\W.cell? {block:=y.block,off:=y.off+2}=Xa (Xe Xg b1)/\W.cell? {block:=y.block,off:=y.off+3}=Xa (Xe Xg b2)/\
 W.cell? {block:=y.block,off:=y.off+4}=Xa (Xe Xg b3)/\W.cell? {block:=y.block,off:=y.off+5}=Xa (Xe Xg b4)/\W.cell? {block:=y.block,off:=y.off+6}=Xa (Xe Xg b5)/\W.cell? {block:=y.block,off:=y.off+7}=Xa (Xe Xg b6)/\W.cell? {block:=y.block,off:=y.off+8}=Xa (Xe Xg b7)
def zhn(W:Xn)(y:Addr)(b0 b1 b2 b3 b4 b5 b6 b7:Int):Prop:=
 W.cell? y=Xa (Xe Xg b0)/\W.cell? {block:=y.block,off:=y.off+1}=Xa (Xe Xg b1)/\W.cell? {block:=y.block,off:=y.off+2}=Xa (Xe Xg b2)/\W.cell? {block:=y.block,off:=y.off+3}=Xa (Xe Xg b3)/\
 W.cell? {block:=y.block,off:=y.off+4}=Xa (Xe Xg b4)/\W.cell? {block:=y.block,off:=y.off+5}=Xa (Xe Xg b5)/\W.cell? {block:=y.block,off:=y.off+6}=Xa (Xe Xg b6)/\W.cell? {block:=y.block,off:=y.off+7}=Xa (Xe Xg b7)
theorem q8.put{y:Addr}{m a b c d e f g i:Int}(h:q8 W y (ptc (m,[a,b,c,d,e,f,g,i]))):zjI W y m a b c d e f g i:=
 ⟨h 0 _ rfl,h 1 _ rfl,h 2 _ rfl,h 3 _ rfl,h 4 _ rfl,h 5 _ rfl,h 6 _ rfl,h 7 _ rfl,h 8 _ rfl⟩
theorem q8.aI{y:Addr}{a b c d e f g i:Int}(h:q8 W y (pgc [a,b,c,d,e,f,g,i])):zhn W y a b c d e f g i:=
 ⟨h 0 _ rfl,h 1 _ rfl,h 2 _ rfl,h 3 _ rfl,h 4 _ rfl,h 5 _ rfl,h 6 _ rfl,h 7 _ rfl⟩
def zdy(w:Xn)(a:Option Addr)(qs:List (Int×List Int)):Prop:=
 ∀(j:Nat)q,qs[j]?=Xa q->∃x m b0 b1 b2 b3 b4 b5 b6 b7,a=Xa x/\q=(m,[b0,b1,b2,b3,b4,b5,b6,b7])/\∀W,zc w W->zjI W (x.add (j*9)) m b0 b1 b2 b3 b4 b5 b6 b7
def zjJ(w:Xn)(a:Option Addr)(ps:List (List Int)):Prop:=
 ∀(j:Nat)p,ps[j]?=Xa p->∃x b0 b1 b2 b3 b4 b5 b6 b7,a=Xa x/\p=[b0,b1,b2,b3,b4,b5,b6,b7]/\∀W,zc w W->zhn W (x.add (j*8)) b0 b1 b2 b3 b4 b5 b6 b7
theorem jD.rows{w:Xn}{v:Xq}{d:List (Int×List Int)}(r:jD w v d):∃a c,v=O a d.length c/\zdy w a d:=by
 obtain⟨⟨a,c,s,t,u⟩,e,_⟩:=r;refine⟨a,c,s,fun D C f=>?_⟩
 have b:=mG f;obtain⟨B,A⟩:=C;obtain⟨h,i,j,l,m,n,p,q,rfl⟩:=zc4 A (e _ b)
 cases a with
 |none=>rw[t rfl]at b;cases b
 |some x=>exact⟨x,B,h,i,j,l,m,n,p,q,rfl,rfl,fun W y=>(((u x rfl).aA y).elem (k:=9) (fun g z=>by rw[zcS,e g z]) f).put⟩
theorem qX.rows{w:Xn}{v:Xq}{d:List (List Int)}(r:qX w v d):∃a c,v=O a d.length c/\zjJ w a d:=by
 obtain⟨⟨a,c,s,t,u⟩,e,_⟩:=r;refine⟨a,c,s,fun B A f=>?_⟩
 have b:=mG f;obtain⟨h,i,j,l,m,n,p,q,rfl⟩:=zc4 A (e _ b)
 cases a with
 |none=>rw[t rfl]at b;cases b
 |some x=>exact⟨x,h,i,j,l,m,n,p,q,rfl,rfl,fun W y=>(((u x rfl).aA y).elem (k:=8) (fun g z=>by rw[ZB,e g z]) f).aI⟩
theorem Jq(a)(n c:Nat)(q)(m:Int)(w):
  Xp prog 114 #[Xi #[O a n c,q],Xe Xf m] w fun e w'=>e=Xl (Xh (ZF m n))/\zc w w':=by
 have H:Xo (ZF m n=(decide (0<=m)&&decide (m<n))):=rfl
 by_cases b:0<=m
 ·by_cases b:m<n
  ·go_enter func114,ntmps114
   go_wp2;go_ret;exact⟨by rw[H.out];simp[*],(bR _ _).alloc (nR _) _⟩
  go_enter func114,ntmps114
  go_wp2;go_ret;exact⟨by rw[H.out];simp[*],(bR _ _).alloc (nR _) _⟩
 go_enter func114,ntmps114
 go_wp2;go_ret;exact⟨by rw[H.out];simp;omega,(bR _ _).alloc (nR _) _⟩
theorem zjP(a)(n c:Nat)(f)(B:Nat)(q:Int×List Int)(m:q.2.length=8)(w:Xn)(b:w.cell? ⟨B,0,Xb⟩=Xa (O a n c))(d:w.cell? ⟨B,1,Xb⟩=Xa f):
  Xp prog 113 #[Xi (ptc q).toArray,Xj (Xa ⟨B,0,Xb⟩)] w fun e w'=>e=Xl (Xh (!ZF q.1 n))/\zc w w':=by
 obtain⟨r,p⟩:=q;obtain⟨d,f,g,h,i,j,k,l,rfl⟩:=zc4 p m;have m:=World.block_lt_of_cell? _ _ b;have b:B≠w.heap.size:=by simp at m;omega
 show Xp prog 113 #[Xi #[Xe Xf r,Xe Xg d,Xe Xg f,Xe Xg g,Xe Xg h,Xe Xg i,Xe Xg j,Xe Xg k,Xe Xg l],Xj (Xa ⟨B,0,Xb⟩)] w _
 go_enter func113,ntmps113
 go_wp2_with(go_at_call 114;refine(Jq _ _ _ _ _ _).mono ?_;rintro e w'⟨rfl,b⟩)
 go_ret;exact⟨rfl,zc.trans ((bR _ _).alloc (nR _) _) b⟩
def zrP(p:Int×List Int->Bool)(qs:List (Int×List Int))(r:Int):Prop:=
 (r=-1/\∀(j:Nat)q,qs[j]?=Xa q->p q=Xd)\/∃(k:Nat)(q:Int×List Int),r=(k:Int)/\qs[k]?=Xa q/\p q=Xc/\∀(j:Nat)q',j<k->qs[j]?=Xa q'->p q'=Xd
def znu(g:Nat)(lb:Array Xq)(p:Int×List Int->Bool)(w:Xn):Prop:=
 ∀W q,zc w W->q.2.length=8->Xp prog g (#[Xi (ptc q).toArray]++lb) W fun e W'=>e=Xl (Xh (p q))/\zc W W'
theorem zfd(p:Int×List Int->Bool)(g:Nat)(lb:Array Xq)(a6:∀c w,(callFunc g c).run prog w=.ok (.enter g c) w)(v)(k:List (Int×List Int))(w)(z:jD w v k)(hp:znu g lb p w):
  Xp prog 164 #[v,.func (.func g) #[] lb] w fun e w'=>∃P:Int,e=Xl (Xe Xf P)/\zc w w'/\zrP p k P:=by
 obtain⟨W,X,rfl,d⟩:=z.rows;have m:k.length<=9223372036854775807:=Hm z.2.2
 have R:=dD d;have Q:=dD hp;clear d hp z;obtain⟨n,y⟩:=kB k.length;have B:=dD y;rw[y]at m⊢;clear y
 go_enter func164,ntmps164
 go_wp2
 go_loopg[5,8] n (fun S _ V wr=>∃b:Nat,b<=n/\n-b<=S/\V=Xe Xf b/\Xo (zc w wr)/\Xo (∀j q,j<b->k[j]?=Xa q->p q=Xd))
 exact⟨0,nZ _,Wm,rfl,zc.refl w,fun j q r=>absurd r (nL _)⟩
 obtain⟨b,T,a7,rfl,l,A⟩:=hrel
 by_cases h:b<n
 ·have t:=kC h
  have s:b<k.length:=Rx B.out h
  obtain⟨q,x⟩:∃q,Xo (k[b]?=Xa q):=⟨_,gE s⟩;obtain⟨a8,N,C,D,E,F,G,H,K,L,rfl,rfl,M⟩:=R.out b q x.out;obtain⟨Y,Z,I,a0,a1,a2,a3,a4,a5⟩:=M wr l.out;have a:=Q.out wr (N,[C,D,E,F,G,H,K,L]) l rfl;clear M s
  cases u:p (N,[C,D,E,F,G,H,K,L])with
  |true=>
   rw[u]at a
   go_wp2_with(go_at_fn g;refine a.mono ?_;rintro e w'⟨rfl,f⟩)
   go_ret;exact⟨_,rfl,l.trans f,.inr ⟨b,_,rfl,x,u,A⟩⟩
  |false=>
   rw[u]at a
   go_wp2_with(go_at_fn g;refine a.mono ?_;rintro e w'⟨rfl,f⟩)
   go_roundg (n-(b+1))
   case measure=>omega
   refine⟨b+1,Wm,Wm,Gn,l.trans f,(show Xo _ from fun j U r i=>?_)⟩
   by_cases e:j=b
   ·subst e;rw[x.out]at i;cases i;exact u
   exact A j U Wm i
 have t:=kD h
 have:b=n:=Wm
 subst this;go_wp2;go_ret;refine⟨_,rfl,l,.inl ⟨rfl,fun j q r=>A.out j q ?_ r⟩⟩
 have:=(gS.1 r).1;rw[B.out]at this;exact this
theorem zcl(p:Int×List Int->Bool)(g:Nat)(lb:Array Xq)(c:∀a w,(callFunc g a).run prog w=.ok (.enter g a) w)(v)(b:List (Int×List Int))(w)(d:jD w v b)(hp:znu g lb p w):
  Xp prog 112 #[v,.func (.func g) #[] lb] w fun e w'=>e=Xl (Xh (b.any p))/\zc w w':=by
 have a:=zfd p g lb c v b w d hp;clear d hp c
 go_enter func112,ntmps112
 go_wp2_with(go_at_call 164;refine a.mono ?_;rintro e w'⟨r,rfl,d,a⟩)
 go_ret;have c:b.any p=decide (0<=r):=by
  rcases a with⟨rfl,h⟩|⟨k,q,rfl,a,b,_⟩
  ·rw[show decide ((0:Int)<=-1)=Xd from rfl,Yq]
   intro q i;obtain⟨j,f⟩:=Xt i;rw[h j q f];simp
  rw[show decide ((0:Int)<=(k:Int))=Xc from Sm,Yb]
  exact⟨q,mG a,b⟩
 rw[c];exact⟨rfl,d⟩
theorem zhU(a)(n c:Nat)(g)(B:Nat)(w:Xn)(b:w.cell? ⟨B,0,Xb⟩=Xa (O a n c))(d:w.cell? ⟨B,1,Xb⟩=Xa g):
  znu 113 #[Xj (Xa ⟨B,0,Xb⟩)] (fun q=>!ZF q.1 n) w:=fun W q f h=>by
 have e:=World.block_lt_of_cell? _ _ b;exact zjP a n c g B q h W ((Below.cell f (p:=⟨B,0,Xb⟩) e).trans b) ((Below.cell f (p:=⟨B,1,Xb⟩) e).trans d)
theorem zaF(a)(n c:Nat)(r)(d:List (Int×List Int))(w)(l:jD w r d):
  Xp prog 60 #[Xi #[O a n c,r]] w fun e w'=>e=Xl (Xe Xf (zD n d))/\zc w w':=by
 have f:Xo (zD n d=if 80<n then 4 else if 400<d.length then 4 else if d.any (fun q=>!ZF q.1 n)then 3 else 0):=rfl
 obtain⟨g,h,rfl,_⟩:=l.rows;have b:=zcl (fun q=>!ZF q.1 n) 113 #[Xj (Xa ⟨w.heap.size,0,Xb⟩)] (enters_of func113 Kr rfl) (O g d.length h) d (w.alloc (Xk #[O a n c,O g d.length h] 38)) (l.aA (za _ _)) (zhU a n c (O g d.length h) _ _ Sm Sm)
 clear l;obtain⟨nq,t⟩:=kA d.length;rw[t.out]at b f⊢;obtain⟨u,s⟩:=kA (d.any fun q=>!ZF q.1 n)
 rw[s.out]at b f
 by_cases m:80<n
 ·have i:(80:Int)<(n:Int):=Wm
  rw[kE m]at f;clear b
  go_enter func60,ntmps60
  go_wp2;go_ret;exact⟨Rr f.out,za _ _⟩
 have i:¬(80:Int)<(n:Int):=Wm
 rw[kF m]at f
 by_cases p:400<nq
 ·have j:(400:Int)<(nq:Int):=Wm
  rw[kE p]at f;clear b
  go_enter func60,ntmps60
  go_wp2;go_ret;exact⟨Rr f.out,za _ _⟩
 have j:¬(400:Int)<(nq:Int):=Wm
 rw[kF p]at f
 cases u with
 |true=>
  go_enter func60,ntmps60
  go_wp2_with(go_at_call 112;refine b.mono ?_;rintro e w'⟨rfl,k⟩)
  go_ret;exact⟨Rr f.out,(za _ _).trans k⟩
 |false=>
  go_enter func60,ntmps60
  go_wp2_with(go_at_call 112;refine b.mono ?_;rintro e w'⟨rfl,k⟩)
  go_ret;exact⟨Rr f.out,(za _ _).trans k⟩
theorem QI(a)(n c:Nat)(h)(d:List (Int×List Int))(m:Int)(w)(g:jD w h d):
  Xp prog 210 #[Xi #[O a n c,h],Xe Xf m] w fun e w'=>e=Xl (Xe Xf (zn n d m))/\zc w w':=by
 have f:Xo (zn n d m=if zD n d=0 then(if ZF m n then 0 else 3)else zD n d):=rfl;have b:=zaF a n c h d (w.alloc (Xk #[O a n c,h] 38)) (g.aA (za _ _));clear g;obtain⟨r,g⟩:=kA (zD n d);rw[g.out]at b f
 by_cases j:r=0
 ·subst j;rw[kE rfl]at f
  cases i:ZF m n with
  |true=>
   rw[i]at f
   go_enter func210,ntmps210
   go_wp2_with(first
    |(go_at_call 60;refine b.mono ?_;rintro e w'⟨rfl,d⟩;have l:w'.cell? ⟨w.heap.size,0,Xb⟩=Xa (O a n c):=(Below.cell d Sm).trans Sm;have p:w'.cell? ⟨w.heap.size,1,Xb⟩=Xa h:=(Below.cell d Sm).trans Sm)
    |(go_at_call 114;refine(Jq _ _ _ _ _ _).mono ?_;rintro e k⟨rfl,g⟩;rw[i]))
   go_ret;exact⟨Rr f.out,((za _ _).trans d).trans g⟩
  |false=>
   rw[i]at f
   go_enter func210,ntmps210
   go_wp2_with(first
    |(go_at_call 60;refine b.mono ?_;rintro e w'⟨rfl,d⟩;have l:w'.cell? ⟨w.heap.size,0,Xb⟩=Xa (O a n c):=(Below.cell d Sm).trans Sm;have p:w'.cell? ⟨w.heap.size,1,Xb⟩=Xa h:=(Below.cell d Sm).trans Sm)
    |(go_at_call 114;refine(Jq _ _ _ _ _ _).mono ?_;rintro e k⟨rfl,g⟩;rw[i]))
   go_ret;exact⟨Rr f.out,((za _ _).trans d).trans g⟩
 have g:(r !=0)=Xc:=Si j
 rw[kF j]at f
 go_enter func210,ntmps210
 go_wp2_with(go_at_call 60;refine b.mono ?_;rintro e w'⟨rfl,d⟩)
 go_ret;exact⟨Rr f.out,(za _ _).trans d⟩
theorem zrS:(Tryz.prog.info? 91).map (fun i=>(i.zero,i.size,i.bytes))=Xa (Xa (Xi #[Xe Xg 0,Xe Xg 0,Xe Xg 0,Xe Xg 0,Xe Xg 0,Xe Xg 0,Xe Xg 0,Xe Xg 0]),8,8):=by kernel_rfl
theorem zrT:(Tryz.prog.info? 117).map (fun i=>(i.zero,i.size,i.bytes))=Xa (Xa (Xi #[Xe Xf 0,Xe Xg 0,Xe Xg 0,Xe Xg 0,Xe Xg 0,Xe Xg 0,Xe Xg 0,Xe Xg 0,Xe Xg 0]),9,16):=by kernel_rfl
theorem zae(v)(d:List (List Int))(w:Xn)(j:qX w v d):
  Xp prog 99 #[v] w fun e w'=>∃f,e=Xl f/\zs w.heap.size w' f d/\zc w w':=by
 obtain⟨⟨g,h,rfl,c,b⟩,i,a⟩:=j;have j:=fun w g n h k j=>Lib.run_eql_slice_nil w _ _ g n h k j underlying35
 cases g with
 |none=>
  have g:=c rfl;subst g;clear b c i a
  go_enter func99,ntmps99
  go_wp2;go_ret;exact⟨_,rfl,⟨World.ownsRow_nil _ _ _ _,Sm,Sm⟩,zc.refl w⟩
 |some x=>
  have A:=b x rfl;have k:=dD A;have g:=dD a;have j:=dD i;clear b c a i;obtain⟨l,i,a,b,c⟩:=info_parts zrS
  go_enter func99,ntmps99
  go_wp2_with(at_builtin;refine wpList_append_own _ rfl _ _ 35 rfl w.heap.size 91 l _ 8 8 underlying35 i a b c rfl Dc _ _ _ rfl (World.ownsRow_made w #[] 0 (nR _) (nZ _) Sm) x d.length h (d.flatMap pgc) rfl ?qc1 ?qc2 ?qc3 ?qc4 ?qc5 ?qc6 ?_)
  case qc1=>exact jf d fun p a=>by rw[ZB,j.out p a]
  case qc2=>exact k.aA (za _ _)
  case qc3=>exact qO jt d
  case qc4=>rw[zA];exact jx (Hm g.out)
  case qc5=>rw[zA];exact g.out
  case qc6=>simp
  intro f a b a c;go_wp2;go_ret;exact⟨f,rfl,⟨Si b,j,g⟩,((bR _ w).alloc (nR _) _).grown a Sm (by intro k a;simp[Value.ownBlock]at a;omega)⟩
theorem zfy(v)(d:List (Int×List Int))(w:Xn)(j:jD w v d):
  Xp prog 100 #[v] w fun e w'=>∃f,e=Xl f/\zu w.heap.size w' f d/\zc w w':=by
 obtain⟨⟨g,h,rfl,c,b⟩,i,a⟩:=j;have j:=fun w g n h k j=>Lib.run_eql_slice_nil w _ _ g n h k j underlying36
 cases g with
 |none=>
  have g:=c rfl;subst g;clear b c i a
  go_enter func100,ntmps100
  go_wp2;go_ret;exact⟨_,rfl,⟨World.ownsRow_nil _ _ _ _,Sm,Sm⟩,zc.refl w⟩
 |some x=>
  have A:=b x rfl;have k:=dD A;have g:=dD a;have j:=dD i;clear b c a i;obtain⟨l,i,a,b,c⟩:=info_parts zrT
  go_enter func100,ntmps100
  go_wp2_with(at_builtin;refine wpList_append_own _ rfl _ _ 36 rfl w.heap.size 117 l _ 9 16 underlying36 i a b c rfl Dc _ _ _ rfl (World.ownsRow_made w #[] 0 (nR _) (nZ _) Sm) x d.length h (d.flatMap ptc) rfl ?qc1 ?qc2 ?qc3 ?qc4 ?qc5 ?qc6 ?_)
  case qc1=>exact jf d fun p a=>by rw[zcS,j.out p a]
  case qc2=>exact k.aA (za _ _)
  case qc3=>exact qO zeT d
  case qc4=>rw[zA];exact jx (Hm g.out)
  case qc5=>rw[zA];exact g.out
  case qc6=>simp
  intro f a b a c;go_wp2;go_ret;exact⟨f,rfl,⟨Si b,j,g⟩,((bR _ w).alloc (nR _) _).grown a Sm (by intro k a;simp[Value.ownBlock]at a;omega)⟩
def zaE(base:Nat)(w:Xn)(d:Xq)(ps:List (List Int))(qs:List (Int×List Int)):Prop:=∃b q,d=Xi #[b,q]/\zs base w b ps/\zu base w q qs
theorem zs.aA{base:Nat}{w:Xn}{v:Xq}{a:List (List Int)}(h:zs base w v a)(b:zc w w'):zs base w' v a:=⟨Jj h.1 b,h.2⟩
theorem zu.aA{base:Nat}{w:Xn}{v:Xq}{a:List (Int×List Int)}(h:zu base w v a)(b:zc w w'):zu base w' v a:=⟨Jj h.1 b,h.2⟩
theorem zs.base{base:Nat}{w:Xn}{v:Xq}{a:List (List Int)}(h:zs base w v a)(b:base'<=base):zs base' w v a:=⟨ju h.1 b,h.2⟩
theorem zu.base{base:Nat}{w:Xn}{v:Xq}{a:List (Int×List Int)}(h:zu base w v a)(b:base'<=base):zu base' w v a:=⟨ju h.1 b,h.2⟩
theorem zs.slice{base:Nat}{w:Xn}{v:Xq}{b:List (List Int)}(h:zs base w v b):∃a n c,v=O a n c:=by
 rcases h.1.2 with⟨rfl,_⟩|⟨g,b,b,rfl,_⟩
 ·grind
 grind
theorem zu.slice{base:Nat}{w:Xn}{v:Xq}{b:List (Int×List Int)}(h:zu base w v b):∃a n c,v=O a n c:=by
 rcases h.1.2 with⟨rfl,_⟩|⟨g,b,b,rfl,_⟩
 ·grind
 grind
theorem zs.setCell{base:Nat}{w:Xn}{v:Xq}{b:List (List Int)}(h:zs base w v b){a:Addr}(c:a.block<base)(u):zs base (w.setCell a u) v b:=⟨ownsRow_setCell_below h.1 c u,h.2⟩
theorem zu.setCell{base:Nat}{w:Xn}{v:Xq}{b:List (Int×List Int)}(h:zu base w v b){a:Addr}(c:a.block<base)(u):zu base (w.setCell a u) v b:=⟨ownsRow_setCell_below h.1 c u,h.2⟩
def zZ(base:Nat)(w:Xn)(d:Xq)(ps:List (List Int))(qs:List (Int×List Int)):Prop:=∃b q,d=Xi #[b,q]/\qX w b ps/\jD w q qs/\j0 base b/\j0 base q
theorem zZ.base{base:Nat}{w:Xn}{d:Xq}{b:List (List Int)}{c:List (Int×List Int)}(h:zZ base w d b c)(a:base'<=base):zZ base' w d b c:=by
 obtain⟨b,q,c,e,f,g,i⟩:=h;exact⟨b,q,c,e,f,fun x n c e=>nT a (g x n c e),fun x n c e=>nT a (i x n c e)⟩
theorem zZ.setCell{base:Nat}{w:Xn}{d:Xq}{b:List (List Int)}{c:List (Int×List Int)}(i:zZ base w d b c){a:Addr}(g:a.block<base)(u):zZ base (w.setCell a u) d b c:=by
 obtain⟨h,q,j,b,c,e,f⟩:=i;exact⟨h,q,j,⟨b.1.setCell e g u,b.2⟩,⟨c.1.setCell f g u,c.2⟩,e,f⟩
theorem zs.fresh{base:Nat}{w:Xn}{v:Xq}{a:List (List Int)}(h:zs base w v a):j0 base v:=fun x n c e=>by
 rcases h.1.2 with⟨b,_⟩|⟨g,a,a,b,a,_⟩
 ·grind
 grind
theorem zu.fresh{base:Nat}{w:Xn}{v:Xq}{a:List (Int×List Int)}(h:zu base w v a):j0 base v:=fun x n c e=>by
 rcases h.1.2 with⟨b,_⟩|⟨g,a,a,b,a,_⟩
 ·grind
 grind
theorem zaE.new{base:Nat}{w:Xn}{d:Xq}{a:List (List Int)}{b:List (Int×List Int)}(h:zaE base w d a b):zZ base w d a b:=by
 obtain⟨c,q,e,a,b⟩:=h;exact⟨c,q,e,a.at,b.at,a.fresh,b.fresh⟩
theorem zcV(d)(g:List (List Int))(h:List (Int×List Int))(w:Xn)(b:QG w d g h):
  Xp prog 53 #[d] w fun e w'=>∃a,e=Xl a/\zaE w.heap.size w' a g h/\zc w w':=by
 obtain⟨a,q,rfl,c,a⟩:=b;have E:=dD c;have F:=dD a;obtain⟨l,n,rfl,_⟩:=c.rows;obtain⟨m,q,rfl,_⟩:=a.rows;clear c a
 go_enter func53,ntmps53
 go_wp2;obtain⟨a,b⟩:=kB ((w.alloc (Xk #[O l g.length n,O m h.length q] 38)).alloc (Xk #[O Xb 0 0,O Xb 0 0] 38));have i:=gD2 b
 have k:Xo (a.heap.size=w.heap.size+2):=dD<|by rw[<-b];simp
 have A:a.cell? ⟨w.heap.size,0,Xb⟩=Xa (O l g.length n):=by rw[<-b];simp
 have B:a.cell? ⟨w.heap.size,1,Xb⟩=Xa (O m h.length q):=by rw[<-b];simp
 have r:a.cell? ⟨w.heap.size+1,0,Xb⟩=Xa (O Xb 0 0):=by rw[<-b];simp
 have s:a.cell? ⟨w.heap.size+1,1,Xb⟩=Xa (O Xb 0 0):=by rw[<-b];simp
 have C:a.frozen? ⟨w.heap.size+1,0,Xb⟩=Xd:=by rw[<-b];simp
 have D:a.frozen? ⟨w.heap.size+1,1,Xb⟩=Xd:=by rw[<-b];simp
 rw[b];have y:=fun x:zf a=>(Below.cell x.aA (World.block_lt_of_cell? _ _ A)).trans A
 have z:=fun x:zf a=>(Below.cell x.aA (World.block_lt_of_cell? _ _ B)).trans B
 have t:Nonempty (zf a):=⟨⟨_,zc.refl _⟩⟩;refine jc 7 [(2,⟨fun f=>∃a u j,f=O a u j,fun f w'=>zs (w.heap.size+2) w' f g⟩),(5,⟨fun f=>∃a u j,f=O a u j,fun f w'=>zu (w.heap.size+2) w' f h⟩)] zU Kr rfl rfl Dc ?_ ?_ ?_
 ·intro x a
  simp at a
  rcases a with rfl|rfl
  ·exact⟨_,Xb,0,0,rfl⟩
  exact⟨_,Xb,0,0,rfl⟩
 ·intro x a
  simp at a
  rcases a with rfl|rfl
  ·intro f u x a j;exact j.aA a
  intro f u x a j;exact j.aA a
 simp only[List.take,List.drop];iterate 2 refine ze ?_
 refine zz rfl rfl (fun w' a j=>?_) (fun G u=>?_)
 ·refine zI.call [O l g.length n] rfl func99 rfl rfl rfl ?_;refine(zae _ g w' (E.aA (i.out.trans a))).mono ?_;rintro e g⟨E,rfl,c,f⟩;exact⟨_,rfl,f,c.slice,c.base (by have:=bS a;rw[k.out]at this;exact this)⟩
 obtain⟨l,x,n,rfl⟩:=u;refine Uq ?_;iterate 2 refine ze ?_
 refine zz rfl rfl (fun w' a j=>?_) (fun G u=>?_)
 ·refine zI.call [O m h.length q] rfl func100 rfl rfl rfl ?_;refine(zfy _ h w' (F.aA (i.out.trans a))).mono ?_;rintro e g⟨E,rfl,c,f⟩;exact⟨_,rfl,f,c.slice,c.base (by have:=bS a;rw[k.out]at this;exact this)⟩
 obtain⟨h,m,k,rfl⟩:=u;refine Uq ?_;refine ze ?_
 refine zH fun w' a j=>?_
 have c:=dD<|j 2;have f:=dD<|j 5;have g:=(Below.cell a (World.block_lt_of_cell? _ _ r)).trans r;have g:=(Below.cell a (World.block_lt_of_cell? _ _ s)).trans s;have g:=(Below.frozen a (World.block_lt_of_cell? _ _ r)).trans C;have g:=(Below.frozen a (World.block_lt_of_cell? _ _ s)).trans D;have g:=dD (i.out.trans a);clear j A B r s C D y z b a t;go_wp2;refine bodyPost_ret (v:=Xi #[O l x n,O h m k]) (by simp[results,Tryz.results53,go_sem, *]) rfl ⟨_,rfl,⟨_,_,rfl,((c.out.setCell Sm _).setCell Sm _).base Wm,((f.out.setCell Sm _).setCell Sm _).base Wm⟩,?_⟩
 exact Below.setCell (Below.setCell g (p:=⟨w.heap.size+1,0,Xb⟩) Sm _) (p:=⟨w.heap.size+1,1,Xb⟩) Sm _
def siv(z:Int):List Xq:=[Xe Xf z]
theorem zrU:(Tryz.prog.info? 3).map (fun i=>(i.zero,i.size,i.bytes))=Xa (Xa (Xe Xf 0),1,8):=by kernel_rfl
def slE:Elt Int where
 enc:=siv
 k:=1
 ty:=3
 st:=34
 bytes:=8
 zv:=Xe Xf 0
 zero:=0
 len:=fun _=>rfl
 one:=fun a u hu=>by
  simp only[siv,mC,nM,or_false]at hu;subst hu;rfl
 bT:=underlying34
 aF:=zrU
 zok:=rfl
 few:=by decide
 pos:=by decide
def zns(w:Xn)(a:Option Addr)(l:List Int):Prop:=∀(j:Nat)x,l[j]?=Xa x->∃ad,a=Xa ad/\∀W,zc w W->W.cell? (ad.add j)=Xa (Xe Xf x)
theorem zj.sls{w:Xn}{v:Xq}{l:List Int}(h:zj slE w v l):∃a c,v=O a l.length c/\zns w a l:=by
 obtain⟨a,c,b,d⟩:=h.rows;refine⟨a,c,b,fun j x g=>?_⟩
 obtain⟨b,e,f⟩:=d j x g;refine⟨b,e,fun W b=>?_⟩
 have:=f W b 0 _ rfl;rw[jh,show j*slE.k+0=j from by show j*1+0=j;omega]at this
 exact this
def niv(z:Int):List Xq:=[Xe Xf z]
theorem zrV:(Tryz.prog.info? 3).map (fun i=>(i.zero,i.size,i.bytes))=Xa (Xa (Xe Xf 0),1,8):=by kernel_rfl
def blE:Elt Int where
 enc:=niv
 k:=1
 ty:=3
 st:=33
 bytes:=8
 zv:=Xe Xf 0
 zero:=0
 len:=fun _=>rfl
 one:=fun a u hu=>by
  simp only[niv,mC,nM,or_false]at hu;subst hu;rfl
 bT:=underlying33
 aF:=zrV
 zok:=rfl
 few:=by decide
 pos:=by decide
def znv(w:Xn)(a:Option Addr)(l:List Int):Prop:=∀(j:Nat)x,l[j]?=Xa x->∃ad,a=Xa ad/\∀W,zc w W->W.cell? (ad.add j)=Xa (Xe Xf x)
theorem zj.bA{w:Xn}{v:Xq}{l:List Int}(h:zj blE w v l):∃a c,v=O a l.length c/\znv w a l:=by
 obtain⟨a,c,b,d⟩:=h.rows;refine⟨a,c,b,fun j x g=>?_⟩
 obtain⟨b,e,f⟩:=d j x g;refine⟨b,e,fun W b=>?_⟩
 have:=f W b 0 _ rfl;rw[jh,show j*blE.k+0=j from by show j*1+0=j;omega]at this
 exact this
end
section
def zg3(fs:List Fl)(cnt:Int):Int:=if stW fs cnt=0 then(if fs.length=5 then 4 else 0)else stW fs cnt
def znI(fs:List Fl)(cnt:Int):List Fl:=if zg3 fs cnt=0 then fs++[⟨0,[]⟩]else[]
def zqp(fs:List Fl)(cnt:Int):Int:=if zg3 fs cnt=0 then cnt else 0
def zqo(fs:List Fl)(cnt:Int):Int:=if zg3 fs cnt=0 then(fs.length:Int)else 0
def inL(n:Nat)(k:Int):Bool:=decide (0<=k)&&decide (k<(n:Int))
def zlb(fs:List Fl)(k:Int):List Int:=match fs[k.toNat]? with|some f=>f.bl|none=>[]
def zqK(fs:List Fl)(k:Int):Int:=match fs[k.toNat]? with|some f=>f.size|none=>0
def zfJ(fs:List Fl)(cnt k n:Int):Int:=if stW fs cnt=0 then(if inL fs.length k=Xc then(if 0<=n/\n<=96 then 0 else 3)else 5)else stW fs cnt
def zho(fs:List Fl)(cnt k n:Int):List Fl:=if zfJ fs cnt k n=0 then fs.set k.toNat ⟨n,zbt (zlb fs k) (zbQ n).toNat⟩else[]
def znF(fs:List Fl)(cnt k n:Int):Int:=if zfJ fs cnt k n=0 then cnt else 0
def jM(fs:List Fl)(cnt k x:Int):Int:=if stW fs cnt=0 then(if inL fs.length k=Xc then(if inL (zlb fs k).length x=Xc then(if(zlb fs k).getD x.toNat 0=-1 then(if Za fs cnt=[]then 10 else 0)else 0)else 9)else 5)else stW fs cnt
def zpo(fs:List Fl)(cnt k x:Int):Int:=if(zlb fs k).getD x.toNat 0=-1 then(((Za fs cnt).headD 0:Nat):Int)else(zlb fs k).getD x.toNat 0
def ziH(fs:List Fl)(cnt k x:Int):Int:=if jM fs cnt k x=0 then zpo fs cnt k x else 0
def zhr(fs:List Fl)(cnt k x:Int):List Fl:=if jM fs cnt k x=0 then fs.set k.toNat ⟨zqK fs k,(zlb fs k).set x.toNat (zpo fs cnt k x)⟩else[]
def zlm(fs:List Fl)(cnt k x:Int):Int:=if jM fs cnt k x=0 then cnt else 0
theorem Qi{n:Nat}{k:Int}:inL n k=Xc↔0<=k/\k<(n:Int):=by simp[inL]
theorem zm7(fs:List Fl)(a:Int):
  (stW fs a≠0/\zg3 fs a=stW fs a/\znI fs a=[]/\zqp fs a=0/\zqo fs a=0)\/
  (stW fs a=0/\fs.length=5/\zg3 fs a=4/\znI fs a=[]/\zqp fs a=0/\zqo fs a=0)\/
  (stW fs a=0/\fs.length<5/\zg3 fs a=0/\znI fs a=fs++[⟨0,[]⟩]/\zqp fs a=a/\zqo fs a=(fs.length:Int)):=by
 have d:∀z,zg3 fs a=z->z≠0->znI fs a=[]/\zqp fs a=0/\zqo fs a=0:=fun z h f=>by
  have:¬zg3 fs a=0:=Wm
  exact⟨kF this,kF this,kF this⟩
 by_cases b:stW fs a=0
 ·have e:=((qi fs a).1 b).1.1
  by_cases c:fs.length=5
  ·have h:zg3 fs a=4:=by unfold zg3;rw[kE b,kE c]
   exact .inr (.inl ⟨b,c,h,d _ h Dc⟩)
  have h:zg3 fs a=0:=by unfold zg3;rw[kE b,kF c]
  exact .inr (.inr ⟨b,Wm,h,kE h,kE h,kE h⟩)
 have h:zg3 fs a=stW fs a:=by unfold zg3;rw[kF b]
 exact .inl ⟨b,h,d _ h b⟩
theorem zlP(fs:List Fl)(a k n:Int):
  (stW fs a≠0/\zfJ fs a k n=stW fs a/\zho fs a k n=[]/\znF fs a k n=0)\/
  (stW fs a=0/\¬(0<=k/\k<(fs.length:Int))/\zfJ fs a k n=5/\zho fs a k n=[]/\znF fs a k n=0)\/
  (stW fs a=0/\∃(i:Nat)(f:Fl),k=(i:Int)/\fs[i]?=Xa f/\¬(0<=n/\n<=96)/\zfJ fs a k n=3/\zho fs a k n=[]/\znF fs a k n=0)\/
  (stW fs a=0/\∃(i:Nat)(f:Fl),k=(i:Int)/\fs[i]?=Xa f/\(0<=n/\n<=96)/\zfJ fs a k n=0/\zho fs a k n=fs.set i ⟨n,zbt f.bl (zbQ n).toNat⟩/\znF fs a k n=a):=by
 have g:∀z,zfJ fs a k n=z->z≠0->zho fs a k n=[]/\znF fs a k n=0:=fun z h b=>by
  have:¬zfJ fs a k n=0:=Wm
  exact⟨kF this,kF this⟩
 by_cases b:stW fs a=0
 ·by_cases d:0<=k/\k<(fs.length:Int)
  ·obtain⟨i,rfl⟩:∃i:Nat,k=(i:Int):=⟨k.toNat,Wm⟩
   obtain⟨f,e⟩:∃f,fs[i]?=Xa f:=⟨_,gE Wm⟩
   have j:=Qi.2 d
   by_cases c:0<=n/\n<=96
   ·have h:zfJ fs a i n=0:=by unfold zfJ;rw[kE b,kE j,kE c]
    refine .inr (.inr (.inr ⟨b,i,f,rfl,e,c,h,?_,kE h⟩));unfold zho zlb;rw[kE h,tN,e]
   have h:zfJ fs a i n=3:=by unfold zfJ;rw[kE b,kE j,kF c]
   exact .inr (.inr (.inl ⟨b,i,f,rfl,e,c,h,g _ h Dc⟩))
  have h:zfJ fs a k n=5:=by unfold zfJ;rw[kE b,kF (Rx Qi d)]
  exact .inr (.inl ⟨b,d,h,g _ h Dc⟩)
 have h:zfJ fs a k n=stW fs a:=by unfold zfJ;rw[kF b]
 exact .inl ⟨b,h,g _ h b⟩
theorem zni(fs:List Fl)(a k x:Int):
  (stW fs a≠0/\jM fs a k x=stW fs a/\zhr fs a k x=[]/\zlm fs a k x=0/\ziH fs a k x=0)\/
  (stW fs a=0/\¬(0<=k/\k<(fs.length:Int))/\jM fs a k x=5/\zhr fs a k x=[]/\zlm fs a k x=0/\ziH fs a k x=0)\/
  (stW fs a=0/\∃(i:Nat)(f:Fl),k=(i:Int)/\fs[i]?=Xa f/\¬(0<=x/\x<(f.bl.length:Int))/\jM fs a k x=9/\zhr fs a k x=[]/\zlm fs a k x=0/\ziH fs a k x=0)\/
  (stW fs a=0/\∃(i:Nat)(f:Fl)(j:Nat)(b:Int),k=(i:Int)/\fs[i]?=Xa f/\x=(j:Int)/\f.bl[j]?=Xa b/\0<=b/\b<a/\jM fs a k x=0/\zhr fs a k x=fs/\zlm fs a k x=a/\ziH fs a k x=b)\/
  (stW fs a=0/\∃(i:Nat)(f:Fl)(j:Nat),k=(i:Int)/\fs[i]?=Xa f/\x=(j:Int)/\f.bl[j]?=Xa (-1)/\Za fs a=[]/\jM fs a k x=10/\zhr fs a k x=[]/\zlm fs a k x=0/\ziH fs a k x=0)\/
  (stW fs a=0/\∃(i:Nat)(f:Fl)(j:Nat)(b:Nat)(l:List Nat),k=(i:Int)/\fs[i]?=Xa f/\x=(j:Int)/\f.bl[j]?=Xa (-1)/\Za fs a=b::l/\jM fs a k x=0/\zhr fs a k x=fs.set i ⟨f.size,f.bl.set j (b:Int)⟩/\zlm fs a k x=a/\ziH fs a k x=(b:Int)):=by
 have A:∀z,jM fs a k x=z->z≠0->zhr fs a k x=[]/\zlm fs a k x=0/\ziH fs a k x=0:=fun z h C=>by
  have:¬jM fs a k x=0:=Wm
  exact⟨kF this,kF this,kF this⟩
 by_cases c:stW fs a=0
 ·by_cases u:0<=k/\k<(fs.length:Int)
  ·obtain⟨i,rfl⟩:∃i:Nat,k=(i:Int):=⟨k.toNat,Wm⟩
   obtain⟨f,d⟩:∃f,fs[i]?=Xa f:=⟨_,gE Wm⟩
   have r:=Qi.2 u;have g:zlb fs (i:Int)=f.bl:=by unfold zlb;rw[tN,d]
   have y:zqK fs (i:Int)=f.size:=by unfold zqK;rw[tN,d]
   by_cases v:0<=x/\x<(f.bl.length:Int)
   ·obtain⟨j,rfl⟩:∃j:Nat,x=(j:Int):=⟨x.toNat,Wm⟩
    obtain⟨b,n⟩:∃b,f.bl[j]?=Xa b:=⟨_,gE Wm⟩
    have e:=Qi.2 v;have m:f.bl.getD (j:Int).toNat 0=b:=by rw[tN,gD,n];rfl
    by_cases p:b=-1
    ·subst p
     cases q:Za fs a with
     |nil=>
      have h:jM fs a i j=10:=by unfold jM;rw[kE c,kE r,g,kE e,m,kE rfl,kE q]
      exact .inr (.inr (.inr (.inr (.inl ⟨c,i,f,j,rfl,d,rfl,n,rfl,h,A _ h Dc⟩))))
     |cons b l=>
      have h:jM fs a i j=0:=by unfold jM;rw[kE c,kE r,g,kE e,m,kE rfl,kF (by rw[q];simp)]
      have s:zpo fs a i j=(b:Int):=by unfold zpo;rw[g,m,kE rfl,q];rfl
      refine .inr (.inr (.inr (.inr (.inr ⟨c,i,f,j,b,l,rfl,d,rfl,n,rfl,h,?_,kE h,?_⟩))))
      ·grind[zhr,tN]
      grind[ziH]
    have h:jM fs a i j=0:=by unfold jM;rw[kE c,kE r,g,kE e,m,kF p]
    have s:zpo fs a i j=b:=by unfold zpo;rw[g,m,kF p]
    have B:=(((qi fs a).1 c).2.1 f (mG d)).2.2 b (mG n);refine .inr (.inr (.inr (.inl ⟨c,i,f,j,b,rfl,d,rfl,n,Wm,Wm,h,?_,kE h,?_⟩)))
    ·unfold zhr;rw[kE h,s,g,y,tN,tN];have t:f.bl.set j b=f.bl:=by grind[gS.1,Oz]
     rw[t];obtain⟨w,rfl⟩:=gS.1 d;exact Oz w
    grind[ziH]
   grind[jM,Qi]
  grind[jM,Qi]
 grind[jM,stW]
theorem zjF(f:Fl):∀(fs:List Fl)(i:Nat)(b:Fl),fs[i]?=Xa b->QZ (fs.set i f)=QZ (fs.take i)++(f.bl++QZ (fs.drop (i+1)))/\QZ fs=QZ (fs.take i)++(b.bl++QZ (fs.drop (i+1)))
 |[],i,b,h=>by simp at h
 |a::l,0,b,h=>by
  simp at h
  subst h
  simp[QZ]
 |a::l,i+1,b,h=>by
  obtain⟨c,d⟩:=zjF f l i b (Si h)
  unfold QZ at c d⊢;simp only[sS,Yc,List.take_succ_cons,List.drop_succ_cons,Yr];rw[c,<-d];exact⟨rfl,rfl⟩
theorem zol{fs:List Fl}{a:Int}(h:b∈Za fs a):(b:Int)<a/\(b:Int)∉QZ fs:=by grind[Za,Xx.1,Xs.1,zeL]
theorem zpR{A C l:List Int}{b:Int}(a:l[j]?=Xa (-1)):∀x,x≠-1->(x∈A++(l.set j b++C)↔(x∈A++(l++C)\/x=b)):=fun x c=>by
 have c:=(gS.1 a).1;have:x∈l.set j b↔x∈l\/x=b:=by
  constructor
  ·grind
  rintro(h|rfl)
  ·obtain⟨a,c⟩:=Xt h
   by_cases e:a=j
   ·grind
   exact mG (i:=a) (by rw[sN (fun h=>e h.symm)];exact c)
  grind[mG,sF]
 grind
theorem zj5{l:List Int}(b:Int)(a:b≠-1)(d:l[j]?=Xa (-1)):Z5 (l.set j b)=Z5 (l.take j)++(b::Z5 (l.drop (j+1)))/\Z5 l=Z5 (l.take j)++Z5 (l.drop (j+1)):=by
 obtain⟨a,c⟩:=gS.1 d;have d:l.set j b=l.take j++b::l.drop (j+1):=List.set_eq_take_append_cons_drop.trans (kE a);have a:l=l.take j++(-1)::l.drop (j+1):=by
  rw[<-c,List.getElem_cons_drop,List.take_append_drop]
 unfold Z5;constructor
 ·grind
 grind
theorem zmc{A B C:List Int}{b:Int}(h:(A++(B++C)).Nodup)(a:b∉A)(c:b∉B++C):(A++((B++(b::C)))).Nodup:=by grind
theorem zkA{fs:List Fl}{a:Int}{i:Nat}{f:Fl}(h:stW fs a=0)(e:fs[i]?=Xa f)(p:f.bl[j]?=Xa (-1))(l:b∈Za fs a):
  stW (fs.set i ⟨f.size,f.bl.set j (b:Int)⟩) a=0/\(Za (fs.set i ⟨f.size,f.bl.set j (b:Int)⟩) a).length+1=(Za fs a).length:=by
 obtain⟨c,d⟩:=zol l;obtain⟨⟨c,q,r⟩,s,n⟩:=(qi fs a).1 h;obtain⟨m,k⟩:=zjF ⟨f.size,f.bl.set j (b:Int)⟩ fs i f e;have g:(b:Int)≠-1:=Wm
 constructor
 ·refine(qi _ _).2 ⟨⟨Rx Yp c,q,r⟩,fun c c=>?_,?_⟩
  ·rcases Yh c with c|rfl
   ·grind
   obtain⟨c,q,r⟩:=s f (mG e);refine⟨c,by simp only[Yp];exact q,fun c e=>?_⟩
   rcases Yh e with e|rfl
   ·grind
   grind
  obtain⟨q,r⟩:=zj5 (b:Int) g p;have g:∀A B:List Int,Z5 (A++B)=Z5 A++Z5 B:=fun A B=>Of ..
  rw[m,g,g,q,Yr];rw[k,g,g,r,Yr]at n;rw[k]at d;have q:∀L:List Int,(b:Int)∉L->(b:Int)∉Z5 L:=fun L h g=>h (Xx.1 g).1
  have g:(b:Int)∉Z5 (f.bl.take j)++(Z5 (f.bl.drop (j+1))++Z5 (QZ (fs.drop (i+1)))):=by grind
  exact zmc n (q _ (fun h=>d (Yt.2 (.inl h)))) g
 have g:∀c:Nat,z4 (fs.set i ⟨f.size,f.bl.set j (b:Int)⟩) (c:Int)=(z4 fs (c:Int)||decide (c=b)):=fun c=>by
  rw[Oy,Ow,zeL,zeL,m,k,zpR p _ Wm,decide_eq_true_eq,Int.ofNat_inj]
 have d:Za (fs.set i ⟨f.size,f.bl.set j (b:Int)⟩) a=(Za fs a).erase b:=by
  have h:(Za fs a).Nodup:=List.Nodup.sublist List.filter_sublist List.nodup_range;rw[List.Nodup.erase_eq_filter h];unfold Za;rw[Uj]
  congr 1
  funext c
  rw[g c]
  by_cases e:c=b<;>simp[e]
 rw[d,Ok l];have:=List.length_pos_of_mem l;omega
end
section
open Go.RowKit
structure FlV where
 size:Int
 a:Option Addr
 n:Nat
 c:Nat
def FlV.v(x:FlV):Xq:=O x.a x.n x.c
def flv(x:FlV):List Xq:=[Xe Xf x.size,O x.a x.n x.c]
theorem zrW:(Tryz.prog.info? 159).map (fun i=>(i.zero,i.size,i.bytes))=Xa (Xa (Xi #[Xe Xf 0,O Xb 0 0]),2,32):=by kernel_rfl
def fvE:Elt FlV where
 enc:=flv
 k:=2
 ty:=159
 st:=39
 bytes:=32
 zv:=Xi #[Xe Xf 0,O Xb 0 0]
 zero:=⟨0,Xb,0,0⟩
 len:=fun _=>rfl
 one:=fun a u hu=>by
  simp only[flv,mC,nM,or_false]at hu
  rcases hu with rfl|rfl<;>rfl
 bT:=underlying39
 aF:=zrW
 zok:=rfl
 few:=by decide
 pos:=by decide
def z8(B0 B1:Nat)(w:Xn)(v:Xq)(fs:List Fl):Prop:=
 Cap v/\∃xs:List FlV,ziP fvE B0 B1 w v xs/\xs.length=fs.length/\∀(i:Nat)x f,xs[i]?=Xa x->fs[i]?=Xa f->x.size=f.size/\ziP blE B0 B1 w (O x.a x.n x.c) f.bl
def qe(w:Xn)(v:Xq)(fs:List Fl):Prop:=z8 0 0 w v fs
theorem z8.out{w:Xn}{v:Xq}{fs:List Fl}(h:z8 B0 B1 w v fs)(k:Out B0 B1 w w'):z8 B0 B1 w' v fs:=by
 obtain⟨d,e,b,c,a⟩:=h;exact⟨d,e,b.out k,c,fun i x f c b=>⟨(a i x f c b).1,(a i x f c b).2.out k⟩⟩
theorem z8.aA{w:Xn}{v:Xq}{fs:List Fl}(h:z8 B0 B1 w v fs)(k:zc w w'):z8 B0 B1 w' v fs:=h.out (Out.aA k)
theorem z8.less{A0 A1:Nat}{w:Xn}{v:Xq}{fs:List Fl}(h:z8 B0 B1 w v fs)(a:B0<=A0)(b:A1<=B1):z8 A0 A1 w v fs:=by
 obtain⟨c,g,d,f,e⟩:=h;exact⟨c,g,d.less a b,f,fun i x f d c=>⟨(e i x f d c).1,(e i x f d c).2.less a b⟩⟩
theorem qe.aA{w:Xn}{v:Xq}{fs:List Fl}(h:qe w v fs)(k:zc w w'):qe w' v fs:=z8.aA h k
theorem z8.nil(B0 B1:Nat)(w):z8 B0 B1 w (O Xb 0 0) []:=⟨nR _,[],fun a _=>zj.nil fvE a,rfl,fun i x f a=>by simp at a⟩
def znB(W:Xn)(y:Addr)(s:Int)(b:Xq):Prop:=W.cell? y=Xa (Xe Xf s)/\W.cell? {block:=y.block,off:=y.off+1}=Xa b
def zjM(w:Xn)(a:Option Addr)(fs:List Fl):Prop:=∀(j:Nat)f,fs[j]?=Xa f->∃ad,a=Xa ad/\∃xa xc,zj blE w (O xa f.bl.length xc) f.bl/\∀W,zc w W->znB W (ad.add (j*2)) f.size (O xa f.bl.length xc)
theorem qe.rows{w:Xn}{v:Xq}{fs:List Fl}(h:qe w v fs):∃a c,v=O a fs.length c/\fs.length<=9223372036854775807/\zjM w a fs:=by
 obtain⟨_,i,d,b,l⟩:=h;obtain⟨a,c,e,g⟩:=d.now.rows;refine⟨a,c,Ry b e,Ry b d.now.short,fun j k e=>?_⟩
 obtain⟨x,f⟩:∃x,i[j]?=Xa x:=⟨_,gE (by rw[b];exact(gS.1 e).1)⟩
 obtain⟨h,i,d⟩:=g j x f;obtain⟨g,m⟩:=l j x k f e;have b:=m.now;obtain⟨⟨e,e,e,_⟩,_⟩:=id b;cases x;simp only at g b e;cases e;subst g;refine⟨h,i,_,_,b,fun W b=>⟨?_,?_⟩⟩
 ·exact d W b 0 _ rfl
 exact d W b 1 _ rfl
theorem zdv(m n:Int)(w):
  Xp prog 27 #[Xe Xf m,Xe Xf n] w fun e w'=>e=Xl (Xh (bel m n))/\w'=w:=by
 have H:Xo (bel m n=(decide (0<=m)&&decide (m<n))):=rfl
 by_cases a:0<=m
 ·by_cases a:m<n
  ·go_enter func27,ntmps27
   go_wp2;go_ret;exact⟨by rw[H.out];simp[*],rfl⟩
  go_enter func27,ntmps27
  go_wp2;go_ret;exact⟨by rw[H.out];simp[*],rfl⟩
 go_enter func27,ntmps27
 go_wp2;go_ret;exact⟨by rw[H.out];simp;omega,rfl⟩
theorem j1{m n:Int}(a:0<=m)(b:m<n)(w):Xp prog 27 #[Xe Xf m,Xe Xf n] w fun e w'=>e=Xl (Xh Xc)/\w'=w:=by
 have:=zdv m n w;rw[Zf.2 ⟨a,b⟩]at this;exact this
theorem JV{m n:Int}(h:¬(0<=m/\m<n))(w):Xp prog 27 #[Xe Xf m,Xe Xf n] w fun e w'=>e=Xl (Xh Xd)/\w'=w:=by
 have:=zdv m n w;rw[znk h]at this;exact this
theorem zlZ{a b:Int}(h:a=b):Ending.returned (Xe Xf a)=Xl (Xe Xf b):=by rw[h]
theorem zbi(n:Int)(w)(a:0<=n)(b:n<=96):
  Xp prog 149 #[Xe Xf n] w fun e w'=>e=Xl (Xe Xf (zbQ n))/\w'=w:=by
 by_cases h:n<1
 ·have H:Xo (zbQ n=0):=dD<|by unfold zbQ;rw[kE h]
  go_enter func149,ntmps149
  go_wp2;go_ret;exact⟨zlZ H.symm,rfl⟩
 have H:Xo (zbQ n=(n-1)/8+1):=dD<|by unfold zbQ;rw[kF h]
 go_enter func149,ntmps149
 go_wp2;go_ret;exact⟨zlZ H.symm,rfl⟩
theorem zg9(v fs)(w:Xn)(h:zj blE w v fs):
  Xp prog 102 #[v] w fun e w'=>∃d,e=Xl d/\zb blE w.heap.size w' d fs/\zc w w':=by
 have i:=dD h;obtain⟨⟨f,g,rfl,b,c⟩,a⟩:=h;have h:=fun w f n g j h=>Lib.run_eql_slice_nil w _ _ f n g j h underlying33
 cases f with
 |none=>
  have f:=b rfl;subst f;clear c b a
  go_enter func102,ntmps102
  go_wp2;go_ret;exact⟨_,rfl,zb.nil _ _ _,zc.refl w⟩
 |some x=>
  have f:=dD a;clear c b a
  go_enter func102,ntmps102
  go_wp2_with(at_builtin;refine zr (E:=blE) rfl (.tmp 5) (.tmp 6) rfl w.heap.size _ [] rfl (zb.made blE w) _ fs rfl (i.aA (za _ _)) ?qb Sm ?_)
  case qb=>rw[Yi,zA];exact f.out
  intro d a b a;go_wp2;go_ret;exact⟨d,rfl,Si b,((bR _ w).alloc (nR _) _).grown a Sm (by intro k a;simp[Value.ownBlock]at a;omega)⟩
theorem zfz(v)(fs:List FlV)(w:Xn)(h:zj fvE w v fs):
  Xp prog 101 #[v] w fun e w'=>∃d,e=Xl d/\zb fvE w.heap.size w' d fs/\zc w w':=by
 have i:=dD h;obtain⟨⟨f,g,rfl,b,c⟩,a⟩:=h;have h:=fun w f n g j h=>Lib.run_eql_slice_nil w _ _ f n g j h underlying39
 cases f with
 |none=>
  have f:=b rfl;subst f;clear c b a
  go_enter func101,ntmps101
  go_wp2;go_ret;exact⟨_,rfl,zb.nil _ _ _,zc.refl w⟩
 |some x=>
  have f:=dD a;clear c b a
  go_enter func101,ntmps101
  go_wp2_with(at_builtin;refine zr (E:=fvE) rfl (.tmp 5) (.tmp 6) rfl w.heap.size _ [] rfl (zb.made fvE w) _ fs rfl (i.aA (za _ _)) ?qb Sm ?_)
  case qb=>rw[Yi,zA];exact f.out
  intro d a b a;go_wp2;go_ret;exact⟨d,rfl,Si b,((bR _ w).alloc (nR _) _).grown a Sm (by intro k a;simp[Value.ownBlock]at a;omega)⟩
def zV(base:Nat)(w:Xn)(v:Xq)(fs:List Fl):Prop:=
 ∃xs:List FlV,zb fvE base w v xs/\xs.length=fs.length/\(∀(i:Nat)x f,xs[i]?=Xa x->fs[i]?=Xa f->x.size=f.size/\zb blE base w x.v f.bl)/\
  ∀(i j:Nat)x y,i≠j->xs[i]?=Xa x->xs[j]?=Xa y->∀g,x.v.ownBlock=Xa g->y.v.ownBlock≠Xa g
theorem zV.new{base:Nat}{w:Xn}{v:Xq}{fs:List Fl}(h:zV base w v fs):z8 0 base w v fs:=by
 obtain⟨d,a,c,b,_⟩:=h;exact⟨a.cap,d,a.new.stays,c,fun i x f c a=>⟨(b i x f c a).1,(b i x f c a).2.new.stays⟩⟩
theorem zV.aA{base:Nat}{w:Xn}{v:Xq}{fs:List Fl}(h:zV base w v fs)(k:zc w w'):zV base w' v fs:=by
 obtain⟨e,b,c,a,d⟩:=h;exact⟨e,b.aA k,c,fun i x f c b=>⟨(a i x f c b).1,(a i x f c b).2.aA k⟩,d⟩
theorem zV.setCell{base:Nat}{w:Xn}{v:Xq}{fs:List Fl}(h:zV base w v fs){a:Addr}(c:a.block<base)(u):zV base (w.setCell a u) v fs:=by
 obtain⟨f,d,e,b,g⟩:=h;exact⟨f,d.setCell c u,e,fun i x f e d=>⟨(b i x f e d).1,(b i x f e d).2.setCell c u⟩,g⟩
theorem Qo:blE.ty≠fvE.ty:=by decide
theorem zV.setBox{base:Nat}{w:Xn}{v:Xq}{fs:List Fl}(h:zV base w v fs){cs:List Xq}(e:zg w b t cs)(j:t≠fvE.ty)(k:t≠blE.ty)(i:Nat)(u:Xq):zV base (w.setCell ⟨b,i,Xb⟩ u) v fs:=by
 obtain⟨n,g,l,d,m⟩:=h;exact⟨n,g.aQ (g.ne e j) u,l,fun i x f c a=>⟨(d i x f c a).1,(d i x f c a).2.aQ ((d i x f c a).2.ne e k) u⟩,m⟩
structure zqB(base:Nat)(w:Xn)(kk:Nat)(xs ys:List FlV)(fs:List Fl):Prop where
 len:ys.length=xs.length
 own:∀(i:Nat)y f,i<kk->ys[i]?=Xa y->fs[i]?=Xa f->y.size=f.size/\zb blE base w y.v f.bl
 rest:∀(i:Nat),kk<=i->ys[i]?=xs[i]?
 two:∀(i j:Nat)x y,i<kk->j<kk->i≠j->ys[i]?=Xa x->ys[j]?=Xa y->∀g,x.v.ownBlock=Xa g->y.v.ownBlock≠Xa g
theorem zqB.step{base:Nat}{w:Xn}{xs z:List FlV}{fs:List Fl}(j:zqB base w kk xs z fs)(V:zc w w1)(F:w1.grownBy w2 (Xa g)){f:Fl}{x:FlV}(M:fs[kk]?=Xa f)(Y:xs[kk]?=Xa x)
  (W:x.size=f.size){a:Option Addr}{n c:Nat}(e:zb blE w.heap.size w1 (O a n c) f.bl)(U:base<=w.heap.size){v:Xq}(X:zb fvE base w1 v z)(K:v.ownBlock=Xa g):zqB base w2 (kk+1) xs (z.set kk ⟨x.size,a,n,c⟩) fs:=by
 have H:kk<z.length:=by rw[j.len];exact(gS.1 Y).1
 have k:∀(y:FlV)(L:List Int),zb blE base w1 y.v L->zb blE base w2 y.v L:=fun y L N=>N.grown F (fun p D B=>by
  cases B;exact X.apart N (Ne.symm Qo) g K D)
 refine⟨Rx Yp j.len,fun i y d t r b=>?_,fun i t=>?_,fun i C P Q t a0 G u q p l=>?_⟩
 ·by_cases B:i=kk
  ·subst B;rw[sF H]at r;cases r;rw[M]at b;cases b;exact⟨W,k ⟨x.size,a,n,c⟩ _ (e.base U)⟩
  rw[sN (fun j=>B j.symm)]at r
  obtain⟨Z,I⟩:=j.own i y d Wm r b
  exact⟨Z,k y _ (I.aA V)⟩
 ·rw[sN Wm]
  exact j.rest i Wm
 have h:∀(i:Nat)y d,i<kk->z[i]?=Xa y->fs[i]?=Xa d->∀A,y.v.ownBlock=Xa A->A<w.heap.size:=fun i y d t r b A E=>((j.own i y d t r b).2.lt A E).2
 have s:∀i,i<kk->∃d,fs[i]?=Xa d:=fun i t=>⟨_,gE (Hm ((gS.1 M).1))⟩
 by_cases R:i=kk
 ·subst R;rw[sF H]at u;cases u;rw[sN Wm]at q
  obtain⟨d,b⟩:=s C Wm
  intro m;have D:=h C Q d Wm q b p m
  have T:=(e.lt p l).1;omega
 rw[sN Wm]at u
 by_cases S:C=kk
 ·subst S;rw[sF H]at q;cases q;obtain⟨d,b⟩:=s i Wm
  intro m;have D:=h i P d Wm u b p l
  have T:=(e.lt p m).1;omega
 rw[sN Wm]at q
 exact j.two i C P Q Wm Wm G u q p l
theorem zqB.all{base:Nat}{w:Xn}{xs a:List FlV}{fs:List Fl}{v:Xq}(h:zqB base w xs.length xs a fs)(b:xs.length=fs.length)(c:zb fvE base w v a):zV base w v fs:=by
 refine⟨a,c,h.len.trans b,fun i y f a b=>h.own i y f (by rw[<-h.len];exact(gS.1 a).1) a b,fun i j p q a b c=>h.two i j p q ?_ ?_ a b c⟩
 ·rw[<-h.len];exact(gS.1 b).1
 rw[<-h.len];exact(gS.1 c).1
theorem Jk(v fs)(i:Int)(w:Xn)(b3:qe w v fs):
  Xp prog 54 #[Xi #[v,Xe Xf i]] w fun e w'=>∃b,e=Xl (Xi #[b,Xe Xf i])/\zV (w.heap.size+2) w' b fs/\zc w w'/\w.heap.size+2<=w'.heap.size:=by
 obtain⟨_,y,S,ag,a1⟩:=b3;have a8:=dD S.now;have ao:Xo (∀(k:Nat)x f,y[k]?=Xa x->fs[k]?=Xa f->x.size=f.size/\zj blE w (O x.a x.n x.c) f.bl):=show∀(k:Nat)x f,_ from fun k x f af ae=>⟨(a1 k x f af ae).1,(a1 k x f af ae).2.now⟩
 have a7:=dD ag;have G:=S.now.short;obtain⟨ax,ay,rfl,_⟩:=S.now.rows;clear S ag a1;obtain⟨n,l⟩:=kA y.length;rw[l.out]at G a8⊢;obtain⟨B,c⟩:=kB ((w.alloc (Xk #[O ax n ay,Xe Xf i] 41)).alloc (Xk #[O Xb 0 0,Xe Xf 0] 41));have r:=gD2 c
 have av:=x2a c
 have aw:=x2b c
 have h:Xo (B.heap.size=w.heap.size+2):=dD<|by rw[<-c];simp
 have V:Xo (_=B):=c;clear c
 go_enter func54,ntmps54
 go_wp2_with fail;rw[V.out];refine(zfz _ y B (a8.aA r)).mono ?_;rintro e b6⟨bc,rfl,g,ab⟩;obtain⟨a4,T,rfl⟩:=g.form;rw[h.out]at g;rw[l.out]at g⊢;have ap:=dD g;have aj:=dD ab;clear g ab;go_wp2
 go_loopg[4,10] n (fun b0 _ a3 wr=>∃(a:Nat)(z:List FlV),a<=n/\n-a<=b0/\a3=Xe Xf a/\Xo (zc B wr)/\Xo (zb fvE (w.heap.size+2) wr (O a4 n T) z)/\Xo (zqB (w.heap.size+2) wr a y z fs))
 exact⟨0,y,nZ _,Wm,rfl,aj,ap,⟨rfl,fun k b5 f I=>absurd I (nL _),fun k _=>rfl,fun k bb x b5 I=>absurd I (nL _)⟩⟩
 obtain⟨a,z,b2,b1,rfl,m,R,A⟩:=hrel
 by_cases j:a<n
 ·have M:=kC j
  obtain⟨q,U⟩:∃q,Xo (y[a]?=Xa q):=⟨_,gE (Rx l.out j)⟩
  obtain⟨f,a6⟩:∃f,Xo (fs[a]?=Xa f):=⟨_,gE (by rw[<-a7.out,l.out];exact j)⟩
  have a9:Xo (z[a]?=Xa q):=dD<|by rw[A.rest a (nR _)];exact U.out
  obtain⟨F,b4,L⟩:=R.aJ (by rw[A.len,l.out];omega)
  rw[A.len,l.out]at L;cases L;obtain⟨ah,ai⟩:=ao.out a q f U a6.out;have au:=dD ah;have K:=zg9 _ f.bl wr (ai.aA (r.trans m));obtain⟨b8,ba,N,d⟩:=R.at.rows;obtain⟨b9,Z,H⟩:=d a q a9.out;rw[A.len,l.out]at N;cases N;cases Z;have az:wr.cell? ⟨F,a*2+1,Xb⟩=Xa (O q.a q.n q.c):=by
   have:=H wr (zc.refl _) 1 _ rfl;rw[jh,Addr.add_lit,zA]at this;exact this
  clear ah ai d H;go_wp2_with fail;refine K.mono ?_;rintro e b7⟨bd,rfl,u,Y⟩;obtain⟨C,D,rfl⟩:=u.form;have aa:=dD u;have a5:=dD Y;have s:=dD (R.aA Y);have am:Xo (w.heap.size+2<=wr.heap.size):=show _<=_ by
   have:=bS m.out;rw[h.out]at this;exact this
  clear u Y K az
  generalize f.bl.length=P at aa⊢
  go_wp2_with(refine zt (E:=fvE) rfl (.tmp 22) (.tmp 20) 33 rfl (w.heap.size+2) _ z s F a 1 rfl q ⟨q.size,C,P,D⟩ a9.out [O C P D] ?s1 rfl ?s2 ?s3 ⟨F,a*2+1,Xb⟩ rfl rfl (O C P D) rfl rfl ?_)
  case s1=>kernel_rfl
  case s2=>exact nR 2
  case s3=>simp;rfl
  intro W Q t _;have aq:Xo (zb fvE (w.heap.size+2) W (O (Xa ⟨F,0,Xb⟩) n T) (z.set a ⟨q.size,C,P,D⟩)):=Q;have al:Xo (zqB (w.heap.size+2) W (a+1) y (z.set a ⟨q.size,C,P,D⟩) fs):=A.step a5 t a6 U au aa am s rfl;have ak:Xo (zc B W):=show zc _ _ from zd (m.trans a5) t (by
   rw[h.out];exact(s.lt F rfl).1)
  clear Q t;go_wp2
  go_roundg (n-(a+1));exact⟨a+1,_,Wm,Wm,Gn,ak,aq,al⟩;omega
 have M:=kD j
 have:a=n:=Wm
 subst this;have ar:Xo (zV (w.heap.size+2) wr (O a4 a T) fs):=dD<|by
  have ac:=A.out;rw[<-l.out]at ac;exact ac.all a7 R.out
 have be:=(av.aA m).c 1 rfl;have X:=aw.aA m.out;obtain⟨bf,bg⟩:=X.k2;have bh:=X.f;have an:=dD (r.trans m);go_wp2;refine bodyPost_ret (v:=Xi #[O a4 a T,Xe Xf i]) (by simp[results,Tryz.results54,go_sem, *]) rfl ⟨_,rfl,(ar.setCell Sm _).setCell Sm _,?_,?_⟩
 ·exact Below.setCell (Below.setCell an (p:=⟨w.heap.size+1,0,Xb⟩) Sm _) (p:=⟨w.heap.size+1,1,Xb⟩) Sm _
 have:=bS m.out;rw[h.out]at this
 simp[World.setCell]
 exact this
def env(e:En):List Xq:=[Xe Xf e.kind,Xe Xf e.n,Xh e.wr]
theorem zrX:(Tryz.prog.info? 127).map (fun i=>(i.zero,i.size,i.bytes))=Xa (Xa (Xi #[Xe Xf 0,Xe Xf 0,Xh Xd]),3,24):=by kernel_rfl
def enE:Elt En where
 enc:=env
 k:=3
 ty:=127
 st:=72
 bytes:=24
 zv:=Xi #[Xe Xf 0,Xe Xf 0,Xh Xd]
 zero:=en0
 len:=fun _=>rfl
 one:=fun a u hu=>by
  simp only[env,mC,nM,or_false]at hu
  rcases hu with rfl|rfl|rfl<;>rfl
 bT:=underlying72
 aF:=zrX
 zok:=rfl
 few:=by decide
 pos:=by decide
def zqC(W:Xn)(y:Addr)(e:En):Prop:=W.cell? y=Xa (Xe Xf e.kind)/\W.cell? {block:=y.block,off:=y.off+1}=Xa (Xe Xf e.n)/\W.cell? {block:=y.block,off:=y.off+2}=Xa (Xh e.wr)
def zrd(w:Xn)(a:Option Addr)(l:List En):Prop:=∀(j:Nat)e,l[j]?=Xa e->∃ad,a=Xa ad/\∀W,zc w W->zqC W (ad.add (j*3)) e
theorem zj.ens{w:Xn}{v:Xq}{l:List En}(h:zj enE w v l):∃a c,v=O a l.length c/\zrd w a l:=by
 obtain⟨a,c,b,e⟩:=h.rows;refine⟨a,c,b,fun j x g=>?_⟩
 obtain⟨d,f,b⟩:=e j x g;exact⟨d,f,fun W d=>⟨b W d 0 _ rfl,b W d 1 _ rfl,b W d 2 _ rfl⟩⟩
structure zaD(B0 B1:Nat)(w:Xn)(vs:List Xq)(t:List (List En)):Prop where
 len:vs.length=8
 aO:t.length=8
 row:∀(i:Nat)v h,vs[i]?=Xa v->t[i]?=Xa h->ziP enE B0 B1 w v h
def J6(w:Xn)(vs:List Xq)(t:List (List En)):Prop:=zaD 0 0 w vs t
theorem zaD.out{w:Xn}{t:List (List En)}(h:zaD B0 B1 w vs t)(k:Out B0 B1 w w'):zaD B0 B1 w' vs t:=⟨h.len,h.aO,fun i v x a b=>(h.row i v x a b).out k⟩
theorem zaD.aA{w:Xn}{t:List (List En)}(h:zaD B0 B1 w vs t)(k:zc w w'):zaD B0 B1 w' vs t:=h.out (Out.aA k)
theorem zaD.less{A0 A1:Nat}{w:Xn}{t:List (List En)}(h:zaD B0 B1 w vs t)(a:B0<=A0)(b:A1<=B1):zaD A0 A1 w vs t:=⟨h.len,h.aO,fun i v x c d=>(h.row i v x c d).less a b⟩
theorem zaD.now{w:Xn}{t:List (List En)}(h:zaD B0 B1 w vs t):J6 w vs t:=⟨h.len,h.aO,fun i v x a b=>(h.row i v x a b).now.s0⟩
theorem J6.aA{w:Xn}{t:List (List En)}(h:J6 w vs t)(k:zc w w'):J6 w' vs t:=zaD.aA h k
def ze2:List Xq:=Xr 8 (O Xb 0 0)
theorem zaD.nil(B0 B1:Nat)(w):zaD B0 B1 w ze2 Zq:=⟨rfl,rfl,fun i v h b c=>by
 have a:=mG b;have b:=mG c;rw[ze2,Og]at a;rw[Zq,Og]at b;rw[a.2,b.2];exact fun a _=>zj.nil enE a⟩
theorem J6.half{w:Xn}{t:List (List En)}(h:J6 w vs t){i:Nat}(hi:i<8):∃a c x,t[i]?=Xa x/\vs[i]?=Xa (O a x.length c)/\zj enE w (O a x.length c) x:=by
 obtain⟨v,d⟩:∃v,vs[i]?=Xa v:=⟨_,gE (by rw[h.len];exact hi)⟩
 obtain⟨x,e⟩:∃x,t[i]?=Xa x:=⟨_,gE (by rw[h.aO];exact hi)⟩
 have b:=(h.row i v x d e).now;obtain⟨a,c,rfl,_⟩:=b.rows
 grind
theorem zoM{α:Type}:∀{l:List α},l.length=8->∃a b c d e f g h,l=[a,b,c,d,e,f,g,h]
 |[a,b,c,d,e,f,g,h],_=>⟨a,b,c,d,e,f,g,h,rfl⟩
theorem zcT(w:Xn)(a:Array Xq)(o:Nat)(v:Int)(b:a[o]?=Xa (Xe Xf v)):(part 3 a o).run prog w=.ok (Xe Xf v) w:=run_part_plain w (by simp[Program.plainKey,underlying3]) b
theorem zd9(w:Xn)(a:Array Xq)(o:Nat)(v:Bool)(b:a[o]?=Xa (Xh v)):(part 4 a o).run prog w=.ok (Xh v) w:=run_part_plain w (by simp[Program.plainKey,underlying4]) b
theorem zeC(m n:Int)(w):
  Xp prog 127 #[Xe Xf m,Xe Xf n] w fun e w'=>e=Xl (Xh (bel m n))/\w'=w:=by
 have H:Xo (bel m n=(decide (0<=m)&&decide (m<n))):=rfl
 by_cases a:0<=m
 ·by_cases a:m<n
  ·go_enter func127,ntmps127
   go_wp2;go_ret;exact⟨by rw[H.out];simp[*],rfl⟩
  go_enter func127,ntmps127
  go_wp2;go_ret;exact⟨by rw[H.out];simp[*],rfl⟩
 go_enter func127,ntmps127
 go_wp2;go_ret;exact⟨by rw[H.out];simp;omega,rfl⟩
theorem QC{m n:Int}(a:0<=m)(b:m<n)(w):Xp prog 127 #[Xe Xf m,Xe Xf n] w fun e w'=>e=Xl (Xh Xc)/\w'=w:=by
 have:=zeC m n w;rw[Zf.2 ⟨a,b⟩]at this;exact this
theorem zbk{m n:Int}(h:¬(0<=m/\m<n))(w):Xp prog 127 #[Xe Xf m,Xe Xf n] w fun e w'=>e=Xl (Xh Xd)/\w'=w:=by
 have:=zeC m n w;rw[znk h]at this;exact this
theorem zbM(k n:Int)(b:Bool)(w):
  Xp prog 168 #[Xi #[Xe Xf k,Xe Xf n,Xh b]] w fun e w'=>e=Xl (Xh (enS ⟨k,n,b⟩))/\zc w w':=by
 have H:Xo (enS ⟨k,n,b⟩=(k !=0)):=rfl
 go_enter func168,ntmps168
 go_wp2;go_ret;exact⟨Rr H.out,za _ _⟩
theorem zoK{e:En}(h:¬(0<=e.kind/\e.kind<=2)):enW e=1:=by unfold enW;rw[kF h]
theorem zgT{e:En}(h:0<=e.kind/\e.kind<=2)(a:¬(0<=e.n/\e.n<=59/\(e.kind=1->e.n<=39))):enW e=3:=by unfold enW;rw[kE h,kF a]
theorem zmV{e:En}(h:0<=e.kind/\e.kind<=2)(a:0<=e.n/\e.n<=59/\(e.kind=1->e.n<=39))(b:(e.kind=0/\(e.n≠0\/e.wr=Xc))\/(e.kind=2/\e.wr=Xc)):enW e=7:=by unfold enW;rw[kE h,kE a,kE b]
def zmX(a b:En):Bool:=(a.kind==b.kind)&&((a.n==b.n)&&(a.wr==b.wr))
theorem zry(k n k' n':Int)(b b':Bool)(w):(Op.equalIn 10000 127 (Xi #[Xe Xf k,Xe Xf n,Xh b]) (Xi #[Xe Xf k',Xe Xf n',Xh b'])).run prog w=.ok (zmX ⟨k,n,b⟩ ⟨k',n',b'⟩) w:=by
 have hf:(Tryz.prog.fieldsOf 127).toList.map (fun f=>(f.name,f.type,f.offset))=[("Kind",3,0),("N",3,1),("Write",4,2)]:=by kernel_rfl
 rw[run_equalIn_struct w 9999 127 _ _ Kr Kr]
 obtain⟨f0,f1,f2,hfs⟩:∃f0 f1 f2,(Tryz.prog.fieldsOf 127).toList=[f0,f1,f2]:=by
  match hq:(Tryz.prog.fieldsOf 127).toList with
  |[f0,f1,f2]=>exact⟨f0,f1,f2,rfl⟩
  |[]=>rw[hq]at hf;simp at hf
  |[_]=>rw[hq]at hf;simp at hf
  |[_,_]=>rw[hq]at hf;simp at hf
  |_::_::_::_::_=>rw[hq]at hf;simp at hf
 rw[hfs]at hf⊢
 simp at hf
 obtain⟨⟨h1,h2,h3⟩,⟨h4,h5,h6⟩,h7,h8,h9⟩:=hf;have pI:=zcT w;have pB:=zd9 w;simp only[Op.eqFields,h1,h2,h3,h4,h5,h6,h7,h8,h9]
 simp[pI,pB,run_equalIn_int w _ _ _ _ _ _ underlying3,run_equalIn_bool' w _ _ _ _ underlying4]
 unfold zmX
 by_cases e1:k=k'<;>by_cases e2:n=n'<;>cases b<;>cases b'<;>simp[e1,e2]
theorem J9(k n:Int)(b:Bool)(w):
  Xp prog 201 #[Xi #[Xe Xf k,Xe Xf n,Xh b]] w fun e w'=>e=Xl (Xe Xf (enW ⟨k,n,b⟩))/\zc w w':=by
 obtain⟨Z,f⟩:=kA (enW ⟨k,n,b⟩);rw[f.out]
 by_cases g:0<=k/\k<=2
 ·have a:=fun W=>QC (m:=k) (n:=3) g.1 Wm W
  by_cases l:0<=n/\n<=59
  ·have c:=fun W=>QC (m:=n) (n:=60) l.1 Wm W
   by_cases i:k=1/\39<n
   ·have d:Xo (Z=3):=dD<|by rw[<-f.out];exact zgT g (fun h=>by have:=h.2.2 i.1;simp at this;omega)
    obtain⟨rfl,i⟩:=i;have q:40<=n:=Wm
    go_enter func201,ntmps201
    go_wp2_with fail;refine(a _).mono ?_;rintro e w'⟨rfl,rfl⟩;go_wp2_with fail;refine(c _).mono ?_;rintro e w'⟨rfl,rfl⟩;go_wp2;go_ret;exact⟨Rr d.out,za _ _⟩
   have j:0<=n/\n<=59/\(k=1->n<=39):=⟨l.1,l.2,fun h=>Wm⟩
   obtain rfl|rfl|rfl:k=0\/k=1\/k=2:=Wm
   ·have p:=fun W=>zry 0 n 0 0 b Xd W
    by_cases i:n=0/\b=Xd
    ·have d:Xo (Z=0):=dD<|by rw[<-f.out];exact zb4 g j (fun h=>by simp[i.1,i.2]at h)
     obtain⟨rfl,rfl⟩:=i;rw[show zmX ⟨0,0,Xd⟩ ⟨0,0,Xd⟩=Xc from rfl]at p
     go_enter func201,ntmps201
     go_wp2_with fail;refine(a _).mono ?_;rintro e w'⟨rfl,rfl⟩;go_wp2_with fail;refine(c _).mono ?_;rintro e w'⟨rfl,rfl⟩;go_wp2;go_ret;exact⟨Rr d.out,za _ _⟩
    have d:Xo (Z=7):=dD<|by
     rw[<-f.out];refine zmV g j (.inl ⟨rfl,?_⟩)
     cases b with
     |false=>exact .inl (fun h=>i ⟨h,rfl⟩)
     |true=>exact .inr rfl
    have r:zmX ⟨0,n,b⟩ ⟨0,0,Xd⟩=Xd:=by
     unfold zmX
     cases b with
     |false=>simp;exact fun h=>i ⟨h,rfl⟩
     |true=>simp
    rw[r]at p
    go_enter func201,ntmps201
    go_wp2_with fail;refine(a _).mono ?_;rintro e w'⟨rfl,rfl⟩;go_wp2_with fail;refine(c _).mono ?_;rintro e w'⟨rfl,rfl⟩;go_wp2;go_ret;exact⟨Rr d.out,za _ _⟩
   ·have d:Xo (Z=0):=dD<|by rw[<-f.out];exact zb4 g j (fun h=>by simp at h)
    have q:¬40<=n:=Wm
    go_enter func201,ntmps201
    go_wp2_with fail;refine(a _).mono ?_;rintro e w'⟨rfl,rfl⟩;go_wp2_with fail;refine(c _).mono ?_;rintro e w'⟨rfl,rfl⟩;go_wp2;go_ret;exact⟨Rr d.out,za _ _⟩
   cases b with
   |false=>
    have d:Xo (Z=0):=dD<|by rw[<-f.out];exact zb4 g j (fun h=>by simp at h)
    go_enter func201,ntmps201
    go_wp2_with fail;refine(a _).mono ?_;rintro e w'⟨rfl,rfl⟩;go_wp2_with fail;refine(c _).mono ?_;rintro e w'⟨rfl,rfl⟩;go_wp2;go_ret;exact⟨Rr d.out,za _ _⟩
   |true=>
    have d:Xo (Z=7):=dD<|by rw[<-f.out];exact zmV g j (.inr ⟨rfl,rfl⟩)
    go_enter func201,ntmps201
    go_wp2_with fail;refine(a _).mono ?_;rintro e w'⟨rfl,rfl⟩;go_wp2_with fail;refine(c _).mono ?_;rintro e w'⟨rfl,rfl⟩;go_wp2;go_ret;exact⟨Rr d.out,za _ _⟩
  have d:Xo (Z=3):=dD<|by rw[<-f.out];exact zgT g (fun h=>l ⟨h.1,h.2.1⟩)
  have c:=fun W=>zbk (m:=n) (n:=60) Wm W
  go_enter func201,ntmps201
  go_wp2_with fail;refine(a _).mono ?_;rintro e w'⟨rfl,rfl⟩;go_wp2_with fail;refine(c _).mono ?_;rintro e w'⟨rfl,rfl⟩;go_wp2;go_ret;exact⟨Rr d.out,za _ _⟩
 have d:Xo (Z=1):=dD<|by rw[<-f.out];exact zoK g
 have a:=fun W=>zbk (m:=k) (n:=3) Wm W
 go_enter func201,ntmps201
 go_wp2_with fail;refine(a _).mono ?_;rintro e w'⟨rfl,rfl⟩;go_wp2;go_ret;exact⟨Rr d.out,za _ _⟩
theorem zfc(v)(fs:List En)(w)(y:zj enE w v fs):
  Xp prog 231 #[v,.func (.func 168) #[] #[]] w fun e w'=>(∃B:Int,e=Xl (Xe Xf B)/\decide (0<=B)=zfF fs)/\zc w w':=by
 have h:=y.short;obtain⟨N,Q,rfl,k⟩:=y.ens;have D:=dD k;obtain⟨n,s⟩:=kA fs.length;rw[s.out]at h⊢;obtain⟨g,c⟩:=kA (zfF fs);rw[c.out];have U:=enters_of func168 Kr rfl
 go_enter func231,ntmps231
 go_wp2
 go_loopg[8] n (fun F L wr=>∃b:Nat,b<=n/\n-b<=F/\L=Xe Xf b/\Xo (zc w wr)/\Xo (∀(j:Nat)q,j<b->fs[j]?=Xa q->enS q=Xd))
 exact⟨0,nZ _,Wm,rfl,zc.refl w,fun j q x=>absurd x (nL _)⟩
 obtain⟨b,G,V,rfl,l,A⟩:=hrel
 by_cases d:b<n
 ·have i:=kC d
  obtain⟨q,t⟩:∃q,Xo (fs[b]?=Xa q):=⟨_,gE (Rx s.out d)⟩
  obtain⟨P,rfl,H⟩:=D.out b q t.out;obtain⟨R,S,T⟩:=H wr l.out;have a:=zbM q.kind q.n q.wr wr
  cases m:enS q with
  |true=>
   have r:Xo (decide (0<=(b:Int))=g):=dD<|by
    rw[<-c.out,show zfF fs=Xc from zra t.out m]
    simp
   rw[show enS ⟨q.kind,q.n,q.wr⟩=Xc from m]at a
   go_wp2_with fail;refine a.mono ?_;rintro e E⟨rfl,u⟩;have p:=dD (l.trans u);go_wp2;go_ret;exact⟨⟨_,rfl,r⟩,p⟩
  |false=>
   have C:Xo (∀(j:Nat)q,j<b+1->fs[j]?=Xa q->enS q=Xd):=dD<|fun j K x f=>by
    by_cases e:j=b
    ·subst e;rw[t.out]at f;cases f;exact m
    exact A j K Wm f
   rw[show enS ⟨q.kind,q.n,q.wr⟩=Xd from m]at a
   go_wp2_with fail;refine a.mono ?_;rintro e E⟨rfl,u⟩;have p:=dD (l.trans u);go_wp2
   go_roundg (n-(b+1));exact⟨b+1,Wm,Wm,Gn,p,C⟩;omega
 have i:=kD d
 have:b=n:=Wm
 subst this;have r:Xo (decide (0<=(-1:Int))=g):=dD<|by
  rw[<-c.out]
  symm
  exact zq9 (fun j M z=>A.out j M (by rw[<-s.out];exact(gS.1 z).1) z)
 go_wp2;go_ret;exact⟨⟨_,rfl,r⟩,l⟩
theorem ZG(v)(fs:List En)(w)(b:zj enE w v fs):
  Xp prog 202 #[v,.func (.func 168) #[] #[]] w fun e w'=>e=Xl (Xh (zfF fs))/\zc w w':=by
 have a:=zfc v fs w b;obtain⟨c,c,rfl,_⟩:=b.rows;clear b
 generalize fs.length=n at*
 generalize zfF fs=A at*
 go_enter func202,ntmps202
 go_wp2_with fail;refine a.mono ?_;rintro e b⟨⟨z,rfl,b⟩,c⟩;have f:=dD b;have d:=dD c;clear b c a;go_wp2;go_ret;exact⟨by rw[<-f.out];rfl,d⟩
theorem zdU(v)(fs:List En)(w:Xn)(h:zj enE w v fs):
  Xp prog 162 #[v] w fun e w'=>∃d,e=Xl d/\zb enE w.heap.size w' d fs/\zc w w':=by
 have i:=dD h;obtain⟨⟨f,g,rfl,b,c⟩,a⟩:=h;have h:=fun w f n g j h=>Lib.run_eql_slice_nil w _ _ f n g j h underlying72
 cases f with
 |none=>
  have f:=b rfl;subst f;clear c b a
  go_enter func162,ntmps162
  go_wp2;go_ret;exact⟨_,rfl,zb.nil _ _ _,zc.refl w⟩
 |some x=>
  have f:=dD a;clear c b a
  go_enter func162,ntmps162
  go_wp2_with(at_builtin;refine zr (E:=enE) rfl (.tmp 5) (.tmp 6) rfl w.heap.size _ [] rfl (zb.made enE w) _ fs rfl (i.aA (za _ _)) ?qb Sm ?_)
  case qb=>rw[Yi,zA];exact f.out
  intro d a b a;go_wp2;go_ret;exact⟨d,rfl,Si b,((bR _ w).alloc (nR _) _).grown a Sm (by intro k a;simp[Value.ownBlock]at a;omega)⟩
theorem Box.range{w:Xn}{cs:List Xq}(h:Box w b cs):w.rangeAt b 0 cs:=fun j v a=>by
 rw[zA];exact h.c j a
theorem Box.there{w:Xn}{cs:List Xq}(h:Box w b cs):w.there b 0 cs.length:=fun j a=>by
 rw[zA];exact⟨by rw[h.c j (gE a)];rfl,h.f j⟩
theorem Box.part{w:Xn}:∀{ds cs:List Xq}{o:Nat},Box w b cs->o+ds.length<=cs.length->Box (w.setCells b o ds) b (splice cs o ds):=by
 have a:∀(ds cs:List Xq)(o:Nat)(w:Xn),Box w b cs->o+ds.length<=cs.length->Box (w.setCells b o ds) b (splice cs o ds):=fun ds=>by
  induction ds with
  |nil=>
   intro cs o w h a;have:splice cs o []=cs:=by simp[splice]
   rw[this];exact h
  |cons d ds e=>
   intro cs o w h a;simp only[Yg]at a;have c:=h.set o d;have a:=e (cs.set o d) (o+1) (w.setCell ⟨b,o,Xb⟩ d) c (by simp;omega)
   have c:splice (cs.set o d) (o+1) ds=splice cs o (d::ds):=by
    unfold splice;rw[List.take_set,List.drop_set,kE Wm,Yv,gE Wm]
    simp only[Yg,Option.toList_some];rw[List.set_append_right _ _ (by simp;omega),show o+1+ds.length=o+(ds.length+1) by omega]
    simp[Ol,Nat.min_eq_left (show o<=cs.length by omega)]
   rw[c]at a;exact a
 grind
theorem zQ(b:Nat):∀(ds:List Xq)(o:Nat)(w:Xn),w.grownBy (w.setCells b o ds) (Xa b)/\(w.setCells b o ds).heap.size=w.heap.size
 |[],_,w=>⟨World.grownBy.rfl' _ _,rfl⟩
 |d::ds,o,w=>by
  obtain⟨a,c⟩:=zQ b ds (o+1) (w.setCell ⟨b,o,Xb⟩ d);have f:w.grownBy (w.setCell ⟨b,o,Xb⟩ d) (Xa b):=⟨rfl,rfl,rfl,by simp[World.setCell],fun k _ g=>Below.heap_setCell _ _ _ _ (fun e=>g (by rw[e]))⟩
  exact⟨je f a,c.trans (by simp[World.setCell])⟩
theorem zm{rest:List Oper}{a:Act}{w:Xn}(e:o.guard=Xb)(c x)(i:o.op=.load c x)(b:Nat)(k:a.eval x=Xj (Xa ⟨b,0,Xb⟩))(f:Box w b vs){d:TypeDesc}(j:Tryz.prog.underlying c=Xa d)(g:d.isRow=Xc)(hi:(Tryz.prog.info? c).map (·.size)=Xa vs.length)
  (h:wpList prog ops Q rest (a.put o.dst (Xi vs.toArray)) w):wpList prog ops Q (o::rest) a w:=
 wpList_load_mid e c x i b 0 k vs _ f.range j g hi h
theorem JE{cs:List Xq}(h:vs.length=cs.length):splice cs 0 vs=vs:=by
 unfold splice
 grind
theorem zx{rest:List Oper}{a:Act}{w:Xn}(c:o.guard=Xb)(e p x)(i:o.op=.store e p x)(b:Nat)(hp:a.eval p=Xj (Xa ⟨b,0,Xb⟩))(vs:List Xq)(j:a.eval x=Xi vs.toArray)
  {cs:List Xq}(f:Box w b cs)(d:vs.length=cs.length)(hi:(Tryz.prog.info? e).map (·.size)=Xa cs.length)(g:∀v∈vs,v.oneCell'=Xc)
  (h:∀w',Box w' b vs->w.grownBy w' (Xa b)->w'.heap.size=w.heap.size->wpList prog ops Q rest (a.put o.dst undef) w'):wpList prog ops Q (o::rest) a w:=by
 refine wpList_store_mid c e p x i b 0 vs.toArray hp j ?_ ?_ (all_oneCell_toArray g) ?_
 ·simpa[d]using f.there
 ·simpa[d]using hi
 have:=f.part (ds:=vs) (o:=0) Wm
 rw[JE d]at this;exact h _ this (zQ b vs 0 w).1 (zQ b vs 0 w).2
theorem zhw{rest:List Oper}{c:Oper}{a:Act}{w:Xn}(d:c.guard=Xb)(e p x)(j:c.op=.store e p x)(b o:Nat)(hp:a.eval p=Xj (Xa ⟨b,o,Xb⟩))(vs:List Xq)(k:a.eval x=Xi vs.toArray)
  {cs:List Xq}(f:Box w b cs)(i:o+vs.length<=cs.length)(hi:(Tryz.prog.info? e).map (·.size)=Xa vs.length)(g:∀v∈vs,v.oneCell'=Xc)
  (h:∀w',Box w' b (splice cs o vs)->w.grownBy w' (Xa b)->w'.heap.size=w.heap.size->wpList prog ops Q rest (a.put c.dst undef) w'):wpList prog ops Q (c::rest) a w:=by
 refine wpList_store_mid d e p x j b o vs.toArray hp k ?_ ?_ (all_oneCell_toArray g) ?_
 ·intro j c;have:=f.there (o+j) (by simp at c;omega)
  rw[zA]at this;exact this
 ·simpa using hi
 exact h _ (f.part i) (zQ b vs o w).1 (zQ b vs o w).2
theorem Box.mid{w:Xn}{cs:List Xq}(h:Box w b cs)(o:Nat)(c:∀(j:Nat)v,vs[j]?=Xa v->cs[o+j]?=Xa v):w.rangeAt b o vs:=fun j v a=>h.c _ (c j v a)
theorem zB{e:Func}{p:Tmp}{c:TypeId}(h:e.results=#[.cell p c])(a:Array Xq){w:Xn}(hp:a.getD p undef=Xj (Xa ⟨b,0,Xb⟩))(f:Box w b vs){d:TypeDesc}(i:Tryz.prog.underlying c=Xa d)(g:d.isRow=Xc)(hi:(Tryz.prog.info? c).map (·.size)=Xa vs.length):
  (results e a).run prog w=.ok (Xi vs.toArray) w:=by
 have e:a[p]?.getD undef=Xj (Xa ⟨b,0,Xb⟩):=Si hp
 have a:=run_loadVar_mid (P:=prog) w b 0 c vs d f.range i g hi
 simp[results,h,e,asAddr,a]
theorem zO{P:Program}{i:Nat}{a:Act}{w:Xn}{next:Act->Xn->Prop}(d:Option Tmp)(K:Xq->Xn->Prop)(hi:ops[i]?=Xa o)(b:o.dst=d)(e:Xv o (yielded ops a.tmps)=Xc)(h:zI P o a w K)(c:∀v w',K v w'->next (a.put d v) w'):wpOp P ops Q i next a w:=by
 subst b;unfold wpOp;simp only[hi,e,if_true];exact .inl (h.wp c)
theorem zI.storeAll{a:Act}{w:Xn}{K:Xq->Xn->Prop}(d p x)(g:o.op=.store d p x)(b:Nat)(hp:a.eval p=Xj (Xa ⟨b,0,Xb⟩))(vs:List Xq)(j:a.eval x=Xi vs.toArray)
  {cs:List Xq}(e:Box w b cs)(c:vs.length=cs.length)(hi:(Tryz.prog.info? d).map (·.size)=Xa cs.length)(f:∀v∈vs,v.oneCell'=Xc)
  (h:∀w',Box w' b vs->w.grownBy w' (Xa b)->w'.heap.size=w.heap.size->K undef w'):zI prog o a w K:=by
 unfold zI;have i:(execOp a.eval o).run prog w=.ok .skip (w.setCells b 0 vs):=by
  have:=run_storeAt_mid (P:=prog) w b 0 d vs.toArray (by simpa[c]using e.there) (by simpa[c]using hi) (all_oneCell_toArray f)
  simp only[execOp,g,hp,j,Yd,this,rA,Yj]
 rw[i];have hp:=e.part (ds:=vs) (o:=0) Wm
 rw[JE c]at hp;exact h _ hp (zQ b vs 0 w).1 (zQ b vs 0 w).2
theorem zrY:(Tryz.prog.info? 74).map (·.size)=Xa 8:=by kernel_rfl
theorem qA{rest:List Oper}{a:Act}{w:Xn}(c:o.guard=Xb)(x)(f:o.op=.load 74 x)(b:Nat)(g:a.eval x=Xj (Xa ⟨b,0,Xb⟩))(d:Box w b vs)(e:vs.length=8)
  (h:wpList prog ops Q rest (a.put o.dst (Xi vs.toArray)) w):wpList prog ops Q (o::rest) a w:=
 wpList_load_mid c 74 x f b 0 g vs _ d.range underlying74 rfl (Rx e zrY) h
theorem znZ{w:Xn}(i:Nat)(hi:i<8){v:Xq}(g:vs[i]?=Xa v):(Instr.index 74 (Xi vs.toArray) (Xe Xf (i:Int))).run prog w=.ok v w:=by
 have e:(isAgg 72).run prog w=.ok Xd w:=by
  unfold isAgg;rw[Yd,run_underlying underlying72 w];rfl
 have f:(Go.sizeOf 72).run prog w=.ok 1 w:=by
  obtain⟨a,c,d⟩:∃a,Tryz.prog.info? 72=Xa a/\a.size=1:=by
   have:(Tryz.prog.info? 72).map (·.size)=Xa 1:=Kr
   cases b:Tryz.prog.info? 72 with
   |none=>rw[b]at this;cases this
   |some a=>rw[b]at this;exact⟨a,rfl,by simpa using this⟩
  simp[Go.sizeOf,typeInfo,c,d]
 have a:(0:Int)<=(i:Int)/\(i:Int)<((8:Nat):Int):=Wm
 simp only[Instr.index,asIntOf,Yd,Yj,rA,run_underlying underlying74];rw[kE a];simp only[Yd,f,rA,part,e,Nat.mul_one,tN]
 simp[g]
theorem zhy{rest:List Oper}{a:Act}{w:Xn}(b:o.guard=Xb)(x ix)(d:o.op=.index 74 x ix)(vs:List Xq)(f:a.eval x=Xi vs.toArray)(i:Nat)(c:a.eval ix=Xe Xf (i:Int))(hi:i<8){v:Xq}(e:vs[i]?=Xa v)
  (h:wpList prog ops Q rest (a.put o.dst v) w):wpList prog ops Q (o::rest) a w:=by
 refine wpList_plain b fun K b=>?_
 unfold Oper.wp execOp;simp only[d,f,c,Yd,Yj,rA,znZ i hi e];exact b _ _ h
theorem zW{e:Func}{p u:Tmp}{c:TypeId}(h:e.results=#[.cell p c,.tmp u])(a:Array Xq){w:Xn}(hp:a.getD p undef=Xj (Xa ⟨b,0,Xb⟩))(f:Box w b vs){d:TypeDesc}(i:Tryz.prog.underlying c=Xa d)(g:d.isRow=Xc)(hi:(Tryz.prog.info? c).map (·.size)=Xa vs.length):
  (results e a).run prog w=.ok (Xm #[Xi vs.toArray,a.getD u undef]) w:=by
 have a:=run_loadVar_mid (P:=prog) w b 0 c vs d f.range i g hi;rw[results_cell_tmp h,hp]
 simp[asAddr,Result.andThen,a]
theorem zaD.one{w:Xn}{t:List (List En)}(h:zaD B0 B1 w vs t):∀v∈vs,v.oneCell'=Xc:=fun v b=>by
 obtain⟨i,a⟩:=Xt b;have b:i<8:=by rw[<-h.len];exact(gS.1 a).1
 obtain⟨c,c,x,_,c,_⟩:=h.now.half b;rw[c]at a;cases a;rfl
structure jk(base:Nat)(w:Xn)(vs:List Xq)(t:List (List En)):Prop where
 len:vs.length=8
 aO:t.length=8
 row:∀(i:Nat)v h,vs[i]?=Xa v->t[i]?=Xa h->zb enE base w v h
 two:∀(i j:Nat)u v,i≠j->vs[i]?=Xa u->vs[j]?=Xa v->∀g,u.ownBlock=Xa g->v.ownBlock≠Xa g
theorem jk.new{base:Nat}{w:Xn}{t:List (List En)}(h:jk base w vs t):zaD 0 base w vs t:=⟨h.len,h.aO,fun i v x a b=>(h.row i v x a b).new.stays⟩
theorem jk.aA{base:Nat}{w:Xn}{t:List (List En)}(h:jk base w vs t)(k:zc w w'):jk base w' vs t:=⟨h.len,h.aO,fun i v x a b=>(h.row i v x a b).aA k,h.two⟩
theorem jk.base{base:Nat}{w:Xn}{t:List (List En)}(h:jk base w vs t)(a:base'<=base):jk base' w vs t:=⟨h.len,h.aO,fun i v x b c=>(h.row i v x b c).base a,h.two⟩
theorem jk.half{base:Nat}{w:Xn}{t:List (List En)}(h:jk base w vs t){i:Nat}(hi:i<8):∃a c x,t[i]?=Xa x/\vs[i]?=Xa (O a x.length c)/\zb enE base w (O a x.length c) x:=by
 obtain⟨v,d⟩:∃v,vs[i]?=Xa v:=⟨_,gE (by rw[h.len];exact hi)⟩
 obtain⟨x,e⟩:∃x,t[i]?=Xa x:=⟨_,gE (by rw[h.aO];exact hi)⟩
 have b:=h.row i v x d e;obtain⟨a,c,rfl⟩:=b.form
 grind
theorem jk.one{base:Nat}{w:Xn}{t:List (List En)}(h:jk base w vs t){i:Nat}{v a:Xq}{b:List En}(hi:i<8)(n:vs[i]?=Xa v)(m:w.grownBy w' v.ownBlock)(c:zb enE base w' a b)(q:∀g,a.ownBlock=Xa g->v.ownBlock=Xa g\/w.heap.size<=g):jk base w' (vs.set i a) (t.set i b):=by
 have a:∀(j:Nat)u,vs[j]?=Xa u->∀g,u.ownBlock=Xa g->g<w.heap.size:=fun j u e g m=>by
  obtain⟨x,k⟩:∃x,t[j]?=Xa x:=⟨_,gE (by rw[h.aO,<-h.len];exact(gS.1 e).1)⟩
  exact((h.row j u x e k).lt g m).2
 refine⟨by simp[h.len],by simp[h.aO],fun j u x e k=>?_,fun j l r s a f d g b c=>?_⟩
 ·by_cases p:j=i
  ·grind
  rw[sN (fun h=>p h.symm)]at e k
  exact(h.row j u x e k).grown m (fun g k m=>h.two j i u v p e n g k m)
 by_cases k:j=i
 ·subst k;rw[sF (by rw[h.len];exact hi)]at f
  cases f;rw[sN a]at d
  rcases q g b with e|e
  ·exact h.two j l v s a n d g e c
  grind
 rw[sN (fun h=>k h.symm)]at f
 by_cases k:l=i
 ·subst k;rw[sF (by rw[h.len];exact hi)]at d
  cases d
  rcases q g c with e|e
  ·exact h.two j l r v a f n g b e
  grind
 rw[sN (fun h=>k h.symm)]at d
 exact h.two j l r s a f d g b c
structure znz(base:Nat)(w:Xn)(kk:Nat)(vs us:List Xq)(t:List (List En)):Prop where
 len:us.length=8
 own:∀(i:Nat)v h,i<kk->us[i]?=Xa v->t[i]?=Xa h->zb enE base w v h
 two:∀(i j:Nat)u v,i<kk->j<kk->i≠j->us[i]?=Xa u->us[j]?=Xa v->∀g,u.ownBlock=Xa g->v.ownBlock≠Xa g
 one:∀v∈us,v.oneCell'=Xc
theorem znz.step{base:Nat}{w:Xn}{t:List (List En)}(h:znz base w kk vs us t)(H:t.length=8)(n:zc w w1){x:List En}{v:Xq}(q:kk<8)(K:t[kk]?=Xa x)(a:zb enE w.heap.size w1 v x)(F:base<=w.heap.size){p:Addr}(hp:p.block<base)(u):znz base (w1.setCell p u) (kk+1) vs (us.set kk v) t:=by
 have k:∀(j:Nat)u,j<kk->us[j]?=Xa u->∀g,u.ownBlock=Xa g->g<w.heap.size:=fun j u A B g n=>by
  obtain⟨y,c⟩:∃y,t[j]?=Xa y:=⟨_,gE (by rw[H,<-h.len];exact(gS.1 B).1)⟩
  exact((h.own j u y A B c).lt g n).2
 refine⟨by simp[h.len],fun i y E G c m=>?_,fun i j C D G A f b e g d l=>?_,fun y c=>?_⟩
 ·by_cases r:i=kk
  ·subst r;rw[sF (by rw[h.len];exact q)]at c
   cases c;rw[K]at m;cases m;exact(a.base F).setCell hp u
  rw[sN (fun h=>r h.symm)]at c
  exact((h.own i y E Wm c m).aA n).setCell hp u
 ·by_cases s:i=kk
  ·subst s;rw[sF (by rw[h.len];exact q)]at b
   cases b;rw[sN f]at e;have:=k j D Wm e g l
   have:=(a.lt g d).1;omega
  rw[sN (fun h=>s h.symm)]at b
  by_cases z:j=kk
  ·subst z;rw[sF (by rw[h.len];exact q)]at e
   cases e;have:=k i C Wm b g d
   have:=(a.lt g l).1;omega
  rw[sN (fun h=>z h.symm)]at e
  exact h.two i j C D Wm Wm f b e g d l
 rcases Yh c with d|d
 ·exact h.one y d
 subst d;obtain⟨L,M,rfl⟩:=a.form;rfl
theorem zgl(vs:List Xq)(t:List (List En))(w:Xn)(a:J6 w vs t):
  Xp prog 105 #[Xi vs.toArray] w fun e w'=>∃c,e=Xl (Xi c.toArray)/\jk (w.heap.size+2) w' c t/\zc w w'/\w.heap.size+2<=w'.heap.size:=by
 have q:=dD a;have h:=dD a.len;clear a;obtain⟨g,a⟩:=kB ((w.alloc (Xk vs.toArray 74)).alloc (Xk #[O Xb 0 0,O Xb 0 0,O Xb 0 0,O Xb 0 0,O Xb 0 0,O Xb 0 0,O Xb 0 0,O Xb 0 0] 74));have b:=gD2 a
 have i:=x2a a
 have j:Xo (Box g (w.heap.size+1) ze2):=dD<|by rw[<-a];exact Box.aD _ ze2 _ Sm
 have d:Xo (g.heap.size=w.heap.size+2):=dD<|by rw[<-a];simp
 have f:Xo (_=g):=a;clear a
 go_enter func105,ntmps105
 go_upto_region 1 with fail;rw[f.out]
 go_wp2_with(refine qA rfl (.tmp 1) rfl w.heap.size rfl i h.out ?_)
 go_loopg[6] 8 (fun f g wr=>∃(a:Nat)(c:List Xq),a<=8/\8-a<=f/\g=Xe Xf a/\Xo (zc w wr)/\Xo (w.heap.size+2<=wr.heap.size)/\Xo (Box wr w.heap.size c)/\Xo (Box wr (w.heap.size+1) ze2)/\Xo (znz (w.heap.size+2) wr a vs c t))
 exact⟨0,vs,nZ _,Wm,rfl,b,by rw[d.out];exact nR _,i,j,⟨h,fun i v l b=>absurd b (nL _),fun i D E v b=>absurd b (nL _),q.one⟩⟩
 obtain⟨a,c,b,C,rfl,s,x,A,B,d⟩:=hrel
 by_cases f:a<8
 ·have m:(a:Int)<8:=Wm
  obtain⟨n,u,r,j,h,k⟩:=q.half f;have F:=dD j;have g:=dD h;have b:=zdU (O n r.length u) r wr (k.aA s);clear j h k
  generalize r.length=nq at b g
  go_wp2_with(refine zhy rfl (.tmp 5) (.tmp 6) rfl vs rfl a rfl f g.out ?_)
  refine b.mono ?_;rintro e k⟨g,rfl,j,y⟩;obtain⟨g,h,rfl⟩:=j.form;have z:=dD j;have n:=dD y;have u:=dD (A.aA y);clear j y b
  generalize r.length=b at z⊢
  obtain⟨r,j⟩:∃r,c[a]?=Xa r:=⟨_,gE (by rw[d.len];exact f)⟩
  have r:=u.c a j;have r:=u.f;clear j;go_wp2;have r:Xo (znz (w.heap.size+2) (k.setCell ⟨w.heap.size,a,Xb⟩ (O g b h)) (a+1) vs (c.set a (O g b h)) t):=d.step q.aO n f F z x Sm _
  have f:Xo (Box (k.setCell ⟨w.heap.size,a,Xb⟩ (O g b h)) w.heap.size (c.set a (O g b h))):=u.set a _;have y:Xo (Box (k.setCell ⟨w.heap.size,a,Xb⟩ (O g b h)) (w.heap.size+1) ze2):=(B.aA n).other Sm _
  have j:Xo (zc w (k.setCell ⟨w.heap.size,a,Xb⟩ (O g b h))):=dD<|Below.setCell (s.trans n) (p:=⟨w.heap.size,a,Xb⟩) Sm _
  have u:Xo (w.heap.size+2<=(k.setCell ⟨w.heap.size,a,Xb⟩ (O g b h)).heap.size):=dD<|by
   have:=bS n.out;have:=x.out
   simp[World.setCell]
   omega
  go_roundg (8-(a+1));exact⟨a+1,_,Wm,Wm,Gn,j,u,f,y,r⟩;omega
 have m:¬(a:Int)<8:=Wm
 have:a=8:=Wm
 subst this;have b:Xo (jk (w.heap.size+2) wr c t):=dD<|⟨d.len,q.aO,fun i v l a f=>d.own i v l (by rw[<-d.len];exact(gS.1 a).1) a f,fun i D E v g h a=>d.two i D E v (by rw[<-d.len];exact(gS.1 h).1) (by rw[<-d.len];exact(gS.1 a).1) g h a⟩
 go_wp2_with(first|refine qA rfl (.tmp 1) rfl w.heap.size rfl A d.len ?_|refine zx rfl 74 (.tmp 2) (.tmp 15) rfl (w.heap.size+1) rfl c rfl B d.len zrY d.one ?_)
 intro g k h m;have n:Xo (jk (w.heap.size+2) g c t):=dD<|⟨b.len,b.aO,fun i v l a f=>(b.row i v l a f).grown h (fun q C e=>by
  cases e;have:=((b.row i v l a f).lt _ C).1
  omega),b.two⟩
 have j:Xo (zc w g):=dD<|zd s h Sm
 have u:Xo (w.heap.size+2<=g.heap.size):=dD<|Rx m x.out
 have a:=dD k;clear k h m;go_wp2;refine bodyPost_ret (zB rfl _ rfl a underlying74 rfl (by rw[d.len];exact zrY)) rfl ⟨c,rfl,n,j,u⟩
def arv(a:Ar):List Xq:=[Xe Xf a.fr,Xe Xf a.tz,Xh a.rd,Xh a.wr,Xh a.sh,Xe Xf a.file,Xe Xf a.base]
def arA(a:Ar):Xq:=Xi #[Xe Xf a.fr,Xe Xf a.tz,Xh a.rd,Xh a.wr,Xh a.sh,Xe Xf a.file,Xe Xf a.base]
theorem zrZ:(Tryz.prog.info? 125).map (fun i=>(i.zero,i.size,i.bytes))=Xa (Xa (Xi #[Xe Xf 0,Xe Xf 0,Xh Xd,Xh Xd,Xh Xd,Xe Xf 0,Xe Xf 0]),7,40):=by kernel_rfl
theorem zr0:(Tryz.prog.info? 125).map (·.size)=Xa 7:=by kernel_rfl
theorem zr1:(Tryz.prog.info? 187).map (·.size)=Xa 2:=by kernel_rfl
theorem zr2:(Tryz.prog.info? 233).map (·.size)=Xa 448:=by kernel_rfl
def arE:Elt Ar where
 enc:=arv
 k:=7
 ty:=125
 st:=71
 bytes:=40
 zv:=Xi #[Xe Xf 0,Xe Xf 0,Xh Xd,Xh Xd,Xh Xd,Xe Xf 0,Xe Xf 0]
 zero:=ar0
 len:=fun _=>rfl
 one:=fun a u hu=>by
  simp only[arv,mC,nM,or_false]at hu
  rcases hu with rfl|rfl|rfl|rfl|rfl|rfl|rfl<;>rfl
 bT:=underlying71
 aF:=zrZ
 zok:=rfl
 few:=by decide
 pos:=by decide
def ziU(W:Xn)(y:Addr)(e:Ar):Prop:=W.cell? y=Xa (Xe Xf e.fr)/\W.cell? {block:=y.block,off:=y.off+1}=Xa (Xe Xf e.tz)/\W.cell? {block:=y.block,off:=y.off+2}=Xa (Xh e.rd)/\W.cell? {block:=y.block,off:=y.off+3}=Xa (Xh e.wr)/\W.cell? {block:=y.block,off:=y.off+4}=Xa (Xh e.sh)/\W.cell? {block:=y.block,off:=y.off+5}=Xa (Xe Xf e.file)/\W.cell? {block:=y.block,off:=y.off+6}=Xa (Xe Xf e.base)
def zjN(w:Xn)(a:Option Addr)(l:List Ar):Prop:=∀(j:Nat)e,l[j]?=Xa e->∃ad,a=Xa ad/\∀W,zc w W->ziU W (ad.add (j*7)) e
theorem zj.aE{w:Xn}{v:Xq}{l:List Ar}(h:zj arE w v l):∃a c,v=O a l.length c/\zjN w a l:=by
 obtain⟨a,c,b,e⟩:=h.rows;refine⟨a,c,b,fun j x g=>?_⟩
 obtain⟨d,f,b⟩:=e j x g;exact⟨d,f,fun W d=>⟨b W d 0 _ rfl,b W d 1 _ rfl,b W d 2 _ rfl,b W d 3 _ rfl,b W d 4 _ rfl,b W d 5 _ rfl,b W d 6 _ rfl⟩⟩
def tab{α:Type}(f:Nat->α):List α:=(Xu 64).map f
theorem zhL{α:Type}(f:Nat->α):(tab f).length=64:=by simp[tab]
theorem zlI{α:Type}{f:Nat->α}{k:Nat}(h:k<64):(tab f)[k]?=Xa (f k):=by
 unfold tab;rw[Xz,Xw h];rfl
def upd{α:Type}(f:Nat->α)(k:Nat)(x:α):Nat->α:=fun j=>if j=k then x else f j
theorem zpy{α:Type}(f:Nat->α)(k:Nat)(x:α):(tab f).set k x=tab (upd f k x):=by
 apply Yf
 grind[zlI,upd,sF,zhL,sN,gN,tab]
def qo(l:List Ar):List Xq:=l.flatMap arv
theorem zk8(l:List Ar):(qo l).length=l.length*7:=jf l (fun _ _=>rfl)
theorem zey(l:List Ar):∀v∈qo l,v.oneCell'=Xc:=qO arE.one l
def cav(c:Ca):List Xq:=[Xe Xf c.file,Xe Xf c.idx,Xe Xf c.fr]
theorem zr3:(Tryz.prog.info? 105).map (fun i=>(i.zero,i.size,i.bytes))=Xa (Xa (Xi #[Xe Xf 0,Xe Xf 0,Xe Xf 0]),3,24):=by kernel_rfl
def jR:Elt Ca where
 enc:=cav
 k:=3
 ty:=105
 st:=42
 bytes:=24
 zv:=Xi #[Xe Xf 0,Xe Xf 0,Xe Xf 0]
 zero:=⟨0,0,0⟩
 len:=fun _=>rfl
 one:=fun a u hu=>by
  simp only[cav,mC,nM,or_false]at hu
  rcases hu with rfl|rfl|rfl<;>rfl
 bT:=underlying42
 aF:=zr3
 zok:=rfl
 few:=by decide
 pos:=by decide
def znD(W:Xn)(y:Addr)(c:Ca):Prop:=W.cell? y=Xa (Xe Xf c.file)/\W.cell? {block:=y.block,off:=y.off+1}=Xa (Xe Xf c.idx)/\W.cell? {block:=y.block,off:=y.off+2}=Xa (Xe Xf c.fr)
def znC(w:Xn)(a:Option Addr)(l:List Ca):Prop:=∀(j:Nat)c,l[j]?=Xa c->∃ad,a=Xa ad/\∀W,zc w W->znD W (ad.add (j*3)) c
theorem zj.cas{w:Xn}{v:Xq}{l:List Ca}(h:zj jR w v l):∃a c,v=O a l.length c/\znC w a l:=by
 obtain⟨a,c,b,e⟩:=h.rows;refine⟨a,c,b,fun j x g=>?_⟩
 obtain⟨d,f,b⟩:=e j x g;exact⟨d,f,fun W d=>⟨b W d 0 _ rfl,b W d 1 _ rfl,b W d 2 _ rfl⟩⟩
structure Sli where
 a:Option Addr
 n:Nat
 c:Nat
abbrev Sli.x(s:Sli):Xq:=O s.a s.n s.c
abbrev eS:Xq:=O Xb 0 0
abbrev I6(x:Int):Xq:=Xe Xf x
abbrev U8(x:Int):Xq:=Xe Xg x
def Sli.v(s:Sli):Xq:=O s.a s.n s.c
def Zy:Sli:=⟨Xb,0,0⟩
theorem zj.n{α:Type}{E:Elt α}{w:Xn}{a:Option Addr}{n c:Nat}{l:List α}(h:zj E w (O a n c) l):n=l.length:=by
 obtain⟨_,_,b,_⟩:=h.rows;cases b;rfl
theorem zb.n{α:Type}{E:Elt α}{w:Xn}{a:Option Addr}{n c:Nat}{l:List α}(h:zb E b w (O a n c) l):n=l.length:=h.at.n
structure SpV where
 aH:Bool
 ar:Sli
 (t0 t1 t2 t3 t4 t5 t6 t7:Sli)
def SpV.tab(x:SpV):List Xq:=[x.t0.v,x.t1.v,x.t2.v,x.t3.v,x.t4.v,x.t5.v,x.t6.v,x.t7.v]
def spv(x:SpV):List Xq:=[Xh x.aH,x.ar.v,x.t0.v,x.t1.v,x.t2.v,x.t3.v,x.t4.v,x.t5.v,x.t6.v,x.t7.v]
def spz:Xq:=Xi #[Xh Xd,O Xb 0 0,O Xb 0 0,O Xb 0 0,O Xb 0 0,O Xb 0 0,O Xb 0 0,O Xb 0 0,O Xb 0 0,O Xb 0 0]
theorem zr4:(Tryz.prog.info? 76).map (fun i=>(i.zero,i.size,i.bytes))=Xa (Xa spz,10,224):=by kernel_rfl
def Q4:Elt SpV where
 enc:=spv
 k:=10
 ty:=76
 st:=43
 bytes:=224
 zv:=spz
 zero:=⟨Xd,Zy,Zy,Zy,Zy,Zy,Zy,Zy,Zy,Zy⟩
 len:=fun _=>rfl
 one:=fun a u hu=>by
  simp only[spv,mC,nM,or_false]at hu
  rcases hu with rfl|rfl|rfl|rfl|rfl|rfl|rfl|rfl|rfl|rfl<;>rfl
 bT:=underlying43
 aF:=zr4
 zok:=rfl
 few:=by decide
 pos:=by decide
structure j3(w:Xn)(x:SpV)(s:Sp):Prop where
 aH:x.aH=s.aH
 ar:zj arE w (O x.ar.a x.ar.n x.ar.c) s.aE
 cap:x.ar.n<=x.ar.c
 tb:J6 w x.tab s.tb
theorem j3.aA{w:Xn}{x:SpV}{s:Sp}(h:j3 w x s)(k:zc w w'):j3 w' x s:=⟨h.aH,h.ar.aA k,h.cap,h.tb.aA k⟩
def Q0(w:Xn)(v:Xq)(ss:List Sp):Prop:=∃xs:List SpV,zj Q4 w v xs/\xs.length=ss.length/\∀(i:Nat)x s,xs[i]?=Xa x->ss[i]?=Xa s->j3 w x s
theorem Q0.aA{w:Xn}{v:Xq}{a:List Sp}(h:Q0 w v a)(k:zc w w'):Q0 w' v a:=by
 obtain⟨d,a,b,c⟩:=h;exact⟨d,a.aA k,b,fun i x s b a=>(c i x s b a).aA k⟩
structure MaV where
 (f s sb sq db dq fl ca sp:Sli)
structure zq(w:Xn)(V:MaV)(m:Ma):Prop where
 fs:zj z9 w (O V.f.a V.f.n V.f.c) m.fs
 sl:zj slE w (O V.s.a V.s.n V.s.c) m.sl
 sb:qX w (O V.sb.a V.sb.n V.sb.c) m.sb
 sq:jD w (O V.sq.a V.sq.n V.sq.c) m.sq
 db:qX w (O V.db.a V.db.n V.db.c) m.db
 dq:jD w (O V.dq.a V.dq.n V.dq.c) m.dq
 fl:qe w (O V.fl.a V.fl.n V.fl.c) m.fl
 ca:zj jR w (O V.ca.a V.ca.n V.ca.c) m.ca
 sp:Q0 w (O V.sp.a V.sp.n V.sp.c) m.sp
abbrev mL(V:MaV)(m:Ma):List Xq:=[V.f.x,I6 m.aB,V.s.x,V.sb.x,V.sq.x,V.db.x,V.dq.x,V.fl.x,I6 m.cnt,V.ca.x,V.sp.x]
abbrev zM:List Xq:=[eS,I6 0,eS,eS,eS,eS,eS,eS,I6 0,eS,eS]
theorem zq.aA{w:Xn}{V:MaV}{m:Ma}(h:zq w V m)(k:zc w w'):zq w' V m:=⟨h.fs.aA k,h.sl.aA k,h.sb.aA k,h.sq.aA k,h.db.aA k,h.dq.aA k,z8.aA h.fl k,h.ca.aA k,h.sp.aA k⟩
theorem qX.n{w:Xn}{a:Option Addr}{n c:Nat}{l:List (List Int)}(h:qX w (O a n c) l):n=l.length:=by
 obtain⟨⟨_,_,b,_⟩,_⟩:=h;cases b;rfl
theorem jD.n{w:Xn}{a:Option Addr}{n c:Nat}{l:List (Int×List Int)}(h:jD w (O a n c) l):n=l.length:=by
 obtain⟨⟨_,_,b,_⟩,_⟩:=h;cases b;rfl
theorem qe.n{w:Xn}{a:Option Addr}{n c:Nat}{l:List Fl}(h:qe w (O a n c) l):n=l.length:=by
 obtain⟨_,b,b,d,_⟩:=h;rw[b.now.n,d]
theorem Q0.n{w:Xn}{a:Option Addr}{n c:Nat}{l:List Sp}(h:Q0 w (O a n c) l):n=l.length:=by
 obtain⟨b,b,d,_⟩:=h;rw[b.n,d]
theorem zq.ns{w:Xn}{V:MaV}{m:Ma}(h:zq w V m):V.f.n=m.fs.length/\V.s.n=m.sl.length/\V.sb.n=m.sb.length/\V.sq.n=m.sq.length/\V.db.n=m.db.length/\V.dq.n=m.dq.length/\V.fl.n=m.fl.length/\V.ca.n=m.ca.length/\V.sp.n=m.sp.length:=
 ⟨h.fs.n,h.sl.n,h.sb.n,h.sq.n,h.db.n,h.dq.n,qe.n h.fl,h.ca.n,h.sp.n⟩
theorem zj.aZ{α:Type}{E:Elt α}{w:Xn}{a:Option Addr}{n c:Nat}{l:List α}(h:zj E w (O a n c) l):zpq E w a l:=by
 obtain⟨_,_,b,b⟩:=h.rows
 grind
theorem zq.bC{w:Xn}{V:MaV}{m:Ma}(h:zq w V m):zjL w V.f.a m.fs:=fun j x d=>by
 obtain⟨a,b,c⟩:=h.fs.aZ j x d;exact⟨a,b,fun W a=>(c W a).fr⟩
theorem zq.cas{w:Xn}{V:MaV}{m:Ma}(h:zq w V m):znC w V.ca.a m.ca:=by
 obtain⟨_,_,a,b⟩:=h.ca.cas;simp only[vJ]at a;rw[a.1];exact b
theorem zq.sls{w:Xn}{V:MaV}{m:Ma}(h:zq w V m):zns w V.s.a m.sl:=by
 obtain⟨_,_,a,b⟩:=h.sl.sls;simp only[vJ]at a;rw[a.1];exact b
theorem zq.pgs{w:Xn}{V:MaV}{m:Ma}(h:zq w V m):zjJ w V.db.a m.db:=by
 obtain⟨_,_,a,b⟩:=h.db.rows;simp only[vJ]at a;rw[a.1];exact b
theorem zq.puts{w:Xn}{V:MaV}{m:Ma}(h:zq w V m):zdy w V.dq.a m.dq:=by
 obtain⟨_,_,a,b⟩:=h.dq.rows;simp only[vJ]at a;rw[a.1];exact b
theorem ziy(v fs)(w:Xn)(h:zj jR w v fs):
  Xp prog 55 #[v] w fun e w'=>∃d,e=Xl d/\zb jR w.heap.size w' d fs/\zc w w':=by
 have i:=dD h;obtain⟨⟨f,g,rfl,b,c⟩,a⟩:=h;have h:=fun w f n g j h=>Lib.run_eql_slice_nil w _ _ f n g j h underlying42
 cases f with
 |none=>
  have f:=b rfl;subst f;clear c b a
  go_enter func55,ntmps55
  go_wp2;go_ret;exact⟨_,rfl,zb.nil _ _ _,zc.refl w⟩
 |some x=>
  have f:=dD a;clear c b a
  go_enter func55,ntmps55
  go_wp2_with(at_builtin;refine zr (E:=jR) rfl (.tmp 5) (.tmp 6) rfl w.heap.size _ [] rfl (zb.made jR w) _ fs rfl (i.aA (za _ _)) ?qb Sm ?_)
  case qb=>rw[Yi,zA];exact f.out
  intro d a b a;go_wp2;go_ret;exact⟨d,rfl,Si b,((bR _ w).alloc (nR _) _).grown a Sm (by intro k a;simp[Value.ownBlock]at a;omega)⟩
theorem zix(v)(fs:List SpV)(w:Xn)(h:zj Q4 w v fs):
  Xp prog 103 #[v] w fun e w'=>∃d,e=Xl d/\zb Q4 w.heap.size w' d fs/\zc w w':=by
 have i:=dD h;obtain⟨⟨f,g,rfl,b,c⟩,a⟩:=h;have h:=fun w f n g j h=>Lib.run_eql_slice_nil w _ _ f n g j h underlying43
 cases f with
 |none=>
  have f:=b rfl;subst f;clear c b a
  go_enter func103,ntmps103
  go_wp2;go_ret;exact⟨_,rfl,zb.nil _ _ _,zc.refl w⟩
 |some x=>
  have f:=dD a;clear c b a
  go_enter func103,ntmps103
  go_wp2_with(at_builtin;refine zr (E:=Q4) rfl (.tmp 5) (.tmp 6) rfl w.heap.size _ [] rfl (zb.made Q4 w) _ fs rfl (i.aA (za _ _)) ?qb Sm ?_)
  case qb=>rw[Yi,zA];exact f.out
  intro d a b a;go_wp2;go_ret;exact⟨d,rfl,Si b,((bR _ w).alloc (nR _) _).grown a Sm (by intro k a;simp[Value.ownBlock]at a;omega)⟩
theorem ziz(v fs)(w:Xn)(h:zj arE w v fs):
  Xp prog 104 #[v] w fun e w'=>∃d,e=Xl d/\zb arE w.heap.size w' d fs/\zc w w':=by
 have i:=dD h;obtain⟨⟨f,g,rfl,b,c⟩,a⟩:=h;have h:=fun w f n g j h=>Lib.run_eql_slice_nil w _ _ f n g j h underlying71
 cases f with
 |none=>
  have f:=b rfl;subst f;clear c b a
  go_enter func104,ntmps104
  go_wp2;go_ret;exact⟨_,rfl,zb.nil _ _ _,zc.refl w⟩
 |some x=>
  have f:=dD a;clear c b a
  go_enter func104,ntmps104
  go_wp2_with(at_builtin;refine zr (E:=arE) rfl (.tmp 5) (.tmp 6) rfl w.heap.size _ [] rfl (zb.made arE w) _ fs rfl (i.aA (za _ _)) ?qb Sm ?_)
  case qb=>rw[Yi,zA];exact f.out
  intro d a b a;go_wp2;go_ret;exact⟨d,rfl,Si b,((bR _ w).alloc (nR _) _).grown a Sm (by intro k a;simp[Value.ownBlock]at a;omega)⟩
end
section
def znA(f:Fr):Prop:=0<=f.r/\(0<=f.x/\f.x<12)/\(f.f=-1\/(0<=f.f/\f.f<5))/\(f.r=0->f=frF)/\(f.f=-1->f.x=0)
theorem zgJ{f:Fr}(h:znA f)(a:f.r<=1000):frW f=0:=by
 obtain⟨a,a,a,a,a⟩:=h
 grind[frW,inB,zbb,frF,zdg]
theorem Qx:∀{l:List Fr},zfK l=0↔∀f∈l,frW f=0
 |[]=>by simp[zfK]
 |f::l=>by
  unfold zfK
  by_cases h:frW f=0
  ·rw[kE h,Qx]
   simp[h]
  rw[kF h]
  simp[h]
def zo8(m:Ma)(x:On)(e:En):Prop:=enW e=0/\e.kind≠0/\zgS m x e=0
structure Z6(m:Ma)(T:List (Nat->En)):Prop where
 bB:m.fs.length<=40
 bV:∀f∈m.fs,znA f
 aX:m.sl.length<=60
 bM:m.sb.length=m.sl.length
 sq:zD m.sb.length m.sq=0
 aW:zD m.db.length m.dq=0
 st:stW m.fl m.cnt=0
 cnt:m.cnt=(m.db.length:Int)
 bU:∀b:Nat,b<m.db.length->z4 m.fl (b:Int)=Xd->m.db[b]?=Xa zS
 bN:∀q∈m.dq,z4 m.fl q.1=Xc
 aT:m.sp.length<=4
 bH:∀s∈m.sp,(wrL s.aE).1=0/\(s.aH=Xd->s.aE=[])
 tl:T.length=m.sp.length
 ca:zbU m Xb m.ca=0
 bF:∀(p:Nat)s f,m.sp[p]?=Xa s->T[p]?=Xa f->∀n:Nat,n<64->f n=en0\/zo8 m (zN s.aE n) (f n)
 cf:∀(k:Nat)f,m.fs[k]?=Xa f->f.r=((qV T 1 k+zY m.ca k:Nat):Int)/\(0<=f.f->zY m.ca k≠0)
 cs:∀(k:Nat)z,m.sl[k]?=Xa z->z=(qV T 2 k:Int)
theorem zy{m:Ma}:∀{l:List Ca}{p:Option Ca},zbU m p l=0↔(∀c∈l,caE m Xb c=0)/\(∀q c,p=Xa q->c∈l->qp q<qp c)/\l.Pairwise (fun a b=>qp a<qp b)
 |[],p=>by simp[zbU]
 |c::l,p=>by
  unfold zbU;have s:caE m p c=0↔caE m Xb c=0/\∀q,p=Xa q->qp q<qp c:=by
   unfold caE
   by_cases j:c.file<0\/(m.fl.length:Int)<=c.file\/c.idx<0\/bkN m c.file<=c.idx\/c.fr<0\/(m.fs.length:Int)<=c.fr
   ·rw[kE j,kE j];simp
   rw[kF j,kF j]
   by_cases k:(z3 m c.fr).r=0\/(z3 m c.fr).f≠c.file\/(z3 m c.fr).x≠c.idx
   ·rw[kE k,kE k];simp
   rw[kF k,kF k]
   cases p with
   |none=>simp
   |some q=>
    simp only[Option.some.injEq,forall_eq',true_and]
    by_cases r:qp c<=qp q
    ·rw[kE r];constructor
     ·intro h;cases h
     intro h;omega
    rw[kF r];simp;omega
  by_cases h:caE m p c=0
  ·rw[kE h,zy];obtain⟨v,n⟩:=s.1 h;constructor
   ·rintro⟨f,g,i⟩;refine⟨?_,?_,?_⟩
    ·intro x d
     rcases mC.1 d with rfl|d
     ·exact v
     exact f x d
    ·intro q x e d
     rcases mC.1 d with rfl|d
     ·exact n q e
     have:=n q e;have:=g c x rfl d;omega
    exact Ye.2 ⟨fun x d=>g c x rfl d,i⟩
   rintro⟨f,g,i⟩;obtain⟨t,u⟩:=Ye.1 i;exact⟨fun x d=>f x (by simp[d]),fun q x e d=>by cases e;exact t x d,u⟩
  rw[kF h];constructor
  ·intro w;exact absurd w h
  rintro⟨f,g,i⟩;exact absurd (s.2 ⟨f c Sm,fun q e=>g q c e Sm⟩) h
theorem Zv{m:Ma}{c:Ca}(h:caE m Xb c=0):(0<=c.file/\c.file<m.fl.length/\0<=c.idx/\c.idx<bkN m c.file/\0<=c.fr/\c.fr<m.fs.length)/\(z3 m c.fr).r≠0/\(z3 m c.fr).f=c.file/\(z3 m c.fr).x=c.idx:=by grind[caE]
theorem zjA{m:Ma}{c:Ca}(a:0<=c.file/\c.file<m.fl.length/\0<=c.idx/\c.idx<bkN m c.file/\0<=c.fr/\c.fr<m.fs.length)(b:(z3 m c.fr).r≠0)(d:(z3 m c.fr).f=c.file)(e:(z3 m c.fr).x=c.idx):caE m Xb c=0:=by grind[caE]
theorem zez{m:Ma}(h:zbU m Xb m.ca=0)(k:Int):zY m.ca k<=1:=by
 obtain⟨a,_,a⟩:=zy.1 h;have a:∀(l:List Ca),(∀c∈l,caE m Xb c=0)->l.Pairwise (fun a b=>qp a<qp b)->zY l k<=1:=by
  intro l
  induction l with
  |nil=>intro _ _;simp[zY]
  |cons c l d=>
   intro e a;obtain⟨h,f⟩:=Ye.1 a;have b:=d (fun x d=>e x (by simp[d])) f
   unfold zY at b⊢;rw[List.countP_cons]
   by_cases g:c.fr=k
   ·have:l.countP (fun c=>decide (c.fr=k))=0:=by
     rw[Ue];intro x d f;have a:x.fr=k:=Si f
     have f:=Zv (e c Sm)
     have c:=Zv (e x (by simp[d]))
     have e:=h x d;rw[g]at f;rw[a]at c;unfold qp at e;have:=f.2.2.1;have:=f.2.2.2;have:=c.2.2.1;have:=c.2.2.2;omega
    rw[this]
    simp[g]
   simp[g]
   exact b
 grind
theorem zbS{ca:List Ca}{c:Ca}(h:c∈ca):zY ca c.fr≠0:=by
 unfold zY;intro a;rw[Ue]at a;exact a c h Sm
theorem zbT{ca:List Ca}{k:Int}(h:zY ca k≠0):∃c∈ca,c.fr=k:=by grind[zY,Nat.pos_of_ne_zero,Uf]
def ZT(f:Nat->En):List (List En):=Qg ((Xu 64).map f)
def zad(m:Ma)(T:List (Nat->En))(h:Int):Ma:={m with aB:=h,sp:=Ou (fun s f=>{s with tb:=ZT f}) m.sp T}
theorem zeP{f:Nat->En}(h:∀n,n<64->enW (f n)=0){n:Nat}(a:n<64):zcv (ZT f) (n/8) (n%8)=f n:=by
 unfold ZT zcv Qg;rw[Xz,Xw Wm]
 simp only[Option.map_some,Option.getD_some];have b:∀e∈zcn ((Xu 64).map f) (n/8),enW e=0:=by
  intro e a;unfold zcn at a;obtain⟨k,c,rfl⟩:=Ya.1 a;rw[Xs]at c;rw[Xz,Xw Wm]
  exact h _ Wm
 rw[zpc _ b];unfold zcn;rw[Xz,Xw Wm]
 simp only[Option.map_some,Option.getD_some];rw[Xz,Xw Wm]
 simp only[Option.map_some,Option.getD_some]
 congr 1
 omega
theorem ziW{f:Nat->En}(h:∀n,n<64->enW (f n)=0):tbW (ZT f)=0:=by
 rw[Z7];intro x a;unfold ZT Qg at a;obtain⟨i,b,rfl⟩:=Ya.1 a;rw[Xs]at b;refine zqT (by simp[zcn]) ?_
 intro e a;unfold zcn at a;obtain⟨k,b,rfl⟩:=Ya.1 a;rw[Xs]at b;rw[Xz,Xw Wm]
 exact h _ Wm
theorem zhM{f:Nat->En}(h:∀n,n<64->f n=en0):(ZT f).all (·.isEmpty)=Xc:=by
 rw[Yk];intro x a;unfold ZT Qg at a;obtain⟨i,b,rfl⟩:=Ya.1 a;rw[Xs]at b;have:zfF (zcn ((Xu 64).map f) i)=Xd:=by
  unfold zfF;rw[Yq];intro e a;unfold zcn at a;obtain⟨k,b,rfl⟩:=Ya.1 a;rw[Xs]at b;rw[Xz,Xw Wm]
  simp only[Option.map_some,Option.getD_some];rw[h _ Wm]
  decide
 grind[mk]
theorem zg7{f g:Nat->En}(kind k:Int):∀{m:Nat},(∀n,n<m->f n=g n)->ZH f kind k m=ZH g kind k m
 |0,_=>rfl
 |m+1,h=>by
  unfold ZH;rw[zg7 kind k (fun n a=>h n Wm),h m Wm]
section
variable{m:Ma}{T:List (Nat->En)}
theorem Z6.en(h:Z6 m T){p:Nat}{f:Nat->En}(a:T[p]?=Xa f){n:Nat}(b:n<64):enW (f n)=0:=by
 have c:p<m.sp.length:=by rw[<-h.tl];exact(gS.1 a).1
 rcases h.bF p _ f (gE c) a n b with a|a
 ·grind[QB]
 exact a.1
theorem zpg(h:Z6 m T)(b:Int){p:Nat}{s:Sp}(a:(zad m T b).sp[p]?=Xa s):∃b f,m.sp[p]?=Xa b/\T[p]?=Xa f/\s={b with tb:=ZT f}:=by
 unfold zad at a;simp only[List.getElem?_zipWith]at a;have b:p<m.sp.length:=by grind
 have c:p<T.length:=by rw[h.tl];exact b
 rw[gE b,gE c]at a;simp only[Option.some.injEq]at a;exact⟨_,_,gE b,gE c,a.symm⟩
theorem zjt(h:Z6 m T)(a:Int)(kind k:Int):zc8 (zad m T a) kind k=qV T kind k:=by
 have b:∀(S:List Sp)(T:List (Nat->En)),T.length=S.length->(∀(p:Nat)f,T[p]?=Xa f->∀n,n<64->enW (f n)=0)->qV ((Ou (fun s f=>({s with tb:=ZT f}:Sp)) S T).map zl) kind k=qV T kind k:=by
  intro S
  induction S with
  |nil=>intro T a _;rw[List.length_eq_zero_iff.1 a];rfl
  |cons s S e=>
   intro T a d
   cases T with
   |nil=>simp at a
   |cons f T=>
    have c:=e T (Si a) (fun p g a=>d (p+1) g (Si a))
    have e:ZH (zl {s with tb:=ZT f}) kind k 64=ZH f kind k 64:=zg7 kind k fun n a=>by
     unfold zl;exact zeP (d 0 f rfl) a
    simp only[Ov,mP,qV,Oj]at c⊢;rw[c,e]
 exact b m.sp T h.tl fun p f b n a=>h.en b a
theorem Z6.right(h:Z6 m T){d:Int}(a:0<=d)(b:d<max (m.fs.length:Int) 1):maW (zad m T d)=0:=by
 have a:T.length<=4:=by rw[h.tl];exact h.aT
 unfold maW;rw[zp];intro e a;simp only[mC,nM,or_false]at a
 rcases a with rfl|rfl|rfl|rfl|rfl
 ·unfold zao;rw[zp];intro e a;simp only[mC,nM,or_false]at a
  rcases a with rfl|rfl|rfl|rfl|rfl|rfl|rfl|rfl|rfl|rfl
  ·show j4 m.fs d=0
   unfold j4;have b:zfK m.fs=0:=Qx.2 fun f l=>by
    obtain⟨k,g⟩:=Xt l;refine zgJ (h.bV f l) ?_;rw[(h.cf k f g).1];have:=zda T 1 k;have:=zez h.ca k;omega
   rw[kF (Hm h.bB),kE b,kE]
   simp[inB]
   omega
  ·show slW m.sl=0
   unfold slW;rw[kF (Hm h.aX),kF]
   rw[Yb];rintro⟨z,b,i⟩;obtain⟨k,g⟩:=Xt b;have c:=h.cs k z g;have:=zda T 2 k;unfold zdC at i
   simp at i
   omega
  ·exact h.sq
  ·exact h.aW
  ·exact h.st
  ·show zoE m=0
   unfold zoE;rw[kF];have:=h.bM;have:=h.cnt;omega
  ·show zbj m=0
   unfold zbj;rw[kF];rw[Yb];rintro⟨j,i,b⟩;rw[Xs]at i;simp only[Xy,Bool.not_eq_true']at b;have:=h.bU j i b.1;rw[gD,this]at b
   simp at b
  ·show zaR m=0
   unfold zaR;rw[kF];rw[Yb];rintro⟨y,w,b⟩;rw[h.bN y w]at b;cases b
  ·grind[zad]
  rw[zp];intro e a;obtain⟨z,u,rfl⟩:=Ya.1 a;obtain⟨x,v⟩:=Xt u;obtain⟨s,f,q,r,rfl⟩:=zpg h d v;have t:=h.bH s (mG q);unfold spE;simp only;rw[kF (fun h=>h t.1),kF (fun i=>i (ziW fun n i=>h.en r i)),kF]
  intro b;rw[Xy]at b;have p:s.aH=Xd:=Si b.1
  have j:=t.2 p;have p:(ZT f).all (·.isEmpty)=Xc:=zhM fun n i=>by
   rcases h.bF x s f q r n i with e|e
   ·exact e
   have:=e.2.2;unfold zgS at this;rw[j,kE (show(zN [] n).is=Xd from rfl)]at this
   cases this
  rw[j,p]at b
  simp at b
 ·obtain⟨q,r,j⟩:=zy.1 h.ca;exact zy.2 ⟨fun b p=>q b p,fun y b w=>(by cases w),j⟩
 ·rw[zp];intro e a;obtain⟨z,u,rfl⟩:=Ya.1 a;obtain⟨x,v⟩:=Xt u;obtain⟨s,f,q,r,rfl⟩:=zpg h d v;unfold zdO;rw[zp];intro e a;obtain⟨n,i,rfl⟩:=Ya.1 a;rw[Xs]at i;have l:zl {s with tb:=ZT f} n=f n:=by
   unfold zl;exact zeP (fun n i=>h.en r i) i
  rw[l]
  rcases h.bF x s f q r n i with c|c
  ·rw[c,kE (show en0.kind=0 from rfl)]
  rw[kF c.2.1];exact c.2.2
 ·rw[zp];intro e a;obtain⟨k,g,rfl⟩:=Ya.1 a;rw[Xs]at g;have b:k<m.fs.length:=g;have l:=h.cf k _ (gE b);unfold frE;rw[zjt h d];have f:z3 (zad m T d) k=m.fs[k]:=by
   show m.fs.getD (k:Int).toNat frF=_
   rw[tN,gD,gE b];rfl
  rw[f,kF];rintro(c|⟨c,i⟩)
  ·exact c l.1
  exact l.2 c i
 rw[zp];intro e a;obtain⟨k,g,rfl⟩:=Ya.1 a;rw[Xs]at g;have b:k<m.sl.length:=g;have u:=h.cs k _ (gE b);unfold znE;rw[zjt h d];have f:(zad m T d).sl.getD k 0=m.sl[k]:=by
  show m.sl.getD k 0=_
  rw[gD,gE b];rfl
 rw[f,kF (fun c=>c u)]
def jB(m:Ma):List (Nat->En):=m.sp.map zl
theorem zaP{m:Ma}(h:maW m=0):Z6 m (jB m)/\0<=m.aB/\m.aB<max (m.fs.length:Int) 1:=by
 unfold maW at h;rw[zp]at h;have a:zao m=0:=h _ Sm
 have i:zbU m Xb m.ca=0:=h _ Sm
 have q:=zp.1 (h (zC (m.sp.map (zdO m))) Sm)
 have r:=zp.1 (h (zC ((Xu m.fs.length).map (frE m))) Sm)
 have t:=zp.1 (h (zC ((Xu m.sl.length).map (znE m))) Sm)
 unfold zao at a;rw[zp]at a;have b:j4 m.fs m.aB=0:=a _ Sm
 have b:slW m.sl=0:=a _ Sm
 have c:zD m.sb.length m.sq=0:=a _ Sm
 have g:zD m.db.length m.dq=0:=a _ Sm
 have j:stW m.fl m.cnt=0:=a _ Sm
 have b:zoE m=0:=a _ Sm
 have l:zbj m=0:=a _ Sm
 have b:zaR m=0:=a _ Sm
 have b:(if 4<m.sp.length then(4:Int)else 0)=0:=a _ Sm
 have e:=zp.1 (a (zC (m.sp.map spE)) Sm)
 have d:m.fs.length<=40/\zfK m.fs=0/\0<=m.aB/\m.aB<max (m.fs.length:Int) 1:=by grind[j4,inB]
 have k:m.sl.length<=60:=by grind[slW]
 have b:m.sl.length=m.sb.length/\m.cnt=(m.db.length:Int):=by grind[zoE]
 refine⟨⟨d.1,fun f p=>?_,k,b.1.symm,c,g,j,b.2,fun b b b=>?_,fun b b=>?_,?_,fun s g=>?_,by simp[jB],i,fun b s f g j n u=>?_,fun k f b=>?_,fun k z b=>?_⟩,d.2.2.1,d.2.2.2⟩
 ·have c:=Qx.1 d.2.1 f p;unfold frW at c
  split at c
  ·cases c
  rename_i d
  split at c
  ·cases c
  rename_i d
  split at c
  ·cases c
  rename_i c
  have c:inB f.r 1001=Xc/\inB f.x 12=Xc:=by grind
  have d:f.f=-1\/inB f.f 5=Xc:=by grind
  have p:(f.r=0->f=frF)/\(f.f=-1->f.x=0):=by grind[zbb,frF,zdg]
  unfold inB at c d
  simp at c d
  exact⟨Wm,Wm,Wm,p.1,p.2⟩
 ·unfold zbj at l
  split at l
  ·cases l
  grind
 ·grind[zaR,z4,Yb.2]
 ·grind
 ·have d:=e (spE s) (Ya.2 ⟨s,g,rfl⟩);unfold spE at d
  split at d
  ·grind
  grind
 ·unfold jB at j;rw[Xz,g]at j;cases j;have c:=mG g;have d:=e (spE s) (Ya.2 ⟨s,c,rfl⟩);have g:tbW s.tb=0:=by grind[spE]
  have e:enW (zl s n)=0:=by
   unfold zl zcv;have d:=Z7.1 g;have:ziS (s.tb[n/8]?.getD []):=by
    cases g:s.tb[n/8]? with
    |none=>exact .inl rfl
    |some x=>exact d x (mG g)
   exact this.get (n%8)
  have d:=zp.1 (q (zdO m s) (Ya.2 ⟨s,c,rfl⟩)) _ (Ya.2 ⟨n,Xs.2 u,rfl⟩)
  by_cases b:(zl s n).kind=0
  ·left;exact zmU e (by simp[enS,b])
  right;rw[kF b]at d;exact⟨e,b,d⟩
 ·have c:=(gS.1 b).1;have:=r (frE m k) (Ya.2 ⟨k,Xs.2 c,rfl⟩);unfold frE at this;have d:z3 m k=f:=by unfold z3;rw[tN,gD,b];rfl
  rw[d]at this
  split at this
  ·cases this
  rename_i d
  refine⟨Classical.byContradiction fun h=>d (.inl h),fun a i=>d (.inr ⟨a,i⟩)⟩
 have c:=(gS.1 b).1;have:=t (znE m k) (Ya.2 ⟨k,Xs.2 c,rfl⟩);unfold znE at this;rw[gD,b]at this
 split at this
 ·cases this
 rename_i d
 exact Classical.byContradiction fun h=>d h
end
section
variable{m:Ma}{T:List (Nat->En)}
theorem zX{m:Ma}{k:Nat}{f:Fr}(h:m.fs[k]?=Xa f):z3 m (k:Int)=f:=by
 unfold z3;rw[tN,gD,h];rfl
theorem JO{m:Ma}{k:Nat}{f:Fr}(a:k<m.fs.length)(z:Int)(b:0<=z):z3 {m with fs:=m.fs.set k f} z=if z=(k:Int)then f else z3 m z:=by
 unfold z3;simp only[gD]
 by_cases e:z=(k:Int)
 ·grind
 grind
theorem Ju{m m':Ma}{x:On}{e:En}(h:zgS m x e=0)(c:m'.sl.length=m.sl.length)(b:m'.fs.length=m.fs.length)(a:e.kind≠2->(z3 m' e.n).f=(z3 m e.n).f/\(z3 m' e.n).x=(z3 m e.n).x/\(e.wr=Xc->(z3 m e.n).f=-1->(z3 m' e.n).r<=1)):zgS m' x e=0:=by grind[zgS]
theorem ja{m:Ma}{x:On}{e:En}(h:zo8 m x e)(a:e.kind≠2):e.kind=1/\0<=e.n/\e.n<m.fs.length/\(e.wr=Xc->(z3 m e.n).f=-1->(z3 m e.n).r<=1):=by
 obtain⟨a,b,b⟩:=h;obtain⟨b,b,_⟩:=Zl a
 grind[zgS,z3]
theorem zfh{T:List (Nat->En)}{p:Nat}{f:Nat->En}(a:T[p]?=Xa f){n:Nat}(c:n<64)(b:(f n).kind=1):1<=qV T 1 (f n).n:=JL a c (by simp[isE,b]) Dc
theorem Z6.free(h:Z6 m T){f:Fr}(b:m.fs[j]?=Xa f)(a:f.r=0):qV T 1 j=0/\zY m.ca j=0:=by
 have:=(h.cf j f b).1;rw[a]at this;omega
def zku(ca:List Ca)(c:Ca):List Ca:=ca.takeWhile (fun d=>decide (qp d<qp c))++c::ca.dropWhile (fun d=>decide (qp d<qp c))
theorem zji{kind k:Int}{e:En}(h:e.kind≠kind):isE e kind k=Xd:=by simp[isE,h]
theorem zgB{kind k:Int}{e:En}(h:e.n≠k):isE e kind k=Xd:=by simp[isE,h]
end
structure zrF(fl:List Fl)(cnt:Int)(db:List (List Int))(dq:List (Int×List Int))(bl:List Int):Prop where
 st:stW fl cnt=0
 cn:cnt=(db.length:Int)
 ql:dq.length<=(QZ fl).length+bl.length
 blok:∀b∈bl,b=-1\/(0<=b/\b<cnt)
 nod:(Z5 (QZ fl++bl)).Nodup
 bU:∀b:Nat,b<db.length->z4 fl (b:Int)=Xd->(b:Int)∉bl->db[b]?=Xa zS
 bN:∀q∈dq,(0<=q.1/\q.1<cnt)/\(z4 fl q.1=Xc\/q.1∈bl)
theorem zjG{a:Int}:∀{fl:List Fl},(∀f∈fl,zqI a f)->(QZ fl).length<=12*fl.length
 |[],_=>by simp[QZ]
 |f::fl,h=>by
  have b:=zjG (fl:=fl) fun g a=>h g (by simp[a])
  obtain⟨a,a,c⟩:=h f Sm
  unfold zbQ at a;simp only[QZ,Yc,lA,Yg]at b⊢
  split at a<;>omega
theorem zrF.start{fl:List Fl}{a:Int}{b:List (List Int)}{c:List (Int×List Int)}(h:zrF fl a b c []){n k:Nat}(f:n<=40)(e:k<=60)(d:Int):Z6 ⟨Xr n frF,d,Xr k 0,Xr k zS,[],b,c,fl,a,[],[]⟩ []:=by
 obtain⟨⟨d,d,d⟩,g,d⟩:=(qi fl a).1 h.st;refine⟨Si f,fun f i=>?_,Si e,Sm,?_,?_,h.st,h.cn,fun a e d=>h.bU a e d Sm,fun q d=>?_,Sm,Sm,rfl,rfl,fun p s f a=>by simp at a,fun j f a=>?_,fun j z a=>?_⟩
 ·have:=(Og.1 i).2;subst this;exact⟨Dc,Dc,.inl rfl,fun _=>rfl,fun _=>rfl⟩
 ·grind[zD,Xr,zS]
 ·show zD b.length c=0
  have b:=zjG g;have b:=h.ql;have c:=h.cn;unfold zD;rw[kF Wm,kF (by simp at b;omega),kF]
  rw[Yb];rintro⟨q,d,e⟩;have:=(h.bN q d).1
  grind[ZF]
 ·exact(h.bN q d).2.resolve_right Sm
 ·simp only at a;rw[Om]at a
  split at a
  ·cases a;exact⟨rfl,fun h=>by simp[frF]at h⟩
  cases a
 simp only at a;rw[Om]at a
 split at a
 ·cases a;rfl
 cases a
def pgL(p:Pg):List Int:=[p.b0,p.b1,p.b2,p.b3,p.b4,p.b5,p.b6,p.b7]
def Zm(p:List Int)(idx size:Int):List Int:=p.mapIdx fun i z=>if size<=8*idx+(i:Int)then 0 else z
def zfE(m:Ma)(file idx:Int):Int:=(m.fl.getD file.toNat ⟨0,[]⟩).bl.getD idx.toNat 0
def Z4(m:Ma)(file:Int):Int:=(m.fl.getD file.toNat ⟨0,[]⟩).size
def zcu(file idx:Int)(c:Ca):Bool:=decide (c.file=file)&&decide (c.idx=idx)
def z2(m:Ma)(file idx:Int):List Int:=
 match m.ca.find? (zcu file idx)with
 |some c=>pgL (z3 m c.fr).p
 |none=>if zfE m file idx<0 then zS else Zm (qw m.db m.dq (zfE m file idx)) idx (Z4 m file)
def qF(m:Ma)(file idx:Int):List Int:=if zfE m file idx<0 then zS else Zm (qw m.db m.dq (zfE m file idx)) idx (Z4 m file)
def zeA(m:Ma)(file:Int):List Int:=(Xu (Z4 m file).toNat).map fun(k:Nat)=>(z2 m file ((k/8:Nat):Int)).getD (k%8) 0
def Zx(m:Ma)(file:Int):Int:=if maW m≠0 then maW m else if file<0\/(m.fl.length:Int)<=file then 5 else 0
def Zw(m:Ma)(file:Int):List Int:=if Zx m file=0 then zeA m file else[]
def zhD(m:Ma)(p n:Int):List Int×Bool×Int:=
 if p<0\/(m.sp.length:Int)<=p\/n<0\/63<n then(zS,Xd,5)
 else
  let s:=m.sp.getD p.toNat ⟨Xd,[],[]⟩
  let x:=zN s.aE n.toNat
  let e:=zl s n.toNat
  if x.is=Xd then(zS,Xd,5)
  else if e.kind=1 then(pgL (z3 m e.n).p,decide ((z3 m e.n).f<0),0)
  else if e.kind=2 then(qw m.sb m.sq e.n,Xc,0)
  else if x.file<0 then(zS,Xd,0)
  else if bkN m x.file<=x.aI then(zS,Xd,9)
  else(z2 m x.file x.aI,Xd,0)
def ZA(m:Ma)(p n:Int):List Int×Bool×Int:=if maW m≠0 then(zS,Xd,maW m)else zhD m p n
theorem zjs{m:Ma}(h:∀s∈m.sp,Qc s.tb):zad m (jB m) m.aB=m:=by
 have:Ou (fun s f=>({s with tb:=ZT f}:Sp)) m.sp (jB m)=m.sp:=by
  have a:∀l:List Sp,(∀s∈l,Qc s.tb)->Ou (fun s f=>({s with tb:=ZT f}:Sp)) l (l.map zl)=l:=by
   intro l
   induction l with
   |nil=>intro _;rfl
   |cons s l e=>
    intro b;have c:=b s Sm
    have d:ZT (zl s)=s.tb:=by
     unfold ZT;refine zjZ c fun j c=>?_
     rw[Xz,Xw c];rfl
    rw[mP,Ov,e (fun x c=>b x (by simp[c])),d]
  exact a m.sp h
 unfold zad;rw[this]
theorem ZY{m:Ma}(h:zbU m Xb m.ca=0){c:Ca}(b:c∈m.ca):m.ca.find? (zcu c.file c.idx)=Xa c:=by
 obtain⟨a,_,f⟩:=zy.1 h
 cases a:m.ca.find? (zcu c.file c.idx)with
 |none=>
  rw[List.find?_eq_none]at a;exact absurd (by simp[zcu]) (a c b)
 |some d=>
  have g:=List.mem_of_find?_eq_some a;have e:d.file=c.file/\d.idx=c.idx:=by
   have:=List.find?_some a
   simpa[zcu]using this
  have a:qp d=qp c:=by unfold qp;rw[e.1,e.2]
  by_cases e:d=c
  ·rw[e]
  exfalso;have:∀l:List Ca,l.Pairwise (fun a e=>qp a<qp e)->c∈l->d∈l->False:=by
   intro l
   induction l with
   |nil=>intro _ a;cases a
   |cons x l d=>
    intro d a e;obtain⟨e,e⟩:=Ye.1 d
    rcases mC.1 a with a|a
    ·grind
    grind
  exact this m.ca f b g
theorem zdj{α:Type}{f:α->Int}:∀{l:List α}{k:Nat}{q:α},l[k]?=Xa q->(∀(j:Nat)x,j<k->l[j]?=Xa x->f x=0)->f q≠0->zC (l.map f)=f q
 |[],k,q,h,_,_=>by simp at h
 |a::l,0,q,h,_,b=>by
  simp at h
  subst h;simp only[mP,zC];rw[kF b]
 |a::l,k+1,q,h,c,b=>by
  simp only[mP,zC];rw[kE (c 0 a Wm rfl)]
  exact zdj (Si h) (fun j x d d=>c (j+1) x Wm (Si d)) b
theorem zer{α:Type}{f:α->Int}{l:List α}(a:∀(j:Nat)x,l[j]?=Xa x->f x=0):zC (l.map f)=0:=by grind[zp,Ya.1,Xt]
theorem QW{α:Type}{p:α->Bool}{g:α->Int}:∀(l:List α),zC (l.map fun x=>if p x=Xc then g x else 0)=zC ((l.filter p).map g)
 |[]=>rfl
 |a::l=>by
  simp only[mP,zC]
  by_cases h:p a=Xc
  ·rw[kE h,Yu h];simp only[mP,zC];rw[QW l]
  rw[kF h,kE rfl,List.filter_cons_of_neg h,QW l]
theorem Ze(a:Int)(l):zC (a::l)=if a=0 then zC l else a:=rfl
theorem zeq:zC []=0:=rfl
def QK(m:Ma):List Int:=[j4 m.fs m.aB,slW m.sl,zD m.sb.length m.sq,zD m.db.length m.dq,stW m.fl m.cnt]
def Je(m:Ma):List Int:=[zoE m,zbj m,zaR m]
def Qe(m:Ma):Int:=if 4<m.sp.length then 4 else zC (m.sp.map spE)
def zaj(m:Ma):Int:=if zC ((Xu m.fs.length).map (frE m))=0 then zC ((Xu m.sl.length).map (znE m))else zC ((Xu m.fs.length).map (frE m))
def zfW(m:Ma):Int:=zC (m.sp.map (zdO m))
def zd3(m:Ma):Int:=zbU m Xb m.ca
theorem zkI(l k):zC (l++k)=if zC l=0 then zC k else zC l:=by
 induction l with
 |nil=>simp[zC]
 |cons a l d=>
  by_cases h:a=0
  ·have b:zC (a::l)=zC l:=by rw[Ze,kE h]
   have c:zC (a::l++k)=zC (l++k):=by rw[Ys,Ze,kE h]
   rw[b,c,d]
  have b:zC (a::l)=a:=by rw[Ze,kF h]
  have c:zC (a::l++k)=a:=by rw[Ys,Ze,kF h]
  rw[b,c,kF h]
theorem zpU(m):maW m=zC [zC (QK m),zC (Je m),Qe m,zd3 m,zfW m,zaj m]:=by grind[zao,zC,QK,Je,Qe,spE,zkI,Ze,zeq,maW,zaj,zfW,zd3,Xu,frE,znE]
structure zjH(m:Ma):Prop where
 mem:j4 m.fs m.aB=0
 sl:slW m.sl=0
 sq:zD m.sb.length m.sq=0
 dq:zD m.db.length m.dq=0
 st:stW m.fl m.cnt=0
theorem zqM{m:Ma}:zC (QK m)=0↔zjH m:=by
 rw[zp];unfold QK;constructor
 ·intro h;exact⟨h _ Sm,h _ Sm,h _ Sm,h _ Sm,h _ Sm⟩
 intro h e a;simp only[mC,nM,or_false]at a
 rcases a with rfl|rfl|rfl|rfl|rfl
 ·exact h.mem
 ·exact h.sl
 ·exact h.sq
 ·exact h.dq
 exact h.st
theorem zaT{n:Nat}:∀{l:List Ar}{p:Option Ar}{k:Nat}{a:Ar},Qd p l->l[k]?=Xa a->Jc a n=Xc->zN l n=qg a n
 |[],_,_,_,_,h,_=>by simp at h
 |b::l,p,0,a,_,h,c=>by
  simp at h
  subst h;rw[jg]at c;exact QR c.1 c.2
 |b::l,p,k+1,a,e,h,c=>by
  have f:l[k]?=Xa a:=Si h
  have d:=zaT e.2.2 f c
  by_cases c:(n:Int)<b.tz
  ·have:=e.2.2.low rfl c;rw[this]at d;exact(zgm d.symm).elim
  rw[zct (.inr Wm)]
  exact d
def qG(s:Sp):List Nat:=(Xu 64).filter fun n=>enS (zl s n)
theorem zhO(m)(s:Sp):zdO m s=zC ((qG s).map fun n=>zgS m (zN s.aE n) (zl s n)):=by grind[zdO,qG,QW,Ug,zl,enS]
theorem zgj{s:Sp}(e:tbW s.tb=0)(d:s.tb.length=8):qG s=[]↔s.tb.all (·.isEmpty)=Xc:=by
 unfold qG;rw[List.filter_eq_nil_iff,Yk];constructor
 ·intro h x a;obtain⟨i,b⟩:=Xt a;have c:i<8:=by rw[<-d];exact(gS.1 b).1
  rcases Z7.1 e x a with a|⟨c,a,a⟩
  ·grind
  exfalso;unfold zfF at a;rw[Yb]at a;obtain⟨e,d,f⟩:=a;obtain⟨j,a⟩:=Xt d;have d:j<8:=by rw[<-c];exact(gS.1 a).1
  refine h (8*i+j) (Xs.2 Wm) ?_
  unfold zl zcv;rw[show(8*i+j)/8=i by omega,show(8*i+j)%8=j by omega,b]
  simp only[Option.getD_some];rw[a];exact f
 intro h n a;rw[Xs]at a;unfold zl zcv
 cases e:s.tb[n/8]? with
 |none=>simp[enS,en0]
 |some x=>
  have:=h x (mG e);have:x=[]:=by simpa using this
  subst this
  simp[enS,en0]
def Z9(f:Fr)(a:Ar)(n:Nat):Bool:=if f.f<0 then !a.sh else f.f==a.file&&f.x==a.base+(n:Int)-a.fr
def Zs(f:Fr)(a:Ar):Bool:=a.wr&&(if f.f<0 then decide (f.r<=1)else a.sh)
def zd2(m:Ma)(a:Ar)(n:Nat)(e:En):Int:=
 if e.kind=2 then(if(m.sl.length:Int)<=e.n\/a.sh=Xc then 7 else 0)
 else if(m.fs.length:Int)<=e.n then 3
 else if Z9 (z3 m e.n) a n=Xd\/(e.wr=Xc/\Zs (z3 m e.n) a=Xd)then 7 else 0
theorem zqg{m:Ma}(a:j4 m.fs m.aB=0)(k:Int):(z3 m k).f=-1\/(0<=(z3 m k).f/\(z3 m k).f<5):=by
 unfold z3;rw[gD]
 cases h:m.fs[k.toNat]? with
 |none=>left;rfl
 |some f=>
  have b:zfK m.fs=0:=by grind[j4]
  have a:=Qx.1 b f (mG h);simp only[Option.getD_some];unfold frW at a
  split at a
  ·cases a
  grind[inB]
theorem zlz{m:Ma}{a:Ar}{n:Nat}{e:En}(c:j4 m.fs m.aB=0)(d:jK a):zgS m (qg a n) e=zd2 m a n e:=by
 unfold zgS zd2;rw[kF (by simp[qg])]
 by_cases b:e.kind=2
 ·rw[kE b,kE b];rfl
 rw[kF b,kF b]
 by_cases b:(m.fs.length:Int)<=e.n
 ·grind
 rw[kF b,kF b];have b:=zqg c e.n;obtain⟨f,c⟩:=kB (z3 m e.n);rw[c]at b⊢;unfold Z9 Zs qg;simp only;obtain⟨c,c,c,c,c,c,c,c⟩:=d
 rcases b with b|b
 ·grind
 grind
def QF(c d:Ca):Bool:=decide (c.file<d.file)||(c.file==d.file&&decide (c.idx<d.idx))
theorem zno{c d:Ca}(a:0<=c.idx/\c.idx<100)(b:0<=d.idx/\d.idx<100):QF c d=decide (¬qp d<=qp c):=by
 unfold QF qp;rw[Oy];simp;omega
theorem zqu{m:Ma}{p:Option Ca}{c:Ca}(a:stW m.fl m.cnt=0)(h:caE m p c=0):0<=c.idx/\c.idx<100:=by
 unfold caE at h
 split at h
 ·cases h
 rename_i b
 have b:bkN m c.file<=12:=by
  unfold bkN;rw[gD]
  cases e:m.fl[c.file.toNat]? with
  |none=>simp
  |some f=>
   have:=((qi _ _).1 a).2.1 f (mG e);simp only[Option.getD_some];have a:=JU this.1.1 this.1.2;rw[this.2.1];exact a.2
 omega
theorem zg6(f:Nat->En)(kind k:Int):∀m:Nat,ZH f kind k m=(Xu m).countP fun n=>isE (f n) kind k
 |0=>rfl
 |m+1=>by
  unfold ZH;rw[zg6 f kind k m,List.range_succ,Oh]
  cases h:isE (f m) kind k<;>simp[h]
theorem znc(s){kind k:Int}(a:kind≠0):ZH (zl s) kind k 64=(qG s).countP fun n=>isE (zl s n) kind k:=by
 rw[zg6];unfold qG;rw[List.countP_filter]
 apply List.countP_congr
 intro n _;constructor
 ·intro h;rw[Xy];refine⟨h,?_⟩;unfold isE at h;rw[Xy]at h
  grind[zl,enS]
 grind
def qn(m:Ma)(i:Nat)(l:List Nat)(s:Sp)(key:Int×Int):Int:=
 ((if key.1=1 then(zY m.ca key.2:Nat)else 0:Nat):Int)+((((m.sp.take i).map fun s=>(qG s).countP fun n=>isE (zl s n) key.1 key.2).sum:Nat):Int)+((l.countP fun n=>isE (zl s n) key.1 key.2:Nat):Int)
theorem zmv(m)(i:Nat)(l:List Nat)(s)(n:Nat)(a:Int×Int):qn m i (l++[n]) s a=qn m i l s a+(if a=((zl s n).kind,(zl s n).n)then 1 else 0):=by
 unfold qn;rw[Oh]
 by_cases h:a=((zl s n).kind,(zl s n).n)
 ·grind[isE,zl]
 grind[isE,zl]
theorem zmw(m:Ma)(i:Nat)(s s')(b:m.sp[i]?=Xa s)(a:Int×Int):qn m i (qG s) s a=qn m (i+1) [] s' a:=by
 grind[qn,Yv]
theorem zjm(m:Ma)(s){kind:Int}(k:Int)(a:kind≠0):qn m m.sp.length [] s (kind,k)=((zc8 m kind k+(if kind=1 then zY m.ca k else 0):Nat):Int):=by grind[qn,zc8,qV,List.take_length,zl,ZH,qG,isE,List.map_map,Ug,znc]
def Jo(l:List Ca)(key:Int×Int):Int:=if key.1=1 then(zY l key.2:Int)else 0
theorem zkx(l)(c:Ca)(a:Int×Int):Jo (l++[c]) a=Jo l a+(if a=(1,c.fr)then 1 else 0):=by
 unfold Jo zY;obtain⟨b,d⟩:=a;simp only[Oh,pJ]
 by_cases a:b=1
 ·grind
 grind
theorem zmy(m:Ma)(s)(a:Int×Int):Jo m.ca a=qn m 0 [] s a:=by
 unfold Jo qn;simp
 split<;>rfl
theorem zmx(a:Int×Int):Jo [] a=0:=by
 unfold Jo zY;simp
def Zz:List Ca->Int×Int->Option Int
 |[],_=>Xb
 |c::l,key=>match Zz l key with|some z=>Xa z|none=>if key=(c.file,c.idx)then Xa c.fr else Xb
theorem zgF(c:Ca)(a:Int×Int):∀(l:List Ca),Zz (l++[c]) a=if a=(c.file,c.idx)then Xa c.fr else Zz l a
 |[]=>by simp[Zz]
 |d::l=>by
  simp only[Ys,Zz];rw[zgF c a l]
  by_cases h:a=(c.file,c.idx)
  ·rw[kE h,kE h]
  rw[kF h,kF h]
theorem za5{a:Int×Int}{z:Int}:∀{l:List Ca},Zz l a=Xa z->∃c∈l,a=(c.file,c.idx)/\c.fr=z
 |[],h=>by cases h
 |d::l,h=>by
  unfold Zz at h
  cases e:Zz l a with
  |some y=>
   rw[e]at h;cases h;obtain⟨c,a,b⟩:=za5 e;exact⟨c,Yx _ a,b⟩
  |none=>
   rw[e]at h;simp only at h
   split at h
   ·rename_i a
    cases h;exact⟨d,Ul,a,rfl⟩
   cases h
theorem za4{a:Int×Int}:∀{l:List Ca},Zz l a=Xb↔∀c∈l,a≠(c.file,c.idx)
 |[]=>by simp[Zz]
 |d::l=>by
  unfold Zz;constructor
  ·intro h c b
   cases e:Zz l a with
   |some y=>rw[e]at h;cases h
   |none=>
    rw[e]at h;simp only at h
    rcases mC.1 b with rfl|b
    ·intro a;rw[kE a]at h;cases h
    exact za4.1 e c b
  intro h;rw[za4.2 fun c b=>h c (Yx _ b)]
  simp only;rw[kF (h d Ul)]
theorem ziE{l:List Ca}(h:l.Pairwise fun a b=>qp a<qp b){c d:Ca}(e:c∈l)(f:d∈l)(g:qp c=qp d):c=d:=by
 induction l with
 |nil=>cases e
 |cons a l f=>
  rw[Ye]at h
  rcases mC.1 e with rfl|e
  ·grind
  grind
theorem zkz{m:Ma}(a:zbU m Xb m.ca=0)(k:Nat):(Zz m.ca ((z3 m k).f,(z3 m k).x)=Xa (k:Int))↔zY m.ca k≠0:=by
 obtain⟨b,_,h⟩:=zy.1 a;have b:∀c∈m.ca,(z3 m c.fr).f=c.file/\(z3 m c.fr).x=c.idx:=by grind[caE]
 have a:zY m.ca k≠0↔∃c∈m.ca,c.fr=(k:Int):=by grind[zY,Nat.ne_zero_iff_zero_lt,Uf]
 rw[a];constructor
 ·grind[za5]
 rintro⟨c,f,g⟩;obtain⟨d,e⟩:=b c f;rw[g]at d e
 cases b:Zz m.ca ((z3 m k).f,(z3 m k).x)with
 |none=>
  have:=za4.1 b c f;rw[d,e]at this;exact absurd rfl this
 |some z=>
  obtain⟨i,j,a,l⟩:=za5 b;rw[d,e]at a;simp only[pJ]at a;have:c=i:=ziE h f j (by unfold qp;rw[a.1,a.2])
  rw[<-l,<-this,g]
end
section
open Go.RowKit
theorem QD(m n:Int)(w):
  Xp prog 120 #[I6 m,I6 n] w fun e w'=>e=Xl (Xh (bel m n))/\w'=w:=by
 have H:Xo (bel m n=(decide (0<=m)&&decide (m<n))):=rfl
 by_cases a:0<=m
 ·by_cases a:m<n
  ·go_enter func120,ntmps120
   go_wp2;go_ret;exact⟨by rw[H.out];simp[*],rfl⟩
  go_enter func120,ntmps120
  go_wp2;go_ret;exact⟨by rw[H.out];simp[*],rfl⟩
 go_enter func120,ntmps120
 go_wp2;go_ret;exact⟨by rw[H.out];simp;omega,rfl⟩
theorem zr5:(Tryz.prog.info? 47).map (fun i=>(i.zero,i.size,i.bytes))=Xa (Xa (I6 0),1,8):=by kernel_rfl
def zll:Elt Int where
 enc:=fun z=>[Xe Xf z]
 k:=1
 ty:=47
 st:=96
 bytes:=8
 zv:=Xe Xf 0
 zero:=0
 len:=fun _=>rfl
 one:=fun a u hu=>by
  simp only[mC,nM,or_false]at hu;rw[hu];rfl
 bT:=underlying96
 aF:=zr5
 zok:=rfl
 few:=by decide
 pos:=by decide
theorem zj.errs{w:Xn}{v:Xq}{l:List Int}(h:zj zll w v l):∃a c,v=O a l.length c/\zns w a l:=by
 obtain⟨a,c,b,d⟩:=h.rows;refine⟨a,c,b,fun j x g=>?_⟩
 obtain⟨b,e,f⟩:=d j x g;refine⟨b,e,fun W b=>?_⟩
 have:=f W b 0 _ rfl
 grind[jh,zll]
theorem zeS{α:Type}(E:Elt α)(w:Xn)(l:List α)(cs:Array Xq)(a:cs=(l.flatMap E.enc).toArray)(b:l.length*E.bytes<=140737488355328):zj E (w.alloc (Xk cs E.ty)) (O (Xa ⟨w.heap.size,0,Xb⟩) l.length l.length) l:=by
 subst a;refine⟨⟨_,l.length,rfl,fun h=>(by cases h),fun y a=>?_⟩,b⟩
 grind[q8.aD]
theorem zdh{l:List Int}{k:Nat}(a:∀(j:Nat)x,j<k->l[j]?=Xa x->x=0){q:Int}(c:l[k]?=Xa q)(b:q≠0):zC l=q:=by
 have:=zdj (f:=fun x=>x) c a b
 simpa using this
theorem zdi{l:List Int}(a:∀(j:Nat)x,l[j]?=Xa x->x=0):zC l=0:=by
 have:=zer (f:=fun x=>x) a
 simpa using this
theorem zcW(v l w)(s:zj zll w v l):
  Xp prog 19 #[v] w fun e w'=>e=Xl (I6 (zC l))/\w'=w:=by
 have g:=s.short;obtain⟨G,H,rfl,b⟩:=s.errs;have z:=dD b;clear b s;obtain⟨n,m⟩:=kA l.length;rw[m.out]at g⊢;obtain⟨F,k⟩:=kA (zC l);rw[k.out]
 go_enter func19,ntmps19
 go_wp2
 go_loopg[5,8] n (fun B _ E wr=>∃a:Nat,a<=n/\n-a<=B/\E=I6 a/\wr=w/\Xo (∀(j:Nat)x,j<a->l[j]?=Xa x->x=0))
 exact⟨0,nZ _,Wm,rfl,rfl,fun j x t=>absurd t (nL _)⟩
 obtain⟨a,D,C,rfl,rfl,A⟩:=hrel
 by_cases c:a<n
 ·have h:=kC c
  obtain⟨q,p⟩:∃q,Xo (l[a]?=Xa q):=⟨_,gE (Rx m.out c)⟩
  obtain⟨x,rfl,u⟩:=z.out a q p.out;have K:=u wr (zc.refl _);clear u
  by_cases d:q=0
  ·have r:(q !=0)=Xd:=by simp[d]
   have y:Xo (∀(j:Nat)x,j<a+1->l[j]?=Xa x->x=0):=dD<|fun j x t f=>by
    by_cases e:j=a
    ·subst e;rw[p.out]at f;cases f;exact d
    exact A j x Wm f
   clear d;go_wp2
   go_roundg (n-(a+1));exact⟨a+1,Wm,Wm,Gn,rfl,y⟩;omega
  have r:(q !=0)=Xc:=by simp[d]
  have i:Xo (F=q):=dD<|by rw[<-k.out];exact zdh A p d
  clear d;go_wp2;go_ret;exact⟨Rr i.out,rfl⟩
 have h:=kD c
 have:a=n:=Wm
 subst this;have i:Xo (F=0):=dD<|by
  rw[<-k.out];exact zdi fun j x f=>A.out j x (by rw[<-m.out];exact(gS.1 f).1) f
 go_wp2;go_ret;exact⟨Rr i.out,rfl⟩
theorem QU(a:Ar)(n:Int)(w)(c:0<=a.base/\a.base<=100)(d:0<=a.fr/\a.fr<=100)(b:0<=n/\n<=100):
  Xp prog 169 #[Xi #[I6 a.fr,I6 a.tz,Xh a.rd,Xh a.wr,Xh a.sh,I6 a.file,I6 a.base],I6 n] w fun e w'=>e=Xl (I6 (a.base+n-a.fr))/\zc w w':=by
 obtain⟨fr,b,b,wr,b,b,base⟩:=a;simp only at c d
 go_enter func169,ntmps169
 go_wp2;go_ret;exact⟨rfl,za _ _⟩
theorem zic(c d:Ca)(w):
  Xp prog 65 #[Xi #[I6 c.file,I6 c.idx,I6 c.fr],Xi #[I6 d.file,I6 d.idx,I6 d.fr]] w fun e w'=>e=Xl (Xh (QF c d))/\zc w w':=by
 obtain⟨b,f,i⟩:=c;obtain⟨g,h,j⟩:=d
 by_cases l:b<g
 ·have a:QF ⟨b,f,i⟩ ⟨g,h,j⟩=Xc:=by simp[QF,l]
  rw[a];clear a
  go_enter func65,ntmps65
  go_wp2;go_ret;exact⟨rfl,(za _ _).trans (za _ _)⟩
 by_cases k:b=g
 ·subst k
  by_cases m:f<h
  ·have a:QF ⟨b,f,i⟩ ⟨b,h,j⟩=Xc:=by simp[QF,m]
   rw[a];clear a
   go_enter func65,ntmps65
   go_wp2;go_ret;exact⟨rfl,(za _ _).trans (za _ _)⟩
  have a:QF ⟨b,f,i⟩ ⟨b,h,j⟩=Xd:=by simp[QF,m]
  rw[a];clear a
  go_enter func65,ntmps65
  go_wp2;go_ret;exact⟨rfl,(za _ _).trans (za _ _)⟩
 have a:QF ⟨b,f,i⟩ ⟨g,h,j⟩=Xd:=by simp[QF,l,k]
 rw[a];clear a;have a:(b==g)=Xd:=by simp[k]
 clear k
 go_enter func65,ntmps65
 go_wp2;go_ret;exact⟨rfl,(za _ _).trans (za _ _)⟩
theorem zgv(f)(a:Ar)(w):
  Xp prog 126 #[Xi (frv f).toArray,Xi #[I6 a.fr,I6 a.tz,Xh a.rd,Xh a.wr,Xh a.sh,I6 a.file,I6 a.base]] w fun e w'=>e=Xl (Xh (Zs f a))/\zc w w':=by
 obtain⟨⟨g,i,j,k,l,m,n,p⟩,r,v,q,d,x⟩:=f;obtain⟨fr,u,s,wr,t,c,base⟩:=a;unfold frv Zs;simp only;cases wr
 ·simp only[Uc]
  go_enter func126,ntmps126
  go_wp2;go_ret;exact⟨rfl,(za _ _).trans (za _ _)⟩
 simp only[Uh]
 by_cases h:d<0
 ·rw[kE h];obtain⟨D,b⟩:=kA (decide (r<=1));rw[b.out]
  go_enter func126,ntmps126
  go_wp2;go_ret;exact⟨by rw[<-b.out];rfl,(za _ _).trans (za _ _)⟩
 rw[kF h]
 go_enter func126,ntmps126
 go_wp2;go_ret;exact⟨rfl,(za _ _).trans (za _ _)⟩
theorem Zd(m n:Int)(w):
  Xp prog 109 #[I6 m,I6 n] w fun e w'=>e=Xl (Xh (inB m n))/\w'=w:=by
 have H:Xo (inB m n=(decide (0<=m)&&decide (m<n))):=rfl
 by_cases a:0<=m
 ·by_cases a:m<n
  ·go_enter func109,ntmps109
   go_wp2;go_ret;exact⟨by rw[H.out];simp[*],rfl⟩
  go_enter func109,ntmps109
  go_wp2;go_ret;exact⟨by rw[H.out];simp[*],rfl⟩
 go_enter func109,ntmps109
 go_wp2;go_ret;exact⟨by rw[H.out];simp;omega,rfl⟩
theorem QV(w):
  Xp prog 26 #[] w fun e w'=>e=Xl (Xi (frv frF).toArray)/\zc w w':=by
 go_enter func26,ntmps26
 go_wp2;refine bodyPost_ret (v:=Xi (frv frF).toArray) (by simp[results,Tryz.results26,go_sem,frv,frF,pg0]) rfl ⟨rfl,?_⟩
 exact(bR _ _).alloc (nR _) _
theorem wf5(a c g h i j k l r:Int)(u d:Bool)(f x:Int)(w)(b:inB r 1001=Xc)(m:inB x 12=Xc)(p:(f !=-1)=Xc)(_hfe:(f==-1)=Xd)(n:inB f 5=Xc)(q:(r==0)=Xd):
  Xp prog 108 #[Xi #[U8 a,U8 c,U8 g,U8 h,U8 i,U8 j,U8 k,U8 l,I6 r,Xh u,Xh d,I6 f,I6 x]] w fun e w'=>e=Xl (I6 0)/\zc w w':=by
 go_enter func108,ntmps108
 go_wp2_with(go_at_call 109;refine(Zd _ _ _).mono ?_;rintro e w'⟨rfl,rfl⟩)
 obtain⟨m,b⟩:=kB (w.alloc (Xk #[U8 a,U8 c,U8 g,U8 h,U8 i,U8 j,U8 k,U8 l,I6 r,Xh u,Xh d,I6 f,I6 x] 93));have c:=gA b
 have a:=xA b
 rw[b];clear b;have b:=a.gw 0 rfl
 have b:=a.gw 1 rfl
 have b:=a.gw 2 rfl
 have b:=a.gw 3 rfl
 have b:=a.gw 4 rfl
 have b:=a.gw 5 rfl
 have b:=a.gw 6 rfl
 have b:=a.gw 7 rfl
 have b:=a.gw 8 rfl
 have b:=a.gw 9 rfl
 have b:=a.gw 10 rfl
 have b:=a.gw 11 rfl
 have b:=a.gw 12 rfl
 have a:Nonempty (zf m):=⟨⟨_,zc.refl _⟩⟩;refine qq [(5,⟨fun v=>v=Xi (frv frF).toArray,fun _ _=>True⟩)] zU Kr ?_ ?_ ?_
 ·intro x a
  simp at a
  subst a;exact⟨_,rfl⟩
 ·intro x a
  simp at a
  subst a;exact fun _ _ _ _ h=>h
 iterate 4 refine ze ?_
 iterate 3 (refine jo ?_ ?_;kernel_rfl;simp only[Act.put,sB,sS,sZ])
 iterate 6 refine ze ?_
 iterate 3 (refine jo ?_ ?_;kernel_rfl;simp only[Act.put,sB,sS,sZ])
 iterate 2 refine ze ?_
 refine zH fun a b a=>?_
 have a:=dD (c.trans b);go_wp2;go_ret;exact⟨rfl,a⟩
theorem wf7(g h i j k l m n r:Int)(u d:Bool)(f x:Int)(w)(b:inB r 1001=Xc)(p:inB x 12=Xc)(q:(f !=-1)=Xd)(_hfe:(f==-1)=Xc)(s:(r==0)=Xc)(a:zbb (⟨⟨g,h,i,j,k,l,m,n⟩,r,u,d,f,x⟩:Fr) frF=Xc)(c:(x !=0)=Xd):
  Xp prog 108 #[Xi #[U8 g,U8 h,U8 i,U8 j,U8 k,U8 l,U8 m,U8 n,I6 r,Xh u,Xh d,I6 f,I6 x]] w fun e w'=>e=Xl (I6 0)/\zc w w':=by
 have p:Xo _:=a;clear a
 go_enter func108,ntmps108
 go_wp2_with(go_at_call 109;refine(Zd _ _ _).mono ?_;rintro e w'⟨rfl,rfl⟩)
 obtain⟨s,b⟩:=kB (w.alloc (Xk #[U8 g,U8 h,U8 i,U8 j,U8 k,U8 l,U8 m,U8 n,I6 r,Xh u,Xh d,I6 f,I6 x] 93));have q:=gA b
 have a:=xA b
 rw[b];clear b;have b:=a.gw 0 rfl
 have b:=a.gw 1 rfl
 have b:=a.gw 2 rfl
 have b:=a.gw 3 rfl
 have b:=a.gw 4 rfl
 have b:=a.gw 5 rfl
 have b:=a.gw 6 rfl
 have b:=a.gw 7 rfl
 have b:=a.gw 8 rfl
 have b:=a.gw 9 rfl
 have b:=a.gw 10 rfl
 have b:=a.gw 11 rfl
 have b:=a.gw 12 rfl
 have a:Nonempty (zf s):=⟨⟨_,zc.refl _⟩⟩;refine qq [(5,⟨fun v=>v=Xi (frv frF).toArray,fun _ _=>True⟩)] zU Kr ?_ ?_ ?_
 ·intro x c
  simp at c
  subst c;exact⟨_,rfl⟩
 ·intro x c
  simp at c
  subst c;exact fun _ _ _ _ a=>a
 iterate 5 refine ze ?_
 refine zz rfl rfl (fun w' a c=>?_) (fun a b=>?_)
 ·refine zI.call [] rfl func26 rfl rfl rfl ?_;refine(QV w').mono ?_;rintro e a⟨rfl,a⟩;exact⟨_,rfl,a,rfl,trivial⟩
 subst b;have a:=fun W=>zrx g h i j k l m n r u d f x 0 0 0 0 0 0 0 0 0 Xd Xd (-1) 0 W
 simp only[show(⟨⟨0,0,0,0,0,0,0,0⟩,0,Xd,Xd,-1,0⟩:Fr)=frF from rfl,p.out]at a
 simp only[Act.put,sB,sS,sZ,frv,frF,pg0];iterate 12 refine ze ?_
 refine zH fun a b c=>?_
 have a:=dD (q.trans b);go_wp2;go_ret;exact⟨rfl,a⟩
theorem wf9(a g h i j k l m r:Int)(u d:Bool)(f x:Int)(w)(b:inB r 1001=Xc)(n:inB x 12=Xc)(p:(f !=-1)=Xd)(_hfe:(f==-1)=Xc)(q:(r==0)=Xd)(c:(x !=0)=Xd):
  Xp prog 108 #[Xi #[U8 a,U8 g,U8 h,U8 i,U8 j,U8 k,U8 l,U8 m,I6 r,Xh u,Xh d,I6 f,I6 x]] w fun e w'=>e=Xl (I6 0)/\zc w w':=by
 go_enter func108,ntmps108
 go_wp2_with(go_at_call 109;refine(Zd _ _ _).mono ?_;rintro e w'⟨rfl,rfl⟩)
 obtain⟨n,b⟩:=kB (w.alloc (Xk #[U8 a,U8 g,U8 h,U8 i,U8 j,U8 k,U8 l,U8 m,I6 r,Xh u,Xh d,I6 f,I6 x] 93));have g:=gA b
 have a:=xA b
 rw[b];clear b;have b:=a.gw 0 rfl
 have b:=a.gw 1 rfl
 have b:=a.gw 2 rfl
 have b:=a.gw 3 rfl
 have b:=a.gw 4 rfl
 have b:=a.gw 5 rfl
 have b:=a.gw 6 rfl
 have b:=a.gw 7 rfl
 have b:=a.gw 8 rfl
 have b:=a.gw 9 rfl
 have b:=a.gw 10 rfl
 have b:=a.gw 11 rfl
 have b:=a.gw 12 rfl
 have a:Nonempty (zf n):=⟨⟨_,zc.refl _⟩⟩;refine qq [(5,⟨fun v=>v=Xi (frv frF).toArray,fun _ _=>True⟩)] zU Kr ?_ ?_ ?_
 ·intro x c
  simp at c
  subst c;exact⟨_,rfl⟩
 ·intro x c
  simp at c
  subst c;exact fun _ _ _ _ h=>h
 iterate 4 refine ze ?_
 iterate 3 (refine jo ?_ ?_;kernel_rfl;simp only[Act.put,sB,sS,sZ])
 iterate 11 refine ze ?_
 refine zH fun a b a=>?_
 have a:=dD (g.trans b);go_wp2;go_ret;exact⟨rfl,a⟩
theorem zf4(z:Int)(w):
  Xp prog 111 #[I6 z] w fun e w'=>e=Xl (Xh (zdC z))/\zc w w':=by
 by_cases b:z<0
 ·have a:Xo (zdC z=Xc):=dD<|by simp[zdC,b]
  go_enter func111,ntmps111
  go_wp2;go_ret;exact⟨Rr a.out,zc.refl _⟩
 by_cases b:1000<z
 ·have a:Xo (zdC z=Xc):=dD<|by simp[zdC,b]
  go_enter func111,ntmps111
  go_wp2;go_ret;exact⟨Rr a.out,zc.refl _⟩
 have a:Xo (zdC z=Xd):=dD<|by simp[zdC];omega
 go_enter func111,ntmps111
 go_wp2;go_ret;exact⟨Rr a.out,zc.refl _⟩
theorem zoG{p:Int->Bool}{fs:List Int}{k:Nat}{q:Int}(h:fs[k]?=Xa q)(b:p q=Xc)(a:∀(j:Nat)x,j<k->fs[j]?=Xa x->p x=Xd):fs.findIdx p=k:=by grind[gS.1,List.findIdx_eq,gE]
theorem zoF{p:Int->Bool}{fs:List Int}(a:∀(j:Nat)x,fs[j]?=Xa x->p x=Xd):fs.findIdx p=fs.length:=by
 grind[List.findIdx_eq_length.2,Xt]
theorem zq8{p:Int->Bool}{fs:List Int}{k:Nat}{q:Int}(h:fs[k]?=Xa q)(a:p q=Xc):fs.any p=Xc:=Yb.2 ⟨q,mG h,a⟩
theorem zq7{p:Int->Bool}{fs:List Int}(a:∀(j:Nat)x,fs[j]?=Xa x->p x=Xd):fs.any p=Xd:=Yq.2 fun x a=>by grind[Xt]
theorem zgE(v)(fs:List Int)(w)(c:zj slE w v fs):
  Xp prog 163 #[v,.func (.func 111) #[] #[]] w fun e w'=>(∃z:Int,e=Xl (I6 z)/\decide (0<=z)=fs.any zdC)/\zc w w':=by
 have b:=c.short;obtain⟨a,a,rfl,a⟩:=c.sls;have f:=dD a;have d:=enters_of func111 Kr rfl
 clear a c;obtain⟨n,m⟩:=kA fs.length;rw[m.out]at b⊢
 go_enter func163,ntmps163
 go_wp2
 go_loopg[5,8] n (fun a _ c wr=>∃b:Nat,b<=n/\n-b<=a/\c=I6 b/\Xo (zc w wr)/\Xo (∀j q,j<b->fs[j]?=Xa q->zdC q=Xd))
 exact⟨0,nZ _,Wm,rfl,zc.refl w,fun j q h=>absurd h (nL _)⟩
 obtain⟨b,a,a,rfl,k,A⟩:=hrel
 by_cases d:b<n
 ·have i:=kC d
  obtain⟨q,p⟩:∃q,Xo (fs[b]?=Xa q):=⟨_,gE (Rx m.out d)⟩
  obtain⟨a,rfl,c⟩:=f.out b q p.out;have a:=c wr k.out;have a:=zf4 q wr
  clear c
  cases g:zdC q with
  |true=>
   rw[g]at a;have l:Xo (decide (0<=(b:Int))=fs.any zdC):=dD<|by rw[zq8 p.out g];simp
   clear g
   go_wp2_with(go_at_call 111;refine a.mono ?_;rintro e w'⟨rfl,c⟩)
   go_ret;exact⟨⟨_,rfl,l⟩,k.trans c⟩
  |false=>
   rw[g]at a;have r:Xo (∀(j:Nat)q,j<b+1->fs[j]?=Xa q->zdC q=Xd):=dD<|fun j s h f=>by
    by_cases e:j=b
    ·subst e;rw[p.out]at f;cases f;exact g
    exact A j s Wm f
   clear g
   go_wp2_with(go_at_call 111;refine a.mono ?_;rintro e w'⟨rfl,c⟩)
   go_roundg (n-(b+1));exact⟨b+1,Wm,Wm,Gn,k.trans c,r⟩;omega
 have i:=kD d
 have:b=n:=Wm
 subst this;have l:Xo (decide (0<=(-1:Int))=fs.any zdC):=dD<|by
  rw[zq7 (fun j q h=>A.out j q (by rw[<-m.out];exact(gS.1 h).1) h)]
  rfl
 go_wp2;go_ret;exact⟨⟨_,rfl,l⟩,k⟩
theorem zld(v)(fs:List Int)(w)(b:zj slE w v fs):
  Xp prog 110 #[v,.func (.func 111) #[] #[]] w fun e w'=>e=Xl (Xh (fs.any zdC))/\zc w w':=by
 have a:=zgE v fs w b;obtain⟨c,c,rfl,_⟩:=b.sls;clear b
 generalize fs.any zdC=b at a⊢
 go_enter func110,ntmps110
 go_wp2_with fail;refine a.mono ?_;rintro e b⟨⟨z,rfl,c⟩,b⟩;have d:=dD b;have f:=dD c;clear b c a;go_wp2;go_ret;exact⟨Rr f.out,d⟩
theorem zbo(a)(c:Nat)(s:List Int)(w)(g:zj slE w (O a s.length c) s):
  Xp prog 59 #[O a s.length c] w fun e w'=>e=Xl (I6 (slW s))/\zc w w':=by
 have d:=zld _ s w g;have f:Xo (slW s=if 60<s.length then 4 else if s.any zdC then 3 else 0):=rfl;have b:=g.short;obtain⟨n,h⟩:=kA s.length;rw[h.out]at d f b⊢;clear g
 generalize s.any zdC=i at d f
 by_cases b:60<n
 ·have h:=kC b
  have g:Xo (slW s=4):=dD<|by rw[f.out,kE b]
  clear d
  go_enter func59,ntmps59
  go_wp2;go_ret;exact⟨Rr g.out,zc.refl _⟩
 have h:=kD b
 rw[kF b]at f
 cases i with
 |true=>
  have g:=dD f.out
  go_enter func59,ntmps59
  go_wp2_with fail;refine d.mono ?_;rintro e i⟨rfl,b⟩;have h:=dD b;clear b d;go_wp2;go_ret;exact⟨Rr g.out,h⟩
 |false=>
  have g:=dD f.out
  go_enter func59,ntmps59
  go_wp2_with fail;refine d.mono ?_;rintro e i⟨rfl,b⟩;have h:=dD b;clear b d;go_wp2;go_ret;exact⟨Rr g.out,h⟩
def qC(n:Nat)(g:List Int):List Xq:=(Xu n).map fun(i:Nat)=>Xh (g.contains (i:Int))
theorem zaZ{n:Nat}(g:List Int){i:Nat}(hi:i<n):(qC n g)[i]?=Xa (Xh (g.contains (i:Int))):=by
 unfold qC;rw[Xz,Xw hi];rfl
theorem zgw{n:Nat}(g){i:Nat}(hi:i<n):(qC n g).set i (Xh Xc)=qC n ((i:Int)::g):=by
 apply Yf
 grind[sF,qC,zaZ,sN,Yl,gN]
theorem zc2:qC 80 []=Xr 80 (Xh Xd):=by
 unfold qC
 simp[List.map_const']
theorem zou(b a:Int)(g)(c pg:Nat)(w:Xn)(d:Box w c [I6 a])(h:Box w pg (qC 80 g))(f:a<=80):
  Xp prog 165 #[I6 b,Xj (Xa ⟨c,0,Xb⟩),Xj (Xa ⟨pg,0,Xb⟩)] w fun e w'=>e=Xl (I6 (Jr a g b))/\(Jr a g b=0->Box w' pg (qC 80 (J3 g b)))/\w.grownBy w' (Xa pg)/\w'.heap.size=w.heap.size:=by
 have c:=d.c 0 rfl;have c:=dD h
 rcases zaA a g b with⟨c,d,f⟩|⟨c,d,f⟩|⟨i,c,d,f,s⟩|⟨i,c,d,f,s,u⟩
 ·rw[d];have j:Xo (Box w pg (qC 80 (J3 g b))):=dD<|Rx f h
  subst c
  generalize J3 g (-1)=r at j⊢
  go_enter func165,ntmps165
  go_wp2;go_ret;exact⟨rfl,fun _=>j.out,World.grownBy.rfl' _ _,rfl⟩
 ·rw[f];have k:=JV d w;have l:(b==-1)=Xd:=Si c
  generalize J3 g b=r
  go_enter func165,ntmps165
  go_wp2_with(go_at_call 27;refine k.mono ?_;rintro e w'⟨rfl,rfl⟩)
  go_ret;exact⟨rfl,fun t=>Wm,World.grownBy.rfl' _ _,rfl⟩
 ·rw[s];subst c;have p:i<80:=Wm
  have k:=j1 (m:=(i:Int)) (n:=a) Wm d w
  have l:((i:Int)==-1)=Xd:=Sm
  have q:=h.c i (zaZ g p);rw[f]at q
  generalize J3 g (i:Int)=r
  go_enter func165,ntmps165
  go_wp2_with(go_at_call 27;refine k.mono ?_;rintro e w'⟨rfl,rfl⟩)
  go_ret;exact⟨rfl,fun t=>Wm,World.grownBy.rfl' _ _,rfl⟩
 rw[s];subst c;have p:i<80:=Wm
 have k:=j1 (m:=(i:Int)) (n:=a) Wm d w
 have l:((i:Int)==-1)=Xd:=Sm
 have q:=h.c i (zaZ g p);have a:=h.f;rw[f]at q;have j:Xo (Box (w.setCell ⟨pg,i,Xb⟩ (Xh Xc)) pg (qC 80 (J3 g (i:Int)))):=dD<|by
  rw[u,<-zgw g p];exact h.set i _
 generalize J3 g (i:Int)=r at j
 go_enter func165,ntmps165
 go_wp2_with(go_at_call 27;refine k.mono ?_;rintro e w'⟨rfl,rfl⟩)
 go_ret;exact⟨rfl,fun _=>j.out,⟨rfl,rfl,rfl,by simp[World.setCell],fun k a a=>Below.heap_setCell _ _ _ _ (fun e=>a (by rw[e]))⟩,by simp[World.setCell]⟩
def zfN:Array Xq:=(Xr 80 (Xh Xd)).toArray
theorem zhs:(Tryz.prog.info? 114).map (fun i=>i.zero)=Xa (Xa (Xi zfN)):=by kernel_rfl
theorem zbw(w):(zeroValue 114).run prog w=.ok (Xi zfN) w:=by
 have h:=zhs
 cases a:Tryz.prog.info? 114 with
 |none=>simp[a]at h
 |some i=>
  simp[a]at h
  simp[zeroValue,typeInfo,a,h]
theorem zmC(a:Int)(w:Xn):
  Xp prog 115 #[I6 a] w fun e w'=>e=Xl (.func (.func 165) #[] #[Xj (Xa ⟨w.heap.size,0,Xb⟩),Xj (Xa ⟨w.heap.size+1,0,Xb⟩)])/\Box w' w.heap.size [I6 a]/\Box w' (w.heap.size+1) (qC 80 [])/\zc w w'/\w'.heap.size=w.heap.size+2:=by
 have a:∀(b:Fn)(first a:Array Xq)(w:Xn),(Instr.makeFunc b first a).run prog w=.ok (.func b first a) w:=fun _ _ _ _=>rfl
 have a:=zbw;rw[zc2]
 go_enter func115,ntmps115
 go_wp2;go_ret;exact⟨rfl,(Box.aD w _ _ rfl).alloc _,Box.aD _ (Xr 80 (Xh Xd)) _ Sm,(za _ _).trans (za _ _),Sm⟩
theorem zjC(g l)(b:Int):blG g (l++[b])=J3 (blG g l) b:=by
 unfold blG;rw[Up];rfl
theorem zeH(f:Fl)(R)(S:Nat)(a:Int)(g)(E pg:Nat)(w)(ab:Box w E [I6 a])(C:Box w pg (qC 80 g))(N:E≠pg)(aq:a<=80)(a2:ziP blE pg (pg+1) w (O R f.bl.length S) f.bl):
  Xp prog 116 #[Xi #[I6 f.size,O R f.bl.length S],.func (.func 165) #[] #[Xj (Xa ⟨E,0,Xb⟩),Xj (Xa ⟨pg,0,Xb⟩)]] w fun e w'=>e=Xl (I6 (flW a g f))/\(flW a g f=0->Box w' pg (qC 80 (blG g f.bl)))/\Out pg (pg+1) w w':=by
 obtain⟨h,b⟩:=f;have k:Xo (flW a g ⟨h,b⟩=if 0<=h/\h<=96 then(if(b.length:Int)=zbQ h then blW a g b else 2)else 3):=rfl;have ak:=dD ab;have al:=dD C;have V:=dD a2;have G:=dD N;have i:=(a2.now).short;clear ab C a2 N;simp only at i
 show Xp _ _ #[Xi #[I6 h,O R b.length S],_] _ _
 generalize flW a g ⟨h,b⟩=aa at k⊢
 simp only
 by_cases v:0<=h/\h<=96
 ·rw[kE v]at k;obtain⟨r,x⟩:=v;have K:=fun W=>j1 (m:=h) (n:=97) r Wm W
  have p:=fun W=>zbi h W r x
  by_cases B:(b.length:Int)=zbQ h
  ·rw[kE B]at k;rw[<-B]at p;clear r x B;obtain⟨j,q⟩:=kA b.length;rw[q.out]at i p V⊢;obtain⟨am,y⟩:=kB (w.alloc (Xk #[I6 h,O R j S] 159));have H:=dD y;have F:=gA y
   clear y;have b1:=enters_of func165 Kr rfl
   have P:((j:Int)!=(j:Int))=Xd:=Sm
   go_enter func116,ntmps116
   go_wp2_with(go_at_call 27;refine(K _).mono ?_;rintro e w'⟨rfl,rfl⟩)
   go_quiet(first|(go_at_call 149;exact Calls.quiet_of_same (p _)))
   rw[H.out];obtain⟨Y,l⟩:=kB (am.drewN nq);have a9:Xo (Box Y w.heap.size [I6 h,O R j S]):=dD<|by rw[<-l,<-H.out];exact(Box.aD w _ _ rfl).aA (show Below _ _ _ from bD (bR _ _) _)
   have a8:Xo (Out pg (pg+1) w Y):=dD<|by rw[<-l];exact(Out.aA F).trans (Out.aA (show Below _ _ _ from bD (bR _ _) _))
   have ae:Xo (Box Y E [I6 a]):=dD<|ak.out.out a8 (Hm G.out)
   have ag:Xo (Box Y pg (qC 80 g)):=dD<|by rw[<-l];exact(al.aA F).aA (show Below _ _ _ from bD (bR _ _) _)
   rw[l];clear l p K;obtain⟨au,av⟩:=a9.k2;go_wp2
   go_loopg[6,7,22] j (fun an _ _ a4 wr=>∃d:Nat,d<=j/\j-d<=an/\a4=I6 d/\Xo (Out pg (pg+1) w wr)/\Xo (Box wr pg (qC 80 (blG g (b.take d))))/\Xo (blW a (blG g (b.take d)) (b.drop d)=blW a g b)/\Xo (Box wr E [I6 a]))
   exact⟨0,nZ _,Wm,rfl,a8,ag,rfl,ae⟩
   obtain⟨d,ap,ao,rfl,X,a7,a0,a6⟩:=hrel;clear au av
   by_cases z:d<j
   ·have M:=kC z
    obtain⟨A,U⟩:∃A,Xo (b[d]?=Xa A):=⟨_,gE (Rx q.out z)⟩
    obtain⟨aw,ay,L,s⟩:=(V wr X).bA;rw[q.out]at L;cases L;obtain⟨ax,rfl,ac⟩:=s d A U.out;have b0:=ac wr (zc.refl _);have c:=zou A a (blG g (b.take d)) E pg wr a6 a7 aq;have t:Xo (blW a (blG g (b.take d)) (b.drop d)=if Jr a (blG g (b.take d)) A=0 then blW a (blG g (b.take (d+1))) (b.drop (d+1))else Jr a (blG g (b.take d)) A):=dD<|by
     rw[jI U.out,Zp U.out,zjC];rfl
    rw[<-zjC,<-Zp U.out]at c;clear ac s
    generalize Jr a (blG g (b.take d)) A=a5 at c t
    by_cases Q:a5=0
    ·have aj:Xo (blW a (blG g (b.take (d+1))) (b.drop (d+1))=blW a g b):=dD<|by rw[<-a0.out,t.out,kE Q]
     subst Q;go_wp2_with fail;refine c.mono ?_;rintro e Z⟨rfl,I,D,a3⟩;have ah:Xo (Box Z pg (qC 80 (blG g (b.take (d+1))))):=I (by first|exact rfl|exact trivial)
     have a1:Xo (Out pg (pg+1) w Z):=X.trans (Out.grown D (fun g C=>by cases C;omega))
     have af:=dD<|a6.grown D G.out;clear I D a3 c;go_wp2
     go_roundg (j-(d+1));exact⟨d+1,Wm,Wm,Gn,a1,ah,aj,af⟩;omega
    have ar:(a5 !=0)=Xc:=Si Q
    have T:Xo (aa=a5):=dD<|by
     have v:=a0.out;rw[t.out,kF Q]at v;rw[k.out,<-v]
    go_wp2_with fail;refine c.mono ?_;rintro e Z⟨rfl,I,D,a3⟩;have a1:Xo (Out pg (pg+1) w Z):=X.trans (Out.grown D (fun g C=>by cases C;omega))
    clear I D a3 c;go_wp2;go_ret;exact⟨Rr T.out,fun u=>absurd (T.symm.trans u) Q,a1⟩
   have M:=kD z
   have:d=j:=Wm
   subst this;have T:Xo (aa=0):=dD<|by
    rw[k.out,<-a0.out,Yn (by rw[q.out];exact nR _)]
    rfl
   have ai:Xo (Box wr pg (qC 80 (blG g b))):=dD<|by
    have:=a7.out;rw[Ot (by rw[q.out];exact nR _)]at this
    exact this
   go_wp2;go_ret;exact⟨Rr T.out,fun _=>ai.out,X⟩
  rw[kF B]at k;have P:((b.length:Int)!=zbQ h)=Xc:=Si B
  clear B r x
  generalize zbQ h=az at*
  obtain⟨j,q⟩:=kA b.length;rw[q.out]at i P V⊢
  go_enter func116,ntmps116
  go_wp2_with(go_at_call 27;refine(K _).mono ?_;rintro e w'⟨rfl,rfl⟩)
  go_quiet(first|(go_at_call 149;exact Calls.quiet_of_same (p _)))
  go_wp2;go_ret;exact⟨Rr k.out,fun u=>(by rw[k.out]at u;cases u),(Out.aA (za _ _)).trans (Out.aA (show Below _ _ _ from bD (bR _ _) _))⟩
 rw[kF v]at k;have K:=fun W=>JV (m:=h) (n:=97) Wm W
 clear v;obtain⟨j,q⟩:=kA b.length;rw[q.out]at i V⊢
 go_enter func116,ntmps116
 go_wp2_with(go_at_call 27;refine(K _).mono ?_;rintro e w'⟨rfl,rfl⟩)
 go_ret;exact⟨Rr k.out,fun u=>(by rw[k.out]at u;cases u),Out.aA (za _ _)⟩
def zkH(g:List Int)(fs:List Fl):List Int:=fs.foldl (fun g f=>blG g f.bl) g
theorem zgP(g fs)(f:Fl):zkH g (fs++[f])=blG (zkH g fs) f.bl:=by
 unfold zkH;rw[Up];rfl
theorem zd4{l:List Fl}{k:Nat}{q:Fl}(h:l[k]?=Xa q):l.take (k+1)=l.take k++[q]:=by
 rw[Yv,h];rfl
theorem zaf(v fs)(a:Int)(w)(a7:qe w v fs):
  Xp prog 61 #[Xi #[v,I6 a]] w fun e w'=>e=Xl (I6 (stW fs a))/\zc w w':=by
 obtain⟨am,an,rfl,D,j⟩:=a7.rows;have aj:=dD j;have h:Xo (stW fs a=if fs.length<=5/\0<=a/\a<=80 then zgO a [] fs else 4):=rfl;clear j a7
 generalize stW fs a=a3 at h⊢
 obtain⟨f,T⟩:=kA fs.length;rw[T.out]at D h⊢;obtain⟨U,d⟩:=kB (w.alloc (Xk #[O am f an,I6 a] 41));have l:=gA d
 have al:=xA d
 have z:=sA d
 have s:Xo (_=U):=d;clear d
 by_cases a5:f<=5
 ·have C:¬(5:Int)<(f:Int):=Wm
  have ap:decide ((5:Int)<(f:Int))=Xd:=decide_eq_false C
  by_cases x:0<=a/\a<=80
  ·rw[kE ⟨a5,x⟩]at h;have M:=fun W=>j1 (m:=a) (n:=81) x.1 Wm W
   have E:a<=80:=x.2;clear x
   go_enter func61,ntmps61
   go_wp2_with(go_at_call 27;refine(M _).mono ?_;rintro e w'⟨rfl,rfl⟩)
   rw[s.out];refine(zmC a U).mono ?_;rintro e ak⟨rfl,k,g,X,a8⟩;obtain⟨i,G⟩:=kB U.heap.size;rw[G]at k g a8 z⊢;have p:Xo (i=w.heap.size+1):=z;have ab:Xo (Box ak i [I6 a]):=k;have af:=dD g;have R:=dD (l.trans X);have a2:=dD (al.aA X);clear G k g X a8 M;obtain⟨aw,ax⟩:=a2.k2;go_wp2
   go_loopg[5,6,23] f (fun ao _ _ Y wr=>∃c:Nat,c<=f/\f-c<=ao/\Y=I6 c/\Xo (zc w wr)/\Xo (Box wr i [I6 a])/\Xo (Box wr (i+1) (qC 80 (zkH [] (fs.take c))))/\Xo (zgO a (zkH [] (fs.take c)) (fs.drop c)=zgO a [] fs))
   exact⟨0,nZ _,Wm,rfl,R,ab,af,rfl⟩
   obtain⟨c,ar,aq,rfl,K,a0,ah,P⟩:=hrel;clear aw ax
   by_cases u:c<f
   ·have F:=kC u
    obtain⟨q,L⟩:∃q,Xo (fs[c]?=Xa q):=⟨_,gE (Rx T.out u)⟩
    obtain⟨ay,rfl,a9,aa,H,a6⟩:=aj.out c q L.out;obtain⟨az,b0⟩:=a6 wr K.out;obtain⟨a1,t⟩:=kB (wr.alloc (Xk #[I6 q.size,O a9 q.bl.length aa] 159));have y:=gA t
    have b:=zeH q a9 aa a (zkH [] (fs.take c)) i (i+1) a1 (a0.aA y) (ah.aA y) Wm E (H.stays (i+2) (Hm p.out) (K.trans y))
    have ac:=dD (a0.aA y);have I:=dD (K.trans y);have A:Xo (_=a1):=t;have r:Xo (zgO a (zkH [] (fs.take c)) (fs.drop c)=if flW a (zkH [] (fs.take c)) q=0 then zgO a (zkH [] (fs.take (c+1))) (fs.drop (c+1))else flW a (zkH [] (fs.take c)) q):=show _=_ by
     rw[jI L.out,zd4 L.out,zgP];rfl
    rw[<-zgP,<-zd4 L.out]at b;clear a6 t H
    generalize flW a (zkH [] (fs.take c)) q=Z at b r
    have au:=q.bl.length
    by_cases N:Z=0
    ·have ai:Xo (zgO a (zkH [] (fs.take (c+1))) (fs.drop (c+1))=zgO a [] fs):=dD<|by rw[<-P.out,r.out,kE N]
     subst N;go_wp2_with fail;rw[A.out];refine b.mono ?_;rintro e B⟨rfl,k,g⟩;have ag:Xo (Box B (i+1) (qC 80 (zkH [] (fs.take (c+1))))):=k (by first|exact rfl|exact trivial)
     have Q:Xo (zc w B):=dD<|Out.bI I (Hm p.out) g
     have ae:Xo (Box B i [I6 a]):=ac.out.out g Wm
     clear k g b;go_wp2
     go_roundg (f-(c+1));exact⟨c+1,Wm,Wm,Gn,Q,ae,ag,ai⟩;omega
    have av:(Z !=0)=Xc:=Si N
    have S:Xo (a3=Z):=dD<|by
     have a4:=P.out;rw[r.out,kF N]at a4;rw[h.out,<-a4]
    go_wp2_with fail;rw[A.out];refine b.mono ?_;rintro e B⟨rfl,k,g⟩;have Q:Xo (zc w B):=dD<|Out.bI I (Hm p.out) g
    clear k g b;go_wp2;go_ret;exact⟨Rr S.out,Q⟩
   have F:=kD u
   have:c=f:=Wm
   subst this;have S:Xo (a3=0):=dD<|by
    rw[h.out,<-P.out,Yn (by rw[T.out];exact nR _)]
    rfl
   go_wp2;go_ret;exact⟨Rr S.out,K⟩
  rw[kF (fun V=>x V.2)]at h
  have M:=fun W=>JV (m:=a) (n:=81) Wm W
  clear x
  go_enter func61,ntmps61
  go_wp2_with(go_at_call 27;refine(M _).mono ?_;rintro e w'⟨rfl,rfl⟩)
  rw[s.out];go_ret;exact⟨Rr h.out,l⟩
 rw[kF (fun V=>a5 V.1)]at h
 have C:(5:Int)<(f:Int):=Wm
 go_enter func61,ntmps61
 go_wp2;rw[s.out];go_ret;exact⟨Rr h.out,l⟩
theorem zh1(f)(a:Ar)(n:Nat)(w)(b:0<=a.base/\a.base<=100)(c:0<=a.fr/\a.fr<=100)(d:n<=64):
  Xp prog 125 #[Xi (frv f).toArray,Xi #[I6 a.fr,I6 a.tz,Xh a.rd,Xh a.wr,Xh a.sh,I6 a.file,I6 a.base],I6 (n:Int)] w fun e w'=>e=Xl (Xh (Z9 f a n))/\zc w w':=by
 have A:Xo (∀W,Xp prog 169 #[Xi #[I6 a.fr,I6 a.tz,Xh a.rd,Xh a.wr,Xh a.sh,I6 a.file,I6 a.base],I6 (n:Int)] W fun e w'=>e=Xl (I6 (a.base+n-a.fr))/\zc W w'):=dD<|fun W=>QU a n W b c Wm
 clear b c d;obtain⟨⟨c,g,h,i,j,m,p,q⟩,s,u,r,k,z⟩:=f;obtain⟨fr,F,D,wr,E,b,base⟩:=a;unfold frv Z9;simp only
 by_cases x:k<0
 ·rw[kE x]
  go_enter func125,ntmps125
  go_wp2;go_ret;exact⟨rfl,(za _ _).trans (za _ _)⟩
 rw[kF x];obtain⟨l,d⟩:=kB ((w.alloc (Xk #[U8 c,U8 g,U8 h,U8 i,U8 j,U8 m,U8 p,U8 q,I6 s,Xh u,Xh r,I6 k,I6 z] 93)).alloc (Xk #[I6 fr,I6 F,Xh D,Xh wr,Xh E,I6 b,I6 base] 125));have i:=gD2 d
 have v:=x2a d
 have c:=x2b d
 have j:=dD d;clear d
 by_cases y:k=b
 ·have h:(k==b)=Xc:=by simp[y]
  rw[h,Uh];clear y;obtain⟨d,C⟩:=kA (z==base+(n:Int)-fr);rw[C.out]
  go_enter func125,ntmps125
  go_upto_region 3 with fail;rw[j.out];have d:=v.gw 11 rfl
  have g:=v.gw 12 rfl
  have m:=c.gw 0 rfl
  have p:=c.gw 1 rfl
  have q:=c.gw 2 rfl
  have r:=c.gw 3 rfl
  have s:=c.gw 4 rfl
  have t:=c.gw 5 rfl
  have u:=c.gw 6 rfl
  have B:Nonempty (zf l):=⟨⟨_,zc.refl _⟩⟩;refine qq [(10,⟨fun l=>l=I6 (base+(n:Int)-fr),fun l w'=>True⟩)] zU Kr (Sa ⟨_,rfl⟩) ?hp ?_
  case hp=>
   intro z l;simp only[mC,nM,or_false]at l;subst l;exact fun _ _ _ _ x=>x
  iterate 10 refine ze ?_
  refine zz rfl rfl (fun w' l x=>?_) (fun l z=>?_)
  ·refine zI.call [Xi #[I6 fr,I6 F,Xh D,Xh wr,Xh E,I6 b,I6 base],I6 (n:Int)] rfl func169 rfl rfl rfl ?_;refine(A w').mono ?_;rintro e l⟨rfl,l⟩;exact⟨_,rfl,l,rfl,trivial⟩
  subst z;refine Uq ?_;iterate 3 refine ze ?_
  refine zH fun l l x=>?_
  have z:=dD (i.trans l);clear l x d g m p q r s t u B;go_wp2;go_ret;exact⟨by rw[<-C.out];rfl,z⟩
 have h:(k==b)=Xd:=by simp[y]
 rw[h,Uc];clear y
 go_enter func125,ntmps125
 go_upto_region 3 with fail;rw[j.out];have d:=v.c 11 rfl;have g:=v.c 12 rfl;have m:=c.c 0 rfl;have p:=c.c 1 rfl;have q:=c.c 2 rfl;have r:=c.c 3 rfl;have s:=c.c 4 rfl;have t:=c.c 5 rfl;have u:=c.c 6 rfl;go_quiet(fail);go_wp2;go_ret;exact⟨rfl,i.trans (show Below _ _ _ from bD (bR _ _) _)⟩
def znH(fl:List Fl)(file idx:Int):Bool:=bel file fl.length&&bel idx ((fl.getD file.toNat ⟨0,[]⟩).bl.length:Nat)
theorem zay(v fl)(d a c:Int)(w)(g:qe w v fl):
  Xp prog 119 #[Xi #[v,I6 d],I6 a,I6 c] w fun e w'=>e=Xl (Xh (znH fl a c))/\zc w w':=by
 obtain⟨b,j,rfl,f,b⟩:=g.rows;have i:=dD b;clear b g;obtain⟨n,g⟩:=kA fl.length;unfold znH;rw[g.out]at f⊢;have b:=QD a n
 cases h:bel a n with
 |false=>
  rw[h]at b;rw[Uc]
  go_enter func119,ntmps119
  go_wp2_with(go_at_call 120;refine(b _).mono ?_;rintro e w'⟨rfl,rfl⟩)
  go_ret;exact⟨rfl,za _ _⟩
 |true=>
  rw[h]at b;rw[Uh];obtain⟨f,f⟩:=Zf.1 h;obtain⟨k,rfl⟩:∃k:Nat,a=(k:Int):=⟨a.toNat,Wm⟩
  obtain⟨f,a⟩:∃f,Xo (fl[k]?=Xa f):=⟨_,gE (by rw[g.out];omega)⟩
  have g:(fl.getD ((k:Nat):Int).toNat ⟨0,[]⟩)=f:=by rw[tN,gD,a.out];rfl
  rw[g];clear g;obtain⟨h,rfl,g,g,_,g⟩:=i.out k f a.out;obtain⟨a,i⟩:=g (w.alloc (Xk #[O (Xa h) n j,I6 d] 41)) (za _ _);obtain⟨q,a⟩:=kA f.bl.length;rw[a.out]at i⊢;have a:=QD c q;clear g
  go_enter func119,ntmps119
  go_wp2_with(go_at_call 120;first|(refine(b _).mono ?_;clear b;rintro e w'⟨rfl,rfl⟩)|(refine(a _).mono ?_;rintro e w'⟨rfl,rfl⟩))
  go_ret;exact⟨rfl,za _ _⟩
theorem zoY(m:Ma)(c:Ca):caE m Xb c=if znH m.fl c.file c.idx=Xd\/bel c.fr m.fs.length=Xd then 3 else if(z3 m c.fr).r=0\/(z3 m c.fr).f≠c.file\/(z3 m c.fr).x≠c.idx then 7 else 0:=by grind[caE,znH,bel,Int.lt_or_le,znk,bkN,Bool.and_eq_false_iff]
theorem zcB(V m)(c:Ca)(w)(G:zq w V m):
  Xp prog 64 #[Xi (mL V m).toArray,Xi #[I6 c.file,I6 c.idx,I6 c.fr]] w fun e w'=>e=Xl (I6 (caE m Xb c))/\zc w w':=by
 obtain⟨Y,-⟩:=G.ns;rw[zoY,<-Y];have L:=dD<|fun W(aw:zc w W)=>zay _ m.fl m.cnt c.file c.idx W (G.aA aw).fl
 have f:=dD<|fun W=>QD c.fr V.f.n W
 have aa:=dD Y.symm;have ac:=dD G.bC;clear G Y;obtain⟨a2,d⟩:=kB ((w.alloc (Xk (mL V m).toArray 45)).alloc (Xk #[I6 c.file,I6 c.idx,I6 c.fr] 105));have g:=gD2 d
 have E:=x2a d
 have v:=x2b d
 have M:Xo (a2.heap.size=w.heap.size+1+1):=dD<|by rw[<-d];simp
 have n:=dD d;clear d;have b:=L.out a2 g.out;have I:=E.c 7 rfl;have a0:=E.c 8 rfl;obtain⟨C,D⟩:=v.k2
 cases a8:znH m.fl c.file c.idx with
 |false=>
  rw[a8]at b;rw[kE (.inl rfl)]
  go_enter func64,ntmps64
  go_upto_region 1 with fail;rw[n.out]
  go_wp2_with(go_at_call 119;refine b.mono ?_;clear I a0 C D;rintro e s⟨rfl,a⟩)
  go_ret;exact⟨rfl,g.trans a⟩
 |true=>
  rw[a8]at b
  cases F:bel c.fr V.f.n with
  |false=>
   rw[F]at f;rw[kE (.inr rfl)]
   go_enter func64,ntmps64
   go_upto_region 1 with fail;rw[n.out];go_wp2_with fail;refine b.mono ?_;clear I a0 C D;rintro e s⟨rfl,a⟩;have i:=dD (g.trans a);have H:=(E.aA a).c 0 rfl;have a9:=(v.aA a).c 2 rfl;clear a
   go_wp2_with(go_at_call 120;refine(f _).mono ?_;rintro e w'⟨rfl,rfl⟩)
   go_ret;exact⟨rfl,i⟩
  |true=>
   rw[F]at f;rw[kF Sm]
   obtain⟨au,av⟩:=Zf.1 F;clear F;obtain⟨x,y,a6⟩:=c;simp only at au av f b g v C D⊢;obtain⟨r,rfl⟩:∃r:Nat,a6=(r:Int):=⟨a6.toNat,Wm⟩
   have X:r<V.f.n:=Wm
   obtain⟨q,a1⟩:∃q,Xo (m.fs[r]?=Xa q):=⟨_,gE (Rx aa.out X)⟩
   have z:z3 m (r:Int)=q:=by unfold z3;rw[tN,gD,a1.out];rfl
   rw[z];clear z;obtain⟨ax,A,a7⟩:=ac.out r q a1.out;have ab:=dD a7;have N:=dD A;clear a7 A;obtain⟨Z,u⟩:=kA (if q.r=0\/q.f≠x\/q.x≠y then(7:Int)else 0);rw[u.out]
   go_enter func64,ntmps64
   go_upto_region 1 with fail;rw[n.out];go_wp2_with fail;refine b.mono ?_;clear I a0 C D;rintro e s⟨rfl,a⟩;have i:=dD (g.trans a);have af:=dD (E.aA a);have a4:=dD (v.aA a);have ae:Xo (w.heap.size+1+1<=s.heap.size):=show _<=_ by rw[<-M.out];exact bS a
   clear a;have H:=af.c 0 rfl;have a9:=a4.c 2 rfl
   go_upto_region 3 with(go_at_call 120;refine(f _).mono ?_;rintro e w'⟨rfl,B⟩;rw[B];clear B w')
   (try simp only[Sli.x]at H);rw[N.out]at H;obtain⟨ag,ah,ai,aj,ak,al,am,an,ao,ap,P,Q,R⟩:=ab.out s i.out;go_upto_region 4 with fail;obtain⟨a3,h⟩:=kB (s.alloc (Xk #[U8 q.p.b0,U8 q.p.b1,U8 q.p.b2,U8 q.p.b3,U8 q.p.b4,U8 q.p.b5,U8 q.p.b6,U8 q.p.b7,I6 q.r,Xh q.u,Xh q.d,I6 q.f,I6 q.x] 93));have j:=gT h i
   have K:Box a3 s.heap.size [U8 q.p.b0,U8 q.p.b1,U8 q.p.b2,U8 q.p.b3,U8 q.p.b4,U8 q.p.b5,U8 q.p.b6,U8 q.p.b7,I6 q.r,Xh q.u,Xh q.d,I6 q.f,I6 q.x]:=by rw[<-h];exact Box.aD _ _ _ rfl
   have a5:Box a3 (w.heap.size+1) [I6 x,I6 y,I6 (r:Int)]:=by rw[<-h];exact a4.alloc _
   rw[h];clear h H a9 ag ah ai aj ak al am an ao ap P Q R;have ay:=K.c 8 rfl;have aq:=K.c 11 rfl;have ar:=K.c 12 rfl;obtain⟨C,D⟩:=a5.k2
   by_cases k:q.r=0
   ·have S:(q.r==0)=Xc:=by simp[k]
    have l:Xo (Z=7):=dD<|by rw[<-u.out,kE (.inl k)]
    clear k;go_wp2;go_ret;exact⟨Rr l.out,j⟩
   have S:(q.r==0)=Xd:=by simp[k]
   by_cases p:q.f=x
   ·have T:(q.f !=x)=Xd:=by simp[p]
    by_cases t:q.x=y
    ·have U:(q.x !=y)=Xd:=by simp[t]
     have l:Xo (Z=0):=dD<|by rw[<-u.out,kF (by simp[k,p,t])]
     clear k p t;go_wp2;go_ret;exact⟨Rr l.out,j⟩
    have U:(q.x !=y)=Xc:=by simp[t]
    have l:Xo (Z=7):=dD<|by rw[<-u.out,kE (.inr (.inr t))]
    clear k p t;go_wp2;go_ret;exact⟨Rr l.out,j⟩
   have T:(q.f !=x)=Xc:=by simp[p]
   have l:Xo (Z=7):=dD<|by rw[<-u.out,kE (.inr (.inl p))]
   clear k p;go_wp2;go_ret;exact⟨Rr l.out,j⟩
theorem zeF(V:MaV)(m:Ma)(w)(b:zq w V m)(c:∀W,zc w W->Xp prog 58 #[Xi #[V.f.x,I6 m.aB]] W fun e w'=>e=Xl (I6 (j4 m.fs m.aB))/\zc W w'):
  Xp prog 28 #[Xi (mL V m).toArray] w fun e w'=>e=Xl (I6 (zC (QK m)))/\zc w w':=by
 obtain⟨p,d,g,q,n,r,s,-⟩:=b.ns;have f:=dD c
 have i:Xo (∀W,zc w W->Xp prog 59 #[V.s.x] W fun e w'=>e=Xl (I6 (slW m.sl))/\zc W w'):=dD<|fun W a=>by
  have h:=(b.aA a).sl;(try simp only[Sli.x]at h⊢);rw[d]at h⊢;exact zbo _ _ m.sl W h
 have j:Xo (∀W,zc w W->Xp prog 60 #[Xi #[V.sb.x,V.sq.x]] W fun e w'=>e=Xl (I6 (zD m.sb.length m.sq))/\zc W w'):=dD<|fun W a=>by
  have h:=(b.aA a).sq;rw[<-g];exact zaF _ _ _ _ m.sq W h
 have k:Xo (∀W,zc w W->Xp prog 60 #[Xi #[V.db.x,V.dq.x]] W fun e w'=>e=Xl (I6 (zD m.db.length m.dq))/\zc W w'):=dD<|fun W a=>by
  have h:=(b.aA a).dq;rw[<-n];exact zaF _ _ _ _ m.dq W h
 have l:=dD<|fun W(a:zc w W)=>zaf _ m.fl m.cnt W (b.aA a).fl
 clear p d g q n r s b c;obtain⟨g,c⟩:=kB (w.alloc (Xk (mL V m).toArray 45));have b:=gA c
 have a:=xA c
 have d:=dD c;clear c;unfold QK
 go_enter func28,ntmps28
 go_upto_region 1 with fail;rw[d.out];have p:=a.gw 0 rfl
 have q:=a.gw 1 rfl
 have r:=a.gw 2 rfl
 have s:=a.gw 3 rfl
 have t:=a.gw 4 rfl
 have u:=a.gw 5 rfl
 have y:=a.gw 6 rfl
 have z:=a.gw 7 rfl
 have A:=a.gw 8 rfl
 have n:Nonempty (zf g):=⟨⟨_,zc.refl _⟩⟩;refine qq [(2,⟨fun a=>a=I6 (j4 m.fs m.aB),fun a w'=>True⟩),(5,⟨fun a=>a=I6 (slW m.sl),fun a w'=>True⟩),(8,⟨fun a=>a=I6 (zD m.sb.length m.sq),fun a w'=>True⟩),(11,⟨fun a=>a=I6 (zD m.db.length m.dq),fun a w'=>True⟩),(14,⟨fun a=>a=I6 (stW m.fl m.cnt),fun a w'=>True⟩),(15,⟨fun a=>∃g,a=O (Xa ⟨g,0,Xb⟩) 5 5,fun a w'=>zj zll w' a [j4 m.fs m.aB,slW m.sl,zD m.sb.length m.sq,zD m.db.length m.dq,stW m.fl m.cnt]⟩),(16,⟨fun a=>a=I6 (zC [j4 m.fs m.aB,slW m.sl,zD m.sb.length m.sq,zD m.db.length m.dq,stW m.fl m.cnt]),fun a w'=>True⟩)] zU Kr ?hS ?hp ?_
 case hS=>
  intro x a;simp only[mC,nM,or_false]at a
  rcases a with rfl|rfl|rfl|rfl|rfl|rfl|rfl
  ·exact⟨_,rfl⟩
  ·exact⟨_,rfl⟩
  ·exact⟨_,rfl⟩
  ·exact⟨_,rfl⟩
  ·exact⟨_,rfl⟩
  ·exact⟨_,0,rfl⟩
  exact⟨_,rfl⟩
 case hp=>
  intro x a;simp only[mC,nM,or_false]at a
  rcases a with rfl|rfl|rfl|rfl|rfl|rfl|rfl
  ·exact fun _ _ _ _ h=>h
  ·exact fun _ _ _ _ h=>h
  ·exact fun _ _ _ _ h=>h
  ·exact fun _ _ _ _ h=>h
  ·exact fun _ _ _ _ h=>h
  ·exact fun _ _ _ c h=>zj.aA h c
  exact fun _ _ _ _ h=>h
 iterate 2 refine ze ?_
 refine zz rfl rfl (fun w' c g=>?_) (fun h d=>?_)
 ·refine zI.call [Xi #[V.f.x,I6 m.aB]] rfl func58 rfl rfl rfl ?_;refine(f w' (b.trans c)).mono ?_;rintro e f⟨rfl,a⟩;exact⟨_,rfl,a,rfl,trivial⟩
 subst d;refine Uq ?_;iterate 2 refine ze ?_
 refine zz rfl rfl (fun w' c g=>?_) (fun h d=>?_)
 ·refine zI.call [V.s.x] rfl func59 rfl rfl rfl ?_;refine(i w' (b.trans c)).mono ?_;rintro e f⟨rfl,a⟩;exact⟨_,rfl,a,rfl,trivial⟩
 subst d;refine Uq ?_;iterate 2 refine ze ?_
 refine zz rfl rfl (fun w' c g=>?_) (fun h d=>?_)
 ·refine zI.call [Xi #[V.sb.x,V.sq.x]] rfl func60 rfl rfl rfl ?_;refine(j w' (b.trans c)).mono ?_;rintro e f⟨rfl,a⟩;exact⟨_,rfl,a,rfl,trivial⟩
 subst d;refine Uq ?_;iterate 2 refine ze ?_
 refine zz rfl rfl (fun w' c g=>?_) (fun h d=>?_)
 ·refine zI.call [Xi #[V.db.x,V.dq.x]] rfl func60 rfl rfl rfl ?_;refine(k w' (b.trans c)).mono ?_;rintro e f⟨rfl,a⟩;exact⟨_,rfl,a,rfl,trivial⟩
 subst d;refine Uq ?_;iterate 2 refine ze ?_
 refine zz rfl rfl (fun w' c g=>?_) (fun h d=>?_)
 ·refine zI.call [Xi #[V.fl.x,I6 m.cnt]] rfl func61 rfl rfl rfl ?_;refine(l w' (b.trans c)).mono ?_;rintro e f⟨rfl,a⟩;exact⟨_,rfl,a,rfl,trivial⟩
 subst d;refine Uq ?_;refine zz rfl rfl (fun w' c g=>?_) (fun h d=>?_)
 ·have a:zj zll (w'.alloc (Xk #[I6 (j4 m.fs m.aB),I6 (slW m.sl),I6 (zD m.sb.length m.sq),I6 (zD m.db.length m.dq),I6 (stW m.fl m.cnt)] 47)) (O (Xa ⟨w'.heap.size,0,Xb⟩) 5 5) [j4 m.fs m.aB,slW m.sl,zD m.sb.length m.sq,zD m.db.length m.dq,stW m.fl m.cnt]:=zeS zll w' [j4 m.fs m.aB,slW m.sl,zD m.sb.length m.sq,zD m.db.length m.dq,stW m.fl m.cnt] _ rfl (show 5*8<=140737488355328 by decide)
  refine zI.step (v:=O (Xa ⟨w'.heap.size,0,Xb⟩) 5 5) (w':=w'.alloc (Xk #[I6 (j4 m.fs m.aB),I6 (slW m.sl),I6 (zD m.sb.length m.sq),I6 (zD m.db.length m.dq),I6 (stW m.fl m.cnt)] 47)) (by simp only[execOp];go_simp) ⟨za _ _,⟨_,rfl⟩,a⟩
 obtain⟨a,rfl⟩:=d;refine Uq ?_;refine zz rfl rfl (fun w' c g=>?_) (fun h d=>?_)
 ·have c:zj zll w' (O (Xa ⟨a,0,Xb⟩) 5 5) [j4 m.fs m.aB,slW m.sl,zD m.sb.length m.sq,zD m.db.length m.dq,stW m.fl m.cnt]:=g 15 Kr
  refine zI.call [O (Xa ⟨a,0,Xb⟩) 5 5] rfl func19 rfl rfl rfl ?_;refine(zcW _ _ w' c).mono ?_;rintro e f⟨rfl,rfl⟩;exact⟨_,rfl,zc.refl _,rfl,trivial⟩
 subst d;refine Uq ?_;refine ze ?_
 refine zH fun a a g=>?_
 have c:=dD (b.trans a);clear a g p q r s t u y z A n;go_wp2;go_ret;exact⟨rfl,c⟩
theorem zaH(a:Ar)(w):Xp prog 129 #[Xi #[I6 a.fr,I6 a.tz,Xh a.rd,Xh a.wr,Xh a.sh,I6 a.file,I6 a.base]] w fun e w'=>e=Xl (I6 (arW a))/\zc w w':=by
 obtain⟨fr,d,f,wr,g,b,base⟩:=a
 by_cases c:fr<0
 ·have c:arW ⟨fr,d,f,wr,g,b,base⟩=3:=by unfold arW;simp only;rw[kE Wm]
  rw[c]
  go_enter func129,ntmps129
  go_wp2;go_ret;exact⟨rfl,za _ _⟩
 by_cases h:d<=fr
 ·have c:arW ⟨fr,d,f,wr,g,b,base⟩=3:=by unfold arW;simp only;rw[kE Wm]
  rw[c]
  go_enter func129,ntmps129
  go_wp2;go_ret;exact⟨rfl,za _ _⟩
 by_cases h:64<d
 ·have c:arW ⟨fr,d,f,wr,g,b,base⟩=3:=by unfold arW;simp only;rw[kE Wm]
  rw[c]
  go_enter func129,ntmps129
  go_wp2;go_ret;exact⟨rfl,za _ _⟩
 by_cases h:b< -1
 ·have c:arW ⟨fr,d,f,wr,g,b,base⟩=3:=by unfold arW;simp only;rw[kE Wm]
  rw[c]
  go_enter func129,ntmps129
  go_wp2;go_ret;exact⟨rfl,za _ _⟩
 by_cases h:5<=b
 ·have c:arW ⟨fr,d,f,wr,g,b,base⟩=3:=by unfold arW;simp only;rw[kE Wm]
  rw[c]
  go_enter func129,ntmps129
  go_wp2;go_ret;exact⟨rfl,za _ _⟩
 by_cases h:base<0
 ·have c:arW ⟨fr,d,f,wr,g,b,base⟩=3:=by unfold arW;simp only;rw[kE Wm]
  rw[c]
  go_enter func129,ntmps129
  go_wp2;go_ret;exact⟨rfl,za _ _⟩
 have l:¬(fr<0\/d<=fr\/64<d\/b< -1\/5<=b\/base<0):=Wm
 by_cases i:b<0
 ·by_cases h:base=0
  ·cases g
   ·have c:arW ⟨fr,d,f,wr,Xd,b,base⟩=0:=by unfold arW;simp only;rw[kF l,kE i,kF (by simp[h])]
    rw[c];have j:(base !=0)=Xd:=by simp[h]
    have k:¬0<base:=Wm
    go_enter func129,ntmps129
    go_wp2;go_ret;exact⟨rfl,za _ _⟩
   have c:arW ⟨fr,d,f,wr,Xc,b,base⟩=7:=by unfold arW;simp only;rw[kF l,kE i,kE Sm]
   rw[c];have j:(base !=0)=Xd:=by simp[h]
   have k:¬0<base:=Wm
   go_enter func129,ntmps129
   go_wp2;go_ret;exact⟨rfl,za _ _⟩
  have c:arW ⟨fr,d,f,wr,g,b,base⟩=7:=by unfold arW;simp only;rw[kF l,kE i,kE (by simp[h])]
  rw[c];have j:(base !=0)=Xc:=by simp[h]
  have k:0<base:=Wm
  go_enter func129,ntmps129
  go_wp2;go_ret;exact⟨rfl,za _ _⟩
 by_cases h:12-(d-fr)<base
 ·have c:arW ⟨fr,d,f,wr,g,b,base⟩=7:=by unfold arW;simp only;rw[kF l,kF i,kE h]
  rw[c]
  go_enter func129,ntmps129
  go_wp2;go_ret;exact⟨rfl,za _ _⟩
 have c:arW ⟨fr,d,f,wr,g,b,base⟩=0:=by unfold arW;simp only;rw[kF l,kF i,kF h]
 rw[c]
 go_enter func129,ntmps129
 go_wp2;go_ret;exact⟨rfl,za _ _⟩
def jE(a:Ar)(n:Int):Ar:={a with fr:=n,base:=if 0<=a.file then a.base+(n-a.fr)else a.base}
theorem zeD(a:Ar)(n:Int)(w)(b:jK a)(q:0<=n/\n<=64):Xp prog 172 #[Xi #[I6 a.fr,I6 a.tz,Xh a.rd,Xh a.wr,Xh a.sh,I6 a.file,I6 a.base],I6 n] w fun e w'=>e=Xl (arA (jE a n))/\zc w w':=by
 have c:=dD b;unfold jK at b;obtain⟨i,j,k,l,m,p,c,d⟩:=b;obtain⟨fr,h,f,wr,g,b,base⟩:=a;simp only at i j k l m p c d⊢;have i:base<=12:=by
  by_cases i:0<=b
  ·have:=d i;omega
  have:=c Wm;omega
 clear c d;obtain⟨c,c⟩:=q;obtain⟨B,c⟩:=kB ((w.alloc (Xk #[I6 fr,I6 h,Xh f,Xh wr,Xh g,I6 b,I6 base] 125)).alloc (Xk #[I6 0,I6 0,Xh Xd,Xh Xd,Xh Xd,I6 0,I6 0] 125));have k:=gD2 c
 have d:=x2a c
 have C:=x2b c
 have l:=dD c;clear c
 by_cases D:0<=b
 ·have s:Xo (jE ⟨fr,h,f,wr,g,b,base⟩ n=⟨n,h,f,wr,g,b,base+(n-fr)⟩):=dD<|by unfold jE;simp only;rw[kE D]
  go_enter func172,ntmps172
  go_upto_region 1 with fail;rw[l.out];have y:=d.c 0 rfl;have z:=d.c 5 rfl;have m:=d.c 6 rfl;have A:=d.f;go_upto_region 4 with fail;obtain⟨j,c⟩:=kB ((B.setCell ⟨w.heap.size,6,Xb⟩ (I6 (base+(n-fr)))).setCell ⟨w.heap.size,0,Xb⟩ (I6 n));have u:Xo (Box j w.heap.size [I6 n,I6 h,Xh f,Xh wr,Xh g,I6 b,I6 (base+(n-fr))]):=dD<|by rw[<-c];exact(d.set 6 _).set 0 _
  have v:Xo (Box j (w.heap.size+1) [I6 0,I6 0,Xh Xd,Xh Xd,Xh Xd,I6 0,I6 0]):=dD<|by rw[<-c];exact(C.other Sm _).other Sm _
  have i:Xo (zc w j):=dD<|by rw[<-c];exact zG (zG k Sm _) Sm _
  rw[c];clear c y z m A
  go_wp2_with(first|refine zm rfl 125 (.tmp 2) rfl w.heap.size rfl u underlying125 rfl zr0 ?_|refine zx rfl 125 (.tmp 4) (.tmp 18) rfl (w.heap.size+1) rfl _ rfl v rfl zr0 (arE.one ⟨n,h,f,wr,g,b,base+(n-fr)⟩) ?_)
  intro t m p x;have r:Xo (zc w t):=zd i p Sm
  have q:=dD m;clear m p x;go_wp2;refine bodyPost_ret (zB rfl _ rfl q underlying125 rfl zr0) rfl ⟨Rr s.out,r⟩
 have s:Xo (jE ⟨fr,h,f,wr,g,b,base⟩ n=⟨n,h,f,wr,g,b,base⟩):=dD<|by unfold jE;simp only;rw[kF D]
 go_enter func172,ntmps172
 go_upto_region 1 with fail;rw[l.out];have y:=d.c 0 rfl;have z:=d.c 5 rfl;have A:=d.f;go_upto_region 4 with fail;obtain⟨j,c⟩:=kB (B.setCell ⟨w.heap.size,0,Xb⟩ (I6 n));have u:Xo (Box j w.heap.size [I6 n,I6 h,Xh f,Xh wr,Xh g,I6 b,I6 base]):=dD<|by rw[<-c];exact d.set 0 _
 have v:Xo (Box j (w.heap.size+1) [I6 0,I6 0,Xh Xd,Xh Xd,Xh Xd,I6 0,I6 0]):=dD<|by rw[<-c];exact C.other Sm _
 have i:Xo (zc w j):=dD<|by rw[<-c];exact zG k Sm _
 rw[c];clear c y z A
 go_wp2_with(first|refine zm rfl 125 (.tmp 2) rfl w.heap.size rfl u underlying125 rfl zr0 ?_|refine zx rfl 125 (.tmp 4) (.tmp 18) rfl (w.heap.size+1) rfl _ rfl v rfl zr0 (arE.one ⟨n,h,f,wr,g,b,base⟩) ?_)
 intro t m p x;have r:Xo (zc w t):=zd i p Sm
 have q:=dD m;clear m p x;go_wp2;refine bodyPost_ret (zB rfl _ rfl q underlying125 rfl zr0) rfl ⟨Rr s.out,r⟩
def zo5(a b:Ar):Bool:=(a.fr==b.fr)&&(a.tz==b.tz)&&(a.rd==b.rd)&&(a.wr==b.wr)&&(a.sh==b.sh)&&(a.file==b.file)&&(a.base==b.base)
theorem zrC(x0 y0:Int)(x1 y1:Int)(x2 y2:Bool)(x3 y3:Bool)(x4 y4:Bool)(x5 y5:Int)(x6 y6:Int)(w):(Op.equalIn 10000 125 (Xi #[I6 x0,I6 x1,Xh x2,Xh x3,Xh x4,I6 x5,I6 x6]) (Xi #[I6 y0,I6 y1,Xh y2,Xh y3,Xh y4,I6 y5,I6 y6])).run prog w=.ok (zo5 ⟨x0,x1,x2,x3,x4,x5,x6⟩ ⟨y0,y1,y2,y3,y4,y5,y6⟩) w:=by
 have hf:(Tryz.prog.fieldsOf 125).toList.map (fun f=>(f.name,f.type,f.offset))=[("From",3,0),("To",3,1),("Read",4,2),("Write",4,3),("Shared",4,4),("File",3,5),("Base",3,6)]:=by kernel_rfl
 rw[run_equalIn_struct w 9999 125 _ _ Kr Kr]
 obtain⟨f0,f1,f2,f3,f4,f5,f6,hfs⟩:∃f0 f1 f2 f3 f4 f5 f6,(Tryz.prog.fieldsOf 125).toList=[f0,f1,f2,f3,f4,f5,f6]:=by
  have hl:(Tryz.prog.fieldsOf 125).toList.length=7:=by have:=congrArg List.length hf;simpa using this
  match hq:(Tryz.prog.fieldsOf 125).toList,hl with
  |[f0,f1,f2,f3,f4,f5,f6],_=>exact⟨f0,f1,f2,f3,f4,f5,f6,rfl⟩
 rw[hfs]at hf⊢
 simp at hf
 obtain⟨⟨n0,t0,o0⟩,⟨n1,t1,o1⟩,⟨n2,t2,o2⟩,⟨n3,t3,o3⟩,⟨n4,t4,o4⟩,⟨n5,t5,o5⟩,⟨n6,t6,o6⟩⟩:=hf;have pI:=zcT w;have pB:=zd9 w;simp only[Op.eqFields,n0,t0,o0,n1,t1,o1,n2,t2,o2,n3,t3,o3,n4,t4,o4,n5,t5,o5,n6,t6,o6]
 simp[pI,pB,run_equalIn_bool' w _ _ _ _ underlying4,run_equalIn_int w _ _ _ _ _ _ underlying3]
 unfold zo5;simp only
 by_cases e0:x0=y0
 case neg=>simp[e0]
 subst e0
 by_cases e1:x1=y1
 case neg=>simp[e1]
 subst e1
 by_cases e2:x2=y2
 case neg=>simp[e2]
 subst e2
 by_cases e3:x3=y3
 case neg=>simp[e3]
 subst e3
 by_cases e4:x4=y4
 case neg=>simp[e4]
 subst e4
 by_cases e5:x5=y5
 case neg=>simp[e5]
 subst e5
 by_cases e6:x6=y6
 case neg=>simp[e6]
 subst e6;simp
theorem zpN{a:Ar}(b:jK a)(n:Nat):(⟨n,(n:Int)+1,a.rd,a.wr,a.sh,a.file,(jE a n).base⟩:Ar)=Q8 n (qg a n):=by
 unfold Q8;rw[kE (zja a n)];unfold qg jE;simp only[Ar.mk.injEq,true_and]
 split
 ·rfl
 exact(b.2.2.2.2.2.2.1 Wm).1
theorem zqb{a b:Ar}:zo5 a ⟨b.tz,a.tz,b.rd,b.wr,b.sh,b.file,(jE b b.tz).base⟩=goB a b:=by
 unfold zo5 goB jE
 grind
theorem zca(a:Ar)(n:Int):arA (jE a n)=Xi #[I6 n,I6 a.tz,Xh a.rd,Xh a.wr,Xh a.sh,I6 a.file,I6 (jE a n).base]:=rfl
theorem zi8(a:Ar)(n:Nat)(w:Xn)(m:jK a)(P:n<64):Xp prog 132 #[Xi #[I6 a.fr,I6 a.tz,Xh a.rd,Xh a.wr,Xh a.sh,I6 a.file,I6 a.base],I6 (n:Int)] w fun e w'=>e=Xl (arA (Q8 n (qg a n)))/\zc w w':=by
 have f:∀W,Xp prog 172 #[Xi #[I6 a.fr,I6 a.tz,Xh a.rd,Xh a.wr,Xh a.sh,I6 a.file,I6 a.base],I6 (n:Int)] W fun e w'=>e=Xl (arA (jE a n))/\zc W w':=fun W=>zeD a n W m Wm
 rw[<-zpN m n];rw[zca]at f
 generalize(jE a n).base=nb at f⊢
 clear m;obtain⟨C,b⟩:=kB ((w.alloc (Xk #[I6 a.fr,I6 a.tz,Xh a.rd,Xh a.wr,Xh a.sh,I6 a.file,I6 a.base] 125)).alloc (Xk #[I6 0,I6 0,Xh Xd,Xh Xd,Xh Xd,I6 0,I6 0] 125));have g:=gD2 b
 have E:=x2a b
 have F:=x2b b
 have i:Xo (_=C):=b;clear b
 go_enter func132,ntmps132
 go_upto_region 1 with fail;rw[i.out]
 go_wp2_with(refine zm rfl 125 (.tmp 2) rfl w.heap.size rfl E underlying125 rfl zr0 ?_)
 refine(f _).mono ?_;rintro e r⟨rfl,l⟩;have y:=dD (g.trans l);have t:=dD (F.aA l);clear l f;obtain⟨p,h⟩:=kA r.heap.size;have q:Xo (w.heap.size+1<p):=show _<_ by rw[<-h.out];exact t.lt
 go_upto_region 2 with fail;obtain⟨D,c⟩:=kB (r.alloc (Xk #[I6 (n:Int),I6 a.tz,Xh a.rd,Xh a.wr,Xh a.sh,I6 a.file,I6 nb] 125));have z:=gT c y
 have G:=yA c t
 have k:=xP c h
 rw[c,h.out];clear c;have M:=k.c 1 rfl;have N:=k.f;go_upto_region 3 with fail;obtain⟨j,d⟩:=kB (D.setCell ⟨p,1,Xb⟩ (I6 ((n:Int)+1)));have A:Xo (zc w j):=dD<|by rw[<-d];exact zG z (by have:=q.out;simp;omega) _
 have H:Xo (Box j (w.heap.size+1) [I6 0,I6 0,Xh Xd,Xh Xd,Xh Xd,I6 0,I6 0]):=dD<|by rw[<-d];exact G.other (by have:=q.out;simp;omega) _
 have K:Xo (Box j p [I6 (n:Int),I6 ((n:Int)+1),Xh a.rd,Xh a.wr,Xh a.sh,I6 a.file,I6 nb]):=dD<|by rw[<-d];exact k.set 1 _
 rw[d];clear d M N
 go_wp2_with(first|refine zm rfl 125 (.tmp 5) rfl p rfl K underlying125 rfl zr0 ?_|refine zx rfl 125 (.tmp 4) (.tmp 12) rfl (w.heap.size+1) rfl _ rfl H rfl zr0 (arE.one ⟨n,(n:Int)+1,a.rd,a.wr,a.sh,a.file,nb⟩) ?_)
 intro s u v L;have B:Xo (zc w s):=zd A v Sm
 have x:Xo (Box s (w.heap.size+1) [I6 (n:Int),I6 ((n:Int)+1),Xh a.rd,Xh a.wr,Xh a.sh,I6 a.file,I6 nb]):=u;clear u v L;go_wp2;refine bodyPost_ret (zB rfl _ rfl x underlying125 rfl zr0) rfl ⟨rfl,B⟩
theorem zen(a b:Ar)(w)(c:jK b):Xp prog 166 #[Xi #[I6 a.fr,I6 a.tz,Xh a.rd,Xh a.wr,Xh a.sh,I6 a.file,I6 a.base],Xi #[I6 b.fr,I6 b.tz,Xh b.rd,Xh b.wr,Xh b.sh,I6 b.file,I6 b.base]] w fun e w'=>e=Xl (Xh (goB a b))/\zc w w':=by
 have d:∀W,Xp prog 172 #[Xi #[I6 b.fr,I6 b.tz,Xh b.rd,Xh b.wr,Xh b.sh,I6 b.file,I6 b.base],I6 b.tz] W fun e w'=>e=Xl (arA (jE b b.tz))/\zc W w':=fun W=>zeD b b.tz W c (by have:=c;unfold jK at this;omega)
 have f:=fun W=>zrC a.fr b.tz a.tz a.tz a.rd b.rd a.wr b.wr a.sh b.sh a.file b.file a.base (jE b b.tz).base W
 have g:=zqb (a:=a) (b:=b);rw[show(⟨a.fr,a.tz,a.rd,a.wr,a.sh,a.file,a.base⟩:Ar)=a from rfl]at f
 rw[g]at f;rw[zca]at d
 generalize(jE b b.tz).base=nb at d f
 clear g c
 generalize goB a b=R at f⊢
 obtain⟨c,c⟩:=kB ((w.alloc (Xk #[I6 a.fr,I6 a.tz,Xh a.rd,Xh a.wr,Xh a.sh,I6 a.file,I6 a.base] 125)).alloc (Xk #[I6 b.fr,I6 b.tz,Xh b.rd,Xh b.wr,Xh b.sh,I6 b.file,I6 b.base] 125));have f:=gD2 c
 have j:=x2a c
 have h:=x2b c
 have g:=dD c;clear c
 go_enter func166,ntmps166
 go_upto_region 1 with fail;rw[g.out];have g:=h.c 1 rfl
 go_wp2_with(refine zm rfl 125 (.tmp 3) rfl (w.heap.size+1) rfl h underlying125 rfl zr0 ?_)
 refine(d _).mono ?_;rintro e h⟨rfl,c⟩;have i:=dD (f.trans c);have f:=dD (j.aA c);clear c d g;obtain⟨p,d⟩:=kA h.heap.size;have g:Xo (w.heap.size<p):=show _<_ by rw[<-d.out];exact f.lt
 go_upto_region 2 with fail;obtain⟨k,c⟩:=kB (h.alloc (Xk #[I6 b.tz,I6 b.tz,Xh b.rd,Xh b.wr,Xh b.sh,I6 b.file,I6 nb] 125));have j:=gT c i
 have h:=yA c f
 have f:=xP c d
 rw[c,d.out];clear c;have l:=h.c 1 rfl;have m:=f.c 1 rfl;have n:=f.f;go_upto_region 3 with fail;obtain⟨d,c⟩:=kB (k.setCell ⟨p,1,Xb⟩ (I6 a.tz));have i:Xo (zc w d):=dD<|by rw[<-c];exact zG j (by have:=g.out;simp;omega) _
 have j:Xo (Box d w.heap.size [I6 a.fr,I6 a.tz,Xh a.rd,Xh a.wr,Xh a.sh,I6 a.file,I6 a.base]):=dD<|by rw[<-c];exact h.other (by have:=g.out;simp;omega) _
 have g:Xo (Box d p [I6 b.tz,I6 a.tz,Xh b.rd,Xh b.wr,Xh b.sh,I6 b.file,I6 nb]):=dD<|by rw[<-c];exact f.set 1 _
 rw[c];clear c l m n
 go_wp2_with(first|refine zm rfl 125 (.tmp 5) rfl p rfl g underlying125 rfl zr0 ?_|refine zm rfl 125 (.tmp 2) rfl w.heap.size rfl j underlying125 rfl zr0 ?_)
 go_ret;exact⟨rfl,i⟩
def inZ(a:Ar)(n:Int):Bool:=decide (a.fr<=n)&&decide (n<a.tz)
theorem zbN{a:Ar}{n:Int}:inZ a n=Xc↔a.fr<=n/\n<a.tz:=by simp[inZ]
theorem zie(a)(n:Nat):inZ a (n:Int)=Jc a n:=rfl
def zcb(l:List Ar)(n z:Int):Prop:=(∃(k:Nat)(a:Ar),z=k/\l[k]?=Xa a/\inZ a n=Xc)\/(z=-1/\∀a∈l,inZ a n=Xd)
theorem zfq{l:List Ar}{k:Nat}(h:zcb l k z):decide (0<=z)=(zN l k).is:=by
 rcases h with⟨j,a,rfl,b,c⟩|⟨rfl,b⟩
 ·have:∀(m:List Ar),a∈m->(zN m k).is=Xc:=by
   intro m
   induction m with
   |nil=>intro c;cases c
   |cons d m e=>
    intro c
    by_cases c:Jc d k=Xc
    ·rw[zN,kE c];rfl
    grind[zN,mC.1,zie]
  rw[this l (mG b)];simp
 rw[zaU (fun a c=>b a c)]
 rfl
theorem zmM(a:Ar)(n:Int)(p:Nat)(w)(h:Box w p [I6 n]):
  Xp prog 124 #[Xi #[I6 a.fr,I6 a.tz,Xh a.rd,Xh a.wr,Xh a.sh,I6 a.file,I6 a.base],Xj (Xa ⟨p,0,Xb⟩)] w fun e w'=>e=Xl (Xh (inZ a n))/\zc w w':=by
 have H:Xo (inZ a n=(decide (a.fr<=n)&&decide (n<a.tz))):=rfl;obtain⟨d,b⟩:=kB (w.alloc (Xk #[I6 a.fr,I6 a.tz,Xh a.rd,Xh a.wr,Xh a.sh,I6 a.file,I6 a.base] 125));have c:=gA b
 have f:=xA b
 have g:Xo (Box d p [I6 n]):=dD<|by rw[<-b];exact h.alloc _
 have d:=dD b;clear b h
 by_cases b:a.fr<=n
 ·by_cases b:n<a.tz
  ·go_enter func124,ntmps124
   go_upto_region 1 with fail;rw[d.out];obtain⟨h,i⟩:=f.k2;have b:=g.c 0 rfl;go_wp2;go_ret;exact⟨by rw[H.out];simp[*],c⟩
  go_enter func124,ntmps124
  go_upto_region 1 with fail;rw[d.out];obtain⟨h,i⟩:=f.k2;have b:=g.c 0 rfl;go_wp2;go_ret;exact⟨by rw[H.out];simp[*],c⟩
 go_enter func124,ntmps124
 go_upto_region 1 with fail;rw[d.out];obtain⟨h,i⟩:=f.k2;have b:=g.c 0 rfl;go_wp2;go_ret;exact⟨by rw[H.out];simp;omega,c⟩
theorem zff(v l)(m:Int)(p:Nat)(w)(d:Box w p [I6 m])(c:zj arE w v l):
  Xp prog 123 #[v,.func (.func 124) #[] #[Xj (Xa ⟨p,0,Xb⟩)]] w fun e w'=>(∃z:Int,e=Xl (I6 z)/\zcb l m z)/\zc w w':=by
 have b:=c.short;obtain⟨a,a,rfl,a⟩:=c.aE;have k:=dD a;have h:=dD d;have f:=enters_of func124 Kr rfl
 clear a c d;obtain⟨n,x⟩:=kA l.length;rw[x.out]at b⊢;obtain⟨d,c⟩:∃d:Int->Prop,Xo (∀z,zcb l m z=d z):=⟨zcb l m,fun _=>rfl⟩
 simp only[c.out]
 go_enter func123,ntmps123
 go_wp2
 go_loopg[5,8] n (fun a _ f wr=>∃b:Nat,b<=n/\n-b<=a/\f=I6 b/\Xo (zc w wr)/\Xo (∀(j:Nat)(q:Ar),j<b->l[j]?=Xa q->inZ q m=Xd))
 exact⟨0,nZ _,Wm,rfl,zc.refl w,fun j q r=>absurd r (nL _)⟩
 obtain⟨b,a,a,rfl,i,A⟩:=hrel
 by_cases f:b<n
 ·have s:=kC f
  obtain⟨q,y⟩:∃q,Xo (l[b]?=Xa q):=⟨_,gE (Rx x.out f)⟩
  obtain⟨a,rfl,g⟩:=k.out b q y.out;obtain⟨z,B,C,D,E,F,G⟩:=g wr i.out;have a:=zmM q m p wr (h.aA i);clear g
  cases h:inZ q m with
  |true=>
   rw[h]at a;have u:Xo (d (b:Int)):=dD<|by
    rw[<-c.out];exact .inl ⟨b,q,rfl,y,h⟩
   clear h;go_wp2_with fail;refine a.mono ?_;rintro e K⟨rfl,k⟩;have t:=dD (i.trans k);clear k a z B C D E F G;go_wp2;go_ret;exact⟨⟨_,rfl,u⟩,t⟩
  |false=>
   rw[h]at a;have H:Xo (∀(j:Nat)(q:Ar),j<b+1->l[j]?=Xa q->inZ q m=Xd):=dD<|fun j q r g=>by
    by_cases e:j=b
    ·subst e;rw[y.out]at g;cases g;exact h
    exact A j q Wm g
   clear h;go_wp2_with fail;refine a.mono ?_;rintro e K⟨rfl,k⟩;have t:=dD (i.trans k);clear k a z B C D E F G;go_wp2
   go_roundg (n-(b+1));exact⟨b+1,Wm,Wm,Gn,t,H⟩;omega
 have s:=kD f
 have:b=n:=Wm
 subst this;have u:Xo (d (-1:Int)):=dD<|by
  rw[<-c.out];refine .inr ⟨rfl,fun b a=>?_⟩
  obtain⟨j,r⟩:=Xt a;exact A j b (by rw[<-x.out];exact(gS.1 r).1) r
 go_wp2;go_ret;exact⟨⟨_,rfl,u⟩,i⟩
theorem zcx(v l)(m:Int)(w)(b:zj arE w v l):
  Xp prog 67 #[v,I6 m] w fun e w'=>(∃z:Int,e=Xl (I6 z)/\zcb l m z)/\zc w w':=by
 have a:∀(c:Fn)(first a:Array Xq)(w:Xn),(Instr.makeFunc c first a).run prog w=.ok (.func c first a) w:=fun _ _ _ _=>rfl
 have a:Xp prog 123 #[v,.func (.func 124) #[] #[Xj (Xa ⟨w.heap.size,0,Xb⟩)]] (w.alloc (Xk #[I6 m] 3)) fun e w'=>(∃z:Int,e=Xl (I6 z)/\zcb l m z)/\zc (w.alloc (Xk #[I6 m] 3)) w':=zff v l m _ _ (Box.aD w _ _ rfl) (b.aA (za _ _))
 obtain⟨c,c,rfl,_⟩:=b.aE;clear b
 generalize l.length=n at a⊢
 go_enter func67,ntmps67
 go_wp2_with fail;refine a.mono ?_;rintro e f⟨⟨z,rfl,c⟩,b⟩;have d:Xo (zc w f):=(za _ _).trans b;have f:=dD c;clear b a c;go_wp2;go_ret;exact⟨⟨_,rfl,f⟩,d⟩
def jJ(l:List Ar)(s:Nat):Nat->Nat
 |0=>0
 |n+1=>jJ l s n+if(zN l (s+n)).is=Xc then 1 else 0
theorem zg4(l:List Ar)(s:Nat):∀n,jJ l s n<=n
 |0=>nR _
 |n+1=>by
  have:=zg4 l s n;unfold jJ
  split<;>omega
theorem zdr{l:List Ar}{s:Nat}:∀{n:Nat},jJ l s n=0↔∀j,j<n->(zN l (s+j)).is=Xd
 |0=>by simp[jJ]
 |n+1=>by
  unfold jJ;have a:=zdr (l:=l) (s:=s) (n:=n);constructor
  ·intro h j b
   by_cases e:j=n
   ·subst e
    cases c:(zN l (s+j)).is with
    |false=>rfl
    |true=>rw[c]at h;simp at h
   exact a.1 Wm j Wm
  intro h;rw[a.2 fun j b=>h j Wm,h n Wm]
  simp
theorem zna{l:List Ar}{s n:Nat}(h:s+n<=64):jJ l s n=0↔zqE l s n=Xd:=by
 rw[zdr,zp6];constructor
 ·intro a k d b;have:=a (k-s) Wm
  rw[show s+(k-s)=k by omega]at this
  exact this
 intro a j c;exact a (s+j) Wm Wm
theorem zlE(v:Xq)(l:List Ar)(s n:Nat)(w:Xn)(t:zj arE w v l)(N:s+n<=64):
  Xp prog 128 #[v,I6 (s:Int),I6 ((s:Int)+(n:Int))] w fun e w'=>e=Xl (I6 (jJ l s n:Int))/\zc w w':=by
 have y:Xo (zj arE w v l):=t;have r:∀W(k:Int),zc w W->Xp prog 67 #[v,I6 k] W fun e w'=>(∃z:Int,e=Xl (I6 z)/\zcb l k z)/\zc W w':=fun W k D=>zcx v l k W (y.aA D)
 have x:Xo _:=r;clear t r;obtain⟨g,c⟩:=kA (jJ l s n);rw[c.out]
 go_enter func128,ntmps128
 go_wp2
 go_loopg[7,8] n (fun B G H wr=>∃(a C:Nat),a<=n/\n-a<=B/\H=I6 ((s:Int)+(a:Int))/\G=I6 (C:Int)/\C<=a/\Xo (zc w wr)/\Xo (jJ l s a=C))
 exact⟨0,0,nZ _,Wm,Sm,rfl,nR _,zc.refl w,rfl⟩
 obtain⟨a,C,E,M,rfl,rfl,L,h,A⟩:=hrel
 by_cases F:a<n
 ·have f:(s:Int)+(a:Int)<(s:Int)+(n:Int):=Wm
  go_wp2_with fail;refine(x wr _ h).mono ?_;rintro e K⟨⟨z,rfl,j⟩,q⟩;have p:=dD (h.trans q);rw[show(s:Int)+(a:Int)=((s+a:Nat):Int) by omega]at j
  have b:=zfq j;clear q j
  cases d:(zN l (s+a)).is with
  |true=>
   rw[d]at b;have m:0<=z:=Si b
   have i:Xo (jJ l s (a+1)=C+1):=dD<|by unfold jJ;rw[d,A.out];rfl
   clear d b;go_wp2
   go_roundg (n-(a+1));exact⟨a+1,C+1,Wm,Wm,Gn,Gn,Wm,p,i⟩;omega
  |false=>
   rw[d]at b;have m:¬0<=z:=Si b
   have i:Xo (jJ l s (a+1)=C):=dD<|by unfold jJ;rw[d,A.out];rfl
   clear d b;go_wp2
   go_roundg (n-(a+1));exact⟨a+1,C,Wm,Wm,Gn,rfl,Wm,p,i⟩;omega
 have f:¬(s:Int)+(a:Int)<(s:Int)+(n:Int):=Wm
 have:a=n:=Wm
 subst this;have u:Xo ((C:Int)=(g:Int)):=dD<|by rw[<-c.out,A.out]
 go_wp2;go_ret;exact⟨Rr u.out,h⟩
end
end Go.Proofs.YtmfckdkcmbncdaaGreat
