import Derived.Orders
import Derived.Below
import Derived.Deep.QuietTactic
import Derived.BigQuiet
import Derived.Test.YtmfckdkcmbncdaaGreatProg
import Derived.WalkKit
import Derived.Deep.LoopGhost
import Derived.Deep.Slices
import Derived.Laws.AppendOwn
import Derived.Lib.Walk
import Derived.Lib.SliceRun
import Derived.Laws.CopyRow
import Derived.Laws.CopyOwn
import Derived.Laws.MakeOwn
import Derived.Laws.OwnMore
import Derived.Shelf.Abstract
import Derived.WalkSmall
import Derived.Deep.Cut
import Derived.ChangeKeysEq
import Derived.Laws.StructEq
import Derived.ArgAppend
namespace Go.Proofs.YtmfckdkcmbncdaaGreat
open Go.Value renaming slice→O,int→Xe,bool→Xh,agg→Xi,pointer→Xj,tuple→Xm
open Go.IntKind renaming i64→Xf,u8→Xg
open Go.Obj renaming cells→Xk
open Go.Ending renaming returned→Xl
open Go renaming World→Xn,Calls→Xp,Value→Xq
open Go.RowKit renaming Hid→Xo
open Option renaming some→Xa,none→Xb
open Bool renaming true→Xc,false→Xd
open List renaming replicate→Xr
open Go.Region renaming wanted→Xs,ready→Og,binds→Ue
open _root_.List renaming mem_range→Xt,mem_filter→Xu,flatMap_cons→Xw,range→Xy,ext_getElem?→Yb,all_eq_true→Ye,drop_append_of_le_length→Yf,take_length_add_append→Yj,drop_length_add_append→Yk,any_eq_true→Ym,mem_append→Yn,length_set→Yo,drop_of_length_le→Yq,length_cons→Yr,take_append_of_le_length→Ys,nodup_cons→Yt,nil_append→Yu,append_nil→Yv,pairwise_cons→Yw,mem_or_eq_of_mem_set→Yx,any_eq_false→Yy,append_assoc→Oa,lookup→Ob,filter_cons_of_pos→Oc,length_eq_zero_iff→Od,getElem?_replicate→Oe,getElem?_cons_succ→Of,pairwise_lt_range→Oh,take_of_length_le→Ok,range_eq_range'→Oo,take_zero→Oq,getElem?_of_mem→Ou,getElem?_range→Ov,filter_eq_self→Ow,flatMap_append→Ox,sum_cons→Oy,filter_append→Oz,getLast?_cons→Ua,mem_singleton→Ub,getElem?_drop→Uc,getElem?_map→Ud
open _root_.Bool renaming and_eq_true→Xv,false_eq_true→Yg,or_eq_true→Ol
open Go.Sem renaming run_bind→Xx,run_pure→Yd
open _root_.Nat renaming mul_le_mul_left→Xz,lt_or_ge→Yc,lt_of_lt_of_le→Yh,add_assoc→Yi,mul_le_mul_right→Yl,add_comm→Yp,add_mul→Yz,zero_mul→Oi,succ_mul→Oj,div_lt_iff_lt_mul→Om,mul_comm→Uf
open _root_.Array renaming getElem?_eq_getElem→Ya,getElem_modify→Ot
theorem dD{P:Prop}(h:P):Go.RowKit.Hid P:=h
theorem kA{α:Type}(e:α):∃x,Go.RowKit.Hid (e=x):=⟨_,rfl⟩
theorem kB{α:Type}(e:α):∃x,e=x:=⟨_,rfl⟩
theorem kE{c:Prop}{h:Decidable c}(hc:c){α:Sort _}{t e:α}:ite c t e=t:=if_pos hc
theorem kF{c:Prop}{h:Decidable c}(hc:¬c){α:Sort _}{t e:α}:ite c t e=e:=if_neg hc
theorem kC{a b:Nat}(h:a<b):(a:Int)<(b:Int):=by omega
theorem kD{a b:Nat}(h:¬a<b):¬(a:Int)<(b:Int):=by omega
theorem gE{α:Type}{l:List α}{i:Nat}(h:i<l.length):l[i]? =Xa l[i]:=List.getElem?_eq_getElem h
theorem sB{α:Type}(l:List α)(i:Nat)(a:α):l.toArray.setIfInBounds i a=(l.set i a).toArray:=List.setIfInBounds_toArray l i a
theorem gS{α:Type}{i:Nat}{a:α}{l:List α}:l[i]? =Xa a<->∃h:i<l.length,l[i]=a:=List.getElem?_eq_some_iff
theorem sZ{α:Type}{x:α}{k:List α}{a:α}:(x::k).set 0 a=a::k:=rfl
theorem sS{α:Type}{x:α}{k:List α}{i:Nat}{a:α}:(x::k).set (i+1) a=x::k.set i a:=rfl
theorem nM{α:Type}{a:α}:¬a∈([]:List α):=List.not_mem_nil
theorem mC{α:Type}{b:α}{l:List α}{a:α}:a∈b::l<->a=b\/a∈l:=List.mem_cons
theorem mG{α:Type}{l:List α}{i:Nat}{a:α}(h:l[i]? =Xa a):a∈l:=List.mem_of_getElem? h
theorem sF{α:Type}{l:List α}{i:Nat}{a:α}(h:i<l.length):(l.set i a)[i]? =Xa a:=List.getElem?_set_self h
theorem gD{α:Type}{l:List α}{i:Nat}{a:α}:l.getD i a=l[i]?.getD a:=List.getD_eq_getElem?_getD
theorem sN{α:Type}{l:List α}{i j:Nat}(h:i≠j){a:α}:(l.set i a)[j]? =l[j]?:=List.getElem?_set_ne h
theorem tN(n:Nat):(n:Int).toNat=n:=Int.toNat_natCast n
theorem lR{α:Type}{n:Nat}{a:α}:(Xr n a).length=n:=List.length_replicate
theorem pJ{α β:Type}(a:α)(b:β)(c:α)(d:β):((a,b)=(c,d))=(a=c/\b=d):=Prod.mk.injEq a b c d
theorem vJ(a n c d e f):(O a n c=O d e f)=(a=d/\n=e/\c=f):=Value.slice.injEq a n c d e f
theorem eN{α:Type}{l:List α}(h:l.length=0):l=[]:=List.eq_nil_of_length_eq_zero h
theorem aR{α:Type}{k l:List α}{i:Nat}(h:k.length<=i):(k++l)[i]? =l[i-k.length]?:=List.getElem?_append_right h
theorem gN{α:Type}{l:List α}{i:Nat}(h:l.length<=i):l[i]? =Xb:=List.getElem?_eq_none h
theorem lA{α:Type}{k l:List α}:(k++l).length=k.length+l.length:=List.length_append
theorem aS{α:Type}{i:Nat}{b:α}{k:Array α}:k[i]? =Xa b<->∃h:i<k.size,k[i]=b:=Array.getElem?_eq_some_iff
theorem bD{B:Nat}{a w:Xn}(h:Go.RowKit.Below B a w)(n:Nat):Go.RowKit.Below B a (w.drewN n):=Go.below_drewN h n
theorem nT{n m k:Nat}(h:n<=m)(g:m<=k):n<=k:=Nat.le_trans h g
theorem nR(n:Nat):n<=n:=Nat.le_refl n
theorem nZ(n:Nat):0<=n:=Nat.zero_le n
theorem nL(n:Nat):¬n<0:=Nat.not_lt_zero n
theorem mP{α β:Type}{f:α->β}{a:α}{l:List α}:(a::l).map f=f a::l.map f:=rfl
theorem rA{α β:Type}(a:α)(w:Xn)(f:α->Xn->Result β):(Result.ok a w).andThen f=f a w:=rfl
theorem zA(n:Nat):0+n=n:=Nat.zero_add n
theorem bR(B:Nat)(w:Xn):Go.RowKit.Below B w w:=Go.RowKit.Below.refl B w
theorem bS{B:Nat}{w v:Xn}(h:Go.RowKit.Below B w v):w.heap.size<=v.heap.size:=Go.RowKit.Below.size h
set_option maxRecDepth 100000
set_option maxHeartbeats 4000000
variable{B B0 B1 b base' g id j:Nat} {L:List Oper} {Q:Exit->Act->Xn->Prop} {W w':Xn} {a0 a1 a2 a3 a4 a5 a6 a7:Xq} {o oj:Oper} {ops:Array Oper} {t:TypeId} {xs:List Xq}
open Go.Proofs.Tryz
section
structure Pg where
 (b0 b1 b2 b3 b4 b5 b6 b7:Int)
structure Fr where
 p:Pg
 r:Int
 u:Bool
 d:Bool
 f:Int
 x:Int
def pg0:Pg:=⟨0,0,0,0,0,0,0,0⟩
def fr0:Fr:=⟨pg0,0,Xd,Xd,0,0⟩
def frF:Fr:=⟨pg0,0,Xd,Xd,-1,0⟩
def ze7 (p q:Pg):Bool:=(p.b0 == q.b0) &&(p.b1 == q.b1) &&(p.b2 == q.b2) &&(p.b3 == q.b3) &&(p.b4 == q.b4) &&(p.b5 == q.b5) &&(p.b6 == q.b6) &&(p.b7 == q.b7)
theorem za7 (p q):ze7 p q=Xc↔p=q:=by
 obtain⟨a,a,a,a,a,a,a,a⟩:=p;obtain⟨a,a,a,a,a,a,a,a⟩:=q
 simp[ze7,and_assoc]
def zbr (a b:Fr):Bool:=ze7 a.p b.p &&(a.r == b.r) &&(a.u == b.u) &&(a.d == b.d) &&(a.f == b.f) &&(a.x == b.x)
theorem zdy (a b):zbr a b=Xc↔a=b:=by
 obtain⟨p,r,u,d,f,x⟩:=a;obtain⟨c,c,c,c,c,c⟩:=b
 simp[zbr,za7,and_assoc]
def inB (m n:Int):Bool:=decide (0<=m) && decide (m<n)
def frW (a:Fr):Int:=if(inB a.r 1001 && inB a.x 12)=Xd then 3 else if(!(a.f == -1) && !inB a.f 5)=Xc then 3 else if(a.r == 0 && !zbr a frF || a.f == -1 && !(a.x == 0))=Xc then 7 else 0
def zfS:List Fr->Int
 | []=>0
 | a :: l=>if frW a=0 then zfS l else frW a
def Zb (fs:List Fr) (h:Int):Int:=if 40<fs.length then 4 else if zfS fs=0 then(if inB h (max fs.length 1)then 0 else 3)else zfS fs
def zdU (z:Int):Bool:=decide (z<0) || decide (1000<z)
def slW (s:List Int):Int:=if 60<s.length then 4 else if s.any zdU then 3 else 0
def j7 (at_:Int) (n:Nat):Bool:=decide (0<=at_) && decide (at_<n)
def zS (n:Nat) (qs:List (Int × List Int)):Int:=if 80<n then 4 else if 400<qs.length then 4 else if qs.any (fun q=>!j7 q.1 n)then 3 else 0
def zr (n:Nat) (qs:List (Int × List Int)) (m:Int):Int:=if zS n qs=0 then(if j7 m n then 0 else 3)else zS n qs
def z4:List Int:=[0,0,0,0,0,0,0,0]
def qY (ps:List (List Int)) (qs:List (Int × List Int)) (m:Int):List Int:=
 if zr ps.length qs m=0 then(match qs.reverse.find? (fun q=>q.1 == m)with | some q=>q.2 | none=>ps.getD m.toNat z4)else z4
structure Fl where
 size:Int
 bl:List Int
def zcl (n:Int):Int:=if n<1 then 0 else(n - 1) / 8+1
def Js (cnt:Int) (g:List Int) (b:Int):Int:=if b=-1 then 0 else if 0<=b/\b<cnt then(if g.contains b then 7 else 0)else 3
def zap (g:List Int) (b:Int):List Int:=if b=-1 then g else b :: g
def blW (cnt:Int):List Int->List Int->Int
 | _,[]=>0
 | g,b :: l=>if Js cnt g b=0 then blW cnt (zap g b) l else Js cnt g b
def blG (g:List Int) (l:List Int):List Int:=l.foldl zap g
def flW (cnt:Int) (g:List Int) (f:Fl):Int:=if 0<=f.size/\f.size<=96 then(if(f.bl.length:Int)=zcl f.size then blW cnt g f.bl else 2)else 3
def zgP (cnt:Int):List Int->List Fl->Int
 | _,[]=>0
 | g,f :: l=>if flW cnt g f=0 then zgP cnt (blG g f.bl) l else flW cnt g f
def stW (fs:List Fl) (cnt:Int):Int:=if fs.length<=5/\0<=cnt/\cnt<=80 then zgP cnt [] fs else 4
def qe (fs:List Fl) (b:Int):Bool:=fs.any fun f=>f.bl.contains b
def Qa (fs:List Fl) (cnt:Int):List Nat:=(Xy cnt.toNat).filter fun b=>!qe fs (b:Int)
def zcu (l:List Int) (n:Nat):List Int:=l.take n++Xr (n - l.length) (-1)
theorem zby {n:Int} (a:0<=n) (b:n<=96):0<=zcl n/\zcl n<=12:=by
 unfold zcl
 split <;> omega
theorem zaO (a:Int) (g:List Int) (b:Int):
  (b=-1/\Js a g b=0/\zap g b=g)\/
  (b≠-1/\¬(0<=b/\b<a)/\Js a g b=3)\/
  (∃i:Nat,b=(i:Int)/\b<a/\g.contains b=Xc/\Js a g b=7)\/
  (∃i:Nat,b=(i:Int)/\b<a/\g.contains b=Xd/\Js a g b=0/\zap g b=b :: g):=by
 by_cases c:b=-1
 ·exact .inl ⟨c,by unfold Js;rw[kE c],by unfold zap;rw[kE c]⟩
 by_cases d:0<=b/\b<a
 ·obtain⟨i,e⟩:∃i:Nat,b=(i:Int):=⟨b.toNat,by omega⟩
  cases a:g.contains b with
  | true=>exact .inr (.inr (.inl ⟨i,e,d.2,rfl,by unfold Js;rw[kF c,kE d,kE a]⟩))
  | false=>exact .inr (.inr (.inr ⟨i,e,d.2,rfl,by unfold Js;rw[kF c,kE d,kF (by rw[a];decide)],by unfold zap;rw[kF c]⟩))
 exact .inr (.inl ⟨c,d,by unfold Js;rw[kF c,kF d]⟩)
theorem ziu (a:Int) (g) (b:Int):Js a g b=0\/Js a g b=3\/Js a g b=7:=by
 rcases zaO a g b with⟨_,h,_⟩|⟨_,_,h⟩|⟨_,_,_,_,h⟩|⟨_,_,_,_,h,_⟩ <;> omega
theorem zhe (a:Int):∀(l g:List Int),blW a g l=0\/blW a g l=3\/blW a g l=7
 | [],g=> .inl rfl
 | b :: l,g=>by
  unfold blW
  split
  ·exact zhe a l _
  exact ziu a g b
theorem zm8 (a:Int) (g f):0<=flW a g f/\flW a g f<=7:=by
 have:=zhe a f.bl g;unfold flW
 split
 ·split <;> omega
 omega
theorem zkY (a:Int):∀(l:List Fl) (g:List Int),0<=zgP a g l/\zgP a g l<=7
 | [],g=>by simp[zgP]
 | f :: l,g=>by
  unfold zgP
  split
  ·exact zkY a l _
  exact zm8 a g f
def Jv (l:List Int):List Int:=l.filter (·≠-1)
theorem zff (b:Int) (hb:b≠-1):∀(l g:List Int),b∈blG g l↔b∈g\/b∈l
 | [],g=>by simp[blG]
 | c :: l,g=>by
  have a:=zff b hb l (zap g c);unfold blG at a⊢;rw[List.foldl_cons,a];unfold zap
  split
  ·rename_i h
   simp;constructor
   ·rintro(h|h) <;> simp[h]
   rintro(a|a|a)
   ·exact .inl a
   ·exact absurd (a.trans h) hb
   exact .inr a
  simp;constructor
  ·rintro((h|h) | h) <;> simp[h]
  rintro(h|h|h) <;> simp[h]
theorem zcJ (a:Int):∀(l g:List Int),blW a g l=0↔(∀b∈l,b=-1\/(0<=b/\b<a))/\(∀b∈l,b≠-1->b∉g)/\(Jv l).Nodup
 | [],g=>by simp[blW,Jv]
 | b :: l,g=>by
  unfold blW
  rcases zaO a g b with⟨e,d,c⟩|⟨e,d,c⟩|⟨i,e,d,c,f⟩|⟨i,e,d,c,f,j⟩
  ·rw[kE d,c,zcJ a l g];subst e
   simp[Jv]
  ·rw[kF (by omega),c]
   constructor
   ·intro h;omega
   rintro⟨h,_⟩
   rcases h b (by simp)with h|h
   ·exact absurd h e
   exact absurd h d
  ·rw[kF (by omega),f]
   constructor
   ·intro h;omega
   rintro⟨_,h,_⟩;exact absurd (by simpa using c) (h b (by simp) (by omega))
  rw[kE f,j,zcJ a l (b :: g)];have hb:b≠-1:=by omega
  have k:b∉g:=by simpa using c
  constructor
  ·rintro⟨j,f,e⟩;refine⟨fun c a=>?_,fun c a h=>?_,?_⟩
   ·rcases mC.1 a with rfl|a
    ·exact .inr ⟨by omega,d⟩
    exact j c a
   ·rcases mC.1 a with rfl|a
    ·exact k
    exact fun d=>f c a h (by simp[d])
   unfold Jv;rw[Oc (by simpa using hb)]
   refine Yt.2 ⟨fun h=>?_,e⟩
   obtain⟨d,_⟩:=Xu.1 h;exact f b d hb (by simp)
  rintro⟨j,f,e⟩;unfold Jv at e;rw[Oc (by simpa using hb)]at e
  obtain⟨k,m⟩:=Yt.1 e;refine⟨fun c a=>j c (by simp[a]),fun c a h d=>?_,m⟩
  rcases mC.1 d with rfl|d
  ·exact k (Xu.2 ⟨a,by simpa using hb⟩)
  exact f c (by simp[a]) h d
def zrw (cnt:Int) (f:Fl):Prop:=(0<=f.size/\f.size<=96)/\(f.bl.length:Int)=zcl f.size/\∀b∈f.bl,b=-1\/(0<=b/\b<cnt)
def zbB (fs:List Fl):List Int:=fs.flatMap fun f=>f.bl
theorem zo0 (a:Int) (g) (f:Fl):flW a g f=0↔zrw a f/\(∀b∈f.bl,b≠-1->b∉g)/\(Jv f.bl).Nodup:=by
 unfold flW zrw;constructor
 ·intro h
  split at h
  ·rename_i c
   split at h
   ·rename_i d
    have:=(zcJ a f.bl g).1 h;exact⟨⟨c,d,this.1⟩,this.2⟩
   omega
  omega
 rintro⟨⟨c,d,e⟩,h⟩;rw[kE c,kE d];exact(zcJ a f.bl g).2 ⟨e,h⟩
theorem zgO (a:Int):∀(fs:List Fl) (g:List Int),zgP a g fs=0↔(∀f∈fs,zrw a f)/\(∀b∈zbB fs,b≠-1->b∉g)/\(Jv (zbB fs)).Nodup
 | [],g=>by simp[zgP,zbB,Jv]
 | f :: l,g=>by
  unfold zgP;have i:(flW a g f=0/\zgP a (blG g f.bl) l=0)↔(∀d∈f :: l,zrw a d)/\(∀b∈zbB (f :: l),b≠-1->b∉g)/\(Jv (zbB (f :: l))).Nodup:=by
   rw[zo0,zgO a l];unfold zbB Jv;rw[Xw,Oz,List.nodup_append];constructor
   ·rintro⟨⟨j,k,p⟩,q,m,h⟩;refine⟨fun d e=>?_,fun b c a=>?_,p,h,fun n t b c=>?_⟩
    ·rcases mC.1 e with rfl|e
     ·exact j
     exact q d e
    ·rcases Yn.1 c with c|c
     ·exact k b c a
     exact fun h=>m b c a ((zff b a _ _).2 (.inl h))
    rintro rfl;obtain⟨r,s⟩:=Xu.1 t;obtain⟨a,_⟩:=Xu.1 c;have t:n≠-1:=by simpa using s
    exact m n a t ((zff n t _ _).2 (.inr r))
   rintro⟨j,k,p,q,m⟩;refine⟨⟨j f (by simp),fun b c=>k b (Yn.2 (.inl c)),p⟩,fun d e=>j d (by simp[e]),fun b c a h=>?_,q⟩
   rcases(zff b a _ _).1 h with h|h
   ·exact k b (Yn.2 (.inr c)) a h
   exact m b (Xu.2 ⟨h,by simpa using a⟩) b (Xu.2 ⟨c,by simpa using a⟩) rfl
  split
  ·rename_i h
   rw[<-i];exact⟨fun a=>⟨h,a⟩,fun a=>a.2⟩
  rename_i h
  rw[<-i];exact⟨fun a=>absurd a h,fun a=>absurd a.1 h⟩
theorem qC (fs:List Fl) (a:Int):stW fs a=0↔(fs.length<=5/\0<=a/\a<=80)/\(∀f∈fs,zrw a f)/\(Jv (zbB fs)).Nodup:=by
 unfold stW
 split
 ·rename_i h
  rw[zgO]
  simp[h]
 rename_i h
 simp[h]
theorem zeW (fs) (b:Int):qe fs b=Xc↔b∈zbB fs:=by
 simp[qe,zbB]
structure En where
 kind:Int
 n:Int
 wr:Bool
def en0:En:=⟨0,0,Xd⟩
def enS (e:En):Bool:=e.kind != 0
def enW (e:En):Int:=
 if 0<=e.kind/\e.kind<=2 then
  (if 0<=e.n/\e.n<=59/\(e.kind=1->e.n<=39)then
   (if(e.kind=0/\(e.n≠0\/e.wr=Xc))\/(e.kind=2/\e.wr=Xc)then 7 else 0)
  else 3)
 else 1
def esW:List En->Int
 | []=>0
 | e :: l=>if enW e=0 then esW l else enW e
def zeP (l:List En):Bool:=l.any enS
def haW (h:List En):Int:=if h.length=0 then 0 else if h.length=8 then(if esW h=0 then(if zeP h=Xc then 0 else 2)else esW h)else 2
def tbW:List (List En)->Int
 | []=>0
 | h :: t=>if haW h=0 then tbW t else haW h
def zdt (t:List (List En)) (i k:Nat):En:=((t[i]?.getD [])[k]?).getD en0
def zd8 (t:List (List En)) (n:Int):En:=if 0<=n/\n<64 then zdt t (n.toNat / 8) (n.toNat % 8)else en0
def mk (l:List En):List En:=if zeP l=Xc then l else []
def zbo (h:List En):List En:=if h.length=0 then Xr 8 en0 else h
def zhl (t:List (List En)) (n:Nat) (e:En):List (List En):=t.set (n / 8) (mk ((zbo (t[n / 8]?.getD [])).set (n % 8) e))
def zhm (t:List (List En)) (n:Int) (e:En):Int:=if tbW t=0 then(if 0<=n/\n<64 then enW e else 3)else tbW t
def Jo:List (List En):=Xr 8 []
def zh0 (t:List (List En)) (n:Int) (e:En):List (List En):=if zhm t n e=0 then zhl t n.toNat e else Jo
def zcB (l:List En) (i:Nat):List En:=(Xy 8).map fun k=>l[8*i+k]?.getD en0
def Qt (l:List En):List (List En):=(Xy 8).map fun i=>mk (zcB l i)
def z6 (t:List (List En)) (f:En->Bool) (m:Nat):List Int:=((Xy m).filter fun n=>enS (zdt t (n / 8) (n % 8)) && f (zdt t (n / 8) (n % 8))).map fun(n:Nat)=>(n:Int)
theorem jD {e:En} (h:enW e=0):(0<=e.kind/\e.kind<=2)/\(0<=e.n/\e.n<=59/\(e.kind=1->e.n<=39))/\¬((e.kind=0/\(e.n≠0\/e.wr=Xc))\/(e.kind=2/\e.wr=Xc)):=by
 unfold enW at h
 by_cases a:0<=e.kind/\e.kind<=2
 ·rw[kE a]at h
  by_cases b:0<=e.n/\e.n<=59/\(e.kind=1->e.n<=39)
  ·rw[kE b]at h
   by_cases c:(e.kind=0/\(e.n≠0\/e.wr=Xc))\/(e.kind=2/\e.wr=Xc)
   ·rw[kE c]at h;omega
   exact⟨a,b,c⟩
  rw[kF b]at h;omega
 rw[kF a]at h;omega
theorem JV {e:En} (a:0<=e.kind/\e.kind<=2) (b:0<=e.n/\e.n<=59/\(e.kind=1->e.n<=39)) (c:¬((e.kind=0/\(e.n≠0\/e.wr=Xc))\/(e.kind=2/\e.wr=Xc))):enW e=0:=by
 unfold enW;rw[kE a,kE b,kF c]
theorem QP:enW en0=0:=by decide
theorem zni {e:En} (h:enW e=0) (b:enS e=Xd):e=en0:=by
 obtain⟨a,a,a⟩:=jD h;obtain⟨k,n,w⟩:=e
 simp[enS]at b
 subst b
 simp at a
 obtain⟨rfl,b⟩:=a;cases w
 ·rfl
 simp at b
theorem zjD {l:List En}:esW l=0↔∀e∈l,enW e=0:=by
 induction l with
 | nil=>simp[esW]
 | cons e l a=>
  unfold esW
  by_cases h:enW e=0
  ·rw[kE h,a]
   simp[h]
  rw[kF h]
  simp[h]
def ziY (h:List En):Prop:=h=[]\/(h.length=8/\(∀e∈h,enW e=0)/\zeP h=Xc)
theorem zju {h:List En}:haW h=0↔ziY h:=by
 unfold haW ziY
 by_cases a:h.length=0
 ·rw[kE a];have:h=[]:=Od.1 a
  simp[this]
 have d:h≠[]:=fun e=>a (by rw[e];rfl)
 rw[kF a]
 by_cases c:h.length=8
 ·rw[kE c]
  by_cases a:esW h=0
  ·rw[kE a];have e:=zjD.1 a
   by_cases b:zeP h=Xc
   ·rw[kE b]
    simp[c,b,d]
    exact e
   rw[kF b]
   simp[d,b]
  rw[kF a];simp only[a,d,false_or,false_iff];exact fun h=>a (zjD.2 h.2.1)
 rw[kF c]
 simp[d,c]
theorem Qm {t:List (List En)}:tbW t=0↔∀h∈t,ziY h:=by
 induction t with
 | nil=>simp[tbW]
 | cons h t b=>
  unfold tbW
  by_cases a:haW h=0
  ·rw[kE a,b]
   simp[zju.1 a]
  rw[kF a];simp only[a,mC,forall_eq_or_imp,false_iff];exact fun b=>a (zju.2 b.1)
structure ZU (t:List (List En)):Prop where
 len:t.length=8
 ok:∀h∈t,ziY h
theorem ZU.half {t:List (List En)} (h:ZU t) (i:Nat):ziY (t[i]?.getD []):=by
 cases a:t[i]? with
 | none=>exact .inl rfl
 | some x=>exact h.ok x (mG a)
theorem ziY.get {h:List En} (a:ziY h) (k:Nat):enW (h[k]?.getD en0)=0:=by
 rcases a with rfl|⟨_,a,_⟩
 ·exact QP
 cases b:h[k]? with
 | none=>exact QP
 | some x=>exact a x (mG b)
theorem ZU.get {t:List (List En)} (h:ZU t) (i k:Nat):enW (zdt t i k)=0:=(h.half i).get k
theorem zfx {h:List En} (a:ziY h):(zbo h).length=8:=by
 unfold zbo
 rcases a with rfl|⟨a,_⟩
 ·rfl
 rw[kF (by omega)]
 exact a
theorem zqt (h:List En) (a:ziY h) {k:Nat} (b:k<8):(zbo h)[k]? =Xa (h[k]?.getD en0):=by
 unfold zbo
 rcases a with rfl|⟨a,_⟩
 ·rw[kE (show([]:List En).length=0 from rfl),Oe,kE b]
  rfl
 rw[kF (by omega),gE (by omega)]
 rfl
theorem zoU (h:List En) (k:Nat):(zbo h)[k]?.getD en0=h[k]?.getD en0:=by
 unfold zbo
 by_cases a:h.length=0
 ·rw[kE a];have:h=[]:=Od.1 a;subst this;rw[Oe]
  split <;> rfl
 rw[kF a]
theorem zpw (l:List En) (b:∀e∈l,enW e=0) (k:Nat):(mk l)[k]?.getD en0=l[k]?.getD en0:=by
 unfold mk
 by_cases h:zeP l=Xc
 ·rw[kE h]
 rw[kF h]
 cases c:l[k]? with
 | none=>simp
 | some x=>
  have a:=mG c;have:enS x=Xd:=by
   cases c:enS x with
   | false=>rfl
   | true=>exact absurd (Ym.2 ⟨x,a,c⟩) h
  simp[zni (b x a) this]
theorem zrb {l:List En} (a:l.length=8) (b:∀e∈l,enW e=0):ziY (mk l):=by
 unfold mk
 by_cases h:zeP l=Xc
 ·rw[kE h];exact .inr ⟨a,b,h⟩
 rw[kF h];exact .inl rfl
theorem zp8 {h:List En} (a:ziY h):mk (zbo h)=h:=by
 unfold mk zbo
 rcases a with rfl|⟨a,_,a⟩
 ·rfl
 rw[kF (show¬h.length=0 by omega),kE a]
theorem zez {h:List En} (b:ziY h):∀e∈zbo h,enW e=0:=fun e a=>by
 unfold zbo at a
 rcases b with rfl|⟨b,b,_⟩
 ·simp at a
  rw[a];exact QP
 rw[kF (by omega)]at a
 exact b e a
theorem zf8 {l:List En} {k:Nat} {e:En} (b:∀x∈l,enW x=0) (a:enW e=0):∀x∈l.set k e,enW x=0:=fun x c=>by
 rcases Yx c with h|h
 ·exact b x h
 rw[h];exact a
theorem zpX {t:List (List En)} (h:ZU t) {n:Nat} {e:En} (b:enW e=0):ZU (zhl t n e):=by
 refine⟨by simp[zhl,h.len],fun x a=>?_⟩
 rcases Yx a with a|a
 ·exact h.ok x a
 rw[a];have a:=h.half (n / 8);exact zrb (by rw[Yo];exact zfx a) (zf8 (zez a) b)
theorem zoT {t:List (List En)} (h:ZU t) {n:Nat} (b:n<64) {e:En} (a:enW e=0) (i k:Nat) (d:k<8):zdt (zhl t n e) i k=if i=n / 8/\k=n % 8 then e else zdt t i k:=by
 unfold zdt zhl;have c:=h.half (n / 8)
 by_cases b:i=n / 8
 ·subst b;rw[sF (by rw[h.len];omega)]
  simp only[Option.getD_some];rw[zpw _ (zf8 (zez c) a)]
  by_cases a:k=n % 8
  ·subst a;rw[sF (by rw[zfx c];exact d)]
   simp
  rw[sN (fun h=>a h.symm),kF (fun h=>a h.2)]
  exact zoU _ k
 rw[sN (fun h=>b h.symm),kF (fun h=>b h.1)]
theorem zll {l:List En} {h:List En} (b:ziY h) {i:Nat} (c:∀k,k<8->l[8*i+k]? =Xa (h[k]?.getD en0)):zcB l i=zbo h:=by
 apply Yb
 intro k
 by_cases a:k<8
 ·unfold zcB;rw[Ud,Ov a,zqt h b a]
  simp[c k a]
 rw[gN (by simp[zcB];omega),gN (by rw[zfx b];omega)]
theorem zkb {l:List En} {t:List (List En)} (h:ZU t) (c:∀j,j<64->l[j]? =Xa (zdt t (j / 8) (j % 8))):Qt l=t:=by
 apply Yb
 intro i
 by_cases a:i<8
 ·unfold Qt;rw[Ud,Ov a];obtain⟨x,b⟩:∃x,t[i]? =Xa x:=⟨_,gE (by rw[h.len];omega)⟩
  have a:=h.half i;rw[b]at a⊢;simp only[Option.getD_some]at a;have:zcB l i=zbo x:=zll a (fun k d=>by
   rw[c _ (by omega),show(8*i+k) / 8=i by omega,show(8*i+k) % 8=k by omega]
   unfold zdt;rw[b]
   rfl)
  simp[this,zp8 a]
 rw[gN (by simp[Qt];omega),gN (by rw[h.len];omega)]
theorem JL (t:List (List En)) (f:En->Bool) (m:Nat):z6 t f (m+1)=if enS (zdt t (m / 8) (m % 8)) && f (zdt t (m / 8) (m % 8))then z6 t f m++ [(m:Int)]else z6 t f m:=by
 unfold z6;rw[List.range_succ,Oz,List.map_append]
 split
 ·rename_i h
  simp[h]
 rename_i h
 simp[h]
theorem zaG (t:List (List En)) (f:En->Bool):∀m,(z6 t f m).length<=m
 | 0=>by simp[z6]
 | m+1=>by
  rw[JL];have:=zaG t f m
  split
  ·simp;omega
  omega
structure Ar where
 fr:Int
 tz:Int
 rd:Bool
 wr:Bool
 sh:Bool
 file:Int
 base:Int
structure On where
 is:Bool
 rd:Bool
 wr:Bool
 sh:Bool
 file:Int
 page:Int
def on0:On:=⟨Xd,Xd,Xd,Xd,0,0⟩
def ar0:Ar:=⟨0,0,Xd,Xd,Xd,0,0⟩
def jN (a:Ar):Prop:=0<=a.fr/\a.fr<a.tz/\a.tz<=64/\-1<=a.file/\a.file<5/\0<=a.base/\(a.file<0->a.base=0/\a.sh=Xd)/\(0<=a.file->a.base<=12 -(a.tz - a.fr))
def arW (a:Ar):Int:=
 if a.fr<0\/a.tz<=a.fr\/64<a.tz\/a.file< -1\/5<=a.file\/a.base<0 then 3
 else if a.file<0 then(if a.base≠0\/a.sh=Xc then 7 else 0)
 else if 12 -(a.tz - a.fr)<a.base then 7 else 0
theorem zbA {a:Ar}:arW a=0↔jN a:=by
 unfold arW jN;obtain⟨fr,tz,rd,wr,sh,file,base⟩:=a;simp only;constructor
 ·intro h
  (repeat' split at h) <;> first | omega | skip
  rename_i h1 h2 h3
  cases sh
  ·simp at h3⊢
   omega
  simp at h3
 intro⟨h1,h2,h3,h4,h5,h6,h7,h8⟩;rw[kF (by omega)]
 by_cases h9:file<0
 ·rw[kE h9,kF (by rintro(h | h);exact h (h7 h9).1;rw[(h7 h9).2]at h;cases h)]
 rw[kF h9,kF (by omega)]
def goB (a b:Ar):Bool:=decide (a.fr=b.tz) &&(a.rd == b.rd) &&(a.wr == b.wr) &&(a.sh == b.sh) && decide (a.file=b.file) && decide (a.base=if 0<=b.file then b.base+(b.tz - b.fr)else b.base)
theorem zmY {a b:Ar}:goB a b=Xc↔a.fr=b.tz/\a.rd=b.rd/\a.wr=b.wr/\a.sh=b.sh/\a.file=b.file/\a.base=if 0<=b.file then b.base+(b.tz - b.fr)else b.base:=by
 simp[goB,and_assoc]
def zqP (b a:Ar):Prop:=b.tz<=a.fr/\goB a b=Xd
def Qz:Option Ar->List Ar->Prop
 | _,[]=>True
 | p,a :: l=>jN a/\(∀b,p=Xa b->zqP b a)/\Qz (Xa a) l
def Jk (a:Ar) (n:Nat):Bool:=decide (a.fr<=(n:Int)) && decide ((n:Int)<a.tz)
theorem ja {a:Ar} {n:Nat}:Jk a n=Xc↔a.fr<=(n:Int)/\(n:Int)<a.tz:=by simp[Jk]
theorem zdQ {a:Ar} {n:Nat} (h:¬(a.fr<=(n:Int)/\(n:Int)<a.tz)):Jk a n=Xd:=by
 cases b:Jk a n with
 | false=>rfl
 | true=>exact absurd (ja.1 b) h
def qg (a:Ar) (n:Nat):On:=⟨Xc,a.rd,a.wr,a.sh,a.file,if 0<=a.file then a.base+((n:Int) - a.fr)else 0⟩
def zD:List Ar->Nat->On
 | [],_=>on0
 | a :: l,n=>if Jk a n=Xc then qg a n else zD l n
def Jz (n:Nat) (x:On):Ar:=if x.is=Xc then⟨n,n+1,x.rd,x.wr,x.sh,x.file,x.page⟩else ar0
theorem Qz.low:∀{l:List Ar} {p:Option Ar} {a:Ar} {n:Nat},Qz p l->p=Xa a->(n:Int)<a.tz->zD l n=on0
 | [],_,_,_,_,_,_=>rfl
 | b :: l,p,a,n,h,hp,c=>by
  have c:=h.2.1 a hp;have d:=h.1;unfold zqP at c;unfold jN at d;unfold zD;rw[kF (by rw[ja];omega)]
  exact h.2.2.low rfl (by omega)
theorem Qz.head {l:List Ar} {p:Option Ar} {a:Ar} {n:Nat} (h:Qz p (a :: l)) (b:(n:Int)<a.fr):zD (a :: l) n=on0:=by
 have b:=h.1;unfold jN at b;unfold zD;rw[kF (by rw[ja];omega)]
 exact h.2.2.low rfl (by omega)
theorem Q6 {a:Ar} {l:List Ar} {n:Nat} (h:a.fr<=(n:Int)) (b:(n:Int)<a.tz):zD (a :: l) n=qg a n:=by
 unfold zD;rw[kE (by rw[ja];omega)]
theorem zcG {a:Ar} {l:List Ar} {n:Nat} (h:(n:Int)<a.fr\/a.tz<=(n:Int)):zD (a :: l) n=zD l n:=by
 rw[zD,kF (by rw[ja];omega)]
theorem zji (a) (n:Nat):(qg a n).is=Xc:=rfl
theorem zgn {a:Ar} {n:Nat} (h:qg a n=on0):False:=by
 have:=congrArg On.is h
 simp[on0,qg]at this
theorem Qz.next {l:List Ar} {a b:Ar} {n:Nat} (h:Qz (Xa a) l) (d:(n:Int)=a.tz) (hb:zD l n=qg b n):∃c m,l=c :: m/\c.fr=(n:Int)/\qg c n=qg b n/\zqP a c:=by
 cases l with
 | nil=>exact(zgn hb.symm).elim
 | cons c m=>
  have d:=h.2.1 a rfl;have e:=h.1;unfold jN at e
  by_cases e:(n:Int)<c.fr
  ·rw[h.head e]at hb;exact(zgn hb.symm).elim
  have:c.fr=(n:Int):=by unfold zqP at d;omega
  rw[Q6 (by omega) (by omega)]at hb
  exact⟨c,m,rfl,this,hb,d⟩
theorem zjj {a b:Ar} {n:Nat} (h:qg a n=qg b n):a.rd=b.rd/\a.wr=b.wr/\a.sh=b.sh/\a.file=b.file/\(0<=a.file->a.base+((n:Int) - a.fr)=b.base+((n:Int) - b.fr)):=by
 unfold qg at h;simp only[On.mk.injEq,true_and]at h;obtain⟨d,e,f,g,c⟩:=h;refine⟨d,e,f,g,fun d=>?_⟩
 rw[kE d,kE (by omega)]at c
 exact c
theorem zpA {p:Option Ar} {l m:List Ar} {a b:Ar} (d:Qz p (a :: l)) (hb:Qz p (b :: m)) (g:∀n:Nat,n<64->zD (a :: l) n=zD (b :: m) n) (e:a.fr=b.fr) (c:a.rd=b.rd/\a.wr=b.wr/\a.sh=b.sh/\a.file=b.file/\a.base=b.base):¬a.tz<b.tz:=by
 intro e;have e:=d.1;have f:=hb.1;unfold jN at e f;obtain⟨n,h⟩:∃n:Nat,(n:Int)=a.tz:=⟨a.tz.toNat,by omega⟩
 have e:=g n (by omega)
 rw[zcG (by omega),Q6 (a:=b) (by omega) (by omega)]at e
 obtain⟨f,k,rfl,g,i,j⟩:=d.2.2.next h e;obtain⟨e,g,h,k,k⟩:=zjj i;have i:=d.2.2.1;unfold jN at i;have:goB f a=Xc:=by
  rw[zmY];refine⟨by omega,by rw[e,c.1],by rw[g,c.2.1],by rw[h,c.2.2.1],by omega,?_⟩
  split <;> omega
 rw[j.2]at this;cases this
theorem znz:∀{l m:List Ar} {p:Option Ar},Qz p l->Qz p m->(∀n:Nat,n<64->zD l n=zD m n)->l=m
 | [],[],_,_,_,_=>rfl
 | [],b :: m,_,_,f,d=>by
  have g:=f.1;unfold jN at g;have:=d b.fr.toNat (by omega)
  rw[Q6 (a:=b) (by omega) (by omega)]at this
  exact(zgn this.symm).elim
 | c :: l,[],_,e,_,d=>by
  have g:=e.1;unfold jN at g;have:=d c.fr.toNat (by omega)
  rw[Q6 (a:=c) (by omega) (by omega)]at this
  exact(zgn this).elim
 | c :: l,b :: m,p,e,f,d=>by
  have y:=e.1;have g:=f.1;unfold jN at y g;have s:c.fr=b.fr:=by
   rcases Int.lt_trichotomy c.fr b.fr with h|h|h
   ·have:=d c.fr.toNat (by omega)
    rw[Q6 (a:=c) (by omega) (by omega),f.head (by omega)]at this
    exact(zgn this).elim
   ·exact h
   have:=d b.fr.toNat (by omega)
   rw[Q6 (a:=b) (by omega) (by omega),e.head (by omega)]at this
   exact(zgn this.symm).elim
  have v:=d c.fr.toNat (by omega)
  rw[Q6 (a:=c) (by omega) (by omega),Q6 (a:=b) (by omega) (by omega)]at v
  obtain⟨i,j,k,q,x⟩:=zjj v;have r:c.base=b.base:=by
   rcases Int.lt_or_le c.file 0 with h|h
   ·omega
   have:=x h;omega
  have w:c.tz=b.tz:=by
   have z:=zpA e f d s ⟨i,j,k,q,r⟩;have A:=zpA f e (fun n u=>(d n u).symm) s.symm ⟨i.symm,j.symm,k.symm,q.symm,r.symm⟩
   omega
  have t:c=b:=by
   obtain⟨_,_,_,_,_,_,_⟩:=c;obtain⟨_,_,_,_,_,_,_⟩:=b;simp only at s w i j k q r;subst s w i j k q r;rfl
  subst t;have:l=m:=znz e.2.2 f.2.2 fun n u=>by
   by_cases h:(n:Int)<c.tz
   ·rw[e.2.2.low rfl h,f.2.2.low rfl h]
   have:=d n u;rw[zcG (by omega),zcG (by omega)]at this
   exact this
  rw[this]
def zaM (p:Option Ar) (l:List Ar):Option Ar:=match l.getLast? with | some b=>Xa b | none=>p
theorem zbR (p:Option Ar) (a l):zaM p (a :: l)=zaM (Xa a) l:=by
 unfold zaM
 cases l with
 | nil=>simp
 | cons b m=>simp[Ua]
theorem JZ {x:Ar}:∀{l:List Ar} {p:Option Ar},Qz p (l++ [x])↔Qz p l/\jN x/\∀b,zaM p l=Xa b->zqP b x
 | [],p=>by simp[Qz,zaM]
 | a :: l,p=>by
  simp only[List.cons_append,Qz,zbR,JZ (l:=l) (p:=some a),and_assoc]
theorem JM {x:Ar} {n:Nat}:∀{l:List Ar},zD l n=on0\/Jk x n=Xd->zD (l++ [x]) n=if Jk x n=Xc then qg x n else zD l n
 | [],_=>by simp[zD]
 | a :: l,h=>by
  simp only[List.cons_append,zD]
  by_cases b:Jk a n=Xc
  ·rcases h with h|h
   ·rw[zD,kE b]at h;exact(zgn h).elim
   simp[b,h]
  rw[kF b,kF b];exact JM (h.imp (fun h=>by rwa [zD,kF b]at h) id)
theorem zba {n:Nat}:∀{l:List Ar},(∀a∈l,Jk a n=Xd)->zD l n=on0
 | [],_=>rfl
 | a :: l,h=>by
  rw[zD,kF (by rw[h a (by simp)];simp)]
  exact zba fun b hb=>h b (by simp[hb])
theorem zdd {n:Nat}:∀{l:List Ar},(zD l n).is=Xc->∃(i:Nat) (a:Ar),l[i]? =Xa a/\Jk a n=Xc/\zD l n=qg a n
 | [],h=>by cases h
 | a :: l,h=>by
  by_cases c:Jk a n=Xc
  ·exact⟨0,a,rfl,c,by rw[zD,kE c]⟩
  rw[zD,kF c]at h;obtain⟨i,b,d,e,f⟩:=zdd h;exact⟨i+1,b,d,e,by rw[zD,kF c,f]⟩
theorem zmw {n:Nat}:∀{l:List Ar},(zD l n).is=Xd->zD l n=on0
 | [],_=>rfl
 | a :: l,h=>by
  by_cases b:Jk a n=Xc
  ·rw[zD,kE b]at h;cases h
  rw[zD,kF b]at h⊢;exact zmw h
theorem Qz.all {l:List Ar}:∀{p:Option Ar},Qz p l->∀a∈l,jN a:=by
 induction l with
 | nil=>intro p _ a b;cases b
 | cons b l c=>
  intro p h x b
  rcases mC.1 b with e|b
  ·rw[e];exact h.1
  exact c h.2.2 _ b
def zpt (f:Nat->On):Prop:=∀k:Nat,k<64->((f k).is=Xd->f k=on0)/\((f k).is=Xc->jN (Jz k (f k)))
theorem zjh {a:Ar} {n:Nat} (h:jN a) (b:Jk a n=Xc):jN (Jz n (qg a n)):=by
 have:=ja.1 b;unfold jN at h⊢;unfold Jz;rw[kE (zji a n)];unfold qg;refine⟨by simp,by simp;omega,by simp;omega,h.2.2.2.1,h.2.2.2.2.1,?_,fun b=>⟨?_,(h.2.2.2.2.2.2.1 b).2⟩,fun b=>?_⟩
 ·simp only
  split <;> omega
 ·simp only at b⊢;rw[kF (by omega)]
 simp only at b⊢;rw[kE b];omega
theorem Qz.good {l:List Ar} {p:Option Ar} (h:Qz p l):zpt (zD l):=fun k _=>⟨zmw,fun b=>by
 obtain⟨i,a,c,d,e⟩:=zdd b;rw[e];exact zjh (h.all a (mG c)) d⟩
def J (f:Nat->On) (n:Nat) (acc:List Ar):Prop:=Qz Xb acc/\(∀a∈acc,a.tz<=(n:Int))/\∀k:Nat,zD acc k=if k<n then f k else on0
theorem J.zero (f:Nat->On):J f 0 []:=⟨trivial,by simp,fun k=>by simp[zD]⟩
theorem J.skip {f:Nat->On} {n:Nat} {a:List Ar} (h:J f n a) (b:f n=on0):J f (n+1) a:=by
 refine⟨h.1,fun a c=>by have:=h.2.1 a c;omega,fun k=>?_⟩
 rw[h.2.2 k]
 by_cases a:k<n
 ·rw[kE a,kE (by omega)]
 rw[kF a]
 by_cases a:k=n
 ·subst a;rw[kE (by omega),b]
 rw[kF (by omega)]
theorem zpp (n:Nat) (x:On) (h:x.is=Xc) (hp:x.file<0->x.page=0):qg (Jz n x) n=x:=by
 unfold Jz;rw[kE h];unfold qg;obtain⟨_,_,_,_,_,_⟩:=x;simp only at h hp⊢;subst h;simp only[On.mk.injEq,true_and]
 split
 ·omega
 exact(hp (by omega)).symm
theorem ziR {n k:Nat} {x:On} (h:x.is=Xc):Jk (Jz n x) k=Xc↔k=n:=by
 rw[ja];unfold Jz;rw[kE h];simp only;omega
theorem J.new {f:Nat->On} {n:Nat} {a:List Ar} (h:J f n a) (e:zpt f) (g:n<64) (d:(f n).is=Xc) (l:∀b,a.getLast? =Xa b->goB (Jz n (f n)) b=Xd):J f (n+1) (a++ [Jz n (f n)]):=by
 have c:=(e n g).2 d;have g:qg (Jz n (f n)) n=f n:=zpp n _ d fun e=>by
  unfold jN Jz at c;rw[kE d]at c;exact(c.2.2.2.2.2.2.1 e).1
 refine⟨JZ.2 ⟨h.1,c,fun b i=>?_⟩,fun j c=>?_,fun k=>?_⟩
 ·have e:a.getLast? =Xa b:=by
   unfold zaM at i
   split at i
   ·rename_i a;rw[a];exact i
   cases i
  refine⟨?_,l b e⟩;have:=h.2.1 b (List.mem_of_getLast? e);unfold Jz;rw[kE d];exact this
 ·rcases Yn.1 c with c|c
  ·have:=h.2.1 j c;omega
  rw[Ub]at c;subst c;unfold Jz;rw[kE d];simp
 have a:=h.2.2 k;rw[JM]
 ·by_cases e:k=n
  ·subst e;rw[kE ((ziR d).2 rfl),kE (by omega),g]
  rw[kF (fun c=>e ((ziR d).1 c)),a]
  by_cases c:k<n
  ·rw[kE c,kE (by omega)]
  rw[kF c,kF (by omega)]
 by_cases e:k=n
 ·left;rw[a,kF (by omega)]
 right
 cases a:Jk (Jz n (f n)) k with
 | false=>rfl
 | true=>exact absurd ((ziR d).1 a) e
theorem J.ext {f:Nat->On} {n:Nat} {i:List Ar} {b:Ar} (h:J f n (i++ [b])) (hg:zpt f) (hn:n<64) (hs:(f n).is=Xc) (hgo:goB (Jz n (f n)) b=Xc):J f (n+1) (i++ [{ b with tz:=(n:Int)+1 }]):=by
 have hok:=(hg n hn).2 hs;obtain⟨h1,h2,h3⟩:=h;obtain⟨c1,c2,c3⟩:=JZ.1 h1;have hgo':=zmY.1 hgo;unfold Jz at hgo' hok;rw[kE hs]at hgo' hok;simp only at hgo';obtain⟨g1,g2,g3,g4,g5,g6⟩:=hgo';have c2':=c2;unfold jN at c2' hok;simp only at hok;have hlow:∀k:Nat,b.fr<=(k:Int)->zD i k=on0:=fun k hk=>by
  refine zba fun a ha=>zdQ ?_
  have:a.tz<=b.fr:=by
   have hstep:∀(l:List Ar) (p:Option Ar),Qz p l->∀x∈l,∀y,zaM p l=Xa y->x.tz<=y.tz:=by
    intro l
    induction l with
    | nil=>intro p _ x hx;cases hx
    | cons c m ih=>
     intro p hc x hx y hy;rw[zbR]at hy
     rcases mC.1 hx with rfl|hx
     ·cases m with
      | nil=>simp[zaM]at hy;subst hy;exact Int.le_refl _
      | cons d k'=>
       have q1:=ih (Xa x) hc.2.2 d (by simp) y hy
       have q2:=hc.2.2.2.1 x rfl;have q3:=hc.2.2.1;unfold zqP at q2;unfold jN at q3;omega
     exact ih (Xa c) hc.2.2 x hx y hy
   cases hlast:zaM Xb i with
   | none=>
    unfold zaM at hlast
    cases i with
    | nil=>cases ha
    | cons _ _=>simp[Ua]at hlast
   | some y=>
    have q1:=hstep i Xb c1 a ha y hlast;have q2:=(c3 y hlast).1;omega
  omega
 refine⟨JZ.2 ⟨c1,?_,fun y hy=>?_⟩,fun a ha=>?_,fun k=>?_⟩
 ·unfold jN;simp only;refine⟨by omega,by omega,by omega,by omega,by omega,by omega,fun h=>c2'.2.2.2.2.2.2.1 h,fun h=>?_⟩
  rw[kE h]at g6;omega
 ·exact⟨(c3 y hy).1,(c3 y hy).2⟩
 ·rcases Yn.1 ha with ha|ha
  ·have:=h2 a (by simp[ha]);omega
  rw[Ub]at ha;subst ha;simp
 have e1:=h3 k;rw[JM (by
  by_cases hk:b.fr<=(k:Int)
  ·exact .inl (hlow k hk)
  exact .inr (zdQ (by omega)))]at e1
 rw[JM (by
  by_cases hk:b.fr<=(k:Int)
  ·exact .inl (hlow k hk)
  exact .inr (zdQ (by simp only;omega)))]
 by_cases hk:k=n
 ·subst hk;rw[kE (by rw[ja];simp only;omega),kE (by omega)]
  unfold qg;simp only;have hx:=hok.2.2.2.2.2.2.1
  revert hs g2 g3 g4 g5 g6 hx
  generalize f k=x
  obtain⟨_,_,_,_,_,_⟩:=x;intro hs g2 g3 g4 g5 g6 hx;simp only at hs g2 g3 g4 g5 g6 hx⊢;subst hs g2 g3 g4;simp only[On.mk.injEq,true_and];refine⟨g5.symm,?_⟩
  split
  ·rename_i h;rw[kE h]at g6;omega
  exact(hx (by omega)).1.symm
 have e2:Jk { b with tz:=(n:Int)+1 } k=Jk b k:=by
  unfold Jk;simp only
  congr 1
  apply decide_eq_decide.2
  omega
 rw[e2];have e3:qg { b with tz:=(n:Int)+1 } k=qg b k:=rfl;rw[e3,e1]
 by_cases h5:k<n
 ·rw[kE h5,kE (by omega)]
 rw[kF h5,kF (by omega)]
def zfl (f:Nat->On):Nat->List Ar
 | 0=>[]
 | n+1=>
  if(f n).is=Xc then
   match(zfl f n).getLast? with
   | some b=>if goB (Jz n (f n)) b=Xc then(zfl f n).dropLast++ [{ b with tz:=(n:Int)+1 }]else zfl f n++ [Jz n (f n)]
   | none=>zfl f n++ [Jz n (f n)]
  else zfl f n
theorem zpU {l:List Ar} {b:Ar} (h:l.getLast? =Xa b):l=l.dropLast++ [b]:=by
 cases l with
 | nil=>cases h
 | cons a m=>
  rw[List.getLast?_eq_some_getLast (List.cons_ne_nil a m)]at h;cases h;exact(List.dropLast_concat_getLast _).symm
theorem zmN {f:Nat->On} (c:zpt f):∀n:Nat,n<=64->J f n (zfl f n)
 | 0,_=>J.zero f
 | n+1,a=>by
  have d:=zmN c n (by omega)
  unfold zfl
  by_cases b:(f n).is=Xc
  ·rw[kE b]
   cases e:(zfl f n).getLast? with
   | none=>exact d.new c (by omega) b (fun g a=>by rw[e]at a;cases a)
   | some g=>
    simp only
    by_cases a:goB (Jz n (f n)) g=Xc
    ·rw[kE a];rw[zpU e]at d;exact d.ext c (by omega) b a
    rw[kF a];refine d.new c (by omega) b (fun g g=>?_)
    rw[e]at g;cases g
    simpa using a
  rw[kF b];exact d.skip ((c n (by omega)).1 (by simpa using b))
def zd6 (f:Nat->On):List Ar:=zfl f 64
theorem zio {f:Nat->On} (a:zpt f):J f 64 (zd6 f):=zmN a 64 (nR _)
theorem J.all {f:Nat->On} {a:List Ar} (h:J f 64 a) (b:zpt f):a=zd6 f:=
 znz h.1 (zio b).1 fun n _=>by rw[h.2.2,(zio b).2.2]
theorem J.len {f:Nat->On} {n:Nat} {a:List Ar} (i:J f n a):a.length<=n:=by
 have h:∀(l:List Ar) (p:Option Ar) (c:Int),Qz p l->(∀b,p=Xa b->c<=b.tz)->(p=Xb->c<=0)->(∀d∈l,d.tz<=(n:Int))->c<=n->c+l.length<=n:=by
  intro l
  induction l with
  | nil=>intro p c _ _ _ _ k;simpa using k
  | cons d l m=>
   intro p c e l g j k;have k:=e.1;unfold jN at k;have k:c<=d.fr:=by
    cases p with
    | none=>have:=g rfl;omega
    | some b=>have:=l b rfl;have:=(e.2.1 b rfl).1;omega
   have g:=m (Xa d) (c+1) e.2.2 (fun b c=>by cases c;omega) (fun c=>by cases c) (fun x e=>j x (by simp[e])) (by have:=j d (by simp);omega)
   rw[Yr];omega
 have:=h a Xb 0 i.1 (fun b c=>by cases c) (fun _=>by omega) i.2.1 (by omega)
 omega
theorem zij:∀(l:List Ar) (p:Option Ar),Qz p l->∀x∈l,∀y,zaM p l=Xa y->x=y\/x.tz<=y.fr
 | [],_,_,_,a,_,_=>by cases a
 | c :: m,p,f,x,a,y,b=>by
  rw[zbR]at b
  rcases mC.1 a with e|a
  ·cases m with
   | nil=>simp[zaM]at b;left;rw[e,b]
   | cons d g=>
    right;have h:=f.2.2.2.1 c rfl;have i:=f.2.2.1;unfold zqP at h;unfold jN at i;rw[e]
    rcases zij (d :: g) (Xa c) f.2.2 d (by simp) y b with g|g
    ·rw[<-g];exact h.1
    omega
  exact zij m (Xa c) f.2.2 x a y b
def zb8:Option Ar->List Ar->Nat->Int × Int
 | _,[],_=>(0,0)
 | p,a :: l,i=>
  if arW a≠0 then(arW a,i)
  else match p with
   | some b=>if a.fr<b.tz\/goB a b=Xc then(2,i)else zb8 (Xa a) l (i+1)
   | none=>zb8 (Xa a) l (i+1)
def wrL (l:List Ar):Int × Int:=if 16<l.length then(4,0)else zb8 Xb l 0
theorem zcT:∀{l:List Ar} {p:Option Ar} {i:Nat},(zb8 p l i).1=0↔Qz p l
 | [],p,i=>by simp[zb8,Qz]
 | a :: l,p,i=>by
  unfold zb8 Qz
  by_cases h:arW a=0
  ·rw[kF (fun c=>c h)]
   cases p with
   | none=>simp[zcT (l:=l),zbA.1 h]
   | some b=>
    simp only
    by_cases c:a.fr<b.tz\/goB a b=Xc
    ·rw[kE c];simp only[Option.some.injEq,forall_eq'];constructor
     ·intro d;exact absurd d (by decide)
     rintro⟨_,⟨d,e⟩,_⟩
     rcases c with c|c
     ·omega
     rw[e]at c;cases c
    rw[kF c,zcT];simp only[Option.some.injEq,forall_eq',zbA.1 h,true_and];constructor
    ·intro d;exact⟨⟨by omega,by cases e:goB a b with | false=>rfl | true=>exact absurd (.inr e) c⟩,d⟩
    exact fun d=>d.2
  rw[kE h];constructor
  ·intro c;exact absurd c h
  intro c;exact absurd (zbA.2 c.1) h
theorem J6 {l:List Ar}:(wrL l).1=0↔l.length<=16/\Qz Xb l:=by
 unfold wrL
 by_cases h:16<l.length
 ·rw[kE h];constructor
  ·intro a;exact absurd a (by decide)
  intro a;omega
 rw[kF h,zcT];exact⟨fun a=>⟨by omega,a⟩,fun a=>a.2⟩
def zoH (l:List Ar) (a:Ar):Nat->On:=fun k=>if Jk a k=Xc then qg a k else zD l k
def zlT (s n:Int) (k:Nat):Bool:=decide (s<=(k:Int)) && decide ((k:Int)<s+n)
theorem zj6 {s n:Int} {k:Nat}:zlT s n k=Xc↔s<=(k:Int)/\(k:Int)<s+n:=by simp[zlT]
def zlD (f:Nat->On):List Ar × Int:=if 16< (zd6 f).length then([],4)else(zd6 f,0)
def zqW (l:List Ar) (s n:Int):Bool:=(Xy 64).any fun k=>zlT s n k &&(zD l k).is
def zhn (l:List Ar) (a:Ar):List Ar × Int:=if(wrL l).1≠0 then([],(wrL l).1)else if arW a≠0 then([],arW a)else if zqW l a.fr (a.tz - a.fr)=Xc then([],6)else zlD (zoH l a)
theorem zqn {l:List Ar} {s n:Int}:zqW l s n=Xd↔∀k:Nat,k<64->(s<=(k:Int)/\(k:Int)<s+n)->(zD l k).is=Xd:=by
 simp only[zqW,Yy,Xt,Xv,zj6,not_and,Bool.not_eq_true]
theorem zmF {l:List Ar} {a:Ar} (e:Qz Xb l) (c:jN a):zpt (zoH l a):=fun k d=>by
 unfold zoH
 by_cases h:Jk a k=Xc
 ·rw[kE h];exact⟨fun b=>(by cases b),fun _=>zjh c h⟩
 rw[kF h];exact e.good k d
structure Sp where
 live:Bool
 ars:List Ar
 tb:List (List En)
structure Ca where
 file:Int
 idx:Int
 fr:Int
structure Ma where
 fs:List Fr
 hand:Int
 sl:List Int
 sb:List (List Int)
 sq:List (Int × List Int)
 db:List (List Int)
 dq:List (Int × List Int)
 fl:List Fl
 cnt:Int
 ca:List Ca
 sp:List Sp
def zu:List Int->Int
 | []=>0
 | e :: l=>if e=0 then zu l else e
theorem zp:∀{l:List Int},zu l=0↔∀e∈l,e=0
 | []=>by simp[zu]
 | e :: l=>by
  unfold zu
  by_cases h:e=0
  ·rw[kE h,zp]
   simp[h]
  rw[kF h]
  simp[h]
def J4 (m:Ma):Int:=if(Xy m.db.length).any (fun(b:Nat)=>!qe m.fl (b:Int) && !(m.db.getD b [] == z4))=Xc then 7 else 0
def JJ (m:Ma):Int:=if m.dq.any (fun q=>!qe m.fl q.1)=Xc then 7 else 0
def spE (s:Sp):Int:=if(wrL s.ars).1≠0 then(wrL s.ars).1 else if tbW s.tb≠0 then tbW s.tb else if(!s.live &&(!s.ars.isEmpty || !s.tb.all (·.isEmpty)))=Xc then 7 else 0
def zlB (m:Ma):Int:=if m.sl.length≠m.sb.length\/m.cnt≠(m.db.length:Int)then 7 else 0
def zam (m:Ma):Int:=zu [Zb m.fs m.hand,slW m.sl,zS m.sb.length m.sq,zS m.db.length m.dq,stW m.fl m.cnt,zlB m,J4 m,JJ m,if 4<m.sp.length then 4 else 0,zu (m.sp.map spE)]
def bkN (m:Ma) (file:Int):Int:=((m.fl.getD file.toNat ⟨0,[]⟩).bl.length:Nat)
def zQ (m:Ma) (k:Int):Fr:=m.fs.getD k.toNat frF
def z5 (c:Ca):Int:=100*c.file+c.idx
def caE (m:Ma) (p:Option Ca) (c:Ca):Int:=
 if c.file<0\/(m.fl.length:Int)<=c.file\/c.idx<0\/bkN m c.file<=c.idx\/c.fr<0\/(m.fs.length:Int)<=c.fr then 3
 else if(zQ m c.fr).r=0\/(zQ m c.fr).f≠c.file\/(zQ m c.fr).x≠c.idx then 7
 else match p with | some q=>(if z5 c<=z5 q then 2 else 0) | none=>0
def zb4 (m:Ma):Option Ca->List Ca->Int
 | _,[]=>0
 | p,c :: l=>if caE m p c=0 then zb4 m (Xa c) l else caE m p c
def zdD (m:Ma) (x:On) (e:En):Int:=
 if x.is=Xd then 5
 else if e.kind=2 then(if(m.sl.length:Int)<=e.n\/x.sh=Xc then 7 else 0)
 else if(m.fs.length:Int)<=e.n then 3
 else if(¬(zQ m e.n).f=-1/\¬(0<=x.file/\(zQ m e.n).f=x.file/\(zQ m e.n).x=x.page))\/(x.sh=Xc/\¬(0<=x.file/\(zQ m e.n).f=x.file/\(zQ m e.n).x=x.page))\/(e.wr=Xc/\x.wr=Xd)\/(e.wr=Xc/\(0<=x.file/\(zQ m e.n).f=x.file/\(zQ m e.n).x=x.page)/\x.sh=Xd)\/(e.wr=Xc/\(zQ m e.n).f=-1/\1< (zQ m e.n).r)then 7 else 0
def ze (s:Sp) (n:Nat):En:=zdt s.tb (n / 8) (n % 8)
def zd3 (m:Ma) (s:Sp):Int:=zu ((Xy 64).map fun n=>if(ze s n).kind=0 then 0 else zdD m (zD s.ars n) (ze s n))
def isE (e:En) (kind k:Int):Bool:=decide (e.kind=kind) && decide (e.n=k)
def Zd (f:Nat->En) (kind k:Int):Nat->Nat
 | 0=>0
 | n+1=>Zd f kind k n+(isE (f n) kind k).toNat
def qv (T:List (Nat->En)) (kind k:Int):Nat:=(T.map fun f=>Zd f kind k 64).sum
def zdn (m:Ma) (kind k:Int):Nat:=qv (m.sp.map ze) kind k
def zO (ca:List Ca) (k:Int):Nat:=ca.countP fun c=>decide (c.fr=k)
def frE (m:Ma) (k:Nat):Int:=if(zQ m k).r≠((zdn m 1 k+zO m.ca k:Nat):Int)\/(0<=(zQ m k).f/\zO m.ca k=0)then 7 else 0
def zhX (m:Ma) (k:Nat):Int:=if m.sl.getD k 0≠(zdn m 2 k:Int)then 7 else 0
def maW (m:Ma):Int:=zu [zam m,zb4 m Xb m.ca,zu (m.sp.map (zd3 m)),zu ((Xy m.fs.length).map (frE m)),zu ((Xy m.sl.length).map (zhX m))]
def Jm (f:Nat->En) (n:Nat) (e:En):Nat->En:=fun j=>if j=n then e else f j
theorem znx (f:Nat->En) {n:Nat} (e) (kind k:Int):∀m:Nat,Zd (Jm f n e) kind k m+(if n<m then(isE (f n) kind k).toNat else 0)=Zd f kind k m+(if n<m then(isE e kind k).toNat else 0)
 | 0=>by simp[Zd]
 | m+1=>by
  have b:=znx f e kind k (n:=n) m;unfold Zd
  by_cases h:n=m
  ·subst h;rw[kF (Nat.lt_irrefl _),kF (Nat.lt_irrefl _)]at b;rw[kE (Nat.lt_succ_self _),kE (Nat.lt_succ_self _)];have:Jm f n e n=e:=by unfold Jm;rw[kE rfl]
   rw[this];omega
  have:Jm f n e m=f m:=by unfold Jm;rw[kF (fun a=>h a.symm)]
  rw[this]
  by_cases a:n<m
  ·rw[kE a,kE a]at b;rw[kE (by omega),kE (by omega)]
   omega
  rw[kF a,kF a]at b;rw[kF (by omega),kF (by omega)]
  omega
theorem ZP:∀{T:List (Nat->En)} {p:Nat} {f:Nat->En} {n:Nat} (e:En) (kind k:Int),T[p]? =Xa f->n<64->qv (T.set p (Jm f n e)) kind k+(isE (f n) kind k).toNat=qv T kind k+(isE e kind k).toNat
 | [],p,f,n,e,kind,k,h,_=>by simp at h
 | g :: T,0,f,n,e,kind,k,h,a=>by
  simp at h
  subst h;have:=znx g e kind k (n:=n) 64;rw[kE a,kE a]at this;simp only[sZ,qv,mP,Oy];omega
 | g :: T,p+1,f,n,e,kind,k,h,a=>by
  have b:=ZP (T:=T) (p:=p) (f:=f) (n:=n) e kind k (by simpa using h) a
  simp only[sS,qv,mP,Oy]at b⊢;omega
theorem zpD (f:Nat->En) (kind k:Int):∀m:Nat,Zd f kind k m<=m
 | 0=>nR _
 | m+1=>by
  have:=zpD f kind k m;unfold Zd
  cases isE (f m) kind k <;> simp <;> omega
theorem zdp:∀(T:List (Nat->En)) (kind k:Int),qv T kind k<=64*T.length
 | [],_,_=>by simp[qv]
 | f :: T,kind,k=>by
  have a:=zpD f kind k 64;have a:=zdp T kind k;simp only[qv,mP,Oy,Yr]at a⊢;omega
theorem jq (kind k:Int) (h:kind≠0):isE en0 kind k=Xd:=by
 have:¬en0.kind=kind:=fun e=>h e.symm
 simp[isE,this]
theorem zaf {T:List (Nat->En)} {p:Nat} {f:Nat->En} {n:Nat} {kind k:Int} (a:T[p]? =Xa f) (c:n<64) (h:isE (f n) kind k=Xc) (b:kind≠0):1<=qv T kind k:=by
 have:=ZP en0 kind k a c;rw[h,jq kind k b]at this
 simp at this
 omega
theorem zfs {T:List (Nat->En)} {p q:Nat} {f g:Nat->En} {n:Nat} {kind k:Int} (a:T[p]? =Xa f) (m:n<64) (h:isE (f n) kind k=Xc) (d:T[q]? =Xa g) (l:j<64) (i:isE (g j) kind k=Xc) (c:p≠q\/n≠j) (b:kind≠0):2<=qv T kind k:=by
 have e:=ZP en0 kind k a m;rw[h,jq kind k b]at e
 simp at e
 have m:=(gS.1 a).1
 by_cases e:q=p
 ·subst e;rw[a]at d;cases d;have a:1<=qv (T.set q (Jm f n en0)) kind k:=by
   refine zaf (p:=q) (f:=Jm f n en0) (n:=j) (sF m) l ?_ b;have:j≠n:=fun e=>(c.resolve_left (fun h=>h rfl)) e.symm
   unfold Jm;rw[kF this];exact i
  omega
 have a:1<=qv (T.set p (Jm f n en0)) kind k:=zaf (p:=q) (f:=g) (n:=j) (by rw[sN (fun h=>e h.symm)];exact d) l i b
 omega
end
section
open Go.RowKit
def zb (w w':Xn):Prop:=Below w.heap.size w w'
theorem zb.refl (w):zb w w:=bR _ _
theorem zb.trans {a b c:Xn} (h:zb a b) (k:zb b c):zb a c:=Below.trans h (k.mono h.size)
def zR (P:Program) (o:Oper) (a:Act) (w:Xn) (K:Xq->Xn->Prop):Prop:=
 match(execOp a.eval o).run P w with
 | .ok (.value v) w'=>K v w'
 | .ok .skip w'=>K undef w'
 | .ok (.enter f args) w'=>Xp P f args w' fun e w''=>∃v,e= Xl v/\K v w''
 | _=>False
theorem zR.wp {P:Program} {a:Act} {w:Xn} {K:Xq->Xn->Prop} {next:Act->Xn->Prop}
  (h:zR P o a w K) (b:∀v w',K v w'->next (a.put o.dst v) w'):o.wp P a w next Q:=by
 unfold zR at h;unfold Oper.wp
 generalize(execOp a.eval o).run P w=r at*
 cases r with
 | ok n w'=>
  cases n <;> simp only[Oper.upon]at h⊢
  case value v=>exact b _ _ h
  case skip=>exact b _ _ h
  case enter f c=>exact h.mono fun e c ⟨v,c,d⟩=>by subst c;exact b _ _ d
 | halt x w'=>simp only at h
def zk9 (ops:Array Oper) (i j:Nat):Bool:=((ops[j]?).map fun o=>o.after.any fun e=>Ue .any e && e.on == i).getD Xd
def anc (ops:Array Oper):Nat->Nat->Nat->Bool
 | 0,_,_=>Xd
 | f+1,i,j=>zk9 ops i j || (Xy j).any fun k=>zk9 ops k j && anc ops f i k
theorem zR.mono {P:Program} {a:Act} {w:Xn} {K c:Xq->Xn->Prop} (h:zR P o a w K) (b:∀v w',K v w'->c v w'):zR P o a w c:=by
 unfold zR at*
 generalize(execOp a.eval o).run P w=r at*
 cases r with
 | ok n w'=>
  cases n <;> simp only at h⊢
  case value v=>exact b _ _ h
  case skip=>exact b _ _ h
  case enter f c=>exact h.mono fun e c ⟨v,c,d⟩=>⟨v,c,b _ _ d⟩
 | halt x w'=>simp only at h
def zdu (F:Nat->Xn->Prop) (k:Nat) (p:Xn->Prop):Nat->Xn->Prop:=fun i=>if i=k then p else F i
section
variable{P:Program} {ops:Array Oper} {T:Nat}
theorem ZR {F:Nat->Xn->Prop} {k m:Nat} {p:Xn->Prop} (h:m≠k):zdu F k p m=F m:=by simp[zdu,h]
theorem zm1 {F:Nat->Xn->Prop} {i:Nat} {p q:Xn->Prop} (h:i≠j):zdu (zdu F i p) j q=zdu (zdu F j q) i p:=by
 funext m
 simp only[zdu]
 by_cases a:m=j
 ·by_cases b:m=i
  ·omega
  simp[a];intro b;omega
 simp[a]
theorem zdE {i:Nat} (a:ops[j]? =Xa o):zk9 ops i j=Xc↔∃e∈o.after,Ue .any e=Xc/\e.on=i:=by
 unfold zk9;rw[a,Option.map_some,Option.getD_some,Array.any_eq_true'];simp
theorem zgT {i:Nat} (h:zk9 ops i j=Xc):∃a,ops[j]? =Xa a:=by
 cases b:ops[j]? with
 | none=>simp[zk9,b]at h
 | some a=>exact⟨a,rfl⟩
def zg8 (ops:Array Oper) (listed:Array Bool):Prop:=∀i j,listed.getD j Xd=Xc->zk9 ops i j=Xc->listed.getD i Xd=Xc
theorem QT {a:Array Bool} (b:zg8 ops a):∀(f i j:Nat),(∀k,zk9 ops k j=Xc->a.getD k Xd=Xc)->anc ops f i j=Xc->a.getD i Xd=Xc
 | 0,_,_,_,h=>by simp[anc]at h
 | f+1,i,j,c,h=>by
  simp only[anc,Ol,Ym,Xt,Xv]at h
  rcases h with h|⟨k,_,a,h⟩
  ·exact c i h
  exact QT b f i k (fun m d=>b m k (c k a) d) h
theorem JS {a:Array Bool} {i:Nat} (h:a.getD i Xc=Xd):a.getD i Xd=Xd:=by
 rcases Yc i a.size with a | a
 ·simp[a]at h⊢;exact h
 simp[Array.getElem?_eq_none a]at h
end
def Q9 (ops:Array Oper) (T:Nat):Bool:=
 Region.noSelect ops && decide (T<=ops.size) &&(Xy ops.size).all fun j=>match ops[j]? with
  | none=>Xd
  | some oj=>oj.after.all (fun e=>!Ue .any e || decide (e.on<j)) &&
    (if j<T then(Xy j).all fun i=>zk9 ops i j || (match ops[i]? with | some oi=>oi.apart ops oj | none=>Xd)else(Xy j).all fun i=>anc ops j i j)
def z8 (listed:Array Bool) (T:Nat):List Nat:=(Xy T).filter fun i=>listed.getD i Xc == Xd
section
variable{P:Program} {ops:Array Oper} {T:Nat}
theorem zac (b:Q9 ops T=Xc) (a:ops[j]? =Xa oj):∀i,zk9 ops i j=Xc->i<j:=by
 simp only[Q9,Xv,Ye,Xt]at b;have h:=b.2 j (aS.1 a).1;simp only[a,Xv]at h;intro i d;obtain⟨e,c,b,rfl⟩:=(zdE a).1 d;have:=Array.all_eq_true_iff_forall_mem.1 h.1 e c
 simpa [b]using this
theorem zii (a:Q9 ops T=Xc) (c:ops[j]? =Xa oj) (d:j<T):∀i,i<j->zk9 ops i j=Xc\/∃b,ops[i]? =Xa b/\b.apart ops oj=Xc:=by
 simp only[Q9,Xv,Ye,Xt]at a;have h:=a.2 j (aS.1 c).1;simp only[c,Xv,kE d,Ye,Xt]at h;intro i a;have:=h.2 i a;rw[Ol]at this
 rcases this with a|a
 ·exact Or.inl a
 right
 cases c:ops[i]? with
 | none=>simp[c]at a
 | some b=>simp only[c]at a;exact⟨b,rfl,a⟩
theorem zeu (a:Q9 ops T=Xc) (b:ops[j]? =Xa oj) (c:T<=j):∀i,i<j->anc ops j i j=Xc:=by
 simp only[Q9,Xv,Ye,Xt]at a;have h:=a.2 j (aS.1 b).1;simp only[b,Xv,kF (Nat.not_lt.2 c),Ye,Xt]at h;exact h.2
theorem znN (a:Q9 ops T=Xc):∀(f i j:Nat),anc ops f i j=Xc->i<j
 | 0,_,_,h=>by simp[anc]at h
 | f+1,i,j,h=>by
  simp only[anc,Ol,Ym,Xt,Xv]at h
  rcases h with h|⟨k,b,_,h⟩
  ·obtain⟨oj,b⟩:=zgT h;exact zac a b i h
  have:=znN a f i k h;omega
theorem zaY {a:Array Bool} (b:j<a.size):z8 (a.setIfInBounds j Xc) T=(z8 a T).filter (· != j):=by
 unfold z8;rw[List.filter_filter];refine List.filter_congr fun i a=>?_
 by_cases h:j=i
 ·subst h
  simp[b]
 rw[getD_set_ne Xc h];have:(i != j)=Xc:=by simpa using Ne.symm h
 rw[this,Bool.true_and]
theorem ziv {a:Array Bool} {i:Nat} (hi:i<a.size) (h:a.getD i Xc=Xc):a.getD i Xd=Xc:=by
 simp[hi]at h⊢;exact h
theorem zj3 (z:Q9 ops T=Xc):∀(m:Nat) (l:List Oper) (k:Nat) (b:Array Bool) (a:Act) (w:Xn),T<=k->b.size=ops.size->k+m=ops.size->l.length=m->(∀j,l[j]? =ops[k+j]?)->
  (∀i,i<k->b.getD i Xc=Xc)->(∀i,k<=i->i<ops.size->b.getD i Xc=Xd)->wpList P ops Q l a w->wpAny P .any ops Q m b a w:=by
 intro m
 induction m with
 | zero=>
  intro l k b a w n v p x g d c h;have:l=[]:=eN x;subst this;refine⟨?_,h⟩
  cases s:Og .any ops b with
  | nil=>rfl
  | cons f e=>
   have t:f∈Og .any ops b:=by rw[s];simp
   obtain⟨r,e,q,_⟩:=mem_ready.1 t;have t:=(aS.1 q).1;rw[d f (by omega)]at r
   cases r
 | succ m F=>
  intro l k b a w n v p x g d c h;obtain⟨e,q,rfl⟩:∃e q,l=e :: q:=by
   cases l with
   | nil=>simp at x
   | cons e q=>exact⟨e,q,rfl⟩
  have f:ops[k]? =Xa e:=by have:=g 0;simpa using this.symm
  have p:k∈Og .any ops b:=by
   refine mem_ready.2 ⟨c k (nR _) (by omega),e,f,fun n B A=>?_⟩
   have t:=zac z f n.on ((zdE f).2 ⟨n,B,A,rfl⟩);exact ziv (by omega) (d n.on t)
  refine⟨fun s=>?_,fun j u=>?_⟩
  ·rw[s]at p;cases p
  obtain⟨r,e,e,s⟩:=mem_ready.1 u;have p:=(aS.1 e).1;have p:k<=j:=by
   rcases Yc j k with p|p
   ·rw[d j p]at r;cases r
   exact p
  have C:j=k:=by
   rcases Yc k j with p|p
   ·exfalso;have D:=zeu z e (by omega) k p
    have E:zg8 ops b:=fun i p y r=>by
     obtain⟨u,u⟩:=zgT r;have t:=zac z u i r;have r:p<k:=by
      rcases Yc p k with r|r
      ·exact r
      have:=JS (c p r (aS.1 u).1);rw[this]at y;cases y
     exact ziv (by omega) (d i (by omega))
    have:=QT E j k j (fun p y=>by
     obtain⟨n,B,A,rfl⟩:=(zdE e).1 y;exact s n B A) D
    rw[JS (c k (nR _) (by omega))]at this
    cases this
   omega
  subst C;rw[f]at e;cases e;unfold wpList at h;unfold wpOp;simp only[f];have e:∀a w,wpList P ops Q q a w->wpAny P .any ops Q m (b.setIfInBounds j Xc) a w:=fun a w f=>
   F q (j+1) _ a w (by omega) (by simp[v]) (by omega) (by simpa using x) (fun p=>by have:=g (p+1);rw[Of]at this;rw[this];congr 1;omega)
    (fun i g=>by
     by_cases n:j=i
     ·subst n
      simp[show j<b.size by omega]
     rw[getD_set_ne Xc n];exact d i (by omega))
    (fun i g b=>by rw[getD_set_ne Xc (by omega)];exact c i (by omega) b) f
  split
  ·rename_i b
   rw[kE b]at h
   rcases h with h|h
   ·exact .inl (Oper.wp_mono e h)
   exact .inr h
  rename_i b
  rw[kF b]at h;exact e _ _ h
structure Way {σ:Type} (P:Program) (ops:Array Oper) (C:Nat->σ->Act->(σ->Act->Prop)->Prop) (Ln:Nat->σ->Prop) (ok:Array Bool->σ->Act->Xn->Prop):Prop where
 mono:∀{i:Nat} {F:σ} {a:Act} {K K':σ->Act->Prop},(∀F' a',(∀j,anc ops 9 i j=Xd->Ln j F->Ln j F')->K F' a'->K' F' a')->C i F a K->C i F a K'
 swap:∀{i j:Nat} {oi oj:Oper} {F:σ} {a:Act} {K:σ->Act->Prop},ops[i]? =Xa oi->ops[j]? =Xa oj->i<j->oi.apart ops oj=Xc->(∀cs b,oi.op≠.select cs b)->(∀cs b,oj.op≠.select cs b)->anc ops 9 i j=Xd->anc ops 9 j i=Xd->Ln j F->C i F a (fun F' a'=>C j F' a' K)->C j F a fun F' a'=>C i F' a' K
 lean:∀{listed:Array Bool} {F:σ} {a:Act} {w:Xn} (j:Nat),ok listed F a w->Ln j F
 step:∀{listed:Array Bool} {F:σ} {a:Act} {w:Xn} {j:Nat} {oj:Oper} {K:σ->Act->Prop} {N:Act->Xn->Prop} {Q:Exit->Act->Xn->Prop},listed.size=ops.size->ops[j]? =Xa oj->listed.getD j Xc=Xd->zg8 ops listed->ok listed F a w->C j F a K->
  (∀F' a' w',ok (listed.setIfInBounds j Xc) F' a' w'->K F' a'->N a' w')->if Xs oj (yielded ops a.tmps)then oj.wp P a w N Q else N (a.put oj.dst undef) w
section
variable{σ:Type} {C:Nat->σ->Act->(σ->Act->Prop)->Prop} {Ln:Nat->σ->Prop} {ok:Array Bool->σ->Act->Xn->Prop} {E:σ->Act->Prop}
variable(C E)in
def Lex:List Nat->σ->Act->Prop
 | [],F,a=>E F a
 | i :: l,F,a=>C i F a (Lex l)
theorem Lex.commute (W:Way P ops C Ln ok) {j:Nat} {oj:Oper} (t:ops[j]? =Xa oj) (d:∀(k:Nat) (o:Oper) cs b,ops[k]? =Xa o->o.op≠.select cs b):
  ∀(l:List Nat) (F:σ) (a:Act),l.Nodup->j∈l->
   (∀i∈l,i≠j->∃r,ops[i]? =Xa r/\(i<j->r.apart ops oj=Xc)/\anc ops 9 i j=Xd/\(i<j->anc ops 9 j i=Xd))->
   (l.Pairwise (·< ·))->Ln j F->Lex C E l F a->Lex C E (j :: l.filter (· != j)) F a
 | [],_,_,_,h,_,_,_,_=>by cases h
 | i :: l,F,a,p,h,g,c,v,u=>by
  by_cases e:i=j
  ·subst e;have:(i :: l).filter (· != i)=l:=by
    rw[List.filter_cons];simp only[bne_self_eq_false,Yg,if_false];refine Ow.2 fun x m=>?_
    have:x≠i:=fun f=>(Yt.1 p).1 (f ▸ m)
    simpa using this
   rw[this];exact u
  have n:j∈l:=by
   rcases mC.1 h with f|f
   ·exact absurd f.symm e
   exact f
  have h:=(Yw.1 c).1 j n;obtain⟨r,q,s,f,m⟩:=g i (by simp) e
  have w:(i :: l).filter (· != j)=i :: l.filter (· != j):=by
   rw[List.filter_cons];have:(i != j)=Xc:=by simpa using e
   simp[this]
  rw[w];refine W.swap q t h (s h) (fun cs b=>d i r cs b q) (fun cs b=>d j oj cs b t) f (m h) v ?_
  refine W.mono (fun h m e q=>?_) u
  exact Lex.commute W t d l h m (Yt.1 p).2 n (fun k d=>g k (by simp[d])) (Yw.1 c).2 (e j f v) q
theorem zfY (W:Way P ops C Ln ok) {Q':Exit->Act->Xn->Prop} {l:List Oper} {m:Nat} (p:Q9 ops T=Xc) (f:T+m=ops.size) (h:l.length=m) (e:∀j,l[j]? =ops[T+j]?) (n:∀b F a w,ok b F a w->E F a->wpList P ops Q' l a w):
  ∀(d:Nat) (b:Array Bool) (F:σ) (a:Act) (w:Xn),b.size=ops.size->(∀i,T<=i->i<ops.size->b.getD i Xc=Xd)->(z8 b T).length=d->zg8 ops b->ok b F a w->
   Lex C E (z8 b T) F a->wpAny P .any ops Q' (d+m) b a w:=by
 have A:=Region.noSelect_spec (ops:=ops) (by simp only[Q9,Xv]at p;exact p.1.1)
 intro d
 induction d with
 | zero=>
  intro b F a w k g z v G D;have c:=eN z;rw[c]at D;rw[zA];refine zj3 p m l T b a w (nR _) k f h e (fun i y=>?_) g (n _ _ _ _ G D)
  cases f:b.getD i Xc with
  | true=>rfl
  | false=>
   have:i∈z8 b T:=Xu.2 ⟨Xt.2 y,by simp only[f,beq_self_eq_true]⟩
   rw[c]at this;cases this
 | succ d R=>
  intro b F a w k g z v G D;rw[Nat.add_right_comm];refine⟨fun u=>?_,fun j H=>?_⟩
  ·exfalso
   cases s:z8 b T with
   | nil=>simp[s]at z
   | cons x S=>
    have K:x∈z8 b T:=by rw[s];simp
    have h:=Xu.1 K;have L:=Xt.1 h.1;have c:x<ops.size:=by omega
    have t:=Ya c;have c:(z8 b T).Pairwise (·< ·):=List.Pairwise.filter _ Oh;have:x∈Og .any ops b:=by
     refine mem_ready.2 ⟨by simpa using h.2,ops[x],t,fun r q B=>?_⟩
     have e:zk9 ops r.on x=Xc:=(zdE t).2 ⟨r,q,B,rfl⟩;have n:=zac p t _ e
     cases f:b.getD r.on Xc with
     | true=>exact ziv (by omega) f
     | false=>
      have e:r.on∈z8 b T:=Xu.2 ⟨Xt.2 (by omega),by simp only[f,beq_self_eq_true]⟩
      rw[s]at e c
      rcases mC.1 e with e|e
      ·omega
      have:=(Yw.1 c).1 _ e;omega
    rw[u]at this;cases this
  obtain⟨M,e,e,u⟩:=mem_ready.1 H;have f:=(aS.1 e).1;have f:∀t,zk9 ops t j=Xc->b.getD t Xd=Xc:=fun t H=>by
   obtain⟨r,q,B,rfl⟩:=(zdE e).1 H;exact u r q B
  have u:j<T:=by
   rcases Yc j T with r|r
   ·exact r
   exfalso
   cases s:z8 b T with
   | nil=>simp[s]at z
   | cons x S=>
    have K:x∈z8 b T:=by rw[s];simp
    have h:=Xu.1 K;have L:=Xt.1 h.1;have:=QT v j x j f (zeu p e r x (by omega))
    rw[JS (by simpa using h.2)]at this
    cases this
  have x:j∈z8 b T:=Xu.2 ⟨Xt.2 u,by simp only[M,beq_self_eq_true]⟩
  have z:(z8 b T).Nodup:=List.Pairwise.filter _ List.nodup_range;have c:(z8 b T).Pairwise (·< ·):=List.Pairwise.filter _ Oh;have s:=Lex.commute W e A (z8 b T) F a z x (fun i y h=>by
   have h:=Xu.1 y;have B:b.getD i Xd=Xd:=JS (by simpa using h.2)
   have F:i<ops.size:=by have:=Xt.1 h.1;omega
   have A:=Ya F;refine⟨ops[i],A,fun n=>?_,?_,fun n=>?_⟩
   ·rcases zii p e u i n with q|⟨n,n,u⟩
    ·have:=f i q;rw[B]at this;cases this
    rw[A]at n;cases n;exact u
   ·cases n:anc ops 9 i j with
    | false=>rfl
    | true=>
     have:=QT v 9 i j f n;rw[B]at this;cases this
   cases n:anc ops 9 j i with
   | false=>rfl
   | true=>
    have:=znN p 9 j i n
    omega) c (W.lean j G) D
  have p:(b.setIfInBounds j Xc).size=ops.size:=by simp[k]
  have n:∀i,T<=i->i<ops.size->(b.setIfInBounds j Xc).getD i Xc=Xd:=fun i y h=>by rw[getD_set_ne Xc (by omega)];exact g i y h
  have g:(z8 (b.setIfInBounds j Xc) T).length=d:=by
   rw[zaY (by omega)]
   have q:(z8 b T).filter (· != j)=(z8 b T).erase j:=by
    rw[List.Nodup.erase_eq_filter z]
   rw[q,List.length_erase_of_mem x];omega
  have q:zg8 ops (b.setIfInBounds j Xc):=fun i t H c=>by
   by_cases h:j=t
   ·subst h;exact getD_set_true (f i c)
   rw[getD_set_ne Xd h]at H;exact getD_set_true (v i t H c)
  rw[<-zaY (by omega)]at s
  have c:=W.step (Q:=Q') (N:=wpAny P .any ops Q' (d+m) (b.setIfInBounds j Xc)) k e M v G s fun b d h r f=>R _ b d h p n g q r f
  unfold wpOp;simp only[e]
  split
  ·rename_i b
   rw[kE b]at c;exact .inl c
  rename_i b
  rw[kF b]at c;exact c
variable(ops C E)in
structure zhj (l:List Oper) (k:Nat) (F:σ) (a:Act):Prop where
 out:(∀j,l[j]? =ops[k+j]?\/l.length<=j)->Lex C E (List.range' k l.length) F a
theorem zhj.cons {rest:List Oper} {k:Nat} {F:σ} {a:Act} (c:∀{i:Nat} {F:σ} {a:Act} {K b:σ->Act->Prop},(∀d f,K d f->b d f)->C i F a K->C i F a b) (h:ops[k]? =Xa o->C k F a (zhj ops C E rest (k+1))):zhj ops C E (o :: rest) k F a:=⟨fun g=>by
 have l:ops[k]? =Xa o:=by
  rcases g 0 with e|e
  ·simpa using e.symm
  simp at e
 have b:∀j,rest[j]? =ops[k+1+j]?\/rest.length<=j:=fun j=>by
  rcases g (j+1)with e|e
  ·left;rw[Of]at e;rw[e];congr 1;omega
  right;simpa using e
 exact c (fun d f c=>c.out b) (h l)⟩
theorem zlR {a:Act} {w:Xn} {l r:List Oper} {F:σ} (W:Way P L.toArray C Ln ok) (T:Nat) (e:P.follows .mixedOrders=Xc) (p:Q9 L.toArray T=Xc) (g:L.take T=l) (h:L.drop T=r) (d:T<=L.length) (n:∀b:Array Bool,ok b F a w.drew)
  (q:∀b F a w,ok b F a w->E F a->wpList P L.toArray Q r a w) (c:zhj L.toArray C E l 0 F a):(Code.region id L.toArray Xc).wp P Q a w:=by
 have b:l.length=T:=by rw[<-g,List.length_take];omega
 have d:r.length=L.length - T:=by rw[<-h,List.length_drop]
 refine wp_region_any e ?_;have k:z8 (Array.replicate L.toArray.size Xd) T=Xy T:=by
  unfold z8;refine Ow.2 fun i f=>?_
  have:i<T:=by simpa using f
  simp[show i<L.length by omega]
 have e:=c.out (fun j=>by
  rcases Yc j T with c|c
  ·left;rw[<-g,List.getElem?_take_of_lt c];simp
  right;omega)
 rw[b,<-Oo]at e;have b:=zfY (E:=E) W (T:=T) (l:=r) (m:=L.length - T) (Q':=Q) p (by simp;omega) d (fun j=>by rw[<-h,Uc];simp) q
  T (Array.replicate L.toArray.size Xd) F a w.drew (by simp) (fun i f d=>by simp at d;simp[d]) (by rw[k];simp) (fun i j c _=>by
   exfalso;rw[Array.getD_eq_getD_getElem?,Array.getElem?_replicate]at c
   split at c <;> simp at c)
  (n _) (by rw[k];exact e)
 have c:T+(L.length - T)=L.toArray.size:=by simp;omega
 rw[c]at b;exact b
end
end
theorem zab {α:Type}:∀{S:List (Nat × α)} {k:Nat} {s:α},S.lookup k=Xa s->∃x∈S,x.2=s/\x.1=k
 | [],k,s,h=>by simp at h
 | x :: S,k,s,h=>by
  rw[List.lookup_cons]at h
  split at h
  ·rename_i a
   exact⟨x,by simp,by simpa using h,(by simpa using a:k=x.1).symm⟩
  obtain⟨y,b,a⟩:=zab h;exact⟨y,by simp[b],a⟩
structure zg (w0:Xn) where
 world:Xn
 grew:zb w0 world
def zoa (o:Oper):Bool:=
 match o.op with
 | .move _ | .assign _ | .pick .. | .build .. | .load .. | .binOp .. | .unOp .. | .convert .. | .fieldAddr .. | .field .. | .indexAddr .. | .index .. | .extract .. | .slice .. | .lookup ..=>Xc
 | .call { callee:= .builtin .len,.. } | .call { callee:= .builtin .cap,.. } | .call { callee:= .builtin .max,.. } | .call { callee:= .builtin .min,.. }=>Xc
 | _=>Xd
theorem zbI {P:Program} {α:Type} {s:Sem α} {g:α->Xq} {w:Xn} {n:Next}:(s >>= fun v=>pure (Next.value (g v))).run P w= .ok n w'->∃v,n= .value v:=by
 intro h;rw[Xx]at h
 cases a:s.run P w with
 | ok x b=>simp[a,Result.andThen,Yd]at h;exact⟨_,h.1.symm⟩
 | halt x b=>simp[a,Result.andThen]at h
structure zk (I:Xn->Prop) where
 world:Xn
 holds:I world
section
variable{P:Program} {o:Oper} {a:Act}
theorem zka (b:zoa o=Xc) {a:Operand->Xq} {w w':Xn} {n:Next}:(execOp a o).run P w= .ok n w'->∃v,n= .value v:=by
 obtain⟨a,c,a,a,a,a⟩:=o
 cases c <;> simp only[zoa,Yg]at b <;> simp only[execOp]
 all_goals first
  | exact zbI (g:=id)
  | exact zbI
  | (intro h;simp[Yd]at h;exact⟨_,h.1.symm⟩)
  | skip
 rename_i d
 obtain⟨a,c,c⟩:=d
 cases a with
 | value _=>simp at b
 | invoke _ _=>simp at b
 | builtin a=>
  cases a <;> simp only[Yg]at b <;> simp only[resolve,pure_bind,invoke,builtin] <;> exact zbI (g:=id)
theorem za5 (f:zoa o=Xc) {U:Xn->Prop} {K:Act->Prop} (h:o.quiet P a U K):∃v,(∀w,U w->(execOp a.eval o).run P w= .ok (.value v) w)/\K (a.put o.dst v):=by
 obtain⟨v,c,b⟩:=h;refine⟨v,fun w d=>?_,b⟩
 have b:=c w d;unfold Oper.quietAt at b;have c:=fun n e=>@zka P o f a.eval w e n
 generalize(execOp a.eval o).run P w=r at*
 cases r with
 | ok n e=>
  cases n <;> simp only[Oper.quietUpon]at b
  case value u=>rw[b.1,b.2]
  case skip=>obtain⟨_,d⟩:=c _ _ rfl;cases d
  case enter f f=>obtain⟨_,d⟩:=c _ _ rfl;cases d
 | halt x e=>simp only[Oper.quietUpon]at b
theorem zi7 {w:Xn} (x p) (b:o.op= .nilCheck x) (c:a.eval x= Xj (Xa p)):(execOp a.eval o).run P w= .ok (.value (Xj (Xa p))) w:=by
 simp[execOp,b,c]
theorem zR.call {w:Xn} {K:Xq->Xn->Prop} {f:FuncId} {xs:List Operand} {ts:Array TypeId} {fn:Func} (args)
  (ho : o.op = .call { callee := .value (.func f), args := xs.toArray, argTypes := ts }) (hf : P.funcs[f]? = some fn) (hb : fn.body.isNone = false) (hn : (fn.name == "runtime.NumGoroutine") = false)
  (ha:xs.map a.eval=args) (h:Xp P f args.toArray w fun e w'=>∃v,e= Xl v/\K v w'):zR P o a w K:=by
 have hr:(execOp a.eval o).run P w= .ok (.enter f args.toArray) w:=by
  have he : a.eval (.func f) = .func (.func f) #[] #[] := rfl;simp only [execOp, ho, resolve, he, List.map_toArray, ha, Deferred.ofValue, pure_bind, invoke];have hn' : fn.name ≠ "runtime.NumGoroutine" := by simpa using hn
  have hb':fn.body≠Xb:=fun e=>by rw[e]at hb;cases hb
  simp[callFunc,hf,hb',hn',program,Xx,Sem.run]
 unfold zR;rw[hr];exact h
end
structure zfM where
 arg:Operand
 pv:Xq->Prop
 post:Xq->Xq->Xn->Prop
 step:Xn->Xn->Prop
 pre:Xn->Prop:=fun _=>True
section
variable(I:Xn->Prop) (P:Program) (ops:Array Oper) (S:Nat->Option zfM)
def q4 (i:Nat) (F:Nat->Xn->Prop) (a:Act) (K:(Nat->Xn->Prop)->Act->Prop):Prop:=
 match ops[i]? with
 | none=>False
 | some o=>
  if Xs o (yielded ops a.tmps)then
   match S i with
   | none=>∃v,(∀w,I w->(∀m,anc ops 9 m i=Xc->F m w)->(execOp a.eval o).run P w= .ok (.value v) w)/\K F (a.put o.dst v)
   | some s=>(∀w,I w->s.pre w->(∀m,anc ops 9 m i=Xc->F m w)->zR P o a w fun v w'=>I w'/\s.step w w'/\s.pv v/\s.post (a.eval s.arg) v w')/\∀v,s.pv v->K (zdu F i (s.post (a.eval s.arg) v)) (a.put o.dst v)
  else K F (a.put o.dst undef)
end
section
variable{I:Xn->Prop} {P:Program} {ops:Array Oper} {S:Nat->Option zfM} {J:Act->Xn->Prop}
theorem q4.mono {i:Nat} {F:Nat->Xn->Prop} {a:Act} {K d:(Nat->Xn->Prop)->Act->Prop}
  (h:∀c e,(∀m,m≠i->c m=F m)->K c e->d c e) (b:q4 I P ops S i F a K):q4 I P ops S i F a d:=by
 unfold q4 at*
 split
 ·rename_i c;simp only[c]at b
 rename_i d c
 simp only[c]at b
 split
 ·rename_i d
  simp only[d,if_true]at b
  split
  ·rename_i c
   simp only[c]at b;obtain⟨v,e,f⟩:=b;exact⟨v,e,h _ _ (fun _ _=>rfl) f⟩
  rename_i s c
  simp only[c]at b;exact⟨b.1,fun v e=>h _ _ (fun m c=>ZR c) (b.2 v e)⟩
 rename_i d
 simp only[d]at b;exact h _ _ (fun _ _=>rfl) b
theorem q4.swap {i:Nat} {c:Oper} {F:Nat->Xn->Prop} {a:Act} {K:(Nat->Xn->Prop)->Act->Prop} {w:Xn}
  (hi:ops[i]? =Xa c) (y:ops[j]? =Xa oj) (E:i≠j) (n:c.apart ops oj=Xc)
  (p:∀cs b,c.op≠.select cs b) (r:∀cs b,oj.op≠.select cs b)
  (u:∀k s o,S k=Xa s->ops[k]? =Xa o->∀d,s.arg= .tmp d->d∈o.looksAt ops) (q:anc ops 9 i j=Xd) (l:anc ops 9 j i=Xd) (hS:∀s,S i=Xa s->∃v,s.pv v)
  (B:I w) (H:∀m,anc ops 9 m j=Xc->F m w)
  (h:q4 I P ops S i F a fun e f=>q4 I P ops S j e f K):q4 I P ops S j F a fun e f=>q4 I P ops S i e f K:=by
 obtain⟨f,G,g⟩:=Oper.apart_spec n;have t:∀v,execOp (a.put oj.dst v).eval c=execOp a.eval c:=fun v=>execOp_put c p a oj.dst v g
 have x:∀v,execOp (a.put c.dst v).eval oj=execOp a.eval oj:=fun v=>execOp_put oj r a c.dst v f
 have M:∀v,Xs c (yielded ops (a.put oj.dst v).tmps)=Xs c (yielded ops a.tmps):=fun v=>wanted_put c a oj.dst v g
 have N:∀v,Xs oj (yielded ops (a.put c.dst v).tmps)=Xs oj (yielded ops a.tmps):=fun v=>wanted_put oj a c.dst v f
 have z:∀v w K,zR P c (a.put oj.dst v) w K=zR P c a w K:=fun v w K=>by unfold zR;rw[t]
 have A:∀v w K,zR P oj (a.put c.dst v) w K=zR P oj a w K:=fun v w K=>by unfold zR;rw[x]
 have C:∀v s,S i=Xa s->(a.put oj.dst v).eval s.arg=a.eval s.arg:=fun v s p=>Act.eval_put fun d n e=>g d n (u i s c p hi d e)
 have D:∀v s,S j=Xa s->(a.put c.dst v).eval s.arg=a.eval s.arg:=fun v s p=>Act.eval_put fun d n e=>f d n (u j s oj p y d e)
 have L:∀v u,(a.put c.dst v).put oj.dst u=(a.put oj.dst u).put c.dst v:=fun v u=>Act.put_comm a v u G
 have u:∀n,(fun m=>anc ops 9 m i=Xc->zdu F j n m w=F m w)=fun _=>True:=fun n=>by
  funext m
  simp only[eq_iff_iff,iff_true];intro e;rw[ZR (fun f=>by subst f;rw[l]at e;cases e)]
 have p:∀n g,(∀m,anc ops 9 m i=Xc->zdu F j n m g)↔(∀m,anc ops 9 m i=Xc->F m g):=fun n g=>by
  constructor <;> intro r m e <;> have:=r m e
  ·rwa [ZR (fun f=>by subst f;rw[l]at e;cases e)]at this
  rwa [ZR (fun f=>by subst f;rw[l]at e;cases e)]
 have l:∀n g,(∀m,anc ops 9 m j=Xc->zdu F i n m g)↔(∀m,anc ops 9 m j=Xc->F m g):=fun n g=>by
  constructor <;> intro r m e <;> have:=r m e
  ·rwa [ZR (fun f=>by subst f;rw[q]at e;cases e)]at this
  rwa [ZR (fun f=>by subst f;rw[q]at e;cases e)]
 clear u;unfold q4 at h⊢;simp only[hi,y,t,x,M,N,z,A,L]at h⊢
 cases e:Xs c (yielded ops a.tmps) <;> cases c:Xs oj (yielded ops a.tmps) <;>
  simp only[e,c,if_true,if_false,Yg]at h⊢
 ·exact h
 ·cases c:S j with
  | none=>simp only[c]at h⊢;exact h
  | some s=>simp only[c,D _ s c]at h⊢;exact h
 ·cases e:S i with
  | none=>simp only[e]at h⊢;exact h
  | some s=>simp only[e,C _ s e]at h⊢;exact h
 cases e:S i with
 | none=>
  simp only[e]at h;obtain⟨x,r,h⟩:=h
  cases c:S j with
  | none=>
   simp only[c]at h⊢;obtain⟨u,n,h⟩:=h;exact⟨u,n,x,r,h⟩
  | some s=>
   simp only[c,D _ s c]at h⊢;exact⟨h.1,fun u t=>⟨x,fun g f q=>r g f ((p _ _).1 q),h.2 u t⟩⟩
 | some G=>
  simp only[e]at h;obtain⟨y,h⟩:=h;obtain⟨L,A⟩:=hS G e
  cases c:S j with
  | none=>
   simp only[c,C _ G e]at h⊢;obtain⟨u,n,_⟩:=h L A;refine⟨u,fun g f q=>n g f ((l _ _).2 q),y,fun x r=>?_⟩
   obtain⟨z,z,N⟩:=h x r;have M:=n w B ((l _ _).2 H);have n:=z w B ((l _ _).2 H);rw[M]at n;simp only[Result.ok.injEq,Next.value.injEq,and_true]at n;subst n;exact N
  | some n=>
   simp only[c,D _ n c,C _ G e]at h⊢;refine⟨fun g f c q=>(h L A).1 g f c ((l _ _).2 q),fun u t=>⟨fun g f c q=>y g f c ((p _ _).1 q),fun x r=>?_⟩⟩
   have:=(h x r).2 u t;rwa [zm1 E]at this
def okE (I:Xn->Prop) (J:Act->Xn->Prop) (S:Nat->Option zfM) (listed:Array Bool) (F:Nat->Xn->Prop) (a:Act) (w:Xn):Prop:=
 I w/\J a w/\(∀i,F i w)/\(∀i,(∀w,F i w)\/∃s u v,S i=Xa s/\F i=s.post u v/\listed.getD i Xd=Xc)/\∀k t,S k=Xa t->listed.getD k Xc=Xd->t.pre w
theorem zr0 (i:∀k s o,S k=Xa s->ops[k]? =Xa o->∀d,s.arg= .tmp d->d∈o.looksAt ops) (hS:∀k s,S k=Xa s->∃v,s.pv v)
  (hp:∀k s j t,S k=Xa s->S j=Xa t->j≠k->anc ops 9 j k=Xd->∀u v w w',t.step w w'->s.post u v w->s.post u v w') (hpre:∀j t k s,S j=Xa t->S k=Xa s->j≠k->∀w w',s.step w w'->t.pre w->t.pre w')
  (g:∀(j:Nat) o,ops[j]? =Xa o->S j=Xb->∀a v w,(execOp a.eval o).run P w= .ok (.value v) w->J a w->J (a.put o.dst v) w) (x:∀(j:Nat) o s,ops[j]? =Xa o->S j=Xa s->∀a w K,J a w->I w->zR P o a w K->zR P o a w fun v w'=>K v w'/\J (a.put o.dst v) w') (L:∀(j:Nat) o,ops[j]? =Xa o->∀a w,J a w->J (a.put o.dst undef) w):
  Way P ops (q4 I P ops S) (fun j F=>∃w,I w/\∀m,anc ops 9 m j=Xc->F m w) (okE I J S) where
 mono h:=q4.mono fun b c e D=>h b c (fun j b ⟨w,l,c⟩=>⟨w,l,fun m f=>by
  rw[e m (fun q=>by subst q;rw[b]at f;cases f)]
  exact c m f⟩) D
 swap hi hj hlt hap hsi hsj b hji:=fun⟨_,l,c⟩=>q4.swap hi hj (by omega) hap hsi hsj i b hji (hS _) l c
 lean j h:=⟨_,h.1,fun m _=>h.2.2.1 m⟩
 step {listed F a w j oj K N Q} hsz hoj h0 hc hok hcm hN:=by
  obtain⟨E,G,B,C,e⟩:=hok;have r:∀i,(∀w,F i w)\/∃s u v,S i=Xa s/\F i=s.post u v/\(listed.setIfInBounds j Xc).getD i Xd=Xc:=fun i=>(C i).imp id fun⟨s,u,v,z,y,A⟩=>⟨s,u,v,z,y,getD_set_true A⟩
  have n:∀k,(listed.setIfInBounds j Xc).getD k Xc=Xd->k≠j/\listed.getD k Xc=Xd:=fun k c=>by
   by_cases q:j=k
   ·subst q;have:=(aS.1 hoj).1
    simp[show j<listed.size by omega]at c
   rw[getD_set_ne Xc q]at c;exact⟨fun h=>q h.symm,c⟩
  simp only[q4,hoj]at hcm
  split
  ·rename_i c
   simp only[c,if_true]at hcm
   cases p:S j with
   | none=>
    simp only[p]at hcm;obtain⟨v,f,D⟩:=hcm;have h:=f w E (fun m _=>B m)
    unfold Oper.wp;rw[h];exact hN F _ w ⟨E,g j oj hoj p a v w h G,B,r,fun k t f g=>e k t f (n k g).2⟩ D
   | some s=>
    simp only[p]at hcm;refine(x j oj s hoj p a w _ G E (hcm.1 w E (e j s p h0) (fun m _=>B m))).wp fun v w' ⟨⟨M,h,R,x⟩,H⟩=>?_
    refine hN (zdu F j (s.post (a.eval s.arg) v)) _ w' ⟨M,H,fun i=>?_,fun i=>?_,fun k t f g=>hpre k t j s f p (n k g).1 w w' h (e k t f (n k g).2)⟩ (hcm.2 v R)
    ·unfold zdu
     split
     ·exact x
     rename_i b
     rcases C i with l|⟨x,u1,C,z,y,A⟩
     ·exact l w'
     rw[y];refine hp i x j s z p (fun q=>b q.symm) ?_ u1 C w w' h ?_
     ·cases h:anc ops 9 j i with
      | false=>rfl
      | true=>
       have l:=QT hc 9 j i (fun k D=>hc k i A D) h
       rw[JS h0]at l;cases l
     have:=B i;rw[y]at this;exact this
    by_cases b:i=j
    ·subst b;refine .inr ⟨s,a.eval s.arg,v,p,?_,?_⟩
     ·unfold zdu;rw[kE rfl]
     have:=(aS.1 hoj).1
     simp[show i<listed.size by omega]
    rcases r i with l|⟨x,u1,C,z,y,A⟩
    ·refine .inl fun w=>?_
     unfold zdu;rw[kF b];exact l w
    refine .inr ⟨x,u1,C,z,?_,A⟩;unfold zdu;rw[kF b];exact y
  rename_i c
  simp only[c]at hcm;exact hN F _ w ⟨E,L j oj hoj a w G,B,r,fun k t f g=>e k t f (n k g).2⟩ hcm
variable{Q:Act->Xn->Prop}
variable(I P ops S Q)in
abbrev zar:List Oper->Nat->(Nat->Xn->Prop)->Act->Prop:=zhj ops (q4 I P ops S) fun F a=>∀w,I w->(∀i,F i w)->Q a w
theorem zhu {Q:Exit->Act->Xn->Prop} {a:Act} {w:Xn} {l r:List Oper} (T:Nat) (e:I w.drew) (i:P.follows .mixedOrders=Xc) (c:Q9 L.toArray T=Xc) (g:L.take T=l) (m:L.drop T=r) (f:T<=L.length) (b:∀k s o,S k=Xa s->L.toArray[k]? =Xa o->∀d,s.arg= .tmp d->d∈o.looksAt L.toArray)
  (hS:∀k s,S k=Xa s->∃v,s.pv v) (hp:∀k s j t,S k=Xa s->S j=Xa t->j≠k->anc L.toArray 9 j k=Xd->∀u v w w',t.step w w'->s.post u v w->s.post u v w') (hpre:∀j t k s,S j=Xa t->S k=Xa s->j≠k->∀w w',s.step w w'->t.pre w->t.pre w') (hpr0:∀k t,S k=Xa t->t.pre w.drew)
  (h:zar I P L.toArray S (fun a w=>wpList P L.toArray Q r a w) l 0 (fun _ _=>True) a):(Code.region id L.toArray Xc).wp P Q a w:=
 zlR (zr0 (J:=fun _ _=>True) b hS hp hpre (fun _ _ _ _ _ _ _ _ _=>trivial) (fun _ _ _ _ _ _ _ _ _ _ h=>h.mono fun _ _ b=>⟨b,trivial⟩) (fun _ _ _ _ _ _=>trivial)) T i c g m f (fun _=>⟨e,trivial,fun _=>trivial,fun _=> .inl fun _=>trivial,fun k t b _=>hpr0 k t b⟩) (fun _ _ _ _ b h=>h _ b.1 b.2.2.1) h
variable{o:Oper} {rest:List Oper} {k:Nat} {F:Nat->Xn->Prop} {a:Act}
theorem zdk (h:ops[k]? =Xa o->q4 I P ops S k F a (zar I P ops S Q rest (k+1))):zar I P ops S Q (o :: rest) k F a:=zhj.cons (fun h=>q4.mono fun b c _=>h b c) h
theorem zfj (b:Xs o (yielded ops a.tmps)=Xc) (hS:S k=Xb) {v:Xq} (d:∀w,I w->(execOp a.eval o).run P w= .ok (.value v) w) (e:zar I P ops S Q rest (k+1) F (a.put o.dst v)):zar I P ops S Q (o :: rest) k F a:=zdk fun c=>by
 simp only[q4,c,b,if_true,hS];exact⟨v,fun w b _=>d w b,e⟩
theorem zae (e:zoa o=Xc) (b:Xs o (yielded ops a.tmps)=Xc) (hS:S k=Xb)
  (h:∀K:Act->Prop,(∀a,zar I P ops S Q rest (k+1) F a->K a)->o.quiet P a (fun w'=>∃x:zk I,w'=x.world) K):zar I P ops S Q (o :: rest) k F a:=by
 obtain⟨v,c,d⟩:=za5 e (h _ fun _ h=>h)
 exact zfj b hS (fun w b=>c w ⟨⟨w,b⟩,rfl⟩) d
theorem Zi{P Q:Prop}(k:Q)(h:Go.RowKit.Hid Q->P:=by intro h;refine zae rfl rfl rfl (fun K a=>?_);go_big_quiet_op;exact a _ h.out):P:=h k
theorem zmI (c:Xs o (yielded ops a.tmps)=Xd) (h:zar I P ops S Q rest (k+1) F (a.put o.dst undef)):zar I P ops S Q (o :: rest) k F a:=zdk fun b=>by
 simp only[q4,b,c,Yg,if_false];exact h
theorem jw {s:zfM} (d:Xs o (yielded ops a.tmps)=Xc) (hS:S k=Xa s)
  (h:∀w,I w->s.pre w->(∀m,anc ops 9 m k=Xc->F m w)->zR P o a w fun v w'=>I w'/\s.step w w'/\s.pv v/\s.post (a.eval s.arg) v w')
  (c:∀v,s.pv v->zar I P ops S Q rest (k+1) (zdu F k (s.post (a.eval s.arg) v)) (a.put o.dst v)):zar I P ops S Q (o :: rest) k F a:=zdk fun b=>by
 simp only[q4,b,d,if_true,hS];exact⟨h,c⟩
theorem zbh (h:∀w,I w->(∀i,F i w)->Q a w):zar I P ops S Q [] k F a:=⟨fun _=>h⟩
theorem zgD (x p) (b:o.op= .nilCheck x) (d:a.eval x= Xj (Xa p)) (c:Xs o (yielded ops a.tmps)=Xc) (hS:S k=Xb) (h:zar I P ops S Q rest (k+1) F (a.put o.dst (Xj (Xa p)))):zar I P ops S Q (o :: rest) k F a:=zfj c hS (fun _ _=>zi7 x p b d) h
end
def znM (ops:Array Oper) (S:List (Nat × zfM)):Bool:=S.all fun x=>match x.2.arg with
 | .tmp d=>(match ops[x.1]? with | some o=>(o.looksAt ops).contains d | none=>Xd)
 | _=>Xc
theorem ziQ {S:List (Nat × zfM)} (h:znM ops S=Xc):∀k s o,S.lookup k=Xa s->ops[k]? =Xa o->∀d,s.arg= .tmp d->d∈o.looksAt ops:=fun k s o a i d f=>by
 have g:(k,s)∈S:=by
  induction S with
  | nil=>simp at a
  | cons x S j=>
   rw[List.lookup_cons]at a
   split at a
   ·rename_i e
    have b:k=x.1:=by simpa using e
    have c:x.2=s:=by simpa using a
    rw[b,<-c];simp
   exact List.mem_cons_of_mem _ (j (by simp only[znM,List.all_cons,Xv]at h;exact h.2) a)
 have:=Ye.1 h _ g;simp only[f,i]at this
 simpa using this
theorem JC {I:Xn->Prop} {P:Program} {a:Act} {w:Xn} {l r:List Oper} (T:Nat) (S:List (Nat × zfM)) (d:I w.drew) (g:P.follows .mixedOrders=Xc) (b:znM L.toArray S=Xc) (c:Q9 L.toArray T=Xc) (f:L.take T=l) (i:L.drop T=r) (e:T<=L.length)
  (hS:∀x∈S,∃v,x.2.pv v) (hp:∀k s j t,S.lookup k=Xa s->S.lookup j=Xa t->j≠k->anc L.toArray 9 j k=Xd->∀u v w w',t.step w w'->s.post u v w->s.post u v w') (hpre:∀j t k s,S.lookup j=Xa t->S.lookup k=Xa s->j≠k->∀w w',s.step w w'->t.pre w->t.pre w') (hpr0:∀k t,S.lookup k=Xa t->t.pre w.drew)
  (h:zar I P L.toArray (fun k=>S.lookup k) (fun a w=>wpList P L.toArray Q r a w) l 0 (fun _ _=>True) a):(Code.region id L.toArray Xc).wp P Q a w:=
 zhu T d g c f i e (ziQ b) (fun k s b=>by obtain⟨x,c,rfl,_⟩:=zab b;exact hS x c) hp hpre hpr0 h
structure zed where
 pv:Xq->Prop
 post:Xq->Xn->Prop
 step:Xn->Xn->Prop
 pre:Xn->Prop:=fun _=>True
def zed.e (s:zed):zfM:=⟨.const undef,s.pv,fun _=>s.post,s.step,s.pre⟩
theorem zig {x:Option zed} {s:zfM} (h:x.map zed.e=Xa s):∃t,x=Xa t/\s=t.e:=by
 cases x with
 | none=>cases h
 | some t=>cases h;exact⟨t,rfl,rfl⟩
section
variable{I:Xn->Prop} {P:Program} {ops:Array Oper} {S:Nat->Option zed} {Q:Act->Xn->Prop}
variable(I P ops S Q)in
abbrev ziT:List Oper->Nat->(Nat->Xn->Prop)->Act->Prop:=zar I P ops (fun k=>(S k).map zed.e) Q
theorem jU {Q:Exit->Act->Xn->Prop} {a:Act} {w:Xn} {l r:List Oper} (T:Nat) (S:List (Nat × zed)) (c:I w.drew) (f:P.follows .mixedOrders=Xc) (b:Q9 L.toArray T=Xc) (e:L.take T=l) (g:L.drop T=r) (d:T<=L.length)
  (hS:∀x∈S,∃v,x.2.pv v) (hp:∀k s j t,S.lookup k=Xa s->S.lookup j=Xa t->j≠k->anc L.toArray 9 j k=Xd->∀v w w',t.step w w'->s.post v w->s.post v w') (hpre:∀j t k s,S.lookup j=Xa t->S.lookup k=Xa s->j≠k->∀w w',s.step w w'->t.pre w->t.pre w') (hpr0:∀k t,S.lookup k=Xa t->t.pre w.drew)
  (h:ziT I P L.toArray (fun k=>S.lookup k) (fun a w=>wpList P L.toArray Q r a w) l 0 (fun _ _=>True) a):(Code.region id L.toArray Xc).wp P Q a w:=by
 refine zhu T c f b e g d ?_ ?_ ?_ ?_ ?_ h
 ·intro k s b b _ d c;obtain⟨t,_,rfl⟩:=zig b;cases c
 ·intro k s b;obtain⟨t,c,rfl⟩:=zig b;obtain⟨x,d,rfl,_⟩:=zab c;exact hS x d
 ·intro k s j t b f d g _ v;obtain⟨s,c,rfl⟩:=zig b;obtain⟨t,e,rfl⟩:=zig f;exact hp k s j t c e d g v
 ·intro j t k s f b d;obtain⟨s,c,rfl⟩:=zig b;obtain⟨t,e,rfl⟩:=zig f;exact hpre j t k s e c d
 intro k t b;obtain⟨t,c,rfl⟩:=zig b;exact hpr0 k t c
variable{o:Oper} {rest:List Oper} {k:Nat} {F:Nat->Xn->Prop} {a:Act}
theorem zkG (b:zoa o=Xc) (c:Xs o (yielded ops a.tmps)=Xc) (hS:S k=Xb)
  (h:∀K:Act->Prop,(∀a,ziT I P ops S Q rest (k+1) F a->K a)->o.quiet P a (fun w'=>∃x:zk I,w'=x.world) K):ziT I P ops S Q (o :: rest) k F a:=zae b c (by rw[hS];rfl) h
theorem qI{P Q:Prop}(k:Q)(h:Go.RowKit.Hid Q->P:=by intro h;refine zkG rfl rfl rfl (fun K a=>?_);go_big_quiet_op;exact a _ h.out):P:=h k
theorem j5 {s:zed} (c:Xs o (yielded ops a.tmps)=Xc) (hS:S k=Xa s)
  (h:∀w,I w->s.pre w->(∀m,anc ops 9 m k=Xc->F m w)->zR P o a w fun v w'=>I w'/\s.step w w'/\s.pv v/\s.post v w')
  (b:∀v,s.pv v->ziT I P ops S Q rest (k+1) (zdu F k (s.post v)) (a.put o.dst v)):ziT I P ops S Q (o :: rest) k F a:=jw (s:=s.e) c (by rw[hS];rfl) h b
theorem zad (h:∀w,I w->(∀i,F i w)->Q a w):ziT I P ops S Q [] k F a:=zbh h
end
structure zpG where
 pv:Xq->Prop
 post:Xq->Xn->Prop
def zpG.i (s:zpG):zed:=⟨s.pv,s.post,zb,fun _=>True⟩
section
variable{P:Program} {ops:Array Oper} {w0:Xn} {S:Nat->Option zpG} {Q:Act->Xn->Prop}
variable(P ops w0 S Q)in
abbrev znQ:List Oper->Nat->(Nat->Xn->Prop)->Act->Prop:=ziT (zb w0) P ops (fun k=>(S k).map zpG.i) Q
theorem zmX (w:Xn):zb w w.drew:=show Below _ _ _ from(bR _ _).drew
theorem jO {Q:Exit->Act->Xn->Prop} {a:Act} {w:Xn} {l r:List Oper} (T:Nat) (S:List (Nat × zpG)) (j:P.follows .mixedOrders=Xc) (f:Q9 L.toArray T=Xc) (i:L.take T=l) (m:L.drop T=r) (g:T<=L.length)
  (hS:∀x∈S,∃v,x.2.pv v) (hp:∀x∈S,∀v w w',zb w w'->x.2.post v w->x.2.post v w')
  (h:znQ P L.toArray w (fun k=>S.lookup k) (fun a w=>wpList P L.toArray Q r a w) l 0 (fun _ _=>True) a):(Code.region id L.toArray Xc).wp P Q a w:=by
 have b:∀k s,((S.lookup k).map zpG.i).map zed.e=Xa s->∃x∈S,s=x.2.i.e:=fun k s c=>by
  cases e:S.lookup k with
  | none=>rw[e]at c;cases c
  | some t=>
   rw[e]at c;cases c;obtain⟨x,d,rfl,_⟩:=zab e;exact⟨x,d,rfl⟩
 refine zhu T (zmX w) j f i m g ?_ ?_ ?_ ?_ ?_ h
 ·intro k s e c _ e e;obtain⟨x,_,rfl⟩:=b k s c;cases e
 ·intro k s c;obtain⟨x,d,rfl⟩:=b k s c;exact hS x d
 ·intro k s j t c e _ _ _ v w w' f;obtain⟨x,d,rfl⟩:=b k s c;obtain⟨y,_,rfl⟩:=b j t e;exact hp x d v w w' f
 ·intro j t k s e _ _ _ _ _ _;obtain⟨x,_,rfl⟩:=b j t e;trivial
 intro k t c;obtain⟨x,_,rfl⟩:=b k t c;trivial
theorem qu {Q:Exit->Act->Xn->Prop} {a:Act} {w:Xn} {l:List Oper} (S:List (Nat × zpG)) (c:P.follows .mixedOrders=Xc) (b:Q9 l.toArray l.length=Xc)
  (hS:∀x∈S,∃v,x.2.pv v) (hp:∀x∈S,∀v w w',zb w w'->x.2.post v w->x.2.post v w')
  (h:znQ P l.toArray w (fun k=>S.lookup k) (fun a w=>Q .normal a w) l 0 (fun _ _=>True) a):(Code.region id l.toArray Xc).wp P Q a w:=
 jO l.length S c b (List.take_length ..) (List.drop_length ..) (nR _) hS hp h
variable{o:Oper} {rest:List Oper} {k:Nat} {F:Nat->Xn->Prop} {a:Act}
theorem zI (e:zoa o=Xc) (b:Xs o (yielded ops a.tmps)=Xc) (hS:S k=Xb)
  (h:∀K:Act->Prop,(∀a,znQ P ops w0 S Q rest (k+1) F a->K a)->o.quiet P a (fun w'=>∃x:zg w0,w'=x.world) K):znQ P ops w0 S Q (o :: rest) k F a:=by
 obtain⟨v,c,d⟩:=za5 e (h _ fun _ h=>h)
 exact zfj b (by simp only[hS];rfl) (fun w b=>c w ⟨⟨w,b⟩,rfl⟩) d
theorem zf{P Q:Prop}(k:Q)(h:Go.RowKit.Hid Q->P:=by intro h;refine zI rfl rfl rfl (fun K a=>?_);go_big_quiet_op;exact a _ h.out):P:=h k
theorem jo (b:Xs o (yielded ops a.tmps)=Xd) (h:znQ P ops w0 S Q rest (k+1) F (a.put o.dst undef)):znQ P ops w0 S Q (o :: rest) k F a:=zmI b h
theorem jB{P Q:Prop}(k:Q)(h:Go.RowKit.Hid Q->P:=by intro h;refine jo ?_ ?_;kernel_rfl;simp only[Act.put,sB,sS,sZ];exact h.out):P:=h k
theorem zC {s:zpG} (b:Xs o (yielded ops a.tmps)=Xc) (hS:S k=Xa s)
  (h:∀w,zb w0 w->(∀m,anc ops 9 m k=Xc->F m w)->zR P o a w fun v w'=>zb w w'/\s.pv v/\s.post v w')
  (d:∀v,s.pv v->znQ P ops w0 S Q rest (k+1) (zdu F k (s.post v)) (a.put o.dst v)):znQ P ops w0 S Q (o :: rest) k F a:=jw (s:=s.i.e) b (by simp only[hS];rfl) (fun w b _ c=>(h w b c).mono fun _ _ c=>⟨b.trans c.1,c⟩) d
theorem zP (h:∀w,zb w0 w->(∀i,F i w)->Q a w):znQ P ops w0 S Q [] k F a:=zbh h
theorem Zp (x p) (b:o.op= .nilCheck x) (d:a.eval x= Xj (Xa p)) (c:Xs o (yielded ops a.tmps)=Xc) (hS:S k=Xb) (h:znQ P ops w0 S Q rest (k+1) F (a.put o.dst (Xj (Xa p)))):znQ P ops w0 S Q (o :: rest) k F a:=zgD x p b d c (by simp only[hS];rfl) h
end
theorem jb (a:Addr) (i j:Nat):(a.add i).add j=a.add (i+j):=by
 unfold Addr.add
 by_cases b:i=0 <;> by_cases c:j=0 <;> simp[b,c] <;> omega
def qW (w:Xn) (x:Addr) (cs:List Xq):Prop:=∀j u,cs[j]? =Xa u->w.cell? (x.add j)=Xa u
theorem qW.grew {w:Xn} {x:Addr} {cs:List Xq} (h:qW w x cs) (b:zb w w'):qW w' x cs:=fun j u c=>by
 have a:=h j u c;rw[Below.cell b (World.block_lt_of_cell? _ _ a)];exact a
theorem qT {α:Type} {enc:α->List Xq} {k:Nat}:∀(l:List α),(∀a∈l,(enc a).length=k)->(l.flatMap enc).length=l.length*k
 | [],_=>by simp
 | a :: l,h=>by
  rw[Xw,lA,h a (by simp),qT l (fun b hb=>h b (by simp[hb])),Yr,Yz,Nat.one_mul,Yp]
theorem jX {α:Type} {enc:α->List Xq} {k:Nat}:∀(l:List α) (j:Nat) (a:α),(∀b∈l,(enc b).length=k)->l[j]? =Xa a->∀i u,(enc a)[i]? =Xa u->(l.flatMap enc)[j*k+i]? =Xa u
 | [],j,a,_,h,_,_,_=>by simp at h
 | b :: l,0,a,d,h,i,u,hi=>by
  simp at h;subst h
  have c:i< (enc b).length:=by
   rcases Yc i (enc b).length with h|h
   ·exact h
   rw[gN h]at hi;cases hi
  rw[Xw,Oi,zA,List.getElem?_append_left c];exact hi
 | b :: l,j+1,a,d,h,i,u,hi=>by
  have c:=d b (by simp)
  rw[Xw,aR (by rw[c,Yz];omega),c]
  have e:(j+1)*k+i - k=j*k+i:=by rw[Yz];omega
  rw[e];exact jX l j a (fun c e=>d c (by simp[e])) (by simpa using h) i u hi
theorem qW.elem {α:Type} {enc:α->List Xq} {k:Nat} {w:Xn} {x:Addr} {l:List α} (h:qW w x (l.flatMap enc)) (e:∀b∈l,(enc b).length=k) {a:α} (c:l[j]? =Xa a):qW w (x.add (j*k)) (enc a):=fun i u d=>by
 rw[jb];exact h _ _ (jX l j a e c i u d)
def jz {α:Type} (enc:α->List Xq) (w:Xn) (v:Xq) (l:List α):Prop:=
 ∃a c,v= O a l.length c/\(a=Xb->l=[])/\∀x,a=Xa x->qW w x (l.flatMap enc)
theorem jz.grew {α:Type} {enc:α->List Xq} {w:Xn} {v:Xq} {l:List α} (h:jz enc w v l) (f:zb w w'):jz enc w' v l:=by
 obtain⟨a,c,b,d,e⟩:=h;exact⟨a,c,b,d,fun x a=>(e x a).grew f⟩
theorem j3 {α:Type} {enc:α->List Xq} {w:Xn} {base a:Nat} {e:TypeId} {v:Xq} {l:List α} (h:w.ownsRow base e a v l.length (l.flatMap enc)):jz enc w v l:=by
 rcases h.2 with⟨rfl,c⟩|⟨g,a,b,rfl,b,b,b,b,b,b⟩
 ·have b:=eN c;subst b;exact⟨Xb,0,rfl,fun _=>rfl,fun x b=>by cases b⟩
 refine⟨Xa ⟨g,0,Xb⟩,a,rfl,fun h=>(by cases h),fun x b=>?_⟩
 cases b;exact h.cells rfl
theorem Qo {w:Xn} {base a n:Nat} {e:TypeId} {v:Xq} (h:w.ownsRow base e a v n xs) (i:zb w w'):w'.ownsRow base e a v n xs:=by
 refine⟨h.1,?_⟩
 rcases h.2 with d|⟨g,a,b,rfl,f,c,h⟩
 ·exact .inl d
 exact .inr ⟨g,a,b,rfl,f,by rw[Below.block i g (aS.1 c).1];exact c,h⟩
theorem q6 {w:Xn} {base a n:Nat} {e:TypeId} {v:Xq} (h:w.ownsRow base e a v n xs) (hb:base'<=base):w.ownsRow base' e a v n xs:=by
 refine⟨h.1,?_⟩
 rcases h.2 with c|⟨g,a,b,rfl,d,f⟩
 ·exact .inl c
 exact .inr ⟨g,a,b,rfl,nT hb d,f⟩
theorem qJ {α:Type} {enc:α->List Xq} (h:∀a,∀u∈enc a,u.oneCell'=Xc) (l:List α):∀u∈l.flatMap enc,u.oneCell'=Xc:=fun u c=>by
 obtain⟨a,_,b⟩:=List.mem_flatMap.1 c;exact h a u b
theorem jj {n:Nat} (h:n<=140737488355328):n<=maxLen:=by simp[maxLen];omega
theorem za (w:Xn) (o):zb w (w.alloc o):=(bR _ _).alloc (nR _) _
theorem zL {w:Xn} (h:zb w W) {a:Addr} (b:w.heap.size<=a.block) (u):zb w (W.setCell a u):=Below.setCell h b u
theorem zZ:Tryz.prog.follows .mixedOrders=Xc:=by kernel_rfl
def jR (base:Nat) (v:Xq):Prop:=∀x n c,v= O (Xa x) n c->base<=x.block
theorem Zu (base:Nat):jR base (O Xb 0 0):=fun x n c e=>by cases e
theorem Za (x:Addr) (j:Nat):(x.add j).block=x.block:=by unfold Addr.add;split <;> rfl
theorem jz.setCell {α:Type} {enc:α->List Xq} {base:Nat} {w:Xn} {v:Xq} {l:List α} (h:jz enc w v l) (f:jR base v) {a:Addr} (b:a.block<base) (u):jz enc (w.setCell a u) v l:=by
 obtain⟨x,c,b,d,e⟩:=h;refine⟨x,c,b,d,fun y d j t c=>?_⟩
 subst d;have:=f y _ _ b;rw[World.cell?_of_block (w:=w) (Below.heap_setCell _ _ _ _ (by rw[Za];omega))]
 exact e y rfl j t c
theorem Zs (w:Xn) (g:Nat) (cs:Array Xq):w.grownBy (w.setRow g cs) (Xa g):=by
 refine⟨rfl,rfl,rfl,by simp[World.setRow],fun k a a=>?_⟩
 have:g≠k:=fun e=>a (by rw[e])
 unfold World.setRow
 simp[Array.getElem?_modify,this]
theorem qw {P:Program} {w:Xn} {base b n:Nat} {e:TypeId} {v:Xq} (d:w.ownsRow base e b v n xs) (h:v.ownBlock=Xa g) (a:Nat) (cs:List Xq) (c:a+cs.length<=n*b) (k:∀u∈cs,u.oneCell'=Xc):
  ∃w',(storeCells ⟨g,a,Xb⟩ cs 0).run P w= .ok () w'/\w'.ownsRow base e b v n (splice xs a cs)/\w.grownBy w' (Xa g)/\w'.heap.size=w.heap.size:=by
 obtain⟨m,c⟩:=d
 rcases c with⟨rfl,i⟩|⟨f,d,c,rfl,l,j,i,p,q,r⟩
 ·simp[Value.ownBlock]at h
 simp[Value.ownBlock]at h
 subst h;have h:n*b<=c.size:=by rw[q];exact Yl _ i
 refine⟨_,run_storeCells_at P f a e cs 0 c w j (by omega) k,⟨by rw[length_splice _ _ _ (by omega)];exact m,.inr ⟨f,d,_,rfl,l,setRow_heap w f c _ e _ j,i,p,?_,?_⟩⟩,Zs _ _ _,by simp[World.setRow]⟩
 ·simp;omega
 subst r
 apply Yb
 intro j;simp only[splice,Nat.add_zero];simp only[List.getElem?_take,List.getElem?_append,Uc,List.length_take,lA,Array.length_toList];have d:min a c.size=a:=by omega
 have f:min a (min (n*b) c.size)=a:=by omega
 simp only[d,f]
 split <;> split <;>(try split) <;>(try split) <;>(try split) <;> first | rfl | omega | (congr 1;omega) | skip
theorem zcq {P:Program} {w:Xn} {rest:List Oper} {a:Act} (e:o.guard=Xb) (p x t) (s:o.op= .store t p x) (k:Nat) (f:(P.info? t).map (·.size)=Xa k)
  (base:Nat) (v:Xq) (n:Nat) (xs:List Xq) (d:w.ownsRow base t k v n xs) (g i:Nat) (r:v.ownBlock=Xa g) (hi:i<n) (cs:List Xq) (c:cs.length=k) (l:∀u∈cs,u.oneCell'=Xc)
  (h:Addr) (hp:a.eval p= Xj (Xa h)) (b:h=⟨g,i*k,Xb⟩) (z:a.eval x= Xi cs.toArray)
  (j:∀w',w'.ownsRow base t k v n (splice xs (i*k) cs)->w.grownBy w' (Xa g)->w'.heap.size=w.heap.size->wpList P ops Q rest (a.put o.dst undef) w'):wpList P ops Q (o :: rest) a w:=by
 subst b;refine wpList_plain e fun K q=>?_
 have b:i*k+cs.length<=n*k:=by
  rw[c,<-Oj];exact Yl _ hi
 obtain⟨w',y,e,h,m⟩:=qw (P:=P) d r (i*k) cs b l;have d:(Go.sizeOf t).run P w= .ok k w:=by
  cases b:P.info? t with
  | none=>simp[b]at f
  | some i=>simp[b]at f;simp[Go.sizeOf,typeInfo,b,f]
 have b:(Instr.storeAt t (Xj (Xa ⟨g,i*k,Xb⟩)) (Xi cs.toArray)).run P w= .ok () w':=by
  simp[Instr.storeAt,Instr.sureAddr,storeVar,Xx,d,Result.andThen,Value.cells,c,y]
 unfold Oper.wp;simp only[execOp,s,hp,z,Xx,b,Result.andThen,Yd,Oper.upon];exact q _ _ (j w' e h m)
theorem zbJ {α:Type} {enc:α->List Xq} {k:Nat} (x:α) (b:(enc x).length=k):∀(l:List α) (i:Nat),(∀a∈l,(enc a).length=k)->i<l.length->splice (l.flatMap enc) (i*k) (enc x)=(l.set i x).flatMap enc
 | [],i,_,hi=>by simp at hi
 | a :: l,0,h,_=>by
  simp only[splice,Xw,Oi,Oq,Yu,zA,sZ];rw[Yf (by rw[b,h a (by simp)];exact nR _),Yq (by rw[b,h a (by simp)];exact nR _),Yu]
 | a :: l,i+1,h,hi=>by
  have d:=h a (by simp)
  have c:=zbJ x b l i (fun b e=>h b (by simp[e])) (by simpa using hi)
  simp only[splice,Xw,sS]at c⊢;rw[<-c,Oj,Yp (i*k) k,<-d,Yj,Yi,Yk,Oa]
theorem zd {w a:Xn} (h:zb w W) (b:W.grownBy a (Xa g)) (hb:w.heap.size<=g):zb w a:=
 Below.grown h b (bS h) (fun k a=>by cases a;exact hb)
def Box (w:Xn) (b:Nat) (cs:List Xq):Prop:=∃t,w.heap[b]? =Xa (Xk cs.toArray t (0,0))
theorem Box.lt {w:Xn} {cs:List Xq} (h:Box w b cs):b<w.heap.size:=by
 obtain⟨t,h⟩:=h;exact(aS.1 h).1
theorem Box.c {w:Xn} {cs:List Xq} (h:Box w b cs) (i:Nat) {u:Xq} (hi:cs[i]? =Xa u):w.cell? ⟨b,i,Xb⟩=Xa u:=by
 obtain⟨t,h⟩:=h
 simp[World.cell?,h,hi]
theorem Box.f {w:Xn} {cs:List Xq} (h:Box w b cs) (i:Nat):w.frozen? ⟨b,i,Xb⟩=Xd:=by
 obtain⟨t,h⟩:=h
 simp[World.frozen?,h]
theorem Box.below {w:Xn} {cs:List Xq} (h:Box w b cs) (a:Below B w w') (hb:b<B):Box w' b cs:=by
 obtain⟨t,h⟩:=h;exact⟨t,by rw[a.block b hb];exact h⟩
theorem Box.grew {w:Xn} {cs:List Xq} (h:Box w b cs) (a:zb w w'):Box w' b cs:=h.below a h.lt
theorem Box.top (w:Xn) (cs:List Xq) (t) (hb:b=w.heap.size):Box (w.alloc (Xk cs.toArray t)) b cs:=by
 subst hb;refine⟨t,?_⟩
 show(w.heap.push _)[w.heap.size]? =_
 simp
theorem Box.alloc {w:Xn} {cs:List Xq} (h:Box w b cs) (o):Box (w.alloc o) b cs:=h.grew (za _ _)
theorem Box.grown {w:Xn} {cs:List Xq} (h:Box w b cs) (c:w.grownBy w' (Xa g)) (hb:b≠g):Box w' b cs:=by
 have a:=h.lt;obtain⟨t,h⟩:=h;exact⟨t,by rw[c.block b a (fun e=>hb (by cases e;rfl))];exact h⟩
theorem Box.other {w:Xn} {cs:List Xq} (h:Box w b cs) {a:Addr} (c:b≠a.block) (u):Box (w.setCell a u) b cs:=by
 obtain⟨t,h⟩:=h;exact⟨t,by rw[Below.heap_setCell _ _ _ _ c];exact h⟩
theorem Box.set {w:Xn} {cs:List Xq} (h:Box w b cs) (i:Nat) (u):Box (w.setCell ⟨b,i,Xb⟩ u) b (cs.set i u):=by
 have a:=h.lt;obtain⟨t,h⟩:=h;refine⟨t,?_⟩;obtain⟨_,c⟩:=aS.1 h;unfold World.setCell;rw[Ya (by simpa using a)]
 simp[Ot,c]
theorem zgl {w:Xn} {base a n:Nat} {e:TypeId} {v:Xq} (h:w.ownsRow base e a v n xs) (i:∀k,base<=k->w'.heap[k]? =w.heap[k]?):w'.ownsRow base e a v n xs:=by
 refine⟨h.1,?_⟩
 rcases h.2 with d|⟨g,a,b,rfl,c,f,h⟩
 ·exact .inl d
 exact .inr ⟨g,a,b,rfl,c,by rw[i g c];exact f,h⟩
theorem ziS (w:Xn) (A B C) (k:Nat) (a:w.heap.size+1<=k):((w.alloc A).alloc C).heap[k]? =((w.alloc B).alloc C).heap[k]?:=by
 show((w.heap.push A).push C)[k]? =((w.heap.push B).push C)[k]?
 simp only[Array.getElem?_push,Array.size_push]
 split
 ·rfl
 rw[kF (by omega),kF (by omega)]
theorem World.grownBy.rfl' (w:Xn) (a:Option Nat):w.grownBy w a:=⟨rfl,rfl,rfl,nR _,fun _ _ _=>rfl⟩
theorem qW.top (w:Xn) (cs:List Xq) (t) (hb:b=w.heap.size):qW (w.alloc (Xk cs.toArray t)) ⟨b,0,Xb⟩ cs:=fun j u a=>by
 rw[Addr.add_lit,zA];exact(Box.top w cs t hb).c j a
theorem Box.beside {w:Xn} {cs:List Xq} {a:Option Nat} (h:Box w b cs) (c:w.grownBy w' a) (hb:∀g,a=Xa g->b≠g):Box w' b cs:=by
 have a:=h.lt;obtain⟨t,h⟩:=h;exact⟨t,by rw[c.block b a (fun e=>hb b e.symm rfl)];exact h⟩
theorem zX {w b:Xn} {a:Option Nat} (h:zb w W) (c:W.grownBy b a) (hb:∀g,a=Xa g->w.heap.size<=g):zb w b:=Below.grown h c (bS h) hb
def zn (w:Xn) (b:Nat) (t:TypeId) (cs:List Xq):Prop:=w.heap[b]? =Xa (Xk cs.toArray t (0,0))
theorem zn.box {w:Xn} {cs:List Xq} (h:zn w b t cs):Box w b cs:=⟨t,h⟩
theorem zn.top (w:Xn) (cs:List Xq) (t) (hb:b=w.heap.size):zn (w.alloc (Xk cs.toArray t)) b t cs:=by
 subst hb
 show(w.heap.push _)[w.heap.size]? =_
 simp
theorem Box.c3 {w:Xn} {l:List Xq} (h:Box w b (a0::a1::a2::l)):w.cell? ⟨b,0,Xb⟩=Xa a0/\w.cell? ⟨b,1,Xb⟩=Xa a1/\w.cell? ⟨b,2,Xb⟩=Xa a2:=⟨h.c 0 rfl,h.c 1 rfl,h.c 2 rfl⟩
theorem Box.c7 {w:Xn} {l:List Xq} (h:Box w b (a0::a1::a2::a3::a4::a5::a6::l)):w.cell? ⟨b,0,Xb⟩=Xa a0/\w.cell? ⟨b,1,Xb⟩=Xa a1/\w.cell? ⟨b,2,Xb⟩=Xa a2/\w.cell? ⟨b,3,Xb⟩=Xa a3/\w.cell? ⟨b,4,Xb⟩=Xa a4/\w.cell? ⟨b,5,Xb⟩=Xa a5/\w.cell? ⟨b,6,Xb⟩=Xa a6:=⟨h.c 0 rfl,h.c 1 rfl,h.c 2 rfl,h.c 3 rfl,h.c 4 rfl,h.c 5 rfl,h.c 6 rfl⟩
theorem Box.c8 {w:Xn} {l:List Xq} (h:Box w b (a0::a1::a2::a3::a4::a5::a6::a7::l)):w.cell? ⟨b,0,Xb⟩=Xa a0/\w.cell? ⟨b,1,Xb⟩=Xa a1/\w.cell? ⟨b,2,Xb⟩=Xa a2/\w.cell? ⟨b,3,Xb⟩=Xa a3/\w.cell? ⟨b,4,Xb⟩=Xa a4/\w.cell? ⟨b,5,Xb⟩=Xa a5/\w.cell? ⟨b,6,Xb⟩=Xa a6/\w.cell? ⟨b,7,Xb⟩=Xa a7:=⟨h.c 0 rfl,h.c 1 rfl,h.c 2 rfl,h.c 3 rfl,h.c 4 rfl,h.c 5 rfl,h.c 6 rfl,h.c 7 rfl⟩
theorem Box.c10 {w:Xn} {a c:Xq} {l:List Xq} (h:Box w b (a0::a1::a2::a3::a4::a5::a6::a7::a::c::l)):w.cell? ⟨b,0,Xb⟩=Xa a0/\w.cell? ⟨b,1,Xb⟩=Xa a1/\w.cell? ⟨b,2,Xb⟩=Xa a2/\w.cell? ⟨b,3,Xb⟩=Xa a3/\w.cell? ⟨b,4,Xb⟩=Xa a4/\w.cell? ⟨b,5,Xb⟩=Xa a5/\w.cell? ⟨b,6,Xb⟩=Xa a6/\w.cell? ⟨b,7,Xb⟩=Xa a7/\w.cell? ⟨b,8,Xb⟩=Xa a/\w.cell? ⟨b,9,Xb⟩=Xa c:=⟨h.c 0 rfl,h.c 1 rfl,h.c 2 rfl,h.c 3 rfl,h.c 4 rfl,h.c 5 rfl,h.c 6 rfl,h.c 7 rfl,h.c 8 rfl,h.c 9 rfl⟩
theorem Box.c11 {w:Xn} {c d a:Xq} {l:List Xq} (h:Box w b (a0::a1::a2::a3::a4::a5::a6::a7::c::d::a::l)):w.cell? ⟨b,0,Xb⟩=Xa a0/\w.cell? ⟨b,1,Xb⟩=Xa a1/\w.cell? ⟨b,2,Xb⟩=Xa a2/\w.cell? ⟨b,3,Xb⟩=Xa a3/\w.cell? ⟨b,4,Xb⟩=Xa a4/\w.cell? ⟨b,5,Xb⟩=Xa a5/\w.cell? ⟨b,6,Xb⟩=Xa a6/\w.cell? ⟨b,7,Xb⟩=Xa a7/\w.cell? ⟨b,8,Xb⟩=Xa c/\w.cell? ⟨b,9,Xb⟩=Xa d/\w.cell? ⟨b,10,Xb⟩=Xa a:=⟨h.c 0 rfl,h.c 1 rfl,h.c 2 rfl,h.c 3 rfl,h.c 4 rfl,h.c 5 rfl,h.c 6 rfl,h.c 7 rfl,h.c 8 rfl,h.c 9 rfl,h.c 10 rfl⟩
theorem Box.c12 {w:Xn} {d e a c:Xq} {l:List Xq} (h:Box w b (a0::a1::a2::a3::a4::a5::a6::a7::d::e::a::c::l)):w.cell? ⟨b,0,Xb⟩=Xa a0/\w.cell? ⟨b,1,Xb⟩=Xa a1/\w.cell? ⟨b,2,Xb⟩=Xa a2/\w.cell? ⟨b,3,Xb⟩=Xa a3/\w.cell? ⟨b,4,Xb⟩=Xa a4/\w.cell? ⟨b,5,Xb⟩=Xa a5/\w.cell? ⟨b,6,Xb⟩=Xa a6/\w.cell? ⟨b,7,Xb⟩=Xa a7/\w.cell? ⟨b,8,Xb⟩=Xa d/\w.cell? ⟨b,9,Xb⟩=Xa e/\w.cell? ⟨b,10,Xb⟩=Xa a/\w.cell? ⟨b,11,Xb⟩=Xa c:=⟨h.c 0 rfl,h.c 1 rfl,h.c 2 rfl,h.c 3 rfl,h.c 4 rfl,h.c 5 rfl,h.c 6 rfl,h.c 7 rfl,h.c 8 rfl,h.c 9 rfl,h.c 10 rfl,h.c 11 rfl⟩
theorem Box.h {I:Xn->Prop} {cs:List Xq} (h:Box W b cs) (a:∀u,I u↔zb W u) (i:Nat) {v:Xq} (c:cs[i]?=Xa v):∀y:zk I,y.world.cell? ⟨b,i,Xb⟩=Xa v:=fun y=>(h.grew ((a _).1 y.holds)).c i c
theorem Box.gw {cs:List Xq} (h:Box W b cs) (i:Nat) {v:Xq} (a:cs[i]?=Xa v):∀y:zg W,y.world.cell? ⟨b,i,Xb⟩=Xa v:=fun y=>(h.grew y.grew).c i a
theorem gP {w:Xn} {o:Obj} (h:w.alloc o=W):zb w W:=by subst h;exact za _ _
theorem gA {w:Xn} {o:Obj} (h:w.alloc o=W):Go.RowKit.Hid (zb w W):=show zb _ _ from gP h
theorem gT {v w:Xn} {o:Obj} (h:w.alloc o=W) (g:Go.RowKit.Hid (zb v w)):Go.RowKit.Hid (zb v W):=show zb _ _ from g.out.trans (gP h)
theorem gD2 {w:Xn} {o q:Obj} (h:(w.alloc o).alloc q=W):Go.RowKit.Hid (zb w W):=show zb _ _ from(gP rfl).trans (gP h)
theorem xP {w:Xn} {l:List Xq} {p:Nat} (h:w.alloc (Xk l.toArray t)=W) (e:Go.RowKit.Hid (w.heap.size=p)):Go.RowKit.Hid (Box W p l):=show Box _ _ _ by subst h;exact Box.top w l t e.out.symm
theorem xA {w:Xn} {l:List Xq} (h:w.alloc (Xk l.toArray t)=W):Go.RowKit.Hid (Box W w.heap.size l):=xP h rfl
theorem xPT {w:Xn} {l:List Xq} {p:Nat} (h:w.alloc (Xk l.toArray t)=W) (e:Go.RowKit.Hid (w.heap.size=p)):Go.RowKit.Hid (zn W p t l):=show zn _ _ _ _ by subst h;exact zn.top w l t e.out.symm
theorem xT {w:Xn} {l:List Xq} (h:w.alloc (Xk l.toArray t)=W):Go.RowKit.Hid (zn W w.heap.size t l):=xPT h rfl
theorem yA {w:Xn} {o:Obj} {l:List Xq} (h:w.alloc o=W) (y:Go.RowKit.Hid (Box w b l)):Go.RowKit.Hid (Box W b l):=show Box _ _ _ by subst h;exact y.out.alloc _
theorem x2a {w:Xn} {l:List Xq} {o:Obj} (h:(w.alloc (Xk l.toArray t)).alloc o=W):Go.RowKit.Hid (Box W w.heap.size l):=yA h (xA rfl)
theorem x2b {w:Xn} {l:List Xq} {o:Obj} (h:(w.alloc o).alloc (Xk l.toArray t)=W):Go.RowKit.Hid (Box W (w.heap.size+1) l):=show Box _ _ _ by subst h;exact Box.top _ l t (by simp)
theorem sA {w:Xn} {o:Obj} (h:w.alloc o=W):Go.RowKit.Hid (W.heap.size=w.heap.size+1):=show _=_ by subst h;simp
theorem gW (w:Xn):zb w w.drew:=show Go.RowKit.Below _ _ _ from(Go.RowKit.Below.refl _ _).drew
theorem zn.grew {w:Xn} {cs:List Xq} (h:zn w b t cs) (a:zb w w'):zn w' b t cs:=(a.block b h.box.lt).trans h
theorem zn.beside {w:Xn} {cs:List Xq} {a:Option Nat} (h:zn w b t cs) (c:w.grownBy w' a) (hb:∀g,a=Xa g->b≠g):zn w' b t cs:=by
 unfold zn;rw[c.block b h.box.lt (fun e=>hb b e.symm rfl)]
 exact h
theorem zn.set {w:Xn} {cs:List Xq} (h:zn w b t cs) (i:Nat) (u):zn (w.setCell ⟨b,i,Xb⟩ u) b t (cs.set i u):=by
 have a:=h.box.lt;obtain⟨_,c⟩:=aS.1 h;unfold zn World.setCell;rw[Ya (by simpa using a)]
 simp[Ot,c]
theorem jM {w:Xn} {base b n:Nat} {e:TypeId} {v:Xq} (h:w.ownsRow base e b v n xs) {a:Addr} (j:∀g,v.ownBlock=Xa g->a.block≠g) (u):(w.setCell a u).ownsRow base e b v n xs:=by
 refine⟨h.1,?_⟩
 rcases h.2 with d|⟨g,b,c,rfl,f,h,i⟩
 ·exact .inl d
 exact .inr ⟨g,b,c,rfl,f,by rw[Below.heap_setCell _ _ _ _ (fun e=>j g rfl e.symm)];exact h,i⟩
structure Elt (α:Type) where
 enc:α->List Xq
 k:Nat
 ty:TypeId
 st:TypeId
 bytes:Nat
 zv:Xq
 zero:α
 len:∀a,(enc a).length=k
 one:∀a,∀u∈enc a,u.oneCell'=Xc
 und:Tryz.prog.underlying st=Xa (.slice ty)
 info:(Tryz.prog.info? ty).map (fun i=>(i.zero,i.size,i.bytes))=Xa (Xa zv,k,bytes)
 zok:zv.cells=(enc zero).toArray
 few:k<=bytes
 pos:0<k
section
variable{α:Type} {E:Elt α}
def zl (E:Elt α) (w:Xn) (v:Xq) (l:List α):Prop:=jz E.enc w v l/\l.length*E.bytes<=140737488355328
def zc (E:Elt α) (base:Nat) (w:Xn) (v:Xq) (l:List α):Prop:=w.ownsRow base E.ty E.k v l.length (l.flatMap E.enc)/\l.length*E.bytes<=140737488355328
def zpH (E:Elt α) (w:Xn) (a:Option Addr) (l:List α):Prop:=∀(j:Nat) x,l[j]? =Xa x->∃ad,a=Xa ad/\∀W,zb w W->qW W (ad.add (j*E.k)) (E.enc x)
theorem zpJ (E:Elt α):E.zv.cells.size=E.k:=by rw[E.zok];simp[E.len]
theorem jH (E:Elt α) (l:List α):(l.flatMap E.enc).length=l.length*E.k:=qT l fun a _=>E.len a
theorem zl.grew {w:Xn} {v:Xq} {l:List α} (h:zl E w v l) (a:zb w w'):zl E w' v l:=⟨h.1.grew a,h.2⟩
theorem zl.rows {w:Xn} {v:Xq} {l:List α} (h:zl E w v l):∃a c,v= O a l.length c/\zpH E w a l:=by
 obtain⟨⟨a,c,e,f,g⟩,_⟩:=h;refine⟨a,c,e,fun j q b=>?_⟩
 cases a with
 | none=>rw[f rfl]at b;simp at b
 | some x=>exact⟨x,rfl,fun W i=>((g x rfl).grew i).elem (k:=E.k) (fun d _=>E.len d) b⟩
theorem zl.short {w:Xn} {v:Xq} {l:List α} (h:zl E w v l):l.length<=9223372036854775807:=by
 have a:=h.2;have a:l.length*1<=l.length*E.bytes:=Xz _ (nT E.pos E.few);omega
theorem zl.nil (E:Elt α) (w):zl E w (O Xb 0 0) ([]:List α):=⟨⟨Xb,0,rfl,fun _=>rfl,fun x a=>by cases a⟩,by simp⟩
theorem zc.at {base:Nat} {w:Xn} {v:Xq} {l:List α} (h:zc E base w v l):zl E w v l:=⟨j3 h.1,h.2⟩
theorem zc.grew {base:Nat} {w:Xn} {v:Xq} {l:List α} (h:zc E base w v l) (a:zb w w'):zc E base w' v l:=⟨Qo h.1 a,h.2⟩
theorem zc.base {base:Nat} {w:Xn} {v:Xq} {l:List α} (h:zc E base w v l) (hb:base'<=base):zc E base' w v l:=⟨q6 h.1 hb,h.2⟩
theorem zc.setCell {base:Nat} {w:Xn} {v:Xq} {l:List α} (h:zc E base w v l) {a:Addr} (b:a.block<base) (u):zc E base (w.setCell a u) v l:=⟨ownsRow_setCell_below h.1 b u,h.2⟩
theorem zc.setOther {base:Nat} {w:Xn} {v:Xq} {l:List α} (h:zc E base w v l) {a:Addr} (b:∀g,v.ownBlock=Xa g->a.block≠g) (u):zc E base (w.setCell a u) v l:=⟨jM h.1 b u,h.2⟩
theorem zc.lt {base:Nat} {w:Xn} {v:Xq} {l:List α} (h:zc E base w v l):∀g,v.ownBlock=Xa g->base<=g/\g<w.heap.size:=h.1.lt
theorem zc.form {base:Nat} {w:Xn} {v:Xq} {l:List α} (h:zc E base w v l):∃a c,v= O a l.length c:=by
 obtain⟨a,c,b,_⟩:=h.at.rows;exact⟨a,c,b⟩
theorem zc.formS {base:Nat} {w:Xn} {v:Xq} {l:List α} (h:zc E base w v l) (a:0<l.length):∃g c,v= O (Xa ⟨g,0,Xb⟩) l.length c:=by
 rcases h.1.2 with⟨rfl,b⟩|⟨g,a,d,b,_⟩
 ·omega
 exact⟨g,a,b⟩
theorem zc.fresh {base:Nat} {w:Xn} {v:Xq} {l:List α} (h:zc E base w v l):jR base v:=fun x n c e=>by
 rcases h.1.2 with⟨a,_⟩|⟨g,b,b,a,b,_⟩
 ·rw[a]at e;cases e
 rw[a]at e;cases e;exact b
theorem zc.nil (E:Elt α) (base:Nat) (w):zc E base w (O Xb 0 0) ([]:List α):=⟨World.ownsRow_nil _ _ _ _,by simp⟩
theorem zc.made (E:Elt α) (w:Xn):zc E w.heap.size (w.alloc (Xk #[] E.ty)) (O (Xa ⟨w.heap.size,0,Xb⟩) 0 0) ([]:List α):=⟨World.ownsRow_made w #[] 0 (nR _) (nZ _) (by simp),by simp⟩
theorem zc.ne {base:Nat} {w:Xn} {v:Xq} {l:List α} (h:zc E base w v l) {cs:List Xq} (hb:zn w b t cs) (d:t≠E.ty):∀g,v.ownBlock=Xa g->b≠g:=fun g a e=>by
 subst e
 rcases h.1.2 with⟨rfl,_⟩|⟨c,c,c,rfl,_,c,_⟩
 ·cases a
 simp only[Value.ownBlock,Option.some.injEq]at a;subst a;rw[hb]at c;cases c;exact d rfl
theorem zc.grown {base:Nat} {w:Xn} {a:Option Nat} {v:Xq} {l:List α} (h:zc E base w v l) (i:w.grownBy w' a) (c:∀g,v.ownBlock=Xa g->a≠Xa g):zc E base w' v l:=by
 refine⟨⟨h.1.1,?_⟩,h.2⟩
 rcases h.1.2 with e|⟨g,a,b,rfl,f,d,h⟩
 ·exact .inl e
 exact .inr ⟨g,a,b,rfl,f,by rw[i.block g (aS.1 d).1 (fun e=>c g rfl e.symm)];exact d,h⟩
def qj (E:Elt α) (base:Nat) (w:Xn) (v:Xq) (l:List α):Prop:=zl E w v l/\jR base v
theorem qj.base {base:Nat} {w:Xn} {v:Xq} {l:List α} (h:qj E base w v l) (hb:base'<=base):qj E base' w v l:=⟨h.1,fun x n c e=>nT hb (h.2 x n c e)⟩
theorem qj.nil (E:Elt α) (base:Nat) (w):qj E base w (O Xb 0 0) ([]:List α):=⟨zl.nil E w,Zu _⟩
theorem zc.new {base:Nat} {w:Xn} {v:Xq} {l:List α} (h:zc E base w v l):qj E base w v l:=⟨h.at,h.fresh⟩
theorem JH {w:Xn} {base:Nat} {v:Xq} {l:List α} (b) (a:zc E base w v l) (c:Nat):(Builtin.append_ #[E.st,E.st] b #[v,O Xb 0 c]).run prog w= .ok v w:=by
 obtain⟨b,b,_,d,_⟩:=info_parts E.info
 rcases a.1.2 with⟨rfl,_⟩|⟨g,a,a,rfl,_,_,a,_⟩
 ·simp[Builtin.append_,run_underlying E.und,sizeOf,typeInfo,b,Builtin.lenOf,Builtin.firstCells]
 simp[Builtin.append_,run_underlying E.und,sizeOf,typeInfo,b,Builtin.lenOf,Builtin.firstCells,a,storeCells]
theorem zx {w:Xn} {rest:List Oper} {a:Act} (g:o.guard=Xb) (s x) (q:o.op= .call { callee:= .builtin .append,args:=#[s,x],argTypes:=#[E.st,E.st] })
  (base:Nat) (vs:Xq) (f:List α) (r:a.eval s=vs) (b:zc E base w vs f) (c:Xq) (l:List α) (t:a.eval x=c) (j:zl E w c l) (hb:(f.length+l.length)*E.bytes<=140737488355328) (d:base<=w.heap.size)
  (n:∀h w',zc E base w' h (f++l)->w.grownBy w' vs.ownBlock->wpList prog ops Q rest (a.put o.dst h) w'):wpList prog ops Q (o :: rest) a w:=by
 obtain⟨⟨i,m,rfl,e,c⟩,_⟩:=j
 cases i with
 | none=>
  have i:=e rfl;subst i;refine wpList_plain g fun K i=>?_
  have e:=JH o.type b m;unfold Oper.wp execOp;simp only[q,resolve,invoke,builtin,Xx,Yd,rA,List.map_toArray,mP,List.map_nil,r,t,List.length_nil,e];exact i _ _ (n vs w (by rw[Yv];exact b) (World.grownBy.rfl' _ _))
 | some k=>
  obtain⟨v,u,e,i,j⟩:=info_parts E.info;have p:(f.length+l.length)*1<=(f.length+l.length)*E.bytes:=Xz _ (nT E.pos E.few);refine wpList_append_own w g s x E.st q base E.ty v _ E.k E.bytes E.und u e i j (zpJ E) E.pos vs f.length _ r b.1 k l.length m (l.flatMap E.enc) t (jH E l) (c k rfl) (qJ E.one l) (jj (by omega)) hb d fun h w' b p _=>?_
  exact n h w' ⟨by rw[lA,Ox];exact b,by rw[lA];exact hb⟩ p
theorem zaE {x y:α} (j:Nat) (cs:List Xq) (b:E.enc y=splice (E.enc x) j cs) (e:j+cs.length<=E.k):∀(l:List α) (i:Nat),l[i]? =Xa x->splice (l.flatMap E.enc) (i*E.k+j) cs=(l.set i y).flatMap E.enc
 | [],i,hi=>by simp at hi
 | a :: l,0,hi=>by
  simp at hi
  subst hi;have c:=E.len a;simp only[splice,Xw,Oi,zA,sZ]at b⊢;rw[b,Ys (by omega),Yf (by omega)]
  simp
 | a :: l,i+1,hi=>by
  have c:=E.len a;have d:=zaE j cs b e l i (by simpa using hi)
  simp only[splice,Xw,sS]at d⊢;rw[<-d,Oj,Yp (i*E.k) E.k,Yi,<-c,Yj,Yi,Yk,Oa]
theorem z3 {w:Xn} {rest:List Oper} {a:Act} (d:o.guard=Xb) (p x t) (C:o.op= .store t p x) (base:Nat) (v:Xq) (l:List α) (b:zc E base w v l)
  (g i j:Nat) (A:v.ownBlock=Xa g) (e y:α) (hi:l[i]? =Xa e) (cs:List Xq) (f:(Tryz.prog.info? t).map (·.size)=Xa cs.length) (G:E.enc y=splice (E.enc e) j cs) (B:j+cs.length<=E.k) (q:∀u∈cs,u.oneCell'=Xc)
  (m:Addr) (hp:a.eval p= Xj (Xa m)) (c:m=⟨g,i*E.k+j,Xb⟩) (k:Xq) (F:a.eval x=k) (h:k.cells=cs.toArray)
  (n:∀w',zc E base w' v (l.set i y)->w.grownBy w' (Xa g)->w'.heap.size=w.heap.size->wpList prog ops Q rest (a.put o.dst undef) w'):wpList prog ops Q (o :: rest) a w:=by
 subst c;refine wpList_plain d fun K z=>?_
 have d:=(gS.1 hi).1;have c:i*E.k+j+cs.length<=l.length*E.k:=by
  have:(i+1)*E.k<=l.length*E.k:=Yl _ d;rw[Yz]at this;omega
 obtain⟨w',D,m,r,s⟩:=qw (P:=prog) b.1 A (i*E.k+j) cs c q;have d:(Go.sizeOf t).run prog w= .ok cs.length w:=by
  cases c:Tryz.prog.info? t with
  | none=>simp[c]at f
  | some i=>simp[c]at f;simp[Go.sizeOf,typeInfo,c,f]
 have c:(Instr.storeAt t (Xj (Xa ⟨g,i*E.k+j,Xb⟩)) k).run prog w= .ok () w':=by
  simp[Instr.storeAt,Instr.sureAddr,storeVar,Xx,d,Result.andThen,h,D]
 unfold Oper.wp;simp only[execOp,C,hp,F,Xx,c,Result.andThen,Yd,Oper.upon];rw[zaE j cs G B l i hi]at m;exact z _ _ (n w' ⟨by rw[Yo];exact m,by rw[Yo];exact b.2⟩ r s)
theorem qn {w:Xn} {rest:List Oper} {a:Act} (e:o.guard=Xb) (p x) (q:o.op= .store E.ty p x) (base:Nat) (v:Xq) (l:List α) (b:zc E base w v l)
  (g i:Nat) (n:v.ownBlock=Xa g) (y:α) (hi:i<l.length) (c:Addr) (hp:a.eval p= Xj (Xa c)) (d:c=⟨g,i*E.k,Xb⟩) (k:Xq) (r:a.eval x=k) (h:k.cells=(E.enc y).toArray)
  (m:∀w',zc E base w' v (l.set i y)->w.grownBy w' (Xa g)->w'.heap.size=w.heap.size->wpList prog ops Q rest (a.put o.dst undef) w'):wpList prog ops Q (o :: rest) a w:=by
 obtain⟨f,f,_,j,_⟩:=info_parts E.info;refine z3 e p x E.ty q base v l b g i 0 n (l[i]) y (gE hi) (E.enc y) (by rw[f];simp[j,E.len]) ?_ (by rw[E.len];omega) (E.one y) c hp (by rw[d];rfl) k r h m
 unfold splice;rw[Oq,Yu,zA,Yq (by rw[E.len,E.len];exact nR _),Yv]
theorem zoJ (E:Elt α) (n:Nat):(madeCells E.zv.cells (n*E.k)).toList=(Xr n E.zero).flatMap E.enc:=by
 have e:((Xr n E.zero).flatMap E.enc).length=n*E.k:=by rw[jH E];simp
 have a:0<E.k:=E.pos
 apply Yb
 intro j
 rcases Yc j (n*E.k)with h|h
 ·have d:j=j / E.k*E.k+j % E.k:=by rw[Uf];exact(Nat.div_add_mod _ _).symm
  have b:j % E.k<E.k:=Nat.mod_lt _ a;have f:j / E.k<n:=(Om a).2 h;have g:(E.enc E.zero)[j % E.k]? =Xa ((E.enc E.zero)[j % E.k]'(by rw[E.len];exact b)):=gE _
  have a:=jX (enc:=E.enc) (k:=E.k) (Xr n E.zero) (j / E.k) E.zero (fun c _=>E.len c) (by simp[f]) (j % E.k) _ g
  rw[<-d]at a;rw[a]
  simp[madeCells,h,E.zok,E.len,b]
 rw[gN (by simp[madeCells];exact h),gN (by rw[e];exact h)]
theorem qX (E:Elt α) {w:Xn} {rest:List Oper} {a:Act} (b:o.guard=Xb) (l) (m:o.op= .makeSlice E.st l l) (n:Nat) (k:a.eval l= Xe Xf n) (f:n*E.bytes<=140737488355328)
  (h:∀C,zc E w.heap.size (w.alloc (Xk C E.ty)) (O (Xa ⟨w.heap.size,0,Xb⟩) n n) (Xr n E.zero)->wpList prog ops Q rest (a.put o.dst (O (Xa ⟨w.heap.size,0,Xb⟩) n n)) (w.alloc (Xk C E.ty))):wpList prog ops Q (o :: rest) a w:=by
 refine wpList_plain b fun K g=>?_
 obtain⟨p,j,c,d,e⟩:=info_parts E.info;have b:n*1<=n*E.bytes:=Xz _ (nT E.pos E.few);have i:((E.bytes:Int)*(n:Int))<=140737488355328:=by
  obtain⟨B,b⟩:=kB (n*E.bytes);rw[b]at f;rw[<-Int.natCast_mul,Uf,b];omega
 have b:=run_make (P:=prog) w E.st E.ty p _ E.und j c .i64 .i64 n n (by omega) (Int.le_refl _) (by rw[e];exact Int.le_trans i (by omega)) (by omega)
 rw[d,tN]at b;unfold Oper.wp;simp only[execOp,m,k,Xx,b,Result.andThen,Yd,Oper.upon];refine g _ _ (h _ ⟨⟨?_,.inr ⟨w.heap.size,n,madeCells E.zv.cells (n*E.k),by rw[lR],nR _,?_,?_,?_,?_,?_⟩⟩,by rw[lR];exact f⟩)
 ·rw[jH E]
 ·show(w.heap.push _)[w.heap.size]? =_
  simp
 ·rw[lR];exact nR _
 ·exact jj (by omega)
 ·rw[size_madeCells]
 rw[lR,Ok (by simp[madeCells]),zoJ E]
end
structure Out (B0 B1:Nat) (w w':Xn):Prop where
 os:w'.os=w.os
 tape:w'.tape=w.tape
 output:w'.output=w.output
 size:w.heap.size<=w'.heap.size
 block:∀k,k<w.heap.size->(k<B0\/B1<=k)->w'.heap[k]? =w.heap[k]?
theorem Out.refl (B0 B1:Nat) (w):Out B0 B1 w w:=⟨rfl,rfl,rfl,nR _,fun _ _ _=>rfl⟩
theorem Out.trans {a b c:Xn} (h:Out B0 B1 a b) (k:Out B0 B1 b c):Out B0 B1 a c:=
 ⟨k.os.trans h.os,k.tape.trans h.tape,k.output.trans h.output,nT h.size k.size,fun i e d=>(k.block i (Yh e h.size) d).trans (h.block i e d)⟩
theorem Out.grew {a b:Xn} (h:zb a b):Out B0 B1 a b:=⟨Below.os h,Below.tape h,Below.output h,bS h,fun i c _=>Below.block h i c⟩
theorem Out.setCell (B0 B1:Nat) (w:Xn) {p:Addr} (a:B0<=p.block) (b:p.block<B1) (u):Out B0 B1 w (w.setCell p u):=
 ⟨rfl,rfl,rfl,by simp[World.setCell],fun k _ a=>Below.heap_setCell _ _ _ _ (by omega)⟩
theorem Out.grown {w:Xn} {b:Option Nat} (a:w.grownBy w' b) (h:∀g,b=Xa g->B0<=g/\g<B1):Out B0 B1 w w':=
 ⟨a.os,a.tape,a.output,a.size,fun k b c=>a.block k b (fun e=>by have:=h k e.symm;omega)⟩
theorem Out.wide {A0 A1:Nat} {a b:Xn} (h:Out A0 A1 a b) (c:B0<=A0) (d:A1<=B1):Out B0 B1 a b:=
 ⟨h.os,h.tape,h.output,h.size,fun i c d=>h.block i c (by omega)⟩
theorem Out.drew (w:Xn):Out B0 B1 w w.drew:=Out.grew (gW _)
theorem Out.grew_of {w:Xn} (h:zb w W) (b:w.heap.size<=B0) (k:Out B0 B1 W w'):zb w w':=
 (show Below _ _ _ from Below.trans h ⟨k.os,k.tape,k.output,k.size,fun i a=>k.block i (Yh a (bS h)) (.inl (Yh a b))⟩)
theorem Out.zero {w:Xn} (h:Out 0 0 w w'):zb w w':=⟨h.os,h.tape,h.output,h.size,fun k a=>h.block k a (.inr (nZ _))⟩
theorem Box.out {w:Xn} {cs:List Xq} (h:Box w b cs) (k:Out B0 B1 w w') (hb:b<B0\/B1<=b):Box w' b cs:=by
 have a:=h.lt;obtain⟨t,h⟩:=h;exact⟨t,by rw[k.block b a hb];exact h⟩
section
variable{α:Type} {E:Elt α}
def ziV (E:Elt α) (B0 B1:Nat) (w:Xn) (v:Xq) (l:List α):Prop:=∀w',Out B0 B1 w w'->zl E w' v l
theorem ziV.now {w:Xn} {v:Xq} {l:List α} (h:ziV E B0 B1 w v l):zl E w v l:=h w (Out.refl _ _ _)
theorem ziV.out {w:Xn} {v:Xq} {l:List α} (h:ziV E B0 B1 w v l) (k:Out B0 B1 w w'):ziV E B0 B1 w' v l:=fun b a=>h b (k.trans a)
theorem ziV.less {A0 A1:Nat} {w:Xn} {v:Xq} {l:List α} (h:ziV E B0 B1 w v l) (a:B0<=A0) (b:A1<=B1):ziV E A0 A1 w v l:=fun d c=>h d (c.wide a b)
theorem zl.stays (B1:Nat) {w:Xn} {v:Xq} {l:List α} (h:zl E w v l) (a:w.heap.size<=B0) (b:zb w W):ziV E B0 B1 W v l:=fun _ k=>h.grew (k.grew_of b a)
theorem zl.s0 {w:Xn} {v:Xq} {l:List α} (h:zl E w v l):ziV E 0 0 w v l:=fun _ k=>h.grew k.zero
theorem qj.stays {base:Nat} {w:Xn} {v:Xq} {l:List α} (h:qj E base w v l):ziV E 0 base w v l:=fun a k=>by
 obtain⟨⟨⟨b,c,a,d,e⟩,f⟩,g⟩:=h;refine⟨⟨b,c,a,d,fun x b j u c=>?_⟩,f⟩
 subst b;have b:=e x rfl j u c;have d:=World.block_lt_of_cell? _ _ b;have c:=g x _ _ a;rw[World.cell?_of_block (w:=w) (k.block _ d (.inr (by rw[Za];exact c)))]
 exact b
theorem Zg (E:Elt α) (w:Xn) (x:α) (cs:Array Xq) (t) (a:cs=(E.enc x).toArray) (hb:E.bytes<=140737488355328):zl E (w.alloc (Xk cs t)) (O (Xa ⟨w.heap.size,0,Xb⟩) 1 1) [x]:=by
 subst a;refine⟨⟨_,1,rfl,fun h=>(by cases h),fun y a=>?_⟩,by simpa using hb⟩
 cases a
 simpa using qW.top w (E.enc x) t rfl
end
def Cap:Xq->Prop
 | O _ n c=>n<=c
 | _=>True
theorem zc.cap {α:Type} {E:Elt α} {base:Nat} {w:Xn} {v:Xq} {l:List α} (h:zc E base w v l):Cap v:=by
 rcases h.1.2 with⟨rfl,_⟩|⟨g,a,a,rfl,_,_,a,_⟩
 ·exact nR _
 exact a
structure zm (D:Nat->Prop) (w w':Xn):Prop where
 os:w'.os=w.os
 tape:w'.tape=w.tape
 output:w'.output=w.output
 size:w.heap.size<=w'.heap.size
 block:∀k,k<w.heap.size->¬D k->w'.heap[k]? =w.heap[k]?
theorem zm.refl (D:Nat->Prop) (w):zm D w w:=⟨rfl,rfl,rfl,nR _,fun _ _ _=>rfl⟩
theorem zm.trans {D:Nat->Prop} {a b c:Xn} (h:zm D a b) (k:zm D b c):zm D a c:=
 ⟨k.os.trans h.os,k.tape.trans h.tape,k.output.trans h.output,nT h.size k.size,fun i e d=>(k.block i (Yh e h.size) d).trans (h.block i e d)⟩
theorem zm.grew {D:Nat->Prop} {a b:Xn} (h:zb a b):zm D a b:=⟨Below.os h,Below.tape h,Below.output h,bS h,fun i c _=>Below.block h i c⟩
theorem zm.wide {D c:Nat->Prop} {a b:Xn} (h:zm c a b) (d:∀k,c k->D k):zm D a b:=⟨h.os,h.tape,h.output,h.size,fun i e c=>h.block i e (fun e=>c (d i e))⟩
section
variable{α:Type} {E:Elt α}
def zjR (E:Elt α) (D:Nat->Prop) (w:Xn) (v:Xq) (l:List α):Prop:=∀w',zm D w w'->zl E w' v l
theorem zjR.out {D:Nat->Prop} {w:Xn} {v:Xq} {l:List α} (h:zjR E D w v l) (k:zm D w w'):zjR E D w' v l:=fun b a=>h b (k.trans a)
theorem qj.staysD {base:Nat} {w:Xn} {v:Xq} {l:List α} (h:qj E base w v l) {D:Nat->Prop} (i:∀k,D k->k<base):zjR E D w v l:=fun a k=>by
 obtain⟨⟨⟨b,c,a,d,e⟩,f⟩,g⟩:=h;refine⟨⟨b,c,a,d,fun x b j u c=>?_⟩,f⟩
 subst b;have b:=e x rfl j u c;have c:=World.block_lt_of_cell? _ _ b;have d:=g x _ _ a;rw[World.cell?_of_block (w:=w) (k.block _ c (fun e=>by have:=i _ e;rw[Za]at this;omega))]
 exact b
end
theorem zc.obj {α:Type} {E:Elt α} {base:Nat} {w:Xn} {v:Xq} {l:List α} (h:zc E base w v l) (b:v.ownBlock=Xa g):∃cs,w.heap[g]? =Xa (Xk cs E.ty (0,0)):=by
 rcases h.1.2 with⟨rfl,_⟩|⟨a,a,a,rfl,_,c,_⟩
 ·cases b
 simp only[Value.ownBlock,Option.some.injEq]at b;subst b;exact⟨a,c⟩
theorem zc.apart {α a:Type} {E:Elt α} {F:Elt a} {base:Nat} {w:Xn} {v u:Xq} {l:List α} {m:List a} (h:zc E base w v l) (k:zc F base' w u m) (c:E.ty≠F.ty):∀g,v.ownBlock=Xa g->u.ownBlock≠Xa g:=fun g a d=>by
 obtain⟨b,b⟩:=h.obj a;obtain⟨a,a⟩:=k.obj d;rw[b]at a;simp only[Option.some.injEq,Obj.cells.injEq]at a;exact c a.2.1
theorem zc.one {α:Type} {E:Elt α} {base n c:Nat} {w:Xn} {l:List α} (h:zc E base w (O (Xa ⟨g,0,Xb⟩) n c) l) {i:Nat} {x:α} (f:l[i]? =Xa x):qW w ((Addr.mk g 0 Xb).add (i*E.k)) (E.enc x):=by
 obtain⟨a,a,e,a⟩:=h.at.rows;obtain⟨b,b,d⟩:=a i _ f;cases e;cases b;exact d w (zb.refl _)
def bel (m n:Int):Bool:=decide (0<=m) && decide (m<n)
theorem j9 {m n:Int}:bel m n=Xc↔0<=m/\m<n:=by simp[bel]
theorem znL {m n:Int} (h:¬(0<=m/\m<n)):bel m n=Xd:=by
 cases a:bel m n with
 | false=>rfl
 | true=>exact absurd (j9.1 a) h
theorem zrs {α:Type} {p:α->Bool} {fs:List α} {k:Nat} {q:α} (h:fs[k]? =Xa q) (a:p q=Xc):fs.any p=Xc:=Ym.2 ⟨q,mG h,a⟩
theorem zrr {α:Type} {p:α->Bool} {fs:List α} (hb:∀(j:Nat) x,fs[j]? =Xa x->p x=Xd):fs.any p=Xd:=Yy.2 fun x b=>by
 obtain⟨j,a⟩:=Ou b;rw[hb j x a]
 decide
theorem jL {α:Type} {l:List α} {k:Nat} {q:α} (h:l[k]? =Xa q):l.drop k=q :: l.drop (k+1):=by
 obtain⟨a,rfl⟩:=gS.1 h;exact List.drop_eq_getElem_cons a
theorem j0 {α:Type} {l:List α} {k:Nat} {q:α} (h:l[k]? =Xa q):l.take (k+1)=l.take k++ [q]:=by
 rw[List.take_add_one,h];rfl
theorem zbQ {α:Type} {A:α} {p k:Nat} {s:α} (h:Ob k [(p,A)]=Xa s):k=p/\s=A:=by
 by_cases a:k=p
 ·subst a
  simp at h
  exact⟨rfl,h.symm⟩
 have b:(k == p)=Xd:=by simpa using a
 simp[Ob,b]at h
theorem zc.out {α:Type} {E:Elt α} {base:Nat} {w:Xn} {v:Xq} {l:List α} (h:zc E base w v l) (k:Out B0 B1 w w') (hb:∀g,v.ownBlock=Xa g->g<B0\/B1<=g):zc E base w' v l:=by
 refine⟨⟨h.1.1,?_⟩,h.2⟩
 rcases h.1.2 with d|⟨g,a,b,rfl,e,c,f⟩
 ·exact .inl d
 exact .inr ⟨g,a,b,rfl,e,by rw[k.block g (aS.1 c).1 (hb g rfl)];exact c,f⟩
theorem zmG {α:Type} {A B:α} {p q k:Nat} {s:α} (h:Ob k [(p,A),(q,B)]=Xa s):(k=p/\s=A)\/(k=q/\s=B):=by
 by_cases b:k=p
 ·subst b
  simp at h
  exact .inl ⟨rfl,h.symm⟩
 by_cases c:k=q
 ·subst c;have a:(k == p)=Xd:=by simpa using b
  simp[Ob,a]at h
  exact .inr ⟨rfl,h.symm⟩
 have a:(k == p)=Xd:=by simpa using b
 have b:(k == q)=Xd:=by simpa using c
 simp[Ob,a,b]at h
theorem zl.beside {α:Type} {E:Elt α} {w:Xn} {a:Option Nat} {v:Xq} {l:List α} (h:zl E w v l) (g:w.grownBy w' a) (i:∀x n c,v= O (Xa x) n c->Xa x.block≠a):zl E w' v l:=by
 obtain⟨⟨b,c,a,d,e⟩,f⟩:=h;refine⟨⟨b,c,a,d,fun x d j u b=>?_⟩,f⟩
 subst d;exact g.cell (e x rfl j u b) (by rw[Za];exact i x _ _ a)
theorem zoe {α:Type} {l:List α} {i:Nat} {v:α} (h:l[i]? =Xa v):l.set i v=l:=by
 apply Yb
 intro j
 by_cases e:j=i
 ·subst e;rw[sF (gS.1 h).1,h]
 rw[sN (fun h=>e h.symm)]
theorem Zj {a b c:Xn} {d:Option Nat} (h:a.grownBy b d) (k:b.grownBy c d):a.grownBy c d:=
 ⟨k.os.trans h.os,k.tape.trans h.tape,k.output.trans h.output,nT h.size k.size,fun i d e=>(k.block i (Yh d h.size) e).trans (h.block i d e)⟩
theorem zds {a b:Xn} (h:zb a b) (c:Option Nat):a.grownBy b c:=⟨Below.os h,Below.tape h,Below.output h,bS h,fun i c _=>Below.block h i c⟩
def pgv (p:Pg):List Xq:=[Xe Xg p.b0,Xe Xg p.b1,Xe Xg p.b2,Xe Xg p.b3,Xe Xg p.b4,Xe Xg p.b5,Xe Xg p.b6,Xe Xg p.b7]
def frv (a:Fr):List Xq:=[Xe Xg a.p.b0,Xe Xg a.p.b1,Xe Xg a.p.b2,Xe Xg a.p.b3,Xe Xg a.p.b4,Xe Xg a.p.b5,Xe Xg a.p.b6,Xe Xg a.p.b7,Xe Xf a.r,Xh a.u,Xh a.d,Xe Xf a.f,Xe Xf a.x]
theorem zr5:(Tryz.prog.info? 93).map (fun i=>(i.zero,i.size,i.bytes))=Xa (Xa (Xi #[Xe Xg 0,Xe Xg 0,Xe Xg 0,Xe Xg 0,Xe Xg 0,Xe Xg 0,Xe Xg 0,Xe Xg 0,Xe Xf 0,Xh Xd,Xh Xd,Xe Xf 0,Xe Xf 0]),13,40):=by kernel_rfl
def frz:Xq:= Xi #[Xe Xg 0,Xe Xg 0,Xe Xg 0,Xe Xg 0,Xe Xg 0,Xe Xg 0,Xe Xg 0,Xe Xg 0,Xe Xf 0,Xh Xd,Xh Xd,Xe Xf 0,Xe Xf 0]
theorem zm2:frz.cells=(frv fr0).toArray:=rfl
theorem Zk (a):(frv a).length=13:=rfl
theorem zfy (a):∀u∈frv a,u.oneCell'=Xc:=fun u b=>by
 simp only[frv,mC,nM,or_false]at b
 rcases b with rfl|rfl|rfl|rfl|rfl|rfl|rfl|rfl|rfl|rfl|rfl|rfl|rfl <;> rfl
theorem ziw:13<=40:=by decide
theorem zdv:0<13:=by decide
theorem zfB {a b:Fr} (h:zbr a b=Xc):a=b:=(zdy a b).1 h
theorem zoY {a b:Fr} (h:a≠b):zbr a b=Xd:=by
 cases c:zbr a b with
 | false=>rfl
 | true=>exact absurd (zfB c) h
def qh (w:Xn) (v:Xq) (l:List Fr):Prop:=jz frv w v l/\l.length*40<=140737488355328
def zi (base:Nat) (w:Xn) (v:Xq) (l:List Fr):Prop:=w.ownsRow base 93 13 v l.length (l.flatMap frv)/\l.length*40<=140737488355328
def zoX (w:Xn) (a:Option Addr) (l:List Fr):Prop:=∀(j:Nat) x,l[j]? =Xa x->∃ad,a=Xa ad/\∀W,zb w W->qW W (ad.add (j*13)) (frv x)
theorem zqv:frz.cells.size=13:=by rw[zm2];simp[Zk]
theorem Qg (l:List Fr):(l.flatMap frv).length=l.length*13:=qT l fun a _=>Zk a
theorem qh.grew {w:Xn} {v:Xq} {l:List Fr} (h:qh w v l) (a:zb w w'):qh w' v l:=⟨h.1.grew a,h.2⟩
theorem qh.rows {w:Xn} {v:Xq} {l:List Fr} (h:qh w v l):∃a c,v= O a l.length c/\zoX w a l:=by
 obtain⟨⟨a,c,e,f,g⟩,_⟩:=h;refine⟨a,c,e,fun j q b=>?_⟩
 cases a with
 | none=>rw[f rfl]at b;simp at b
 | some x=>exact⟨x,rfl,fun W i=>((g x rfl).grew i).elem (k:=13) (fun d _=>Zk d) b⟩
theorem qh.short {w:Xn} {v:Xq} {l:List Fr} (h:qh w v l):l.length<=9223372036854775807:=by
 have a:=h.2;have a:l.length*1<=l.length*40:=Xz _ (nT zdv ziw);omega
theorem qh.setCell {base:Nat} {w:Xn} {v:Xq} {l:List Fr} (h:qh w v l) (c:jR base v) {a:Addr} (b:a.block<base) (u):qh (w.setCell a u) v l:=⟨h.1.setCell c b u,h.2⟩
theorem qh.nil (w):qh w (O Xb 0 0) ([]:List Fr):=⟨⟨Xb,0,rfl,fun _=>rfl,fun x a=>by cases a⟩,by simp⟩
theorem zi.at {base:Nat} {w:Xn} {v:Xq} {l:List Fr} (h:zi base w v l):qh w v l:=⟨j3 h.1,h.2⟩
theorem zi.grew {base:Nat} {w:Xn} {v:Xq} {l:List Fr} (h:zi base w v l) (a:zb w w'):zi base w' v l:=⟨Qo h.1 a,h.2⟩
theorem zi.base {base:Nat} {w:Xn} {v:Xq} {l:List Fr} (h:zi base w v l) (hb:base'<=base):zi base' w v l:=⟨q6 h.1 hb,h.2⟩
theorem zi.setCell {base:Nat} {w:Xn} {v:Xq} {l:List Fr} (h:zi base w v l) {a:Addr} (b:a.block<base) (u):zi base (w.setCell a u) v l:=⟨ownsRow_setCell_below h.1 b u,h.2⟩
theorem zi.setOther {base:Nat} {w:Xn} {v:Xq} {l:List Fr} (h:zi base w v l) {a:Addr} (b:∀g,v.ownBlock=Xa g->a.block≠g) (u):zi base (w.setCell a u) v l:=⟨jM h.1 b u,h.2⟩
theorem zi.lt {base:Nat} {w:Xn} {v:Xq} {l:List Fr} (h:zi base w v l):∀g,v.ownBlock=Xa g->base<=g/\g<w.heap.size:=h.1.lt
theorem zi.form {base:Nat} {w:Xn} {v:Xq} {l:List Fr} (h:zi base w v l):∃a c,v= O a l.length c:=by
 obtain⟨a,c,b,_⟩:=h.at.rows;exact⟨a,c,b⟩
theorem zi.formS {base:Nat} {w:Xn} {v:Xq} {l:List Fr} (h:zi base w v l) (a:0<l.length):∃g c,v= O (Xa ⟨g,0,Xb⟩) l.length c:=by
 rcases h.1.2 with⟨rfl,b⟩|⟨g,a,d,b,_⟩
 ·omega
 exact⟨g,a,b⟩
theorem zi.fresh {base:Nat} {w:Xn} {v:Xq} {l:List Fr} (h:zi base w v l):jR base v:=fun x n c e=>by
 rcases h.1.2 with⟨a,_⟩|⟨g,b,b,a,b,_⟩
 ·rw[a]at e;cases e
 rw[a]at e;cases e;exact b
theorem zi.nil (base:Nat) (w):zi base w (O Xb 0 0) ([]:List Fr):=⟨World.ownsRow_nil _ _ _ _,by simp⟩
theorem zi.made (w:Xn):zi w.heap.size (w.alloc (Xk #[] 93)) (O (Xa ⟨w.heap.size,0,Xb⟩) 0 0) ([]:List Fr):=⟨World.ownsRow_made w #[] 0 (nR _) (nZ _) (by simp),by simp⟩
theorem zi.ne {base:Nat} {w:Xn} {v:Xq} {l:List Fr} (h:zi base w v l) {cs:List Xq} (hb:zn w b t cs) (d:t≠93):∀g,v.ownBlock=Xa g->b≠g:=fun g a e=>by
 subst e
 rcases h.1.2 with⟨rfl,_⟩|⟨c,c,c,rfl,_,c,_⟩
 ·cases a
 simp only[Value.ownBlock,Option.some.injEq]at a;subst a;rw[hb]at c;cases c;exact d rfl
def qR (base:Nat) (w:Xn) (v:Xq) (l:List Fr):Prop:=qh w v l/\jR base v
theorem qR.base {base:Nat} {w:Xn} {v:Xq} {l:List Fr} (h:qR base w v l) (hb:base'<=base):qR base' w v l:=⟨h.1,fun x n c e=>nT hb (h.2 x n c e)⟩
theorem qR.setCell {base:Nat} {w:Xn} {v:Xq} {l:List Fr} (h:qR base w v l) {a:Addr} (b:a.block<base) (u):qR base (w.setCell a u) v l:=⟨h.1.setCell h.2 b u,h.2⟩
theorem qR.nil (base:Nat) (w):qR base w (O Xb 0 0) ([]:List Fr):=⟨qh.nil w,Zu _⟩
theorem zi.new {base:Nat} {w:Xn} {v:Xq} {l:List Fr} (h:zi base w v l):qR base w v l:=⟨h.at,h.fresh⟩
theorem zbW {w:Xn} {base:Nat} {v:Xq} {l:List Fr} (b) (a:zi base w v l) (c:Nat):(Builtin.append_ #[30,30] b #[v,O Xb 0 c]).run prog w= .ok v w:=by
 obtain⟨b,b,_,d,_⟩:=info_parts zr5
 rcases a.1.2 with⟨rfl,_⟩|⟨g,a,a,rfl,_,_,a,_⟩
 ·simp[Builtin.append_,run_underlying underlying30,sizeOf,typeInfo,b,Builtin.lenOf,Builtin.firstCells]
 simp[Builtin.append_,run_underlying underlying30,sizeOf,typeInfo,b,Builtin.lenOf,Builtin.firstCells,a,storeCells]
theorem zaP {w:Xn} {rest:List Oper} {a:Act} (g:o.guard=Xb) (s x) (q:o.op= .call { callee:= .builtin .append,args:=#[s,x],argTypes:=#[30,30] })
  (base:Nat) (vs:Xq) (f:List Fr) (r:a.eval s=vs) (b:zi base w vs f) (c:Xq) (l:List Fr) (t:a.eval x=c) (j:qh w c l) (hb:(f.length+l.length)*40<=140737488355328) (d:base<=w.heap.size)
  (n:∀h w',zi base w' h (f++l)->w.grownBy w' vs.ownBlock->wpList prog ops Q rest (a.put o.dst h) w'):wpList prog ops Q (o :: rest) a w:=by
 obtain⟨⟨i,m,rfl,e,c⟩,_⟩:=j
 cases i with
 | none=>
  have i:=e rfl;subst i;refine wpList_plain g fun K i=>?_
  have e:=zbW o.type b m;unfold Oper.wp execOp;simp only[q,resolve,invoke,builtin,Xx,Yd,rA,List.map_toArray,mP,List.map_nil,r,t,List.length_nil,e];exact i _ _ (n vs w (by rw[Yv];exact b) (World.grownBy.rfl' _ _))
 | some k=>
  obtain⟨v,u,e,i,j⟩:=info_parts zr5;have p:(f.length+l.length)*1<=(f.length+l.length)*40:=Xz _ (nT zdv ziw);refine wpList_append_own w g s x 30 q base 93 v _ 13 40 underlying30 u e i j zqv zdv vs f.length _ r b.1 k l.length m (l.flatMap frv) t (Qg l) (c k rfl) (qJ zfy l) (jj (by omega)) hb d fun h w' b p _=>?_
  exact n h w' ⟨by rw[lA,Ox];exact b,by rw[lA];exact hb⟩ p
theorem zbq {x y:Fr} (j:Nat) (cs:List Xq) (b:frv y=splice (frv x) j cs) (e:j+cs.length<=13):∀(l:List Fr) (i:Nat),l[i]? =Xa x->splice (l.flatMap frv) (i*13+j) cs=(l.set i y).flatMap frv
 | [],i,hi=>by simp at hi
 | a :: l,0,hi=>by
  simp at hi
  subst hi;have c:=Zk a;simp only[splice,Xw,Oi,zA,sZ]at b⊢;rw[b,Ys (by omega),Yf (by omega)]
  simp
 | a :: l,i+1,hi=>by
  have c:=Zk a;have d:=zbq j cs b e l i (by simpa using hi)
  simp only[splice,Xw,sS]at d⊢;rw[<-d,Oj,Yp (i*13) 13,Yi,<-c,Yj,Yi,Yk,Oa]
theorem qt {w:Xn} {rest:List Oper} {a:Act} (d:o.guard=Xb) (p x t) (C:o.op= .store t p x) (base:Nat) (v:Xq) (l:List Fr) (b:zi base w v l)
  (g i j:Nat) (A:v.ownBlock=Xa g) (e y:Fr) (hi:l[i]? =Xa e) (cs:List Xq) (f:(Tryz.prog.info? t).map (·.size)=Xa cs.length) (F:frv y=splice (frv e) j cs) (B:j+cs.length<=13) (q:∀u∈cs,u.oneCell'=Xc)
  (m:Addr) (hp:a.eval p= Xj (Xa m)) (c:m=⟨g,i*13+j,Xb⟩) (k:Xq) (E:a.eval x=k) (h:k.cells=cs.toArray)
  (n:∀w',zi base w' v (l.set i y)->w.grownBy w' (Xa g)->w'.heap.size=w.heap.size->wpList prog ops Q rest (a.put o.dst undef) w'):wpList prog ops Q (o :: rest) a w:=by
 subst c;refine wpList_plain d fun K z=>?_
 have d:=(gS.1 hi).1;have c:i*13+j+cs.length<=l.length*13:=by
  have:(i+1)*13<=l.length*13:=Yl _ d;rw[Yz]at this;omega
 obtain⟨w',D,m,r,s⟩:=qw (P:=prog) b.1 A (i*13+j) cs c q;have d:(Go.sizeOf t).run prog w= .ok cs.length w:=by
  cases c:Tryz.prog.info? t with
  | none=>simp[c]at f
  | some i=>simp[c]at f;simp[Go.sizeOf,typeInfo,c,f]
 have c:(Instr.storeAt t (Xj (Xa ⟨g,i*13+j,Xb⟩)) k).run prog w= .ok () w':=by
  simp[Instr.storeAt,Instr.sureAddr,storeVar,Xx,d,Result.andThen,h,D]
 unfold Oper.wp;simp only[execOp,C,hp,E,Xx,c,Result.andThen,Yd,Oper.upon];rw[zbq j cs F B l i hi]at m;exact z _ _ (n w' ⟨by rw[Yo];exact m,by rw[Yo];exact b.2⟩ r s)
theorem Qp {w:Xn} {rest:List Oper} {a:Act} (e:o.guard=Xb) (p x) (q:o.op= .store 93 p x) (base:Nat) (v:Xq) (l:List Fr) (b:zi base w v l)
  (g i:Nat) (n:v.ownBlock=Xa g) (y:Fr) (hi:i<l.length) (c:Addr) (hp:a.eval p= Xj (Xa c)) (d:c=⟨g,i*13,Xb⟩) (k:Xq) (r:a.eval x=k) (h:k.cells=(frv y).toArray)
  (m:∀w',zi base w' v (l.set i y)->w.grownBy w' (Xa g)->w'.heap.size=w.heap.size->wpList prog ops Q rest (a.put o.dst undef) w'):wpList prog ops Q (o :: rest) a w:=by
 obtain⟨f,f,_,j,_⟩:=info_parts zr5;refine qt e p x 93 q base v l b g i 0 n (l[i]) y (gE hi) (frv y) (by rw[f];simp[j,Zk]) ?_ (by rw[Zk];omega) (zfy y) c hp (by rw[d];rfl) k r h m
 unfold splice;rw[Oq,Yu,zA,Yq (by rw[Zk,Zk];exact nR _),Yv]
theorem zkW (n:Nat):(madeCells frz.cells (n*13)).toList=(Xr n fr0).flatMap frv:=by
 have e:((Xr n fr0).flatMap frv).length=n*13:=by rw[Qg];simp
 have a:0<13:=zdv
 apply Yb
 intro j
 rcases Yc j (n*13)with h|h
 ·have d:j=j / 13*13+j % 13:=by rw[Uf];exact(Nat.div_add_mod _ _).symm
  have c:j % 13<13:=Nat.mod_lt _ a;have f:j / 13<n:=(Om a).2 h;have b:(frv fr0)[j % 13]? =Xa ((frv fr0)[j % 13]'(by rw[Zk];exact c)):=gE _
  have a:=jX (enc:=frv) (k:=13) (Xr n fr0) (j / 13) fr0 (fun c _=>Zk c) (by simp[f]) (j % 13) _ b
  rw[<-d]at a;rw[a]
  simp[madeCells,h,zm2,Zk]
  rw[b];rfl
 rw[gN (by simp[madeCells];exact h),gN (by rw[e];exact h)]
theorem QM {w:Xn} {rest:List Oper} {a:Act} (b:o.guard=Xb) (l) (m:o.op= .makeSlice 30 l l) (n:Nat) (j:a.eval l= Xe Xf n) (k:n*40<=140737488355328)
  (h:∀C,zi w.heap.size (w.alloc (Xk C 93)) (O (Xa ⟨w.heap.size,0,Xb⟩) n n) (Xr n fr0)->wpList prog ops Q rest (a.put o.dst (O (Xa ⟨w.heap.size,0,Xb⟩) n n)) (w.alloc (Xk C 93))):wpList prog ops Q (o :: rest) a w:=by
 refine wpList_plain b fun K f=>?_
 obtain⟨p,i,c,d,e⟩:=info_parts zr5;have b:n*1<=n*40:=Xz _ (nT zdv ziw);have g:((40:Nat):Int)*(n:Int)<=140737488355328:=by omega
 have b:=run_make (P:=prog) w 30 93 p _ underlying30 i c .i64 .i64 n n (by omega) (Int.le_refl _) (by rw[e];exact Int.le_trans g (by omega)) (by omega)
 rw[d,tN]at b;unfold Oper.wp;simp only[execOp,m,j,Xx,b,Result.andThen,Yd,Oper.upon];refine f _ _ (h _ ⟨⟨?_,.inr ⟨w.heap.size,n,madeCells frz.cells (n*13),by rw[lR],nR _,?_,?_,?_,?_,?_⟩⟩,by rw[lR];exact k⟩)
 ·rw[Qg]
 ·show(w.heap.push _)[w.heap.size]? =_
  simp;rfl
 ·rw[lR];exact nR _
 ·exact jj (by omega)
 ·rw[size_madeCells]
 rw[lR,Ok (by simp[madeCells]),zkW]
theorem Jh {P:Program} (w E) (k:IntKind) (d:Nat) (xs c:Array Xq) (i:TypeInfo) (e:P.underlying E=Xa (.int k)) (hi:P.info? E=Xa i) (q:i.size=1):
  ∀(a b:List Int) (o:Nat),a.length=b.length->(∀j v,a[j]? =Xa v->xs[o+j]? =Xa (.int k v))->(∀j v,b[j]? =Xa v->c[o+j]? =Xa (.int k v))->
   (Op.eqItems (d+1) E 1 xs c (List.range' o a.length)).run P w= .ok (decide (a=b)) w
 | [],[],_,_,_,_=>by simp[Op.eqItems]
 | [],_ :: _,_,h,_,_=>by simp at h
 | _ :: _,[],_,h,_,_=>by simp at h
 | x :: a,y :: b,o,h,l,m=>by
  have n:=l 0 x rfl;have p:=m 0 y rfl;have g:∀(f:Array Xq) v,f[o+0]? =Xa (.int k v)->(part E f (o*1)).run P w= .ok (.int k v) w:=fun f v f=>by
   rw[Nat.mul_one];exact run_part_plain w (by simp[Program.plainKey,e]) f
  have r:=Jh w E k d xs c i e hi q a b (o+1) (by simpa using h) (fun j v f=>by rw[Yi,Yp 1 j];exact l (j+1) v (by simpa using f)) (fun j v f=>by rw[Yi,Yp 1 j];exact m (j+1) v (by simpa using f))
  simp only[Yr,List.range'_succ,Op.eqItems,Xx,g xs x n,g c y p,rA,run_equalIn_int w d E k k x y e]
  by_cases c:x=y
  ·subst c
   simp[r]
  have:(x == y)=Xd:=by simpa using c
  simp[this,c]
theorem zd5 {P:Program} (w T E) (k:IntKind) (d n:Nat) (a b:List Int) (i:TypeInfo) (f:P.underlying T=Xa (.array n E)) (e:P.underlying E=Xa (.int k)) (hi:P.info? E=Xa i) (c:i.size=1)
  (g:a.length=n) (hb:b.length=n):
  (Op.equalIn (d+2) T (Xi (a.map (Value.int k)).toArray) (Xi (b.map (Value.int k)).toArray)).run P w= .ok (decide (a=b)) w:=by
 have h:P.cellsOf E=1:=by simp[Program.cellsOf,hi,c]
 rw[run_equalIn_array w (d+1) _ _ f hi,h,Oo,<-g];exact Jh w E k d _ _ i e hi c a b 0 (by omega) (fun j v c=>by simp[c]) (fun j v c=>by simp[c])
def zfQ (W:Xn) (y:Addr) (a:Fr):Prop:=
 W.cell? y=Xa (Xe Xg a.p.b0)/\W.cell? { block:=y.block,off:=y.off+1 }=Xa (Xe Xg a.p.b1)/\W.cell? { block:=y.block,off:=y.off+2 }=Xa (Xe Xg a.p.b2)/\W.cell? { block:=y.block,off:=y.off+3 }=Xa (Xe Xg a.p.b3)/\
 W.cell? { block:=y.block,off:=y.off+4 }=Xa (Xe Xg a.p.b4)/\W.cell? { block:=y.block,off:=y.off+5 }=Xa (Xe Xg a.p.b5)/\W.cell? { block:=y.block,off:=y.off+6 }=Xa (Xe Xg a.p.b6)/\W.cell? { block:=y.block,off:=y.off+7 }=Xa (Xe Xg a.p.b7)/\
 W.cell? { block:=y.block,off:=y.off+8 }=Xa (Xe Xf a.r)/\W.cell? { block:=y.block,off:=y.off+9 }=Xa (Xh a.u)/\W.cell? { block:=y.block,off:=y.off+10 }=Xa (Xh a.d)/\W.cell? { block:=y.block,off:=y.off+11 }=Xa (Xe Xf a.f)/\W.cell? { block:=y.block,off:=y.off+12 }=Xa (Xe Xf a.x)
theorem qW.fr {y:Addr} {a:Fr} (h:qW W y (frv a)):zfQ W y a:=
 ⟨h 0 _ rfl,h 1 _ rfl,h 2 _ rfl,h 3 _ rfl,h 4 _ rfl,h 5 _ rfl,h 6 _ rfl,h 7 _ rfl,h 8 _ rfl,h 9 _ rfl,h 10 _ rfl,h 11 _ rfl,h 12 _ rfl⟩
def zjV (w:Xn) (a:Option Addr) (l:List Fr):Prop:=∀(j:Nat) x,l[j]? =Xa x->∃ad,a=Xa ad/\∀W,zb w W->zfQ W (ad.add (j*13)) x
theorem qh.frs {w:Xn} {v:Xq} {l:List Fr} (h:qh w v l):∃a c,v= O a l.length c/\zjV w a l:=by
 obtain⟨a,c,b,d⟩:=h.rows;refine⟨a,c,b,fun j x g=>?_⟩
 obtain⟨b,e,f⟩:=d j x g;exact⟨b,e,fun W b=>(f W b).fr⟩
theorem zr6:(Tryz.prog.info? 5).map (fun i=>(i.zero,i.size,i.bytes))=Xa (Xa (Xe Xg 0),1,1):=by kernel_rfl
theorem zbN (k:Nat) (a b c d e f g h i j l m n p q r:Int) (x):(Op.equalIn (k+2) 91 (Xi #[Xe Xg a,Xe Xg b,Xe Xg c,Xe Xg d,Xe Xg e,Xe Xg f,Xe Xg g,Xe Xg h]) (Xi #[Xe Xg i,Xe Xg j,Xe Xg l,Xe Xg m,Xe Xg n,Xe Xg p,Xe Xg q,Xe Xg r])).run prog x= .ok (ze7 ⟨a,b,c,d,e,f,g,h⟩ ⟨i,j,l,m,n,p,q,r⟩) x:=by
 obtain⟨u,s,_,t,_⟩:=info_parts zr6;have:=zd5 (P:=prog) x 91 5 .u8 k 8 [a,b,c,d,e,f,g,h] [i,j,l,m,n,p,q,r] u underlying91 underlying5 s t rfl rfl;rw[show ze7 ⟨a,b,c,d,e,f,g,h⟩ ⟨i,j,l,m,n,p,q,r⟩=decide ([a,b,c,d,e,f,g,h]=[i,j,l,m,n,p,q,r])from by
  rw[Bool.eq_iff_iff,za7,decide_eq_true_iff];simp only[Pg.mk.injEq,List.cons.injEq,and_true]]
 exact this
theorem zrN (a b c e g h i j w:Int) (u d:Bool) (f x:Int) (k l m n p q r s y:Int) (z t:Bool) (v A:Int) (W):
  (Op.equalIn 10000 93 (Xi #[Xe Xg a,Xe Xg b,Xe Xg c,Xe Xg e,Xe Xg g,Xe Xg h,Xe Xg i,Xe Xg j,Xe Xf w,Xh u,Xh d,Xe Xf f,Xe Xf x]) (Xi #[Xe Xg k,Xe Xg l,Xe Xg m,Xe Xg n,Xe Xg p,Xe Xg q,Xe Xg r,Xe Xg s,Xe Xf y,Xh z,Xh t,Xe Xf v,Xe Xf A])).run prog W
   = .ok (zbr ⟨⟨a,b,c,e,g,h,i,j⟩,w,u,d,f,x⟩ ⟨⟨k,l,m,n,p,q,r,s⟩,y,z,t,v,A⟩) W:=by
 have D:Tryz.prog.underlying 93=Xa (.struct (Tryz.prog.fieldsOf 93)):=by kernel_rfl
 have E:Tryz.prog.stoodInHeld 93=Xd:=by kernel_rfl
 have B:=zbN 9997 a b c e g h i j k l m n p q r s;have u3:=underlying3;have C:=Tryz.isAgg3;have C:=Tryz.sizeOf3;have u4:=underlying4;have C:=Tryz.isAgg4;have C:=Tryz.sizeOf4;have C:=Tryz.isAgg91;have C:=Tryz.sizeOf91;rw[show zbr ⟨⟨a,b,c,e,g,h,i,j⟩,w,u,d,f,x⟩ ⟨⟨k,l,m,n,p,q,r,s⟩,y,z,t,v,A⟩=(ze7 ⟨a,b,c,e,g,h,i,j⟩ ⟨k,l,m,n,p,q,r,s⟩ &&(w == y) &&(u == z) &&(d == t) &&(f == v) &&(x == A))from rfl]
 generalize ze7 ⟨a,b,c,e,g,h,i,j⟩ ⟨k,l,m,n,p,q,r,s⟩=P at B⊢
 rw[show(10000:Nat)=9999+1 from rfl,run_equalIn_agg W 9999 93 _ _ D E]
 simp only[Program.fieldsOf,underlying93]
 go_simp
 cases P
 ·simp
 by_cases a:w=y <;> by_cases b:u=z <;> by_cases c:d=t <;> by_cases e:f=v <;> by_cases g:x=A <;> simp[a,b,c,e,g]
theorem zR.step {P:Program} {a:Act} {w:Xn} {v:Xq} {K:Xq->Xn->Prop} (b:(execOp a.eval o).run P w= .ok (.value v) w') (h:K v w'):zR P o a w K:=by
 unfold zR;rw[b];exact h
def pgc (p:List Int):List Xq:=p.map (Value.int .u8)
def ptc (q:Int × List Int):List Xq:= Xe Xf q.1 :: pgc q.2
theorem ZB (p:List Int):(pgc p).length=p.length:=by simp[pgc]
theorem zc8 (q:Int × List Int):(ptc q).length=q.2.length+1:=by simp[ptc,pgc]
theorem ju (p):∀u∈pgc p,u.oneCell'=Xc:=fun u a=>by
 obtain⟨x,_,rfl⟩:=List.mem_map.1 a;rfl
theorem ze5 (q:Int × List Int):∀u∈ptc q,u.oneCell'=Xc:=fun u a=>by
 rcases mC.1 a with rfl|h
 ·rfl
 exact ju _ u h
def jc (w:Xn) (v:Xq) (ps:List (List Int)):Prop:=jz pgc w v ps/\(∀p∈ps,p.length=8)/\ps.length*8<=140737488355328
def jG (w:Xn) (v:Xq) (qs:List (Int × List Int)):Prop:=jz ptc w v qs/\(∀q∈qs,q.2.length=8)/\qs.length*16<=140737488355328
theorem jc.grew {w:Xn} {v:Xq} {a:List (List Int)} (h:jc w v a) (b:zb w w'):jc w' v a:=⟨h.1.grew b,h.2⟩
theorem jG.grew {w:Xn} {v:Xq} {a:List (Int × List Int)} (h:jG w v a) (b:zb w w'):jG w' v a:=⟨h.1.grew b,h.2⟩
def zB (base:Nat) (w:Xn) (v:Xq) (ps:List (List Int)):Prop:=w.ownsRow base 91 8 v ps.length (ps.flatMap pgc)/\(∀p∈ps,p.length=8)/\ps.length*8<=140737488355328
def zy (base:Nat) (w:Xn) (v:Xq) (qs:List (Int × List Int)):Prop:=w.ownsRow base 117 9 v qs.length (qs.flatMap ptc)/\(∀q∈qs,q.2.length=8)/\qs.length*16<=140737488355328
theorem zB.at {base:Nat} {w:Xn} {v:Xq} {a:List (List Int)} (h:zB base w v a):jc w v a:=⟨j3 h.1,h.2⟩
theorem zy.at {base:Nat} {w:Xn} {v:Xq} {a:List (Int × List Int)} (h:zy base w v a):jG w v a:=⟨j3 h.1,h.2⟩
def zbD (w:Xn) (d:Xq) (ps:List (List Int)) (qs:List (Int × List Int)):Prop:=∃b q,d= Xi #[b,q]/\jc w b ps/\jG w q qs
theorem zbD.grew {w:Xn} {d:Xq} {b:List (List Int)} {c:List (Int × List Int)} (h:zbD w d b c) (a:zb w w'):zbD w' d b c:=by
 obtain⟨b,q,c,e,f⟩:=h;exact⟨b,q,c,e.grew a,f.grew a⟩
theorem zfh (l:List Int) (i:l.length=8):∃a b c d e f g h,l=[a,b,c,d,e,f,g,h]:=by
 match l,i with
 | [a,b,c,d,e,f,g,h],_=>exact⟨a,b,c,d,e,f,g,h,rfl⟩
def zjT (W:Xn) (y:Addr) (m b0 b1 b2 b3 b4 b5 b6 b7:Int):Prop:=
 W.cell? y=Xa (Xe Xf m)/\W.cell? { block:=y.block,off:=y.off+1 }=Xa (Xe Xg b0)/\W.cell? { block:=y.block,off:=y.off+2 }=Xa (Xe Xg b1)/\W.cell? { block:=y.block,off:=y.off+3 }=Xa (Xe Xg b2)/\
 W.cell? { block:=y.block,off:=y.off+4 }=Xa (Xe Xg b3)/\W.cell? { block:=y.block,off:=y.off+5 }=Xa (Xe Xg b4)/\W.cell? { block:=y.block,off:=y.off+6 }=Xa (Xe Xg b5)/\W.cell? { block:=y.block,off:=y.off+7 }=Xa (Xe Xg b6)/\W.cell? { block:=y.block,off:=y.off+8 }=Xa (Xe Xg b7)
def zhk (W:Xn) (y:Addr) (b0 b1 b2 b3 b4 b5 b6 b7:Int):Prop:=
 W.cell? y=Xa (Xe Xg b0)/\W.cell? { block:=y.block,off:=y.off+1 }=Xa (Xe Xg b1)/\W.cell? { block:=y.block,off:=y.off+2 }=Xa (Xe Xg b2)/\W.cell? { block:=y.block,off:=y.off+3 }=Xa (Xe Xg b3)/\
 W.cell? { block:=y.block,off:=y.off+4 }=Xa (Xe Xg b4)/\W.cell? { block:=y.block,off:=y.off+5 }=Xa (Xe Xg b5)/\W.cell? { block:=y.block,off:=y.off+6 }=Xa (Xe Xg b6)/\W.cell? { block:=y.block,off:=y.off+7 }=Xa (Xe Xg b7)
theorem qW.put {y:Addr} {m a b c d e f g i:Int} (h:qW W y (ptc (m,[a,b,c,d,e,f,g,i]))):zjT W y m a b c d e f g i:=
 ⟨h 0 _ rfl,h 1 _ rfl,h 2 _ rfl,h 3 _ rfl,h 4 _ rfl,h 5 _ rfl,h 6 _ rfl,h 7 _ rfl,h 8 _ rfl⟩
theorem qW.page {y:Addr} {a b c d e f g i:Int} (h:qW W y (pgc [a,b,c,d,e,f,g,i])):zhk W y a b c d e f g i:=
 ⟨h 0 _ rfl,h 1 _ rfl,h 2 _ rfl,h 3 _ rfl,h 4 _ rfl,h 5 _ rfl,h 6 _ rfl,h 7 _ rfl⟩
def zb5 (w:Xn) (a:Option Addr) (qs:List (Int × List Int)):Prop:=
 ∀(j:Nat) q,qs[j]? =Xa q->∃x m b0 b1 b2 b3 b4 b5 b6 b7,a=Xa x/\q=(m,[b0,b1,b2,b3,b4,b5,b6,b7])/\∀W,zb w W->zjT W (x.add (j*9)) m b0 b1 b2 b3 b4 b5 b6 b7
def zfN (w:Xn) (a:Option Addr) (ps:List (List Int)):Prop:=
 ∀(j:Nat) p,ps[j]? =Xa p->∃x b0 b1 b2 b3 b4 b5 b6 b7,a=Xa x/\p=[b0,b1,b2,b3,b4,b5,b6,b7]/\∀W,zb w W->zhk W (x.add (j*8)) b0 b1 b2 b3 b4 b5 b6 b7
theorem jG.rows {w:Xn} {v:Xq} {d:List (Int × List Int)} (r:jG w v d):∃a c,v= O a d.length c/\zb5 w a d:=by
 obtain⟨⟨a,c,s,t,u⟩,e,_⟩:=r;refine⟨a,c,s,fun D C f=>?_⟩
 have b:=mG f;obtain⟨B,A⟩:=C;obtain⟨h,i,j,l,m,n,p,q,rfl⟩:=zfh A (e _ b)
 cases a with
 | none=>rw[t rfl]at b;cases b
 | some x=>exact⟨x,B,h,i,j,l,m,n,p,q,rfl,rfl,fun W y=>(((u x rfl).grew y).elem (k:=9) (fun g z=>by rw[zc8,e g z]) f).put⟩
theorem jc.rows {w:Xn} {v:Xq} {d:List (List Int)} (r:jc w v d):∃a c,v= O a d.length c/\zfN w a d:=by
 obtain⟨⟨a,c,s,t,u⟩,e,_⟩:=r;refine⟨a,c,s,fun B A f=>?_⟩
 have b:=mG f;obtain⟨h,i,j,l,m,n,p,q,rfl⟩:=zfh A (e _ b)
 cases a with
 | none=>rw[t rfl]at b;cases b
 | some x=>exact⟨x,h,i,j,l,m,n,p,q,rfl,rfl,fun W y=>(((u x rfl).grew y).elem (k:=8) (fun g z=>by rw[ZB,e g z]) f).page⟩
theorem JR (a) (n c:Nat) (q) (m:Int) (w):
  Xp prog 114 #[Xi #[O a n c,q],Xe Xf m] w fun e w'=>e= Xl (Xh (j7 m n))/\zb w w':=by
 have H:Xo (j7 m n=(decide (0<=m) && decide (m<n))):=rfl
 by_cases b:0<=m
 ·by_cases b:m<n
  ·go_enter func114,ntmps114
   go_wp2;go_ret;exact⟨by rw[H.out];simp[*],(bR _ _).alloc (nR _) _⟩
  go_enter func114,ntmps114
  go_wp2;go_ret;exact⟨by rw[H.out];simp[*],(bR _ _).alloc (nR _) _⟩
 go_enter func114,ntmps114
 go_wp2;go_ret;exact⟨by rw[H.out];simp;omega,(bR _ _).alloc (nR _) _⟩
theorem zjZ (a) (n c:Nat) (f) (B:Nat) (q:Int × List Int) (m:q.2.length=8) (w:Xn) (b:w.cell? ⟨B,0,Xb⟩=Xa (O a n c)) (d:w.cell? ⟨B,1,Xb⟩=Xa f):
  Xp prog 113 #[Xi (ptc q).toArray,Xj (Xa ⟨B,0,Xb⟩)] w fun e w'=>e= Xl (Xh (!j7 q.1 n))/\zb w w':=by
 obtain⟨r,p⟩:=q;obtain⟨d,f,g,h,i,j,k,l,rfl⟩:=zfh p m;have m:=World.block_lt_of_cell? _ _ b;have b:B≠w.heap.size:=by simp at m;omega
 show Xp prog 113 #[Xi #[Xe Xf r,Xe Xg d,Xe Xg f,Xe Xg g,Xe Xg h,Xe Xg i,Xe Xg j,Xe Xg k,Xe Xg l],Xj (Xa ⟨B,0,Xb⟩)] w _
 go_enter func113,ntmps113
 go_wp2_with (go_at_call 114;refine(JR _ _ _ _ _ _).mono ?_;rintro e w' ⟨rfl,b⟩)
 go_ret;exact⟨rfl,zb.trans ((bR _ _).alloc (nR _) _) b⟩
def zr4 (p:Int × List Int->Bool) (qs:List (Int × List Int)) (r:Int):Prop:=
 (r=-1/\∀(j:Nat) q,qs[j]? =Xa q->p q=Xd)\/∃(k:Nat) (q:Int × List Int),r=(k:Int)/\qs[k]? =Xa q/\p q=Xc/\∀(j:Nat) q',j<k->qs[j]? =Xa q'->p q'=Xd
def znT (g:Nat) (lb:Array Xq) (p:Int × List Int->Bool) (w:Xn):Prop:=
 ∀W q,zb w W->q.2.length=8->Xp prog g (#[Xi (ptc q).toArray]++lb) W fun e W'=>e= Xl (Xh (p q))/\zb W W'
theorem zfp (p:Int × List Int->Bool) (g:Nat) (lb:Array Xq) (a6:∀c w,(callFunc g c).run prog w= .ok (.enter g c) w) (v) (k:List (Int × List Int)) (w) (z:jG w v k) (hp:znT g lb p w):
  Xp prog 164 #[v,.func (.func g) #[] lb] w fun e w'=>∃P:Int,e= Xl (Xe Xf P)/\zb w w'/\zr4 p k P:=by
 obtain⟨W,X,rfl,d⟩:=z.rows;have m:k.length<=9223372036854775807:=by have:=z.2.2;omega
 have R:=dD d;have Q:=dD hp;clear d hp z;obtain⟨n,y⟩:=kB k.length;have B:=dD y;rw[y]at m⊢;clear y
 go_enter func164,ntmps164
 go_wp2
 go_loopg [5,8] n (fun S _ V wr=>∃b:Nat,b<=n/\n - b<=S/\V= Xe Xf b/\Xo (zb w wr)/\Xo (∀j q,j<b->k[j]? =Xa q->p q=Xd))
 case atStart=>exact⟨0,nZ _,by omega,rfl,zb.refl w,fun j q r=>absurd r (nL _)⟩
 obtain⟨b,T,a7,rfl,l,A⟩:=hrel
 by_cases h:b<n
 ·have t:=kC h
  have s:b<k.length:=by rw[B.out];exact h
  obtain⟨q,x⟩:∃q,Xo (k[b]? =Xa q):=⟨_,gE s⟩;obtain⟨a8,N,C,D,E,F,G,H,K,L,rfl,rfl,M⟩:=R.out b q x.out;obtain⟨Y,Z,I,a0,a1,a2,a3,a4,a5⟩:=M wr l.out;have a:=Q.out wr (N,[C,D,E,F,G,H,K,L]) l rfl;clear M s
  cases u:p (N,[C,D,E,F,G,H,K,L])with
  | true=>
   rw[u]at a
   go_wp2_with (go_at_fn g;refine a.mono ?_;rintro e w' ⟨rfl,f⟩)
   go_ret;exact⟨_,rfl,l.trans f, .inr ⟨b,_,rfl,x,u,A⟩⟩
  | false=>
   rw[u]at a
   go_wp2_with (go_at_fn g;refine a.mono ?_;rintro e w' ⟨rfl,f⟩)
   go_roundg (n -(b+1))
   case measure=>omega
   refine⟨b+1,by omega,by omega,by go_num,l.trans f,(show Xo _ from fun j U r i=>?_)⟩
   by_cases e:j=b
   ·subst e;rw[x.out]at i;cases i;exact u
   exact A j U (by omega) i
 have t:=kD h
 have:b=n:=by omega
 subst this;go_wp2;go_ret;refine⟨_,rfl,l,.inl ⟨rfl,fun j q r=>A.out j q ?_ r⟩⟩
 have:=(gS.1 r).1;rw[B.out]at this;exact this
theorem zcz (p:Int × List Int->Bool) (g:Nat) (lb:Array Xq) (c:∀a w,(callFunc g a).run prog w= .ok (.enter g a) w) (v) (b:List (Int × List Int)) (w) (d:jG w v b) (hp:znT g lb p w):
  Xp prog 112 #[v,.func (.func g) #[] lb] w fun e w'=>e= Xl (Xh (b.any p))/\zb w w':=by
 have a:=zfp p g lb c v b w d hp;clear d hp c
 go_enter func112,ntmps112
 go_wp2_with (go_at_call 164;refine a.mono ?_;rintro e w' ⟨r,rfl,d,a⟩)
 go_ret;have c:b.any p=decide (0<=r):=by
  rcases a with⟨rfl,h⟩|⟨k,q,rfl,a,b,_⟩
  ·rw[show decide ((0:Int)<=-1)=Xd from rfl,Yy]
   intro q i;obtain⟨j,f⟩:=Ou i;rw[h j q f];simp
  rw[show decide ((0:Int)<=(k:Int))=Xc from by simp,Ym]
  exact⟨q,mG a,b⟩
 rw[c];exact⟨rfl,d⟩
theorem zh6 (a) (n c:Nat) (g) (B:Nat) (w:Xn) (b:w.cell? ⟨B,0,Xb⟩=Xa (O a n c)) (d:w.cell? ⟨B,1,Xb⟩=Xa g):
  znT 113 #[Xj (Xa ⟨B,0,Xb⟩)] (fun q=>!j7 q.1 n) w:=fun W q f h=>by
 have e:=World.block_lt_of_cell? _ _ b;exact zjZ a n c g B q h W ((Below.cell f (p:=⟨B,0,Xb⟩) e).trans b) ((Below.cell f (p:=⟨B,1,Xb⟩) e).trans d)
theorem zcK (a) (n c:Nat) (r) (d:List (Int × List Int)) (w) (l:jG w r d):
  Xp prog 60 #[Xi #[O a n c,r]] w fun e w'=>e= Xl (Xe Xf (zS n d))/\zb w w':=by
 have f:Xo (zS n d=if 80<n then 4 else if 400<d.length then 4 else if d.any (fun q=>!j7 q.1 n)then 3 else 0):=rfl
 obtain⟨g,h,rfl,_⟩:=l.rows;have b:=zcz (fun q=>!j7 q.1 n) 113 #[Xj (Xa ⟨w.heap.size,0,Xb⟩)] (enters_of func113 (by kernel_rfl) rfl) (O g d.length h) d (w.alloc (Xk #[O a n c,O g d.length h] 38)) (l.grew (za _ _)) (zh6 a n c (O g d.length h) _ _ (by simp) (by simp))
 clear l;obtain⟨nq,t⟩:=kA d.length;rw[t.out]at b f⊢;obtain⟨u,s⟩:=kA (d.any fun q=>!j7 q.1 n)
 rw[s.out]at b f
 by_cases m:80<n
 ·have i:(80:Int)< (n:Int):=by omega
  rw[kE m]at f;clear b
  go_enter func60,ntmps60
  go_wp2;go_ret;exact⟨by rw[f.out];rfl,za _ _⟩
 have i:¬(80:Int)< (n:Int):=by omega
 rw[kF m]at f
 by_cases p:400<nq
 ·have j:(400:Int)< (nq:Int):=by omega
  rw[kE p]at f;clear b
  go_enter func60,ntmps60
  go_wp2;go_ret;exact⟨by rw[f.out];rfl,za _ _⟩
 have j:¬(400:Int)< (nq:Int):=by omega
 rw[kF p]at f
 cases u with
 | true=>
  go_enter func60,ntmps60
  go_wp2_with (go_at_call 112;refine b.mono ?_;rintro e w' ⟨rfl,k⟩)
  go_ret;exact⟨by rw[f.out];rfl,(za _ _).trans k⟩
 | false=>
  go_enter func60,ntmps60
  go_wp2_with (go_at_call 112;refine b.mono ?_;rintro e w' ⟨rfl,k⟩)
  go_ret;exact⟨by rw[f.out];rfl,(za _ _).trans k⟩
theorem QW (a) (n c:Nat) (h) (d:List (Int × List Int)) (m:Int) (w) (g:jG w h d):
  Xp prog 210 #[Xi #[O a n c,h],Xe Xf m] w fun e w'=>e= Xl (Xe Xf (zr n d m))/\zb w w':=by
 have f:Xo (zr n d m=if zS n d=0 then(if j7 m n then 0 else 3)else zS n d):=rfl;have b:=zcK a n c h d (w.alloc (Xk #[O a n c,h] 38)) (g.grew (za _ _));clear g;obtain⟨r,g⟩:=kA (zS n d);rw[g.out]at b f
 by_cases j:r=0
 ·subst j;rw[kE rfl]at f
  cases i:j7 m n with
  | true=>
   rw[i]at f
   go_enter func210,ntmps210
   go_wp2_with (first
    | (go_at_call 60;refine b.mono ?_;rintro e w' ⟨rfl,d⟩;have l:w'.cell? ⟨w.heap.size,0,Xb⟩=Xa (O a n c):=(Below.cell d (by simp)).trans (by simp);have p:w'.cell? ⟨w.heap.size,1,Xb⟩=Xa h:=(Below.cell d (by simp)).trans (by simp))
    | (go_at_call 114;refine(JR _ _ _ _ _ _).mono ?_;rintro e k ⟨rfl,g⟩;rw[i]))
   go_ret;exact⟨by rw[f.out];rfl,((za _ _).trans d).trans g⟩
  | false=>
   rw[i]at f
   go_enter func210,ntmps210
   go_wp2_with (first
    | (go_at_call 60;refine b.mono ?_;rintro e w' ⟨rfl,d⟩;have l:w'.cell? ⟨w.heap.size,0,Xb⟩=Xa (O a n c):=(Below.cell d (by simp)).trans (by simp);have p:w'.cell? ⟨w.heap.size,1,Xb⟩=Xa h:=(Below.cell d (by simp)).trans (by simp))
    | (go_at_call 114;refine(JR _ _ _ _ _ _).mono ?_;rintro e k ⟨rfl,g⟩;rw[i]))
   go_ret;exact⟨by rw[f.out];rfl,((za _ _).trans d).trans g⟩
 have g:(r != 0)=Xc:=by simpa using j
 rw[kF j]at f
 go_enter func210,ntmps210
 go_wp2_with (go_at_call 60;refine b.mono ?_;rintro e w' ⟨rfl,d⟩)
 go_ret;exact⟨by rw[f.out];rfl,(za _ _).trans d⟩
theorem zr7:(Tryz.prog.info? 91).map (fun i=>(i.zero,i.size,i.bytes))=Xa (Xa (Xi #[Xe Xg 0,Xe Xg 0,Xe Xg 0,Xe Xg 0,Xe Xg 0,Xe Xg 0,Xe Xg 0,Xe Xg 0]),8,8):=by kernel_rfl
theorem zr8:(Tryz.prog.info? 117).map (fun i=>(i.zero,i.size,i.bytes))=Xa (Xa (Xi #[Xe Xf 0,Xe Xg 0,Xe Xg 0,Xe Xg 0,Xe Xg 0,Xe Xg 0,Xe Xg 0,Xe Xg 0,Xe Xg 0]),9,16):=by kernel_rfl
theorem zea (v) (f:List (List Int)) (w:Xn) (i:jc w v f):
  Xp prog 99 #[v] w fun e w'=>∃h,e= Xl h/\zB w.heap.size w' h f/\zb w w':=by
 obtain⟨⟨d,g,rfl,c,b⟩,j,a⟩:=i;have i:∀(w:Xn) (d:Option Addr) (n g k i:Nat),(binOp .eql 35 (O d n g) (O Xb k i)).run prog w= .ok (Xh d.isNone) w:=fun w d n g k i=>Lib.run_eql_slice_nil w _ _ d n g k i underlying35
 cases d with
 | none=>
  have d:=c rfl;subst d;clear b c j a
  go_enter func99,ntmps99
  go_wp2;go_ret;exact⟨_,rfl,⟨World.ownsRow_nil _ _ _ _,by simp,by simp⟩,zb.refl w⟩
 | some x=>
  have A:=b x rfl;have k:=dD A;have d:=dD a;have i:=dD j;clear b c a j;obtain⟨l,j,a,b,c⟩:=info_parts zr7
  go_enter func99,ntmps99
  go_wp2_with (at_builtin;refine wpList_append_own _ rfl _ _ 35 rfl w.heap.size 91 l _ 8 8 underlying35 j a b c rfl (by decide) _ _ _ rfl (World.ownsRow_made w #[] 0 (nR _) (nZ _) (by simp)) x f.length g (f.flatMap pgc) rfl ?qc1 ?qc2 ?qc3 ?qc4 ?qc5 ?qc6 ?_)
  case qc1=>exact qT f fun p a=>by rw[ZB,i.out p a]
  case qc2=>exact k.grew (za _ _)
  case qc3=>exact qJ ju f
  case qc4=>rw[zA];exact jj (by have:=d.out;omega)
  case qc5=>rw[zA];exact d.out
  case qc6=>simp
  intro h a b a c;go_wp2;go_ret;exact⟨h,rfl,⟨by simpa using b,i,d⟩,((bR _ w).alloc (nR _) _).grown a (by simp) (by intro k a;simp[Value.ownBlock]at a;omega)⟩
theorem zfI (v) (f:List (Int × List Int)) (w:Xn) (i:jG w v f):
  Xp prog 100 #[v] w fun e w'=>∃h,e= Xl h/\zy w.heap.size w' h f/\zb w w':=by
 obtain⟨⟨d,g,rfl,c,b⟩,j,a⟩:=i;have i:∀(w:Xn) (d:Option Addr) (n g k i:Nat),(binOp .eql 36 (O d n g) (O Xb k i)).run prog w= .ok (Xh d.isNone) w:=fun w d n g k i=>Lib.run_eql_slice_nil w _ _ d n g k i underlying36
 cases d with
 | none=>
  have d:=c rfl;subst d;clear b c j a
  go_enter func100,ntmps100
  go_wp2;go_ret;exact⟨_,rfl,⟨World.ownsRow_nil _ _ _ _,by simp,by simp⟩,zb.refl w⟩
 | some x=>
  have A:=b x rfl;have k:=dD A;have d:=dD a;have i:=dD j;clear b c a j;obtain⟨l,j,a,b,c⟩:=info_parts zr8
  go_enter func100,ntmps100
  go_wp2_with (at_builtin;refine wpList_append_own _ rfl _ _ 36 rfl w.heap.size 117 l _ 9 16 underlying36 j a b c rfl (by decide) _ _ _ rfl (World.ownsRow_made w #[] 0 (nR _) (nZ _) (by simp)) x f.length g (f.flatMap ptc) rfl ?qc1 ?qc2 ?qc3 ?qc4 ?qc5 ?qc6 ?_)
  case qc1=>exact qT f fun p a=>by rw[zc8,i.out p a]
  case qc2=>exact k.grew (za _ _)
  case qc3=>exact qJ ze5 f
  case qc4=>rw[zA];exact jj (by have:=d.out;omega)
  case qc5=>rw[zA];exact d.out
  case qc6=>simp
  intro h a b a c;go_wp2;go_ret;exact⟨h,rfl,⟨by simpa using b,i,d⟩,((bR _ w).alloc (nR _) _).grown a (by simp) (by intro k a;simp[Value.ownBlock]at a;omega)⟩
def zaT (base:Nat) (w:Xn) (d:Xq) (ps:List (List Int)) (qs:List (Int × List Int)):Prop:=∃b q,d= Xi #[b,q]/\zB base w b ps/\zy base w q qs
theorem zB.grew {base:Nat} {w:Xn} {v:Xq} {a:List (List Int)} (h:zB base w v a) (b:zb w w'):zB base w' v a:=⟨Qo h.1 b,h.2⟩
theorem zy.grew {base:Nat} {w:Xn} {v:Xq} {a:List (Int × List Int)} (h:zy base w v a) (b:zb w w'):zy base w' v a:=⟨Qo h.1 b,h.2⟩
theorem zB.base {base:Nat} {w:Xn} {v:Xq} {a:List (List Int)} (h:zB base w v a) (hb:base'<=base):zB base' w v a:=⟨q6 h.1 hb,h.2⟩
theorem zy.base {base:Nat} {w:Xn} {v:Xq} {a:List (Int × List Int)} (h:zy base w v a) (hb:base'<=base):zy base' w v a:=⟨q6 h.1 hb,h.2⟩
theorem zB.slice {base:Nat} {w:Xn} {v:Xq} {b:List (List Int)} (h:zB base w v b):∃a n c,v= O a n c:=by
 rcases h.1.2 with⟨rfl,_⟩|⟨g,b,b,rfl,_⟩
 ·exact⟨_,_,_,rfl⟩
 exact⟨_,_,_,rfl⟩
theorem zy.slice {base:Nat} {w:Xn} {v:Xq} {b:List (Int × List Int)} (h:zy base w v b):∃a n c,v= O a n c:=by
 rcases h.1.2 with⟨rfl,_⟩|⟨g,b,b,rfl,_⟩
 ·exact⟨_,_,_,rfl⟩
 exact⟨_,_,_,rfl⟩
theorem zB.setCell {base:Nat} {w:Xn} {v:Xq} {b:List (List Int)} (h:zB base w v b) {a:Addr} (c:a.block<base) (u):zB base (w.setCell a u) v b:=⟨ownsRow_setCell_below h.1 c u,h.2⟩
theorem zy.setCell {base:Nat} {w:Xn} {v:Xq} {b:List (Int × List Int)} (h:zy base w v b) {a:Addr} (c:a.block<base) (u):zy base (w.setCell a u) v b:=⟨ownsRow_setCell_below h.1 c u,h.2⟩
def qy (base:Nat) (w:Xn) (d:Xq) (ps:List (List Int)) (qs:List (Int × List Int)):Prop:=∃b q,d= Xi #[b,q]/\jc w b ps/\jG w q qs/\jR base b/\jR base q
theorem qy.base {base:Nat} {w:Xn} {d:Xq} {a:List (List Int)} {b:List (Int × List Int)} (h:qy base w d a b) (hb:base'<=base):qy base' w d a b:=by
 obtain⟨b,q,a,c,e,f,g⟩:=h;exact⟨b,q,a,c,e,fun x n c e=>nT hb (f x n c e),fun x n c e=>nT hb (g x n c e)⟩
theorem zB.fresh {base:Nat} {w:Xn} {v:Xq} {a:List (List Int)} (h:zB base w v a):jR base v:=fun x n c e=>by
 rcases h.1.2 with⟨a,_⟩|⟨g,b,b,a,b,_⟩
 ·rw[a]at e;cases e
 rw[a]at e;cases e;exact b
theorem zy.fresh {base:Nat} {w:Xn} {v:Xq} {a:List (Int × List Int)} (h:zy base w v a):jR base v:=fun x n c e=>by
 rcases h.1.2 with⟨a,_⟩|⟨g,b,b,a,b,_⟩
 ·rw[a]at e;cases e
 rw[a]at e;cases e;exact b
theorem zaT.new {base:Nat} {w:Xn} {d:Xq} {a:List (List Int)} {b:List (Int × List Int)} (h:zaT base w d a b):qy base w d a b:=by
 obtain⟨c,q,e,a,b⟩:=h;exact⟨c,q,e,a.at,b.at,a.fresh,b.fresh⟩
theorem zdb (d) (g:List (List Int)) (h:List (Int × List Int)) (w:Xn) (b:zbD w d g h):
  Xp prog 53 #[d] w fun e w'=>∃a,e= Xl a/\zaT w.heap.size w' a g h/\zb w w':=by
 obtain⟨a,q,rfl,c,a⟩:=b;have E:=dD c;have F:=dD a;obtain⟨l,n,rfl,_⟩:=c.rows;obtain⟨m,q,rfl,_⟩:=a.rows;clear c a
 go_enter func53,ntmps53
 go_wp2;obtain⟨a,b⟩:=kB ((w.alloc (Xk #[O l g.length n,O m h.length q] 38)).alloc (Xk #[O Xb 0 0,O Xb 0 0] 38));have i:=gD2 b
 have k:Xo (a.heap.size=w.heap.size+2):=dD<|by rw[<-b];simp
 have A:a.cell? ⟨w.heap.size,0,Xb⟩=Xa (O l g.length n):=by rw[<-b];simp
 have B:a.cell? ⟨w.heap.size,1,Xb⟩=Xa (O m h.length q):=by rw[<-b];simp
 have r:a.cell? ⟨w.heap.size+1,0,Xb⟩=Xa (O Xb 0 0):=by rw[<-b];simp
 have s:a.cell? ⟨w.heap.size+1,1,Xb⟩=Xa (O Xb 0 0):=by rw[<-b];simp
 have C:a.frozen? ⟨w.heap.size+1,0,Xb⟩=Xd:=by rw[<-b];simp
 have D:a.frozen? ⟨w.heap.size+1,1,Xb⟩=Xd:=by rw[<-b];simp
 rw[b];have y:∀x:zg a,x.world.cell? ⟨w.heap.size,0,Xb⟩=Xa (O l g.length n):=fun x=>(Below.cell x.grew (World.block_lt_of_cell? _ _ A)).trans A
 have z:∀x:zg a,x.world.cell? ⟨w.heap.size,1,Xb⟩=Xa (O m h.length q):=fun x=>(Below.cell x.grew (World.block_lt_of_cell? _ _ B)).trans B
 have t:Nonempty (zg a):=⟨⟨_,zb.refl _⟩⟩;refine jO 7 [(2,⟨fun f=>∃a u j,f= O a u j,fun f w'=>zB (w.heap.size+2) w' f g⟩),(5,⟨fun f=>∃a u j,f= O a u j,fun f w'=>zy (w.heap.size+2) w' f h⟩)] zZ (by kernel_rfl) rfl rfl (by decide) ?_ ?_ ?_
 ·intro x a
  simp at a
  rcases a with rfl|rfl
  ·exact⟨_,Xb,0,0,rfl⟩
  exact⟨_,Xb,0,0,rfl⟩
 ·intro x a
  simp at a
  rcases a with rfl|rfl
  ·intro f u x a j;exact j.grew a
  intro f u x a j;exact j.grew a
 simp only[List.take,List.drop];iterate 2 refine zf ?_
 refine zC rfl rfl (fun w' a j=>?_) (fun G u=>?_)
 ·refine zR.call [O l g.length n] rfl func99 rfl rfl rfl ?_;refine(zea _ g w' (E.grew (i.out.trans a))).mono ?_;rintro e g ⟨E,rfl,c,f⟩;exact⟨_,rfl,f,c.slice,c.base (by have:=bS a;rw[k.out]at this;exact this)⟩
 obtain⟨l,x,n,rfl⟩:=u;simp only[Act.put,sB,sS,sZ];iterate 2 refine zf ?_
 refine zC rfl rfl (fun w' a j=>?_) (fun G u=>?_)
 ·refine zR.call [O m h.length q] rfl func100 rfl rfl rfl ?_;refine(zfI _ h w' (F.grew (i.out.trans a))).mono ?_;rintro e g ⟨E,rfl,c,f⟩;exact⟨_,rfl,f,c.slice,c.base (by have:=bS a;rw[k.out]at this;exact this)⟩
 obtain⟨h,m,k,rfl⟩:=u;simp only[Act.put,sB,sS,sZ];refine zf ?_
 refine zP fun w' a j=>?_
 have c:=dD<|j 2;have f:=dD<|j 5;have g:=(Below.cell a (World.block_lt_of_cell? _ _ r)).trans r;have g:=(Below.cell a (World.block_lt_of_cell? _ _ s)).trans s;have g:=(Below.frozen a (World.block_lt_of_cell? _ _ r)).trans C;have g:=(Below.frozen a (World.block_lt_of_cell? _ _ s)).trans D;have g:=dD (i.out.trans a);clear j A B r s C D y z b a t;go_wp2;refine bodyPost_ret (v:= Xi #[O l x n,O h m k]) (by simp[results,Tryz.results53,go_sem, *]) rfl ⟨_,rfl,⟨_,_,rfl,((c.out.setCell (by simp) _).setCell (by simp) _).base (by omega),((f.out.setCell (by simp) _).setCell (by simp) _).base (by omega)⟩,?_⟩
 exact Below.setCell (Below.setCell g (p:=⟨w.heap.size+1,0,Xb⟩) (by simp) _) (p:=⟨w.heap.size+1,1,Xb⟩) (by simp) _
def siv (z:Int):List Xq:=[Xe Xf z]
theorem zr9:(Tryz.prog.info? 3).map (fun i=>(i.zero,i.size,i.bytes))=Xa (Xa (Xe Xf 0),1,8):=by kernel_rfl
def slE:Elt Int where
 enc:=siv
 k:=1
 ty:=3
 st:=34
 bytes:=8
 zv:= Xe Xf 0
 zero:=0
 len:=fun _=>rfl
 one:=fun a u hu=>by
  simp only[siv,mC,nM,or_false]at hu;subst hu;rfl
 und:=underlying34
 info:=zr9
 zok:=rfl
 few:=by decide
 pos:=by decide
def zjQ (w:Xn) (a:Option Addr) (l:List Int):Prop:=∀(j:Nat) x,l[j]? =Xa x->∃ad,a=Xa ad/\∀W,zb w W->W.cell? (ad.add j)=Xa (Xe Xf x)
theorem zl.sls {w:Xn} {v:Xq} {l:List Int} (h:zl slE w v l):∃a c,v= O a l.length c/\zjQ w a l:=by
 obtain⟨a,c,b,d⟩:=h.rows;refine⟨a,c,b,fun j x g=>?_⟩
 obtain⟨b,e,f⟩:=d j x g;refine⟨b,e,fun W b=>?_⟩
 have:=f W b 0 _ rfl;rw[jb,show j*slE.k+0=j from by show j*1+0=j;omega]at this
 exact this
def niv (z:Int):List Xq:=[Xe Xf z]
theorem zsa:(Tryz.prog.info? 3).map (fun i=>(i.zero,i.size,i.bytes))=Xa (Xa (Xe Xf 0),1,8):=by kernel_rfl
def blE:Elt Int where
 enc:=niv
 k:=1
 ty:=3
 st:=33
 bytes:=8
 zv:= Xe Xf 0
 zero:=0
 len:=fun _=>rfl
 one:=fun a u hu=>by
  simp only[niv,mC,nM,or_false]at hu;subst hu;rfl
 und:=underlying33
 info:=zsa
 zok:=rfl
 few:=by decide
 pos:=by decide
def znU (w:Xn) (a:Option Addr) (l:List Int):Prop:=∀(j:Nat) x,l[j]? =Xa x->∃ad,a=Xa ad/\∀W,zb w W->W.cell? (ad.add j)=Xa (Xe Xf x)
theorem zl.nums {w:Xn} {v:Xq} {l:List Int} (h:zl blE w v l):∃a c,v= O a l.length c/\znU w a l:=by
 obtain⟨a,c,b,d⟩:=h.rows;refine⟨a,c,b,fun j x g=>?_⟩
 obtain⟨b,e,f⟩:=d j x g;refine⟨b,e,fun W b=>?_⟩
 have:=f W b 0 _ rfl;rw[jb,show j*blE.k+0=j from by show j*1+0=j;omega]at this
 exact this
end
end Go.Proofs.YtmfckdkcmbncdaaGreat
