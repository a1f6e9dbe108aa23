import Derived.Orders
import Derived.Below
import Derived.Deep.QuietTactic
import Derived.BigQuiet
import Derived.Test.YtdgccecjbpgmfaaGreatProg
import Derived.WalkKit
import Derived.Deep.LoopGhost
import Derived.Deep.Slices
import Derived.Laws.AppendOwn
import Derived.Lib.Walk
import Derived.Lib.SliceRun
import Derived.Laws.CopyRow
import Derived.Laws.CopyOwn
import Derived.Laws.MakeOwn
import Derived.Laws.OwnMore
import Derived.Shelf.Abstract
import Derived.WalkSmall
import Derived.Deep.Cut
import Derived.ChangeKeysEq
import Derived.Laws.StructEq
import Derived.ArgAppend
namespace Go.Proofs.YtdgccecjbpgmfaaGreat
theorem dD{P:Prop}(h:P):Go.RowKit.Hid P:=h
theorem gE{α:Type}{l:List α}{i:Nat}(h:i<l.length):l[i]? =some l[i]:=List.getElem?_eq_getElem h
theorem sB{α:Type}(l:List α)(i:Nat)(a:α):l.toArray.setIfInBounds i a=(l.set i a).toArray:=List.setIfInBounds_toArray l i a
theorem gS{α:Type}{i:Nat}{a:α}{l:List α}:l[i]? =some a<->∃h:i<l.length,l[i]=a:=List.getElem?_eq_some_iff
theorem sZ{α:Type}{x:α}{k:List α}{a:α}:(x::k).set 0 a=a::k:=rfl
theorem sS{α:Type}{x:α}{k:List α}{i:Nat}{a:α}:(x::k).set (i+1) a=x::k.set i a:=rfl
theorem nM{α:Type}{a:α}:¬a∈([]:List α):=List.not_mem_nil
theorem mC{α:Type}{b:α}{l:List α}{a:α}:a∈b::l<->a=b\/a∈l:=List.mem_cons
theorem mG{α:Type}{l:List α}{i:Nat}{a:α}(h:l[i]? =some a):a∈l:=List.mem_of_getElem? h
theorem sF{α:Type}{l:List α}{i:Nat}{a:α}(h:i<l.length):(l.set i a)[i]? =some a:=List.getElem?_set_self h
theorem gD{α:Type}{l:List α}{i:Nat}{a:α}:l.getD i a=l[i]?.getD a:=List.getD_eq_getElem?_getD
theorem sN{α:Type}{l:List α}{i j:Nat}(h:i≠j){a:α}:(l.set i a)[j]? =l[j]?:=List.getElem?_set_ne h
theorem tN(n:Nat):(n:Int).toNat=n:=Int.toNat_natCast n
theorem lR{α:Type}{n:Nat}{a:α}:(List.replicate n a).length=n:=List.length_replicate
theorem pJ{α β:Type}(a:α)(b:β)(c:α)(d:β):((a,b)=(c,d))=(a=c/\b=d):=Prod.mk.injEq a b c d
theorem vJ(a n c d e f):(Value.slice a n c=.slice d e f)=(a=d/\n=e/\c=f):=Value.slice.injEq a n c d e f
theorem eN{α:Type}{l:List α}(h:l.length=0):l=[]:=List.eq_nil_of_length_eq_zero h
theorem aR{α:Type}{k l:List α}{i:Nat}(h:k.length<=i):(k++l)[i]? =l[i-k.length]?:=List.getElem?_append_right h
theorem gN{α:Type}{l:List α}{i:Nat}(h:l.length<=i):l[i]? =none:=List.getElem?_eq_none h
theorem lA{α:Type}{k l:List α}:(k++l).length=k.length+l.length:=List.length_append
theorem aS{α:Type}{i:Nat}{b:α}{k:Array α}:k[i]? =some b<->∃h:i<k.size,k[i]=b:=Array.getElem?_eq_some_iff
theorem bD{B:Nat}{a w:World}(h:Go.RowKit.Below B a w)(n:Nat):Go.RowKit.Below B a (w.drewN n):=Go.below_drewN h n
theorem nT{n m k:Nat}(h:n<=m)(g:m<=k):n<=k:=Nat.le_trans h g
theorem nR(n:Nat):n<=n:=Nat.le_refl n
theorem nZ(n:Nat):0<=n:=Nat.zero_le n
theorem nL(n:Nat):¬n<0:=Nat.not_lt_zero n
theorem mP{α β:Type}{f:α->β}{a:α}{l:List α}:(a::l).map f=f a::l.map f:=rfl
theorem rA{α β:Type}(a:α)(w:World)(f:α->World->Result β):(Result.ok a w).andThen f=f a w:=rfl
theorem zA(n:Nat):0+n=n:=Nat.zero_add n
theorem bR(B:Nat)(w:World):Go.RowKit.Below B w w:=Go.RowKit.Below.refl B w
theorem bS{B:Nat}{w v:World}(h:Go.RowKit.Below B w v):w.heap.size<=v.heap.size:=Go.RowKit.Below.size h
set_option maxRecDepth 100000
set_option maxHeartbeats 4000000
section
structure Pg where
 (b0 b1 b2 b3 b4 b5 b6 b7:Int)
structure Fr where
 p:Pg
 r:Int
 u:Bool
 d:Bool
 f:Int
 x:Int
def pg0:Pg:=⟨0,0,0,0,0,0,0,0⟩
def fr0:Fr:=⟨pg0,0,false,false,0,0⟩
def frF:Fr:=⟨pg0,0,false,false,-1,0⟩
def zbu (p q:Pg):Bool:=(p.b0 == q.b0) &&(p.b1 == q.b1) &&(p.b2 == q.b2) &&(p.b3 == q.b3) &&(p.b4 == q.b4) &&(p.b5 == q.b5) &&(p.b6 == q.b6) &&(p.b7 == q.b7)
theorem zbt (p q:Pg):zbu p q=true↔p=q:=by
 obtain⟨a0,a1,a2,a3,a4,a5,a6,a7⟩:=p;obtain⟨c0,c1,c2,c3,c4,c5,c6,c7⟩:=q
 simp[zbu,and_assoc]
def Zz (a b:Fr):Bool:=zbu a.p b.p &&(a.r == b.r) &&(a.u == b.u) &&(a.d == b.d) &&(a.f == b.f) &&(a.x == b.x)
theorem zbI (a b:Fr):Zz a b=true↔a=b:=by
 obtain⟨p,r,u,d,f,x⟩:=a;obtain⟨p',r',u',d',f',x'⟩:=b
 simp[Zz,zbt,and_assoc]
def inB (m n:Int):Bool:=decide (0<=m) && decide (m<n)
def frW (a:Fr):Int:=if(inB a.r 1001 && inB a.x 12)=false then 3 else if(!(a.f == -1) && !inB a.f 5)=true then 3 else if(a.r == 0 && !Zz a frF || a.f == -1 && !(a.x == 0))=true then 7 else 0
def J5:List Fr->Int
 | []=>0
 | a :: l=>if frW a=0 then J5 l else frW a
def Ze (fs:List Fr) (h:Int):Int:=if 40<fs.length then 4 else if J5 fs=0 then(if inB h (max fs.length 1)then 0 else 3)else J5 fs
def zav (z:Int):Bool:=decide (z<0) || decide (1000<z)
def slW (s:List Int):Int:=if 60<s.length then 4 else if s.any zav then 3 else 0
def jx (at_:Int) (n:Nat):Bool:=decide (0<=at_) && decide (at_<n)
def zy (n:Nat) (qs:List (Int × List Int)):Int:=if 80<n then 4 else if 400<qs.length then 4 else if qs.any (fun q=>!jx q.1 n)then 3 else 0
def qZ (n:Nat) (qs:List (Int × List Int)) (m:Int):Int:=if zy n qs=0 then(if jx m n then 0 else 3)else zy n qs
def zz:List Int:=[0,0,0,0,0,0,0,0]
def JS (ps:List (List Int)) (qs:List (Int × List Int)) (m:Int):List Int:=
 if qZ ps.length qs m=0 then(match qs.reverse.find? (fun q=>q.1 == m)with | some q=>q.2 | none=>ps.getD m.toNat zz)else zz
structure Fl where
 size:Int
 bl:List Int
def JG (n:Int):Int:=if n<1 then 0 else(n - 1) / 8+1
def ZE (cnt:Int) (g:List Int) (b:Int):Int:=if b=-1 then 0 else if 0<=b/\b<cnt then(if g.contains b then 7 else 0)else 3
def QV (g:List Int) (b:Int):List Int:=if b=-1 then g else b :: g
def blW (cnt:Int):List Int->List Int->Int
 | _,[]=>0
 | g,b :: l=>if ZE cnt g b=0 then blW cnt (QV g b) l else ZE cnt g b
def blG (g:List Int) (l:List Int):List Int:=l.foldl QV g
def flW (cnt:Int) (g:List Int) (f:Fl):Int:=if 0<=f.size/\f.size<=96 then(if(f.bl.length:Int)=JG f.size then blW cnt g f.bl else 2)else 3
def zba (cnt:Int):List Int->List Fl->Int
 | _,[]=>0
 | g,f :: l=>if flW cnt g f=0 then zba cnt (blG g f.bl) l else flW cnt g f
def stW (fs:List Fl) (cnt:Int):Int:=if fs.length<=5/\0<=cnt/\cnt<=80 then zba cnt [] fs else 4
def qG (fs:List Fl) (b:Int):Bool:=fs.any fun f=>f.bl.contains b
theorem zf2 {n:Int} (h0:0<=n) (h1:n<=96):0<=JG n/\JG n<=12:=by
 unfold JG
 split <;> omega
theorem QG (cnt:Int) (g:List Int) (b:Int):
  (b=-1/\ZE cnt g b=0/\QV g b=g)\/
  (b≠-1/\¬(0<=b/\b<cnt)/\ZE cnt g b=3)\/
  (∃i:Nat,b=(i:Int)/\b<cnt/\g.contains b=true/\ZE cnt g b=7)\/
  (∃i:Nat,b=(i:Int)/\b<cnt/\g.contains b=false/\ZE cnt g b=0/\QV g b=b :: g):=by
 by_cases h1:b=-1
 ·exact .inl ⟨h1,by unfold ZE;rw[if_pos h1],by unfold QV;rw[if_pos h1]⟩
 by_cases h2:0<=b/\b<cnt
 ·obtain⟨i,hi⟩:∃i:Nat,b=(i:Int):=⟨b.toNat,by omega⟩
  cases h3:g.contains b with
  | true=>exact .inr (.inr (.inl ⟨i,hi,h2.2,rfl,by unfold ZE;rw[if_neg h1,if_pos h2,if_pos h3]⟩))
  | false=>exact .inr (.inr (.inr ⟨i,hi,h2.2,rfl,by unfold ZE;rw[if_neg h1,if_pos h2,if_neg (by rw[h3];decide)],by unfold QV;rw[if_neg h1]⟩))
 exact .inr (.inl ⟨h1,h2,by unfold ZE;rw[if_neg h1,if_neg h2]⟩)
theorem zfd (cnt:Int) (g:List Int) (b:Int):ZE cnt g b=0\/ZE cnt g b=3\/ZE cnt g b=7:=by
 rcases QG cnt g b with⟨_,h,_⟩ | ⟨_,_,h⟩ | ⟨_,_,_,_,h⟩ | ⟨_,_,_,_,h,_⟩ <;> omega
theorem zes (cnt:Int):∀(l g:List Int),blW cnt g l=0\/blW cnt g l=3\/blW cnt g l=7
 | [],g=> .inl rfl
 | b :: l,g=>by
  unfold blW
  split
  ·exact zes cnt l _
  exact zfd cnt g b
theorem zhP (cnt:Int) (g:List Int) (f:Fl):0<=flW cnt g f/\flW cnt g f<=7:=by
 have:=zes cnt f.bl g;unfold flW
 split
 ·split <;> omega
 omega
theorem zgF (cnt:Int):∀(l:List Fl) (g:List Int),0<=zba cnt g l/\zba cnt g l<=7
 | [],g=>by simp[zba]
 | f :: l,g=>by
  unfold zba
  split
  ·exact zgF cnt l _
  exact zhP cnt g f
def zca (l:List Int):List Int:=l.filter (·≠-1)
theorem zc5 (b:Int) (hb:b≠-1):∀(l g:List Int),b∈blG g l↔b∈g\/b∈l
 | [],g=>by simp[blG]
 | c :: l,g=>by
  have ih:=zc5 b hb l (QV g c);unfold blG at ih⊢;rw[List.foldl_cons,ih];unfold QV
  split
  ·rename_i h
   simp;constructor
   ·rintro(h | h) <;> simp[h]
   rintro(h1 | h1 | h1)
   ·exact .inl h1
   ·exact absurd (h1.trans h) hb
   exact .inr h1
  simp;constructor
  ·rintro((h | h) | h) <;> simp[h]
  rintro(h | h | h) <;> simp[h]
theorem zbb (cnt:Int):∀(l g:List Int),blW cnt g l=0↔(∀b∈l,b=-1\/(0<=b/\b<cnt))/\(∀b∈l,b≠-1->b∉g)/\(zca l).Nodup
 | [],g=>by simp[blW,zca]
 | b :: l,g=>by
  unfold blW
  rcases QG cnt g b with⟨h1,h2,h3⟩ | ⟨h1,h2,h3⟩ | ⟨i,h1,h2,h3,h4⟩ | ⟨i,h1,h2,h3,h4,h5⟩
  ·rw[if_pos h2,h3,zbb cnt l g];subst h1
   simp[zca]
  ·rw[if_neg (by omega),h3]
   constructor
   ·intro h;omega
   rintro⟨h,_⟩
   rcases h b (by simp)with h | h
   ·exact absurd h h1
   exact absurd h h2
  ·rw[if_neg (by omega),h4]
   constructor
   ·intro h;omega
   rintro⟨_,h,_⟩;exact absurd (by simpa using h3) (h b (by simp) (by omega))
  rw[if_pos h4,h5,zbb cnt l (b :: g)];have hb:b≠-1:=by omega
  have hg:b∉g:=by simpa using h3
  constructor
  ·rintro⟨k1,k2,k3⟩;refine⟨fun c hc=>?_,fun c hc h=>?_,?_⟩
   ·rcases mC.1 hc with rfl | hc
    ·exact .inr ⟨by omega,h2⟩
    exact k1 c hc
   ·rcases mC.1 hc with rfl | hc
    ·exact hg
    exact fun h'=>k2 c hc h (by simp[h'])
   unfold zca;rw[List.filter_cons_of_pos (by simpa using hb)]
   refine List.nodup_cons.2 ⟨fun h=>?_,k3⟩
   obtain⟨h',_⟩:=List.mem_filter.1 h;exact k2 b h' hb (by simp)
  rintro⟨k1,k2,k3⟩;unfold zca at k3;rw[List.filter_cons_of_pos (by simpa using hb)]at k3
  obtain⟨k4,k5⟩:=List.nodup_cons.1 k3;refine⟨fun c hc=>k1 c (by simp[hc]),fun c hc h h'=>?_,k5⟩
  rcases mC.1 h' with rfl | h'
  ·exact k4 (List.mem_filter.2 ⟨hc,by simpa using hb⟩)
  exact k2 c (by simp[hc]) h h'
def zkq (cnt:Int) (f:Fl):Prop:=(0<=f.size/\f.size<=96)/\(f.bl.length:Int)=JG f.size/\∀b∈f.bl,b=-1\/(0<=b/\b<cnt)
def J3 (fs:List Fl):List Int:=fs.flatMap fun f=>f.bl
theorem zje (cnt:Int) (g:List Int) (f:Fl):flW cnt g f=0↔zkq cnt f/\(∀b∈f.bl,b≠-1->b∉g)/\(zca f.bl).Nodup:=by
 unfold flW zkq;constructor
 ·intro h
  split at h
  ·rename_i h1
   split at h
   ·rename_i h2
    have:=(zbb cnt f.bl g).1 h;exact⟨⟨h1,h2,this.1⟩,this.2⟩
   omega
  omega
 rintro⟨⟨h1,h2,h3⟩,h4⟩;rw[if_pos h1,if_pos h2];exact(zbb cnt f.bl g).2 ⟨h3,h4⟩
theorem zef (cnt:Int):∀(fs:List Fl) (g:List Int),zba cnt g fs=0↔(∀f∈fs,zkq cnt f)/\(∀b∈J3 fs,b≠-1->b∉g)/\(zca (J3 fs)).Nodup
 | [],g=>by simp[zba,J3,zca]
 | f :: l,g=>by
  unfold zba;have key:(flW cnt g f=0/\zba cnt (blG g f.bl) l=0)↔(∀f'∈f :: l,zkq cnt f')/\(∀b∈J3 (f :: l),b≠-1->b∉g)/\(zca (J3 (f :: l))).Nodup:=by
   rw[zje,zef cnt l];unfold J3 zca;rw[List.flatMap_cons,List.filter_append,List.nodup_append];constructor
   ·rintro⟨⟨h1,h2,h3⟩,h4,h5,h6⟩;refine⟨fun f' hf=>?_,fun b hb hb1=>?_,h3,h6,fun a ha b hb=>?_⟩
    ·rcases mC.1 hf with rfl | hf
     ·exact h1
     exact h4 f' hf
    ·rcases List.mem_append.1 hb with hb | hb
     ·exact h2 b hb hb1
     exact fun h=>h5 b hb hb1 ((zc5 b hb1 _ _).2 (.inl h))
    rintro rfl;obtain⟨ha1,ha2⟩:=List.mem_filter.1 ha;obtain⟨hb1,_⟩:=List.mem_filter.1 hb;have hn:a≠-1:=by simpa using ha2
    exact h5 a hb1 hn ((zc5 a hn _ _).2 (.inr ha1))
   rintro⟨h1,h2,h3,h4,h5⟩;refine⟨⟨h1 f (by simp),fun b hb=>h2 b (List.mem_append.2 (.inl hb)),h3⟩,fun f' hf=>h1 f' (by simp[hf]),fun b hb hb1 h=>?_,h4⟩
   rcases(zc5 b hb1 _ _).1 h with h | h
   ·exact h2 b (List.mem_append.2 (.inr hb)) hb1 h
   exact h5 b (List.mem_filter.2 ⟨h,by simpa using hb1⟩) b (List.mem_filter.2 ⟨hb,by simpa using hb1⟩) rfl
  split
  ·rename_i h
   rw[<-key];exact⟨fun h'=>⟨h,h'⟩,fun h'=>h'.2⟩
  rename_i h
  rw[<-key];exact⟨fun h'=>absurd h' h,fun h'=>absurd h'.1 h⟩
theorem jp (fs:List Fl) (cnt:Int):stW fs cnt=0↔(fs.length<=5/\0<=cnt/\cnt<=80)/\(∀f∈fs,zkq cnt f)/\(zca (J3 fs)).Nodup:=by
 unfold stW
 split
 ·rename_i h
  rw[zef]
  simp[h]
 rename_i h
 simp[h]
theorem zaa (fs:List Fl) (b:Int):qG fs b=true↔b∈J3 fs:=by
 simp[qG,J3]
structure En where
 kind:Int
 n:Int
 wr:Bool
def en0:En:=⟨0,0,false⟩
def enS (e:En):Bool:=e.kind != 0
def enW (e:En):Int:=
 if 0<=e.kind/\e.kind<=2 then
  (if 0<=e.n/\e.n<=59/\(e.kind=1->e.n<=39)then
   (if(e.kind=0/\(e.n≠0\/e.wr=true))\/(e.kind=2/\e.wr=true)then 7 else 0)
  else 3)
 else 1
def esW:List En->Int
 | []=>0
 | e :: l=>if enW e=0 then esW l else enW e
def Za (l:List En):Bool:=l.any enS
def haW (h:List En):Int:=if h.length=0 then 0 else if h.length=8 then(if esW h=0 then(if Za h=true then 0 else 2)else esW h)else 2
def tbW:List (List En)->Int
 | []=>0
 | h :: t=>if haW h=0 then tbW t else haW h
def za0 (t:List (List En)) (i k:Nat):En:=((t[i]?.getD [])[k]?).getD en0
def zhI (t:List (List En)) (n:Int):En:=if 0<=n/\n<64 then za0 t (n.toNat / 8) (n.toNat % 8)else en0
def mk (l:List En):List En:=if Za l=true then l else []
def zjy (h:List En):List En:=if h.length=0 then List.replicate 8 en0 else h
def qx:List (List En):=List.replicate 8 []
def JE (t:List (List En)):List En:=(List.range 64).map fun j=>za0 t (j / 8) (j % 8)
def ZF (l:List En) (i:Nat):List En:=(List.range 8).map fun k=>l[8*i+k]?.getD en0
def j4 (l:List En):List (List En):=(List.range 8).map fun i=>mk (ZF l i)
def jd (t:List (List En)) (f:En->Bool) (m:Nat):List Int:=((List.range m).filter fun n=>enS (za0 t (n / 8) (n % 8)) && f (za0 t (n / 8) (n % 8))).map fun(n:Nat)=>(n:Int)
theorem zar {e:En} (h:enW e=0):(0<=e.kind/\e.kind<=2)/\(0<=e.n/\e.n<=59/\(e.kind=1->e.n<=39))/\¬((e.kind=0/\(e.n≠0\/e.wr=true))\/(e.kind=2/\e.wr=true)):=by
 unfold enW at h
 by_cases h1:0<=e.kind/\e.kind<=2
 ·rw[if_pos h1]at h
  by_cases h2:0<=e.n/\e.n<=59/\(e.kind=1->e.n<=39)
  ·rw[if_pos h2]at h
   by_cases h3:(e.kind=0/\(e.n≠0\/e.wr=true))\/(e.kind=2/\e.wr=true)
   ·rw[if_pos h3]at h;omega
   exact⟨h1,h2,h3⟩
  rw[if_neg h2]at h;omega
 rw[if_neg h1]at h;omega
theorem Qp {e:En} (h1:0<=e.kind/\e.kind<=2) (h2:0<=e.n/\e.n<=59/\(e.kind=1->e.n<=39)) (h3:¬((e.kind=0/\(e.n≠0\/e.wr=true))\/(e.kind=2/\e.wr=true))):enW e=0:=by
 unfold enW;rw[if_pos h1,if_pos h2,if_neg h3]
theorem zj7:enW en0=0:=by decide
theorem zhU {e:En} (h:enW e=0) (hs:enS e=false):e=en0:=by
 obtain⟨h1,h2,h3⟩:=zar h;obtain⟨k,n,w⟩:=e
 simp[enS]at hs
 subst hs
 simp at h3
 obtain⟨rfl,h4⟩:=h3;cases w
 ·rfl
 simp at h4
theorem zf0 {l:List En}:esW l=0↔∀e∈l,enW e=0:=by
 induction l with
 | nil=>simp[esW]
 | cons e l ih=>
  unfold esW
  by_cases h:enW e=0
  ·rw[if_pos h,ih]
   simp[h]
  rw[if_neg h]
  simp[h]
def zfz (h:List En):Prop:=h=[]\/(h.length=8/\(∀e∈h,enW e=0)/\Za h=true)
theorem zfV {h:List En}:haW h=0↔zfz h:=by
 unfold haW zfz
 by_cases h0:h.length=0
 ·rw[if_pos h0];have:h=[]:=List.length_eq_zero_iff.1 h0
  simp[this]
 have hn:h≠[]:=fun e=>h0 (by rw[e];rfl)
 rw[if_neg h0]
 by_cases h8:h.length=8
 ·rw[if_pos h8]
  by_cases h1:esW h=0
  ·rw[if_pos h1];have h2:=zf0.1 h1
   by_cases h3:Za h=true
   ·rw[if_pos h3]
    simp[h8,h3,hn]
    exact h2
   rw[if_neg h3]
   simp[hn,h3]
  rw[if_neg h1];simp only[h1,hn,false_or,false_iff];exact fun h=>h1 (zf0.2 h.2.1)
 rw[if_neg h8]
 simp[hn,h8]
theorem Jt {t:List (List En)}:tbW t=0↔∀h∈t,zfz h:=by
 induction t with
 | nil=>simp[tbW]
 | cons h t ih=>
  unfold tbW
  by_cases h0:haW h=0
  ·rw[if_pos h0,ih]
   simp[zfV.1 h0]
  rw[if_neg h0];simp only[h0,mC,forall_eq_or_imp,false_iff];exact fun hh=>h0 (zfV.2 hh.1)
structure zkg (t:List (List En)):Prop where
 len:t.length=8
 ok:∀h∈t,zfz h
theorem zkg.half {t:List (List En)} (h:zkg t) (i:Nat):zfz (t[i]?.getD []):=by
 cases hq:t[i]? with
 | none=>exact .inl rfl
 | some x=>exact h.ok x (mG hq)
theorem zfz.get {h:List En} (hh:zfz h) (k:Nat):enW (h[k]?.getD en0)=0:=by
 rcases hh with rfl | ⟨_,h2,_⟩
 ·exact zj7
 cases hq:h[k]? with
 | none=>exact zj7
 | some x=>exact h2 x (mG hq)
theorem zi7 {h:List En} (hh:zfz h):(zjy h).length=8:=by
 unfold zjy
 rcases hh with rfl | ⟨h1,_⟩
 ·rfl
 rw[if_neg (by omega)]
 exact h1
theorem zj2 (h:List En) (hh:zfz h) {k:Nat} (hk:k<8):(zjy h)[k]? =some (h[k]?.getD en0):=by
 unfold zjy
 rcases hh with rfl | ⟨h1,_⟩
 ·rw[if_pos (show([]:List En).length=0 from rfl),List.getElem?_replicate,if_pos hk]
  rfl
 rw[if_neg (by omega),gE (by omega)]
 rfl
theorem zkC (l:List En) (hl:∀e∈l,enW e=0) (k:Nat):(mk l)[k]?.getD en0=l[k]?.getD en0:=by
 unfold mk
 by_cases h:Za l=true
 ·rw[if_pos h]
 rw[if_neg h]
 cases hq:l[k]? with
 | none=>simp
 | some x=>
  have hm:=mG hq;have:enS x=false:=by
   cases hs:enS x with
   | false=>rfl
   | true=>exact absurd (List.any_eq_true.2 ⟨x,hm,hs⟩) h
  simp[zhU (hl x hm) this]
theorem zkU {l:List En} (h8:l.length=8) (hl:∀e∈l,enW e=0):zfz (mk l):=by
 unfold mk
 by_cases h:Za l=true
 ·rw[if_pos h];exact .inr ⟨h8,hl,h⟩
 rw[if_neg h];exact .inl rfl
theorem zjU {h:List En} (hh:zfz h):mk (zjy h)=h:=by
 unfold mk zjy
 rcases hh with rfl | ⟨h1,_,h3⟩
 ·rfl
 rw[if_neg (show¬h.length=0 by omega),if_pos h3]
theorem zeg (t:List (List En)):(JE t).length=64:=by simp[JE]
theorem zdm (t:List (List En)) {j:Nat} (hj:j<64):(JE t)[j]? =some (za0 t (j / 8) (j % 8)):=by
 unfold JE;rw[List.getElem?_map,List.getElem?_range hj];rfl
theorem zgQ {l:List En} {h:List En} (hh:zfz h) {i:Nat} (hl:∀k,k<8->l[8*i+k]? =some (h[k]?.getD en0)):ZF l i=zjy h:=by
 apply List.ext_getElem?
 intro k
 by_cases hk:k<8
 ·unfold ZF;rw[List.getElem?_map,List.getElem?_range hk,zj2 h hh hk]
  simp[hl k hk]
 rw[gN (by simp[ZF];omega),gN (by rw[zi7 hh];omega)]
theorem zgd {l:List En} {t:List (List En)} (h:zkg t) (hl:∀j,j<64->l[j]? =some (za0 t (j / 8) (j % 8))):j4 l=t:=by
 apply List.ext_getElem?
 intro i
 by_cases hi:i<8
 ·unfold j4;rw[List.getElem?_map,List.getElem?_range hi];obtain⟨x,hx⟩:∃x,t[i]? =some x:=⟨_,gE (by rw[h.len];omega)⟩
  have hh:=h.half i;rw[hx]at hh⊢;simp only[Option.getD_some]at hh;have:ZF l i=zjy x:=zgQ hh (fun k hk=>by
   rw[hl _ (by omega),show(8*i+k) / 8=i by omega,show(8*i+k) % 8=k by omega]
   unfold za0;rw[hx]
   rfl)
  simp[this,zjU hh]
 rw[gN (by simp[j4];omega),gN (by rw[h.len];omega)]
theorem zaQ (t:List (List En)) (f:En->Bool) (m:Nat):jd t f (m+1)=if enS (za0 t (m / 8) (m % 8)) && f (za0 t (m / 8) (m % 8))then jd t f m++ [(m:Int)]else jd t f m:=by
 unfold jd;rw[List.range_succ,List.filter_append,List.map_append]
 split
 ·rename_i h
  simp[h]
 rename_i h
 simp[h]
theorem zbv (t:List (List En)) (f:En->Bool):∀m,(jd t f m).length<=m
 | 0=>by simp[jd]
 | m+1=>by
  rw[zaQ];have:=zbv t f m
  split
  ·simp;omega
  omega
structure Ar where
 fr:Int
 tz:Int
 rd:Bool
 wr:Bool
 sh:Bool
 file:Int
 base:Int
structure On where
 is:Bool
 rd:Bool
 wr:Bool
 sh:Bool
 file:Int
 page:Int
def on0:On:=⟨false,false,false,false,0,0⟩
def ar0:Ar:=⟨0,0,false,false,false,0,0⟩
def jo (a:Ar):Prop:=0<=a.fr/\a.fr<a.tz/\a.tz<=64/\-1<=a.file/\a.file<5/\0<=a.base/\(a.file<0->a.base=0/\a.sh=false)/\(0<=a.file->a.base<=12 -(a.tz - a.fr))
def arW (a:Ar):Int:=
 if a.fr<0\/a.tz<=a.fr\/64<a.tz\/a.file< -1\/5<=a.file\/a.base<0 then 3
 else if a.file<0 then(if a.base≠0\/a.sh=true then 7 else 0)
 else if 12 -(a.tz - a.fr)<a.base then 7 else 0
theorem Zj {a:Ar}:arW a=0↔jo a:=by
 unfold arW jo;obtain⟨fr,tz,rd,wr,sh,file,base⟩:=a;simp only;constructor
 ·intro h
  (repeat' split at h) <;> first | omega | skip
  rename_i h1 h2 h3
  cases sh
  ·simp at h3⊢
   omega
  simp at h3
 intro⟨h1,h2,h3,h4,h5,h6,h7,h8⟩;rw[if_neg (by omega)]
 by_cases h9:file<0
 ·rw[if_pos h9,if_neg (by rintro(h | h);exact h (h7 h9).1;rw[(h7 h9).2]at h;cases h)]
 rw[if_neg h9,if_neg (by omega)]
def goB (a b:Ar):Bool:=decide (a.fr=b.tz) &&(a.rd == b.rd) &&(a.wr == b.wr) &&(a.sh == b.sh) && decide (a.file=b.file) && decide (a.base=if 0<=b.file then b.base+(b.tz - b.fr)else b.base)
theorem zbF {a b:Ar}:goB a b=true↔a.fr=b.tz/\a.rd=b.rd/\a.wr=b.wr/\a.sh=b.sh/\a.file=b.file/\a.base=if 0<=b.file then b.base+(b.tz - b.fr)else b.base:=by
 simp[goB,and_assoc]
def zkh (b a:Ar):Prop:=b.tz<=a.fr/\goB a b=false
def ZL:Option Ar->List Ar->Prop
 | _,[]=>True
 | p,a :: l=>jo a/\(∀b,p=some b->zkh b a)/\ZL (some a) l
def ZG (a:Ar) (n:Nat):Bool:=decide (a.fr<=(n:Int)) && decide ((n:Int)<a.tz)
theorem zX {a:Ar} {n:Nat}:ZG a n=true↔a.fr<=(n:Int)/\(n:Int)<a.tz:=by simp[ZG]
theorem zbU {a:Ar} {n:Nat} (h:¬(a.fr<=(n:Int)/\(n:Int)<a.tz)):ZG a n=false:=by
 cases hb:ZG a n with
 | false=>rfl
 | true=>exact absurd (zX.1 hb) h
def qF (a:Ar) (n:Nat):On:=⟨true,a.rd,a.wr,a.sh,a.file,if 0<=a.file then a.base+((n:Int) - a.fr)else 0⟩
def zH:List Ar->Nat->On
 | [],_=>on0
 | a :: l,n=>if ZG a n=true then qF a n else zH l n
def JN (n:Nat) (x:On):Ar:=if x.is=true then⟨n,n+1,x.rd,x.wr,x.sh,x.file,x.page⟩else ar0
theorem ZL.low:∀{l:List Ar} {p:Option Ar} {a:Ar} {n:Nat},ZL p l->p=some a->(n:Int)<a.tz->zH l n=on0
 | [],_,_,_,_,_,_=>rfl
 | b :: l,p,a,n,h,hp,hn=>by
  have h1:=h.2.1 a hp;have h2:=h.1;unfold zkh at h1;unfold jo at h2;unfold zH;rw[if_neg (by rw[zX];omega)]
  exact h.2.2.low rfl (by omega)
theorem ZL.head {l:List Ar} {p:Option Ar} {a:Ar} {n:Nat} (h:ZL p (a :: l)) (hn:(n:Int)<a.fr):zH (a :: l) n=on0:=by
 have h2:=h.1;unfold jo at h2;unfold zH;rw[if_neg (by rw[zX];omega)]
 exact h.2.2.low rfl (by omega)
theorem Qz {a:Ar} {l:List Ar} {n:Nat} (h:a.fr<=(n:Int)) (h':(n:Int)<a.tz):zH (a :: l) n=qF a n:=by
 unfold zH;rw[if_pos (by rw[zX];omega)]
theorem zaf {a:Ar} {l:List Ar} {n:Nat} (h:(n:Int)<a.fr\/a.tz<=(n:Int)):zH (a :: l) n=zH l n:=by
 rw[zH,if_neg (by rw[zX];omega)]
theorem zfO (a:Ar) (n:Nat):(qF a n).is=true:=rfl
theorem zdU {a:Ar} {n:Nat} (h:qF a n=on0):False:=by
 have:=congrArg On.is h
 simp[on0,qF]at this
theorem ZL.next {l:List Ar} {a b:Ar} {n:Nat} (h:ZL (some a) l) (hn:(n:Int)=a.tz) (hb:zH l n=qF b n):∃c m,l=c :: m/\c.fr=(n:Int)/\qF c n=qF b n/\zkh a c:=by
 cases l with
 | nil=>exact(zdU hb.symm).elim
 | cons c m=>
  have h1:=h.2.1 a rfl;have h3:=h.1;unfold jo at h3
  by_cases h2:(n:Int)<c.fr
  ·rw[h.head h2]at hb;exact(zdU hb.symm).elim
  have:c.fr=(n:Int):=by unfold zkh at h1;omega
  rw[Qz (by omega) (by omega)]at hb
  exact⟨c,m,rfl,this,hb,h1⟩
theorem zfP {a b:Ar} {n:Nat} (h:qF a n=qF b n):a.rd=b.rd/\a.wr=b.wr/\a.sh=b.sh/\a.file=b.file/\(0<=a.file->a.base+((n:Int) - a.fr)=b.base+((n:Int) - b.fr)):=by
 unfold qF at h;simp only[On.mk.injEq,true_and]at h;obtain⟨h1,h2,h3,h4,h5⟩:=h;refine⟨h1,h2,h3,h4,fun h6=>?_⟩
 rw[if_pos h6,if_pos (by omega)]at h5
 exact h5
theorem zjB {p:Option Ar} {l m:List Ar} {a b:Ar} (ha:ZL p (a :: l)) (hb:ZL p (b :: m)) (he:∀n:Nat,n<64->zH (a :: l) n=zH (b :: m) n) (hf:a.fr=b.fr) (h1:a.rd=b.rd/\a.wr=b.wr/\a.sh=b.sh/\a.file=b.file/\a.base=b.base):¬a.tz<b.tz:=by
 intro hlt;have h2:=ha.1;have h3:=hb.1;unfold jo at h2 h3;obtain⟨n,hn⟩:∃n:Nat,(n:Int)=a.tz:=⟨a.tz.toNat,by omega⟩
 have h4:=he n (by omega)
 rw[zaf (by omega),Qz (a:=b) (by omega) (by omega)]at h4
 obtain⟨c,k,rfl,h5,h6,h7⟩:=ha.2.2.next hn h4;obtain⟨g1,g2,g3,g4,g5⟩:=zfP h6;have h8:=ha.2.2.1;unfold jo at h8;have:goB c a=true:=by
  rw[zbF];refine⟨by omega,by rw[g1,h1.1],by rw[g2,h1.2.1],by rw[g3,h1.2.2.1],by omega,?_⟩
  split <;> omega
 rw[h7.2]at this;cases this
theorem zfq:∀{l m:List Ar} {p:Option Ar},ZL p l->ZL p m->(∀n:Nat,n<64->zH l n=zH m n)->l=m
 | [],[],_,_,_,_=>rfl
 | [],b :: m,_,_,hm,he=>by
  have h3:=hm.1;unfold jo at h3;have:=he b.fr.toNat (by omega)
  rw[Qz (a:=b) (by omega) (by omega)]at this
  exact(zdU this.symm).elim
 | a :: l,[],_,hl,_,he=>by
  have h3:=hl.1;unfold jo at h3;have:=he a.fr.toNat (by omega)
  rw[Qz (a:=a) (by omega) (by omega)]at this
  exact(zdU this).elim
 | a :: l,b :: m,p,hl,hm,he=>by
  have h2:=hl.1;have h3:=hm.1;unfold jo at h2 h3;have hf:a.fr=b.fr:=by
   rcases Int.lt_trichotomy a.fr b.fr with h | h | h
   ·have:=he a.fr.toNat (by omega)
    rw[Qz (a:=a) (by omega) (by omega),hm.head (by omega)]at this
    exact(zdU this).elim
   ·exact h
   have:=he b.fr.toNat (by omega)
   rw[Qz (a:=b) (by omega) (by omega),hl.head (by omega)]at this
   exact(zdU this.symm).elim
  have h4:=he a.fr.toNat (by omega)
  rw[Qz (a:=a) (by omega) (by omega),Qz (a:=b) (by omega) (by omega)]at h4
  obtain⟨g1,g2,g3,g4,g5⟩:=zfP h4;have hb:a.base=b.base:=by
   rcases Int.lt_or_le a.file 0 with h | h
   ·omega
   have:=g5 h;omega
  have ht:a.tz=b.tz:=by
   have t1:=zjB hl hm he hf ⟨g1,g2,g3,g4,hb⟩;have t2:=zjB hm hl (fun n hn=>(he n hn).symm) hf.symm ⟨g1.symm,g2.symm,g3.symm,g4.symm,hb.symm⟩
   omega
  have hab:a=b:=by
   obtain⟨_,_,_,_,_,_,_⟩:=a;obtain⟨_,_,_,_,_,_,_⟩:=b;simp only at hf ht g1 g2 g3 g4 hb;subst hf ht g1 g2 g3 g4 hb;rfl
  subst hab;have:l=m:=zfq hl.2.2 hm.2.2 fun n hn=>by
   by_cases h:(n:Int)<a.tz
   ·rw[hl.2.2.low rfl h,hm.2.2.low rfl h]
   have:=he n hn;rw[zaf (by omega),zaf (by omega)]at this
   exact this
  rw[this]
def Jd (p:Option Ar) (l:List Ar):Option Ar:=match l.getLast? with | some b=>some b | none=>p
theorem zaD (p:Option Ar) (a:Ar) (l:List Ar):Jd p (a :: l)=Jd (some a) l:=by
 unfold Jd
 cases l with
 | nil=>simp
 | cons b m=>simp[List.getLast?_cons]
theorem Jm {x:Ar}:∀{l:List Ar} {p:Option Ar},ZL p (l++ [x])↔ZL p l/\jo x/\∀b,Jd p l=some b->zkh b x
 | [],p=>by simp[ZL,Jd]
 | a :: l,p=>by
  simp only[List.cons_append,ZL,zaD,Jm (l:=l) (p:=some a),and_assoc]
theorem Jb {x:Ar} {n:Nat}:∀{l:List Ar},zH l n=on0\/ZG x n=false->zH (l++ [x]) n=if ZG x n=true then qF x n else zH l n
 | [],_=>by simp[zH]
 | a :: l,h=>by
  simp only[List.cons_append,zH]
  by_cases h1:ZG a n=true
  ·rcases h with h | h
   ·rw[zH,if_pos h1]at h;exact(zdU h).elim
   simp[h1,h]
  rw[if_neg h1,if_neg h1];exact Jb (h.imp (fun h=>by rwa [zH,if_neg h1]at h) id)
theorem zag {n:Nat}:∀{l:List Ar},(∀a∈l,ZG a n=false)->zH l n=on0
 | [],_=>rfl
 | a :: l,h=>by
  rw[zH,if_neg (by rw[h a (by simp)];simp)]
  exact zag fun b hb=>h b (by simp[hb])
theorem Qk {n:Nat}:∀{l:List Ar},(zH l n).is=true->∃(i:Nat) (a:Ar),l[i]? =some a/\ZG a n=true/\zH l n=qF a n
 | [],h=>by cases h
 | a :: l,h=>by
  by_cases h1:ZG a n=true
  ·exact⟨0,a,rfl,h1,by rw[zH,if_pos h1]⟩
  rw[zH,if_neg h1]at h;obtain⟨i,b,h2,h3,h4⟩:=Qk h;exact⟨i+1,b,h2,h3,by rw[zH,if_neg h1,h4]⟩
theorem zc2 {n:Nat}:∀{l:List Ar},(zH l n).is=false->zH l n=on0
 | [],_=>rfl
 | a :: l,h=>by
  by_cases h1:ZG a n=true
  ·rw[zH,if_pos h1]at h;cases h
  rw[zH,if_neg h1]at h⊢;exact zc2 h
theorem ZL.all {l:List Ar}:∀{p:Option Ar},ZL p l->∀a∈l,jo a:=by
 induction l with
 | nil=>intro p _ a ha;cases ha
 | cons b l ih=>
  intro p h x hx
  rcases mC.1 hx with e | hx
  ·rw[e];exact h.1
  exact ih h.2.2 _ hx
def zeD (f:Nat->On):Prop:=∀k:Nat,k<64->((f k).is=false->f k=on0)/\((f k).is=true->jo (JN k (f k)))
theorem Jw {a:Ar} {n:Nat} (h:jo a) (hn:ZG a n=true):jo (JN n (qF a n)):=by
 have:=zX.1 hn;unfold jo at h⊢;unfold JN;rw[if_pos (zfO a n)];unfold qF;refine⟨by simp,by simp;omega,by simp;omega,h.2.2.2.1,h.2.2.2.2.1,?_,fun h1=>⟨?_,(h.2.2.2.2.2.2.1 h1).2⟩,fun h1=>?_⟩
 ·simp only
  split <;> omega
 ·simp only at h1⊢;rw[if_neg (by omega)]
 simp only at h1⊢;rw[if_pos h1];omega
theorem ZL.good {l:List Ar} {p:Option Ar} (h:ZL p l):zeD (zH l):=fun k _=>⟨zc2,fun h1=>by
 obtain⟨i,a,h2,h3,h4⟩:=Qk h1;rw[h4];exact Jw (h.all a (mG h2)) h3⟩
def J (f:Nat->On) (n:Nat) (acc:List Ar):Prop:=ZL none acc/\(∀a∈acc,a.tz<=(n:Int))/\∀k:Nat,zH acc k=if k<n then f k else on0
theorem J.zero (f:Nat->On):J f 0 []:=⟨trivial,by simp,fun k=>by simp[zH]⟩
theorem J.skip {f:Nat->On} {n:Nat} {acc:List Ar} (h:J f n acc) (h0:f n=on0):J f (n+1) acc:=by
 refine⟨h.1,fun a ha=>by have:=h.2.1 a ha;omega,fun k=>?_⟩
 rw[h.2.2 k]
 by_cases h1:k<n
 ·rw[if_pos h1,if_pos (by omega)]
 rw[if_neg h1]
 by_cases h2:k=n
 ·subst h2;rw[if_pos (by omega),h0]
 rw[if_neg (by omega)]
theorem zjp (n:Nat) (x:On) (h:x.is=true) (hp:x.file<0->x.page=0):qF (JN n x) n=x:=by
 unfold JN;rw[if_pos h];unfold qF;obtain⟨_,_,_,_,_,_⟩:=x;simp only at h hp⊢;subst h;simp only[On.mk.injEq,true_and]
 split
 ·omega
 exact(hp (by omega)).symm
theorem zft {n k:Nat} {x:On} (h:x.is=true):ZG (JN n x) k=true↔k=n:=by
 rw[zX];unfold JN;rw[if_pos h];simp only;omega
theorem J.new {f:Nat->On} {n:Nat} {acc:List Ar} (h:J f n acc) (hg:zeD f) (hn:n<64) (hs:(f n).is=true) (hl:∀b,acc.getLast? =some b->goB (JN n (f n)) b=false):J f (n+1) (acc++ [JN n (f n)]):=by
 have hok:=(hg n hn).2 hs;have hone:qF (JN n (f n)) n=f n:=zjp n _ hs fun hf=>by
  unfold jo JN at hok;rw[if_pos hs]at hok;exact(hok.2.2.2.2.2.2.1 hf).1
 refine⟨Jm.2 ⟨h.1,hok,fun b hb=>?_⟩,fun a ha=>?_,fun k=>?_⟩
 ·have hb':acc.getLast? =some b:=by
   unfold Jd at hb
   split at hb
   ·rename_i h1;rw[h1];exact hb
   cases hb
  refine⟨?_,hl b hb'⟩;have:=h.2.1 b (List.mem_of_getLast? hb');unfold JN;rw[if_pos hs];exact this
 ·rcases List.mem_append.1 ha with ha | ha
  ·have:=h.2.1 a ha;omega
  rw[List.mem_singleton]at ha;subst ha;unfold JN;rw[if_pos hs];simp
 have h1:=h.2.2 k;rw[Jb]
 ·by_cases e:k=n
  ·subst e;rw[if_pos ((zft hs).2 rfl),if_pos (by omega),hone]
  rw[if_neg (fun h2=>e ((zft hs).1 h2)),h1]
  by_cases h3:k<n
  ·rw[if_pos h3,if_pos (by omega)]
  rw[if_neg h3,if_neg (by omega)]
 by_cases e:k=n
 ·left;rw[h1,if_neg (by omega)]
 right
 cases h4:ZG (JN n (f n)) k with
 | false=>rfl
 | true=>exact absurd ((zft hs).1 h4) e
theorem J.ext {f:Nat->On} {n:Nat} {i:List Ar} {b:Ar} (h:J f n (i++ [b])) (hg:zeD f) (hn:n<64) (hs:(f n).is=true) (hgo:goB (JN n (f n)) b=true):J f (n+1) (i++ [{ b with tz:=(n:Int)+1 }]):=by
 have hok:=(hg n hn).2 hs;obtain⟨h1,h2,h3⟩:=h;obtain⟨c1,c2,c3⟩:=Jm.1 h1;have hgo':=zbF.1 hgo;unfold JN at hgo' hok;rw[if_pos hs]at hgo' hok;simp only at hgo';obtain⟨g1,g2,g3,g4,g5,g6⟩:=hgo';have c2':=c2;unfold jo at c2' hok;simp only at hok;have hlow:∀k:Nat,b.fr<=(k:Int)->zH i k=on0:=fun k hk=>by
  refine zag fun a ha=>zbU ?_
  have:a.tz<=b.fr:=by
   have hstep:∀(l:List Ar) (p:Option Ar),ZL p l->∀x∈l,∀y,Jd p l=some y->x.tz<=y.tz:=by
    intro l
    induction l with
    | nil=>intro p _ x hx;cases hx
    | cons c m ih=>
     intro p hc x hx y hy;rw[zaD]at hy
     rcases mC.1 hx with rfl | hx
     ·cases m with
      | nil=>simp[Jd]at hy;subst hy;exact Int.le_refl _
      | cons d k'=>
       have q1:=ih (some x) hc.2.2 d (by simp) y hy
       have q2:=hc.2.2.2.1 x rfl;have q3:=hc.2.2.1;unfold zkh at q2;unfold jo at q3;omega
     exact ih (some c) hc.2.2 x hx y hy
   cases hlast:Jd none i with
   | none=>
    unfold Jd at hlast
    cases i with
    | nil=>cases ha
    | cons _ _=>simp[List.getLast?_cons]at hlast
   | some y=>
    have q1:=hstep i none c1 a ha y hlast;have q2:=(c3 y hlast).1;omega
  omega
 refine⟨Jm.2 ⟨c1,?_,fun y hy=>?_⟩,fun a ha=>?_,fun k=>?_⟩
 ·unfold jo;simp only;refine⟨by omega,by omega,by omega,by omega,by omega,by omega,fun h=>c2'.2.2.2.2.2.2.1 h,fun h=>?_⟩
  rw[if_pos h]at g6;omega
 ·exact⟨(c3 y hy).1,(c3 y hy).2⟩
 ·rcases List.mem_append.1 ha with ha | ha
  ·have:=h2 a (by simp[ha]);omega
  rw[List.mem_singleton]at ha;subst ha;simp
 have e1:=h3 k;rw[Jb (by
  by_cases hk:b.fr<=(k:Int)
  ·exact .inl (hlow k hk)
  exact .inr (zbU (by omega)))]at e1
 rw[Jb (by
  by_cases hk:b.fr<=(k:Int)
  ·exact .inl (hlow k hk)
  exact .inr (zbU (by simp only;omega)))]
 by_cases hk:k=n
 ·subst hk;rw[if_pos (by rw[zX];simp only;omega),if_pos (by omega)]
  unfold qF;simp only;have hx:=hok.2.2.2.2.2.2.1
  revert hs g2 g3 g4 g5 g6 hx
  generalize f k=x
  obtain⟨_,_,_,_,_,_⟩:=x;intro hs g2 g3 g4 g5 g6 hx;simp only at hs g2 g3 g4 g5 g6 hx⊢;subst hs g2 g3 g4;simp only[On.mk.injEq,true_and];refine⟨g5.symm,?_⟩
  split
  ·rename_i h;rw[if_pos h]at g6;omega
  exact(hx (by omega)).1.symm
 have e2:ZG { b with tz:=(n:Int)+1 } k=ZG b k:=by
  unfold ZG;simp only
  congr 1
  apply decide_eq_decide.2
  omega
 rw[e2];have e3:qF { b with tz:=(n:Int)+1 } k=qF b k:=rfl;rw[e3,e1]
 by_cases h5:k<n
 ·rw[if_pos h5,if_pos (by omega)]
 rw[if_neg h5,if_neg (by omega)]
def zc8 (f:Nat->On):Nat->List Ar
 | 0=>[]
 | n+1=>
  if(f n).is=true then
   match(zc8 f n).getLast? with
   | some b=>if goB (JN n (f n)) b=true then(zc8 f n).dropLast++ [{ b with tz:=(n:Int)+1 }]else zc8 f n++ [JN n (f n)]
   | none=>zc8 f n++ [JN n (f n)]
  else zc8 f n
theorem zeO {l:List Ar} {b:Ar} (h:l.getLast? =some b):l=l.dropLast++ [b]:=by
 cases l with
 | nil=>cases h
 | cons a m=>
  rw[List.getLast?_eq_some_getLast (List.cons_ne_nil a m)]at h;cases h;exact(List.dropLast_concat_getLast _).symm
theorem zhy {f:Nat->On} (hg:zeD f):∀n:Nat,n<=64->J f n (zc8 f n)
 | 0,_=>J.zero f
 | n+1,hn=>by
  have ih:=zhy hg n (by omega)
  unfold zc8
  by_cases hs:(f n).is=true
  ·rw[if_pos hs]
   cases hl:(zc8 f n).getLast? with
   | none=>exact ih.new hg (by omega) hs (fun b hb=>by rw[hl]at hb;cases hb)
   | some b=>
    simp only
    by_cases hgo:goB (JN n (f n)) b=true
    ·rw[if_pos hgo];rw[zeO hl]at ih;exact ih.ext hg (by omega) hs hgo
    rw[if_neg hgo];refine ih.new hg (by omega) hs (fun c hc=>?_)
    rw[hl]at hc;cases hc
    simpa using hgo
  rw[if_neg hs];exact ih.skip ((hg n (by omega)).1 (by simpa using hs))
def jZ (f:Nat->On):List Ar:=zc8 f 64
theorem zbD {f:Nat->On} (hg:zeD f):J f 64 (jZ f):=zhy hg 64 (nR _)
theorem J.all {f:Nat->On} {acc:List Ar} (h:J f 64 acc) (hg:zeD f):acc=jZ f:=
 zfq h.1 (zbD hg).1 fun n _=>by rw[h.2.2,(zbD hg).2.2]
theorem zd5 {f:Nat->On} (hg:zeD f):ZL none (jZ f):=(zbD hg).1
theorem zc9 {f:Nat->On} (hg:zeD f) {k:Nat} (hk:k<64):zH (jZ f) k=f k:=by rw[(zbD hg).2.2,if_pos hk]
theorem zfT {f:Nat->On} {l:List Ar} (hg:zeD f) (hl:ZL none l) (he:∀k,k<64->f k=zH l k):jZ f=l:=
 zfq (zd5 hg) hl fun n hn=>by rw[zc9 hg hn,he n hn]
theorem J.len {f:Nat->On} {n:Nat} {acc:List Ar} (h:J f n acc):acc.length<=n:=by
 have key:∀(l:List Ar) (p:Option Ar) (c:Int),ZL p l->(∀b,p=some b->c<=b.tz)->(p=none->c<=0)->(∀a∈l,a.tz<=(n:Int))->c<=n->c+l.length<=n:=by
  intro l
  induction l with
  | nil=>intro p c _ _ _ _ hc;simpa using hc
  | cons a l ih=>
   intro p c hl hp hp0 ha hc;have h1:=hl.1;unfold jo at h1;have h2:c<=a.fr:=by
    cases p with
    | none=>have:=hp0 rfl;omega
    | some b=>have:=hp b rfl;have:=(hl.2.1 b rfl).1;omega
   have h3:=ih (some a) (c+1) hl.2.2 (fun b hb=>by cases hb;omega) (fun hb=>by cases hb) (fun x hx=>ha x (by simp[hx])) (by have:=ha a (by simp);omega)
   rw[List.length_cons];omega
 have:=key acc none 0 h.1 (fun b hb=>by cases hb) (fun _=>by omega) h.2.1 (by omega)
 omega
def goJ (x y:On):Bool:=y.is == x.is && y.rd == x.rd && y.wr == x.wr && y.sh == x.sh && decide (y.file=x.file) && decide ((if 0<=x.file then y.page+1 else y.page)=x.page)
theorem zhG {x y:On}:goJ x y=true↔y.is=x.is/\y.rd=x.rd/\y.wr=x.wr/\y.sh=x.sh/\y.file=x.file/\(if 0<=x.file then y.page+1 else y.page)=x.page:=by
 simp[goJ,and_assoc]
theorem zc7:∀(l:List Ar) (p:Option Ar),ZL p l->∀x∈l,∀y,Jd p l=some y->x=y\/x.tz<=y.fr
 | [],_,_,_,hx,_,_=>by cases hx
 | c :: m,p,hc,x,hx,y,hy=>by
  rw[zaD]at hy
  rcases mC.1 hx with e | hx
  ·cases m with
   | nil=>simp[Jd]at hy;left;rw[e,hy]
   | cons d k'=>
    right;have q2:=hc.2.2.2.1 c rfl;have q3:=hc.2.2.1;unfold zkh at q2;unfold jo at q3;rw[e]
    rcases zc7 (d :: k') (some c) hc.2.2 d (by simp) y hy with q1 | q1
    ·rw[<-q1];exact q2.1
    omega
  exact zc7 m (some c) hc.2.2 x hx y hy
theorem J.last {f:Nat->On} {n:Nat} {acc:List Ar} (h:J f (n+1) acc) (hs:(f n).is=true):∃b,acc.getLast? =some b/\b.tz=(n:Int)+1/\f n=qF b n/\jo b:=by
 have h1:=h.2.2 n;rw[if_pos (by omega)]at h1
 obtain⟨i,a,h2,h3,h4⟩:=Qk (l:=acc) (n:=n) (by rw[h1];exact hs)
 have h5:=zX.1 h3;have ha:=mG h2;have h6:=h.2.1 a ha;have hto:a.tz=(n:Int)+1:=by omega
 cases hl:acc.getLast? with
 | none=>rw[List.getLast?_eq_none_iff]at hl;rw[hl]at ha;cases ha
 | some y=>
  have hy:Jd none acc=some y:=by unfold Jd;rw[hl]
  have hay:a=y:=by
   rcases zc7 acc none h.1 a ha y hy with q | q
   ·exact q
   have q1:=h.1.all y (List.mem_of_getLast? hl);have q2:=h.2.1 y (List.mem_of_getLast? hl);unfold jo at q1;omega
  subst hay;exact⟨a,rfl,hto,by rw[<-h1,h4],h.1.all a ha⟩
theorem J.go {f:Nat->On} {n:Nat} {acc:List Ar} (h:J f (n+1) acc) (hs:(f (n+1)).is=true):(goJ (f (n+1)) (f n)=true->∃b,acc.getLast? =some b/\goB (JN (n+1) (f (n+1))) b=true)/\(goJ (f (n+1)) (f n)=false->∀b,acc.getLast? =some b->goB (JN (n+1) (f (n+1))) b=false):=by
 constructor
 ·intro hg;obtain⟨g1,g2,g3,g4,g5,g6⟩:=zhG.1 hg;obtain⟨b,h1,h2,h3,h4⟩:=h.last (by rw[g1];exact hs)
  refine⟨b,h1,zbF.2 ?_⟩;unfold JN;rw[if_pos hs];rw[h3]at g2 g3 g4 g5 g6;unfold qF at g2 g3 g4 g5 g6;unfold jo at h4;simp only at g2 g3 g4 g5 g6⊢;refine⟨by omega,g2.symm,g3.symm,g4.symm,g5.symm,?_⟩
  rw[<-g5]at g6
  by_cases h7:0<=b.file
  ·rw[if_pos h7,if_pos h7]at g6;rw[if_pos h7];omega
  rw[if_neg h7,if_neg h7]at g6;rw[if_neg h7];omega
 intro hg b hb
 cases hq:goB (JN (n+1) (f (n+1))) b with
 | false=>rfl
 | true=>
  exfalso;have hq':=zbF.1 hq;unfold JN at hq';rw[if_pos hs]at hq';simp only at hq';obtain⟨q1,q2,q3,q4,q5,q6⟩:=hq';have hmem:=List.mem_of_getLast? hb;have hbk:=h.1.all b hmem;have hbk':=hbk;unfold jo at hbk';have hin:(f n).is=true:=by
   have e1:=h.2.2 n;rw[if_pos (by omega)]at e1
   cases hz:(f n).is with
   | true=>rfl
   | false=>
    exfalso;have:∀(l:List Ar),b∈l->(zH l n).is=true:=by
     intro l
     induction l with
     | nil=>intro hx;cases hx
     | cons c m ih=>
      intro hx
      by_cases hc:ZG c n=true
      ·rw[zH,if_pos hc];rfl
      rw[zH,if_neg hc]
      rcases mC.1 hx with e | hx
      ·subst e;exact absurd (zX.2 (by omega)) hc
      exact ih hx
    have:=this acc hmem;rw[e1,hz]at this;cases this
  obtain⟨b',h1,h2,h3,h4⟩:=h.last hin;rw[hb]at h1;cases h1;have:goJ (f (n+1)) (f n)=true:=by
   rw[zhG,h3];unfold qF;simp only;refine⟨hs.symm,q2.symm,q3.symm,q4.symm,q5.symm,?_⟩;rw[q5]
   by_cases h7:0<=b.file
   ·rw[if_pos h7]at q6;rw[if_pos h7,if_pos h7];omega
   rw[if_neg h7]at q6;rw[if_neg h7,if_neg h7];omega
  rw[this]at hg;cases hg
theorem J.first {f:Nat->On} {acc:List Ar} (h:J f 0 acc):acc=[]:=List.length_eq_zero_iff.1 (by have:=h.len;omega)
def Js:Option Ar->List Ar->Nat->Int × Int
 | _,[],_=>(0,0)
 | p,a :: l,i=>
  if arW a≠0 then(arW a,i)
  else match p with
   | some b=>if a.fr<b.tz\/goB a b=true then(2,i)else Js (some a) l (i+1)
   | none=>Js (some a) l (i+1)
def wrL (l:List Ar):Int × Int:=if 16<l.length then(4,0)else Js none l 0
theorem zbl:∀{l:List Ar} {p:Option Ar} {i:Nat},(Js p l i).1=0↔ZL p l
 | [],p,i=>by simp[Js,ZL]
 | a :: l,p,i=>by
  unfold Js ZL
  by_cases h:arW a=0
  ·rw[if_neg (fun h'=>h' h)]
   cases p with
   | none=>simp[zbl (l:=l),Zj.1 h]
   | some b=>
    simp only
    by_cases h2:a.fr<b.tz\/goB a b=true
    ·rw[if_pos h2];simp only[Option.some.injEq,forall_eq'];constructor
     ·intro h3;exact absurd h3 (by decide)
     rintro⟨_,⟨h3,h4⟩,_⟩
     rcases h2 with h2 | h2
     ·omega
     rw[h4]at h2;cases h2
    rw[if_neg h2,zbl];simp only[Option.some.injEq,forall_eq',Zj.1 h,true_and];constructor
    ·intro h3;exact⟨⟨by omega,by cases hq:goB a b with | false=>rfl | true=>exact absurd (.inr hq) h2⟩,h3⟩
    exact fun h3=>h3.2
  rw[if_pos h];constructor
  ·intro h1;exact absurd h1 h
  intro h1;exact absurd (Zj.2 h1.1) h
theorem jV {l:List Ar}:(wrL l).1=0↔l.length<=16/\ZL none l:=by
 unfold wrL
 by_cases h:16<l.length
 ·rw[if_pos h];constructor
  ·intro h1;exact absurd h1 (by decide)
  intro h1;omega
 rw[if_neg h,zbl];exact⟨fun h1=>⟨by omega,h1⟩,fun h1=>h1.2⟩
def zey (l:List Ar) (a:Ar):Nat->On:=fun k=>if ZG a k=true then qF a k else zH l k
def zfD (s n:Int) (k:Nat):Bool:=decide (s<=(k:Int)) && decide ((k:Int)<s+n)
theorem zgc {s n:Int} {k:Nat}:zfD s n k=true↔s<=(k:Int)/\(k:Int)<s+n:=by simp[zfD]
def zeA (f:Nat->On):List Ar × Int:=if 16< (jZ f).length then([],4)else(jZ f,0)
def zii (l:List Ar) (s n:Int):Bool:=(List.range 64).any fun k=>zfD s n k &&(zH l k).is
def J4 (l:List Ar) (a:Ar):List Ar × Int:=if(wrL l).1≠0 then([],(wrL l).1)else if arW a≠0 then([],arW a)else if zii l a.fr (a.tz - a.fr)=true then([],6)else zeA (zey l a)
theorem zi4 {l:List Ar} {s n:Int}:zii l s n=true↔∃k:Nat,k<64/\(s<=(k:Int)/\(k:Int)<s+n)/\(zH l k).is=true:=by
 simp[zii,zfD]
theorem zjY {l:List Ar} {s n:Int}:zii l s n=false↔∀k:Nat,k<64->(s<=(k:Int)/\(k:Int)<s+n)->(zH l k).is=false:=by
 simp only[zii,List.any_eq_false,List.mem_range,Bool.and_eq_true,zgc,not_and,Bool.not_eq_true]
theorem zal {l:List Ar} {a:Ar} (hl:ZL none l) (ha:jo a):zeD (zey l a):=fun k hk=>by
 unfold zey
 by_cases h:ZG a k=true
 ·rw[if_pos h];exact⟨fun h1=>(by cases h1),fun _=>Jw ha h⟩
 rw[if_neg h];exact hl.good k hk
theorem zj6 {f:Nat->On} (h:(zeA f).2=0):zeA f=(jZ f,0)/\(jZ f).length<=16:=by
 unfold zeA at h⊢
 by_cases h1:16< (jZ f).length
 ·rw[if_pos h1]at h;exact absurd h (by decide)
 rw[if_neg h1];exact⟨rfl,by omega⟩
theorem zkR {f:Nat->On} (hg:zeD f) (h:(jZ f).length<=16):(wrL (jZ f)).1=0:=jV.2 ⟨h,zd5 hg⟩
theorem ze5 {l:List Ar} {a:Ar} (h:(J4 l a).2=0):(wrL l).1=0/\arW a=0/\zii l a.fr (a.tz - a.fr)=false/\(jZ (zey l a)).length<=16/\(J4 l a).1=jZ (zey l a):=by
 unfold J4 at h⊢
 by_cases h1:(wrL l).1=0
 ·rw[if_neg (fun h'=>h' h1)]at h⊢
  by_cases h2:arW a=0
  ·rw[if_neg (fun h'=>h' h2)]at h⊢
   cases h3:zii l a.fr (a.tz - a.fr)with
   | true=>rw[h3,if_pos rfl]at h;exact absurd h (by decide)
   | false=>
    rw[h3,if_neg (by decide)]at h
    rw[if_neg (by decide)]
    obtain⟨h4,h5⟩:=zj6 h;exact⟨h1,h2,rfl,h5,by rw[h4]⟩
  rw[if_pos h2]at h;exact absurd h h2
 rw[if_pos h1]at h;exact absurd h h1
theorem zks {a b:Ar} (hb:jo b) (ha:jo a) (hf:b.tz<=a.fr):decide ((jZ (zH [b,a])).length<2)=goB a b:=by
 have ha':=ha;have hb':=hb;unfold jo at ha' hb';have hgood:zeD (zH [b,a]):=fun k _=>⟨zc2,fun h1=>by
  obtain⟨i,c,h2,h3,h4⟩:=Qk h1;rw[h4];have:c=b\/c=a:=by simpa using mG h2
  rcases this with e | e <;> subst e
  ·exact Jw hb h3
  exact Jw ha h3⟩
 cases hg:goB a b with
 | true=>
  obtain⟨g1,g2,g3,g4,g5,g6⟩:=zbF.1 hg;have hc:ZL none [{ b with tz:=a.tz }]:=by
   refine⟨?_,fun x hx=>(by cases hx),trivial⟩
   unfold jo;simp only;refine⟨by omega,by omega,by omega,by omega,by omega,by omega,hb'.2.2.2.2.2.2.1,fun h=>?_⟩
   rw[if_pos h]at g6;omega
  rw[zfT hgood hc fun k hk=>?_]
  ·rfl
  have e3:qF { b with tz:=a.tz } k=qF b k:=rfl;simp only[zH]
  by_cases h1:ZG b k=true
  ·have:=zX.1 h1;rw[if_pos h1,if_pos (zX.2 (by simp only;omega)),e3]
  have h1':¬(b.fr<=(k:Int)/\(k:Int)<b.tz):=fun h=>h1 (zX.2 h)
  rw[if_neg h1]
  by_cases h2:ZG a k=true
  ·have h2':=zX.1 h2;rw[if_pos h2,if_pos (zX.2 (by simp only;omega)),e3]
   unfold qF;rw[g2,g3,g4,g5,g6]
   by_cases h7:0<=b.file
   ·rw[if_pos h7,if_pos h7,if_pos h7]
    congr 1
    omega
   rw[if_neg h7,if_neg h7]
  have h2':¬(a.fr<=(k:Int)/\(k:Int)<a.tz):=fun h=>h2 (zX.2 h)
  rw[if_neg h2,if_neg (fun h=>by have:=zX.1 h;simp only at this;omega)]
 | false=>
  have hc:ZL none [b,a]:=⟨hb,fun x hx=>(by cases hx),ha,fun x hx=>(by cases hx;exact⟨hf,hg⟩),trivial⟩
  rw[zfT hgood hc fun _ _=>rfl]
  rfl
structure Sp where
 live:Bool
 ars:List Ar
 tb:List (List En)
structure Ca where
 file:Int
 idx:Int
 fr:Int
structure Ma where
 fs:List Fr
 hand:Int
 sl:List Int
 sb:List (List Int)
 sq:List (Int × List Int)
 db:List (List Int)
 dq:List (Int × List Int)
 fl:List Fl
 cnt:Int
 ca:List Ca
 sp:List Sp
def ze:List Int->Int
 | []=>0
 | e :: l=>if e=0 then ze l else e
theorem zI:∀{l:List Int},ze l=0↔∀e∈l,e=0
 | []=>by simp[ze]
 | e :: l=>by
  unfold ze
  by_cases h:e=0
  ·rw[if_pos h,zI]
   simp[h]
  rw[if_neg h]
  simp[h]
def jP (m:Ma):Int:=if(List.range m.db.length).any (fun(b:Nat)=>!qG m.fl (b:Int) && !(m.db.getD b [] == zz))=true then 7 else 0
def jH (m:Ma):Int:=if m.dq.any (fun q=>!qG m.fl q.1)=true then 7 else 0
def spE (s:Sp):Int:=if(wrL s.ars).1≠0 then(wrL s.ars).1 else if tbW s.tb≠0 then tbW s.tb else if(!s.live &&(!s.ars.isEmpty || !s.tb.all (·.isEmpty)))=true then 7 else 0
def zcc (m:Ma):Int:=if m.sl.length≠m.sb.length\/m.cnt≠(m.db.length:Int)then 7 else 0
def zaB (m:Ma):Int:=ze [Ze m.fs m.hand,slW m.sl,zy m.sb.length m.sq,zy m.db.length m.dq,stW m.fl m.cnt,zcc m,jP m,jH m,if 4<m.sp.length then 4 else 0,ze (m.sp.map spE)]
def bkN (m:Ma) (file:Int):Int:=((m.fl.getD file.toNat ⟨0,[]⟩).bl.length:Nat)
def z8 (m:Ma) (k:Int):Fr:=m.fs.getD k.toNat frF
def jM (c:Ca):Int:=100*c.file+c.idx
def caE (m:Ma) (p:Option Ca) (c:Ca):Int:=
 if c.file<0\/(m.fl.length:Int)<=c.file\/c.idx<0\/bkN m c.file<=c.idx\/c.fr<0\/(m.fs.length:Int)<=c.fr then 3
 else if(z8 m c.fr).r=0\/(z8 m c.fr).f≠c.file\/(z8 m c.fr).x≠c.idx then 7
 else match p with | some q=>(if jM c<=jM q then 2 else 0) | none=>0
def J1 (m:Ma):Option Ca->List Ca->Int
 | _,[]=>0
 | p,c :: l=>if caE m p c=0 then J1 m (some c) l else caE m p c
def JF (m:Ma) (x:On) (e:En):Int:=
 if x.is=false then 5
 else if e.kind=2 then(if(m.sl.length:Int)<=e.n\/x.sh=true then 7 else 0)
 else if(m.fs.length:Int)<=e.n then 3
 else if(¬(z8 m e.n).f=-1/\¬(0<=x.file/\(z8 m e.n).f=x.file/\(z8 m e.n).x=x.page))\/(x.sh=true/\¬(0<=x.file/\(z8 m e.n).f=x.file/\(z8 m e.n).x=x.page))\/(e.wr=true/\x.wr=false)\/(e.wr=true/\(0<=x.file/\(z8 m e.n).f=x.file/\(z8 m e.n).x=x.page)/\x.sh=false)\/(e.wr=true/\(z8 m e.n).f=-1/\1< (z8 m e.n).r)then 7 else 0
def zJ (s:Sp) (n:Nat):En:=za0 s.tb (n / 8) (n % 8)
def Zd (m:Ma) (s:Sp):Int:=ze ((List.range 64).map fun n=>if(zJ s n).kind=0 then 0 else JF m (zH s.ars n) (zJ s n))
def isE (e:En) (kind k:Int):Bool:=decide (e.kind=kind) && decide (e.n=k)
def jO (f:Nat->En) (kind k:Int):Nat->Nat
 | 0=>0
 | n+1=>jO f kind k n+(isE (f n) kind k).toNat
def je (T:List (Nat->En)) (kind k:Int):Nat:=(T.map fun f=>jO f kind k 64).sum
def j7 (m:Ma) (kind k:Int):Nat:=je (m.sp.map zJ) kind k
def zK (ca:List Ca) (k:Int):Nat:=ca.countP fun c=>decide (c.fr=k)
def frE (m:Ma) (k:Nat):Int:=if(z8 m k).r≠((j7 m 1 k+zK m.ca k:Nat):Int)\/(0<=(z8 m k).f/\zK m.ca k=0)then 7 else 0
def Qh (m:Ma) (k:Nat):Int:=if m.sl.getD k 0≠(j7 m 2 k:Int)then 7 else 0
def maW (m:Ma):Int:=ze [zaB m,J1 m none m.ca,ze (m.sp.map (Zd m)),ze ((List.range m.fs.length).map (frE m)),ze ((List.range m.sl.length).map (Qh m))]
def qm (f:Nat->En) (n:Nat) (e:En):Nat->En:=fun j=>if j=n then e else f j
theorem zh3 (f:Nat->En) {n:Nat} (e:En) (kind k:Int):∀m:Nat,jO (qm f n e) kind k m+(if n<m then(isE (f n) kind k).toNat else 0)=jO f kind k m+(if n<m then(isE e kind k).toNat else 0)
 | 0=>by simp[jO]
 | m+1=>by
  have ih:=zh3 f e kind k (n:=n) m;unfold jO
  by_cases h:n=m
  ·subst h;rw[if_neg (Nat.lt_irrefl _),if_neg (Nat.lt_irrefl _)]at ih;rw[if_pos (Nat.lt_succ_self _),if_pos (Nat.lt_succ_self _)];have:qm f n e n=e:=by unfold qm;rw[if_pos rfl]
   rw[this];omega
  have:qm f n e m=f m:=by unfold qm;rw[if_neg (fun h'=>h h'.symm)]
  rw[this]
  by_cases h2:n<m
  ·rw[if_pos h2,if_pos h2]at ih;rw[if_pos (by omega),if_pos (by omega)]
   omega
  rw[if_neg h2,if_neg h2]at ih;rw[if_neg (by omega),if_neg (by omega)]
  omega
theorem Zg:∀{T:List (Nat->En)} {p:Nat} {f:Nat->En} {n:Nat} (e:En) (kind k:Int),T[p]? =some f->n<64->je (T.set p (qm f n e)) kind k+(isE (f n) kind k).toNat=je T kind k+(isE e kind k).toNat
 | [],p,f,n,e,kind,k,h,_=>by simp at h
 | g :: T,0,f,n,e,kind,k,h,hn=>by
  simp at h
  subst h;have:=zh3 g e kind k (n:=n) 64;rw[if_pos hn,if_pos hn]at this;simp only[sZ,je,mP,List.sum_cons];omega
 | g :: T,p+1,f,n,e,kind,k,h,hn=>by
  have ih:=Zg (T:=T) (p:=p) (f:=f) (n:=n) e kind k (by simpa using h) hn
  simp only[sS,je,mP,List.sum_cons]at ih⊢;omega
theorem zh5 (f:Nat->En) (kind k:Int):∀m:Nat,jO f kind k m<=m
 | 0=>nR _
 | m+1=>by
  have:=zh5 f kind k m;unfold jO
  cases isE (f m) kind k <;> simp <;> omega
theorem zaE:∀(T:List (Nat->En)) (kind k:Int),je T kind k<=64*T.length
 | [],_,_=>by simp[je]
 | f :: T,kind,k=>by
  have h1:=zh5 f kind k 64;have h2:=zaE T kind k;simp only[je,mP,List.sum_cons,List.length_cons]at h2⊢;omega
theorem jq (kind k:Int) (h:kind≠0):isE en0 kind k=false:=by
 have:¬en0.kind=kind:=fun e=>h e.symm
 simp[isE,this]
theorem zdf {T:List (Nat->En)} {p:Nat} {f:Nat->En} {n:Nat} {kind k:Int} (hT:T[p]? =some f) (hn:n<64) (h:isE (f n) kind k=true) (hk:kind≠0):1<=je T kind k:=by
 have:=Zg en0 kind k hT hn;rw[h,jq kind k hk]at this
 simp at this
 omega
theorem zi2 {T:List (Nat->En)} {p q:Nat} {f g:Nat->En} {n j:Nat} {kind k:Int} (hT:T[p]? =some f) (hn:n<64) (h:isE (f n) kind k=true) (hq:T[q]? =some g) (hj:j<64) (h':isE (g j) kind k=true) (hne:p≠q\/n≠j) (hk:kind≠0):2<=je T kind k:=by
 have h1:=Zg en0 kind k hT hn;rw[h,jq kind k hk]at h1
 simp at h1
 have hp:=(gS.1 hT).1
 by_cases e:q=p
 ·subst e;rw[hT]at hq;cases hq;have h2:1<=je (T.set q (qm f n en0)) kind k:=by
   refine zdf (p:=q) (f:=qm f n en0) (n:=j) (sF hp) hj ?_ hk;have:j≠n:=fun e=>(hne.resolve_left (fun h=>h rfl)) e.symm
   unfold qm;rw[if_neg this];exact h'
  omega
 have h2:1<=je (T.set p (qm f n en0)) kind k:=zdf (p:=q) (f:=g) (n:=j) (by rw[sN (fun h=>e h.symm)];exact hq) hj h' hk
 omega
theorem zao (T:List (Nat->En)) (kind k:Int) (hk:kind≠0):je (T++ [fun _=>en0]) kind k=je T kind k:=by
 have:∀m,jO (fun _=>en0) kind k m=0:=by
  intro m
  induction m with
  | zero=>rfl
  | succ m ih=>
   unfold jO;rw[ih,jq kind k hk];rfl
 simp[je,this]
end
section
open Go.RowKit
def zc (w w':World):Prop:=Below w.heap.size w w'
theorem zc.refl (w:World):zc w w:=bR _ _
theorem zc.trans {a b c:World} (h:zc a b) (k:zc b c):zc a c:=Below.trans h (k.mono h.size)
structure zik where
 pv:Value->Prop
 post:Value->World->Prop
def zL (P:Program) (o:Oper) (a:Act) (w:World) (K:Value->World->Prop):Prop:=
 match(execOp a.eval o).run P w with
 | .ok (.value v) w'=>K v w'
 | .ok .skip w'=>K undef w'
 | .ok (.enter f args) w'=>Calls P f args w' fun e w''=>∃v,e= .returned v/\K v w''
 | _=>False
theorem zL.wp {P:Program} {o:Oper} {a:Act} {w:World} {K:Value->World->Prop} {next:Act->World->Prop} {Q:Exit->Act->World->Prop}
  (h:zL P o a w K) (hn:∀v w',K v w'->next (a.put o.dst v) w'):o.wp P a w next Q:=by
 unfold zL at h;unfold Oper.wp
 generalize(execOp a.eval o).run P w=r at*
 cases r with
 | ok n w'=>
  cases n <;> simp only[Oper.upon]at h⊢
  case value v=>exact hn _ _ h
  case skip=>exact hn _ _ h
  case enter f args=>exact h.mono fun e w'' ⟨v,he,hk⟩=>by subst he;exact hn _ _ hk
 | halt x w'=>simp only at h
def zaT (ops:Array Oper) (i j:Nat):Bool:=((ops[j]?).map fun o=>o.after.any fun e=>Region.binds .any e && e.on == i).getD false
def anc (ops:Array Oper):Nat->Nat->Nat->Bool
 | 0,_,_=>false
 | f+1,i,j=>zaT ops i j || (List.range j).any fun k=>zaT ops k j && anc ops f i k
def ZU (F:Nat->World->Prop) (k:Nat) (p:World->Prop):Nat->World->Prop:=fun i=>if i=k then p else F i
section
variable(P:Program) (ops:Array Oper) (w0:World) (S:Nat->Option zik)
def Zc (i:Nat) (F:Nat->World->Prop) (a:Act) (K:(Nat->World->Prop)->Act->Prop):Prop:=
 match ops[i]? with
 | none=>False
 | some o=>
  if Region.wanted o (yielded ops a.tmps)then
   match S i with
   | none=>∃v,(∀w,zc w0 w->(∀m,anc ops 3 m i=true->F m w)->(execOp a.eval o).run P w= .ok (.value v) w)/\K F (a.put o.dst v)
   | some s=>(∀w,zc w0 w->(∀m,anc ops 3 m i=true->F m w)->zL P o a w fun v w'=>zc w w'/\s.pv v/\s.post v w')/\∀v,s.pv v->K (ZU F i (s.post v)) (a.put o.dst v)
  else K F (a.put o.dst undef)
def zf9 (Q:Act->World->Prop):List Nat->(Nat->World->Prop)->Act->Prop
 | [],F,a=>∀w,zc w0 w->(∀i,F i w)->Q a w
 | i :: l,F,a=>Zc P ops w0 S i F a (zf9 Q l)
end
section
variable{P:Program} {ops:Array Oper} {w0:World} {S:Nat->Option zik}
theorem zV {F:Nat->World->Prop} {k m:Nat} {p:World->Prop} (h:m≠k):ZU F k p m=F m:=by simp[ZU,h]
theorem zea {F:Nat->World->Prop} {i j:Nat} {p q:World->Prop} (h:i≠j):ZU (ZU F i p) j q=ZU (ZU F j q) i p:=by
 funext m
 simp only[ZU]
 by_cases h1:m=j
 ·by_cases h2:m=i
  ·omega
  simp[h1];intro h3;omega
 simp[h1]
theorem Zc.mono {i:Nat} {F:Nat->World->Prop} {a:Act} {K K':(Nat->World->Prop)->Act->Prop}
  (h:∀F' a',(∀m,m≠i->F' m=F m)->K F' a'->K' F' a') (hc:Zc P ops w0 S i F a K):Zc P ops w0 S i F a K':=by
 unfold Zc at*
 split
 ·rename_i ho;simp only[ho]at hc
 rename_i o ho
 simp only[ho]at hc
 split
 ·rename_i hw
  simp only[hw,if_true]at hc
  split
  ·rename_i hs
   simp only[hs]at hc;obtain⟨v,h1,h2⟩:=hc;exact⟨v,h1,h _ _ (fun _ _=>rfl) h2⟩
  rename_i s hs
  simp only[hs]at hc;exact⟨hc.1,fun v hv=>h _ _ (fun m hm=>zV hm) (hc.2 v hv)⟩
 rename_i hw
 simp only[hw]at hc;exact h _ _ (fun _ _=>rfl) hc
theorem Zc.swap {i j:Nat} {oi oj:Oper} {F:Nat->World->Prop} {a:Act} {K:(Nat->World->Prop)->Act->Prop} {w:World}
  (hi:ops[i]? =some oi) (hj:ops[j]? =some oj) (hne:i≠j) (hap:oi.apart ops oj=true)
  (hsi:∀cs b,oi.op≠.select cs b) (hsj:∀cs b,oj.op≠.select cs b)
  (hij:anc ops 3 i j=false) (hji:anc ops 3 j i=false) (hS:∀s,S i=some s->∃v,s.pv v)
  (hw0:zc w0 w) (hF:∀m,anc ops 3 m j=true->F m w)
  (h:Zc P ops w0 S i F a fun F' a'=>Zc P ops w0 S j F' a' K):Zc P ops w0 S j F a fun F' a'=>Zc P ops w0 S i F' a' K:=by
 obtain⟨h1,h2,h3⟩:=Oper.apart_spec hap;have ei:∀v,execOp (a.put oj.dst v).eval oi=execOp a.eval oi:=fun v=>execOp_put oi hsi a oj.dst v h3
 have ej:∀v,execOp (a.put oi.dst v).eval oj=execOp a.eval oj:=fun v=>execOp_put oj hsj a oi.dst v h1
 have wi:∀v,Region.wanted oi (yielded ops (a.put oj.dst v).tmps)=Region.wanted oi (yielded ops a.tmps):=fun v=>wanted_put oi a oj.dst v h3
 have wj:∀v,Region.wanted oj (yielded ops (a.put oi.dst v).tmps)=Region.wanted oj (yielded ops a.tmps):=fun v=>wanted_put oj a oi.dst v h1
 have di:∀v w K,zL P oi (a.put oj.dst v) w K=zL P oi a w K:=fun v w K=>by unfold zL;rw[ei]
 have dj:∀v w K,zL P oj (a.put oi.dst v) w K=zL P oj a w K:=fun v w K=>by unfold zL;rw[ej]
 have pc:∀v u,(a.put oi.dst v).put oj.dst u=(a.put oj.dst u).put oi.dst v:=fun v u=>Act.put_comm a v u h2
 have fi:∀p,(fun m=>anc ops 3 m i=true->ZU F j p m w=F m w)=fun _=>True:=fun p=>by
  funext m
  simp only[eq_iff_iff,iff_true];intro hm;rw[zV (fun e=>by subst e;rw[hji]at hm;cases hm)]
 have faci:∀p w',(∀m,anc ops 3 m i=true->ZU F j p m w')↔(∀m,anc ops 3 m i=true->F m w'):=fun p w'=>by
  constructor <;> intro hh m hm <;> have:=hh m hm
  ·rwa [zV (fun e=>by subst e;rw[hji]at hm;cases hm)]at this
  rwa [zV (fun e=>by subst e;rw[hji]at hm;cases hm)]
 have facj:∀p w',(∀m,anc ops 3 m j=true->ZU F i p m w')↔(∀m,anc ops 3 m j=true->F m w'):=fun p w'=>by
  constructor <;> intro hh m hm <;> have:=hh m hm
  ·rwa [zV (fun e=>by subst e;rw[hij]at hm;cases hm)]at this
  rwa [zV (fun e=>by subst e;rw[hij]at hm;cases hm)]
 clear fi;unfold Zc at h⊢;simp only[hi,hj,ei,ej,wi,wj,di,dj,pc]at h⊢
 cases hwi:Region.wanted oi (yielded ops a.tmps) <;> cases hwj:Region.wanted oj (yielded ops a.tmps) <;>
  simp only[hwi,hwj,if_true,if_false,Bool.false_eq_true]at h⊢
 ·exact h
 ·cases hsj':S j with
  | none=>simp only[hsj']at h⊢;exact h
  | some s=>simp only[hsj']at h⊢;exact h
 ·cases hsi':S i with
  | none=>simp only[hsi']at h⊢;exact h
  | some s=>simp only[hsi']at h⊢;exact h
 cases hsi':S i with
 | none=>
  simp only[hsi']at h;obtain⟨vi,hri,h⟩:=h
  cases hsj':S j with
  | none=>
   simp only[hsj']at h⊢;obtain⟨vj,hrj,h⟩:=h;exact⟨vj,hrj,vi,hri,h⟩
  | some s=>
   simp only[hsj']at h⊢;exact⟨h.1,fun vj hvj=>⟨vi,fun w' hw' hf=>hri w' hw' ((faci _ _).1 hf),h.2 vj hvj⟩⟩
 | some si=>
  simp only[hsi']at h;obtain⟨hdi,h⟩:=h;obtain⟨v1,hv1⟩:=hS si hsi'
  cases hsj':S j with
  | none=>
   simp only[hsj']at h⊢;obtain⟨vj,hrj,_⟩:=h v1 hv1;refine⟨vj,fun w' hw' hf=>hrj w' hw' ((facj _ _).2 hf),hdi,fun vi hvi=>?_⟩
   obtain⟨vj',hrj',hl⟩:=h vi hvi;have e1:=hrj w hw0 ((facj _ _).2 hF);have e2:=hrj' w hw0 ((facj _ _).2 hF);rw[e1]at e2;simp only[Result.ok.injEq,Next.value.injEq,and_true]at e2;subst e2;exact hl
  | some sj=>
   simp only[hsj']at h⊢;refine⟨fun w' hw' hf=>(h v1 hv1).1 w' hw' ((facj _ _).2 hf),fun vj hvj=>⟨fun w' hw' hf=>hdi w' hw' ((faci _ _).1 hf),fun vi hvi=>?_⟩⟩
   have:=(h vi hvi).2 vj hvj;rwa [zea hne]at this
theorem zf9.commute {Q:Act->World->Prop} {j:Nat} {oj:Oper} {w:World} (hj:ops[j]? =some oj) (hw0:zc w0 w)
  (hsel:∀(k:Nat) (o:Oper) cs b,ops[k]? =some o->o.op≠.select cs b) (hS:∀k s,S k=some s->∃v,s.pv v):
  ∀(l:List Nat) (F:Nat->World->Prop) (a:Act),l.Nodup->j∈l->
   (∀i∈l,i≠j->∃oi,ops[i]? =some oi/\(i<j->oi.apart ops oj=true)/\anc ops 3 i j=false/\(i<j->anc ops 3 j i=false))->
   (l.Pairwise (·< ·))->(∀m,anc ops 3 m j=true->F m w)->zf9 P ops w0 S Q l F a->zf9 P ops w0 S Q (j :: l.filter (· != j)) F a
 | [],_,_,_,hm,_,_,_,_=>by cases hm
 | i :: l,F,a,hnd,hm,hall,hsorted,hF,h=>by
  by_cases hij:i=j
  ·subst hij;have:(i :: l).filter (· != i)=l:=by
    rw[List.filter_cons];simp only[bne_self_eq_false,Bool.false_eq_true,if_false];refine List.filter_eq_self.2 fun x hx=>?_
    have:x≠i:=fun e=>(List.nodup_cons.1 hnd).1 (e ▸ hx)
    simpa using this
   rw[this];exact h
  have hjl:j∈l:=by
   rcases mC.1 hm with e | e
   ·exact absurd e.symm hij
   exact e
  have hlt:i<j:=(List.pairwise_cons.1 hsorted).1 j hjl;obtain⟨oi,hoi,hap,haij,haji⟩:=hall i (by simp) hij
  have hf:(i :: l).filter (· != j)=i :: l.filter (· != j):=by
   rw[List.filter_cons];have:(i != j)=true:=by simpa using hij
   simp[this]
  rw[hf];refine Zc.swap hoi hj hij (hap hlt) (fun cs b=>hsel i oi cs b hoi) (fun cs b=>hsel j oj cs b hj) haij (haji hlt) (hS i) hw0 hF ?_
  refine Zc.mono (fun F' a' hF' hl=>?_) h
  refine zf9.commute hj hw0 hsel hS l F' a' (List.nodup_cons.1 hnd).2 hjl (fun k hk=>hall k (by simp[hk])) (List.pairwise_cons.1 hsorted).2 (fun m hma=>?_) hl
  rw[hF' m (fun e=>by subst e;rw[haij]at hma;cases hma)]
  exact hF m hma
def zjW (ops:Array Oper):Bool:=
 Region.noSelect ops &&(List.range ops.size).all fun j=>match ops[j]? with
  | none=>false
  | some oj=>oj.after.all (fun e=>!Region.binds .any e || decide (e.on<j)) &&(List.range j).all fun i=>zaT ops i j || (match ops[i]? with | some oi=>oi.apart ops oj | none=>false)
def qu (ops:Array Oper) (listed:Array Bool):List Nat:=(List.range ops.size).filter fun i=>listed.getD i true == false
theorem jt {i j:Nat} {o:Oper} (ho:ops[j]? =some o):zaT ops i j=true↔∃e∈o.after,Region.binds .any e=true/\e.on=i:=by
 unfold zaT;rw[ho,Option.map_some,Option.getD_some,Array.any_eq_true'];simp
theorem zbC (hB:zjW ops=true) {j:Nat} {oj:Oper} (hj:ops[j]? =some oj):
  (∀i,zaT ops i j=true->i<j)/\∀i,i<j->zaT ops i j=true\/∃oi,ops[i]? =some oi/\oi.apart ops oj=true:=by
 simp only[zjW,Bool.and_eq_true,List.all_eq_true,List.mem_range]at hB;have h:=hB.2 j (aS.1 hj).1;simp only[hj,Bool.and_eq_true,List.all_eq_true,List.mem_range]at h;refine⟨fun i hi=>?_,fun i hi=>?_⟩
 ·obtain⟨e,he,hb,rfl⟩:=(jt hj).1 hi;have:=Array.all_eq_true_iff_forall_mem.1 h.1 e he
  simpa [hb]using this
 have:=h.2 i hi;rw[Bool.or_eq_true]at this
 rcases this with h1 | h1
 ·exact Or.inl h1
 right
 cases ho:ops[i]? with
 | none=>simp[ho]at h1
 | some oi=>simp only[ho]at h1;exact⟨oi,rfl,h1⟩
theorem zbO {i j:Nat} (h:zaT ops i j=true):∃oj,ops[j]? =some oj:=by
 cases hj:ops[j]? with
 | none=>simp[zaT,hj]at h
 | some oj=>exact⟨oj,rfl⟩
theorem zjE (hB:zjW ops=true):∀(f i j:Nat),anc ops f i j=true->i<j
 | 0,_,_,h=>by simp[anc]at h
 | f+1,i,j,h=>by
  simp only[anc,Bool.or_eq_true,List.any_eq_true,List.mem_range,Bool.and_eq_true]at h
  rcases h with h | ⟨k,hk,_,h⟩
  ·obtain⟨oj,hj⟩:=zbO h;exact(zbC hB hj).1 i h
  have:=zjE hB f i k h;omega
def ZX (ops:Array Oper) (listed:Array Bool):Prop:=∀i j,listed.getD j false=true->zaT ops i j=true->listed.getD i false=true
theorem qg {listed:Array Bool} (hc:ZX ops listed):∀(f i j:Nat),(∀k,zaT ops k j=true->listed.getD k false=true)->anc ops f i j=true->listed.getD i false=true
 | 0,_,_,_,h=>by simp[anc]at h
 | f+1,i,j,hj,h=>by
  simp only[anc,Bool.or_eq_true,List.any_eq_true,List.mem_range,Bool.and_eq_true]at h
  rcases h with h | ⟨k,_,hkj,h⟩
  ·exact hj i h
  exact qg hc f i k (fun m hm=>hc m k (hj k hkj) hm) h
theorem qH {listed:Array Bool} {i:Nat} (h:listed.getD i true=false):listed.getD i false=false:=by
 rcases Nat.lt_or_ge i listed.size with h' | h'
 ·simp[h']at h⊢;exact h
 simp[Array.getElem?_eq_none h']at h
theorem zaN {listed:Array Bool} {j:Nat} (hsz:listed.size=ops.size) (hj:j<ops.size):
  qu ops (listed.setIfInBounds j true)=(qu ops listed).filter (· != j):=by
 unfold qu;rw[List.filter_filter];refine List.filter_congr fun i hi=>?_
 by_cases h:j=i
 ·subst h
  simp[hsz,hj]
 rw[getD_set_ne true h];have:(i != j)=true:=by simpa using Ne.symm h
 rw[this,Bool.true_and]
theorem zcM {Q:Act->World->Prop} {Q':Exit->Act->World->Prop} (hB:zjW ops=true) (hS:∀k s,S k=some s->∃v,s.pv v)
  (hp:∀k s,S k=some s->∀v w w',zc w w'->s.post v w->s.post v w') (hQ:∀a w,Q a w->Q' .normal a w):
  ∀(fuel:Nat) (listed:Array Bool) (F:Nat->World->Prop) (a:Act) (w:World),listed.size=ops.size->(qu ops listed).length=fuel->ZX ops listed->zc w0 w->
   (∀i,F i w)->(∀i w w',zc w w'->F i w->F i w')->zf9 P ops w0 S Q (qu ops listed) F a->wpAny P .any ops Q' fuel listed a w:=by
 have hsel:=Region.noSelect_spec (ops:=ops) (by simp only[zjW,Bool.and_eq_true]at hB;exact hB.1)
 intro fuel
 induction fuel with
 | zero=>
  intro listed F a w hsz hl hc hw hF hFp h;have hnil:qu ops listed=[]:=eN hl;rw[hnil]at h;refine⟨?_,hQ _ _ (h w hw hF)⟩
  cases hr:Region.ready .any ops listed with
  | nil=>rfl
  | cons x xs=>
   have hx:x∈Region.ready .any ops listed:=by rw[hr];simp
   obtain⟨h0,o,ho,_⟩:=mem_ready.1 hx;have:x∈qu ops listed:=List.mem_filter.2 ⟨List.mem_range.2 (aS.1 ho).1,by simp only[h0,beq_self_eq_true]⟩
   rw[hnil]at this;cases this
 | succ fuel ih=>
  intro listed F a w hsz hl hc hw hF hFp h;refine⟨fun hr=>?_,fun j hj=>?_⟩
  ·exfalso
   cases hu:qu ops listed with
   | nil=>simp[hu]at hl
   | cons x xs=>
    have hx:x∈qu ops listed:=by rw[hu];simp
    have hx':=List.mem_filter.1 hx;have hxs:x<ops.size:=List.mem_range.1 hx'.1;have ho:ops[x]? =some ops[x]:=Array.getElem?_eq_getElem hxs;have hsorted:(qu ops listed).Pairwise (·< ·):=List.Pairwise.filter _ List.pairwise_lt_range;have:x∈Region.ready .any ops listed:=by
     refine mem_ready.2 ⟨by simpa using hx'.2,ops[x],ho,fun e he hb=>?_⟩
     have hed:zaT ops e.on x=true:=(jt ho).2 ⟨e,he,hb,rfl⟩;have hlt:=(zbC hB ho).1 _ hed
     cases hg:listed.getD e.on true with
     | true=>
      have:e.on<listed.size:=by omega
      simp[this]at hg⊢
      exact hg
     | false=>
      have hmem:e.on∈qu ops listed:=List.mem_filter.2 ⟨List.mem_range.2 (by omega),by simp only[hg,beq_self_eq_true]⟩
      rw[hu]at hmem hsorted
      rcases mC.1 hmem with e1 | e1
      ·omega
      have:=(List.pairwise_cons.1 hsorted).1 _ e1;omega
    rw[hr]at this;cases this
  obtain⟨h0,oj,hoj,hall⟩:=mem_ready.1 hj;have hjs:j<ops.size:=(aS.1 hoj).1;have hju:j∈qu ops listed:=List.mem_filter.2 ⟨List.mem_range.2 hjs,by simp only[h0,beq_self_eq_true]⟩
  have hdir:∀k,zaT ops k j=true->listed.getD k false=true:=fun k hk=>by
   obtain⟨e,he,hb,rfl⟩:=(jt hoj).1 hk;exact hall e he hb
  have hnd:(qu ops listed).Nodup:=List.Pairwise.filter _ List.nodup_range;have hsorted:(qu ops listed).Pairwise (·< ·):=List.Pairwise.filter _ List.pairwise_lt_range;have hcm:=zf9.commute hoj hw hsel hS (qu ops listed) F a hnd hju (fun i hi hij=>by
   have hi':=List.mem_filter.1 hi;have hun:listed.getD i false=false:=qH (by simpa using hi'.2)
   have his:i<ops.size:=List.mem_range.1 hi'.1;have hoi:ops[i]? =some ops[i]:=Array.getElem?_eq_getElem his;refine⟨ops[i],hoi,fun hlt=>?_,?_,fun hlt=>?_⟩
   ·rcases(zbC hB hoj).2 i hlt with he | ⟨oi,hoi',hap⟩
    ·have:=hdir i he;rw[hun]at this;cases this
    rw[hoi]at hoi';cases hoi';exact hap
   ·cases ha:anc ops 3 i j with
    | false=>rfl
    | true=>
     have:=qg hc 3 i j hdir ha;rw[hun]at this;cases this
   cases ha:anc ops 3 j i with
   | false=>rfl
   | true=>
    have:=zjE hB 3 j i ha
    omega) hsorted (fun m _=>hF m) h
  have hsz':(listed.setIfInBounds j true).size=ops.size:=by simp[hsz]
  have hlen':(qu ops (listed.setIfInBounds j true)).length=fuel:=by
   rw[zaN hsz hjs];have he:(qu ops listed).filter (· != j)=(qu ops listed).erase j:=by
    rw[List.Nodup.erase_eq_filter hnd]
   rw[he,List.length_erase_of_mem hju];omega
  have hc':ZX ops (listed.setIfInBounds j true):=fun i k hk hik=>by
   by_cases hkj:j=k
   ·subst hkj;exact getD_set_true (hdir i hik)
   rw[getD_set_ne false hkj]at hk;exact getD_set_true (hc i k hk hik)
  unfold wpOp;simp only[hoj];simp only[zf9,Zc,hoj]at hcm;rw[<-zaN hsz hjs]at hcm
  split
  ·rename_i hwant
   simp only[hwant,if_true]at hcm;refine .inl ?_
   cases hs:S j with
   | none=>
    simp only[hs]at hcm;obtain⟨v,hrun,hk⟩:=hcm;have hr:=hrun w hw (fun m _=>hF m)
    unfold Oper.wp;rw[hr];exact ih _ F _ w hsz' hlen' hc' hw hF hFp hk
   | some s=>
    simp only[hs]at hcm;refine(hcm.1 w hw (fun m _=>hF m)).wp fun v w' ⟨hg,hpv,hpost⟩=>?_
    refine ih _ (ZU F j (s.post v)) _ w' hsz' hlen' hc' (hw.trans hg) (fun i=>?_) (fun i x y hxy hx=>?_) (hcm.2 v hpv)
    ·unfold ZU
     split
     ·exact hpost
     exact hFp i w w' hg (hF i)
    unfold ZU at*
    split
    ·rename_i he;simp only[he,if_true]at hx;exact hp j s hs v x y hxy hx
    rename_i he;simp only[he,if_false]at hx;exact hFp i x y hxy hx
  rename_i hwant
  simp only[hwant]at hcm;exact ih _ F _ w hsz' hlen' hc' hw hF hFp hcm
theorem zcI {id:Nat} {Q:Exit->Act->World->Prop} {a:Act} {w:World} {l:List Oper} (S:List (Nat × zik)) (hm:P.follows .mixedOrders=true) (hB:zjW l.toArray=true)
  (hS:∀x∈S,∃v,x.2.pv v) (hp:∀x∈S,∀v w w',zc w w'->x.2.post v w->x.2.post v w')
  (h:zf9 P l.toArray w (fun k=>S.lookup k) (fun a w=>Q .normal a w) (List.range l.length) (fun _ _=>True) a):(Code.region id l.toArray true).wp P Q a w:=by
 have hlook:∀(S:List (Nat × zik)) k s,S.lookup k=some s->∃x∈S,x.2=s:=by
  intro S
  induction S with
  | nil=>intro k s h;simp at h
  | cons x S ih=>
   intro k s h;rw[List.lookup_cons]at h
   split at h
   ·exact⟨x,by simp,by simpa using h⟩
   obtain⟨y,hy,he⟩:=ih k s h;exact⟨y,by simp[hy],he⟩
 refine wp_region_any hm ?_;have hu:qu l.toArray (Array.replicate l.toArray.size false)=List.range l.length:=by
  unfold qu;refine(List.filter_eq_self.2 fun i hi=>?_).trans (by simp)
  have:i<l.length:=by simpa using hi
  simp[this]
 refine zcM (w0:=w) (S:=fun k=>S.lookup k) (F:=fun _ _=>True) hB (fun k s hs=>?_) (fun k s hs=>?_) (Q:=fun a w=>Q .normal a w) (fun _ _ h=>h) _ _ a _ (by simp) (by rw[hu];simp) (fun i j hj _=>?_)
  (show Below _ _ _ from(bR _ _).drew) (fun _=>trivial) (fun _ _ _ _ _=>trivial) (by rw[hu];exact h)
 ·obtain⟨x,hx,rfl⟩:=hlook S k s hs;exact hS x hx
 ·obtain⟨x,hx,rfl⟩:=hlook S k s hs;exact hp x hx
 exfalso;rw[Array.getD_eq_getD_getElem?,Array.getElem?_replicate]at hj
 split at hj <;> simp at hj
end
structure zx (w0:World) where
 world:World
 grew:zc w0 world
def zkm (o:Oper):Bool:=
 match o.op with
 | .move _ | .assign _ | .pick .. | .build .. | .load .. | .binOp .. | .unOp .. | .convert .. | .fieldAddr .. | .field .. | .indexAddr .. | .index .. | .extract .. | .slice .. | .lookup ..=>true
 | .call { callee:= .builtin .len,.. } | .call { callee:= .builtin .cap,.. } | .call { callee:= .builtin .max,.. } | .call { callee:= .builtin .min,.. }=>true
 | _=>false
theorem zax {P:Program} {α:Type} {s:Sem α} {g:α->Value} {w w':World} {n:Next}:(s >>= fun v=>pure (Next.value (g v))).run P w= .ok n w'->∃v,n= .value v:=by
 intro h;rw[Sem.run_bind]at h
 cases hs:s.run P w with
 | ok x w1=>simp[hs,Result.andThen,Sem.run_pure]at h;exact⟨_,h.1.symm⟩
 | halt x w1=>simp[hs,Result.andThen]at h
section
variable{P:Program} {ops:Array Oper} {w0:World} {S:Nat->Option zik} {Q:Act->World->Prop}
variable(P ops w0 S Q)in
def zcK:List Oper->Nat->(Nat->World->Prop)->Act->Prop
 | [],_,F,a=>∀w,zc w0 w->(∀i,F i w)->Q a w
 | o :: rest,k,F,a=>
  if Region.wanted o (yielded ops a.tmps)then
   match S k with
   | none=>∃v,(∀w,zc w0 w->(∀m,anc ops 3 m k=true->F m w)->(execOp a.eval o).run P w= .ok (.value v) w)/\zcK rest (k+1) F (a.put o.dst v)
   | some s=>(∀w,zc w0 w->(∀m,anc ops 3 m k=true->F m w)->zL P o a w fun v w'=>zc w w'/\s.pv v/\s.post v w')/\∀v,s.pv v->zcK rest (k+1) (ZU F k (s.post v)) (a.put o.dst v)
  else zcK rest (k+1) F (a.put o.dst undef)
theorem Zt:∀(l:List Oper) (k:Nat) (F:Nat->World->Prop) (a:Act),(∀j,l[j]? =ops[k+j]?\/l.length<=j)->zcK P ops w0 S Q l k F a->zf9 P ops w0 S Q (List.range' k l.length) F a
 | [],_,_,_,_,h=>h
 | o :: l,k,F,a,hl,h=>by
  have h0:ops[k]? =some o:=by
   rcases hl 0 with e | e
   ·simpa using e.symm
   simp at e
  have hnext:∀j,l[j]? =ops[k+1+j]?\/l.length<=j:=fun j=>by
   rcases hl (j+1)with e | e
   ·left;rw[List.getElem?_cons_succ]at e;rw[e];congr 1;omega
   right;simpa using e
  simp only[List.length_cons,List.range'_succ,zf9,Zc,h0];unfold zcK at h
  split
  ·rename_i hw
   simp only[hw,if_true]at h
   cases hs:S k with
   | none=>
    simp only[hs]at h;obtain⟨v,h1,h2⟩:=h;exact⟨v,h1,Zt l (k+1) _ _ hnext h2⟩
   | some s=>
    simp only[hs]at h;exact⟨h.1,fun v hv=>Zt l (k+1) _ _ hnext (h.2 v hv)⟩
  rename_i hw
  simp only[hw]at h;exact Zt l (k+1) _ _ hnext h
variable(P ops w0 S Q)in
structure zjr (l:List Oper) (k:Nat) (F:Nat->World->Prop) (a:Act):Prop where
 out:zcK P ops w0 S Q l k F a
theorem jX {id:Nat} {Q:Exit->Act->World->Prop} {a:Act} {w:World} {l:List Oper} (S:List (Nat × zik)) (hm:P.follows .mixedOrders=true) (hB:zjW l.toArray=true)
  (hS:∀x∈S,∃v,x.2.pv v) (hp:∀x∈S,∀v w w',zc w w'->x.2.post v w->x.2.post v w')
  (h:zjr P l.toArray w (fun k=>S.lookup k) (fun a w=>Q .normal a w) l 0 (fun _ _=>True) a):(Code.region id l.toArray true).wp P Q a w:=by
 refine zcI S hm hB hS hp ?_;have:=Zt (ops:=l.toArray) l 0 _ a (fun j=>by simp) h.out
 rwa [List.range_eq_range']
variable{o:Oper} {rest:List Oper} {k:Nat} {F:Nat->World->Prop} {a:Act}
theorem Ju (ht:zkm o=true) {ρ:Operand->Value} {w w':World} {n:Next}:(execOp ρ o).run P w= .ok n w'->∃v,n= .value v:=by
 obtain⟨dst,op,type,pos,after,guard⟩:=o
 cases op <;> simp only[zkm,Bool.false_eq_true]at ht <;> simp only[execOp]
 all_goals first
  | exact zax (g:=id)
  | exact zax
  | (intro h;simp[Sem.run_pure]at h;exact⟨_,h.1.symm⟩)
  | skip
 rename_i c
 obtain⟨callee,as1,ts⟩:=c
 cases callee with
 | value _=>simp at ht
 | invoke _ _=>simp at ht
 | builtin b=>
  cases b <;> simp only[Bool.false_eq_true]at ht <;> simp only[resolve,pure_bind,invoke,builtin] <;> exact zax (g:=id)
theorem zm (ht:zkm o=true) (hw:Region.wanted o (yielded ops a.tmps)=true) (hS:S k=none)
  (h:∀K:Act->Prop,(∀a,zjr P ops w0 S Q rest (k+1) F a->K a)->o.quiet P a (fun w'=>∃x:zx w0,w'=x.world) K):zjr P ops w0 S Q (o :: rest) k F a:=by
 obtain⟨v,h1,h2⟩:=h _ fun _ h=>h
 constructor;unfold zcK;rw[if_pos hw];simp only[hS];refine⟨v,fun w hg _=>?_,h2.out⟩
 have h3:=h1 w ⟨⟨w,hg⟩,rfl⟩;unfold Oper.quietAt at h3;have hne:=fun n w'=>@Ju P o ht a.eval w w' n
 generalize(execOp a.eval o).run P w=r at*
 cases r with
 | ok n w'=>
  cases n <;> simp only[Oper.quietUpon]at h3
  case value u=>rw[h3.1,h3.2]
  case skip=>obtain⟨_,he⟩:=hne _ _ rfl;cases he
  case enter f args=>obtain⟨_,he⟩:=hne _ _ rfl;cases he
 | halt x w'=>simp only[Oper.quietUpon]at h3
theorem qB (hw:Region.wanted o (yielded ops a.tmps)=false) (h:zjr P ops w0 S Q rest (k+1) F (a.put o.dst undef)):zjr P ops w0 S Q (o :: rest) k F a:=by
 constructor;unfold zcK;rw[if_neg (by rw[hw];exact Bool.false_ne_true)]
 exact h.out
theorem zM {s:zik} (hw:Region.wanted o (yielded ops a.tmps)=true) (hS:S k=some s)
  (h:∀w,zc w0 w->(∀m,anc ops 3 m k=true->F m w)->zL P o a w fun v w'=>zc w w'/\s.pv v/\s.post v w')
  (hn:∀v,s.pv v->zjr P ops w0 S Q rest (k+1) (ZU F k (s.post v)) (a.put o.dst v)):zjr P ops w0 S Q (o :: rest) k F a:=by
 constructor;unfold zcK;rw[if_pos hw];simp only[hS];exact⟨h,fun v hv=>(hn v hv).out⟩
theorem qU (h:∀w,zc w0 w->(∀i,F i w)->Q a w):zjr P ops w0 S Q [] k F a:=⟨h⟩
theorem zL.call {w:World} {K:Value->World->Prop} {f:FuncId} {xs:List Operand} {ts:Array TypeId} {fn:Func} (args:List Value)
  (ho : o.op = .call { callee := .value (.func f), args := xs.toArray, argTypes := ts }) (hf : P.funcs[f]? = some fn) (hb : fn.body.isNone = false) (hn : (fn.name == "runtime.NumGoroutine") = false)
  (ha:xs.map a.eval=args) (h:Calls P f args.toArray w fun e w'=>∃v,e= .returned v/\K v w'):zL P o a w K:=by
 have hr:(execOp a.eval o).run P w= .ok (.enter f args.toArray) w:=by
  have he : a.eval (.func f) = .func (.func f) #[] #[] := rfl;simp only [execOp, ho, resolve, he, List.map_toArray, ha, Deferred.ofValue, pure_bind, invoke];have hn' : fn.name ≠ "runtime.NumGoroutine" := by simpa using hn
  have hb':fn.body≠none:=fun e=>by rw[e]at hb;cases hb
  simp[callFunc,hf,hb',hn',program,Sem.run_bind,Sem.run]
 unfold zL;rw[hr];exact h
end
def Zw (ops:Array Oper) (T:Nat):Bool:=
 Region.noSelect ops && decide (T<=ops.size) &&(List.range ops.size).all fun j=>match ops[j]? with
  | none=>false
  | some oj=>oj.after.all (fun e=>!Region.binds .any e || decide (e.on<j)) &&
    (if j<T then(List.range j).all fun i=>zaT ops i j || (match ops[i]? with | some oi=>oi.apart ops oj | none=>false)else(List.range j).all fun i=>anc ops j i j)
def zd (listed:Array Bool) (T:Nat):List Nat:=(List.range T).filter fun i=>listed.getD i true == false
section
variable{P:Program} {ops:Array Oper} {w0:World} {S:Nat->Option zik} {T:Nat}
theorem jB (hB:Zw ops T=true) {j:Nat} {oj:Oper} (hj:ops[j]? =some oj):∀i,zaT ops i j=true->i<j:=by
 simp only[Zw,Bool.and_eq_true,List.all_eq_true,List.mem_range]at hB;have h:=hB.2 j (aS.1 hj).1;simp only[hj,Bool.and_eq_true]at h;intro i hi;obtain⟨e,he,hb,rfl⟩:=(jt hj).1 hi;have:=Array.all_eq_true_iff_forall_mem.1 h.1 e he
 simpa [hb]using this
theorem Zv (hB:Zw ops T=true) {j:Nat} {oj:Oper} (hj:ops[j]? =some oj) (hT:j<T):∀i,i<j->zaT ops i j=true\/∃oi,ops[i]? =some oi/\oi.apart ops oj=true:=by
 simp only[Zw,Bool.and_eq_true,List.all_eq_true,List.mem_range]at hB;have h:=hB.2 j (aS.1 hj).1;simp only[hj,Bool.and_eq_true,if_pos hT,List.all_eq_true,List.mem_range]at h;intro i hi;have:=h.2 i hi;rw[Bool.or_eq_true]at this
 rcases this with h1 | h1
 ·exact Or.inl h1
 right
 cases ho:ops[i]? with
 | none=>simp[ho]at h1
 | some oi=>simp only[ho]at h1;exact⟨oi,rfl,h1⟩
theorem Zm (hB:Zw ops T=true) {j:Nat} {oj:Oper} (hj:ops[j]? =some oj) (hT:T<=j):∀i,i<j->anc ops j i j=true:=by
 simp only[Zw,Bool.and_eq_true,List.all_eq_true,List.mem_range]at hB;have h:=hB.2 j (aS.1 hj).1;simp only[hj,Bool.and_eq_true,if_neg (Nat.not_lt.2 hT),List.all_eq_true,List.mem_range]at h;exact h.2
theorem zaL (hB:Zw ops T=true):∀(f i j:Nat),anc ops f i j=true->i<j
 | 0,_,_,h=>by simp[anc]at h
 | f+1,i,j,h=>by
  simp only[anc,Bool.or_eq_true,List.any_eq_true,List.mem_range,Bool.and_eq_true]at h
  rcases h with h | ⟨k,hk,_,h⟩
  ·obtain⟨oj,hj⟩:=zbO h;exact jB hB hj i h
  have:=zaL hB f i k h;omega
theorem qj {listed:Array Bool} {j:Nat} (hl:j<listed.size):zd (listed.setIfInBounds j true) T=(zd listed T).filter (· != j):=by
 unfold zd;rw[List.filter_filter];refine List.filter_congr fun i hi=>?_
 by_cases h:j=i
 ·subst h
  simp[hl]
 rw[getD_set_ne true h];have:(i != j)=true:=by simpa using Ne.symm h
 rw[this,Bool.true_and]
theorem JZ {listed:Array Bool} {i:Nat} (hi:i<listed.size) (h:listed.getD i true=true):listed.getD i false=true:=by
 simp[hi]at h⊢;exact h
theorem Qf {Q:Exit->Act->World->Prop} (hB:Zw ops T=true):∀(m:Nat) (l:List Oper) (k:Nat) (listed:Array Bool) (a:Act) (w:World),T<=k->listed.size=ops.size->k+m=ops.size->l.length=m->(∀j,l[j]? =ops[k+j]?)->
  (∀i,i<k->listed.getD i true=true)->(∀i,k<=i->i<ops.size->listed.getD i true=false)->wpList P ops Q l a w->wpAny P .any ops Q m listed a w:=by
 intro m
 induction m with
 | zero=>
  intro l k listed a w hT hsz hk hl hops hin hout h;have:l=[]:=eN hl;subst this;refine⟨?_,h⟩
  cases hr:Region.ready .any ops listed with
  | nil=>rfl
  | cons x xs=>
   have hx:x∈Region.ready .any ops listed:=by rw[hr];simp
   obtain⟨h0,o,ho,_⟩:=mem_ready.1 hx;have hxs:=(aS.1 ho).1;rw[hin x (by omega)]at h0
   cases h0
 | succ m ih=>
  intro l k listed a w hT hsz hk hl hops hin hout h;obtain⟨o,l',rfl⟩:∃o l',l=o :: l':=by
   cases l with
   | nil=>simp at hl
   | cons o l'=>exact⟨o,l',rfl⟩
  have hok:ops[k]? =some o:=by have:=hops 0;simpa using this.symm
  have hkr:k∈Region.ready .any ops listed:=by
   refine mem_ready.2 ⟨hout k (nR _) (by omega),o,hok,fun e he hb=>?_⟩
   have hlt:=jB hB hok e.on ((jt hok).2 ⟨e,he,hb,rfl⟩);exact JZ (by omega) (hin e.on hlt)
  refine⟨fun hr=>?_,fun j hj=>?_⟩
  ·rw[hr]at hkr;cases hkr
  obtain⟨h0,oj,hoj,hall⟩:=mem_ready.1 hj;have hjs:=(aS.1 hoj).1;have hjk:k<=j:=by
   rcases Nat.lt_or_ge j k with h1 | h1
   ·rw[hin j h1]at h0;cases h0
   exact h1
  have hj':j=k:=by
   rcases Nat.lt_or_ge k j with h1 | h1
   ·exfalso;have ha:=Zm hB hoj (by omega) k h1
    have hc:ZX ops listed:=fun i q hq hiq=>by
     obtain⟨oq,hoq⟩:=zbO hiq;have hlt:=jB hB hoq i hiq;have hqk:q<k:=by
      rcases Nat.lt_or_ge q k with h2 | h2
      ·exact h2
      have:=qH (hout q h2 (aS.1 hoq).1);rw[this]at hq;cases hq
     exact JZ (by omega) (hin i (by omega))
    have:=qg hc j k j (fun q hq=>by
     obtain⟨e,he,hb,rfl⟩:=(jt hoj).1 hq;exact hall e he hb) ha
    rw[qH (hout k (nR _) (by omega))]at this
    cases this
   omega
  subst hj';rw[hok]at hoj;cases hoj;unfold wpList at h;unfold wpOp;simp only[hok];have hnext:∀a w,wpList P ops Q l' a w->wpAny P .any ops Q m (listed.setIfInBounds j true) a w:=fun a w h'=>
   ih l' (j+1) _ a w (by omega) (by simp[hsz]) (by omega) (by simpa using hl) (fun q=>by have:=hops (q+1);rw[List.getElem?_cons_succ]at this;rw[this];congr 1;omega)
    (fun i hi=>by
     by_cases e:j=i
     ·subst e
      simp[show j<listed.size by omega]
     rw[getD_set_ne true e];exact hin i (by omega))
    (fun i hi hi'=>by rw[getD_set_ne true (by omega)];exact hout i (by omega) hi') h'
  split
  ·rename_i hw
   rw[if_pos hw]at h
   rcases h with h | h
   ·exact .inl (Oper.wp_mono hnext h)
   exact .inr h
  rename_i hw
  rw[if_neg hw]at h;exact hnext _ _ h
theorem zcL {Q:Act->World->Prop} {Q':Exit->Act->World->Prop} {l:List Oper} {m:Nat} (hB:Zw ops T=true) (hTl:T+m=ops.size) (hll:l.length=m) (hops:∀j,l[j]? =ops[T+j]?) (hS:∀k s,S k=some s->∃v,s.pv v)
  (hp:∀k s,S k=some s->∀v w w',zc w w'->s.post v w->s.post v w') (hQ:∀a w,Q a w->wpList P ops Q' l a w):
  ∀(fuel:Nat) (listed:Array Bool) (F:Nat->World->Prop) (a:Act) (w:World),listed.size=ops.size->(∀i,T<=i->i<ops.size->listed.getD i true=false)->(zd listed T).length=fuel->ZX ops listed->zc w0 w->
   (∀i,F i w)->(∀i w w',zc w w'->F i w->F i w')->zf9 P ops w0 S Q (zd listed T) F a->wpAny P .any ops Q' (fuel+m) listed a w:=by
 have hsel:=Region.noSelect_spec (ops:=ops) (by simp only[Zw,Bool.and_eq_true]at hB;exact hB.1.1)
 intro fuel
 induction fuel with
 | zero=>
  intro listed F a w hsz hout hl hc hw hF hFp h;have hnil:zd listed T=[]:=eN hl;rw[hnil]at h;rw[zA];refine Qf hB m l T listed a w (nR _) hsz hTl hll hops (fun i hi=>?_) hout (hQ _ _ (h w hw hF))
  cases hg:listed.getD i true with
  | true=>rfl
  | false=>
   have:i∈zd listed T:=List.mem_filter.2 ⟨List.mem_range.2 hi,by simp only[hg,beq_self_eq_true]⟩
   rw[hnil]at this;cases this
 | succ fuel ih=>
  intro listed F a w hsz hout hl hc hw hF hFp h;rw[Nat.add_right_comm];refine⟨fun hr=>?_,fun j hj=>?_⟩
  ·exfalso
   cases hu:zd listed T with
   | nil=>simp[hu]at hl
   | cons x xs=>
    have hx:x∈zd listed T:=by rw[hu];simp
    have hx':=List.mem_filter.1 hx;have hxT:x<T:=List.mem_range.1 hx'.1;have hxs:x<ops.size:=by omega
    have ho:ops[x]? =some ops[x]:=Array.getElem?_eq_getElem hxs;have hsorted:(zd listed T).Pairwise (·< ·):=List.Pairwise.filter _ List.pairwise_lt_range;have:x∈Region.ready .any ops listed:=by
     refine mem_ready.2 ⟨by simpa using hx'.2,ops[x],ho,fun e he hb=>?_⟩
     have hed:zaT ops e.on x=true:=(jt ho).2 ⟨e,he,hb,rfl⟩;have hlt:=jB hB ho _ hed
     cases hg:listed.getD e.on true with
     | true=>exact JZ (by omega) hg
     | false=>
      have hmem:e.on∈zd listed T:=List.mem_filter.2 ⟨List.mem_range.2 (by omega),by simp only[hg,beq_self_eq_true]⟩
      rw[hu]at hmem hsorted
      rcases mC.1 hmem with e1 | e1
      ·omega
      have:=(List.pairwise_cons.1 hsorted).1 _ e1;omega
    rw[hr]at this;cases this
  obtain⟨h0,oj,hoj,hall⟩:=mem_ready.1 hj;have hjs:j<ops.size:=(aS.1 hoj).1;have hdir:∀k,zaT ops k j=true->listed.getD k false=true:=fun k hk=>by
   obtain⟨e,he,hb,rfl⟩:=(jt hoj).1 hk;exact hall e he hb
  have hjT:j<T:=by
   rcases Nat.lt_or_ge j T with h1 | h1
   ·exact h1
   exfalso
   cases hu:zd listed T with
   | nil=>simp[hu]at hl
   | cons x xs=>
    have hx:x∈zd listed T:=by rw[hu];simp
    have hx':=List.mem_filter.1 hx;have hxT:x<T:=List.mem_range.1 hx'.1;have:=qg hc j x j hdir (Zm hB hoj h1 x (by omega))
    rw[qH (by simpa using hx'.2)]at this
    cases this
  have hju:j∈zd listed T:=List.mem_filter.2 ⟨List.mem_range.2 hjT,by simp only[h0,beq_self_eq_true]⟩
  have hnd:(zd listed T).Nodup:=List.Pairwise.filter _ List.nodup_range;have hsorted:(zd listed T).Pairwise (·< ·):=List.Pairwise.filter _ List.pairwise_lt_range;have hcm:=zf9.commute hoj hw hsel hS (zd listed T) F a hnd hju (fun i hi hij=>by
   have hi':=List.mem_filter.1 hi;have hun:listed.getD i false=false:=qH (by simpa using hi'.2)
   have his:i<ops.size:=by have:=List.mem_range.1 hi'.1;omega
   have hoi:ops[i]? =some ops[i]:=Array.getElem?_eq_getElem his;refine⟨ops[i],hoi,fun hlt=>?_,?_,fun hlt=>?_⟩
   ·rcases Zv hB hoj hjT i hlt with he | ⟨oi,hoi',hap⟩
    ·have:=hdir i he;rw[hun]at this;cases this
    rw[hoi]at hoi';cases hoi';exact hap
   ·cases ha:anc ops 3 i j with
    | false=>rfl
    | true=>
     have:=qg hc 3 i j hdir ha;rw[hun]at this;cases this
   cases ha:anc ops 3 j i with
   | false=>rfl
   | true=>
    have:=zaL hB 3 j i ha
    omega) hsorted (fun m _=>hF m) h
  have hsz':(listed.setIfInBounds j true).size=ops.size:=by simp[hsz]
  have hout':∀i,T<=i->i<ops.size->(listed.setIfInBounds j true).getD i true=false:=fun i hi hi'=>by rw[getD_set_ne true (by omega)];exact hout i hi hi'
  have hlen':(zd (listed.setIfInBounds j true) T).length=fuel:=by
   rw[qj (by omega)]
   have he:(zd listed T).filter (· != j)=(zd listed T).erase j:=by
    rw[List.Nodup.erase_eq_filter hnd]
   rw[he,List.length_erase_of_mem hju];omega
  have hc':ZX ops (listed.setIfInBounds j true):=fun i k hk hik=>by
   by_cases hkj:j=k
   ·subst hkj;exact getD_set_true (hdir i hik)
   rw[getD_set_ne false hkj]at hk;exact getD_set_true (hc i k hk hik)
  unfold wpOp;simp only[hoj];simp only[zf9,Zc,hoj]at hcm;rw[<-qj (by omega)]at hcm
  split
  ·rename_i hwant
   simp only[hwant,if_true]at hcm;refine .inl ?_
   cases hs:S j with
   | none=>
    simp only[hs]at hcm;obtain⟨v,hrun,hk⟩:=hcm;have hr:=hrun w hw (fun m _=>hF m)
    unfold Oper.wp;rw[hr];exact ih _ F _ w hsz' hout' hlen' hc' hw hF hFp hk
   | some s=>
    simp only[hs]at hcm;refine(hcm.1 w hw (fun m _=>hF m)).wp fun v w' ⟨hg,hpv,hpost⟩=>?_
    refine ih _ (ZU F j (s.post v)) _ w' hsz' hout' hlen' hc' (hw.trans hg) (fun i=>?_) (fun i x y hxy hx=>?_) (hcm.2 v hpv)
    ·unfold ZU
     split
     ·exact hpost
     exact hFp i w w' hg (hF i)
    unfold ZU at*
    split
    ·rename_i he;simp only[he,if_true]at hx;exact hp j s hs v x y hxy hx
    rename_i he;simp only[he,if_false]at hx;exact hFp i x y hxy hx
  rename_i hwant
  simp only[hwant]at hcm;exact ih _ F _ w hsz' hout' hlen' hc' hw hF hFp hcm
theorem Qv {id:Nat} {Q:Exit->Act->World->Prop} {a:Act} {w:World} {L l r:List Oper} (T:Nat) (S:List (Nat × zik)) (hm:P.follows .mixedOrders=true) (hB:Zw L.toArray T=true) (hl:L.take T=l) (hr:L.drop T=r) (hT:T<=L.length)
  (hS:∀x∈S,∃v,x.2.pv v) (hp:∀x∈S,∀v w w',zc w w'->x.2.post v w->x.2.post v w')
  (h:zjr P L.toArray w (fun k=>S.lookup k) (fun a w=>wpList P L.toArray Q r a w) l 0 (fun _ _=>True) a):(Code.region id L.toArray true).wp P Q a w:=by
 have hlook:∀(S:List (Nat × zik)) k s,S.lookup k=some s->∃x∈S,x.2=s:=by
  intro S
  induction S with
  | nil=>intro k s h;simp at h
  | cons x S ih=>
   intro k s h;rw[List.lookup_cons]at h
   split at h
   ·exact⟨x,by simp,by simpa using h⟩
   obtain⟨y,hy,he⟩:=ih k s h;exact⟨y,by simp[hy],he⟩
 have hlT:l.length=T:=by rw[<-hl,List.length_take];omega
 have hrT:r.length=L.length - T:=by rw[<-hr,List.length_drop]
 refine wp_region_any hm ?_;have hu:zd (Array.replicate L.toArray.size false) T=List.range T:=by
  unfold zd;refine List.filter_eq_self.2 fun i hi=>?_
  have:i<T:=by simpa using hi
  simp[show i<L.length by omega]
 have h':=Zt (ops:=L.toArray) l 0 _ a (fun j=>by
  rcases Nat.lt_or_ge j T with hj | hj
  ·left;rw[<-hl,List.getElem?_take_of_lt hj];simp
  right;omega) h.out
 rw[hlT,<-List.range_eq_range']at h';have hfin:=zcL (P:=P) (w0:=w) (S:=fun k=>S.lookup k) (F:=fun _ _=>True) (ops:=L.toArray) (T:=T) (l:=r) (m:=L.length - T) (Q:=fun a w=>wpList P L.toArray Q r a w) (Q':=Q) hB (by simp;omega) hrT (fun j=>by rw[<-hr,List.getElem?_drop];simp) (fun k s hs=>by obtain⟨x,hx,rfl⟩:=hlook S k s hs;exact hS x hx) (fun k s hs=>by obtain⟨x,hx,rfl⟩:=hlook S k s hs;exact hp x hx) (fun _ _ h=>h)
  T (Array.replicate L.toArray.size false) a w.drew (by simp) (fun i hi hi'=>by simp at hi';simp[hi']) (by rw[hu];simp) (fun i j hj _=>by
   exfalso;rw[Array.getD_eq_getD_getElem?,Array.getElem?_replicate]at hj
   split at hj <;> simp at hj)
  (show Below _ _ _ from(bR _ _).drew) (fun _=>trivial) (fun _ _ _ _ _=>trivial) (by rw[hu];exact h')
 have hsz:T+(L.length - T)=L.toArray.size:=by simp;omega
 rw[hsz]at hfin;exact hfin
end
theorem zP (a:Addr) (i j:Nat):(a.add i).add j=a.add (i+j):=by
 unfold Addr.add
 by_cases h1:i=0 <;> by_cases h2:j=0 <;> simp[h1,h2] <;> omega
def jr (w:World) (x:Addr) (cs:List Value):Prop:=∀j u,cs[j]? =some u->w.cell? (x.add j)=some u
theorem jr.grew {w w':World} {x:Addr} {cs:List Value} (h:jr w x cs) (hg:zc w w'):jr w' x cs:=fun j u hj=>by
 have h1:=h j u hj;rw[Below.cell hg (World.block_lt_of_cell? _ _ h1)];exact h1
theorem qI {α:Type} {enc:α->List Value} {k:Nat}:∀(l:List α),(∀a∈l,(enc a).length=k)->(l.flatMap enc).length=l.length*k
 | [],_=>by simp
 | a :: l,h=>by
  rw[List.flatMap_cons,lA,h a (by simp),qI l (fun b hb=>h b (by simp[hb])),List.length_cons,Nat.add_mul,Nat.one_mul,Nat.add_comm]
theorem qr {α:Type} {enc:α->List Value} {k:Nat}:∀(l:List α) (j:Nat) (a:α),(∀b∈l,(enc b).length=k)->l[j]? =some a->∀i u,(enc a)[i]? =some u->(l.flatMap enc)[j*k+i]? =some u
 | [],j,a,_,h,_,_,_=>by simp at h
 | b :: l,0,a,hk,h,i,u,hi=>by
  simp at h;subst h
  have hil:i< (enc b).length:=by
   rcases Nat.lt_or_ge i (enc b).length with h | h
   ·exact h
   rw[gN h]at hi;cases hi
  rw[List.flatMap_cons,Nat.zero_mul,zA,List.getElem?_append_left hil];exact hi
 | b :: l,j+1,a,hk,h,i,u,hi=>by
  have hb:=hk b (by simp)
  rw[List.flatMap_cons,aR (by rw[hb,Nat.add_mul];omega),hb]
  have e:(j+1)*k+i - k=j*k+i:=by rw[Nat.add_mul];omega
  rw[e];exact qr l j a (fun c hc=>hk c (by simp[hc])) (by simpa using h) i u hi
theorem jr.elem {α:Type} {enc:α->List Value} {k:Nat} {w:World} {x:Addr} {l:List α} (h:jr w x (l.flatMap enc)) (hk:∀b∈l,(enc b).length=k) {j:Nat} {a:α} (ha:l[j]? =some a):jr w (x.add (j*k)) (enc a):=fun i u hi=>by
 rw[zP];exact h _ _ (qr l j a hk ha i u hi)
def ji {α:Type} (enc:α->List Value) (w:World) (v:Value) (l:List α):Prop:=
 ∃a c,v= .slice a l.length c/\(a=none->l=[])/\∀x,a=some x->jr w x (l.flatMap enc)
theorem ji.grew {α:Type} {enc:α->List Value} {w w':World} {v:Value} {l:List α} (h:ji enc w v l) (hg:zc w w'):ji enc w' v l:=by
 obtain⟨a,c,h1,h2,h3⟩:=h;exact⟨a,c,h1,h2,fun x hx=>(h3 x hx).grew hg⟩
theorem jG {α:Type} {enc:α->List Value} {w:World} {base size:Nat} {e:TypeId} {v:Value} {l:List α} (h:w.ownsRow base e size v l.length (l.flatMap enc)):ji enc w v l:=by
 rcases h.2 with⟨rfl,hn⟩ | ⟨g,cap,cur,rfl,h2,h3,h4,h5,h6,h7⟩
 ·have hl:l=[]:=eN hn;subst hl;exact⟨none,0,rfl,fun _=>rfl,fun x hx=>by cases hx⟩
 refine⟨some ⟨g,0,none⟩,cap,rfl,fun h=>(by cases h),fun x hx=>?_⟩
 cases hx;exact h.cells rfl
theorem ZQ {w w':World} {base size n:Nat} {e:TypeId} {v:Value} {xs:List Value} (h:w.ownsRow base e size v n xs) (hg:zc w w'):w'.ownsRow base e size v n xs:=by
 refine⟨h.1,?_⟩
 rcases h.2 with h1 | ⟨g,cap,cur,rfl,h2,h3,h4⟩
 ·exact .inl h1
 exact .inr ⟨g,cap,cur,rfl,h2,by rw[Below.block hg g (aS.1 h3).1];exact h3,h4⟩
theorem qE {w:World} {base base' size n:Nat} {e:TypeId} {v:Value} {xs:List Value} (h:w.ownsRow base e size v n xs) (hb:base'<=base):w.ownsRow base' e size v n xs:=by
 refine⟨h.1,?_⟩
 rcases h.2 with h1 | ⟨g,cap,cur,rfl,h2,h3⟩
 ·exact .inl h1
 exact .inr ⟨g,cap,cur,rfl,nT hb h2,h3⟩
theorem qX {α:Type} {enc:α->List Value} (h:∀a,∀u∈enc a,u.oneCell'=true) (l:List α):∀u∈l.flatMap enc,u.oneCell'=true:=fun u hu=>by
 obtain⟨a,_,ha⟩:=List.mem_flatMap.1 hu;exact h a u ha
theorem qz {n:Nat} (h:n<=140737488355328):n<=maxLen:=by simp[maxLen];omega
theorem za (w:World) (o:Obj):zc w (w.alloc o):=(bR _ _).alloc (nR _) _
theorem zD {w W:World} (h:zc w W) {a:Addr} (ha:w.heap.size<=a.block) (u:Value):zc w (W.setCell a u):=Below.setCell h ha u
theorem qy:Tryz.prog.follows .mixedOrders=true:=by kernel_rfl
def jh (base:Nat) (v:Value):Prop:=∀x n c,v= .slice (some x) n c->base<=x.block
theorem jJ (base:Nat):jh base (.slice none 0 0):=fun x n c e=>by cases e
theorem Jp (x:Addr) (j:Nat):(x.add j).block=x.block:=by unfold Addr.add;split <;> rfl
theorem ji.setCell {α:Type} {enc:α->List Value} {base:Nat} {w:World} {v:Value} {l:List α} (h:ji enc w v l) (hf:jh base v) {a:Addr} (ha:a.block<base) (u:Value):ji enc (w.setCell a u) v l:=by
 obtain⟨x,c,h1,h2,h3⟩:=h;refine⟨x,c,h1,h2,fun y hy j t hj=>?_⟩
 subst hy;have:=hf y _ _ h1;rw[World.cell?_of_block (w:=w) (Below.heap_setCell _ _ _ _ (by rw[Jp];omega))]
 exact h3 y rfl j t hj
theorem zdF (w:World) (g:Nat) (cs:Array Value):w.grownBy (w.setRow g cs) (some g):=by
 refine⟨rfl,rfl,rfl,by simp[World.setRow],fun k hk hne=>?_⟩
 have:g≠k:=fun e=>hne (by rw[e])
 unfold World.setRow
 simp[Array.getElem?_modify,this]
theorem qQ {P:Program} {w:World} {base size n:Nat} {e:TypeId} {v:Value} {xs:List Value} (h:w.ownsRow base e size v n xs) {g:Nat} (hg:v.ownBlock=some g) (off:Nat) (cs:List Value) (hfit:off+cs.length<=n*size) (h1:∀u∈cs,u.oneCell'=true):
  ∃w',(storeCells ⟨g,off,none⟩ cs 0).run P w= .ok () w'/\w'.ownsRow base e size v n (splice xs off cs)/\w.grownBy w' (some g)/\w'.heap.size=w.heap.size:=by
 obtain⟨hl,h2⟩:=h
 rcases h2 with⟨rfl,hn⟩ | ⟨g',cap,cur,rfl,hb,hh,hn,hm,hs,ht⟩
 ·simp[Value.ownBlock]at hg
 simp[Value.ownBlock]at hg
 subst hg;have hle:n*size<=cur.size:=by rw[hs];exact Nat.mul_le_mul_right _ hn
 refine⟨_,run_storeCells_at P g' off e cs 0 cur w hh (by omega) h1,⟨by rw[length_splice _ _ _ (by omega)];exact hl,.inr ⟨g',cap,_,rfl,hb,setRow_heap w g' cur _ e _ hh,hn,hm,?_,?_⟩⟩,zdF _ _ _,by simp[World.setRow]⟩
 ·simp;omega
 subst ht
 apply List.ext_getElem?
 intro j;simp only[splice,Nat.add_zero];simp only[List.getElem?_take,List.getElem?_append,List.getElem?_drop,List.length_take,lA,Array.length_toList];have e1:min off cur.size=off:=by omega
 have e2:min off (min (n*size) cur.size)=off:=by omega
 simp only[e1,e2]
 split <;> split <;>(try split) <;>(try split) <;>(try split) <;> first | rfl | omega | (congr 1;omega) | skip
theorem zaY {P:Program} {w:World} {ops:Array Oper} {rest:List Oper} {o:Oper} {a:Act} {Q:Exit->Act->World->Prop} (hgd:o.guard=none) (p x:Operand) (t:TypeId) (ho:o.op= .store t p x) (k:Nat) (hk:(P.info? t).map (·.size)=some k)
  (base:Nat) (v:Value) (n:Nat) (xs:List Value) (hown:w.ownsRow base t k v n xs) (g i:Nat) (hg:v.ownBlock=some g) (hi:i<n) (cs:List Value) (hcs:cs.length=k) (h1:∀u∈cs,u.oneCell'=true)
  (ad:Addr) (hp:a.eval p= .pointer (some ad)) (had:ad=⟨g,i*k,none⟩) (hx:a.eval x= .agg cs.toArray)
  (h:∀w',w'.ownsRow base t k v n (splice xs (i*k) cs)->w.grownBy w' (some g)->w'.heap.size=w.heap.size->wpList P ops Q rest (a.put o.dst undef) w'):wpList P ops Q (o :: rest) a w:=by
 subst had;refine wpList_plain hgd fun K hK=>?_
 have hfit:i*k+cs.length<=n*k:=by
  rw[hcs,<-Nat.succ_mul];exact Nat.mul_le_mul_right _ hi
 obtain⟨w',hr,h2,h3,h4⟩:=qQ (P:=P) hown hg (i*k) cs hfit h1;have hsz:(Go.sizeOf t).run P w= .ok k w:=by
  cases hq:P.info? t with
  | none=>simp[hq]at hk
  | some i=>simp[hq]at hk;simp[Go.sizeOf,typeInfo,hq,hk]
 have hall:(Instr.storeAt t (.pointer (some ⟨g,i*k,none⟩)) (.agg cs.toArray)).run P w= .ok () w':=by
  simp[Instr.storeAt,Instr.sureAddr,storeVar,Sem.run_bind,hsz,Result.andThen,Value.cells,hcs,hr]
 unfold Oper.wp;simp only[execOp,ho,hp,hx,Sem.run_bind,hall,Result.andThen,Sem.run_pure,Oper.upon];exact hK _ _ (h w' h2 h3 h4)
theorem Qg {α:Type} {enc:α->List Value} {k:Nat} (x:α) (hx:(enc x).length=k):∀(l:List α) (i:Nat),(∀a∈l,(enc a).length=k)->i<l.length->splice (l.flatMap enc) (i*k) (enc x)=(l.set i x).flatMap enc
 | [],i,_,hi=>by simp at hi
 | a :: l,0,h,_=>by
  simp only[splice,List.flatMap_cons,Nat.zero_mul,List.take_zero,List.nil_append,zA,sZ];rw[List.drop_append_of_le_length (by rw[hx,h a (by simp)];exact nR _),List.drop_of_length_le (by rw[hx,h a (by simp)];exact nR _),List.nil_append]
 | a :: l,i+1,h,hi=>by
  have ha:=h a (by simp)
  have ih:=Qg x hx l i (fun b hb=>h b (by simp[hb])) (by simpa using hi)
  simp only[splice,List.flatMap_cons,sS]at ih⊢;rw[<-ih,Nat.succ_mul,Nat.add_comm (i*k) k,<-ha,List.take_length_add_append,Nat.add_assoc,List.drop_length_add_append,List.append_assoc]
theorem zg {w W W':World} {g:Nat} (h:zc w W) (hg:W.grownBy W' (some g)) (hb:w.heap.size<=g):zc w W':=
 Below.grown h hg (bS h) (fun k hk=>by cases hk;exact hb)
theorem zdq {B:Nat} {a w w':World} (h:Below B a w) (hB:B<=w.heap.size) (hg:zc w w'):Below B a w':=h.trans (Below.mono hg hB)
def Box (w:World) (b:Nat) (cs:List Value):Prop:=∃t,w.heap[b]? =some (.cells cs.toArray t (0,0))
theorem Box.lt {w:World} {b:Nat} {cs:List Value} (h:Box w b cs):b<w.heap.size:=by
 obtain⟨t,h⟩:=h;exact(aS.1 h).1
theorem Box.c {w:World} {b:Nat} {cs:List Value} (h:Box w b cs) (i:Nat) {u:Value} (hi:cs[i]? =some u):w.cell? ⟨b,i,none⟩=some u:=by
 obtain⟨t,h⟩:=h
 simp[World.cell?,h,hi]
theorem Box.f {w:World} {b:Nat} {cs:List Value} (h:Box w b cs) (i:Nat):w.frozen? ⟨b,i,none⟩=false:=by
 obtain⟨t,h⟩:=h
 simp[World.frozen?,h]
theorem Box.below {w w':World} {b B:Nat} {cs:List Value} (h:Box w b cs) (hg:Below B w w') (hb:b<B):Box w' b cs:=by
 obtain⟨t,h⟩:=h;exact⟨t,by rw[hg.block b hb];exact h⟩
theorem Box.grew {w w':World} {b:Nat} {cs:List Value} (h:Box w b cs) (hg:zc w w'):Box w' b cs:=h.below hg h.lt
theorem Box.top (w:World) (cs:List Value) (t:TypeId) {b:Nat} (hb:b=w.heap.size):Box (w.alloc (.cells cs.toArray t)) b cs:=by
 subst hb;refine⟨t,?_⟩
 show(w.heap.push _)[w.heap.size]? =_
 simp
theorem Box.alloc {w:World} {b:Nat} {cs:List Value} (h:Box w b cs) (o:Obj):Box (w.alloc o) b cs:=h.grew (za _ _)
theorem Box.grown {w w':World} {b g:Nat} {cs:List Value} (h:Box w b cs) (hg:w.grownBy w' (some g)) (hb:b≠g):Box w' b cs:=by
 have hlt:=h.lt;obtain⟨t,h⟩:=h;exact⟨t,by rw[hg.block b hlt (fun e=>hb (by cases e;rfl))];exact h⟩
theorem Box.other {w:World} {b:Nat} {cs:List Value} (h:Box w b cs) {a:Addr} (ha:b≠a.block) (u:Value):Box (w.setCell a u) b cs:=by
 obtain⟨t,h⟩:=h;exact⟨t,by rw[Below.heap_setCell _ _ _ _ ha];exact h⟩
theorem Box.set {w:World} {b:Nat} {cs:List Value} (h:Box w b cs) (i:Nat) (u:Value):Box (w.setCell ⟨b,i,none⟩ u) b (cs.set i u):=by
 have hlt:=h.lt;obtain⟨t,h⟩:=h;refine⟨t,?_⟩;obtain⟨_,h2⟩:=aS.1 h;unfold World.setCell;rw[Array.getElem?_eq_getElem (by simpa using hlt)]
 simp[Array.getElem_modify,h2]
theorem zdR {w w':World} {base size n:Nat} {e:TypeId} {v:Value} {xs:List Value} (h:w.ownsRow base e size v n xs) (hs:∀k,base<=k->w'.heap[k]? =w.heap[k]?):w'.ownsRow base e size v n xs:=by
 refine⟨h.1,?_⟩
 rcases h.2 with h1 | ⟨g,cap,cur,rfl,h2,h3,h4⟩
 ·exact .inl h1
 exact .inr ⟨g,cap,cur,rfl,h2,by rw[hs g h2];exact h3,h4⟩
theorem zfu (w:World) (A B C:Obj) (k:Nat) (hk:w.heap.size+1<=k):((w.alloc A).alloc C).heap[k]? =((w.alloc B).alloc C).heap[k]?:=by
 show((w.heap.push A).push C)[k]? =((w.heap.push B).push C)[k]?
 simp only[Array.getElem?_push,Array.size_push]
 split
 ·rfl
 rw[if_neg (by omega),if_neg (by omega)]
theorem World.grownBy.rfl' (w:World) (row:Option Nat):w.grownBy w row:=⟨rfl,rfl,rfl,nR _,fun _ _ _=>rfl⟩
theorem jr.top (w:World) (cs:List Value) (t:TypeId) {b:Nat} (hb:b=w.heap.size):jr (w.alloc (.cells cs.toArray t)) ⟨b,0,none⟩ cs:=fun j u hj=>by
 rw[Addr.add_lit,zA];exact(Box.top w cs t hb).c j hj
theorem Box.beside {w w':World} {b:Nat} {cs:List Value} {row:Option Nat} (h:Box w b cs) (hg:w.grownBy w' row) (hb:∀g,row=some g->b≠g):Box w' b cs:=by
 have hlt:=h.lt;obtain⟨t,h⟩:=h;exact⟨t,by rw[hg.block b hlt (fun e=>hb b e.symm rfl)];exact h⟩
theorem qV {w W W':World} {row:Option Nat} (h:zc w W) (hg:W.grownBy W' row) (hb:∀g,row=some g->w.heap.size<=g):zc w W':=Below.grown h hg (bS h) hb
def zp (w:World) (b:Nat) (t:TypeId) (cs:List Value):Prop:=w.heap[b]? =some (.cells cs.toArray t (0,0))
theorem zp.box {w:World} {b:Nat} {t:TypeId} {cs:List Value} (h:zp w b t cs):Box w b cs:=⟨t,h⟩
theorem zp.top (w:World) (cs:List Value) (t:TypeId) {b:Nat} (hb:b=w.heap.size):zp (w.alloc (.cells cs.toArray t)) b t cs:=by
 subst hb
 show(w.heap.push _)[w.heap.size]? =_
 simp
theorem zp.grew {w w':World} {b:Nat} {t:TypeId} {cs:List Value} (h:zp w b t cs) (hg:zc w w'):zp w' b t cs:=(hg.block b h.box.lt).trans h
theorem zp.beside {w w':World} {b:Nat} {t:TypeId} {cs:List Value} {row:Option Nat} (h:zp w b t cs) (hg:w.grownBy w' row) (hb:∀g,row=some g->b≠g):zp w' b t cs:=by
 unfold zp;rw[hg.block b h.box.lt (fun e=>hb b e.symm rfl)]
 exact h
theorem zp.set {w:World} {b:Nat} {t:TypeId} {cs:List Value} (h:zp w b t cs) (i:Nat) (u:Value):zp (w.setCell ⟨b,i,none⟩ u) b t (cs.set i u):=by
 have hlt:=h.box.lt;obtain⟨_,h2⟩:=aS.1 h;unfold zp World.setCell;rw[Array.getElem?_eq_getElem (by simpa using hlt)]
 simp[Array.getElem_modify,h2]
theorem QR {w:World} {base size n:Nat} {e:TypeId} {v:Value} {xs:List Value} (h:w.ownsRow base e size v n xs) {a:Addr} (ha:∀g,v.ownBlock=some g->a.block≠g) (u:Value):(w.setCell a u).ownsRow base e size v n xs:=by
 refine⟨h.1,?_⟩
 rcases h.2 with h1 | ⟨g,cap,cur,rfl,h2,h3,h4⟩
 ·exact .inl h1
 exact .inr ⟨g,cap,cur,rfl,h2,by rw[Below.heap_setCell _ _ _ _ (fun e=>ha g rfl e.symm)];exact h3,h4⟩
structure Elt (α:Type) where
 enc:α->List Value
 k:Nat
 ty:TypeId
 st:TypeId
 bytes:Nat
 zv:Value
 zero:α
 len:∀a,(enc a).length=k
 one:∀a,∀u∈enc a,u.oneCell'=true
 und:Tryz.prog.underlying st=some (.slice ty)
 info:(Tryz.prog.info? ty).map (fun i=>(i.zero,i.size,i.bytes))=some (some zv,k,bytes)
 zok:zv.cells=(enc zero).toArray
 few:k<=bytes
 pos:0<k
section
variable{α:Type} {E:Elt α}
def zo (E:Elt α) (w:World) (v:Value) (l:List α):Prop:=ji E.enc w v l/\l.length*E.bytes<=140737488355328
def zb (E:Elt α) (base:Nat) (w:World) (v:Value) (l:List α):Prop:=w.ownsRow base E.ty E.k v l.length (l.flatMap E.enc)/\l.length*E.bytes<=140737488355328
def zjF (E:Elt α) (w:World) (a:Option Addr) (l:List α):Prop:=∀(j:Nat) x,l[j]? =some x->∃ad,a=some ad/\∀W,zc w W->jr W (ad.add (j*E.k)) (E.enc x)
theorem zin (E:Elt α):E.zv.cells.size=E.k:=by rw[E.zok];simp[E.len]
theorem jR (E:Elt α) (l:List α):(l.flatMap E.enc).length=l.length*E.k:=qI l fun a _=>E.len a
theorem zo.grew {w w':World} {v:Value} {l:List α} (h:zo E w v l) (hg:zc w w'):zo E w' v l:=⟨h.1.grew hg,h.2⟩
theorem zo.rows {w:World} {v:Value} {l:List α} (h:zo E w v l):∃a c,v= .slice a l.length c/\zjF E w a l:=by
 obtain⟨⟨a,c,h1,h2,h3⟩,_⟩:=h;refine⟨a,c,h1,fun j q hj=>?_⟩
 cases a with
 | none=>rw[h2 rfl]at hj;simp at hj
 | some x=>exact⟨x,rfl,fun W hW=>((h3 x rfl).grew hW).elem (k:=E.k) (fun b _=>E.len b) hj⟩
theorem zo.short {w:World} {v:Value} {l:List α} (h:zo E w v l):l.length<=9223372036854775807:=by
 have h1:=h.2;have h2:l.length*1<=l.length*E.bytes:=Nat.mul_le_mul_left _ (nT E.pos E.few);omega
theorem zo.nil (E:Elt α) (w:World):zo E w (.slice none 0 0) ([]:List α):=⟨⟨none,0,rfl,fun _=>rfl,fun x hx=>by cases hx⟩,by simp⟩
theorem zb.at {base:Nat} {w:World} {v:Value} {l:List α} (h:zb E base w v l):zo E w v l:=⟨jG h.1,h.2⟩
theorem zb.grew {base:Nat} {w w':World} {v:Value} {l:List α} (h:zb E base w v l) (hg:zc w w'):zb E base w' v l:=⟨ZQ h.1 hg,h.2⟩
theorem zb.base {base base':Nat} {w:World} {v:Value} {l:List α} (h:zb E base w v l) (hb:base'<=base):zb E base' w v l:=⟨qE h.1 hb,h.2⟩
theorem zb.setCell {base:Nat} {w:World} {v:Value} {l:List α} (h:zb E base w v l) {a:Addr} (ha:a.block<base) (u:Value):zb E base (w.setCell a u) v l:=⟨ownsRow_setCell_below h.1 ha u,h.2⟩
theorem zb.setOther {base:Nat} {w:World} {v:Value} {l:List α} (h:zb E base w v l) {a:Addr} (ha:∀g,v.ownBlock=some g->a.block≠g) (u:Value):zb E base (w.setCell a u) v l:=⟨QR h.1 ha u,h.2⟩
theorem zb.lt {base:Nat} {w:World} {v:Value} {l:List α} (h:zb E base w v l):∀g,v.ownBlock=some g->base<=g/\g<w.heap.size:=h.1.lt
theorem zb.form {base:Nat} {w:World} {v:Value} {l:List α} (h:zb E base w v l):∃a c,v= .slice a l.length c:=by
 obtain⟨a,c,h1,_⟩:=h.at.rows;exact⟨a,c,h1⟩
theorem zb.formS {base:Nat} {w:World} {v:Value} {l:List α} (h:zb E base w v l) (hl:0<l.length):∃g c,v= .slice (some ⟨g,0,none⟩) l.length c:=by
 rcases h.1.2 with⟨rfl,h0⟩ | ⟨g,cap,cur,h0,_⟩
 ·omega
 exact⟨g,cap,h0⟩
theorem zb.fresh {base:Nat} {w:World} {v:Value} {l:List α} (h:zb E base w v l):jh base v:=fun x n c e=>by
 rcases h.1.2 with⟨h0,_⟩ | ⟨g,cap,cur,h0,h1,_⟩
 ·rw[h0]at e;cases e
 rw[h0]at e;cases e;exact h1
theorem zb.nil (E:Elt α) (base:Nat) (w:World):zb E base w (.slice none 0 0) ([]:List α):=⟨World.ownsRow_nil _ _ _ _,by simp⟩
theorem zb.made (E:Elt α) (w:World):zb E w.heap.size (w.alloc (.cells #[] E.ty)) (.slice (some ⟨w.heap.size,0,none⟩) 0 0) ([]:List α):=⟨World.ownsRow_made w #[] 0 (nR _) (nZ _) (by simp),by simp⟩
theorem zb.ne {base:Nat} {w:World} {v:Value} {l:List α} (h:zb E base w v l) {b:Nat} {t:TypeId} {cs:List Value} (hb:zp w b t cs) (ht:t≠E.ty):∀g,v.ownBlock=some g->b≠g:=fun g hg e=>by
 subst e
 rcases h.1.2 with⟨rfl,_⟩ | ⟨g',cap,cur,rfl,_,h3,_⟩
 ·cases hg
 simp only[Value.ownBlock,Option.some.injEq]at hg;subst hg;rw[hb]at h3;cases h3;exact ht rfl
theorem zb.grown {base:Nat} {w w':World} {row:Option Nat} {v:Value} {l:List α} (h:zb E base w v l) (hg:w.grownBy w' row) (hne:∀g,v.ownBlock=some g->row≠some g):zb E base w' v l:=by
 refine⟨⟨h.1.1,?_⟩,h.2⟩
 rcases h.1.2 with h1 | ⟨g,cap,cur,rfl,h2,h3,h4⟩
 ·exact .inl h1
 exact .inr ⟨g,cap,cur,rfl,h2,by rw[hg.block g (aS.1 h3).1 (fun e=>hne g rfl e.symm)];exact h3,h4⟩
def zaV (E:Elt α) (base:Nat) (w:World) (v:Value) (l:List α):Prop:=zo E w v l/\jh base v
theorem zb.new {base:Nat} {w:World} {v:Value} {l:List α} (h:zb E base w v l):zaV E base w v l:=⟨h.at,h.fresh⟩
theorem Q8 {w:World} {base:Nat} {v:Value} {l:List α} (ty:TypeId) (hown:zb E base w v l) (c:Nat):(Builtin.append_ #[E.st,E.st] ty #[v,.slice none 0 c]).run Tryz.prog w= .ok v w:=by
 obtain⟨i0,hi,_,hz1,_⟩:=info_parts E.info
 rcases hown.1.2 with⟨rfl,_⟩ | ⟨g,cap,cur,rfl,_,_,hnc,_⟩
 ·simp[Builtin.append_,run_underlying E.und,sizeOf,typeInfo,hi,Builtin.lenOf,Builtin.firstCells]
 simp[Builtin.append_,run_underlying E.und,sizeOf,typeInfo,hi,Builtin.lenOf,Builtin.firstCells,hnc,storeCells]
theorem zB {w:World} {ops:Array Oper} {rest:List Oper} {o:Oper} {a:Act} {Q:Exit->Act->World->Prop} (hgd:o.guard=none) (s x:Operand) (ho:o.op= .call { callee:= .builtin .append,args:=#[s,x],argTypes:=#[E.st,E.st] })
  (base:Nat) (vs:Value) (l0:List α) (hs:a.eval s=vs) (hown:zb E base w vs l0) (vx:Value) (l:List α) (hx:a.eval x=vx) (hv:zo E w vx l) (hb:(l0.length+l.length)*E.bytes<=140737488355328) (hbase:base<=w.heap.size)
  (h:∀v' w',zb E base w' v' (l0++l)->w.grownBy w' vs.ownBlock->wpList Tryz.prog ops Q rest (a.put o.dst v') w'):wpList Tryz.prog ops Q (o :: rest) a w:=by
 obtain⟨⟨ax,c,rfl,hnone,hcells⟩,_⟩:=hv
 cases ax with
 | none=>
  have hps:=hnone rfl;subst hps;refine wpList_plain hgd fun K hK=>?_
  have hrun:=Q8 o.type hown c;unfold Oper.wp execOp;simp only[ho,resolve,invoke,builtin,Sem.run_bind,Sem.run_pure,rA,List.map_toArray,mP,List.map_nil,hs,hx,List.length_nil,hrun];exact hK _ _ (h vs w (by rw[List.append_nil];exact hown) (World.grownBy.rfl' _ _))
 | some ad=>
  obtain⟨i0,hi,hz0,hz1,hz2⟩:=info_parts E.info;have h2:(l0.length+l.length)*1<=(l0.length+l.length)*E.bytes:=Nat.mul_le_mul_left _ (nT E.pos E.few);refine wpList_append_own w hgd s x E.st ho base E.ty i0 _ E.k E.bytes E.und hi hz0 hz1 hz2 (zin E) E.pos vs l0.length _ hs hown.1 ad l.length c (l.flatMap E.enc) hx (jR E l) (hcells ad rfl) (qX E.one l) (qz (by omega)) hb hbase fun v' w' h1 h2 _=>?_
  exact h v' w' ⟨by rw[lA,List.flatMap_append];exact h1,by rw[lA];exact hb⟩ h2
theorem Qw {x y:α} (j:Nat) (cs:List Value) (hy:E.enc y=splice (E.enc x) j cs) (hj:j+cs.length<=E.k):∀(l:List α) (i:Nat),l[i]? =some x->splice (l.flatMap E.enc) (i*E.k+j) cs=(l.set i y).flatMap E.enc
 | [],i,hi=>by simp at hi
 | a :: l,0,hi=>by
  simp at hi
  subst hi;have ha:=E.len a;simp only[splice,List.flatMap_cons,Nat.zero_mul,zA,sZ]at hy⊢;rw[hy,List.take_append_of_le_length (by omega),List.drop_append_of_le_length (by omega)]
  simp
 | a :: l,i+1,hi=>by
  have ha:=E.len a;have ih:=Qw j cs hy hj l i (by simpa using hi)
  simp only[splice,List.flatMap_cons,sS]at ih⊢;rw[<-ih,Nat.succ_mul,Nat.add_comm (i*E.k) E.k,Nat.add_assoc,<-ha,List.take_length_add_append,Nat.add_assoc,List.drop_length_add_append,List.append_assoc]
theorem zu {w:World} {ops:Array Oper} {rest:List Oper} {o:Oper} {a:Act} {Q:Exit->Act->World->Prop} (hgd:o.guard=none) (p x:Operand) (t:TypeId) (ho:o.op= .store t p x) (base:Nat) (v:Value) (l:List α) (hown:zb E base w v l)
  (g i j:Nat) (hg:v.ownBlock=some g) (e y:α) (hi:l[i]? =some e) (cs:List Value) (hk:(Tryz.prog.info? t).map (·.size)=some cs.length) (hy:E.enc y=splice (E.enc e) j cs) (hj:j+cs.length<=E.k) (h1:∀u∈cs,u.oneCell'=true)
  (ad:Addr) (hp:a.eval p= .pointer (some ad)) (had:ad=⟨g,i*E.k+j,none⟩) (vx:Value) (hx:a.eval x=vx) (hvx:vx.cells=cs.toArray)
  (h:∀w',zb E base w' v (l.set i y)->w.grownBy w' (some g)->w'.heap.size=w.heap.size->wpList Tryz.prog ops Q rest (a.put o.dst undef) w'):wpList Tryz.prog ops Q (o :: rest) a w:=by
 subst had;refine wpList_plain hgd fun K hK=>?_
 have hil:i<l.length:=(gS.1 hi).1;have hfit:i*E.k+j+cs.length<=l.length*E.k:=by
  have:(i+1)*E.k<=l.length*E.k:=Nat.mul_le_mul_right _ hil;rw[Nat.add_mul]at this;omega
 obtain⟨w',hr,h2,h3,h4⟩:=qQ (P:=Tryz.prog) hown.1 hg (i*E.k+j) cs hfit h1;have hsz:(Go.sizeOf t).run Tryz.prog w= .ok cs.length w:=by
  cases hq:Tryz.prog.info? t with
  | none=>simp[hq]at hk
  | some i=>simp[hq]at hk;simp[Go.sizeOf,typeInfo,hq,hk]
 have hall:(Instr.storeAt t (.pointer (some ⟨g,i*E.k+j,none⟩)) vx).run Tryz.prog w= .ok () w':=by
  simp[Instr.storeAt,Instr.sureAddr,storeVar,Sem.run_bind,hsz,Result.andThen,hvx,hr]
 unfold Oper.wp;simp only[execOp,ho,hp,hx,Sem.run_bind,hall,Result.andThen,Sem.run_pure,Oper.upon];rw[Qw j cs hy hj l i hi]at h2;exact hK _ _ (h w' ⟨by rw[List.length_set];exact h2,by rw[List.length_set];exact hown.2⟩ h3 h4)
theorem QN {w:World} {ops:Array Oper} {rest:List Oper} {o:Oper} {a:Act} {Q:Exit->Act->World->Prop} (hgd:o.guard=none) (p x:Operand) (ho:o.op= .store E.ty p x) (base:Nat) (v:Value) (l:List α) (hown:zb E base w v l)
  (g i:Nat) (hg:v.ownBlock=some g) (y:α) (hi:i<l.length) (ad:Addr) (hp:a.eval p= .pointer (some ad)) (had:ad=⟨g,i*E.k,none⟩) (vx:Value) (hx:a.eval x=vx) (hvx:vx.cells=(E.enc y).toArray)
  (h:∀w',zb E base w' v (l.set i y)->w.grownBy w' (some g)->w'.heap.size=w.heap.size->wpList Tryz.prog ops Q rest (a.put o.dst undef) w'):wpList Tryz.prog ops Q (o :: rest) a w:=by
 obtain⟨i0,hi0,_,hz1,_⟩:=info_parts E.info;refine zu hgd p x E.ty ho base v l hown g i 0 hg (l[i]) y (gE hi) (E.enc y) (by rw[hi0];simp[hz1,E.len]) ?_ (by rw[E.len];omega) (E.one y) ad hp (by rw[had];rfl) vx hx hvx h
 unfold splice;rw[List.take_zero,List.nil_append,zA,List.drop_of_length_le (by rw[E.len,E.len];exact nR _),List.append_nil]
theorem zfR (E:Elt α) (n:Nat):(madeCells E.zv.cells (n*E.k)).toList=(List.replicate n E.zero).flatMap E.enc:=by
 have hl:((List.replicate n E.zero).flatMap E.enc).length=n*E.k:=by rw[jR E];simp
 have hp:0<E.k:=E.pos
 apply List.ext_getElem?
 intro j
 rcases Nat.lt_or_ge j (n*E.k)with h | h
 ·have hj:j=j / E.k*E.k+j % E.k:=by rw[Nat.mul_comm];exact(Nat.div_add_mod _ _).symm
  have h8:j % E.k<E.k:=Nat.mod_lt _ hp;have hq:j / E.k<n:=(Nat.div_lt_iff_lt_mul hp).2 h;have hz:(E.enc E.zero)[j % E.k]? =some ((E.enc E.zero)[j % E.k]'(by rw[E.len];exact h8)):=gE _
  have h1:=qr (enc:=E.enc) (k:=E.k) (List.replicate n E.zero) (j / E.k) E.zero (fun a _=>E.len a) (by simp[hq]) (j % E.k) _ hz
  rw[<-hj]at h1;rw[h1]
  simp[madeCells,h,E.zok,E.len,h8]
 rw[gN (by simp[madeCells];exact h),gN (by rw[hl];exact h)]
theorem QZ (E:Elt α) {w:World} {ops:Array Oper} {rest:List Oper} {o:Oper} {a:Act} {Q:Exit->Act->World->Prop} (hgd:o.guard=none) (l:Operand) (ho:o.op= .makeSlice E.st l l) (n:Nat) (hl:a.eval l= .int .i64 n) (hn:n*E.bytes<=140737488355328)
  (h:∀C,zb E w.heap.size (w.alloc (.cells C E.ty)) (.slice (some ⟨w.heap.size,0,none⟩) n n) (List.replicate n E.zero)->wpList Tryz.prog ops Q rest (a.put o.dst (.slice (some ⟨w.heap.size,0,none⟩) n n)) (w.alloc (.cells C E.ty))):wpList Tryz.prog ops Q (o :: rest) a w:=by
 refine wpList_plain hgd fun K hK=>?_
 obtain⟨i0,hi,hz0,hz1,hz2⟩:=info_parts E.info;have h2:n*1<=n*E.bytes:=Nat.mul_le_mul_left _ (nT E.pos E.few);have hb:((E.bytes:Int)*(n:Int))<=140737488355328:=by
  obtain⟨B,hB⟩:∃B,n*E.bytes=B:=⟨_,rfl⟩;rw[hB]at hn;rw[<-Int.natCast_mul,Nat.mul_comm,hB];omega
 have hrun:=run_make (P:=Tryz.prog) w E.st E.ty i0 _ E.und hi hz0 .i64 .i64 n n (by omega) (Int.le_refl _) (by rw[hz2];exact Int.le_trans hb (by omega)) (by omega)
 rw[hz1,tN]at hrun;unfold Oper.wp;simp only[execOp,ho,hl,Sem.run_bind,hrun,Result.andThen,Sem.run_pure,Oper.upon];refine hK _ _ (h _ ⟨⟨?_,.inr ⟨w.heap.size,n,madeCells E.zv.cells (n*E.k),by rw[lR],nR _,?_,?_,?_,?_,?_⟩⟩,by rw[lR];exact hn⟩)
 ·rw[jR E]
 ·show(w.heap.push _)[w.heap.size]? =_
  simp
 ·rw[lR];exact nR _
 ·exact qz (by omega)
 ·rw[size_madeCells]
 rw[lR,List.take_of_length_le (by simp[madeCells]),zfR E]
end
structure Out (B0 B1:Nat) (w w':World):Prop where
 os:w'.os=w.os
 tape:w'.tape=w.tape
 output:w'.output=w.output
 size:w.heap.size<=w'.heap.size
 block:∀k,k<w.heap.size->(k<B0\/B1<=k)->w'.heap[k]? =w.heap[k]?
theorem Out.refl (B0 B1:Nat) (w:World):Out B0 B1 w w:=⟨rfl,rfl,rfl,nR _,fun _ _ _=>rfl⟩
theorem Out.trans {B0 B1:Nat} {a b c:World} (h:Out B0 B1 a b) (k:Out B0 B1 b c):Out B0 B1 a c:=
 ⟨k.os.trans h.os,k.tape.trans h.tape,k.output.trans h.output,nT h.size k.size,fun i hi hb=>(k.block i (Nat.lt_of_lt_of_le hi h.size) hb).trans (h.block i hi hb)⟩
theorem Out.grew {B0 B1:Nat} {a b:World} (h:zc a b):Out B0 B1 a b:=⟨Below.os h,Below.tape h,Below.output h,bS h,fun i hi _=>Below.block h i hi⟩
theorem Out.setCell (B0 B1:Nat) (w:World) {p:Addr} (h0:B0<=p.block) (h1:p.block<B1) (u:Value):Out B0 B1 w (w.setCell p u):=
 ⟨rfl,rfl,rfl,by simp[World.setCell],fun k _ hb=>Below.heap_setCell _ _ _ _ (by omega)⟩
theorem Out.grown {B0 B1:Nat} {w w':World} {row:Option Nat} (hg:w.grownBy w' row) (h:∀g,row=some g->B0<=g/\g<B1):Out B0 B1 w w':=
 ⟨hg.os,hg.tape,hg.output,hg.size,fun k hk hb=>hg.block k hk (fun e=>by have:=h k e.symm;omega)⟩
theorem Out.wide {A0 A1 B0 B1:Nat} {a b:World} (h:Out A0 A1 a b) (h0:B0<=A0) (h1:A1<=B1):Out B0 B1 a b:=
 ⟨h.os,h.tape,h.output,h.size,fun i hi hb=>h.block i hi (by omega)⟩
theorem Out.drew {B0 B1:Nat} (w:World):Out B0 B1 w w.drew:=Out.grew (show Below _ _ _ from(bR _ _).drew)
theorem Out.grew_of {B0 B1:Nat} {w W w':World} (h:zc w W) (hB:w.heap.size<=B0) (k:Out B0 B1 W w'):zc w w':=
 (show Below _ _ _ from Below.trans h ⟨k.os,k.tape,k.output,k.size,fun i hi=>k.block i (Nat.lt_of_lt_of_le hi (bS h)) (.inl (Nat.lt_of_lt_of_le hi hB))⟩)
theorem Out.zero {w w':World} (h:Out 0 0 w w'):zc w w':=⟨h.os,h.tape,h.output,h.size,fun k hk=>h.block k hk (.inr (nZ _))⟩
theorem Box.out {B0 B1:Nat} {w w':World} {b:Nat} {cs:List Value} (h:Box w b cs) (k:Out B0 B1 w w') (hb:b<B0\/B1<=b):Box w' b cs:=by
 have hlt:=h.lt;obtain⟨t,h⟩:=h;exact⟨t,by rw[k.block b hlt hb];exact h⟩
section
variable{α:Type} {E:Elt α}
def zeB (E:Elt α) (B0 B1:Nat) (w:World) (v:Value) (l:List α):Prop:=∀w',Out B0 B1 w w'->zo E w' v l
theorem zeB.now {B0 B1:Nat} {w:World} {v:Value} {l:List α} (h:zeB E B0 B1 w v l):zo E w v l:=h w (Out.refl _ _ _)
theorem zeB.out {B0 B1:Nat} {w w':World} {v:Value} {l:List α} (h:zeB E B0 B1 w v l) (k:Out B0 B1 w w'):zeB E B0 B1 w' v l:=fun w2 h2=>h w2 (k.trans h2)
theorem zeB.less {A0 A1 B0 B1:Nat} {w:World} {v:Value} {l:List α} (h:zeB E B0 B1 w v l) (h0:B0<=A0) (h1:A1<=B1):zeB E A0 A1 w v l:=fun w2 h2=>h w2 (h2.wide h0 h1)
theorem zo.stays {B0:Nat} (B1:Nat) {w W:World} {v:Value} {l:List α} (h:zo E w v l) (hB:w.heap.size<=B0) (hg:zc w W):zeB E B0 B1 W v l:=fun _ k=>h.grew (k.grew_of hg hB)
theorem zo.s0 {w:World} {v:Value} {l:List α} (h:zo E w v l):zeB E 0 0 w v l:=fun _ k=>h.grew k.zero
theorem zaV.stays {base:Nat} {w:World} {v:Value} {l:List α} (h:zaV E base w v l):zeB E 0 base w v l:=fun w' k=>by
 obtain⟨⟨⟨a,c,h1,h2,h3⟩,h4⟩,h5⟩:=h;refine⟨⟨a,c,h1,h2,fun x hx j u hj=>?_⟩,h4⟩
 subst hx;have hc:=h3 x rfl j u hj;have hl:=World.block_lt_of_cell? _ _ hc;have hf:=h5 x _ _ h1;rw[World.cell?_of_block (w:=w) (k.block _ hl (.inr (by rw[Jp];exact hf)))]
 exact hc
theorem jT (E:Elt α) (w:World) (x:α) (cs:Array Value) (t:TypeId) (hcs:cs=(E.enc x).toArray) (hb:E.bytes<=140737488355328):zo E (w.alloc (.cells cs t)) (.slice (some ⟨w.heap.size,0,none⟩) 1 1) [x]:=by
 subst hcs;refine⟨⟨_,1,rfl,fun h=>(by cases h),fun y hy=>?_⟩,by simpa using hb⟩
 cases hy
 simpa using jr.top w (E.enc x) t rfl
end
def Cap:Value->Prop
 | .slice _ n c=>n<=c
 | _=>True
theorem zb.cap {α:Type} {E:Elt α} {base:Nat} {w:World} {v:Value} {l:List α} (h:zb E base w v l):Cap v:=by
 rcases h.1.2 with⟨rfl,_⟩ | ⟨g,cap,cur,rfl,_,_,h4,_⟩
 ·exact nR _
 exact h4
structure QX (D:Nat->Prop) (w w':World):Prop where
 os:w'.os=w.os
 tape:w'.tape=w.tape
 output:w'.output=w.output
 size:w.heap.size<=w'.heap.size
 block:∀k,k<w.heap.size->¬D k->w'.heap[k]? =w.heap[k]?
theorem QX.refl (D:Nat->Prop) (w:World):QX D w w:=⟨rfl,rfl,rfl,nR _,fun _ _ _=>rfl⟩
theorem QX.trans {D:Nat->Prop} {a b c:World} (h:QX D a b) (k:QX D b c):QX D a c:=
 ⟨k.os.trans h.os,k.tape.trans h.tape,k.output.trans h.output,nT h.size k.size,fun i hi hb=>(k.block i (Nat.lt_of_lt_of_le hi h.size) hb).trans (h.block i hi hb)⟩
theorem QX.grew {D:Nat->Prop} {a b:World} (h:zc a b):QX D a b:=⟨Below.os h,Below.tape h,Below.output h,bS h,fun i hi _=>Below.block h i hi⟩
theorem zb.obj {α:Type} {E:Elt α} {base:Nat} {w:World} {v:Value} {l:List α} (h:zb E base w v l) {g:Nat} (hg:v.ownBlock=some g):∃cs,w.heap[g]? =some (.cells cs E.ty (0,0)):=by
 rcases h.1.2 with⟨rfl,_⟩ | ⟨g',cap,cur,rfl,_,h3,_⟩
 ·cases hg
 simp only[Value.ownBlock,Option.some.injEq]at hg;subst hg;exact⟨cur,h3⟩
theorem zb.apart {α β:Type} {E:Elt α} {F:Elt β} {base base':Nat} {w:World} {v u:Value} {l:List α} {m:List β} (h:zb E base w v l) (k:zb F base' w u m) (ht:E.ty≠F.ty):∀g,v.ownBlock=some g->u.ownBlock≠some g:=fun g hg hu=>by
 obtain⟨cs,h1⟩:=h.obj hg;obtain⟨ds,h2⟩:=k.obj hu;rw[h1]at h2;simp only[Option.some.injEq,Obj.cells.injEq]at h2;exact ht h2.2.1
theorem zb.one {α:Type} {E:Elt α} {base g n c:Nat} {w:World} {l:List α} (h:zb E base w (.slice (some ⟨g,0,none⟩) n c) l) {i:Nat} {x:α} (hx:l[i]? =some x):jr w ((Addr.mk g 0 none).add (i*E.k)) (E.enc x):=by
 obtain⟨a0,c0,hsl,hrows⟩:=h.at.rows;obtain⟨ad,had,hce⟩:=hrows i _ hx;cases hsl;cases had;exact hce w (zc.refl _)
structure zce where
 pv:Value->Prop
 post:Value->World->Prop
 step:World->World->Prop
 pre:World->Prop:=fun _=>True
structure zr (I:World->Prop) where
 world:World
 holds:I world
theorem Box.c3 {w:World} {b:Nat} {a0 a1 a2:Value} {l:List Value} (h:Box w b (a0::a1::a2::l)):w.cell? ⟨b,0,none⟩=some a0/\w.cell? ⟨b,1,none⟩=some a1/\w.cell? ⟨b,2,none⟩=some a2:=⟨h.c 0 rfl,h.c 1 rfl,h.c 2 rfl⟩
theorem Box.c7 {w:World} {b:Nat} {a0 a1 a2 a3 a4 a5 a6:Value} {l:List Value} (h:Box w b (a0::a1::a2::a3::a4::a5::a6::l)):w.cell? ⟨b,0,none⟩=some a0/\w.cell? ⟨b,1,none⟩=some a1/\w.cell? ⟨b,2,none⟩=some a2/\w.cell? ⟨b,3,none⟩=some a3/\w.cell? ⟨b,4,none⟩=some a4/\w.cell? ⟨b,5,none⟩=some a5/\w.cell? ⟨b,6,none⟩=some a6:=⟨h.c 0 rfl,h.c 1 rfl,h.c 2 rfl,h.c 3 rfl,h.c 4 rfl,h.c 5 rfl,h.c 6 rfl⟩
theorem Box.c8 {w:World} {b:Nat} {a0 a1 a2 a3 a4 a5 a6 a7:Value} {l:List Value} (h:Box w b (a0::a1::a2::a3::a4::a5::a6::a7::l)):w.cell? ⟨b,0,none⟩=some a0/\w.cell? ⟨b,1,none⟩=some a1/\w.cell? ⟨b,2,none⟩=some a2/\w.cell? ⟨b,3,none⟩=some a3/\w.cell? ⟨b,4,none⟩=some a4/\w.cell? ⟨b,5,none⟩=some a5/\w.cell? ⟨b,6,none⟩=some a6/\w.cell? ⟨b,7,none⟩=some a7:=⟨h.c 0 rfl,h.c 1 rfl,h.c 2 rfl,h.c 3 rfl,h.c 4 rfl,h.c 5 rfl,h.c 6 rfl,h.c 7 rfl⟩
theorem Box.c10 {w:World} {b:Nat} {a0 a1 a2 a3 a4 a5 a6 a7 a8 a9:Value} {l:List Value} (h:Box w b (a0::a1::a2::a3::a4::a5::a6::a7::a8::a9::l)):w.cell? ⟨b,0,none⟩=some a0/\w.cell? ⟨b,1,none⟩=some a1/\w.cell? ⟨b,2,none⟩=some a2/\w.cell? ⟨b,3,none⟩=some a3/\w.cell? ⟨b,4,none⟩=some a4/\w.cell? ⟨b,5,none⟩=some a5/\w.cell? ⟨b,6,none⟩=some a6/\w.cell? ⟨b,7,none⟩=some a7/\w.cell? ⟨b,8,none⟩=some a8/\w.cell? ⟨b,9,none⟩=some a9:=⟨h.c 0 rfl,h.c 1 rfl,h.c 2 rfl,h.c 3 rfl,h.c 4 rfl,h.c 5 rfl,h.c 6 rfl,h.c 7 rfl,h.c 8 rfl,h.c 9 rfl⟩
theorem Box.c11 {w:World} {b:Nat} {a0 a1 a2 a3 a4 a5 a6 a7 a8 a9 a10:Value} {l:List Value} (h:Box w b (a0::a1::a2::a3::a4::a5::a6::a7::a8::a9::a10::l)):w.cell? ⟨b,0,none⟩=some a0/\w.cell? ⟨b,1,none⟩=some a1/\w.cell? ⟨b,2,none⟩=some a2/\w.cell? ⟨b,3,none⟩=some a3/\w.cell? ⟨b,4,none⟩=some a4/\w.cell? ⟨b,5,none⟩=some a5/\w.cell? ⟨b,6,none⟩=some a6/\w.cell? ⟨b,7,none⟩=some a7/\w.cell? ⟨b,8,none⟩=some a8/\w.cell? ⟨b,9,none⟩=some a9/\w.cell? ⟨b,10,none⟩=some a10:=⟨h.c 0 rfl,h.c 1 rfl,h.c 2 rfl,h.c 3 rfl,h.c 4 rfl,h.c 5 rfl,h.c 6 rfl,h.c 7 rfl,h.c 8 rfl,h.c 9 rfl,h.c 10 rfl⟩
theorem Box.c12 {w:World} {b:Nat} {a0 a1 a2 a3 a4 a5 a6 a7 a8 a9 a10 a11:Value} {l:List Value} (h:Box w b (a0::a1::a2::a3::a4::a5::a6::a7::a8::a9::a10::a11::l)):w.cell? ⟨b,0,none⟩=some a0/\w.cell? ⟨b,1,none⟩=some a1/\w.cell? ⟨b,2,none⟩=some a2/\w.cell? ⟨b,3,none⟩=some a3/\w.cell? ⟨b,4,none⟩=some a4/\w.cell? ⟨b,5,none⟩=some a5/\w.cell? ⟨b,6,none⟩=some a6/\w.cell? ⟨b,7,none⟩=some a7/\w.cell? ⟨b,8,none⟩=some a8/\w.cell? ⟨b,9,none⟩=some a9/\w.cell? ⟨b,10,none⟩=some a10/\w.cell? ⟨b,11,none⟩=some a11:=⟨h.c 0 rfl,h.c 1 rfl,h.c 2 rfl,h.c 3 rfl,h.c 4 rfl,h.c 5 rfl,h.c 6 rfl,h.c 7 rfl,h.c 8 rfl,h.c 9 rfl,h.c 10 rfl,h.c 11 rfl⟩
theorem Box.h {I:World->Prop} {W:World} {b:Nat} {cs:List Value} (h:Box W b cs) (hI:∀u,I u↔zc W u) (i:Nat) {v:Value} (hv:cs[i]?=some v):∀y:zr I,y.world.cell? ⟨b,i,none⟩=some v:=fun y=>(h.grew ((hI _).1 y.holds)).c i hv
theorem Box.gw {W:World} {b:Nat} {cs:List Value} (h:Box W b cs) (i:Nat) {v:Value} (hv:cs[i]?=some v):∀y:zx W,y.world.cell? ⟨b,i,none⟩=some v:=fun y=>(h.grew y.grew).c i hv
theorem gP {w W:World} {o:Obj} (h:w.alloc o=W):zc w W:=by subst h;exact za _ _
theorem gA {w W:World} {o:Obj} (h:w.alloc o=W):Go.RowKit.Hid (zc w W):=show zc _ _ from gP h
theorem gT {v w W:World} {o:Obj} (h:w.alloc o=W) (g:Go.RowKit.Hid (zc v w)):Go.RowKit.Hid (zc v W):=show zc _ _ from g.out.trans (gP h)
theorem gD2 {w W:World} {o q:Obj} (h:(w.alloc o).alloc q=W):Go.RowKit.Hid (zc w W):=show zc _ _ from(gP rfl).trans (gP h)
theorem xP {w W:World} {l:List Value} {t:TypeId} {p:Nat} (h:w.alloc (.cells l.toArray t)=W) (e:Go.RowKit.Hid (w.heap.size=p)):Go.RowKit.Hid (Box W p l):=show Box _ _ _ by subst h;exact Box.top w l t e.out.symm
theorem xA {w W:World} {l:List Value} {t:TypeId} (h:w.alloc (.cells l.toArray t)=W):Go.RowKit.Hid (Box W w.heap.size l):=xP h rfl
theorem xPT {w W:World} {l:List Value} {t:TypeId} {p:Nat} (h:w.alloc (.cells l.toArray t)=W) (e:Go.RowKit.Hid (w.heap.size=p)):Go.RowKit.Hid (zp W p t l):=show zp _ _ _ _ by subst h;exact zp.top w l t e.out.symm
theorem xT {w W:World} {l:List Value} {t:TypeId} (h:w.alloc (.cells l.toArray t)=W):Go.RowKit.Hid (zp W w.heap.size t l):=xPT h rfl
theorem yA {w W:World} {o:Obj} {b:Nat} {l:List Value} (h:w.alloc o=W) (y:Go.RowKit.Hid (Box w b l)):Go.RowKit.Hid (Box W b l):=show Box _ _ _ by subst h;exact y.out.alloc _
theorem x2a {w W:World} {l:List Value} {t:TypeId} {o:Obj} (h:(w.alloc (.cells l.toArray t)).alloc o=W):Go.RowKit.Hid (Box W w.heap.size l):=yA h (xA rfl)
theorem x2b {w W:World} {l:List Value} {t:TypeId} {o:Obj} (h:(w.alloc o).alloc (.cells l.toArray t)=W):Go.RowKit.Hid (Box W (w.heap.size+1) l):=show Box _ _ _ by subst h;exact Box.top _ l t (by simp)
theorem sA {w W:World} {o:Obj} (h:w.alloc o=W):Go.RowKit.Hid (W.heap.size=w.heap.size+1):=show _=_ by subst h;simp
theorem gW (w:World):zc w w.drew:=show Go.RowKit.Below _ _ _ from(Go.RowKit.Below.refl _ _).drew
section
variable(I:World->Prop) (P:Program) (ops:Array Oper) (S:Nat->Option zce)
def ju (i:Nat) (F:Nat->World->Prop) (a:Act) (K:(Nat->World->Prop)->Act->Prop):Prop:=
 match ops[i]? with
 | none=>False
 | some o=>
  if Region.wanted o (yielded ops a.tmps)then
   match S i with
   | none=>∃v,(∀w,I w->(∀m,anc ops 3 m i=true->F m w)->(execOp a.eval o).run P w= .ok (.value v) w)/\K F (a.put o.dst v)
   | some s=>(∀w,I w->s.pre w->(∀m,anc ops 3 m i=true->F m w)->zL P o a w fun v w'=>I w'/\s.step w w'/\s.pv v/\s.post v w')/\∀v,s.pv v->K (ZU F i (s.post v)) (a.put o.dst v)
  else K F (a.put o.dst undef)
def zgZ (Q:Act->World->Prop):List Nat->(Nat->World->Prop)->Act->Prop
 | [],F,a=>∀w,I w->(∀i,F i w)->Q a w
 | i :: l,F,a=>ju I P ops S i F a (zgZ Q l)
end
section
variable{I:World->Prop} {P:Program} {ops:Array Oper} {S:Nat->Option zce} {T:Nat}
theorem ju.mono {i:Nat} {F:Nat->World->Prop} {a:Act} {K K':(Nat->World->Prop)->Act->Prop}
  (h:∀F' a',(∀m,m≠i->F' m=F m)->K F' a'->K' F' a') (hc:ju I P ops S i F a K):ju I P ops S i F a K':=by
 unfold ju at*
 split
 ·rename_i ho;simp only[ho]at hc
 rename_i o ho
 simp only[ho]at hc
 split
 ·rename_i hw
  simp only[hw,if_true]at hc
  split
  ·rename_i hs
   simp only[hs]at hc;obtain⟨v,h1,h2⟩:=hc;exact⟨v,h1,h _ _ (fun _ _=>rfl) h2⟩
  rename_i s hs
  simp only[hs]at hc;exact⟨hc.1,fun v hv=>h _ _ (fun m hm=>zV hm) (hc.2 v hv)⟩
 rename_i hw
 simp only[hw]at hc;exact h _ _ (fun _ _=>rfl) hc
theorem ju.swap {i j:Nat} {oi oj:Oper} {F:Nat->World->Prop} {a:Act} {K:(Nat->World->Prop)->Act->Prop} {w:World}
  (hi:ops[i]? =some oi) (hj:ops[j]? =some oj) (hne:i≠j) (hap:oi.apart ops oj=true)
  (hsi:∀cs b,oi.op≠.select cs b) (hsj:∀cs b,oj.op≠.select cs b)
  (hij:anc ops 3 i j=false) (hji:anc ops 3 j i=false) (hS:∀s,S i=some s->∃v,s.pv v)
  (hw0:I w) (hF:∀m,anc ops 3 m j=true->F m w)
  (h:ju I P ops S i F a fun F' a'=>ju I P ops S j F' a' K):ju I P ops S j F a fun F' a'=>ju I P ops S i F' a' K:=by
 obtain⟨h1,h2,h3⟩:=Oper.apart_spec hap;have ei:∀v,execOp (a.put oj.dst v).eval oi=execOp a.eval oi:=fun v=>execOp_put oi hsi a oj.dst v h3
 have ej:∀v,execOp (a.put oi.dst v).eval oj=execOp a.eval oj:=fun v=>execOp_put oj hsj a oi.dst v h1
 have wi:∀v,Region.wanted oi (yielded ops (a.put oj.dst v).tmps)=Region.wanted oi (yielded ops a.tmps):=fun v=>wanted_put oi a oj.dst v h3
 have wj:∀v,Region.wanted oj (yielded ops (a.put oi.dst v).tmps)=Region.wanted oj (yielded ops a.tmps):=fun v=>wanted_put oj a oi.dst v h1
 have di:∀v w K,zL P oi (a.put oj.dst v) w K=zL P oi a w K:=fun v w K=>by unfold zL;rw[ei]
 have dj:∀v w K,zL P oj (a.put oi.dst v) w K=zL P oj a w K:=fun v w K=>by unfold zL;rw[ej]
 have pc:∀v u,(a.put oi.dst v).put oj.dst u=(a.put oj.dst u).put oi.dst v:=fun v u=>Act.put_comm a v u h2
 have fi:∀p,(fun m=>anc ops 3 m i=true->ZU F j p m w=F m w)=fun _=>True:=fun p=>by
  funext m
  simp only[eq_iff_iff,iff_true];intro hm;rw[zV (fun e=>by subst e;rw[hji]at hm;cases hm)]
 have faci:∀p w',(∀m,anc ops 3 m i=true->ZU F j p m w')↔(∀m,anc ops 3 m i=true->F m w'):=fun p w'=>by
  constructor <;> intro hh m hm <;> have:=hh m hm
  ·rwa [zV (fun e=>by subst e;rw[hji]at hm;cases hm)]at this
  rwa [zV (fun e=>by subst e;rw[hji]at hm;cases hm)]
 have facj:∀p w',(∀m,anc ops 3 m j=true->ZU F i p m w')↔(∀m,anc ops 3 m j=true->F m w'):=fun p w'=>by
  constructor <;> intro hh m hm <;> have:=hh m hm
  ·rwa [zV (fun e=>by subst e;rw[hij]at hm;cases hm)]at this
  rwa [zV (fun e=>by subst e;rw[hij]at hm;cases hm)]
 clear fi;unfold ju at h⊢;simp only[hi,hj,ei,ej,wi,wj,di,dj,pc]at h⊢
 cases hwi:Region.wanted oi (yielded ops a.tmps) <;> cases hwj:Region.wanted oj (yielded ops a.tmps) <;>
  simp only[hwi,hwj,if_true,if_false,Bool.false_eq_true]at h⊢
 ·exact h
 ·cases hsj':S j with
  | none=>simp only[hsj']at h⊢;exact h
  | some s=>simp only[hsj']at h⊢;exact h
 ·cases hsi':S i with
  | none=>simp only[hsi']at h⊢;exact h
  | some s=>simp only[hsi']at h⊢;exact h
 cases hsi':S i with
 | none=>
  simp only[hsi']at h;obtain⟨vi,hri,h⟩:=h
  cases hsj':S j with
  | none=>
   simp only[hsj']at h⊢;obtain⟨vj,hrj,h⟩:=h;exact⟨vj,hrj,vi,hri,h⟩
  | some s=>
   simp only[hsj']at h⊢;exact⟨h.1,fun vj hvj=>⟨vi,fun w' hw' hf=>hri w' hw' ((faci _ _).1 hf),h.2 vj hvj⟩⟩
 | some si=>
  simp only[hsi']at h;obtain⟨hdi,h⟩:=h;obtain⟨v1,hv1⟩:=hS si hsi'
  cases hsj':S j with
  | none=>
   simp only[hsj']at h⊢;obtain⟨vj,hrj,_⟩:=h v1 hv1;refine⟨vj,fun w' hw' hf=>hrj w' hw' ((facj _ _).2 hf),hdi,fun vi hvi=>?_⟩
   obtain⟨vj',hrj',hl⟩:=h vi hvi;have e1:=hrj w hw0 ((facj _ _).2 hF);have e2:=hrj' w hw0 ((facj _ _).2 hF);rw[e1]at e2;simp only[Result.ok.injEq,Next.value.injEq,and_true]at e2;subst e2;exact hl
  | some sj=>
   simp only[hsj']at h⊢;refine⟨fun w' hw' hpr hf=>(h v1 hv1).1 w' hw' hpr ((facj _ _).2 hf),fun vj hvj=>⟨fun w' hw' hpr hf=>hdi w' hw' hpr ((faci _ _).1 hf),fun vi hvi=>?_⟩⟩
   have:=(h vi hvi).2 vj hvj;rwa [zea hne]at this
theorem zgZ.commute {Q:Act->World->Prop} {j:Nat} {oj:Oper} {w:World} (hj:ops[j]? =some oj) (hw0:I w)
  (hsel:∀(k:Nat) (o:Oper) cs b,ops[k]? =some o->o.op≠.select cs b) (hS:∀k s,S k=some s->∃v,s.pv v):
  ∀(l:List Nat) (F:Nat->World->Prop) (a:Act),l.Nodup->j∈l->
   (∀i∈l,i≠j->∃oi,ops[i]? =some oi/\(i<j->oi.apart ops oj=true)/\anc ops 3 i j=false/\(i<j->anc ops 3 j i=false))->
   (l.Pairwise (·< ·))->(∀m,anc ops 3 m j=true->F m w)->zgZ I P ops S Q l F a->zgZ I P ops S Q (j :: l.filter (· != j)) F a
 | [],_,_,_,hm,_,_,_,_=>by cases hm
 | i :: l,F,a,hnd,hm,hall,hsorted,hF,h=>by
  by_cases hij:i=j
  ·subst hij;have:(i :: l).filter (· != i)=l:=by
    rw[List.filter_cons];simp only[bne_self_eq_false,Bool.false_eq_true,if_false];refine List.filter_eq_self.2 fun x hx=>?_
    have:x≠i:=fun e=>(List.nodup_cons.1 hnd).1 (e ▸ hx)
    simpa using this
   rw[this];exact h
  have hjl:j∈l:=by
   rcases mC.1 hm with e | e
   ·exact absurd e.symm hij
   exact e
  have hlt:i<j:=(List.pairwise_cons.1 hsorted).1 j hjl;obtain⟨oi,hoi,hap,haij,haji⟩:=hall i (by simp) hij
  have hf:(i :: l).filter (· != j)=i :: l.filter (· != j):=by
   rw[List.filter_cons];have:(i != j)=true:=by simpa using hij
   simp[this]
  rw[hf];refine ju.swap hoi hj hij (hap hlt) (fun cs b=>hsel i oi cs b hoi) (fun cs b=>hsel j oj cs b hj) haij (haji hlt) (hS i) hw0 hF ?_
  refine ju.mono (fun F' a' hF' hl=>?_) h
  refine zgZ.commute hj hw0 hsel hS l F' a' (List.nodup_cons.1 hnd).2 hjl (fun k hk=>hall k (by simp[hk])) (List.pairwise_cons.1 hsorted).2 (fun m hma=>?_) hl
  rw[hF' m (fun e=>by subst e;rw[haij]at hma;cases hma)]
  exact hF m hma
theorem zcO {Q:Act->World->Prop} {Q':Exit->Act->World->Prop} {l:List Oper} {m:Nat} (hB:Zw ops T=true) (hTl:T+m=ops.size) (hll:l.length=m) (hops:∀j,l[j]? =ops[T+j]?) (hS:∀k s,S k=some s->∃v,s.pv v)
  (hp:∀k s j t,S k=some s->S j=some t->j≠k->anc ops 3 j k=false->∀v w w',t.step w w'->s.post v w->s.post v w') (hpre:∀j t k s,S j=some t->S k=some s->j≠k->∀w w',s.step w w'->t.pre w->t.pre w') (hQ:∀a w,Q a w->wpList P ops Q' l a w):
  ∀(fuel:Nat) (listed:Array Bool) (F:Nat->World->Prop) (a:Act) (w:World),listed.size=ops.size->(∀i,T<=i->i<ops.size->listed.getD i true=false)->(zd listed T).length=fuel->ZX ops listed->I w->
   (∀i,F i w)->(∀i,(∀w,F i w)\/∃s v,S i=some s/\F i=s.post v/\listed.getD i false=true)->(∀k t,S k=some t->listed.getD k true=false->t.pre w)->zgZ I P ops S Q (zd listed T) F a->wpAny P .any ops Q' (fuel+m) listed a w:=by
 have hsel:=Region.noSelect_spec (ops:=ops) (by simp only[Zw,Bool.and_eq_true]at hB;exact hB.1.1)
 intro fuel
 induction fuel with
 | zero=>
  intro listed F a w hsz hout hl hc hw hF hFp hPre h;have hnil:zd listed T=[]:=eN hl;rw[hnil]at h;rw[zA];refine Qf hB m l T listed a w (nR _) hsz hTl hll hops (fun i hi=>?_) hout (hQ _ _ (h w hw hF))
  cases hg:listed.getD i true with
  | true=>rfl
  | false=>
   have:i∈zd listed T:=List.mem_filter.2 ⟨List.mem_range.2 hi,by simp only[hg,beq_self_eq_true]⟩
   rw[hnil]at this;cases this
 | succ fuel ih=>
  intro listed F a w hsz hout hl hc hw hF hFp hPre h;rw[Nat.add_right_comm];refine⟨fun hr=>?_,fun j hj=>?_⟩
  ·exfalso
   cases hu:zd listed T with
   | nil=>simp[hu]at hl
   | cons x xs=>
    have hx:x∈zd listed T:=by rw[hu];simp
    have hx':=List.mem_filter.1 hx;have hxT:x<T:=List.mem_range.1 hx'.1;have hxs:x<ops.size:=by omega
    have ho:ops[x]? =some ops[x]:=Array.getElem?_eq_getElem hxs;have hsorted:(zd listed T).Pairwise (·< ·):=List.Pairwise.filter _ List.pairwise_lt_range;have:x∈Region.ready .any ops listed:=by
     refine mem_ready.2 ⟨by simpa using hx'.2,ops[x],ho,fun e he hb=>?_⟩
     have hed:zaT ops e.on x=true:=(jt ho).2 ⟨e,he,hb,rfl⟩;have hlt:=jB hB ho _ hed
     cases hg:listed.getD e.on true with
     | true=>exact JZ (by omega) hg
     | false=>
      have hmem:e.on∈zd listed T:=List.mem_filter.2 ⟨List.mem_range.2 (by omega),by simp only[hg,beq_self_eq_true]⟩
      rw[hu]at hmem hsorted
      rcases mC.1 hmem with e1 | e1
      ·omega
      have:=(List.pairwise_cons.1 hsorted).1 _ e1;omega
    rw[hr]at this;cases this
  obtain⟨h0,oj,hoj,hall⟩:=mem_ready.1 hj;have hjs:j<ops.size:=(aS.1 hoj).1;have hdir:∀k,zaT ops k j=true->listed.getD k false=true:=fun k hk=>by
   obtain⟨e,he,hb,rfl⟩:=(jt hoj).1 hk;exact hall e he hb
  have hjT:j<T:=by
   rcases Nat.lt_or_ge j T with h1 | h1
   ·exact h1
   exfalso
   cases hu:zd listed T with
   | nil=>simp[hu]at hl
   | cons x xs=>
    have hx:x∈zd listed T:=by rw[hu];simp
    have hx':=List.mem_filter.1 hx;have hxT:x<T:=List.mem_range.1 hx'.1;have:=qg hc j x j hdir (Zm hB hoj h1 x (by omega))
    rw[qH (by simpa using hx'.2)]at this
    cases this
  have hju:j∈zd listed T:=List.mem_filter.2 ⟨List.mem_range.2 hjT,by simp only[h0,beq_self_eq_true]⟩
  have hnd:(zd listed T).Nodup:=List.Pairwise.filter _ List.nodup_range;have hsorted:(zd listed T).Pairwise (·< ·):=List.Pairwise.filter _ List.pairwise_lt_range;have hcm:=zgZ.commute hoj hw hsel hS (zd listed T) F a hnd hju (fun i hi hij=>by
   have hi':=List.mem_filter.1 hi;have hun:listed.getD i false=false:=qH (by simpa using hi'.2)
   have his:i<ops.size:=by have:=List.mem_range.1 hi'.1;omega
   have hoi:ops[i]? =some ops[i]:=Array.getElem?_eq_getElem his;refine⟨ops[i],hoi,fun hlt=>?_,?_,fun hlt=>?_⟩
   ·rcases Zv hB hoj hjT i hlt with he | ⟨oi,hoi',hap⟩
    ·have:=hdir i he;rw[hun]at this;cases this
    rw[hoi]at hoi';cases hoi';exact hap
   ·cases ha:anc ops 3 i j with
    | false=>rfl
    | true=>
     have:=qg hc 3 i j hdir ha;rw[hun]at this;cases this
   cases ha:anc ops 3 j i with
   | false=>rfl
   | true=>
    have:=zaL hB 3 j i ha
    omega) hsorted (fun m _=>hF m) h
  have hsz':(listed.setIfInBounds j true).size=ops.size:=by simp[hsz]
  have hout':∀i,T<=i->i<ops.size->(listed.setIfInBounds j true).getD i true=false:=fun i hi hi'=>by rw[getD_set_ne true (by omega)];exact hout i hi hi'
  have hlen':(zd (listed.setIfInBounds j true) T).length=fuel:=by
   rw[qj (by omega)]
   have he:(zd listed T).filter (· != j)=(zd listed T).erase j:=by
    rw[List.Nodup.erase_eq_filter hnd]
   rw[he,List.length_erase_of_mem hju];omega
  have hc':ZX ops (listed.setIfInBounds j true):=fun i k hk hik=>by
   by_cases hkj:j=k
   ·subst hkj;exact getD_set_true (hdir i hik)
   rw[getD_set_ne false hkj]at hk;exact getD_set_true (hc i k hk hik)
  have hFs:(∀i,(∀w,F i w)\/∃s v,S i=some s/\F i=s.post v/\listed.getD i false=true)->∀i,(∀w,F i w)\/∃s v,S i=some s/\F i=s.post v/\(listed.setIfInBounds j true).getD i false=true:=fun h i=>by
   rcases h i with h1 | ⟨s1,v1,e1,e2,e3⟩
   ·exact .inl h1
   refine .inr ⟨s1,v1,e1,e2,?_⟩
   by_cases hij:j=i
   ·subst hij
    simp[show j<listed.size by omega]
   rw[getD_set_ne false hij];exact e3
  have hPs:∀k,(listed.setIfInBounds j true).getD k true=false->k≠j/\listed.getD k true=false:=fun k hl'=>by
   by_cases hkj:j=k
   ·subst hkj
    simp[show j<listed.size by omega]at hl'
   rw[getD_set_ne true hkj]at hl';exact⟨fun e=>hkj e.symm,hl'⟩
  unfold wpOp;simp only[hoj];simp only[zgZ,ju,hoj]at hcm;rw[<-qj (by omega)]at hcm
  split
  ·rename_i hwant
   simp only[hwant,if_true]at hcm;refine .inl ?_
   cases hs:S j with
   | none=>
    simp only[hs]at hcm;obtain⟨v,hrun,hk⟩:=hcm;have hr:=hrun w hw (fun m _=>hF m)
    unfold Oper.wp;rw[hr];exact ih _ F _ w hsz' hout' hlen' hc' hw hF (hFs hFp) (fun k t hk' hl'=>(hPs k hl').elim fun _ q=>hPre k t hk' q) hk
   | some s=>
    simp only[hs]at hcm;refine(hcm.1 w hw (hPre j s hs h0) (fun m _=>hF m)).wp fun v w' ⟨hi',hstep,hpv,hpost⟩=>?_
    refine ih _ (ZU F j (s.post v)) _ w' hsz' hout' hlen' hc' hi' (fun i=>?_) (fun i=>?_) (fun k t hk' hl'=>(hPs k hl').elim fun q1 q2=>hpre k t j s hk' hs q1 w w' hstep (hPre k t hk' q2)) (hcm.2 v hpv)
    ·unfold ZU
     split
     ·exact hpost
     rename_i hij
     rcases hFp i with h1 | ⟨s1,v1,e1,e2,e3⟩
     ·exact h1 w'
     rw[e2];refine hp i s1 j s e1 hs (fun e=>hij e.symm) ?_ v1 w w' hstep ?_
     ·cases ha:anc ops 3 j i with
      | false=>rfl
      | true=>
       have h1:=qg hc 3 j i (fun k hk=>hc k i e3 hk) ha
       rw[qH h0]at h1;cases h1
     have:=hF i;rw[e2]at this;exact this
    by_cases hij:i=j
    ·subst hij;refine .inr ⟨s,v,hs,?_,?_⟩
     ·unfold ZU;rw[if_pos rfl]
     simp[show i<listed.size by omega]
    rcases hFp i with h1 | ⟨s1,v1,e1,e2,e3⟩
    ·refine .inl fun w=>?_
     unfold ZU;rw[if_neg hij];exact h1 w
    refine .inr ⟨s1,v1,e1,?_,?_⟩
    ·unfold ZU;rw[if_neg hij];exact e2
    rw[getD_set_ne false (fun e=>hij e.symm)]
    exact e3
  rename_i hwant
  simp only[hwant]at hcm;exact ih _ F _ w hsz' hout' hlen' hc' hw hF (hFs hFp) (fun k t hk' hl'=>(hPs k hl').elim fun _ q=>hPre k t hk' q) hcm
end
section
variable{I:World->Prop} {P:Program} {ops:Array Oper} {S:Nat->Option zce} {Q:Act->World->Prop}
variable(I P ops S Q)in
def JH:List Oper->Nat->(Nat->World->Prop)->Act->Prop
 | [],_,F,a=>∀w,I w->(∀i,F i w)->Q a w
 | o :: rest,k,F,a=>
  if Region.wanted o (yielded ops a.tmps)then
   match S k with
   | none=>∃v,(∀w,I w->(∀m,anc ops 3 m k=true->F m w)->(execOp a.eval o).run P w= .ok (.value v) w)/\JH rest (k+1) F (a.put o.dst v)
   | some s=>(∀w,I w->s.pre w->(∀m,anc ops 3 m k=true->F m w)->zL P o a w fun v w'=>I w'/\s.step w w'/\s.pv v/\s.post v w')/\∀v,s.pv v->JH rest (k+1) (ZU F k (s.post v)) (a.put o.dst v)
  else JH rest (k+1) F (a.put o.dst undef)
theorem Zu:∀(l:List Oper) (k:Nat) (F:Nat->World->Prop) (a:Act),(∀j,l[j]? =ops[k+j]?\/l.length<=j)->JH I P ops S Q l k F a->zgZ I P ops S Q (List.range' k l.length) F a
 | [],_,_,_,_,h=>h
 | o :: l,k,F,a,hl,h=>by
  have h0:ops[k]? =some o:=by
   rcases hl 0 with e | e
   ·simpa using e.symm
   simp at e
  have hnext:∀j,l[j]? =ops[k+1+j]?\/l.length<=j:=fun j=>by
   rcases hl (j+1)with e | e
   ·left;rw[List.getElem?_cons_succ]at e;rw[e];congr 1;omega
   right;simpa using e
  simp only[List.length_cons,List.range'_succ,zgZ,ju,h0];unfold JH at h
  split
  ·rename_i hw
   simp only[hw,if_true]at h
   cases hs:S k with
   | none=>
    simp only[hs]at h;obtain⟨v,h1,h2⟩:=h;exact⟨v,h1,Zu l (k+1) _ _ hnext h2⟩
   | some s=>
    simp only[hs]at h;exact⟨h.1,fun v hv=>Zu l (k+1) _ _ hnext (h.2 v hv)⟩
  rename_i hw
  simp only[hw]at h;exact Zu l (k+1) _ _ hnext h
variable(I P ops S Q)in
structure zbV (l:List Oper) (k:Nat) (F:Nat->World->Prop) (a:Act):Prop where
 out:JH I P ops S Q l k F a
theorem qP {id:Nat} {Q:Exit->Act->World->Prop} {a:Act} {w:World} {L l r:List Oper} (T:Nat) (S:List (Nat × zce)) (hI:I w.drew) (hm:P.follows .mixedOrders=true) (hB:Zw L.toArray T=true) (hl:L.take T=l) (hr:L.drop T=r) (hT:T<=L.length)
  (hS:∀x∈S,∃v,x.2.pv v) (hp:∀k s j t,S.lookup k=some s->S.lookup j=some t->j≠k->anc L.toArray 3 j k=false->∀v w w',t.step w w'->s.post v w->s.post v w') (hpre:∀j t k s,S.lookup j=some t->S.lookup k=some s->j≠k->∀w w',s.step w w'->t.pre w->t.pre w') (hpr0:∀k t,S.lookup k=some t->t.pre w.drew)
  (h:zbV I P L.toArray (fun k=>S.lookup k) (fun a w=>wpList P L.toArray Q r a w) l 0 (fun _ _=>True) a):(Code.region id L.toArray true).wp P Q a w:=by
 have hlook:∀(S:List (Nat × zce)) k s,S.lookup k=some s->∃x∈S,x.2=s:=by
  intro S
  induction S with
  | nil=>intro k s h;simp at h
  | cons x S ih=>
   intro k s h;rw[List.lookup_cons]at h
   split at h
   ·exact⟨x,by simp,by simpa using h⟩
   obtain⟨y,hy,he⟩:=ih k s h;exact⟨y,by simp[hy],he⟩
 have hlT:l.length=T:=by rw[<-hl,List.length_take];omega
 have hrT:r.length=L.length - T:=by rw[<-hr,List.length_drop]
 refine wp_region_any hm ?_;have hu:zd (Array.replicate L.toArray.size false) T=List.range T:=by
  unfold zd;refine List.filter_eq_self.2 fun i hi=>?_
  have:i<T:=by simpa using hi
  simp[show i<L.length by omega]
 have h':=Zu (ops:=L.toArray) l 0 _ a (fun j=>by
  rcases Nat.lt_or_ge j T with hj | hj
  ·left;rw[<-hl,List.getElem?_take_of_lt hj];simp
  right;omega) h.out
 rw[hlT,<-List.range_eq_range']at h';have hfin:=zcO (I:=I) (P:=P) (S:=fun k=>S.lookup k) (F:=fun _ _=>True) (ops:=L.toArray) (T:=T) (l:=r) (m:=L.length - T) (Q:=fun a w=>wpList P L.toArray Q r a w) (Q':=Q) hB (by simp;omega) hrT (fun j=>by rw[<-hr,List.getElem?_drop];simp) (fun k s hs=>by obtain⟨x,hx,rfl⟩:=hlook S k s hs;exact hS x hx) hp hpre (fun _ _ h=>h)
  T (Array.replicate L.toArray.size false) a w.drew (by simp) (fun i hi hi'=>by simp at hi';simp[hi']) (by rw[hu];simp) (fun i j hj _=>by
   exfalso;rw[Array.getD_eq_getD_getElem?,Array.getElem?_replicate]at hj
   split at hj <;> simp at hj)
  hI (fun _=>trivial) (fun _=> .inl fun _=>trivial) (fun k t hk _=>hpr0 k t hk) (by rw[hu];exact h')
 have hsz:T+(L.length - T)=L.toArray.size:=by simp;omega
 rw[hsz]at hfin;exact hfin
variable{o:Oper} {rest:List Oper} {k:Nat} {F:Nat->World->Prop} {a:Act}
theorem zk (ht:zkm o=true) (hw:Region.wanted o (yielded ops a.tmps)=true) (hS:S k=none)
  (h:∀K:Act->Prop,(∀a,zbV I P ops S Q rest (k+1) F a->K a)->o.quiet P a (fun w'=>∃x:zr I,w'=x.world) K):zbV I P ops S Q (o :: rest) k F a:=by
 obtain⟨v,h1,h2⟩:=h _ fun _ h=>h
 constructor;unfold JH;rw[if_pos hw];simp only[hS];refine⟨v,fun w hg _=>?_,h2.out⟩
 have h3:=h1 w ⟨⟨w,hg⟩,rfl⟩;unfold Oper.quietAt at h3;have hne:=fun n w'=>@Ju P o ht a.eval w w' n
 generalize(execOp a.eval o).run P w=r at*
 cases r with
 | ok n w'=>
  cases n <;> simp only[Oper.quietUpon]at h3
  case value u=>rw[h3.1,h3.2]
  case skip=>obtain⟨_,he⟩:=hne _ _ rfl;cases he
  case enter f args=>obtain⟨_,he⟩:=hne _ _ rfl;cases he
 | halt x w'=>simp only[Oper.quietUpon]at h3
theorem zbA (hw:Region.wanted o (yielded ops a.tmps)=false) (h:zbV I P ops S Q rest (k+1) F (a.put o.dst undef)):zbV I P ops S Q (o :: rest) k F a:=by
 constructor;unfold JH;rw[if_neg (by rw[hw];exact Bool.false_ne_true)]
 exact h.out
theorem zF {s:zce} (hw:Region.wanted o (yielded ops a.tmps)=true) (hS:S k=some s)
  (h:∀w,I w->s.pre w->(∀m,anc ops 3 m k=true->F m w)->zL P o a w fun v w'=>I w'/\s.step w w'/\s.pv v/\s.post v w')
  (hn:∀v,s.pv v->zbV I P ops S Q rest (k+1) (ZU F k (s.post v)) (a.put o.dst v)):zbV I P ops S Q (o :: rest) k F a:=by
 constructor;unfold JH;rw[if_pos hw];simp only[hS];exact⟨h,fun v hv=>(hn v hv).out⟩
theorem jI (h:∀w,I w->(∀i,F i w)->Q a w):zbV I P ops S Q [] k F a:=⟨h⟩
end
def bel (m n:Int):Bool:=decide (0<=m) && decide (m<n)
theorem zaK {m n:Int}:bel m n=true↔0<=m/\m<n:=by simp[bel]
theorem zia {m n:Int} (h:¬(0<=m/\m<n)):bel m n=false:=by
 cases hb:bel m n with
 | false=>rfl
 | true=>exact absurd (zaK.1 hb) h
theorem zkL {α:Type} {p:α->Bool} {fs:List α} {k:Nat} {q:α} (h:fs[k]? =some q) (hq:p q=true):fs.any p=true:=List.any_eq_true.2 ⟨q,mG h,hq⟩
theorem zkK {α:Type} {p:α->Bool} {fs:List α} (hb:∀(j:Nat) x,fs[j]? =some x->p x=false):fs.any p=false:=List.any_eq_false.2 fun x hx=>by
 obtain⟨j,hj⟩:=List.getElem?_of_mem hx;rw[hb j x hj]
 decide
theorem qJ {α:Type} {l:List α} {k:Nat} {q:α} (h:l[k]? =some q):l.drop k=q :: l.drop (k+1):=by
 obtain⟨hlt,rfl⟩:=gS.1 h;exact List.drop_eq_getElem_cons hlt
theorem qa {α:Type} {l:List α} {k:Nat} {q:α} (h:l[k]? =some q):l.take (k+1)=l.take k++ [q]:=by
 rw[List.take_add_one,h];rfl
theorem zd4 {α:Type} {A:α} {p k:Nat} {s:α} (h:List.lookup k [(p,A)]=some s):k=p/\s=A:=by
 by_cases h1:k=p
 ·subst h1
  simp at h
  exact⟨rfl,h.symm⟩
 have e1:(k == p)=false:=by simpa using h1
 simp[List.lookup,e1]at h
theorem zgw {α:Type} {A B:α} {p q k:Nat} {s:α} (h:List.lookup k [(p,A),(q,B)]=some s):(k=p/\s=A)\/(k=q/\s=B):=by
 by_cases h1:k=p
 ·subst h1
  simp at h
  exact .inl ⟨rfl,h.symm⟩
 by_cases h2:k=q
 ·subst h2;have e1:(k == p)=false:=by simpa using h1
  simp[List.lookup,e1]at h
  exact .inr ⟨rfl,h.symm⟩
 have e1:(k == p)=false:=by simpa using h1
 have e2:(k == q)=false:=by simpa using h2
 simp[List.lookup,e1,e2]at h
theorem zo.beside {α:Type} {E:Elt α} {w w':World} {row:Option Nat} {v:Value} {l:List α} (h:zo E w v l) (hg:w.grownBy w' row) (hn:∀x n c,v= .slice (some x) n c->some x.block≠row):zo E w' v l:=by
 obtain⟨⟨a,c,h1,h2,h3⟩,h4⟩:=h;refine⟨⟨a,c,h1,h2,fun x hx j u hj=>?_⟩,h4⟩
 subst hx;exact hg.cell (h3 x rfl j u hj) (by rw[Jp];exact hn x _ _ h1)
theorem zcV {α:Type} {l:List α} {i:Nat} {v:α} (h:l[i]? =some v):l.set i v=l:=by
 apply List.ext_getElem?
 intro j
 by_cases e:j=i
 ·subst e;rw[sF (gS.1 h).1,h]
 rw[sN (fun h=>e h.symm)]
theorem JY {a b c:World} {row:Option Nat} (h:a.grownBy b row) (k:b.grownBy c row):a.grownBy c row:=
 ⟨k.os.trans h.os,k.tape.trans h.tape,k.output.trans h.output,nT h.size k.size,fun i hi hr=>(k.block i (Nat.lt_of_lt_of_le hi h.size) hr).trans (h.block i hi hr)⟩
theorem zj0 {a b:World} (h:zc a b) (row:Option Nat):a.grownBy b row:=⟨Below.os h,Below.tape h,Below.output h,bS h,fun i hi _=>Below.block h i hi⟩
def frv (a:Fr):List Value:=[.int .u8 a.p.b0,.int .u8 a.p.b1,.int .u8 a.p.b2,.int .u8 a.p.b3,.int .u8 a.p.b4,.int .u8 a.p.b5,.int .u8 a.p.b6,.int .u8 a.p.b7,.int .i64 a.r,.bool a.u,.bool a.d,.int .i64 a.f,.int .i64 a.x]
theorem zk9:(Tryz.prog.info? 69).map (fun i=>(i.zero,i.size,i.bytes))=some (some (.agg #[.int .u8 0,.int .u8 0,.int .u8 0,.int .u8 0,.int .u8 0,.int .u8 0,.int .u8 0,.int .u8 0,.int .i64 0,.bool false,.bool false,.int .i64 0,.int .i64 0]),13,40):=by kernel_rfl
def frz:Value:= .agg #[.int .u8 0,.int .u8 0,.int .u8 0,.int .u8 0,.int .u8 0,.int .u8 0,.int .u8 0,.int .u8 0,.int .i64 0,.bool false,.bool false,.int .i64 0,.int .i64 0]
theorem zhL:frz.cells=(frv fr0).toArray:=rfl
theorem QH (a:Fr):(frv a).length=13:=rfl
theorem zfe (a:Fr):∀u∈frv a,u.oneCell'=true:=fun u hu=>by
 simp only[frv,mC,nM,or_false]at hu
 rcases hu with rfl | rfl | rfl | rfl | rfl | rfl | rfl | rfl | rfl | rfl | rfl | rfl | rfl <;> rfl
theorem zff:13<=40:=by decide
theorem zbH:0<13:=by decide
theorem zdk {a b:Fr} (h:Zz a b=true):a=b:=(zbI a b).1 h
theorem zjb {a b:Fr} (h:a≠b):Zz a b=false:=by
 cases hb:Zz a b with
 | false=>rfl
 | true=>exact absurd (zdk hb) h
def zY (w:World) (v:Value) (l:List Fr):Prop:=ji frv w v l/\l.length*40<=140737488355328
def zh (base:Nat) (w:World) (v:Value) (l:List Fr):Prop:=w.ownsRow base 69 13 v l.length (l.flatMap frv)/\l.length*40<=140737488355328
def zja (w:World) (a:Option Addr) (l:List Fr):Prop:=∀(j:Nat) x,l[j]? =some x->∃ad,a=some ad/\∀W,zc w W->jr W (ad.add (j*13)) (frv x)
theorem zj3:frz.cells.size=13:=by rw[zhL];simp[QH]
theorem Zy (l:List Fr):(l.flatMap frv).length=l.length*13:=qI l fun a _=>QH a
theorem zY.grew {w w':World} {v:Value} {l:List Fr} (h:zY w v l) (hg:zc w w'):zY w' v l:=⟨h.1.grew hg,h.2⟩
theorem zY.rows {w:World} {v:Value} {l:List Fr} (h:zY w v l):∃a c,v= .slice a l.length c/\zja w a l:=by
 obtain⟨⟨a,c,h1,h2,h3⟩,_⟩:=h;refine⟨a,c,h1,fun j q hj=>?_⟩
 cases a with
 | none=>rw[h2 rfl]at hj;simp at hj
 | some x=>exact⟨x,rfl,fun W hW=>((h3 x rfl).grew hW).elem (k:=13) (fun b _=>QH b) hj⟩
theorem zY.short {w:World} {v:Value} {l:List Fr} (h:zY w v l):l.length<=9223372036854775807:=by
 have h1:=h.2;have h2:l.length*1<=l.length*40:=Nat.mul_le_mul_left _ (nT zbH zff);omega
theorem zY.setCell {base:Nat} {w:World} {v:Value} {l:List Fr} (h:zY w v l) (hf:jh base v) {a:Addr} (ha:a.block<base) (u:Value):zY (w.setCell a u) v l:=⟨h.1.setCell hf ha u,h.2⟩
theorem zY.nil (w:World):zY w (.slice none 0 0) ([]:List Fr):=⟨⟨none,0,rfl,fun _=>rfl,fun x hx=>by cases hx⟩,by simp⟩
theorem zh.at {base:Nat} {w:World} {v:Value} {l:List Fr} (h:zh base w v l):zY w v l:=⟨jG h.1,h.2⟩
theorem zh.grew {base:Nat} {w w':World} {v:Value} {l:List Fr} (h:zh base w v l) (hg:zc w w'):zh base w' v l:=⟨ZQ h.1 hg,h.2⟩
theorem zh.base {base base':Nat} {w:World} {v:Value} {l:List Fr} (h:zh base w v l) (hb:base'<=base):zh base' w v l:=⟨qE h.1 hb,h.2⟩
theorem zh.setCell {base:Nat} {w:World} {v:Value} {l:List Fr} (h:zh base w v l) {a:Addr} (ha:a.block<base) (u:Value):zh base (w.setCell a u) v l:=⟨ownsRow_setCell_below h.1 ha u,h.2⟩
theorem zh.setOther {base:Nat} {w:World} {v:Value} {l:List Fr} (h:zh base w v l) {a:Addr} (ha:∀g,v.ownBlock=some g->a.block≠g) (u:Value):zh base (w.setCell a u) v l:=⟨QR h.1 ha u,h.2⟩
theorem zh.lt {base:Nat} {w:World} {v:Value} {l:List Fr} (h:zh base w v l):∀g,v.ownBlock=some g->base<=g/\g<w.heap.size:=h.1.lt
theorem zh.form {base:Nat} {w:World} {v:Value} {l:List Fr} (h:zh base w v l):∃a c,v= .slice a l.length c:=by
 obtain⟨a,c,h1,_⟩:=h.at.rows;exact⟨a,c,h1⟩
theorem zh.formS {base:Nat} {w:World} {v:Value} {l:List Fr} (h:zh base w v l) (hl:0<l.length):∃g c,v= .slice (some ⟨g,0,none⟩) l.length c:=by
 rcases h.1.2 with⟨rfl,h0⟩ | ⟨g,cap,cur,h0,_⟩
 ·omega
 exact⟨g,cap,h0⟩
theorem zh.fresh {base:Nat} {w:World} {v:Value} {l:List Fr} (h:zh base w v l):jh base v:=fun x n c e=>by
 rcases h.1.2 with⟨h0,_⟩ | ⟨g,cap,cur,h0,h1,_⟩
 ·rw[h0]at e;cases e
 rw[h0]at e;cases e;exact h1
theorem zh.nil (base:Nat) (w:World):zh base w (.slice none 0 0) ([]:List Fr):=⟨World.ownsRow_nil _ _ _ _,by simp⟩
theorem zh.made (w:World):zh w.heap.size (w.alloc (.cells #[] 69)) (.slice (some ⟨w.heap.size,0,none⟩) 0 0) ([]:List Fr):=⟨World.ownsRow_made w #[] 0 (nR _) (nZ _) (by simp),by simp⟩
theorem zh.ne {base:Nat} {w:World} {v:Value} {l:List Fr} (h:zh base w v l) {b:Nat} {t:TypeId} {cs:List Value} (hb:zp w b t cs) (ht:t≠69):∀g,v.ownBlock=some g->b≠g:=fun g hg e=>by
 subst e
 rcases h.1.2 with⟨rfl,_⟩ | ⟨g',cap,cur,rfl,_,h3,_⟩
 ·cases hg
 simp only[Value.ownBlock,Option.some.injEq]at hg;subst hg;rw[hb]at h3;cases h3;exact ht rfl
def qR (base:Nat) (w:World) (v:Value) (l:List Fr):Prop:=zY w v l/\jh base v
theorem qR.base {base base':Nat} {w:World} {v:Value} {l:List Fr} (h:qR base w v l) (hb:base'<=base):qR base' w v l:=⟨h.1,fun x n c e=>nT hb (h.2 x n c e)⟩
theorem qR.setCell {base:Nat} {w:World} {v:Value} {l:List Fr} (h:qR base w v l) {a:Addr} (ha:a.block<base) (u:Value):qR base (w.setCell a u) v l:=⟨h.1.setCell h.2 ha u,h.2⟩
theorem qR.nil (base:Nat) (w:World):qR base w (.slice none 0 0) ([]:List Fr):=⟨zY.nil w,jJ _⟩
theorem zh.new {base:Nat} {w:World} {v:Value} {l:List Fr} (h:zh base w v l):qR base w v l:=⟨h.at,h.fresh⟩
theorem zaF {w:World} {base:Nat} {v:Value} {l:List Fr} (ty:TypeId) (hown:zh base w v l) (c:Nat):(Builtin.append_ #[26,26] ty #[v,.slice none 0 c]).run Tryz.prog w= .ok v w:=by
 obtain⟨i0,hi,_,hz1,_⟩:=info_parts zk9
 rcases hown.1.2 with⟨rfl,_⟩ | ⟨g,cap,cur,rfl,_,_,hnc,_⟩
 ·simp[Builtin.append_,run_underlying Tryz.underlying26,sizeOf,typeInfo,hi,Builtin.lenOf,Builtin.firstCells]
 simp[Builtin.append_,run_underlying Tryz.underlying26,sizeOf,typeInfo,hi,Builtin.lenOf,Builtin.firstCells,hnc,storeCells]
theorem J0 {w:World} {ops:Array Oper} {rest:List Oper} {o:Oper} {a:Act} {Q:Exit->Act->World->Prop} (hgd:o.guard=none) (s x:Operand) (ho:o.op= .call { callee:= .builtin .append,args:=#[s,x],argTypes:=#[26,26] })
  (base:Nat) (vs:Value) (l0:List Fr) (hs:a.eval s=vs) (hown:zh base w vs l0) (vx:Value) (l:List Fr) (hx:a.eval x=vx) (hv:zY w vx l) (hb:(l0.length+l.length)*40<=140737488355328) (hbase:base<=w.heap.size)
  (h:∀v' w',zh base w' v' (l0++l)->w.grownBy w' vs.ownBlock->wpList Tryz.prog ops Q rest (a.put o.dst v') w'):wpList Tryz.prog ops Q (o :: rest) a w:=by
 obtain⟨⟨ax,c,rfl,hnone,hcells⟩,_⟩:=hv
 cases ax with
 | none=>
  have hps:=hnone rfl;subst hps;refine wpList_plain hgd fun K hK=>?_
  have hrun:=zaF o.type hown c;unfold Oper.wp execOp;simp only[ho,resolve,invoke,builtin,Sem.run_bind,Sem.run_pure,rA,List.map_toArray,mP,List.map_nil,hs,hx,List.length_nil,hrun];exact hK _ _ (h vs w (by rw[List.append_nil];exact hown) (World.grownBy.rfl' _ _))
 | some ad=>
  obtain⟨i0,hi,hz0,hz1,hz2⟩:=info_parts zk9;have h2:(l0.length+l.length)*1<=(l0.length+l.length)*40:=Nat.mul_le_mul_left _ (nT zbH zff);refine wpList_append_own w hgd s x 26 ho base 69 i0 _ 13 40 Tryz.underlying26 hi hz0 hz1 hz2 zj3 zbH vs l0.length _ hs hown.1 ad l.length c (l.flatMap frv) hx (Zy l) (hcells ad rfl) (qX zfe l) (qz (by omega)) hb hbase fun v' w' h1 h2 _=>?_
  exact h v' w' ⟨by rw[lA,List.flatMap_append];exact h1,by rw[lA];exact hb⟩ h2
theorem zap {x y:Fr} (j:Nat) (cs:List Value) (hy:frv y=splice (frv x) j cs) (hj:j+cs.length<=13):∀(l:List Fr) (i:Nat),l[i]? =some x->splice (l.flatMap frv) (i*13+j) cs=(l.set i y).flatMap frv
 | [],i,hi=>by simp at hi
 | a :: l,0,hi=>by
  simp at hi
  subst hi;have ha:=QH a;simp only[splice,List.flatMap_cons,Nat.zero_mul,zA,sZ]at hy⊢;rw[hy,List.take_append_of_le_length (by omega),List.drop_append_of_le_length (by omega)]
  simp
 | a :: l,i+1,hi=>by
  have ha:=QH a;have ih:=zap j cs hy hj l i (by simpa using hi)
  simp only[splice,List.flatMap_cons,sS]at ih⊢;rw[<-ih,Nat.succ_mul,Nat.add_comm (i*13) 13,Nat.add_assoc,<-ha,List.take_length_add_append,Nat.add_assoc,List.drop_length_add_append,List.append_assoc]
theorem jw {w:World} {ops:Array Oper} {rest:List Oper} {o:Oper} {a:Act} {Q:Exit->Act->World->Prop} (hgd:o.guard=none) (p x:Operand) (t:TypeId) (ho:o.op= .store t p x) (base:Nat) (v:Value) (l:List Fr) (hown:zh base w v l)
  (g i j:Nat) (hg:v.ownBlock=some g) (e y:Fr) (hi:l[i]? =some e) (cs:List Value) (hk:(Tryz.prog.info? t).map (·.size)=some cs.length) (hy:frv y=splice (frv e) j cs) (hj:j+cs.length<=13) (h1:∀u∈cs,u.oneCell'=true)
  (ad:Addr) (hp:a.eval p= .pointer (some ad)) (had:ad=⟨g,i*13+j,none⟩) (vx:Value) (hx:a.eval x=vx) (hvx:vx.cells=cs.toArray)
  (h:∀w',zh base w' v (l.set i y)->w.grownBy w' (some g)->w'.heap.size=w.heap.size->wpList Tryz.prog ops Q rest (a.put o.dst undef) w'):wpList Tryz.prog ops Q (o :: rest) a w:=by
 subst had;refine wpList_plain hgd fun K hK=>?_
 have hil:i<l.length:=(gS.1 hi).1;have hfit:i*13+j+cs.length<=l.length*13:=by
  have:(i+1)*13<=l.length*13:=Nat.mul_le_mul_right _ hil;rw[Nat.add_mul]at this;omega
 obtain⟨w',hr,h2,h3,h4⟩:=qQ (P:=Tryz.prog) hown.1 hg (i*13+j) cs hfit h1;have hsz:(Go.sizeOf t).run Tryz.prog w= .ok cs.length w:=by
  cases hq:Tryz.prog.info? t with
  | none=>simp[hq]at hk
  | some i=>simp[hq]at hk;simp[Go.sizeOf,typeInfo,hq,hk]
 have hall:(Instr.storeAt t (.pointer (some ⟨g,i*13+j,none⟩)) vx).run Tryz.prog w= .ok () w':=by
  simp[Instr.storeAt,Instr.sureAddr,storeVar,Sem.run_bind,hsz,Result.andThen,hvx,hr]
 unfold Oper.wp;simp only[execOp,ho,hp,hx,Sem.run_bind,hall,Result.andThen,Sem.run_pure,Oper.upon];rw[zap j cs hy hj l i hi]at h2;exact hK _ _ (h w' ⟨by rw[List.length_set];exact h2,by rw[List.length_set];exact hown.2⟩ h3 h4)
theorem zgE (n:Nat):(madeCells frz.cells (n*13)).toList=(List.replicate n fr0).flatMap frv:=by
 have hl:((List.replicate n fr0).flatMap frv).length=n*13:=by rw[Zy];simp
 have hp:0<13:=zbH
 apply List.ext_getElem?
 intro j
 rcases Nat.lt_or_ge j (n*13)with h | h
 ·have hj:j=j / 13*13+j % 13:=by rw[Nat.mul_comm];exact(Nat.div_add_mod _ _).symm
  have h8:j % 13<13:=Nat.mod_lt _ hp;have hq:j / 13<n:=(Nat.div_lt_iff_lt_mul hp).2 h;have hz:(frv fr0)[j % 13]? =some ((frv fr0)[j % 13]'(by rw[QH];exact h8)):=gE _
  have h1:=qr (enc:=frv) (k:=13) (List.replicate n fr0) (j / 13) fr0 (fun a _=>QH a) (by simp[hq]) (j % 13) _ hz
  rw[<-hj]at h1;rw[h1]
  simp[madeCells,h,zhL,QH]
  rw[hz];rfl
 rw[gN (by simp[madeCells];exact h),gN (by rw[hl];exact h)]
theorem Qm {w:World} {ops:Array Oper} {rest:List Oper} {o:Oper} {a:Act} {Q:Exit->Act->World->Prop} (hgd:o.guard=none) (l:Operand) (ho:o.op= .makeSlice 26 l l) (n:Nat) (hl:a.eval l= .int .i64 n) (hn:n*40<=140737488355328)
  (h:∀C,zh w.heap.size (w.alloc (.cells C 69)) (.slice (some ⟨w.heap.size,0,none⟩) n n) (List.replicate n fr0)->wpList Tryz.prog ops Q rest (a.put o.dst (.slice (some ⟨w.heap.size,0,none⟩) n n)) (w.alloc (.cells C 69))):wpList Tryz.prog ops Q (o :: rest) a w:=by
 refine wpList_plain hgd fun K hK=>?_
 obtain⟨i0,hi,hz0,hz1,hz2⟩:=info_parts zk9;have h2:n*1<=n*40:=Nat.mul_le_mul_left _ (nT zbH zff);have hb:((40:Nat):Int)*(n:Int)<=140737488355328:=by omega
 have hrun:=run_make (P:=Tryz.prog) w 26 69 i0 _ Tryz.underlying26 hi hz0 .i64 .i64 n n (by omega) (Int.le_refl _) (by rw[hz2];exact Int.le_trans hb (by omega)) (by omega)
 rw[hz1,tN]at hrun;unfold Oper.wp;simp only[execOp,ho,hl,Sem.run_bind,hrun,Result.andThen,Sem.run_pure,Oper.upon];refine hK _ _ (h _ ⟨⟨?_,.inr ⟨w.heap.size,n,madeCells frz.cells (n*13),by rw[lR],nR _,?_,?_,?_,?_,?_⟩⟩,by rw[lR];exact hn⟩)
 ·rw[Zy]
 ·show(w.heap.push _)[w.heap.size]? =_
  simp;rfl
 ·rw[lR];exact nR _
 ·exact qz (by omega)
 ·rw[size_madeCells]
 rw[lR,List.take_of_length_le (by simp[madeCells]),zgE]
theorem QP {P:Program} (w:World) (E:TypeId) (k:IntKind) (d:Nat) (xs ys:Array Value) (i:TypeInfo) (hE:P.underlying E=some (.int k)) (hi:P.info? E=some i) (hs:i.size=1):
  ∀(a b:List Int) (o:Nat),a.length=b.length->(∀j v,a[j]? =some v->xs[o+j]? =some (.int k v))->(∀j v,b[j]? =some v->ys[o+j]? =some (.int k v))->
   (Op.eqItems (d+1) E 1 xs ys (List.range' o a.length)).run P w= .ok (decide (a=b)) w
 | [],[],_,_,_,_=>by simp[Op.eqItems]
 | [],_ :: _,_,h,_,_=>by simp at h
 | _ :: _,[],_,h,_,_=>by simp at h
 | x :: a,y :: b,o,h,hx,hy=>by
  have h1:=hx 0 x rfl;have h2:=hy 0 y rfl;have hp:∀(zs:Array Value) v,zs[o+0]? =some (.int k v)->(part E zs (o*1)).run P w= .ok (.int k v) w:=fun zs v hz=>by
   rw[Nat.mul_one];exact run_part_plain w (by simp[Program.plainKey,hE]) hz
  have ih:=QP w E k d xs ys i hE hi hs a b (o+1) (by simpa using h) (fun j v hj=>by rw[Nat.add_assoc,Nat.add_comm 1 j];exact hx (j+1) v (by simpa using hj)) (fun j v hj=>by rw[Nat.add_assoc,Nat.add_comm 1 j];exact hy (j+1) v (by simpa using hj))
  simp only[List.length_cons,List.range'_succ,Op.eqItems,Sem.run_bind,hp xs x h1,hp ys y h2,rA,run_equalIn_int w d E k k x y hE]
  by_cases hxy:x=y
  ·subst hxy
   simp[ih]
  have:(x == y)=false:=by simpa using hxy
  simp[this,hxy]
theorem Qb {P:Program} (w:World) (T E:TypeId) (k:IntKind) (d n:Nat) (a b:List Int) (i:TypeInfo) (hT:P.underlying T=some (.array n E)) (hE:P.underlying E=some (.int k)) (hi:P.info? E=some i) (hs:i.size=1)
  (ha:a.length=n) (hb:b.length=n):
  (Op.equalIn (d+2) T (.agg (a.map (Value.int k)).toArray) (.agg (b.map (Value.int k)).toArray)).run P w= .ok (decide (a=b)) w:=by
 have hc:P.cellsOf E=1:=by simp[Program.cellsOf,hi,hs]
 rw[run_equalIn_array w (d+1) _ _ hT hi,hc,List.range_eq_range',<-ha];exact QP w E k d _ _ i hE hi hs a b 0 (by omega) (fun j v hj=>by simp[hj]) (fun j v hj=>by simp[hj])
def zfA (W:World) (y:Addr) (a:Fr):Prop:=
 W.cell? y=some (.int .u8 a.p.b0)/\W.cell? { block:=y.block,off:=y.off+1 }=some (.int .u8 a.p.b1)/\W.cell? { block:=y.block,off:=y.off+2 }=some (.int .u8 a.p.b2)/\W.cell? { block:=y.block,off:=y.off+3 }=some (.int .u8 a.p.b3)/\
 W.cell? { block:=y.block,off:=y.off+4 }=some (.int .u8 a.p.b4)/\W.cell? { block:=y.block,off:=y.off+5 }=some (.int .u8 a.p.b5)/\W.cell? { block:=y.block,off:=y.off+6 }=some (.int .u8 a.p.b6)/\W.cell? { block:=y.block,off:=y.off+7 }=some (.int .u8 a.p.b7)/\
 W.cell? { block:=y.block,off:=y.off+8 }=some (.int .i64 a.r)/\W.cell? { block:=y.block,off:=y.off+9 }=some (.bool a.u)/\W.cell? { block:=y.block,off:=y.off+10 }=some (.bool a.d)/\W.cell? { block:=y.block,off:=y.off+11 }=some (.int .i64 a.f)/\W.cell? { block:=y.block,off:=y.off+12 }=some (.int .i64 a.x)
theorem jr.fr {W:World} {y:Addr} {a:Fr} (h:jr W y (frv a)):zfA W y a:=
 ⟨h 0 _ rfl,h 1 _ rfl,h 2 _ rfl,h 3 _ rfl,h 4 _ rfl,h 5 _ rfl,h 6 _ rfl,h 7 _ rfl,h 8 _ rfl,h 9 _ rfl,h 10 _ rfl,h 11 _ rfl,h 12 _ rfl⟩
def Qs (w:World) (a:Option Addr) (l:List Fr):Prop:=∀(j:Nat) x,l[j]? =some x->∃ad,a=some ad/\∀W,zc w W->zfA W (ad.add (j*13)) x
theorem zY.frs {w:World} {v:Value} {l:List Fr} (h:zY w v l):∃a c,v= .slice a l.length c/\Qs w a l:=by
 obtain⟨a,c,h1,h2⟩:=h.rows;refine⟨a,c,h1,fun j x hj=>?_⟩
 obtain⟨ad,h3,h4⟩:=h2 j x hj;exact⟨ad,h3,fun W hW=>(h4 W hW).fr⟩
theorem zla:(Tryz.prog.info? 5).map (fun i=>(i.zero,i.size,i.bytes))=some (some (.int .u8 0),1,1):=by kernel_rfl
theorem Qi (k:Nat) (b0 b1 b2 b3 b4 b5 b6 b7 c0 c1 c2 c3 c4 c5 c6 c7:Int) (x:World):(Op.equalIn (k+2) 67 (.agg #[.int .u8 b0,.int .u8 b1,.int .u8 b2,.int .u8 b3,.int .u8 b4,.int .u8 b5,.int .u8 b6,.int .u8 b7]) (.agg #[.int .u8 c0,.int .u8 c1,.int .u8 c2,.int .u8 c3,.int .u8 c4,.int .u8 c5,.int .u8 c6,.int .u8 c7])).run Tryz.prog x= .ok (zbu ⟨b0,b1,b2,b3,b4,b5,b6,b7⟩ ⟨c0,c1,c2,c3,c4,c5,c6,c7⟩) x:=by
 obtain⟨i5,hi5,_,hz1,_⟩:=info_parts zla;have:=Qb (P:=Tryz.prog) x 67 5 .u8 k 8 [b0,b1,b2,b3,b4,b5,b6,b7] [c0,c1,c2,c3,c4,c5,c6,c7] i5 Tryz.underlying67 Tryz.underlying5 hi5 hz1 rfl rfl;rw[show zbu ⟨b0,b1,b2,b3,b4,b5,b6,b7⟩ ⟨c0,c1,c2,c3,c4,c5,c6,c7⟩=decide ([b0,b1,b2,b3,b4,b5,b6,b7]=[c0,c1,c2,c3,c4,c5,c6,c7])from by
  rw[Bool.eq_iff_iff,zbt,decide_eq_true_iff];simp only[Pg.mk.injEq,List.cons.injEq,and_true]]
 exact this
theorem zcb (b0 b1 b2 b3 b4 b5 b6 b7 r:Int) (u d:Bool) (f x:Int) (c0 c1 c2 c3 c4 c5 c6 c7 r':Int) (u' d':Bool) (f' x':Int) (W:World):
  (Op.equalIn 10000 69 (.agg #[.int .u8 b0,.int .u8 b1,.int .u8 b2,.int .u8 b3,.int .u8 b4,.int .u8 b5,.int .u8 b6,.int .u8 b7,.int .i64 r,.bool u,.bool d,.int .i64 f,.int .i64 x]) (.agg #[.int .u8 c0,.int .u8 c1,.int .u8 c2,.int .u8 c3,.int .u8 c4,.int .u8 c5,.int .u8 c6,.int .u8 c7,.int .i64 r',.bool u',.bool d',.int .i64 f',.int .i64 x'])).run Tryz.prog W
   = .ok (Zz ⟨⟨b0,b1,b2,b3,b4,b5,b6,b7⟩,r,u,d,f,x⟩ ⟨⟨c0,c1,c2,c3,c4,c5,c6,c7⟩,r',u',d',f',x'⟩) W:=by
 have hS:Tryz.prog.underlying 69=some (.struct (Tryz.prog.fieldsOf 69)):=by kernel_rfl
 have hp:Tryz.prog.stoodInHeld 69=false:=by kernel_rfl
 have hpg:=Qi 9997 b0 b1 b2 b3 b4 b5 b6 b7 c0 c1 c2 c3 c4 c5 c6 c7;have u3:=Tryz.underlying3;have a3:=Tryz.isAgg3;have z3:=Tryz.sizeOf3;have u4:=Tryz.underlying4;have a4:=Tryz.isAgg4;have z4:=Tryz.sizeOf4;have a23:=Tryz.isAgg67;have z23:=Tryz.sizeOf67;rw[show Zz ⟨⟨b0,b1,b2,b3,b4,b5,b6,b7⟩,r,u,d,f,x⟩ ⟨⟨c0,c1,c2,c3,c4,c5,c6,c7⟩,r',u',d',f',x'⟩=(zbu ⟨b0,b1,b2,b3,b4,b5,b6,b7⟩ ⟨c0,c1,c2,c3,c4,c5,c6,c7⟩ &&(r == r') &&(u == u') &&(d == d') &&(f == f') &&(x == x'))from rfl]
 generalize zbu ⟨b0,b1,b2,b3,b4,b5,b6,b7⟩ ⟨c0,c1,c2,c3,c4,c5,c6,c7⟩=P at hpg⊢
 rw[show(10000:Nat)=9999+1 from rfl,run_equalIn_agg W 9999 69 _ _ hS hp]
 simp only[Program.fieldsOf,Tryz.underlying69]
 go_simp
 cases P
 ·simp
 by_cases h1:r=r' <;> by_cases h2:u=u' <;> by_cases h3:d=d' <;> by_cases h4:f=f' <;> by_cases h5:x=x' <;> simp[h1,h2,h3,h4,h5]
theorem zL.step {P:Program} {o:Oper} {a:Act} {w w':World} {v:Value} {K:Value->World->Prop} (hr:(execOp a.eval o).run P w= .ok (.value v) w') (h:K v w'):zL P o a w K:=by
 unfold zL;rw[hr];exact h
section
variable{α:Type} {E:Elt α}
theorem jg {w:World} {base g:Nat} (ty:TypeId) (h0:zb E base w (.slice (some ⟨g,0,none⟩) 0 0) ([]:List α)) (vx:Value) (l:List α) (hv:zo E w vx l) (hbase:base<=w.heap.size):
  ∃v' w',(Builtin.append_ #[E.st,E.st] ty #[.slice (some ⟨g,0,none⟩) 0 0,vx]).run Tryz.prog w= .ok v' w'/\zb E base w' v' l/\zc w w'/\(l=[]->v'= .slice (some ⟨g,0,none⟩) 0 0):=by
 obtain⟨i0,hi,hz0,hz1,hz2⟩:=info_parts E.info;obtain⟨⟨ax,c,rfl,hnone,hcells⟩,hb⟩:=hv
 by_cases hq:l=[]
 ·subst hq;refine⟨_,w,?_,h0,zc.refl w,fun _=>rfl⟩
  cases ax with
  | none=>simp[Builtin.append_,run_underlying E.und,sizeOf,typeInfo,hi,Builtin.lenOf,Builtin.firstCells,storeCells]
  | some x=>simp[Builtin.append_,run_underlying E.und,sizeOf,typeInfo,hi,Builtin.lenOf,Builtin.firstCells,loadCells,loadCellsFrom,storeCells]
 cases ax with
 | none=>exact absurd (hnone rfl) hq
 | some ad=>
  have hpos:0<l.length:=List.length_pos_iff.2 hq;have h2:l.length*1<=l.length*E.bytes:=Nat.mul_le_mul_left _ (nT E.pos E.few);obtain⟨v',w',hr,ho,hg⟩:=run_append_arg_grows (P:=Tryz.prog) w E.st ty E.ty i0 _ E.k E.bytes E.und hi hz0 hz1 hz2 (zin E) E.pos ⟨g,0,none⟩ 0 0 [] (by simp) (fun j u hj=>by simp at hj) ad l.length c (l.flatMap E.enc) (jR E l) (hcells ad rfl) (by omega) (qz (by omega)) (by simpa using hb)
  refine⟨v',w',hr,⟨qE (by simpa using ho) hbase,hb⟩,⟨hg.os,hg.tape,hg.output,hg.size,fun k hk=>hg.block k hk (by simp)⟩,fun h=>absurd h hq⟩
theorem qe {w:World} {base:Nat} {v:Value} {l0:List α} (ty:TypeId) (h0:zb E base w v l0) (vx:Value) (l:List α) (hv:zo E w vx l) (hb:(l0.length+l.length)*E.bytes<=140737488355328) (hbase:base<=w.heap.size):
  ∃v' w',(Builtin.append_ #[E.st,E.st] ty #[v,vx]).run Tryz.prog w= .ok v' w'/\zb E base w' v' (l0++l)/\w.grownBy w' v.ownBlock/\∀u m,m.length<=l0.length->zb E base w u m->zb E base w' u m:=by
 obtain⟨i0,hi,hz0,hz1,hz2⟩:=info_parts E.info;obtain⟨⟨ax,c,rfl,hnone,hcells⟩,hby⟩:=hv;have h2:(l0.length+l.length)*1<=(l0.length+l.length)*E.bytes:=Nat.mul_le_mul_left _ (nT E.pos E.few)
 cases ax with
 | none=>
  have hps:=hnone rfl;subst hps;exact⟨v,w,Q8 ty h0 c,by simpa using h0,World.grownBy.rfl' _ _,fun u m _ h=>h⟩
 | some ad=>
  rcases h0.1.2 with⟨rfl,hn0⟩ | ⟨g,cap,cur,rfl,hgb,hgc,hnc,hcm,hcs,hct⟩
  ·obtain⟨v',w',hr,ho,hg,_⟩:=run_append_own (P:=Tryz.prog) w base E.st ty E.ty i0 _ E.k E.bytes E.und hi hz0 hz1 hz2 (zin E) E.pos _ l0.length _ h0.1 ad l.length c (l.flatMap E.enc) (jR E l) (hcells ad rfl) (qX E.one l) (qz (by omega)) hb hbase
   refine⟨v',w',hr,⟨by rw[lA,List.flatMap_append];exact ho,by rw[lA];exact hb⟩,hg,fun u m _ h=>h.grown hg (fun g' _ e=>by cases e)⟩
  by_cases hroom:l0.length+l.length<=cap
  ·obtain⟨w',hr,ho,hg⟩:=run_append_fits (P:=Tryz.prog) w base E.st ty E.ty i0 E.k E.und hi hz1 g l0.length cap _ h0.1 ad l.length c (l.flatMap E.enc) (jR E l) (hcells ad rfl) (qX E.one l) hroom;refine⟨_,w',hr,⟨by rw[lA,List.flatMap_append];exact ho,by rw[lA];exact hb⟩,hg,fun u m hm h=>?_⟩
   by_cases he:u.ownBlock=some g
   ·rcases h.1.2 with⟨rfl,_⟩ | ⟨g',cap',cur',rfl,k1,k2,k3,k4,k5,k6⟩
    ·cases he
    simp only[Value.ownBlock,Option.some.injEq]at he;subst he;rw[hgc]at k2;simp only[Option.some.injEq,Obj.cells.injEq,and_true]at k2;obtain rfl:=k2;have hcc:cap'=cap:=Nat.eq_of_mul_eq_mul_right E.pos (k5.symm.trans hcs);subst hcc
    rcases ho.2 with⟨hx,_⟩ | ⟨g2,cap2,cur2,e1,_,e3,e4,e5,e6,e7⟩
    ·cases hx
    cases e1;refine⟨⟨h.1.1,.inr ⟨g',cap',cur2,rfl,k1,e3,k3,k4,e6,?_⟩⟩,h.2⟩;have hle:m.length*E.k<=l0.length*E.k:=Nat.mul_le_mul_right _ hm;have hl0:(l0.flatMap E.enc).length=l0.length*E.k:=jR E l0;have ht:cur2.toList.take (m.length*E.k)=(cur2.toList.take ((l0.length+l.length)*E.k)).take (m.length*E.k):=by
     rw[List.take_take,Nat.min_eq_left (by rw[Nat.add_mul];omega)]
    rw[ht,e7,List.take_append_of_le_length (by rw[hl0];exact hle),<-hct,List.take_take,Nat.min_eq_left hle]
    exact k6
   exact h.grown hg (fun g' hg' e=>by cases e;exact he hg')
  obtain⟨v',w',hr,ho,hg⟩:=run_append_arg_grows (P:=Tryz.prog) w E.st ty E.ty i0 _ E.k E.bytes E.und hi hz0 hz1 hz2 (zin E) E.pos ⟨g,0,none⟩ l0.length cap (l0.flatMap E.enc) (jR E l0) (h0.1.cells rfl) ad l.length c (l.flatMap E.enc) (jR E l) (hcells ad rfl) (by omega) (qz (by omega)) hb
  refine⟨v',w',hr,⟨by rw[lA,List.flatMap_append];exact qE ho hbase,by rw[lA];exact hb⟩,⟨hg.os,hg.tape,hg.output,hg.size,fun k hk _=>hg.block k hk (by simp)⟩,fun u m _ h=>h.grown hg (fun g' _ e=>by cases e)⟩
end
def pgc (p:List Int):List Value:=p.map (Value.int .u8)
def ptc (q:Int × List Int):List Value:= .int .i64 q.1 :: pgc q.2
theorem Ja (p:List Int):(pgc p).length=p.length:=by simp[pgc]
theorem zeX (q:Int × List Int):(ptc q).length=q.2.length+1:=by simp[ptc,pgc]
theorem Qx (p:List Int):∀u∈pgc p,u.oneCell'=true:=fun u hu=>by
 obtain⟨x,_,rfl⟩:=List.mem_map.1 hu;rfl
theorem zhf (q:Int × List Int):∀u∈ptc q,u.oneCell'=true:=fun u hu=>by
 rcases mC.1 hu with rfl | h
 ·rfl
 exact Qx _ u h
def qt (w:World) (v:Value) (ps:List (List Int)):Prop:=ji pgc w v ps/\(∀p∈ps,p.length=8)/\ps.length*8<=140737488355328
def qK (w:World) (v:Value) (qs:List (Int × List Int)):Prop:=ji ptc w v qs/\(∀q∈qs,q.2.length=8)/\qs.length*16<=140737488355328
theorem qt.grew {w w':World} {v:Value} {ps:List (List Int)} (h:qt w v ps) (hg:zc w w'):qt w' v ps:=⟨h.1.grew hg,h.2⟩
theorem qK.grew {w w':World} {v:Value} {qs:List (Int × List Int)} (h:qK w v qs) (hg:zc w w'):qK w' v qs:=⟨h.1.grew hg,h.2⟩
def zj (base:Nat) (w:World) (v:Value) (ps:List (List Int)):Prop:=w.ownsRow base 67 8 v ps.length (ps.flatMap pgc)/\(∀p∈ps,p.length=8)/\ps.length*8<=140737488355328
def zT (base:Nat) (w:World) (v:Value) (qs:List (Int × List Int)):Prop:=w.ownsRow base 103 9 v qs.length (qs.flatMap ptc)/\(∀q∈qs,q.2.length=8)/\qs.length*16<=140737488355328
theorem zj.at {base:Nat} {w:World} {v:Value} {ps:List (List Int)} (h:zj base w v ps):qt w v ps:=⟨jG h.1,h.2⟩
theorem zT.at {base:Nat} {w:World} {v:Value} {qs:List (Int × List Int)} (h:zT base w v qs):qK w v qs:=⟨jG h.1,h.2⟩
def ZD (w:World) (d:Value) (ps:List (List Int)) (qs:List (Int × List Int)):Prop:=∃b q,d= .agg #[b,q]/\qt w b ps/\qK w q qs
theorem ZD.grew {w w':World} {d:Value} {ps:List (List Int)} {qs:List (Int × List Int)} (h:ZD w d ps qs) (hg:zc w w'):ZD w' d ps qs:=by
 obtain⟨b,q,h1,h2,h3⟩:=h;exact⟨b,q,h1,h2.grew hg,h3.grew hg⟩
theorem ziZ (l:List Int) (h:l.length=8):∃c0 c1 c2 c3 c4 c5 c6 c7,l=[c0,c1,c2,c3,c4,c5,c6,c7]:=by
 match l,h with
 | [c0,c1,c2,c3,c4,c5,c6,c7],_=>exact⟨c0,c1,c2,c3,c4,c5,c6,c7,rfl⟩
def zf6 (W:World) (y:Addr) (m b0 b1 b2 b3 b4 b5 b6 b7:Int):Prop:=
 W.cell? y=some (.int .i64 m)/\W.cell? { block:=y.block,off:=y.off+1 }=some (.int .u8 b0)/\W.cell? { block:=y.block,off:=y.off+2 }=some (.int .u8 b1)/\W.cell? { block:=y.block,off:=y.off+3 }=some (.int .u8 b2)/\
 W.cell? { block:=y.block,off:=y.off+4 }=some (.int .u8 b3)/\W.cell? { block:=y.block,off:=y.off+5 }=some (.int .u8 b4)/\W.cell? { block:=y.block,off:=y.off+6 }=some (.int .u8 b5)/\W.cell? { block:=y.block,off:=y.off+7 }=some (.int .u8 b6)/\W.cell? { block:=y.block,off:=y.off+8 }=some (.int .u8 b7)
def zbW (W:World) (y:Addr) (b0 b1 b2 b3 b4 b5 b6 b7:Int):Prop:=
 W.cell? y=some (.int .u8 b0)/\W.cell? { block:=y.block,off:=y.off+1 }=some (.int .u8 b1)/\W.cell? { block:=y.block,off:=y.off+2 }=some (.int .u8 b2)/\W.cell? { block:=y.block,off:=y.off+3 }=some (.int .u8 b3)/\
 W.cell? { block:=y.block,off:=y.off+4 }=some (.int .u8 b4)/\W.cell? { block:=y.block,off:=y.off+5 }=some (.int .u8 b5)/\W.cell? { block:=y.block,off:=y.off+6 }=some (.int .u8 b6)/\W.cell? { block:=y.block,off:=y.off+7 }=some (.int .u8 b7)
theorem jr.put {W:World} {y:Addr} {m b0 b1 b2 b3 b4 b5 b6 b7:Int} (h:jr W y (ptc (m,[b0,b1,b2,b3,b4,b5,b6,b7]))):zf6 W y m b0 b1 b2 b3 b4 b5 b6 b7:=
 ⟨h 0 _ rfl,h 1 _ rfl,h 2 _ rfl,h 3 _ rfl,h 4 _ rfl,h 5 _ rfl,h 6 _ rfl,h 7 _ rfl,h 8 _ rfl⟩
theorem jr.page {W:World} {y:Addr} {b0 b1 b2 b3 b4 b5 b6 b7:Int} (h:jr W y (pgc [b0,b1,b2,b3,b4,b5,b6,b7])):zbW W y b0 b1 b2 b3 b4 b5 b6 b7:=
 ⟨h 0 _ rfl,h 1 _ rfl,h 2 _ rfl,h 3 _ rfl,h 4 _ rfl,h 5 _ rfl,h 6 _ rfl,h 7 _ rfl⟩
def ZA (w:World) (a:Option Addr) (qs:List (Int × List Int)):Prop:=
 ∀(j:Nat) q,qs[j]? =some q->∃x m b0 b1 b2 b3 b4 b5 b6 b7,a=some x/\q=(m,[b0,b1,b2,b3,b4,b5,b6,b7])/\∀W,zc w W->zf6 W (x.add (j*9)) m b0 b1 b2 b3 b4 b5 b6 b7
def JA (w:World) (a:Option Addr) (ps:List (List Int)):Prop:=
 ∀(j:Nat) p,ps[j]? =some p->∃x b0 b1 b2 b3 b4 b5 b6 b7,a=some x/\p=[b0,b1,b2,b3,b4,b5,b6,b7]/\∀W,zc w W->zbW W (x.add (j*8)) b0 b1 b2 b3 b4 b5 b6 b7
theorem qK.rows {w:World} {v:Value} {qs:List (Int × List Int)} (h:qK w v qs):∃a c,v= .slice a qs.length c/\ZA w a qs:=by
 obtain⟨⟨a,c,h1,h2,h3⟩,h4,_⟩:=h;refine⟨a,c,h1,fun j q hj=>?_⟩
 have hm:q∈qs:=mG hj;obtain⟨m,l⟩:=q;obtain⟨b0,b1,b2,b3,b4,b5,b6,b7,rfl⟩:=ziZ l (h4 _ hm)
 cases a with
 | none=>rw[h2 rfl]at hm;cases hm
 | some x=>exact⟨x,m,b0,b1,b2,b3,b4,b5,b6,b7,rfl,rfl,fun W hW=>(((h3 x rfl).grew hW).elem (k:=9) (fun b hb=>by rw[zeX,h4 b hb]) hj).put⟩
theorem qt.rows {w:World} {v:Value} {ps:List (List Int)} (h:qt w v ps):∃a c,v= .slice a ps.length c/\JA w a ps:=by
 obtain⟨⟨a,c,h1,h2,h3⟩,h4,_⟩:=h;refine⟨a,c,h1,fun j q hj=>?_⟩
 have hm:q∈ps:=mG hj;obtain⟨b0,b1,b2,b3,b4,b5,b6,b7,rfl⟩:=ziZ q (h4 _ hm)
 cases a with
 | none=>rw[h2 rfl]at hm;cases hm
 | some x=>exact⟨x,b0,b1,b2,b3,b4,b5,b6,b7,rfl,rfl,fun W hW=>(((h3 x rfl).grew hW).elem (k:=8) (fun b hb=>by rw[Ja,h4 b hb]) hj).page⟩
theorem zd9 (a:Option Addr) (n c:Nat) (q:Value) (m:Int) (w:World):
  Calls Tryz.prog 192 #[.agg #[.slice a n c,q],.int .i64 m] w fun e w'=>e= .returned (.bool (jx m n))/\zc w w':=by
 have H:Hid (jx m n=(decide (0<=m) && decide (m<n))):=rfl
 by_cases h0:0<=m
 ·by_cases h1:m<n
  ·go_enter Tryz.func192,Tryz.ntmps192
   go_wp2;go_ret;exact⟨by rw[H.out];simp[*],(bR _ _).alloc (nR _) _⟩
  go_enter Tryz.func192,Tryz.ntmps192
  go_wp2;go_ret;exact⟨by rw[H.out];simp[*],(bR _ _).alloc (nR _) _⟩
 go_enter Tryz.func192,Tryz.ntmps192
 go_wp2;go_ret;exact⟨by rw[H.out];simp;omega,(bR _ _).alloc (nR _) _⟩
theorem zgb (a:Option Addr) (n c:Nat) (qv:Value) (B:Nat) (q:Int × List Int) (hq:q.2.length=8) (w:World) (hc0:w.cell? ⟨B,0,none⟩=some (.slice a n c)) (hc1:w.cell? ⟨B,1,none⟩=some qv):
  Calls Tryz.prog 191 #[.agg (ptc q).toArray,.pointer (some ⟨B,0,none⟩)] w fun e w'=>e= .returned (.bool (!jx q.1 n))/\zc w w':=by
 obtain⟨m,l⟩:=q;obtain⟨b0,b1,b2,b3,b4,b5,b6,b7,rfl⟩:=ziZ l hq;have hB:=World.block_lt_of_cell? _ _ hc0;have hne:B≠w.heap.size:=by simp at hB;omega
 show Calls Tryz.prog 191 #[.agg #[.int .i64 m,.int .u8 b0,.int .u8 b1,.int .u8 b2,.int .u8 b3,.int .u8 b4,.int .u8 b5,.int .u8 b6,.int .u8 b7],.pointer (some ⟨B,0,none⟩)] w _
 go_enter Tryz.func191,Tryz.ntmps191
 go_wp2_with (go_at_call 192;refine(zd9 _ _ _ _ _ _).mono ?_;rintro e w' ⟨rfl,hg⟩)
 go_ret;exact⟨rfl,zc.trans ((bR _ _).alloc (nR _) _) hg⟩
def zk7 (p:Int × List Int->Bool) (qs:List (Int × List Int)) (r:Int):Prop:=
 (r=-1/\∀(j:Nat) q,qs[j]? =some q->p q=false)\/∃(k:Nat) (q:Int × List Int),r=(k:Int)/\qs[k]? =some q/\p q=true/\∀(j:Nat) q',j<k->qs[j]? =some q'->p q'=false
def zf7 (g:Nat) (lb:Array Value) (p:Int × List Int->Bool) (w:World):Prop:=
 ∀W q,zc w W->q.2.length=8->Calls Tryz.prog g (#[.agg (ptc q).toArray]++lb) W fun e W'=>e= .returned (.bool (p q))/\zc W W'
theorem zdc (p:Int × List Int->Bool) (g:Nat) (lb:Array Value) (eg:∀args w,(callFunc g args).run Tryz.prog w= .ok (.enter g args) w) (v:Value) (qs:List (Int × List Int)) (w:World) (hv:qK w v qs) (hp:zf7 g lb p w):
  Calls Tryz.prog 219 #[v,.func (.func g) #[] lb] w fun e w'=>∃r:Int,e= .returned (.int .i64 r)/\zc w w'/\zk7 p qs r:=by
 obtain⟨a,c,rfl,hrow⟩:=hv.rows;have hbig:qs.length<=9223372036854775807:=by have:=hv.2.2;omega
 have HR:Hid (ZA w a qs):=hrow;have HP:Hid (zf7 g lb p w):=hp;clear hrow hp hv;obtain⟨n,hn⟩:∃n,qs.length=n:=⟨_,rfl⟩;have HN:Hid (qs.length=n):=hn;rw[hn]at hbig⊢;clear hn
 go_enter Tryz.func219,Tryz.ntmps219
 go_wp2
 go_loopg [5,8] n (fun gg _ s8 wr=>∃kk:Nat,kk<=n/\n - kk<=gg/\s8= .int .i64 kk/\Hid (zc w wr)/\Hid (∀j q,j<kk->qs[j]? =some q->p q=false))
 case atStart=>exact⟨0,nZ _,by omega,rfl,zc.refl w,fun j q hj=>absurd hj (nL _)⟩
 obtain⟨kk,hkk,hg,rfl,BW,A⟩:=hrel
 by_cases hlt:kk<n
 ·have hltz:(kk:Int)< (n:Int):=by omega
  have hkq:kk<qs.length:=by rw[HN.out];exact hlt
  obtain⟨q,HQ⟩:∃q,Hid (qs[kk]? =some q):=⟨_,gE hkq⟩;obtain⟨x,m,b0,b1,b2,b3,b4,b5,b6,b7,rfl,rfl,hl⟩:=HR.out kk q HQ.out;obtain⟨d0,d1,d2,d3,d4,d5,d6,d7,d8⟩:=hl wr BW.out;have hcall:=HP.out wr (m,[b0,b1,b2,b3,b4,b5,b6,b7]) BW.out rfl;clear hl hkq
  cases hq:p (m,[b0,b1,b2,b3,b4,b5,b6,b7])with
  | true=>
   rw[hq]at hcall
   go_wp2_with (go_at_fn g;refine hcall.mono ?_;rintro e w' ⟨rfl,hb'⟩)
   go_ret;exact⟨_,rfl,BW.out.trans hb', .inr ⟨kk,_,rfl,HQ.out,hq,A.out⟩⟩
  | false=>
   rw[hq]at hcall
   go_wp2_with (go_at_fn g;refine hcall.mono ?_;rintro e w' ⟨rfl,hb'⟩)
   go_roundg (n -(kk+1))
   case measure=>omega
   refine⟨kk+1,by omega,by omega,by go_num,BW.out.trans hb',(show Hid _ from fun j q' hj hq'=>?_)⟩
   by_cases e:j=kk
   ·subst e;rw[HQ.out]at hq';cases hq';exact hq
   exact A.out j q' (by omega) hq'
 have hltz:¬(kk:Int)< (n:Int):=by omega
 have:kk=n:=by omega
 subst this;go_wp2;go_ret;refine⟨_,rfl,BW.out,.inl ⟨rfl,fun j q hj=>A.out j q ?_ hj⟩⟩
 have:=(gS.1 hj).1;rw[HN.out]at this;exact this
theorem za2 (p:Int × List Int->Bool) (g:Nat) (lb:Array Value) (eg:∀args w,(callFunc g args).run Tryz.prog w= .ok (.enter g args) w) (v:Value) (qs:List (Int × List Int)) (w:World) (hv:qK w v qs) (hp:zf7 g lb p w):
  Calls Tryz.prog 190 #[v,.func (.func g) #[] lb] w fun e w'=>e= .returned (.bool (qs.any p))/\zc w w':=by
 have hcon:=zdc p g lb eg v qs w hv hp;clear hv hp eg
 go_enter Tryz.func190,Tryz.ntmps190
 go_wp2_with (go_at_call 219;refine hcon.mono ?_;rintro e w' ⟨r,rfl,hg,hr⟩)
 go_ret;have hb:qs.any p=decide (0<=r):=by
  rcases hr with⟨rfl,h⟩ | ⟨k,q,rfl,h1,h2,_⟩
  ·rw[show decide ((0:Int)<=-1)=false from rfl,List.any_eq_false]
   intro q hq;obtain⟨j,hj⟩:=List.getElem?_of_mem hq;rw[h j q hj];simp
  rw[show decide ((0:Int)<=(k:Int))=true from by simp,List.any_eq_true]
  exact⟨q,mG h1,h2⟩
 rw[hb];exact⟨rfl,hg⟩
theorem zeY (a:Option Addr) (n c:Nat) (qv:Value) (B:Nat) (w:World) (hc0:w.cell? ⟨B,0,none⟩=some (.slice a n c)) (hc1:w.cell? ⟨B,1,none⟩=some qv):
  zf7 191 #[.pointer (some ⟨B,0,none⟩)] (fun q=>!jx q.1 n) w:=fun W q hW h8=>by
 have hB:B<w.heap.size:=World.block_lt_of_cell? _ _ hc0;exact zgb a n c qv B q h8 W ((Below.cell hW (p:=⟨B,0,none⟩) hB).trans hc0) ((Below.cell hW (p:=⟨B,1,none⟩) hB).trans hc1)
theorem zbe (a:Option Addr) (n c:Nat) (qv:Value) (qs:List (Int × List Int)) (w:World) (hq:qK w qv qs):
  Calls Tryz.prog 158 #[.agg #[.slice a n c,qv]] w fun e w'=>e= .returned (.int .i64 (zy n qs))/\zc w w':=by
 have HL:Hid (zy n qs=if 80<n then 4 else if 400<qs.length then 4 else if qs.any (fun q=>!jx q.1 n)then 3 else 0):=rfl
 obtain⟨a2,c2,rfl,_⟩:=hq.rows;have hcon:=za2 (fun q=>!jx q.1 n) 191 #[.pointer (some ⟨w.heap.size,0,none⟩)] (enters_of Tryz.func191 (by kernel_rfl) rfl) (.slice a2 qs.length c2) qs (w.alloc (.cells #[.slice a n c,.slice a2 qs.length c2] 34)) (hq.grew (za _ _)) (zeY a n c (.slice a2 qs.length c2) _ _ (by simp) (by simp))
 clear hq;obtain⟨nq,HN⟩:∃nq,Hid (qs.length=nq):=⟨_,rfl⟩;rw[HN.out]at hcon HL⊢;obtain⟨b,HB⟩:∃b,Hid ((qs.any fun q=>!jx q.1 n)=b):=⟨_,rfl⟩
 rw[HB.out]at hcon HL
 by_cases h1:80<n
 ·have h1':(80:Int)< (n:Int):=by omega
  rw[if_pos h1]at HL;clear hcon
  go_enter Tryz.func158,Tryz.ntmps158
  go_wp2;go_ret;exact⟨by rw[HL.out];rfl,za _ _⟩
 have h1':¬(80:Int)< (n:Int):=by omega
 rw[if_neg h1]at HL
 by_cases h2:400<nq
 ·have h2':(400:Int)< (nq:Int):=by omega
  rw[if_pos h2]at HL;clear hcon
  go_enter Tryz.func158,Tryz.ntmps158
  go_wp2;go_ret;exact⟨by rw[HL.out];rfl,za _ _⟩
 have h2':¬(400:Int)< (nq:Int):=by omega
 rw[if_neg h2]at HL
 cases b with
 | true=>
  go_enter Tryz.func158,Tryz.ntmps158
  go_wp2_with (go_at_call 190;refine hcon.mono ?_;rintro e w' ⟨rfl,hg⟩)
  go_ret;exact⟨by rw[HL.out];rfl,(za _ _).trans hg⟩
 | false=>
  go_enter Tryz.func158,Tryz.ntmps158
  go_wp2_with (go_at_call 190;refine hcon.mono ?_;rintro e w' ⟨rfl,hg⟩)
  go_ret;exact⟨by rw[HL.out];rfl,(za _ _).trans hg⟩
theorem zlb:(Tryz.prog.info? 67).map (fun i=>(i.zero,i.size,i.bytes))=some (some (.agg #[.int .u8 0,.int .u8 0,.int .u8 0,.int .u8 0,.int .u8 0,.int .u8 0,.int .u8 0,.int .u8 0]),8,8):=by kernel_rfl
theorem zlc:(Tryz.prog.info? 103).map (fun i=>(i.zero,i.size,i.bytes))=some (some (.agg #[.int .i64 0,.int .u8 0,.int .u8 0,.int .u8 0,.int .u8 0,.int .u8 0,.int .u8 0,.int .u8 0,.int .u8 0]),9,16):=by kernel_rfl
theorem JM (v:Value) (ps:List (List Int)) (w:World) (hv:qt w v ps):
  Calls Tryz.prog 109 #[v] w fun e w'=>∃v',e= .returned v'/\zj w.heap.size w' v' ps/\zc w w':=by
 obtain⟨⟨a,c,rfl,hnone,hcells⟩,h8,hbytes⟩:=hv;have q22:∀(w:World) (a:Option Addr) (n c n' c':Nat),(binOp .eql 31 (.slice a n c) (.slice none n' c')).run Tryz.prog w= .ok (.bool a.isNone) w:=fun w a n c n' c'=>Lib.run_eql_slice_nil w _ _ a n c n' c' Tryz.underlying31
 cases a with
 | none=>
  have hps:=hnone rfl;subst hps;clear hcells hnone h8 hbytes
  go_enter Tryz.func109,Tryz.ntmps109
  go_wp2;go_ret;exact⟨_,rfl,⟨World.ownsRow_nil _ _ _ _,by simp,by simp⟩,zc.refl w⟩
 | some x=>
  have A:=hcells x rfl;have HA:Hid (jr w x (ps.flatMap pgc)):=A;have HB:Hid (ps.length*8<=140737488355328):=hbytes;have H8:Hid (∀p∈ps,p.length=8):=h8;clear A hcells hnone hbytes h8;obtain⟨i0,hi,hz0,hz1,hz2⟩:=info_parts zlb
  go_enter Tryz.func109,Tryz.ntmps109
  go_wp2_with (at_builtin;refine wpList_append_own _ rfl _ _ 31 rfl w.heap.size 67 i0 _ 8 8 Tryz.underlying31 hi hz0 hz1 hz2 rfl (by decide) _ _ _ rfl (World.ownsRow_made w #[] 0 (nR _) (nZ _) (by simp)) x ps.length c (ps.flatMap pgc) rfl ?qc1 ?qc2 ?qc3 ?qc4 ?qc5 ?qc6 ?_)
  case qc1=>exact qI ps fun p hp=>by rw[Ja,H8.out p hp]
  case qc2=>exact HA.out.grew (za _ _)
  case qc3=>exact qX Qx ps
  case qc4=>rw[zA];exact qz (by have:=HB.out;omega)
  case qc5=>rw[zA];exact HB.out
  case qc6=>simp
  intro v' w1 hown hgrow hnil;go_wp2;go_ret;exact⟨v',rfl,⟨by simpa using hown,H8.out,HB.out⟩,((bR _ w).alloc (nR _) _).grown hgrow (by simp) (by intro k hk;simp[Value.ownBlock]at hk;omega)⟩
theorem zdo (v:Value) (qs:List (Int × List Int)) (w:World) (hv:qK w v qs):
  Calls Tryz.prog 110 #[v] w fun e w'=>∃v',e= .returned v'/\zT w.heap.size w' v' qs/\zc w w':=by
 obtain⟨⟨a,c,rfl,hnone,hcells⟩,h8,hbytes⟩:=hv;have q22:∀(w:World) (a:Option Addr) (n c n' c':Nat),(binOp .eql 32 (.slice a n c) (.slice none n' c')).run Tryz.prog w= .ok (.bool a.isNone) w:=fun w a n c n' c'=>Lib.run_eql_slice_nil w _ _ a n c n' c' Tryz.underlying32
 cases a with
 | none=>
  have hps:=hnone rfl;subst hps;clear hcells hnone h8 hbytes
  go_enter Tryz.func110,Tryz.ntmps110
  go_wp2;go_ret;exact⟨_,rfl,⟨World.ownsRow_nil _ _ _ _,by simp,by simp⟩,zc.refl w⟩
 | some x=>
  have A:=hcells x rfl;have HA:Hid (jr w x (qs.flatMap ptc)):=A;have HB:Hid (qs.length*16<=140737488355328):=hbytes;have H8:Hid (∀q∈qs,q.2.length=8):=h8;clear A hcells hnone hbytes h8;obtain⟨i0,hi,hz0,hz1,hz2⟩:=info_parts zlc
  go_enter Tryz.func110,Tryz.ntmps110
  go_wp2_with (at_builtin;refine wpList_append_own _ rfl _ _ 32 rfl w.heap.size 103 i0 _ 9 16 Tryz.underlying32 hi hz0 hz1 hz2 rfl (by decide) _ _ _ rfl (World.ownsRow_made w #[] 0 (nR _) (nZ _) (by simp)) x qs.length c (qs.flatMap ptc) rfl ?qc1 ?qc2 ?qc3 ?qc4 ?qc5 ?qc6 ?_)
  case qc1=>exact qI qs fun p hp=>by rw[zeX,H8.out p hp]
  case qc2=>exact HA.out.grew (za _ _)
  case qc3=>exact qX zhf qs
  case qc4=>rw[zA];exact qz (by have:=HB.out;omega)
  case qc5=>rw[zA];exact HB.out
  case qc6=>simp
  intro v' w1 hown hgrow hnil;go_wp2;go_ret;exact⟨v',rfl,⟨by simpa using hown,H8.out,HB.out⟩,((bR _ w).alloc (nR _) _).grown hgrow (by simp) (by intro k hk;simp[Value.ownBlock]at hk;omega)⟩
end
end Go.Proofs.YtdgccecjbpgmfaaGreat
