import Derived.Orders
import Derived.Below
import Derived.Deep.QuietTactic
import Derived.BigQuiet
import Derived.Test.YtacihbmelcegbaaGreatProg
import Derived.WalkKit
import Derived.Deep.LoopGhost
import Derived.Deep.Slices
import Derived.Laws.AppendOwn
import Derived.Lib.Walk
import Derived.Lib.SliceRun
import Derived.Laws.CopyRow
import Derived.Laws.CopyOwn
import Derived.Laws.MakeOwn
import Derived.Laws.OwnMore
import Derived.Shelf.Abstract
import Derived.WalkSmall
import Derived.Deep.Cut
import Derived.ChangeKeysEq
import Derived.Laws.StructEq
import Derived.ArgAppend
namespace Go.Proofs.YtacihbmelcegbaaGreat
theorem dD{P:Prop}(h:P):Go.RowKit.Hid P:=h
theorem gE{α:Type}{l:List α}{i:Nat}(h:i<l.length):l[i]? =some l[i]:=List.getElem?_eq_getElem h
theorem sB{α:Type}(l:List α)(i:Nat)(a:α):l.toArray.setIfInBounds i a=(l.set i a).toArray:=List.setIfInBounds_toArray l i a
theorem gS{α:Type}{i:Nat}{a:α}{l:List α}:l[i]? =some a<->∃h:i<l.length,l[i]=a:=List.getElem?_eq_some_iff
theorem sZ{α:Type}{x:α}{k:List α}{a:α}:(x::k).set 0 a=a::k:=rfl
theorem sS{α:Type}{x:α}{k:List α}{i:Nat}{a:α}:(x::k).set (i+1) a=x::k.set i a:=rfl
theorem nM{α:Type}{a:α}:¬a∈([]:List α):=List.not_mem_nil
theorem mC{α:Type}{b:α}{l:List α}{a:α}:a∈b::l<->a=b\/a∈l:=List.mem_cons
theorem mG{α:Type}{l:List α}{i:Nat}{a:α}(h:l[i]? =some a):a∈l:=List.mem_of_getElem? h
theorem sF{α:Type}{l:List α}{i:Nat}{a:α}(h:i<l.length):(l.set i a)[i]? =some a:=List.getElem?_set_self h
theorem gD{α:Type}{l:List α}{i:Nat}{a:α}:l.getD i a=l[i]?.getD a:=List.getD_eq_getElem?_getD
theorem sN{α:Type}{l:List α}{i j:Nat}(h:i≠j){a:α}:(l.set i a)[j]? =l[j]?:=List.getElem?_set_ne h
theorem tN(n:Nat):(n:Int).toNat=n:=Int.toNat_natCast n
theorem lR{α:Type}{n:Nat}{a:α}:(List.replicate n a).length=n:=List.length_replicate
theorem pJ{α β:Type}(a:α)(b:β)(c:α)(d:β):((a,b)=(c,d))=(a=c/\b=d):=Prod.mk.injEq a b c d
theorem vJ(a n c d e f):(Value.slice a n c=.slice d e f)=(a=d/\n=e/\c=f):=Value.slice.injEq a n c d e f
theorem eN{α:Type}{l:List α}(h:l.length=0):l=[]:=List.eq_nil_of_length_eq_zero h
theorem aR{α:Type}{k l:List α}{i:Nat}(h:k.length<=i):(k++l)[i]? =l[i-k.length]?:=List.getElem?_append_right h
theorem gN{α:Type}{l:List α}{i:Nat}(h:l.length<=i):l[i]? =none:=List.getElem?_eq_none h
theorem lA{α:Type}{k l:List α}:(k++l).length=k.length+l.length:=List.length_append
theorem aS{α:Type}{i:Nat}{b:α}{k:Array α}:k[i]? =some b<->∃h:i<k.size,k[i]=b:=Array.getElem?_eq_some_iff
theorem bD{B:Nat}{a w:World}(h:Go.RowKit.Below B a w)(n:Nat):Go.RowKit.Below B a (w.drewN n):=Go.below_drewN h n
theorem nT{n m k:Nat}(h:n<=m)(g:m<=k):n<=k:=Nat.le_trans h g
theorem nR(n:Nat):n<=n:=Nat.le_refl n
theorem nZ(n:Nat):0<=n:=Nat.zero_le n
theorem nL(n:Nat):¬n<0:=Nat.not_lt_zero n
theorem mP{α β:Type}{f:α->β}{a:α}{l:List α}:(a::l).map f=f a::l.map f:=rfl
theorem rA{α β:Type}(a:α)(w:World)(f:α->World->Result β):(Result.ok a w).andThen f=f a w:=rfl
theorem zA(n:Nat):0+n=n:=Nat.zero_add n
theorem bR(B:Nat)(w:World):Go.RowKit.Below B w w:=Go.RowKit.Below.refl B w
theorem bS{B:Nat}{w v:World}(h:Go.RowKit.Below B w v):w.heap.size<=v.heap.size:=Go.RowKit.Below.size h
set_option maxRecDepth 100000
set_option maxHeartbeats 4000000
variable{A0 A1 B B0 B1 b base' i id j q:Nat} {Q Q':Exit->Act->World->Prop} {W w':World} {a0 a1 a2 a3 a4 a5 a6 a7:Value} {e t:TypeId} {o oi oj:Oper} {ops:Array Oper} {s:Int} {xs:List Value}
open Go.Proofs.Tryz
section
structure Pg where
 (b0 b1 b2 b3 b4 b5 b6 b7:Int)
structure Fr where
 p:Pg
 r:Int
 u:Bool
 d:Bool
 f:Int
 x:Int
def pg0:Pg:=⟨0,0,0,0,0,0,0,0⟩
def fr0:Fr:=⟨pg0,0,false,false,0,0⟩
def frF:Fr:=⟨pg0,0,false,false,-1,0⟩
def zdM (p q:Pg):Bool:=(p.b0 == q.b0) &&(p.b1 == q.b1) &&(p.b2 == q.b2) &&(p.b3 == q.b3) &&(p.b4 == q.b4) &&(p.b5 == q.b5) &&(p.b6 == q.b6) &&(p.b7 == q.b7)
theorem zbm (p q:Pg):zdM p q=true↔p=q:=by
 obtain⟨a0,a1,a2,a3,a4,a5,a6,a7⟩:=p;obtain⟨c0,c1,c2,c3,c4,c5,c6,c7⟩:=q
 simp[zdM,and_assoc]
def JN (a b:Fr):Bool:=zdM a.p b.p &&(a.r == b.r) &&(a.u == b.u) &&(a.d == b.d) &&(a.f == b.f) &&(a.x == b.x)
theorem zbE (a b:Fr):JN a b=true↔a=b:=by
 obtain⟨p,r,u,d,f,x⟩:=a;obtain⟨p',r',u',d',f',x'⟩:=b
 simp[JN,zbm,and_assoc]
def inB (m n:Int):Bool:=decide (0<=m) && decide (m<n)
def frW (a:Fr):Int:=if(inB a.r 1001 && inB a.x 12)=false then 3 else if(!(a.f == -1) && !inB a.f 5)=true then 3 else if(a.r == 0 && !JN a frF || a.f == -1 && !(a.x == 0))=true then 7 else 0
def zcc:List Fr->Int
 | []=>0
 | a :: l=>if frW a=0 then zcc l else frW a
def Qn (fs:List Fr) (h:Int):Int:=if 40<fs.length then 4 else if zcc fs=0 then(if inB h (max fs.length 1)then 0 else 3)else zcc fs
def zcC (z:Int):Bool:=decide (z<0) || decide (1000<z)
def slW (s:List Int):Int:=if 60<s.length then 4 else if s.any zcC then 3 else 0
def jk (at_:Int) (n:Nat):Bool:=decide (0<=at_) && decide (at_<n)
def zF (n:Nat) (qs:List (Int × List Int)):Int:=if 80<n then 4 else if 400<qs.length then 4 else if qs.any (fun q=>!jk q.1 n)then 3 else 0
def zw (n:Nat) (qs:List (Int × List Int)) (m:Int):Int:=if zF n qs=0 then(if jk m n then 0 else 3)else zF n qs
def zz:List Int:=[0,0,0,0,0,0,0,0]
def Zf (ps:List (List Int)) (qs:List (Int × List Int)) (m:Int):List Int:=
 if zw ps.length qs m=0 then(match qs.reverse.find? (fun q=>q.1 == m)with | some q=>q.2 | none=>ps.getD m.toNat zz)else zz
structure Fl where
 size:Int
 bl:List Int
def Jr (n:Int):Int:=if n<1 then 0 else(n - 1) / 8+1
def QN (cnt:Int) (g:List Int) (b:Int):Int:=if b=-1 then 0 else if 0<=b/\b<cnt then(if g.contains b then 7 else 0)else 3
def Jq (g:List Int) (b:Int):List Int:=if b=-1 then g else b :: g
def blW (cnt:Int):List Int->List Int->Int
 | _,[]=>0
 | g,b :: l=>if QN cnt g b=0 then blW cnt (Jq g b) l else QN cnt g b
def blG (g:List Int) (l:List Int):List Int:=l.foldl Jq g
def flW (cnt:Int) (g:List Int) (f:Fl):Int:=if 0<=f.size/\f.size<=96 then(if(f.bl.length:Int)=Jr f.size then blW cnt g f.bl else 2)else 3
def zee (cnt:Int):List Int->List Fl->Int
 | _,[]=>0
 | g,f :: l=>if flW cnt g f=0 then zee cnt (blG g f.bl) l else flW cnt g f
def stW (fs:List Fl) (cnt:Int):Int:=if fs.length<=5/\0<=cnt/\cnt<=80 then zee cnt [] fs else 4
def zT (fs:List Fl) (b:Int):Bool:=fs.any fun f=>f.bl.contains b
def jW (fs:List Fl) (cnt:Int):List Nat:=(List.range cnt.toNat).filter fun b=>!zT fs (b:Int)
def zlc (l:List Int) (n:Nat):List Int:=l.take n++List.replicate (n - l.length) (-1)
theorem zdj {n:Int} (h0:0<=n) (h1:n<=96):0<=Jr n/\Jr n<=12:=by
 unfold Jr
 split <;> omega
theorem JK (cnt:Int) (g:List Int) (b:Int):
  (b=-1/\QN cnt g b=0/\Jq g b=g)\/
  (b≠-1/\¬(0<=b/\b<cnt)/\QN cnt g b=3)\/
  (∃i:Nat,b=(i:Int)/\b<cnt/\g.contains b=true/\QN cnt g b=7)\/
  (∃i:Nat,b=(i:Int)/\b<cnt/\g.contains b=false/\QN cnt g b=0/\Jq g b=b :: g):=by
 by_cases h1:b=-1
 ·exact .inl ⟨h1,by unfold QN;rw[if_pos h1],by unfold Jq;rw[if_pos h1]⟩
 by_cases h2:0<=b/\b<cnt
 ·obtain⟨i,hi⟩:∃i:Nat,b=(i:Int):=⟨b.toNat,by omega⟩
  cases h3:g.contains b with
  | true=>exact .inr (.inr (.inl ⟨i,hi,h2.2,rfl,by unfold QN;rw[if_neg h1,if_pos h2,if_pos h3]⟩))
  | false=>exact .inr (.inr (.inr ⟨i,hi,h2.2,rfl,by unfold QN;rw[if_neg h1,if_pos h2,if_neg (by rw[h3];decide)],by unfold Jq;rw[if_neg h1]⟩))
 exact .inr (.inl ⟨h1,h2,by unfold QN;rw[if_neg h1,if_neg h2]⟩)
theorem zfe (cnt:Int) (g:List Int) (b:Int):QN cnt g b=0\/QN cnt g b=3\/QN cnt g b=7:=by
 rcases JK cnt g b with⟨_,h,_⟩|⟨_,_,h⟩|⟨_,_,_,_,h⟩|⟨_,_,_,_,h,_⟩ <;> omega
theorem zey (cnt:Int):∀(l g:List Int),blW cnt g l=0\/blW cnt g l=3\/blW cnt g l=7
 | [],g=> .inl rfl
 | b :: l,g=>by
  unfold blW
  split
  ·exact zey cnt l _
  exact zfe cnt g b
theorem zig (cnt:Int) (g:List Int) (f:Fl):0<=flW cnt g f/\flW cnt g f<=7:=by
 have:=zey cnt f.bl g;unfold flW
 split
 ·split <;> omega
 omega
theorem zgQ (cnt:Int):∀(l:List Fl) (g:List Int),0<=zee cnt g l/\zee cnt g l<=7
 | [],g=>by simp[zee]
 | f :: l,g=>by
  unfold zee
  split
  ·exact zgQ cnt l _
  exact zig cnt g f
def jV (l:List Int):List Int:=l.filter (·≠-1)
theorem zc3 (b:Int) (hb:b≠-1):∀(l g:List Int),b∈blG g l↔b∈g\/b∈l
 | [],g=>by simp[blG]
 | c :: l,g=>by
  have ih:=zc3 b hb l (Jq g c);unfold blG at ih⊢;rw[List.foldl_cons,ih];unfold Jq
  split
  ·rename_i h
   simp;constructor
   ·rintro(h|h) <;> simp[h]
   rintro(h1|h1|h1)
   ·exact .inl h1
   ·exact absurd (h1.trans h) hb
   exact .inr h1
  simp;constructor
  ·rintro((h|h) | h) <;> simp[h]
  rintro(h|h|h) <;> simp[h]
theorem za2 (cnt:Int):∀(l g:List Int),blW cnt g l=0↔(∀b∈l,b=-1\/(0<=b/\b<cnt))/\(∀b∈l,b≠-1->b∉g)/\(jV l).Nodup
 | [],g=>by simp[blW,jV]
 | b :: l,g=>by
  unfold blW
  rcases JK cnt g b with⟨h1,h2,h3⟩|⟨h1,h2,h3⟩|⟨i,h1,h2,h3,h4⟩|⟨i,h1,h2,h3,h4,h5⟩
  ·rw[if_pos h2,h3,za2 cnt l g];subst h1
   simp[jV]
  ·rw[if_neg (by omega),h3]
   constructor
   ·intro h;omega
   rintro⟨h,_⟩
   rcases h b (by simp)with h|h
   ·exact absurd h h1
   exact absurd h h2
  ·rw[if_neg (by omega),h4]
   constructor
   ·intro h;omega
   rintro⟨_,h,_⟩;exact absurd (by simpa using h3) (h b (by simp) (by omega))
  rw[if_pos h4,h5,za2 cnt l (b :: g)];have hb:b≠-1:=by omega
  have hg:b∉g:=by simpa using h3
  constructor
  ·rintro⟨k1,k2,k3⟩;refine⟨fun c hc=>?_,fun c hc h=>?_,?_⟩
   ·rcases mC.1 hc with rfl|hc
    ·exact .inr ⟨by omega,h2⟩
    exact k1 c hc
   ·rcases mC.1 hc with rfl|hc
    ·exact hg
    exact fun h'=>k2 c hc h (by simp[h'])
   unfold jV;rw[List.filter_cons_of_pos (by simpa using hb)]
   refine List.nodup_cons.2 ⟨fun h=>?_,k3⟩
   obtain⟨h',_⟩:=List.mem_filter.1 h;exact k2 b h' hb (by simp)
  rintro⟨k1,k2,k3⟩;unfold jV at k3;rw[List.filter_cons_of_pos (by simpa using hb)]at k3
  obtain⟨k4,k5⟩:=List.nodup_cons.1 k3;refine⟨fun c hc=>k1 c (by simp[hc]),fun c hc h h'=>?_,k5⟩
  rcases mC.1 h' with rfl|h'
  ·exact k4 (List.mem_filter.2 ⟨hc,by simpa using hb⟩)
  exact k2 c (by simp[hc]) h h'
def zk8 (cnt:Int) (f:Fl):Prop:=(0<=f.size/\f.size<=96)/\(f.bl.length:Int)=Jr f.size/\∀b∈f.bl,b=-1\/(0<=b/\b<cnt)
def Za (fs:List Fl):List Int:=fs.flatMap fun f=>f.bl
theorem zjM (cnt:Int) (g:List Int) (f:Fl):flW cnt g f=0↔zk8 cnt f/\(∀b∈f.bl,b≠-1->b∉g)/\(jV f.bl).Nodup:=by
 unfold flW zk8;constructor
 ·intro h
  split at h
  ·rename_i h1
   split at h
   ·rename_i h2
    have:=(za2 cnt f.bl g).1 h;exact⟨⟨h1,h2,this.1⟩,this.2⟩
   omega
  omega
 rintro⟨⟨h1,h2,h3⟩,h4⟩;rw[if_pos h1,if_pos h2];exact(za2 cnt f.bl g).2 ⟨h3,h4⟩
theorem zed (cnt:Int):∀(fs:List Fl) (g:List Int),zee cnt g fs=0↔(∀f∈fs,zk8 cnt f)/\(∀b∈Za fs,b≠-1->b∉g)/\(jV (Za fs)).Nodup
 | [],g=>by simp[zee,Za,jV]
 | f :: l,g=>by
  unfold zee;have key:(flW cnt g f=0/\zee cnt (blG g f.bl) l=0)↔(∀f'∈f :: l,zk8 cnt f')/\(∀b∈Za (f :: l),b≠-1->b∉g)/\(jV (Za (f :: l))).Nodup:=by
   rw[zjM,zed cnt l];unfold Za jV;rw[List.flatMap_cons,List.filter_append,List.nodup_append];constructor
   ·rintro⟨⟨h1,h2,h3⟩,h4,h5,h6⟩;refine⟨fun f' hf=>?_,fun b hb hb1=>?_,h3,h6,fun a ha b hb=>?_⟩
    ·rcases mC.1 hf with rfl|hf
     ·exact h1
     exact h4 f' hf
    ·rcases List.mem_append.1 hb with hb|hb
     ·exact h2 b hb hb1
     exact fun h=>h5 b hb hb1 ((zc3 b hb1 _ _).2 (.inl h))
    rintro rfl;obtain⟨ha1,ha2⟩:=List.mem_filter.1 ha;obtain⟨hb1,_⟩:=List.mem_filter.1 hb;have hn:a≠-1:=by simpa using ha2
    exact h5 a hb1 hn ((zc3 a hn _ _).2 (.inr ha1))
   rintro⟨h1,h2,h3,h4,h5⟩;refine⟨⟨h1 f (by simp),fun b hb=>h2 b (List.mem_append.2 (.inl hb)),h3⟩,fun f' hf=>h1 f' (by simp[hf]),fun b hb hb1 h=>?_,h4⟩
   rcases(zc3 b hb1 _ _).1 h with h|h
   ·exact h2 b (List.mem_append.2 (.inr hb)) hb1 h
   exact h5 b (List.mem_filter.2 ⟨h,by simpa using hb1⟩) b (List.mem_filter.2 ⟨hb,by simpa using hb1⟩) rfl
  split
  ·rename_i h
   rw[<-key];exact⟨fun h'=>⟨h,h'⟩,fun h'=>h'.2⟩
  rename_i h
  rw[<-key];exact⟨fun h'=>absurd h' h,fun h'=>absurd h'.1 h⟩
theorem qg (fs:List Fl) (cnt:Int):stW fs cnt=0↔(fs.length<=5/\0<=cnt/\cnt<=80)/\(∀f∈fs,zk8 cnt f)/\(jV (Za fs)).Nodup:=by
 unfold stW
 split
 ·rename_i h
  rw[zed]
  simp[h]
 rename_i h
 simp[h]
theorem ZR (fs:List Fl) (b:Int):zT fs b=true↔b∈Za fs:=by
 simp[zT,Za]
structure En where
 kind:Int
 n:Int
 wr:Bool
def en0:En:=⟨0,0,false⟩
def enS (e:En):Bool:=e.kind != 0
def enW (e:En):Int:=
 if 0<=e.kind/\e.kind<=2 then
  (if 0<=e.n/\e.n<=59/\(e.kind=1->e.n<=39)then
   (if(e.kind=0/\(e.n≠0\/e.wr=true))\/(e.kind=2/\e.wr=true)then 7 else 0)
  else 3)
 else 1
def esW:List En->Int
 | []=>0
 | e :: l=>if enW e=0 then esW l else enW e
def zbS (l:List En):Bool:=l.any enS
def haW (h:List En):Int:=if h.length=0 then 0 else if h.length=8 then(if esW h=0 then(if zbS h=true then 0 else 2)else esW h)else 2
def tbW:List (List En)->Int
 | []=>0
 | h :: t=>if haW h=0 then tbW t else haW h
def zeF (t:List (List En)) (i k:Nat):En:=((t[i]?.getD [])[k]?).getD en0
def zia (t:List (List En)) (n:Int):En:=if 0<=n/\n<64 then zeF t (n.toNat / 8) (n.toNat % 8)else en0
def mk (l:List En):List En:=if zbS l=true then l else []
def zkb (h:List En):List En:=if h.length=0 then List.replicate 8 en0 else h
def qN:List (List En):=List.replicate 8 []
def ZP (l:List En) (i:Nat):List En:=(List.range 8).map fun k=>l[8*i+k]?.getD en0
def Zd (l:List En):List (List En):=(List.range 8).map fun i=>mk (ZP l i)
def ja (t:List (List En)) (f:En->Bool) (m:Nat):List Int:=((List.range m).filter fun n=>enS (zeF t (n / 8) (n % 8)) && f (zeF t (n / 8) (n % 8))).map fun(n:Nat)=>(n:Int)
theorem zab {e:En} (h:enW e=0):(0<=e.kind/\e.kind<=2)/\(0<=e.n/\e.n<=59/\(e.kind=1->e.n<=39))/\¬((e.kind=0/\(e.n≠0\/e.wr=true))\/(e.kind=2/\e.wr=true)):=by
 unfold enW at h
 by_cases h1:0<=e.kind/\e.kind<=2
 ·rw[if_pos h1]at h
  by_cases h2:0<=e.n/\e.n<=59/\(e.kind=1->e.n<=39)
  ·rw[if_pos h2]at h
   by_cases h3:(e.kind=0/\(e.n≠0\/e.wr=true))\/(e.kind=2/\e.wr=true)
   ·rw[if_pos h3]at h;omega
   exact⟨h1,h2,h3⟩
  rw[if_neg h2]at h;omega
 rw[if_neg h1]at h;omega
theorem zbK {e:En} (h1:0<=e.kind/\e.kind<=2) (h2:0<=e.n/\e.n<=59/\(e.kind=1->e.n<=39)) (h3:¬((e.kind=0/\(e.n≠0\/e.wr=true))\/(e.kind=2/\e.wr=true))):enW e=0:=by
 unfold enW;rw[if_pos h1,if_pos h2,if_neg h3]
theorem zkL:enW en0=0:=by decide
theorem zim {e:En} (h:enW e=0) (hs:enS e=false):e=en0:=by
 obtain⟨h1,h2,h3⟩:=zab h;obtain⟨k,n,w⟩:=e
 simp[enS]at hs
 subst hs
 simp at h3
 obtain⟨rfl,h4⟩:=h3;cases w
 ·rfl
 simp at h4
theorem zfY {l:List En}:esW l=0↔∀e∈l,enW e=0:=by
 induction l with
 | nil=>simp[esW]
 | cons e l ih=>
  unfold esW
  by_cases h:enW e=0
  ·rw[if_pos h,ih]
   simp[h]
  rw[if_neg h]
  simp[h]
def zgb (h:List En):Prop:=h=[]\/(h.length=8/\(∀e∈h,enW e=0)/\zbS h=true)
theorem zfR {h:List En}:haW h=0↔zgb h:=by
 unfold haW zgb
 by_cases h0:h.length=0
 ·rw[if_pos h0];have:h=[]:=List.length_eq_zero_iff.1 h0
  simp[this]
 have hn:h≠[]:=fun e=>h0 (by rw[e];rfl)
 rw[if_neg h0]
 by_cases h8:h.length=8
 ·rw[if_pos h8]
  by_cases h1:esW h=0
  ·rw[if_pos h1];have h2:=zfY.1 h1
   by_cases h3:zbS h=true
   ·rw[if_pos h3]
    simp[h8,h3,hn]
    exact h2
   rw[if_neg h3]
   simp[hn,h3]
  rw[if_neg h1];simp only[h1,hn,false_or,false_iff];exact fun h=>h1 (zfY.2 h.2.1)
 rw[if_neg h8]
 simp[hn,h8]
theorem J0 {t:List (List En)}:tbW t=0↔∀h∈t,zgb h:=by
 induction t with
 | nil=>simp[tbW]
 | cons h t ih=>
  unfold tbW
  by_cases h0:haW h=0
  ·rw[if_pos h0,ih]
   simp[zfR.1 h0]
  rw[if_neg h0];simp only[h0,mC,forall_eq_or_imp,false_iff];exact fun hh=>h0 (zfR.2 hh.1)
structure zkW (t:List (List En)):Prop where
 len:t.length=8
 ok:∀h∈t,zgb h
theorem zkW.half {t:List (List En)} (h:zkW t) (i:Nat):zgb (t[i]?.getD []):=by
 cases hq:t[i]? with
 | none=>exact .inl rfl
 | some x=>exact h.ok x (mG hq)
theorem zgb.get {h:List En} (hh:zgb h) (k:Nat):enW (h[k]?.getD en0)=0:=by
 rcases hh with rfl|⟨_,h2,_⟩
 ·exact zkL
 cases hq:h[k]? with
 | none=>exact zkL
 | some x=>exact h2 x (mG hq)
theorem zjE {h:List En} (hh:zgb h):(zkb h).length=8:=by
 unfold zkb
 rcases hh with rfl|⟨h1,_⟩
 ·rfl
 rw[if_neg (by omega)]
 exact h1
theorem zkE (h:List En) (hh:zgb h) {k:Nat} (hk:k<8):(zkb h)[k]? =some (h[k]?.getD en0):=by
 unfold zkb
 rcases hh with rfl|⟨h1,_⟩
 ·rw[if_pos (show([]:List En).length=0 from rfl),List.getElem?_replicate,if_pos hk]
  rfl
 rw[if_neg (by omega),gE (by omega)]
 rfl
theorem zll (l:List En) (hl:∀e∈l,enW e=0) (k:Nat):(mk l)[k]?.getD en0=l[k]?.getD en0:=by
 unfold mk
 by_cases h:zbS l=true
 ·rw[if_pos h]
 rw[if_neg h]
 cases hq:l[k]? with
 | none=>simp
 | some x=>
  have hm:=mG hq;have:enS x=false:=by
   cases hs:enS x with
   | false=>rfl
   | true=>exact absurd (List.any_eq_true.2 ⟨x,hm,hs⟩) h
  simp[zim (hl x hm) this]
theorem zly {l:List En} (h8:l.length=8) (hl:∀e∈l,enW e=0):zgb (mk l):=by
 unfold mk
 by_cases h:zbS l=true
 ·rw[if_pos h];exact .inr ⟨h8,hl,h⟩
 rw[if_neg h];exact .inl rfl
theorem zks {h:List En} (hh:zgb h):mk (zkb h)=h:=by
 unfold mk zkb
 rcases hh with rfl|⟨h1,_,h3⟩
 ·rfl
 rw[if_neg (show¬h.length=0 by omega),if_pos h3]
theorem zg1 {l:List En} {h:List En} (hh:zgb h) (hl:∀k,k<8->l[8*i+k]? =some (h[k]?.getD en0)):ZP l i=zkb h:=by
 apply List.ext_getElem?
 intro k
 by_cases hk:k<8
 ·unfold ZP;rw[List.getElem?_map,List.getElem?_range hk,zkE h hh hk]
  simp[hl k hk]
 rw[gN (by simp[ZP];omega),gN (by rw[zjE hh];omega)]
theorem zgi {l:List En} {t:List (List En)} (h:zkW t) (hl:∀j,j<64->l[j]? =some (zeF t (j / 8) (j % 8))):Zd l=t:=by
 apply List.ext_getElem?
 intro i
 by_cases hi:i<8
 ·unfold Zd;rw[List.getElem?_map,List.getElem?_range hi];obtain⟨x,hx⟩:∃x,t[i]? =some x:=⟨_,gE (by rw[h.len];omega)⟩
  have hh:=h.half i;rw[hx]at hh⊢;simp only[Option.getD_some]at hh;have:ZP l i=zkb x:=zg1 hh (fun k hk=>by
   rw[hl _ (by omega),show(8*i+k) / 8=i by omega,show(8*i+k) % 8=k by omega]
   unfold zeF;rw[hx]
   rfl)
  simp[this,zks hh]
 rw[gN (by simp[Zd];omega),gN (by rw[h.len];omega)]
theorem zaH (t:List (List En)) (f:En->Bool) (m:Nat):ja t f (m+1)=if enS (zeF t (m / 8) (m % 8)) && f (zeF t (m / 8) (m % 8))then ja t f m++ [(m:Int)]else ja t f m:=by
 unfold ja;rw[List.range_succ,List.filter_append,List.map_append]
 split
 ·rename_i h
  simp[h]
 rename_i h
 simp[h]
theorem zbn (t:List (List En)) (f:En->Bool):∀m,(ja t f m).length<=m
 | 0=>by simp[ja]
 | m+1=>by
  rw[zaH];have:=zbn t f m
  split
  ·simp;omega
  omega
structure Ar where
 fr:Int
 tz:Int
 rd:Bool
 wr:Bool
 sh:Bool
 file:Int
 base:Int
structure On where
 is:Bool
 rd:Bool
 wr:Bool
 sh:Bool
 file:Int
 page:Int
def on0:On:=⟨false,false,false,false,0,0⟩
def ar0:Ar:=⟨0,0,false,false,false,0,0⟩
def jq (a:Ar):Prop:=0<=a.fr/\a.fr<a.tz/\a.tz<=64/\-1<=a.file/\a.file<5/\0<=a.base/\(a.file<0->a.base=0/\a.sh=false)/\(0<=a.file->a.base<=12 -(a.tz - a.fr))
def arW (a:Ar):Int:=
 if a.fr<0\/a.tz<=a.fr\/64<a.tz\/a.file< -1\/5<=a.file\/a.base<0 then 3
 else if a.file<0 then(if a.base≠0\/a.sh=true then 7 else 0)
 else if 12 -(a.tz - a.fr)<a.base then 7 else 0
theorem Zu {a:Ar}:arW a=0↔jq a:=by
 unfold arW jq;obtain⟨fr,tz,rd,wr,sh,file,base⟩:=a;simp only;constructor
 ·intro h
  (repeat' split at h) <;> first | omega | skip
  rename_i h1 h2 h3
  cases sh
  ·simp at h3⊢
   omega
  simp at h3
 intro⟨h1,h2,h3,h4,h5,h6,h7,h8⟩;rw[if_neg (by omega)]
 by_cases h9:file<0
 ·rw[if_pos h9,if_neg (by rintro(h | h);exact h (h7 h9).1;rw[(h7 h9).2]at h;cases h)]
 rw[if_neg h9,if_neg (by omega)]
def goB (a b:Ar):Bool:=decide (a.fr=b.tz) &&(a.rd == b.rd) &&(a.wr == b.wr) &&(a.sh == b.sh) && decide (a.file=b.file) && decide (a.base=if 0<=b.file then b.base+(b.tz - b.fr)else b.base)
theorem zbB {a b:Ar}:goB a b=true↔a.fr=b.tz/\a.rd=b.rd/\a.wr=b.wr/\a.sh=b.sh/\a.file=b.file/\a.base=if 0<=b.file then b.base+(b.tz - b.fr)else b.base:=by
 simp[goB,and_assoc]
def zkY (b a:Ar):Prop:=b.tz<=a.fr/\goB a b=false
def ZO:Option Ar->List Ar->Prop
 | _,[]=>True
 | p,a :: l=>jq a/\(∀b,p=some b->zkY b a)/\ZO (some a) l
def ZN (a:Ar) (n:Nat):Bool:=decide (a.fr<=(n:Int)) && decide ((n:Int)<a.tz)
theorem zZ {a:Ar} {n:Nat}:ZN a n=true↔a.fr<=(n:Int)/\(n:Int)<a.tz:=by simp[ZN]
theorem zbR {a:Ar} {n:Nat} (h:¬(a.fr<=(n:Int)/\(n:Int)<a.tz)):ZN a n=false:=by
 cases hb:ZN a n with
 | false=>rfl
 | true=>exact absurd (zZ.1 hb) h
def qG (a:Ar) (n:Nat):On:=⟨true,a.rd,a.wr,a.sh,a.file,if 0<=a.file then a.base+((n:Int) - a.fr)else 0⟩
def zG:List Ar->Nat->On
 | [],_=>on0
 | a :: l,n=>if ZN a n=true then qG a n else zG l n
def Jz (n:Nat) (x:On):Ar:=if x.is=true then⟨n,n+1,x.rd,x.wr,x.sh,x.file,x.page⟩else ar0
theorem ZO.low:∀{l:List Ar} {p:Option Ar} {a:Ar} {n:Nat},ZO p l->p=some a->(n:Int)<a.tz->zG l n=on0
 | [],_,_,_,_,_,_=>rfl
 | b :: l,p,a,n,h,hp,hn=>by
  have h1:=h.2.1 a hp;have h2:=h.1;unfold zkY at h1;unfold jq at h2;unfold zG;rw[if_neg (by rw[zZ];omega)]
  exact h.2.2.low rfl (by omega)
theorem ZO.head {l:List Ar} {p:Option Ar} {a:Ar} {n:Nat} (h:ZO p (a :: l)) (hn:(n:Int)<a.fr):zG (a :: l) n=on0:=by
 have h2:=h.1;unfold jq at h2;unfold zG;rw[if_neg (by rw[zZ];omega)]
 exact h.2.2.low rfl (by omega)
theorem Qs {a:Ar} {l:List Ar} {n:Nat} (h:a.fr<=(n:Int)) (h':(n:Int)<a.tz):zG (a :: l) n=qG a n:=by
 unfold zG;rw[if_pos (by rw[zZ];omega)]
theorem J3 {a:Ar} {l:List Ar} {n:Nat} (h:(n:Int)<a.fr\/a.tz<=(n:Int)):zG (a :: l) n=zG l n:=by
 rw[zG,if_neg (by rw[zZ];omega)]
theorem zfH (a:Ar) (n:Nat):(qG a n).is=true:=rfl
theorem zdR {a:Ar} {n:Nat} (h:qG a n=on0):False:=by
 have:=congrArg On.is h
 simp[on0,qG]at this
theorem ZO.next {l:List Ar} {a b:Ar} {n:Nat} (h:ZO (some a) l) (hn:(n:Int)=a.tz) (hb:zG l n=qG b n):∃c m,l=c :: m/\c.fr=(n:Int)/\qG c n=qG b n/\zkY a c:=by
 cases l with
 | nil=>exact(zdR hb.symm).elim
 | cons c m=>
  have h1:=h.2.1 a rfl;have h3:=h.1;unfold jq at h3
  by_cases h2:(n:Int)<c.fr
  ·rw[h.head h2]at hb;exact(zdR hb.symm).elim
  have:c.fr=(n:Int):=by unfold zkY at h1;omega
  rw[Qs (by omega) (by omega)]at hb
  exact⟨c,m,rfl,this,hb,h1⟩
theorem zfI {a b:Ar} {n:Nat} (h:qG a n=qG b n):a.rd=b.rd/\a.wr=b.wr/\a.sh=b.sh/\a.file=b.file/\(0<=a.file->a.base+((n:Int) - a.fr)=b.base+((n:Int) - b.fr)):=by
 unfold qG at h;simp only[On.mk.injEq,true_and]at h;obtain⟨h1,h2,h3,h4,h5⟩:=h;refine⟨h1,h2,h3,h4,fun h6=>?_⟩
 rw[if_pos h6,if_pos (by omega)]at h5
 exact h5
theorem zke {p:Option Ar} {l m:List Ar} {a b:Ar} (ha:ZO p (a :: l)) (hb:ZO p (b :: m)) (he:∀n:Nat,n<64->zG (a :: l) n=zG (b :: m) n) (hf:a.fr=b.fr) (h1:a.rd=b.rd/\a.wr=b.wr/\a.sh=b.sh/\a.file=b.file/\a.base=b.base):¬a.tz<b.tz:=by
 intro hlt;have h2:=ha.1;have h3:=hb.1;unfold jq at h2 h3;obtain⟨n,hn⟩:∃n:Nat,(n:Int)=a.tz:=⟨a.tz.toNat,by omega⟩
 have h4:=he n (by omega)
 rw[J3 (by omega),Qs (a:=b) (by omega) (by omega)]at h4
 obtain⟨c,k,rfl,h5,h6,h7⟩:=ha.2.2.next hn h4;obtain⟨g1,g2,g3,g4,g5⟩:=zfI h6;have h8:=ha.2.2.1;unfold jq at h8;have:goB c a=true:=by
  rw[zbB];refine⟨by omega,by rw[g1,h1.1],by rw[g2,h1.2.1],by rw[g3,h1.2.2.1],by omega,?_⟩
  split <;> omega
 rw[h7.2]at this;cases this
theorem zfq:∀{l m:List Ar} {p:Option Ar},ZO p l->ZO p m->(∀n:Nat,n<64->zG l n=zG m n)->l=m
 | [],[],_,_,_,_=>rfl
 | [],b :: m,_,_,hm,he=>by
  have h3:=hm.1;unfold jq at h3;have:=he b.fr.toNat (by omega)
  rw[Qs (a:=b) (by omega) (by omega)]at this
  exact(zdR this.symm).elim
 | a :: l,[],_,hl,_,he=>by
  have h3:=hl.1;unfold jq at h3;have:=he a.fr.toNat (by omega)
  rw[Qs (a:=a) (by omega) (by omega)]at this
  exact(zdR this).elim
 | a :: l,b :: m,p,hl,hm,he=>by
  have h2:=hl.1;have h3:=hm.1;unfold jq at h2 h3;have hf:a.fr=b.fr:=by
   rcases Int.lt_trichotomy a.fr b.fr with h|h|h
   ·have:=he a.fr.toNat (by omega)
    rw[Qs (a:=a) (by omega) (by omega),hm.head (by omega)]at this
    exact(zdR this).elim
   ·exact h
   have:=he b.fr.toNat (by omega)
   rw[Qs (a:=b) (by omega) (by omega),hl.head (by omega)]at this
   exact(zdR this.symm).elim
  have h4:=he a.fr.toNat (by omega)
  rw[Qs (a:=a) (by omega) (by omega),Qs (a:=b) (by omega) (by omega)]at h4
  obtain⟨g1,g2,g3,g4,g5⟩:=zfI h4;have hb:a.base=b.base:=by
   rcases Int.lt_or_le a.file 0 with h|h
   ·omega
   have:=g5 h;omega
  have ht:a.tz=b.tz:=by
   have t1:=zke hl hm he hf ⟨g1,g2,g3,g4,hb⟩;have t2:=zke hm hl (fun n hn=>(he n hn).symm) hf.symm ⟨g1.symm,g2.symm,g3.symm,g4.symm,hb.symm⟩
   omega
  have hab:a=b:=by
   obtain⟨_,_,_,_,_,_,_⟩:=a;obtain⟨_,_,_,_,_,_,_⟩:=b;simp only at hf ht g1 g2 g3 g4 hb;subst hf ht g1 g2 g3 g4 hb;rfl
  subst hab;have:l=m:=zfq hl.2.2 hm.2.2 fun n hn=>by
   by_cases h:(n:Int)<a.tz
   ·rw[hl.2.2.low rfl h,hm.2.2.low rfl h]
   have:=he n hn;rw[J3 (by omega),J3 (by omega)]at this
   exact this
  rw[this]
def Q2 (p:Option Ar) (l:List Ar):Option Ar:=match l.getLast? with | some b=>some b | none=>p
theorem zaq (p:Option Ar) (a:Ar) (l:List Ar):Q2 p (a :: l)=Q2 (some a) l:=by
 unfold Q2
 cases l with
 | nil=>simp
 | cons b m=>simp[List.getLast?_cons]
theorem Jd {x:Ar}:∀{l:List Ar} {p:Option Ar},ZO p (l++ [x])↔ZO p l/\jq x/\∀b,Q2 p l=some b->zkY b x
 | [],p=>by simp[ZO,Q2]
 | a :: l,p=>by
  simp only[List.cons_append,ZO,zaq,Jd (l:=l) (p:=some a),and_assoc]
theorem QZ {x:Ar} {n:Nat}:∀{l:List Ar},zG l n=on0\/ZN x n=false->zG (l++ [x]) n=if ZN x n=true then qG x n else zG l n
 | [],_=>by simp[zG]
 | a :: l,h=>by
  simp only[List.cons_append,zG]
  by_cases h1:ZN a n=true
  ·rcases h with h|h
   ·rw[zG,if_pos h1]at h;exact(zdR h).elim
   simp[h1,h]
  rw[if_neg h1,if_neg h1];exact QZ (h.imp (fun h=>by rwa [zG,if_neg h1]at h) id)
theorem J4 {n:Nat}:∀{l:List Ar},(∀a∈l,ZN a n=false)->zG l n=on0
 | [],_=>rfl
 | a :: l,h=>by
  rw[zG,if_neg (by rw[h a (by simp)];simp)]
  exact J4 fun b hb=>h b (by simp[hb])
theorem Qj {n:Nat}:∀{l:List Ar},(zG l n).is=true->∃(i:Nat) (a:Ar),l[i]? =some a/\ZN a n=true/\zG l n=qG a n
 | [],h=>by cases h
 | a :: l,h=>by
  by_cases h1:ZN a n=true
  ·exact⟨0,a,rfl,h1,by rw[zG,if_pos h1]⟩
  rw[zG,if_neg h1]at h;obtain⟨i,b,h2,h3,h4⟩:=Qj h;exact⟨i+1,b,h2,h3,by rw[zG,if_neg h1,h4]⟩
theorem zcZ {n:Nat}:∀{l:List Ar},(zG l n).is=false->zG l n=on0
 | [],_=>rfl
 | a :: l,h=>by
  by_cases h1:ZN a n=true
  ·rw[zG,if_pos h1]at h;cases h
  rw[zG,if_neg h1]at h⊢;exact zcZ h
theorem ZO.all {l:List Ar}:∀{p:Option Ar},ZO p l->∀a∈l,jq a:=by
 induction l with
 | nil=>intro p _ a ha;cases ha
 | cons b l ih=>
  intro p h x hx
  rcases mC.1 hx with e|hx
  ·rw[e];exact h.1
  exact ih h.2.2 _ hx
def zeI (f:Nat->On):Prop:=∀k:Nat,k<64->((f k).is=false->f k=on0)/\((f k).is=true->jq (Jz k (f k)))
theorem Jk {a:Ar} {n:Nat} (h:jq a) (hn:ZN a n=true):jq (Jz n (qG a n)):=by
 have:=zZ.1 hn;unfold jq at h⊢;unfold Jz;rw[if_pos (zfH a n)];unfold qG;refine⟨by simp,by simp;omega,by simp;omega,h.2.2.2.1,h.2.2.2.2.1,?_,fun h1=>⟨?_,(h.2.2.2.2.2.2.1 h1).2⟩,fun h1=>?_⟩
 ·simp only
  split <;> omega
 ·simp only at h1⊢;rw[if_neg (by omega)]
 simp only at h1⊢;rw[if_pos h1];omega
theorem ZO.good {l:List Ar} {p:Option Ar} (h:ZO p l):zeI (zG l):=fun k _=>⟨zcZ,fun h1=>by
 obtain⟨i,a,h2,h3,h4⟩:=Qj h1;rw[h4];exact Jk (h.all a (mG h2)) h3⟩
def J (f:Nat->On) (n:Nat) (acc:List Ar):Prop:=ZO none acc/\(∀a∈acc,a.tz<=(n:Int))/\∀k:Nat,zG acc k=if k<n then f k else on0
theorem J.zero (f:Nat->On):J f 0 []:=⟨trivial,by simp,fun k=>by simp[zG]⟩
theorem J.skip {f:Nat->On} {n:Nat} {acc:List Ar} (h:J f n acc) (h0:f n=on0):J f (n+1) acc:=by
 refine⟨h.1,fun a ha=>by have:=h.2.1 a ha;omega,fun k=>?_⟩
 rw[h.2.2 k]
 by_cases h1:k<n
 ·rw[if_pos h1,if_pos (by omega)]
 rw[if_neg h1]
 by_cases h2:k=n
 ·subst h2;rw[if_pos (by omega),h0]
 rw[if_neg (by omega)]
theorem zj2 (n:Nat) (x:On) (h:x.is=true) (hp:x.file<0->x.page=0):qG (Jz n x) n=x:=by
 unfold Jz;rw[if_pos h];unfold qG;obtain⟨_,_,_,_,_,_⟩:=x;simp only at h hp⊢;subst h;simp only[On.mk.injEq,true_and]
 split
 ·omega
 exact(hp (by omega)).symm
theorem zfu {n k:Nat} {x:On} (h:x.is=true):ZN (Jz n x) k=true↔k=n:=by
 rw[zZ];unfold Jz;rw[if_pos h];simp only;omega
theorem J.new {f:Nat->On} {n:Nat} {acc:List Ar} (h:J f n acc) (hg:zeI f) (hn:n<64) (hs:(f n).is=true) (hl:∀b,acc.getLast? =some b->goB (Jz n (f n)) b=false):J f (n+1) (acc++ [Jz n (f n)]):=by
 have hok:=(hg n hn).2 hs;have hone:qG (Jz n (f n)) n=f n:=zj2 n _ hs fun hf=>by
  unfold jq Jz at hok;rw[if_pos hs]at hok;exact(hok.2.2.2.2.2.2.1 hf).1
 refine⟨Jd.2 ⟨h.1,hok,fun b hb=>?_⟩,fun a ha=>?_,fun k=>?_⟩
 ·have hb':acc.getLast? =some b:=by
   unfold Q2 at hb
   split at hb
   ·rename_i h1;rw[h1];exact hb
   cases hb
  refine⟨?_,hl b hb'⟩;have:=h.2.1 b (List.mem_of_getLast? hb');unfold Jz;rw[if_pos hs];exact this
 ·rcases List.mem_append.1 ha with ha|ha
  ·have:=h.2.1 a ha;omega
  rw[List.mem_singleton]at ha;subst ha;unfold Jz;rw[if_pos hs];simp
 have h1:=h.2.2 k;rw[QZ]
 ·by_cases e:k=n
  ·subst e;rw[if_pos ((zfu hs).2 rfl),if_pos (by omega),hone]
  rw[if_neg (fun h2=>e ((zfu hs).1 h2)),h1]
  by_cases h3:k<n
  ·rw[if_pos h3,if_pos (by omega)]
  rw[if_neg h3,if_neg (by omega)]
 by_cases e:k=n
 ·left;rw[h1,if_neg (by omega)]
 right
 cases h4:ZN (Jz n (f n)) k with
 | false=>rfl
 | true=>exact absurd ((zfu hs).1 h4) e
theorem J.ext {f:Nat->On} {n:Nat} {i:List Ar} {b:Ar} (h:J f n (i++ [b])) (hg:zeI f) (hn:n<64) (hs:(f n).is=true) (hgo:goB (Jz n (f n)) b=true):J f (n+1) (i++ [{ b with tz:=(n:Int)+1 }]):=by
 have hok:=(hg n hn).2 hs;obtain⟨h1,h2,h3⟩:=h;obtain⟨c1,c2,c3⟩:=Jd.1 h1;have hgo':=zbB.1 hgo;unfold Jz at hgo' hok;rw[if_pos hs]at hgo' hok;simp only at hgo';obtain⟨g1,g2,g3,g4,g5,g6⟩:=hgo';have c2':=c2;unfold jq at c2' hok;simp only at hok;have hlow:∀k:Nat,b.fr<=(k:Int)->zG i k=on0:=fun k hk=>by
  refine J4 fun a ha=>zbR ?_
  have:a.tz<=b.fr:=by
   have hstep:∀(l:List Ar) (p:Option Ar),ZO p l->∀x∈l,∀y,Q2 p l=some y->x.tz<=y.tz:=by
    intro l
    induction l with
    | nil=>intro p _ x hx;cases hx
    | cons c m ih=>
     intro p hc x hx y hy;rw[zaq]at hy
     rcases mC.1 hx with rfl|hx
     ·cases m with
      | nil=>simp[Q2]at hy;subst hy;exact Int.le_refl _
      | cons d k'=>
       have q1:=ih (some x) hc.2.2 d (by simp) y hy
       have q2:=hc.2.2.2.1 x rfl;have q3:=hc.2.2.1;unfold zkY at q2;unfold jq at q3;omega
     exact ih (some c) hc.2.2 x hx y hy
   cases hlast:Q2 none i with
   | none=>
    unfold Q2 at hlast
    cases i with
    | nil=>cases ha
    | cons _ _=>simp[List.getLast?_cons]at hlast
   | some y=>
    have q1:=hstep i none c1 a ha y hlast;have q2:=(c3 y hlast).1;omega
  omega
 refine⟨Jd.2 ⟨c1,?_,fun y hy=>?_⟩,fun a ha=>?_,fun k=>?_⟩
 ·unfold jq;simp only;refine⟨by omega,by omega,by omega,by omega,by omega,by omega,fun h=>c2'.2.2.2.2.2.2.1 h,fun h=>?_⟩
  rw[if_pos h]at g6;omega
 ·exact⟨(c3 y hy).1,(c3 y hy).2⟩
 ·rcases List.mem_append.1 ha with ha|ha
  ·have:=h2 a (by simp[ha]);omega
  rw[List.mem_singleton]at ha;subst ha;simp
 have e1:=h3 k;rw[QZ (by
  by_cases hk:b.fr<=(k:Int)
  ·exact .inl (hlow k hk)
  exact .inr (zbR (by omega)))]at e1
 rw[QZ (by
  by_cases hk:b.fr<=(k:Int)
  ·exact .inl (hlow k hk)
  exact .inr (zbR (by simp only;omega)))]
 by_cases hk:k=n
 ·subst hk;rw[if_pos (by rw[zZ];simp only;omega),if_pos (by omega)]
  unfold qG;simp only;have hx:=hok.2.2.2.2.2.2.1
  revert hs g2 g3 g4 g5 g6 hx
  generalize f k=x
  obtain⟨_,_,_,_,_,_⟩:=x;intro hs g2 g3 g4 g5 g6 hx;simp only at hs g2 g3 g4 g5 g6 hx⊢;subst hs g2 g3 g4;simp only[On.mk.injEq,true_and];refine⟨g5.symm,?_⟩
  split
  ·rename_i h;rw[if_pos h]at g6;omega
  exact(hx (by omega)).1.symm
 have e2:ZN { b with tz:=(n:Int)+1 } k=ZN b k:=by
  unfold ZN;simp only
  congr 1
  apply decide_eq_decide.2
  omega
 rw[e2];have e3:qG { b with tz:=(n:Int)+1 } k=qG b k:=rfl;rw[e3,e1]
 by_cases h5:k<n
 ·rw[if_pos h5,if_pos (by omega)]
 rw[if_neg h5,if_neg (by omega)]
def zc6 (f:Nat->On):Nat->List Ar
 | 0=>[]
 | n+1=>
  if(f n).is=true then
   match(zc6 f n).getLast? with
   | some b=>if goB (Jz n (f n)) b=true then(zc6 f n).dropLast++ [{ b with tz:=(n:Int)+1 }]else zc6 f n++ [Jz n (f n)]
   | none=>zc6 f n++ [Jz n (f n)]
  else zc6 f n
theorem zeT {l:List Ar} {b:Ar} (h:l.getLast? =some b):l=l.dropLast++ [b]:=by
 cases l with
 | nil=>cases h
 | cons a m=>
  rw[List.getLast?_eq_some_getLast (List.cons_ne_nil a m)]at h;cases h;exact(List.dropLast_concat_getLast _).symm
theorem zh1 {f:Nat->On} (hg:zeI f):∀n:Nat,n<=64->J f n (zc6 f n)
 | 0,_=>J.zero f
 | n+1,hn=>by
  have ih:=zh1 hg n (by omega)
  unfold zc6
  by_cases hs:(f n).is=true
  ·rw[if_pos hs]
   cases hl:(zc6 f n).getLast? with
   | none=>exact ih.new hg (by omega) hs (fun b hb=>by rw[hl]at hb;cases hb)
   | some b=>
    simp only
    by_cases hgo:goB (Jz n (f n)) b=true
    ·rw[if_pos hgo];rw[zeT hl]at ih;exact ih.ext hg (by omega) hs hgo
    rw[if_neg hgo];refine ih.new hg (by omega) hs (fun c hc=>?_)
    rw[hl]at hc;cases hc
    simpa using hgo
  rw[if_neg hs];exact ih.skip ((hg n (by omega)).1 (by simpa using hs))
def j5 (f:Nat->On):List Ar:=zc6 f 64
theorem zbx {f:Nat->On} (hg:zeI f):J f 64 (j5 f):=zh1 hg 64 (nR _)
theorem J.all {f:Nat->On} {acc:List Ar} (h:J f 64 acc) (hg:zeI f):acc=j5 f:=
 zfq h.1 (zbx hg).1 fun n _=>by rw[h.2.2,(zbx hg).2.2]
theorem zd3 {f:Nat->On} (hg:zeI f):ZO none (j5 f):=(zbx hg).1
theorem zc7 {f:Nat->On} (hg:zeI f) {k:Nat} (hk:k<64):zG (j5 f) k=f k:=by rw[(zbx hg).2.2,if_pos hk]
theorem zfP {f:Nat->On} {l:List Ar} (hg:zeI f) (hl:ZO none l) (he:∀k,k<64->f k=zG l k):j5 f=l:=
 zfq (zd3 hg) hl fun n hn=>by rw[zc7 hg hn,he n hn]
theorem J.len {f:Nat->On} {n:Nat} {acc:List Ar} (h:J f n acc):acc.length<=n:=by
 have key:∀(l:List Ar) (p:Option Ar) (c:Int),ZO p l->(∀b,p=some b->c<=b.tz)->(p=none->c<=0)->(∀a∈l,a.tz<=(n:Int))->c<=n->c+l.length<=n:=by
  intro l
  induction l with
  | nil=>intro p c _ _ _ _ hc;simpa using hc
  | cons a l ih=>
   intro p c hl hp hp0 ha hc;have h1:=hl.1;unfold jq at h1;have h2:c<=a.fr:=by
    cases p with
    | none=>have:=hp0 rfl;omega
    | some b=>have:=hp b rfl;have:=(hl.2.1 b rfl).1;omega
   have h3:=ih (some a) (c+1) hl.2.2 (fun b hb=>by cases hb;omega) (fun hb=>by cases hb) (fun x hx=>ha x (by simp[hx])) (by have:=ha a (by simp);omega)
   rw[List.length_cons];omega
 have:=key acc none 0 h.1 (fun b hb=>by cases hb) (fun _=>by omega) h.2.1 (by omega)
 omega
def goJ (x y:On):Bool:=y.is == x.is && y.rd == x.rd && y.wr == x.wr && y.sh == x.sh && decide (y.file=x.file) && decide ((if 0<=x.file then y.page+1 else y.page)=x.page)
theorem zh8 {x y:On}:goJ x y=true↔y.is=x.is/\y.rd=x.rd/\y.wr=x.wr/\y.sh=x.sh/\y.file=x.file/\(if 0<=x.file then y.page+1 else y.page)=x.page:=by
 simp[goJ,and_assoc]
theorem zc5:∀(l:List Ar) (p:Option Ar),ZO p l->∀x∈l,∀y,Q2 p l=some y->x=y\/x.tz<=y.fr
 | [],_,_,_,hx,_,_=>by cases hx
 | c :: m,p,hc,x,hx,y,hy=>by
  rw[zaq]at hy
  rcases mC.1 hx with e|hx
  ·cases m with
   | nil=>simp[Q2]at hy;left;rw[e,hy]
   | cons d k'=>
    right;have q2:=hc.2.2.2.1 c rfl;have q3:=hc.2.2.1;unfold zkY at q2;unfold jq at q3;rw[e]
    rcases zc5 (d :: k') (some c) hc.2.2 d (by simp) y hy with q1|q1
    ·rw[<-q1];exact q2.1
    omega
  exact zc5 m (some c) hc.2.2 x hx y hy
theorem J.last {f:Nat->On} {n:Nat} {acc:List Ar} (h:J f (n+1) acc) (hs:(f n).is=true):∃b,acc.getLast? =some b/\b.tz=(n:Int)+1/\f n=qG b n/\jq b:=by
 have h1:=h.2.2 n;rw[if_pos (by omega)]at h1
 obtain⟨i,a,h2,h3,h4⟩:=Qj (l:=acc) (n:=n) (by rw[h1];exact hs)
 have h5:=zZ.1 h3;have ha:=mG h2;have h6:=h.2.1 a ha;have hto:a.tz=(n:Int)+1:=by omega
 cases hl:acc.getLast? with
 | none=>rw[List.getLast?_eq_none_iff]at hl;rw[hl]at ha;cases ha
 | some y=>
  have hy:Q2 none acc=some y:=by unfold Q2;rw[hl]
  have hay:a=y:=by
   rcases zc5 acc none h.1 a ha y hy with q|q
   ·exact q
   have q1:=h.1.all y (List.mem_of_getLast? hl);have q2:=h.2.1 y (List.mem_of_getLast? hl);unfold jq at q1;omega
  subst hay;exact⟨a,rfl,hto,by rw[<-h1,h4],h.1.all a ha⟩
theorem J.go {f:Nat->On} {n:Nat} {acc:List Ar} (h:J f (n+1) acc) (hs:(f (n+1)).is=true):(goJ (f (n+1)) (f n)=true->∃b,acc.getLast? =some b/\goB (Jz (n+1) (f (n+1))) b=true)/\(goJ (f (n+1)) (f n)=false->∀b,acc.getLast? =some b->goB (Jz (n+1) (f (n+1))) b=false):=by
 constructor
 ·intro hg;obtain⟨g1,g2,g3,g4,g5,g6⟩:=zh8.1 hg;obtain⟨b,h1,h2,h3,h4⟩:=h.last (by rw[g1];exact hs)
  refine⟨b,h1,zbB.2 ?_⟩;unfold Jz;rw[if_pos hs];rw[h3]at g2 g3 g4 g5 g6;unfold qG at g2 g3 g4 g5 g6;unfold jq at h4;simp only at g2 g3 g4 g5 g6⊢;refine⟨by omega,g2.symm,g3.symm,g4.symm,g5.symm,?_⟩
  rw[<-g5]at g6
  by_cases h7:0<=b.file
  ·rw[if_pos h7,if_pos h7]at g6;rw[if_pos h7];omega
  rw[if_neg h7,if_neg h7]at g6;rw[if_neg h7];omega
 intro hg b hb
 cases hq:goB (Jz (n+1) (f (n+1))) b with
 | false=>rfl
 | true=>
  exfalso;have hq':=zbB.1 hq;unfold Jz at hq';rw[if_pos hs]at hq';simp only at hq';obtain⟨q1,q2,q3,q4,q5,q6⟩:=hq';have hmem:=List.mem_of_getLast? hb;have hbk:=h.1.all b hmem;have hbk':=hbk;unfold jq at hbk';have hin:(f n).is=true:=by
   have e1:=h.2.2 n;rw[if_pos (by omega)]at e1
   cases hz:(f n).is with
   | true=>rfl
   | false=>
    exfalso;have:∀(l:List Ar),b∈l->(zG l n).is=true:=by
     intro l
     induction l with
     | nil=>intro hx;cases hx
     | cons c m ih=>
      intro hx
      by_cases hc:ZN c n=true
      ·rw[zG,if_pos hc];rfl
      rw[zG,if_neg hc]
      rcases mC.1 hx with e|hx
      ·subst e;exact absurd (zZ.2 (by omega)) hc
      exact ih hx
    have:=this acc hmem;rw[e1,hz]at this;cases this
  obtain⟨b',h1,h2,h3,h4⟩:=h.last hin;rw[hb]at h1;cases h1;have:goJ (f (n+1)) (f n)=true:=by
   rw[zh8,h3];unfold qG;simp only;refine⟨hs.symm,q2.symm,q3.symm,q4.symm,q5.symm,?_⟩;rw[q5]
   by_cases h7:0<=b.file
   ·rw[if_pos h7]at q6;rw[if_pos h7,if_pos h7];omega
   rw[if_neg h7]at q6;rw[if_neg h7,if_neg h7];omega
  rw[this]at hg;cases hg
theorem J.first {f:Nat->On} {acc:List Ar} (h:J f 0 acc):acc=[]:=List.length_eq_zero_iff.1 (by have:=h.len;omega)
def Ji:Option Ar->List Ar->Nat->Int × Int
 | _,[],_=>(0,0)
 | p,a :: l,i=>
  if arW a≠0 then(arW a,i)
  else match p with
   | some b=>if a.fr<b.tz\/goB a b=true then(2,i)else Ji (some a) l (i+1)
   | none=>Ji (some a) l (i+1)
def wrL (l:List Ar):Int × Int:=if 16<l.length then(4,0)else Ji none l 0
theorem zbc:∀{l:List Ar} {p:Option Ar} {i:Nat},(Ji p l i).1=0↔ZO p l
 | [],p,i=>by simp[Ji,ZO]
 | a :: l,p,i=>by
  unfold Ji ZO
  by_cases h:arW a=0
  ·rw[if_neg (fun h'=>h' h)]
   cases p with
   | none=>simp[zbc (l:=l),Zu.1 h]
   | some b=>
    simp only
    by_cases h2:a.fr<b.tz\/goB a b=true
    ·rw[if_pos h2];simp only[Option.some.injEq,forall_eq'];constructor
     ·intro h3;exact absurd h3 (by decide)
     rintro⟨_,⟨h3,h4⟩,_⟩
     rcases h2 with h2|h2
     ·omega
     rw[h4]at h2;cases h2
    rw[if_neg h2,zbc];simp only[Option.some.injEq,forall_eq',Zu.1 h,true_and];constructor
    ·intro h3;exact⟨⟨by omega,by cases hq:goB a b with | false=>rfl | true=>exact absurd (.inr hq) h2⟩,h3⟩
    exact fun h3=>h3.2
  rw[if_pos h];constructor
  ·intro h1;exact absurd h1 h
  intro h1;exact absurd (Zu.2 h1.1) h
theorem j2 {l:List Ar}:(wrL l).1=0↔l.length<=16/\ZO none l:=by
 unfold wrL
 by_cases h:16<l.length
 ·rw[if_pos h];constructor
  ·intro h1;exact absurd h1 (by decide)
  intro h1;omega
 rw[if_neg h,zbc];exact⟨fun h1=>⟨by omega,h1⟩,fun h1=>h1.2⟩
def zeD (l:List Ar) (a:Ar):Nat->On:=fun k=>if ZN a k=true then qG a k else zG l k
def zfz (s n:Int) (k:Nat):Bool:=decide (s<=(k:Int)) && decide ((k:Int)<s+n)
theorem zgh {n:Int} {k:Nat}:zfz s n k=true↔s<=(k:Int)/\(k:Int)<s+n:=by simp[zfz]
def zeG (f:Nat->On):List Ar × Int:=if 16< (j5 f).length then([],4)else(j5 f,0)
def ziN (l:List Ar) (s n:Int):Bool:=(List.range 64).any fun k=>zfz s n k &&(zG l k).is
def JR (l:List Ar) (a:Ar):List Ar × Int:=if(wrL l).1≠0 then([],(wrL l).1)else if arW a≠0 then([],arW a)else if ziN l a.fr (a.tz - a.fr)=true then([],6)else zeG (zeD l a)
theorem zjB {l:List Ar} {n:Int}:ziN l s n=true↔∃k:Nat,k<64/\(s<=(k:Int)/\(k:Int)<s+n)/\(zG l k).is=true:=by
 simp[ziN,zfz]
theorem zky {l:List Ar} {n:Int}:ziN l s n=false↔∀k:Nat,k<64->(s<=(k:Int)/\(k:Int)<s+n)->(zG l k).is=false:=by
 simp only[ziN,List.any_eq_false,List.mem_range,Bool.and_eq_true,zgh,not_and,Bool.not_eq_true]
theorem J6 {l:List Ar} {a:Ar} (hl:ZO none l) (ha:jq a):zeI (zeD l a):=fun k hk=>by
 unfold zeD
 by_cases h:ZN a k=true
 ·rw[if_pos h];exact⟨fun h1=>(by cases h1),fun _=>Jk ha h⟩
 rw[if_neg h];exact hl.good k hk
theorem zkK {f:Nat->On} (h:(zeG f).2=0):zeG f=(j5 f,0)/\(j5 f).length<=16:=by
 unfold zeG at h⊢
 by_cases h1:16< (j5 f).length
 ·rw[if_pos h1]at h;exact absurd h (by decide)
 rw[if_neg h1];exact⟨rfl,by omega⟩
theorem zlw {f:Nat->On} (hg:zeI f) (h:(j5 f).length<=16):(wrL (j5 f)).1=0:=j2.2 ⟨h,zd3 hg⟩
theorem ze7 {l:List Ar} {a:Ar} (h:(JR l a).2=0):(wrL l).1=0/\arW a=0/\ziN l a.fr (a.tz - a.fr)=false/\(j5 (zeD l a)).length<=16/\(JR l a).1=j5 (zeD l a):=by
 unfold JR at h⊢
 by_cases h1:(wrL l).1=0
 ·rw[if_neg (fun h'=>h' h1)]at h⊢
  by_cases h2:arW a=0
  ·rw[if_neg (fun h'=>h' h2)]at h⊢
   cases h3:ziN l a.fr (a.tz - a.fr)with
   | true=>rw[h3,if_pos rfl]at h;exact absurd h (by decide)
   | false=>
    rw[h3,if_neg (by decide)]at h
    rw[if_neg (by decide)]
    obtain⟨h4,h5⟩:=zkK h;exact⟨h1,h2,rfl,h5,by rw[h4]⟩
  rw[if_pos h2]at h;exact absurd h h2
 rw[if_pos h1]at h;exact absurd h h1
theorem zla {a b:Ar} (hb:jq b) (ha:jq a) (hf:b.tz<=a.fr):decide ((j5 (zG [b,a])).length<2)=goB a b:=by
 have ha':=ha;have hb':=hb;unfold jq at ha' hb';have hgood:zeI (zG [b,a]):=fun k _=>⟨zcZ,fun h1=>by
  obtain⟨i,c,h2,h3,h4⟩:=Qj h1;rw[h4];have:c=b\/c=a:=by simpa using mG h2
  rcases this with e|e <;> subst e
  ·exact Jk hb h3
  exact Jk ha h3⟩
 cases hg:goB a b with
 | true=>
  obtain⟨g1,g2,g3,g4,g5,g6⟩:=zbB.1 hg;have hc:ZO none [{ b with tz:=a.tz }]:=by
   refine⟨?_,fun x hx=>(by cases hx),trivial⟩
   unfold jq;simp only;refine⟨by omega,by omega,by omega,by omega,by omega,by omega,hb'.2.2.2.2.2.2.1,fun h=>?_⟩
   rw[if_pos h]at g6;omega
  rw[zfP hgood hc fun k hk=>?_]
  ·rfl
  have e3:qG { b with tz:=a.tz } k=qG b k:=rfl;simp only[zG]
  by_cases h1:ZN b k=true
  ·have:=zZ.1 h1;rw[if_pos h1,if_pos (zZ.2 (by simp only;omega)),e3]
  have h1':¬(b.fr<=(k:Int)/\(k:Int)<b.tz):=fun h=>h1 (zZ.2 h)
  rw[if_neg h1]
  by_cases h2:ZN a k=true
  ·have h2':=zZ.1 h2;rw[if_pos h2,if_pos (zZ.2 (by simp only;omega)),e3]
   unfold qG;rw[g2,g3,g4,g5,g6]
   by_cases h7:0<=b.file
   ·rw[if_pos h7,if_pos h7,if_pos h7]
    congr 1
    omega
   rw[if_neg h7,if_neg h7]
  have h2':¬(a.fr<=(k:Int)/\(k:Int)<a.tz):=fun h=>h2 (zZ.2 h)
  rw[if_neg h2,if_neg (fun h=>by have:=zZ.1 h;simp only at this;omega)]
 | false=>
  have hc:ZO none [b,a]:=⟨hb,fun x hx=>(by cases hx),ha,fun x hx=>(by cases hx;exact⟨hf,hg⟩),trivial⟩
  rw[zfP hgood hc fun _ _=>rfl]
  rfl
structure Sp where
 live:Bool
 ars:List Ar
 tb:List (List En)
structure Ca where
 file:Int
 idx:Int
 fr:Int
structure Ma where
 fs:List Fr
 hand:Int
 sl:List Int
 sb:List (List Int)
 sq:List (Int × List Int)
 db:List (List Int)
 dq:List (Int × List Int)
 fl:List Fl
 cnt:Int
 ca:List Ca
 sp:List Sp
def zx:List Int->Int
 | []=>0
 | e :: l=>if e=0 then zx l else e
theorem zH:∀{l:List Int},zx l=0↔∀e∈l,e=0
 | []=>by simp[zx]
 | e :: l=>by
  unfold zx
  by_cases h:e=0
  ·rw[if_pos h,zH]
   simp[h]
  rw[if_neg h]
  simp[h]
def Je (m:Ma):Int:=if(List.range m.db.length).any (fun(b:Nat)=>!zT m.fl (b:Int) && !(m.db.getD b [] == zz))=true then 7 else 0
def QY (m:Ma):Int:=if m.dq.any (fun q=>!zT m.fl q.1)=true then 7 else 0
def spE (s:Sp):Int:=if(wrL s.ars).1≠0 then(wrL s.ars).1 else if tbW s.tb≠0 then tbW s.tb else if(!s.live &&(!s.ars.isEmpty || !s.tb.all (·.isEmpty)))=true then 7 else 0
def zhg (m:Ma):Int:=if m.sl.length≠m.sb.length\/m.cnt≠(m.db.length:Int)then 7 else 0
def zca (m:Ma):Int:=zx [Qn m.fs m.hand,slW m.sl,zF m.sb.length m.sq,zF m.db.length m.dq,stW m.fl m.cnt,zhg m,Je m,QY m,if 4<m.sp.length then 4 else 0,zx (m.sp.map spE)]
def bkN (m:Ma) (file:Int):Int:=((m.fl.getD file.toNat ⟨0,[]⟩).bl.length:Nat)
def zV (m:Ma) (k:Int):Fr:=m.fs.getD k.toNat frF
def jJ (c:Ca):Int:=100*c.file+c.idx
def caE (m:Ma) (p:Option Ca) (c:Ca):Int:=
 if c.file<0\/(m.fl.length:Int)<=c.file\/c.idx<0\/bkN m c.file<=c.idx\/c.fr<0\/(m.fs.length:Int)<=c.fr then 3
 else if(zV m c.fr).r=0\/(zV m c.fr).f≠c.file\/(zV m c.fr).x≠c.idx then 7
 else match p with | some q=>(if jJ c<=jJ q then 2 else 0) | none=>0
def zaT (m:Ma):Option Ca->List Ca->Int
 | _,[]=>0
 | p,c :: l=>if caE m p c=0 then zaT m (some c) l else caE m p c
def zcd (m:Ma) (x:On) (e:En):Int:=
 if x.is=false then 5
 else if e.kind=2 then(if(m.sl.length:Int)<=e.n\/x.sh=true then 7 else 0)
 else if(m.fs.length:Int)<=e.n then 3
 else if(¬(zV m e.n).f=-1/\¬(0<=x.file/\(zV m e.n).f=x.file/\(zV m e.n).x=x.page))\/(x.sh=true/\¬(0<=x.file/\(zV m e.n).f=x.file/\(zV m e.n).x=x.page))\/(e.wr=true/\x.wr=false)\/(e.wr=true/\(0<=x.file/\(zV m e.n).f=x.file/\(zV m e.n).x=x.page)/\x.sh=false)\/(e.wr=true/\(zV m e.n).f=-1/\1< (zV m e.n).r)then 7 else 0
def zN (s:Sp) (n:Nat):En:=zeF s.tb (n / 8) (n % 8)
def zal (m:Ma) (s:Sp):Int:=zx ((List.range 64).map fun n=>if(zN s n).kind=0 then 0 else zcd m (zG s.ars n) (zN s n))
def isE (e:En) (kind k:Int):Bool:=decide (e.kind=kind) && decide (e.n=k)
def QC (f:Nat->En) (kind k:Int):Nat->Nat
 | 0=>0
 | n+1=>QC f kind k n+(isE (f n) kind k).toNat
def jf (T:List (Nat->En)) (kind k:Int):Nat:=(T.map fun f=>QC f kind k 64).sum
def zbz (m:Ma) (kind k:Int):Nat:=jf (m.sp.map zN) kind k
def qm (ca:List Ca) (k:Int):Nat:=ca.countP fun c=>decide (c.fr=k)
def frE (m:Ma) (k:Nat):Int:=if(zV m k).r≠((zbz m 1 k+qm m.ca k:Nat):Int)\/(0<=(zV m k).f/\qm m.ca k=0)then 7 else 0
def zeU (m:Ma) (k:Nat):Int:=if m.sl.getD k 0≠(zbz m 2 k:Int)then 7 else 0
def maW (m:Ma):Int:=zx [zca m,zaT m none m.ca,zx (m.sp.map (zal m)),zx ((List.range m.fs.length).map (frE m)),zx ((List.range m.sl.length).map (zeU m))]
def qu (f:Nat->En) (n:Nat) (e:En):Nat->En:=fun j=>if j=n then e else f j
theorem zix (f:Nat->En) {n:Nat} (e:En) (kind k:Int):∀m:Nat,QC (qu f n e) kind k m+(if n<m then(isE (f n) kind k).toNat else 0)=QC f kind k m+(if n<m then(isE e kind k).toNat else 0)
 | 0=>by simp[QC]
 | m+1=>by
  have ih:=zix f e kind k (n:=n) m;unfold QC
  by_cases h:n=m
  ·subst h;rw[if_neg (Nat.lt_irrefl _),if_neg (Nat.lt_irrefl _)]at ih;rw[if_pos (Nat.lt_succ_self _),if_pos (Nat.lt_succ_self _)];have:qu f n e n=e:=by unfold qu;rw[if_pos rfl]
   rw[this];omega
  have:qu f n e m=f m:=by unfold qu;rw[if_neg (fun h'=>h h'.symm)]
  rw[this]
  by_cases h2:n<m
  ·rw[if_pos h2,if_pos h2]at ih;rw[if_pos (by omega),if_pos (by omega)]
   omega
  rw[if_neg h2,if_neg h2]at ih;rw[if_neg (by omega),if_neg (by omega)]
  omega
theorem Zq:∀{T:List (Nat->En)} {p:Nat} {f:Nat->En} {n:Nat} (e:En) (kind k:Int),T[p]? =some f->n<64->jf (T.set p (qu f n e)) kind k+(isE (f n) kind k).toNat=jf T kind k+(isE e kind k).toNat
 | [],p,f,n,e,kind,k,h,_=>by simp at h
 | g :: T,0,f,n,e,kind,k,h,hn=>by
  simp at h
  subst h;have:=zix g e kind k (n:=n) 64;rw[if_pos hn,if_pos hn]at this;simp only[sZ,jf,mP,List.sum_cons];omega
 | g :: T,p+1,f,n,e,kind,k,h,hn=>by
  have ih:=Zq (T:=T) (p:=p) (f:=f) (n:=n) e kind k (by simpa using h) hn
  simp only[sS,jf,mP,List.sum_cons]at ih⊢;omega
theorem zkf (f:Nat->En) (kind k:Int):∀m:Nat,QC f kind k m<=m
 | 0=>nR _
 | m+1=>by
  have:=zkf f kind k m;unfold QC
  cases isE (f m) kind k <;> simp <;> omega
theorem zbA:∀(T:List (Nat->En)) (kind k:Int),jf T kind k<=64*T.length
 | [],_,_=>by simp[jf]
 | f :: T,kind,k=>by
  have h1:=zkf f kind k 64;have h2:=zbA T kind k;simp only[jf,mP,List.sum_cons,List.length_cons]at h2⊢;omega
theorem jt (kind k:Int) (h:kind≠0):isE en0 kind k=false:=by
 have:¬en0.kind=kind:=fun e=>h e.symm
 simp[isE,this]
theorem zde {T:List (Nat->En)} {p:Nat} {f:Nat->En} {n:Nat} {kind k:Int} (hT:T[p]? =some f) (hn:n<64) (h:isE (f n) kind k=true) (hk:kind≠0):1<=jf T kind k:=by
 have:=Zq en0 kind k hT hn;rw[h,jt kind k hk]at this
 simp at this
 omega
theorem zjz {T:List (Nat->En)} {p:Nat} {f g:Nat->En} {n:Nat} {kind k:Int} (hT:T[p]? =some f) (hn:n<64) (h:isE (f n) kind k=true) (hq:T[q]? =some g) (hj:j<64) (h':isE (g j) kind k=true) (hne:p≠q\/n≠j) (hk:kind≠0):2<=jf T kind k:=by
 have h1:=Zq en0 kind k hT hn;rw[h,jt kind k hk]at h1
 simp at h1
 have hp:=(gS.1 hT).1
 by_cases e:q=p
 ·subst e;rw[hT]at hq;cases hq;have h2:1<=jf (T.set q (qu f n en0)) kind k:=by
   refine zde (p:=q) (f:=qu f n en0) (n:=j) (sF hp) hj ?_ hk;have:j≠n:=fun e=>(hne.resolve_left (fun h=>h rfl)) e.symm
   unfold qu;rw[if_neg this];exact h'
  omega
 have h2:1<=jf (T.set p (qu f n en0)) kind k:=zde (p:=q) (f:=g) (n:=j) (by rw[sN (fun h=>e h.symm)];exact hq) hj h' hk
 omega
theorem zd7 (T:List (Nat->En)) (kind k:Int) (hk:kind≠0):jf (T++ [fun _=>en0]) kind k=jf T kind k:=by
 have:∀m,QC (fun _=>en0) kind k m=0:=by
  intro m
  induction m with
  | zero=>rfl
  | succ m ih=>
   unfold QC;rw[ih,jt kind k hk];rfl
 simp[jf,this]
end
section
open Go.RowKit
def zc (w w':World):Prop:=Below w.heap.size w w'
theorem zc.refl (w:World):zc w w:=bR _ _
theorem zc.trans {a b c:World} (h:zc a b) (k:zc b c):zc a c:=Below.trans h (k.mono h.size)
structure ziP where
 pv:Value->Prop
 post:Value->World->Prop
def zK (P:Program) (o:Oper) (a:Act) (w:World) (K:Value->World->Prop):Prop:=
 match(execOp a.eval o).run P w with
 | .ok (.value v) w'=>K v w'
 | .ok .skip w'=>K undef w'
 | .ok (.enter f args) w'=>Calls P f args w' fun e w''=>∃v,e= .returned v/\K v w''
 | _=>False
theorem zK.wp {P:Program} {a:Act} {w:World} {K:Value->World->Prop} {next:Act->World->Prop}
  (h:zK P o a w K) (hn:∀v w',K v w'->next (a.put o.dst v) w'):o.wp P a w next Q:=by
 unfold zK at h;unfold Oper.wp
 generalize(execOp a.eval o).run P w=r at*
 cases r with
 | ok n w'=>
  cases n <;> simp only[Oper.upon]at h⊢
  case value v=>exact hn _ _ h
  case skip=>exact hn _ _ h
  case enter f args=>exact h.mono fun e w'' ⟨v,he,hk⟩=>by subst he;exact hn _ _ hk
 | halt x w'=>simp only at h
def zaf (ops:Array Oper) (i j:Nat):Bool:=((ops[j]?).map fun o=>o.after.any fun e=>Region.binds .any e && e.on == i).getD false
def anc (ops:Array Oper):Nat->Nat->Nat->Bool
 | 0,_,_=>false
 | f+1,i,j=>zaf ops i j || (List.range j).any fun k=>zaf ops k j && anc ops f i k
def ZV (F:Nat->World->Prop) (k:Nat) (p:World->Prop):Nat->World->Prop:=fun i=>if i=k then p else F i
section
variable(P:Program) (ops:Array Oper) (w0:World) (S:Nat->Option ziP)
def Zn (i:Nat) (F:Nat->World->Prop) (a:Act) (K:(Nat->World->Prop)->Act->Prop):Prop:=
 match ops[i]? with
 | none=>False
 | some o=>
  if Region.wanted o (yielded ops a.tmps)then
   match S i with
   | none=>∃v,(∀w,zc w0 w->(∀m,anc ops 3 m i=true->F m w)->(execOp a.eval o).run P w= .ok (.value v) w)/\K F (a.put o.dst v)
   | some s=>(∀w,zc w0 w->(∀m,anc ops 3 m i=true->F m w)->zK P o a w fun v w'=>zc w w'/\s.pv v/\s.post v w')/\∀v,s.pv v->K (ZV F i (s.post v)) (a.put o.dst v)
  else K F (a.put o.dst undef)
def zga (Q:Act->World->Prop):List Nat->(Nat->World->Prop)->Act->Prop
 | [],F,a=>∀w,zc w0 w->(∀i,F i w)->Q a w
 | i :: l,F,a=>Zn P ops w0 S i F a (zga Q l)
end
section
variable{P:Program} {ops:Array Oper} {w0:World} {S:Nat->Option ziP}
theorem z6 {F:Nat->World->Prop} {k m:Nat} {p:World->Prop} (h:m≠k):ZV F k p m=F m:=by simp[ZV,h]
theorem zd8 {F:Nat->World->Prop} {p q:World->Prop} (h:i≠j):ZV (ZV F i p) j q=ZV (ZV F j q) i p:=by
 funext m
 simp only[ZV]
 by_cases h1:m=j
 ·by_cases h2:m=i
  ·omega
  simp[h1];intro h3;omega
 simp[h1]
theorem Zn.mono {F:Nat->World->Prop} {a:Act} {K K':(Nat->World->Prop)->Act->Prop}
  (h:∀F' a',(∀m,m≠i->F' m=F m)->K F' a'->K' F' a') (hc:Zn P ops w0 S i F a K):Zn P ops w0 S i F a K':=by
 unfold Zn at*
 split
 ·rename_i ho;simp only[ho]at hc
 rename_i o ho
 simp only[ho]at hc
 split
 ·rename_i hw
  simp only[hw,if_true]at hc
  split
  ·rename_i hs
   simp only[hs]at hc;obtain⟨v,h1,h2⟩:=hc;exact⟨v,h1,h _ _ (fun _ _=>rfl) h2⟩
  rename_i s hs
  simp only[hs]at hc;exact⟨hc.1,fun v hv=>h _ _ (fun m hm=>z6 hm) (hc.2 v hv)⟩
 rename_i hw
 simp only[hw]at hc;exact h _ _ (fun _ _=>rfl) hc
theorem Zn.swap {F:Nat->World->Prop} {a:Act} {K:(Nat->World->Prop)->Act->Prop} {w:World}
  (hi:ops[i]? =some oi) (hj:ops[j]? =some oj) (hne:i≠j) (hap:oi.apart ops oj=true)
  (hsi:∀cs b,oi.op≠.select cs b) (hsj:∀cs b,oj.op≠.select cs b)
  (hij:anc ops 3 i j=false) (hji:anc ops 3 j i=false) (hS:∀s,S i=some s->∃v,s.pv v)
  (hw0:zc w0 w) (hF:∀m,anc ops 3 m j=true->F m w)
  (h:Zn P ops w0 S i F a fun F' a'=>Zn P ops w0 S j F' a' K):Zn P ops w0 S j F a fun F' a'=>Zn P ops w0 S i F' a' K:=by
 obtain⟨h1,h2,h3⟩:=Oper.apart_spec hap;have ei:∀v,execOp (a.put oj.dst v).eval oi=execOp a.eval oi:=fun v=>execOp_put oi hsi a oj.dst v h3
 have ej:∀v,execOp (a.put oi.dst v).eval oj=execOp a.eval oj:=fun v=>execOp_put oj hsj a oi.dst v h1
 have wi:∀v,Region.wanted oi (yielded ops (a.put oj.dst v).tmps)=Region.wanted oi (yielded ops a.tmps):=fun v=>wanted_put oi a oj.dst v h3
 have wj:∀v,Region.wanted oj (yielded ops (a.put oi.dst v).tmps)=Region.wanted oj (yielded ops a.tmps):=fun v=>wanted_put oj a oi.dst v h1
 have di:∀v w K,zK P oi (a.put oj.dst v) w K=zK P oi a w K:=fun v w K=>by unfold zK;rw[ei]
 have dj:∀v w K,zK P oj (a.put oi.dst v) w K=zK P oj a w K:=fun v w K=>by unfold zK;rw[ej]
 have pc:∀v u,(a.put oi.dst v).put oj.dst u=(a.put oj.dst u).put oi.dst v:=fun v u=>Act.put_comm a v u h2
 have fi:∀p,(fun m=>anc ops 3 m i=true->ZV F j p m w=F m w)=fun _=>True:=fun p=>by
  funext m
  simp only[eq_iff_iff,iff_true];intro hm;rw[z6 (fun e=>by subst e;rw[hji]at hm;cases hm)]
 have faci:∀p w',(∀m,anc ops 3 m i=true->ZV F j p m w')↔(∀m,anc ops 3 m i=true->F m w'):=fun p w'=>by
  constructor <;> intro hh m hm <;> have:=hh m hm
  ·rwa [z6 (fun e=>by subst e;rw[hji]at hm;cases hm)]at this
  rwa [z6 (fun e=>by subst e;rw[hji]at hm;cases hm)]
 have facj:∀p w',(∀m,anc ops 3 m j=true->ZV F i p m w')↔(∀m,anc ops 3 m j=true->F m w'):=fun p w'=>by
  constructor <;> intro hh m hm <;> have:=hh m hm
  ·rwa [z6 (fun e=>by subst e;rw[hij]at hm;cases hm)]at this
  rwa [z6 (fun e=>by subst e;rw[hij]at hm;cases hm)]
 clear fi;unfold Zn at h⊢;simp only[hi,hj,ei,ej,wi,wj,di,dj,pc]at h⊢
 cases hwi:Region.wanted oi (yielded ops a.tmps) <;> cases hwj:Region.wanted oj (yielded ops a.tmps) <;>
  simp only[hwi,hwj,if_true,if_false,Bool.false_eq_true]at h⊢
 ·exact h
 ·cases hsj':S j with
  | none=>simp only[hsj']at h⊢;exact h
  | some s=>simp only[hsj']at h⊢;exact h
 ·cases hsi':S i with
  | none=>simp only[hsi']at h⊢;exact h
  | some s=>simp only[hsi']at h⊢;exact h
 cases hsi':S i with
 | none=>
  simp only[hsi']at h;obtain⟨vi,hri,h⟩:=h
  cases hsj':S j with
  | none=>
   simp only[hsj']at h⊢;obtain⟨vj,hrj,h⟩:=h;exact⟨vj,hrj,vi,hri,h⟩
  | some s=>
   simp only[hsj']at h⊢;exact⟨h.1,fun vj hvj=>⟨vi,fun w' hw' hf=>hri w' hw' ((faci _ _).1 hf),h.2 vj hvj⟩⟩
 | some si=>
  simp only[hsi']at h;obtain⟨hdi,h⟩:=h;obtain⟨v1,hv1⟩:=hS si hsi'
  cases hsj':S j with
  | none=>
   simp only[hsj']at h⊢;obtain⟨vj,hrj,_⟩:=h v1 hv1;refine⟨vj,fun w' hw' hf=>hrj w' hw' ((facj _ _).2 hf),hdi,fun vi hvi=>?_⟩
   obtain⟨vj',hrj',hl⟩:=h vi hvi;have e1:=hrj w hw0 ((facj _ _).2 hF);have e2:=hrj' w hw0 ((facj _ _).2 hF);rw[e1]at e2;simp only[Result.ok.injEq,Next.value.injEq,and_true]at e2;subst e2;exact hl
  | some sj=>
   simp only[hsj']at h⊢;refine⟨fun w' hw' hf=>(h v1 hv1).1 w' hw' ((facj _ _).2 hf),fun vj hvj=>⟨fun w' hw' hf=>hdi w' hw' ((faci _ _).1 hf),fun vi hvi=>?_⟩⟩
   have:=(h vi hvi).2 vj hvj;rwa [zd8 hne]at this
theorem zga.commute {Q:Act->World->Prop} {j:Nat} {oj:Oper} {w:World} (hj:ops[j]? =some oj) (hw0:zc w0 w)
  (hsel:∀(k:Nat) (o:Oper) cs b,ops[k]? =some o->o.op≠.select cs b) (hS:∀k s,S k=some s->∃v,s.pv v):
  ∀(l:List Nat) (F:Nat->World->Prop) (a:Act),l.Nodup->j∈l->
   (∀i∈l,i≠j->∃oi,ops[i]? =some oi/\(i<j->oi.apart ops oj=true)/\anc ops 3 i j=false/\(i<j->anc ops 3 j i=false))->
   (l.Pairwise (·< ·))->(∀m,anc ops 3 m j=true->F m w)->zga P ops w0 S Q l F a->zga P ops w0 S Q (j :: l.filter (· != j)) F a
 | [],_,_,_,hm,_,_,_,_=>by cases hm
 | i :: l,F,a,hnd,hm,hall,hsorted,hF,h=>by
  by_cases hij:i=j
  ·subst hij;have:(i :: l).filter (· != i)=l:=by
    rw[List.filter_cons];simp only[bne_self_eq_false,Bool.false_eq_true,if_false];refine List.filter_eq_self.2 fun x hx=>?_
    have:x≠i:=fun e=>(List.nodup_cons.1 hnd).1 (e ▸ hx)
    simpa using this
   rw[this];exact h
  have hjl:j∈l:=by
   rcases mC.1 hm with e|e
   ·exact absurd e.symm hij
   exact e
  have hlt:i<j:=(List.pairwise_cons.1 hsorted).1 j hjl;obtain⟨oi,hoi,hap,haij,haji⟩:=hall i (by simp) hij
  have hf:(i :: l).filter (· != j)=i :: l.filter (· != j):=by
   rw[List.filter_cons];have:(i != j)=true:=by simpa using hij
   simp[this]
  rw[hf];refine Zn.swap hoi hj hij (hap hlt) (fun cs b=>hsel i oi cs b hoi) (fun cs b=>hsel j oj cs b hj) haij (haji hlt) (hS i) hw0 hF ?_
  refine Zn.mono (fun F' a' hF' hl=>?_) h
  refine zga.commute hj hw0 hsel hS l F' a' (List.nodup_cons.1 hnd).2 hjl (fun k hk=>hall k (by simp[hk])) (List.pairwise_cons.1 hsorted).2 (fun m hma=>?_) hl
  rw[hF' m (fun e=>by subst e;rw[haij]at hma;cases hma)]
  exact hF m hma
def zkw (ops:Array Oper):Bool:=
 Region.noSelect ops &&(List.range ops.size).all fun j=>match ops[j]? with
  | none=>false
  | some oj=>oj.after.all (fun e=>!Region.binds .any e || decide (e.on<j)) &&(List.range j).all fun i=>zaf ops i j || (match ops[i]? with | some oi=>oi.apart ops oj | none=>false)
def qB (ops:Array Oper) (listed:Array Bool):List Nat:=(List.range ops.size).filter fun i=>listed.getD i true == false
theorem jg (ho:ops[j]? =some o):zaf ops i j=true↔∃e∈o.after,Region.binds .any e=true/\e.on=i:=by
 unfold zaf;rw[ho,Option.map_some,Option.getD_some,Array.any_eq_true'];simp
theorem zbw (hB:zkw ops=true) (hj:ops[j]? =some oj):
  (∀i,zaf ops i j=true->i<j)/\∀i,i<j->zaf ops i j=true\/∃oi,ops[i]? =some oi/\oi.apart ops oj=true:=by
 simp only[zkw,Bool.and_eq_true,List.all_eq_true,List.mem_range]at hB;have h:=hB.2 j (aS.1 hj).1;simp only[hj,Bool.and_eq_true,List.all_eq_true,List.mem_range]at h;refine⟨fun i hi=>?_,fun i hi=>?_⟩
 ·obtain⟨e,he,hb,rfl⟩:=(jg hj).1 hi;have:=Array.all_eq_true_iff_forall_mem.1 h.1 e he
  simpa [hb]using this
 have:=h.2 i hi;rw[Bool.or_eq_true]at this
 rcases this with h1|h1
 ·exact Or.inl h1
 right
 cases ho:ops[i]? with
 | none=>simp[ho]at h1
 | some oi=>simp only[ho]at h1;exact⟨oi,rfl,h1⟩
theorem zbL (h:zaf ops i j=true):∃oj,ops[j]? =some oj:=by
 cases hj:ops[j]? with
 | none=>simp[zaf,hj]at h
 | some oj=>exact⟨oj,rfl⟩
theorem zkh (hB:zkw ops=true):∀(f i j:Nat),anc ops f i j=true->i<j
 | 0,_,_,h=>by simp[anc]at h
 | f+1,i,j,h=>by
  simp only[anc,Bool.or_eq_true,List.any_eq_true,List.mem_range,Bool.and_eq_true]at h
  rcases h with h|⟨k,hk,_,h⟩
  ·obtain⟨oj,hj⟩:=zbL h;exact(zbw hB hj).1 i h
  have:=zkh hB f i k h;omega
def Zm (ops:Array Oper) (listed:Array Bool):Prop:=∀i j,listed.getD j false=true->zaf ops i j=true->listed.getD i false=true
theorem qf {listed:Array Bool} (hc:Zm ops listed):∀(f i j:Nat),(∀k,zaf ops k j=true->listed.getD k false=true)->anc ops f i j=true->listed.getD i false=true
 | 0,_,_,_,h=>by simp[anc]at h
 | f+1,i,j,hj,h=>by
  simp only[anc,Bool.or_eq_true,List.any_eq_true,List.mem_range,Bool.and_eq_true]at h
  rcases h with h|⟨k,_,hkj,h⟩
  ·exact hj i h
  exact qf hc f i k (fun m hm=>hc m k (hj k hkj) hm) h
theorem qz {listed:Array Bool} (h:listed.getD i true=false):listed.getD i false=false:=by
 rcases Nat.lt_or_ge i listed.size with h' | h'
 ·simp[h']at h⊢;exact h
 simp[Array.getElem?_eq_none h']at h
theorem zaE {listed:Array Bool} (hsz:listed.size=ops.size) (hj:j<ops.size):
  qB ops (listed.setIfInBounds j true)=(qB ops listed).filter (· != j):=by
 unfold qB;rw[List.filter_filter];refine List.filter_congr fun i hi=>?_
 by_cases h:j=i
 ·subst h
  simp[hsz,hj]
 rw[getD_set_ne true h];have:(i != j)=true:=by simpa using Ne.symm h
 rw[this,Bool.true_and]
theorem zcM {Q:Act->World->Prop} (hB:zkw ops=true) (hS:∀k s,S k=some s->∃v,s.pv v)
  (hp:∀k s,S k=some s->∀v w w',zc w w'->s.post v w->s.post v w') (hQ:∀a w,Q a w->Q' .normal a w):
  ∀(fuel:Nat) (listed:Array Bool) (F:Nat->World->Prop) (a:Act) (w:World),listed.size=ops.size->(qB ops listed).length=fuel->Zm ops listed->zc w0 w->
   (∀i,F i w)->(∀i w w',zc w w'->F i w->F i w')->zga P ops w0 S Q (qB ops listed) F a->wpAny P .any ops Q' fuel listed a w:=by
 have hsel:=Region.noSelect_spec (ops:=ops) (by simp only[zkw,Bool.and_eq_true]at hB;exact hB.1)
 intro fuel
 induction fuel with
 | zero=>
  intro listed F a w hsz hl hc hw hF hFp h;have hnil:qB ops listed=[]:=eN hl;rw[hnil]at h;refine⟨?_,hQ _ _ (h w hw hF)⟩
  cases hr:Region.ready .any ops listed with
  | nil=>rfl
  | cons x xs=>
   have hx:x∈Region.ready .any ops listed:=by rw[hr];simp
   obtain⟨h0,o,ho,_⟩:=mem_ready.1 hx;have:x∈qB ops listed:=List.mem_filter.2 ⟨List.mem_range.2 (aS.1 ho).1,by simp only[h0,beq_self_eq_true]⟩
   rw[hnil]at this;cases this
 | succ fuel ih=>
  intro listed F a w hsz hl hc hw hF hFp h;refine⟨fun hr=>?_,fun j hj=>?_⟩
  ·exfalso
   cases hu:qB ops listed with
   | nil=>simp[hu]at hl
   | cons x xs=>
    have hx:x∈qB ops listed:=by rw[hu];simp
    have hx':=List.mem_filter.1 hx;have hxs:x<ops.size:=List.mem_range.1 hx'.1;have ho:ops[x]? =some ops[x]:=Array.getElem?_eq_getElem hxs;have hsorted:(qB ops listed).Pairwise (·< ·):=List.Pairwise.filter _ List.pairwise_lt_range;have:x∈Region.ready .any ops listed:=by
     refine mem_ready.2 ⟨by simpa using hx'.2,ops[x],ho,fun e he hb=>?_⟩
     have hed:zaf ops e.on x=true:=(jg ho).2 ⟨e,he,hb,rfl⟩;have hlt:=(zbw hB ho).1 _ hed
     cases hg:listed.getD e.on true with
     | true=>
      have:e.on<listed.size:=by omega
      simp[this]at hg⊢
      exact hg
     | false=>
      have hmem:e.on∈qB ops listed:=List.mem_filter.2 ⟨List.mem_range.2 (by omega),by simp only[hg,beq_self_eq_true]⟩
      rw[hu]at hmem hsorted
      rcases mC.1 hmem with e1|e1
      ·omega
      have:=(List.pairwise_cons.1 hsorted).1 _ e1;omega
    rw[hr]at this;cases this
  obtain⟨h0,oj,hoj,hall⟩:=mem_ready.1 hj;have hjs:j<ops.size:=(aS.1 hoj).1;have hju:j∈qB ops listed:=List.mem_filter.2 ⟨List.mem_range.2 hjs,by simp only[h0,beq_self_eq_true]⟩
  have hdir:∀k,zaf ops k j=true->listed.getD k false=true:=fun k hk=>by
   obtain⟨e,he,hb,rfl⟩:=(jg hoj).1 hk;exact hall e he hb
  have hnd:(qB ops listed).Nodup:=List.Pairwise.filter _ List.nodup_range;have hsorted:(qB ops listed).Pairwise (·< ·):=List.Pairwise.filter _ List.pairwise_lt_range;have hcm:=zga.commute hoj hw hsel hS (qB ops listed) F a hnd hju (fun i hi hij=>by
   have hi':=List.mem_filter.1 hi;have hun:listed.getD i false=false:=qz (by simpa using hi'.2)
   have his:i<ops.size:=List.mem_range.1 hi'.1;have hoi:ops[i]? =some ops[i]:=Array.getElem?_eq_getElem his;refine⟨ops[i],hoi,fun hlt=>?_,?_,fun hlt=>?_⟩
   ·rcases(zbw hB hoj).2 i hlt with he|⟨oi,hoi',hap⟩
    ·have:=hdir i he;rw[hun]at this;cases this
    rw[hoi]at hoi';cases hoi';exact hap
   ·cases ha:anc ops 3 i j with
    | false=>rfl
    | true=>
     have:=qf hc 3 i j hdir ha;rw[hun]at this;cases this
   cases ha:anc ops 3 j i with
   | false=>rfl
   | true=>
    have:=zkh hB 3 j i ha
    omega) hsorted (fun m _=>hF m) h
  have hsz':(listed.setIfInBounds j true).size=ops.size:=by simp[hsz]
  have hlen':(qB ops (listed.setIfInBounds j true)).length=fuel:=by
   rw[zaE hsz hjs];have he:(qB ops listed).filter (· != j)=(qB ops listed).erase j:=by
    rw[List.Nodup.erase_eq_filter hnd]
   rw[he,List.length_erase_of_mem hju];omega
  have hc':Zm ops (listed.setIfInBounds j true):=fun i k hk hik=>by
   by_cases hkj:j=k
   ·subst hkj;exact getD_set_true (hdir i hik)
   rw[getD_set_ne false hkj]at hk;exact getD_set_true (hc i k hk hik)
  unfold wpOp;simp only[hoj];simp only[zga,Zn,hoj]at hcm;rw[<-zaE hsz hjs]at hcm
  split
  ·rename_i hwant
   simp only[hwant,if_true]at hcm;refine .inl ?_
   cases hs:S j with
   | none=>
    simp only[hs]at hcm;obtain⟨v,hrun,hk⟩:=hcm;have hr:=hrun w hw (fun m _=>hF m)
    unfold Oper.wp;rw[hr];exact ih _ F _ w hsz' hlen' hc' hw hF hFp hk
   | some s=>
    simp only[hs]at hcm;refine(hcm.1 w hw (fun m _=>hF m)).wp fun v w' ⟨hg,hpv,hpost⟩=>?_
    refine ih _ (ZV F j (s.post v)) _ w' hsz' hlen' hc' (hw.trans hg) (fun i=>?_) (fun i x y hxy hx=>?_) (hcm.2 v hpv)
    ·unfold ZV
     split
     ·exact hpost
     exact hFp i w w' hg (hF i)
    unfold ZV at*
    split
    ·rename_i he;simp only[he,if_true]at hx;exact hp j s hs v x y hxy hx
    rename_i he;simp only[he,if_false]at hx;exact hFp i x y hxy hx
  rename_i hwant
  simp only[hwant]at hcm;exact ih _ F _ w hsz' hlen' hc' hw hF hFp hcm
theorem zcI {a:Act} {w:World} {l:List Oper} (S:List (Nat × ziP)) (hm:P.follows .mixedOrders=true) (hB:zkw l.toArray=true)
  (hS:∀x∈S,∃v,x.2.pv v) (hp:∀x∈S,∀v w w',zc w w'->x.2.post v w->x.2.post v w')
  (h:zga P l.toArray w (fun k=>S.lookup k) (fun a w=>Q .normal a w) (List.range l.length) (fun _ _=>True) a):(Code.region id l.toArray true).wp P Q a w:=by
 have hlook:∀(S:List (Nat × ziP)) k s,S.lookup k=some s->∃x∈S,x.2=s:=by
  intro S
  induction S with
  | nil=>intro k s h;simp at h
  | cons x S ih=>
   intro k s h;rw[List.lookup_cons]at h
   split at h
   ·exact⟨x,by simp,by simpa using h⟩
   obtain⟨y,hy,he⟩:=ih k s h;exact⟨y,by simp[hy],he⟩
 refine wp_region_any hm ?_;have hu:qB l.toArray (Array.replicate l.toArray.size false)=List.range l.length:=by
  unfold qB;refine(List.filter_eq_self.2 fun i hi=>?_).trans (by simp)
  have:i<l.length:=by simpa using hi
  simp[this]
 refine zcM (w0:=w) (S:=fun k=>S.lookup k) (F:=fun _ _=>True) hB (fun k s hs=>?_) (fun k s hs=>?_) (Q:=fun a w=>Q .normal a w) (fun _ _ h=>h) _ _ a _ (by simp) (by rw[hu];simp) (fun i j hj _=>?_)
  (show Below _ _ _ from(bR _ _).drew) (fun _=>trivial) (fun _ _ _ _ _=>trivial) (by rw[hu];exact h)
 ·obtain⟨x,hx,rfl⟩:=hlook S k s hs;exact hS x hx
 ·obtain⟨x,hx,rfl⟩:=hlook S k s hs;exact hp x hx
 exfalso;rw[Array.getD_eq_getD_getElem?,Array.getElem?_replicate]at hj
 split at hj <;> simp at hj
end
structure zE (w0:World) where
 world:World
 grew:zc w0 world
def zkl (o:Oper):Bool:=
 match o.op with
 | .move _ | .assign _ | .pick .. | .build .. | .load .. | .binOp .. | .unOp .. | .convert .. | .fieldAddr .. | .field .. | .indexAddr .. | .index .. | .extract .. | .slice .. | .lookup ..=>true
 | .call { callee:= .builtin .len,.. } | .call { callee:= .builtin .cap,.. } | .call { callee:= .builtin .max,.. } | .call { callee:= .builtin .min,.. }=>true
 | _=>false
theorem zaj {P:Program} {α:Type} {s:Sem α} {g:α->Value} {w:World} {n:Next}:(s >>= fun v=>pure (Next.value (g v))).run P w= .ok n w'->∃v,n= .value v:=by
 intro h;rw[Sem.run_bind]at h
 cases hs:s.run P w with
 | ok x w1=>simp[hs,Result.andThen,Sem.run_pure]at h;exact⟨_,h.1.symm⟩
 | halt x w1=>simp[hs,Result.andThen]at h
section
variable{P:Program} {ops:Array Oper} {w0:World} {S:Nat->Option ziP} {Q:Act->World->Prop}
variable(P ops w0 S Q)in
def zcK:List Oper->Nat->(Nat->World->Prop)->Act->Prop
 | [],_,F,a=>∀w,zc w0 w->(∀i,F i w)->Q a w
 | o :: rest,k,F,a=>
  if Region.wanted o (yielded ops a.tmps)then
   match S k with
   | none=>∃v,(∀w,zc w0 w->(∀m,anc ops 3 m k=true->F m w)->(execOp a.eval o).run P w= .ok (.value v) w)/\zcK rest (k+1) F (a.put o.dst v)
   | some s=>(∀w,zc w0 w->(∀m,anc ops 3 m k=true->F m w)->zK P o a w fun v w'=>zc w w'/\s.pv v/\s.post v w')/\∀v,s.pv v->zcK rest (k+1) (ZV F k (s.post v)) (a.put o.dst v)
  else zcK rest (k+1) F (a.put o.dst undef)
theorem ZE:∀(l:List Oper) (k:Nat) (F:Nat->World->Prop) (a:Act),(∀j,l[j]? =ops[k+j]?\/l.length<=j)->zcK P ops w0 S Q l k F a->zga P ops w0 S Q (List.range' k l.length) F a
 | [],_,_,_,_,h=>h
 | o :: l,k,F,a,hl,h=>by
  have h0:ops[k]? =some o:=by
   rcases hl 0 with e|e
   ·simpa using e.symm
   simp at e
  have hnext:∀j,l[j]? =ops[k+1+j]?\/l.length<=j:=fun j=>by
   rcases hl (j+1)with e|e
   ·left;rw[List.getElem?_cons_succ]at e;rw[e];congr 1;omega
   right;simpa using e
  simp only[List.length_cons,List.range'_succ,zga,Zn,h0];unfold zcK at h
  split
  ·rename_i hw
   simp only[hw,if_true]at h
   cases hs:S k with
   | none=>
    simp only[hs]at h;obtain⟨v,h1,h2⟩:=h;exact⟨v,h1,ZE l (k+1) _ _ hnext h2⟩
   | some s=>
    simp only[hs]at h;exact⟨h.1,fun v hv=>ZE l (k+1) _ _ hnext (h.2 v hv)⟩
  rename_i hw
  simp only[hw]at h;exact ZE l (k+1) _ _ hnext h
variable(P ops w0 S Q)in
structure zj4 (l:List Oper) (k:Nat) (F:Nat->World->Prop) (a:Act):Prop where
 out:zcK P ops w0 S Q l k F a
theorem Zl {Q:Exit->Act->World->Prop} {a:Act} {w:World} {l:List Oper} (S:List (Nat × ziP)) (hm:P.follows .mixedOrders=true) (hB:zkw l.toArray=true)
  (hS:∀x∈S,∃v,x.2.pv v) (hp:∀x∈S,∀v w w',zc w w'->x.2.post v w->x.2.post v w')
  (h:zj4 P l.toArray w (fun k=>S.lookup k) (fun a w=>Q .normal a w) l 0 (fun _ _=>True) a):(Code.region id l.toArray true).wp P Q a w:=by
 refine zcI S hm hB hS hp ?_;have:=ZE (ops:=l.toArray) l 0 _ a (fun j=>by simp) h.out
 rwa [List.range_eq_range']
variable{o:Oper} {rest:List Oper} {k:Nat} {F:Nat->World->Prop} {a:Act}
theorem Qg (ht:zkl o=true) {ρ:Operand->Value} {w w':World} {n:Next}:(execOp ρ o).run P w= .ok n w'->∃v,n= .value v:=by
 obtain⟨dst,op,type,pos,after,guard⟩:=o
 cases op <;> simp only[zkl,Bool.false_eq_true]at ht <;> simp only[execOp]
 all_goals first
  | exact zaj (g:=id)
  | exact zaj
  | (intro h;simp[Sem.run_pure]at h;exact⟨_,h.1.symm⟩)
  | skip
 rename_i c
 obtain⟨callee,as1,ts⟩:=c
 cases callee with
 | value _=>simp at ht
 | invoke _ _=>simp at ht
 | builtin b=>
  cases b <;> simp only[Bool.false_eq_true]at ht <;> simp only[resolve,pure_bind,invoke,builtin] <;> exact zaj (g:=id)
theorem zn (ht:zkl o=true) (hw:Region.wanted o (yielded ops a.tmps)=true) (hS:S k=none)
  (h:∀K:Act->Prop,(∀a,zj4 P ops w0 S Q rest (k+1) F a->K a)->o.quiet P a (fun w'=>∃x:zE w0,w'=x.world) K):zj4 P ops w0 S Q (o :: rest) k F a:=by
 obtain⟨v,h1,h2⟩:=h _ fun _ h=>h
 constructor;unfold zcK;rw[if_pos hw];simp only[hS];refine⟨v,fun w hg _=>?_,h2.out⟩
 have h3:=h1 w ⟨⟨w,hg⟩,rfl⟩;unfold Oper.quietAt at h3;have hne:=fun n w'=>@Qg P o ht a.eval w w' n
 generalize(execOp a.eval o).run P w=r at*
 cases r with
 | ok n w'=>
  cases n <;> simp only[Oper.quietUpon]at h3
  case value u=>rw[h3.1,h3.2]
  case skip=>obtain⟨_,he⟩:=hne _ _ rfl;cases he
  case enter f args=>obtain⟨_,he⟩:=hne _ _ rfl;cases he
 | halt x w'=>simp only[Oper.quietUpon]at h3
theorem qH (hw:Region.wanted o (yielded ops a.tmps)=false) (h:zj4 P ops w0 S Q rest (k+1) F (a.put o.dst undef)):zj4 P ops w0 S Q (o :: rest) k F a:=by
 constructor;unfold zcK;rw[if_neg (by rw[hw];exact Bool.false_ne_true)]
 exact h.out
theorem zQ {s:ziP} (hw:Region.wanted o (yielded ops a.tmps)=true) (hS:S k=some s)
  (h:∀w,zc w0 w->(∀m,anc ops 3 m k=true->F m w)->zK P o a w fun v w'=>zc w w'/\s.pv v/\s.post v w')
  (hn:∀v,s.pv v->zj4 P ops w0 S Q rest (k+1) (ZV F k (s.post v)) (a.put o.dst v)):zj4 P ops w0 S Q (o :: rest) k F a:=by
 constructor;unfold zcK;rw[if_pos hw];simp only[hS];exact⟨h,fun v hv=>(hn v hv).out⟩
theorem qT (h:∀w,zc w0 w->(∀i,F i w)->Q a w):zj4 P ops w0 S Q [] k F a:=⟨h⟩
theorem zK.call {w:World} {K:Value->World->Prop} {f:FuncId} {xs:List Operand} {ts:Array TypeId} {fn:Func} (args:List Value)
  (ho : o.op = .call { callee := .value (.func f), args := xs.toArray, argTypes := ts }) (hf : P.funcs[f]? = some fn) (hb : fn.body.isNone = false) (hn : (fn.name == "runtime.NumGoroutine") = false)
  (ha:xs.map a.eval=args) (h:Calls P f args.toArray w fun e w'=>∃v,e= .returned v/\K v w'):zK P o a w K:=by
 have hr:(execOp a.eval o).run P w= .ok (.enter f args.toArray) w:=by
  have he : a.eval (.func f) = .func (.func f) #[] #[] := rfl;simp only [execOp, ho, resolve, he, List.map_toArray, ha, Deferred.ofValue, pure_bind, invoke];have hn' : fn.name ≠ "runtime.NumGoroutine" := by simpa using hn
  have hb':fn.body≠none:=fun e=>by rw[e]at hb;cases hb
  simp[callFunc,hf,hb',hn',program,Sem.run_bind,Sem.run]
 unfold zK;rw[hr];exact h
end
def j4 (ops:Array Oper) (T:Nat):Bool:=
 Region.noSelect ops && decide (T<=ops.size) &&(List.range ops.size).all fun j=>match ops[j]? with
  | none=>false
  | some oj=>oj.after.all (fun e=>!Region.binds .any e || decide (e.on<j)) &&
    (if j<T then(List.range j).all fun i=>zaf ops i j || (match ops[i]? with | some oi=>oi.apart ops oj | none=>false)else(List.range j).all fun i=>anc ops j i j)
def zd (listed:Array Bool) (T:Nat):List Nat:=(List.range T).filter fun i=>listed.getD i true == false
section
variable{P:Program} {ops:Array Oper} {w0:World} {S:Nat->Option ziP} {T:Nat}
theorem js (hB:j4 ops T=true) (hj:ops[j]? =some oj):∀i,zaf ops i j=true->i<j:=by
 simp only[j4,Bool.and_eq_true,List.all_eq_true,List.mem_range]at hB;have h:=hB.2 j (aS.1 hj).1;simp only[hj,Bool.and_eq_true]at h;intro i hi;obtain⟨e,he,hb,rfl⟩:=(jg hj).1 hi;have:=Array.all_eq_true_iff_forall_mem.1 h.1 e he
 simpa [hb]using this
theorem jY (hB:j4 ops T=true) (hj:ops[j]? =some oj) (hT:j<T):∀i,i<j->zaf ops i j=true\/∃oi,ops[i]? =some oi/\oi.apart ops oj=true:=by
 simp only[j4,Bool.and_eq_true,List.all_eq_true,List.mem_range]at hB;have h:=hB.2 j (aS.1 hj).1;simp only[hj,Bool.and_eq_true,if_pos hT,List.all_eq_true,List.mem_range]at h;intro i hi;have:=h.2 i hi;rw[Bool.or_eq_true]at this
 rcases this with h1|h1
 ·exact Or.inl h1
 right
 cases ho:ops[i]? with
 | none=>simp[ho]at h1
 | some oi=>simp only[ho]at h1;exact⟨oi,rfl,h1⟩
theorem jX (hB:j4 ops T=true) (hj:ops[j]? =some oj) (hT:T<=j):∀i,i<j->anc ops j i j=true:=by
 simp only[j4,Bool.and_eq_true,List.all_eq_true,List.mem_range]at hB;have h:=hB.2 j (aS.1 hj).1;simp only[hj,Bool.and_eq_true,if_neg (Nat.not_lt.2 hT),List.all_eq_true,List.mem_range]at h;exact h.2
theorem JP (hB:j4 ops T=true):∀(f i j:Nat),anc ops f i j=true->i<j
 | 0,_,_,h=>by simp[anc]at h
 | f+1,i,j,h=>by
  simp only[anc,Bool.or_eq_true,List.any_eq_true,List.mem_range,Bool.and_eq_true]at h
  rcases h with h|⟨k,hk,_,h⟩
  ·obtain⟨oj,hj⟩:=zbL h;exact js hB hj i h
  have:=JP hB f i k h;omega
theorem z8 {listed:Array Bool} (hl:j<listed.size):zd (listed.setIfInBounds j true) T=(zd listed T).filter (· != j):=by
 unfold zd;rw[List.filter_filter];refine List.filter_congr fun i hi=>?_
 by_cases h:j=i
 ·subst h
  simp[hl]
 rw[getD_set_ne true h];have:(i != j)=true:=by simpa using Ne.symm h
 rw[this,Bool.true_and]
theorem Ja {listed:Array Bool} (hi:i<listed.size) (h:listed.getD i true=true):listed.getD i false=true:=by
 simp[hi]at h⊢;exact h
theorem Zw (hB:j4 ops T=true):∀(m:Nat) (l:List Oper) (k:Nat) (listed:Array Bool) (a:Act) (w:World),T<=k->listed.size=ops.size->k+m=ops.size->l.length=m->(∀j,l[j]? =ops[k+j]?)->
  (∀i,i<k->listed.getD i true=true)->(∀i,k<=i->i<ops.size->listed.getD i true=false)->wpList P ops Q l a w->wpAny P .any ops Q m listed a w:=by
 intro m
 induction m with
 | zero=>
  intro l k listed a w hT hsz hk hl hops hin hout h;have:l=[]:=eN hl;subst this;refine⟨?_,h⟩
  cases hr:Region.ready .any ops listed with
  | nil=>rfl
  | cons x xs=>
   have hx:x∈Region.ready .any ops listed:=by rw[hr];simp
   obtain⟨h0,o,ho,_⟩:=mem_ready.1 hx;have hxs:=(aS.1 ho).1;rw[hin x (by omega)]at h0
   cases h0
 | succ m ih=>
  intro l k listed a w hT hsz hk hl hops hin hout h;obtain⟨o,l',rfl⟩:∃o l',l=o :: l':=by
   cases l with
   | nil=>simp at hl
   | cons o l'=>exact⟨o,l',rfl⟩
  have hok:ops[k]? =some o:=by have:=hops 0;simpa using this.symm
  have hkr:k∈Region.ready .any ops listed:=by
   refine mem_ready.2 ⟨hout k (nR _) (by omega),o,hok,fun e he hb=>?_⟩
   have hlt:=js hB hok e.on ((jg hok).2 ⟨e,he,hb,rfl⟩);exact Ja (by omega) (hin e.on hlt)
  refine⟨fun hr=>?_,fun j hj=>?_⟩
  ·rw[hr]at hkr;cases hkr
  obtain⟨h0,oj,hoj,hall⟩:=mem_ready.1 hj;have hjs:=(aS.1 hoj).1;have hjk:k<=j:=by
   rcases Nat.lt_or_ge j k with h1|h1
   ·rw[hin j h1]at h0;cases h0
   exact h1
  have hj':j=k:=by
   rcases Nat.lt_or_ge k j with h1|h1
   ·exfalso;have ha:=jX hB hoj (by omega) k h1
    have hc:Zm ops listed:=fun i q hq hiq=>by
     obtain⟨oq,hoq⟩:=zbL hiq;have hlt:=js hB hoq i hiq;have hqk:q<k:=by
      rcases Nat.lt_or_ge q k with h2|h2
      ·exact h2
      have:=qz (hout q h2 (aS.1 hoq).1);rw[this]at hq;cases hq
     exact Ja (by omega) (hin i (by omega))
    have:=qf hc j k j (fun q hq=>by
     obtain⟨e,he,hb,rfl⟩:=(jg hoj).1 hq;exact hall e he hb) ha
    rw[qz (hout k (nR _) (by omega))]at this
    cases this
   omega
  subst hj';rw[hok]at hoj;cases hoj;unfold wpList at h;unfold wpOp;simp only[hok];have hnext:∀a w,wpList P ops Q l' a w->wpAny P .any ops Q m (listed.setIfInBounds j true) a w:=fun a w h'=>
   ih l' (j+1) _ a w (by omega) (by simp[hsz]) (by omega) (by simpa using hl) (fun q=>by have:=hops (q+1);rw[List.getElem?_cons_succ]at this;rw[this];congr 1;omega)
    (fun i hi=>by
     by_cases e:j=i
     ·subst e
      simp[show j<listed.size by omega]
     rw[getD_set_ne true e];exact hin i (by omega))
    (fun i hi hi'=>by rw[getD_set_ne true (by omega)];exact hout i (by omega) hi') h'
  split
  ·rename_i hw
   rw[if_pos hw]at h
   rcases h with h|h
   ·exact .inl (Oper.wp_mono hnext h)
   exact .inr h
  rename_i hw
  rw[if_neg hw]at h;exact hnext _ _ h
theorem zcL {Q:Act->World->Prop} {l:List Oper} {m:Nat} (hB:j4 ops T=true) (hTl:T+m=ops.size) (hll:l.length=m) (hops:∀j,l[j]? =ops[T+j]?) (hS:∀k s,S k=some s->∃v,s.pv v)
  (hp:∀k s,S k=some s->∀v w w',zc w w'->s.post v w->s.post v w') (hQ:∀a w,Q a w->wpList P ops Q' l a w):
  ∀(fuel:Nat) (listed:Array Bool) (F:Nat->World->Prop) (a:Act) (w:World),listed.size=ops.size->(∀i,T<=i->i<ops.size->listed.getD i true=false)->(zd listed T).length=fuel->Zm ops listed->zc w0 w->
   (∀i,F i w)->(∀i w w',zc w w'->F i w->F i w')->zga P ops w0 S Q (zd listed T) F a->wpAny P .any ops Q' (fuel+m) listed a w:=by
 have hsel:=Region.noSelect_spec (ops:=ops) (by simp only[j4,Bool.and_eq_true]at hB;exact hB.1.1)
 intro fuel
 induction fuel with
 | zero=>
  intro listed F a w hsz hout hl hc hw hF hFp h;have hnil:zd listed T=[]:=eN hl;rw[hnil]at h;rw[zA];refine Zw hB m l T listed a w (nR _) hsz hTl hll hops (fun i hi=>?_) hout (hQ _ _ (h w hw hF))
  cases hg:listed.getD i true with
  | true=>rfl
  | false=>
   have:i∈zd listed T:=List.mem_filter.2 ⟨List.mem_range.2 hi,by simp only[hg,beq_self_eq_true]⟩
   rw[hnil]at this;cases this
 | succ fuel ih=>
  intro listed F a w hsz hout hl hc hw hF hFp h;rw[Nat.add_right_comm];refine⟨fun hr=>?_,fun j hj=>?_⟩
  ·exfalso
   cases hu:zd listed T with
   | nil=>simp[hu]at hl
   | cons x xs=>
    have hx:x∈zd listed T:=by rw[hu];simp
    have hx':=List.mem_filter.1 hx;have hxT:x<T:=List.mem_range.1 hx'.1;have hxs:x<ops.size:=by omega
    have ho:ops[x]? =some ops[x]:=Array.getElem?_eq_getElem hxs;have hsorted:(zd listed T).Pairwise (·< ·):=List.Pairwise.filter _ List.pairwise_lt_range;have:x∈Region.ready .any ops listed:=by
     refine mem_ready.2 ⟨by simpa using hx'.2,ops[x],ho,fun e he hb=>?_⟩
     have hed:zaf ops e.on x=true:=(jg ho).2 ⟨e,he,hb,rfl⟩;have hlt:=js hB ho _ hed
     cases hg:listed.getD e.on true with
     | true=>exact Ja (by omega) hg
     | false=>
      have hmem:e.on∈zd listed T:=List.mem_filter.2 ⟨List.mem_range.2 (by omega),by simp only[hg,beq_self_eq_true]⟩
      rw[hu]at hmem hsorted
      rcases mC.1 hmem with e1|e1
      ·omega
      have:=(List.pairwise_cons.1 hsorted).1 _ e1;omega
    rw[hr]at this;cases this
  obtain⟨h0,oj,hoj,hall⟩:=mem_ready.1 hj;have hjs:j<ops.size:=(aS.1 hoj).1;have hdir:∀k,zaf ops k j=true->listed.getD k false=true:=fun k hk=>by
   obtain⟨e,he,hb,rfl⟩:=(jg hoj).1 hk;exact hall e he hb
  have hjT:j<T:=by
   rcases Nat.lt_or_ge j T with h1|h1
   ·exact h1
   exfalso
   cases hu:zd listed T with
   | nil=>simp[hu]at hl
   | cons x xs=>
    have hx:x∈zd listed T:=by rw[hu];simp
    have hx':=List.mem_filter.1 hx;have hxT:x<T:=List.mem_range.1 hx'.1;have:=qf hc j x j hdir (jX hB hoj h1 x (by omega))
    rw[qz (by simpa using hx'.2)]at this
    cases this
  have hju:j∈zd listed T:=List.mem_filter.2 ⟨List.mem_range.2 hjT,by simp only[h0,beq_self_eq_true]⟩
  have hnd:(zd listed T).Nodup:=List.Pairwise.filter _ List.nodup_range;have hsorted:(zd listed T).Pairwise (·< ·):=List.Pairwise.filter _ List.pairwise_lt_range;have hcm:=zga.commute hoj hw hsel hS (zd listed T) F a hnd hju (fun i hi hij=>by
   have hi':=List.mem_filter.1 hi;have hun:listed.getD i false=false:=qz (by simpa using hi'.2)
   have his:i<ops.size:=by have:=List.mem_range.1 hi'.1;omega
   have hoi:ops[i]? =some ops[i]:=Array.getElem?_eq_getElem his;refine⟨ops[i],hoi,fun hlt=>?_,?_,fun hlt=>?_⟩
   ·rcases jY hB hoj hjT i hlt with he|⟨oi,hoi',hap⟩
    ·have:=hdir i he;rw[hun]at this;cases this
    rw[hoi]at hoi';cases hoi';exact hap
   ·cases ha:anc ops 3 i j with
    | false=>rfl
    | true=>
     have:=qf hc 3 i j hdir ha;rw[hun]at this;cases this
   cases ha:anc ops 3 j i with
   | false=>rfl
   | true=>
    have:=JP hB 3 j i ha
    omega) hsorted (fun m _=>hF m) h
  have hsz':(listed.setIfInBounds j true).size=ops.size:=by simp[hsz]
  have hout':∀i,T<=i->i<ops.size->(listed.setIfInBounds j true).getD i true=false:=fun i hi hi'=>by rw[getD_set_ne true (by omega)];exact hout i hi hi'
  have hlen':(zd (listed.setIfInBounds j true) T).length=fuel:=by
   rw[z8 (by omega)]
   have he:(zd listed T).filter (· != j)=(zd listed T).erase j:=by
    rw[List.Nodup.erase_eq_filter hnd]
   rw[he,List.length_erase_of_mem hju];omega
  have hc':Zm ops (listed.setIfInBounds j true):=fun i k hk hik=>by
   by_cases hkj:j=k
   ·subst hkj;exact getD_set_true (hdir i hik)
   rw[getD_set_ne false hkj]at hk;exact getD_set_true (hc i k hk hik)
  unfold wpOp;simp only[hoj];simp only[zga,Zn,hoj]at hcm;rw[<-z8 (by omega)]at hcm
  split
  ·rename_i hwant
   simp only[hwant,if_true]at hcm;refine .inl ?_
   cases hs:S j with
   | none=>
    simp only[hs]at hcm;obtain⟨v,hrun,hk⟩:=hcm;have hr:=hrun w hw (fun m _=>hF m)
    unfold Oper.wp;rw[hr];exact ih _ F _ w hsz' hout' hlen' hc' hw hF hFp hk
   | some s=>
    simp only[hs]at hcm;refine(hcm.1 w hw (fun m _=>hF m)).wp fun v w' ⟨hg,hpv,hpost⟩=>?_
    refine ih _ (ZV F j (s.post v)) _ w' hsz' hout' hlen' hc' (hw.trans hg) (fun i=>?_) (fun i x y hxy hx=>?_) (hcm.2 v hpv)
    ·unfold ZV
     split
     ·exact hpost
     exact hFp i w w' hg (hF i)
    unfold ZV at*
    split
    ·rename_i he;simp only[he,if_true]at hx;exact hp j s hs v x y hxy hx
    rename_i he;simp only[he,if_false]at hx;exact hFp i x y hxy hx
  rename_i hwant
  simp only[hwant]at hcm;exact ih _ F _ w hsz' hout' hlen' hc' hw hF hFp hcm
theorem Zy {a:Act} {w:World} {L l r:List Oper} (T:Nat) (S:List (Nat × ziP)) (hm:P.follows .mixedOrders=true) (hB:j4 L.toArray T=true) (hl:L.take T=l) (hr:L.drop T=r) (hT:T<=L.length)
  (hS:∀x∈S,∃v,x.2.pv v) (hp:∀x∈S,∀v w w',zc w w'->x.2.post v w->x.2.post v w')
  (h:zj4 P L.toArray w (fun k=>S.lookup k) (fun a w=>wpList P L.toArray Q r a w) l 0 (fun _ _=>True) a):(Code.region id L.toArray true).wp P Q a w:=by
 have hlook:∀(S:List (Nat × ziP)) k s,S.lookup k=some s->∃x∈S,x.2=s:=by
  intro S
  induction S with
  | nil=>intro k s h;simp at h
  | cons x S ih=>
   intro k s h;rw[List.lookup_cons]at h
   split at h
   ·exact⟨x,by simp,by simpa using h⟩
   obtain⟨y,hy,he⟩:=ih k s h;exact⟨y,by simp[hy],he⟩
 have hlT:l.length=T:=by rw[<-hl,List.length_take];omega
 have hrT:r.length=L.length - T:=by rw[<-hr,List.length_drop]
 refine wp_region_any hm ?_;have hu:zd (Array.replicate L.toArray.size false) T=List.range T:=by
  unfold zd;refine List.filter_eq_self.2 fun i hi=>?_
  have:i<T:=by simpa using hi
  simp[show i<L.length by omega]
 have h':=ZE (ops:=L.toArray) l 0 _ a (fun j=>by
  rcases Nat.lt_or_ge j T with hj|hj
  ·left;rw[<-hl,List.getElem?_take_of_lt hj];simp
  right;omega) h.out
 rw[hlT,<-List.range_eq_range']at h';have hfin:=zcL (P:=P) (w0:=w) (S:=fun k=>S.lookup k) (F:=fun _ _=>True) (ops:=L.toArray) (T:=T) (l:=r) (m:=L.length - T) (Q:=fun a w=>wpList P L.toArray Q r a w) (Q':=Q) hB (by simp;omega) hrT (fun j=>by rw[<-hr,List.getElem?_drop];simp) (fun k s hs=>by obtain⟨x,hx,rfl⟩:=hlook S k s hs;exact hS x hx) (fun k s hs=>by obtain⟨x,hx,rfl⟩:=hlook S k s hs;exact hp x hx) (fun _ _ h=>h)
  T (Array.replicate L.toArray.size false) a w.drew (by simp) (fun i hi hi'=>by simp at hi';simp[hi']) (by rw[hu];simp) (fun i j hj _=>by
   exfalso;rw[Array.getD_eq_getD_getElem?,Array.getElem?_replicate]at hj
   split at hj <;> simp at hj)
  (show Below _ _ _ from(bR _ _).drew) (fun _=>trivial) (fun _ _ _ _ _=>trivial) (by rw[hu];exact h')
 have hsz:T+(L.length - T)=L.toArray.size:=by simp;omega
 rw[hsz]at hfin;exact hfin
end
theorem zR (a:Addr) (i j:Nat):(a.add i).add j=a.add (i+j):=by
 unfold Addr.add
 by_cases h1:i=0 <;> by_cases h2:j=0 <;> simp[h1,h2] <;> omega
def jl (w:World) (x:Addr) (cs:List Value):Prop:=∀j u,cs[j]? =some u->w.cell? (x.add j)=some u
theorem jl.grew {w:World} {x:Addr} {cs:List Value} (h:jl w x cs) (hg:zc w w'):jl w' x cs:=fun j u hj=>by
 have h1:=h j u hj;rw[Below.cell hg (World.block_lt_of_cell? _ _ h1)];exact h1
theorem qD {α:Type} {enc:α->List Value} {k:Nat}:∀(l:List α),(∀a∈l,(enc a).length=k)->(l.flatMap enc).length=l.length*k
 | [],_=>by simp
 | a :: l,h=>by
  rw[List.flatMap_cons,lA,h a (by simp),qD l (fun b hb=>h b (by simp[hb])),List.length_cons,Nat.add_mul,Nat.one_mul,Nat.add_comm]
theorem qA {α:Type} {enc:α->List Value} {k:Nat}:∀(l:List α) (j:Nat) (a:α),(∀b∈l,(enc b).length=k)->l[j]? =some a->∀i u,(enc a)[i]? =some u->(l.flatMap enc)[j*k+i]? =some u
 | [],j,a,_,h,_,_,_=>by simp at h
 | b :: l,0,a,hk,h,i,u,hi=>by
  simp at h;subst h
  have hil:i< (enc b).length:=by
   rcases Nat.lt_or_ge i (enc b).length with h|h
   ·exact h
   rw[gN h]at hi;cases hi
  rw[List.flatMap_cons,Nat.zero_mul,zA,List.getElem?_append_left hil];exact hi
 | b :: l,j+1,a,hk,h,i,u,hi=>by
  have hb:=hk b (by simp)
  rw[List.flatMap_cons,aR (by rw[hb,Nat.add_mul];omega),hb]
  have e:(j+1)*k+i - k=j*k+i:=by rw[Nat.add_mul];omega
  rw[e];exact qA l j a (fun c hc=>hk c (by simp[hc])) (by simpa using h) i u hi
theorem jl.elem {α:Type} {enc:α->List Value} {k:Nat} {w:World} {x:Addr} {l:List α} (h:jl w x (l.flatMap enc)) (hk:∀b∈l,(enc b).length=k) {a:α} (ha:l[j]? =some a):jl w (x.add (j*k)) (enc a):=fun i u hi=>by
 rw[zR];exact h _ _ (qA l j a hk ha i u hi)
def jh {α:Type} (enc:α->List Value) (w:World) (v:Value) (l:List α):Prop:=
 ∃a c,v= .slice a l.length c/\(a=none->l=[])/\∀x,a=some x->jl w x (l.flatMap enc)
theorem jh.grew {α:Type} {enc:α->List Value} {w:World} {v:Value} {l:List α} (h:jh enc w v l) (hg:zc w w'):jh enc w' v l:=by
 obtain⟨a,c,h1,h2,h3⟩:=h;exact⟨a,c,h1,h2,fun x hx=>(h3 x hx).grew hg⟩
theorem jM {α:Type} {enc:α->List Value} {w:World} {base size:Nat} {v:Value} {l:List α} (h:w.ownsRow base e size v l.length (l.flatMap enc)):jh enc w v l:=by
 rcases h.2 with⟨rfl,hn⟩|⟨g,cap,cur,rfl,h2,h3,h4,h5,h6,h7⟩
 ·have hl:l=[]:=eN hn;subst hl;exact⟨none,0,rfl,fun _=>rfl,fun x hx=>by cases hx⟩
 refine⟨some ⟨g,0,none⟩,cap,rfl,fun h=>(by cases h),fun x hx=>?_⟩
 cases hx;exact h.cells rfl
theorem ZT {w:World} {base size n:Nat} {v:Value} (h:w.ownsRow base e size v n xs) (hg:zc w w'):w'.ownsRow base e size v n xs:=by
 refine⟨h.1,?_⟩
 rcases h.2 with h1|⟨g,cap,cur,rfl,h2,h3,h4⟩
 ·exact .inl h1
 exact .inr ⟨g,cap,cur,rfl,h2,by rw[Below.block hg g (aS.1 h3).1];exact h3,h4⟩
theorem qL {w:World} {base size n:Nat} {v:Value} (h:w.ownsRow base e size v n xs) (hb:base'<=base):w.ownsRow base' e size v n xs:=by
 refine⟨h.1,?_⟩
 rcases h.2 with h1|⟨g,cap,cur,rfl,h2,h3⟩
 ·exact .inl h1
 exact .inr ⟨g,cap,cur,rfl,nT hb h2,h3⟩
theorem qV {α:Type} {enc:α->List Value} (h:∀a,∀u∈enc a,u.oneCell'=true) (l:List α):∀u∈l.flatMap enc,u.oneCell'=true:=fun u hu=>by
 obtain⟨a,_,ha⟩:=List.mem_flatMap.1 hu;exact h a u ha
theorem qx {n:Nat} (h:n<=140737488355328):n<=maxLen:=by simp[maxLen];omega
theorem za (w:World) (o:Obj):zc w (w.alloc o):=(bR _ _).alloc (nR _) _
theorem zC {w:World} (h:zc w W) {a:Addr} (ha:w.heap.size<=a.block) (u:Value):zc w (W.setCell a u):=Below.setCell h ha u
theorem qn:Tryz.prog.follows .mixedOrders=true:=by kernel_rfl
def jb (base:Nat) (v:Value):Prop:=∀x n c,v= .slice (some x) n c->base<=x.block
theorem j6 (base:Nat):jb base (.slice none 0 0):=fun x n c e=>by cases e
theorem Jg (x:Addr) (j:Nat):(x.add j).block=x.block:=by unfold Addr.add;split <;> rfl
theorem jh.setCell {α:Type} {enc:α->List Value} {base:Nat} {w:World} {v:Value} {l:List α} (h:jh enc w v l) (hf:jb base v) {a:Addr} (ha:a.block<base) (u:Value):jh enc (w.setCell a u) v l:=by
 obtain⟨x,c,h1,h2,h3⟩:=h;refine⟨x,c,h1,h2,fun y hy j t hj=>?_⟩
 subst hy;have:=hf y _ _ h1;rw[World.cell?_of_block (w:=w) (Below.heap_setCell _ _ _ _ (by rw[Jg];omega))]
 exact h3 y rfl j t hj
theorem QV (w:World) (g:Nat) (cs:Array Value):w.grownBy (w.setRow g cs) (some g):=by
 refine⟨rfl,rfl,rfl,by simp[World.setRow],fun k hk hne=>?_⟩
 have:g≠k:=fun e=>hne (by rw[e])
 unfold World.setRow
 simp[Array.getElem?_modify,this]
theorem qR {P:Program} {w:World} {base size n:Nat} {v:Value} (h:w.ownsRow base e size v n xs) {g:Nat} (hg:v.ownBlock=some g) (off:Nat) (cs:List Value) (hfit:off+cs.length<=n*size) (h1:∀u∈cs,u.oneCell'=true):
  ∃w',(storeCells ⟨g,off,none⟩ cs 0).run P w= .ok () w'/\w'.ownsRow base e size v n (splice xs off cs)/\w.grownBy w' (some g)/\w'.heap.size=w.heap.size:=by
 obtain⟨hl,h2⟩:=h
 rcases h2 with⟨rfl,hn⟩|⟨g',cap,cur,rfl,hb,hh,hn,hm,hs,ht⟩
 ·simp[Value.ownBlock]at hg
 simp[Value.ownBlock]at hg
 subst hg;have hle:n*size<=cur.size:=by rw[hs];exact Nat.mul_le_mul_right _ hn
 refine⟨_,run_storeCells_at P g' off e cs 0 cur w hh (by omega) h1,⟨by rw[length_splice _ _ _ (by omega)];exact hl,.inr ⟨g',cap,_,rfl,hb,setRow_heap w g' cur _ e _ hh,hn,hm,?_,?_⟩⟩,QV _ _ _,by simp[World.setRow]⟩
 ·simp;omega
 subst ht
 apply List.ext_getElem?
 intro j;simp only[splice,Nat.add_zero];simp only[List.getElem?_take,List.getElem?_append,List.getElem?_drop,List.length_take,lA,Array.length_toList];have e1:min off cur.size=off:=by omega
 have e2:min off (min (n*size) cur.size)=off:=by omega
 simp only[e1,e2]
 split <;> split <;>(try split) <;>(try split) <;>(try split) <;> first | rfl | omega | (congr 1;omega) | skip
theorem zaM {P:Program} {w:World} {rest:List Oper} {a:Act} (hgd:o.guard=none) (p x:Operand) (t:TypeId) (ho:o.op= .store t p x) (k:Nat) (hk:(P.info? t).map (·.size)=some k)
  (base:Nat) (v:Value) (n:Nat) (xs:List Value) (hown:w.ownsRow base t k v n xs) (g i:Nat) (hg:v.ownBlock=some g) (hi:i<n) (cs:List Value) (hcs:cs.length=k) (h1:∀u∈cs,u.oneCell'=true)
  (ad:Addr) (hp:a.eval p= .pointer (some ad)) (had:ad=⟨g,i*k,none⟩) (hx:a.eval x= .agg cs.toArray)
  (h:∀w',w'.ownsRow base t k v n (splice xs (i*k) cs)->w.grownBy w' (some g)->w'.heap.size=w.heap.size->wpList P ops Q rest (a.put o.dst undef) w'):wpList P ops Q (o :: rest) a w:=by
 subst had;refine wpList_plain hgd fun K hK=>?_
 have hfit:i*k+cs.length<=n*k:=by
  rw[hcs,<-Nat.succ_mul];exact Nat.mul_le_mul_right _ hi
 obtain⟨w',hr,h2,h3,h4⟩:=qR (P:=P) hown hg (i*k) cs hfit h1;have hsz:(Go.sizeOf t).run P w= .ok k w:=by
  cases hq:P.info? t with
  | none=>simp[hq]at hk
  | some i=>simp[hq]at hk;simp[Go.sizeOf,typeInfo,hq,hk]
 have hall:(Instr.storeAt t (.pointer (some ⟨g,i*k,none⟩)) (.agg cs.toArray)).run P w= .ok () w':=by
  simp[Instr.storeAt,Instr.sureAddr,storeVar,Sem.run_bind,hsz,Result.andThen,Value.cells,hcs,hr]
 unfold Oper.wp;simp only[execOp,ho,hp,hx,Sem.run_bind,hall,Result.andThen,Sem.run_pure,Oper.upon];exact hK _ _ (h w' h2 h3 h4)
theorem Jj {α:Type} {enc:α->List Value} {k:Nat} (x:α) (hx:(enc x).length=k):∀(l:List α) (i:Nat),(∀a∈l,(enc a).length=k)->i<l.length->splice (l.flatMap enc) (i*k) (enc x)=(l.set i x).flatMap enc
 | [],i,_,hi=>by simp at hi
 | a :: l,0,h,_=>by
  simp only[splice,List.flatMap_cons,Nat.zero_mul,List.take_zero,List.nil_append,zA,sZ];rw[List.drop_append_of_le_length (by rw[hx,h a (by simp)];exact nR _),List.drop_of_length_le (by rw[hx,h a (by simp)];exact nR _),List.nil_append]
 | a :: l,i+1,h,hi=>by
  have ha:=h a (by simp)
  have ih:=Jj x hx l i (fun b hb=>h b (by simp[hb])) (by simpa using hi)
  simp only[splice,List.flatMap_cons,sS]at ih⊢;rw[<-ih,Nat.succ_mul,Nat.add_comm (i*k) k,<-ha,List.take_length_add_append,Nat.add_assoc,List.drop_length_add_append,List.append_assoc]
theorem ze {w W':World} {g:Nat} (h:zc w W) (hg:W.grownBy W' (some g)) (hb:w.heap.size<=g):zc w W':=
 Below.grown h hg (bS h) (fun k hk=>by cases hk;exact hb)
theorem zf4 {a w:World} (h:Below B a w) (hB:B<=w.heap.size) (hg:zc w w'):Below B a w':=h.trans (Below.mono hg hB)
def Box (w:World) (b:Nat) (cs:List Value):Prop:=∃t,w.heap[b]? =some (.cells cs.toArray t (0,0))
theorem Box.lt {w:World} {cs:List Value} (h:Box w b cs):b<w.heap.size:=by
 obtain⟨t,h⟩:=h;exact(aS.1 h).1
theorem Box.c {w:World} {cs:List Value} (h:Box w b cs) (i:Nat) {u:Value} (hi:cs[i]? =some u):w.cell? ⟨b,i,none⟩=some u:=by
 obtain⟨t,h⟩:=h
 simp[World.cell?,h,hi]
theorem Box.f {w:World} {cs:List Value} (h:Box w b cs) (i:Nat):w.frozen? ⟨b,i,none⟩=false:=by
 obtain⟨t,h⟩:=h
 simp[World.frozen?,h]
theorem Box.below {w:World} {cs:List Value} (h:Box w b cs) (hg:Below B w w') (hb:b<B):Box w' b cs:=by
 obtain⟨t,h⟩:=h;exact⟨t,by rw[hg.block b hb];exact h⟩
theorem Box.grew {w:World} {cs:List Value} (h:Box w b cs) (hg:zc w w'):Box w' b cs:=h.below hg h.lt
theorem Box.top (w:World) (cs:List Value) (t:TypeId) (hb:b=w.heap.size):Box (w.alloc (.cells cs.toArray t)) b cs:=by
 subst hb;refine⟨t,?_⟩
 show(w.heap.push _)[w.heap.size]? =_
 simp
theorem Box.alloc {w:World} {cs:List Value} (h:Box w b cs) (o:Obj):Box (w.alloc o) b cs:=h.grew (za _ _)
theorem Box.grown {w:World} {g:Nat} {cs:List Value} (h:Box w b cs) (hg:w.grownBy w' (some g)) (hb:b≠g):Box w' b cs:=by
 have hlt:=h.lt;obtain⟨t,h⟩:=h;exact⟨t,by rw[hg.block b hlt (fun e=>hb (by cases e;rfl))];exact h⟩
theorem Box.other {w:World} {cs:List Value} (h:Box w b cs) {a:Addr} (ha:b≠a.block) (u:Value):Box (w.setCell a u) b cs:=by
 obtain⟨t,h⟩:=h;exact⟨t,by rw[Below.heap_setCell _ _ _ _ ha];exact h⟩
theorem Box.set {w:World} {cs:List Value} (h:Box w b cs) (i:Nat) (u:Value):Box (w.setCell ⟨b,i,none⟩ u) b (cs.set i u):=by
 have hlt:=h.lt;obtain⟨t,h⟩:=h;refine⟨t,?_⟩;obtain⟨_,h2⟩:=aS.1 h;unfold World.setCell;rw[Array.getElem?_eq_getElem (by simpa using hlt)]
 simp[Array.getElem_modify,h2]
theorem zdP {w:World} {base size n:Nat} {v:Value} (h:w.ownsRow base e size v n xs) (hs:∀k,base<=k->w'.heap[k]? =w.heap[k]?):w'.ownsRow base e size v n xs:=by
 refine⟨h.1,?_⟩
 rcases h.2 with h1|⟨g,cap,cur,rfl,h2,h3,h4⟩
 ·exact .inl h1
 exact .inr ⟨g,cap,cur,rfl,h2,by rw[hs g h2];exact h3,h4⟩
theorem zfv (w:World) (A B C:Obj) (k:Nat) (hk:w.heap.size+1<=k):((w.alloc A).alloc C).heap[k]? =((w.alloc B).alloc C).heap[k]?:=by
 show((w.heap.push A).push C)[k]? =((w.heap.push B).push C)[k]?
 simp only[Array.getElem?_push,Array.size_push]
 split
 ·rfl
 rw[if_neg (by omega),if_neg (by omega)]
theorem World.grownBy.rfl' (w:World) (row:Option Nat):w.grownBy w row:=⟨rfl,rfl,rfl,nR _,fun _ _ _=>rfl⟩
theorem jl.top (w:World) (cs:List Value) (t:TypeId) (hb:b=w.heap.size):jl (w.alloc (.cells cs.toArray t)) ⟨b,0,none⟩ cs:=fun j u hj=>by
 rw[Addr.add_lit,zA];exact(Box.top w cs t hb).c j hj
theorem Box.beside {w:World} {cs:List Value} {row:Option Nat} (h:Box w b cs) (hg:w.grownBy w' row) (hb:∀g,row=some g->b≠g):Box w' b cs:=by
 have hlt:=h.lt;obtain⟨t,h⟩:=h;exact⟨t,by rw[hg.block b hlt (fun e=>hb b e.symm rfl)];exact h⟩
theorem qa {w W':World} {row:Option Nat} (h:zc w W) (hg:W.grownBy W' row) (hb:∀g,row=some g->w.heap.size<=g):zc w W':=Below.grown h hg (bS h) hb
def zp (w:World) (b:Nat) (t:TypeId) (cs:List Value):Prop:=w.heap[b]? =some (.cells cs.toArray t (0,0))
theorem zp.box {w:World} {cs:List Value} (h:zp w b t cs):Box w b cs:=⟨t,h⟩
theorem zp.top (w:World) (cs:List Value) (t:TypeId) (hb:b=w.heap.size):zp (w.alloc (.cells cs.toArray t)) b t cs:=by
 subst hb
 show(w.heap.push _)[w.heap.size]? =_
 simp
theorem zp.grew {w:World} {cs:List Value} (h:zp w b t cs) (hg:zc w w'):zp w' b t cs:=(hg.block b h.box.lt).trans h
theorem zp.beside {w:World} {cs:List Value} {row:Option Nat} (h:zp w b t cs) (hg:w.grownBy w' row) (hb:∀g,row=some g->b≠g):zp w' b t cs:=by
 unfold zp;rw[hg.block b h.box.lt (fun e=>hb b e.symm rfl)]
 exact h
theorem zp.set {w:World} {cs:List Value} (h:zp w b t cs) (i:Nat) (u:Value):zp (w.setCell ⟨b,i,none⟩ u) b t (cs.set i u):=by
 have hlt:=h.box.lt;obtain⟨_,h2⟩:=aS.1 h;unfold zp World.setCell;rw[Array.getElem?_eq_getElem (by simpa using hlt)]
 simp[Array.getElem_modify,h2]
theorem jC {w:World} {base size n:Nat} {v:Value} (h:w.ownsRow base e size v n xs) {a:Addr} (ha:∀g,v.ownBlock=some g->a.block≠g) (u:Value):(w.setCell a u).ownsRow base e size v n xs:=by
 refine⟨h.1,?_⟩
 rcases h.2 with h1|⟨g,cap,cur,rfl,h2,h3,h4⟩
 ·exact .inl h1
 exact .inr ⟨g,cap,cur,rfl,h2,by rw[Below.heap_setCell _ _ _ _ (fun e=>ha g rfl e.symm)];exact h3,h4⟩
structure Elt (α:Type) where
 enc:α->List Value
 k:Nat
 ty:TypeId
 st:TypeId
 bytes:Nat
 zv:Value
 zero:α
 len:∀a,(enc a).length=k
 one:∀a,∀u∈enc a,u.oneCell'=true
 und:Tryz.prog.underlying st=some (.slice ty)
 info:(Tryz.prog.info? ty).map (fun i=>(i.zero,i.size,i.bytes))=some (some zv,k,bytes)
 zok:zv.cells=(enc zero).toArray
 few:k<=bytes
 pos:0<k
section
variable{α:Type} {E:Elt α}
def zr (E:Elt α) (w:World) (v:Value) (l:List α):Prop:=jh E.enc w v l/\l.length*E.bytes<=140737488355328
def zb (E:Elt α) (base:Nat) (w:World) (v:Value) (l:List α):Prop:=w.ownsRow base E.ty E.k v l.length (l.flatMap E.enc)/\l.length*E.bytes<=140737488355328
def zki (E:Elt α) (w:World) (a:Option Addr) (l:List α):Prop:=∀(j:Nat) x,l[j]? =some x->∃ad,a=some ad/\∀W,zc w W->jl W (ad.add (j*E.k)) (E.enc x)
theorem ziU (E:Elt α):E.zv.cells.size=E.k:=by rw[E.zok];simp[E.len]
theorem jU (E:Elt α) (l:List α):(l.flatMap E.enc).length=l.length*E.k:=qD l fun a _=>E.len a
theorem zr.grew {w:World} {v:Value} {l:List α} (h:zr E w v l) (hg:zc w w'):zr E w' v l:=⟨h.1.grew hg,h.2⟩
theorem zr.rows {w:World} {v:Value} {l:List α} (h:zr E w v l):∃a c,v= .slice a l.length c/\zki E w a l:=by
 obtain⟨⟨a,c,h1,h2,h3⟩,_⟩:=h;refine⟨a,c,h1,fun j q hj=>?_⟩
 cases a with
 | none=>rw[h2 rfl]at hj;simp at hj
 | some x=>exact⟨x,rfl,fun W hW=>((h3 x rfl).grew hW).elem (k:=E.k) (fun b _=>E.len b) hj⟩
theorem zr.short {w:World} {v:Value} {l:List α} (h:zr E w v l):l.length<=9223372036854775807:=by
 have h1:=h.2;have h2:l.length*1<=l.length*E.bytes:=Nat.mul_le_mul_left _ (nT E.pos E.few);omega
theorem zr.nil (E:Elt α) (w:World):zr E w (.slice none 0 0) ([]:List α):=⟨⟨none,0,rfl,fun _=>rfl,fun x hx=>by cases hx⟩,by simp⟩
theorem zb.at {base:Nat} {w:World} {v:Value} {l:List α} (h:zb E base w v l):zr E w v l:=⟨jM h.1,h.2⟩
theorem zb.grew {base:Nat} {w:World} {v:Value} {l:List α} (h:zb E base w v l) (hg:zc w w'):zb E base w' v l:=⟨ZT h.1 hg,h.2⟩
theorem zb.base {base:Nat} {w:World} {v:Value} {l:List α} (h:zb E base w v l) (hb:base'<=base):zb E base' w v l:=⟨qL h.1 hb,h.2⟩
theorem zb.setCell {base:Nat} {w:World} {v:Value} {l:List α} (h:zb E base w v l) {a:Addr} (ha:a.block<base) (u:Value):zb E base (w.setCell a u) v l:=⟨ownsRow_setCell_below h.1 ha u,h.2⟩
theorem zb.setOther {base:Nat} {w:World} {v:Value} {l:List α} (h:zb E base w v l) {a:Addr} (ha:∀g,v.ownBlock=some g->a.block≠g) (u:Value):zb E base (w.setCell a u) v l:=⟨jC h.1 ha u,h.2⟩
theorem zb.lt {base:Nat} {w:World} {v:Value} {l:List α} (h:zb E base w v l):∀g,v.ownBlock=some g->base<=g/\g<w.heap.size:=h.1.lt
theorem zb.form {base:Nat} {w:World} {v:Value} {l:List α} (h:zb E base w v l):∃a c,v= .slice a l.length c:=by
 obtain⟨a,c,h1,_⟩:=h.at.rows;exact⟨a,c,h1⟩
theorem zb.formS {base:Nat} {w:World} {v:Value} {l:List α} (h:zb E base w v l) (hl:0<l.length):∃g c,v= .slice (some ⟨g,0,none⟩) l.length c:=by
 rcases h.1.2 with⟨rfl,h0⟩|⟨g,cap,cur,h0,_⟩
 ·omega
 exact⟨g,cap,h0⟩
theorem zb.fresh {base:Nat} {w:World} {v:Value} {l:List α} (h:zb E base w v l):jb base v:=fun x n c e=>by
 rcases h.1.2 with⟨h0,_⟩|⟨g,cap,cur,h0,h1,_⟩
 ·rw[h0]at e;cases e
 rw[h0]at e;cases e;exact h1
theorem zb.nil (E:Elt α) (base:Nat) (w:World):zb E base w (.slice none 0 0) ([]:List α):=⟨World.ownsRow_nil _ _ _ _,by simp⟩
theorem zb.made (E:Elt α) (w:World):zb E w.heap.size (w.alloc (.cells #[] E.ty)) (.slice (some ⟨w.heap.size,0,none⟩) 0 0) ([]:List α):=⟨World.ownsRow_made w #[] 0 (nR _) (nZ _) (by simp),by simp⟩
theorem zb.ne {base:Nat} {w:World} {v:Value} {l:List α} (h:zb E base w v l) {cs:List Value} (hb:zp w b t cs) (ht:t≠E.ty):∀g,v.ownBlock=some g->b≠g:=fun g hg e=>by
 subst e
 rcases h.1.2 with⟨rfl,_⟩|⟨g',cap,cur,rfl,_,h3,_⟩
 ·cases hg
 simp only[Value.ownBlock,Option.some.injEq]at hg;subst hg;rw[hb]at h3;cases h3;exact ht rfl
theorem zb.grown {base:Nat} {w:World} {row:Option Nat} {v:Value} {l:List α} (h:zb E base w v l) (hg:w.grownBy w' row) (hne:∀g,v.ownBlock=some g->row≠some g):zb E base w' v l:=by
 refine⟨⟨h.1.1,?_⟩,h.2⟩
 rcases h.1.2 with h1|⟨g,cap,cur,rfl,h2,h3,h4⟩
 ·exact .inl h1
 exact .inr ⟨g,cap,cur,rfl,h2,by rw[hg.block g (aS.1 h3).1 (fun e=>hne g rfl e.symm)];exact h3,h4⟩
def zaK (E:Elt α) (base:Nat) (w:World) (v:Value) (l:List α):Prop:=zr E w v l/\jb base v
theorem zb.new {base:Nat} {w:World} {v:Value} {l:List α} (h:zb E base w v l):zaK E base w v l:=⟨h.at,h.fresh⟩
theorem QX {w:World} {base:Nat} {v:Value} {l:List α} (ty:TypeId) (hown:zb E base w v l) (c:Nat):(Builtin.append_ #[E.st,E.st] ty #[v,.slice none 0 c]).run prog w= .ok v w:=by
 obtain⟨i0,hi,_,hz1,_⟩:=info_parts E.info
 rcases hown.1.2 with⟨rfl,_⟩|⟨g,cap,cur,rfl,_,_,hnc,_⟩
 ·simp[Builtin.append_,run_underlying E.und,sizeOf,typeInfo,hi,Builtin.lenOf,Builtin.firstCells]
 simp[Builtin.append_,run_underlying E.und,sizeOf,typeInfo,hi,Builtin.lenOf,Builtin.firstCells,hnc,storeCells]
theorem zB {w:World} {rest:List Oper} {a:Act} (hgd:o.guard=none) (s x:Operand) (ho:o.op= .call { callee:= .builtin .append,args:=#[s,x],argTypes:=#[E.st,E.st] })
  (base:Nat) (vs:Value) (l0:List α) (hs:a.eval s=vs) (hown:zb E base w vs l0) (vx:Value) (l:List α) (hx:a.eval x=vx) (hv:zr E w vx l) (hb:(l0.length+l.length)*E.bytes<=140737488355328) (hbase:base<=w.heap.size)
  (h:∀v' w',zb E base w' v' (l0++l)->w.grownBy w' vs.ownBlock->wpList prog ops Q rest (a.put o.dst v') w'):wpList prog ops Q (o :: rest) a w:=by
 obtain⟨⟨ax,c,rfl,hnone,hcells⟩,_⟩:=hv
 cases ax with
 | none=>
  have hps:=hnone rfl;subst hps;refine wpList_plain hgd fun K hK=>?_
  have hrun:=QX o.type hown c;unfold Oper.wp execOp;simp only[ho,resolve,invoke,builtin,Sem.run_bind,Sem.run_pure,rA,List.map_toArray,mP,List.map_nil,hs,hx,List.length_nil,hrun];exact hK _ _ (h vs w (by rw[List.append_nil];exact hown) (World.grownBy.rfl' _ _))
 | some ad=>
  obtain⟨i0,hi,hz0,hz1,hz2⟩:=info_parts E.info;have h2:(l0.length+l.length)*1<=(l0.length+l.length)*E.bytes:=Nat.mul_le_mul_left _ (nT E.pos E.few);refine wpList_append_own w hgd s x E.st ho base E.ty i0 _ E.k E.bytes E.und hi hz0 hz1 hz2 (ziU E) E.pos vs l0.length _ hs hown.1 ad l.length c (l.flatMap E.enc) hx (jU E l) (hcells ad rfl) (qV E.one l) (qx (by omega)) hb hbase fun v' w' h1 h2 _=>?_
  exact h v' w' ⟨by rw[lA,List.flatMap_append];exact h1,by rw[lA];exact hb⟩ h2
theorem Qp {x y:α} (j:Nat) (cs:List Value) (hy:E.enc y=splice (E.enc x) j cs) (hj:j+cs.length<=E.k):∀(l:List α) (i:Nat),l[i]? =some x->splice (l.flatMap E.enc) (i*E.k+j) cs=(l.set i y).flatMap E.enc
 | [],i,hi=>by simp at hi
 | a :: l,0,hi=>by
  simp at hi
  subst hi;have ha:=E.len a;simp only[splice,List.flatMap_cons,Nat.zero_mul,zA,sZ]at hy⊢;rw[hy,List.take_append_of_le_length (by omega),List.drop_append_of_le_length (by omega)]
  simp
 | a :: l,i+1,hi=>by
  have ha:=E.len a;have ih:=Qp j cs hy hj l i (by simpa using hi)
  simp only[splice,List.flatMap_cons,sS]at ih⊢;rw[<-ih,Nat.succ_mul,Nat.add_comm (i*E.k) E.k,Nat.add_assoc,<-ha,List.take_length_add_append,Nat.add_assoc,List.drop_length_add_append,List.append_assoc]
theorem zt {w:World} {rest:List Oper} {a:Act} (hgd:o.guard=none) (p x:Operand) (t:TypeId) (ho:o.op= .store t p x) (base:Nat) (v:Value) (l:List α) (hown:zb E base w v l)
  (g i j:Nat) (hg:v.ownBlock=some g) (e y:α) (hi:l[i]? =some e) (cs:List Value) (hk:(Tryz.prog.info? t).map (·.size)=some cs.length) (hy:E.enc y=splice (E.enc e) j cs) (hj:j+cs.length<=E.k) (h1:∀u∈cs,u.oneCell'=true)
  (ad:Addr) (hp:a.eval p= .pointer (some ad)) (had:ad=⟨g,i*E.k+j,none⟩) (vx:Value) (hx:a.eval x=vx) (hvx:vx.cells=cs.toArray)
  (h:∀w',zb E base w' v (l.set i y)->w.grownBy w' (some g)->w'.heap.size=w.heap.size->wpList prog ops Q rest (a.put o.dst undef) w'):wpList prog ops Q (o :: rest) a w:=by
 subst had;refine wpList_plain hgd fun K hK=>?_
 have hil:i<l.length:=(gS.1 hi).1;have hfit:i*E.k+j+cs.length<=l.length*E.k:=by
  have:(i+1)*E.k<=l.length*E.k:=Nat.mul_le_mul_right _ hil;rw[Nat.add_mul]at this;omega
 obtain⟨w',hr,h2,h3,h4⟩:=qR (P:=prog) hown.1 hg (i*E.k+j) cs hfit h1;have hsz:(Go.sizeOf t).run prog w= .ok cs.length w:=by
  cases hq:Tryz.prog.info? t with
  | none=>simp[hq]at hk
  | some i=>simp[hq]at hk;simp[Go.sizeOf,typeInfo,hq,hk]
 have hall:(Instr.storeAt t (.pointer (some ⟨g,i*E.k+j,none⟩)) vx).run prog w= .ok () w':=by
  simp[Instr.storeAt,Instr.sureAddr,storeVar,Sem.run_bind,hsz,Result.andThen,hvx,hr]
 unfold Oper.wp;simp only[execOp,ho,hp,hx,Sem.run_bind,hall,Result.andThen,Sem.run_pure,Oper.upon];rw[Qp j cs hy hj l i hi]at h2;exact hK _ _ (h w' ⟨by rw[List.length_set];exact h2,by rw[List.length_set];exact hown.2⟩ h3 h4)
theorem QH {w:World} {rest:List Oper} {a:Act} (hgd:o.guard=none) (p x:Operand) (ho:o.op= .store E.ty p x) (base:Nat) (v:Value) (l:List α) (hown:zb E base w v l)
  (g i:Nat) (hg:v.ownBlock=some g) (y:α) (hi:i<l.length) (ad:Addr) (hp:a.eval p= .pointer (some ad)) (had:ad=⟨g,i*E.k,none⟩) (vx:Value) (hx:a.eval x=vx) (hvx:vx.cells=(E.enc y).toArray)
  (h:∀w',zb E base w' v (l.set i y)->w.grownBy w' (some g)->w'.heap.size=w.heap.size->wpList prog ops Q rest (a.put o.dst undef) w'):wpList prog ops Q (o :: rest) a w:=by
 obtain⟨i0,hi0,_,hz1,_⟩:=info_parts E.info;refine zt hgd p x E.ty ho base v l hown g i 0 hg (l[i]) y (gE hi) (E.enc y) (by rw[hi0];simp[hz1,E.len]) ?_ (by rw[E.len];omega) (E.one y) ad hp (by rw[had];rfl) vx hx hvx h
 unfold splice;rw[List.take_zero,List.nil_append,zA,List.drop_of_length_le (by rw[E.len,E.len];exact nR _),List.append_nil]
theorem zfL (E:Elt α) (n:Nat):(madeCells E.zv.cells (n*E.k)).toList=(List.replicate n E.zero).flatMap E.enc:=by
 have hl:((List.replicate n E.zero).flatMap E.enc).length=n*E.k:=by rw[jU E];simp
 have hp:0<E.k:=E.pos
 apply List.ext_getElem?
 intro j
 rcases Nat.lt_or_ge j (n*E.k)with h|h
 ·have hj:j=j / E.k*E.k+j % E.k:=by rw[Nat.mul_comm];exact(Nat.div_add_mod _ _).symm
  have h8:j % E.k<E.k:=Nat.mod_lt _ hp;have hq:j / E.k<n:=(Nat.div_lt_iff_lt_mul hp).2 h;have hz:(E.enc E.zero)[j % E.k]? =some ((E.enc E.zero)[j % E.k]'(by rw[E.len];exact h8)):=gE _
  have h1:=qA (enc:=E.enc) (k:=E.k) (List.replicate n E.zero) (j / E.k) E.zero (fun a _=>E.len a) (by simp[hq]) (j % E.k) _ hz
  rw[<-hj]at h1;rw[h1]
  simp[madeCells,h,E.zok,E.len,h8]
 rw[gN (by simp[madeCells];exact h),gN (by rw[hl];exact h)]
theorem zbd (E:Elt α) {w:World} {rest:List Oper} {a:Act} (hgd:o.guard=none) (l:Operand) (ho:o.op= .makeSlice E.st l l) (n:Nat) (hl:a.eval l= .int .i64 n) (hn:n*E.bytes<=140737488355328)
  (h:∀C,zb E w.heap.size (w.alloc (.cells C E.ty)) (.slice (some ⟨w.heap.size,0,none⟩) n n) (List.replicate n E.zero)->wpList prog ops Q rest (a.put o.dst (.slice (some ⟨w.heap.size,0,none⟩) n n)) (w.alloc (.cells C E.ty))):wpList prog ops Q (o :: rest) a w:=by
 refine wpList_plain hgd fun K hK=>?_
 obtain⟨i0,hi,hz0,hz1,hz2⟩:=info_parts E.info;have h2:n*1<=n*E.bytes:=Nat.mul_le_mul_left _ (nT E.pos E.few);have hb:((E.bytes:Int)*(n:Int))<=140737488355328:=by
  obtain⟨B,hB⟩:∃B,n*E.bytes=B:=⟨_,rfl⟩;rw[hB]at hn;rw[<-Int.natCast_mul,Nat.mul_comm,hB];omega
 have hrun:=run_make (P:=prog) w E.st E.ty i0 _ E.und hi hz0 .i64 .i64 n n (by omega) (Int.le_refl _) (by rw[hz2];exact Int.le_trans hb (by omega)) (by omega)
 rw[hz1,tN]at hrun;unfold Oper.wp;simp only[execOp,ho,hl,Sem.run_bind,hrun,Result.andThen,Sem.run_pure,Oper.upon];refine hK _ _ (h _ ⟨⟨?_,.inr ⟨w.heap.size,n,madeCells E.zv.cells (n*E.k),by rw[lR],nR _,?_,?_,?_,?_,?_⟩⟩,by rw[lR];exact hn⟩)
 ·rw[jU E]
 ·show(w.heap.push _)[w.heap.size]? =_
  simp
 ·rw[lR];exact nR _
 ·exact qx (by omega)
 ·rw[size_madeCells]
 rw[lR,List.take_of_length_le (by simp[madeCells]),zfL E]
end
structure Out (B0 B1:Nat) (w w':World):Prop where
 os:w'.os=w.os
 tape:w'.tape=w.tape
 output:w'.output=w.output
 size:w.heap.size<=w'.heap.size
 block:∀k,k<w.heap.size->(k<B0\/B1<=k)->w'.heap[k]? =w.heap[k]?
theorem Out.refl (B0 B1:Nat) (w:World):Out B0 B1 w w:=⟨rfl,rfl,rfl,nR _,fun _ _ _=>rfl⟩
theorem Out.trans {a b c:World} (h:Out B0 B1 a b) (k:Out B0 B1 b c):Out B0 B1 a c:=
 ⟨k.os.trans h.os,k.tape.trans h.tape,k.output.trans h.output,nT h.size k.size,fun i hi hb=>(k.block i (Nat.lt_of_lt_of_le hi h.size) hb).trans (h.block i hi hb)⟩
theorem Out.grew {a b:World} (h:zc a b):Out B0 B1 a b:=⟨Below.os h,Below.tape h,Below.output h,bS h,fun i hi _=>Below.block h i hi⟩
theorem Out.setCell (B0 B1:Nat) (w:World) {p:Addr} (h0:B0<=p.block) (h1:p.block<B1) (u:Value):Out B0 B1 w (w.setCell p u):=
 ⟨rfl,rfl,rfl,by simp[World.setCell],fun k _ hb=>Below.heap_setCell _ _ _ _ (by omega)⟩
theorem Out.grown {w:World} {row:Option Nat} (hg:w.grownBy w' row) (h:∀g,row=some g->B0<=g/\g<B1):Out B0 B1 w w':=
 ⟨hg.os,hg.tape,hg.output,hg.size,fun k hk hb=>hg.block k hk (fun e=>by have:=h k e.symm;omega)⟩
theorem Out.wide {a b:World} (h:Out A0 A1 a b) (h0:B0<=A0) (h1:A1<=B1):Out B0 B1 a b:=
 ⟨h.os,h.tape,h.output,h.size,fun i hi hb=>h.block i hi (by omega)⟩
theorem Out.drew (w:World):Out B0 B1 w w.drew:=Out.grew (show Below _ _ _ from(bR _ _).drew)
theorem Out.grew_of {w:World} (h:zc w W) (hB:w.heap.size<=B0) (k:Out B0 B1 W w'):zc w w':=
 (show Below _ _ _ from Below.trans h ⟨k.os,k.tape,k.output,k.size,fun i hi=>k.block i (Nat.lt_of_lt_of_le hi (bS h)) (.inl (Nat.lt_of_lt_of_le hi hB))⟩)
theorem Out.zero {w:World} (h:Out 0 0 w w'):zc w w':=⟨h.os,h.tape,h.output,h.size,fun k hk=>h.block k hk (.inr (nZ _))⟩
theorem Box.out {w:World} {cs:List Value} (h:Box w b cs) (k:Out B0 B1 w w') (hb:b<B0\/B1<=b):Box w' b cs:=by
 have hlt:=h.lt;obtain⟨t,h⟩:=h;exact⟨t,by rw[k.block b hlt hb];exact h⟩
section
variable{α:Type} {E:Elt α}
def zeH (E:Elt α) (B0 B1:Nat) (w:World) (v:Value) (l:List α):Prop:=∀w',Out B0 B1 w w'->zr E w' v l
theorem zeH.now {w:World} {v:Value} {l:List α} (h:zeH E B0 B1 w v l):zr E w v l:=h w (Out.refl _ _ _)
theorem zeH.out {w:World} {v:Value} {l:List α} (h:zeH E B0 B1 w v l) (k:Out B0 B1 w w'):zeH E B0 B1 w' v l:=fun w2 h2=>h w2 (k.trans h2)
theorem zeH.less {w:World} {v:Value} {l:List α} (h:zeH E B0 B1 w v l) (h0:B0<=A0) (h1:A1<=B1):zeH E A0 A1 w v l:=fun w2 h2=>h w2 (h2.wide h0 h1)
theorem zr.stays (B1:Nat) {w:World} {v:Value} {l:List α} (h:zr E w v l) (hB:w.heap.size<=B0) (hg:zc w W):zeH E B0 B1 W v l:=fun _ k=>h.grew (k.grew_of hg hB)
theorem zr.s0 {w:World} {v:Value} {l:List α} (h:zr E w v l):zeH E 0 0 w v l:=fun _ k=>h.grew k.zero
theorem zaK.stays {base:Nat} {w:World} {v:Value} {l:List α} (h:zaK E base w v l):zeH E 0 base w v l:=fun w' k=>by
 obtain⟨⟨⟨a,c,h1,h2,h3⟩,h4⟩,h5⟩:=h;refine⟨⟨a,c,h1,h2,fun x hx j u hj=>?_⟩,h4⟩
 subst hx;have hc:=h3 x rfl j u hj;have hl:=World.block_lt_of_cell? _ _ hc;have hf:=h5 x _ _ h1;rw[World.cell?_of_block (w:=w) (k.block _ hl (.inr (by rw[Jg];exact hf)))]
 exact hc
theorem jN (E:Elt α) (w:World) (x:α) (cs:Array Value) (t:TypeId) (hcs:cs=(E.enc x).toArray) (hb:E.bytes<=140737488355328):zr E (w.alloc (.cells cs t)) (.slice (some ⟨w.heap.size,0,none⟩) 1 1) [x]:=by
 subst hcs;refine⟨⟨_,1,rfl,fun h=>(by cases h),fun y hy=>?_⟩,by simpa using hb⟩
 cases hy
 simpa using jl.top w (E.enc x) t rfl
end
def Cap:Value->Prop
 | .slice _ n c=>n<=c
 | _=>True
theorem zb.cap {α:Type} {E:Elt α} {base:Nat} {w:World} {v:Value} {l:List α} (h:zb E base w v l):Cap v:=by
 rcases h.1.2 with⟨rfl,_⟩|⟨g,cap,cur,rfl,_,_,h4,_⟩
 ·exact nR _
 exact h4
structure jv (D:Nat->Prop) (w w':World):Prop where
 os:w'.os=w.os
 tape:w'.tape=w.tape
 output:w'.output=w.output
 size:w.heap.size<=w'.heap.size
 block:∀k,k<w.heap.size->¬D k->w'.heap[k]? =w.heap[k]?
theorem jv.refl (D:Nat->Prop) (w:World):jv D w w:=⟨rfl,rfl,rfl,nR _,fun _ _ _=>rfl⟩
theorem jv.trans {D:Nat->Prop} {a b c:World} (h:jv D a b) (k:jv D b c):jv D a c:=
 ⟨k.os.trans h.os,k.tape.trans h.tape,k.output.trans h.output,nT h.size k.size,fun i hi hb=>(k.block i (Nat.lt_of_lt_of_le hi h.size) hb).trans (h.block i hi hb)⟩
theorem jv.grew {D:Nat->Prop} {a b:World} (h:zc a b):jv D a b:=⟨Below.os h,Below.tape h,Below.output h,bS h,fun i hi _=>Below.block h i hi⟩
theorem jv.wide {D D':Nat->Prop} {a b:World} (h:jv D' a b) (hd:∀k,D' k->D k):jv D a b:=⟨h.os,h.tape,h.output,h.size,fun i hi hb=>h.block i hi (fun e=>hb (hd i e))⟩
theorem zb.obj {α:Type} {E:Elt α} {base:Nat} {w:World} {v:Value} {l:List α} (h:zb E base w v l) {g:Nat} (hg:v.ownBlock=some g):∃cs,w.heap[g]? =some (.cells cs E.ty (0,0)):=by
 rcases h.1.2 with⟨rfl,_⟩|⟨g',cap,cur,rfl,_,h3,_⟩
 ·cases hg
 simp only[Value.ownBlock,Option.some.injEq]at hg;subst hg;exact⟨cur,h3⟩
theorem zb.apart {α β:Type} {E:Elt α} {F:Elt β} {base:Nat} {w:World} {v u:Value} {l:List α} {m:List β} (h:zb E base w v l) (k:zb F base' w u m) (ht:E.ty≠F.ty):∀g,v.ownBlock=some g->u.ownBlock≠some g:=fun g hg hu=>by
 obtain⟨cs,h1⟩:=h.obj hg;obtain⟨ds,h2⟩:=k.obj hu;rw[h1]at h2;simp only[Option.some.injEq,Obj.cells.injEq]at h2;exact ht h2.2.1
theorem zb.one {α:Type} {E:Elt α} {base g n c:Nat} {w:World} {l:List α} (h:zb E base w (.slice (some ⟨g,0,none⟩) n c) l) {x:α} (hx:l[i]? =some x):jl w ((Addr.mk g 0 none).add (i*E.k)) (E.enc x):=by
 obtain⟨a0,c0,hsl,hrows⟩:=h.at.rows;obtain⟨ad,had,hce⟩:=hrows i _ hx;cases hsl;cases had;exact hce w (zc.refl _)
structure zcf where
 pv:Value->Prop
 post:Value->World->Prop
 step:World->World->Prop
 pre:World->Prop:=fun _=>True
structure zj (I:World->Prop) where
 world:World
 holds:I world
theorem Box.c3 {w:World} {l:List Value} (h:Box w b (a0::a1::a2::l)):w.cell? ⟨b,0,none⟩=some a0/\w.cell? ⟨b,1,none⟩=some a1/\w.cell? ⟨b,2,none⟩=some a2:=⟨h.c 0 rfl,h.c 1 rfl,h.c 2 rfl⟩
theorem Box.c7 {w:World} {l:List Value} (h:Box w b (a0::a1::a2::a3::a4::a5::a6::l)):w.cell? ⟨b,0,none⟩=some a0/\w.cell? ⟨b,1,none⟩=some a1/\w.cell? ⟨b,2,none⟩=some a2/\w.cell? ⟨b,3,none⟩=some a3/\w.cell? ⟨b,4,none⟩=some a4/\w.cell? ⟨b,5,none⟩=some a5/\w.cell? ⟨b,6,none⟩=some a6:=⟨h.c 0 rfl,h.c 1 rfl,h.c 2 rfl,h.c 3 rfl,h.c 4 rfl,h.c 5 rfl,h.c 6 rfl⟩
theorem Box.c8 {w:World} {l:List Value} (h:Box w b (a0::a1::a2::a3::a4::a5::a6::a7::l)):w.cell? ⟨b,0,none⟩=some a0/\w.cell? ⟨b,1,none⟩=some a1/\w.cell? ⟨b,2,none⟩=some a2/\w.cell? ⟨b,3,none⟩=some a3/\w.cell? ⟨b,4,none⟩=some a4/\w.cell? ⟨b,5,none⟩=some a5/\w.cell? ⟨b,6,none⟩=some a6/\w.cell? ⟨b,7,none⟩=some a7:=⟨h.c 0 rfl,h.c 1 rfl,h.c 2 rfl,h.c 3 rfl,h.c 4 rfl,h.c 5 rfl,h.c 6 rfl,h.c 7 rfl⟩
theorem Box.c10 {w:World} {a8 a9:Value} {l:List Value} (h:Box w b (a0::a1::a2::a3::a4::a5::a6::a7::a8::a9::l)):w.cell? ⟨b,0,none⟩=some a0/\w.cell? ⟨b,1,none⟩=some a1/\w.cell? ⟨b,2,none⟩=some a2/\w.cell? ⟨b,3,none⟩=some a3/\w.cell? ⟨b,4,none⟩=some a4/\w.cell? ⟨b,5,none⟩=some a5/\w.cell? ⟨b,6,none⟩=some a6/\w.cell? ⟨b,7,none⟩=some a7/\w.cell? ⟨b,8,none⟩=some a8/\w.cell? ⟨b,9,none⟩=some a9:=⟨h.c 0 rfl,h.c 1 rfl,h.c 2 rfl,h.c 3 rfl,h.c 4 rfl,h.c 5 rfl,h.c 6 rfl,h.c 7 rfl,h.c 8 rfl,h.c 9 rfl⟩
theorem Box.c11 {w:World} {a8 a9 a10:Value} {l:List Value} (h:Box w b (a0::a1::a2::a3::a4::a5::a6::a7::a8::a9::a10::l)):w.cell? ⟨b,0,none⟩=some a0/\w.cell? ⟨b,1,none⟩=some a1/\w.cell? ⟨b,2,none⟩=some a2/\w.cell? ⟨b,3,none⟩=some a3/\w.cell? ⟨b,4,none⟩=some a4/\w.cell? ⟨b,5,none⟩=some a5/\w.cell? ⟨b,6,none⟩=some a6/\w.cell? ⟨b,7,none⟩=some a7/\w.cell? ⟨b,8,none⟩=some a8/\w.cell? ⟨b,9,none⟩=some a9/\w.cell? ⟨b,10,none⟩=some a10:=⟨h.c 0 rfl,h.c 1 rfl,h.c 2 rfl,h.c 3 rfl,h.c 4 rfl,h.c 5 rfl,h.c 6 rfl,h.c 7 rfl,h.c 8 rfl,h.c 9 rfl,h.c 10 rfl⟩
theorem Box.c12 {w:World} {a8 a9 a10 a11:Value} {l:List Value} (h:Box w b (a0::a1::a2::a3::a4::a5::a6::a7::a8::a9::a10::a11::l)):w.cell? ⟨b,0,none⟩=some a0/\w.cell? ⟨b,1,none⟩=some a1/\w.cell? ⟨b,2,none⟩=some a2/\w.cell? ⟨b,3,none⟩=some a3/\w.cell? ⟨b,4,none⟩=some a4/\w.cell? ⟨b,5,none⟩=some a5/\w.cell? ⟨b,6,none⟩=some a6/\w.cell? ⟨b,7,none⟩=some a7/\w.cell? ⟨b,8,none⟩=some a8/\w.cell? ⟨b,9,none⟩=some a9/\w.cell? ⟨b,10,none⟩=some a10/\w.cell? ⟨b,11,none⟩=some a11:=⟨h.c 0 rfl,h.c 1 rfl,h.c 2 rfl,h.c 3 rfl,h.c 4 rfl,h.c 5 rfl,h.c 6 rfl,h.c 7 rfl,h.c 8 rfl,h.c 9 rfl,h.c 10 rfl,h.c 11 rfl⟩
theorem Box.h {I:World->Prop} {cs:List Value} (h:Box W b cs) (hI:∀u,I u↔zc W u) (i:Nat) {v:Value} (hv:cs[i]?=some v):∀y:zj I,y.world.cell? ⟨b,i,none⟩=some v:=fun y=>(h.grew ((hI _).1 y.holds)).c i hv
theorem Box.gw {cs:List Value} (h:Box W b cs) (i:Nat) {v:Value} (hv:cs[i]?=some v):∀y:zE W,y.world.cell? ⟨b,i,none⟩=some v:=fun y=>(h.grew y.grew).c i hv
theorem gP {w:World} {o:Obj} (h:w.alloc o=W):zc w W:=by subst h;exact za _ _
theorem gA {w:World} {o:Obj} (h:w.alloc o=W):Go.RowKit.Hid (zc w W):=show zc _ _ from gP h
theorem gT {v w:World} {o:Obj} (h:w.alloc o=W) (g:Go.RowKit.Hid (zc v w)):Go.RowKit.Hid (zc v W):=show zc _ _ from g.out.trans (gP h)
theorem gD2 {w:World} {o q:Obj} (h:(w.alloc o).alloc q=W):Go.RowKit.Hid (zc w W):=show zc _ _ from(gP rfl).trans (gP h)
theorem xP {w:World} {l:List Value} {p:Nat} (h:w.alloc (.cells l.toArray t)=W) (e:Go.RowKit.Hid (w.heap.size=p)):Go.RowKit.Hid (Box W p l):=show Box _ _ _ by subst h;exact Box.top w l t e.out.symm
theorem xA {w:World} {l:List Value} (h:w.alloc (.cells l.toArray t)=W):Go.RowKit.Hid (Box W w.heap.size l):=xP h rfl
theorem xPT {w:World} {l:List Value} {p:Nat} (h:w.alloc (.cells l.toArray t)=W) (e:Go.RowKit.Hid (w.heap.size=p)):Go.RowKit.Hid (zp W p t l):=show zp _ _ _ _ by subst h;exact zp.top w l t e.out.symm
theorem xT {w:World} {l:List Value} (h:w.alloc (.cells l.toArray t)=W):Go.RowKit.Hid (zp W w.heap.size t l):=xPT h rfl
theorem yA {w:World} {o:Obj} {l:List Value} (h:w.alloc o=W) (y:Go.RowKit.Hid (Box w b l)):Go.RowKit.Hid (Box W b l):=show Box _ _ _ by subst h;exact y.out.alloc _
theorem x2a {w:World} {l:List Value} {o:Obj} (h:(w.alloc (.cells l.toArray t)).alloc o=W):Go.RowKit.Hid (Box W w.heap.size l):=yA h (xA rfl)
theorem x2b {w:World} {l:List Value} {o:Obj} (h:(w.alloc o).alloc (.cells l.toArray t)=W):Go.RowKit.Hid (Box W (w.heap.size+1) l):=show Box _ _ _ by subst h;exact Box.top _ l t (by simp)
theorem sA {w:World} {o:Obj} (h:w.alloc o=W):Go.RowKit.Hid (W.heap.size=w.heap.size+1):=show _=_ by subst h;simp
theorem gW (w:World):zc w w.drew:=show Go.RowKit.Below _ _ _ from(Go.RowKit.Below.refl _ _).drew
section
variable(I:World->Prop) (P:Program) (ops:Array Oper) (S:Nat->Option zcf)
def jx (i:Nat) (F:Nat->World->Prop) (a:Act) (K:(Nat->World->Prop)->Act->Prop):Prop:=
 match ops[i]? with
 | none=>False
 | some o=>
  if Region.wanted o (yielded ops a.tmps)then
   match S i with
   | none=>∃v,(∀w,I w->(∀m,anc ops 3 m i=true->F m w)->(execOp a.eval o).run P w= .ok (.value v) w)/\K F (a.put o.dst v)
   | some s=>(∀w,I w->s.pre w->(∀m,anc ops 3 m i=true->F m w)->zK P o a w fun v w'=>I w'/\s.step w w'/\s.pv v/\s.post v w')/\∀v,s.pv v->K (ZV F i (s.post v)) (a.put o.dst v)
  else K F (a.put o.dst undef)
def zhd (Q:Act->World->Prop):List Nat->(Nat->World->Prop)->Act->Prop
 | [],F,a=>∀w,I w->(∀i,F i w)->Q a w
 | i :: l,F,a=>jx I P ops S i F a (zhd Q l)
end
section
variable{I:World->Prop} {P:Program} {ops:Array Oper} {S:Nat->Option zcf} {T:Nat}
theorem jx.mono {F:Nat->World->Prop} {a:Act} {K K':(Nat->World->Prop)->Act->Prop}
  (h:∀F' a',(∀m,m≠i->F' m=F m)->K F' a'->K' F' a') (hc:jx I P ops S i F a K):jx I P ops S i F a K':=by
 unfold jx at*
 split
 ·rename_i ho;simp only[ho]at hc
 rename_i o ho
 simp only[ho]at hc
 split
 ·rename_i hw
  simp only[hw,if_true]at hc
  split
  ·rename_i hs
   simp only[hs]at hc;obtain⟨v,h1,h2⟩:=hc;exact⟨v,h1,h _ _ (fun _ _=>rfl) h2⟩
  rename_i s hs
  simp only[hs]at hc;exact⟨hc.1,fun v hv=>h _ _ (fun m hm=>z6 hm) (hc.2 v hv)⟩
 rename_i hw
 simp only[hw]at hc;exact h _ _ (fun _ _=>rfl) hc
theorem jx.swap {F:Nat->World->Prop} {a:Act} {K:(Nat->World->Prop)->Act->Prop} {w:World}
  (hi:ops[i]? =some oi) (hj:ops[j]? =some oj) (hne:i≠j) (hap:oi.apart ops oj=true)
  (hsi:∀cs b,oi.op≠.select cs b) (hsj:∀cs b,oj.op≠.select cs b)
  (hij:anc ops 3 i j=false) (hji:anc ops 3 j i=false) (hS:∀s,S i=some s->∃v,s.pv v)
  (hw0:I w) (hF:∀m,anc ops 3 m j=true->F m w)
  (h:jx I P ops S i F a fun F' a'=>jx I P ops S j F' a' K):jx I P ops S j F a fun F' a'=>jx I P ops S i F' a' K:=by
 obtain⟨h1,h2,h3⟩:=Oper.apart_spec hap;have ei:∀v,execOp (a.put oj.dst v).eval oi=execOp a.eval oi:=fun v=>execOp_put oi hsi a oj.dst v h3
 have ej:∀v,execOp (a.put oi.dst v).eval oj=execOp a.eval oj:=fun v=>execOp_put oj hsj a oi.dst v h1
 have wi:∀v,Region.wanted oi (yielded ops (a.put oj.dst v).tmps)=Region.wanted oi (yielded ops a.tmps):=fun v=>wanted_put oi a oj.dst v h3
 have wj:∀v,Region.wanted oj (yielded ops (a.put oi.dst v).tmps)=Region.wanted oj (yielded ops a.tmps):=fun v=>wanted_put oj a oi.dst v h1
 have di:∀v w K,zK P oi (a.put oj.dst v) w K=zK P oi a w K:=fun v w K=>by unfold zK;rw[ei]
 have dj:∀v w K,zK P oj (a.put oi.dst v) w K=zK P oj a w K:=fun v w K=>by unfold zK;rw[ej]
 have pc:∀v u,(a.put oi.dst v).put oj.dst u=(a.put oj.dst u).put oi.dst v:=fun v u=>Act.put_comm a v u h2
 have fi:∀p,(fun m=>anc ops 3 m i=true->ZV F j p m w=F m w)=fun _=>True:=fun p=>by
  funext m
  simp only[eq_iff_iff,iff_true];intro hm;rw[z6 (fun e=>by subst e;rw[hji]at hm;cases hm)]
 have faci:∀p w',(∀m,anc ops 3 m i=true->ZV F j p m w')↔(∀m,anc ops 3 m i=true->F m w'):=fun p w'=>by
  constructor <;> intro hh m hm <;> have:=hh m hm
  ·rwa [z6 (fun e=>by subst e;rw[hji]at hm;cases hm)]at this
  rwa [z6 (fun e=>by subst e;rw[hji]at hm;cases hm)]
 have facj:∀p w',(∀m,anc ops 3 m j=true->ZV F i p m w')↔(∀m,anc ops 3 m j=true->F m w'):=fun p w'=>by
  constructor <;> intro hh m hm <;> have:=hh m hm
  ·rwa [z6 (fun e=>by subst e;rw[hij]at hm;cases hm)]at this
  rwa [z6 (fun e=>by subst e;rw[hij]at hm;cases hm)]
 clear fi;unfold jx at h⊢;simp only[hi,hj,ei,ej,wi,wj,di,dj,pc]at h⊢
 cases hwi:Region.wanted oi (yielded ops a.tmps) <;> cases hwj:Region.wanted oj (yielded ops a.tmps) <;>
  simp only[hwi,hwj,if_true,if_false,Bool.false_eq_true]at h⊢
 ·exact h
 ·cases hsj':S j with
  | none=>simp only[hsj']at h⊢;exact h
  | some s=>simp only[hsj']at h⊢;exact h
 ·cases hsi':S i with
  | none=>simp only[hsi']at h⊢;exact h
  | some s=>simp only[hsi']at h⊢;exact h
 cases hsi':S i with
 | none=>
  simp only[hsi']at h;obtain⟨vi,hri,h⟩:=h
  cases hsj':S j with
  | none=>
   simp only[hsj']at h⊢;obtain⟨vj,hrj,h⟩:=h;exact⟨vj,hrj,vi,hri,h⟩
  | some s=>
   simp only[hsj']at h⊢;exact⟨h.1,fun vj hvj=>⟨vi,fun w' hw' hf=>hri w' hw' ((faci _ _).1 hf),h.2 vj hvj⟩⟩
 | some si=>
  simp only[hsi']at h;obtain⟨hdi,h⟩:=h;obtain⟨v1,hv1⟩:=hS si hsi'
  cases hsj':S j with
  | none=>
   simp only[hsj']at h⊢;obtain⟨vj,hrj,_⟩:=h v1 hv1;refine⟨vj,fun w' hw' hf=>hrj w' hw' ((facj _ _).2 hf),hdi,fun vi hvi=>?_⟩
   obtain⟨vj',hrj',hl⟩:=h vi hvi;have e1:=hrj w hw0 ((facj _ _).2 hF);have e2:=hrj' w hw0 ((facj _ _).2 hF);rw[e1]at e2;simp only[Result.ok.injEq,Next.value.injEq,and_true]at e2;subst e2;exact hl
  | some sj=>
   simp only[hsj']at h⊢;refine⟨fun w' hw' hpr hf=>(h v1 hv1).1 w' hw' hpr ((facj _ _).2 hf),fun vj hvj=>⟨fun w' hw' hpr hf=>hdi w' hw' hpr ((faci _ _).1 hf),fun vi hvi=>?_⟩⟩
   have:=(h vi hvi).2 vj hvj;rwa [zd8 hne]at this
theorem zhd.commute {Q:Act->World->Prop} {j:Nat} {oj:Oper} {w:World} (hj:ops[j]? =some oj) (hw0:I w)
  (hsel:∀(k:Nat) (o:Oper) cs b,ops[k]? =some o->o.op≠.select cs b) (hS:∀k s,S k=some s->∃v,s.pv v):
  ∀(l:List Nat) (F:Nat->World->Prop) (a:Act),l.Nodup->j∈l->
   (∀i∈l,i≠j->∃oi,ops[i]? =some oi/\(i<j->oi.apart ops oj=true)/\anc ops 3 i j=false/\(i<j->anc ops 3 j i=false))->
   (l.Pairwise (·< ·))->(∀m,anc ops 3 m j=true->F m w)->zhd I P ops S Q l F a->zhd I P ops S Q (j :: l.filter (· != j)) F a
 | [],_,_,_,hm,_,_,_,_=>by cases hm
 | i :: l,F,a,hnd,hm,hall,hsorted,hF,h=>by
  by_cases hij:i=j
  ·subst hij;have:(i :: l).filter (· != i)=l:=by
    rw[List.filter_cons];simp only[bne_self_eq_false,Bool.false_eq_true,if_false];refine List.filter_eq_self.2 fun x hx=>?_
    have:x≠i:=fun e=>(List.nodup_cons.1 hnd).1 (e ▸ hx)
    simpa using this
   rw[this];exact h
  have hjl:j∈l:=by
   rcases mC.1 hm with e|e
   ·exact absurd e.symm hij
   exact e
  have hlt:i<j:=(List.pairwise_cons.1 hsorted).1 j hjl;obtain⟨oi,hoi,hap,haij,haji⟩:=hall i (by simp) hij
  have hf:(i :: l).filter (· != j)=i :: l.filter (· != j):=by
   rw[List.filter_cons];have:(i != j)=true:=by simpa using hij
   simp[this]
  rw[hf];refine jx.swap hoi hj hij (hap hlt) (fun cs b=>hsel i oi cs b hoi) (fun cs b=>hsel j oj cs b hj) haij (haji hlt) (hS i) hw0 hF ?_
  refine jx.mono (fun F' a' hF' hl=>?_) h
  refine zhd.commute hj hw0 hsel hS l F' a' (List.nodup_cons.1 hnd).2 hjl (fun k hk=>hall k (by simp[hk])) (List.pairwise_cons.1 hsorted).2 (fun m hma=>?_) hl
  rw[hF' m (fun e=>by subst e;rw[haij]at hma;cases hma)]
  exact hF m hma
theorem zcO {Q:Act->World->Prop} {l:List Oper} {m:Nat} (hB:j4 ops T=true) (hTl:T+m=ops.size) (hll:l.length=m) (hops:∀j,l[j]? =ops[T+j]?) (hS:∀k s,S k=some s->∃v,s.pv v)
  (hp:∀k s j t,S k=some s->S j=some t->j≠k->anc ops 3 j k=false->∀v w w',t.step w w'->s.post v w->s.post v w') (hpre:∀j t k s,S j=some t->S k=some s->j≠k->∀w w',s.step w w'->t.pre w->t.pre w') (hQ:∀a w,Q a w->wpList P ops Q' l a w):
  ∀(fuel:Nat) (listed:Array Bool) (F:Nat->World->Prop) (a:Act) (w:World),listed.size=ops.size->(∀i,T<=i->i<ops.size->listed.getD i true=false)->(zd listed T).length=fuel->Zm ops listed->I w->
   (∀i,F i w)->(∀i,(∀w,F i w)\/∃s v,S i=some s/\F i=s.post v/\listed.getD i false=true)->(∀k t,S k=some t->listed.getD k true=false->t.pre w)->zhd I P ops S Q (zd listed T) F a->wpAny P .any ops Q' (fuel+m) listed a w:=by
 have hsel:=Region.noSelect_spec (ops:=ops) (by simp only[j4,Bool.and_eq_true]at hB;exact hB.1.1)
 intro fuel
 induction fuel with
 | zero=>
  intro listed F a w hsz hout hl hc hw hF hFp hPre h;have hnil:zd listed T=[]:=eN hl;rw[hnil]at h;rw[zA];refine Zw hB m l T listed a w (nR _) hsz hTl hll hops (fun i hi=>?_) hout (hQ _ _ (h w hw hF))
  cases hg:listed.getD i true with
  | true=>rfl
  | false=>
   have:i∈zd listed T:=List.mem_filter.2 ⟨List.mem_range.2 hi,by simp only[hg,beq_self_eq_true]⟩
   rw[hnil]at this;cases this
 | succ fuel ih=>
  intro listed F a w hsz hout hl hc hw hF hFp hPre h;rw[Nat.add_right_comm];refine⟨fun hr=>?_,fun j hj=>?_⟩
  ·exfalso
   cases hu:zd listed T with
   | nil=>simp[hu]at hl
   | cons x xs=>
    have hx:x∈zd listed T:=by rw[hu];simp
    have hx':=List.mem_filter.1 hx;have hxT:x<T:=List.mem_range.1 hx'.1;have hxs:x<ops.size:=by omega
    have ho:ops[x]? =some ops[x]:=Array.getElem?_eq_getElem hxs;have hsorted:(zd listed T).Pairwise (·< ·):=List.Pairwise.filter _ List.pairwise_lt_range;have:x∈Region.ready .any ops listed:=by
     refine mem_ready.2 ⟨by simpa using hx'.2,ops[x],ho,fun e he hb=>?_⟩
     have hed:zaf ops e.on x=true:=(jg ho).2 ⟨e,he,hb,rfl⟩;have hlt:=js hB ho _ hed
     cases hg:listed.getD e.on true with
     | true=>exact Ja (by omega) hg
     | false=>
      have hmem:e.on∈zd listed T:=List.mem_filter.2 ⟨List.mem_range.2 (by omega),by simp only[hg,beq_self_eq_true]⟩
      rw[hu]at hmem hsorted
      rcases mC.1 hmem with e1|e1
      ·omega
      have:=(List.pairwise_cons.1 hsorted).1 _ e1;omega
    rw[hr]at this;cases this
  obtain⟨h0,oj,hoj,hall⟩:=mem_ready.1 hj;have hjs:j<ops.size:=(aS.1 hoj).1;have hdir:∀k,zaf ops k j=true->listed.getD k false=true:=fun k hk=>by
   obtain⟨e,he,hb,rfl⟩:=(jg hoj).1 hk;exact hall e he hb
  have hjT:j<T:=by
   rcases Nat.lt_or_ge j T with h1|h1
   ·exact h1
   exfalso
   cases hu:zd listed T with
   | nil=>simp[hu]at hl
   | cons x xs=>
    have hx:x∈zd listed T:=by rw[hu];simp
    have hx':=List.mem_filter.1 hx;have hxT:x<T:=List.mem_range.1 hx'.1;have:=qf hc j x j hdir (jX hB hoj h1 x (by omega))
    rw[qz (by simpa using hx'.2)]at this
    cases this
  have hju:j∈zd listed T:=List.mem_filter.2 ⟨List.mem_range.2 hjT,by simp only[h0,beq_self_eq_true]⟩
  have hnd:(zd listed T).Nodup:=List.Pairwise.filter _ List.nodup_range;have hsorted:(zd listed T).Pairwise (·< ·):=List.Pairwise.filter _ List.pairwise_lt_range;have hcm:=zhd.commute hoj hw hsel hS (zd listed T) F a hnd hju (fun i hi hij=>by
   have hi':=List.mem_filter.1 hi;have hun:listed.getD i false=false:=qz (by simpa using hi'.2)
   have his:i<ops.size:=by have:=List.mem_range.1 hi'.1;omega
   have hoi:ops[i]? =some ops[i]:=Array.getElem?_eq_getElem his;refine⟨ops[i],hoi,fun hlt=>?_,?_,fun hlt=>?_⟩
   ·rcases jY hB hoj hjT i hlt with he|⟨oi,hoi',hap⟩
    ·have:=hdir i he;rw[hun]at this;cases this
    rw[hoi]at hoi';cases hoi';exact hap
   ·cases ha:anc ops 3 i j with
    | false=>rfl
    | true=>
     have:=qf hc 3 i j hdir ha;rw[hun]at this;cases this
   cases ha:anc ops 3 j i with
   | false=>rfl
   | true=>
    have:=JP hB 3 j i ha
    omega) hsorted (fun m _=>hF m) h
  have hsz':(listed.setIfInBounds j true).size=ops.size:=by simp[hsz]
  have hout':∀i,T<=i->i<ops.size->(listed.setIfInBounds j true).getD i true=false:=fun i hi hi'=>by rw[getD_set_ne true (by omega)];exact hout i hi hi'
  have hlen':(zd (listed.setIfInBounds j true) T).length=fuel:=by
   rw[z8 (by omega)]
   have he:(zd listed T).filter (· != j)=(zd listed T).erase j:=by
    rw[List.Nodup.erase_eq_filter hnd]
   rw[he,List.length_erase_of_mem hju];omega
  have hc':Zm ops (listed.setIfInBounds j true):=fun i k hk hik=>by
   by_cases hkj:j=k
   ·subst hkj;exact getD_set_true (hdir i hik)
   rw[getD_set_ne false hkj]at hk;exact getD_set_true (hc i k hk hik)
  have hFs:(∀i,(∀w,F i w)\/∃s v,S i=some s/\F i=s.post v/\listed.getD i false=true)->∀i,(∀w,F i w)\/∃s v,S i=some s/\F i=s.post v/\(listed.setIfInBounds j true).getD i false=true:=fun h i=>by
   rcases h i with h1|⟨s1,v1,e1,e2,e3⟩
   ·exact .inl h1
   refine .inr ⟨s1,v1,e1,e2,?_⟩
   by_cases hij:j=i
   ·subst hij
    simp[show j<listed.size by omega]
   rw[getD_set_ne false hij];exact e3
  have hPs:∀k,(listed.setIfInBounds j true).getD k true=false->k≠j/\listed.getD k true=false:=fun k hl'=>by
   by_cases hkj:j=k
   ·subst hkj
    simp[show j<listed.size by omega]at hl'
   rw[getD_set_ne true hkj]at hl';exact⟨fun e=>hkj e.symm,hl'⟩
  unfold wpOp;simp only[hoj];simp only[zhd,jx,hoj]at hcm;rw[<-z8 (by omega)]at hcm
  split
  ·rename_i hwant
   simp only[hwant,if_true]at hcm;refine .inl ?_
   cases hs:S j with
   | none=>
    simp only[hs]at hcm;obtain⟨v,hrun,hk⟩:=hcm;have hr:=hrun w hw (fun m _=>hF m)
    unfold Oper.wp;rw[hr];exact ih _ F _ w hsz' hout' hlen' hc' hw hF (hFs hFp) (fun k t hk' hl'=>(hPs k hl').elim fun _ q=>hPre k t hk' q) hk
   | some s=>
    simp only[hs]at hcm;refine(hcm.1 w hw (hPre j s hs h0) (fun m _=>hF m)).wp fun v w' ⟨hi',hstep,hpv,hpost⟩=>?_
    refine ih _ (ZV F j (s.post v)) _ w' hsz' hout' hlen' hc' hi' (fun i=>?_) (fun i=>?_) (fun k t hk' hl'=>(hPs k hl').elim fun q1 q2=>hpre k t j s hk' hs q1 w w' hstep (hPre k t hk' q2)) (hcm.2 v hpv)
    ·unfold ZV
     split
     ·exact hpost
     rename_i hij
     rcases hFp i with h1|⟨s1,v1,e1,e2,e3⟩
     ·exact h1 w'
     rw[e2];refine hp i s1 j s e1 hs (fun e=>hij e.symm) ?_ v1 w w' hstep ?_
     ·cases ha:anc ops 3 j i with
      | false=>rfl
      | true=>
       have h1:=qf hc 3 j i (fun k hk=>hc k i e3 hk) ha
       rw[qz h0]at h1;cases h1
     have:=hF i;rw[e2]at this;exact this
    by_cases hij:i=j
    ·subst hij;refine .inr ⟨s,v,hs,?_,?_⟩
     ·unfold ZV;rw[if_pos rfl]
     simp[show i<listed.size by omega]
    rcases hFp i with h1|⟨s1,v1,e1,e2,e3⟩
    ·refine .inl fun w=>?_
     unfold ZV;rw[if_neg hij];exact h1 w
    refine .inr ⟨s1,v1,e1,?_,?_⟩
    ·unfold ZV;rw[if_neg hij];exact e2
    rw[getD_set_ne false (fun e=>hij e.symm)]
    exact e3
  rename_i hwant
  simp only[hwant]at hcm;exact ih _ F _ w hsz' hout' hlen' hc' hw hF (hFs hFp) (fun k t hk' hl'=>(hPs k hl').elim fun _ q=>hPre k t hk' q) hcm
end
section
variable{I:World->Prop} {P:Program} {ops:Array Oper} {S:Nat->Option zcf} {Q:Act->World->Prop}
variable(I P ops S Q)in
def Ju:List Oper->Nat->(Nat->World->Prop)->Act->Prop
 | [],_,F,a=>∀w,I w->(∀i,F i w)->Q a w
 | o :: rest,k,F,a=>
  if Region.wanted o (yielded ops a.tmps)then
   match S k with
   | none=>∃v,(∀w,I w->(∀m,anc ops 3 m k=true->F m w)->(execOp a.eval o).run P w= .ok (.value v) w)/\Ju rest (k+1) F (a.put o.dst v)
   | some s=>(∀w,I w->s.pre w->(∀m,anc ops 3 m k=true->F m w)->zK P o a w fun v w'=>I w'/\s.step w w'/\s.pv v/\s.post v w')/\∀v,s.pv v->Ju rest (k+1) (ZV F k (s.post v)) (a.put o.dst v)
  else Ju rest (k+1) F (a.put o.dst undef)
theorem ZF:∀(l:List Oper) (k:Nat) (F:Nat->World->Prop) (a:Act),(∀j,l[j]? =ops[k+j]?\/l.length<=j)->Ju I P ops S Q l k F a->zhd I P ops S Q (List.range' k l.length) F a
 | [],_,_,_,_,h=>h
 | o :: l,k,F,a,hl,h=>by
  have h0:ops[k]? =some o:=by
   rcases hl 0 with e|e
   ·simpa using e.symm
   simp at e
  have hnext:∀j,l[j]? =ops[k+1+j]?\/l.length<=j:=fun j=>by
   rcases hl (j+1)with e|e
   ·left;rw[List.getElem?_cons_succ]at e;rw[e];congr 1;omega
   right;simpa using e
  simp only[List.length_cons,List.range'_succ,zhd,jx,h0];unfold Ju at h
  split
  ·rename_i hw
   simp only[hw,if_true]at h
   cases hs:S k with
   | none=>
    simp only[hs]at h;obtain⟨v,h1,h2⟩:=h;exact⟨v,h1,ZF l (k+1) _ _ hnext h2⟩
   | some s=>
    simp only[hs]at h;exact⟨h.1,fun v hv=>ZF l (k+1) _ _ hnext (h.2 v hv)⟩
  rename_i hw
  simp only[hw]at h;exact ZF l (k+1) _ _ hnext h
variable(I P ops S Q)in
structure zbU (l:List Oper) (k:Nat) (F:Nat->World->Prop) (a:Act):Prop where
 out:Ju I P ops S Q l k F a
theorem qQ {Q:Exit->Act->World->Prop} {a:Act} {w:World} {L l r:List Oper} (T:Nat) (S:List (Nat × zcf)) (hI:I w.drew) (hm:P.follows .mixedOrders=true) (hB:j4 L.toArray T=true) (hl:L.take T=l) (hr:L.drop T=r) (hT:T<=L.length)
  (hS:∀x∈S,∃v,x.2.pv v) (hp:∀k s j t,S.lookup k=some s->S.lookup j=some t->j≠k->anc L.toArray 3 j k=false->∀v w w',t.step w w'->s.post v w->s.post v w') (hpre:∀j t k s,S.lookup j=some t->S.lookup k=some s->j≠k->∀w w',s.step w w'->t.pre w->t.pre w') (hpr0:∀k t,S.lookup k=some t->t.pre w.drew)
  (h:zbU I P L.toArray (fun k=>S.lookup k) (fun a w=>wpList P L.toArray Q r a w) l 0 (fun _ _=>True) a):(Code.region id L.toArray true).wp P Q a w:=by
 have hlook:∀(S:List (Nat × zcf)) k s,S.lookup k=some s->∃x∈S,x.2=s:=by
  intro S
  induction S with
  | nil=>intro k s h;simp at h
  | cons x S ih=>
   intro k s h;rw[List.lookup_cons]at h
   split at h
   ·exact⟨x,by simp,by simpa using h⟩
   obtain⟨y,hy,he⟩:=ih k s h;exact⟨y,by simp[hy],he⟩
 have hlT:l.length=T:=by rw[<-hl,List.length_take];omega
 have hrT:r.length=L.length - T:=by rw[<-hr,List.length_drop]
 refine wp_region_any hm ?_;have hu:zd (Array.replicate L.toArray.size false) T=List.range T:=by
  unfold zd;refine List.filter_eq_self.2 fun i hi=>?_
  have:i<T:=by simpa using hi
  simp[show i<L.length by omega]
 have h':=ZF (ops:=L.toArray) l 0 _ a (fun j=>by
  rcases Nat.lt_or_ge j T with hj|hj
  ·left;rw[<-hl,List.getElem?_take_of_lt hj];simp
  right;omega) h.out
 rw[hlT,<-List.range_eq_range']at h';have hfin:=zcO (I:=I) (P:=P) (S:=fun k=>S.lookup k) (F:=fun _ _=>True) (ops:=L.toArray) (T:=T) (l:=r) (m:=L.length - T) (Q:=fun a w=>wpList P L.toArray Q r a w) (Q':=Q) hB (by simp;omega) hrT (fun j=>by rw[<-hr,List.getElem?_drop];simp) (fun k s hs=>by obtain⟨x,hx,rfl⟩:=hlook S k s hs;exact hS x hx) hp hpre (fun _ _ h=>h)
  T (Array.replicate L.toArray.size false) a w.drew (by simp) (fun i hi hi'=>by simp at hi';simp[hi']) (by rw[hu];simp) (fun i j hj _=>by
   exfalso;rw[Array.getD_eq_getD_getElem?,Array.getElem?_replicate]at hj
   split at hj <;> simp at hj)
  hI (fun _=>trivial) (fun _=> .inl fun _=>trivial) (fun k t hk _=>hpr0 k t hk) (by rw[hu];exact h')
 have hsz:T+(L.length - T)=L.toArray.size:=by simp;omega
 rw[hsz]at hfin;exact hfin
variable{o:Oper} {rest:List Oper} {k:Nat} {F:Nat->World->Prop} {a:Act}
theorem zk (ht:zkl o=true) (hw:Region.wanted o (yielded ops a.tmps)=true) (hS:S k=none)
  (h:∀K:Act->Prop,(∀a,zbU I P ops S Q rest (k+1) F a->K a)->o.quiet P a (fun w'=>∃x:zj I,w'=x.world) K):zbU I P ops S Q (o :: rest) k F a:=by
 obtain⟨v,h1,h2⟩:=h _ fun _ h=>h
 constructor;unfold Ju;rw[if_pos hw];simp only[hS];refine⟨v,fun w hg _=>?_,h2.out⟩
 have h3:=h1 w ⟨⟨w,hg⟩,rfl⟩;unfold Oper.quietAt at h3;have hne:=fun n w'=>@Qg P o ht a.eval w w' n
 generalize(execOp a.eval o).run P w=r at*
 cases r with
 | ok n w'=>
  cases n <;> simp only[Oper.quietUpon]at h3
  case value u=>rw[h3.1,h3.2]
  case skip=>obtain⟨_,he⟩:=hne _ _ rfl;cases he
  case enter f args=>obtain⟨_,he⟩:=hne _ _ rfl;cases he
 | halt x w'=>simp only[Oper.quietUpon]at h3
theorem zbu (hw:Region.wanted o (yielded ops a.tmps)=false) (h:zbU I P ops S Q rest (k+1) F (a.put o.dst undef)):zbU I P ops S Q (o :: rest) k F a:=by
 constructor;unfold Ju;rw[if_neg (by rw[hw];exact Bool.false_ne_true)]
 exact h.out
theorem zI {s:zcf} (hw:Region.wanted o (yielded ops a.tmps)=true) (hS:S k=some s)
  (h:∀w,I w->s.pre w->(∀m,anc ops 3 m k=true->F m w)->zK P o a w fun v w'=>I w'/\s.step w w'/\s.pv v/\s.post v w')
  (hn:∀v,s.pv v->zbU I P ops S Q rest (k+1) (ZV F k (s.post v)) (a.put o.dst v)):zbU I P ops S Q (o :: rest) k F a:=by
 constructor;unfold Ju;rw[if_pos hw];simp only[hS];exact⟨h,fun v hv=>(hn v hv).out⟩
theorem jO (h:∀w,I w->(∀i,F i w)->Q a w):zbU I P ops S Q [] k F a:=⟨h⟩
end
def bel (m n:Int):Bool:=decide (0<=m) && decide (m<n)
theorem zaz {m n:Int}:bel m n=true↔0<=m/\m<n:=by simp[bel]
theorem ziH {m n:Int} (h:¬(0<=m/\m<n)):bel m n=false:=by
 cases hb:bel m n with
 | false=>rfl
 | true=>exact absurd (zaz.1 hb) h
theorem zkV {α:Type} {p:α->Bool} {fs:List α} {k:Nat} {q:α} (h:fs[k]? =some q) (hq:p q=true):fs.any p=true:=List.any_eq_true.2 ⟨q,mG h,hq⟩
theorem zkU {α:Type} {p:α->Bool} {fs:List α} (hb:∀(j:Nat) x,fs[j]? =some x->p x=false):fs.any p=false:=List.any_eq_false.2 fun x hx=>by
 obtain⟨j,hj⟩:=List.getElem?_of_mem hx;rw[hb j x hj]
 decide
theorem jA {α:Type} {l:List α} {k:Nat} {q:α} (h:l[k]? =some q):l.drop k=q :: l.drop (k+1):=by
 obtain⟨hlt,rfl⟩:=gS.1 h;exact List.drop_eq_getElem_cons hlt
theorem jm {α:Type} {l:List α} {k:Nat} {q:α} (h:l[k]? =some q):l.take (k+1)=l.take k++ [q]:=by
 rw[List.take_add_one,h];rfl
theorem zd1 {α:Type} {A:α} {p k:Nat} {s:α} (h:List.lookup k [(p,A)]=some s):k=p/\s=A:=by
 by_cases h1:k=p
 ·subst h1
  simp at h
  exact⟨rfl,h.symm⟩
 have e1:(k == p)=false:=by simpa using h1
 simp[List.lookup,e1]at h
theorem zgF {α:Type} {A B:α} {p k:Nat} {s:α} (h:List.lookup k [(p,A),(q,B)]=some s):(k=p/\s=A)\/(k=q/\s=B):=by
 by_cases h1:k=p
 ·subst h1
  simp at h
  exact .inl ⟨rfl,h.symm⟩
 by_cases h2:k=q
 ·subst h2;have e1:(k == p)=false:=by simpa using h1
  simp[List.lookup,e1]at h
  exact .inr ⟨rfl,h.symm⟩
 have e1:(k == p)=false:=by simpa using h1
 have e2:(k == q)=false:=by simpa using h2
 simp[List.lookup,e1,e2]at h
theorem zr.beside {α:Type} {E:Elt α} {w:World} {row:Option Nat} {v:Value} {l:List α} (h:zr E w v l) (hg:w.grownBy w' row) (hn:∀x n c,v= .slice (some x) n c->some x.block≠row):zr E w' v l:=by
 obtain⟨⟨a,c,h1,h2,h3⟩,h4⟩:=h;refine⟨⟨a,c,h1,h2,fun x hx j u hj=>?_⟩,h4⟩
 subst hx;exact hg.cell (h3 x rfl j u hj) (by rw[Jg];exact hn x _ _ h1)
theorem zcW {α:Type} {l:List α} {v:α} (h:l[i]? =some v):l.set i v=l:=by
 apply List.ext_getElem?
 intro j
 by_cases e:j=i
 ·subst e;rw[sF (gS.1 h).1,h]
 rw[sN (fun h=>e h.symm)]
theorem Qz {a b c:World} {row:Option Nat} (h:a.grownBy b row) (k:b.grownBy c row):a.grownBy c row:=
 ⟨k.os.trans h.os,k.tape.trans h.tape,k.output.trans h.output,nT h.size k.size,fun i hi hr=>(k.block i (Nat.lt_of_lt_of_le hi h.size) hr).trans (h.block i hi hr)⟩
theorem zkB {a b:World} (h:zc a b) (row:Option Nat):a.grownBy b row:=⟨Below.os h,Below.tape h,Below.output h,bS h,fun i hi _=>Below.block h i hi⟩
def frv (a:Fr):List Value:=[.int .u8 a.p.b0,.int .u8 a.p.b1,.int .u8 a.p.b2,.int .u8 a.p.b3,.int .u8 a.p.b4,.int .u8 a.p.b5,.int .u8 a.p.b6,.int .u8 a.p.b7,.int .i64 a.r,.bool a.u,.bool a.d,.int .i64 a.f,.int .i64 a.x]
theorem zlI:(Tryz.prog.info? 53).map (fun i=>(i.zero,i.size,i.bytes))=some (some (.agg #[.int .u8 0,.int .u8 0,.int .u8 0,.int .u8 0,.int .u8 0,.int .u8 0,.int .u8 0,.int .u8 0,.int .i64 0,.bool false,.bool false,.int .i64 0,.int .i64 0]),13,40):=by kernel_rfl
def frz:Value:= .agg #[.int .u8 0,.int .u8 0,.int .u8 0,.int .u8 0,.int .u8 0,.int .u8 0,.int .u8 0,.int .u8 0,.int .i64 0,.bool false,.bool false,.int .i64 0,.int .i64 0]
theorem zid:frz.cells=(frv fr0).toArray:=rfl
theorem QA (a:Fr):(frv a).length=13:=rfl
theorem zff (a:Fr):∀u∈frv a,u.oneCell'=true:=fun u hu=>by
 simp only[frv,mC,nM,or_false]at hu
 rcases hu with rfl|rfl|rfl|rfl|rfl|rfl|rfl|rfl|rfl|rfl|rfl|rfl|rfl <;> rfl
theorem zfg:13<=40:=by decide
theorem zbD:0<13:=by decide
theorem zfV {a b:Fr} (h:JN a b=true):a=b:=(zbE a b).1 h
theorem zjJ {a b:Fr} (h:a≠b):JN a b=false:=by
 cases hb:JN a b with
 | false=>rfl
 | true=>exact absurd (zfV hb) h
def qh (w:World) (v:Value) (l:List Fr):Prop:=jh frv w v l/\l.length*40<=140737488355328
def zi (base:Nat) (w:World) (v:Value) (l:List Fr):Prop:=w.ownsRow base 53 13 v l.length (l.flatMap frv)/\l.length*40<=140737488355328
def zjI (w:World) (a:Option Addr) (l:List Fr):Prop:=∀(j:Nat) x,l[j]? =some x->∃ad,a=some ad/\∀W,zc w W->jl W (ad.add (j*13)) (frv x)
theorem zkH:frz.cells.size=13:=by rw[zid];simp[QA]
theorem ZH (l:List Fr):(l.flatMap frv).length=l.length*13:=qD l fun a _=>QA a
theorem qh.grew {w:World} {v:Value} {l:List Fr} (h:qh w v l) (hg:zc w w'):qh w' v l:=⟨h.1.grew hg,h.2⟩
theorem qh.rows {w:World} {v:Value} {l:List Fr} (h:qh w v l):∃a c,v= .slice a l.length c/\zjI w a l:=by
 obtain⟨⟨a,c,h1,h2,h3⟩,_⟩:=h;refine⟨a,c,h1,fun j q hj=>?_⟩
 cases a with
 | none=>rw[h2 rfl]at hj;simp at hj
 | some x=>exact⟨x,rfl,fun W hW=>((h3 x rfl).grew hW).elem (k:=13) (fun b _=>QA b) hj⟩
theorem qh.short {w:World} {v:Value} {l:List Fr} (h:qh w v l):l.length<=9223372036854775807:=by
 have h1:=h.2;have h2:l.length*1<=l.length*40:=Nat.mul_le_mul_left _ (nT zbD zfg);omega
theorem qh.setCell {base:Nat} {w:World} {v:Value} {l:List Fr} (h:qh w v l) (hf:jb base v) {a:Addr} (ha:a.block<base) (u:Value):qh (w.setCell a u) v l:=⟨h.1.setCell hf ha u,h.2⟩
theorem qh.nil (w:World):qh w (.slice none 0 0) ([]:List Fr):=⟨⟨none,0,rfl,fun _=>rfl,fun x hx=>by cases hx⟩,by simp⟩
theorem zi.at {base:Nat} {w:World} {v:Value} {l:List Fr} (h:zi base w v l):qh w v l:=⟨jM h.1,h.2⟩
theorem zi.grew {base:Nat} {w:World} {v:Value} {l:List Fr} (h:zi base w v l) (hg:zc w w'):zi base w' v l:=⟨ZT h.1 hg,h.2⟩
theorem zi.base {base:Nat} {w:World} {v:Value} {l:List Fr} (h:zi base w v l) (hb:base'<=base):zi base' w v l:=⟨qL h.1 hb,h.2⟩
theorem zi.setCell {base:Nat} {w:World} {v:Value} {l:List Fr} (h:zi base w v l) {a:Addr} (ha:a.block<base) (u:Value):zi base (w.setCell a u) v l:=⟨ownsRow_setCell_below h.1 ha u,h.2⟩
theorem zi.setOther {base:Nat} {w:World} {v:Value} {l:List Fr} (h:zi base w v l) {a:Addr} (ha:∀g,v.ownBlock=some g->a.block≠g) (u:Value):zi base (w.setCell a u) v l:=⟨jC h.1 ha u,h.2⟩
theorem zi.lt {base:Nat} {w:World} {v:Value} {l:List Fr} (h:zi base w v l):∀g,v.ownBlock=some g->base<=g/\g<w.heap.size:=h.1.lt
theorem zi.form {base:Nat} {w:World} {v:Value} {l:List Fr} (h:zi base w v l):∃a c,v= .slice a l.length c:=by
 obtain⟨a,c,h1,_⟩:=h.at.rows;exact⟨a,c,h1⟩
theorem zi.formS {base:Nat} {w:World} {v:Value} {l:List Fr} (h:zi base w v l) (hl:0<l.length):∃g c,v= .slice (some ⟨g,0,none⟩) l.length c:=by
 rcases h.1.2 with⟨rfl,h0⟩|⟨g,cap,cur,h0,_⟩
 ·omega
 exact⟨g,cap,h0⟩
theorem zi.fresh {base:Nat} {w:World} {v:Value} {l:List Fr} (h:zi base w v l):jb base v:=fun x n c e=>by
 rcases h.1.2 with⟨h0,_⟩|⟨g,cap,cur,h0,h1,_⟩
 ·rw[h0]at e;cases e
 rw[h0]at e;cases e;exact h1
theorem zi.nil (base:Nat) (w:World):zi base w (.slice none 0 0) ([]:List Fr):=⟨World.ownsRow_nil _ _ _ _,by simp⟩
theorem zi.made (w:World):zi w.heap.size (w.alloc (.cells #[] 53)) (.slice (some ⟨w.heap.size,0,none⟩) 0 0) ([]:List Fr):=⟨World.ownsRow_made w #[] 0 (nR _) (nZ _) (by simp),by simp⟩
theorem zi.ne {base:Nat} {w:World} {v:Value} {l:List Fr} (h:zi base w v l) {cs:List Value} (hb:zp w b t cs) (ht:t≠53):∀g,v.ownBlock=some g->b≠g:=fun g hg e=>by
 subst e
 rcases h.1.2 with⟨rfl,_⟩|⟨g',cap,cur,rfl,_,h3,_⟩
 ·cases hg
 simp only[Value.ownBlock,Option.some.injEq]at hg;subst hg;rw[hb]at h3;cases h3;exact ht rfl
def qS (base:Nat) (w:World) (v:Value) (l:List Fr):Prop:=qh w v l/\jb base v
theorem qS.base {base:Nat} {w:World} {v:Value} {l:List Fr} (h:qS base w v l) (hb:base'<=base):qS base' w v l:=⟨h.1,fun x n c e=>nT hb (h.2 x n c e)⟩
theorem qS.setCell {base:Nat} {w:World} {v:Value} {l:List Fr} (h:qS base w v l) {a:Addr} (ha:a.block<base) (u:Value):qS base (w.setCell a u) v l:=⟨h.1.setCell h.2 ha u,h.2⟩
theorem qS.nil (base:Nat) (w:World):qS base w (.slice none 0 0) ([]:List Fr):=⟨qh.nil w,j6 _⟩
theorem zi.new {base:Nat} {w:World} {v:Value} {l:List Fr} (h:zi base w v l):qS base w v l:=⟨h.at,h.fresh⟩
theorem zar {w:World} {base:Nat} {v:Value} {l:List Fr} (ty:TypeId) (hown:zi base w v l) (c:Nat):(Builtin.append_ #[26,26] ty #[v,.slice none 0 c]).run prog w= .ok v w:=by
 obtain⟨i0,hi,_,hz1,_⟩:=info_parts zlI
 rcases hown.1.2 with⟨rfl,_⟩|⟨g,cap,cur,rfl,_,_,hnc,_⟩
 ·simp[Builtin.append_,run_underlying underlying26,sizeOf,typeInfo,hi,Builtin.lenOf,Builtin.firstCells]
 simp[Builtin.append_,run_underlying underlying26,sizeOf,typeInfo,hi,Builtin.lenOf,Builtin.firstCells,hnc,storeCells]
theorem JM {w:World} {rest:List Oper} {a:Act} (hgd:o.guard=none) (s x:Operand) (ho:o.op= .call { callee:= .builtin .append,args:=#[s,x],argTypes:=#[26,26] })
  (base:Nat) (vs:Value) (l0:List Fr) (hs:a.eval s=vs) (hown:zi base w vs l0) (vx:Value) (l:List Fr) (hx:a.eval x=vx) (hv:qh w vx l) (hb:(l0.length+l.length)*40<=140737488355328) (hbase:base<=w.heap.size)
  (h:∀v' w',zi base w' v' (l0++l)->w.grownBy w' vs.ownBlock->wpList prog ops Q rest (a.put o.dst v') w'):wpList prog ops Q (o :: rest) a w:=by
 obtain⟨⟨ax,c,rfl,hnone,hcells⟩,_⟩:=hv
 cases ax with
 | none=>
  have hps:=hnone rfl;subst hps;refine wpList_plain hgd fun K hK=>?_
  have hrun:=zar o.type hown c;unfold Oper.wp execOp;simp only[ho,resolve,invoke,builtin,Sem.run_bind,Sem.run_pure,rA,List.map_toArray,mP,List.map_nil,hs,hx,List.length_nil,hrun];exact hK _ _ (h vs w (by rw[List.append_nil];exact hown) (World.grownBy.rfl' _ _))
 | some ad=>
  obtain⟨i0,hi,hz0,hz1,hz2⟩:=info_parts zlI;have h2:(l0.length+l.length)*1<=(l0.length+l.length)*40:=Nat.mul_le_mul_left _ (nT zbD zfg);refine wpList_append_own w hgd s x 26 ho base 53 i0 _ 13 40 underlying26 hi hz0 hz1 hz2 zkH zbD vs l0.length _ hs hown.1 ad l.length c (l.flatMap frv) hx (ZH l) (hcells ad rfl) (qV zff l) (qx (by omega)) hb hbase fun v' w' h1 h2 _=>?_
  exact h v' w' ⟨by rw[lA,List.flatMap_append];exact h1,by rw[lA];exact hb⟩ h2
theorem zaa {x y:Fr} (j:Nat) (cs:List Value) (hy:frv y=splice (frv x) j cs) (hj:j+cs.length<=13):∀(l:List Fr) (i:Nat),l[i]? =some x->splice (l.flatMap frv) (i*13+j) cs=(l.set i y).flatMap frv
 | [],i,hi=>by simp at hi
 | a :: l,0,hi=>by
  simp at hi
  subst hi;have ha:=QA a;simp only[splice,List.flatMap_cons,Nat.zero_mul,zA,sZ]at hy⊢;rw[hy,List.take_append_of_le_length (by omega),List.drop_append_of_le_length (by omega)]
  simp
 | a :: l,i+1,hi=>by
  have ha:=QA a;have ih:=zaa j cs hy hj l i (by simpa using hi)
  simp only[splice,List.flatMap_cons,sS]at ih⊢;rw[<-ih,Nat.succ_mul,Nat.add_comm (i*13) 13,Nat.add_assoc,<-ha,List.take_length_add_append,Nat.add_assoc,List.drop_length_add_append,List.append_assoc]
theorem jE {w:World} {rest:List Oper} {a:Act} (hgd:o.guard=none) (p x:Operand) (t:TypeId) (ho:o.op= .store t p x) (base:Nat) (v:Value) (l:List Fr) (hown:zi base w v l)
  (g i j:Nat) (hg:v.ownBlock=some g) (e y:Fr) (hi:l[i]? =some e) (cs:List Value) (hk:(Tryz.prog.info? t).map (·.size)=some cs.length) (hy:frv y=splice (frv e) j cs) (hj:j+cs.length<=13) (h1:∀u∈cs,u.oneCell'=true)
  (ad:Addr) (hp:a.eval p= .pointer (some ad)) (had:ad=⟨g,i*13+j,none⟩) (vx:Value) (hx:a.eval x=vx) (hvx:vx.cells=cs.toArray)
  (h:∀w',zi base w' v (l.set i y)->w.grownBy w' (some g)->w'.heap.size=w.heap.size->wpList prog ops Q rest (a.put o.dst undef) w'):wpList prog ops Q (o :: rest) a w:=by
 subst had;refine wpList_plain hgd fun K hK=>?_
 have hil:i<l.length:=(gS.1 hi).1;have hfit:i*13+j+cs.length<=l.length*13:=by
  have:(i+1)*13<=l.length*13:=Nat.mul_le_mul_right _ hil;rw[Nat.add_mul]at this;omega
 obtain⟨w',hr,h2,h3,h4⟩:=qR (P:=prog) hown.1 hg (i*13+j) cs hfit h1;have hsz:(Go.sizeOf t).run prog w= .ok cs.length w:=by
  cases hq:Tryz.prog.info? t with
  | none=>simp[hq]at hk
  | some i=>simp[hq]at hk;simp[Go.sizeOf,typeInfo,hq,hk]
 have hall:(Instr.storeAt t (.pointer (some ⟨g,i*13+j,none⟩)) vx).run prog w= .ok () w':=by
  simp[Instr.storeAt,Instr.sureAddr,storeVar,Sem.run_bind,hsz,Result.andThen,hvx,hr]
 unfold Oper.wp;simp only[execOp,ho,hp,hx,Sem.run_bind,hall,Result.andThen,Sem.run_pure,Oper.upon];rw[zaa j cs hy hj l i hi]at h2;exact hK _ _ (h w' ⟨by rw[List.length_set];exact h2,by rw[List.length_set];exact hown.2⟩ h3 h4)
theorem zgP (n:Nat):(madeCells frz.cells (n*13)).toList=(List.replicate n fr0).flatMap frv:=by
 have hl:((List.replicate n fr0).flatMap frv).length=n*13:=by rw[ZH];simp
 have hp:0<13:=zbD
 apply List.ext_getElem?
 intro j
 rcases Nat.lt_or_ge j (n*13)with h|h
 ·have hj:j=j / 13*13+j % 13:=by rw[Nat.mul_comm];exact(Nat.div_add_mod _ _).symm
  have h8:j % 13<13:=Nat.mod_lt _ hp;have hq:j / 13<n:=(Nat.div_lt_iff_lt_mul hp).2 h;have hz:(frv fr0)[j % 13]? =some ((frv fr0)[j % 13]'(by rw[QA];exact h8)):=gE _
  have h1:=qA (enc:=frv) (k:=13) (List.replicate n fr0) (j / 13) fr0 (fun a _=>QA a) (by simp[hq]) (j % 13) _ hz
  rw[<-hj]at h1;rw[h1]
  simp[madeCells,h,zid,QA]
  rw[hz];rfl
 rw[gN (by simp[madeCells];exact h),gN (by rw[hl];exact h)]
theorem Ql {w:World} {rest:List Oper} {a:Act} (hgd:o.guard=none) (l:Operand) (ho:o.op= .makeSlice 26 l l) (n:Nat) (hl:a.eval l= .int .i64 n) (hn:n*40<=140737488355328)
  (h:∀C,zi w.heap.size (w.alloc (.cells C 53)) (.slice (some ⟨w.heap.size,0,none⟩) n n) (List.replicate n fr0)->wpList prog ops Q rest (a.put o.dst (.slice (some ⟨w.heap.size,0,none⟩) n n)) (w.alloc (.cells C 53))):wpList prog ops Q (o :: rest) a w:=by
 refine wpList_plain hgd fun K hK=>?_
 obtain⟨i0,hi,hz0,hz1,hz2⟩:=info_parts zlI;have h2:n*1<=n*40:=Nat.mul_le_mul_left _ (nT zbD zfg);have hb:((40:Nat):Int)*(n:Int)<=140737488355328:=by omega
 have hrun:=run_make (P:=prog) w 26 53 i0 _ underlying26 hi hz0 .i64 .i64 n n (by omega) (Int.le_refl _) (by rw[hz2];exact Int.le_trans hb (by omega)) (by omega)
 rw[hz1,tN]at hrun;unfold Oper.wp;simp only[execOp,ho,hl,Sem.run_bind,hrun,Result.andThen,Sem.run_pure,Oper.upon];refine hK _ _ (h _ ⟨⟨?_,.inr ⟨w.heap.size,n,madeCells frz.cells (n*13),by rw[lR],nR _,?_,?_,?_,?_,?_⟩⟩,by rw[lR];exact hn⟩)
 ·rw[ZH]
 ·show(w.heap.push _)[w.heap.size]? =_
  simp;rfl
 ·rw[lR];exact nR _
 ·exact qx (by omega)
 ·rw[size_madeCells]
 rw[lR,List.take_of_length_le (by simp[madeCells]),zgP]
theorem QI {P:Program} (w:World) (E:TypeId) (k:IntKind) (d:Nat) (xs ys:Array Value) (i:TypeInfo) (hE:P.underlying E=some (.int k)) (hi:P.info? E=some i) (hs:i.size=1):
  ∀(a b:List Int) (o:Nat),a.length=b.length->(∀j v,a[j]? =some v->xs[o+j]? =some (.int k v))->(∀j v,b[j]? =some v->ys[o+j]? =some (.int k v))->
   (Op.eqItems (d+1) E 1 xs ys (List.range' o a.length)).run P w= .ok (decide (a=b)) w
 | [],[],_,_,_,_=>by simp[Op.eqItems]
 | [],_ :: _,_,h,_,_=>by simp at h
 | _ :: _,[],_,h,_,_=>by simp at h
 | x :: a,y :: b,o,h,hx,hy=>by
  have h1:=hx 0 x rfl;have h2:=hy 0 y rfl;have hp:∀(zs:Array Value) v,zs[o+0]? =some (.int k v)->(part E zs (o*1)).run P w= .ok (.int k v) w:=fun zs v hz=>by
   rw[Nat.mul_one];exact run_part_plain w (by simp[Program.plainKey,hE]) hz
  have ih:=QI w E k d xs ys i hE hi hs a b (o+1) (by simpa using h) (fun j v hj=>by rw[Nat.add_assoc,Nat.add_comm 1 j];exact hx (j+1) v (by simpa using hj)) (fun j v hj=>by rw[Nat.add_assoc,Nat.add_comm 1 j];exact hy (j+1) v (by simpa using hj))
  simp only[List.length_cons,List.range'_succ,Op.eqItems,Sem.run_bind,hp xs x h1,hp ys y h2,rA,run_equalIn_int w d E k k x y hE]
  by_cases hxy:x=y
  ·subst hxy
   simp[ih]
  have:(x == y)=false:=by simpa using hxy
  simp[this,hxy]
theorem zb6 {P:Program} (w:World) (T E:TypeId) (k:IntKind) (d n:Nat) (a b:List Int) (i:TypeInfo) (hT:P.underlying T=some (.array n E)) (hE:P.underlying E=some (.int k)) (hi:P.info? E=some i) (hs:i.size=1)
  (ha:a.length=n) (hb:b.length=n):
  (Op.equalIn (d+2) T (.agg (a.map (Value.int k)).toArray) (.agg (b.map (Value.int k)).toArray)).run P w= .ok (decide (a=b)) w:=by
 have hc:P.cellsOf E=1:=by simp[Program.cellsOf,hi,hs]
 rw[run_equalIn_array w (d+1) _ _ hT hi,hc,List.range_eq_range',<-ha];exact QI w E k d _ _ i hE hi hs a b 0 (by omega) (fun j v hj=>by simp[hj]) (fun j v hj=>by simp[hj])
def zdq (W:World) (y:Addr) (a:Fr):Prop:=
 W.cell? y=some (.int .u8 a.p.b0)/\W.cell? { block:=y.block,off:=y.off+1 }=some (.int .u8 a.p.b1)/\W.cell? { block:=y.block,off:=y.off+2 }=some (.int .u8 a.p.b2)/\W.cell? { block:=y.block,off:=y.off+3 }=some (.int .u8 a.p.b3)/\
 W.cell? { block:=y.block,off:=y.off+4 }=some (.int .u8 a.p.b4)/\W.cell? { block:=y.block,off:=y.off+5 }=some (.int .u8 a.p.b5)/\W.cell? { block:=y.block,off:=y.off+6 }=some (.int .u8 a.p.b6)/\W.cell? { block:=y.block,off:=y.off+7 }=some (.int .u8 a.p.b7)/\
 W.cell? { block:=y.block,off:=y.off+8 }=some (.int .i64 a.r)/\W.cell? { block:=y.block,off:=y.off+9 }=some (.bool a.u)/\W.cell? { block:=y.block,off:=y.off+10 }=some (.bool a.d)/\W.cell? { block:=y.block,off:=y.off+11 }=some (.int .i64 a.f)/\W.cell? { block:=y.block,off:=y.off+12 }=some (.int .i64 a.x)
theorem jl.fr {y:Addr} {a:Fr} (h:jl W y (frv a)):zdq W y a:=
 ⟨h 0 _ rfl,h 1 _ rfl,h 2 _ rfl,h 3 _ rfl,h 4 _ rfl,h 5 _ rfl,h 6 _ rfl,h 7 _ rfl,h 8 _ rfl,h 9 _ rfl,h 10 _ rfl,h 11 _ rfl,h 12 _ rfl⟩
def zae (w:World) (a:Option Addr) (l:List Fr):Prop:=∀(j:Nat) x,l[j]? =some x->∃ad,a=some ad/\∀W,zc w W->zdq W (ad.add (j*13)) x
theorem qh.frs {w:World} {v:Value} {l:List Fr} (h:qh w v l):∃a c,v= .slice a l.length c/\zae w a l:=by
 obtain⟨a,c,h1,h2⟩:=h.rows;refine⟨a,c,h1,fun j x hj=>?_⟩
 obtain⟨ad,h3,h4⟩:=h2 j x hj;exact⟨ad,h3,fun W hW=>(h4 W hW).fr⟩
theorem zlJ:(Tryz.prog.info? 5).map (fun i=>(i.zero,i.size,i.bytes))=some (some (.int .u8 0),1,1):=by kernel_rfl
theorem zcm (k:Nat) (b0 b1 b2 b3 b4 b5 b6 b7 c0 c1 c2 c3 c4 c5 c6 c7:Int) (x:World):(Op.equalIn (k+2) 44 (.agg #[.int .u8 b0,.int .u8 b1,.int .u8 b2,.int .u8 b3,.int .u8 b4,.int .u8 b5,.int .u8 b6,.int .u8 b7]) (.agg #[.int .u8 c0,.int .u8 c1,.int .u8 c2,.int .u8 c3,.int .u8 c4,.int .u8 c5,.int .u8 c6,.int .u8 c7])).run prog x= .ok (zdM ⟨b0,b1,b2,b3,b4,b5,b6,b7⟩ ⟨c0,c1,c2,c3,c4,c5,c6,c7⟩) x:=by
 obtain⟨i5,hi5,_,hz1,_⟩:=info_parts zlJ;have:=zb6 (P:=prog) x 44 5 .u8 k 8 [b0,b1,b2,b3,b4,b5,b6,b7] [c0,c1,c2,c3,c4,c5,c6,c7] i5 underlying44 underlying5 hi5 hz1 rfl rfl;rw[show zdM ⟨b0,b1,b2,b3,b4,b5,b6,b7⟩ ⟨c0,c1,c2,c3,c4,c5,c6,c7⟩=decide ([b0,b1,b2,b3,b4,b5,b6,b7]=[c0,c1,c2,c3,c4,c5,c6,c7])from by
  rw[Bool.eq_iff_iff,zbm,decide_eq_true_iff];simp only[Pg.mk.injEq,List.cons.injEq,and_true]]
 exact this
theorem zkG (b0 b1 b2 b3 b4 b5 b6 b7 r:Int) (u d:Bool) (f x:Int) (c0 c1 c2 c3 c4 c5 c6 c7 r':Int) (u' d':Bool) (f' x':Int) (W:World):
  (Op.equalIn 10000 53 (.agg #[.int .u8 b0,.int .u8 b1,.int .u8 b2,.int .u8 b3,.int .u8 b4,.int .u8 b5,.int .u8 b6,.int .u8 b7,.int .i64 r,.bool u,.bool d,.int .i64 f,.int .i64 x]) (.agg #[.int .u8 c0,.int .u8 c1,.int .u8 c2,.int .u8 c3,.int .u8 c4,.int .u8 c5,.int .u8 c6,.int .u8 c7,.int .i64 r',.bool u',.bool d',.int .i64 f',.int .i64 x'])).run prog W
   = .ok (JN ⟨⟨b0,b1,b2,b3,b4,b5,b6,b7⟩,r,u,d,f,x⟩ ⟨⟨c0,c1,c2,c3,c4,c5,c6,c7⟩,r',u',d',f',x'⟩) W:=by
 have hS:Tryz.prog.underlying 53=some (.struct (Tryz.prog.fieldsOf 53)):=by kernel_rfl
 have hp:Tryz.prog.stoodInHeld 53=false:=by kernel_rfl
 have hpg:=zcm 9997 b0 b1 b2 b3 b4 b5 b6 b7 c0 c1 c2 c3 c4 c5 c6 c7;have u3:=underlying3;have a3:=Tryz.isAgg3;have z3:=Tryz.sizeOf3;have u4:=underlying4;have a4:=Tryz.isAgg4;have z4:=Tryz.sizeOf4;have a23:=Tryz.isAgg44;have z23:=Tryz.sizeOf44;rw[show JN ⟨⟨b0,b1,b2,b3,b4,b5,b6,b7⟩,r,u,d,f,x⟩ ⟨⟨c0,c1,c2,c3,c4,c5,c6,c7⟩,r',u',d',f',x'⟩=(zdM ⟨b0,b1,b2,b3,b4,b5,b6,b7⟩ ⟨c0,c1,c2,c3,c4,c5,c6,c7⟩ &&(r == r') &&(u == u') &&(d == d') &&(f == f') &&(x == x'))from rfl]
 generalize zdM ⟨b0,b1,b2,b3,b4,b5,b6,b7⟩ ⟨c0,c1,c2,c3,c4,c5,c6,c7⟩=P at hpg⊢
 rw[show(10000:Nat)=9999+1 from rfl,run_equalIn_agg W 9999 53 _ _ hS hp]
 simp only[Program.fieldsOf,underlying53]
 go_simp
 cases P
 ·simp
 by_cases h1:r=r' <;> by_cases h2:u=u' <;> by_cases h3:d=d' <;> by_cases h4:f=f' <;> by_cases h5:x=x' <;> simp[h1,h2,h3,h4,h5]
theorem zK.step {P:Program} {a:Act} {w:World} {v:Value} {K:Value->World->Prop} (hr:(execOp a.eval o).run P w= .ok (.value v) w') (h:K v w'):zK P o a w K:=by
 unfold zK;rw[hr];exact h
section
variable{α:Type} {E:Elt α}
theorem je {w:World} {base g:Nat} (ty:TypeId) (h0:zb E base w (.slice (some ⟨g,0,none⟩) 0 0) ([]:List α)) (vx:Value) (l:List α) (hv:zr E w vx l) (hbase:base<=w.heap.size):
  ∃v' w',(Builtin.append_ #[E.st,E.st] ty #[.slice (some ⟨g,0,none⟩) 0 0,vx]).run prog w= .ok v' w'/\zb E base w' v' l/\zc w w'/\(l=[]->v'= .slice (some ⟨g,0,none⟩) 0 0):=by
 obtain⟨i0,hi,hz0,hz1,hz2⟩:=info_parts E.info;obtain⟨⟨ax,c,rfl,hnone,hcells⟩,hb⟩:=hv
 by_cases hq:l=[]
 ·subst hq;refine⟨_,w,?_,h0,zc.refl w,fun _=>rfl⟩
  cases ax with
  | none=>simp[Builtin.append_,run_underlying E.und,sizeOf,typeInfo,hi,Builtin.lenOf,Builtin.firstCells,storeCells]
  | some x=>simp[Builtin.append_,run_underlying E.und,sizeOf,typeInfo,hi,Builtin.lenOf,Builtin.firstCells,loadCells,loadCellsFrom,storeCells]
 cases ax with
 | none=>exact absurd (hnone rfl) hq
 | some ad=>
  have hpos:0<l.length:=List.length_pos_iff.2 hq;have h2:l.length*1<=l.length*E.bytes:=Nat.mul_le_mul_left _ (nT E.pos E.few);obtain⟨v',w',hr,ho,hg⟩:=run_append_arg_grows (P:=prog) w E.st ty E.ty i0 _ E.k E.bytes E.und hi hz0 hz1 hz2 (ziU E) E.pos ⟨g,0,none⟩ 0 0 [] (by simp) (fun j u hj=>by simp at hj) ad l.length c (l.flatMap E.enc) (jU E l) (hcells ad rfl) (by omega) (qx (by omega)) (by simpa using hb)
  refine⟨v',w',hr,⟨qL (by simpa using ho) hbase,hb⟩,⟨hg.os,hg.tape,hg.output,hg.size,fun k hk=>hg.block k hk (by simp)⟩,fun h=>absurd h hq⟩
theorem qj {w:World} {base:Nat} {v:Value} {l0:List α} (ty:TypeId) (h0:zb E base w v l0) (vx:Value) (l:List α) (hv:zr E w vx l) (hb:(l0.length+l.length)*E.bytes<=140737488355328) (hbase:base<=w.heap.size):
  ∃v' w',(Builtin.append_ #[E.st,E.st] ty #[v,vx]).run prog w= .ok v' w'/\zb E base w' v' (l0++l)/\w.grownBy w' v.ownBlock/\∀u m,m.length<=l0.length->zb E base w u m->zb E base w' u m:=by
 obtain⟨i0,hi,hz0,hz1,hz2⟩:=info_parts E.info;obtain⟨⟨ax,c,rfl,hnone,hcells⟩,hby⟩:=hv;have h2:(l0.length+l.length)*1<=(l0.length+l.length)*E.bytes:=Nat.mul_le_mul_left _ (nT E.pos E.few)
 cases ax with
 | none=>
  have hps:=hnone rfl;subst hps;exact⟨v,w,QX ty h0 c,by simpa using h0,World.grownBy.rfl' _ _,fun u m _ h=>h⟩
 | some ad=>
  rcases h0.1.2 with⟨rfl,hn0⟩|⟨g,cap,cur,rfl,hgb,hgc,hnc,hcm,hcs,hct⟩
  ·obtain⟨v',w',hr,ho,hg,_⟩:=run_append_own (P:=prog) w base E.st ty E.ty i0 _ E.k E.bytes E.und hi hz0 hz1 hz2 (ziU E) E.pos _ l0.length _ h0.1 ad l.length c (l.flatMap E.enc) (jU E l) (hcells ad rfl) (qV E.one l) (qx (by omega)) hb hbase
   refine⟨v',w',hr,⟨by rw[lA,List.flatMap_append];exact ho,by rw[lA];exact hb⟩,hg,fun u m _ h=>h.grown hg (fun g' _ e=>by cases e)⟩
  by_cases hroom:l0.length+l.length<=cap
  ·obtain⟨w',hr,ho,hg⟩:=run_append_fits (P:=prog) w base E.st ty E.ty i0 E.k E.und hi hz1 g l0.length cap _ h0.1 ad l.length c (l.flatMap E.enc) (jU E l) (hcells ad rfl) (qV E.one l) hroom;refine⟨_,w',hr,⟨by rw[lA,List.flatMap_append];exact ho,by rw[lA];exact hb⟩,hg,fun u m hm h=>?_⟩
   by_cases he:u.ownBlock=some g
   ·rcases h.1.2 with⟨rfl,_⟩|⟨g',cap',cur',rfl,k1,k2,k3,k4,k5,k6⟩
    ·cases he
    simp only[Value.ownBlock,Option.some.injEq]at he;subst he;rw[hgc]at k2;simp only[Option.some.injEq,Obj.cells.injEq,and_true]at k2;obtain rfl:=k2;have hcc:cap'=cap:=Nat.eq_of_mul_eq_mul_right E.pos (k5.symm.trans hcs);subst hcc
    rcases ho.2 with⟨hx,_⟩|⟨g2,cap2,cur2,e1,_,e3,e4,e5,e6,e7⟩
    ·cases hx
    cases e1;refine⟨⟨h.1.1,.inr ⟨g',cap',cur2,rfl,k1,e3,k3,k4,e6,?_⟩⟩,h.2⟩;have hle:m.length*E.k<=l0.length*E.k:=Nat.mul_le_mul_right _ hm;have hl0:(l0.flatMap E.enc).length=l0.length*E.k:=jU E l0;have ht:cur2.toList.take (m.length*E.k)=(cur2.toList.take ((l0.length+l.length)*E.k)).take (m.length*E.k):=by
     rw[List.take_take,Nat.min_eq_left (by rw[Nat.add_mul];omega)]
    rw[ht,e7,List.take_append_of_le_length (by rw[hl0];exact hle),<-hct,List.take_take,Nat.min_eq_left hle]
    exact k6
   exact h.grown hg (fun g' hg' e=>by cases e;exact he hg')
  obtain⟨v',w',hr,ho,hg⟩:=run_append_arg_grows (P:=prog) w E.st ty E.ty i0 _ E.k E.bytes E.und hi hz0 hz1 hz2 (ziU E) E.pos ⟨g,0,none⟩ l0.length cap (l0.flatMap E.enc) (jU E l0) (h0.1.cells rfl) ad l.length c (l.flatMap E.enc) (jU E l) (hcells ad rfl) (by omega) (qx (by omega)) hb
  refine⟨v',w',hr,⟨by rw[lA,List.flatMap_append];exact qL ho hbase,by rw[lA];exact hb⟩,⟨hg.os,hg.tape,hg.output,hg.size,fun k hk _=>hg.block k hk (by simp)⟩,fun u m _ h=>h.grown hg (fun g' _ e=>by cases e)⟩
end
def pgc (p:List Int):List Value:=p.map (Value.int .u8)
def ptc (q:Int × List Int):List Value:= .int .i64 q.1 :: pgc q.2
theorem Qd (p:List Int):(pgc p).length=p.length:=by simp[pgc]
theorem zan (q:Int × List Int):(ptc q).length=q.2.length+1:=by simp[ptc,pgc]
theorem Qq (p:List Int):∀u∈pgc p,u.oneCell'=true:=fun u hu=>by
 obtain⟨x,_,rfl⟩:=List.mem_map.1 hu;rfl
theorem zbk (q:Int × List Int):∀u∈ptc q,u.oneCell'=true:=fun u hu=>by
 rcases mC.1 hu with rfl|h
 ·rfl
 exact Qq _ u h
def qK (w:World) (v:Value) (ps:List (List Int)):Prop:=jh pgc w v ps/\(∀p∈ps,p.length=8)/\ps.length*8<=140737488355328
def qE (w:World) (v:Value) (qs:List (Int × List Int)):Prop:=jh ptc w v qs/\(∀q∈qs,q.2.length=8)/\qs.length*16<=140737488355328
theorem qK.grew {w:World} {v:Value} {ps:List (List Int)} (h:qK w v ps) (hg:zc w w'):qK w' v ps:=⟨h.1.grew hg,h.2⟩
theorem qE.grew {w:World} {v:Value} {qs:List (Int × List Int)} (h:qE w v qs) (hg:zc w w'):qE w' v qs:=⟨h.1.grew hg,h.2⟩
def zh (base:Nat) (w:World) (v:Value) (ps:List (List Int)):Prop:=w.ownsRow base 44 8 v ps.length (ps.flatMap pgc)/\(∀p∈ps,p.length=8)/\ps.length*8<=140737488355328
def zm (base:Nat) (w:World) (v:Value) (qs:List (Int × List Int)):Prop:=w.ownsRow base 100 9 v qs.length (qs.flatMap ptc)/\(∀q∈qs,q.2.length=8)/\qs.length*16<=140737488355328
theorem zh.at {base:Nat} {w:World} {v:Value} {ps:List (List Int)} (h:zh base w v ps):qK w v ps:=⟨jM h.1,h.2⟩
theorem zm.at {base:Nat} {w:World} {v:Value} {qs:List (Int × List Int)} (h:zm base w v qs):qE w v qs:=⟨jM h.1,h.2⟩
def Zb (w:World) (d:Value) (ps:List (List Int)) (qs:List (Int × List Int)):Prop:=∃b q,d= .agg #[b,q]/\qK w b ps/\qE w q qs
theorem Zb.grew {w:World} {d:Value} {ps:List (List Int)} {qs:List (Int × List Int)} (h:Zb w d ps qs) (hg:zc w w'):Zb w' d ps qs:=by
 obtain⟨b,q,h1,h2,h3⟩:=h;exact⟨b,q,h1,h2.grew hg,h3.grew hg⟩
theorem zeE (l:List Int) (h:l.length=8):∃c0 c1 c2 c3 c4 c5 c6 c7,l=[c0,c1,c2,c3,c4,c5,c6,c7]:=by
 match l,h with
 | [c0,c1,c2,c3,c4,c5,c6,c7],_=>exact⟨c0,c1,c2,c3,c4,c5,c6,c7,rfl⟩
def zf7 (W:World) (y:Addr) (m b0 b1 b2 b3 b4 b5 b6 b7:Int):Prop:=
 W.cell? y=some (.int .i64 m)/\W.cell? { block:=y.block,off:=y.off+1 }=some (.int .u8 b0)/\W.cell? { block:=y.block,off:=y.off+2 }=some (.int .u8 b1)/\W.cell? { block:=y.block,off:=y.off+3 }=some (.int .u8 b2)/\
 W.cell? { block:=y.block,off:=y.off+4 }=some (.int .u8 b3)/\W.cell? { block:=y.block,off:=y.off+5 }=some (.int .u8 b4)/\W.cell? { block:=y.block,off:=y.off+6 }=some (.int .u8 b5)/\W.cell? { block:=y.block,off:=y.off+7 }=some (.int .u8 b6)/\W.cell? { block:=y.block,off:=y.off+8 }=some (.int .u8 b7)
def zbV (W:World) (y:Addr) (b0 b1 b2 b3 b4 b5 b6 b7:Int):Prop:=
 W.cell? y=some (.int .u8 b0)/\W.cell? { block:=y.block,off:=y.off+1 }=some (.int .u8 b1)/\W.cell? { block:=y.block,off:=y.off+2 }=some (.int .u8 b2)/\W.cell? { block:=y.block,off:=y.off+3 }=some (.int .u8 b3)/\
 W.cell? { block:=y.block,off:=y.off+4 }=some (.int .u8 b4)/\W.cell? { block:=y.block,off:=y.off+5 }=some (.int .u8 b5)/\W.cell? { block:=y.block,off:=y.off+6 }=some (.int .u8 b6)/\W.cell? { block:=y.block,off:=y.off+7 }=some (.int .u8 b7)
theorem jl.put {y:Addr} {m b0 b1 b2 b3 b4 b5 b6 b7:Int} (h:jl W y (ptc (m,[b0,b1,b2,b3,b4,b5,b6,b7]))):zf7 W y m b0 b1 b2 b3 b4 b5 b6 b7:=
 ⟨h 0 _ rfl,h 1 _ rfl,h 2 _ rfl,h 3 _ rfl,h 4 _ rfl,h 5 _ rfl,h 6 _ rfl,h 7 _ rfl,h 8 _ rfl⟩
theorem jl.page {y:Addr} {b0 b1 b2 b3 b4 b5 b6 b7:Int} (h:jl W y (pgc [b0,b1,b2,b3,b4,b5,b6,b7])):zbV W y b0 b1 b2 b3 b4 b5 b6 b7:=
 ⟨h 0 _ rfl,h 1 _ rfl,h 2 _ rfl,h 3 _ rfl,h 4 _ rfl,h 5 _ rfl,h 6 _ rfl,h 7 _ rfl⟩
def JQ (w:World) (a:Option Addr) (qs:List (Int × List Int)):Prop:=
 ∀(j:Nat) q,qs[j]? =some q->∃x m b0 b1 b2 b3 b4 b5 b6 b7,a=some x/\q=(m,[b0,b1,b2,b3,b4,b5,b6,b7])/\∀W,zc w W->zf7 W (x.add (j*9)) m b0 b1 b2 b3 b4 b5 b6 b7
def zdp (w:World) (a:Option Addr) (ps:List (List Int)):Prop:=
 ∀(j:Nat) p,ps[j]? =some p->∃x b0 b1 b2 b3 b4 b5 b6 b7,a=some x/\p=[b0,b1,b2,b3,b4,b5,b6,b7]/\∀W,zc w W->zbV W (x.add (j*8)) b0 b1 b2 b3 b4 b5 b6 b7
theorem qE.rows {w:World} {v:Value} {qs:List (Int × List Int)} (h:qE w v qs):∃a c,v= .slice a qs.length c/\JQ w a qs:=by
 obtain⟨⟨a,c,h1,h2,h3⟩,h4,_⟩:=h;refine⟨a,c,h1,fun j q hj=>?_⟩
 have hm:q∈qs:=mG hj;obtain⟨m,l⟩:=q;obtain⟨b0,b1,b2,b3,b4,b5,b6,b7,rfl⟩:=zeE l (h4 _ hm)
 cases a with
 | none=>rw[h2 rfl]at hm;cases hm
 | some x=>exact⟨x,m,b0,b1,b2,b3,b4,b5,b6,b7,rfl,rfl,fun W hW=>(((h3 x rfl).grew hW).elem (k:=9) (fun b hb=>by rw[zan,h4 b hb]) hj).put⟩
theorem qK.rows {w:World} {v:Value} {ps:List (List Int)} (h:qK w v ps):∃a c,v= .slice a ps.length c/\zdp w a ps:=by
 obtain⟨⟨a,c,h1,h2,h3⟩,h4,_⟩:=h;refine⟨a,c,h1,fun j q hj=>?_⟩
 have hm:q∈ps:=mG hj;obtain⟨b0,b1,b2,b3,b4,b5,b6,b7,rfl⟩:=zeE q (h4 _ hm)
 cases a with
 | none=>rw[h2 rfl]at hm;cases hm
 | some x=>exact⟨x,b0,b1,b2,b3,b4,b5,b6,b7,rfl,rfl,fun W hW=>(((h3 x rfl).grew hW).elem (k:=8) (fun b hb=>by rw[Qd,h4 b hb]) hj).page⟩
theorem Q9 (a:Option Addr) (n c:Nat) (q:Value) (m:Int) (w:World):
  Calls prog 188 #[.agg #[.slice a n c,q],.int .i64 m] w fun e w'=>e= .returned (.bool (jk m n))/\zc w w':=by
 have H:Hid (jk m n=(decide (0<=m) && decide (m<n))):=rfl
 by_cases h0:0<=m
 ·by_cases h1:m<n
  ·go_enter func188,ntmps188
   go_wp2;go_ret;exact⟨by rw[H.out];simp[*],(bR _ _).alloc (nR _) _⟩
  go_enter func188,ntmps188
  go_wp2;go_ret;exact⟨by rw[H.out];simp[*],(bR _ _).alloc (nR _) _⟩
 go_enter func188,ntmps188
 go_wp2;go_ret;exact⟨by rw[H.out];simp;omega,(bR _ _).alloc (nR _) _⟩
theorem zgf (a:Option Addr) (n c:Nat) (qv:Value) (B:Nat) (q:Int × List Int) (hq:q.2.length=8) (w:World) (hc0:w.cell? ⟨B,0,none⟩=some (.slice a n c)) (hc1:w.cell? ⟨B,1,none⟩=some qv):
  Calls prog 187 #[.agg (ptc q).toArray,.pointer (some ⟨B,0,none⟩)] w fun e w'=>e= .returned (.bool (!jk q.1 n))/\zc w w':=by
 obtain⟨m,l⟩:=q;obtain⟨b0,b1,b2,b3,b4,b5,b6,b7,rfl⟩:=zeE l hq;have hB:=World.block_lt_of_cell? _ _ hc0;have hne:B≠w.heap.size:=by simp at hB;omega
 show Calls prog 187 #[.agg #[.int .i64 m,.int .u8 b0,.int .u8 b1,.int .u8 b2,.int .u8 b3,.int .u8 b4,.int .u8 b5,.int .u8 b6,.int .u8 b7],.pointer (some ⟨B,0,none⟩)] w _
 go_enter func187,ntmps187
 go_wp2_with (go_at_call 188;refine(Q9 _ _ _ _ _ _).mono ?_;rintro e w' ⟨rfl,hg⟩)
 go_ret;exact⟨rfl,zc.trans ((bR _ _).alloc (nR _) _) hg⟩
def zlG (p:Int × List Int->Bool) (qs:List (Int × List Int)) (r:Int):Prop:=
 (r=-1/\∀(j:Nat) q,qs[j]? =some q->p q=false)\/∃(k:Nat) (q:Int × List Int),r=(k:Int)/\qs[k]? =some q/\p q=true/\∀(j:Nat) q',j<k->qs[j]? =some q'->p q'=false
def zf8 (g:Nat) (lb:Array Value) (p:Int × List Int->Bool) (w:World):Prop:=
 ∀W q,zc w W->q.2.length=8->Calls prog g (#[.agg (ptc q).toArray]++lb) W fun e W'=>e= .returned (.bool (p q))/\zc W W'
theorem zda (p:Int × List Int->Bool) (g:Nat) (lb:Array Value) (eg:∀args w,(callFunc g args).run prog w= .ok (.enter g args) w) (v:Value) (qs:List (Int × List Int)) (w:World) (hv:qE w v qs) (hp:zf8 g lb p w):
  Calls prog 215 #[v,.func (.func g) #[] lb] w fun e w'=>∃r:Int,e= .returned (.int .i64 r)/\zc w w'/\zlG p qs r:=by
 obtain⟨a,c,rfl,hrow⟩:=hv.rows;have hbig:qs.length<=9223372036854775807:=by have:=hv.2.2;omega
 have HR:Hid (JQ w a qs):=hrow;have HP:Hid (zf8 g lb p w):=hp;clear hrow hp hv;obtain⟨n,hn⟩:∃n,qs.length=n:=⟨_,rfl⟩;have HN:Hid (qs.length=n):=hn;rw[hn]at hbig⊢;clear hn
 go_enter func215,ntmps215
 go_wp2
 go_loopg [5,8] n (fun gg _ s8 wr=>∃kk:Nat,kk<=n/\n - kk<=gg/\s8= .int .i64 kk/\Hid (zc w wr)/\Hid (∀j q,j<kk->qs[j]? =some q->p q=false))
 case atStart=>exact⟨0,nZ _,by omega,rfl,zc.refl w,fun j q hj=>absurd hj (nL _)⟩
 obtain⟨kk,hkk,hg,rfl,BW,A⟩:=hrel
 by_cases hlt:kk<n
 ·have hltz:(kk:Int)< (n:Int):=by omega
  have hkq:kk<qs.length:=by rw[HN.out];exact hlt
  obtain⟨q,HQ⟩:∃q,Hid (qs[kk]? =some q):=⟨_,gE hkq⟩;obtain⟨x,m,b0,b1,b2,b3,b4,b5,b6,b7,rfl,rfl,hl⟩:=HR.out kk q HQ.out;obtain⟨d0,d1,d2,d3,d4,d5,d6,d7,d8⟩:=hl wr BW.out;have hcall:=HP.out wr (m,[b0,b1,b2,b3,b4,b5,b6,b7]) BW.out rfl;clear hl hkq
  cases hq:p (m,[b0,b1,b2,b3,b4,b5,b6,b7])with
  | true=>
   rw[hq]at hcall
   go_wp2_with (go_at_fn g;refine hcall.mono ?_;rintro e w' ⟨rfl,hb'⟩)
   go_ret;exact⟨_,rfl,BW.out.trans hb', .inr ⟨kk,_,rfl,HQ.out,hq,A.out⟩⟩
  | false=>
   rw[hq]at hcall
   go_wp2_with (go_at_fn g;refine hcall.mono ?_;rintro e w' ⟨rfl,hb'⟩)
   go_roundg (n -(kk+1))
   case measure=>omega
   refine⟨kk+1,by omega,by omega,by go_num,BW.out.trans hb',(show Hid _ from fun j q' hj hq'=>?_)⟩
   by_cases e:j=kk
   ·subst e;rw[HQ.out]at hq';cases hq';exact hq
   exact A.out j q' (by omega) hq'
 have hltz:¬(kk:Int)< (n:Int):=by omega
 have:kk=n:=by omega
 subst this;go_wp2;go_ret;refine⟨_,rfl,BW.out,.inl ⟨rfl,fun j q hj=>A.out j q ?_ hj⟩⟩
 have:=(gS.1 hj).1;rw[HN.out]at this;exact this
theorem zaR (p:Int × List Int->Bool) (g:Nat) (lb:Array Value) (eg:∀args w,(callFunc g args).run prog w= .ok (.enter g args) w) (v:Value) (qs:List (Int × List Int)) (w:World) (hv:qE w v qs) (hp:zf8 g lb p w):
  Calls prog 186 #[v,.func (.func g) #[] lb] w fun e w'=>e= .returned (.bool (qs.any p))/\zc w w':=by
 have hcon:=zda p g lb eg v qs w hv hp;clear hv hp eg
 go_enter func186,ntmps186
 go_wp2_with (go_at_call 215;refine hcon.mono ?_;rintro e w' ⟨r,rfl,hg,hr⟩)
 go_ret;have hb:qs.any p=decide (0<=r):=by
  rcases hr with⟨rfl,h⟩|⟨k,q,rfl,h1,h2,_⟩
  ·rw[show decide ((0:Int)<=-1)=false from rfl,List.any_eq_false]
   intro q hq;obtain⟨j,hj⟩:=List.getElem?_of_mem hq;rw[h j q hj];simp
  rw[show decide ((0:Int)<=(k:Int))=true from by simp,List.any_eq_true]
  exact⟨q,mG h1,h2⟩
 rw[hb];exact⟨rfl,hg⟩
theorem ze1 (a:Option Addr) (n c:Nat) (qv:Value) (B:Nat) (w:World) (hc0:w.cell? ⟨B,0,none⟩=some (.slice a n c)) (hc1:w.cell? ⟨B,1,none⟩=some qv):
  zf8 187 #[.pointer (some ⟨B,0,none⟩)] (fun q=>!jk q.1 n) w:=fun W q hW h8=>by
 have hB:B<w.heap.size:=World.block_lt_of_cell? _ _ hc0;exact zgf a n c qv B q h8 W ((Below.cell hW (p:=⟨B,0,none⟩) hB).trans hc0) ((Below.cell hW (p:=⟨B,1,none⟩) hB).trans hc1)
theorem JT (a:Option Addr) (n c:Nat) (qv:Value) (qs:List (Int × List Int)) (w:World) (hq:qE w qv qs):
  Calls prog 154 #[.agg #[.slice a n c,qv]] w fun e w'=>e= .returned (.int .i64 (zF n qs))/\zc w w':=by
 have HL:Hid (zF n qs=if 80<n then 4 else if 400<qs.length then 4 else if qs.any (fun q=>!jk q.1 n)then 3 else 0):=rfl
 obtain⟨a2,c2,rfl,_⟩:=hq.rows;have hcon:=zaR (fun q=>!jk q.1 n) 187 #[.pointer (some ⟨w.heap.size,0,none⟩)] (enters_of func187 (by kernel_rfl) rfl) (.slice a2 qs.length c2) qs (w.alloc (.cells #[.slice a n c,.slice a2 qs.length c2] 34)) (hq.grew (za _ _)) (ze1 a n c (.slice a2 qs.length c2) _ _ (by simp) (by simp))
 clear hq;obtain⟨nq,HN⟩:∃nq,Hid (qs.length=nq):=⟨_,rfl⟩;rw[HN.out]at hcon HL⊢;obtain⟨b,HB⟩:∃b,Hid ((qs.any fun q=>!jk q.1 n)=b):=⟨_,rfl⟩
 rw[HB.out]at hcon HL
 by_cases h1:80<n
 ·have h1':(80:Int)< (n:Int):=by omega
  rw[if_pos h1]at HL;clear hcon
  go_enter func154,ntmps154
  go_wp2;go_ret;exact⟨by rw[HL.out];rfl,za _ _⟩
 have h1':¬(80:Int)< (n:Int):=by omega
 rw[if_neg h1]at HL
 by_cases h2:400<nq
 ·have h2':(400:Int)< (nq:Int):=by omega
  rw[if_pos h2]at HL;clear hcon
  go_enter func154,ntmps154
  go_wp2;go_ret;exact⟨by rw[HL.out];rfl,za _ _⟩
 have h2':¬(400:Int)< (nq:Int):=by omega
 rw[if_neg h2]at HL
 cases b with
 | true=>
  go_enter func154,ntmps154
  go_wp2_with (go_at_call 186;refine hcon.mono ?_;rintro e w' ⟨rfl,hg⟩)
  go_ret;exact⟨by rw[HL.out];rfl,(za _ _).trans hg⟩
 | false=>
  go_enter func154,ntmps154
  go_wp2_with (go_at_call 186;refine hcon.mono ?_;rintro e w' ⟨rfl,hg⟩)
  go_ret;exact⟨by rw[HL.out];rfl,(za _ _).trans hg⟩
theorem JC (a:Option Addr) (n c:Nat) (qv:Value) (qs:List (Int × List Int)) (m:Int) (w:World) (hq:qE w qv qs):
  Calls prog 171 #[.agg #[.slice a n c,qv],.int .i64 m] w fun e w'=>e= .returned (.int .i64 (zw n qs m))/\zc w w':=by
 have HL:Hid (zw n qs m=if zF n qs=0 then(if jk m n then 0 else 3)else zF n qs):=rfl;have hcon:=JT a n c qv qs (w.alloc (.cells #[.slice a n c,qv] 34)) (hq.grew (za _ _));clear hq;obtain⟨r,HR⟩:∃r,Hid (zF n qs=r):=⟨_,rfl⟩;rw[HR.out]at hcon HL
 by_cases hr:r=0
 ·subst hr;rw[if_pos rfl]at HL
  cases hb:jk m n with
  | true=>
   rw[hb]at HL
   go_enter func171,ntmps171
   go_wp2_with (first
    | (go_at_call 154;refine hcon.mono ?_;rintro e w' ⟨rfl,hg⟩;have e0:w'.cell? ⟨w.heap.size,0,none⟩=some (.slice a n c):=(Below.cell hg (by simp)).trans (by simp);have e1:w'.cell? ⟨w.heap.size,1,none⟩=some qv:=(Below.cell hg (by simp)).trans (by simp))
    | (go_at_call 188;refine(Q9 _ _ _ _ _ _).mono ?_;rintro e w'' ⟨rfl,hg2⟩;rw[hb]))
   go_ret;exact⟨by rw[HL.out];rfl,((za _ _).trans hg).trans hg2⟩
  | false=>
   rw[hb]at HL
   go_enter func171,ntmps171
   go_wp2_with (first
    | (go_at_call 154;refine hcon.mono ?_;rintro e w' ⟨rfl,hg⟩;have e0:w'.cell? ⟨w.heap.size,0,none⟩=some (.slice a n c):=(Below.cell hg (by simp)).trans (by simp);have e1:w'.cell? ⟨w.heap.size,1,none⟩=some qv:=(Below.cell hg (by simp)).trans (by simp))
    | (go_at_call 188;refine(Q9 _ _ _ _ _ _).mono ?_;rintro e w'' ⟨rfl,hg2⟩;rw[hb]))
   go_ret;exact⟨by rw[HL.out];rfl,((za _ _).trans hg).trans hg2⟩
 have hne:(r != 0)=true:=by simpa using hr
 rw[if_neg hr]at HL
 go_enter func171,ntmps171
 go_wp2_with (go_at_call 154;refine hcon.mono ?_;rintro e w' ⟨rfl,hg⟩)
 go_ret;exact⟨by rw[HL.out];rfl,(za _ _).trans hg⟩
end
end Go.Proofs.YtacihbmelcegbaaGreat
