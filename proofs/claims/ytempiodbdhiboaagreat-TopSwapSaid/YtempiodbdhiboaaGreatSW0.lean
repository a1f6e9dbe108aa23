import Derived.Orders
import Derived.Below
import Derived.Deep.QuietTactic
import Derived.BigQuiet
import Derived.Test.YtempiodbdhiboaaGreatProg
import Derived.WalkKit
import Derived.Deep.LoopGhost
import Derived.Deep.Slices
import Derived.Laws.AppendOwn
import Derived.Lib.Walk
import Derived.Lib.SliceRun
import Derived.Laws.CopyRow
import Derived.Laws.CopyOwn
import Derived.Laws.MakeOwn
import Derived.Laws.OwnMore
import Derived.Shelf.Abstract
import Derived.WalkSmall
import Derived.Deep.Cut
import Derived.ChangeKeysEq
import Derived.Laws.StructEq
import Derived.ArgAppend
namespace Go.Proofs.YtempiodbdhiboaaGreat
open Go.Value renaming slice→O,int→Xe,bool→Xh,agg→Xi,pointer→Xj,tuple→Xm
open Go.IntKind renaming i64→Xf,u8→Xg
open Go.Obj renaming cells→Xk
open Go.Ending renaming returned→Xl
open Go renaming World→Xn,Calls→Xp,Value→Xq
open Go.RowKit renaming Hid→Xo
open Option renaming some→Xa,none→Xb
open Bool renaming true→Xc,false→Xd
open List renaming replicate→Xr
open Go.Region renaming wanted→Xs,ready→Ol,binds→Uh
open _root_.List renaming mem_filter→Xt,mem_range→Xu,mem_append→Xv,flatMap_cons→Xw,range→Xz,mem_or_eq_of_mem_set→Ya,append_assoc→Yb,length_set→Ye,ext_getElem?→Yf,all_eq_true→Yi,drop_append_of_le_length→Yj,filter_append→Yk,take_length_add_append→Yo,drop_length_add_append→Yp,any_eq_true→Yr,nodup_cons→Ys,filter_cons_of_pos→Yt,nodup_append→Yu,drop_of_length_le→Yw,length_cons→Yx,take_append_of_le_length→Yy,getElem?_of_mem→Yz,nil_append→Ob,length_nil→Oc,append_nil→Od,pairwise_cons→Oe,any_eq_false→Of,length_erase_of_mem→Oh,length_eq_zero_iff→Oi,getElem?_replicate→Oj,getElem?_cons_succ→Ok,pairwise_lt_range→Om,take_of_length_le→Ot,range_eq_range'→Ov,take_zero→Ow,getElem?_range→Oy,filter_eq_self→Oz,flatMap_append→Ua,sum_cons→Ub,getLast?_cons→Uc,mem_singleton→Ud,filter_filter→Ue,getElem?_drop→Uf,getElem?_map→Ug
open _root_.Bool renaming and_eq_true→Xx,false_eq_true→Yl,or_eq_true→Oa
open Go.Sem renaming run_bind→Xy,run_pure→Yh
open _root_.Nat renaming mul_le_mul_left→Yc,lt_or_ge→Yg,lt_of_lt_of_le→Ym,add_assoc→Yn,mul_le_mul_right→Yq,add_comm→Yv,add_mul→Og,zero_mul→Oo,succ_mul→Oq,div_lt_iff_lt_mul→Ou,mul_comm→Ui
open _root_.Array renaming getElem?_eq_getElem→Yd,getElem_modify→Ox
theorem dD{P:Prop}(h:P):Go.RowKit.Hid P:=h
theorem gE{α:Type}{l:List α}{i:Nat}(h:i<l.length):l[i]? =some l[i]:=List.getElem?_eq_getElem h
theorem sB{α:Type}(l:List α)(i:Nat)(a:α):l.toArray.setIfInBounds i a=(l.set i a).toArray:=List.setIfInBounds_toArray l i a
theorem gS{α:Type}{i:Nat}{a:α}{l:List α}:l[i]? =some a<->∃h:i<l.length,l[i]=a:=List.getElem?_eq_some_iff
theorem sZ{α:Type}{x:α}{k:List α}{a:α}:(x::k).set 0 a=a::k:=rfl
theorem sS{α:Type}{x:α}{k:List α}{i:Nat}{a:α}:(x::k).set (i+1) a=x::k.set i a:=rfl
theorem nM{α:Type}{a:α}:¬a∈([]:List α):=List.not_mem_nil
theorem mC{α:Type}{b:α}{l:List α}{a:α}:a∈b::l<->a=b\/a∈l:=List.mem_cons
theorem mG{α:Type}{l:List α}{i:Nat}{a:α}(h:l[i]? =some a):a∈l:=List.mem_of_getElem? h
theorem sF{α:Type}{l:List α}{i:Nat}{a:α}(h:i<l.length):(l.set i a)[i]? =some a:=List.getElem?_set_self h
theorem gD{α:Type}{l:List α}{i:Nat}{a:α}:l.getD i a=l[i]?.getD a:=List.getD_eq_getElem?_getD
theorem sN{α:Type}{l:List α}{i j:Nat}(h:i≠j){a:α}:(l.set i a)[j]? =l[j]?:=List.getElem?_set_ne h
theorem tN(n:Nat):(n:Int).toNat=n:=Int.toNat_natCast n
theorem lR{α:Type}{n:Nat}{a:α}:(List.replicate n a).length=n:=List.length_replicate
theorem pJ{α β:Type}(a:α)(b:β)(c:α)(d:β):((a,b)=(c,d))=(a=c/\b=d):=Prod.mk.injEq a b c d
theorem vJ(a n c d e f):(Value.slice a n c=.slice d e f)=(a=d/\n=e/\c=f):=Value.slice.injEq a n c d e f
theorem eN{α:Type}{l:List α}(h:l.length=0):l=[]:=List.eq_nil_of_length_eq_zero h
theorem aR{α:Type}{k l:List α}{i:Nat}(h:k.length<=i):(k++l)[i]? =l[i-k.length]?:=List.getElem?_append_right h
theorem gN{α:Type}{l:List α}{i:Nat}(h:l.length<=i):l[i]? =none:=List.getElem?_eq_none h
theorem lA{α:Type}{k l:List α}:(k++l).length=k.length+l.length:=List.length_append
theorem aS{α:Type}{i:Nat}{b:α}{k:Array α}:k[i]? =some b<->∃h:i<k.size,k[i]=b:=Array.getElem?_eq_some_iff
theorem bD{B:Nat}{a w:World}(h:Go.RowKit.Below B a w)(n:Nat):Go.RowKit.Below B a (w.drewN n):=Go.below_drewN h n
theorem nT{n m k:Nat}(h:n<=m)(g:m<=k):n<=k:=Nat.le_trans h g
theorem nR(n:Nat):n<=n:=Nat.le_refl n
theorem nZ(n:Nat):0<=n:=Nat.zero_le n
theorem nL(n:Nat):¬n<0:=Nat.not_lt_zero n
theorem mP{α β:Type}{f:α->β}{a:α}{l:List α}:(a::l).map f=f a::l.map f:=rfl
theorem rA{α β:Type}(a:α)(w:World)(f:α->World->Result β):(Result.ok a w).andThen f=f a w:=rfl
theorem zA(n:Nat):0+n=n:=Nat.zero_add n
theorem bR(B:Nat)(w:World):Go.RowKit.Below B w w:=Go.RowKit.Below.refl B w
theorem bS{B:Nat}{w v:World}(h:Go.RowKit.Below B w v):w.heap.size<=v.heap.size:=Go.RowKit.Below.size h
set_option maxRecDepth 100000
set_option maxHeartbeats 4000000
section
structure Pg where
 (b0 b1 b2 b3 b4 b5 b6 b7:Int)
structure Fr where
 p:Pg
 r:Int
 u:Bool
 d:Bool
 f:Int
 x:Int
def pg0:Pg:=⟨0,0,0,0,0,0,0,0⟩
def fr0:Fr:=⟨pg0,0,Xd,Xd,0,0⟩
def frF:Fr:=⟨pg0,0,Xd,Xd,-1,0⟩
def pgEqB (p q:Pg):Bool:=(p.b0 == q.b0) &&(p.b1 == q.b1) &&(p.b2 == q.b2) &&(p.b3 == q.b3) &&(p.b4 == q.b4) &&(p.b5 == q.b5) &&(p.b6 == q.b6) &&(p.b7 == q.b7)
theorem pgEqB_iff (p q:Pg):pgEqB p q=Xc↔p=q:=by
 obtain⟨a0,a1,a2,a3,a4,a5,a6,a7⟩:=p;obtain⟨c0,c1,c2,c3,c4,c5,c6,c7⟩:=q
 simp[pgEqB,and_assoc]
def frEqB (a b:Fr):Bool:=pgEqB a.p b.p &&(a.r == b.r) &&(a.u == b.u) &&(a.d == b.d) &&(a.f == b.f) &&(a.x == b.x)
theorem frEqB_iff (a b:Fr):frEqB a b=Xc↔a=b:=by
 obtain⟨p,r,u,d,f,x⟩:=a;obtain⟨p',r',u',d',f',x'⟩:=b
 simp[frEqB,pgEqB_iff,and_assoc]
def inB (m n:Int):Bool:=decide (0<=m) && decide (m<n)
def frW (a:Fr):Int:=if(inB a.r 1001 && inB a.x 12)=Xd then 3 else if(!(a.f == -1) && !inB a.f 5)=Xc then 3 else if(a.r == 0 && !frEqB a frF || a.f == -1 && !(a.x == 0))=Xc then 7 else 0
def frsW:List Fr->Int
 | []=>0
 | a :: l=>if frW a=0 then frsW l else frW a
def memW (fs:List Fr) (h:Int):Int:=if 40<fs.length then 4 else if frsW fs=0 then(if inB h (max fs.length 1)then 0 else 3)else frsW fs
def badS (z:Int):Bool:=decide (z<0) || decide (1000<z)
def slW (s:List Int):Int:=if 60<s.length then 4 else if s.any badS then 3 else 0
def dkInB (at_:Int) (n:Nat):Bool:=decide (0<=at_) && decide (at_<n)
def wrongL (n:Nat) (qs:List (Int × List Int)):Int:=if 80<n then 4 else if 400<qs.length then 4 else if qs.any (fun q=>!dkInB q.1 n)then 3 else 0
def wrongAtL (n:Nat) (qs:List (Int × List Int)) (m:Int):Int:=if wrongL n qs=0 then(if dkInB m n then 0 else 3)else wrongL n qs
def zero8:List Int:=[0,0,0,0,0,0,0,0]
def readL (ps:List (List Int)) (qs:List (Int × List Int)) (m:Int):List Int:=
 if wrongAtL ps.length qs m=0 then(match qs.reverse.find? (fun q=>q.1 == m)with | some q=>q.2 | none=>ps.getD m.toNat zero8)else zero8
structure Fl where
 size:Int
 bl:List Int
def cntP (n:Int):Int:=if n<1 then 0 else(n - 1) / 8+1
def giveE (cnt:Int) (g:List Int) (b:Int):Int:=if b=-1 then 0 else if 0<=b/\b<cnt then(if g.contains b then 7 else 0)else 3
def giveG (g:List Int) (b:Int):List Int:=if b=-1 then g else b :: g
def blW (cnt:Int):List Int->List Int->Int
 | _,[]=>0
 | g,b :: l=>if giveE cnt g b=0 then blW cnt (giveG g b) l else giveE cnt g b
def blG (g:List Int) (l:List Int):List Int:=l.foldl giveG g
def flW (cnt:Int) (g:List Int) (f:Fl):Int:=if 0<=f.size/\f.size<=96 then(if(f.bl.length:Int)=cntP f.size then blW cnt g f.bl else 2)else 3
def flsW (cnt:Int):List Int->List Fl->Int
 | _,[]=>0
 | g,f :: l=>if flW cnt g f=0 then flsW cnt (blG g f.bl) l else flW cnt g f
def stW (fs:List Fl) (cnt:Int):Int:=if fs.length<=5/\0<=cnt/\cnt<=80 then flsW cnt [] fs else 4
def usedB (fs:List Fl) (b:Int):Bool:=fs.any fun f=>f.bl.contains b
def leftL (fs:List Fl) (cnt:Int):List Nat:=(Xz cnt.toNat).filter fun b=>!usedB fs (b:Int)
theorem cntP_nat {n:Int} (h0:0<=n) (h1:n<=96):0<=cntP n/\cntP n<=12:=by
 unfold cntP
 split <;> omega
theorem giveE_cases (cnt:Int) (g:List Int) (b:Int):
  (b=-1/\giveE cnt g b=0/\giveG g b=g)\/
  (b≠-1/\¬(0<=b/\b<cnt)/\giveE cnt g b=3)\/
  (∃i:Nat,b=(i:Int)/\b<cnt/\g.contains b=Xc/\giveE cnt g b=7)\/
  (∃i:Nat,b=(i:Int)/\b<cnt/\g.contains b=Xd/\giveE cnt g b=0/\giveG g b=b :: g):=by
 by_cases h1:b=-1
 ·exact .inl ⟨h1,by unfold giveE;rw[if_pos h1],by unfold giveG;rw[if_pos h1]⟩
 by_cases h2:0<=b/\b<cnt
 ·obtain⟨i,hi⟩:∃i:Nat,b=(i:Int):=⟨b.toNat,by omega⟩
  cases h3:g.contains b with
  | true=>exact .inr (.inr (.inl ⟨i,hi,h2.2,rfl,by unfold giveE;rw[if_neg h1,if_pos h2,if_pos h3]⟩))
  | false=>exact .inr (.inr (.inr ⟨i,hi,h2.2,rfl,by unfold giveE;rw[if_neg h1,if_pos h2,if_neg (by rw[h3];decide)],by unfold giveG;rw[if_neg h1]⟩))
 exact .inr (.inl ⟨h1,h2,by unfold giveE;rw[if_neg h1,if_neg h2]⟩)
theorem giveE_range (cnt:Int) (g:List Int) (b:Int):giveE cnt g b=0\/giveE cnt g b=3\/giveE cnt g b=7:=by
 rcases giveE_cases cnt g b with⟨_,h,_⟩ | ⟨_,_,h⟩ | ⟨_,_,_,_,h⟩ | ⟨_,_,_,_,h,_⟩ <;> omega
theorem blW_range (cnt:Int):∀(l g:List Int),blW cnt g l=0\/blW cnt g l=3\/blW cnt g l=7
 | [],g=> .inl rfl
 | b :: l,g=>by
  unfold blW
  split
  ·exact blW_range cnt l _
  exact giveE_range cnt g b
theorem flW_range (cnt:Int) (g:List Int) (f:Fl):0<=flW cnt g f/\flW cnt g f<=7:=by
 have:=blW_range cnt f.bl g;unfold flW
 split
 ·split <;> omega
 omega
theorem flsW_range (cnt:Int):∀(l:List Fl) (g:List Int),0<=flsW cnt g l/\flsW cnt g l<=7
 | [],g=>by simp[flsW]
 | f :: l,g=>by
  unfold flsW
  split
  ·exact flsW_range cnt l _
  exact flW_range cnt g f
def real (l:List Int):List Int:=l.filter (·≠-1)
theorem mem_blG (b:Int) (hb:b≠-1):∀(l g:List Int),b∈blG g l↔b∈g\/b∈l
 | [],g=>by simp[blG]
 | c :: l,g=>by
  have ih:=mem_blG b hb l (giveG g c);unfold blG at ih⊢;rw[List.foldl_cons,ih];unfold giveG
  split
  ·rename_i h
   simp;constructor
   ·rintro(h | h) <;> simp[h]
   rintro(h1 | h1 | h1)
   ·exact .inl h1
   ·exact absurd (h1.trans h) hb
   exact .inr h1
  simp;constructor
  ·rintro((h | h) | h) <;> simp[h]
  rintro(h | h | h) <;> simp[h]
theorem blW_zero (cnt:Int):∀(l g:List Int),blW cnt g l=0↔(∀b∈l,b=-1\/(0<=b/\b<cnt))/\(∀b∈l,b≠-1->b∉g)/\(real l).Nodup
 | [],g=>by simp[blW,real]
 | b :: l,g=>by
  unfold blW
  rcases giveE_cases cnt g b with⟨h1,h2,h3⟩ | ⟨h1,h2,h3⟩ | ⟨i,h1,h2,h3,h4⟩ | ⟨i,h1,h2,h3,h4,h5⟩
  ·rw[if_pos h2,h3,blW_zero cnt l g];subst h1
   simp[real]
  ·rw[if_neg (by omega),h3]
   constructor
   ·intro h;omega
   rintro⟨h,_⟩
   rcases h b (by simp)with h | h
   ·exact absurd h h1
   exact absurd h h2
  ·rw[if_neg (by omega),h4]
   constructor
   ·intro h;omega
   rintro⟨_,h,_⟩;exact absurd (by simpa using h3) (h b (by simp) (by omega))
  rw[if_pos h4,h5,blW_zero cnt l (b :: g)];have hb:b≠-1:=by omega
  have hg:b∉g:=by simpa using h3
  constructor
  ·rintro⟨k1,k2,k3⟩;refine⟨fun c hc=>?_,fun c hc h=>?_,?_⟩
   ·rcases mC.1 hc with rfl | hc
    ·exact .inr ⟨by omega,h2⟩
    exact k1 c hc
   ·rcases mC.1 hc with rfl | hc
    ·exact hg
    exact fun h'=>k2 c hc h (by simp[h'])
   unfold real;rw[Yt (by simpa using hb)]
   refine Ys.2 ⟨fun h=>?_,k3⟩
   obtain⟨h',_⟩:=Xt.1 h;exact k2 b h' hb (by simp)
  rintro⟨k1,k2,k3⟩;unfold real at k3;rw[Yt (by simpa using hb)]at k3
  obtain⟨k4,k5⟩:=Ys.1 k3;refine⟨fun c hc=>k1 c (by simp[hc]),fun c hc h h'=>?_,k5⟩
  rcases mC.1 h' with rfl | h'
  ·exact k4 (Xt.2 ⟨hc,by simpa using hb⟩)
  exact k2 c (by simp[hc]) h h'
def FlOk (cnt:Int) (f:Fl):Prop:=(0<=f.size/\f.size<=96)/\(f.bl.length:Int)=cntP f.size/\∀b∈f.bl,b=-1\/(0<=b/\b<cnt)
def allB (fs:List Fl):List Int:=fs.flatMap fun f=>f.bl
theorem flW_zero (cnt:Int) (g:List Int) (f:Fl):flW cnt g f=0↔FlOk cnt f/\(∀b∈f.bl,b≠-1->b∉g)/\(real f.bl).Nodup:=by
 unfold flW FlOk;constructor
 ·intro h
  split at h
  ·rename_i h1
   split at h
   ·rename_i h2
    have:=(blW_zero cnt f.bl g).1 h;exact⟨⟨h1,h2,this.1⟩,this.2⟩
   omega
  omega
 rintro⟨⟨h1,h2,h3⟩,h4⟩;rw[if_pos h1,if_pos h2];exact(blW_zero cnt f.bl g).2 ⟨h3,h4⟩
theorem flsW_zero (cnt:Int):∀(fs:List Fl) (g:List Int),flsW cnt g fs=0↔(∀f∈fs,FlOk cnt f)/\(∀b∈allB fs,b≠-1->b∉g)/\(real (allB fs)).Nodup
 | [],g=>by simp[flsW,allB,real]
 | f :: l,g=>by
  unfold flsW;have key:(flW cnt g f=0/\flsW cnt (blG g f.bl) l=0)↔(∀f'∈f :: l,FlOk cnt f')/\(∀b∈allB (f :: l),b≠-1->b∉g)/\(real (allB (f :: l))).Nodup:=by
   rw[flW_zero,flsW_zero cnt l];unfold allB real;rw[Xw,Yk,Yu];constructor
   ·rintro⟨⟨h1,h2,h3⟩,h4,h5,h6⟩;refine⟨fun f' hf=>?_,fun b hb hb1=>?_,h3,h6,fun a ha b hb=>?_⟩
    ·rcases mC.1 hf with rfl | hf
     ·exact h1
     exact h4 f' hf
    ·rcases Xv.1 hb with hb | hb
     ·exact h2 b hb hb1
     exact fun h=>h5 b hb hb1 ((mem_blG b hb1 _ _).2 (.inl h))
    rintro rfl;obtain⟨ha1,ha2⟩:=Xt.1 ha;obtain⟨hb1,_⟩:=Xt.1 hb;have hn:a≠-1:=by simpa using ha2
    exact h5 a hb1 hn ((mem_blG a hn _ _).2 (.inr ha1))
   rintro⟨h1,h2,h3,h4,h5⟩;refine⟨⟨h1 f (by simp),fun b hb=>h2 b (Xv.2 (.inl hb)),h3⟩,fun f' hf=>h1 f' (by simp[hf]),fun b hb hb1 h=>?_,h4⟩
   rcases(mem_blG b hb1 _ _).1 h with h | h
   ·exact h2 b (Xv.2 (.inr hb)) hb1 h
   exact h5 b (Xt.2 ⟨h,by simpa using hb1⟩) b (Xt.2 ⟨hb,by simpa using hb1⟩) rfl
  split
  ·rename_i h
   rw[<-key];exact⟨fun h'=>⟨h,h'⟩,fun h'=>h'.2⟩
  rename_i h
  rw[<-key];exact⟨fun h'=>absurd h' h,fun h'=>absurd h'.1 h⟩
theorem stW_zero (fs:List Fl) (cnt:Int):stW fs cnt=0↔(fs.length<=5/\0<=cnt/\cnt<=80)/\(∀f∈fs,FlOk cnt f)/\(real (allB fs)).Nodup:=by
 unfold stW
 split
 ·rename_i h
  rw[flsW_zero]
  simp[h]
 rename_i h
 simp[h]
theorem used_iff (fs:List Fl) (b:Int):usedB fs b=Xc↔b∈allB fs:=by
 simp[usedB,allB]
structure En where
 kind:Int
 n:Int
 wr:Bool
def en0:En:=⟨0,0,Xd⟩
def enS (e:En):Bool:=e.kind != 0
def enW (e:En):Int:=
 if 0<=e.kind/\e.kind<=2 then
  (if 0<=e.n/\e.n<=59/\(e.kind=1->e.n<=39)then
   (if(e.kind=0/\(e.n≠0\/e.wr=Xc))\/(e.kind=2/\e.wr=Xc)then 7 else 0)
  else 3)
 else 1
def esW:List En->Int
 | []=>0
 | e :: l=>if enW e=0 then esW l else enW e
def anyS (l:List En):Bool:=l.any enS
def haW (h:List En):Int:=if h.length=0 then 0 else if h.length=8 then(if esW h=0 then(if anyS h=Xc then 0 else 2)else esW h)else 2
def tbW:List (List En)->Int
 | []=>0
 | h :: t=>if haW h=0 then tbW t else haW h
def getN (t:List (List En)) (i k:Nat):En:=((t[i]?.getD [])[k]?).getD en0
def getT (t:List (List En)) (n:Int):En:=if 0<=n/\n<64 then getN t (n.toNat / 8) (n.toNat % 8)else en0
def mk (l:List En):List En:=if anyS l=Xc then l else []
def full (h:List En):List En:=if h.length=0 then Xr 8 en0 else h
def setT (t:List (List En)) (n:Nat) (e:En):List (List En):=t.set (n / 8) (mk ((full (t[n / 8]?.getD [])).set (n % 8) e))
def setE (t:List (List En)) (n:Int) (e:En):Int:=if tbW t=0 then(if 0<=n/\n<64 then enW e else 3)else tbW t
def none8:List (List En):=Xr 8 []
def setR (t:List (List En)) (n:Int) (e:En):List (List En):=if setE t n e=0 then setT t n.toNat e else none8
def chunk (l:List En) (i:Nat):List En:=(Xz 8).map fun k=>l[8*i+k]?.getD en0
def tableOf (l:List En):List (List En):=(Xz 8).map fun i=>mk (chunk l i)
def pagesTo (t:List (List En)) (f:En->Bool) (m:Nat):List Int:=((Xz m).filter fun n=>enS (getN t (n / 8) (n % 8)) && f (getN t (n / 8) (n % 8))).map fun(n:Nat)=>(n:Int)
theorem enW_zero {e:En} (h:enW e=0):(0<=e.kind/\e.kind<=2)/\(0<=e.n/\e.n<=59/\(e.kind=1->e.n<=39))/\¬((e.kind=0/\(e.n≠0\/e.wr=Xc))\/(e.kind=2/\e.wr=Xc)):=by
 unfold enW at h
 by_cases h1:0<=e.kind/\e.kind<=2
 ·rw[if_pos h1]at h
  by_cases h2:0<=e.n/\e.n<=59/\(e.kind=1->e.n<=39)
  ·rw[if_pos h2]at h
   by_cases h3:(e.kind=0/\(e.n≠0\/e.wr=Xc))\/(e.kind=2/\e.wr=Xc)
   ·rw[if_pos h3]at h;omega
   exact⟨h1,h2,h3⟩
  rw[if_neg h2]at h;omega
 rw[if_neg h1]at h;omega
theorem enW_of {e:En} (h1:0<=e.kind/\e.kind<=2) (h2:0<=e.n/\e.n<=59/\(e.kind=1->e.n<=39)) (h3:¬((e.kind=0/\(e.n≠0\/e.wr=Xc))\/(e.kind=2/\e.wr=Xc))):enW e=0:=by
 unfold enW;rw[if_pos h1,if_pos h2,if_neg h3]
theorem enW_0:enW en0=0:=by decide
theorem en_none {e:En} (h:enW e=0) (hs:enS e=Xd):e=en0:=by
 obtain⟨h1,h2,h3⟩:=enW_zero h;obtain⟨k,n,w⟩:=e
 simp[enS]at hs
 subst hs
 simp at h3
 obtain⟨rfl,h4⟩:=h3;cases w
 ·rfl
 simp at h4
theorem esW_zero {l:List En}:esW l=0↔∀e∈l,enW e=0:=by
 induction l with
 | nil=>simp[esW]
 | cons e l ih=>
  unfold esW
  by_cases h:enW e=0
  ·rw[if_pos h,ih]
   simp[h]
  rw[if_neg h]
  simp[h]
def HaOk (h:List En):Prop:=h=[]\/(h.length=8/\(∀e∈h,enW e=0)/\anyS h=Xc)
theorem haW_zero {h:List En}:haW h=0↔HaOk h:=by
 unfold haW HaOk
 by_cases h0:h.length=0
 ·rw[if_pos h0];have:h=[]:=Oi.1 h0
  simp[this]
 have hn:h≠[]:=fun e=>h0 (by rw[e];rfl)
 rw[if_neg h0]
 by_cases h8:h.length=8
 ·rw[if_pos h8]
  by_cases h1:esW h=0
  ·rw[if_pos h1];have h2:=esW_zero.1 h1
   by_cases h3:anyS h=Xc
   ·rw[if_pos h3]
    simp[h8,h3,hn]
    exact h2
   rw[if_neg h3]
   simp[hn,h3]
  rw[if_neg h1];simp only[h1,hn,false_or,false_iff];exact fun h=>h1 (esW_zero.2 h.2.1)
 rw[if_neg h8]
 simp[hn,h8]
theorem tbW_zero {t:List (List En)}:tbW t=0↔∀h∈t,HaOk h:=by
 induction t with
 | nil=>simp[tbW]
 | cons h t ih=>
  unfold tbW
  by_cases h0:haW h=0
  ·rw[if_pos h0,ih]
   simp[haW_zero.1 h0]
  rw[if_neg h0];simp only[h0,mC,forall_eq_or_imp,false_iff];exact fun hh=>h0 (haW_zero.2 hh.1)
structure TbOk (t:List (List En)):Prop where
 len:t.length=8
 ok:∀h∈t,HaOk h
theorem TbOk.half {t:List (List En)} (h:TbOk t) (i:Nat):HaOk (t[i]?.getD []):=by
 cases hq:t[i]? with
 | none=>exact .inl rfl
 | some x=>exact h.ok x (mG hq)
theorem HaOk.get {h:List En} (hh:HaOk h) (k:Nat):enW (h[k]?.getD en0)=0:=by
 rcases hh with rfl | ⟨_,h2,_⟩
 ·exact enW_0
 cases hq:h[k]? with
 | none=>exact enW_0
 | some x=>exact h2 x (mG hq)
theorem TbOk.get {t:List (List En)} (h:TbOk t) (i k:Nat):enW (getN t i k)=0:=(h.half i).get k
theorem full_len {h:List En} (hh:HaOk h):(full h).length=8:=by
 unfold full
 rcases hh with rfl | ⟨h1,_⟩
 ·rfl
 rw[if_neg (by omega)]
 exact h1
theorem full_at (h:List En) (hh:HaOk h) {k:Nat} (hk:k<8):(full h)[k]? =Xa (h[k]?.getD en0):=by
 unfold full
 rcases hh with rfl | ⟨h1,_⟩
 ·rw[if_pos (show([]:List En).length=0 from rfl),Oj,if_pos hk]
  rfl
 rw[if_neg (by omega),gE (by omega)]
 rfl
theorem full_get (h:List En) (k:Nat):(full h)[k]?.getD en0=h[k]?.getD en0:=by
 unfold full
 by_cases h0:h.length=0
 ·rw[if_pos h0];have:h=[]:=Oi.1 h0;subst this;rw[Oj]
  split <;> rfl
 rw[if_neg h0]
theorem mk_get (l:List En) (hl:∀e∈l,enW e=0) (k:Nat):(mk l)[k]?.getD en0=l[k]?.getD en0:=by
 unfold mk
 by_cases h:anyS l=Xc
 ·rw[if_pos h]
 rw[if_neg h]
 cases hq:l[k]? with
 | none=>simp
 | some x=>
  have hm:=mG hq;have:enS x=Xd:=by
   cases hs:enS x with
   | false=>rfl
   | true=>exact absurd (Yr.2 ⟨x,hm,hs⟩) h
  simp[en_none (hl x hm) this]
theorem mk_ok {l:List En} (h8:l.length=8) (hl:∀e∈l,enW e=0):HaOk (mk l):=by
 unfold mk
 by_cases h:anyS l=Xc
 ·rw[if_pos h];exact .inr ⟨h8,hl,h⟩
 rw[if_neg h];exact .inl rfl
theorem mk_full {h:List En} (hh:HaOk h):mk (full h)=h:=by
 unfold mk full
 rcases hh with rfl | ⟨h1,_,h3⟩
 ·rfl
 rw[if_neg (show¬h.length=0 by omega),if_pos h3]
theorem full_right {h:List En} (hh:HaOk h):∀e∈full h,enW e=0:=fun e he=>by
 unfold full at he
 rcases hh with rfl | ⟨h1,h2,_⟩
 ·simp at he
  rw[he];exact enW_0
 rw[if_neg (by omega)]at he
 exact h2 e he
theorem set_right {l:List En} {k:Nat} {e:En} (hl:∀x∈l,enW x=0) (he:enW e=0):∀x∈l.set k e,enW x=0:=fun x hx=>by
 rcases Ya hx with h | h
 ·exact hl x h
 rw[h];exact he
theorem setT_ok {t:List (List En)} (h:TbOk t) {n:Nat} {e:En} (he:enW e=0):TbOk (setT t n e):=by
 refine⟨by simp[setT,h.len],fun x hx=>?_⟩
 rcases Ya hx with h1 | h1
 ·exact h.ok x h1
 rw[h1];have hh:=h.half (n / 8);exact mk_ok (by rw[Ye];exact full_len hh) (set_right (full_right hh) he)
theorem getN_set {t:List (List En)} (h:TbOk t) {n:Nat} (hn:n<64) {e:En} (he:enW e=0) (i k:Nat) (hk:k<8):getN (setT t n e) i k=if i=n / 8/\k=n % 8 then e else getN t i k:=by
 unfold getN setT;have hh:=h.half (n / 8)
 by_cases hi:i=n / 8
 ·subst hi;rw[sF (by rw[h.len];omega)]
  simp only[Option.getD_some];rw[mk_get _ (set_right (full_right hh) he)]
  by_cases hk':k=n % 8
  ·subst hk';rw[sF (by rw[full_len hh];exact hk)]
   simp
  rw[sN (fun h=>hk' h.symm),if_neg (fun h=>hk' h.2)]
  exact full_get _ k
 rw[sN (fun h=>hi h.symm),if_neg (fun h=>hi h.1)]
theorem chunk_full {l:List En} {h:List En} (hh:HaOk h) {i:Nat} (hl:∀k,k<8->l[8*i+k]? =Xa (h[k]?.getD en0)):chunk l i=full h:=by
 apply Yf
 intro k
 by_cases hk:k<8
 ·unfold chunk;rw[Ug,Oy hk,full_at h hh hk]
  simp[hl k hk]
 rw[gN (by simp[chunk];omega),gN (by rw[full_len hh];omega)]
theorem tableOf_eq {l:List En} {t:List (List En)} (h:TbOk t) (hl:∀j,j<64->l[j]? =Xa (getN t (j / 8) (j % 8))):tableOf l=t:=by
 apply Yf
 intro i
 by_cases hi:i<8
 ·unfold tableOf;rw[Ug,Oy hi];obtain⟨x,hx⟩:∃x,t[i]? =Xa x:=⟨_,gE (by rw[h.len];omega)⟩
  have hh:=h.half i;rw[hx]at hh⊢;simp only[Option.getD_some]at hh;have:chunk l i=full x:=chunk_full hh (fun k hk=>by
   rw[hl _ (by omega),show(8*i+k) / 8=i by omega,show(8*i+k) % 8=k by omega]
   unfold getN;rw[hx]
   rfl)
  simp[this,mk_full hh]
 rw[gN (by simp[tableOf];omega),gN (by rw[h.len];omega)]
theorem pagesTo_succ (t:List (List En)) (f:En->Bool) (m:Nat):pagesTo t f (m+1)=if enS (getN t (m / 8) (m % 8)) && f (getN t (m / 8) (m % 8))then pagesTo t f m++ [(m:Int)]else pagesTo t f m:=by
 unfold pagesTo;rw[List.range_succ,Yk,List.map_append]
 split
 ·rename_i h
  simp[h]
 rename_i h
 simp[h]
theorem pagesTo_len (t:List (List En)) (f:En->Bool):∀m,(pagesTo t f m).length<=m
 | 0=>by simp[pagesTo]
 | m+1=>by
  rw[pagesTo_succ];have:=pagesTo_len t f m
  split
  ·simp;omega
  omega
structure Ar where
 fr:Int
 tz:Int
 rd:Bool
 wr:Bool
 sh:Bool
 file:Int
 base:Int
structure On where
 is:Bool
 rd:Bool
 wr:Bool
 sh:Bool
 file:Int
 page:Int
def on0:On:=⟨Xd,Xd,Xd,Xd,0,0⟩
def ar0:Ar:=⟨0,0,Xd,Xd,Xd,0,0⟩
def ArOk (a:Ar):Prop:=0<=a.fr/\a.fr<a.tz/\a.tz<=64/\-1<=a.file/\a.file<5/\0<=a.base/\(a.file<0->a.base=0/\a.sh=Xd)/\(0<=a.file->a.base<=12 -(a.tz - a.fr))
def arW (a:Ar):Int:=
 if a.fr<0\/a.tz<=a.fr\/64<a.tz\/a.file< -1\/5<=a.file\/a.base<0 then 3
 else if a.file<0 then(if a.base≠0\/a.sh=Xc then 7 else 0)
 else if 12 -(a.tz - a.fr)<a.base then 7 else 0
theorem arW_zero {a:Ar}:arW a=0↔ArOk a:=by
 unfold arW ArOk;obtain⟨fr,tz,rd,wr,sh,file,base⟩:=a;simp only;constructor
 ·intro h
  (repeat' split at h) <;> first | omega | skip
  rename_i h1 h2 h3
  cases sh
  ·simp at h3⊢
   omega
  simp at h3
 intro⟨h1,h2,h3,h4,h5,h6,h7,h8⟩;rw[if_neg (by omega)]
 by_cases h9:file<0
 ·rw[if_pos h9,if_neg (by rintro(h | h);exact h (h7 h9).1;rw[(h7 h9).2]at h;cases h)]
 rw[if_neg h9,if_neg (by omega)]
def goB (a b:Ar):Bool:=decide (a.fr=b.tz) &&(a.rd == b.rd) &&(a.wr == b.wr) &&(a.sh == b.sh) && decide (a.file=b.file) && decide (a.base=if 0<=b.file then b.base+(b.tz - b.fr)else b.base)
theorem goB_iff {a b:Ar}:goB a b=Xc↔a.fr=b.tz/\a.rd=b.rd/\a.wr=b.wr/\a.sh=b.sh/\a.file=b.file/\a.base=if 0<=b.file then b.base+(b.tz - b.fr)else b.base:=by
 simp[goB,and_assoc]
def Link (b a:Ar):Prop:=b.tz<=a.fr/\goB a b=Xd
def CanP:Option Ar->List Ar->Prop
 | _,[]=>True
 | p,a :: l=>ArOk a/\(∀b,p=Xa b->Link b a)/\CanP (Xa a) l
def arIn (a:Ar) (n:Nat):Bool:=decide (a.fr<=(n:Int)) && decide ((n:Int)<a.tz)
theorem arIn_iff {a:Ar} {n:Nat}:arIn a n=Xc↔a.fr<=(n:Int)/\(n:Int)<a.tz:=by simp[arIn]
theorem arIn_no {a:Ar} {n:Nat} (h:¬(a.fr<=(n:Int)/\(n:Int)<a.tz)):arIn a n=Xd:=by
 cases hb:arIn a n with
 | false=>rfl
 | true=>exact absurd (arIn_iff.1 hb) h
def oneOf (a:Ar) (n:Nat):On:=⟨Xc,a.rd,a.wr,a.sh,a.file,if 0<=a.file then a.base+((n:Int) - a.fr)else 0⟩
def onAt:List Ar->Nat->On
 | [],_=>on0
 | a :: l,n=>if arIn a n=Xc then oneOf a n else onAt l n
def arOf (n:Nat) (x:On):Ar:=if x.is=Xc then⟨n,n+1,x.rd,x.wr,x.sh,x.file,x.page⟩else ar0
theorem CanP.low:∀{l:List Ar} {p:Option Ar} {a:Ar} {n:Nat},CanP p l->p=Xa a->(n:Int)<a.tz->onAt l n=on0
 | [],_,_,_,_,_,_=>rfl
 | b :: l,p,a,n,h,hp,hn=>by
  have h1:=h.2.1 a hp;have h2:=h.1;unfold Link at h1;unfold ArOk at h2;unfold onAt;rw[if_neg (by rw[arIn_iff];omega)]
  exact h.2.2.low rfl (by omega)
theorem CanP.head {l:List Ar} {p:Option Ar} {a:Ar} {n:Nat} (h:CanP p (a :: l)) (hn:(n:Int)<a.fr):onAt (a :: l) n=on0:=by
 have h2:=h.1;unfold ArOk at h2;unfold onAt;rw[if_neg (by rw[arIn_iff];omega)]
 exact h.2.2.low rfl (by omega)
theorem onAt_in {a:Ar} {l:List Ar} {n:Nat} (h:a.fr<=(n:Int)) (h':(n:Int)<a.tz):onAt (a :: l) n=oneOf a n:=by
 unfold onAt;rw[if_pos (by rw[arIn_iff];omega)]
theorem onAt_out {a:Ar} {l:List Ar} {n:Nat} (h:(n:Int)<a.fr\/a.tz<=(n:Int)):onAt (a :: l) n=onAt l n:=by
 rw[onAt,if_neg (by rw[arIn_iff];omega)]
theorem oneOf_is (a:Ar) (n:Nat):(oneOf a n).is=Xc:=rfl
theorem on_ne {a:Ar} {n:Nat} (h:oneOf a n=on0):False:=by
 have:=congrArg On.is h
 simp[on0,oneOf]at this
theorem CanP.next {l:List Ar} {a b:Ar} {n:Nat} (h:CanP (Xa a) l) (hn:(n:Int)=a.tz) (hb:onAt l n=oneOf b n):∃c m,l=c :: m/\c.fr=(n:Int)/\oneOf c n=oneOf b n/\Link a c:=by
 cases l with
 | nil=>exact(on_ne hb.symm).elim
 | cons c m=>
  have h1:=h.2.1 a rfl;have h3:=h.1;unfold ArOk at h3
  by_cases h2:(n:Int)<c.fr
  ·rw[h.head h2]at hb;exact(on_ne hb.symm).elim
  have:c.fr=(n:Int):=by unfold Link at h1;omega
  rw[onAt_in (by omega) (by omega)]at hb
  exact⟨c,m,rfl,this,hb,h1⟩
theorem oneOf_eq {a b:Ar} {n:Nat} (h:oneOf a n=oneOf b n):a.rd=b.rd/\a.wr=b.wr/\a.sh=b.sh/\a.file=b.file/\(0<=a.file->a.base+((n:Int) - a.fr)=b.base+((n:Int) - b.fr)):=by
 unfold oneOf at h;simp only[On.mk.injEq,true_and]at h;obtain⟨h1,h2,h3,h4,h5⟩:=h;refine⟨h1,h2,h3,h4,fun h6=>?_⟩
 rw[if_pos h6,if_pos (by omega)]at h5
 exact h5
theorem ext_to {p:Option Ar} {l m:List Ar} {a b:Ar} (ha:CanP p (a :: l)) (hb:CanP p (b :: m)) (he:∀n:Nat,n<64->onAt (a :: l) n=onAt (b :: m) n) (hf:a.fr=b.fr) (h1:a.rd=b.rd/\a.wr=b.wr/\a.sh=b.sh/\a.file=b.file/\a.base=b.base):¬a.tz<b.tz:=by
 intro hlt;have h2:=ha.1;have h3:=hb.1;unfold ArOk at h2 h3;obtain⟨n,hn⟩:∃n:Nat,(n:Int)=a.tz:=⟨a.tz.toNat,by omega⟩
 have h4:=he n (by omega)
 rw[onAt_out (by omega),onAt_in (a:=b) (by omega) (by omega)]at h4
 obtain⟨c,k,rfl,h5,h6,h7⟩:=ha.2.2.next hn h4;obtain⟨g1,g2,g3,g4,g5⟩:=oneOf_eq h6;have h8:=ha.2.2.1;unfold ArOk at h8;have:goB c a=Xc:=by
  rw[goB_iff];refine⟨by omega,by rw[g1,h1.1],by rw[g2,h1.2.1],by rw[g3,h1.2.2.1],by omega,?_⟩
  split <;> omega
 rw[h7.2]at this;cases this
theorem can_ext:∀{l m:List Ar} {p:Option Ar},CanP p l->CanP p m->(∀n:Nat,n<64->onAt l n=onAt m n)->l=m
 | [],[],_,_,_,_=>rfl
 | [],b :: m,_,_,hm,he=>by
  have h3:=hm.1;unfold ArOk at h3;have:=he b.fr.toNat (by omega)
  rw[onAt_in (a:=b) (by omega) (by omega)]at this
  exact(on_ne this.symm).elim
 | a :: l,[],_,hl,_,he=>by
  have h3:=hl.1;unfold ArOk at h3;have:=he a.fr.toNat (by omega)
  rw[onAt_in (a:=a) (by omega) (by omega)]at this
  exact(on_ne this).elim
 | a :: l,b :: m,p,hl,hm,he=>by
  have h2:=hl.1;have h3:=hm.1;unfold ArOk at h2 h3;have hf:a.fr=b.fr:=by
   rcases Int.lt_trichotomy a.fr b.fr with h | h | h
   ·have:=he a.fr.toNat (by omega)
    rw[onAt_in (a:=a) (by omega) (by omega),hm.head (by omega)]at this
    exact(on_ne this).elim
   ·exact h
   have:=he b.fr.toNat (by omega)
   rw[onAt_in (a:=b) (by omega) (by omega),hl.head (by omega)]at this
   exact(on_ne this.symm).elim
  have h4:=he a.fr.toNat (by omega)
  rw[onAt_in (a:=a) (by omega) (by omega),onAt_in (a:=b) (by omega) (by omega)]at h4
  obtain⟨g1,g2,g3,g4,g5⟩:=oneOf_eq h4;have hb:a.base=b.base:=by
   rcases Int.lt_or_le a.file 0 with h | h
   ·omega
   have:=g5 h;omega
  have ht:a.tz=b.tz:=by
   have t1:=ext_to hl hm he hf ⟨g1,g2,g3,g4,hb⟩;have t2:=ext_to hm hl (fun n hn=>(he n hn).symm) hf.symm ⟨g1.symm,g2.symm,g3.symm,g4.symm,hb.symm⟩
   omega
  have hab:a=b:=by
   obtain⟨_,_,_,_,_,_,_⟩:=a;obtain⟨_,_,_,_,_,_,_⟩:=b;simp only at hf ht g1 g2 g3 g4 hb;subst hf ht g1 g2 g3 g4 hb;rfl
  subst hab;have:l=m:=can_ext hl.2.2 hm.2.2 fun n hn=>by
   by_cases h:(n:Int)<a.tz
   ·rw[hl.2.2.low rfl h,hm.2.2.low rfl h]
   have:=he n hn;rw[onAt_out (by omega),onAt_out (by omega)]at this
   exact this
  rw[this]
def lastP (p:Option Ar) (l:List Ar):Option Ar:=match l.getLast? with | some b=>Xa b | none=>p
theorem lastP_cons (p:Option Ar) (a:Ar) (l:List Ar):lastP p (a :: l)=lastP (Xa a) l:=by
 unfold lastP
 cases l with
 | nil=>simp
 | cons b m=>simp[Uc]
theorem canP_snoc {x:Ar}:∀{l:List Ar} {p:Option Ar},CanP p (l++ [x])↔CanP p l/\ArOk x/\∀b,lastP p l=Xa b->Link b x
 | [],p=>by simp[CanP,lastP]
 | a :: l,p=>by
  simp only[List.cons_append,CanP,lastP_cons,canP_snoc (l:=l) (p:=some a),and_assoc]
theorem onAt_snoc {x:Ar} {n:Nat}:∀{l:List Ar},onAt l n=on0\/arIn x n=Xd->onAt (l++ [x]) n=if arIn x n=Xc then oneOf x n else onAt l n
 | [],_=>by simp[onAt]
 | a :: l,h=>by
  simp only[List.cons_append,onAt]
  by_cases h1:arIn a n=Xc
  ·rcases h with h | h
   ·rw[onAt,if_pos h1]at h;exact(on_ne h).elim
   simp[h1,h]
  rw[if_neg h1,if_neg h1];exact onAt_snoc (h.imp (fun h=>by rwa [onAt,if_neg h1]at h) id)
theorem onAt_none {n:Nat}:∀{l:List Ar},(∀a∈l,arIn a n=Xd)->onAt l n=on0
 | [],_=>rfl
 | a :: l,h=>by
  rw[onAt,if_neg (by rw[h a (by simp)];simp)]
  exact onAt_none fun b hb=>h b (by simp[hb])
theorem onAt_some {n:Nat}:∀{l:List Ar},(onAt l n).is=Xc->∃(i:Nat) (a:Ar),l[i]? =Xa a/\arIn a n=Xc/\onAt l n=oneOf a n
 | [],h=>by cases h
 | a :: l,h=>by
  by_cases h1:arIn a n=Xc
  ·exact⟨0,a,rfl,h1,by rw[onAt,if_pos h1]⟩
  rw[onAt,if_neg h1]at h;obtain⟨i,b,h2,h3,h4⟩:=onAt_some h;exact⟨i+1,b,h2,h3,by rw[onAt,if_neg h1,h4]⟩
theorem onAt_no {n:Nat}:∀{l:List Ar},(onAt l n).is=Xd->onAt l n=on0
 | [],_=>rfl
 | a :: l,h=>by
  by_cases h1:arIn a n=Xc
  ·rw[onAt,if_pos h1]at h;cases h
  rw[onAt,if_neg h1]at h⊢;exact onAt_no h
theorem CanP.all {l:List Ar}:∀{p:Option Ar},CanP p l->∀a∈l,ArOk a:=by
 induction l with
 | nil=>intro p _ a ha;cases ha
 | cons b l ih=>
  intro p h x hx
  rcases mC.1 hx with e | hx
  ·rw[e];exact h.1
  exact ih h.2.2 _ hx
def Good (f:Nat->On):Prop:=∀k:Nat,k<64->((f k).is=Xd->f k=on0)/\((f k).is=Xc->ArOk (arOf k (f k)))
theorem oneOf_ok {a:Ar} {n:Nat} (h:ArOk a) (hn:arIn a n=Xc):ArOk (arOf n (oneOf a n)):=by
 have:=arIn_iff.1 hn;unfold ArOk at h⊢;unfold arOf;rw[if_pos (oneOf_is a n)];unfold oneOf;refine⟨by simp,by simp;omega,by simp;omega,h.2.2.2.1,h.2.2.2.2.1,?_,fun h1=>⟨?_,(h.2.2.2.2.2.2.1 h1).2⟩,fun h1=>?_⟩
 ·simp only
  split <;> omega
 ·simp only at h1⊢;rw[if_neg (by omega)]
 simp only at h1⊢;rw[if_pos h1];omega
theorem CanP.good {l:List Ar} {p:Option Ar} (h:CanP p l):Good (onAt l):=fun k _=>⟨onAt_no,fun h1=>by
 obtain⟨i,a,h2,h3,h4⟩:=onAt_some h1;rw[h4];exact oneOf_ok (h.all a (mG h2)) h3⟩
def J (f:Nat->On) (n:Nat) (acc:List Ar):Prop:=CanP Xb acc/\(∀a∈acc,a.tz<=(n:Int))/\∀k:Nat,onAt acc k=if k<n then f k else on0
theorem J.zero (f:Nat->On):J f 0 []:=⟨trivial,by simp,fun k=>by simp[onAt]⟩
theorem J.skip {f:Nat->On} {n:Nat} {acc:List Ar} (h:J f n acc) (h0:f n=on0):J f (n+1) acc:=by
 refine⟨h.1,fun a ha=>by have:=h.2.1 a ha;omega,fun k=>?_⟩
 rw[h.2.2 k]
 by_cases h1:k<n
 ·rw[if_pos h1,if_pos (by omega)]
 rw[if_neg h1]
 by_cases h2:k=n
 ·subst h2;rw[if_pos (by omega),h0]
 rw[if_neg (by omega)]
theorem arOf_one (n:Nat) (x:On) (h:x.is=Xc) (hp:x.file<0->x.page=0):oneOf (arOf n x) n=x:=by
 unfold arOf;rw[if_pos h];unfold oneOf;obtain⟨_,_,_,_,_,_⟩:=x;simp only at h hp⊢;subst h;simp only[On.mk.injEq,true_and]
 split
 ·omega
 exact(hp (by omega)).symm
theorem arOf_in {n k:Nat} {x:On} (h:x.is=Xc):arIn (arOf n x) k=Xc↔k=n:=by
 rw[arIn_iff];unfold arOf;rw[if_pos h];simp only;omega
theorem J.new {f:Nat->On} {n:Nat} {acc:List Ar} (h:J f n acc) (hg:Good f) (hn:n<64) (hs:(f n).is=Xc) (hl:∀b,acc.getLast? =Xa b->goB (arOf n (f n)) b=Xd):J f (n+1) (acc++ [arOf n (f n)]):=by
 have hok:=(hg n hn).2 hs;have hone:oneOf (arOf n (f n)) n=f n:=arOf_one n _ hs fun hf=>by
  unfold ArOk arOf at hok;rw[if_pos hs]at hok;exact(hok.2.2.2.2.2.2.1 hf).1
 refine⟨canP_snoc.2 ⟨h.1,hok,fun b hb=>?_⟩,fun a ha=>?_,fun k=>?_⟩
 ·have hb':acc.getLast? =Xa b:=by
   unfold lastP at hb
   split at hb
   ·rename_i h1;rw[h1];exact hb
   cases hb
  refine⟨?_,hl b hb'⟩;have:=h.2.1 b (List.mem_of_getLast? hb');unfold arOf;rw[if_pos hs];exact this
 ·rcases Xv.1 ha with ha | ha
  ·have:=h.2.1 a ha;omega
  rw[Ud]at ha;subst ha;unfold arOf;rw[if_pos hs];simp
 have h1:=h.2.2 k;rw[onAt_snoc]
 ·by_cases e:k=n
  ·subst e;rw[if_pos ((arOf_in hs).2 rfl),if_pos (by omega),hone]
  rw[if_neg (fun h2=>e ((arOf_in hs).1 h2)),h1]
  by_cases h3:k<n
  ·rw[if_pos h3,if_pos (by omega)]
  rw[if_neg h3,if_neg (by omega)]
 by_cases e:k=n
 ·left;rw[h1,if_neg (by omega)]
 right
 cases h4:arIn (arOf n (f n)) k with
 | false=>rfl
 | true=>exact absurd ((arOf_in hs).1 h4) e
theorem J.ext {f:Nat->On} {n:Nat} {i:List Ar} {b:Ar} (h:J f n (i++ [b])) (hg:Good f) (hn:n<64) (hs:(f n).is=Xc) (hgo:goB (arOf n (f n)) b=Xc):J f (n+1) (i++ [{ b with tz:=(n:Int)+1 }]):=by
 have hok:=(hg n hn).2 hs;obtain⟨h1,h2,h3⟩:=h;obtain⟨c1,c2,c3⟩:=canP_snoc.1 h1;have hgo':=goB_iff.1 hgo;unfold arOf at hgo' hok;rw[if_pos hs]at hgo' hok;simp only at hgo';obtain⟨g1,g2,g3,g4,g5,g6⟩:=hgo';have c2':=c2;unfold ArOk at c2' hok;simp only at hok;have hlow:∀k:Nat,b.fr<=(k:Int)->onAt i k=on0:=fun k hk=>by
  refine onAt_none fun a ha=>arIn_no ?_
  have:a.tz<=b.fr:=by
   have hstep:∀(l:List Ar) (p:Option Ar),CanP p l->∀x∈l,∀y,lastP p l=Xa y->x.tz<=y.tz:=by
    intro l
    induction l with
    | nil=>intro p _ x hx;cases hx
    | cons c m ih=>
     intro p hc x hx y hy;rw[lastP_cons]at hy
     rcases mC.1 hx with rfl | hx
     ·cases m with
      | nil=>simp[lastP]at hy;subst hy;exact Int.le_refl _
      | cons d k'=>
       have q1:=ih (Xa x) hc.2.2 d (by simp) y hy
       have q2:=hc.2.2.2.1 x rfl;have q3:=hc.2.2.1;unfold Link at q2;unfold ArOk at q3;omega
     exact ih (Xa c) hc.2.2 x hx y hy
   cases hlast:lastP Xb i with
   | none=>
    unfold lastP at hlast
    cases i with
    | nil=>cases ha
    | cons _ _=>simp[Uc]at hlast
   | some y=>
    have q1:=hstep i Xb c1 a ha y hlast;have q2:=(c3 y hlast).1;omega
  omega
 refine⟨canP_snoc.2 ⟨c1,?_,fun y hy=>?_⟩,fun a ha=>?_,fun k=>?_⟩
 ·unfold ArOk;simp only;refine⟨by omega,by omega,by omega,by omega,by omega,by omega,fun h=>c2'.2.2.2.2.2.2.1 h,fun h=>?_⟩
  rw[if_pos h]at g6;omega
 ·exact⟨(c3 y hy).1,(c3 y hy).2⟩
 ·rcases Xv.1 ha with ha | ha
  ·have:=h2 a (by simp[ha]);omega
  rw[Ud]at ha;subst ha;simp
 have e1:=h3 k;rw[onAt_snoc (by
  by_cases hk:b.fr<=(k:Int)
  ·exact .inl (hlow k hk)
  exact .inr (arIn_no (by omega)))]at e1
 rw[onAt_snoc (by
  by_cases hk:b.fr<=(k:Int)
  ·exact .inl (hlow k hk)
  exact .inr (arIn_no (by simp only;omega)))]
 by_cases hk:k=n
 ·subst hk;rw[if_pos (by rw[arIn_iff];simp only;omega),if_pos (by omega)]
  unfold oneOf;simp only;have hx:=hok.2.2.2.2.2.2.1
  revert hs g2 g3 g4 g5 g6 hx
  generalize f k=x
  obtain⟨_,_,_,_,_,_⟩:=x;intro hs g2 g3 g4 g5 g6 hx;simp only at hs g2 g3 g4 g5 g6 hx⊢;subst hs g2 g3 g4;simp only[On.mk.injEq,true_and];refine⟨g5.symm,?_⟩
  split
  ·rename_i h;rw[if_pos h]at g6;omega
  exact(hx (by omega)).1.symm
 have e2:arIn { b with tz:=(n:Int)+1 } k=arIn b k:=by
  unfold arIn;simp only
  congr 1
  apply decide_eq_decide.2
  omega
 rw[e2];have e3:oneOf { b with tz:=(n:Int)+1 } k=oneOf b k:=rfl;rw[e3,e1]
 by_cases h5:k<n
 ·rw[if_pos h5,if_pos (by omega)]
 rw[if_neg h5,if_neg (by omega)]
def joinN (f:Nat->On):Nat->List Ar
 | 0=>[]
 | n+1=>
  if(f n).is=Xc then
   match(joinN f n).getLast? with
   | some b=>if goB (arOf n (f n)) b=Xc then(joinN f n).dropLast++ [{ b with tz:=(n:Int)+1 }]else joinN f n++ [arOf n (f n)]
   | none=>joinN f n++ [arOf n (f n)]
  else joinN f n
theorem snoc_of {l:List Ar} {b:Ar} (h:l.getLast? =Xa b):l=l.dropLast++ [b]:=by
 cases l with
 | nil=>cases h
 | cons a m=>
  rw[List.getLast?_eq_some_getLast (List.cons_ne_nil a m)]at h;cases h;exact(List.dropLast_concat_getLast _).symm
theorem joinN_J {f:Nat->On} (hg:Good f):∀n:Nat,n<=64->J f n (joinN f n)
 | 0,_=>J.zero f
 | n+1,hn=>by
  have ih:=joinN_J hg n (by omega)
  unfold joinN
  by_cases hs:(f n).is=Xc
  ·rw[if_pos hs]
   cases hl:(joinN f n).getLast? with
   | none=>exact ih.new hg (by omega) hs (fun b hb=>by rw[hl]at hb;cases hb)
   | some b=>
    simp only
    by_cases hgo:goB (arOf n (f n)) b=Xc
    ·rw[if_pos hgo];rw[snoc_of hl]at ih;exact ih.ext hg (by omega) hs hgo
    rw[if_neg hgo];refine ih.new hg (by omega) hs (fun c hc=>?_)
    rw[hl]at hc;cases hc
    simpa using hgo
  rw[if_neg hs];exact ih.skip ((hg n (by omega)).1 (by simpa using hs))
def joinL (f:Nat->On):List Ar:=joinN f 64
theorem joinL_J {f:Nat->On} (hg:Good f):J f 64 (joinL f):=joinN_J hg 64 (nR _)
theorem J.all {f:Nat->On} {acc:List Ar} (h:J f 64 acc) (hg:Good f):acc=joinL f:=
 can_ext h.1 (joinL_J hg).1 fun n _=>by rw[h.2.2,(joinL_J hg).2.2]
theorem J.len {f:Nat->On} {n:Nat} {acc:List Ar} (h:J f n acc):acc.length<=n:=by
 have key:∀(l:List Ar) (p:Option Ar) (c:Int),CanP p l->(∀b,p=Xa b->c<=b.tz)->(p=Xb->c<=0)->(∀a∈l,a.tz<=(n:Int))->c<=n->c+l.length<=n:=by
  intro l
  induction l with
  | nil=>intro p c _ _ _ _ hc;simpa using hc
  | cons a l ih=>
   intro p c hl hp hp0 ha hc;have h1:=hl.1;unfold ArOk at h1;have h2:c<=a.fr:=by
    cases p with
    | none=>have:=hp0 rfl;omega
    | some b=>have:=hp b rfl;have:=(hl.2.1 b rfl).1;omega
   have h3:=ih (Xa a) (c+1) hl.2.2 (fun b hb=>by cases hb;omega) (fun hb=>by cases hb) (fun x hx=>ha x (by simp[hx])) (by have:=ha a (by simp);omega)
   rw[Yx];omega
 have:=key acc Xb 0 h.1 (fun b hb=>by cases hb) (fun _=>by omega) h.2.1 (by omega)
 omega
theorem last_to:∀(l:List Ar) (p:Option Ar),CanP p l->∀x∈l,∀y,lastP p l=Xa y->x=y\/x.tz<=y.fr
 | [],_,_,_,hx,_,_=>by cases hx
 | c :: m,p,hc,x,hx,y,hy=>by
  rw[lastP_cons]at hy
  rcases mC.1 hx with e | hx
  ·cases m with
   | nil=>simp[lastP]at hy;left;rw[e,hy]
   | cons d k'=>
    right;have q2:=hc.2.2.2.1 c rfl;have q3:=hc.2.2.1;unfold Link at q2;unfold ArOk at q3;rw[e]
    rcases last_to (d :: k') (Xa c) hc.2.2 d (by simp) y hy with q1 | q1
    ·rw[<-q1];exact q2.1
    omega
  exact last_to m (Xa c) hc.2.2 x hx y hy
def wrGo:Option Ar->List Ar->Nat->Int × Int
 | _,[],_=>(0,0)
 | p,a :: l,i=>
  if arW a≠0 then(arW a,i)
  else match p with
   | some b=>if a.fr<b.tz\/goB a b=Xc then(2,i)else wrGo (Xa a) l (i+1)
   | none=>wrGo (Xa a) l (i+1)
def wrL (l:List Ar):Int × Int:=if 16<l.length then(4,0)else wrGo Xb l 0
theorem wrGo_zero:∀{l:List Ar} {p:Option Ar} {i:Nat},(wrGo p l i).1=0↔CanP p l
 | [],p,i=>by simp[wrGo,CanP]
 | a :: l,p,i=>by
  unfold wrGo CanP
  by_cases h:arW a=0
  ·rw[if_neg (fun h'=>h' h)]
   cases p with
   | none=>simp[wrGo_zero (l:=l),arW_zero.1 h]
   | some b=>
    simp only
    by_cases h2:a.fr<b.tz\/goB a b=Xc
    ·rw[if_pos h2];simp only[Option.some.injEq,forall_eq'];constructor
     ·intro h3;exact absurd h3 (by decide)
     rintro⟨_,⟨h3,h4⟩,_⟩
     rcases h2 with h2 | h2
     ·omega
     rw[h4]at h2;cases h2
    rw[if_neg h2,wrGo_zero];simp only[Option.some.injEq,forall_eq',arW_zero.1 h,true_and];constructor
    ·intro h3;exact⟨⟨by omega,by cases hq:goB a b with | false=>rfl | true=>exact absurd (.inr hq) h2⟩,h3⟩
    exact fun h3=>h3.2
  rw[if_pos h];constructor
  ·intro h1;exact absurd h1 h
  intro h1;exact absurd (arW_zero.2 h1.1) h
theorem wrL_zero {l:List Ar}:(wrL l).1=0↔l.length<=16/\CanP Xb l:=by
 unfold wrL
 by_cases h:16<l.length
 ·rw[if_pos h];constructor
  ·intro h1;exact absurd h1 (by decide)
  intro h1;omega
 rw[if_neg h,wrGo_zero];exact⟨fun h1=>⟨by omega,h1⟩,fun h1=>h1.2⟩
def mapF (l:List Ar) (a:Ar):Nat->On:=fun k=>if arIn a k=Xc then oneOf a k else onAt l k
def within (s n:Int) (k:Nat):Bool:=decide (s<=(k:Int)) && decide ((k:Int)<s+n)
theorem within_iff {s n:Int} {k:Nat}:within s n k=Xc↔s<=(k:Int)/\(k:Int)<s+n:=by simp[within]
def fewL (f:Nat->On):List Ar × Int:=if 16< (joinL f).length then([],4)else(joinL f,0)
def hitB (l:List Ar) (s n:Int):Bool:=(Xz 64).any fun k=>within s n k &&(onAt l k).is
def mapA (l:List Ar) (a:Ar):List Ar × Int:=if(wrL l).1≠0 then([],(wrL l).1)else if arW a≠0 then([],arW a)else if hitB l a.fr (a.tz - a.fr)=Xc then([],6)else fewL (mapF l a)
theorem hitB_no {l:List Ar} {s n:Int}:hitB l s n=Xd↔∀k:Nat,k<64->(s<=(k:Int)/\(k:Int)<s+n)->(onAt l k).is=Xd:=by
 simp only[hitB,Of,Xu,Xx,within_iff,not_and,Bool.not_eq_true]
theorem mapF_good {l:List Ar} {a:Ar} (hl:CanP Xb l) (ha:ArOk a):Good (mapF l a):=fun k hk=>by
 unfold mapF
 by_cases h:arIn a k=Xc
 ·rw[if_pos h];exact⟨fun h1=>(by cases h1),fun _=>oneOf_ok ha h⟩
 rw[if_neg h];exact hl.good k hk
structure Sp where
 live:Bool
 ars:List Ar
 tb:List (List En)
structure Ca where
 file:Int
 idx:Int
 fr:Int
structure Ma where
 fs:List Fr
 hand:Int
 sl:List Int
 sb:List (List Int)
 sq:List (Int × List Int)
 db:List (List Int)
 dq:List (Int × List Int)
 fl:List Fl
 cnt:Int
 ca:List Ca
 sp:List Sp
def firstE:List Int->Int
 | []=>0
 | e :: l=>if e=0 then firstE l else e
theorem firstE_zero:∀{l:List Int},firstE l=0↔∀e∈l,e=0
 | []=>by simp[firstE]
 | e :: l=>by
  unfold firstE
  by_cases h:e=0
  ·rw[if_pos h,firstE_zero]
   simp[h]
  rw[if_neg h]
  simp[h]
def blockE (m:Ma):Int:=if(Xz m.db.length).any (fun(b:Nat)=>!usedB m.fl (b:Int) && !(m.db.getD b [] == zero8))=Xc then 7 else 0
def queueE (m:Ma):Int:=if m.dq.any (fun q=>!usedB m.fl q.1)=Xc then 7 else 0
def spE (s:Sp):Int:=if(wrL s.ars).1≠0 then(wrL s.ars).1 else if tbW s.tb≠0 then tbW s.tb else if(!s.live &&(!s.ars.isEmpty || !s.tb.all (·.isEmpty)))=Xc then 7 else 0
def fitE (m:Ma):Int:=if m.sl.length≠m.sb.length\/m.cnt≠(m.db.length:Int)then 7 else 0
def partE (m:Ma):Int:=firstE [memW m.fs m.hand,slW m.sl,wrongL m.sb.length m.sq,wrongL m.db.length m.dq,stW m.fl m.cnt,fitE m,blockE m,queueE m,if 4<m.sp.length then 4 else 0,firstE (m.sp.map spE)]
def bkN (m:Ma) (file:Int):Int:=((m.fl.getD file.toNat ⟨0,[]⟩).bl.length:Nat)
def frAt (m:Ma) (k:Int):Fr:=m.fs.getD k.toNat frF
def keyC (c:Ca):Int:=100*c.file+c.idx
def caE (m:Ma) (p:Option Ca) (c:Ca):Int:=
 if c.file<0\/(m.fl.length:Int)<=c.file\/c.idx<0\/bkN m c.file<=c.idx\/c.fr<0\/(m.fs.length:Int)<=c.fr then 3
 else if(frAt m c.fr).r=0\/(frAt m c.fr).f≠c.file\/(frAt m c.fr).x≠c.idx then 7
 else match p with | some q=>(if keyC c<=keyC q then 2 else 0) | none=>0
def caGo (m:Ma):Option Ca->List Ca->Int
 | _,[]=>0
 | p,c :: l=>if caE m p c=0 then caGo m (Xa c) l else caE m p c
def entE (m:Ma) (x:On) (e:En):Int:=
 if x.is=Xd then 5
 else if e.kind=2 then(if(m.sl.length:Int)<=e.n\/x.sh=Xc then 7 else 0)
 else if(m.fs.length:Int)<=e.n then 3
 else if(¬(frAt m e.n).f=-1/\¬(0<=x.file/\(frAt m e.n).f=x.file/\(frAt m e.n).x=x.page))\/(x.sh=Xc/\¬(0<=x.file/\(frAt m e.n).f=x.file/\(frAt m e.n).x=x.page))\/(e.wr=Xc/\x.wr=Xd)\/(e.wr=Xc/\(0<=x.file/\(frAt m e.n).f=x.file/\(frAt m e.n).x=x.page)/\x.sh=Xd)\/(e.wr=Xc/\(frAt m e.n).f=-1/\1< (frAt m e.n).r)then 7 else 0
def flatN (s:Sp) (n:Nat):En:=getN s.tb (n / 8) (n % 8)
def spEnt (m:Ma) (s:Sp):Int:=firstE ((Xz 64).map fun n=>if(flatN s n).kind=0 then 0 else entE m (onAt s.ars n) (flatN s n))
def isE (e:En) (kind k:Int):Bool:=decide (e.kind=kind) && decide (e.n=k)
def cntTo (f:Nat->En) (kind k:Int):Nat->Nat
 | 0=>0
 | n+1=>cntTo f kind k n+(isE (f n) kind k).toNat
def holdN (T:List (Nat->En)) (kind k:Int):Nat:=(T.map fun f=>cntTo f kind k 64).sum
def holders (m:Ma) (kind k:Int):Nat:=holdN (m.sp.map flatN) kind k
def cachedN (ca:List Ca) (k:Int):Nat:=ca.countP fun c=>decide (c.fr=k)
def frE (m:Ma) (k:Nat):Int:=if(frAt m k).r≠((holders m 1 k+cachedN m.ca k:Nat):Int)\/(0<=(frAt m k).f/\cachedN m.ca k=0)then 7 else 0
def sloE (m:Ma) (k:Nat):Int:=if m.sl.getD k 0≠(holders m 2 k:Int)then 7 else 0
def maW (m:Ma):Int:=firstE [partE m,caGo m Xb m.ca,firstE (m.sp.map (spEnt m)),firstE ((Xz m.fs.length).map (frE m)),firstE ((Xz m.sl.length).map (sloE m))]
def updF (f:Nat->En) (n:Nat) (e:En):Nat->En:=fun j=>if j=n then e else f j
theorem cnt_upd (f:Nat->En) {n:Nat} (e:En) (kind k:Int):∀m:Nat,cntTo (updF f n e) kind k m+(if n<m then(isE (f n) kind k).toNat else 0)=cntTo f kind k m+(if n<m then(isE e kind k).toNat else 0)
 | 0=>by simp[cntTo]
 | m+1=>by
  have ih:=cnt_upd f e kind k (n:=n) m;unfold cntTo
  by_cases h:n=m
  ·subst h;rw[if_neg (Nat.lt_irrefl _),if_neg (Nat.lt_irrefl _)]at ih;rw[if_pos (Nat.lt_succ_self _),if_pos (Nat.lt_succ_self _)];have:updF f n e n=e:=by unfold updF;rw[if_pos rfl]
   rw[this];omega
  have:updF f n e m=f m:=by unfold updF;rw[if_neg (fun h'=>h h'.symm)]
  rw[this]
  by_cases h2:n<m
  ·rw[if_pos h2,if_pos h2]at ih;rw[if_pos (by omega),if_pos (by omega)]
   omega
  rw[if_neg h2,if_neg h2]at ih;rw[if_neg (by omega),if_neg (by omega)]
  omega
theorem hold_upd:∀{T:List (Nat->En)} {p:Nat} {f:Nat->En} {n:Nat} (e:En) (kind k:Int),T[p]? =Xa f->n<64->holdN (T.set p (updF f n e)) kind k+(isE (f n) kind k).toNat=holdN T kind k+(isE e kind k).toNat
 | [],p,f,n,e,kind,k,h,_=>by simp at h
 | g :: T,0,f,n,e,kind,k,h,hn=>by
  simp at h
  subst h;have:=cnt_upd g e kind k (n:=n) 64;rw[if_pos hn,if_pos hn]at this;simp only[sZ,holdN,mP,Ub];omega
 | g :: T,p+1,f,n,e,kind,k,h,hn=>by
  have ih:=hold_upd (T:=T) (p:=p) (f:=f) (n:=n) e kind k (by simpa using h) hn
  simp only[sS,holdN,mP,Ub]at ih⊢;omega
theorem cnt_le (f:Nat->En) (kind k:Int):∀m:Nat,cntTo f kind k m<=m
 | 0=>nR _
 | m+1=>by
  have:=cnt_le f kind k m;unfold cntTo
  cases isE (f m) kind k <;> simp <;> omega
theorem hold_le:∀(T:List (Nat->En)) (kind k:Int),holdN T kind k<=64*T.length
 | [],_,_=>by simp[holdN]
 | f :: T,kind,k=>by
  have h1:=cnt_le f kind k 64;have h2:=hold_le T kind k;simp only[holdN,mP,Ub,Yx]at h2⊢;omega
theorem isE_none (kind k:Int) (h:kind≠0):isE en0 kind k=Xd:=by
 have:¬en0.kind=kind:=fun e=>h e.symm
 simp[isE,this]
theorem hold_pos {T:List (Nat->En)} {p:Nat} {f:Nat->En} {n:Nat} {kind k:Int} (hT:T[p]? =Xa f) (hn:n<64) (h:isE (f n) kind k=Xc) (hk:kind≠0):1<=holdN T kind k:=by
 have:=hold_upd en0 kind k hT hn;rw[h,isE_none kind k hk]at this
 simp at this
 omega
theorem hold_two {T:List (Nat->En)} {p q:Nat} {f g:Nat->En} {n j:Nat} {kind k:Int} (hT:T[p]? =Xa f) (hn:n<64) (h:isE (f n) kind k=Xc) (hq:T[q]? =Xa g) (hj:j<64) (h':isE (g j) kind k=Xc) (hne:p≠q\/n≠j) (hk:kind≠0):2<=holdN T kind k:=by
 have h1:=hold_upd en0 kind k hT hn;rw[h,isE_none kind k hk]at h1
 simp at h1
 have hp:=(gS.1 hT).1
 by_cases e:q=p
 ·subst e;rw[hT]at hq;cases hq;have h2:1<=holdN (T.set q (updF f n en0)) kind k:=by
   refine hold_pos (p:=q) (f:=updF f n en0) (n:=j) (sF hp) hj ?_ hk;have:j≠n:=fun e=>(hne.resolve_left (fun h=>h rfl)) e.symm
   unfold updF;rw[if_neg this];exact h'
  omega
 have h2:1<=holdN (T.set p (updF f n en0)) kind k:=hold_pos (p:=q) (f:=g) (n:=j) (by rw[sN (fun h=>e h.symm)];exact hq) hj h' hk
 omega
end
section
open Go.RowKit
def Grew (w w':Xn):Prop:=Below w.heap.size w w'
theorem Grew.refl (w:Xn):Grew w w:=bR _ _
theorem Grew.trans {a b c:Xn} (h:Grew a b) (k:Grew b c):Grew a c:=Below.trans h (k.mono h.size)
def Does (P:Program) (o:Oper) (a:Act) (w:Xn) (K:Xq->Xn->Prop):Prop:=
 match(execOp a.eval o).run P w with
 | .ok (.value v) w'=>K v w'
 | .ok .skip w'=>K undef w'
 | .ok (.enter f args) w'=>Xp P f args w' fun e w''=>∃v,e= Xl v/\K v w''
 | _=>False
theorem Does.wp {P:Program} {o:Oper} {a:Act} {w:Xn} {K:Xq->Xn->Prop} {next:Act->Xn->Prop} {Q:Exit->Act->Xn->Prop}
  (h:Does P o a w K) (hn:∀v w',K v w'->next (a.put o.dst v) w'):o.wp P a w next Q:=by
 unfold Does at h;unfold Oper.wp
 generalize(execOp a.eval o).run P w=r at*
 cases r with
 | ok n w'=>
  cases n <;> simp only[Oper.upon]at h⊢
  case value v=>exact hn _ _ h
  case skip=>exact hn _ _ h
  case enter f args=>exact h.mono fun e w'' ⟨v,he,hk⟩=>by subst he;exact hn _ _ hk
 | halt x w'=>simp only at h
def edge (ops:Array Oper) (i j:Nat):Bool:=((ops[j]?).map fun o=>o.after.any fun e=>Uh .any e && e.on == i).getD Xd
def anc (ops:Array Oper):Nat->Nat->Nat->Bool
 | 0,_,_=>Xd
 | f+1,i,j=>edge ops i j || (Xz j).any fun k=>edge ops k j && anc ops f i k
theorem Does.mono {P:Program} {o:Oper} {a:Act} {w:Xn} {K K':Xq->Xn->Prop} (h:Does P o a w K) (hk:∀v w',K v w'->K' v w'):Does P o a w K':=by
 unfold Does at*
 generalize(execOp a.eval o).run P w=r at*
 cases r with
 | ok n w'=>
  cases n <;> simp only at h⊢
  case value v=>exact hk _ _ h
  case skip=>exact hk _ _ h
  case enter f args=>exact h.mono fun e w'' ⟨v,he,hv⟩=>⟨v,he,hk _ _ hv⟩
 | halt x w'=>simp only at h
def fset (F:Nat->Xn->Prop) (k:Nat) (p:Xn->Prop):Nat->Xn->Prop:=fun i=>if i=k then p else F i
section
variable{P:Program} {ops:Array Oper} {T:Nat}
theorem fset_other {F:Nat->Xn->Prop} {k m:Nat} {p:Xn->Prop} (h:m≠k):fset F k p m=F m:=by simp[fset,h]
theorem fset_comm {F:Nat->Xn->Prop} {i j:Nat} {p q:Xn->Prop} (h:i≠j):fset (fset F i p) j q=fset (fset F j q) i p:=by
 funext m
 simp only[fset]
 by_cases h1:m=j
 ·by_cases h2:m=i
  ·omega
  simp[h1];intro h3;omega
 simp[h1]
theorem edge_of {i j:Nat} {o:Oper} (ho:ops[j]? =Xa o):edge ops i j=Xc↔∃e∈o.after,Uh .any e=Xc/\e.on=i:=by
 unfold edge;rw[ho,Option.map_some,Option.getD_some,Array.any_eq_true'];simp
theorem edge_some {i j:Nat} (h:edge ops i j=Xc):∃oj,ops[j]? =Xa oj:=by
 cases hj:ops[j]? with
 | none=>simp[edge,hj]at h
 | some oj=>exact⟨oj,rfl⟩
def closed (ops:Array Oper) (listed:Array Bool):Prop:=∀i j,listed.getD j Xd=Xc->edge ops i j=Xc->listed.getD i Xd=Xc
theorem anc_listed {listed:Array Bool} (hc:closed ops listed):∀(f i j:Nat),(∀k,edge ops k j=Xc->listed.getD k Xd=Xc)->anc ops f i j=Xc->listed.getD i Xd=Xc
 | 0,_,_,_,h=>by simp[anc]at h
 | f+1,i,j,hj,h=>by
  simp only[anc,Oa,Yr,Xu,Xx]at h
  rcases h with h | ⟨k,_,hkj,h⟩
  ·exact hj i h
  exact anc_listed hc f i k (fun m hm=>hc m k (hj k hkj) hm) h
theorem getD_flip {listed:Array Bool} {i:Nat} (h:listed.getD i Xc=Xd):listed.getD i Xd=Xd:=by
 rcases Yg i listed.size with h' | h'
 ·simp[h']at h⊢;exact h
 simp[Array.getElem?_eq_none h']at h
end
def laxTB (ops:Array Oper) (T:Nat):Bool:=
 Region.noSelect ops && decide (T<=ops.size) &&(Xz ops.size).all fun j=>match ops[j]? with
  | none=>Xd
  | some oj=>oj.after.all (fun e=>!Uh .any e || decide (e.on<j)) &&
    (if j<T then(Xz j).all fun i=>edge ops i j || (match ops[i]? with | some oi=>oi.apart ops oj | none=>Xd)else(Xz j).all fun i=>anc ops j i j)
def unlistedT (listed:Array Bool) (T:Nat):List Nat:=(Xz T).filter fun i=>listed.getD i Xc == Xd
section
variable{P:Program} {ops:Array Oper} {T:Nat}
theorem laxTB_edge (hB:laxTB ops T=Xc) {j:Nat} {oj:Oper} (hj:ops[j]? =Xa oj):∀i,edge ops i j=Xc->i<j:=by
 simp only[laxTB,Xx,Yi,Xu]at hB;have h:=hB.2 j (aS.1 hj).1;simp only[hj,Xx]at h;intro i hi;obtain⟨e,he,hb,rfl⟩:=(edge_of hj).1 hi;have:=Array.all_eq_true_iff_forall_mem.1 h.1 e he
 simpa [hb]using this
theorem laxTB_apart (hB:laxTB ops T=Xc) {j:Nat} {oj:Oper} (hj:ops[j]? =Xa oj) (hT:j<T):∀i,i<j->edge ops i j=Xc\/∃oi,ops[i]? =Xa oi/\oi.apart ops oj=Xc:=by
 simp only[laxTB,Xx,Yi,Xu]at hB;have h:=hB.2 j (aS.1 hj).1;simp only[hj,Xx,if_pos hT,Yi,Xu]at h;intro i hi;have:=h.2 i hi;rw[Oa]at this
 rcases this with h1 | h1
 ·exact Or.inl h1
 right
 cases ho:ops[i]? with
 | none=>simp[ho]at h1
 | some oi=>simp only[ho]at h1;exact⟨oi,rfl,h1⟩
theorem laxTB_last (hB:laxTB ops T=Xc) {j:Nat} {oj:Oper} (hj:ops[j]? =Xa oj) (hT:T<=j):∀i,i<j->anc ops j i j=Xc:=by
 simp only[laxTB,Xx,Yi,Xu]at hB;have h:=hB.2 j (aS.1 hj).1;simp only[hj,Xx,if_neg (Nat.not_lt.2 hT),Yi,Xu]at h;exact h.2
theorem ancT_lt (hB:laxTB ops T=Xc):∀(f i j:Nat),anc ops f i j=Xc->i<j
 | 0,_,_,h=>by simp[anc]at h
 | f+1,i,j,h=>by
  simp only[anc,Oa,Yr,Xu,Xx]at h
  rcases h with h | ⟨k,hk,_,h⟩
  ·obtain⟨oj,hj⟩:=edge_some h;exact laxTB_edge hB hj i h
  have:=ancT_lt hB f i k h;omega
theorem unlistedT_set {listed:Array Bool} {j:Nat} (hl:j<listed.size):unlistedT (listed.setIfInBounds j Xc) T=(unlistedT listed T).filter (· != j):=by
 unfold unlistedT;rw[Ue];refine List.filter_congr fun i hi=>?_
 by_cases h:j=i
 ·subst h
  simp[hl]
 rw[getD_set_ne Xc h];have:(i != j)=Xc:=by simpa using Ne.symm h
 rw[this,Bool.true_and]
theorem getD_up {listed:Array Bool} {i:Nat} (hi:i<listed.size) (h:listed.getD i Xc=Xc):listed.getD i Xd=Xc:=by
 simp[hi]at h⊢;exact h
theorem wpAny_last {Q:Exit->Act->Xn->Prop} (hB:laxTB ops T=Xc):∀(m:Nat) (l:List Oper) (k:Nat) (listed:Array Bool) (a:Act) (w:Xn),T<=k->listed.size=ops.size->k+m=ops.size->l.length=m->(∀j,l[j]? =ops[k+j]?)->
  (∀i,i<k->listed.getD i Xc=Xc)->(∀i,k<=i->i<ops.size->listed.getD i Xc=Xd)->wpList P ops Q l a w->wpAny P .any ops Q m listed a w:=by
 intro m
 induction m with
 | zero=>
  intro l k listed a w hT hsz hk hl hops hin hout h;have:l=[]:=eN hl;subst this;refine⟨?_,h⟩
  cases hr:Ol .any ops listed with
  | nil=>rfl
  | cons x xs=>
   have hx:x∈Ol .any ops listed:=by rw[hr];simp
   obtain⟨h0,o,ho,_⟩:=mem_ready.1 hx;have hxs:=(aS.1 ho).1;rw[hin x (by omega)]at h0
   cases h0
 | succ m ih=>
  intro l k listed a w hT hsz hk hl hops hin hout h;obtain⟨o,l',rfl⟩:∃o l',l=o :: l':=by
   cases l with
   | nil=>simp at hl
   | cons o l'=>exact⟨o,l',rfl⟩
  have hok:ops[k]? =Xa o:=by have:=hops 0;simpa using this.symm
  have hkr:k∈Ol .any ops listed:=by
   refine mem_ready.2 ⟨hout k (nR _) (by omega),o,hok,fun e he hb=>?_⟩
   have hlt:=laxTB_edge hB hok e.on ((edge_of hok).2 ⟨e,he,hb,rfl⟩);exact getD_up (by omega) (hin e.on hlt)
  refine⟨fun hr=>?_,fun j hj=>?_⟩
  ·rw[hr]at hkr;cases hkr
  obtain⟨h0,oj,hoj,hall⟩:=mem_ready.1 hj;have hjs:=(aS.1 hoj).1;have hjk:k<=j:=by
   rcases Yg j k with h1 | h1
   ·rw[hin j h1]at h0;cases h0
   exact h1
  have hj':j=k:=by
   rcases Yg k j with h1 | h1
   ·exfalso;have ha:=laxTB_last hB hoj (by omega) k h1
    have hc:closed ops listed:=fun i q hq hiq=>by
     obtain⟨oq,hoq⟩:=edge_some hiq;have hlt:=laxTB_edge hB hoq i hiq;have hqk:q<k:=by
      rcases Yg q k with h2 | h2
      ·exact h2
      have:=getD_flip (hout q h2 (aS.1 hoq).1);rw[this]at hq;cases hq
     exact getD_up (by omega) (hin i (by omega))
    have:=anc_listed hc j k j (fun q hq=>by
     obtain⟨e,he,hb,rfl⟩:=(edge_of hoj).1 hq;exact hall e he hb) ha
    rw[getD_flip (hout k (nR _) (by omega))]at this
    cases this
   omega
  subst hj';rw[hok]at hoj;cases hoj;unfold wpList at h;unfold wpOp;simp only[hok];have hnext:∀a w,wpList P ops Q l' a w->wpAny P .any ops Q m (listed.setIfInBounds j Xc) a w:=fun a w h'=>
   ih l' (j+1) _ a w (by omega) (by simp[hsz]) (by omega) (by simpa using hl) (fun q=>by have:=hops (q+1);rw[Ok]at this;rw[this];congr 1;omega)
    (fun i hi=>by
     by_cases e:j=i
     ·subst e
      simp[show j<listed.size by omega]
     rw[getD_set_ne Xc e];exact hin i (by omega))
    (fun i hi hi'=>by rw[getD_set_ne Xc (by omega)];exact hout i (by omega) hi') h'
  split
  ·rename_i hw
   rw[if_pos hw]at h
   rcases h with h | h
   ·exact .inl (Oper.wp_mono hnext h)
   exact .inr h
  rename_i hw
  rw[if_neg hw]at h;exact hnext _ _ h
structure Way {σ:Type} (P:Program) (ops:Array Oper) (C:Nat->σ->Act->(σ->Act->Prop)->Prop) (Ln:Nat->σ->Prop) (ok:Array Bool->σ->Act->Xn->Prop):Prop where
 mono:∀{i:Nat} {F:σ} {a:Act} {K K':σ->Act->Prop},(∀F' a',(∀j,anc ops 9 i j=Xd->Ln j F->Ln j F')->K F' a'->K' F' a')->C i F a K->C i F a K'
 swap:∀{i j:Nat} {oi oj:Oper} {F:σ} {a:Act} {K:σ->Act->Prop},ops[i]? =Xa oi->ops[j]? =Xa oj->i<j->oi.apart ops oj=Xc->(∀cs b,oi.op≠.select cs b)->(∀cs b,oj.op≠.select cs b)->anc ops 9 i j=Xd->anc ops 9 j i=Xd->Ln j F->C i F a (fun F' a'=>C j F' a' K)->C j F a fun F' a'=>C i F' a' K
 lean:∀{listed:Array Bool} {F:σ} {a:Act} {w:Xn} (j:Nat),ok listed F a w->Ln j F
 step:∀{listed:Array Bool} {F:σ} {a:Act} {w:Xn} {j:Nat} {oj:Oper} {K:σ->Act->Prop} {N:Act->Xn->Prop} {Q:Exit->Act->Xn->Prop},listed.size=ops.size->ops[j]? =Xa oj->listed.getD j Xc=Xd->closed ops listed->ok listed F a w->C j F a K->
  (∀F' a' w',ok (listed.setIfInBounds j Xc) F' a' w'->K F' a'->N a' w')->if Xs oj (yielded ops a.tmps)then oj.wp P a w N Q else N (a.put oj.dst undef) w
section
variable{σ:Type} {C:Nat->σ->Act->(σ->Act->Prop)->Prop} {Ln:Nat->σ->Prop} {ok:Array Bool->σ->Act->Xn->Prop} {E:σ->Act->Prop}
variable(C E)in
def Lex:List Nat->σ->Act->Prop
 | [],F,a=>E F a
 | i :: l,F,a=>C i F a (Lex l)
theorem Lex.commute (W:Way P ops C Ln ok) {j:Nat} {oj:Oper} (hj:ops[j]? =Xa oj) (hsel:∀(k:Nat) (o:Oper) cs b,ops[k]? =Xa o->o.op≠.select cs b):
  ∀(l:List Nat) (F:σ) (a:Act),l.Nodup->j∈l->
   (∀i∈l,i≠j->∃oi,ops[i]? =Xa oi/\(i<j->oi.apart ops oj=Xc)/\anc ops 9 i j=Xd/\(i<j->anc ops 9 j i=Xd))->
   (l.Pairwise (·< ·))->Ln j F->Lex C E l F a->Lex C E (j :: l.filter (· != j)) F a
 | [],_,_,_,hm,_,_,_,_=>by cases hm
 | i :: l,F,a,hnd,hm,hall,hsorted,hF,h=>by
  by_cases hij:i=j
  ·subst hij;have:(i :: l).filter (· != i)=l:=by
    rw[List.filter_cons];simp only[bne_self_eq_false,Yl,if_false];refine Oz.2 fun x hx=>?_
    have:x≠i:=fun e=>(Ys.1 hnd).1 (e ▸ hx)
    simpa using this
   rw[this];exact h
  have hjl:j∈l:=by
   rcases mC.1 hm with e | e
   ·exact absurd e.symm hij
   exact e
  have hlt:i<j:=(Oe.1 hsorted).1 j hjl;obtain⟨oi,hoi,hap,haij,haji⟩:=hall i (by simp) hij
  have hf:(i :: l).filter (· != j)=i :: l.filter (· != j):=by
   rw[List.filter_cons];have:(i != j)=Xc:=by simpa using hij
   simp[this]
  rw[hf];refine W.swap hoi hj hlt (hap hlt) (fun cs b=>hsel i oi cs b hoi) (fun cs b=>hsel j oj cs b hj) haij (haji hlt) hF ?_
  refine W.mono (fun F' a' hF' hl=>?_) h
  exact Lex.commute W hj hsel l F' a' (Ys.1 hnd).2 hjl (fun k hk=>hall k (by simp[hk])) (Oe.1 hsorted).2 (hF' j haij hF) hl
theorem wpAny_of_lex (W:Way P ops C Ln ok) {Q':Exit->Act->Xn->Prop} {l:List Oper} {m:Nat} (hB:laxTB ops T=Xc) (hTl:T+m=ops.size) (hll:l.length=m) (hops:∀j,l[j]? =ops[T+j]?) (hQ:∀listed F a w,ok listed F a w->E F a->wpList P ops Q' l a w):
  ∀(fuel:Nat) (listed:Array Bool) (F:σ) (a:Act) (w:Xn),listed.size=ops.size->(∀i,T<=i->i<ops.size->listed.getD i Xc=Xd)->(unlistedT listed T).length=fuel->closed ops listed->ok listed F a w->
   Lex C E (unlistedT listed T) F a->wpAny P .any ops Q' (fuel+m) listed a w:=by
 have hsel:=Region.noSelect_spec (ops:=ops) (by simp only[laxTB,Xx]at hB;exact hB.1.1)
 intro fuel
 induction fuel with
 | zero=>
  intro listed F a w hsz hout hl hc hF h;have hnil:unlistedT listed T=[]:=eN hl;rw[hnil]at h;rw[zA];refine wpAny_last hB m l T listed a w (nR _) hsz hTl hll hops (fun i hi=>?_) hout (hQ _ _ _ _ hF h)
  cases hg:listed.getD i Xc with
  | true=>rfl
  | false=>
   have:i∈unlistedT listed T:=Xt.2 ⟨Xu.2 hi,by simp only[hg,beq_self_eq_true]⟩
   rw[hnil]at this;cases this
 | succ fuel ih=>
  intro listed F a w hsz hout hl hc hF h;rw[Nat.add_right_comm];refine⟨fun hr=>?_,fun j hj=>?_⟩
  ·exfalso
   cases hu:unlistedT listed T with
   | nil=>simp[hu]at hl
   | cons x xs=>
    have hx:x∈unlistedT listed T:=by rw[hu];simp
    have hx':=Xt.1 hx;have hxT:x<T:=Xu.1 hx'.1;have hxs:x<ops.size:=by omega
    have ho:ops[x]? =Xa ops[x]:=Yd hxs;have hsorted:(unlistedT listed T).Pairwise (·< ·):=List.Pairwise.filter _ Om;have:x∈Ol .any ops listed:=by
     refine mem_ready.2 ⟨by simpa using hx'.2,ops[x],ho,fun e he hb=>?_⟩
     have hed:edge ops e.on x=Xc:=(edge_of ho).2 ⟨e,he,hb,rfl⟩;have hlt:=laxTB_edge hB ho _ hed
     cases hg:listed.getD e.on Xc with
     | true=>exact getD_up (by omega) hg
     | false=>
      have hmem:e.on∈unlistedT listed T:=Xt.2 ⟨Xu.2 (by omega),by simp only[hg,beq_self_eq_true]⟩
      rw[hu]at hmem hsorted
      rcases mC.1 hmem with e1 | e1
      ·omega
      have:=(Oe.1 hsorted).1 _ e1;omega
    rw[hr]at this;cases this
  obtain⟨h0,oj,hoj,hall⟩:=mem_ready.1 hj;have hjs:j<ops.size:=(aS.1 hoj).1;have hdir:∀k,edge ops k j=Xc->listed.getD k Xd=Xc:=fun k hk=>by
   obtain⟨e,he,hb,rfl⟩:=(edge_of hoj).1 hk;exact hall e he hb
  have hjT:j<T:=by
   rcases Yg j T with h1 | h1
   ·exact h1
   exfalso
   cases hu:unlistedT listed T with
   | nil=>simp[hu]at hl
   | cons x xs=>
    have hx:x∈unlistedT listed T:=by rw[hu];simp
    have hx':=Xt.1 hx;have hxT:x<T:=Xu.1 hx'.1;have:=anc_listed hc j x j hdir (laxTB_last hB hoj h1 x (by omega))
    rw[getD_flip (by simpa using hx'.2)]at this
    cases this
  have hju:j∈unlistedT listed T:=Xt.2 ⟨Xu.2 hjT,by simp only[h0,beq_self_eq_true]⟩
  have hnd:(unlistedT listed T).Nodup:=List.Pairwise.filter _ List.nodup_range;have hsorted:(unlistedT listed T).Pairwise (·< ·):=List.Pairwise.filter _ Om;have hcm:=Lex.commute W hoj hsel (unlistedT listed T) F a hnd hju (fun i hi hij=>by
   have hi':=Xt.1 hi;have hun:listed.getD i Xd=Xd:=getD_flip (by simpa using hi'.2)
   have his:i<ops.size:=by have:=Xu.1 hi'.1;omega
   have hoi:ops[i]? =Xa ops[i]:=Yd his;refine⟨ops[i],hoi,fun hlt=>?_,?_,fun hlt=>?_⟩
   ·rcases laxTB_apart hB hoj hjT i hlt with he | ⟨oi,hoi',hap⟩
    ·have:=hdir i he;rw[hun]at this;cases this
    rw[hoi]at hoi';cases hoi';exact hap
   ·cases ha:anc ops 9 i j with
    | false=>rfl
    | true=>
     have:=anc_listed hc 9 i j hdir ha;rw[hun]at this;cases this
   cases ha:anc ops 9 j i with
   | false=>rfl
   | true=>
    have:=ancT_lt hB 9 j i ha
    omega) hsorted (W.lean j hF) h
  have hsz':(listed.setIfInBounds j Xc).size=ops.size:=by simp[hsz]
  have hout':∀i,T<=i->i<ops.size->(listed.setIfInBounds j Xc).getD i Xc=Xd:=fun i hi hi'=>by rw[getD_set_ne Xc (by omega)];exact hout i hi hi'
  have hlen':(unlistedT (listed.setIfInBounds j Xc) T).length=fuel:=by
   rw[unlistedT_set (by omega)]
   have he:(unlistedT listed T).filter (· != j)=(unlistedT listed T).erase j:=by
    rw[List.Nodup.erase_eq_filter hnd]
   rw[he,Oh hju];omega
  have hc':closed ops (listed.setIfInBounds j Xc):=fun i k hk hik=>by
   by_cases hkj:j=k
   ·subst hkj;exact getD_set_true (hdir i hik)
   rw[getD_set_ne Xd hkj]at hk;exact getD_set_true (hc i k hk hik)
  rw[<-unlistedT_set (by omega)]at hcm
  have hst:=W.step (Q:=Q') (N:=wpAny P .any ops Q' (fuel+m) (listed.setIfInBounds j Xc)) hsz hoj h0 hc hF hcm fun F' a' w' h1 h2=>ih _ F' a' w' hsz' hout' hlen' hc' h1 h2
  unfold wpOp;simp only[hoj]
  split
  ·rename_i hwant
   rw[if_pos hwant]at hst;exact .inl hst
  rename_i hwant
  rw[if_neg hwant]at hst;exact hst
variable(ops C E)in
structure WLaxG (l:List Oper) (k:Nat) (F:σ) (a:Act):Prop where
 out:(∀j,l[j]? =ops[k+j]?\/l.length<=j)->Lex C E (List.range' k l.length) F a
theorem WLaxG.cons {o:Oper} {rest:List Oper} {k:Nat} {F:σ} {a:Act} (mono:∀{i:Nat} {F:σ} {a:Act} {K K':σ->Act->Prop},(∀F' a',K F' a'->K' F' a')->C i F a K->C i F a K') (h:ops[k]? =Xa o->C k F a (WLaxG ops C E rest (k+1))):WLaxG ops C E (o :: rest) k F a:=⟨fun hl=>by
 have h0:ops[k]? =Xa o:=by
  rcases hl 0 with e | e
  ·simpa using e.symm
  simp at e
 have hnext:∀j,rest[j]? =ops[k+1+j]?\/rest.length<=j:=fun j=>by
  rcases hl (j+1)with e | e
  ·left;rw[Ok]at e;rw[e];congr 1;omega
  right;simpa using e
 exact mono (fun F' a' hk=>hk.out hnext) (h h0)⟩
theorem wp_laxG {id:Nat} {Q:Exit->Act->Xn->Prop} {a:Act} {w:Xn} {L l r:List Oper} {F:σ} (W:Way P L.toArray C Ln ok) (T:Nat) (hm:P.follows .mixedOrders=Xc) (hB:laxTB L.toArray T=Xc) (hl:L.take T=l) (hr:L.drop T=r) (hT:T<=L.length) (h0:∀listed:Array Bool,ok listed F a w.drew)
  (hQ:∀listed F a w,ok listed F a w->E F a->wpList P L.toArray Q r a w) (h:WLaxG L.toArray C E l 0 F a):(Code.region id L.toArray Xc).wp P Q a w:=by
 have hlT:l.length=T:=by rw[<-hl,List.length_take];omega
 have hrT:r.length=L.length - T:=by rw[<-hr,List.length_drop]
 refine wp_region_any hm ?_;have hu:unlistedT (Array.replicate L.toArray.size Xd) T=Xz T:=by
  unfold unlistedT;refine Oz.2 fun i hi=>?_
  have:i<T:=by simpa using hi
  simp[show i<L.length by omega]
 have h':=h.out (fun j=>by
  rcases Yg j T with hj | hj
  ·left;rw[<-hl,List.getElem?_take_of_lt hj];simp
  right;omega)
 rw[hlT,<-Ov]at h';have hfin:=wpAny_of_lex (E:=E) W (T:=T) (l:=r) (m:=L.length - T) (Q':=Q) hB (by simp;omega) hrT (fun j=>by rw[<-hr,Uf];simp) hQ
  T (Array.replicate L.toArray.size Xd) F a w.drew (by simp) (fun i hi hi'=>by simp at hi';simp[hi']) (by rw[hu];simp) (fun i j hj _=>by
   exfalso;rw[Array.getD_eq_getD_getElem?,Array.getElem?_replicate]at hj
   split at hj <;> simp at hj)
  (h0 _) (by rw[hu];exact h')
 have hsz:T+(L.length - T)=L.toArray.size:=by simp;omega
 rw[hsz]at hfin;exact hfin
end
end
theorem look_mem {α:Type}:∀{S:List (Nat × α)} {k:Nat} {s:α},S.lookup k=Xa s->∃x∈S,x.2=s/\x.1=k
 | [],k,s,h=>by simp at h
 | x :: S,k,s,h=>by
  rw[List.lookup_cons]at h
  split at h
  ·rename_i he
   exact⟨x,by simp,by simpa using h,(by simpa using he:k=x.1).symm⟩
  obtain⟨y,hy,he⟩:=look_mem h;exact⟨y,by simp[hy],he⟩
structure GrownW (w0:Xn) where
 world:Xn
 grew:Grew w0 world
def tame (o:Oper):Bool:=
 match o.op with
 | .move _ | .assign _ | .pick .. | .build .. | .load .. | .binOp .. | .unOp .. | .convert .. | .fieldAddr .. | .field .. | .indexAddr .. | .index .. | .extract .. | .slice .. | .lookup ..=>Xc
 | .call { callee:= .builtin .len,.. } | .call { callee:= .builtin .cap,.. } | .call { callee:= .builtin .max,.. } | .call { callee:= .builtin .min,.. }=>Xc
 | _=>Xd
theorem value_only {P:Program} {α:Type} {s:Sem α} {g:α->Xq} {w w':Xn} {n:Next}:(s >>= fun v=>pure (Next.value (g v))).run P w= .ok n w'->∃v,n= .value v:=by
 intro h;rw[Xy]at h
 cases hs:s.run P w with
 | ok x w1=>simp[hs,Result.andThen,Yh]at h;exact⟨_,h.1.symm⟩
 | halt x w1=>simp[hs,Result.andThen]at h
structure HoldI (I:Xn->Prop) where
 world:Xn
 holds:I world
section
variable{P:Program} {o:Oper} {a:Act}
theorem tame_value (ht:tame o=Xc) {ρ:Operand->Xq} {w w':Xn} {n:Next}:(execOp ρ o).run P w= .ok n w'->∃v,n= .value v:=by
 obtain⟨dst,op,type,pos,after,guard⟩:=o
 cases op <;> simp only[tame,Yl]at ht <;> simp only[execOp]
 all_goals first
  | exact value_only (g:=id)
  | exact value_only
  | (intro h;simp[Yh]at h;exact⟨_,h.1.symm⟩)
  | skip
 rename_i c
 obtain⟨callee,as1,ts⟩:=c
 cases callee with
 | value _=>simp at ht
 | invoke _ _=>simp at ht
 | builtin b=>
  cases b <;> simp only[Yl]at ht <;> simp only[resolve,pure_bind,invoke,builtin] <;> exact value_only (g:=id)
theorem quiet_run (ht:tame o=Xc) {U:Xn->Prop} {K:Act->Prop} (h:o.quiet P a U K):∃v,(∀w,U w->(execOp a.eval o).run P w= .ok (.value v) w)/\K (a.put o.dst v):=by
 obtain⟨v,h1,h2⟩:=h;refine⟨v,fun w hg=>?_,h2⟩
 have h3:=h1 w hg;unfold Oper.quietAt at h3;have hne:=fun n w'=>@tame_value P o ht a.eval w w' n
 generalize(execOp a.eval o).run P w=r at*
 cases r with
 | ok n w'=>
  cases n <;> simp only[Oper.quietUpon]at h3
  case value u=>rw[h3.1,h3.2]
  case skip=>obtain⟨_,he⟩:=hne _ _ rfl;cases he
  case enter f args=>obtain⟨_,he⟩:=hne _ _ rfl;cases he
 | halt x w'=>simp only[Oper.quietUpon]at h3
theorem run_nilc {w:Xn} (x:Operand) (p:Addr) (ho:o.op= .nilCheck x) (hx:a.eval x= Xj (Xa p)):(execOp a.eval o).run P w= .ok (.value (Xj (Xa p))) w:=by
 simp[execOp,ho,hx]
theorem Does.call {w:Xn} {K:Xq->Xn->Prop} {f:FuncId} {xs:List Operand} {ts:Array TypeId} {fn:Func} (args:List Xq)
  (ho : o.op = .call { callee := .value (.func f), args := xs.toArray, argTypes := ts }) (hf : P.funcs[f]? = some fn) (hb : fn.body.isNone = false) (hn : (fn.name == "runtime.NumGoroutine") = false)
  (ha:xs.map a.eval=args) (h:Xp P f args.toArray w fun e w'=>∃v,e= Xl v/\K v w'):Does P o a w K:=by
 have hr:(execOp a.eval o).run P w= .ok (.enter f args.toArray) w:=by
  have he : a.eval (.func f) = .func (.func f) #[] #[] := rfl;simp only [execOp, ho, resolve, he, List.map_toArray, ha, Deferred.ofValue, pure_bind, invoke];have hn' : fn.name ≠ "runtime.NumGoroutine" := by simpa using hn
  have hb':fn.body≠Xb:=fun e=>by rw[e]at hb;cases hb
  simp[callFunc,hf,hb',hn',program,Xy,Sem.run]
 unfold Does;rw[hr];exact h
end
structure SpecE where
 arg:Operand
 pv:Xq->Prop
 post:Xq->Xq->Xn->Prop
 step:Xn->Xn->Prop
 pre:Xn->Prop:=fun _=>True
section
variable(I:Xn->Prop) (P:Program) (ops:Array Oper) (S:Nat->Option SpecE)
def ClauseE (i:Nat) (F:Nat->Xn->Prop) (a:Act) (K:(Nat->Xn->Prop)->Act->Prop):Prop:=
 match ops[i]? with
 | none=>False
 | some o=>
  if Xs o (yielded ops a.tmps)then
   match S i with
   | none=>∃v,(∀w,I w->(∀m,anc ops 9 m i=Xc->F m w)->(execOp a.eval o).run P w= .ok (.value v) w)/\K F (a.put o.dst v)
   | some s=>(∀w,I w->s.pre w->(∀m,anc ops 9 m i=Xc->F m w)->Does P o a w fun v w'=>I w'/\s.step w w'/\s.pv v/\s.post (a.eval s.arg) v w')/\∀v,s.pv v->K (fset F i (s.post (a.eval s.arg) v)) (a.put o.dst v)
  else K F (a.put o.dst undef)
end
section
variable{I:Xn->Prop} {P:Program} {ops:Array Oper} {S:Nat->Option SpecE} {J:Act->Xn->Prop}
theorem ClauseE.mono {i:Nat} {F:Nat->Xn->Prop} {a:Act} {K K':(Nat->Xn->Prop)->Act->Prop}
  (h:∀F' a',(∀m,m≠i->F' m=F m)->K F' a'->K' F' a') (hc:ClauseE I P ops S i F a K):ClauseE I P ops S i F a K':=by
 unfold ClauseE at*
 split
 ·rename_i ho;simp only[ho]at hc
 rename_i o ho
 simp only[ho]at hc
 split
 ·rename_i hw
  simp only[hw,if_true]at hc
  split
  ·rename_i hs
   simp only[hs]at hc;obtain⟨v,h1,h2⟩:=hc;exact⟨v,h1,h _ _ (fun _ _=>rfl) h2⟩
  rename_i s hs
  simp only[hs]at hc;exact⟨hc.1,fun v hv=>h _ _ (fun m hm=>fset_other hm) (hc.2 v hv)⟩
 rename_i hw
 simp only[hw]at hc;exact h _ _ (fun _ _=>rfl) hc
theorem ClauseE.swap {i j:Nat} {oi oj:Oper} {F:Nat->Xn->Prop} {a:Act} {K:(Nat->Xn->Prop)->Act->Prop} {w:Xn}
  (hi:ops[i]? =Xa oi) (hj:ops[j]? =Xa oj) (hne:i≠j) (hap:oi.apart ops oj=Xc)
  (hsi:∀cs b,oi.op≠.select cs b) (hsj:∀cs b,oj.op≠.select cs b)
  (hA:∀k s o,S k=Xa s->ops[k]? =Xa o->∀d,s.arg= .tmp d->d∈o.looksAt ops) (hij:anc ops 9 i j=Xd) (hji:anc ops 9 j i=Xd) (hS:∀s,S i=Xa s->∃v,s.pv v)
  (hw0:I w) (hF:∀m,anc ops 9 m j=Xc->F m w)
  (h:ClauseE I P ops S i F a fun F' a'=>ClauseE I P ops S j F' a' K):ClauseE I P ops S j F a fun F' a'=>ClauseE I P ops S i F' a' K:=by
 obtain⟨h1,h2,h3⟩:=Oper.apart_spec hap;have ei:∀v,execOp (a.put oj.dst v).eval oi=execOp a.eval oi:=fun v=>execOp_put oi hsi a oj.dst v h3
 have ej:∀v,execOp (a.put oi.dst v).eval oj=execOp a.eval oj:=fun v=>execOp_put oj hsj a oi.dst v h1
 have wi:∀v,Xs oi (yielded ops (a.put oj.dst v).tmps)=Xs oi (yielded ops a.tmps):=fun v=>wanted_put oi a oj.dst v h3
 have wj:∀v,Xs oj (yielded ops (a.put oi.dst v).tmps)=Xs oj (yielded ops a.tmps):=fun v=>wanted_put oj a oi.dst v h1
 have di:∀v w K,Does P oi (a.put oj.dst v) w K=Does P oi a w K:=fun v w K=>by unfold Does;rw[ei]
 have dj:∀v w K,Does P oj (a.put oi.dst v) w K=Does P oj a w K:=fun v w K=>by unfold Does;rw[ej]
 have gi:∀v s,S i=Xa s->(a.put oj.dst v).eval s.arg=a.eval s.arg:=fun v s hs=>Act.eval_put fun d hd hxd=>h3 d hd (hA i s oi hs hi d hxd)
 have gj:∀v s,S j=Xa s->(a.put oi.dst v).eval s.arg=a.eval s.arg:=fun v s hs=>Act.eval_put fun d hd hxd=>h1 d hd (hA j s oj hs hj d hxd)
 have pc:∀v u,(a.put oi.dst v).put oj.dst u=(a.put oj.dst u).put oi.dst v:=fun v u=>Act.put_comm a v u h2
 have fi:∀p,(fun m=>anc ops 9 m i=Xc->fset F j p m w=F m w)=fun _=>True:=fun p=>by
  funext m
  simp only[eq_iff_iff,iff_true];intro hm;rw[fset_other (fun e=>by subst e;rw[hji]at hm;cases hm)]
 have faci:∀p w',(∀m,anc ops 9 m i=Xc->fset F j p m w')↔(∀m,anc ops 9 m i=Xc->F m w'):=fun p w'=>by
  constructor <;> intro hh m hm <;> have:=hh m hm
  ·rwa [fset_other (fun e=>by subst e;rw[hji]at hm;cases hm)]at this
  rwa [fset_other (fun e=>by subst e;rw[hji]at hm;cases hm)]
 have facj:∀p w',(∀m,anc ops 9 m j=Xc->fset F i p m w')↔(∀m,anc ops 9 m j=Xc->F m w'):=fun p w'=>by
  constructor <;> intro hh m hm <;> have:=hh m hm
  ·rwa [fset_other (fun e=>by subst e;rw[hij]at hm;cases hm)]at this
  rwa [fset_other (fun e=>by subst e;rw[hij]at hm;cases hm)]
 clear fi;unfold ClauseE at h⊢;simp only[hi,hj,ei,ej,wi,wj,di,dj,pc]at h⊢
 cases hwi:Xs oi (yielded ops a.tmps) <;> cases hwj:Xs oj (yielded ops a.tmps) <;>
  simp only[hwi,hwj,if_true,if_false,Yl]at h⊢
 ·exact h
 ·cases hsj':S j with
  | none=>simp only[hsj']at h⊢;exact h
  | some s=>simp only[hsj',gj _ s hsj']at h⊢;exact h
 ·cases hsi':S i with
  | none=>simp only[hsi']at h⊢;exact h
  | some s=>simp only[hsi',gi _ s hsi']at h⊢;exact h
 cases hsi':S i with
 | none=>
  simp only[hsi']at h;obtain⟨vi,hri,h⟩:=h
  cases hsj':S j with
  | none=>
   simp only[hsj']at h⊢;obtain⟨vj,hrj,h⟩:=h;exact⟨vj,hrj,vi,hri,h⟩
  | some s=>
   simp only[hsj',gj _ s hsj']at h⊢;exact⟨h.1,fun vj hvj=>⟨vi,fun w' hw' hf=>hri w' hw' ((faci _ _).1 hf),h.2 vj hvj⟩⟩
 | some si=>
  simp only[hsi']at h;obtain⟨hdi,h⟩:=h;obtain⟨v1,hv1⟩:=hS si hsi'
  cases hsj':S j with
  | none=>
   simp only[hsj',gi _ si hsi']at h⊢;obtain⟨vj,hrj,_⟩:=h v1 hv1;refine⟨vj,fun w' hw' hf=>hrj w' hw' ((facj _ _).2 hf),hdi,fun vi hvi=>?_⟩
   obtain⟨vj',hrj',hl⟩:=h vi hvi;have e1:=hrj w hw0 ((facj _ _).2 hF);have e2:=hrj' w hw0 ((facj _ _).2 hF);rw[e1]at e2;simp only[Result.ok.injEq,Next.value.injEq,and_true]at e2;subst e2;exact hl
  | some sj=>
   simp only[hsj',gj _ sj hsj',gi _ si hsi']at h⊢;refine⟨fun w' hw' hpr hf=>(h v1 hv1).1 w' hw' hpr ((facj _ _).2 hf),fun vj hvj=>⟨fun w' hw' hpr hf=>hdi w' hw' hpr ((faci _ _).1 hf),fun vi hvi=>?_⟩⟩
   have:=(h vi hvi).2 vj hvj;rwa [fset_comm hne]at this
def okE (I:Xn->Prop) (J:Act->Xn->Prop) (S:Nat->Option SpecE) (listed:Array Bool) (F:Nat->Xn->Prop) (a:Act) (w:Xn):Prop:=
 I w/\J a w/\(∀i,F i w)/\(∀i,(∀w,F i w)\/∃s u v,S i=Xa s/\F i=s.post u v/\listed.getD i Xd=Xc)/\∀k t,S k=Xa t->listed.getD k Xc=Xd->t.pre w
theorem wayE (hA:∀k s o,S k=Xa s->ops[k]? =Xa o->∀d,s.arg= .tmp d->d∈o.looksAt ops) (hS:∀k s,S k=Xa s->∃v,s.pv v)
  (hp:∀k s j t,S k=Xa s->S j=Xa t->j≠k->anc ops 9 j k=Xd->∀u v w w',t.step w w'->s.post u v w->s.post u v w') (hpre:∀j t k s,S j=Xa t->S k=Xa s->j≠k->∀w w',s.step w w'->t.pre w->t.pre w')
  (hJq:∀(j:Nat) o,ops[j]? =Xa o->S j=Xb->∀a v w,(execOp a.eval o).run P w= .ok (.value v) w->J a w->J (a.put o.dst v) w) (hJs:∀(j:Nat) o s,ops[j]? =Xa o->S j=Xa s->∀a w K,J a w->I w->Does P o a w K->Does P o a w fun v w'=>K v w'/\J (a.put o.dst v) w') (hJu:∀(j:Nat) o,ops[j]? =Xa o->∀a w,J a w->J (a.put o.dst undef) w):
  Way P ops (ClauseE I P ops S) (fun j F=>∃w,I w/\∀m,anc ops 9 m j=Xc->F m w) (okE I J S) where
 mono h:=ClauseE.mono fun F' a' hF' hk=>h F' a' (fun j hij ⟨w,h1,h2⟩=>⟨w,h1,fun m hm=>by
  rw[hF' m (fun e=>by subst e;rw[hij]at hm;cases hm)]
  exact h2 m hm⟩) hk
 swap hi hj hlt hap hsi hsj hij hji:=fun⟨_,h1,h2⟩=>ClauseE.swap hi hj (by omega) hap hsi hsj hA hij hji (hS _) h1 h2
 lean j h:=⟨_,h.1,fun m _=>h.2.2.1 m⟩
 step {listed F a w j oj K N Q} hsz hoj h0 hc hok hcm hN:=by
  obtain⟨hw,hJ,hF,hFp,hPre⟩:=hok;have hFs:∀i,(∀w,F i w)\/∃s u v,S i=Xa s/\F i=s.post u v/\(listed.setIfInBounds j Xc).getD i Xd=Xc:=fun i=>(hFp i).imp id fun⟨s,u,v,e1,e2,e3⟩=>⟨s,u,v,e1,e2,getD_set_true e3⟩
  have hPs:∀k,(listed.setIfInBounds j Xc).getD k Xc=Xd->k≠j/\listed.getD k Xc=Xd:=fun k hl=>by
   by_cases e:j=k
   ·subst e;have:=(aS.1 hoj).1
    simp[show j<listed.size by omega]at hl
   rw[getD_set_ne Xc e]at hl;exact⟨fun h=>e h.symm,hl⟩
  simp only[ClauseE,hoj]at hcm
  split
  ·rename_i hwant
   simp only[hwant,if_true]at hcm
   cases hs:S j with
   | none=>
    simp only[hs]at hcm;obtain⟨v,hrun,hk⟩:=hcm;have hr:=hrun w hw (fun m _=>hF m)
    unfold Oper.wp;rw[hr];exact hN F _ w ⟨hw,hJq j oj hoj hs a v w hr hJ,hF,hFs,fun k t hk' hl'=>hPre k t hk' (hPs k hl').2⟩ hk
   | some s=>
    simp only[hs]at hcm;refine(hJs j oj s hoj hs a w _ hJ hw (hcm.1 w hw (hPre j s hs h0) (fun m _=>hF m))).wp fun v w' ⟨⟨hi',hstep,hpv,hpost⟩,hJ'⟩=>?_
    refine hN (fset F j (s.post (a.eval s.arg) v)) _ w' ⟨hi',hJ',fun i=>?_,fun i=>?_,fun k t hk' hl'=>hpre k t j s hk' hs (hPs k hl').1 w w' hstep (hPre k t hk' (hPs k hl').2)⟩ (hcm.2 v hpv)
    ·unfold fset
     split
     ·exact hpost
     rename_i hij
     rcases hFp i with h1 | ⟨s1,u1,v1,e1,e2,e3⟩
     ·exact h1 w'
     rw[e2];refine hp i s1 j s e1 hs (fun e=>hij e.symm) ?_ u1 v1 w w' hstep ?_
     ·cases ha:anc ops 9 j i with
      | false=>rfl
      | true=>
       have h1:=anc_listed hc 9 j i (fun k hk=>hc k i e3 hk) ha
       rw[getD_flip h0]at h1;cases h1
     have:=hF i;rw[e2]at this;exact this
    by_cases hij:i=j
    ·subst hij;refine .inr ⟨s,a.eval s.arg,v,hs,?_,?_⟩
     ·unfold fset;rw[if_pos rfl]
     have:=(aS.1 hoj).1
     simp[show i<listed.size by omega]
    rcases hFs i with h1 | ⟨s1,u1,v1,e1,e2,e3⟩
    ·refine .inl fun w=>?_
     unfold fset;rw[if_neg hij];exact h1 w
    refine .inr ⟨s1,u1,v1,e1,?_,e3⟩;unfold fset;rw[if_neg hij];exact e2
  rename_i hwant
  simp only[hwant]at hcm;exact hN F _ w ⟨hw,hJu j oj hoj a w hJ,hF,hFs,fun k t hk' hl'=>hPre k t hk' (hPs k hl').2⟩ hcm
variable{Q:Act->Xn->Prop}
variable(I P ops S Q)in
abbrev WLaxE:List Oper->Nat->(Nat->Xn->Prop)->Act->Prop:=WLaxG ops (ClauseE I P ops S) fun F a=>∀w,I w->(∀i,F i w)->Q a w
theorem wp_laxE {id:Nat} {Q:Exit->Act->Xn->Prop} {a:Act} {w:Xn} {L l r:List Oper} (T:Nat) (hI:I w.drew) (hm:P.follows .mixedOrders=Xc) (hB:laxTB L.toArray T=Xc) (hl:L.take T=l) (hr:L.drop T=r) (hT:T<=L.length) (hA:∀k s o,S k=Xa s->L.toArray[k]? =Xa o->∀d,s.arg= .tmp d->d∈o.looksAt L.toArray)
  (hS:∀k s,S k=Xa s->∃v,s.pv v) (hp:∀k s j t,S k=Xa s->S j=Xa t->j≠k->anc L.toArray 9 j k=Xd->∀u v w w',t.step w w'->s.post u v w->s.post u v w') (hpre:∀j t k s,S j=Xa t->S k=Xa s->j≠k->∀w w',s.step w w'->t.pre w->t.pre w') (hpr0:∀k t,S k=Xa t->t.pre w.drew)
  (h:WLaxE I P L.toArray S (fun a w=>wpList P L.toArray Q r a w) l 0 (fun _ _=>True) a):(Code.region id L.toArray Xc).wp P Q a w:=
 wp_laxG (wayE (J:=fun _ _=>True) hA hS hp hpre (fun _ _ _ _ _ _ _ _ _=>trivial) (fun _ _ _ _ _ _ _ _ _ _ h=>h.mono fun _ _ hk=>⟨hk,trivial⟩) (fun _ _ _ _ _ _=>trivial)) T hm hB hl hr hT (fun _=>⟨hI,trivial,fun _=>trivial,fun _=> .inl fun _=>trivial,fun k t hk _=>hpr0 k t hk⟩) (fun _ _ _ _ hok h=>h _ hok.1 hok.2.2.1) h
variable{o:Oper} {rest:List Oper} {k:Nat} {F:Nat->Xn->Prop} {a:Act}
theorem laxE_step (h:ops[k]? =Xa o->ClauseE I P ops S k F a (WLaxE I P ops S Q rest (k+1))):WLaxE I P ops S Q (o :: rest) k F a:=WLaxG.cons (fun h=>ClauseE.mono fun F' a' _=>h F' a') h
theorem laxE_val (hw:Xs o (yielded ops a.tmps)=Xc) (hS:S k=Xb) {v:Xq} (h1:∀w,I w->(execOp a.eval o).run P w= .ok (.value v) w) (h2:WLaxE I P ops S Q rest (k+1) F (a.put o.dst v)):WLaxE I P ops S Q (o :: rest) k F a:=laxE_step fun h0=>by
 simp only[ClauseE,h0,hw,if_true,hS];exact⟨v,fun w hw _=>h1 w hw,h2⟩
theorem laxE_quiet (ht:tame o=Xc) (hw:Xs o (yielded ops a.tmps)=Xc) (hS:S k=Xb)
  (h:∀K:Act->Prop,(∀a,WLaxE I P ops S Q rest (k+1) F a->K a)->o.quiet P a (fun w'=>∃x:HoldI I,w'=x.world) K):WLaxE I P ops S Q (o :: rest) k F a:=by
 obtain⟨v,h1,h2⟩:=quiet_run ht (h _ fun _ h=>h)
 exact laxE_val hw hS (fun w hw=>h1 w ⟨⟨w,hw⟩,rfl⟩) h2
theorem laxE_skip (hw:Xs o (yielded ops a.tmps)=Xd) (h:WLaxE I P ops S Q rest (k+1) F (a.put o.dst undef)):WLaxE I P ops S Q (o :: rest) k F a:=laxE_step fun h0=>by
 simp only[ClauseE,h0,hw,Yl,if_false];exact h
theorem laxE_spec {s:SpecE} (hw:Xs o (yielded ops a.tmps)=Xc) (hS:S k=Xa s)
  (h:∀w,I w->s.pre w->(∀m,anc ops 9 m k=Xc->F m w)->Does P o a w fun v w'=>I w'/\s.step w w'/\s.pv v/\s.post (a.eval s.arg) v w')
  (hn:∀v,s.pv v->WLaxE I P ops S Q rest (k+1) (fset F k (s.post (a.eval s.arg) v)) (a.put o.dst v)):WLaxE I P ops S Q (o :: rest) k F a:=laxE_step fun h0=>by
 simp only[ClauseE,h0,hw,if_true,hS];exact⟨h,hn⟩
theorem laxE_nil (h:∀w,I w->(∀i,F i w)->Q a w):WLaxE I P ops S Q [] k F a:=⟨fun _=>h⟩
theorem laxE_nilc (x:Operand) (p:Addr) (ho:o.op= .nilCheck x) (hx:a.eval x= Xj (Xa p)) (hw:Xs o (yielded ops a.tmps)=Xc) (hS:S k=Xb) (h:WLaxE I P ops S Q rest (k+1) F (a.put o.dst (Xj (Xa p)))):WLaxE I P ops S Q (o :: rest) k F a:=laxE_val hw hS (fun _ _=>run_nilc x p ho hx) h
end
def argsIn (ops:Array Oper) (S:List (Nat × SpecE)):Bool:=S.all fun x=>match x.2.arg with
 | .tmp d=>(match ops[x.1]? with | some o=>(o.looksAt ops).contains d | none=>Xd)
 | _=>Xc
theorem argsIn_spec {ops:Array Oper} {S:List (Nat × SpecE)} (h:argsIn ops S=Xc):∀k s o,S.lookup k=Xa s->ops[k]? =Xa o->∀d,s.arg= .tmp d->d∈o.looksAt ops:=fun k s o hk ho d hd=>by
 have hm:(k,s)∈S:=by
  induction S with
  | nil=>simp at hk
  | cons x S ih=>
   rw[List.lookup_cons]at hk
   split at hk
   ·rename_i e
    have e1:k=x.1:=by simpa using e
    have e2:x.2=s:=by simpa using hk
    rw[e1,<-e2];simp
   exact List.mem_cons_of_mem _ (ih (by simp only[argsIn,List.all_cons,Xx]at h;exact h.2) hk)
 have:=Yi.1 h _ hm;simp only[hd,ho]at this
 simpa using this
theorem wp_lax_tailE {I:Xn->Prop} {P:Program} {id:Nat} {Q:Exit->Act->Xn->Prop} {a:Act} {w:Xn} {L l r:List Oper} (T:Nat) (S:List (Nat × SpecE)) (hI:I w.drew) (hm:P.follows .mixedOrders=Xc) (hAB:argsIn L.toArray S=Xc) (hB:laxTB L.toArray T=Xc) (hl:L.take T=l) (hr:L.drop T=r) (hT:T<=L.length)
  (hS:∀x∈S,∃v,x.2.pv v) (hp:∀k s j t,S.lookup k=Xa s->S.lookup j=Xa t->j≠k->anc L.toArray 9 j k=Xd->∀u v w w',t.step w w'->s.post u v w->s.post u v w') (hpre:∀j t k s,S.lookup j=Xa t->S.lookup k=Xa s->j≠k->∀w w',s.step w w'->t.pre w->t.pre w') (hpr0:∀k t,S.lookup k=Xa t->t.pre w.drew)
  (h:WLaxE I P L.toArray (fun k=>S.lookup k) (fun a w=>wpList P L.toArray Q r a w) l 0 (fun _ _=>True) a):(Code.region id L.toArray Xc).wp P Q a w:=
 wp_laxE T hI hm hB hl hr hT (argsIn_spec hAB) (fun k s hk=>by obtain⟨x,hx,rfl,_⟩:=look_mem hk;exact hS x hx) hp hpre hpr0 h
structure SpecI where
 pv:Xq->Prop
 post:Xq->Xn->Prop
 step:Xn->Xn->Prop
 pre:Xn->Prop:=fun _=>True
def SpecI.e (s:SpecI):SpecE:=⟨.const undef,s.pv,fun _=>s.post,s.step,s.pre⟩
theorem map_e {x:Option SpecI} {s:SpecE} (h:x.map SpecI.e=Xa s):∃t,x=Xa t/\s=t.e:=by
 cases x with
 | none=>cases h
 | some t=>cases h;exact⟨t,rfl,rfl⟩
section
variable{I:Xn->Prop} {P:Program} {ops:Array Oper} {S:Nat->Option SpecI} {Q:Act->Xn->Prop}
variable(I P ops S Q)in
abbrev WLaxI:List Oper->Nat->(Nat->Xn->Prop)->Act->Prop:=WLaxE I P ops (fun k=>(S k).map SpecI.e) Q
theorem wp_lax_tailI {id:Nat} {Q:Exit->Act->Xn->Prop} {a:Act} {w:Xn} {L l r:List Oper} (T:Nat) (S:List (Nat × SpecI)) (hI:I w.drew) (hm:P.follows .mixedOrders=Xc) (hB:laxTB L.toArray T=Xc) (hl:L.take T=l) (hr:L.drop T=r) (hT:T<=L.length)
  (hS:∀x∈S,∃v,x.2.pv v) (hp:∀k s j t,S.lookup k=Xa s->S.lookup j=Xa t->j≠k->anc L.toArray 9 j k=Xd->∀v w w',t.step w w'->s.post v w->s.post v w') (hpre:∀j t k s,S.lookup j=Xa t->S.lookup k=Xa s->j≠k->∀w w',s.step w w'->t.pre w->t.pre w') (hpr0:∀k t,S.lookup k=Xa t->t.pre w.drew)
  (h:WLaxI I P L.toArray (fun k=>S.lookup k) (fun a w=>wpList P L.toArray Q r a w) l 0 (fun _ _=>True) a):(Code.region id L.toArray Xc).wp P Q a w:=by
 refine wp_laxE T hI hm hB hl hr hT ?_ ?_ ?_ ?_ ?_ h
 ·intro k s o hk _ d hd;obtain⟨t,_,rfl⟩:=map_e hk;cases hd
 ·intro k s hk;obtain⟨t,h1,rfl⟩:=map_e hk;obtain⟨x,hx,rfl,_⟩:=look_mem h1;exact hS x hx
 ·intro k s j t hk hj hne ha _ v;obtain⟨s,h1,rfl⟩:=map_e hk;obtain⟨t,h2,rfl⟩:=map_e hj;exact hp k s j t h1 h2 hne ha v
 ·intro j t k s hj hk hne;obtain⟨s,h1,rfl⟩:=map_e hk;obtain⟨t,h2,rfl⟩:=map_e hj;exact hpre j t k s h2 h1 hne
 intro k t hk;obtain⟨t,h1,rfl⟩:=map_e hk;exact hpr0 k t h1
variable{o:Oper} {rest:List Oper} {k:Nat} {F:Nat->Xn->Prop} {a:Act}
theorem laxI_quiet (ht:tame o=Xc) (hw:Xs o (yielded ops a.tmps)=Xc) (hS:S k=Xb)
  (h:∀K:Act->Prop,(∀a,WLaxI I P ops S Q rest (k+1) F a->K a)->o.quiet P a (fun w'=>∃x:HoldI I,w'=x.world) K):WLaxI I P ops S Q (o :: rest) k F a:=laxE_quiet ht hw (by rw[hS];rfl) h
theorem laxI_spec {s:SpecI} (hw:Xs o (yielded ops a.tmps)=Xc) (hS:S k=Xa s)
  (h:∀w,I w->s.pre w->(∀m,anc ops 9 m k=Xc->F m w)->Does P o a w fun v w'=>I w'/\s.step w w'/\s.pv v/\s.post v w')
  (hn:∀v,s.pv v->WLaxI I P ops S Q rest (k+1) (fset F k (s.post v)) (a.put o.dst v)):WLaxI I P ops S Q (o :: rest) k F a:=laxE_spec (s:=s.e) hw (by rw[hS];rfl) h hn
theorem laxI_nil (h:∀w,I w->(∀i,F i w)->Q a w):WLaxI I P ops S Q [] k F a:=laxE_nil h
end
structure Spec where
 pv:Xq->Prop
 post:Xq->Xn->Prop
def Spec.i (s:Spec):SpecI:=⟨s.pv,s.post,Grew,fun _=>True⟩
section
variable{P:Program} {ops:Array Oper} {w0:Xn} {S:Nat->Option Spec} {Q:Act->Xn->Prop}
variable(P ops w0 S Q)in
abbrev WLax:List Oper->Nat->(Nat->Xn->Prop)->Act->Prop:=WLaxI (Grew w0) P ops (fun k=>(S k).map Spec.i) Q
theorem grew_drew (w:Xn):Grew w w.drew:=show Below _ _ _ from(bR _ _).drew
theorem wp_lax_tail {id:Nat} {Q:Exit->Act->Xn->Prop} {a:Act} {w:Xn} {L l r:List Oper} (T:Nat) (S:List (Nat × Spec)) (hm:P.follows .mixedOrders=Xc) (hB:laxTB L.toArray T=Xc) (hl:L.take T=l) (hr:L.drop T=r) (hT:T<=L.length)
  (hS:∀x∈S,∃v,x.2.pv v) (hp:∀x∈S,∀v w w',Grew w w'->x.2.post v w->x.2.post v w')
  (h:WLax P L.toArray w (fun k=>S.lookup k) (fun a w=>wpList P L.toArray Q r a w) l 0 (fun _ _=>True) a):(Code.region id L.toArray Xc).wp P Q a w:=by
 have key:∀k s,((S.lookup k).map Spec.i).map SpecI.e=Xa s->∃x∈S,s=x.2.i.e:=fun k s hk=>by
  cases hs:S.lookup k with
  | none=>rw[hs]at hk;cases hk
  | some t=>
   rw[hs]at hk;cases hk;obtain⟨x,hx,rfl,_⟩:=look_mem hs;exact⟨x,hx,rfl⟩
 refine wp_laxE T (grew_drew w) hm hB hl hr hT ?_ ?_ ?_ ?_ ?_ h
 ·intro k s o hk _ d hd;obtain⟨x,_,rfl⟩:=key k s hk;cases hd
 ·intro k s hk;obtain⟨x,hx,rfl⟩:=key k s hk;exact hS x hx
 ·intro k s j t hk hj _ _ _ v w w' hst;obtain⟨x,hx,rfl⟩:=key k s hk;obtain⟨y,_,rfl⟩:=key j t hj;exact hp x hx v w w' hst
 ·intro j t k s hj _ _ _ _ _ _;obtain⟨x,_,rfl⟩:=key j t hj;trivial
 intro k t hk;obtain⟨x,_,rfl⟩:=key k t hk;trivial
theorem wp_lax {id:Nat} {Q:Exit->Act->Xn->Prop} {a:Act} {w:Xn} {l:List Oper} (S:List (Nat × Spec)) (hm:P.follows .mixedOrders=Xc) (hB:laxTB l.toArray l.length=Xc)
  (hS:∀x∈S,∃v,x.2.pv v) (hp:∀x∈S,∀v w w',Grew w w'->x.2.post v w->x.2.post v w')
  (h:WLax P l.toArray w (fun k=>S.lookup k) (fun a w=>Q .normal a w) l 0 (fun _ _=>True) a):(Code.region id l.toArray Xc).wp P Q a w:=
 wp_lax_tail l.length S hm hB (List.take_length ..) (List.drop_length ..) (nR _) hS hp h
variable{o:Oper} {rest:List Oper} {k:Nat} {F:Nat->Xn->Prop} {a:Act}
theorem lax_quiet (ht:tame o=Xc) (hw:Xs o (yielded ops a.tmps)=Xc) (hS:S k=Xb)
  (h:∀K:Act->Prop,(∀a,WLax P ops w0 S Q rest (k+1) F a->K a)->o.quiet P a (fun w'=>∃x:GrownW w0,w'=x.world) K):WLax P ops w0 S Q (o :: rest) k F a:=by
 obtain⟨v,h1,h2⟩:=quiet_run ht (h _ fun _ h=>h)
 exact laxE_val hw (by simp only[hS];rfl) (fun w hw=>h1 w ⟨⟨w,hw⟩,rfl⟩) h2
theorem lax_skip (hw:Xs o (yielded ops a.tmps)=Xd) (h:WLax P ops w0 S Q rest (k+1) F (a.put o.dst undef)):WLax P ops w0 S Q (o :: rest) k F a:=laxE_skip hw h
theorem lax_spec {s:Spec} (hw:Xs o (yielded ops a.tmps)=Xc) (hS:S k=Xa s)
  (h:∀w,Grew w0 w->(∀m,anc ops 9 m k=Xc->F m w)->Does P o a w fun v w'=>Grew w w'/\s.pv v/\s.post v w')
  (hn:∀v,s.pv v->WLax P ops w0 S Q rest (k+1) (fset F k (s.post v)) (a.put o.dst v)):WLax P ops w0 S Q (o :: rest) k F a:=laxE_spec (s:=s.i.e) hw (by simp only[hS];rfl) (fun w hg _ hF=>(h w hg hF).mono fun _ _ hk=>⟨hg.trans hk.1,hk⟩) hn
theorem lax_nil (h:∀w,Grew w0 w->(∀i,F i w)->Q a w):WLax P ops w0 S Q [] k F a:=laxE_nil h
theorem lax_nilc (x:Operand) (p:Addr) (ho:o.op= .nilCheck x) (hx:a.eval x= Xj (Xa p)) (hw:Xs o (yielded ops a.tmps)=Xc) (hS:S k=Xb) (h:WLax P ops w0 S Q rest (k+1) F (a.put o.dst (Xj (Xa p)))):WLax P ops w0 S Q (o :: rest) k F a:=laxE_nilc x p ho hx hw (by simp only[hS];rfl) h
end
theorem add_add' (a:Addr) (i j:Nat):(a.add i).add j=a.add (i+j):=by
 unfold Addr.add
 by_cases h1:i=0 <;> by_cases h2:j=0 <;> simp[h1,h2] <;> omega
def Cells (w:Xn) (x:Addr) (cs:List Xq):Prop:=∀j u,cs[j]? =Xa u->w.cell? (x.add j)=Xa u
theorem Cells.grew {w w':Xn} {x:Addr} {cs:List Xq} (h:Cells w x cs) (hg:Grew w w'):Cells w' x cs:=fun j u hj=>by
 have h1:=h j u hj;rw[Below.cell hg (World.block_lt_of_cell? _ _ h1)];exact h1
theorem flatMap_len {α:Type} {enc:α->List Xq} {k:Nat}:∀(l:List α),(∀a∈l,(enc a).length=k)->(l.flatMap enc).length=l.length*k
 | [],_=>by simp
 | a :: l,h=>by
  rw[Xw,lA,h a (by simp),flatMap_len l (fun b hb=>h b (by simp[hb])),Yx,Og,Nat.one_mul,Yv]
theorem flatMap_elem {α:Type} {enc:α->List Xq} {k:Nat}:∀(l:List α) (j:Nat) (a:α),(∀b∈l,(enc b).length=k)->l[j]? =Xa a->∀i u,(enc a)[i]? =Xa u->(l.flatMap enc)[j*k+i]? =Xa u
 | [],j,a,_,h,_,_,_=>by simp at h
 | b :: l,0,a,hk,h,i,u,hi=>by
  simp at h;subst h
  have hil:i< (enc b).length:=by
   rcases Yg i (enc b).length with h | h
   ·exact h
   rw[gN h]at hi;cases hi
  rw[Xw,Oo,zA,List.getElem?_append_left hil];exact hi
 | b :: l,j+1,a,hk,h,i,u,hi=>by
  have hb:=hk b (by simp)
  rw[Xw,aR (by rw[hb,Og];omega),hb]
  have e:(j+1)*k+i - k=j*k+i:=by rw[Og];omega
  rw[e];exact flatMap_elem l j a (fun c hc=>hk c (by simp[hc])) (by simpa using h) i u hi
theorem Cells.elem {α:Type} {enc:α->List Xq} {k:Nat} {w:Xn} {x:Addr} {l:List α} (h:Cells w x (l.flatMap enc)) (hk:∀b∈l,(enc b).length=k) {j:Nat} {a:α} (ha:l[j]? =Xa a):Cells w (x.add (j*k)) (enc a):=fun i u hi=>by
 rw[add_add'];exact h _ _ (flatMap_elem l j a hk ha i u hi)
def SliceAt {α:Type} (enc:α->List Xq) (w:Xn) (v:Xq) (l:List α):Prop:=
 ∃a c,v= O a l.length c/\(a=Xb->l=[])/\∀x,a=Xa x->Cells w x (l.flatMap enc)
theorem SliceAt.grew {α:Type} {enc:α->List Xq} {w w':Xn} {v:Xq} {l:List α} (h:SliceAt enc w v l) (hg:Grew w w'):SliceAt enc w' v l:=by
 obtain⟨a,c,h1,h2,h3⟩:=h;exact⟨a,c,h1,h2,fun x hx=>(h3 x hx).grew hg⟩
theorem sliceAt_of_owns {α:Type} {enc:α->List Xq} {w:Xn} {base size:Nat} {e:TypeId} {v:Xq} {l:List α} (h:w.ownsRow base e size v l.length (l.flatMap enc)):SliceAt enc w v l:=by
 rcases h.2 with⟨rfl,hn⟩ | ⟨g,cap,cur,rfl,h2,h3,h4,h5,h6,h7⟩
 ·have hl:l=[]:=eN hn;subst hl;exact⟨Xb,0,rfl,fun _=>rfl,fun x hx=>by cases hx⟩
 refine⟨Xa ⟨g,0,Xb⟩,cap,rfl,fun h=>(by cases h),fun x hx=>?_⟩
 cases hx;exact h.cells rfl
theorem ownsRow_grew {w w':Xn} {base size n:Nat} {e:TypeId} {v:Xq} {xs:List Xq} (h:w.ownsRow base e size v n xs) (hg:Grew w w'):w'.ownsRow base e size v n xs:=by
 refine⟨h.1,?_⟩
 rcases h.2 with h1 | ⟨g,cap,cur,rfl,h2,h3,h4⟩
 ·exact .inl h1
 exact .inr ⟨g,cap,cur,rfl,h2,by rw[Below.block hg g (aS.1 h3).1];exact h3,h4⟩
theorem ownsRow_base {w:Xn} {base base' size n:Nat} {e:TypeId} {v:Xq} {xs:List Xq} (h:w.ownsRow base e size v n xs) (hb:base'<=base):w.ownsRow base' e size v n xs:=by
 refine⟨h.1,?_⟩
 rcases h.2 with h1 | ⟨g,cap,cur,rfl,h2,h3⟩
 ·exact .inl h1
 exact .inr ⟨g,cap,cur,rfl,nT hb h2,h3⟩
theorem flatMap_one {α:Type} {enc:α->List Xq} (h:∀a,∀u∈enc a,u.oneCell'=Xc) (l:List α):∀u∈l.flatMap enc,u.oneCell'=Xc:=fun u hu=>by
 obtain⟨a,_,ha⟩:=List.mem_flatMap.1 hu;exact h a u ha
theorem maxLen_of {n:Nat} (h:n<=140737488355328):n<=maxLen:=by simp[maxLen];omega
theorem grew_alloc (w:Xn) (o:Obj):Grew w (w.alloc o):=(bR _ _).alloc (nR _) _
theorem grew_set {w W:Xn} (h:Grew w W) {a:Addr} (ha:w.heap.size<=a.block) (u:Xq):Grew w (W.setCell a u):=Below.setCell h ha u
theorem mixed:Tryz.prog.follows .mixedOrders=Xc:=by kernel_rfl
def fresh (base:Nat) (v:Xq):Prop:=∀x n c,v= O (Xa x) n c->base<=x.block
theorem fresh_nil (base:Nat):fresh base (O Xb 0 0):=fun x n c e=>by cases e
theorem add_block (x:Addr) (j:Nat):(x.add j).block=x.block:=by unfold Addr.add;split <;> rfl
theorem SliceAt.setCell {α:Type} {enc:α->List Xq} {base:Nat} {w:Xn} {v:Xq} {l:List α} (h:SliceAt enc w v l) (hf:fresh base v) {a:Addr} (ha:a.block<base) (u:Xq):SliceAt enc (w.setCell a u) v l:=by
 obtain⟨x,c,h1,h2,h3⟩:=h;refine⟨x,c,h1,h2,fun y hy j t hj=>?_⟩
 subst hy;have:=hf y _ _ h1;rw[World.cell?_of_block (w:=w) (Below.heap_setCell _ _ _ _ (by rw[add_block];omega))]
 exact h3 y rfl j t hj
theorem setRow_grown (w:Xn) (g:Nat) (cs:Array Xq):w.grownBy (w.setRow g cs) (Xa g):=by
 refine⟨rfl,rfl,rfl,by simp[World.setRow],fun k hk hne=>?_⟩
 have:g≠k:=fun e=>hne (by rw[e])
 unfold World.setRow
 simp[Array.getElem?_modify,this]
theorem run_storeCells_row {P:Program} {w:Xn} {base size n:Nat} {e:TypeId} {v:Xq} {xs:List Xq} (h:w.ownsRow base e size v n xs) {g:Nat} (hg:v.ownBlock=Xa g) (off:Nat) (cs:List Xq) (hfit:off+cs.length<=n*size) (h1:∀u∈cs,u.oneCell'=Xc):
  ∃w',(storeCells ⟨g,off,Xb⟩ cs 0).run P w= .ok () w'/\w'.ownsRow base e size v n (splice xs off cs)/\w.grownBy w' (Xa g)/\w'.heap.size=w.heap.size:=by
 obtain⟨hl,h2⟩:=h
 rcases h2 with⟨rfl,hn⟩ | ⟨g',cap,cur,rfl,hb,hh,hn,hm,hs,ht⟩
 ·simp[Value.ownBlock]at hg
 simp[Value.ownBlock]at hg
 subst hg;have hle:n*size<=cur.size:=by rw[hs];exact Yq _ hn
 refine⟨_,run_storeCells_at P g' off e cs 0 cur w hh (by omega) h1,⟨by rw[length_splice _ _ _ (by omega)];exact hl,.inr ⟨g',cap,_,rfl,hb,setRow_heap w g' cur _ e _ hh,hn,hm,?_,?_⟩⟩,setRow_grown _ _ _,by simp[World.setRow]⟩
 ·simp;omega
 subst ht
 apply Yf
 intro j;simp only[splice,Nat.add_zero];simp only[List.getElem?_take,List.getElem?_append,Uf,List.length_take,lA,Array.length_toList];have e1:min off cur.size=off:=by omega
 have e2:min off (min (n*size) cur.size)=off:=by omega
 simp only[e1,e2]
 split <;> split <;>(try split) <;>(try split) <;>(try split) <;> first | rfl | omega | (congr 1;omega) | skip
theorem wpList_store_row {P:Program} {w:Xn} {ops:Array Oper} {rest:List Oper} {o:Oper} {a:Act} {Q:Exit->Act->Xn->Prop} (hgd:o.guard=Xb) (p x:Operand) (t:TypeId) (ho:o.op= .store t p x) (k:Nat) (hk:(P.info? t).map (·.size)=Xa k)
  (base:Nat) (v:Xq) (n:Nat) (xs:List Xq) (hown:w.ownsRow base t k v n xs) (g i:Nat) (hg:v.ownBlock=Xa g) (hi:i<n) (cs:List Xq) (hcs:cs.length=k) (h1:∀u∈cs,u.oneCell'=Xc)
  (ad:Addr) (hp:a.eval p= Xj (Xa ad)) (had:ad=⟨g,i*k,Xb⟩) (hx:a.eval x= Xi cs.toArray)
  (h:∀w',w'.ownsRow base t k v n (splice xs (i*k) cs)->w.grownBy w' (Xa g)->w'.heap.size=w.heap.size->wpList P ops Q rest (a.put o.dst undef) w'):wpList P ops Q (o :: rest) a w:=by
 subst had;refine wpList_plain hgd fun K hK=>?_
 have hfit:i*k+cs.length<=n*k:=by
  rw[hcs,<-Oq];exact Yq _ hi
 obtain⟨w',hr,h2,h3,h4⟩:=run_storeCells_row (P:=P) hown hg (i*k) cs hfit h1;have hsz:(Go.sizeOf t).run P w= .ok k w:=by
  cases hq:P.info? t with
  | none=>simp[hq]at hk
  | some i=>simp[hq]at hk;simp[Go.sizeOf,typeInfo,hq,hk]
 have hall:(Instr.storeAt t (Xj (Xa ⟨g,i*k,Xb⟩)) (Xi cs.toArray)).run P w= .ok () w':=by
  simp[Instr.storeAt,Instr.sureAddr,storeVar,Xy,hsz,Result.andThen,Value.cells,hcs,hr]
 unfold Oper.wp;simp only[execOp,ho,hp,hx,Xy,hall,Result.andThen,Yh,Oper.upon];exact hK _ _ (h w' h2 h3 h4)
theorem splice_set {α:Type} {enc:α->List Xq} {k:Nat} (x:α) (hx:(enc x).length=k):∀(l:List α) (i:Nat),(∀a∈l,(enc a).length=k)->i<l.length->splice (l.flatMap enc) (i*k) (enc x)=(l.set i x).flatMap enc
 | [],i,_,hi=>by simp at hi
 | a :: l,0,h,_=>by
  simp only[splice,Xw,Oo,Ow,Ob,zA,sZ];rw[Yj (by rw[hx,h a (by simp)];exact nR _),Yw (by rw[hx,h a (by simp)];exact nR _),Ob]
 | a :: l,i+1,h,hi=>by
  have ha:=h a (by simp)
  have ih:=splice_set x hx l i (fun b hb=>h b (by simp[hb])) (by simpa using hi)
  simp only[splice,Xw,sS]at ih⊢;rw[<-ih,Oq,Yv (i*k) k,<-ha,Yo,Yn,Yp,Yb]
theorem grew_grown {w W W':Xn} {g:Nat} (h:Grew w W) (hg:W.grownBy W' (Xa g)) (hb:w.heap.size<=g):Grew w W':=
 Below.grown h hg (bS h) (fun k hk=>by cases hk;exact hb)
def Box (w:Xn) (b:Nat) (cs:List Xq):Prop:=∃t,w.heap[b]? =Xa (Xk cs.toArray t (0,0))
theorem Box.lt {w:Xn} {b:Nat} {cs:List Xq} (h:Box w b cs):b<w.heap.size:=by
 obtain⟨t,h⟩:=h;exact(aS.1 h).1
theorem Box.c {w:Xn} {b:Nat} {cs:List Xq} (h:Box w b cs) (i:Nat) {u:Xq} (hi:cs[i]? =Xa u):w.cell? ⟨b,i,Xb⟩=Xa u:=by
 obtain⟨t,h⟩:=h
 simp[World.cell?,h,hi]
theorem Box.f {w:Xn} {b:Nat} {cs:List Xq} (h:Box w b cs) (i:Nat):w.frozen? ⟨b,i,Xb⟩=Xd:=by
 obtain⟨t,h⟩:=h
 simp[World.frozen?,h]
theorem Box.below {w w':Xn} {b B:Nat} {cs:List Xq} (h:Box w b cs) (hg:Below B w w') (hb:b<B):Box w' b cs:=by
 obtain⟨t,h⟩:=h;exact⟨t,by rw[hg.block b hb];exact h⟩
theorem Box.grew {w w':Xn} {b:Nat} {cs:List Xq} (h:Box w b cs) (hg:Grew w w'):Box w' b cs:=h.below hg h.lt
theorem Box.top (w:Xn) (cs:List Xq) (t:TypeId) {b:Nat} (hb:b=w.heap.size):Box (w.alloc (Xk cs.toArray t)) b cs:=by
 subst hb;refine⟨t,?_⟩
 show(w.heap.push _)[w.heap.size]? =_
 simp
theorem Box.alloc {w:Xn} {b:Nat} {cs:List Xq} (h:Box w b cs) (o:Obj):Box (w.alloc o) b cs:=h.grew (grew_alloc _ _)
theorem Box.grown {w w':Xn} {b g:Nat} {cs:List Xq} (h:Box w b cs) (hg:w.grownBy w' (Xa g)) (hb:b≠g):Box w' b cs:=by
 have hlt:=h.lt;obtain⟨t,h⟩:=h;exact⟨t,by rw[hg.block b hlt (fun e=>hb (by cases e;rfl))];exact h⟩
theorem Box.other {w:Xn} {b:Nat} {cs:List Xq} (h:Box w b cs) {a:Addr} (ha:b≠a.block) (u:Xq):Box (w.setCell a u) b cs:=by
 obtain⟨t,h⟩:=h;exact⟨t,by rw[Below.heap_setCell _ _ _ _ ha];exact h⟩
theorem Box.set {w:Xn} {b:Nat} {cs:List Xq} (h:Box w b cs) (i:Nat) (u:Xq):Box (w.setCell ⟨b,i,Xb⟩ u) b (cs.set i u):=by
 have hlt:=h.lt;obtain⟨t,h⟩:=h;refine⟨t,?_⟩;obtain⟨_,h2⟩:=aS.1 h;unfold World.setCell;rw[Yd (by simpa using hlt)]
 simp[Ox,h2]
theorem ownsRow_same {w w':Xn} {base size n:Nat} {e:TypeId} {v:Xq} {xs:List Xq} (h:w.ownsRow base e size v n xs) (hs:∀k,base<=k->w'.heap[k]? =w.heap[k]?):w'.ownsRow base e size v n xs:=by
 refine⟨h.1,?_⟩
 rcases h.2 with h1 | ⟨g,cap,cur,rfl,h2,h3,h4⟩
 ·exact .inl h1
 exact .inr ⟨g,cap,cur,rfl,h2,by rw[hs g h2];exact h3,h4⟩
theorem alloc2_same (w:Xn) (A B C:Obj) (k:Nat) (hk:w.heap.size+1<=k):((w.alloc A).alloc C).heap[k]? =((w.alloc B).alloc C).heap[k]?:=by
 show((w.heap.push A).push C)[k]? =((w.heap.push B).push C)[k]?
 simp only[Array.getElem?_push,Array.size_push]
 split
 ·rfl
 rw[if_neg (by omega),if_neg (by omega)]
theorem World.grownBy.rfl' (w:Xn) (row:Option Nat):w.grownBy w row:=⟨rfl,rfl,rfl,nR _,fun _ _ _=>rfl⟩
theorem Cells.top (w:Xn) (cs:List Xq) (t:TypeId) {b:Nat} (hb:b=w.heap.size):Cells (w.alloc (Xk cs.toArray t)) ⟨b,0,Xb⟩ cs:=fun j u hj=>by
 rw[Addr.add_lit,zA];exact(Box.top w cs t hb).c j hj
theorem Box.beside {w w':Xn} {b:Nat} {cs:List Xq} {row:Option Nat} (h:Box w b cs) (hg:w.grownBy w' row) (hb:∀g,row=Xa g->b≠g):Box w' b cs:=by
 have hlt:=h.lt;obtain⟨t,h⟩:=h;exact⟨t,by rw[hg.block b hlt (fun e=>hb b e.symm rfl)];exact h⟩
theorem grew_beside {w W W':Xn} {row:Option Nat} (h:Grew w W) (hg:W.grownBy W' row) (hb:∀g,row=Xa g->w.heap.size<=g):Grew w W':=Below.grown h hg (bS h) hb
def BoxT (w:Xn) (b:Nat) (t:TypeId) (cs:List Xq):Prop:=w.heap[b]? =Xa (Xk cs.toArray t (0,0))
theorem BoxT.box {w:Xn} {b:Nat} {t:TypeId} {cs:List Xq} (h:BoxT w b t cs):Box w b cs:=⟨t,h⟩
theorem BoxT.top (w:Xn) (cs:List Xq) (t:TypeId) {b:Nat} (hb:b=w.heap.size):BoxT (w.alloc (Xk cs.toArray t)) b t cs:=by
 subst hb
 show(w.heap.push _)[w.heap.size]? =_
 simp
theorem Box.c3 {w:Xn} {b:Nat} {a0 a1 a2:Xq} {l:List Xq} (h:Box w b (a0::a1::a2::l)):w.cell? ⟨b,0,Xb⟩=Xa a0/\w.cell? ⟨b,1,Xb⟩=Xa a1/\w.cell? ⟨b,2,Xb⟩=Xa a2:=⟨h.c 0 rfl,h.c 1 rfl,h.c 2 rfl⟩
theorem Box.c7 {w:Xn} {b:Nat} {a0 a1 a2 a3 a4 a5 a6:Xq} {l:List Xq} (h:Box w b (a0::a1::a2::a3::a4::a5::a6::l)):w.cell? ⟨b,0,Xb⟩=Xa a0/\w.cell? ⟨b,1,Xb⟩=Xa a1/\w.cell? ⟨b,2,Xb⟩=Xa a2/\w.cell? ⟨b,3,Xb⟩=Xa a3/\w.cell? ⟨b,4,Xb⟩=Xa a4/\w.cell? ⟨b,5,Xb⟩=Xa a5/\w.cell? ⟨b,6,Xb⟩=Xa a6:=⟨h.c 0 rfl,h.c 1 rfl,h.c 2 rfl,h.c 3 rfl,h.c 4 rfl,h.c 5 rfl,h.c 6 rfl⟩
theorem Box.c8 {w:Xn} {b:Nat} {a0 a1 a2 a3 a4 a5 a6 a7:Xq} {l:List Xq} (h:Box w b (a0::a1::a2::a3::a4::a5::a6::a7::l)):w.cell? ⟨b,0,Xb⟩=Xa a0/\w.cell? ⟨b,1,Xb⟩=Xa a1/\w.cell? ⟨b,2,Xb⟩=Xa a2/\w.cell? ⟨b,3,Xb⟩=Xa a3/\w.cell? ⟨b,4,Xb⟩=Xa a4/\w.cell? ⟨b,5,Xb⟩=Xa a5/\w.cell? ⟨b,6,Xb⟩=Xa a6/\w.cell? ⟨b,7,Xb⟩=Xa a7:=⟨h.c 0 rfl,h.c 1 rfl,h.c 2 rfl,h.c 3 rfl,h.c 4 rfl,h.c 5 rfl,h.c 6 rfl,h.c 7 rfl⟩
theorem Box.c10 {w:Xn} {b:Nat} {a0 a1 a2 a3 a4 a5 a6 a7 a8 a9:Xq} {l:List Xq} (h:Box w b (a0::a1::a2::a3::a4::a5::a6::a7::a8::a9::l)):w.cell? ⟨b,0,Xb⟩=Xa a0/\w.cell? ⟨b,1,Xb⟩=Xa a1/\w.cell? ⟨b,2,Xb⟩=Xa a2/\w.cell? ⟨b,3,Xb⟩=Xa a3/\w.cell? ⟨b,4,Xb⟩=Xa a4/\w.cell? ⟨b,5,Xb⟩=Xa a5/\w.cell? ⟨b,6,Xb⟩=Xa a6/\w.cell? ⟨b,7,Xb⟩=Xa a7/\w.cell? ⟨b,8,Xb⟩=Xa a8/\w.cell? ⟨b,9,Xb⟩=Xa a9:=⟨h.c 0 rfl,h.c 1 rfl,h.c 2 rfl,h.c 3 rfl,h.c 4 rfl,h.c 5 rfl,h.c 6 rfl,h.c 7 rfl,h.c 8 rfl,h.c 9 rfl⟩
theorem Box.c11 {w:Xn} {b:Nat} {a0 a1 a2 a3 a4 a5 a6 a7 a8 a9 a10:Xq} {l:List Xq} (h:Box w b (a0::a1::a2::a3::a4::a5::a6::a7::a8::a9::a10::l)):w.cell? ⟨b,0,Xb⟩=Xa a0/\w.cell? ⟨b,1,Xb⟩=Xa a1/\w.cell? ⟨b,2,Xb⟩=Xa a2/\w.cell? ⟨b,3,Xb⟩=Xa a3/\w.cell? ⟨b,4,Xb⟩=Xa a4/\w.cell? ⟨b,5,Xb⟩=Xa a5/\w.cell? ⟨b,6,Xb⟩=Xa a6/\w.cell? ⟨b,7,Xb⟩=Xa a7/\w.cell? ⟨b,8,Xb⟩=Xa a8/\w.cell? ⟨b,9,Xb⟩=Xa a9/\w.cell? ⟨b,10,Xb⟩=Xa a10:=⟨h.c 0 rfl,h.c 1 rfl,h.c 2 rfl,h.c 3 rfl,h.c 4 rfl,h.c 5 rfl,h.c 6 rfl,h.c 7 rfl,h.c 8 rfl,h.c 9 rfl,h.c 10 rfl⟩
theorem Box.c12 {w:Xn} {b:Nat} {a0 a1 a2 a3 a4 a5 a6 a7 a8 a9 a10 a11:Xq} {l:List Xq} (h:Box w b (a0::a1::a2::a3::a4::a5::a6::a7::a8::a9::a10::a11::l)):w.cell? ⟨b,0,Xb⟩=Xa a0/\w.cell? ⟨b,1,Xb⟩=Xa a1/\w.cell? ⟨b,2,Xb⟩=Xa a2/\w.cell? ⟨b,3,Xb⟩=Xa a3/\w.cell? ⟨b,4,Xb⟩=Xa a4/\w.cell? ⟨b,5,Xb⟩=Xa a5/\w.cell? ⟨b,6,Xb⟩=Xa a6/\w.cell? ⟨b,7,Xb⟩=Xa a7/\w.cell? ⟨b,8,Xb⟩=Xa a8/\w.cell? ⟨b,9,Xb⟩=Xa a9/\w.cell? ⟨b,10,Xb⟩=Xa a10/\w.cell? ⟨b,11,Xb⟩=Xa a11:=⟨h.c 0 rfl,h.c 1 rfl,h.c 2 rfl,h.c 3 rfl,h.c 4 rfl,h.c 5 rfl,h.c 6 rfl,h.c 7 rfl,h.c 8 rfl,h.c 9 rfl,h.c 10 rfl,h.c 11 rfl⟩
theorem Box.h {I:Xn->Prop} {W:Xn} {b:Nat} {cs:List Xq} (h:Box W b cs) (hI:∀u,I u↔Grew W u) (i:Nat) {v:Xq} (hv:cs[i]?=Xa v):∀y:HoldI I,y.world.cell? ⟨b,i,Xb⟩=Xa v:=fun y=>(h.grew ((hI _).1 y.holds)).c i hv
theorem Box.gw {W:Xn} {b:Nat} {cs:List Xq} (h:Box W b cs) (i:Nat) {v:Xq} (hv:cs[i]?=Xa v):∀y:GrownW W,y.world.cell? ⟨b,i,Xb⟩=Xa v:=fun y=>(h.grew y.grew).c i hv
theorem gP {w W:Xn} {o:Obj} (h:w.alloc o=W):Grew w W:=by subst h;exact grew_alloc _ _
theorem gA {w W:Xn} {o:Obj} (h:w.alloc o=W):Go.RowKit.Hid (Grew w W):=show Grew _ _ from gP h
theorem gT {v w W:Xn} {o:Obj} (h:w.alloc o=W) (g:Go.RowKit.Hid (Grew v w)):Go.RowKit.Hid (Grew v W):=show Grew _ _ from g.out.trans (gP h)
theorem gD2 {w W:Xn} {o q:Obj} (h:(w.alloc o).alloc q=W):Go.RowKit.Hid (Grew w W):=show Grew _ _ from(gP rfl).trans (gP h)
theorem xP {w W:Xn} {l:List Xq} {t:TypeId} {p:Nat} (h:w.alloc (Xk l.toArray t)=W) (e:Go.RowKit.Hid (w.heap.size=p)):Go.RowKit.Hid (Box W p l):=show Box _ _ _ by subst h;exact Box.top w l t e.out.symm
theorem xA {w W:Xn} {l:List Xq} {t:TypeId} (h:w.alloc (Xk l.toArray t)=W):Go.RowKit.Hid (Box W w.heap.size l):=xP h rfl
theorem xPT {w W:Xn} {l:List Xq} {t:TypeId} {p:Nat} (h:w.alloc (Xk l.toArray t)=W) (e:Go.RowKit.Hid (w.heap.size=p)):Go.RowKit.Hid (BoxT W p t l):=show BoxT _ _ _ _ by subst h;exact BoxT.top w l t e.out.symm
theorem xT {w W:Xn} {l:List Xq} {t:TypeId} (h:w.alloc (Xk l.toArray t)=W):Go.RowKit.Hid (BoxT W w.heap.size t l):=xPT h rfl
theorem yA {w W:Xn} {o:Obj} {b:Nat} {l:List Xq} (h:w.alloc o=W) (y:Go.RowKit.Hid (Box w b l)):Go.RowKit.Hid (Box W b l):=show Box _ _ _ by subst h;exact y.out.alloc _
theorem x2a {w W:Xn} {l:List Xq} {t:TypeId} {o:Obj} (h:(w.alloc (Xk l.toArray t)).alloc o=W):Go.RowKit.Hid (Box W w.heap.size l):=yA h (xA rfl)
theorem x2b {w W:Xn} {l:List Xq} {t:TypeId} {o:Obj} (h:(w.alloc o).alloc (Xk l.toArray t)=W):Go.RowKit.Hid (Box W (w.heap.size+1) l):=show Box _ _ _ by subst h;exact Box.top _ l t (by simp)
theorem sA {w W:Xn} {o:Obj} (h:w.alloc o=W):Go.RowKit.Hid (W.heap.size=w.heap.size+1):=show _=_ by subst h;simp
theorem gW (w:Xn):Grew w w.drew:=show Go.RowKit.Below _ _ _ from(Go.RowKit.Below.refl _ _).drew
theorem BoxT.grew {w w':Xn} {b:Nat} {t:TypeId} {cs:List Xq} (h:BoxT w b t cs) (hg:Grew w w'):BoxT w' b t cs:=(hg.block b h.box.lt).trans h
theorem BoxT.beside {w w':Xn} {b:Nat} {t:TypeId} {cs:List Xq} {row:Option Nat} (h:BoxT w b t cs) (hg:w.grownBy w' row) (hb:∀g,row=Xa g->b≠g):BoxT w' b t cs:=by
 unfold BoxT;rw[hg.block b h.box.lt (fun e=>hb b e.symm rfl)]
 exact h
theorem BoxT.set {w:Xn} {b:Nat} {t:TypeId} {cs:List Xq} (h:BoxT w b t cs) (i:Nat) (u:Xq):BoxT (w.setCell ⟨b,i,Xb⟩ u) b t (cs.set i u):=by
 have hlt:=h.box.lt;obtain⟨_,h2⟩:=aS.1 h;unfold BoxT World.setCell;rw[Yd (by simpa using hlt)]
 simp[Ox,h2]
theorem ownsRow_setOther {w:Xn} {base size n:Nat} {e:TypeId} {v:Xq} {xs:List Xq} (h:w.ownsRow base e size v n xs) {a:Addr} (ha:∀g,v.ownBlock=Xa g->a.block≠g) (u:Xq):(w.setCell a u).ownsRow base e size v n xs:=by
 refine⟨h.1,?_⟩
 rcases h.2 with h1 | ⟨g,cap,cur,rfl,h2,h3,h4⟩
 ·exact .inl h1
 exact .inr ⟨g,cap,cur,rfl,h2,by rw[Below.heap_setCell _ _ _ _ (fun e=>ha g rfl e.symm)];exact h3,h4⟩
structure Elt (α:Type) where
 enc:α->List Xq
 k:Nat
 ty:TypeId
 st:TypeId
 bytes:Nat
 zv:Xq
 zero:α
 len:∀a,(enc a).length=k
 one:∀a,∀u∈enc a,u.oneCell'=Xc
 und:Tryz.prog.underlying st=Xa (.slice ty)
 info:(Tryz.prog.info? ty).map (fun i=>(i.zero,i.size,i.bytes))=Xa (Xa zv,k,bytes)
 zok:zv.cells=(enc zero).toArray
 few:k<=bytes
 pos:0<k
section
variable{α:Type} {E:Elt α}
def RowAt (E:Elt α) (w:Xn) (v:Xq) (l:List α):Prop:=SliceAt E.enc w v l/\l.length*E.bytes<=140737488355328
def OwnRow (E:Elt α) (base:Nat) (w:Xn) (v:Xq) (l:List α):Prop:=w.ownsRow base E.ty E.k v l.length (l.flatMap E.enc)/\l.length*E.bytes<=140737488355328
def RowsAt (E:Elt α) (w:Xn) (a:Option Addr) (l:List α):Prop:=∀(j:Nat) x,l[j]? =Xa x->∃ad,a=Xa ad/\∀W,Grew w W->Cells W (ad.add (j*E.k)) (E.enc x)
theorem zsize (E:Elt α):E.zv.cells.size=E.k:=by rw[E.zok];simp[E.len]
theorem row_len (E:Elt α) (l:List α):(l.flatMap E.enc).length=l.length*E.k:=flatMap_len l fun a _=>E.len a
theorem RowAt.grew {w w':Xn} {v:Xq} {l:List α} (h:RowAt E w v l) (hg:Grew w w'):RowAt E w' v l:=⟨h.1.grew hg,h.2⟩
theorem RowAt.rows {w:Xn} {v:Xq} {l:List α} (h:RowAt E w v l):∃a c,v= O a l.length c/\RowsAt E w a l:=by
 obtain⟨⟨a,c,h1,h2,h3⟩,_⟩:=h;refine⟨a,c,h1,fun j q hj=>?_⟩
 cases a with
 | none=>rw[h2 rfl]at hj;simp at hj
 | some x=>exact⟨x,rfl,fun W hW=>((h3 x rfl).grew hW).elem (k:=E.k) (fun b _=>E.len b) hj⟩
theorem RowAt.short {w:Xn} {v:Xq} {l:List α} (h:RowAt E w v l):l.length<=9223372036854775807:=by
 have h1:=h.2;have h2:l.length*1<=l.length*E.bytes:=Yc _ (nT E.pos E.few);omega
theorem RowAt.nil (E:Elt α) (w:Xn):RowAt E w (O Xb 0 0) ([]:List α):=⟨⟨Xb,0,rfl,fun _=>rfl,fun x hx=>by cases hx⟩,by simp⟩
theorem OwnRow.at {base:Nat} {w:Xn} {v:Xq} {l:List α} (h:OwnRow E base w v l):RowAt E w v l:=⟨sliceAt_of_owns h.1,h.2⟩
theorem OwnRow.grew {base:Nat} {w w':Xn} {v:Xq} {l:List α} (h:OwnRow E base w v l) (hg:Grew w w'):OwnRow E base w' v l:=⟨ownsRow_grew h.1 hg,h.2⟩
theorem OwnRow.base {base base':Nat} {w:Xn} {v:Xq} {l:List α} (h:OwnRow E base w v l) (hb:base'<=base):OwnRow E base' w v l:=⟨ownsRow_base h.1 hb,h.2⟩
theorem OwnRow.setCell {base:Nat} {w:Xn} {v:Xq} {l:List α} (h:OwnRow E base w v l) {a:Addr} (ha:a.block<base) (u:Xq):OwnRow E base (w.setCell a u) v l:=⟨ownsRow_setCell_below h.1 ha u,h.2⟩
theorem OwnRow.setOther {base:Nat} {w:Xn} {v:Xq} {l:List α} (h:OwnRow E base w v l) {a:Addr} (ha:∀g,v.ownBlock=Xa g->a.block≠g) (u:Xq):OwnRow E base (w.setCell a u) v l:=⟨ownsRow_setOther h.1 ha u,h.2⟩
theorem OwnRow.lt {base:Nat} {w:Xn} {v:Xq} {l:List α} (h:OwnRow E base w v l):∀g,v.ownBlock=Xa g->base<=g/\g<w.heap.size:=h.1.lt
theorem OwnRow.form {base:Nat} {w:Xn} {v:Xq} {l:List α} (h:OwnRow E base w v l):∃a c,v= O a l.length c:=by
 obtain⟨a,c,h1,_⟩:=h.at.rows;exact⟨a,c,h1⟩
theorem OwnRow.formS {base:Nat} {w:Xn} {v:Xq} {l:List α} (h:OwnRow E base w v l) (hl:0<l.length):∃g c,v= O (Xa ⟨g,0,Xb⟩) l.length c:=by
 rcases h.1.2 with⟨rfl,h0⟩ | ⟨g,cap,cur,h0,_⟩
 ·omega
 exact⟨g,cap,h0⟩
theorem OwnRow.fresh {base:Nat} {w:Xn} {v:Xq} {l:List α} (h:OwnRow E base w v l):fresh base v:=fun x n c e=>by
 rcases h.1.2 with⟨h0,_⟩ | ⟨g,cap,cur,h0,h1,_⟩
 ·rw[h0]at e;cases e
 rw[h0]at e;cases e;exact h1
theorem OwnRow.nil (E:Elt α) (base:Nat) (w:Xn):OwnRow E base w (O Xb 0 0) ([]:List α):=⟨World.ownsRow_nil _ _ _ _,by simp⟩
theorem OwnRow.made (E:Elt α) (w:Xn):OwnRow E w.heap.size (w.alloc (Xk #[] E.ty)) (O (Xa ⟨w.heap.size,0,Xb⟩) 0 0) ([]:List α):=⟨World.ownsRow_made w #[] 0 (nR _) (nZ _) (by simp),by simp⟩
theorem OwnRow.ne {base:Nat} {w:Xn} {v:Xq} {l:List α} (h:OwnRow E base w v l) {b:Nat} {t:TypeId} {cs:List Xq} (hb:BoxT w b t cs) (ht:t≠E.ty):∀g,v.ownBlock=Xa g->b≠g:=fun g hg e=>by
 subst e
 rcases h.1.2 with⟨rfl,_⟩ | ⟨g',cap,cur,rfl,_,h3,_⟩
 ·cases hg
 simp only[Value.ownBlock,Option.some.injEq]at hg;subst hg;rw[hb]at h3;cases h3;exact ht rfl
theorem OwnRow.grown {base:Nat} {w w':Xn} {row:Option Nat} {v:Xq} {l:List α} (h:OwnRow E base w v l) (hg:w.grownBy w' row) (hne:∀g,v.ownBlock=Xa g->row≠Xa g):OwnRow E base w' v l:=by
 refine⟨⟨h.1.1,?_⟩,h.2⟩
 rcases h.1.2 with h1 | ⟨g,cap,cur,rfl,h2,h3,h4⟩
 ·exact .inl h1
 exact .inr ⟨g,cap,cur,rfl,h2,by rw[hg.block g (aS.1 h3).1 (fun e=>hne g rfl e.symm)];exact h3,h4⟩
def NewRow (E:Elt α) (base:Nat) (w:Xn) (v:Xq) (l:List α):Prop:=RowAt E w v l/\fresh base v
theorem NewRow.base {base base':Nat} {w:Xn} {v:Xq} {l:List α} (h:NewRow E base w v l) (hb:base'<=base):NewRow E base' w v l:=⟨h.1,fun x n c e=>nT hb (h.2 x n c e)⟩
theorem NewRow.nil (E:Elt α) (base:Nat) (w:Xn):NewRow E base w (O Xb 0 0) ([]:List α):=⟨RowAt.nil E w,fresh_nil _⟩
theorem OwnRow.new {base:Nat} {w:Xn} {v:Xq} {l:List α} (h:OwnRow E base w v l):NewRow E base w v l:=⟨h.at,h.fresh⟩
theorem run_append_none {w:Xn} {base:Nat} {v:Xq} {l:List α} (ty:TypeId) (hown:OwnRow E base w v l) (c:Nat):(Builtin.append_ #[E.st,E.st] ty #[v,O Xb 0 c]).run Tryz.prog w= .ok v w:=by
 obtain⟨i0,hi,_,hz1,_⟩:=info_parts E.info
 rcases hown.1.2 with⟨rfl,_⟩ | ⟨g,cap,cur,rfl,_,_,hnc,_⟩
 ·simp[Builtin.append_,run_underlying E.und,sizeOf,typeInfo,hi,Builtin.lenOf,Builtin.firstCells]
 simp[Builtin.append_,run_underlying E.und,sizeOf,typeInfo,hi,Builtin.lenOf,Builtin.firstCells,hnc,storeCells]
theorem wpList_append_row {w:Xn} {ops:Array Oper} {rest:List Oper} {o:Oper} {a:Act} {Q:Exit->Act->Xn->Prop} (hgd:o.guard=Xb) (s x:Operand) (ho:o.op= .call { callee:= .builtin .append,args:=#[s,x],argTypes:=#[E.st,E.st] })
  (base:Nat) (vs:Xq) (l0:List α) (hs:a.eval s=vs) (hown:OwnRow E base w vs l0) (vx:Xq) (l:List α) (hx:a.eval x=vx) (hv:RowAt E w vx l) (hb:(l0.length+l.length)*E.bytes<=140737488355328) (hbase:base<=w.heap.size)
  (h:∀v' w',OwnRow E base w' v' (l0++l)->w.grownBy w' vs.ownBlock->wpList Tryz.prog ops Q rest (a.put o.dst v') w'):wpList Tryz.prog ops Q (o :: rest) a w:=by
 obtain⟨⟨ax,c,rfl,hnone,hcells⟩,_⟩:=hv
 cases ax with
 | none=>
  have hps:=hnone rfl;subst hps;refine wpList_plain hgd fun K hK=>?_
  have hrun:=run_append_none o.type hown c;unfold Oper.wp execOp;simp only[ho,resolve,invoke,builtin,Xy,Yh,rA,List.map_toArray,mP,List.map_nil,hs,hx,Oc,hrun];exact hK _ _ (h vs w (by rw[Od];exact hown) (World.grownBy.rfl' _ _))
 | some ad=>
  obtain⟨i0,hi,hz0,hz1,hz2⟩:=info_parts E.info;have h2:(l0.length+l.length)*1<=(l0.length+l.length)*E.bytes:=Yc _ (nT E.pos E.few);refine wpList_append_own w hgd s x E.st ho base E.ty i0 _ E.k E.bytes E.und hi hz0 hz1 hz2 (zsize E) E.pos vs l0.length _ hs hown.1 ad l.length c (l.flatMap E.enc) hx (row_len E l) (hcells ad rfl) (flatMap_one E.one l) (maxLen_of (by omega)) hb hbase fun v' w' h1 h2 _=>?_
  exact h v' w' ⟨by rw[lA,Ua];exact h1,by rw[lA];exact hb⟩ h2
theorem splice_part {x y:α} (j:Nat) (cs:List Xq) (hy:E.enc y=splice (E.enc x) j cs) (hj:j+cs.length<=E.k):∀(l:List α) (i:Nat),l[i]? =Xa x->splice (l.flatMap E.enc) (i*E.k+j) cs=(l.set i y).flatMap E.enc
 | [],i,hi=>by simp at hi
 | a :: l,0,hi=>by
  simp at hi
  subst hi;have ha:=E.len a;simp only[splice,Xw,Oo,zA,sZ]at hy⊢;rw[hy,Yy (by omega),Yj (by omega)]
  simp
 | a :: l,i+1,hi=>by
  have ha:=E.len a;have ih:=splice_part j cs hy hj l i (by simpa using hi)
  simp only[splice,Xw,sS]at ih⊢;rw[<-ih,Oq,Yv (i*E.k) E.k,Yn,<-ha,Yo,Yn,Yp,Yb]
theorem wpList_store_part {w:Xn} {ops:Array Oper} {rest:List Oper} {o:Oper} {a:Act} {Q:Exit->Act->Xn->Prop} (hgd:o.guard=Xb) (p x:Operand) (t:TypeId) (ho:o.op= .store t p x) (base:Nat) (v:Xq) (l:List α) (hown:OwnRow E base w v l)
  (g i j:Nat) (hg:v.ownBlock=Xa g) (e y:α) (hi:l[i]? =Xa e) (cs:List Xq) (hk:(Tryz.prog.info? t).map (·.size)=Xa cs.length) (hy:E.enc y=splice (E.enc e) j cs) (hj:j+cs.length<=E.k) (h1:∀u∈cs,u.oneCell'=Xc)
  (ad:Addr) (hp:a.eval p= Xj (Xa ad)) (had:ad=⟨g,i*E.k+j,Xb⟩) (vx:Xq) (hx:a.eval x=vx) (hvx:vx.cells=cs.toArray)
  (h:∀w',OwnRow E base w' v (l.set i y)->w.grownBy w' (Xa g)->w'.heap.size=w.heap.size->wpList Tryz.prog ops Q rest (a.put o.dst undef) w'):wpList Tryz.prog ops Q (o :: rest) a w:=by
 subst had;refine wpList_plain hgd fun K hK=>?_
 have hil:i<l.length:=(gS.1 hi).1;have hfit:i*E.k+j+cs.length<=l.length*E.k:=by
  have:(i+1)*E.k<=l.length*E.k:=Yq _ hil;rw[Og]at this;omega
 obtain⟨w',hr,h2,h3,h4⟩:=run_storeCells_row (P:=Tryz.prog) hown.1 hg (i*E.k+j) cs hfit h1;have hsz:(Go.sizeOf t).run Tryz.prog w= .ok cs.length w:=by
  cases hq:Tryz.prog.info? t with
  | none=>simp[hq]at hk
  | some i=>simp[hq]at hk;simp[Go.sizeOf,typeInfo,hq,hk]
 have hall:(Instr.storeAt t (Xj (Xa ⟨g,i*E.k+j,Xb⟩)) vx).run Tryz.prog w= .ok () w':=by
  simp[Instr.storeAt,Instr.sureAddr,storeVar,Xy,hsz,Result.andThen,hvx,hr]
 unfold Oper.wp;simp only[execOp,ho,hp,hx,Xy,hall,Result.andThen,Yh,Oper.upon];rw[splice_part j cs hy hj l i hi]at h2;exact hK _ _ (h w' ⟨by rw[Ye];exact h2,by rw[Ye];exact hown.2⟩ h3 h4)
theorem wpList_store_elt {w:Xn} {ops:Array Oper} {rest:List Oper} {o:Oper} {a:Act} {Q:Exit->Act->Xn->Prop} (hgd:o.guard=Xb) (p x:Operand) (ho:o.op= .store E.ty p x) (base:Nat) (v:Xq) (l:List α) (hown:OwnRow E base w v l)
  (g i:Nat) (hg:v.ownBlock=Xa g) (y:α) (hi:i<l.length) (ad:Addr) (hp:a.eval p= Xj (Xa ad)) (had:ad=⟨g,i*E.k,Xb⟩) (vx:Xq) (hx:a.eval x=vx) (hvx:vx.cells=(E.enc y).toArray)
  (h:∀w',OwnRow E base w' v (l.set i y)->w.grownBy w' (Xa g)->w'.heap.size=w.heap.size->wpList Tryz.prog ops Q rest (a.put o.dst undef) w'):wpList Tryz.prog ops Q (o :: rest) a w:=by
 obtain⟨i0,hi0,_,hz1,_⟩:=info_parts E.info;refine wpList_store_part hgd p x E.ty ho base v l hown g i 0 hg (l[i]) y (gE hi) (E.enc y) (by rw[hi0];simp[hz1,E.len]) ?_ (by rw[E.len];omega) (E.one y) ad hp (by rw[had];rfl) vx hx hvx h
 unfold splice;rw[Ow,Ob,zA,Yw (by rw[E.len,E.len];exact nR _),Od]
theorem made_row (E:Elt α) (n:Nat):(madeCells E.zv.cells (n*E.k)).toList=(Xr n E.zero).flatMap E.enc:=by
 have hl:((Xr n E.zero).flatMap E.enc).length=n*E.k:=by rw[row_len E];simp
 have hp:0<E.k:=E.pos
 apply Yf
 intro j
 rcases Yg j (n*E.k)with h | h
 ·have hj:j=j / E.k*E.k+j % E.k:=by rw[Ui];exact(Nat.div_add_mod _ _).symm
  have h8:j % E.k<E.k:=Nat.mod_lt _ hp;have hq:j / E.k<n:=(Ou hp).2 h;have hz:(E.enc E.zero)[j % E.k]? =Xa ((E.enc E.zero)[j % E.k]'(by rw[E.len];exact h8)):=gE _
  have h1:=flatMap_elem (enc:=E.enc) (k:=E.k) (Xr n E.zero) (j / E.k) E.zero (fun a _=>E.len a) (by simp[hq]) (j % E.k) _ hz
  rw[<-hj]at h1;rw[h1]
  simp[madeCells,h,E.zok,E.len,h8]
 rw[gN (by simp[madeCells];exact h),gN (by rw[hl];exact h)]
theorem wpList_make_row (E:Elt α) {w:Xn} {ops:Array Oper} {rest:List Oper} {o:Oper} {a:Act} {Q:Exit->Act->Xn->Prop} (hgd:o.guard=Xb) (l:Operand) (ho:o.op= .makeSlice E.st l l) (n:Nat) (hl:a.eval l= Xe Xf n) (hn:n*E.bytes<=140737488355328)
  (h:∀C,OwnRow E w.heap.size (w.alloc (Xk C E.ty)) (O (Xa ⟨w.heap.size,0,Xb⟩) n n) (Xr n E.zero)->wpList Tryz.prog ops Q rest (a.put o.dst (O (Xa ⟨w.heap.size,0,Xb⟩) n n)) (w.alloc (Xk C E.ty))):wpList Tryz.prog ops Q (o :: rest) a w:=by
 refine wpList_plain hgd fun K hK=>?_
 obtain⟨i0,hi,hz0,hz1,hz2⟩:=info_parts E.info;have h2:n*1<=n*E.bytes:=Yc _ (nT E.pos E.few);have hb:((E.bytes:Int)*(n:Int))<=140737488355328:=by
  obtain⟨B,hB⟩:∃B,n*E.bytes=B:=⟨_,rfl⟩;rw[hB]at hn;rw[<-Int.natCast_mul,Ui,hB];omega
 have hrun:=run_make (P:=Tryz.prog) w E.st E.ty i0 _ E.und hi hz0 .i64 .i64 n n (by omega) (Int.le_refl _) (by rw[hz2];exact Int.le_trans hb (by omega)) (by omega)
 rw[hz1,tN]at hrun;unfold Oper.wp;simp only[execOp,ho,hl,Xy,hrun,Result.andThen,Yh,Oper.upon];refine hK _ _ (h _ ⟨⟨?_,.inr ⟨w.heap.size,n,madeCells E.zv.cells (n*E.k),by rw[lR],nR _,?_,?_,?_,?_,?_⟩⟩,by rw[lR];exact hn⟩)
 ·rw[row_len E]
 ·show(w.heap.push _)[w.heap.size]? =_
  simp
 ·rw[lR];exact nR _
 ·exact maxLen_of (by omega)
 ·rw[size_madeCells]
 rw[lR,Ot (by simp[madeCells]),made_row E]
end
structure Out (B0 B1:Nat) (w w':Xn):Prop where
 os:w'.os=w.os
 tape:w'.tape=w.tape
 output:w'.output=w.output
 size:w.heap.size<=w'.heap.size
 block:∀k,k<w.heap.size->(k<B0\/B1<=k)->w'.heap[k]? =w.heap[k]?
theorem Out.refl (B0 B1:Nat) (w:Xn):Out B0 B1 w w:=⟨rfl,rfl,rfl,nR _,fun _ _ _=>rfl⟩
theorem Out.trans {B0 B1:Nat} {a b c:Xn} (h:Out B0 B1 a b) (k:Out B0 B1 b c):Out B0 B1 a c:=
 ⟨k.os.trans h.os,k.tape.trans h.tape,k.output.trans h.output,nT h.size k.size,fun i hi hb=>(k.block i (Ym hi h.size) hb).trans (h.block i hi hb)⟩
theorem Out.grew {B0 B1:Nat} {a b:Xn} (h:Grew a b):Out B0 B1 a b:=⟨Below.os h,Below.tape h,Below.output h,bS h,fun i hi _=>Below.block h i hi⟩
theorem Out.grown {B0 B1:Nat} {w w':Xn} {row:Option Nat} (hg:w.grownBy w' row) (h:∀g,row=Xa g->B0<=g/\g<B1):Out B0 B1 w w':=
 ⟨hg.os,hg.tape,hg.output,hg.size,fun k hk hb=>hg.block k hk (fun e=>by have:=h k e.symm;omega)⟩
theorem Out.wide {A0 A1 B0 B1:Nat} {a b:Xn} (h:Out A0 A1 a b) (h0:B0<=A0) (h1:A1<=B1):Out B0 B1 a b:=
 ⟨h.os,h.tape,h.output,h.size,fun i hi hb=>h.block i hi (by omega)⟩
theorem Out.drew {B0 B1:Nat} (w:Xn):Out B0 B1 w w.drew:=Out.grew (gW _)
theorem Out.grew_of {B0 B1:Nat} {w W w':Xn} (h:Grew w W) (hB:w.heap.size<=B0) (k:Out B0 B1 W w'):Grew w w':=
 (show Below _ _ _ from Below.trans h ⟨k.os,k.tape,k.output,k.size,fun i hi=>k.block i (Ym hi (bS h)) (.inl (Ym hi hB))⟩)
theorem Out.zero {w w':Xn} (h:Out 0 0 w w'):Grew w w':=⟨h.os,h.tape,h.output,h.size,fun k hk=>h.block k hk (.inr (nZ _))⟩
theorem Box.out {B0 B1:Nat} {w w':Xn} {b:Nat} {cs:List Xq} (h:Box w b cs) (k:Out B0 B1 w w') (hb:b<B0\/B1<=b):Box w' b cs:=by
 have hlt:=h.lt;obtain⟨t,h⟩:=h;exact⟨t,by rw[k.block b hlt hb];exact h⟩
section
variable{α:Type} {E:Elt α}
def RowS (E:Elt α) (B0 B1:Nat) (w:Xn) (v:Xq) (l:List α):Prop:=∀w',Out B0 B1 w w'->RowAt E w' v l
theorem RowS.now {B0 B1:Nat} {w:Xn} {v:Xq} {l:List α} (h:RowS E B0 B1 w v l):RowAt E w v l:=h w (Out.refl _ _ _)
theorem RowS.out {B0 B1:Nat} {w w':Xn} {v:Xq} {l:List α} (h:RowS E B0 B1 w v l) (k:Out B0 B1 w w'):RowS E B0 B1 w' v l:=fun w2 h2=>h w2 (k.trans h2)
theorem RowS.less {A0 A1 B0 B1:Nat} {w:Xn} {v:Xq} {l:List α} (h:RowS E B0 B1 w v l) (h0:B0<=A0) (h1:A1<=B1):RowS E A0 A1 w v l:=fun w2 h2=>h w2 (h2.wide h0 h1)
theorem RowAt.stays {B0:Nat} (B1:Nat) {w W:Xn} {v:Xq} {l:List α} (h:RowAt E w v l) (hB:w.heap.size<=B0) (hg:Grew w W):RowS E B0 B1 W v l:=fun _ k=>h.grew (k.grew_of hg hB)
theorem RowAt.s0 {w:Xn} {v:Xq} {l:List α} (h:RowAt E w v l):RowS E 0 0 w v l:=fun _ k=>h.grew k.zero
theorem NewRow.stays {base:Nat} {w:Xn} {v:Xq} {l:List α} (h:NewRow E base w v l):RowS E 0 base w v l:=fun w' k=>by
 obtain⟨⟨⟨a,c,h1,h2,h3⟩,h4⟩,h5⟩:=h;refine⟨⟨a,c,h1,h2,fun x hx j u hj=>?_⟩,h4⟩
 subst hx;have hc:=h3 x rfl j u hj;have hl:=World.block_lt_of_cell? _ _ hc;have hf:=h5 x _ _ h1;rw[World.cell?_of_block (w:=w) (k.block _ hl (.inr (by rw[add_block];exact hf)))]
 exact hc
theorem one_row (E:Elt α) (w:Xn) (x:α) (cs:Array Xq) (t:TypeId) (hcs:cs=(E.enc x).toArray) (hb:E.bytes<=140737488355328):RowAt E (w.alloc (Xk cs t)) (O (Xa ⟨w.heap.size,0,Xb⟩) 1 1) [x]:=by
 subst hcs;refine⟨⟨_,1,rfl,fun h=>(by cases h),fun y hy=>?_⟩,by simpa using hb⟩
 cases hy
 simpa using Cells.top w (E.enc x) t rfl
end
def Cap:Xq->Prop
 | O _ n c=>n<=c
 | _=>True
theorem OwnRow.cap {α:Type} {E:Elt α} {base:Nat} {w:Xn} {v:Xq} {l:List α} (h:OwnRow E base w v l):Cap v:=by
 rcases h.1.2 with⟨rfl,_⟩ | ⟨g,cap,cur,rfl,_,_,h4,_⟩
 ·exact nR _
 exact h4
structure OutD (D:Nat->Prop) (w w':Xn):Prop where
 os:w'.os=w.os
 tape:w'.tape=w.tape
 output:w'.output=w.output
 size:w.heap.size<=w'.heap.size
 block:∀k,k<w.heap.size->¬D k->w'.heap[k]? =w.heap[k]?
theorem OutD.refl (D:Nat->Prop) (w:Xn):OutD D w w:=⟨rfl,rfl,rfl,nR _,fun _ _ _=>rfl⟩
theorem OutD.trans {D:Nat->Prop} {a b c:Xn} (h:OutD D a b) (k:OutD D b c):OutD D a c:=
 ⟨k.os.trans h.os,k.tape.trans h.tape,k.output.trans h.output,nT h.size k.size,fun i hi hb=>(k.block i (Ym hi h.size) hb).trans (h.block i hi hb)⟩
theorem OutD.grew {D:Nat->Prop} {a b:Xn} (h:Grew a b):OutD D a b:=⟨Below.os h,Below.tape h,Below.output h,bS h,fun i hi _=>Below.block h i hi⟩
theorem OutD.wide {D D':Nat->Prop} {a b:Xn} (h:OutD D' a b) (hd:∀k,D' k->D k):OutD D a b:=⟨h.os,h.tape,h.output,h.size,fun i hi hb=>h.block i hi (fun e=>hb (hd i e))⟩
section
variable{α:Type} {E:Elt α}
def RowD (E:Elt α) (D:Nat->Prop) (w:Xn) (v:Xq) (l:List α):Prop:=∀w',OutD D w w'->RowAt E w' v l
theorem NewRow.staysD {base:Nat} {w:Xn} {v:Xq} {l:List α} (h:NewRow E base w v l) {D:Nat->Prop} (hd:∀k,D k->k<base):RowD E D w v l:=fun w' k=>by
 obtain⟨⟨⟨a,c,h1,h2,h3⟩,h4⟩,h5⟩:=h;refine⟨⟨a,c,h1,h2,fun x hx j u hj=>?_⟩,h4⟩
 subst hx;have hc:=h3 x rfl j u hj;have hl:=World.block_lt_of_cell? _ _ hc;have hf:=h5 x _ _ h1;rw[World.cell?_of_block (w:=w) (k.block _ hl (fun e=>by have:=hd _ e;rw[add_block]at this;omega))]
 exact hc
end
theorem OwnRow.obj {α:Type} {E:Elt α} {base:Nat} {w:Xn} {v:Xq} {l:List α} (h:OwnRow E base w v l) {g:Nat} (hg:v.ownBlock=Xa g):∃cs,w.heap[g]? =Xa (Xk cs E.ty (0,0)):=by
 rcases h.1.2 with⟨rfl,_⟩ | ⟨g',cap,cur,rfl,_,h3,_⟩
 ·cases hg
 simp only[Value.ownBlock,Option.some.injEq]at hg;subst hg;exact⟨cur,h3⟩
theorem OwnRow.apart {α β:Type} {E:Elt α} {F:Elt β} {base base':Nat} {w:Xn} {v u:Xq} {l:List α} {m:List β} (h:OwnRow E base w v l) (k:OwnRow F base' w u m) (ht:E.ty≠F.ty):∀g,v.ownBlock=Xa g->u.ownBlock≠Xa g:=fun g hg hu=>by
 obtain⟨cs,h1⟩:=h.obj hg;obtain⟨ds,h2⟩:=k.obj hu;rw[h1]at h2;simp only[Option.some.injEq,Obj.cells.injEq]at h2;exact ht h2.2.1
theorem OwnRow.one {α:Type} {E:Elt α} {base g n c:Nat} {w:Xn} {l:List α} (h:OwnRow E base w (O (Xa ⟨g,0,Xb⟩) n c) l) {i:Nat} {x:α} (hx:l[i]? =Xa x):Cells w ((Addr.mk g 0 Xb).add (i*E.k)) (E.enc x):=by
 obtain⟨a0,c0,hsl,hrows⟩:=h.at.rows;obtain⟨ad,had,hce⟩:=hrows i _ hx;cases hsl;cases had;exact hce w (Grew.refl _)
def bel (m n:Int):Bool:=decide (0<=m) && decide (m<n)
theorem bel_iff {m n:Int}:bel m n=Xc↔0<=m/\m<n:=by simp[bel]
theorem bel_no {m n:Int} (h:¬(0<=m/\m<n)):bel m n=Xd:=by
 cases hb:bel m n with
 | false=>rfl
 | true=>exact absurd (bel_iff.1 hb) h
theorem anyAt {α:Type} {p:α->Bool} {fs:List α} {k:Nat} {q:α} (h:fs[k]? =Xa q) (hq:p q=Xc):fs.any p=Xc:=Yr.2 ⟨q,mG h,hq⟩
theorem anyNo {α:Type} {p:α->Bool} {fs:List α} (hb:∀(j:Nat) x,fs[j]? =Xa x->p x=Xd):fs.any p=Xd:=Of.2 fun x hx=>by
 obtain⟨j,hj⟩:=Yz hx;rw[hb j x hj]
 decide
theorem drop_cons {α:Type} {l:List α} {k:Nat} {q:α} (h:l[k]? =Xa q):l.drop k=q :: l.drop (k+1):=by
 obtain⟨hlt,rfl⟩:=gS.1 h;exact List.drop_eq_getElem_cons hlt
theorem take_snoc {α:Type} {l:List α} {k:Nat} {q:α} (h:l[k]? =Xa q):l.take (k+1)=l.take k++ [q]:=by
 rw[List.take_add_one,h];rfl
theorem look1 {α:Type} {A:α} {p k:Nat} {s:α} (h:List.lookup k [(p,A)]=Xa s):k=p/\s=A:=by
 by_cases h1:k=p
 ·subst h1
  simp at h
  exact⟨rfl,h.symm⟩
 have e1:(k == p)=Xd:=by simpa using h1
 simp[List.lookup,e1]at h
theorem RowAt.beside {α:Type} {E:Elt α} {w w':Xn} {row:Option Nat} {v:Xq} {l:List α} (h:RowAt E w v l) (hg:w.grownBy w' row) (hn:∀x n c,v= O (Xa x) n c->Xa x.block≠row):RowAt E w' v l:=by
 obtain⟨⟨a,c,h1,h2,h3⟩,h4⟩:=h;refine⟨⟨a,c,h1,h2,fun x hx j u hj=>?_⟩,h4⟩
 subst hx;exact hg.cell (h3 x rfl j u hj) (by rw[add_block];exact hn x _ _ h1)
theorem set_same {α:Type} {l:List α} {i:Nat} {v:α} (h:l[i]? =Xa v):l.set i v=l:=by
 apply Yf
 intro j
 by_cases e:j=i
 ·subst e;rw[sF (gS.1 h).1,h]
 rw[sN (fun h=>e h.symm)]
theorem grown_trans {a b c:Xn} {row:Option Nat} (h:a.grownBy b row) (k:b.grownBy c row):a.grownBy c row:=
 ⟨k.os.trans h.os,k.tape.trans h.tape,k.output.trans h.output,nT h.size k.size,fun i hi hr=>(k.block i (Ym hi h.size) hr).trans (h.block i hi hr)⟩
theorem grew_by {a b:Xn} (h:Grew a b) (row:Option Nat):a.grownBy b row:=⟨Below.os h,Below.tape h,Below.output h,bS h,fun i hi _=>Below.block h i hi⟩
def pgv (p:Pg):List Xq:=[Xe Xg p.b0,Xe Xg p.b1,Xe Xg p.b2,Xe Xg p.b3,Xe Xg p.b4,Xe Xg p.b5,Xe Xg p.b6,Xe Xg p.b7]
def frv (a:Fr):List Xq:=[Xe Xg a.p.b0,Xe Xg a.p.b1,Xe Xg a.p.b2,Xe Xg a.p.b3,Xe Xg a.p.b4,Xe Xg a.p.b5,Xe Xg a.p.b6,Xe Xg a.p.b7,Xe Xf a.r,Xh a.u,Xh a.d,Xe Xf a.f,Xe Xf a.x]
theorem Tryz.infoFrame:(Tryz.prog.info? 93).map (fun i=>(i.zero,i.size,i.bytes))=Xa (Xa (Xi #[Xe Xg 0,Xe Xg 0,Xe Xg 0,Xe Xg 0,Xe Xg 0,Xe Xg 0,Xe Xg 0,Xe Xg 0,Xe Xf 0,Xh Xd,Xh Xd,Xe Xf 0,Xe Xf 0]),13,40):=by kernel_rfl
def frz:Xq:= Xi #[Xe Xg 0,Xe Xg 0,Xe Xg 0,Xe Xg 0,Xe Xg 0,Xe Xg 0,Xe Xg 0,Xe Xg 0,Xe Xf 0,Xh Xd,Xh Xd,Xe Xf 0,Xe Xf 0]
theorem frz_ok:frz.cells=(frv fr0).toArray:=rfl
theorem frv_len (a:Fr):(frv a).length=13:=rfl
theorem frv_one (a:Fr):∀u∈frv a,u.oneCell'=Xc:=fun u hu=>by
 simp only[frv,mC,nM,or_false]at hu
 rcases hu with rfl | rfl | rfl | rfl | rfl | rfl | rfl | rfl | rfl | rfl | rfl | rfl | rfl <;> rfl
theorem frv_few:13<=40:=by decide
theorem frv_pos:0<13:=by decide
theorem frEqB_eq {a b:Fr} (h:frEqB a b=Xc):a=b:=(frEqB_iff a b).1 h
theorem frEqB_ne {a b:Fr} (h:a≠b):frEqB a b=Xd:=by
 cases hb:frEqB a b with
 | false=>rfl
 | true=>exact absurd (frEqB_eq hb) h
def frRowAt (w:Xn) (v:Xq) (l:List Fr):Prop:=SliceAt frv w v l/\l.length*40<=140737488355328
def frOwnRow (base:Nat) (w:Xn) (v:Xq) (l:List Fr):Prop:=w.ownsRow base 93 13 v l.length (l.flatMap frv)/\l.length*40<=140737488355328
def frRowsAt (w:Xn) (a:Option Addr) (l:List Fr):Prop:=∀(j:Nat) x,l[j]? =Xa x->∃ad,a=Xa ad/\∀W,Grew w W->Cells W (ad.add (j*13)) (frv x)
theorem frZsize:frz.cells.size=13:=by rw[frz_ok];simp[frv_len]
theorem frRow_len (l:List Fr):(l.flatMap frv).length=l.length*13:=flatMap_len l fun a _=>frv_len a
theorem frRowAt.grew {w w':Xn} {v:Xq} {l:List Fr} (h:frRowAt w v l) (hg:Grew w w'):frRowAt w' v l:=⟨h.1.grew hg,h.2⟩
theorem frRowAt.rows {w:Xn} {v:Xq} {l:List Fr} (h:frRowAt w v l):∃a c,v= O a l.length c/\frRowsAt w a l:=by
 obtain⟨⟨a,c,h1,h2,h3⟩,_⟩:=h;refine⟨a,c,h1,fun j q hj=>?_⟩
 cases a with
 | none=>rw[h2 rfl]at hj;simp at hj
 | some x=>exact⟨x,rfl,fun W hW=>((h3 x rfl).grew hW).elem (k:=13) (fun b _=>frv_len b) hj⟩
theorem frRowAt.short {w:Xn} {v:Xq} {l:List Fr} (h:frRowAt w v l):l.length<=9223372036854775807:=by
 have h1:=h.2;have h2:l.length*1<=l.length*40:=Yc _ (nT frv_pos frv_few);omega
theorem frRowAt.setCell {base:Nat} {w:Xn} {v:Xq} {l:List Fr} (h:frRowAt w v l) (hf:fresh base v) {a:Addr} (ha:a.block<base) (u:Xq):frRowAt (w.setCell a u) v l:=⟨h.1.setCell hf ha u,h.2⟩
theorem frRowAt.nil (w:Xn):frRowAt w (O Xb 0 0) ([]:List Fr):=⟨⟨Xb,0,rfl,fun _=>rfl,fun x hx=>by cases hx⟩,by simp⟩
theorem frOwnRow.at {base:Nat} {w:Xn} {v:Xq} {l:List Fr} (h:frOwnRow base w v l):frRowAt w v l:=⟨sliceAt_of_owns h.1,h.2⟩
theorem frOwnRow.grew {base:Nat} {w w':Xn} {v:Xq} {l:List Fr} (h:frOwnRow base w v l) (hg:Grew w w'):frOwnRow base w' v l:=⟨ownsRow_grew h.1 hg,h.2⟩
theorem frOwnRow.base {base base':Nat} {w:Xn} {v:Xq} {l:List Fr} (h:frOwnRow base w v l) (hb:base'<=base):frOwnRow base' w v l:=⟨ownsRow_base h.1 hb,h.2⟩
theorem frOwnRow.setCell {base:Nat} {w:Xn} {v:Xq} {l:List Fr} (h:frOwnRow base w v l) {a:Addr} (ha:a.block<base) (u:Xq):frOwnRow base (w.setCell a u) v l:=⟨ownsRow_setCell_below h.1 ha u,h.2⟩
theorem frOwnRow.setOther {base:Nat} {w:Xn} {v:Xq} {l:List Fr} (h:frOwnRow base w v l) {a:Addr} (ha:∀g,v.ownBlock=Xa g->a.block≠g) (u:Xq):frOwnRow base (w.setCell a u) v l:=⟨ownsRow_setOther h.1 ha u,h.2⟩
theorem frOwnRow.lt {base:Nat} {w:Xn} {v:Xq} {l:List Fr} (h:frOwnRow base w v l):∀g,v.ownBlock=Xa g->base<=g/\g<w.heap.size:=h.1.lt
theorem frOwnRow.form {base:Nat} {w:Xn} {v:Xq} {l:List Fr} (h:frOwnRow base w v l):∃a c,v= O a l.length c:=by
 obtain⟨a,c,h1,_⟩:=h.at.rows;exact⟨a,c,h1⟩
theorem frOwnRow.formS {base:Nat} {w:Xn} {v:Xq} {l:List Fr} (h:frOwnRow base w v l) (hl:0<l.length):∃g c,v= O (Xa ⟨g,0,Xb⟩) l.length c:=by
 rcases h.1.2 with⟨rfl,h0⟩ | ⟨g,cap,cur,h0,_⟩
 ·omega
 exact⟨g,cap,h0⟩
theorem frOwnRow.fresh {base:Nat} {w:Xn} {v:Xq} {l:List Fr} (h:frOwnRow base w v l):fresh base v:=fun x n c e=>by
 rcases h.1.2 with⟨h0,_⟩ | ⟨g,cap,cur,h0,h1,_⟩
 ·rw[h0]at e;cases e
 rw[h0]at e;cases e;exact h1
theorem frOwnRow.nil (base:Nat) (w:Xn):frOwnRow base w (O Xb 0 0) ([]:List Fr):=⟨World.ownsRow_nil _ _ _ _,by simp⟩
theorem frOwnRow.made (w:Xn):frOwnRow w.heap.size (w.alloc (Xk #[] 93)) (O (Xa ⟨w.heap.size,0,Xb⟩) 0 0) ([]:List Fr):=⟨World.ownsRow_made w #[] 0 (nR _) (nZ _) (by simp),by simp⟩
theorem frOwnRow.ne {base:Nat} {w:Xn} {v:Xq} {l:List Fr} (h:frOwnRow base w v l) {b:Nat} {t:TypeId} {cs:List Xq} (hb:BoxT w b t cs) (ht:t≠93):∀g,v.ownBlock=Xa g->b≠g:=fun g hg e=>by
 subst e
 rcases h.1.2 with⟨rfl,_⟩ | ⟨g',cap,cur,rfl,_,h3,_⟩
 ·cases hg
 simp only[Value.ownBlock,Option.some.injEq]at hg;subst hg;rw[hb]at h3;cases h3;exact ht rfl
def frNewRow (base:Nat) (w:Xn) (v:Xq) (l:List Fr):Prop:=frRowAt w v l/\fresh base v
theorem frNewRow.base {base base':Nat} {w:Xn} {v:Xq} {l:List Fr} (h:frNewRow base w v l) (hb:base'<=base):frNewRow base' w v l:=⟨h.1,fun x n c e=>nT hb (h.2 x n c e)⟩
theorem frNewRow.setCell {base:Nat} {w:Xn} {v:Xq} {l:List Fr} (h:frNewRow base w v l) {a:Addr} (ha:a.block<base) (u:Xq):frNewRow base (w.setCell a u) v l:=⟨h.1.setCell h.2 ha u,h.2⟩
theorem frNewRow.nil (base:Nat) (w:Xn):frNewRow base w (O Xb 0 0) ([]:List Fr):=⟨frRowAt.nil w,fresh_nil _⟩
theorem frOwnRow.new {base:Nat} {w:Xn} {v:Xq} {l:List Fr} (h:frOwnRow base w v l):frNewRow base w v l:=⟨h.at,h.fresh⟩
theorem frRun_append_none {w:Xn} {base:Nat} {v:Xq} {l:List Fr} (ty:TypeId) (hown:frOwnRow base w v l) (c:Nat):(Builtin.append_ #[27,27] ty #[v,O Xb 0 c]).run Tryz.prog w= .ok v w:=by
 obtain⟨i0,hi,_,hz1,_⟩:=info_parts Tryz.infoFrame
 rcases hown.1.2 with⟨rfl,_⟩ | ⟨g,cap,cur,rfl,_,_,hnc,_⟩
 ·simp[Builtin.append_,run_underlying Tryz.underlying27,sizeOf,typeInfo,hi,Builtin.lenOf,Builtin.firstCells]
 simp[Builtin.append_,run_underlying Tryz.underlying27,sizeOf,typeInfo,hi,Builtin.lenOf,Builtin.firstCells,hnc,storeCells]
theorem frWpList_append_row {w:Xn} {ops:Array Oper} {rest:List Oper} {o:Oper} {a:Act} {Q:Exit->Act->Xn->Prop} (hgd:o.guard=Xb) (s x:Operand) (ho:o.op= .call { callee:= .builtin .append,args:=#[s,x],argTypes:=#[27,27] })
  (base:Nat) (vs:Xq) (l0:List Fr) (hs:a.eval s=vs) (hown:frOwnRow base w vs l0) (vx:Xq) (l:List Fr) (hx:a.eval x=vx) (hv:frRowAt w vx l) (hb:(l0.length+l.length)*40<=140737488355328) (hbase:base<=w.heap.size)
  (h:∀v' w',frOwnRow base w' v' (l0++l)->w.grownBy w' vs.ownBlock->wpList Tryz.prog ops Q rest (a.put o.dst v') w'):wpList Tryz.prog ops Q (o :: rest) a w:=by
 obtain⟨⟨ax,c,rfl,hnone,hcells⟩,_⟩:=hv
 cases ax with
 | none=>
  have hps:=hnone rfl;subst hps;refine wpList_plain hgd fun K hK=>?_
  have hrun:=frRun_append_none o.type hown c;unfold Oper.wp execOp;simp only[ho,resolve,invoke,builtin,Xy,Yh,rA,List.map_toArray,mP,List.map_nil,hs,hx,Oc,hrun];exact hK _ _ (h vs w (by rw[Od];exact hown) (World.grownBy.rfl' _ _))
 | some ad=>
  obtain⟨i0,hi,hz0,hz1,hz2⟩:=info_parts Tryz.infoFrame;have h2:(l0.length+l.length)*1<=(l0.length+l.length)*40:=Yc _ (nT frv_pos frv_few);refine wpList_append_own w hgd s x 27 ho base 93 i0 _ 13 40 Tryz.underlying27 hi hz0 hz1 hz2 frZsize frv_pos vs l0.length _ hs hown.1 ad l.length c (l.flatMap frv) hx (frRow_len l) (hcells ad rfl) (flatMap_one frv_one l) (maxLen_of (by omega)) hb hbase fun v' w' h1 h2 _=>?_
  exact h v' w' ⟨by rw[lA,Ua];exact h1,by rw[lA];exact hb⟩ h2
theorem frSplice_part {x y:Fr} (j:Nat) (cs:List Xq) (hy:frv y=splice (frv x) j cs) (hj:j+cs.length<=13):∀(l:List Fr) (i:Nat),l[i]? =Xa x->splice (l.flatMap frv) (i*13+j) cs=(l.set i y).flatMap frv
 | [],i,hi=>by simp at hi
 | a :: l,0,hi=>by
  simp at hi
  subst hi;have ha:=frv_len a;simp only[splice,Xw,Oo,zA,sZ]at hy⊢;rw[hy,Yy (by omega),Yj (by omega)]
  simp
 | a :: l,i+1,hi=>by
  have ha:=frv_len a;have ih:=frSplice_part j cs hy hj l i (by simpa using hi)
  simp only[splice,Xw,sS]at ih⊢;rw[<-ih,Oq,Yv (i*13) 13,Yn,<-ha,Yo,Yn,Yp,Yb]
theorem frWpList_store_part {w:Xn} {ops:Array Oper} {rest:List Oper} {o:Oper} {a:Act} {Q:Exit->Act->Xn->Prop} (hgd:o.guard=Xb) (p x:Operand) (t:TypeId) (ho:o.op= .store t p x) (base:Nat) (v:Xq) (l:List Fr) (hown:frOwnRow base w v l)
  (g i j:Nat) (hg:v.ownBlock=Xa g) (e y:Fr) (hi:l[i]? =Xa e) (cs:List Xq) (hk:(Tryz.prog.info? t).map (·.size)=Xa cs.length) (hy:frv y=splice (frv e) j cs) (hj:j+cs.length<=13) (h1:∀u∈cs,u.oneCell'=Xc)
  (ad:Addr) (hp:a.eval p= Xj (Xa ad)) (had:ad=⟨g,i*13+j,Xb⟩) (vx:Xq) (hx:a.eval x=vx) (hvx:vx.cells=cs.toArray)
  (h:∀w',frOwnRow base w' v (l.set i y)->w.grownBy w' (Xa g)->w'.heap.size=w.heap.size->wpList Tryz.prog ops Q rest (a.put o.dst undef) w'):wpList Tryz.prog ops Q (o :: rest) a w:=by
 subst had;refine wpList_plain hgd fun K hK=>?_
 have hil:i<l.length:=(gS.1 hi).1;have hfit:i*13+j+cs.length<=l.length*13:=by
  have:(i+1)*13<=l.length*13:=Yq _ hil;rw[Og]at this;omega
 obtain⟨w',hr,h2,h3,h4⟩:=run_storeCells_row (P:=Tryz.prog) hown.1 hg (i*13+j) cs hfit h1;have hsz:(Go.sizeOf t).run Tryz.prog w= .ok cs.length w:=by
  cases hq:Tryz.prog.info? t with
  | none=>simp[hq]at hk
  | some i=>simp[hq]at hk;simp[Go.sizeOf,typeInfo,hq,hk]
 have hall:(Instr.storeAt t (Xj (Xa ⟨g,i*13+j,Xb⟩)) vx).run Tryz.prog w= .ok () w':=by
  simp[Instr.storeAt,Instr.sureAddr,storeVar,Xy,hsz,Result.andThen,hvx,hr]
 unfold Oper.wp;simp only[execOp,ho,hp,hx,Xy,hall,Result.andThen,Yh,Oper.upon];rw[frSplice_part j cs hy hj l i hi]at h2;exact hK _ _ (h w' ⟨by rw[Ye];exact h2,by rw[Ye];exact hown.2⟩ h3 h4)
theorem frWpList_store_elt {w:Xn} {ops:Array Oper} {rest:List Oper} {o:Oper} {a:Act} {Q:Exit->Act->Xn->Prop} (hgd:o.guard=Xb) (p x:Operand) (ho:o.op= .store 93 p x) (base:Nat) (v:Xq) (l:List Fr) (hown:frOwnRow base w v l)
  (g i:Nat) (hg:v.ownBlock=Xa g) (y:Fr) (hi:i<l.length) (ad:Addr) (hp:a.eval p= Xj (Xa ad)) (had:ad=⟨g,i*13,Xb⟩) (vx:Xq) (hx:a.eval x=vx) (hvx:vx.cells=(frv y).toArray)
  (h:∀w',frOwnRow base w' v (l.set i y)->w.grownBy w' (Xa g)->w'.heap.size=w.heap.size->wpList Tryz.prog ops Q rest (a.put o.dst undef) w'):wpList Tryz.prog ops Q (o :: rest) a w:=by
 obtain⟨i0,hi0,_,hz1,_⟩:=info_parts Tryz.infoFrame;refine frWpList_store_part hgd p x 93 ho base v l hown g i 0 hg (l[i]) y (gE hi) (frv y) (by rw[hi0];simp[hz1,frv_len]) ?_ (by rw[frv_len];omega) (frv_one y) ad hp (by rw[had];rfl) vx hx hvx h
 unfold splice;rw[Ow,Ob,zA,Yw (by rw[frv_len,frv_len];exact nR _),Od]
theorem frMade_row (n:Nat):(madeCells frz.cells (n*13)).toList=(Xr n fr0).flatMap frv:=by
 have hl:((Xr n fr0).flatMap frv).length=n*13:=by rw[frRow_len];simp
 have hp:0<13:=frv_pos
 apply Yf
 intro j
 rcases Yg j (n*13)with h | h
 ·have hj:j=j / 13*13+j % 13:=by rw[Ui];exact(Nat.div_add_mod _ _).symm
  have h8:j % 13<13:=Nat.mod_lt _ hp;have hq:j / 13<n:=(Ou hp).2 h;have hz:(frv fr0)[j % 13]? =Xa ((frv fr0)[j % 13]'(by rw[frv_len];exact h8)):=gE _
  have h1:=flatMap_elem (enc:=frv) (k:=13) (Xr n fr0) (j / 13) fr0 (fun a _=>frv_len a) (by simp[hq]) (j % 13) _ hz
  rw[<-hj]at h1;rw[h1]
  simp[madeCells,h,frz_ok,frv_len]
  rw[hz];rfl
 rw[gN (by simp[madeCells];exact h),gN (by rw[hl];exact h)]
theorem frWpList_make_row {w:Xn} {ops:Array Oper} {rest:List Oper} {o:Oper} {a:Act} {Q:Exit->Act->Xn->Prop} (hgd:o.guard=Xb) (l:Operand) (ho:o.op= .makeSlice 27 l l) (n:Nat) (hl:a.eval l= Xe Xf n) (hn:n*40<=140737488355328)
  (h:∀C,frOwnRow w.heap.size (w.alloc (Xk C 93)) (O (Xa ⟨w.heap.size,0,Xb⟩) n n) (Xr n fr0)->wpList Tryz.prog ops Q rest (a.put o.dst (O (Xa ⟨w.heap.size,0,Xb⟩) n n)) (w.alloc (Xk C 93))):wpList Tryz.prog ops Q (o :: rest) a w:=by
 refine wpList_plain hgd fun K hK=>?_
 obtain⟨i0,hi,hz0,hz1,hz2⟩:=info_parts Tryz.infoFrame;have h2:n*1<=n*40:=Yc _ (nT frv_pos frv_few);have hb:((40:Nat):Int)*(n:Int)<=140737488355328:=by omega
 have hrun:=run_make (P:=Tryz.prog) w 27 93 i0 _ Tryz.underlying27 hi hz0 .i64 .i64 n n (by omega) (Int.le_refl _) (by rw[hz2];exact Int.le_trans hb (by omega)) (by omega)
 rw[hz1,tN]at hrun;unfold Oper.wp;simp only[execOp,ho,hl,Xy,hrun,Result.andThen,Yh,Oper.upon];refine hK _ _ (h _ ⟨⟨?_,.inr ⟨w.heap.size,n,madeCells frz.cells (n*13),by rw[lR],nR _,?_,?_,?_,?_,?_⟩⟩,by rw[lR];exact hn⟩)
 ·rw[frRow_len]
 ·show(w.heap.push _)[w.heap.size]? =_
  simp;rfl
 ·rw[lR];exact nR _
 ·exact maxLen_of (by omega)
 ·rw[size_madeCells]
 rw[lR,Ot (by simp[madeCells]),frMade_row]
theorem run_eqItems_ints {P:Program} (w:Xn) (E:TypeId) (k:IntKind) (d:Nat) (xs ys:Array Xq) (i:TypeInfo) (hE:P.underlying E=Xa (.int k)) (hi:P.info? E=Xa i) (hs:i.size=1):
  ∀(a b:List Int) (o:Nat),a.length=b.length->(∀j v,a[j]? =Xa v->xs[o+j]? =Xa (.int k v))->(∀j v,b[j]? =Xa v->ys[o+j]? =Xa (.int k v))->
   (Op.eqItems (d+1) E 1 xs ys (List.range' o a.length)).run P w= .ok (decide (a=b)) w
 | [],[],_,_,_,_=>by simp[Op.eqItems]
 | [],_ :: _,_,h,_,_=>by simp at h
 | _ :: _,[],_,h,_,_=>by simp at h
 | x :: a,y :: b,o,h,hx,hy=>by
  have h1:=hx 0 x rfl;have h2:=hy 0 y rfl;have hp:∀(zs:Array Xq) v,zs[o+0]? =Xa (.int k v)->(part E zs (o*1)).run P w= .ok (.int k v) w:=fun zs v hz=>by
   rw[Nat.mul_one];exact run_part_plain w (by simp[Program.plainKey,hE]) hz
  have ih:=run_eqItems_ints w E k d xs ys i hE hi hs a b (o+1) (by simpa using h) (fun j v hj=>by rw[Yn,Yv 1 j];exact hx (j+1) v (by simpa using hj)) (fun j v hj=>by rw[Yn,Yv 1 j];exact hy (j+1) v (by simpa using hj))
  simp only[Yx,List.range'_succ,Op.eqItems,Xy,hp xs x h1,hp ys y h2,rA,run_equalIn_int w d E k k x y hE]
  by_cases hxy:x=y
  ·subst hxy
   simp[ih]
  have:(x == y)=Xd:=by simpa using hxy
  simp[this,hxy]
theorem run_equal_ints {P:Program} (w:Xn) (T E:TypeId) (k:IntKind) (d n:Nat) (a b:List Int) (i:TypeInfo) (hT:P.underlying T=Xa (.array n E)) (hE:P.underlying E=Xa (.int k)) (hi:P.info? E=Xa i) (hs:i.size=1)
  (ha:a.length=n) (hb:b.length=n):
  (Op.equalIn (d+2) T (Xi (a.map (Value.int k)).toArray) (Xi (b.map (Value.int k)).toArray)).run P w= .ok (decide (a=b)) w:=by
 have hc:P.cellsOf E=1:=by simp[Program.cellsOf,hi,hs]
 rw[run_equalIn_array w (d+1) _ _ hT hi,hc,Ov,<-ha];exact run_eqItems_ints w E k d _ _ i hE hi hs a b 0 (by omega) (fun j v hj=>by simp[hj]) (fun j v hj=>by simp[hj])
def FrCells (W:Xn) (y:Addr) (a:Fr):Prop:=
 W.cell? y=Xa (Xe Xg a.p.b0)/\W.cell? { block:=y.block,off:=y.off+1 }=Xa (Xe Xg a.p.b1)/\W.cell? { block:=y.block,off:=y.off+2 }=Xa (Xe Xg a.p.b2)/\W.cell? { block:=y.block,off:=y.off+3 }=Xa (Xe Xg a.p.b3)/\
 W.cell? { block:=y.block,off:=y.off+4 }=Xa (Xe Xg a.p.b4)/\W.cell? { block:=y.block,off:=y.off+5 }=Xa (Xe Xg a.p.b5)/\W.cell? { block:=y.block,off:=y.off+6 }=Xa (Xe Xg a.p.b6)/\W.cell? { block:=y.block,off:=y.off+7 }=Xa (Xe Xg a.p.b7)/\
 W.cell? { block:=y.block,off:=y.off+8 }=Xa (Xe Xf a.r)/\W.cell? { block:=y.block,off:=y.off+9 }=Xa (Xh a.u)/\W.cell? { block:=y.block,off:=y.off+10 }=Xa (Xh a.d)/\W.cell? { block:=y.block,off:=y.off+11 }=Xa (Xe Xf a.f)/\W.cell? { block:=y.block,off:=y.off+12 }=Xa (Xe Xf a.x)
theorem Cells.fr {W:Xn} {y:Addr} {a:Fr} (h:Cells W y (frv a)):FrCells W y a:=
 ⟨h 0 _ rfl,h 1 _ rfl,h 2 _ rfl,h 3 _ rfl,h 4 _ rfl,h 5 _ rfl,h 6 _ rfl,h 7 _ rfl,h 8 _ rfl,h 9 _ rfl,h 10 _ rfl,h 11 _ rfl,h 12 _ rfl⟩
def FrRows (w:Xn) (a:Option Addr) (l:List Fr):Prop:=∀(j:Nat) x,l[j]? =Xa x->∃ad,a=Xa ad/\∀W,Grew w W->FrCells W (ad.add (j*13)) x
theorem frRowAt.frs {w:Xn} {v:Xq} {l:List Fr} (h:frRowAt w v l):∃a c,v= O a l.length c/\FrRows w a l:=by
 obtain⟨a,c,h1,h2⟩:=h.rows;refine⟨a,c,h1,fun j x hj=>?_⟩
 obtain⟨ad,h3,h4⟩:=h2 j x hj;exact⟨ad,h3,fun W hW=>(h4 W hW).fr⟩
theorem Tryz.infoU8:(Tryz.prog.info? 5).map (fun i=>(i.zero,i.size,i.bytes))=Xa (Xa (Xe Xg 0),1,1):=by kernel_rfl
theorem page_eq_at (k:Nat) (b0 b1 b2 b3 b4 b5 b6 b7 c0 c1 c2 c3 c4 c5 c6 c7:Int) (x:Xn):(Op.equalIn (k+2) 91 (Xi #[Xe Xg b0,Xe Xg b1,Xe Xg b2,Xe Xg b3,Xe Xg b4,Xe Xg b5,Xe Xg b6,Xe Xg b7]) (Xi #[Xe Xg c0,Xe Xg c1,Xe Xg c2,Xe Xg c3,Xe Xg c4,Xe Xg c5,Xe Xg c6,Xe Xg c7])).run Tryz.prog x= .ok (pgEqB ⟨b0,b1,b2,b3,b4,b5,b6,b7⟩ ⟨c0,c1,c2,c3,c4,c5,c6,c7⟩) x:=by
 obtain⟨i5,hi5,_,hz1,_⟩:=info_parts Tryz.infoU8;have:=run_equal_ints (P:=Tryz.prog) x 91 5 .u8 k 8 [b0,b1,b2,b3,b4,b5,b6,b7] [c0,c1,c2,c3,c4,c5,c6,c7] i5 Tryz.underlying91 Tryz.underlying5 hi5 hz1 rfl rfl;rw[show pgEqB ⟨b0,b1,b2,b3,b4,b5,b6,b7⟩ ⟨c0,c1,c2,c3,c4,c5,c6,c7⟩=decide ([b0,b1,b2,b3,b4,b5,b6,b7]=[c0,c1,c2,c3,c4,c5,c6,c7])from by
  rw[Bool.eq_iff_iff,pgEqB_iff,decide_eq_true_iff];simp only[Pg.mk.injEq,List.cons.injEq,and_true]]
 exact this
theorem fr_eq (b0 b1 b2 b3 b4 b5 b6 b7 r:Int) (u d:Bool) (f x:Int) (c0 c1 c2 c3 c4 c5 c6 c7 r':Int) (u' d':Bool) (f' x':Int) (W:Xn):
  (Op.equalIn 10000 93 (Xi #[Xe Xg b0,Xe Xg b1,Xe Xg b2,Xe Xg b3,Xe Xg b4,Xe Xg b5,Xe Xg b6,Xe Xg b7,Xe Xf r,Xh u,Xh d,Xe Xf f,Xe Xf x]) (Xi #[Xe Xg c0,Xe Xg c1,Xe Xg c2,Xe Xg c3,Xe Xg c4,Xe Xg c5,Xe Xg c6,Xe Xg c7,Xe Xf r',Xh u',Xh d',Xe Xf f',Xe Xf x'])).run Tryz.prog W
   = .ok (frEqB ⟨⟨b0,b1,b2,b3,b4,b5,b6,b7⟩,r,u,d,f,x⟩ ⟨⟨c0,c1,c2,c3,c4,c5,c6,c7⟩,r',u',d',f',x'⟩) W:=by
 have hS:Tryz.prog.underlying 93=Xa (.struct (Tryz.prog.fieldsOf 93)):=by kernel_rfl
 have hp:Tryz.prog.stoodInHeld 93=Xd:=by kernel_rfl
 have hpg:=page_eq_at 9997 b0 b1 b2 b3 b4 b5 b6 b7 c0 c1 c2 c3 c4 c5 c6 c7;have u3:=Tryz.underlying3;have a3:=Tryz.isAgg3;have z3:=Tryz.sizeOf3;have u4:=Tryz.underlying4;have a4:=Tryz.isAgg4;have z4:=Tryz.sizeOf4;have a23:=Tryz.isAgg91;have z23:=Tryz.sizeOf91;rw[show frEqB ⟨⟨b0,b1,b2,b3,b4,b5,b6,b7⟩,r,u,d,f,x⟩ ⟨⟨c0,c1,c2,c3,c4,c5,c6,c7⟩,r',u',d',f',x'⟩=(pgEqB ⟨b0,b1,b2,b3,b4,b5,b6,b7⟩ ⟨c0,c1,c2,c3,c4,c5,c6,c7⟩ &&(r == r') &&(u == u') &&(d == d') &&(f == f') &&(x == x'))from rfl]
 generalize pgEqB ⟨b0,b1,b2,b3,b4,b5,b6,b7⟩ ⟨c0,c1,c2,c3,c4,c5,c6,c7⟩=P at hpg⊢
 rw[show(10000:Nat)=9999+1 from rfl,run_equalIn_agg W 9999 93 _ _ hS hp]
 simp only[Program.fieldsOf,Tryz.underlying93]
 go_simp
 cases P
 ·simp
 by_cases h1:r=r' <;> by_cases h2:u=u' <;> by_cases h3:d=d' <;> by_cases h4:f=f' <;> by_cases h5:x=x' <;> simp[h1,h2,h3,h4,h5]
theorem Does.step {P:Program} {o:Oper} {a:Act} {w w':Xn} {v:Xq} {K:Xq->Xn->Prop} (hr:(execOp a.eval o).run P w= .ok (.value v) w') (h:K v w'):Does P o a w K:=by
 unfold Does;rw[hr];exact h
def pgc (p:List Int):List Xq:=p.map (Value.int .u8)
def ptc (q:Int × List Int):List Xq:= Xe Xf q.1 :: pgc q.2
theorem pgc_len (p:List Int):(pgc p).length=p.length:=by simp[pgc]
theorem ptc_len (q:Int × List Int):(ptc q).length=q.2.length+1:=by simp[ptc,pgc]
theorem pgc_one (p:List Int):∀u∈pgc p,u.oneCell'=Xc:=fun u hu=>by
 obtain⟨x,_,rfl⟩:=List.mem_map.1 hu;rfl
theorem ptc_one (q:Int × List Int):∀u∈ptc q,u.oneCell'=Xc:=fun u hu=>by
 rcases mC.1 hu with rfl | h
 ·rfl
 exact pgc_one _ u h
def PagesAt (w:Xn) (v:Xq) (ps:List (List Int)):Prop:=SliceAt pgc w v ps/\(∀p∈ps,p.length=8)/\ps.length*8<=140737488355328
def PutsAt (w:Xn) (v:Xq) (qs:List (Int × List Int)):Prop:=SliceAt ptc w v qs/\(∀q∈qs,q.2.length=8)/\qs.length*16<=140737488355328
theorem PagesAt.grew {w w':Xn} {v:Xq} {ps:List (List Int)} (h:PagesAt w v ps) (hg:Grew w w'):PagesAt w' v ps:=⟨h.1.grew hg,h.2⟩
theorem PutsAt.grew {w w':Xn} {v:Xq} {qs:List (Int × List Int)} (h:PutsAt w v qs) (hg:Grew w w'):PutsAt w' v qs:=⟨h.1.grew hg,h.2⟩
def OwnPages (base:Nat) (w:Xn) (v:Xq) (ps:List (List Int)):Prop:=w.ownsRow base 91 8 v ps.length (ps.flatMap pgc)/\(∀p∈ps,p.length=8)/\ps.length*8<=140737488355328
def OwnPuts (base:Nat) (w:Xn) (v:Xq) (qs:List (Int × List Int)):Prop:=w.ownsRow base 117 9 v qs.length (qs.flatMap ptc)/\(∀q∈qs,q.2.length=8)/\qs.length*16<=140737488355328
theorem OwnPages.at {base:Nat} {w:Xn} {v:Xq} {ps:List (List Int)} (h:OwnPages base w v ps):PagesAt w v ps:=⟨sliceAt_of_owns h.1,h.2⟩
theorem OwnPuts.at {base:Nat} {w:Xn} {v:Xq} {qs:List (Int × List Int)} (h:OwnPuts base w v qs):PutsAt w v qs:=⟨sliceAt_of_owns h.1,h.2⟩
def DiskAt (w:Xn) (d:Xq) (ps:List (List Int)) (qs:List (Int × List Int)):Prop:=∃b q,d= Xi #[b,q]/\PagesAt w b ps/\PutsAt w q qs
theorem DiskAt.grew {w w':Xn} {d:Xq} {ps:List (List Int)} {qs:List (Int × List Int)} (h:DiskAt w d ps qs) (hg:Grew w w'):DiskAt w' d ps qs:=by
 obtain⟨b,q,h1,h2,h3⟩:=h;exact⟨b,q,h1,h2.grew hg,h3.grew hg⟩
theorem len8 (l:List Int) (h:l.length=8):∃c0 c1 c2 c3 c4 c5 c6 c7,l=[c0,c1,c2,c3,c4,c5,c6,c7]:=by
 match l,h with
 | [c0,c1,c2,c3,c4,c5,c6,c7],_=>exact⟨c0,c1,c2,c3,c4,c5,c6,c7,rfl⟩
def PutCells (W:Xn) (y:Addr) (m b0 b1 b2 b3 b4 b5 b6 b7:Int):Prop:=
 W.cell? y=Xa (Xe Xf m)/\W.cell? { block:=y.block,off:=y.off+1 }=Xa (Xe Xg b0)/\W.cell? { block:=y.block,off:=y.off+2 }=Xa (Xe Xg b1)/\W.cell? { block:=y.block,off:=y.off+3 }=Xa (Xe Xg b2)/\
 W.cell? { block:=y.block,off:=y.off+4 }=Xa (Xe Xg b3)/\W.cell? { block:=y.block,off:=y.off+5 }=Xa (Xe Xg b4)/\W.cell? { block:=y.block,off:=y.off+6 }=Xa (Xe Xg b5)/\W.cell? { block:=y.block,off:=y.off+7 }=Xa (Xe Xg b6)/\W.cell? { block:=y.block,off:=y.off+8 }=Xa (Xe Xg b7)
def PageCells (W:Xn) (y:Addr) (b0 b1 b2 b3 b4 b5 b6 b7:Int):Prop:=
 W.cell? y=Xa (Xe Xg b0)/\W.cell? { block:=y.block,off:=y.off+1 }=Xa (Xe Xg b1)/\W.cell? { block:=y.block,off:=y.off+2 }=Xa (Xe Xg b2)/\W.cell? { block:=y.block,off:=y.off+3 }=Xa (Xe Xg b3)/\
 W.cell? { block:=y.block,off:=y.off+4 }=Xa (Xe Xg b4)/\W.cell? { block:=y.block,off:=y.off+5 }=Xa (Xe Xg b5)/\W.cell? { block:=y.block,off:=y.off+6 }=Xa (Xe Xg b6)/\W.cell? { block:=y.block,off:=y.off+7 }=Xa (Xe Xg b7)
theorem Cells.put {W:Xn} {y:Addr} {m b0 b1 b2 b3 b4 b5 b6 b7:Int} (h:Cells W y (ptc (m,[b0,b1,b2,b3,b4,b5,b6,b7]))):PutCells W y m b0 b1 b2 b3 b4 b5 b6 b7:=
 ⟨h 0 _ rfl,h 1 _ rfl,h 2 _ rfl,h 3 _ rfl,h 4 _ rfl,h 5 _ rfl,h 6 _ rfl,h 7 _ rfl,h 8 _ rfl⟩
theorem Cells.page {W:Xn} {y:Addr} {b0 b1 b2 b3 b4 b5 b6 b7:Int} (h:Cells W y (pgc [b0,b1,b2,b3,b4,b5,b6,b7])):PageCells W y b0 b1 b2 b3 b4 b5 b6 b7:=
 ⟨h 0 _ rfl,h 1 _ rfl,h 2 _ rfl,h 3 _ rfl,h 4 _ rfl,h 5 _ rfl,h 6 _ rfl,h 7 _ rfl⟩
def PutRows (w:Xn) (a:Option Addr) (qs:List (Int × List Int)):Prop:=
 ∀(j:Nat) q,qs[j]? =Xa q->∃x m b0 b1 b2 b3 b4 b5 b6 b7,a=Xa x/\q=(m,[b0,b1,b2,b3,b4,b5,b6,b7])/\∀W,Grew w W->PutCells W (x.add (j*9)) m b0 b1 b2 b3 b4 b5 b6 b7
def PageRows (w:Xn) (a:Option Addr) (ps:List (List Int)):Prop:=
 ∀(j:Nat) p,ps[j]? =Xa p->∃x b0 b1 b2 b3 b4 b5 b6 b7,a=Xa x/\p=[b0,b1,b2,b3,b4,b5,b6,b7]/\∀W,Grew w W->PageCells W (x.add (j*8)) b0 b1 b2 b3 b4 b5 b6 b7
theorem PutsAt.rows {w:Xn} {v:Xq} {qs:List (Int × List Int)} (h:PutsAt w v qs):∃a c,v= O a qs.length c/\PutRows w a qs:=by
 obtain⟨⟨a,c,h1,h2,h3⟩,h4,_⟩:=h;refine⟨a,c,h1,fun j q hj=>?_⟩
 have hm:q∈qs:=mG hj;obtain⟨m,l⟩:=q;obtain⟨b0,b1,b2,b3,b4,b5,b6,b7,rfl⟩:=len8 l (h4 _ hm)
 cases a with
 | none=>rw[h2 rfl]at hm;cases hm
 | some x=>exact⟨x,m,b0,b1,b2,b3,b4,b5,b6,b7,rfl,rfl,fun W hW=>(((h3 x rfl).grew hW).elem (k:=9) (fun b hb=>by rw[ptc_len,h4 b hb]) hj).put⟩
theorem PagesAt.rows {w:Xn} {v:Xq} {ps:List (List Int)} (h:PagesAt w v ps):∃a c,v= O a ps.length c/\PageRows w a ps:=by
 obtain⟨⟨a,c,h1,h2,h3⟩,h4,_⟩:=h;refine⟨a,c,h1,fun j q hj=>?_⟩
 have hm:q∈ps:=mG hj;obtain⟨b0,b1,b2,b3,b4,b5,b6,b7,rfl⟩:=len8 q (h4 _ hm)
 cases a with
 | none=>rw[h2 rfl]at hm;cases hm
 | some x=>exact⟨x,b0,b1,b2,b3,b4,b5,b6,b7,rfl,rfl,fun W hW=>(((h3 x rfl).grew hW).elem (k:=8) (fun b hb=>by rw[pgc_len,h4 b hb]) hj).page⟩
theorem hasBlock_any (a:Option Addr) (n c:Nat) (q:Xq) (m:Int) (w:Xn):
  Xp Tryz.prog 114 #[Xi #[O a n c,q],Xe Xf m] w fun e w'=>e= Xl (Xh (dkInB m n))/\Grew w w':=by
 have H:Xo (dkInB m n=(decide (0<=m) && decide (m<n))):=rfl
 by_cases h0:0<=m
 ·by_cases h1:m<n
  ·go_enter Tryz.func114,Tryz.ntmps114
   go_wp2;go_ret;exact⟨by rw[H.out];simp[*],(bR _ _).alloc (nR _) _⟩
  go_enter Tryz.func114,Tryz.ntmps114
  go_wp2;go_ret;exact⟨by rw[H.out];simp[*],(bR _ _).alloc (nR _) _⟩
 go_enter Tryz.func114,Tryz.ntmps114
 go_wp2;go_ret;exact⟨by rw[H.out];simp;omega,(bR _ _).alloc (nR _) _⟩
theorem wrong1_any (a:Option Addr) (n c:Nat) (qv:Xq) (B:Nat) (q:Int × List Int) (hq:q.2.length=8) (w:Xn) (hc0:w.cell? ⟨B,0,Xb⟩=Xa (O a n c)) (hc1:w.cell? ⟨B,1,Xb⟩=Xa qv):
  Xp Tryz.prog 113 #[Xi (ptc q).toArray,Xj (Xa ⟨B,0,Xb⟩)] w fun e w'=>e= Xl (Xh (!dkInB q.1 n))/\Grew w w':=by
 obtain⟨m,l⟩:=q;obtain⟨b0,b1,b2,b3,b4,b5,b6,b7,rfl⟩:=len8 l hq;have hB:=World.block_lt_of_cell? _ _ hc0;have hne:B≠w.heap.size:=by simp at hB;omega
 show Xp Tryz.prog 113 #[Xi #[Xe Xf m,Xe Xg b0,Xe Xg b1,Xe Xg b2,Xe Xg b3,Xe Xg b4,Xe Xg b5,Xe Xg b6,Xe Xg b7],Xj (Xa ⟨B,0,Xb⟩)] w _
 go_enter Tryz.func113,Tryz.ntmps113
 go_wp2_with (go_at_call 114;refine(hasBlock_any _ _ _ _ _ _).mono ?_;rintro e w' ⟨rfl,hg⟩)
 go_ret;exact⟨rfl,Grew.trans ((bR _ _).alloc (nR _) _) hg⟩
def IdxP (p:Int × List Int->Bool) (qs:List (Int × List Int)) (r:Int):Prop:=
 (r=-1/\∀(j:Nat) q,qs[j]? =Xa q->p q=Xd)\/∃(k:Nat) (q:Int × List Int),r=(k:Int)/\qs[k]? =Xa q/\p q=Xc/\∀(j:Nat) q',j<k->qs[j]? =Xa q'->p q'=Xd
def PredOk (g:Nat) (lb:Array Xq) (p:Int × List Int->Bool) (w:Xn):Prop:=
 ∀W q,Grew w W->q.2.length=8->Xp Tryz.prog g (#[Xi (ptc q).toArray]++lb) W fun e W'=>e= Xl (Xh (p q))/\Grew W W'
theorem indexFunc_any (p:Int × List Int->Bool) (g:Nat) (lb:Array Xq) (eg:∀args w,(callFunc g args).run Tryz.prog w= .ok (.enter g args) w) (v:Xq) (qs:List (Int × List Int)) (w:Xn) (hv:PutsAt w v qs) (hp:PredOk g lb p w):
  Xp Tryz.prog 164 #[v,.func (.func g) #[] lb] w fun e w'=>∃r:Int,e= Xl (Xe Xf r)/\Grew w w'/\IdxP p qs r:=by
 obtain⟨a,c,rfl,hrow⟩:=hv.rows;have hbig:qs.length<=9223372036854775807:=by have:=hv.2.2;omega
 have HR:Xo (PutRows w a qs):=hrow;have HP:Xo (PredOk g lb p w):=hp;clear hrow hp hv;obtain⟨n,hn⟩:∃n,qs.length=n:=⟨_,rfl⟩;have HN:Xo (qs.length=n):=hn;rw[hn]at hbig⊢;clear hn
 go_enter Tryz.func164,Tryz.ntmps164
 go_wp2
 go_loopg [5,8] n (fun gg _ s8 wr=>∃kk:Nat,kk<=n/\n - kk<=gg/\s8= Xe Xf kk/\Xo (Grew w wr)/\Xo (∀j q,j<kk->qs[j]? =Xa q->p q=Xd))
 case atStart=>exact⟨0,nZ _,by omega,rfl,Grew.refl w,fun j q hj=>absurd hj (nL _)⟩
 obtain⟨kk,hkk,hg,rfl,BW,A⟩:=hrel
 by_cases hlt:kk<n
 ·have hltz:(kk:Int)< (n:Int):=by omega
  have hkq:kk<qs.length:=by rw[HN.out];exact hlt
  obtain⟨q,HQ⟩:∃q,Xo (qs[kk]? =Xa q):=⟨_,gE hkq⟩;obtain⟨x,m,b0,b1,b2,b3,b4,b5,b6,b7,rfl,rfl,hl⟩:=HR.out kk q HQ.out;obtain⟨d0,d1,d2,d3,d4,d5,d6,d7,d8⟩:=hl wr BW.out;have hcall:=HP.out wr (m,[b0,b1,b2,b3,b4,b5,b6,b7]) BW.out rfl;clear hl hkq
  cases hq:p (m,[b0,b1,b2,b3,b4,b5,b6,b7])with
  | true=>
   rw[hq]at hcall
   go_wp2_with (go_at_fn g;refine hcall.mono ?_;rintro e w' ⟨rfl,hb'⟩)
   go_ret;exact⟨_,rfl,BW.out.trans hb', .inr ⟨kk,_,rfl,HQ.out,hq,A.out⟩⟩
  | false=>
   rw[hq]at hcall
   go_wp2_with (go_at_fn g;refine hcall.mono ?_;rintro e w' ⟨rfl,hb'⟩)
   go_roundg (n -(kk+1))
   case measure=>omega
   refine⟨kk+1,by omega,by omega,by go_num,BW.out.trans hb',(show Xo _ from fun j q' hj hq'=>?_)⟩
   by_cases e:j=kk
   ·subst e;rw[HQ.out]at hq';cases hq';exact hq
   exact A.out j q' (by omega) hq'
 have hltz:¬(kk:Int)< (n:Int):=by omega
 have:kk=n:=by omega
 subst this;go_wp2;go_ret;refine⟨_,rfl,BW.out,.inl ⟨rfl,fun j q hj=>A.out j q ?_ hj⟩⟩
 have:=(gS.1 hj).1;rw[HN.out]at this;exact this
theorem containsFunc_any (p:Int × List Int->Bool) (g:Nat) (lb:Array Xq) (eg:∀args w,(callFunc g args).run Tryz.prog w= .ok (.enter g args) w) (v:Xq) (qs:List (Int × List Int)) (w:Xn) (hv:PutsAt w v qs) (hp:PredOk g lb p w):
  Xp Tryz.prog 112 #[v,.func (.func g) #[] lb] w fun e w'=>e= Xl (Xh (qs.any p))/\Grew w w':=by
 have hcon:=indexFunc_any p g lb eg v qs w hv hp;clear hv hp eg
 go_enter Tryz.func112,Tryz.ntmps112
 go_wp2_with (go_at_call 164;refine hcon.mono ?_;rintro e w' ⟨r,rfl,hg,hr⟩)
 go_ret;have hb:qs.any p=decide (0<=r):=by
  rcases hr with⟨rfl,h⟩ | ⟨k,q,rfl,h1,h2,_⟩
  ·rw[show decide ((0:Int)<=-1)=Xd from rfl,Of]
   intro q hq;obtain⟨j,hj⟩:=Yz hq;rw[h j q hj];simp
  rw[show decide ((0:Int)<=(k:Int))=Xc from by simp,Yr]
  exact⟨q,mG h1,h2⟩
 rw[hb];exact⟨rfl,hg⟩
theorem pred_wrong1 (a:Option Addr) (n c:Nat) (qv:Xq) (B:Nat) (w:Xn) (hc0:w.cell? ⟨B,0,Xb⟩=Xa (O a n c)) (hc1:w.cell? ⟨B,1,Xb⟩=Xa qv):
  PredOk 113 #[Xj (Xa ⟨B,0,Xb⟩)] (fun q=>!dkInB q.1 n) w:=fun W q hW h8=>by
 have hB:B<w.heap.size:=World.block_lt_of_cell? _ _ hc0;exact wrong1_any a n c qv B q h8 W ((Below.cell hW (p:=⟨B,0,Xb⟩) hB).trans hc0) ((Below.cell hW (p:=⟨B,1,Xb⟩) hB).trans hc1)
theorem wrong_any (a:Option Addr) (n c:Nat) (qv:Xq) (qs:List (Int × List Int)) (w:Xn) (hq:PutsAt w qv qs):
  Xp Tryz.prog 60 #[Xi #[O a n c,qv]] w fun e w'=>e= Xl (Xe Xf (wrongL n qs))/\Grew w w':=by
 have HL:Xo (wrongL n qs=if 80<n then 4 else if 400<qs.length then 4 else if qs.any (fun q=>!dkInB q.1 n)then 3 else 0):=rfl
 obtain⟨a2,c2,rfl,_⟩:=hq.rows;have hcon:=containsFunc_any (fun q=>!dkInB q.1 n) 113 #[Xj (Xa ⟨w.heap.size,0,Xb⟩)] (enters_of Tryz.func113 (by kernel_rfl) rfl) (O a2 qs.length c2) qs (w.alloc (Xk #[O a n c,O a2 qs.length c2] 35)) (hq.grew (grew_alloc _ _)) (pred_wrong1 a n c (O a2 qs.length c2) _ _ (by simp) (by simp))
 clear hq;obtain⟨nq,HN⟩:∃nq,Xo (qs.length=nq):=⟨_,rfl⟩;rw[HN.out]at hcon HL⊢;obtain⟨b,HB⟩:∃b,Xo ((qs.any fun q=>!dkInB q.1 n)=b):=⟨_,rfl⟩
 rw[HB.out]at hcon HL
 by_cases h1:80<n
 ·have h1':(80:Int)< (n:Int):=by omega
  rw[if_pos h1]at HL;clear hcon
  go_enter Tryz.func60,Tryz.ntmps60
  go_wp2;go_ret;exact⟨by rw[HL.out];rfl,grew_alloc _ _⟩
 have h1':¬(80:Int)< (n:Int):=by omega
 rw[if_neg h1]at HL
 by_cases h2:400<nq
 ·have h2':(400:Int)< (nq:Int):=by omega
  rw[if_pos h2]at HL;clear hcon
  go_enter Tryz.func60,Tryz.ntmps60
  go_wp2;go_ret;exact⟨by rw[HL.out];rfl,grew_alloc _ _⟩
 have h2':¬(400:Int)< (nq:Int):=by omega
 rw[if_neg h2]at HL
 cases b with
 | true=>
  go_enter Tryz.func60,Tryz.ntmps60
  go_wp2_with (go_at_call 112;refine hcon.mono ?_;rintro e w' ⟨rfl,hg⟩)
  go_ret;exact⟨by rw[HL.out];rfl,(grew_alloc _ _).trans hg⟩
 | false=>
  go_enter Tryz.func60,Tryz.ntmps60
  go_wp2_with (go_at_call 112;refine hcon.mono ?_;rintro e w' ⟨rfl,hg⟩)
  go_ret;exact⟨by rw[HL.out];rfl,(grew_alloc _ _).trans hg⟩
theorem wrongAt_any (a:Option Addr) (n c:Nat) (qv:Xq) (qs:List (Int × List Int)) (m:Int) (w:Xn) (hq:PutsAt w qv qs):
  Xp Tryz.prog 210 #[Xi #[O a n c,qv],Xe Xf m] w fun e w'=>e= Xl (Xe Xf (wrongAtL n qs m))/\Grew w w':=by
 have HL:Xo (wrongAtL n qs m=if wrongL n qs=0 then(if dkInB m n then 0 else 3)else wrongL n qs):=rfl;have hcon:=wrong_any a n c qv qs (w.alloc (Xk #[O a n c,qv] 35)) (hq.grew (grew_alloc _ _));clear hq;obtain⟨r,HR⟩:∃r,Xo (wrongL n qs=r):=⟨_,rfl⟩;rw[HR.out]at hcon HL
 by_cases hr:r=0
 ·subst hr;rw[if_pos rfl]at HL
  cases hb:dkInB m n with
  | true=>
   rw[hb]at HL
   go_enter Tryz.func210,Tryz.ntmps210
   go_wp2_with (first
    | (go_at_call 60;refine hcon.mono ?_;rintro e w' ⟨rfl,hg⟩;have e0:w'.cell? ⟨w.heap.size,0,Xb⟩=Xa (O a n c):=(Below.cell hg (by simp)).trans (by simp);have e1:w'.cell? ⟨w.heap.size,1,Xb⟩=Xa qv:=(Below.cell hg (by simp)).trans (by simp))
    | (go_at_call 114;refine(hasBlock_any _ _ _ _ _ _).mono ?_;rintro e w'' ⟨rfl,hg2⟩;rw[hb]))
   go_ret;exact⟨by rw[HL.out];rfl,((grew_alloc _ _).trans hg).trans hg2⟩
  | false=>
   rw[hb]at HL
   go_enter Tryz.func210,Tryz.ntmps210
   go_wp2_with (first
    | (go_at_call 60;refine hcon.mono ?_;rintro e w' ⟨rfl,hg⟩;have e0:w'.cell? ⟨w.heap.size,0,Xb⟩=Xa (O a n c):=(Below.cell hg (by simp)).trans (by simp);have e1:w'.cell? ⟨w.heap.size,1,Xb⟩=Xa qv:=(Below.cell hg (by simp)).trans (by simp))
    | (go_at_call 114;refine(hasBlock_any _ _ _ _ _ _).mono ?_;rintro e w'' ⟨rfl,hg2⟩;rw[hb]))
   go_ret;exact⟨by rw[HL.out];rfl,((grew_alloc _ _).trans hg).trans hg2⟩
 have hne:(r != 0)=Xc:=by simpa using hr
 rw[if_neg hr]at HL
 go_enter Tryz.func210,Tryz.ntmps210
 go_wp2_with (go_at_call 60;refine hcon.mono ?_;rintro e w' ⟨rfl,hg⟩)
 go_ret;exact⟨by rw[HL.out];rfl,(grew_alloc _ _).trans hg⟩
theorem Tryz.infoPage:(Tryz.prog.info? 91).map (fun i=>(i.zero,i.size,i.bytes))=Xa (Xa (Xi #[Xe Xg 0,Xe Xg 0,Xe Xg 0,Xe Xg 0,Xe Xg 0,Xe Xg 0,Xe Xg 0,Xe Xg 0]),8,8):=by kernel_rfl
theorem Tryz.infoPut:(Tryz.prog.info? 117).map (fun i=>(i.zero,i.size,i.bytes))=Xa (Xa (Xi #[Xe Xf 0,Xe Xg 0,Xe Xg 0,Xe Xg 0,Xe Xg 0,Xe Xg 0,Xe Xg 0,Xe Xg 0,Xe Xg 0]),9,16):=by kernel_rfl
theorem clonePages_any (v:Xq) (ps:List (List Int)) (w:Xn) (hv:PagesAt w v ps):
  Xp Tryz.prog 99 #[v] w fun e w'=>∃v',e= Xl v'/\OwnPages w.heap.size w' v' ps/\Grew w w':=by
 obtain⟨⟨a,c,rfl,hnone,hcells⟩,h8,hbytes⟩:=hv;have q22:∀(w:Xn) (a:Option Addr) (n c n' c':Nat),(binOp .eql 32 (O a n c) (O Xb n' c')).run Tryz.prog w= .ok (Xh a.isNone) w:=fun w a n c n' c'=>Lib.run_eql_slice_nil w _ _ a n c n' c' Tryz.underlying32
 cases a with
 | none=>
  have hps:=hnone rfl;subst hps;clear hcells hnone h8 hbytes
  go_enter Tryz.func99,Tryz.ntmps99
  go_wp2;go_ret;exact⟨_,rfl,⟨World.ownsRow_nil _ _ _ _,by simp,by simp⟩,Grew.refl w⟩
 | some x=>
  have A:=hcells x rfl;have HA:Xo (Cells w x (ps.flatMap pgc)):=A;have HB:Xo (ps.length*8<=140737488355328):=hbytes;have H8:Xo (∀p∈ps,p.length=8):=h8;clear A hcells hnone hbytes h8;obtain⟨i0,hi,hz0,hz1,hz2⟩:=info_parts Tryz.infoPage
  go_enter Tryz.func99,Tryz.ntmps99
  go_wp2_with (at_builtin;refine wpList_append_own _ rfl _ _ 32 rfl w.heap.size 91 i0 _ 8 8 Tryz.underlying32 hi hz0 hz1 hz2 rfl (by decide) _ _ _ rfl (World.ownsRow_made w #[] 0 (nR _) (nZ _) (by simp)) x ps.length c (ps.flatMap pgc) rfl ?qc1 ?qc2 ?qc3 ?qc4 ?qc5 ?qc6 ?_)
  case qc1=>exact flatMap_len ps fun p hp=>by rw[pgc_len,H8.out p hp]
  case qc2=>exact HA.out.grew (grew_alloc _ _)
  case qc3=>exact flatMap_one pgc_one ps
  case qc4=>rw[zA];exact maxLen_of (by have:=HB.out;omega)
  case qc5=>rw[zA];exact HB.out
  case qc6=>simp
  intro v' w1 hown hgrow hnil;go_wp2;go_ret;exact⟨v',rfl,⟨by simpa using hown,H8.out,HB.out⟩,((bR _ w).alloc (nR _) _).grown hgrow (by simp) (by intro k hk;simp[Value.ownBlock]at hk;omega)⟩
theorem clonePuts_any (v:Xq) (qs:List (Int × List Int)) (w:Xn) (hv:PutsAt w v qs):
  Xp Tryz.prog 100 #[v] w fun e w'=>∃v',e= Xl v'/\OwnPuts w.heap.size w' v' qs/\Grew w w':=by
 obtain⟨⟨a,c,rfl,hnone,hcells⟩,h8,hbytes⟩:=hv;have q22:∀(w:Xn) (a:Option Addr) (n c n' c':Nat),(binOp .eql 33 (O a n c) (O Xb n' c')).run Tryz.prog w= .ok (Xh a.isNone) w:=fun w a n c n' c'=>Lib.run_eql_slice_nil w _ _ a n c n' c' Tryz.underlying33
 cases a with
 | none=>
  have hps:=hnone rfl;subst hps;clear hcells hnone h8 hbytes
  go_enter Tryz.func100,Tryz.ntmps100
  go_wp2;go_ret;exact⟨_,rfl,⟨World.ownsRow_nil _ _ _ _,by simp,by simp⟩,Grew.refl w⟩
 | some x=>
  have A:=hcells x rfl;have HA:Xo (Cells w x (qs.flatMap ptc)):=A;have HB:Xo (qs.length*16<=140737488355328):=hbytes;have H8:Xo (∀q∈qs,q.2.length=8):=h8;clear A hcells hnone hbytes h8;obtain⟨i0,hi,hz0,hz1,hz2⟩:=info_parts Tryz.infoPut
  go_enter Tryz.func100,Tryz.ntmps100
  go_wp2_with (at_builtin;refine wpList_append_own _ rfl _ _ 33 rfl w.heap.size 117 i0 _ 9 16 Tryz.underlying33 hi hz0 hz1 hz2 rfl (by decide) _ _ _ rfl (World.ownsRow_made w #[] 0 (nR _) (nZ _) (by simp)) x qs.length c (qs.flatMap ptc) rfl ?qc1 ?qc2 ?qc3 ?qc4 ?qc5 ?qc6 ?_)
  case qc1=>exact flatMap_len qs fun p hp=>by rw[ptc_len,H8.out p hp]
  case qc2=>exact HA.out.grew (grew_alloc _ _)
  case qc3=>exact flatMap_one ptc_one qs
  case qc4=>rw[zA];exact maxLen_of (by have:=HB.out;omega)
  case qc5=>rw[zA];exact HB.out
  case qc6=>simp
  intro v' w1 hown hgrow hnil;go_wp2;go_ret;exact⟨v',rfl,⟨by simpa using hown,H8.out,HB.out⟩,((bR _ w).alloc (nR _) _).grown hgrow (by simp) (by intro k hk;simp[Value.ownBlock]at hk;omega)⟩
def OwnDisk (base:Nat) (w:Xn) (d:Xq) (ps:List (List Int)) (qs:List (Int × List Int)):Prop:=∃b q,d= Xi #[b,q]/\OwnPages base w b ps/\OwnPuts base w q qs
theorem OwnPages.grew {base:Nat} {w w':Xn} {v:Xq} {ps:List (List Int)} (h:OwnPages base w v ps) (hg:Grew w w'):OwnPages base w' v ps:=⟨ownsRow_grew h.1 hg,h.2⟩
theorem OwnPuts.grew {base:Nat} {w w':Xn} {v:Xq} {qs:List (Int × List Int)} (h:OwnPuts base w v qs) (hg:Grew w w'):OwnPuts base w' v qs:=⟨ownsRow_grew h.1 hg,h.2⟩
theorem OwnPages.base {base base':Nat} {w:Xn} {v:Xq} {ps:List (List Int)} (h:OwnPages base w v ps) (hb:base'<=base):OwnPages base' w v ps:=⟨ownsRow_base h.1 hb,h.2⟩
theorem OwnPuts.base {base base':Nat} {w:Xn} {v:Xq} {qs:List (Int × List Int)} (h:OwnPuts base w v qs) (hb:base'<=base):OwnPuts base' w v qs:=⟨ownsRow_base h.1 hb,h.2⟩
theorem OwnPages.slice {base:Nat} {w:Xn} {v:Xq} {ps:List (List Int)} (h:OwnPages base w v ps):∃a n c,v= O a n c:=by
 rcases h.1.2 with⟨rfl,_⟩ | ⟨g,cap,cur,rfl,_⟩
 ·exact⟨_,_,_,rfl⟩
 exact⟨_,_,_,rfl⟩
theorem OwnPuts.slice {base:Nat} {w:Xn} {v:Xq} {qs:List (Int × List Int)} (h:OwnPuts base w v qs):∃a n c,v= O a n c:=by
 rcases h.1.2 with⟨rfl,_⟩ | ⟨g,cap,cur,rfl,_⟩
 ·exact⟨_,_,_,rfl⟩
 exact⟨_,_,_,rfl⟩
theorem OwnPages.setCell {base:Nat} {w:Xn} {v:Xq} {ps:List (List Int)} (h:OwnPages base w v ps) {a:Addr} (ha:a.block<base) (u:Xq):OwnPages base (w.setCell a u) v ps:=⟨ownsRow_setCell_below h.1 ha u,h.2⟩
theorem OwnPuts.setCell {base:Nat} {w:Xn} {v:Xq} {qs:List (Int × List Int)} (h:OwnPuts base w v qs) {a:Addr} (ha:a.block<base) (u:Xq):OwnPuts base (w.setCell a u) v qs:=⟨ownsRow_setCell_below h.1 ha u,h.2⟩
def NewDisk (base:Nat) (w:Xn) (d:Xq) (ps:List (List Int)) (qs:List (Int × List Int)):Prop:=∃b q,d= Xi #[b,q]/\PagesAt w b ps/\PutsAt w q qs/\fresh base b/\fresh base q
theorem NewDisk.base {base base':Nat} {w:Xn} {d:Xq} {ps:List (List Int)} {qs:List (Int × List Int)} (h:NewDisk base w d ps qs) (hb:base'<=base):NewDisk base' w d ps qs:=by
 obtain⟨b,q,h1,h2,h3,h4,h5⟩:=h;exact⟨b,q,h1,h2,h3,fun x n c e=>nT hb (h4 x n c e),fun x n c e=>nT hb (h5 x n c e)⟩
theorem OwnPages.fresh {base:Nat} {w:Xn} {v:Xq} {ps:List (List Int)} (h:OwnPages base w v ps):fresh base v:=fun x n c e=>by
 rcases h.1.2 with⟨h0,_⟩ | ⟨g,cap,cur,h0,h1,_⟩
 ·rw[h0]at e;cases e
 rw[h0]at e;cases e;exact h1
theorem OwnPuts.fresh {base:Nat} {w:Xn} {v:Xq} {qs:List (Int × List Int)} (h:OwnPuts base w v qs):fresh base v:=fun x n c e=>by
 rcases h.1.2 with⟨h0,_⟩ | ⟨g,cap,cur,h0,h1,_⟩
 ·rw[h0]at e;cases e
 rw[h0]at e;cases e;exact h1
theorem OwnDisk.new {base:Nat} {w:Xn} {d:Xq} {ps:List (List Int)} {qs:List (Int × List Int)} (h:OwnDisk base w d ps qs):NewDisk base w d ps qs:=by
 obtain⟨b,q,h1,h2,h3⟩:=h;exact⟨b,q,h1,h2.at,h3.at,h2.fresh,h3.fresh⟩
theorem own_any (d:Xq) (ps:List (List Int)) (qs:List (Int × List Int)) (w:Xn) (hd:DiskAt w d ps qs):
  Xp Tryz.prog 53 #[d] w fun e w'=>∃d',e= Xl d'/\OwnDisk w.heap.size w' d' ps qs/\Grew w w':=by
 obtain⟨b,q,rfl,hb,hq⟩:=hd;have HB:Xo (PagesAt w b ps):=hb;have HQ:Xo (PutsAt w q qs):=hq;obtain⟨ab,cb,rfl,_⟩:=hb.rows;obtain⟨aq,cq,rfl,_⟩:=hq.rows;clear hb hq
 go_enter Tryz.func53,Tryz.ntmps53
 go_wp2;obtain⟨W1,hW⟩:∃W1,(w.alloc (Xk #[O ab ps.length cb,O aq qs.length cq] 35)).alloc (Xk #[O Xb 0 0,O Xb 0 0] 35)=W1:=⟨_,rfl⟩;have hg1:=gD2 hW
 have hsz:Xo (W1.heap.size=w.heap.size+2):=show W1.heap.size=_ by rw[<-hW];simp
 have k0:W1.cell? ⟨w.heap.size,0,Xb⟩=Xa (O ab ps.length cb):=by rw[<-hW];simp
 have k1:W1.cell? ⟨w.heap.size,1,Xb⟩=Xa (O aq qs.length cq):=by rw[<-hW];simp
 have k2:W1.cell? ⟨w.heap.size+1,0,Xb⟩=Xa (O Xb 0 0):=by rw[<-hW];simp
 have k3:W1.cell? ⟨w.heap.size+1,1,Xb⟩=Xa (O Xb 0 0):=by rw[<-hW];simp
 have f2:W1.frozen? ⟨w.heap.size+1,0,Xb⟩=Xd:=by rw[<-hW];simp
 have f3:W1.frozen? ⟨w.heap.size+1,1,Xb⟩=Xd:=by rw[<-hW];simp
 rw[hW];have hx0:∀x:GrownW W1,x.world.cell? ⟨w.heap.size,0,Xb⟩=Xa (O ab ps.length cb):=fun x=>(Below.cell x.grew (World.block_lt_of_cell? _ _ k0)).trans k0
 have hx1:∀x:GrownW W1,x.world.cell? ⟨w.heap.size,1,Xb⟩=Xa (O aq qs.length cq):=fun x=>(Below.cell x.grew (World.block_lt_of_cell? _ _ k1)).trans k1
 have hne:Nonempty (GrownW W1):=⟨⟨_,Grew.refl _⟩⟩;refine wp_lax_tail 7 [(2,⟨fun v=>∃a n c,v= O a n c,fun v w'=>OwnPages (w.heap.size+2) w' v ps⟩),(5,⟨fun v=>∃a n c,v= O a n c,fun v w'=>OwnPuts (w.heap.size+2) w' v qs⟩)] mixed (by kernel_rfl) rfl rfl (by decide) ?_ ?_ ?_
 ·intro x hx
  simp at hx
  rcases hx with rfl | rfl
  ·exact⟨_,Xb,0,0,rfl⟩
  exact⟨_,Xb,0,0,rfl⟩
 ·intro x hx
  simp at hx
  rcases hx with rfl | rfl
  ·intro v w1 w2 hg h;exact h.grew hg
  intro v w1 w2 hg h;exact h.grew hg
 simp only[List.take,List.drop];iterate 2 (refine lax_quiet rfl rfl rfl (fun K hK=>?_);go_big_quiet_op;refine hK _ ?_;clear hK K)
 refine lax_spec rfl rfl (fun w' hg hF=>?_) (fun v1 hv=>?_)
 ·refine Does.call [O ab ps.length cb] rfl Tryz.func99 rfl rfl rfl ?_;refine(clonePages_any _ ps w' (HB.out.grew (hg1.out.trans hg))).mono ?_;rintro e w'' ⟨v2,rfl,hb,hg2⟩;exact⟨_,rfl,hg2,hb.slice,hb.base (by have:=bS hg;rw[hsz.out]at this;exact this)⟩
 obtain⟨a1,n1,c1,rfl⟩:=hv;simp only[Act.put,sB,sS,sZ];iterate 2 (refine lax_quiet rfl rfl rfl (fun K hK=>?_);go_big_quiet_op;refine hK _ ?_;clear hK K)
 refine lax_spec rfl rfl (fun w' hg hF=>?_) (fun v1 hv=>?_)
 ·refine Does.call [O aq qs.length cq] rfl Tryz.func100 rfl rfl rfl ?_;refine(clonePuts_any _ qs w' (HQ.out.grew (hg1.out.trans hg))).mono ?_;rintro e w'' ⟨v2,rfl,hb,hg2⟩;exact⟨_,rfl,hg2,hb.slice,hb.base (by have:=bS hg;rw[hsz.out]at this;exact this)⟩
 obtain⟨a2,n2,c2,rfl⟩:=hv;simp only[Act.put,sB,sS,sZ];iterate 1 (refine lax_quiet rfl rfl rfl (fun K hK=>?_);go_big_quiet_op;refine hK _ ?_;clear hK K)
 refine lax_nil fun w' hg hF=>?_
 have ow1:Xo (OwnPages (w.heap.size+2) w' (O a1 n1 c1) ps):=hF 2;have ow2:Xo (OwnPuts (w.heap.size+2) w' (O a2 n2 c2) qs):=hF 5;have m2:w'.cell? ⟨w.heap.size+1,0,Xb⟩=Xa (O Xb 0 0):=(Below.cell hg (World.block_lt_of_cell? _ _ k2)).trans k2;have m3:w'.cell? ⟨w.heap.size+1,1,Xb⟩=Xa (O Xb 0 0):=(Below.cell hg (World.block_lt_of_cell? _ _ k3)).trans k3;have g2:w'.frozen? ⟨w.heap.size+1,0,Xb⟩=Xd:=(Below.frozen hg (World.block_lt_of_cell? _ _ k2)).trans f2;have g3:w'.frozen? ⟨w.heap.size+1,1,Xb⟩=Xd:=(Below.frozen hg (World.block_lt_of_cell? _ _ k3)).trans f3;have HG:=dD (hg1.out.trans hg);clear hF k0 k1 k2 k3 f2 f3 hx0 hx1 hW hg hne;go_wp2;refine bodyPost_ret (v:= Xi #[O a1 n1 c1,O a2 n2 c2]) (by simp[results,Tryz.results53,go_sem, *]) rfl ⟨_,rfl,⟨_,_,rfl,((ow1.out.setCell (by simp) _).setCell (by simp) _).base (by omega),((ow2.out.setCell (by simp) _).setCell (by simp) _).base (by omega)⟩,?_⟩
 exact Below.setCell (Below.setCell HG.out (p:=⟨w.heap.size+1,0,Xb⟩) (by simp) _) (p:=⟨w.heap.size+1,1,Xb⟩) (by simp) _
def siv (z:Int):List Xq:=[Xe Xf z]
theorem Tryz.infoInt:(Tryz.prog.info? 3).map (fun i=>(i.zero,i.size,i.bytes))=Xa (Xa (Xe Xf 0),1,8):=by kernel_rfl
def slE:Elt Int where
 enc:=siv
 k:=1
 ty:=3
 st:=31
 bytes:=8
 zv:= Xe Xf 0
 zero:=0
 len:=fun _=>rfl
 one:=fun a u hu=>by
  simp only[siv,mC,nM,or_false]at hu;subst hu;rfl
 und:=Tryz.underlying31
 info:=Tryz.infoInt
 zok:=rfl
 few:=by decide
 pos:=by decide
def SlRows (w:Xn) (a:Option Addr) (l:List Int):Prop:=∀(j:Nat) x,l[j]? =Xa x->∃ad,a=Xa ad/\∀W,Grew w W->W.cell? (ad.add j)=Xa (Xe Xf x)
theorem RowAt.sls {w:Xn} {v:Xq} {l:List Int} (h:RowAt slE w v l):∃a c,v= O a l.length c/\SlRows w a l:=by
 obtain⟨a,c,h1,h2⟩:=h.rows;refine⟨a,c,h1,fun j x hj=>?_⟩
 obtain⟨ad,h3,h4⟩:=h2 j x hj;refine⟨ad,h3,fun W hW=>?_⟩
 have:=h4 W hW 0 _ rfl;rw[add_add',show j*slE.k+0=j from by show j*1+0=j;omega]at this
 exact this
def niv (z:Int):List Xq:=[Xe Xf z]
theorem Tryz.infoNum:(Tryz.prog.info? 3).map (fun i=>(i.zero,i.size,i.bytes))=Xa (Xa (Xe Xf 0),1,8):=by kernel_rfl
def blE:Elt Int where
 enc:=niv
 k:=1
 ty:=3
 st:=30
 bytes:=8
 zv:= Xe Xf 0
 zero:=0
 len:=fun _=>rfl
 one:=fun a u hu=>by
  simp only[niv,mC,nM,or_false]at hu;subst hu;rfl
 und:=Tryz.underlying30
 info:=Tryz.infoNum
 zok:=rfl
 few:=by decide
 pos:=by decide
def NumRows (w:Xn) (a:Option Addr) (l:List Int):Prop:=∀(j:Nat) x,l[j]? =Xa x->∃ad,a=Xa ad/\∀W,Grew w W->W.cell? (ad.add j)=Xa (Xe Xf x)
theorem RowAt.nums {w:Xn} {v:Xq} {l:List Int} (h:RowAt blE w v l):∃a c,v= O a l.length c/\NumRows w a l:=by
 obtain⟨a,c,h1,h2⟩:=h.rows;refine⟨a,c,h1,fun j x hj=>?_⟩
 obtain⟨ad,h3,h4⟩:=h2 j x hj;refine⟨ad,h3,fun W hW=>?_⟩
 have:=h4 W hW 0 _ rfl;rw[add_add',show j*blE.k+0=j from by show j*1+0=j;omega]at this
 exact this
end
section
def inL (n:Nat) (k:Int):Bool:=decide (0<=k) && decide (k< (n:Int))
def blOf (fs:List Fl) (k:Int):List Int:=match fs[k.toNat]? with | some f=>f.bl | none=>[]
def szOf (fs:List Fl) (k:Int):Int:=match fs[k.toNat]? with | some f=>f.size | none=>0
def blkE (fs:List Fl) (cnt k x:Int):Int:=if stW fs cnt=0 then(if inL fs.length k=Xc then(if inL (blOf fs k).length x=Xc then(if(blOf fs k).getD x.toNat 0=-1 then(if leftL fs cnt=[]then 10 else 0)else 0)else 9)else 5)else stW fs cnt
def blkB (fs:List Fl) (cnt k x:Int):Int:=if(blOf fs k).getD x.toNat 0=-1 then(((leftL fs cnt).headD 0:Nat):Int)else(blOf fs k).getD x.toNat 0
def blkI (fs:List Fl) (cnt k x:Int):Int:=if blkE fs cnt k x=0 then blkB fs cnt k x else 0
def blkF (fs:List Fl) (cnt k x:Int):List Fl:=if blkE fs cnt k x=0 then fs.set k.toNat ⟨szOf fs k,(blOf fs k).set x.toNat (blkB fs cnt k x)⟩else []
def blkC (fs:List Fl) (cnt k x:Int):Int:=if blkE fs cnt k x=0 then cnt else 0
theorem inL_iff {n:Nat} {k:Int}:inL n k=Xc↔0<=k/\k< (n:Int):=by simp[inL]
theorem allB_mid (f:Fl):∀(fs:List Fl) (i:Nat) (f0:Fl),fs[i]? =Xa f0->allB (fs.set i f)=allB (fs.take i)++(f.bl++allB (fs.drop (i+1)))/\allB fs=allB (fs.take i)++(f0.bl++allB (fs.drop (i+1)))
 | [],i,f0,h=>by simp at h
 | a :: l,0,f0,h=>by
  simp at h
  subst h
  simp[allB]
 | a :: l,i+1,f0,h=>by
  obtain⟨h1,h2⟩:=allB_mid f l i f0 (by simpa using h)
  unfold allB at h1 h2⊢;simp only[sS,Xw,List.take_succ_cons,List.drop_succ_cons,Yb];rw[h1,<-h2];exact⟨rfl,rfl⟩
theorem left_mem {fs:List Fl} {cnt:Int} {b:Nat} (h:b∈leftL fs cnt):(b:Int)<cnt/\(b:Int)∉allB fs:=by
 unfold leftL at h;obtain⟨h1,h2⟩:=Xt.1 h;have:=Xu.1 h1;refine⟨by omega,fun h=>?_⟩
 rw[(used_iff fs _).2 h]at h2;cases h2
theorem mid_set {A C l:List Int} {j:Nat} {b:Int} (hj:l[j]? =Xa (-1)):∀x,x≠-1->(x∈A++(l.set j b++C)↔(x∈A++(l++C)\/x=b)):=fun x hx=>by
 have hlt:=(gS.1 hj).1;have:x∈l.set j b↔x∈l\/x=b:=by
  constructor
  ·intro h;exact(Ya h)
  rintro(h | rfl)
  ·obtain⟨i,hi⟩:=Yz h
   by_cases e:i=j
   ·subst e;rw[hj]at hi;cases hi;exact absurd rfl hx
   exact mG (i:=i) (by rw[sN (fun h=>e h.symm)];exact hi)
  exact mG (i:=j) (by rw[sF hlt])
 simp only[Xv,this];constructor
 ·rintro(h | (h | h) | h) <;> simp[h]
 rintro((h | h | h) | h) <;> simp[h]
theorem real_split {l:List Int} {j:Nat} (b:Int) (hb:b≠-1) (hj:l[j]? =Xa (-1)):real (l.set j b)=real (l.take j)++(b :: real (l.drop (j+1)))/\real l=real (l.take j)++real (l.drop (j+1)):=by
 obtain⟨hlt,he⟩:=gS.1 hj;have e1:l.set j b=l.take j++b :: l.drop (j+1):=List.set_eq_take_append_cons_drop.trans (if_pos hlt);have e2:l=l.take j++(-1) :: l.drop (j+1):=by
  rw[<-he,List.getElem_cons_drop,List.take_append_drop]
 unfold real;constructor
 ·rw[e1,Yk,Yt (by simpa using hb)]
 conv=>lhs;rw[e2]
 rw[Yk,List.filter_cons_of_neg (by simp)]
theorem nodup_mid {A B C:List Int} {b:Int} (h:(A++(B++C)).Nodup) (h1:b∉A) (h2:b∉B++C):(A++((B++(b :: C)))).Nodup:=by
 rw[Yu]at h⊢;obtain⟨k1,k2,k3⟩:=h;have k2':=k2;rw[Yu]at k2;obtain⟨m1,m2,m3⟩:=k2;have hB:b∉B:=fun h=>h2 (Xv.2 (.inl h))
 have hC:b∉C:=fun h=>h2 (Xv.2 (.inr h))
 refine⟨k1,?_,fun x hx y hy=>?_⟩
 ·rw[Yu];refine⟨m1,Ys.2 ⟨hC,m2⟩,fun x hx y hy=>?_⟩
  rcases mC.1 hy with rfl | hy
  ·exact fun e=>hB (e ▸ hx)
  exact m3 x hx y hy
 rcases Xv.1 hy with hy | hy
 ·exact k3 x hx y (Xv.2 (.inl hy))
 rcases mC.1 hy with rfl | hy
 ·exact fun e=>h1 (e ▸ hx)
 exact k3 x hx y (Xv.2 (.inr hy))
theorem give_right {fs:List Fl} {cnt:Int} {i j b:Nat} {f:Fl} (h:stW fs cnt=0) (hf:fs[i]? =Xa f) (hj:f.bl[j]? =Xa (-1)) (hb:b∈leftL fs cnt):
  stW (fs.set i ⟨f.size,f.bl.set j (b:Int)⟩) cnt=0/\(leftL (fs.set i ⟨f.size,f.bl.set j (b:Int)⟩) cnt).length+1=(leftL fs cnt).length:=by
 obtain⟨hb1,hb2⟩:=left_mem hb;obtain⟨⟨h1,h2,h3⟩,h4,h5⟩:=(stW_zero fs cnt).1 h;obtain⟨e1,e2⟩:=allB_mid ⟨f.size,f.bl.set j (b:Int)⟩ fs i f hf;have hbn:(b:Int)≠-1:=by omega
 constructor
 ·refine(stW_zero _ _).2 ⟨⟨by rw[Ye];exact h1,h2,h3⟩,fun f' hf'=>?_,?_⟩
  ·rcases Ya hf' with hf' | rfl
   ·exact h4 f' hf'
   obtain⟨k1,k2,k3⟩:=h4 f (mG hf);refine⟨k1,by simp only[Ye];exact k2,fun c hc=>?_⟩
   rcases Ya hc with hc | rfl
   ·exact k3 c hc
   exact .inr ⟨by omega,hb1⟩
  obtain⟨r1,r2⟩:=real_split (b:Int) hbn hj;have hr:∀A B:List Int,real (A++B)=real A++real B:=fun A B=>Yk ..
  rw[e1,hr,hr,r1,Yb];rw[e2,hr,hr,r2,Yb]at h5;rw[e2]at hb2;have hm:∀L:List Int,(b:Int)∉L->(b:Int)∉real L:=fun L h h'=>h (Xt.1 h').1
  have hb3:(b:Int)∉real (f.bl.take j)++(real (f.bl.drop (j+1))++real (allB (fs.drop (i+1)))):=by
   intro h;refine hm _ (fun h=>hb2 (Xv.2 (.inr h))) (?_:(b:Int)∈real (f.bl++allB (fs.drop (i+1))))
   rw[hr,r2,Yb];exact h
  exact nodup_mid h5 (hm _ (fun h=>hb2 (Xv.2 (.inl h)))) hb3
 have hu:∀c:Nat,usedB (fs.set i ⟨f.size,f.bl.set j (b:Int)⟩) (c:Int)=(usedB fs (c:Int) || decide (c=b)):=fun c=>by
  rw[Bool.eq_iff_iff,Oa,used_iff,used_iff,e1,e2,mid_set hj _ (by omega),decide_eq_true_eq,Int.ofNat_inj]
 have hl:leftL (fs.set i ⟨f.size,f.bl.set j (b:Int)⟩) cnt=(leftL fs cnt).erase b:=by
  have nd:(leftL fs cnt).Nodup:=List.Nodup.sublist List.filter_sublist List.nodup_range;rw[List.Nodup.erase_eq_filter nd];unfold leftL;rw[Ue]
  congr 1
  funext c
  rw[hu c]
  by_cases hc:c=b <;> simp[hc]
 rw[hl,Oh hb];have:=List.length_pos_of_mem hb;omega
end
section
open Go.RowKit
structure FlV where
 size:Int
 a:Option Addr
 n:Nat
 c:Nat
def FlV.v (x:FlV):Xq:= O x.a x.n x.c
def flv (x:FlV):List Xq:=[Xe Xf x.size,O x.a x.n x.c]
theorem Tryz.infoFile:(Tryz.prog.info? 158).map (fun i=>(i.zero,i.size,i.bytes))=Xa (Xa (Xi #[Xe Xf 0,O Xb 0 0]),2,32):=by kernel_rfl
def fvE:Elt FlV where
 enc:=flv
 k:=2
 ty:=158
 st:=36
 bytes:=32
 zv:= Xi #[Xe Xf 0,O Xb 0 0]
 zero:=⟨0,Xb,0,0⟩
 len:=fun _=>rfl
 one:=fun a u hu=>by
  simp only[flv,mC,nM,or_false]at hu
  rcases hu with rfl | rfl <;> rfl
 und:=Tryz.underlying36
 info:=Tryz.infoFile
 zok:=rfl
 few:=by decide
 pos:=by decide
def FilesS (B0 B1:Nat) (w:Xn) (v:Xq) (fs:List Fl):Prop:=
 Cap v/\∃xs:List FlV,RowS fvE B0 B1 w v xs/\xs.length=fs.length/\∀(i:Nat) x f,xs[i]? =Xa x->fs[i]? =Xa f->x.size=f.size/\RowS blE B0 B1 w (O x.a x.n x.c) f.bl
def FilesAt (w:Xn) (v:Xq) (fs:List Fl):Prop:=FilesS 0 0 w v fs
theorem FilesS.out {B0 B1:Nat} {w w':Xn} {v:Xq} {fs:List Fl} (h:FilesS B0 B1 w v fs) (k:Out B0 B1 w w'):FilesS B0 B1 w' v fs:=by
 obtain⟨hc,xs,h1,h2,h3⟩:=h;exact⟨hc,xs,h1.out k,h2,fun i x f hx hf=>⟨(h3 i x f hx hf).1,(h3 i x f hx hf).2.out k⟩⟩
theorem FilesS.grew {B0 B1:Nat} {w w':Xn} {v:Xq} {fs:List Fl} (h:FilesS B0 B1 w v fs) (k:Grew w w'):FilesS B0 B1 w' v fs:=h.out (Out.grew k)
def FlCells (W:Xn) (y:Addr) (s:Int) (b:Xq):Prop:=W.cell? y=Xa (Xe Xf s)/\W.cell? { block:=y.block,off:=y.off+1 }=Xa b
def FlRows (w:Xn) (a:Option Addr) (fs:List Fl):Prop:=∀(j:Nat) f,fs[j]? =Xa f->∃ad,a=Xa ad/\∃xa xc,RowAt blE w (O xa f.bl.length xc) f.bl/\∀W,Grew w W->FlCells W (ad.add (j*2)) f.size (O xa f.bl.length xc)
theorem FilesAt.rows {w:Xn} {v:Xq} {fs:List Fl} (h:FilesAt w v fs):∃a c,v= O a fs.length c/\fs.length<=9223372036854775807/\FlRows w a fs:=by
 obtain⟨_,xs,k1,k2,k3⟩:=h;obtain⟨a,c,h1,h2⟩:=k1.now.rows;refine⟨a,c,by rw[<-k2];exact h1,by rw[<-k2];exact k1.now.short,fun j f hf=>?_⟩
 obtain⟨x,hx⟩:∃x,xs[j]? =Xa x:=⟨_,gE (by rw[k2];exact(gS.1 hf).1)⟩
 obtain⟨ad,e1,e2⟩:=h2 j x hx;obtain⟨q1,q2⟩:=k3 j x f hx hf;have q3:=q2.now;obtain⟨⟨a',c',q4,_⟩,_⟩:=id q3;cases x;simp only at q1 q3 q4;cases q4;subst q1;refine⟨ad,e1,_,_,q3,fun W hW=>⟨?_,?_⟩⟩
 ·exact e2 W hW 0 _ rfl
 exact e2 W hW 1 _ rfl
theorem below_any (m n:Int) (w:Xn):
  Xp Tryz.prog 27 #[Xe Xf m,Xe Xf n] w fun e w'=>e= Xl (Xh (bel m n))/\w'=w:=by
 have H:Xo (bel m n=(decide (0<=m) && decide (m<n))):=rfl
 by_cases h0:0<=m
 ·by_cases h1:m<n
  ·go_enter Tryz.func27,Tryz.ntmps27
   go_wp2;go_ret;exact⟨by rw[H.out];simp[*],rfl⟩
  go_enter Tryz.func27,Tryz.ntmps27
  go_wp2;go_ret;exact⟨by rw[H.out];simp[*],rfl⟩
 go_enter Tryz.func27,Tryz.ntmps27
 go_wp2;go_ret;exact⟨by rw[H.out];simp;omega,rfl⟩
theorem below_yes {m n:Int} (h0:0<=m) (h1:m<n) (w:Xn):Xp Tryz.prog 27 #[Xe Xf m,Xe Xf n] w fun e w'=>e= Xl (Xh Xc)/\w'=w:=by
 have:=below_any m n w;rw[bel_iff.2 ⟨h0,h1⟩]at this;exact this
theorem below_no {m n:Int} (h:¬(0<=m/\m<n)) (w:Xn):Xp Tryz.prog 27 #[Xe Xf m,Xe Xf n] w fun e w'=>e= Xl (Xh Xd)/\w'=w:=by
 have:=below_any m n w;rw[bel_no h]at this;exact this
theorem ret_int {a b:Int} (h:a=b):Ending.returned (Xe Xf a)= Xl (Xe Xf b):=by rw[h]
theorem count_any (n:Int) (w:Xn) (h1:0<=n) (h2:n<=96):
  Xp Tryz.prog 149 #[Xe Xf n] w fun e w'=>e= Xl (Xe Xf (cntP n))/\w'=w:=by
 by_cases h:n<1
 ·have H:Xo (cntP n=0):=show _=_ by unfold cntP;rw[if_pos h]
  go_enter Tryz.func149,Tryz.ntmps149
  go_wp2;go_ret;exact⟨ret_int H.out.symm,rfl⟩
 have H:Xo (cntP n=(n - 1) / 8+1):=show _=_ by unfold cntP;rw[if_neg h]
 go_enter Tryz.func149,Tryz.ntmps149
 go_wp2;go_ret;exact⟨ret_int H.out.symm,rfl⟩
theorem cloneInt_any (v:Xq) (fs:List Int) (w:Xn) (hv:RowAt blE w v fs):
  Xp Tryz.prog 102 #[v] w fun e w'=>∃v',e= Xl v'/\OwnRow blE w.heap.size w' v' fs/\Grew w w':=by
 have HV:Xo (RowAt blE w v fs):=hv;obtain⟨⟨a,c,rfl,hnone,hcells⟩,hbytes⟩:=hv;have q22:∀(w:Xn) (a:Option Addr) (n c n' c':Nat),(binOp .eql 30 (O a n c) (O Xb n' c')).run Tryz.prog w= .ok (Xh a.isNone) w:=fun w a n c n' c'=>Lib.run_eql_slice_nil w _ _ a n c n' c' Tryz.underlying30
 cases a with
 | none=>
  have hps:=hnone rfl;subst hps;clear hcells hnone hbytes HV
  go_enter Tryz.func102,Tryz.ntmps102
  go_wp2;go_ret;exact⟨_,rfl,OwnRow.nil _ _ _,Grew.refl w⟩
 | some x=>
  have HB:Xo (fs.length*8<=140737488355328):=hbytes;clear hcells hnone hbytes
  go_enter Tryz.func102,Tryz.ntmps102
  go_wp2_with (at_builtin;refine wpList_append_row (E:=blE) rfl (.tmp 5) (.tmp 6) rfl w.heap.size _ [] rfl (OwnRow.made blE w) _ fs rfl (HV.out.grew (grew_alloc _ _)) ?qb (by simp) ?_)
  case qb=>rw[Oc,zA];exact HB.out
  intro v' w1 hown hgrow;go_wp2;go_ret;exact⟨v',rfl,by simpa using hown,((bR _ w).alloc (nR _) _).grown hgrow (by simp) (by intro k hk;simp[Value.ownBlock]at hk;omega)⟩
theorem cloneFile_any (v:Xq) (fs:List FlV) (w:Xn) (hv:RowAt fvE w v fs):
  Xp Tryz.prog 101 #[v] w fun e w'=>∃v',e= Xl v'/\OwnRow fvE w.heap.size w' v' fs/\Grew w w':=by
 have HV:Xo (RowAt fvE w v fs):=hv;obtain⟨⟨a,c,rfl,hnone,hcells⟩,hbytes⟩:=hv;have q22:∀(w:Xn) (a:Option Addr) (n c n' c':Nat),(binOp .eql 36 (O a n c) (O Xb n' c')).run Tryz.prog w= .ok (Xh a.isNone) w:=fun w a n c n' c'=>Lib.run_eql_slice_nil w _ _ a n c n' c' Tryz.underlying36
 cases a with
 | none=>
  have hps:=hnone rfl;subst hps;clear hcells hnone hbytes HV
  go_enter Tryz.func101,Tryz.ntmps101
  go_wp2;go_ret;exact⟨_,rfl,OwnRow.nil _ _ _,Grew.refl w⟩
 | some x=>
  have HB:Xo (fs.length*32<=140737488355328):=hbytes;clear hcells hnone hbytes
  go_enter Tryz.func101,Tryz.ntmps101
  go_wp2_with (at_builtin;refine wpList_append_row (E:=fvE) rfl (.tmp 5) (.tmp 6) rfl w.heap.size _ [] rfl (OwnRow.made fvE w) _ fs rfl (HV.out.grew (grew_alloc _ _)) ?qb (by simp) ?_)
  case qb=>rw[Oc,zA];exact HB.out
  intro v' w1 hown hgrow;go_wp2;go_ret;exact⟨v',rfl,by simpa using hown,((bR _ w).alloc (nR _) _).grown hgrow (by simp) (by intro k hk;simp[Value.ownBlock]at hk;omega)⟩
end
end Go.Proofs.YtempiodbdhiboaaGreat
