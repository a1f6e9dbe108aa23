import Derived.Orders
import Derived.Below
import Derived.Deep.QuietTactic
import Derived.BigQuiet
import Derived.Test.YtacihbmelcegbaaGreatProg
import Derived.WalkKit
import Derived.Deep.LoopGhost
import Derived.Deep.Slices
import Derived.Laws.AppendOwn
import Derived.Lib.Walk
import Derived.Lib.SliceRun
import Derived.Laws.CopyRow
import Derived.Laws.CopyOwn
import Derived.Laws.MakeOwn
import Derived.Laws.OwnMore
import Derived.Shelf.Abstract
import Derived.WalkSmall
import Derived.Deep.Cut
import Derived.ChangeKeysEq
import Derived.Laws.StructEq
import Derived.ArgAppend
namespace Go.Proofs.YtacihbmelcegbaaGreat
open Go.Value renaming slice→O,int→Xe,bool→Xh,agg→Xi,pointer→Xj,tuple→Xm
open Go.IntKind renaming i64→Xf,u8→Xg
open Go.Obj renaming cells→Xk
open Go.Ending renaming returned→Xl
open Go renaming World→Xo,Calls→Xq,Value→Xr
open Go.RowKit renaming Hid→Xp
open Option renaming some→Xa,none→Xb
open Bool renaming true→Xc,false→Xd
open List renaming replicate→Xs
open Go.Region renaming wanted→Xt,ready→Oj,binds→Ug
open _root_.List renaming mem_range→Xu,mem_filter→Xv,flatMap_cons→Xx,range→Ya,ext_getElem?→Yc,flatMap_append→Yg,all_eq_true→Yh,drop_append_of_le_length→Yi,take_append_of_le_length→Yj,take_length_add_append→Yn,drop_length_add_append→Yo,mem_of_getLast?→Yp,any_eq_true→Yq,mem_append→Yr,length_set→Ys,length_eq_zero_iff→Yt,drop_of_length_le→Yv,length_cons→Yw,nodup_cons→Yy,nil_append→Yz,append_nil→Oa,pairwise_cons→Ob,mem_or_eq_of_mem_set→Oc,any_eq_false→Od,append_assoc→Oe,lookup→Of,filter_cons_of_pos→Og,getElem?_replicate→Oh,getElem?_cons_succ→Oi,pairwise_lt_range→Ok,take_of_length_le→Oo,range_eq_range'→Ou,take_zero→Ov,getElem?_of_mem→Ox,getElem?_range→Oy,filter_eq_self→Oz,sum_cons→Ua,filter_append→Ub,getLast?_cons→Uc,mem_singleton→Ud,getElem?_drop→Ue,getElem?_map→Uf
open _root_.Bool renaming and_eq_true→Xw,false_eq_true→Yk,or_eq_true→Oq
open _root_.Nat renaming mul_le_mul_left→Xy,lt_or_ge→Yd,mul_le_mul_right→Yf,lt_of_lt_of_le→Yl,add_assoc→Ym,add_comm→Yu,add_mul→Yx,zero_mul→Ol,succ_mul→Om,div_lt_iff_lt_mul→Ot,mul_comm→Uh
open Go.Sem renaming run_bind→Xz,run_pure→Ye
open _root_.Array renaming getElem?_eq_getElem→Yb,getElem_modify→Ow
theorem dD{P:Prop}(h:P):Go.RowKit.Hid P:=h
theorem kA{α:Type}(e:α):∃x,Go.RowKit.Hid (e=x):=⟨_,rfl⟩
theorem kB{α:Type}(e:α):∃x,e=x:=⟨_,rfl⟩
theorem kE{c:Prop}{h:Decidable c}(hc:c){α:Sort _}{t e:α}:ite c t e=t:=if_pos hc
theorem kF{c:Prop}{h:Decidable c}(hc:¬c){α:Sort _}{t e:α}:ite c t e=e:=if_neg hc
theorem kC{a b:Nat}(h:a<b):(a:Int)<(b:Int):=by omega
theorem kD{a b:Nat}(h:¬a<b):¬(a:Int)<(b:Int):=by omega
theorem gE{α:Type}{l:List α}{i:Nat}(h:i<l.length):l[i]? =some l[i]:=List.getElem?_eq_getElem h
theorem sB{α:Type}(l:List α)(i:Nat)(a:α):l.toArray.setIfInBounds i a=(l.set i a).toArray:=List.setIfInBounds_toArray l i a
theorem gS{α:Type}{i:Nat}{a:α}{l:List α}:l[i]? =some a<->∃h:i<l.length,l[i]=a:=List.getElem?_eq_some_iff
theorem sZ{α:Type}{x:α}{k:List α}{a:α}:(x::k).set 0 a=a::k:=rfl
theorem sS{α:Type}{x:α}{k:List α}{i:Nat}{a:α}:(x::k).set (i+1) a=x::k.set i a:=rfl
theorem nM{α:Type}{a:α}:¬a∈([]:List α):=List.not_mem_nil
theorem mC{α:Type}{b:α}{l:List α}{a:α}:a∈b::l<->a=b\/a∈l:=List.mem_cons
theorem mG{α:Type}{l:List α}{i:Nat}{a:α}(h:l[i]? =some a):a∈l:=List.mem_of_getElem? h
theorem sF{α:Type}{l:List α}{i:Nat}{a:α}(h:i<l.length):(l.set i a)[i]? =some a:=List.getElem?_set_self h
theorem gD{α:Type}{l:List α}{i:Nat}{a:α}:l.getD i a=l[i]?.getD a:=List.getD_eq_getElem?_getD
theorem sN{α:Type}{l:List α}{i j:Nat}(h:i≠j){a:α}:(l.set i a)[j]? =l[j]?:=List.getElem?_set_ne h
theorem tN(n:Nat):(n:Int).toNat=n:=Int.toNat_natCast n
theorem lR{α:Type}{n:Nat}{a:α}:(List.replicate n a).length=n:=List.length_replicate
theorem pJ{α β:Type}(a:α)(b:β)(c:α)(d:β):((a,b)=(c,d))=(a=c/\b=d):=Prod.mk.injEq a b c d
theorem vJ(a n c d e f):(Value.slice a n c=.slice d e f)=(a=d/\n=e/\c=f):=Value.slice.injEq a n c d e f
theorem eN{α:Type}{l:List α}(h:l.length=0):l=[]:=List.eq_nil_of_length_eq_zero h
theorem aR{α:Type}{k l:List α}{i:Nat}(h:k.length<=i):(k++l)[i]? =l[i-k.length]?:=List.getElem?_append_right h
theorem gN{α:Type}{l:List α}{i:Nat}(h:l.length<=i):l[i]? =none:=List.getElem?_eq_none h
theorem lA{α:Type}{k l:List α}:(k++l).length=k.length+l.length:=List.length_append
theorem aS{α:Type}{i:Nat}{b:α}{k:Array α}:k[i]? =some b<->∃h:i<k.size,k[i]=b:=Array.getElem?_eq_some_iff
theorem bD{B:Nat}{a w:World}(h:Go.RowKit.Below B a w)(n:Nat):Go.RowKit.Below B a (w.drewN n):=Go.below_drewN h n
theorem nT{n m k:Nat}(h:n<=m)(g:m<=k):n<=k:=Nat.le_trans h g
theorem nR(n:Nat):n<=n:=Nat.le_refl n
theorem nZ(n:Nat):0<=n:=Nat.zero_le n
theorem nL(n:Nat):¬n<0:=Nat.not_lt_zero n
theorem mP{α β:Type}{f:α->β}{a:α}{l:List α}:(a::l).map f=f a::l.map f:=rfl
theorem rA{α β:Type}(a:α)(w:World)(f:α->World->Result β):(Result.ok a w).andThen f=f a w:=rfl
theorem zA(n:Nat):0+n=n:=Nat.zero_add n
theorem bR(B:Nat)(w:World):Go.RowKit.Below B w w:=Go.RowKit.Below.refl B w
theorem bS{B:Nat}{w v:World}(h:Go.RowKit.Below B w v):w.heap.size<=v.heap.size:=Go.RowKit.Below.size h
set_option maxRecDepth 100000
set_option maxHeartbeats 4000000
variable{A0 A1 B B0 B1 b base' id j:Nat} {Q:Exit->Act->Xo->Prop} {W w':Xo} {a0 a1 a2 a3 a4 a5 a6 a7:Xr} {o oj:Oper} {ops:Array Oper} {s:Int} {t:TypeId} {xs:List Xr}
open Go.Proofs.Tryz
section
structure Pg where
 (b0 b1 b2 b3 b4 b5 b6 b7:Int)
structure Fr where
 p:Pg
 r:Int
 u:Bool
 d:Bool
 f:Int
 x:Int
def pg0:Pg:=⟨0,0,0,0,0,0,0,0⟩
def fr0:Fr:=⟨pg0,0,Xd,Xd,0,0⟩
def frF:Fr:=⟨pg0,0,Xd,Xd,-1,0⟩
def zdQ (p q:Pg):Bool:=(p.b0 == q.b0) &&(p.b1 == q.b1) &&(p.b2 == q.b2) &&(p.b3 == q.b3) &&(p.b4 == q.b4) &&(p.b5 == q.b5) &&(p.b6 == q.b6) &&(p.b7 == q.b7)
theorem zap (p q:Pg):zdQ p q=Xc↔p=q:=by
 obtain⟨a0,a1,a2,a3,a4,a5,a6,a7⟩:=p;obtain⟨c0,c1,c2,c3,c4,c5,c6,c7⟩:=q
 simp[zdQ,and_assoc]
def zaF (a b:Fr):Bool:=zdQ a.p b.p &&(a.r == b.r) &&(a.u == b.u) &&(a.d == b.d) &&(a.f == b.f) &&(a.x == b.x)
theorem zcs (a b:Fr):zaF a b=Xc↔a=b:=by
 obtain⟨p,r,u,d,f,x⟩:=a;obtain⟨p',r',u',d',f',x'⟩:=b
 simp[zaF,zap,and_assoc]
def inB (m n:Int):Bool:=decide (0<=m) && decide (m<n)
def frW (a:Fr):Int:=if(inB a.r 1001 && inB a.x 12)=Xd then 3 else if(!(a.f == -1) && !inB a.f 5)=Xc then 3 else if(a.r == 0 && !zaF a frF || a.f == -1 && !(a.x == 0))=Xc then 7 else 0
def zfp:List Fr->Int
 | []=>0
 | a :: l=>if frW a=0 then zfp l else frW a
def ZR (fs:List Fr) (h:Int):Int:=if 40<fs.length then 4 else if zfp fs=0 then(if inB h (max fs.length 1)then 0 else 3)else zfp fs
def zdz (z:Int):Bool:=decide (z<0) || decide (1000<z)
def slW (s:List Int):Int:=if 60<s.length then 4 else if s.any zdz then 3 else 0
def jo (at_:Int) (n:Nat):Bool:=decide (0<=at_) && decide (at_<n)
def zJ (n:Nat) (qs:List (Int × List Int)):Int:=if 80<n then 4 else if 400<qs.length then 4 else if qs.any (fun q=>!jo q.1 n)then 3 else 0
def zo (n:Nat) (qs:List (Int × List Int)) (m:Int):Int:=if zJ n qs=0 then(if jo m n then 0 else 3)else zJ n qs
def zx:List Int:=[0,0,0,0,0,0,0,0]
def jt (ps:List (List Int)) (qs:List (Int × List Int)) (m:Int):List Int:=
 if zo ps.length qs m=0 then(match qs.reverse.find? (fun q=>q.1 == m)with | some q=>q.2 | none=>ps.getD m.toNat zx)else zx
structure Fl where
 size:Int
 bl:List Int
def JK (n:Int):Int:=if n<1 then 0 else(n - 1) / 8+1
def Q0 (cnt:Int) (g:List Int) (b:Int):Int:=if b=-1 then 0 else if 0<=b/\b<cnt then(if g.contains b then 7 else 0)else 3
def JI (g:List Int) (b:Int):List Int:=if b=-1 then g else b :: g
def blW (cnt:Int):List Int->List Int->Int
 | _,[]=>0
 | g,b :: l=>if Q0 cnt g b=0 then blW cnt (JI g b) l else Q0 cnt g b
def blG (g:List Int) (l:List Int):List Int:=l.foldl JI g
def flW (cnt:Int) (g:List Int) (f:Fl):Int:=if 0<=f.size/\f.size<=96 then(if(f.bl.length:Int)=JK f.size then blW cnt g f.bl else 2)else 3
def zfv (cnt:Int):List Int->List Fl->Int
 | _,[]=>0
 | g,f :: l=>if flW cnt g f=0 then zfv cnt (blG g f.bl) l else flW cnt g f
def stW (fs:List Fl) (cnt:Int):Int:=if fs.length<=5/\0<=cnt/\cnt<=80 then zfv cnt [] fs else 4
def zV (fs:List Fl) (b:Int):Bool:=fs.any fun f=>f.bl.contains b
def Zc (fs:List Fl) (cnt:Int):List Nat:=(Ya cnt.toNat).filter fun b=>!zV fs (b:Int)
def znK (l:List Int) (n:Nat):List Int:=l.take n++Xs (n - l.length) (-1)
theorem zeq {n:Int} (h0:0<=n) (h1:n<=96):0<=JK n/\JK n<=12:=by
 unfold JK
 split <;> omega
theorem J7 (cnt:Int) (g:List Int) (b:Int):
  (b=-1/\Q0 cnt g b=0/\JI g b=g)\/
  (b≠-1/\¬(0<=b/\b<cnt)/\Q0 cnt g b=3)\/
  (∃i:Nat,b=(i:Int)/\b<cnt/\g.contains b=Xc/\Q0 cnt g b=7)\/
  (∃i:Nat,b=(i:Int)/\b<cnt/\g.contains b=Xd/\Q0 cnt g b=0/\JI g b=b :: g):=by
 by_cases h1:b=-1
 ·exact .inl ⟨h1,by unfold Q0;rw[kE h1],by unfold JI;rw[kE h1]⟩
 by_cases h2:0<=b/\b<cnt
 ·obtain⟨i,hi⟩:∃i:Nat,b=(i:Int):=⟨b.toNat,by omega⟩
  cases h3:g.contains b with
  | true=>exact .inr (.inr (.inl ⟨i,hi,h2.2,rfl,by unfold Q0;rw[kF h1,kE h2,kE h3]⟩))
  | false=>exact .inr (.inr (.inr ⟨i,hi,h2.2,rfl,by unfold Q0;rw[kF h1,kE h2,kF (by rw[h3];decide)],by unfold JI;rw[kF h1]⟩))
 exact .inr (.inl ⟨h1,h2,by unfold Q0;rw[kF h1,kF h2]⟩)
theorem zgA (cnt:Int) (g:List Int) (b:Int):Q0 cnt g b=0\/Q0 cnt g b=3\/Q0 cnt g b=7:=by
 rcases J7 cnt g b with⟨_,h,_⟩|⟨_,_,h⟩|⟨_,_,_,_,h⟩|⟨_,_,_,_,h,_⟩ <;> omega
theorem zfR (cnt:Int):∀(l g:List Int),blW cnt g l=0\/blW cnt g l=3\/blW cnt g l=7
 | [],g=> .inl rfl
 | b :: l,g=>by
  unfold blW
  split
  ·exact zfR cnt l _
  exact zgA cnt g b
theorem zkp (cnt:Int) (g:List Int) (f:Fl):0<=flW cnt g f/\flW cnt g f<=7:=by
 have:=zfR cnt f.bl g;unfold flW
 split
 ·split <;> omega
 omega
theorem ziA (cnt:Int):∀(l:List Fl) (g:List Int),0<=zfv cnt g l/\zfv cnt g l<=7
 | [],g=>by simp[zfv]
 | f :: l,g=>by
  unfold zfv
  split
  ·exact ziA cnt l _
  exact zkp cnt g f
def Zb (l:List Int):List Int:=l.filter (·≠-1)
theorem zdX (b:Int) (hb:b≠-1):∀(l g:List Int),b∈blG g l↔b∈g\/b∈l
 | [],g=>by simp[blG]
 | c :: l,g=>by
  have ih:=zdX b hb l (JI g c);unfold blG at ih⊢;rw[List.foldl_cons,ih];unfold JI
  split
  ·rename_i h
   simp;constructor
   ·rintro(h|h) <;> simp[h]
   rintro(h1|h1|h1)
   ·exact .inl h1
   ·exact absurd (h1.trans h) hb
   exact .inr h1
  simp;constructor
  ·rintro((h|h) | h) <;> simp[h]
  rintro(h|h|h) <;> simp[h]
theorem zbG (cnt:Int):∀(l g:List Int),blW cnt g l=0↔(∀b∈l,b=-1\/(0<=b/\b<cnt))/\(∀b∈l,b≠-1->b∉g)/\(Zb l).Nodup
 | [],g=>by simp[blW,Zb]
 | b :: l,g=>by
  unfold blW
  rcases J7 cnt g b with⟨h1,h2,h3⟩|⟨h1,h2,h3⟩|⟨i,h1,h2,h3,h4⟩|⟨i,h1,h2,h3,h4,h5⟩
  ·rw[kE h2,h3,zbG cnt l g];subst h1
   simp[Zb]
  ·rw[kF (by omega),h3]
   constructor
   ·intro h;omega
   rintro⟨h,_⟩
   rcases h b (by simp)with h|h
   ·exact absurd h h1
   exact absurd h h2
  ·rw[kF (by omega),h4]
   constructor
   ·intro h;omega
   rintro⟨_,h,_⟩;exact absurd (by simpa using h3) (h b (by simp) (by omega))
  rw[kE h4,h5,zbG cnt l (b :: g)];have hb:b≠-1:=by omega
  have hg:b∉g:=by simpa using h3
  constructor
  ·rintro⟨k1,k2,k3⟩;refine⟨fun c hc=>?_,fun c hc h=>?_,?_⟩
   ·rcases mC.1 hc with rfl|hc
    ·exact .inr ⟨by omega,h2⟩
    exact k1 c hc
   ·rcases mC.1 hc with rfl|hc
    ·exact hg
    exact fun h'=>k2 c hc h (by simp[h'])
   unfold Zb;rw[Og (by simpa using hb)]
   refine Yy.2 ⟨fun h=>?_,k3⟩
   obtain⟨h',_⟩:=Xv.1 h;exact k2 b h' hb (by simp)
  rintro⟨k1,k2,k3⟩;unfold Zb at k3;rw[Og (by simpa using hb)]at k3
  obtain⟨k4,k5⟩:=Yy.1 k3;refine⟨fun c hc=>k1 c (by simp[hc]),fun c hc h h'=>?_,k5⟩
  rcases mC.1 h' with rfl|h'
  ·exact k4 (Xv.2 ⟨hc,by simpa using hb⟩)
  exact k2 c (by simp[hc]) h h'
def znG (cnt:Int) (f:Fl):Prop:=(0<=f.size/\f.size<=96)/\(f.bl.length:Int)=JK f.size/\∀b∈f.bl,b=-1\/(0<=b/\b<cnt)
def Zo (fs:List Fl):List Int:=fs.flatMap fun f=>f.bl
theorem zmb (cnt:Int) (g:List Int) (f:Fl):flW cnt g f=0↔znG cnt f/\(∀b∈f.bl,b≠-1->b∉g)/\(Zb f.bl).Nodup:=by
 unfold flW znG;constructor
 ·intro h
  split at h
  ·rename_i h1
   split at h
   ·rename_i h2
    have:=(zbG cnt f.bl g).1 h;exact⟨⟨h1,h2,this.1⟩,this.2⟩
   omega
  omega
 rintro⟨⟨h1,h2,h3⟩,h4⟩;rw[kE h1,kE h2];exact(zbG cnt f.bl g).2 ⟨h3,h4⟩
theorem zfu (cnt:Int):∀(fs:List Fl) (g:List Int),zfv cnt g fs=0↔(∀f∈fs,znG cnt f)/\(∀b∈Zo fs,b≠-1->b∉g)/\(Zb (Zo fs)).Nodup
 | [],g=>by simp[zfv,Zo,Zb]
 | f :: l,g=>by
  unfold zfv;have key:(flW cnt g f=0/\zfv cnt (blG g f.bl) l=0)↔(∀f'∈f :: l,znG cnt f')/\(∀b∈Zo (f :: l),b≠-1->b∉g)/\(Zb (Zo (f :: l))).Nodup:=by
   rw[zmb,zfu cnt l];unfold Zo Zb;rw[Xx,Ub,List.nodup_append];constructor
   ·rintro⟨⟨h1,h2,h3⟩,h4,h5,h6⟩;refine⟨fun f' hf=>?_,fun b hb hb1=>?_,h3,h6,fun a ha b hb=>?_⟩
    ·rcases mC.1 hf with rfl|hf
     ·exact h1
     exact h4 f' hf
    ·rcases Yr.1 hb with hb|hb
     ·exact h2 b hb hb1
     exact fun h=>h5 b hb hb1 ((zdX b hb1 _ _).2 (.inl h))
    rintro rfl;obtain⟨ha1,ha2⟩:=Xv.1 ha;obtain⟨hb1,_⟩:=Xv.1 hb;have hn:a≠-1:=by simpa using ha2
    exact h5 a hb1 hn ((zdX a hn _ _).2 (.inr ha1))
   rintro⟨h1,h2,h3,h4,h5⟩;refine⟨⟨h1 f (by simp),fun b hb=>h2 b (Yr.2 (.inl hb)),h3⟩,fun f' hf=>h1 f' (by simp[hf]),fun b hb hb1 h=>?_,h4⟩
   rcases(zdX b hb1 _ _).1 h with h|h
   ·exact h2 b (Yr.2 (.inr hb)) hb1 h
   exact h5 b (Xv.2 ⟨h,by simpa using hb1⟩) b (Xv.2 ⟨hb,by simpa using hb1⟩) rfl
  split
  ·rename_i h
   rw[<-key];exact⟨fun h'=>⟨h,h'⟩,fun h'=>h'.2⟩
  rename_i h
  rw[<-key];exact⟨fun h'=>absurd h' h,fun h'=>absurd h'.1 h⟩
theorem qi (fs:List Fl) (cnt:Int):stW fs cnt=0↔(fs.length<=5/\0<=cnt/\cnt<=80)/\(∀f∈fs,znG cnt f)/\(Zb (Zo fs)).Nodup:=by
 unfold stW
 split
 ·rename_i h
  rw[zfu]
  simp[h]
 rename_i h
 simp[h]
theorem ZX (fs:List Fl) (b:Int):zV fs b=Xc↔b∈Zo fs:=by
 simp[zV,Zo]
structure En where
 kind:Int
 n:Int
 wr:Bool
def en0:En:=⟨0,0,Xd⟩
def enS (e:En):Bool:=e.kind != 0
def enW (e:En):Int:=
 if 0<=e.kind/\e.kind<=2 then
  (if 0<=e.n/\e.n<=59/\(e.kind=1->e.n<=39)then
   (if(e.kind=0/\(e.n≠0\/e.wr=Xc))\/(e.kind=2/\e.wr=Xc)then 7 else 0)
  else 3)
 else 1
def esW:List En->Int
 | []=>0
 | e :: l=>if enW e=0 then esW l else enW e
def zbk (l:List En):Bool:=l.any enS
def haW (h:List En):Int:=if h.length=0 then 0 else if h.length=8 then(if esW h=0 then(if zbk h=Xc then 0 else 2)else esW h)else 2
def tbW:List (List En)->Int
 | []=>0
 | h :: t=>if haW h=0 then tbW t else haW h
def zdo (t:List (List En)) (i k:Nat):En:=((t[i]?.getD [])[k]?).getD en0
def zdn (t:List (List En)) (n:Int):En:=if 0<=n/\n<64 then zdo t (n.toNat / 8) (n.toNat % 8)else en0
def mk (l:List En):List En:=if zbk l=Xc then l else []
def zae (h:List En):List En:=if h.length=0 then Xs 8 en0 else h
def zi7 (t:List (List En)) (n:Nat) (e:En):List (List En):=t.set (n / 8) (mk ((zae (t[n / 8]?.getD [])).set (n % 8) e))
def zeS (t:List (List En)) (n:Int) (e:En):Int:=if tbW t=0 then(if 0<=n/\n<64 then enW e else 3)else tbW t
def qL:List (List En):=Xs 8 []
def zeR (t:List (List En)) (n:Int) (e:En):List (List En):=if zeS t n e=0 then zi7 t n.toNat e else qL
def ZU (l:List En) (i:Nat):List En:=(Ya 8).map fun k=>l[8*i+k]?.getD en0
def Za (l:List En):List (List En):=(Ya 8).map fun i=>mk (ZU l i)
def qS (t:List (List En)) (f:En->Bool) (m:Nat):List Int:=((Ya m).filter fun n=>enS (zdo t (n / 8) (n % 8)) && f (zdo t (n / 8) (n % 8))).map fun(n:Nat)=>(n:Int)
theorem zaG {e:En} (h:enW e=0):(0<=e.kind/\e.kind<=2)/\(0<=e.n/\e.n<=59/\(e.kind=1->e.n<=39))/\¬((e.kind=0/\(e.n≠0\/e.wr=Xc))\/(e.kind=2/\e.wr=Xc)):=by
 unfold enW at h
 by_cases h1:0<=e.kind/\e.kind<=2
 ·rw[kE h1]at h
  by_cases h2:0<=e.n/\e.n<=59/\(e.kind=1->e.n<=39)
  ·rw[kE h2]at h
   by_cases h3:(e.kind=0/\(e.n≠0\/e.wr=Xc))\/(e.kind=2/\e.wr=Xc)
   ·rw[kE h3]at h;omega
   exact⟨h1,h2,h3⟩
  rw[kF h2]at h;omega
 rw[kF h1]at h;omega
theorem zbg {e:En} (h1:0<=e.kind/\e.kind<=2) (h2:0<=e.n/\e.n<=59/\(e.kind=1->e.n<=39)) (h3:¬((e.kind=0/\(e.n≠0\/e.wr=Xc))\/(e.kind=2/\e.wr=Xc))):enW e=0:=by
 unfold enW;rw[kE h1,kE h2,kF h3]
theorem zkC:enW en0=0:=by decide
theorem zkA {e:En} (h:enW e=0) (hs:enS e=Xd):e=en0:=by
 obtain⟨h1,h2,h3⟩:=zaG h;obtain⟨k,n,w⟩:=e
 simp[enS]at hs
 subst hs
 simp at h3
 obtain⟨rfl,h4⟩:=h3;cases w
 ·rfl
 simp at h4
theorem zhD {l:List En}:esW l=0↔∀e∈l,enW e=0:=by
 induction l with
 | nil=>simp[esW]
 | cons e l ih=>
  unfold esW
  by_cases h:enW e=0
  ·rw[kE h,ih]
   simp[h]
  rw[kF h]
  simp[h]
def zg4 (h:List En):Prop:=h=[]\/(h.length=8/\(∀e∈h,enW e=0)/\zbk h=Xc)
theorem zhv {h:List En}:haW h=0↔zg4 h:=by
 unfold haW zg4
 by_cases h0:h.length=0
 ·rw[kE h0];have:h=[]:=Yt.1 h0
  simp[this]
 have hn:h≠[]:=fun e=>h0 (by rw[e];rfl)
 rw[kF h0]
 by_cases h8:h.length=8
 ·rw[kE h8]
  by_cases h1:esW h=0
  ·rw[kE h1];have h2:=zhD.1 h1
   by_cases h3:zbk h=Xc
   ·rw[kE h3]
    simp[h8,h3,hn]
    exact h2
   rw[kF h3]
   simp[hn,h3]
  rw[kF h1];simp only[h1,hn,false_or,false_iff];exact fun h=>h1 (zhD.2 h.2.1)
 rw[kF h8]
 simp[hn,h8]
theorem QB {t:List (List En)}:tbW t=0↔∀h∈t,zg4 h:=by
 induction t with
 | nil=>simp[tbW]
 | cons h t ih=>
  unfold tbW
  by_cases h0:haW h=0
  ·rw[kE h0,ih]
   simp[zhv.1 h0]
  rw[kF h0];simp only[h0,mC,forall_eq_or_imp,false_iff];exact fun hh=>h0 (zhv.2 hh.1)
structure zcJ (t:List (List En)):Prop where
 len:t.length=8
 ok:∀h∈t,zg4 h
theorem zcJ.half {t:List (List En)} (h:zcJ t) (i:Nat):zg4 (t[i]?.getD []):=by
 cases hq:t[i]? with
 | none=>exact .inl rfl
 | some x=>exact h.ok x (mG hq)
theorem zg4.get {h:List En} (hh:zg4 h) (k:Nat):enW (h[k]?.getD en0)=0:=by
 rcases hh with rfl|⟨_,h2,_⟩
 ·exact zkC
 cases hq:h[k]? with
 | none=>exact zkC
 | some x=>exact h2 x (mG hq)
theorem zej {h:List En} (hh:zg4 h):(zae h).length=8:=by
 unfold zae
 rcases hh with rfl|⟨h1,_⟩
 ·rfl
 rw[kF (by omega)]
 exact h1
theorem zni (h:List En) (hh:zg4 h) {k:Nat} (hk:k<8):(zae h)[k]? =Xa (h[k]?.getD en0):=by
 unfold zae
 rcases hh with rfl|⟨h1,_⟩
 ·rw[kE (show([]:List En).length=0 from rfl),Oh,kE hk]
  rfl
 rw[kF (by omega),gE (by omega)]
 rfl
theorem zl3 (h:List En) (k:Nat):(zae h)[k]?.getD en0=h[k]?.getD en0:=by
 unfold zae
 by_cases h0:h.length=0
 ·rw[kE h0];have:h=[]:=Yt.1 h0;subst this;rw[Oh]
  split <;> rfl
 rw[kF h0]
theorem zmG (l:List En) (hl:∀e∈l,enW e=0) (k:Nat):(mk l)[k]?.getD en0=l[k]?.getD en0:=by
 unfold mk
 by_cases h:zbk l=Xc
 ·rw[kE h]
 rw[kF h]
 cases hq:l[k]? with
 | none=>simp
 | some x=>
  have hm:=mG hq;have:enS x=Xd:=by
   cases hs:enS x with
   | false=>rfl
   | true=>exact absurd (Yq.2 ⟨x,hm,hs⟩) h
  simp[zkA (hl x hm) this]
theorem znR {l:List En} (h8:l.length=8) (hl:∀e∈l,enW e=0):zg4 (mk l):=by
 unfold mk
 by_cases h:zbk l=Xc
 ·rw[kE h];exact .inr ⟨h8,hl,h⟩
 rw[kF h];exact .inl rfl
theorem zm6 {h:List En} (hh:zg4 h):mk (zae h)=h:=by
 unfold mk zae
 rcases hh with rfl|⟨h1,_,h3⟩
 ·rfl
 rw[kF (show¬h.length=0 by omega),kE h3]
theorem zdp {h:List En} (hh:zg4 h):∀e∈zae h,enW e=0:=fun e he=>by
 unfold zae at he
 rcases hh with rfl|⟨h1,h2,_⟩
 ·simp at he
  rw[he];exact zkC
 rw[kF (by omega)]at he
 exact h2 e he
theorem zeQ {l:List En} {k:Nat} {e:En} (hl:∀x∈l,enW x=0) (he:enW e=0):∀x∈l.set k e,enW x=0:=fun x hx=>by
 rcases Oc hx with h|h
 ·exact hl x h
 rw[h];exact he
theorem zm0 {t:List (List En)} (h:zcJ t) {n:Nat} {e:En} (he:enW e=0):zcJ (zi7 t n e):=by
 refine⟨by simp[zi7,h.len],fun x hx=>?_⟩
 rcases Oc hx with h1|h1
 ·exact h.ok x h1
 rw[h1];have hh:=h.half (n / 8);exact znR (by rw[Ys];exact zej hh) (zeQ (zdp hh) he)
theorem zl2 {t:List (List En)} (h:zcJ t) {n:Nat} (hn:n<64) {e:En} (he:enW e=0) (i k:Nat) (hk:k<8):zdo (zi7 t n e) i k=if i=n / 8/\k=n % 8 then e else zdo t i k:=by
 unfold zdo zi7;have hh:=h.half (n / 8)
 by_cases hi:i=n / 8
 ·subst hi;rw[sF (by rw[h.len];omega)]
  simp only[Option.getD_some];rw[zmG _ (zeQ (zdp hh) he)]
  by_cases hk':k=n % 8
  ·subst hk';rw[sF (by rw[zej hh];exact hk)]
   simp
  rw[sN (fun h=>hk' h.symm),kF (fun h=>hk' h.2)]
  exact zl3 _ k
 rw[sN (fun h=>hi h.symm),kF (fun h=>hi h.1)]
theorem ziS {l:List En} {h:List En} (hh:zg4 h) {i:Nat} (hl:∀k,k<8->l[8*i+k]? =Xa (h[k]?.getD en0)):ZU l i=zae h:=by
 apply Yc
 intro k
 by_cases hk:k<8
 ·unfold ZU;rw[Uf,Oy hk,zni h hh hk]
  simp[hl k hk]
 rw[gN (by simp[ZU];omega),gN (by rw[zej hh];omega)]
theorem zhW {l:List En} {t:List (List En)} (h:zcJ t) (hl:∀j,j<64->l[j]? =Xa (zdo t (j / 8) (j % 8))):Za l=t:=by
 apply Yc
 intro i
 by_cases hi:i<8
 ·unfold Za;rw[Uf,Oy hi];obtain⟨x,hx⟩:∃x,t[i]? =Xa x:=⟨_,gE (by rw[h.len];omega)⟩
  have hh:=h.half i;rw[hx]at hh⊢;simp only[Option.getD_some]at hh;have:ZU l i=zae x:=ziS hh (fun k hk=>by
   rw[hl _ (by omega),show(8*i+k) / 8=i by omega,show(8*i+k) % 8=k by omega]
   unfold zdo;rw[hx]
   rfl)
  simp[this,zm6 hh]
 rw[gN (by simp[Za];omega),gN (by rw[h.len];omega)]
theorem Q9 (t:List (List En)) (f:En->Bool) (m:Nat):qS t f (m+1)=if enS (zdo t (m / 8) (m % 8)) && f (zdo t (m / 8) (m % 8))then qS t f m++ [(m:Int)]else qS t f m:=by
 unfold qS;rw[List.range_succ,Ub,List.map_append]
 split
 ·rename_i h
  simp[h]
 rename_i h
 simp[h]
theorem J0 (t:List (List En)) (f:En->Bool):∀m,(qS t f m).length<=m
 | 0=>by simp[qS]
 | m+1=>by
  rw[Q9];have:=J0 t f m
  split
  ·simp;omega
  omega
structure Ar where
 fr:Int
 tz:Int
 rd:Bool
 wr:Bool
 sh:Bool
 file:Int
 base:Int
structure On where
 is:Bool
 rd:Bool
 wr:Bool
 sh:Bool
 file:Int
 page:Int
def on0:On:=⟨Xd,Xd,Xd,Xd,0,0⟩
def ar0:Ar:=⟨0,0,Xd,Xd,Xd,0,0⟩
def jA (a:Ar):Prop:=0<=a.fr/\a.fr<a.tz/\a.tz<=64/\-1<=a.file/\a.file<5/\0<=a.base/\(a.file<0->a.base=0/\a.sh=Xd)/\(0<=a.file->a.base<=12 -(a.tz - a.fr))
def arW (a:Ar):Int:=
 if a.fr<0\/a.tz<=a.fr\/64<a.tz\/a.file< -1\/5<=a.file\/a.base<0 then 3
 else if a.file<0 then(if a.base≠0\/a.sh=Xc then 7 else 0)
 else if 12 -(a.tz - a.fr)<a.base then 7 else 0
theorem ZD {a:Ar}:arW a=0↔jA a:=by
 unfold arW jA;obtain⟨fr,tz,rd,wr,sh,file,base⟩:=a;simp only;constructor
 ·intro h
  (repeat' split at h) <;> first | omega | skip
  rename_i h1 h2 h3
  cases sh
  ·simp at h3⊢
   omega
  simp at h3
 intro⟨h1,h2,h3,h4,h5,h6,h7,h8⟩;rw[kF (by omega)]
 by_cases h9:file<0
 ·rw[kE h9,kF (by rintro(h | h);exact h (h7 h9).1;rw[(h7 h9).2]at h;cases h)]
 rw[kF h9,kF (by omega)]
def goB (a b:Ar):Bool:=decide (a.fr=b.tz) &&(a.rd == b.rd) &&(a.wr == b.wr) &&(a.sh == b.sh) && decide (a.file=b.file) && decide (a.base=if 0<=b.file then b.base+(b.tz - b.fr)else b.base)
theorem zcp {a b:Ar}:goB a b=Xc↔a.fr=b.tz/\a.rd=b.rd/\a.wr=b.wr/\a.sh=b.sh/\a.file=b.file/\a.base=if 0<=b.file then b.base+(b.tz - b.fr)else b.base:=by
 simp[goB,and_assoc]
def znz (b a:Ar):Prop:=b.tz<=a.fr/\goB a b=Xd
def ZT:Option Ar->List Ar->Prop
 | _,[]=>True
 | p,a :: l=>jA a/\(∀b,p=Xa b->znz b a)/\ZT (Xa a) l
def Zf (a:Ar) (n:Nat):Bool:=decide (a.fr<=(n:Int)) && decide ((n:Int)<a.tz)
theorem qd {a:Ar} {n:Nat}:Zf a n=Xc↔a.fr<=(n:Int)/\(n:Int)<a.tz:=by simp[Zf]
theorem zcH {a:Ar} {n:Nat} (h:¬(a.fr<=(n:Int)/\(n:Int)<a.tz)):Zf a n=Xd:=by
 cases hb:Zf a n with
 | false=>rfl
 | true=>exact absurd (qd.1 hb) h
def qp (a:Ar) (n:Nat):On:=⟨Xc,a.rd,a.wr,a.sh,a.file,if 0<=a.file then a.base+((n:Int) - a.fr)else 0⟩
def zO:List Ar->Nat->On
 | [],_=>on0
 | a :: l,n=>if Zf a n=Xc then qp a n else zO l n
def JS (n:Nat) (x:On):Ar:=if x.is=Xc then⟨n,n+1,x.rd,x.wr,x.sh,x.file,x.page⟩else ar0
theorem ZT.low:∀{l:List Ar} {p:Option Ar} {a:Ar} {n:Nat},ZT p l->p=Xa a->(n:Int)<a.tz->zO l n=on0
 | [],_,_,_,_,_,_=>rfl
 | b :: l,p,a,n,h,hp,hn=>by
  have h1:=h.2.1 a hp;have h2:=h.1;unfold znz at h1;unfold jA at h2;unfold zO;rw[kF (by rw[qd];omega)]
  exact h.2.2.low rfl (by omega)
theorem ZT.head {l:List Ar} {p:Option Ar} {a:Ar} {n:Nat} (h:ZT p (a :: l)) (hn:(n:Int)<a.fr):zO (a :: l) n=on0:=by
 have h2:=h.1;unfold jA at h2;unfold zO;rw[kF (by rw[qd];omega)]
 exact h.2.2.low rfl (by omega)
theorem QE {a:Ar} {l:List Ar} {n:Nat} (h:a.fr<=(n:Int)) (h':(n:Int)<a.tz):zO (a :: l) n=qp a n:=by
 unfold zO;rw[kE (by rw[qd];omega)]
theorem zar {a:Ar} {l:List Ar} {n:Nat} (h:(n:Int)<a.fr\/a.tz<=(n:Int)):zO (a :: l) n=zO l n:=by
 rw[zO,kF (by rw[qd];omega)]
theorem zhk (a:Ar) (n:Nat):(qp a n).is=Xc:=rfl
theorem ze7 {a:Ar} {n:Nat} (h:qp a n=on0):False:=by
 have:=congrArg On.is h
 simp[on0,qp]at this
theorem ZT.next {l:List Ar} {a b:Ar} {n:Nat} (h:ZT (Xa a) l) (hn:(n:Int)=a.tz) (hb:zO l n=qp b n):∃c m,l=c :: m/\c.fr=(n:Int)/\qp c n=qp b n/\znz a c:=by
 cases l with
 | nil=>exact(ze7 hb.symm).elim
 | cons c m=>
  have h1:=h.2.1 a rfl;have h3:=h.1;unfold jA at h3
  by_cases h2:(n:Int)<c.fr
  ·rw[h.head h2]at hb;exact(ze7 hb.symm).elim
  have:c.fr=(n:Int):=by unfold znz at h1;omega
  rw[QE (by omega) (by omega)]at hb
  exact⟨c,m,rfl,this,hb,h1⟩
theorem zhl {a b:Ar} {n:Nat} (h:qp a n=qp b n):a.rd=b.rd/\a.wr=b.wr/\a.sh=b.sh/\a.file=b.file/\(0<=a.file->a.base+((n:Int) - a.fr)=b.base+((n:Int) - b.fr)):=by
 unfold qp at h;simp only[On.mk.injEq,true_and]at h;obtain⟨h1,h2,h3,h4,h5⟩:=h;refine⟨h1,h2,h3,h4,fun h6=>?_⟩
 rw[kE h6,kE (by omega)]at h5
 exact h5
theorem zmM {p:Option Ar} {l m:List Ar} {a b:Ar} (ha:ZT p (a :: l)) (hb:ZT p (b :: m)) (he:∀n:Nat,n<64->zO (a :: l) n=zO (b :: m) n) (hf:a.fr=b.fr) (h1:a.rd=b.rd/\a.wr=b.wr/\a.sh=b.sh/\a.file=b.file/\a.base=b.base):¬a.tz<b.tz:=by
 intro hlt;have h2:=ha.1;have h3:=hb.1;unfold jA at h2 h3;obtain⟨n,hn⟩:∃n:Nat,(n:Int)=a.tz:=⟨a.tz.toNat,by omega⟩
 have h4:=he n (by omega)
 rw[zar (by omega),QE (a:=b) (by omega) (by omega)]at h4
 obtain⟨c,k,rfl,h5,h6,h7⟩:=ha.2.2.next hn h4;obtain⟨g1,g2,g3,g4,g5⟩:=zhl h6;have h8:=ha.2.2.1;unfold jA at h8;have:goB c a=Xc:=by
  rw[zcp];refine⟨by omega,by rw[g1,h1.1],by rw[g2,h1.2.1],by rw[g3,h1.2.2.1],by omega,?_⟩
  split <;> omega
 rw[h7.2]at this;cases this
theorem zgR:∀{l m:List Ar} {p:Option Ar},ZT p l->ZT p m->(∀n:Nat,n<64->zO l n=zO m n)->l=m
 | [],[],_,_,_,_=>rfl
 | [],b :: m,_,_,hm,he=>by
  have h3:=hm.1;unfold jA at h3;have:=he b.fr.toNat (by omega)
  rw[QE (a:=b) (by omega) (by omega)]at this
  exact(ze7 this.symm).elim
 | a :: l,[],_,hl,_,he=>by
  have h3:=hl.1;unfold jA at h3;have:=he a.fr.toNat (by omega)
  rw[QE (a:=a) (by omega) (by omega)]at this
  exact(ze7 this).elim
 | a :: l,b :: m,p,hl,hm,he=>by
  have h2:=hl.1;have h3:=hm.1;unfold jA at h2 h3;have hf:a.fr=b.fr:=by
   rcases Int.lt_trichotomy a.fr b.fr with h|h|h
   ·have:=he a.fr.toNat (by omega)
    rw[QE (a:=a) (by omega) (by omega),hm.head (by omega)]at this
    exact(ze7 this).elim
   ·exact h
   have:=he b.fr.toNat (by omega)
   rw[QE (a:=b) (by omega) (by omega),hl.head (by omega)]at this
   exact(ze7 this.symm).elim
  have h4:=he a.fr.toNat (by omega)
  rw[QE (a:=a) (by omega) (by omega),QE (a:=b) (by omega) (by omega)]at h4
  obtain⟨g1,g2,g3,g4,g5⟩:=zhl h4;have hb:a.base=b.base:=by
   rcases Int.lt_or_le a.file 0 with h|h
   ·omega
   have:=g5 h;omega
  have ht:a.tz=b.tz:=by
   have t1:=zmM hl hm he hf ⟨g1,g2,g3,g4,hb⟩;have t2:=zmM hm hl (fun n hn=>(he n hn).symm) hf.symm ⟨g1.symm,g2.symm,g3.symm,g4.symm,hb.symm⟩
   omega
  have hab:a=b:=by
   obtain⟨_,_,_,_,_,_,_⟩:=a;obtain⟨_,_,_,_,_,_,_⟩:=b;simp only at hf ht g1 g2 g3 g4 hb;subst hf ht g1 g2 g3 g4 hb;rfl
  subst hab;have:l=m:=zgR hl.2.2 hm.2.2 fun n hn=>by
   by_cases h:(n:Int)<a.tz
   ·rw[hl.2.2.low rfl h,hm.2.2.low rfl h]
   have:=he n hn;rw[zar (by omega),zar (by omega)]at this
   exact this
  rw[this]
def Jd (p:Option Ar) (l:List Ar):Option Ar:=match l.getLast? with | some b=>Xa b | none=>p
theorem zaX (p:Option Ar) (a:Ar) (l:List Ar):Jd p (a :: l)=Jd (Xa a) l:=by
 unfold Jd
 cases l with
 | nil=>simp
 | cons b m=>simp[Uc]
theorem Jo {x:Ar}:∀{l:List Ar} {p:Option Ar},ZT p (l++ [x])↔ZT p l/\jA x/\∀b,Jd p l=Xa b->znz b x
 | [],p=>by simp[ZT,Jd]
 | a :: l,p=>by
  simp only[List.cons_append,ZT,zaX,Jo (l:=l) (p:=some a),and_assoc]
theorem Ja {x:Ar} {n:Nat}:∀{l:List Ar},zO l n=on0\/Zf x n=Xd->zO (l++ [x]) n=if Zf x n=Xc then qp x n else zO l n
 | [],_=>by simp[zO]
 | a :: l,h=>by
  simp only[List.cons_append,zO]
  by_cases h1:Zf a n=Xc
  ·rcases h with h|h
   ·rw[zO,kE h1]at h;exact(ze7 h).elim
   simp[h1,h]
  rw[kF h1,kF h1];exact Ja (h.imp (fun h=>by rwa [zO,kF h1]at h) id)
theorem zas {n:Nat}:∀{l:List Ar},(∀a∈l,Zf a n=Xd)->zO l n=on0
 | [],_=>rfl
 | a :: l,h=>by
  rw[zO,kF (by rw[h a (by simp)];simp)]
  exact zas fun b hb=>h b (by simp[hb])
theorem Qm {n:Nat}:∀{l:List Ar},(zO l n).is=Xc->∃(i:Nat) (a:Ar),l[i]? =Xa a/\Zf a n=Xc/\zO l n=qp a n
 | [],h=>by cases h
 | a :: l,h=>by
  by_cases h1:Zf a n=Xc
  ·exact⟨0,a,rfl,h1,by rw[zO,kE h1]⟩
  rw[zO,kF h1]at h;obtain⟨i,b,h2,h3,h4⟩:=Qm h;exact⟨i+1,b,h2,h3,by rw[zO,kF h1,h4]⟩
theorem zdS {n:Nat}:∀{l:List Ar},(zO l n).is=Xd->zO l n=on0
 | [],_=>rfl
 | a :: l,h=>by
  by_cases h1:Zf a n=Xc
  ·rw[zO,kE h1]at h;cases h
  rw[zO,kF h1]at h⊢;exact zdS h
theorem ZT.all {l:List Ar}:∀{p:Option Ar},ZT p l->∀a∈l,jA a:=by
 induction l with
 | nil=>intro p _ a ha;cases ha
 | cons b l ih=>
  intro p h x hx
  rcases mC.1 hx with e|hx
  ·rw[e];exact h.1
  exact ih h.2.2 _ hx
def zf2 (f:Nat->On):Prop:=∀k:Nat,k<64->((f k).is=Xd->f k=on0)/\((f k).is=Xc->jA (JS k (f k)))
theorem Jz {a:Ar} {n:Nat} (h:jA a) (hn:Zf a n=Xc):jA (JS n (qp a n)):=by
 have:=qd.1 hn;unfold jA at h⊢;unfold JS;rw[kE (zhk a n)];unfold qp;refine⟨by simp,by simp;omega,by simp;omega,h.2.2.2.1,h.2.2.2.2.1,?_,fun h1=>⟨?_,(h.2.2.2.2.2.2.1 h1).2⟩,fun h1=>?_⟩
 ·simp only
  split <;> omega
 ·simp only at h1⊢;rw[kF (by omega)]
 simp only at h1⊢;rw[kE h1];omega
theorem ZT.good {l:List Ar} {p:Option Ar} (h:ZT p l):zf2 (zO l):=fun k _=>⟨zdS,fun h1=>by
 obtain⟨i,a,h2,h3,h4⟩:=Qm h1;rw[h4];exact Jz (h.all a (mG h2)) h3⟩
def J (f:Nat->On) (n:Nat) (acc:List Ar):Prop:=ZT Xb acc/\(∀a∈acc,a.tz<=(n:Int))/\∀k:Nat,zO acc k=if k<n then f k else on0
theorem J.zero (f:Nat->On):J f 0 []:=⟨trivial,by simp,fun k=>by simp[zO]⟩
theorem J.skip {f:Nat->On} {n:Nat} {acc:List Ar} (h:J f n acc) (h0:f n=on0):J f (n+1) acc:=by
 refine⟨h.1,fun a ha=>by have:=h.2.1 a ha;omega,fun k=>?_⟩
 rw[h.2.2 k]
 by_cases h1:k<n
 ·rw[kE h1,kE (by omega)]
 rw[kF h1]
 by_cases h2:k=n
 ·subst h2;rw[kE (by omega),h0]
 rw[kF (by omega)]
theorem zmy (n:Nat) (x:On) (h:x.is=Xc) (hp:x.file<0->x.page=0):qp (JS n x) n=x:=by
 unfold JS;rw[kE h];unfold qp;obtain⟨_,_,_,_,_,_⟩:=x;simp only at h hp⊢;subst h;simp only[On.mk.injEq,true_and]
 split
 ·omega
 exact(hp (by omega)).symm
theorem zgZ {n k:Nat} {x:On} (h:x.is=Xc):Zf (JS n x) k=Xc↔k=n:=by
 rw[qd];unfold JS;rw[kE h];simp only;omega
theorem J.new {f:Nat->On} {n:Nat} {acc:List Ar} (h:J f n acc) (hg:zf2 f) (hn:n<64) (hs:(f n).is=Xc) (hl:∀b,acc.getLast? =Xa b->goB (JS n (f n)) b=Xd):J f (n+1) (acc++ [JS n (f n)]):=by
 have hok:=(hg n hn).2 hs;have hone:qp (JS n (f n)) n=f n:=zmy n _ hs fun hf=>by
  unfold jA JS at hok;rw[kE hs]at hok;exact(hok.2.2.2.2.2.2.1 hf).1
 refine⟨Jo.2 ⟨h.1,hok,fun b hb=>?_⟩,fun a ha=>?_,fun k=>?_⟩
 ·have hb':acc.getLast? =Xa b:=by
   unfold Jd at hb
   split at hb
   ·rename_i h1;rw[h1];exact hb
   cases hb
  refine⟨?_,hl b hb'⟩;have:=h.2.1 b (Yp hb');unfold JS;rw[kE hs];exact this
 ·rcases Yr.1 ha with ha|ha
  ·have:=h.2.1 a ha;omega
  rw[Ud]at ha;subst ha;unfold JS;rw[kE hs];simp
 have h1:=h.2.2 k;rw[Ja]
 ·by_cases e:k=n
  ·subst e;rw[kE ((zgZ hs).2 rfl),kE (by omega),hone]
  rw[kF (fun h2=>e ((zgZ hs).1 h2)),h1]
  by_cases h3:k<n
  ·rw[kE h3,kE (by omega)]
  rw[kF h3,kF (by omega)]
 by_cases e:k=n
 ·left;rw[h1,kF (by omega)]
 right
 cases h4:Zf (JS n (f n)) k with
 | false=>rfl
 | true=>exact absurd ((zgZ hs).1 h4) e
theorem J.ext {f:Nat->On} {n:Nat} {i:List Ar} {b:Ar} (h:J f n (i++ [b])) (hg:zf2 f) (hn:n<64) (hs:(f n).is=Xc) (hgo:goB (JS n (f n)) b=Xc):J f (n+1) (i++ [{ b with tz:=(n:Int)+1 }]):=by
 have hok:=(hg n hn).2 hs;obtain⟨h1,h2,h3⟩:=h;obtain⟨c1,c2,c3⟩:=Jo.1 h1;have hgo':=zcp.1 hgo;unfold JS at hgo' hok;rw[kE hs]at hgo' hok;simp only at hgo';obtain⟨g1,g2,g3,g4,g5,g6⟩:=hgo';have c2':=c2;unfold jA at c2' hok;simp only at hok;have hlow:∀k:Nat,b.fr<=(k:Int)->zO i k=on0:=fun k hk=>by
  refine zas fun a ha=>zcH ?_
  have:a.tz<=b.fr:=by
   have hstep:∀(l:List Ar) (p:Option Ar),ZT p l->∀x∈l,∀y,Jd p l=Xa y->x.tz<=y.tz:=by
    intro l
    induction l with
    | nil=>intro p _ x hx;cases hx
    | cons c m ih=>
     intro p hc x hx y hy;rw[zaX]at hy
     rcases mC.1 hx with rfl|hx
     ·cases m with
      | nil=>simp[Jd]at hy;subst hy;exact Int.le_refl _
      | cons d k'=>
       have q1:=ih (Xa x) hc.2.2 d (by simp) y hy
       have q2:=hc.2.2.2.1 x rfl;have q3:=hc.2.2.1;unfold znz at q2;unfold jA at q3;omega
     exact ih (Xa c) hc.2.2 x hx y hy
   cases hlast:Jd Xb i with
   | none=>
    unfold Jd at hlast
    cases i with
    | nil=>cases ha
    | cons _ _=>simp[Uc]at hlast
   | some y=>
    have q1:=hstep i Xb c1 a ha y hlast;have q2:=(c3 y hlast).1;omega
  omega
 refine⟨Jo.2 ⟨c1,?_,fun y hy=>?_⟩,fun a ha=>?_,fun k=>?_⟩
 ·unfold jA;simp only;refine⟨by omega,by omega,by omega,by omega,by omega,by omega,fun h=>c2'.2.2.2.2.2.2.1 h,fun h=>?_⟩
  rw[kE h]at g6;omega
 ·exact⟨(c3 y hy).1,(c3 y hy).2⟩
 ·rcases Yr.1 ha with ha|ha
  ·have:=h2 a (by simp[ha]);omega
  rw[Ud]at ha;subst ha;simp
 have e1:=h3 k;rw[Ja (by
  by_cases hk:b.fr<=(k:Int)
  ·exact .inl (hlow k hk)
  exact .inr (zcH (by omega)))]at e1
 rw[Ja (by
  by_cases hk:b.fr<=(k:Int)
  ·exact .inl (hlow k hk)
  exact .inr (zcH (by simp only;omega)))]
 by_cases hk:k=n
 ·subst hk;rw[kE (by rw[qd];simp only;omega),kE (by omega)]
  unfold qp;simp only;have hx:=hok.2.2.2.2.2.2.1
  revert hs g2 g3 g4 g5 g6 hx
  generalize f k=x
  obtain⟨_,_,_,_,_,_⟩:=x;intro hs g2 g3 g4 g5 g6 hx;simp only at hs g2 g3 g4 g5 g6 hx⊢;subst hs g2 g3 g4;simp only[On.mk.injEq,true_and];refine⟨g5.symm,?_⟩
  split
  ·rename_i h;rw[kE h]at g6;omega
  exact(hx (by omega)).1.symm
 have e2:Zf { b with tz:=(n:Int)+1 } k=Zf b k:=by
  unfold Zf;simp only
  congr 1
  apply decide_eq_decide.2
  omega
 rw[e2];have e3:qp { b with tz:=(n:Int)+1 } k=qp b k:=rfl;rw[e3,e1]
 by_cases h5:k<n
 ·rw[kE h5,kE (by omega)]
 rw[kF h5,kF (by omega)]
def zd4 (f:Nat->On):Nat->List Ar
 | 0=>[]
 | n+1=>
  if(f n).is=Xc then
   match(zd4 f n).getLast? with
   | some b=>if goB (JS n (f n)) b=Xc then(zd4 f n).dropLast++ [{ b with tz:=(n:Int)+1 }]else zd4 f n++ [JS n (f n)]
   | none=>zd4 f n++ [JS n (f n)]
  else zd4 f n
theorem zgg {l:List Ar} {b:Ar} (h:l.getLast? =Xa b):l=l.dropLast++ [b]:=by
 cases l with
 | nil=>cases h
 | cons a m=>
  rw[List.getLast?_eq_some_getLast (List.cons_ne_nil a m)]at h;cases h;exact(List.dropLast_concat_getLast _).symm
theorem zj2 {f:Nat->On} (hg:zf2 f):∀n:Nat,n<=64->J f n (zd4 f n)
 | 0,_=>J.zero f
 | n+1,hn=>by
  have ih:=zj2 hg n (by omega)
  unfold zd4
  by_cases hs:(f n).is=Xc
  ·rw[kE hs]
   cases hl:(zd4 f n).getLast? with
   | none=>exact ih.new hg (by omega) hs (fun b hb=>by rw[hl]at hb;cases hb)
   | some b=>
    simp only
    by_cases hgo:goB (JS n (f n)) b=Xc
    ·rw[kE hgo];rw[zgg hl]at ih;exact ih.ext hg (by omega) hs hgo
    rw[kF hgo];refine ih.new hg (by omega) hs (fun c hc=>?_)
    rw[hl]at hc;cases hc
    simpa using hgo
  rw[kF hs];exact ih.skip ((hg n (by omega)).1 (by simpa using hs))
def Zk (f:Nat->On):List Ar:=zd4 f 64
theorem zcg {f:Nat->On} (hg:zf2 f):J f 64 (Zk f):=zj2 hg 64 (nR _)
theorem J.all {f:Nat->On} {acc:List Ar} (h:J f 64 acc) (hg:zf2 f):acc=Zk f:=
 zgR h.1 (zcg hg).1 fun n _=>by rw[h.2.2,(zcg hg).2.2]
theorem zfk {f:Nat->On} (hg:zf2 f):ZT Xb (Zk f):=(zcg hg).1
theorem zd5 {f:Nat->On} (hg:zf2 f) {k:Nat} (hk:k<64):zO (Zk f) k=f k:=by rw[(zcg hg).2.2,kE hk]
theorem zhs {f:Nat->On} {l:List Ar} (hg:zf2 f) (hl:ZT Xb l) (he:∀k,k<64->f k=zO l k):Zk f=l:=
 zgR (zfk hg) hl fun n hn=>by rw[zd5 hg hn,he n hn]
theorem J.len {f:Nat->On} {n:Nat} {acc:List Ar} (h:J f n acc):acc.length<=n:=by
 have key:∀(l:List Ar) (p:Option Ar) (c:Int),ZT p l->(∀b,p=Xa b->c<=b.tz)->(p=Xb->c<=0)->(∀a∈l,a.tz<=(n:Int))->c<=n->c+l.length<=n:=by
  intro l
  induction l with
  | nil=>intro p c _ _ _ _ hc;simpa using hc
  | cons a l ih=>
   intro p c hl hp hp0 ha hc;have h1:=hl.1;unfold jA at h1;have h2:c<=a.fr:=by
    cases p with
    | none=>have:=hp0 rfl;omega
    | some b=>have:=hp b rfl;have:=(hl.2.1 b rfl).1;omega
   have h3:=ih (Xa a) (c+1) hl.2.2 (fun b hb=>by cases hb;omega) (fun hb=>by cases hb) (fun x hx=>ha x (by simp[hx])) (by have:=ha a (by simp);omega)
   rw[Yw];omega
 have:=key acc Xb 0 h.1 (fun b hb=>by cases hb) (fun _=>by omega) h.2.1 (by omega)
 omega
def goJ (x y:On):Bool:=y.is == x.is && y.rd == x.rd && y.wr == x.wr && y.sh == x.sh && decide (y.file=x.file) && decide ((if 0<=x.file then y.page+1 else y.page)=x.page)
theorem zkd {x y:On}:goJ x y=Xc↔y.is=x.is/\y.rd=x.rd/\y.wr=x.wr/\y.sh=x.sh/\y.file=x.file/\(if 0<=x.file then y.page+1 else y.page)=x.page:=by
 simp[goJ,and_assoc]
theorem zd3:∀(l:List Ar) (p:Option Ar),ZT p l->∀x∈l,∀y,Jd p l=Xa y->x=y\/x.tz<=y.fr
 | [],_,_,_,hx,_,_=>by cases hx
 | c :: m,p,hc,x,hx,y,hy=>by
  rw[zaX]at hy
  rcases mC.1 hx with e|hx
  ·cases m with
   | nil=>simp[Jd]at hy;left;rw[e,hy]
   | cons d k'=>
    right;have q2:=hc.2.2.2.1 c rfl;have q3:=hc.2.2.1;unfold znz at q2;unfold jA at q3;rw[e]
    rcases zd3 (d :: k') (Xa c) hc.2.2 d (by simp) y hy with q1|q1
    ·rw[<-q1];exact q2.1
    omega
  exact zd3 m (Xa c) hc.2.2 x hx y hy
theorem J.last {f:Nat->On} {n:Nat} {acc:List Ar} (h:J f (n+1) acc) (hs:(f n).is=Xc):∃b,acc.getLast? =Xa b/\b.tz=(n:Int)+1/\f n=qp b n/\jA b:=by
 have h1:=h.2.2 n;rw[kE (by omega)]at h1
 obtain⟨i,a,h2,h3,h4⟩:=Qm (l:=acc) (n:=n) (by rw[h1];exact hs)
 have h5:=qd.1 h3;have ha:=mG h2;have h6:=h.2.1 a ha;have hto:a.tz=(n:Int)+1:=by omega
 cases hl:acc.getLast? with
 | none=>rw[List.getLast?_eq_none_iff]at hl;rw[hl]at ha;cases ha
 | some y=>
  have hy:Jd Xb acc=Xa y:=by unfold Jd;rw[hl]
  have hay:a=y:=by
   rcases zd3 acc Xb h.1 a ha y hy with q|q
   ·exact q
   have q1:=h.1.all y (Yp hl);have q2:=h.2.1 y (Yp hl);unfold jA at q1;omega
  subst hay;exact⟨a,rfl,hto,by rw[<-h1,h4],h.1.all a ha⟩
theorem J.go {f:Nat->On} {n:Nat} {acc:List Ar} (h:J f (n+1) acc) (hs:(f (n+1)).is=Xc):(goJ (f (n+1)) (f n)=Xc->∃b,acc.getLast? =Xa b/\goB (JS (n+1) (f (n+1))) b=Xc)/\(goJ (f (n+1)) (f n)=Xd->∀b,acc.getLast? =Xa b->goB (JS (n+1) (f (n+1))) b=Xd):=by
 constructor
 ·intro hg;obtain⟨g1,g2,g3,g4,g5,g6⟩:=zkd.1 hg;obtain⟨b,h1,h2,h3,h4⟩:=h.last (by rw[g1];exact hs)
  refine⟨b,h1,zcp.2 ?_⟩;unfold JS;rw[kE hs];rw[h3]at g2 g3 g4 g5 g6;unfold qp at g2 g3 g4 g5 g6;unfold jA at h4;simp only at g2 g3 g4 g5 g6⊢;refine⟨by omega,g2.symm,g3.symm,g4.symm,g5.symm,?_⟩
  rw[<-g5]at g6
  by_cases h7:0<=b.file
  ·rw[kE h7,kE h7]at g6;rw[kE h7];omega
  rw[kF h7,kF h7]at g6;rw[kF h7];omega
 intro hg b hb
 cases hq:goB (JS (n+1) (f (n+1))) b with
 | false=>rfl
 | true=>
  exfalso;have hq':=zcp.1 hq;unfold JS at hq';rw[kE hs]at hq';simp only at hq';obtain⟨q1,q2,q3,q4,q5,q6⟩:=hq';have hmem:=Yp hb;have hbk:=h.1.all b hmem;have hbk':=hbk;unfold jA at hbk';have hin:(f n).is=Xc:=by
   have e1:=h.2.2 n;rw[kE (by omega)]at e1
   cases hz:(f n).is with
   | true=>rfl
   | false=>
    exfalso;have:∀(l:List Ar),b∈l->(zO l n).is=Xc:=by
     intro l
     induction l with
     | nil=>intro hx;cases hx
     | cons c m ih=>
      intro hx
      by_cases hc:Zf c n=Xc
      ·rw[zO,kE hc];rfl
      rw[zO,kF hc]
      rcases mC.1 hx with e|hx
      ·subst e;exact absurd (qd.2 (by omega)) hc
      exact ih hx
    have:=this acc hmem;rw[e1,hz]at this;cases this
  obtain⟨b',h1,h2,h3,h4⟩:=h.last hin;rw[hb]at h1;cases h1;have:goJ (f (n+1)) (f n)=Xc:=by
   rw[zkd,h3];unfold qp;simp only;refine⟨hs.symm,q2.symm,q3.symm,q4.symm,q5.symm,?_⟩;rw[q5]
   by_cases h7:0<=b.file
   ·rw[kE h7]at q6;rw[kE h7,kE h7];omega
   rw[kF h7]at q6;rw[kF h7,kF h7];omega
  rw[this]at hg;cases hg
theorem J.first {f:Nat->On} {acc:List Ar} (h:J f 0 acc):acc=[]:=Yt.1 (by have:=h.len;omega)
def Ju:Option Ar->List Ar->Nat->Int × Int
 | _,[],_=>(0,0)
 | p,a :: l,i=>
  if arW a≠0 then(arW a,i)
  else match p with
   | some b=>if a.fr<b.tz\/goB a b=Xc then(2,i)else Ju (Xa a) l (i+1)
   | none=>Ju (Xa a) l (i+1)
def wrL (l:List Ar):Int × Int:=if 16<l.length then(4,0)else Ju Xb l 0
theorem zbR:∀{l:List Ar} {p:Option Ar} {i:Nat},(Ju p l i).1=0↔ZT p l
 | [],p,i=>by simp[Ju,ZT]
 | a :: l,p,i=>by
  unfold Ju ZT
  by_cases h:arW a=0
  ·rw[kF (fun h'=>h' h)]
   cases p with
   | none=>simp[zbR (l:=l),ZD.1 h]
   | some b=>
    simp only
    by_cases h2:a.fr<b.tz\/goB a b=Xc
    ·rw[kE h2];simp only[Option.some.injEq,forall_eq'];constructor
     ·intro h3;exact absurd h3 (by decide)
     rintro⟨_,⟨h3,h4⟩,_⟩
     rcases h2 with h2|h2
     ·omega
     rw[h4]at h2;cases h2
    rw[kF h2,zbR];simp only[Option.some.injEq,forall_eq',ZD.1 h,true_and];constructor
    ·intro h3;exact⟨⟨by omega,by cases hq:goB a b with | false=>rfl | true=>exact absurd (.inr hq) h2⟩,h3⟩
    exact fun h3=>h3.2
  rw[kE h];constructor
  ·intro h1;exact absurd h1 h
  intro h1;exact absurd (ZD.2 h1.1) h
theorem jY {l:List Ar}:(wrL l).1=0↔l.length<=16/\ZT Xb l:=by
 unfold wrL
 by_cases h:16<l.length
 ·rw[kE h];constructor
  ·intro h1;exact absurd h1 (by decide)
  intro h1;omega
 rw[kF h,zbR];exact⟨fun h1=>⟨by omega,h1⟩,fun h1=>h1.2⟩
def zfY (l:List Ar) (a:Ar):Nat->On:=fun k=>if Zf a k=Xc then qp a k else zO l k
def zg8 (s n:Int) (k:Nat):Bool:=decide (s<=(k:Int)) && decide ((k:Int)<s+n)
theorem zhU {n:Int} {k:Nat}:zg8 s n k=Xc↔s<=(k:Int)/\(k:Int)<s+n:=by simp[zg8]
def zf0 (f:Nat->On):List Ar × Int:=if 16< (Zk f).length then([],4)else(Zk f,0)
def zk7 (l:List Ar) (s n:Int):Bool:=(Ya 64).any fun k=>zg8 s n k &&(zO l k).is
def zad (l:List Ar) (a:Ar):List Ar × Int:=if(wrL l).1≠0 then([],(wrL l).1)else if arW a≠0 then([],arW a)else if zk7 l a.fr (a.tz - a.fr)=Xc then([],6)else zf0 (zfY l a)
theorem zlZ {l:List Ar} {n:Int}:zk7 l s n=Xc↔∃k:Nat,k<64/\(s<=(k:Int)/\(k:Int)<s+n)/\(zO l k).is=Xc:=by
 simp[zk7,zg8]
theorem znd {l:List Ar} {n:Int}:zk7 l s n=Xd↔∀k:Nat,k<64->(s<=(k:Int)/\(k:Int)<s+n)->(zO l k).is=Xd:=by
 simp only[zk7,Od,Xu,Xw,zhU,not_and,Bool.not_eq_true]
theorem zav {l:List Ar} {a:Ar} (hl:ZT Xb l) (ha:jA a):zf2 (zfY l a):=fun k hk=>by
 unfold zfY
 by_cases h:Zf a k=Xc
 ·rw[kE h];exact⟨fun h1=>(by cases h1),fun _=>Jz ha h⟩
 rw[kF h];exact hl.good k hk
theorem znn {f:Nat->On} (h:(zf0 f).2=0):zf0 f=(Zk f,0)/\(Zk f).length<=16:=by
 unfold zf0 at h⊢
 by_cases h1:16< (Zk f).length
 ·rw[kE h1]at h;exact absurd h (by decide)
 rw[kF h1];exact⟨rfl,by omega⟩
theorem zn6 {f:Nat->On} (hg:zf2 f) (h:(Zk f).length<=16):(wrL (Zk f)).1=0:=jY.2 ⟨h,zfk hg⟩
theorem zgv {l:List Ar} {a:Ar} (h:(zad l a).2=0):(wrL l).1=0/\arW a=0/\zk7 l a.fr (a.tz - a.fr)=Xd/\(Zk (zfY l a)).length<=16/\(zad l a).1=Zk (zfY l a):=by
 unfold zad at h⊢
 by_cases h1:(wrL l).1=0
 ·rw[kF (fun h'=>h' h1)]at h⊢
  by_cases h2:arW a=0
  ·rw[kF (fun h'=>h' h2)]at h⊢
   cases h3:zk7 l a.fr (a.tz - a.fr)with
   | true=>rw[h3,kE rfl]at h;exact absurd h (by decide)
   | false=>
    rw[h3,kF (by decide)]at h
    rw[kF (by decide)]
    obtain⟨h4,h5⟩:=znn h;exact⟨h1,h2,rfl,h5,by rw[h4]⟩
  rw[kE h2]at h;exact absurd h h2
 rw[kE h1]at h;exact absurd h h1
theorem znI {a b:Ar} (hb:jA b) (ha:jA a) (hf:b.tz<=a.fr):decide ((Zk (zO [b,a])).length<2)=goB a b:=by
 have ha':=ha;have hb':=hb;unfold jA at ha' hb';have hgood:zf2 (zO [b,a]):=fun k _=>⟨zdS,fun h1=>by
  obtain⟨i,c,h2,h3,h4⟩:=Qm h1;rw[h4];have:c=b\/c=a:=by simpa using mG h2
  rcases this with e|e <;> subst e
  ·exact Jz hb h3
  exact Jz ha h3⟩
 cases hg:goB a b with
 | true=>
  obtain⟨g1,g2,g3,g4,g5,g6⟩:=zcp.1 hg;have hc:ZT Xb [{ b with tz:=a.tz }]:=by
   refine⟨?_,fun x hx=>(by cases hx),trivial⟩
   unfold jA;simp only;refine⟨by omega,by omega,by omega,by omega,by omega,by omega,hb'.2.2.2.2.2.2.1,fun h=>?_⟩
   rw[kE h]at g6;omega
  rw[zhs hgood hc fun k hk=>?_]
  ·rfl
  have e3:qp { b with tz:=a.tz } k=qp b k:=rfl;simp only[zO]
  by_cases h1:Zf b k=Xc
  ·have:=qd.1 h1;rw[kE h1,kE (qd.2 (by simp only;omega)),e3]
  have h1':¬(b.fr<=(k:Int)/\(k:Int)<b.tz):=fun h=>h1 (qd.2 h)
  rw[kF h1]
  by_cases h2:Zf a k=Xc
  ·have h2':=qd.1 h2;rw[kE h2,kE (qd.2 (by simp only;omega)),e3]
   unfold qp;rw[g2,g3,g4,g5,g6]
   by_cases h7:0<=b.file
   ·rw[kE h7,kE h7,kE h7]
    congr 1
    omega
   rw[kF h7,kF h7]
  have h2':¬(a.fr<=(k:Int)/\(k:Int)<a.tz):=fun h=>h2 (qd.2 h)
  rw[kF h2,kF (fun h=>by have:=qd.1 h;simp only at this;omega)]
 | false=>
  have hc:ZT Xb [b,a]:=⟨hb,fun x hx=>(by cases hx),ha,fun x hx=>(by cases hx;exact⟨hf,hg⟩),trivial⟩
  rw[zhs hgood hc fun _ _=>rfl]
  rfl
structure Sp where
 live:Bool
 ars:List Ar
 tb:List (List En)
structure Ca where
 file:Int
 idx:Int
 fr:Int
structure Ma where
 fs:List Fr
 hand:Int
 sl:List Int
 sb:List (List Int)
 sq:List (Int × List Int)
 db:List (List Int)
 dq:List (Int × List Int)
 fl:List Fl
 cnt:Int
 ca:List Ca
 sp:List Sp
def zu:List Int->Int
 | []=>0
 | e :: l=>if e=0 then zu l else e
theorem zF:∀{l:List Int},zu l=0↔∀e∈l,e=0
 | []=>by simp[zu]
 | e :: l=>by
  unfold zu
  by_cases h:e=0
  ·rw[kE h,zF]
   simp[h]
  rw[kF h]
  simp[h]
def Jp (m:Ma):Int:=if(Ya m.db.length).any (fun(b:Nat)=>!zV m.fl (b:Int) && !(m.db.getD b [] == zx))=Xc then 7 else 0
def Q8 (m:Ma):Int:=if m.dq.any (fun q=>!zV m.fl q.1)=Xc then 7 else 0
def spE (s:Sp):Int:=if(wrL s.ars).1≠0 then(wrL s.ars).1 else if tbW s.tb≠0 then tbW s.tb else if(!s.live &&(!s.ars.isEmpty || !s.tb.all (·.isEmpty)))=Xc then 7 else 0
def zi8 (m:Ma):Int:=if m.sl.length≠m.sb.length\/m.cnt≠(m.db.length:Int)then 7 else 0
def zbr (m:Ma):Int:=zu [ZR m.fs m.hand,slW m.sl,zJ m.sb.length m.sq,zJ m.db.length m.dq,stW m.fl m.cnt,zi8 m,Jp m,Q8 m,if 4<m.sp.length then 4 else 0,zu (m.sp.map spE)]
def bkN (m:Ma) (file:Int):Int:=((m.fl.getD file.toNat ⟨0,[]⟩).bl.length:Nat)
def z8 (m:Ma) (k:Int):Fr:=m.fs.getD k.toNat frF
def qm (c:Ca):Int:=100*c.file+c.idx
def caE (m:Ma) (p:Option Ca) (c:Ca):Int:=
 if c.file<0\/(m.fl.length:Int)<=c.file\/c.idx<0\/bkN m c.file<=c.idx\/c.fr<0\/(m.fs.length:Int)<=c.fr then 3
 else if(z8 m c.fr).r=0\/(z8 m c.fr).f≠c.file\/(z8 m c.fr).x≠c.idx then 7
 else match p with | some q=>(if qm c<=qm q then 2 else 0) | none=>0
def zbF (m:Ma):Option Ca->List Ca->Int
 | _,[]=>0
 | p,c :: l=>if caE m p c=0 then zbF m (Xa c) l else caE m p c
def zc2 (m:Ma) (x:On) (e:En):Int:=
 if x.is=Xd then 5
 else if e.kind=2 then(if(m.sl.length:Int)<=e.n\/x.sh=Xc then 7 else 0)
 else if(m.fs.length:Int)<=e.n then 3
 else if(¬(z8 m e.n).f=-1/\¬(0<=x.file/\(z8 m e.n).f=x.file/\(z8 m e.n).x=x.page))\/(x.sh=Xc/\¬(0<=x.file/\(z8 m e.n).f=x.file/\(z8 m e.n).x=x.page))\/(e.wr=Xc/\x.wr=Xd)\/(e.wr=Xc/\(0<=x.file/\(z8 m e.n).f=x.file/\(z8 m e.n).x=x.page)/\x.sh=Xd)\/(e.wr=Xc/\(z8 m e.n).f=-1/\1< (z8 m e.n).r)then 7 else 0
def zD (s:Sp) (n:Nat):En:=zdo s.tb (n / 8) (n % 8)
def zaQ (m:Ma) (s:Sp):Int:=zu ((Ya 64).map fun n=>if(zD s n).kind=0 then 0 else zc2 m (zO s.ars n) (zD s n))
def isE (e:En) (kind k:Int):Bool:=decide (e.kind=kind) && decide (e.n=k)
def QM (f:Nat->En) (kind k:Int):Nat->Nat
 | 0=>0
 | n+1=>QM f kind k n+(isE (f n) kind k).toNat
def ju (T:List (Nat->En)) (kind k:Int):Nat:=(T.map fun f=>QM f kind k 64).sum
def zcj (m:Ma) (kind k:Int):Nat:=ju (m.sp.map zD) kind k
def qk (ca:List Ca) (k:Int):Nat:=ca.countP fun c=>decide (c.fr=k)
def frE (m:Ma) (k:Nat):Int:=if(z8 m k).r≠((zcj m 1 k+qk m.ca k:Nat):Int)\/(0<=(z8 m k).f/\qk m.ca k=0)then 7 else 0
def zgh (m:Ma) (k:Nat):Int:=if m.sl.getD k 0≠(zcj m 2 k:Int)then 7 else 0
def maW (m:Ma):Int:=zu [zbr m,zbF m Xb m.ca,zu (m.sp.map (zaQ m)),zu ((Ya m.fs.length).map (frE m)),zu ((Ya m.sl.length).map (zgh m))]
def qr (f:Nat->En) (n:Nat) (e:En):Nat->En:=fun j=>if j=n then e else f j
theorem zkN (f:Nat->En) {n:Nat} (e:En) (kind k:Int):∀m:Nat,QM (qr f n e) kind k m+(if n<m then(isE (f n) kind k).toNat else 0)=QM f kind k m+(if n<m then(isE e kind k).toNat else 0)
 | 0=>by simp[QM]
 | m+1=>by
  have ih:=zkN f e kind k (n:=n) m;unfold QM
  by_cases h:n=m
  ·subst h;rw[kF (Nat.lt_irrefl _),kF (Nat.lt_irrefl _)]at ih;rw[kE (Nat.lt_succ_self _),kE (Nat.lt_succ_self _)];have:qr f n e n=e:=by unfold qr;rw[kE rfl]
   rw[this];omega
  have:qr f n e m=f m:=by unfold qr;rw[kF (fun h'=>h h'.symm)]
  rw[this]
  by_cases h2:n<m
  ·rw[kE h2,kE h2]at ih;rw[kE (by omega),kE (by omega)]
   omega
  rw[kF h2,kF h2]at ih;rw[kF (by omega),kF (by omega)]
  omega
theorem ZA:∀{T:List (Nat->En)} {p:Nat} {f:Nat->En} {n:Nat} (e:En) (kind k:Int),T[p]? =Xa f->n<64->ju (T.set p (qr f n e)) kind k+(isE (f n) kind k).toNat=ju T kind k+(isE e kind k).toNat
 | [],p,f,n,e,kind,k,h,_=>by simp at h
 | g :: T,0,f,n,e,kind,k,h,hn=>by
  simp at h
  subst h;have:=zkN g e kind k (n:=n) 64;rw[kE hn,kE hn]at this;simp only[sZ,ju,mP,Ua];omega
 | g :: T,p+1,f,n,e,kind,k,h,hn=>by
  have ih:=ZA (T:=T) (p:=p) (f:=f) (n:=n) e kind k (by simpa using h) hn
  simp only[sS,ju,mP,Ua]at ih⊢;omega
theorem zmO (f:Nat->En) (kind k:Int):∀m:Nat,QM f kind k m<=m
 | 0=>nR _
 | m+1=>by
  have:=zmO f kind k m;unfold QM
  cases isE (f m) kind k <;> simp <;> omega
theorem zck:∀(T:List (Nat->En)) (kind k:Int),ju T kind k<=64*T.length
 | [],_,_=>by simp[ju]
 | f :: T,kind,k=>by
  have h1:=zmO f kind k 64;have h2:=zck T kind k;simp only[ju,mP,Ua,Yw]at h2⊢;omega
theorem jH (kind k:Int) (h:kind≠0):isE en0 kind k=Xd:=by
 have:¬en0.kind=kind:=fun e=>h e.symm
 simp[isE,this]
theorem zed {T:List (Nat->En)} {p:Nat} {f:Nat->En} {n:Nat} {kind k:Int} (hT:T[p]? =Xa f) (hn:n<64) (h:isE (f n) kind k=Xc) (hk:kind≠0):1<=ju T kind k:=by
 have:=ZA en0 kind k hT hn;rw[h,jH kind k hk]at this
 simp at this
 omega
theorem zlW {T:List (Nat->En)} {p q:Nat} {f g:Nat->En} {n:Nat} {kind k:Int} (hT:T[p]? =Xa f) (hn:n<64) (h:isE (f n) kind k=Xc) (hq:T[q]? =Xa g) (hj:j<64) (h':isE (g j) kind k=Xc) (hne:p≠q\/n≠j) (hk:kind≠0):2<=ju T kind k:=by
 have h1:=ZA en0 kind k hT hn;rw[h,jH kind k hk]at h1
 simp at h1
 have hp:=(gS.1 hT).1
 by_cases e:q=p
 ·subst e;rw[hT]at hq;cases hq;have h2:1<=ju (T.set q (qr f n en0)) kind k:=by
   refine zed (p:=q) (f:=qr f n en0) (n:=j) (sF hp) hj ?_ hk;have:j≠n:=fun e=>(hne.resolve_left (fun h=>h rfl)) e.symm
   unfold qr;rw[kF this];exact h'
  omega
 have h2:1<=ju (T.set p (qr f n en0)) kind k:=zed (p:=q) (f:=g) (n:=j) (by rw[sN (fun h=>e h.symm)];exact hq) hj h' hk
 omega
theorem zfo (T:List (Nat->En)) (kind k:Int) (hk:kind≠0):ju (T++ [fun _=>en0]) kind k=ju T kind k:=by
 have:∀m,QM (fun _=>en0) kind k m=0:=by
  intro m
  induction m with
  | zero=>rfl
  | succ m ih=>
   unfold QM;rw[ih,jH kind k hk];rfl
 simp[ju,this]
end
section
open Go.RowKit
def zc (w w':Xo):Prop:=Below w.heap.size w w'
theorem zc.refl (w:Xo):zc w w:=bR _ _
theorem zc.trans {a b c:Xo} (h:zc a b) (k:zc b c):zc a c:=Below.trans h (k.mono h.size)
def zQ (P:Program) (o:Oper) (a:Act) (w:Xo) (K:Xr->Xo->Prop):Prop:=
 match(execOp a.eval o).run P w with
 | .ok (.value v) w'=>K v w'
 | .ok .skip w'=>K undef w'
 | .ok (.enter f args) w'=>Xq P f args w' fun e w''=>∃v,e= Xl v/\K v w''
 | _=>False
theorem zQ.wp {P:Program} {a:Act} {w:Xo} {K:Xr->Xo->Prop} {next:Act->Xo->Prop}
  (h:zQ P o a w K) (hn:∀v w',K v w'->next (a.put o.dst v) w'):o.wp P a w next Q:=by
 unfold zQ at h;unfold Oper.wp
 generalize(execOp a.eval o).run P w=r at*
 cases r with
 | ok n w'=>
  cases n <;> simp only[Oper.upon]at h⊢
  case value v=>exact hn _ _ h
  case skip=>exact hn _ _ h
  case enter f args=>exact h.mono fun e w'' ⟨v,he,hk⟩=>by subst he;exact hn _ _ hk
 | halt x w'=>simp only at h
def ziJ (ops:Array Oper) (i j:Nat):Bool:=((ops[j]?).map fun o=>o.after.any fun e=>Ug .any e && e.on == i).getD Xd
def anc (ops:Array Oper):Nat->Nat->Nat->Bool
 | 0,_,_=>Xd
 | f+1,i,j=>ziJ ops i j || (Ya j).any fun k=>ziJ ops k j && anc ops f i k
theorem zQ.mono {P:Program} {a:Act} {w:Xo} {K K':Xr->Xo->Prop} (h:zQ P o a w K) (hk:∀v w',K v w'->K' v w'):zQ P o a w K':=by
 unfold zQ at*
 generalize(execOp a.eval o).run P w=r at*
 cases r with
 | ok n w'=>
  cases n <;> simp only at h⊢
  case value v=>exact hk _ _ h
  case skip=>exact hk _ _ h
  case enter f args=>exact h.mono fun e w'' ⟨v,he,hv⟩=>⟨v,he,hk _ _ hv⟩
 | halt x w'=>simp only at h
def zcq (F:Nat->Xo->Prop) (k:Nat) (p:Xo->Prop):Nat->Xo->Prop:=fun i=>if i=k then p else F i
section
variable{P:Program} {ops:Array Oper} {T:Nat}
theorem ZE {F:Nat->Xo->Prop} {k m:Nat} {p:Xo->Prop} (h:m≠k):zcq F k p m=F m:=by simp[zcq,h]
theorem zkg {F:Nat->Xo->Prop} {i:Nat} {p q:Xo->Prop} (h:i≠j):zcq (zcq F i p) j q=zcq (zcq F j q) i p:=by
 funext m
 simp only[zcq]
 by_cases h1:m=j
 ·by_cases h2:m=i
  ·omega
  simp[h1];intro h3;omega
 simp[h1]
theorem zcy {i:Nat} (ho:ops[j]? =Xa o):ziJ ops i j=Xc↔∃e∈o.after,Ug .any e=Xc/\e.on=i:=by
 unfold ziJ;rw[ho,Option.map_some,Option.getD_some,Array.any_eq_true'];simp
theorem zfA {i:Nat} (h:ziJ ops i j=Xc):∃oj,ops[j]? =Xa oj:=by
 cases hj:ops[j]? with
 | none=>simp[ziJ,hj]at h
 | some oj=>exact⟨oj,rfl⟩
def zfK (ops:Array Oper) (listed:Array Bool):Prop:=∀i j,listed.getD j Xd=Xc->ziJ ops i j=Xc->listed.getD i Xd=Xc
theorem Qt {listed:Array Bool} (hc:zfK ops listed):∀(f i j:Nat),(∀k,ziJ ops k j=Xc->listed.getD k Xd=Xc)->anc ops f i j=Xc->listed.getD i Xd=Xc
 | 0,_,_,_,h=>by simp[anc]at h
 | f+1,i,j,hj,h=>by
  simp only[anc,Oq,Yq,Xu,Xw]at h
  rcases h with h|⟨k,_,hkj,h⟩
  ·exact hj i h
  exact Qt hc f i k (fun m hm=>hc m k (hj k hkj) hm) h
theorem Jj {listed:Array Bool} {i:Nat} (h:listed.getD i Xc=Xd):listed.getD i Xd=Xd:=by
 rcases Yd i listed.size with h' | h'
 ·simp[h']at h⊢;exact h
 simp[Array.getElem?_eq_none h']at h
end
def Qh (ops:Array Oper) (T:Nat):Bool:=
 Region.noSelect ops && decide (T<=ops.size) &&(Ya ops.size).all fun j=>match ops[j]? with
  | none=>Xd
  | some oj=>oj.after.all (fun e=>!Ug .any e || decide (e.on<j)) &&
    (if j<T then(Ya j).all fun i=>ziJ ops i j || (match ops[i]? with | some oi=>oi.apart ops oj | none=>Xd)else(Ya j).all fun i=>anc ops j i j)
def qe (listed:Array Bool) (T:Nat):List Nat:=(Ya T).filter fun i=>listed.getD i Xc == Xd
section
variable{P:Program} {ops:Array Oper} {T:Nat}
theorem JA (hB:Qh ops T=Xc) (hj:ops[j]? =Xa oj):∀i,ziJ ops i j=Xc->i<j:=by
 simp only[Qh,Xw,Yh,Xu]at hB;have h:=hB.2 j (aS.1 hj).1;simp only[hj,Xw]at h;intro i hi;obtain⟨e,he,hb,rfl⟩:=(zcy hj).1 hi;have:=Array.all_eq_true_iff_forall_mem.1 h.1 e he
 simpa [hb]using this
theorem zgx (hB:Qh ops T=Xc) (hj:ops[j]? =Xa oj) (hT:j<T):∀i,i<j->ziJ ops i j=Xc\/∃oi,ops[i]? =Xa oi/\oi.apart ops oj=Xc:=by
 simp only[Qh,Xw,Yh,Xu]at hB;have h:=hB.2 j (aS.1 hj).1;simp only[hj,Xw,kE hT,Yh,Xu]at h;intro i hi;have:=h.2 i hi;rw[Oq]at this
 rcases this with h1|h1
 ·exact Or.inl h1
 right
 cases ho:ops[i]? with
 | none=>simp[ho]at h1
 | some oi=>simp only[ho]at h1;exact⟨oi,rfl,h1⟩
theorem zdk (hB:Qh ops T=Xc) (hj:ops[j]? =Xa oj) (hT:T<=j):∀i,i<j->anc ops j i j=Xc:=by
 simp only[Qh,Xw,Yh,Xu]at hB;have h:=hB.2 j (aS.1 hj).1;simp only[hj,Xw,kF (Nat.not_lt.2 hT),Yh,Xu]at h;exact h.2
theorem zk0 (hB:Qh ops T=Xc):∀(f i j:Nat),anc ops f i j=Xc->i<j
 | 0,_,_,h=>by simp[anc]at h
 | f+1,i,j,h=>by
  simp only[anc,Oq,Yq,Xu,Xw]at h
  rcases h with h|⟨k,hk,_,h⟩
  ·obtain⟨oj,hj⟩:=zfA h;exact JA hB hj i h
  have:=zk0 hB f i k h;omega
theorem zak {listed:Array Bool} (hl:j<listed.size):qe (listed.setIfInBounds j Xc) T=(qe listed T).filter (· != j):=by
 unfold qe;rw[List.filter_filter];refine List.filter_congr fun i hi=>?_
 by_cases h:j=i
 ·subst h
  simp[hl]
 rw[getD_set_ne Xc h];have:(i != j)=Xc:=by simpa using Ne.symm h
 rw[this,Bool.true_and]
theorem zgB {listed:Array Bool} {i:Nat} (hi:i<listed.size) (h:listed.getD i Xc=Xc):listed.getD i Xd=Xc:=by
 simp[hi]at h⊢;exact h
theorem zhT (hB:Qh ops T=Xc):∀(m:Nat) (l:List Oper) (k:Nat) (listed:Array Bool) (a:Act) (w:Xo),T<=k->listed.size=ops.size->k+m=ops.size->l.length=m->(∀j,l[j]? =ops[k+j]?)->
  (∀i,i<k->listed.getD i Xc=Xc)->(∀i,k<=i->i<ops.size->listed.getD i Xc=Xd)->wpList P ops Q l a w->wpAny P .any ops Q m listed a w:=by
 intro m
 induction m with
 | zero=>
  intro l k listed a w hT hsz hk hl hops hin hout h;have:l=[]:=eN hl;subst this;refine⟨?_,h⟩
  cases hr:Oj .any ops listed with
  | nil=>rfl
  | cons x xs=>
   have hx:x∈Oj .any ops listed:=by rw[hr];simp
   obtain⟨h0,o,ho,_⟩:=mem_ready.1 hx;have hxs:=(aS.1 ho).1;rw[hin x (by omega)]at h0
   cases h0
 | succ m ih=>
  intro l k listed a w hT hsz hk hl hops hin hout h;obtain⟨o,l',rfl⟩:∃o l',l=o :: l':=by
   cases l with
   | nil=>simp at hl
   | cons o l'=>exact⟨o,l',rfl⟩
  have hok:ops[k]? =Xa o:=by have:=hops 0;simpa using this.symm
  have hkr:k∈Oj .any ops listed:=by
   refine mem_ready.2 ⟨hout k (nR _) (by omega),o,hok,fun e he hb=>?_⟩
   have hlt:=JA hB hok e.on ((zcy hok).2 ⟨e,he,hb,rfl⟩);exact zgB (by omega) (hin e.on hlt)
  refine⟨fun hr=>?_,fun j hj=>?_⟩
  ·rw[hr]at hkr;cases hkr
  obtain⟨h0,oj,hoj,hall⟩:=mem_ready.1 hj;have hjs:=(aS.1 hoj).1;have hjk:k<=j:=by
   rcases Yd j k with h1|h1
   ·rw[hin j h1]at h0;cases h0
   exact h1
  have hj':j=k:=by
   rcases Yd k j with h1|h1
   ·exfalso;have ha:=zdk hB hoj (by omega) k h1
    have hc:zfK ops listed:=fun i q hq hiq=>by
     obtain⟨oq,hoq⟩:=zfA hiq;have hlt:=JA hB hoq i hiq;have hqk:q<k:=by
      rcases Yd q k with h2|h2
      ·exact h2
      have:=Jj (hout q h2 (aS.1 hoq).1);rw[this]at hq;cases hq
     exact zgB (by omega) (hin i (by omega))
    have:=Qt hc j k j (fun q hq=>by
     obtain⟨e,he,hb,rfl⟩:=(zcy hoj).1 hq;exact hall e he hb) ha
    rw[Jj (hout k (nR _) (by omega))]at this
    cases this
   omega
  subst hj';rw[hok]at hoj;cases hoj;unfold wpList at h;unfold wpOp;simp only[hok];have hnext:∀a w,wpList P ops Q l' a w->wpAny P .any ops Q m (listed.setIfInBounds j Xc) a w:=fun a w h'=>
   ih l' (j+1) _ a w (by omega) (by simp[hsz]) (by omega) (by simpa using hl) (fun q=>by have:=hops (q+1);rw[Oi]at this;rw[this];congr 1;omega)
    (fun i hi=>by
     by_cases e:j=i
     ·subst e
      simp[show j<listed.size by omega]
     rw[getD_set_ne Xc e];exact hin i (by omega))
    (fun i hi hi'=>by rw[getD_set_ne Xc (by omega)];exact hout i (by omega) hi') h'
  split
  ·rename_i hw
   rw[kE hw]at h
   rcases h with h|h
   ·exact .inl (Oper.wp_mono hnext h)
   exact .inr h
  rename_i hw
  rw[kF hw]at h;exact hnext _ _ h
structure Way {σ:Type} (P:Program) (ops:Array Oper) (C:Nat->σ->Act->(σ->Act->Prop)->Prop) (Ln:Nat->σ->Prop) (ok:Array Bool->σ->Act->Xo->Prop):Prop where
 mono:∀{i:Nat} {F:σ} {a:Act} {K K':σ->Act->Prop},(∀F' a',(∀j,anc ops 9 i j=Xd->Ln j F->Ln j F')->K F' a'->K' F' a')->C i F a K->C i F a K'
 swap:∀{i j:Nat} {oi oj:Oper} {F:σ} {a:Act} {K:σ->Act->Prop},ops[i]? =Xa oi->ops[j]? =Xa oj->i<j->oi.apart ops oj=Xc->(∀cs b,oi.op≠.select cs b)->(∀cs b,oj.op≠.select cs b)->anc ops 9 i j=Xd->anc ops 9 j i=Xd->Ln j F->C i F a (fun F' a'=>C j F' a' K)->C j F a fun F' a'=>C i F' a' K
 lean:∀{listed:Array Bool} {F:σ} {a:Act} {w:Xo} (j:Nat),ok listed F a w->Ln j F
 step:∀{listed:Array Bool} {F:σ} {a:Act} {w:Xo} {j:Nat} {oj:Oper} {K:σ->Act->Prop} {N:Act->Xo->Prop} {Q:Exit->Act->Xo->Prop},listed.size=ops.size->ops[j]? =Xa oj->listed.getD j Xc=Xd->zfK ops listed->ok listed F a w->C j F a K->
  (∀F' a' w',ok (listed.setIfInBounds j Xc) F' a' w'->K F' a'->N a' w')->if Xt oj (yielded ops a.tmps)then oj.wp P a w N Q else N (a.put oj.dst undef) w
section
variable{σ:Type} {C:Nat->σ->Act->(σ->Act->Prop)->Prop} {Ln:Nat->σ->Prop} {ok:Array Bool->σ->Act->Xo->Prop} {E:σ->Act->Prop}
variable(C E)in
def Lex:List Nat->σ->Act->Prop
 | [],F,a=>E F a
 | i :: l,F,a=>C i F a (Lex l)
theorem Lex.commute (W:Way P ops C Ln ok) {j:Nat} {oj:Oper} (hj:ops[j]? =Xa oj) (hsel:∀(k:Nat) (o:Oper) cs b,ops[k]? =Xa o->o.op≠.select cs b):
  ∀(l:List Nat) (F:σ) (a:Act),l.Nodup->j∈l->
   (∀i∈l,i≠j->∃oi,ops[i]? =Xa oi/\(i<j->oi.apart ops oj=Xc)/\anc ops 9 i j=Xd/\(i<j->anc ops 9 j i=Xd))->
   (l.Pairwise (·< ·))->Ln j F->Lex C E l F a->Lex C E (j :: l.filter (· != j)) F a
 | [],_,_,_,hm,_,_,_,_=>by cases hm
 | i :: l,F,a,hnd,hm,hall,hsorted,hF,h=>by
  by_cases hij:i=j
  ·subst hij;have:(i :: l).filter (· != i)=l:=by
    rw[List.filter_cons];simp only[bne_self_eq_false,Yk,if_false];refine Oz.2 fun x hx=>?_
    have:x≠i:=fun e=>(Yy.1 hnd).1 (e ▸ hx)
    simpa using this
   rw[this];exact h
  have hjl:j∈l:=by
   rcases mC.1 hm with e|e
   ·exact absurd e.symm hij
   exact e
  have hlt:i<j:=(Ob.1 hsorted).1 j hjl;obtain⟨oi,hoi,hap,haij,haji⟩:=hall i (by simp) hij
  have hf:(i :: l).filter (· != j)=i :: l.filter (· != j):=by
   rw[List.filter_cons];have:(i != j)=Xc:=by simpa using hij
   simp[this]
  rw[hf];refine W.swap hoi hj hlt (hap hlt) (fun cs b=>hsel i oi cs b hoi) (fun cs b=>hsel j oj cs b hj) haij (haji hlt) hF ?_
  refine W.mono (fun F' a' hF' hl=>?_) h
  exact Lex.commute W hj hsel l F' a' (Yy.1 hnd).2 hjl (fun k hk=>hall k (by simp[hk])) (Ob.1 hsorted).2 (hF' j haij hF) hl
theorem zeH (W:Way P ops C Ln ok) {Q':Exit->Act->Xo->Prop} {l:List Oper} {m:Nat} (hB:Qh ops T=Xc) (hTl:T+m=ops.size) (hll:l.length=m) (hops:∀j,l[j]? =ops[T+j]?) (hQ:∀listed F a w,ok listed F a w->E F a->wpList P ops Q' l a w):
  ∀(fuel:Nat) (listed:Array Bool) (F:σ) (a:Act) (w:Xo),listed.size=ops.size->(∀i,T<=i->i<ops.size->listed.getD i Xc=Xd)->(qe listed T).length=fuel->zfK ops listed->ok listed F a w->
   Lex C E (qe listed T) F a->wpAny P .any ops Q' (fuel+m) listed a w:=by
 have hsel:=Region.noSelect_spec (ops:=ops) (by simp only[Qh,Xw]at hB;exact hB.1.1)
 intro fuel
 induction fuel with
 | zero=>
  intro listed F a w hsz hout hl hc hF h;have hnil:qe listed T=[]:=eN hl;rw[hnil]at h;rw[zA];refine zhT hB m l T listed a w (nR _) hsz hTl hll hops (fun i hi=>?_) hout (hQ _ _ _ _ hF h)
  cases hg:listed.getD i Xc with
  | true=>rfl
  | false=>
   have:i∈qe listed T:=Xv.2 ⟨Xu.2 hi,by simp only[hg,beq_self_eq_true]⟩
   rw[hnil]at this;cases this
 | succ fuel ih=>
  intro listed F a w hsz hout hl hc hF h;rw[Nat.add_right_comm];refine⟨fun hr=>?_,fun j hj=>?_⟩
  ·exfalso
   cases hu:qe listed T with
   | nil=>simp[hu]at hl
   | cons x xs=>
    have hx:x∈qe listed T:=by rw[hu];simp
    have hx':=Xv.1 hx;have hxT:x<T:=Xu.1 hx'.1;have hxs:x<ops.size:=by omega
    have ho:ops[x]? =Xa ops[x]:=Yb hxs;have hsorted:(qe listed T).Pairwise (·< ·):=List.Pairwise.filter _ Ok;have:x∈Oj .any ops listed:=by
     refine mem_ready.2 ⟨by simpa using hx'.2,ops[x],ho,fun e he hb=>?_⟩
     have hed:ziJ ops e.on x=Xc:=(zcy ho).2 ⟨e,he,hb,rfl⟩;have hlt:=JA hB ho _ hed
     cases hg:listed.getD e.on Xc with
     | true=>exact zgB (by omega) hg
     | false=>
      have hmem:e.on∈qe listed T:=Xv.2 ⟨Xu.2 (by omega),by simp only[hg,beq_self_eq_true]⟩
      rw[hu]at hmem hsorted
      rcases mC.1 hmem with e1|e1
      ·omega
      have:=(Ob.1 hsorted).1 _ e1;omega
    rw[hr]at this;cases this
  obtain⟨h0,oj,hoj,hall⟩:=mem_ready.1 hj;have hjs:j<ops.size:=(aS.1 hoj).1;have hdir:∀k,ziJ ops k j=Xc->listed.getD k Xd=Xc:=fun k hk=>by
   obtain⟨e,he,hb,rfl⟩:=(zcy hoj).1 hk;exact hall e he hb
  have hjT:j<T:=by
   rcases Yd j T with h1|h1
   ·exact h1
   exfalso
   cases hu:qe listed T with
   | nil=>simp[hu]at hl
   | cons x xs=>
    have hx:x∈qe listed T:=by rw[hu];simp
    have hx':=Xv.1 hx;have hxT:x<T:=Xu.1 hx'.1;have:=Qt hc j x j hdir (zdk hB hoj h1 x (by omega))
    rw[Jj (by simpa using hx'.2)]at this
    cases this
  have hju:j∈qe listed T:=Xv.2 ⟨Xu.2 hjT,by simp only[h0,beq_self_eq_true]⟩
  have hnd:(qe listed T).Nodup:=List.Pairwise.filter _ List.nodup_range;have hsorted:(qe listed T).Pairwise (·< ·):=List.Pairwise.filter _ Ok;have hcm:=Lex.commute W hoj hsel (qe listed T) F a hnd hju (fun i hi hij=>by
   have hi':=Xv.1 hi;have hun:listed.getD i Xd=Xd:=Jj (by simpa using hi'.2)
   have his:i<ops.size:=by have:=Xu.1 hi'.1;omega
   have hoi:ops[i]? =Xa ops[i]:=Yb his;refine⟨ops[i],hoi,fun hlt=>?_,?_,fun hlt=>?_⟩
   ·rcases zgx hB hoj hjT i hlt with he|⟨oi,hoi',hap⟩
    ·have:=hdir i he;rw[hun]at this;cases this
    rw[hoi]at hoi';cases hoi';exact hap
   ·cases ha:anc ops 9 i j with
    | false=>rfl
    | true=>
     have:=Qt hc 9 i j hdir ha;rw[hun]at this;cases this
   cases ha:anc ops 9 j i with
   | false=>rfl
   | true=>
    have:=zk0 hB 9 j i ha
    omega) hsorted (W.lean j hF) h
  have hsz':(listed.setIfInBounds j Xc).size=ops.size:=by simp[hsz]
  have hout':∀i,T<=i->i<ops.size->(listed.setIfInBounds j Xc).getD i Xc=Xd:=fun i hi hi'=>by rw[getD_set_ne Xc (by omega)];exact hout i hi hi'
  have hlen':(qe (listed.setIfInBounds j Xc) T).length=fuel:=by
   rw[zak (by omega)]
   have he:(qe listed T).filter (· != j)=(qe listed T).erase j:=by
    rw[List.Nodup.erase_eq_filter hnd]
   rw[he,List.length_erase_of_mem hju];omega
  have hc':zfK ops (listed.setIfInBounds j Xc):=fun i k hk hik=>by
   by_cases hkj:j=k
   ·subst hkj;exact getD_set_true (hdir i hik)
   rw[getD_set_ne Xd hkj]at hk;exact getD_set_true (hc i k hk hik)
  rw[<-zak (by omega)]at hcm
  have hst:=W.step (Q:=Q') (N:=wpAny P .any ops Q' (fuel+m) (listed.setIfInBounds j Xc)) hsz hoj h0 hc hF hcm fun F' a' w' h1 h2=>ih _ F' a' w' hsz' hout' hlen' hc' h1 h2
  unfold wpOp;simp only[hoj]
  split
  ·rename_i hwant
   rw[kE hwant]at hst;exact .inl hst
  rename_i hwant
  rw[kF hwant]at hst;exact hst
variable(ops C E)in
structure zfU (l:List Oper) (k:Nat) (F:σ) (a:Act):Prop where
 out:(∀j,l[j]? =ops[k+j]?\/l.length<=j)->Lex C E (List.range' k l.length) F a
theorem zfU.cons {rest:List Oper} {k:Nat} {F:σ} {a:Act} (mono:∀{i:Nat} {F:σ} {a:Act} {K K':σ->Act->Prop},(∀F' a',K F' a'->K' F' a')->C i F a K->C i F a K') (h:ops[k]? =Xa o->C k F a (zfU ops C E rest (k+1))):zfU ops C E (o :: rest) k F a:=⟨fun hl=>by
 have h0:ops[k]? =Xa o:=by
  rcases hl 0 with e|e
  ·simpa using e.symm
  simp at e
 have hnext:∀j,rest[j]? =ops[k+1+j]?\/rest.length<=j:=fun j=>by
  rcases hl (j+1)with e|e
  ·left;rw[Oi]at e;rw[e];congr 1;omega
  right;simpa using e
 exact mono (fun F' a' hk=>hk.out hnext) (h h0)⟩
theorem zf9 {a:Act} {w:Xo} {L l r:List Oper} {F:σ} (W:Way P L.toArray C Ln ok) (T:Nat) (hm:P.follows .mixedOrders=Xc) (hB:Qh L.toArray T=Xc) (hl:L.take T=l) (hr:L.drop T=r) (hT:T<=L.length) (h0:∀listed:Array Bool,ok listed F a w.drew)
  (hQ:∀listed F a w,ok listed F a w->E F a->wpList P L.toArray Q r a w) (h:zfU L.toArray C E l 0 F a):(Code.region id L.toArray Xc).wp P Q a w:=by
 have hlT:l.length=T:=by rw[<-hl,List.length_take];omega
 have hrT:r.length=L.length - T:=by rw[<-hr,List.length_drop]
 refine wp_region_any hm ?_;have hu:qe (Array.replicate L.toArray.size Xd) T=Ya T:=by
  unfold qe;refine Oz.2 fun i hi=>?_
  have:i<T:=by simpa using hi
  simp[show i<L.length by omega]
 have h':=h.out (fun j=>by
  rcases Yd j T with hj|hj
  ·left;rw[<-hl,List.getElem?_take_of_lt hj];simp
  right;omega)
 rw[hlT,<-Ou]at h';have hfin:=zeH (E:=E) W (T:=T) (l:=r) (m:=L.length - T) (Q':=Q) hB (by simp;omega) hrT (fun j=>by rw[<-hr,Ue];simp) hQ
  T (Array.replicate L.toArray.size Xd) F a w.drew (by simp) (fun i hi hi'=>by simp at hi';simp[hi']) (by rw[hu];simp) (fun i j hj _=>by
   exfalso;rw[Array.getD_eq_getD_getElem?,Array.getElem?_replicate]at hj
   split at hj <;> simp at hj)
  (h0 _) (by rw[hu];exact h')
 have hsz:T+(L.length - T)=L.toArray.size:=by simp;omega
 rw[hsz]at hfin;exact hfin
end
end
theorem QG {α:Type}:∀{S:List (Nat × α)} {k:Nat} {s:α},S.lookup k=Xa s->∃x∈S,x.2=s/\x.1=k
 | [],k,s,h=>by simp at h
 | x :: S,k,s,h=>by
  rw[List.lookup_cons]at h
  split at h
  ·rename_i he
   exact⟨x,by simp,by simpa using h,(by simpa using he:k=x.1).symm⟩
  obtain⟨y,hy,he⟩:=QG h;exact⟨y,by simp[hy],he⟩
structure zn (w0:Xo) where
 world:Xo
 grew:zc w0 world
def zlg (o:Oper):Bool:=
 match o.op with
 | .move _ | .assign _ | .pick .. | .build .. | .load .. | .binOp .. | .unOp .. | .convert .. | .fieldAddr .. | .field .. | .indexAddr .. | .index .. | .extract .. | .slice .. | .lookup ..=>Xc
 | .call { callee:= .builtin .len,.. } | .call { callee:= .builtin .cap,.. } | .call { callee:= .builtin .max,.. } | .call { callee:= .builtin .min,.. }=>Xc
 | _=>Xd
theorem zaO {P:Program} {α:Type} {s:Sem α} {g:α->Xr} {w:Xo} {n:Next}:(s >>= fun v=>pure (Next.value (g v))).run P w= .ok n w'->∃v,n= .value v:=by
 intro h;rw[Xz]at h
 cases hs:s.run P w with
 | ok x w1=>simp[hs,Result.andThen,Ye]at h;exact⟨_,h.1.symm⟩
 | halt x w1=>simp[hs,Result.andThen]at h
structure zj (I:Xo->Prop) where
 world:Xo
 holds:I world
section
variable{P:Program} {o:Oper} {a:Act}
theorem zhV (ht:zlg o=Xc) {ρ:Operand->Xr} {w w':Xo} {n:Next}:(execOp ρ o).run P w= .ok n w'->∃v,n= .value v:=by
 obtain⟨dst,op,type,pos,after,guard⟩:=o
 cases op <;> simp only[zlg,Yk]at ht <;> simp only[execOp]
 all_goals first
  | exact zaO (g:=id)
  | exact zaO
  | (intro h;simp[Ye]at h;exact⟨_,h.1.symm⟩)
  | skip
 rename_i c
 obtain⟨callee,as1,ts⟩:=c
 cases callee with
 | value _=>simp at ht
 | invoke _ _=>simp at ht
 | builtin b=>
  cases b <;> simp only[Yk]at ht <;> simp only[resolve,pure_bind,invoke,builtin] <;> exact zaO (g:=id)
theorem zao (ht:zlg o=Xc) {U:Xo->Prop} {K:Act->Prop} (h:o.quiet P a U K):∃v,(∀w,U w->(execOp a.eval o).run P w= .ok (.value v) w)/\K (a.put o.dst v):=by
 obtain⟨v,h1,h2⟩:=h;refine⟨v,fun w hg=>?_,h2⟩
 have h3:=h1 w hg;unfold Oper.quietAt at h3;have hne:=fun n w'=>@zhV P o ht a.eval w w' n
 generalize(execOp a.eval o).run P w=r at*
 cases r with
 | ok n w'=>
  cases n <;> simp only[Oper.quietUpon]at h3
  case value u=>rw[h3.1,h3.2]
  case skip=>obtain⟨_,he⟩:=hne _ _ rfl;cases he
  case enter f args=>obtain⟨_,he⟩:=hne _ _ rfl;cases he
 | halt x w'=>simp only[Oper.quietUpon]at h3
theorem zhc {w:Xo} (x:Operand) (p:Addr) (ho:o.op= .nilCheck x) (hx:a.eval x= Xj (Xa p)):(execOp a.eval o).run P w= .ok (.value (Xj (Xa p))) w:=by
 simp[execOp,ho,hx]
theorem zQ.call {w:Xo} {K:Xr->Xo->Prop} {f:FuncId} {xs:List Operand} {ts:Array TypeId} {fn:Func} (args:List Xr)
  (ho : o.op = .call { callee := .value (.func f), args := xs.toArray, argTypes := ts }) (hf : P.funcs[f]? = some fn) (hb : fn.body.isNone = false) (hn : (fn.name == "runtime.NumGoroutine") = false)
  (ha:xs.map a.eval=args) (h:Xq P f args.toArray w fun e w'=>∃v,e= Xl v/\K v w'):zQ P o a w K:=by
 have hr:(execOp a.eval o).run P w= .ok (.enter f args.toArray) w:=by
  have he : a.eval (.func f) = .func (.func f) #[] #[] := rfl;simp only [execOp, ho, resolve, he, List.map_toArray, ha, Deferred.ofValue, pure_bind, invoke];have hn' : fn.name ≠ "runtime.NumGoroutine" := by simpa using hn
  have hb':fn.body≠Xb:=fun e=>by rw[e]at hb;cases hb
  simp[callFunc,hf,hb',hn',program,Xz,Sem.run]
 unfold zQ;rw[hr];exact h
end
structure zew where
 arg:Operand
 pv:Xr->Prop
 post:Xr->Xr->Xo->Prop
 step:Xo->Xo->Prop
 pre:Xo->Prop:=fun _=>True
section
variable(I:Xo->Prop) (P:Program) (ops:Array Oper) (S:Nat->Option zew)
def jh (i:Nat) (F:Nat->Xo->Prop) (a:Act) (K:(Nat->Xo->Prop)->Act->Prop):Prop:=
 match ops[i]? with
 | none=>False
 | some o=>
  if Xt o (yielded ops a.tmps)then
   match S i with
   | none=>∃v,(∀w,I w->(∀m,anc ops 9 m i=Xc->F m w)->(execOp a.eval o).run P w= .ok (.value v) w)/\K F (a.put o.dst v)
   | some s=>(∀w,I w->s.pre w->(∀m,anc ops 9 m i=Xc->F m w)->zQ P o a w fun v w'=>I w'/\s.step w w'/\s.pv v/\s.post (a.eval s.arg) v w')/\∀v,s.pv v->K (zcq F i (s.post (a.eval s.arg) v)) (a.put o.dst v)
  else K F (a.put o.dst undef)
end
section
variable{I:Xo->Prop} {P:Program} {ops:Array Oper} {S:Nat->Option zew} {J:Act->Xo->Prop}
theorem jh.mono {i:Nat} {F:Nat->Xo->Prop} {a:Act} {K K':(Nat->Xo->Prop)->Act->Prop}
  (h:∀F' a',(∀m,m≠i->F' m=F m)->K F' a'->K' F' a') (hc:jh I P ops S i F a K):jh I P ops S i F a K':=by
 unfold jh at*
 split
 ·rename_i ho;simp only[ho]at hc
 rename_i o ho
 simp only[ho]at hc
 split
 ·rename_i hw
  simp only[hw,if_true]at hc
  split
  ·rename_i hs
   simp only[hs]at hc;obtain⟨v,h1,h2⟩:=hc;exact⟨v,h1,h _ _ (fun _ _=>rfl) h2⟩
  rename_i s hs
  simp only[hs]at hc;exact⟨hc.1,fun v hv=>h _ _ (fun m hm=>ZE hm) (hc.2 v hv)⟩
 rename_i hw
 simp only[hw]at hc;exact h _ _ (fun _ _=>rfl) hc
theorem jh.swap {i:Nat} {oi:Oper} {F:Nat->Xo->Prop} {a:Act} {K:(Nat->Xo->Prop)->Act->Prop} {w:Xo}
  (hi:ops[i]? =Xa oi) (hj:ops[j]? =Xa oj) (hne:i≠j) (hap:oi.apart ops oj=Xc)
  (hsi:∀cs b,oi.op≠.select cs b) (hsj:∀cs b,oj.op≠.select cs b)
  (hA:∀k s o,S k=Xa s->ops[k]? =Xa o->∀d,s.arg= .tmp d->d∈o.looksAt ops) (hij:anc ops 9 i j=Xd) (hji:anc ops 9 j i=Xd) (hS:∀s,S i=Xa s->∃v,s.pv v)
  (hw0:I w) (hF:∀m,anc ops 9 m j=Xc->F m w)
  (h:jh I P ops S i F a fun F' a'=>jh I P ops S j F' a' K):jh I P ops S j F a fun F' a'=>jh I P ops S i F' a' K:=by
 obtain⟨h1,h2,h3⟩:=Oper.apart_spec hap;have ei:∀v,execOp (a.put oj.dst v).eval oi=execOp a.eval oi:=fun v=>execOp_put oi hsi a oj.dst v h3
 have ej:∀v,execOp (a.put oi.dst v).eval oj=execOp a.eval oj:=fun v=>execOp_put oj hsj a oi.dst v h1
 have wi:∀v,Xt oi (yielded ops (a.put oj.dst v).tmps)=Xt oi (yielded ops a.tmps):=fun v=>wanted_put oi a oj.dst v h3
 have wj:∀v,Xt oj (yielded ops (a.put oi.dst v).tmps)=Xt oj (yielded ops a.tmps):=fun v=>wanted_put oj a oi.dst v h1
 have di:∀v w K,zQ P oi (a.put oj.dst v) w K=zQ P oi a w K:=fun v w K=>by unfold zQ;rw[ei]
 have dj:∀v w K,zQ P oj (a.put oi.dst v) w K=zQ P oj a w K:=fun v w K=>by unfold zQ;rw[ej]
 have gi:∀v s,S i=Xa s->(a.put oj.dst v).eval s.arg=a.eval s.arg:=fun v s hs=>Act.eval_put fun d hd hxd=>h3 d hd (hA i s oi hs hi d hxd)
 have gj:∀v s,S j=Xa s->(a.put oi.dst v).eval s.arg=a.eval s.arg:=fun v s hs=>Act.eval_put fun d hd hxd=>h1 d hd (hA j s oj hs hj d hxd)
 have pc:∀v u,(a.put oi.dst v).put oj.dst u=(a.put oj.dst u).put oi.dst v:=fun v u=>Act.put_comm a v u h2
 have fi:∀p,(fun m=>anc ops 9 m i=Xc->zcq F j p m w=F m w)=fun _=>True:=fun p=>by
  funext m
  simp only[eq_iff_iff,iff_true];intro hm;rw[ZE (fun e=>by subst e;rw[hji]at hm;cases hm)]
 have faci:∀p w',(∀m,anc ops 9 m i=Xc->zcq F j p m w')↔(∀m,anc ops 9 m i=Xc->F m w'):=fun p w'=>by
  constructor <;> intro hh m hm <;> have:=hh m hm
  ·rwa [ZE (fun e=>by subst e;rw[hji]at hm;cases hm)]at this
  rwa [ZE (fun e=>by subst e;rw[hji]at hm;cases hm)]
 have facj:∀p w',(∀m,anc ops 9 m j=Xc->zcq F i p m w')↔(∀m,anc ops 9 m j=Xc->F m w'):=fun p w'=>by
  constructor <;> intro hh m hm <;> have:=hh m hm
  ·rwa [ZE (fun e=>by subst e;rw[hij]at hm;cases hm)]at this
  rwa [ZE (fun e=>by subst e;rw[hij]at hm;cases hm)]
 clear fi;unfold jh at h⊢;simp only[hi,hj,ei,ej,wi,wj,di,dj,pc]at h⊢
 cases hwi:Xt oi (yielded ops a.tmps) <;> cases hwj:Xt oj (yielded ops a.tmps) <;>
  simp only[hwi,hwj,if_true,if_false,Yk]at h⊢
 ·exact h
 ·cases hsj':S j with
  | none=>simp only[hsj']at h⊢;exact h
  | some s=>simp only[hsj',gj _ s hsj']at h⊢;exact h
 ·cases hsi':S i with
  | none=>simp only[hsi']at h⊢;exact h
  | some s=>simp only[hsi',gi _ s hsi']at h⊢;exact h
 cases hsi':S i with
 | none=>
  simp only[hsi']at h;obtain⟨vi,hri,h⟩:=h
  cases hsj':S j with
  | none=>
   simp only[hsj']at h⊢;obtain⟨vj,hrj,h⟩:=h;exact⟨vj,hrj,vi,hri,h⟩
  | some s=>
   simp only[hsj',gj _ s hsj']at h⊢;exact⟨h.1,fun vj hvj=>⟨vi,fun w' hw' hf=>hri w' hw' ((faci _ _).1 hf),h.2 vj hvj⟩⟩
 | some si=>
  simp only[hsi']at h;obtain⟨hdi,h⟩:=h;obtain⟨v1,hv1⟩:=hS si hsi'
  cases hsj':S j with
  | none=>
   simp only[hsj',gi _ si hsi']at h⊢;obtain⟨vj,hrj,_⟩:=h v1 hv1;refine⟨vj,fun w' hw' hf=>hrj w' hw' ((facj _ _).2 hf),hdi,fun vi hvi=>?_⟩
   obtain⟨vj',hrj',hl⟩:=h vi hvi;have e1:=hrj w hw0 ((facj _ _).2 hF);have e2:=hrj' w hw0 ((facj _ _).2 hF);rw[e1]at e2;simp only[Result.ok.injEq,Next.value.injEq,and_true]at e2;subst e2;exact hl
  | some sj=>
   simp only[hsj',gj _ sj hsj',gi _ si hsi']at h⊢;refine⟨fun w' hw' hpr hf=>(h v1 hv1).1 w' hw' hpr ((facj _ _).2 hf),fun vj hvj=>⟨fun w' hw' hpr hf=>hdi w' hw' hpr ((faci _ _).1 hf),fun vi hvi=>?_⟩⟩
   have:=(h vi hvi).2 vj hvj;rwa [zkg hne]at this
def okE (I:Xo->Prop) (J:Act->Xo->Prop) (S:Nat->Option zew) (listed:Array Bool) (F:Nat->Xo->Prop) (a:Act) (w:Xo):Prop:=
 I w/\J a w/\(∀i,F i w)/\(∀i,(∀w,F i w)\/∃s u v,S i=Xa s/\F i=s.post u v/\listed.getD i Xd=Xc)/\∀k t,S k=Xa t->listed.getD k Xc=Xd->t.pre w
theorem zog (hA:∀k s o,S k=Xa s->ops[k]? =Xa o->∀d,s.arg= .tmp d->d∈o.looksAt ops) (hS:∀k s,S k=Xa s->∃v,s.pv v)
  (hp:∀k s j t,S k=Xa s->S j=Xa t->j≠k->anc ops 9 j k=Xd->∀u v w w',t.step w w'->s.post u v w->s.post u v w') (hpre:∀j t k s,S j=Xa t->S k=Xa s->j≠k->∀w w',s.step w w'->t.pre w->t.pre w')
  (hJq:∀(j:Nat) o,ops[j]? =Xa o->S j=Xb->∀a v w,(execOp a.eval o).run P w= .ok (.value v) w->J a w->J (a.put o.dst v) w) (hJs:∀(j:Nat) o s,ops[j]? =Xa o->S j=Xa s->∀a w K,J a w->I w->zQ P o a w K->zQ P o a w fun v w'=>K v w'/\J (a.put o.dst v) w') (hJu:∀(j:Nat) o,ops[j]? =Xa o->∀a w,J a w->J (a.put o.dst undef) w):
  Way P ops (jh I P ops S) (fun j F=>∃w,I w/\∀m,anc ops 9 m j=Xc->F m w) (okE I J S) where
 mono h:=jh.mono fun F' a' hF' hk=>h F' a' (fun j hij ⟨w,h1,h2⟩=>⟨w,h1,fun m hm=>by
  rw[hF' m (fun e=>by subst e;rw[hij]at hm;cases hm)]
  exact h2 m hm⟩) hk
 swap hi hj hlt hap hsi hsj hij hji:=fun⟨_,h1,h2⟩=>jh.swap hi hj (by omega) hap hsi hsj hA hij hji (hS _) h1 h2
 lean j h:=⟨_,h.1,fun m _=>h.2.2.1 m⟩
 step {listed F a w j oj K N Q} hsz hoj h0 hc hok hcm hN:=by
  obtain⟨hw,hJ,hF,hFp,hPre⟩:=hok;have hFs:∀i,(∀w,F i w)\/∃s u v,S i=Xa s/\F i=s.post u v/\(listed.setIfInBounds j Xc).getD i Xd=Xc:=fun i=>(hFp i).imp id fun⟨s,u,v,e1,e2,e3⟩=>⟨s,u,v,e1,e2,getD_set_true e3⟩
  have hPs:∀k,(listed.setIfInBounds j Xc).getD k Xc=Xd->k≠j/\listed.getD k Xc=Xd:=fun k hl=>by
   by_cases e:j=k
   ·subst e;have:=(aS.1 hoj).1
    simp[show j<listed.size by omega]at hl
   rw[getD_set_ne Xc e]at hl;exact⟨fun h=>e h.symm,hl⟩
  simp only[jh,hoj]at hcm
  split
  ·rename_i hwant
   simp only[hwant,if_true]at hcm
   cases hs:S j with
   | none=>
    simp only[hs]at hcm;obtain⟨v,hrun,hk⟩:=hcm;have hr:=hrun w hw (fun m _=>hF m)
    unfold Oper.wp;rw[hr];exact hN F _ w ⟨hw,hJq j oj hoj hs a v w hr hJ,hF,hFs,fun k t hk' hl'=>hPre k t hk' (hPs k hl').2⟩ hk
   | some s=>
    simp only[hs]at hcm;refine(hJs j oj s hoj hs a w _ hJ hw (hcm.1 w hw (hPre j s hs h0) (fun m _=>hF m))).wp fun v w' ⟨⟨hi',hstep,hpv,hpost⟩,hJ'⟩=>?_
    refine hN (zcq F j (s.post (a.eval s.arg) v)) _ w' ⟨hi',hJ',fun i=>?_,fun i=>?_,fun k t hk' hl'=>hpre k t j s hk' hs (hPs k hl').1 w w' hstep (hPre k t hk' (hPs k hl').2)⟩ (hcm.2 v hpv)
    ·unfold zcq
     split
     ·exact hpost
     rename_i hij
     rcases hFp i with h1|⟨s1,u1,v1,e1,e2,e3⟩
     ·exact h1 w'
     rw[e2];refine hp i s1 j s e1 hs (fun e=>hij e.symm) ?_ u1 v1 w w' hstep ?_
     ·cases ha:anc ops 9 j i with
      | false=>rfl
      | true=>
       have h1:=Qt hc 9 j i (fun k hk=>hc k i e3 hk) ha
       rw[Jj h0]at h1;cases h1
     have:=hF i;rw[e2]at this;exact this
    by_cases hij:i=j
    ·subst hij;refine .inr ⟨s,a.eval s.arg,v,hs,?_,?_⟩
     ·unfold zcq;rw[kE rfl]
     have:=(aS.1 hoj).1
     simp[show i<listed.size by omega]
    rcases hFs i with h1|⟨s1,u1,v1,e1,e2,e3⟩
    ·refine .inl fun w=>?_
     unfold zcq;rw[kF hij];exact h1 w
    refine .inr ⟨s1,u1,v1,e1,?_,e3⟩;unfold zcq;rw[kF hij];exact e2
  rename_i hwant
  simp only[hwant]at hcm;exact hN F _ w ⟨hw,hJu j oj hoj a w hJ,hF,hFs,fun k t hk' hl'=>hPre k t hk' (hPs k hl').2⟩ hcm
variable{Q:Act->Xo->Prop}
variable(I P ops S Q)in
abbrev Js:List Oper->Nat->(Nat->Xo->Prop)->Act->Prop:=zfU ops (jh I P ops S) fun F a=>∀w,I w->(∀i,F i w)->Q a w
theorem zmT {Q:Exit->Act->Xo->Prop} {a:Act} {w:Xo} {L l r:List Oper} (T:Nat) (hI:I w.drew) (hJ0:J a w.drew) (hm:P.follows .mixedOrders=Xc) (hB:Qh L.toArray T=Xc) (hl:L.take T=l) (hr:L.drop T=r) (hT:T<=L.length) (hA:∀k s o,S k=Xa s->L.toArray[k]? =Xa o->∀d,s.arg= .tmp d->d∈o.looksAt L.toArray)
  (hS:∀k s,S k=Xa s->∃v,s.pv v) (hp:∀k s j t,S k=Xa s->S j=Xa t->j≠k->anc L.toArray 9 j k=Xd->∀u v w w',t.step w w'->s.post u v w->s.post u v w') (hpre:∀j t k s,S j=Xa t->S k=Xa s->j≠k->∀w w',s.step w w'->t.pre w->t.pre w') (hpr0:∀k t,S k=Xa t->t.pre w.drew)
  (hJq:∀(j:Nat) o,L.toArray[j]? =Xa o->S j=Xb->∀a v w,(execOp a.eval o).run P w= .ok (.value v) w->J a w->J (a.put o.dst v) w) (hJs:∀(j:Nat) o s,L.toArray[j]? =Xa o->S j=Xa s->∀a w K,J a w->I w->zQ P o a w K->zQ P o a w fun v w'=>K v w'/\J (a.put o.dst v) w') (hJu:∀(j:Nat) o,L.toArray[j]? =Xa o->∀a w,J a w->J (a.put o.dst undef) w)
  (h:Js I P L.toArray S (fun a w=>J a w->wpList P L.toArray Q r a w) l 0 (fun _ _=>True) a):(Code.region id L.toArray Xc).wp P Q a w:=
 zf9 (zog hA hS hp hpre hJq hJs hJu) T hm hB hl hr hT (fun _=>⟨hI,hJ0,fun _=>trivial,fun _=> .inl fun _=>trivial,fun k t hk _=>hpr0 k t hk⟩) (fun _ _ _ _ hok h=>h _ hok.1 hok.2.2.1 hok.2.1) h
theorem zga {Q:Exit->Act->Xo->Prop} {a:Act} {w:Xo} {L l r:List Oper} (T:Nat) (hI:I w.drew) (hm:P.follows .mixedOrders=Xc) (hB:Qh L.toArray T=Xc) (hl:L.take T=l) (hr:L.drop T=r) (hT:T<=L.length) (hA:∀k s o,S k=Xa s->L.toArray[k]? =Xa o->∀d,s.arg= .tmp d->d∈o.looksAt L.toArray)
  (hS:∀k s,S k=Xa s->∃v,s.pv v) (hp:∀k s j t,S k=Xa s->S j=Xa t->j≠k->anc L.toArray 9 j k=Xd->∀u v w w',t.step w w'->s.post u v w->s.post u v w') (hpre:∀j t k s,S j=Xa t->S k=Xa s->j≠k->∀w w',s.step w w'->t.pre w->t.pre w') (hpr0:∀k t,S k=Xa t->t.pre w.drew)
  (h:Js I P L.toArray S (fun a w=>wpList P L.toArray Q r a w) l 0 (fun _ _=>True) a):(Code.region id L.toArray Xc).wp P Q a w:=
 zf9 (zog (J:=fun _ _=>True) hA hS hp hpre (fun _ _ _ _ _ _ _ _ _=>trivial) (fun _ _ _ _ _ _ _ _ _ _ h=>h.mono fun _ _ hk=>⟨hk,trivial⟩) (fun _ _ _ _ _ _=>trivial)) T hm hB hl hr hT (fun _=>⟨hI,trivial,fun _=>trivial,fun _=> .inl fun _=>trivial,fun k t hk _=>hpr0 k t hk⟩) (fun _ _ _ _ hok h=>h _ hok.1 hok.2.2.1) h
variable{o:Oper} {rest:List Oper} {k:Nat} {F:Nat->Xo->Prop} {a:Act}
theorem zce (h:ops[k]? =Xa o->jh I P ops S k F a (Js I P ops S Q rest (k+1))):Js I P ops S Q (o :: rest) k F a:=zfU.cons (fun h=>jh.mono fun F' a' _=>h F' a') h
theorem zd1 (hw:Xt o (yielded ops a.tmps)=Xc) (hS:S k=Xb) {v:Xr} (h1:∀w,I w->(execOp a.eval o).run P w= .ok (.value v) w) (h2:Js I P ops S Q rest (k+1) F (a.put o.dst v)):Js I P ops S Q (o :: rest) k F a:=zce fun h0=>by
 simp only[jh,h0,hw,if_true,hS];exact⟨v,fun w hw _=>h1 w hw,h2⟩
theorem JC (ht:zlg o=Xc) (hw:Xt o (yielded ops a.tmps)=Xc) (hS:S k=Xb)
  (h:∀K:Act->Prop,(∀a,Js I P ops S Q rest (k+1) F a->K a)->o.quiet P a (fun w'=>∃x:zj I,w'=x.world) K):Js I P ops S Q (o :: rest) k F a:=by
 obtain⟨v,h1,h2⟩:=zao ht (h _ fun _ h=>h)
 exact zd1 hw hS (fun w hw=>h1 w ⟨⟨w,hw⟩,rfl⟩) h2
theorem zfi (hw:Xt o (yielded ops a.tmps)=Xd) (h:Js I P ops S Q rest (k+1) F (a.put o.dst undef)):Js I P ops S Q (o :: rest) k F a:=zce fun h0=>by
 simp only[jh,h0,hw,Yk,if_false];exact h
theorem Jc {s:zew} (hw:Xt o (yielded ops a.tmps)=Xc) (hS:S k=Xa s)
  (h:∀w,I w->s.pre w->(∀m,anc ops 9 m k=Xc->F m w)->zQ P o a w fun v w'=>I w'/\s.step w w'/\s.pv v/\s.post (a.eval s.arg) v w')
  (hn:∀v,s.pv v->Js I P ops S Q rest (k+1) (zcq F k (s.post (a.eval s.arg) v)) (a.put o.dst v)):Js I P ops S Q (o :: rest) k F a:=zce fun h0=>by
 simp only[jh,h0,hw,if_true,hS];exact⟨h,hn⟩
theorem zd2 (h:∀w,I w->(∀i,F i w)->Q a w):Js I P ops S Q [] k F a:=⟨fun _=>h⟩
theorem zfj (x:Operand) (p:Addr) (ho:o.op= .nilCheck x) (hx:a.eval x= Xj (Xa p)) (hw:Xt o (yielded ops a.tmps)=Xc) (hS:S k=Xb) (h:Js I P ops S Q rest (k+1) F (a.put o.dst (Xj (Xa p)))):Js I P ops S Q (o :: rest) k F a:=zd1 hw hS (fun _ _=>zhc x p ho hx) h
end
def zkZ (ops:Array Oper) (S:List (Nat × zew)):Bool:=S.all fun x=>match x.2.arg with
 | .tmp d=>(match ops[x.1]? with | some o=>(o.looksAt ops).contains d | none=>Xd)
 | _=>Xc
theorem zgY {S:List (Nat × zew)} (h:zkZ ops S=Xc):∀k s o,S.lookup k=Xa s->ops[k]? =Xa o->∀d,s.arg= .tmp d->d∈o.looksAt ops:=fun k s o hk ho d hd=>by
 have hm:(k,s)∈S:=by
  induction S with
  | nil=>simp at hk
  | cons x S ih=>
   rw[List.lookup_cons]at hk
   split at hk
   ·rename_i e
    have e1:k=x.1:=by simpa using e
    have e2:x.2=s:=by simpa using hk
    rw[e1,<-e2];simp
   exact List.mem_cons_of_mem _ (ih (by simp only[zkZ,List.all_cons,Xw]at h;exact h.2) hk)
 have:=Yh.1 h _ hm;simp only[hd,ho]at this
 simpa using this
theorem zeG {I:Xo->Prop} {P:Program} {a:Act} {w:Xo} {L l r:List Oper} (T:Nat) (S:List (Nat × zew)) (hI:I w.drew) (hm:P.follows .mixedOrders=Xc) (hAB:zkZ L.toArray S=Xc) (hB:Qh L.toArray T=Xc) (hl:L.take T=l) (hr:L.drop T=r) (hT:T<=L.length)
  (hS:∀x∈S,∃v,x.2.pv v) (hp:∀k s j t,S.lookup k=Xa s->S.lookup j=Xa t->j≠k->anc L.toArray 9 j k=Xd->∀u v w w',t.step w w'->s.post u v w->s.post u v w') (hpre:∀j t k s,S.lookup j=Xa t->S.lookup k=Xa s->j≠k->∀w w',s.step w w'->t.pre w->t.pre w') (hpr0:∀k t,S.lookup k=Xa t->t.pre w.drew)
  (h:Js I P L.toArray (fun k=>S.lookup k) (fun a w=>wpList P L.toArray Q r a w) l 0 (fun _ _=>True) a):(Code.region id L.toArray Xc).wp P Q a w:=
 zga T hI hm hB hl hr hT (zgY hAB) (fun k s hk=>by obtain⟨x,hx,rfl,_⟩:=QG hk;exact hS x hx) hp hpre hpr0 h
structure zcL where
 pv:Xr->Prop
 post:Xr->Xo->Prop
 step:Xo->Xo->Prop
 pre:Xo->Prop:=fun _=>True
def zcL.e (s:zcL):zew:=⟨.const undef,s.pv,fun _=>s.post,s.step,s.pre⟩
theorem J6 {x:Option zcL} {s:zew} (h:x.map zcL.e=Xa s):∃t,x=Xa t/\s=t.e:=by
 cases x with
 | none=>cases h
 | some t=>cases h;exact⟨t,rfl,rfl⟩
section
variable{I:Xo->Prop} {P:Program} {ops:Array Oper} {S:Nat->Option zcL} {Q:Act->Xo->Prop}
variable(I P ops S Q)in
abbrev zbx:List Oper->Nat->(Nat->Xo->Prop)->Act->Prop:=Js I P ops (fun k=>(S k).map zcL.e) Q
theorem qP {Q:Exit->Act->Xo->Prop} {a:Act} {w:Xo} {L l r:List Oper} (T:Nat) (S:List (Nat × zcL)) (hI:I w.drew) (hm:P.follows .mixedOrders=Xc) (hB:Qh L.toArray T=Xc) (hl:L.take T=l) (hr:L.drop T=r) (hT:T<=L.length)
  (hS:∀x∈S,∃v,x.2.pv v) (hp:∀k s j t,S.lookup k=Xa s->S.lookup j=Xa t->j≠k->anc L.toArray 9 j k=Xd->∀v w w',t.step w w'->s.post v w->s.post v w') (hpre:∀j t k s,S.lookup j=Xa t->S.lookup k=Xa s->j≠k->∀w w',s.step w w'->t.pre w->t.pre w') (hpr0:∀k t,S.lookup k=Xa t->t.pre w.drew)
  (h:zbx I P L.toArray (fun k=>S.lookup k) (fun a w=>wpList P L.toArray Q r a w) l 0 (fun _ _=>True) a):(Code.region id L.toArray Xc).wp P Q a w:=by
 refine zga T hI hm hB hl hr hT ?_ ?_ ?_ ?_ ?_ h
 ·intro k s o hk _ d hd;obtain⟨t,_,rfl⟩:=J6 hk;cases hd
 ·intro k s hk;obtain⟨t,h1,rfl⟩:=J6 hk;obtain⟨x,hx,rfl,_⟩:=QG h1;exact hS x hx
 ·intro k s j t hk hj hne ha _ v;obtain⟨s,h1,rfl⟩:=J6 hk;obtain⟨t,h2,rfl⟩:=J6 hj;exact hp k s j t h1 h2 hne ha v
 ·intro j t k s hj hk hne;obtain⟨s,h1,rfl⟩:=J6 hk;obtain⟨t,h2,rfl⟩:=J6 hj;exact hpre j t k s h2 h1 hne
 intro k t hk;obtain⟨t,h1,rfl⟩:=J6 hk;exact hpr0 k t h1
variable{o:Oper} {rest:List Oper} {k:Nat} {F:Nat->Xo->Prop} {a:Act}
theorem zk (ht:zlg o=Xc) (hw:Xt o (yielded ops a.tmps)=Xc) (hS:S k=Xb)
  (h:∀K:Act->Prop,(∀a,zbx I P ops S Q rest (k+1) F a->K a)->o.quiet P a (fun w'=>∃x:zj I,w'=x.world) K):zbx I P ops S Q (o :: rest) k F a:=JC ht hw (by rw[hS];rfl) h
theorem zcc (hw:Xt o (yielded ops a.tmps)=Xd) (h:zbx I P ops S Q rest (k+1) F (a.put o.dst undef)):zbx I P ops S Q (o :: rest) k F a:=zfi hw h
theorem zP {s:zcL} (hw:Xt o (yielded ops a.tmps)=Xc) (hS:S k=Xa s)
  (h:∀w,I w->s.pre w->(∀m,anc ops 9 m k=Xc->F m w)->zQ P o a w fun v w'=>I w'/\s.step w w'/\s.pv v/\s.post v w')
  (hn:∀v,s.pv v->zbx I P ops S Q rest (k+1) (zcq F k (s.post v)) (a.put o.dst v)):zbx I P ops S Q (o :: rest) k F a:=Jc (s:=s.e) hw (by rw[hS];rfl) h hn
theorem jS (h:∀w,I w->(∀i,F i w)->Q a w):zbx I P ops S Q [] k F a:=zd2 h
theorem jM (x:Operand) (p:Addr) (ho:o.op= .nilCheck x) (hx:a.eval x= Xj (Xa p)) (hw:Xt o (yielded ops a.tmps)=Xc) (hS:S k=Xb) (h:zbx I P ops S Q rest (k+1) F (a.put o.dst (Xj (Xa p)))):zbx I P ops S Q (o :: rest) k F a:=zfj x p ho hx hw (by rw[hS];rfl) h
end
structure zmQ where
 pv:Xr->Prop
 post:Xr->Xo->Prop
def zmQ.i (s:zmQ):zcL:=⟨s.pv,s.post,zc,fun _=>True⟩
section
variable{P:Program} {ops:Array Oper} {w0:Xo} {S:Nat->Option zmQ} {Q:Act->Xo->Prop}
variable(P ops w0 S Q)in
abbrev zk2:List Oper->Nat->(Nat->Xo->Prop)->Act->Prop:=zbx (zc w0) P ops (fun k=>(S k).map zmQ.i) Q
theorem zkb (w:Xo):zc w w.drew:=show Below _ _ _ from(bR _ _).drew
theorem qR {Q:Exit->Act->Xo->Prop} {a:Act} {w:Xo} {L l r:List Oper} (T:Nat) (S:List (Nat × zmQ)) (hm:P.follows .mixedOrders=Xc) (hB:Qh L.toArray T=Xc) (hl:L.take T=l) (hr:L.drop T=r) (hT:T<=L.length)
  (hS:∀x∈S,∃v,x.2.pv v) (hp:∀x∈S,∀v w w',zc w w'->x.2.post v w->x.2.post v w')
  (h:zk2 P L.toArray w (fun k=>S.lookup k) (fun a w=>wpList P L.toArray Q r a w) l 0 (fun _ _=>True) a):(Code.region id L.toArray Xc).wp P Q a w:=by
 have key:∀k s,((S.lookup k).map zmQ.i).map zcL.e=Xa s->∃x∈S,s=x.2.i.e:=fun k s hk=>by
  cases hs:S.lookup k with
  | none=>rw[hs]at hk;cases hk
  | some t=>
   rw[hs]at hk;cases hk;obtain⟨x,hx,rfl,_⟩:=QG hs;exact⟨x,hx,rfl⟩
 refine zga T (zkb w) hm hB hl hr hT ?_ ?_ ?_ ?_ ?_ h
 ·intro k s o hk _ d hd;obtain⟨x,_,rfl⟩:=key k s hk;cases hd
 ·intro k s hk;obtain⟨x,hx,rfl⟩:=key k s hk;exact hS x hx
 ·intro k s j t hk hj _ _ _ v w w' hst;obtain⟨x,hx,rfl⟩:=key k s hk;obtain⟨y,_,rfl⟩:=key j t hj;exact hp x hx v w w' hst
 ·intro j t k s hj _ _ _ _ _ _;obtain⟨x,_,rfl⟩:=key j t hj;trivial
 intro k t hk;obtain⟨x,_,rfl⟩:=key k t hk;trivial
theorem ji {Q:Exit->Act->Xo->Prop} {a:Act} {w:Xo} {l:List Oper} (S:List (Nat × zmQ)) (hm:P.follows .mixedOrders=Xc) (hB:Qh l.toArray l.length=Xc)
  (hS:∀x∈S,∃v,x.2.pv v) (hp:∀x∈S,∀v w w',zc w w'->x.2.post v w->x.2.post v w')
  (h:zk2 P l.toArray w (fun k=>S.lookup k) (fun a w=>Q .normal a w) l 0 (fun _ _=>True) a):(Code.region id l.toArray Xc).wp P Q a w:=
 qR l.length S hm hB (List.take_length ..) (List.drop_length ..) (nR _) hS hp h
variable{o:Oper} {rest:List Oper} {k:Nat} {F:Nat->Xo->Prop} {a:Act}
theorem zd (ht:zlg o=Xc) (hw:Xt o (yielded ops a.tmps)=Xc) (hS:S k=Xb)
  (h:∀K:Act->Prop,(∀a,zk2 P ops w0 S Q rest (k+1) F a->K a)->o.quiet P a (fun w'=>∃x:zn w0,w'=x.world) K):zk2 P ops w0 S Q (o :: rest) k F a:=by
 obtain⟨v,h1,h2⟩:=zao ht (h _ fun _ h=>h)
 exact zd1 hw (by simp only[hS];rfl) (fun w hw=>h1 w ⟨⟨w,hw⟩,rfl⟩) h2
theorem qa (hw:Xt o (yielded ops a.tmps)=Xd) (h:zk2 P ops w0 S Q rest (k+1) F (a.put o.dst undef)):zk2 P ops w0 S Q (o :: rest) k F a:=zfi hw h
theorem zE {s:zmQ} (hw:Xt o (yielded ops a.tmps)=Xc) (hS:S k=Xa s)
  (h:∀w,zc w0 w->(∀m,anc ops 9 m k=Xc->F m w)->zQ P o a w fun v w'=>zc w w'/\s.pv v/\s.post v w')
  (hn:∀v,s.pv v->zk2 P ops w0 S Q rest (k+1) (zcq F k (s.post v)) (a.put o.dst v)):zk2 P ops w0 S Q (o :: rest) k F a:=Jc (s:=s.i.e) hw (by simp only[hS];rfl) (fun w hg _ hF=>(h w hg hF).mono fun _ _ hk=>⟨hg.trans hk.1,hk⟩) hn
theorem z6 (h:∀w,zc w0 w->(∀i,F i w)->Q a w):zk2 P ops w0 S Q [] k F a:=zd2 h
theorem zlT (x:Operand) (p:Addr) (ho:o.op= .nilCheck x) (hx:a.eval x= Xj (Xa p)) (hw:Xt o (yielded ops a.tmps)=Xc) (hS:S k=Xb) (h:zk2 P ops w0 S Q rest (k+1) F (a.put o.dst (Xj (Xa p)))):zk2 P ops w0 S Q (o :: rest) k F a:=zfj x p ho hx hw (by simp only[hS];rfl) h
end
theorem zX (a:Addr) (i j:Nat):(a.add i).add j=a.add (i+j):=by
 unfold Addr.add
 by_cases h1:i=0 <;> by_cases h2:j=0 <;> simp[h1,h2] <;> omega
def jz (w:Xo) (x:Addr) (cs:List Xr):Prop:=∀j u,cs[j]? =Xa u->w.cell? (x.add j)=Xa u
theorem jz.grew {w:Xo} {x:Addr} {cs:List Xr} (h:jz w x cs) (hg:zc w w'):jz w' x cs:=fun j u hj=>by
 have h1:=h j u hj;rw[Below.cell hg (World.block_lt_of_cell? _ _ h1)];exact h1
theorem qI {α:Type} {enc:α->List Xr} {k:Nat}:∀(l:List α),(∀a∈l,(enc a).length=k)->(l.flatMap enc).length=l.length*k
 | [],_=>by simp
 | a :: l,h=>by
  rw[Xx,lA,h a (by simp),qI l (fun b hb=>h b (by simp[hb])),Yw,Yx,Nat.one_mul,Yu]
theorem qE {α:Type} {enc:α->List Xr} {k:Nat}:∀(l:List α) (j:Nat) (a:α),(∀b∈l,(enc b).length=k)->l[j]? =Xa a->∀i u,(enc a)[i]? =Xa u->(l.flatMap enc)[j*k+i]? =Xa u
 | [],j,a,_,h,_,_,_=>by simp at h
 | b :: l,0,a,hk,h,i,u,hi=>by
  simp at h;subst h
  have hil:i< (enc b).length:=by
   rcases Yd i (enc b).length with h|h
   ·exact h
   rw[gN h]at hi;cases hi
  rw[Xx,Ol,zA,List.getElem?_append_left hil];exact hi
 | b :: l,j+1,a,hk,h,i,u,hi=>by
  have hb:=hk b (by simp)
  rw[Xx,aR (by rw[hb,Yx];omega),hb]
  have e:(j+1)*k+i - k=j*k+i:=by rw[Yx];omega
  rw[e];exact qE l j a (fun c hc=>hk c (by simp[hc])) (by simpa using h) i u hi
theorem jz.elem {α:Type} {enc:α->List Xr} {k:Nat} {w:Xo} {x:Addr} {l:List α} (h:jz w x (l.flatMap enc)) (hk:∀b∈l,(enc b).length=k) {a:α} (ha:l[j]? =Xa a):jz w (x.add (j*k)) (enc a):=fun i u hi=>by
 rw[zX];exact h _ _ (qE l j a hk ha i u hi)
def jv {α:Type} (enc:α->List Xr) (w:Xo) (v:Xr) (l:List α):Prop:=
 ∃a c,v= O a l.length c/\(a=Xb->l=[])/\∀x,a=Xa x->jz w x (l.flatMap enc)
theorem jv.grew {α:Type} {enc:α->List Xr} {w:Xo} {v:Xr} {l:List α} (h:jv enc w v l) (hg:zc w w'):jv enc w' v l:=by
 obtain⟨a,c,h1,h2,h3⟩:=h;exact⟨a,c,h1,h2,fun x hx=>(h3 x hx).grew hg⟩
theorem j0 {α:Type} {enc:α->List Xr} {w:Xo} {base size:Nat} {e:TypeId} {v:Xr} {l:List α} (h:w.ownsRow base e size v l.length (l.flatMap enc)):jv enc w v l:=by
 rcases h.2 with⟨rfl,hn⟩|⟨g,cap,cur,rfl,h2,h3,h4,h5,h6,h7⟩
 ·have hl:l=[]:=eN hn;subst hl;exact⟨Xb,0,rfl,fun _=>rfl,fun x hx=>by cases hx⟩
 refine⟨Xa ⟨g,0,Xb⟩,cap,rfl,fun h=>(by cases h),fun x hx=>?_⟩
 cases hx;exact h.cells rfl
theorem ZY {w:Xo} {base size n:Nat} {e:TypeId} {v:Xr} (h:w.ownsRow base e size v n xs) (hg:zc w w'):w'.ownsRow base e size v n xs:=by
 refine⟨h.1,?_⟩
 rcases h.2 with h1|⟨g,cap,cur,rfl,h2,h3,h4⟩
 ·exact .inl h1
 exact .inr ⟨g,cap,cur,rfl,h2,by rw[Below.block hg g (aS.1 h3).1];exact h3,h4⟩
theorem qQ {w:Xo} {base size n:Nat} {e:TypeId} {v:Xr} (h:w.ownsRow base e size v n xs) (hb:base'<=base):w.ownsRow base' e size v n xs:=by
 refine⟨h.1,?_⟩
 rcases h.2 with h1|⟨g,cap,cur,rfl,h2,h3⟩
 ·exact .inl h1
 exact .inr ⟨g,cap,cur,rfl,nT hb h2,h3⟩
theorem qT {α:Type} {enc:α->List Xr} (h:∀a,∀u∈enc a,u.oneCell'=Xc) (l:List α):∀u∈l.flatMap enc,u.oneCell'=Xc:=fun u hu=>by
 obtain⟨a,_,ha⟩:=List.mem_flatMap.1 hu;exact h a u ha
theorem qC {n:Nat} (h:n<=140737488355328):n<=maxLen:=by simp[maxLen];omega
theorem za (w:Xo) (o:Obj):zc w (w.alloc o):=(bR _ _).alloc (nR _) _
theorem zz {w:Xo} (h:zc w W) {a:Addr} (ha:w.heap.size<=a.block) (u:Xr):zc w (W.setCell a u):=Below.setCell h ha u
theorem zW:Tryz.prog.follows .mixedOrders=Xc:=by kernel_rfl
def jn (base:Nat) (v:Xr):Prop:=∀x n c,v= O (Xa x) n c->base<=x.block
theorem j3 (base:Nat):jn base (O Xb 0 0):=fun x n c e=>by cases e
theorem Qu (x:Addr) (j:Nat):(x.add j).block=x.block:=by unfold Addr.add;split <;> rfl
theorem jv.setCell {α:Type} {enc:α->List Xr} {base:Nat} {w:Xo} {v:Xr} {l:List α} (h:jv enc w v l) (hf:jn base v) {a:Addr} (ha:a.block<base) (u:Xr):jv enc (w.setCell a u) v l:=by
 obtain⟨x,c,h1,h2,h3⟩:=h;refine⟨x,c,h1,h2,fun y hy j t hj=>?_⟩
 subst hy;have:=hf y _ _ h1;rw[World.cell?_of_block (w:=w) (Below.heap_setCell _ _ _ _ (by rw[Qu];omega))]
 exact h3 y rfl j t hj
theorem Zj (w:Xo) (g:Nat) (cs:Array Xr):w.grownBy (w.setRow g cs) (Xa g):=by
 refine⟨rfl,rfl,rfl,by simp[World.setRow],fun k hk hne=>?_⟩
 have:g≠k:=fun e=>hne (by rw[e])
 unfold World.setRow
 simp[Array.getElem?_modify,this]
theorem qX {P:Program} {w:Xo} {base size n:Nat} {e:TypeId} {v:Xr} (h:w.ownsRow base e size v n xs) {g:Nat} (hg:v.ownBlock=Xa g) (off:Nat) (cs:List Xr) (hfit:off+cs.length<=n*size) (h1:∀u∈cs,u.oneCell'=Xc):
  ∃w',(storeCells ⟨g,off,Xb⟩ cs 0).run P w= .ok () w'/\w'.ownsRow base e size v n (splice xs off cs)/\w.grownBy w' (Xa g)/\w'.heap.size=w.heap.size:=by
 obtain⟨hl,h2⟩:=h
 rcases h2 with⟨rfl,hn⟩|⟨g',cap,cur,rfl,hb,hh,hn,hm,hs,ht⟩
 ·simp[Value.ownBlock]at hg
 simp[Value.ownBlock]at hg
 subst hg;have hle:n*size<=cur.size:=by rw[hs];exact Yf _ hn
 refine⟨_,run_storeCells_at P g' off e cs 0 cur w hh (by omega) h1,⟨by rw[length_splice _ _ _ (by omega)];exact hl,.inr ⟨g',cap,_,rfl,hb,setRow_heap w g' cur _ e _ hh,hn,hm,?_,?_⟩⟩,Zj _ _ _,by simp[World.setRow]⟩
 ·simp;omega
 subst ht
 apply Yc
 intro j;simp only[splice,Nat.add_zero];simp only[List.getElem?_take,List.getElem?_append,Ue,List.length_take,lA,Array.length_toList];have e1:min off cur.size=off:=by omega
 have e2:min off (min (n*size) cur.size)=off:=by omega
 simp only[e1,e2]
 split <;> split <;>(try split) <;>(try split) <;>(try split) <;> first | rfl | omega | (congr 1;omega) | skip
theorem zbo {P:Program} {w:Xo} {rest:List Oper} {a:Act} (hgd:o.guard=Xb) (p x:Operand) (t:TypeId) (ho:o.op= .store t p x) (k:Nat) (hk:(P.info? t).map (·.size)=Xa k)
  (base:Nat) (v:Xr) (n:Nat) (xs:List Xr) (hown:w.ownsRow base t k v n xs) (g i:Nat) (hg:v.ownBlock=Xa g) (hi:i<n) (cs:List Xr) (hcs:cs.length=k) (h1:∀u∈cs,u.oneCell'=Xc)
  (ad:Addr) (hp:a.eval p= Xj (Xa ad)) (had:ad=⟨g,i*k,Xb⟩) (hx:a.eval x= Xi cs.toArray)
  (h:∀w',w'.ownsRow base t k v n (splice xs (i*k) cs)->w.grownBy w' (Xa g)->w'.heap.size=w.heap.size->wpList P ops Q rest (a.put o.dst undef) w'):wpList P ops Q (o :: rest) a w:=by
 subst had;refine wpList_plain hgd fun K hK=>?_
 have hfit:i*k+cs.length<=n*k:=by
  rw[hcs,<-Om];exact Yf _ hi
 obtain⟨w',hr,h2,h3,h4⟩:=qX (P:=P) hown hg (i*k) cs hfit h1;have hsz:(Go.sizeOf t).run P w= .ok k w:=by
  cases hq:P.info? t with
  | none=>simp[hq]at hk
  | some i=>simp[hq]at hk;simp[Go.sizeOf,typeInfo,hq,hk]
 have hall:(Instr.storeAt t (Xj (Xa ⟨g,i*k,Xb⟩)) (Xi cs.toArray)).run P w= .ok () w':=by
  simp[Instr.storeAt,Instr.sureAddr,storeVar,Xz,hsz,Result.andThen,Value.cells,hcs,hr]
 unfold Oper.wp;simp only[execOp,ho,hp,hx,Xz,hall,Result.andThen,Ye,Oper.upon];exact hK _ _ (h w' h2 h3 h4)
theorem Jv {α:Type} {enc:α->List Xr} {k:Nat} (x:α) (hx:(enc x).length=k):∀(l:List α) (i:Nat),(∀a∈l,(enc a).length=k)->i<l.length->splice (l.flatMap enc) (i*k) (enc x)=(l.set i x).flatMap enc
 | [],i,_,hi=>by simp at hi
 | a :: l,0,h,_=>by
  simp only[splice,Xx,Ol,Ov,Yz,zA,sZ];rw[Yi (by rw[hx,h a (by simp)];exact nR _),Yv (by rw[hx,h a (by simp)];exact nR _),Yz]
 | a :: l,i+1,h,hi=>by
  have ha:=h a (by simp)
  have ih:=Jv x hx l i (fun b hb=>h b (by simp[hb])) (by simpa using hi)
  simp only[splice,Xx,sS]at ih⊢;rw[<-ih,Om,Yu (i*k) k,<-ha,Yn,Ym,Yo,Oe]
theorem ze {w W':Xo} {g:Nat} (h:zc w W) (hg:W.grownBy W' (Xa g)) (hb:w.heap.size<=g):zc w W':=
 Below.grown h hg (bS h) (fun k hk=>by cases hk;exact hb)
theorem zhJ {a w:Xo} (h:Below B a w) (hB:B<=w.heap.size) (hg:zc w w'):Below B a w':=h.trans (Below.mono hg hB)
def Box (w:Xo) (b:Nat) (cs:List Xr):Prop:=∃t,w.heap[b]? =Xa (Xk cs.toArray t (0,0))
theorem Box.lt {w:Xo} {cs:List Xr} (h:Box w b cs):b<w.heap.size:=by
 obtain⟨t,h⟩:=h;exact(aS.1 h).1
theorem Box.c {w:Xo} {cs:List Xr} (h:Box w b cs) (i:Nat) {u:Xr} (hi:cs[i]? =Xa u):w.cell? ⟨b,i,Xb⟩=Xa u:=by
 obtain⟨t,h⟩:=h
 simp[World.cell?,h,hi]
theorem Box.f {w:Xo} {cs:List Xr} (h:Box w b cs) (i:Nat):w.frozen? ⟨b,i,Xb⟩=Xd:=by
 obtain⟨t,h⟩:=h
 simp[World.frozen?,h]
theorem Box.below {w:Xo} {cs:List Xr} (h:Box w b cs) (hg:Below B w w') (hb:b<B):Box w' b cs:=by
 obtain⟨t,h⟩:=h;exact⟨t,by rw[hg.block b hb];exact h⟩
theorem Box.grew {w:Xo} {cs:List Xr} (h:Box w b cs) (hg:zc w w'):Box w' b cs:=h.below hg h.lt
theorem Box.top (w:Xo) (cs:List Xr) (t:TypeId) (hb:b=w.heap.size):Box (w.alloc (Xk cs.toArray t)) b cs:=by
 subst hb;refine⟨t,?_⟩
 show(w.heap.push _)[w.heap.size]? =_
 simp
theorem Box.alloc {w:Xo} {cs:List Xr} (h:Box w b cs) (o:Obj):Box (w.alloc o) b cs:=h.grew (za _ _)
theorem Box.grown {w:Xo} {g:Nat} {cs:List Xr} (h:Box w b cs) (hg:w.grownBy w' (Xa g)) (hb:b≠g):Box w' b cs:=by
 have hlt:=h.lt;obtain⟨t,h⟩:=h;exact⟨t,by rw[hg.block b hlt (fun e=>hb (by cases e;rfl))];exact h⟩
theorem Box.other {w:Xo} {cs:List Xr} (h:Box w b cs) {a:Addr} (ha:b≠a.block) (u:Xr):Box (w.setCell a u) b cs:=by
 obtain⟨t,h⟩:=h;exact⟨t,by rw[Below.heap_setCell _ _ _ _ ha];exact h⟩
theorem Box.set {w:Xo} {cs:List Xr} (h:Box w b cs) (i:Nat) (u:Xr):Box (w.setCell ⟨b,i,Xb⟩ u) b (cs.set i u):=by
 have hlt:=h.lt;obtain⟨t,h⟩:=h;refine⟨t,?_⟩;obtain⟨_,h2⟩:=aS.1 h;unfold World.setCell;rw[Yb (by simpa using hlt)]
 simp[Ow,h2]
theorem ze4 {w:Xo} {base size n:Nat} {e:TypeId} {v:Xr} (h:w.ownsRow base e size v n xs) (hs:∀k,base<=k->w'.heap[k]? =w.heap[k]?):w'.ownsRow base e size v n xs:=by
 refine⟨h.1,?_⟩
 rcases h.2 with h1|⟨g,cap,cur,rfl,h2,h3,h4⟩
 ·exact .inl h1
 exact .inr ⟨g,cap,cur,rfl,h2,by rw[hs g h2];exact h3,h4⟩
theorem zg0 (w:Xo) (A B C:Obj) (k:Nat) (hk:w.heap.size+1<=k):((w.alloc A).alloc C).heap[k]? =((w.alloc B).alloc C).heap[k]?:=by
 show((w.heap.push A).push C)[k]? =((w.heap.push B).push C)[k]?
 simp only[Array.getElem?_push,Array.size_push]
 split
 ·rfl
 rw[kF (by omega),kF (by omega)]
theorem World.grownBy.rfl' (w:Xo) (row:Option Nat):w.grownBy w row:=⟨rfl,rfl,rfl,nR _,fun _ _ _=>rfl⟩
theorem jz.top (w:Xo) (cs:List Xr) (t:TypeId) (hb:b=w.heap.size):jz (w.alloc (Xk cs.toArray t)) ⟨b,0,Xb⟩ cs:=fun j u hj=>by
 rw[Addr.add_lit,zA];exact(Box.top w cs t hb).c j hj
theorem Box.beside {w:Xo} {cs:List Xr} {row:Option Nat} (h:Box w b cs) (hg:w.grownBy w' row) (hb:∀g,row=Xa g->b≠g):Box w' b cs:=by
 have hlt:=h.lt;obtain⟨t,h⟩:=h;exact⟨t,by rw[hg.block b hlt (fun e=>hb b e.symm rfl)];exact h⟩
theorem zU {w W':Xo} {row:Option Nat} (h:zc w W) (hg:W.grownBy W' row) (hb:∀g,row=Xa g->w.heap.size<=g):zc w W':=Below.grown h hg (bS h) hb
def zt (w:Xo) (b:Nat) (t:TypeId) (cs:List Xr):Prop:=w.heap[b]? =Xa (Xk cs.toArray t (0,0))
theorem zt.box {w:Xo} {cs:List Xr} (h:zt w b t cs):Box w b cs:=⟨t,h⟩
theorem zt.top (w:Xo) (cs:List Xr) (t:TypeId) (hb:b=w.heap.size):zt (w.alloc (Xk cs.toArray t)) b t cs:=by
 subst hb
 show(w.heap.push _)[w.heap.size]? =_
 simp
theorem Box.c3 {w:Xo} {l:List Xr} (h:Box w b (a0::a1::a2::l)):w.cell? ⟨b,0,Xb⟩=Xa a0/\w.cell? ⟨b,1,Xb⟩=Xa a1/\w.cell? ⟨b,2,Xb⟩=Xa a2:=⟨h.c 0 rfl,h.c 1 rfl,h.c 2 rfl⟩
theorem Box.c7 {w:Xo} {l:List Xr} (h:Box w b (a0::a1::a2::a3::a4::a5::a6::l)):w.cell? ⟨b,0,Xb⟩=Xa a0/\w.cell? ⟨b,1,Xb⟩=Xa a1/\w.cell? ⟨b,2,Xb⟩=Xa a2/\w.cell? ⟨b,3,Xb⟩=Xa a3/\w.cell? ⟨b,4,Xb⟩=Xa a4/\w.cell? ⟨b,5,Xb⟩=Xa a5/\w.cell? ⟨b,6,Xb⟩=Xa a6:=⟨h.c 0 rfl,h.c 1 rfl,h.c 2 rfl,h.c 3 rfl,h.c 4 rfl,h.c 5 rfl,h.c 6 rfl⟩
theorem Box.c8 {w:Xo} {l:List Xr} (h:Box w b (a0::a1::a2::a3::a4::a5::a6::a7::l)):w.cell? ⟨b,0,Xb⟩=Xa a0/\w.cell? ⟨b,1,Xb⟩=Xa a1/\w.cell? ⟨b,2,Xb⟩=Xa a2/\w.cell? ⟨b,3,Xb⟩=Xa a3/\w.cell? ⟨b,4,Xb⟩=Xa a4/\w.cell? ⟨b,5,Xb⟩=Xa a5/\w.cell? ⟨b,6,Xb⟩=Xa a6/\w.cell? ⟨b,7,Xb⟩=Xa a7:=⟨h.c 0 rfl,h.c 1 rfl,h.c 2 rfl,h.c 3 rfl,h.c 4 rfl,h.c 5 rfl,h.c 6 rfl,h.c 7 rfl⟩
theorem Box.c10 {w:Xo} {a8 a9:Xr} {l:List Xr} (h:Box w b (a0::a1::a2::a3::a4::a5::a6::a7::a8::a9::l)):w.cell? ⟨b,0,Xb⟩=Xa a0/\w.cell? ⟨b,1,Xb⟩=Xa a1/\w.cell? ⟨b,2,Xb⟩=Xa a2/\w.cell? ⟨b,3,Xb⟩=Xa a3/\w.cell? ⟨b,4,Xb⟩=Xa a4/\w.cell? ⟨b,5,Xb⟩=Xa a5/\w.cell? ⟨b,6,Xb⟩=Xa a6/\w.cell? ⟨b,7,Xb⟩=Xa a7/\w.cell? ⟨b,8,Xb⟩=Xa a8/\w.cell? ⟨b,9,Xb⟩=Xa a9:=⟨h.c 0 rfl,h.c 1 rfl,h.c 2 rfl,h.c 3 rfl,h.c 4 rfl,h.c 5 rfl,h.c 6 rfl,h.c 7 rfl,h.c 8 rfl,h.c 9 rfl⟩
theorem Box.c11 {w:Xo} {a8 a9 a10:Xr} {l:List Xr} (h:Box w b (a0::a1::a2::a3::a4::a5::a6::a7::a8::a9::a10::l)):w.cell? ⟨b,0,Xb⟩=Xa a0/\w.cell? ⟨b,1,Xb⟩=Xa a1/\w.cell? ⟨b,2,Xb⟩=Xa a2/\w.cell? ⟨b,3,Xb⟩=Xa a3/\w.cell? ⟨b,4,Xb⟩=Xa a4/\w.cell? ⟨b,5,Xb⟩=Xa a5/\w.cell? ⟨b,6,Xb⟩=Xa a6/\w.cell? ⟨b,7,Xb⟩=Xa a7/\w.cell? ⟨b,8,Xb⟩=Xa a8/\w.cell? ⟨b,9,Xb⟩=Xa a9/\w.cell? ⟨b,10,Xb⟩=Xa a10:=⟨h.c 0 rfl,h.c 1 rfl,h.c 2 rfl,h.c 3 rfl,h.c 4 rfl,h.c 5 rfl,h.c 6 rfl,h.c 7 rfl,h.c 8 rfl,h.c 9 rfl,h.c 10 rfl⟩
theorem Box.c12 {w:Xo} {a8 a9 a10 a11:Xr} {l:List Xr} (h:Box w b (a0::a1::a2::a3::a4::a5::a6::a7::a8::a9::a10::a11::l)):w.cell? ⟨b,0,Xb⟩=Xa a0/\w.cell? ⟨b,1,Xb⟩=Xa a1/\w.cell? ⟨b,2,Xb⟩=Xa a2/\w.cell? ⟨b,3,Xb⟩=Xa a3/\w.cell? ⟨b,4,Xb⟩=Xa a4/\w.cell? ⟨b,5,Xb⟩=Xa a5/\w.cell? ⟨b,6,Xb⟩=Xa a6/\w.cell? ⟨b,7,Xb⟩=Xa a7/\w.cell? ⟨b,8,Xb⟩=Xa a8/\w.cell? ⟨b,9,Xb⟩=Xa a9/\w.cell? ⟨b,10,Xb⟩=Xa a10/\w.cell? ⟨b,11,Xb⟩=Xa a11:=⟨h.c 0 rfl,h.c 1 rfl,h.c 2 rfl,h.c 3 rfl,h.c 4 rfl,h.c 5 rfl,h.c 6 rfl,h.c 7 rfl,h.c 8 rfl,h.c 9 rfl,h.c 10 rfl,h.c 11 rfl⟩
theorem Box.h {I:Xo->Prop} {cs:List Xr} (h:Box W b cs) (hI:∀u,I u↔zc W u) (i:Nat) {v:Xr} (hv:cs[i]?=Xa v):∀y:zj I,y.world.cell? ⟨b,i,Xb⟩=Xa v:=fun y=>(h.grew ((hI _).1 y.holds)).c i hv
theorem Box.gw {cs:List Xr} (h:Box W b cs) (i:Nat) {v:Xr} (hv:cs[i]?=Xa v):∀y:zn W,y.world.cell? ⟨b,i,Xb⟩=Xa v:=fun y=>(h.grew y.grew).c i hv
theorem gP {w:Xo} {o:Obj} (h:w.alloc o=W):zc w W:=by subst h;exact za _ _
theorem gA {w:Xo} {o:Obj} (h:w.alloc o=W):Go.RowKit.Hid (zc w W):=show zc _ _ from gP h
theorem gT {v w:Xo} {o:Obj} (h:w.alloc o=W) (g:Go.RowKit.Hid (zc v w)):Go.RowKit.Hid (zc v W):=show zc _ _ from g.out.trans (gP h)
theorem gD2 {w:Xo} {o q:Obj} (h:(w.alloc o).alloc q=W):Go.RowKit.Hid (zc w W):=show zc _ _ from(gP rfl).trans (gP h)
theorem xP {w:Xo} {l:List Xr} {p:Nat} (h:w.alloc (Xk l.toArray t)=W) (e:Go.RowKit.Hid (w.heap.size=p)):Go.RowKit.Hid (Box W p l):=show Box _ _ _ by subst h;exact Box.top w l t e.out.symm
theorem xA {w:Xo} {l:List Xr} (h:w.alloc (Xk l.toArray t)=W):Go.RowKit.Hid (Box W w.heap.size l):=xP h rfl
theorem xPT {w:Xo} {l:List Xr} {p:Nat} (h:w.alloc (Xk l.toArray t)=W) (e:Go.RowKit.Hid (w.heap.size=p)):Go.RowKit.Hid (zt W p t l):=show zt _ _ _ _ by subst h;exact zt.top w l t e.out.symm
theorem xT {w:Xo} {l:List Xr} (h:w.alloc (Xk l.toArray t)=W):Go.RowKit.Hid (zt W w.heap.size t l):=xPT h rfl
theorem yA {w:Xo} {o:Obj} {l:List Xr} (h:w.alloc o=W) (y:Go.RowKit.Hid (Box w b l)):Go.RowKit.Hid (Box W b l):=show Box _ _ _ by subst h;exact y.out.alloc _
theorem x2a {w:Xo} {l:List Xr} {o:Obj} (h:(w.alloc (Xk l.toArray t)).alloc o=W):Go.RowKit.Hid (Box W w.heap.size l):=yA h (xA rfl)
theorem x2b {w:Xo} {l:List Xr} {o:Obj} (h:(w.alloc o).alloc (Xk l.toArray t)=W):Go.RowKit.Hid (Box W (w.heap.size+1) l):=show Box _ _ _ by subst h;exact Box.top _ l t (by simp)
theorem sA {w:Xo} {o:Obj} (h:w.alloc o=W):Go.RowKit.Hid (W.heap.size=w.heap.size+1):=show _=_ by subst h;simp
theorem gW (w:Xo):zc w w.drew:=show Go.RowKit.Below _ _ _ from(Go.RowKit.Below.refl _ _).drew
theorem zt.grew {w:Xo} {cs:List Xr} (h:zt w b t cs) (hg:zc w w'):zt w' b t cs:=(hg.block b h.box.lt).trans h
theorem zt.beside {w:Xo} {cs:List Xr} {row:Option Nat} (h:zt w b t cs) (hg:w.grownBy w' row) (hb:∀g,row=Xa g->b≠g):zt w' b t cs:=by
 unfold zt;rw[hg.block b h.box.lt (fun e=>hb b e.symm rfl)]
 exact h
theorem zt.set {w:Xo} {cs:List Xr} (h:zt w b t cs) (i:Nat) (u:Xr):zt (w.setCell ⟨b,i,Xb⟩ u) b t (cs.set i u):=by
 have hlt:=h.box.lt;obtain⟨_,h2⟩:=aS.1 h;unfold zt World.setCell;rw[Yb (by simpa using hlt)]
 simp[Ow,h2]
theorem jR {w:Xo} {base size n:Nat} {e:TypeId} {v:Xr} (h:w.ownsRow base e size v n xs) {a:Addr} (ha:∀g,v.ownBlock=Xa g->a.block≠g) (u:Xr):(w.setCell a u).ownsRow base e size v n xs:=by
 refine⟨h.1,?_⟩
 rcases h.2 with h1|⟨g,cap,cur,rfl,h2,h3,h4⟩
 ·exact .inl h1
 exact .inr ⟨g,cap,cur,rfl,h2,by rw[Below.heap_setCell _ _ _ _ (fun e=>ha g rfl e.symm)];exact h3,h4⟩
structure Elt (α:Type) where
 enc:α->List Xr
 k:Nat
 ty:TypeId
 st:TypeId
 bytes:Nat
 zv:Xr
 zero:α
 len:∀a,(enc a).length=k
 one:∀a,∀u∈enc a,u.oneCell'=Xc
 und:Tryz.prog.underlying st=Xa (.slice ty)
 info:(Tryz.prog.info? ty).map (fun i=>(i.zero,i.size,i.bytes))=Xa (Xa zv,k,bytes)
 zok:zv.cells=(enc zero).toArray
 few:k<=bytes
 pos:0<k
section
variable{α:Type} {E:Elt α}
def zm (E:Elt α) (w:Xo) (v:Xr) (l:List α):Prop:=jv E.enc w v l/\l.length*E.bytes<=140737488355328
def zb (E:Elt α) (base:Nat) (w:Xo) (v:Xr) (l:List α):Prop:=w.ownsRow base E.ty E.k v l.length (l.flatMap E.enc)/\l.length*E.bytes<=140737488355328
def zmR (E:Elt α) (w:Xo) (a:Option Addr) (l:List α):Prop:=∀(j:Nat) x,l[j]? =Xa x->∃ad,a=Xa ad/\∀W,zc w W->jz W (ad.add (j*E.k)) (E.enc x)
theorem zlb (E:Elt α):E.zv.cells.size=E.k:=by rw[E.zok];simp[E.len]
theorem js (E:Elt α) (l:List α):(l.flatMap E.enc).length=l.length*E.k:=qI l fun a _=>E.len a
theorem zm.grew {w:Xo} {v:Xr} {l:List α} (h:zm E w v l) (hg:zc w w'):zm E w' v l:=⟨h.1.grew hg,h.2⟩
theorem zm.rows {w:Xo} {v:Xr} {l:List α} (h:zm E w v l):∃a c,v= O a l.length c/\zmR E w a l:=by
 obtain⟨⟨a,c,h1,h2,h3⟩,_⟩:=h;refine⟨a,c,h1,fun j q hj=>?_⟩
 cases a with
 | none=>rw[h2 rfl]at hj;simp at hj
 | some x=>exact⟨x,rfl,fun W hW=>((h3 x rfl).grew hW).elem (k:=E.k) (fun b _=>E.len b) hj⟩
theorem zm.short {w:Xo} {v:Xr} {l:List α} (h:zm E w v l):l.length<=9223372036854775807:=by
 have h1:=h.2;have h2:l.length*1<=l.length*E.bytes:=Xy _ (nT E.pos E.few);omega
theorem zm.nil (E:Elt α) (w:Xo):zm E w (O Xb 0 0) ([]:List α):=⟨⟨Xb,0,rfl,fun _=>rfl,fun x hx=>by cases hx⟩,by simp⟩
theorem zb.at {base:Nat} {w:Xo} {v:Xr} {l:List α} (h:zb E base w v l):zm E w v l:=⟨j0 h.1,h.2⟩
theorem zb.grew {base:Nat} {w:Xo} {v:Xr} {l:List α} (h:zb E base w v l) (hg:zc w w'):zb E base w' v l:=⟨ZY h.1 hg,h.2⟩
theorem zb.base {base:Nat} {w:Xo} {v:Xr} {l:List α} (h:zb E base w v l) (hb:base'<=base):zb E base' w v l:=⟨qQ h.1 hb,h.2⟩
theorem zb.setCell {base:Nat} {w:Xo} {v:Xr} {l:List α} (h:zb E base w v l) {a:Addr} (ha:a.block<base) (u:Xr):zb E base (w.setCell a u) v l:=⟨ownsRow_setCell_below h.1 ha u,h.2⟩
theorem zb.setOther {base:Nat} {w:Xo} {v:Xr} {l:List α} (h:zb E base w v l) {a:Addr} (ha:∀g,v.ownBlock=Xa g->a.block≠g) (u:Xr):zb E base (w.setCell a u) v l:=⟨jR h.1 ha u,h.2⟩
theorem zb.lt {base:Nat} {w:Xo} {v:Xr} {l:List α} (h:zb E base w v l):∀g,v.ownBlock=Xa g->base<=g/\g<w.heap.size:=h.1.lt
theorem zb.form {base:Nat} {w:Xo} {v:Xr} {l:List α} (h:zb E base w v l):∃a c,v= O a l.length c:=by
 obtain⟨a,c,h1,_⟩:=h.at.rows;exact⟨a,c,h1⟩
theorem zb.formS {base:Nat} {w:Xo} {v:Xr} {l:List α} (h:zb E base w v l) (hl:0<l.length):∃g c,v= O (Xa ⟨g,0,Xb⟩) l.length c:=by
 rcases h.1.2 with⟨rfl,h0⟩|⟨g,cap,cur,h0,_⟩
 ·omega
 exact⟨g,cap,h0⟩
theorem zb.fresh {base:Nat} {w:Xo} {v:Xr} {l:List α} (h:zb E base w v l):jn base v:=fun x n c e=>by
 rcases h.1.2 with⟨h0,_⟩|⟨g,cap,cur,h0,h1,_⟩
 ·rw[h0]at e;cases e
 rw[h0]at e;cases e;exact h1
theorem zb.nil (E:Elt α) (base:Nat) (w:Xo):zb E base w (O Xb 0 0) ([]:List α):=⟨World.ownsRow_nil _ _ _ _,by simp⟩
theorem zb.made (E:Elt α) (w:Xo):zb E w.heap.size (w.alloc (Xk #[] E.ty)) (O (Xa ⟨w.heap.size,0,Xb⟩) 0 0) ([]:List α):=⟨World.ownsRow_made w #[] 0 (nR _) (nZ _) (by simp),by simp⟩
theorem zb.ne {base:Nat} {w:Xo} {v:Xr} {l:List α} (h:zb E base w v l) {cs:List Xr} (hb:zt w b t cs) (ht:t≠E.ty):∀g,v.ownBlock=Xa g->b≠g:=fun g hg e=>by
 subst e
 rcases h.1.2 with⟨rfl,_⟩|⟨g',cap,cur,rfl,_,h3,_⟩
 ·cases hg
 simp only[Value.ownBlock,Option.some.injEq]at hg;subst hg;rw[hb]at h3;cases h3;exact ht rfl
theorem zb.grown {base:Nat} {w:Xo} {row:Option Nat} {v:Xr} {l:List α} (h:zb E base w v l) (hg:w.grownBy w' row) (hne:∀g,v.ownBlock=Xa g->row≠Xa g):zb E base w' v l:=by
 refine⟨⟨h.1.1,?_⟩,h.2⟩
 rcases h.1.2 with h1|⟨g,cap,cur,rfl,h2,h3,h4⟩
 ·exact .inl h1
 exact .inr ⟨g,cap,cur,rfl,h2,by rw[hg.block g (aS.1 h3).1 (fun e=>hne g rfl e.symm)];exact h3,h4⟩
def jy (E:Elt α) (base:Nat) (w:Xo) (v:Xr) (l:List α):Prop:=zm E w v l/\jn base v
theorem jy.base {base:Nat} {w:Xo} {v:Xr} {l:List α} (h:jy E base w v l) (hb:base'<=base):jy E base' w v l:=⟨h.1,fun x n c e=>nT hb (h.2 x n c e)⟩
theorem jy.nil (E:Elt α) (base:Nat) (w:Xo):jy E base w (O Xb 0 0) ([]:List α):=⟨zm.nil E w,j3 _⟩
theorem zb.new {base:Nat} {w:Xo} {v:Xr} {l:List α} (h:zb E base w v l):jy E base w v l:=⟨h.at,h.fresh⟩
theorem Q7 {w:Xo} {base:Nat} {v:Xr} {l:List α} (ty:TypeId) (hown:zb E base w v l) (c:Nat):(Builtin.append_ #[E.st,E.st] ty #[v,O Xb 0 c]).run prog w= .ok v w:=by
 obtain⟨i0,hi,_,hz1,_⟩:=info_parts E.info
 rcases hown.1.2 with⟨rfl,_⟩|⟨g,cap,cur,rfl,_,_,hnc,_⟩
 ·simp[Builtin.append_,run_underlying E.und,sizeOf,typeInfo,hi,Builtin.lenOf,Builtin.firstCells]
 simp[Builtin.append_,run_underlying E.und,sizeOf,typeInfo,hi,Builtin.lenOf,Builtin.firstCells,hnc,storeCells]
theorem zw {w:Xo} {rest:List Oper} {a:Act} (hgd:o.guard=Xb) (s x:Operand) (ho:o.op= .call { callee:= .builtin .append,args:=#[s,x],argTypes:=#[E.st,E.st] })
  (base:Nat) (vs:Xr) (l0:List α) (hs:a.eval s=vs) (hown:zb E base w vs l0) (vx:Xr) (l:List α) (hx:a.eval x=vx) (hv:zm E w vx l) (hb:(l0.length+l.length)*E.bytes<=140737488355328) (hbase:base<=w.heap.size)
  (h:∀v' w',zb E base w' v' (l0++l)->w.grownBy w' vs.ownBlock->wpList prog ops Q rest (a.put o.dst v') w'):wpList prog ops Q (o :: rest) a w:=by
 obtain⟨⟨ax,c,rfl,hnone,hcells⟩,_⟩:=hv
 cases ax with
 | none=>
  have hps:=hnone rfl;subst hps;refine wpList_plain hgd fun K hK=>?_
  have hrun:=Q7 o.type hown c;unfold Oper.wp execOp;simp only[ho,resolve,invoke,builtin,Xz,Ye,rA,List.map_toArray,mP,List.map_nil,hs,hx,List.length_nil,hrun];exact hK _ _ (h vs w (by rw[Oa];exact hown) (World.grownBy.rfl' _ _))
 | some ad=>
  obtain⟨i0,hi,hz0,hz1,hz2⟩:=info_parts E.info;have h2:(l0.length+l.length)*1<=(l0.length+l.length)*E.bytes:=Xy _ (nT E.pos E.few);refine wpList_append_own w hgd s x E.st ho base E.ty i0 _ E.k E.bytes E.und hi hz0 hz1 hz2 (zlb E) E.pos vs l0.length _ hs hown.1 ad l.length c (l.flatMap E.enc) hx (js E l) (hcells ad rfl) (qT E.one l) (qC (by omega)) hb hbase fun v' w' h1 h2 _=>?_
  exact h v' w' ⟨by rw[lA,Yg];exact h1,by rw[lA];exact hb⟩ h2
theorem QC {x y:α} (j:Nat) (cs:List Xr) (hy:E.enc y=splice (E.enc x) j cs) (hj:j+cs.length<=E.k):∀(l:List α) (i:Nat),l[i]? =Xa x->splice (l.flatMap E.enc) (i*E.k+j) cs=(l.set i y).flatMap E.enc
 | [],i,hi=>by simp at hi
 | a :: l,0,hi=>by
  simp at hi
  subst hi;have ha:=E.len a;simp only[splice,Xx,Ol,zA,sZ]at hy⊢;rw[hy,Yj (by omega),Yi (by omega)]
  simp
 | a :: l,i+1,hi=>by
  have ha:=E.len a;have ih:=QC j cs hy hj l i (by simpa using hi)
  simp only[splice,Xx,sS]at ih⊢;rw[<-ih,Om,Yu (i*E.k) E.k,Ym,<-ha,Yn,Ym,Yo,Oe]
theorem zB {w:Xo} {rest:List Oper} {a:Act} (hgd:o.guard=Xb) (p x:Operand) (t:TypeId) (ho:o.op= .store t p x) (base:Nat) (v:Xr) (l:List α) (hown:zb E base w v l)
  (g i j:Nat) (hg:v.ownBlock=Xa g) (e y:α) (hi:l[i]? =Xa e) (cs:List Xr) (hk:(Tryz.prog.info? t).map (·.size)=Xa cs.length) (hy:E.enc y=splice (E.enc e) j cs) (hj:j+cs.length<=E.k) (h1:∀u∈cs,u.oneCell'=Xc)
  (ad:Addr) (hp:a.eval p= Xj (Xa ad)) (had:ad=⟨g,i*E.k+j,Xb⟩) (vx:Xr) (hx:a.eval x=vx) (hvx:vx.cells=cs.toArray)
  (h:∀w',zb E base w' v (l.set i y)->w.grownBy w' (Xa g)->w'.heap.size=w.heap.size->wpList prog ops Q rest (a.put o.dst undef) w'):wpList prog ops Q (o :: rest) a w:=by
 subst had;refine wpList_plain hgd fun K hK=>?_
 have hil:i<l.length:=(gS.1 hi).1;have hfit:i*E.k+j+cs.length<=l.length*E.k:=by
  have:(i+1)*E.k<=l.length*E.k:=Yf _ hil;rw[Yx]at this;omega
 obtain⟨w',hr,h2,h3,h4⟩:=qX (P:=prog) hown.1 hg (i*E.k+j) cs hfit h1;have hsz:(Go.sizeOf t).run prog w= .ok cs.length w:=by
  cases hq:Tryz.prog.info? t with
  | none=>simp[hq]at hk
  | some i=>simp[hq]at hk;simp[Go.sizeOf,typeInfo,hq,hk]
 have hall:(Instr.storeAt t (Xj (Xa ⟨g,i*E.k+j,Xb⟩)) vx).run prog w= .ok () w':=by
  simp[Instr.storeAt,Instr.sureAddr,storeVar,Xz,hsz,Result.andThen,hvx,hr]
 unfold Oper.wp;simp only[execOp,ho,hp,hx,Xz,hall,Result.andThen,Ye,Oper.upon];rw[QC j cs hy hj l i hi]at h2;exact hK _ _ (h w' ⟨by rw[Ys];exact h2,by rw[Ys];exact hown.2⟩ h3 h4)
theorem jm {w:Xo} {rest:List Oper} {a:Act} (hgd:o.guard=Xb) (p x:Operand) (ho:o.op= .store E.ty p x) (base:Nat) (v:Xr) (l:List α) (hown:zb E base w v l)
  (g i:Nat) (hg:v.ownBlock=Xa g) (y:α) (hi:i<l.length) (ad:Addr) (hp:a.eval p= Xj (Xa ad)) (had:ad=⟨g,i*E.k,Xb⟩) (vx:Xr) (hx:a.eval x=vx) (hvx:vx.cells=(E.enc y).toArray)
  (h:∀w',zb E base w' v (l.set i y)->w.grownBy w' (Xa g)->w'.heap.size=w.heap.size->wpList prog ops Q rest (a.put o.dst undef) w'):wpList prog ops Q (o :: rest) a w:=by
 obtain⟨i0,hi0,_,hz1,_⟩:=info_parts E.info;refine zB hgd p x E.ty ho base v l hown g i 0 hg (l[i]) y (gE hi) (E.enc y) (by rw[hi0];simp[hz1,E.len]) ?_ (by rw[E.len];omega) (E.one y) ad hp (by rw[had];rfl) vx hx hvx h
 unfold splice;rw[Ov,Yz,zA,Yv (by rw[E.len,E.len];exact nR _),Oa]
theorem zho (E:Elt α) (n:Nat):(madeCells E.zv.cells (n*E.k)).toList=(Xs n E.zero).flatMap E.enc:=by
 have hl:((Xs n E.zero).flatMap E.enc).length=n*E.k:=by rw[js E];simp
 have hp:0<E.k:=E.pos
 apply Yc
 intro j
 rcases Yd j (n*E.k)with h|h
 ·have hj:j=j / E.k*E.k+j % E.k:=by rw[Uh];exact(Nat.div_add_mod _ _).symm
  have h8:j % E.k<E.k:=Nat.mod_lt _ hp;have hq:j / E.k<n:=(Ot hp).2 h;have hz:(E.enc E.zero)[j % E.k]? =Xa ((E.enc E.zero)[j % E.k]'(by rw[E.len];exact h8)):=gE _
  have h1:=qE (enc:=E.enc) (k:=E.k) (Xs n E.zero) (j / E.k) E.zero (fun a _=>E.len a) (by simp[hq]) (j % E.k) _ hz
  rw[<-hj]at h1;rw[h1]
  simp[madeCells,h,E.zok,E.len,h8]
 rw[gN (by simp[madeCells];exact h),gN (by rw[hl];exact h)]
theorem Q4 (E:Elt α) {w:Xo} {rest:List Oper} {a:Act} (hgd:o.guard=Xb) (l:Operand) (ho:o.op= .makeSlice E.st l l) (n:Nat) (hl:a.eval l= Xe Xf n) (hn:n*E.bytes<=140737488355328)
  (h:∀C,zb E w.heap.size (w.alloc (Xk C E.ty)) (O (Xa ⟨w.heap.size,0,Xb⟩) n n) (Xs n E.zero)->wpList prog ops Q rest (a.put o.dst (O (Xa ⟨w.heap.size,0,Xb⟩) n n)) (w.alloc (Xk C E.ty))):wpList prog ops Q (o :: rest) a w:=by
 refine wpList_plain hgd fun K hK=>?_
 obtain⟨i0,hi,hz0,hz1,hz2⟩:=info_parts E.info;have h2:n*1<=n*E.bytes:=Xy _ (nT E.pos E.few);have hb:((E.bytes:Int)*(n:Int))<=140737488355328:=by
  obtain⟨B,hB⟩:=kB (n*E.bytes);rw[hB]at hn;rw[<-Int.natCast_mul,Uh,hB];omega
 have hrun:=run_make (P:=prog) w E.st E.ty i0 _ E.und hi hz0 .i64 .i64 n n (by omega) (Int.le_refl _) (by rw[hz2];exact Int.le_trans hb (by omega)) (by omega)
 rw[hz1,tN]at hrun;unfold Oper.wp;simp only[execOp,ho,hl,Xz,hrun,Result.andThen,Ye,Oper.upon];refine hK _ _ (h _ ⟨⟨?_,.inr ⟨w.heap.size,n,madeCells E.zv.cells (n*E.k),by rw[lR],nR _,?_,?_,?_,?_,?_⟩⟩,by rw[lR];exact hn⟩)
 ·rw[js E]
 ·show(w.heap.push _)[w.heap.size]? =_
  simp
 ·rw[lR];exact nR _
 ·exact qC (by omega)
 ·rw[size_madeCells]
 rw[lR,Oo (by simp[madeCells]),zho E]
end
structure Out (B0 B1:Nat) (w w':Xo):Prop where
 os:w'.os=w.os
 tape:w'.tape=w.tape
 output:w'.output=w.output
 size:w.heap.size<=w'.heap.size
 block:∀k,k<w.heap.size->(k<B0\/B1<=k)->w'.heap[k]? =w.heap[k]?
theorem Out.refl (B0 B1:Nat) (w:Xo):Out B0 B1 w w:=⟨rfl,rfl,rfl,nR _,fun _ _ _=>rfl⟩
theorem Out.trans {a b c:Xo} (h:Out B0 B1 a b) (k:Out B0 B1 b c):Out B0 B1 a c:=
 ⟨k.os.trans h.os,k.tape.trans h.tape,k.output.trans h.output,nT h.size k.size,fun i hi hb=>(k.block i (Yl hi h.size) hb).trans (h.block i hi hb)⟩
theorem Out.grew {a b:Xo} (h:zc a b):Out B0 B1 a b:=⟨Below.os h,Below.tape h,Below.output h,bS h,fun i hi _=>Below.block h i hi⟩
theorem Out.setCell (B0 B1:Nat) (w:Xo) {p:Addr} (h0:B0<=p.block) (h1:p.block<B1) (u:Xr):Out B0 B1 w (w.setCell p u):=
 ⟨rfl,rfl,rfl,by simp[World.setCell],fun k _ hb=>Below.heap_setCell _ _ _ _ (by omega)⟩
theorem Out.grown {w:Xo} {row:Option Nat} (hg:w.grownBy w' row) (h:∀g,row=Xa g->B0<=g/\g<B1):Out B0 B1 w w':=
 ⟨hg.os,hg.tape,hg.output,hg.size,fun k hk hb=>hg.block k hk (fun e=>by have:=h k e.symm;omega)⟩
theorem Out.wide {a b:Xo} (h:Out A0 A1 a b) (h0:B0<=A0) (h1:A1<=B1):Out B0 B1 a b:=
 ⟨h.os,h.tape,h.output,h.size,fun i hi hb=>h.block i hi (by omega)⟩
theorem Out.drew (w:Xo):Out B0 B1 w w.drew:=Out.grew (gW _)
theorem Out.grew_of {w:Xo} (h:zc w W) (hB:w.heap.size<=B0) (k:Out B0 B1 W w'):zc w w':=
 (show Below _ _ _ from Below.trans h ⟨k.os,k.tape,k.output,k.size,fun i hi=>k.block i (Yl hi (bS h)) (.inl (Yl hi hB))⟩)
theorem Out.zero {w:Xo} (h:Out 0 0 w w'):zc w w':=⟨h.os,h.tape,h.output,h.size,fun k hk=>h.block k hk (.inr (nZ _))⟩
theorem Box.out {w:Xo} {cs:List Xr} (h:Box w b cs) (k:Out B0 B1 w w') (hb:b<B0\/B1<=b):Box w' b cs:=by
 have hlt:=h.lt;obtain⟨t,h⟩:=h;exact⟨t,by rw[k.block b hlt hb];exact h⟩
section
variable{α:Type} {E:Elt α}
def zf1 (E:Elt α) (B0 B1:Nat) (w:Xo) (v:Xr) (l:List α):Prop:=∀w',Out B0 B1 w w'->zm E w' v l
theorem zf1.now {w:Xo} {v:Xr} {l:List α} (h:zf1 E B0 B1 w v l):zm E w v l:=h w (Out.refl _ _ _)
theorem zf1.out {w:Xo} {v:Xr} {l:List α} (h:zf1 E B0 B1 w v l) (k:Out B0 B1 w w'):zf1 E B0 B1 w' v l:=fun w2 h2=>h w2 (k.trans h2)
theorem zf1.less {w:Xo} {v:Xr} {l:List α} (h:zf1 E B0 B1 w v l) (h0:B0<=A0) (h1:A1<=B1):zf1 E A0 A1 w v l:=fun w2 h2=>h w2 (h2.wide h0 h1)
theorem zm.stays (B1:Nat) {w:Xo} {v:Xr} {l:List α} (h:zm E w v l) (hB:w.heap.size<=B0) (hg:zc w W):zf1 E B0 B1 W v l:=fun _ k=>h.grew (k.grew_of hg hB)
theorem zm.s0 {w:Xo} {v:Xr} {l:List α} (h:zm E w v l):zf1 E 0 0 w v l:=fun _ k=>h.grew k.zero
theorem jy.stays {base:Nat} {w:Xo} {v:Xr} {l:List α} (h:jy E base w v l):zf1 E 0 base w v l:=fun w' k=>by
 obtain⟨⟨⟨a,c,h1,h2,h3⟩,h4⟩,h5⟩:=h;refine⟨⟨a,c,h1,h2,fun x hx j u hj=>?_⟩,h4⟩
 subst hx;have hc:=h3 x rfl j u hj;have hl:=World.block_lt_of_cell? _ _ hc;have hf:=h5 x _ _ h1;rw[World.cell?_of_block (w:=w) (k.block _ hl (.inr (by rw[Qu];exact hf)))]
 exact hc
theorem jK (E:Elt α) (w:Xo) (x:α) (cs:Array Xr) (t:TypeId) (hcs:cs=(E.enc x).toArray) (hb:E.bytes<=140737488355328):zm E (w.alloc (Xk cs t)) (O (Xa ⟨w.heap.size,0,Xb⟩) 1 1) [x]:=by
 subst hcs;refine⟨⟨_,1,rfl,fun h=>(by cases h),fun y hy=>?_⟩,by simpa using hb⟩
 cases hy
 simpa using jz.top w (E.enc x) t rfl
end
def Cap:Xr->Prop
 | O _ n c=>n<=c
 | _=>True
theorem zb.cap {α:Type} {E:Elt α} {base:Nat} {w:Xo} {v:Xr} {l:List α} (h:zb E base w v l):Cap v:=by
 rcases h.1.2 with⟨rfl,_⟩|⟨g,cap,cur,rfl,_,_,h4,_⟩
 ·exact nR _
 exact h4
structure qW (D:Nat->Prop) (w w':Xo):Prop where
 os:w'.os=w.os
 tape:w'.tape=w.tape
 output:w'.output=w.output
 size:w.heap.size<=w'.heap.size
 block:∀k,k<w.heap.size->¬D k->w'.heap[k]? =w.heap[k]?
theorem qW.refl (D:Nat->Prop) (w:Xo):qW D w w:=⟨rfl,rfl,rfl,nR _,fun _ _ _=>rfl⟩
theorem qW.trans {D:Nat->Prop} {a b c:Xo} (h:qW D a b) (k:qW D b c):qW D a c:=
 ⟨k.os.trans h.os,k.tape.trans h.tape,k.output.trans h.output,nT h.size k.size,fun i hi hb=>(k.block i (Yl hi h.size) hb).trans (h.block i hi hb)⟩
theorem qW.grew {D:Nat->Prop} {a b:Xo} (h:zc a b):qW D a b:=⟨Below.os h,Below.tape h,Below.output h,bS h,fun i hi _=>Below.block h i hi⟩
theorem qW.wide {D D':Nat->Prop} {a b:Xo} (h:qW D' a b) (hd:∀k,D' k->D k):qW D a b:=⟨h.os,h.tape,h.output,h.size,fun i hi hb=>h.block i hi (fun e=>hb (hd i e))⟩
section
variable{α:Type} {E:Elt α}
def zod (E:Elt α) (D:Nat->Prop) (w:Xo) (v:Xr) (l:List α):Prop:=∀w',qW D w w'->zm E w' v l
theorem jy.staysD {base:Nat} {w:Xo} {v:Xr} {l:List α} (h:jy E base w v l) {D:Nat->Prop} (hd:∀k,D k->k<base):zod E D w v l:=fun w' k=>by
 obtain⟨⟨⟨a,c,h1,h2,h3⟩,h4⟩,h5⟩:=h;refine⟨⟨a,c,h1,h2,fun x hx j u hj=>?_⟩,h4⟩
 subst hx;have hc:=h3 x rfl j u hj;have hl:=World.block_lt_of_cell? _ _ hc;have hf:=h5 x _ _ h1;rw[World.cell?_of_block (w:=w) (k.block _ hl (fun e=>by have:=hd _ e;rw[Qu]at this;omega))]
 exact hc
end
theorem zb.obj {α:Type} {E:Elt α} {base:Nat} {w:Xo} {v:Xr} {l:List α} (h:zb E base w v l) {g:Nat} (hg:v.ownBlock=Xa g):∃cs,w.heap[g]? =Xa (Xk cs E.ty (0,0)):=by
 rcases h.1.2 with⟨rfl,_⟩|⟨g',cap,cur,rfl,_,h3,_⟩
 ·cases hg
 simp only[Value.ownBlock,Option.some.injEq]at hg;subst hg;exact⟨cur,h3⟩
theorem zb.apart {α β:Type} {E:Elt α} {F:Elt β} {base:Nat} {w:Xo} {v u:Xr} {l:List α} {m:List β} (h:zb E base w v l) (k:zb F base' w u m) (ht:E.ty≠F.ty):∀g,v.ownBlock=Xa g->u.ownBlock≠Xa g:=fun g hg hu=>by
 obtain⟨cs,h1⟩:=h.obj hg;obtain⟨ds,h2⟩:=k.obj hu;rw[h1]at h2;simp only[Option.some.injEq,Obj.cells.injEq]at h2;exact ht h2.2.1
theorem zb.one {α:Type} {E:Elt α} {base g n c:Nat} {w:Xo} {l:List α} (h:zb E base w (O (Xa ⟨g,0,Xb⟩) n c) l) {i:Nat} {x:α} (hx:l[i]? =Xa x):jz w ((Addr.mk g 0 Xb).add (i*E.k)) (E.enc x):=by
 obtain⟨a0,c0,hsl,hrows⟩:=h.at.rows;obtain⟨ad,had,hce⟩:=hrows i _ hx;cases hsl;cases had;exact hce w (zc.refl _)
def bel (m n:Int):Bool:=decide (0<=m) && decide (m<n)
theorem Jq {m n:Int}:bel m n=Xc↔0<=m/\m<n:=by simp[bel]
theorem zkY {m n:Int} (h:¬(0<=m/\m<n)):bel m n=Xd:=by
 cases hb:bel m n with
 | false=>rfl
 | true=>exact absurd (Jq.1 hb) h
theorem znw {α:Type} {p:α->Bool} {fs:List α} {k:Nat} {q:α} (h:fs[k]? =Xa q) (hq:p q=Xc):fs.any p=Xc:=Yq.2 ⟨q,mG h,hq⟩
theorem znv {α:Type} {p:α->Bool} {fs:List α} (hb:∀(j:Nat) x,fs[j]? =Xa x->p x=Xd):fs.any p=Xd:=Od.2 fun x hx=>by
 obtain⟨j,hj⟩:=Ox hx;rw[hb j x hj]
 decide
theorem jP {α:Type} {l:List α} {k:Nat} {q:α} (h:l[k]? =Xa q):l.drop k=q :: l.drop (k+1):=by
 obtain⟨hlt,rfl⟩:=gS.1 h;exact List.drop_eq_getElem_cons hlt
theorem jB {α:Type} {l:List α} {k:Nat} {q:α} (h:l[k]? =Xa q):l.take (k+1)=l.take k++ [q]:=by
 rw[List.take_add_one,h];rfl
theorem zaW {α:Type} {A:α} {p k:Nat} {s:α} (h:Of k [(p,A)]=Xa s):k=p/\s=A:=by
 by_cases h1:k=p
 ·subst h1
  simp at h
  exact⟨rfl,h.symm⟩
 have e1:(k == p)=Xd:=by simpa using h1
 simp[Of,e1]at h
theorem zil {α:Type} {A B:α} {p q k:Nat} {s:α} (h:Of k [(p,A),(q,B)]=Xa s):(k=p/\s=A)\/(k=q/\s=B):=by
 by_cases h1:k=p
 ·subst h1
  simp at h
  exact .inl ⟨rfl,h.symm⟩
 by_cases h2:k=q
 ·subst h2;have e1:(k == p)=Xd:=by simpa using h1
  simp[Of,e1]at h
  exact .inr ⟨rfl,h.symm⟩
 have e1:(k == p)=Xd:=by simpa using h1
 have e2:(k == q)=Xd:=by simpa using h2
 simp[Of,e1,e2]at h
theorem zm.beside {α:Type} {E:Elt α} {w:Xo} {row:Option Nat} {v:Xr} {l:List α} (h:zm E w v l) (hg:w.grownBy w' row) (hn:∀x n c,v= O (Xa x) n c->Xa x.block≠row):zm E w' v l:=by
 obtain⟨⟨a,c,h1,h2,h3⟩,h4⟩:=h;refine⟨⟨a,c,h1,h2,fun x hx j u hj=>?_⟩,h4⟩
 subst hx;exact hg.cell (h3 x rfl j u hj) (by rw[Qu];exact hn x _ _ h1)
theorem zdN {α:Type} {l:List α} {i:Nat} {v:α} (h:l[i]? =Xa v):l.set i v=l:=by
 apply Yc
 intro j
 by_cases e:j=i
 ·subst e;rw[sF (gS.1 h).1,h]
 rw[sN (fun h=>e h.symm)]
theorem jE {a b c:Xo} {row:Option Nat} (h:a.grownBy b row) (k:b.grownBy c row):a.grownBy c row:=
 ⟨k.os.trans h.os,k.tape.trans h.tape,k.output.trans h.output,nT h.size k.size,fun i hi hr=>(k.block i (Yl hi h.size) hr).trans (h.block i hi hr)⟩
theorem zaZ {a b:Xo} (h:zc a b) (row:Option Nat):a.grownBy b row:=⟨Below.os h,Below.tape h,Below.output h,bS h,fun i hi _=>Below.block h i hi⟩
def frv (a:Fr):List Xr:=[Xe Xg a.p.b0,Xe Xg a.p.b1,Xe Xg a.p.b2,Xe Xg a.p.b3,Xe Xg a.p.b4,Xe Xg a.p.b5,Xe Xg a.p.b6,Xe Xg a.p.b7,Xe Xf a.r,Xh a.u,Xh a.d,Xe Xf a.f,Xe Xf a.x]
theorem zon:(Tryz.prog.info? 53).map (fun i=>(i.zero,i.size,i.bytes))=Xa (Xa (Xi #[Xe Xg 0,Xe Xg 0,Xe Xg 0,Xe Xg 0,Xe Xg 0,Xe Xg 0,Xe Xg 0,Xe Xg 0,Xe Xf 0,Xh Xd,Xh Xd,Xe Xf 0,Xe Xf 0]),13,40):=by kernel_rfl
def frz:Xr:= Xi #[Xe Xg 0,Xe Xg 0,Xe Xg 0,Xe Xg 0,Xe Xg 0,Xe Xg 0,Xe Xg 0,Xe Xg 0,Xe Xf 0,Xh Xd,Xh Xd,Xe Xf 0,Xe Xf 0]
theorem zkk:frz.cells=(frv fr0).toArray:=rfl
theorem Zd (a:Fr):(frv a).length=13:=rfl
theorem zek (a:Fr):∀u∈frv a,u.oneCell'=Xc:=fun u hu=>by
 simp only[frv,mC,nM,or_false]at hu
 rcases hu with rfl|rfl|rfl|rfl|rfl|rfl|rfl|rfl|rfl|rfl|rfl|rfl|rfl <;> rfl
theorem zgC:13<=40:=by decide
theorem zcr:0<13:=by decide
theorem zen {a b:Fr} (h:zaF a b=Xc):a=b:=(zcs a b).1 h
theorem zl8 {a b:Fr} (h:a≠b):zaF a b=Xd:=by
 cases hb:zaF a b with
 | false=>rfl
 | true=>exact absurd (zen hb) h
def qf (w:Xo) (v:Xr) (l:List Fr):Prop:=jv frv w v l/\l.length*40<=140737488355328
def zh (base:Nat) (w:Xo) (v:Xr) (l:List Fr):Prop:=w.ownsRow base 53 13 v l.length (l.flatMap frv)/\l.length*40<=140737488355328
def zl7 (w:Xo) (a:Option Addr) (l:List Fr):Prop:=∀(j:Nat) x,l[j]? =Xa x->∃ad,a=Xa ad/\∀W,zc w W->jz W (ad.add (j*13)) (frv x)
theorem znk:frz.cells.size=13:=by rw[zkk];simp[Zd]
theorem ZL (l:List Fr):(l.flatMap frv).length=l.length*13:=qI l fun a _=>Zd a
theorem qf.grew {w:Xo} {v:Xr} {l:List Fr} (h:qf w v l) (hg:zc w w'):qf w' v l:=⟨h.1.grew hg,h.2⟩
theorem qf.rows {w:Xo} {v:Xr} {l:List Fr} (h:qf w v l):∃a c,v= O a l.length c/\zl7 w a l:=by
 obtain⟨⟨a,c,h1,h2,h3⟩,_⟩:=h;refine⟨a,c,h1,fun j q hj=>?_⟩
 cases a with
 | none=>rw[h2 rfl]at hj;simp at hj
 | some x=>exact⟨x,rfl,fun W hW=>((h3 x rfl).grew hW).elem (k:=13) (fun b _=>Zd b) hj⟩
theorem qf.short {w:Xo} {v:Xr} {l:List Fr} (h:qf w v l):l.length<=9223372036854775807:=by
 have h1:=h.2;have h2:l.length*1<=l.length*40:=Xy _ (nT zcr zgC);omega
theorem qf.setCell {base:Nat} {w:Xo} {v:Xr} {l:List Fr} (h:qf w v l) (hf:jn base v) {a:Addr} (ha:a.block<base) (u:Xr):qf (w.setCell a u) v l:=⟨h.1.setCell hf ha u,h.2⟩
theorem qf.nil (w:Xo):qf w (O Xb 0 0) ([]:List Fr):=⟨⟨Xb,0,rfl,fun _=>rfl,fun x hx=>by cases hx⟩,by simp⟩
theorem zh.at {base:Nat} {w:Xo} {v:Xr} {l:List Fr} (h:zh base w v l):qf w v l:=⟨j0 h.1,h.2⟩
theorem zh.grew {base:Nat} {w:Xo} {v:Xr} {l:List Fr} (h:zh base w v l) (hg:zc w w'):zh base w' v l:=⟨ZY h.1 hg,h.2⟩
theorem zh.base {base:Nat} {w:Xo} {v:Xr} {l:List Fr} (h:zh base w v l) (hb:base'<=base):zh base' w v l:=⟨qQ h.1 hb,h.2⟩
theorem zh.setCell {base:Nat} {w:Xo} {v:Xr} {l:List Fr} (h:zh base w v l) {a:Addr} (ha:a.block<base) (u:Xr):zh base (w.setCell a u) v l:=⟨ownsRow_setCell_below h.1 ha u,h.2⟩
theorem zh.setOther {base:Nat} {w:Xo} {v:Xr} {l:List Fr} (h:zh base w v l) {a:Addr} (ha:∀g,v.ownBlock=Xa g->a.block≠g) (u:Xr):zh base (w.setCell a u) v l:=⟨jR h.1 ha u,h.2⟩
theorem zh.lt {base:Nat} {w:Xo} {v:Xr} {l:List Fr} (h:zh base w v l):∀g,v.ownBlock=Xa g->base<=g/\g<w.heap.size:=h.1.lt
theorem zh.form {base:Nat} {w:Xo} {v:Xr} {l:List Fr} (h:zh base w v l):∃a c,v= O a l.length c:=by
 obtain⟨a,c,h1,_⟩:=h.at.rows;exact⟨a,c,h1⟩
theorem zh.formS {base:Nat} {w:Xo} {v:Xr} {l:List Fr} (h:zh base w v l) (hl:0<l.length):∃g c,v= O (Xa ⟨g,0,Xb⟩) l.length c:=by
 rcases h.1.2 with⟨rfl,h0⟩|⟨g,cap,cur,h0,_⟩
 ·omega
 exact⟨g,cap,h0⟩
theorem zh.fresh {base:Nat} {w:Xo} {v:Xr} {l:List Fr} (h:zh base w v l):jn base v:=fun x n c e=>by
 rcases h.1.2 with⟨h0,_⟩|⟨g,cap,cur,h0,h1,_⟩
 ·rw[h0]at e;cases e
 rw[h0]at e;cases e;exact h1
theorem zh.nil (base:Nat) (w:Xo):zh base w (O Xb 0 0) ([]:List Fr):=⟨World.ownsRow_nil _ _ _ _,by simp⟩
theorem zh.made (w:Xo):zh w.heap.size (w.alloc (Xk #[] 53)) (O (Xa ⟨w.heap.size,0,Xb⟩) 0 0) ([]:List Fr):=⟨World.ownsRow_made w #[] 0 (nR _) (nZ _) (by simp),by simp⟩
theorem zh.ne {base:Nat} {w:Xo} {v:Xr} {l:List Fr} (h:zh base w v l) {cs:List Xr} (hb:zt w b t cs) (ht:t≠53):∀g,v.ownBlock=Xa g->b≠g:=fun g hg e=>by
 subst e
 rcases h.1.2 with⟨rfl,_⟩|⟨g',cap,cur,rfl,_,h3,_⟩
 ·cases hg
 simp only[Value.ownBlock,Option.some.injEq]at hg;subst hg;rw[hb]at h3;cases h3;exact ht rfl
def qY (base:Nat) (w:Xo) (v:Xr) (l:List Fr):Prop:=qf w v l/\jn base v
theorem qY.base {base:Nat} {w:Xo} {v:Xr} {l:List Fr} (h:qY base w v l) (hb:base'<=base):qY base' w v l:=⟨h.1,fun x n c e=>nT hb (h.2 x n c e)⟩
theorem qY.setCell {base:Nat} {w:Xo} {v:Xr} {l:List Fr} (h:qY base w v l) {a:Addr} (ha:a.block<base) (u:Xr):qY base (w.setCell a u) v l:=⟨h.1.setCell h.2 ha u,h.2⟩
theorem qY.nil (base:Nat) (w:Xo):qY base w (O Xb 0 0) ([]:List Fr):=⟨qf.nil w,j3 _⟩
theorem zh.new {base:Nat} {w:Xo} {v:Xr} {l:List Fr} (h:zh base w v l):qY base w v l:=⟨h.at,h.fresh⟩
theorem za0 {w:Xo} {base:Nat} {v:Xr} {l:List Fr} (ty:TypeId) (hown:zh base w v l) (c:Nat):(Builtin.append_ #[26,26] ty #[v,O Xb 0 c]).run prog w= .ok v w:=by
 obtain⟨i0,hi,_,hz1,_⟩:=info_parts zon
 rcases hown.1.2 with⟨rfl,_⟩|⟨g,cap,cur,rfl,_,_,hnc,_⟩
 ·simp[Builtin.append_,run_underlying underlying26,sizeOf,typeInfo,hi,Builtin.lenOf,Builtin.firstCells]
 simp[Builtin.append_,run_underlying underlying26,sizeOf,typeInfo,hi,Builtin.lenOf,Builtin.firstCells,hnc,storeCells]
theorem J8 {w:Xo} {rest:List Oper} {a:Act} (hgd:o.guard=Xb) (s x:Operand) (ho:o.op= .call { callee:= .builtin .append,args:=#[s,x],argTypes:=#[26,26] })
  (base:Nat) (vs:Xr) (l0:List Fr) (hs:a.eval s=vs) (hown:zh base w vs l0) (vx:Xr) (l:List Fr) (hx:a.eval x=vx) (hv:qf w vx l) (hb:(l0.length+l.length)*40<=140737488355328) (hbase:base<=w.heap.size)
  (h:∀v' w',zh base w' v' (l0++l)->w.grownBy w' vs.ownBlock->wpList prog ops Q rest (a.put o.dst v') w'):wpList prog ops Q (o :: rest) a w:=by
 obtain⟨⟨ax,c,rfl,hnone,hcells⟩,_⟩:=hv
 cases ax with
 | none=>
  have hps:=hnone rfl;subst hps;refine wpList_plain hgd fun K hK=>?_
  have hrun:=za0 o.type hown c;unfold Oper.wp execOp;simp only[ho,resolve,invoke,builtin,Xz,Ye,rA,List.map_toArray,mP,List.map_nil,hs,hx,List.length_nil,hrun];exact hK _ _ (h vs w (by rw[Oa];exact hown) (World.grownBy.rfl' _ _))
 | some ad=>
  obtain⟨i0,hi,hz0,hz1,hz2⟩:=info_parts zon;have h2:(l0.length+l.length)*1<=(l0.length+l.length)*40:=Xy _ (nT zcr zgC);refine wpList_append_own w hgd s x 26 ho base 53 i0 _ 13 40 underlying26 hi hz0 hz1 hz2 znk zcr vs l0.length _ hs hown.1 ad l.length c (l.flatMap frv) hx (ZL l) (hcells ad rfl) (qT zek l) (qC (by omega)) hb hbase fun v' w' h1 h2 _=>?_
  exact h v' w' ⟨by rw[lA,Yg];exact h1,by rw[lA];exact hb⟩ h2
theorem zaE {x y:Fr} (j:Nat) (cs:List Xr) (hy:frv y=splice (frv x) j cs) (hj:j+cs.length<=13):∀(l:List Fr) (i:Nat),l[i]? =Xa x->splice (l.flatMap frv) (i*13+j) cs=(l.set i y).flatMap frv
 | [],i,hi=>by simp at hi
 | a :: l,0,hi=>by
  simp at hi
  subst hi;have ha:=Zd a;simp only[splice,Xx,Ol,zA,sZ]at hy⊢;rw[hy,Yj (by omega),Yi (by omega)]
  simp
 | a :: l,i+1,hi=>by
  have ha:=Zd a;have ih:=zaE j cs hy hj l i (by simpa using hi)
  simp only[splice,Xx,sS]at ih⊢;rw[<-ih,Om,Yu (i*13) 13,Ym,<-ha,Yn,Ym,Yo,Oe]
theorem qu {w:Xo} {rest:List Oper} {a:Act} (hgd:o.guard=Xb) (p x:Operand) (t:TypeId) (ho:o.op= .store t p x) (base:Nat) (v:Xr) (l:List Fr) (hown:zh base w v l)
  (g i j:Nat) (hg:v.ownBlock=Xa g) (e y:Fr) (hi:l[i]? =Xa e) (cs:List Xr) (hk:(Tryz.prog.info? t).map (·.size)=Xa cs.length) (hy:frv y=splice (frv e) j cs) (hj:j+cs.length<=13) (h1:∀u∈cs,u.oneCell'=Xc)
  (ad:Addr) (hp:a.eval p= Xj (Xa ad)) (had:ad=⟨g,i*13+j,Xb⟩) (vx:Xr) (hx:a.eval x=vx) (hvx:vx.cells=cs.toArray)
  (h:∀w',zh base w' v (l.set i y)->w.grownBy w' (Xa g)->w'.heap.size=w.heap.size->wpList prog ops Q rest (a.put o.dst undef) w'):wpList prog ops Q (o :: rest) a w:=by
 subst had;refine wpList_plain hgd fun K hK=>?_
 have hil:i<l.length:=(gS.1 hi).1;have hfit:i*13+j+cs.length<=l.length*13:=by
  have:(i+1)*13<=l.length*13:=Yf _ hil;rw[Yx]at this;omega
 obtain⟨w',hr,h2,h3,h4⟩:=qX (P:=prog) hown.1 hg (i*13+j) cs hfit h1;have hsz:(Go.sizeOf t).run prog w= .ok cs.length w:=by
  cases hq:Tryz.prog.info? t with
  | none=>simp[hq]at hk
  | some i=>simp[hq]at hk;simp[Go.sizeOf,typeInfo,hq,hk]
 have hall:(Instr.storeAt t (Xj (Xa ⟨g,i*13+j,Xb⟩)) vx).run prog w= .ok () w':=by
  simp[Instr.storeAt,Instr.sureAddr,storeVar,Xz,hsz,Result.andThen,hvx,hr]
 unfold Oper.wp;simp only[execOp,ho,hp,hx,Xz,hall,Result.andThen,Ye,Oper.upon];rw[zaE j cs hy hj l i hi]at h2;exact hK _ _ (h w' ⟨by rw[Ys];exact h2,by rw[Ys];exact hown.2⟩ h3 h4)
theorem zaC {w:Xo} {rest:List Oper} {a:Act} (hgd:o.guard=Xb) (p x:Operand) (ho:o.op= .store 53 p x) (base:Nat) (v:Xr) (l:List Fr) (hown:zh base w v l)
  (g i:Nat) (hg:v.ownBlock=Xa g) (y:Fr) (hi:i<l.length) (ad:Addr) (hp:a.eval p= Xj (Xa ad)) (had:ad=⟨g,i*13,Xb⟩) (vx:Xr) (hx:a.eval x=vx) (hvx:vx.cells=(frv y).toArray)
  (h:∀w',zh base w' v (l.set i y)->w.grownBy w' (Xa g)->w'.heap.size=w.heap.size->wpList prog ops Q rest (a.put o.dst undef) w'):wpList prog ops Q (o :: rest) a w:=by
 obtain⟨i0,hi0,_,hz1,_⟩:=info_parts zon;refine qu hgd p x 53 ho base v l hown g i 0 hg (l[i]) y (gE hi) (frv y) (by rw[hi0];simp[hz1,Zd]) ?_ (by rw[Zd];omega) (zek y) ad hp (by rw[had];rfl) vx hx hvx h
 unfold splice;rw[Ov,Yz,zA,Yv (by rw[Zd,Zd];exact nR _),Oa]
theorem ziz (n:Nat):(madeCells frz.cells (n*13)).toList=(Xs n fr0).flatMap frv:=by
 have hl:((Xs n fr0).flatMap frv).length=n*13:=by rw[ZL];simp
 have hp:0<13:=zcr
 apply Yc
 intro j
 rcases Yd j (n*13)with h|h
 ·have hj:j=j / 13*13+j % 13:=by rw[Uh];exact(Nat.div_add_mod _ _).symm
  have h8:j % 13<13:=Nat.mod_lt _ hp;have hq:j / 13<n:=(Ot hp).2 h;have hz:(frv fr0)[j % 13]? =Xa ((frv fr0)[j % 13]'(by rw[Zd];exact h8)):=gE _
  have h1:=qE (enc:=frv) (k:=13) (Xs n fr0) (j / 13) fr0 (fun a _=>Zd a) (by simp[hq]) (j % 13) _ hz
  rw[<-hj]at h1;rw[h1]
  simp[madeCells,h,zkk,Zd]
  rw[hz];rfl
 rw[gN (by simp[madeCells];exact h),gN (by rw[hl];exact h)]
theorem Qp {w:Xo} {rest:List Oper} {a:Act} (hgd:o.guard=Xb) (l:Operand) (ho:o.op= .makeSlice 26 l l) (n:Nat) (hl:a.eval l= Xe Xf n) (hn:n*40<=140737488355328)
  (h:∀C,zh w.heap.size (w.alloc (Xk C 53)) (O (Xa ⟨w.heap.size,0,Xb⟩) n n) (Xs n fr0)->wpList prog ops Q rest (a.put o.dst (O (Xa ⟨w.heap.size,0,Xb⟩) n n)) (w.alloc (Xk C 53))):wpList prog ops Q (o :: rest) a w:=by
 refine wpList_plain hgd fun K hK=>?_
 obtain⟨i0,hi,hz0,hz1,hz2⟩:=info_parts zon;have h2:n*1<=n*40:=Xy _ (nT zcr zgC);have hb:((40:Nat):Int)*(n:Int)<=140737488355328:=by omega
 have hrun:=run_make (P:=prog) w 26 53 i0 _ underlying26 hi hz0 .i64 .i64 n n (by omega) (Int.le_refl _) (by rw[hz2];exact Int.le_trans hb (by omega)) (by omega)
 rw[hz1,tN]at hrun;unfold Oper.wp;simp only[execOp,ho,hl,Xz,hrun,Result.andThen,Ye,Oper.upon];refine hK _ _ (h _ ⟨⟨?_,.inr ⟨w.heap.size,n,madeCells frz.cells (n*13),by rw[lR],nR _,?_,?_,?_,?_,?_⟩⟩,by rw[lR];exact hn⟩)
 ·rw[ZL]
 ·show(w.heap.push _)[w.heap.size]? =_
  simp;rfl
 ·rw[lR];exact nR _
 ·exact qC (by omega)
 ·rw[size_madeCells]
 rw[lR,Oo (by simp[madeCells]),ziz]
theorem QR {P:Program} (w:Xo) (E:TypeId) (k:IntKind) (d:Nat) (xs ys:Array Xr) (i:TypeInfo) (hE:P.underlying E=Xa (.int k)) (hi:P.info? E=Xa i) (hs:i.size=1):
  ∀(a b:List Int) (o:Nat),a.length=b.length->(∀j v,a[j]? =Xa v->xs[o+j]? =Xa (.int k v))->(∀j v,b[j]? =Xa v->ys[o+j]? =Xa (.int k v))->
   (Op.eqItems (d+1) E 1 xs ys (List.range' o a.length)).run P w= .ok (decide (a=b)) w
 | [],[],_,_,_,_=>by simp[Op.eqItems]
 | [],_ :: _,_,h,_,_=>by simp at h
 | _ :: _,[],_,h,_,_=>by simp at h
 | x :: a,y :: b,o,h,hx,hy=>by
  have h1:=hx 0 x rfl;have h2:=hy 0 y rfl;have hp:∀(zs:Array Xr) v,zs[o+0]? =Xa (.int k v)->(part E zs (o*1)).run P w= .ok (.int k v) w:=fun zs v hz=>by
   rw[Nat.mul_one];exact run_part_plain w (by simp[Program.plainKey,hE]) hz
  have ih:=QR w E k d xs ys i hE hi hs a b (o+1) (by simpa using h) (fun j v hj=>by rw[Ym,Yu 1 j];exact hx (j+1) v (by simpa using hj)) (fun j v hj=>by rw[Ym,Yu 1 j];exact hy (j+1) v (by simpa using hj))
  simp only[Yw,List.range'_succ,Op.eqItems,Xz,hp xs x h1,hp ys y h2,rA,run_equalIn_int w d E k k x y hE]
  by_cases hxy:x=y
  ·subst hxy
   simp[ih]
  have:(x == y)=Xd:=by simpa using hxy
  simp[this,hxy]
theorem zcX {P:Program} (w:Xo) (T E:TypeId) (k:IntKind) (d n:Nat) (a b:List Int) (i:TypeInfo) (hT:P.underlying T=Xa (.array n E)) (hE:P.underlying E=Xa (.int k)) (hi:P.info? E=Xa i) (hs:i.size=1)
  (ha:a.length=n) (hb:b.length=n):
  (Op.equalIn (d+2) T (Xi (a.map (Value.int k)).toArray) (Xi (b.map (Value.int k)).toArray)).run P w= .ok (decide (a=b)) w:=by
 have hc:P.cellsOf E=1:=by simp[Program.cellsOf,hi,hs]
 rw[run_equalIn_array w (d+1) _ _ hT hi,hc,Ou,<-ha];exact QR w E k d _ _ i hE hi hs a b 0 (by omega) (fun j v hj=>by simp[hj]) (fun j v hj=>by simp[hj])
def ZQ (W:Xo) (y:Addr) (a:Fr):Prop:=
 W.cell? y=Xa (Xe Xg a.p.b0)/\W.cell? { block:=y.block,off:=y.off+1 }=Xa (Xe Xg a.p.b1)/\W.cell? { block:=y.block,off:=y.off+2 }=Xa (Xe Xg a.p.b2)/\W.cell? { block:=y.block,off:=y.off+3 }=Xa (Xe Xg a.p.b3)/\
 W.cell? { block:=y.block,off:=y.off+4 }=Xa (Xe Xg a.p.b4)/\W.cell? { block:=y.block,off:=y.off+5 }=Xa (Xe Xg a.p.b5)/\W.cell? { block:=y.block,off:=y.off+6 }=Xa (Xe Xg a.p.b6)/\W.cell? { block:=y.block,off:=y.off+7 }=Xa (Xe Xg a.p.b7)/\
 W.cell? { block:=y.block,off:=y.off+8 }=Xa (Xe Xf a.r)/\W.cell? { block:=y.block,off:=y.off+9 }=Xa (Xh a.u)/\W.cell? { block:=y.block,off:=y.off+10 }=Xa (Xh a.d)/\W.cell? { block:=y.block,off:=y.off+11 }=Xa (Xe Xf a.f)/\W.cell? { block:=y.block,off:=y.off+12 }=Xa (Xe Xf a.x)
theorem jz.fr {y:Addr} {a:Fr} (h:jz W y (frv a)):ZQ W y a:=
 ⟨h 0 _ rfl,h 1 _ rfl,h 2 _ rfl,h 3 _ rfl,h 4 _ rfl,h 5 _ rfl,h 6 _ rfl,h 7 _ rfl,h 8 _ rfl,h 9 _ rfl,h 10 _ rfl,h 11 _ rfl,h 12 _ rfl⟩
def zaM (w:Xo) (a:Option Addr) (l:List Fr):Prop:=∀(j:Nat) x,l[j]? =Xa x->∃ad,a=Xa ad/\∀W,zc w W->ZQ W (ad.add (j*13)) x
theorem qf.frs {w:Xo} {v:Xr} {l:List Fr} (h:qf w v l):∃a c,v= O a l.length c/\zaM w a l:=by
 obtain⟨a,c,h1,h2⟩:=h.rows;refine⟨a,c,h1,fun j x hj=>?_⟩
 obtain⟨ad,h3,h4⟩:=h2 j x hj;exact⟨ad,h3,fun W hW=>(h4 W hW).fr⟩
theorem zoo:(Tryz.prog.info? 5).map (fun i=>(i.zero,i.size,i.bytes))=Xa (Xa (Xe Xg 0),1,1):=by kernel_rfl
theorem zaT (k:Nat) (b0 b1 b2 b3 b4 b5 b6 b7 c0 c1 c2 c3 c4 c5 c6 c7:Int) (x:Xo):(Op.equalIn (k+2) 44 (Xi #[Xe Xg b0,Xe Xg b1,Xe Xg b2,Xe Xg b3,Xe Xg b4,Xe Xg b5,Xe Xg b6,Xe Xg b7]) (Xi #[Xe Xg c0,Xe Xg c1,Xe Xg c2,Xe Xg c3,Xe Xg c4,Xe Xg c5,Xe Xg c6,Xe Xg c7])).run prog x= .ok (zdQ ⟨b0,b1,b2,b3,b4,b5,b6,b7⟩ ⟨c0,c1,c2,c3,c4,c5,c6,c7⟩) x:=by
 obtain⟨i5,hi5,_,hz1,_⟩:=info_parts zoo;have:=zcX (P:=prog) x 44 5 .u8 k 8 [b0,b1,b2,b3,b4,b5,b6,b7] [c0,c1,c2,c3,c4,c5,c6,c7] i5 underlying44 underlying5 hi5 hz1 rfl rfl;rw[show zdQ ⟨b0,b1,b2,b3,b4,b5,b6,b7⟩ ⟨c0,c1,c2,c3,c4,c5,c6,c7⟩=decide ([b0,b1,b2,b3,b4,b5,b6,b7]=[c0,c1,c2,c3,c4,c5,c6,c7])from by
  rw[Bool.eq_iff_iff,zap,decide_eq_true_iff];simp only[Pg.mk.injEq,List.cons.injEq,and_true]]
 exact this
theorem zn9 (b0 b1 b2 b3 b4 b5 b6 b7 r:Int) (u d:Bool) (f x:Int) (c0 c1 c2 c3 c4 c5 c6 c7 r':Int) (u' d':Bool) (f' x':Int) (W:Xo):
  (Op.equalIn 10000 53 (Xi #[Xe Xg b0,Xe Xg b1,Xe Xg b2,Xe Xg b3,Xe Xg b4,Xe Xg b5,Xe Xg b6,Xe Xg b7,Xe Xf r,Xh u,Xh d,Xe Xf f,Xe Xf x]) (Xi #[Xe Xg c0,Xe Xg c1,Xe Xg c2,Xe Xg c3,Xe Xg c4,Xe Xg c5,Xe Xg c6,Xe Xg c7,Xe Xf r',Xh u',Xh d',Xe Xf f',Xe Xf x'])).run prog W
   = .ok (zaF ⟨⟨b0,b1,b2,b3,b4,b5,b6,b7⟩,r,u,d,f,x⟩ ⟨⟨c0,c1,c2,c3,c4,c5,c6,c7⟩,r',u',d',f',x'⟩) W:=by
 have hS:Tryz.prog.underlying 53=Xa (.struct (Tryz.prog.fieldsOf 53)):=by kernel_rfl
 have hp:Tryz.prog.stoodInHeld 53=Xd:=by kernel_rfl
 have hpg:=zaT 9997 b0 b1 b2 b3 b4 b5 b6 b7 c0 c1 c2 c3 c4 c5 c6 c7;have u3:=underlying3;have a3:=Tryz.isAgg3;have z3:=Tryz.sizeOf3;have u4:=underlying4;have a4:=Tryz.isAgg4;have z4:=Tryz.sizeOf4;have a23:=Tryz.isAgg44;have z23:=Tryz.sizeOf44;rw[show zaF ⟨⟨b0,b1,b2,b3,b4,b5,b6,b7⟩,r,u,d,f,x⟩ ⟨⟨c0,c1,c2,c3,c4,c5,c6,c7⟩,r',u',d',f',x'⟩=(zdQ ⟨b0,b1,b2,b3,b4,b5,b6,b7⟩ ⟨c0,c1,c2,c3,c4,c5,c6,c7⟩ &&(r == r') &&(u == u') &&(d == d') &&(f == f') &&(x == x'))from rfl]
 generalize zdQ ⟨b0,b1,b2,b3,b4,b5,b6,b7⟩ ⟨c0,c1,c2,c3,c4,c5,c6,c7⟩=P at hpg⊢
 rw[show(10000:Nat)=9999+1 from rfl,run_equalIn_agg W 9999 53 _ _ hS hp]
 simp only[Program.fieldsOf,underlying53]
 go_simp
 cases P
 ·simp
 by_cases h1:r=r' <;> by_cases h2:u=u' <;> by_cases h3:d=d' <;> by_cases h4:f=f' <;> by_cases h5:x=x' <;> simp[h1,h2,h3,h4,h5]
theorem zQ.step {P:Program} {a:Act} {w:Xo} {v:Xr} {K:Xr->Xo->Prop} (hr:(execOp a.eval o).run P w= .ok (.value v) w') (h:K v w'):zQ P o a w K:=by
 unfold zQ;rw[hr];exact h
section
variable{α:Type} {E:Elt α}
theorem jr {w:Xo} {base g:Nat} (ty:TypeId) (h0:zb E base w (O (Xa ⟨g,0,Xb⟩) 0 0) ([]:List α)) (vx:Xr) (l:List α) (hv:zm E w vx l) (hbase:base<=w.heap.size):
  ∃v' w',(Builtin.append_ #[E.st,E.st] ty #[O (Xa ⟨g,0,Xb⟩) 0 0,vx]).run prog w= .ok v' w'/\zb E base w' v' l/\zc w w'/\(l=[]->v'= O (Xa ⟨g,0,Xb⟩) 0 0):=by
 obtain⟨i0,hi,hz0,hz1,hz2⟩:=info_parts E.info;obtain⟨⟨ax,c,rfl,hnone,hcells⟩,hb⟩:=hv
 by_cases hq:l=[]
 ·subst hq;refine⟨_,w,?_,h0,zc.refl w,fun _=>rfl⟩
  cases ax with
  | none=>simp[Builtin.append_,run_underlying E.und,sizeOf,typeInfo,hi,Builtin.lenOf,Builtin.firstCells,storeCells]
  | some x=>simp[Builtin.append_,run_underlying E.und,sizeOf,typeInfo,hi,Builtin.lenOf,Builtin.firstCells,loadCells,loadCellsFrom,storeCells]
 cases ax with
 | none=>exact absurd (hnone rfl) hq
 | some ad=>
  have hpos:0<l.length:=List.length_pos_iff.2 hq;have h2:l.length*1<=l.length*E.bytes:=Xy _ (nT E.pos E.few);obtain⟨v',w',hr,ho,hg⟩:=run_append_arg_grows (P:=prog) w E.st ty E.ty i0 _ E.k E.bytes E.und hi hz0 hz1 hz2 (zlb E) E.pos ⟨g,0,Xb⟩ 0 0 [] (by simp) (fun j u hj=>by simp at hj) ad l.length c (l.flatMap E.enc) (js E l) (hcells ad rfl) (by omega) (qC (by omega)) (by simpa using hb)
  refine⟨v',w',hr,⟨qQ (by simpa using ho) hbase,hb⟩,⟨hg.os,hg.tape,hg.output,hg.size,fun k hk=>hg.block k hk (by simp)⟩,fun h=>absurd h hq⟩
theorem qn {w:Xo} {base:Nat} {v:Xr} {l0:List α} (ty:TypeId) (h0:zb E base w v l0) (vx:Xr) (l:List α) (hv:zm E w vx l) (hb:(l0.length+l.length)*E.bytes<=140737488355328) (hbase:base<=w.heap.size):
  ∃v' w',(Builtin.append_ #[E.st,E.st] ty #[v,vx]).run prog w= .ok v' w'/\zb E base w' v' (l0++l)/\w.grownBy w' v.ownBlock/\∀u m,m.length<=l0.length->zb E base w u m->zb E base w' u m:=by
 obtain⟨i0,hi,hz0,hz1,hz2⟩:=info_parts E.info;obtain⟨⟨ax,c,rfl,hnone,hcells⟩,hby⟩:=hv;have h2:(l0.length+l.length)*1<=(l0.length+l.length)*E.bytes:=Xy _ (nT E.pos E.few)
 cases ax with
 | none=>
  have hps:=hnone rfl;subst hps;exact⟨v,w,Q7 ty h0 c,by simpa using h0,World.grownBy.rfl' _ _,fun u m _ h=>h⟩
 | some ad=>
  rcases h0.1.2 with⟨rfl,hn0⟩|⟨g,cap,cur,rfl,hgb,hgc,hnc,hcm,hcs,hct⟩
  ·obtain⟨v',w',hr,ho,hg,_⟩:=run_append_own (P:=prog) w base E.st ty E.ty i0 _ E.k E.bytes E.und hi hz0 hz1 hz2 (zlb E) E.pos _ l0.length _ h0.1 ad l.length c (l.flatMap E.enc) (js E l) (hcells ad rfl) (qT E.one l) (qC (by omega)) hb hbase
   refine⟨v',w',hr,⟨by rw[lA,Yg];exact ho,by rw[lA];exact hb⟩,hg,fun u m _ h=>h.grown hg (fun g' _ e=>by cases e)⟩
  by_cases hroom:l0.length+l.length<=cap
  ·obtain⟨w',hr,ho,hg⟩:=run_append_fits (P:=prog) w base E.st ty E.ty i0 E.k E.und hi hz1 g l0.length cap _ h0.1 ad l.length c (l.flatMap E.enc) (js E l) (hcells ad rfl) (qT E.one l) hroom;refine⟨_,w',hr,⟨by rw[lA,Yg];exact ho,by rw[lA];exact hb⟩,hg,fun u m hm h=>?_⟩
   by_cases he:u.ownBlock=Xa g
   ·rcases h.1.2 with⟨rfl,_⟩|⟨g',cap',cur',rfl,k1,k2,k3,k4,k5,k6⟩
    ·cases he
    simp only[Value.ownBlock,Option.some.injEq]at he;subst he;rw[hgc]at k2;simp only[Option.some.injEq,Obj.cells.injEq,and_true]at k2;obtain rfl:=k2;have hcc:cap'=cap:=Nat.eq_of_mul_eq_mul_right E.pos (k5.symm.trans hcs);subst hcc
    rcases ho.2 with⟨hx,_⟩|⟨g2,cap2,cur2,e1,_,e3,e4,e5,e6,e7⟩
    ·cases hx
    cases e1;refine⟨⟨h.1.1,.inr ⟨g',cap',cur2,rfl,k1,e3,k3,k4,e6,?_⟩⟩,h.2⟩;have hle:m.length*E.k<=l0.length*E.k:=Yf _ hm;have hl0:(l0.flatMap E.enc).length=l0.length*E.k:=js E l0;have ht:cur2.toList.take (m.length*E.k)=(cur2.toList.take ((l0.length+l.length)*E.k)).take (m.length*E.k):=by
     rw[List.take_take,Nat.min_eq_left (by rw[Yx];omega)]
    rw[ht,e7,Yj (by rw[hl0];exact hle),<-hct,List.take_take,Nat.min_eq_left hle]
    exact k6
   exact h.grown hg (fun g' hg' e=>by cases e;exact he hg')
  obtain⟨v',w',hr,ho,hg⟩:=run_append_arg_grows (P:=prog) w E.st ty E.ty i0 _ E.k E.bytes E.und hi hz0 hz1 hz2 (zlb E) E.pos ⟨g,0,Xb⟩ l0.length cap (l0.flatMap E.enc) (js E l0) (h0.1.cells rfl) ad l.length c (l.flatMap E.enc) (js E l) (hcells ad rfl) (by omega) (qC (by omega)) hb
  refine⟨v',w',hr,⟨by rw[lA,Yg];exact qQ ho hbase,by rw[lA];exact hb⟩,⟨hg.os,hg.tape,hg.output,hg.size,fun k hk _=>hg.block k hk (by simp)⟩,fun u m _ h=>h.grown hg (fun g' _ e=>by cases e)⟩
end
def pgc (p:List Int):List Xr:=p.map (Value.int .u8)
def ptc (q:Int × List Int):List Xr:= Xe Xf q.1 :: pgc q.2
theorem Zs (p:List Int):(pgc p).length=p.length:=by simp[pgc]
theorem zaS (q:Int × List Int):(ptc q).length=q.2.length+1:=by simp[ptc,pgc]
theorem Zr (p:List Int):∀u∈pgc p,u.oneCell'=Xc:=fun u hu=>by
 obtain⟨x,_,rfl⟩:=List.mem_map.1 hu;rfl
theorem zb1 (q:Int × List Int):∀u∈ptc q,u.oneCell'=Xc:=fun u hu=>by
 rcases mC.1 hu with rfl|h
 ·rfl
 exact Zr _ u h
def qK (w:Xo) (v:Xr) (ps:List (List Int)):Prop:=jv pgc w v ps/\(∀p∈ps,p.length=8)/\ps.length*8<=140737488355328
def qH (w:Xo) (v:Xr) (qs:List (Int × List Int)):Prop:=jv ptc w v qs/\(∀q∈qs,q.2.length=8)/\qs.length*16<=140737488355328
theorem qK.grew {w:Xo} {v:Xr} {ps:List (List Int)} (h:qK w v ps) (hg:zc w w'):qK w' v ps:=⟨h.1.grew hg,h.2⟩
theorem qH.grew {w:Xo} {v:Xr} {qs:List (Int × List Int)} (h:qH w v qs) (hg:zc w w'):qH w' v qs:=⟨h.1.grew hg,h.2⟩
def zi (base:Nat) (w:Xo) (v:Xr) (ps:List (List Int)):Prop:=w.ownsRow base 44 8 v ps.length (ps.flatMap pgc)/\(∀p∈ps,p.length=8)/\ps.length*8<=140737488355328
def zp (base:Nat) (w:Xo) (v:Xr) (qs:List (Int × List Int)):Prop:=w.ownsRow base 100 9 v qs.length (qs.flatMap ptc)/\(∀q∈qs,q.2.length=8)/\qs.length*16<=140737488355328
theorem zi.at {base:Nat} {w:Xo} {v:Xr} {ps:List (List Int)} (h:zi base w v ps):qK w v ps:=⟨j0 h.1,h.2⟩
theorem zp.at {base:Nat} {w:Xo} {v:Xr} {qs:List (Int × List Int)} (h:zp base w v qs):qH w v qs:=⟨j0 h.1,h.2⟩
def j8 (w:Xo) (d:Xr) (ps:List (List Int)) (qs:List (Int × List Int)):Prop:=∃b q,d= Xi #[b,q]/\qK w b ps/\qH w q qs
theorem j8.grew {w:Xo} {d:Xr} {ps:List (List Int)} {qs:List (Int × List Int)} (h:j8 w d ps qs) (hg:zc w w'):j8 w' d ps qs:=by
 obtain⟨b,q,h1,h2,h3⟩:=h;exact⟨b,q,h1,h2.grew hg,h3.grew hg⟩
theorem zdZ (l:List Int) (h:l.length=8):∃c0 c1 c2 c3 c4 c5 c6 c7,l=[c0,c1,c2,c3,c4,c5,c6,c7]:=by
 match l,h with
 | [c0,c1,c2,c3,c4,c5,c6,c7],_=>exact⟨c0,c1,c2,c3,c4,c5,c6,c7,rfl⟩
def zhM (W:Xo) (y:Addr) (m b0 b1 b2 b3 b4 b5 b6 b7:Int):Prop:=
 W.cell? y=Xa (Xe Xf m)/\W.cell? { block:=y.block,off:=y.off+1 }=Xa (Xe Xg b0)/\W.cell? { block:=y.block,off:=y.off+2 }=Xa (Xe Xg b1)/\W.cell? { block:=y.block,off:=y.off+3 }=Xa (Xe Xg b2)/\
 W.cell? { block:=y.block,off:=y.off+4 }=Xa (Xe Xg b3)/\W.cell? { block:=y.block,off:=y.off+5 }=Xa (Xe Xg b4)/\W.cell? { block:=y.block,off:=y.off+6 }=Xa (Xe Xg b5)/\W.cell? { block:=y.block,off:=y.off+7 }=Xa (Xe Xg b6)/\W.cell? { block:=y.block,off:=y.off+8 }=Xa (Xe Xg b7)
def zcM (W:Xo) (y:Addr) (b0 b1 b2 b3 b4 b5 b6 b7:Int):Prop:=
 W.cell? y=Xa (Xe Xg b0)/\W.cell? { block:=y.block,off:=y.off+1 }=Xa (Xe Xg b1)/\W.cell? { block:=y.block,off:=y.off+2 }=Xa (Xe Xg b2)/\W.cell? { block:=y.block,off:=y.off+3 }=Xa (Xe Xg b3)/\
 W.cell? { block:=y.block,off:=y.off+4 }=Xa (Xe Xg b4)/\W.cell? { block:=y.block,off:=y.off+5 }=Xa (Xe Xg b5)/\W.cell? { block:=y.block,off:=y.off+6 }=Xa (Xe Xg b6)/\W.cell? { block:=y.block,off:=y.off+7 }=Xa (Xe Xg b7)
theorem jz.put {y:Addr} {m b0 b1 b2 b3 b4 b5 b6 b7:Int} (h:jz W y (ptc (m,[b0,b1,b2,b3,b4,b5,b6,b7]))):zhM W y m b0 b1 b2 b3 b4 b5 b6 b7:=
 ⟨h 0 _ rfl,h 1 _ rfl,h 2 _ rfl,h 3 _ rfl,h 4 _ rfl,h 5 _ rfl,h 6 _ rfl,h 7 _ rfl,h 8 _ rfl⟩
theorem jz.page {y:Addr} {b0 b1 b2 b3 b4 b5 b6 b7:Int} (h:jz W y (pgc [b0,b1,b2,b3,b4,b5,b6,b7])):zcM W y b0 b1 b2 b3 b4 b5 b6 b7:=
 ⟨h 0 _ rfl,h 1 _ rfl,h 2 _ rfl,h 3 _ rfl,h 4 _ rfl,h 5 _ rfl,h 6 _ rfl,h 7 _ rfl⟩
def ZO (w:Xo) (a:Option Addr) (qs:List (Int × List Int)):Prop:=
 ∀(j:Nat) q,qs[j]? =Xa q->∃x m b0 b1 b2 b3 b4 b5 b6 b7,a=Xa x/\q=(m,[b0,b1,b2,b3,b4,b5,b6,b7])/\∀W,zc w W->zhM W (x.add (j*9)) m b0 b1 b2 b3 b4 b5 b6 b7
def zbH (w:Xo) (a:Option Addr) (ps:List (List Int)):Prop:=
 ∀(j:Nat) p,ps[j]? =Xa p->∃x b0 b1 b2 b3 b4 b5 b6 b7,a=Xa x/\p=[b0,b1,b2,b3,b4,b5,b6,b7]/\∀W,zc w W->zcM W (x.add (j*8)) b0 b1 b2 b3 b4 b5 b6 b7
theorem qH.rows {w:Xo} {v:Xr} {qs:List (Int × List Int)} (h:qH w v qs):∃a c,v= O a qs.length c/\ZO w a qs:=by
 obtain⟨⟨a,c,h1,h2,h3⟩,h4,_⟩:=h;refine⟨a,c,h1,fun j q hj=>?_⟩
 have hm:q∈qs:=mG hj;obtain⟨m,l⟩:=q;obtain⟨b0,b1,b2,b3,b4,b5,b6,b7,rfl⟩:=zdZ l (h4 _ hm)
 cases a with
 | none=>rw[h2 rfl]at hm;cases hm
 | some x=>exact⟨x,m,b0,b1,b2,b3,b4,b5,b6,b7,rfl,rfl,fun W hW=>(((h3 x rfl).grew hW).elem (k:=9) (fun b hb=>by rw[zaS,h4 b hb]) hj).put⟩
theorem qK.rows {w:Xo} {v:Xr} {ps:List (List Int)} (h:qK w v ps):∃a c,v= O a ps.length c/\zbH w a ps:=by
 obtain⟨⟨a,c,h1,h2,h3⟩,h4,_⟩:=h;refine⟨a,c,h1,fun j q hj=>?_⟩
 have hm:q∈ps:=mG hj;obtain⟨b0,b1,b2,b3,b4,b5,b6,b7,rfl⟩:=zdZ q (h4 _ hm)
 cases a with
 | none=>rw[h2 rfl]at hm;cases hm
 | some x=>exact⟨x,b0,b1,b2,b3,b4,b5,b6,b7,rfl,rfl,fun W hW=>(((h3 x rfl).grew hW).elem (k:=8) (fun b hb=>by rw[Zs,h4 b hb]) hj).page⟩
theorem Jh (a:Option Addr) (n c:Nat) (q:Xr) (m:Int) (w:Xo):
  Xq prog 188 #[Xi #[O a n c,q],Xe Xf m] w fun e w'=>e= Xl (Xh (jo m n))/\zc w w':=by
 have H:Xp (jo m n=(decide (0<=m) && decide (m<n))):=rfl
 by_cases h0:0<=m
 ·by_cases h1:m<n
  ·go_enter func188,ntmps188
   go_wp2;go_ret;exact⟨by rw[H.out];simp[*],(bR _ _).alloc (nR _) _⟩
  go_enter func188,ntmps188
  go_wp2;go_ret;exact⟨by rw[H.out];simp[*],(bR _ _).alloc (nR _) _⟩
 go_enter func188,ntmps188
 go_wp2;go_ret;exact⟨by rw[H.out];simp;omega,(bR _ _).alloc (nR _) _⟩
theorem zhQ (a:Option Addr) (n c:Nat) (qv:Xr) (B:Nat) (q:Int × List Int) (hq:q.2.length=8) (w:Xo) (hc0:w.cell? ⟨B,0,Xb⟩=Xa (O a n c)) (hc1:w.cell? ⟨B,1,Xb⟩=Xa qv):
  Xq prog 187 #[Xi (ptc q).toArray,Xj (Xa ⟨B,0,Xb⟩)] w fun e w'=>e= Xl (Xh (!jo q.1 n))/\zc w w':=by
 obtain⟨m,l⟩:=q;obtain⟨b0,b1,b2,b3,b4,b5,b6,b7,rfl⟩:=zdZ l hq;have hB:=World.block_lt_of_cell? _ _ hc0;have hne:B≠w.heap.size:=by simp at hB;omega
 show Xq prog 187 #[Xi #[Xe Xf m,Xe Xg b0,Xe Xg b1,Xe Xg b2,Xe Xg b3,Xe Xg b4,Xe Xg b5,Xe Xg b6,Xe Xg b7],Xj (Xa ⟨B,0,Xb⟩)] w _
 go_enter func187,ntmps187
 go_wp2_with (go_at_call 188;refine(Jh _ _ _ _ _ _).mono ?_;rintro e w' ⟨rfl,hg⟩)
 go_ret;exact⟨rfl,zc.trans ((bR _ _).alloc (nR _) _) hg⟩
def zol (p:Int × List Int->Bool) (qs:List (Int × List Int)) (r:Int):Prop:=
 (r=-1/\∀(j:Nat) q,qs[j]? =Xa q->p q=Xd)\/∃(k:Nat) (q:Int × List Int),r=(k:Int)/\qs[k]? =Xa q/\p q=Xc/\∀(j:Nat) q',j<k->qs[j]? =Xa q'->p q'=Xd
def zhN (g:Nat) (lb:Array Xr) (p:Int × List Int->Bool) (w:Xo):Prop:=
 ∀W q,zc w W->q.2.length=8->Xq prog g (#[Xi (ptc q).toArray]++lb) W fun e W'=>e= Xl (Xh (p q))/\zc W W'
theorem zd9 (p:Int × List Int->Bool) (g:Nat) (lb:Array Xr) (eg:∀args w,(callFunc g args).run prog w= .ok (.enter g args) w) (v:Xr) (qs:List (Int × List Int)) (w:Xo) (hv:qH w v qs) (hp:zhN g lb p w):
  Xq prog 215 #[v,.func (.func g) #[] lb] w fun e w'=>∃r:Int,e= Xl (Xe Xf r)/\zc w w'/\zol p qs r:=by
 obtain⟨a,c,rfl,hrow⟩:=hv.rows;have hbig:qs.length<=9223372036854775807:=by have:=hv.2.2;omega
 have HR:Xp (ZO w a qs):=hrow;have HP:Xp (zhN g lb p w):=hp;clear hrow hp hv;obtain⟨n,hn⟩:=kB qs.length;have HN:Xp (qs.length=n):=hn;rw[hn]at hbig⊢;clear hn
 go_enter func215,ntmps215
 go_wp2
 go_loopg [5,8] n (fun gg _ s8 wr=>∃kk:Nat,kk<=n/\n - kk<=gg/\s8= Xe Xf kk/\Xp (zc w wr)/\Xp (∀j q,j<kk->qs[j]? =Xa q->p q=Xd))
 case atStart=>exact⟨0,nZ _,by omega,rfl,zc.refl w,fun j q hj=>absurd hj (nL _)⟩
 obtain⟨kk,hkk,hg,rfl,BW,A⟩:=hrel
 by_cases hlt:kk<n
 ·have hltz:=kC hlt
  have hkq:kk<qs.length:=by rw[HN.out];exact hlt
  obtain⟨q,HQ⟩:∃q,Xp (qs[kk]? =Xa q):=⟨_,gE hkq⟩;obtain⟨x,m,b0,b1,b2,b3,b4,b5,b6,b7,rfl,rfl,hl⟩:=HR.out kk q HQ.out;obtain⟨d0,d1,d2,d3,d4,d5,d6,d7,d8⟩:=hl wr BW.out;have hcall:=HP.out wr (m,[b0,b1,b2,b3,b4,b5,b6,b7]) BW rfl;clear hl hkq
  cases hq:p (m,[b0,b1,b2,b3,b4,b5,b6,b7])with
  | true=>
   rw[hq]at hcall
   go_wp2_with (go_at_fn g;refine hcall.mono ?_;rintro e w' ⟨rfl,hb'⟩)
   go_ret;exact⟨_,rfl,BW.trans hb', .inr ⟨kk,_,rfl,HQ,hq,A⟩⟩
  | false=>
   rw[hq]at hcall
   go_wp2_with (go_at_fn g;refine hcall.mono ?_;rintro e w' ⟨rfl,hb'⟩)
   go_roundg (n -(kk+1))
   case measure=>omega
   refine⟨kk+1,by omega,by omega,by go_num,BW.trans hb',(show Xp _ from fun j q' hj hq'=>?_)⟩
   by_cases e:j=kk
   ·subst e;rw[HQ.out]at hq';cases hq';exact hq
   exact A j q' (by omega) hq'
 have hltz:=kD hlt
 have:kk=n:=by omega
 subst this;go_wp2;go_ret;refine⟨_,rfl,BW,.inl ⟨rfl,fun j q hj=>A.out j q ?_ hj⟩⟩
 have:=(gS.1 hj).1;rw[HN.out]at this;exact this
theorem zbv (p:Int × List Int->Bool) (g:Nat) (lb:Array Xr) (eg:∀args w,(callFunc g args).run prog w= .ok (.enter g args) w) (v:Xr) (qs:List (Int × List Int)) (w:Xo) (hv:qH w v qs) (hp:zhN g lb p w):
  Xq prog 186 #[v,.func (.func g) #[] lb] w fun e w'=>e= Xl (Xh (qs.any p))/\zc w w':=by
 have hcon:=zd9 p g lb eg v qs w hv hp;clear hv hp eg
 go_enter func186,ntmps186
 go_wp2_with (go_at_call 215;refine hcon.mono ?_;rintro e w' ⟨r,rfl,hg,hr⟩)
 go_ret;have hb:qs.any p=decide (0<=r):=by
  rcases hr with⟨rfl,h⟩|⟨k,q,rfl,h1,h2,_⟩
  ·rw[show decide ((0:Int)<=-1)=Xd from rfl,Od]
   intro q hq;obtain⟨j,hj⟩:=Ox hq;rw[h j q hj];simp
  rw[show decide ((0:Int)<=(k:Int))=Xc from by simp,Yq]
  exact⟨q,mG h1,h2⟩
 rw[hb];exact⟨rfl,hg⟩
theorem zgp (a:Option Addr) (n c:Nat) (qv:Xr) (B:Nat) (w:Xo) (hc0:w.cell? ⟨B,0,Xb⟩=Xa (O a n c)) (hc1:w.cell? ⟨B,1,Xb⟩=Xa qv):
  zhN 187 #[Xj (Xa ⟨B,0,Xb⟩)] (fun q=>!jo q.1 n) w:=fun W q hW h8=>by
 have hB:B<w.heap.size:=World.block_lt_of_cell? _ _ hc0;exact zhQ a n c qv B q h8 W ((Below.cell hW (p:=⟨B,0,Xb⟩) hB).trans hc0) ((Below.cell hW (p:=⟨B,1,Xb⟩) hB).trans hc1)
theorem zaf (a:Option Addr) (n c:Nat) (qv:Xr) (qs:List (Int × List Int)) (w:Xo) (hq:qH w qv qs):
  Xq prog 154 #[Xi #[O a n c,qv]] w fun e w'=>e= Xl (Xe Xf (zJ n qs))/\zc w w':=by
 have HL:Xp (zJ n qs=if 80<n then 4 else if 400<qs.length then 4 else if qs.any (fun q=>!jo q.1 n)then 3 else 0):=rfl
 obtain⟨a2,c2,rfl,_⟩:=hq.rows;have hcon:=zbv (fun q=>!jo q.1 n) 187 #[Xj (Xa ⟨w.heap.size,0,Xb⟩)] (enters_of func187 (by kernel_rfl) rfl) (O a2 qs.length c2) qs (w.alloc (Xk #[O a n c,O a2 qs.length c2] 34)) (hq.grew (za _ _)) (zgp a n c (O a2 qs.length c2) _ _ (by simp) (by simp))
 clear hq;obtain⟨nq,HN⟩:=kA qs.length;rw[HN.out]at hcon HL⊢;obtain⟨b,HB⟩:=kA (qs.any fun q=>!jo q.1 n)
 rw[HB.out]at hcon HL
 by_cases h1:80<n
 ·have h1':(80:Int)< (n:Int):=by omega
  rw[kE h1]at HL;clear hcon
  go_enter func154,ntmps154
  go_wp2;go_ret;exact⟨by rw[HL.out];rfl,za _ _⟩
 have h1':¬(80:Int)< (n:Int):=by omega
 rw[kF h1]at HL
 by_cases h2:400<nq
 ·have h2':(400:Int)< (nq:Int):=by omega
  rw[kE h2]at HL;clear hcon
  go_enter func154,ntmps154
  go_wp2;go_ret;exact⟨by rw[HL.out];rfl,za _ _⟩
 have h2':¬(400:Int)< (nq:Int):=by omega
 rw[kF h2]at HL
 cases b with
 | true=>
  go_enter func154,ntmps154
  go_wp2_with (go_at_call 186;refine hcon.mono ?_;rintro e w' ⟨rfl,hg⟩)
  go_ret;exact⟨by rw[HL.out];rfl,(za _ _).trans hg⟩
 | false=>
  go_enter func154,ntmps154
  go_wp2_with (go_at_call 186;refine hcon.mono ?_;rintro e w' ⟨rfl,hg⟩)
  go_ret;exact⟨by rw[HL.out];rfl,(za _ _).trans hg⟩
theorem Qy (a:Option Addr) (n c:Nat) (qv:Xr) (qs:List (Int × List Int)) (m:Int) (w:Xo) (hq:qH w qv qs):
  Xq prog 171 #[Xi #[O a n c,qv],Xe Xf m] w fun e w'=>e= Xl (Xe Xf (zo n qs m))/\zc w w':=by
 have HL:Xp (zo n qs m=if zJ n qs=0 then(if jo m n then 0 else 3)else zJ n qs):=rfl;have hcon:=zaf a n c qv qs (w.alloc (Xk #[O a n c,qv] 34)) (hq.grew (za _ _));clear hq;obtain⟨r,HR⟩:=kA (zJ n qs);rw[HR.out]at hcon HL
 by_cases hr:r=0
 ·subst hr;rw[kE rfl]at HL
  cases hb:jo m n with
  | true=>
   rw[hb]at HL
   go_enter func171,ntmps171
   go_wp2_with (first
    | (go_at_call 154;refine hcon.mono ?_;rintro e w' ⟨rfl,hg⟩;have e0:w'.cell? ⟨w.heap.size,0,Xb⟩=Xa (O a n c):=(Below.cell hg (by simp)).trans (by simp);have e1:w'.cell? ⟨w.heap.size,1,Xb⟩=Xa qv:=(Below.cell hg (by simp)).trans (by simp))
    | (go_at_call 188;refine(Jh _ _ _ _ _ _).mono ?_;rintro e w'' ⟨rfl,hg2⟩;rw[hb]))
   go_ret;exact⟨by rw[HL.out];rfl,((za _ _).trans hg).trans hg2⟩
  | false=>
   rw[hb]at HL
   go_enter func171,ntmps171
   go_wp2_with (first
    | (go_at_call 154;refine hcon.mono ?_;rintro e w' ⟨rfl,hg⟩;have e0:w'.cell? ⟨w.heap.size,0,Xb⟩=Xa (O a n c):=(Below.cell hg (by simp)).trans (by simp);have e1:w'.cell? ⟨w.heap.size,1,Xb⟩=Xa qv:=(Below.cell hg (by simp)).trans (by simp))
    | (go_at_call 188;refine(Jh _ _ _ _ _ _).mono ?_;rintro e w'' ⟨rfl,hg2⟩;rw[hb]))
   go_ret;exact⟨by rw[HL.out];rfl,((za _ _).trans hg).trans hg2⟩
 have hne:(r != 0)=Xc:=by simpa using hr
 rw[kF hr]at HL
 go_enter func171,ntmps171
 go_wp2_with (go_at_call 154;refine hcon.mono ?_;rintro e w' ⟨rfl,hg⟩)
 go_ret;exact⟨by rw[HL.out];rfl,(za _ _).trans hg⟩
theorem zop:(Tryz.prog.info? 44).map (fun i=>(i.zero,i.size,i.bytes))=Xa (Xa (Xi #[Xe Xg 0,Xe Xg 0,Xe Xg 0,Xe Xg 0,Xe Xg 0,Xe Xg 0,Xe Xg 0,Xe Xg 0]),8,8):=by kernel_rfl
theorem zoq:(Tryz.prog.info? 100).map (fun i=>(i.zero,i.size,i.bytes))=Xa (Xa (Xi #[Xe Xf 0,Xe Xg 0,Xe Xg 0,Xe Xg 0,Xe Xg 0,Xe Xg 0,Xe Xg 0,Xe Xg 0,Xe Xg 0]),9,16):=by kernel_rfl
theorem JR (v:Xr) (ps:List (List Int)) (w:Xo) (hv:qK w v ps):
  Xq prog 97 #[v] w fun e w'=>∃v',e= Xl v'/\zi w.heap.size w' v' ps/\zc w w':=by
 obtain⟨⟨a,c,rfl,hnone,hcells⟩,h8,hbytes⟩:=hv;have q22:∀(w:Xo) (a:Option Addr) (n c n' c':Nat),(binOp .eql 31 (O a n c) (O Xb n' c')).run prog w= .ok (Xh a.isNone) w:=fun w a n c n' c'=>Lib.run_eql_slice_nil w _ _ a n c n' c' underlying31
 cases a with
 | none=>
  have hps:=hnone rfl;subst hps;clear hcells hnone h8 hbytes
  go_enter func97,ntmps97
  go_wp2;go_ret;exact⟨_,rfl,⟨World.ownsRow_nil _ _ _ _,by simp,by simp⟩,zc.refl w⟩
 | some x=>
  have A:=hcells x rfl;have HA:Xp (jz w x (ps.flatMap pgc)):=A;have HB:Xp (ps.length*8<=140737488355328):=hbytes;have H8:Xp (∀p∈ps,p.length=8):=h8;clear hcells hnone hbytes h8;obtain⟨i0,hi,hz0,hz1,hz2⟩:=info_parts zop
  go_enter func97,ntmps97
  go_wp2_with (at_builtin;refine wpList_append_own _ rfl _ _ 31 rfl w.heap.size 44 i0 _ 8 8 underlying31 hi hz0 hz1 hz2 rfl (by decide) _ _ _ rfl (World.ownsRow_made w #[] 0 (nR _) (nZ _) (by simp)) x ps.length c (ps.flatMap pgc) rfl ?qc1 ?qc2 ?qc3 ?qc4 ?qc5 ?qc6 ?_)
  case qc1=>exact qI ps fun p hp=>by rw[Zs,H8.out p hp]
  case qc2=>exact HA.grew (za _ _)
  case qc3=>exact qT Zr ps
  case qc4=>rw[zA];exact qC (by have:=HB.out;omega)
  case qc5=>rw[zA];exact HB.out
  case qc6=>simp
  intro v' w1 hown hgrow hnil;go_wp2;go_ret;exact⟨v',rfl,⟨by simpa using hown,H8,HB⟩,((bR _ w).alloc (nR _) _).grown hgrow (by simp) (by intro k hk;simp[Value.ownBlock]at hk;omega)⟩
theorem zer (v:Xr) (qs:List (Int × List Int)) (w:Xo) (hv:qH w v qs):
  Xq prog 98 #[v] w fun e w'=>∃v',e= Xl v'/\zp w.heap.size w' v' qs/\zc w w':=by
 obtain⟨⟨a,c,rfl,hnone,hcells⟩,h8,hbytes⟩:=hv;have q22:∀(w:Xo) (a:Option Addr) (n c n' c':Nat),(binOp .eql 32 (O a n c) (O Xb n' c')).run prog w= .ok (Xh a.isNone) w:=fun w a n c n' c'=>Lib.run_eql_slice_nil w _ _ a n c n' c' underlying32
 cases a with
 | none=>
  have hps:=hnone rfl;subst hps;clear hcells hnone h8 hbytes
  go_enter func98,ntmps98
  go_wp2;go_ret;exact⟨_,rfl,⟨World.ownsRow_nil _ _ _ _,by simp,by simp⟩,zc.refl w⟩
 | some x=>
  have A:=hcells x rfl;have HA:Xp (jz w x (qs.flatMap ptc)):=A;have HB:Xp (qs.length*16<=140737488355328):=hbytes;have H8:Xp (∀q∈qs,q.2.length=8):=h8;clear hcells hnone hbytes h8;obtain⟨i0,hi,hz0,hz1,hz2⟩:=info_parts zoq
  go_enter func98,ntmps98
  go_wp2_with (at_builtin;refine wpList_append_own _ rfl _ _ 32 rfl w.heap.size 100 i0 _ 9 16 underlying32 hi hz0 hz1 hz2 rfl (by decide) _ _ _ rfl (World.ownsRow_made w #[] 0 (nR _) (nZ _) (by simp)) x qs.length c (qs.flatMap ptc) rfl ?qc1 ?qc2 ?qc3 ?qc4 ?qc5 ?qc6 ?_)
  case qc1=>exact qI qs fun p hp=>by rw[zaS,H8.out p hp]
  case qc2=>exact HA.grew (za _ _)
  case qc3=>exact qT zb1 qs
  case qc4=>rw[zA];exact qC (by have:=HB.out;omega)
  case qc5=>rw[zA];exact HB.out
  case qc6=>simp
  intro v' w1 hown hgrow hnil;go_wp2;go_ret;exact⟨v',rfl,⟨by simpa using hown,H8,HB⟩,((bR _ w).alloc (nR _) _).grown hgrow (by simp) (by intro k hk;simp[Value.ownBlock]at hk;omega)⟩
def QP (base:Nat) (w:Xo) (d:Xr) (ps:List (List Int)) (qs:List (Int × List Int)):Prop:=∃b q,d= Xi #[b,q]/\zi base w b ps/\zp base w q qs
theorem zi.grew {base:Nat} {w:Xo} {v:Xr} {ps:List (List Int)} (h:zi base w v ps) (hg:zc w w'):zi base w' v ps:=⟨ZY h.1 hg,h.2⟩
theorem zp.grew {base:Nat} {w:Xo} {v:Xr} {qs:List (Int × List Int)} (h:zp base w v qs) (hg:zc w w'):zp base w' v qs:=⟨ZY h.1 hg,h.2⟩
theorem zi.base {base:Nat} {w:Xo} {v:Xr} {ps:List (List Int)} (h:zi base w v ps) (hb:base'<=base):zi base' w v ps:=⟨qQ h.1 hb,h.2⟩
theorem zp.base {base:Nat} {w:Xo} {v:Xr} {qs:List (Int × List Int)} (h:zp base w v qs) (hb:base'<=base):zp base' w v qs:=⟨qQ h.1 hb,h.2⟩
theorem zi.slice {base:Nat} {w:Xo} {v:Xr} {ps:List (List Int)} (h:zi base w v ps):∃a n c,v= O a n c:=by
 rcases h.1.2 with⟨rfl,_⟩|⟨g,cap,cur,rfl,_⟩
 ·exact⟨_,_,_,rfl⟩
 exact⟨_,_,_,rfl⟩
theorem zp.slice {base:Nat} {w:Xo} {v:Xr} {qs:List (Int × List Int)} (h:zp base w v qs):∃a n c,v= O a n c:=by
 rcases h.1.2 with⟨rfl,_⟩|⟨g,cap,cur,rfl,_⟩
 ·exact⟨_,_,_,rfl⟩
 exact⟨_,_,_,rfl⟩
theorem zi.setCell {base:Nat} {w:Xo} {v:Xr} {ps:List (List Int)} (h:zi base w v ps) {a:Addr} (ha:a.block<base) (u:Xr):zi base (w.setCell a u) v ps:=⟨ownsRow_setCell_below h.1 ha u,h.2⟩
theorem zp.setCell {base:Nat} {w:Xo} {v:Xr} {qs:List (Int × List Int)} (h:zp base w v qs) {a:Addr} (ha:a.block<base) (u:Xr):zp base (w.setCell a u) v qs:=⟨ownsRow_setCell_below h.1 ha u,h.2⟩
def qg (base:Nat) (w:Xo) (d:Xr) (ps:List (List Int)) (qs:List (Int × List Int)):Prop:=∃b q,d= Xi #[b,q]/\qK w b ps/\qH w q qs/\jn base b/\jn base q
theorem qg.base {base:Nat} {w:Xo} {d:Xr} {ps:List (List Int)} {qs:List (Int × List Int)} (h:qg base w d ps qs) (hb:base'<=base):qg base' w d ps qs:=by
 obtain⟨b,q,h1,h2,h3,h4,h5⟩:=h;exact⟨b,q,h1,h2,h3,fun x n c e=>nT hb (h4 x n c e),fun x n c e=>nT hb (h5 x n c e)⟩
theorem qg.setCell {base:Nat} {w:Xo} {d:Xr} {ps:List (List Int)} {qs:List (Int × List Int)} (h:qg base w d ps qs) {a:Addr} (ha:a.block<base) (u:Xr):qg base (w.setCell a u) d ps qs:=by
 obtain⟨b,q,h1,h2,h3,h4,h5⟩:=h;exact⟨b,q,h1,⟨h2.1.setCell h4 ha u,h2.2⟩,⟨h3.1.setCell h5 ha u,h3.2⟩,h4,h5⟩
theorem zi.fresh {base:Nat} {w:Xo} {v:Xr} {ps:List (List Int)} (h:zi base w v ps):jn base v:=fun x n c e=>by
 rcases h.1.2 with⟨h0,_⟩|⟨g,cap,cur,h0,h1,_⟩
 ·rw[h0]at e;cases e
 rw[h0]at e;cases e;exact h1
theorem zp.fresh {base:Nat} {w:Xo} {v:Xr} {qs:List (Int × List Int)} (h:zp base w v qs):jn base v:=fun x n c e=>by
 rcases h.1.2 with⟨h0,_⟩|⟨g,cap,cur,h0,h1,_⟩
 ·rw[h0]at e;cases e
 rw[h0]at e;cases e;exact h1
theorem QP.new {base:Nat} {w:Xo} {d:Xr} {ps:List (List Int)} {qs:List (Int × List Int)} (h:QP base w d ps qs):qg base w d ps qs:=by
 obtain⟨b,q,h1,h2,h3⟩:=h;exact⟨b,q,h1,h2.at,h3.at,h2.fresh,h3.fresh⟩
theorem zb5 (d:Xr) (ps:List (List Int)) (qs:List (Int × List Int)) (w:Xo) (hd:j8 w d ps qs):
  Xq prog 60 #[d] w fun e w'=>∃d',e= Xl d'/\QP w.heap.size w' d' ps qs/\zc w w':=by
 obtain⟨b,q,rfl,hb,hq⟩:=hd;have HB:Xp (qK w b ps):=hb;have HQ:Xp (qH w q qs):=hq;obtain⟨ab,cb,rfl,_⟩:=hb.rows;obtain⟨aq,cq,rfl,_⟩:=hq.rows;clear hb hq
 go_enter func60,ntmps60
 go_wp2;obtain⟨W1,hW⟩:=kB ((w.alloc (Xk #[O ab ps.length cb,O aq qs.length cq] 34)).alloc (Xk #[O Xb 0 0,O Xb 0 0] 34));have hg1:=gD2 hW
 have hsz:Xp (W1.heap.size=w.heap.size+2):=dD<|by rw[<-hW];simp
 have k0:W1.cell? ⟨w.heap.size,0,Xb⟩=Xa (O ab ps.length cb):=by rw[<-hW];simp
 have k1:W1.cell? ⟨w.heap.size,1,Xb⟩=Xa (O aq qs.length cq):=by rw[<-hW];simp
 have k2:W1.cell? ⟨w.heap.size+1,0,Xb⟩=Xa (O Xb 0 0):=by rw[<-hW];simp
 have k3:W1.cell? ⟨w.heap.size+1,1,Xb⟩=Xa (O Xb 0 0):=by rw[<-hW];simp
 have f2:W1.frozen? ⟨w.heap.size+1,0,Xb⟩=Xd:=by rw[<-hW];simp
 have f3:W1.frozen? ⟨w.heap.size+1,1,Xb⟩=Xd:=by rw[<-hW];simp
 rw[hW];have hx0:∀x:zn W1,x.world.cell? ⟨w.heap.size,0,Xb⟩=Xa (O ab ps.length cb):=fun x=>(Below.cell x.grew (World.block_lt_of_cell? _ _ k0)).trans k0
 have hx1:∀x:zn W1,x.world.cell? ⟨w.heap.size,1,Xb⟩=Xa (O aq qs.length cq):=fun x=>(Below.cell x.grew (World.block_lt_of_cell? _ _ k1)).trans k1
 have hne:Nonempty (zn W1):=⟨⟨_,zc.refl _⟩⟩;refine qR 7 [(2,⟨fun v=>∃a n c,v= O a n c,fun v w'=>zi (w.heap.size+2) w' v ps⟩),(5,⟨fun v=>∃a n c,v= O a n c,fun v w'=>zp (w.heap.size+2) w' v qs⟩)] zW (by kernel_rfl) rfl rfl (by decide) ?_ ?_ ?_
 ·intro x hx
  simp at hx
  rcases hx with rfl|rfl
  ·exact⟨_,Xb,0,0,rfl⟩
  exact⟨_,Xb,0,0,rfl⟩
 ·intro x hx
  simp at hx
  rcases hx with rfl|rfl
  ·intro v w1 w2 hg h;exact h.grew hg
  intro v w1 w2 hg h;exact h.grew hg
 simp only[List.take,List.drop];iterate 2 (refine zd rfl rfl rfl (fun K hK=>?_);go_big_quiet_op;refine hK _ ?_;clear hK)
 refine zE rfl rfl (fun w' hg hF=>?_) (fun v1 hv=>?_)
 ·refine zQ.call [O ab ps.length cb] rfl func97 rfl rfl rfl ?_;refine(JR _ ps w' (HB.grew (hg1.out.trans hg))).mono ?_;rintro e w'' ⟨v2,rfl,hb,hg2⟩;exact⟨_,rfl,hg2,hb.slice,hb.base (by have:=bS hg;rw[hsz.out]at this;exact this)⟩
 obtain⟨a1,n1,c1,rfl⟩:=hv;simp only[Act.put,sB,sS,sZ];iterate 2 (refine zd rfl rfl rfl (fun K hK=>?_);go_big_quiet_op;refine hK _ ?_;clear hK)
 refine zE rfl rfl (fun w' hg hF=>?_) (fun v1 hv=>?_)
 ·refine zQ.call [O aq qs.length cq] rfl func98 rfl rfl rfl ?_;refine(zer _ qs w' (HQ.grew (hg1.out.trans hg))).mono ?_;rintro e w'' ⟨v2,rfl,hb,hg2⟩;exact⟨_,rfl,hg2,hb.slice,hb.base (by have:=bS hg;rw[hsz.out]at this;exact this)⟩
 obtain⟨a2,n2,c2,rfl⟩:=hv;simp only[Act.put,sB,sS,sZ];iterate 1 (refine zd rfl rfl rfl (fun K hK=>?_);go_big_quiet_op;refine hK _ ?_;clear hK)
 refine z6 fun w' hg hF=>?_
 have ow1:Xp (zi (w.heap.size+2) w' (O a1 n1 c1) ps):=hF 2;have ow2:Xp (zp (w.heap.size+2) w' (O a2 n2 c2) qs):=hF 5;have m2:w'.cell? ⟨w.heap.size+1,0,Xb⟩=Xa (O Xb 0 0):=(Below.cell hg (World.block_lt_of_cell? _ _ k2)).trans k2;have m3:w'.cell? ⟨w.heap.size+1,1,Xb⟩=Xa (O Xb 0 0):=(Below.cell hg (World.block_lt_of_cell? _ _ k3)).trans k3;have g2:w'.frozen? ⟨w.heap.size+1,0,Xb⟩=Xd:=(Below.frozen hg (World.block_lt_of_cell? _ _ k2)).trans f2;have g3:w'.frozen? ⟨w.heap.size+1,1,Xb⟩=Xd:=(Below.frozen hg (World.block_lt_of_cell? _ _ k3)).trans f3;have HG:=dD (hg1.out.trans hg);clear hF k0 k1 k2 k3 f2 f3 hx0 hx1 hW hg hne;go_wp2;refine bodyPost_ret (v:= Xi #[O a1 n1 c1,O a2 n2 c2]) (by simp[results,Tryz.results60,go_sem, *]) rfl ⟨_,rfl,⟨_,_,rfl,((ow1.out.setCell (by simp) _).setCell (by simp) _).base (by omega),((ow2.out.setCell (by simp) _).setCell (by simp) _).base (by omega)⟩,?_⟩
 exact Below.setCell (Below.setCell HG (p:=⟨w.heap.size+1,0,Xb⟩) (by simp) _) (p:=⟨w.heap.size+1,1,Xb⟩) (by simp) _
end
end Go.Proofs.YtacihbmelcegbaaGreat
