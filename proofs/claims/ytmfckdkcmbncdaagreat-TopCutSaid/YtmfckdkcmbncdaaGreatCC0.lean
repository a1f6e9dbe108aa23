import Derived.Orders
import Derived.Below
import Derived.Deep.QuietTactic
import Derived.BigQuiet
import Derived.Test.YtmfckdkcmbncdaaGreatProg
import Derived.WalkKit
import Derived.Deep.LoopGhost
import Derived.Deep.Slices
import Derived.Laws.AppendOwn
import Derived.Lib.Walk
import Derived.Lib.SliceRun
import Derived.Laws.CopyRow
import Derived.Laws.CopyOwn
import Derived.Laws.MakeOwn
import Derived.Laws.OwnMore
import Derived.Shelf.Abstract
import Derived.WalkSmall
import Derived.Deep.Cut
import Derived.ChangeKeysEq
import Derived.Deep.MidRow
import Derived.Laws.ResultCell
import Derived.OrdersHeld
import Derived.Laws.StructEq
import Derived.ArgAppend
namespace Go.Proofs.YtmfckdkcmbncdaaGreat
open Go.Value renaming slice→O,int→Xe,bool→Xh,agg→Xi,pointer→Xj,tuple→Xm
open Go.IntKind renaming i64→Xf,u8→Xg
open Go.Obj renaming cells→Xk
open Go.Ending renaming returned→Xl
open Go renaming World→Xn,Calls→Xp,Value→Xq
open Go.RowKit renaming Hid→Xo
open Option renaming some→Xa,none→Xb
open Bool renaming true→Xc,false→Xd
open List renaming replicate→Xr
open _root_.List renaming mem_range→Xs,mem_filter→Xu,getElem?_of_mem→Xv,getElem?_map→Xw,mem_map→Xy,mem_or_eq_of_mem_set→Xz,range→Ya,getElem?_range→Yb,pairwise_cons→Yc,any_eq_true→Yd,flatMap_cons→Ye,ext_getElem?→Yf,mem_of_find?_eq_some→Yh,length_cons→Yi,mem_cons_of_mem→Yj,length_nil→Yk,find?_eq_none→Yl,mem_append→Yn,length_set→Yo,filter_append→Yq,mem_cons_self→Yr,append_assoc→Yu,all_eq_true→Yv,getElem?_append_left→Yw,countP_eq_zero→Yx,filter_eq_self→Yy,getElem?_replicate→Yz,getElem?_cons_succ→Oa,any_eq_false→Ob,zipWith_cons_cons→Oc,takeWhile_append_dropWhile→Od,filter_cons→Oe,length_take→Of,sum_cons→Og,drop_append_of_le_length→Oj,nodup_cons→Ok,take_length_add_append→Oo,drop_length_add_append→Oq,mem_replicate→Ot,pairwise_iff_getElem→Ov,getElem?_set→Ow,length_erase_of_mem→Ox,filter_cons_of_pos→Oy,zipWith→Oz,takeWhile_sublist→Ua,pairwise_lt_range→Uc,drop_of_length_le→Ud,find?_some→Ue,find?_cons→Uf,nil_append→Uh,append_nil→Ui,set_getElem_self→Uj,range_eq_range'→Uk,getElem?_append→Um,takeWhile_cons→Un,dropWhile_cons→Uo,map_congr_left→Up,flatMap_append→Ur,getElem_of_mem→Us,getLast?_cons→Ut,mem_singleton→Uu,countP_append→Uv,filter_filter→Uw,getElem?_drop→Ux,getElem?_take→Uy,find?_append→Uz,take_add_one→Gd
open _root_.Bool renaming and_eq_true→Xt,false_eq_true→Ym,or_eq_true→Ug
open Go.Region renaming wanted→Xx,ready→Ub,binds→Ga
open Go.Sem renaming run_bind→Yg,run_pure→Yp
open _root_.Nat renaming lt_or_ge→Ys,lt_of_lt_of_le→Yt,add_assoc→Oh,mul_le_mul_right→Oi,mul_le_mul_left→Ol,add_comm→Om,add_mul→Ul,zero_mul→Gb,succ_mul→Gc
open _root_.Array renaming getElem?_eq_getElem→Ou
theorem Wm{P:Prop}(h:P:=by omega):P:=h
theorem Dc{P:Prop}(h:P:=by decide):P:=h
theorem Kr{P:Prop}(h:P:=by kernel_rfl):P:=h
theorem Sm{P:Prop}(h:P:=by simp):P:=h
theorem Gn{P:Prop}(h:P:=by go_num):P:=h
theorem Hm{P Q:Prop}(k:Q)(h:Q->P:=by intro _;omega):P:=h k
theorem Si{P Q:Prop}(k:Q)(h:Q->P:=by intro k;simpa using k):P:=h k
theorem Rr{P Q:Prop}(k:Q)(h:Q->P:=by intro k;(first|rw[k]|(unfold Sli.x;rw[k])|(unfold Sli.x at k;rw[k]));rfl):P:=h k
theorem Rx{E P Q:Prop}(e:E)(k:Q)(h:E->Q->P:=by intro e k;(first|rw[e]|(unfold Sli.x;rw[e])|(unfold Sli.x at e;rw[e]));exact k):P:=h e k
theorem Ry{E P Q:Prop}(e:E)(k:Q)(h:E->Q->P:=by intro e k;rw[<-e];exact k):P:=h e k
theorem Ge{P Q:Prop}(k:Q)(h:Q->P:=by intro k;(first|go_end0|((try simp only[Exit.inBlock,Exit.then]);refine bodyPost_ret (results_none rfl _ _ _) rfl ?_));(first|exact k|exact⟨⟨_,rfl⟩,k⟩)):P:=h k
theorem Wq(P:World->Prop):∃j:World->Prop,Go.RowKit.Hid (∀a,j a↔P a):=⟨P,fun _=>Iff.rfl⟩
section
variable{α:Type _}{P:α->Prop}{a b c d:α}
theorem Sa(h:P a):∀x∈[a],P x:=by simpa using h
theorem Sb(h:P a)(k:P b):∀x∈[a,b],P x:=by simpa using⟨h,k⟩
theorem Sc(h:P a)(k:P b)(l:P c):∀x∈[a,b,c],P x:=by simpa using⟨h,k,l⟩
theorem Sd(h:P a)(k:P b)(l:P c)(m:P d):∀x∈[a,b,c,d],P x:=by simpa using⟨h,k,l,m⟩
end
theorem dD{P:Prop}(h:P):Go.RowKit.Hid P:=h
theorem kA{α:Type}(e:α):∃x,Go.RowKit.Hid (e=x):=⟨_,rfl⟩
theorem kB{α:Type}(e:α):∃x,e=x:=⟨_,rfl⟩
theorem kE{c:Prop}{h:Decidable c}(hc:c){α:Sort _}{t e:α}:ite c t e=t:=if_pos hc
theorem kF{c:Prop}{h:Decidable c}(hc:¬c){α:Sort _}{t e:α}:ite c t e=e:=if_neg hc
theorem kC{a b:Nat}(h:a<b):(a:Int)<(b:Int):=by omega
theorem kD{a b:Nat}(h:¬a<b):¬(a:Int)<(b:Int):=by omega
theorem Uq{P Q:Prop}(k:Q)(h:Go.RowKit.Hid Q->P:=by intro h;simp only[Go.Act.put,sB,sS,sZ];exact h.out):P:=h k
theorem gE{α:Type}{l:List α}{i:Nat}(h:i<l.length):l[i]? =Xa l[i]:=List.getElem?_eq_getElem h
theorem sB{α:Type}(l:List α)(i:Nat)(a:α):l.toArray.setIfInBounds i a=(l.set i a).toArray:=List.setIfInBounds_toArray l i a
theorem gS{α:Type}{i:Nat}{a:α}{l:List α}:l[i]? =Xa a<->∃h:i<l.length,l[i]=a:=List.getElem?_eq_some_iff
theorem sZ{α:Type}{x:α}{k:List α}{a:α}:(x::k).set 0 a=a::k:=rfl
theorem sS{α:Type}{x:α}{k:List α}{i:Nat}{a:α}:(x::k).set (i+1) a=x::k.set i a:=rfl
theorem nM{α:Type}{a:α}:¬a∈([]:List α):=List.not_mem_nil
theorem mC{α:Type}{b:α}{l:List α}{a:α}:a∈b::l<->a=b\/a∈l:=List.mem_cons
theorem mG{α:Type}{l:List α}{i:Nat}{a:α}(h:l[i]? =Xa a):a∈l:=List.mem_of_getElem? h
theorem sF{α:Type}{l:List α}{i:Nat}{a:α}(h:i<l.length):(l.set i a)[i]? =Xa a:=List.getElem?_set_self h
theorem gD{α:Type}{l:List α}{i:Nat}{a:α}:l.getD i a=l[i]?.getD a:=List.getD_eq_getElem?_getD
theorem sN{α:Type}{l:List α}{i j:Nat}(h:i≠j){a:α}:(l.set i a)[j]? =l[j]?:=List.getElem?_set_ne h
theorem tN(n:Nat):(n:Int).toNat=n:=Int.toNat_natCast n
theorem lR{α:Type}{n:Nat}{a:α}:(Xr n a).length=n:=List.length_replicate
theorem pJ{α β:Type}(a:α)(b:β)(c:α)(d:β):((a,b)=(c,d))=(a=c/\b=d):=Prod.mk.injEq a b c d
theorem vJ(a n c d e f):(O a n c=O d e f)=(a=d/\n=e/\c=f):=Value.slice.injEq a n c d e f
theorem eN{α:Type}{l:List α}(h:l.length=0):l=[]:=List.eq_nil_of_length_eq_zero h
theorem aR{α:Type}{k l:List α}{i:Nat}(h:k.length<=i):(k++l)[i]? =l[i-k.length]?:=List.getElem?_append_right h
theorem gN{α:Type}{l:List α}{i:Nat}(h:l.length<=i):l[i]? =Xb:=List.getElem?_eq_none h
theorem lA{α:Type}{k l:List α}:(k++l).length=k.length+l.length:=List.length_append
theorem aS{α:Type}{i:Nat}{b:α}{k:Array α}:k[i]? =Xa b<->∃h:i<k.size,k[i]=b:=Array.getElem?_eq_some_iff
theorem bD{B:Nat}{a w:Xn}(h:Go.RowKit.Below B a w)(n:Nat):Go.RowKit.Below B a (w.drewN n):=Go.below_drewN h n
theorem nT{n m k:Nat}(h:n<=m)(g:m<=k):n<=k:=Nat.le_trans h g
theorem nR(n:Nat):n<=n:=Nat.le_refl n
theorem nZ(n:Nat):0<=n:=Nat.zero_le n
theorem nL(n:Nat):¬n<0:=Nat.not_lt_zero n
theorem mP{α β:Type}{f:α->β}{a:α}{l:List α}:(a::l).map f=f a::l.map f:=rfl
theorem rA{α β:Type}(a:α)(w:Xn)(f:α->Xn->Result β):(Result.ok a w).andThen f=f a w:=rfl
theorem zA(n:Nat):0+n=n:=Nat.zero_add n
theorem bR(B:Nat)(w:Xn):Go.RowKit.Below B w w:=Go.RowKit.Below.refl B w
theorem bS{B:Nat}{w v:Xn}(h:Go.RowKit.Below B w v):w.heap.size<=v.heap.size:=Go.RowKit.Below.size h
set_option maxRecDepth 100000
set_option maxHeartbeats 4000000
variable{B B0 B1 b base' g id j kk:Nat} {L:List Oper} {Q:Exit->Act->Xn->Prop} {W w' w1 w2:Xn} {a0 a1 a2 a3 a4 a5 a6 a7:Xq} {o oj:Oper} {ops:Array Oper} {t:TypeId} {us vs xs:List Xq} {z:Int}
open Go.Proofs.Tryz
section
structure Pg where
 (b0 b1 b2 b3 b4 b5 b6 b7:Int)
structure Fr where
 p:Pg
 r:Int
 u:Bool
 d:Bool
 f:Int
 x:Int
def pg0:Pg:=⟨0,0,0,0,0,0,0,0⟩
def fr0:Fr:=⟨pg0,0,Xd,Xd,0,0⟩
def frF:Fr:=⟨pg0,0,Xd,Xd,-1,0⟩
def zfA (p q:Pg):Bool:=(p.b0 == q.b0) &&(p.b1 == q.b1) &&(p.b2 == q.b2) &&(p.b3 == q.b3) &&(p.b4 == q.b4) &&(p.b5 == q.b5) &&(p.b6 == q.b6) &&(p.b7 == q.b7)
theorem zbo (p q):zfA p q=Xc↔p=q:=by
 obtain⟨a,a,a,a,a,a,a,a⟩:=p;obtain⟨a,a,a,a,a,a,a,a⟩:=q
 simp[zfA,and_assoc]
def zbI (a b:Fr):Bool:=zfA a.p b.p &&(a.r == b.r) &&(a.u == b.u) &&(a.d == b.d) &&(a.f == b.f) &&(a.x == b.x)
theorem zdK (a b):zbI a b=Xc↔a=b:=by
 obtain⟨p,r,u,d,f,x⟩:=a;obtain⟨c,c,c,c,c,c⟩:=b
 simp[zbI,zbo,and_assoc]
def inB (m n:Int):Bool:=decide (0<=m) && decide (m<n)
def frW (a:Fr):Int:=if(inB a.r 1001 && inB a.x 12)=Xd then 3 else if(!(a.f == -1) && !inB a.f 5)=Xc then 3 else if(a.r == 0 && !zbI a frF || a.f == -1 && !(a.x == 0))=Xc then 7 else 0
def zgk:List Fr->Int
 | []=>0
 | a :: l=>if frW a=0 then zgk l else frW a
def Zi (fs:List Fr) (h:Int):Int:=if 40<fs.length then 4 else if zgk fs=0 then(if inB h (max fs.length 1)then 0 else 3)else zgk fs
def zeb (z:Int):Bool:=decide (z<0) || decide (1000<z)
def slW (s:List Int):Int:=if 60<s.length then 4 else if s.any zeb then 3 else 0
def j0 (at_:Int) (n:Nat):Bool:=decide (0<=at_) && decide (at_<n)
def zB (n:Nat) (qs:List (Int × List Int)):Int:=if 80<n then 4 else if 400<qs.length then 4 else if qs.any (fun q=>!j0 q.1 n)then 3 else 0
def zg (n:Nat) (qs:List (Int × List Int)) (m:Int):Int:=if zB n qs=0 then(if j0 m n then 0 else 3)else zB n qs
def zI:List Int:=[0,0,0,0,0,0,0,0]
def zS (ps:List (List Int)) (qs:List (Int × List Int)) (m:Int):List Int:=
 if zg ps.length qs m=0 then(match qs.reverse.find? (fun q=>q.1 == m)with | some q=>q.2 | none=>ps.getD m.toNat zI)else zI
structure Fl where
 size:Int
 bl:List Int
def jH (n:Int):Int:=if n<1 then 0 else(n - 1) / 8+1
def JV (cnt:Int) (g:List Int) (b:Int):Int:=if b=-1 then 0 else if 0<=b/\b<cnt then(if g.contains b then 7 else 0)else 3
def zay (g:List Int) (b:Int):List Int:=if b=-1 then g else b :: g
def blW (cnt:Int):List Int->List Int->Int
 | _,[]=>0
 | g,b :: l=>if JV cnt g b=0 then blW cnt (zay g b) l else JV cnt g b
def blG (g:List Int) (l:List Int):List Int:=l.foldl zay g
def flW (cnt:Int) (g:List Int) (f:Fl):Int:=if 0<=f.size/\f.size<=96 then(if(f.bl.length:Int)=jH f.size then blW cnt g f.bl else 2)else 3
def zhA (cnt:Int):List Int->List Fl->Int
 | _,[]=>0
 | g,f :: l=>if flW cnt g f=0 then zhA cnt (blG g f.bl) l else flW cnt g f
def stW (fs:List Fl) (cnt:Int):Int:=if fs.length<=5/\0<=cnt/\cnt<=80 then zhA cnt [] fs else 4
def zR (fs:List Fl) (b:Int):Bool:=fs.any fun f=>f.bl.contains b
def Zp (fs:List Fl) (cnt:Int):List Nat:=(Ya cnt.toNat).filter fun b=>!zR fs (b:Int)
def jt (l:List Int) (n:Nat):List Int:=l.take n++Xr (n - l.length) (-1)
theorem Qm {n:Int} (a:0<=n) (b:n<=96):0<=jH n/\jH n<=12:=by
 unfold jH
 split <;> omega
theorem za5 (a:Int) (g:List Int) (b:Int):
  (b=-1/\JV a g b=0/\zay g b=g)\/
  (b≠-1/\¬(0<=b/\b<a)/\JV a g b=3)\/
  (∃i:Nat,b=(i:Int)/\b<a/\g.contains b=Xc/\JV a g b=7)\/
  (∃i:Nat,b=(i:Int)/\b<a/\g.contains b=Xd/\JV a g b=0/\zay g b=b :: g):=by
 by_cases c:b=-1
 ·grind [JV,zay]
 by_cases c:0<=b/\b<a
 ·obtain⟨i,a⟩:∃i:Nat,b=(i:Int):=⟨b.toNat,Wm⟩
  grind [JV,zay]
 grind [JV]
theorem ziU (a:Int) (g) (b:Int):JV a g b=0\/JV a g b=3\/JV a g b=7:=by
 rcases za5 a g b with⟨_,h,_⟩|⟨_,_,h⟩|⟨_,_,_,_,h⟩|⟨_,_,_,_,h,_⟩ <;> omega
theorem zhX (a:Int):∀(l g:List Int),blW a g l=0\/blW a g l=3\/blW a g l=7
 | [],g=> .inl rfl
 | b :: l,g=>by
  unfold blW
  split
  ·exact zhX a l _
  exact ziU a g b
theorem znI (a:Int) (g f):0<=flW a g f/\flW a g f<=7:=by
 have:=zhX a f.bl g;unfold flW
 split
 ·split <;> omega
 omega
theorem zls (a:Int):∀(l:List Fl) (g:List Int),0<=zhA a g l/\zhA a g l<=7
 | [],g=>by simp[zhA]
 | f :: l,g=>by
  unfold zhA
  split
  ·exact zls a l _
  exact znI a g f
def ZJ (l:List Int):List Int:=l.filter (·≠-1)
theorem zfH (b:Int) (d:b≠-1):∀(l g:List Int),b∈blG g l↔b∈g\/b∈l
 | [],g=>by simp[blG]
 | c :: l,g=>by
  have a:=zfH b d l (zay g c);unfold blG at a⊢;rw[List.foldl_cons,a];unfold zay
  split
  ·rename_i h
   simp;constructor
   ·rintro(h|h) <;> simp[h]
   rintro(a|a|a)
   ·exact .inl a
   ·exact absurd (a.trans h) d
   exact .inr a
  simp;constructor
  ·rintro((h|h) | h) <;> simp[h]
  rintro(h|h|h) <;> simp[h]
theorem zgc (a:Int):∀(l g:List Int),blW a g l=0↔(∀b∈l,b=-1\/(0<=b/\b<a))/\(∀b∈l,b≠-1->b∉g)/\(ZJ l).Nodup
 | [],g=>by simp[blW,ZJ]
 | b :: l,g=>by
  unfold blW
  rcases za5 a g b with⟨e,d,c⟩|⟨e,d,c⟩|⟨i,e,d,c,f⟩|⟨i,e,d,c,f,j⟩
  ·rw[kE d,c,zgc a l g];subst e
   simp[ZJ]
  ·rw[kF Wm,c]
   constructor
   ·intro h;omega
   rintro⟨h,_⟩
   rcases h b Sm with h|h
   ·exact absurd h e
   exact absurd h d
  ·rw[kF Wm,f]
   constructor
   ·intro h;omega
   rintro⟨_,h,_⟩;exact absurd (Si c) (h b Sm Wm)
  rw[kE f,j,zgc a l (b :: g)];have f:b≠-1:=Wm
  have m:b∉g:=Si c
  constructor
  ·rintro⟨k,j,e⟩;refine⟨fun c a=>?_,fun c a h=>?_,?_⟩
   ·rcases mC.1 a with rfl|a
    ·exact .inr ⟨Wm,d⟩
    exact k c a
   ·rcases mC.1 a with rfl|a
    ·exact m
    exact fun d=>j c a h (by simp[d])
   unfold ZJ;rw[Oy (Si f)]
   refine Ok.2 ⟨fun h=>?_,e⟩
   obtain⟨d,_⟩:=Xu.1 h;exact j b d f Sm
  rintro⟨k,j,e⟩;unfold ZJ at e;rw[Oy (Si f)]at e
  obtain⟨m,n⟩:=Ok.1 e;refine⟨fun c a=>k c (by simp[a]),fun c a h d=>?_,n⟩
  rcases mC.1 d with rfl|d
  ·exact m (Xu.2 ⟨a,Si f⟩)
  exact j c (by simp[a]) h d
def zsb (cnt:Int) (f:Fl):Prop:=(0<=f.size/\f.size<=96)/\(f.bl.length:Int)=jH f.size/\∀b∈f.bl,b=-1\/(0<=b/\b<cnt)
def Jd (fs:List Fl):List Int:=fs.flatMap fun f=>f.bl
theorem zpW (a:Int) (g) (f:Fl):flW a g f=0↔zsb a f/\(∀b∈f.bl,b≠-1->b∉g)/\(ZJ f.bl).Nodup:=by grind [flW,zsb,zgc]
theorem zhz (a:Int):∀(fs:List Fl) (g:List Int),zhA a g fs=0↔(∀f∈fs,zsb a f)/\(∀b∈Jd fs,b≠-1->b∉g)/\(ZJ (Jd fs)).Nodup
 | [],g=>by simp[zhA,Jd,ZJ]
 | f :: l,g=>by
  unfold zhA;have i:(flW a g f=0/\zhA a (blG g f.bl) l=0)↔(∀d∈f :: l,zsb a d)/\(∀b∈Jd (f :: l),b≠-1->b∉g)/\(ZJ (Jd (f :: l))).Nodup:=by
   rw[zpW,zhz a l];unfold Jd ZJ;rw[Ye,Yq,List.nodup_append];constructor
   ·rintro⟨⟨j,k,p⟩,q,m,h⟩;refine⟨fun d e=>?_,fun b c a=>?_,p,h,fun n t b c=>?_⟩
    ·rcases mC.1 e with rfl|e
     ·exact j
     exact q d e
    ·rcases Yn.1 c with c|c
     ·exact k b c a
     exact fun h=>m b c a ((zfH b a _ _).2 (.inl h))
    rintro rfl;obtain⟨r,s⟩:=Xu.1 t;obtain⟨a,_⟩:=Xu.1 c;have t:n≠-1:=Si s
    exact m n a t ((zfH n t _ _).2 (.inr r))
   rintro⟨j,k,p,q,m⟩;refine⟨⟨j f Sm,fun b c=>k b (Yn.2 (.inl c)),p⟩,fun d e=>j d (by simp[e]),fun b c a h=>?_,q⟩
   rcases(zfH b a _ _).1 h with h|h
   ·exact k b (Yn.2 (.inr c)) a h
   exact m b (Xu.2 ⟨h,Si a⟩) b (Xu.2 ⟨c,Si a⟩) rfl
  split
  ·rename_i h
   rw[<-i];exact⟨fun a=>⟨h,a⟩,fun a=>a.2⟩
  rename_i h
  rw[<-i];exact⟨fun a=>absurd a h,fun a=>absurd a.1 h⟩
theorem zY (fs:List Fl) (a:Int):stW fs a=0↔(fs.length<=5/\0<=a/\a<=80)/\(∀f∈fs,zsb a f)/\(ZJ (Jd fs)).Nodup:=by
 grind [stW,zhz]
theorem zfq (fs) (b:Int):zR fs b=Xc↔b∈Jd fs:=by
 simp[zR,Jd]
structure En where
 kind:Int
 n:Int
 wr:Bool
def en0:En:=⟨0,0,Xd⟩
def enS (e:En):Bool:=e.kind != 0
def enW (e:En):Int:=
 if 0<=e.kind/\e.kind<=2 then
  (if 0<=e.n/\e.n<=59/\(e.kind=1->e.n<=39)then
   (if(e.kind=0/\(e.n≠0\/e.wr=Xc))\/(e.kind=2/\e.wr=Xc)then 7 else 0)
  else 3)
 else 1
def esW:List En->Int
 | []=>0
 | e :: l=>if enW e=0 then esW l else enW e
def zgd (l:List En):Bool:=l.any enS
def haW (h:List En):Int:=if h.length=0 then 0 else if h.length=8 then(if esW h=0 then(if zgd h=Xc then 0 else 2)else esW h)else 2
def tbW:List (List En)->Int
 | []=>0
 | h :: t=>if haW h=0 then tbW t else haW h
def zcZ (t:List (List En)) (i k:Nat):En:=((t[i]?.getD [])[k]?).getD en0
def zer (t:List (List En)) (n:Int):En:=if 0<=n/\n<64 then zcZ t (n.toNat / 8) (n.toNat % 8)else en0
def mk (l:List En):List En:=if zgd l=Xc then l else []
def zbG (h:List En):List En:=if h.length=0 then Xr 8 en0 else h
def zjC (t:List (List En)) (n:Nat) (e:En):List (List En):=t.set (n / 8) (mk ((zbG (t[n / 8]?.getD [])).set (n % 8) e))
def zl3 (t:List (List En)) (n:Int) (e:En):Int:=if tbW t=0 then(if 0<=n/\n<64 then enW e else 3)else tbW t
def Qt:List (List En):=Xr 8 []
def zjD (t:List (List En)) (n:Int) (e:En):List (List En):=if zl3 t n e=0 then zjC t n.toNat e else Qt
def zcR (l:List En) (i:Nat):List En:=(Ya 8).map fun k=>l[8*i+k]?.getD en0
def Qq (l:List En):List (List En):=(Ya 8).map fun i=>mk (zcR l i)
def qX (t:List (List En)) (f:En->Bool) (m:Nat):List Int:=((Ya m).filter fun n=>enS (zcZ t (n / 8) (n % 8)) && f (zcZ t (n / 8) (n % 8))).map fun(n:Nat)=>(n:Int)
theorem Zc {e:En} (h:enW e=0):(0<=e.kind/\e.kind<=2)/\(0<=e.n/\e.n<=59/\(e.kind=1->e.n<=39))/\¬((e.kind=0/\(e.n≠0\/e.wr=Xc))\/(e.kind=2/\e.wr=Xc)):=by grind [enW]
theorem zcw {e:En} (a:0<=e.kind/\e.kind<=2) (b:0<=e.n/\e.n<=59/\(e.kind=1->e.n<=39)) (c:¬((e.kind=0/\(e.n≠0\/e.wr=Xc))\/(e.kind=2/\e.wr=Xc))):enW e=0:=by
 grind [enW]
theorem Qg:enW en0=0:=by decide
theorem znS {e:En} (h:enW e=0) (b:enS e=Xd):e=en0:=by
 obtain⟨a,a,a⟩:=Zc h;obtain⟨k,n,w⟩:=e
 simp[enS]at b
 subst b
 simp at a
 obtain⟨rfl,b⟩:=a;cases w
 ·rfl
 simp at b
theorem zkd {l:List En}:esW l=0↔∀e∈l,enW e=0:=by
 induction l with
 | nil=>simp[esW]
 | cons e l a=>
  unfold esW
  by_cases h:enW e=0
  ·rw[kE h,a]
   simp[h]
  rw[kF h]
  simp[h]
def zjx (h:List En):Prop:=h=[]\/(h.length=8/\(∀e∈h,enW e=0)/\zgd h=Xc)
theorem zj5 {h:List En}:haW h=0↔zjx h:=by
 unfold haW zjx
 by_cases a:h.length=0
 ·grind
 have b:h≠[]:=fun e=>a (Rr e)
 rw[kF a]
 by_cases a:h.length=8
 ·rw[kE a]
  by_cases a:esW h=0
  ·rw[kE a];have c:=zkd.1 a
   grind
  rw[kF a];simp only[a,b,false_or,false_iff];exact fun h=>a (zkd.2 h.2.1)
 grind
theorem Qj {t:List (List En)}:tbW t=0↔∀h∈t,zjx h:=by
 induction t with
 | nil=>simp[tbW]
 | cons h t b=>
  unfold tbW
  by_cases a:haW h=0
  ·rw[kE a,b]
   simp[zj5.1 a]
  rw[kF a];simp only[a,mC,forall_eq_or_imp,false_iff];exact fun b=>a (zj5.2 b.1)
structure Qy (t:List (List En)):Prop where
 len:t.length=8
 ok:∀h∈t,zjx h
theorem Qy.half {t:List (List En)} (h:Qy t) (i:Nat):zjx (t[i]?.getD []):=by
 cases a:t[i]? with
 | none=>exact .inl rfl
 | some x=>exact h.ok x (mG a)
theorem zjx.get {h:List En} (a:zjx h) (k:Nat):enW (h[k]?.getD en0)=0:=by
 rcases a with rfl|⟨_,a,_⟩
 ·exact Qg
 grind [Qg,mG]
theorem Qy.get {t:List (List En)} (h:Qy t) (i k:Nat):enW (zcZ t i k)=0:=(h.half i).get k
theorem zfZ {h:List En} (a:zjx h):(zbG h).length=8:=by
 unfold zbG
 rcases a with rfl|⟨a,_⟩
 ·rfl
 rw[kF Wm]
 exact a
theorem zrz (h:List En) (a:zjx h) {k:Nat} (b:k<8):(zbG h)[k]? =Xa (h[k]?.getD en0):=by
 unfold zbG
 rcases a with rfl|⟨a,_⟩
 ·grind
 grind
theorem zpQ (h:List En) (k:Nat):(zbG h)[k]?.getD en0=h[k]?.getD en0:=by
 unfold zbG
 by_cases a:h.length=0
 ·grind
 grind
theorem zqu (l:List En) (b:∀e∈l,enW e=0) (k:Nat):(mk l)[k]?.getD en0=l[k]?.getD en0:=by
 unfold mk
 by_cases h:zgd l=Xc
 ·grind
 rw[kF h]
 cases c:l[k]? with
 | none=>simp
 | some x=>
  have a:=mG c;have:enS x=Xd:=by
   cases c:enS x with
   | false=>rfl
   | true=>exact absurd (Yd.2 ⟨x,a,c⟩) h
  simp[znS (b x a) this]
theorem zsp {l:List En} (a:l.length=8) (b:∀e∈l,enW e=0):zjx (mk l):=by
 unfold mk
 by_cases h:zgd l=Xc
 ·rw[kE h];exact .inr ⟨a,b,h⟩
 rw[kF h];exact .inl rfl
theorem zrb {h:List En} (a:zjx h):mk (zbG h)=h:=by
 unfold mk zbG
 rcases a with rfl|⟨a,_,a⟩
 ·rfl
 rw[kF (show¬h.length=0 by omega),kE a]
theorem ze1 {h:List En} (b:zjx h):∀e∈zbG h,enW e=0:=fun e a=>by
 unfold zbG at a
 rcases b with rfl|⟨a,a,_⟩
 ·grind [Qg]
 grind
theorem zgH {l:List En} {k:Nat} {e:En} (b:∀x∈l,enW x=0) (a:enW e=0):∀x∈l.set k e,enW x=0:=fun x a=>by grind
theorem zqY {t:List (List En)} (h:Qy t) {n:Nat} {e:En} (a:enW e=0):Qy (zjC t n e):=by
 refine⟨by simp[zjC,h.len],fun x a=>?_⟩
 rcases Xz a with a|a
 ·exact h.ok x a
 rw[a];have a:=h.half (n / 8)
 grind [zsp,Yo,zfZ,zgH,ze1]
theorem zpP {t:List (List En)} (h:Qy t) {n:Nat} (b:n<64) {e:En} (a:enW e=0) (i k:Nat) (d:k<8):zcZ (zjC t n e) i k=if i=n / 8/\k=n % 8 then e else zcZ t i k:=by
 unfold zcZ zjC;have b:=h.half (n / 8)
 by_cases c:i=n / 8
 ·subst c;rw[sF (by rw[h.len];omega)]
  simp only[Option.getD_some];rw[zqu _ (zgH (ze1 b) a)]
  by_cases a:k=n % 8
  ·subst a;rw[sF (by rw[zfZ b];exact d)]
   simp
  grind [sN,zpQ]
 grind
theorem zlR {l:List En} {h:List En} (b:zjx h) {i:Nat} (c:∀k,k<8->l[8*i+k]? =Xa (h[k]?.getD en0)):zcR l i=zbG h:=by
 apply Yf
 intro k
 by_cases a:k<8
 ·unfold zcR;rw[Xw,Yb a,zrz h b a]
  simp[c k a]
 grind [gN,zcR,zfZ]
theorem zkL {l:List En} {t:List (List En)} (h:Qy t) (a:∀j,j<64->l[j]? =Xa (zcZ t (j / 8) (j % 8))):Qq l=t:=by
 apply Yf
 intro i
 by_cases a:i<8
 ·unfold Qq;rw[Xw,Yb a];obtain⟨x,b⟩:∃x,t[i]? =Xa x:=⟨_,gE (by rw[h.len];omega)⟩
  have a:=h.half i;rw[b]at a⊢;simp only[Option.getD_some]at a;have:zcR l i=zbG x:=zlR a (fun k b=>by grind [zcZ])
  simp[this,zrb a]
 rw[gN (by simp[Qq];omega),gN (by rw[h.len];omega)]
theorem JH (t:List (List En)) (f:En->Bool) (m:Nat):qX t f (m+1)=if enS (zcZ t (m / 8) (m % 8)) && f (zcZ t (m / 8) (m % 8))then qX t f m++ [(m:Int)]else qX t f m:=by
 unfold qX;rw[List.range_succ,Yq,List.map_append]
 split
 ·grind
 grind
theorem zaS (t:List (List En)) (f:En->Bool):∀m,(qX t f m).length<=m
 | 0=>by simp[qX]
 | m+1=>by
  rw[JH];have:=zaS t f m
  split
  ·simp;omega
  omega
structure Ar where
 fr:Int
 tz:Int
 rd:Bool
 wr:Bool
 sh:Bool
 file:Int
 base:Int
structure On where
 is:Bool
 rd:Bool
 wr:Bool
 sh:Bool
 file:Int
 aG:Int
def on0:On:=⟨Xd,Xd,Xd,Xd,0,0⟩
def ar0:Ar:=⟨0,0,Xd,Xd,Xd,0,0⟩
def jV (a:Ar):Prop:=0<=a.fr/\a.fr<a.tz/\a.tz<=64/\-1<=a.file/\a.file<5/\0<=a.base/\(a.file<0->a.base=0/\a.sh=Xd)/\(0<=a.file->a.base<=12 -(a.tz - a.fr))
def arW (a:Ar):Int:=
 if a.fr<0\/a.tz<=a.fr\/64<a.tz\/a.file< -1\/5<=a.file\/a.base<0 then 3
 else if a.file<0 then(if a.base≠0\/a.sh=Xc then 7 else 0)
 else if 12 -(a.tz - a.fr)<a.base then 7 else 0
theorem zbQ {a:Ar}:arW a=0↔jV a:=by grind [arW,jV]
def goB (a b:Ar):Bool:=decide (a.fr=b.tz) &&(a.rd == b.rd) &&(a.wr == b.wr) &&(a.sh == b.sh) && decide (a.file=b.file) && decide (a.base=if 0<=b.file then b.base+(b.tz - b.fr)else b.base)
theorem znB {a b:Ar}:goB a b=Xc↔a.fr=b.tz/\a.rd=b.rd/\a.wr=b.wr/\a.sh=b.sh/\a.file=b.file/\a.base=if 0<=b.file then b.base+(b.tz - b.fr)else b.base:=by
 grind [goB]
def zr1 (b a:Ar):Prop:=b.tz<=a.fr/\goB a b=Xd
def Qo:Option Ar->List Ar->Prop
 | _,[]=>True
 | p,a :: l=>jV a/\(∀b,p=Xa b->zr1 b a)/\Qo (Xa a) l
def Jt (a:Ar) (n:Nat):Bool:=decide (a.fr<=(n:Int)) && decide ((n:Int)<a.tz)
theorem jl {a:Ar} {n:Nat}:Jt a n=Xc↔a.fr<=(n:Int)/\(n:Int)<a.tz:=by simp[Jt]
theorem zd6 {a:Ar} {n:Nat} (h:¬(a.fr<=(n:Int)/\(n:Int)<a.tz)):Jt a n=Xd:=by
 cases b:Jt a n with
 | false=>rfl
 | true=>exact absurd (jl.1 b) h
def qp (a:Ar) (n:Nat):On:=⟨Xc,a.rd,a.wr,a.sh,a.file,if 0<=a.file then a.base+((n:Int) - a.fr)else 0⟩
def zJ:List Ar->Nat->On
 | [],_=>on0
 | a :: l,n=>if Jt a n=Xc then qp a n else zJ l n
def Jq (n:Nat) (x:On):Ar:=if x.is=Xc then⟨n,n+1,x.rd,x.wr,x.sh,x.file,x.aG⟩else ar0
theorem Qo.low:∀{l:List Ar} {p:Option Ar} {a:Ar} {n:Nat},Qo p l->p=Xa a->(n:Int)<a.tz->zJ l n=on0
 | [],_,_,_,_,_,_=>rfl
 | b :: l,p,a,n,h,hp,c=>by
  have c:=h.2.1 a hp;have d:=h.1;unfold zr1 at c;unfold jV at d;unfold zJ;rw[kF (by rw[jl];omega)]
  exact h.2.2.low rfl Wm
theorem Qo.head {l:List Ar} {p:Option Ar} {a:Ar} {n:Nat} (h:Qo p (a :: l)) (b:(n:Int)<a.fr):zJ (a :: l) n=on0:=by
 have b:=h.1;unfold jV at b;unfold zJ;rw[kF (by rw[jl];omega)]
 exact h.2.2.low rfl Wm
theorem Q4 {a:Ar} {l:List Ar} {n:Nat} (h:a.fr<=(n:Int)) (b:(n:Int)<a.tz):zJ (a :: l) n=qp a n:=by
 unfold zJ;rw[kE (by rw[jl];omega)]
theorem zcY {a:Ar} {l:List Ar} {n:Nat} (h:(n:Int)<a.fr\/a.tz<=(n:Int)):zJ (a :: l) n=zJ l n:=by
 rw[zJ,kF (by rw[jl];omega)]
theorem zjQ (a) (n:Nat):(qp a n).is=Xc:=rfl
theorem zg4 {a:Ar} {n:Nat} (h:qp a n=on0):False:=by
 have:=congrArg On.is h
 simp[on0,qp]at this
theorem Qo.next {l:List Ar} {a b:Ar} {n:Nat} (h:Qo (Xa a) l) (e:(n:Int)=a.tz) (d:zJ l n=qp b n):∃c m,l=c :: m/\c.fr=(n:Int)/\qp c n=qp b n/\zr1 a c:=by
 cases l with
 | nil=>exact(zg4 d.symm).elim
 | cons c m=>
  have e:=h.2.1 a rfl;have e:=h.1;unfold jV at e
  by_cases e:(n:Int)<c.fr
  ·rw[h.head e]at d;exact(zg4 d.symm).elim
  grind [zr1,Q4]
theorem zjR {a b:Ar} {n:Nat} (h:qp a n=qp b n):a.rd=b.rd/\a.wr=b.wr/\a.sh=b.sh/\a.file=b.file/\(0<=a.file->a.base+((n:Int) - a.fr)=b.base+((n:Int) - b.fr)):=by grind [qp]
theorem zqz {p:Option Ar} {l m:List Ar} {a b:Ar} (c:Qo p (a :: l)) (f:Qo p (b :: m)) (g:∀n:Nat,n<64->zJ (a :: l) n=zJ (b :: m) n) (e:a.fr=b.fr) (d:a.rd=b.rd/\a.wr=b.wr/\a.sh=b.sh/\a.file=b.file/\a.base=b.base):¬a.tz<b.tz:=by
 intro d;have d:=c.1;have e:=f.1;unfold jV at d e;obtain⟨n,h⟩:∃n:Nat,(n:Int)=a.tz:=⟨a.tz.toNat,Wm⟩
 have d:=g n Wm
 rw[zcY Wm,Q4 (a:=b) Wm Wm]at d
 obtain⟨e,k,rfl,f,f,g⟩:=c.2.2.next h d;obtain⟨d,d,d,d,d⟩:=zjR f;have d:=c.2.2.1;unfold jV at d;have:goB e a=Xc:=by grind [znB]
 rw[g.2]at this;cases this
theorem zoi:∀{l m:List Ar} {p:Option Ar},Qo p l->Qo p m->(∀n:Nat,n<64->zJ l n=zJ m n)->l=m
 | [],[],_,_,_,_=>rfl
 | [],b :: m,_,_,f,d=>by
  have g:=f.1;unfold jV at g;have:=d b.fr.toNat Wm
  rw[Q4 (a:=b) Wm Wm]at this
  exact(zg4 this.symm).elim
 | c :: l,[],_,e,_,d=>by
  have g:=e.1;unfold jV at g;have:=d c.fr.toNat Wm
  rw[Q4 (a:=c) Wm Wm]at this
  exact(zg4 this).elim
 | c :: l,b :: m,p,e,f,d=>by
  have y:=e.1;have g:=f.1;unfold jV at y g;have s:c.fr=b.fr:=by
   rcases Int.lt_trichotomy c.fr b.fr with h|h|h
   ·have:=d c.fr.toNat Wm
    rw[Q4 (a:=c) Wm Wm,f.head Wm]at this
    exact(zg4 this).elim
   ·exact h
   have:=d b.fr.toNat Wm
   rw[Q4 (a:=b) Wm Wm,e.head Wm]at this
   exact(zg4 this.symm).elim
  have v:=d c.fr.toNat Wm
  rw[Q4 (a:=c) Wm Wm,Q4 (a:=b) Wm Wm]at v
  obtain⟨i,j,k,q,x⟩:=zjR v;have r:c.base=b.base:=by
   rcases Int.lt_or_le c.file 0 with h|h
   ·omega
   have:=x h;omega
  have w:c.tz=b.tz:=by
   have z:=zqz e f d s ⟨i,j,k,q,r⟩;have A:=zqz f e (fun n u=>(d n u).symm) s.symm ⟨i.symm,j.symm,k.symm,q.symm,r.symm⟩
   omega
  have t:c=b:=by
   obtain⟨_,_,_,_,_,_,_⟩:=c;obtain⟨_,_,_,_,_,_,_⟩:=b;simp only at s w i j k q r;subst s w i j k q r;rfl
  subst t;have:l=m:=zoi e.2.2 f.2.2 fun n u=>by
   by_cases h:(n:Int)<c.tz
   ·rw[e.2.2.low rfl h,f.2.2.low rfl h]
   have:=d n u;rw[zcY Wm,zcY Wm]at this
   exact this
  rw[this]
def za0 (p:Option Ar) (l:List Ar):Option Ar:=match l.getLast? with | some b=>Xa b | none=>p
theorem zca (p:Option Ar) (a l):za0 p (a :: l)=za0 (Xa a) l:=by
 unfold za0
 cases l with
 | nil=>simp
 | cons b m=>simp[Ut]
theorem J1 {x:Ar}:∀{l:List Ar} {p:Option Ar},Qo p (l++ [x])↔Qo p l/\jV x/\∀b,za0 p l=Xa b->zr1 b x
 | [],p=>by simp[Qo,za0]
 | a :: l,p=>by
  simp only[List.cons_append,Qo,zca,J1 (l:=l) (p:=some a),and_assoc]
theorem JL {x:Ar} {n:Nat}:∀{l:List Ar},zJ l n=on0\/Jt x n=Xd->zJ (l++ [x]) n=if Jt x n=Xc then qp x n else zJ l n
 | [],_=>by simp[zJ]
 | a :: l,h=>by
  simp only[List.cons_append,zJ]
  by_cases b:Jt a n=Xc
  ·rcases h with h|h
   ·rw[zJ,kE b]at h;exact(zg4 h).elim
   simp[b,h]
  rw[kF b,kF b];exact JL (h.imp (fun h=>by rwa [zJ,kF b]at h) id)
theorem zbq {n:Nat}:∀{l:List Ar},(∀a∈l,Jt a n=Xd)->zJ l n=on0
 | [],_=>rfl
 | a :: l,h=>by
  rw[zJ,kF (by rw[h a Sm];simp)]
  exact zbq fun b c=>h b (by simp[c])
theorem zdo {n:Nat}:∀{l:List Ar},(zJ l n).is=Xc->∃(i:Nat) (a:Ar),l[i]? =Xa a/\Jt a n=Xc/\zJ l n=qp a n
 | [],h=>by cases h
 | a :: l,h=>by
  by_cases c:Jt a n=Xc
  ·exact⟨0,a,rfl,c,by rw[zJ,kE c]⟩
  rw[zJ,kF c]at h;obtain⟨i,b,d,e,f⟩:=zdo h;exact⟨i+1,b,d,e,by rw[zJ,kF c,f]⟩
theorem zm5 {n:Nat}:∀{l:List Ar},(zJ l n).is=Xd->zJ l n=on0
 | [],_=>rfl
 | a :: l,h=>by
  by_cases b:Jt a n=Xc
  ·rw[zJ,kE b]at h;cases h
  rw[zJ,kF b]at h⊢;exact zm5 h
theorem Qo.all {l:List Ar}:∀{p:Option Ar},Qo p l->∀a∈l,jV a:=by
 induction l with
 | nil=>intro p _ a b;cases b
 | cons b l c=>
  intro p h x b
  rcases mC.1 b with e|b
  ·rw[e];exact h.1
  exact c h.2.2 _ b
def zoR (f:Nat->On):Prop:=∀k:Nat,k<64->((f k).is=Xd->f k=on0)/\((f k).is=Xc->jV (Jq k (f k)))
theorem zjP {a:Ar} {n:Nat} (h:jV a) (b:Jt a n=Xc):jV (Jq n (qp a n)):=by
 have:=jl.1 b
 grind [jV,Jq,zjQ,qp]
theorem Qo.good {l:List Ar} {p:Option Ar} (h:Qo p l):zoR (zJ l):=fun k _=>⟨zm5,fun b=>by
 obtain⟨i,a,c,d,e⟩:=zdo b;rw[e];exact zjP (h.all a (mG c)) d⟩
def J (f:Nat->On) (n:Nat) (acc:List Ar):Prop:=Qo Xb acc/\(∀a∈acc,a.tz<=(n:Int))/\∀k:Nat,zJ acc k=if k<n then f k else on0
theorem J.zero (f:Nat->On):J f 0 []:=⟨trivial,Sm,fun k=>by simp[zJ]⟩
theorem J.skip {f:Nat->On} {n:Nat} {a:List Ar} (h:J f n a) (b:f n=on0):J f (n+1) a:=by
 refine⟨h.1,fun a b=>Hm (h.2.1 a b),fun k=>?_⟩
 rw[h.2.2 k]
 grind
theorem zqp (n:Nat) (x:On) (h:x.is=Xc) (hp:x.file<0->x.aG=0):qp (Jq n x) n=x:=by
 unfold Jq;rw[kE h];unfold qp;obtain⟨_,_,_,_,_,_⟩:=x
 grind
theorem zr0 {n k:Nat} {x:On} (h:x.is=Xc):Jt (Jq n x) k=Xc↔k=n:=by
 rw[jl];unfold Jq;rw[kE h];simp only;omega
theorem J.new {f:Nat->On} {n:Nat} {a:List Ar} (h:J f n a) (d:zoR f) (i:n<64) (e:(f n).is=Xc) (g:∀b,a.getLast? =Xa b->goB (Jq n (f n)) b=Xd):J f (n+1) (a++ [Jq n (f n)]):=by
 have c:=(d n i).2 e;have d:qp (Jq n (f n)) n=f n:=zqp n _ e fun d=>by grind [jV,Jq]
 refine⟨J1.2 ⟨h.1,c,fun b c=>?_⟩,fun e d=>?_,fun k=>?_⟩
 ·have c:a.getLast? =Xa b:=by grind [za0]
  refine⟨?_,g b c⟩;have:=h.2.1 b (List.mem_of_getLast? c)
  grind [Jq]
 ·rcases Yn.1 d with d|d
  ·have:=h.2.1 e d;omega
  grind [Uu,Jq]
 have a:=h.2.2 k
 grind [JL,zr0,Jt,Jq]
theorem J.ext {f:Nat->On} {n:Nat} {i:List Ar} {b:Ar} (a:J f n (i++ [b])) (e:zoR f) (g:n<64) (h:(f n).is=Xc) (d:goB (Jq n (f n)) b=Xc):J f (n+1) (i++ [{ b with tz:=(n:Int)+1 }]):=by
 have c:=(e n g).2 h;obtain⟨g,e,B⟩:=a;obtain⟨v,e,s⟩:=J1.1 g;have a:=znB.1 d;unfold Jq at a c;rw[kE h]at a c;simp only at a;obtain⟨d,j,m,p,q,t⟩:=a;have a:=e;unfold jV at a c;simp only at c;have a:∀k:Nat,b.fr<=(k:Int)->zJ i k=on0:=fun k w=>by
  refine zbq fun r u=>zd6 ?_
  have:r.tz<=b.fr:=by
   have g:∀(l:List Ar) (a:Option Ar),Qo a l->∀x∈l,∀y,za0 a l=Xa y->x.tz<=y.tz:=by
    intro l
    induction l with
    | nil=>intro a _ x d;cases d
    | cons A z l=>
     intro a a x d y e;rw[zca]at e
     rcases mC.1 d with rfl|d
     ·cases z with
      | nil=>simp[za0]at e;subst e;exact Int.le_refl _
      | cons z C=>
       have C:=l (Xa x) a.2.2 z Sm y e
       have z:=a.2.2.2.1 x rfl;have D:=a.2.2.1;unfold zr1 at z;unfold jV at D;omega
     exact l (Xa A) a.2.2 x d y e
   cases a:za0 Xb i with
   | none=>
    unfold za0 at a
    cases i with
    | nil=>cases u
    | cons _ _=>simp[Ut]at a
   | some y=>
    have C:=g i Xb v r u y a;have z:=(s y a).1;omega
  omega
 refine⟨J1.2 ⟨v,?_,fun y e=>?_⟩,fun r u=>?_,fun k=>?_⟩
 ·grind [jV]
 ·exact⟨(s y e).1,(s y e).2⟩
 ·grind
 have a:=B k;rw[JL (by grind [zd6])]at a
 rw[JL (by grind [zd6])]
 by_cases w:k=n
 ·subst w;rw[kE (by rw[jl];simp only;omega),kE Wm]
  unfold qp;simp only;have d:=c.2.2.2.2.2.2.1
  revert h j m p q t d
  generalize f k=x
  obtain⟨_,_,_,_,_,_⟩:=x;intro h j m p q t d;simp only at h j m p q t d⊢;subst h j m p;simp only[On.mk.injEq,true_and];refine⟨q.symm,?_⟩
  split
  ·grind
  grind
 grind [Jt,qp]
def zfO (f:Nat->On):Nat->List Ar
 | 0=>[]
 | n+1=>
  if(f n).is=Xc then
   match(zfO f n).getLast? with
   | some b=>if goB (Jq n (f n)) b=Xc then(zfO f n).dropLast++ [{ b with tz:=(n:Int)+1 }]else zfO f n++ [Jq n (f n)]
   | none=>zfO f n++ [Jq n (f n)]
  else zfO f n
theorem zqV {l:List Ar} {b:Ar} (h:l.getLast? =Xa b):l=l.dropLast++ [b]:=by
 cases l with
 | nil=>cases h
 | cons a m=>
  rw[List.getLast?_eq_some_getLast (List.cons_ne_nil a m)]at h;cases h;exact(List.dropLast_concat_getLast _).symm
theorem zno {f:Nat->On} (c:zoR f):∀n:Nat,n<=64->J f n (zfO f n)
 | 0,_=>J.zero f
 | n+1,a=>by
  have d:=zno c n Wm
  unfold zfO
  by_cases b:(f n).is=Xc
  ·rw[kE b]
   cases e:(zfO f n).getLast? with
   | none=>exact d.new c Wm b (fun g a=>by rw[e]at a;cases a)
   | some g=>
    simp only
    by_cases a:goB (Jq n (f n)) g=Xc
    ·rw[kE a];rw[zqV e]at d;exact d.ext c Wm b a
    rw[kF a];refine d.new c Wm b (fun g g=>?_)
    rw[e]at g;cases g
    simpa using a
  rw[kF b];exact d.skip ((c n Wm).1 (Si b))
def zcc (f:Nat->On):List Ar:=zfO f 64
theorem ziP {f:Nat->On} (a:zoR f):J f 64 (zcc f):=zno a 64 (nR _)
theorem J.all {f:Nat->On} {a:List Ar} (h:J f 64 a) (b:zoR f):a=zcc f:=
 zoi h.1 (ziP b).1 fun n _=>by rw[h.2.2,(ziP b).2.2]
theorem J.len {f:Nat->On} {n:Nat} {a:List Ar} (i:J f n a):a.length<=n:=by
 have h:∀(l:List Ar) (p:Option Ar) (c:Int),Qo p l->(∀b,p=Xa b->c<=b.tz)->(p=Xb->c<=0)->(∀d∈l,d.tz<=(n:Int))->c<=n->c+l.length<=n:=by
  intro l
  induction l with
  | nil=>intro p c _ _ _ _ k;simpa using k
  | cons d l m=>
   intro p c e l g j k;have k:=e.1;unfold jV at k;have k:c<=d.fr:=by
    cases p with
    | none=>have:=g rfl;omega
    | some b=>have:=l b rfl;have:=(e.2.1 b rfl).1;omega
   have g:=m (Xa d) (c+1) e.2.2 (fun b c=>by cases c;omega) (fun c=>by cases c) (fun x e=>j x (by simp[e])) (Hm (j d Sm))
   rw[Yi];omega
 have:=h a Xb 0 i.1 (fun b c=>by cases c) (fun _=>Wm) i.2.1 Wm
 omega
theorem ziJ:∀(l:List Ar) (p:Option Ar),Qo p l->∀x∈l,∀y,za0 p l=Xa y->x=y\/x.tz<=y.fr
 | [],_,_,_,a,_,_=>by cases a
 | c :: m,p,f,x,a,y,b=>by
  rw[zca]at b
  rcases mC.1 a with e|a
  ·cases m with
   | nil=>simp[za0]at b;left;rw[e,b]
   | cons d g=>
    right;have h:=f.2.2.2.1 c rfl;have i:=f.2.2.1;unfold zr1 at h;unfold jV at i;rw[e]
    rcases ziJ (d :: g) (Xa c) f.2.2 d Sm y b with g|g
    ·rw[<-g];exact h.1
    omega
  exact ziJ m (Xa c) f.2.2 x a y b
def zc9:Option Ar->List Ar->Nat->Int × Int
 | _,[],_=>(0,0)
 | p,a :: l,i=>
  if arW a≠0 then(arW a,i)
  else match p with
   | some b=>if a.fr<b.tz\/goB a b=Xc then(2,i)else zc9 (Xa a) l (i+1)
   | none=>zc9 (Xa a) l (i+1)
def wrL (l:List Ar):Int × Int:=if 16<l.length then(4,0)else zc9 Xb l 0
theorem zc8:∀{l:List Ar} {p:Option Ar} {i:Nat},(zc9 p l i).1=0↔Qo p l
 | [],p,i=>by simp[zc9,Qo]
 | a :: l,p,i=>by
  unfold zc9 Qo
  by_cases h:arW a=0
  ·rw[kF (fun c=>c h)]
   cases p with
   | none=>simp[zc8 (l:=l),zbQ.1 h]
   | some b=>
    simp only
    by_cases c:a.fr<b.tz\/goB a b=Xc
    ·rw[kE c];simp only[Option.some.injEq,forall_eq'];constructor
     ·intro d;exact absurd d Dc
     rintro⟨_,⟨d,e⟩,_⟩
     rcases c with c|c
     ·omega
     rw[e]at c;cases c
    rw[kF c,zc8];simp only[Option.some.injEq,forall_eq',zbQ.1 h,true_and];constructor
    ·intro d;exact⟨⟨Wm,by cases e:goB a b with | false=>rfl | true=>exact absurd (.inr e) c⟩,d⟩
    exact fun d=>d.2
  rw[kE h];constructor
  ·intro c;exact absurd c h
  intro c;exact absurd (zbQ.2 c.1) h
theorem zab {l:List Ar}:(wrL l).1=0↔l.length<=16/\Qo Xb l:=by grind [wrL,zc8]
def zl5 (l:List Ar) (a:Ar):Nat->On:=fun k=>if Jt a k=Xc then qp a k else zJ l k
def zml (s n:Int) (k:Nat):Bool:=decide (s<=(k:Int)) && decide ((k:Int)<s+n)
theorem zkG {s n:Int} {k:Nat}:zml s n k=Xc↔s<=(k:Int)/\(k:Int)<s+n:=by simp[zml]
def zi3 (f:Nat->On):List Ar × Int:=if 16< (zcc f).length then([],4)else(zcc f,0)
def zr7 (l:List Ar) (s n:Int):Bool:=(Ya 64).any fun k=>zml s n k &&(zJ l k).is
def zjV (l:List Ar) (a:Ar):List Ar × Int:=if(wrL l).1≠0 then([],(wrL l).1)else if arW a≠0 then([],arW a)else if zr7 l a.fr (a.tz - a.fr)=Xc then([],6)else zi3 (zl5 l a)
theorem zrs {l:List Ar} {s n:Int}:zr7 l s n=Xd↔∀k:Nat,k<64->(s<=(k:Int)/\(k:Int)<s+n)->(zJ l k).is=Xd:=by
 simp only[zr7,Ob,Xs,Xt,zkG,not_and,Bool.not_eq_true]
theorem zng {l:List Ar} {a:Ar} (e:Qo Xb l) (c:jV a):zoR (zl5 l a):=fun k d=>by
 unfold zl5
 by_cases h:Jt a k=Xc
 ·rw[kE h];exact⟨fun b=>(by cases b),fun _=>zjP c h⟩
 rw[kF h];exact e.good k d
structure Sp where
 aH:Bool
 aD:List Ar
 tb:List (List En)
structure Ca where
 file:Int
 idx:Int
 fr:Int
structure Ma where
 fs:List Fr
 aB:Int
 sl:List Int
 sb:List (List Int)
 sq:List (Int × List Int)
 db:List (List Int)
 dq:List (Int × List Int)
 fl:List Fl
 cnt:Int
 ca:List Ca
 sp:List Sp
def zC:List Int->Int
 | []=>0
 | e :: l=>if e=0 then zC l else e
theorem zr:∀{l:List Int},zC l=0↔∀e∈l,e=0
 | []=>by simp[zC]
 | e :: l=>by
  unfold zC
  by_cases h:e=0
  ·rw[kE h,zr]
   simp[h]
  rw[kF h]
  simp[h]
def zbO (m:Ma):Int:=if(Ya m.db.length).any (fun(b:Nat)=>!zR m.fl (b:Int) && !(m.db.getD b [] == zI))=Xc then 7 else 0
def zbn (m:Ma):Int:=if m.dq.any (fun q=>!zR m.fl q.1)=Xc then 7 else 0
def spE (s:Sp):Int:=if(wrL s.aD).1≠0 then(wrL s.aD).1 else if tbW s.tb≠0 then tbW s.tb else if(!s.aH &&(!s.aD.isEmpty || !s.tb.all (·.isEmpty)))=Xc then 7 else 0
def zpY (m:Ma):Int:=if m.sl.length≠m.sb.length\/m.cnt≠(m.db.length:Int)then 7 else 0
def zaR (m:Ma):Int:=zC [Zi m.fs m.aB,slW m.sl,zB m.sb.length m.sq,zB m.db.length m.dq,stW m.fl m.cnt,zpY m,zbO m,zbn m,if 4<m.sp.length then 4 else 0,zC (m.sp.map spE)]
def bkN (m:Ma) (file:Int):Int:=((m.fl.getD file.toNat ⟨0,[]⟩).bl.length:Nat)
def zQ (m:Ma) (k:Int):Fr:=m.fs.getD k.toNat frF
def qa (c:Ca):Int:=100*c.file+c.idx
def caE (m:Ma) (p:Option Ca) (c:Ca):Int:=
 if c.file<0\/(m.fl.length:Int)<=c.file\/c.idx<0\/bkN m c.file<=c.idx\/c.fr<0\/(m.fs.length:Int)<=c.fr then 3
 else if(zQ m c.fr).r=0\/(zQ m c.fr).f≠c.file\/(zQ m c.fr).x≠c.idx then 7
 else match p with | some q=>(if qa c<=qa q then 2 else 0) | none=>0
def zcl (m:Ma):Option Ca->List Ca->Int
 | _,[]=>0
 | p,c :: l=>if caE m p c=0 then zcl m (Xa c) l else caE m p c
def zgl (m:Ma) (x:On) (e:En):Int:=
 if x.is=Xd then 5
 else if e.kind=2 then(if(m.sl.length:Int)<=e.n\/x.sh=Xc then 7 else 0)
 else if(m.fs.length:Int)<=e.n then 3
 else if(¬(zQ m e.n).f=-1/\¬(0<=x.file/\(zQ m e.n).f=x.file/\(zQ m e.n).x=x.aG))\/(x.sh=Xc/\¬(0<=x.file/\(zQ m e.n).f=x.file/\(zQ m e.n).x=x.aG))\/(e.wr=Xc/\x.wr=Xd)\/(e.wr=Xc/\(0<=x.file/\(zQ m e.n).f=x.file/\(zQ m e.n).x=x.aG)/\x.sh=Xd)\/(e.wr=Xc/\(zQ m e.n).f=-1/\1< (zQ m e.n).r)then 7 else 0
def zh (s:Sp) (n:Nat):En:=zcZ s.tb (n / 8) (n % 8)
def zel (m:Ma) (s:Sp):Int:=zC ((Ya 64).map fun n=>if(zh s n).kind=0 then 0 else zgl m (zJ s.aD n) (zh s n))
def isE (e:En) (kind k:Int):Bool:=decide (e.kind=kind) && decide (e.n=k)
def ZP (f:Nat->En) (kind k:Int):Nat->Nat
 | 0=>0
 | n+1=>ZP f kind k n+(isE (f n) kind k).toNat
def qZ (T:List (Nat->En)) (kind k:Int):Nat:=(T.map fun f=>ZP f kind k 64).sum
def zdC (m:Ma) (kind k:Int):Nat:=qZ (m.sp.map zh) kind k
def zX (ca:List Ca) (k:Int):Nat:=ca.countP fun c=>decide (c.fr=k)
def frE (m:Ma) (k:Nat):Int:=if(zQ m k).r≠((zdC m 1 k+zX m.ca k:Nat):Int)\/(0<=(zQ m k).f/\zX m.ca k=0)then 7 else 0
def zoL (m:Ma) (k:Nat):Int:=if m.sl.getD k 0≠(zdC m 2 k:Int)then 7 else 0
def maW (m:Ma):Int:=zC [zaR m,zcl m Xb m.ca,zC (m.sp.map (zel m)),zC ((Ya m.fs.length).map (frE m)),zC ((Ya m.sl.length).map (zoL m))]
def zcI (f:Nat->En) (n:Nat) (e:En):Nat->En:=fun j=>if j=n then e else f j
theorem zof (f:Nat->En) {n:Nat} (e) (kind k:Int):∀m:Nat,ZP (zcI f n e) kind k m+(if n<m then(isE (f n) kind k).toNat else 0)=ZP f kind k m+(if n<m then(isE e kind k).toNat else 0)
 | 0=>by simp[ZP]
 | m+1=>by
  have b:=zof f e kind k (n:=n) m;unfold ZP
  by_cases h:n=m
  ·subst h;rw[kF (Nat.lt_irrefl _),kF (Nat.lt_irrefl _)]at b;rw[kE (Nat.lt_succ_self _),kE (Nat.lt_succ_self _)];have:zcI f n e n=e:=by unfold zcI;rw[kE rfl]
   rw[this];omega
  have:zcI f n e m=f m:=by unfold zcI;rw[kF (fun a=>h a.symm)]
  rw[this]
  by_cases a:n<m
  ·rw[kE a,kE a]at b;rw[kE Wm,kE Wm]
   omega
  rw[kF a,kF a]at b;rw[kF Wm,kF Wm]
  omega
theorem zbC:∀{T:List (Nat->En)} {p:Nat} {f:Nat->En} {n:Nat} (e:En) (kind k:Int),T[p]? =Xa f->n<64->qZ (T.set p (zcI f n e)) kind k+(isE (f n) kind k).toNat=qZ T kind k+(isE e kind k).toNat
 | [],p,f,n,e,kind,k,h,_=>by simp at h
 | g :: T,0,f,n,e,kind,k,h,a=>by
  simp at h
  subst h;have:=zof g e kind k (n:=n) 64;rw[kE a,kE a]at this;simp only[sZ,qZ,mP,Og];omega
 | g :: T,p+1,f,n,e,kind,k,h,a=>by
  have b:=zbC (T:=T) (p:=p) (f:=f) (n:=n) e kind k (Si h) a
  simp only[sS,qZ,mP,Og]at b⊢;omega
theorem zqD (f:Nat->En) (kind k:Int):∀m:Nat,ZP f kind k m<=m
 | 0=>nR _
 | m+1=>by
  have:=zqD f kind k m;unfold ZP
  cases isE (f m) kind k <;> simp <;> omega
theorem zdE:∀(T:List (Nat->En)) (kind k:Int),qZ T kind k<=64*T.length
 | [],_,_=>by simp[qZ]
 | f :: T,kind,k=>by
  have a:=zqD f kind k 64;have a:=zdE T kind k;simp only[qZ,mP,Og,Yi]at a⊢;omega
theorem Zy (kind k:Int) (h:kind≠0):isE en0 kind k=Xd:=by
 have:¬en0.kind=kind:=fun e=>h e.symm
 simp[isE,this]
theorem zam {T:List (Nat->En)} {p:Nat} {f:Nat->En} {n:Nat} {kind k:Int} (a:T[p]? =Xa f) (b:n<64) (h:isE (f n) kind k=Xc) (c:kind≠0):1<=qZ T kind k:=by
 have:=zbC en0 kind k a b
 grind [Zy]
theorem zj2 {T:List (Nat->En)} {p q:Nat} {f g:Nat->En} {n:Nat} {kind k:Int} (b:T[p]? =Xa f) (e:n<64) (h:isE (f n) kind k=Xc) (l:T[q]? =Xa g) (i:j<64) (d:isE (g j) kind k=Xc) (a:p≠q\/n≠j) (c:kind≠0):2<=qZ T kind k:=by
 have a:=zbC en0 kind k b e;rw[h,Zy kind k c]at a
 simp at a
 have a:=(gS.1 b).1
 by_cases e:q=p
 ·grind [qZ,zcI,en0,zam,sF]
 have a:1<=qZ (T.set p (zcI f n en0)) kind k:=zam (p:=q) (f:=g) (n:=j) (by rw[sN (fun h=>e h.symm)];exact l) i d c
 omega
theorem zhr (T:List (Nat->En)) (kind k:Int) (a:kind≠0):qZ (T++ [fun _=>en0]) kind k=qZ T kind k:=by
 have:∀m,ZP (fun _=>en0) kind k m=0:=by
  intro m
  induction m with
  | zero=>rfl
  | succ m b=>
   unfold ZP;rw[b,Zy kind k a];rfl
 grind [qZ]
def zoG (f:Fr):Prop:=0<=f.r/\(0<=f.x/\f.x<12)/\(f.f=-1\/(0<=f.f/\f.f<5))/\(f.r=0->f=frF)/\(f.f=-1->f.x=0)
theorem zhu {f:Fr} (h:zoG f) (a:f.r<=1000):frW f=0:=by
 obtain⟨a,a,a,a,a⟩:=h
 grind [frW,inB,zbI,frF,zdK]
theorem QK:∀{l:List Fr},zgk l=0↔∀f∈l,frW f=0
 | []=>by simp[zgk]
 | f :: l=>by
  unfold zgk
  by_cases h:frW f=0
  ·rw[kE h,QK]
   simp[h]
  rw[kF h]
  simp[h]
def zoI (m:Ma) (x:On) (e:En):Prop:=enW e=0/\e.kind≠0/\zgl m x e=0
structure ZA (m:Ma) (T:List (Nat->En)):Prop where
 aY:m.fs.length<=40
 bN:∀f∈m.fs,zoG f
 aX:m.sl.length<=60
 bI:m.sb.length=m.sl.length
 sq:zB m.sb.length m.sq=0
 aU:zB m.db.length m.dq=0
 st:stW m.fl m.cnt=0
 cnt:m.cnt=(m.db.length:Int)
 bJ:∀b:Nat,b<m.db.length->zR m.fl (b:Int)=Xd->m.db[b]? =Xa zI
 bE:∀q∈m.dq,zR m.fl q.1=Xc
 aQ:m.sp.length<=4
 bA:∀s∈m.sp,(wrL s.aD).1=0/\(s.aH=Xd->s.aD=[])
 tl:T.length=m.sp.length
 ca:zcl m Xb m.ca=0
 aZ:∀(p:Nat) s f,m.sp[p]? =Xa s->T[p]? =Xa f->∀n:Nat,n<64->f n=en0\/zoI m (zJ s.aD n) (f n)
 cf:∀(k:Nat) f,m.fs[k]? =Xa f->f.r=((qZ T 1 k+zX m.ca k:Nat):Int)/\(0<=f.f->zX m.ca k≠0)
 cs:∀(k:Nat) z,m.sl[k]? =Xa z->z=(qZ T 2 k:Int)
theorem zn {m:Ma}:∀{l:List Ca} {p:Option Ca},zcl m p l=0↔(∀c∈l,caE m Xb c=0)/\(∀q c,p=Xa q->c∈l->qa q<qa c)/\l.Pairwise (fun a b=>qa a<qa b)
 | [],p=>by simp[zcl]
 | c :: l,p=>by
  unfold zcl;have s:caE m p c=0↔caE m Xb c=0/\∀q,p=Xa q->qa q<qa c:=by
   unfold caE
   by_cases j:c.file<0\/(m.fl.length:Int)<=c.file\/c.idx<0\/bkN m c.file<=c.idx\/c.fr<0\/(m.fs.length:Int)<=c.fr
   ·rw[kE j,kE j];simp
   rw[kF j,kF j]
   by_cases k:(zQ m c.fr).r=0\/(zQ m c.fr).f≠c.file\/(zQ m c.fr).x≠c.idx
   ·rw[kE k,kE k];simp
   rw[kF k,kF k]
   cases p with
   | none=>simp
   | some q=>
    simp only[Option.some.injEq,forall_eq',true_and]
    by_cases r:qa c<=qa q
    ·rw[kE r];constructor
     ·intro h;cases h
     intro h;omega
    rw[kF r];simp;omega
  by_cases h:caE m p c=0
  ·rw[kE h,zn];obtain⟨v,n⟩:=s.1 h;constructor
   ·rintro⟨f,g,i⟩;refine⟨?_,?_,?_⟩
    ·intro x d
     rcases mC.1 d with rfl|d
     ·exact v
     exact f x d
    ·intro q x e d
     rcases mC.1 d with rfl|d
     ·exact n q e
     have:=n q e;have:=g c x rfl d;omega
    exact Yc.2 ⟨fun x d=>g c x rfl d,i⟩
   rintro⟨f,g,i⟩;obtain⟨t,u⟩:=Yc.1 i;exact⟨fun x d=>f x (by simp[d]),fun q x e d=>by cases e;exact t x d,u⟩
  rw[kF h];constructor
  ·intro w;exact absurd w h
  rintro⟨f,g,i⟩;exact absurd (s.2 ⟨f c Sm,fun q e=>g q c e Sm⟩) h
theorem q9 {m:Ma} {c:Ca} (h:caE m Xb c=0):(0<=c.file/\c.file<m.fl.length/\0<=c.idx/\c.idx<bkN m c.file/\0<=c.fr/\c.fr<m.fs.length)/\(zQ m c.fr).r≠0/\(zQ m c.fr).f=c.file/\(zQ m c.fr).x=c.idx:=by grind [caE]
theorem zd1 {m:Ma} {c:Ca} (a:0<=c.file/\c.file<m.fl.length/\0<=c.idx/\c.idx<bkN m c.file/\0<=c.fr/\c.fr<m.fs.length) (b:(zQ m c.fr).r≠0) (d:(zQ m c.fr).f=c.file) (e:(zQ m c.fr).x=c.idx):caE m Xb c=0:=by grind [caE]
theorem zff {m:Ma} (h:zcl m Xb m.ca=0) (k:Int):zX m.ca k<=1:=by
 obtain⟨a,_,a⟩:=zn.1 h;have a:∀(l:List Ca),(∀c∈l,caE m Xb c=0)->l.Pairwise (fun a b=>qa a<qa b)->zX l k<=1:=by
  intro l
  induction l with
  | nil=>intro _ _;simp[zX]
  | cons c l d=>
   intro e a;obtain⟨h,f⟩:=Yc.1 a;have b:=d (fun x d=>e x (by simp[d])) f
   unfold zX at b⊢;rw[List.countP_cons]
   by_cases g:c.fr=k
   ·have:l.countP (fun c=>decide (c.fr=k))=0:=by
     rw[Yx];intro x d f;have a:x.fr=k:=Si f
     have f:=q9 (e c Sm)
     have c:=q9 (e x (by simp[d]))
     have e:=h x d;rw[g]at f;rw[a]at c;unfold qa at e;have:=f.2.2.1;have:=f.2.2.2;have:=c.2.2.1;have:=c.2.2.2;omega
    rw[this]
    simp[g]
   simp[g]
   exact b
 grind
theorem QP {ca:List Ca} {c:Ca} (h:c∈ca):zX ca c.fr≠0:=by
 unfold zX;intro a;rw[Yx]at a;exact a c h Sm
theorem zck {ca:List Ca} {k:Int} (h:zX ca k≠0):∃c∈ca,c.fr=k:=by grind [zX,Nat.pos_of_ne_zero,List.countP_pos_iff]
def Z2 (f:Nat->En):List (List En):=Qq ((Ya 64).map f)
def zaH (m:Ma) (T:List (Nat->En)) (h:Int):Ma:={ m with aB:=h,sp:=Oz (fun s f=>{ s with tb:=Z2 f }) m.sp T }
theorem zfu {f:Nat->En} (h:∀n,n<64->enW (f n)=0) {n:Nat} (a:n<64):zcZ (Z2 f) (n / 8) (n % 8)=f n:=by
 unfold Z2 zcZ Qq;rw[Xw,Yb Wm]
 simp only[Option.map_some,Option.getD_some];have b:∀e∈zcR ((Ya 64).map f) (n / 8),enW e=0:=by
  intro e a;unfold zcR at a;obtain⟨k,c,rfl⟩:=Xy.1 a;rw[Xs]at c;rw[Xw,Yb Wm]
  exact h _ Wm
 rw[zqu _ b];unfold zcR;rw[Xw,Yb Wm]
 simp only[Option.map_some,Option.getD_some];rw[Xw,Yb Wm]
 simp only[Option.map_some,Option.getD_some]
 congr 1
 omega
theorem zjB {f:Nat->En} (h:∀n,n<64->enW (f n)=0):tbW (Z2 f)=0:=by
 rw[Qj];intro x a;unfold Z2 Qq at a;obtain⟨i,b,rfl⟩:=Xy.1 a;rw[Xs]at b;refine zsp (by simp[zcR]) ?_
 intro e a;unfold zcR at a;obtain⟨k,b,rfl⟩:=Xy.1 a;rw[Xs]at b;rw[Xw,Yb Wm]
 exact h _ Wm
theorem zio {f:Nat->En} (h:∀n,n<64->f n=en0):(Z2 f).all (·.isEmpty)=Xc:=by
 rw[Yv];intro x a;unfold Z2 Qq at a;obtain⟨i,b,rfl⟩:=Xy.1 a;rw[Xs]at b;have:zgd (zcR ((Ya 64).map f) i)=Xd:=by
  unfold zgd;rw[Ob];intro e a;unfold zcR at a;obtain⟨k,b,rfl⟩:=Xy.1 a;rw[Xs]at b;rw[Xw,Yb Wm]
  simp only[Option.map_some,Option.getD_some];rw[h _ Wm]
  decide
 grind [mk]
theorem zhQ {f g:Nat->En} (kind k:Int):∀{m:Nat},(∀n,n<m->f n=g n)->ZP f kind k m=ZP g kind k m
 | 0,_=>rfl
 | m+1,h=>by
  unfold ZP;rw[zhQ kind k (fun n a=>h n Wm),h m Wm]
section
variable{m:Ma} {T:List (Nat->En)}
theorem ZA.en (h:ZA m T) {p:Nat} {f:Nat->En} (a:T[p]? =Xa f) {n:Nat} (b:n<64):enW (f n)=0:=by
 have c:p<m.sp.length:=by rw[<-h.tl];exact(gS.1 a).1
 rcases h.aZ p _ f (gE c) a n b with a|a
 ·grind [Qg]
 exact a.1
theorem zqy (h:ZA m T) (b:Int) {p:Nat} {s:Sp} (a:(zaH m T b).sp[p]? =Xa s):∃b f,m.sp[p]? =Xa b/\T[p]? =Xa f/\s={ b with tb:=Z2 f }:=by
 unfold zaH at a;simp only[List.getElem?_zipWith]at a;have b:p<m.sp.length:=by grind
 have c:p<T.length:=by rw[h.tl];exact b
 rw[gE b,gE c]at a;simp only[Option.some.injEq]at a;exact⟨_,_,gE b,gE c,a.symm⟩
theorem zkc (h:ZA m T) (a:Int) (kind k:Int):zdC (zaH m T a) kind k=qZ T kind k:=by
 have b:∀(S:List Sp) (T:List (Nat->En)),T.length=S.length->(∀(p:Nat) f,T[p]? =Xa f->∀n,n<64->enW (f n)=0)->qZ ((Oz (fun s f=>({ s with tb:=Z2 f }:Sp)) S T).map zh) kind k=qZ T kind k:=by
  intro S
  induction S with
  | nil=>intro T a _;rw[List.length_eq_zero_iff.1 a];rfl
  | cons s S e=>
   intro T a d
   cases T with
   | nil=>simp at a
   | cons f T=>
    have c:=e T (Si a) (fun p g a=>d (p+1) g (Si a))
    have e:ZP (zh { s with tb:=Z2 f }) kind k 64=ZP f kind k 64:=zhQ kind k fun n a=>by
     unfold zh;exact zfu (d 0 f rfl) a
    simp only[Oc,mP,qZ,Og]at c⊢;rw[c,e]
 exact b m.sp T h.tl fun p f b n a=>h.en b a
theorem ZA.right (h:ZA m T) {d:Int} (a:0<=d) (b:d<max (m.fs.length:Int) 1):maW (zaH m T d)=0:=by
 have a:T.length<=4:=by rw[h.tl];exact h.aQ
 unfold maW;rw[zr];intro e a;simp only[mC,nM,or_false]at a
 rcases a with rfl|rfl|rfl|rfl|rfl
 ·unfold zaR;rw[zr];intro e a;simp only[mC,nM,or_false]at a
  rcases a with rfl|rfl|rfl|rfl|rfl|rfl|rfl|rfl|rfl|rfl
  ·show Zi m.fs d=0
   unfold Zi;have b:zgk m.fs=0:=QK.2 fun f l=>by
    obtain⟨k,g⟩:=Xv l;refine zhu (h.bN f l) ?_;rw[(h.cf k f g).1];have:=zdE T 1 k;have:=zff h.ca k;omega
   rw[kF (Hm h.aY),kE b,kE]
   simp[inB]
   omega
  ·show slW m.sl=0
   unfold slW;rw[kF (Hm h.aX),kF]
   rw[Yd];rintro⟨z,b,i⟩;obtain⟨k,g⟩:=Xv b;have c:=h.cs k z g;have:=zdE T 2 k;unfold zeb at i
   simp at i
   omega
  ·exact h.sq
  ·exact h.aU
  ·exact h.st
  ·show zpY m=0
   unfold zpY;rw[kF];have:=h.bI;have:=h.cnt;omega
  ·show zbO m=0
   unfold zbO;rw[kF];rw[Yd];rintro⟨j,i,b⟩;rw[Xs]at i;simp only[Xt,Bool.not_eq_true']at b;have:=h.bJ j i b.1;rw[gD,this]at b
   simp at b
  ·show zbn m=0
   unfold zbn;rw[kF];rw[Yd];rintro⟨y,w,b⟩;rw[h.bE y w]at b;cases b
  ·grind [zaH]
  rw[zr];intro e a;obtain⟨z,u,rfl⟩:=Xy.1 a;obtain⟨x,v⟩:=Xv u;obtain⟨s,f,q,r,rfl⟩:=zqy h d v;have t:=h.bA s (mG q);unfold spE;simp only;rw[kF (fun h=>h t.1),kF (fun i=>i (zjB fun n i=>h.en r i)),kF]
  intro b;rw[Xt]at b;have p:s.aH=Xd:=Si b.1
  have j:=t.2 p;have p:(Z2 f).all (·.isEmpty)=Xc:=zio fun n i=>by
   rcases h.aZ x s f q r n i with e|e
   ·exact e
   have:=e.2.2;unfold zgl at this;rw[j,kE (show(zJ [] n).is=Xd from rfl)]at this
   cases this
  rw[j,p]at b
  simp at b
 ·obtain⟨q,r,j⟩:=zn.1 h.ca;exact zn.2 ⟨fun b p=>q b p,fun y b w=>(by cases w),j⟩
 ·rw[zr];intro e a;obtain⟨z,u,rfl⟩:=Xy.1 a;obtain⟨x,v⟩:=Xv u;obtain⟨s,f,q,r,rfl⟩:=zqy h d v;unfold zel;rw[zr];intro e a;obtain⟨n,i,rfl⟩:=Xy.1 a;rw[Xs]at i;have l:zh { s with tb:=Z2 f } n=f n:=by
   unfold zh;exact zfu (fun n i=>h.en r i) i
  rw[l]
  rcases h.aZ x s f q r n i with c|c
  ·rw[c,kE (show en0.kind=0 from rfl)]
  rw[kF c.2.1];exact c.2.2
 ·rw[zr];intro e a;obtain⟨k,g,rfl⟩:=Xy.1 a;rw[Xs]at g;have b:k<m.fs.length:=g;have l:=h.cf k _ (gE b);unfold frE;rw[zkc h d];have f:zQ (zaH m T d) k=m.fs[k]:=by
   show m.fs.getD (k:Int).toNat frF=_
   rw[tN,gD,gE b];rfl
  rw[f,kF];rintro(c|⟨c,i⟩)
  ·exact c l.1
  exact l.2 c i
 rw[zr];intro e a;obtain⟨k,g,rfl⟩:=Xy.1 a;rw[Xs]at g;have b:k<m.sl.length:=g;have u:=h.cs k _ (gE b);unfold zoL;rw[zkc h d];have f:(zaH m T d).sl.getD k 0=m.sl[k]:=by
  show m.sl.getD k 0=_
  rw[gD,gE b];rfl
 rw[f,kF (fun c=>c u)]
def jd (m:Ma):List (Nat->En):=m.sp.map zh
theorem zbl {m:Ma} (h:maW m=0):ZA m (jd m)/\0<=m.aB/\m.aB<max (m.fs.length:Int) 1:=by
 unfold maW at h;rw[zr]at h;have a:zaR m=0:=h _ Sm
 have i:zcl m Xb m.ca=0:=h _ Sm
 have q:=zr.1 (h (zC (m.sp.map (zel m))) Sm)
 have r:=zr.1 (h (zC ((Ya m.fs.length).map (frE m))) Sm)
 have t:=zr.1 (h (zC ((Ya m.sl.length).map (zoL m))) Sm)
 unfold zaR at a;rw[zr]at a;have b:Zi m.fs m.aB=0:=a _ Sm
 have b:slW m.sl=0:=a _ Sm
 have c:zB m.sb.length m.sq=0:=a _ Sm
 have g:zB m.db.length m.dq=0:=a _ Sm
 have j:stW m.fl m.cnt=0:=a _ Sm
 have b:zpY m=0:=a _ Sm
 have l:zbO m=0:=a _ Sm
 have b:zbn m=0:=a _ Sm
 have b:(if 4<m.sp.length then(4:Int)else 0)=0:=a _ Sm
 have e:=zr.1 (a (zC (m.sp.map spE)) Sm)
 have d:m.fs.length<=40/\zgk m.fs=0/\0<=m.aB/\m.aB<max (m.fs.length:Int) 1:=by grind [Zi,inB]
 have k:m.sl.length<=60:=by grind [slW]
 have b:m.sl.length=m.sb.length/\m.cnt=(m.db.length:Int):=by grind [zpY]
 refine⟨⟨d.1,fun f p=>?_,k,b.1.symm,c,g,j,b.2,fun b b b=>?_,fun b b=>?_,?_,fun s g=>?_,by simp[jd],i,fun b s f g j n u=>?_,fun k f b=>?_,fun k z b=>?_⟩,d.2.2.1,d.2.2.2⟩
 ·have c:=QK.1 d.2.1 f p;unfold frW at c
  split at c
  ·cases c
  rename_i d
  split at c
  ·cases c
  rename_i d
  split at c
  ·cases c
  rename_i c
  have c:inB f.r 1001=Xc/\inB f.x 12=Xc:=by grind
  have d:f.f=-1\/inB f.f 5=Xc:=by grind
  have p:(f.r=0->f=frF)/\(f.f=-1->f.x=0):=by grind [zbI,frF,zdK]
  unfold inB at c d
  simp at c d
  exact⟨Wm,Wm,Wm,p.1,p.2⟩
 ·unfold zbO at l
  split at l
  ·cases l
  grind
 ·grind [zbn,zR,Yd.2]
 ·grind
 ·have d:=e (spE s) (Xy.2 ⟨s,g,rfl⟩);unfold spE at d
  split at d
  ·grind
  grind
 ·unfold jd at j;rw[Xw,g]at j;cases j;have c:=mG g;have d:=e (spE s) (Xy.2 ⟨s,c,rfl⟩);have g:tbW s.tb=0:=by grind [spE]
  have e:enW (zh s n)=0:=by
   unfold zh zcZ;have d:=Qj.1 g;have:zjx (s.tb[n / 8]?.getD []):=by
    cases g:s.tb[n / 8]? with
    | none=>exact .inl rfl
    | some x=>exact d x (mG g)
   exact this.get (n % 8)
  have d:=zr.1 (q (zel m s) (Xy.2 ⟨s,c,rfl⟩)) _ (Xy.2 ⟨n,Xs.2 u,rfl⟩)
  by_cases b:(zh s n).kind=0
  ·left;exact znS e (by simp[enS,b])
  right;rw[kF b]at d;exact⟨e,b,d⟩
 ·have c:=(gS.1 b).1;have:=r (frE m k) (Xy.2 ⟨k,Xs.2 c,rfl⟩);unfold frE at this;have d:zQ m k=f:=by unfold zQ;rw[tN,gD,b];rfl
  rw[d]at this
  split at this
  ·cases this
  rename_i d
  refine⟨Classical.byContradiction fun h=>d (.inl h),fun a i=>d (.inr ⟨a,i⟩)⟩
 have c:=(gS.1 b).1;have:=t (zoL m k) (Xy.2 ⟨k,Xs.2 c,rfl⟩);unfold zoL at this;rw[gD,b]at this
 split at this
 ·cases this
 rename_i d
 exact Classical.byContradiction fun h=>d h
end
section
variable{m:Ma} {T:List (Nat->En)}
theorem zT {m:Ma} {k:Nat} {f:Fr} (h:m.fs[k]? =Xa f):zQ m (k:Int)=f:=by
 unfold zQ;rw[tN,gD,h];rfl
theorem jX {m:Ma} {k:Nat} {f:Fr} (a:k<m.fs.length) (z:Int) (b:0<=z):zQ { m with fs:=m.fs.set k f } z=if z=(k:Int)then f else zQ m z:=by
 unfold zQ;simp only[gD]
 by_cases e:z=(k:Int)
 ·grind
 grind
theorem Z9 {m m':Ma} {x:On} {e:En} (h:zgl m x e=0) (c:m'.sl.length=m.sl.length) (b:m'.fs.length=m.fs.length) (a:e.kind≠2->(zQ m' e.n).f=(zQ m e.n).f/\(zQ m' e.n).x=(zQ m e.n).x/\(e.wr=Xc->(zQ m e.n).f=-1->(zQ m' e.n).r<=1)):zgl m' x e=0:=by grind [zgl]
theorem qH {m:Ma} {x:On} {e:En} (h:zoI m x e) (a:e.kind≠2):e.kind=1/\0<=e.n/\e.n<m.fs.length/\(e.wr=Xc->(zQ m e.n).f=-1->(zQ m e.n).r<=1):=by
 obtain⟨a,b,b⟩:=h;obtain⟨b,b,_⟩:=Zc a
 grind [zgl,zQ]
theorem zcf {T:List (Nat->En)} {p:Nat} {f:Nat->En} (a:T[p]? =Xa f) {n:Nat} (c:n<64) (b:(f n).kind=1):1<=qZ T 1 (f n).n:=zam a c (by simp[isE,b]) Dc
theorem ZA.free (h:ZA m T) {f:Fr} (b:m.fs[j]? =Xa f) (a:f.r=0):qZ T 1 j=0/\zX m.ca j=0:=by
 have:=(h.cf j f b).1;rw[a]at this;omega
def ZN (ca:List Ca) (c:Ca):List Ca:=ca.takeWhile (fun d=>decide (qa d<qa c))++c :: ca.dropWhile (fun d=>decide (qa d<qa c))
theorem zlh (ca) (c:Ca) (k:Int):zX (ZN ca c) k=zX ca k+(if c.fr=k then 1 else 0):=by
 unfold ZN zX;have h:=Od (p:=fun d=>decide (qa d<qa c)) (l:=ca)
 rw[Uv,List.countP_cons]
 conv=>rhs;rw[<-h,Uv]
 by_cases e:c.fr=k
 ·grind
 simp[e]
theorem znp {ca:List Ca} {c d:Ca} (h:d∈ZN ca c):d=c\/d∈ca:=by
 unfold ZN at h;rw[Yn,mC]at h
 rcases h with h|h|h
 ·grind [Ua]
 ·grind
 grind [List.dropWhile_sublist]
theorem zeX {c:Ca}:∀{ca:List Ca},ca.Pairwise (fun a b=>qa a<qa b)->(∀d∈ca,qa d≠qa c)->(ZN ca c).Pairwise (fun a b=>qa a<qa b)
 | [],_,_=>by simp[ZN]
 | d :: ca,i,g=>by
  obtain⟨j,k⟩:=Yc.1 i
  by_cases f:qa d<qa c
  ·have h:ZN (d :: ca) c=d :: ZN ca c:=by
    unfold ZN;rw[Un,Uo,kE (Si f),kE (Si f)]
    rfl
   rw[h];refine Yc.2 ⟨fun x e=>?_,zeX k fun x e=>g x (by simp[e])⟩
   rcases znp e with rfl|e
   ·exact f
   exact j x e
  have h:ZN (d :: ca) c=c :: d :: ca:=by
   unfold ZN;rw[Un,Uo,kF (Si f),kF (Si f)]
   rfl
  rw[h];have:=g d Sm
  refine Yc.2 ⟨fun x e=>?_,i⟩
  rcases mC.1 e with rfl|e
  ·omega
  have:=j x e;omega
theorem ZA.pages (h:ZA m T) {file:Int} (a:0<=file) (b:file<m.fl.length):bkN m file<=12/\file<5:=by
 obtain⟨⟨a,a,a⟩,c,a⟩:=(zY m.fl m.cnt).1 h.st;have a:file.toNat<m.fl.length:=Wm
 have b:=c _ (List.getElem_mem a);unfold bkN;rw[gD,gE a];simp only[Option.getD_some];obtain⟨a,a,a⟩:=b
 grind [jH]
theorem ZA.cache (h:ZA m T) {a:Fr} {p:Pg} {u d:Bool} {file idx:Int} (e:m.fs[j]? =Xa a) (f:a.r=0) (b:0<=file/\file<m.fl.length) (hi:0<=idx/\idx<bkN m file) (g:∀c∈m.ca,¬(c.file=file/\c.idx=idx)):
  ZA { m with fs:=m.fs.set j ⟨p,1,u,d,file,idx⟩,ca:=ZN m.ca ⟨file,idx,j⟩ } T:=by
 have a:=(gS.1 e).1;obtain⟨a,a⟩:=h.free e f;obtain⟨a,a⟩:=h.pages b.1 b.2;obtain⟨b,a,r⟩:=zn.1 h.ca;have a:∀c∈m.ca,c.fr≠(j:Int):=fun c i e=>by grind [QP]
 have g:∀c∈m.ca,qa c≠qa ⟨file,idx,j⟩:=fun c i e=>by
  have a:=(q9 (b c i)).1;have b:=h.pages a.1 a.2.1
  grind [qa]
 refine⟨by simpa using h.aY,fun f a=>?_,h.aX,h.bI,h.sq,h.aU,h.st,h.cnt,h.bJ,h.bE,h.aQ,h.bA,h.tl,?_,fun q v f t s n k=>?_,fun l f b=>?_,h.cs⟩
 ·rcases Xz a with a | rfl
  ·exact h.bN f a
  refine⟨Sm,by simp only;omega,.inr (by simp only;omega),fun h=>by simp at h,fun h=>by simp only at h;omega⟩
 ·refine zn.2 ⟨fun c i=>?_,fun q c a=>(by cases a),zeX r g⟩
  grind [znp,zd1,zQ,ZN,Ca,jX,q9,bkN]
 ·rcases h.aZ q v f t s n k with e|e
  ·exact .inl e
  refine .inr ⟨e.1,e.2.1,Z9 e.2.2 rfl Sm fun b=>?_⟩
  obtain⟨a,a,a,a⟩:=qH e b;have a:(f n).n≠(j:Int):=fun a=>by grind [zcf]
  grind [zQ,ZN,jX]
 simp only at b⊢;rw[zlh]
 by_cases e:l=j
 ·grind
 rw[sN (fun h=>e h.symm)]at b
 have:=h.cf l f b
 grind
theorem zjZ {kind k:Int} {e:En} (h:e.kind≠kind):isE e kind k=Xd:=by simp[isE,h]
theorem zhl {kind k:Int} {e:En} (h:e.n≠k):isE e kind k=Xd:=by simp[isE,h]
end
structure zs9 (fl:List Fl) (cnt:Int) (db:List (List Int)) (dq:List (Int × List Int)) (bl:List Int):Prop where
 st:stW fl cnt=0
 cn:cnt=(db.length:Int)
 ql:dq.length<=(Jd fl).length+bl.length
 blok:∀b∈bl,b=-1\/(0<=b/\b<cnt)
 nod:(ZJ (Jd fl++bl)).Nodup
 bJ:∀b:Nat,b<db.length->zR fl (b:Int)=Xd->(b:Int)∉bl->db[b]? =Xa zI
 bE:∀q∈dq,(0<=q.1/\q.1<cnt)/\(zR fl q.1=Xc\/q.1∈bl)
theorem zkq {a:Int}:∀{fl:List Fl},(∀f∈fl,zsb a f)->(Jd fl).length<=12*fl.length
 | [],_=>by simp[Jd]
 | f :: fl,h=>by
  have b:=zkq (fl:=fl) fun g a=>h g (by simp[a])
  obtain⟨a,a,c⟩:=h f Sm
  unfold jH at a;simp only[Jd,Ye,lA,Yi]at b⊢
  split at a <;> omega
theorem zs9.start {fl:List Fl} {a:Int} {b:List (List Int)} {c:List (Int × List Int)} (h:zs9 fl a b c []) {n k:Nat} (f:n<=40) (e:k<=60) (d:Int):ZA ⟨Xr n frF,d,Xr k 0,Xr k zI,[],b,c,fl,a,[],[]⟩ []:=by
 obtain⟨⟨d,d,d⟩,g,d⟩:=(zY fl a).1 h.st;refine⟨Si f,fun f i=>?_,Si e,Sm,?_,?_,h.st,h.cn,fun a e d=>h.bJ a e d Sm,fun q d=>?_,Sm,Sm,rfl,rfl,fun p s f a=>by simp at a,fun j f a=>?_,fun j z a=>?_⟩
 ·have:=(Ot.1 i).2;subst this;exact⟨Dc,Dc,.inl rfl,fun _=>rfl,fun _=>rfl⟩
 ·grind [zB,Xr,zI]
 ·show zB b.length c=0
  have b:=zkq g;have b:=h.ql;have c:=h.cn;unfold zB;rw[kF Wm,kF (by simp at b;omega),kF]
  rw[Yd];rintro⟨q,d,e⟩;have:=(h.bE q d).1
  grind [j0]
 ·exact(h.bE q d).2.resolve_right Sm
 ·simp only at a;rw[Yz]at a
  split at a
  ·cases a;exact⟨rfl,fun h=>by simp[frF]at h⟩
  cases a
 simp only at a;rw[Yz]at a
 split at a
 ·cases a;rfl
 cases a
def pgL (p:Pg):List Int:=[p.b0,p.b1,p.b2,p.b3,p.b4,p.b5,p.b6,p.b7]
def qJ (p:List Int) (idx size:Int):List Int:=p.mapIdx fun i z=>if size<=8*idx+(i:Int)then 0 else z
def Qc (m:Ma) (file idx:Int):Int:=(m.fl.getD file.toNat ⟨0,[]⟩).bl.getD idx.toNat 0
def qW (m:Ma) (file:Int):Int:=(m.fl.getD file.toNat ⟨0,[]⟩).size
def QU (file idx:Int) (c:Ca):Bool:=decide (c.file=file) && decide (c.idx=idx)
def zN (m:Ma) (file idx:Int):List Int:=
 match m.ca.find? (QU file idx)with
 | some c=>pgL (zQ m c.fr).p
 | none=>if Qc m file idx<0 then zI else qJ (zS m.db m.dq (Qc m file idx)) idx (qW m file)
def z9 (m:Ma) (file idx:Int):List Int:=if Qc m file idx<0 then zI else qJ (zS m.db m.dq (Qc m file idx)) idx (qW m file)
def zcD (m:Ma) (file:Int):List Int:=(Ya (qW m file).toNat).map fun(k:Nat)=>(zN m file ((k / 8:Nat):Int)).getD (k % 8) 0
def jT (m:Ma) (file:Int):Int:=if maW m≠0 then maW m else if file<0\/(m.fl.length:Int)<=file then 5 else 0
def jD (m:Ma) (file:Int):List Int:=if jT m file=0 then zcD m file else []
def zig (m:Ma) (p n:Int):List Int × Bool × Int:=
 if p<0\/(m.sp.length:Int)<=p\/n<0\/63<n then(zI,Xd,5)
 else
  let s:=m.sp.getD p.toNat ⟨Xd,[],[]⟩
  let x:=zJ s.aD n.toNat
  let e:=zh s n.toNat
  if x.is=Xd then(zI,Xd,5)
  else if e.kind=1 then(pgL (zQ m e.n).p,decide ((zQ m e.n).f<0),0)
  else if e.kind=2 then(zS m.sb m.sq e.n,Xc,0)
  else if x.file<0 then(zI,Xd,0)
  else if bkN m x.file<=x.aG then(zI,Xd,9)
  else(zN m x.file x.aG,Xd,0)
def Z0 (m:Ma) (p n:Int):List Int × Bool × Int:=if maW m≠0 then(zI,Xd,maW m)else zig m p n
theorem zkb {m:Ma} (h:∀s∈m.sp,Qy s.tb):zaH m (jd m) m.aB=m:=by
 have:Oz (fun s f=>({ s with tb:=Z2 f }:Sp)) m.sp (jd m)=m.sp:=by
  have a:∀l:List Sp,(∀s∈l,Qy s.tb)->Oz (fun s f=>({ s with tb:=Z2 f }:Sp)) l (l.map zh)=l:=by
   intro l
   induction l with
   | nil=>intro _;rfl
   | cons s l e=>
    intro b;have c:=b s Sm
    have d:Z2 (zh s)=s.tb:=by
     unfold Z2;refine zkL c fun j c=>?_
     rw[Xw,Yb c];rfl
    rw[mP,Oc,e (fun x c=>b x (by simp[c])),d]
  exact a m.sp h
 unfold zaH;rw[this]
theorem jZ {m:Ma} (h:zcl m Xb m.ca=0) {c:Ca} (b:c∈m.ca):m.ca.find? (QU c.file c.idx)=Xa c:=by
 obtain⟨a,_,f⟩:=zn.1 h
 cases a:m.ca.find? (QU c.file c.idx)with
 | none=>
  rw[Yl]at a;exact absurd (by simp[QU]) (a c b)
 | some d=>
  have g:=Yh a;have e:d.file=c.file/\d.idx=c.idx:=by
   have:=Ue a
   simpa [QU]using this
  have a:qa d=qa c:=by unfold qa;rw[e.1,e.2]
  by_cases e:d=c
  ·rw[e]
  exfalso;have:∀l:List Ca,l.Pairwise (fun a e=>qa a<qa e)->c∈l->d∈l->False:=by
   intro l
   induction l with
   | nil=>intro _ a;cases a
   | cons x l d=>
    intro d a e;obtain⟨e,e⟩:=Yc.1 d
    rcases mC.1 a with a|a
    ·grind
    grind
  exact this m.ca f b g
theorem zj0 {ca:List Ca} {c:Ca} (file idx:Int):(ZN ca c).find? (QU file idx)=if QU file idx c=Xc/\(ca.takeWhile (fun d=>decide (qa d<qa c))).find? (QU file idx)=Xb then Xa c else ca.find? (QU file idx):=by
 have a:=Od (p:=fun d=>decide (qa d<qa c)) (l:=ca)
 unfold ZN;rw[Uz,Uf]
 conv=>rhs;rw[show ca.find? (QU file idx)=((ca.takeWhile (fun d=>decide (qa d<qa c)))++(ca.dropWhile (fun d=>decide (qa d<qa c)))).find? (QU file idx)from by rw[a],Uz]
 cases b:(ca.takeWhile (fun d=>decide (qa d<qa c))).find? (QU file idx)with
 | some d=>simp
 | none=>
  cases e:QU file idx c with
  | true=>simp
  | false=>simp
theorem zlV {m:Ma} {T:List (Nat->En)} (h:ZA m T) {i:Fr} {p:Pg} {u d:Bool} {file idx:Int} (k:m.fs[j]? =Xa i) (q:i.r=0) (y:∀c∈m.ca,¬(c.file=file/\c.idx=idx)) (hp:pgL p=zN m file idx) (a b:Int):
  zN { m with fs:=m.fs.set j ⟨p,1,u,d,file,idx⟩,ca:=ZN m.ca ⟨file,idx,j⟩ } a b=zN m a b:=by
 have f:=(gS.1 k).1;obtain⟨A,B⟩:=h.free k q;obtain⟨l,v,w⟩:=zn.1 h.ca;have e:∀z:Int,0<=z->zQ { m with fs:=m.fs.set j ⟨p,1,u,d,file,idx⟩,ca:=ZN m.ca ⟨file,idx,j⟩ } z=if z=(j:Int)then⟨p,1,u,d,file,idx⟩else zQ m z:=fun z t=>jX f z t
 by_cases n:a=file/\b=idx
 ·grind [Ca,QU,Yl,zN,zj0,Ua]
 unfold zN;simp only;rw[zj0,kF (fun h=>n (by have:=h.1;simp[QU]at this;exact⟨this.1.symm,this.2.symm⟩))]
 cases s:m.ca.find? (QU a b)with
 | none=>rfl
 | some c=>
  have r:=Yh s;have g:c.fr≠(j:Int):=fun x=>by grind [QP]
  simp only;rw[e _ (q9 (l c r)).1.2.2.2.2.1,kF g]
def Qr (m:Ma) (x:On) (e:En):List Int × Bool × Int:=
 if x.is=Xd then(zI,Xd,5)
 else if e.kind=1 then(pgL (zQ m e.n).p,decide ((zQ m e.n).f<0),0)
 else if e.kind=2 then(zS m.sb m.sq e.n,Xc,0)
 else if x.file<0 then(zI,Xd,0)
 else if bkN m x.file<=x.aG then(zI,Xd,9)
 else(zN m x.file x.aG,Xd,0)
theorem zcS {m:Ma} {p n:Nat} {s:Sp} (a:m.sp[p]? =Xa s) (b:n<64):zig m (p:Int) (n:Int)=Qr m (zJ s.aD n) (zh s n):=by
 have b:=(gS.1 a).1;unfold zig;rw[kF Wm]
 simp only[tN,gD,a,Option.getD_some];rfl
theorem zcT {m:Ma} {p n:Int} (h:p<0\/(m.sp.length:Int)<=p\/n<0\/63<n):zig m p n=(zI,Xd,5):=by
 unfold zig;rw[kE h]
theorem zcU {m m':Ma} {x:On} {e a:En} (g:a.kind=e.kind) (h:a.n=e.n) (b:e.kind=1->(zQ m' e.n).p=(zQ m e.n).p/\((zQ m' e.n).f<0↔(zQ m e.n).f<0)) (c:e.kind=2->zS m'.sb m'.sq e.n=zS m.sb m.sq e.n)
  (d:∀file,bkN m' file=bkN m file) (f:∀file idx,zN m' file idx=zN m file idx):Qr m' x a=Qr m x e:=by
 grind [Qr]
theorem zhO {m m':Ma} (a:m'.ca=m.ca) (e:m'.fl=m.fl) (b:m'.db=m.db) (d:m'.dq=m.dq) (f:∀c∈m.ca,(zQ m' c.fr).p=(zQ m c.fr).p) (file idx:Int):zN m' file idx=zN m file idx:=by grind [zN,QU,Yh,Qc,qW]
section
variable{m:Ma} {T:List (Nat->En)}
theorem ZA.marks (h:ZA m T) {k:Nat} {fr:Fr} {p:Pg} {u d:Bool} (c:m.fs[k]? =Xa fr) (t:fr.r≠0):ZA { m with fs:=m.fs.set k { fr with p:=p,u:=u,d:=d } } T:=by
 have f:=(gS.1 c).1;have e:=h.bN fr (mG c);have a:∀z:Int,0<=z->(zQ { m with fs:=m.fs.set k { fr with p:=p,u:=u,d:=d } } z).f=(zQ m z).f/\(zQ { m with fs:=m.fs.set k { fr with p:=p,u:=u,d:=d } } z).x=(zQ m z).x/\(zQ { m with fs:=m.fs.set k { fr with p:=p,u:=u,d:=d } } z).r=(zQ m z).r:=fun z a=>by grind [jX,zT]
 refine⟨by simpa using h.aY,fun g b=>?_,h.aX,h.bI,h.sq,h.aU,h.st,h.cnt,h.bJ,h.bE,h.aQ,h.bA,h.tl,?_,fun q w g v b j a=>?_,fun j g a=>?_,h.cs⟩
 ·rcases Xz b with b|rfl
  ·exact h.bN g b
  obtain⟨i,l,n,s,r⟩:=e;exact⟨i,l,n,fun h=>absurd h t,r⟩
 ·obtain⟨e,e,e⟩:=zn.1 h.ca;refine zn.2 ⟨fun r t=>?_,fun q r r=>(by cases r),e⟩
  grind [q9,zd1,bkN]
 ·rcases h.aZ q w g v b j a with e|e
  ·exact .inl e
  refine .inr ⟨e.1,e.2.1,Z9 e.2.2 rfl Sm fun b=>?_⟩
  obtain⟨i,l,n,s⟩:=qH e b
  grind
 by_cases e:j=k
 ·subst e;simp only at a;rw[sF f]at a;cases a;exact h.cf j fr c
 simp only at a;rw[sN (fun h=>e h.symm)]at a
 exact h.cf j g a
def Q6 (fr:Fr):Fr:=if fr.r=1 then frF else{ fr with r:=fr.r - 1 }
theorem zrh (fr:Fr):(Q6 fr).r=fr.r - 1:=by
 unfold Q6
 split
 ·simp[frF];omega
 rfl
theorem ZA.drop (h:ZA m T) {k p n:Nat} {fr:Fr} {f:Nat->En} (y:m.fs[k]? =Xa fr) (D:T[p]? =Xa f) (X:n<64) (V:(f n).kind=1) (u:(f n).n=(k:Int)):
  ZA { m with fs:=m.fs.set k (Q6 fr) } (T.set p (zcI f n en0)):=by
 have W:=(gS.1 y).1;have d:=(gS.1 D).1;have A:=h.bN fr (mG y);have U:=h.cf k fr y;have G:1<=qZ T 1 k:=by grind [zcf]
 have i:∀kind j:Int,qZ (T.set p (zcI f n en0)) kind j+(isE (f n) kind j).toNat=qZ T kind j+(isE en0 kind j).toNat:=fun kind j=>zbC en0 kind j D X
 have x:fr.r≠1->Q6 fr={ fr with r:=fr.r - 1 }:=fun h=>by unfold Q6;rw[kF h]
 have E:zX m.ca k≠0->fr.r≠1:=fun R S=>Wm
 have F:qZ T 1 k ≥ 2->fr.r≠1:=fun R S=>Wm
 refine⟨by simpa using h.aY,fun g a=>?_,h.aX,h.bI,h.sq,h.aU,h.st,h.cnt,h.bJ,h.bE,h.aQ,h.bA,by simpa using h.tl,?_,?_,fun j g b=>?_,fun j a0 b=>?_⟩
 ·rcases Xz a with a|rfl
  ·exact h.bN g a
  by_cases e:fr.r=1
  ·unfold Q6;rw[kE e];exact⟨Dc,Dc,.inl rfl,fun _=>rfl,fun _=>rfl⟩
  rw[x e];obtain⟨L,B,C,M,N⟩:=A;exact⟨by simp only;omega,B,C,fun h=>by simp only at h;omega,N⟩
 ·obtain⟨a4,a5,H⟩:=zn.1 h.ca;refine zn.2 ⟨fun K a6=>?_,fun q K Y=>(by cases Y),H⟩
  grind [q9,jX,Q6,QP,zT,zd1,bkN]
 ·intro q I g Z a j b
  by_cases l:q=p/\j=n
  ·obtain⟨rfl,rfl⟩:=l;rw[sF d]at a;cases a
   grind [zcI]
  have c:∃s,T[q]? =Xa s/\g j=s j:=by
   by_cases Q:q=p
   ·subst Q;rw[sF d]at a;cases a
    grind [zcI]
   grind
  obtain⟨s,v,w⟩:=c;rw[w]
  rcases h.aZ q I s Z v j b with e|e
  ·exact .inl e
  refine .inr ⟨e.1,e.2.1,Z9 e.2.2 rfl Sm fun z=>?_⟩
  obtain⟨L,B,C,M⟩:=qH e z
  grind [jX,zj2,isE,zT]
 ·simp only at b⊢;have t:=i 1 j;rw[Zy 1 j Dc]at t
  by_cases P:j=k
  ·grind [sF,isE,zrh,Q6,frF]
  rw[sN (fun h=>P h.symm)]at b
  rw[zhl (by rw[u];omega)]at t
  have:=h.cf j g b
  grind
 simp only at b⊢;have t:=i 2 j;rw[Zy 2 j Dc,zjZ (by rw[V];decide)]at t
 have:=h.cs j a0 b
 grind
theorem ZA.dropS (h:ZA m T) {k p n:Nat} {f:Nat->En} (D:m.sl[k]? =Xa z) (u:T[p]? =Xa f) (E:n<64) (v:(f n).kind=2) (b:(f n).n=(k:Int)):
  ZA { m with sl:=m.sl.set k (z - 1) } (T.set p (zcI f n en0)):=by
 have A:=(gS.1 D).1;have d:=(gS.1 u).1;have F:1<=qZ T 2 k:=zam u E (by simp[isE,v,b]) Dc
 have i:∀kind j:Int,qZ (T.set p (zcI f n en0)) kind j+(isE (f n) kind j).toNat=qZ T kind j+(isE en0 kind j).toNat:=fun kind j=>zbC en0 kind j u E
 refine⟨h.aY,h.bN,by simpa using h.aX,by simpa using h.bI,h.sq,h.aU,h.st,h.cnt,h.bJ,h.bE,h.aQ,h.bA,by simpa using h.tl,?_,?_,fun j t a=>?_,fun j S a=>?_⟩
 ·obtain⟨G,U,H⟩:=zn.1 h.ca;exact zn.2 ⟨fun B N=>G B N,fun q B P=>(by cases P),H⟩
 ·intro q R t Q s j a
  by_cases l:q=p/\j=n
  ·obtain⟨rfl,rfl⟩:=l;rw[sF d]at s;cases s
   grind [zcI]
  have c:∃r,T[q]? =Xa r/\t j=r j:=by
   by_cases L:q=p
   ·subst L;rw[sF d]at s;cases s
    grind [zcI]
   grind
  obtain⟨r,w,x⟩:=c;rw[x]
  rcases h.aZ q R r Q w j a with e|e
  ·exact .inl e
  refine .inr ⟨e.1,e.2.1,Z9 e.2.2 Sm rfl fun y=>?_⟩
  obtain⟨V,W,X,K⟩:=qH e y;exact⟨rfl,rfl,K⟩
 ·have g:=i 1 j;rw[Zy 1 j Dc,zjZ (by rw[v];decide)]at g
  have:=h.cf j t a
  grind
 simp only at a⊢;have g:=i 2 j;rw[Zy 2 j Dc]at g
 by_cases C:j=k
 ·subst C;rw[sF A]at a;cases a;have M:isE (f n) 2 (j:Int)=Xc:=by simp[isE,v,b]
  rw[M]at g;have:=h.cs j z D
  grind
 rw[sN (fun h=>C h.symm)]at a
 rw[zhl (by rw[b];omega)]at g
 have:=h.cs j S a
 grind
end
section
variable{m:Ma} {T:List (Nat->En)}
theorem ZA.more (h:ZA m T) {s':Sp} (a:m.sp.length<4) (e:(wrL s'.aD).1=0) (b:s'.aH=Xd->s'.aD=[]):ZA { m with sp:=m.sp++ [s'] } (T++ [fun _=>en0]):=by
 refine⟨h.aY,h.bN,h.aX,h.bI,h.sq,h.aU,h.st,h.cnt,h.bJ,h.bE,by simp;omega,fun s a=>?_,by simpa using h.tl,?_,fun p s f a c n j=>?_,fun k f d=>?_,fun k z d=>?_⟩
 ·rcases Yn.1 a with a|a
  ·exact h.bA s a
  rw[Uu]at a;subst a;exact⟨e,b⟩
 ·obtain⟨e,b,g⟩:=zn.1 h.ca;exact zn.2 ⟨fun b i=>e b i,fun q b b=>(by cases b),g⟩
 ·by_cases e:p<m.sp.length
  ·rw[Yw e]at a;rw[Yw (by rw[h.tl];exact e)]at c
   exact h.aZ p s f a c n j
  have b:p<m.sp.length+1:=by
   have:=(gS.1 a).1
   simpa using this
  have:p=T.length:=by rw[h.tl];omega
  subst this;rw[aR (nR _),Nat.sub_self]at c;cases c;exact .inl rfl
 ·rw[zhr _ _ _ Dc]
  exact h.cf k f d
 rw[zhr _ _ _ Dc]
 exact h.cs k z d
end
theorem zas {m:Ma} {k:Nat} {fr:Fr} (d:k<m.fs.length) (a:zcl m Xb m.ca=0) (b:zX m.ca k≠0->fr.p=(zQ m k).p) (file idx:Int):zN { m with fs:=m.fs.set k fr } file idx=zN m file idx:=by
 obtain⟨b,_,_⟩:=zn.1 a;refine zhO (m:=m) (m':={ m with fs:=m.fs.set k fr }) rfl rfl rfl rfl (fun c a=>?_) file idx
 rw[jX d c.fr (q9 (b c a)).1.2.2.2.2.1]
 grind [QP]
theorem zgJ {m:Ma} {k:Nat} {fr:Fr} {x:On} {e:En} (c:k<m.fs.length) (a:zcl m Xb m.ca=0) (b:zX m.ca k≠0->fr.p=(zQ m k).p) (d:e.kind=1->0<=e.n) (f:e.kind=1->e.n=(k:Int)->fr.p=(zQ m k).p/\(fr.f<0↔(zQ m k).f<0)):Qr { m with fs:=m.fs.set k fr } x e=Qr m x e:=by
 refine zcU rfl rfl (fun d=>?_) (fun _=>rfl) (fun _=>rfl) (zas c a b)
 grind [jX]
section
variable{m:Ma} {T:List (Nat->En)}
theorem zmI (h:ZA m T) {k p n:Nat} {fr:Fr} {f:Nat->En} (b:m.fs[k]? =Xa fr) (w:T[p]? =Xa f) (y:n<64) (x:(f n).kind=1) (e:(f n).n=(k:Int)) {q:Nat} {s:Sp} {g:Nat->En} (i:T[q]? =Xa g) (t:j<64) (u:q≠p\/j≠n):Qr { m with fs:=m.fs.set k (Q6 fr) } (zJ s.aD j) (g j)=Qr m (zJ s.aD j) (g j):=by
 have d:=h.cf k fr b;have c:1<=qZ T 1 k:=by grind [zcf]
 have l:fr.r≠1->Q6 fr={ fr with r:=fr.r - 1 }:=fun h=>by unfold Q6;rw[kF h]
 refine zgJ (gS.1 b).1 h.ca (fun a=>?_) (fun a=>?_) (fun a v=>?_)
 ·grind [zT]
 ·have:=(Zc (h.en i t)).2.1;omega
 grind [zj2,isE,zT]
theorem zfc (h:ZA m T) {k p n:Nat} {fr:Fr} {f:Nat->En} (a:m.fs[k]? =Xa fr) (g:T[p]? =Xa f) (j:n<64) (i:(f n).kind=1) (d:(f n).n=(k:Int)) (file idx:Int):zN { m with fs:=m.fs.set k (Q6 fr) } file idx=zN m file idx:=by
 have c:=h.cf k fr a;have b:1<=qZ T 1 k:=by grind [zcf]
 refine zas (gS.1 a).1 h.ca (fun e=>?_) file idx
 grind [Q6,zT]
end
structure Rt (m:Ma):Prop where
 w:maW m=0
 t8:∀s∈m.sp,s.tb.length=8
theorem Rt.inv {m:Ma} (h:Rt m):ZA m (jd m):=(zbl h.w).1
theorem Rt.aB {m:Ma} (h:Rt m):0<=m.aB/\m.aB<max (m.fs.length:Int) 1:=(zbl h.w).2
theorem Rt.tb {m:Ma} (h:Rt m) {s:Sp} (c:s∈m.sp):Qy s.tb:=by
 refine⟨h.t8 s c,Qj.1 ?_⟩;have a:=h.w;unfold maW at a;rw[zr]at a;have b:zaR m=0:=a _ Sm
 unfold zaR at b;rw[zr]at b;have a:=zr.1 (b (zC (m.sp.map spE)) Sm) (spE s) (Xy.2 ⟨s,c,rfl⟩)
 grind [spE]
theorem Rt.of {m:Ma} (c:ZA m (jd m)) (e:∀s∈m.sp,Qy s.tb) (a:0<=m.aB) (b:m.aB<max (m.fs.length:Int) 1):Rt m:=by
 refine⟨?_,fun s d=>(e s d).1⟩
 have:=c.right a b
 grind [zkb]
theorem jj {m:Ma} {p:Nat} {s:Sp} (h:m.sp[p]? =Xa s):(jd m)[p]? =Xa (zh s):=by
 unfold jd;rw[Xw,h];rfl
theorem ZA.tabs {m:Ma} {T:List (Nat->En)} (h:ZA m T) {sp':List Sp} (c:sp'.length=m.sp.length) (a:∀(p:Nat) s s',m.sp[p]? =Xa s->sp'[p]? =Xa s'->s'.aH=s.aH/\s'.aD=s.aD):ZA { m with sp:=sp' } T:=by
 have a:∀(p:Nat) s',sp'[p]? =Xa s'->∃s,m.sp[p]? =Xa s/\s'.aH=s.aH/\s'.aD=s.aD:=fun p s' b=>by grind
 refine⟨h.aY,h.bN,h.aX,h.bI,h.sq,h.aU,h.st,h.cnt,h.bJ,h.bE,by show sp'.length<=4;rw[c];exact h.aQ,fun s' b=>?_,h.tl.trans c.symm,?_,fun p s' j b k q n=>?_,h.cf,h.cs⟩
 ·obtain⟨p,e⟩:=Xv b;obtain⟨s,c,f,d⟩:=a p s' e;rw[f,d];exact h.bA s (mG c)
 ·obtain⟨g,e,i⟩:=zn.1 h.ca;exact zn.2 ⟨fun e l=>g e l,fun g e e=>(by cases e),i⟩
 obtain⟨s,c,f,d⟩:=a p s' b;rw[d];exact h.aZ p s j c k q n
def zaF (m:Ma) (p n:Nat) (e:En):Ma:={ m with sp:=m.sp.modify p fun s=>{ s with tb:=zjC s.tb n e } }
theorem zeL {m:Ma} {p n:Nat} {e:En} {q:Nat}:(zaF m p n e).sp[q]? =(m.sp[q]?).map fun s=>if p=q then{ s with tb:=zjC s.tb n e }else s:=by
 unfold zaF;simp only[List.getElem?_modify]
 by_cases h:p=q
 ·simp[h]
 simp[h]
theorem zcW {s:Sp} (c:Qy s.tb) {n:Nat} (b:n<64) {e:En} (a:enW e=0):zh { s with tb:=zjC s.tb n e }=zcI (zh s) n e:=by grind [zh,zcI,zpP,Nat.mod_lt]
theorem znH {m:Ma} {p n:Nat} {e:En} {s:Sp} (b:m.sp[p]? =Xa s) (f:Qy s.tb) (d:n<64) (c:enW e=0):jd (zaF m p n e)=(jd m).set p (zcI (zh s) n e):=by
 apply Yf
 intro q;have a:=(gS.1 b).1;unfold jd;rw[Xw,zeL,Ow,List.length_map]
 by_cases h:p=q
 ·subst h;rw[b,kE rfl,kE a];simp only[Option.map_some,kE,zcW f d c]
 grind
theorem zbZ {m:Ma} {p n:Nat} {e:En}:(zaF m p n e).sp.length=m.sp.length:=by simp[zaF]
theorem zdj {m:Ma} {p n:Nat} {e:En} {q:Nat} {s s':Sp} (b:m.sp[q]? =Xa s) (a:(zaF m p n e).sp[q]? =Xa s'):s'.aH=s.aH/\s'.aD=s.aD:=by
 rw[zeL,b]at a;simp only[Option.map_some,Option.some.injEq]at a;subst a
 split <;> exact⟨rfl,rfl⟩
theorem zcV {m:Ma} (f:∀s∈m.sp,Qy s.tb) {p n:Nat} {e:En} (c:enW e=0):∀s∈(zaF m p n e).sp,Qy s.tb:=fun s d=>by
 obtain⟨q,a⟩:=Xv d;rw[zeL]at a
 cases h:m.sp[q]? with
 | none=>rw[h]at a;cases a
 | some x=>
  rw[h]at a;simp only[Option.map_some,Option.some.injEq]at a;have b:=f x (mG h);subst a
  split
  ·exact zqY b c
  exact b
theorem zmS {m:Ma} {p n:Nat} {e:En} {s:Sp} (c:m.sp[p]? =Xa s) (d:∀s∈m.sp,Qy s.tb) (i:n<64) (b:enW e=0) (h:ZA m ((jd m).set p (zcI (zh s) n e))) (a:0<=m.aB/\m.aB<max (m.fs.length:Int) 1):Rt (zaF m p n e):=by
 refine Rt.of ?_ (zcV d b) a.1 a.2;rw[znH c (d s (mG c)) i b];exact h.tabs zbZ fun q s j f g=>zdj f g
structure Sam (S:Nat->Nat->Prop) (m m':Ma):Prop where
 aQ:m'.sp.length=m.sp.length
 sp:∀(q:Nat) s s',m.sp[q]? =Xa s->m'.sp[q]? =Xa s'->s'.aH=s.aH/\s'.aD=s.aD
 see:∀(q n:Nat) s s',m.sp[q]? =Xa s->m'.sp[q]? =Xa s'->n<64->¬S q n->Qr m' (zJ s.aD n) (zh s' n)=Qr m (zJ s.aD n) (zh s n)
 fll:m'.fl.length=m.fl.length
 sz:∀f,qW m' f=qW m f
 bk:∀f,bkN m' f=bkN m f
 bX:∀(file k:Nat),(k:Int)<qW m (file:Int)->(zN m' (file:Int) ((k / 8:Nat):Int)).getD (k % 8) 0=(zN m (file:Int) ((k / 8:Nat):Int)).getD (k % 8) 0
theorem Sam.refl (S:Nat->Nat->Prop) (m):Sam S m m:=⟨rfl,fun q s b h a=>by rw[h]at a;cases a;exact⟨rfl,rfl⟩,fun q n s b h a _ _=>by rw[h]at a;cases a;rfl,rfl,fun _=>rfl,fun _=>rfl,fun _ _ _=>rfl⟩
theorem Sam.trans {S d:Nat->Nat->Prop} {a b c:Ma} (h:Sam S a b) (k:Sam d b c):Sam (fun q n=>S q n\/d q n) a c:=by
 have g:∀(q:Nat) s,a.sp[q]? =Xa s->∃t,b.sp[q]? =Xa t:=fun q s e=>⟨_,gE (by rw[h.aQ];exact(gS.1 e).1)⟩
 refine⟨k.aQ.trans h.aQ,fun q s j e f=>?_,fun q n s j e f p m=>?_,k.fll.trans h.fll,fun d=>(k.sz d).trans (h.sz d),fun d=>(k.bk d).trans (h.bk d),fun d l i=>(k.bX d l (by rw[h.sz];exact i)).trans (h.bX d l i)⟩
 ·obtain⟨t,d⟩:=g q s e;have l:=h.sp q s t e d;have i:=k.sp q t j d f
  grind
 obtain⟨t,d⟩:=g q s e;have l:=h.sp q s t e d;have i:=k.see q n t j d f p (fun f=>m (.inr f))
 rw[l.2]at i;exact i.trans (h.see q n s t e d p (fun f=>m (.inl f)))
theorem Sam.mono {S c:Nat->Nat->Prop} {a b:Ma} (h:Sam S a b) (hS:∀q n,S q n->c q n):Sam c a b:=⟨h.aQ,h.sp,fun q n s g f d e c=>h.see q n s g f d e (fun e=>c (hS q n e)),h.fll,h.sz,h.bk,h.bX⟩
theorem Sam.put {m m1:Ma} {p n:Nat} {e:En} (c:m1.sp=m.sp) (b:m1.fl=m.fl) (u:∀s∈m.sp,Qy s.tb) (t:n<64) (r:enW e=0) (h:∀(q j:Nat) s,m.sp[q]? =Xa s->j<64->(q≠p\/j≠n)->Qr m1 (zJ s.aD j) (zh s j)=Qr m (zJ s.aD j) (zh s j)) (l:∀file idx,zN m1 file idx=zN m file idx):Sam (fun q j=>q=p/\j=n) m (zaF m1 p n e):=by
 refine⟨by rw[zbZ,c],fun q s i d a=>zdj (Rx c d) a,fun q j s i d a w v=>?_,by show m1.fl.length=_;rw[b],fun f=>by show qW m1 f=_;unfold qW;rw[b],fun f=>by show bkN m1 f=_;unfold bkN;rw[b],fun file x _=>?_⟩
 ·rw[zeL,c,d]at a;simp only[Option.map_some,Option.some.injEq]at a;have g:zh i j=zh s j:=by
   subst a
   split
   ·rename_i k
    subst k;rw[zcW (u s (mG d)) t r]
    grind [zcI]
   rfl
  rw[g]
  show Qr m1 _ _=_
  grind
 show(zN m1 _ _).getD _ _=_
 rw[l]
def Jp (m:Ma) (p n:Nat):Ma:=
 let e:=zh (m.sp.getD p ⟨Xd,[],[]⟩) n
 if e.kind=1 then zaF { m with fs:=m.fs.set e.n.toNat (Q6 (zQ m e.n)) } p n en0
 else if e.kind=2 then zaF { m with sl:=m.sl.set e.n.toNat (m.sl.getD e.n.toNat 0 - 1) } p n en0
 else zaF m p n en0
section
variable{m:Ma} {p n:Nat} {s:Sp}
theorem Rt.aZ (h:Rt m) (a:m.sp[p]? =Xa s) (b:n<64):zh s n=en0\/zoI m (zJ s.aD n) (zh s n):=h.inv.aZ p s _ a (jj a) n b
theorem Rt.aV (h:Rt m) (c:m.sp[p]? =Xa s) (b:n<64) (a:(zh s n).kind=1):∃(k:Nat) (fr:Fr),(zh s n).n=(k:Int)/\m.fs[k]? =Xa fr/\zQ m (zh s n).n=fr/\fr.r≠0:=by
 rcases h.aZ c b with e|e
 ·rw[e]at a;cases a
 obtain⟨d,d,d,_⟩:=qH e Wm
 refine⟨(zh s n).n.toNat,m.fs[(zh s n).n.toNat]' Wm,Wm,gE _,?_,fun d=>?_⟩
 ·have:=zT (m:=m) (k:=(zh s n).n.toNat) (gE Wm)
  grind
 have e:=(h.inv.free (gE (show(zh s n).n.toNat<m.fs.length by omega)) d).1
 have d:=zcf (jj c) b a
 grind
theorem Rt.cA (h:Rt m) (f:m.sp[p]? =Xa s) (d:n<64) (b:(zh s n).kind=2):∃(k:Nat) (z:Int),(zh s n).n=(k:Int)/\m.sl[k]? =Xa z/\m.sl.getD (zh s n).n.toNat 0=z/\0<z/\(zJ s.aD n).is=Xc/\(zJ s.aD n).sh=Xd/\k<m.sb.length:=by
 rcases h.aZ f d with e|e
 ·rw[e]at b;cases b
 obtain⟨g,q,a⟩:=e;unfold zgl at a
 split at a
 ·cases a
 rename_i i
 split at a
 ·cases a
 rename_i r
 have l:=(Zc g).2.1.1;have j:(zh s n).n< (m.sl.length:Int):=by grind
 have c:(zh s n).n.toNat<m.sl.length:=Wm
 refine⟨(zh s n).n.toNat,m.sl[(zh s n).n.toNat],Wm,gE c,?_,?_,?_,?_,?_⟩
 ·grind
 ·rw[h.inv.cs _ _ (gE c)];have:=zam (jj f) d (kind:=2) (k:=(((zh s n).n.toNat:Nat):Int)) (by simp[isE,b];omega) Dc
  omega
 ·grind
 ·grind
 have:=h.inv.bI;omega
theorem zrI (h:Rt m) (b:m.sp[p]? =Xa s) (a:n<64):Rt (Jp m p n)/\Sam (fun q u=>q=p/\u=n) m (Jp m p n):=by
 have C:m.sp.getD p ⟨Xd,[],[]⟩=s:=by rw[gD,b];rfl
 have j:∀s∈m.sp,Qy s.tb:=fun s b=>h.tb b
 unfold Jp;simp only[C]
 by_cases i:(zh s n).kind=1
 ·rw[kE i];obtain⟨l,y,d,k,v,B⟩:=h.aV b a i;rw[v,d,tN];have w:=h.inv.drop k (jj b) a i d;refine⟨zmS (m:={ m with fs:=m.fs.set l (Q6 y) }) b j a Qg w (Si h.aB),Sam.put (m1:={ m with fs:=m.fs.set l (Q6 y) }) rfl rfl j a Qg (fun q u z f x e=>zmI h.inv k (jj b) a i d (jj f) x e) (fun c g=>zfc h.inv k (jj b) a i d c g)⟩
 rw[kF i]
 by_cases t:(zh s n).kind=2
 ·rw[kE t];obtain⟨l,A,d,k,v,B,E,F,G⟩:=h.cA b a t;rw[v,d,tN];have w:=h.inv.dropS k (jj b) a t d;exact⟨zmS (m:={ m with sl:=m.sl.set l (A - 1) }) b j a Qg w h.aB,Sam.put (m1:={ m with sl:=m.sl.set l (A - 1) }) rfl rfl j a Qg (fun q u z f x e=>rfl) (fun c g=>rfl)⟩
 rw[kF t];have D:zh s n=en0:=by
  rcases h.aZ b a with r|r
  ·exact r
  have:=(Zc r.1).1;have:=r.2.1;omega
 refine⟨zmS b j a Qg ?_ h.aB,Sam.put rfl rfl j a Qg (fun q u z f x e=>rfl) (fun c g=>rfl)⟩
 have:zcI (zh s) n en0=zh s:=by grind [zcI]
 rw[this];have:(jd m).set p (zh s)=jd m:=by
  apply Yf
  intro q;rw[Ow]
  split
  ·grind [gS.1,jj]
  rfl
 rw[this];exact h.inv
end
def za1 (m:Ma) (k p n:Nat):Ma:=zaF { m with fs:=m.fs.set k { zQ m (k:Int)with r:=(zQ m (k:Int)).r+1 } } p n ⟨1,(k:Int),Xd⟩
section
variable{m:Ma} {k p n:Nat} {fr:Fr} {s:Sp}
theorem Rt.kind0 (h:Rt m) (c:m.sp[p]? =Xa s) (b:n<64) (a:(zh s n).kind=1):0<=(zh s n).n:=by
 obtain⟨k,_,e,_⟩:=h.aV c b a;omega
theorem zmT {m1:Ma} {e:En} (f:∀s∈m1.sp,Qy s.tb) (b:m1.sp[p]? =Xa s) (d:n<64) (c:enW e=0) {s':Sp} (a:(zaF m1 p n e).sp[p]? =Xa s'):zh s' n=e/\s'.aD=s.aD:=by
 rw[zeL,b]at a;simp only[Option.map_some,Option.some.injEq,if_true]at a;subst a;rw[zcW (f s (mG b)) d c]
 grind [zcI]
end
theorem zgR {m1:Ma} {e:En} {p n q:Nat} {s s':Sp} (g:∀s∈m1.sp,Qy s.tb) (d:n<64) (c:enW e=0) (b:m1.sp[q]? =Xa s) (a:(zaF m1 p n e).sp[q]? =Xa s') (f:¬(q=p/\j=n)):zh s' j=zh s j:=by
 rw[zeL,b]at a;simp only[Option.map_some,Option.some.injEq]at a;subst a
 split
 ·rename_i h
  subst h;rw[zcW (g s (mG b)) d c]
  grind [zcI]
 rfl
def zG (m:Ma) (k:Nat):List (Nat × Nat)->Ma
 | []=>m
 | x :: l=>zG (za1 m k x.1 x.2) k l
section
variable{k:Nat}
theorem zrj {m:Ma} {fr:Fr} (a:m.fs[k]? =Xa fr) (p n:Nat):(za1 m k p n).fs[k]? =Xa { fr with r:=fr.r+1 }:=by
 show(m.fs.set k _)[k]? =_
 grind [sF,gS.1,zT]
def zqU (k:Nat) (l:List (Nat × Nat)) (sp:List Sp):List Sp:=l.foldl (fun sp x=>sp.modify x.1 fun s=>{ s with tb:=zjC s.tb x.2 ⟨1,(k:Int),Xd⟩ }) sp
theorem zeW:∀(l:List (Nat × Nat)) {m:Ma} {fr:Fr},m.fs[k]? =Xa fr->zG m k l={ m with fs:=m.fs.set k { fr with r:=fr.r+(l.length:Int) },sp:=zqU k l m.sp }
 | [],m,fr,hk=>by
  have:m.fs.set k { fr with r:=fr.r+(([]:List (Nat × Nat)).length:Int) }=m.fs:=by
   apply Yf
   intro q;rw[Ow]
   split
   ·rename_i hq
    subst hq;rw[if_pos (gS.1 hk).1,hk];simp
   rfl
  rw[this];rfl
 | x :: l,m,fr,hk=>by
  show zG (za1 m k x.1 x.2) k l=_
  rw[zeW l (zrj hk x.1 x.2)];have e1:(za1 m k x.1 x.2).fs=m.fs.set k { fr with r:=fr.r+1 }:=by
   show m.fs.set k _=_
   rw[zT hk]
  have e2:fr.r+1+(l.length:Int)=fr.r+((x :: l).length:Int):=by simp only[Yi];omega
  rw[e1,List.set_set];simp only[e2];rfl
def zqb (m:Ma) (k:Nat) (pg:Pg) (u:Bool) (l:List (Nat × Nat)):Ma:={ m with fs:=m.fs.set k ⟨pg,(l.length:Int),u,Xd,-1,0⟩,sp:=zqU k l m.sp }
theorem zqa {m:Ma} {fr:Fr} (a:m.fs[k]? =Xa fr) (pg:Pg) (u:Bool) (l:List (Nat × Nat)):
  zG { m with fs:=m.fs.set k ⟨pg,1,u,Xd,-1,0⟩ } k l={ m with fs:=m.fs.set k ⟨pg,1+(l.length:Int),u,Xd,-1,0⟩,sp:=zqU k l m.sp }:=by
 rw[zeW l (fr:=⟨pg,1,u,Xd,-1,0⟩) (by show(m.fs.set k _)[k]? =_;rw[sF (gS.1 a).1])]
 simp only[List.set_set]
end
section
variable{m:Ma} {k p n:Nat} {fr:Fr} {s:Sp}
def J6 (m:Ma) (k:Nat) (pg:Pg) (u d:Bool) (file idx:Int):Ma:={ m with fs:=m.fs.set k ⟨pg,1,u,d,file,idx⟩,ca:=ZN m.ca ⟨file,idx,k⟩ }
theorem zoj (h:Rt m) (b:m.fs[k]? =Xa fr) (j:fr.r=0) {pg:Pg} {u d:Bool} {file idx:Int} (x:0<=file/\file<m.fl.length) (hi:0<=idx/\idx<bkN m file) (r:∀c∈m.ca,¬(c.file=file/\c.idx=idx)) (hp:pgL pg=zN m file idx):
  Rt (J6 m k pg u d file idx)/\Sam (fun _ _=>False) m (J6 m k pg u d file idx):=by
 have y:=(gS.1 b).1;have w:=zlV h.inv (u:=u) (d:=d) b j r hp;refine⟨Rt.of (h.inv.cache (p:=pg) (u:=u) (d:=d) b j x hi r) (fun s B=>h.tb B) h.aB.1 (by simpa [J6]using h.aB.2),rfl,fun q s l a f=>?_,fun q C s l a f n _=>?_,rfl,fun _=>rfl,fun _=>rfl,fun e D _=>?_⟩
 ·have:m.sp[q]? =Xa l:=f
  grind
 ·have:m.sp[q]? =Xa l:=f;rw[a]at this;cases this;have g:=h.inv.en (jj a) n;have z:=(Zc g).2.1.1;refine zcU rfl rfl (fun i=>?_) (fun _=>rfl) (fun _=>rfl) w
  have A:(zh s C).n≠(k:Int):=fun t=>by
   have v:=zcf (jj a) n i;rw[t]at v;have:=(h.inv.free b j).1;omega
  grind [jX,zh,zQ,J6]
 grind [zN,J6]
theorem zjU (h:Rt m) (c:m.fs[k]? =Xa fr) (f:fr.r≠0) (u d:Bool):Rt { m with fs:=m.fs.set k { fr with u:=u,d:=d } }/\Sam (fun _ _=>False) m { m with fs:=m.fs.set k { fr with u:=u,d:=d } }:=by
 have e:=(gS.1 c).1;have i:∀a b,zN { m with fs:=m.fs.set k { fr with u:=u,d:=d } } a b=zN m a b:=fun a b=>zas e h.inv.ca (fun _=>by rw[zT c]) a b
 refine⟨Rt.of (h.inv.marks (p:=fr.p) (u:=u) (d:=d) c f) (fun s b=>h.tb b) h.aB.1 (Si h.aB.2),rfl,fun q s g b f=>?_,fun q j s g b f j _=>?_,rfl,fun _=>rfl,fun _=>rfl,fun a a _=>by rw[i]⟩
 ·grind
 have:m.sp[q]? =Xa g:=f;rw[b]at this;cases this;refine zgJ e h.inv.ca (fun _=>by rw[zT c]) (h.kind0 b j) (fun _ _=>by rw[zT c];exact⟨rfl,Iff.rfl⟩)
end
def QG (k:Int) (e:En) (f:Nat->En):Nat->En:=fun j=>if isE (f j) 1 k=Xc then e else f j
theorem zkh (k:Int) (e) (f:Nat->En) (kind j:Int):∀n:Nat,ZP (QG k e f) kind j n+(if kind=1/\j=k then ZP f 1 k n else 0)=ZP f kind j n+(if isE e kind j=Xc then ZP f 1 k n else 0)
 | 0=>by simp[ZP]
 | n+1=>by
  have b:=zkh k e f kind j n;unfold ZP;have a:QG k e f n=if isE (f n) 1 k=Xc then e else f n:=rfl;rw[a]
  cases d:isE (f n) 1 k with
  | true=>
   simp only[if_true];have g:isE (f n) kind j=Xc↔kind=1/\j=k:=by
    simp only[isE,Xt,decide_eq_true_eq]at d⊢;omega
   by_cases a:kind=1/\j=k
   ·rw[kE a]at b⊢;rw[g.2 a]
    cases c:isE e kind j <;> simp[c]at b⊢<;> omega
   rw[kF a]at b⊢;have:isE (f n) kind j=Xd:=by
    cases h:isE (f n) kind j with
    | false=>rfl
    | true=>exact absurd (g.1 h) a
   rw[this]
   cases c:isE e kind j <;> simp[c]at b⊢<;> omega
  | false=>
   simp only[if_false,Ym]
   by_cases a:kind=1/\j=k
   ·rw[kE a]at b⊢;rw[a.1,a.2,d];rw[a.1,a.2]at b
    simp at b⊢
    omega
   rw[kF a]at b⊢
   simp at b⊢
   omega
theorem zdD (k:Int) (e) (kind j:Int):∀T:List (Nat->En),qZ (T.map (QG k e)) kind j+(if kind=1/\j=k then qZ T 1 k else 0)=qZ T kind j+(if isE e kind j=Xc then qZ T 1 k else 0)
 | []=>by simp[qZ]
 | f :: T=>by
  have a:=zdD k e kind j T;have b:=zkh k e f kind j 64;simp only[qZ,mP,Og]at a⊢
  by_cases d:kind=1/\j=k
  ·rw[kE d]at a b⊢
   by_cases c:isE e kind j=Xc
   ·rw[kE c]at a b⊢;omega
   rw[kF c]at a b⊢;omega
  rw[kF d]at a b⊢
  by_cases c:isE e kind j=Xc
  ·rw[kE c]at a b⊢;omega
  rw[kF c]at a b⊢;omega
section
variable{m:Ma} {T:List (Nat->En)}
theorem ZA.moved (h:ZA m T) {k:Nat} {fr:Fr} (b:m.fs[k]? =Xa fr) (e:En) (w:e.kind≠1) {sl':List Int} {sb':List (List Int)} {sq':List (Int × List Int)} (q:sl'.length=m.sl.length) (r:sb'.length=m.sb.length) (u:zB sb'.length sq'=0)
  (a:∀(j:Nat) z,sl'[j]? =Xa z->z=(qZ T 2 j+(if isE e 2 (j:Int)=Xc then qZ T 1 k else 0):Nat)) (v:e=en0\/(enW e=0/\e.kind=2/\e.n<m.sl.length/\fr.f=-1)):
  ZA { m with fs:=m.fs.set k frF,ca:=m.ca.filter fun d=>!decide (d.fr=(k:Int)),sl:=sl',sb:=sb',sq:=sq' } (T.map (QG (k:Int) e)):=by
 have a:=(gS.1 b).1;have c:∀j:Int,j≠(k:Int)->zX (m.ca.filter fun d=>!decide (d.fr=(k:Int))) j=zX m.ca j:=fun j f=>by grind [zX,List.countP_filter]
 have a:zX (m.ca.filter fun d=>!decide (d.fr=(k:Int))) (k:Int)=0:=by
  unfold zX;rw[Yx];intro d t;rw[Xu]at t
  simpa using t.2
 obtain⟨i,a⟩:∃i:Ma,{ m with fs:=m.fs.set k frF,ca:=m.ca.filter fun d=>!decide (d.fr=(k:Int)),sl:=sl',sb:=sb',sq:=sq' }=i:=⟨_,rfl⟩
 have p:∀z:Int,0<=z->z≠(k:Int)->zQ i z=zQ m z:=fun z b g=>by grind [zQ,frF,jX]
 have n:i.sl.length=m.sl.length:=Ry a q
 have l:i.fs.length=m.fs.length:=by rw[<-a];simp
 rw[a];refine⟨Rx l h.aY,fun s b=>?_,Rx n h.aX,by rw[<-a];show sb'.length=sl'.length;rw[r,q];exact h.bI,Ry a u,Ry a h.aU,Ry a h.st,Ry a h.cnt,Ry a h.bJ,Ry a h.bE,Ry a h.aQ,Ry a h.bA,by rw[<-a];simpa using h.tl,?_,fun r x s y b j f=>?_,fun j s f=>?_,fun j z f=>?_⟩
 ·rw[<-a]at b
  rcases Xz b with b|rfl
  ·exact h.bN s b
  exact⟨Dc,Dc,.inl rfl,fun _=>rfl,fun _=>rfl⟩
 ·obtain⟨u,q,A⟩:=zn.1 h.ca;have q:i.ca=m.ca.filter fun d=>!decide (d.fr=(k:Int)):=by rw[<-a]
  rw[q];refine zn.2 ⟨fun d t=>?_,fun r d i=>(by cases i),A.filter _⟩
  have i:=Xu.1 t;have g:d.fr≠(k:Int):=Si i.2
  obtain⟨q,t,A,B⟩:=q9 (u d i.1);have i:=p d.fr q.2.2.2.2.1 g;refine zd1 ?_ (Rx i t) (Rx i A) (Rx i B)
  rw[<-a]
  simpa [bkN]using q
 ·rw[Xw]at b
  cases u:T[r]? with
  | none=>rw[u]at b;cases b
  | some t=>
   rw[u]at b;simp only[Option.map_some,Option.some.injEq]at b;subst b;have q:m.sp[r]? =Xa x:=by rw[<-a]at y;exact y
   unfold QG
   by_cases b:isE (t j) 1 (k:Int)=Xc
   ·rw[kE b]
    rcases v with v|⟨i,v,v,v⟩
    ·grind
    right;refine⟨i,Wm,?_⟩
    simp only[isE,Xt,decide_eq_true_eq]at b
    rcases h.aZ r x t q u j f with i|i
    ·grind [en0]
    have v:=i.2.2;unfold zgl at v⊢
    split at v
    ·cases v
    grind [qH,zT]
   rw[kF b]
   rcases h.aZ r x t q u j f with i|i
   ·grind
   refine .inr ⟨i.1,i.2.1,Z9 i.2.2 n l fun l=>?_⟩
   obtain⟨n,q,r,r⟩:=qH i l;have g:(t j).n≠(k:Int):=fun i=>b (by simp[isE,n,i])
   rw[p _ q g];exact⟨rfl,rfl,r⟩
 ·rw[<-a]at f⊢;simp only at f⊢;have a:=zdD (k:Int) e 1 (j:Int) T;rw[kF (show¬isE e 1 (j:Int)=Xc by simp[isE,w])]at a
  by_cases b:j=k
  ·grind [sF,frF]
  rw[sN (fun h=>b h.symm)]at f
  rw[kF Wm]at a
  rw[c j Wm]
  have:=h.cf j s f;refine⟨?_,this.2⟩;omega
 grind [zdD]
theorem zi2 {m:Ma} {k:Nat} (h:zX m.ca (k:Int)=0):(m.ca.filter fun d=>!decide (d.fr=(k:Int)))=m.ca:=by grind [Yy,zX,Yx]
theorem ZA.mine0 (h:ZA m T) {k:Nat} {fr:Fr} (b:m.fs[k]? =Xa fr) (a:fr.f=-1):zX m.ca (k:Int)=0:=by
 refine Classical.byContradiction fun b=>?_
 obtain⟨c,a,d⟩:=zck b;obtain⟨b,b,b,b⟩:=q9 ((zn.1 h.ca).1 c a)
 grind [zT]
end
def j7 (k:Int) (e:En) (s:Sp):Sp:={ s with tb:=Z2 (QG k e (zh s)) }
theorem zbs {m:Ma} (h:Rt m) {s:Sp} (a:s∈m.sp) {k:Int} {e:En} (b:enW e=0):zh (j7 k e s)=QG k e (zh s):=by
 have c:∀n,enW (QG k e (zh s) n)=0:=fun n=>by
  unfold QG
  split
  ·exact b
  exact(h.tb a).get _ _
 funext j
 by_cases b:j<64
 ·grind [j7,zh,zfu]
 have b:zh s j=en0:=by
  unfold zh zcZ;rw[gN (l:=s.tb) (by rw[(h.tb a).1];omega)]
  rfl
 have a:zh (j7 k e s) j=en0:=by grind [zh,zcZ,j7,gN,Z2,QG,Qq]
 grind [QG,Zy]
section
variable{m:Ma}
theorem zds (h:Rt m) {k:Int} {e:En} (b:enW e=0):∀s∈m.sp.map (j7 k e),Qy s.tb:=fun s c=>by
 obtain⟨d,a,rfl⟩:=Xy.1 c;have c:∀n,n<64->enW (QG k e (zh d) n)=0:=fun n _=>by
  unfold QG
  split
  ·exact b
  exact(h.tb a).get _ _
 exact⟨by simp[j7,Z2,Qq],Qj.1 (zjB c)⟩
theorem JO {k:Int} {e:En} {q:Nat} {s':Sp} (h:(m.sp.map (j7 k e))[q]? =Xa s'):∃s,m.sp[q]? =Xa s/\s'=j7 k e s:=by grind
theorem zch (h:Rt m) {k:Int} {e:En} (b:enW e=0) (sp':List Sp) (a:sp'=m.sp.map (j7 k e)):sp'.map zh=(jd m).map (QG k e):=by grind [jd,List.map_map,Up,zbs]
theorem ze4 {α:Type} {p q:α->Bool}:∀{l:List α},(∀x∈l,p x=q x)->l.find? p=l.find? q
 | [],_=>rfl
 | x :: l,h=>by
  rw[Uf,Uf,h x Sm,ze4 (l:=l) fun y a=>h y (by simp[a])]
theorem zf2 {m m':Ma} {k:Nat} {fr:Fr} (_hk:k<m.fs.length) (a:m'.fs=m.fs.set k fr) (c:0<=z) (b:z≠(k:Int)):zQ m' z=zQ m z:=by
 unfold zQ;rw[a,gD,gD,sN Wm]
def ZR (m:Ma) (k j:Nat) (r:Int) (sb':List (List Int)) (sq':List (Int × List Int)):Ma:={ m with fs:=m.fs.set k frF,sl:=m.sl.set j r,sb:=sb',sq:=sq',sp:=m.sp.map (j7 (k:Int) ⟨2,(j:Int),Xd⟩) }
theorem zqW (h:Rt m) {k:Nat} {fr:Fr} {sb':List (List Int)} {sq':List (Int × List Int)} (q:m.fs[k]? =Xa fr) (t:fr.f=-1) (_hr:fr.r≠0) (u:m.sl[j]? =Xa 0) (a:sb'.length=m.sb.length) (c:zB sb'.length sq'=0) (w:zS sb' sq' (j:Int)=pgL fr.p) (x:∀i:Int,0<=i->i≠(j:Int)->zS sb' sq' i=zS m.sb m.sq i):
  Rt (ZR m k j fr.r sb' sq')/\Sam (fun _ _=>False) m (ZR m k j fr.r sb' sq'):=by
 have v:=(gS.1 q).1;have b:=(gS.1 u).1;have d:=h.inv.aX;have r:enW ⟨2,(j:Int),Xd⟩=0:=zcw Sm ⟨Sm,by simp only;omega,fun h=>by simp at h⟩ Sm
 have n:=h.inv.mine0 q t;have d:=h.inv.moved q ⟨2,(j:Int),Xd⟩ Sm (sl':=m.sl.set j fr.r) (sb':=sb') (sq':=sq') Sm a c (fun i z a=>by
  have c:=(h.inv.cf k fr q).1
  by_cases l:i=j
  ·subst l;rw[sF b]at a;cases a;have:=h.inv.cs i 0 u;rw[kE (by simp[isE])]
   omega
  rw[sN (fun h=>l h.symm)]at a
  have:=h.inv.cs i z a;rw[kF (by simp[isE];omega)]
  omega) (.inr ⟨r,rfl,by simp only;omega,t⟩)
 rw[zi2 n]at d;have b:(ZR m k j fr.r sb' sq').sp=m.sp.map (j7 (k:Int) ⟨2,(j:Int),Xd⟩):=rfl;have a:=zch h (k:=(k:Int)) r _ b;have c:ZA (ZR m k j fr.r sb' sq') (jd (ZR m k j fr.r sb' sq')):=by
  unfold jd;rw[a];refine ZA.tabs d (sp':=(ZR m k j fr.r sb' sq').sp) (by rw[b];simp) fun p s A e f=>?_
  rw[b]at f;obtain⟨B,g,rfl⟩:=JO f;have a:m.sp[p]? =Xa s:=e;rw[a]at g;cases g;exact⟨rfl,rfl⟩
 refine⟨Rt.of c (by rw[b];exact zds h r) h.aB.1 (by show m.aB<max ((m.fs.set k frF).length:Int) 1;simpa using h.aB.2),?_⟩
 have a:(ZR m k j fr.r sb' sq').ca=m.ca:=rfl;have c:∀a d,zN (ZR m k j fr.r sb' sq') a d=zN m a d:=fun a d=>by
  refine zhO (m:=m) (m':=ZR m k j fr.r sb' sq') rfl rfl rfl rfl (fun y z=>?_) a d
  have d:y.fr≠(k:Int):=fun l=>by have:=QP z;rw[l]at this;exact this n
  rw[zf2 v (m':=ZR m k j fr.r sb' sq') rfl (q9 ((zn.1 h.inv.ca).1 y z)).1.2.2.2.2.1 d]
 refine⟨by rw[b];simp,fun d s A e f=>?_,fun d n s A e f d _=>?_,rfl,fun _=>rfl,fun _=>rfl,fun a i _=>by rw[c]⟩
 ·rw[b]at f;obtain⟨B,g,rfl⟩:=JO f;rw[e]at g;cases g;exact⟨rfl,rfl⟩
 rw[b]at f;obtain⟨B,g,rfl⟩:=JO f;rw[e]at g;cases g;rw[zbs h (mG e) r];unfold QG
 by_cases a:isE (zh s n) 1 (k:Int)=Xc
 ·rw[kE a];simp only[isE,Xt,decide_eq_true_eq]at a;unfold Qr
  by_cases b:(zJ s.aD n).is=Xd
  ·grind
  rw[kF b,kF b,kF Sm,kE rfl,kE a.1,a.2,zT q]
  show(zS sb' sq' (j:Int),Xc,(0:Int))=_
  rw[w,t];rfl
 rw[kF a];have a:=h.inv.en (jj e) d;have b:=(Zc a).2.1.1;refine zcU rfl rfl (fun a=>?_) (fun a=>?_) (fun _=>rfl) c
 ·grind [zh,isE,zf2,ZR]
 refine x _ b fun l=>?_
 have b:=h.inv.cs j 0 u;have b:=zam (jj e) d (kind:=2) (k:=(j:Int)) (by simp[isE,a,l]) Dc
 omega
def z2 (m:Ma) (k:Nat):Ma:={ m with fs:=m.fs.set k frF,ca:=m.ca.filter fun d=>!decide (d.fr=(k:Int)),sp:=m.sp.map (j7 (k:Int) en0) }
theorem zja (p:List Int) (idx a:Int):(qJ p idx a).length=p.length:=by simp[qJ]
theorem zqC {p:List Int} {idx a:Int} {i:Nat} (h:8*idx+(i:Int)<a):(qJ p idx a).getD i 0=p.getD i 0:=by
 unfold qJ;rw[gD,gD,List.getElem?_mapIdx]
 cases p[i]? with
 | none=>rfl
 | some z=>simp only[Option.map_some,Option.getD_some];rw[kF Wm]
theorem zrG (h:Rt m) {k:Nat} {fr:Fr} (S:Nat->Nat->Prop) (i:m.fs[k]? =Xa fr) (b:0<=fr.f) (_hr:fr.r≠0) (x:z9 m fr.f fr.x=qJ (pgL fr.p) fr.x (qW m fr.f))
  (hS:qJ (pgL fr.p) fr.x (qW m fr.f)=pgL fr.p\/∀(q n:Nat) s,m.sp[q]? =Xa s->n<64->(zJ s.aD n).is=Xc->(zJ s.aD n).file=fr.f->(zJ s.aD n).aG=fr.x->(zh s n).kind=0\/isE (zh s n) 1 (k:Int)=Xc->S q n):
  Rt (z2 m k)/\Sam S m (z2 m k):=by
 have D:=(gS.1 i).1;have a:=h.inv.cf k fr i;obtain⟨c,C,d⟩:=zck (a.2 b);obtain⟨K,a,z,A⟩:=q9 ((zn.1 h.inv.ca).1 c C);rw[d,zT i]at a z A;have c:=h.inv.moved i en0 Dc (sl':=m.sl) (sb':=m.sb) (sq':=m.sq) rfl rfl h.inv.sq (fun F a E=>by
  have:=h.inv.cs F a E;rw[kF (by simp[Zy])]
  omega) (.inl rfl)
 have b:(z2 m k).sp=m.sp.map (j7 (k:Int) en0):=rfl;have a:=zch h (k:=(k:Int)) Qg _ b;have e:ZA (z2 m k) (jd (z2 m k)):=by
  unfold jd;rw[a];refine ZA.tabs c (sp':=(z2 m k).sp) (by rw[b];simp) fun p s G c g=>?_
  rw[b]at g;obtain⟨H,r,rfl⟩:=JO g;have a:m.sp[p]? =Xa s:=c;rw[a]at r;cases r;exact⟨rfl,rfl⟩
 refine⟨Rt.of e (by rw[b];exact zds h Qg) h.aB.1 (by show m.aB<max ((m.fs.set k frF).length:Int) 1;simpa using h.aB.2),?_⟩
 have e:∀file a,(z2 m k).ca.find? (QU file a)=if file=fr.f/\a=fr.x then Xb else m.ca.find? (QU file a):=fun file a=>by
  show(m.ca.filter fun j=>!decide (j.fr=(k:Int))).find? (QU file a)=_
  by_cases l:file=fr.f/\a=fr.x
  ·rw[kE l];rw[Yl];intro j x f;have t:=Xu.1 x;simp only[QU,Xt,decide_eq_true_eq]at f;have c:=jZ h.inv.ca t.1;have g:=jZ h.inv.ca C;rw[f.1,f.2,l.1,l.2,z,A,g]at c;cases c;have:=t.2
   simp[d]at this
  rw[kF l];rw[List.find?_filter]
  apply ze4
  intro j x
  cases f:QU file a j with
  | false=>simp
  | true=>
   simp only[QU,Xt,decide_eq_true_eq]at f;have:j.fr≠(k:Int):=fun w=>by
    obtain⟨t,B,u,v⟩:=q9 ((zn.1 h.inv.ca).1 j x);rw[w,zT i]at u v;exact l ⟨by rw[<-f.1,u],by rw[<-f.2,v]⟩
   simp[this]
 have y:zN m fr.f fr.x=pgL fr.p:=by
  unfold zN;have:=jZ h.inv.ca C;rw[<-z,<-A]at this;rw[this];simp only;rw[d,zT i]
 have d:zN (z2 m k) fr.f fr.x=qJ (pgL fr.p) fr.x (qW m fr.f):=by
  unfold zN;rw[e,kE ⟨rfl,rfl⟩];exact x
 have d:∀file a,¬(file=fr.f/\a=fr.x)->zN (z2 m k) file a=zN m file a:=fun file a d=>by
  unfold zN;rw[e,kF d]
  cases e:m.ca.find? (QU file a)with
  | none=>rfl
  | some j=>
   simp only;have a:=Yh e;obtain⟨t,B,u,v⟩:=q9 ((zn.1 h.inv.ca).1 j a);have f:=Ue e;simp only[QU,Xt,decide_eq_true_eq]at f;rw[zf2 D (m':=z2 m k) rfl t.2.2.2.2.1 (fun w=>?_)]
   rw[w,zT i]at u v;exact d ⟨by rw[<-f.1,u],by rw[<-f.2,v]⟩
 refine⟨by rw[b];simp,fun q s G c g=>?_,fun q n s G c g f a=>?_,rfl,fun _=>rfl,fun _=>rfl,fun file F E=>?_⟩
 ·rw[b]at g;obtain⟨H,r,rfl⟩:=JO g;rw[c]at r;cases r;exact⟨rfl,rfl⟩
 ·rw[b]at g;obtain⟨H,r,rfl⟩:=JO g;rw[c]at r;cases r;rw[zbs h (mG c) Qg];unfold QG;have a:fr.x<bkN m fr.f:=by rw[z,A];exact K.2.2.2.1
  have hcut:(zJ s.aD n).is=Xc->(zJ s.aD n).file=fr.f->(zJ s.aD n).aG=fr.x->(zh s n).kind=0\/isE (zh s n) 1 (k:Int)=Xc->zN (z2 m k) fr.f fr.x=pgL fr.p:=fun a a a a=>by grind
  by_cases d:isE (zh s n) 1 (k:Int)=Xc
  ·rw[kE d];have a:=d;simp only[isE,Xt,decide_eq_true_eq]at a;have b:zoI m (zJ s.aD n) (zh s n):=by
    rcases h.aZ c f with l|l
    ·grind [en0]
    exact l
   have e:=b.2.2;unfold zgl at e
   split at e
   ·cases e
   rename_i t
   rw[kF Wm,kF (Hm ((qH b Wm).2.2.1)),a.2,zT i]at e
   split at e
   ·cases e
   rename_i B
   have b:0<=(zJ s.aD n).file/\fr.f=(zJ s.aD n).file/\fr.x=(zJ s.aD n).aG:=Classical.byContradiction fun w=>B (.inl ⟨Wm,w⟩)
   have e:(zJ s.aD n).is=Xc:=by grind
   unfold Qr;rw[kF t,kF t,kF Dc,kF Dc,kF Wm,kE a.1,a.2,zT i,kF (by rw[<-b.2.1,<-b.2.2];show¬bkN m fr.f<=fr.x;omega),<-b.2.1,<-b.2.2,hcut e b.2.1.symm b.2.2.symm (.inr d)]
   have:decide (fr.f<0)=Xd:=by simp;omega
   rw[this]
  rw[kF d];have a:=h.inv.en (jj c) f;have b:=(Zc a).2.1.1;unfold Qr
  by_cases c:(zJ s.aD n).is=Xd
  ·grind
  rw[kF c,kF c]
  by_cases b:(zh s n).kind=1
  ·grind [zh,isE,zf2,z2]
  rw[kF b,kF b]
  by_cases b:(zh s n).kind=2
  ·rw[kE b,kE b];rfl
  rw[kF b,kF b];have b:bkN (z2 m k)=bkN m:=rfl;rw[b]
  by_cases b:(zJ s.aD n).file<0
  ·grind
  rw[kF b,kF b]
  by_cases b:bkN m (zJ s.aD n).file<=(zJ s.aD n).aG
  ·grind
  rw[kF b,kF b]
  by_cases b:(zJ s.aD n).file=fr.f/\(zJ s.aD n).aG=fr.x
  ·have e:(zJ s.aD n).is=Xc:=by
    cases d:(zJ s.aD n).is with
    | true=>rfl
    | false=>exact absurd d c
   have c:(zh s n).kind=0:=Hm ((Zc a).1)
   have:=hcut e b.1 b.2 (.inl c);rw[b.1,b.2,this,y]
  grind
 grind [zqC]
end
theorem zm4:∀{l:List Ar} {p:Option Ar} {n:Nat},Qo p l->(zJ l n).is=Xc->0<=(zJ l n).aG/\((zJ l n).aG<=11\/(zJ l n).file<0)
 | [],_,_,_,h=>by cases h
 | a :: l,p,n,b,h=>by
  unfold zJ at h⊢
  by_cases e:Jt a n=Xc
  ·rw[kE e]at h⊢;have c:=b.1;have d:=jl.1 e;unfold jV at c;unfold qp;simp only
   split
   ·exact⟨Wm,.inl Wm⟩
   exact⟨Wm,.inr Wm⟩
  rw[kF e]at h⊢;exact zm4 b.2.2 h
theorem Rt.aG {m:Ma} (h:Rt m) {p n:Nat} {s:Sp} (a:m.sp[p]? =Xa s) (b:(zJ s.aD n).is=Xc):0<=(zJ s.aD n).aG:=
 (zm4 (zab.1 (h.inv.bA s (mG a)).1).2 b).1
section
variable{m:Ma}
def ZK (m:Ma) (file idx:Nat) (f:Fl) (b:Int) (db':List (List Int)) (dq':List (Int × List Int)):Ma:={ m with fl:=m.fl.set file ⟨f.size,f.bl.set idx b⟩,db:=db',dq:=dq' }
theorem zhW (B:Rt m) {file idx:Nat} {f:Fl} {db':List (List Int)} {dq':List (Int × List Int)} (ao:m.fl[file]? =Xa f) (a6:stW (m.fl.set file ⟨f.size,f.bl.set idx (b:Int)⟩) m.cnt=0)
  (Q:∀x,zR (m.fl.set file ⟨f.size,f.bl.set idx (b:Int)⟩) x=Xc↔(zR m.fl x=Xc/\x≠-1)\/x=(b:Int)\/(x=-1/\zR (m.fl.set file ⟨f.size,f.bl.set idx (b:Int)⟩) x=Xc))
  (G:db'.length=m.db.length) (H:zB db'.length dq'=0) (E:∀i:Nat,db'[i]? =m.db[i]?\/∃q∈m.dq,q.1=(i:Int)) (U:∀q∈dq',q.1=(b:Int)\/∃a9∈m.dq,a9.1=q.1) (a5:∀i:Int,i≠(b:Int)->zS db' dq' i=zS m.db m.dq i)
  (_hb0:f.bl[idx]? =Xa (b:Int)\/(zR m.fl (b:Int)=Xd)) (ad:∃c∈m.ca,c.file=(file:Int)/\c.idx=(idx:Int)) (L:∀(i j:Nat) g,m.fl[i]? =Xa g->g.bl[j]? =Xa (b:Int)->i=file/\j=idx):
  (Rt (ZK m file idx f (b:Int) db' dq')/\Sam (fun _ _=>False) m (ZK m file idx f (b:Int) db' dq'))/\∀(i j:Nat),(j:Int)<bkN m (i:Int)->zN (ZK m file idx f (b:Int) db' dq') (i:Int) (j:Int)=zN m (i:Int) (j:Int):=by
 have ap:=(gS.1 ao).1;obtain⟨l,a⟩:∃l,ZK m file idx f (b:Int) db' dq'=l:=⟨_,rfl⟩;have N:∀z,qW l z=qW m z:=fun z=>by
  rw[<-a];unfold qW ZK;simp only[gD]
  by_cases e:z.toNat=file
  ·grind
  grind
 have y:∀z,bkN l z=bkN m z:=fun z=>by
  rw[<-a];unfold bkN ZK;simp only[gD]
  by_cases e:z.toNat=file
  ·grind
  grind
 have p:∀z,zQ l z=zQ m z:=fun z=>by rw[<-a];rfl
 have v:l.fl.length=m.fl.length:=by rw[<-a];simp[ZK]
 have d:l.sp=m.sp:=by rw[<-a];rfl
 have F:l.ca=m.ca:=by rw[<-a];rfl
 have X:ZA l (jd l):=by
  have an:jd l=jd m:=by unfold jd;rw[d]
  rw[an];have h:=B.inv;refine⟨Ry a h.aY,Ry a h.bN,Ry a h.aX,Ry a h.bI,Ry a h.sq,Ry a H,Ry a a6,by rw[<-a];show m.cnt=(db'.length:Int);rw[G];exact h.cnt,fun i u ag=>?_,fun q M=>?_,Rx d h.aQ,Rx d h.bA,Rx d h.tl,?_,?_,Ry a h.cf,Ry a h.cs⟩
  ·rw[<-a]at u ag⊢;have P:zR m.fl (i:Int)=Xd:=by
    cases e:zR m.fl (i:Int)with
    | false=>rfl
    | true=>
     have:=(Q (i:Int)).2 (.inl ⟨e,Wm⟩)
     have a7:zR (m.fl.set file ⟨f.size,f.bl.set idx (b:Int)⟩) (i:Int)=Xd:=ag;rw[a7]at this;cases this
   show db'[i]? =_
   rcases E i with e|⟨q,aa,ab⟩
   ·rw[e];exact h.bJ i (Ry G u) P
   have:=h.bE q aa;rw[ab,P]at this;cases this
  ·rw[<-a]at M⊢
   show zR (m.fl.set file ⟨f.size,f.bl.set idx (b:Int)⟩) q.1=Xc
   rcases U q M with e|⟨a9,aa,ab⟩
   ·grind
   refine(Q _).2 (.inl ⟨?_,?_⟩)
   ·rw[<-ab];exact h.bE a9 aa
   have Z:=h.aU;unfold zB at Z
   split at Z
   ·cases Z
   grind [Yd.2,j0]
  ·obtain⟨ah,av,ai⟩:=zn.1 h.ca;rw[F];refine zn.2 ⟨fun c ad=>?_,fun q c U=>(by cases U),ai⟩
   obtain⟨aj,ak,al,am⟩:=q9 (ah c ad);refine zd1 ?_ (Rx p ak) (Rx p al) (Rx p am)
   rw[v,y];rw[<-a];exact aj
  intro ar s g V t n af;rw[d]at V
  rcases h.aZ ar s g V t n af with e|e
  ·grind
  refine .inr ⟨e.1,e.2.1,Z9 e.2.2 (by rw[<-a];rfl) (by rw[<-a];rfl) fun a0=>?_⟩
  rw[p];exact⟨rfl,rfl,(qH e a0).2.2.2⟩
 have k:∀(i j:Nat),(j:Int)<bkN m (i:Int)->zN l (i:Int) (j:Int)=zN m (i:Int) (j:Int):=fun i j r=>by
  unfold zN;rw[F]
  cases U:m.ca.find? (QU (i:Int) (j:Int))with
  | some c=>simp only;rw[p]
  | none=>
   simp only;have a4:¬(i=file/\j=idx):=fun e=>by grind [Yl,QU]
   have Y:Qc l (i:Int) (j:Int)=Qc m (i:Int) (j:Int):=by
    rw[<-a];unfold Qc ZK;simp only[gD,tN]
    by_cases e:i=file
    ·grind
    grind
   rw[Y,N]
   by_cases K:Qc m (i:Int) (j:Int)<0
   ·grind
   rw[kF K,kF K];have u:i<m.fl.length:=Classical.byContradiction fun w=>by
    unfold bkN at r;simp only[gD,tN]at r;rw[gN Wm]at r
    simp only[Option.getD_none,Yk]at r;omega
   have t:=gE u;have ae:j< (m.fl[i]).bl.length:=by
    unfold bkN at r;simp only[gD,tN,t,Option.getD_some]at r;omega
   have:Qc m (i:Int) (j:Int)≠(b:Int):=fun e=>by
    unfold Qc at e;simp only[gD,tN,t,Option.getD_some,gE ae]at e;exact a4 (L i j _ t (by rw[gE ae,e]))
   rw[show zS l.db l.dq (Qc m (i:Int) (j:Int))=zS db' dq' (Qc m (i:Int) (j:Int)) by rw[<-a];rfl,a5 _ this]
 rw[a];refine⟨?_,k⟩;refine⟨Rt.of X (by rw[d];exact fun s V=>B.tb V) (Ry a B.aB.1) (Ry a B.aB.2),⟨by rw[d],fun q s au w D=>?_,fun q n s au w D af _=>?_,v,N,y,fun ac aq C=>?_⟩⟩
 ·rw[d,w]at D;cases D;exact⟨rfl,rfl⟩
 ·rw[d,w]at D;cases D;unfold Qr;rw[p,y]
  by_cases R:(zJ s.aD n).is=Xd
  ·rw[kE R,kE R]
  rw[kF R,kF R]
  by_cases S:(zh s n).kind=1
  ·rw[kE S,kE S]
  rw[kF S,kF S]
  by_cases A:(zh s n).kind=2
  ·rw[kE A,kE A];rw[<-a];rfl
  rw[kF A,kF A]
  by_cases T:(zJ s.aD n).file<0
  ·rw[kE T,kE T]
  rw[kF T,kF T]
  by_cases W:bkN m (zJ s.aD n).file<=(zJ s.aD n).aG
  ·rw[kE W,kE W]
  rw[kF W,kF W];have I:(zJ s.aD n).is=Xc:=by
   cases a8:(zJ s.aD n).is with
   | true=>rfl
   | false=>exact absurd a8 R
  have aw:=B.aG w I;have:=k (zJ s.aD n).file.toNat (zJ s.aD n).aG.toNat (by
   rw[show(((zJ s.aD n).file.toNat:Nat):Int)=(zJ s.aD n).file by omega,show(((zJ s.aD n).aG.toNat:Nat):Int)=(zJ s.aD n).aG by omega]
   omega)
  rw[show(((zJ s.aD n).file.toNat:Nat):Int)=(zJ s.aD n).file by omega,show(((zJ s.aD n).aG.toNat:Nat):Int)=(zJ s.aD n).aG by omega]at this
  rw[this]
 rw[k ac (aq / 8) ?_]
 by_cases w:ac<m.fl.length
 ·have t:=gE w;obtain⟨S,A,T⟩:=((zY _ _).1 B.inv.st).2.1 _ (mG t);unfold qW at C;simp only[gD,tN,t,Option.getD_some]at C;unfold bkN;simp only[gD,tN,t,Option.getD_some];unfold jH at A
  split at A <;> omega
 unfold qW at C;simp only[gD,tN]at C;rw[gN Wm]at C
 simp only[Option.getD_none]at C;omega
end
def Unc (m:Ma) (file idx:Int):Prop:=∀c∈m.ca,¬(c.file=file/\c.idx=idx)
theorem Unc.find {m:Ma} {file idx:Int} (h:Unc m file idx):m.ca.find? (QU file idx)=Xb:=by
 rw[Yl];intro c b a;simp only[QU,Xt,decide_eq_true_eq]at a;exact h c b a
structure Qd (S:Nat->Nat->Prop) (m m':Ma):Prop where
 rt:Rt m'
 aW:Sam S m m'
 fsl:m'.fs.length=m.fs.length
 bare:∀(q n:Nat) s s',m.sp[q]? =Xa s->m'.sp[q]? =Xa s'->n<64->zh s n=en0->zh s' n=en0
 unc:∀(file idx:Nat),(idx:Int)<bkN m (file:Int)->Unc m (file:Int) (idx:Int)->Unc m' (file:Int) (idx:Int)/\zN m' (file:Int) (idx:Int)=zN m (file:Int) (idx:Int)
theorem Qd.refl {S:Nat->Nat->Prop} {m:Ma} (h:Rt m):Qd S m m:=⟨h,Sam.refl S m,rfl,fun q n s a c a _ b=>by rw[c]at a;cases a;exact b,fun _ _ _ h=>⟨h,rfl⟩⟩
theorem Qd.trans {S:Nat->Nat->Prop} {a b c:Ma} (h:Qd S a b) (k:Qd S b c):Qd S a c:=by
 refine⟨k.rt,(h.aW.trans k.aW).mono (fun _ _ e=>e.elim id id),k.fsl.trans h.fsl,fun q n s r f m i l=>?_,fun d e g p=>?_⟩
 ·have:∃t,b.sp[q]? =Xa t:=⟨_,gE (by rw[h.aW.aQ];exact(gS.1 f).1)⟩
  obtain⟨t,j⟩:=this;exact k.bare q n t r j m i (h.bare q n s t f j i l)
 obtain⟨u1,u2⟩:=h.unc d e g p;obtain⟨f,f⟩:=k.unc d e (by rw[h.aW.bk];exact g) u1
 grind
section
variable{m:Ma}
theorem zha (h:Rt m) {k:Int} {e:En} (d:enW e=0) {q n:Nat} {s s':Sp} (a:m.sp[q]? =Xa s) (c:(m.sp.map (j7 k e))[q]? =Xa s') (b:zh s n=en0):zh s' n=en0:=by
 obtain⟨b,b,rfl⟩:=JO c;rw[a]at b;cases b;rw[zbs h (mG a) d]
 grind [QG,isE,en0]
theorem zmB (S:Nat->Nat->Prop) (h:Rt m) {k:Nat} {fr:Fr} {sb':List (List Int)} {sq':List (Int × List Int)} (g:m.fs[k]? =Xa fr) (f:fr.f=-1) (l:fr.r≠0) (e:m.sl[j]? =Xa 0) (c:sb'.length=m.sb.length) (d:zB sb'.length sq'=0) (a:zS sb' sq' (j:Int)=pgL fr.p) (b:∀i:Int,0<=i->i≠(j:Int)->zS sb' sq' i=zS m.sb m.sq i):
  Qd S m (ZR m k j fr.r sb' sq'):=by
 obtain⟨n,p⟩:=zqW h g f l e c d a b;have a:=h.inv.aX;have a:=(gS.1 e).1;have d:enW ⟨2,(j:Int),Xd⟩=0:=zcw Sm ⟨Sm,by simp only;omega,fun h=>by simp at h⟩ Sm
 refine⟨n,p.mono (fun _ _ e=>e.elim),by simp[ZR],fun q n s a b c _ a=>zha h d b c a,fun a c _ b=>⟨b,?_⟩⟩
 unfold zN;rw[show(ZR m k j fr.r sb' sq').ca.find? (QU (a:Int) (c:Int))=Xb from b.find,b.find]
 rfl
theorem znQ (h:Rt m) {k:Nat} {fr:Fr} (S:Nat->Nat->Prop) (c:m.fs[k]? =Xa fr) (b:0<=fr.f) (d:fr.r≠0) (a:z9 m fr.f fr.x=qJ (pgL fr.p) fr.x (qW m fr.f))
  (hS:qJ (pgL fr.p) fr.x (qW m fr.f)=pgL fr.p\/∀(q n:Nat) s,m.sp[q]? =Xa s->n<64->(zJ s.aD n).is=Xc->(zJ s.aD n).file=fr.f->(zJ s.aD n).aG=fr.x->(zh s n).kind=0\/isE (zh s n) 1 (k:Int)=Xc->S q n):
  Qd S m (z2 m k):=by
 obtain⟨f,g⟩:=zrG h S c b d a hS;have c:∀file a,Unc m file a->Unc (z2 m k) file a:=fun file a b d e=>b d (Xu.1 e).1
 refine⟨f,g,by simp[z2],fun q n s d e f _ d=>zha h Qg e f d,fun file a _ b=>⟨c _ _ b,?_⟩⟩
 unfold zN;rw[(c _ _ b).find,b.find];rfl
theorem zeS (S:Nat->Nat->Prop) (h:Rt m) {k:Nat} {fr:Fr} (a:m.fs[k]? =Xa fr) (b:fr.r≠0) (u d:Bool):Qd S m { m with fs:=m.fs.set k { fr with u:=u,d:=d } }:=by
 obtain⟨c,e⟩:=zjU h a b u d;refine⟨c,e.mono (fun _ _ e=>e.elim),Sm,fun q n s b b b _ b=>?_,fun b b _ b=>⟨b,?_⟩⟩
 ·grind
 exact zas (gS.1 a).1 h.inv.ca (fun _=>by rw[zT a]) _ _
theorem znz (S:Nat->Nat->Prop) (h:Rt m) (e:0<=z) (b:z<max (m.fs.length:Int) 1):Qd S m { m with aB:=z }:=by
 have a:=h.inv;have c:ZA { m with aB:=z } (jd { m with aB:=z }):=⟨a.aY,a.bN,a.aX,a.bI,a.sq,a.aU,a.st,a.cnt,a.bJ,a.bE,a.aQ,a.bA,a.tl,zn.2 ⟨fun d f=>(zn.1 a.ca).1 d f,fun _ _ d=>(by cases d),(zn.1 a.ca).2.2⟩,a.aZ,a.cf,a.cs⟩
 refine⟨Rt.of c (fun s a=>h.tb a) e b,⟨rfl,fun q s c b a=>?_,fun q n s c b a _ _=>?_,rfl,fun _=>rfl,fun _=>rfl,fun _ _ _=>rfl⟩,rfl,fun q n s c b a _ d=>?_,fun d d _ d=>⟨d,rfl⟩⟩
 ·grind
 ·have:m.sp[q]? =Xa c:=a;rw[b]at this;cases this;rfl
 grind
end
theorem Qd.mono {S c:Nat->Nat->Prop} {a b:Ma} (h:Qd S a b) (hS:∀q n,S q n->c q n):Qd c a b:=⟨h.rt,h.aW.mono hS,h.fsl,h.bare,h.unc⟩
section
variable{m:Ma} {p n:Nat} {s:Sp}
theorem zhG (h:Rt m) (e:m.sp[p]? =Xa s) (f:n<64):Qd (fun q j=>q=p/\j=n) m (Jp m p n)/\(∀s',(Jp m p n).sp[p]? =Xa s'->zh s' n=en0)/\(Jp m p n).ca=m.ca/\(Jp m p n).fl=m.fl/\∀(q j:Nat) s s',m.sp[q]? =Xa s->(Jp m p n).sp[q]? =Xa s'->¬(q=p/\j=n)->zh s' j=zh s j:=by
 have D:m.sp.getD p ⟨Xd,[],[]⟩=s:=by rw[gD,e];rfl
 have E:∀s∈m.sp,Qy s.tb:=fun s e=>h.tb e
 obtain⟨w,x⟩:=zrI h e f;have l:∃c,Jp m p n=zaF c p n en0/\c.sp=m.sp/\c.ca=m.ca/\c.fl=m.fl/\c.fs.length=m.fs.length/\∀a b,zN c a b=zN m a b:=by
  unfold Jp;simp only[D]
  by_cases d:(zh s n).kind=1
  ·rw[kE d];obtain⟨Q,N,u,z,A,M⟩:=h.aV e f d;rw[A,u,tN];exact⟨_,rfl,rfl,rfl,rfl,Sm,fun a b=>zfc h.inv z (jj e) f d u a b⟩
  rw[kF d]
  by_cases i:(zh s n).kind=2
  ·rw[kE i];exact⟨_,rfl,rfl,rfl,rfl,rfl,fun _ _=>rfl⟩
  grind
 obtain⟨c,G,k,v,H,K,L⟩:=l;rw[G]at w x⊢;have g:∀s∈c.sp,Qy s.tb:=Rx k E
 have t:∀(q j:Nat) s s',m.sp[q]? =Xa s->(zaF c p n en0).sp[q]? =Xa s'->¬(q=p/\j=n)->zh s' j=zh s j:=fun q j s s' d i B=>zgR g f Qg (Rx k d) i B
 have r:∀s',(zaF c p n en0).sp[p]? =Xa s'->zh s' n=en0:=fun s' d=>(zmT g (Rx k e) f Qg d).1
 refine⟨⟨w,x,K,fun q j s s' d i _ P=>?_,fun a b _ F=>⟨fun y C=>F y (Ry v C),L _ _⟩⟩,r,v,H,t⟩
 grind
end
def zi (m:Ma):List (Nat × Nat)->Ma
 | []=>m
 | x :: l=>zi (Jp m x.1 x.2) l
theorem je:∀(l:List (Nat × Nat)) {m:Ma},Rt m->(∀x∈l,x.2<64/\∃s,m.sp[x.1]? =Xa s)->
  Qd (fun q j=>(q,j)∈l) m (zi m l)/\(∀x∈l,∀s',(zi m l).sp[x.1]? =Xa s'->zh s' x.2=en0)/\(zi m l).ca=m.ca/\(zi m l).fl=m.fl/\∀(q j:Nat) s s',m.sp[q]? =Xa s->(zi m l).sp[q]? =Xa s'->(q,j)∉l->zh s' j=zh s j
 | [],m,n,_=>⟨Qd.refl n,fun x G=>(by cases G),rfl,rfl,fun q j s s' h c _=>by simp only[zi]at c;rw[h]at c;cases c;rfl⟩
 | x :: l,m,n,t=>by
  obtain⟨F,s,i⟩:=t x (Yr ..);obtain⟨k,B,C,D,E⟩:=zhG n i F;have a:∀(q:Nat) s,m.sp[q]? =Xa s->∃s',(Jp m x.1 x.2).sp[q]? =Xa s':=fun q s i=>⟨_,gE (by rw[k.aW.aQ];exact(gS.1 i).1)⟩
  obtain⟨H,K,L,M,u⟩:=je l k.rt (fun y p=>by
   obtain⟨z,N,A⟩:=t y (Yj _ p);exact⟨z,a y.1 N A⟩)
  refine⟨(k.mono ?_).trans (H.mono fun q j e=>Yj _ e),fun y p s' d=>?_,L.trans C,M.trans D,fun q j s s' h c r=>?_⟩
  ·rintro q j ⟨rfl,rfl⟩;exact Yr ..
  ·by_cases b:y∈l
   ·exact K y b s' d
   rcases mC.1 p with rfl|e
   ·obtain⟨v,f⟩:=a y.1 s i;rw[u y.1 y.2 v s' f d b];exact B v f
   exact absurd e b
  obtain⟨w,g⟩:=a q s h;rw[u q j w s' g c (fun e=>r (Yj _ e))]
  refine E q j s w h g (fun e=>r ?_)
  have:(q,j)=x:=Prod.ext e.1 e.2;rw[this];exact Yr ..
theorem zrK (p) (idx a:Int):qJ (qJ p idx a) idx a=qJ p idx a:=by
 unfold qJ
 grind
theorem zez {m:Ma} {file idx:Nat} {f:Fl} {db':List (List Int)} {dq':List (Int × List Int)} (d:m.fl[file]? =Xa f) (hi:idx<f.bl.length) {p:List Int} (c:zS db' dq' (b:Int)=qJ p (idx:Int) (qW m (file:Int))):
  z9 (ZK m file idx f (b:Int) db' dq') (file:Int) (idx:Int)=qJ p (idx:Int) (qW m (file:Int)):=by
 have a:=(gS.1 d).1;have e:Qc (ZK m file idx f (b:Int) db' dq') (file:Int) (idx:Int)=(b:Int):=by
  unfold Qc ZK;simp only[gD,tN];rw[sF a];simp only[Option.getD_some];rw[sF hi];rfl
 have g:qW (ZK m file idx f (b:Int) db' dq') (file:Int)=qW m (file:Int):=by
  unfold qW ZK;simp only[gD,tN];rw[sF a,d];rfl
 unfold z9;rw[e,g,kF Wm,show zS (ZK m file idx f (b:Int) db' dq').db (ZK m file idx f (b:Int) db' dq').dq (b:Int)=zS db' dq' (b:Int)from rfl,c,zrK]
section
variable{m:Ma} {k p n:Nat} {fr:Fr} {s:Sp}
def zaY (m:Ma) (p n k:Nat) (fr:Fr) (write sh:Bool):Ma:=
 if write=Xc then zaF { m with fs:=m.fs.set k { fr with u:=true,d:=fr.d || sh } } p n ⟨1,(k:Int),Xc⟩
 else{ m with fs:=m.fs.set k { fr with u:=true,d:=fr.d } }
end
end
section
open Go.RowKit
def zc (w w':Xn):Prop:=Below w.heap.size w w'
theorem zc.refl (w):zc w w:=bR _ _
theorem zc.trans {a b c:Xn} (h:zc a b) (k:zc b c):zc a c:=Below.trans h (k.mono h.size)
def zP (P:Program) (o:Oper) (a:Act) (w:Xn) (K:Xq->Xn->Prop):Prop:=
 match(execOp a.eval o).run P w with
 | .ok (.value v) w'=>K v w'
 | .ok .skip w'=>K undef w'
 | .ok (.enter f args) w'=>Xp P f args w' fun e w''=>∃v,e= Xl v/\K v w''
 | _=>False
theorem zP.wp {P:Program} {a:Act} {w:Xn} {K:Xq->Xn->Prop} {next:Act->Xn->Prop}
  (h:zP P o a w K) (b:∀v w',K v w'->next (a.put o.dst v) w'):o.wp P a w next Q:=by
 unfold zP at h;unfold Oper.wp
 generalize(execOp a.eval o).run P w=r at*
 cases r with
 | ok n w'=>
  cases n <;> simp only[Oper.upon]at h⊢
  case value v=>exact b _ _ h
  case skip=>exact b _ _ h
  case enter f c=>exact h.mono fun e c ⟨v,c,d⟩=>by subst c;exact b _ _ d
 | halt x w'=>simp only at h
def zlE (ops:Array Oper) (i j:Nat):Bool:=((ops[j]?).map fun o=>o.after.any fun e=>Ga .any e && e.on == i).getD Xd
def anc (ops:Array Oper):Nat->Nat->Nat->Bool
 | 0,_,_=>Xd
 | f+1,i,j=>zlE ops i j || (Ya j).any fun k=>zlE ops k j && anc ops f i k
theorem zP.mono {P:Program} {a:Act} {w:Xn} {K c:Xq->Xn->Prop} (h:zP P o a w K) (b:∀v w',K v w'->c v w'):zP P o a w c:=by
 unfold zP at*
 generalize(execOp a.eval o).run P w=r at*
 cases r with
 | ok n w'=>
  cases n <;> simp only at h⊢
  case value v=>exact b _ _ h
  case skip=>exact b _ _ h
  case enter f c=>exact h.mono fun e c ⟨v,c,d⟩=>⟨v,c,b _ _ d⟩
 | halt x w'=>simp only at h
def zdG (F:Nat->Xn->Prop) (k:Nat) (p:Xn->Prop):Nat->Xn->Prop:=fun i=>if i=k then p else F i
section
variable{P:Program} {ops:Array Oper} {T:Nat}
theorem ZV {F:Nat->Xn->Prop} {k m:Nat} {p:Xn->Prop} (h:m≠k):zdG F k p m=F m:=by simp[zdG,h]
theorem znD {F:Nat->Xn->Prop} {i:Nat} {p q:Xn->Prop} (h:i≠j):zdG (zdG F i p) j q=zdG (zdG F j q) i p:=by grind [zdG]
theorem zdR {i:Nat} (a:ops[j]? =Xa o):zlE ops i j=Xc↔∃e∈o.after,Ga .any e=Xc/\e.on=i:=by
 unfold zlE;rw[a,Option.map_some,Option.getD_some,Array.any_eq_true'];simp
theorem zhE {i:Nat} (h:zlE ops i j=Xc):∃a,ops[j]? =Xa a:=by
 cases b:ops[j]? with
 | none=>simp[zlE,b]at h
 | some a=>exact⟨a,rfl⟩
def zhR (ops:Array Oper) (listed:Array Bool):Prop:=∀i j,listed.getD j Xd=Xc->zlE ops i j=Xc->listed.getD i Xd=Xc
theorem QS {a:Array Bool} (b:zhR ops a):∀(f i j:Nat),(∀k,zlE ops k j=Xc->a.getD k Xd=Xc)->anc ops f i j=Xc->a.getD i Xd=Xc
 | 0,_,_,_,h=>by simp[anc]at h
 | f+1,i,j,c,h=>by
  simp only[anc,Ug,Yd,Xs,Xt]at h
  rcases h with h|⟨k,_,a,h⟩
  ·exact c i h
  exact QS b f i k (fun m d=>b m k (c k a) d) h
theorem JY {a:Array Bool} {i:Nat} (h:a.getD i Xc=Xd):a.getD i Xd=Xd:=by
 grind
end
def Q7 (ops:Array Oper) (T:Nat):Bool:=
 Region.noSelect ops && decide (T<=ops.size) &&(Ya ops.size).all fun j=>match ops[j]? with
  | none=>Xd
  | some oj=>oj.after.all (fun e=>!Ga .any e || decide (e.on<j)) &&
    (if j<T then(Ya j).all fun i=>zlE ops i j || (match ops[i]? with | some oi=>oi.apart ops oj | none=>Xd)else(Ya j).all fun i=>anc ops j i j)
def qd (listed:Array Bool) (T:Nat):List Nat:=(Ya T).filter fun i=>listed.getD i Xc == Xd
section
variable{P:Program} {ops:Array Oper} {T:Nat}
theorem zai (a:Q7 ops T=Xc) (b:ops[j]? =Xa oj):∀i,zlE ops i j=Xc->i<j:=by
 simp only[Q7,Xt,Yv,Xs]at a;have h:=a.2 j (aS.1 b).1;simp only[b,Xt]at h
 grind [zdR,Array.all_eq_true_iff_forall_mem.1]
theorem ziI (b:Q7 ops T=Xc) (c:ops[j]? =Xa oj) (a:j<T):∀i,i<j->zlE ops i j=Xc\/∃a,ops[i]? =Xa a/\a.apart ops oj=Xc:=by
 simp only[Q7,Xt,Yv,Xs]at b
 grind
theorem zeU (a:Q7 ops T=Xc) (c:ops[j]? =Xa oj) (b:T<=j):∀i,i<j->anc ops j i j=Xc:=by
 simp only[Q7,Xt,Yv,Xs]at a
 grind
theorem zov (a:Q7 ops T=Xc):∀(f i j:Nat),anc ops f i j=Xc->i<j
 | 0,_,_,h=>by simp[anc]at h
 | f+1,i,j,h=>by
  simp only[anc,Ug,Yd,Xs,Xt]at h
  rcases h with h|⟨k,b,_,h⟩
  ·obtain⟨oj,b⟩:=zhE h;exact zai a b i h
  have:=zov a f i k h;omega
theorem zbh {a:Array Bool} (b:j<a.size):qd (a.setIfInBounds j Xc) T=(qd a T).filter (· != j):=by
 unfold qd;rw[Uw];refine List.filter_congr fun i a=>?_
 by_cases h:j=i
 ·subst h
  simp[b]
 rw[getD_set_ne Xc h]
 grind
theorem ziV {a:Array Bool} {i:Nat} (hi:i<a.size) (h:a.getD i Xc=Xc):a.getD i Xd=Xc:=by
 simp[hi]at h⊢;exact h
theorem zkD (z:Q7 ops T=Xc):∀(m:Nat) (l:List Oper) (k:Nat) (b:Array Bool) (a:Act) (w:Xn),T<=k->b.size=ops.size->k+m=ops.size->l.length=m->(∀j,l[j]? =ops[k+j]?)->
  (∀i,i<k->b.getD i Xc=Xc)->(∀i,k<=i->i<ops.size->b.getD i Xc=Xd)->wpList P ops Q l a w->wpAny P .any ops Q m b a w:=by
 intro m
 induction m with
 | zero=>
  intro l k b a w n v p x g d c h;have:l=[]:=eN x;subst this;refine⟨?_,h⟩
  cases s:Ub .any ops b with
  | nil=>rfl
  | cons f e=>
   have t:f∈Ub .any ops b:=by rw[s];simp
   obtain⟨r,e,q,_⟩:=mem_ready.1 t;have t:=(aS.1 q).1;rw[d f Wm]at r
   cases r
 | succ m F=>
  intro l k b a w n v p x g d c h;obtain⟨e,q,rfl⟩:∃e q,l=e :: q:=by
   cases l with
   | nil=>simp at x
   | cons e q=>exact⟨e,q,rfl⟩
  have f:ops[k]? =Xa e:=by have:=g 0;simpa using this.symm
  have p:k∈Ub .any ops b:=by
   refine mem_ready.2 ⟨c k (nR _) Wm,e,f,fun n B A=>?_⟩
   have t:=zai z f n.on ((zdR f).2 ⟨n,B,A,rfl⟩);exact ziV Wm (d n.on t)
  refine⟨fun s=>?_,fun j u=>?_⟩
  ·rw[s]at p;cases p
  obtain⟨r,e,e,s⟩:=mem_ready.1 u;have p:=(aS.1 e).1;have p:k<=j:=by
   rcases Ys j k with p|p
   ·rw[d j p]at r;cases r
   exact p
  have C:j=k:=by
   rcases Ys k j with p|p
   ·exfalso;have D:=zeU z e Wm k p
    have E:zhR ops b:=fun i p y r=>by
     obtain⟨u,u⟩:=zhE r;have t:=zai z u i r;have r:p<k:=by
      rcases Ys p k with r|r
      ·exact r
      have:=JY (c p r (aS.1 u).1);rw[this]at y;cases y
     exact ziV Wm (d i Wm)
    have:=QS E j k j (fun p y=>by
     obtain⟨n,B,A,rfl⟩:=(zdR e).1 y;exact s n B A) D
    rw[JY (c k (nR _) Wm)]at this
    cases this
   omega
  subst C;rw[f]at e;cases e;unfold wpList at h;unfold wpOp;simp only[f];have e:∀a w,wpList P ops Q q a w->wpAny P .any ops Q m (b.setIfInBounds j Xc) a w:=fun a w f=>
   F q (j+1) _ a w Wm (by simp[v]) Wm (Si x) (fun p=>by have:=g (p+1);rw[Oa]at this;rw[this];congr 1;omega)
    (fun i g=>by
     by_cases n:j=i
     ·subst n
      simp[show j<b.size by omega]
     rw[getD_set_ne Xc n];exact d i Wm)
    (fun i g b=>by rw[getD_set_ne Xc Wm];exact c i Wm b) f
  split
  ·rename_i b
   rw[kE b]at h
   rcases h with h|h
   ·exact .inl (Oper.wp_mono e h)
   exact .inr h
  rename_i b
  rw[kF b]at h;exact e _ _ h
structure Way {σ:Type} (P:Program) (ops:Array Oper) (C:Nat->σ->Act->(σ->Act->Prop)->Prop) (Ln:Nat->σ->Prop) (ok:Array Bool->σ->Act->Xn->Prop):Prop where
 mono:∀{i:Nat} {F:σ} {a:Act} {K K':σ->Act->Prop},(∀F' a',(∀j,anc ops 9 i j=Xd->Ln j F->Ln j F')->K F' a'->K' F' a')->C i F a K->C i F a K'
 swap:∀{i j:Nat} {oi oj:Oper} {F:σ} {a:Act} {K:σ->Act->Prop},ops[i]? =Xa oi->ops[j]? =Xa oj->i<j->oi.apart ops oj=Xc->(∀cs b,oi.op≠.select cs b)->(∀cs b,oj.op≠.select cs b)->anc ops 9 i j=Xd->anc ops 9 j i=Xd->Ln j F->C i F a (fun F' a'=>C j F' a' K)->C j F a fun F' a'=>C i F' a' K
 lean:∀{listed:Array Bool} {F:σ} {a:Act} {w:Xn} (j:Nat),ok listed F a w->Ln j F
 step:∀{listed:Array Bool} {F:σ} {a:Act} {w:Xn} {j:Nat} {oj:Oper} {K:σ->Act->Prop} {N:Act->Xn->Prop} {Q:Exit->Act->Xn->Prop},listed.size=ops.size->ops[j]? =Xa oj->listed.getD j Xc=Xd->zhR ops listed->ok listed F a w->C j F a K->
  (∀F' a' w',ok (listed.setIfInBounds j Xc) F' a' w'->K F' a'->N a' w')->if Xx oj (yielded ops a.tmps)then oj.wp P a w N Q else N (a.put oj.dst undef) w
section
variable{σ:Type} {C:Nat->σ->Act->(σ->Act->Prop)->Prop} {Ln:Nat->σ->Prop} {ok:Array Bool->σ->Act->Xn->Prop} {E:σ->Act->Prop}
variable(C E)in
def Lex:List Nat->σ->Act->Prop
 | [],F,a=>E F a
 | i :: l,F,a=>C i F a (Lex l)
theorem Lex.cG (W:Way P ops C Ln ok) {j:Nat} {oj:Oper} (t:ops[j]? =Xa oj) (d:∀(k:Nat) (o:Oper) cs b,ops[k]? =Xa o->o.op≠.select cs b):
  ∀(l:List Nat) (F:σ) (a:Act),l.Nodup->j∈l->
   (∀i∈l,i≠j->∃r,ops[i]? =Xa r/\(i<j->r.apart ops oj=Xc)/\anc ops 9 i j=Xd/\(i<j->anc ops 9 j i=Xd))->
   (l.Pairwise (·< ·))->Ln j F->Lex C E l F a->Lex C E (j :: l.filter (· != j)) F a
 | [],_,_,_,h,_,_,_,_=>by cases h
 | i :: l,F,a,p,h,g,c,v,u=>by
  by_cases e:i=j
  ·subst e;have:(i :: l).filter (· != i)=l:=by
    rw[Oe];simp only[bne_self_eq_false,Ym,if_false];refine Yy.2 fun x m=>?_
    have:x≠i:=fun f=>(Ok.1 p).1 (f ▸ m)
    simpa using this
   rw[this];exact u
  have n:j∈l:=by
   rcases mC.1 h with f|f
   ·exact absurd f.symm e
   exact f
  have h:=(Yc.1 c).1 j n;obtain⟨r,q,s,f,m⟩:=g i Sm e
  have w:(i :: l).filter (· != j)=i :: l.filter (· != j):=by
   rw[Oe];have:(i != j)=Xc:=Si e
   simp[this]
  rw[w];refine W.swap q t h (s h) (fun cs b=>d i r cs b q) (fun cs b=>d j oj cs b t) f (m h) v ?_
  refine W.mono (fun h m e q=>?_) u
  exact Lex.cG W t d l h m (Ok.1 p).2 n (fun k d=>g k (by simp[d])) (Yc.1 c).2 (e j f v) q
theorem zgr (W:Way P ops C Ln ok) {Q':Exit->Act->Xn->Prop} {l:List Oper} {m:Nat} (p:Q7 ops T=Xc) (f:T+m=ops.size) (h:l.length=m) (e:∀j,l[j]? =ops[T+j]?) (n:∀b F a w,ok b F a w->E F a->wpList P ops Q' l a w):
  ∀(d:Nat) (b:Array Bool) (F:σ) (a:Act) (w:Xn),b.size=ops.size->(∀i,T<=i->i<ops.size->b.getD i Xc=Xd)->(qd b T).length=d->zhR ops b->ok b F a w->
   Lex C E (qd b T) F a->wpAny P .any ops Q' (d+m) b a w:=by
 have A:=Region.noSelect_spec (ops:=ops) (by simp only[Q7,Xt]at p;exact p.1.1)
 intro d
 induction d with
 | zero=>
  intro b F a w k g z v G D;have c:=eN z;rw[c]at D;rw[zA];refine zkD p m l T b a w (nR _) k f h e (fun i y=>?_) g (n _ _ _ _ G D)
  cases f:b.getD i Xc with
  | true=>rfl
  | false=>
   have:i∈qd b T:=Xu.2 ⟨Xs.2 y,by simp only[f,beq_self_eq_true]⟩
   rw[c]at this;cases this
 | succ d R=>
  intro b F a w k g z v G D;rw[Nat.add_right_comm];refine⟨fun u=>?_,fun j H=>?_⟩
  ·exfalso
   cases s:qd b T with
   | nil=>simp[s]at z
   | cons x S=>
    have K:x∈qd b T:=by rw[s];simp
    have h:=Xu.1 K;have L:=Xs.1 h.1;have c:x<ops.size:=Wm
    have t:=Ou c;have c:(qd b T).Pairwise (·< ·):=List.Pairwise.filter _ Uc;have:x∈Ub .any ops b:=by
     refine mem_ready.2 ⟨Si h.2,ops[x],t,fun r q B=>?_⟩
     have e:zlE ops r.on x=Xc:=(zdR t).2 ⟨r,q,B,rfl⟩;have n:=zai p t _ e
     cases f:b.getD r.on Xc with
     | true=>exact ziV Wm f
     | false=>
      have e:r.on∈qd b T:=Xu.2 ⟨Xs.2 Wm,by simp only[f,beq_self_eq_true]⟩
      rw[s]at e c
      rcases mC.1 e with e|e
      ·omega
      have:=(Yc.1 c).1 _ e;omega
    rw[u]at this;cases this
  obtain⟨M,e,e,u⟩:=mem_ready.1 H;have f:=(aS.1 e).1;have f:∀t,zlE ops t j=Xc->b.getD t Xd=Xc:=fun t H=>by
   obtain⟨r,q,B,rfl⟩:=(zdR e).1 H;exact u r q B
  have u:j<T:=by
   rcases Ys j T with r|r
   ·exact r
   exfalso
   cases s:qd b T with
   | nil=>simp[s]at z
   | cons x S=>
    have K:x∈qd b T:=by rw[s];simp
    have h:=Xu.1 K;have L:=Xs.1 h.1;have:=QS v j x j f (zeU p e r x Wm)
    rw[JY (Si h.2)]at this
    cases this
  have x:j∈qd b T:=Xu.2 ⟨Xs.2 u,by simp only[M,beq_self_eq_true]⟩
  have z:(qd b T).Nodup:=List.Pairwise.filter _ List.nodup_range;have c:(qd b T).Pairwise (·< ·):=List.Pairwise.filter _ Uc;have s:=Lex.cG W e A (qd b T) F a z x (fun i y h=>by
   have h:=Xu.1 y;have B:b.getD i Xd=Xd:=JY (Si h.2)
   have F:i<ops.size:=Hm (Xs.1 h.1)
   have A:=Ou F;refine⟨ops[i],A,fun n=>?_,?_,fun n=>?_⟩
   ·rcases ziI p e u i n with q|⟨n,n,u⟩
    ·have:=f i q;rw[B]at this;cases this
    rw[A]at n;cases n;exact u
   ·cases n:anc ops 9 i j with
    | false=>rfl
    | true=>
     have:=QS v 9 i j f n;rw[B]at this;cases this
   cases n:anc ops 9 j i with
   | false=>rfl
   | true=>
    have:=zov p 9 j i n
    omega) c (W.lean j G) D
  have p:(b.setIfInBounds j Xc).size=ops.size:=by simp[k]
  have n:∀i,T<=i->i<ops.size->(b.setIfInBounds j Xc).getD i Xc=Xd:=fun i y h=>by rw[getD_set_ne Xc Wm];exact g i y h
  have g:(qd (b.setIfInBounds j Xc) T).length=d:=by
   rw[zbh Wm]
   have q:(qd b T).filter (· != j)=(qd b T).erase j:=by
    rw[List.Nodup.erase_eq_filter z]
   rw[q,Ox x];omega
  have q:zhR ops (b.setIfInBounds j Xc):=fun i t H c=>by
   by_cases h:j=t
   ·subst h;exact getD_set_true (f i c)
   rw[getD_set_ne Xd h]at H;exact getD_set_true (v i t H c)
  rw[<-zbh Wm]at s
  have c:=W.step (Q:=Q') (N:=wpAny P .any ops Q' (d+m) (b.setIfInBounds j Xc)) k e M v G s fun b d h r f=>R _ b d h p n g q r f
  unfold wpOp;simp only[e]
  split
  ·rename_i b
   rw[kE b]at c;exact .inl c
  rename_i b
  rw[kF b]at c;exact c
variable(ops C E)in
structure zh1 (l:List Oper) (k:Nat) (F:σ) (a:Act):Prop where
 out:(∀j,l[j]? =ops[k+j]?\/l.length<=j)->Lex C E (List.range' k l.length) F a
theorem zh1.cons {rest:List Oper} {k:Nat} {F:σ} {a:Act} (c:∀{i:Nat} {F:σ} {a:Act} {K b:σ->Act->Prop},(∀d f,K d f->b d f)->C i F a K->C i F a b) (h:ops[k]? =Xa o->C k F a (zh1 ops C E rest (k+1))):zh1 ops C E (o :: rest) k F a:=⟨fun g=>by
 have l:ops[k]? =Xa o:=by
  rcases g 0 with e|e
  ·grind
  simp at e
 have b:∀j,rest[j]? =ops[k+1+j]?\/rest.length<=j:=fun j=>by
  rcases g (j+1)with e|e
  ·grind
  grind
 exact c (fun d f c=>c.out b) (h l)⟩
theorem zmi {a:Act} {w:Xn} {l r:List Oper} {F:σ} (W:Way P L.toArray C Ln ok) (T:Nat) (e:P.follows .mixedOrders=Xc) (p:Q7 L.toArray T=Xc) (g:L.take T=l) (h:L.drop T=r) (d:T<=L.length) (n:∀b:Array Bool,ok b F a w.drew)
  (q:∀b F a w,ok b F a w->E F a->wpList P L.toArray Q r a w) (c:zh1 L.toArray C E l 0 F a):(Code.region id L.toArray Xc).wp P Q a w:=by
 have b:l.length=T:=by rw[<-g,Of];omega
 have d:r.length=L.length - T:=by rw[<-h,List.length_drop]
 refine wp_region_any e ?_;have k:qd (Array.replicate L.toArray.size Xd) T=Ya T:=by
  unfold qd;refine Yy.2 fun i f=>?_
  have:i<T:=Si f
  simp[show i<L.length by omega]
 have e:=c.out (fun j=>by
  rcases Ys j T with c|c
  ·left;rw[<-g,List.getElem?_take_of_lt c];simp
  right;omega)
 rw[b,<-Uk]at e;have b:=zgr (E:=E) W (T:=T) (l:=r) (m:=L.length - T) (Q':=Q) p (by simp;omega) d (fun j=>by rw[<-h,Ux];simp) q
  T (Array.replicate L.toArray.size Xd) F a w.drew Sm (fun i f d=>by simp at d;simp[d]) (by rw[k];simp) (fun i j c _=>by
   exfalso;rw[Array.getD_eq_getD_getElem?,Array.getElem?_replicate]at c
   split at c <;> simp at c)
  (n _) (Rx k e)
 have c:T+(L.length - T)=L.toArray.size:=by simp;omega
 rw[c]at b;exact b
end
end
theorem zah {α:Type}:∀{S:List (Nat × α)} {k:Nat} {s:α},S.lookup k=Xa s->∃x∈S,x.2=s/\x.1=k
 | [],k,s,h=>by simp at h
 | x :: S,k,s,h=>by
  rw[List.lookup_cons]at h
  split at h
  ·rename_i he
   exact⟨x,Sm,by simpa using h,(by simpa using he:k=x.1).symm⟩
  obtain⟨y,hy,he⟩:=zah h;exact⟨y,by simp[hy],he⟩
structure zf (w0:Xn) where
 world:Xn
 aA:zc w0 world
def zo2 (o:Oper):Bool:=
 match o.op with
 | .move _ | .assign _ | .pick .. | .build .. | .load .. | .binOp .. | .unOp .. | .convert .. | .fieldAddr .. | .field .. | .indexAddr .. | .index .. | .extract .. | .slice .. | .lookup ..=>Xc
 | .call { callee:= .builtin .len,.. } | .call { callee:= .builtin .cap,.. } | .call { callee:= .builtin .max,.. } | .call { callee:= .builtin .min,.. }=>Xc
 | _=>Xd
theorem zbV {P:Program} {α:Type} {s:Sem α} {g:α->Xq} {w:Xn} {n:Next}:(s >>= fun v=>pure (Next.value (g v))).run P w= .ok n w'->∃v,n= .value v:=by
 intro h;rw[Yg]at h
 cases a:s.run P w with
 | ok x b=>simp[a,Result.andThen,Yp]at h;exact⟨_,h.1.symm⟩
 | halt x b=>simp[a,Result.andThen]at h
structure zq (I:Xn->Prop) where
 world:Xn
 holds:I world
section
variable{P:Program} {o:Oper} {a:Act}
theorem zkK (b:zo2 o=Xc) {a:Operand->Xq} {w w':Xn} {n:Next}:(execOp a o).run P w= .ok n w'->∃v,n= .value v:=by
 obtain⟨a,c,a,a,a,a⟩:=o
 cases c <;> simp only[zo2,Ym]at b <;> simp only[execOp]
 all_goals first
  | exact zbV (g:=id)
  | exact zbV
  | (intro h;simp[Yp]at h;exact⟨_,h.1.symm⟩)
  | skip
 rename_i d
 obtain⟨a,c,c⟩:=d
 cases a with
 | value _=>simp at b
 | invoke _ _=>simp at b
 | builtin a=>
  cases a <;> simp only[Ym]at b <;> simp only[resolve,pure_bind,invoke,builtin] <;> exact zbV (g:=id)
theorem zbm (f:zo2 o=Xc) {U:Xn->Prop} {K:Act->Prop} (h:o.quiet P a U K):∃v,(∀w,U w->(execOp a.eval o).run P w= .ok (.value v) w)/\K (a.put o.dst v):=by
 obtain⟨v,c,b⟩:=h;refine⟨v,fun w d=>?_,b⟩
 have b:=c w d;unfold Oper.quietAt at b;have c:=fun n e=>@zkK P o f a.eval w e n
 generalize(execOp a.eval o).run P w=r at*
 cases r with
 | ok n e=>
  cases n <;> simp only[Oper.quietUpon]at b
  case value u=>rw[b.1,b.2]
  case skip=>obtain⟨_,d⟩:=c _ _ rfl;cases d
  case enter f f=>obtain⟨_,d⟩:=c _ _ rfl;cases d
 | halt x e=>simp only[Oper.quietUpon]at b
theorem zjF {w:Xn} (x p) (b:o.op= .nilCheck x) (c:a.eval x= Xj (Xa p)):(execOp a.eval o).run P w= .ok (.value (Xj (Xa p))) w:=by
 simp[execOp,b,c]
theorem zP.call {w:Xn} {K:Xq->Xn->Prop} {f:FuncId} {xs:List Operand} {ts:Array TypeId} {fn:Func} (args)
  (ho : o.op = .call { callee := .value (.func f), args := xs.toArray, argTypes := ts }) (hf : P.funcs[f]? = some fn) (hb : fn.body.isNone = false) (hn : (fn.name == "runtime.NumGoroutine") = false)
  (ha:xs.map a.eval=args) (h:Xp P f args.toArray w fun e w'=>∃v,e= Xl v/\K v w'):zP P o a w K:=by
 have hr:(execOp a.eval o).run P w= .ok (.enter f args.toArray) w:=by
  have he : a.eval (.func f) = .func (.func f) #[] #[] := rfl;simp only [execOp, ho, resolve, he, List.map_toArray, ha, Deferred.ofValue, pure_bind, invoke];have hn' : fn.name ≠ "runtime.NumGoroutine" := by simpa using hn
  have hb':fn.body≠Xb:=fun e=>by rw[e]at hb;cases hb
  simp[callFunc,hf,hb',hn',program,Yg,Sem.run]
 unfold zP;rw[hr];exact h
end
structure zgf where
 arg:Operand
 pv:Xq->Prop
 post:Xq->Xq->Xn->Prop
 step:Xn->Xn->Prop
 pre:Xn->Prop:=fun _=>True
section
variable(I:Xn->Prop) (P:Program) (ops:Array Oper) (S:Nat->Option zgf)
def jb (i:Nat) (F:Nat->Xn->Prop) (a:Act) (K:(Nat->Xn->Prop)->Act->Prop):Prop:=
 match ops[i]? with
 | none=>False
 | some o=>
  if Xx o (yielded ops a.tmps)then
   match S i with
   | none=>∃v,(∀w,I w->(∀m,anc ops 9 m i=Xc->F m w)->(execOp a.eval o).run P w= .ok (.value v) w)/\K F (a.put o.dst v)
   | some s=>(∀w,I w->s.pre w->(∀m,anc ops 9 m i=Xc->F m w)->zP P o a w fun v w'=>I w'/\s.step w w'/\s.pv v/\s.post (a.eval s.arg) v w')/\∀v,s.pv v->K (zdG F i (s.post (a.eval s.arg) v)) (a.put o.dst v)
  else K F (a.put o.dst undef)
end
section
variable{I:Xn->Prop} {P:Program} {ops:Array Oper} {S:Nat->Option zgf} {J:Act->Xn->Prop}
theorem jb.mono {i:Nat} {F:Nat->Xn->Prop} {a:Act} {K c:(Nat->Xn->Prop)->Act->Prop}
  (h:∀b d,(∀m,m≠i->b m=F m)->K b d->c b d) (e:jb I P ops S i F a K):jb I P ops S i F a c:=by
 unfold jb at*
 split
 ·grind
 grind [ZV]
theorem jb.swap {i:Nat} {c:Oper} {F:Nat->Xn->Prop} {a:Act} {K:(Nat->Xn->Prop)->Act->Prop} {w:Xn}
  (hi:ops[i]? =Xa c) (y:ops[j]? =Xa oj) (E:i≠j) (n:c.apart ops oj=Xc)
  (p:∀cs b,c.op≠.select cs b) (r:∀cs b,oj.op≠.select cs b)
  (u:∀k s o,S k=Xa s->ops[k]? =Xa o->∀d,s.arg= .tmp d->d∈o.looksAt ops) (q:anc ops 9 i j=Xd) (l:anc ops 9 j i=Xd) (hS:∀s,S i=Xa s->∃v,s.pv v)
  (B:I w) (H:∀m,anc ops 9 m j=Xc->F m w)
  (h:jb I P ops S i F a fun e f=>jb I P ops S j e f K):jb I P ops S j F a fun e f=>jb I P ops S i e f K:=by
 obtain⟨f,G,g⟩:=Oper.apart_spec n;have t:∀v,execOp (a.put oj.dst v).eval c=execOp a.eval c:=fun v=>execOp_put c p a oj.dst v g
 have x:∀v,execOp (a.put c.dst v).eval oj=execOp a.eval oj:=fun v=>execOp_put oj r a c.dst v f
 have M:∀v,Xx c (yielded ops (a.put oj.dst v).tmps)=Xx c (yielded ops a.tmps):=fun v=>wanted_put c a oj.dst v g
 have N:∀v,Xx oj (yielded ops (a.put c.dst v).tmps)=Xx oj (yielded ops a.tmps):=fun v=>wanted_put oj a c.dst v f
 have z:∀v w K,zP P c (a.put oj.dst v) w K=zP P c a w K:=fun v w K=>by unfold zP;rw[t]
 have A:∀v w K,zP P oj (a.put c.dst v) w K=zP P oj a w K:=fun v w K=>by unfold zP;rw[x]
 have C:∀v s,S i=Xa s->(a.put oj.dst v).eval s.arg=a.eval s.arg:=fun v s p=>Act.eval_put fun d n e=>g d n (u i s c p hi d e)
 have D:∀v s,S j=Xa s->(a.put c.dst v).eval s.arg=a.eval s.arg:=fun v s p=>Act.eval_put fun d n e=>f d n (u j s oj p y d e)
 have L:∀v u,(a.put c.dst v).put oj.dst u=(a.put oj.dst u).put c.dst v:=fun v u=>Act.put_comm a v u G
 have u:∀n,(fun m=>anc ops 9 m i=Xc->zdG F j n m w=F m w)=fun _=>True:=fun n=>by
  funext m
  simp only[eq_iff_iff,iff_true];intro e;rw[ZV (fun f=>by subst f;rw[l]at e;cases e)]
 have p:∀n g,(∀m,anc ops 9 m i=Xc->zdG F j n m g)↔(∀m,anc ops 9 m i=Xc->F m g):=fun n g=>by
  constructor <;> intro r m e <;> have:=r m e
  ·rwa [ZV (fun f=>by subst f;rw[l]at e;cases e)]at this
  rwa [ZV (fun f=>by subst f;rw[l]at e;cases e)]
 have l:∀n g,(∀m,anc ops 9 m j=Xc->zdG F i n m g)↔(∀m,anc ops 9 m j=Xc->F m g):=fun n g=>by
  constructor <;> intro r m e <;> have:=r m e
  ·rwa [ZV (fun f=>by subst f;rw[q]at e;cases e)]at this
  rwa [ZV (fun f=>by subst f;rw[q]at e;cases e)]
 clear u;unfold jb at h⊢;simp only[hi,y,t,x,M,N,z,A,L]at h⊢
 cases e:Xx c (yielded ops a.tmps) <;> cases c:Xx oj (yielded ops a.tmps) <;>
  simp only[e,c,if_true,if_false,Ym]at h⊢
 ·exact h
 ·cases c:S j with
  | none=>simp only[c]at h⊢;exact h
  | some s=>simp only[c,D _ s c]at h⊢;exact h
 ·cases e:S i with
  | none=>simp only[e]at h⊢;exact h
  | some s=>simp only[e,C _ s e]at h⊢;exact h
 cases e:S i with
 | none=>
  simp only[e]at h;obtain⟨x,r,h⟩:=h
  cases c:S j with
  | none=>
   simp only[c]at h⊢;obtain⟨u,n,h⟩:=h;exact⟨u,n,x,r,h⟩
  | some s=>
   simp only[c,D _ s c]at h⊢;exact⟨h.1,fun u t=>⟨x,fun g f q=>r g f ((p _ _).1 q),h.2 u t⟩⟩
 | some G=>
  simp only[e]at h;obtain⟨y,h⟩:=h;obtain⟨L,A⟩:=hS G e
  cases c:S j with
  | none=>
   simp only[c,C _ G e]at h⊢;obtain⟨u,n,_⟩:=h L A;refine⟨u,fun g f q=>n g f ((l _ _).2 q),y,fun x r=>?_⟩
   obtain⟨z,z,N⟩:=h x r;have M:=n w B ((l _ _).2 H);have n:=z w B ((l _ _).2 H);rw[M]at n;simp only[Result.ok.injEq,Next.value.injEq,and_true]at n;subst n;exact N
  | some n=>
   simp only[c,D _ n c,C _ G e]at h⊢;refine⟨fun g f c q=>(h L A).1 g f c ((l _ _).2 q),fun u t=>⟨fun g f c q=>y g f c ((p _ _).1 q),fun x r=>?_⟩⟩
   have:=(h x r).2 u t;rwa [znD E]at this
def okE (I:Xn->Prop) (J:Act->Xn->Prop) (S:Nat->Option zgf) (listed:Array Bool) (F:Nat->Xn->Prop) (a:Act) (w:Xn):Prop:=
 I w/\J a w/\(∀i,F i w)/\(∀i,(∀w,F i w)\/∃s u v,S i=Xa s/\F i=s.post u v/\listed.getD i Xd=Xc)/\∀k t,S k=Xa t->listed.getD k Xc=Xd->t.pre w
theorem zti (i:∀k s o,S k=Xa s->ops[k]? =Xa o->∀d,s.arg= .tmp d->d∈o.looksAt ops) (hS:∀k s,S k=Xa s->∃v,s.pv v)
  (hp:∀k s j t,S k=Xa s->S j=Xa t->j≠k->anc ops 9 j k=Xd->∀u v w w',t.step w w'->s.post u v w->s.post u v w') (hpre:∀j t k s,S j=Xa t->S k=Xa s->j≠k->∀w w',s.step w w'->t.pre w->t.pre w')
  (g:∀(j:Nat) o,ops[j]? =Xa o->S j=Xb->∀a v w,(execOp a.eval o).run P w= .ok (.value v) w->J a w->J (a.put o.dst v) w) (x:∀(j:Nat) o s,ops[j]? =Xa o->S j=Xa s->∀a w K,J a w->I w->zP P o a w K->zP P o a w fun v w'=>K v w'/\J (a.put o.dst v) w') (L:∀(j:Nat) o,ops[j]? =Xa o->∀a w,J a w->J (a.put o.dst undef) w):
  Way P ops (jb I P ops S) (fun j F=>∃w,I w/\∀m,anc ops 9 m j=Xc->F m w) (okE I J S) where
 mono h:=jb.mono fun b c e D=>h b c (fun j b ⟨w,l,c⟩=>⟨w,l,fun m f=>by
  rw[e m (fun q=>by subst q;rw[b]at f;cases f)]
  exact c m f⟩) D
 swap hi hj hlt hap hsi hsj b hji:=fun⟨_,l,c⟩=>jb.swap hi hj Wm hap hsi hsj i b hji (hS _) l c
 lean j h:=⟨_,h.1,fun m _=>h.2.2.1 m⟩
 step {listed F a w j oj K N Q} hsz hoj h0 hc hok hcm hN:=by
  obtain⟨E,G,B,C,e⟩:=hok;have r:∀i,(∀w,F i w)\/∃s u v,S i=Xa s/\F i=s.post u v/\(listed.setIfInBounds j Xc).getD i Xd=Xc:=fun i=>(C i).imp id fun⟨s,u,v,z,y,A⟩=>⟨s,u,v,z,y,getD_set_true A⟩
  have n:∀k,(listed.setIfInBounds j Xc).getD k Xc=Xd->k≠j/\listed.getD k Xc=Xd:=fun k c=>by
   by_cases q:j=k
   ·subst q;have:=(aS.1 hoj).1
    simp[show j<listed.size by omega]at c
   rw[getD_set_ne Xc q]at c;exact⟨fun h=>q h.symm,c⟩
  simp only[jb,hoj]at hcm
  split
  ·rename_i c
   simp only[c,if_true]at hcm
   cases p:S j with
   | none=>
    simp only[p]at hcm;obtain⟨v,f,D⟩:=hcm;have h:=f w E (fun m _=>B m)
    unfold Oper.wp;rw[h];exact hN F _ w ⟨E,g j oj hoj p a v w h G,B,r,fun k t f g=>e k t f (n k g).2⟩ D
   | some s=>
    simp only[p]at hcm;refine(x j oj s hoj p a w _ G E (hcm.1 w E (e j s p h0) (fun m _=>B m))).wp fun v w' ⟨⟨M,h,R,x⟩,H⟩=>?_
    refine hN (zdG F j (s.post (a.eval s.arg) v)) _ w' ⟨M,H,fun i=>?_,fun i=>?_,fun k t f g=>hpre k t j s f p (n k g).1 w w' h (e k t f (n k g).2)⟩ (hcm.2 v R)
    ·unfold zdG
     split
     ·exact x
     rename_i b
     rcases C i with l|⟨x,u1,C,z,y,A⟩
     ·exact l w'
     rw[y];refine hp i x j s z p (fun q=>b q.symm) ?_ u1 C w w' h ?_
     ·cases h:anc ops 9 j i with
      | false=>rfl
      | true=>
       have l:=QS hc 9 j i (fun k D=>hc k i A D) h
       rw[JY h0]at l;cases l
     have:=B i;rw[y]at this;exact this
    by_cases b:i=j
    ·subst b;refine .inr ⟨s,a.eval s.arg,v,p,?_,?_⟩
     ·unfold zdG;rw[kE rfl]
     have:=(aS.1 hoj).1
     simp[show i<listed.size by omega]
    rcases r i with l|⟨x,u1,C,z,y,A⟩
    ·refine .inl fun w=>?_
     unfold zdG;rw[kF b];exact l w
    refine .inr ⟨x,u1,C,z,?_,A⟩;unfold zdG;rw[kF b];exact y
  rename_i c
  simp only[c]at hcm;exact hN F _ w ⟨E,L j oj hoj a w G,B,r,fun k t f g=>e k t f (n k g).2⟩ hcm
variable{Q:Act->Xn->Prop}
variable(I P ops S Q)in
abbrev zaA:List Oper->Nat->(Nat->Xn->Prop)->Act->Prop:=zh1 ops (jb I P ops S) fun F a=>∀w,I w->(∀i,F i w)->Q a w
theorem zia {Q:Exit->Act->Xn->Prop} {a:Act} {w:Xn} {l r:List Oper} (T:Nat) (e:I w.drew) (i:P.follows .mixedOrders=Xc) (c:Q7 L.toArray T=Xc) (g:L.take T=l) (m:L.drop T=r) (f:T<=L.length) (b:∀k s o,S k=Xa s->L.toArray[k]? =Xa o->∀d,s.arg= .tmp d->d∈o.looksAt L.toArray)
  (hS:∀k s,S k=Xa s->∃v,s.pv v) (hp:∀k s j t,S k=Xa s->S j=Xa t->j≠k->anc L.toArray 9 j k=Xd->∀u v w w',t.step w w'->s.post u v w->s.post u v w') (hpre:∀j t k s,S j=Xa t->S k=Xa s->j≠k->∀w w',s.step w w'->t.pre w->t.pre w') (hpr0:∀k t,S k=Xa t->t.pre w.drew)
  (h:zaA I P L.toArray S (fun a w=>wpList P L.toArray Q r a w) l 0 (fun _ _=>True) a):(Code.region id L.toArray Xc).wp P Q a w:=
 zmi (zti (J:=fun _ _=>True) b hS hp hpre (fun _ _ _ _ _ _ _ _ _=>trivial) (fun _ _ _ _ _ _ _ _ _ _ h=>h.mono fun _ _ b=>⟨b,trivial⟩) (fun _ _ _ _ _ _=>trivial)) T i c g m f (fun _=>⟨e,trivial,fun _=>trivial,fun _=> .inl fun _=>trivial,fun k t b _=>hpr0 k t b⟩) (fun _ _ _ _ b h=>h _ b.1 b.2.2.1) h
variable{o:Oper} {rest:List Oper} {k:Nat} {F:Nat->Xn->Prop} {a:Act}
theorem zdz (h:ops[k]? =Xa o->jb I P ops S k F a (zaA I P ops S Q rest (k+1))):zaA I P ops S Q (o :: rest) k F a:=zh1.cons (fun h=>jb.mono fun b c _=>h b c) h
theorem zfK (b:Xx o (yielded ops a.tmps)=Xc) (hS:S k=Xb) {v:Xq} (d:∀w,I w->(execOp a.eval o).run P w= .ok (.value v) w) (e:zaA I P ops S Q rest (k+1) F (a.put o.dst v)):zaA I P ops S Q (o :: rest) k F a:=zdz fun c=>by
 simp only[jb,c,b,if_true,hS];exact⟨v,fun w b _=>d w b,e⟩
theorem zal (e:zo2 o=Xc) (b:Xx o (yielded ops a.tmps)=Xc) (hS:S k=Xb)
  (h:∀K:Act->Prop,(∀a,zaA I P ops S Q rest (k+1) F a->K a)->o.quiet P a (fun w'=>∃x:zq I,w'=x.world) K):zaA I P ops S Q (o :: rest) k F a:=by
 obtain⟨v,c,d⟩:=zbm e (h _ fun _ h=>h)
 exact zfK b hS (fun w b=>c w ⟨⟨w,b⟩,rfl⟩) d
theorem Zr{P Q:Prop}(k:Q)(h:Go.RowKit.Hid Q->P:=by intro h;refine zal rfl rfl rfl (fun K a=>?_);go_big_quiet_op;exact a _ h.out):P:=h k
theorem znl (b:Xx o (yielded ops a.tmps)=Xd) (h:zaA I P ops S Q rest (k+1) F (a.put o.dst undef)):zaA I P ops S Q (o :: rest) k F a:=zdz fun b=>by grind [jb,Ym]
theorem jC {s:zgf} (d:Xx o (yielded ops a.tmps)=Xc) (hS:S k=Xa s)
  (h:∀w,I w->s.pre w->(∀m,anc ops 9 m k=Xc->F m w)->zP P o a w fun v w'=>I w'/\s.step w w'/\s.pv v/\s.post (a.eval s.arg) v w')
  (c:∀v,s.pv v->zaA I P ops S Q rest (k+1) (zdG F k (s.post (a.eval s.arg) v)) (a.put o.dst v)):zaA I P ops S Q (o :: rest) k F a:=zdz fun b=>by
 simp only[jb,b,d,if_true,hS];exact⟨h,c⟩
theorem zby (h:∀w,I w->(∀i,F i w)->Q a w):zaA I P ops S Q [] k F a:=⟨fun _=>h⟩
theorem zhh (x p) (b:o.op= .nilCheck x) (d:a.eval x= Xj (Xa p)) (c:Xx o (yielded ops a.tmps)=Xc) (hS:S k=Xb) (h:zaA I P ops S Q rest (k+1) F (a.put o.dst (Xj (Xa p)))):zaA I P ops S Q (o :: rest) k F a:=zfK c hS (fun _ _=>zjF x p b d) h
end
def zot (ops:Array Oper) (S:List (Nat × zgf)):Bool:=S.all fun x=>match x.2.arg with
 | .tmp d=>(match ops[x.1]? with | some o=>(o.looksAt ops).contains d | none=>Xd)
 | _=>Xc
theorem zjo {S:List (Nat × zgf)} (h:zot ops S=Xc):∀k s o,S.lookup k=Xa s->ops[k]? =Xa o->∀d,s.arg= .tmp d->d∈o.looksAt ops:=fun k s o a e d b=>by
 have c:(k,s)∈S:=by
  induction S with
  | nil=>simp at a
  | cons x S f=>
   rw[List.lookup_cons]at a
   split at a
   ·grind
   exact Yj _ (f (by simp only[zot,List.all_cons,Xt]at h;exact h.2) a)
 have:=Yv.1 h _ c;simp only[b,e]at this
 simpa using this
theorem Jw {I:Xn->Prop} {P:Program} {a:Act} {w:Xn} {l r:List Oper} (T:Nat) (S:List (Nat × zgf)) (d:I w.drew) (g:P.follows .mixedOrders=Xc) (b:zot L.toArray S=Xc) (c:Q7 L.toArray T=Xc) (f:L.take T=l) (i:L.drop T=r) (e:T<=L.length)
  (hS:∀x∈S,∃v,x.2.pv v) (hp:∀k s j t,S.lookup k=Xa s->S.lookup j=Xa t->j≠k->anc L.toArray 9 j k=Xd->∀u v w w',t.step w w'->s.post u v w->s.post u v w') (hpre:∀j t k s,S.lookup j=Xa t->S.lookup k=Xa s->j≠k->∀w w',s.step w w'->t.pre w->t.pre w') (hpr0:∀k t,S.lookup k=Xa t->t.pre w.drew)
  (h:zaA I P L.toArray (fun k=>S.lookup k) (fun a w=>wpList P L.toArray Q r a w) l 0 (fun _ _=>True) a):(Code.region id L.toArray Xc).wp P Q a w:=
 zia T d g c f i e (zjo b) (fun k s b=>by obtain⟨x,c,rfl,_⟩:=zah b;exact hS x c) hp hpre hpr0 h
structure zex where
 pv:Xq->Prop
 post:Xq->Xn->Prop
 step:Xn->Xn->Prop
 pre:Xn->Prop:=fun _=>True
def zex.e (s:zex):zgf:=⟨.const undef,s.pv,fun _=>s.post,s.step,s.pre⟩
theorem ziG {x:Option zex} {s:zgf} (h:x.map zex.e=Xa s):∃t,x=Xa t/\s=t.e:=by
 cases x with
 | none=>cases h
 | some t=>cases h;exact⟨t,rfl,rfl⟩
section
variable{I:Xn->Prop} {P:Program} {ops:Array Oper} {S:Nat->Option zex} {Q:Act->Xn->Prop}
variable(I P ops S Q)in
abbrev zjs:List Oper->Nat->(Nat->Xn->Prop)->Act->Prop:=zaA I P ops (fun k=>(S k).map zex.e) Q
theorem j1 {Q:Exit->Act->Xn->Prop} {a:Act} {w:Xn} {l r:List Oper} (T:Nat) (S:List (Nat × zex)) (c:I w.drew) (f:P.follows .mixedOrders=Xc) (b:Q7 L.toArray T=Xc) (e:L.take T=l) (g:L.drop T=r) (d:T<=L.length)
  (hS:∀x∈S,∃v,x.2.pv v) (hp:∀k s j t,S.lookup k=Xa s->S.lookup j=Xa t->j≠k->anc L.toArray 9 j k=Xd->∀v w w',t.step w w'->s.post v w->s.post v w') (hpre:∀j t k s,S.lookup j=Xa t->S.lookup k=Xa s->j≠k->∀w w',s.step w w'->t.pre w->t.pre w') (hpr0:∀k t,S.lookup k=Xa t->t.pre w.drew)
  (h:zjs I P L.toArray (fun k=>S.lookup k) (fun a w=>wpList P L.toArray Q r a w) l 0 (fun _ _=>True) a):(Code.region id L.toArray Xc).wp P Q a w:=by
 refine zia T c f b e g d ?_ ?_ ?_ ?_ ?_ h
 ·intro k s b b _ d c;obtain⟨t,_,rfl⟩:=ziG b;cases c
 ·intro k s b;obtain⟨t,c,rfl⟩:=ziG b;obtain⟨x,d,rfl,_⟩:=zah c;exact hS x d
 ·intro k s j t b f d g _ v;obtain⟨s,c,rfl⟩:=ziG b;obtain⟨t,e,rfl⟩:=ziG f;exact hp k s j t c e d g v
 ·intro j t k s f b d;obtain⟨s,c,rfl⟩:=ziG b;obtain⟨t,e,rfl⟩:=ziG f;exact hpre j t k s e c d
 intro k t b;obtain⟨t,c,rfl⟩:=ziG b;exact hpr0 k t c
variable{o:Oper} {rest:List Oper} {k:Nat} {F:Nat->Xn->Prop} {a:Act}
theorem zb8 (b:zo2 o=Xc) (c:Xx o (yielded ops a.tmps)=Xc) (hS:S k=Xb)
  (h:∀K:Act->Prop,(∀a,zjs I P ops S Q rest (k+1) F a->K a)->o.quiet P a (fun w'=>∃x:zq I,w'=x.world) K):zjs I P ops S Q (o :: rest) k F a:=zal b c (Rr hS) h
theorem qY{P Q:Prop}(k:Q)(h:Go.RowKit.Hid Q->P:=by intro h;refine zb8 rfl rfl rfl (fun K a=>?_);go_big_quiet_op;exact a _ h.out):P:=h k
theorem j9 {s:zex} (c:Xx o (yielded ops a.tmps)=Xc) (hS:S k=Xa s)
  (h:∀w,I w->s.pre w->(∀m,anc ops 9 m k=Xc->F m w)->zP P o a w fun v w'=>I w'/\s.step w w'/\s.pv v/\s.post v w')
  (b:∀v,s.pv v->zjs I P ops S Q rest (k+1) (zdG F k (s.post v)) (a.put o.dst v)):zjs I P ops S Q (o :: rest) k F a:=jC (s:=s.e) c (Rr hS) h b
theorem zaj (h:∀w,I w->(∀i,F i w)->Q a w):zjs I P ops S Q [] k F a:=zby h
end
structure zqH where
 pv:Xq->Prop
 post:Xq->Xn->Prop
def zqH.i (s:zqH):zex:=⟨s.pv,s.post,zc,fun _=>True⟩
section
variable{P:Program} {ops:Array Oper} {w0:Xn} {S:Nat->Option zqH} {Q:Act->Xn->Prop}
variable(P ops w0 S Q)in
abbrev zox:List Oper->Nat->(Nat->Xn->Prop)->Act->Prop:=zjs (zc w0) P ops (fun k=>(S k).map zqH.i) Q
theorem znA (w:Xn):zc w w.drew:=show Below _ _ _ from(bR _ _).drew
theorem jf {Q:Exit->Act->Xn->Prop} {a:Act} {w:Xn} {l r:List Oper} (T:Nat) (S:List (Nat × zqH)) (j:P.follows .mixedOrders=Xc) (f:Q7 L.toArray T=Xc) (i:L.take T=l) (m:L.drop T=r) (g:T<=L.length)
  (hS:∀x∈S,∃v,x.2.pv v) (hp:∀x∈S,∀v w w',zc w w'->x.2.post v w->x.2.post v w')
  (h:zox P L.toArray w (fun k=>S.lookup k) (fun a w=>wpList P L.toArray Q r a w) l 0 (fun _ _=>True) a):(Code.region id L.toArray Xc).wp P Q a w:=by
 have b:∀k s,((S.lookup k).map zqH.i).map zex.e=Xa s->∃x∈S,s=x.2.i.e:=fun k s c=>by
  cases e:S.lookup k with
  | none=>rw[e]at c;cases c
  | some t=>
   rw[e]at c;cases c;obtain⟨x,d,rfl,_⟩:=zah e;exact⟨x,d,rfl⟩
 refine zia T (znA w) j f i m g ?_ ?_ ?_ ?_ ?_ h
 ·intro k s e c _ e e;obtain⟨x,_,rfl⟩:=b k s c;cases e
 ·intro k s c;obtain⟨x,d,rfl⟩:=b k s c;exact hS x d
 ·intro k s j t c e _ _ _ v w w' f;obtain⟨x,d,rfl⟩:=b k s c;obtain⟨y,_,rfl⟩:=b j t e;exact hp x d v w w' f
 ·intro j t k s e _ _ _ _ _ _;obtain⟨x,_,rfl⟩:=b j t e;trivial
 intro k t c;obtain⟨x,_,rfl⟩:=b k t c;trivial
theorem qx {Q:Exit->Act->Xn->Prop} {a:Act} {w:Xn} {l:List Oper} (S:List (Nat × zqH)) (c:P.follows .mixedOrders=Xc) (b:Q7 l.toArray l.length=Xc)
  (hS:∀x∈S,∃v,x.2.pv v) (hp:∀x∈S,∀v w w',zc w w'->x.2.post v w->x.2.post v w')
  (h:zox P l.toArray w (fun k=>S.lookup k) (fun a w=>Q .normal a w) l 0 (fun _ _=>True) a):(Code.region id l.toArray Xc).wp P Q a w:=
 jf l.length S c b (List.take_length ..) (List.drop_length ..) (nR _) hS hp h
variable{o:Oper} {rest:List Oper} {k:Nat} {F:Nat->Xn->Prop} {a:Act}
theorem qR (e:zo2 o=Xc) (b:Xx o (yielded ops a.tmps)=Xc) (hS:S k=Xb)
  (h:∀K:Act->Prop,(∀a,zox P ops w0 S Q rest (k+1) F a->K a)->o.quiet P a (fun w'=>∃x:zf w0,w'=x.world) K):zox P ops w0 S Q (o :: rest) k F a:=by
 obtain⟨v,c,d⟩:=zbm e (h _ fun _ h=>h)
 exact zfK b (by simp only[hS];rfl) (fun w b=>c w ⟨⟨w,b⟩,rfl⟩) d
theorem ze{P Q:Prop}(k:Q)(h:Go.RowKit.Hid Q->P:=by intro h;refine qR rfl rfl rfl (fun K a=>?_);go_big_quiet_op;exact a _ h.out):P:=h k
theorem ji (b:Xx o (yielded ops a.tmps)=Xd) (h:zox P ops w0 S Q rest (k+1) F (a.put o.dst undef)):zox P ops w0 S Q (o :: rest) k F a:=znl b h
theorem zx {s:zqH} (b:Xx o (yielded ops a.tmps)=Xc) (hS:S k=Xa s)
  (h:∀w,zc w0 w->(∀m,anc ops 9 m k=Xc->F m w)->zP P o a w fun v w'=>zc w w'/\s.pv v/\s.post v w')
  (d:∀v,s.pv v->zox P ops w0 S Q rest (k+1) (zdG F k (s.post v)) (a.put o.dst v)):zox P ops w0 S Q (o :: rest) k F a:=jC (s:=s.i.e) b (by simp only[hS];rfl) (fun w b _ c=>(h w b c).mono fun _ _ c=>⟨b.trans c.1,c⟩) d
theorem zL (h:∀w,zc w0 w->(∀i,F i w)->Q a w):zox P ops w0 S Q [] k F a:=zby h
theorem jG (x p) (b:o.op= .nilCheck x) (d:a.eval x= Xj (Xa p)) (c:Xx o (yielded ops a.tmps)=Xc) (hS:S k=Xb) (h:zox P ops w0 S Q rest (k+1) F (a.put o.dst (Xj (Xa p)))):zox P ops w0 S Q (o :: rest) k F a:=zhh x p b d c (by simp only[hS];rfl) h
end
theorem qO (a:Addr) (i j:Nat):(a.add i).add j=a.add (i+j):=by
 unfold Addr.add
 by_cases b:i=0 <;> by_cases c:j=0 <;> simp[b,c] <;> omega
def jc (w:Xn) (x:Addr) (cs:List Xq):Prop:=∀j u,cs[j]? =Xa u->w.cell? (x.add j)=Xa u
theorem jc.aA {w:Xn} {x:Addr} {cs:List Xq} (h:jc w x cs) (b:zc w w'):jc w' x cs:=fun j u c=>by
 have a:=h j u c;rw[Below.cell b (World.block_lt_of_cell? _ _ a)];exact a
theorem qT {α:Type} {enc:α->List Xq} {k:Nat}:∀(l:List α),(∀a∈l,(enc a).length=k)->(l.flatMap enc).length=l.length*k
 | [],_=>Sm
 | a :: l,h=>by
  rw[Ye,lA,h a Sm,qT l (fun b c=>h b (by simp[c])),Yi,Ul,Nat.one_mul,Om]
theorem ZF {α:Type} {enc:α->List Xq} {k:Nat}:∀(l:List α) (j:Nat) (a:α),(∀b∈l,(enc b).length=k)->l[j]? =Xa a->∀i u,(enc a)[i]? =Xa u->(l.flatMap enc)[j*k+i]? =Xa u
 | [],j,a,_,h,_,_,_=>by simp at h
 | b :: l,0,a,d,h,i,u,hi=>by
  simp at h;subst h
  have c:i< (enc b).length:=by
   rcases Ys i (enc b).length with h|h
   ·exact h
   rw[gN h]at hi;cases hi
  rw[Ye,Gb,zA,Yw c];exact hi
 | b :: l,j+1,a,d,h,i,u,hi=>by
  have c:=d b Sm
  rw[Ye,aR (by rw[c,Ul];omega),c]
  have e:(j+1)*k+i - k=j*k+i:=by rw[Ul];omega
  rw[e];exact ZF l j a (fun c e=>d c (by simp[e])) (Si h) i u hi
theorem jc.elem {α:Type} {enc:α->List Xq} {k:Nat} {w:Xn} {x:Addr} {l:List α} (h:jc w x (l.flatMap enc)) (e:∀b∈l,(enc b).length=k) {a:α} (c:l[j]? =Xa a):jc w (x.add (j*k)) (enc a):=fun i u d=>by
 rw[qO];exact h _ _ (ZF l j a e c i u d)
def jN {α:Type} (enc:α->List Xq) (w:Xn) (v:Xq) (l:List α):Prop:=
 ∃a c,v= O a l.length c/\(a=Xb->l=[])/\∀x,a=Xa x->jc w x (l.flatMap enc)
theorem jN.aA {α:Type} {enc:α->List Xq} {w:Xn} {v:Xq} {l:List α} (h:jN enc w v l) (f:zc w w'):jN enc w' v l:=by
 obtain⟨a,c,b,d,e⟩:=h;exact⟨a,c,b,d,fun x a=>(e x a).aA f⟩
theorem Z4 {α:Type} {enc:α->List Xq} {w:Xn} {base a:Nat} {e:TypeId} {v:Xq} {l:List α} (h:w.ownsRow base e a v l.length (l.flatMap enc)):jN enc w v l:=by
 rcases h.2 with⟨rfl,c⟩|⟨g,a,b,rfl,b,b,b,b,b,b⟩
 ·have b:=eN c;subst b;exact⟨Xb,0,rfl,fun _=>rfl,fun x b=>by cases b⟩
 refine⟨Xa ⟨g,0,Xb⟩,a,rfl,fun h=>(by cases h),fun x b=>?_⟩
 cases b;exact h.cells rfl
theorem JI {w:Xn} {base a n:Nat} {e:TypeId} {v:Xq} (h:w.ownsRow base e a v n xs) (i:zc w w'):w'.ownsRow base e a v n xs:=by
 refine⟨h.1,?_⟩
 rcases h.2 with a|⟨g,a,b,rfl,d,c,f⟩
 ·grind
 exact .inr ⟨g,a,b,rfl,d,by rw[Below.block i g (aS.1 c).1];exact c,f⟩
theorem jz {w:Xn} {base a n:Nat} {e:TypeId} {v:Xq} (h:w.ownsRow base e a v n xs) (f:base'<=base):w.ownsRow base' e a v n xs:=by
 refine⟨h.1,?_⟩
 rcases h.2 with a|⟨g,a,b,rfl,c,d⟩
 ·grind
 exact .inr ⟨g,a,b,rfl,nT f c,d⟩
theorem qS {α:Type} {enc:α->List Xq} (h:∀a,∀u∈enc a,u.oneCell'=Xc) (l:List α):∀u∈l.flatMap enc,u.oneCell'=Xc:=fun u b=>by grind
theorem jB {n:Nat} (h:n<=140737488355328):n<=maxLen:=by simp[maxLen];omega
theorem za (w:Xn) (o):zc w (w.alloc o):=(bR _ _).alloc (nR _) _
theorem zK {w:Xn} (h:zc w W) {a:Addr} (b:w.heap.size<=a.block) (u):zc w (W.setCell a u):=Below.setCell h b u
theorem zW:Tryz.prog.follows .mixedOrders=Xc:=by kernel_rfl
def Zb (base:Nat) (v:Xq):Prop:=∀x n c,v= O (Xa x) n c->base<=x.block
theorem ZE (base:Nat):Zb base (O Xb 0 0):=fun x n c e=>by cases e
theorem Ze (x:Addr) (j:Nat):(x.add j).block=x.block:=by unfold Addr.add;split <;> rfl
theorem jN.setCell {α:Type} {enc:α->List Xq} {base:Nat} {w:Xn} {v:Xq} {l:List α} (h:jN enc w v l) (f:Zb base v) {a:Addr} (b:a.block<base) (u):jN enc (w.setCell a u) v l:=by
 obtain⟨x,c,b,d,e⟩:=h;refine⟨x,c,b,d,fun y d j t c=>?_⟩
 subst d;have:=f y _ _ b;rw[World.cell?_of_block (w:=w) (Below.heap_setCell _ _ _ _ (by rw[Ze];omega))]
 exact e y rfl j t c
theorem j5 (w:Xn) (g:Nat) (cs:Array Xq):w.grownBy (w.setRow g cs) (Xa g):=by
 refine⟨rfl,rfl,rfl,by simp[World.setRow],fun k a a=>?_⟩
 have:g≠k:=fun e=>a (by rw[e])
 unfold World.setRow
 grind
theorem ju {P:Program} {w:Xn} {base b n:Nat} {e:TypeId} {v:Xq} (d:w.ownsRow base e b v n xs) (h:v.ownBlock=Xa g) (a:Nat) (cs:List Xq) (c:a+cs.length<=n*b) (k:∀u∈cs,u.oneCell'=Xc):
  ∃w',(storeCells ⟨g,a,Xb⟩ cs 0).run P w= .ok () w'/\w'.ownsRow base e b v n (splice xs a cs)/\w.grownBy w' (Xa g)/\w'.heap.size=w.heap.size:=by
 obtain⟨m,c⟩:=d
 rcases c with⟨rfl,i⟩|⟨f,d,c,rfl,l,j,i,p,q,r⟩
 ·simp[Value.ownBlock]at h
 simp[Value.ownBlock]at h
 subst h;have h:n*b<=c.size:=by rw[q];exact Oi _ i
 refine⟨_,run_storeCells_at P f a e cs 0 c w j Wm k,⟨by rw[length_splice _ _ _ Wm];exact m,.inr ⟨f,d,_,rfl,l,setRow_heap w f c _ e _ j,i,p,?_,?_⟩⟩,j5 _ _ _,by simp[World.setRow]⟩
 ·simp;omega
 subst r
 apply Yf
 intro j;simp only[splice,Nat.add_zero];simp only[Uy,Um,Ux,Of,lA,Array.length_toList];have d:min a c.size=a:=Wm
 have f:min a (min (n*b) c.size)=a:=Wm
 simp only[d,f]
 split <;> split <;>(try split) <;>(try split) <;>(try split) <;> first | rfl | omega | (congr 1;omega) | skip
theorem Jg {P:Program} {w:Xn} {rest:List Oper} {a:Act} (e:o.guard=Xb) (p x t) (s:o.op= .store t p x) (k:Nat) (f:(P.info? t).map (·.size)=Xa k)
  (base:Nat) (v:Xq) (n:Nat) (xs:List Xq) (d:w.ownsRow base t k v n xs) (g i:Nat) (r:v.ownBlock=Xa g) (hi:i<n) (cs:List Xq) (c:cs.length=k) (l:∀u∈cs,u.oneCell'=Xc)
  (h:Addr) (hp:a.eval p= Xj (Xa h)) (b:h=⟨g,i*k,Xb⟩) (z:a.eval x= Xi cs.toArray)
  (j:∀w',w'.ownsRow base t k v n (splice xs (i*k) cs)->w.grownBy w' (Xa g)->w'.heap.size=w.heap.size->wpList P ops Q rest (a.put o.dst undef) w'):wpList P ops Q (o :: rest) a w:=by
 subst b;refine wpList_plain e fun K q=>?_
 have b:i*k+cs.length<=n*k:=by
  rw[c,<-Gc];exact Oi _ hi
 obtain⟨w',y,e,h,m⟩:=ju (P:=P) d r (i*k) cs b l;have d:(Go.sizeOf t).run P w= .ok k w:=by
  cases b:P.info? t with
  | none=>simp[b]at f
  | some i=>simp[b]at f;simp[Go.sizeOf,typeInfo,b,f]
 have b:(Instr.storeAt t (Xj (Xa ⟨g,i*k,Xb⟩)) (Xi cs.toArray)).run P w= .ok () w':=by
  simp[Instr.storeAt,Instr.sureAddr,storeVar,Yg,d,Result.andThen,Value.cells,c,y]
 unfold Oper.wp;simp only[execOp,s,hp,z,Yg,b,Result.andThen,Yp,Oper.upon];exact q _ _ (j w' e h m)
theorem zac {α:Type} {enc:α->List Xq} {k:Nat} (x:α) (b:(enc x).length=k):∀(l:List α) (i:Nat),(∀a∈l,(enc a).length=k)->i<l.length->splice (l.flatMap enc) (i*k) (enc x)=(l.set i x).flatMap enc
 | [],i,_,hi=>by simp at hi
 | a :: l,0,h,_=>by
  simp only[splice,Ye,Gb,List.take_zero,Uh,zA,sZ];rw[Oj (by rw[b,h a Sm];exact nR _),Ud (by rw[b,h a Sm];exact nR _),Uh]
 | a :: l,i+1,h,hi=>by
  have d:=h a Sm
  have c:=zac x b l i (fun b e=>h b (by simp[e])) (Si hi)
  simp only[splice,Ye,sS]at c⊢;rw[<-c,Gc,Om (i*k) k,<-d,Oo,Oh,Oq,Yu]
theorem zd {w a:Xn} (h:zc w W) (c:W.grownBy a (Xa g)) (b:w.heap.size<=g):zc w a:=
 Below.grown h c (bS h) (fun k a=>by cases a;exact b)
theorem zko {a w:Xn} (h:Below B a w) (b:B<=w.heap.size) (c:zc w w'):Below B a w':=h.trans (Below.mono c b)
def Box (w:Xn) (b:Nat) (cs:List Xq):Prop:=∃t,w.heap[b]? =Xa (Xk cs.toArray t (0,0))
theorem Box.lt {w:Xn} {cs:List Xq} (h:Box w b cs):b<w.heap.size:=by
 obtain⟨t,h⟩:=h;exact(aS.1 h).1
theorem Box.c {w:Xn} {cs:List Xq} (h:Box w b cs) (i:Nat) {u:Xq} (hi:cs[i]? =Xa u):w.cell? ⟨b,i,Xb⟩=Xa u:=by
 obtain⟨t,h⟩:=h
 simp[World.cell?,h,hi]
theorem Box.f {w:Xn} {cs:List Xq} (h:Box w b cs) (i:Nat):w.frozen? ⟨b,i,Xb⟩=Xd:=by
 obtain⟨t,h⟩:=h
 simp[World.frozen?,h]
theorem Box.below {w:Xn} {cs:List Xq} (h:Box w b cs) (c:Below B w w') (a:b<B):Box w' b cs:=by
 obtain⟨t,h⟩:=h;exact⟨t,by rw[c.block b a];exact h⟩
theorem Box.aA {w:Xn} {cs:List Xq} (h:Box w b cs) (a:zc w w'):Box w' b cs:=h.below a h.lt
theorem Box.aE (w:Xn) (cs:List Xq) (t) (a:b=w.heap.size):Box (w.alloc (Xk cs.toArray t)) b cs:=by
 subst a;refine⟨t,?_⟩
 show(w.heap.push _)[w.heap.size]? =_
 simp
theorem Box.alloc {w:Xn} {cs:List Xq} (h:Box w b cs) (o):Box (w.alloc o) b cs:=h.aA (za _ _)
theorem Box.grown {w:Xn} {cs:List Xq} (h:Box w b cs) (d:w.grownBy w' (Xa g)) (c:b≠g):Box w' b cs:=by
 have a:=h.lt;obtain⟨t,h⟩:=h;exact⟨t,by rw[d.block b a (fun e=>c (by cases e;rfl))];exact h⟩
theorem Box.other {w:Xn} {cs:List Xq} (h:Box w b cs) {a:Addr} (c:b≠a.block) (u):Box (w.setCell a u) b cs:=by
 obtain⟨t,h⟩:=h;exact⟨t,by rw[Below.heap_setCell _ _ _ _ c];exact h⟩
theorem Box.set {w:Xn} {cs:List Xq} (h:Box w b cs) (i:Nat) (u):Box (w.setCell ⟨b,i,Xb⟩ u) b (cs.set i u):=by
 have a:=h.lt;obtain⟨t,h⟩:=h;refine⟨t,?_⟩;obtain⟨_,a⟩:=aS.1 h;unfold World.setCell
 grind
theorem zg2 {w:Xn} {base a n:Nat} {e:TypeId} {v:Xq} (h:w.ownsRow base e a v n xs) (i:∀k,base<=k->w'.heap[k]? =w.heap[k]?):w'.ownsRow base e a v n xs:=by
 refine⟨h.1,?_⟩
 rcases h.2 with d|⟨g,a,b,rfl,c,f,h⟩
 ·exact .inl d
 exact .inr ⟨g,a,b,rfl,c,by rw[i g c];exact f,h⟩
theorem zjq (w:Xn) (A B C) (k:Nat) (a:w.heap.size+1<=k):((w.alloc A).alloc C).heap[k]? =((w.alloc B).alloc C).heap[k]?:=by
 show((w.heap.push A).push C)[k]? =((w.heap.push B).push C)[k]?
 simp only[Array.getElem?_push,Array.size_push]
 split
 ·rfl
 rw[kF Wm,kF Wm]
theorem World.grownBy.rfl' (w:Xn) (a:Option Nat):w.grownBy w a:=⟨rfl,rfl,rfl,nR _,fun _ _ _=>rfl⟩
theorem jc.aE (w:Xn) (cs:List Xq) (t) (a:b=w.heap.size):jc (w.alloc (Xk cs.toArray t)) ⟨b,0,Xb⟩ cs:=fun j u c=>by
 rw[Addr.add_lit,zA];exact(Box.aE w cs t a).c j c
theorem Box.beside {w:Xn} {cs:List Xq} {a:Option Nat} (h:Box w b cs) (d:w.grownBy w' a) (c:∀g,a=Xa g->b≠g):Box w' b cs:=by
 have a:=h.lt;obtain⟨t,h⟩:=h;exact⟨t,by rw[d.block b a (fun e=>c b e.symm rfl)];exact h⟩
theorem zU {w b:Xn} {a:Option Nat} (h:zc w W) (d:W.grownBy b a) (c:∀g,a=Xa g->w.heap.size<=g):zc w b:=Below.grown h d (bS h) c
def zl (w:Xn) (b:Nat) (t:TypeId) (cs:List Xq):Prop:=w.heap[b]? =Xa (Xk cs.toArray t (0,0))
theorem zl.box {w:Xn} {cs:List Xq} (h:zl w b t cs):Box w b cs:=⟨t,h⟩
theorem zl.aE (w:Xn) (cs:List Xq) (t) (a:b=w.heap.size):zl (w.alloc (Xk cs.toArray t)) b t cs:=by
 subst a
 show(w.heap.push _)[w.heap.size]? =_
 simp
theorem Box.c3 {w:Xn} {l:List Xq} (h:Box w b (a0::a1::a2::l)):w.cell? ⟨b,0,Xb⟩=Xa a0/\w.cell? ⟨b,1,Xb⟩=Xa a1/\w.cell? ⟨b,2,Xb⟩=Xa a2:=⟨h.c 0 rfl,h.c 1 rfl,h.c 2 rfl⟩
theorem Box.c7 {w:Xn} {l:List Xq} (h:Box w b (a0::a1::a2::a3::a4::a5::a6::l)):w.cell? ⟨b,0,Xb⟩=Xa a0/\w.cell? ⟨b,1,Xb⟩=Xa a1/\w.cell? ⟨b,2,Xb⟩=Xa a2/\w.cell? ⟨b,3,Xb⟩=Xa a3/\w.cell? ⟨b,4,Xb⟩=Xa a4/\w.cell? ⟨b,5,Xb⟩=Xa a5/\w.cell? ⟨b,6,Xb⟩=Xa a6:=⟨h.c 0 rfl,h.c 1 rfl,h.c 2 rfl,h.c 3 rfl,h.c 4 rfl,h.c 5 rfl,h.c 6 rfl⟩
theorem Box.c8 {w:Xn} {l:List Xq} (h:Box w b (a0::a1::a2::a3::a4::a5::a6::a7::l)):w.cell? ⟨b,0,Xb⟩=Xa a0/\w.cell? ⟨b,1,Xb⟩=Xa a1/\w.cell? ⟨b,2,Xb⟩=Xa a2/\w.cell? ⟨b,3,Xb⟩=Xa a3/\w.cell? ⟨b,4,Xb⟩=Xa a4/\w.cell? ⟨b,5,Xb⟩=Xa a5/\w.cell? ⟨b,6,Xb⟩=Xa a6/\w.cell? ⟨b,7,Xb⟩=Xa a7:=⟨h.c 0 rfl,h.c 1 rfl,h.c 2 rfl,h.c 3 rfl,h.c 4 rfl,h.c 5 rfl,h.c 6 rfl,h.c 7 rfl⟩
theorem Box.c10 {w:Xn} {a c:Xq} {l:List Xq} (h:Box w b (a0::a1::a2::a3::a4::a5::a6::a7::a::c::l)):w.cell? ⟨b,0,Xb⟩=Xa a0/\w.cell? ⟨b,1,Xb⟩=Xa a1/\w.cell? ⟨b,2,Xb⟩=Xa a2/\w.cell? ⟨b,3,Xb⟩=Xa a3/\w.cell? ⟨b,4,Xb⟩=Xa a4/\w.cell? ⟨b,5,Xb⟩=Xa a5/\w.cell? ⟨b,6,Xb⟩=Xa a6/\w.cell? ⟨b,7,Xb⟩=Xa a7/\w.cell? ⟨b,8,Xb⟩=Xa a/\w.cell? ⟨b,9,Xb⟩=Xa c:=⟨h.c 0 rfl,h.c 1 rfl,h.c 2 rfl,h.c 3 rfl,h.c 4 rfl,h.c 5 rfl,h.c 6 rfl,h.c 7 rfl,h.c 8 rfl,h.c 9 rfl⟩
theorem Box.bL {w:Xn} {c d a:Xq} {l:List Xq} (h:Box w b (a0::a1::a2::a3::a4::a5::a6::a7::c::d::a::l)):w.cell? ⟨b,0,Xb⟩=Xa a0/\w.cell? ⟨b,1,Xb⟩=Xa a1/\w.cell? ⟨b,2,Xb⟩=Xa a2/\w.cell? ⟨b,3,Xb⟩=Xa a3/\w.cell? ⟨b,4,Xb⟩=Xa a4/\w.cell? ⟨b,5,Xb⟩=Xa a5/\w.cell? ⟨b,6,Xb⟩=Xa a6/\w.cell? ⟨b,7,Xb⟩=Xa a7/\w.cell? ⟨b,8,Xb⟩=Xa c/\w.cell? ⟨b,9,Xb⟩=Xa d/\w.cell? ⟨b,10,Xb⟩=Xa a:=⟨h.c 0 rfl,h.c 1 rfl,h.c 2 rfl,h.c 3 rfl,h.c 4 rfl,h.c 5 rfl,h.c 6 rfl,h.c 7 rfl,h.c 8 rfl,h.c 9 rfl,h.c 10 rfl⟩
theorem Box.c12 {w:Xn} {d e a c:Xq} {l:List Xq} (h:Box w b (a0::a1::a2::a3::a4::a5::a6::a7::d::e::a::c::l)):w.cell? ⟨b,0,Xb⟩=Xa a0/\w.cell? ⟨b,1,Xb⟩=Xa a1/\w.cell? ⟨b,2,Xb⟩=Xa a2/\w.cell? ⟨b,3,Xb⟩=Xa a3/\w.cell? ⟨b,4,Xb⟩=Xa a4/\w.cell? ⟨b,5,Xb⟩=Xa a5/\w.cell? ⟨b,6,Xb⟩=Xa a6/\w.cell? ⟨b,7,Xb⟩=Xa a7/\w.cell? ⟨b,8,Xb⟩=Xa d/\w.cell? ⟨b,9,Xb⟩=Xa e/\w.cell? ⟨b,10,Xb⟩=Xa a/\w.cell? ⟨b,11,Xb⟩=Xa c:=⟨h.c 0 rfl,h.c 1 rfl,h.c 2 rfl,h.c 3 rfl,h.c 4 rfl,h.c 5 rfl,h.c 6 rfl,h.c 7 rfl,h.c 8 rfl,h.c 9 rfl,h.c 10 rfl,h.c 11 rfl⟩
theorem Box.h {I:Xn->Prop} {cs:List Xq} (h:Box W b cs) (a:∀u,I u↔zc W u) (i:Nat) {v:Xq} (c:cs[i]?=Xa v):∀y:zq I,y.world.cell? ⟨b,i,Xb⟩=Xa v:=fun y=>(h.aA ((a _).1 y.holds)).c i c
theorem Box.gw {cs:List Xq} (h:Box W b cs) (i:Nat) {v:Xq} (a:cs[i]?=Xa v):∀y:zf W,y.world.cell? ⟨b,i,Xb⟩=Xa v:=fun y=>(h.aA y.aA).c i a
theorem Box.k2{w b l a0 a1}(h:Box w b (a0::a1::l)):w.cell? ⟨b,0,none⟩=some a0/\w.cell? ⟨b,1,none⟩=some a1:=⟨h.c 0 rfl,h.c 1 rfl⟩
theorem gP {w:Xn} {o:Obj} (h:w.alloc o=W):zc w W:=by subst h;exact za _ _
theorem gA {w:Xn} {o:Obj} (h:w.alloc o=W):Go.RowKit.Hid (zc w W):=show zc _ _ from gP h
theorem gT {v w:Xn} {o:Obj} (h:w.alloc o=W) (g:Go.RowKit.Hid (zc v w)):Go.RowKit.Hid (zc v W):=show zc _ _ from g.out.trans (gP h)
theorem gD2 {w:Xn} {o q:Obj} (h:(w.alloc o).alloc q=W):Go.RowKit.Hid (zc w W):=show zc _ _ from(gP rfl).trans (gP h)
theorem xP {w:Xn} {l:List Xq} {p:Nat} (h:w.alloc (Xk l.toArray t)=W) (e:Go.RowKit.Hid (w.heap.size=p)):Go.RowKit.Hid (Box W p l):=show Box _ _ _ by subst h;exact Box.aE w l t e.out.symm
theorem xA {w:Xn} {l:List Xq} (h:w.alloc (Xk l.toArray t)=W):Go.RowKit.Hid (Box W w.heap.size l):=xP h rfl
theorem xPT {w:Xn} {l:List Xq} {p:Nat} (h:w.alloc (Xk l.toArray t)=W) (e:Go.RowKit.Hid (w.heap.size=p)):Go.RowKit.Hid (zl W p t l):=show zl _ _ _ _ by subst h;exact zl.aE w l t e.out.symm
theorem xT {w:Xn} {l:List Xq} (h:w.alloc (Xk l.toArray t)=W):Go.RowKit.Hid (zl W w.heap.size t l):=xPT h rfl
theorem yA {w:Xn} {o:Obj} {l:List Xq} (h:w.alloc o=W) (y:Go.RowKit.Hid (Box w b l)):Go.RowKit.Hid (Box W b l):=show Box _ _ _ by subst h;exact y.out.alloc _
theorem x2a {w:Xn} {l:List Xq} {o:Obj} (h:(w.alloc (Xk l.toArray t)).alloc o=W):Go.RowKit.Hid (Box W w.heap.size l):=yA h (xA rfl)
theorem x2b {w:Xn} {l:List Xq} {o:Obj} (h:(w.alloc o).alloc (Xk l.toArray t)=W):Go.RowKit.Hid (Box W (w.heap.size+1) l):=show Box _ _ _ by subst h;exact Box.aE _ l t Sm
theorem sA {w:Xn} {o:Obj} (h:w.alloc o=W):Go.RowKit.Hid (W.heap.size=w.heap.size+1):=show _=_ by subst h;simp
theorem gW (w:Xn):zc w w.drew:=show Go.RowKit.Below _ _ _ from(Go.RowKit.Below.refl _ _).drew
theorem zl.aA {w:Xn} {cs:List Xq} (h:zl w b t cs) (a:zc w w'):zl w' b t cs:=(a.block b h.box.lt).trans h
theorem zl.beside {w:Xn} {cs:List Xq} {a:Option Nat} (h:zl w b t cs) (d:w.grownBy w' a) (c:∀g,a=Xa g->b≠g):zl w' b t cs:=by
 unfold zl;rw[d.block b h.box.lt (fun e=>c b e.symm rfl)]
 exact h
theorem zl.set {w:Xn} {cs:List Xq} (h:zl w b t cs) (i:Nat) (u):zl (w.setCell ⟨b,i,Xb⟩ u) b t (cs.set i u):=by
 have a:=h.box.lt;obtain⟨_,a⟩:=aS.1 h;unfold zl World.setCell
 grind
theorem ZM {w:Xn} {base b n:Nat} {e:TypeId} {v:Xq} (h:w.ownsRow base e b v n xs) {a:Addr} (i:∀g,v.ownBlock=Xa g->a.block≠g) (u):(w.setCell a u).ownsRow base e b v n xs:=by
 refine⟨h.1,?_⟩
 rcases h.2 with b|⟨g,b,c,rfl,d,f,h⟩
 ·grind
 exact .inr ⟨g,b,c,rfl,d,by rw[Below.heap_setCell _ _ _ _ (fun e=>i g rfl e.symm)];exact f,h⟩
structure Elt (α:Type) where
 enc:α->List Xq
 k:Nat
 ty:TypeId
 st:TypeId
 bytes:Nat
 zv:Xq
 zero:α
 len:∀a,(enc a).length=k
 one:∀a,∀u∈enc a,u.oneCell'=Xc
 bV:Tryz.prog.underlying st=Xa (.slice ty)
 aF:(Tryz.prog.info? ty).map (fun i=>(i.zero,i.size,i.bytes))=Xa (Xa zv,k,bytes)
 zok:zv.cells=(enc zero).toArray
 few:k<=bytes
 pos:0<k
section
variable{α:Type} {E:Elt α}
def zj (E:Elt α) (w:Xn) (v:Xq) (l:List α):Prop:=jN E.enc w v l/\l.length*E.bytes<=140737488355328
def zb (E:Elt α) (base:Nat) (w:Xn) (v:Xq) (l:List α):Prop:=w.ownsRow base E.ty E.k v l.length (l.flatMap E.enc)/\l.length*E.bytes<=140737488355328
def zqI (E:Elt α) (w:Xn) (a:Option Addr) (l:List α):Prop:=∀(j:Nat) x,l[j]? =Xa x->∃ad,a=Xa ad/\∀W,zc w W->jc W (ad.add (j*E.k)) (E.enc x)
theorem zoT (E:Elt α):E.zv.cells.size=E.k:=by rw[E.zok];simp[E.len]
theorem qC (E:Elt α) (l:List α):(l.flatMap E.enc).length=l.length*E.k:=qT l fun a _=>E.len a
theorem zj.aA {w:Xn} {v:Xq} {l:List α} (h:zj E w v l) (a:zc w w'):zj E w' v l:=⟨h.1.aA a,h.2⟩
theorem zj.rows {w:Xn} {v:Xq} {l:List α} (h:zj E w v l):∃a c,v= O a l.length c/\zqI E w a l:=by
 obtain⟨⟨a,c,e,f,g⟩,_⟩:=h;refine⟨a,c,e,fun j q b=>?_⟩
 cases a with
 | none=>rw[f rfl]at b;simp at b
 | some x=>exact⟨x,rfl,fun W i=>((g x rfl).aA i).elem (k:=E.k) (fun d _=>E.len d) b⟩
theorem zj.short {w:Xn} {v:Xq} {l:List α} (h:zj E w v l):l.length<=9223372036854775807:=by
 have a:=h.2;have a:l.length*1<=l.length*E.bytes:=Ol _ (nT E.pos E.few);omega
theorem zj.setCell {base:Nat} {w:Xn} {v:Xq} {l:List α} (h:zj E w v l) (c:Zb base v) {a:Addr} (b:a.block<base) (u:Xq):zj E (w.setCell a u) v l:=⟨h.1.setCell c b u,h.2⟩
theorem zj.nil (E:Elt α) (w):zj E w (O Xb 0 0) ([]:List α):=⟨⟨Xb,0,rfl,fun _=>rfl,fun x a=>by cases a⟩,Sm⟩
theorem zb.at {base:Nat} {w:Xn} {v:Xq} {l:List α} (h:zb E base w v l):zj E w v l:=⟨Z4 h.1,h.2⟩
theorem zb.aA {base:Nat} {w:Xn} {v:Xq} {l:List α} (h:zb E base w v l) (a:zc w w'):zb E base w' v l:=⟨JI h.1 a,h.2⟩
theorem zb.base {base:Nat} {w:Xn} {v:Xq} {l:List α} (h:zb E base w v l) (a:base'<=base):zb E base' w v l:=⟨jz h.1 a,h.2⟩
theorem zb.setCell {base:Nat} {w:Xn} {v:Xq} {l:List α} (h:zb E base w v l) {a:Addr} (b:a.block<base) (u):zb E base (w.setCell a u) v l:=⟨ownsRow_setCell_below h.1 b u,h.2⟩
theorem zb.aT {base:Nat} {w:Xn} {v:Xq} {l:List α} (h:zb E base w v l) {a:Addr} (b:∀g,v.ownBlock=Xa g->a.block≠g) (u):zb E base (w.setCell a u) v l:=⟨ZM h.1 b u,h.2⟩
theorem zb.lt {base:Nat} {w:Xn} {v:Xq} {l:List α} (h:zb E base w v l):∀g,v.ownBlock=Xa g->base<=g/\g<w.heap.size:=h.1.lt
theorem zb.form {base:Nat} {w:Xn} {v:Xq} {l:List α} (h:zb E base w v l):∃a c,v= O a l.length c:=by
 obtain⟨a,c,b,_⟩:=h.at.rows;exact⟨a,c,b⟩
theorem zb.aJ {base:Nat} {w:Xn} {v:Xq} {l:List α} (h:zb E base w v l) (a:0<l.length):∃g c,v= O (Xa ⟨g,0,Xb⟩) l.length c:=by
 rcases h.1.2 with⟨rfl,b⟩|⟨g,a,a,b,_⟩
 ·omega
 grind
theorem zb.fresh {base:Nat} {w:Xn} {v:Xq} {l:List α} (h:zb E base w v l):Zb base v:=fun x n c e=>by
 rcases h.1.2 with⟨b,_⟩|⟨g,a,a,b,a,_⟩
 ·grind
 grind
theorem zb.nil (E:Elt α) (base:Nat) (w):zb E base w (O Xb 0 0) ([]:List α):=⟨World.ownsRow_nil _ _ _ _,Sm⟩
theorem zb.made (E:Elt α) (w:Xn):zb E w.heap.size (w.alloc (Xk #[] E.ty)) (O (Xa ⟨w.heap.size,0,Xb⟩) 0 0) ([]:List α):=⟨World.ownsRow_made w #[] 0 (nR _) (nZ _) Sm,Sm⟩
theorem zb.ne {base:Nat} {w:Xn} {v:Xq} {l:List α} (h:zb E base w v l) {cs:List Xq} (d:zl w b t cs) (a:t≠E.ty):∀g,v.ownBlock=Xa g->b≠g:=fun g a e=>by
 subst e
 rcases h.1.2 with⟨rfl,_⟩|⟨c,c,c,rfl,_,c,_⟩
 ·cases a
 simp only[Value.ownBlock,Option.some.injEq]at a;subst a;rw[d]at c
 grind
theorem zb.grown {base:Nat} {w:Xn} {a:Option Nat} {v:Xq} {l:List α} (h:zb E base w v l) (i:w.grownBy w' a) (c:∀g,v.ownBlock=Xa g->a≠Xa g):zb E base w' v l:=by
 refine⟨⟨h.1.1,?_⟩,h.2⟩
 rcases h.1.2 with a|⟨g,a,b,rfl,e,d,f⟩
 ·grind
 exact .inr ⟨g,a,b,rfl,e,by rw[i.block g (aS.1 d).1 (fun e=>c g rfl e.symm)];exact d,f⟩
def z3 (E:Elt α) (base:Nat) (w:Xn) (v:Xq) (l:List α):Prop:=zj E w v l/\Zb base v
theorem z3.base {base:Nat} {w:Xn} {v:Xq} {l:List α} (h:z3 E base w v l) (a:base'<=base):z3 E base' w v l:=⟨h.1,fun x n c e=>nT a (h.2 x n c e)⟩
theorem z3.setCell {base:Nat} {w:Xn} {v:Xq} {l:List α} (h:z3 E base w v l) {a:Addr} (b:a.block<base) (u:Xq):z3 E base (w.setCell a u) v l:=⟨h.1.setCell h.2 b u,h.2⟩
theorem z3.nil (E:Elt α) (base:Nat) (w):z3 E base w (O Xb 0 0) ([]:List α):=⟨zj.nil E w,ZE _⟩
theorem zb.new {base:Nat} {w:Xn} {v:Xq} {l:List α} (h:zb E base w v l):z3 E base w v l:=⟨h.at,h.fresh⟩
theorem JF {w:Xn} {base:Nat} {v:Xq} {l:List α} (b) (a:zb E base w v l) (c:Nat):(Builtin.append_ #[E.st,E.st] b #[v,O Xb 0 c]).run prog w= .ok v w:=by
 obtain⟨b,b,_,d,_⟩:=info_parts E.aF
 rcases a.1.2 with⟨rfl,_⟩|⟨g,a,a,rfl,_,_,a,_⟩
 ·simp[Builtin.append_,run_underlying E.bV,sizeOf,typeInfo,b,Builtin.lenOf,Builtin.firstCells]
 simp[Builtin.append_,run_underlying E.bV,sizeOf,typeInfo,b,Builtin.lenOf,Builtin.firstCells,a,storeCells]
theorem zu {w:Xn} {rest:List Oper} {a:Act} (g:o.guard=Xb) (s x) (r:o.op= .call { callee:= .builtin .append,args:=#[s,x],argTypes:=#[E.st,E.st] })
  (base:Nat) (vs:Xq) (f:List α) (t:a.eval s=vs) (b:zb E base w vs f) (c:Xq) (l:List α) (u:a.eval x=c) (j:zj E w c l) (q:(f.length+l.length)*E.bytes<=140737488355328) (d:base<=w.heap.size)
  (n:∀h w',zb E base w' h (f++l)->w.grownBy w' vs.ownBlock->wpList prog ops Q rest (a.put o.dst h) w'):wpList prog ops Q (o :: rest) a w:=by
 obtain⟨⟨i,m,rfl,e,c⟩,_⟩:=j
 cases i with
 | none=>
  have i:=e rfl;subst i;refine wpList_plain g fun K i=>?_
  have e:=JF o.type b m;unfold Oper.wp execOp;simp only[r,resolve,invoke,builtin,Yg,Yp,rA,List.map_toArray,mP,List.map_nil,t,u,Yk,e];exact i _ _ (n vs w (Rx Ui b) (World.grownBy.rfl' _ _))
 | some k=>
  obtain⟨y,v,e,i,j⟩:=info_parts E.aF;have p:(f.length+l.length)*1<=(f.length+l.length)*E.bytes:=Ol _ (nT E.pos E.few);refine wpList_append_own w g s x E.st r base E.ty y _ E.k E.bytes E.bV v e i j (zoT E) E.pos vs f.length _ t b.1 k l.length m (l.flatMap E.enc) u (qC E l) (c k rfl) (qS E.one l) (jB Wm) q d fun h w' b p _=>?_
  exact n h w' ⟨by rw[lA,Ur];exact b,Rx lA q⟩ p
theorem QY {x y:α} (j:Nat) (cs:List Xq) (b:E.enc y=splice (E.enc x) j cs) (e:j+cs.length<=E.k):∀(l:List α) (i:Nat),l[i]? =Xa x->splice (l.flatMap E.enc) (i*E.k+j) cs=(l.set i y).flatMap E.enc
 | [],i,hi=>by simp at hi
 | a :: l,0,hi=>by
  simp at hi
  subst hi;have c:=E.len a;simp only[splice,Ye,Gb,zA,sZ]at b⊢;rw[b,List.take_append_of_le_length Wm,Oj Wm]
  simp
 | a :: l,i+1,hi=>by
  have c:=E.len a;have d:=QY j cs b e l i (Si hi)
  simp only[splice,Ye,sS]at d⊢;rw[<-d,Gc,Om (i*E.k) E.k,Oh,<-c,Oo,Oh,Oq,Yu]
theorem zt {w:Xn} {rest:List Oper} {a:Act} (d:o.guard=Xb) (p x t) (C:o.op= .store t p x) (base:Nat) (v:Xq) (l:List α) (b:zb E base w v l)
  (g i j:Nat) (A:v.ownBlock=Xa g) (e y:α) (hi:l[i]? =Xa e) (cs:List Xq) (f:(Tryz.prog.info? t).map (·.size)=Xa cs.length) (G:E.enc y=splice (E.enc e) j cs) (B:j+cs.length<=E.k) (q:∀u∈cs,u.oneCell'=Xc)
  (m:Addr) (hp:a.eval p= Xj (Xa m)) (c:m=⟨g,i*E.k+j,Xb⟩) (k:Xq) (F:a.eval x=k) (h:k.cells=cs.toArray)
  (n:∀w',zb E base w' v (l.set i y)->w.grownBy w' (Xa g)->w'.heap.size=w.heap.size->wpList prog ops Q rest (a.put o.dst undef) w'):wpList prog ops Q (o :: rest) a w:=by
 subst c;refine wpList_plain d fun K z=>?_
 have d:=(gS.1 hi).1;have c:i*E.k+j+cs.length<=l.length*E.k:=by
  have:(i+1)*E.k<=l.length*E.k:=Oi _ d;rw[Ul]at this;omega
 obtain⟨w',D,m,r,s⟩:=ju (P:=prog) b.1 A (i*E.k+j) cs c q;have d:(Go.sizeOf t).run prog w= .ok cs.length w:=by
  cases c:Tryz.prog.info? t with
  | none=>simp[c]at f
  | some i=>simp[c]at f;simp[Go.sizeOf,typeInfo,c,f]
 have c:(Instr.storeAt t (Xj (Xa ⟨g,i*E.k+j,Xb⟩)) k).run prog w= .ok () w':=by
  simp[Instr.storeAt,Instr.sureAddr,storeVar,Yg,d,Result.andThen,h,D]
 unfold Oper.wp;simp only[execOp,C,hp,F,Yg,c,Result.andThen,Yp,Oper.upon];rw[QY j cs G B l i hi]at m;exact z _ _ (n w' ⟨Rx Yo m,Rx Yo b.2⟩ r s)
theorem qg {w:Xn} {rest:List Oper} {a:Act} (e:o.guard=Xb) (p x) (q:o.op= .store E.ty p x) (base:Nat) (v:Xq) (l:List α) (b:zb E base w v l)
  (g i:Nat) (n:v.ownBlock=Xa g) (y:α) (hi:i<l.length) (c:Addr) (hp:a.eval p= Xj (Xa c)) (d:c=⟨g,i*E.k,Xb⟩) (k:Xq) (r:a.eval x=k) (h:k.cells=(E.enc y).toArray)
  (m:∀w',zb E base w' v (l.set i y)->w.grownBy w' (Xa g)->w'.heap.size=w.heap.size->wpList prog ops Q rest (a.put o.dst undef) w'):wpList prog ops Q (o :: rest) a w:=by
 obtain⟨f,f,_,j,_⟩:=info_parts E.aF;refine zt e p x E.ty q base v l b g i 0 n (l[i]) y (gE hi) (E.enc y) (by rw[f];simp[j,E.len]) ?_ (by rw[E.len];omega) (E.one y) c hp (Rr d) k r h m
 unfold splice;rw[List.take_zero,Uh,zA,Ud (by rw[E.len,E.len];exact nR _),Ui]
theorem zfI (E:Elt α) (n:Nat):(madeCells E.zv.cells (n*E.k)).toList=(Xr n E.zero).flatMap E.enc:=by
 have e:((Xr n E.zero).flatMap E.enc).length=n*E.k:=by rw[qC E];simp
 have a:0<E.k:=E.pos
 apply Yf
 intro j
 rcases Ys j (n*E.k)with h|h
 ·have d:j=j / E.k*E.k+j % E.k:=by rw[Nat.mul_comm];exact(Nat.div_add_mod _ _).symm
  have b:j % E.k<E.k:=Nat.mod_lt _ a;have f:j / E.k<n:=(Nat.div_lt_iff_lt_mul a).2 h;have g:(E.enc E.zero)[j % E.k]? =Xa ((E.enc E.zero)[j % E.k]'(by rw[E.len];exact b)):=gE _
  have a:=ZF (enc:=E.enc) (k:=E.k) (Xr n E.zero) (j / E.k) E.zero (fun c _=>E.len c) (by simp[f]) (j % E.k) _ g
  rw[<-d]at a;rw[a]
  simp[madeCells,h,E.zok,E.len,b]
 rw[gN (by simp[madeCells];exact h),gN (Rx e h)]
theorem qv (E:Elt α) {w:Xn} {rest:List Oper} {a:Act} (hgd:o.guard=Xb) (l:Operand) (ho:o.op= .makeSlice E.st l l) (n:Nat) (hl:a.eval l= Xe Xf n) (hn:n*E.bytes<=140737488355328)
  (h:∀C,zb E w.heap.size (w.alloc (Xk C E.ty)) (O (Xa ⟨w.heap.size,0,Xb⟩) n n) (Xr n E.zero)->wpList prog ops Q rest (a.put o.dst (O (Xa ⟨w.heap.size,0,Xb⟩) n n)) (w.alloc (Xk C E.ty))):wpList prog ops Q (o :: rest) a w:=by
 refine wpList_plain hgd fun K hK=>?_
 obtain⟨i0,hi,hz0,hz1,hz2⟩:=info_parts E.aF;have h2:n*1<=n*E.bytes:=Ol _ (nT E.pos E.few);have hb:((E.bytes:Int)*(n:Int))<=140737488355328:=by
  obtain⟨B,hB⟩:=kB (n*E.bytes);rw[hB]at hn;rw[<-Int.natCast_mul,Nat.mul_comm,hB];omega
 have hrun:=run_make (P:=prog) w E.st E.ty i0 _ E.bV hi hz0 .i64 .i64 n n (by omega) (Int.le_refl _) (by rw[hz2];exact Int.le_trans hb (by omega)) (by omega)
 rw[hz1,tN]at hrun;unfold Oper.wp;simp only[execOp,ho,hl,Yg,hrun,Result.andThen,Yp,Oper.upon];refine hK _ _ (h _ ⟨⟨?_,.inr ⟨w.heap.size,n,madeCells E.zv.cells (n*E.k),by rw[lR],nR _,?_,?_,?_,?_,?_⟩⟩,by rw[lR];exact hn⟩)
 ·rw[qC E]
 ·show(w.heap.push _)[w.heap.size]? =_
  simp
 ·rw[lR];exact nR _
 ·exact jB (by omega)
 ·rw[size_madeCells]
 rw[lR,List.take_of_length_le (by simp[madeCells]),zfI E]
end
structure Out (B0 B1:Nat) (w w':Xn):Prop where
 os:w'.os=w.os
 tape:w'.tape=w.tape
 output:w'.output=w.output
 size:w.heap.size<=w'.heap.size
 block:∀k,k<w.heap.size->(k<B0\/B1<=k)->w'.heap[k]? =w.heap[k]?
theorem Out.refl (B0 B1:Nat) (w):Out B0 B1 w w:=⟨rfl,rfl,rfl,nR _,fun _ _ _=>rfl⟩
theorem Out.trans {a b c:Xn} (h:Out B0 B1 a b) (k:Out B0 B1 b c):Out B0 B1 a c:=
 ⟨k.os.trans h.os,k.tape.trans h.tape,k.output.trans h.output,nT h.size k.size,fun i e d=>(k.block i (Yt e h.size) d).trans (h.block i e d)⟩
theorem Out.aA {a b:Xn} (h:zc a b):Out B0 B1 a b:=⟨Below.os h,Below.tape h,Below.output h,bS h,fun i c _=>Below.block h i c⟩
theorem Out.setCell (B0 B1:Nat) (w:Xn) {p:Addr} (a:B0<=p.block) (b:p.block<B1) (u):Out B0 B1 w (w.setCell p u):=
 ⟨rfl,rfl,rfl,by simp[World.setCell],fun k _ a=>Below.heap_setCell _ _ _ _ Wm⟩
theorem Out.grown {w:Xn} {b:Option Nat} (a:w.grownBy w' b) (h:∀g,b=Xa g->B0<=g/\g<B1):Out B0 B1 w w':=
 ⟨a.os,a.tape,a.output,a.size,fun k b c=>a.block k b (fun e=>Hm (h k e.symm))⟩
theorem Out.wide {A0 A1:Nat} {a b:Xn} (h:Out A0 A1 a b) (c:B0<=A0) (d:A1<=B1):Out B0 B1 a b:=
 ⟨h.os,h.tape,h.output,h.size,fun i c d=>h.block i c Wm⟩
theorem Out.drew (w:Xn):Out B0 B1 w w.drew:=Out.aA (gW _)
theorem Out.bK {w:Xn} (h:zc w W) (b:w.heap.size<=B0) (k:Out B0 B1 W w'):zc w w':=
 (show Below _ _ _ from Below.trans h ⟨k.os,k.tape,k.output,k.size,fun i a=>k.block i (Yt a (bS h)) (.inl (Yt a b))⟩)
theorem Out.zero {w:Xn} (h:Out 0 0 w w'):zc w w':=⟨h.os,h.tape,h.output,h.size,fun k a=>h.block k a (.inr (nZ _))⟩
theorem Box.out {w:Xn} {cs:List Xq} (h:Box w b cs) (k:Out B0 B1 w w') (c:b<B0\/B1<=b):Box w' b cs:=by
 have a:=h.lt;obtain⟨t,h⟩:=h;exact⟨t,by rw[k.block b a c];exact h⟩
section
variable{α:Type} {E:Elt α}
def zjv (E:Elt α) (B0 B1:Nat) (w:Xn) (v:Xq) (l:List α):Prop:=∀w',Out B0 B1 w w'->zj E w' v l
theorem zjv.now {w:Xn} {v:Xq} {l:List α} (h:zjv E B0 B1 w v l):zj E w v l:=h w (Out.refl _ _ _)
theorem zjv.out {w:Xn} {v:Xq} {l:List α} (h:zjv E B0 B1 w v l) (k:Out B0 B1 w w'):zjv E B0 B1 w' v l:=fun b a=>h b (k.trans a)
theorem zjv.less {A0 A1:Nat} {w:Xn} {v:Xq} {l:List α} (h:zjv E B0 B1 w v l) (a:B0<=A0) (b:A1<=B1):zjv E A0 A1 w v l:=fun d c=>h d (c.wide a b)
theorem zj.stays (B1:Nat) {w:Xn} {v:Xq} {l:List α} (h:zj E w v l) (a:w.heap.size<=B0) (b:zc w W):zjv E B0 B1 W v l:=fun _ k=>h.aA (k.bK b a)
theorem zj.s0 {w:Xn} {v:Xq} {l:List α} (h:zj E w v l):zjv E 0 0 w v l:=fun _ k=>h.aA k.zero
theorem z3.stays {base:Nat} {w:Xn} {v:Xq} {l:List α} (h:z3 E base w v l):zjv E 0 base w v l:=fun a k=>by
 obtain⟨⟨⟨b,c,a,d,e⟩,f⟩,g⟩:=h;refine⟨⟨b,c,a,d,fun x b j u c=>?_⟩,f⟩
 subst b;have b:=e x rfl j u c;have d:=World.block_lt_of_cell? _ _ b;have c:=g x _ _ a;rw[World.cell?_of_block (w:=w) (k.block _ d (.inr (Rx Ze c)))]
 exact b
theorem Qs (E:Elt α) (w:Xn) (x:α) (cs:Array Xq) (t) (a:cs=(E.enc x).toArray) (b:E.bytes<=140737488355328):zj E (w.alloc (Xk cs t)) (O (Xa ⟨w.heap.size,0,Xb⟩) 1 1) [x]:=by
 subst a;refine⟨⟨_,1,rfl,fun h=>(by cases h),fun y a=>?_⟩,Si b⟩
 grind [jc.aE]
end
def Cap:Xq->Prop
 | O _ n c=>n<=c
 | _=>True
theorem zb.cap {α:Type} {E:Elt α} {base:Nat} {w:Xn} {v:Xq} {l:List α} (h:zb E base w v l):Cap v:=by
 rcases h.1.2 with⟨rfl,_⟩|⟨g,a,a,rfl,_,_,a,_⟩
 ·exact nR _
 exact a
structure zk (D:Nat->Prop) (w w':Xn):Prop where
 os:w'.os=w.os
 tape:w'.tape=w.tape
 output:w'.output=w.output
 size:w.heap.size<=w'.heap.size
 block:∀k,k<w.heap.size->¬D k->w'.heap[k]? =w.heap[k]?
theorem zk.refl (D:Nat->Prop) (w):zk D w w:=⟨rfl,rfl,rfl,nR _,fun _ _ _=>rfl⟩
theorem zk.trans {D:Nat->Prop} {a b c:Xn} (h:zk D a b) (k:zk D b c):zk D a c:=
 ⟨k.os.trans h.os,k.tape.trans h.tape,k.output.trans h.output,nT h.size k.size,fun i e d=>(k.block i (Yt e h.size) d).trans (h.block i e d)⟩
theorem zk.aA {D:Nat->Prop} {a b:Xn} (h:zc a b):zk D a b:=⟨Below.os h,Below.tape h,Below.output h,bS h,fun i c _=>Below.block h i c⟩
theorem zk.wide {D c:Nat->Prop} {a b:Xn} (h:zk c a b) (d:∀k,c k->D k):zk D a b:=⟨h.os,h.tape,h.output,h.size,fun i e c=>h.block i e (fun e=>c (d i e))⟩
section
variable{α:Type} {E:Elt α}
def zl8 (E:Elt α) (D:Nat->Prop) (w:Xn) (v:Xq) (l:List α):Prop:=∀w',zk D w w'->zj E w' v l
theorem z3.aN {base:Nat} {w:Xn} {v:Xq} {l:List α} (h:z3 E base w v l) {D:Nat->Prop} (i:∀k,D k->k<base):zl8 E D w v l:=fun a k=>by
 obtain⟨⟨⟨b,c,a,d,e⟩,f⟩,g⟩:=h;refine⟨⟨b,c,a,d,fun x b j u c=>?_⟩,f⟩
 subst b;have b:=e x rfl j u c;have c:=World.block_lt_of_cell? _ _ b;have d:=g x _ _ a;rw[World.cell?_of_block (w:=w) (k.block _ c (fun e=>by have:=i _ e;rw[Ze]at this;omega))]
 exact b
end
theorem zb.obj {α:Type} {E:Elt α} {base:Nat} {w:Xn} {v:Xq} {l:List α} (h:zb E base w v l) (a:v.ownBlock=Xa g):∃cs,w.heap[g]? =Xa (Xk cs E.ty (0,0)):=by
 rcases h.1.2 with⟨rfl,_⟩|⟨b,b,b,rfl,_,b,_⟩
 ·cases a
 simp only[Value.ownBlock,Option.some.injEq]at a
 grind
theorem zb.apart {α a:Type} {E:Elt α} {F:Elt a} {base:Nat} {w:Xn} {v u:Xq} {l:List α} {m:List a} (h:zb E base w v l) (k:zb F base' w u m) (b:E.ty≠F.ty):∀g,v.ownBlock=Xa g->u.ownBlock≠Xa g:=fun g a b=>by
 obtain⟨c,c⟩:=h.obj a;obtain⟨a,a⟩:=k.obj b
 grind
theorem zb.one {α:Type} {E:Elt α} {base n c:Nat} {w:Xn} {l:List α} (h:zb E base w (O (Xa ⟨g,0,Xb⟩) n c) l) {i:Nat} {x:α} (d:l[i]? =Xa x):jc w ((Addr.mk g 0 Xb).add (i*E.k)) (E.enc x):=by
 obtain⟨a,a,a,a⟩:=h.at.rows;obtain⟨b,b,b⟩:=a i _ d
 grind [zc.refl]
def bel (m n:Int):Bool:=decide (0<=m) && decide (m<n)
theorem Zu {m n:Int}:bel m n=Xc↔0<=m/\m<n:=by simp[bel]
theorem zos {m n:Int} (h:¬(0<=m/\m<n)):bel m n=Xd:=by
 cases a:bel m n with
 | false=>rfl
 | true=>exact absurd (Zu.1 a) h
theorem zsH {α:Type} {p:α->Bool} {fs:List α} {k:Nat} {q:α} (h:fs[k]? =Xa q) (a:p q=Xc):fs.any p=Xc:=Yd.2 ⟨q,mG h,a⟩
theorem zsG {α:Type} {p:α->Bool} {fs:List α} (a:∀(j:Nat) x,fs[j]? =Xa x->p x=Xd):fs.any p=Xd:=Ob.2 fun x a=>by grind [Xv]
theorem jR {α:Type} {l:List α} {k:Nat} {q:α} (h:l[k]? =Xa q):l.drop k=q :: l.drop (k+1):=by
 grind [gS.1,List.drop_eq_getElem_cons]
theorem ZB {α:Type} {l:List α} {k:Nat} {q:α} (h:l[k]? =Xa q):l.take (k+1)=l.take k++ [q]:=by
 rw[Gd,h];rfl
theorem zb7 {α:Type} {A:α} {p k:Nat} {s:α} (h:List.lookup k [(p,A)]=Xa s):k=p/\s=A:=by grind
theorem zb.out {α:Type} {E:Elt α} {base:Nat} {w:Xn} {v:Xq} {l:List α} (h:zb E base w v l) (k:Out B0 B1 w w') (i:∀g,v.ownBlock=Xa g->g<B0\/B1<=g):zb E base w' v l:=by
 refine⟨⟨h.1.1,?_⟩,h.2⟩
 rcases h.1.2 with d|⟨g,a,b,rfl,e,c,f⟩
 ·exact .inl d
 exact .inr ⟨g,a,b,rfl,e,by rw[k.block g (aS.1 c).1 (i g rfl)];exact c,f⟩
theorem znj {α:Type} {A B:α} {p q k:Nat} {s:α} (h:List.lookup k [(p,A),(q,B)]=Xa s):(k=p/\s=A)\/(k=q/\s=B):=by grind
theorem zj.beside {α:Type} {E:Elt α} {w:Xn} {a:Option Nat} {v:Xq} {l:List α} (h:zj E w v l) (g:w.grownBy w' a) (i:∀x n c,v= O (Xa x) n c->Xa x.block≠a):zj E w' v l:=by
 obtain⟨⟨b,c,a,d,e⟩,f⟩:=h;refine⟨⟨b,c,a,d,fun x d j u b=>?_⟩,f⟩
 subst d;exact g.cell (e x rfl j u b) (by rw[Ze];exact i x _ _ a)
theorem zo9 {α:Type} {l:List α} {i:Nat} {v:α} (h:l[i]? =Xa v):l.set i v=l:=by
 apply Yf
 grind
theorem qM {a b c:Xn} {d:Option Nat} (h:a.grownBy b d) (k:b.grownBy c d):a.grownBy c d:=
 ⟨k.os.trans h.os,k.tape.trans h.tape,k.output.trans h.output,nT h.size k.size,fun i d e=>(k.block i (Yt d h.size) e).trans (h.block i d e)⟩
theorem zdF {a b:Xn} (h:zc a b) (c:Option Nat):a.grownBy b c:=⟨Below.os h,Below.tape h,Below.output h,bS h,fun i c _=>Below.block h i c⟩
def niv (z:Int):List Xq:=[Xe Xf z]
theorem zto:(Tryz.prog.info? 3).map (fun i=>(i.zero,i.size,i.bytes))=Xa (Xa (Xe Xf 0),1,8):=by kernel_rfl
def blE:Elt Int where
 enc:=niv
 k:=1
 ty:=3
 st:=33
 bytes:=8
 zv:= Xe Xf 0
 zero:=0
 len:=fun _=>rfl
 one:=fun a u hu=>by
  simp only[niv,mC,nM,or_false]at hu;subst hu;rfl
 bV:=underlying33
 aF:=zto
 zok:=rfl
 few:=by decide
 pos:=by decide
def zoC (w:Xn) (a:Option Addr) (l:List Int):Prop:=∀(j:Nat) x,l[j]? =Xa x->∃ad,a=Xa ad/\∀W,zc w W->W.cell? (ad.add j)=Xa (Xe Xf x)
theorem zj.bB {w:Xn} {v:Xq} {l:List Int} (h:zj blE w v l):∃a c,v= O a l.length c/\zoC w a l:=by
 obtain⟨a,c,b,d⟩:=h.rows;refine⟨a,c,b,fun j x g=>?_⟩
 obtain⟨b,e,f⟩:=d j x g;refine⟨b,e,fun W b=>?_⟩
 have:=f W b 0 _ rfl;rw[qO,show j*blE.k+0=j from by show j*1+0=j;omega]at this
 exact this
def env (e:En):List Xq:=[Xe Xf e.kind,Xe Xf e.n,Xh e.wr]
theorem ztp:(Tryz.prog.info? 127).map (fun i=>(i.zero,i.size,i.bytes))=Xa (Xa (Xi #[Xe Xf 0,Xe Xf 0,Xh Xd]),3,24):=by kernel_rfl
def enE:Elt En where
 enc:=env
 k:=3
 ty:=127
 st:=72
 bytes:=24
 zv:= Xi #[Xe Xf 0,Xe Xf 0,Xh Xd]
 zero:=en0
 len:=fun _=>rfl
 one:=fun a u hu=>by
  simp only[env,mC,nM,or_false]at hu
  rcases hu with rfl|rfl|rfl <;> rfl
 bV:=underlying72
 aF:=ztp
 zok:=rfl
 few:=by decide
 pos:=by decide
def zr5 (W:Xn) (y:Addr) (e:En):Prop:=W.cell? y=Xa (Xe Xf e.kind)/\W.cell? { block:=y.block,off:=y.off+1 }=Xa (Xe Xf e.n)/\W.cell? { block:=y.block,off:=y.off+2 }=Xa (Xh e.wr)
def zsL (w:Xn) (a:Option Addr) (l:List En):Prop:=∀(j:Nat) e,l[j]? =Xa e->∃ad,a=Xa ad/\∀W,zc w W->zr5 W (ad.add (j*3)) e
theorem zj.ens {w:Xn} {v:Xq} {l:List En} (h:zj enE w v l):∃a c,v= O a l.length c/\zsL w a l:=by
 obtain⟨a,c,b,e⟩:=h.rows;refine⟨a,c,b,fun j x g=>?_⟩
 obtain⟨d,f,b⟩:=e j x g;exact⟨d,f,fun W d=>⟨b W d 0 _ rfl,b W d 1 _ rfl,b W d 2 _ rfl⟩⟩
structure za8 (B0 B1:Nat) (w:Xn) (vs:List Xq) (t:List (List En)):Prop where
 len:vs.length=8
 aO:t.length=8
 row:∀(i:Nat) v h,vs[i]? =Xa v->t[i]? =Xa h->zjv enE B0 B1 w v h
def zaB (w:Xn) (vs:List Xq) (t:List (List En)):Prop:=za8 0 0 w vs t
theorem za8.out {w:Xn} {t:List (List En)} (h:za8 B0 B1 w vs t) (k:Out B0 B1 w w'):za8 B0 B1 w' vs t:=⟨h.len,h.aO,fun i v x a b=>(h.row i v x a b).out k⟩
theorem za8.aA {w:Xn} {t:List (List En)} (h:za8 B0 B1 w vs t) (k:zc w w'):za8 B0 B1 w' vs t:=h.out (Out.aA k)
theorem za8.less {A0 A1:Nat} {w:Xn} {t:List (List En)} (h:za8 B0 B1 w vs t) (a:B0<=A0) (b:A1<=B1):za8 A0 A1 w vs t:=⟨h.len,h.aO,fun i v x c d=>(h.row i v x c d).less a b⟩
theorem za8.now {w:Xn} {t:List (List En)} (h:za8 B0 B1 w vs t):zaB w vs t:=⟨h.len,h.aO,fun i v x a b=>(h.row i v x a b).now.s0⟩
theorem zaB.aA {w:Xn} {t:List (List En)} (h:zaB w vs t) (k:zc w w'):zaB w' vs t:=za8.aA h k
def zfG:List Xq:=Xr 8 (O Xb 0 0)
theorem za8.nil (B0 B1:Nat) (w):za8 B0 B1 w zfG Qt:=⟨rfl,rfl,fun i v h b c=>by
 have a:=mG b;have b:=mG c;rw[zfG,Ot]at a;rw[Qt,Ot]at b;rw[a.2,b.2];exact fun a _=>zj.nil enE a⟩
theorem zaB.half {w:Xn} {t:List (List En)} (h:zaB w vs t) {i:Nat} (hi:i<8):∃a c x,t[i]? =Xa x/\vs[i]? =Xa (O a x.length c)/\zj enE w (O a x.length c) x:=by
 obtain⟨v,d⟩:∃v,vs[i]? =Xa v:=⟨_,gE (by rw[h.len];exact hi)⟩
 obtain⟨x,e⟩:∃x,t[i]? =Xa x:=⟨_,gE (by rw[h.aO];exact hi)⟩
 have b:=(h.row i v x d e).now;obtain⟨a,c,rfl,_⟩:=b.rows
 grind
theorem zp5 {α:Type}:∀{l:List α},l.length=8->∃a b c d e f g h,l=[a,b,c,d,e,f,g,h]
 | [a,b,c,d,e,f,g,h],_=>⟨a,b,c,d,e,f,g,h,rfl⟩
theorem zdm (w:Xn) (a:Array Xq) (o:Nat) (v:Int) (b:a[o]? =Xa (Xe Xf v)):(part 3 a o).run prog w= .ok (Xe Xf v) w:=run_part_plain w (by simp[Program.plainKey,underlying3]) b
theorem zeM (w:Xn) (a:Array Xq) (o:Nat) (v:Bool) (b:a[o]? =Xa (Xh v)):(part 4 a o).run prog w= .ok (Xh v) w:=run_part_plain w (by simp[Program.plainKey,underlying4]) b
theorem zfg (m n:Int) (w):
  Xp prog 127 #[Xe Xf m,Xe Xf n] w fun e w'=>e= Xl (Xh (bel m n))/\w'=w:=by
 have H:Xo (bel m n=(decide (0<=m) && decide (m<n))):=rfl
 by_cases a:0<=m
 ·by_cases a:m<n
  ·go_enter func127,ntmps127
   go_wp2;go_ret;exact⟨by rw[H.out];simp[*],rfl⟩
  go_enter func127,ntmps127
  go_wp2;go_ret;exact⟨by rw[H.out];simp[*],rfl⟩
 go_enter func127,ntmps127
 go_wp2;go_ret;exact⟨by rw[H.out];simp;omega,rfl⟩
theorem QQ {m n:Int} (a:0<=m) (b:m<n) (w):Xp prog 127 #[Xe Xf m,Xe Xf n] w fun e w'=>e= Xl (Xh Xc)/\w'=w:=by
 have:=zfg m n w;rw[Zu.2 ⟨a,b⟩]at this;exact this
theorem zbP {m n:Int} (h:¬(0<=m/\m<n)) (w):Xp prog 127 #[Xe Xf m,Xe Xf n] w fun e w'=>e= Xl (Xh Xd)/\w'=w:=by
 have:=zfg m n w;rw[zos h]at this;exact this
theorem zcd (k n:Int) (b:Bool) (w):
  Xp prog 168 #[Xi #[Xe Xf k,Xe Xf n,Xh b]] w fun e w'=>e= Xl (Xh (enS ⟨k,n,b⟩))/\zc w w':=by
 have H:Xo (enS ⟨k,n,b⟩=(k != 0)):=rfl
 go_enter func168,ntmps168
 go_wp2;go_ret;exact⟨Rr H.out,za _ _⟩
theorem zp3 {e:En} (h:¬(0<=e.kind/\e.kind<=2)):enW e=1:=by unfold enW;rw[kF h]
theorem zhD {e:En} (h:0<=e.kind/\e.kind<=2) (a:¬(0<=e.n/\e.n<=59/\(e.kind=1->e.n<=39))):enW e=3:=by unfold enW;rw[kE h,kF a]
theorem znT {e:En} (h:0<=e.kind/\e.kind<=2) (a:0<=e.n/\e.n<=59/\(e.kind=1->e.n<=39)) (b:(e.kind=0/\(e.n≠0\/e.wr=Xc))\/(e.kind=2/\e.wr=Xc)):enW e=7:=by unfold enW;rw[kE h,kE a,kE b]
def znV (a b:En):Bool:=(a.kind == b.kind) &&((a.n == b.n) &&(a.wr == b.wr))
theorem zs2 (k n k' n':Int) (b b':Bool) (w):(Op.equalIn 10000 127 (Xi #[Xe Xf k,Xe Xf n,Xh b]) (Xi #[Xe Xf k',Xe Xf n',Xh b'])).run prog w= .ok (znV ⟨k,n,b⟩ ⟨k',n',b'⟩) w:=by
 have hf : (Tryz.prog.fieldsOf 127).toList.map (fun f => (f.name, f.type, f.offset)) = [("Kind", 3, 0), ("N", 3, 1), ("Write", 4, 2)] := by kernel_rfl
 rw[run_equalIn_struct w 9999 127 _ _ Kr Kr]
 obtain⟨f0,f1,f2,hfs⟩:∃f0 f1 f2,(Tryz.prog.fieldsOf 127).toList=[f0,f1,f2]:=by
  match hq:(Tryz.prog.fieldsOf 127).toList with
  | [f0,f1,f2]=>exact⟨f0,f1,f2,rfl⟩
  | []=>rw[hq]at hf;simp at hf
  | [_]=>rw[hq]at hf;simp at hf
  | [_,_]=>rw[hq]at hf;simp at hf
  | _ :: _ :: _ :: _ :: _=>rw[hq]at hf;simp at hf
 rw[hfs]at hf⊢
 simp at hf
 obtain⟨⟨h1,h2,h3⟩,⟨h4,h5,h6⟩,h7,h8,h9⟩:=hf;have pI:=zdm w;have pB:=zeM w;simp only[Op.eqFields,h1,h2,h3,h4,h5,h6,h7,h8,h9]
 simp[pI,pB,run_equalIn_int w _ _ _ _ _ _ underlying3,run_equalIn_bool' w _ _ _ _ underlying4]
 unfold znV
 by_cases e1:k=k' <;> by_cases e2:n=n' <;> cases b <;> cases b' <;> simp[e1,e2]
theorem zaC (k n:Int) (b:Bool) (w):
  Xp prog 201 #[Xi #[Xe Xf k,Xe Xf n,Xh b]] w fun e w'=>e= Xl (Xe Xf (enW ⟨k,n,b⟩))/\zc w w':=by
 obtain⟨Z,f⟩:=kA (enW ⟨k,n,b⟩);rw[f.out]
 by_cases g:0<=k/\k<=2
 ·have a:=fun W=>QQ (m:=k) (n:=3) g.1 Wm W
  by_cases l:0<=n/\n<=59
  ·have c:=fun W=>QQ (m:=n) (n:=60) l.1 Wm W
   by_cases i:k=1/\39<n
   ·have d:Xo (Z=3):=dD<|by rw[<-f.out];exact zhD g (fun h=>by have:=h.2.2 i.1;simp at this;omega)
    obtain⟨rfl,i⟩:=i;have q:40<=n:=Wm
    go_enter func201,ntmps201
    go_wp2_with fail;refine(a _).mono ?_;rintro e w' ⟨rfl,rfl⟩;go_wp2_with fail;refine(c _).mono ?_;rintro e w' ⟨rfl,rfl⟩;go_wp2;go_ret;exact⟨Rr d.out,za _ _⟩
   have j:0<=n/\n<=59/\(k=1->n<=39):=⟨l.1,l.2,fun h=>Wm⟩
   obtain rfl|rfl|rfl:k=0\/k=1\/k=2:=Wm
   ·have p:=fun W=>zs2 0 n 0 0 b Xd W
    by_cases i:n=0/\b=Xd
    ·have d:Xo (Z=0):=dD<|by rw[<-f.out];exact zcw g j (fun h=>by simp[i.1,i.2]at h)
     obtain⟨rfl,rfl⟩:=i;rw[show znV ⟨0,0,Xd⟩ ⟨0,0,Xd⟩=Xc from rfl]at p
     go_enter func201,ntmps201
     go_wp2_with fail;refine(a _).mono ?_;rintro e w' ⟨rfl,rfl⟩;go_wp2_with fail;refine(c _).mono ?_;rintro e w' ⟨rfl,rfl⟩;go_wp2;go_ret;exact⟨Rr d.out,za _ _⟩
    have d:Xo (Z=7):=dD<|by
     rw[<-f.out];refine znT g j (.inl ⟨rfl,?_⟩)
     cases b with
     | false=>exact .inl (fun h=>i ⟨h,rfl⟩)
     | true=>exact .inr rfl
    have r:znV ⟨0,n,b⟩ ⟨0,0,Xd⟩=Xd:=by
     unfold znV
     cases b with
     | false=>simp;exact fun h=>i ⟨h,rfl⟩
     | true=>simp
    rw[r]at p
    go_enter func201,ntmps201
    go_wp2_with fail;refine(a _).mono ?_;rintro e w' ⟨rfl,rfl⟩;go_wp2_with fail;refine(c _).mono ?_;rintro e w' ⟨rfl,rfl⟩;go_wp2;go_ret;exact⟨Rr d.out,za _ _⟩
   ·have d:Xo (Z=0):=dD<|by rw[<-f.out];exact zcw g j (fun h=>by simp at h)
    have q:¬40<=n:=Wm
    go_enter func201,ntmps201
    go_wp2_with fail;refine(a _).mono ?_;rintro e w' ⟨rfl,rfl⟩;go_wp2_with fail;refine(c _).mono ?_;rintro e w' ⟨rfl,rfl⟩;go_wp2;go_ret;exact⟨Rr d.out,za _ _⟩
   cases b with
   | false=>
    have d:Xo (Z=0):=dD<|by rw[<-f.out];exact zcw g j (fun h=>by simp at h)
    go_enter func201,ntmps201
    go_wp2_with fail;refine(a _).mono ?_;rintro e w' ⟨rfl,rfl⟩;go_wp2_with fail;refine(c _).mono ?_;rintro e w' ⟨rfl,rfl⟩;go_wp2;go_ret;exact⟨Rr d.out,za _ _⟩
   | true=>
    have d:Xo (Z=7):=dD<|by rw[<-f.out];exact znT g j (.inr ⟨rfl,rfl⟩)
    go_enter func201,ntmps201
    go_wp2_with fail;refine(a _).mono ?_;rintro e w' ⟨rfl,rfl⟩;go_wp2_with fail;refine(c _).mono ?_;rintro e w' ⟨rfl,rfl⟩;go_wp2;go_ret;exact⟨Rr d.out,za _ _⟩
  have d:Xo (Z=3):=dD<|by rw[<-f.out];exact zhD g (fun h=>l ⟨h.1,h.2.1⟩)
  have c:=fun W=>zbP (m:=n) (n:=60) Wm W
  go_enter func201,ntmps201
  go_wp2_with fail;refine(a _).mono ?_;rintro e w' ⟨rfl,rfl⟩;go_wp2_with fail;refine(c _).mono ?_;rintro e w' ⟨rfl,rfl⟩;go_wp2;go_ret;exact⟨Rr d.out,za _ _⟩
 have d:Xo (Z=1):=dD<|by rw[<-f.out];exact zp3 g
 have a:=fun W=>zbP (m:=k) (n:=3) Wm W
 go_enter func201,ntmps201
 go_wp2_with fail;refine(a _).mono ?_;rintro e w' ⟨rfl,rfl⟩;go_wp2;go_ret;exact⟨Rr d.out,za _ _⟩
theorem zfS (v) (fs:List En) (w) (y:zj enE w v fs):
  Xp prog 231 #[v,.func (.func 168) #[] #[]] w fun e w'=>(∃z:Int,e= Xl (Xe Xf z)/\decide (0<=z)=zgd fs)/\zc w w':=by
 have h:=y.short;obtain⟨N,Q,rfl,k⟩:=y.ens;have D:=dD k;obtain⟨n,s⟩:=kA fs.length;rw[s.out]at h⊢;obtain⟨g,c⟩:=kA (zgd fs);rw[c.out];have U:=enters_of func168 Kr rfl
 go_enter func231,ntmps231
 go_wp2
 go_loopg [8] n (fun F L wr=>∃b:Nat,b<=n/\n - b<=F/\L= Xe Xf b/\Xo (zc w wr)/\Xo (∀(j:Nat) q,j<b->fs[j]? =Xa q->enS q=Xd))
 exact⟨0,nZ _,Wm,rfl,zc.refl w,fun j q x=>absurd x (nL _)⟩
 obtain⟨b,G,V,rfl,l,A⟩:=hrel
 by_cases d:b<n
 ·have i:=kC d
  obtain⟨q,t⟩:∃q,Xo (fs[b]? =Xa q):=⟨_,gE (Rx s.out d)⟩
  obtain⟨P,rfl,H⟩:=D.out b q t.out;obtain⟨R,S,T⟩:=H wr l.out;have a:=zcd q.kind q.n q.wr wr
  cases m:enS q with
  | true=>
   have r:Xo (decide (0<=(b:Int))=g):=dD<|by
    rw[<-c.out,show zgd fs=Xc from zsH t.out m]
    simp
   rw[show enS ⟨q.kind,q.n,q.wr⟩=Xc from m]at a
   go_wp2_with fail;refine a.mono ?_;rintro e E ⟨rfl,u⟩;have p:=dD (l.trans u);go_wp2;go_ret;exact⟨⟨_,rfl,r⟩,p⟩
  | false=>
   have C:Xo (∀(j:Nat) q,j<b+1->fs[j]? =Xa q->enS q=Xd):=dD<|fun j K x f=>by
    by_cases e:j=b
    ·subst e;rw[t.out]at f;cases f;exact m
    exact A j K Wm f
   rw[show enS ⟨q.kind,q.n,q.wr⟩=Xd from m]at a
   go_wp2_with fail;refine a.mono ?_;rintro e E ⟨rfl,u⟩;have p:=dD (l.trans u);go_wp2
   go_roundg (n -(b+1));exact⟨b+1,Wm,Wm,Gn,p,C⟩;omega
 have i:=kD d
 have:b=n:=Wm
 subst this;have r:Xo (decide (0<=(-1:Int))=g):=dD<|by
  rw[<-c.out]
  symm
  exact zsG (fun j M B=>A.out j M (by rw[<-s.out];exact(gS.1 B).1) B)
 go_wp2;go_ret;exact⟨⟨_,rfl,r⟩,l⟩
theorem ZO (v) (fs:List En) (w) (b:zj enE w v fs):
  Xp prog 202 #[v,.func (.func 168) #[] #[]] w fun e w'=>e= Xl (Xh (zgd fs))/\zc w w':=by
 have a:=zfS v fs w b;obtain⟨c,c,rfl,_⟩:=b.rows;clear b
 generalize fs.length=n at*
 generalize zgd fs=A at*
 go_enter func202,ntmps202
 go_wp2_with fail;refine a.mono ?_;rintro e b ⟨⟨z,rfl,b⟩,c⟩;have f:=dD b;have d:=dD c;clear b c a;go_wp2;go_ret;exact⟨by rw[<-f.out];rfl,d⟩
theorem zeu (v) (fs:List En) (w:Xn) (h:zj enE w v fs):
  Xp prog 162 #[v] w fun e w'=>∃d,e= Xl d/\zb enE w.heap.size w' d fs/\zc w w':=by
 have i:=dD h;obtain⟨⟨f,g,rfl,b,c⟩,a⟩:=h;have h:=fun w f n g j h=>Lib.run_eql_slice_nil w _ _ f n g j h underlying72
 cases f with
 | none=>
  have f:=b rfl;subst f;clear c b a
  go_enter func162,ntmps162
  go_wp2;go_ret;exact⟨_,rfl,zb.nil _ _ _,zc.refl w⟩
 | some x=>
  have f:=dD a;clear c b a
  go_enter func162,ntmps162
  go_wp2_with (at_builtin;refine zu (E:=enE) rfl (.tmp 5) (.tmp 6) rfl w.heap.size _ [] rfl (zb.made enE w) _ fs rfl (i.aA (za _ _)) ?qb Sm ?_)
  case qb=>rw[Yk,zA];exact f.out
  intro d a b a;go_wp2;go_ret;exact⟨d,rfl,Si b,((bR _ w).alloc (nR _) _).grown a Sm (by intro k a;simp[Value.ownBlock]at a;omega)⟩
theorem Box.range {w:Xn} {cs:List Xq} (h:Box w b cs):w.rangeAt b 0 cs:=fun j v a=>by
 rw[zA];exact h.c j a
theorem Box.there {w:Xn} {cs:List Xq} (h:Box w b cs):w.there b 0 cs.length:=fun j a=>by
 rw[zA];exact⟨by rw[h.c j (gE a)];rfl,h.f j⟩
theorem Box.part {w:Xn}:∀{ds cs:List Xq} {o:Nat},Box w b cs->o+ds.length<=cs.length->Box (w.setCells b o ds) b (splice cs o ds):=by
 have a:∀(ds cs:List Xq) (o:Nat) (w:Xn),Box w b cs->o+ds.length<=cs.length->Box (w.setCells b o ds) b (splice cs o ds):=fun ds=>by
  induction ds with
  | nil=>
   intro cs o w h a;have:splice cs o []=cs:=by simp[splice]
   rw[this];exact h
  | cons d ds e=>
   intro cs o w h a;simp only[Yi]at a;have c:=h.set o d;have a:=e (cs.set o d) (o+1) (w.setCell ⟨b,o,Xb⟩ d) c (by simp;omega)
   have c:splice (cs.set o d) (o+1) ds=splice cs o (d :: ds):=by
    unfold splice;rw[List.take_set,List.drop_set,kE Wm,Gd,gE Wm]
    simp only[Yi,Option.toList_some];rw[List.set_append_right _ _ (by simp;omega),show o+1+ds.length=o+(ds.length+1) by omega]
    simp[Of,Nat.min_eq_left (show o<=cs.length by omega)]
   rw[c]at a;exact a
 grind
theorem zZ (b:Nat):∀(ds:List Xq) (o:Nat) (w:Xn),w.grownBy (w.setCells b o ds) (Xa b)/\(w.setCells b o ds).heap.size=w.heap.size
 | [],_,w=>⟨World.grownBy.rfl' _ _,rfl⟩
 | d :: ds,o,w=>by
  obtain⟨a,c⟩:=zZ b ds (o+1) (w.setCell ⟨b,o,Xb⟩ d);have f:w.grownBy (w.setCell ⟨b,o,Xb⟩ d) (Xa b):=⟨rfl,rfl,rfl,by simp[World.setCell],fun k _ g=>Below.heap_setCell _ _ _ _ (fun e=>g (by rw[e]))⟩
  exact⟨qM f a,c.trans (by simp[World.setCell])⟩
theorem zp {rest:List Oper} {a:Act} {w:Xn} (e:o.guard=Xb) (c x) (i:o.op= .load c x) (b:Nat) (k:a.eval x= Xj (Xa ⟨b,0,Xb⟩)) (f:Box w b vs) {d:TypeDesc} (j:Tryz.prog.underlying c=Xa d) (g:d.isRow=Xc) (hi:(Tryz.prog.info? c).map (·.size)=Xa vs.length)
  (h:wpList prog ops Q rest (a.put o.dst (Xi vs.toArray)) w):wpList prog ops Q (o :: rest) a w:=
 wpList_load_mid e c x i b 0 k vs _ f.range j g hi h
theorem zad {cs:List Xq} (h:vs.length=cs.length):splice cs 0 vs=vs:=by
 unfold splice
 grind
theorem zz {rest:List Oper} {a:Act} {w:Xn} (c:o.guard=Xb) (e p x) (i:o.op= .store e p x) (b:Nat) (hp:a.eval p= Xj (Xa ⟨b,0,Xb⟩)) (vs:List Xq) (j:a.eval x= Xi vs.toArray)
  {cs:List Xq} (f:Box w b cs) (d:vs.length=cs.length) (hi:(Tryz.prog.info? e).map (·.size)=Xa cs.length) (g:∀v∈vs,v.oneCell'=Xc)
  (h:∀w',Box w' b vs->w.grownBy w' (Xa b)->w'.heap.size=w.heap.size->wpList prog ops Q rest (a.put o.dst undef) w'):wpList prog ops Q (o :: rest) a w:=by
 refine wpList_store_mid c e p x i b 0 vs.toArray hp j ?_ ?_ (all_oneCell_toArray g) ?_
 ·simpa [d]using f.there
 ·simpa [d]using hi
 have:=f.part (ds:=vs) (o:=0) Wm
 rw[zad d]at this;exact h _ this (zZ b vs 0 w).1 (zZ b vs 0 w).2
theorem zh9 {rest:List Oper} {c:Oper} {a:Act} {w:Xn} (d:c.guard=Xb) (e p x) (j:c.op= .store e p x) (b o:Nat) (hp:a.eval p= Xj (Xa ⟨b,o,Xb⟩)) (vs:List Xq) (k:a.eval x= Xi vs.toArray)
  {cs:List Xq} (f:Box w b cs) (i:o+vs.length<=cs.length) (hi:(Tryz.prog.info? e).map (·.size)=Xa vs.length) (g:∀v∈vs,v.oneCell'=Xc)
  (h:∀w',Box w' b (splice cs o vs)->w.grownBy w' (Xa b)->w'.heap.size=w.heap.size->wpList prog ops Q rest (a.put c.dst undef) w'):wpList prog ops Q (c :: rest) a w:=by
 refine wpList_store_mid d e p x j b o vs.toArray hp k ?_ ?_ (all_oneCell_toArray g) ?_
 ·intro j c;have:=f.there (o+j) (by simp at c;omega)
  rw[zA]at this;exact this
 ·simpa using hi
 exact h _ (f.part i) (zZ b vs o w).1 (zZ b vs o w).2
theorem Box.mid {w:Xn} {cs:List Xq} (h:Box w b cs) (o:Nat) (c:∀(j:Nat) v,vs[j]? =Xa v->cs[o+j]? =Xa v):w.rangeAt b o vs:=fun j v a=>h.c _ (c j v a)
theorem zE {e:Func} {p:Tmp} {c:TypeId} (h:e.results=#[.cell p c]) (a:Array Xq) {w:Xn} (hp:a.getD p undef= Xj (Xa ⟨b,0,Xb⟩)) (f:Box w b vs) {d:TypeDesc} (i:Tryz.prog.underlying c=Xa d) (g:d.isRow=Xc) (hi:(Tryz.prog.info? c).map (·.size)=Xa vs.length):
  (results e a).run prog w= .ok (Xi vs.toArray) w:=by
 have e:a[p]?.getD undef= Xj (Xa ⟨b,0,Xb⟩):=Si hp
 have a:=run_loadVar_mid (P:=prog) w b 0 c vs d f.range i g hi
 simp[results,h,e,asAddr,a]
theorem zH {P:Program} {i:Nat} {a:Act} {w:Xn} {next:Act->Xn->Prop} (d:Option Tmp) (K:Xq->Xn->Prop) (hi:ops[i]? =Xa o) (b:o.dst=d) (e:Xx o (yielded ops a.tmps)=Xc) (h:zP P o a w K) (c:∀v w',K v w'->next (a.put d v) w'):wpOp P ops Q i next a w:=by
 subst b;unfold wpOp;simp only[hi,e,if_true];exact .inl (h.wp c)
theorem zP.storeAll {a:Act} {w:Xn} {K:Xq->Xn->Prop} (d p x) (g:o.op= .store d p x) (b:Nat) (hp:a.eval p= Xj (Xa ⟨b,0,Xb⟩)) (vs:List Xq) (j:a.eval x= Xi vs.toArray)
  {cs:List Xq} (e:Box w b cs) (c:vs.length=cs.length) (hi:(Tryz.prog.info? d).map (·.size)=Xa cs.length) (f:∀v∈vs,v.oneCell'=Xc)
  (h:∀w',Box w' b vs->w.grownBy w' (Xa b)->w'.heap.size=w.heap.size->K undef w'):zP prog o a w K:=by
 unfold zP;have i:(execOp a.eval o).run prog w= .ok .skip (w.setCells b 0 vs):=by
  have:=run_storeAt_mid (P:=prog) w b 0 d vs.toArray (by simpa [c]using e.there) (by simpa [c]using hi) (all_oneCell_toArray f)
  simp only[execOp,g,hp,j,Yg,this,rA,Yp]
 rw[i];have hp:=e.part (ds:=vs) (o:=0) Wm
 rw[zad c]at hp;exact h _ hp (zZ b vs 0 w).1 (zZ b vs 0 w).2
theorem ztq:(Tryz.prog.info? 74).map (·.size)=Xa 8:=by kernel_rfl
theorem qI {rest:List Oper} {a:Act} {w:Xn} (c:o.guard=Xb) (x) (f:o.op= .load 74 x) (b:Nat) (g:a.eval x= Xj (Xa ⟨b,0,Xb⟩)) (d:Box w b vs) (e:vs.length=8)
  (h:wpList prog ops Q rest (a.put o.dst (Xi vs.toArray)) w):wpList prog ops Q (o :: rest) a w:=
 wpList_load_mid c 74 x f b 0 g vs _ d.range underlying74 rfl (Rx e ztq) h
theorem zpf {w:Xn} (i:Nat) (hi:i<8) {v:Xq} (g:vs[i]? =Xa v):(Instr.index 74 (Xi vs.toArray) (Xe Xf (i:Int))).run prog w= .ok v w:=by
 have e:(isAgg 72).run prog w= .ok Xd w:=by
  unfold isAgg;rw[Yg,run_underlying underlying72 w];rfl
 have f:(Go.sizeOf 72).run prog w= .ok 1 w:=by
  obtain⟨a,c,d⟩:∃a,Tryz.prog.info? 72=Xa a/\a.size=1:=by
   have:(Tryz.prog.info? 72).map (·.size)=Xa 1:=Kr
   cases b:Tryz.prog.info? 72 with
   | none=>rw[b]at this;cases this
   | some a=>rw[b]at this;exact⟨a,rfl,by simpa using this⟩
  simp[Go.sizeOf,typeInfo,c,d]
 have a:(0:Int)<=(i:Int)/\(i:Int)< ((8:Nat):Int):=Wm
 simp only[Instr.index,asIntOf,Yg,Yp,rA,run_underlying underlying74];rw[kE a];simp only[Yg,f,rA,part,e,Nat.mul_one,tN]
 simp[g]
theorem zib {rest:List Oper} {a:Act} {w:Xn} (b:o.guard=Xb) (x ix) (d:o.op= .index 74 x ix) (vs:List Xq) (f:a.eval x= Xi vs.toArray) (i:Nat) (c:a.eval ix= Xe Xf (i:Int)) (hi:i<8) {v:Xq} (e:vs[i]? =Xa v)
  (h:wpList prog ops Q rest (a.put o.dst v) w):wpList prog ops Q (o :: rest) a w:=by
 refine wpList_plain b fun K b=>?_
 unfold Oper.wp execOp;simp only[d,f,c,Yg,Yp,rA,zpf i hi e];exact b _ _ h
theorem z5 {e:Func} {p u:Tmp} {c:TypeId} (h:e.results=#[.cell p c,.tmp u]) (a:Array Xq) {w:Xn} (hp:a.getD p undef= Xj (Xa ⟨b,0,Xb⟩)) (f:Box w b vs) {d:TypeDesc} (i:Tryz.prog.underlying c=Xa d) (g:d.isRow=Xc) (hi:(Tryz.prog.info? c).map (·.size)=Xa vs.length):
  (results e a).run prog w= .ok (Xm #[Xi vs.toArray,a.getD u undef]) w:=by
 have a:=run_loadVar_mid (P:=prog) w b 0 c vs d f.range i g hi;rw[results_cell_tmp h,hp]
 simp[asAddr,Result.andThen,a]
theorem za8.one {w:Xn} {t:List (List En)} (h:za8 B0 B1 w vs t):∀v∈vs,v.oneCell'=Xc:=fun v b=>by
 obtain⟨i,a⟩:=Xv b;have b:i<8:=by rw[<-h.len];exact(gS.1 a).1
 obtain⟨c,c,x,_,c,_⟩:=h.now.half b;rw[c]at a;cases a;rfl
structure js (base:Nat) (w:Xn) (vs:List Xq) (t:List (List En)):Prop where
 len:vs.length=8
 aO:t.length=8
 row:∀(i:Nat) v h,vs[i]? =Xa v->t[i]? =Xa h->zb enE base w v h
 two:∀(i j:Nat) u v,i≠j->vs[i]? =Xa u->vs[j]? =Xa v->∀g,u.ownBlock=Xa g->v.ownBlock≠Xa g
theorem js.new {base:Nat} {w:Xn} {t:List (List En)} (h:js base w vs t):za8 0 base w vs t:=⟨h.len,h.aO,fun i v x a b=>(h.row i v x a b).new.stays⟩
theorem js.aA {base:Nat} {w:Xn} {t:List (List En)} (h:js base w vs t) (k:zc w w'):js base w' vs t:=⟨h.len,h.aO,fun i v x a b=>(h.row i v x a b).aA k,h.two⟩
theorem js.base {base:Nat} {w:Xn} {t:List (List En)} (h:js base w vs t) (a:base'<=base):js base' w vs t:=⟨h.len,h.aO,fun i v x b c=>(h.row i v x b c).base a,h.two⟩
theorem js.half {base:Nat} {w:Xn} {t:List (List En)} (h:js base w vs t) {i:Nat} (hi:i<8):∃a c x,t[i]? =Xa x/\vs[i]? =Xa (O a x.length c)/\zb enE base w (O a x.length c) x:=by
 obtain⟨v,d⟩:∃v,vs[i]? =Xa v:=⟨_,gE (by rw[h.len];exact hi)⟩
 obtain⟨x,e⟩:∃x,t[i]? =Xa x:=⟨_,gE (by rw[h.aO];exact hi)⟩
 have b:=h.row i v x d e;obtain⟨a,c,rfl⟩:=b.form
 grind
theorem js.one {base:Nat} {w:Xn} {t:List (List En)} (h:js base w vs t) {i:Nat} {v a:Xq} {b:List En} (hi:i<8) (n:vs[i]? =Xa v) (m:w.grownBy w' v.ownBlock) (c:zb enE base w' a b) (q:∀g,a.ownBlock=Xa g->v.ownBlock=Xa g\/w.heap.size<=g):js base w' (vs.set i a) (t.set i b):=by
 have a:∀(j:Nat) u,vs[j]? =Xa u->∀g,u.ownBlock=Xa g->g<w.heap.size:=fun j u e g m=>by
  obtain⟨x,k⟩:∃x,t[j]? =Xa x:=⟨_,gE (by rw[h.aO,<-h.len];exact(gS.1 e).1)⟩
  exact((h.row j u x e k).lt g m).2
 refine⟨by simp[h.len],by simp[h.aO],fun j u x e k=>?_,fun j l r s a f d g b c=>?_⟩
 ·by_cases p:j=i
  ·grind
  rw[sN (fun h=>p h.symm)]at e k
  exact(h.row j u x e k).grown m (fun g k m=>h.two j i u v p e n g k m)
 by_cases k:j=i
 ·subst k;rw[sF (by rw[h.len];exact hi)]at f
  cases f;rw[sN a]at d
  rcases q g b with e|e
  ·exact h.two j l v s a n d g e c
  grind
 rw[sN (fun h=>k h.symm)]at f
 by_cases k:l=i
 ·subst k;rw[sF (by rw[h.len];exact hi)]at d
  cases d
  rcases q g c with e|e
  ·exact h.two j l r v a f n g b e
  grind
 rw[sN (fun h=>k h.symm)]at d
 exact h.two j l r s a f d g b c
def enV (e:En):Xq:= Xi #[Xe Xf e.kind,Xe Xf e.n,Xh e.wr]
theorem zeO {n:Int} (a:0<=n) (b:n<64):∃i k:Nat,i<8/\k<8/\n=8*i+k/\n / 8=(i:Int)/\n % 8=(k:Int)/\n.tdiv 8=(i:Int)/\n.tmod 8=(k:Int)/\n.toNat / 8=i/\n.toNat % 8=k:=by
 refine⟨n.toNat / 8,n.toNat % 8,Wm,Wm,Wm,Wm,Wm,?_,?_,rfl,rfl⟩
 ·grind
 grind
theorem QJ (vs:List Xq) (t:List (List En)) (n:Int) (w) (a:zaB w vs t):
  Xp prog 69 #[Xi vs.toArray,Xe Xf n] w fun e w'=>e= Xl (enV (zer t n))/\zc w w':=by
 have j:=dD a;have b:=dD a.len;clear a;obtain⟨Z,s⟩:=kA (zer t n);rw[s.out];obtain⟨C,a⟩:=kB ((w.alloc (Xk vs.toArray 74)).alloc (Xk #[Xe Xf 0,Xe Xf 0,Xh Xd] 127));have b:=gD2 a
 have B:=x2a a
 have g:=x2b a
 have f:=dD a;clear a;have a:∀(W:Xn) (u c x:Xq),Box W (w.heap.size+1) [Xe Xf 0,Xe Xf 0,Xh Xd]->zc w W->zc w (((W.setCell ⟨w.heap.size+1,0,Xb⟩ u).setCell ⟨w.heap.size+1,1,Xb⟩ c).setCell ⟨w.heap.size+1,2,Xb⟩ x):=fun W u c x _ c=>
  Below.setCell (Below.setCell (Below.setCell c (p:=⟨w.heap.size+1,0,Xb⟩) Sm _) (p:=⟨w.heap.size+1,1,Xb⟩) Sm _) (p:=⟨w.heap.size+1,2,Xb⟩) Sm _
 have r:=dD a;clear a;obtain⟨a,a,a⟩:=g.c3;have a:=g.f
 by_cases q:0<=n/\n<64
 ·obtain⟨a,d⟩:=q;obtain⟨y,k,D,c,h,c,c,c,c,z,A⟩:=zeO a d;have l:=fun W=>QQ (m:=n) (n:=64) a d W
  obtain⟨c,c,i,u,c,x⟩:=j.half D;have j:Xo (Z=i[k]?.getD en0):=dD<|by
   rw[<-s.out];unfold zer;rw[kE ⟨a,d⟩,z,A];unfold zcZ;rw[u];rfl
  have D:=B.c y c;obtain⟨_,_,d,a⟩:=x.ens;cases d;have B:=dD a;have d:(y:Int)<8:=Wm
  clear a x u c z A h;obtain⟨nq,d⟩:=kA i.length;rw[d.out]at D
  by_cases h:k<nq
  ·obtain⟨e,a⟩:∃e,Xo (i[k]? =Xa e):=⟨_,gE (Rx d.out h)⟩
   obtain⟨c,rfl,u⟩:=B.out k e a.out;obtain⟨c,c,c⟩:=u C b.out;have c:Xo (Z=e):=dD<|by rw[j.out,a.out];rfl
   have i:¬(nq:Int)<=(k:Int):=Wm
   have a:decide ((nq:Int)<=(k:Int))=Xd:=decide_eq_false i;have a:=kC h
   clear u
   go_enter func69,ntmps69
   go_wp2_with fail;rw[f.out];refine(l _).mono ?_;rintro e w' ⟨rfl,a⟩;rw[a];clear a w';go_wp2;refine bodyPost_ret (v:= Xi #[Xe Xf e.kind,Xe Xf e.n,Xh e.wr]) (by simp[results,Tryz.results69,go_sem, *]) rfl ⟨?_,?_⟩
   ·rw[c.out];rfl
   exact r _ _ _ _ g b.out
  have c:Xo (Z=en0):=dD<|by rw[j.out,gN (by rw[d.out];omega)];rfl
  have i:(nq:Int)<=(k:Int):=Wm
  go_enter func69,ntmps69
  go_wp2_with fail;rw[f.out];refine(l _).mono ?_;rintro e w' ⟨rfl,a⟩;rw[a];clear a w';go_wp2;refine bodyPost_ret (v:= Xi #[Xe Xf 0,Xe Xf 0,Xh Xd]) (by simp[results,Tryz.results69,go_sem, *]) rfl ⟨?_,?_⟩
  ·rw[c.out];rfl
  exact r _ _ _ _ g b.out
 have l:=fun W=>zbP (m:=n) (n:=64) q W
 have j:Xo (Z=en0):=dD<|by rw[<-s.out];unfold zer;rw[kF q]
 clear q
 go_enter func69,ntmps69
 go_wp2_with fail;rw[f.out];refine(l _).mono ?_;rintro e w' ⟨rfl,a⟩;rw[a];clear a w';go_wp2;refine bodyPost_ret (v:= Xi #[Xe Xf 0,Xe Xf 0,Xh Xd]) (by simp[results,Tryz.results69,go_sem, *]) rfl ⟨?_,?_⟩
 ·rw[j.out];rfl
 exact r _ _ _ _ g b.out
def zcm (_:En):Bool:=true
def zl6 (k n:Int) (e:En):Bool:=(e.kind == k) &&(e.n == n)
theorem zkZ (k n:Int) (b:Bool) (w):
  Xp prog 122 #[Xi #[Xe Xf k,Xe Xf n,Xh b]] w fun e w'=>e= Xl (Xh Xc)/\zc w w':=by
 go_enter func122,ntmps122
 go_wp2;go_ret;exact⟨rfl,za _ _⟩
theorem znN (a c:Int) (b:Bool) (k n:Int) (d f:Nat) (w) (g:Box w d [Xe Xf k]) (h:Box w f [Xe Xf n]):
  Xp prog 250 #[Xi #[Xe Xf a,Xe Xf c,Xh b],Xj (Xa ⟨d,0,Xb⟩),Xj (Xa ⟨f,0,Xb⟩)] w fun e w'=>e= Xl (Xh (zl6 k n ⟨a,c,b⟩))/\zc w w':=by
 have H:Xo (zl6 k n ⟨a,c,b⟩=((a == k) &&(c == n))):=rfl
 generalize zl6 k n ⟨a,c,b⟩=F at H⊢
 have b:∀b:Obj,(w.alloc b).cell? ⟨d,0,Xb⟩=Xa (Xe Xf k):=fun b=>(g.alloc b).c 0 rfl
 have d:∀b:Obj,(w.alloc b).cell? ⟨f,0,Xb⟩=Xa (Xe Xf n):=fun b=>(h.alloc b).c 0 rfl
 clear g h
 by_cases d:a=k
 ·have b:(a == k)=Xc:=Si d
  have f:Xo (F=(c == n)):=dD<|by rw[H.out,b];rfl
  clear d
  go_enter func250,ntmps250
  go_wp2;go_ret;exact⟨Rr f.out,za _ _⟩
 have b:(a == k)=Xd:=Si d
 have f:Xo (F=Xd):=dD<|by rw[H.out,b];rfl
 clear d
 go_enter func250,ntmps250
 go_wp2;go_ret;exact⟨Rr f.out,za _ _⟩
theorem zfs (vs:List Xq) (t:List (List En)) (w:Xn) (a:zaB w vs t):
  Xp prog 121 #[Xi vs.toArray,.func (.func 122) #[] #[]] w fun e w'=>∃v,e= Xl v/\zb blE w.heap.size w' v (qX t zcm 64)/\zc w w':=by
 have i:=dD a;have p:=dD a.len;clear a;obtain⟨l,a⟩:=kB (w.alloc (Xk vs.toArray 74));have h:=gA a
 have j:=xA a
 have f:=dD a;clear a;obtain⟨b,a⟩:=kA (qX t zcm);have c:Xo (b 0=[]):=show _=_ by rw[<-a.out];rfl
 have d:Xo (∀m:Nat,m<64->b (m+1)=if enS (zer t (m:Int)) && zcm (zer t (m:Int))then b m++ [(m:Int)]else b m):=dD<|fun m g=>by
  rw[<-a.out,JH];have:zer t (m:Int)=zcZ t (m / 8) (m % 8):=by unfold zer;rw[kE Wm,tN]
  rw[this]
 have A:Xo (∀m,(b m).length<=m):=dD<|fun m=>by rw[<-a.out];exact zaS _ _ _
 rw[a.out];have a:=enters_of func122 Kr rfl
 go_enter func121,ntmps121
 go_upto_region 1 with fail;rw[f.out];go_wp2
 go_loopg [5,8] 64 (fun f g k wr=>∃(a:Nat) (m:Option Addr) (q n:Nat),a<=64/\64 - a<=f/\k= Xe Xf a/\g= O m q n/\Xo (zc l wr)/\Xo (zb blE l.heap.size wr (O m q n) (b a)))
 exact⟨0,Xb,0,0,nZ _,Wm,rfl,rfl,zc.refl _,by rw[c.out];exact zb.nil _ _ _⟩
 obtain⟨a,m,q,n,c,K,rfl,rfl,s,G⟩:=hrel
 by_cases g:a<64
 ·have r:(a:Int)<64:=Wm
  have c:=QJ vs t (a:Int) wr (i.aA (h.trans s));have u:=dD (j.aA s);have f:=d.out a g;obtain⟨x,d⟩:=kA (zer t (a:Int));rw[d.out]at c f;have d:=dD f;obtain⟨j,k,i⟩:=x
  go_wp2_with (refine qI rfl (.tmp 2) rfl w.heap.size rfl u p.out ?_)
  refine c.mono ?_;rintro e p ⟨rfl,f⟩;have u:=dD (s.trans f);have x:=dD (G.aA f);clear f c;simp only[enV];go_upto_region 6 with fail;obtain⟨y,f⟩:=kB p.heap.size;obtain⟨g,c⟩:=kB (p.alloc (Xk #[Xe Xf j,Xe Xf k,Xh i] 127));have D:=gT c u
  have F:Xo (zb blE l.heap.size g (O m q n) (b a)):=dD<|by rw[<-c];exact x.aA (za _ _)
  have H:Xo (Box g y [Xe Xf j,Xe Xf k,Xh i]):=dD<|by rw[<-c];exact Box.aE _ _ _ f.symm
  rw[c];rw[f];clear c f;obtain⟨u,x,y⟩:=H.c3;have c:=zcd j k i g
  cases p:enS ⟨j,k,i⟩with
  | false=>
   have f:Xo (b (a+1)=b a):=dD<|by rw[d.out,p];rfl
   rw[p]at c;clear p;go_wp2_with fail;refine c.mono ?_;rintro e C ⟨rfl,g⟩;have z:=dD (D.trans g);have B:Xo (zb blE l.heap.size C (O m q n) (b (a+1))):=show zb _ _ _ _ _ by rw[f.out];exact F.aA g
   clear g c u x y;go_wp2
   go_roundg (64 -(a+1));exact⟨a+1,m,q,n,Wm,Wm,Gn,rfl,z,B⟩;omega
  | true=>
   rw[p]at c;have f:Xo (b (a+1)=if zcm ⟨j,k,i⟩=Xc then b a++ [(a:Int)]else b a):=dD<|by rw[d.out,p];rfl
   clear p;go_wp2_with fail;refine c.mono ?_;rintro e C ⟨rfl,g⟩;have z:=dD (D.trans g);have B:=dD (F.aA g);have d:=dD (H.aA g);clear g c u x y;obtain⟨u,x,y⟩:=d.c3;have c:=zkZ j k i C;rw[kE (show zcm ⟨j,k,i⟩=Xc from rfl)]at f
   go_wp2_with fail;refine c.mono ?_;rintro e d ⟨rfl,g⟩;have i:=dD (z.trans g);have j:=dD (B.aA g);clear g c u x y;have c:Xo (zj blE (d.alloc (Xk #[Xe Xf (a:Int)] 3)) (O (Xa ⟨d.heap.size,0,Xb⟩) 1 1) [(a:Int)]):=Qs blE d (a:Int) _ _ rfl Dc
   go_wp2_with (at_builtin;refine zu (E:=blE) rfl (.tmp 21) (.tmp 23) rfl l.heap.size _ (b a) rfl (j.aA (za _ _)) _ [(a:Int)] rfl c.out ?qb ?qc ?_)
   case qb=>
    have:=A.out a
    show(_+1)*8<=_
    omega
   case qc=>
    have:=bS i.out;simp;omega
   intro c k c d;obtain⟨m,n,rfl⟩:=c.form;have g:Xo (zb blE l.heap.size k (.slice m (b a++ [(a:Int)]).length n) (b (a+1))):=dD<|Rx f.out c
   have b:=dD<|zU (i.trans (za _ _)) d (fun f K=>(j.lt f K).1)
   clear c d;go_wp2
   go_roundg (64 -(a+1));exact⟨a+1,_,_,_,Wm,Wm,Gn,rfl,b,g⟩;omega
 have r:¬(a:Int)<64:=Wm
 have:a=64:=Wm
 subst this;have b:=dD<|G.base (bS h);have a:=dD (h.trans s);go_wp2;go_ret;exact⟨_,rfl,b,a⟩
theorem zgz (vs:List Xq) (t:List (List En)) (k n:Int) (H K:Nat) (w:Xn) (a:zaB w vs t) (b:Box w H [Xe Xf k]) (c:Box w K [Xe Xf n]):
  Xp prog 121 #[Xi vs.toArray,.func (.func 250) #[] #[Xj (Xa ⟨H,0,Xb⟩),Xj (Xa ⟨K,0,Xb⟩)]] w fun e w'=>∃v,e= Xl v/\zb blE w.heap.size w' v (qX t (zl6 k n) 64)/\zc w w':=by
 have q:=dD a;have s:=dD a.len;clear a;have R:=dD b;have D:=dD c;clear b c;obtain⟨p,a⟩:=kB (w.alloc (Xk vs.toArray 74));have f:=gA a
 have r:=xA a
 have d:=dD a;clear a;obtain⟨c,a⟩:=kA (qX t (zl6 k n));have b:Xo (c 0=[]):=show _=_ by rw[<-a.out];rfl
 have g:Xo (∀m:Nat,m<64->c (m+1)=if enS (zer t (m:Int)) &&(zl6 k n) (zer t (m:Int))then c m++ [(m:Int)]else c m):=dD<|fun m h=>by
  rw[<-a.out,JH];have:zer t (m:Int)=zcZ t (m / 8) (m % 8):=by unfold zer;rw[kE Wm,tN]
  rw[this]
 have F:Xo (∀m,(c m).length<=m):=dD<|fun m=>by rw[<-a.out];exact zaS _ _ _
 rw[a.out];have a:=enters_of func250 Kr rfl
 go_enter func121,ntmps121
 go_upto_region 1 with fail;rw[d.out];go_wp2
 go_loopg [5,8] 64 (fun d j m wr=>∃(a:Nat) (h:Option Addr) (l i:Nat),a<=64/\64 - a<=d/\m= Xe Xf a/\j= O h l i/\Xo (zc p wr)/\Xo (zb blE p.heap.size wr (O h l i) (c a)))
 exact⟨0,Xb,0,0,nZ _,Wm,rfl,rfl,zc.refl _,by rw[b.out];exact zb.nil _ _ _⟩
 obtain⟨a,h,l,i,b,Q,rfl,rfl,B,N⟩:=hrel
 by_cases j:a<64
 ·have x:(a:Int)<64:=Wm
  have b:=QJ vs t (a:Int) wr (q.aA (f.trans B));have u:=dD (r.aA B);have d:=g.out a j;obtain⟨j,g⟩:=kA (zer t (a:Int));rw[g.out]at b d;have g:=dD d;obtain⟨q,r,m⟩:=j
  go_wp2_with (refine qI rfl (.tmp 2) rfl w.heap.size rfl u s.out ?_)
  refine b.mono ?_;rintro e s ⟨rfl,d⟩;have u:=dD (B.trans d);have y:=dD (N.aA d);clear d b;simp only[enV];go_upto_region 6 with fail;obtain⟨z,d⟩:=kB s.heap.size;obtain⟨j,b⟩:=kB (s.alloc (Xk #[Xe Xf q,Xe Xf r,Xh m] 127));have L:=gT b u
  have M:Xo (zb blE p.heap.size j (O h l i) (c a)):=dD<|by rw[<-b];exact y.aA (za _ _)
  have P:Xo (Box j z [Xe Xf q,Xe Xf r,Xh m]):=dD<|by rw[<-b];exact Box.aE _ _ _ d.symm
  rw[b];rw[d];clear b d;obtain⟨y,z,A⟩:=P.c3;have d:=zcd q r m j
  cases u:enS ⟨q,r,m⟩with
  | false=>
   have b:Xo (c (a+1)=c a):=dD<|by rw[g.out,u];rfl
   rw[u]at d;clear u;go_wp2_with fail;refine d.mono ?_;rintro e G ⟨rfl,j⟩;have s:=dD (L.trans j);have C:Xo (zb blE p.heap.size G (O h l i) (c (a+1))):=show zb _ _ _ _ _ by rw[b.out];exact M.aA j
   clear j d y z A;go_wp2
   go_roundg (64 -(a+1));exact⟨a+1,h,l,i,Wm,Wm,Gn,rfl,s,C⟩;omega
  | true=>
   rw[u]at d;have b:Xo (c (a+1)=if(zl6 k n) ⟨q,r,m⟩=Xc then c a++ [(a:Int)]else c a):=dD<|by rw[g.out,u];rfl
   clear u;go_wp2_with fail;refine d.mono ?_;rintro e G ⟨rfl,j⟩;have s:=dD (L.trans j);have C:=dD (M.aA j);have g:=dD (P.aA j);clear j d y z A;obtain⟨y,z,A⟩:=g.c3;have d:=znN q r m k n H K G (R.aA (f.trans s)) (D.aA (f.trans s))
   generalize zl6 k n ⟨q,r,m⟩=g at d b
   cases g with
   | true=>
    rw[kE rfl]at b;go_wp2_with fail;refine d.mono ?_;rintro e m ⟨rfl,g⟩;have r:=dD (s.trans g);have u:=dD (C.aA g);clear g d y z A;have j:Xo (zj blE (m.alloc (Xk #[Xe Xf (a:Int)] 3)) (O (Xa ⟨m.heap.size,0,Xb⟩) 1 1) [(a:Int)]):=Qs blE m (a:Int) _ _ rfl Dc
    go_wp2_with (at_builtin;refine zu (E:=blE) rfl (.tmp 21) (.tmp 23) rfl p.heap.size _ (c a) rfl (u.aA (za _ _)) _ [(a:Int)] rfl j.out ?qb ?qc ?_)
    case qb=>
     have:=F.out a
     show(_+1)*8<=_
     omega
    case qc=>
     have:=bS r.out;simp;omega
    intro j D j q;obtain⟨G,H,rfl⟩:=j.form;have F:Xo (zb blE p.heap.size D (.slice G (c a++ [(a:Int)]).length H) (c (a+1))):=dD<|Rx b.out j
    have D:=dD<|zU (r.trans (za _ _)) q (fun G Q=>(u.lt G Q).1)
    clear j q;go_wp2
    go_roundg (64 -(a+1));exact⟨a+1,_,_,_,Wm,Wm,Gn,rfl,D,F⟩;omega
   | false=>
    rw[kF Dc]at b
    go_wp2_with fail;refine d.mono ?_;rintro e m ⟨rfl,g⟩;have r:=dD (s.trans g);have u:Xo (zb blE p.heap.size m (O h l i) (c (a+1))):=show zb _ _ _ _ _ by rw[b.out];exact C.aA g
    clear g d y z A;go_wp2
    go_roundg (64 -(a+1));exact⟨a+1,h,l,i,Wm,Wm,Gn,rfl,r,u⟩;omega
 have x:¬(a:Int)<64:=Wm
 have:a=64:=Wm
 subst this;have b:=dD<|N.base (bS f);have a:=dD (f.trans B);go_wp2;go_ret;exact⟨_,rfl,b,a⟩
theorem zaT (vs:List Xq) (t:List (List En)) (w:Xn) (f:zaB w vs t):
  Xp prog 66 #[Xi vs.toArray] w fun e w'=>∃v,e= Xl v/\zb blE w.heap.size w' v (qX t zcm 64)/\zc w w':=by
 have g:=dD f.len;obtain⟨d,b⟩:=kB (w.alloc (Xk vs.toArray 74));have c:=gA b
 have h:=xA b
 have a:=zfs vs t d (f.aA c);have d:=dD b;clear b f
 generalize qX t zcm 64=b at a⊢
 go_enter func66,ntmps66
 go_upto_region 1 with fail;rw[d.out]
 go_wp2_with (refine qI rfl (.tmp 1) rfl w.heap.size rfl h g.out ?_)
 refine a.mono ?_;rintro e b ⟨v,rfl,d,b⟩;have g:=dD<|d.base (bS c);have f:=dD (c.trans b);clear d b a;go_wp2;go_ret;exact⟨v,rfl,g,f⟩
theorem zlv (vs:List Xq) (t:List (List En)) (k n:Int) (w:Xn) (f:zaB w vs t):
  Xp prog 242 #[Xi vs.toArray,Xe Xf k,Xe Xf n] w fun e w'=>∃v,e= Xl v/\zb blE w.heap.size w' v (qX t (zl6 k n) 64)/\zc w w':=by
 have a:∀(b:Fn) (first a:Array Xq) (w:Xn),(Instr.makeFunc b first a).run prog w= .ok (.func b first a) w:=fun _ _ _ _=>rfl
 have h:=dD f.len;obtain⟨d,b⟩:=kB (((w.alloc (Xk vs.toArray 74)).alloc (Xk #[Xe Xf k] 3)).alloc (Xk #[Xe Xf n] 3));have c:Xo (zc w d):=show zc w d by rw[<-b];exact((za _ _).trans (za _ _)).trans (za _ _)
 have j:Xo (Box d w.heap.size vs):=dD<|by rw[<-b];exact((Box.aE w _ _ rfl).alloc _).alloc _
 have g:Xo (Box d (w.heap.size+1) [Xe Xf k]):=dD<|by rw[<-b];exact(Box.aE _ _ _ Sm).alloc _
 have i:Xo (Box d (w.heap.size+2) [Xe Xf n]):=dD<|by rw[<-b];exact Box.aE _ _ _ Sm
 have a:=zgz vs t k n (w.heap.size+1) (w.heap.size+2) d (f.aA c) g i.out;have d:=dD b;clear b f
 generalize qX t (zl6 k n) 64=b at a⊢
 go_enter func242,ntmps242
 go_upto_region 1 with fail;rw[d.out]
 go_wp2_with (refine qI rfl (.tmp 3) rfl w.heap.size rfl j h.out ?_)
 refine a.mono ?_;rintro e b ⟨v,rfl,d,b⟩;have g:=dD<|d.base (bS c);have f:=dD (c.trans b);clear d b a;go_wp2;go_ret;exact⟨v,rfl,g,f⟩
end
section
def zpX (s:Sp) (kind k:Int):List Nat:=(Ya 64).filter fun n=>enS (zh s n) && zl6 kind k (zh s n)
def q8 (m:Ma) (kind k:Int) (q:Nat):List (Nat × Nat):=(Ya q).flatMap fun p=>(zpX (m.sp.getD p ⟨Xd,[],[]⟩) kind k).map fun n=>(p,n)
theorem zll (m) (kind k:Int):q8 m kind k 0=[]:=rfl
theorem zeY (m:Ma) (kind k:Int) (q:Nat):q8 m kind k (q+1)=q8 m kind k q++(zpX (m.sp.getD q ⟨Xd,[],[]⟩) kind k).map fun n=>(q,n):=by
 unfold q8;rw[List.range_succ,Ur];simp
theorem zj7 {s:Sp} {kind k:Int} (a:kind≠0) {n:Nat}:n∈zpX s kind k↔n<64/\isE (zh s n) kind k=Xc:=by
 unfold zpX;rw[Xu,Xs];refine and_congr_right fun _=>?_
 unfold enS zl6 isE
 grind
theorem JT {m:Ma} {kind k:Int} (d:kind≠0) {q:Nat} (a:q<=m.sp.length) {x:Nat × Nat}:x∈q8 m kind k q↔x.1<q/\x.2<64/\∃s,m.sp[x.1]? =Xa s/\isE (zh s x.2) kind k=Xc:=by
 unfold q8;rw[List.mem_flatMap];constructor
 ·rintro⟨p,b,c⟩;obtain⟨n,a,rfl⟩:=Xy.1 c;have f:=Xs.1 b;have e:=gE (show p<m.sp.length by omega)
  rw[gD,e,Option.getD_some,zj7 d]at a;exact⟨f,a.1,_,e,a.2⟩
 rintro⟨b,c,s,a,e⟩;refine⟨x.1,Xs.2 b,Xy.2 ⟨x.2,?_,rfl⟩⟩;rw[gD,a,Option.getD_some,zj7 d];exact⟨c,e⟩
def Zl (m:Ma) (e:En):List (Nat × Nat)->Ma
 | []=>m
 | x :: l=>Zl (zaF m x.1 x.2 e) e l
theorem zgW {e:En} (g:enW e=0):∀(l:List (Nat × Nat)) {m:Ma},(∀s∈m.sp,Qy s.tb)->(∀x∈l,x.2<64)->(Zl m e l).sp.length=m.sp.length/\(∀s∈(Zl m e l).sp,Qy s.tb)/\∀(q:Nat) s s',m.sp[q]? =Xa s->(Zl m e l).sp[q]? =Xa s'->s'.aH=s.aH/\s'.aD=s.aD/\∀j,zh s' j=if(q,j)∈l then e else zh s j
 | [],m,d,_=>⟨rfl,d,fun q s s' b c=>by
   simp only[Zl]at c;rw[b]at c;cases c;exact⟨rfl,rfl,fun j=>Sm⟩⟩
 | x :: l,m,d,a=>by
  have h:=a x (Yr ..);obtain⟨i,k,n⟩:=zgW g l (m:=zaF m x.1 x.2 e) (zcV d g) (fun y f=>a y (Yj _ f))
  refine⟨i.trans zbZ,k,fun q s s' b c=>?_⟩
  have:∃t,(zaF m x.1 x.2 e).sp[q]? =Xa t:=⟨_,gE (by rw[zbZ];exact(gS.1 b).1)⟩
  obtain⟨t,a⟩:=this;obtain⟨f,i,k⟩:=n q t s' a c;obtain⟨c,n⟩:=zdj b a;refine⟨f.trans c,i.trans n,fun j=>?_⟩
  rw[k j]
  by_cases c:(q,j)∈l
  ·rw[kE c,kE (Yj _ c)]
  rw[kF c]
  by_cases f:q=x.1/\j=x.2
  ·obtain⟨rfl,rfl⟩:=f;rw[kE (Yr ..)];exact(zmT d b h g a).1
  rw[zgR d h g b a f,kF];intro a
  rcases mC.1 a with a|a
  ·rw[<-a]at f;exact f ⟨rfl,rfl⟩
  exact c a
theorem zdk (e):∀(l:List (Nat × Nat)) (m:Ma),Zl m e l={ m with sp:=(Zl m e l).sp }
 | [],_=>rfl
 | x :: l,m=>by
  show Zl (zaF m x.1 x.2 e) e l=_
  rw[zdk e l (zaF m x.1 x.2 e)];rfl
theorem zsT {s:Sp} (h:Qy s.tb):s.tb=Z2 (zh s):=by
 have:=zkb (m:=⟨[],0,[],[],[],[],[],[],0,[],[s]⟩) (fun t a=>by grind)
 have a:=congrArg (fun b:Ma=>b.sp) this
 simp only[zaH,jd,mP,List.map_nil,Oc,List.zipWith_nil_left,List.cons.injEq,and_true]at a;exact(congrArg Sp.tb a).symm
theorem zpI {m:Ma} (h:Rt m) {k:Nat} {e:En} (f:enW e=0):(Zl m e (q8 m 1 (k:Int) m.sp.length)).sp=m.sp.map (j7 (k:Int) e):=by
 have g:∀s∈m.sp,Qy s.tb:=fun s c=>h.tb c
 have a:=fun b=>JT (m:=m) (kind:=1) (k:=(k:Int)) Dc (nR m.sp.length) (x:=b)
 obtain⟨d,h,i⟩:=zgW f (q8 m 1 (k:Int) m.sp.length) g (fun b f=>((a b).1 f).2.1)
 apply Yf
 intro q
 by_cases b:q<m.sp.length
 ·have c:=gE b;have a:=gE (show q< (Zl m e (q8 m 1 (k:Int) m.sp.length)).sp.length by rw[d];exact b)
  obtain⟨f,g,j⟩:=i q _ _ c a;rw[a,Xw,c,Option.map_some]
  congr 1
  have c:zh ((Zl m e (q8 m 1 (k:Int) m.sp.length)).sp[q]'(Rx d b))=fun j=>if j<64 then QG (k:Int) e (zh m.sp[q]) j else zh m.sp[q] j:=by grind [QG,isE,zh]
  have c:=zsT (h _ (mG a));have a:Z2 (zh ((Zl m e (q8 m 1 (k:Int) m.sp.length)).sp[q]'(Rx d b)))=Z2 (QG (k:Int) e (zh m.sp[q])):=by grind [Z2,Qq,Up,Xs.1]
  rw[a]at c;unfold j7
  generalize(Zl m e (q8 m 1 (k:Int) m.sp.length)).sp[q]'(Rx d b)=s' at f g c
  cases s'
  grind
 grind
theorem zhq {m:Ma} (h:Rt m) {k:Int}:∀x∈q8 m 2 k m.sp.length,x.2<64/\∃s,m.sp[x.1]? =Xa s/\(zJ s.aD x.2).is=Xc/\(zJ s.aD x.2).sh=Xd/\Qr m (zJ s.aD x.2) (zh s x.2)=(zS m.sb m.sq k,Xc,0):=fun x d=>by
 obtain⟨_,b,s,c,a⟩:=(JT Dc (nR _)).1 d
 simp only[isE,Xt,decide_eq_true_eq]at a;obtain⟨p,z,e,f,g,i,j,l,n⟩:=h.cA c b a.1
 grind [Qr]
theorem zcv {α:Type} {P:α->Bool}:∀{l:List α} {i:Nat},i<l.length->(∀(j:Nat) d,l[j]? =Xa d->(P d=Xc↔j=i))->l.eraseIdx i=l.filter fun d=>!P d
 | [],i,hi,_=>absurd hi Sm
 | a :: l,0,_,h=>by
  have b:=(h 0 a rfl).2 rfl;rw[List.eraseIdx_cons_zero,Oe,kF (by rw[b];decide)]
  refine(Yy.2 fun d c=>?_).symm
  obtain⟨j,e⟩:=Xv c;have:=h (j+1) d (Rx Oa e)
  cases e:P d with
  | false=>rfl
  | true=>exact absurd (this.1 e) Wm
 | a :: l,i+1,hi,h=>by
  have b:P a=Xd:=by
   cases e:P a with
   | false=>rfl
   | true=>exact absurd ((h 0 a rfl).1 e) Wm
  rw[List.eraseIdx_cons_succ,Oe,kE (Rr b),zcv (P:=P) (l:=l) (i:=i) (Si hi) fun j d c=>?_]
  have:=h (j+1) d (Rx Oa c)
  rw[this];omega
theorem zbW {α:Type} (P:α->Bool):∀l:List α,l.take (l.takeWhile P).length=l.takeWhile P/\l.drop (l.takeWhile P).length=l.dropWhile P
 | []=>Sm
 | a :: l=>by
  obtain⟨c,d⟩:=zbW P l
  cases b:P a with
  | true=>simp[b,c,d]
  | false=>simp[b]
def zcX (ca:List Ca) (c:Ca):Nat:=(ca.takeWhile fun d=>decide (qa d<qa c)).length
theorem zqv (ca:List Ca) (c:Ca):ca.take (zcX ca c)++c :: ca.drop (zcX ca c)=ZN ca c:=by
 unfold zcX ZN;rw[(zbW _ ca).1,(zbW _ ca).2]
section
variable{m:Ma} {k:Nat} {fr:Fr}
theorem zjj (h:Rt m) (b:m.fs[k]? =Xa fr) {i:Nat} {c:Ca} (e:m.ca[i]? =Xa c) (a:c.fr=(k:Int)):m.ca.eraseIdx i=m.ca.filter fun d=>!decide (d.fr=(k:Int)):=by
 obtain⟨b,a,a⟩:=zn.1 h.inv.ca;have a:∀d∈m.ca,d.fr=(k:Int)->d.file=fr.f/\d.idx=fr.x:=fun d a f=>by
  obtain⟨f,f,f,f⟩:=q9 (b d a)
  grind [zT]
 refine zcv (P:=fun d:Ca=>decide (d.fr=(k:Int))) (gS.1 e).1 fun j d a=>?_
 grind [mG,qa,gS.1,Nat.lt_trichotomy,Ov.1]
theorem Jc (h:Rt m) (e:m.fs[k]? =Xa fr) (d:0<=fr.f):∃(i:Nat) (c:Ca),m.ca[i]? =Xa c/\c.fr=(k:Int)/\c.file=fr.f/\c.idx=fr.x:=by
 obtain⟨c,a,b⟩:=zck ((h.inv.cf k fr e).2 d);obtain⟨i,b⟩:=Xv a;obtain⟨b,b,b,b⟩:=q9 ((zn.1 h.inv.ca).1 c a)
 grind [zT]
theorem qU (h:Rt m) {c:Ca} (e:c∈m.ca):∃(k:Nat) (fr:Fr),c.fr=(k:Int)/\m.fs[k]? =Xa fr/\fr.r≠0/\fr.f=c.file/\fr.x=c.idx/\zN m c.file c.idx=pgL fr.p:=by
 obtain⟨a,a,b,d⟩:=q9 ((zn.1 h.inv.ca).1 c e);have f:c.fr.toNat<m.fs.length:=Wm
 have g:=gE f;have f:=zT g;rw[show((c.fr.toNat:Nat):Int)=c.fr by omega]at f
 rw[f]at a b d;refine⟨c.fr.toNat,_,Wm,g,a,b,d,?_⟩
 unfold zN;rw[jZ h.inv.ca e]
 grind
end
def zcJ (l:List Int):Pg:=⟨l.getD 0 0,l.getD 1 0,l.getD 2 0,l.getD 3 0,l.getD 4 0,l.getD 5 0,l.getD 6 0,l.getD 7 0⟩
theorem zgZ {l:List Int} (h:l.length=8):pgL (zcJ l)=l:=by
 match l,h with
 | [_,_,_,_,_,_,_,_],_=>rfl
theorem zf6 {m:Ma} {x:On} {e:En} (h:zoI m x e) (a:e.kind=1):(zQ m e.n).f≠-1->0<=x.file/\(zQ m e.n).f=x.file/\(zQ m e.n).x=x.aG:=by
 have:=h.2.2
 grind [zgl]
section
variable{m:Ma} {k:Nat} {fr:Fr} {c:Ca}
theorem J5 (q:Rt m) {c a:Ca} (r:c∈m.ca) (e:a∈m.ca) (n:a.file=c.file) (p:a.idx=c.idx):a=c:=Classical.byContradiction fun f=>by
 obtain⟨_,_,l⟩:=zn.1 q.inv.ca;have k:qa a=qa c:=by unfold qa;rw[n,p]
 obtain⟨i,g,rfl⟩:=Us e;obtain⟨j,h,rfl⟩:=Us r;have d:=Ov.1 l
 rcases Nat.lt_trichotomy i j with b|b|b
 ·have:=d i j g h b;omega
 ·subst b;exact f rfl
 have:=d j i h g b;omega
theorem zbN (h:Rt m) {c b:Ca} (f:c∈m.ca) (a:b∈m.ca) (e:b.fr=c.fr):b=c:=by
 obtain⟨d,_,_⟩:=zn.1 h.inv.ca;have x:=q9 (d c f);have y:=q9 (d b a);exact J5 h f a (by grind) (by grind)
theorem zjK (h:Rt m) (s:m.fs[k]? =Xa fr) (f:c∈m.ca) (n:c.fr=(k:Int)) (pg:Pg) (u d:Bool) (file idx:Int):zN { m with fs:=m.fs.set k { fr with p:=pg,u:=u,d:=d } } file idx=if file=c.file/\idx=c.idx then pgL pg else zN m file idx:=by
 have g:=(gS.1 s).1;obtain⟨q,_,t⟩:=zn.1 h.inv.ca;unfold zN
 cases j:m.ca.find? (QU file idx)with
 | none=>
  rw[kF (c:=file=c.file/\idx=c.idx) (fun e=>by
   have:=Yl.1 j c f
   simp[QU,e.1,e.2]at this)]
  rfl
 | some b=>
  have i:=Yh j;have a:=Ue j;simp only[QU,Xt,decide_eq_true_eq]at a;have r:=(q9 (q b i)).1;simp only;rw[jX g b.fr r.2.2.2.2.1]
  by_cases e:b.fr=(k:Int)
  ·rw[kE e,kE];have:=zbN h f i (by rw[e,n])
   rw[<-this];exact⟨a.1.symm,a.2.symm⟩
  rw[kF e,kF];intro l;rw[J5 h f i (a.1.trans l.1) (a.2.trans l.2)]at e;exact e n
theorem zmV (h:Rt m) (a:m.fs[k]? =Xa fr) (b:fr.r≠0) (pg:Pg) (u d:Bool):Rt { m with fs:=m.fs.set k { fr with p:=pg,u:=u,d:=d } }:=
 Rt.of (h.inv.marks (p:=pg) (u:=u) (d:=d) a b) (fun s c=>h.tb c) h.aB.1 (Si h.aB.2)
theorem zq4 (h:Rt m) (f:m.fs[k]? =Xa fr) (r:c∈m.ca) (w:c.fr=(k:Int)) (pg:Pg) (u d:Bool) {q n:Nat} {s:Sp} (y:m.sp[q]? =Xa s) (x:n<64):
  Qr { m with fs:=m.fs.set k { fr with p:=pg,u:=u,d:=d } } (zJ s.aD n) (zh s n)=if(Qr m (zJ s.aD n) (zh s n)).2=(Xd,0)/\(zJ s.aD n).file=c.file/\(zJ s.aD n).aG=c.idx then(pgL pg,Xd,0)else Qr m (zJ s.aD n) (zh s n):=by
 have v:=(gS.1 f).1;obtain⟨A,_,K⟩:=zn.1 h.inv.ca;have G:=q9 (A c r);have t:(zQ m c.fr)=fr:=by rw[w];exact zT f
 rw[t]at G;unfold Qr
 by_cases g:(zJ s.aD n).is=Xd
 ·rw[kE g,kE g,kF Sm]
 rw[kF g,kF g]
 by_cases a:(zh s n).kind=1
 ·rw[kE a,kE a];obtain⟨z,E,C,b,D,Q⟩:=h.aV y x a;have H:(zQ m (zh s n).n).f≠-1->_:=(h.aZ y x).elim (fun e=>by rw[e]at a;cases a) fun e=>zf6 e a
  rw[D]at H;rw[C,jX v _ Wm,zT b]
  by_cases e:(z:Int)=(k:Int)
  ·have e:z=k:=Int.ofNat.inj e;subst e;rw[f]at b;cases b;rw[kE rfl,kE (by grind)]
   grind
  rw[kF e,kF];intro R;obtain⟨S,L,B,M,N,P⟩:=Jc h b (by grind)
  have:=J5 h r (mG B) (by grind) (by grind)
  grind
 rw[kF a,kF a]
 by_cases i:(zh s n).kind=2
 ·rw[kE i,kE i];simp
 rw[kF i,kF i]
 by_cases j:(zJ s.aD n).file<0
 ·rw[kE j,kE j,kF]
  grind
 rw[kF j,kF j];have F:bkN { m with fs:=m.fs.set k { fr with p:=pg,u:=u,d:=d } } (zJ s.aD n).file=bkN m (zJ s.aD n).file:=rfl;rw[F,zjK h f r w]
 by_cases l:bkN m (zJ s.aD n).file<=(zJ s.aD n).aG
 ·rw[kE l,kE l,kF Sm]
 rw[kF l,kF l]
 split
 ·rw[kE (by grind)]
 rw[kF (by grind)]
theorem zpb (h:Rt m) {q n:Nat} {s:Sp} (k:m.sp[q]? =Xa s) (j:n<64) (a:(Qr m (zJ s.aD n) (zh s n)).2=(Xd,0)) (M:0<=(zJ s.aD n).file):(Qr m (zJ s.aD n) (zh s n)).1=zN m (zJ s.aD n).file (zJ s.aD n).aG:=by
 unfold Qr at a⊢
 by_cases l:(zJ s.aD n).is=Xd
 ·rw[kE l]at a
  simp at a
 rw[kF l]at a⊢
 by_cases b:(zh s n).kind=1
 ·rw[kE b]at a⊢;obtain⟨B,d,F,g,w,G⟩:=h.aV k j b;have y:(zQ m (zh s n).n).f≠-1->_:=(h.aZ k j).elim (fun e=>by rw[e]at b;cases b) fun e=>zf6 e b
  rw[w]at y a⊢;have f:0<=d.f:=Si a
  obtain⟨N,E,r,t,u,v⟩:=Jc h g f;obtain⟨c,x,z,i,H,K,L,A⟩:=qU h (mG r);have:c=B:=Int.ofNat.inj (z.symm.trans t);subst this;rw[g]at i;cases i;obtain⟨P,C,D⟩:=y Wm
  rw[<-C,<-D,<-u,<-v,A]
 rw[kF b]at a⊢
 by_cases c:(zh s n).kind=2
 ·rw[kE c]at a
  simp at a
 rw[kF c]at a⊢;rw[kF Wm]at a⊢
 by_cases p:bkN m (zJ s.aD n).file<=(zJ s.aD n).aG
 ·rw[kE p]at a
  simp at a
 rw[kF p]
end
end
section
open Go.RowKit
def pgv (p:Pg):List Xq:=[Xe Xg p.b0,Xe Xg p.b1,Xe Xg p.b2,Xe Xg p.b3,Xe Xg p.b4,Xe Xg p.b5,Xe Xg p.b6,Xe Xg p.b7]
def frv (a:Fr):List Xq:=[Xe Xg a.p.b0,Xe Xg a.p.b1,Xe Xg a.p.b2,Xe Xg a.p.b3,Xe Xg a.p.b4,Xe Xg a.p.b5,Xe Xg a.p.b6,Xe Xg a.p.b7,Xe Xf a.r,Xh a.u,Xh a.d,Xe Xf a.f,Xe Xf a.x]
theorem ztr:(Tryz.prog.info? 93).map (fun i=>(i.zero,i.size,i.bytes))=Xa (Xa (Xi #[Xe Xg 0,Xe Xg 0,Xe Xg 0,Xe Xg 0,Xe Xg 0,Xe Xg 0,Xe Xg 0,Xe Xg 0,Xe Xf 0,Xh Xd,Xh Xd,Xe Xf 0,Xe Xf 0]),13,40):=by kernel_rfl
def frz:Xq:= Xi #[Xe Xg 0,Xe Xg 0,Xe Xg 0,Xe Xg 0,Xe Xg 0,Xe Xg 0,Xe Xg 0,Xe Xg 0,Xe Xf 0,Xh Xd,Xh Xd,Xe Xf 0,Xe Xf 0]
theorem zss:frz.cells=(frv fr0).toArray:=rfl
theorem zrB (a):(frv a).length=13:=rfl
theorem zrA (a):∀u∈frv a,u.oneCell'=Xc:=fun u b=>by
 simp only[frv,mC,nM,or_false]at b
 rcases b with rfl|rfl|rfl|rfl|rfl|rfl|rfl|rfl|rfl|rfl|rfl|rfl|rfl <;> rfl
theorem zf1 {a b:Fr} (h:zbI a b=Xc):a=b:=(zdK a b).1 h
theorem zpU {a b:Fr} (h:a≠b):zbI a b=Xd:=by
 cases c:zbI a b with
 | false=>rfl
 | true=>exact absurd (zf1 c) h
def qi:Elt Fr where
 enc:=frv
 k:=13
 ty:=93
 st:=30
 bytes:=40
 zv:=frz
 zero:=fr0
 len:=zrB
 one:=zrA
 bV:=underlying30
 aF:=ztr
 zok:=zss
 few:=by decide
 pos:=by decide
theorem Ji {P:Program} (w E) (k:IntKind) (d:Nat) (xs c:Array Xq) (i:TypeInfo) (e:P.underlying E=Xa (.int k)) (hi:P.info? E=Xa i) (q:i.size=1):
  ∀(a b:List Int) (o:Nat),a.length=b.length->(∀j v,a[j]? =Xa v->xs[o+j]? =Xa (.int k v))->(∀j v,b[j]? =Xa v->c[o+j]? =Xa (.int k v))->
   (Op.eqItems (d+1) E 1 xs c (List.range' o a.length)).run P w= .ok (decide (a=b)) w
 | [],[],_,_,_,_=>by simp[Op.eqItems]
 | [],_ :: _,_,h,_,_=>by simp at h
 | _ :: _,[],_,h,_,_=>by simp at h
 | x :: a,y :: b,o,h,l,m=>by
  have n:=l 0 x rfl;have p:=m 0 y rfl;have g:∀(f:Array Xq) v,f[o+0]? =Xa (.int k v)->(part E f (o*1)).run P w= .ok (.int k v) w:=fun f v f=>by
   rw[Nat.mul_one];exact run_part_plain w (by simp[Program.plainKey,e]) f
  have r:=Ji w E k d xs c i e hi q a b (o+1) (Si h) (fun j v f=>by rw[Oh,Om 1 j];exact l (j+1) v (Si f)) (fun j v f=>by rw[Oh,Om 1 j];exact m (j+1) v (Si f))
  simp only[Yi,List.range'_succ,Op.eqItems,Yg,g xs x n,g c y p,rA,run_equalIn_int w d E k k x y e]
  by_cases c:x=y
  ·subst c
   simp[r]
  have:(x == y)=Xd:=Si c
  simp[this,c]
theorem zeo {P:Program} (w T E) (k:IntKind) (d n:Nat) (a b:List Int) (i:TypeInfo) (f:P.underlying T=Xa (.array n E)) (e:P.underlying E=Xa (.int k)) (hi:P.info? E=Xa i) (c:i.size=1)
  (g:a.length=n) (h:b.length=n):
  (Op.equalIn (d+2) T (Xi (a.map (Value.int k)).toArray) (Xi (b.map (Value.int k)).toArray)).run P w= .ok (decide (a=b)) w:=by
 have h:P.cellsOf E=1:=by simp[Program.cellsOf,hi,c]
 rw[run_equalIn_array w (d+1) _ _ f hi,h,Uk,<-g];exact Ji w E k d _ _ i e hi c a b 0 Wm (fun j v c=>by simp[c]) (fun j v c=>by simp[c])
def zjy (W:Xn) (y:Addr) (a:Fr):Prop:=
 W.cell? y=Xa (Xe Xg a.p.b0)/\W.cell? { block:=y.block,off:=y.off+1 }=Xa (Xe Xg a.p.b1)/\W.cell? { block:=y.block,off:=y.off+2 }=Xa (Xe Xg a.p.b2)/\W.cell? { block:=y.block,off:=y.off+3 }=Xa (Xe Xg a.p.b3)/\
 W.cell? { block:=y.block,off:=y.off+4 }=Xa (Xe Xg a.p.b4)/\W.cell? { block:=y.block,off:=y.off+5 }=Xa (Xe Xg a.p.b5)/\W.cell? { block:=y.block,off:=y.off+6 }=Xa (Xe Xg a.p.b6)/\W.cell? { block:=y.block,off:=y.off+7 }=Xa (Xe Xg a.p.b7)/\
 W.cell? { block:=y.block,off:=y.off+8 }=Xa (Xe Xf a.r)/\W.cell? { block:=y.block,off:=y.off+9 }=Xa (Xh a.u)/\W.cell? { block:=y.block,off:=y.off+10 }=Xa (Xh a.d)/\W.cell? { block:=y.block,off:=y.off+11 }=Xa (Xe Xf a.f)/\W.cell? { block:=y.block,off:=y.off+12 }=Xa (Xe Xf a.x)
theorem jc.fr {y:Addr} {a:Fr} (h:jc W y (frv a)):zjy W y a:=
 ⟨h 0 _ rfl,h 1 _ rfl,h 2 _ rfl,h 3 _ rfl,h 4 _ rfl,h 5 _ rfl,h 6 _ rfl,h 7 _ rfl,h 8 _ rfl,h 9 _ rfl,h 10 _ rfl,h 11 _ rfl,h 12 _ rfl⟩
def zkw (w:Xn) (a:Option Addr) (l:List Fr):Prop:=∀(j:Nat) x,l[j]? =Xa x->∃ad,a=Xa ad/\∀W,zc w W->zjy W (ad.add (j*13)) x
theorem zj.bF {w:Xn} {v:Xq} {l:List Fr} (h:zj qi w v l):∃a c,v= O a l.length c/\zkw w a l:=by
 obtain⟨a,c,d,e⟩:=h.rows;refine⟨a,c,d,fun k x j=>?_⟩
 obtain⟨b,f,g⟩:=e k x j;exact⟨b,f,fun W i=>(g W i).fr⟩
theorem zts:(Tryz.prog.info? 5).map (fun i=>(i.zero,i.size,i.bytes))=Xa (Xa (Xe Xg 0),1,1):=by kernel_rfl
theorem zb1 (k:Nat) (a b c d e f g h c0 i j l m n p q:Int) (x):(Op.equalIn (k+2) 91 (Xi #[Xe Xg a,Xe Xg b,Xe Xg c,Xe Xg d,Xe Xg e,Xe Xg f,Xe Xg g,Xe Xg h]) (Xi #[Xe Xg c0,Xe Xg i,Xe Xg j,Xe Xg l,Xe Xg m,Xe Xg n,Xe Xg p,Xe Xg q])).run prog x= .ok (zfA ⟨a,b,c,d,e,f,g,h⟩ ⟨c0,i,j,l,m,n,p,q⟩) x:=by
 obtain⟨t,r,_,s,_⟩:=info_parts zts;have:=zeo (P:=prog) x 91 5 .u8 k 8 [a,b,c,d,e,f,g,h] [c0,i,j,l,m,n,p,q] t underlying91 underlying5 r s rfl rfl;rw[show zfA ⟨a,b,c,d,e,f,g,h⟩ ⟨c0,i,j,l,m,n,p,q⟩=decide ([a,b,c,d,e,f,g,h]=[c0,i,j,l,m,n,p,q])from by
  rw[Bool.eq_iff_iff,zbo,decide_eq_true_iff];simp only[Pg.mk.injEq,List.cons.injEq,and_true]]
 exact this
theorem zs1 (a b c e g h i j v:Int) (u d:Bool) (f x:Int) (c0 k l m n p q r w:Int) (y s:Bool) (t z:Int) (W):
  (Op.equalIn 10000 93 (Xi #[Xe Xg a,Xe Xg b,Xe Xg c,Xe Xg e,Xe Xg g,Xe Xg h,Xe Xg i,Xe Xg j,Xe Xf v,Xh u,Xh d,Xe Xf f,Xe Xf x]) (Xi #[Xe Xg c0,Xe Xg k,Xe Xg l,Xe Xg m,Xe Xg n,Xe Xg p,Xe Xg q,Xe Xg r,Xe Xf w,Xh y,Xh s,Xe Xf t,Xe Xf z])).run prog W
   = .ok (zbI ⟨⟨a,b,c,e,g,h,i,j⟩,v,u,d,f,x⟩ ⟨⟨c0,k,l,m,n,p,q,r⟩,w,y,s,t,z⟩) W:=by
 have C:Tryz.prog.underlying 93=Xa (.struct (Tryz.prog.fieldsOf 93)):=Kr
 have D:Tryz.prog.stoodInHeld 93=Xd:=Kr
 have A:=zb1 9997 a b c e g h i j c0 k l m n p q r;have u3:=underlying3;have B:=Tryz.isAgg3;have B:=Tryz.sizeOf3;have u4:=underlying4;have B:=Tryz.isAgg4;have B:=Tryz.sizeOf4;have B:=Tryz.isAgg91;have B:=Tryz.sizeOf91;rw[show zbI ⟨⟨a,b,c,e,g,h,i,j⟩,v,u,d,f,x⟩ ⟨⟨c0,k,l,m,n,p,q,r⟩,w,y,s,t,z⟩=(zfA ⟨a,b,c,e,g,h,i,j⟩ ⟨c0,k,l,m,n,p,q,r⟩ &&(v == w) &&(u == y) &&(d == s) &&(f == t) &&(x == z))from rfl]
 generalize zfA ⟨a,b,c,e,g,h,i,j⟩ ⟨c0,k,l,m,n,p,q,r⟩=P at A⊢
 rw[show(10000:Nat)=9999+1 from rfl,run_equalIn_agg W 9999 93 _ _ C D]
 simp only[Program.fieldsOf,underlying93]
 go_simp
 cases P
 ·simp
 by_cases a:v=w <;> by_cases b:u=y <;> by_cases c:d=s <;> by_cases e:f=t <;> by_cases g:x=z <;> simp[a,b,c,e,g]
theorem zP.step {P:Program} {a:Act} {w:Xn} {v:Xq} {K:Xq->Xn->Prop} (b:(execOp a.eval o).run P w= .ok (.value v) w') (h:K v w'):zP P o a w K:=by
 unfold zP;rw[b];exact h
def pgc (p:List Int):List Xq:=p.map (Value.int .u8)
def ptc (q:Int × List Int):List Xq:= Xe Xf q.1 :: pgc q.2
theorem ZL (p:List Int):(pgc p).length=p.length:=by simp[pgc]
theorem Q1 (q:Int × List Int):(ptc q).length=q.2.length+1:=by simp[ptc,pgc]
theorem jy (p):∀u∈pgc p,u.oneCell'=Xc:=fun u a=>by
 obtain⟨x,_,rfl⟩:=Xy.1 a;rfl
theorem zdl (q:Int × List Int):∀u∈ptc q,u.oneCell'=Xc:=fun u a=>by
 rcases mC.1 a with rfl|h
 ·rfl
 exact jy _ u h
def qV (w:Xn) (v:Xq) (ps:List (List Int)):Prop:=jN pgc w v ps/\(∀p∈ps,p.length=8)/\ps.length*8<=140737488355328
def jr (w:Xn) (v:Xq) (qs:List (Int × List Int)):Prop:=jN ptc w v qs/\(∀q∈qs,q.2.length=8)/\qs.length*16<=140737488355328
theorem qV.aA {w:Xn} {v:Xq} {a:List (List Int)} (h:qV w v a) (b:zc w w'):qV w' v a:=⟨h.1.aA b,h.2⟩
theorem jr.aA {w:Xn} {v:Xq} {qs:List (Int × List Int)} (h:jr w v qs) (a:zc w w'):jr w' v qs:=⟨h.1.aA a,h.2⟩
def zs (base:Nat) (w:Xn) (v:Xq) (ps:List (List Int)):Prop:=w.ownsRow base 91 8 v ps.length (ps.flatMap pgc)/\(∀p∈ps,p.length=8)/\ps.length*8<=140737488355328
def zo (base:Nat) (w:Xn) (v:Xq) (qs:List (Int × List Int)):Prop:=w.ownsRow base 117 9 v qs.length (qs.flatMap ptc)/\(∀q∈qs,q.2.length=8)/\qs.length*16<=140737488355328
theorem zs.at {base:Nat} {w:Xn} {v:Xq} {a:List (List Int)} (h:zs base w v a):qV w v a:=⟨Z4 h.1,h.2⟩
theorem zo.at {base:Nat} {w:Xn} {v:Xq} {qs:List (Int × List Int)} (h:zo base w v qs):jr w v qs:=⟨Z4 h.1,h.2⟩
def ZG (w:Xn) (d:Xq) (ps:List (List Int)) (qs:List (Int × List Int)):Prop:=∃b q,d= Xi #[b,q]/\qV w b ps/\jr w q qs
theorem ZG.aA {w:Xn} {d:Xq} {b:List (List Int)} {qs:List (Int × List Int)} (h:ZG w d b qs) (a:zc w w'):ZG w' d b qs:=by
 obtain⟨b,q,c,e,f⟩:=h;exact⟨b,q,c,e.aA a,f.aA a⟩
theorem zba (l:List Int) (i:l.length=8):∃a b c d e f g h,l=[a,b,c,d,e,f,g,h]:=by
 match l,i with
 | [a,b,c,d,e,f,g,h],_=>exact⟨a,b,c,d,e,f,g,h,rfl⟩
def zkt (W:Xn) (y:Addr) (m b0 b1 b2 b3 b4 b5 b6 b7:Int):Prop:=
 W.cell? y=Xa (Xe Xf m)/\W.cell? { block:=y.block,off:=y.off+1 }=Xa (Xe Xg b0)/\W.cell? { block:=y.block,off:=y.off+2 }=Xa (Xe Xg b1)/\W.cell? { block:=y.block,off:=y.off+3 }=Xa (Xe Xg b2)/\
 W.cell? { block:=y.block,off:=y.off+4 }=Xa (Xe Xg b3)/\W.cell? { block:=y.block,off:=y.off+5 }=Xa (Xe Xg b4)/\W.cell? { block:=y.block,off:=y.off+6 }=Xa (Xe Xg b5)/\W.cell? { block:=y.block,off:=y.off+7 }=Xa (Xe Xg b6)/\W.cell? { block:=y.block,off:=y.off+8 }=Xa (Xe Xg b7)
def zh2 (W:Xn) (y:Addr) (b0 b1 b2 b3 b4 b5 b6 b7:Int):Prop:=
 W.cell? y=Xa (Xe Xg b0)/\W.cell? { block:=y.block,off:=y.off+1 }=Xa (Xe Xg b1)/\W.cell? { block:=y.block,off:=y.off+2 }=Xa (Xe Xg b2)/\W.cell? { block:=y.block,off:=y.off+3 }=Xa (Xe Xg b3)/\
 W.cell? { block:=y.block,off:=y.off+4 }=Xa (Xe Xg b4)/\W.cell? { block:=y.block,off:=y.off+5 }=Xa (Xe Xg b5)/\W.cell? { block:=y.block,off:=y.off+6 }=Xa (Xe Xg b6)/\W.cell? { block:=y.block,off:=y.off+7 }=Xa (Xe Xg b7)
theorem jc.put {y:Addr} {m a b c d e f g i:Int} (h:jc W y (ptc (m,[a,b,c,d,e,f,g,i]))):zkt W y m a b c d e f g i:=
 ⟨h 0 _ rfl,h 1 _ rfl,h 2 _ rfl,h 3 _ rfl,h 4 _ rfl,h 5 _ rfl,h 6 _ rfl,h 7 _ rfl,h 8 _ rfl⟩
theorem jc.aG {y:Addr} {a b c d e f g i:Int} (h:jc W y (pgc [a,b,c,d,e,f,g,i])):zh2 W y a b c d e f g i:=
 ⟨h 0 _ rfl,h 1 _ rfl,h 2 _ rfl,h 3 _ rfl,h 4 _ rfl,h 5 _ rfl,h 6 _ rfl,h 7 _ rfl⟩
def zd8 (w:Xn) (a:Option Addr) (qs:List (Int × List Int)):Prop:=
 ∀(j:Nat) q,qs[j]? =Xa q->∃x m b0 b1 b2 b3 b4 b5 b6 b7,a=Xa x/\q=(m,[b0,b1,b2,b3,b4,b5,b6,b7])/\∀W,zc w W->zkt W (x.add (j*9)) m b0 b1 b2 b3 b4 b5 b6 b7
def zkv (w:Xn) (a:Option Addr) (ps:List (List Int)):Prop:=
 ∀(j:Nat) p,ps[j]? =Xa p->∃x b0 b1 b2 b3 b4 b5 b6 b7,a=Xa x/\p=[b0,b1,b2,b3,b4,b5,b6,b7]/\∀W,zc w W->zh2 W (x.add (j*8)) b0 b1 b2 b3 b4 b5 b6 b7
theorem jr.rows {w:Xn} {v:Xq} {qs:List (Int × List Int)} (q:jr w v qs):∃a c,v= O a qs.length c/\zd8 w a qs:=by
 obtain⟨⟨a,c,r,s,t⟩,d,_⟩:=q;refine⟨a,c,r,fun C B e=>?_⟩
 have b:=mG e;obtain⟨A,z⟩:=B;obtain⟨g,h,i,j,l,m,n,p,rfl⟩:=zba z (d _ b)
 cases a with
 | none=>rw[s rfl]at b;cases b
 | some x=>exact⟨x,A,g,h,i,j,l,m,n,p,rfl,rfl,fun W u=>(((t x rfl).aA u).elem (k:=9) (fun f y=>by rw[Q1,d f y]) e).put⟩
theorem qV.rows {w:Xn} {v:Xq} {d:List (List Int)} (r:qV w v d):∃a c,v= O a d.length c/\zkv w a d:=by
 obtain⟨⟨a,c,s,t,u⟩,e,_⟩:=r;refine⟨a,c,s,fun B A f=>?_⟩
 have b:=mG f;obtain⟨h,i,j,l,m,n,p,q,rfl⟩:=zba A (e _ b)
 cases a with
 | none=>rw[t rfl]at b;cases b
 | some x=>exact⟨x,h,i,j,l,m,n,p,q,rfl,rfl,fun W y=>(((u x rfl).aA y).elem (k:=8) (fun g z=>by rw[ZL,e g z]) f).aG⟩
theorem JU (a) (n c:Nat) (q) (m:Int) (w):
  Xp prog 114 #[Xi #[O a n c,q],Xe Xf m] w fun e w'=>e= Xl (Xh (j0 m n))/\zc w w':=by
 have H:Xo (j0 m n=(decide (0<=m) && decide (m<n))):=rfl
 by_cases b:0<=m
 ·by_cases b:m<n
  ·go_enter func114,ntmps114
   go_wp2;go_ret;exact⟨by rw[H.out];simp[*],(bR _ _).alloc (nR _) _⟩
  go_enter func114,ntmps114
  go_wp2;go_ret;exact⟨by rw[H.out];simp[*],(bR _ _).alloc (nR _) _⟩
 go_enter func114,ntmps114
 go_wp2;go_ret;exact⟨by rw[H.out];simp;omega,(bR _ _).alloc (nR _) _⟩
theorem zkA (a) (n c:Nat) (f) (B:Nat) (q:Int × List Int) (m:q.2.length=8) (w:Xn) (b:w.cell? ⟨B,0,Xb⟩=Xa (O a n c)) (d:w.cell? ⟨B,1,Xb⟩=Xa f):
  Xp prog 113 #[Xi (ptc q).toArray,Xj (Xa ⟨B,0,Xb⟩)] w fun e w'=>e= Xl (Xh (!j0 q.1 n))/\zc w w':=by
 obtain⟨r,p⟩:=q;obtain⟨d,f,g,h,i,j,k,l,rfl⟩:=zba p m;have m:=World.block_lt_of_cell? _ _ b;have b:B≠w.heap.size:=by simp at m;omega
 show Xp prog 113 #[Xi #[Xe Xf r,Xe Xg d,Xe Xg f,Xe Xg g,Xe Xg h,Xe Xg i,Xe Xg j,Xe Xg k,Xe Xg l],Xj (Xa ⟨B,0,Xb⟩)] w _
 go_enter func113,ntmps113
 go_wp2_with (go_at_call 114;refine(JU _ _ _ _ _ _).mono ?_;rintro e w' ⟨rfl,b⟩)
 go_ret;exact⟨rfl,zc.trans ((bR _ _).alloc (nR _) _) b⟩
def ztg (p:Int × List Int->Bool) (qs:List (Int × List Int)) (r:Int):Prop:=
 (r=-1/\∀(j:Nat) q,qs[j]? =Xa q->p q=Xd)\/∃(k:Nat) (q:Int × List Int),r=(k:Int)/\qs[k]? =Xa q/\p q=Xc/\∀(j:Nat) q',j<k->qs[j]? =Xa q'->p q'=Xd
def zku (g:Nat) (lb:Array Xq) (p:Int × List Int->Bool) (w:Xn):Prop:=
 ∀W q,zc w W->q.2.length=8->Xp prog g (#[Xi (ptc q).toArray]++lb) W fun e W'=>e= Xl (Xh (p q))/\zc W W'
theorem zbz (p:Int × List Int->Bool) (g:Nat) (lb:Array Xq) (a5:∀c w,(callFunc g c).run prog w= .ok (.enter g c) w) (v) (qs:List (Int × List Int)) (w) (y:jr w v qs) (hp:zku g lb p w):
  Xp prog 164 #[v,.func (.func g) #[] lb] w fun e w'=>∃N:Int,e= Xl (Xe Xf N)/\zc w w'/\ztg p qs N:=by
 obtain⟨V,W,rfl,d⟩:=y.rows;have l:qs.length<=9223372036854775807:=Hm y.2.2
 have Q:=dD d;have P:=dD hp;clear d hp y;obtain⟨n,x⟩:=kB qs.length;have z:=dD x;rw[x]at l⊢;clear x
 go_enter func164,ntmps164
 go_wp2
 go_loopg [5,8] n (fun R _ U wr=>∃b:Nat,b<=n/\n - b<=R/\U= Xe Xf b/\Xo (zc w wr)/\Xo (∀j q,j<b->qs[j]? =Xa q->p q=Xd))
 exact⟨0,nZ _,Wm,rfl,zc.refl w,fun j q m=>absurd m (nL _)⟩
 obtain⟨b,S,a6,rfl,k,A⟩:=hrel
 by_cases h:b<n
 ·have s:=kC h
  have r:b<qs.length:=Rx z.out h
  obtain⟨q,u⟩:∃q,Xo (qs[b]? =Xa q):=⟨_,gE r⟩;obtain⟨a7,M,B,C,D,E,F,G,H,K,rfl,rfl,L⟩:=Q.out b q u.out;obtain⟨X,Y,Z,I,a0,a1,a2,a3,a4⟩:=L wr k.out;have a:=P.out wr (M,[B,C,D,E,F,G,H,K]) k rfl;clear L r
  cases t:p (M,[B,C,D,E,F,G,H,K])with
  | true=>
   rw[t]at a
   go_wp2_with (go_at_fn g;refine a.mono ?_;rintro e w' ⟨rfl,f⟩)
   go_ret;exact⟨_,rfl,k.trans f, .inr ⟨b,_,rfl,u,t,A⟩⟩
  | false=>
   rw[t]at a
   go_wp2_with (go_at_fn g;refine a.mono ?_;rintro e w' ⟨rfl,f⟩)
   go_roundg (n -(b+1))
   case measure=>omega
   refine⟨b+1,Wm,Wm,Gn,k.trans f,(show Xo _ from fun j T m i=>?_)⟩
   by_cases e:j=b
   ·subst e;rw[u.out]at i;cases i;exact t
   exact A j T Wm i
 have s:=kD h
 have:b=n:=Wm
 subst this;go_wp2;go_ret;refine⟨_,rfl,k,.inl ⟨rfl,fun j q m=>A.out j q ?_ m⟩⟩
 have:=(gS.1 m).1;rw[z.out]at this;exact this
theorem Jj (p:Int × List Int->Bool) (g:Nat) (lb:Array Xq) (b:∀a w,(callFunc g a).run prog w= .ok (.enter g a) w) (v) (qs:List (Int × List Int)) (w) (c:jr w v qs) (hp:zku g lb p w):
  Xp prog 112 #[v,.func (.func g) #[] lb] w fun e w'=>e= Xl (Xh (qs.any p))/\zc w w':=by
 have a:=zbz p g lb b v qs w c hp;clear c hp b
 go_enter func112,ntmps112
 go_wp2_with (go_at_call 164;refine a.mono ?_;rintro e w' ⟨r,rfl,d,a⟩)
 go_ret;have c:qs.any p=decide (0<=r):=by
  rcases a with⟨rfl,h⟩|⟨k,q,rfl,a,b,_⟩
  ·rw[show decide ((0:Int)<=-1)=Xd from rfl,Ob]
   intro q i;obtain⟨j,f⟩:=Xv i;rw[h j q f];simp
  rw[show decide ((0:Int)<=(k:Int))=Xc from Sm,Yd]
  exact⟨q,mG a,b⟩
 rw[c];exact⟨rfl,d⟩
theorem ziv (a) (n c:Nat) (g) (B:Nat) (w:Xn) (b:w.cell? ⟨B,0,Xb⟩=Xa (O a n c)) (d:w.cell? ⟨B,1,Xb⟩=Xa g):
  zku 113 #[Xj (Xa ⟨B,0,Xb⟩)] (fun q=>!j0 q.1 n) w:=fun W q f h=>by
 have e:=World.block_lt_of_cell? _ _ b;exact zkA a n c g B q h W ((Below.cell f (p:=⟨B,0,Xb⟩) e).trans b) ((Below.cell f (p:=⟨B,1,Xb⟩) e).trans d)
theorem zbb (a) (n c:Nat) (p) (qs:List (Int × List Int)) (w) (k:jr w p qs):
  Xp prog 60 #[Xi #[O a n c,p]] w fun e w'=>e= Xl (Xe Xf (zB n qs))/\zc w w':=by
 have d:Xo (zB n qs=if 80<n then 4 else if 400<qs.length then 4 else if qs.any (fun q=>!j0 q.1 n)then 3 else 0):=rfl
 obtain⟨f,g,rfl,_⟩:=k.rows;have b:=Jj (fun q=>!j0 q.1 n) 113 #[Xj (Xa ⟨w.heap.size,0,Xb⟩)] (enters_of func113 Kr rfl) (O f qs.length g) qs (w.alloc (Xk #[O a n c,O f qs.length g] 38)) (k.aA (za _ _)) (ziv a n c (O f qs.length g) _ _ Sm Sm)
 clear k;obtain⟨nq,s⟩:=kA qs.length;rw[s.out]at b d⊢;obtain⟨t,r⟩:=kA (qs.any fun q=>!j0 q.1 n)
 rw[r.out]at b d
 by_cases l:80<n
 ·have h:(80:Int)< (n:Int):=Wm
  rw[kE l]at d;clear b
  go_enter func60,ntmps60
  go_wp2;go_ret;exact⟨Rr d.out,za _ _⟩
 have h:¬(80:Int)< (n:Int):=Wm
 rw[kF l]at d
 by_cases m:400<nq
 ·have i:(400:Int)< (nq:Int):=Wm
  rw[kE m]at d;clear b
  go_enter func60,ntmps60
  go_wp2;go_ret;exact⟨Rr d.out,za _ _⟩
 have i:¬(400:Int)< (nq:Int):=Wm
 rw[kF m]at d
 cases t with
 | true=>
  go_enter func60,ntmps60
  go_wp2_with (go_at_call 112;refine b.mono ?_;rintro e w' ⟨rfl,j⟩)
  go_ret;exact⟨Rr d.out,(za _ _).trans j⟩
 | false=>
  go_enter func60,ntmps60
  go_wp2_with (go_at_call 112;refine b.mono ?_;rintro e w' ⟨rfl,j⟩)
  go_ret;exact⟨Rr d.out,(za _ _).trans j⟩
theorem Zm (a) (n c:Nat) (h) (qs:List (Int × List Int)) (m:Int) (w) (d:jr w h qs):
  Xp prog 210 #[Xi #[O a n c,h],Xe Xf m] w fun e w'=>e= Xl (Xe Xf (zg n qs m))/\zc w w':=by
 have f:Xo (zg n qs m=if zB n qs=0 then(if j0 m n then 0 else 3)else zB n qs):=rfl;have b:=zbb a n c h qs (w.alloc (Xk #[O a n c,h] 38)) (d.aA (za _ _));clear d;obtain⟨r,d⟩:=kA (zB n qs);rw[d.out]at b f
 by_cases j:r=0
 ·subst j;rw[kE rfl]at f
  cases i:j0 m n with
  | true=>
   rw[i]at f
   go_enter func210,ntmps210
   go_wp2_with (first
    | (go_at_call 60;refine b.mono ?_;rintro e w' ⟨rfl,d⟩;have l:w'.cell? ⟨w.heap.size,0,Xb⟩=Xa (O a n c):=(Below.cell d Sm).trans Sm;have p:w'.cell? ⟨w.heap.size,1,Xb⟩=Xa h:=(Below.cell d Sm).trans Sm)
    | (go_at_call 114;refine(JU _ _ _ _ _ _).mono ?_;rintro e k ⟨rfl,g⟩;rw[i]))
   go_ret;exact⟨Rr f.out,((za _ _).trans d).trans g⟩
  | false=>
   rw[i]at f
   go_enter func210,ntmps210
   go_wp2_with (first
    | (go_at_call 60;refine b.mono ?_;rintro e w' ⟨rfl,d⟩;have l:w'.cell? ⟨w.heap.size,0,Xb⟩=Xa (O a n c):=(Below.cell d Sm).trans Sm;have p:w'.cell? ⟨w.heap.size,1,Xb⟩=Xa h:=(Below.cell d Sm).trans Sm)
    | (go_at_call 114;refine(JU _ _ _ _ _ _).mono ?_;rintro e k ⟨rfl,g⟩;rw[i]))
   go_ret;exact⟨Rr f.out,((za _ _).trans d).trans g⟩
 have g:(r != 0)=Xc:=Si j
 rw[kF j]at f
 go_enter func210,ntmps210
 go_wp2_with (go_at_call 60;refine b.mono ?_;rintro e w' ⟨rfl,d⟩)
 go_ret;exact⟨Rr f.out,(za _ _).trans d⟩
theorem ztt:(Tryz.prog.info? 91).map (fun i=>(i.zero,i.size,i.bytes))=Xa (Xa (Xi #[Xe Xg 0,Xe Xg 0,Xe Xg 0,Xe Xg 0,Xe Xg 0,Xe Xg 0,Xe Xg 0,Xe Xg 0]),8,8):=by kernel_rfl
theorem ztu:(Tryz.prog.info? 117).map (fun i=>(i.zero,i.size,i.bytes))=Xa (Xa (Xi #[Xe Xf 0,Xe Xg 0,Xe Xg 0,Xe Xg 0,Xe Xg 0,Xe Xg 0,Xe Xg 0,Xe Xg 0,Xe Xg 0]),9,16):=by kernel_rfl
theorem zaI (v) (d:List (List Int)) (w:Xn) (j:qV w v d):
  Xp prog 99 #[v] w fun e w'=>∃f,e= Xl f/\zs w.heap.size w' f d/\zc w w':=by
 obtain⟨⟨g,h,rfl,c,b⟩,i,a⟩:=j;have j:=fun w g n h k j=>Lib.run_eql_slice_nil w _ _ g n h k j underlying35
 cases g with
 | none=>
  have g:=c rfl;subst g;clear b c i a
  go_enter func99,ntmps99
  go_wp2;go_ret;exact⟨_,rfl,⟨World.ownsRow_nil _ _ _ _,Sm,Sm⟩,zc.refl w⟩
 | some x=>
  have A:=b x rfl;have k:=dD A;have g:=dD a;have j:=dD i;clear b c a i;obtain⟨l,i,a,b,c⟩:=info_parts ztt
  go_enter func99,ntmps99
  go_wp2_with (at_builtin;refine wpList_append_own _ rfl _ _ 35 rfl w.heap.size 91 l _ 8 8 underlying35 i a b c rfl Dc _ _ _ rfl (World.ownsRow_made w #[] 0 (nR _) (nZ _) Sm) x d.length h (d.flatMap pgc) rfl ?qc1 ?qc2 ?qc3 ?qc4 ?qc5 ?qc6 ?_)
  case qc1=>exact qT d fun p a=>by rw[ZL,j.out p a]
  case qc2=>exact k.aA (za _ _)
  case qc3=>exact qS jy d
  case qc4=>rw[zA];exact jB (Hm g.out)
  case qc5=>rw[zA];exact g.out
  case qc6=>simp
  intro f a b a c;go_wp2;go_ret;exact⟨f,rfl,⟨Si b,j,g⟩,((bR _ w).alloc (nR _) _).grown a Sm (by intro k a;simp[Value.ownBlock]at a;omega)⟩
theorem zf7 (v) (qs:List (Int × List Int)) (w:Xn) (i:jr w v qs):
  Xp prog 100 #[v] w fun e w'=>∃d,e= Xl d/\zo w.heap.size w' d qs/\zc w w':=by
 obtain⟨⟨f,g,rfl,c,b⟩,h,a⟩:=i;have i:=fun w f n g j i=>Lib.run_eql_slice_nil w _ _ f n g j i underlying36
 cases f with
 | none=>
  have f:=c rfl;subst f;clear b c h a
  go_enter func100,ntmps100
  go_wp2;go_ret;exact⟨_,rfl,⟨World.ownsRow_nil _ _ _ _,Sm,Sm⟩,zc.refl w⟩
 | some x=>
  have A:=b x rfl;have j:=dD A;have f:=dD a;have i:=dD h;clear b c a h;obtain⟨k,h,a,b,c⟩:=info_parts ztu
  go_enter func100,ntmps100
  go_wp2_with (at_builtin;refine wpList_append_own _ rfl _ _ 36 rfl w.heap.size 117 k _ 9 16 underlying36 h a b c rfl Dc _ _ _ rfl (World.ownsRow_made w #[] 0 (nR _) (nZ _) Sm) x qs.length g (qs.flatMap ptc) rfl ?qc1 ?qc2 ?qc3 ?qc4 ?qc5 ?qc6 ?_)
  case qc1=>exact qT qs fun p a=>by rw[Q1,i.out p a]
  case qc2=>exact j.aA (za _ _)
  case qc3=>exact qS zdl qs
  case qc4=>rw[zA];exact jB (Hm f.out)
  case qc5=>rw[zA];exact f.out
  case qc6=>simp
  intro d a b a c;go_wp2;go_ret;exact⟨d,rfl,⟨Si b,i,f⟩,((bR _ w).alloc (nR _) _).grown a Sm (by intro k a;simp[Value.ownBlock]at a;omega)⟩
def J9 (base:Nat) (w:Xn) (d:Xq) (ps:List (List Int)) (qs:List (Int × List Int)):Prop:=∃b q,d= Xi #[b,q]/\zs base w b ps/\zo base w q qs
theorem zs.aA {base:Nat} {w:Xn} {v:Xq} {a:List (List Int)} (h:zs base w v a) (b:zc w w'):zs base w' v a:=⟨JI h.1 b,h.2⟩
theorem zo.aA {base:Nat} {w:Xn} {v:Xq} {qs:List (Int × List Int)} (h:zo base w v qs) (a:zc w w'):zo base w' v qs:=⟨JI h.1 a,h.2⟩
theorem zs.base {base:Nat} {w:Xn} {v:Xq} {a:List (List Int)} (h:zs base w v a) (b:base'<=base):zs base' w v a:=⟨jz h.1 b,h.2⟩
theorem zo.base {base:Nat} {w:Xn} {v:Xq} {qs:List (Int × List Int)} (h:zo base w v qs) (a:base'<=base):zo base' w v qs:=⟨jz h.1 a,h.2⟩
theorem zs.slice {base:Nat} {w:Xn} {v:Xq} {b:List (List Int)} (h:zs base w v b):∃a n c,v= O a n c:=by
 rcases h.1.2 with⟨rfl,_⟩|⟨g,b,b,rfl,_⟩
 ·grind
 grind
theorem zo.slice {base:Nat} {w:Xn} {v:Xq} {qs:List (Int × List Int)} (h:zo base w v qs):∃a n c,v= O a n c:=by
 rcases h.1.2 with⟨rfl,_⟩|⟨g,b,b,rfl,_⟩
 ·grind
 grind
theorem zs.setCell {base:Nat} {w:Xn} {v:Xq} {b:List (List Int)} (h:zs base w v b) {a:Addr} (c:a.block<base) (u):zs base (w.setCell a u) v b:=⟨ownsRow_setCell_below h.1 c u,h.2⟩
theorem zo.setCell {base:Nat} {w:Xn} {v:Xq} {qs:List (Int × List Int)} (h:zo base w v qs) {a:Addr} (b:a.block<base) (u):zo base (w.setCell a u) v qs:=⟨ownsRow_setCell_below h.1 b u,h.2⟩
def zO (base:Nat) (w:Xn) (d:Xq) (ps:List (List Int)) (qs:List (Int × List Int)):Prop:=∃b q,d= Xi #[b,q]/\qV w b ps/\jr w q qs/\Zb base b/\Zb base q
theorem zO.base {base:Nat} {w:Xn} {d:Xq} {b:List (List Int)} {qs:List (Int × List Int)} (h:zO base w d b qs) (a:base'<=base):zO base' w d b qs:=by
 obtain⟨b,q,c,e,f,g,i⟩:=h;exact⟨b,q,c,e,f,fun x n c e=>nT a (g x n c e),fun x n c e=>nT a (i x n c e)⟩
theorem zO.setCell {base:Nat} {w:Xn} {d:Xq} {b:List (List Int)} {qs:List (Int × List Int)} (i:zO base w d b qs) {a:Addr} (g:a.block<base) (u):zO base (w.setCell a u) d b qs:=by
 obtain⟨h,q,j,b,c,e,f⟩:=i;exact⟨h,q,j,⟨b.1.setCell e g u,b.2⟩,⟨c.1.setCell f g u,c.2⟩,e,f⟩
theorem zs.fresh {base:Nat} {w:Xn} {v:Xq} {a:List (List Int)} (h:zs base w v a):Zb base v:=fun x n c e=>by
 rcases h.1.2 with⟨b,_⟩|⟨g,a,a,b,a,_⟩
 ·grind
 grind
theorem zo.fresh {base:Nat} {w:Xn} {v:Xq} {qs:List (Int × List Int)} (h:zo base w v qs):Zb base v:=fun x n c e=>by
 rcases h.1.2 with⟨b,_⟩|⟨g,a,a,b,a,_⟩
 ·grind
 grind
theorem J9.new {base:Nat} {w:Xn} {d:Xq} {a:List (List Int)} {qs:List (Int × List Int)} (h:J9 base w d a qs):zO base w d a qs:=by
 obtain⟨c,q,e,a,b⟩:=h;exact⟨c,q,e,a.at,b.at,a.fresh,b.fresh⟩
theorem zb2 (d) (g:List (List Int)) (qs:List (Int × List Int)) (w:Xn) (b:ZG w d g qs):
  Xp prog 53 #[d] w fun e w'=>∃a,e= Xl a/\J9 w.heap.size w' a g qs/\zc w w':=by
 obtain⟨a,q,rfl,c,a⟩:=b;have D:=dD c;have E:=dD a;obtain⟨k,m,rfl,_⟩:=c.rows;obtain⟨l,n,rfl,_⟩:=a.rows;clear c a
 go_enter func53,ntmps53
 go_wp2;obtain⟨a,b⟩:=kB ((w.alloc (Xk #[O k g.length m,O l qs.length n] 38)).alloc (Xk #[O Xb 0 0,O Xb 0 0] 38));have h:=gD2 b
 have j:Xo (a.heap.size=w.heap.size+2):=dD<|by rw[<-b];simp
 have z:a.cell? ⟨w.heap.size,0,Xb⟩=Xa (O k g.length m):=by rw[<-b];simp
 have A:a.cell? ⟨w.heap.size,1,Xb⟩=Xa (O l qs.length n):=by rw[<-b];simp
 have q:a.cell? ⟨w.heap.size+1,0,Xb⟩=Xa (O Xb 0 0):=by rw[<-b];simp
 have r:a.cell? ⟨w.heap.size+1,1,Xb⟩=Xa (O Xb 0 0):=by rw[<-b];simp
 have B:a.frozen? ⟨w.heap.size+1,0,Xb⟩=Xd:=by rw[<-b];simp
 have C:a.frozen? ⟨w.heap.size+1,1,Xb⟩=Xd:=by rw[<-b];simp
 rw[b];have u:=fun x:zf a=>(Below.cell x.aA (World.block_lt_of_cell? _ _ z)).trans z
 have y:=fun x:zf a=>(Below.cell x.aA (World.block_lt_of_cell? _ _ A)).trans A
 have s:Nonempty (zf a):=⟨⟨_,zc.refl _⟩⟩;refine jf 7 [(2,⟨fun f=>∃a t i,f= O a t i,fun f w'=>zs (w.heap.size+2) w' f g⟩),(5,⟨fun f=>∃a t i,f= O a t i,fun f w'=>zo (w.heap.size+2) w' f qs⟩)] zW Kr rfl rfl Dc ?_ ?_ ?_
 ·intro x a
  simp at a
  rcases a with rfl|rfl
  ·exact⟨_,Xb,0,0,rfl⟩
  exact⟨_,Xb,0,0,rfl⟩
 ·intro x a
  simp at a
  rcases a with rfl|rfl
  ·intro f t x a i;exact i.aA a
  intro f t x a i;exact i.aA a
 simp only[List.take,List.drop];iterate 2 refine ze ?_
 refine zx rfl rfl (fun w' a i=>?_) (fun F t=>?_)
 ·refine zP.call [O k g.length m] rfl func99 rfl rfl rfl ?_;refine(zaI _ g w' (D.aA (h.out.trans a))).mono ?_;rintro e g ⟨D,rfl,c,f⟩;exact⟨_,rfl,f,c.slice,c.base (by have:=bS a;rw[j.out]at this;exact this)⟩
 obtain⟨k,x,m,rfl⟩:=t;refine Uq ?_;iterate 2 refine ze ?_
 refine zx rfl rfl (fun w' a i=>?_) (fun F t=>?_)
 ·refine zP.call [O l qs.length n] rfl func100 rfl rfl rfl ?_;refine(zf7 _ qs w' (E.aA (h.out.trans a))).mono ?_;rintro e g ⟨D,rfl,c,f⟩;exact⟨_,rfl,f,c.slice,c.base (by have:=bS a;rw[j.out]at this;exact this)⟩
 obtain⟨j,n,l,rfl⟩:=t;refine Uq ?_;refine ze ?_
 refine zL fun w' a i=>?_
 have c:=dD<|i 2;have f:=dD<|i 5;have g:=(Below.cell a (World.block_lt_of_cell? _ _ q)).trans q;have g:=(Below.cell a (World.block_lt_of_cell? _ _ r)).trans r;have g:=(Below.frozen a (World.block_lt_of_cell? _ _ q)).trans B;have g:=(Below.frozen a (World.block_lt_of_cell? _ _ r)).trans C;have g:=dD (h.out.trans a);clear i z A q r B C u y b a s;go_wp2;refine bodyPost_ret (v:= Xi #[O k x m,O j n l]) (by simp[results,Tryz.results53,go_sem, *]) rfl ⟨_,rfl,⟨_,_,rfl,((c.out.setCell Sm _).setCell Sm _).base Wm,((f.out.setCell Sm _).setCell Sm _).base Wm⟩,?_⟩
 exact Below.setCell (Below.setCell g (p:=⟨w.heap.size+1,0,Xb⟩) Sm _) (p:=⟨w.heap.size+1,1,Xb⟩) Sm _
def siv (z:Int):List Xq:=[Xe Xf z]
theorem ztv:(Tryz.prog.info? 3).map (fun i=>(i.zero,i.size,i.bytes))=Xa (Xa (Xe Xf 0),1,8):=by kernel_rfl
def slE:Elt Int where
 enc:=siv
 k:=1
 ty:=3
 st:=34
 bytes:=8
 zv:= Xe Xf 0
 zero:=0
 len:=fun _=>rfl
 one:=fun a u hu=>by
  simp only[siv,mC,nM,or_false]at hu;subst hu;rfl
 bV:=underlying34
 aF:=ztv
 zok:=rfl
 few:=by decide
 pos:=by decide
def zoA (w:Xn) (a:Option Addr) (l:List Int):Prop:=∀(j:Nat) x,l[j]? =Xa x->∃ad,a=Xa ad/\∀W,zc w W->W.cell? (ad.add j)=Xa (Xe Xf x)
theorem zj.sls {w:Xn} {v:Xq} {l:List Int} (h:zj slE w v l):∃a c,v= O a l.length c/\zoA w a l:=by
 obtain⟨a,c,b,d⟩:=h.rows;refine⟨a,c,b,fun j x g=>?_⟩
 obtain⟨b,e,f⟩:=d j x g;refine⟨b,e,fun W b=>?_⟩
 have:=f W b 0 _ rfl;rw[qO,show j*slE.k+0=j from by show j*1+0=j;omega]at this
 exact this
end
section
def zhM (fs:List Fl) (cnt:Int):Int:=if stW fs cnt=0 then(if fs.length=5 then 4 else 0)else stW fs cnt
def zoP (fs:List Fl) (cnt:Int):List Fl:=if zhM fs cnt=0 then fs++ [⟨0,[]⟩]else []
def zrR (fs:List Fl) (cnt:Int):Int:=if zhM fs cnt=0 then cnt else 0
def zrQ (fs:List Fl) (cnt:Int):Int:=if zhM fs cnt=0 then(fs.length:Int)else 0
def inL (n:Nat) (k:Int):Bool:=decide (0<=k) && decide (k< (n:Int))
def zlY (fs:List Fl) (k:Int):List Int:=match fs[k.toNat]? with | some f=>f.bl | none=>[]
def zsf (fs:List Fl) (k:Int):Int:=match fs[k.toNat]? with | some f=>f.size | none=>0
def zgj (fs:List Fl) (cnt k n:Int):Int:=if stW fs cnt=0 then(if inL fs.length k=Xc then(if 0<=n/\n<=96 then 0 else 3)else 5)else stW fs cnt
def zkQ (fs:List Fl) (cnt k n:Int):List Fl:=if zgj fs cnt k n=0 then fs.set k.toNat ⟨n,jt (zlY fs k) (jH n).toNat⟩else []
def zoM (fs:List Fl) (cnt k n:Int):Int:=if zgj fs cnt k n=0 then cnt else 0
def Zh (fs:List Fl) (cnt k x:Int):Int:=if stW fs cnt=0 then(if inL fs.length k=Xc then(if inL (zlY fs k).length x=Xc then(if(zlY fs k).getD x.toNat 0=-1 then(if Zp fs cnt=[]then 10 else 0)else 0)else 9)else 5)else stW fs cnt
def zqG (fs:List Fl) (cnt k x:Int):Int:=if(zlY fs k).getD x.toNat 0=-1 then(((Zp fs cnt).headD 0:Nat):Int)else(zlY fs k).getD x.toNat 0
def zjn (fs:List Fl) (cnt k x:Int):Int:=if Zh fs cnt k x=0 then zqG fs cnt k x else 0
def zh5 (fs:List Fl) (cnt k x:Int):List Fl:=if Zh fs cnt k x=0 then fs.set k.toNat ⟨zsf fs k,(zlY fs k).set x.toNat (zqG fs cnt k x)⟩else []
def zkm (fs:List Fl) (cnt k x:Int):Int:=if Zh fs cnt k x=0 then cnt else 0
theorem Qv {n:Nat} {k:Int}:inL n k=Xc↔0<=k/\k< (n:Int):=by simp[inL]
theorem zoa (fs:List Fl) (a:Int):
  (stW fs a≠0/\zhM fs a=stW fs a/\zoP fs a=[]/\zrR fs a=0/\zrQ fs a=0)\/
  (stW fs a=0/\fs.length=5/\zhM fs a=4/\zoP fs a=[]/\zrR fs a=0/\zrQ fs a=0)\/
  (stW fs a=0/\fs.length<5/\zhM fs a=0/\zoP fs a=fs++ [⟨0,[]⟩]/\zrR fs a=a/\zrQ fs a=(fs.length:Int)):=by
 have d:∀z,zhM fs a=z->z≠0->zoP fs a=[]/\zrR fs a=0/\zrQ fs a=0:=fun z h f=>by
  have:¬zhM fs a=0:=Wm
  exact⟨kF this,kF this,kF this⟩
 by_cases b:stW fs a=0
 ·have e:=((zY fs a).1 b).1.1
  by_cases c:fs.length=5
  ·have h:zhM fs a=4:=by unfold zhM;rw[kE b,kE c]
   exact .inr (.inl ⟨b,c,h,d _ h Dc⟩)
  have h:zhM fs a=0:=by unfold zhM;rw[kE b,kF c]
  exact .inr (.inr ⟨b,Wm,h,kE h,kE h,kE h⟩)
 have h:zhM fs a=stW fs a:=by unfold zhM;rw[kF b]
 exact .inl ⟨b,h,d _ h b⟩
theorem zgG (fs:List Fl) (a k n:Int):
  (stW fs a≠0/\zgj fs a k n=stW fs a/\zkQ fs a k n=[]/\zoM fs a k n=0)\/
  (stW fs a=0/\¬(0<=k/\k< (fs.length:Int))/\zgj fs a k n=5/\zkQ fs a k n=[]/\zoM fs a k n=0)\/
  (stW fs a=0/\∃(i:Nat) (f:Fl),k=(i:Int)/\fs[i]? =Xa f/\¬(0<=n/\n<=96)/\zgj fs a k n=3/\zkQ fs a k n=[]/\zoM fs a k n=0)\/
  (stW fs a=0/\∃(i:Nat) (f:Fl),k=(i:Int)/\fs[i]? =Xa f/\(0<=n/\n<=96)/\zgj fs a k n=0/\zkQ fs a k n=fs.set i ⟨n,jt f.bl (jH n).toNat⟩/\zoM fs a k n=a):=by
 have g:∀z,zgj fs a k n=z->z≠0->zkQ fs a k n=[]/\zoM fs a k n=0:=fun z h b=>by
  have:¬zgj fs a k n=0:=Wm
  exact⟨kF this,kF this⟩
 by_cases b:stW fs a=0
 ·by_cases d:0<=k/\k< (fs.length:Int)
  ·obtain⟨i,rfl⟩:∃i:Nat,k=(i:Int):=⟨k.toNat,Wm⟩
   obtain⟨f,e⟩:∃f,fs[i]? =Xa f:=⟨_,gE Wm⟩
   have j:=Qv.2 d
   by_cases c:0<=n/\n<=96
   ·have h:zgj fs a i n=0:=by unfold zgj;rw[kE b,kE j,kE c]
    refine .inr (.inr (.inr ⟨b,i,f,rfl,e,c,h,?_,kE h⟩));unfold zkQ zlY;rw[kE h,tN,e]
   have h:zgj fs a i n=3:=by unfold zgj;rw[kE b,kE j,kF c]
   exact .inr (.inr (.inl ⟨b,i,f,rfl,e,c,h,g _ h Dc⟩))
  have h:zgj fs a k n=5:=by unfold zgj;rw[kE b,kF (Rx Qv d)]
  exact .inr (.inl ⟨b,d,h,g _ h Dc⟩)
 have h:zgj fs a k n=stW fs a:=by unfold zgj;rw[kF b]
 exact .inl ⟨b,h,g _ h b⟩
theorem zoq (fs:List Fl) (a k x:Int):
  (stW fs a≠0/\Zh fs a k x=stW fs a/\zh5 fs a k x=[]/\zkm fs a k x=0/\zjn fs a k x=0)\/
  (stW fs a=0/\¬(0<=k/\k< (fs.length:Int))/\Zh fs a k x=5/\zh5 fs a k x=[]/\zkm fs a k x=0/\zjn fs a k x=0)\/
  (stW fs a=0/\∃(i:Nat) (f:Fl),k=(i:Int)/\fs[i]? =Xa f/\¬(0<=x/\x< (f.bl.length:Int))/\Zh fs a k x=9/\zh5 fs a k x=[]/\zkm fs a k x=0/\zjn fs a k x=0)\/
  (stW fs a=0/\∃(i:Nat) (f:Fl) (j:Nat) (b:Int),k=(i:Int)/\fs[i]? =Xa f/\x=(j:Int)/\f.bl[j]? =Xa b/\0<=b/\b<a/\Zh fs a k x=0/\zh5 fs a k x=fs/\zkm fs a k x=a/\zjn fs a k x=b)\/
  (stW fs a=0/\∃(i:Nat) (f:Fl) (j:Nat),k=(i:Int)/\fs[i]? =Xa f/\x=(j:Int)/\f.bl[j]? =Xa (-1)/\Zp fs a=[]/\Zh fs a k x=10/\zh5 fs a k x=[]/\zkm fs a k x=0/\zjn fs a k x=0)\/
  (stW fs a=0/\∃(i:Nat) (f:Fl) (j:Nat) (b:Nat) (l:List Nat),k=(i:Int)/\fs[i]? =Xa f/\x=(j:Int)/\f.bl[j]? =Xa (-1)/\Zp fs a=b :: l/\Zh fs a k x=0/\zh5 fs a k x=fs.set i ⟨f.size,f.bl.set j (b:Int)⟩/\zkm fs a k x=a/\zjn fs a k x=(b:Int)):=by
 have A:∀z,Zh fs a k x=z->z≠0->zh5 fs a k x=[]/\zkm fs a k x=0/\zjn fs a k x=0:=fun z h C=>by
  have:¬Zh fs a k x=0:=Wm
  exact⟨kF this,kF this,kF this⟩
 by_cases c:stW fs a=0
 ·by_cases u:0<=k/\k< (fs.length:Int)
  ·obtain⟨i,rfl⟩:∃i:Nat,k=(i:Int):=⟨k.toNat,Wm⟩
   obtain⟨f,d⟩:∃f,fs[i]? =Xa f:=⟨_,gE Wm⟩
   have r:=Qv.2 u;have g:zlY fs (i:Int)=f.bl:=by unfold zlY;rw[tN,d]
   have y:zsf fs (i:Int)=f.size:=by unfold zsf;rw[tN,d]
   by_cases v:0<=x/\x< (f.bl.length:Int)
   ·obtain⟨j,rfl⟩:∃j:Nat,x=(j:Int):=⟨x.toNat,Wm⟩
    obtain⟨b,n⟩:∃b,f.bl[j]? =Xa b:=⟨_,gE Wm⟩
    have e:=Qv.2 v;have m:f.bl.getD (j:Int).toNat 0=b:=by rw[tN,gD,n];rfl
    by_cases p:b=-1
    ·subst p
     cases q:Zp fs a with
     | nil=>
      have h:Zh fs a i j=10:=by unfold Zh;rw[kE c,kE r,g,kE e,m,kE rfl,kE q]
      exact .inr (.inr (.inr (.inr (.inl ⟨c,i,f,j,rfl,d,rfl,n,rfl,h,A _ h Dc⟩))))
     | cons b l=>
      have h:Zh fs a i j=0:=by unfold Zh;rw[kE c,kE r,g,kE e,m,kE rfl,kF (by rw[q];simp)]
      have s:zqG fs a i j=(b:Int):=by unfold zqG;rw[g,m,kE rfl,q];rfl
      refine .inr (.inr (.inr (.inr (.inr ⟨c,i,f,j,b,l,rfl,d,rfl,n,rfl,h,?_,kE h,?_⟩))))
      ·grind [zh5,tN]
      grind [zjn]
    have h:Zh fs a i j=0:=by unfold Zh;rw[kE c,kE r,g,kE e,m,kF p]
    have s:zqG fs a i j=b:=by unfold zqG;rw[g,m,kF p]
    have B:=(((zY fs a).1 c).2.1 f (mG d)).2.2 b (mG n);refine .inr (.inr (.inr (.inl ⟨c,i,f,j,b,rfl,d,rfl,n,Wm,Wm,h,?_,kE h,?_⟩)))
    ·unfold zh5;rw[kE h,s,g,y,tN,tN];have t:f.bl.set j b=f.bl:=by grind [gS.1,Uj]
     rw[t];obtain⟨w,rfl⟩:=gS.1 d;exact Uj w
    grind [zjn]
   grind [Zh,Qv]
  grind [Zh,Qv]
 grind [Zh,stW]
theorem zge (f:Fl):∀(fs:List Fl) (i:Nat) (b:Fl),fs[i]? =Xa b->Jd (fs.set i f)=Jd (fs.take i)++(f.bl++Jd (fs.drop (i+1)))/\Jd fs=Jd (fs.take i)++(b.bl++Jd (fs.drop (i+1)))
 | [],i,b,h=>by simp at h
 | a :: l,0,b,h=>by
  simp at h
  subst h
  simp[Jd]
 | a :: l,i+1,b,h=>by
  obtain⟨c,d⟩:=zge f l i b (Si h)
  unfold Jd at c d⊢;simp only[sS,Ye,List.take_succ_cons,List.drop_succ_cons,Yu];rw[c,<-d];exact⟨rfl,rfl⟩
theorem zpH {fs:List Fl} {a:Int} (h:b∈Zp fs a):(b:Int)<a/\(b:Int)∉Jd fs:=by grind [Zp,Xu.1,Xs.1,zfq]
theorem zrc {A C l:List Int} {b:Int} (a:l[j]? =Xa (-1)):∀x,x≠-1->(x∈A++(l.set j b++C)↔(x∈A++(l++C)\/x=b)):=fun x c=>by
 have c:=(gS.1 a).1;have:x∈l.set j b↔x∈l\/x=b:=by
  constructor
  ·grind
  rintro(h|rfl)
  ·obtain⟨a,c⟩:=Xv h
   by_cases e:a=j
   ·grind
   exact mG (i:=a) (by rw[sN (fun h=>e h.symm)];exact c)
  grind [mG,sF]
 grind
theorem zkT {l:List Int} (b:Int) (a:b≠-1) (d:l[j]? =Xa (-1)):ZJ (l.set j b)=ZJ (l.take j)++(b :: ZJ (l.drop (j+1)))/\ZJ l=ZJ (l.take j)++ZJ (l.drop (j+1)):=by
 obtain⟨a,c⟩:=gS.1 d;have d:l.set j b=l.take j++b :: l.drop (j+1):=List.set_eq_take_append_cons_drop.trans (kE a);have a:l=l.take j++(-1) :: l.drop (j+1):=by
  rw[<-c,List.getElem_cons_drop,List.take_append_drop]
 unfold ZJ;constructor
 ·grind
 grind
theorem zm7 {A B C:List Int} {b:Int} (h:(A++(B++C)).Nodup) (a:b∉A) (c:b∉B++C):(A++((B++(b :: C)))).Nodup:=by grind
theorem zln {fs:List Fl} {a:Int} {i:Nat} {f:Fl} (h:stW fs a=0) (e:fs[i]? =Xa f) (p:f.bl[j]? =Xa (-1)) (l:b∈Zp fs a):
  stW (fs.set i ⟨f.size,f.bl.set j (b:Int)⟩) a=0/\(Zp (fs.set i ⟨f.size,f.bl.set j (b:Int)⟩) a).length+1=(Zp fs a).length:=by
 obtain⟨c,d⟩:=zpH l;obtain⟨⟨c,q,r⟩,s,n⟩:=(zY fs a).1 h;obtain⟨m,k⟩:=zge ⟨f.size,f.bl.set j (b:Int)⟩ fs i f e;have g:(b:Int)≠-1:=Wm
 constructor
 ·refine(zY _ _).2 ⟨⟨Rx Yo c,q,r⟩,fun c c=>?_,?_⟩
  ·rcases Xz c with c | rfl
   ·grind
   obtain⟨c,q,r⟩:=s f (mG e);refine⟨c,by simp only[Yo];exact q,fun c e=>?_⟩
   rcases Xz e with e|rfl
   ·grind
   grind
  obtain⟨q,r⟩:=zkT (b:Int) g p;have g:∀A B:List Int,ZJ (A++B)=ZJ A++ZJ B:=fun A B=>Yq ..
  rw[m,g,g,q,Yu];rw[k,g,g,r,Yu]at n;rw[k]at d;have q:∀L:List Int,(b:Int)∉L->(b:Int)∉ZJ L:=fun L h g=>h (Xu.1 g).1
  have g:(b:Int)∉ZJ (f.bl.take j)++(ZJ (f.bl.drop (j+1))++ZJ (Jd (fs.drop (i+1)))):=by grind
  exact zm7 n (q _ (fun h=>d (Yn.2 (.inl h)))) g
 have g:∀c:Nat,zR (fs.set i ⟨f.size,f.bl.set j (b:Int)⟩) (c:Int)=(zR fs (c:Int) || decide (c=b)):=fun c=>by
  rw[Bool.eq_iff_iff,Ug,zfq,zfq,m,k,zrc p _ Wm,decide_eq_true_eq,Int.ofNat_inj]
 have d:Zp (fs.set i ⟨f.size,f.bl.set j (b:Int)⟩) a=(Zp fs a).erase b:=by
  have h:(Zp fs a).Nodup:=List.Nodup.sublist List.filter_sublist List.nodup_range;rw[List.Nodup.erase_eq_filter h];unfold Zp;rw[Uw]
  congr 1
  funext c
  rw[g c]
  by_cases e:c=b <;> simp[e]
 rw[d,Ox l];have:=List.length_pos_of_mem l;omega
theorem zgF {l:List Int} {n i:Nat} {b:Int} (h:(jt l n)[i]? =Xa b):i<n/\(i<l.length->l[i]? =Xa b)/\(l.length<=i->b=-1):=by
 unfold jt at h;have c:=(gS.1 h).1
 simp at c
 rw[Um]at h;simp only[Of,Uy,Yz]at h
 split at h
 ·rename_i a
  rw[kE Wm]at h
  exact⟨Wm,fun _=>h,fun _=>Wm⟩
 rename_i a
 split at h
 ·cases h;exact⟨Wm,fun _=>Wm,fun _=>rfl⟩
 cases h
theorem zgE (l:List Int) (n:Nat):(jt l n).length=n:=by
 unfold jt;simp;omega
theorem zkU (l:List Int) (n:Nat):(ZJ (jt l n))=ZJ (l.take n):=by
 unfold jt ZJ;rw[Yq];have:(Xr (n - l.length) (-1:Int)).filter (fun x=>decide (x≠-1))=[]:=by
  rw[List.filter_eq_nil_iff];intro b a;rw[List.eq_of_mem_replicate a];simp
 rw[this,Ui]
theorem zkO {fs:List Fl} {a n:Int} {i:Nat} {f:Fl} (s:stW fs a=0) (j:fs[i]? =Xa f) (g:0<=n) (h:n<=96):
  stW (fs.set i ⟨n,jt f.bl (jH n).toNat⟩) a=0:=by
 obtain⟨⟨w,x,y⟩,k,l⟩:=(zY fs a).1 s;obtain⟨p,q⟩:=zge ⟨n,jt f.bl (jH n).toNat⟩ fs i f j;have D:=Qm g h;refine(zY _ _).2 ⟨⟨Rx Yo w,x,y⟩,fun r b=>?_,?_⟩
 ·rcases Xz b with b | rfl
  ·exact k r b
  refine⟨⟨g,h⟩,by simp only[zgE];omega,fun m t=>?_⟩
  obtain⟨v,u⟩:=Xv t;obtain⟨_,z,C⟩:=zgF u
  rcases Ys v f.bl.length with e|d
  ·exact(k f (mG j)).2.2 m (mG (z e))
  exact .inl (C d)
 have c:∀A B:List Int,ZJ (A++B)=ZJ A++ZJ B:=fun A B=>Yq ..
 rw[p,c,c,zkU];rw[q,c,c]at l;refine List.Nodup.sublist ?_ l;exact List.Sublist.append (List.Sublist.refl _) (List.Sublist.append (List.Sublist.filter _ (List.take_sublist _ _)) (List.Sublist.refl _))
end
section
open Go.RowKit
structure FlV where
 size:Int
 a:Option Addr
 n:Nat
 c:Nat
def FlV.v (x:FlV):Xq:= O x.a x.n x.c
def flv (x:FlV):List Xq:=[Xe Xf x.size,O x.a x.n x.c]
theorem ztw:(Tryz.prog.info? 159).map (fun i=>(i.zero,i.size,i.bytes))=Xa (Xa (Xi #[Xe Xf 0,O Xb 0 0]),2,32):=by kernel_rfl
def fvE:Elt FlV where
 enc:=flv
 k:=2
 ty:=159
 st:=39
 bytes:=32
 zv:= Xi #[Xe Xf 0,O Xb 0 0]
 zero:=⟨0,Xb,0,0⟩
 len:=fun _=>rfl
 one:=fun a u hu=>by
  simp only[flv,mC,nM,or_false]at hu
  rcases hu with rfl|rfl <;> rfl
 bV:=underlying39
 aF:=ztw
 zok:=rfl
 few:=by decide
 pos:=by decide
def qo (B0 B1:Nat) (w:Xn) (v:Xq) (fs:List Fl):Prop:=
 Cap v/\∃xs:List FlV,zjv fvE B0 B1 w v xs/\xs.length=fs.length/\∀(i:Nat) x f,xs[i]? =Xa x->fs[i]? =Xa f->x.size=f.size/\zjv blE B0 B1 w (O x.a x.n x.c) f.bl
def z7 (w:Xn) (v:Xq) (fs:List Fl):Prop:=qo 0 0 w v fs
theorem qo.out {w:Xn} {v:Xq} {fs:List Fl} (h:qo B0 B1 w v fs) (k:Out B0 B1 w w'):qo B0 B1 w' v fs:=by
 obtain⟨d,e,b,c,a⟩:=h;exact⟨d,e,b.out k,c,fun i x f c b=>⟨(a i x f c b).1,(a i x f c b).2.out k⟩⟩
theorem qo.aA {w:Xn} {v:Xq} {fs:List Fl} (h:qo B0 B1 w v fs) (k:zc w w'):qo B0 B1 w' v fs:=h.out (Out.aA k)
theorem qo.less {A0 A1:Nat} {w:Xn} {v:Xq} {fs:List Fl} (h:qo B0 B1 w v fs) (a:B0<=A0) (b:A1<=B1):qo A0 A1 w v fs:=by
 obtain⟨c,g,d,f,e⟩:=h;exact⟨c,g,d.less a b,f,fun i x f d c=>⟨(e i x f d c).1,(e i x f d c).2.less a b⟩⟩
theorem z7.aA {w:Xn} {v:Xq} {fs:List Fl} (h:z7 w v fs) (k:zc w w'):z7 w' v fs:=qo.aA h k
theorem qo.nil (B0 B1:Nat) (w):qo B0 B1 w (O Xb 0 0) []:=⟨nR _,[],fun a _=>zj.nil fvE a,rfl,fun i x f a=>by simp at a⟩
def zoH (W:Xn) (y:Addr) (s:Int) (b:Xq):Prop:=W.cell? y=Xa (Xe Xf s)/\W.cell? { block:=y.block,off:=y.off+1 }=Xa b
def zkx (w:Xn) (a:Option Addr) (fs:List Fl):Prop:=∀(j:Nat) f,fs[j]? =Xa f->∃ad,a=Xa ad/\∃xa xc,zj blE w (O xa f.bl.length xc) f.bl/\∀W,zc w W->zoH W (ad.add (j*2)) f.size (O xa f.bl.length xc)
theorem z7.rows {w:Xn} {v:Xq} {fs:List Fl} (h:z7 w v fs):∃a c,v= O a fs.length c/\fs.length<=9223372036854775807/\zkx w a fs:=by
 obtain⟨_,i,d,b,l⟩:=h;obtain⟨a,c,e,g⟩:=d.now.rows;refine⟨a,c,Ry b e,Ry b d.now.short,fun j k e=>?_⟩
 obtain⟨x,f⟩:∃x,i[j]? =Xa x:=⟨_,gE (by rw[b];exact(gS.1 e).1)⟩
 obtain⟨h,i,d⟩:=g j x f;obtain⟨g,m⟩:=l j x k f e;have b:=m.now;obtain⟨⟨e,e,e,_⟩,_⟩:=id b;cases x;simp only at g b e;cases e;subst g;refine⟨h,i,_,_,b,fun W b=>⟨?_,?_⟩⟩
 ·exact d W b 0 _ rfl
 exact d W b 1 _ rfl
theorem zd5 (m n:Int) (w):
  Xp prog 27 #[Xe Xf m,Xe Xf n] w fun e w'=>e= Xl (Xh (bel m n))/\w'=w:=by
 have H:Xo (bel m n=(decide (0<=m) && decide (m<n))):=rfl
 by_cases a:0<=m
 ·by_cases a:m<n
  ·go_enter func27,ntmps27
   go_wp2;go_ret;exact⟨by rw[H.out];simp[*],rfl⟩
  go_enter func27,ntmps27
  go_wp2;go_ret;exact⟨by rw[H.out];simp[*],rfl⟩
 go_enter func27,ntmps27
 go_wp2;go_ret;exact⟨by rw[H.out];simp;omega,rfl⟩
theorem Zd {m n:Int} (a:0<=m) (b:m<n) (w):Xp prog 27 #[Xe Xf m,Xe Xf n] w fun e w'=>e= Xl (Xh Xc)/\w'=w:=by
 have:=zd5 m n w;rw[Zu.2 ⟨a,b⟩]at this;exact this
theorem zau {m n:Int} (h:¬(0<=m/\m<n)) (w):Xp prog 27 #[Xe Xf m,Xe Xf n] w fun e w'=>e= Xl (Xh Xd)/\w'=w:=by
 have:=zd5 m n w;rw[zos h]at this;exact this
theorem zmO {a b:Int} (h:a=b):Ending.returned (Xe Xf a)= Xl (Xe Xf b):=by rw[h]
theorem zbM (n:Int) (w) (a:0<=n) (b:n<=96):
  Xp prog 149 #[Xe Xf n] w fun e w'=>e= Xl (Xe Xf (jH n))/\w'=w:=by
 by_cases h:n<1
 ·have H:Xo (jH n=0):=dD<|by unfold jH;rw[kE h]
  go_enter func149,ntmps149
  go_wp2;go_ret;exact⟨zmO H.symm,rfl⟩
 have H:Xo (jH n=(n - 1) / 8+1):=dD<|by unfold jH;rw[kF h]
 go_enter func149,ntmps149
 go_wp2;go_ret;exact⟨zmO H.symm,rfl⟩
theorem zhS (v fs) (w:Xn) (h:zj blE w v fs):
  Xp prog 102 #[v] w fun e w'=>∃d,e= Xl d/\zb blE w.heap.size w' d fs/\zc w w':=by
 have i:=dD h;obtain⟨⟨f,g,rfl,b,c⟩,a⟩:=h;have h:=fun w f n g j h=>Lib.run_eql_slice_nil w _ _ f n g j h underlying33
 cases f with
 | none=>
  have f:=b rfl;subst f;clear c b a
  go_enter func102,ntmps102
  go_wp2;go_ret;exact⟨_,rfl,zb.nil _ _ _,zc.refl w⟩
 | some x=>
  have f:=dD a;clear c b a
  go_enter func102,ntmps102
  go_wp2_with (at_builtin;refine zu (E:=blE) rfl (.tmp 5) (.tmp 6) rfl w.heap.size _ [] rfl (zb.made blE w) _ fs rfl (i.aA (za _ _)) ?qb Sm ?_)
  case qb=>rw[Yk,zA];exact f.out
  intro d a b a;go_wp2;go_ret;exact⟨d,rfl,Si b,((bR _ w).alloc (nR _) _).grown a Sm (by intro k a;simp[Value.ownBlock]at a;omega)⟩
theorem zf8 (v) (fs:List FlV) (w:Xn) (h:zj fvE w v fs):
  Xp prog 101 #[v] w fun e w'=>∃d,e= Xl d/\zb fvE w.heap.size w' d fs/\zc w w':=by
 have i:=dD h;obtain⟨⟨f,g,rfl,b,c⟩,a⟩:=h;have h:=fun w f n g j h=>Lib.run_eql_slice_nil w _ _ f n g j h underlying39
 cases f with
 | none=>
  have f:=b rfl;subst f;clear c b a
  go_enter func101,ntmps101
  go_wp2;go_ret;exact⟨_,rfl,zb.nil _ _ _,zc.refl w⟩
 | some x=>
  have f:=dD a;clear c b a
  go_enter func101,ntmps101
  go_wp2_with (at_builtin;refine zu (E:=fvE) rfl (.tmp 5) (.tmp 6) rfl w.heap.size _ [] rfl (zb.made fvE w) _ fs rfl (i.aA (za _ _)) ?qb Sm ?_)
  case qb=>rw[Yk,zA];exact f.out
  intro d a b a;go_wp2;go_ret;exact⟨d,rfl,Si b,((bR _ w).alloc (nR _) _).grown a Sm (by intro k a;simp[Value.ownBlock]at a;omega)⟩
def z4 (base:Nat) (w:Xn) (v:Xq) (fs:List Fl):Prop:=
 ∃xs:List FlV,zb fvE base w v xs/\xs.length=fs.length/\(∀(i:Nat) x f,xs[i]? =Xa x->fs[i]? =Xa f->x.size=f.size/\zb blE base w x.v f.bl)/\
  ∀(i j:Nat) x y,i≠j->xs[i]? =Xa x->xs[j]? =Xa y->∀g,x.v.ownBlock=Xa g->y.v.ownBlock≠Xa g
theorem z4.new {base:Nat} {w:Xn} {v:Xq} {fs:List Fl} (h:z4 base w v fs):qo 0 base w v fs:=by
 obtain⟨d,a,c,b,_⟩:=h;exact⟨a.cap,d,a.new.stays,c,fun i x f c a=>⟨(b i x f c a).1,(b i x f c a).2.new.stays⟩⟩
theorem z4.aA {base:Nat} {w:Xn} {v:Xq} {fs:List Fl} (h:z4 base w v fs) (k:zc w w'):z4 base w' v fs:=by
 obtain⟨e,b,c,a,d⟩:=h;exact⟨e,b.aA k,c,fun i x f c b=>⟨(a i x f c b).1,(a i x f c b).2.aA k⟩,d⟩
theorem z4.setCell {base:Nat} {w:Xn} {v:Xq} {fs:List Fl} (h:z4 base w v fs) {a:Addr} (c:a.block<base) (u):z4 base (w.setCell a u) v fs:=by
 obtain⟨f,d,e,b,g⟩:=h;exact⟨f,d.setCell c u,e,fun i x f e d=>⟨(b i x f e d).1,(b i x f e d).2.setCell c u⟩,g⟩
theorem QC:blE.ty≠fvE.ty:=by decide
theorem z4.setBox {base:Nat} {w:Xn} {v:Xq} {fs:List Fl} (h:z4 base w v fs) {cs:List Xq} (e:zl w b t cs) (j:t≠fvE.ty) (k:t≠blE.ty) (i:Nat) (u:Xq):z4 base (w.setCell ⟨b,i,Xb⟩ u) v fs:=by
 obtain⟨n,g,l,d,m⟩:=h;exact⟨n,g.aT (g.ne e j) u,l,fun i x f c a=>⟨(d i x f c a).1,(d i x f c a).2.aT ((d i x f c a).2.ne e k) u⟩,m⟩
structure zr3 (base:Nat) (w:Xn) (kk:Nat) (xs ys:List FlV) (fs:List Fl):Prop where
 len:ys.length=xs.length
 own:∀(i:Nat) y f,i<kk->ys[i]? =Xa y->fs[i]? =Xa f->y.size=f.size/\zb blE base w y.v f.bl
 rest:∀(i:Nat),kk<=i->ys[i]? =xs[i]?
 two:∀(i j:Nat) x y,i<kk->j<kk->i≠j->ys[i]? =Xa x->ys[j]? =Xa y->∀g,x.v.ownBlock=Xa g->y.v.ownBlock≠Xa g
theorem zr3.step {base:Nat} {w:Xn} {xs z:List FlV} {fs:List Fl} (j:zr3 base w kk xs z fs) (V:zc w w1) (F:w1.grownBy w2 (Xa g)) {f:Fl} {x:FlV} (M:fs[kk]? =Xa f) (Y:xs[kk]? =Xa x)
  (W:x.size=f.size) {a:Option Addr} {n c:Nat} (e:zb blE w.heap.size w1 (O a n c) f.bl) (U:base<=w.heap.size) {v:Xq} (X:zb fvE base w1 v z) (K:v.ownBlock=Xa g):zr3 base w2 (kk+1) xs (z.set kk ⟨x.size,a,n,c⟩) fs:=by
 have H:kk<z.length:=by rw[j.len];exact(gS.1 Y).1
 have k:∀(y:FlV) (L:List Int),zb blE base w1 y.v L->zb blE base w2 y.v L:=fun y L N=>N.grown F (fun p D B=>by
  cases B;exact X.apart N (Ne.symm QC) g K D)
 refine⟨Rx Yo j.len,fun i y d t r b=>?_,fun i t=>?_,fun i C P Q t a0 G u q p l=>?_⟩
 ·by_cases B:i=kk
  ·subst B;rw[sF H]at r;cases r;rw[M]at b;cases b;exact⟨W,k ⟨x.size,a,n,c⟩ _ (e.base U)⟩
  rw[sN (fun j=>B j.symm)]at r
  obtain⟨Z,I⟩:=j.own i y d Wm r b
  exact⟨Z,k y _ (I.aA V)⟩
 ·rw[sN Wm]
  exact j.rest i Wm
 have h:∀(i:Nat) y d,i<kk->z[i]? =Xa y->fs[i]? =Xa d->∀A,y.v.ownBlock=Xa A->A<w.heap.size:=fun i y d t r b A E=>((j.own i y d t r b).2.lt A E).2
 have s:∀i,i<kk->∃d,fs[i]? =Xa d:=fun i t=>⟨_,gE (Hm ((gS.1 M).1))⟩
 by_cases R:i=kk
 ·subst R;rw[sF H]at u;cases u;rw[sN Wm]at q
  obtain⟨d,b⟩:=s C Wm
  intro m;have D:=h C Q d Wm q b p m
  have T:=(e.lt p l).1;omega
 rw[sN Wm]at u
 by_cases S:C=kk
 ·subst S;rw[sF H]at q;cases q;obtain⟨d,b⟩:=s i Wm
  intro m;have D:=h i P d Wm u b p l
  have T:=(e.lt p m).1;omega
 rw[sN Wm]at q
 exact j.two i C P Q Wm Wm G u q p l
theorem zr3.all {base:Nat} {w:Xn} {xs a:List FlV} {fs:List Fl} {v:Xq} (h:zr3 base w xs.length xs a fs) (b:xs.length=fs.length) (c:zb fvE base w v a):z4 base w v fs:=by
 refine⟨a,c,h.len.trans b,fun i y f a b=>h.own i y f (by rw[<-h.len];exact(gS.1 a).1) a b,fun i j p q a b c=>h.two i j p q ?_ ?_ a b c⟩
 ·rw[<-h.len];exact(gS.1 b).1
 rw[<-h.len];exact(gS.1 c).1
theorem JJ (v fs) (i:Int) (w:Xn) (b3:z7 w v fs):
  Xp prog 54 #[Xi #[v,Xe Xf i]] w fun e w'=>∃b,e= Xl (Xi #[b,Xe Xf i])/\z4 (w.heap.size+2) w' b fs/\zc w w'/\w.heap.size+2<=w'.heap.size:=by
 obtain⟨_,y,S,ag,a1⟩:=b3;have a8:=dD S.now;have ao:Xo (∀(k:Nat) x f,y[k]? =Xa x->fs[k]? =Xa f->x.size=f.size/\zj blE w (O x.a x.n x.c) f.bl):=show∀(k:Nat) x f,_ from fun k x f af ae=>⟨(a1 k x f af ae).1,(a1 k x f af ae).2.now⟩
 have a7:=dD ag;have G:=S.now.short;obtain⟨ax,ay,rfl,_⟩:=S.now.rows;clear S ag a1;obtain⟨n,l⟩:=kA y.length;rw[l.out]at G a8⊢;obtain⟨B,c⟩:=kB ((w.alloc (Xk #[O ax n ay,Xe Xf i] 41)).alloc (Xk #[O Xb 0 0,Xe Xf 0] 41));have r:=gD2 c
 have av:=x2a c
 have aw:=x2b c
 have h:Xo (B.heap.size=w.heap.size+2):=dD<|by rw[<-c];simp
 have V:Xo (_=B):=c;clear c
 go_enter func54,ntmps54
 go_wp2_with fail;rw[V.out];refine(zf8 _ y B (a8.aA r)).mono ?_;rintro e b6 ⟨bc,rfl,g,ab⟩;obtain⟨a4,T,rfl⟩:=g.form;rw[h.out]at g;rw[l.out]at g⊢;have ap:=dD g;have aj:=dD ab;clear g ab;go_wp2
 go_loopg [4,10] n (fun b0 _ a3 wr=>∃(a:Nat) (z:List FlV),a<=n/\n - a<=b0/\a3= Xe Xf a/\Xo (zc B wr)/\Xo (zb fvE (w.heap.size+2) wr (O a4 n T) z)/\Xo (zr3 (w.heap.size+2) wr a y z fs))
 exact⟨0,y,nZ _,Wm,rfl,aj,ap,⟨rfl,fun k b5 f I=>absurd I (nL _),fun k _=>rfl,fun k bb x b5 I=>absurd I (nL _)⟩⟩
 obtain⟨a,z,b2,b1,rfl,m,R,A⟩:=hrel
 by_cases j:a<n
 ·have M:=kC j
  obtain⟨q,U⟩:∃q,Xo (y[a]? =Xa q):=⟨_,gE (Rx l.out j)⟩
  obtain⟨f,a6⟩:∃f,Xo (fs[a]? =Xa f):=⟨_,gE (by rw[<-a7.out,l.out];exact j)⟩
  have a9:Xo (z[a]? =Xa q):=dD<|by rw[A.rest a (nR _)];exact U.out
  obtain⟨F,b4,L⟩:=R.aJ (by rw[A.len,l.out];omega)
  rw[A.len,l.out]at L;cases L;obtain⟨ah,ai⟩:=ao.out a q f U a6.out;have au:=dD ah;have K:=zhS _ f.bl wr (ai.aA (r.trans m));obtain⟨b8,ba,N,d⟩:=R.at.rows;obtain⟨b9,Z,H⟩:=d a q a9.out;rw[A.len,l.out]at N;cases N;cases Z;have az:wr.cell? ⟨F,a*2+1,Xb⟩=Xa (O q.a q.n q.c):=by
   have:=H wr (zc.refl _) 1 _ rfl;rw[qO,Addr.add_lit,zA]at this;exact this
  clear ah ai d H;go_wp2_with fail;refine K.mono ?_;rintro e b7 ⟨bd,rfl,u,Y⟩;obtain⟨C,D,rfl⟩:=u.form;have aa:=dD u;have a5:=dD Y;have s:=dD (R.aA Y);have am:Xo (w.heap.size+2<=wr.heap.size):=show _<=_ by
   have:=bS m.out;rw[h.out]at this;exact this
  clear u Y K az
  generalize f.bl.length=P at aa⊢
  go_wp2_with (refine zt (E:=fvE) rfl (.tmp 22) (.tmp 20) 33 rfl (w.heap.size+2) _ z s F a 1 rfl q ⟨q.size,C,P,D⟩ a9.out [O C P D] ?s1 rfl ?s2 ?s3 ⟨F,a*2+1,Xb⟩ rfl rfl (O C P D) rfl rfl ?_)
  case s1=>kernel_rfl
  case s2=>exact nR 2
  case s3=>simp;rfl
  intro W Q t _;have aq:Xo (zb fvE (w.heap.size+2) W (O (Xa ⟨F,0,Xb⟩) n T) (z.set a ⟨q.size,C,P,D⟩)):=Q;have al:Xo (zr3 (w.heap.size+2) W (a+1) y (z.set a ⟨q.size,C,P,D⟩) fs):=A.step a5 t a6 U au aa am s rfl;have ak:Xo (zc B W):=show zc _ _ from zd (m.trans a5) t (by
   rw[h.out];exact(s.lt F rfl).1)
  clear Q t;go_wp2
  go_roundg (n -(a+1));exact⟨a+1,_,Wm,Wm,Gn,ak,aq,al⟩;omega
 have M:=kD j
 have:a=n:=Wm
 subst this;have ar:Xo (z4 (w.heap.size+2) wr (O a4 a T) fs):=dD<|by
  have ac:=A.out;rw[<-l.out]at ac;exact ac.all a7 R.out
 have be:=(av.aA m).c 1 rfl;have X:=aw.aA m.out;obtain⟨bf,bg⟩:=X.k2;have bh:=X.f;have an:=dD (r.trans m);go_wp2;refine bodyPost_ret (v:= Xi #[O a4 a T,Xe Xf i]) (by simp[results,Tryz.results54,go_sem, *]) rfl ⟨_,rfl,(ar.setCell Sm _).setCell Sm _,?_,?_⟩
 ·exact Below.setCell (Below.setCell an (p:=⟨w.heap.size+1,0,Xb⟩) Sm _) (p:=⟨w.heap.size+1,1,Xb⟩) Sm _
 have:=bS m.out;rw[h.out]at this
 simp[World.setCell]
 exact this
structure zoF (base:Nat) (w:Xn) (kk:Nat) (vs us:List Xq) (t:List (List En)):Prop where
 len:us.length=8
 own:∀(i:Nat) v h,i<kk->us[i]? =Xa v->t[i]? =Xa h->zb enE base w v h
 two:∀(i j:Nat) u v,i<kk->j<kk->i≠j->us[i]? =Xa u->us[j]? =Xa v->∀g,u.ownBlock=Xa g->v.ownBlock≠Xa g
 one:∀v∈us,v.oneCell'=Xc
theorem zoF.step {base:Nat} {w:Xn} {t:List (List En)} (h:zoF base w kk vs us t) (H:t.length=8) (n:zc w w1) {x:List En} {v:Xq} (q:kk<8) (K:t[kk]? =Xa x) (a:zb enE w.heap.size w1 v x) (F:base<=w.heap.size) {p:Addr} (hp:p.block<base) (u):zoF base (w1.setCell p u) (kk+1) vs (us.set kk v) t:=by
 have k:∀(j:Nat) u,j<kk->us[j]? =Xa u->∀g,u.ownBlock=Xa g->g<w.heap.size:=fun j u A B g n=>by
  obtain⟨y,c⟩:∃y,t[j]? =Xa y:=⟨_,gE (by rw[H,<-h.len];exact(gS.1 B).1)⟩
  exact((h.own j u y A B c).lt g n).2
 refine⟨by simp[h.len],fun i y E G c m=>?_,fun i j C D G A f b e g d l=>?_,fun y c=>?_⟩
 ·by_cases r:i=kk
  ·subst r;rw[sF (by rw[h.len];exact q)]at c
   cases c;rw[K]at m;cases m;exact(a.base F).setCell hp u
  rw[sN (fun h=>r h.symm)]at c
  exact((h.own i y E Wm c m).aA n).setCell hp u
 ·by_cases s:i=kk
  ·subst s;rw[sF (by rw[h.len];exact q)]at b
   cases b;rw[sN f]at e;have:=k j D Wm e g l
   have:=(a.lt g d).1;omega
  rw[sN (fun h=>s h.symm)]at b
  by_cases z:j=kk
  ·subst z;rw[sF (by rw[h.len];exact q)]at e
   cases e;have:=k i C Wm b g d
   have:=(a.lt g l).1;omega
  rw[sN (fun h=>z h.symm)]at e
  exact h.two i j C D Wm Wm f b e g d l
 rcases Xz c with d|d
 ·exact h.one y d
 subst d;obtain⟨L,M,rfl⟩:=a.form;rfl
theorem zg3 (vs:List Xq) (t:List (List En)) (w:Xn) (a:zaB w vs t):
  Xp prog 105 #[Xi vs.toArray] w fun e w'=>∃c,e= Xl (Xi c.toArray)/\js (w.heap.size+2) w' c t/\zc w w'/\w.heap.size+2<=w'.heap.size:=by
 have q:=dD a;have h:=dD a.len;clear a;obtain⟨g,a⟩:=kB ((w.alloc (Xk vs.toArray 74)).alloc (Xk #[O Xb 0 0,O Xb 0 0,O Xb 0 0,O Xb 0 0,O Xb 0 0,O Xb 0 0,O Xb 0 0,O Xb 0 0] 74));have b:=gD2 a
 have i:=x2a a
 have j:Xo (Box g (w.heap.size+1) zfG):=dD<|by rw[<-a];exact Box.aE _ zfG _ Sm
 have d:Xo (g.heap.size=w.heap.size+2):=dD<|by rw[<-a];simp
 have f:Xo (_=g):=a;clear a
 go_enter func105,ntmps105
 go_upto_region 1 with fail;rw[f.out]
 go_wp2_with (refine qI rfl (.tmp 1) rfl w.heap.size rfl i h.out ?_)
 go_loopg [6] 8 (fun f g wr=>∃(a:Nat) (c:List Xq),a<=8/\8 - a<=f/\g= Xe Xf a/\Xo (zc w wr)/\Xo (w.heap.size+2<=wr.heap.size)/\Xo (Box wr w.heap.size c)/\Xo (Box wr (w.heap.size+1) zfG)/\Xo (zoF (w.heap.size+2) wr a vs c t))
 exact⟨0,vs,nZ _,Wm,rfl,b,by rw[d.out];exact nR _,i,j,⟨h,fun i v l b=>absurd b (nL _),fun i D E v b=>absurd b (nL _),q.one⟩⟩
 obtain⟨a,c,b,C,rfl,s,x,A,B,d⟩:=hrel
 by_cases f:a<8
 ·have m:(a:Int)<8:=Wm
  obtain⟨n,u,r,j,h,k⟩:=q.half f;have F:=dD j;have g:=dD h;have b:=zeu (O n r.length u) r wr (k.aA s);clear j h k
  generalize r.length=nq at b g
  go_wp2_with (refine zib rfl (.tmp 5) (.tmp 6) rfl vs rfl a rfl f g.out ?_)
  refine b.mono ?_;rintro e k ⟨g,rfl,j,y⟩;obtain⟨g,h,rfl⟩:=j.form;have z:=dD j;have n:=dD y;have u:=dD (A.aA y);clear j y b
  generalize r.length=b at z⊢
  obtain⟨r,j⟩:∃r,c[a]? =Xa r:=⟨_,gE (by rw[d.len];exact f)⟩
  have r:=u.c a j;have r:=u.f;clear j;go_wp2;have r:Xo (zoF (w.heap.size+2) (k.setCell ⟨w.heap.size,a,Xb⟩ (O g b h)) (a+1) vs (c.set a (O g b h)) t):=d.step q.aO n f F z x Sm _
  have f:Xo (Box (k.setCell ⟨w.heap.size,a,Xb⟩ (O g b h)) w.heap.size (c.set a (O g b h))):=u.set a _;have y:Xo (Box (k.setCell ⟨w.heap.size,a,Xb⟩ (O g b h)) (w.heap.size+1) zfG):=(B.aA n).other Sm _
  have j:Xo (zc w (k.setCell ⟨w.heap.size,a,Xb⟩ (O g b h))):=dD<|Below.setCell (s.trans n) (p:=⟨w.heap.size,a,Xb⟩) Sm _
  have u:Xo (w.heap.size+2<=(k.setCell ⟨w.heap.size,a,Xb⟩ (O g b h)).heap.size):=dD<|by
   have:=bS n.out;have:=x.out
   simp[World.setCell]
   omega
  go_roundg (8 -(a+1));exact⟨a+1,_,Wm,Wm,Gn,j,u,f,y,r⟩;omega
 have m:¬(a:Int)<8:=Wm
 have:a=8:=Wm
 subst this;have b:Xo (js (w.heap.size+2) wr c t):=dD<|⟨d.len,q.aO,fun i v l a f=>d.own i v l (by rw[<-d.len];exact(gS.1 a).1) a f,fun i D E v g h a=>d.two i D E v (by rw[<-d.len];exact(gS.1 h).1) (by rw[<-d.len];exact(gS.1 a).1) g h a⟩
 go_wp2_with (first | refine qI rfl (.tmp 1) rfl w.heap.size rfl A d.len ?_ | refine zz rfl 74 (.tmp 2) (.tmp 15) rfl (w.heap.size+1) rfl c rfl B d.len ztq d.one ?_)
 intro g k h m;have n:Xo (js (w.heap.size+2) g c t):=dD<|⟨b.len,b.aO,fun i v l a f=>(b.row i v l a f).grown h (fun q C e=>by
  cases e;have:=((b.row i v l a f).lt _ C).1
  omega),b.two⟩
 have j:Xo (zc w g):=dD<|zd s h Sm
 have u:Xo (w.heap.size+2<=g.heap.size):=dD<|Rx m x.out
 have a:=dD k;clear k h m;go_wp2;refine bodyPost_ret (zE rfl _ rfl a underlying74 rfl (by rw[d.len];exact ztq)) rfl ⟨c,rfl,n,j,u⟩
def arv (a:Ar):List Xq:=[Xe Xf a.fr,Xe Xf a.tz,Xh a.rd,Xh a.wr,Xh a.sh,Xe Xf a.file,Xe Xf a.base]
def arA (a:Ar):Xq:= Xi #[Xe Xf a.fr,Xe Xf a.tz,Xh a.rd,Xh a.wr,Xh a.sh,Xe Xf a.file,Xe Xf a.base]
theorem ztx:(Tryz.prog.info? 125).map (fun i=>(i.zero,i.size,i.bytes))=Xa (Xa (Xi #[Xe Xf 0,Xe Xf 0,Xh Xd,Xh Xd,Xh Xd,Xe Xf 0,Xe Xf 0]),7,40):=by kernel_rfl
theorem zty:(Tryz.prog.info? 125).map (·.size)=Xa 7:=by kernel_rfl
theorem ztz:(Tryz.prog.info? 187).map (·.size)=Xa 2:=by kernel_rfl
theorem ztA:(Tryz.prog.info? 233).map (·.size)=Xa 448:=by kernel_rfl
def arE:Elt Ar where
 enc:=arv
 k:=7
 ty:=125
 st:=71
 bytes:=40
 zv:= Xi #[Xe Xf 0,Xe Xf 0,Xh Xd,Xh Xd,Xh Xd,Xe Xf 0,Xe Xf 0]
 zero:=ar0
 len:=fun _=>rfl
 one:=fun a u hu=>by
  simp only[arv,mC,nM,or_false]at hu
  rcases hu with rfl|rfl|rfl|rfl|rfl|rfl|rfl <;> rfl
 bV:=underlying71
 aF:=ztx
 zok:=rfl
 few:=by decide
 pos:=by decide
def zjz (W:Xn) (y:Addr) (e:Ar):Prop:=W.cell? y=Xa (Xe Xf e.fr)/\W.cell? { block:=y.block,off:=y.off+1 }=Xa (Xe Xf e.tz)/\W.cell? { block:=y.block,off:=y.off+2 }=Xa (Xh e.rd)/\W.cell? { block:=y.block,off:=y.off+3 }=Xa (Xh e.wr)/\W.cell? { block:=y.block,off:=y.off+4 }=Xa (Xh e.sh)/\W.cell? { block:=y.block,off:=y.off+5 }=Xa (Xe Xf e.file)/\W.cell? { block:=y.block,off:=y.off+6 }=Xa (Xe Xf e.base)
def zky (w:Xn) (a:Option Addr) (l:List Ar):Prop:=∀(j:Nat) e,l[j]? =Xa e->∃ad,a=Xa ad/\∀W,zc w W->zjz W (ad.add (j*7)) e
theorem zj.aD {w:Xn} {v:Xq} {l:List Ar} (h:zj arE w v l):∃a c,v= O a l.length c/\zky w a l:=by
 obtain⟨a,c,b,e⟩:=h.rows;refine⟨a,c,b,fun j x g=>?_⟩
 obtain⟨d,f,b⟩:=e j x g;exact⟨d,f,fun W d=>⟨b W d 0 _ rfl,b W d 1 _ rfl,b W d 2 _ rfl,b W d 3 _ rfl,b W d 4 _ rfl,b W d 5 _ rfl,b W d 6 _ rfl⟩⟩
def tab {α:Type} (f:Nat->α):List α:=(Ya 64).map f
theorem zin {α:Type} (f:Nat->α):(tab f).length=64:=by simp[tab]
theorem zmy {α:Type} {f:Nat->α} {k:Nat} (h:k<64):(tab f)[k]? =Xa (f k):=by
 unfold tab;rw[Xw,Yb h];rfl
def upd {α:Type} (f:Nat->α) (k:Nat) (x:α):Nat->α:=fun j=>if j=k then x else f j
theorem zqQ {α:Type} (f:Nat->α) (k:Nat) (x:α):(tab f).set k x=tab (upd f k x):=by
 apply Yf
 grind [zmy,upd,sF,zin,sN,gN,tab]
def qA (l:List Ar):List Xq:=l.flatMap arv
theorem zlU (l:List Ar):(qA l).length=l.length*7:=qT l (fun _ _=>rfl)
theorem zfe (l:List Ar):∀v∈qA l,v.oneCell'=Xc:=qS arE.one l
def cav (c:Ca):List Xq:=[Xe Xf c.file,Xe Xf c.idx,Xe Xf c.fr]
theorem ztB:(Tryz.prog.info? 105).map (fun i=>(i.zero,i.size,i.bytes))=Xa (Xa (Xi #[Xe Xf 0,Xe Xf 0,Xe Xf 0]),3,24):=by kernel_rfl
def Zz:Elt Ca where
 enc:=cav
 k:=3
 ty:=105
 st:=42
 bytes:=24
 zv:= Xi #[Xe Xf 0,Xe Xf 0,Xe Xf 0]
 zero:=⟨0,0,0⟩
 len:=fun _=>rfl
 one:=fun a u hu=>by
  simp only[cav,mC,nM,or_false]at hu
  rcases hu with rfl|rfl|rfl <;> rfl
 bV:=underlying42
 aF:=ztB
 zok:=rfl
 few:=by decide
 pos:=by decide
def zoK (W:Xn) (y:Addr) (c:Ca):Prop:=W.cell? y=Xa (Xe Xf c.file)/\W.cell? { block:=y.block,off:=y.off+1 }=Xa (Xe Xf c.idx)/\W.cell? { block:=y.block,off:=y.off+2 }=Xa (Xe Xf c.fr)
def zoJ (w:Xn) (a:Option Addr) (l:List Ca):Prop:=∀(j:Nat) c,l[j]? =Xa c->∃ad,a=Xa ad/\∀W,zc w W->zoK W (ad.add (j*3)) c
theorem zj.cas {w:Xn} {v:Xq} {l:List Ca} (h:zj Zz w v l):∃a c,v= O a l.length c/\zoJ w a l:=by
 obtain⟨a,c,b,e⟩:=h.rows;refine⟨a,c,b,fun j x g=>?_⟩
 obtain⟨d,f,b⟩:=e j x g;exact⟨d,f,fun W d=>⟨b W d 0 _ rfl,b W d 1 _ rfl,b W d 2 _ rfl⟩⟩
structure Sli where
 a:Option Addr
 n:Nat
 c:Nat
abbrev Sli.x (s:Sli):Xq:= O s.a s.n s.c
abbrev eS:Xq:= O Xb 0 0
abbrev I6 (x:Int):Xq:= Xe Xf x
abbrev U8 (x:Int):Xq:= Xe Xg x
def Sli.v (s:Sli):Xq:= O s.a s.n s.c
def ZH:Sli:=⟨Xb,0,0⟩
theorem zj.n {α:Type} {E:Elt α} {w:Xn} {a:Option Addr} {n c:Nat} {l:List α} (h:zj E w (O a n c) l):n=l.length:=by
 obtain⟨_,_,b,_⟩:=h.rows;cases b;rfl
structure SpV where
 aH:Bool
 ar:Sli
 (t0 t1 t2 t3 t4 t5 t6 t7:Sli)
def SpV.tab (x:SpV):List Xq:=[x.t0.v,x.t1.v,x.t2.v,x.t3.v,x.t4.v,x.t5.v,x.t6.v,x.t7.v]
def spv (x:SpV):List Xq:=[Xh x.aH,x.ar.v,x.t0.v,x.t1.v,x.t2.v,x.t3.v,x.t4.v,x.t5.v,x.t6.v,x.t7.v]
def spz:Xq:= Xi #[Xh Xd,O Xb 0 0,O Xb 0 0,O Xb 0 0,O Xb 0 0,O Xb 0 0,O Xb 0 0,O Xb 0 0,O Xb 0 0,O Xb 0 0]
theorem ztC:(Tryz.prog.info? 76).map (fun i=>(i.zero,i.size,i.bytes))=Xa (Xa spz,10,224):=by kernel_rfl
def Jm:Elt SpV where
 enc:=spv
 k:=10
 ty:=76
 st:=43
 bytes:=224
 zv:=spz
 zero:=⟨Xd,ZH,ZH,ZH,ZH,ZH,ZH,ZH,ZH,ZH⟩
 len:=fun _=>rfl
 one:=fun a u hu=>by
  simp only[spv,mC,nM,or_false]at hu
  rcases hu with rfl|rfl|rfl|rfl|rfl|rfl|rfl|rfl|rfl|rfl <;> rfl
 bV:=underlying43
 aF:=ztC
 zok:=rfl
 few:=by decide
 pos:=by decide
structure Zf (w:Xn) (x:SpV) (s:Sp):Prop where
 aH:x.aH=s.aH
 ar:zj arE w (O x.ar.a x.ar.n x.ar.c) s.aD
 cap:x.ar.n<=x.ar.c
 tb:zaB w x.tab s.tb
theorem Zf.aA {w:Xn} {x:SpV} {s:Sp} (h:Zf w x s) (k:zc w w'):Zf w' x s:=⟨h.aH,h.ar.aA k,h.cap,h.tb.aA k⟩
def Je (w:Xn) (v:Xq) (ss:List Sp):Prop:=∃xs:List SpV,zj Jm w v xs/\xs.length=ss.length/\∀(i:Nat) x s,xs[i]? =Xa x->ss[i]? =Xa s->Zf w x s
theorem Je.aA {w:Xn} {v:Xq} {a:List Sp} (h:Je w v a) (k:zc w w'):Je w' v a:=by
 obtain⟨d,a,b,c⟩:=h;exact⟨d,a.aA k,b,fun i x s b a=>(c i x s b a).aA k⟩
structure MaV where
 (f s sb sq db dq fl ca sp:Sli)
structure zw (w:Xn) (V:MaV) (m:Ma):Prop where
 fs:zj qi w (O V.f.a V.f.n V.f.c) m.fs
 sl:zj slE w (O V.s.a V.s.n V.s.c) m.sl
 sb:qV w (O V.sb.a V.sb.n V.sb.c) m.sb
 sq:jr w (O V.sq.a V.sq.n V.sq.c) m.sq
 db:qV w (O V.db.a V.db.n V.db.c) m.db
 dq:jr w (O V.dq.a V.dq.n V.dq.c) m.dq
 fl:z7 w (O V.fl.a V.fl.n V.fl.c) m.fl
 ca:zj Zz w (O V.ca.a V.ca.n V.ca.c) m.ca
 sp:Je w (O V.sp.a V.sp.n V.sp.c) m.sp
abbrev mL (V:MaV) (m:Ma):List Xq:=[V.f.x,I6 m.aB,V.s.x,V.sb.x,V.sq.x,V.db.x,V.dq.x,V.fl.x,I6 m.cnt,V.ca.x,V.sp.x]
abbrev zM:List Xq:=[eS,I6 0,eS,eS,eS,eS,eS,eS,I6 0,eS,eS]
theorem zw.aA {w:Xn} {V:MaV} {m:Ma} (h:zw w V m) (k:zc w w'):zw w' V m:=⟨h.fs.aA k,h.sl.aA k,h.sb.aA k,h.sq.aA k,h.db.aA k,h.dq.aA k,qo.aA h.fl k,h.ca.aA k,h.sp.aA k⟩
theorem qV.n {w:Xn} {a:Option Addr} {n c:Nat} {l:List (List Int)} (h:qV w (O a n c) l):n=l.length:=by
 obtain⟨⟨_,_,b,_⟩,_⟩:=h;cases b;rfl
theorem jr.n {w:Xn} {a:Option Addr} {n c:Nat} {l:List (Int × List Int)} (h:jr w (O a n c) l):n=l.length:=by
 obtain⟨⟨_,_,b,_⟩,_⟩:=h;cases b;rfl
theorem z7.n {w:Xn} {a:Option Addr} {n c:Nat} {l:List Fl} (h:z7 w (O a n c) l):n=l.length:=by
 obtain⟨_,b,b,d,_⟩:=h;rw[b.now.n,d]
theorem Je.n {w:Xn} {a:Option Addr} {n c:Nat} {l:List Sp} (h:Je w (O a n c) l):n=l.length:=by
 obtain⟨b,b,d,_⟩:=h;rw[b.n,d]
theorem zw.ns {w:Xn} {V:MaV} {m:Ma} (h:zw w V m):V.f.n=m.fs.length/\V.s.n=m.sl.length/\V.sb.n=m.sb.length/\V.sq.n=m.sq.length/\V.db.n=m.db.length/\V.dq.n=m.dq.length/\V.fl.n=m.fl.length/\V.ca.n=m.ca.length/\V.sp.n=m.sp.length:=
 ⟨h.fs.n,h.sl.n,h.sb.n,h.sq.n,h.db.n,h.dq.n,z7.n h.fl,h.ca.n,h.sp.n⟩
theorem zj.bC {α:Type} {E:Elt α} {w:Xn} {a:Option Addr} {n c:Nat} {l:List α} (h:zj E w (O a n c) l):zqI E w a l:=by
 obtain⟨_,_,b,b⟩:=h.rows
 grind
theorem zw.bF {w:Xn} {V:MaV} {m:Ma} (h:zw w V m):zkw w V.f.a m.fs:=fun j x d=>by
 obtain⟨a,b,c⟩:=h.fs.bC j x d;exact⟨a,b,fun W a=>(c W a).fr⟩
theorem zw.cas {w:Xn} {V:MaV} {m:Ma} (h:zw w V m):zoJ w V.ca.a m.ca:=by
 obtain⟨_,_,a,b⟩:=h.ca.cas;simp only[vJ]at a;rw[a.1];exact b
theorem zw.sls {w:Xn} {V:MaV} {m:Ma} (h:zw w V m):zoA w V.s.a m.sl:=by
 obtain⟨_,_,a,b⟩:=h.sl.sls;simp only[vJ]at a;rw[a.1];exact b
theorem zw.pgs {w:Xn} {V:MaV} {m:Ma} (h:zw w V m):zkv w V.db.a m.db:=by
 obtain⟨_,_,a,b⟩:=h.db.rows;simp only[vJ]at a;rw[a.1];exact b
theorem zw.puts {w:Xn} {V:MaV} {m:Ma} (h:zw w V m):zd8 w V.dq.a m.dq:=by
 obtain⟨_,_,a,b⟩:=h.dq.rows;simp only[vJ]at a;rw[a.1];exact b
theorem zjf (v fs) (w:Xn) (h:zj Zz w v fs):
  Xp prog 55 #[v] w fun e w'=>∃d,e= Xl d/\zb Zz w.heap.size w' d fs/\zc w w':=by
 have i:=dD h;obtain⟨⟨f,g,rfl,b,c⟩,a⟩:=h;have h:=fun w f n g j h=>Lib.run_eql_slice_nil w _ _ f n g j h underlying42
 cases f with
 | none=>
  have f:=b rfl;subst f;clear c b a
  go_enter func55,ntmps55
  go_wp2;go_ret;exact⟨_,rfl,zb.nil _ _ _,zc.refl w⟩
 | some x=>
  have f:=dD a;clear c b a
  go_enter func55,ntmps55
  go_wp2_with (at_builtin;refine zu (E:=Zz) rfl (.tmp 5) (.tmp 6) rfl w.heap.size _ [] rfl (zb.made Zz w) _ fs rfl (i.aA (za _ _)) ?qb Sm ?_)
  case qb=>rw[Yk,zA];exact f.out
  intro d a b a;go_wp2;go_ret;exact⟨d,rfl,Si b,((bR _ w).alloc (nR _) _).grown a Sm (by intro k a;simp[Value.ownBlock]at a;omega)⟩
theorem zje (v) (fs:List SpV) (w:Xn) (h:zj Jm w v fs):
  Xp prog 103 #[v] w fun e w'=>∃d,e= Xl d/\zb Jm w.heap.size w' d fs/\zc w w':=by
 have i:=dD h;obtain⟨⟨f,g,rfl,b,c⟩,a⟩:=h;have h:=fun w f n g j h=>Lib.run_eql_slice_nil w _ _ f n g j h underlying43
 cases f with
 | none=>
  have f:=b rfl;subst f;clear c b a
  go_enter func103,ntmps103
  go_wp2;go_ret;exact⟨_,rfl,zb.nil _ _ _,zc.refl w⟩
 | some x=>
  have f:=dD a;clear c b a
  go_enter func103,ntmps103
  go_wp2_with (at_builtin;refine zu (E:=Jm) rfl (.tmp 5) (.tmp 6) rfl w.heap.size _ [] rfl (zb.made Jm w) _ fs rfl (i.aA (za _ _)) ?qb Sm ?_)
  case qb=>rw[Yk,zA];exact f.out
  intro d a b a;go_wp2;go_ret;exact⟨d,rfl,Si b,((bR _ w).alloc (nR _) _).grown a Sm (by intro k a;simp[Value.ownBlock]at a;omega)⟩
theorem zjg (v fs) (w:Xn) (h:zj arE w v fs):
  Xp prog 104 #[v] w fun e w'=>∃d,e= Xl d/\zb arE w.heap.size w' d fs/\zc w w':=by
 have i:=dD h;obtain⟨⟨f,g,rfl,b,c⟩,a⟩:=h;have h:=fun w f n g j h=>Lib.run_eql_slice_nil w _ _ f n g j h underlying71
 cases f with
 | none=>
  have f:=b rfl;subst f;clear c b a
  go_enter func104,ntmps104
  go_wp2;go_ret;exact⟨_,rfl,zb.nil _ _ _,zc.refl w⟩
 | some x=>
  have f:=dD a;clear c b a
  go_enter func104,ntmps104
  go_wp2_with (at_builtin;refine zu (E:=arE) rfl (.tmp 5) (.tmp 6) rfl w.heap.size _ [] rfl (zb.made arE w) _ fs rfl (i.aA (za _ _)) ?qb Sm ?_)
  case qb=>rw[Yk,zA];exact f.out
  intro d a b a;go_wp2;go_ret;exact⟨d,rfl,Si b,((bR _ w).alloc (nR _) _).grown a Sm (by intro k a;simp[Value.ownBlock]at a;omega)⟩
end
end Go.Proofs.YtmfckdkcmbncdaaGreat
