import Derived.Orders
import Derived.Below
import Derived.Deep.QuietTactic
import Derived.BigQuiet
import Derived.Test.YtkfjajbalegoeaaGreatProg
import Derived.WalkKit
import Derived.Deep.LoopGhost
import Derived.Deep.Slices
import Derived.Laws.AppendOwn
import Derived.Lib.Walk
import Derived.Lib.SliceRun
import Derived.Laws.CopyRow
import Derived.Laws.CopyOwn
import Derived.Laws.MakeOwn
import Derived.Laws.OwnMore
import Derived.Shelf.Abstract
import Derived.WalkSmall
import Derived.Deep.Cut
import Derived.ChangeKeysEq
import Derived.Laws.StructEq
import Derived.ArgAppend
import Derived.Deep.MidRow
import Derived.Laws.ResultCell
import Derived.OrdersHeld
namespace Go.Proofs.YtkfjajbalegoeaaGreat
open Go.Value renaming slice→O,int→Xe,bool→Xh,agg→Xi,pointer→Xj,tuple→Xm
open Go.IntKind renaming i64→Xf,u8→Xg
open Go.Obj renaming cells→Xk
open Go.Ending renaming returned→Xl
open Go renaming World→Xn,Calls→Xp,Value→Xq
open Go.RowKit renaming Hid→Xo
open Option renaming some→Xa,none→Xb
open Bool renaming true→Xc,false→Xd
open List renaming replicate→Xr
open _root_.List renaming mem_range→Xs,getElem?_of_mem→Xu,range→Xv,getElem?_range→Xw,mem_filter→Xx,getElem?_map→Xy,mem_or_eq_of_mem_set→Xz,mem_map→Yb,pairwise_cons→Yc,mem_append→Yd,any_eq_true→Ye,flatMap_cons→Yf,ext_getElem?→Yh,length_cons→Yi,length_nil→Yj,append_assoc→Yl,all_eq_true→Yn,drop_of_length_le→Yq,countP_append→Ys,length_set→Yt,any_eq_false→Yu,mem_of_getLast?→Yv,cons_append→Yx,getElem?_append_left→Yy,flatMap_append→Yz,filter_append→Oa,filter_cons_of_pos→Ob,take_add_one→Oc,takeWhile_append_dropWhile→Od,mem_cons_of_mem→Of,drop_append_of_le_length→Og,take_append_of_le_length→Oh,nodup_cons→Oi,map_congr_left→Oj,take_length_add_append→Ol,drop_length_add_append→Om,mem_replicate→Oo,mem_of_find?_eq_some→Ot,sum_cons→Ov,length_erase_of_mem→Ow,length_eq_zero_iff→Ox,length_take→Oy,getElem?_replicate→Oz,pairwise_lt_range→Ub,take_of_length_le→Uc,zipWith→Ud,zipWith_cons_cons→Ue,takeWhile_sublist→Uf,nil_append→Uh,set_getElem_self→Uk,range_eq_range'→Ul,filter_eq_self→Un,countP_eq_zero→Uo,countP_pos_iff→Up,takeWhile_cons→Ur,dropWhile_cons→Us,getLast?_cons→Uu,mem_singleton→Uv,filter_filter→Uw,getElem?_drop→Ux,find?_eq_none→Uy,mem_cons_self→Uz,nodup_append→Ga,find?_append→Ge,foldl_append→Gf
open Go.Region renaming wanted→Xt,ready→Ua,binds→Gb
open _root_.Bool renaming and_eq_true→Ya,false_eq_true→Yp,or_eq_true→Ug,eq_iff_iff→Ui,false_and→Um,true_and→Ut
open Go.Sem renaming run_bind→Yg,run_pure→Yk
open _root_.Nat renaming mul_le_mul_left→Ym,lt_or_ge→Yo,lt_of_lt_of_le→Yr,mul_le_mul_right→Yw,add_assoc→Oe,add_comm→Ok,add_mul→Ou,min_eq_left→Uj,zero_mul→Gc,succ_mul→Gd
open _root_.Array renaming getElem?_eq_getElem→Oq
open Go.Act renaming put→Gg
variable{α:Type}{a:Act}{P:Addr}{z:Int}{S:Int×Int}{g:List (Int×List Int)}{r:List (List Int)}{L:List Int}{K:List Oper}{D:List Xq}{y:List α}{b k p:Nat}{V:Program}{t:TypeId}{w:Xn}{A:Xq}{N:Xq->Xn->Prop}
theorem nW{p c K a o}{w:Go.World}(h:∀W,w.alloc o=W->Go.Code.wp p c K a W):Go.Code.wp p c K a (w.alloc o):=h _ rfl
theorem Wm{P:Prop}(h:P:=by omega):P:=h
theorem Dc{P:Prop}(h:P:=by decide):P:=h
theorem Kr{P:Prop}(h:P:=by kernel_rfl):P:=h
theorem Sm{P:Prop}(h:P:=by simp):P:=h
theorem Gn{P:Prop}(h:P:=by go_num):P:=h
theorem Hm{P Q:Prop}(k:Q)(h:Q->P:=by intro _;omega):P:=h k
theorem Si{P Q:Prop}(k:Q)(h:Q->P:=by intro k;simpa using k):P:=h k
theorem Rr{P Q:Prop}(k:Q)(h:Q->P:=by intro k;(first|rw[k]|(unfold Sli.x;rw[k])|(unfold Sli.x at k;rw[k]));rfl):P:=h k
theorem Rx{E P Q:Prop}(e:E)(k:Q)(h:E->Q->P:=by intro e k;(first|rw[e]|(unfold Sli.x;rw[e])|(unfold Sli.x at e;rw[e]));exact k):P:=h e k
theorem Ry{E P Q:Prop}(e:E)(k:Q)(h:E->Q->P:=by intro e k;rw[<-e];exact k):P:=h e k
theorem Wq{P Q:Prop}(k:Q)(h:Q->P:=by intro k;(first|go_end0|((try simp only[Exit.inBlock,Exit.then]);refine bodyPost_ret (results_none rfl _ _ _) rfl ?_));(first|exact k|exact⟨⟨_,rfl⟩,k⟩)):P:=h k
theorem Ww(P:World->Prop):∃j:World->Prop,Go.RowKit.Hid (∀a,j a↔P a):=⟨P,fun _=>Iff.rfl⟩
section
variable{α:Type _}{P:α->Prop}{a b c d:α}
theorem Sa(h:P a):∀x∈[a],P x:=by simpa using h
theorem Sb(h:P a)(k:P b):∀x∈[a,b],P x:=by simpa using⟨h,k⟩
theorem Sc(h:P a)(k:P b)(l:P c):∀x∈[a,b,c],P x:=by simpa using⟨h,k,l⟩
theorem Sd(h:P a)(k:P b)(l:P c)(m:P d):∀x∈[a,b,c,d],P x:=by simpa using⟨h,k,l,m⟩
end
theorem dD{P:Prop}(h:P):Go.RowKit.Hid P:=h
theorem kA(e:α):∃x,Go.RowKit.Hid (e=x):=⟨_,rfl⟩
theorem kB(e:α):∃x,e=x:=⟨_,rfl⟩
theorem kE{c:Prop}{h:Decidable c}(hc:c){α:Sort _}{t e:α}:ite c t e=t:=if_pos hc
theorem kF{c:Prop}{h:Decidable c}(hc:¬c){α:Sort _}{t e:α}:ite c t e=e:=if_neg hc
theorem kC(h:k<b):(k:Int)<(b:Int):=by omega
theorem kD(h:¬k<b):¬(k:Int)<(b:Int):=by omega
theorem Uq{P Q:Prop}(k:Q)(h:Go.RowKit.Hid Q->P:=by intro h;simp only[Go.Act.put,sB,sS,sZ];exact h.out):P:=h k
theorem gE(h:k<y.length):y[k]?=Xa y[k]:=List.getElem?_eq_getElem h
theorem sB(l:List α)(i:Nat)(a:α):l.toArray.setIfInBounds i a=(l.set i a).toArray:=List.setIfInBounds_toArray l i a
theorem gS{a:α}:y[k]?=Xa a<->∃h:k<y.length,y[k]=a:=List.getElem?_eq_some_iff
theorem sZ{x:α}{a:α}:(x::y).set 0 a=a::y:=rfl
theorem sS{x:α}{a:α}:(x::y).set (k+1) a=x::y.set k a:=rfl
theorem nM{a:α}:¬a∈([]:List α):=List.not_mem_nil
theorem mC{b:α}{a:α}:a∈b::y<->a=b\/a∈y:=List.mem_cons
theorem mG{i:Nat}{a:α}(h:y[i]?=Xa a):a∈y:=List.mem_of_getElem? h
theorem sF{a:α}(h:k<y.length):(y.set k a)[k]?=Xa a:=List.getElem?_set_self h
theorem gD{a:α}:y.getD k a=y[k]?.getD a:=List.getD_eq_getElem?_getD
theorem sN(h:k≠b){a:α}:(y.set k a)[b]?=y[b]?:=List.getElem?_set_ne h
theorem tN(n:Nat):(n:Int).toNat=n:=Int.toNat_natCast n
theorem lR{a:α}:(Xr k a).length=k:=List.length_replicate
theorem pJ{α β:Type}(a:α)(b:β)(c:α)(d:β):((a,b)=(c,d))=(a=c/\b=d):=Prod.mk.injEq a b c d
theorem vJ(a n c d e f):(O a n c=O d e f)=(a=d/\n=e/\c=f):=Value.slice.injEq a n c d e f
theorem eN(h:y.length=0):y=[]:=List.eq_nil_of_length_eq_zero h
theorem aR{l:List α}(h:y.length<=k):(y++l)[k]?=l[k-y.length]?:=List.getElem?_append_right h
theorem gN{l:List α}(h:l.length<=k):l[k]?=Xb:=List.getElem?_eq_none h
theorem lA{l:List α}:(y++l).length=y.length+l.length:=List.length_append
theorem aS{b:α}{i:Array α}:i[k]?=Xa b<->∃h:k<i.size,i[k]=b:=Array.getElem?_eq_some_iff
theorem bD{a:Xn}(h:Go.RowKit.Below k w a)(n:Nat):Go.RowKit.Below k w (a.drewN n):=Go.below_drewN h n
theorem nT(h:k<=b)(g:b<=p):k<=p:=Nat.le_trans h g
theorem nR(n:Nat):n<=n:=Nat.le_refl n
theorem nZ(n:Nat):0<=n:=Nat.zero_le n
theorem nL(n:Nat):¬n<0:=Nat.not_lt_zero n
theorem mP{β:Type}{f:α->β}{a:α}:(a::y).map f=f a::y.map f:=rfl
theorem rA{α β:Type}(a:α)(w:Xn)(f:α->Xn->Result β):(Result.ok a w).andThen f=f a w:=rfl
theorem zA(n:Nat):0+n=n:=Nat.zero_add n
theorem bR(B:Nat)(w:Xn):Go.RowKit.Below B w w:=Go.RowKit.Below.refl B w
theorem bS{v:Xn}(h:Go.RowKit.Below k w v):w.heap.size<=v.heap.size:=Go.RowKit.Below.size h
set_option maxRecDepth 100000
set_option maxHeartbeats 4000000
variable{A0 A1 B B0 B1 b base' id j:Nat}{Q:Exit->Act->Xn->Prop}{W w' w1:Xn}{a0 a1 a2 a3 a4 a5 a6 a7 a8 a9:Xq}{hd z:Int}{o oj:Oper}{ops:Array Oper}{t:TypeId}{us vs xs:List Xq}
open Go.Proofs.Tryz
section
structure Pg where
 (b0 b1 b2 b3 b4 b5 b6 b7:Int)
structure Fr where
 p:Pg
 r:Int
 u:Bool
 d:Bool
 f:Int
 x:Int
def pg0:Pg:=⟨0,0,0,0,0,0,0,0⟩
def fr0:Fr:=⟨pg0,0,Xd,Xd,0,0⟩
def frF:Fr:=⟨pg0,0,Xd,Xd,-1,0⟩
def zdi(p q:Pg):Bool:=(p.b0==q.b0)&&(p.b1==q.b1)&&(p.b2==q.b2)&&(p.b3==q.b3)&&(p.b4==q.b4)&&(p.b5==q.b5)&&(p.b6==q.b6)&&(p.b7==q.b7)
theorem zb1(p q):zdi p q=Xc↔p=q:=by obtain⟨a,a,a,a,a,a,a,a⟩:=p;obtain⟨a,a,a,a,a,a,a,a⟩:=q;simp[zdi,and_assoc]
def Jj(a b:Fr):Bool:=zdi a.p b.p&&(a.r==b.r)&&(a.u==b.u)&&(a.d==b.d)&&(a.f==b.f)&&(a.x==b.x)
theorem zeA(a b):Jj a b=Xc↔a=b:=by obtain⟨p,r,u,d,f,x⟩:=a;obtain⟨c,c,c,c,c,c⟩:=b;simp[Jj,zb1,and_assoc]
def inB(m n:Int):Bool:=decide (0<=m)&&decide (m<n)
def frW(a:Fr):Int:=if(inB a.r 1001&&inB a.x 12)=Xd then 3 else if(!(a.f==-1)&&!inB a.f 5)=Xc then 3 else if(a.r==0&&!Jj a frF||a.f==-1&&!(a.x==0))=Xc then 7 else 0
def zcO:List Fr->Int
 |[]=>0
 |a::l=>if frW a=0 then zcO l else frW a
def ZR(fs:List Fr)(h:Int):Int:=if 40<fs.length then 4 else if zcO fs=0 then(if inB h (max fs.length 1)then 0 else 3)else zcO fs
def zbM(z:Int):Bool:=decide (z<0)||decide (1000<z)
def slW(s:List Int):Int:=if 60<s.length then 4 else if s.any zbM then 3 else 0
def ZB(at_:Int)(n:Nat):Bool:=decide (0<=at_)&&decide (at_<n)
def zS(n:Nat)(qs:List (Int×List Int)):Int:=if 80<n then 4 else if 400<qs.length then 4 else if qs.any (fun q=>!ZB q.1 n)then 3 else 0
def zp(n:Nat)(qs:List (Int×List Int))(m:Int):Int:=if zS n qs=0 then(if ZB m n then 0 else 3)else zS n qs
def zt:List Int:=[0,0,0,0,0,0,0,0]
def qU(ps:List (List Int))(qs:List (Int×List Int))(m:Int):List Int:=
 if zp ps.length qs m=0 then(match qs.reverse.find? (fun q=>q.1==m)with|some q=>q.2|none=>ps.getD m.toNat zt)else zt
structure Fl where
 size:Int
 bl:List Int
def zaS(n:Int):Int:=if n<1 then 0 else(n-1)/8+1
def J9(cnt:Int)(g:List Int)(b:Int):Int:=if b=-1 then 0 else if 0<=b/\b<cnt then(if g.contains b then 7 else 0)else 3
def zam(g:List Int)(b:Int):List Int:=if b=-1 then g else b::g
def blW(cnt:Int):List Int->List Int->Int
 |_,[]=>0
 |g,b::l=>if J9 cnt g b=0 then blW cnt (zam g b) l else J9 cnt g b
def blG(g:List Int)(l:List Int):List Int:=l.foldl zam g
def flW(cnt:Int)(g:List Int)(f:Fl):Int:=if 0<=f.size/\f.size<=96 then(if(f.bl.length:Int)=zaS f.size then blW cnt g f.bl else 2)else 3
def zfl(cnt:Int):List Int->List Fl->Int
 |_,[]=>0
 |g,f::l=>if flW cnt g f=0 then zfl cnt (blG g f.bl) l else flW cnt g f
def stW(fs:List Fl)(cnt:Int):Int:=if fs.length<=5/\0<=cnt/\cnt<=80 then zfl cnt [] fs else 4
def z4(fs:List Fl)(b:Int):Bool:=fs.any fun f=>f.bl.contains b
def Q1(fs:List Fl)(cnt:Int):List Nat:=(Xv cnt.toNat).filter fun b=>!z4 fs (b:Int)
def zrC(l:List Int)(n:Nat):List Int:=l.take n++Xr (n-l.length) (-1)
theorem zgU(a:0<=z)(b:z<=96):0<=zaS z/\zaS z<=12:=by unfold zaS;split<;>omega
theorem J8(a:Int)(g:List Int)(b:Int):
  (b=-1/\J9 a g b=0/\zam g b=g)\/
  (b≠-1/\¬(0<=b/\b<a)/\J9 a g b=3)\/
  (∃i:Nat,b=(i:Int)/\b<a/\g.contains b=Xc/\J9 a g b=7)\/
  (∃i:Nat,b=(i:Int)/\b<a/\g.contains b=Xd/\J9 a g b=0/\zam g b=b::g):=by
 by_cases c:b=-1;·grind[J9,zam]
 by_cases c:0<=b/\b<a
 ·obtain⟨i,a⟩:∃i:Nat,b=(i:Int):=⟨b.toNat,Wm⟩
  grind[J9,zam]
 grind[J9]
theorem zjz(a:Int)(g)(b:Int):J9 a g b=0\/J9 a g b=3\/J9 a g b=7:=by rcases J8 a g b with⟨_,h,_⟩|⟨_,_,h⟩|⟨_,_,_,_,h⟩|⟨_,_,_,_,h,_⟩<;>omega
theorem ziC(a:Int):∀(l g:List Int),blW a g l=0\/blW a g l=3\/blW a g l=7
 |[],g=>.inl rfl
 |b::l,g=>by
  unfold blW
  split
  ·exact ziC a l _
  exact zjz a g b
theorem znH(a:Int)(g f):0<=flW a g f/\flW a g f<=7:=by
 have:=ziC a f.bl g;unfold flW;split;·split<;>omega
 omega
theorem zlO(a:Int):∀(l:List Fl)(g:List Int),0<=zfl a g l/\zfl a g l<=7
 |[],g=>by simp[zfl]
 |f::l,g=>by
  unfold zfl
  split
  ·exact zlO a l _
  exact znH a g f
def Ji(l:List Int):List Int:=l.filter (·≠-1)
theorem zgv(b:Int)(hb:b≠-1):∀(l g:List Int),b∈blG g l↔b∈g\/b∈l
 |[],g=>by simp[blG]
 |c::l,g=>by
  have a:=zgv b hb l (zam g c);unfold blG at a⊢;rw[List.foldl_cons,a];unfold zam
  split
  ·rename_i h
   simp;constructor;·rintro(h|h)<;>simp[h]
   rintro(a|a|a);·exact .inl a
   ·exact absurd (a.trans h) hb
   exact .inr a
  simp;constructor;·rintro((h|h)|h)<;>simp[h]
  rintro(h|h|h)<;>simp[h]
theorem zg0(a:Int):∀(l g:List Int),blW a g l=0↔(∀b∈l,b=-1\/(0<=b/\b<a))/\(∀b∈l,b≠-1->b∉g)/\(Ji l).Nodup
 |[],g=>by simp[blW,Ji]
 |b::l,g=>by
  unfold blW
  rcases J8 a g b with⟨e,d,c⟩|⟨e,d,c⟩|⟨i,e,d,c,f⟩|⟨i,e,d,c,f,j⟩
  ·rw[kE d,c,zg0 a l g];subst e
   simp[Ji]
  ·rw[kF Wm,c]
   constructor
   ·intro h;omega
   rintro⟨h,_⟩
   rcases h b Sm with h|h
   ·exact absurd h e
   exact absurd h d
  ·rw[kF Wm,f]
   constructor
   ·intro h;omega
   rintro⟨_,h,_⟩;exact absurd (Si c) (h b Sm Wm)
  rw[kE f,j,zg0 a l (b::g)];have hb:b≠-1:=Wm
  have k:b∉g:=Si c;constructor
  ·rintro⟨j,f,e⟩;refine⟨fun c a=>?_,fun c a h=>?_,?_⟩
   ·rcases mC.1 a with rfl|a
    ·exact .inr ⟨Wm,d⟩
    exact j c a
   ·rcases mC.1 a with rfl|a
    ·exact k
    exact fun d=>f c a h (by simp[d])
   unfold Ji;rw[Ob (Si hb)];refine Oi.2 ⟨fun h=>?_,e⟩;obtain⟨d,_⟩:=Xx.1 h;exact f b d hb Sm
  rintro⟨j,f,e⟩;unfold Ji at e;rw[Ob (Si hb)]at e;obtain⟨k,m⟩:=Oi.1 e;refine⟨fun c a=>j c (by simp[a]),fun c a h d=>?_,m⟩;rcases mC.1 d with rfl|d;·exact k (Xx.2 ⟨a,Si hb⟩)
  exact f c (by simp[a]) h d
def zrw(cnt:Int)(f:Fl):Prop:=(0<=f.size/\f.size<=96)/\(f.bl.length:Int)=zaS f.size/\∀b∈f.bl,b=-1\/(0<=b/\b<cnt)
def Jg(fs:List Fl):List Int:=fs.flatMap fun f=>f.bl
theorem zpz(a:Int)(g)(f:Fl):flW a g f=0↔zrw a f/\(∀b∈f.bl,b≠-1->b∉g)/\(Ji f.bl).Nodup:=by grind[flW,zrw,zg0]
theorem zic(a:Int):∀(fs:List Fl)(g:List Int),zfl a g fs=0↔(∀f∈fs,zrw a f)/\(∀b∈Jg fs,b≠-1->b∉g)/\(Ji (Jg fs)).Nodup
 |[],g=>by simp[zfl,Jg,Ji]
 |f::l,g=>by
  unfold zfl;have key:(flW a g f=0/\zfl a (blG g f.bl) l=0)↔(∀d∈f::l,zrw a d)/\(∀b∈Jg (f::l),b≠-1->b∉g)/\(Ji (Jg (f::l))).Nodup:=by
   rw[zpz,zic a l];unfold Jg Ji;rw[Yf,Oa,Ga];constructor
   ·rintro⟨⟨i,j,n⟩,p,k,h⟩;refine⟨fun d e=>?_,fun b c a=>?_,n,h,fun m s b c=>?_⟩
    ·rcases mC.1 e with rfl|e
     ·exact i
     exact p d e
    ·rcases Yd.1 c with c|c
     ·exact j b c a
     exact fun h=>k b c a ((zgv b a _ _).2 (.inl h))
    rintro rfl;obtain⟨q,r⟩:=Xx.1 s;obtain⟨a,_⟩:=Xx.1 c;have s:m≠-1:=Si r;exact k m a s ((zgv m s _ _).2 (.inr q))
   rintro⟨i,j,n,p,k⟩;refine⟨⟨i f Sm,fun b c=>j b (Yd.2 (.inl c)),n⟩,fun d e=>i d (by simp[e]),fun b c a h=>?_,p⟩;rcases(zgv b a _ _).1 h with h|h;·exact j b (Yd.2 (.inr c)) a h
   exact k b (Xx.2 ⟨h,Si a⟩) b (Xx.2 ⟨c,Si a⟩) rfl
  split
  ·rename_i h
   rw[<-key];exact⟨fun a=>⟨h,a⟩,fun a=>a.2⟩
  rename_i h
  rw[<-key];exact⟨fun a=>absurd a h,fun a=>absurd a.1 h⟩
theorem qJ(fs:List Fl)(a:Int):stW fs a=0↔(fs.length<=5/\0<=a/\a<=80)/\(∀f∈fs,zrw a f)/\(Ji (Jg fs)).Nodup:=by grind[stW,zic]
theorem Jm(fs)(b:Int):z4 fs b=Xc↔b∈Jg fs:=by simp[z4,Jg]
structure En where
 kind:Int
 n:Int
 wr:Bool
def en0:En:=⟨0,0,Xd⟩
def enS(e:En):Bool:=e.kind !=0
def enW(e:En):Int:=
 if 0<=e.kind/\e.kind<=2 then
  (if 0<=e.n/\e.n<=59/\(e.kind=1->e.n<=39)then
   (if(e.kind=0/\(e.n≠0\/e.wr=Xc))\/(e.kind=2/\e.wr=Xc)then 7 else 0)
  else 3)
 else 1
def esW:List En->Int
 |[]=>0
 |e::l=>if enW e=0 then esW l else enW e
def zaV(l:List En):Bool:=l.any enS
def haW(h:List En):Int:=if h.length=0 then 0 else if h.length=8 then(if esW h=0 then(if zaV h=Xc then 0 else 2)else esW h)else 2
def tbW:List (List En)->Int
 |[]=>0
 |h::t=>if haW h=0 then tbW t else haW h
def zbg(t:List (List En))(i k:Nat):En:=((t[i]?.getD [])[k]?).getD en0
def zfi(t:List (List En))(n:Int):En:=if 0<=n/\n<64 then zbg t (n.toNat/8) (n.toNat%8)else en0
def mk(l:List En):List En:=if zaV l=Xc then l else[]
def zcj(h:List En):List En:=if h.length=0 then Xr 8 en0 else h
def zi9(t:List (List En))(n:Nat)(e:En):List (List En):=t.set (n/8) (mk ((zcj (t[n/8]?.getD [])).set (n%8) e))
def zmo(t:List (List En))(n:Int)(e:En):Int:=if tbW t=0 then(if 0<=n/\n<64 then enW e else 3)else tbW t
def qG:List (List En):=Xr 8 []
def zkg(t:List (List En))(n:Int)(e:En):List (List En):=if zmo t n e=0 then zi9 t n.toNat e else qG
def zaO(t:List (List En)):List En:=(Xv 64).map fun j=>zbg t (j/8) (j%8)
def Jk(l:List En)(i:Nat):List En:=(Xv 8).map fun k=>l[8*i+k]?.getD en0
def ZK(l:List En):List (List En):=(Xv 8).map fun i=>mk (Jk l i)
def qB(t:List (List En))(f:En->Bool)(m:Nat):List Int:=((Xv m).filter fun n=>enS (zbg t (n/8) (n%8))&&f (zbg t (n/8) (n%8))).map fun(n:Nat)=>(n:Int)
theorem jE{e:En}(h:enW e=0):(0<=e.kind/\e.kind<=2)/\(0<=e.n/\e.n<=59/\(e.kind=1->e.n<=39))/\¬((e.kind=0/\(e.n≠0\/e.wr=Xc))\/(e.kind=2/\e.wr=Xc)):=by grind[enW]
theorem JN{e:En}(a:0<=e.kind/\e.kind<=2)(b:0<=e.n/\e.n<=59/\(e.kind=1->e.n<=39))(c:¬((e.kind=0/\(e.n≠0\/e.wr=Xc))\/(e.kind=2/\e.wr=Xc))):enW e=0:=by grind[enW]
theorem JO:enW en0=0:=by decide
theorem znV{e:En}(h:enW e=0)(b:enS e=Xd):e=en0:=by
 obtain⟨a,a,a⟩:=jE h;obtain⟨k,n,w⟩:=e;simp[enS]at b;subst b;simp at a;obtain⟨rfl,b⟩:=a;cases w;·rfl
 simp at b
theorem zkK{l:List En}:esW l=0↔∀e∈l,enW e=0:=by
 induction l with
 |nil=>simp[esW]
 |cons e l a=>
  unfold esW;by_cases h:enW e=0
  ·rw[kE h,a]
   simp[h]
  rw[kF h];simp[h]
def ziJ(h:List En):Prop:=h=[]\/(h.length=8/\(∀e∈h,enW e=0)/\zaV h=Xc)
theorem zkA{h:List En}:haW h=0↔ziJ h:=by
 unfold haW ziJ;by_cases a:h.length=0;·grind
 have b:h≠[]:=fun e=>a (Rr e);rw[kF a];by_cases a:h.length=8
 ·rw[kE a]
  by_cases a:esW h=0
  ·rw[kE a];have c:=zkK.1 a;grind
  rw[kF a];simp only[a,b,false_or,false_iff];exact fun h=>a (zkK.2 h.2.1)
 grind
theorem ZZ{t:List (List En)}:tbW t=0↔∀h∈t,ziJ h:=by
 induction t with
 |nil=>simp[tbW]
 |cons h t b=>
  unfold tbW;by_cases a:haW h=0
  ·rw[kE a,b]
   simp[zkA.1 a]
  rw[kF a];simp only[a,mC,forall_eq_or_imp,false_iff];exact fun b=>a (zkA.2 b.1)
structure Qv(t:List (List En)):Prop where
 len:t.length=8
 ok:∀h∈t,ziJ h
theorem Qv.half{t:List (List En)}(h:Qv t)(i:Nat):ziJ (t[i]?.getD []):=by
 cases a:t[i]? with
 |none=>exact .inl rfl
 |some x=>exact h.ok x (mG a)
theorem ziJ.get{h:List En}(a:ziJ h)(k:Nat):enW (h[k]?.getD en0)=0:=by
 rcases a with rfl|⟨_,a,_⟩;·exact JO
 grind[JO,mG]
theorem Qv.get{t:List (List En)}(h:Qv t)(i k:Nat):enW (zbg t i k)=0:=(h.half i).get k
theorem zgP{h:List En}(a:ziJ h):(zcj h).length=8:=by
 unfold zcj;rcases a with rfl|⟨a,_⟩;·rfl
 rw[kF Wm];exact a
theorem zqV(h:List En)(a:ziJ h)(b:k<8):(zcj h)[k]?=Xa (h[k]?.getD en0):=by
 unfold zcj;rcases a with rfl|⟨a,_⟩;·grind
 grind
theorem zpr(h:List En)(k:Nat):(zcj h)[k]?.getD en0=h[k]?.getD en0:=by
 unfold zcj;by_cases a:h.length=0;·grind
 grind
theorem zp4(l:List En)(b:∀e∈l,enW e=0)(k:Nat):(mk l)[k]?.getD en0=l[k]?.getD en0:=by
 unfold mk;by_cases h:zaV l=Xc;·grind
 rw[kF h];cases c:l[k]? with
 |none=>simp
 |some x=>
  have a:=mG c;have:enS x=Xd:=by
   cases c:enS x with
   |false=>rfl
   |true=>exact absurd (Ye.2 ⟨x,a,c⟩) h
  simp[znV (b x a) this]
theorem zrK{l:List En}(a:l.length=8)(b:∀e∈l,enW e=0):ziJ (mk l):=by
 unfold mk;by_cases h:zaV l=Xc;·rw[kE h];exact .inr ⟨a,b,h⟩
 rw[kF h];exact .inl rfl
theorem zqG{h:List En}(a:ziJ h):mk (zcj h)=h:=by
 unfold mk zcj;rcases a with rfl|⟨a,_,a⟩;·rfl
 rw[kF (show¬h.length=0 by omega),kE a]
theorem zfL{h:List En}(b:ziJ h):∀e∈zcj h,enW e=0:=fun e a=>by
 unfold zcj at a;rcases b with rfl|⟨a,a,_⟩;·grind[JO]
 grind
theorem zhq{l:List En}{k:Nat}{e:En}(b:∀x∈l,enW x=0)(a:enW e=0):∀x∈l.set k e,enW x=0:=fun x a=>by grind
theorem zqy{t:List (List En)}(h:Qv t){n:Nat}{e:En}(a:enW e=0):Qv (zi9 t n e):=by
 refine⟨by simp[zi9,h.len],fun x a=>?_⟩;rcases Xz a with a|a;·exact h.ok x a
 rw[a];have a:=h.half (n/8);grind[zrK,Yt,zgP,zhq,zfL]
theorem zpq{t:List (List En)}(h:Qv t){n:Nat}(b:n<64){e:En}(a:enW e=0)(i k:Nat)(d:k<8):zbg (zi9 t n e) i k=if i=n/8/\k=n%8 then e else zbg t i k:=by
 unfold zbg zi9;have b:=h.half (n/8);by_cases c:i=n/8
 ·subst c;rw[sF (by rw[h.len];omega)];simp only[Option.getD_some];rw[zp4 _ (zhq (zfL b) a)];by_cases a:k=n%8
  ·subst a;rw[sF (by rw[zgP b];exact d)];simp
  grind[sN,zpr]
 grind
theorem zie(t:List (List En)):(zaO t).length=64:=by simp[zaO]
theorem zdD(t:List (List En))(a:j<64):(zaO t)[j]?=Xa (zbg t (j/8) (j%8)):=by unfold zaO;rw[Xy,Xw a];rfl
theorem zmb{l:List En}{h:List En}(b:ziJ h){i:Nat}(c:∀k,k<8->l[8*i+k]?=Xa (h[k]?.getD en0)):Jk l i=zcj h:=by
 apply Yh;intro k;by_cases a:k<8
 ·unfold Jk;rw[Xy,Xw a,zqV h b a];simp[c k a]
 grind[gN,Jk,zgP]
theorem zk9{l:List En}{t:List (List En)}(h:Qv t)(a:∀j,j<64->l[j]?=Xa (zbg t (j/8) (j%8))):ZK l=t:=by
 apply Yh;intro i;by_cases a:i<8
 ·unfold ZK;rw[Xy,Xw a];obtain⟨x,b⟩:∃x,t[i]?=Xa x:=⟨_,gE (by rw[h.len];omega)⟩;have a:=h.half i;rw[b]at a⊢;simp only[Option.getD_some]at a;have:Jk l i=zcj x:=zmb a (fun k b=>by grind[zbg]);simp[this,zqG a]
 rw[gN (by simp[ZK];omega),gN (by rw[h.len];omega)]
theorem zaC(t:List (List En))(f:En->Bool)(m:Nat):qB t f (m+1)=if enS (zbg t (m/8) (m%8))&&f (zbg t (m/8) (m%8))then qB t f m++[(m:Int)]else qB t f m:=by
 unfold qB;rw[List.range_succ,Oa,List.map_append];split;·grind
 grind
theorem zbx(t:List (List En))(f:En->Bool):∀m,(qB t f m).length<=m
 |0=>by simp[qB]
 |m+1=>by
  rw[zaC];have:=zbx t f m
  split;·simp;omega
  omega
structure Ar where
 fr:Int
 tz:Int
 rd:Bool
 wr:Bool
 sh:Bool
 file:Int
 base:Int
structure On where
 is:Bool
 rd:Bool
 wr:Bool
 sh:Bool
 file:Int
 page:Int
def on0:On:=⟨Xd,Xd,Xd,Xd,0,0⟩
def ar0:Ar:=⟨0,0,Xd,Xd,Xd,0,0⟩
def jS(a:Ar):Prop:=0<=a.fr/\a.fr<a.tz/\a.tz<=64/\-1<=a.file/\a.file<5/\0<=a.base/\(a.file<0->a.base=0/\a.sh=Xd)/\(0<=a.file->a.base<=12-(a.tz-a.fr))
def arW(a:Ar):Int:=
 if a.fr<0\/a.tz<=a.fr\/64<a.tz\/a.file< -1\/5<=a.file\/a.base<0 then 3
 else if a.file<0 then(if a.base≠0\/a.sh=Xc then 7 else 0)
 else if 12-(a.tz-a.fr)<a.base then 7 else 0
theorem QG{a:Ar}:arW a=0↔jS a:=by grind[arW,jS]
def goB(a b:Ar):Bool:=decide (a.fr=b.tz)&&(a.rd==b.rd)&&(a.wr==b.wr)&&(a.sh==b.sh)&&decide (a.file=b.file)&&decide (a.base=if 0<=b.file then b.base+(b.tz-b.fr)else b.base)
theorem zev{a b:Ar}:goB a b=Xc↔a.fr=b.tz/\a.rd=b.rd/\a.wr=b.wr/\a.sh=b.sh/\a.file=b.file/\a.base=if 0<=b.file then b.base+(b.tz-b.fr)else b.base:=by grind[goB]
def zro(b a:Ar):Prop:=b.tz<=a.fr/\goB a b=Xd
def Jh:Option Ar->List Ar->Prop
 |_,[]=>True
 |p,a::l=>jS a/\(∀b,p=Xa b->zro b a)/\Jh (Xa a) l
def Qb(a:Ar)(n:Nat):Bool:=decide (a.fr<=(n:Int))&&decide ((n:Int)<a.tz)
theorem q7{a:Ar}{n:Nat}:Qb a n=Xc↔a.fr<=(n:Int)/\(n:Int)<a.tz:=by simp[Qb]
theorem zeW{a:Ar}{n:Nat}(h:¬(a.fr<=(n:Int)/\(n:Int)<a.tz)):Qb a n=Xd:=by
 cases b:Qb a n with
 |false=>rfl
 |true=>exact absurd (q7.1 b) h
def qq(a:Ar)(n:Nat):On:=⟨Xc,a.rd,a.wr,a.sh,a.file,if 0<=a.file then a.base+((n:Int)-a.fr)else 0⟩
def zr:List Ar->Nat->On
 |[],_=>on0
 |a::l,n=>if Qb a n=Xc then qq a n else zr l n
def zbp(n:Nat)(x:On):Ar:=if x.is=Xc then⟨n,n+1,x.rd,x.wr,x.sh,x.file,x.page⟩else ar0
theorem Jh.low:∀{l:List Ar}{p:Option Ar}{a:Ar}{n:Nat},Jh p l->p=Xa a->(n:Int)<a.tz->zr l n=on0
 |[],_,_,_,_,_,_=>rfl
 |b::l,p,a,n,h,hp,c=>by
  have c:=h.2.1 a hp;have d:=h.1;unfold zro at c;unfold jS at d;unfold zr;rw[kF (by rw[q7];omega)]
  exact h.2.2.low rfl Wm
theorem Jh.head{l:List Ar}{p:Option Ar}{a:Ar}{n:Nat}(h:Jh p (a::l))(b:(n:Int)<a.fr):zr (a::l) n=on0:=by have b:=h.1;unfold jS at b;unfold zr;rw[kF (by rw[q7];omega)];exact h.2.2.low rfl Wm
theorem J1{a:Ar}{l:List Ar}{n:Nat}(h:a.fr<=(n:Int))(b:(n:Int)<a.tz):zr (a::l) n=qq a n:=by unfold zr;rw[kE (by rw[q7];omega)]
theorem zb3{a:Ar}{l:List Ar}{n:Nat}(h:(n:Int)<a.fr\/a.tz<=(n:Int)):zr (a::l) n=zr l n:=by rw[zr,kF (by rw[q7];omega)]
theorem zko(a)(n:Nat):(qq a n).is=Xc:=rfl
theorem zhI{a:Ar}{n:Nat}(h:qq a n=on0):False:=by have:=congrArg On.is h;simp[on0,qq]at this
theorem Jh.next{l:List Ar}{a b:Ar}{n:Nat}(h:Jh (Xa a) l)(d:(n:Int)=a.tz)(hb:zr l n=qq b n):∃c m,l=c::m/\c.fr=(n:Int)/\qq c n=qq b n/\zro a c:=by
 cases l with
 |nil=>exact(zhI hb.symm).elim
 |cons c m=>
  have d:=h.2.1 a rfl;have d:=h.1;unfold jS at d;by_cases d:(n:Int)<c.fr;·rw[h.head d]at hb;exact(zhI hb.symm).elim
  grind[zro,J1]
theorem zkp{a b:Ar}{n:Nat}(h:qq a n=qq b n):a.rd=b.rd/\a.wr=b.wr/\a.sh=b.sh/\a.file=b.file/\(0<=a.file->a.base+((n:Int)-a.fr)=b.base+((n:Int)-b.fr)):=by grind[qq]
theorem zp8{p:Option Ar}{l m:List Ar}{a b:Ar}(c:Jh p (a::l))(hb:Jh p (b::m))(f:∀n:Nat,n<64->zr (a::l) n=zr (b::m) n)(e:a.fr=b.fr)(d:a.rd=b.rd/\a.wr=b.wr/\a.sh=b.sh/\a.file=b.file/\a.base=b.base):¬a.tz<b.tz:=by
 intro d;have d:=c.1;have e:=hb.1;unfold jS at d e;obtain⟨n,h⟩:∃n:Nat,(n:Int)=a.tz:=⟨a.tz.toNat,Wm⟩;have d:=f n Wm;rw[zb3 Wm,J1 (a:=b) Wm Wm]at d;obtain⟨e,k,rfl,f,f,g⟩:=c.2.2.next h d;obtain⟨d,d,d,d,d⟩:=zkp f;have d:=c.2.2.1;unfold jS at d;have:goB e a=Xc:=by grind[zev]
 rw[g.2]at this;cases this
theorem zjQ:∀{l m:List Ar}{p:Option Ar},Jh p l->Jh p m->(∀n:Nat,n<64->zr l n=zr m n)->l=m
 |[],[],_,_,_,_=>rfl
 |[],b::m,_,_,f,d=>by
  have g:=f.1;unfold jS at g;have:=d b.fr.toNat Wm
  rw[J1 (a:=b) Wm Wm]at this;exact(zhI this.symm).elim
 |c::l,[],_,e,_,d=>by
  have g:=e.1;unfold jS at g;have:=d c.fr.toNat Wm;rw[J1 (a:=c) Wm Wm]at this;exact(zhI this).elim
 |c::l,b::m,p,e,f,d=>by
  have y:=e.1;have g:=f.1;unfold jS at y g;have s:c.fr=b.fr:=by
   rcases Int.lt_trichotomy c.fr b.fr with h|h|h
   ·have:=d c.fr.toNat Wm
    rw[J1 (a:=c) Wm Wm,f.head Wm]at this;exact(zhI this).elim
   ·exact h
   have:=d b.fr.toNat Wm;rw[J1 (a:=b) Wm Wm,e.head Wm]at this;exact(zhI this.symm).elim
  have v:=d c.fr.toNat Wm;rw[J1 (a:=c) Wm Wm,J1 (a:=b) Wm Wm]at v;obtain⟨i,j,k,q,x⟩:=zkp v;have r:c.base=b.base:=by
   rcases Int.lt_or_le c.file 0 with h|h;·omega
   have:=x h;omega
  have w:c.tz=b.tz:=by
   have z:=zp8 e f d s ⟨i,j,k,q,r⟩;have A:=zp8 f e (fun n u=>(d n u).symm) s.symm ⟨i.symm,j.symm,k.symm,q.symm,r.symm⟩;omega
  have t:c=b:=by
   obtain⟨_,_,_,_,_,_,_⟩:=c;obtain⟨_,_,_,_,_,_,_⟩:=b;simp only at s w i j k q r;subst s w i j k q r;rfl
  subst t;have:l=m:=zjQ e.2.2 f.2.2 fun n u=>by
   by_cases h:(n:Int)<c.tz;·rw[e.2.2.low rfl h,f.2.2.low rfl h]
   have:=d n u;rw[zb3 Wm,zb3 Wm]at this;exact this
  rw[this]
def zaG(p:Option Ar)(l:List Ar):Option Ar:=match l.getLast? with|some b=>Xa b|none=>p
theorem zcI(p:Option Ar)(a l):zaG p (a::l)=zaG (Xa a) l:=by
 unfold zaG;cases l with
 |nil=>simp
 |cons b m=>simp[Uu]
theorem zaT{x:Ar}:∀{l:List Ar}{p:Option Ar},Jh p (l++[x])↔Jh p l/\jS x/\∀b,zaG p l=Xa b->zro b x
 |[],p=>by simp[Jh,zaG]
 |a::l,p=>by
  simp only[Yx,Jh,zcI,zaT (l:=l) (p:=some a),and_assoc]
theorem zaE{x:Ar}{n:Nat}:∀{l:List Ar},zr l n=on0\/Qb x n=Xd->zr (l++[x]) n=if Qb x n=Xc then qq x n else zr l n
 |[],_=>by simp[zr]
 |a::l,h=>by
  simp only[Yx,zr]
  by_cases b:Qb a n=Xc
  ·rcases h with h|h
   ·rw[zr,kE b]at h;exact(zhI h).elim
   simp[b,h]
  rw[kF b,kF b];exact zaE (h.imp (fun h=>by rwa[zr,kF b]at h) id)
theorem zb4:∀{l:List Ar},(∀a∈l,Qb a k=Xd)->zr l k=on0
 |[],_=>rfl
 |a::l,h=>by
  rw[zr,kF (by rw[h a Sm];simp)]
  exact zb4 fun b hb=>h b (by simp[hb])
theorem QZ{n:Nat}:∀{l:List Ar},(zr l n).is=Xc->∃(i:Nat)(a:Ar),l[i]?=Xa a/\Qb a n=Xc/\zr l n=qq a n
 |[],h=>by cases h
 |a::l,h=>by
  by_cases c:Qb a n=Xc
  ·exact⟨0,a,rfl,c,by rw[zr,kE c]⟩
  rw[zr,kF c]at h;obtain⟨i,b,d,e,f⟩:=QZ h;exact⟨i+1,b,d,e,by rw[zr,kF c,f]⟩
theorem zgs:∀{l:List Ar},(zr l k).is=Xd->zr l k=on0
 |[],_=>rfl
 |a::l,h=>by
  by_cases b:Qb a k=Xc
  ·rw[zr,kE b]at h;cases h
  rw[zr,kF b]at h⊢;exact zgs h
theorem Jh.all{l:List Ar}:∀{p:Option Ar},Jh p l->∀a∈l,jS a:=by
 induction l with
 |nil=>intro p _ a b;cases b
 |cons b l c=>
  intro p h x b;rcases mC.1 b with e|b;·rw[e];exact h.1
  exact c h.2.2 _ b
def zj4(f:Nat->On):Prop:=∀k:Nat,k<64->((f k).is=Xd->f k=on0)/\((f k).is=Xc->jS (zbp k (f k)))
theorem zdy{a:Ar}{n:Nat}(h:jS a)(b:Qb a n=Xc):jS (zbp n (qq a n)):=by have:=q7.1 b;grind[jS,zbp,zko,qq]
theorem Jh.good{l:List Ar}{p:Option Ar}(h:Jh p l):zj4 (zr l):=fun k _=>⟨zgs,fun b=>by
 obtain⟨i,a,c,d,e⟩:=QZ b;rw[e];exact zdy (h.all a (mG c)) d⟩
def J(f:Nat->On)(n:Nat)(acc:List Ar):Prop:=Jh Xb acc/\(∀a∈acc,a.tz<=(n:Int))/\∀k:Nat,zr acc k=if k<n then f k else on0
theorem J.zero(f:Nat->On):J f 0 []:=⟨trivial,Sm,fun k=>by simp[zr]⟩
theorem J.skip{f:Nat->On}{n:Nat}{a:List Ar}(h:J f n a)(b:f n=on0):J f (n+1) a:=by refine⟨h.1,fun a b=>Hm (h.2.1 a b),fun k=>?_⟩;rw[h.2.2 k];grind
theorem zpZ(n:Nat)(x:On)(h:x.is=Xc)(hp:x.file<0->x.page=0):qq (zbp n x) n=x:=by unfold zbp;rw[kE h];unfold qq;obtain⟨_,_,_,_,_,_⟩:=x;grind
theorem zrj{x:On}(h:x.is=Xc):Qb (zbp k x) b=Xc↔b=k:=by rw[q7];unfold zbp;rw[kE h];simp only;omega
theorem J.new{f:Nat->On}{n:Nat}{a:List Ar}(h:J f n a)(d:zj4 f)(i:n<64)(e:(f n).is=Xc)(g:∀b,a.getLast?=Xa b->goB (zbp n (f n)) b=Xd):J f (n+1) (a++[zbp n (f n)]):=by
 have c:=(d n i).2 e;have d:qq (zbp n (f n)) n=f n:=zpZ n _ e fun d=>by grind[jS,zbp]
 refine⟨zaT.2 ⟨h.1,c,fun b c=>?_⟩,fun e d=>?_,fun k=>?_⟩
 ·have c:a.getLast?=Xa b:=by grind[zaG]
  refine⟨?_,g b c⟩;have:=h.2.1 b (Yv c);grind[zbp]
 ·rcases Yd.1 d with d|d
  ·have:=h.2.1 e d;omega
  grind[Uv,zbp]
 have a:=h.2.2 k;grind[zaE,zrj,Qb,zbp]
theorem J.ext{f:Nat->On}{n:Nat}{i:List Ar}{b:Ar}(a:J f n (i++[b]))(e:zj4 f)(g:n<64)(h:(f n).is=Xc)(d:goB (zbp n (f n)) b=Xc):J f (n+1) (i++[{b with tz:=(n:Int)+1}]):=by
 have c:=(e n g).2 h;obtain⟨g,e,B⟩:=a;obtain⟨v,e,s⟩:=zaT.1 g;have a:=zev.1 d;unfold zbp at a c;rw[kE h]at a c;simp only at a;obtain⟨d,j,m,p,q,t⟩:=a;have a:=e;unfold jS at a c;simp only at c;have a:∀k:Nat,b.fr<=(k:Int)->zr i k=on0:=fun k w=>by
  refine zb4 fun r u=>zeW ?_;have:r.tz<=b.fr:=by
   have g:∀(l:List Ar)(a:Option Ar),Jh a l->∀x∈l,∀y,zaG a l=Xa y->x.tz<=y.tz:=by
    intro l;induction l with
    |nil=>intro a _ x d;cases d
    |cons A z l=>
     intro a a x d y e;rw[zcI]at e;rcases mC.1 d with rfl|d
     ·cases z with
      |nil=>simp[zaG]at e;subst e;exact Int.le_refl _
      |cons z C=>
       have C:=l (Xa x) a.2.2 z Sm y e;have z:=a.2.2.2.1 x rfl;have D:=a.2.2.1;unfold zro at z;unfold jS at D;omega
     exact l (Xa A) a.2.2 x d y e
   cases a:zaG Xb i with
   |none=>
    unfold zaG at a;cases i with
    |nil=>cases u
    |cons _ _=>simp[Uu]at a
   |some y=>
    have C:=g i Xb v r u y a;have z:=(s y a).1;omega
  omega
 refine⟨zaT.2 ⟨v,?_,fun y e=>?_⟩,fun r u=>?_,fun k=>?_⟩;·grind[jS]
 ·exact⟨(s y e).1,(s y e).2⟩
 ·grind
 have a:=B k;rw[zaE (by grind[zeW])]at a;rw[zaE (by grind[zeW])];by_cases w:k=n
 ·subst w;rw[kE (by rw[q7];simp only;omega),kE Wm];unfold qq;simp only;have d:=c.2.2.2.2.2.2.1;revert h j m p q t d;generalize f k=x;obtain⟨_,_,_,_,_,_⟩:=x;intro h j m p q t d;simp only at h j m p q t d⊢;subst h j m p;simp only[On.mk.injEq,true_and];refine⟨q.symm,?_⟩;split;·grind
  grind
 grind[Qb,qq]
def zgC(f:Nat->On):Nat->List Ar
 |0=>[]
 |n+1=>
  if(f n).is=Xc then
   match(zgC f n).getLast? with
   |some b=>if goB (zbp n (f n)) b=Xc then(zgC f n).dropLast++[{b with tz:=(n:Int)+1}]else zgC f n++[zbp n (f n)]
   |none=>zgC f n++[zbp n (f n)]
  else zgC f n
theorem zi6{l:List Ar}{b:Ar}(h:l.getLast?=Xa b):l=l.dropLast++[b]:=by
 cases l with
 |nil=>cases h
 |cons a m=>
  rw[List.getLast?_eq_some_getLast (List.cons_ne_nil a m)]at h;cases h;exact(List.dropLast_concat_getLast _).symm
theorem znh{f:Nat->On}(c:zj4 f):∀n:Nat,n<=64->J f n (zgC f n)
 |0,_=>J.zero f
 |n+1,a=>by
  have d:=znh c n Wm
  unfold zgC;by_cases b:(f n).is=Xc
  ·rw[kE b]
   cases e:(zgC f n).getLast? with
   |none=>exact d.new c Wm b (fun g a=>by rw[e]at a;cases a)
   |some g=>
    simp only;by_cases a:goB (zbp n (f n)) g=Xc;·rw[kE a];rw[zi6 e]at d;exact d.ext c Wm b a
    rw[kF a];refine d.new c Wm b (fun g g=>?_);rw[e]at g;cases g;simpa using a
  rw[kF b];exact d.skip ((c n Wm).1 (Si b))
def Q5(f:Nat->On):List Ar:=zgC f 64
theorem zeq{f:Nat->On}(a:zj4 f):J f 64 (Q5 f):=znh a 64 (nR _)
theorem J.all{f:Nat->On}{a:List Ar}(h:J f 64 a)(b:zj4 f):a=Q5 f:=
 zjQ h.1 (zeq b).1 fun n _=>by rw[h.2.2,(zeq b).2.2]
theorem zh0{f:Nat->On}(a:zj4 f):Jh Xb (Q5 f):=(zeq a).1
theorem zgD{f:Nat->On}(a:zj4 f){k:Nat}(b:k<64):zr (Q5 f) k=f k:=by rw[(zeq a).2.2,kE b]
theorem zkv{f:Nat->On}{l:List Ar}(a:zj4 f)(b:Jh Xb l)(c:∀k,k<64->f k=zr l k):Q5 f=l:=
 zjQ (zh0 a) b fun n b=>by rw[zgD a b,c n b]
theorem J.len{f:Nat->On}{n:Nat}{a:List Ar}(i:J f n a):a.length<=n:=by
 have h:∀(l:List Ar)(p:Option Ar)(c:Int),Jh p l->(∀b,p=Xa b->c<=b.tz)->(p=Xb->c<=0)->(∀d∈l,d.tz<=(n:Int))->c<=n->c+l.length<=n:=by
  intro l;induction l with
  |nil=>intro p c _ _ _ _ k;simpa using k
  |cons d l m=>
   intro p c e l g j k;have k:=e.1;unfold jS at k;have k:c<=d.fr:=by
    cases p with
    |none=>have:=g rfl;omega
    |some b=>have:=l b rfl;have:=(e.2.1 b rfl).1;omega
   have g:=m (Xa d) (c+1) e.2.2 (fun b c=>by cases c;omega) (fun c=>by cases c) (fun x e=>j x (by simp[e])) (Hm (j d Sm));rw[Yi];omega
 have:=h a Xb 0 i.1 (fun b c=>by cases c) (fun _=>Wm) i.2.1 Wm;omega
def goJ(x y:On):Bool:=y.is==x.is&&y.rd==x.rd&&y.wr==x.wr&&y.sh==x.sh&&decide (y.file=x.file)&&decide ((if 0<=x.file then y.page+1 else y.page)=x.page)
theorem znt{x y:On}:goJ x y=Xc↔y.is=x.is/\y.rd=x.rd/\y.wr=x.wr/\y.sh=x.sh/\y.file=x.file/\(if 0<=x.file then y.page+1 else y.page)=x.page:=by grind[goJ]
theorem zgA:∀(l:List Ar)(p:Option Ar),Jh p l->∀x∈l,∀y,zaG p l=Xa y->x=y\/x.tz<=y.fr
 |[],_,_,_,a,_,_=>by cases a
 |c::m,p,f,x,a,y,b=>by
  rw[zcI]at b
  rcases mC.1 a with e|a
  ·cases m with
   |nil=>simp[zaG]at b;left;rw[e,b]
   |cons d g=>
    right;have h:=f.2.2.2.1 c rfl;have i:=f.2.2.1;unfold zro at h;unfold jS at i;rw[e]
    rcases zgA (d::g) (Xa c) f.2.2 d Sm y b with g|g;·rw[<-g];exact h.1
    omega
  exact zgA m (Xa c) f.2.2 x a y b
theorem J.last{f:Nat->On}{n:Nat}{a:List Ar}(h:J f (n+1) a)(i:(f n).is=Xc):∃b,a.getLast?=Xa b/\b.tz=(n:Int)+1/\f n=qq b n/\jS b:=by
 have g:=h.2.2 n;rw[kE Wm]at g;obtain⟨c,c,e,d,k⟩:=QZ (l:=a) (n:=n) (Rx g i);have i:=q7.1 d;have d:=mG e;have e:=h.2.1 c d;have j:c.tz=(n:Int)+1:=Wm;cases e:a.getLast? with
 |none=>rw[List.getLast?_eq_none_iff]at e;rw[e]at d;cases d
 |some y=>
  have m:zaG Xb a=Xa y:=by unfold zaG;rw[e]
  have i:c=y:=by
   rcases zgA a Xb h.1 c d y m with q|q;·exact q
   have a:=h.1.all y (Yv e);have m:=h.2.1 y (Yv e);unfold jS at a;omega
  subst i;exact⟨c,rfl,j,by rw[<-g,k],h.1.all c d⟩
theorem J.go{f:Nat->On}{n:Nat}{a:List Ar}(h:J f (n+1) a)(k:(f (n+1)).is=Xc):(goJ (f (n+1)) (f n)=Xc->∃b,a.getLast?=Xa b/\goB (zbp (n+1) (f (n+1))) b=Xc)/\(goJ (f (n+1)) (f n)=Xd->∀b,a.getLast?=Xa b->goB (zbp (n+1) (f (n+1))) b=Xd):=by
 constructor
 ·intro g;obtain⟨c,d,d,d,d,d⟩:=znt.1 g;obtain⟨b,e,t,p,u⟩:=h.last (Rx c k);refine⟨b,e,zev.2 ?_⟩;grind[zbp,qq,jS]
 intro g b q;cases d:goB (zbp (n+1) (f (n+1))) b with
 |false=>rfl
 |true=>
  exfalso;have c:=zev.1 d;unfold zbp at c;rw[kE k]at c;simp only at c;obtain⟨d,x,y,z,r,s⟩:=c;have c:=Yv q;have i:=h.1.all b c;have d:=i;unfold jS at d;have j:(f n).is=Xc:=by
   have m:=h.2.2 n;rw[kE Wm]at m;cases v:(f n).is with
   |true=>rfl
   |false=>
    exfalso;have:∀(l:List Ar),b∈l->(zr l n).is=Xc:=by
     intro l;induction l with
     |nil=>intro d;cases d
     |cons l i w=>
      intro d;by_cases i:Qb l n=Xc;·rw[zr,kE i];rfl
      rw[zr,kF i];rcases mC.1 d with l|d;·subst l;exact absurd (q7.2 Wm) i
      exact w d
    have:=this a c;rw[m,v]at this;cases this
  obtain⟨a,e,t,p,u⟩:=h.last j;rw[q]at e;cases e;have:goJ (f (n+1)) (f n)=Xc:=by
   rw[znt,p];unfold qq;simp only;refine⟨k.symm,x.symm,y.symm,z.symm,r.symm,?_⟩;rw[r];by_cases a:0<=b.file;·rw[kE a]at s;rw[kE a,kE a];omega
   rw[kF a]at s;rw[kF a,kF a];omega
  rw[this]at g;cases g
theorem J.first{f:Nat->On}{a:List Ar}(h:J f 0 a):a=[]:=Ox.1 (Hm h.len)
def zbL:Option Ar->List Ar->Nat->Int×Int
 |_,[],_=>(0,0)
 |p,a::l,i=>
  if arW a≠0 then(arW a,i)
  else match p with
   |some b=>if a.fr<b.tz\/goB a b=Xc then(2,i)else zbL (Xa a) l (i+1)
   |none=>zbL (Xa a) l (i+1)
def wrL(l:List Ar):Int×Int:=if 16<l.length then(4,0)else zbL Xb l 0
theorem zdO:∀{l:List Ar}{p:Option Ar}{i:Nat},(zbL p l i).1=0↔Jh p l
 |[],p,i=>by simp[zbL,Jh]
 |a::l,p,i=>by
  unfold zbL Jh
  by_cases h:arW a=0
  ·rw[kF (fun c=>c h)]
   cases p with
   |none=>simp[zdO (l:=l),QG.1 h]
   |some b=>
    simp only
    by_cases c:a.fr<b.tz\/goB a b=Xc
    ·rw[kE c];simp only[Option.some.injEq,forall_eq'];constructor
     ·intro d;exact absurd d Dc
     rintro⟨_,⟨d,e⟩,_⟩
     rcases c with c|c
     ·omega
     rw[e]at c;cases c
    rw[kF c,zdO];simp only[Option.some.injEq,forall_eq',QG.1 h,true_and];constructor
    ·intro d;exact⟨⟨Wm,by cases e:goB a b with|false=>rfl|true=>exact absurd (.inr e) c⟩,d⟩
    exact fun d=>d.2
  rw[kE h];constructor
  ·intro c;exact absurd c h
  intro c;exact absurd (QG.2 c.1) h
theorem jJ{l:List Ar}:(wrL l).1=0↔l.length<=16/\Jh Xb l:=by grind[wrL,zdO]
def zjq(l:List Ar)(a:Ar):Nat->On:=fun k=>if Qb a k=Xc then qq a k else zr l k
def zka(s n:Int)(k:Nat):Bool:=decide (s<=(k:Int))&&decide ((k:Int)<s+n)
theorem zk5{n:Int}:zka z n k=Xc↔z<=(k:Int)/\(k:Int)<z+n:=by simp[zka]
def zjH(f:Nat->On):List Ar×Int:=if 16<(Q5 f).length then([],4)else(Q5 f,0)
def zoE(l:List Ar)(s n:Int):Bool:=(Xv 64).any fun k=>zka s n k&&(zr l k).is
def zej(l:List Ar)(a:Ar):List Ar×Int:=if(wrL l).1≠0 then([],(wrL l).1)else if arW a≠0 then([],arW a)else if zoE l a.fr (a.tz-a.fr)=Xc then([],6)else zjH (zjq l a)
theorem zpm{l:List Ar}{s n:Int}:zoE l s n=Xc↔∃k:Nat,k<64/\(s<=(k:Int)/\(k:Int)<s+n)/\(zr l k).is=Xc:=by simp[zoE,zka]
theorem zqO{l:List Ar}{s n:Int}:zoE l s n=Xd↔∀k:Nat,k<64->(s<=(k:Int)/\(k:Int)<s+n)->(zr l k).is=Xd:=by simp only[zoE,Yu,Xs,Ya,zk5,not_and,Bool.not_eq_true]
theorem zb8{l:List Ar}{a:Ar}(e:Jh Xb l)(c:jS a):zj4 (zjq l a):=fun k d=>by
 unfold zjq;by_cases h:Qb a k=Xc;·rw[kE h];exact⟨fun b=>(by cases b),fun _=>zdy c h⟩
 rw[kF h];exact e.good k d
theorem zq3{f:Nat->On}(h:(zjH f).2=0):zjH f=(Q5 f,0)/\(Q5 f).length<=16:=by grind[zjH,Q5]
theorem zr7{f:Nat->On}(a:zj4 f)(h:(Q5 f).length<=16):(wrL (Q5 f)).1=0:=jJ.2 ⟨h,zh0 a⟩
theorem zjr{l:List Ar}{a:Ar}(h:(zej l a).2=0):(wrL l).1=0/\arW a=0/\zoE l a.fr (a.tz-a.fr)=Xd/\(Q5 (zjq l a)).length<=16/\(zej l a).1=Q5 (zjq l a):=by grind[zej,wrL,arW,zoE,zq3]
theorem zrz{a b:Ar}(hb:jS b)(g:jS a)(j:b.tz<=a.fr):decide ((Q5 (zr [b,a])).length<2)=goB a b:=by
 have c:=g;have d:=hb;unfold jS at c d;have c:zj4 (zr [b,a]):=fun k _=>⟨zgs,fun e=>by grind[QZ,mG,zdy]⟩;cases h:goB a b with
 |true=>
  obtain⟨e,e,e,e,e,i⟩:=zev.1 h;have f:Jh Xb [{b with tz:=a.tz}]:=by
   refine⟨?_,fun x e=>(by cases e),trivial⟩;unfold jS;simp only;refine⟨Wm,Wm,Wm,Wm,Wm,Wm,d.2.2.2.2.2.2.1,fun d=>?_⟩;rw[kE d]at i;omega
  rw[zkv c f fun k d=>?_];·rfl
  grind[qq,zr,Qb]
 |false=>
  have f:Jh Xb [b,a]:=⟨hb,fun x e=>(by cases e),g,fun x e=>(by cases e;exact⟨j,h⟩),trivial⟩;rw[zkv c f fun _ _=>rfl];rfl
structure Sp where
 aD:Bool
 aC:List Ar
 tb:List (List En)
structure Ca where
 file:Int
 idx:Int
 fr:Int
structure Ma where
 fs:List Fr
 aB:Int
 sl:List Int
 sb:List (List Int)
 sq:List (Int×List Int)
 db:List (List Int)
 dq:List (Int×List Int)
 fl:List Fl
 cnt:Int
 ca:List Ca
 sp:List Sp
def zG:List Int->Int
 |[]=>0
 |e::l=>if e=0 then zG l else e
theorem zk:∀{l:List Int},zG l=0↔∀e∈l,e=0
 |[]=>by simp[zG]
 |e::l=>by
  unfold zG
  by_cases h:e=0
  ·rw[kE h,zk]
   simp[h]
  rw[kF h]
  simp[h]
def zaU(m:Ma):Int:=if(Xv m.db.length).any (fun(b:Nat)=>!z4 m.fl (b:Int)&&!(m.db.getD b []==zt))=Xc then 7 else 0
def zaz(m:Ma):Int:=if m.dq.any (fun q=>!z4 m.fl q.1)=Xc then 7 else 0
def spE(s:Sp):Int:=if(wrL s.aC).1≠0 then(wrL s.aC).1 else if tbW s.tb≠0 then tbW s.tb else if(!s.aD&&(!s.aC.isEmpty||!s.tb.all (·.isEmpty)))=Xc then 7 else 0
def znI(m:Ma):Int:=if m.sl.length≠m.sb.length\/m.cnt≠(m.db.length:Int)then 7 else 0
def zak(m:Ma):Int:=zG [ZR m.fs m.aB,slW m.sl,zS m.sb.length m.sq,zS m.db.length m.dq,stW m.fl m.cnt,znI m,zaU m,zaz m,if 4<m.sp.length then 4 else 0,zG (m.sp.map spE)]
def bkN(m:Ma)(file:Int):Int:=((m.fl.getD file.toNat ⟨0,[]⟩).bl.length:Nat)
def z1(m:Ma)(k:Int):Fr:=m.fs.getD k.toNat frF
def zZ(c:Ca):Int:=100*c.file+c.idx
def caE(m:Ma)(p:Option Ca)(c:Ca):Int:=
 if c.file<0\/(m.fl.length:Int)<=c.file\/c.idx<0\/bkN m c.file<=c.idx\/c.fr<0\/(m.fs.length:Int)<=c.fr then 3
 else if(z1 m c.fr).r=0\/(z1 m c.fr).f≠c.file\/(z1 m c.fr).x≠c.idx then 7
 else match p with|some q=>(if zZ c<=zZ q then 2 else 0)|none=>0
def zbh(m:Ma):Option Ca->List Ca->Int
 |_,[]=>0
 |p,c::l=>if caE m p c=0 then zbh m (Xa c) l else caE m p c
def zah(m:Ma)(x:On)(e:En):Int:=
 if x.is=Xd then 5
 else if e.kind=2 then(if(m.sl.length:Int)<=e.n\/x.sh=Xc then 7 else 0)
 else if(m.fs.length:Int)<=e.n then 3
 else if(¬(z1 m e.n).f=-1/\¬(0<=x.file/\(z1 m e.n).f=x.file/\(z1 m e.n).x=x.page))\/(x.sh=Xc/\¬(0<=x.file/\(z1 m e.n).f=x.file/\(z1 m e.n).x=x.page))\/(e.wr=Xc/\x.wr=Xd)\/(e.wr=Xc/\(0<=x.file/\(z1 m e.n).f=x.file/\(z1 m e.n).x=x.page)/\x.sh=Xd)\/(e.wr=Xc/\(z1 m e.n).f=-1/\1<(z1 m e.n).r)then 7 else 0
def ze(s:Sp)(n:Nat):En:=zbg s.tb (n/8) (n%8)
def zdV(m:Ma)(s:Sp):Int:=zG ((Xv 64).map fun n=>if(ze s n).kind=0 then 0 else zah m (zr s.aC n) (ze s n))
def isE(e:En)(kind k:Int):Bool:=decide (e.kind=kind)&&decide (e.n=k)
def Zw(f:Nat->En)(kind k:Int):Nat->Nat
 |0=>0
 |n+1=>Zw f kind k n+(isE (f n) kind k).toNat
def qK(T:List (Nat->En))(kind k:Int):Nat:=(T.map fun f=>Zw f kind k 64).sum
def Qz(m:Ma)(kind k:Int):Nat:=qK (m.sp.map ze) kind k
def zN(ca:List Ca)(k:Int):Nat:=ca.countP fun c=>decide (c.fr=k)
def frE(m:Ma)(k:Nat):Int:=if(z1 m k).r≠((Qz m 1 k+zN m.ca k:Nat):Int)\/(0<=(z1 m k).f/\zN m.ca k=0)then 7 else 0
def zlc(m:Ma)(k:Nat):Int:=if m.sl.getD k 0≠(Qz m 2 k:Int)then 7 else 0
def maW(m:Ma):Int:=zG [zak m,zbh m Xb m.ca,zG (m.sp.map (zdV m)),zG ((Xv m.fs.length).map (frE m)),zG ((Xv m.sl.length).map (zlc m))]
def jG(f:Nat->En)(n:Nat)(e:En):Nat->En:=fun j=>if j=n then e else f j
theorem zn8(f:Nat->En){n:Nat}(e)(kind k:Int):∀m:Nat,Zw (jG f n e) kind k m+(if n<m then(isE (f n) kind k).toNat else 0)=Zw f kind k m+(if n<m then(isE e kind k).toNat else 0)
 |0=>by simp[Zw]
 |m+1=>by
  have b:=zn8 f e kind k (n:=n) m;unfold Zw
  by_cases h:n=m
  ·subst h;rw[kF (Nat.lt_irrefl _),kF (Nat.lt_irrefl _)]at b;rw[kE (Nat.lt_succ_self _),kE (Nat.lt_succ_self _)];have:jG f n e n=e:=(by unfold jG;rw[kE rfl]);rw[this];omega
  have:jG f n e m=f m:=by unfold jG;rw[kF (fun a=>h a.symm)]
  rw[this];by_cases a:n<m
  ·rw[kE a,kE a]at b;rw[kE Wm,kE Wm];omega
  rw[kF a,kF a]at b;rw[kF Wm,kF Wm];omega
theorem ZI:∀{T:List (Nat->En)}{p:Nat}{f:Nat->En}{n:Nat}(e:En)(kind k:Int),T[p]?=Xa f->n<64->qK (T.set p (jG f n e)) kind k+(isE (f n) kind k).toNat=qK T kind k+(isE e kind k).toNat
 |[],p,f,n,e,kind,k,h,_=>by simp at h
 |g::T,0,f,n,e,kind,k,h,a=>by
  simp at h
  subst h;have:=zn8 g e kind k (n:=n) 64;rw[kE a,kE a]at this;simp only[sZ,qK,mP,Ov];omega
 |g::T,p+1,f,n,e,kind,k,h,a=>by
  have b:=ZI (T:=T) (p:=p) (f:=f) (n:=n) e kind k (Si h) a;simp only[sS,qK,mP,Ov]at b⊢;omega
theorem zoa(f:Nat->En)(kind k:Int):∀m:Nat,Zw f kind k m<=m
 |0=>nR _
 |m+1=>by
  have:=zoa f kind k m;unfold Zw
  cases isE (f m) kind k<;>simp<;>omega
theorem zaI:∀(T:List (Nat->En))(kind k:Int),qK T kind k<=64*T.length
 |[],_,_=>by simp[qK]
 |f::T,kind,k=>by
  have a:=zoa f kind k 64;have a:=zaI T kind k;simp only[qK,mP,Ov,Yi]at a⊢;omega
theorem qZ(kind k:Int)(h:kind≠0):isE en0 kind k=Xd:=by have:¬en0.kind=kind:=fun e=>h e.symm;simp[isE,this]
theorem za5{T:List (Nat->En)}{f:Nat->En}{n:Nat}{kind k:Int}(a:T[p]?=Xa f)(b:n<64)(h:isE (f n) kind k=Xc)(c:kind≠0):1<=qK T kind k:=by have:=ZI en0 kind k a b;grind[qZ]
theorem zcf{T:List (Nat->En)}{p q:Nat}{f g:Nat->En}{n:Nat}{kind k:Int}(b:T[p]?=Xa f)(e:n<64)(h:isE (f n) kind k=Xc)(l:T[q]?=Xa g)(i:j<64)(d:isE (g j) kind k=Xc)(a:p≠q\/n≠j)(c:kind≠0):2<=qK T kind k:=by
 have a:=ZI en0 kind k b e;rw[h,qZ kind k c]at a;simp at a;have a:=(gS.1 b).1;by_cases e:q=p;·grind[qK,jG,en0,za5,sF]
 have a:1<=qK (T.set p (jG f n en0)) kind k:=za5 (p:=q) (f:=g) (n:=j) (by rw[sN (fun h=>e h.symm)];exact l) i d c;omega
theorem zh5(T:List (Nat->En))(kind k:Int)(a:kind≠0):qK (T++[fun _=>en0]) kind k=qK T kind k:=by
 have:∀m,Zw (fun _=>en0) kind k m=0:=by
  intro m;induction m with
  |zero=>rfl
  |succ m b=>
   unfold Zw;rw[b,qZ kind k a];rfl
 grind[qK]
end
variable{H:Ar}{Z:En}{Y:Fr}{G:List (List En)}{l:List Ar}{C:List En}{M:List Fl}{R:List Fr}{m:Ma}{d:Nat->En}{F:Nat->On}{s:Sp}
section
open Go.RowKit
def zc(w w':Xn):Prop:=Below w.heap.size w w'
theorem zc.refl(w):zc w w:=bR _ _
theorem zc.trans{b c:Xn}(h:zc w b)(k:zc b c):zc w c:=Below.trans h (k.mono h.size)
def zO(P:Program)(o:Oper)(a:Act)(w:Xn)(K:Xq->Xn->Prop):Prop:=
 match(execOp a.eval o).run P w with
 |.ok (.value v) w'=>K v w'
 |.ok .skip w'=>K undef w'
 |.ok (.enter f args) w'=>Xp P f args w' fun e w''=>∃v,e=Xl v/\K v w''
 |_=>False
theorem zO.wp{next:Act->Xn->Prop}
  (h:zO V o a w N)(b:∀v w',N v w'->next (a.put o.dst v) w'):o.wp V a w next Q:=by
 unfold zO at h;unfold Oper.wp;generalize(execOp a.eval o).run V w=r at*;cases r with
 |ok n w'=>
  cases n<;>simp only[Oper.upon]at h⊢
  case value v=>exact b _ _ h
  case skip=>exact b _ _ h
  case enter f c=>exact h.mono fun e c⟨v,c,d⟩=>by subst c;exact b _ _ d
 |halt x w'=>simp only at h
def zl1(ops:Array Oper)(i j:Nat):Bool:=((ops[j]?).map fun o=>o.after.any fun e=>Gb .any e&&e.on==i).getD Xd
def anc(ops:Array Oper):Nat->Nat->Nat->Bool
 |0,_,_=>Xd
 |f+1,i,j=>zl1 ops i j||(Xv j).any fun k=>zl1 ops k j&&anc ops f i k
theorem zO.mono{c:Xq->Xn->Prop}(h:zO V o a w N)(b:∀v w',N v w'->c v w'):zO V o a w c:=by
 unfold zO at*;generalize(execOp a.eval o).run V w=r at*;cases r with
 |ok n w'=>
  cases n<;>simp only at h⊢
  case value v=>exact b _ _ h
  case skip=>exact b _ _ h
  case enter f c=>exact h.mono fun e c⟨v,c,d⟩=>⟨v,c,b _ _ d⟩
 |halt x w'=>simp only at h
def zew(F:Nat->Xn->Prop)(k:Nat)(p:Xn->Prop):Nat->Xn->Prop:=fun i=>if i=k then p else F i
section
variable{P:Program}{ops:Array Oper}{T:Nat}
theorem QN{F:Nat->Xn->Prop}{p:Xn->Prop}(h:b≠k):zew F k p b=F b:=by simp[zew,h]
theorem znv{F:Nat->Xn->Prop}{p q:Xn->Prop}(h:k≠j):zew (zew F k p) j q=zew (zew F j q) k p:=by grind[zew]
theorem zeH(a:ops[j]?=Xa o):zl1 ops k j=Xc↔∃e∈o.after,Gb .any e=Xc/\e.on=k:=by unfold zl1;rw[a,Option.map_some,Option.getD_some,Array.any_eq_true'];simp
theorem zij(h:zl1 ops k j=Xc):∃a,ops[j]?=Xa a:=by
 cases b:ops[j]? with
 |none=>simp[zl1,b]at h
 |some a=>exact⟨a,rfl⟩
def zix(ops:Array Oper)(listed:Array Bool):Prop:=∀i j,listed.getD j Xd=Xc->zl1 ops i j=Xc->listed.getD i Xd=Xc
theorem JR{a:Array Bool}(b:zix ops a):∀(f i j:Nat),(∀k,zl1 ops k j=Xc->a.getD k Xd=Xc)->anc ops f i j=Xc->a.getD i Xd=Xc
 |0,_,_,_,h=>by simp[anc]at h
 |f+1,i,j,c,h=>by
  simp only[anc,Ug,Ye,Xs,Ya]at h
  rcases h with h|⟨k,_,a,h⟩
  ·exact c i h
  exact JR b f i k (fun m d=>b m k (c k a) d) h
theorem zaM{a:Array Bool}(h:a.getD k Xc=Xd):a.getD k Xd=Xd:=by grind
end
def Jy(ops:Array Oper)(T:Nat):Bool:=
 Region.noSelect ops&&decide (T<=ops.size)&&(Xv ops.size).all fun j=>match ops[j]? with
  |none=>Xd
  |some oj=>oj.after.all (fun e=>!Gb .any e||decide (e.on<j))&&
    (if j<T then(Xv j).all fun i=>zl1 ops i j||(match ops[i]? with|some oi=>oi.apart ops oj|none=>Xd)else(Xv j).all fun i=>anc ops j i j)
def qD(listed:Array Bool)(T:Nat):List Nat:=(Xv T).filter fun i=>listed.getD i Xc==Xd
section
variable{P:Program}{ops:Array Oper}{T:Nat}
theorem za3(a:Jy ops T=Xc)(b:ops[j]?=Xa oj):∀i,zl1 ops i j=Xc->i<j:=by simp only[Jy,Ya,Yn,Xs]at a;have h:=a.2 j (aS.1 b).1;simp only[b,Ya]at h;grind[zeH,Array.all_eq_true_iff_forall_mem.1]
theorem zjt(b:Jy ops T=Xc)(c:ops[j]?=Xa oj)(a:j<T):∀i,i<j->zl1 ops i j=Xc\/∃a,ops[i]?=Xa a/\a.apart ops oj=Xc:=by simp only[Jy,Ya,Yn,Xs]at b;grind
theorem zfG(a:Jy ops T=Xc)(c:ops[j]?=Xa oj)(b:T<=j):∀i,i<j->anc ops j i j=Xc:=by simp only[Jy,Ya,Yn,Xs]at a;grind
theorem zor(a:Jy ops T=Xc):∀(f i j:Nat),anc ops f i j=Xc->i<j
 |0,_,_,h=>by simp[anc]at h
 |f+1,i,j,h=>by
  simp only[anc,Ug,Ye,Xs,Ya]at h
  rcases h with h|⟨k,b,_,h⟩
  ·obtain⟨oj,b⟩:=zij h;exact za3 a b i h
  have:=zor a f i k h;omega
theorem zbT{a:Array Bool}(b:j<a.size):qD (a.setIfInBounds j Xc) T=(qD a T).filter (· !=j):=by
 unfold qD;rw[Uw];refine List.filter_congr fun i a=>?_;by_cases h:j=i
 ·subst h
  simp[b]
 rw[getD_set_ne Xc h];grind
theorem zjA{a:Array Bool}(hi:k<a.size)(h:a.getD k Xc=Xc):a.getD k Xd=Xc:=by simp[hi]at h⊢;exact h
theorem zk4(z:Jy ops T=Xc):∀(m:Nat)(l:List Oper)(k:Nat)(b:Array Bool)(a:Act)(w:Xn),T<=k->b.size=ops.size->k+m=ops.size->l.length=m->(∀j,l[j]?=ops[k+j]?)->
  (∀i,i<k->b.getD i Xc=Xc)->(∀i,k<=i->i<ops.size->b.getD i Xc=Xd)->wpList P ops Q l a w->wpAny P .any ops Q m b a w:=by
 intro m;induction m with
 |zero=>
  intro l k b a w n v p x g d c h;have:l=[]:=eN x;subst this;refine⟨?_,h⟩;cases s:Ua .any ops b with
  |nil=>rfl
  |cons f e=>
   have t:f∈Ua .any ops b:=(by rw[s];simp);obtain⟨r,e,q,_⟩:=mem_ready.1 t;have t:=(aS.1 q).1;rw[d f Wm]at r;cases r
 |succ m F=>
  intro l k b a w n v p x g d c h;obtain⟨e,q,rfl⟩:∃e q,l=e::q:=by
   cases l with
   |nil=>simp at x
   |cons e q=>exact⟨e,q,rfl⟩
  have f:ops[k]?=Xa e:=by have:=g 0;simpa using this.symm
  have p:k∈Ua .any ops b:=by
   refine mem_ready.2 ⟨c k (nR _) Wm,e,f,fun n B A=>?_⟩;have t:=za3 z f n.on ((zeH f).2 ⟨n,B,A,rfl⟩);exact zjA Wm (d n.on t)
  refine⟨fun s=>?_,fun j u=>?_⟩;·rw[s]at p;cases p
  obtain⟨r,e,e,s⟩:=mem_ready.1 u;have p:=(aS.1 e).1;have p:k<=j:=by
   rcases Yo j k with p|p;·rw[d j p]at r;cases r
   exact p
  have C:j=k:=by
   rcases Yo k j with p|p
   ·exfalso;have D:=zfG z e Wm k p;have E:zix ops b:=fun i p y r=>by
     obtain⟨u,u⟩:=zij r;have t:=za3 z u i r;have r:p<k:=by
      rcases Yo p k with r|r;·exact r
      have:=zaM (c p r (aS.1 u).1);rw[this]at y;cases y
     exact zjA Wm (d i Wm)
    have:=JR E j k j (fun p y=>by
     obtain⟨n,B,A,rfl⟩:=(zeH e).1 y;exact s n B A) D
    rw[zaM (c k (nR _) Wm)]at this;cases this
   omega
  subst C;rw[f]at e;cases e;unfold wpList at h;unfold wpOp;simp only[f];have e:∀a w,wpList P ops Q q a w->wpAny P .any ops Q m (b.setIfInBounds j Xc) a w:=fun a w f=>
   F q (j+1) _ a w Wm (by simp[v]) Wm (Si x) (fun p=>by have:=g (p+1);rw[List.getElem?_cons_succ]at this;rw[this];congr 1;omega)
    (fun i g=>by
     by_cases n:j=i
     ·subst n
      simp[show j<b.size by omega]
     rw[getD_set_ne Xc n];exact d i Wm)
    (fun i g b=>by rw[getD_set_ne Xc Wm];exact c i Wm b) f
  split
  ·rename_i b
   rw[kE b]at h;rcases h with h|h;·exact .inl (Oper.wp_mono e h)
   exact .inr h
  rename_i b
  rw[kF b]at h;exact e _ _ h
structure Way{σ:Type}(P:Program)(ops:Array Oper)(C:Nat->σ->Act->(σ->Act->Prop)->Prop)(Ln:Nat->σ->Prop)(ok:Array Bool->σ->Act->Xn->Prop):Prop where
 mono:∀{i:Nat}{F:σ}{a:Act}{K K':σ->Act->Prop},(∀F' a',(∀j,anc ops 9 i j=Xd->Ln j F->Ln j F')->K F' a'->K' F' a')->C i F a K->C i F a K'
 swap:∀{i j:Nat}{oi oj:Oper}{F:σ}{a:Act}{K:σ->Act->Prop},ops[i]?=Xa oi->ops[j]?=Xa oj->i<j->oi.apart ops oj=Xc->(∀cs b,oi.op≠.select cs b)->(∀cs b,oj.op≠.select cs b)->anc ops 9 i j=Xd->anc ops 9 j i=Xd->Ln j F->C i F a (fun F' a'=>C j F' a' K)->C j F a fun F' a'=>C i F' a' K
 lean:∀{listed:Array Bool}{F:σ}{a:Act}{w:Xn}(j:Nat),ok listed F a w->Ln j F
 step:∀{listed:Array Bool}{F:σ}{a:Act}{w:Xn}{j:Nat}{oj:Oper}{K:σ->Act->Prop}{N:Act->Xn->Prop}{Q:Exit->Act->Xn->Prop},listed.size=ops.size->ops[j]?=Xa oj->listed.getD j Xc=Xd->zix ops listed->ok listed F a w->C j F a K->
  (∀F' a' w',ok (listed.setIfInBounds j Xc) F' a' w'->K F' a'->N a' w')->if Xt oj (yielded ops a.tmps)then oj.wp P a w N Q else N (a.put oj.dst undef) w
section
variable{σ:Type}{C:Nat->σ->Act->(σ->Act->Prop)->Prop}{Ln:Nat->σ->Prop}{ok:Array Bool->σ->Act->Xn->Prop}{E:σ->Act->Prop}
variable(C E)in
def Lex:List Nat->σ->Act->Prop
 |[],F,a=>E F a
 |i::l,F,a=>C i F a (Lex l)
theorem Lex.cN(W:Way P ops C Ln ok){oj:Oper}(t:ops[k]?=Xa oj)(d:∀(j:Nat)(o:Oper)cs b,ops[j]?=Xa o->o.op≠.select cs b):
  ∀(l:List Nat)(F:σ)(a:Act),l.Nodup->k∈l->
   (∀i∈l,i≠k->∃r,ops[i]?=Xa r/\(i<k->r.apart ops oj=Xc)/\anc ops 9 i k=Xd/\(i<k->anc ops 9 k i=Xd))->
   (l.Pairwise (·<·))->Ln k F->Lex C E l F a->Lex C E (k::l.filter (· !=k)) F a
 |[],_,_,_,h,_,_,_,_=>by cases h
 |i::l,F,a,p,h,g,c,v,u=>by
  by_cases e:i=k
  ·subst e;have:(i::l).filter (· !=i)=l:=by
    rw[List.filter_cons];simp only[bne_self_eq_false,Yp,if_false];refine Un.2 fun x m=>?_;have:x≠i:=fun f=>(Oi.1 p).1 (f▸m);simpa using this
   rw[this];exact u
  have n:k∈l:=by
   rcases mC.1 h with f|f;·exact absurd f.symm e
   exact f
  have h:=(Yc.1 c).1 k n;obtain⟨r,q,s,f,m⟩:=g i Sm e;have w:(i::l).filter (· !=k)=i::l.filter (· !=k):=by
   rw[List.filter_cons];have:(i !=k)=Xc:=Si e;simp[this]
  rw[w];refine W.swap q t h (s h) (fun cs b=>d i r cs b q) (fun cs b=>d k oj cs b t) f (m h) v ?_;refine W.mono (fun h m e q=>?_) u;exact Lex.cN W t d l h m (Oi.1 p).2 n (fun j d=>g j (by simp[d])) (Yc.1 c).2 (e k f v) q
theorem zhh(W:Way P ops C Ln ok){Q':Exit->Act->Xn->Prop}{l:List Oper}{m:Nat}(p:Jy ops T=Xc)(f:T+m=ops.size)(h:l.length=m)(e:∀j,l[j]?=ops[T+j]?)(n:∀b F a w,ok b F a w->E F a->wpList P ops Q' l a w):
  ∀(d:Nat)(b:Array Bool)(F:σ)(a:Act)(w:Xn),b.size=ops.size->(∀i,T<=i->i<ops.size->b.getD i Xc=Xd)->(qD b T).length=d->zix ops b->ok b F a w->
   Lex C E (qD b T) F a->wpAny P .any ops Q' (d+m) b a w:=by
 have A:=Region.noSelect_spec (ops:=ops) (by simp only[Jy,Ya]at p;exact p.1.1);intro d;induction d with
 |zero=>
  intro b F a w k g z v G D;have c:=eN z;rw[c]at D;rw[zA];refine zk4 p m l T b a w (nR _) k f h e (fun i y=>?_) g (n _ _ _ _ G D);cases f:b.getD i Xc with
  |true=>rfl
  |false=>
   have:i∈qD b T:=Xx.2 ⟨Xs.2 y,by simp only[f,beq_self_eq_true]⟩;rw[c]at this;cases this
 |succ d R=>
  intro b F a w k g z v G D;rw[Nat.add_right_comm];refine⟨fun u=>?_,fun j H=>?_⟩
  ·exfalso
   cases s:qD b T with
   |nil=>simp[s]at z
   |cons x S=>
    have K:x∈qD b T:=(by rw[s];simp);have h:=Xx.1 K;have L:=Xs.1 h.1;have c:x<ops.size:=Wm;have t:=Oq c;have c:(qD b T).Pairwise (·<·):=List.Pairwise.filter _ Ub;have:x∈Ua .any ops b:=by
     refine mem_ready.2 ⟨Si h.2,ops[x],t,fun r q B=>?_⟩;have e:zl1 ops r.on x=Xc:=(zeH t).2 ⟨r,q,B,rfl⟩;have n:=za3 p t _ e;cases f:b.getD r.on Xc with
     |true=>exact zjA Wm f
     |false=>
      have e:r.on∈qD b T:=Xx.2 ⟨Xs.2 Wm,by simp only[f,beq_self_eq_true]⟩;rw[s]at e c;rcases mC.1 e with e|e;·omega
      have:=(Yc.1 c).1 _ e;omega
    rw[u]at this;cases this
  obtain⟨M,e,e,u⟩:=mem_ready.1 H;have f:=(aS.1 e).1;have f:∀t,zl1 ops t j=Xc->b.getD t Xd=Xc:=fun t H=>by
   obtain⟨r,q,B,rfl⟩:=(zeH e).1 H;exact u r q B
  have u:j<T:=by
   rcases Yo j T with r|r;·exact r
   exfalso;cases s:qD b T with
   |nil=>simp[s]at z
   |cons x S=>
    have K:x∈qD b T:=(by rw[s];simp);have h:=Xx.1 K;have L:=Xs.1 h.1;have:=JR v j x j f (zfG p e r x Wm);rw[zaM (Si h.2)]at this;cases this
  have x:j∈qD b T:=Xx.2 ⟨Xs.2 u,by simp only[M,beq_self_eq_true]⟩
  have z:(qD b T).Nodup:=List.Pairwise.filter _ List.nodup_range;have c:(qD b T).Pairwise (·<·):=List.Pairwise.filter _ Ub;have s:=Lex.cN W e A (qD b T) F a z x (fun i y h=>by
   have h:=Xx.1 y;have B:b.getD i Xd=Xd:=zaM (Si h.2);have K:i<ops.size:=Hm (Xs.1 h.1);have A:=Oq K;refine⟨ops[i],A,fun n=>?_,?_,fun n=>?_⟩
   ·rcases zjt p e u i n with q|⟨n,n,u⟩
    ·have:=f i q;rw[B]at this;cases this
    rw[A]at n;cases n;exact u
   ·cases n:anc ops 9 i j with
    |false=>rfl
    |true=>
     have:=JR v 9 i j f n;rw[B]at this;cases this
   cases n:anc ops 9 j i with
   |false=>rfl
   |true=>
    have:=zor p 9 j i n
    omega) c (W.lean j G) D
  have p:(b.setIfInBounds j Xc).size=ops.size:=by simp[k]
  have n:∀i,T<=i->i<ops.size->(b.setIfInBounds j Xc).getD i Xc=Xd:=fun i y h=>by rw[getD_set_ne Xc Wm];exact g i y h
  have g:(qD (b.setIfInBounds j Xc) T).length=d:=by
   rw[zbT Wm];have q:(qD b T).filter (· !=j)=(qD b T).erase j:=by
    rw[List.Nodup.erase_eq_filter z]
   rw[q,Ow x];omega
  have q:zix ops (b.setIfInBounds j Xc):=fun i t H c=>by
   by_cases h:j=t;·subst h;exact getD_set_true (f i c)
   rw[getD_set_ne Xd h]at H;exact getD_set_true (v i t H c)
  rw[<-zbT Wm]at s;have c:=W.step (Q:=Q') (N:=wpAny P .any ops Q' (d+m) (b.setIfInBounds j Xc)) k e M v G s fun b d h r f=>R _ b d h p n g q r f;unfold wpOp;simp only[e];split
  ·rename_i b
   rw[kE b]at c;exact .inl c
  rename_i b
  rw[kF b]at c;exact c
variable(ops C E)in
structure ziG(l:List Oper)(k:Nat)(F:σ)(a:Act):Prop where
 out:(∀j,l[j]?=ops[k+j]?\/l.length<=j)->Lex C E (List.range' k l.length) F a
theorem ziG.cons{F:σ}(c:∀{i:Nat}{F:σ}{a:Act}{rest b:σ->Act->Prop},(∀d f,rest d f->b d f)->C i F a rest->C i F a b)(h:ops[k]?=Xa o->C k F a (ziG ops C E K (k+1))):ziG ops C E (o::K) k F a:=⟨fun g=>by
 have l:ops[k]?=Xa o:=by
  rcases g 0 with e|e;·grind
  simp at e
 have b:∀j,K[j]?=ops[k+1+j]?\/K.length<=j:=fun j=>by
  rcases g (j+1)with e|e;·grind
  grind
 exact c (fun d f c=>c.out b) (h l)⟩
theorem ziW{l r:List Oper}{F:σ}(W:Way P K.toArray C Ln ok)(T:Nat)(e:P.follows .mixedOrders=Xc)(p:Jy K.toArray T=Xc)(g:K.take T=l)(h:K.drop T=r)(d:T<=K.length)(n:∀b:Array Bool,ok b F a w.drew)
  (q:∀b F a w,ok b F a w->E F a->wpList P K.toArray Q r a w)(c:ziG K.toArray C E l 0 F a):(Code.region id K.toArray Xc).wp P Q a w:=by
 have b:l.length=T:=by rw[<-g,Oy];omega
 have d:r.length=K.length-T:=by rw[<-h,List.length_drop]
 refine wp_region_any e ?_;have k:qD (Array.replicate K.toArray.size Xd) T=Xv T:=by
  unfold qD;refine Un.2 fun i f=>?_;have:i<T:=Si f;simp[show i<K.length by omega]
 have e:=c.out (fun j=>by
  rcases Yo j T with c|c;·left;rw[<-g,List.getElem?_take_of_lt c];simp
  right;omega)
 rw[b,<-Ul]at e;have b:=zhh (E:=E) W (T:=T) (l:=r) (m:=K.length-T) (Q':=Q) p (by simp;omega) d (fun j=>by rw[<-h,Ux];simp) q
  T (Array.replicate K.toArray.size Xd) F a w.drew Sm (fun i f d=>by simp at d;simp[d]) (by rw[k];simp) (fun i j c _=>by
   exfalso;rw[Array.getD_eq_getD_getElem?,Array.getElem?_replicate]at c
   split at c<;>simp at c)
  (n _) (Rx k e)
 have c:T+(K.length-T)=K.toArray.size:=by simp;omega
 rw[c]at b;exact b
end
end
theorem J3:∀{S:List (Nat×α)}{k:Nat}{s:α},S.lookup k=Xa s->∃x∈S,x.2=s/\x.1=k
 |[],k,s,h=>by simp at h
 |x::S,k,s,h=>by
  rw[List.lookup_cons]at h
  split at h
  ·rename_i he
   exact⟨x,Sm,by simpa using h,(by simpa using he:k=x.1).symm⟩
  obtain⟨y,hy,he⟩:=J3 h;exact⟨y,by simp[hy],he⟩
structure zj(w0:Xn)where
 world:Xn
 aA:zc w0 world
def zoM(o:Oper):Bool:=
 match o.op with
 |.move _|.assign _|.pick ..|.build ..|.load ..|.binOp ..|.unOp ..|.convert ..|.fieldAddr ..|.field ..|.indexAddr ..|.index ..|.extract ..|.slice ..|.lookup ..=>Xc
 |.call {callee:=.builtin .len,..}|.call {callee:=.builtin .cap,..}|.call {callee:=.builtin .max,..}|.call {callee:=.builtin .min,..}=>Xc
 |_=>Xd
theorem zcx{s:Sem α}{g:α->Xq}{n:Next}:(s>>=fun v=>pure (Next.value (g v))).run V w=.ok n w'->∃v,n=.value v:=by
 intro h;rw[Yg]at h;cases a:s.run V w with
 |ok x b=>simp[a,Result.andThen,Yk]at h;exact⟨_,h.1.symm⟩
 |halt x b=>simp[a,Result.andThen]at h
structure zh(I:Xn->Prop)where
 world:Xn
 holds:I world
section
variable{P:Program}{o:Oper}{a:Act}
theorem zk8(ht:zoM o=Xc){a:Operand->Xq}{w w':Xn}{n:Next}:(execOp a o).run P w=.ok n w'->∃v,n=.value v:=by
 obtain⟨a,b,a,a,a,a⟩:=o;cases b<;>simp only[zoM,Yp]at ht<;>simp only[execOp]
 all_goals first
  |exact zcx (g:=id)
  |exact zcx
  |(intro h;simp[Yk]at h;exact⟨_,h.1.symm⟩)
  |skip
 rename_i c
 obtain⟨a,b,b⟩:=c;cases a with
 |value _=>simp at ht
 |invoke _ _=>simp at ht
 |builtin b=>
  cases b<;>simp only[Yp]at ht<;>simp only[resolve,pure_bind,invoke,builtin]<;>exact zcx (g:=id)
theorem zbZ(ht:zoM o=Xc){U:Xn->Prop}{K:Act->Prop}(h:o.quiet P a U K):∃v,(∀w,U w->(execOp a.eval o).run P w=.ok (.value v) w)/\K (a.put o.dst v):=by
 obtain⟨v,c,b⟩:=h;refine⟨v,fun w d=>?_,b⟩;have b:=c w d;unfold Oper.quietAt at b;have c:=fun n e=>@zk8 P o ht a.eval w e n;generalize(execOp a.eval o).run P w=r at*;cases r with
 |ok n e=>
  cases n<;>simp only[Oper.quietUpon]at b
  case value u=>rw[b.1,b.2]
  case skip=>obtain⟨_,d⟩:=c _ _ rfl;cases d
  case enter f f=>obtain⟨_,d⟩:=c _ _ rfl;cases d
 |halt x e=>simp only[Oper.quietUpon]at b
theorem zkj(x p)(b:o.op=.nilCheck x)(c:a.eval x=Xj (Xa p)):(execOp a.eval o).run P w=.ok (.value (Xj (Xa p))) w:=by simp[execOp,b,c]
theorem zO.call{f:FuncId}{xs:List Operand}{ts:Array TypeId}{fn:Func}(args)
  (ho:o.op=.call {callee:=.value (.func f),args:=xs.toArray,argTypes:=ts})(hf:P.funcs[f]?=some fn)(hb:fn.body.isNone=false)(hn:(fn.name=="runtime.NumGoroutine")=false)
  (ha:xs.map a.eval=args)(h:Xp P f args.toArray w fun e w'=>∃v,e=Xl v/\N v w'):zO P o a w N:=by
 have hr:(execOp a.eval o).run P w=.ok (.enter f args.toArray) w:=by
  have he:a.eval (.func f)=.func (.func f) #[] #[]:=rfl;simp only[execOp,ho,resolve,he,List.map_toArray,ha,Deferred.ofValue,pure_bind,invoke];have hn':fn.name≠"runtime.NumGoroutine":=by simpa using hn
  have hb':fn.body≠Xb:=fun e=>by rw[e]at hb;cases hb
  simp[callFunc,hf,hb',hn',program,Yg,Sem.run]
 unfold zO;rw[hr];exact h
end
structure zg4 where
 arg:Operand
 pv:Xq->Prop
 post:Xq->Xq->Xn->Prop
 step:Xn->Xn->Prop
 pre:Xn->Prop:=fun _=>True
section
variable(I:Xn->Prop)(P:Program)(ops:Array Oper)(S:Nat->Option zg4)
def jX(i:Nat)(F:Nat->Xn->Prop)(a:Act)(K:(Nat->Xn->Prop)->Act->Prop):Prop:=
 match ops[i]? with
 |none=>False
 |some o=>
  if Xt o (yielded ops a.tmps)then
   match S i with
   |none=>∃v,(∀w,I w->(∀m,anc ops 9 m i=Xc->F m w)->(execOp a.eval o).run P w=.ok (.value v) w)/\K F (a.put o.dst v)
   |some s=>(∀w,I w->s.pre w->(∀m,anc ops 9 m i=Xc->F m w)->zO P o a w fun v w'=>I w'/\s.step w w'/\s.pv v/\s.post (a.eval s.arg) v w')/\∀v,s.pv v->K (zew F i (s.post (a.eval s.arg) v)) (a.put o.dst v)
  else K F (a.put o.dst undef)
end
section
variable{I:Xn->Prop}{P:Program}{ops:Array Oper}{S:Nat->Option zg4}{J:Act->Xn->Prop}
theorem jX.mono{F:Nat->Xn->Prop}{K c:(Nat->Xn->Prop)->Act->Prop}
  (h:∀b d,(∀m,m≠k->b m=F m)->K b d->c b d)(e:jX I P ops S k F a K):jX I P ops S k F a c:=by
 unfold jX at*;split;·grind
 grind[QN]
theorem jX.swap{c:Oper}{F:Nat->Xn->Prop}{K:(Nat->Xn->Prop)->Act->Prop}
  (hi:ops[k]?=Xa c)(y:ops[j]?=Xa oj)(E:k≠j)(n:c.apart ops oj=Xc)
  (p:∀cs b,c.op≠.select cs b)(r:∀cs b,oj.op≠.select cs b)
  (u:∀i s o,S i=Xa s->ops[i]?=Xa o->∀d,s.arg=.tmp d->d∈o.looksAt ops)(q:anc ops 9 k j=Xd)(l:anc ops 9 j k=Xd)(hS:∀s,S k=Xa s->∃v,s.pv v)
  (B:I w)(H:∀m,anc ops 9 m j=Xc->F m w)
  (h:jX I P ops S k F a fun e f=>jX I P ops S j e f K):jX I P ops S j F a fun e f=>jX I P ops S k e f K:=by
 obtain⟨f,G,g⟩:=Oper.apart_spec n;have t:∀v,execOp (a.put oj.dst v).eval c=execOp a.eval c:=fun v=>execOp_put c p a oj.dst v g;have x:∀v,execOp (a.put c.dst v).eval oj=execOp a.eval oj:=fun v=>execOp_put oj r a c.dst v f;have M:∀v,Xt c (yielded ops (a.put oj.dst v).tmps)=Xt c (yielded ops a.tmps):=fun v=>wanted_put c a oj.dst v g;have N:∀v,Xt oj (yielded ops (a.put c.dst v).tmps)=Xt oj (yielded ops a.tmps):=fun v=>wanted_put oj a c.dst v f;have z:∀v w K,zO P c (a.put oj.dst v) w K=zO P c a w K:=fun v w K=>by unfold zO;rw[t]
 have A:∀v w K,zO P oj (a.put c.dst v) w K=zO P oj a w K:=fun v w K=>by unfold zO;rw[x]
 have C:∀v s,S k=Xa s->(a.put oj.dst v).eval s.arg=a.eval s.arg:=fun v s p=>Act.eval_put fun d n e=>g d n (u k s c p hi d e);have D:∀v s,S j=Xa s->(a.put c.dst v).eval s.arg=a.eval s.arg:=fun v s p=>Act.eval_put fun d n e=>f d n (u j s oj p y d e);have L:∀v u,(a.put c.dst v).put oj.dst u=(a.put oj.dst u).put c.dst v:=fun v u=>Act.put_comm a v u G;have u:∀n,(fun m=>anc ops 9 m k=Xc->zew F j n m w=F m w)=fun _=>True:=fun n=>by
  funext m;simp only[eq_iff_iff,iff_true];intro e;rw[QN (fun f=>by subst f;rw[l]at e;cases e)]
 have p:∀n g,(∀m,anc ops 9 m k=Xc->zew F j n m g)↔(∀m,anc ops 9 m k=Xc->F m g):=fun n g=>by
  constructor<;>intro r m e<;>have:=r m e
  ·rwa[QN (fun f=>by subst f;rw[l]at e;cases e)]at this
  rwa[QN (fun f=>by subst f;rw[l]at e;cases e)]
 have l:∀n g,(∀m,anc ops 9 m j=Xc->zew F k n m g)↔(∀m,anc ops 9 m j=Xc->F m g):=fun n g=>by
  constructor<;>intro r m e<;>have:=r m e
  ·rwa[QN (fun f=>by subst f;rw[q]at e;cases e)]at this
  rwa[QN (fun f=>by subst f;rw[q]at e;cases e)]
 clear u;unfold jX at h⊢;simp only[hi,y,t,x,M,N,z,A,L]at h⊢;cases e:Xt c (yielded ops a.tmps)<;>cases c:Xt oj (yielded ops a.tmps)<;>
  simp only[e,c,if_true,if_false,Yp]at h⊢
 ·exact h
 ·cases c:S j with
  |none=>simp only[c]at h⊢;exact h
  |some s=>simp only[c,D _ s c]at h⊢;exact h
 ·cases e:S k with
  |none=>simp only[e]at h⊢;exact h
  |some s=>simp only[e,C _ s e]at h⊢;exact h
 cases e:S k with
 |none=>
  simp only[e]at h;obtain⟨x,r,h⟩:=h;cases c:S j with
  |none=>
   simp only[c]at h⊢;obtain⟨u,n,h⟩:=h;exact⟨u,n,x,r,h⟩
  |some s=>
   simp only[c,D _ s c]at h⊢;exact⟨h.1,fun u t=>⟨x,fun g f q=>r g f ((p _ _).1 q),h.2 u t⟩⟩
 |some G=>
  simp only[e]at h;obtain⟨y,h⟩:=h;obtain⟨L,A⟩:=hS G e;cases c:S j with
  |none=>
   simp only[c,C _ G e]at h⊢;obtain⟨u,n,_⟩:=h L A;refine⟨u,fun g f q=>n g f ((l _ _).2 q),y,fun x r=>?_⟩;obtain⟨z,z,N⟩:=h x r;have M:=n w B ((l _ _).2 H);have n:=z w B ((l _ _).2 H);rw[M]at n;simp only[Result.ok.injEq,Next.value.injEq,and_true]at n;subst n;exact N
  |some n=>
   simp only[c,D _ n c,C _ G e]at h⊢;refine⟨fun g f c q=>(h L A).1 g f c ((l _ _).2 q),fun u t=>⟨fun g f c q=>y g f c ((p _ _).1 q),fun x r=>?_⟩⟩;have:=(h x r).2 u t;rwa[znv E]at this
def okE(I:Xn->Prop)(J:Act->Xn->Prop)(S:Nat->Option zg4)(listed:Array Bool)(F:Nat->Xn->Prop)(a:Act)(w:Xn):Prop:=
 I w/\J a w/\(∀i,F i w)/\(∀i,(∀w,F i w)\/∃s u v,S i=Xa s/\F i=s.post u v/\listed.getD i Xd=Xc)/\∀k t,S k=Xa t->listed.getD k Xc=Xd->t.pre w
theorem zsp(g:∀k s o,S k=Xa s->ops[k]?=Xa o->∀d,s.arg=.tmp d->d∈o.looksAt ops)(hS:∀k s,S k=Xa s->∃v,s.pv v)
  (hp:∀k s j t,S k=Xa s->S j=Xa t->j≠k->anc ops 9 j k=Xd->∀u v w w',t.step w w'->s.post u v w->s.post u v w')(hpre:∀j t k s,S j=Xa t->S k=Xa s->j≠k->∀w w',s.step w w'->t.pre w->t.pre w')
  (hJq:∀(j:Nat)o,ops[j]?=Xa o->S j=Xb->∀a v w,(execOp a.eval o).run P w=.ok (.value v) w->J a w->J (a.put o.dst v) w)(hJs:∀(j:Nat)o s,ops[j]?=Xa o->S j=Xa s->∀a w K,J a w->I w->zO P o a w K->zO P o a w fun v w'=>K v w'/\J (a.put o.dst v) w')(hJu:∀(j:Nat)o,ops[j]?=Xa o->∀a w,J a w->J (a.put o.dst undef) w):
  Way P ops (jX I P ops S) (fun j F=>∃w,I w/\∀m,anc ops 9 m j=Xc->F m w) (okE I J S) where
 mono h:=jX.mono fun b c e D=>h b c (fun j b⟨w,l,c⟩=>⟨w,l,fun m f=>by
  rw[e m (fun q=>by subst q;rw[b]at f;cases f)]
  exact c m f⟩) D
 swap hi hj hlt hap hsi hsj b hji:=fun⟨_,l,c⟩=>jX.swap hi hj Wm hap hsi hsj g b hji (hS _) l c
 lean j h:=⟨_,h.1,fun m _=>h.2.2.1 m⟩
 step {listed F a w j oj K N Q} hsz hoj h0 hc hok hcm hN:=by
  obtain⟨E,G,B,C,e⟩:=hok;have r:∀i,(∀w,F i w)\/∃s u v,S i=Xa s/\F i=s.post u v/\(listed.setIfInBounds j Xc).getD i Xd=Xc:=fun i=>(C i).imp id fun⟨s,u,v,z,y,A⟩=>⟨s,u,v,z,y,getD_set_true A⟩;have n:∀k,(listed.setIfInBounds j Xc).getD k Xc=Xd->k≠j/\listed.getD k Xc=Xd:=fun k c=>by
   by_cases q:j=k
   ·subst q;have:=(aS.1 hoj).1;simp[show j<listed.size by omega]at c
   rw[getD_set_ne Xc q]at c;exact⟨fun h=>q h.symm,c⟩
  simp only[jX,hoj]at hcm;split
  ·rename_i c
   simp only[c,if_true]at hcm;cases p:S j with
   |none=>
    simp only[p]at hcm;obtain⟨v,f,D⟩:=hcm;have g:=f w E (fun m _=>B m);unfold Oper.wp;rw[g];exact hN F _ w ⟨E,hJq j oj hoj p a v w g G,B,r,fun k t f g=>e k t f (n k g).2⟩ D
   |some s=>
    simp only[p]at hcm;refine(hJs j oj s hoj p a w _ G E (hcm.1 w E (e j s p h0) (fun m _=>B m))).wp fun v w'⟨⟨L,h,M,x⟩,H⟩=>?_;refine hN (zew F j (s.post (a.eval s.arg) v)) _ w' ⟨L,H,fun i=>?_,fun i=>?_,fun k t f g=>hpre k t j s f p (n k g).1 w w' h (e k t f (n k g).2)⟩ (hcm.2 v M)
    ·unfold zew
     split;·exact x
     rename_i b
     rcases C i with l|⟨x,u1,C,z,y,A⟩;·exact l w'
     rw[y];refine hp i x j s z p (fun q=>b q.symm) ?_ u1 C w w' h ?_
     ·cases h:anc ops 9 j i with
      |false=>rfl
      |true=>
       have l:=JR hc 9 j i (fun k D=>hc k i A D) h;rw[zaM h0]at l;cases l
     have:=B i;rw[y]at this;exact this
    by_cases b:i=j
    ·subst b;refine .inr ⟨s,a.eval s.arg,v,p,?_,?_⟩;·unfold zew;rw[kE rfl]
     have:=(aS.1 hoj).1;simp[show i<listed.size by omega]
    rcases r i with l|⟨x,u1,C,z,y,A⟩
    ·refine .inl fun w=>?_
     unfold zew;rw[kF b];exact l w
    refine .inr ⟨x,u1,C,z,?_,A⟩;unfold zew;rw[kF b];exact y
  rename_i c
  simp only[c]at hcm;exact hN F _ w ⟨E,hJu j oj hoj a w G,B,r,fun k t f g=>e k t f (n k g).2⟩ hcm
variable{Q:Act->Xn->Prop}
variable(I P ops S Q)in
abbrev zaW:List Oper->Nat->(Nat->Xn->Prop)->Act->Prop:=ziG ops (jX I P ops S) fun F a=>∀w,I w->(∀i,F i w)->Q a w
theorem zql{Q:Exit->Act->Xn->Prop}{l r:List Oper}(T:Nat)(e:I w.drew)(hJ0:J a w.drew)(i:P.follows .mixedOrders=Xc)(c:Jy K.toArray T=Xc)(g:K.take T=l)(m:K.drop T=r)(f:T<=K.length)(b:∀k s o,S k=Xa s->K.toArray[k]?=Xa o->∀d,s.arg=.tmp d->d∈o.looksAt K.toArray)
  (hS:∀k s,S k=Xa s->∃v,s.pv v)(hp:∀k s j t,S k=Xa s->S j=Xa t->j≠k->anc K.toArray 9 j k=Xd->∀u v w w',t.step w w'->s.post u v w->s.post u v w')(hpre:∀j t k s,S j=Xa t->S k=Xa s->j≠k->∀w w',s.step w w'->t.pre w->t.pre w')(hpr0:∀k t,S k=Xa t->t.pre w.drew)
  (hJq:∀(j:Nat)o,K.toArray[j]?=Xa o->S j=Xb->∀a v w,(execOp a.eval o).run P w=.ok (.value v) w->J a w->J (a.put o.dst v) w)(hJs:∀(j:Nat)o s,K.toArray[j]?=Xa o->S j=Xa s->∀a w L,J a w->I w->zO P o a w L->zO P o a w fun v w'=>L v w'/\J (a.put o.dst v) w')(hJu:∀(j:Nat)o,K.toArray[j]?=Xa o->∀a w,J a w->J (a.put o.dst undef) w)
  (h:zaW I P K.toArray S (fun a w=>J a w->wpList P K.toArray Q r a w) l 0 (fun _ _=>True) a):(Code.region id K.toArray Xc).wp P Q a w:=
 ziW (zsp b hS hp hpre hJq hJs hJu) T i c g m f (fun _=>⟨e,hJ0,fun _=>trivial,fun _=>.inl fun _=>trivial,fun k t b _=>hpr0 k t b⟩) (fun _ _ _ _ b h=>h _ b.1 b.2.2.1 b.2.1) h
theorem ziX{Q:Exit->Act->Xn->Prop}{l r:List Oper}(T:Nat)(e:I w.drew)(i:P.follows .mixedOrders=Xc)(c:Jy K.toArray T=Xc)(g:K.take T=l)(m:K.drop T=r)(f:T<=K.length)(b:∀k s o,S k=Xa s->K.toArray[k]?=Xa o->∀d,s.arg=.tmp d->d∈o.looksAt K.toArray)
  (hS:∀k s,S k=Xa s->∃v,s.pv v)(hp:∀k s j t,S k=Xa s->S j=Xa t->j≠k->anc K.toArray 9 j k=Xd->∀u v w w',t.step w w'->s.post u v w->s.post u v w')(hpre:∀j t k s,S j=Xa t->S k=Xa s->j≠k->∀w w',s.step w w'->t.pre w->t.pre w')(hpr0:∀k t,S k=Xa t->t.pre w.drew)
  (h:zaW I P K.toArray S (fun a w=>wpList P K.toArray Q r a w) l 0 (fun _ _=>True) a):(Code.region id K.toArray Xc).wp P Q a w:=
 ziW (zsp (J:=fun _ _=>True) b hS hp hpre (fun _ _ _ _ _ _ _ _ _=>trivial) (fun _ _ _ _ _ _ _ _ _ _ h=>h.mono fun _ _ b=>⟨b,trivial⟩) (fun _ _ _ _ _ _=>trivial)) T i c g m f (fun _=>⟨e,trivial,fun _=>trivial,fun _=>.inl fun _=>trivial,fun k t b _=>hpr0 k t b⟩) (fun _ _ _ _ b h=>h _ b.1 b.2.2.1) h
variable{o:Oper}{rest:List Oper}{k:Nat}{F:Nat->Xn->Prop}{a:Act}
theorem zen(h:ops[k]?=Xa o->jX I P ops S k F a (zaW I P ops S Q rest (k+1))):zaW I P ops S Q (o::rest) k F a:=ziG.cons (fun h=>jX.mono fun b c _=>h b c) h
theorem zgz(b:Xt o (yielded ops a.tmps)=Xc)(hS:S k=Xb)(d:∀w,I w->(execOp a.eval o).run P w=.ok (.value A) w)(e:zaW I P ops S Q rest (k+1) F (a.put o.dst A)):zaW I P ops S Q (o::rest) k F a:=zen fun c=>by
 simp only[jX,c,b,if_true,hS];exact⟨A,fun w b _=>d w b,e⟩
theorem za4(ht:zoM o=Xc)(b:Xt o (yielded ops a.tmps)=Xc)(hS:S k=Xb)
  (h:∀K:Act->Prop,(∀a,zaW I P ops S Q rest (k+1) F a->K a)->o.quiet P a (fun w'=>∃x:zh I,w'=x.world) K):zaW I P ops S Q (o::rest) k F a:=by obtain⟨v,c,d⟩:=zbZ ht (h _ fun _ h=>h);exact zgz b hS (fun w b=>c w ⟨⟨w,b⟩,rfl⟩) d
theorem Qe{P Q:Prop}(k:Q)(h:Go.RowKit.Hid Q->P:=by intro h;refine za4 rfl rfl rfl (fun K a=>?_);go_big_quiet_op;exact a _ h.out):P:=h k
theorem zhX(b:Xt o (yielded ops a.tmps)=Xd)(h:zaW I P ops S Q rest (k+1) F (a.put o.dst undef)):zaW I P ops S Q (o::rest) k F a:=zen fun b=>by grind[jX,Yp]
theorem Zr{s:zg4}(d:Xt o (yielded ops a.tmps)=Xc)(hS:S k=Xa s)
  (h:∀w,I w->s.pre w->(∀m,anc ops 9 m k=Xc->F m w)->zO P o a w fun v w'=>I w'/\s.step w w'/\s.pv v/\s.post (a.eval s.arg) v w')
  (c:∀v,s.pv v->zaW I P ops S Q rest (k+1) (zew F k (s.post (a.eval s.arg) v)) (a.put o.dst v)):zaW I P ops S Q (o::rest) k F a:=zen fun b=>by
 simp only[jX,b,d,if_true,hS];exact⟨h,c⟩
theorem zcc(h:∀w,I w->(∀i,F i w)->Q a w):zaW I P ops S Q [] k F a:=⟨fun _=>h⟩
theorem zeo(x p)(b:o.op=.nilCheck x)(d:a.eval x=Xj (Xa p))(c:Xt o (yielded ops a.tmps)=Xc)(hS:S k=Xb)(h:zaW I P ops S Q rest (k+1) F (a.put o.dst (Xj (Xa p)))):zaW I P ops S Q (o::rest) k F a:=zgz c hS (fun _ _=>zkj x p b d) h
end
def zoq(ops:Array Oper)(S:List (Nat×zg4)):Bool:=S.all fun x=>match x.2.arg with
 |.tmp d=>(match ops[x.1]? with|some o=>(o.looksAt ops).contains d|none=>Xd)
 |_=>Xc
theorem zjY{S:List (Nat×zg4)}(h:zoq ops S=Xc):∀k s o,S.lookup k=Xa s->ops[k]?=Xa o->∀d,s.arg=.tmp d->d∈o.looksAt ops:=fun k s o a e d b=>by
 have c:(k,s)∈S:=by
  induction S with
  |nil=>simp at a
  |cons x S f=>
   rw[List.lookup_cons]at a;split at a;·grind
   exact Of _ (f (by simp only[zoq,List.all_cons,Ya]at h;exact h.2) a)
 have:=Yn.1 h _ c;simp only[b,e]at this;simpa using this
theorem zar{I:Xn->Prop}{l r:List Oper}(T:Nat)(S:List (Nat×zg4))(d:I w.drew)(g:V.follows .mixedOrders=Xc)(b:zoq K.toArray S=Xc)(c:Jy K.toArray T=Xc)(f:K.take T=l)(i:K.drop T=r)(e:T<=K.length)
  (hS:∀x∈S,∃v,x.2.pv v)(hp:∀k s j t,S.lookup k=Xa s->S.lookup j=Xa t->j≠k->anc K.toArray 9 j k=Xd->∀u v w w',t.step w w'->s.post u v w->s.post u v w')(hpre:∀j t k s,S.lookup j=Xa t->S.lookup k=Xa s->j≠k->∀w w',s.step w w'->t.pre w->t.pre w')(hpr0:∀k t,S.lookup k=Xa t->t.pre w.drew)
  (h:zaW I V K.toArray (fun k=>S.lookup k) (fun a w=>wpList V K.toArray Q r a w) l 0 (fun _ _=>True) a):(Code.region id K.toArray Xc).wp V Q a w:=
 ziX T d g c f i e (zjY b) (fun k s b=>by obtain⟨x,c,rfl,_⟩:=J3 b;exact hS x c) hp hpre hpr0 h
structure zeY where
 pv:Xq->Prop
 post:Xq->Xn->Prop
 step:Xn->Xn->Prop
 pre:Xn->Prop:=fun _=>True
def zeY.e(s:zeY):zg4:=⟨.const undef,s.pv,fun _=>s.post,s.step,s.pre⟩
theorem zbE{x:Option zeY}{s:zg4}(h:x.map zeY.e=Xa s):∃t,x=Xa t/\s=t.e:=by
 cases x with
 |none=>cases h
 |some t=>cases h;exact⟨t,rfl,rfl⟩
section
variable{I:Xn->Prop}{P:Program}{ops:Array Oper}{S:Nat->Option zeY}{Q:Act->Xn->Prop}
variable(I P ops S Q)in
abbrev zdp:List Oper->Nat->(Nat->Xn->Prop)->Act->Prop:=zaW I P ops (fun k=>(S k).map zeY.e) Q
theorem q4{Q:Exit->Act->Xn->Prop}{l r:List Oper}(T:Nat)(S:List (Nat×zeY))(c:I w.drew)(f:P.follows .mixedOrders=Xc)(b:Jy K.toArray T=Xc)(e:K.take T=l)(g:K.drop T=r)(d:T<=K.length)
  (hS:∀x∈S,∃v,x.2.pv v)(hp:∀k s j t,S.lookup k=Xa s->S.lookup j=Xa t->j≠k->anc K.toArray 9 j k=Xd->∀v w w',t.step w w'->s.post v w->s.post v w')(hpre:∀j t k s,S.lookup j=Xa t->S.lookup k=Xa s->j≠k->∀w w',s.step w w'->t.pre w->t.pre w')(hpr0:∀k t,S.lookup k=Xa t->t.pre w.drew)
  (h:zdp I P K.toArray (fun k=>S.lookup k) (fun a w=>wpList P K.toArray Q r a w) l 0 (fun _ _=>True) a):(Code.region id K.toArray Xc).wp P Q a w:=by
 refine ziX T c f b e g d ?_ ?_ ?_ ?_ ?_ h;·intro k s b b _ d c;obtain⟨t,_,rfl⟩:=zbE b;cases c
 ·intro k s b;obtain⟨t,c,rfl⟩:=zbE b;obtain⟨x,d,rfl,_⟩:=J3 c;exact hS x d
 ·intro k s j t b f d g _ v;obtain⟨s,c,rfl⟩:=zbE b;obtain⟨t,e,rfl⟩:=zbE f;exact hp k s j t c e d g v
 ·intro j t k s f b d;obtain⟨s,c,rfl⟩:=zbE b;obtain⟨t,e,rfl⟩:=zbE f;exact hpre j t k s e c d
 intro k t b;obtain⟨t,c,rfl⟩:=zbE b;exact hpr0 k t c
variable{o:Oper}{rest:List Oper}{k:Nat}{F:Nat->Xn->Prop}{a:Act}
theorem zlB(ht:zoM o=Xc)(b:Xt o (yielded ops a.tmps)=Xc)(hS:S k=Xb)
  (h:∀K:Act->Prop,(∀a,zdp I P ops S Q rest (k+1) F a->K a)->o.quiet P a (fun w'=>∃x:zh I,w'=x.world) K):zdp I P ops S Q (o::rest) k F a:=za4 ht b (Rr hS) h
theorem zs{P Q:Prop}(k:Q)(h:Go.RowKit.Hid Q->P:=by intro h;refine zlB rfl rfl rfl (fun K a=>?_);go_big_quiet_op;exact a _ h.out):P:=h k
theorem znd(b:Xt o (yielded ops a.tmps)=Xd)(h:zdp I P ops S Q rest (k+1) F (a.put o.dst undef)):zdp I P ops S Q (o::rest) k F a:=zhX b h
theorem zel{P Q:Prop}(k:Q)(h:Go.RowKit.Hid Q->P:=by intro h;refine znd ?_ ?_;kernel_rfl;simp only[_root_.Go.Act.put,sB,sS,sZ];exact h.out):P:=h k
theorem zT{s:zeY}(c:Xt o (yielded ops a.tmps)=Xc)(hS:S k=Xa s)
  (h:∀w,I w->s.pre w->(∀m,anc ops 9 m k=Xc->F m w)->zO P o a w fun v w'=>I w'/\s.step w w'/\s.pv v/\s.post v w')
  (b:∀v,s.pv v->zdp I P ops S Q rest (k+1) (zew F k (s.post v)) (a.put o.dst v)):zdp I P ops S Q (o::rest) k F a:=Zr (s:=s.e) c (Rr hS) h b
theorem Zv(h:∀w,I w->(∀i,F i w)->Q a w):zdp I P ops S Q [] k F a:=zcc h
theorem Q2(x p)(b:o.op=.nilCheck x)(d:a.eval x=Xj (Xa p))(c:Xt o (yielded ops a.tmps)=Xc)(hS:S k=Xb)(h:zdp I P ops S Q rest (k+1) F (a.put o.dst (Xj (Xa p)))):zdp I P ops S Q (o::rest) k F a:=zeo x p b d c (Rr hS) h
end
structure zqe where
 pv:Xq->Prop
 post:Xq->Xn->Prop
def zqe.i(s:zqe):zeY:=⟨s.pv,s.post,zc,fun _=>True⟩
section
variable{P:Program}{ops:Array Oper}{w0:Xn}{S:Nat->Option zqe}{Q:Act->Xn->Prop}
variable(P ops w0 S Q)in
abbrev zot:List Oper->Nat->(Nat->Xn->Prop)->Act->Prop:=zdp (zc w0) P ops (fun k=>(S k).map zqe.i) Q
theorem znr(w:Xn):zc w w.drew:=show Below _ _ _ from(bR _ _).drew
theorem jO{Q:Exit->Act->Xn->Prop}{l r:List Oper}(T:Nat)(S:List (Nat×zqe))(j:P.follows .mixedOrders=Xc)(f:Jy K.toArray T=Xc)(i:K.take T=l)(m:K.drop T=r)(g:T<=K.length)
  (hS:∀x∈S,∃v,x.2.pv v)(hp:∀x∈S,∀v w w',zc w w'->x.2.post v w->x.2.post v w')
  (h:zot P K.toArray w (fun k=>S.lookup k) (fun a w=>wpList P K.toArray Q r a w) l 0 (fun _ _=>True) a):(Code.region id K.toArray Xc).wp P Q a w:=by
 have b:∀k s,((S.lookup k).map zqe.i).map zeY.e=Xa s->∃x∈S,s=x.2.i.e:=fun k s c=>by
  cases e:S.lookup k with
  |none=>rw[e]at c;cases c
  |some t=>
   rw[e]at c;cases c;obtain⟨x,d,rfl,_⟩:=J3 e;exact⟨x,d,rfl⟩
 refine ziX T (znr w) j f i m g ?_ ?_ ?_ ?_ ?_ h;·intro k s e c _ e e;obtain⟨x,_,rfl⟩:=b k s c;cases e
 ·intro k s c;obtain⟨x,d,rfl⟩:=b k s c;exact hS x d
 ·intro k s j t c e _ _ _ v w w' f;obtain⟨x,d,rfl⟩:=b k s c;obtain⟨y,_,rfl⟩:=b j t e;exact hp x d v w w' f
 ·intro j t k s e _ _ _ _ _ _;obtain⟨x,_,rfl⟩:=b j t e;trivial
 intro k t c;obtain⟨x,_,rfl⟩:=b k t c;trivial
theorem jK{Q:Exit->Act->Xn->Prop}(S:List (Nat×zqe))(c:P.follows .mixedOrders=Xc)(b:Jy K.toArray K.length=Xc)
  (hS:∀x∈S,∃v,x.2.pv v)(hp:∀x∈S,∀v w w',zc w w'->x.2.post v w->x.2.post v w')
  (h:zot P K.toArray w (fun k=>S.lookup k) (fun a w=>Q .normal a w) K 0 (fun _ _=>True) a):(Code.region id K.toArray Xc).wp P Q a w:=
 jO K.length S c b (List.take_length ..) (List.drop_length ..) (nR _) hS hp h
variable{o:Oper}{rest:List Oper}{k:Nat}{F:Nat->Xn->Prop}{a:Act}
theorem JI(ht:zoM o=Xc)(b:Xt o (yielded ops a.tmps)=Xc)(hS:S k=Xb)
  (h:∀K:Act->Prop,(∀a,zot P ops w0 S Q rest (k+1) F a->K a)->o.quiet P a (fun w'=>∃x:zj w0,w'=x.world) K):zot P ops w0 S Q (o::rest) k F a:=by obtain⟨v,c,d⟩:=zbZ ht (h _ fun _ h=>h);exact zgz b (by simp only[hS];rfl) (fun w b=>c w ⟨⟨w,b⟩,rfl⟩) d
theorem zf{P Q:Prop}(k:Q)(h:Go.RowKit.Hid Q->P:=by intro h;refine JI rfl rfl rfl (fun K a=>?_);go_big_quiet_op;exact a _ h.out):P:=h k
theorem Zu(b:Xt o (yielded ops a.tmps)=Xd)(h:zot P ops w0 S Q rest (k+1) F (a.put o.dst undef)):zot P ops w0 S Q (o::rest) k F a:=zhX b h
theorem zI{s:zqe}(b:Xt o (yielded ops a.tmps)=Xc)(hS:S k=Xa s)
  (h:∀w,zc w0 w->(∀m,anc ops 9 m k=Xc->F m w)->zO P o a w fun v w'=>zc w w'/\s.pv v/\s.post v w')
  (d:∀v,s.pv v->zot P ops w0 S Q rest (k+1) (zew F k (s.post v)) (a.put o.dst v)):zot P ops w0 S Q (o::rest) k F a:=Zr (s:=s.i.e) b (by simp only[hS];rfl) (fun w b _ c=>(h w b c).mono fun _ _ c=>⟨b.trans c.1,c⟩) d
theorem z5(h:∀w,zc w0 w->(∀i,F i w)->Q a w):zot P ops w0 S Q [] k F a:=zcc h
theorem zku(x p)(b:o.op=.nilCheck x)(d:a.eval x=Xj (Xa p))(c:Xt o (yielded ops a.tmps)=Xc)(hS:S k=Xb)(h:zot P ops w0 S Q rest (k+1) F (a.put o.dst (Xj (Xa p)))):zot P ops w0 S Q (o::rest) k F a:=zeo x p b d c (by simp only[hS];rfl) h
end
theorem zX(a:Addr)(i j:Nat):(a.add i).add j=a.add (i+j):=by unfold Addr.add;by_cases b:i=0<;>by_cases c:j=0<;>simp[b,c]<;>omega
def jY(w:Xn)(x:Addr)(cs:List Xq):Prop:=∀j u,cs[j]?=Xa u->w.cell? (x.add j)=Xa u
theorem jY.aA{x:Addr}(h:jY w x D)(b:zc w w'):jY w' x D:=fun j u c=>by
 have a:=h j u c;rw[Below.cell b (World.block_lt_of_cell? _ _ a)];exact a
theorem jP{enc:α->List Xq}:∀(l:List α),(∀a∈l,(enc a).length=k)->(l.flatMap enc).length=l.length*k
 |[],_=>Sm
 |a::l,h=>by
  rw[Yf,lA,h a Sm,jP l (fun b hb=>h b (by simp[hb])),Yi,Ou,Nat.one_mul,Ok]
theorem jB{enc:α->List Xq}:∀(l:List α)(j:Nat)(a:α),(∀b∈l,(enc b).length=k)->l[j]?=Xa a->∀i u,(enc a)[i]?=Xa u->(l.flatMap enc)[j*k+i]?=Xa u
 |[],j,a,_,h,_,_,_=>by simp at h
 |b::l,0,a,d,h,i,u,hi=>by
  simp at h;subst h
  have c:i<(enc b).length:=by
   rcases Yo i (enc b).length with h|h;·exact h
   rw[gN h]at hi;cases hi
  rw[Yf,Gc,zA,Yy c];exact hi
 |b::l,j+1,a,d,h,i,u,hi=>by
  have c:=d b Sm;rw[Yf,aR (by rw[c,Ou];omega),c];have e:(j+1)*k+i-k=j*k+i:=by rw[Ou];omega
  rw[e];exact jB l j a (fun c e=>d c (by simp[e])) (Si h) i u hi
theorem jY.elem{enc:α->List Xq}(h:jY w P (y.flatMap enc))(e:∀b∈y,(enc b).length=k){a:α}(c:y[j]?=Xa a):jY w (P.add (j*k)) (enc a):=fun i u d=>by
 rw[zX];exact h _ _ (jB y j a e c i u d)
def Je{α:Type}(enc:α->List Xq)(w:Xn)(v:Xq)(l:List α):Prop:=
 ∃a c,v=O a l.length c/\(a=Xb->l=[])/\∀x,a=Xa x->jY w x (l.flatMap enc)
theorem Je.aA{enc:α->List Xq}(h:Je enc w A y)(f:zc w w'):Je enc w' A y:=by obtain⟨a,c,b,d,e⟩:=h;exact⟨a,c,b,d,fun x a=>(e x a).aA f⟩
theorem QT{enc:α->List Xq}(h:w.ownsRow k t p A y.length (y.flatMap enc)):Je enc w A y:=by
 rcases h.2 with⟨rfl,c⟩|⟨g,p,b,rfl,b,b,b,b,b,b⟩;·have b:=eN c;subst b;exact⟨Xb,0,rfl,fun _=>rfl,fun x b=>by cases b⟩
 refine⟨Xa ⟨g,0,Xb⟩,p,rfl,fun h=>(by cases h),fun x b=>?_⟩;cases b;exact h.cells rfl
theorem zaD{n:Nat}(h:w.ownsRow k t p A n xs)(i:zc w w'):w'.ownsRow k t p A n xs:=by
 refine⟨h.1,?_⟩;rcases h.2 with p|⟨g,p,b,rfl,d,c,f⟩;·grind
 exact .inr ⟨g,p,b,rfl,d,by rw[Below.block i g (aS.1 c).1];exact c,f⟩
theorem jL{n:Nat}(h:w.ownsRow k t p A n xs)(hb:base'<=k):w.ownsRow base' t p A n xs:=by
 refine⟨h.1,?_⟩;rcases h.2 with p|⟨g,p,b,rfl,c,d⟩;·grind
 exact .inr ⟨g,p,b,rfl,nT hb c,d⟩
theorem qW{enc:α->List Xq}(h:∀a,∀u∈enc a,u.oneCell'=Xc)(l:List α):∀u∈l.flatMap enc,u.oneCell'=Xc:=fun u b=>by grind
theorem q5(h:k<=140737488355328):k<=maxLen:=by simp[maxLen];omega
theorem za(w:Xn)(o):zc w (w.alloc o):=(bR _ _).alloc (nR _) _
theorem zB(h:zc w W)(b:w.heap.size<=P.block)(u):zc w (W.setCell P u):=Below.setCell h b u
theorem zY:Tryz.prog.follows .mixedOrders=Xc:=by kernel_rfl
def zfj(base:Nat)(v:Xq):Prop:=∀x n c,v=O (Xa x) n c->base<=x.block
theorem zex(base:Nat):zfj base (O Xb 0 0):=fun x n c e=>by cases e
theorem zcu(x:Addr)(j:Nat):(x.add j).block=x.block:=by unfold Addr.add;split<;>rfl
theorem ZQ(w:Xn)(g:Nat)(cs:Array Xq):w.grownBy (w.setRow g cs) (Xa g):=by refine⟨rfl,rfl,rfl,by simp[World.setRow],fun k a a=>?_⟩;have:g≠k:=fun e=>a (by rw[e]);unfold World.setRow;grind
theorem Zk{P:Program}(d:w.ownsRow k t b A p xs){g:Nat}(h:A.ownBlock=Xa g)(a:Nat)(cs:List Xq)(c:a+cs.length<=p*b)(v:∀u∈cs,u.oneCell'=Xc):
  ∃w',(storeCells ⟨g,a,Xb⟩ cs 0).run P w=.ok () w'/\w'.ownsRow k t b A p (splice xs a cs)/\w.grownBy w' (Xa g)/\w'.heap.size=w.heap.size:=by
 obtain⟨m,c⟩:=d;rcases c with⟨rfl,i⟩|⟨f,d,c,rfl,l,j,i,n,q,r⟩;·simp[Value.ownBlock]at h
 simp[Value.ownBlock]at h;subst h;have h:p*b<=c.size:=by rw[q];exact Yw _ i
 refine⟨_,run_storeCells_at P f a t cs 0 c w j Wm v,⟨by rw[length_splice _ _ _ Wm];exact m,.inr ⟨f,d,_,rfl,l,setRow_heap w f c _ t _ j,i,n,?_,?_⟩⟩,ZQ _ _ _,by simp[World.setRow]⟩;·simp;omega
 subst r;apply Yh;intro j;simp only[splice,Nat.add_zero];simp only[List.getElem?_take,List.getElem?_append,Ux,Oy,lA,Array.length_toList];have d:min a c.size=a:=Wm;have f:min a (min (p*b) c.size)=a:=Wm;simp only[d,f];split<;>split<;>(try split)<;>(try split)<;>(try split)<;>first|rfl|omega|(congr 1;omega)|skip
theorem zdb(e:o.guard=Xb)(p x t)(s:o.op=.store t p x)(k:Nat)(f:(V.info? t).map (·.size)=Xa k)
  (base:Nat)(v:Xq)(n:Nat)(xs:List Xq)(d:w.ownsRow base t k v n xs)(g i:Nat)(r:v.ownBlock=Xa g)(hi:i<n)(cs:List Xq)(c:cs.length=k)(j:∀u∈cs,u.oneCell'=Xc)
  (ad:Addr)(hp:a.eval p=Xj (Xa ad))(b:ad=⟨g,i*k,Xb⟩)(z:a.eval x=Xi cs.toArray)
  (h:∀w',w'.ownsRow base t k v n (splice xs (i*k) cs)->w.grownBy w' (Xa g)->w'.heap.size=w.heap.size->wpList V ops Q K (a.put o.dst undef) w'):wpList V ops Q (o::K) a w:=by
 subst b;refine wpList_plain e fun rest q=>?_;have b:i*k+cs.length<=n*k:=by
  rw[c,<-Gd];exact Yw _ hi
 obtain⟨w',y,e,l,m⟩:=Zk (P:=V) d r (i*k) cs b j;have d:(Go.sizeOf t).run V w=.ok k w:=by
  cases b:V.info? t with
  |none=>simp[b]at f
  |some i=>simp[b]at f;simp[Go.sizeOf,typeInfo,b,f]
 have b:(Instr.storeAt t (Xj (Xa ⟨g,i*k,Xb⟩)) (Xi cs.toArray)).run V w=.ok () w':=by
  simp[Instr.storeAt,Instr.sureAddr,storeVar,Yg,d,Result.andThen,Value.cells,c,y]
 unfold Oper.wp;simp only[execOp,s,hp,z,Yg,b,Result.andThen,Yk,Oper.upon];exact q _ _ (h w' e l m)
theorem JD{enc:α->List Xq}(x:α)(b:(enc x).length=k):∀(l:List α)(i:Nat),(∀a∈l,(enc a).length=k)->i<l.length->splice (l.flatMap enc) (i*k) (enc x)=(l.set i x).flatMap enc
 |[],i,_,hi=>by simp at hi
 |a::l,0,h,_=>by
  simp only[splice,Yf,Gc,List.take_zero,Uh,zA,sZ];rw[Og (by rw[b,h a Sm];exact nR _),Yq (by rw[b,h a Sm];exact nR _),Uh]
 |a::l,i+1,h,hi=>by
  have d:=h a Sm
  have c:=JD x b l i (fun b e=>h b (by simp[e])) (Si hi);simp only[splice,Yf,sS]at c⊢;rw[<-c,Gd,Ok (i*k) k,<-d,Ol,Oe,Om,Yl]
theorem zd{W':Xn}(h:zc w W)(a:W.grownBy W' (Xa k))(hb:w.heap.size<=k):zc w W':=
 Below.grown h a (bS h) (fun g a=>by cases a;exact hb)
def Box(w:Xn)(b:Nat)(cs:List Xq):Prop:=∃t,w.heap[b]?=Xa (Xk cs.toArray t (0,0))
theorem Box.lt(h:Box w b D):b<w.heap.size:=by obtain⟨t,h⟩:=h;exact(aS.1 h).1
theorem Box.c(h:Box w b D)(i:Nat){u:Xq}(hi:D[i]?=Xa u):w.cell? ⟨b,i,Xb⟩=Xa u:=by obtain⟨t,h⟩:=h;simp[World.cell?,h,hi]
theorem Box.f(h:Box w b D)(i:Nat):w.frozen? ⟨b,i,Xb⟩=Xd:=by obtain⟨t,h⟩:=h;simp[World.frozen?,h]
theorem Box.below(h:Box w b D)(a:Below B w w')(hb:b<B):Box w' b D:=by obtain⟨t,h⟩:=h;exact⟨t,by rw[a.block b hb];exact h⟩
theorem Box.aA(h:Box w b D)(a:zc w w'):Box w' b D:=h.below a h.lt
theorem Box.aE(w:Xn)(cs:List Xq)(t)(hb:b=w.heap.size):Box (w.alloc (Xk cs.toArray t)) b cs:=by subst hb;refine⟨t,?_⟩;show(w.heap.push _)[w.heap.size]?=_;simp
theorem Box.alloc(h:Box w b D)(o):Box (w.alloc o) b D:=h.aA (za _ _)
theorem Box.grown(h:Box w b D)(c:w.grownBy w' (Xa k))(hb:b≠k):Box w' b D:=by have a:=h.lt;obtain⟨t,h⟩:=h;exact⟨t,by rw[c.block b a (fun e=>hb (by cases e;rfl))];exact h⟩
theorem Box.other(h:Box w b D){a:Addr}(c:b≠a.block)(u):Box (w.setCell a u) b D:=by obtain⟨t,h⟩:=h;exact⟨t,by rw[Below.heap_setCell _ _ _ _ c];exact h⟩
theorem Box.set{cs:List Xq}(h:Box w b cs)(i:Nat)(u):Box (w.setCell ⟨b,i,Xb⟩ u) b (cs.set i u):=by have a:=h.lt;obtain⟨t,h⟩:=h;refine⟨t,?_⟩;obtain⟨_,a⟩:=aS.1 h;unfold World.setCell;grind
theorem World.grownBy.rfl'(w:Xn)(a:Option Nat):w.grownBy w a:=⟨rfl,rfl,rfl,nR _,fun _ _ _=>rfl⟩
theorem jY.aE(w:Xn)(cs:List Xq)(t)(hb:b=w.heap.size):jY (w.alloc (Xk cs.toArray t)) ⟨b,0,Xb⟩ cs:=fun j u a=>by
 rw[Addr.add_lit,zA];exact(Box.aE w cs t hb).c j a
theorem Box.beside{a:Option Nat}(h:Box w b D)(c:w.grownBy w' a)(hb:∀g,a=Xa g->b≠g):Box w' b D:=by have a:=h.lt;obtain⟨t,h⟩:=h;exact⟨t,by rw[c.block b a (fun e=>hb b e.symm rfl)];exact h⟩
theorem z2{W':Xn}{a:Option Nat}(h:zc w W)(b:W.grownBy W' a)(hb:∀g,a=Xa g->w.heap.size<=g):zc w W':=Below.grown h b (bS h) hb
def zm(w:Xn)(b:Nat)(t:TypeId)(cs:List Xq):Prop:=w.heap[b]?=Xa (Xk cs.toArray t (0,0))
theorem zm.box(h:zm w b t D):Box w b D:=⟨t,h⟩
theorem zm.aE(w:Xn)(cs:List Xq)(t)(hb:b=w.heap.size):zm (w.alloc (Xk cs.toArray t)) b t cs:=by subst hb;show(w.heap.push _)[w.heap.size]?=_;simp
theorem Box.c3(h:Box w b (a0::a1::a2::D)):w.cell? ⟨b,0,Xb⟩=Xa a0/\w.cell? ⟨b,1,Xb⟩=Xa a1/\w.cell? ⟨b,2,Xb⟩=Xa a2:=⟨h.c 0 rfl,h.c 1 rfl,h.c 2 rfl⟩
theorem Box.c7(h:Box w b (a0::a1::a2::a3::a4::a5::a6::D)):w.cell? ⟨b,0,Xb⟩=Xa a0/\w.cell? ⟨b,1,Xb⟩=Xa a1/\w.cell? ⟨b,2,Xb⟩=Xa a2/\w.cell? ⟨b,3,Xb⟩=Xa a3/\w.cell? ⟨b,4,Xb⟩=Xa a4/\w.cell? ⟨b,5,Xb⟩=Xa a5/\w.cell? ⟨b,6,Xb⟩=Xa a6:=⟨h.c 0 rfl,h.c 1 rfl,h.c 2 rfl,h.c 3 rfl,h.c 4 rfl,h.c 5 rfl,h.c 6 rfl⟩
theorem Box.c8(h:Box w b (a0::a1::a2::a3::a4::a5::a6::a7::D)):w.cell? ⟨b,0,Xb⟩=Xa a0/\w.cell? ⟨b,1,Xb⟩=Xa a1/\w.cell? ⟨b,2,Xb⟩=Xa a2/\w.cell? ⟨b,3,Xb⟩=Xa a3/\w.cell? ⟨b,4,Xb⟩=Xa a4/\w.cell? ⟨b,5,Xb⟩=Xa a5/\w.cell? ⟨b,6,Xb⟩=Xa a6/\w.cell? ⟨b,7,Xb⟩=Xa a7:=⟨h.c 0 rfl,h.c 1 rfl,h.c 2 rfl,h.c 3 rfl,h.c 4 rfl,h.c 5 rfl,h.c 6 rfl,h.c 7 rfl⟩
theorem Box.c10(h:Box w b (a0::a1::a2::a3::a4::a5::a6::a7::a8::a9::D)):w.cell? ⟨b,0,Xb⟩=Xa a0/\w.cell? ⟨b,1,Xb⟩=Xa a1/\w.cell? ⟨b,2,Xb⟩=Xa a2/\w.cell? ⟨b,3,Xb⟩=Xa a3/\w.cell? ⟨b,4,Xb⟩=Xa a4/\w.cell? ⟨b,5,Xb⟩=Xa a5/\w.cell? ⟨b,6,Xb⟩=Xa a6/\w.cell? ⟨b,7,Xb⟩=Xa a7/\w.cell? ⟨b,8,Xb⟩=Xa a8/\w.cell? ⟨b,9,Xb⟩=Xa a9:=⟨h.c 0 rfl,h.c 1 rfl,h.c 2 rfl,h.c 3 rfl,h.c 4 rfl,h.c 5 rfl,h.c 6 rfl,h.c 7 rfl,h.c 8 rfl,h.c 9 rfl⟩
theorem Box.aY(h:Box w b (a0::a1::a2::a3::a4::a5::a6::a7::a8::a9::A::D)):w.cell? ⟨b,0,Xb⟩=Xa a0/\w.cell? ⟨b,1,Xb⟩=Xa a1/\w.cell? ⟨b,2,Xb⟩=Xa a2/\w.cell? ⟨b,3,Xb⟩=Xa a3/\w.cell? ⟨b,4,Xb⟩=Xa a4/\w.cell? ⟨b,5,Xb⟩=Xa a5/\w.cell? ⟨b,6,Xb⟩=Xa a6/\w.cell? ⟨b,7,Xb⟩=Xa a7/\w.cell? ⟨b,8,Xb⟩=Xa a8/\w.cell? ⟨b,9,Xb⟩=Xa a9/\w.cell? ⟨b,10,Xb⟩=Xa A:=⟨h.c 0 rfl,h.c 1 rfl,h.c 2 rfl,h.c 3 rfl,h.c 4 rfl,h.c 5 rfl,h.c 6 rfl,h.c 7 rfl,h.c 8 rfl,h.c 9 rfl,h.c 10 rfl⟩
theorem Box.c12{c:Xq}(h:Box w b (a0::a1::a2::a3::a4::a5::a6::a7::a8::a9::A::c::D)):w.cell? ⟨b,0,Xb⟩=Xa a0/\w.cell? ⟨b,1,Xb⟩=Xa a1/\w.cell? ⟨b,2,Xb⟩=Xa a2/\w.cell? ⟨b,3,Xb⟩=Xa a3/\w.cell? ⟨b,4,Xb⟩=Xa a4/\w.cell? ⟨b,5,Xb⟩=Xa a5/\w.cell? ⟨b,6,Xb⟩=Xa a6/\w.cell? ⟨b,7,Xb⟩=Xa a7/\w.cell? ⟨b,8,Xb⟩=Xa a8/\w.cell? ⟨b,9,Xb⟩=Xa a9/\w.cell? ⟨b,10,Xb⟩=Xa A/\w.cell? ⟨b,11,Xb⟩=Xa c:=⟨h.c 0 rfl,h.c 1 rfl,h.c 2 rfl,h.c 3 rfl,h.c 4 rfl,h.c 5 rfl,h.c 6 rfl,h.c 7 rfl,h.c 8 rfl,h.c 9 rfl,h.c 10 rfl,h.c 11 rfl⟩
theorem Box.h{I:Xn->Prop}(h:Box W b D)(a:∀u,I u↔zc W u)(i:Nat)(c:D[i]?=Xa A):∀y:zh I,y.world.cell? ⟨b,i,Xb⟩=Xa A:=fun y=>(h.aA ((a _).1 y.holds)).c i c
theorem Box.gw(h:Box W b D)(i:Nat)(a:D[i]?=Xa A):∀y:zj W,y.world.cell? ⟨b,i,Xb⟩=Xa A:=fun y=>(h.aA y.aA).c i a
theorem Box.k2{w b l a0 a1}(h:Box w b (a0::a1::l)):w.cell? ⟨b,0,none⟩=some a0/\w.cell? ⟨b,1,none⟩=some a1:=⟨h.c 0 rfl,h.c 1 rfl⟩
theorem Box.k6{w b l a0 a1 a2 a3 a4 a5}(h:Box w b (a0::a1::a2::a3::a4::a5::l)):w.cell? ⟨b,0,none⟩=some a0/\w.cell? ⟨b,1,none⟩=some a1/\w.cell? ⟨b,2,none⟩=some a2/\w.cell? ⟨b,3,none⟩=some a3/\w.cell? ⟨b,4,none⟩=some a4/\w.cell? ⟨b,5,none⟩=some a5:=⟨h.c 0 rfl,h.c 1 rfl,h.c 2 rfl,h.c 3 rfl,h.c 4 rfl,h.c 5 rfl⟩
theorem Box.k10{w b l a0 a1 a2 a3 a4 a5 a6 a7 a8 a9}(h:Box w b (a0::a1::a2::a3::a4::a5::a6::a7::a8::a9::l)):w.cell? ⟨b,0,none⟩=some a0/\w.cell? ⟨b,1,none⟩=some a1/\w.cell? ⟨b,2,none⟩=some a2/\w.cell? ⟨b,3,none⟩=some a3/\w.cell? ⟨b,4,none⟩=some a4/\w.cell? ⟨b,5,none⟩=some a5/\w.cell? ⟨b,6,none⟩=some a6/\w.cell? ⟨b,7,none⟩=some a7/\w.cell? ⟨b,8,none⟩=some a8/\w.cell? ⟨b,9,none⟩=some a9:=⟨h.c 0 rfl,h.c 1 rfl,h.c 2 rfl,h.c 3 rfl,h.c 4 rfl,h.c 5 rfl,h.c 6 rfl,h.c 7 rfl,h.c 8 rfl,h.c 9 rfl⟩
theorem gP{o:Obj}(h:w.alloc o=W):zc w W:=by subst h;exact za _ _
theorem gA{o:Obj}(h:w.alloc o=W):Go.RowKit.Hid (zc w W):=show zc _ _ from gP h
theorem gT{v:Xn}{o:Obj}(h:v.alloc o=W)(g:Go.RowKit.Hid (zc w v)):Go.RowKit.Hid (zc w W):=show zc _ _ from g.out.trans (gP h)
theorem gD2{o q:Obj}(h:(w.alloc o).alloc q=W):Go.RowKit.Hid (zc w W):=show zc _ _ from(gP rfl).trans (gP h)
theorem xP(h:w.alloc (Xk D.toArray t)=W)(e:Go.RowKit.Hid (w.heap.size=k)):Go.RowKit.Hid (Box W k D):=show Box _ _ _ by subst h;exact Box.aE w D t e.out.symm
theorem xA(h:w.alloc (Xk D.toArray t)=W):Go.RowKit.Hid (Box W w.heap.size D):=xP h rfl
theorem xPT(h:w.alloc (Xk D.toArray t)=W)(e:Go.RowKit.Hid (w.heap.size=k)):Go.RowKit.Hid (zm W k t D):=show zm _ _ _ _ by subst h;exact zm.aE w D t e.out.symm
theorem xT(h:w.alloc (Xk D.toArray t)=W):Go.RowKit.Hid (zm W w.heap.size t D):=xPT h rfl
theorem yA{o:Obj}(h:w.alloc o=W)(y:Go.RowKit.Hid (Box w b D)):Go.RowKit.Hid (Box W b D):=show Box _ _ _ by subst h;exact y.out.alloc _
theorem x2a{o:Obj}(h:(w.alloc (Xk D.toArray t)).alloc o=W):Go.RowKit.Hid (Box W w.heap.size D):=yA h (xA rfl)
theorem x2b{o:Obj}(h:(w.alloc o).alloc (Xk D.toArray t)=W):Go.RowKit.Hid (Box W (w.heap.size+1) D):=show Box _ _ _ by subst h;exact Box.aE _ D t Sm
theorem sA{o:Obj}(h:w.alloc o=W):Go.RowKit.Hid (W.heap.size=w.heap.size+1):=show _=_ by subst h;simp
theorem gW(w:Xn):zc w w.drew:=show Go.RowKit.Below _ _ _ from(Go.RowKit.Below.refl _ _).drew
theorem zm.aA(h:zm w b t D)(a:zc w w'):zm w' b t D:=(a.block b h.box.lt).trans h
theorem zm.beside{a:Option Nat}(h:zm w b t D)(c:w.grownBy w' a)(hb:∀g,a=Xa g->b≠g):zm w' b t D:=by unfold zm;rw[c.block b h.box.lt (fun e=>hb b e.symm rfl)];exact h
theorem zm.set{cs:List Xq}(h:zm w b t cs)(i:Nat)(u):zm (w.setCell ⟨b,i,Xb⟩ u) b t (cs.set i u):=by have a:=h.box.lt;obtain⟨_,a⟩:=aS.1 h;unfold zm World.setCell;grind
theorem Qy(h:w.ownsRow k t b A p xs)(i:∀g,A.ownBlock=Xa g->P.block≠g)(u):(w.setCell P u).ownsRow k t b A p xs:=by
 refine⟨h.1,?_⟩;rcases h.2 with b|⟨g,b,c,rfl,d,f,h⟩;·grind
 exact .inr ⟨g,b,c,rfl,d,by rw[Below.heap_setCell _ _ _ _ (fun t=>i g rfl t.symm)];exact f,h⟩
structure Elt(α:Type)where
 enc:α->List Xq
 k:Nat
 ty:TypeId
 st:TypeId
 bytes:Nat
 zv:Xq
 zero:α
 len:∀a,(enc a).length=k
 one:∀a,∀u∈enc a,u.oneCell'=Xc
 bL:Tryz.prog.underlying st=Xa (.slice ty)
 aF:(Tryz.prog.info? ty).map (fun i=>(i.zero,i.size,i.bytes))=Xa (Xa zv,k,bytes)
 zok:zv.cells=(enc zero).toArray
 few:k<=bytes
 pos:0<k
section
variable{α:Type}{E:Elt α}
def zq(E:Elt α)(w:Xn)(v:Xq)(l:List α):Prop:=Je E.enc w v l/\l.length*E.bytes<=140737488355328
def zb(E:Elt α)(base:Nat)(w:Xn)(v:Xq)(l:List α):Prop:=w.ownsRow base E.ty E.k v l.length (l.flatMap E.enc)/\l.length*E.bytes<=140737488355328
def zqg(E:Elt α)(w:Xn)(a:Option Addr)(l:List α):Prop:=∀(j:Nat)x,l[j]?=Xa x->∃ad,a=Xa ad/\∀W,zc w W->jY W (ad.add (j*E.k)) (E.enc x)
theorem ziO(E:Elt α):E.zv.cells.size=E.k:=by rw[E.zok];simp[E.len]
theorem qF(E:Elt α)(l:List α):(l.flatMap E.enc).length=l.length*E.k:=jP l fun a _=>E.len a
theorem zq.aA{l:List α}(h:zq E w A l)(a:zc w w'):zq E w' A l:=⟨h.1.aA a,h.2⟩
theorem zq.rows{l:List α}(h:zq E w A l):∃a c,A=O a l.length c/\zqg E w a l:=by
 obtain⟨⟨a,c,e,f,g⟩,_⟩:=h;refine⟨a,c,e,fun j q b=>?_⟩;cases a with
 |none=>rw[f rfl]at b;simp at b
 |some x=>exact⟨x,rfl,fun W i=>((g x rfl).aA i).elem (k:=E.k) (fun d _=>E.len d) b⟩
theorem zq.short{l:List α}(h:zq E w A l):l.length<=9223372036854775807:=by have a:=h.2;have a:l.length*1<=l.length*E.bytes:=Ym _ (nT E.pos E.few);omega
theorem zq.nil(E:Elt α)(w):zq E w (O Xb 0 0) ([]:List α):=⟨⟨Xb,0,rfl,fun _=>rfl,fun x a=>by cases a⟩,Sm⟩
theorem zb.at{base:Nat}{l:List α}(h:zb E base w A l):zq E w A l:=⟨QT h.1,h.2⟩
theorem zb.aA{l:List α}(h:zb E k w A l)(a:zc w w'):zb E k w' A l:=⟨zaD h.1 a,h.2⟩
theorem zb.base{l:List α}(h:zb E k w A l)(hb:base'<=k):zb E base' w A l:=⟨jL h.1 hb,h.2⟩
theorem zb.setCell{l:List α}(h:zb E k w A l){a:Addr}(b:a.block<k)(u):zb E k (w.setCell a u) A l:=⟨ownsRow_setCell_below h.1 b u,h.2⟩
theorem zb.aQ{l:List α}(h:zb E k w A l){a:Addr}(b:∀g,A.ownBlock=Xa g->a.block≠g)(u):zb E k (w.setCell a u) A l:=⟨Qy h.1 b u,h.2⟩
theorem zb.lt{l:List α}(h:zb E k w A l):∀g,A.ownBlock=Xa g->k<=g/\g<w.heap.size:=h.1.lt
theorem zb.form{l:List α}(h:zb E k w A l):∃a c,A=O a l.length c:=by obtain⟨a,c,b,_⟩:=h.at.rows;exact⟨a,c,b⟩
theorem zb.aG{l:List α}(h:zb E k w A l)(a:0<l.length):∃g c,A=O (Xa ⟨g,0,Xb⟩) l.length c:=by
 rcases h.1.2 with⟨rfl,b⟩|⟨g,a,a,b,_⟩;·omega
 grind
theorem zb.fresh{l:List α}(h:zb E k w A l):zfj k A:=fun x n c e=>by
 rcases h.1.2 with⟨b,_⟩|⟨g,a,a,b,a,_⟩;·grind
 grind
theorem zb.nil(E:Elt α)(base:Nat)(w):zb E base w (O Xb 0 0) ([]:List α):=⟨World.ownsRow_nil _ _ _ _,Sm⟩
theorem zb.made(E:Elt α)(w:Xn):zb E w.heap.size (w.alloc (Xk #[] E.ty)) (O (Xa ⟨w.heap.size,0,Xb⟩) 0 0) ([]:List α):=⟨World.ownsRow_made w #[] 0 (nR _) (nZ _) Sm,Sm⟩
theorem zb.ne{l:List α}(h:zb E k w A l)(hb:zm w b t D)(ht:t≠E.ty):∀g,A.ownBlock=Xa g->b≠g:=fun g a e=>by
 subst e;rcases h.1.2 with⟨rfl,_⟩|⟨c,c,c,rfl,_,c,_⟩;·cases a
 simp only[Value.ownBlock,Option.some.injEq]at a;subst a;rw[hb]at c;grind
theorem zb.grown{a:Option Nat}{l:List α}(h:zb E k w A l)(i:w.grownBy w' a)(c:∀g,A.ownBlock=Xa g->a≠Xa g):zb E k w' A l:=by
 refine⟨⟨h.1.1,?_⟩,h.2⟩;rcases h.1.2 with a|⟨g,a,b,rfl,e,d,f⟩;·grind
 exact .inr ⟨g,a,b,rfl,e,by rw[i.block g (aS.1 d).1 (fun e=>c g rfl e.symm)];exact d,f⟩
def q9(E:Elt α)(base:Nat)(w:Xn)(v:Xq)(l:List α):Prop:=zq E w v l/\zfj base v
theorem q9.base{l:List α}(h:q9 E k w A l)(hb:base'<=k):q9 E base' w A l:=⟨h.1,fun x n c e=>nT hb (h.2 x n c e)⟩
theorem q9.nil(E:Elt α)(base:Nat)(w):q9 E base w (O Xb 0 0) ([]:List α):=⟨zq.nil E w,zex _⟩
theorem zb.new{l:List α}(h:zb E k w A l):q9 E k w A l:=⟨h.at,h.fresh⟩
theorem QW{l:List α}(b)(a:zb E k w A l)(c:Nat):(Builtin.append_ #[E.st,E.st] b #[A,O Xb 0 c]).run prog w=.ok A w:=by
 obtain⟨b,b,_,d,_⟩:=info_parts E.aF;rcases a.1.2 with⟨rfl,_⟩|⟨g,a,a,rfl,_,_,a,_⟩;·simp[Builtin.append_,run_underlying E.bL,sizeOf,typeInfo,b,Builtin.lenOf,Builtin.firstCells]
 simp[Builtin.append_,run_underlying E.bL,sizeOf,typeInfo,b,Builtin.lenOf,Builtin.firstCells,a,storeCells]
theorem zw(f:o.guard=Xb)(s x)(p:o.op=.call {callee:=.builtin .append,args:=#[s,x],argTypes:=#[E.st,E.st]})
  (base:Nat)(vs:Xq)(l0:List α)(q:a.eval s=vs)(b:zb E base w vs l0)(c:Xq)(l:List α)(r:a.eval x=c)(i:zq E w c l)(hb:(l0.length+l.length)*E.bytes<=140737488355328)(d:base<=w.heap.size)
  (m:∀g w',zb E base w' g (l0++l)->w.grownBy w' vs.ownBlock->wpList prog ops Q K (a.put o.dst g) w'):wpList prog ops Q (o::K) a w:=by
 obtain⟨⟨h,k,rfl,e,c⟩,_⟩:=i;cases h with
 |none=>
  have h:=e rfl;subst h;refine wpList_plain f fun rest h=>?_;have e:=QW o.type b k;unfold Oper.wp execOp;simp only[p,resolve,invoke,builtin,Yg,Yk,rA,List.map_toArray,mP,List.map_nil,q,r,Yj,e];exact h _ _ (m vs w (by rw[List.append_nil];exact b) (World.grownBy.rfl' _ _))
 |some j=>
  obtain⟨u,t,e,h,i⟩:=info_parts E.aF;have n:(l0.length+l.length)*1<=(l0.length+l.length)*E.bytes:=Ym _ (nT E.pos E.few);refine wpList_append_own w f s x E.st p base E.ty u _ E.k E.bytes E.bL t e h i (ziO E) E.pos vs l0.length _ q b.1 j l.length k (l.flatMap E.enc) r (qF E l) (c j rfl) (qW E.one l) (q5 Wm) hb d fun g w' b n _=>?_;exact m g w' ⟨by rw[lA,Yz];exact b,Rx lA hb⟩ n
theorem JY{x y:α}(j:Nat)(cs:List Xq)(b:E.enc y=splice (E.enc x) j cs)(e:j+cs.length<=E.k):∀(l:List α)(i:Nat),l[i]?=Xa x->splice (l.flatMap E.enc) (i*E.k+j) cs=(l.set i y).flatMap E.enc
 |[],i,hi=>by simp at hi
 |a::l,0,hi=>by
  simp at hi
  subst hi;have c:=E.len a;simp only[splice,Yf,Gc,zA,sZ]at b⊢;rw[b,Oh Wm,Og Wm]
  simp
 |a::l,i+1,hi=>by
  have c:=E.len a;have d:=JY j cs b e l i (Si hi);simp only[splice,Yf,sS]at d⊢;rw[<-d,Gd,Ok (i*E.k) E.k,Oe,<-c,Ol,Oe,Om,Yl]
theorem zx(d:o.guard=Xb)(p x t)(C:o.op=.store t p x)(base:Nat)(v:Xq)(l:List α)(b:zb E base w v l)
  (g i j:Nat)(A:v.ownBlock=Xa g)(e y:α)(hi:l[i]?=Xa e)(cs:List Xq)(f:(Tryz.prog.info? t).map (·.size)=Xa cs.length)(G:E.enc y=splice (E.enc e) j cs)(B:j+cs.length<=E.k)(q:∀u∈cs,u.oneCell'=Xc)
  (ad:Addr)(hp:a.eval p=Xj (Xa ad))(c:ad=⟨g,i*E.k+j,Xb⟩)(k:Xq)(F:a.eval x=k)(h:k.cells=cs.toArray)
  (n:∀w',zb E base w' v (l.set i y)->w.grownBy w' (Xa g)->w'.heap.size=w.heap.size->wpList prog ops Q K (a.put o.dst undef) w'):wpList prog ops Q (o::K) a w:=by
 subst c;refine wpList_plain d fun rest z=>?_;have d:=(gS.1 hi).1;have c:i*E.k+j+cs.length<=l.length*E.k:=by
  have:(i+1)*E.k<=l.length*E.k:=Yw _ d;rw[Ou]at this;omega
 obtain⟨w',D,m,r,s⟩:=Zk (P:=prog) b.1 A (i*E.k+j) cs c q;have d:(Go.sizeOf t).run prog w=.ok cs.length w:=by
  cases c:Tryz.prog.info? t with
  |none=>simp[c]at f
  |some i=>simp[c]at f;simp[Go.sizeOf,typeInfo,c,f]
 have c:(Instr.storeAt t (Xj (Xa ⟨g,i*E.k+j,Xb⟩)) k).run prog w=.ok () w':=by
  simp[Instr.storeAt,Instr.sureAddr,storeVar,Yg,d,Result.andThen,h,D]
 unfold Oper.wp;simp only[execOp,C,hp,F,Yg,c,Result.andThen,Yk,Oper.upon];rw[JY j cs G B l i hi]at m;exact z _ _ (n w' ⟨Rx Yt m,Rx Yt b.2⟩ r s)
theorem z3(d:o.guard=Xb)(p x)(n:o.op=.store E.ty p x)(base:Nat)(v:Xq)(l:List α)(b:zb E base w v l)
  (g i:Nat)(m:v.ownBlock=Xa g)(y:α)(hi:i<l.length)(ad:Addr)(hp:a.eval p=Xj (Xa ad))(c:ad=⟨g,i*E.k,Xb⟩)(j:Xq)(q:a.eval x=j)(f:j.cells=(E.enc y).toArray)
  (k:∀w',zb E base w' v (l.set i y)->w.grownBy w' (Xa g)->w'.heap.size=w.heap.size->wpList prog ops Q K (a.put o.dst undef) w'):wpList prog ops Q (o::K) a w:=by obtain⟨e,e,_,h,_⟩:=info_parts E.aF;refine zx d p x E.ty n base v l b g i 0 m (l[i]) y (gE hi) (E.enc y) (by rw[e];simp[h,E.len]) ?_ (by rw[E.len];omega) (E.one y) ad hp (Rr c) j q f k;unfold splice;rw[List.take_zero,Uh,zA,Yq (by rw[E.len,E.len];exact nR _),List.append_nil]
theorem zdz(E:Elt α)(n:Nat):(madeCells E.zv.cells (n*E.k)).toList=(Xr n E.zero).flatMap E.enc:=by
 have e:((Xr n E.zero).flatMap E.enc).length=n*E.k:=by rw[qF E];simp
 have a:0<E.k:=E.pos;apply Yh;intro j;rcases Yo j (n*E.k)with h|h
 ·have d:j=j/E.k*E.k+j%E.k:=by rw[Nat.mul_comm];exact(Nat.div_add_mod _ _).symm
  have b:j%E.k<E.k:=Nat.mod_lt _ a;have f:j/E.k<n:=(Nat.div_lt_iff_lt_mul a).2 h;have g:(E.enc E.zero)[j%E.k]?=Xa ((E.enc E.zero)[j%E.k]'(by rw[E.len];exact b)):=gE _;have a:=jB (enc:=E.enc) (k:=E.k) (Xr n E.zero) (j/E.k) E.zero (fun c _=>E.len c) (by simp[f]) (j%E.k) _ g;rw[<-d]at a;rw[a];simp[madeCells,h,E.zok,E.len,b]
 rw[gN (by simp[madeCells];exact h),gN (Rx e h)]
theorem zas(E:Elt α)(hgd:o.guard=Xb)(l:Operand)(ho:o.op=.makeSlice E.st l l)(n:Nat)(hl:a.eval l=Xe Xf n)(hn:n*E.bytes<=140737488355328)
  (h:∀C,zb E w.heap.size (w.alloc (Xk C E.ty)) (O (Xa ⟨w.heap.size,0,Xb⟩) n n) (Xr n E.zero)->wpList prog ops Q K (a.put o.dst (O (Xa ⟨w.heap.size,0,Xb⟩) n n)) (w.alloc (Xk C E.ty))):wpList prog ops Q (o::K) a w:=by
 refine wpList_plain hgd fun rest hK=>?_;obtain⟨i0,hi,hz0,hz1,hz2⟩:=info_parts E.aF;have h2:n*1<=n*E.bytes:=Ym _ (nT E.pos E.few);have hb:((E.bytes:Int)*(n:Int))<=140737488355328:=by
  obtain⟨B,hB⟩:=kB (n*E.bytes);rw[hB]at hn;rw[<-Int.natCast_mul,Nat.mul_comm,hB];omega
 have hrun:=run_make (P:=prog) w E.st E.ty i0 _ E.bL hi hz0 .i64 .i64 n n (by omega) (Int.le_refl _) (by rw[hz2];exact Int.le_trans hb (by omega)) (by omega);rw[hz1,tN]at hrun;unfold Oper.wp;simp only[execOp,ho,hl,Yg,hrun,Result.andThen,Yk,Oper.upon];refine hK _ _ (h _ ⟨⟨?_,.inr ⟨w.heap.size,n,madeCells E.zv.cells (n*E.k),by rw[lR],nR _,?_,?_,?_,?_,?_⟩⟩,by rw[lR];exact hn⟩);·rw[qF E]
 ·show(w.heap.push _)[w.heap.size]?=_
  simp
 ·rw[lR];exact nR _
 ·exact q5 (by omega)
 ·rw[size_madeCells]
 rw[lR,Uc (by simp[madeCells]),zdz E]
end
structure Out(B0 B1:Nat)(w w':Xn):Prop where
 os:w'.os=w.os
 tape:w'.tape=w.tape
 output:w'.output=w.output
 size:w.heap.size<=w'.heap.size
 block:∀k,k<w.heap.size->(k<B0\/B1<=k)->w'.heap[k]?=w.heap[k]?
theorem Out.refl(B0 B1:Nat)(w):Out B0 B1 w w:=⟨rfl,rfl,rfl,nR _,fun _ _ _=>rfl⟩
theorem Out.trans{b c:Xn}(h:Out B0 B1 w b)(k:Out B0 B1 b c):Out B0 B1 w c:=
 ⟨k.os.trans h.os,k.tape.trans h.tape,k.output.trans h.output,nT h.size k.size,fun i e d=>(k.block i (Yr e h.size) d).trans (h.block i e d)⟩
theorem Out.aA{b:Xn}(h:zc w b):Out B0 B1 w b:=⟨Below.os h,Below.tape h,Below.output h,bS h,fun i c _=>Below.block h i c⟩
theorem Out.setCell(B0 B1:Nat)(w:Xn){p:Addr}(a:B0<=p.block)(b:p.block<B1)(u):Out B0 B1 w (w.setCell p u):=
 ⟨rfl,rfl,rfl,by simp[World.setCell],fun k _ a=>Below.heap_setCell _ _ _ _ Wm⟩
theorem Out.grown{b:Option Nat}(a:w.grownBy w' b)(h:∀g,b=Xa g->B0<=g/\g<B1):Out B0 B1 w w':=
 ⟨a.os,a.tape,a.output,a.size,fun k b c=>a.block k b (fun e=>Hm (h k e.symm))⟩
theorem Out.wide{b:Xn}(h:Out A0 A1 w b)(c:B0<=A0)(d:A1<=B1):Out B0 B1 w b:=
 ⟨h.os,h.tape,h.output,h.size,fun i c d=>h.block i c Wm⟩
theorem Out.drew(w:Xn):Out B0 B1 w w.drew:=Out.aA (gW _)
theorem Out.bQ(h:zc w W)(b:w.heap.size<=B0)(k:Out B0 B1 W w'):zc w w':=
 (show Below _ _ _ from Below.trans h ⟨k.os,k.tape,k.output,k.size,fun i a=>k.block i (Yr a (bS h)) (.inl (Yr a b))⟩)
theorem Out.zero(h:Out 0 0 w w'):zc w w':=⟨h.os,h.tape,h.output,h.size,fun k a=>h.block k a (.inr (nZ _))⟩
theorem Box.out(h:Box w b D)(k:Out B0 B1 w w')(hb:b<B0\/B1<=b):Box w' b D:=by have a:=h.lt;obtain⟨t,h⟩:=h;exact⟨t,by rw[k.block b a hb];exact h⟩
section
variable{α:Type}{E:Elt α}
def zj2(E:Elt α)(B0 B1:Nat)(w:Xn)(v:Xq)(l:List α):Prop:=∀w',Out B0 B1 w w'->zq E w' v l
theorem zj2.now{l:List α}(h:zj2 E B0 B1 w A l):zq E w A l:=h w (Out.refl _ _ _)
theorem zj2.out{l:List α}(h:zj2 E B0 B1 w A l)(k:Out B0 B1 w w'):zj2 E B0 B1 w' A l:=fun b a=>h b (k.trans a)
theorem zj2.less{l:List α}(h:zj2 E B0 B1 w A l)(a:B0<=A0)(b:A1<=B1):zj2 E A0 A1 w A l:=fun d c=>h d (c.wide a b)
theorem zq.stays(B1:Nat){l:List α}(h:zq E w A l)(a:w.heap.size<=B0)(b:zc w W):zj2 E B0 B1 W A l:=fun _ k=>h.aA (k.bQ b a)
theorem zq.s0{l:List α}(h:zq E w A l):zj2 E 0 0 w A l:=fun _ k=>h.aA k.zero
theorem q9.stays{l:List α}(h:q9 E k w A l):zj2 E 0 k w A l:=fun a v=>by
 obtain⟨⟨⟨b,c,a,d,e⟩,f⟩,g⟩:=h;refine⟨⟨b,c,a,d,fun x b j u c=>?_⟩,f⟩;subst b;have b:=e x rfl j u c;have d:=World.block_lt_of_cell? _ _ b;have c:=g x _ _ a;rw[World.cell?_of_block (w:=w) (v.block _ d (.inr (Rx zcu c)))];exact b
theorem Zp(E:Elt α)(w:Xn)(x:α)(cs:Array Xq)(t)(a:cs=(E.enc x).toArray)(hb:E.bytes<=140737488355328):zq E (w.alloc (Xk cs t)) (O (Xa ⟨w.heap.size,0,Xb⟩) 1 1) [x]:=by subst a;refine⟨⟨_,1,rfl,fun h=>(by cases h),fun y a=>?_⟩,Si hb⟩;grind[jY.aE]
end
def Cap:Xq->Prop
 |O _ n c=>n<=c
 |_=>True
theorem zb.cap{α:Type}{E:Elt α}{base:Nat}{w:Xn}{v:Xq}{l:List α}(h:zb E base w v l):Cap v:=by
 rcases h.1.2 with⟨rfl,_⟩|⟨g,a,a,rfl,_,_,a,_⟩;·exact nR _
 exact a
structure qC(D:Nat->Prop)(w w':Xn):Prop where
 os:w'.os=w.os
 tape:w'.tape=w.tape
 output:w'.output=w.output
 size:w.heap.size<=w'.heap.size
 block:∀k,k<w.heap.size->¬D k->w'.heap[k]?=w.heap[k]?
theorem qC.refl(D:Nat->Prop)(w):qC D w w:=⟨rfl,rfl,rfl,nR _,fun _ _ _=>rfl⟩
theorem qC.trans{D:Nat->Prop}{b c:Xn}(h:qC D w b)(k:qC D b c):qC D w c:=
 ⟨k.os.trans h.os,k.tape.trans h.tape,k.output.trans h.output,nT h.size k.size,fun i e d=>(k.block i (Yr e h.size) d).trans (h.block i e d)⟩
theorem qC.aA{D:Nat->Prop}{b:Xn}(h:zc w b):qC D w b:=⟨Below.os h,Below.tape h,Below.output h,bS h,fun i c _=>Below.block h i c⟩
theorem qC.wide{D c:Nat->Prop}{b:Xn}(h:qC c w b)(hd:∀k,c k->D k):qC D w b:=⟨h.os,h.tape,h.output,h.size,fun i d c=>h.block i d (fun e=>c (hd i e))⟩
section
variable{α:Type}{E:Elt α}
def zmm(E:Elt α)(D:Nat->Prop)(w:Xn)(v:Xq)(l:List α):Prop:=∀w',qC D w w'->zq E w' v l
theorem q9.aV{base:Nat}{l:List α}(h:q9 E base w A l){D:Nat->Prop}(hd:∀k,D k->k<base):zmm E D w A l:=fun a k=>by
 obtain⟨⟨⟨b,c,a,d,e⟩,f⟩,g⟩:=h;refine⟨⟨b,c,a,d,fun x b j u c=>?_⟩,f⟩;subst b;have b:=e x rfl j u c;have c:=World.block_lt_of_cell? _ _ b;have d:=g x _ _ a;rw[World.cell?_of_block (w:=w) (k.block _ c (fun e=>by have:=hd _ e;rw[zcu]at this;omega))];exact b
end
theorem zb.obj{α:Type}{E:Elt α}{base:Nat}{w:Xn}{v:Xq}{l:List α}(h:zb E base w v l){g:Nat}(a:v.ownBlock=Xa g):∃cs,w.heap[g]?=Xa (Xk cs E.ty (0,0)):=by
 rcases h.1.2 with⟨rfl,_⟩|⟨b,b,b,rfl,_,b,_⟩;·cases a
 simp only[Value.ownBlock,Option.some.injEq]at a;grind
theorem zb.apart{α a:Type}{E:Elt α}{F:Elt a}{base:Nat}{w:Xn}{v u:Xq}{l:List α}{m:List a}(h:zb E base w v l)(k:zb F base' w u m)(ht:E.ty≠F.ty):∀g,v.ownBlock=Xa g->u.ownBlock≠Xa g:=fun g a b=>by
 obtain⟨c,c⟩:=h.obj a;obtain⟨a,a⟩:=k.obj b;grind
theorem zb.one{α:Type}{E:Elt α}{base g n c:Nat}{w:Xn}{l:List α}(h:zb E base w (O (Xa ⟨g,0,Xb⟩) n c) l){i:Nat}{x:α}(d:l[i]?=Xa x):jY w ((Addr.mk g 0 Xb).add (i*E.k)) (E.enc x):=by obtain⟨a,a,a,a⟩:=h.at.rows;obtain⟨b,b,b⟩:=a i _ d;grind[zc.refl]
def bel(m n:Int):Bool:=decide (0<=m)&&decide (m<n)
theorem Jc{n:Int}:bel z n=Xc↔0<=z/\z<n:=by simp[bel]
theorem zoo{n:Int}(h:¬(0<=z/\z<n)):bel z n=Xd:=by
 cases a:bel z n with
 |false=>rfl
 |true=>exact absurd (Jc.1 a) h
theorem zrl{p:α->Bool}{q:α}(h:y[k]?=Xa q)(a:p q=Xc):y.any p=Xc:=Ye.2 ⟨q,mG h,a⟩
theorem zrk{p:α->Bool}(hb:∀(j:Nat)x,y[j]?=Xa x->p x=Xd):y.any p=Xd:=Yu.2 fun x a=>by grind[Xu]
theorem Zf{q:α}(h:y[k]?=Xa q):y.drop k=q::y.drop (k+1):=by grind[gS.1,List.drop_eq_getElem_cons]
theorem jU{q:α}(h:y[k]?=Xa q):y.take (k+1)=y.take k++[q]:=by rw[Oc,h];rfl
theorem zcG{A:α}{s:α}(h:List.lookup b [(k,A)]=Xa s):b=k/\s=A:=by grind
theorem zly{A B:α}{s:α}(h:List.lookup p [(k,A),(b,B)]=Xa s):(p=k/\s=A)\/(p=b/\s=B):=by grind
theorem zq.beside{α:Type}{E:Elt α}{w:Xn}{a:Option Nat}{v:Xq}{l:List α}(h:zq E w v l)(g:w.grownBy w' a)(i:∀x n c,v=O (Xa x) n c->Xa x.block≠a):zq E w' v l:=by obtain⟨⟨b,c,a,d,e⟩,f⟩:=h;refine⟨⟨b,c,a,d,fun x d j u b=>?_⟩,f⟩;subst d;exact g.cell (e x rfl j u b) (by rw[zcu];exact i x _ _ a)
theorem zgj{v:α}(h:y[k]?=Xa v):y.set k v=y:=by apply Yh;grind
theorem Za{b c:Xn}{d:Option Nat}(h:w.grownBy b d)(k:b.grownBy c d):w.grownBy c d:=
 ⟨k.os.trans h.os,k.tape.trans h.tape,k.output.trans h.output,nT h.size k.size,fun i d e=>(k.block i (Yr d h.size) e).trans (h.block i d e)⟩
theorem zcN{b:Xn}(h:zc w b)(c:Option Nat):w.grownBy b c:=⟨Below.os h,Below.tape h,Below.output h,bS h,fun i c _=>Below.block h i c⟩
def pgv(p:Pg):List Xq:=[Xe Xg p.b0,Xe Xg p.b1,Xe Xg p.b2,Xe Xg p.b3,Xe Xg p.b4,Xe Xg p.b5,Xe Xg p.b6,Xe Xg p.b7]
def frv(a:Fr):List Xq:=[Xe Xg a.p.b0,Xe Xg a.p.b1,Xe Xg a.p.b2,Xe Xg a.p.b3,Xe Xg a.p.b4,Xe Xg a.p.b5,Xe Xg a.p.b6,Xe Xg a.p.b7,Xe Xf a.r,Xh a.u,Xh a.d,Xe Xf a.f,Xe Xf a.x]
theorem zsE:(Tryz.prog.info? 53).map (fun i=>(i.zero,i.size,i.bytes))=Xa (Xa (Xi #[Xe Xg 0,Xe Xg 0,Xe Xg 0,Xe Xg 0,Xe Xg 0,Xe Xg 0,Xe Xg 0,Xe Xg 0,Xe Xf 0,Xh Xd,Xh Xd,Xe Xf 0,Xe Xf 0]),13,40):=by kernel_rfl
def frz:Xq:=Xi #[Xe Xg 0,Xe Xg 0,Xe Xg 0,Xe Xg 0,Xe Xg 0,Xe Xg 0,Xe Xg 0,Xe Xg 0,Xe Xf 0,Xh Xd,Xh Xd,Xe Xf 0,Xe Xf 0]
theorem zrR:frz.cells=(frv fr0).toArray:=rfl
theorem zqY(a):(frv a).length=13:=rfl
theorem zqX(a):∀u∈frv a,u.oneCell'=Xc:=fun u b=>by
 simp only[frv,mC,nM,or_false]at b;rcases b with rfl|rfl|rfl|rfl|rfl|rfl|rfl|rfl|rfl|rfl|rfl|rfl|rfl<;>rfl
theorem zdC{b:Fr}(h:Jj Y b=Xc):Y=b:=(zeA Y b).1 h
theorem zpw{b:Fr}(h:Y≠b):Jj Y b=Xd:=by
 cases c:Jj Y b with
 |false=>rfl
 |true=>exact absurd (zdC c) h
def q3:Elt Fr where
 enc:=frv
 k:=13
 ty:=53
 st:=26
 bytes:=40
 zv:=frz
 zero:=fr0
 len:=zqY
 one:=zqX
 bL:=underlying26
 aF:=zsE
 zok:=zrR
 few:=by decide
 pos:=by decide
theorem zae(w E)(k:IntKind)(d:Nat)(xs c:Array Xq)(i:TypeInfo)(e:V.underlying E=Xa (.int k))(hi:V.info? E=Xa i)(q:i.size=1):
  ∀(a b:List Int)(o:Nat),a.length=b.length->(∀j v,a[j]?=Xa v->xs[o+j]?=Xa (.int k v))->(∀j v,b[j]?=Xa v->c[o+j]?=Xa (.int k v))->
   (Op.eqItems (d+1) E 1 xs c (List.range' o a.length)).run V w=.ok (decide (a=b)) w
 |[],[],_,_,_,_=>by simp[Op.eqItems]
 |[],_::_,_,h,_,_=>by simp at h
 |_::_,[],_,h,_,_=>by simp at h
 |x::a,y::b,o,h,l,m=>by
  have n:=l 0 x rfl;have p:=m 0 y rfl;have g:∀(f:Array Xq)v,f[o+0]?=Xa (.int k v)->(part E f (o*1)).run V w=.ok (.int k v) w:=fun f v f=>by
   rw[Nat.mul_one];exact run_part_plain w (by simp[Program.plainKey,e]) f
  have r:=zae w E k d xs c i e hi q a b (o+1) (Si h) (fun j v f=>by rw[Oe,Ok 1 j];exact l (j+1) v (Si f)) (fun j v f=>by rw[Oe,Ok 1 j];exact m (j+1) v (Si f));simp only[Yi,List.range'_succ,Op.eqItems,Yg,g xs x n,g c y p,rA,run_equalIn_int w d E k k x y e];by_cases c:x=y
  ·subst c
   simp[r]
  have:(x==y)=Xd:=Si c;simp[this,c]
theorem zfc{P:Program}(w T E)(k:IntKind)(d n:Nat)(a b:List Int)(i:TypeInfo)(f:P.underlying T=Xa (.array n E))(e:P.underlying E=Xa (.int k))(hi:P.info? E=Xa i)(c:i.size=1)
  (g:a.length=n)(hb:b.length=n):
  (Op.equalIn (d+2) T (Xi (a.map (Value.int k)).toArray) (Xi (b.map (Value.int k)).toArray)).run P w=.ok (decide (a=b)) w:=by
 have h:P.cellsOf E=1:=by simp[Program.cellsOf,hi,c]
 rw[run_equalIn_array w (d+1) _ _ f hi,h,Ul,<-g];exact zae w E k d _ _ i e hi c a b 0 Wm (fun j v c=>by simp[c]) (fun j v c=>by simp[c])
def zj5(W:Xn)(y:Addr)(a:Fr):Prop:=
 W.cell? y=Xa (Xe Xg a.p.b0)/\W.cell? {block:=y.block,off:=y.off+1}=Xa (Xe Xg a.p.b1)/\W.cell? {block:=y.block,off:=y.off+2}=Xa (Xe Xg a.p.b2)/\W.cell? {block:=y.block,off:=y.off+3}=Xa (Xe Xg a.p.b3)/\
 W.cell? {block:=y.block,off:=y.off+4}=Xa (Xe Xg a.p.b4)/\W.cell? {block:=y.block,off:=y.off+5}=Xa (Xe Xg a.p.b5)/\W.cell? {block:=y.block,off:=y.off+6}=Xa (Xe Xg a.p.b6)/\W.cell? {block:=y.block,off:=y.off+7}=Xa (Xe Xg a.p.b7)/\
 W.cell? {block:=y.block,off:=y.off+8}=Xa (Xe Xf a.r)/\W.cell? {block:=y.block,off:=y.off+9}=Xa (Xh a.u)/\W.cell? {block:=y.block,off:=y.off+10}=Xa (Xh a.d)/\W.cell? {block:=y.block,off:=y.off+11}=Xa (Xe Xf a.f)/\W.cell? {block:=y.block,off:=y.off+12}=Xa (Xe Xf a.x)
theorem jY.fr(h:jY W P (frv Y)):zj5 W P Y:=
 ⟨h 0 _ rfl,h 1 _ rfl,h 2 _ rfl,h 3 _ rfl,h 4 _ rfl,h 5 _ rfl,h 6 _ rfl,h 7 _ rfl,h 8 _ rfl,h 9 _ rfl,h 10 _ rfl,h 11 _ rfl,h 12 _ rfl⟩
def ziK(w:Xn)(a:Option Addr)(l:List Fr):Prop:=∀(j:Nat)x,l[j]?=Xa x->∃ad,a=Xa ad/\∀W,zc w W->zj5 W (ad.add (j*13)) x
theorem zq.bC(h:zq q3 w A R):∃a c,A=O a R.length c/\ziK w a R:=by obtain⟨a,c,d,e⟩:=h.rows;refine⟨a,c,d,fun k x j=>?_⟩;obtain⟨b,f,g⟩:=e k x j;exact⟨b,f,fun W i=>(g W i).fr⟩
theorem zsF:(Tryz.prog.info? 5).map (fun i=>(i.zero,i.size,i.bytes))=Xa (Xa (Xe Xg 0),1,1):=by kernel_rfl
theorem QL(k:Nat)(a b c d e f g h i j l m n p q r:Int)(x):(Op.equalIn (k+2) 44 (Xi #[Xe Xg a,Xe Xg b,Xe Xg c,Xe Xg d,Xe Xg e,Xe Xg f,Xe Xg g,Xe Xg h]) (Xi #[Xe Xg i,Xe Xg j,Xe Xg l,Xe Xg m,Xe Xg n,Xe Xg p,Xe Xg q,Xe Xg r])).run prog x=.ok (zdi ⟨a,b,c,d,e,f,g,h⟩ ⟨i,j,l,m,n,p,q,r⟩) x:=by
 obtain⟨u,s,_,t,_⟩:=info_parts zsF;have:=zfc (P:=prog) x 44 5 .u8 k 8 [a,b,c,d,e,f,g,h] [i,j,l,m,n,p,q,r] u underlying44 underlying5 s t rfl rfl;rw[show zdi ⟨a,b,c,d,e,f,g,h⟩ ⟨i,j,l,m,n,p,q,r⟩=decide ([a,b,c,d,e,f,g,h]=[i,j,l,m,n,p,q,r])from by
  rw[Ui,zb1,decide_eq_true_iff];simp only[Pg.mk.injEq,List.cons.injEq,and_true]]
 exact this
theorem zh9(a b c e g h i j w:Int)(u d:Bool)(f x:Int)(k l m n p q r s y:Int)(u' t:Bool)(v z:Int)(W):
  (Op.equalIn 10000 53 (Xi #[Xe Xg a,Xe Xg b,Xe Xg c,Xe Xg e,Xe Xg g,Xe Xg h,Xe Xg i,Xe Xg j,Xe Xf w,Xh u,Xh d,Xe Xf f,Xe Xf x]) (Xi #[Xe Xg k,Xe Xg l,Xe Xg m,Xe Xg n,Xe Xg p,Xe Xg q,Xe Xg r,Xe Xg s,Xe Xf y,Xh u',Xh t,Xe Xf v,Xe Xf z])).run prog W
   =.ok (Jj ⟨⟨a,b,c,e,g,h,i,j⟩,w,u,d,f,x⟩ ⟨⟨k,l,m,n,p,q,r,s⟩,y,u',t,v,z⟩) W:=by
 have C:Tryz.prog.underlying 53=Xa (.struct (Tryz.prog.fieldsOf 53)):=Kr;have D:Tryz.prog.stoodInHeld 53=Xd:=Kr;have A:=QL 9997 a b c e g h i j k l m n p q r s;have u3:=underlying3;have B:=Tryz.isAgg3;have B:=Tryz.sizeOf3;have u4:=underlying4;have B:=Tryz.isAgg4;have B:=Tryz.sizeOf4;have B:=Tryz.isAgg44;have B:=Tryz.sizeOf44;rw[show Jj ⟨⟨a,b,c,e,g,h,i,j⟩,w,u,d,f,x⟩ ⟨⟨k,l,m,n,p,q,r,s⟩,y,u',t,v,z⟩=(zdi ⟨a,b,c,e,g,h,i,j⟩ ⟨k,l,m,n,p,q,r,s⟩&&(w==y)&&(u==u')&&(d==t)&&(f==v)&&(x==z))from rfl];generalize zdi ⟨a,b,c,e,g,h,i,j⟩ ⟨k,l,m,n,p,q,r,s⟩=P at A⊢;rw[show(10000:Nat)=9999+1 from rfl,run_equalIn_agg W 9999 53 _ _ C D];simp only[Program.fieldsOf,underlying53];go_simp
 cases P;·simp
 by_cases a:w=y<;>by_cases b:u=u'<;>by_cases c:d=t<;>by_cases e:f=v<;>by_cases g:x=z<;>simp[a,b,c,e,g]
theorem zO.step{v:Xq}(b:(execOp a.eval o).run V w=.ok (.value v) w')(h:N v w'):zO V o a w N:=by unfold zO;rw[b];exact h
section
variable{α:Type}{E:Elt α}
theorem Ql(n)(q:zb E k w (O (Xa ⟨b,0,Xb⟩) 0 0) ([]:List α))(a)(l:List α)(e:zq E w a l)(g:k<=w.heap.size):
  ∃d w',(Builtin.append_ #[E.st,E.st] n #[O (Xa ⟨b,0,Xb⟩) 0 0,a]).run prog w=.ok d w'/\zb E k w' d l/\zc w w'/\(l=[]->d=O (Xa ⟨b,0,Xb⟩) 0 0):=by
 obtain⟨s,f,h,i,j⟩:=info_parts E.aF;obtain⟨⟨base,p,rfl,c,a⟩,m⟩:=e;by_cases e:l=[]
 ·subst e;refine⟨_,w,?_,q,zc.refl w,fun _=>rfl⟩;cases base with
  |none=>simp[Builtin.append_,run_underlying E.bL,sizeOf,typeInfo,f,Builtin.lenOf,Builtin.firstCells,storeCells]
  |some x=>simp[Builtin.append_,run_underlying E.bL,sizeOf,typeInfo,f,Builtin.lenOf,Builtin.firstCells,loadCells,loadCellsFrom,storeCells]
 cases base with
 |none=>exact absurd (c rfl) e
 |some base=>
  have c:=List.length_pos_iff.2 e;have c:l.length*1<=l.length*E.bytes:=Ym _ (nT E.pos E.few);obtain⟨d,w',r,q,c⟩:=run_append_arg_grows (P:=prog) w E.st n E.ty s _ E.k E.bytes E.bL f h i j (ziO E) E.pos ⟨b,0,Xb⟩ 0 0 [] Sm (fun j u f=>by simp at f) base l.length p (l.flatMap E.enc) (qF E l) (a base rfl) Wm (q5 Wm) (Si m);refine⟨d,w',r,⟨jL (Si q) g,m⟩,⟨c.os,c.tape,c.output,c.size,fun base a=>c.block base a Sm⟩,fun h=>absurd h e⟩
theorem qP{l0:List α}(t)(j:zb E k w A l0)(a)(l:List α)(f:zq E w a l)(hb:(l0.length+l.length)*E.bytes<=140737488355328)(d:k<=w.heap.size):
  ∃n w',(Builtin.append_ #[E.st,E.st] t #[A,a]).run prog w=.ok n w'/\zb E k w' n (l0++l)/\w.grownBy w' A.ownBlock/\∀u m,m.length<=l0.length->zb E k w u m->zb E k w' u m:=by
 obtain⟨G,F,r,g,s⟩:=info_parts E.aF;obtain⟨⟨c,x,rfl,b,a⟩,e⟩:=f;have e:(l0.length+l.length)*1<=(l0.length+l.length)*E.bytes:=Ym _ (nT E.pos E.few);cases c with
 |none=>
  have c:=b rfl;subst c;exact⟨A,w,QW t j x,Si j,World.grownBy.rfl' _ _,fun u m _ h=>h⟩
 |some i=>
  rcases j.1.2 with⟨rfl,b⟩|⟨v,e,b,rfl,b,D,b,b,B,C⟩
  ·obtain⟨n,w',q,base,b,_⟩:=run_append_own (P:=prog) w k E.st t E.ty G _ E.k E.bytes E.bL F r g s (ziO E) E.pos _ l0.length _ j.1 i l.length x (l.flatMap E.enc) (qF E l) (a i rfl) (qW E.one l) (q5 Wm) hb d
   refine⟨n,w',q,⟨by rw[lA,Yz];exact base,Rx lA hb⟩,b,fun u m _ h=>h.grown b (fun y _ p=>by cases p)⟩
  by_cases c:l0.length+l.length<=e
  ·obtain⟨w',q,base,b⟩:=run_append_fits (P:=prog) w k E.st t E.ty G E.k E.bL F g v l0.length e _ j.1 i l.length x (l.flatMap E.enc) (qF E l) (a i rfl) (qW E.one l) c;refine⟨_,w',q,⟨by rw[lA,Yz];exact base,Rx lA hb⟩,b,fun u m L h=>?_⟩;by_cases z:u.ownBlock=Xa v
   ·rcases h.1.2 with⟨rfl,_⟩|⟨y,f,c,rfl,N,c,Q,R,H,S⟩
    ·cases z
    simp only[Value.ownBlock,Option.some.injEq]at z;subst z;rw[D]at c;simp only[Option.some.injEq,Obj.cells.injEq,and_true]at c;obtain rfl:=c;have c:f=e:=Nat.eq_of_mul_eq_mul_right E.pos (H.symm.trans B);subst c;rcases base.2 with⟨M,_⟩|⟨c,c,c,B,_,D,H,H,H,K⟩;·cases M
    cases B;refine⟨⟨h.1.1,.inr ⟨y,f,c,rfl,N,D,Q,R,H,?_⟩⟩,h.2⟩;have f:m.length*E.k<=l0.length*E.k:=Yw _ L;have B:=qF E l0;have D:c.toList.take (m.length*E.k)=(c.toList.take ((l0.length+l.length)*E.k)).take (m.length*E.k):=by
     rw[List.take_take,Uj (by rw[Ou];omega)]
    rw[D,K,Oh (Rx B f),<-C,List.take_take,Uj f];exact S
   exact h.grown b (fun y c p=>by cases p;exact z c)
  obtain⟨n,w',q,base,b⟩:=run_append_arg_grows (P:=prog) w E.st t E.ty G _ E.k E.bytes E.bL F r g s (ziO E) E.pos ⟨v,0,Xb⟩ l0.length e (l0.flatMap E.enc) (qF E l0) (j.1.cells rfl) i l.length x (l.flatMap E.enc) (qF E l) (a i rfl) Wm (q5 Wm) hb;refine⟨n,w',q,⟨by rw[lA,Yz];exact jL base d,Rx lA hb⟩,⟨b.os,b.tape,b.output,b.size,fun base a _=>b.block base a Sm⟩,fun u m _ h=>h.grown b (fun y _ p=>by cases p)⟩
end
def pgc(p:List Int):List Xq:=p.map (Value.int .u8)
def ptc(q:Int×List Int):List Xq:=Xe Xf q.1::pgc q.2
theorem Z3(p:List Int):(pgc p).length=p.length:=by simp[pgc]
theorem zcD(q:Int×List Int):(ptc q).length=q.2.length+1:=by simp[ptc,pgc]
theorem qM(p):∀u∈pgc p,u.oneCell'=Xc:=fun u a=>by
 obtain⟨x,_,rfl⟩:=Yb.1 a;rfl
theorem zd7(q:Int×List Int):∀u∈ptc q,u.oneCell'=Xc:=fun u a=>by
 rcases mC.1 a with rfl|h;·rfl
 exact qM _ u h
def ZD(w:Xn)(v:Xq)(ps:List (List Int)):Prop:=Je pgc w v ps/\(∀p∈ps,p.length=8)/\ps.length*8<=140737488355328
def ZA(w:Xn)(v:Xq)(qs:List (Int×List Int)):Prop:=Je ptc w v qs/\(∀q∈qs,q.2.length=8)/\qs.length*16<=140737488355328
theorem ZD.aA(h:ZD w A r)(b:zc w w'):ZD w' A r:=⟨h.1.aA b,h.2⟩
theorem ZA.aA(h:ZA w A g)(b:zc w w'):ZA w' A g:=⟨h.1.aA b,h.2⟩
def zl(base:Nat)(w:Xn)(v:Xq)(ps:List (List Int)):Prop:=w.ownsRow base 44 8 v ps.length (ps.flatMap pgc)/\(∀p∈ps,p.length=8)/\ps.length*8<=140737488355328
def zu(base:Nat)(w:Xn)(v:Xq)(qs:List (Int×List Int)):Prop:=w.ownsRow base 88 9 v qs.length (qs.flatMap ptc)/\(∀q∈qs,q.2.length=8)/\qs.length*16<=140737488355328
theorem zl.at{base:Nat}(h:zl base w A r):ZD w A r:=⟨QT h.1,h.2⟩
theorem zu.at{base:Nat}(h:zu base w A g):ZA w A g:=⟨QT h.1,h.2⟩
def zai(w:Xn)(d:Xq)(ps:List (List Int))(qs:List (Int×List Int)):Prop:=∃b q,d=Xi #[b,q]/\ZD w b ps/\ZA w q qs
theorem zai.aA(h:zai w A r g)(a:zc w w'):zai w' A r g:=by obtain⟨r,q,g,e,f⟩:=h;exact⟨r,q,g,e.aA a,f.aA a⟩
theorem zc2(l:List Int)(i:l.length=8):∃a b c d e f g h,l=[a,b,c,d,e,f,g,h]:=by
 match l,i with
 |[a,b,c,d,e,f,g,h],_=>exact⟨a,b,c,d,e,f,g,h,rfl⟩
def zkW(W:Xn)(y:Addr)(m b0 b1 b2 b3 b4 b5 b6 b7:Int):Prop:=
 W.cell? y=Xa (Xe Xf m)/\W.cell? {block:=y.block,off:=y.off+1}=Xa (Xe Xg b0)/\W.cell? {block:=y.block,off:=y.off+2}=Xa (Xe Xg b1)/\W.cell? {block:=y.block,off:=y.off+3}=Xa (Xe Xg b2)/\
 W.cell? {block:=y.block,off:=y.off+4}=Xa (Xe Xg b3)/\W.cell? {block:=y.block,off:=y.off+5}=Xa (Xe Xg b4)/\W.cell? {block:=y.block,off:=y.off+6}=Xa (Xe Xg b5)/\W.cell? {block:=y.block,off:=y.off+7}=Xa (Xe Xg b6)/\W.cell? {block:=y.block,off:=y.off+8}=Xa (Xe Xg b7)
def ziI(W:Xn)(y:Addr)(b0 b1 b2 b3 b4 b5 b6 b7:Int):Prop:=
 W.cell? y=Xa (Xe Xg b0)/\W.cell? {block:=y.block,off:=y.off+1}=Xa (Xe Xg b1)/\W.cell? {block:=y.block,off:=y.off+2}=Xa (Xe Xg b2)/\W.cell? {block:=y.block,off:=y.off+3}=Xa (Xe Xg b3)/\
 W.cell? {block:=y.block,off:=y.off+4}=Xa (Xe Xg b4)/\W.cell? {block:=y.block,off:=y.off+5}=Xa (Xe Xg b5)/\W.cell? {block:=y.block,off:=y.off+6}=Xa (Xe Xg b6)/\W.cell? {block:=y.block,off:=y.off+7}=Xa (Xe Xg b7)
theorem jY.put{a b c d e f g i:Int}(h:jY W P (ptc (z,[a,b,c,d,e,f,g,i]))):zkW W P z a b c d e f g i:=
 ⟨h 0 _ rfl,h 1 _ rfl,h 2 _ rfl,h 3 _ rfl,h 4 _ rfl,h 5 _ rfl,h 6 _ rfl,h 7 _ rfl,h 8 _ rfl⟩
theorem jY.page{b c d e f g i:Int}(h:jY W P (pgc [z,b,c,d,e,f,g,i])):ziI W P z b c d e f g i:=
 ⟨h 0 _ rfl,h 1 _ rfl,h 2 _ rfl,h 3 _ rfl,h 4 _ rfl,h 5 _ rfl,h 6 _ rfl,h 7 _ rfl⟩
def zeZ(w:Xn)(a:Option Addr)(qs:List (Int×List Int)):Prop:=
 ∀(j:Nat)q,qs[j]?=Xa q->∃x m b0 b1 b2 b3 b4 b5 b6 b7,a=Xa x/\q=(m,[b0,b1,b2,b3,b4,b5,b6,b7])/\∀W,zc w W->zkW W (x.add (j*9)) m b0 b1 b2 b3 b4 b5 b6 b7
def zkX(w:Xn)(a:Option Addr)(ps:List (List Int)):Prop:=
 ∀(j:Nat)p,ps[j]?=Xa p->∃x b0 b1 b2 b3 b4 b5 b6 b7,a=Xa x/\p=[b0,b1,b2,b3,b4,b5,b6,b7]/\∀W,zc w W->ziI W (x.add (j*8)) b0 b1 b2 b3 b4 b5 b6 b7
theorem ZA.rows(r:ZA w A g):∃a c,A=O a g.length c/\zeZ w a g:=by
 obtain⟨⟨a,c,s,t,u⟩,e,_⟩:=r;refine⟨a,c,s,fun D C f=>?_⟩;have b:=mG f;obtain⟨B,v⟩:=C;obtain⟨h,i,j,l,m,n,p,q,rfl⟩:=zc2 v (e _ b);cases a with
 |none=>rw[t rfl]at b;cases b
 |some x=>exact⟨x,B,h,i,j,l,m,n,p,q,rfl,rfl,fun W y=>(((u x rfl).aA y).elem (k:=9) (fun d z=>by rw[zcD,e d z]) f).put⟩
theorem ZD.rows(d:ZD w A r):∃a c,A=O a r.length c/\zkX w a r:=by
 obtain⟨⟨a,c,s,t,u⟩,e,_⟩:=d;refine⟨a,c,s,fun B v f=>?_⟩;have b:=mG f;obtain⟨h,i,j,l,m,n,p,q,rfl⟩:=zc2 v (e _ b);cases a with
 |none=>rw[t rfl]at b;cases b
 |some x=>exact⟨x,h,i,j,l,m,n,p,q,rfl,rfl,fun W y=>(((u x rfl).aA y).elem (k:=8) (fun g z=>by rw[Z3,e g z]) f).page⟩
theorem zaL(a)(n c:Nat)(q)(m:Int)(w):
  Xp prog 154 #[Xi #[O a n c,q],Xe Xf m] w fun e w'=>e=Xl (Xh (ZB m n))/\zc w w':=by
 have H:Xo (ZB m n=(decide (0<=m)&&decide (m<n))):=rfl;by_cases b:0<=m
 ·by_cases b:m<n
  ·go_enter func154,ntmps154
   go_wp2;go_ret;exact⟨by rw[H.out];simp[*],(bR _ _).alloc (nR _) _⟩
  go_enter func154,ntmps154;go_wp2;go_ret;exact⟨by rw[H.out];simp[*],(bR _ _).alloc (nR _) _⟩
 go_enter func154,ntmps154;go_wp2;go_ret;exact⟨by rw[H.out];simp;omega,(bR _ _).alloc (nR _) _⟩
theorem zk1(a)(n c:Nat)(f)(B:Nat)(q:Int×List Int)(m:q.2.length=8)(w:Xn)(b:w.cell? ⟨B,0,Xb⟩=Xa (O a n c))(d:w.cell? ⟨B,1,Xb⟩=Xa f):
  Xp prog 153 #[Xi (ptc q).toArray,Xj (Xa ⟨B,0,Xb⟩)] w fun e w'=>e=Xl (Xh (!ZB q.1 n))/\zc w w':=by
 obtain⟨r,p⟩:=q;obtain⟨d,f,g,h,i,j,k,l,rfl⟩:=zc2 p m;have m:=World.block_lt_of_cell? _ _ b;have b:B≠w.heap.size:=by simp at m;omega
 show Xp prog 153 #[Xi #[Xe Xf r,Xe Xg d,Xe Xg f,Xe Xg g,Xe Xg h,Xe Xg i,Xe Xg j,Xe Xg k,Xe Xg l],Xj (Xa ⟨B,0,Xb⟩)] w _;go_enter func153,ntmps153;go_wp2_with(go_at_call 154;refine(zaL _ _ _ _ _ _).mono ?_;rintro e w'⟨rfl,b⟩)
 go_ret;exact⟨rfl,zc.trans ((bR _ _).alloc (nR _) _) b⟩
def zsC(p:Int×List Int->Bool)(qs:List (Int×List Int))(r:Int):Prop:=
 (r=-1/\∀(j:Nat)q,qs[j]?=Xa q->p q=Xd)\/∃(k:Nat)(q:Int×List Int),r=(k:Int)/\qs[k]?=Xa q/\p q=Xc/\∀(j:Nat)q',j<k->qs[j]?=Xa q'->p q'=Xd
def zow(g:Nat)(lb:Array Xq)(p:Int×List Int->Bool)(w:Xn):Prop:=
 ∀W q,zc w W->q.2.length=8->Xp prog g (#[Xi (ptc q).toArray]++lb) W fun e W'=>e=Xl (Xh (p q))/\zc W W'
theorem zgJ(p:Int×List Int->Bool)(g:Nat)(lb:Array Xq)(a6:∀c w,(callFunc g c).run prog w=.ok (.enter g c) w)(v)(k:List (Int×List Int))(w)(z:ZA w v k)(hp:zow g lb p w):
  Xp prog 176 #[v,.func (.func g) #[] lb] w fun e w'=>∃P:Int,e=Xl (Xe Xf P)/\zc w w'/\zsC p k P:=by
 obtain⟨W,X,rfl,d⟩:=z.rows;have m:k.length<=9223372036854775807:=Hm z.2.2;have R:=dD d;have Q:=dD hp;clear d hp z;obtain⟨n,y⟩:=kB k.length;have B:=dD y;rw[y]at m⊢;clear y;go_enter func176,ntmps176;go_wp2;go_loopg[5,8] n (fun S _ V wr=>∃b:Nat,b<=n/\n-b<=S/\V=Xe Xf b/\Xo (zc w wr)/\Xo (∀j q,j<b->k[j]?=Xa q->p q=Xd))
 exact⟨0,nZ _,Wm,rfl,zc.refl w,fun j q r=>absurd r (nL _)⟩;obtain⟨b,T,a7,rfl,l,A⟩:=hrel;by_cases h:b<n
 ·have t:=kC h
  have s:b<k.length:=Rx B.out h;obtain⟨q,x⟩:∃q,Xo (k[b]?=Xa q):=⟨_,gE s⟩;obtain⟨a8,N,C,D,E,F,G,H,K,L,rfl,rfl,M⟩:=R.out b q x.out;obtain⟨Y,Z,I,a0,a1,a2,a3,a4,a5⟩:=M wr l.out;have a:=Q.out wr (N,[C,D,E,F,G,H,K,L]) l rfl;clear M s;cases u:p (N,[C,D,E,F,G,H,K,L])with
  |true=>
   rw[u]at a;go_wp2_with(go_at_fn g;refine a.mono ?_;rintro e w'⟨rfl,f⟩)
   go_ret;exact⟨_,rfl,l.trans f,.inr ⟨b,_,rfl,x,u,A⟩⟩
  |false=>
   rw[u]at a;go_wp2_with(go_at_fn g;refine a.mono ?_;rintro e w'⟨rfl,f⟩)
   go_roundg (n-(b+1))
   case measure=>omega
   refine⟨b+1,Wm,Wm,Gn,l.trans f,(show Xo _ from fun j U r i=>?_)⟩;by_cases e:j=b;·subst e;rw[x.out]at i;cases i;exact u
   exact A j U Wm i
 have t:=kD h;have:b=n:=Wm;subst this;go_wp2;go_ret;refine⟨_,rfl,l,.inl ⟨rfl,fun j q r=>A.out j q ?_ r⟩⟩;have:=(gS.1 r).1;rw[B.out]at this;exact this
theorem zdn(p:Int×List Int->Bool)(g:Nat)(lb:Array Xq)(c:∀a w,(callFunc g a).run prog w=.ok (.enter g a) w)(v)(b:List (Int×List Int))(w)(d:ZA w v b)(hp:zow g lb p w):
  Xp prog 152 #[v,.func (.func g) #[] lb] w fun e w'=>e=Xl (Xh (b.any p))/\zc w w':=by
 have a:=zgJ p g lb c v b w d hp;clear d hp c;go_enter func152,ntmps152;go_wp2_with(go_at_call 176;refine a.mono ?_;rintro e w'⟨r,rfl,d,a⟩)
 go_ret;have c:b.any p=decide (0<=r):=by
  rcases a with⟨rfl,h⟩|⟨k,q,rfl,a,b,_⟩
  ·rw[show decide ((0:Int)<=-1)=Xd from rfl,Yu]
   intro q i;obtain⟨j,f⟩:=Xu i;rw[h j q f];simp
  rw[show decide ((0:Int)<=(k:Int))=Xc from Sm,Ye];exact⟨q,mG a,b⟩
 rw[c];exact⟨rfl,d⟩
theorem zji(a)(n c:Nat)(g)(B:Nat)(w:Xn)(b:w.cell? ⟨B,0,Xb⟩=Xa (O a n c))(d:w.cell? ⟨B,1,Xb⟩=Xa g):
  zow 153 #[Xj (Xa ⟨B,0,Xb⟩)] (fun q=>!ZB q.1 n) w:=fun W q f h=>by
 have e:=World.block_lt_of_cell? _ _ b;exact zk1 a n c g B q h W ((Below.cell f (p:=⟨B,0,Xb⟩) e).trans b) ((Below.cell f (p:=⟨B,1,Xb⟩) e).trans d)
theorem zdG(a)(n c:Nat)(r)(d:List (Int×List Int))(w)(l:ZA w r d):
  Xp prog 127 #[Xi #[O a n c,r]] w fun e w'=>e=Xl (Xe Xf (zS n d))/\zc w w':=by
 have f:Xo (zS n d=if 80<n then 4 else if 400<d.length then 4 else if d.any (fun q=>!ZB q.1 n)then 3 else 0):=rfl;obtain⟨g,h,rfl,_⟩:=l.rows;have b:=zdn (fun q=>!ZB q.1 n) 153 #[Xj (Xa ⟨w.heap.size,0,Xb⟩)] (enters_of func153 Kr rfl) (O g d.length h) d (w.alloc (Xk #[O a n c,O g d.length h] 34)) (l.aA (za _ _)) (zji a n c (O g d.length h) _ _ Sm Sm);clear l;obtain⟨nq,t⟩:=kA d.length;rw[t.out]at b f⊢;obtain⟨u,s⟩:=kA (d.any fun q=>!ZB q.1 n);rw[s.out]at b f;by_cases m:80<n
 ·have i:(80:Int)<(n:Int):=Wm
  rw[kE m]at f;clear b;go_enter func127,ntmps127;go_wp2;go_ret;exact⟨Rr f.out,za _ _⟩
 have i:¬(80:Int)<(n:Int):=Wm;rw[kF m]at f;by_cases p:400<nq
 ·have j:(400:Int)<(nq:Int):=Wm
  rw[kE p]at f;clear b;go_enter func127,ntmps127;go_wp2;go_ret;exact⟨Rr f.out,za _ _⟩
 have j:¬(400:Int)<(nq:Int):=Wm;rw[kF p]at f;cases u with
 |true=>
  go_enter func127,ntmps127;go_wp2_with(go_at_call 152;refine b.mono ?_;rintro e w'⟨rfl,k⟩)
  go_ret;exact⟨Rr f.out,(za _ _).trans k⟩
 |false=>
  go_enter func127,ntmps127;go_wp2_with(go_at_call 152;refine b.mono ?_;rintro e w'⟨rfl,k⟩)
  go_ret;exact⟨Rr f.out,(za _ _).trans k⟩
theorem JV(a)(n c:Nat)(h)(d:List (Int×List Int))(m:Int)(w)(g:ZA w h d):
  Xp prog 136 #[Xi #[O a n c,h],Xe Xf m] w fun e w'=>e=Xl (Xe Xf (zp n d m))/\zc w w':=by
 have f:Xo (zp n d m=if zS n d=0 then(if ZB m n then 0 else 3)else zS n d):=rfl;have b:=zdG a n c h d (w.alloc (Xk #[O a n c,h] 34)) (g.aA (za _ _));clear g;obtain⟨r,g⟩:=kA (zS n d);rw[g.out]at b f;by_cases j:r=0
 ·subst j;rw[kE rfl]at f;cases i:ZB m n with
  |true=>
   rw[i]at f;go_enter func136,ntmps136
   go_wp2_with(first
    |(go_at_call 127;refine b.mono ?_;rintro e w'⟨rfl,d⟩;have l:w'.cell? ⟨w.heap.size,0,Xb⟩=Xa (O a n c):=(Below.cell d Sm).trans Sm;have p:w'.cell? ⟨w.heap.size,1,Xb⟩=Xa h:=(Below.cell d Sm).trans Sm)
    |(go_at_call 154;refine(zaL _ _ _ _ _ _).mono ?_;rintro e k⟨rfl,g⟩;rw[i]))
   go_ret;exact⟨Rr f.out,((za _ _).trans d).trans g⟩
  |false=>
   rw[i]at f;go_enter func136,ntmps136
   go_wp2_with(first
    |(go_at_call 127;refine b.mono ?_;rintro e w'⟨rfl,d⟩;have l:w'.cell? ⟨w.heap.size,0,Xb⟩=Xa (O a n c):=(Below.cell d Sm).trans Sm;have p:w'.cell? ⟨w.heap.size,1,Xb⟩=Xa h:=(Below.cell d Sm).trans Sm)
    |(go_at_call 154;refine(zaL _ _ _ _ _ _).mono ?_;rintro e k⟨rfl,g⟩;rw[i]))
   go_ret;exact⟨Rr f.out,((za _ _).trans d).trans g⟩
 have g:(r !=0)=Xc:=Si j;rw[kF j]at f;go_enter func136,ntmps136;go_wp2_with(go_at_call 127;refine b.mono ?_;rintro e w'⟨rfl,d⟩)
 go_ret;exact⟨Rr f.out,(za _ _).trans d⟩
theorem zsG:(Tryz.prog.info? 44).map (fun i=>(i.zero,i.size,i.bytes))=Xa (Xa (Xi #[Xe Xg 0,Xe Xg 0,Xe Xg 0,Xe Xg 0,Xe Xg 0,Xe Xg 0,Xe Xg 0,Xe Xg 0]),8,8):=by kernel_rfl
theorem zsH:(Tryz.prog.info? 88).map (fun i=>(i.zero,i.size,i.bytes))=Xa (Xa (Xi #[Xe Xf 0,Xe Xg 0,Xe Xg 0,Xe Xg 0,Xe Xg 0,Xe Xg 0,Xe Xg 0,Xe Xg 0,Xe Xg 0]),9,16):=by kernel_rfl
theorem zfn(v)(d:List (List Int))(w:Xn)(j:ZD w v d):
  Xp prog 80 #[v] w fun e w'=>∃f,e=Xl f/\zl w.heap.size w' f d/\zc w w':=by
 obtain⟨⟨g,h,rfl,c,b⟩,i,a⟩:=j;have j:=fun w g n h k j=>Lib.run_eql_slice_nil w _ _ g n h k j underlying31;cases g with
 |none=>
  have g:=c rfl;subst g;clear b c i a;go_enter func80,ntmps80;go_wp2;go_ret;exact⟨_,rfl,⟨World.ownsRow_nil _ _ _ _,Sm,Sm⟩,zc.refl w⟩
 |some x=>
  have A:=b x rfl;have k:=dD A;have g:=dD a;have j:=dD i;clear b c a i;obtain⟨l,i,a,b,c⟩:=info_parts zsG;go_enter func80,ntmps80;go_wp2_with(at_builtin;refine wpList_append_own _ rfl _ _ 31 rfl w.heap.size 44 l _ 8 8 underlying31 i a b c rfl Dc _ _ _ rfl (World.ownsRow_made w #[] 0 (nR _) (nZ _) Sm) x d.length h (d.flatMap pgc) rfl ?qc1 ?qc2 ?qc3 ?qc4 ?qc5 ?qc6 ?_)
  case qc1=>exact jP d fun p a=>by rw[Z3,j.out p a]
  case qc2=>exact k.aA (za _ _)
  case qc3=>exact qW qM d
  case qc4=>rw[zA];exact q5 (Hm g.out)
  case qc5=>rw[zA];exact g.out
  case qc6=>simp
  intro f a b a c;go_wp2;go_ret;exact⟨f,rfl,⟨Si b,j,g⟩,((bR _ w).alloc (nR _) _).grown a Sm (by intro k a;simp[Value.ownBlock]at a;omega)⟩
theorem zgV(v)(d:List (Int×List Int))(w:Xn)(j:ZA w v d):
  Xp prog 81 #[v] w fun e w'=>∃f,e=Xl f/\zu w.heap.size w' f d/\zc w w':=by
 obtain⟨⟨g,h,rfl,c,b⟩,i,a⟩:=j;have j:=fun w g n h k j=>Lib.run_eql_slice_nil w _ _ g n h k j underlying32;cases g with
 |none=>
  have g:=c rfl;subst g;clear b c i a;go_enter func81,ntmps81;go_wp2;go_ret;exact⟨_,rfl,⟨World.ownsRow_nil _ _ _ _,Sm,Sm⟩,zc.refl w⟩
 |some x=>
  have A:=b x rfl;have k:=dD A;have g:=dD a;have j:=dD i;clear b c a i;obtain⟨l,i,a,b,c⟩:=info_parts zsH;go_enter func81,ntmps81;go_wp2_with(at_builtin;refine wpList_append_own _ rfl _ _ 32 rfl w.heap.size 88 l _ 9 16 underlying32 i a b c rfl Dc _ _ _ rfl (World.ownsRow_made w #[] 0 (nR _) (nZ _) Sm) x d.length h (d.flatMap ptc) rfl ?qc1 ?qc2 ?qc3 ?qc4 ?qc5 ?qc6 ?_)
  case qc1=>exact jP d fun p a=>by rw[zcD,j.out p a]
  case qc2=>exact k.aA (za _ _)
  case qc3=>exact qW zd7 d
  case qc4=>rw[zA];exact q5 (Hm g.out)
  case qc5=>rw[zA];exact g.out
  case qc6=>simp
  intro f a b a c;go_wp2;go_ret;exact⟨f,rfl,⟨Si b,j,g⟩,((bR _ w).alloc (nR _) _).grown a Sm (by intro k a;simp[Value.ownBlock]at a;omega)⟩
def zbK(base:Nat)(w:Xn)(d:Xq)(ps:List (List Int))(qs:List (Int×List Int)):Prop:=∃b q,d=Xi #[b,q]/\zl base w b ps/\zu base w q qs
theorem zl.aA(h:zl k w A r)(b:zc w w'):zl k w' A r:=⟨zaD h.1 b,h.2⟩
theorem zu.aA(h:zu k w A g)(b:zc w w'):zu k w' A g:=⟨zaD h.1 b,h.2⟩
theorem zl.base(h:zl k w A r)(hb:base'<=k):zl base' w A r:=⟨jL h.1 hb,h.2⟩
theorem zu.base(h:zu k w A g)(hb:base'<=k):zu base' w A g:=⟨jL h.1 hb,h.2⟩
theorem zl.slice(h:zl k w A r):∃a n c,A=O a n c:=by
 rcases h.1.2 with⟨rfl,_⟩|⟨g,r,r,rfl,_⟩;·grind
 grind
theorem zu.slice(h:zu k w A g):∃a n c,A=O a n c:=by
 rcases h.1.2 with⟨rfl,_⟩|⟨v,g,g,rfl,_⟩;·grind
 grind
theorem zl.setCell(h:zl k w A r){a:Addr}(c:a.block<k)(u):zl k (w.setCell a u) A r:=⟨ownsRow_setCell_below h.1 c u,h.2⟩
theorem zu.setCell(h:zu k w A g){a:Addr}(c:a.block<k)(u):zu k (w.setCell a u) A g:=⟨ownsRow_setCell_below h.1 c u,h.2⟩
def jA(base:Nat)(w:Xn)(d:Xq)(ps:List (List Int))(qs:List (Int×List Int)):Prop:=∃b q,d=Xi #[b,q]/\ZD w b ps/\ZA w q qs/\zfj base b/\zfj base q
theorem jA.base(h:jA k w A r g)(hb:base'<=k):jA base' w A r g:=by obtain⟨g,q,r,c,e,f,d⟩:=h;exact⟨g,q,r,c,e,fun x n c e=>nT hb (f x n c e),fun x n c e=>nT hb (d x n c e)⟩
theorem zl.fresh(h:zl k w A r):zfj k A:=fun x n c e=>by
 rcases h.1.2 with⟨b,_⟩|⟨g,r,r,b,r,_⟩;·grind
 grind
theorem zu.fresh(h:zu k w A g):zfj k A:=fun x n c e=>by
 rcases h.1.2 with⟨b,_⟩|⟨v,g,g,b,g,_⟩;·grind
 grind
theorem zbK.new(h:zbK k w A r g):jA k w A r g:=by obtain⟨c,q,e,r,g⟩:=h;exact⟨c,q,e,r.at,g.at,r.fresh,g.fresh⟩
theorem zec(d)(g:List (List Int))(h:List (Int×List Int))(w:Xn)(hd:zai w d g h):
  Xp prog 48 #[d] w fun e w'=>∃a,e=Xl a/\zbK w.heap.size w' a g h/\zc w w':=by
 obtain⟨b,q,rfl,c,a⟩:=hd;have E:=dD c;have F:=dD a;obtain⟨l,n,rfl,_⟩:=c.rows;obtain⟨m,q,rfl,_⟩:=a.rows;clear c a;go_enter func48,ntmps48;go_wp2;refine nW fun a b=>?_;have i:=gD2 b;have k:Xo (a.heap.size=w.heap.size+2):=dD<|by rw[<-b];simp
 have A:a.cell? ⟨w.heap.size,0,Xb⟩=Xa (O l g.length n):=by rw[<-b];simp
 have B:a.cell? ⟨w.heap.size,1,Xb⟩=Xa (O m h.length q):=by rw[<-b];simp
 have r:a.cell? ⟨w.heap.size+1,0,Xb⟩=Xa (O Xb 0 0):=by rw[<-b];simp
 have s:a.cell? ⟨w.heap.size+1,1,Xb⟩=Xa (O Xb 0 0):=by rw[<-b];simp
 have C:a.frozen? ⟨w.heap.size+1,0,Xb⟩=Xd:=by rw[<-b];simp
 have D:a.frozen? ⟨w.heap.size+1,1,Xb⟩=Xd:=by rw[<-b];simp
 have y:=fun x:zj a=>(Below.cell x.aA (World.block_lt_of_cell? _ _ A)).trans A;have z:=fun x:zj a=>(Below.cell x.aA (World.block_lt_of_cell? _ _ B)).trans B;have t:Nonempty (zj a):=⟨⟨_,zc.refl _⟩⟩;refine jO 7 [(2,⟨fun f=>∃a u j,f=O a u j,fun f w'=>zl (w.heap.size+2) w' f g⟩),(5,⟨fun f=>∃a u j,f=O a u j,fun f w'=>zu (w.heap.size+2) w' f h⟩)] zY Kr rfl rfl Dc ?_ ?_ ?_
 ·intro x a
  simp at a;rcases a with rfl|rfl;·exact⟨_,Xb,0,0,rfl⟩
  exact⟨_,Xb,0,0,rfl⟩
 ·intro x a
  simp at a;rcases a with rfl|rfl;·intro f u x a j;exact j.aA a
  intro f u x a j;exact j.aA a
 simp only[List.take,List.drop];iterate 2 refine zf ?_
 refine zI rfl rfl (fun w' a j=>?_) (fun G u=>?_);·refine zO.call [O l g.length n] rfl func80 rfl rfl rfl ?_;refine(zfn _ g w' (E.aA (i.out.trans a))).mono ?_;rintro e g⟨E,rfl,c,f⟩;exact⟨_,rfl,f,c.slice,c.base (by have:=bS a;rw[k.out]at this;exact this)⟩
 obtain⟨l,x,n,rfl⟩:=u;refine Uq ?_;iterate 2 refine zf ?_
 refine zI rfl rfl (fun w' a j=>?_) (fun G u=>?_);·refine zO.call [O m h.length q] rfl func81 rfl rfl rfl ?_;refine(zgV _ h w' (F.aA (i.out.trans a))).mono ?_;rintro e g⟨E,rfl,c,f⟩;exact⟨_,rfl,f,c.slice,c.base (by have:=bS a;rw[k.out]at this;exact this)⟩
 obtain⟨h,m,k,rfl⟩:=u;refine Uq ?_;refine zf ?_;refine z5 fun w' a j=>?_;have c:=dD<|j 2;have f:=dD<|j 5;have g:=(Below.cell a (World.block_lt_of_cell? _ _ r)).trans r;have g:=(Below.cell a (World.block_lt_of_cell? _ _ s)).trans s;have g:=(Below.frozen a (World.block_lt_of_cell? _ _ r)).trans C;have g:=(Below.frozen a (World.block_lt_of_cell? _ _ s)).trans D;have g:=dD (i.out.trans a);clear j A B r s C D y z b a t;go_wp2;refine bodyPost_ret (v:=Xi #[O l x n,O h m k]) (by simp[results,Tryz.results48,go_sem, *]) rfl ⟨_,rfl,⟨_,_,rfl,((c.out.setCell Sm _).setCell Sm _).base Wm,((f.out.setCell Sm _).setCell Sm _).base Wm⟩,?_⟩;exact Below.setCell (Below.setCell g (p:=⟨w.heap.size+1,0,Xb⟩) Sm _) (p:=⟨w.heap.size+1,1,Xb⟩) Sm _
def siv(z:Int):List Xq:=[Xe Xf z]
theorem zsI:(Tryz.prog.info? 3).map (fun i=>(i.zero,i.size,i.bytes))=Xa (Xa (Xe Xf 0),1,8):=by kernel_rfl
def slE:Elt Int where
 enc:=siv
 k:=1
 ty:=3
 st:=30
 bytes:=8
 zv:=Xe Xf 0
 zero:=0
 len:=fun _=>rfl
 one:=fun a u hu=>by
  simp only[siv,mC,nM,or_false]at hu;subst hu;rfl
 bL:=underlying30
 aF:=zsI
 zok:=rfl
 few:=by decide
 pos:=by decide
def zkU(w:Xn)(a:Option Addr)(l:List Int):Prop:=∀(j:Nat)x,l[j]?=Xa x->∃ad,a=Xa ad/\∀W,zc w W->W.cell? (ad.add j)=Xa (Xe Xf x)
theorem zq.sls(h:zq slE w A L):∃a c,A=O a L.length c/\zkU w a L:=by obtain⟨a,c,b,d⟩:=h.rows;refine⟨a,c,b,fun j x g=>?_⟩;obtain⟨b,e,f⟩:=d j x g;refine⟨b,e,fun W b=>?_⟩;have:=f W b 0 _ rfl;rw[zX,show j*slE.k+0=j from by show j*1+0=j;omega]at this;exact this
def niv(z:Int):List Xq:=[Xe Xf z]
theorem zsJ:(Tryz.prog.info? 3).map (fun i=>(i.zero,i.size,i.bytes))=Xa (Xa (Xe Xf 0),1,8):=by kernel_rfl
def blE:Elt Int where
 enc:=niv
 k:=1
 ty:=3
 st:=29
 bytes:=8
 zv:=Xe Xf 0
 zero:=0
 len:=fun _=>rfl
 one:=fun a u hu=>by
  simp only[niv,mC,nM,or_false]at hu;subst hu;rfl
 bL:=underlying29
 aF:=zsJ
 zok:=rfl
 few:=by decide
 pos:=by decide
def zox(w:Xn)(a:Option Addr)(l:List Int):Prop:=∀(j:Nat)x,l[j]?=Xa x->∃ad,a=Xa ad/\∀W,zc w W->W.cell? (ad.add j)=Xa (Xe Xf x)
theorem zq.aX(h:zq blE w A L):∃a c,A=O a L.length c/\zox w a L:=by obtain⟨a,c,b,d⟩:=h.rows;refine⟨a,c,b,fun j x g=>?_⟩;obtain⟨b,e,f⟩:=d j x g;refine⟨b,e,fun W b=>?_⟩;have:=f W b 0 _ rfl;rw[zX,show j*blE.k+0=j from by show j*1+0=j;omega]at this;exact this
end
variable{E:Elt α}
section
def inL(n:Nat)(k:Int):Bool:=decide (0<=k)&&decide (k<(n:Int))
def zom(fs:List Fl)(k:Int):List Int:=match fs[k.toNat]? with|some f=>f.bl|none=>[]
def zrA(fs:List Fl)(k:Int):Int:=match fs[k.toNat]? with|some f=>f.size|none=>0
def ziL(fs:List Fl)(cnt k n:Int):Int:=if stW fs cnt=0 then(if inL fs.length k=Xc then(if 0<=n/\n<=96 then 0 else 3)else 5)else stW fs cnt
def zrt(fs:List Fl)(cnt k n:Int):List Fl:=if ziL fs cnt k n=0 then fs.set k.toNat ⟨n,zrC (zom fs k) (zaS n).toNat⟩else[]
def zrE(fs:List Fl)(cnt k n:Int):Int:=if ziL fs cnt k n=0 then cnt else 0
def zbi(fs:List Fl)(cnt k x:Int):Int:=if stW fs cnt=0 then(if inL fs.length k=Xc then(if inL (zom fs k).length x=Xc then(if(zom fs k).getD x.toNat 0=-1 then(if Q1 fs cnt=[]then 10 else 0)else 0)else 9)else 5)else stW fs cnt
def zqb(fs:List Fl)(cnt k x:Int):Int:=if(zom fs k).getD x.toNat 0=-1 then(((Q1 fs cnt).headD 0:Nat):Int)else(zom fs k).getD x.toNat 0
def zjX(fs:List Fl)(cnt k x:Int):Int:=if zbi fs cnt k x=0 then zqb fs cnt k x else 0
def ziM(fs:List Fl)(cnt k x:Int):List Fl:=if zbi fs cnt k x=0 then fs.set k.toNat ⟨zrA fs k,(zom fs k).set x.toNat (zqb fs cnt k x)⟩else[]
def zmq(fs:List Fl)(cnt k x:Int):Int:=if zbi fs cnt k x=0 then cnt else 0
theorem zaH:inL k z=Xc↔0<=z/\z<(k:Int):=by simp[inL]
theorem zol(fs:List Fl)(a k x:Int):
  (stW fs a≠0/\zbi fs a k x=stW fs a/\ziM fs a k x=[]/\zmq fs a k x=0/\zjX fs a k x=0)\/
  (stW fs a=0/\¬(0<=k/\k<(fs.length:Int))/\zbi fs a k x=5/\ziM fs a k x=[]/\zmq fs a k x=0/\zjX fs a k x=0)\/
  (stW fs a=0/\∃(i:Nat)(f:Fl),k=(i:Int)/\fs[i]?=Xa f/\¬(0<=x/\x<(f.bl.length:Int))/\zbi fs a k x=9/\ziM fs a k x=[]/\zmq fs a k x=0/\zjX fs a k x=0)\/
  (stW fs a=0/\∃(i:Nat)(f:Fl)(j:Nat)(b:Int),k=(i:Int)/\fs[i]?=Xa f/\x=(j:Int)/\f.bl[j]?=Xa b/\0<=b/\b<a/\zbi fs a k x=0/\ziM fs a k x=fs/\zmq fs a k x=a/\zjX fs a k x=b)\/
  (stW fs a=0/\∃(i:Nat)(f:Fl)(j:Nat),k=(i:Int)/\fs[i]?=Xa f/\x=(j:Int)/\f.bl[j]?=Xa (-1)/\Q1 fs a=[]/\zbi fs a k x=10/\ziM fs a k x=[]/\zmq fs a k x=0/\zjX fs a k x=0)\/
  (stW fs a=0/\∃(i:Nat)(f:Fl)(j:Nat)(b:Nat)(l:List Nat),k=(i:Int)/\fs[i]?=Xa f/\x=(j:Int)/\f.bl[j]?=Xa (-1)/\Q1 fs a=b::l/\zbi fs a k x=0/\ziM fs a k x=fs.set i ⟨f.size,f.bl.set j (b:Int)⟩/\zmq fs a k x=a/\zjX fs a k x=(b:Int)):=by
 have A:∀z,zbi fs a k x=z->z≠0->ziM fs a k x=[]/\zmq fs a k x=0/\zjX fs a k x=0:=fun z h C=>by
  have:¬zbi fs a k x=0:=Wm;exact⟨kF this,kF this,kF this⟩
 by_cases c:stW fs a=0
 ·by_cases u:0<=k/\k<(fs.length:Int)
  ·obtain⟨i,rfl⟩:∃i:Nat,k=(i:Int):=⟨k.toNat,Wm⟩
   obtain⟨f,d⟩:∃f,fs[i]?=Xa f:=⟨_,gE Wm⟩;have r:=zaH.2 u;have g:zom fs (i:Int)=f.bl:=(by unfold zom;rw[tN,d]);have y:zrA fs (i:Int)=f.size:=(by unfold zrA;rw[tN,d]);by_cases v:0<=x/\x<(f.bl.length:Int)
   ·obtain⟨j,rfl⟩:∃j:Nat,x=(j:Int):=⟨x.toNat,Wm⟩
    obtain⟨b,n⟩:∃b,f.bl[j]?=Xa b:=⟨_,gE Wm⟩;have e:=zaH.2 v;have m:f.bl.getD (j:Int).toNat 0=b:=(by rw[tN,gD,n];rfl);by_cases p:b=-1
    ·subst p
     cases q:Q1 fs a with
     |nil=>
      have h:zbi fs a i j=10:=(by unfold zbi;rw[kE c,kE r,g,kE e,m,kE rfl,kE q]);exact .inr (.inr (.inr (.inr (.inl ⟨c,i,f,j,rfl,d,rfl,n,rfl,h,A _ h Dc⟩))))
     |cons b l=>
      have h:zbi fs a i j=0:=(by unfold zbi;rw[kE c,kE r,g,kE e,m,kE rfl,kF (by rw[q];simp)]);have s:zqb fs a i j=(b:Int):=(by unfold zqb;rw[g,m,kE rfl,q];rfl);refine .inr (.inr (.inr (.inr (.inr ⟨c,i,f,j,b,l,rfl,d,rfl,n,rfl,h,?_,kE h,?_⟩))));·grind[ziM,tN]
      grind[zjX]
    have h:zbi fs a i j=0:=(by unfold zbi;rw[kE c,kE r,g,kE e,m,kF p]);have s:zqb fs a i j=b:=(by unfold zqb;rw[g,m,kF p]);have B:=(((qJ fs a).1 c).2.1 f (mG d)).2.2 b (mG n);refine .inr (.inr (.inr (.inl ⟨c,i,f,j,b,rfl,d,rfl,n,Wm,Wm,h,?_,kE h,?_⟩)))
    ·unfold ziM;rw[kE h,s,g,y,tN,tN];have t:f.bl.set j b=f.bl:=(by grind[gS.1,Uk]);rw[t];obtain⟨w,rfl⟩:=gS.1 d;exact Uk w
    grind[zjX]
   grind[zbi,zaH]
  grind[zbi,zaH]
 grind[zbi,stW]
theorem zkT(f:Fl):∀(fs:List Fl)(i:Nat)(b:Fl),fs[i]?=Xa b->Jg (fs.set i f)=Jg (fs.take i)++(f.bl++Jg (fs.drop (i+1)))/\Jg fs=Jg (fs.take i)++(b.bl++Jg (fs.drop (i+1)))
 |[],i,b,h=>by simp at h
 |a::l,0,b,h=>by
  simp at h
  subst h
  simp[Jg]
 |a::l,i+1,b,h=>by
  obtain⟨c,d⟩:=zkT f l i b (Si h)
  unfold Jg at c d⊢;simp only[sS,Yf,List.take_succ_cons,List.drop_succ_cons,Yl];rw[c,<-d];exact⟨rfl,rfl⟩
theorem zpg(h:b∈Q1 M z):(b:Int)<z/\(b:Int)∉Jg M:=by grind[Q1,Xx.1,Xs.1,Jm]
theorem zqI{C l:List Int}(a:l[j]?=Xa (-1)):∀x,x≠-1->(x∈L++(l.set j z++C)↔(x∈L++(l++C)\/x=z)):=fun x c=>by
 have c:=(gS.1 a).1;have:x∈l.set j z↔x∈l\/x=z:=by
  constructor;·grind
  rintro(h|rfl)
  ·obtain⟨a,c⟩:=Xu h
   by_cases e:a=j;·grind
   exact mG (i:=a) (by rw[sN (fun h=>e h.symm)];exact c)
  grind[mG,sF]
 grind
theorem zlk(b:Int)(hb:b≠-1)(d:L[j]?=Xa (-1)):Ji (L.set j b)=Ji (L.take j)++(b::Ji (L.drop (j+1)))/\Ji L=Ji (L.take j)++Ji (L.drop (j+1)):=by
 obtain⟨a,c⟩:=gS.1 d;have d:L.set j b=L.take j++b::L.drop (j+1):=List.set_eq_take_append_cons_drop.trans (kE a);have a:L=L.take j++(-1)::L.drop (j+1):=by
  rw[<-c,List.getElem_cons_drop,List.take_append_drop]
 unfold Ji;constructor;·grind
 grind
theorem zm5{B C:List Int}(h:(L++(B++C)).Nodup)(a:z∉L)(c:z∉B++C):(L++((B++(z::C)))).Nodup:=by grind
theorem zlL{f:Fl}(h:stW M z=0)(e:M[k]?=Xa f)(n:f.bl[j]?=Xa (-1))(hb:b∈Q1 M z):
  stW (M.set k ⟨f.size,f.bl.set j (b:Int)⟩) z=0/\(Q1 (M.set k ⟨f.size,f.bl.set j (b:Int)⟩) z).length+1=(Q1 M z).length:=by
 obtain⟨c,d⟩:=zpg hb;obtain⟨⟨c,p,q⟩,r,m⟩:=(qJ M z).1 h;obtain⟨l,i⟩:=zkT ⟨f.size,f.bl.set j (b:Int)⟩ M k f e;have g:(b:Int)≠-1:=Wm;constructor
 ·refine(qJ _ _).2 ⟨⟨Rx Yt c,p,q⟩,fun c c=>?_,?_⟩
  ·rcases Xz c with c|rfl
   ·grind
   obtain⟨c,p,q⟩:=r f (mG e);refine⟨c,by simp only[Yt];exact p,fun c e=>?_⟩;rcases Xz e with e|rfl;·grind
   grind
  obtain⟨p,q⟩:=zlk (b:Int) g n;have g:∀A B:List Int,Ji (A++B)=Ji A++Ji B:=fun A B=>Oa ..;rw[l,g,g,p,Yl];rw[i,g,g,q,Yl]at m;rw[i]at d;have p:∀L:List Int,(b:Int)∉L->(b:Int)∉Ji L:=fun L h g=>h (Xx.1 g).1;have g:(b:Int)∉Ji (f.bl.take j)++(Ji (f.bl.drop (j+1))++Ji (Jg (M.drop (k+1)))):=by grind
  exact zm5 m (p _ (fun h=>d (Yd.2 (.inl h)))) g
 have g:∀c:Nat,z4 (M.set k ⟨f.size,f.bl.set j (b:Int)⟩) (c:Int)=(z4 M (c:Int)||decide (c=b)):=fun c=>by
  rw[Ui,Ug,Jm,Jm,l,i,zqI n _ Wm,decide_eq_true_eq,Int.ofNat_inj]
 have d:Q1 (M.set k ⟨f.size,f.bl.set j (b:Int)⟩) z=(Q1 M z).erase b:=by
  have h:(Q1 M z).Nodup:=List.Nodup.sublist List.filter_sublist List.nodup_range;rw[List.Nodup.erase_eq_filter h];unfold Q1;rw[Uw];congr 1;funext c;rw[g c];by_cases e:c=b<;>simp[e]
 rw[d,Ow hb];have:=List.length_pos_of_mem hb;omega
end
section
open Go.RowKit
structure FlV where
 size:Int
 a:Option Addr
 n:Nat
 c:Nat
def FlV.v(x:FlV):Xq:=O x.a x.n x.c
def flv(x:FlV):List Xq:=[Xe Xf x.size,O x.a x.n x.c]
theorem zsK:(Tryz.prog.info? 84).map (fun i=>(i.zero,i.size,i.bytes))=Xa (Xa (Xi #[Xe Xf 0,O Xb 0 0]),2,32):=by kernel_rfl
def fvE:Elt FlV where
 enc:=flv
 k:=2
 ty:=84
 st:=35
 bytes:=32
 zv:=Xi #[Xe Xf 0,O Xb 0 0]
 zero:=⟨0,Xb,0,0⟩
 len:=fun _=>rfl
 one:=fun a u hu=>by
  simp only[flv,mC,nM,or_false]at hu
  rcases hu with rfl|rfl<;>rfl
 bL:=underlying35
 aF:=zsK
 zok:=rfl
 few:=by decide
 pos:=by decide
def Zh(B0 B1:Nat)(w:Xn)(v:Xq)(fs:List Fl):Prop:=
 Cap v/\∃xs:List FlV,zj2 fvE B0 B1 w v xs/\xs.length=fs.length/\∀(i:Nat)x f,xs[i]?=Xa x->fs[i]?=Xa f->x.size=f.size/\zj2 blE B0 B1 w (O x.a x.n x.c) f.bl
def qH(w:Xn)(v:Xq)(fs:List Fl):Prop:=Zh 0 0 w v fs
theorem Zh.out(h:Zh B0 B1 w A M)(k:Out B0 B1 w w'):Zh B0 B1 w' A M:=by obtain⟨d,e,b,c,a⟩:=h;exact⟨d,e,b.out k,c,fun i x f c b=>⟨(a i x f c b).1,(a i x f c b).2.out k⟩⟩
theorem Zh.aA(h:Zh B0 B1 w A M)(k:zc w w'):Zh B0 B1 w' A M:=h.out (Out.aA k)
theorem Zh.less(h:Zh B0 B1 w A M)(a:B0<=A0)(b:A1<=B1):Zh A0 A1 w A M:=by obtain⟨c,g,d,f,e⟩:=h;exact⟨c,g,d.less a b,f,fun i x f d c=>⟨(e i x f d c).1,(e i x f d c).2.less a b⟩⟩
theorem qH.aA(h:qH w A M)(k:zc w w'):qH w' A M:=Zh.aA h k
theorem Zh.nil(B0 B1:Nat)(w):Zh B0 B1 w (O Xb 0 0) []:=⟨nR _,[],fun a _=>zq.nil fvE a,rfl,fun i x f a=>by simp at a⟩
def zrr(W:Xn)(y:Addr)(s:Int)(b:Xq):Prop:=W.cell? y=Xa (Xe Xf s)/\W.cell? {block:=y.block,off:=y.off+1}=Xa b
def zbs(w:Xn)(a:Option Addr)(fs:List Fl):Prop:=∀(j:Nat)f,fs[j]?=Xa f->∃ad,a=Xa ad/\∃xa xc,zq blE w (O xa f.bl.length xc) f.bl/\∀W,zc w W->zrr W (ad.add (j*2)) f.size (O xa f.bl.length xc)
theorem qH.rows(h:qH w A M):∃a c,A=O a M.length c/\M.length<=9223372036854775807/\zbs w a M:=by
 obtain⟨_,i,d,b,l⟩:=h;obtain⟨a,c,e,g⟩:=d.now.rows;refine⟨a,c,Ry b e,Ry b d.now.short,fun j k e=>?_⟩;obtain⟨x,f⟩:∃x,i[j]?=Xa x:=⟨_,gE (by rw[b];exact(gS.1 e).1)⟩;obtain⟨h,i,d⟩:=g j x f;obtain⟨g,m⟩:=l j x k f e;have b:=m.now;obtain⟨⟨e,e,e,_⟩,_⟩:=id b;cases x;simp only at g b e;cases e;subst g;refine⟨h,i,_,_,b,fun W b=>⟨?_,?_⟩⟩;·exact d W b 0 _ rfl
 exact d W b 1 _ rfl
theorem zeV(m n:Int)(w):
  Xp prog 155 #[Xe Xf m,Xe Xf n] w fun e w'=>e=Xl (Xh (bel m n))/\w'=w:=by
 have H:Xo (bel m n=(decide (0<=m)&&decide (m<n))):=rfl;by_cases a:0<=m
 ·by_cases a:m<n
  ·go_enter func155,ntmps155
   go_wp2;go_ret;exact⟨by rw[H.out];simp[*],rfl⟩
  go_enter func155,ntmps155;go_wp2;go_ret;exact⟨by rw[H.out];simp[*],rfl⟩
 go_enter func155,ntmps155;go_wp2;go_ret;exact⟨by rw[H.out];simp;omega,rfl⟩
theorem Jb{m n:Int}(a:0<=m)(b:m<n)(w):Xp prog 155 #[Xe Xf m,Xe Xf n] w fun e w'=>e=Xl (Xh Xc)/\w'=w:=by have:=zeV m n w;rw[Jc.2 ⟨a,b⟩]at this;exact this
theorem zdE{m n:Int}(h:¬(0<=m/\m<n))(w):Xp prog 155 #[Xe Xf m,Xe Xf n] w fun e w'=>e=Xl (Xh Xd)/\w'=w:=by have:=zeV m n w;rw[zoo h]at this;exact this
theorem zdZ{b:Int}(h:z=b):Ending.returned (Xe Xf z)=Xl (Xe Xf b):=by rw[h]
theorem zn6(n:Int)(w)(a:0<=n)(b:n<=96):
  Xp prog 178 #[Xe Xf n] w fun e w'=>e=Xl (Xe Xf (zaS n))/\w'=w:=by
 by_cases h:n<1
 ·have H:Xo (zaS n=0):=dD<|by unfold zaS;rw[kE h]
  go_enter func178,ntmps178;go_wp2;go_ret;exact⟨zdZ H.symm,rfl⟩
 have H:Xo (zaS n=(n-1)/8+1):=dD<|by unfold zaS;rw[kF h]
 go_enter func178,ntmps178;go_wp2;go_ret;exact⟨zdZ H.symm,rfl⟩
theorem zcY(n:Int)(w)(c:0<=n)(d:n<=96):
  Xp prog 23 #[Xe Xf n] w fun e w'=>e=Xl (Xe Xf (zaS n))/\w'=w:=by
 by_cases h:n<1
 ·have H:Xo (zaS n=0):=dD<|by unfold zaS;rw[kE h]
  have b:n<=0:=Wm;go_enter func23,ntmps23;go_wp2;go_ret;exact⟨zdZ H.symm,rfl⟩
 have H:Xo (zaS n=(n-1)/8+1):=dD<|by unfold zaS;rw[kF h]
 have b:¬n<=0:=Wm;by_cases f:0<n%8
 ·have a:Xo (zaS n=n/8+1):=dD<|by rw[H.out];omega
  go_enter func23,ntmps23;go_wp2;go_ret;exact⟨zdZ a.symm,rfl⟩
 have a:Xo (zaS n=n/8):=dD<|by rw[H.out];omega
 go_enter func23,ntmps23;go_wp2;go_ret;exact⟨zdZ a.symm,rfl⟩
theorem ziy(v fs)(w:Xn)(h:zq blE w v fs):
  Xp prog 83 #[v] w fun e w'=>∃d,e=Xl d/\zb blE w.heap.size w' d fs/\zc w w':=by
 have i:=dD h;obtain⟨⟨f,g,rfl,b,c⟩,a⟩:=h;have h:=fun w f n g j h=>Lib.run_eql_slice_nil w _ _ f n g j h underlying29;cases f with
 |none=>
  have f:=b rfl;subst f;clear c b a;go_enter func83,ntmps83;go_wp2;go_ret;exact⟨_,rfl,zb.nil _ _ _,zc.refl w⟩
 |some x=>
  have f:=dD a;clear c b a;go_enter func83,ntmps83;go_wp2_with(at_builtin;refine zw (E:=blE) rfl (.tmp 5) (.tmp 6) rfl w.heap.size _ [] rfl (zb.made blE w) _ fs rfl (i.aA (za _ _)) ?qb Sm ?_)
  case qb=>rw[Yj,zA];exact f.out
  intro d a b a;go_wp2;go_ret;exact⟨d,rfl,Si b,((bR _ w).alloc (nR _) _).grown a Sm (by intro k a;simp[Value.ownBlock]at a;omega)⟩
theorem zgW(v)(fs:List FlV)(w:Xn)(h:zq fvE w v fs):
  Xp prog 82 #[v] w fun e w'=>∃d,e=Xl d/\zb fvE w.heap.size w' d fs/\zc w w':=by
 have i:=dD h;obtain⟨⟨f,g,rfl,b,c⟩,a⟩:=h;have h:=fun w f n g j h=>Lib.run_eql_slice_nil w _ _ f n g j h underlying35;cases f with
 |none=>
  have f:=b rfl;subst f;clear c b a;go_enter func82,ntmps82;go_wp2;go_ret;exact⟨_,rfl,zb.nil _ _ _,zc.refl w⟩
 |some x=>
  have f:=dD a;clear c b a;go_enter func82,ntmps82;go_wp2_with(at_builtin;refine zw (E:=fvE) rfl (.tmp 5) (.tmp 6) rfl w.heap.size _ [] rfl (zb.made fvE w) _ fs rfl (i.aA (za _ _)) ?qb Sm ?_)
  case qb=>rw[Yj,zA];exact f.out
  intro d a b a;go_wp2;go_ret;exact⟨d,rfl,Si b,((bR _ w).alloc (nR _) _).grown a Sm (by intro k a;simp[Value.ownBlock]at a;omega)⟩
def q8(base:Nat)(w:Xn)(v:Xq)(fs:List Fl):Prop:=
 ∃xs:List FlV,zb fvE base w v xs/\xs.length=fs.length/\(∀(i:Nat)x f,xs[i]?=Xa x->fs[i]?=Xa f->x.size=f.size/\zb blE base w x.v f.bl)/\
  ∀(i j:Nat)x y,i≠j->xs[i]?=Xa x->xs[j]?=Xa y->∀g,x.v.ownBlock=Xa g->y.v.ownBlock≠Xa g
theorem q8.new(h:q8 k w A M):Zh 0 k w A M:=by obtain⟨d,a,c,b,_⟩:=h;exact⟨a.cap,d,a.new.stays,c,fun i x f c a=>⟨(b i x f c a).1,(b i x f c a).2.new.stays⟩⟩
theorem q8.aA(h:q8 p w A M)(k:zc w w'):q8 p w' A M:=by obtain⟨e,b,c,a,d⟩:=h;exact⟨e,b.aA k,c,fun i x f c b=>⟨(a i x f c b).1,(a i x f c b).2.aA k⟩,d⟩
theorem q8.setCell(h:q8 k w A M){a:Addr}(c:a.block<k)(u):q8 k (w.setCell a u) A M:=by obtain⟨f,d,e,b,g⟩:=h;exact⟨f,d.setCell c u,e,fun i x f e d=>⟨(b i x f e d).1,(b i x f e d).2.setCell c u⟩,g⟩
theorem zhm:blE.ty≠fvE.ty:=by decide
structure zrp(base:Nat)(w:Xn)(kk:Nat)(xs ys:List FlV)(fs:List Fl):Prop where
 len:ys.length=xs.length
 own:∀(i:Nat)y f,i<kk->ys[i]?=Xa y->fs[i]?=Xa f->y.size=f.size/\zb blE base w y.v f.bl
 rest:∀(i:Nat),kk<=i->ys[i]?=xs[i]?
 two:∀(i j:Nat)x y,i<kk->j<kk->i≠j->ys[i]?=Xa x->ys[j]?=Xa y->∀g,x.v.ownBlock=Xa g->y.v.ownBlock≠Xa g
theorem zrp.step{w2:Xn}{xs A:List FlV}(fs:zrp k w p xs A M)(V:zc w w1){g:Nat}(G:w1.grownBy w2 (Xa g)){f:Fl}{x:FlV}(N:M[p]?=Xa f)(Y:xs[p]?=Xa x)
  (W:x.size=f.size){a:Option Addr}{n c:Nat}(e:zb blE w.heap.size w1 (O a n c) f.bl)(hb:k<=w.heap.size){v:Xq}(X:zb fvE k w1 v A)(L:v.ownBlock=Xa g):zrp k w2 (p+1) xs (A.set p ⟨x.size,a,n,c⟩) M:=by
 have K:p<A.length:=by rw[fs.len];exact(gS.1 Y).1
 have l:∀(y:FlV)(h:List Int),zb blE k w1 y.v h->zb blE k w2 y.v h:=fun y h P=>P.grown G (fun q E C=>by
  cases C;exact X.apart P (Ne.symm zhm) g L E)
 refine⟨Rx Yt fs.len,fun i y d u s b=>?_,fun i u=>?_,fun i D Q R u a0 H z r q m=>?_⟩
 ·by_cases C:i=p
  ·subst C;rw[sF K]at s;cases s;rw[N]at b;cases b;exact⟨W,l ⟨x.size,a,n,c⟩ _ (e.base hb)⟩
  rw[sN (fun fs=>C fs.symm)]at s;obtain⟨Z,I⟩:=fs.own i y d Wm s b;exact⟨Z,l y _ (I.aA V)⟩
 ·rw[sN Wm]
  exact fs.rest i Wm
 have j:∀(i:Nat)y d,i<p->A[i]?=Xa y->M[i]?=Xa d->∀B,y.v.ownBlock=Xa B->B<w.heap.size:=fun i y d u s b B F=>((fs.own i y d u s b).2.lt B F).2;have t:∀i,i<p->∃d,M[i]?=Xa d:=fun i u=>⟨_,gE (Hm ((gS.1 N).1))⟩;by_cases S:i=p
 ·subst S;rw[sF K]at z;cases z;rw[sN Wm]at r;obtain⟨d,b⟩:=t D Wm;intro base;have E:=j D R d Wm r b q base;have U:=(e.lt q m).1;omega
 rw[sN Wm]at z;by_cases T:D=p
 ·subst T;rw[sF K]at r;cases r;obtain⟨d,b⟩:=t i Wm;intro base;have E:=j i Q d Wm z b q m;have U:=(e.lt q base).1;omega
 rw[sN Wm]at r;exact fs.two i D Q R Wm Wm H z r q m
theorem zrp.all{xs a:List FlV}(h:zrp k w xs.length xs a M)(b:xs.length=M.length)(c:zb fvE k w A a):q8 k w A M:=by
 refine⟨a,c,h.len.trans b,fun i y f a b=>h.own i y f (by rw[<-h.len];exact(gS.1 a).1) a b,fun i j p q a b c=>h.two i j p q ?_ ?_ a b c⟩;·rw[<-h.len];exact(gS.1 b).1
 rw[<-h.len];exact(gS.1 c).1
theorem zhG(v fs)(i:Int)(w:Xn)(b3:qH w v fs):
  Xp prog 49 #[Xi #[v,Xe Xf i]] w fun e w'=>∃b,e=Xl (Xi #[b,Xe Xf i])/\q8 (w.heap.size+2) w' b fs/\zc w w'/\w.heap.size+2<=w'.heap.size:=by
 obtain⟨_,y,S,ag,a1⟩:=b3;have a8:=dD S.now;have ao:Xo (∀(k:Nat)x f,y[k]?=Xa x->fs[k]?=Xa f->x.size=f.size/\zq blE w (O x.a x.n x.c) f.bl):=show∀(k:Nat)x f,_ from fun k x f af ae=>⟨(a1 k x f af ae).1,(a1 k x f af ae).2.now⟩;have a7:=dD ag;have G:=S.now.short;obtain⟨ax,ay,rfl,_⟩:=S.now.rows;clear S ag a1;obtain⟨n,l⟩:=kA y.length;rw[l.out]at G a8⊢;obtain⟨B,c⟩:=kB ((w.alloc (Xk #[O ax n ay,Xe Xf i] 37)).alloc (Xk #[O Xb 0 0,Xe Xf 0] 37));have r:=gD2 c;have av:=x2a c;have aw:=x2b c;have h:Xo (B.heap.size=w.heap.size+2):=dD<|by rw[<-c];simp
 have V:Xo (_=B):=c;clear c;go_enter func49,ntmps49;go_wp2_with fail;rw[V.out];refine(zgW _ y B (a8.aA r)).mono ?_;rintro e b6⟨bc,rfl,g,ab⟩;obtain⟨a4,T,rfl⟩:=g.form;rw[h.out]at g;rw[l.out]at g⊢;have ap:=dD g;have aj:=dD ab;clear g ab;go_wp2;go_loopg[4,10] n (fun b0 _ a3 wr=>∃(a:Nat)(z:List FlV),a<=n/\n-a<=b0/\a3=Xe Xf a/\Xo (zc B wr)/\Xo (zb fvE (w.heap.size+2) wr (O a4 n T) z)/\Xo (zrp (w.heap.size+2) wr a y z fs))
 exact⟨0,y,nZ _,Wm,rfl,aj,ap,⟨rfl,fun k b5 f I=>absurd I (nL _),fun k _=>rfl,fun k bb x b5 I=>absurd I (nL _)⟩⟩;obtain⟨a,z,b2,b1,rfl,m,R,A⟩:=hrel;by_cases j:a<n
 ·have M:=kC j
  obtain⟨q,U⟩:∃q,Xo (y[a]?=Xa q):=⟨_,gE (Rx l.out j)⟩;obtain⟨f,a6⟩:∃f,Xo (fs[a]?=Xa f):=⟨_,gE (by rw[<-a7.out,l.out];exact j)⟩;have a9:Xo (z[a]?=Xa q):=dD (by rw[A.rest a (nR _)];exact U.out);obtain⟨F,b4,L⟩:=R.aG (by rw[A.len,l.out];omega);rw[A.len,l.out]at L;cases L;obtain⟨ah,ai⟩:=ao.out a q f U a6.out;have au:=dD ah;have K:=ziy _ f.bl wr (ai.aA (r.trans m));obtain⟨b8,ba,N,d⟩:=R.at.rows;obtain⟨b9,Z,H⟩:=d a q a9.out;rw[A.len,l.out]at N;cases N;cases Z;have az:wr.cell? ⟨F,a*2+1,Xb⟩=Xa (O q.a q.n q.c):=by
   have:=H wr (zc.refl _) 1 _ rfl;rw[zX,Addr.add_lit,zA]at this;exact this
  clear ah ai d H;go_wp2_with fail;refine K.mono ?_;rintro e b7⟨bd,rfl,u,Y⟩;obtain⟨C,D,rfl⟩:=u.form;have aa:=dD u;have a5:=dD Y;have s:=dD (R.aA Y);have am:Xo (w.heap.size+2<=wr.heap.size):=show _<=_ by
   have:=bS m.out;rw[h.out]at this;exact this
  clear u Y K az;generalize f.bl.length=P at aa⊢;go_wp2_with(refine zx (E:=fvE) rfl (.tmp 22) (.tmp 20) 29 rfl (w.heap.size+2) _ z s F a 1 rfl q ⟨q.size,C,P,D⟩ a9.out [O C P D] ?s1 rfl ?s2 ?s3 ⟨F,a*2+1,Xb⟩ rfl rfl (O C P D) rfl rfl ?_)
  case s1=>kernel_rfl
  case s2=>exact nR 2
  case s3=>simp;rfl
  intro W Q t _;have aq:Xo (zb fvE (w.heap.size+2) W (O (Xa ⟨F,0,Xb⟩) n T) (z.set a ⟨q.size,C,P,D⟩)):=Q;have al:Xo (zrp (w.heap.size+2) W (a+1) y (z.set a ⟨q.size,C,P,D⟩) fs):=A.step a5 t a6 U au aa am s rfl;have ak:Xo (zc B W):=show zc _ _ from zd (m.trans a5) t (by
   rw[h.out];exact(s.lt F rfl).1)
  clear Q t;go_wp2;go_roundg (n-(a+1));exact⟨a+1,_,Wm,Wm,Gn,ak,aq,al⟩;omega
 have M:=kD j;have:a=n:=Wm;subst this;have ar:Xo (q8 (w.heap.size+2) wr (O a4 a T) fs):=dD<|by
  have ac:=A.out;rw[<-l.out]at ac;exact ac.all a7 R.out
 have be:=(av.aA m).c 1 rfl;have X:=aw.aA m.out;obtain⟨bf,bg⟩:=X.k2;have bh:=X.f;have an:=dD (r.trans m);go_wp2;refine bodyPost_ret (v:=Xi #[O a4 a T,Xe Xf i]) (by simp[results,Tryz.results49,go_sem, *]) rfl ⟨_,rfl,(ar.setCell Sm _).setCell Sm _,?_,?_⟩;·exact Below.setCell (Below.setCell an (p:=⟨w.heap.size+1,0,Xb⟩) Sm _) (p:=⟨w.heap.size+1,1,Xb⟩) Sm _
 have:=bS m.out;rw[h.out]at this;simp[World.setCell];exact this
def env(e:En):List Xq:=[Xe Xf e.kind,Xe Xf e.n,Xh e.wr]
theorem zsL:(Tryz.prog.info? 55).map (fun i=>(i.zero,i.size,i.bytes))=Xa (Xa (Xi #[Xe Xf 0,Xe Xf 0,Xh Xd]),3,24):=by kernel_rfl
def enE:Elt En where
 enc:=env
 k:=3
 ty:=55
 st:=59
 bytes:=24
 zv:=Xi #[Xe Xf 0,Xe Xf 0,Xh Xd]
 zero:=en0
 len:=fun _=>rfl
 one:=fun a u hu=>by
  simp only[env,mC,nM,or_false]at hu
  rcases hu with rfl|rfl|rfl<;>rfl
 bL:=underlying59
 aF:=zsL
 zok:=rfl
 few:=by decide
 pos:=by decide
def zrs(W:Xn)(y:Addr)(e:En):Prop:=W.cell? y=Xa (Xe Xf e.kind)/\W.cell? {block:=y.block,off:=y.off+1}=Xa (Xe Xf e.n)/\W.cell? {block:=y.block,off:=y.off+2}=Xa (Xh e.wr)
def zqk(w:Xn)(a:Option Addr)(l:List En):Prop:=∀(j:Nat)e,l[j]?=Xa e->∃ad,a=Xa ad/\∀W,zc w W->zrs W (ad.add (j*3)) e
theorem zq.ens(h:zq enE w A C):∃a c,A=O a C.length c/\zqk w a C:=by obtain⟨a,c,b,e⟩:=h.rows;refine⟨a,c,b,fun j x g=>?_⟩;obtain⟨d,f,b⟩:=e j x g;exact⟨d,f,fun W d=>⟨b W d 0 _ rfl,b W d 1 _ rfl,b W d 2 _ rfl⟩⟩
structure Js(B0 B1:Nat)(w:Xn)(vs:List Xq)(t:List (List En)):Prop where
 len:vs.length=8
 aL:t.length=8
 row:∀(i:Nat)v h,vs[i]?=Xa v->t[i]?=Xa h->zj2 enE B0 B1 w v h
def JT(w:Xn)(vs:List Xq)(t:List (List En)):Prop:=Js 0 0 w vs t
theorem Js.out(h:Js B0 B1 w vs G)(k:Out B0 B1 w w'):Js B0 B1 w' vs G:=⟨h.len,h.aL,fun i v x a b=>(h.row i v x a b).out k⟩
theorem Js.aA(h:Js B0 B1 w vs G)(k:zc w w'):Js B0 B1 w' vs G:=h.out (Out.aA k)
theorem Js.less(h:Js B0 B1 w vs G)(a:B0<=A0)(b:A1<=B1):Js A0 A1 w vs G:=⟨h.len,h.aL,fun i v x c d=>(h.row i v x c d).less a b⟩
theorem Js.now(h:Js B0 B1 w vs G):JT w vs G:=⟨h.len,h.aL,fun i v x a b=>(h.row i v x a b).now.s0⟩
theorem JT.aA(h:JT w vs G)(k:zc w w'):JT w' vs G:=Js.aA h k
def J2:List Xq:=Xr 8 (O Xb 0 0)
theorem Js.nil(B0 B1:Nat)(w):Js B0 B1 w J2 qG:=⟨rfl,rfl,fun i v h b c=>by
 have a:=mG b;have b:=mG c;rw[J2,Oo]at a;rw[qG,Oo]at b;rw[a.2,b.2];exact fun a _=>zq.nil enE a⟩
theorem JT.half(h:JT w vs G)(hi:k<8):∃a c x,G[k]?=Xa x/\vs[k]?=Xa (O a x.length c)/\zq enE w (O a x.length c) x:=by obtain⟨v,d⟩:∃v,vs[k]?=Xa v:=⟨_,gE (by rw[h.len];exact hi)⟩;obtain⟨x,e⟩:∃x,G[k]?=Xa x:=⟨_,gE (by rw[h.aL];exact hi)⟩;have b:=(h.row k v x d e).now;obtain⟨a,c,rfl,_⟩:=b.rows;grind
theorem zl0:∀{l:List α},l.length=8->∃a b c d e f g h,l=[a,b,c,d,e,f,g,h]
 |[a,b,c,d,e,f,g,h],_=>⟨a,b,c,d,e,f,g,h,rfl⟩
theorem zc0(w:Xn)(a:Array Xq)(o:Nat)(v:Int)(b:a[o]?=Xa (Xe Xf v)):(part 3 a o).run prog w=.ok (Xe Xf v) w:=run_part_plain w (by simp[Program.plainKey,underlying3]) b
theorem zd8(w:Xn)(a:Array Xq)(o:Nat)(v:Bool)(b:a[o]?=Xa (Xh v)):(part 4 a o).run prog w=.ok (Xh v) w:=run_part_plain w (by simp[Program.plainKey,underlying4]) b
theorem zf3(m n:Int)(w):
  Xp prog 110 #[Xe Xf m,Xe Xf n] w fun e w'=>e=Xl (Xh (bel m n))/\w'=w:=by
 have H:Xo (bel m n=(decide (0<=m)&&decide (m<n))):=rfl;by_cases a:0<=m
 ·by_cases a:m<n
  ·go_enter func110,ntmps110
   go_wp2;go_ret;exact⟨by rw[H.out];simp[*],rfl⟩
  go_enter func110,ntmps110;go_wp2;go_ret;exact⟨by rw[H.out];simp[*],rfl⟩
 go_enter func110,ntmps110;go_wp2;go_ret;exact⟨by rw[H.out];simp;omega,rfl⟩
theorem JQ{m n:Int}(a:0<=m)(b:m<n)(w):Xp prog 110 #[Xe Xf m,Xe Xf n] w fun e w'=>e=Xl (Xh Xc)/\w'=w:=by have:=zf3 m n w;rw[Jc.2 ⟨a,b⟩]at this;exact this
theorem zct{m n:Int}(h:¬(0<=m/\m<n))(w):Xp prog 110 #[Xe Xf m,Xe Xf n] w fun e w'=>e=Xl (Xh Xd)/\w'=w:=by have:=zf3 m n w;rw[zoo h]at this;exact this
theorem zcK(k n:Int)(b:Bool)(w):
  Xp prog 143 #[Xi #[Xe Xf k,Xe Xf n,Xh b]] w fun e w'=>e=Xl (Xh (enS ⟨k,n,b⟩))/\zc w w':=by have H:Xo (enS ⟨k,n,b⟩=(k !=0)):=rfl;go_enter func143,ntmps143;go_wp2;go_ret;exact⟨Rr H.out,za _ _⟩
theorem zpI(h:¬(0<=Z.kind/\Z.kind<=2)):enW Z=1:=by unfold enW;rw[kF h]
theorem zii(h:0<=Z.kind/\Z.kind<=2)(a:¬(0<=Z.n/\Z.n<=59/\(Z.kind=1->Z.n<=39))):enW Z=3:=by unfold enW;rw[kE h,kF a]
theorem znX(h:0<=Z.kind/\Z.kind<=2)(a:0<=Z.n/\Z.n<=59/\(Z.kind=1->Z.n<=39))(b:(Z.kind=0/\(Z.n≠0\/Z.wr=Xc))\/(Z.kind=2/\Z.wr=Xc)):enW Z=7:=by unfold enW;rw[kE h,kE a,kE b]
def znZ(a b:En):Bool:=(a.kind==b.kind)&&((a.n==b.n)&&(a.wr==b.wr))
theorem zsh(k n k' n':Int)(b b':Bool)(w):(Op.equalIn 10000 55 (Xi #[Xe Xf k,Xe Xf n,Xh b]) (Xi #[Xe Xf k',Xe Xf n',Xh b'])).run prog w=.ok (znZ ⟨k,n,b⟩ ⟨k',n',b'⟩) w:=by
 have hf:(Tryz.prog.fieldsOf 55).toList.map (fun f=>(f.name,f.type,f.offset))=[("Kind",3,0),("N",3,1),("Write",4,2)]:=by kernel_rfl
 rw[run_equalIn_struct w 9999 55 _ _ Kr Kr];obtain⟨f0,f1,f2,hfs⟩:∃f0 f1 f2,(Tryz.prog.fieldsOf 55).toList=[f0,f1,f2]:=by
  match hq:(Tryz.prog.fieldsOf 55).toList with
  |[f0,f1,f2]=>exact⟨f0,f1,f2,rfl⟩
  |[]=>rw[hq]at hf;simp at hf
  |[_]=>rw[hq]at hf;simp at hf
  |[_,_]=>rw[hq]at hf;simp at hf
  |_::_::_::_::_=>rw[hq]at hf;simp at hf
 rw[hfs]at hf⊢;simp at hf;obtain⟨⟨h1,h2,h3⟩,⟨h4,h5,h6⟩,h7,h8,h9⟩:=hf;have pI:=zc0 w;have pB:=zd8 w;simp only[Op.eqFields,h1,h2,h3,h4,h5,h6,h7,h8,h9];simp[pI,pB,run_equalIn_int w _ _ _ _ _ _ underlying3,run_equalIn_bool' w _ _ _ _ underlying4];unfold znZ;by_cases e1:k=k'<;>by_cases e2:n=n'<;>cases b<;>cases b'<;>simp[e1,e2]
theorem zbj(k n:Int)(b:Bool)(w):
  Xp prog 147 #[Xi #[Xe Xf k,Xe Xf n,Xh b]] w fun e w'=>e=Xl (Xe Xf (enW ⟨k,n,b⟩))/\zc w w':=by
 obtain⟨Z,f⟩:=kA (enW ⟨k,n,b⟩);rw[f.out];by_cases g:0<=k/\k<=2
 ·have a:=fun W=>JQ (m:=k) (n:=3) g.1 Wm W
  by_cases l:0<=n/\n<=59
  ·have c:=fun W=>JQ (m:=n) (n:=60) l.1 Wm W
   by_cases i:k=1/\39<n
   ·have d:Xo (Z=3):=dD<|by rw[<-f.out];exact zii g (fun h=>by have:=h.2.2 i.1;simp at this;omega)
    obtain⟨rfl,i⟩:=i;have q:40<=n:=Wm;go_enter func147,ntmps147;go_wp2_with fail;refine(a _).mono ?_;rintro e w'⟨rfl,rfl⟩;go_wp2_with fail;refine(c _).mono ?_;rintro e w'⟨rfl,rfl⟩;go_wp2;go_ret;exact⟨Rr d.out,za _ _⟩
   have j:0<=n/\n<=59/\(k=1->n<=39):=⟨l.1,l.2,fun h=>Wm⟩;obtain rfl|rfl|rfl:k=0\/k=1\/k=2:=Wm
   ·have p:=fun W=>zsh 0 n 0 0 b Xd W
    by_cases i:n=0/\b=Xd
    ·have d:Xo (Z=0):=dD<|by rw[<-f.out];exact JN g j (fun h=>by simp[i.1,i.2]at h)
     obtain⟨rfl,rfl⟩:=i;rw[show znZ ⟨0,0,Xd⟩ ⟨0,0,Xd⟩=Xc from rfl]at p;go_enter func147,ntmps147;go_wp2_with fail;refine(a _).mono ?_;rintro e w'⟨rfl,rfl⟩;go_wp2_with fail;refine(c _).mono ?_;rintro e w'⟨rfl,rfl⟩;go_wp2;go_ret;exact⟨Rr d.out,za _ _⟩
    have d:Xo (Z=7):=dD<|by
     rw[<-f.out];refine znX g j (.inl ⟨rfl,?_⟩);cases b with
     |false=>exact .inl (fun h=>i ⟨h,rfl⟩)
     |true=>exact .inr rfl
    have r:znZ ⟨0,n,b⟩ ⟨0,0,Xd⟩=Xd:=by
     unfold znZ;cases b with
     |false=>simp;exact fun h=>i ⟨h,rfl⟩
     |true=>simp
    rw[r]at p;go_enter func147,ntmps147;go_wp2_with fail;refine(a _).mono ?_;rintro e w'⟨rfl,rfl⟩;go_wp2_with fail;refine(c _).mono ?_;rintro e w'⟨rfl,rfl⟩;go_wp2;go_ret;exact⟨Rr d.out,za _ _⟩
   ·have d:Xo (Z=0):=dD<|by rw[<-f.out];exact JN g j (fun h=>by simp at h)
    have q:¬40<=n:=Wm;go_enter func147,ntmps147;go_wp2_with fail;refine(a _).mono ?_;rintro e w'⟨rfl,rfl⟩;go_wp2_with fail;refine(c _).mono ?_;rintro e w'⟨rfl,rfl⟩;go_wp2;go_ret;exact⟨Rr d.out,za _ _⟩
   cases b with
   |false=>
    have d:Xo (Z=0):=dD (by rw[<-f.out];exact JN g j (fun h=>by simp at h));go_enter func147,ntmps147;go_wp2_with fail;refine(a _).mono ?_;rintro e w'⟨rfl,rfl⟩;go_wp2_with fail;refine(c _).mono ?_;rintro e w'⟨rfl,rfl⟩;go_wp2;go_ret;exact⟨Rr d.out,za _ _⟩
   |true=>
    have d:Xo (Z=7):=dD (by rw[<-f.out];exact znX g j (.inr ⟨rfl,rfl⟩));go_enter func147,ntmps147;go_wp2_with fail;refine(a _).mono ?_;rintro e w'⟨rfl,rfl⟩;go_wp2_with fail;refine(c _).mono ?_;rintro e w'⟨rfl,rfl⟩;go_wp2;go_ret;exact⟨Rr d.out,za _ _⟩
  have d:Xo (Z=3):=dD (by rw[<-f.out];exact zii g (fun h=>l ⟨h.1,h.2.1⟩));have c:=fun W=>zct (m:=n) (n:=60) Wm W;go_enter func147,ntmps147;go_wp2_with fail;refine(a _).mono ?_;rintro e w'⟨rfl,rfl⟩;go_wp2_with fail;refine(c _).mono ?_;rintro e w'⟨rfl,rfl⟩;go_wp2;go_ret;exact⟨Rr d.out,za _ _⟩
 have d:Xo (Z=1):=dD<|by rw[<-f.out];exact zpI g
 have a:=fun W=>zct (m:=k) (n:=3) Wm W;go_enter func147,ntmps147;go_wp2_with fail;refine(a _).mono ?_;rintro e w'⟨rfl,rfl⟩;go_wp2;go_ret;exact⟨Rr d.out,za _ _⟩
theorem zgI(v)(fs:List En)(w)(y:zq enE w v fs):
  Xp prog 187 #[v,.func (.func 143) #[] #[]] w fun e w'=>(∃z:Int,e=Xl (Xe Xf z)/\decide (0<=z)=zaV fs)/\zc w w':=by
 have h:=y.short;obtain⟨N,Q,rfl,k⟩:=y.ens;have D:=dD k;obtain⟨n,s⟩:=kA fs.length;rw[s.out]at h⊢;obtain⟨g,c⟩:=kA (zaV fs);rw[c.out];have U:=enters_of func143 Kr rfl;go_enter func187,ntmps187;go_wp2;go_loopg[8] n (fun F L wr=>∃b:Nat,b<=n/\n-b<=F/\L=Xe Xf b/\Xo (zc w wr)/\Xo (∀(j:Nat)q,j<b->fs[j]?=Xa q->enS q=Xd))
 exact⟨0,nZ _,Wm,rfl,zc.refl w,fun j q x=>absurd x (nL _)⟩;obtain⟨b,G,V,rfl,l,A⟩:=hrel;by_cases d:b<n
 ·have i:=kC d
  obtain⟨q,t⟩:∃q,Xo (fs[b]?=Xa q):=⟨_,gE (Rx s.out d)⟩;obtain⟨P,rfl,H⟩:=D.out b q t.out;obtain⟨R,S,T⟩:=H wr l.out;have a:=zcK q.kind q.n q.wr wr;cases m:enS q with
  |true=>
   have r:Xo (decide (0<=(b:Int))=g):=dD<|by
    rw[<-c.out,show zaV fs=Xc from zrl t.out m];simp
   rw[show enS ⟨q.kind,q.n,q.wr⟩=Xc from m]at a;go_wp2_with fail;refine a.mono ?_;rintro e E⟨rfl,u⟩;have p:=dD (l.trans u);go_wp2;go_ret;exact⟨⟨_,rfl,r⟩,p⟩
  |false=>
   have C:Xo (∀(j:Nat)q,j<b+1->fs[j]?=Xa q->enS q=Xd):=dD<|fun j K x f=>by
    by_cases e:j=b;·subst e;rw[t.out]at f;cases f;exact m
    exact A j K Wm f
   rw[show enS ⟨q.kind,q.n,q.wr⟩=Xd from m]at a;go_wp2_with fail;refine a.mono ?_;rintro e E⟨rfl,u⟩;have p:=dD (l.trans u);go_wp2;go_roundg (n-(b+1));exact⟨b+1,Wm,Wm,Gn,p,C⟩;omega
 have i:=kD d;have:b=n:=Wm;subst this;have r:Xo (decide (0<=(-1:Int))=g):=dD<|by
  rw[<-c.out];symm;exact zrk (fun j M B=>A.out j M (by rw[<-s.out];exact(gS.1 B).1) B)
 go_wp2;go_ret;exact⟨⟨_,rfl,r⟩,l⟩
theorem QA(v)(fs:List En)(w)(b:zq enE w v fs):
  Xp prog 174 #[v,.func (.func 143) #[] #[]] w fun e w'=>e=Xl (Xh (zaV fs))/\zc w w':=by have a:=zgI v fs w b;obtain⟨c,c,rfl,_⟩:=b.rows;clear b;generalize fs.length=n at*;generalize zaV fs=A at*;go_enter func174,ntmps174;go_wp2_with fail;refine a.mono ?_;rintro e b⟨⟨z,rfl,b⟩,c⟩;have f:=dD b;have d:=dD c;clear b c a;go_wp2;go_ret;exact⟨by rw[<-f.out];rfl,d⟩
theorem zfo(v)(fs:List En)(w:Xn)(h:zq enE w v fs):
  Xp prog 118 #[v] w fun e w'=>∃d,e=Xl d/\zb enE w.heap.size w' d fs/\zc w w':=by
 have i:=dD h;obtain⟨⟨f,g,rfl,b,c⟩,a⟩:=h;have h:=fun w f n g j h=>Lib.run_eql_slice_nil w _ _ f n g j h underlying59;cases f with
 |none=>
  have f:=b rfl;subst f;clear c b a;go_enter func118,ntmps118;go_wp2;go_ret;exact⟨_,rfl,zb.nil _ _ _,zc.refl w⟩
 |some x=>
  have f:=dD a;clear c b a;go_enter func118,ntmps118;go_wp2_with(at_builtin;refine zw (E:=enE) rfl (.tmp 5) (.tmp 6) rfl w.heap.size _ [] rfl (zb.made enE w) _ fs rfl (i.aA (za _ _)) ?qb Sm ?_)
  case qb=>rw[Yj,zA];exact f.out
  intro d a b a;go_wp2;go_ret;exact⟨d,rfl,Si b,((bR _ w).alloc (nR _) _).grown a Sm (by intro k a;simp[Value.ownBlock]at a;omega)⟩
theorem Box.range(h:Box w b D):w.rangeAt b 0 D:=fun j v a=>by
 rw[zA];exact h.c j a
theorem Box.there(h:Box w b D):w.there b 0 D.length:=fun j a=>by
 rw[zA];exact⟨by rw[h.c j (gE a)];rfl,h.f j⟩
theorem Box.part:∀{ds cs:List Xq}{o:Nat},Box w b cs->o+ds.length<=cs.length->Box (w.setCells b o ds) b (splice cs o ds):=by
 have a:∀(ds cs:List Xq)(o:Nat)(w:Xn),Box w b cs->o+ds.length<=cs.length->Box (w.setCells b o ds) b (splice cs o ds):=fun ds=>by
  induction ds with
  |nil=>
   intro cs o w h a;have:splice cs o []=cs:=(by simp[splice]);rw[this];exact h
  |cons d ds e=>
   intro cs o w h a;simp only[Yi]at a;have c:=h.set o d;have a:=e (cs.set o d) (o+1) (w.setCell ⟨b,o,Xb⟩ d) c (by simp;omega);have c:splice (cs.set o d) (o+1) ds=splice cs o (d::ds):=by
    unfold splice;rw[List.take_set,List.drop_set,kE Wm,Oc,gE Wm];simp only[Yi,Option.toList_some];rw[List.set_append_right _ _ (by simp;omega),show o+1+ds.length=o+(ds.length+1) by omega];simp[Oy,Uj (show o<=cs.length by omega)]
   rw[c]at a;exact a
 grind
theorem zW(b:Nat):∀(ds:List Xq)(o:Nat)(w:Xn),w.grownBy (w.setCells b o ds) (Xa b)/\(w.setCells b o ds).heap.size=w.heap.size
 |[],_,w=>⟨World.grownBy.rfl' _ _,rfl⟩
 |d::ds,o,w=>by
  obtain⟨a,c⟩:=zW b ds (o+1) (w.setCell ⟨b,o,Xb⟩ d);have f:w.grownBy (w.setCell ⟨b,o,Xb⟩ d) (Xa b):=⟨rfl,rfl,rfl,by simp[World.setCell],fun k _ g=>Below.heap_setCell _ _ _ _ (fun e=>g (by rw[e]))⟩
  exact⟨Za f a,c.trans (by simp[World.setCell])⟩
theorem zE(e:o.guard=Xb)(c x)(f:o.op=.load c x)(b:Nat)(i:a.eval x=Xj (Xa ⟨b,0,Xb⟩))(hb:Box w b vs){d:TypeDesc}(g:Tryz.prog.underlying c=Xa d)(hd:d.isRow=Xc)(hi:(Tryz.prog.info? c).map (·.size)=Xa vs.length)
  (h:wpList prog ops Q K (a.put o.dst (Xi vs.toArray)) w):wpList prog ops Q (o::K) a w:=
 wpList_load_mid e c x f b 0 i vs _ hb.range g hd hi h
theorem zaZ(h:vs.length=D.length):splice D 0 vs=vs:=by unfold splice;grind
theorem zn(c:o.guard=Xb)(e p x)(g:o.op=.store e p x)(b:Nat)(hp:a.eval p=Xj (Xa ⟨b,0,Xb⟩))(vs:List Xq)(i:a.eval x=Xi vs.toArray)
  {cs:List Xq}(hb:Box w b cs)(d:vs.length=cs.length)(hi:(Tryz.prog.info? e).map (·.size)=Xa cs.length)(f:∀v∈vs,v.oneCell'=Xc)
  (h:∀w',Box w' b vs->w.grownBy w' (Xa b)->w'.heap.size=w.heap.size->wpList prog ops Q K (a.put o.dst undef) w'):wpList prog ops Q (o::K) a w:=by
 refine wpList_store_mid c e p x g b 0 vs.toArray hp i ?_ ?_ (all_oneCell_toArray f) ?_;·simpa[d]using hb.there
 ·simpa[d]using hi
 have:=hb.part (ds:=vs) (o:=0) Wm;rw[zaZ d]at this;exact h _ this (zW b vs 0 w).1 (zW b vs 0 w).2
theorem ziV{c:Oper}(d:c.guard=Xb)(e p x)(i:c.op=.store e p x)(b o:Nat)(hp:a.eval p=Xj (Xa ⟨b,o,Xb⟩))(vs:List Xq)(j:a.eval x=Xi vs.toArray)
  {cs:List Xq}(hb:Box w b cs)(g:o+vs.length<=cs.length)(hi:(Tryz.prog.info? e).map (·.size)=Xa vs.length)(f:∀v∈vs,v.oneCell'=Xc)
  (h:∀w',Box w' b (splice cs o vs)->w.grownBy w' (Xa b)->w'.heap.size=w.heap.size->wpList prog ops Q K (a.put c.dst undef) w'):wpList prog ops Q (c::K) a w:=by
 refine wpList_store_mid d e p x i b o vs.toArray hp j ?_ ?_ (all_oneCell_toArray f) ?_
 ·intro j c;have:=hb.there (o+j) (by simp at c;omega);rw[zA]at this;exact this
 ·simpa using hi
 exact h _ (hb.part g) (zW b vs o w).1 (zW b vs o w).2
theorem Box.mid(h:Box w b D)(o:Nat)(c:∀(j:Nat)v,vs[j]?=Xa v->D[o+j]?=Xa v):w.rangeAt b o vs:=fun j v a=>h.c _ (c j v a)
theorem z8{e:Func}{p:Tmp}(h:e.results=#[.cell p t])(a:Array Xq)(hp:a.getD p undef=Xj (Xa ⟨b,0,Xb⟩))(hb:Box w b vs){d:TypeDesc}(f:Tryz.prog.underlying t=Xa d)(hd:d.isRow=Xc)(hi:(Tryz.prog.info? t).map (·.size)=Xa vs.length):
  (results e a).run prog w=.ok (Xi vs.toArray) w:=by have e:a[p]?.getD undef=Xj (Xa ⟨b,0,Xb⟩):=Si hp;have a:=run_loadVar_mid (P:=prog) w b 0 t vs d hb.range f hd hi;simp[results,h,e,asAddr,a]
theorem ZX{next:Act->Xn->Prop}(d:Option Tmp)(K:Xq->Xn->Prop)(hi:ops[k]?=Xa o)(hd:o.dst=d)(c:Xt o (yielded ops a.tmps)=Xc)(h:zO V o a w K)(b:∀v w',K v w'->next (a.put d v) w'):wpOp V ops Q k next a w:=by subst hd;unfold wpOp;simp only[hi,c,if_true];exact .inl (h.wp b)
theorem zO.storeAll(d p x)(f:o.op=.store d p x)(b:Nat)(hp:a.eval p=Xj (Xa ⟨b,0,Xb⟩))(vs:List Xq)(i:a.eval x=Xi vs.toArray)
  {cs:List Xq}(hb:Box w b cs)(c:vs.length=cs.length)(hi:(Tryz.prog.info? d).map (·.size)=Xa cs.length)(e:∀v∈vs,v.oneCell'=Xc)
  (h:∀w',Box w' b vs->w.grownBy w' (Xa b)->w'.heap.size=w.heap.size->N undef w'):zO prog o a w N:=by
 unfold zO;have g:(execOp a.eval o).run prog w=.ok .skip (w.setCells b 0 vs):=by
  have:=run_storeAt_mid (P:=prog) w b 0 d vs.toArray (by simpa[c]using hb.there) (by simpa[c]using hi) (all_oneCell_toArray e);simp only[execOp,f,hp,i,Yg,this,rA,Yk]
 rw[g];have hp:=hb.part (ds:=vs) (o:=0) Wm;rw[zaZ c]at hp;exact h _ hp (zW b vs 0 w).1 (zW b vs 0 w).2
theorem zsM:(Tryz.prog.info? 61).map (·.size)=Xa 8:=by kernel_rfl
theorem qO(c:o.guard=Xb)(x)(e:o.op=.load 61 x)(b:Nat)(f:a.eval x=Xj (Xa ⟨b,0,Xb⟩))(hb:Box w b vs)(d:vs.length=8)
  (h:wpList prog ops Q K (a.put o.dst (Xi vs.toArray)) w):wpList prog ops Q (o::K) a w:=
 wpList_load_mid c 61 x e b 0 f vs _ hb.range underlying61 rfl (Rx d zsM) h
theorem zoS(i:Nat)(hi:i<8)(g:vs[i]?=Xa A):(Instr.index 61 (Xi vs.toArray) (Xe Xf (i:Int))).run prog w=.ok A w:=by
 have e:(isAgg 59).run prog w=.ok Xd w:=by
  unfold isAgg;rw[Yg,run_underlying underlying59 w];rfl
 have f:(Go.sizeOf 59).run prog w=.ok 1 w:=by
  obtain⟨a,c,d⟩:∃a,Tryz.prog.info? 59=Xa a/\a.size=1:=by
   have:(Tryz.prog.info? 59).map (·.size)=Xa 1:=Kr;cases b:Tryz.prog.info? 59 with
   |none=>rw[b]at this;cases this
   |some a=>rw[b]at this;exact⟨a,rfl,by simpa using this⟩
  simp[Go.sizeOf,typeInfo,c,d]
 have a:(0:Int)<=(i:Int)/\(i:Int)<((8:Nat):Int):=Wm;simp only[Instr.index,asIntOf,Yg,Yk,rA,run_underlying underlying61];rw[kE a];simp only[Yg,f,rA,part,e,Nat.mul_one,tN];simp[g]
theorem zdP(b:o.guard=Xb)(x ix)(d:o.op=.index 61 x ix)(vs:List Xq)(f:a.eval x=Xi vs.toArray)(i:Nat)(c:a.eval ix=Xe Xf (i:Int))(hi:i<8)(e:vs[i]?=Xa A)
  (h:wpList prog ops Q K (a.put o.dst A) w):wpList prog ops Q (o::K) a w:=by refine wpList_plain b fun v b=>?_;unfold Oper.wp execOp;simp only[d,f,c,Yg,Yk,rA,zoS i hi e];exact b _ _ h
theorem qI{e:Func}{p u:Tmp}(h:e.results=#[.cell p t,.tmp u])(a:Array Xq)(hp:a.getD p undef=Xj (Xa ⟨b,0,Xb⟩))(hb:Box w b vs){d:TypeDesc}(f:Tryz.prog.underlying t=Xa d)(hd:d.isRow=Xc)(hi:(Tryz.prog.info? t).map (·.size)=Xa vs.length):
  (results e a).run prog w=.ok (Xm #[Xi vs.toArray,a.getD u undef]) w:=by have a:=run_loadVar_mid (P:=prog) w b 0 t vs d hb.range f hd hi;rw[results_cell_tmp h,hp];simp[asAddr,Result.andThen,a]
theorem Js.one(h:Js B0 B1 w vs G):∀v∈vs,v.oneCell'=Xc:=fun v b=>by
 obtain⟨i,a⟩:=Xu b;have b:i<8:=by rw[<-h.len];exact(gS.1 a).1
 obtain⟨c,c,x,_,c,_⟩:=h.now.half b;rw[c]at a;cases a;rfl
structure Zg(base:Nat)(w:Xn)(vs:List Xq)(t:List (List En)):Prop where
 len:vs.length=8
 aL:t.length=8
 row:∀(i:Nat)v h,vs[i]?=Xa v->t[i]?=Xa h->zb enE base w v h
 two:∀(i j:Nat)u v,i≠j->vs[i]?=Xa u->vs[j]?=Xa v->∀g,u.ownBlock=Xa g->v.ownBlock≠Xa g
theorem Zg.new(h:Zg k w vs G):Js 0 k w vs G:=⟨h.len,h.aL,fun i v x a b=>(h.row i v x a b).new.stays⟩
theorem Zg.aA(h:Zg p w vs G)(k:zc w w'):Zg p w' vs G:=⟨h.len,h.aL,fun i v x a b=>(h.row i v x a b).aA k,h.two⟩
theorem Zg.base(h:Zg k w vs G)(hb:base'<=k):Zg base' w vs G:=⟨h.len,h.aL,fun i v x a b=>(h.row i v x a b).base hb,h.two⟩
theorem Zg.half(h:Zg k w vs G)(hi:p<8):∃a c x,G[p]?=Xa x/\vs[p]?=Xa (O a x.length c)/\zb enE k w (O a x.length c) x:=by obtain⟨v,d⟩:∃v,vs[p]?=Xa v:=⟨_,gE (by rw[h.len];exact hi)⟩;obtain⟨x,e⟩:∃x,G[p]?=Xa x:=⟨_,gE (by rw[h.aL];exact hi)⟩;have b:=h.row p v x d e;obtain⟨a,c,rfl⟩:=b.form;grind
theorem Zg.one(h:Zg k w vs G){i:Nat}{a:Xq}(hi:i<8)(n:vs[i]?=Xa A)(m:w.grownBy w' A.ownBlock)(c:zb enE k w' a C)(q:∀g,a.ownBlock=Xa g->A.ownBlock=Xa g\/w.heap.size<=g):Zg k w' (vs.set i a) (G.set i C):=by
 have a:∀(j:Nat)u,vs[j]?=Xa u->∀g,u.ownBlock=Xa g->g<w.heap.size:=fun j u e g m=>by
  obtain⟨x,v⟩:∃x,G[j]?=Xa x:=⟨_,gE (by rw[h.aL,<-h.len];exact(gS.1 e).1)⟩;exact((h.row j u x e v).lt g m).2
 refine⟨by simp[h.len],by simp[h.aL],fun j u x e v=>?_,fun j l r s a f d g C c=>?_⟩
 ·by_cases p:j=i
  ·grind
  rw[sN (fun h=>p h.symm)]at e v;exact(h.row j u x e v).grown m (fun g v m=>h.two j i u A p e n g v m)
 by_cases v:j=i
 ·subst v;rw[sF (by rw[h.len];exact hi)]at f;cases f;rw[sN a]at d;rcases q g C with e|e;·exact h.two j l A s a n d g e c
  grind
 rw[sN (fun h=>v h.symm)]at f;by_cases v:l=i
 ·subst v;rw[sF (by rw[h.len];exact hi)]at d;cases d;rcases q g c with e|e;·exact h.two j l r A a f n g C e
  grind
 rw[sN (fun h=>v h.symm)]at d;exact h.two j l r s a f d g C c
structure zoy(base:Nat)(w:Xn)(kk:Nat)(vs us:List Xq)(t:List (List En)):Prop where
 len:us.length=8
 own:∀(i:Nat)v h,i<kk->us[i]?=Xa v->t[i]?=Xa h->zb enE base w v h
 two:∀(i j:Nat)u v,i<kk->j<kk->i≠j->us[i]?=Xa u->us[j]?=Xa v->∀g,u.ownBlock=Xa g->v.ownBlock≠Xa g
 one:∀v∈us,v.oneCell'=Xc
theorem zoy.step(h:zoy k w p vs us G)(ht:G.length=8)(q:zc w w1){v:Xq}(r:p<8)(H:G[p]?=Xa C)(a:zb enE w.heap.size w1 v C)(hb:k<=w.heap.size)(hp:P.block<k)(u):zoy k (w1.setCell P u) (p+1) vs (us.set p v) G:=by
 have l:∀(j:Nat)u,j<p->us[j]?=Xa u->∀g,u.ownBlock=Xa g->g<w.heap.size:=fun j u B x g q=>by
  obtain⟨y,d⟩:∃y,G[j]?=Xa y:=⟨_,gE (by rw[ht,<-h.len];exact(gS.1 x).1)⟩;exact((h.own j u y B x d).lt g q).2
 refine⟨by simp[h.len],fun i y F t d n=>?_,fun i j D E t B c b f g e m=>?_,fun y d=>?_⟩
 ·by_cases s:i=p
  ·subst s;rw[sF (by rw[h.len];exact r)]at d;cases d;rw[H]at n;cases n;exact(a.base hb).setCell hp u
  rw[sN (fun h=>s h.symm)]at d;exact((h.own i y F Wm d n).aA q).setCell hp u
 ·by_cases z:i=p
  ·subst z;rw[sF (by rw[h.len];exact r)]at b;cases b;rw[sN c]at f;have:=l j E Wm f g m;have:=(a.lt g e).1;omega
  rw[sN (fun h=>z h.symm)]at b;by_cases A:j=p
  ·subst A;rw[sF (by rw[h.len];exact r)]at f;cases f;have:=l i D Wm b g e;have:=(a.lt g m).1;omega
  rw[sN (fun h=>A h.symm)]at f;exact h.two i j D E Wm Wm c b f g e m
 rcases Xz d with e|e;·exact h.one y e
 subst e;obtain⟨K,L,rfl⟩:=a.form;rfl
theorem zhF(vs:List Xq)(t:List (List En))(w:Xn)(a:JT w vs t):
  Xp prog 85 #[Xi vs.toArray] w fun e w'=>∃c,e=Xl (Xi c.toArray)/\Zg (w.heap.size+2) w' c t/\zc w w'/\w.heap.size+2<=w'.heap.size:=by
 have q:=dD a;have h:=dD a.len;clear a;obtain⟨g,a⟩:=kB ((w.alloc (Xk vs.toArray 61)).alloc (Xk #[O Xb 0 0,O Xb 0 0,O Xb 0 0,O Xb 0 0,O Xb 0 0,O Xb 0 0,O Xb 0 0,O Xb 0 0] 61));have b:=gD2 a;have i:=x2a a;have j:Xo (Box g (w.heap.size+1) J2):=dD<|by rw[<-a];exact Box.aE _ J2 _ Sm
 have d:Xo (g.heap.size=w.heap.size+2):=dD<|by rw[<-a];simp
 have f:Xo (_=g):=a;clear a;go_enter func85,ntmps85;go_upto_region 1 with fail;rw[f.out];go_wp2_with(refine qO rfl (.tmp 1) rfl w.heap.size rfl i h.out ?_)
 go_loopg[6] 8 (fun f g wr=>∃(a:Nat)(c:List Xq),a<=8/\8-a<=f/\g=Xe Xf a/\Xo (zc w wr)/\Xo (w.heap.size+2<=wr.heap.size)/\Xo (Box wr w.heap.size c)/\Xo (Box wr (w.heap.size+1) J2)/\Xo (zoy (w.heap.size+2) wr a vs c t))
 exact⟨0,vs,nZ _,Wm,rfl,b,by rw[d.out];exact nR _,i,j,⟨h,fun i v l b=>absurd b (nL _),fun i D E v b=>absurd b (nL _),q.one⟩⟩;obtain⟨a,c,b,C,rfl,s,x,A,B,d⟩:=hrel;by_cases f:a<8
 ·have m:(a:Int)<8:=Wm
  obtain⟨n,u,r,j,h,k⟩:=q.half f;have F:=dD j;have g:=dD h;have b:=zfo (O n r.length u) r wr (k.aA s);clear j h k;generalize r.length=nq at b g;go_wp2_with(refine zdP rfl (.tmp 5) (.tmp 6) rfl vs rfl a rfl f g.out ?_)
  refine b.mono ?_;rintro e k⟨g,rfl,j,y⟩;obtain⟨g,h,rfl⟩:=j.form;have z:=dD j;have n:=dD y;have u:=dD (A.aA y);clear j y b;generalize r.length=b at z⊢;obtain⟨r,j⟩:∃r,c[a]?=Xa r:=⟨_,gE (by rw[d.len];exact f)⟩;have r:=u.c a j;have r:=u.f;clear j;go_wp2;have r:Xo (zoy (w.heap.size+2) (k.setCell ⟨w.heap.size,a,Xb⟩ (O g b h)) (a+1) vs (c.set a (O g b h)) t):=d.step q.aL n f F z x Sm _;have f:Xo (Box (k.setCell ⟨w.heap.size,a,Xb⟩ (O g b h)) w.heap.size (c.set a (O g b h))):=u.set a _;have y:Xo (Box (k.setCell ⟨w.heap.size,a,Xb⟩ (O g b h)) (w.heap.size+1) J2):=(B.aA n).other Sm _;have j:Xo (zc w (k.setCell ⟨w.heap.size,a,Xb⟩ (O g b h))):=dD<|Below.setCell (s.trans n) (p:=⟨w.heap.size,a,Xb⟩) Sm _;have u:Xo (w.heap.size+2<=(k.setCell ⟨w.heap.size,a,Xb⟩ (O g b h)).heap.size):=dD<|by
   have:=bS n.out;have:=x.out;simp[World.setCell];omega
  go_roundg (8-(a+1));exact⟨a+1,_,Wm,Wm,Gn,j,u,f,y,r⟩;omega
 have m:¬(a:Int)<8:=Wm;have:a=8:=Wm;subst this;have b:Xo (Zg (w.heap.size+2) wr c t):=dD<|⟨d.len,q.aL,fun i v l a f=>d.own i v l (by rw[<-d.len];exact(gS.1 a).1) a f,fun i D E v g h a=>d.two i D E v (by rw[<-d.len];exact(gS.1 h).1) (by rw[<-d.len];exact(gS.1 a).1) g h a⟩;go_wp2_with(first|refine qO rfl (.tmp 1) rfl w.heap.size rfl A d.len ?_|refine zn rfl 61 (.tmp 2) (.tmp 15) rfl (w.heap.size+1) rfl c rfl B d.len zsM d.one ?_)
 intro g k h m;have n:Xo (Zg (w.heap.size+2) g c t):=dD<|⟨b.len,b.aL,fun i v l a f=>(b.row i v l a f).grown h (fun q C e=>by
  cases e;have:=((b.row i v l a f).lt _ C).1
  omega),b.two⟩
 have j:Xo (zc w g):=dD<|zd s h Sm;have u:Xo (w.heap.size+2<=g.heap.size):=dD<|Rx m x.out;have a:=dD k;clear k h m;go_wp2;refine bodyPost_ret (z8 rfl _ rfl a underlying61 rfl (by rw[d.len];exact zsM)) rfl ⟨c,rfl,n,j,u⟩
def arv(a:Ar):List Xq:=[Xe Xf a.fr,Xe Xf a.tz,Xh a.rd,Xh a.wr,Xh a.sh,Xe Xf a.file,Xe Xf a.base]
def arA(a:Ar):Xq:=Xi #[Xe Xf a.fr,Xe Xf a.tz,Xh a.rd,Xh a.wr,Xh a.sh,Xe Xf a.file,Xe Xf a.base]
theorem zsN:(Tryz.prog.info? 77).map (fun i=>(i.zero,i.size,i.bytes))=Xa (Xa (Xi #[Xe Xf 0,Xe Xf 0,Xh Xd,Xh Xd,Xh Xd,Xe Xf 0,Xe Xf 0]),7,40):=by kernel_rfl
theorem zsO:(Tryz.prog.info? 77).map (·.size)=Xa 7:=by kernel_rfl
theorem zsP:(Tryz.prog.info? 150).map (·.size)=Xa 2:=by kernel_rfl
theorem zsQ:(Tryz.prog.info? 67).map (·.size)=Xa 6:=by kernel_rfl
theorem zsR:(Tryz.prog.info? 68).map (·.size)=Xa 384:=by kernel_rfl
def arE:Elt Ar where
 enc:=arv
 k:=7
 ty:=77
 st:=58
 bytes:=40
 zv:=Xi #[Xe Xf 0,Xe Xf 0,Xh Xd,Xh Xd,Xh Xd,Xe Xf 0,Xe Xf 0]
 zero:=ar0
 len:=fun _=>rfl
 one:=fun a u hu=>by
  simp only[arv,mC,nM,or_false]at hu
  rcases hu with rfl|rfl|rfl|rfl|rfl|rfl|rfl<;>rfl
 bL:=underlying58
 aF:=zsN
 zok:=rfl
 few:=by decide
 pos:=by decide
def zj8(W:Xn)(y:Addr)(e:Ar):Prop:=W.cell? y=Xa (Xe Xf e.fr)/\W.cell? {block:=y.block,off:=y.off+1}=Xa (Xe Xf e.tz)/\W.cell? {block:=y.block,off:=y.off+2}=Xa (Xh e.rd)/\W.cell? {block:=y.block,off:=y.off+3}=Xa (Xh e.wr)/\W.cell? {block:=y.block,off:=y.off+4}=Xa (Xh e.sh)/\W.cell? {block:=y.block,off:=y.off+5}=Xa (Xe Xf e.file)/\W.cell? {block:=y.block,off:=y.off+6}=Xa (Xe Xf e.base)
def zoC(w:Xn)(a:Option Addr)(l:List Ar):Prop:=∀(j:Nat)e,l[j]?=Xa e->∃ad,a=Xa ad/\∀W,zc w W->zj8 W (ad.add (j*7)) e
theorem zq.aC(h:zq arE w A l):∃a c,A=O a l.length c/\zoC w a l:=by obtain⟨a,c,b,e⟩:=h.rows;refine⟨a,c,b,fun j x g=>?_⟩;obtain⟨d,f,b⟩:=e j x g;exact⟨d,f,fun W d=>⟨b W d 0 _ rfl,b W d 1 _ rfl,b W d 2 _ rfl,b W d 3 _ rfl,b W d 4 _ rfl,b W d 5 _ rfl,b W d 6 _ rfl⟩⟩
def onv(x:On):List Xq:=[Xh x.is,Xh x.rd,Xh x.wr,Xh x.sh,Xe Xf x.file,Xe Xf x.page]
def tab{α:Type}(f:Nat->α):List α:=(Xv 64).map f
theorem Ju(f:Nat->α):(tab f).length=64:=by simp[tab]
theorem zau{f:Nat->α}(h:k<64):(tab f)[k]?=Xa (f k):=by unfold tab;rw[Xy,Xw h];rfl
theorem zqq{f g:Nat->α}(h:∀k,k<64->f k=g k):tab f=tab g:=by unfold tab;exact Oj fun k a=>h k (Xs.1 a)
def upd{α:Type}(f:Nat->α)(k:Nat)(x:α):Nat->α:=fun j=>if j=k then x else f j
theorem zi3(f:Nat->α)(k:Nat)(x:α):(tab f).set k x=tab (upd f k x):=by apply Yh;grind[zau,upd,sF,Ju,sN,gN,tab]
def zD(l:List On):List Xq:=l.flatMap onv
theorem zmd(l:List On):(zD l).length=l.length*6:=jP l (fun _ _=>rfl)
theorem zm0(x:On):∀u∈onv x,u.oneCell'=Xc:=fun u a=>by
 simp only[onv,mC,nM,or_false]at a;rcases a with rfl|rfl|rfl|rfl|rfl|rfl<;>rfl
theorem JP(l:List On):∀v∈zD l,v.oneCell'=Xc:=qW zm0 l
theorem zrS:zq q3 w A R↔zq q3 w A R:=Iff.rfl
def cav(c:Ca):List Xq:=[Xe Xf c.file,Xe Xf c.idx,Xe Xf c.fr]
theorem zsS:(Tryz.prog.info? 108).map (fun i=>(i.zero,i.size,i.bytes))=Xa (Xa (Xi #[Xe Xf 0,Xe Xf 0,Xe Xf 0]),3,24):=by kernel_rfl
def jF:Elt Ca where
 enc:=cav
 k:=3
 ty:=108
 st:=38
 bytes:=24
 zv:=Xi #[Xe Xf 0,Xe Xf 0,Xe Xf 0]
 zero:=⟨0,0,0⟩
 len:=fun _=>rfl
 one:=fun a u hu=>by
  simp only[cav,mC,nM,or_false]at hu
  rcases hu with rfl|rfl|rfl<;>rfl
 bL:=underlying38
 aF:=zsS
 zok:=rfl
 few:=by decide
 pos:=by decide
def zoB(W:Xn)(y:Addr)(c:Ca):Prop:=W.cell? y=Xa (Xe Xf c.file)/\W.cell? {block:=y.block,off:=y.off+1}=Xa (Xe Xf c.idx)/\W.cell? {block:=y.block,off:=y.off+2}=Xa (Xe Xf c.fr)
def zf5(w:Xn)(a:Option Addr)(l:List Ca):Prop:=∀(j:Nat)c,l[j]?=Xa c->∃ad,a=Xa ad/\∀W,zc w W->zoB W (ad.add (j*3)) c
theorem zq.cas{l:List Ca}(h:zq jF w A l):∃a c,A=O a l.length c/\zf5 w a l:=by obtain⟨a,c,b,e⟩:=h.rows;refine⟨a,c,b,fun j x g=>?_⟩;obtain⟨d,f,b⟩:=e j x g;exact⟨d,f,fun W d=>⟨b W d 0 _ rfl,b W d 1 _ rfl,b W d 2 _ rfl⟩⟩
structure Sli where
 a:Option Addr
 n:Nat
 c:Nat
abbrev Sli.x(s:Sli):Xq:=O s.a s.n s.c
abbrev eS:Xq:=O Xb 0 0
abbrev I6(x:Int):Xq:=Xe Xf x
abbrev U8(x:Int):Xq:=Xe Xg x
def Sli.v(s:Sli):Xq:=O s.a s.n s.c
def zJ:Sli:=⟨Xb,0,0⟩
theorem zq.n{a:Option Addr}{n c:Nat}{l:List α}(h:zq E w (O a n c) l):n=l.length:=by obtain⟨_,_,b,_⟩:=h.rows;cases b;rfl
theorem zb.n{a:Option Addr}{n c:Nat}{l:List α}(h:zb E b w (O a n c) l):n=l.length:=h.at.n
structure SpV where
 aD:Bool
 ar:Sli
 (t0 t1 t2 t3 t4 t5 t6 t7:Sli)
def SpV.tab(x:SpV):List Xq:=[x.t0.v,x.t1.v,x.t2.v,x.t3.v,x.t4.v,x.t5.v,x.t6.v,x.t7.v]
def spv(x:SpV):List Xq:=[Xh x.aD,x.ar.v,x.t0.v,x.t1.v,x.t2.v,x.t3.v,x.t4.v,x.t5.v,x.t6.v,x.t7.v]
def spz:Xq:=Xi #[Xh Xd,O Xb 0 0,O Xb 0 0,O Xb 0 0,O Xb 0 0,O Xb 0 0,O Xb 0 0,O Xb 0 0,O Xb 0 0,O Xb 0 0]
theorem zsT:(Tryz.prog.info? 63).map (fun i=>(i.zero,i.size,i.bytes))=Xa (Xa spz,10,224):=by kernel_rfl
def ZP:Elt SpV where
 enc:=spv
 k:=10
 ty:=63
 st:=39
 bytes:=224
 zv:=spz
 zero:=⟨Xd,zJ,zJ,zJ,zJ,zJ,zJ,zJ,zJ,zJ⟩
 len:=fun _=>rfl
 one:=fun a u hu=>by
  simp only[spv,mC,nM,or_false]at hu
  rcases hu with rfl|rfl|rfl|rfl|rfl|rfl|rfl|rfl|rfl|rfl<;>rfl
 bL:=underlying39
 aF:=zsT
 zok:=rfl
 few:=by decide
 pos:=by decide
def zqf(w:Xn)(a:Option Addr)(l:List SpV):Prop:=∀(j:Nat)x,l[j]?=Xa x->∃ad,a=Xa ad/\∀W,zc w W->jY W (ad.add (j*10)) (spv x)
theorem zq.sps{l:List SpV}(h:zq ZP w A l):∃a c,A=O a l.length c/\zqf w a l:=h.rows
structure ZC(w:Xn)(x:SpV)(s:Sp):Prop where
 aD:x.aD=s.aD
 ar:zq arE w (O x.ar.a x.ar.n x.ar.c) s.aC
 cap:x.ar.n<=x.ar.c
 tb:JT w x.tab s.tb
theorem ZC.aA{x:SpV}(h:ZC w x s)(k:zc w w'):ZC w' x s:=⟨h.aD,h.ar.aA k,h.cap,h.tb.aA k⟩
def QH(w:Xn)(v:Xq)(ss:List Sp):Prop:=∃xs:List SpV,zq ZP w v xs/\xs.length=ss.length/\∀(i:Nat)x s,xs[i]?=Xa x->ss[i]?=Xa s->ZC w x s
theorem QH.aA{a:List Sp}(h:QH w A a)(k:zc w w'):QH w' A a:=by obtain⟨d,a,b,c⟩:=h;exact⟨d,a.aA k,b,fun i x s b a=>(c i x s b a).aA k⟩
structure MaV where
 (f s sb sq db dq fl ca sp:Sli)
structure zK(w:Xn)(V:MaV)(m:Ma):Prop where
 fs:zq q3 w (O V.f.a V.f.n V.f.c) m.fs
 sl:zq slE w (O V.s.a V.s.n V.s.c) m.sl
 sb:ZD w (O V.sb.a V.sb.n V.sb.c) m.sb
 sq:ZA w (O V.sq.a V.sq.n V.sq.c) m.sq
 db:ZD w (O V.db.a V.db.n V.db.c) m.db
 dq:ZA w (O V.dq.a V.dq.n V.dq.c) m.dq
 fl:qH w (O V.fl.a V.fl.n V.fl.c) m.fl
 ca:zq jF w (O V.ca.a V.ca.n V.ca.c) m.ca
 sp:QH w (O V.sp.a V.sp.n V.sp.c) m.sp
abbrev mL(V:MaV)(m:Ma):List Xq:=[V.f.x,I6 m.aB,V.s.x,V.sb.x,V.sq.x,V.db.x,V.dq.x,V.fl.x,I6 m.cnt,V.ca.x,V.sp.x]
abbrev zM:List Xq:=[eS,I6 0,eS,eS,eS,eS,eS,eS,I6 0,eS,eS]
theorem zK.aA{V:MaV}(h:zK w V m)(k:zc w w'):zK w' V m:=⟨h.fs.aA k,h.sl.aA k,h.sb.aA k,h.sq.aA k,h.db.aA k,h.dq.aA k,Zh.aA h.fl k,h.ca.aA k,h.sp.aA k⟩
theorem ZD.n{a:Option Addr}{n c:Nat}{l:List (List Int)}(h:ZD w (O a n c) l):n=l.length:=by obtain⟨⟨_,_,b,_⟩,_⟩:=h;cases b;rfl
theorem ZA.n{a:Option Addr}{n c:Nat}{l:List (Int×List Int)}(h:ZA w (O a n c) l):n=l.length:=by obtain⟨⟨_,_,b,_⟩,_⟩:=h;cases b;rfl
theorem qH.n{a:Option Addr}{n c:Nat}{l:List Fl}(h:qH w (O a n c) l):n=l.length:=by obtain⟨_,b,b,d,_⟩:=h;rw[b.now.n,d]
theorem QH.n{a:Option Addr}{n c:Nat}{l:List Sp}(h:QH w (O a n c) l):n=l.length:=by obtain⟨b,b,d,_⟩:=h;rw[b.n,d]
theorem zK.ns{V:MaV}(h:zK w V m):V.f.n=m.fs.length/\V.s.n=m.sl.length/\V.sb.n=m.sb.length/\V.sq.n=m.sq.length/\V.db.n=m.db.length/\V.dq.n=m.dq.length/\V.fl.n=m.fl.length/\V.ca.n=m.ca.length/\V.sp.n=m.sp.length:=
 ⟨h.fs.n,h.sl.n,h.sb.n,h.sq.n,h.db.n,h.dq.n,qH.n h.fl,h.ca.n,h.sp.n⟩
theorem zq.bZ{α:Type}{E:Elt α}{w:Xn}{a:Option Addr}{n c:Nat}{l:List α}(h:zq E w (O a n c) l):zqg E w a l:=by obtain⟨_,_,b,b⟩:=h.rows;grind
theorem zK.bC{V:MaV}(h:zK w V m):ziK w V.f.a m.fs:=fun j x d=>by
 obtain⟨a,b,c⟩:=h.fs.bZ j x d;exact⟨a,b,fun W a=>(c W a).fr⟩
theorem zK.cas{V:MaV}(h:zK w V m):zf5 w V.ca.a m.ca:=by obtain⟨_,_,a,b⟩:=h.ca.cas;simp only[vJ]at a;rw[a.1];exact b
theorem zK.sls{V:MaV}(h:zK w V m):zkU w V.s.a m.sl:=by obtain⟨_,_,a,b⟩:=h.sl.sls;simp only[vJ]at a;rw[a.1];exact b
theorem zK.pgs{V:MaV}(h:zK w V m):zkX w V.db.a m.db:=by obtain⟨_,_,a,b⟩:=h.db.rows;simp only[vJ]at a;rw[a.1];exact b
theorem zK.puts{V:MaV}(h:zK w V m):zeZ w V.dq.a m.dq:=by obtain⟨_,_,a,b⟩:=h.dq.rows;simp only[vJ]at a;rw[a.1];exact b
theorem zjP(v fs)(w:Xn)(h:zq jF w v fs):
  Xp prog 50 #[v] w fun e w'=>∃d,e=Xl d/\zb jF w.heap.size w' d fs/\zc w w':=by
 have i:=dD h;obtain⟨⟨f,g,rfl,b,c⟩,a⟩:=h;have h:=fun w f n g j h=>Lib.run_eql_slice_nil w _ _ f n g j h underlying38;cases f with
 |none=>
  have f:=b rfl;subst f;clear c b a;go_enter func50,ntmps50;go_wp2;go_ret;exact⟨_,rfl,zb.nil _ _ _,zc.refl w⟩
 |some x=>
  have f:=dD a;clear c b a;go_enter func50,ntmps50;go_wp2_with(at_builtin;refine zw (E:=jF) rfl (.tmp 5) (.tmp 6) rfl w.heap.size _ [] rfl (zb.made jF w) _ fs rfl (i.aA (za _ _)) ?qb Sm ?_)
  case qb=>rw[Yj,zA];exact f.out
  intro d a b a;go_wp2;go_ret;exact⟨d,rfl,Si b,((bR _ w).alloc (nR _) _).grown a Sm (by intro k a;simp[Value.ownBlock]at a;omega)⟩
theorem zjO(v)(fs:List SpV)(w:Xn)(h:zq ZP w v fs):
  Xp prog 84 #[v] w fun e w'=>∃d,e=Xl d/\zb ZP w.heap.size w' d fs/\zc w w':=by
 have i:=dD h;obtain⟨⟨f,g,rfl,b,c⟩,a⟩:=h;have h:=fun w f n g j h=>Lib.run_eql_slice_nil w _ _ f n g j h underlying39;cases f with
 |none=>
  have f:=b rfl;subst f;clear c b a;go_enter func84,ntmps84;go_wp2;go_ret;exact⟨_,rfl,zb.nil _ _ _,zc.refl w⟩
 |some x=>
  have f:=dD a;clear c b a;go_enter func84,ntmps84;go_wp2_with(at_builtin;refine zw (E:=ZP) rfl (.tmp 5) (.tmp 6) rfl w.heap.size _ [] rfl (zb.made ZP w) _ fs rfl (i.aA (za _ _)) ?qb Sm ?_)
  case qb=>rw[Yj,zA];exact f.out
  intro d a b a;go_wp2;go_ret;exact⟨d,rfl,Si b,((bR _ w).alloc (nR _) _).grown a Sm (by intro k a;simp[Value.ownBlock]at a;omega)⟩
theorem zeS(v fs)(w:Xn)(h:zq arE w v fs):
  Xp prog 56 #[v] w fun e w'=>∃d,e=Xl d/\zb arE w.heap.size w' d fs/\zc w w':=by
 have i:=dD h;obtain⟨⟨f,g,rfl,b,c⟩,a⟩:=h;have h:=fun w f n g j h=>Lib.run_eql_slice_nil w _ _ f n g j h underlying58;cases f with
 |none=>
  have f:=b rfl;subst f;clear c b a;go_enter func56,ntmps56;go_wp2;go_ret;exact⟨_,rfl,zb.nil _ _ _,zc.refl w⟩
 |some x=>
  have f:=dD a;clear c b a;go_enter func56,ntmps56;go_wp2_with(at_builtin;refine zw (E:=arE) rfl (.tmp 5) (.tmp 6) rfl w.heap.size _ [] rfl (zb.made arE w) _ fs rfl (i.aA (za _ _)) ?qb Sm ?_)
  case qb=>rw[Yj,zA];exact f.out
  intro d a b a;go_wp2;go_ret;exact⟨d,rfl,Si b,((bR _ w).alloc (nR _) _).grown a Sm (by intro k a;simp[Value.ownBlock]at a;omega)⟩
end
section
def zoz(f:Fr):Prop:=0<=f.r/\(0<=f.x/\f.x<12)/\(f.f=-1\/(0<=f.f/\f.f<5))/\(f.r=0->f=frF)/\(f.f=-1->f.x=0)
theorem zia(h:zoz Y)(a:Y.r<=1000):frW Y=0:=by obtain⟨a,a,a,a,a⟩:=h;grind[frW,inB,Jj,frF,zeA]
theorem JK:∀{l:List Fr},zcO l=0↔∀f∈l,frW f=0
 |[]=>by simp[zcO]
 |f::l=>by
  unfold zcO
  by_cases h:frW f=0
  ·rw[kE h,JK]
   simp[h]
  rw[kF h]
  simp[h]
def QJ(m:Ma)(x:On)(e:En):Prop:=enW e=0/\e.kind≠0/\zah m x e=0
structure qT(m:Ma)(T:List (Nat->En)):Prop where
 aN:m.fs.length<=40
 bE:∀f∈m.fs,zoz f
 aT:m.sl.length<=60
 bF:m.sb.length=m.sl.length
 sq:zS m.sb.length m.sq=0
 bM:zS m.db.length m.dq=0
 st:stW m.fl m.cnt=0
 cnt:m.cnt=(m.db.length:Int)
 bI:∀b:Nat,b<m.db.length->z4 m.fl (b:Int)=Xd->m.db[b]?=Xa zt
 aZ:∀q∈m.dq,z4 m.fl q.1=Xc
 aI:m.sp.length<=4
 aP:∀s∈m.sp,(wrL s.aC).1=0/\(s.aD=Xd->s.aC=[])
 tl:T.length=m.sp.length
 ca:zbh m Xb m.ca=0
 aM:∀(p:Nat)s f,m.sp[p]?=Xa s->T[p]?=Xa f->∀n:Nat,n<64->f n=en0\/QJ m (zr s.aC n) (f n)
 cf:∀(k:Nat)f,m.fs[k]?=Xa f->f.r=((qK T 1 k+zN m.ca k:Nat):Int)/\(0<=f.f->zN m.ca k≠0)
 cs:∀(k:Nat)z,m.sl[k]?=Xa z->z=(qK T 2 k:Int)
theorem zo:∀{l:List Ca}{p:Option Ca},zbh m p l=0↔(∀c∈l,caE m Xb c=0)/\(∀q c,p=Xa q->c∈l->zZ q<zZ c)/\l.Pairwise (fun a b=>zZ a<zZ b)
 |[],p=>by simp[zbh]
 |c::l,p=>by
  unfold zbh;have s:caE m p c=0↔caE m Xb c=0/\∀q,p=Xa q->zZ q<zZ c:=by
   unfold caE;by_cases j:c.file<0\/(m.fl.length:Int)<=c.file\/c.idx<0\/bkN m c.file<=c.idx\/c.fr<0\/(m.fs.length:Int)<=c.fr;·rw[kE j,kE j];simp
   rw[kF j,kF j];by_cases k:(z1 m c.fr).r=0\/(z1 m c.fr).f≠c.file\/(z1 m c.fr).x≠c.idx;·rw[kE k,kE k];simp
   rw[kF k,kF k];cases p with
   |none=>simp
   |some q=>
    simp only[Option.some.injEq,forall_eq',true_and];by_cases r:zZ c<=zZ q
    ·rw[kE r];constructor;·intro h;cases h
     intro h;omega
    rw[kF r];simp;omega
  by_cases h:caE m p c=0
  ·rw[kE h,zo];obtain⟨v,n⟩:=s.1 h;constructor
   ·rintro⟨f,g,i⟩;refine⟨?_,?_,?_⟩
    ·intro x d
     rcases mC.1 d with rfl|d;·exact v
     exact f x d
    ·intro q x e d
     rcases mC.1 d with rfl|d;·exact n q e
     have:=n q e;have:=g c x rfl d;omega
    exact Yc.2 ⟨fun x d=>g c x rfl d,i⟩
   rintro⟨f,g,i⟩;obtain⟨t,u⟩:=Yc.1 i;exact⟨fun x d=>f x (by simp[d]),fun q x e d=>by cases e;exact t x d,u⟩
  rw[kF h];constructor;·intro w;exact absurd w h
  rintro⟨f,g,i⟩;exact absurd (s.2 ⟨f c Sm,fun q e=>g q c e Sm⟩) h
theorem Zl{c:Ca}(h:caE m Xb c=0):(0<=c.file/\c.file<m.fl.length/\0<=c.idx/\c.idx<bkN m c.file/\0<=c.fr/\c.fr<m.fs.length)/\(z1 m c.fr).r≠0/\(z1 m c.fr).f=c.file/\(z1 m c.fr).x=c.idx:=by grind[caE]
theorem zbo{c:Ca}(a:0<=c.file/\c.file<m.fl.length/\0<=c.idx/\c.idx<bkN m c.file/\0<=c.fr/\c.fr<m.fs.length)(b:(z1 m c.fr).r≠0)(d:(z1 m c.fr).f=c.file)(e:(z1 m c.fr).x=c.idx):caE m Xb c=0:=by grind[caE]
theorem zf0(h:zbh m Xb m.ca=0)(k:Int):zN m.ca k<=1:=by
 obtain⟨a,_,a⟩:=zo.1 h;have a:∀(l:List Ca),(∀c∈l,caE m Xb c=0)->l.Pairwise (fun a b=>zZ a<zZ b)->zN l k<=1:=by
  intro l;induction l with
  |nil=>intro _ _;simp[zN]
  |cons c l d=>
   intro e a;obtain⟨h,f⟩:=Yc.1 a;have b:=d (fun x d=>e x (by simp[d])) f;unfold zN at b⊢;rw[List.countP_cons];by_cases g:c.fr=k
   ·have:l.countP (fun c=>decide (c.fr=k))=0:=by
     rw[Uo];intro x d f;have a:x.fr=k:=Si f;have f:=Zl (e c Sm);have c:=Zl (e x (by simp[d]));have e:=h x d;rw[g]at f;rw[a]at c;unfold zZ at e;have:=f.2.2.1;have:=f.2.2.2;have:=c.2.2.1;have:=c.2.2.2;omega
    rw[this];simp[g]
   simp[g];exact b
 grind
theorem QP{ca:List Ca}{c:Ca}(h:c∈ca):zN ca c.fr≠0:=by unfold zN;intro a;rw[Uo]at a;exact a c h Sm
theorem zcU{ca:List Ca}(h:zN ca z≠0):∃c∈ca,c.fr=z:=by grind[zN,Nat.pos_of_ne_zero,Up]
def ZV(f:Nat->En):List (List En):=ZK ((Xv 64).map f)
def ZT(m:Ma)(T:List (Nat->En))(h:Int):Ma:={m with aB:=h,sp:=Ud (fun s f=>{s with tb:=ZV f}) m.sp T}
theorem zgh(h:∀k,k<64->enW (d k)=0)(a:k<64):zbg (ZV d) (k/8) (k%8)=d k:=by
 unfold ZV zbg ZK;rw[Xy,Xw Wm];simp only[Option.map_some,Option.getD_some];have b:∀e∈Jk ((Xv 64).map d) (k/8),enW e=0:=by
  intro e a;unfold Jk at a;obtain⟨n,c,rfl⟩:=Yb.1 a;rw[Xs]at c;rw[Xy,Xw Wm];exact h _ Wm
 rw[zp4 _ b];unfold Jk;rw[Xy,Xw Wm];simp only[Option.map_some,Option.getD_some];rw[Xy,Xw Wm];simp only[Option.map_some,Option.getD_some];congr 1;omega
theorem zke(h:∀n,n<64->enW (d n)=0):tbW (ZV d)=0:=by rw[ZZ];intro x a;unfold ZV ZK at a;obtain⟨i,b,rfl⟩:=Yb.1 a;rw[Xs]at b;refine zrK (by simp[Jk]) ?_;intro e a;unfold Jk at a;obtain⟨k,b,rfl⟩:=Yb.1 a;rw[Xs]at b;rw[Xy,Xw Wm];exact h _ Wm
theorem zi4(h:∀n,n<64->d n=en0):(ZV d).all (·.isEmpty)=Xc:=by
 rw[Yn];intro x a;unfold ZV ZK at a;obtain⟨i,b,rfl⟩:=Yb.1 a;rw[Xs]at b;have:zaV (Jk ((Xv 64).map d) i)=Xd:=by
  unfold zaV;rw[Yu];intro e a;unfold Jk at a;obtain⟨k,b,rfl⟩:=Yb.1 a;rw[Xs]at b;rw[Xy,Xw Wm];simp only[Option.map_some,Option.getD_some];rw[h _ Wm];decide
 grind[mk]
theorem ziw{g:Nat->En}(kind k:Int):∀{m:Nat},(∀n,n<m->d n=g n)->Zw d kind k m=Zw g kind k m
 |0,_=>rfl
 |m+1,h=>by
  unfold Zw;rw[ziw kind k (fun n a=>h n Wm),h m Wm]
section
variable{m:Ma}{T:List (Nat->En)}
theorem qT.en(h:qT m T)(a:T[k]?=Xa d)(p:b<64):enW (d b)=0:=by
 have c:k<m.sp.length:=by rw[<-h.tl];exact(gS.1 a).1
 rcases h.aM k _ d (gE c) a b p with a|a;·grind[JO]
 exact a.1
theorem zp7(h:qT m T)(hd:Int)(a:(ZT m T hd).sp[k]?=Xa s):∃s0 f,m.sp[k]?=Xa s0/\T[k]?=Xa f/\s={s0 with tb:=ZV f}:=by
 unfold ZT at a;simp only[List.getElem?_zipWith]at a;have b:k<m.sp.length:=by grind
 have c:k<T.length:=by rw[h.tl];exact b
 rw[gE b,gE c]at a;simp only[Option.some.injEq]at a;exact⟨_,_,gE b,gE c,a.symm⟩
theorem zkJ(h:qT m T)(hd:Int)(kind k:Int):Qz (ZT m T hd) kind k=qK T kind k:=by
 have b:∀(S:List Sp)(T:List (Nat->En)),T.length=S.length->(∀(p:Nat)f,T[p]?=Xa f->∀n,n<64->enW (f n)=0)->qK ((Ud (fun s f=>({s with tb:=ZV f}:Sp)) S T).map ze) kind k=qK T kind k:=by
  intro S;induction S with
  |nil=>intro T a _;rw[Ox.1 a];rfl
  |cons s S e=>
   intro T a d;cases T with
   |nil=>simp at a
   |cons f T=>
    have c:=e T (Si a) (fun p g a=>d (p+1) g (Si a));have e:Zw (ze {s with tb:=ZV f}) kind k 64=Zw f kind k 64:=ziw kind k fun n a=>by
     unfold ze;exact zgh (d 0 f rfl) a
    simp only[Ue,mP,qK,Ov]at c⊢;rw[c,e]
 exact b m.sp T h.tl fun p f b n a=>h.en b a
theorem qT.right(h:qT m T)(a:0<=hd)(b:hd<max (m.fs.length:Int) 1):maW (ZT m T hd)=0:=by
 have a:T.length<=4:=by rw[h.tl];exact h.aI
 unfold maW;rw[zk];intro e a;simp only[mC,nM,or_false]at a;rcases a with rfl|rfl|rfl|rfl|rfl
 ·unfold zak;rw[zk];intro e a;simp only[mC,nM,or_false]at a;rcases a with rfl|rfl|rfl|rfl|rfl|rfl|rfl|rfl|rfl|rfl
  ·show ZR m.fs hd=0
   unfold ZR;have b:zcO m.fs=0:=JK.2 fun f j=>by
    obtain⟨k,d⟩:=Xu j;refine zia (h.bE f j) ?_;rw[(h.cf k f d).1];have:=zaI T 1 k;have:=zf0 h.ca k;omega
   rw[kF (Hm h.aN),kE b,kE];simp[inB];omega
  ·show slW m.sl=0
   unfold slW;rw[kF (Hm h.aT),kF];rw[Ye];rintro⟨z,b,g⟩;obtain⟨k,d⟩:=Xu b;have c:=h.cs k z d;have:=zaI T 2 k;unfold zbM at g;simp at g;omega
  ·exact h.sq
  ·exact h.bM
  ·exact h.st
  ·show znI m=0
   unfold znI;rw[kF];have:=h.bF;have:=h.cnt;omega
  ·show zaU m=0
   unfold zaU;rw[kF];rw[Ye];rintro⟨i,g,b⟩;rw[Xs]at g;simp only[Ya,Bool.not_eq_true']at b;have:=h.bI i g b.1;rw[gD,this]at b;simp at b
  ·show zaz m=0
   unfold zaz;rw[kF];rw[Ye];rintro⟨x,v,b⟩;rw[h.aZ x v]at b;cases b
  ·grind[ZT]
  rw[zk];intro e a;obtain⟨y,t,rfl⟩:=Yb.1 a;obtain⟨w,u⟩:=Xu t;obtain⟨r,f,p,q,rfl⟩:=zp7 h hd u;have s:=h.aP r (mG p);unfold spE;simp only;rw[kF (fun h=>h s.1),kF (fun g=>g (zke fun n g=>h.en q g)),kF];intro b;rw[Ya]at b;have l:r.aD=Xd:=Si b.1;have i:=s.2 l;have l:(ZV f).all (·.isEmpty)=Xc:=zi4 fun n g=>by
   rcases h.aM w r f p q n g with e|e;·exact e
   have:=e.2.2;unfold zah at this;rw[i,kE (show(zr [] n).is=Xd from rfl)]at this;cases this
  rw[i,l]at b;simp at b
 ·obtain⟨p,q,i⟩:=zo.1 h.ca;exact zo.2 ⟨fun b l=>p b l,fun x b v=>(by cases v),i⟩
 ·rw[zk];intro e a;obtain⟨y,t,rfl⟩:=Yb.1 a;obtain⟨w,u⟩:=Xu t;obtain⟨r,f,p,q,rfl⟩:=zp7 h hd u;unfold zdV;rw[zk];intro e a;obtain⟨n,g,rfl⟩:=Yb.1 a;rw[Xs]at g;have j:ze {r with tb:=ZV f} n=f n:=by
   unfold ze;exact zgh (fun n g=>h.en q g) g
  rw[j];rcases h.aM w r f p q n g with c|c;·rw[c,kE (show en0.kind=0 from rfl)]
  rw[kF c.2.1];exact c.2.2
 ·rw[zk];intro e a;obtain⟨k,d,rfl⟩:=Yb.1 a;rw[Xs]at d;have b:k<m.fs.length:=d;have j:=h.cf k _ (gE b);unfold frE;rw[zkJ h hd];have f:z1 (ZT m T hd) k=m.fs[k]:=by
   show m.fs.getD (k:Int).toNat frF=_;rw[tN,gD,gE b];rfl
  rw[f,kF];rintro(c|⟨c,g⟩);·exact c j.1
  exact j.2 c g
 rw[zk];intro e a;obtain⟨k,d,rfl⟩:=Yb.1 a;rw[Xs]at d;have b:k<m.sl.length:=d;have t:=h.cs k _ (gE b);unfold zlc;rw[zkJ h hd];have f:(ZT m T hd).sl.getD k 0=m.sl[k]:=by
  show m.sl.getD k 0=_;rw[gD,gE b];rfl
 rw[f,kF (fun c=>c t)]
def Zb(m:Ma):List (Nat->En):=m.sp.map ze
theorem zbX(h:maW m=0):qT m (Zb m)/\0<=m.aB/\m.aB<max (m.fs.length:Int) 1:=by
 unfold maW at h;rw[zk]at h;have a:zak m=0:=h _ Sm;have i:zbh m Xb m.ca=0:=h _ Sm;have q:=zk.1 (h (zG (m.sp.map (zdV m))) Sm);have r:=zk.1 (h (zG ((Xv m.fs.length).map (frE m))) Sm);have t:=zk.1 (h (zG ((Xv m.sl.length).map (zlc m))) Sm);unfold zak at a;rw[zk]at a;have b:ZR m.fs m.aB=0:=a _ Sm;have b:slW m.sl=0:=a _ Sm;have c:zS m.sb.length m.sq=0:=a _ Sm;have g:zS m.db.length m.dq=0:=a _ Sm;have j:stW m.fl m.cnt=0:=a _ Sm;have b:znI m=0:=a _ Sm;have l:zaU m=0:=a _ Sm;have b:zaz m=0:=a _ Sm;have b:(if 4<m.sp.length then(4:Int)else 0)=0:=a _ Sm;have e:=zk.1 (a (zG (m.sp.map spE)) Sm);have d:m.fs.length<=40/\zcO m.fs=0/\0<=m.aB/\m.aB<max (m.fs.length:Int) 1:=by grind[ZR,inB]
 have k:m.sl.length<=60:=by grind[slW]
 have b:m.sl.length=m.sb.length/\m.cnt=(m.db.length:Int):=by grind[znI]
 refine⟨⟨d.1,fun f p=>?_,k,b.1.symm,c,g,j,b.2,fun b b b=>?_,fun b b=>?_,?_,fun s g=>?_,by simp[Zb],i,fun b s f g j n u=>?_,fun k f b=>?_,fun k z b=>?_⟩,d.2.2.1,d.2.2.2⟩
 ·have c:=JK.1 d.2.1 f p;unfold frW at c;split at c;·cases c
  rename_i d
  split at c;·cases c
  rename_i d
  split at c;·cases c
  rename_i c
  have c:inB f.r 1001=Xc/\inB f.x 12=Xc:=by grind
  have d:f.f=-1\/inB f.f 5=Xc:=by grind
  have p:(f.r=0->f=frF)/\(f.f=-1->f.x=0):=by grind[Jj,frF,zeA]
  unfold inB at c d;simp at c d;exact⟨Wm,Wm,Wm,p.1,p.2⟩
 ·unfold zaU at l
  split at l;·cases l
  grind
 ·grind[zaz,z4,Ye.2]
 ·grind
 ·have d:=e (spE s) (Yb.2 ⟨s,g,rfl⟩);unfold spE at d;split at d;·grind
  grind
 ·unfold Zb at j;rw[Xy,g]at j;cases j;have c:=mG g;have d:=e (spE s) (Yb.2 ⟨s,c,rfl⟩);have g:tbW s.tb=0:=by grind[spE]
  have e:enW (ze s n)=0:=by
   unfold ze zbg;have d:=ZZ.1 g;have:ziJ (s.tb[n/8]?.getD []):=by
    cases g:s.tb[n/8]? with
    |none=>exact .inl rfl
    |some x=>exact d x (mG g)
   exact this.get (n%8)
  have d:=zk.1 (q (zdV m s) (Yb.2 ⟨s,c,rfl⟩)) _ (Yb.2 ⟨n,Xs.2 u,rfl⟩);by_cases b:(ze s n).kind=0;·left;exact znV e (by simp[enS,b])
  right;rw[kF b]at d;exact⟨e,b,d⟩
 ·have c:=(gS.1 b).1;have:=r (frE m k) (Yb.2 ⟨k,Xs.2 c,rfl⟩);unfold frE at this;have d:z1 m k=f:=by unfold z1;rw[tN,gD,b];rfl
  rw[d]at this;split at this;·cases this
  rename_i d
  refine⟨Classical.byContradiction fun h=>d (.inl h),fun a i=>d (.inr ⟨a,i⟩)⟩
 have c:=(gS.1 b).1;have:=t (zlc m k) (Yb.2 ⟨k,Xs.2 c,rfl⟩);unfold zlc at this;rw[gD,b]at this;split at this;·cases this
 rename_i d
 exact Classical.byContradiction fun h=>d h
end
section
variable{m:Ma}{T:List (Nat->En)}
theorem zL(h:m.fs[k]?=Xa Y):z1 m (k:Int)=Y:=by unfold z1;rw[tN,gD,h];rfl
theorem q6{f:Fr}(a:k<m.fs.length)(z:Int)(b:0<=z):z1 {m with fs:=m.fs.set k f} z=if z=(k:Int)then f else z1 m z:=by
 unfold z1;simp only[gD];by_cases e:z=(k:Int);·grind
 grind
theorem Ze{m':Ma}{x:On}(h:zah m x Z=0)(c:m'.sl.length=m.sl.length)(b:m'.fs.length=m.fs.length)(a:Z.kind≠2->(z1 m' Z.n).f=(z1 m Z.n).f/\(z1 m' Z.n).x=(z1 m Z.n).x/\(Z.wr=Xc->(z1 m Z.n).f=-1->(z1 m' Z.n).r<=1)):zah m' x Z=0:=by grind[zah]
theorem zV{x:On}(h:QJ m x Z)(a:Z.kind≠2):Z.kind=1/\0<=Z.n/\Z.n<m.fs.length/\(Z.wr=Xc->(z1 m Z.n).f=-1->(z1 m Z.n).r<=1):=by obtain⟨a,b,b⟩:=h;obtain⟨b,b,_⟩:=jE a;grind[zah,z1]
theorem Q6{T:List (Nat->En)}(a:T[k]?=Xa d)(c:b<64)(p:(d b).kind=1):1<=qK T 1 (d b).n:=za5 a c (by simp[isE,p]) Dc
theorem qT.free(h:qT m T)(b:m.fs[j]?=Xa Y)(a:Y.r=0):qK T 1 j=0/\zN m.ca j=0:=by have:=(h.cf j Y b).1;rw[a]at this;omega
def Z7(ca:List Ca)(c:Ca):List Ca:=ca.takeWhile (fun d=>decide (zZ d<zZ c))++c::ca.dropWhile (fun d=>decide (zZ d<zZ c))
theorem zlD(ca)(c:Ca)(k:Int):zN (Z7 ca c) k=zN ca k+(if c.fr=k then 1 else 0):=by
 unfold Z7 zN;have h:=Od (p:=fun d=>decide (zZ d<zZ c)) (l:=ca);rw[Ys,List.countP_cons];conv=>rhs;rw[<-h,Ys]
 by_cases e:c.fr=k;·grind
 simp[e]
theorem zni{ca:List Ca}{c d:Ca}(h:d∈Z7 ca c):d=c\/d∈ca:=by
 unfold Z7 at h;rw[Yd,mC]at h;rcases h with h|h|h;·grind[Uf]
 ·grind
 grind[List.dropWhile_sublist]
theorem zfJ{c:Ca}:∀{ca:List Ca},ca.Pairwise (fun a b=>zZ a<zZ b)->(∀d∈ca,zZ d≠zZ c)->(Z7 ca c).Pairwise (fun a b=>zZ a<zZ b)
 |[],_,_=>by simp[Z7]
 |d::ca,i,g=>by
  obtain⟨j,k⟩:=Yc.1 i
  by_cases f:zZ d<zZ c
  ·have h:Z7 (d::ca) c=d::Z7 ca c:=by
    unfold Z7;rw[Ur,Us,kE (Si f),kE (Si f)];rfl
   rw[h];refine Yc.2 ⟨fun x e=>?_,zfJ k fun x e=>g x (by simp[e])⟩;rcases zni e with rfl|e;·exact f
   exact j x e
  have h:Z7 (d::ca) c=c::d::ca:=by
   unfold Z7;rw[Ur,Us,kF (Si f),kF (Si f)];rfl
  rw[h];have:=g d Sm;refine Yc.2 ⟨fun x e=>?_,i⟩;rcases mC.1 e with rfl|e;·omega
  have:=j x e;omega
theorem qT.cK(h:qT m T){file:Int}(a:0<=file)(b:file<m.fl.length):bkN m file<=12/\file<5:=by obtain⟨⟨a,a,a⟩,c,a⟩:=(qJ m.fl m.cnt).1 h.st;have a:file.toNat<m.fl.length:=Wm;have b:=c _ (List.getElem_mem a);unfold bkN;rw[gD,gE a];simp only[Option.getD_some];obtain⟨a,a,a⟩:=b;grind[zaS]
theorem qT.cache(h:qT m T){p:Pg}{u d:Bool}{idx:Int}(e:m.fs[j]?=Xa Y)(f:Y.r=0)(b:0<=z/\z<m.fl.length)(hi:0<=idx/\idx<bkN m z)(g:∀c∈m.ca,¬(c.file=z/\c.idx=idx)):
  qT {m with fs:=m.fs.set j ⟨p,1,u,d,z,idx⟩,ca:=Z7 m.ca ⟨z,idx,j⟩} T:=by
 have Y:=(gS.1 e).1;obtain⟨Y,Y⟩:=h.free e f;obtain⟨Y,Y⟩:=h.cK b.1 b.2;obtain⟨b,Y,r⟩:=zo.1 h.ca;have Y:∀c∈m.ca,c.fr≠(j:Int):=fun c i e=>by grind[QP]
 have g:∀c∈m.ca,zZ c≠zZ ⟨z,idx,j⟩:=fun c i e=>by
  have Y:=(Zl (b c i)).1;have b:=h.cK Y.1 Y.2.1;grind[zZ]
 refine⟨by simpa using h.aN,fun f Y=>?_,h.aT,h.bF,h.sq,h.bM,h.st,h.cnt,h.bI,h.aZ,h.aI,h.aP,h.tl,?_,fun q v f t s n k=>?_,fun l f b=>?_,h.cs⟩
 ·rcases Xz Y with Y|rfl
  ·exact h.bE f Y
  refine⟨Sm,by simp only;omega,.inr (by simp only;omega),fun h=>by simp at h,fun h=>by simp only at h;omega⟩
 ·refine zo.2 ⟨fun c i=>?_,fun q c Y=>(by cases Y),zfJ r g⟩
  grind[zni,zbo,z1,Z7,Ca,q6,Zl,bkN]
 ·rcases h.aM q v f t s n k with e|e
  ·exact .inl e
  refine .inr ⟨e.1,e.2.1,Ze e.2.2 rfl Sm fun b=>?_⟩;obtain⟨Y,Y,Y,Y⟩:=zV e b;have Y:(f n).n≠(j:Int):=fun Y=>by grind[Q6]
  grind[z1,Z7,q6]
 simp only at b⊢;rw[zlD];by_cases e:l=j;·grind
 rw[sN (fun h=>e h.symm)]at b;have:=h.cf l f b;grind
theorem zaQ{m':Ma}{T:List (Nat->En)}(hp:k<T.length)(a:m'.sp=m.sp)(n:T[k]?=Xa d)
  (c:∀(q:Nat)s g,m.sp[q]?=Xa s->T[q]?=Xa g->∀j:Nat,j<64->(q≠k\/j≠p)->g j=en0\/QJ m' (zr s.aC j) (g j))(b:∀s,m.sp[k]?=Xa s->QJ m' (zr s.aC p) Z):
  ∀(q:Nat)s g,m'.sp[q]?=Xa s->(T.set k (jG d p Z))[q]?=Xa g->∀j:Nat,j<64->g j=en0\/QJ m' (zr s.aC j) (g j):=by
 intro q s g c b j n;rw[a]at c;by_cases a:q=k
 ·subst a;rw[sF hp]at b;cases b;grind[jG]
 grind
theorem zgE(k:Int)(kind:Int)(w:Bool):isE ⟨kind,k,w⟩ kind k=Xc:=by simp[isE]
theorem Jr{k:Int}{e:En}(h:e.kind≠z):isE e z k=Xd:=by simp[isE,h]
theorem Qo{k:Int}{e:En}(h:e.n≠k):isE e z k=Xd:=by simp[isE,h]
theorem qT.hold(h:qT m T){n:Nat}{w:Bool}(u:m.fs[k]?=Xa Y)(a:0<=Y.f)(x:m.sp[p]?=Xa s)(B:T[p]?=Xa d)(g:n<64)(fr:d n=en0)
  (j:(zr s.aC n).is=Xc)(b:(zr s.aC n).file=Y.f)(c:(zr s.aC n).page=Y.x)(i:w=Xc->(zr s.aC n).sh=Xc/\(zr s.aC n).wr=Xc):
  qT {m with fs:=m.fs.set k {Y with r:=Y.r+1}} (T.set p (jG d n ⟨1,k,w⟩)):=by
 have fr:=(gS.1 u).1;have v:=(gS.1 B).1;have i:=h.bE Y (mG u);have t:∀z:Int,0<=z->(z1 {m with fs:=m.fs.set k {Y with r:=Y.r+1}} z).f=(z1 m z).f/\(z1 {m with fs:=m.fs.set k {Y with r:=Y.r+1}} z).x=(z1 m z).x/\((z1 m z).f=-1->(z1 {m with fs:=m.fs.set k {Y with r:=Y.r+1}} z).r=(z1 m z).r):=fun z a=>by grind[q6,zL]
 have l:∀a j:Int,qK (T.set p (jG d n ⟨1,k,w⟩)) a j+(isE en0 a j).toNat=qK T a j+(isE ⟨1,k,w⟩ a j).toNat:=fun a j=>by grind[ZI]
 refine⟨by simpa using h.aN,fun g c=>?_,h.aT,h.bF,h.sq,h.bM,h.st,h.cnt,h.bI,h.aZ,h.aI,h.aP,by simpa using h.tl,?_,?_,fun j g b=>?_,fun j z b=>?_⟩
 ·rcases Xz c with c|rfl
  ·exact h.bE g c
  obtain⟨G,y,A,H,a⟩:=i;exact⟨by simp only;omega,y,A,fun h=>by simp only at h;omega,a⟩
 ·obtain⟨D,a,a⟩:=zo.1 h.ca;refine zo.2 ⟨fun q K=>?_,fun C q E=>(by cases E),a⟩;obtain⟨a,E,E,F⟩:=Zl (D q K);obtain⟨D,K,L⟩:=t q.fr a.2.2.2.2.1;refine zbo (by simpa[bkN]using a) ?_ (Rx D E) (Rx K F);rw[q6 fr _ a.2.2.2.2.1];by_cases a:q.fr=(k:Int)
  ·rw[kE a];have:=i.1;grind
  grind
 ·refine zaQ v rfl B (fun C s g x c j b i=>?_) (fun i i=>?_)
  ·rcases h.aM C s g x c j b with a|a
   ·exact .inl a
   refine .inr ⟨a.1,a.2.1,Ze a.2.2 rfl Sm fun c=>?_⟩;obtain⟨G,y,A,H⟩:=zV a c;grind
  rw[x]at i;cases i;refine⟨JN Sm ⟨Sm,by simp only;have:=h.aN;omega,fun _=>by simp only;have:=h.aN;omega⟩ Sm,Sm,?_⟩;grind[z1,q6,zah]
 ·simp only at b⊢;have c:=l 1 j;rw[qZ 1 j Dc]at c;by_cases a:j=k
  ·subst a;rw[sF fr]at b;cases b;rw[zgE]at c;have:=h.cf j Y u;grind
  rw[sN (fun h=>a h.symm)]at b;rw[Qo (e:=⟨1,(k:Int),w⟩) (by simp only;omega)]at c;have:=h.cf j g b;grind
 simp only at b⊢;have c:=l 2 j;rw[qZ 2 j Dc,Jr (e:=⟨1,(k:Int),w⟩) Sm]at c;have:=h.cs j z b;grind
theorem qT.mine(h:qT m T){pg:Pg}{u w:Bool}(p:m.fs[j]?=Xa Y)(n:Y.r=0)(q:m.sp[k]?=Xa s)(i:T[k]?=Xa d)(f:b<64)(g:d b=en0)
  (r:(zr s.aC b).is=Xc)(c:(zr s.aC b).sh=Xd)(l:w=Xc->(zr s.aC b).wr=Xc):
  qT {m with fs:=m.fs.set j ⟨pg,1,u,Xd,-1,0⟩} (T.set k (jG d b ⟨1,j,w⟩)):=by
 have Y:=(gS.1 p).1;have c:=(gS.1 i).1;obtain⟨Y,Y⟩:=h.free p n;have n:∀Y f:Int,qK (T.set k (jG d b ⟨1,j,w⟩)) Y f+(isE en0 Y f).toNat=qK T Y f+(isE ⟨1,j,w⟩ Y f).toNat:=fun Y f=>by grind[ZI]
 refine⟨by simpa using h.aN,fun g Y=>?_,h.aT,h.bF,h.sq,h.bM,h.st,h.cnt,h.bI,h.aZ,h.aI,h.aP,by simpa using h.tl,?_,?_,fun f g p=>?_,fun f z p=>?_⟩
 ·rcases Xz Y with Y|rfl
  ·exact h.bE g Y
  exact⟨Sm,Sm,.inl rfl,fun h=>by simp at h,fun _=>rfl⟩
 ·obtain⟨l,l,l⟩:=zo.1 h.ca;refine zo.2 ⟨fun r t=>?_,fun t r r=>(by cases r),l⟩;grind[Zl,QP,z1,q6,zbo,bkN]
 ·refine zaQ c rfl i (fun t s g q Y r i l=>?_) (fun c c=>?_)
  ·rcases h.aM t s g q Y r i with Y|Y
   ·exact .inl Y
   refine .inr ⟨Y.1,Y.2.1,Ze Y.2.2 rfl Sm fun i=>?_⟩;obtain⟨t,t,t,t⟩:=zV Y i;have l:(g r).n≠(j:Int):=fun i=>(by grind[Q6]);grind[q6]
  rw[q]at c;cases c;refine⟨JN Sm ⟨Sm,by simp only;have:=h.aN;omega,fun _=>by simp only;have:=h.aN;omega⟩ Sm,Sm,?_⟩;grind[z1,q6,zah]
 ·simp only at p⊢;have c:=n 1 f;rw[qZ 1 f Dc]at c;by_cases Y:f=j;·grind[sF,zgE]
  rw[sN (fun h=>Y h.symm)]at p;rw[Qo (e:=⟨1,(j:Int),w⟩) (by simp only;omega)]at c;have:=h.cf f g p;grind
 simp only at p⊢;have c:=n 2 f;rw[qZ 2 f Dc,Jr (e:=⟨1,(j:Int),w⟩) Sm]at c;have:=h.cs f z p;grind
theorem qT.swap(h:qT m T)(t:m.sl[j]?=Xa 0)(r:m.sp[k]?=Xa s)(q:T[k]?=Xa d)(p:b<64)(c:d b=en0)
  (g:(zr s.aC b).is=Xc)(a:(zr s.aC b).sh=Xd):
  qT {m with sl:=m.sl.set j 1,sb:=m.sb.set j L} (T.set k (jG d b ⟨2,j,Xd⟩)):=by
 have l:=(gS.1 t).1;have p:=(gS.1 q).1;have g:∀a n:Int,qK (T.set k (jG d b ⟨2,j,Xd⟩)) a n+(isE en0 a n).toNat=qK T a n+(isE ⟨2,j,Xd⟩ a n).toNat:=fun a n=>by grind[ZI]
 refine⟨h.aN,h.bE,by simpa using h.aT,by simpa using h.bF,by simpa using h.sq,h.bM,h.st,h.cnt,h.bI,h.aZ,h.aI,h.aP,by simpa using h.tl,?_,?_,fun n i c=>?_,fun n z c=>?_⟩;·obtain⟨u,a,v⟩:=zo.1 h.ca;exact zo.2 ⟨fun a w=>u a w,fun u a a=>(by cases a),v⟩
 ·refine zaQ p rfl q (fun u s i r a v q p=>?_) (fun p p=>?_)
  ·rcases h.aM u s i r a v q with a|a
   ·exact .inl a
   refine .inr ⟨a.1,a.2.1,Ze a.2.2 Sm rfl fun q=>?_⟩;obtain⟨u,u,u,u⟩:=zV a q;exact⟨rfl,rfl,u⟩
  rw[r]at p;cases p;refine⟨JN Sm ⟨Sm,by simp only;have:=h.aT;omega,fun h=>by simp at h⟩ Sm,Sm,?_⟩;grind[zah]
 ·have p:=g 1 n;rw[qZ 1 n Dc,Jr (e:=⟨2,(j:Int),Xd⟩) Sm]at p;have:=h.cf n i c;grind
 simp only at c⊢;have p:=g 2 n;rw[qZ 2 n Dc]at p;by_cases a:n=j
 ·subst a;rw[sF l]at c;cases c;rw[zgE]at p;have:=h.cs n 0 t;grind
 rw[sN (fun h=>a h.symm)]at c;rw[Qo (e:=⟨2,(j:Int),Xd⟩) (by simp only;omega)]at p;have:=h.cs n z c;grind
theorem qT.space(h:qT m T)(b:(wrL l).1=0)(a:m.sp.length<4):qT {m with sp:=m.sp++[⟨Xc,l,qG⟩]} (T++[fun _=>en0]):=by
 refine⟨h.aN,h.bE,h.aT,h.bF,h.sq,h.bM,h.st,h.cnt,h.bI,h.aZ,by simp;omega,fun s a=>?_,by simpa using h.tl,?_,fun p s f a d n j=>?_,fun k f b=>?_,fun k z b=>?_⟩
 ·rcases Yd.1 a with a|a
  ·exact h.aP s a
  grind
 ·obtain⟨e,c,g⟩:=zo.1 h.ca;exact zo.2 ⟨fun c i=>e c i,fun q c c=>(by cases c),g⟩
 ·have c:p<m.sp.length+1:=by grind
  by_cases e:p<m.sp.length
  ·rw[Yy e]at a;rw[Yy (by rw[h.tl];exact e)]at d;exact h.aM p s f a d n j
  have:p=T.length:=by rw[h.tl];omega
  grind
 ·rw[zh5 _ _ _ Dc]
  exact h.cf k f b
 rw[zh5 _ _ _ Dc];exact h.cs k z b
end
section
variable{m:Ma}{T:List (Nat->En)}
theorem zpk{e':En}(a:e'.kind=Z.kind)(b:e'.n=Z.n)(kind k:Int):isE e' kind k=isE Z kind k:=by unfold isE;rw[a,b]
theorem zh6{e':En}(a:T[k]?=Xa d)(p:b<64)(c:e'.kind=(d b).kind)(n:e'.n=(d b).n)(kind f:Int):qK (T.set k (jG d b e')) kind f=qK T kind f:=by have:=ZI e' kind f a p;grind[zpk]
theorem qT.guard(h:qT m T)(a:T[k]?=Xa d)(e:b<64)(p:d b≠en0):qT m (T.set k (jG d b {d b with wr:=false})):=by
 have c:=(gS.1 a).1;have n:=zh6 (e':={d b with wr:=false}) a e rfl rfl;refine⟨h.aN,h.bE,h.aT,h.bF,h.sq,h.bM,h.st,h.cnt,h.bI,h.aZ,h.aI,h.aP,by simpa using h.tl,h.ca,?_,fun f g p=>?_,fun f z p=>?_⟩
 ·refine zaQ c rfl a (fun q s g c i l j _=>h.aM q s g c i l j) (fun s c=>?_)
  rcases h.aM k s d c a b e with e|e;·grind
  obtain⟨i,j,a⟩:=e;obtain⟨a,c,e⟩:=jE i;refine⟨JN a c ?_,j,?_⟩;·grind
  grind[zah,zr]
 ·rw[n];exact h.cf f g p
 rw[n];exact h.cs f z p
theorem qT.share(h:qT m T){q n:Nat}{fr:Fr}{g:Nat->En}{e:En}(E:m.fs[k]?=Xa fr)(hp:T[p]?=Xa d)(G:d n=e)(A:T[q]?=Xa g)(a6:p≠q)(ai:n<64)(ae:g n=en0)(aj:m.sp[q]?=Xa s)
  (af:QJ m (zr s.aC n) e)(C:e.kind=1)(D:e.n=(k:Int))(F:e.wr=Xc->fr.f≠-1):
  qT {m with fs:=m.fs.set k {fr with r:=fr.r+1}} (T.set q (jG g n e)):=by
 have l:=(gS.1 E).1;have H:=(gS.1 A).1;have L:=h.bE fr (mG E);have Q:1<=qK T 1 k:=by grind[Q6]
 have a4:=h.cf k fr E;have t:∀kind j:Int,qK (T.set q (jG g n e)) kind j+(isE en0 kind j).toNat=qK T kind j+(isE e kind j).toNat:=fun kind j=>by grind[ZI]
 refine⟨by simpa using h.aN,fun x M=>?_,h.aT,h.bF,h.sq,h.bM,h.st,h.cnt,h.bI,h.aZ,h.aI,h.aP,by simpa using h.tl,?_,?_,fun j x b=>?_,fun j a9 b=>?_⟩
 ·rcases Xz M with M|rfl
  ·exact h.bE x M
  obtain⟨N,y,B,P,X⟩:=L;exact⟨by simp only;omega,y,B,fun h=>by simp only at h;omega,X⟩
 ·obtain⟨U,aa,V⟩:=zo.1 h.ca;refine zo.2 ⟨fun w a0=>?_,fun q w A=>(by cases A),V⟩;obtain⟨W,ab,ac,ad⟩:=Zl (U w a0);have ag:=q6 (f:={fr with r:=fr.r+1}) l w.fr W.2.2.2.2.1;by_cases Y:w.fr=(k:Int);·grind[zL,zbo,bkN]
  grind[zbo,bkN]
 ·have u:∀(x:On)(a:En),QJ m x a->(a.kind≠2->a.n=(k:Int)->a.wr=Xc->fr.f≠-1)->QJ {m with fs:=m.fs.set k {fr with r:=fr.r+1}} x a:=fun x a z ah=>by
   refine⟨z.1,z.2.1,Ze z.2.2 rfl Sm fun f=>?_⟩;obtain⟨N,y,B,P⟩:=zV z f;rw[q6 l _ y];by_cases Y:a.n=(k:Int);·grind[zL]
   grind
  refine zaQ H rfl A (fun S a8 I K c j b a5=>?_) (fun al a7=>?_)
  ·rcases h.aM S a8 I K c j b with a|a
   ·grind
   refine .inr (u _ _ a fun f ak R=>?_);obtain⟨N,y,B,P⟩:=zV a f;by_cases v:S=p/\j=n;·obtain⟨rfl,rfl⟩:=v;rw[hp]at c;cases c;rw[G]at R;exact F R
   grind[zcf,isE,zL]
  grind
 ·simp only at b⊢;have i:=t 1 j;rw[qZ 1 j Dc]at i;by_cases Z:j=k;·grind[sF,isE]
  rw[sN (fun h=>Z h.symm)]at b;rw[Qo (by rw[D];omega)]at i;have:=h.cf j x b;refine⟨?_,this.2⟩;simp at i;omega
 simp only at b⊢;have i:=t 2 j;rw[qZ 2 j Dc,Jr (by rw[C];decide)]at i;have:=h.cs j a9 b;simp at i;omega
theorem qT.shareS(h:qT m T){q n:Nat}{e:En}(u:m.sl[k]?=Xa z)(l:T[q]?=Xa d)(b:n<64)(a:d n=en0)(y:m.sp[q]?=Xa s)
  (w:QJ m (zr s.aC n) e)(c:e.kind=2)(g:e.n=(k:Int)):
  qT {m with sl:=m.sl.set k (z+1)} (T.set q (jG d n e)):=by
 have r:=(gS.1 u).1;have t:=(gS.1 l).1;have i:∀kind j:Int,qK (T.set q (jG d n e)) kind j+(isE en0 kind j).toNat=qK T kind j+(isE e kind j).toNat:=fun kind j=>by grind[ZI]
 refine⟨h.aN,h.bE,by simpa using h.aT,by simpa using h.bF,h.sq,h.bM,h.st,h.cnt,h.bI,h.aZ,h.aI,h.aP,by simpa using h.tl,?_,?_,fun j x a=>?_,fun j x a=>?_⟩;·obtain⟨f,b,p⟩:=zo.1 h.ca;exact zo.2 ⟨fun b v=>f b v,fun q b l=>(by cases l),p⟩
 ·have b:∀(x:On)(f:En),QJ m x f->QJ {m with sl:=m.sl.set k (z+1)} x f:=fun x f f=>by
   refine⟨f.1,f.2.1,Ze f.2.2 Sm rfl fun p=>?_⟩;obtain⟨v,v,v,v⟩:=zV f p;exact⟨rfl,rfl,v⟩
  refine zaQ t rfl l (fun v A p l f j a t=>(h.aM v A p l f j a).imp id (b _ _)) (fun f f=>?_);rw[y]at f;cases f;exact b _ _ w
 ·have b:=i 1 j;rw[qZ 1 j Dc,Jr (by rw[c];decide)]at b;have:=h.cf j x a;refine⟨?_,this.2⟩;simp only at this⊢;simp at b;omega
 simp only at a⊢;have b:=i 2 j;rw[qZ 2 j Dc]at b;by_cases f:j=k
 ·subst f;rw[sF r]at a;cases a;have:isE e 2 (j:Int)=Xc:=by simp[isE,c,g]
  rw[this]at b;have:=h.cs j z u;simp at b;omega
 rw[sN (fun h=>f h.symm)]at a;rw[Qo (by rw[g];omega)]at b;have:=h.cs j x a;simp at b;omega
end
structure zg5(fl:List Fl)(cnt:Int)(db:List (List Int))(dq:List (Int×List Int))(bl:List Int):Prop where
 st:stW fl cnt=0
 cn:cnt=(db.length:Int)
 ql:dq.length<=(Jg fl).length+bl.length
 blok:∀b∈bl,b=-1\/(0<=b/\b<cnt)
 nod:(Ji (Jg fl++bl)).Nodup
 bI:∀b:Nat,b<db.length->z4 fl (b:Int)=Xd->(b:Int)∉bl->db[b]?=Xa zt
 aZ:∀q∈dq,(0<=q.1/\q.1<cnt)/\(z4 fl q.1=Xc\/q.1∈bl)
theorem zg5.none(h:zg5 M z r g L):zg5 M z r g (L++[-1]):=by
 refine⟨h.st,h.cn,by have:=h.ql;simp;omega,fun r z=>?_,?_,fun r z g d=>h.bI r z g (fun g=>d (by simp[g])),fun q g=>⟨(h.aZ q g).1,(h.aZ q g).2.imp id (fun h=>by simp[h])⟩⟩
 ·rcases Yd.1 z with z|z
  ·exact h.blok r z
  grind
 have:Ji (Jg M++(L++[-1]))=Ji (Jg M++L):=by simp[Ji]
 rw[this];exact h.nod
theorem zg5.block(h:zg5 M z r g L){p:List Int}{more:Bool}(hb:b<r.length)(c:z4 M (b:Int)=Xd)(k:(b:Int)∉L):
  zg5 M z (r.set b p) (if more then g++[((b:Int),p)]else g) (L++[(b:Int)]):=by
 refine⟨h.st,by simpa using h.cn,?_,fun x r=>?_,?_,fun x r j e=>?_,fun q c=>?_⟩
 ·have:=h.ql
  cases more<;>simp<;>omega
 ·rcases Yd.1 r with r|r
  ·exact h.blok x r
  right;have:x=(b:Int):=Si r;have:=h.cn;omega
 ·have fl:Ji (Jg M++(L++[(b:Int)]))=Ji (Jg M++L)++[(b:Int)]:=by
   unfold Ji;rw[<-Yl,Oa];congr 1
  rw[fl,Ga];refine⟨h.nod,Sm,fun x r y l=>?_⟩;have i:y=(b:Int):=Si l;subst i;intro i;subst i;unfold Ji at r;rw[Xx,Yd]at r;rcases r.1 with i|i;·grind[Jm]
  exact k i
 ·have i:b≠x:=fun fl=>e (by simp[fl])
  rw[sN i];exact h.bI x (Si r) j (fun r=>e (by simp[r]))
 have r:q∈g->(0<=q.1/\q.1<z)/\(z4 M q.1=Xc\/q.1∈L++[(b:Int)]):=fun c=>⟨(h.aZ q c).1,(h.aZ q c).2.imp id (fun h=>by simp[h])⟩;cases more with
 |false=>exact r (Si c)
 |true=>
  rw[kE rfl]at c;rcases Yd.1 c with c|c;·grind
  have:q=((b:Int),p):=Si c;subst this;have:=h.cn;exact⟨by simp only;omega,.inr Sm⟩
theorem zg5.file(h:zg5 M z r g L){a:Int}(e:M.length<5)(fl:0<=a/\a<=96)(f:(L.length:Int)=zaS a):zg5 (M++[⟨a,L⟩]) z r g []:=by
 have g:Jg (M++[⟨a,L⟩])=Jg M++L:=by simp[Jg]
 have i:∀r,z4 (M++[⟨a,L⟩]) r=Xc↔z4 M r=Xc\/r∈L:=fun r=>by rw[Jm,g,Yd,<-Jm]
 obtain⟨⟨a,a,e⟩,j,j⟩:=(qJ M z).1 h.st;refine⟨(qJ _ _).2 ⟨⟨by simp;omega,a,e⟩,fun a a=>?_,Rx g h.nod⟩,h.cn,by rw[g];simpa using h.ql,Sm,by rw[g];simpa using h.nod,fun r g z _=>?_,fun q z=>⟨(h.aZ q z).1,.inl ((i _).2 (h.aZ q z).2)⟩⟩
 ·rcases Yd.1 a with a|a
  ·grind
  rw[Uv]at a;subst a;exact⟨fl,f,h.blok⟩
 refine h.bI r g ?_ ?_;·grind
 grind
theorem zg5.zero(h:k<=80):zg5 [] (k:Int) (Xr k zt) [] []:=by refine⟨(qJ _ _).2 ⟨⟨Sm,Wm,Wm⟩,Sm,by simp[Jg,Ji]⟩,Sm,Sm,Sm,by simp[Jg,Ji],fun b a _ _=>?_,Sm⟩;grind
theorem zg3:∀{fl:List Fl},(∀f∈fl,zrw z f)->(Jg fl).length<=12*fl.length
 |[],_=>by simp[Jg]
 |f::fl,h=>by
  have b:=zg3 (fl:=fl) fun g z=>h g (by simp[z])
  obtain⟨z,z,c⟩:=h f Sm;unfold zaS at z;simp only[Jg,Yf,lA,Yi]at b⊢;split at z<;>omega
theorem zg5.start{a:Int}(h:zg5 M a r g [])(e:k<=40)(d:b<=60)(hd:Int):qT ⟨Xr k frF,hd,Xr b 0,Xr b zt,[],r,g,M,a,[],[]⟩ []:=by
 obtain⟨⟨f,f,f⟩,n,f⟩:=(qJ M a).1 h.st;refine⟨Si e,fun f i=>?_,Si d,Sm,?_,?_,h.st,h.cn,fun a e d=>h.bI a e d Sm,fun q d=>?_,Sm,Sm,rfl,rfl,fun p s f a=>by simp at a,fun j f a=>?_,fun j z a=>?_⟩;·have:=(Oo.1 i).2;subst this;exact⟨Dc,Dc,.inl rfl,fun _=>rfl,fun _=>rfl⟩
 ·grind[zS,Xr,zt]
 ·show zS r.length g=0
  have r:=zg3 n;have r:=h.ql;have g:=h.cn;unfold zS;rw[kF Wm,kF (by simp at r;omega),kF];rw[Ye];rintro⟨q,d,e⟩;have:=(h.aZ q d).1;grind[ZB]
 ·exact(h.aZ q d).2.resolve_right Sm
 ·simp only at a;rw[Oz]at a;split at a;·cases a;exact⟨rfl,fun h=>by simp[frF]at h⟩
  cases a
 simp only at a;rw[Oz]at a;split at a;·cases a;rfl
 cases a
def pgL(p:Pg):List Int:=[p.b0,p.b1,p.b2,p.b3,p.b4,p.b5,p.b6,p.b7]
def Z8(p:List Int)(idx size:Int):List Int:=p.mapIdx fun i z=>if size<=8*idx+(i:Int)then 0 else z
def zg2(m:Ma)(file idx:Int):Int:=(m.fl.getD file.toNat ⟨0,[]⟩).bl.getD idx.toNat 0
def JC(m:Ma)(file:Int):Int:=(m.fl.getD file.toNat ⟨0,[]⟩).size
def QM(file idx:Int)(c:Ca):Bool:=decide (c.file=file)&&decide (c.idx=idx)
def zU(m:Ma)(file idx:Int):List Int:=
 match m.ca.find? (QM file idx)with
 |some c=>pgL (z1 m c.fr).p
 |none=>if zg2 m file idx<0 then zt else Z8 (qU m.db m.dq (zg2 m file idx)) idx (JC m file)
def Qr(m:Ma)(file idx:Int):List Int:=if zg2 m file idx<0 then zt else Z8 (qU m.db m.dq (zg2 m file idx)) idx (JC m file)
def ZY(m:Ma)(p n:Int):List Int×Bool×Int:=
 if p<0\/(m.sp.length:Int)<=p\/n<0\/63<n then(zt,Xd,5)
 else
  let s:=m.sp.getD p.toNat ⟨Xd,[],[]⟩
  let x:=zr s.aC n.toNat
  let e:=ze s n.toNat
  if x.is=Xd then(zt,Xd,5)
  else if e.kind=1 then(pgL (z1 m e.n).p,decide ((z1 m e.n).f<0),0)
  else if e.kind=2 then(qU m.sb m.sq e.n,Xc,0)
  else if x.file<0 then(zt,Xd,0)
  else if bkN m x.file<=x.page then(zt,Xd,9)
  else(zU m x.file x.page,Xd,0)
def jR(m:Ma)(p n:Int):List Int×Bool×Int:=if maW m≠0 then(zt,Xd,maW m)else ZY m p n
def jQ(nf:Nat)(l:List Ar):Prop:=∀k:Nat,k<64->(zr l k).is=Xc->(zr l k).file<(nf:Int)
theorem zjF(nf:Nat):jQ nf []:=fun k _ h=>by cases h
theorem zjG(g:jQ k l)(f:H.file<(k:Int))(h:(zej l H).2=0):jQ k (zej l H).1:=by
 obtain⟨b,c,d,d,d⟩:=zjr h;have e:=zb8 (jJ.1 b).2 (QG.1 c);intro nf c b;rw[d,zgD e c]at b⊢;unfold zjq at b⊢;by_cases e:Qb H nf=Xc;·rw[kE e];exact f
 rw[kF e]at b⊢;exact g nf c b
theorem zrL(h:(zej l H).2=0):(wrL (zej l H).1).1=0:=by obtain⟨b,c,d,d,e⟩:=zjr h;rw[e];exact zr7 (zb8 (jJ.1 b).2 (QG.1 c)) d
theorem zkI(h:∀s∈m.sp,Qv s.tb):ZT m (Zb m) m.aB=m:=by
 have:Ud (fun s f=>({s with tb:=ZV f}:Sp)) m.sp (Zb m)=m.sp:=by
  have a:∀l:List Sp,(∀s∈l,Qv s.tb)->Ud (fun s f=>({s with tb:=ZV f}:Sp)) l (l.map ze)=l:=by
   intro l;induction l with
   |nil=>intro _;rfl
   |cons s l e=>
    intro b;have c:=b s Sm;have d:ZV (ze s)=s.tb:=by
     unfold ZV;refine zk9 c fun j c=>?_;rw[Xy,Xw c];rfl
    rw[mP,Ue,e (fun x c=>b x (by simp[c])),d]
  exact a m.sp h
 unfold ZT;rw[this]
theorem Q9(h:zbh m Xb m.ca=0){c:Ca}(b:c∈m.ca):m.ca.find? (QM c.file c.idx)=Xa c:=by
 obtain⟨a,_,f⟩:=zo.1 h;cases a:m.ca.find? (QM c.file c.idx)with
 |none=>
  rw[Uy]at a;exact absurd (by simp[QM]) (a c b)
 |some d=>
  have g:=Ot a;have e:d.file=c.file/\d.idx=c.idx:=by
   have:=List.find?_some a;simpa[QM]using this
  have a:zZ d=zZ c:=by unfold zZ;rw[e.1,e.2]
  by_cases e:d=c;·rw[e]
  exfalso;have:∀l:List Ca,l.Pairwise (fun a e=>zZ a<zZ e)->c∈l->d∈l->False:=by
   intro l;induction l with
   |nil=>intro _ a;cases a
   |cons x l d=>
    intro d a e;obtain⟨e,e⟩:=Yc.1 d;rcases mC.1 a with a|a;·grind
    grind
  exact this m.ca f b g
theorem zkw{ca:List Ca}{c:Ca}(file idx:Int):(Z7 ca c).find? (QM file idx)=if QM file idx c=Xc/\(ca.takeWhile (fun d=>decide (zZ d<zZ c))).find? (QM file idx)=Xb then Xa c else ca.find? (QM file idx):=by
 have a:=Od (p:=fun d=>decide (zZ d<zZ c)) (l:=ca);unfold Z7;rw[Ge,List.find?_cons];conv=>rhs;rw[show ca.find? (QM file idx)=((ca.takeWhile (fun d=>decide (zZ d<zZ c)))++(ca.dropWhile (fun d=>decide (zZ d<zZ c)))).find? (QM file idx)from by rw[a],Ge]
 cases b:(ca.takeWhile (fun d=>decide (zZ d<zZ c))).find? (QM file idx)with
 |some d=>simp
 |none=>
  cases e:QM file idx c with
  |true=>simp
  |false=>simp
theorem zmg{T:List (Nat->En)}(h:qT m T){p:Pg}{u d:Bool}{file idx:Int}(k:m.fs[j]?=Xa Y)(q:Y.r=0)(y:∀c∈m.ca,¬(c.file=file/\c.idx=idx))(hp:pgL p=zU m file idx)(a b:Int):
  zU {m with fs:=m.fs.set j ⟨p,1,u,d,file,idx⟩,ca:=Z7 m.ca ⟨file,idx,j⟩} a b=zU m a b:=by
 have f:=(gS.1 k).1;obtain⟨A,B⟩:=h.free k q;obtain⟨l,v,w⟩:=zo.1 h.ca;have e:∀z:Int,0<=z->z1 {m with fs:=m.fs.set j ⟨p,1,u,d,file,idx⟩,ca:=Z7 m.ca ⟨file,idx,j⟩} z=if z=(j:Int)then⟨p,1,u,d,file,idx⟩else z1 m z:=fun z t=>q6 f z t
 by_cases n:a=file/\b=idx;·grind[Ca,QM,Uy,zU,zkw,Uf]
 unfold zU;simp only;rw[zkw,kF (fun h=>n (by have:=h.1;simp[QM]at this;exact⟨this.1.symm,this.2.symm⟩))];cases s:m.ca.find? (QM a b)with
 |none=>rfl
 |some c=>
  have r:=Ot s;have g:c.fr≠(j:Int):=fun x=>by grind[QP]
  simp only;rw[e _ (Zl (l c r)).1.2.2.2.2.1,kF g]
theorem zeE{f:α->Int}:∀{l:List α}{k:Nat}{q:α},l[k]?=Xa q->(∀(j:Nat)x,j<k->l[j]?=Xa x->f x=0)->f q≠0->zG (l.map f)=f q
 |[],k,q,h,_,_=>by simp at h
 |a::l,0,q,h,_,b=>by
  simp at h
  subst h;simp only[mP,zG];rw[kF b]
 |a::l,k+1,q,h,hb,b=>by
  simp only[mP,zG];rw[kE (hb 0 a Wm rfl)]
  exact zeE (Si h) (fun j x c c=>hb (j+1) x Wm (Si c)) b
theorem zfP{f:α->Int}(hb:∀(j:Nat)x,y[j]?=Xa x->f x=0):zG (y.map f)=0:=by grind[zk,Yb.1,Xu]
theorem zaa{p:α->Bool}{g:α->Int}:∀(l:List α),zG (l.map fun x=>if p x=Xc then g x else 0)=zG ((l.filter p).map g)
 |[]=>rfl
 |a::l=>by
  simp only[mP,zG]
  by_cases h:p a=Xc
  ·rw[kE h,Ob h];simp only[mP,zG];rw[zaa l]
  rw[kF h,kE rfl,List.filter_cons_of_neg h,zaa l]
theorem Qg(a:Int)(l):zG (a::l)=if a=0 then zG l else a:=rfl
theorem zfO:zG []=0:=rfl
def JX(m:Ma):List Int:=[ZR m.fs m.aB,slW m.sl,zS m.sb.length m.sq,zS m.db.length m.dq,stW m.fl m.cnt]
def zat(m:Ma):List Int:=[znI m,zaU m,zaz m]
def Jt(m:Ma):Int:=if 4<m.sp.length then 4 else zG (m.sp.map spE)
def zbv(m:Ma):Int:=if zG ((Xv m.fs.length).map (frE m))=0 then zG ((Xv m.sl.length).map (zlc m))else zG ((Xv m.fs.length).map (frE m))
def zhj(m:Ma):Int:=zG (m.sp.map (zdV m))
def zfv(m:Ma):Int:=zbh m Xb m.ca
theorem zlR(l k):zG (l++k)=if zG l=0 then zG k else zG l:=by
 induction l with
 |nil=>simp[zG]
 |cons a l d=>
  by_cases h:a=0
  ·have b:zG (a::l)=zG l:=by rw[Qg,kE h]
   have c:zG (a::l++k)=zG (l++k):=(by rw[Yx,Qg,kE h]);rw[b,c,d]
  have b:zG (a::l)=a:=by rw[Qg,kF h]
  have c:zG (a::l++k)=a:=by rw[Yx,Qg,kF h]
  rw[b,c,kF h]
theorem zqK(m):maW m=zG [zG (JX m),zG (zat m),Jt m,zfv m,zhj m,zbv m]:=by grind[zak,zG,JX,zat,Jt,spE,zlR,Qg,zfO,maW,zbv,zhj,zfv,Xv,frE,zlc]
structure zkV(m:Ma):Prop where
 mem:ZR m.fs m.aB=0
 sl:slW m.sl=0
 sq:zS m.sb.length m.sq=0
 dq:zS m.db.length m.dq=0
 st:stW m.fl m.cnt=0
theorem zrF:zG (JX m)=0↔zkV m:=by
 rw[zk];unfold JX;constructor;·intro h;exact⟨h _ Sm,h _ Sm,h _ Sm,h _ Sm,h _ Sm⟩
 intro h e a;simp only[mC,nM,or_false]at a;rcases a with rfl|rfl|rfl|rfl|rfl;·exact h.mem
 ·exact h.sl
 ·exact h.sq
 ·exact h.dq
 exact h.st
theorem zb2:∀{l:List Ar}{p:Option Ar}{n:Nat}{a:Ar},Jh p l->l[n]?=Xa a->Qb a k=Xc->zr l k=qq a k
 |[],_,_,_,_,h,_=>by simp at h
 |b::l,p,0,a,_,h,c=>by
  simp at h
  subst h;rw[q7]at c;exact J1 c.1 c.2
 |b::l,p,n+1,a,e,h,c=>by
  have f:l[n]?=Xa a:=Si h
  have d:=zb2 e.2.2 f c;by_cases c:(k:Int)<b.tz;·have:=e.2.2.low rfl c;rw[this]at d;exact(zhI d.symm).elim
  rw[zb3 (.inr Wm)];exact d
def qQ(s:Sp):List Nat:=(Xv 64).filter fun n=>enS (ze s n)
theorem zi5(m)(s:Sp):zdV m s=zG ((qQ s).map fun n=>zah m (zr s.aC n) (ze s n)):=by grind[zdV,qQ,zaa,Oj,ze,enS]
theorem zhE(ht:tbW s.tb=0)(d:s.tb.length=8):qQ s=[]↔s.tb.all (·.isEmpty)=Xc:=by
 unfold qQ;rw[List.filter_eq_nil_iff,Yn];constructor
 ·intro h x a;obtain⟨i,b⟩:=Xu a;have c:i<8:=by rw[<-d];exact(gS.1 b).1
  rcases ZZ.1 ht x a with a|⟨c,a,a⟩;·grind
  exfalso;unfold zaV at a;rw[Ye]at a;obtain⟨e,d,f⟩:=a;obtain⟨j,a⟩:=Xu d;have d:j<8:=by rw[<-c];exact(gS.1 a).1
  refine h (8*i+j) (Xs.2 Wm) ?_;unfold ze zbg;rw[show(8*i+j)/8=i by omega,show(8*i+j)%8=j by omega,b];simp only[Option.getD_some];rw[a];exact f
 intro h n a;rw[Xs]at a;unfold ze zbg;cases e:s.tb[n/8]? with
 |none=>simp[enS,en0]
 |some x=>
  have:=h x (mG e);have:x=[]:=by simpa using this
  subst this;simp[enS,en0]
def Jq(f:Fr)(a:Ar)(n:Nat):Bool:=if f.f<0 then !a.sh else f.f==a.file&&f.x==a.base+(n:Int)-a.fr
def Qn(f:Fr)(a:Ar):Bool:=a.wr&&(if f.f<0 then decide (f.r<=1)else a.sh)
def zfu(m:Ma)(a:Ar)(n:Nat)(e:En):Int:=
 if e.kind=2 then(if(m.sl.length:Int)<=e.n\/a.sh=Xc then 7 else 0)
 else if(m.fs.length:Int)<=e.n then 3
 else if Jq (z1 m e.n) a n=Xd\/(e.wr=Xc/\Qn (z1 m e.n) a=Xd)then 7 else 0
theorem zq0(a:ZR m.fs m.aB=0)(k:Int):(z1 m k).f=-1\/(0<=(z1 m k).f/\(z1 m k).f<5):=by
 unfold z1;rw[gD];cases h:m.fs[k.toNat]? with
 |none=>left;rfl
 |some f=>
  have b:zcO m.fs=0:=by grind[ZR]
  have a:=JK.1 b f (mG h);simp only[Option.getD_some];unfold frW at a;split at a;·cases a
  grind[inB]
theorem zmB(c:ZR m.fs m.aB=0)(d:jS H):zah m (qq H k) Z=zfu m H k Z:=by
 unfold zah zfu;rw[kF (by simp[qq])];by_cases b:Z.kind=2;·rw[kE b,kE b];rfl
 rw[kF b,kF b];by_cases b:(m.fs.length:Int)<=Z.n;·grind
 rw[kF b,kF b];have b:=zq0 c Z.n;obtain⟨f,c⟩:=kB (z1 m Z.n);rw[c]at b⊢;unfold Jq Qn qq;simp only;obtain⟨c,c,c,c,c,c,c,c⟩:=d;rcases b with b|b;·grind
 grind
def JS(c d:Ca):Bool:=decide (c.file<d.file)||(c.file==d.file&&decide (c.idx<d.idx))
theorem zos{c d:Ca}(a:0<=c.idx/\c.idx<100)(b:0<=d.idx/\d.idx<100):JS c d=decide (¬zZ d<=zZ c):=by unfold JS zZ;rw[Ui];simp;omega
theorem zrf{p:Option Ca}{c:Ca}(a:stW m.fl m.cnt=0)(h:caE m p c=0):0<=c.idx/\c.idx<100:=by
 unfold caE at h;split at h;·cases h
 rename_i b
 have b:bkN m c.file<=12:=by
  unfold bkN;rw[gD];cases e:m.fl[c.file.toNat]? with
  |none=>simp
  |some f=>
   have:=((qJ _ _).1 a).2.1 f (mG e);simp only[Option.getD_some];have a:=zgU this.1.1 this.1.2;rw[this.2.1];exact a.2
 omega
theorem ziv(f:Nat->En)(kind k:Int):∀m:Nat,Zw f kind k m=(Xv m).countP fun n=>isE (f n) kind k
 |0=>rfl
 |m+1=>by
  unfold Zw;rw[ziv f kind k m,List.range_succ,Ys]
  cases h:isE (f m) kind k<;>simp[h]
theorem zn9(s){k:Int}(a:z≠0):Zw (ze s) z k 64=(qQ s).countP fun n=>isE (ze s n) z k:=by
 rw[ziv];unfold qQ;rw[List.countP_filter];apply List.countP_congr;intro n _;constructor
 ·intro h;rw[Ya];refine⟨h,?_⟩;unfold isE at h;rw[Ya]at h;grind[ze,enS]
 grind
def qR(m:Ma)(i:Nat)(l:List Nat)(s:Sp)(key:Int×Int):Int:=
 ((if key.1=1 then(zN m.ca key.2:Nat)else 0:Nat):Int)+((((m.sp.take i).map fun s=>(qQ s).countP fun n=>isE (ze s n) key.1 key.2).sum:Nat):Int)+((l.countP fun n=>isE (ze s n) key.1 key.2:Nat):Int)
theorem znm(m)(i:Nat)(l:List Nat)(s)(n:Nat)(key:Int×Int):qR m i (l++[n]) s key=qR m i l s key+(if key=((ze s n).kind,(ze s n).n)then 1 else 0):=by
 unfold qR;rw[Ys];by_cases h:key=((ze s n).kind,(ze s n).n);·grind[isE,ze]
 grind[isE,ze]
theorem znn(m:Ma)(i:Nat)(s a)(b:m.sp[i]?=Xa s)(key:Int×Int):qR m i (qQ s) s key=qR m (i+1) [] a key:=by grind[qR,Oc]
theorem zky(m:Ma)(s)(k:Int)(a:z≠0):qR m m.sp.length [] s (z,k)=((Qz m z k+(if z=1 then zN m.ca k else 0):Nat):Int):=by grind[qR,Qz,qK,List.take_length,ze,Zw,qQ,isE,List.map_map,Oj,zn9]
def zaJ(l:List Ca)(key:Int×Int):Int:=if key.1=1 then(zN l key.2:Int)else 0
theorem zlH(l)(c:Ca)(key:Int×Int):zaJ (l++[c]) key=zaJ l key+(if key=(1,c.fr)then 1 else 0):=by
 unfold zaJ zN;obtain⟨a,b⟩:=key;simp only[Ys,pJ];by_cases b:a=1;·grind
 grind
theorem znp(m:Ma)(s)(key:Int×Int):zaJ m.ca key=qR m 0 [] s key:=by unfold zaJ qR;simp;split<;>rfl
theorem zno(key:Int×Int):zaJ [] key=0:=by unfold zaJ zN;simp
def Jf:List Ca->Int×Int->Option Int
 |[],_=>Xb
 |c::l,key=>match Jf l key with|some z=>Xa z|none=>if key=(c.file,c.idx)then Xa c.fr else Xb
theorem zh4(c:Ca)(key:Int×Int):∀(l:List Ca),Jf (l++[c]) key=if key=(c.file,c.idx)then Xa c.fr else Jf l key
 |[]=>by simp[Jf]
 |d::l=>by
  simp only[Yx,Jf];rw[zh4 c key l]
  by_cases h:key=(c.file,c.idx)
  ·rw[kE h,kE h]
  rw[kF h,kF h]
theorem zce:∀{l:List Ca},Jf l S=Xa z->∃c∈l,S=(c.file,c.idx)/\c.fr=z
 |[],h=>by cases h
 |d::l,h=>by
  unfold Jf at h
  cases e:Jf l S with
  |some y=>
   rw[e]at h;cases h;obtain⟨c,a,b⟩:=zce e;exact⟨c,Of _ a,b⟩
  |none=>
   rw[e]at h;simp only at h;split at h
   ·rename_i a
    cases h;exact⟨d,Uz,a,rfl⟩
   cases h
theorem zcd:∀{l:List Ca},Jf l S=Xb↔∀c∈l,S≠(c.file,c.idx)
 |[]=>by simp[Jf]
 |d::l=>by
  unfold Jf;constructor
  ·intro h c a
   cases e:Jf l S with
   |some y=>rw[e]at h;cases h
   |none=>
    rw[e]at h;simp only at h
    rcases mC.1 a with rfl|a
    ·intro b;rw[kE b]at h;cases h
    exact zcd.1 e c a
  intro h;rw[zcd.2 fun c a=>h c (Of _ a)]
  simp only;rw[kF (h d Uz)]
theorem zjU{l:List Ca}(h:l.Pairwise fun a b=>zZ a<zZ b){c d:Ca}(e:c∈l)(hd:d∈l)(f:zZ c=zZ d):c=d:=by
 induction l with
 |nil=>cases e
 |cons a l f=>
  rw[Yc]at h;rcases mC.1 e with rfl|e;·grind
  grind
theorem zlJ(a:zbh m Xb m.ca=0)(k:Nat):(Jf m.ca ((z1 m k).f,(z1 m k).x)=Xa (k:Int))↔zN m.ca k≠0:=by
 obtain⟨b,_,h⟩:=zo.1 a;have b:∀c∈m.ca,(z1 m c.fr).f=c.file/\(z1 m c.fr).x=c.idx:=by grind[caE]
 have a:zN m.ca k≠0↔∃c∈m.ca,c.fr=(k:Int):=by grind[zN,Nat.ne_zero_iff_zero_lt,Up]
 rw[a];constructor;·grind[zce]
 rintro⟨c,f,g⟩;obtain⟨d,e⟩:=b c f;rw[g]at d e;cases b:Jf m.ca ((z1 m k).f,(z1 m k).x)with
 |none=>
  have:=zcd.1 b c f;rw[d,e]at this;exact absurd rfl this
 |some z=>
  obtain⟨i,j,a,l⟩:=zce b;rw[d,e]at a;simp only[pJ]at a;have:c=i:=zjU h f j (by unfold zZ;rw[a.1,a.2]);rw[<-l,<-this,g]
end
section
open Go.RowKit
theorem zba(m n:Int)(w):
  Xp prog 66 #[I6 m,I6 n] w fun e w'=>e=Xl (Xh (bel m n))/\w'=w:=by
 have H:Xo (bel m n=(decide (0<=m)&&decide (m<n))):=rfl;by_cases a:0<=m
 ·by_cases a:m<n
  ·go_enter func66,ntmps66
   go_wp2;go_ret;exact⟨by rw[H.out];simp[*],rfl⟩
  go_enter func66,ntmps66;go_wp2;go_ret;exact⟨by rw[H.out];simp[*],rfl⟩
 go_enter func66,ntmps66;go_wp2;go_ret;exact⟨by rw[H.out];simp;omega,rfl⟩
theorem zsU:(Tryz.prog.info? 45).map (fun i=>(i.zero,i.size,i.bytes))=Xa (Xa (I6 0),1,8):=by kernel_rfl
def znS:Elt Int where
 enc:=fun z=>[Xe Xf z]
 k:=1
 ty:=45
 st:=217
 bytes:=8
 zv:=Xe Xf 0
 zero:=0
 len:=fun _=>rfl
 one:=fun a u hu=>by
  simp only[mC,nM,or_false]at hu;rw[hu];rfl
 bL:=underlying217
 aF:=zsU
 zok:=rfl
 few:=by decide
 pos:=by decide
theorem zq.errs(h:zq znS w A L):∃a c,A=O a L.length c/\zkU w a L:=by obtain⟨a,c,b,d⟩:=h.rows;refine⟨a,c,b,fun j x g=>?_⟩;obtain⟨b,e,f⟩:=d j x g;refine⟨b,e,fun W b=>?_⟩;have:=f W b 0 _ rfl;grind[zX,znS]
theorem zcB(E:Elt α)(w:Xn)(l:List α)(cs:Array Xq)(a:cs=(l.flatMap E.enc).toArray)(hb:l.length*E.bytes<=140737488355328):zq E (w.alloc (Xk cs E.ty)) (O (Xa ⟨w.heap.size,0,Xb⟩) l.length l.length) l:=by subst a;refine⟨⟨_,l.length,rfl,fun h=>(by cases h),fun y a=>?_⟩,hb⟩;grind[jY.aE]
theorem zeC(hb:∀(j:Nat)x,j<k->L[j]?=Xa x->x=0)(b:L[k]?=Xa z)(a:z≠0):zG L=z:=by have:=zeE (f:=fun x=>x) b hb a;simpa using this
theorem zeD(hb:∀(j:Nat)x,L[j]?=Xa x->x=0):zG L=0:=by have:=zfP (f:=fun x=>x) hb;simpa using this
theorem zhH(v l w)(s:zq znS w v l):
  Xp prog 124 #[v] w fun e w'=>e=Xl (I6 (zG l))/\w'=w:=by
 have g:=s.short;obtain⟨G,H,rfl,b⟩:=s.errs;have z:=dD b;clear b s;obtain⟨n,m⟩:=kA l.length;rw[m.out]at g⊢;obtain⟨F,k⟩:=kA (zG l);rw[k.out];go_enter func124,ntmps124;go_wp2;go_loopg[5,8] n (fun B _ E wr=>∃a:Nat,a<=n/\n-a<=B/\E=I6 a/\wr=w/\Xo (∀(j:Nat)x,j<a->l[j]?=Xa x->x=0))
 exact⟨0,nZ _,Wm,rfl,rfl,fun j x t=>absurd t (nL _)⟩;obtain⟨a,D,C,rfl,rfl,A⟩:=hrel;by_cases c:a<n
 ·have h:=kC c
  obtain⟨q,p⟩:∃q,Xo (l[a]?=Xa q):=⟨_,gE (Rx m.out c)⟩;obtain⟨x,rfl,u⟩:=z.out a q p.out;have K:=u wr (zc.refl _);clear u;by_cases d:q=0
  ·have r:(q !=0)=Xd:=by simp[d]
   have y:Xo (∀(j:Nat)x,j<a+1->l[j]?=Xa x->x=0):=dD<|fun j x t f=>by
    by_cases e:j=a;·subst e;rw[p.out]at f;cases f;exact d
    exact A j x Wm f
   clear d;go_wp2;go_roundg (n-(a+1));exact⟨a+1,Wm,Wm,Gn,rfl,y⟩;omega
  have r:(q !=0)=Xc:=by simp[d]
  have i:Xo (F=q):=dD (by rw[<-k.out];exact zeC A p d);clear d;go_wp2;go_ret;exact⟨Rr i.out,rfl⟩
 have h:=kD c;have:a=n:=Wm;subst this;have i:Xo (F=0):=dD<|by
  rw[<-k.out];exact zeD fun j x f=>A.out j x (by rw[<-m.out];exact(gS.1 f).1) f
 go_wp2;go_ret;exact⟨Rr i.out,rfl⟩
theorem J7(a:Ar)(n:Int)(w)(b:0<=a.base/\a.base<=100)(c:0<=a.fr/\a.fr<=100)(d:0<=n/\n<=100):
  Xp prog 107 #[Xi #[I6 a.fr,I6 a.tz,Xh a.rd,Xh a.wr,Xh a.sh,I6 a.file,I6 a.base],I6 n] w fun e w'=>e=Xl (I6 (a.base+n-a.fr))/\zc w w':=by obtain⟨fr,d,d,wr,d,file,base⟩:=a;simp only at b c;go_enter func107,ntmps107;go_wp2;go_ret;exact⟨rfl,za _ _⟩
theorem zju(c d:Ca)(w):
  Xp prog 132 #[Xi #[I6 c.file,I6 c.idx,I6 c.fr],Xi #[I6 d.file,I6 d.idx,I6 d.fr]] w fun e w'=>e=Xl (Xh (JS c d))/\zc w w':=by
 obtain⟨b,f,i⟩:=c;obtain⟨g,h,j⟩:=d;by_cases l:b<g
 ·have a:JS ⟨b,f,i⟩ ⟨g,h,j⟩=Xc:=by simp[JS,l]
  rw[a];clear a;go_enter func132,ntmps132;go_wp2;go_ret;exact⟨rfl,(za _ _).trans (za _ _)⟩
 by_cases k:b=g
 ·subst k
  by_cases m:f<h
  ·have a:JS ⟨b,f,i⟩ ⟨b,h,j⟩=Xc:=by simp[JS,m]
   rw[a];clear a;go_enter func132,ntmps132;go_wp2;go_ret;exact⟨rfl,(za _ _).trans (za _ _)⟩
  have a:JS ⟨b,f,i⟩ ⟨b,h,j⟩=Xd:=by simp[JS,m]
  rw[a];clear a;go_enter func132,ntmps132;go_wp2;go_ret;exact⟨rfl,(za _ _).trans (za _ _)⟩
 have a:JS ⟨b,f,i⟩ ⟨g,h,j⟩=Xd:=by simp[JS,l,k]
 rw[a];clear a;have a:(b==g)=Xd:=by simp[k]
 clear k;go_enter func132,ntmps132;go_wp2;go_ret;exact⟨rfl,(za _ _).trans (za _ _)⟩
theorem zhQ(f)(a:Ar)(w):
  Xp prog 160 #[Xi (frv f).toArray,Xi #[I6 a.fr,I6 a.tz,Xh a.rd,Xh a.wr,Xh a.sh,I6 a.file,I6 a.base]] w fun e w'=>e=Xl (Xh (Qn f a))/\zc w w':=by
 obtain⟨⟨d,g,i,j,k,l,m,n⟩,r,u,p,c,x⟩:=f;obtain⟨fr,t,q,wr,s,file,base⟩:=a;unfold frv Qn;simp only;cases wr
 ·simp only[Um]
  go_enter func160,ntmps160;go_wp2;go_ret;exact⟨rfl,(za _ _).trans (za _ _)⟩
 simp only[Ut];by_cases h:c<0
 ·rw[kE h];obtain⟨D,b⟩:=kA (decide (r<=1));rw[b.out];go_enter func160,ntmps160;go_wp2;go_ret;exact⟨by rw[<-b.out];rfl,(za _ _).trans (za _ _)⟩
 rw[kF h];go_enter func160,ntmps160;go_wp2;go_ret;exact⟨rfl,(za _ _).trans (za _ _)⟩
theorem Qf(m n:Int)(w):
  Xp prog 144 #[I6 m,I6 n] w fun e w'=>e=Xl (Xh (inB m n))/\w'=w:=by
 have H:Xo (inB m n=(decide (0<=m)&&decide (m<n))):=rfl;by_cases a:0<=m
 ·by_cases a:m<n
  ·go_enter func144,ntmps144
   go_wp2;go_ret;exact⟨by rw[H.out];simp[*],rfl⟩
  go_enter func144,ntmps144;go_wp2;go_ret;exact⟨by rw[H.out];simp[*],rfl⟩
 go_enter func144,ntmps144;go_wp2;go_ret;exact⟨by rw[H.out];simp;omega,rfl⟩
theorem zck(w):
  Xp prog 145 #[] w fun e w'=>e=Xl (Xi (frv frF).toArray)/\zc w w':=by go_enter func145,ntmps145;go_wp2;refine bodyPost_ret (v:=Xi (frv frF).toArray) (by simp[results,Tryz.results145,go_sem,frv,frF,pg0]) rfl ⟨rfl,?_⟩;exact(bR _ _).alloc (nR _) _
theorem wf5(a c g h i j k l r:Int)(u d:Bool)(f x:Int)(w)(b:inB r 1001=Xc)(m:inB x 12=Xc)(p:(f !=-1)=Xc)(_hfe:(f==-1)=Xd)(n:inB f 5=Xc)(q:(r==0)=Xd):
  Xp prog 149 #[Xi #[U8 a,U8 c,U8 g,U8 h,U8 i,U8 j,U8 k,U8 l,I6 r,Xh u,Xh d,I6 f,I6 x]] w fun e w'=>e=Xl (I6 0)/\zc w w':=by
 go_enter func149,ntmps149;go_wp2_with(go_at_call 144;refine(Qf _ _ _).mono ?_;rintro e w'⟨rfl,rfl⟩)
 refine nW fun m b=>?_;have c:=gA b;have a:=xA b;clear b;have b:=a.gw 0 rfl;have b:=a.gw 1 rfl;have b:=a.gw 2 rfl;have b:=a.gw 3 rfl;have b:=a.gw 4 rfl;have b:=a.gw 5 rfl;have b:=a.gw 6 rfl;have b:=a.gw 7 rfl;have b:=a.gw 8 rfl;have b:=a.gw 9 rfl;have b:=a.gw 10 rfl;have b:=a.gw 11 rfl;have b:=a.gw 12 rfl;have a:Nonempty (zj m):=⟨⟨_,zc.refl _⟩⟩;refine jK [(5,⟨fun v=>v=Xi (frv frF).toArray,fun _ _=>True⟩)] zY Kr ?_ ?_ ?_
 ·intro x a
  simp at a;subst a;exact⟨_,rfl⟩
 ·intro x a
  simp at a;subst a;exact fun _ _ _ _ h=>h
 iterate 4 refine zf ?_
 iterate 3 (refine Zu ?_ ?_;kernel_rfl;simp only[Gg,sB,sS,sZ])
 iterate 6 refine zf ?_
 iterate 3 (refine Zu ?_ ?_;kernel_rfl;simp only[Gg,sB,sS,sZ])
 iterate 2 refine zf ?_
 refine z5 fun a b a=>?_;have a:=dD (c.trans b);go_wp2;go_ret;exact⟨rfl,a⟩
theorem wf7(g h i j k l m n r:Int)(u d:Bool)(f x:Int)(w)(b:inB r 1001=Xc)(p:inB x 12=Xc)(q:(f !=-1)=Xd)(_hfe:(f==-1)=Xc)(s:(r==0)=Xc)(a:Jj (⟨⟨g,h,i,j,k,l,m,n⟩,r,u,d,f,x⟩:Fr) frF=Xc)(c:(x !=0)=Xd):
  Xp prog 149 #[Xi #[U8 g,U8 h,U8 i,U8 j,U8 k,U8 l,U8 m,U8 n,I6 r,Xh u,Xh d,I6 f,I6 x]] w fun e w'=>e=Xl (I6 0)/\zc w w':=by
 have p:Xo _:=a;clear a;go_enter func149,ntmps149;go_wp2_with(go_at_call 144;refine(Qf _ _ _).mono ?_;rintro e w'⟨rfl,rfl⟩)
 refine nW fun s b=>?_;have q:=gA b;have a:=xA b;clear b;have b:=a.gw 0 rfl;have b:=a.gw 1 rfl;have b:=a.gw 2 rfl;have b:=a.gw 3 rfl;have b:=a.gw 4 rfl;have b:=a.gw 5 rfl;have b:=a.gw 6 rfl;have b:=a.gw 7 rfl;have b:=a.gw 8 rfl;have b:=a.gw 9 rfl;have b:=a.gw 10 rfl;have b:=a.gw 11 rfl;have b:=a.gw 12 rfl;have a:Nonempty (zj s):=⟨⟨_,zc.refl _⟩⟩;refine jK [(5,⟨fun v=>v=Xi (frv frF).toArray,fun _ _=>True⟩)] zY Kr ?_ ?_ ?_
 ·intro x c
  simp at c;subst c;exact⟨_,rfl⟩
 ·intro x c
  simp at c;subst c;exact fun _ _ _ _ a=>a
 iterate 5 refine zf ?_
 refine zI rfl rfl (fun w' a c=>?_) (fun a b=>?_);·refine zO.call [] rfl func145 rfl rfl rfl ?_;refine(zck w').mono ?_;rintro e a⟨rfl,a⟩;exact⟨_,rfl,a,rfl,trivial⟩
 subst b;have a:=fun W=>zh9 g h i j k l m n r u d f x 0 0 0 0 0 0 0 0 0 Xd Xd (-1) 0 W;simp only[show(⟨⟨0,0,0,0,0,0,0,0⟩,0,Xd,Xd,-1,0⟩:Fr)=frF from rfl,p.out]at a;simp only[Gg,sB,sS,sZ,frv,frF,pg0];iterate 12 refine zf ?_
 refine z5 fun a b c=>?_;have a:=dD (q.trans b);go_wp2;go_ret;exact⟨rfl,a⟩
theorem wf9(a g h i j k l m r:Int)(u d:Bool)(f x:Int)(w)(b:inB r 1001=Xc)(n:inB x 12=Xc)(p:(f !=-1)=Xd)(_hfe:(f==-1)=Xc)(q:(r==0)=Xd)(c:(x !=0)=Xd):
  Xp prog 149 #[Xi #[U8 a,U8 g,U8 h,U8 i,U8 j,U8 k,U8 l,U8 m,I6 r,Xh u,Xh d,I6 f,I6 x]] w fun e w'=>e=Xl (I6 0)/\zc w w':=by
 go_enter func149,ntmps149;go_wp2_with(go_at_call 144;refine(Qf _ _ _).mono ?_;rintro e w'⟨rfl,rfl⟩)
 refine nW fun n b=>?_;have g:=gA b;have a:=xA b;clear b;have b:=a.gw 0 rfl;have b:=a.gw 1 rfl;have b:=a.gw 2 rfl;have b:=a.gw 3 rfl;have b:=a.gw 4 rfl;have b:=a.gw 5 rfl;have b:=a.gw 6 rfl;have b:=a.gw 7 rfl;have b:=a.gw 8 rfl;have b:=a.gw 9 rfl;have b:=a.gw 10 rfl;have b:=a.gw 11 rfl;have b:=a.gw 12 rfl;have a:Nonempty (zj n):=⟨⟨_,zc.refl _⟩⟩;refine jK [(5,⟨fun v=>v=Xi (frv frF).toArray,fun _ _=>True⟩)] zY Kr ?_ ?_ ?_
 ·intro x c
  simp at c;subst c;exact⟨_,rfl⟩
 ·intro x c
  simp at c;subst c;exact fun _ _ _ _ h=>h
 iterate 4 refine zf ?_
 iterate 3 (refine Zu ?_ ?_;kernel_rfl;simp only[Gg,sB,sS,sZ])
 iterate 11 refine zf ?_
 refine z5 fun a b a=>?_;have a:=dD (g.trans b);go_wp2;go_ret;exact⟨rfl,a⟩
theorem rw1(a b c g h i j k r:Int)(u d:Bool)(f x:Int)(w)(_h:r<0):
  Xp prog 116 #[Xi #[U8 a,U8 b,U8 c,U8 g,U8 h,U8 i,U8 j,U8 k,I6 r,Xh u,Xh d,I6 f,I6 x]] w fun e w'=>e=Xl (I6 3)/\zc w w':=by go_enter func116,ntmps116;go_wp2;go_ret;exact⟨rfl,(bR _ _).alloc (nR _) _⟩
theorem rw2(a b c g h i j k r:Int)(u d:Bool)(f x:Int)(w)(_h:¬r<0)(_h2:1000<r):
  Xp prog 116 #[Xi #[U8 a,U8 b,U8 c,U8 g,U8 h,U8 i,U8 j,U8 k,I6 r,Xh u,Xh d,I6 f,I6 x]] w fun e w'=>e=Xl (I6 3)/\zc w w':=by go_enter func116,ntmps116;go_wp2;go_ret;exact⟨rfl,(bR _ _).alloc (nR _) _⟩
theorem rw3(a b c g h i j k r:Int)(u d:Bool)(f x:Int)(w)(_h:¬r<0)(_h2:¬1000<r)(_h3:f< -1):
  Xp prog 116 #[Xi #[U8 a,U8 b,U8 c,U8 g,U8 h,U8 i,U8 j,U8 k,I6 r,Xh u,Xh d,I6 f,I6 x]] w fun e w'=>e=Xl (I6 3)/\zc w w':=by go_enter func116,ntmps116;go_wp2;go_ret;exact⟨rfl,(bR _ _).alloc (nR _) _⟩
theorem rw4(a b c g h i j k r:Int)(u d:Bool)(f x:Int)(w)(_h:¬r<0)(_h2:¬1000<r)(_h3:¬f< -1)(_h4:4<f):
  Xp prog 116 #[Xi #[U8 a,U8 b,U8 c,U8 g,U8 h,U8 i,U8 j,U8 k,I6 r,Xh u,Xh d,I6 f,I6 x]] w fun e w'=>e=Xl (I6 3)/\zc w w':=by go_enter func116,ntmps116;go_wp2;go_ret;exact⟨rfl,(bR _ _).alloc (nR _) _⟩
theorem rw5(a b c g h i j k r:Int)(u d:Bool)(f x:Int)(w)(_h:¬r<0)(_h2:¬1000<r)(_h3:¬f< -1)(_h4:¬4<f)(_h5:x<0):
  Xp prog 116 #[Xi #[U8 a,U8 b,U8 c,U8 g,U8 h,U8 i,U8 j,U8 k,I6 r,Xh u,Xh d,I6 f,I6 x]] w fun e w'=>e=Xl (I6 3)/\zc w w':=by go_enter func116,ntmps116;go_wp2;go_ret;exact⟨rfl,(bR _ _).alloc (nR _) _⟩
theorem rw6(a b c g h i j k r:Int)(u d:Bool)(f x:Int)(w)(_h:¬r<0)(_h2:¬1000<r)(_h3:¬f< -1)(_h4:¬4<f)(_h5:¬x<0)(_h6:11<x):
  Xp prog 116 #[Xi #[U8 a,U8 b,U8 c,U8 g,U8 h,U8 i,U8 j,U8 k,I6 r,Xh u,Xh d,I6 f,I6 x]] w fun e w'=>e=Xl (I6 3)/\zc w w':=by go_enter func116,ntmps116;go_wp2;go_ret;exact⟨rfl,(bR _ _).alloc (nR _) _⟩
theorem rw7(a b c g h i j k r:Int)(u d:Bool)(f x:Int)(w)(_h:¬r<0)(_h2:¬1000<r)(_h3:¬f< -1)(_h4:¬4<f)(_h5:¬x<0)(_h6:¬11<x)(_h7:(r==0)=Xd)(_h8:f<0)(_h9:0<x):
  Xp prog 116 #[Xi #[U8 a,U8 b,U8 c,U8 g,U8 h,U8 i,U8 j,U8 k,I6 r,Xh u,Xh d,I6 f,I6 x]] w fun e w'=>e=Xl (I6 7)/\zc w w':=by go_enter func116,ntmps116;go_wp2;go_ret;exact⟨rfl,(bR _ _).alloc (nR _) _⟩
theorem rw8(a b c g h i j k r:Int)(u d:Bool)(f x:Int)(w)(_h:¬r<0)(_h2:¬1000<r)(_h3:¬f< -1)(_h4:¬4<f)(_h5:¬x<0)(_h6:¬11<x)(_h7:(r==0)=Xd)(_h8:f<0)(_h9:¬0<x):
  Xp prog 116 #[Xi #[U8 a,U8 b,U8 c,U8 g,U8 h,U8 i,U8 j,U8 k,I6 r,Xh u,Xh d,I6 f,I6 x]] w fun e w'=>e=Xl (I6 0)/\zc w w':=by go_enter func116,ntmps116;go_wp2;go_ret;exact⟨rfl,(bR _ _).alloc (nR _) _⟩
theorem rw9(a b c g h i j k r:Int)(u d:Bool)(f x:Int)(w)(_h:¬r<0)(_h2:¬1000<r)(_h3:¬f< -1)(_h4:¬4<f)(_h5:¬x<0)(_h6:¬11<x)(_h7:(r==0)=Xd)(_h8:¬f<0):
  Xp prog 116 #[Xi #[U8 a,U8 b,U8 c,U8 g,U8 h,U8 i,U8 j,U8 k,I6 r,Xh u,Xh d,I6 f,I6 x]] w fun e w'=>e=Xl (I6 0)/\zc w w':=by go_enter func116,ntmps116;go_wp2;go_ret;exact⟨rfl,(bR _ _).alloc (nR _) _⟩
theorem zsA(b c g h i j k l r:Int)(u d:Bool)(f x:Int)(w)(_h:¬r<0)(_h2:¬1000<r)(_h3:¬f< -1)(_h4:¬4<f)(_h5:¬x<0)(_h6:¬11<x)(_h7:(r==0)=Xc)(a:Jj (⟨⟨b,c,g,h,i,j,k,l⟩,r,u,d,f,x⟩:Fr) frF=Xc)(_h8:f<0)(_h9:¬0<x):
  Xp prog 116 #[Xi #[U8 b,U8 c,U8 g,U8 h,U8 i,U8 j,U8 k,U8 l,I6 r,Xh u,Xh d,I6 f,I6 x]] w fun e w'=>e=Xl (I6 0)/\zc w w':=by have m:=fun W=>zh9 b c g h i j k l r u d f x 0 0 0 0 0 0 0 0 0 Xd Xd (-1) 0 W;simp only[show(⟨⟨0,0,0,0,0,0,0,0⟩,0,Xd,Xd,-1,0⟩:Fr)=frF from rfl,a]at m;clear a;go_enter func116,ntmps116;go_wp2;go_ret;exact⟨rfl,(bR _ _).alloc (nR _) _⟩
theorem zsz(b c g h i j k l r:Int)(u d:Bool)(f x:Int)(w)(_h:¬r<0)(_h2:¬1000<r)(_h3:¬f< -1)(_h4:¬4<f)(_h5:¬x<0)(_h6:¬11<x)(_h7:(r==0)=Xc)(a:Jj (⟨⟨b,c,g,h,i,j,k,l⟩,r,u,d,f,x⟩:Fr) frF=Xd)(_h8:(f==-1)=Xd):
  Xp prog 116 #[Xi #[U8 b,U8 c,U8 g,U8 h,U8 i,U8 j,U8 k,U8 l,I6 r,Xh u,Xh d,I6 f,I6 x]] w fun e w'=>e=Xl (I6 7)/\zc w w':=by have m:=fun W=>zh9 b c g h i j k l r u d f x 0 0 0 0 0 0 0 0 0 Xd Xd (-1) 0 W;simp only[show(⟨⟨0,0,0,0,0,0,0,0⟩,0,Xd,Xd,-1,0⟩:Fr)=frF from rfl,a]at m;clear a;go_enter func116,ntmps116;go_wp2;go_ret;exact⟨rfl,(bR _ _).alloc (nR _) _⟩
theorem zsy(b c g h i j k l r:Int)(u d:Bool)(f x:Int)(w)(_h:¬r<0)(_h2:¬1000<r)(_h3:¬f< -1)(_h4:¬4<f)(_h5:¬x<0)(_h6:¬11<x)(_h7:(r==0)=Xc)(a:Jj (⟨⟨b,c,g,h,i,j,k,l⟩,r,u,d,f,x⟩:Fr) frF=Xd)(_h8:(f==-1)=Xc)(_h9:¬0<x):
  Xp prog 116 #[Xi #[U8 b,U8 c,U8 g,U8 h,U8 i,U8 j,U8 k,U8 l,I6 r,Xh u,Xh d,I6 f,I6 x]] w fun e w'=>e=Xl (I6 7)/\zc w w':=by have m:=fun W=>zh9 b c g h i j k l r u d f x 0 0 0 0 0 0 0 0 0 Xd Xd (-1) 0 W;simp only[show(⟨⟨0,0,0,0,0,0,0,0⟩,0,Xd,Xd,-1,0⟩:Fr)=frF from rfl,a]at m;clear a;go_enter func116,ntmps116;go_wp2;go_ret;exact⟨rfl,(bR _ _).alloc (nR _) _⟩
theorem zsx(b c g h i j k l r:Int)(d:Bool)(f x:Int)(w)(_h:¬r<0)(_h2:¬1000<r)(_h3:¬f< -1)(_h4:¬4<f)(_h5:¬x<0)(_h6:¬11<x)(_h7:(r==0)=Xc)(a:Jj (⟨⟨b,c,g,h,i,j,k,l⟩,r,Xc,d,f,x⟩:Fr) frF=Xd)(_h8:(f==-1)=Xc)(_h9:0<x):
  Xp prog 116 #[Xi #[U8 b,U8 c,U8 g,U8 h,U8 i,U8 j,U8 k,U8 l,I6 r,Xh Xc,Xh d,I6 f,I6 x]] w fun e w'=>e=Xl (I6 7)/\zc w w':=by have m:=fun W=>zh9 b c g h i j k l r Xc d f x 0 0 0 0 0 0 0 0 0 Xd Xd (-1) 0 W;simp only[show(⟨⟨0,0,0,0,0,0,0,0⟩,0,Xd,Xd,-1,0⟩:Fr)=frF from rfl,a]at m;clear a;go_enter func116,ntmps116;go_wp2;go_ret;exact⟨rfl,(bR _ _).alloc (nR _) _⟩
theorem zsw(b c d g h i j k r:Int)(f x:Int)(w)(_h:¬r<0)(_h2:¬1000<r)(_h3:¬f< -1)(_h4:¬4<f)(_h5:¬x<0)(_h6:¬11<x)(_h7:(r==0)=Xc)(a:Jj (⟨⟨b,c,d,g,h,i,j,k⟩,r,Xd,Xc,f,x⟩:Fr) frF=Xd)(_h8:(f==-1)=Xc)(_h9:0<x):
  Xp prog 116 #[Xi #[U8 b,U8 c,U8 d,U8 g,U8 h,U8 i,U8 j,U8 k,I6 r,Xh Xd,Xh Xc,I6 f,I6 x]] w fun e w'=>e=Xl (I6 7)/\zc w w':=by have l:=fun W=>zh9 b c d g h i j k r Xd Xc f x 0 0 0 0 0 0 0 0 0 Xd Xd (-1) 0 W;simp only[show(⟨⟨0,0,0,0,0,0,0,0⟩,0,Xd,Xd,-1,0⟩:Fr)=frF from rfl,a]at l;clear a;go_enter func116,ntmps116;go_wp2;go_ret;exact⟨rfl,(bR _ _).alloc (nR _) _⟩
theorem zsv(a b c d g h i j r:Int)(f x:Int)(w)(_h:¬r<0)(_h2:¬1000<r)(_h3:¬f< -1)(_h4:¬4<f)(_h5:¬x<0)(_h6:¬11<x)(_h7:(r==0)=Xc)(k:Jj (⟨⟨a,b,c,d,g,h,i,j⟩,r,Xd,Xd,f,x⟩:Fr) frF=Xd)(_h8:(f==-1)=Xc)(_h9:0<x)(l:zdi (⟨a,b,c,d,g,h,i,j⟩:Pg) pg0=Xd):
  Xp prog 116 #[Xi #[U8 a,U8 b,U8 c,U8 d,U8 g,U8 h,U8 i,U8 j,I6 r,Xh Xd,Xh Xd,I6 f,I6 x]] w fun e w'=>e=Xl (I6 7)/\zc w w':=by have m:=fun W=>zh9 a b c d g h i j r Xd Xd f x 0 0 0 0 0 0 0 0 0 Xd Xd (-1) 0 W;simp only[show(⟨⟨0,0,0,0,0,0,0,0⟩,0,Xd,Xd,-1,0⟩:Fr)=frF from rfl,k]at m;clear k;have k:=fun W=>QL 9998 a b c d g h i j 0 0 0 0 0 0 0 0 W;simp only[show(⟨0,0,0,0,0,0,0,0⟩:Pg)=pg0 from rfl,l]at k;clear l;go_enter func116,ntmps116;go_wp2;go_ret;exact⟨rfl,(bR _ _).alloc (nR _) _⟩
theorem zsu(a b c d g h i j r:Int)(f x:Int)(w)(_h:¬r<0)(_h2:¬1000<r)(_h3:¬f< -1)(_h4:¬4<f)(_h5:¬x<0)(_h6:¬11<x)(_h7:(r==0)=Xc)(k:Jj (⟨⟨a,b,c,d,g,h,i,j⟩,r,Xd,Xd,f,x⟩:Fr) frF=Xd)(_h8:(f==-1)=Xc)(_h9:0<x)(_h10:f<0)(l:zdi (⟨a,b,c,d,g,h,i,j⟩:Pg) pg0=Xc):
  Xp prog 116 #[Xi #[U8 a,U8 b,U8 c,U8 d,U8 g,U8 h,U8 i,U8 j,I6 r,Xh Xd,Xh Xd,I6 f,I6 x]] w fun e w'=>e=Xl (I6 7)/\zc w w':=by have m:=fun W=>zh9 a b c d g h i j r Xd Xd f x 0 0 0 0 0 0 0 0 0 Xd Xd (-1) 0 W;simp only[show(⟨⟨0,0,0,0,0,0,0,0⟩,0,Xd,Xd,-1,0⟩:Fr)=frF from rfl,k]at m;clear k;have k:=fun W=>QL 9998 a b c d g h i j 0 0 0 0 0 0 0 0 W;simp only[show(⟨0,0,0,0,0,0,0,0⟩:Pg)=pg0 from rfl,l]at k;clear l;go_enter func116,ntmps116;go_wp2;go_ret;exact⟨rfl,(bR _ _).alloc (nR _) _⟩
theorem zcC(a w):Xp prog 116 #[Xi (frv a).toArray] w fun e w'=>e=Xl (I6 (frW a))/\zc w w':=by
 obtain⟨⟨m,n,p,q,s,t,u,v⟩,r,A,y,f,x⟩:=a;show Xp prog 116 #[Xi #[U8 m,U8 n,U8 p,U8 q,U8 s,U8 t,U8 u,U8 v,I6 r,Xh A,Xh y,I6 f,I6 x]] w _;by_cases i:r<0;·rw[show frW (⟨⟨m,n,p,q,s,t,u,v⟩,r,A,y,f,x⟩:Fr)=3 from by simp[frW,inB];omega];exact rw1 _ _ _ _ _ _ _ _ _ _ _ _ _ w i
 by_cases k:1000<r;·rw[show frW (⟨⟨m,n,p,q,s,t,u,v⟩,r,A,y,f,x⟩:Fr)=3 from by simp[frW,inB];omega];exact rw2 _ _ _ _ _ _ _ _ _ _ _ _ _ w i k
 have h:inB r 1001=Xc:=by simp[inB];omega
 by_cases B:x<0
 ·have d:inB x 12=Xd:=by simp[inB];omega
  rw[show frW (⟨⟨m,n,p,q,s,t,u,v⟩,r,A,y,f,x⟩:Fr)=3 from by simp[frW,h,d]];by_cases j:f< -1;·exact rw3 _ _ _ _ _ _ _ _ _ _ _ _ _ w i k j
  by_cases l:4<f;·exact rw4 _ _ _ _ _ _ _ _ _ _ _ _ _ w i k j l
  exact rw5 _ _ _ _ _ _ _ _ _ _ _ _ _ w i k j l B
 by_cases C:11<x
 ·have d:inB x 12=Xd:=by simp[inB];omega
  rw[show frW (⟨⟨m,n,p,q,s,t,u,v⟩,r,A,y,f,x⟩:Fr)=3 from by simp[frW,h,d]];by_cases j:f< -1;·exact rw3 _ _ _ _ _ _ _ _ _ _ _ _ _ w i k j
  by_cases l:4<f;·exact rw4 _ _ _ _ _ _ _ _ _ _ _ _ _ w i k j l
  exact rw6 _ _ _ _ _ _ _ _ _ _ _ _ _ w i k j l B C
 have d:inB x 12=Xc:=by simp[inB];omega
 by_cases j:f< -1
 ·have D:(f==-1)=Xd:=by simp;omega
  have z:inB f 5=Xd:=by simp[inB];omega
  rw[show frW (⟨⟨m,n,p,q,s,t,u,v⟩,r,A,y,f,x⟩:Fr)=3 from by simp only[frW,h,d,D,z];rfl];exact rw3 _ _ _ _ _ _ _ _ _ _ _ _ _ w i k j
 by_cases l:4<f
 ·have D:(f==-1)=Xd:=by simp;omega
  have z:inB f 5=Xd:=by simp[inB];omega
  rw[show frW (⟨⟨m,n,p,q,s,t,u,v⟩,r,A,y,f,x⟩:Fr)=3 from by simp only[frW,h,d,D,z];rfl];exact rw4 _ _ _ _ _ _ _ _ _ _ _ _ _ w i k j l
 by_cases H:r=0
 ·have b:(r==0)=Xc:=by simp[H]
  cases g:Jj (⟨⟨m,n,p,q,s,t,u,v⟩,r,A,y,f,x⟩:Fr) frF with
  |true=>
   have c:=zdC g;simp only[frF,Fr.mk.injEq]at c;have D:(f==-1)=Xc:=(by simp[c.2.2.2.2.1]);have G:(x==0)=Xc:=(by simp[c.2.2.2.2.2]);rw[show frW (⟨⟨m,n,p,q,s,t,u,v⟩,r,A,y,f,x⟩:Fr)=0 from by simp only[frW,h,d,D,b,g,G];rfl];exact zsA _ _ _ _ _ _ _ _ _ _ _ _ _ w i k j l B C b g Wm Wm
  |false=>
   by_cases D:f=-1
   ·have c:(f==-1)=Xc:=by simp[D]
    rw[show frW (⟨⟨m,n,p,q,s,t,u,v⟩,r,A,y,f,x⟩:Fr)=7 from by simp only[frW,h,d,c,b,g];rfl];by_cases E:0<x
    ·cases A with
     |true=>exact zsx _ _ _ _ _ _ _ _ _ _ _ _ w i k j l B C b g c E
     |false=>
      cases y with
      |true=>exact zsw _ _ _ _ _ _ _ _ _ _ _ w i k j l B C b g c E
      |false=>
       cases F:zdi (⟨m,n,p,q,s,t,u,v⟩:Pg) pg0 with
       |true=>exact zsu _ _ _ _ _ _ _ _ _ _ _ w i k j l B C b g c E Wm F
       |false=>exact zsv _ _ _ _ _ _ _ _ _ _ _ w i k j l B C b g c E F
    exact zsy _ _ _ _ _ _ _ _ _ _ _ _ _ w i k j l B C b g c E
   have c:(f==-1)=Xd:=(by simp[D]);have z:inB f 5=Xc:=(by simp[inB];omega);rw[show frW (⟨⟨m,n,p,q,s,t,u,v⟩,r,A,y,f,x⟩:Fr)=7 from by simp only[frW,h,d,c,z,b,g];rfl];exact zsz _ _ _ _ _ _ _ _ _ _ _ _ _ w i k j l B C b g c
 have b:(r==0)=Xd:=by simp[H]
 by_cases D:f=-1
 ·have c:(f==-1)=Xc:=by simp[D]
  by_cases E:0<x
  ·have G:(x==0)=Xd:=by simp;omega
   rw[show frW (⟨⟨m,n,p,q,s,t,u,v⟩,r,A,y,f,x⟩:Fr)=7 from by simp only[frW,h,d,c,b,G];rfl];exact rw7 _ _ _ _ _ _ _ _ _ _ _ _ _ w i k j l B C b Wm E
  have G:(x==0)=Xc:=by simp;omega
  rw[show frW (⟨⟨m,n,p,q,s,t,u,v⟩,r,A,y,f,x⟩:Fr)=0 from by simp only[frW,h,d,c,b,G];rfl];exact rw8 _ _ _ _ _ _ _ _ _ _ _ _ _ w i k j l B C b Wm E
 have c:(f==-1)=Xd:=by simp[D]
 have z:inB f 5=Xc:=by simp[inB];omega
 rw[show frW (⟨⟨m,n,p,q,s,t,u,v⟩,r,A,y,f,x⟩:Fr)=0 from by simp only[frW,h,d,c,z,b];rfl];exact rw9 _ _ _ _ _ _ _ _ _ _ _ _ _ w i k j l B C b Wm
theorem zhp(z:Int)(w):
  Xp prog 151 #[I6 z] w fun e w'=>e=Xl (Xh (zbM z))/\zc w w':=by
 by_cases b:z<0
 ·have a:Xo (zbM z=Xc):=dD<|by simp[zbM,b]
  go_enter func151,ntmps151;go_wp2;go_ret;exact⟨Rr a.out,zc.refl _⟩
 by_cases b:1000<z
 ·have a:Xo (zbM z=Xc):=dD<|by simp[zbM,b]
  go_enter func151,ntmps151;go_wp2;go_ret;exact⟨Rr a.out,zc.refl _⟩
 have a:Xo (zbM z=Xd):=dD<|by simp[zbM];omega
 go_enter func151,ntmps151;go_wp2;go_ret;exact⟨Rr a.out,zc.refl _⟩
theorem zpB{p:Int->Bool}(h:L[k]?=Xa z)(a:p z=Xc)(hb:∀(j:Nat)x,j<k->L[j]?=Xa x->p x=Xd):L.findIdx p=k:=by grind[gS.1,List.findIdx_eq,gE]
theorem zpA{p:Int->Bool}(hb:∀(j:Nat)x,L[j]?=Xa x->p x=Xd):L.findIdx p=L.length:=by grind[List.findIdx_eq_length.2,Xu]
theorem zqd{p:Int->Bool}(h:L[k]?=Xa z)(a:p z=Xc):L.any p=Xc:=Ye.2 ⟨z,mG h,a⟩
theorem zqc{p:Int->Bool}(hb:∀(j:Nat)x,L[j]?=Xa x->p x=Xd):L.any p=Xd:=Yu.2 fun x a=>by grind[Xu]
theorem zh3(v)(fs:List Int)(w)(c:zq slE w v fs):
  Xp prog 175 #[v,.func (.func 151) #[] #[]] w fun e w'=>(∃z:Int,e=Xl (I6 z)/\decide (0<=z)=fs.any zbM)/\zc w w':=by
 have b:=c.short;obtain⟨a,a,rfl,a⟩:=c.sls;have f:=dD a;have d:=enters_of func151 Kr rfl;clear a c;obtain⟨n,m⟩:=kA fs.length;rw[m.out]at b⊢;go_enter func175,ntmps175;go_wp2;go_loopg[5,8] n (fun a _ c wr=>∃b:Nat,b<=n/\n-b<=a/\c=I6 b/\Xo (zc w wr)/\Xo (∀j q,j<b->fs[j]?=Xa q->zbM q=Xd))
 exact⟨0,nZ _,Wm,rfl,zc.refl w,fun j q h=>absurd h (nL _)⟩;obtain⟨b,a,a,rfl,k,A⟩:=hrel;by_cases d:b<n
 ·have i:=kC d
  obtain⟨q,p⟩:∃q,Xo (fs[b]?=Xa q):=⟨_,gE (Rx m.out d)⟩;obtain⟨a,rfl,c⟩:=f.out b q p.out;have a:=c wr k.out;have a:=zhp q wr;clear c;cases g:zbM q with
  |true=>
   rw[g]at a;have l:Xo (decide (0<=(b:Int))=fs.any zbM):=dD (by rw[zqd p.out g];simp);clear g;go_wp2_with(go_at_call 151;refine a.mono ?_;rintro e w'⟨rfl,c⟩)
   go_ret;exact⟨⟨_,rfl,l⟩,k.trans c⟩
  |false=>
   rw[g]at a;have r:Xo (∀(j:Nat)q,j<b+1->fs[j]?=Xa q->zbM q=Xd):=dD<|fun j s h f=>by
    by_cases e:j=b;·subst e;rw[p.out]at f;cases f;exact g
    exact A j s Wm f
   clear g;go_wp2_with(go_at_call 151;refine a.mono ?_;rintro e w'⟨rfl,c⟩)
   go_roundg (n-(b+1));exact⟨b+1,Wm,Wm,Gn,k.trans c,r⟩;omega
 have i:=kD d;have:b=n:=Wm;subst this;have l:Xo (decide (0<=(-1:Int))=fs.any zbM):=dD<|by
  rw[zqc (fun j q h=>A.out j q (by rw[<-m.out];exact(gS.1 h).1) h)];rfl
 go_wp2;go_ret;exact⟨⟨_,rfl,l⟩,k⟩
theorem zml(v)(fs:List Int)(w)(b:zq slE w v fs):
  Xp prog 150 #[v,.func (.func 151) #[] #[]] w fun e w'=>e=Xl (Xh (fs.any zbM))/\zc w w':=by have a:=zh3 v fs w b;obtain⟨c,c,rfl,_⟩:=b.sls;clear b;generalize fs.any zbM=b at a⊢;go_enter func150,ntmps150;go_wp2_with fail;refine a.mono ?_;rintro e b⟨⟨z,rfl,c⟩,b⟩;have d:=dD b;have f:=dD c;clear b c a;go_wp2;go_ret;exact⟨Rr f.out,d⟩
theorem zcw(a)(c:Nat)(s:List Int)(w)(g:zq slE w (O a s.length c) s):
  Xp prog 126 #[O a s.length c] w fun e w'=>e=Xl (I6 (slW s))/\zc w w':=by
 have d:=zml _ s w g;have f:Xo (slW s=if 60<s.length then 4 else if s.any zbM then 3 else 0):=rfl;have b:=g.short;obtain⟨n,h⟩:=kA s.length;rw[h.out]at d f b⊢;clear g;generalize s.any zbM=i at d f;by_cases b:60<n
 ·have h:=kC b
  have g:Xo (slW s=4):=dD (by rw[f.out,kE b]);clear d;go_enter func126,ntmps126;go_wp2;go_ret;exact⟨Rr g.out,zc.refl _⟩
 have h:=kD b;rw[kF b]at f;cases i with
 |true=>
  have g:=dD f.out;go_enter func126,ntmps126;go_wp2_with fail;refine d.mono ?_;rintro e i⟨rfl,b⟩;have h:=dD b;clear b d;go_wp2;go_ret;exact⟨Rr g.out,h⟩
 |false=>
  have g:=dD f.out;go_enter func126,ntmps126;go_wp2_with fail;refine d.mono ?_;rintro e i⟨rfl,b⟩;have h:=dD b;clear b d;go_wp2;go_ret;exact⟨Rr g.out,h⟩
def jC(n:Nat)(g:List Int):List Xq:=(Xv n).map fun(i:Nat)=>Xh (g.contains (i:Int))
theorem zb7(g:List Int)(hi:b<k):(jC k g)[b]?=Xa (Xh (g.contains (b:Int))):=by unfold jC;rw[Xy,Xw hi];rfl
theorem zhR(g)(hi:b<k):(jC k g).set b (Xh Xc)=jC k ((b:Int)::g):=by apply Yh;grind[sF,jC,zb7,sN,Yo,gN]
theorem zeh:jC 80 []=Xr 80 (Xh Xd):=by unfold jC;simp[List.map_const']
theorem zpp(b a:Int)(g)(c pg:Nat)(w:Xn)(d:Box w c [I6 a])(h:Box w pg (jC 80 g))(f:a<=80):
  Xp prog 177 #[I6 b,Xj (Xa ⟨c,0,Xb⟩),Xj (Xa ⟨pg,0,Xb⟩)] w fun e w'=>e=Xl (I6 (J9 a g b))/\(J9 a g b=0->Box w' pg (jC 80 (zam g b)))/\w.grownBy w' (Xa pg)/\w'.heap.size=w.heap.size:=by
 have c:=d.c 0 rfl;have c:=dD h;rcases J8 a g b with⟨c,d,f⟩|⟨c,d,f⟩|⟨i,c,d,f,s⟩|⟨i,c,d,f,s,u⟩
 ·rw[d];have j:Xo (Box w pg (jC 80 (zam g b))):=dD<|Rx f h;subst c;generalize zam g (-1)=r at j⊢;go_enter func177,ntmps177;go_wp2;go_ret;exact⟨rfl,fun _=>j.out,World.grownBy.rfl' _ _,rfl⟩
 ·rw[f];have k:=zdE d w;have l:(b==-1)=Xd:=Si c;generalize zam g b=r;go_enter func177,ntmps177;go_wp2_with(go_at_call 155;refine k.mono ?_;rintro e w'⟨rfl,rfl⟩)
  go_ret;exact⟨rfl,fun t=>Wm,World.grownBy.rfl' _ _,rfl⟩
 ·rw[s];subst c;have p:i<80:=Wm;have k:=Jb (m:=(i:Int)) (n:=a) Wm d w;have l:((i:Int)==-1)=Xd:=Sm;have q:=h.c i (zb7 g p);rw[f]at q;generalize zam g (i:Int)=r;go_enter func177,ntmps177;go_wp2_with(go_at_call 155;refine k.mono ?_;rintro e w'⟨rfl,rfl⟩)
  go_ret;exact⟨rfl,fun t=>Wm,World.grownBy.rfl' _ _,rfl⟩
 rw[s];subst c;have p:i<80:=Wm;have k:=Jb (m:=(i:Int)) (n:=a) Wm d w;have l:((i:Int)==-1)=Xd:=Sm;have q:=h.c i (zb7 g p);have a:=h.f;rw[f]at q;have j:Xo (Box (w.setCell ⟨pg,i,Xb⟩ (Xh Xc)) pg (jC 80 (zam g (i:Int)))):=dD<|by
  rw[u,<-zhR g p];exact h.set i _
 generalize zam g (i:Int)=r at j;go_enter func177,ntmps177;go_wp2_with(go_at_call 155;refine k.mono ?_;rintro e w'⟨rfl,rfl⟩)
 go_ret;exact⟨rfl,fun _=>j.out,⟨rfl,rfl,rfl,by simp[World.setCell],fun k a a=>Below.heap_setCell _ _ _ _ (fun e=>a (by rw[e]))⟩,by simp[World.setCell]⟩
def zg9:Array Xq:=(Xr 80 (Xh Xd)).toArray
theorem ziP:(Tryz.prog.info? 198).map (fun i=>i.zero)=Xa (Xa (Xi zg9)):=by kernel_rfl
theorem zcA(w):(zeroValue 198).run prog w=.ok (Xi zg9) w:=by
 have h:=ziP;cases a:Tryz.prog.info? 198 with
 |none=>simp[a]at h
 |some i=>
  simp[a]at h;simp[zeroValue,typeInfo,a,h]
theorem znu(a:Int)(w:Xn):
  Xp prog 156 #[I6 a] w fun e w'=>e=Xl (.func (.func 177) #[] #[Xj (Xa ⟨w.heap.size,0,Xb⟩),Xj (Xa ⟨w.heap.size+1,0,Xb⟩)])/\Box w' w.heap.size [I6 a]/\Box w' (w.heap.size+1) (jC 80 [])/\zc w w'/\w'.heap.size=w.heap.size+2:=by have a:∀(b:Fn)(first a:Array Xq)(w:Xn),(Instr.makeFunc b first a).run prog w=.ok (.func b first a) w:=fun _ _ _ _=>rfl;have a:=zcA;rw[zeh];go_enter func156,ntmps156;go_wp2;go_ret;exact⟨rfl,(Box.aE w _ _ rfl).alloc _,Box.aE _ (Xr 80 (Xh Xd)) _ Sm,(za _ _).trans (za _ _),Sm⟩
theorem zg1(g l)(b:Int):blG g (l++[b])=zam (blG g l) b:=by unfold blG;rw[Gf];rfl
theorem zgb(f:Fl)(R)(S:Nat)(a:Int)(g)(E pg:Nat)(w)(ab:Box w E [I6 a])(C:Box w pg (jC 80 g))(N:E≠pg)(aq:a<=80)(a2:zj2 blE pg (pg+1) w (O R f.bl.length S) f.bl):
  Xp prog 157 #[Xi #[I6 f.size,O R f.bl.length S],.func (.func 177) #[] #[Xj (Xa ⟨E,0,Xb⟩),Xj (Xa ⟨pg,0,Xb⟩)]] w fun e w'=>e=Xl (I6 (flW a g f))/\(flW a g f=0->Box w' pg (jC 80 (blG g f.bl)))/\Out pg (pg+1) w w':=by
 obtain⟨h,b⟩:=f;have k:Xo (flW a g ⟨h,b⟩=if 0<=h/\h<=96 then(if(b.length:Int)=zaS h then blW a g b else 2)else 3):=rfl;have ak:=dD ab;have al:=dD C;have V:=dD a2;have G:=dD N;have i:=(a2.now).short;clear ab C a2 N;simp only at i;show Xp _ _ #[Xi #[I6 h,O R b.length S],_] _ _;generalize flW a g ⟨h,b⟩=aa at k⊢;simp only;by_cases v:0<=h/\h<=96
 ·rw[kE v]at k;obtain⟨r,x⟩:=v;have K:=fun W=>Jb (m:=h) (n:=97) r Wm W;have p:=fun W=>zn6 h W r x;by_cases B:(b.length:Int)=zaS h
  ·rw[kE B]at k;rw[<-B]at p;clear r x B;obtain⟨j,q⟩:=kA b.length;rw[q.out]at i p V⊢;obtain⟨am,y⟩:=kB (w.alloc (Xk #[I6 h,O R j S] 84));have H:=dD y;have F:=gA y;clear y;have b1:=enters_of func177 Kr rfl;have P:((j:Int)!=(j:Int))=Xd:=Sm;go_enter func157,ntmps157;go_wp2_with(go_at_call 155;refine(K _).mono ?_;rintro e w'⟨rfl,rfl⟩)
   go_quiet(first|(go_at_call 178;exact Calls.quiet_of_same (p _)))
   rw[H.out];obtain⟨Y,l⟩:=kB (am.drewN nq);have a9:Xo (Box Y w.heap.size [I6 h,O R j S]):=dD (by rw[<-l,<-H.out];exact(Box.aE w _ _ rfl).aA (show Below _ _ _ from bD (bR _ _) _));have a8:Xo (Out pg (pg+1) w Y):=dD (by rw[<-l];exact(Out.aA F).trans (Out.aA (show Below _ _ _ from bD (bR _ _) _)));have ae:Xo (Box Y E [I6 a]):=dD<|ak.out.out a8 (Hm G.out);have ag:Xo (Box Y pg (jC 80 g)):=dD (by rw[<-l];exact(al.aA F).aA (show Below _ _ _ from bD (bR _ _) _));rw[l];clear l p K;obtain⟨au,av⟩:=a9.k2;go_wp2;go_loopg[6,7,22] j (fun an _ _ a4 wr=>∃d:Nat,d<=j/\j-d<=an/\a4=I6 d/\Xo (Out pg (pg+1) w wr)/\Xo (Box wr pg (jC 80 (blG g (b.take d))))/\Xo (blW a (blG g (b.take d)) (b.drop d)=blW a g b)/\Xo (Box wr E [I6 a]))
   exact⟨0,nZ _,Wm,rfl,a8,ag,rfl,ae⟩;obtain⟨d,ap,ao,rfl,X,a7,a0,a6⟩:=hrel;clear au av;by_cases z:d<j
   ·have M:=kC z
    obtain⟨A,U⟩:∃A,Xo (b[d]?=Xa A):=⟨_,gE (Rx q.out z)⟩;obtain⟨aw,ay,L,s⟩:=(V wr X).aX;rw[q.out]at L;cases L;obtain⟨ax,rfl,ac⟩:=s d A U.out;have b0:=ac wr (zc.refl _);have c:=zpp A a (blG g (b.take d)) E pg wr a6 a7 aq;have t:Xo (blW a (blG g (b.take d)) (b.drop d)=if J9 a (blG g (b.take d)) A=0 then blW a (blG g (b.take (d+1))) (b.drop (d+1))else J9 a (blG g (b.take d)) A):=dD<|by
     rw[Zf U.out,jU U.out,zg1];rfl
    rw[<-zg1,<-jU U.out]at c;clear ac s;generalize J9 a (blG g (b.take d)) A=a5 at c t;by_cases Q:a5=0
    ·have aj:Xo (blW a (blG g (b.take (d+1))) (b.drop (d+1))=blW a g b):=dD<|by rw[<-a0.out,t.out,kE Q]
     subst Q;go_wp2_with fail;refine c.mono ?_;rintro e Z⟨rfl,I,D,a3⟩;have ah:Xo (Box Z pg (jC 80 (blG g (b.take (d+1))))):=I (by first|exact rfl|exact trivial);have a1:Xo (Out pg (pg+1) w Z):=X.trans (Out.grown D (fun g C=>by cases C;omega));have af:=dD<|a6.grown D G.out;clear I D a3 c;go_wp2;go_roundg (j-(d+1));exact⟨d+1,Wm,Wm,Gn,a1,ah,aj,af⟩;omega
    have ar:(a5 !=0)=Xc:=Si Q;have T:Xo (aa=a5):=dD<|by
     have v:=a0.out;rw[t.out,kF Q]at v;rw[k.out,<-v]
    go_wp2_with fail;refine c.mono ?_;rintro e Z⟨rfl,I,D,a3⟩;have a1:Xo (Out pg (pg+1) w Z):=X.trans (Out.grown D (fun g C=>by cases C;omega));clear I D a3 c;go_wp2;go_ret;exact⟨Rr T.out,fun u=>absurd (T.symm.trans u) Q,a1⟩
   have M:=kD z;have:d=j:=Wm;subst this;have T:Xo (aa=0):=dD<|by
    rw[k.out,<-a0.out,Yq (by rw[q.out];exact nR _)];rfl
   have ai:Xo (Box wr pg (jC 80 (blG g b))):=dD<|by
    have:=a7.out;rw[Uc (by rw[q.out];exact nR _)]at this;exact this
   go_wp2;go_ret;exact⟨Rr T.out,fun _=>ai.out,X⟩
  rw[kF B]at k;have P:((b.length:Int)!=zaS h)=Xc:=Si B;clear B r x;generalize zaS h=az at*;obtain⟨j,q⟩:=kA b.length;rw[q.out]at i P V⊢;go_enter func157,ntmps157;go_wp2_with(go_at_call 155;refine(K _).mono ?_;rintro e w'⟨rfl,rfl⟩)
  go_quiet(first|(go_at_call 178;exact Calls.quiet_of_same (p _)))
  go_wp2;go_ret;exact⟨Rr k.out,fun u=>(by rw[k.out]at u;cases u),(Out.aA (za _ _)).trans (Out.aA (show Below _ _ _ from bD (bR _ _) _))⟩
 rw[kF v]at k;have K:=fun W=>zdE (m:=h) (n:=97) Wm W;clear v;obtain⟨j,q⟩:=kA b.length;rw[q.out]at i V⊢;go_enter func157,ntmps157;go_wp2_with(go_at_call 155;refine(K _).mono ?_;rintro e w'⟨rfl,rfl⟩)
 go_ret;exact⟨Rr k.out,fun u=>(by rw[k.out]at u;cases u),Out.aA (za _ _)⟩
def zeB(g:List Int)(fs:List Fl):List Int:=fs.foldl (fun g f=>blG g f.bl) g
theorem zcm(g fs)(f:Fl):zeB g (fs++[f])=blG (zeB g fs) f.bl:=by unfold zeB;rw[Gf];rfl
theorem zaY{q:Fl}(h:M[k]?=Xa q):M.take (k+1)=M.take k++[q]:=by rw[Oc,h];rfl
theorem zdI(v fs)(a:Int)(w)(a7:qH w v fs):
  Xp prog 128 #[Xi #[v,I6 a]] w fun e w'=>e=Xl (I6 (stW fs a))/\zc w w':=by
 obtain⟨am,an,rfl,D,j⟩:=a7.rows;have aj:=dD j;have h:Xo (stW fs a=if fs.length<=5/\0<=a/\a<=80 then zfl a [] fs else 4):=rfl;clear j a7;generalize stW fs a=a3 at h⊢;obtain⟨f,T⟩:=kA fs.length;rw[T.out]at D h⊢;obtain⟨U,d⟩:=kB (w.alloc (Xk #[O am f an,I6 a] 37));have l:=gA d;have al:=xA d;have z:=sA d;have s:Xo (_=U):=d;clear d;by_cases a5:f<=5
 ·have C:¬(5:Int)<(f:Int):=Wm
  have ap:decide ((5:Int)<(f:Int))=Xd:=decide_eq_false C;by_cases x:0<=a/\a<=80
  ·rw[kE ⟨a5,x⟩]at h;have M:=fun W=>Jb (m:=a) (n:=81) x.1 Wm W;have E:a<=80:=x.2;clear x;go_enter func128,ntmps128;go_wp2_with(go_at_call 155;refine(M _).mono ?_;rintro e w'⟨rfl,rfl⟩)
   rw[s.out];refine(znu a U).mono ?_;rintro e ak⟨rfl,k,g,X,a8⟩;obtain⟨i,G⟩:=kB U.heap.size;rw[G]at k g a8 z⊢;have p:Xo (i=w.heap.size+1):=z;have ab:Xo (Box ak i [I6 a]):=k;have af:=dD g;have R:=dD (l.trans X);have a2:=dD (al.aA X);clear G k g X a8 M;obtain⟨aw,ax⟩:=a2.k2;go_wp2;go_loopg[5,6,23] f (fun ao _ _ Y wr=>∃c:Nat,c<=f/\f-c<=ao/\Y=I6 c/\Xo (zc w wr)/\Xo (Box wr i [I6 a])/\Xo (Box wr (i+1) (jC 80 (zeB [] (fs.take c))))/\Xo (zfl a (zeB [] (fs.take c)) (fs.drop c)=zfl a [] fs))
   exact⟨0,nZ _,Wm,rfl,R,ab,af,rfl⟩;obtain⟨c,ar,aq,rfl,K,a0,ah,P⟩:=hrel;clear aw ax;by_cases u:c<f
   ·have F:=kC u
    obtain⟨q,L⟩:∃q,Xo (fs[c]?=Xa q):=⟨_,gE (Rx T.out u)⟩;obtain⟨ay,rfl,a9,aa,H,a6⟩:=aj.out c q L.out;obtain⟨az,b0⟩:=a6 wr K.out;obtain⟨a1,t⟩:=kB (wr.alloc (Xk #[I6 q.size,O a9 q.bl.length aa] 84));have y:=gA t;have b:=zgb q a9 aa a (zeB [] (fs.take c)) i (i+1) a1 (a0.aA y) (ah.aA y) Wm E (H.stays (i+2) (Hm p.out) (K.trans y));have ac:=dD (a0.aA y);have I:=dD (K.trans y);have A:Xo (_=a1):=t;have r:Xo (zfl a (zeB [] (fs.take c)) (fs.drop c)=if flW a (zeB [] (fs.take c)) q=0 then zfl a (zeB [] (fs.take (c+1))) (fs.drop (c+1))else flW a (zeB [] (fs.take c)) q):=show _=_ by
     rw[Zf L.out,zaY L.out,zcm];rfl
    rw[<-zcm,<-zaY L.out]at b;clear a6 t H;generalize flW a (zeB [] (fs.take c)) q=Z at b r;have au:=q.bl.length;by_cases N:Z=0
    ·have ai:Xo (zfl a (zeB [] (fs.take (c+1))) (fs.drop (c+1))=zfl a [] fs):=dD<|by rw[<-P.out,r.out,kE N]
     subst N;go_wp2_with fail;rw[A.out];refine b.mono ?_;rintro e B⟨rfl,k,g⟩;have ag:Xo (Box B (i+1) (jC 80 (zeB [] (fs.take (c+1))))):=k (by first|exact rfl|exact trivial);have Q:Xo (zc w B):=dD<|Out.bQ I (Hm p.out) g;have ae:Xo (Box B i [I6 a]):=ac.out.out g Wm;clear k g b;go_wp2;go_roundg (f-(c+1));exact⟨c+1,Wm,Wm,Gn,Q,ae,ag,ai⟩;omega
    have av:(Z !=0)=Xc:=Si N;have S:Xo (a3=Z):=dD<|by
     have a4:=P.out;rw[r.out,kF N]at a4;rw[h.out,<-a4]
    go_wp2_with fail;rw[A.out];refine b.mono ?_;rintro e B⟨rfl,k,g⟩;have Q:Xo (zc w B):=dD<|Out.bQ I (Hm p.out) g;clear k g b;go_wp2;go_ret;exact⟨Rr S.out,Q⟩
   have F:=kD u;have:c=f:=Wm;subst this;have S:Xo (a3=0):=dD<|by
    rw[h.out,<-P.out,Yq (by rw[T.out];exact nR _)];rfl
   go_wp2;go_ret;exact⟨Rr S.out,K⟩
  rw[kF (fun V=>x V.2)]at h;have M:=fun W=>zdE (m:=a) (n:=81) Wm W;clear x;go_enter func128,ntmps128;go_wp2_with(go_at_call 155;refine(M _).mono ?_;rintro e w'⟨rfl,rfl⟩)
  rw[s.out];go_ret;exact⟨Rr h.out,l⟩
 rw[kF (fun V=>a5 V.1)]at h;have C:(5:Int)<(f:Int):=Wm;go_enter func128,ntmps128;go_wp2;rw[s.out];go_ret;exact⟨Rr h.out,l⟩
theorem zjp(f)(a:Ar)(n:Nat)(w)(b:0<=a.base/\a.base<=100)(c:0<=a.fr/\a.fr<=100)(d:n<=64):
  Xp prog 159 #[Xi (frv f).toArray,Xi #[I6 a.fr,I6 a.tz,Xh a.rd,Xh a.wr,Xh a.sh,I6 a.file,I6 a.base],I6 (n:Int)] w fun e w'=>e=Xl (Xh (Jq f a n))/\zc w w':=by
 have z:Xo (∀W,Xp prog 107 #[Xi #[I6 a.fr,I6 a.tz,Xh a.rd,Xh a.wr,Xh a.sh,I6 a.file,I6 a.base],I6 (n:Int)] W fun e w'=>e=Xl (I6 (a.base+n-a.fr))/\zc W w'):=dD<|fun W=>J7 a n W b c Wm;clear b c d;obtain⟨⟨b,d,g,h,i,l,m,p⟩,r,u,q,j,y⟩:=f;obtain⟨fr,E,C,wr,D,file,base⟩:=a;unfold frv Jq;simp only;by_cases v:j<0
 ·rw[kE v]
  go_enter func159,ntmps159;go_wp2;go_ret;exact⟨rfl,(za _ _).trans (za _ _)⟩
 rw[kF v];obtain⟨k,c⟩:=kB ((w.alloc (Xk #[U8 b,U8 d,U8 g,U8 h,U8 i,U8 l,U8 m,U8 p,I6 r,Xh u,Xh q,I6 j,I6 y] 53)).alloc (Xk #[I6 fr,I6 E,Xh C,Xh wr,Xh D,I6 file,I6 base] 77));have h:=gD2 c;have u:=x2a c;have b:=x2b c;have i:=dD c;clear c;by_cases x:j=file
 ·have g:(j==file)=Xc:=by simp[x]
  rw[g,Ut];clear x;obtain⟨c,B⟩:=kA (y==base+(n:Int)-fr);rw[B.out];go_enter func159,ntmps159;go_upto_region 3 with fail;rw[i.out];have c:=u.gw 11 rfl;have d:=u.gw 12 rfl;have l:=b.gw 0 rfl;have m:=b.gw 1 rfl;have p:=b.gw 2 rfl;have q:=b.gw 3 rfl;have r:=b.gw 4 rfl;have s:=b.gw 5 rfl;have t:=b.gw 6 rfl;have A:Nonempty (zj k):=⟨⟨_,zc.refl _⟩⟩;refine jK [(10,⟨fun k=>k=I6 (base+(n:Int)-fr),fun k w'=>True⟩)] zY Kr (Sa ⟨_,rfl⟩) ?hp ?_;case hp=>
   intro y k;simp only[mC,nM,or_false]at k;subst k;exact fun _ _ _ _ v=>v
  iterate 10 refine zf ?_
  refine zI rfl rfl (fun w' k v=>?_) (fun k y=>?_);·refine zO.call [Xi #[I6 fr,I6 E,Xh C,Xh wr,Xh D,I6 file,I6 base],I6 (n:Int)] rfl func107 rfl rfl rfl ?_;refine(z w').mono ?_;rintro e k⟨rfl,k⟩;exact⟨_,rfl,k,rfl,trivial⟩
  subst y;refine Uq ?_;iterate 3 refine zf ?_
  refine z5 fun k k v=>?_;have y:=dD (h.trans k);clear k v c d l m p q r s t A;go_wp2;go_ret;exact⟨by rw[<-B.out];rfl,y⟩
 have g:(j==file)=Xd:=by simp[x]
 rw[g,Um];clear x;go_enter func159,ntmps159;go_upto_region 3 with fail;rw[i.out];have c:=u.c 11 rfl;have d:=u.c 12 rfl;have l:=b.c 0 rfl;have m:=b.c 1 rfl;have p:=b.c 2 rfl;have q:=b.c 3 rfl;have r:=b.c 4 rfl;have s:=b.c 5 rfl;have t:=b.c 6 rfl;go_quiet(fail);go_wp2;go_ret;exact⟨rfl,h.trans (show Below _ _ _ from bD (bR _ _) _)⟩
def zpo(fl:List Fl)(file idx:Int):Bool:=bel file fl.length&&bel idx ((fl.getD file.toNat ⟨0,[]⟩).bl.length:Nat)
theorem zbF(v fl)(b file idx:Int)(w)(d:qH w v fl):
  Xp prog 108 #[Xi #[v,I6 b],I6 file,I6 idx] w fun e w'=>e=Xl (Xh (zpo fl file idx))/\zc w w':=by
 obtain⟨a,i,rfl,c,a⟩:=d.rows;have g:=dD a;clear a d;obtain⟨n,d⟩:=kA fl.length;unfold zpo;rw[d.out]at c⊢;have a:=zba file n;cases h:bel file n with
 |false=>
  rw[h]at a;rw[Um];go_enter func108,ntmps108;go_wp2_with(go_at_call 66;refine(a _).mono ?_;rintro e w'⟨rfl,rfl⟩)
  go_ret;exact⟨rfl,za _ _⟩
 |true=>
  rw[h]at a;rw[Ut];obtain⟨c,c⟩:=Jc.1 h;obtain⟨k,rfl⟩:∃k:Nat,file=(k:Int):=⟨file.toNat,Wm⟩;obtain⟨f,c⟩:∃f,Xo (fl[k]?=Xa f):=⟨_,gE (by rw[d.out];omega)⟩;have d:(fl.getD ((k:Nat):Int).toNat ⟨0,[]⟩)=f:=by rw[tN,gD,c.out];rfl
  rw[d];clear d;obtain⟨h,rfl,d,d,_,d⟩:=g.out k f c.out;obtain⟨c,c⟩:=d (w.alloc (Xk #[O (Xa h) n i,I6 b] 37)) (za _ _);obtain⟨q,b⟩:=kA f.bl.length;rw[b.out]at c⊢;have b:=zba idx q;clear d;go_enter func108,ntmps108;go_wp2_with(go_at_call 66;first|(refine(a _).mono ?_;clear a;rintro e w'⟨rfl,rfl⟩)|(refine(b _).mono ?_;rintro e w'⟨rfl,rfl⟩))
  go_ret;exact⟨rfl,za _ _⟩
end
end Go.Proofs.YtkfjajbalegoeaaGreat
