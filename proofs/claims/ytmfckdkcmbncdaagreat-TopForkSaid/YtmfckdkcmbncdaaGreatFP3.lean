import Derived.Test.YtmfckdkcmbncdaaGreatFP2
import Derived.Laws.CopyRow
import Derived.Laws.CopyOwn
import Derived.Laws.MakeOwn
import Derived.RangeFuncNested
import Derived.RangeFuncBound
import Derived.RangeFuncCalls
import Derived.RangeFuncLeaves
import Derived.Shelf.Abstract
import Derived.Shelf.RegionOpen
import Derived.WalkKit
import Derived.OwnWalkIn
import Derived.TacticsInMore
import Derived.LoopNIn
import Derived.LoopIn
import Derived.ChangeKeysEq
namespace Go.Proofs.YtmfckdkcmbncdaaGreat
open Go.Value renaming slice→O,int→Xe,bool→Xh,agg→Xi,pointer→Xj,tuple→Xm
open Go.IntKind renaming i64→Xf,u8→Xg
open Go.Obj renaming cells→Xk
open Go.Ending renaming returned→Xl
open Go renaming World→Xn,Calls→Xp,Value→Xq
open Go.RowKit renaming Hid→Xo
open Option renaming some→Xa,none→Xb
open Bool renaming true→Xc,false→Xd
open List renaming replicate→Xr
open Go.Sem renaming run_bind→Xs,run_pure→Xw
open _root_.List renaming length_cons→Xt,getElem?_mapIdx→Xu,eq_of_mem_replicate→Xv,length_set→Xx,mem_map→Xy,mem_or_eq_of_mem_set→Xz,ext_getElem?→Ya,cons_append→Yb,nil_append→Yc,mem_append→Yd,mem_of_find?_eq_some→Ye,getElem?_map→Yf,size_toArray→Yg,length→Yh,map_toArray→Yj,length_take→Yk,take_of_length_le→Yl,map_nil→Ym,length_nil→Yn,map_append→Yo,length_singleton→Yp,append_toArray→Ys,find?_eq_none→Yv,append_assoc→Yy,find?_append→Yz,push_toArray→Oa
open Go.Region renaming wanted→Yi
open _root_.Array renaming replicate_succ→Yq,replicate_zero→Yr,toList_modify→Yt,forIn_toList→Yw,toList_push→Ob
open _root_.Nat renaming lt_of_lt_of_le→Yu
open Go.Addr renaming add_lit→Yx
set_option maxRecDepth 100000
set_option maxHeartbeats 4000000
variable{B B0 B1 b base' cl g id j:Nat} {L:List Oper} {Q:Exit->Act->Xn->Prop} {T:List (Nat->En)} {W w':Xn} {m m':Ma} {o:Oper} {ops:Array Oper} {t:TypeId} {us:List Xq} {z:Int}
open Go.Proofs.Tryz
section
open Go.RowKit
def atS (s:List Int) (k:Int):Int:=if 0<=k then s.getD k.toNat 0 else 0
def jx (s:List Int) (k m:Int):Int:=if slW s=0 then(if atS s k=0 then 5 else if 0<=atS s k+m/\atS s k+m<=1000 then 0 else 3)else slW s
def ZI (s:List Int) (k m:Int):List Int:=if jx s k m=0 then s.set k.toNat (atS s k+m)else []
theorem zmb {s:List Int} (h:slW s=0) {k:Nat} {q:Int} (c:s[k]? =Xa q):0<=q/\q<=1000:=by
 have a:s.any zdU=Xd:=by
  cases b:s.any zdU with
  | false=>rfl
  | true=>
   unfold slW at h;rw[b]at h
   split at h
   ·cases h
   cases h
 have b:=List.any_eq_false.1 a q (mG c)
 simp[zdU]at b
 omega
theorem zit (s:List Int) (k m:Int):
  (slW s≠0/\jx s k m=slW s/\ZI s k m=[])\/
  (slW s=0/\(k<0\/(s.length:Int)<=k)/\jx s k m=5/\ZI s k m=[])\/
  (slW s=0/\∃i:Nat,k=(i:Int)/\s[i]? =Xa 0/\jx s k m=5/\ZI s k m=[])\/
  (slW s=0/\∃(i:Nat) (q:Int),k=(i:Int)/\s[i]? =Xa q/\q≠0/\0<=q/\q<=1000/\¬(0<=q+m/\q+m<=1000)/\jx s k m=3/\ZI s k m=[])\/
  (slW s=0/\∃(i:Nat) (q:Int),k=(i:Int)/\s[i]? =Xa q/\q≠0/\0<=q/\q<=1000/\(0<=q+m/\q+m<=1000)/\jx s k m=0/\ZI s k m=s.set i (q+m)):=by
 have g:∀z,jx s k m=z->z≠0->ZI s k m=[]:=fun z h a=>kF (by rw[h];exact a)
 by_cases b:slW s=0
 ·by_cases c:k<0\/(s.length:Int)<=k
  ·have a:atS s k=0:=by
    unfold atS
    split
    ·rw[gD,gN (by omega)]
     rfl
    rfl
   have h:jx s k m=5:=by unfold jx;rw[kE b,kE a]
   exact .inr (.inl ⟨b,c,h,g _ h (by decide)⟩)
  obtain⟨i,rfl⟩:∃i:Nat,k=(i:Int):=⟨k.toNat,by omega⟩
  have c:i<s.length:=by omega
  obtain⟨q,d⟩:∃q,s[i]? =Xa q:=⟨_,gE c⟩;have a:atS s (i:Int)=q:=by
   unfold atS;rw[kE (by omega),gD,tN,d]
   rfl
  by_cases c:q=0
  ·subst c;have h:jx s i m=5:=by unfold jx;rw[kE b,kE a]
   exact .inr (.inr (.inl ⟨b,i,rfl,d,h,g _ h (by decide)⟩))
  have f:=zmb b d
  by_cases e:0<=q+m/\q+m<=1000
  ·have h:jx s i m=0:=by unfold jx;rw[kE b,a,kF c,kE e]
   exact .inr (.inr (.inr (.inr ⟨b,i,q,rfl,d,c,f.1,f.2,e,h,by unfold ZI;rw[kE h,a,tN]⟩)))
  have h:jx s i m=3:=by unfold jx;rw[kE b,a,kF c,kF e]
  exact .inr (.inr (.inr (.inl ⟨b,i,q,rfl,d,c,f.1,f.2,e,h,g _ h (by decide)⟩)))
 have h:jx s k m=slW s:=by unfold jx;rw[kF b]
 exact .inl ⟨b,h,g _ h b⟩
theorem zmQ (a) (c:Nat) (s:List Int) (k m:Int) (w:Xn) (H:zl slE w (O a s.length c) s):
  Xp prog 174 #[O a s.length c,I6 k,I6 m] w fun e w'=>∃R S,e= Xl (Xm #[.slice R (ZI s k m).length S,I6 (jx s k m)])/\qj slE w.heap.size w' (.slice R (ZI s k m).length S) (ZI s k m)/\zb w w':=by
 have d:=zbF a c s w H;have A:∀W,zb w W->Xp prog 52 #[O a s.length c] W fun e w'=>∃a3,e= Xl a3/\zc slE W.heap.size w' a3 s/\zb W w':=fun W ag=>zb2 _ s W (H.grew ag)
 have f:=H.short;obtain⟨R,S,U,z⟩:=H.sls;cases U;have P:=dD z;clear z H;obtain⟨u,p⟩:=kA s.length
 rcases zit s k m with⟨h,j,l⟩|⟨h,Y,j,l⟩|⟨h,i,rfl,n,j,l⟩|⟨h,i,q,rfl,n,C,a1,a2,G,j,l⟩|⟨h,i,q,rfl,n,C,a1,a2,a8,j,l⟩
 ·rw[j,l];clear j l A
  generalize slW s=a9 at d h⊢
  have aj:(a9 != 0)=Xc:=by simpa using h
  rw[p.out]at d f⊢
  go_enter func174,ntmps174
  go_wp2_with fail;refine d.mono ?_;rintro e r ⟨rfl,b⟩;have g:=dD b;clear b d h;go_wp2;refine bodyPost_ret (v:= Xm #[eS,I6 a9]) (by simp[results,Tryz.results174,go_sem, *]) rfl ⟨Xb,0,rfl,qj.nil _ _ _,g⟩
 ·rw[h]at d;rw[j,l];clear j l A h;rw[p.out]at d f Y⊢
  by_cases ah:k<0
  ·go_enter func174,ntmps174
   go_wp2_with fail;refine d.mono ?_;rintro e r ⟨rfl,b⟩;have g:=dD b;clear b d Y;go_wp2;refine bodyPost_ret (v:= Xm #[eS,I6 5]) (by simp[results,Tryz.results174,go_sem, *]) rfl ⟨Xb,0,rfl,qj.nil _ _ _,g⟩
  have ai:(u:Int)<=k:=by omega
  go_enter func174,ntmps174
  go_wp2_with fail;refine d.mono ?_;rintro e r ⟨rfl,b⟩;have g:=dD b;clear b d Y;go_wp2;refine bodyPost_ret (v:= Xm #[eS,I6 5]) (by simp[results,Tryz.results174,go_sem, *]) rfl ⟨Xb,0,rfl,qj.nil _ _ _,g⟩
 ·rw[h]at d;rw[j,l];clear j l A h;have B:i<u:=by rw[<-p.out];exact(gS.1 n).1
  rw[p.out]at d f⊢;have y:¬(u:Int)<=(i:Int):=by omega
  have F:¬(i:Int)<0:=by omega
  have t:(i:Int)< (u:Int):=by omega
  obtain⟨a6,rfl,x⟩:=P.out i 0 n;clear n
  go_enter func174,ntmps174
  go_wp2_with fail;refine d.mono ?_;rintro e r ⟨rfl,b⟩;have g:=dD b;have M:=x r b;clear b d x;go_wp2;refine bodyPost_ret (v:= Xm #[eS,I6 5]) (by simp[results,Tryz.results174,go_sem, *]) rfl ⟨Xb,0,rfl,qj.nil _ _ _,g⟩
 ·rw[h]at d;rw[j,l];clear j l A h;have B:i<u:=by rw[<-p.out];exact(gS.1 n).1
  rw[p.out]at d f⊢;have y:¬(u:Int)<=(i:Int):=by omega
  have F:¬(i:Int)<0:=by omega
  have t:(i:Int)< (u:Int):=by omega
  obtain⟨a6,rfl,x⟩:=P.out i q n;have I:(q == 0)=Xd:=by simpa using C
  by_cases Z:m< -q
  ·clear n C G
   go_enter func174,ntmps174
   go_wp2_with fail;refine d.mono ?_;rintro e r ⟨rfl,b⟩;have g:=dD b;have M:=x r b;clear b d x;go_wp2;refine bodyPost_ret (v:= Xm #[eS,I6 3]) (by simp[results,Tryz.results174,go_sem, *]) rfl ⟨Xb,0,rfl,qj.nil _ _ _,g⟩
  have X:1000 - q<m:=by omega
  clear n C G
  go_enter func174,ntmps174
  go_wp2_with fail;refine d.mono ?_;rintro e r ⟨rfl,b⟩;have g:=dD b;have M:=x r b;clear b d x;go_wp2;refine bodyPost_ret (v:= Xm #[eS,I6 3]) (by simp[results,Tryz.results174,go_sem, *]) rfl ⟨Xb,0,rfl,qj.nil _ _ _,g⟩
 rw[h]at d;rw[j,l,Xx];clear j l h;have B:i<u:=by rw[<-p.out];exact(gS.1 n).1
 rw[p.out]at d A f⊢;have y:¬(u:Int)<=(i:Int):=by omega
 have F:¬(i:Int)<0:=by omega
 have t:(i:Int)< (u:Int):=by omega
 obtain⟨a6,rfl,x⟩:=P.out i q n;have I:(q == 0)=Xd:=by simpa using C
 have Z:¬m< -q:=by omega
 have X:¬1000 - q<m:=by omega
 have ac:=dD n;clear n C
 go_enter func174,ntmps174
 go_wp2_with fail;refine d.mono ?_;rintro e r ⟨rfl,b⟩;have g:=dD b;have M:=x r b;clear b d x;go_wp2_with fail;refine(A _ g).mono ?_;rintro e a5 ⟨a3,rfl,K,a7⟩;obtain⟨N,ae,rfl⟩:=K.formS (by rw[p.out];omega)
 rw[p.out]at K⊢;have a4:=dD K;have aa:=dD a7;have af:a5.cell? ⟨N,i,Xb⟩=Xa (I6 q):=by
  obtain⟨al,an,T,a0⟩:=K.at.sls;cases T;obtain⟨am,T,a0⟩:=a0 i q ac.out;cases T;have:=a0 a5 (zb.refl _);rw[Yx,zA]at this;exact this
 clear a7 A K M
 go_wp2_with (refine qn (E:=slE) rfl (.tmp 54) (.tmp 53) rfl r.heap.size _ s a4 N i rfl (q+m) (by rw[p.out];exact B) _ rfl (by simp[slE]) _ rfl rfl ?_)
 intro ak L D _;have V:=(a4.lt N rfl).1;have Q:=dD L;have ab:=dD<|zd aa D V;clear L D af;go_wp2;refine bodyPost_ret (v:= Xm #[O (Xa ⟨N,0,Xb⟩) u ae,I6 0]) (by simp[results,Tryz.results174,go_sem, *]) rfl ⟨_,_,rfl,Q.new.base (bS g),g.trans ab⟩
theorem zeU (y) (j:Nat) (h:List En) (k:Nat) (S:k<8) (x:En) (base:Nat) (w:Xn) (a:zc enE base w (O y h.length j) h) (hb:base<=w.heap.size) (v:h.length=0\/h.length=8):
  Xp prog 203 #[O y h.length j,I6 (k:Int),Xi #[I6 x.kind,I6 x.n,Xh x.wr]] w fun e w'=>∃b B,e= Xl (.slice b (mk ((zbo h).set k x)).length B)/\zc enE base w' (.slice b (mk ((zbo h).set k x)).length B) (mk ((zbo h).set k x))/\w.grownBy w' (O y h.length j).ownBlock/\(∀g,(Value.slice b (mk ((zbo h).set k x)).length B).ownBlock=Xa g->(O y h.length j).ownBlock=Xa g\/w.heap.size<=g):=by
 have d:=dD a;have t:=dD hb;have b:Xo (mk ((zbo h).set k x)=if zeP ((zbo h).set k x)=Xc then(zbo h).set k x else []):=rfl;clear a hb;obtain⟨f,a⟩:=kB (w.alloc (Xk #[I6 x.kind,I6 x.n,Xh x.wr] 127));have p:=gA a
 have R:=xA a
 have m:=sA a
 have A:=dD a;clear a;have a:(k:Int)<8:=by omega
 rcases v with c|v
 ·have a:=List.length_eq_zero_iff.1 c;subst a;obtain⟨L,l⟩:=kA ((zbo []).set k x);have q:Xo (L.length=8):=dD<|by rw[<-l.out];simp[zbo]
  rw[l.out]at b⊢
  generalize mk L=M at b⊢
  simp only[Yn]at d⊢;clear c
  go_enter func203,ntmps203
  go_upto_region 1 with fail;rw[A.out]
  go_wp2_with (refine qX enE rfl (.const (I6 8)) rfl 8 rfl (by decide) ?_)
  intro C s
  show wpList _ _ _ _ _ (f.alloc (Xk C 127))
  have a:zc enE f.heap.size (f.alloc (Xk C 127)) (O (Xa ⟨f.heap.size,0,Xb⟩) 8 8) (zbo []):=s;obtain⟨c,c⟩:=kB (f.alloc (Xk C 127));have r:=gA c
  rw[c]at a⊢;obtain⟨g,i⟩:=kA f.heap.size;rw[i.out]at a⊢;have D:=dD a;have f:=dD (R.grew r);have n:Xo (base<=g/\w.heap.size<=g):=show _/\_ by
   have:=m.out;have:=t.out;have:=i.out
   constructor <;> omega
  clear c s a;obtain⟨N,P,Q⟩:=f.c3
  go_wp2_with (refine qn (E:=enE) rfl (.tmp 14) (.tmp 13) rfl g _ (zbo []) D g k rfl x ?t1 ⟨g,k*3,Xb⟩ rfl rfl (Xi #[I6 x.kind,I6 x.n,Xh x.wr]) rfl rfl ?_)
  case t1=>exact S
  intro H c i u;rw[l.out]at c;have F:=dD<|c.base n.1;have z:=dD<|zd (p.trans r) i n.2
  have a:=ZD _ L H c.at;clear c i u N P Q
  generalize zeP L=C at a b
  cases C with
  | true=>
   have r:Xo (M=L):=dD<|by rw[b.out,kE rfl]
   go_wp2_with fail;refine a.mono ?_;rintro e s ⟨rfl,f⟩;have m:Xo (w.grownBy s _):=show World.grownBy _ _ (Value.ownBlock (O y 0 j))from zds (z.trans f) _
   have G:=dD (F.grew f);clear f a;go_wp2;go_ret;rw[r.out,q.out];exact⟨Xa ⟨g,0,Xb⟩,8,rfl,G,m,fun K t=> .inr (by cases t;exact n.2)⟩
  | false=>
   have r:Xo (M=[]):=dD<|by rw[b.out,kF (by decide)]
   go_wp2_with fail;refine a.mono ?_;rintro e s ⟨rfl,f⟩;have m:Xo (w.grownBy s _):=show World.grownBy _ _ (Value.ownBlock (O y 0 j))from zds (z.trans f) _
   clear f a;go_wp2;go_ret;rw[r.out];exact⟨Xb,0,rfl,zc.nil _ _ _,m,fun K t=>by cases t⟩
 obtain⟨L,l⟩:=kA ((zbo h).set k x);have n:Xo (zbo h=h):=dD<|by unfold zbo;rw[kF (by omega)]
 have q:Xo (L.length=8):=dD<|by rw[<-l.out,n.out];simp[v]
 rw[l.out]at b⊢
 generalize mk L=M at b⊢
 have y:=dD v;obtain⟨g,B,B⟩:=d.formS (by omega)
 cases B;rw[v]at d⊢;clear v
 go_enter func203,ntmps203
 go_upto_region 1 with fail;rw[A.out];have D:=dD (d.grew p);obtain⟨N,P,Q⟩:=R.c3
 go_wp2_with (refine qn (E:=enE) rfl (.tmp 14) (.tmp 13) rfl base _ h D g k rfl x ?t1 ⟨g,k*3,Xb⟩ rfl rfl (Xi #[I6 x.kind,I6 x.n,Xh x.wr]) rfl rfl ?_)
 case t1=>rw[y.out];exact S
 intro H c i u;rw[n.out]at l;rw[l.out]at c;have F:=dD c;have z:=dD<|Zj (zds p _) i
 have a:=ZD _ L H c.at;clear c i u N P Q
 generalize zeP L=C at a b
 cases C with
 | true=>
  have r:Xo (M=L):=dD<|by rw[b.out,kE rfl]
  go_wp2_with fail;refine a.mono ?_;rintro e s ⟨rfl,f⟩;have m:Xo (w.grownBy s _):=show World.grownBy _ _ (Value.ownBlock (O (Xa ⟨g,0,Xb⟩) 8 j))from Zj z (zds f _)
  have G:=dD (F.grew f);clear f a;go_wp2;go_ret;rw[r.out,q.out];exact⟨Xa ⟨g,0,Xb⟩,j,rfl,G,m,fun K t=> .inl t⟩
 | false=>
  have r:Xo (M=[]):=dD<|by rw[b.out,kF (by decide)]
  go_wp2_with fail;refine a.mono ?_;rintro e s ⟨rfl,f⟩;have m:Xo (w.grownBy s _):=show World.grownBy _ _ (Value.ownBlock (O (Xa ⟨g,0,Xb⟩) 8 j))from Zj z (zds f _)
  clear f a;go_wp2;go_ret;rw[r.out];exact⟨Xb,0,rfl,zc.nil _ _ _,m,fun K t=>by cases t⟩
theorem zfd:∀v∈zfe,v.oneCell'=Xc:=fun v a=>by
 rw[zfe,List.mem_replicate]at a;rw[a.2];rfl
theorem zmd (t:List (List En)) (n:Int) (x):
  (tbW t≠0/\zhm t n x=tbW t/\zh0 t n x=Jo)\/
  (tbW t=0/\¬(0<=n/\n<64)/\zhm t n x=3/\zh0 t n x=Jo)\/
  (tbW t=0/\(0<=n/\n<64)/\enW x≠0/\zhm t n x=enW x/\zh0 t n x=Jo)\/
  (tbW t=0/\(0<=n/\n<64)/\enW x=0/\zhm t n x=0/\zh0 t n x=zhl t n.toNat x):=by
 by_cases a:tbW t=0
 ·by_cases b:0<=n/\n<64
  ·have e:zhm t n x=enW x:=by unfold zhm;rw[kE a,kE b]
   by_cases c:enW x=0
   ·exact .inr (.inr (.inr ⟨a,b,c,e.trans c,by unfold zh0;rw[kE (e.trans c)]⟩))
   exact .inr (.inr (.inl ⟨a,b,c,e,by unfold zh0;rw[kF (by rw[e];exact c)]⟩))
  have e:zhm t n x=3:=by unfold zhm;rw[kE a,kF b]
  exact .inr (.inl ⟨a,b,e,by unfold zh0;rw[kF (by rw[e];decide)]⟩)
 have e:zhm t n x=tbW t:=by unfold zhm;rw[kF a]
 exact .inl ⟨a,e,by unfold zh0;rw[kF (by rw[e];exact a)]⟩
theorem zme (vs:List Xq) (t:List (List En)) (n:Int) (x:En) (w:Xn) (r:zat w vs t):
  Xp prog 175 #[Xi vs.toArray,I6 n,Xi #[I6 x.kind,I6 x.n,Xh x.wr]] w fun e w'=>∃k,e= Xl (Xm #[Xi k.toArray,I6 (zhm t n x)])/\zaB 0 w.heap.size w' k (zh0 t n x)/\zb w w':=by
 have G:=dD r.len;have H:=dD r.tlen;have j:∀W,zb w W->Xp prog 118 #[Xi vs.toArray] W fun e w'=>e= Xl (I6 (tbW t))/\zb W w':=fun W a=>zcL vs t W (r.grew a)
 have N:∀W,zb w W->Xp prog 105 #[Xi vs.toArray] W fun e w'=>∃k,e= Xl (Xi k.toArray)/\jk (W.heap.size+2) w' k t/\zb W w'/\W.heap.size+2<=w'.heap.size:=fun W a=>zgm vs t W (r.grew a)
 have v:=fun W=>zav x.kind x.n x.wr W
 clear r;obtain⟨z,a⟩:=kB (((w.alloc (Xk vs.toArray 74)).alloc (Xk #[I6 x.kind,I6 x.n,Xh x.wr] 127)).alloc (Xk #[eS,eS,eS,eS,eS,eS,eS,eS] 74));have b:Xo (zb w z):=dD<|by rw[<-a];exact((za _ _).trans (za _ _)).trans (za _ _)
 have A:Xo (Box z w.heap.size vs):=dD<|by rw[<-a];exact((Box.top w _ _ rfl).alloc _).alloc _
 have S:Xo (Box z (w.heap.size+1) [I6 x.kind,I6 x.n,Xh x.wr]):=dD<|by rw[<-a];exact(Box.top _ _ _ (by simp)).alloc _
 have V:Xo (Box z (w.heap.size+2) zfe):=dD<|by rw[<-a];exact Box.top _ zfe _ (by simp)
 have y:=dD a;clear a
 rcases zmd t n x with⟨l,d,f⟩|⟨l,g,d,f⟩|⟨l,g,R,d,f⟩|⟨l,g,R,d,f⟩
 ·rw[d,f];have q:(tbW t != 0)=Xc:=by simpa using l
  clear d f l N v
  generalize tbW t=s at j q⊢
  go_enter func175,ntmps175
  go_upto_region 1 with fail;rw[y.out]
  go_wp2_with (refine qH rfl (.tmp 3) rfl w.heap.size rfl A G.out ?_)
  refine(j z b).mono ?_;rintro e K ⟨rfl,a⟩;have C:=dD (b.trans a);have M:=dD (A.grew a);have B:=dD (S.grew a);have D:=dD (V.grew a);clear a j
  go_wp2_with (refine zz rfl 74 (.tmp 6) (.tmp 15) rfl (w.heap.size+2) rfl zfe rfl D rfl zsd zfd ?_)
  intro L h i P;have E:=dD h;have F:Xo (zb w L):=show zb _ _ from zd C i (by simp)
  clear h i P;go_wp2;refine bodyPost_ret (qo rfl _ rfl E underlying74 rfl zsd) rfl ⟨zfe,rfl,zaB.nil _ _ _,F⟩
 ·rw[d,f];rw[l]at j;have Q:=fun W=>zbz (m:=n) (n:=64) g W
  clear d f l g N v
  go_enter func175,ntmps175
  go_upto_region 1 with fail;rw[y.out]
  go_wp2_with (refine qH rfl (.tmp 3) rfl w.heap.size rfl A G.out ?_)
  refine(j z b).mono ?_;rintro e K ⟨rfl,a⟩;have C:=dD (b.trans a);have M:=dD (A.grew a);have B:=dD (S.grew a);have D:=dD (V.grew a);clear a j;go_wp2_with fail;refine(Q _).mono ?_;rintro e w' ⟨rfl,c⟩;rw[c];clear c w'
  go_wp2_with (refine zz rfl 74 (.tmp 6) (.tmp 20) rfl (w.heap.size+2) rfl zfe rfl D rfl zsd zfd ?_)
  intro L h i P;have E:=dD h;have F:Xo (zb w L):=show zb _ _ from zd C i (by simp)
  clear h i P;go_wp2;refine bodyPost_ret (qo rfl _ rfl E underlying74 rfl zsd) rfl ⟨zfe,rfl,zaB.nil _ _ _,F⟩
 ·rw[d,f];rw[l]at j;have Q:=fun W=>QQ (m:=n) (n:=64) g.1 g.2 W
  change ∀W,Xp prog 201 _ W fun e w'=>e= Xl (I6 (enW x))/\zb W w' at v
  have q:(enW x != 0)=Xc:=by simpa using R
  clear d f l g R N
  generalize enW x=s at v q⊢
  go_enter func175,ntmps175
  go_upto_region 1 with fail;rw[y.out]
  go_wp2_with (refine qH rfl (.tmp 3) rfl w.heap.size rfl A G.out ?_)
  refine(j z b).mono ?_;rintro e K ⟨rfl,a⟩;have C:=dD (b.trans a);have M:=dD (A.grew a);have B:=dD (S.grew a);have D:=dD (V.grew a);clear a j;go_wp2_with fail;refine(Q _).mono ?_;rintro e w' ⟨rfl,c⟩;rw[c];clear c w';obtain⟨Z,d,f⟩:=B.c3;go_wp2_with fail;refine(v K).mono ?_;rintro e s ⟨rfl,u⟩;have U:=dD (C.trans u);have a3:=dD (M.grew u);have a0:=dD (B.grew u);have X:=dD (D.grew u);clear u v Z d f
  go_wp2_with (refine zz rfl 74 (.tmp 6) (.tmp 25) rfl (w.heap.size+2) rfl zfe rfl X rfl zsd zfd ?_)
  intro L h i P;have E:=dD h;have F:Xo (zb w L):=show zb _ _ from zd U i (by simp)
  clear h i P;go_wp2;refine bodyPost_ret (qo rfl _ rfl E underlying74 rfl zsd) rfl ⟨zfe,rfl,zaB.nil _ _ _,F⟩
 rw[d,f];rw[l]at j;have Q:=fun W=>QQ (m:=n) (n:=64) g.1 g.2 W
 change ∀W,Xp prog 201 _ W fun e w'=>e= Xl (I6 (enW x))/\zb W w' at v
 rw[R]at v;obtain⟨i,W,Y,ag,F,h,h,h,h,L,a4⟩:=zer g.1 g.2;obtain⟨q,E⟩:∃q,Xo (t[i]? =Xa q):=⟨_,gE (by rw[H.out];exact Y)⟩
 have ae:Xo (q.length=0\/q.length=8):=dD<|by
  rcases Qm.1 l q (mG E)with h|⟨h,_⟩
  ·exact .inl (by rw[h];rfl)
  exact .inr h
 have P:Xo (zhl t n.toNat x=t.set i (mk ((zbo q).set W x))):=dD<|by
  unfold zhl;rw[L,a4,E.out];rfl
 rw[P.out];obtain⟨T,P⟩:=kA (mk ((zbo q).set W x));rw[P.out];have a5:=g.1;have a5:(i:Int)<8:=by omega
 clear d f l g R F L a4
 go_enter func175,ntmps175
 go_upto_region 1 with fail;rw[y.out]
 go_wp2_with (refine qH rfl (.tmp 3) rfl w.heap.size rfl A G.out ?_)
 refine(j z b).mono ?_;rintro e K ⟨rfl,a⟩;have C:=dD (b.trans a);have M:=dD (A.grew a);have B:=dD (S.grew a);have D:=dD (V.grew a);clear a j;go_wp2_with fail;refine(Q _).mono ?_;rintro e w' ⟨rfl,c⟩;rw[c];clear c w';obtain⟨Z,d,f⟩:=B.c3;go_wp2_with fail;refine(v K).mono ?_;rintro e s ⟨rfl,u⟩;have U:=dD (C.trans u);have a3:=dD (M.grew u);have a0:=dD (B.grew u);have X:=dD (D.grew u);clear u v Z d f
 go_wp2_with (refine qH rfl (.tmp 3) rfl w.heap.size rfl a3 G.out ?_)
 refine(N s U).mono ?_;rintro e g ⟨k,rfl,b,d,j⟩;have a:=dD b;have f:=dD d;have D:=dD j;have c:=dD X.lt;clear b d j N;obtain⟨K,d⟩:=kA g.heap.size
 go_wp2_with (refine zz rfl 74 (.tmp 10) (.tmp 28) rfl g.heap.size rfl k rfl (Box.top g zfe 74 rfl) a.len zsd a.new.one ?_)
 intro u j l v;rw[d.out]at j l⊢;have aa:=dD j;have b:Xo (zb g u):=show zb _ _ from zd (za g _) l (by rw[d.out];exact nR _)
 have F:=dD j.lt;clear j l v;have G:=dD (a.grew b);have A:=dD ((a0.grew f).grew b);have af:=dD ((X.grew f).grew b);have ad:=dD ((U.trans f).trans b);have N:Xo (∀(j:Nat) C,k[j]? =Xa C->∀g,C.ownBlock=Xa g->s.heap.size+2<=g/\g<K):=show∀(j:Nat) C,_ from fun j C S g b=>by
  obtain⟨y,M⟩:∃y,t[j]? =Xa y:=⟨_,gE (by rw[H.out,<-a.len];exact(gS.1 S).1)⟩
  rw[<-d.out];exact(a.row j C y S M).lt g b
 obtain⟨v,z,f,a,l,b⟩:=G.half Y;obtain rfl:q=f:=by rw[E.out]at a;cases a;rfl
 have f:=dD l;have a9:=dD b;clear a l b;go_upto_region 10 with fail;obtain⟨g,H,a,a,Q⟩:∃g,(∀a,(O v q.length z).ownBlock=Xa a->a=g)/\g≠K/\s.heap.size+2<=g/\((O v q.length z).ownBlock=Xb->u.heap.size<=g):=by
  cases U:(O v q.length z).ownBlock with
  | none=>exact⟨u.heap.size,fun a h=>(by cases h),by have:=F.out;omega,by have:=F.out;have:=d.out;have:=D.out;omega,fun _=>nR _⟩
  | some g=>
   have:=N.out i _ f g U;exact⟨g,fun a h=>by cases h;rfl,by omega,by omega,fun h=>by cases h⟩
 have X:Xo (s.heap.size+2<=u.heap.size):=dD<|by have:=F.out;have:=d.out;have:=D.out;omega
 obtain⟨b,E⟩:∃b:Xn->Prop,Xo (∀w,b w↔Out g (g+1) u w):=⟨fun w=>Out g (g+1) u w,fun _=>Iff.rfl⟩
 obtain⟨nq,L⟩:=kA q.length;rw[L.out]at H Q f a9;have a5:∀y:zk b,y.world.cell? ⟨K,i,Xb⟩=Xa (O v nq z):=fun y=>(aa.out.out ((E _).1 y.holds) (by omega)).c i f.out
 have l:w.heap.size+1<g:=by have:=c.out;omega
 have a6:∀y:zk b,y.world.cell? ⟨w.heap.size+1,0,Xb⟩=Xa (I6 x.kind):=fun y=>(A.out.out ((E _).1 y.holds) (by omega)).c 0 rfl
 have a7:∀y:zk b,y.world.cell? ⟨w.heap.size+1,1,Xb⟩=Xa (I6 x.n):=fun y=>(A.out.out ((E _).1 y.holds) (by omega)).c 1 rfl
 have a8:∀y:zk b,y.world.cell? ⟨w.heap.size+1,2,Xb⟩=Xa (Xh x.wr):=fun y=>(A.out.out ((E _).1 y.holds) (by omega)).c 2 rfl
 have R:Nonempty (zk b):=⟨⟨u,(E _).2 (Out.refl _ _ _)⟩⟩;obtain⟨B,V⟩:=kA T.length;refine jU (I:=b) 11 [(9,⟨fun A=>∃Z a4,A= O Z B a4,fun A w'=>zc enE (s.heap.size+2) w' A T/\∀a,A.ownBlock=Xa a->(O v nq z).ownBlock=Xa a\/u.heap.size<=a,fun w w'=>w.grownBy w' (O v nq z).ownBlock,fun w=>zc enE (s.heap.size+2) w (O v nq z) q/\u.heap.size<=w.heap.size⟩)] ((E _).2 (Out.drew _)) zZ (by kernel_rfl) rfl rfl (by decide) ?hS ?hp ?hpre ?hpr0 ?_
 case hS=>
  intro y M
  simp at M
  subst M;exact⟨_,Xb,0,rfl⟩
 case hp=>
  intro ab ah j ac b M l _ A w w' y a0;have a0:=(zbQ b).1;have a3:=(zbQ M).1;exact absurd (a3.trans a0.symm) l
 case hpre=>
  intro j ac ab ah M b l w w' y y;have a0:=(zbQ b).1;have a3:=(zbQ M).1;exact absurd (a3.trans a0.symm) l
 case hpr0=>
  intro ab ac b;obtain⟨rfl,rfl⟩:=zbQ b;exact⟨a9.grew (gW _),nR _⟩
 simp only[List.take,List.drop];iterate 9 refine qI ?_
 refine j5 rfl rfl (fun w' a3 y a0=>?_) (fun b r=>?_)
 ·refine zR.call [O v nq z,I6 (W:Int),Xi #[I6 x.kind,I6 x.n,Xh x.wr]] rfl func203 rfl rfl rfl ?_;have l:zc enE (s.heap.size+2) w' (O v nq z) q/\u.heap.size<=w'.heap.size:=y;have b:=zeU v z q W ag x (s.heap.size+2) w' (by rw[L.out];exact l.1) (nT X l.2) ae.out
  rw[L.out,P.out,V.out]at b;refine b.mono ?_;rintro e b ⟨Z,a4,rfl,q,b,U⟩;refine⟨_,rfl,(E _).2 (((E _).1 a3).trans (Out.grown b (fun a h=>by have:=H a h;omega))),b,⟨Z,a4,rfl⟩,q,fun a b=>?_⟩
  rcases U a b with h|h
  ·exact .inl h
  exact .inr (nT l.2 h)
 obtain⟨y,L,rfl⟩:=r;simp only[Act.put,sB,sS,sZ];refine qI ?_
 refine zad fun P V a0=>?_
 have W:zc enE (s.heap.size+2) P (O y B L) T/\∀a,(O y B L).ownBlock=Xa a->(O v nq z).ownBlock=Xa a\/u.heap.size<=a:=a0 9;have l:Xo (Out g (g+1) u P):=(E _).1 V;have q:Xo (jk (s.heap.size+2) P (k.set i (O y B L)) (t.set i T)):=G.one Y f (by
  cases U:(O v nq z).ownBlock with
  | none=>exact⟨l.os,l.tape,l.output,l.size,fun j M _=>l.block j M (.inl (Yu M (Q U)))⟩
  | some g=>
   have:=H g U;subst this;exact⟨l.os,l.tape,l.output,l.size,fun j M R=>l.block j M (by
    have:j≠g:=fun e=>R (by rw[e])
    omega)⟩) W.1 W.2
 have u:Xo (∀(j:Nat) C,(k.set i (O y B L))[j]? =Xa C->∀a,C.ownBlock=Xa a->K≠a):=dD<|fun j C S a b=>by
  by_cases e:j=i
  ·subst e;rw[sF (by rw[G.len];exact Y)]at S
   cases S
   rcases W.2 a b with h|h
   ·have:=N.out j _ f a h;omega
   have:=F.out;omega
  rw[sN (fun h=>e h.symm)]at S
  have:=N.out j C S a b;omega
 have v:Xo (Box P K k):=aa.out.out l (by omega)
 have E:Xo (Box P (w.heap.size+2) zfe):=af.out.out l (by have:=c.out;omega)
 have z:Xo (zb w P):=dD<|Out.grew_of ad (by have:=c.out;omega) l.out
 clear a0 a5 a6 a7 a8 V R W H Q;have H:=v.c i f.out;have M:=v.f;go_upto_region 11 with fail;have hlen:(k.set i (O y B L)).length=8:=by rw[Xx];exact G.len
 have g:=dD hlen;clear hlen;obtain⟨l,f⟩:=kB (P.setCell ⟨K,i,Xb⟩ (O y B L));have C:Xo (Box l K (k.set i (O y B L))):=show Box _ _ _ by rw[<-f];exact v.set i _
 have F:Xo (Box l (w.heap.size+2) zfe):=dD<|by rw[<-f];exact E.other (by have:=d.out;have:=D.out;have:=c.out;simp;omega) _
 have v:Xo (zb w l):=dD<|by rw[<-f];exact Below.setCell z (p:=⟨K,i,Xb⟩) (by have:=d.out;have:=D.out;have:=c.out;simp;omega) _
 have d:Xo (jk (s.heap.size+2) l (k.set i (O y B L)) (t.set i T)):=dD<|by
  rw[<-f];exact⟨q.len,q.tlen,fun j A h r l=>(q.row j A h r l).setOther (fun a b=>u.out j A r a b) _,q.two⟩
 rw[f];clear f H M
 go_wp2_with (first | refine qH rfl (.tmp 10) rfl K rfl C g.out ?_ | refine zz rfl 74 (.tmp 6) (.tmp 40) rfl (w.heap.size+2) rfl _ rfl F g zsd d.new.one ?_)
 intro q s f C;have u:=dD s;have z:Xo (zb w q):=show zb _ _ from zd v f (by simp)
 have v:Xo (zaB 0 w.heap.size q (k.set i (O y B L)) (t.set i T)):=show zaB _ _ _ _ _ from
  ⟨d.len,d.tlen,fun j A h r l=>(((d.row j A h r l).grown f (fun a b e=>by
   cases e;have:=((d.row j A h r l).lt _ b).1;have:=c.out
   omega)).new.stays).less (nR _) (by have:=c.out;omega)⟩
 clear s f C;go_wp2;refine bodyPost_ret (qo rfl _ rfl u underlying74 rfl (by rw[g.out];exact zsd)) rfl ⟨_,rfl,v,z⟩
def chL (V:MaV) (m:Ma):List Xq:=(mL V m)
theorem zm.grown {D:Nat->Prop} {w:Xn} (a:w.grownBy w' (Xa b)) (h:D b):zm D w w':=
 ⟨a.os,a.tape,a.output,a.size,fun k d c=>a.block k d (fun e=>by cases e;exact c h)⟩
theorem zn.outD {D:Nat->Prop} {w:Xn} {cs:List Xq} (h:zn w b t cs) (k:zm D w w') (a:¬D b):zn w' b t cs:=(k.block b h.box.lt a).trans h
theorem zaB.outD {D:Nat->Prop} {w:Xn} {t:List (List En)} (h:zaB 0 B w us t) (a:∀k,D k->k<B) (k:zm D w W):zat W us t:=
 (h.out ⟨k.os,k.tape,k.output,k.size,fun i b c=>k.block i b (fun e=>by have:=a i e;omega)⟩).now
def ZQ (m:Ma) (e:En) (n:Int):Ma:=if e.kind=1 then{ m with fs:=QI m.fs m.hand e.n n,hand:=zmR m.fs m.hand e.n n }else if e.kind=2 then{ m with sl:=ZI m.sl e.n n }else m
def Zr (m:Ma) (q:Nat) (n:Int):En:=zd8 (m.sp.getD q ⟨Xd,[],[]⟩).tb n
def qV (m:Ma) (q:Nat) (n:Int) (e:En):Ma:={ m with sp:=m.sp.set q { m.sp.getD q ⟨Xd,[],[]⟩with tb:=zh0 (m.sp.getD q ⟨Xd,[],[]⟩).tb n e } }
def zca (m:Ma) (q p:Nat) (n:Int):Ma:=qV (qV (ZQ m { Zr m p n with wr:=false } 1) p n { Zr m p n with wr:=false }) q n { Zr m p n with wr:=false }
def zla (m:Ma) (p:Nat) (n:Int):Ma:=qV (ZQ m (Zr m p n) (-1)) p n en0
theorem Sp.getD_of {l:List Sp} {q:Nat} {s d:Sp} (h:l[q]? =Xa s):l.getD q d=s:=by
 rw[gD,h];rfl
section
variable{I:Xn->Prop} {P:Program} {ops:Array Oper} {S:Nat->Option (Xq->Prop)} {Q:Act->Xn->Prop}
variable(I P ops S Q)in
abbrev zec:List Oper->Nat->(Xn->Prop)->Act->Prop:=zaq I P ops S (fun _=>Xd) Q
theorem z7 {Q:Exit->Act->Xn->Prop} {a:Act} {w:Xn} {l r:List Oper} (T:Nat) (S:List (Nat ×(Xq->Prop))) (F:Xn->Prop) (e:I w.drew) (d:F w.drew) (j:P.follows .mixedOrders=Xc) (c:Q9 L.toArray T=Xc) (g:L.take T=l) (m:L.drop T=r) (f:T<=L.length)
  (hS:∀x∈S,∃v,x.2 v) (b:((S.map (·.1)).all fun i=>(S.map (·.1)).all fun k=>!decide (i<k) || anc L.toArray 9 i k)=Xc)
  (h:zec I P L.toArray (fun k=>S.lookup k) (fun a w=>wpList P L.toArray Q r a w) l 0 F a):(Code.region id L.toArray Xc).wp P Q a w:=
 JB T S [] F e d j c g m f hS (by simpa using b) rfl h
variable{o:Oper} {rest:List Oper} {k:Nat} {F:Xn->Prop} {a:Act}
theorem jC (b:zoa o=Xc) (c:Yi o (yielded ops a.tmps)=Xc) (hS:S k=Xb)
  (h:∀K:Act->Prop,(∀a,zec I P ops S Q rest (k+1) F a->K a)->o.quiet P a (fun w'=>∃x:zk I,w'=x.world) K):zec I P ops S Q (o :: rest) k F a:=zev b c hS h
theorem zt{P Q:Prop}(k:Q)(h:Go.RowKit.Hid Q->P:=by intro h;refine jC rfl rfl rfl (fun K a=>?_);go_big_quiet_op;exact a _ h.out):P:=h k
theorem zK {s:Xq->Prop} (c:Yi o (yielded ops a.tmps)=Xc) (hS:S k=Xa s) (p:Xq->Xn->Prop)
  (h:∀w,I w->F w->zR P o a w fun v w'=>I w'/\s v/\p v w')
  (b:∀v,s v->zec I P ops S Q rest (k+1) (p v) (a.put o.dst v)):zec I P ops S Q (o :: rest) k F a:=zbf c hS p h b
theorem qa (x p) (b:o.op= .nilCheck x) (d:a.eval x= Xj (Xa p)) (c:Yi o (yielded ops a.tmps)=Xc) (hS:S k=Xb) (h:zec I P ops S Q rest (k+1) F (a.put o.dst (Xj (Xa p)))):zec I P ops S Q (o :: rest) k F a:=zbg x p b d c hS h
theorem jp (h:∀w,I w->F w->Q a w):zec I P ops S Q [] k F a:=zfi h
theorem Zq (v) (b:Yi o (yielded ops a.tmps)=Xc) (hS:S k=Xb) (h:∀w,I w->(execOp a.eval o).run P w= .ok (.value v) w) (c:zec I P ops S Q rest (k+1) F (a.put o.dst v)):zec I P ops S Q (o :: rest) k F a:=zbe b hS (fun w b _=>h w b) c
end
theorem zp2 (q:List Int) (i:Nat) (z:Int):pgc (q.set i z)=(pgc q).set i (U8 z):=by
 unfold pgc;rw[List.map_set]
theorem zq7 {q:List Int} {i:Nat} (h:q[i]? =Xa z):(pgc q)[i]? =Xa (U8 z):=by
 unfold pgc;rw[Yf,h];rfl
theorem zsm:(Tryz.prog.info? 91).map (·.size)=Xa 8:=by kernel_rfl
theorem zic {a:List (List Int)} {i:Nat} {l:List Int} (h:∀p∈a,p.length=8) (b:l.length=8):∀p∈a.set i l,p.length=8:=fun p a=>by
 rcases Xz a with a|a
 ·exact h p a
 rw[a];exact b
theorem zbG {w:Xn} {rest:List Oper} {a:Act} (f:o.guard=Xb) (p x) (m:o.op= .store 91 p x)
  (base:Nat) (v:Xq) (c:List (List Int)) (b:zB base w v c) (g i:Nat) (k:v.ownBlock=Xa g) (hi:i<c.length) (l:List Int) (h:l.length=8)
  (d:Addr) (hp:a.eval p= Xj (Xa d)) (e:d=⟨g,i*8,Xb⟩) (n:a.eval x= Xi (pgc l).toArray)
  (j:∀w',zB base w' v (c.set i l)->w.grownBy w' (Xa g)->w'.heap.size=w.heap.size->wpList prog ops Q rest (a.put o.dst undef) w'):wpList prog ops Q (o :: rest) a w:=by
 refine zcq f p x 91 m 8 (by kernel_rfl) base v c.length _ b.1 g i k hi (pgc l) (by rw[ZB,h]) (ju l) d hp e n fun w' d e f=>?_
 rw[zbJ l (by rw[ZB,h]) c i (fun c k=>by rw[ZB,b.2.1 c k]) hi]at d
 refine j w' ⟨by rw[Xx];exact d,zic b.2.1 h,by rw[Xx];exact b.2.2⟩ e f
theorem ZW {n:Nat} {a:List (Int × List Int)} (h:zS n a=0):n<=80/\a.length<=400/\∀q∈a,∃i:Nat,q.1=(i:Int)/\i<n:=by
 unfold zS at h
 by_cases b:80<n
 ·rw[kE b]at h;omega
 rw[kF b]at h
 by_cases b:400<a.length
 ·rw[kE b]at h;omega
 rw[kF b]at h
 by_cases b:(a.any fun q=>!j7 q.1 n)=Xc
 ·rw[kE b]at h;omega
 refine⟨by omega,by omega,fun q d=>?_⟩
 have a:j7 q.1 n=Xc:=by
  cases c:j7 q.1 n with
  | true=>rfl
  | false=>exact absurd (List.any_eq_true.2 ⟨q,d,by simp[c]⟩) b
 unfold j7 at a
 simp at a
 obtain⟨i,b⟩:=Int.eq_ofNat_of_zero_le a.1;exact⟨i,b,by omega⟩
theorem zib (base:Nat) (w):qy base w (Xi #[eS,eS]) [] []:=
 ⟨_,_,rfl,⟨⟨Xb,0,rfl,fun _=>rfl,fun x a=>by cases a⟩,by simp,by simp⟩,⟨⟨Xb,0,rfl,fun _=>rfl,fun x a=>by cases a⟩,by simp,by simp⟩,Zu _,Zu _⟩
theorem zp5 (w):jG w (eS) []:=⟨⟨Xb,0,rfl,fun _=>rfl,fun x a=>by cases a⟩,by simp,by simp⟩
def JN (n:Int):Int:=if 0<=n/\n<=80 then 0 else 4
def zmB (n:Int):List (List Int):=if 0<=n/\n<=80 then Xr n.toNat z4 else []
theorem zkD (n:Nat):(madeCells #[U8 0,U8 0,U8 0,U8 0,U8 0,U8 0,U8 0,U8 0] (n*8)).toList=(Xr n z4).flatMap pgc:=by
 have g:((Xr n z4).flatMap pgc).length=n*8:=by rw[qT (k:=8) _ (fun e b=>by rw[Xv b];rfl)];simp
 apply Ya
 intro j
 rcases Nat.lt_or_ge j (n*8)with h|h
 ·have f:j=j / 8*8+j % 8:=by omega
  have a:j % 8<8:=Nat.mod_lt _ (by decide)
  have i:j / 8<n:=by omega
  have l:(pgc z4)[j % 8]? =Xa (U8 0):=by
   generalize j % 8=c at a
   match c,a with
   | 0,_=>rfl
   | 1,_=>rfl
   | 2,_=>rfl
   | 3,_=>rfl
   | 4,_=>rfl
   | 5,_=>rfl
   | 6,_=>rfl
   | 7,_=>rfl
  have d:=jX (enc:=pgc) (k:=8) (Xr n z4) (j / 8) z4 (fun e b=>by rw[Xv b];rfl) (by simp[i]) (j % 8) _ l
  rw[<-f]at d;rw[d];have:(#[U8 0,U8 0,U8 0,U8 0,U8 0,U8 0,U8 0,U8 0]:Array Xq)[j % 8]! =U8 0:=by
   generalize j % 8=c at a
   match c,a with
   | 0,_=>rfl
   | 1,_=>rfl
   | 2,_=>rfl
   | 3,_=>rfl
   | 4,_=>rfl
   | 5,_=>rfl
   | 6,_=>rfl
   | 7,_=>rfl
  simp[madeCells,h]
  simpa using this
 rw[gN (by simp[madeCells];exact h),gN (by rw[g];exact h)]
theorem zbH {w:Xn} {rest:List Oper} {a:Act} (b:o.guard=Xb) (l) (j:o.op= .makeSlice 35 l l) (n:Nat) (i:a.eval l=I6 n) (c:n<=80)
  (h:∀C,zB w.heap.size (w.alloc (Xk C 91)) (O (Xa ⟨w.heap.size,0,Xb⟩) n n) (Xr n z4)->wpList prog ops Q rest (a.put o.dst (O (Xa ⟨w.heap.size,0,Xb⟩) n n)) (w.alloc (Xk C 91))):wpList prog ops Q (o :: rest) a w:=by
 refine wpList_plain b fun K f=>?_
 obtain⟨m,g,c,d,e⟩:=info_parts zr7;have b:=run_make (P:=prog) w 35 91 m _ underlying35 g c .i64 .i64 n n (by omega) (Int.le_refl _) (by rw[e];omega) (by omega)
 rw[d,tN]at b;unfold Oper.wp;simp only[execOp,j,i,Xs,b,Result.andThen,Xw,Oper.upon];refine f _ _ (h _ ⟨⟨?_,.inr ⟨w.heap.size,n,madeCells #[U8 0,U8 0,U8 0,U8 0,U8 0,U8 0,U8 0,U8 0] (n*8),by rw[lR],nR _,?_,?_,?_,?_,?_⟩⟩,fun p b=>by rw[Xv b];rfl,by rw[lR];omega⟩)
 ·rw[qT (k:=8) _ (fun a b=>by rw[Xv b];rfl)]
 ·show(w.heap.push _)[w.heap.size]? =_
  simp[Value.cells]
 ·rw[lR];exact nR _
 ·exact jj (by omega)
 ·rw[size_madeCells]
 rw[lR]
 show(madeCells #[U8 0,U8 0,U8 0,U8 0,U8 0,U8 0,U8 0,U8 0] (n*8)).toList.take (n*8)=_
 rw[Yl (by simp[madeCells]),zkD]
theorem zp6 (n:Int) (w:Xn):
  Xp prog 17 #[I6 n] w fun e w'=>∃a,e= Xl (Xm #[a,I6 (JN n)])/\qy w.heap.size w' a (zmB n) []/\zb w w':=by
 by_cases h:0<=n/\n<=80
 ·have b:Xo (JN n=0):=dD<|by unfold JN;rw[kE h]
  have a:Xo (zmB n=Xr n.toNat z4):=dD<|by unfold zmB;rw[kE h]
  obtain⟨k,rfl⟩:=Int.eq_ofNat_of_zero_le h.1;have g:¬(k:Int)<0:=by omega
  have i:¬(80:Int)< (k:Int):=by omega
  have c:k<=80:=by omega
  have d:Xo (zb w (w.alloc (Xk #[eS,eS] 38))):=za _ _;rw[b.out]
  go_enter func17,ntmps17
  go_wp2_with (refine zbH rfl (.tmp 11) rfl k rfl c ?_;intro C d;have f:Xo (zB (w.alloc (Xk #[eS,eS] 38)).heap.size ((w.alloc (Xk #[eS,eS] 38)).alloc (Xk C 91)) (O (Xa ⟨(w.alloc (Xk #[eS,eS] 38)).heap.size,0,Xb⟩) k k) (Xr k z4)):=d;clear d)
  refine bodyPost_ret (v:= Xm #[Xi #[O (Xa ⟨w.heap.size+1,0,Xb⟩) k k,eS],I6 0]) (by simp[results,Tryz.results17,go_sem, *]) rfl ⟨_,rfl,?_,?_⟩
  ·rw[a.out];have d:=f.out;rw[World.size_alloc]at d;exact⟨_,_,rfl,zB.at (base:=w.heap.size+1) ⟨zgl d.1 (fun k c=>ziS w _ _ _ k c),d.2⟩,zp5 _,fun x n c e=>by cases e;simp,Zu _⟩
  exact(za _ _).trans (za _ _)
 have b:Xo (JN n=4):=dD<|by unfold JN;rw[kF h]
 have a:Xo (zmB n=[]):=dD<|by unfold zmB;rw[kF h]
 rw[b.out,a.out]
 by_cases g:n<0
 ·clear h
  go_enter func17,ntmps17
  go_wp2;refine bodyPost_ret (v:= Xm #[Xi #[eS,eS],I6 4]) (by simp[results,Tryz.results17,go_sem]) rfl ⟨_,rfl,zib _ _,?_⟩
  exact za _ _
 have i:(80:Int)<n:=by omega
 clear h
 go_enter func17,ntmps17
 go_wp2;refine bodyPost_ret (v:= Xm #[Xi #[eS,eS],I6 4]) (by simp[results,Tryz.results17,go_sem]) rfl ⟨_,rfl,zib _ _,?_⟩
 exact za _ _
end
section
open Go.RowKit Go.Shelf
section
attribute [local go_sem] Oper.semAt_some
structure P9 where
  (i m b0 b1 b2 b3 b4 b5 b6 b7 : Int)
def P9.q (x : P9) : Int × List Int := (x.m, [x.b0, x.b1, x.b2, x.b3, x.b4, x.b5, x.b6, x.b7])
def P9.encs (x : P9) : Array Value := #[.int .i64 x.i, .agg #[.int .i64 x.m, .int .u8 x.b0, .int .u8 x.b1, .int .u8 x.b2, .int .u8 x.b3, .int .u8 x.b4, .int .u8 x.b5, .int .u8 x.b6, .int .u8 x.b7]]
theorem zjF {α : Type} (l : List α) (k : Nat) (q : α) (h : l[k]? = Xa q) : (l.drop k).reverse = (l.drop (k + 1)).reverse ++ [q] := by
  obtain ⟨hlt, rfl⟩ := List.getElem?_eq_some_iff.1 h
  rw [List.drop_eq_getElem_cons hlt, List.reverse_cons]
theorem zpa {α : Type} (l : List α) (k : Nat) : (l.drop k).reverse <+: l.reverse := by
  refine ⟨(l.take k).reverse, ?_⟩
  rw [<- List.reverse_append, List.take_append_drop]
theorem zpo (F : Fence) (n : Nat) (hF : F.fn 234) (hro : F.round = Xb) (hn : 1 <= n) (l Bs n₀ : Nat) (w : Xn) (a) (c : Nat) (qs : List (Int × List Int)) (hr : zb5 w a qs) (hbig : qs.length <= 9223372036854775807) (hw : w.heap.size <= n₀) (hBn : Bs < n₀) (J Jx : List P9 -> Xn -> Prop)
    (hY : ∀ pre x W, J pre W -> pre.length < qs.length -> YieldAt F (n - 1) Tryz.prog l (P9.encs x) W fun e W' =>
      (e = .returned (.bool true) /\ J (pre ++ [x]) W' /\ Below n₀ W W') \/ (e = .returned (.bool false) /\ Jx (pre ++ [x]) W'))
    (W : Xn) (hgW : zb w W) (hBs : W.cell? ⟨Bs, 0, Xb⟩ = Xa (O a qs.length c)) (h0 : J [] W) :
    CallsIn F n Tryz.prog 234 #[.func (.yield l) #[] #[], .pointer (some ⟨Bs, 0, none⟩)] W fun e W' => (∃ v, e = .returned v) /\
      ((∃ ys, ys.map P9.q = qs.reverse /\ J ys W') \/ (∃ pre, pre.map P9.q <+: qs.reverse /\ Jx pre W')) := by
  have HR : Xo (zb5 w a qs) := hr
  have HY : Hid _ := hY
  obtain ⟨nq, HN⟩ : ∃ nq, Hid (qs.length = nq) := ⟨_, rfl⟩
  rw [HN.out] at hbig hBs
  have HBS : Hid (W.cell? ⟨Bs, 0, none⟩ = some (.slice a nq c)) := hBs
  have HGW : Xo (zb w W) := hgW
  clear hr hY hgW
  refine callsIn_of_wp Tryz.func234 rfl hF ?_ hro
  simp only [Tryz.ntmps234, List.size_toArray, List.length_cons, List.length_nil, Nat.reduceAdd, Nat.reduceSub, Array.replicate_succ, Array.replicate_zero, List.push_toArray, List.append_toArray, List.nil_append, List.cons_append]
  gi_wp2
  clear hBs
  gi_loopw [3] (fun p wr => ∃ (r : Nat) (pre : List P9), r <= nq /\ p = .int .i64 ((r : Int) - 1) /\ Hid (pre.map P9.q = (qs.drop r).reverse) /\ Hid (J pre wr) /\ Hid (Below n₀ W wr))
    (fun p _ => ((intOf p) + 1).toNat)
  case atStart => exact ⟨nq, [], Nat.le_refl _, by go_num, (show Hid _ from by rw [List.drop_of_length_le (by rw [HN.out]; exact Nat.le_refl _)]; rfl), h0, Below.refl _ _⟩
  case round =>
    obtain ⟨r, pre, hrn, rfl, HP, HJ, HB⟩ := hrel
    cases r with
    | zero =>
      gi_wp2
      go_end0
      exact ⟨⟨_, rfl⟩, .inl ⟨pre, by rw [HP.out]; rfl, HJ.out⟩⟩
    | succ k =>
      obtain ⟨q, HQ⟩ : ∃ q, Hid (qs[k]? = some q) := ⟨_, List.getElem?_eq_getElem (by rw [HN.out]; omega)⟩
      obtain ⟨x, m, b0, b1, b2, b3, b4, b5, b6, b7, rfl, rfl, hl⟩ := HR.out k q HQ.out
      obtain ⟨d0, d1, d2, d3, d4, d5, d6, d7, d8⟩ := hl wr (Below.trans HGW.out (HB.out.mono hw))
      have hbs : wr.cell? ⟨Bs, 0, none⟩ = some (.slice (some x) nq c) := (HB.out.cell (p := ⟨Bs, 0, none⟩) hBn).trans HBS.out
      have hlen : pre.length < qs.length := by
        have := congrArg List.length HP.out
        rw [List.length_map, List.length_reverse, List.length_drop] at this
        have := HN.out
        omega
      obtain ⟨fn, tmps, assign, body, hy, hR⟩ := HY.out pre ⟨k, m, b0, b1, b2, b3, b4, b5, b6, b7⟩ wr HJ.out hlen
      simp only [P9.encs] at hy
      have hk1 : ((k + 1 : Nat) : Int) - 1 = (k : Int) := by omega
      have hkn : (k : Int) < (nq : Int) := by omega
      rw [hk1]
      clear hl
      gi_wp2
      refine hR.mono ?_
      rintro e W3 (⟨rfl, hJ3, hk3⟩ | ⟨rfl, hJx3⟩)
      · gi_wp2
        go_roundw
        case rel => exact ⟨k, _, by omega, by go_num, (show Xo _ from by rw [Yo, HP.out, zjF qs k _ HQ.out]; rfl), hJ3, (show Xo _ from HB.out.trans hk3)⟩
        case measure => simp [intOf]
      · gi_wp2
        refine bodyPost_ret (results_none rfl _ _ _) rfl ?_
        refine ⟨⟨_, rfl⟩, .inr ⟨_, ?_, hJx3⟩⟩
        rw [List.map_append, HP.out]
        have := zpa qs k
        rw [zjF qs k _ HQ.out] at this
        exact this
theorem zqO (F : Fence) (n : Nat) (hF : F.fn 211) (hro : F.round = Xb) (a : Option Addr) (len cap : Nat) (w : Xn) :
    CallsIn F n Tryz.prog 211 #[.slice a len cap] w fun e w' => e = .returned (.func (.func 234) #[] #[.pointer (some ⟨w.heap.size, 0, none⟩)]) /\ w' = w.alloc (.cells #[.slice a len cap] 36) := by
  refine callsIn_of_wp Tryz.func211 rfl hF ?_ hro
  simp only [Tryz.ntmps211, List.size_toArray, List.length_cons, List.length_nil, Nat.reduceAdd, Nat.reduceSub, Array.replicate_succ, Array.replicate_zero, List.push_toArray, List.append_toArray, List.nil_append, List.cons_append]
  gi_wp2
  go_ret
  exact ⟨rfl, rfl⟩
theorem zlt (F : Fence) (n : Nat) (hF : F.fn 234) (hro : F.round = Xb) (hn : 1 <= n) (Bs n₀ : Nat) (w0 a) (c : Nat) (qs : List (Int × List Int)) (hr : zb5 w0 a qs) (hbig : qs.length <= 9223372036854775807) (w : Xn) (hg : zb w0 w) (hBs : Bs < n₀) (hn₀ : n₀ = w.heap.size)
    (hc : w.cell? ⟨Bs, 0, none⟩ = some (.slice a qs.length c)) :
    SeqStopsK F n Tryz.prog 234 #[.pointer (some ⟨Bs, 0, none⟩)] P9.encs (Below n₀) (fun ys => ys.map P9.q = qs.reverse) (fun pre => pre.map P9.q <+: qs.reverse) qs.length w := fun l J Jx W hW _ _ hY h0 => by
  subst hn₀
  exact zpo F n hF hro hn l Bs w.heap.size w0 a c qs hr hbig (Below.size hg) hBs J Jx hY W (hg.trans hW) ((hW.cell (p := ⟨Bs, 0, Xb⟩) hBs).trans hc) h0
end
section
attribute [local go_sem] Oper.semAt_some
theorem zfL {a:Type} (B:Nat) (f:a->List Xq):Own (fun s W=>Box W B (f s)):=fun s X Y a c d a=>by
 have b:=c.lt;obtain⟨t,h⟩:=c;refine⟨t,?_⟩;rw[d.block B b (fun e=>?_)]
 ·exact h
 obtain⟨b,b,c⟩:=a B e.symm;rw[h]at b;cases b;cases c
theorem Box.put {D:Nat} {cs:List Xq} {o:Obj} (h:Box W b cs) (o':Obj) (hD:W.heap[D]? =Xa o) (ho:o.isCells=Xd):Box (W.putObj D o') b cs:=
 zfL b (fun _:Unit=>cs) () W _ (Xa D) h (grownBy_putObj' W D o') (fun r e=>by cases e;exact⟨o,hD,ho⟩)
theorem jJ {A B:Xn} (h:KeepsOthers A B) (a u):KeepsOthers A (B.setCell a u):=h.trans (KeepsOthers.setCell _ _ _)
theorem zna {b:List (Int × List Int)} {c:List P9} {m:Int} (h:c.map P9.q=b.reverse) (a:∀x∈c,x.m≠m):b.reverse.find? (fun q=>q.1 == m)=Xb:=by
 rw[<-h,Yv];intro q b;obtain⟨x,c,rfl⟩:=Xy.1 b
 simpa [P9.q]using a x c
theorem zm9 {c:List (Int × List Int)} {a:List P9} {x:P9} {m:Int} (h:(a++ [x]).map P9.q<+:c.reverse) (b:∀y∈a,y.m≠m) (d:x.m=m):c.reverse.find? (fun q=>q.1 == m)=Xa x.q:=by
 obtain⟨t,c⟩:=h;rw[<-c,Yo,Yy,Yz];have c:(a.map P9.q).find? (fun q=>q.1 == m)=Xb:=by
  rw[Yv];intro q a;obtain⟨y,e,rfl⟩:=Xy.1 a
  simpa [P9.q]using b y e
 rw[c]
 simp[P9.q,d]
theorem qP {n:Nat} {b:List (Int × List Int)} {m:Int} (h:zr n b m=0):zS n b=0/\∃i:Nat,m=(i:Int)/\i<n:=by
 unfold zr at h
 by_cases a:zS n b=0
 ·rw[kE a]at h;refine⟨a,?_⟩
  cases b:j7 m n with
  | false=>rw[b]at h;simp at h
  | true=>
   unfold j7 at b
   simp at b
   obtain⟨i,c⟩:=Int.eq_ofNat_of_zero_le b.1;exact⟨i,c,by omega⟩
 rw[kF a]at h;exact absurd h a
theorem zja (d) (ps:List (List Int)) (qs:List (Int × List Int)) (m:Int) (w) (hd:zbD w d ps qs):
  Xp prog 184 #[d,I6 m] w fun e w'=>e= Xl (Xm #[Xi (pgc (qY ps qs m)).toArray,I6 (zr ps.length qs m)])/\zb w w':=by
 obtain⟨b,q,rfl,hb,hq⟩:=hd;have HB:=dD hb;have HQ:=dD hq;obtain⟨ab,cb,rfl,hrb⟩:=hb.rows;obtain⟨aq,cq,rfl,hrq⟩:=hq.rows;have HRB:=dD hrb;have HRQ:=dD hrq;clear hb hq hrb hrq;have HL:Xo (qY ps qs m=if zr ps.length qs m=0 then(match qs.reverse.find? (fun q=>q.1 == m)with|some q=>q.2|none=>ps.getD m.toNat z4)else z4):=rfl
 obtain⟨W0,hW0⟩:=kB ((((w.alloc (Xk #[O ab ps.length cb,O aq qs.length cq] 38)).alloc (Xk #[I6 m] 3)).alloc (Xk #[U8 0,U8 0,U8 0,U8 0,U8 0,U8 0,U8 0,U8 0] 91)).alloc (Xk #[I6 0] 47));have HG0:Xo (zb w W0):=dD<|by rw[<-hW0];exact(((za _ _).trans (za _ _)).trans (za _ _)).trans (za _ _)
 have X0:Xo (Box W0 w.heap.size [O ab ps.length cb,O aq qs.length cq]):=dD<|by rw[<-hW0];exact(((Box.top w [O ab ps.length cb,O aq qs.length cq] _ rfl).alloc _).alloc _).alloc _
 have X1:Xo (Box W0 (w.heap.size+1) [I6 m]):=dD<|by rw[<-hW0];exact((Box.top _ [I6 m] _ (by simp)).alloc _).alloc _
 have X2:Xo (Box W0 (w.heap.size+1+1) [U8 0,U8 0,U8 0,U8 0,U8 0,U8 0,U8 0,U8 0]):=dD<|by rw[<-hW0];exact(Box.top _ [U8 0,U8 0,U8 0,U8 0,U8 0,U8 0,U8 0,U8 0] _ (by simp)).alloc _
 have X3:Xo (Box W0 (w.heap.size+1+1+1) [I6 0]):=dD<|by rw[<-hW0];exact Box.top _ [I6 0] _ (by simp)
 have hcon:=QW ab ps.length cb (O aq qs.length cq) qs m W0 (HQ.grew HG0);have hqbig:qs.length<=9223372036854775807:=by have:=HQ.2.2;omega
 obtain⟨r,HW⟩:=kA (zr ps.length qs m);rw[HW.out]at hcon HL⊢;obtain⟨nb,HNB⟩:=kA ps.length;obtain⟨nq,HNQ⟩:=kA qs.length;rw[HNB.out,HNQ.out]at hcon hW0 X0⊢;have HW0:=dD hW0;clear hW0
 by_cases hr:r=0
 ·subst hr;rw[kE rfl]at HL;refine(callsIn_wide (n:=5)).1 ?_;refine callsIn_of_wp_marks func184 rfl trivial ?_ rfl;simp only[ntmps184,Yg,Xt,Yn,Nat.reduceAdd,Nat.reduceSub,Yq,Yr,Oa,Ys,Yc,Yb]
  gi_wp2_with (first
   | (
    refine⟨trivial,?_⟩;gi_at_call 210;rw[HW0.out];refine(callsIn_wide.2 hcon).mono ?_;rintro e W1 ⟨rfl,hg1⟩;have HG1:Xo (zb W0 W1):=hg1;have e0:=(X0.grew hg1).c 0 rfl;have e1:=(X0.grew hg1).c 1 rfl)
   | (
    refine⟨trivial,?_⟩;gi_at_call 211;refine(zqO Fence.wide _ trivial rfl _ _ _ _).mono ?_;rintro e W2 ⟨rfl,hW2⟩;have HW2:Xo (W2=W1.alloc (Xk #[O aq nq cq] 36)):=hW2;clear hW2))
  have HG2:Xo (zb w W2):=dD<|by rw[HW2.out];exact(HG0.trans HG1).trans (za _ _)
  have HGW2:Xo (zb W0 W2):=dD<|by rw[HW2.out];exact HG1.trans (za _ _)
  have HSZ:Xo (w.heap.size+4<=W1.heap.size/\W2.heap.size=W1.heap.size+1):=dD<|⟨by have h1:=bS HG1.out;have h2:=X3.lt;omega,by rw[HW2.out];simp⟩
  have bS:Box W2 W1.heap.size [O aq nq cq]:=by rw[HW2.out];exact Box.top _ [O aq nq cq] _ rfl
  have HC:=bS.c 0 rfl;obtain⟨_,i,hmi,hib⟩:=qP HW.out;have HI:Xo (m=(i:Int)/\i<ps.length):=⟨hmi,hib⟩;clear e0 e1 hcon hg1 hmi hib bS;refine wpIn_rangeFunc_ownH rfl (by decide) (gf:=234) (lb:=#[Xj (Xa ⟨W1.heap.size,0,Xb⟩)]) rfl trivial (enters_of func234 (by kernel_rfl) rfl)
   (zlt Fence.wide 4 trivial rfl (by decide) W1.heap.size W2.heap.size w aq cq qs HRQ hqbig W2 HG2 (by have:=HSZ.2;omega) rfl (by rw[HNQ.out];exact HC)) belowK_t (belowK_b (nR _)) (bR _ _) (fun _=>rfl)
   (fun pre W=>(∀x∈pre,x.m≠m)/\Below W2.heap.size W2 W)
   (fun c pre W=>(c= .ret/\∃ini last,pre=ini++ [last]/\(∀x∈ini,x.m≠m)/\last.m=m/\Box W (w.heap.size+1+1) [U8 last.b0,U8 last.b1,U8 last.b2,U8 last.b3,U8 last.b4,U8 last.b5,U8 last.b6,U8 last.b7]/\Box W (w.heap.size+1+1+1) [I6 0])/\Below w.heap.size w W)
   (OwnFrom.and (fun s X Y row hs hg hr=>hs) (ownFrom_below (nR _) (nR _)))
   (fun c=>OwnFrom.and (Own.from (fun s X Y row hs hg hr=>by
    obtain⟨hc,ini,last,e1,e2,e3,e4,e5⟩:=hs;exact⟨hc,ini,last,e1,e2,e3,zfL _ (fun _:Unit=>_) () X Y row e4 hg hr,zfL _ (fun _:Unit=>_) () X Y row e5 hg hr⟩) _) (ownFrom_below (nR _) (bS HG2)))
   ⟨by simp,bR _ _⟩
   (fun x a' W=>∃Bx,W2.heap.size<=Bx/\Box W Bx [I6 x.m,U8 x.b0,U8 x.b1,U8 x.b2,U8 x.b3,U8 x.b4,U8 x.b5,U8 x.b6,U8 x.b7]/\
    a'={ tmps:=#[Xi #[O ab nb cb,O aq nq cq],I6 m,Xj (Xa ⟨w.heap.size,0,Xb⟩),Xj (Xa ⟨w.heap.size+1,0,Xb⟩),Xj (Xa ⟨w.heap.size+1+1,0,Xb⟩),Xj (Xa ⟨w.heap.size+1+1+1,0,Xb⟩),I6 0,undef,Xj (Xa ⟨Bx,0,Xb⟩),
     Xi #[O ab nb cb,O aq nq cq],I6 m,I6 0,I6 0,Xh Xd,undef,undef,Xj (Xa ⟨w.heap.size,1,Xb⟩),O aq nq cq,.func (.func 234) #[] #[Xj (Xa ⟨W1.heap.size,0,Xb⟩)],I6 x.i,
     Xi #[I6 x.m,U8 x.b0,U8 x.b1,U8 x.b2,U8 x.b3,U8 x.b4,U8 x.b5,U8 x.b6,U8 x.b7],undef,undef,undef,undef,undef,undef,undef,undef,undef,undef,undef],defers:=[] })
   (fun x a' _ X Y row hs hg hr=>by obtain⟨Bx,h1,h2,h3⟩:=hs;exact⟨Bx,h1,zfL Bx (fun _:Unit=>_) () X Y row h2 hg (fun r e=>(hr r e).2),h3⟩)
   ?assign ?body ?done ?stop
  case assign=>
   rintro l pre x W K ⟨hp,hB⟩ hK;simp only[P9.encs]
   gi_wp2
   exact hK _ _ ((KeepsOthers.alloc _ _).from _) ((bR _ W).alloc hB.size _) ⟨hp,hB.alloc hB.size _⟩ ⟨W.heap.size,hB.size,Box.top W [I6 x.m,U8 x.b0,U8 x.b1,U8 x.b2,U8 x.b3,U8 x.b4,U8 x.b5,U8 x.b6,U8 x.b7] _ rfl,rfl⟩
  case body=>
   rintro l pre x a' W hl ⟨rr,hrr⟩ ⟨hp,hB⟩ ⟨Bx,hBx,bX,rfl⟩ hlt;have Z1:=(X1.grew HGW2).below hB ((X1.grew HGW2).lt);have Z2:=(X2.grew HGW2).below hB ((X2.grew HGW2).lt);have Z3:=(X3.grew HGW2).below hB ((X3.grew HGW2).lt);have HZ2:=dD Z2;have HZ3:=dD Z3;have HBW:=dD hB;obtain⟨c0,c1,c2,c3,c4,c5,c6,c7⟩:=Z2.c8;have f0:=Z2.f;have c8:=Z3.c 0 rfl;have f1:=Z3.f 0;have cm:=Z1.c 0 rfl;have x0:=bX.c 0 rfl;have x1:=bX.c 1 rfl;have x2:=bX.c 2 rfl;have x3:=bX.c 3 rfl;have x4:=bX.c 4 rfl;have x5:=bX.c 5 rfl;have x6:=bX.c 6 rfl;have x7:=bX.c 7 rfl;have x8:=bX.c 8 rfl;have HP:=dD hp;clear hp bX hB hrr
   by_cases hx:x.m=m
   ·have hxb:(x.m == m)=Xc:=by simpa using hx
    gi_wp2
    refine⟨KeepsOthers.from ?_ _,⟨rfl,pre,x,rfl,HP,hx,?_,?_⟩,?_⟩
    ·iterate 9 (refine jJ ?_ _ _)
     exact KeepsOthers.refl _
    ·exact((((((((HZ2.set 0 _).set 1 _).set 2 _).set 3 _).set 4 _).set 5 _).set 6 _).set 7 _).other (by simp) _
    ·refine Box.set (cs:=[I6 0]) ?_ 0 _;iterate 8 (refine Box.other ?_ (by simp) _)
     exact HZ3.out
    iterate 9 (refine zL ?_ (by simp;omega) _)
    exact Below.trans HG2 (HBW.mono (bS HG2))
   have hxb:(x.m == m)=Xd:=by simpa using hx
   gi_wp2
   exact⟨KeepsFrom.refl _ _,bR _ _,fun y hy=>(Yd.1 hy).elim (HP y) (fun e=>by simp at e;subst e;exact hx),HBW⟩
  case done=>
   rintro D ys W hD hS ⟨hp,hB⟩ hK;have Z0:=(X0.grew HGW2).below hB ((X0.grew HGW2).lt);have Z1:=(X1.grew HGW2).below hB ((X1.grew HGW2).lt);have Z2:=(X2.grew HGW2).below hB ((X2.grew HGW2).lt);have Z3:=(X3.grew HGW2).below hB ((X3.grew HGW2).lt);have HZ2:=dD Z2;have HZ3:=dD Z3;have HGW:=dD<|Below.trans HG2 (hB.mono (bS HG2))
   have HF:=zna hS hp;obtain⟨rfl,hib⟩:=HI.out;obtain⟨pg,hpg⟩:∃pg,ps[i]? =Xa pg:=⟨_,gE hib⟩;obtain⟨xa,b0,b1,b2,b3,b4,b5,b6,b7,rfl,rfl,hl⟩:=HRB.out i pg hpg;obtain⟨d0,d1,d2,d3,d4,d5,d6,d7⟩:=hl W HGW.out;have hib':(i:Int)< (nb:Int):=by rw[<-HNB.out];omega
   rw[HF,show ps.getD (Int.toNat (i:Int)) z4=[b0,b1,b2,b3,b4,b5,b6,b7]from by simp[hpg]]at HL
   have z0:=Z0.c 0 rfl;have z1:=Z1.c 0 rfl;obtain⟨c0,c1,c2,c3,c4,c5,c6,c7⟩:=Z2.c8;have f0:=Z2.f;have c8:=Z3.c 0 rfl;have f1:=Z3.f 0;have HKD:=dD hK;clear hl hpg hib hS hp hK hB
   gi_wp2
   clear c0 c1 c2 c3 c4 c5 c6 c7 c8 f0 f1 z0 z1 d0 d1 d2 d3 d4 d5 d6 d7;have hK':=(show KeepsOthers W _ from jJ (jJ (jJ (jJ (jJ (jJ (jJ (jJ (jJ (KeepsOthers.refl W) ⟨w.heap.size+1+1,0,Xb⟩ (U8 b0)) ⟨w.heap.size+1+1,1,Xb⟩ (U8 b1)) ⟨w.heap.size+1+1,2,Xb⟩ (U8 b2)) ⟨w.heap.size+1+1,3,Xb⟩ (U8 b3)) ⟨w.heap.size+1+1,4,Xb⟩ (U8 b4)) ⟨w.heap.size+1+1,5,Xb⟩ (U8 b5)) ⟨w.heap.size+1+1,6,Xb⟩ (U8 b6)) ⟨w.heap.size+1+1,7,Xb⟩ (U8 b7)) ⟨w.heap.size+1+1+1,0,Xb⟩ (I6 0)).same D _ HKD rfl
   refine⟨by simp,.inl ⟨_,_,rfl,run_takeDeferred hK',?_⟩⟩
   have B2:=(((((((((HZ2.set 0 (U8 b0)).set 1 (U8 b1)).set 2 (U8 b2)).set 3 (U8 b3)).set 4 (U8 b4)).set 5 (U8 b5)).set 6 (U8 b6)).set 7 (U8 b7)).other (a:=⟨w.heap.size+1+1+1,0,Xb⟩) (by simp) (I6 0)).put (.deferred Xb) hK' rfl
   have B3:=((((((((((HZ3.other (a:=⟨w.heap.size+1+1,0,Xb⟩) (by simp) (U8 b0)).other (a:=⟨w.heap.size+1+1,1,Xb⟩) (by simp) (U8 b1)).other (a:=⟨w.heap.size+1+1,2,Xb⟩) (by simp) (U8 b2)).other (a:=⟨w.heap.size+1+1,3,Xb⟩) (by simp) (U8 b3)).other (a:=⟨w.heap.size+1+1,4,Xb⟩) (by simp) (U8 b4)).other (a:=⟨w.heap.size+1+1,5,Xb⟩) (by simp) (U8 b5)).other (a:=⟨w.heap.size+1+1,6,Xb⟩) (by simp) (U8 b6)).other (a:=⟨w.heap.size+1+1,7,Xb⟩) (by simp) (U8 b7)).set 0 (I6 0)).put (.deferred Xb) hK' rfl)
   obtain⟨r0,r1,r2,r3,r4,r5,r6,r7⟩:=B2.c8;have r8:=B3.c 0 rfl;refine⟨Xm #[Xi #[U8 b0,U8 b1,U8 b2,U8 b3,U8 b4,U8 b5,U8 b6,U8 b7],I6 0],by simp[results,Tryz.f184,go_sem,r0,r1,r2,r3,r4,r5,r6,r7,r8],?_,?_⟩
   ·rw[HL.out];rfl
   refine Below.trans ?_ (belowK_b (w:=W2) (n₀:=w.heap.size) (bS HG2) _ D _ _ hD hK' rfl rfl);iterate 9 (refine zL ?_ (by simp;omega) _)
   exact HGW.out
  rintro D c pre W hD hS ⟨⟨rfl,ini,last,e1,e2,e3,b2,b3⟩,hB⟩ hK
  gi_wp2
  have B2:=b2.put (.deferred Xb) hK rfl;have B3:=b3.put (.deferred Xb) hK rfl;obtain⟨r0,r1,r2,r3,r4,r5,r6,r7⟩:=B2.c8;have r8:=B3.c 0 rfl;refine⟨by simp,.inl ⟨_,_,rfl,run_takeDeferred hK,?_⟩⟩
  refine⟨Xm #[Xi #[U8 last.b0,U8 last.b1,U8 last.b2,U8 last.b3,U8 last.b4,U8 last.b5,U8 last.b6,U8 last.b7],I6 0],by simp[results,Tryz.f184,go_sem,r0,r1,r2,r3,r4,r5,r6,r7,r8],?_,?_⟩
  ·subst e1;rw[HL.out,zm9 hS e2 e3];rfl
  exact Below.trans hB (belowK_b (w:=W2) (n₀:=w.heap.size) (bS HG2) W D _ _ hD hK rfl rfl)
 have hne:(r != 0)=Xc:=by simpa using hr
 rw[kF hr]at HL;rw[HL.out];refine(callsIn_wide (n:=5)).1 ?_;refine callsIn_of_wp_marks func184 rfl trivial ?_ rfl;simp only[ntmps184,Yg,Xt,Yn,Nat.reduceAdd,Nat.reduceSub,Yq,Yr,Oa,Ys,Yc,Yb]
 gi_wp2_with (
  refine⟨trivial,?_⟩;gi_at_call 210;rw[HW0.out];refine(callsIn_wide.2 hcon).mono ?_;rintro e W1 ⟨rfl,hg1⟩;have Y2:=dD (X2.grew hg1);have Y3:=dD (X3.grew hg1);obtain⟨c0,c1,c2,c3,c4,c5,c6,c7⟩:=Y2.c8;have f0:=Y2.f;have c8:=Y3.c 0 rfl;have f1:=Y3.f 0)
 refine⟨Xm #[Xi #[U8 0,U8 0,U8 0,U8 0,U8 0,U8 0,U8 0,U8 0],I6 r],by simp[results,Tryz.f184,go_sem, *],rfl,?_⟩
 have HG1:=HG0.trans hg1;iterate 9 (refine zL ?_ (by simp;omega) _)
 exact HG1
end
end
section
open Go.RowKit
theorem zy.block {base:Nat} {w:Xn} {n cap:Nat} {b:List (Int × List Int)} (h:zy base w (O (Xa ⟨g,0,Xb⟩) n cap) b):
  n=b.length/\base<=g/\b.length<=cap/\cap<=maxLen/\∃a,w.heap[g]? =Xa (Xk a 117 (0,0))/\a.size=cap*9/\a.toList.take (b.length*9)=b.flatMap ptc:=by
 rcases h.1.2 with⟨b,_⟩|⟨c,c,a,b,c,d,e,f,h,i⟩
 ·cases b
 cases b;exact⟨rfl,c,e,f,a,d,h,i⟩
theorem zy.mk {base:Nat} {w:Xn} {cap:Nat} {c:List (Int × List Int)} {a:Array Xq} (hb:base<=g) (e:w.heap[g]? =Xa (Xk a 117 (0,0))) (h:c.length<=cap) (f:cap<=maxLen) (i:a.size=cap*9) (j:a.toList.take (c.length*9)=c.flatMap ptc)
  (d:∀q∈c,q.2.length=8) (b:c.length*16<=140737488355328):zy base w (O (Xa ⟨g,0,Xb⟩) c.length cap) c:=
 ⟨⟨qT c fun q c=>by rw[zc8,d q c],.inr ⟨g,cap,a,rfl,hb,e,h,f,i,j⟩⟩,d,b⟩
theorem zaD {w:Xn} {rest:List Oper} {a:Act} (c:o.guard=Xb) (s x) (D:o.op= .call { callee:= .builtin .append,args:=#[s,x],argTypes:=#[36,36] })
  (base g cap n:Nat) (j:Int × List Int) (r:List (Int × List Int)) (b:zy base w (O (Xa ⟨g,0,Xb⟩) n cap) (j :: r)) (E:a.eval s= O (Xa ⟨g,0,Xb⟩) 0 cap) (m:Nat) (F:a.eval x= O (Xa ⟨g,9,Xb⟩) r.length m)
  (y:∀w',zy base w' (O (Xa ⟨g,0,Xb⟩) r.length cap) r->w.grownBy w' (Xa g)->w'.heap.size=w.heap.size->wpList prog ops Q rest (a.put o.dst (O (Xa ⟨g,0,Xb⟩) r.length cap)) w'):wpList prog ops Q (o :: rest) a w:=by
 refine wpList_plain c fun K z=>?_
 obtain⟨c,A,c,C,e,i,d,v⟩:=b.block;obtain⟨G,B,d,l,d⟩:=info_parts zr8;have h:=b.2.1;have f:(r.flatMap ptc).length=r.length*9:=qT r fun q k=>by rw[zc8,h q (by simp[k])]
 have d:(ptc j).length=9:=by rw[zc8,h j (by simp)]
 simp only[Xt]at c v;have c:∀j u,(r.flatMap ptc)[j]? =Xa u->w.cell? ((⟨g,9,Xb⟩:Addr).add j)=Xa u:=fun j u t=>by
  have p:j<r.length*9:=by rw[<-f];exact(gS.1 t).1
  rw[Yx];have p:(e.toList.take ((r.length+1)*9))[9+j]? =Xa u:=by
   rw[v,List.flatMap_cons,aR (by omega),d]
   simpa using t
  rw[List.getElem?_take_of_lt (by omega)]at p
  simp only[World.cell?,i]
  simpa using p
 have d:=run_append_room (P:=prog) w 36 o.type 117 G underlying36 B g 0 cap e i ⟨g,9,Xb⟩ r.length m (r.flatMap ptc) (by rw[l];exact f) c (qJ ze5 r) (by omega) (by rw[f];simp;omega)
 simp only[Nat.zero_mul,List.take_zero,Yc,zA]at d;unfold Oper.wp execOp;simp only[D,resolve,invoke,builtin,Xs,Xw,rA,Yj,mP,Ym,E,F,d];refine z _ _ (y _ (zy.mk A (setRow_heap w g e _ 117 _ i) (by omega) C ?_ ?_ (fun q k=>h q (by simp[k])) (by have:=b.2.2;simp at this;omega)) (Zs _ _ _) (by simp[World.setRow]))
 ·simp[f];omega
 rw[<-f];simp
theorem zeQ (n:Nat):∀u∈(Builtin.zeroCells #[I6 0,U8 0,U8 0,U8 0,U8 0,U8 0,U8 0,U8 0,U8 0] n).toList,u.oneCell'=Xc:=fun u a=>by
 simp only[Builtin.zeroCells,Array.toList_map,Xy,Array.toList_range,List.mem_range]at a;obtain⟨i,_,rfl⟩:=a;have a:i % 9<9:=Nat.mod_lt _ (by decide)
 show(#[I6 0,U8 0,U8 0,U8 0,U8 0,U8 0,U8 0,U8 0,U8 0]:Array Xq)[i % 9]!.oneCell'=Xc
 generalize i % 9=k at a
 match k,a with
 | 0,_=>rfl
 | 1,_=>rfl
 | 2,_=>rfl
 | 3,_=>rfl
 | 4,_=>rfl
 | 5,_=>rfl
 | 6,_=>rfl
 | 7,_=>rfl
 | 8,_=>rfl
theorem zcr {w:Xn} {rest:List Oper} {a:Act} (d:o.guard=Xb) (x) (t:o.op= .call { callee:= .builtin .clear,args:=#[x],argTypes:=#[36] })
  (base g cap n:Nat) (e:List (Int × List Int)) (b:zy base w (O (Xa ⟨g,0,Xb⟩) n cap) e) (c:Addr) (k l:Nat) (u:a.eval x= O (Xa c) k l) (h:e.length+k<=cap) (f:0<k->c=⟨g,e.length*9,Xb⟩)
  (q:∀w',zy base w' (O (Xa ⟨g,0,Xb⟩) n cap) e->w.grownBy w' (Xa g)->w'.heap.size=w.heap.size->wpList prog ops Q rest (a.put o.dst (Xm #[])) w'):wpList prog ops Q (o :: rest) a w:=by
 refine wpList_plain d fun K r=>?_
 cases k with
 | zero=>
  have d:(Builtin.clear_ #[36] o.type #[O (Xa c) 0 l]).run prog w= .ok (Xm #[]) w:=by
   simp[Builtin.clear_,run_underlying underlying36]
  unfold Oper.wp execOp;simp only[t,resolve,invoke,builtin,Xs,Xw,rA,Yj,mP,Ym,u,d];exact r _ _ (q w b (World.grownBy.rfl' _ _) rfl)
 | succ k=>
  have c:=f (by omega)
  subst c;obtain⟨z,v,p,y,c,s,i,A⟩:=b.block;obtain⟨Z,m⟩:=kB ((Builtin.zeroCells #[I6 0,U8 0,U8 0,U8 0,U8 0,U8 0,U8 0,U8 0,U8 0] (k+1)).toList);have j:Z.length=(k+1)*9:=by
   rw[<-m,Array.length_toList,size_zeroCells];rfl
  have f:∀h∈Z,h.oneCell'=Xc:=by rw[<-m];exact zeQ _
  have h:=run_storeCells_at prog g (e.length*9) 117 Z 0 c w s (by rw[j,i];omega) f
  simp only[Nat.add_zero]at h;have d:(Builtin.clear_ #[36] o.type #[O (Xa ⟨g,e.length*9,Xb⟩) (k+1) l]).run prog w= .ok (Xm #[]) (w.setRow g (c.toList.take (e.length*9)++Z++c.toList.drop (e.length*9+Z.length)).toArray):=by
   simp only[Builtin.clear_]
   simp[run_underlying underlying36,Tryz.zeroValue117,Value.cells,m,h]
  unfold Oper.wp execOp;simp only[t,resolve,invoke,builtin,Xs,Xw,rA,Yj,mP,Ym,u,d];subst z;have d:c.toList.length=cap*9:=by simpa using i
  refine r _ _ (q _ (zy.mk v (setRow_heap w g c _ 117 _ s) p y ?_ ?_ b.2.1 b.2.2) (Zs _ _ _) (by simp[World.setRow]))
  ·simp only[Yg,lA,Yk,List.length_drop,j,d];omega
  rw[Yy,List.take_left' (by rw[Yk,d];omega)]
  exact A
theorem zdr {a b c:Xn} (h:zb a b) (k:b.grownBy c (Xa g)):a.grownBy c (Xa g):=
 ⟨k.os.trans h.os,k.tape.trans h.tape,k.output.trans h.output,nT h.size k.size,fun i e d=>(k.block i (Yu e h.size) d).trans (h.block i e)⟩
theorem zgW (base g cap:Nat) (j:Int × List Int) (r:List (Int × List Int)) (w:Xn) (b:zy base w (O (Xa ⟨g,0,Xb⟩) (r.length+1) cap) (j :: r)) (l:1<=r.length) (f:r.length<=400):
  Xp prog 212 #[O (Xa ⟨g,0,Xb⟩) (r.length+1) cap,I6 0,I6 1] w fun e w'=>e= Xl (O (Xa ⟨g,0,Xb⟩) r.length cap)/\zy base w' (O (Xa ⟨g,0,Xb⟩) r.length cap) r/\w.grownBy w' (Xa g):=by
 obtain⟨_,_,a,c,_⟩:=b.block;have i:=dD b;simp only[Xt]at a;obtain⟨k,d⟩:=kA r.length;have h:cap<=9223372036854775807:=by simpa [maxLen]using c
 rw[d.out]at a l f i⊢;clear b c;have b:¬cap=1:=by omega
 have b:((k+1:Nat):Int)=(k:Int)+1:=by omega
 have b:(k:Int)+1<=(cap:Int):=by omega
 have b:(1:Int)<=(k:Int):=by omega
 go_enter func212,ntmps212
 go_wp2;have f:Nonempty (zg w):=⟨⟨_,zb.refl _⟩⟩;refine jO 6 [] zZ (by kernel_rfl) rfl rfl (by decide) (by simp) (by simp) ?_
 simp only[List.take,List.drop];iterate 6 refine zf ?_
 refine zP fun w' c _=>?_
 have b:=dD (i.grew c);have l:=dD c;clear c f
 go_wp2_with (first
  | (refine zaD rfl (.tmp 22) (.tmp 25) rfl base g cap (k+1) j r b rfl (cap - 1) (by rw[d.out];rfl) ?_;intro h c b f;have j:Xo (zy base h (O (Xa ⟨g,0,Xb⟩) r.length cap) r):=c;have i:Xo (w'.grownBy h (Xa g)):=b;clear c b f;rw[d.out])
  | (refine zcr rfl (.tmp 31) rfl base g cap _ r j _ 1 _ rfl (by rw[d.out];exact a) (fun _=>by rw[d.out]) ?_;intro f b a c;have k:Xo (zy base f (O (Xa ⟨g,0,Xb⟩) r.length cap) r):=b;have j:Xo (h.grownBy f (Xa g)):=a;clear b a c))
 go_ret;exact⟨rfl,by rw[<-d.out];exact k,zdr l (Zj i j)⟩
theorem zB.beside {base:Nat} {w:Xn} {a c:Xq} {b:List (List Int)} {d:List (Int × List Int)} (h:zB base w a b) (k:zy base' w c d) (i:w.grownBy w' c.ownBlock):zB base w' a b:=by
 refine⟨⟨h.1.1,?_⟩,h.2⟩
 rcases h.1.2 with d|⟨g,a,b,rfl,e,c,f⟩
 ·exact .inl d
 refine .inr ⟨g,a,b,rfl,e,?_,f⟩;rw[i.block g (aS.1 c).1 (fun e=>?_)]
 ·exact c
 rcases k.1.2 with⟨rfl,_⟩|⟨a,a,a,rfl,_,a,_⟩
 ·cases e
 simp only[Value.ownBlock,Option.some.injEq]at e;subst e;rw[c]at a;cases a
theorem zy.beside {base:Nat} {w:Xn} {a c:Xq} {d:List (List Int)} {b:List (Int × List Int)} (k:zy base' w c b) (h:zB base w a d) (i:w.grownBy w' a.ownBlock):zy base' w' c b:=by
 refine⟨⟨k.1.1,?_⟩,k.2⟩
 rcases k.1.2 with d|⟨g,a,b,rfl,e,c,f⟩
 ·exact .inl d
 refine .inr ⟨g,a,b,rfl,e,?_,f⟩;rw[i.block g (aS.1 c).1 (fun e=>?_)]
 ·exact c
 rcases h.1.2 with⟨rfl,_⟩|⟨a,a,a,rfl,_,a,_⟩
 ·cases e
 simp only[Value.ownBlock,Option.some.injEq]at e;subst e;rw[c]at a;cases a
theorem zy.lt {base:Nat} {w:Xn} {v:Xq} {a:List (Int × List Int)} (h:zy base w v a):∀g,v.ownBlock=Xa g->base<=g/\g<w.heap.size:=h.1.lt
theorem zB.lt {base:Nat} {w:Xn} {v:Xq} {a:List (List Int)} (h:zB base w v a):∀g,v.ownBlock=Xa g->base<=g/\g<w.heap.size:=h.1.lt
theorem zy.ne {base:Nat} {w:Xn} {v:Xq} {a:List (Int × List Int)} (h:zy base w v a) {cs:List Xq} (hb:zn w b 38 cs):∀g,v.ownBlock=Xa g->b≠g:=fun g a e=>by
 subst e
 rcases h.1.2 with⟨rfl,_⟩|⟨c,c,c,rfl,_,c,_⟩
 ·cases a
 simp only[Value.ownBlock,Option.some.injEq]at a;subst a;rw[hb]at c;cases c
theorem zB.ne {base:Nat} {w:Xn} {v:Xq} {a:List (List Int)} (h:zB base w v a) {cs:List Xq} (hb:zn w b 38 cs):∀g,v.ownBlock=Xa g->b≠g:=fun g a e=>by
 subst e
 rcases h.1.2 with⟨rfl,_⟩|⟨c,c,c,rfl,_,c,_⟩
 ·cases a
 simp only[Value.ownBlock,Option.some.injEq]at a;subst a;rw[hb]at c;cases c
theorem zB.setOther {base:Nat} {w:Xn} {v:Xq} {b:List (List Int)} (h:zB base w v b) {a:Addr} (c:∀g,v.ownBlock=Xa g->a.block≠g) (u):zB base (w.setCell a u) v b:=⟨jM h.1 c u,h.2⟩
theorem zy.setOther {base:Nat} {w:Xn} {v:Xq} {b:List (Int × List Int)} (h:zy base w v b) {a:Addr} (c:∀g,v.ownBlock=Xa g->a.block≠g) (u):zy base (w.setCell a u) v b:=⟨jM h.1 c u,h.2⟩
theorem zB.form {base:Nat} {w:Xn} {v:Xq} {b:List (List Int)} (h:zB base w v b):∃a c,v= O a b.length c:=by
 obtain⟨a,c,b,_⟩:=h.at.rows;exact⟨a,c,b⟩
theorem zy.form {base:Nat} {w:Xn} {v:Xq} {b:List (Int × List Int)} (h:zy base w v b):∃a c,v= O a b.length c:=by
 obtain⟨a,c,b,_⟩:=h.at.rows;exact⟨a,c,b⟩
theorem zy.snoc {base:Nat} {w:Xn} {v:Xq} {a:List (Int × List Int)} {q:Int × List Int} (h:w.ownsRow base 117 9 v (a.length+1) (a.flatMap ptc++ptc q)) (b:∀x∈a,x.2.length=8) (c:q.2.length=8) (hb:(a.length+1)*16<=140737488355328):zy base w v (a++ [q]):=by
 refine⟨by simpa using h,fun x a=>?_,by simpa using hb⟩
 rcases Yd.1 a with a|a
 ·exact b x a
 simp at a;subst a;exact c
theorem znd {base d R:Nat} {w:Xn} {c b:Xq} {f:List (List Int)} {g:List (Int × List Int)} {cs:List Xq} (hp:zB base w c f) (i:zy base w b g) (h:zn w d 38 cs) (e:R<base) (hb:base'<=base):
  qy base' (((w.setCell ⟨d,1,Xb⟩ b).setCell ⟨R,0,Xb⟩ c).setCell ⟨R,1,Xb⟩ b) (Xi #[c,b]) f g:=by
 have f:=((hp.setOther (a:=⟨d,1,Xb⟩) (hp.ne h) b).setCell (a:=⟨R,0,Xb⟩) e c).setCell (a:=⟨R,1,Xb⟩) e b;have g:=((i.setOther (a:=⟨d,1,Xb⟩) (i.ne h) b).setCell (a:=⟨R,0,Xb⟩) e c).setCell (a:=⟨R,1,Xb⟩) e b;exact qy.base (zaT.new ⟨_,_,rfl,f,g⟩) hb
theorem zy.head {base:Nat} {w:Xn} {n cap:Nat} {m b c d e f h i k:Int} {r:List (Int × List Int)} (l:zy base w (O (Xa ⟨g,0,Xb⟩) n cap) ((m,[b,c,d,e,f,h,i,k]) :: r)):
  w.cell? ⟨g,0,Xb⟩=Xa (I6 m)/\w.cell? ⟨g,1,Xb⟩=Xa (U8 b)/\w.cell? ⟨g,2,Xb⟩=Xa (U8 c)/\w.cell? ⟨g,3,Xb⟩=Xa (U8 d)/\w.cell? ⟨g,4,Xb⟩=Xa (U8 e)/\w.cell? ⟨g,5,Xb⟩=Xa (U8 f)/\w.cell? ⟨g,6,Xb⟩=Xa (U8 h)/\w.cell? ⟨g,7,Xb⟩=Xa (U8 i)/\w.cell? ⟨g,8,Xb⟩=Xa (U8 k):=by
 have a:∀(j:Nat) u,(((m,[b,c,d,e,f,h,i,k]) :: r).flatMap ptc)[j]? =Xa u->w.cell? ⟨g,j,Xb⟩=Xa u:=fun j u b=>by
  have:=l.1.cells rfl j u b;rwa [Yx,zA]at this
 exact⟨a 0 _ rfl,a 1 _ rfl,a 2 _ rfl,a 3 _ rfl,a 4 _ rfl,a 5 _ rfl,a 6 _ rfl,a 7 _ rfl,a 8 _ rfl⟩
def jg (ps:List (List Int)) (qs:List (Int × List Int)):List (List Int):=if qs.length=400 then ps.set (qs.headD (0,[])).1.toNat (qs.headD (0,[])).2 else ps
def jf (qs:List (Int × List Int)) (m:Int) (p:List Int):List (Int × List Int):=(if qs.length=400 then qs.tail else qs)++ [(m,p)]
def q8 (ps:List (List Int)) (qs:List (Int × List Int)) (m:Int):List (List Int):=if zr ps.length qs m=0 then jg ps qs else []
def q7 (ps:List (List Int)) (qs:List (Int × List Int)) (m:Int) (p:List Int):List (Int × List Int):=if zr ps.length qs m=0 then jf qs m p else []
theorem zlK (d) (b:List (List Int)) (a:List (Int × List Int)) (m:Int) (p:List Int) (hp:p.length=8) (w:Xn) (h:zbD w d b a) (B:¬zr b.length a m=0):
  Xp prog 185 #[d,I6 m,Xi (pgc p).toArray] w fun e w'=>∃z,e= Xl (Xm #[z,I6 (zr b.length a m)])/\qy w.heap.size w' z (q8 b a m) (q7 b a m p)/\zb w w':=by
 obtain⟨f,q,r,s,t,u,x,y,rfl⟩:=zfh p hp;have C:=dD h;obtain⟨c,c,rfl,g,c⟩:=h;have D:=dD c;obtain⟨j,l,rfl,_⟩:=g.rows;obtain⟨k,n,rfl,_⟩:=c.rows;clear g c hp
 show Xp prog 185 #[Xi #[O j b.length l,O k a.length n],I6 m,Xi #[U8 f,U8 q,U8 r,U8 s,U8 t,U8 u,U8 x,U8 y]] w _
 have A:Xo (q8 b a m=if zr b.length a m=0 then jg b a else []):=rfl;have h:Xo (q7 b a m [f,q,r,s,t,u,x,y]=if zr b.length a m=0 then jf a m [f,q,r,s,t,u,x,y]else []):=rfl;obtain⟨i,c⟩:=kB (((w.alloc (Xk #[O j b.length l,O k a.length n] 38)).alloc (Xk #[U8 f,U8 q,U8 r,U8 s,U8 t,U8 u,U8 x,U8 y] 91)).alloc (Xk #[eS,eS] 38));have g:Xo (zb w i):=show zb w i by rw[<-c];exact((za _ _).trans (za _ _)).trans (za _ _)
 have E:Xo (Box i w.heap.size [O j b.length l,O k a.length n]):=dD<|by rw[<-c];exact((Box.top w [O j b.length l,O k a.length n] _ rfl).alloc _).alloc _
 have F:Xo (Box i (w.heap.size+1) [U8 f,U8 q,U8 r,U8 s,U8 t,U8 u,U8 x,U8 y]):=dD<|by rw[<-c];exact(Box.top _ [U8 f,U8 q,U8 r,U8 s,U8 t,U8 u,U8 x,U8 y] _ (by simp)).alloc _
 have s:Xo (Box i (w.heap.size+1+1) [eS,eS]):=dD<|by rw[<-c];exact Box.top _ [eS,eS] _ (by simp)
 have f:=QW j b.length l (O k a.length n) a m i (D.grew g);have q:∀W,zb i W->Xp prog 53 #[Xi #[O j b.length l,O k a.length n]] W fun e w'=>∃z,e= Xl z/\zaT W.heap.size w' z b a/\zb W w':=fun W i=>zdb _ b a W (C.grew (g.trans i))
 obtain⟨r,j⟩:=kA (zr b.length a m);rw[j.out]at f A h⊢;obtain⟨i,i⟩:=kA b.length;obtain⟨nq,b⟩:=kA a.length;rw[i.out,b.out]at f c E⊢;simp only[i.out,b.out]at q;have a:=dD c;clear c;have b:¬r=0:=fun e=>B (j.trans e)
 have c:(r != 0)=Xc:=by simpa using b
 rw[kF b]at A h;rw[A.out,h.out]
 go_enter func185,ntmps185
 go_wp2_with (
  go_at_call 210;rw[a.out];refine f.mono ?_;rintro e a ⟨rfl,a⟩
  have b:=s.grew a;have c:=b.c 0 rfl;have c:=b.c 1 rfl;have c:=b.f)
 refine bodyPost_ret (v:= Xm #[Xi #[eS,eS],I6 r]) (by simp[results,Tryz.results185,go_sem, *]) rfl ⟨_,rfl,zib _ _,?_⟩
 have b:=g.trans a;iterate 2 (refine zL ?_ (by simp;omega) _)
 exact b
theorem zlJ (d) (b:List (List Int)) (a:List (Int × List Int)) (m:Int) (p:List Int) (hp:p.length=8) (w:Xn) (c:zbD w d b a) (H:zr b.length a m=0) (Q:¬a.length=400):
  Xp prog 185 #[d,I6 m,Xi (pgc p).toArray] w fun e w'=>∃D,e= Xl (Xm #[D,I6 (zr b.length a m)])/\qy w.heap.size w' D (q8 b a m) (q7 b a m p)/\zb w w':=by
 obtain⟨g,h,i,j,k,l,n,q,rfl⟩:=zfh p hp;have C:=dD c;obtain⟨f,f,rfl,r,f⟩:=c;have x:=dD f;obtain⟨c,z,rfl,_⟩:=r.rows;obtain⟨y,A,rfl,_⟩:=f.rows;clear r f hp
 show Xp prog 185 #[Xi #[O c b.length z,O y a.length A],I6 m,Xi #[U8 g,U8 h,U8 i,U8 j,U8 k,U8 l,U8 n,U8 q]] w _
 have B:Xo (q8 b a m=if zr b.length a m=0 then jg b a else []):=rfl;have t:Xo (q7 b a m [g,h,i,j,k,l,n,q]=if zr b.length a m=0 then jf a m [g,h,i,j,k,l,n,q]else []):=rfl;obtain⟨u,f⟩:=kB (((w.alloc (Xk #[O c b.length z,O y a.length A] 38)).alloc (Xk #[U8 g,U8 h,U8 i,U8 j,U8 k,U8 l,U8 n,U8 q] 91)).alloc (Xk #[eS,eS] 38));have r:Xo (zb w u):=show zb w u by rw[<-f];exact((za _ _).trans (za _ _)).trans (za _ _)
 have E:Xo (Box u w.heap.size [O c b.length z,O y a.length A]):=dD<|by rw[<-f];exact((Box.top w [O c b.length z,O y a.length A] _ rfl).alloc _).alloc _
 have T:Xo (Box u (w.heap.size+1) [U8 g,U8 h,U8 i,U8 j,U8 k,U8 l,U8 n,U8 q]):=dD<|by rw[<-f];exact(Box.top _ [U8 g,U8 h,U8 i,U8 j,U8 k,U8 l,U8 n,U8 q] _ (by simp)).alloc _
 have G:Xo (Box u (w.heap.size+1+1) [eS,eS]):=dD<|by rw[<-f];exact Box.top _ [eS,eS] _ (by simp)
 have s:=QW c b.length z (O y a.length A) a m u (x.grew r);have x:∀W,zb u W->Xp prog 53 #[Xi #[O c b.length z,O y a.length A]] W fun e w'=>∃D,e= Xl D/\zaT W.heap.size w' D b a/\zb W w':=fun W c=>zdb _ b a W (C.grew (r.trans c))
 obtain⟨c,y⟩:=kA (zr b.length a m);rw[y.out]at s B t⊢;obtain⟨F,A⟩:=kA b.length;obtain⟨nq,c⟩:=kA a.length;rw[A.out,c.out]at s f E⊢;simp only[A.out,c.out]at x;have C:=dD f;clear f;have f:=y.symm.trans H;subst f;rw[kE rfl]at B t;obtain⟨z,f,K,H⟩:=qP y.out;obtain⟨y,f,L⟩:=ZW z;obtain⟨X,W,M,N,P⟩:=info_parts zr8;rw[B.out,t.out];clear K H;have t:¬nq=400:=fun e=>Q (c.trans e)
 have B:((nq:Int) == 400)=Xd:=by simp;omega
 have H:Xo (jg b a=b):=dD<|by unfold jg;rw[kF (by rw[c.out];exact t)]
 have K:Xo (jf a m [g,h,i,j,k,l,n,q]=a++ [(m,[g,h,i,j,k,l,n,q])]):=dD<|by unfold jf;rw[kF (by rw[c.out];exact t)]
 have t:=dD f;clear f L y z
 go_enter func185,ntmps185
 go_wp2_with (first
  | (
   go_at_call 210;rw[C.out];refine s.mono ?_;rintro e C ⟨rfl,B⟩
   have y:Xo (zb u C):=B;have U:=(E.grew B).c 0 rfl;have V:=(E.grew B).c 1 rfl)
  | (
   go_at_call 53;refine(x C y).mono ?_;rintro e z ⟨D,rfl,f,E⟩
   obtain⟨s,s,rfl,Q,R⟩:=f;obtain⟨f,s,rfl⟩:=Q.form;obtain⟨u,x,rfl⟩:=R.form;have S:Xo (zB C.heap.size z (O f b.length s) b):=Q;have L:Xo (zy C.heap.size z (O u a.length x) a):=R;have D:Xo (zb C z):=E;rw[A.out]at S;rw[c.out]at L;rw[A.out,c.out];clear Q R B E U V;have b:=(T.grew y).grew D.out;have B:w.heap.size+1<z.heap.size:=b.lt;obtain⟨u0,u1,u2,u3,u4,u5,u6,u7⟩:=b.c8)
  | (
   at_builtin
   have A:=L.grew ((za z (Xk #[O f F s,O u nq x] 38)).trans (za _ (Xk #[I6 m,U8 g,U8 h,U8 i,U8 j,U8 k,U8 l,U8 n,U8 q] 117)));have Q:=S.grew ((za z (Xk #[O f F s,O u nq x] 38)).trans (za _ (Xk #[I6 m,U8 g,U8 h,U8 i,U8 j,U8 k,U8 l,U8 n,U8 q] 117)));have E:=(zn.top z [O f F s,O u nq x] 38 rfl).grew (za _ (Xk #[I6 m,U8 g,U8 h,U8 i,U8 j,U8 k,U8 l,U8 n,U8 q] 117));have R:=((((G.grew y).grew D).grew (za z (Xk #[O f F s,O u nq x] 38))).grew (za _ (Xk #[I6 m,U8 g,U8 h,U8 i,U8 j,U8 k,U8 l,U8 n,U8 q] 117)));refine wpList_append_own _ rfl (.tmp 40) (.tmp 44) 36 rfl C.heap.size 117 X _ 9 16 underlying36 W M N P rfl (by decide) _ _ _ rfl A.1 ⟨z.heap.size+1,0,Xb⟩ 1 1 (ptc (m,[g,h,i,j,k,l,n,q])) rfl rfl (qW.top _ (ptc (m,[g,h,i,j,k,l,n,q])) _ (by simp)) (ze5 _) (jj (by have:=t.out;omega)) (by have:=t.out;omega) (by have:=bS D.out;simp;omega) ?_
   intro N x u b _;have M:Xo (zy C.heap.size x N (a++ [(m,[g,h,i,j,k,l,n,q])])):=zy.snoc u L.2.1 rfl (by have:=t.out;omega)
   have n:=dD<|Q.beside A b;have g:=dD<|E.beside b (A.ne E);have h:Xo (Box x (w.heap.size+1+1) [eS,eS]):=R.beside b (fun a i=>by have j:=(A.lt a i).1;have k:=(G.grew y).lt;omega)
   have l:Xo (zb w x):=zX (((r.trans y).trans D).trans ((za _ _).trans (za _ _))) b (fun a i=>by have j:=(A.lt a i).1;have k:=bS (r.trans y);omega)
   obtain⟨i,q,a⟩:=M.form;rw[lA,c.out,Yp]at a;subst a;have a:=g.box.c 0 rfl;have a:=g.box.c 1 rfl;have a:=g.box.f;have a:=h.c 0 rfl;have a:=h.c 1 rfl;have a:=h.f;have a:w.heap.size+1+1≠z.heap.size:=by have:=((G.grew y).grew D).lt;omega
   clear u b u0 u1 u2 u3 u4 u5 u6 u7 B))
 refine bodyPost_ret (v:= Xm #[Xi #[O f F s,O i (nq+1) q],I6 0]) (by simp[results,Tryz.results185,go_sem, *]) rfl ⟨_,rfl,?_,?_⟩
 ·rw[H.out,K.out];exact znd n M g (G.grew y).lt (bS (r.trans y))
 have j:=bS (r.trans y);have k:=bS D.out;iterate 3 (refine zL ?_ (by simp;omega) _)
 exact l.out
theorem zj0 (d) (g:List (List Int)) (f:List (Int × List Int)) (m:Int) (p:List Int) (hp:p.length=8) (w:Xn) (ck:zbD w d g f) (bw:zr g.length f m=0) (da:f.length=400):
  Xp prog 185 #[d,I6 m,Xi (pgc p).toArray] w fun e w'=>∃ak,e= Xl (Xm #[ak,I6 (zr g.length f m)])/\qy w.heap.size w' ak (q8 g f m) (q7 g f m p)/\zb w w':=by
 obtain⟨s,t,u,x,y,z,A,B,rfl⟩:=zfh p hp;have cw:=dD ck;obtain⟨dt,dw,rfl,cj,bt⟩:=ck;have cf:=dD bt;obtain⟨ag,ai,rfl,_⟩:=cj.rows;obtain⟨ah,aj,rfl,_⟩:=bt.rows;clear cj bt hp
 show Xp prog 185 #[Xi #[O ag g.length ai,O ah f.length aj],I6 m,Xi #[U8 s,U8 t,U8 u,U8 x,U8 y,U8 z,U8 A,U8 B]] w _
 have bc:Xo (q8 g f m=if zr g.length f m=0 then jg g f else []):=rfl;have a8:Xo (q7 g f m [s,t,u,x,y,z,A,B]=if zr g.length f m=0 then jf f m [s,t,u,x,y,z,A,B]else []):=rfl;obtain⟨Z,q⟩:=kB (((w.alloc (Xk #[O ag g.length ai,O ah f.length aj] 38)).alloc (Xk #[U8 s,U8 t,U8 u,U8 x,U8 y,U8 z,U8 A,U8 B] 91)).alloc (Xk #[eS,eS] 38));have k:Xo (zb w Z):=show zb w Z by rw[<-q];exact((za _ _).trans (za _ _)).trans (za _ _)
 have bj:Xo (Box Z w.heap.size [O ag g.length ai,O ah f.length aj]):=dD<|by rw[<-q];exact((Box.top w [O ag g.length ai,O ah f.length aj] _ rfl).alloc _).alloc _
 have b7:Xo (Box Z (w.heap.size+1) [U8 s,U8 t,U8 u,U8 x,U8 y,U8 z,U8 A,U8 B]):=dD<|by rw[<-q];exact(Box.top _ [U8 s,U8 t,U8 u,U8 x,U8 y,U8 z,U8 A,U8 B] _ (by simp)).alloc _
 have a9:Xo (Box Z (w.heap.size+1+1) [eS,eS]):=dD<|by rw[<-q];exact Box.top _ [eS,eS] _ (by simp)
 have K:=QW ag g.length ai (O ah f.length aj) f m Z (cf.grew k);have a7:∀af,zb Z af->Xp prog 53 #[Xi #[O ag g.length ai,O ah f.length aj]] af fun e w'=>∃ak,e= Xl ak/\zaT af.heap.size w' ak g f/\zb af w':=fun af db=>zdb _ g f af (cw.grew (k.trans db))
 obtain⟨G,be⟩:=kA (zr g.length f m);rw[be.out]at K bc a8⊢;obtain⟨X,C⟩:=kA g.length;obtain⟨nq,n⟩:=kA f.length;rw[C.out,n.out]at K q bj⊢;simp only[C.out,n.out]at a7;have bf:Xo (_=Z):=q;clear q;have dd:=be.symm.trans bw;subst dd;rw[kE rfl]at bc a8;obtain⟨ax,dv,bs,br⟩:=qP be.out;obtain⟨au,ae,ar⟩:=ZW ax;obtain⟨de,dc,bx,bz,c8⟩:=info_parts zr8;rw[bc.out,a8.out];clear bs br;have an:=n.symm.trans da;subst an;obtain⟨b1,G,rfl⟩:∃b1 G,f=b1 :: G:=by
  cases f with
  | nil=>exact absurd (show _ from n.out) (by simp)
  | cons b1 G=>exact⟨b1,G,rfl⟩
 have a3:Xo (G.length=399):=dD<|by have:=n.out;simpa using this
 obtain⟨dq,cn⟩:=b1;obtain⟨N,P,Q,R,S,T,U,V,rfl⟩:=zfh cn (cf.2.1 (dq,cn) (by simp))
 obtain⟨F,a6,a5⟩:=ar _ (List.mem_cons_self);simp only at a6;subst a6;have ap:F<X:=by rw[<-C.out];exact a5
 have cl:(F:Int)< (X:Int):=by omega
 have bb:Xo (jg g (((F:Int),[N,P,Q,R,S,T,U,V]) :: G)=g.set F [N,P,Q,R,S,T,U,V]):=dD<|by unfold jg;rw[kE n.out];rfl
 have bd:Xo (jf (((F:Int),[N,P,Q,R,S,T,U,V]) :: G) m [s,t,u,x,y,z,A,B]=G++ [(m,[s,t,u,x,y,z,A,B])]):=dD<|by unfold jf;rw[kE n.out];rfl
 clear ae ar au ax a5
 go_enter func185,ntmps185
 go_wp2_with (first
  | (
   go_at_call 210;rw[bf.out];refine K.mono ?_;rintro e I ⟨rfl,a1⟩
   have j:Xo (zb Z I):=a1;have d8:=(bj.grew a1).c 0 rfl;have d9:=(bj.grew a1).c 1 rfl)
  | (
   go_at_call 53;refine(a7 I j).mono ?_;rintro e i ⟨ak,rfl,bo,ao⟩
   obtain⟨d6,dr,rfl,cc,ay⟩:=bo;obtain⟨H,c,bn⟩:∃H c,d6= O (Xa ⟨H,0,Xb⟩) X c:=by
    rcases cc.1.2 with⟨_,al⟩|⟨bl,aa,bk,al,_⟩
    ·have:=C.out;omega
    exact⟨bl,aa,by rw[al,C.out]⟩
   subst bn;obtain⟨l,b,bu⟩:∃l b,dr= O (Xa ⟨l,0,Xb⟩) 400 b:=by
    rcases ay.1.2 with⟨_,al⟩|⟨bl,aa,bk,al,_⟩
    ·simp at al
    exact⟨bl,aa,by rw[al,n.out]⟩
   subst bu;have ch:Xo (zB I.heap.size i (O (Xa ⟨H,0,Xb⟩) X c) g):=cc;have cy:Xo (zy I.heap.size i (O (Xa ⟨l,0,Xb⟩) 400 b) (((F:Int),[N,P,Q,R,S,T,U,V]) :: G)):=ay;have Y:Xo (zb I i):=ao;obtain⟨df,dg,dh,di,dj,dk,dl,dm,dn⟩:=ay.head;have dp:l<i.heap.size:=(ay.lt l rfl).2;clear cc ay a1 ao d8 d9)
  | (
   refine zbG rfl (.tmp 34) (.tmp 33) rfl I.heap.size _ g (ch.grew ((za i (Xk #[O (Xa ⟨H,0,Xb⟩) X c,O (Xa ⟨l,0,Xb⟩) 400 b] 38)).trans (za _ (Xk #[I6 (F:Int),U8 N,U8 P,U8 Q,U8 R,U8 S,U8 T,U8 U,U8 V] 117)))) H F rfl (by rw[C.out];exact ap) [N,P,Q,R,S,T,U,V] rfl _ rfl (by simp) rfl ?_
   intro b5 az D _;have cx:=cy.grew ((za i (Xk #[O (Xa ⟨H,0,Xb⟩) X c,O (Xa ⟨l,0,Xb⟩) 400 b] 38)).trans (za _ (Xk #[I6 (F:Int),U8 N,U8 P,U8 Q,U8 R,U8 S,U8 T,U8 U,U8 V] 117)));have bh:=ch.grew ((za i (Xk #[O (Xa ⟨H,0,Xb⟩) X c,O (Xa ⟨l,0,Xb⟩) 400 b] 38)).trans (za _ (Xk #[I6 (F:Int),U8 N,U8 P,U8 Q,U8 R,U8 S,U8 T,U8 U,U8 V] 117)));have cd:=(zn.top i [O (Xa ⟨H,0,Xb⟩) X c,O (Xa ⟨l,0,Xb⟩) 400 b] 38 rfl).grew (za _ (Xk #[I6 (F:Int),U8 N,U8 P,U8 Q,U8 R,U8 S,U8 T,U8 U,U8 V] 117));have bp:=bh.lt H rfl;have b4:=dD<|cx.beside bh D;have cz:=dD az;have b2:=dD<|cd.beside D (bh.ne cd);have d2:Xo (Box b5 (w.heap.size+1+1) [eS,eS]):=((((a9.grew j).grew Y).grew (za i _)).grew (za _ _)).beside D (fun a0 r=>by cases r;have W:=(a9.grew j).lt;omega)
   have cp:Xo (Box b5 (w.heap.size+1) [U8 s,U8 t,U8 u,U8 x,U8 y,U8 z,U8 A,U8 B]):=((((b7.grew j).grew Y).grew (za i _)).grew (za _ _)).beside D (fun a0 r=>by cases r;have W:=(b7.grew j).lt;omega)
   have cr:Xo (zb w b5):=zX (((k.trans j).trans Y).trans ((za _ _).trans (za _ _))) D (fun a0 r=>by cases r;have W:=bS (k.trans j);omega)
   have b8:=b2.box.c 0 rfl;have b9:=b2.box.c 1 rfl;clear az D df dg dh di dj dk dl dm dn dp bp)
  | (
   go_at_call 212
   have L:=zgW I.heap.size l b ((F:Int),[N,P,Q,R,S,T,U,V]) G b5 (by rw[a3.out];exact b4) (by rw[a3.out];decide) (by rw[a3.out];decide)
   rw[a3.out]at L;refine L.mono ?_;rintro e a4 ⟨rfl,b0,E⟩;have bq:=b4.lt l rfl;have bg:=dD b0;have ci:=dD<|cz.beside b4 E;have a2:=dD<|b2.beside E (b4.ne b2);have d3:Xo (Box a4 (w.heap.size+1+1) [eS,eS]):=d2.beside E (fun a0 r=>by cases r;have W:=(a9.grew j).lt;omega)
   have ba:Xo (Box a4 (w.heap.size+1) [U8 s,U8 t,U8 u,U8 x,U8 y,U8 z,U8 A,U8 B]):=cp.beside E (fun a0 r=>by cases r;have W:=(b7.grew j).lt;omega)
   have cs:Xo (zb w a4):=zX cr E (fun a0 r=>by cases r;have W:=bS (k.trans j);omega)
   clear L b0 E b8 b9 bq;have b8:=a2.box.c 0 rfl;have b9:=a2.box.c 1 rfl;have co:=a2.box.f;have ad:w.heap.size+1≠i.heap.size:=by have:=((b7.grew j).grew Y).lt;omega
   have c9:w.heap.size+1<a4.heap.size:=ba.lt;have ca:i.heap.size<a4.heap.size:=a2.box.lt;obtain⟨u0,u1,u2,u3,u4,u5,u6⟩:=ba.c7;have u7:=ba.c 7 rfl)
  | (
   at_builtin
   have ac:=za (a4.setCell ⟨i.heap.size,1,Xb⟩ (O (Xa ⟨l,0,Xb⟩) 399 b)) (Xk #[I6 m,U8 s,U8 t,U8 u,U8 x,U8 y,U8 z,U8 A,U8 B] 117);have am:=(bg.setOther (a:=⟨i.heap.size,1,Xb⟩) (bg.ne a2) (O (Xa ⟨l,0,Xb⟩) 399 b)).grew ac;have d0:=(ci.setOther (a:=⟨i.heap.size,1,Xb⟩) (ci.ne a2) (O (Xa ⟨l,0,Xb⟩) 399 b)).grew ac;have ce:=(a2.set 1 (O (Xa ⟨l,0,Xb⟩) 399 b)).grew ac;have d4:=(d3.other (a:=⟨i.heap.size,1,Xb⟩) (by have:=((a9.grew j).grew Y).lt;show w.heap.size+1+1≠i.heap.size;omega) (O (Xa ⟨l,0,Xb⟩) 399 b)).grew ac
   have ct:=(show zb w (a4.setCell ⟨i.heap.size,1,Xb⟩ (O (Xa ⟨l,0,Xb⟩) 399 b))from zL cs (by have:=bS ((k.trans j).trans Y);exact this) _).trans ac
   refine wpList_append_own _ rfl (.tmp 40) (.tmp 44) 36 rfl I.heap.size 117 de _ 9 16 underlying36 dc bx bz c8 rfl (by decide) _ _ _ rfl am.1 ⟨a4.heap.size,0,Xb⟩ 1 1 (ptc (m,[s,t,u,x,y,z,A,B])) rfl rfl (qW.top _ (ptc (m,[s,t,u,x,y,z,A,B])) _ (by simp)) (ze5 _) (jj (by rw[a3.out];decide)) (by rw[a3.out];decide) (by have bm:=bS Y.out;have W:=bS ac;have du:=a2.box.lt;simp at W⊢;omega) ?_
   intro ds b6 M h _;have cg:Xo (zy I.heap.size b6 ds (G++ [(m,[s,t,u,x,y,z,A,B])])):=zy.snoc M bg.2.1 rfl (by rw[a3.out];decide)
   have d1:=dD<|d0.beside am h;have b3:Xo (zn b6 i.heap.size 38 [O (Xa ⟨H,0,Xb⟩) X c,O (Xa ⟨l,0,Xb⟩) 399 b]):=ce.beside h (am.ne ce);have bi:Xo (Box b6 (w.heap.size+1+1) [eS,eS]):=d4.beside h (fun a0 r=>by have bm:=(am.lt a0 r).1;have W:=(a9.grew j).lt;omega)
   have cu:Xo (zb w b6):=zX ct h (fun a0 r=>by have bm:=(am.lt a0 r).1;have W:=bS (k.trans j);omega)
   obtain⟨d5,d7,aw⟩:=cg.form;rw[lA,a3.out,Yp]at aw;subst aw;clear b8 b9 co;have b8:=b3.box.c 0 rfl;have b9:=b3.box.c 1 rfl;have co:=b3.box.f;have dx:=bi.c 0 rfl;have dy:=bi.c 1 rfl;have dz:=bi.f;have cm:w.heap.size+1+1≠i.heap.size:=by have:=((a9.grew j).grew Y).lt;omega
   clear ac M h u0 u1 u2 u3 u4 u5 u6 u7 c9 ca ad))
 refine bodyPost_ret (v:= Xm #[Xi #[O (Xa ⟨H,0,Xb⟩) X c,O d5 400 d7],I6 0]) (by simp[results,Tryz.results185,go_sem, *]) rfl ⟨_,rfl,?_,?_⟩
 ·rw[bb.out,bd.out];exact znd d1 cg b3 (a9.grew j).lt (bS (k.trans j))
 have bm:=bS (k.trans j);have W:=bS Y.out;iterate 3 (refine zL ?_ (by simp;omega) _)
 exact cu.out
theorem zfW (d) (b:List (List Int)) (a:List (Int × List Int)) (m:Int) (p:List Int) (hp:p.length=8) (w:Xn) (f:zbD w d b a):
  Xp prog 185 #[d,I6 m,Xi (pgc p).toArray] w fun e w'=>∃c,e= Xl (Xm #[c,I6 (zr b.length a m)])/\qy w.heap.size w' c (q8 b a m) (q7 b a m p)/\zb w w':=by
 by_cases c:zr b.length a m=0
 ·by_cases g:a.length=400
  ·exact zj0 d b a m p hp w f c g
  exact zlJ d b a m p hp w f c g
 exact zlK d b a m p hp w f c
theorem zlH {n:Nat} {b:List (Int × List Int)} (d:n<=80) (c:b.length<=400) (a:∀q∈b,∃i:Nat,q.1=(i:Int)/\i<n):zS n b=0:=by
 unfold zS;rw[kF (by omega),kF (by omega),kF]
 intro h;obtain⟨q,c,d⟩:=List.any_eq_true.1 h;obtain⟨i,e,b⟩:=a q c
 simp[j7,e,b]at d
theorem zhs {n:Nat} {a:List (Int × List Int)} {m:Int} (h:zS n a=0) {i:Nat} (b:m=(i:Int)) (hi:i<n):zr n a m=0:=by
 unfold zr;rw[kE h,kE]
 simp[j7,b,hi]
theorem zcP {n:Nat} {a:List (Int × List Int)} (h:zS n a=0) (m:Int):zr n a m=if j7 m n then 0 else 3:=by
 unfold zr;rw[kE h]
theorem QB (a:List (List Int)) (b:List (Int × List Int)):(jg a b).length=a.length:=by
 unfold jg
 split <;> simp
theorem QX {b:List (List Int)} {a:List (Int × List Int)} {m:Int} {p:List Int} (h:zr b.length a m=0):zS (jg b a).length (jf a m p)=0:=by
 obtain⟨a,i,c,b⟩:=qP h;obtain⟨e,d,d⟩:=ZW a;rw[QB];refine zlH e ?_ fun q a=>?_
 ·unfold jf
  split
  ·simp;omega
  simp;omega
 unfold jf at a
 rcases Yd.1 a with a|a
 ·split at a
  ·exact d q (List.mem_of_mem_tail a)
  exact d q a
 simp at a
 subst a;exact⟨i,c,b⟩
def zor:Option (Int × List Int)->List Int->List Int
 | some q,_=>q.2
 | none,d=>d
theorem ze4 {b:List (List Int)} {a:List (Int × List Int)} {m:Int} (h:zr b.length a m=0):qY b a m=zor (a.reverse.find? (fun q=>q.1 == m)) (b.getD m.toNat z4):=by
 unfold qY;rw[kE h]
 cases a.reverse.find? (fun q=>q.1 == m) <;> rfl
theorem zeg {b:List (List Int)} {a:List (Int × List Int)} {m:Int} {p:List Int} (h:zr b.length a m=0):zr (jg b a).length (jf a m p) m=0/\qY (jg b a) (jf a m p) m=p:=by
 have f:=QX (p:=p) h;obtain⟨_,i,d,c⟩:=qP h;have e:zr (jg b a).length (jf a m p) m=0:=zhs f d (by rw[QB];exact c)
 refine⟨e,?_⟩;rw[ze4 e]
 simp[jf,zor]
theorem zcR {b:List (List Int)} {a:List (Int × List Int)} {m:Int} {p:List Int} (h:zr b.length a m=0) (o:Int):zr (jg b a).length (jf a m p) o=zr b.length a o:=by
 rw[zcP (QX h),zcP (qP h).1,QB]
theorem zcS {g:List (List Int)} {a:List (Int × List Int)} {m:Int} {p:List Int} (k:zr g.length a m=0) {o:Int} (t:¬o=m):qY (jg g a) (jf a m p) o=qY g a o:=by
 have l:=zcR (p:=p) k o
 by_cases f:zr g.length a o=0
 ·rw[ze4 f,ze4 (l.trans f)];have d:(m == o)=Xd:=by simpa using fun r=>t (Eq.symm r)
  unfold jf jg
  by_cases c:a.length=400
  ·rw[kE c,kE c]
   cases a with
   | nil=>simp at c
   | cons h u=>
    obtain⟨_,w,e,s⟩:=qP f;obtain⟨x,b,i⟩:=(ZW (qP k).1).2.2 h (by simp)
    simp only[List.tail_cons,List.headD_cons,List.reverse_append,List.reverse_cons,List.reverse_nil,Yc,Yb,List.find?_cons,d,Yz]
    cases v:u.reverse.find? (fun q=>q.1 == o)with
    | some q=>rfl
    | none=>
     simp only[Option.none_or]
     cases n:(h.1 == o)with
     | true=>
      have:h.1=o:=by simpa using n
      subst this;simp only[b,tN,zor]
      simp[i]
     | false=>
      have:h.1≠o:=by simpa using n
      simp only[List.find?_nil,zor];rw[gD,gD,sN];rw[b,e]at this;rw[b,e];simp only[tN];omega
  rw[kF c,kF c]
  simp[d]
 have j:¬zr (jg g a).length (jf a m p) o=0:=by rw[l];exact f
 unfold qY;rw[kF f,kF j]
def zbw (p:List Int) (idx size:Int) (k:Nat):List Int:=p.mapIdx fun i z=>if i<k/\size<=8*idx+(i:Int)then 0 else z
theorem znq (p:List Int) (idx a:Int) (k:Nat):(zbw p idx a k).length=p.length:=by unfold zbw;simp
theorem zns {p:List Int} {idx a:Int} {k:Nat} (h:p.length<=k):zbw p idx a k=Qh p idx a:=by
 unfold zbw Qh
 apply Ya
 intro i;rw[Xu,Xu]
 cases a:p[i]? with
 | none=>rfl
 | some z=>
  have:=(gS.1 a).1;have a:i<k:=by omega
  simp[a]
theorem znr {p:List Int} {idx a:Int} {k:Nat} (b:k<p.length) (h:a<=8*idx+(k:Int)):(zbw p idx a k).set k 0=zbw p idx a (k+1):=by
 unfold zbw
 apply Ya
 intro i
 by_cases e:i=k
 ·subst e;rw[sF (by simpa using b),Xu,gE b]
  simp[h]
 rw[sN (fun h=>e h.symm),Xu,Xu]
 cases p[i]? with
 | none=>rfl
 | some z=>
  have:i<k↔i<k+1:=by omega
  simp[this]
theorem zjb {a:List (List Int)} {c:List (Int × List Int)} {b:Int} (d:∀p∈a,p.length=8) (e:∀q∈c,q.2.length=8):(qY a c b).length=8:=by
 unfold qY
 split
 ·cases h:c.reverse.find? (fun q=>q.1 == b)with
  | some q=>exact e q (by have:=Ye h;simpa using this)
  | none=>
   simp only;rw[gD]
   cases c:a[b.toNat]? with
   | none=>rfl
   | some p=>exact d p (mG c)
 rfl
theorem z9 {α:Type} {k:Nat} {s:α}:∀{S:List (Nat × α)},S.lookup k=Xa s->(k,s)∈S
 | [],h=>by simp at h
 | (p,a) :: S,h=>by
  by_cases b:k=p
  ·subst b
   simp at h
   subst h;simp
  have c:(k == p)=Xd:=by simpa using b
  rw[List.lookup_cons,c]at h;exact List.mem_cons_of_mem _ (z9 h)
theorem zn.part {w:Xn}:∀{ds cs:List Xq} {o:Nat},zn w b t cs->o+ds.length<=cs.length->zn (w.setCells b o ds) b t (splice cs o ds):=by
 have c:∀(ds cs:List Xq) (o:Nat) (w:Xn),zn w b t cs->o+ds.length<=cs.length->zn (w.setCells b o ds) b t (splice cs o ds):=fun ds=>by
  induction ds with
  | nil=>
   intro cs o w h a;have:splice cs o []=cs:=by simp[splice]
   rw[this];exact h
  | cons d ds g=>
   intro cs o w h a;simp only[Xt]at a;have f:=h.set o d;have e:=g (cs.set o d) (o+1) (w.setCell ⟨b,o,Xb⟩ d) f (by simp;omega)
   have f:splice (cs.set o d) (o+1) ds=splice cs o (d :: ds):=by
    unfold splice;rw[List.take_set,List.drop_set,kE (by omega),List.take_add_one,gE (by omega)]
    simp only[Xt,Option.toList_some];rw[List.set_append_right _ _ (by simp;omega),show o+1+ds.length=o+(ds.length+1) by omega]
    simp[Yk,Nat.min_eq_left (show o<=cs.length by omega)]
   rw[f]at e;exact e
 exact fun{ds cs o} h a=>c ds cs o w h a
theorem zj {rest:List Oper} {a:Act} {w:Xn} (c:o.guard=Xb) (e p x) (g:o.op= .store e p x) (b:Nat) (hp:a.eval p= Xj (Xa ⟨b,0,Xb⟩)) (vs:List Xq) (i:a.eval x= Xi vs.toArray)
  {cs:List Xq} {t:TypeId} (hb:zn w b t cs) (d:vs.length=cs.length) (hi:(Tryz.prog.info? e).map (·.size)=Xa cs.length) (f:∀v∈vs,v.oneCell'=Xc)
  (h:∀w',zn w' b t vs->w.grownBy w' (Xa b)->w'.heap.size=w.heap.size->wpList prog ops Q rest (a.put o.dst undef) w'):wpList prog ops Q (o :: rest) a w:=by
 refine wpList_store_mid c e p x g b 0 vs.toArray hp i ?_ ?_ (all_oneCell_toArray f) ?_
 ·simpa [d]using hb.box.there
 ·simpa [d]using hi
 have:=hb.part (ds:=vs) (o:=0) (by omega)
 rw[J7 d]at this;exact h _ this (zV b vs 0 w).1 (zV b vs 0 w).2
end
section
def ZM (m:Ma) (x:On) (e:En):List Int × Bool × Int:=
 if x.is=Xd then(z4,Xd,5)
 else if e.kind=1 then(pgL (zQ m e.n).p,decide ((zQ m e.n).f<0),0)
 else if e.kind=2 then(qY m.sb m.sq e.n,Xc,0)
 else if x.file<0 then(z4,Xd,0)
 else if bkN m x.file<=x.page then(z4,Xd,9)
 else(zT m x.file x.page,Xd,0)
theorem zeV {p n:Nat} {s:Sp} (a:m.sp[p]? =Xa s) (b:n<64):zhB m (p:Int) (n:Int)=ZM m (zD s.ars n) (ze s n):=by
 have b:=(gS.1 a).1;unfold zhB;rw[kF (by omega)]
 simp only[tN,gD,a,Option.getD_some];rfl
theorem zi1 {p n:Int} (h:p<0\/(m.sp.length:Int)<=p\/n<0\/63<n):zhB m p n=(z4,Xd,5):=by
 unfold zhB;rw[kE h]
theorem zcD {x:On} {e e':En} (d:e'.kind=e.kind) (f:e'.n=e.n) (b:e.kind=1->(zQ m' e.n).p=(zQ m e.n).p/\((zQ m' e.n).f<0↔(zQ m e.n).f<0)) (c:e.kind=2->qY m'.sb m'.sq e.n=qY m.sb m.sq e.n)
  (hb:∀file,bkN m' file=bkN m file) (a:∀file idx,zT m' file idx=zT m file idx):ZM m' x e'=ZM m x e:=by
 unfold ZM;rw[d,f,hb,a]
 by_cases a:x.is=Xd
 ·rw[kE a,kE a]
 rw[kF a,kF a]
 by_cases a:e.kind=1
 ·rw[kE a,kE a,(b a).1,decide_eq_decide.2 (b a).2]
 rw[kF a,kF a]
 by_cases a:e.kind=2
 ·rw[kE a,kE a,c a]
 rw[kF a,kF a]
theorem zg4 (a:m'.ca=m.ca) (e:m'.fl=m.fl) (b:m'.db=m.db) (d:m'.dq=m.dq) (f:∀c∈m.ca,(zQ m' c.fr).p=(zQ m c.fr).p) (file idx:Int):zT m' file idx=zT m file idx:=by
 unfold zT;rw[a]
 cases a:m.ca.find? (Jr file idx)with
 | some c=>
  simp only;rw[f c (Ye a)]
 | none=>
  simp only;unfold zhf QD;rw[e,b,d]
section
variable{m:Ma} {T:List (Nat->En)}
theorem jZ.marks (h:jZ m T) {k:Nat} {fr:Fr} {p:Pg} {u d:Bool} (i:m.fs[k]? =Xa fr) (r:fr.r≠0):jZ { m with fs:=m.fs.set k { fr with p:=p,u:=u,d:=d } } T:=by
 have f:=(gS.1 i).1;have l:=h.fok fr (mG i);have b:∀z:Int,0<=z->(zQ { m with fs:=m.fs.set k { fr with p:=p,u:=u,d:=d } } z).f=(zQ m z).f/\(zQ { m with fs:=m.fs.set k { fr with p:=p,u:=u,d:=d } } z).x=(zQ m z).x/\(zQ { m with fs:=m.fs.set k { fr with p:=p,u:=u,d:=d } } z).r=(zQ m z).r:=fun z a=>by
  rw[qE f z a]
  by_cases e:z=(k:Int)
  ·subst e;rw[kE rfl,zJ i];exact⟨rfl,rfl,rfl⟩
  rw[kF e];exact⟨rfl,rfl,rfl⟩
 refine⟨by simpa using h.fs40,fun g c=>?_,h.sl60,h.sbl,h.sq,h.dok,h.st,h.cnt,h.blk,h.que,h.spl,h.spok,h.tl,?_,fun y D g C c j a=>?_,fun j g a=>?_,h.cs⟩
 ·rcases Xz c with c|rfl
  ·exact h.fok g c
  obtain⟨v,n,w,x,q⟩:=l;exact⟨v,n,w,fun h=>absurd h r,q⟩
 ·obtain⟨q,l,r⟩:=zw.1 h.ca;refine zw.2 ⟨fun l s=>?_,fun y l t=>(by cases t),r⟩
  obtain⟨t,z,A,B⟩:=jr (q l s);obtain⟨q,r,s⟩:=b l.fr t.2.2.2.2.1;exact J0 (by simpa [bkN]using t) (by rw[s];exact z) (by rw[q];exact A) (by rw[r];exact B)
 ·rcases h.ent y D g C c j a with e|e
  ·exact .inl e
  refine .inr ⟨e.1,e.2.1,j6 e.2.2 rfl (by simp) fun c=>?_⟩
  obtain⟨v,n,w,x⟩:=qd e c;obtain⟨q,r,s⟩:=b (g j).n n;exact⟨q,r,by rw[s];exact x⟩
 by_cases e:j=k
 ·subst e;simp only at a;rw[sF f]at a;cases a;exact h.cf j fr i
 simp only at a;rw[sN (fun h=>e h.symm)]at a
 exact h.cf j g a
theorem jZ.entry (h:jZ m T) {p n:Nat} {f:Nat->En} {e:En} {s:Sp} (i:m.sp[p]? =Xa s) (b:T[p]? =Xa f) (g:n<64) (a:e.kind=(f n).kind) (c:e.n=(f n).n) (l:zau m (zD s.ars n) e):jZ m (T.set p (Jm f n e)):=by
 have d:=(gS.1 b).1;have j:=zmP (e':=e) b g a c;refine⟨h.fs40,h.fok,h.sl60,h.sbl,h.sq,h.dok,h.st,h.cnt,h.blk,h.que,h.spl,h.spok,by simpa using h.tl,h.ca,?_,fun k g a=>?_,fun k z a=>?_⟩
 ·refine zfG d rfl b (fun q s g i b d c _=>h.ent q s g i b d c) (fun b b=>?_)
  rw[i]at b;cases b;exact l
 ·rw[j];exact h.cf k g a
 rw[j];exact h.cs k z a
def QH (fr:Fr):Fr:=if fr.r=1 then frF else{ fr with r:=fr.r - 1 }
theorem zqf (fr:Fr):(QH fr).r=fr.r - 1:=by
 unfold QH
 split
 ·simp[frF];omega
 rfl
theorem jZ.drop (h:jZ m T) {k p n:Nat} {fr:Fr} {f:Nat->En} (s:m.fs[k]? =Xa fr) (x:T[p]? =Xa f) (V:n<64) (G:(f n).kind=1) (l:(f n).n=(k:Int)):
  jZ { m with fs:=m.fs.set k (QH fr) } (T.set p (Jm f n en0)):=by
 have t:=(gS.1 s).1;have D:=(gS.1 x).1;have W:=h.fok fr (mG s);have R:=h.cf k fr s;have a6:1<=qv T 1 k:=by
  have:=Jb x V G;rw[l]at this;exact this
 have E:∀kind j:Int,qv (T.set p (Jm f n en0)) kind j+(isE (f n) kind j).toNat=qv T kind j+(isE en0 kind j).toNat:=fun kind j=>ZP en0 kind j x V
 have c:fr.r≠1->QH fr={ fr with r:=fr.r - 1 }:=fun h=>by unfold QH;rw[kF h]
 have y:zO m.ca k≠0->fr.r≠1:=fun P Q=>by omega
 have C:qv T 1 k ≥ 2->fr.r≠1:=fun P Q=>by omega
 refine⟨by simpa using h.fs40,fun u i=>?_,h.sl60,h.sbl,h.sq,h.dok,h.st,h.cnt,h.blk,h.que,h.spl,h.spok,by simpa using h.tl,?_,?_,fun j u d=>?_,fun j ag d=>?_⟩
 ·rcases Xz i with i|rfl
  ·exact h.fok u i
  by_cases e:fr.r=1
  ·unfold QH;rw[kE e];exact⟨by decide,by decide,.inl rfl,fun _=>rfl,fun _=>rfl⟩
  rw[c e];obtain⟨Y,M,Z,N,a9⟩:=W;exact⟨by simp only;omega,M,Z,fun h=>by simp only at h;omega,a9⟩
 ·obtain⟨a7,ah,a8⟩:=zw.1 h.ca;refine zw.2 ⟨fun F a5=>?_,fun v F ad=>(by cases ad),a8⟩
  obtain⟨H,X,K,L⟩:=jr (a7 F a5);have a:=qE (f:=QH fr) t F.fr H.2.2.2.2.1
  by_cases b:F.fr=(k:Int)
  ·have A:=y (by have:=ZT a5;rw[b]at this;exact this)
   rw[kE b,c A]at a;rw[b,zJ s]at X K L;refine J0 (by simpa [bkN]using H) ?_ ?_ ?_ <;> rw[c A] <;> rw[a]
   ·simp only;omega
   ·exact K
   exact L
  rw[kF b]at a;exact J0 (by simpa [bkN]using H) (by rw[a];exact X) (by rw[a];exact K) (by rw[a];exact L)
 ·intro v af u ae i j d
  by_cases g:v=p/\j=n
  ·obtain⟨rfl,rfl⟩:=g;rw[sF D]at i;cases i;left;unfold Jm;rw[kE rfl]
  have B:∃w,T[v]? =Xa w/\u j=w j:=by
   by_cases a4:v=p
   ·subst a4;rw[sF D]at i;cases i;refine⟨f,x,?_⟩;unfold Jm;rw[kF (fun e=>g ⟨rfl,e⟩)]
   rw[sN (fun h=>a4 h.symm)]at i
   exact⟨u,i,rfl⟩
  obtain⟨w,z,S⟩:=B;rw[S]
  rcases h.ent v af w ae z j d with e|e
  ·exact .inl e
  refine .inr ⟨e.1,e.2.1,j6 e.2.2 rfl (by simp) fun U=>?_⟩
  obtain⟨Y,M,Z,N⟩:=qd e U;rw[qE t _ M]
  by_cases b:(w j).n=(k:Int)
  ·have Q:=zfs x V (kind:=1) (k:=(k:Int)) (by simp[isE,G,l]) z d (by simp[isE,Y,b]) (by
    by_cases I:p=v
    ·right;intro aa;exact g ⟨I.symm,aa.symm⟩
    exact .inl I) (by decide)
   rw[kE b,c (C Q),b,zJ s];refine⟨rfl,rfl,fun ab ac=>?_⟩
   have:=N ab (by rw[b,zJ s];exact ac)
   rw[b,zJ s]at this;simp only;omega
  rw[kF b];exact⟨rfl,rfl,N⟩
 ·simp only at d⊢;have q:=E 1 j;rw[jq 1 j (by decide)]at q
  by_cases a0:j=k
  ·subst a0;rw[sF t]at d;cases d;have P:isE (f n) 1 (j:Int)=Xc:=by simp[isE,G,l]
   rw[P]at q
   simp at q
   rw[zqf];refine⟨by omega,fun a=>?_⟩
   by_cases e:fr.r=1
   ·unfold QH at a;rw[kE e]at a
    simp[frF]at a
   rw[c e]at a;exact R.2 a
  rw[sN (fun h=>a0 h.symm)]at d
  rw[JP (by rw[l];omega)]at q
  have:=h.cf j u d;refine⟨?_,this.2⟩
  simp at q
  omega
 simp only at d⊢;have q:=E 2 j;rw[jq 2 j (by decide),zbi (by rw[G];decide)]at q
 have:=h.cs j ag d
 simp at q
 omega
theorem jZ.dropS (h:jZ m T) {k p n:Nat} {f:Nat->En} (E:m.sl[k]? =Xa z) (u:T[p]? =Xa f) (F:n<64) (v:(f n).kind=2) (d:(f n).n=(k:Int)):
  jZ { m with sl:=m.sl.set k (z - 1) } (T.set p (Jm f n en0)):=by
 have A:=(gS.1 E).1;have l:=(gS.1 u).1;have G:1<=qv T 2 k:=zaf u F (by simp[isE,v,d]) (by decide)
 have q:∀kind j:Int,qv (T.set p (Jm f n en0)) kind j+(isE (f n) kind j).toNat=qv T kind j+(isE en0 kind j).toNat:=fun kind j=>ZP en0 kind j u F
 refine⟨h.fs40,h.fok,by simpa using h.sl60,by simpa using h.sbl,h.sq,h.dok,h.st,h.cnt,h.blk,h.que,h.spl,h.spok,by simpa using h.tl,?_,?_,fun j s a=>?_,fun j S a=>?_⟩
 ·obtain⟨H,U,K⟩:=zw.1 h.ca;exact zw.2 ⟨fun B N=>H B N,fun r B P=>(by cases P),K⟩
 ·intro r R s Q g j a
  by_cases c:r=p/\j=n
  ·obtain⟨rfl,rfl⟩:=c;rw[sF l]at g;cases g;left;unfold Jm;rw[kE rfl]
  have i:∃t,T[r]? =Xa t/\s j=t j:=by
   by_cases D:r=p
   ·subst D;rw[sF l]at g;cases g;refine⟨f,u,?_⟩;unfold Jm;rw[kF (fun e=>c ⟨rfl,e⟩)]
   rw[sN (fun h=>D h.symm)]at g
   exact⟨s,g,rfl⟩
  obtain⟨t,w,x⟩:=i;rw[x]
  rcases h.ent r R t Q w j a with e|e
  ·exact .inl e
  refine .inr ⟨e.1,e.2.1,j6 e.2.2 (by simp) rfl fun y=>?_⟩
  obtain⟨V,W,X,L⟩:=qd e y;exact⟨rfl,rfl,L⟩
 ·have b:=q 1 j;rw[jq 1 j (by decide),zbi (by rw[v];decide)]at b
  have:=h.cf j s a;refine⟨?_,this.2⟩;simp only at this⊢
  simp at b
  omega
 simp only at a⊢;have b:=q 2 j;rw[jq 2 j (by decide)]at b
 by_cases C:j=k
 ·subst C;rw[sF A]at a;cases a;have M:isE (f n) 2 (j:Int)=Xc:=by simp[isE,v,d]
  rw[M]at b;have:=h.cs j z E
  simp at b
  omega
 rw[sN (fun h=>C h.symm)]at a
 rw[JP (by rw[d];omega)]at b
 have:=h.cs j S a
 simp at b
 omega
end
def ZY (g:Nat->Nat):Nat->Nat
 | 0=>0
 | n+1=>ZY g n+g n
theorem zcZ (g h:Nat->Nat):∀n,ZY (fun k=>g k+h k) n=ZY g n+ZY h n
 | 0=>rfl
 | n+1=>by
  have:=zcZ g h n;unfold ZY;omega
theorem zq3 {g h:Nat->Nat}:∀{n:Nat},(∀k,k<n->g k<=h k)->ZY g n<=ZY h n
 | 0,_=>nR _
 | n+1,a=>by
  have:=zq3 (n:=n) fun k b=>a k (by omega)
  have:=a n (by omega)
  unfold ZY;omega
theorem za0:∀n,ZY (fun _=>0) n=0
 | 0=>rfl
 | n+1=>by
  unfold ZY;rw[za0 n]
theorem zhU (z:Int):∀n,ZY (fun k=>(decide (z=(k:Int))).toNat) n<=1/\((n:Int)<=z->ZY (fun k=>(decide (z=(k:Int))).toNat) n=0)
 | 0=>⟨nZ _,fun _=>rfl⟩
 | n+1=>by
  obtain⟨a,a⟩:=zhU z n;unfold ZY
  by_cases e:z=(n:Int)
  ·have b:=a (by omega)
   simp only[e,decide_true,Bool.toNat_true]at b⊢;exact⟨by omega,fun h=>by omega⟩
  simp only[e,decide_false,Bool.toNat_false];exact⟨by omega,fun h=>by have:=a (by omega);omega⟩
def zc9 (f:Nat->En):Nat->Nat
 | 0=>0
 | n+1=>zc9 f n+(decide ((f n).kind=1)).toNat
def zkm (T:List (Nat->En)):Nat:=(T.map fun f=>zc9 f 64).sum
theorem zjH (f:Nat->En) (N:Nat):∀n,ZY (fun k=>Zd f 1 (k:Int) n) N<=zc9 f n
 | 0=>by
  have:(fun k:Nat=>Zd f 1 (k:Int) 0)=fun _=>0:=rfl
  rw[this,za0];exact nR _
 | n+1=>by
  have a:=zjH f N n;have a:(fun k:Nat=>Zd f 1 (k:Int) (n+1))=fun k:Nat=>Zd f 1 (k:Int) n+(isE (f n) 1 (k:Int)).toNat:=rfl
  rw[a,zcZ];have a:ZY (fun k:Nat=>(isE (f n) 1 (k:Int)).toNat) N<=(decide ((f n).kind=1)).toNat:=by
   by_cases e:(f n).kind=1
   ·have a:(fun k:Nat=>(isE (f n) 1 (k:Int)).toNat)=fun k:Nat=>(decide ((f n).n=(k:Int))).toNat:=by
     funext k
     simp[isE,e]
    rw[a];simp only[e,decide_true,Bool.toNat_true];exact(zhU _ N).1
   have a:(fun k:Nat=>(isE (f n) 1 (k:Int)).toNat)=fun _=>0:=by
    funext k
    simp[isE,e]
   rw[a,za0];exact nZ _
  unfold zc9;omega
theorem zgI (N:Nat):∀T:List (Nat->En),ZY (fun k=>qv T 1 (k:Int)) N<=zkm T
 | []=>by
  have:(fun k:Nat=>qv [] 1 (k:Int))=fun _=>0:=rfl
  rw[this,za0];exact nZ _
 | f :: T=>by
  have a:=zjH f N 64;have a:=zgI N T;have b:(fun k:Nat=>qv (f :: T) 1 (k:Int))=fun k:Nat=>Zd f 1 (k:Int) 64+qv T 1 (k:Int):=by
   funext k
   simp[qv]
  rw[b,zcZ];simp only[zkm,mP,List.sum_cons]at a⊢;omega
theorem zeK (N:Nat):∀ca:List Ca,ZY (fun k=>zO ca (k:Int)) N<=ca.length
 | []=>by
  have:(fun k:Nat=>zO [] (k:Int))=fun _=>0:=rfl
  rw[this,za0];exact nZ _
 | c :: ca=>by
  have a:=zeK N ca;have a:=(zhU c.fr N).1;have a:(fun k:Nat=>zO (c :: ca) (k:Int))=fun k:Nat=>zO ca (k:Int)+(decide (c.fr=(k:Int))).toNat:=by
   funext k
   unfold zO;rw[List.countP_cons]
   by_cases e:c.fr=(k:Int) <;> simp[e]
  rw[a,zcZ];simp only[Xt];omega
def zkP (fs:List Fr):Nat:=fs.countP fun f=>!decide (f.r=0)
theorem zjr:∀(fs:List Fr) (o:Nat) (g:Nat->Nat),(∀(k:Nat) f,fs[k]? =Xa f->f.r≠0->1<=g (o+k))->zkP fs<=ZY (fun k=>g (o+k)) fs.length
 | [],_,_,_=>by simp[zkP]
 | f :: fs,o,g,h=>by
  have c:=zjr fs (o+1) g fun k x b a=>by
   have:=h (k+1) x (by simpa using b) a
   rw[show o+(k+1)=o+1+k by omega]at this
   exact this
  have a:∀n,ZY (fun k=>g (o+k)) (n+1)=g o+ZY (fun k=>g (o+1+k)) n:=by
   intro n
   induction n with
   | zero=>simp[ZY]
   | succ n b=>
    unfold ZY;rw[b,show o+(n+1)=o+1+n by omega]
    unfold ZY;omega
  rw[Xt,a];unfold zkP at c⊢;rw[List.countP_cons]
  by_cases e:f.r=0
  ·simp[e]
   omega
  have:=h 0 f rfl e
  simp[e]
  rw[Nat.add_zero]at this;omega
theorem jZ.heldLe (h:jZ m T):zkP m.fs<=zkm T+m.ca.length:=by
 have a:=zjr m.fs 0 (fun k=>qv T 1 (k:Int)+zO m.ca (k:Int)) fun k f b c=>by
  have:=(h.cf k f b).1;simp only[zA];omega
 have b:=zgI m.fs.length T;have b:=zeK m.fs.length m.ca;simp only[zA]at a;rw[zcZ]at a;omega
def zjN (l:List Ar):Nat->Nat
 | 0=>0
 | n+1=>zjN l n+(zD l n).is.toNat
theorem zgh {f:Nat->En} {l:List Ar}:∀{n:Nat},(∀j,j<n->(f j).kind=1->(zD l j).is=Xc)->zc9 f n<=zjN l n
 | 0,_=>nR _
 | n+1,h=>by
  have:=zgh (n:=n) fun j a=>h j (by omega)
  unfold zc9 zjN
  by_cases e:(f n).kind=1
  ·rw[h n (by omega) e]
   simp[e]
   omega
  simp[e]
  omega
end
section
open Go.RowKit
section
variable{α:Type} {E:Elt α}
theorem zd4 {w:Xn} {a:Act} (p x t) (A:o.op= .store t p x) (base:Nat) (v:Xq) (l:List α) (b:zc E base w v l)
  (g i j:Nat) (s:v.ownBlock=Xa g) (e y:α) (hi:l[i]? =Xa e) (cs:List Xq) (f:(Tryz.prog.info? t).map (·.size)=Xa cs.length) (D:E.enc y=splice (E.enc e) j cs) (z:j+cs.length<=E.k) (n:∀u∈cs,u.oneCell'=Xc)
  (d:Addr) (hp:a.eval p= Xj (Xa d)) (c:d=⟨g,i*E.k+j,Xb⟩) (k:Xq) (C:a.eval x=k) (h:k.cells=cs.toArray):
  ∃w',(execOp a.eval o).run prog w= .ok .skip w'/\zc E base w' v (l.set i y)/\w.grownBy w' (Xa g)/\w'.heap.size=w.heap.size:=by
 subst c;have d:=(gS.1 hi).1;have c:i*E.k+j+cs.length<=l.length*E.k:=by
  have:(i+1)*E.k<=l.length*E.k:=Nat.mul_le_mul_right _ d;rw[Nat.add_mul]at this;omega
 obtain⟨w',B,m,q,r⟩:=qw (P:=prog) b.1 s (i*E.k+j) cs c n;have d:(Go.sizeOf t).run prog w= .ok cs.length w:=by
  cases c:Tryz.prog.info? t with
  | none=>simp[c]at f
  | some i=>simp[c]at f;simp[Go.sizeOf,typeInfo,c,f]
 have c:(Instr.storeAt t (Xj (Xa ⟨g,i*E.k+j,Xb⟩)) k).run prog w= .ok () w':=by
  simp[Instr.storeAt,Instr.sureAddr,storeVar,Xs,d,Result.andThen,h,B]
 rw[zaE j cs D z l i hi]at m;refine⟨w',?_,⟨by rw[Xx];exact m,by rw[Xx];exact b.2⟩,q,r⟩
 simp only[execOp,A,hp,C,Xs,c,Result.andThen,Xw]
theorem zgU {P:Program} {a:Act} {w:Xn} {K:Xq->Xn->Prop} (b:(execOp a.eval o).run P w= .ok .skip w') (h:K undef w'):zR P o a w K:=by
 unfold zR;rw[b];exact h
end
theorem jS {a:Act} {w:Xn} {K:Xq->Xn->Prop} (d p x) (m:o.op= .store d p x) (b c:Nat) (hp:a.eval p= Xj (Xa ⟨b,c,Xb⟩)) (g:Xq) (q:a.eval x=g) (vs:List Xq) (f:g.cells=vs.toArray)
  {t:TypeId} {cs:List Xq} (hb:zn w b t cs) (l:c+vs.length<=cs.length) (hi:(Tryz.prog.info? d).map (·.size)=Xa vs.length) (i:∀v∈vs,v.oneCell'=Xc)
  (h:∀w',zn w' b t (splice cs c vs)->w.grownBy w' (Xa b)->w'.heap.size=w.heap.size->K undef w'):zR prog o a w K:=by
 have e:(Value.agg vs.toArray).cells=vs.toArray:=by
  unfold Value.cells;simp
 have n:(execOp a.eval o).run prog w= .ok .skip (w.setCells b c vs):=by
  have j:=run_storeAt_mid (P:=prog) w b c d vs.toArray (fun r k=>by
   have:=hb.box.there (c+r) (by simp at k;omega)
   rw[zA]at this;exact this) (by simpa using hi) (all_oneCell_toArray i)
  have i:(Instr.storeAt d (Xj (Xa ⟨b,c,Xb⟩)) g).run prog w=(Instr.storeAt d (Xj (Xa ⟨b,c,Xb⟩)) (Xi vs.toArray)).run prog w:=by
   simp only[Instr.storeAt,Instr.sureAddr,storeVar,f,e]
  simp only[execOp,m,hp,q,Xs,i,j,rA,Xw]
 exact zgU n (h _ (hb.part (ds:=vs) (o:=c) l) (zV b vs c w).1 (zV b vs c w).2)
theorem jt {rest:List Oper} {a:Act} {w:Xn} (d:o.guard=Xb) (f p x) (k:o.op= .store f p x) (b c:Nat) (hp:a.eval p= Xj (Xa ⟨b,c,Xb⟩)) (g:Xq) (l:a.eval x=g) (vs:List Xq) (e:g.cells=vs.toArray)
  {t:TypeId} {cs:List Xq} (hb:zn w b t cs) (j:c+vs.length<=cs.length) (hi:(Tryz.prog.info? f).map (·.size)=Xa vs.length) (i:∀v∈vs,v.oneCell'=Xc)
  (h:∀w',zn w' b t (splice cs c vs)->w.grownBy w' (Xa b)->w'.heap.size=w.heap.size->wpList prog ops Q rest (a.put o.dst undef) w'):wpList prog ops Q (o :: rest) a w:=
 wpList_plain d fun _ d=>(jS (K:=fun v w'=>v=undef/\wpList prog ops Q rest (a.put o.dst undef) w') f p x k b c hp g l vs e hb j hi i (fun w' c e f=>⟨rfl,h w' c e f⟩)).wp (fun v w' c=>d _ _ (by rw[c.1];exact c.2))
theorem zbu {a:Act} {w:Xn} {K:Xq->Xn->Prop} (e x) (i:o.op= .load e x) (b c:Nat) (k:a.eval x= Xj (Xa ⟨b,c,Xb⟩)) (vs:List Xq) (f:w.rangeAt b c vs) {d:TypeDesc} (j:Tryz.prog.underlying e=Xa d) (g:d.isRow=Xc) (hi:(Tryz.prog.info? e).map (·.size)=Xa vs.length) (h:K (Xi vs.toArray) w):zR prog o a w K:=by
 have:=run_loadAt_mid (P:=prog) w b c e vs d f j g hi;exact zR.step (by simp only[execOp,i,k,Xs,this,rA,Xw]) h
theorem zeG {a:Act} {w:Xn} {K:Xq->Xn->Prop} (f x) (j:o.op= .load f x) (b c:Nat) (k:a.eval x= Xj (Xa ⟨b,c,Xb⟩)) (v) (i:w.cell? ⟨b,c,Xb⟩=Xa v) {d:TypeDesc} (g:Tryz.prog.underlying f=Xa d) (e:d.isRow=Xd) (h:K v w):zR prog o a w K:=by
 have e:(isAgg f).run prog w= .ok Xd w:=by
  unfold isAgg;rw[Xs,run_underlying g w]
  cases d <;> simp_all [TypeDesc.isRow]
 have g:(loadVar f ⟨b,c,Xb⟩).run prog w= .ok v w:=by simp[loadVar,Xs,e,i]
 exact zR.step (by simp only[execOp,j,k,Instr.loadAt,Instr.sureAddr,Xs,Xw,g,rA]) h
theorem zcx {α:Type} {E:Elt α} {w:Xn} {a:Act} {K:Xq->Xn->Prop} (p x t) (C:o.op= .store t p x) (base:Nat) (v:Xq) (l:List α) (b:zc E base w v l)
  (g i j:Nat) (z:v.ownBlock=Xa g) (e y:α) (hi:l[i]? =Xa e) (cs:List Xq) (B:(Tryz.prog.info? t).map (·.size)=Xa cs.length) (F:E.enc y=splice (E.enc e) j cs) (A:j+cs.length<=E.k) (m:∀u∈cs,u.oneCell'=Xc)
  (c:Addr) (hp:a.eval p= Xj (Xa c)) (d:c=⟨g,i*E.k+j,Xb⟩) (h:Xq) (D:a.eval x=h) (f:h.cells=cs.toArray)
  (k:∀w',zc E base w' v (l.set i y)->w.grownBy w' (Xa g)->w'.heap.size=w.heap.size->K undef w'):zR prog o a w K:=by
 obtain⟨w',n,q,r,s⟩:=zd4 p x t C base v l b g i j z e y hi cs B F A m c hp d h D f;exact zgU n (k w' q r s)
theorem zaB.form {w:Xn} {t:List (List En)} (h:zaB B0 B1 w us t):∃a t1 t2 t3 b c d e:Sli,us=[a.v,t1.v,t2.v,t3.v,b.v,c.v,d.v,e.v]:=by
 obtain⟨u0,u1,u2,u3,u4,u5,u6,u7,rfl⟩:=zo9 h.len;obtain⟨a,a,a,a,a,a,a,a,rfl⟩:=zo9 h.tlen;obtain⟨a,j,rfl,_⟩:=(h.row 0 _ _ rfl rfl).now.rows;obtain⟨b,k,rfl,_⟩:=(h.row 1 _ _ rfl rfl).now.rows;obtain⟨c,l,rfl,_⟩:=(h.row 2 _ _ rfl rfl).now.rows;obtain⟨d,m,rfl,_⟩:=(h.row 3 _ _ rfl rfl).now.rows;obtain⟨e,n,rfl,_⟩:=(h.row 4 _ _ rfl rfl).now.rows;obtain⟨f,p,rfl,_⟩:=(h.row 5 _ _ rfl rfl).now.rows;obtain⟨g,q,rfl,_⟩:=(h.row 6 _ _ rfl rfl).now.rows;obtain⟨i,r,rfl,_⟩:=(h.row 7 _ _ rfl rfl).now.rows;exact⟨⟨a,_,j⟩,⟨b,_,k⟩,⟨c,_,l⟩,⟨d,_,m⟩,⟨e,_,n⟩,⟨f,_,p⟩,⟨g,_,q⟩,⟨i,_,r⟩,rfl⟩
theorem zbl (m:Ma) (e) (n:Int):(ZQ m e n).sp=m.sp:=by
 unfold ZQ
 split
 ·rfl
 split <;> rfl
theorem zaj (m:Ma) (q:Nat) (n:Int) (e):(qV m q n e).sp.length=m.sp.length:=by simp[qV]
def znS (m:Ma):Prop:=∀s∈m.sp,(wrL s.ars).1=0/\tbW s.tb=0
theorem zml (h:Zy m=0):znS m:=fun s a=>by
 unfold Zy at h
 split at h
 ·cases h
 have:=zp.1 h (spE s) (Xy.2 ⟨s,a,rfl⟩);unfold spE at this
 split at this
 ·rename_i a;exact absurd this a
 rename_i a
 split at this
 ·rename_i b;exact absurd this b
 rename_i b;exact⟨by simpa using a,by simpa using b⟩
theorem zqx {s:Sp} (h:tbW s.tb=0) (n:Nat):enW (ze s n)=0:=by
 unfold ze zdt;have a:=Qm.1 h;have:ziY (s.tb[n / 8]?.getD []):=by
  cases e:s.tb[n / 8]? with
  | none=>exact .inl rfl
  | some x=>exact a x (mG e)
 exact this.get (n % 8)
theorem zfw {s:Sp} {n:Nat} (h:n<64):zd8 s.tb (n:Int)=ze s n:=by
 unfold zd8 ze;rw[kE (by omega),tN]
theorem zgj {s:Sp} {n:Nat} (h:(qM s)[j]? =Xa n):n<64:=by
 have:=mG h;unfold qM at this;rw[List.mem_filter,List.mem_range]at this;exact this.1
theorem zfK:∀{l:List Ar} {p:Option Ar} {k:Nat} {a:Ar},Qz p l->l[k]? =Xa a->jN a
 | [],_,_,_,_,h=>by simp at h
 | b :: l,p,0,a,c,h=>by
  simp at h
  subst h;exact c.1
 | b :: l,p,k+1,a,c,h=>zfK c.2.2 (by simpa using h)
structure zal where
 ty:TypeId
 enc:Int × Int->Xq
 und:∃fs,Tryz.prog.underlying ty=Xa (.struct fs)
 check:∀(em:Bool) (a:Int × Int) (w:Xn),(Instr.checkKey em 10000 ty (enc a)).run prog w= .ok () w
 same:∀(a b:Int × Int) (w:Xn),(Op.equal ty (enc a) (enc b)).run prog w= .ok (decide (a=b)) w
 bits:∀a:Int × Int,Instr.sameBits 10000 (enc a) (enc a)=Xc
def zao:List ((Int × Int) × Int)->Int × Int->Option Int
 | [],_=>Xb
 | p :: l,k=>if k=p.1 then Xa p.2 else zao l k
def zdB:List ((Int × Int) × Int)->Int × Int->Nat->Option (Nat × Xq)
 | [],_,_=>Xb
 | p :: l,k,i=>if k=p.1 then Xa (i,I6 p.2)else zdB l k (i+1)
def zh5:List ((Int × Int) × Int)->Int × Int->Int->List ((Int × Int) × Int)
 | [],k,v=>[(k,v)]
 | p :: l,k,v=>if k=p.1 then(k,v) :: l else p :: zh5 l k v
theorem zbd:∀(l:List ((Int × Int) × Int)) (k x:Int × Int) (v:Int),zao (zh5 l k v) x=if x=k then Xa v else zao l x
 | [],k,x,v=>by simp[zh5,zao]
 | p :: l,k,x,v=>by
  unfold zh5
  by_cases h:k=p.1
  ·rw[kE h];unfold zao
   by_cases a:x=k
   ·simp[a]
   have b:¬x=p.1:=fun e=>a (e.trans h.symm)
   simp[a,b]
  rw[kF h];unfold zao;rw[zbd l]
  by_cases a:x=p.1
  ·rw[kE a,kE a,kF (fun e=>h (e.symm.trans a))]
  rw[kF a,kF a]
theorem zai:∀{l:List ((Int × Int) × Int)} {k:Int × Int} {i:Nat},zdB l k i=Xb->zao l k=Xb/\∀v,zh5 l k v=l++ [(k,v)]
 | [],k,i,_=>⟨rfl,fun v=>rfl⟩
 | p :: l,k,i,h=>by
  unfold zdB at h
  by_cases e:k=p.1
  ·rw[kE e]at h;cases h
  rw[kF e]at h;obtain⟨a,b⟩:=zai h;refine⟨by unfold zao;rw[kF e,a],fun v=>?_⟩
  unfold zh5;rw[kF e,b];rfl
theorem zah:∀{l:List ((Int × Int) × Int)} {k:Int × Int} {i j:Nat} {u:Xq},zdB l k i=Xa (j,u)->∃n z,u=I6 z/\j=i+n/\l[n]? =Xa (k,z)/\zao l k=Xa z/\∀v,zh5 l k v=l.set n (k,v)
 | [],k,i,j,u,h=>by cases h
 | p :: l,k,i,j,u,h=>by
  unfold zdB at h
  by_cases e:k=p.1
  ·rw[kE e]at h;cases h;refine⟨0,p.2,rfl,rfl,by rw[e];rfl,by unfold zao;rw[kE e],fun v=>?_⟩
   unfold zh5;rw[kE e];rfl
  rw[kF e]at h;obtain⟨n,z,a,b,b,c,d⟩:=zah h;refine⟨n+1,z,a,by omega,by simpa using b,by unfold zao;rw[kF e,c],fun v=>?_⟩
  unfold zh5;rw[kF e,d];rfl
def Zw (K:zal) (w:Xn) (b:Nat) (g:Int × Int->Option Int):Prop:=
 ∃es clock l,w.heap[b]? =Xa (.map es clock)/\(es.toList.map (fun e=>(e.key,e.val))=l.map (fun p:(Int × Int) × Int=>(K.enc p.1,I6 p.2))/\(es.toList.map (·.born)).Pairwise (·< ·)/\∀e∈es.toList,e.born<clock)/\∀k,zao l k=g k
theorem Zw.lt {K:zal} {w:Xn} {g:Int × Int->Option Int} (h:Zw K w b g):b<w.heap.size:=by
 obtain⟨a,c,l,a,_⟩:=h;exact(aS.1 a).1
theorem Zw.made (K:zal) (w:Xn):Zw K (w.alloc (.map #[] 0)) w.heap.size (fun _=>Xb):=⟨#[],0,[],by
 show(w.heap.push _)[w.heap.size]? =_
 simp,⟨rfl,List.Pairwise.nil,fun e a=>by cases a⟩,fun k=>rfl⟩
theorem Zw.grew {K:zal} {w:Xn} {g:Int × Int->Option Int} (h:Zw K w b g) (i:zb w w'):Zw K w' b g:=by
 have a:=h.lt;obtain⟨d,c,l,e,f⟩:=h;exact⟨d,c,l,(Below.block i b a).trans e,f⟩
theorem Zw.kept {K:zal} {w:Xn} {g:Int × Int->Option Int} {a:Option Nat} (h:Zw K w b g) (j:w.grownBy w' a) (c:Xa b≠a):Zw K w' b g:=by
 have a:=h.lt;obtain⟨e,d,l,f,i⟩:=h;exact⟨e,d,l,(j.block b a c).trans f,i⟩
theorem Zw.congr {K:zal} {w:Xn} {g a:Int × Int->Option Int} (h:Zw K w b g) (e:∀k,g k=a k):Zw K w b a:=by
 obtain⟨a,c,l,d,f,i⟩:=h;exact⟨a,c,l,d,f,fun k=>(i k).trans (e k)⟩
theorem zax (K:zal) (k:Int × Int) (w):∀(l:List ((Int × Int) × Int)) (a:List MapEntry) (i:Nat),a.map (fun e=>(e.key,e.val))=l.map (fun p=>(K.enc p.1,I6 p.2))->(Instr.findAsking K.ty (K.enc k) a i).run prog w= .ok (zdB l k i) w
 | [],[],i,_=>rfl
 | [],e :: a,i,h=>by simp at h
 | p :: l,[],i,h=>by simp at h
 | p :: l,e :: a,i,h=>by
  simp only[mP,List.cons.injEq,pJ]at h;obtain⟨⟨b,c⟩,d⟩:=h;unfold Instr.findAsking zdB;simp only[Xs,b,K.same,rA]
  by_cases b:k=p.1
  ·simp[b,c]
  simp[b,zax K k w l a (i+1) d]
theorem zaF (K:zal) (k:Int × Int) (w) (l:List ((Int × Int) × Int)) (a:List MapEntry) (h:a.map (fun e=>(e.key,e.val))=l.map (fun p=>(K.enc p.1,I6 p.2))):(Instr.findKey K.ty (K.enc k) a).run prog w= .ok (zdB l k 0) w:=by
 obtain⟨b,c⟩:=K.und;unfold Instr.findKey;simp only[Xs,run_underlying c,rA]
 cases a with
 | nil=>
  cases l with
  | nil=>rfl
  | cons p l=>simp at h
 | cons e a=>
  have:Instr.findNow (.struct b) (K.enc k) (e :: a) 0=Xb:=by simp[Instr.findNow,Instr.sameNow]
  rw[this];exact zax K k w l (e :: a) 0 h
theorem Zw.look {K:zal} {w:Xn} {g:Int × Int->Option Int} (a:Zw K w b g) {e:TypeId} (j:Tryz.prog.underlying t=Xa (.map K.ty e)) (m:(zeroValue e).run prog w= .ok (I6 0) w) (k:Int × Int) (c:Bool):
  (Instr.lookup t (.map (Xa b)) (K.enc k) c).run prog w= .ok (if c then Xm #[I6 ((g k).getD 0),Xh (g k).isSome]else I6 ((g k).getD 0)) w:=by
 obtain⟨d,f,l,f,⟨i,_⟩,h⟩:=a;have a:=zaF K k w l d.toList i;unfold Instr.lookup
 cases d:zdB l k 0 with
 | none=>
  rw[d]at a;have:=(zai d).1;rw[h k]at this
  cases c <;> simp[run_underlying j,MapKept.run_getObj_map f,K.check,a,m,this]
 | some q=>
  obtain⟨i,u⟩:=q;rw[d]at a;obtain⟨n,z,rfl,_,_,i,_⟩:=zah d;rw[h k]at i
  cases c <;> simp[run_underlying j,MapKept.run_getObj_map f,K.check,a,i]
theorem zdh (f:MapEntry->MapEntry) (b:∀e,(f e).born=e.born):∀(a:List MapEntry) (n:Nat),(a.modify n f).map (·.born)=a.map (·.born)
 | [],n=>by simp
 | e :: a,0=>by simp[b]
 | e :: a,n+1=>by simp[zdh f b a n]
structure Zo (K:zal) (es:Array MapEntry) (cl:Nat) (l:List ((Int × Int) × Int)):Prop where
 pairs:es.toList.map (fun e=>(e.key,e.val))=l.map (fun p=>(K.enc p.1,I6 p.2))
 rise:(es.toList.map (·.born)).Pairwise (·< ·)
 low:∀e∈es.toList,e.born<cl
theorem Zo.push {K:zal} {a:Array MapEntry} {l:List ((Int × Int) × Int)} (h:Zo K a cl l) (k:Int × Int) (v:Int):Zo K (a.push ⟨K.enc k,I6 v,cl⟩) (cl+1) (l++ [(k,v)]):=by
 refine⟨by simp[h.pairs],?_,fun e a=>?_⟩
 ·simp only[Ob,Yo,mP,Ym];rw[List.pairwise_append];refine⟨h.rise,by simp,fun b c b b=>?_⟩
  obtain⟨e,a,rfl⟩:=Xy.1 c
  simp at b
  rw[b];exact h.low e a
 simp only[Ob,Yd,List.mem_singleton]at a
 rcases a with a|rfl
 ·have:=h.low e a;omega
 simp
theorem Zo.modify {K:zal} {b:Array MapEntry} {l:List ((Int × Int) × Int)} (h:Zo K b cl l) {n:Nat} {k:Int × Int} (c:l[n]? =Xa (k,z)) (f:MapEntry->MapEntry) (v:Int) (a:∀e,(f e).born=e.born) (r:∀e,e.key=K.enc k->e.val=I6 z->(f e).key=K.enc k/\(f e).val=I6 v):Zo K (b.modify n f) cl (l.set n (k,v)):=by
 have g:(b.modify n f).toList.map (·.born)=b.toList.map (·.born):=by rw[Yt];exact zdh f a b.toList n
 refine⟨?_,by rw[g];exact h.rise,fun e q=>?_⟩
 ·have d:=h.pairs;rw[Yt]
  apply Ya
  intro j;have a:=congrArg (fun(x:List (Xq × Xq))=>x[j]?) d
  simp only[Yf,List.getElem?_modify,List.getElem?_set]at a⊢
  by_cases e:n=j
  ·subst e;rw[c]at a;have d:=(gS.1 c).1
   cases c:b.toList[n]? with
   | none=>rw[c]at a;simp at a
   | some i=>
    rw[c]at a
    simp at a
    obtain⟨m,p⟩:=r i a.1 a.2
    simp[d,m,p]
  simp only[e,if_false]at a⊢
  cases c:b.toList[j]? <;> rw[c]at a <;> simpa using a
 have:e.born∈b.toList.map (·.born):=by rw[<-g];exact Xy.2 ⟨e,q,rfl⟩
 obtain⟨b,a,c⟩:=Xy.1 this;rw[<-c];exact h.low b a
theorem Zo.at {K:zal} {b:Array MapEntry} {l:List ((Int × Int) × Int)} (h:Zo K b cl l) {n:Nat} {k:Int × Int} (c:l[n]? =Xa (k,z)):∃a,b[n]? =Xa a/\a.key=K.enc k/\a.val=I6 z:=by
 have:=congrArg (fun(x:List (Xq × Xq))=>x[n]?) h.pairs
 simp only[Yf,c,Option.map_some]at this
 cases c:b[n]? with
 | none=>simp[c]at this
 | some a=>simp[c]at this;exact⟨a,rfl,this.1,this.2⟩
theorem zjL:∀{l:List Nat},l.Pairwise (·< ·)->∀{i j:Nat} {x:Nat},l[i]? =Xa x->l[j]? =Xa x->i=j
 | [],_,i,j,x,h,_=>by simp at h
 | a :: l,hp,i,j,x,h,b=>by
  rw[List.pairwise_cons]at hp
  cases i with
  | zero=>
   cases j with
   | zero=>rfl
   | succ j=>
    simp at h b
    subst h;have:=hp.1 a (mG b);omega
  | succ i=>
   cases j with
   | zero=>
    simp at h b
    subst b;have:=hp.1 a (mG h);omega
   | succ j=>
    simp at h b
    rw[zjL hp.2 h b]
theorem zdj {K:zal} {w:Xn} {f c:Array MapEntry} {a:Nat} {l:List ((Int × Int) × Int)} {g:Int × Int->Option Int} {k:Int × Int} {v:Int} (e:w.heap[b]? =Xa (.map f cl)) (h:∀k,zao l k=g k) (d:Zo K c a (zh5 l k v)):
  Zw K (ChangeMaps.setBlock w b (.map c a)) b (fun x=>if x=k then Xa v else g x)/\w.grownBy (ChangeMaps.setBlock w b (.map c a)) (Xa b)/\(ChangeMaps.setBlock w b (.map c a)).heap.size=w.heap.size:=by
 refine⟨⟨c,a,zh5 l k v,ChangeMaps.heap_setBlock_same e _,⟨d.pairs,d.rise,d.low⟩,fun x=>?_⟩,⟨rfl,rfl,rfl,by simp[ChangeMaps.setBlock],fun i _ a=>ChangeMaps.heap_setBlock_other e _ (fun e=>a (by rw[e]))⟩,by simp[ChangeMaps.setBlock]⟩
 rw[zbd,h]
theorem Zw.put {K:zal} {w:Xn} {g:Int × Int->Option Int} (a:Zw K w b g) {e:TypeId} (n:Tryz.prog.underlying t=Xa (.map K.ty e)) (k:Int × Int) (v:Int):
  ∃w',(Instr.mapUpdate t (.map (Xa b)) (K.enc k) (I6 v)).run prog w= .ok () w'/\Zw K w' b (fun x=>if x=k then Xa v else g x)/\w.grownBy w' (Xa b)/\w'.heap.size=w.heap.size:=by
 obtain⟨i,h,l,c,⟨f,d,j⟩,m⟩:=a;have a:Zo K i h l:=⟨f,d,j⟩;have d:=zaF K k w l i.toList f
 cases j:zdB l k 0 with
 | none=>
  rw[j]at d;have f:=(zai j).2 v;refine⟨ChangeMaps.setBlock w b (.map (i.push ⟨K.enc k,I6 v,h⟩) (h+1)),?_,zdj c m (by rw[f];exact a.push k v)⟩
  simp[Instr.mapUpdate,run_underlying n,MapKept.run_getObj_map c,K.check,d,MapKept.run_setObj_map _ c,ChangeMaps.setBlock]
 | some q=>
  obtain⟨f,u⟩:=q;rw[j]at d;obtain⟨q,z,rfl,rfl,l,_,p⟩:=zah j;rw[zA]at d;obtain⟨f,f,j,_⟩:=a.at l;refine⟨ChangeMaps.setBlock w b (.map (i.modify q fun e=>{ e with key:=K.enc k,val:=I6 v }) h),?_,zdj c m (by rw[p];exact a.modify l _ v (fun _=>rfl) (fun _ _ _=>⟨rfl,rfl⟩))⟩
  simp[Instr.mapUpdate,run_underlying n,MapKept.run_getObj_map c,K.check,d,f,j,Instr.keyThatStays,K.bits,MapKept.run_setObj_map _ c,ChangeMaps.setBlock]
def zqY (K:zal) (w:Xn) (b:Nat) (g:Int × Int->Option Int) (k:Int × Int) (st:Int):Prop:=
 ∃es cl l,w.heap[b]? =Xa (.map es cl)/\Zo K es cl l/\(∀k,zao l k=g k)/\∃(n:Nat) (z:Int) (e:MapEntry),l[n]? =Xa (k,z)/\(∀v,zh5 l k v=l.set n (k,v))/\es[n]? =Xa e/\(e.born:Int)=st
theorem zqY.f {K:zal} {w:Xn} {g:Int × Int->Option Int} {k:Int × Int} {a:Int} (h:zqY K w b g k a):Zw K w b g:=by
 obtain⟨d,c,l,e,a,f,_⟩:=h;exact⟨d,c,l,e,⟨a.pairs,a.rise,a.low⟩,f⟩
theorem zge:∀{l:List ((Int × Int) × Int)} {k:Int × Int} (z v:Int),zao l k=Xb->zh5 (l++ [(k,z)]) k v=(l++ [(k,z)]).set l.length (k,v)
 | [],k,z,v,_=>by simp[zh5]
 | p :: l,k,z,v,h=>by
  unfold zao at h
  by_cases e:k=p.1
  ·rw[kE e]at h;cases h
  rw[kF e]at h;simp only[Yb,zh5,e,if_false,Xt,sS];rw[zge z v h]
theorem Zw.entry {K:zal} {w:Xn} {g:Int × Int->Option Int} (h:Zw K w b g) {e:TypeId} (A:Tryz.prog.underlying t=Xa (.map K.ty e)) (s:(zeroValue e).run prog w= .ok (I6 0) w) (k:Int × Int):
  ∃w' a,(Instr.mapEntry t (.map (Xa b)) (K.enc k)).run prog w= .ok (Xm #[I6 ((g k).getD 0),I6 a]) w'/\zqY K w' b (fun x=>if x=k then Xa ((g k).getD 0)else g x) k a/\w.grownBy w' (Xa b)/\w'.heap.size=w.heap.size:=by
 obtain⟨i,f,l,c,⟨r,a,d⟩,j⟩:=h;have h:Zo K i f l:=⟨r,a,d⟩;have m:=zaF K k w l i.toList r
 cases q:zdB l k 0 with
 | none=>
  rw[q]at m;obtain⟨p,d⟩:=zai q;have n:g k=Xb:=by rw[<-j];exact p
  have a:=h.push k 0;have u:=zdj c j (k:=k) (v:=0) (by rw[d];exact a)
  refine⟨ChangeMaps.setBlock w b (.map (i.push ⟨K.enc k,I6 0,f⟩) (f+1)),f,?_,⟨_,_,_,ChangeMaps.heap_setBlock_same c _,a,fun x=>?_,l.length,0,⟨K.enc k,I6 0,f⟩,by simp,fun B=>zge 0 B p,?_,rfl⟩,u.2⟩
  ·rw[n]
   simp[Instr.mapEntry,run_underlying A,MapKept.run_getObj_map c,K.check,m,s,MapKept.run_setObj_map _ c,ChangeMaps.setBlock,goInt]
  ·rw[n,<-d,zbd,j];rfl
  have:i.size=l.length:=by have:=congrArg Yh r;simpa using this
  simp[<-this]
 | some d=>
  obtain⟨p,p⟩:=d;rw[q]at m;obtain⟨r,z,rfl,rfl,p,C,s⟩:=zah q;rw[zA]at m;obtain⟨y,d,q,D⟩:=h.at p;have n:g k=Xa z:=by rw[<-j];exact C
  have a:Zo K (i.modify r fun e=>{ e with key:=K.enc k }) f (l.set r (k,z)):=h.modify p (fun e=>{ e with key:=K.enc k }) z (fun _=>rfl) (fun _ _ h=>⟨rfl,h⟩)
  have u:=zdj c j (k:=k) (v:=z) (by rw[s];exact a)
  have h:=(gS.1 p).1;refine⟨ChangeMaps.setBlock w b (.map (i.modify r fun e=>{ e with key:=K.enc k }) f),y.born,?_,⟨_,_,_,ChangeMaps.heap_setBlock_same c _,a,fun x=>?_,r,z,{ y with key:=K.enc k },sF h,fun B=>?_,?_,rfl⟩,u.2⟩
  ·rw[n]
   simp[Instr.mapEntry,run_underlying A,MapKept.run_getObj_map c,K.check,m,d,q,Instr.keyThatStays,K.bits,MapKept.run_setObj_map _ c,ChangeMaps.setBlock,goInt]
  ·rw[n,<-s,zbd,j];rfl
  ·rw[zoe p,s]
  rw[Array.getElem?_modify,kE rfl,d];rfl
theorem zqY.store {K:zal} {w:Xn} {g:Int × Int->Option Int} {k:Int × Int} {a:Int} (h:zqY K w b g k a) (t) (v:Int):
  ∃w',(Instr.entryStore t (.map (Xa b)) (I6 a) (I6 v)).run prog w= .ok () w'/\Zw K w' b (fun x=>if x=k then Xa v else g x)/\w.grownBy w' (Xa b)/\w'.heap.size=w.heap.size:=by
 obtain⟨a,p,l,i,f,q,n,z,e,r,s,c,rfl⟩:=h;have j:=(aS.1 c).1;have d:a.findIdx? (fun h=>(h.born:Int) ==(e.born:Int))=Xa n:=by
  rw[Array.findIdx?_eq_some_iff_getElem];refine⟨j,?_,fun j l=>?_⟩
  ·have:a[n]=e:=(aS.1 c).2
   simp[this]
  intro u;have m:j<a.size:=by omega
  have l:a[j].born=e.born:=by
   have:(a[j].born:Int)=(e.born:Int):=by simpa using u
   omega
  have u:(a.toList.map (·.born))[n]? =Xa e.born:=by simp[c]
  have c:(a.toList.map (·.born))[j]? =Xa e.born:=by simp[m,l]
  have:=zjL f.rise u c;omega
 refine⟨ChangeMaps.setBlock w b (.map (a.modify n fun h=>{ h with val:=I6 v }) p),?_,zdj i q (by rw[s];exact f.modify r _ v (fun _=>rfl) (fun _ a _=>⟨a,rfl⟩))⟩
 simp[Instr.entryStore,MapKept.run_getObj_map i,asInt,asIntOf,d,MapKept.run_setObj_map _ i,ChangeMaps.setBlock]
theorem zlP {K:zal} {w:Xn} {rest:List Oper} {a:Act} (c:o.guard=Xb) (t e m x v) (f:o.op= .mapUpdate t m x v) (l:Tryz.prog.underlying t=Xa (.map K.ty e)) (b:Nat) (g:Int × Int->Option Int) (h:Zw K w b g) (k:Int × Int) (z:Int)
  (j:a.eval m= .map (Xa b)) (p:a.eval x=K.enc k) (n:a.eval v=I6 z)
  (i:∀w',Zw K w' b (fun x=>if x=k then Xa z else g x)->w.grownBy w' (Xa b)->w'.heap.size=w.heap.size->wpList prog ops Q rest (a.put o.dst undef) w'):wpList prog ops Q (o :: rest) a w:=by
 refine wpList_plain c fun c d=>?_
 obtain⟨w',c,q,r,s⟩:=h.put l k z;unfold Oper.wp
 simp[execOp,f,j,p,n,c,Result.andThen]
 exact d _ _ (i w' q r s)
theorem zmp (em:Bool) (a:Int × Int) (w):(Instr.checkKey em 10000 198 (Xi #[I6 a.1,I6 a.2])).run prog w= .ok () w:=by
 have hf : (Tryz.prog.fieldsOf 198).toList.map (fun f => (f.name, f.type, f.offset)) = [("file", 3, 0), ("index", 3, 1)] := by kernel_rfl
 have hu:∃fs,Tryz.prog.underlying 198=Xa (.struct fs)/\Tryz.prog.fieldsOf 198=fs:=⟨_,underlying198,by kernel_rfl⟩
 obtain⟨fs,hu,hfe⟩:=hu;rw[hfe]at hf;obtain⟨f0,f1,hfs⟩:∃f0 f1,fs.toList=[f0,f1]:=by
  have hl:fs.toList.length=2:=by have:=congrArg Yh hf;simpa using this
  match hq:fs.toList,hl with
  | [f0,f1],_=>exact⟨f0,f1,rfl⟩
 rw[hfs]at hf
 simp at hf
 obtain⟨⟨n0,t0,o0⟩,⟨n1,t1,o1⟩⟩:=hf;have pI:∀(zs:Array Xq) (o:Nat) v,zs[o]? =Xa (I6 v)->(part 3 zs o).run prog w= .ok (I6 v) w:=fun zs o v hz=>run_part_plain w (by simp[Program.plainKey,underlying3]) hz
 have pB:∀(zs:Array Xq) (o:Nat) v,zs[o]? =Xa (Xh v)->(part 4 zs o).run prog w= .ok (Xh v) w:=fun zs o v hz=>run_part_plain w (by simp[Program.plainKey,underlying4]) hz
 have cI:∀(v:Int) (n:Nat),(Instr.checkKey em (n+1) 3 (I6 v)).run prog w= .ok () w:=fun v n=>by
  unfold Instr.checkKey
  simp[run_underlying underlying3]
 have cB:∀(v:Bool) (n:Nat),(Instr.checkKey em (n+1) 4 (Xh v)).run prog w= .ok () w:=fun v n=>by
  unfold Instr.checkKey
  simp[run_underlying underlying4]
 rw[show(10000:Nat)=9999+1 from rfl,Instr.checkKey]
 simp only[Xs,run_underlying hu,rA];rw[<-Yw,hfs];have k1:=cI a.1 9998;have k2:=cI a.2 9998;have k3:=cB Xd 9998;have q0:=pI (#[I6 a.1,I6 a.2]) 0 a.1 rfl;have q1:=pI (#[I6 a.1,I6 a.2]) 1 a.2 rfl
 simp[List.forIn_cons,n0,t0,o0,n1,t1,o1,q0,q1,k1,k2]
theorem zoq (a b:Int × Int) (w):(Op.equal 198 (Xi #[I6 a.1,I6 a.2]) (Xi #[I6 b.1,I6 b.2])).run prog w= .ok (decide (a=b)) w:=by
 have hf : (Tryz.prog.fieldsOf 198).toList.map (fun f => (f.name, f.type, f.offset)) = [("file", 3, 0), ("index", 3, 1)] := by kernel_rfl
 unfold Op.equal Op.maxDepth;rw[run_equalIn_struct w 9999 198 _ _ (by kernel_rfl) (by kernel_rfl)]
 obtain⟨f0,f1,hfs⟩:∃f0 f1,(Tryz.prog.fieldsOf 198).toList=[f0,f1]:=by
  have hl:(Tryz.prog.fieldsOf 198).toList.length=2:=by have:=congrArg Yh hf;simpa using this
  match hq:(Tryz.prog.fieldsOf 198).toList,hl with
  | [f0,f1],_=>exact⟨f0,f1,rfl⟩
 rw[hfs]at hf⊢
 simp at hf
 obtain⟨⟨n0,t0,o0⟩,⟨n1,t1,o1⟩⟩:=hf;have pI:∀(zs:Array Xq) (o:Nat) v,zs[o]? =Xa (I6 v)->(part 3 zs o).run prog w= .ok (I6 v) w:=fun zs o v hz=>run_part_plain w (by simp[Program.plainKey,underlying3]) hz
 have pB:∀(zs:Array Xq) (o:Nat) v,zs[o]? =Xa (Xh v)->(part 4 zs o).run prog w= .ok (Xh v) w:=fun zs o v hz=>run_part_plain w (by simp[Program.plainKey,underlying4]) hz
 simp only[Op.eqFields,n0,t0,o0,n1,t1,o1];obtain⟨a1,a2⟩:=a;obtain⟨b1,b2⟩:=b
 simp[pI,run_equalIn_int w _ _ _ _ _ _ underlying3]
 by_cases e1:a1=b1 <;> by_cases e2:a2=b2 <;> simp[e1,e2]
def plK:zal where
 ty:=198
 enc:=fun a=> Xi #[I6 a.1,I6 a.2]
 und:=⟨_,underlying198⟩
 check:=zmp
 same:=zoq
 bits:=fun a=>by simp[Instr.sameBits]
theorem znk (em:Bool) (a:Int × Int) (w):(Instr.checkKey em 10000 127 (Xi #[I6 a.1,I6 a.2,Xh Xd])).run prog w= .ok () w:=by
 have hf : (Tryz.prog.fieldsOf 127).toList.map (fun f => (f.name, f.type, f.offset)) = [("Kind", 3, 0), ("N", 3, 1), ("Write", 4, 2)] := by kernel_rfl
 have hu:∃fs,Tryz.prog.underlying 127=Xa (.struct fs)/\Tryz.prog.fieldsOf 127=fs:=⟨_,underlying127,by kernel_rfl⟩
 obtain⟨fs,hu,hfe⟩:=hu;rw[hfe]at hf;obtain⟨f0,f1,f2,hfs⟩:∃f0 f1 f2,fs.toList=[f0,f1,f2]:=by
  have hl:fs.toList.length=3:=by have:=congrArg Yh hf;simpa using this
  match hq:fs.toList,hl with
  | [f0,f1,f2],_=>exact⟨f0,f1,f2,rfl⟩
 rw[hfs]at hf
 simp at hf
 obtain⟨⟨n0,t0,o0⟩,⟨n1,t1,o1⟩,⟨n2,t2,o2⟩⟩:=hf;have pI:∀(zs:Array Xq) (o:Nat) v,zs[o]? =Xa (I6 v)->(part 3 zs o).run prog w= .ok (I6 v) w:=fun zs o v hz=>run_part_plain w (by simp[Program.plainKey,underlying3]) hz
 have pB:∀(zs:Array Xq) (o:Nat) v,zs[o]? =Xa (Xh v)->(part 4 zs o).run prog w= .ok (Xh v) w:=fun zs o v hz=>run_part_plain w (by simp[Program.plainKey,underlying4]) hz
 have cI:∀(v:Int) (n:Nat),(Instr.checkKey em (n+1) 3 (I6 v)).run prog w= .ok () w:=fun v n=>by
  unfold Instr.checkKey
  simp[run_underlying underlying3]
 have cB:∀(v:Bool) (n:Nat),(Instr.checkKey em (n+1) 4 (Xh v)).run prog w= .ok () w:=fun v n=>by
  unfold Instr.checkKey
  simp[run_underlying underlying4]
 rw[show(10000:Nat)=9999+1 from rfl,Instr.checkKey]
 simp only[Xs,run_underlying hu,rA];rw[<-Yw,hfs];have k1:=cI a.1 9998;have k2:=cI a.2 9998;have k3:=cB Xd 9998;have q0:=pI (#[I6 a.1,I6 a.2,Xh Xd]) 0 a.1 rfl;have q1:=pI (#[I6 a.1,I6 a.2,Xh Xd]) 1 a.2 rfl;have q2:=pB (#[I6 a.1,I6 a.2,Xh Xd]) 2 Xd rfl
 simp[List.forIn_cons,n0,t0,o0,n1,t1,o1,n2,t2,o2,q0,q1,q2,k1,k2,k3]
theorem zo8 (a b:Int × Int) (w):(Op.equal 127 (Xi #[I6 a.1,I6 a.2,Xh Xd]) (Xi #[I6 b.1,I6 b.2,Xh Xd])).run prog w= .ok (decide (a=b)) w:=by
 have hf : (Tryz.prog.fieldsOf 127).toList.map (fun f => (f.name, f.type, f.offset)) = [("Kind", 3, 0), ("N", 3, 1), ("Write", 4, 2)] := by kernel_rfl
 unfold Op.equal Op.maxDepth;rw[run_equalIn_struct w 9999 127 _ _ (by kernel_rfl) (by kernel_rfl)]
 obtain⟨f0,f1,f2,hfs⟩:∃f0 f1 f2,(Tryz.prog.fieldsOf 127).toList=[f0,f1,f2]:=by
  have hl:(Tryz.prog.fieldsOf 127).toList.length=3:=by have:=congrArg Yh hf;simpa using this
  match hq:(Tryz.prog.fieldsOf 127).toList,hl with
  | [f0,f1,f2],_=>exact⟨f0,f1,f2,rfl⟩
 rw[hfs]at hf⊢
 simp at hf
 obtain⟨⟨n0,t0,o0⟩,⟨n1,t1,o1⟩,⟨n2,t2,o2⟩⟩:=hf;have pI:∀(zs:Array Xq) (o:Nat) v,zs[o]? =Xa (I6 v)->(part 3 zs o).run prog w= .ok (I6 v) w:=fun zs o v hz=>run_part_plain w (by simp[Program.plainKey,underlying3]) hz
 have pB:∀(zs:Array Xq) (o:Nat) v,zs[o]? =Xa (Xh v)->(part 4 zs o).run prog w= .ok (Xh v) w:=fun zs o v hz=>run_part_plain w (by simp[Program.plainKey,underlying4]) hz
 simp only[Op.eqFields,n0,t0,o0,n1,t1,o1,n2,t2,o2];obtain⟨a1,a2⟩:=a;obtain⟨b1,b2⟩:=b
 simp[pI,pB,run_equalIn_bool' w _ _ _ _ underlying4,run_equalIn_int w _ _ _ _ _ _ underlying3]
 by_cases e1:a1=b1 <;> by_cases e2:a2=b2 <;> simp[e1,e2]
def enK:zal where
 ty:=127
 enc:=fun a=> Xi #[I6 a.1,I6 a.2,Xh Xd]
 und:=⟨_,underlying127⟩
 check:=znk
 same:=zo8
 bits:=fun a=>by simp[Instr.sameBits]
theorem Box.ne_map {K:zal} {w:Xn} {cs:List Xq} {g:Int × Int->Option Int} (h:Box w b cs) (k:Zw K w B g):b≠B:=fun e=>by
 subst e;obtain⟨t,h⟩:=h;obtain⟨a,a,l,a,_⟩:=k;rw[h]at a;cases a
theorem zc.ne_map {α:Type} {E:Elt α} {K:zal} {w:Xn} {base:Nat} {v:Xq} {l:List α} {g:Int × Int->Option Int} (h:zc E base w v l) (k:Zw K w B g):∀x,v.ownBlock=Xa x->Xa B≠Xa x:=fun x a e=>by
 cases e;obtain⟨b,b⟩:=h.obj a;obtain⟨a,a,l,a,_⟩:=k;rw[b]at a;cases a
theorem zsn (w):(zeroValue 3).run prog w= .ok (I6 0) w:=by kernel_rfl
theorem QY (V:MaV) (m:Ma) (w) (z:zE w V m):
  Xp prog 70 #[Xi (mL V m).toArray] w fun e w'=>∃Q,e= Xl (Xi #[V.f.x,I6 m.hand,V.s.x,V.sb.x,V.sq.x,V.db.x,V.dq.x,V.fl.x,I6 m.cnt,V.ca.x,V.sp.x,.map (Xa Q)])/\Zw plK w' Q (ZH m.ca)/\zb w w':=by
 obtain⟨s,t,h,j,d,f,g,⟨l,a,b⟩,i⟩:=V;dsimp only[mL];obtain⟨-,-,-,-,-,-,-,L,-⟩:=z.ns;dsimp only at L;have a4:=dD z.cas;have S:=dD L.symm;have Z:a<=9223372036854775807:=by have:=z.ca.short;omega
 clear z L;have H:=@run_makeMap prog;obtain⟨x,n⟩:=kB (((w.alloc (Xk #[s.x,I6 m.hand,t.x,h.x,j.x,d.x,f.x,g.x,I6 m.cnt,O l a b,i.x] 45)).alloc (Xk #[eS,I6 0,eS,eS,eS,eS,eS,eS,I6 0,eS,eS,.map Xb] 131)).alloc (.map #[] 0));have B:Xo (zb w x):=dD<|by rw[<-n];exact((za _ _).trans (za _ _)).trans (za _ _)
 have W:Xo (Box x w.heap.size [s.x,I6 m.hand,t.x,h.x,j.x,d.x,f.x,g.x,I6 m.cnt,O l a b,i.x]):=dD<|by rw[<-n];exact((Box.top _ _ _ rfl).alloc _).alloc _
 have ac:Xo (Box x (w.heap.size+1) [eS,I6 0,eS,eS,eS,eS,eS,eS,I6 0,eS,eS,.map Xb]):=dD<|by rw[<-n];exact(Box.top _ _ _ (by simp)).alloc _
 have a5:Xo (Zw plK x (w.heap.size+1+1) (ZH (m.ca.take 0))):=dD<|by
  rw[<-n];have:=Zw.made plK ((w.alloc (Xk #[s.x,I6 m.hand,t.x,h.x,j.x,d.x,f.x,g.x,I6 m.cnt,O l a b,i.x] 45)).alloc (Xk #[eS,I6 0,eS,eS,eS,eS,eS,eS,I6 0,eS,eS,.map Xb] 131));have aq:((w.alloc (Xk #[s.x,I6 m.hand,t.x,h.x,j.x,d.x,f.x,g.x,I6 m.cnt,O l a b,i.x] 45)).alloc (Xk #[eS,I6 0,eS,eS,eS,eS,eS,eS,I6 0,eS,eS,.map Xb] 131)).heap.size=w.heap.size+1+1:=by simp
  rw[aq]at this;exact this.congr fun ar=>by rw[List.take_zero];rfl
 have E:=dD n;clear n
 go_enter func70,ntmps70
 go_upto_region 2 with fail;rw[E.out];clear H;have P:=W.c 9 rfl;go_wp2;clear P
 go_loopg [10] a (fun an M wr=>∃k:Nat,k<=a/\a - k<=an/\M=I6 k/\Xo (zb w wr)/\Xo (Box wr w.heap.size [s.x,I6 m.hand,t.x,h.x,j.x,d.x,f.x,g.x,I6 m.cnt,O l a b,i.x])/\Xo (Box wr (w.heap.size+1) [eS,I6 0,eS,eS,eS,eS,eS,eS,I6 0,eS,eS,.map Xb])/\Xo (Zw plK wr (w.heap.size+1+1) (ZH (m.ca.take k))))
 case atStart=>exact⟨0,nZ _,by omega,rfl,B,W,ac,a5⟩
 obtain⟨k,ap,ao,rfl,A,X,Y,T⟩:=hrel
 by_cases r:k<a
 ·have v:=kC r
  obtain⟨p,R⟩:∃p,Xo (m.ca[k]? =Xa p):=⟨_,gE (by rw[S.out];exact r)⟩
  obtain⟨ag,rfl,I⟩:=a4.out k p R.out;obtain⟨ak,al,am⟩:=I wr A.out;clear I;go_upto_region 5 with fail;obtain⟨a9,c⟩:=kB (wr.alloc (Xk #[I6 p.file,I6 p.idx,I6 p.fr] 105));have C:=gT c A
  have aa:=yA c X
  have ae:=yA c Y
  have a6:Xo (Zw plK a9 (w.heap.size+1+1) (ZH (m.ca.take k))):=dD<|by rw[<-c];exact T.grew (za _ _)
  have a2:=xA c
  rw[c];clear c ak al am;obtain⟨ah,ai,aj⟩:=a2.c3
  go_wp2_with (refine zlP (K:=plK) rfl 129 3 (.tmp 14) (.tmp 19) (.tmp 21) rfl underlying129 (w.heap.size+1+1) _ a6 (p.file,p.idx) p.fr rfl rfl rfl ?_)
  clear ah ai aj;intro y a1 q _;have a7:Xo (Zw plK y (w.heap.size+1+1) (ZH (m.ca.take (k+1)))):=dD<|a1.congr fun ar=>by rw[j0 R.out,zgH]
  have D:Xo (zb w y):=dD<|zd C q (by omega)
  have ab:Xo (Box y w.heap.size [s.x,I6 m.hand,t.x,h.x,j.x,d.x,f.x,g.x,I6 m.cnt,O (Xa ag) a b,i.x]):=aa.grown q (by omega)
  have af:Xo (Box y (w.heap.size+1) [eS,I6 0,eS,eS,eS,eS,eS,eS,I6 0,eS,eS,.map Xb]):=ae.grown q (by omega)
  clear a1 q;go_wp2
  go_roundg (a -(k+1))
  case measure=>omega
  exact⟨k+1,by omega,by omega,by go_num,D,ab,af,a7⟩
 have v:=kD r
 have:k=a:=by omega
 subst this;have F:Xo (Zw plK wr (w.heap.size+1+1) (ZH m.ca)):=dD<|by
  have:=T.out;rw[Yl (by rw[S.out];exact nR _)]at this
  exact this
 obtain⟨au,av,aw,ax,ay,az,b0,b1,b2,P,N⟩:=X.c11
 go_wp2_with (refine zz rfl 131 (.tmp 2) (.tmp 25) rfl (w.heap.size+1) rfl [s.x,I6 m.hand,t.x,h.x,j.x,d.x,f.x,g.x,I6 m.cnt,O l k b,i.x,.map (Xa (w.heap.size+1+1))] rfl Y rfl (by kernel_rfl) (fun b3 a0=>by
  simp only[mC,nM,or_false]at a0
  rcases a0 with rfl|rfl|rfl|rfl|rfl|rfl|rfl|rfl|rfl|rfl|rfl|rfl <;> rfl) ?_)
 clear au av aw ax ay az b0 b1 b2 P N;intro U G u _;have a3:Xo (zb w U):=dD<|zd A u (by omega)
 have a8:Xo (Zw plK U (w.heap.size+1+1) (ZH m.ca)):=F.kept u (by simp)
 go_wp2;refine bodyPost_ret (zG rfl _ rfl G underlying131 rfl (by kernel_rfl)) rfl ⟨_,rfl,a8,a3⟩
theorem zfu (V:MaV) (m:Ma) (B k:Nat) (g:Int × Int->Option Int) (w) (b:zE w V m) (s:k<m.fs.length) (d:Zw plK w B g):
  Xp prog 72 #[Xi #[V.f.x,I6 m.hand,V.s.x,V.sb.x,V.sq.x,V.db.x,V.dq.x,V.fl.x,I6 m.cnt,V.ca.x,V.sp.x,.map (Xa B)],I6 (k:Int)] w fun e w'=>e= Xl (Xh (decide (g ((zQ m k).f,(zQ m k).x)=Xa (k:Int))))/\zb w w':=by
 obtain⟨⟨x,r,y⟩,z,j,p,f,h,i,c,n⟩:=V;dsimp only[mL];obtain⟨t,-⟩:=b.ns;dsimp only at t;have a:k<r:=by omega
 obtain⟨q,l⟩:∃q,Xo (m.fs[k]? =Xa q):=⟨_,gE s⟩;have a:zQ m (k:Int)=q:=by unfold zQ;rw[tN,gD,l.out];rfl
 rw[a];obtain⟨v,rfl,u⟩:=(show zjV w x m.fs from b.frs) k q l.out
 clear a b t s;obtain⟨l,b⟩:=kB (w.alloc (Xk #[O (Xa v) r y,I6 m.hand,z.x,j.x,p.x,f.x,h.x,i.x,I6 m.cnt,c.x,n.x,.map (Xa B)] 131));have a:=gA b
 have t:=xA b
 have h:=sA b
 obtain⟨x,y,z,A,C,D,E,F,G,H,n,p,r⟩:=u l a.out;obtain⟨i,c⟩:=kB (l.alloc (Xk #[U8 q.p.b0,U8 q.p.b1,U8 q.p.b2,U8 q.p.b3,U8 q.p.b4,U8 q.p.b5,U8 q.p.b6,U8 q.p.b7,I6 q.r,Xh q.u,Xh q.d,I6 q.f,I6 q.x] 93));have f:=gT c a
 have v:=yA c t
 have s:=xP c h
 have a:(Instr.lookup 129 (.map (Xa B)) (Xi #[I6 q.f,I6 q.x]) Xc).run prog i= .ok (Xm #[I6 ((g (q.f,q.x)).getD 0),Xh (g (q.f,q.x)).isSome]) i:=(d.grew f).look (K:=plK) underlying129 (zsn i) (q.f,q.x) Xc;have j:Xo (_=l):=b;have l:Xo (_=i):=c;clear b c u d;obtain⟨R,b⟩:=kA (decide (g (q.f,q.x)=Xa (k:Int)));rw[b.out];obtain⟨d,c⟩:=kA (g (q.f,q.x));rw[c.out]at a b
 go_enter func72,ntmps72
 go_upto_region 1 with fail;rw[j.out];have c:=t.c 0 rfl;go_upto_region 2 with fail;rw[l.out];rw[h.out];clear x y z A C D E F G H n p r c;have c:=v.c 11 rfl;have c:=s.c 11 rfl;have c:=s.c 12 rfl
 cases d with
 | none=>
  simp only[Option.getD_none,Option.isSome_none]at a;go_wp2;go_ret;exact⟨by rw[<-b.out];rfl,f⟩
 | some z=>
  simp only[Option.getD_some,Option.isSome_some]at a;have a:Xo ((z ==(k:Int))=R):=dD<|by rw[<-b.out,Bool.eq_iff_iff];simp
  go_wp2;go_ret;exact⟨by rw[<-a.out];rfl,f⟩
end
end Go.Proofs.YtmfckdkcmbncdaaGreat
