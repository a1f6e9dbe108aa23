import Derived.Test.YtangilolcekceaaGreatPE5
import Derived.OrdersHeld
namespace Go.Proofs.YtangilolcekceaaGreat
set_option maxRecDepth 100000
set_option maxHeartbeats 4000000
variable{Q:Exit->Act->World->Prop} {T:List (Nat->En)} {V:MaV} {b i id j q:Nat} {l:List Ar} {m:Ma} {o:Oper} {ops:Array Oper} {vs:List Value} {w0 w1 w2:World} {z:Int}
open Go.Proofs.Tryz
section
open Go.RowKit
theorem zf3 (x:SpV) (w:World):
  Calls prog 121 #[.agg #[.bool x.live,x.ar.x,x.t0.x,x.t1.x,x.t2.x,x.t3.x,x.t4.x,x.t5.x,x.t6.x,x.t7.x]] w fun e w'=>e= .returned (.bool (!x.live))/\zc w w':=by
 obtain⟨W0,hW0⟩:∃W0,w.alloc (.cells #[.bool x.live,x.ar.x,x.t0.x,x.t1.x,x.t2.x,x.t3.x,x.t4.x,x.t5.x,x.t6.x,x.t7.x] 65)=W0:=⟨_,rfl⟩;have HG0:=gA hW0
 have X0:=xA hW0
 have HW0:Hid (_=W0):=hW0;clear hW0
 go_enter func121,ntmps121
 go_upto_region 1 with fail;rw[HW0.out];have x0:=X0.c 0 rfl;go_wp2;go_ret;exact⟨rfl,HG0⟩
def zl0 (l:List SpV) (z:Int):Prop:=(∃(k:Nat) (x:SpV),z=k/\l[k]? =some x/\x.live=false/\∀(j:Nat) (q:SpV),j<k->l[j]? =some q->q.live=true)\/(z=-1/\∀(j:Nat) (q:SpV),l[j]? =some q->q.live=true)
theorem zc4 (v:Value) (l:List SpV) (w:World) (hv:zr jB w v l):
  Calls prog 120 #[v,.func (.func 121) #[] #[]] w fun e w'=>(∃z:Int,e= .returned (I6 z)/\zl0 l z)/\zc w w':=by
 have hbig:=hv.short;obtain⟨a,c,rfl,hrow⟩:=hv.sps;have HR:Hid (zkO w a l):=hrow;have eg:=enters_of func121 (by kernel_rfl) rfl
 clear hrow hv;obtain⟨n,HN⟩:∃n,Hid (l.length=n):=⟨_,rfl⟩;rw[HN.out]at hbig⊢;obtain⟨ANS,HANS⟩:∃ANS:Int->Prop,Hid (∀z,zl0 l z=ANS z):=⟨zl0 l,fun _=>rfl⟩
 simp only[HANS.out]
 go_enter func120,ntmps120
 go_wp2
 go_loopg [5,8] n (fun gg _ s8 wr=>∃kk:Nat,kk<=n/\n - kk<=gg/\s8=I6 kk/\Hid (zc w wr)/\Hid (∀(j:Nat) (q:SpV),j<kk->l[j]? =some q->q.live=true))
 case atStart=>exact⟨0,nZ _,by omega,rfl,zc.refl w,fun j q hj=>absurd hj (nL _)⟩
 obtain⟨kk,hkk,hg,rfl,BW,A⟩:=hrel
 by_cases hlt:kk<n
 ·have hltz:(kk:Int)< (n:Int):=by omega
  obtain⟨x,HQ⟩:∃q,Hid (l[kk]? =some q):=⟨_,gE (by rw[HN.out];exact hlt)⟩
  obtain⟨ad,rfl,hl⟩:=HR.out kk x HQ.out;obtain⟨d0,d1,d2,d3,d4,d5,d6,d7,d8,d9⟩:=jw.sp10 (hl wr BW);have hcall:=zf3 x wr;clear hl
  cases hq:x.live with
  | false=>
   have HF:Hid (ANS (kk:Int)):=dD<|by
    rw[<-HANS.out];exact .inl ⟨kk,x,rfl,HQ,hq,A⟩
   rw[hq]at hcall d0;clear hq;go_wp2_with fail;refine hcall.mono ?_;rintro e W2 ⟨rfl,g2⟩;have G2:=dD (BW.trans g2);clear g2 hcall d0 d1 d2 d3 d4 d5 d6 d7 d8 d9;go_wp2;go_ret;exact⟨⟨_,rfl,HF⟩,G2⟩
  | true=>
   have A2:Hid (∀(j:Nat) (q:SpV),j<kk+1->l[j]? =some q->q.live=true):=dD<|fun j q hj hjq=>by
    by_cases e:j=kk
    ·subst e;rw[HQ.out]at hjq;cases hjq;exact hq
    exact A j q (by omega) hjq
   rw[hq]at hcall d0;clear hq;go_wp2_with fail;refine hcall.mono ?_;rintro e W2 ⟨rfl,g2⟩;have G2:=dD (BW.trans g2);clear g2 hcall d0 d1 d2 d3 d4 d5 d6 d7 d8 d9;go_wp2
   go_roundg (n -(kk+1))
   case measure=>omega
   exact⟨kk+1,by omega,by omega,by go_num,G2,A2⟩
 have hltz:¬(kk:Int)< (n:Int):=by omega
 have HF:Hid (ANS (-1)):=dD<|by
  rw[<-HANS.out];refine .inr ⟨rfl,fun j q hjq=>A.out j q ?_ hjq⟩
  have:=(gS.1 hjq).1;have:=HN.out;omega
 go_wp2;go_ret;exact⟨⟨_,rfl,HF⟩,BW⟩
def Vac (l:List Sp) (k:Nat):Prop:=k<=l.length/\(∀s,l[k]? =some s->s.live=false)/\∀(j:Nat) (s:Sp),j<k->l[j]? =some s->s.live=true
theorem zhv (v:Value) (ss:List Sp) (w:World) (hv:Qx w v ss):
  Calls prog 73 #[v] w fun e w'=>(∃k:Nat,e= .returned (I6 (k:Int))/\Vac ss k)/\zc w w':=by
 obtain⟨xs,k1,k2,k3⟩:=hv;have hix:=zc4 v xs w k1;have HV:Hid (∀z,zl0 xs z->(∃k:Nat,z=(k:Int)/\Vac ss k)\/(z=-1/\Vac ss xs.length)):=dD<|fun z hz=>by
  have key:∀(j:Nat) s,ss[j]? =some s->∃x,xs[j]? =some x/\x.live=s.live:=fun j s hs=>by
   have hj:j<xs.length:=by rw[k2];exact(gS.1 hs).1
   exact⟨_,gE hj,(k3 j _ s (gE hj) hs).live⟩
  rcases hz with⟨k,x,rfl,h1,h2,h3⟩|⟨rfl,h1⟩
  ·refine .inl ⟨k,rfl,?_,fun s hs=>?_,fun j s hj hs=>?_⟩
   ·rw[<-k2];exact Nat.le_of_lt (gS.1 h1).1
   ·obtain⟨y,e1,e2⟩:=key k s hs;rw[h1]at e1;cases e1;rw[<-e2,h2]
   obtain⟨y,e1,e2⟩:=key j s hs;rw[<-e2];exact h3 j y hj e1
  refine .inr ⟨rfl,by rw[k2];exact nR _,fun s hs=>?_,fun j s hj hs=>?_⟩
  ·rw[k2,gN (nR _)]at hs;cases hs
  obtain⟨y,e1,e2⟩:=key j s hs;rw[<-e2];exact h1 j y e1
 obtain⟨a,c,rfl,_⟩:=k1.rows;clear k1 k2 k3;obtain⟨n,HN⟩:∃n,Hid (xs.length=n):=⟨_,rfl⟩;rw[HN.out]at hix HV⊢
 go_enter func73,ntmps73
 go_wp2_with fail;refine hix.mono ?_;clear hix;rintro e W1 ⟨⟨z,rfl,hz⟩,g1⟩;have G1:Hid (zc w W1):=g1;clear g1
 rcases HV z hz with⟨k,rfl,hk⟩|⟨rfl,hk⟩
 ·have HK:Hid (Vac ss k):=hk;have hneg:¬(k:Int)<0:=by omega
  clear hk hz;go_wp2;go_ret;exact⟨⟨k,rfl,HK⟩,G1⟩
 have HK:Hid (Vac ss n):=hk;clear hk hz;go_wp2;go_ret;exact⟨⟨n,rfl,HK⟩,G1⟩
def zaD {α:Type} (l:List α) (k:Nat) (y:α):List α:=if k=l.length then l++ [y]else l.set k y
theorem Ja {α:Type} {l:List α} {k:Nat} (hk:k<=l.length) (y:α) (i:Nat):(zaD l k y)[i]? =if i=k then some y else l[i]?:=by
 unfold zaD
 by_cases h:k=l.length
 ·rw[if_pos h];subst h
  by_cases e:i=l.length
  ·subst e;simp
  rw[if_neg e]
  rcases Nat.lt_or_gt_of_ne e with h1|h1
  ·rw[List.getElem?_append_left h1]
  rw[gN (by simp;omega),gN (by omega)]
 rw[if_neg h,List.getElem?_set]
 by_cases e:k=i
 ·subst e;rw[if_pos rfl,if_pos rfl,if_pos (by omega)]
 rw[if_neg e,if_neg (fun h=>e h.symm)]
theorem zbW {α:Type} {l:List α} {k:Nat} (hk:k<=l.length) (y:α):(zaD l k y).length=max l.length (k+1):=by
 unfold zaD
 by_cases h:k=l.length
 ·rw[if_pos h];simp;omega
 rw[if_neg h];simp;omega
theorem zga (base:Nat) (v:Value) (xs:List SpV) (k:Nat) (y:SpV) (w:World) (hv:zb jB base w v xs) (hb:base<=w.heap.size) (hk:k<=xs.length) (h4:xs.length<=4):
  Calls prog 75 #[v,I6 (k:Int),.agg #[.bool y.live,y.ar.x,y.t0.x,y.t1.x,y.t2.x,y.t3.x,y.t4.x,y.t5.x,y.t6.x,y.t7.x]] w fun e w'=>∃v',e= .returned v'/\zb jB base w' v' (zaD xs k y)/\w.grownBy w' v.ownBlock/\∀g,v'.ownBlock=some g->v.ownBlock=some g\/w.heap.size<=g:=by
 have HV:Hid (zb jB base w v xs):=hv;have HB:Hid (base<=w.heap.size):=hb;obtain⟨a,c,rfl⟩:=hv.form;obtain⟨n,HN⟩:∃n,Hid (xs.length=n):=⟨_,rfl⟩;rw[HN.out]at HV hk h4⊢;clear hv hb;obtain⟨W0,hW0⟩:∃W0,w.alloc (.cells #[.bool y.live,y.ar.x,y.t0.x,y.t1.x,y.t2.x,y.t3.x,y.t4.x,y.t5.x,y.t6.x,y.t7.x] 65)=W0:=⟨_,rfl⟩;have G0:=gA hW0
 have X0:=xA hW0
 have HW0:Hid (_=W0):=hW0;clear hW0
 go_enter func75,ntmps75
 go_upto_region 1 with fail;rw[HW0.out];obtain⟨b,HBB⟩:∃b,Hid (w.heap.size=b):=⟨_,rfl⟩;rw[HBB.out]at X0⊢;obtain⟨x0,x1,x2,x3,x4,x5,x6,x7,x8,x9⟩:=X0.c10
 by_cases he:k=n
 ·have hez:((k:Int) ==(n:Int))=true:=by rw[he];simp
  have HSS:Hid (zaD xs k y=xs++ [y]):=dD<|by unfold zaD;rw[if_pos (by rw[HN.out];exact he)]
  clear he;obtain⟨W1,hW1⟩:∃W1,W0.alloc (.cells #[.bool y.live,y.ar.x,y.t0.x,y.t1.x,y.t2.x,y.t3.x,y.t4.x,y.t5.x,y.t6.x,y.t7.x] 65)=W1:=⟨_,rfl⟩;have G1:=gT hW1 G0
  have R1:Hid (zr jB W1 (.slice (some ⟨W0.heap.size,0,none⟩) 1 1) [y]):=dD<|by rw[<-hW1];exact zcf jB W0 [y] _ rfl (show 1*224<=140737488355328 by decide)
  have HW1:Hid (_=W1):=hW1;clear hW1
  go_wp2_with (at_builtin;rw[HW1.out];refine zal (E:=jB) rfl (.tmp 11) (.tmp 13) rfl base _ xs rfl (HV.grew G1) _ [y] rfl R1.out ?hb (nT HB (bS G1)) ?_)
  case hb=>
   show(xs.length+1)*224<=_
   rw[HN.out];omega
  intro v' W2 ow2 gr2 ap2;have HF:Hid (zb jB base W2 v' (zaD xs k y)/\w.grownBy W2 (Value.slice a n c).ownBlock/\∀g,v'.ownBlock=some g->(Value.slice a n c).ownBlock=some g\/w.heap.size<=g):=dD<|⟨by rw[HSS.out];exact ow2,⟨gr2.os.trans (Below.os G1),gr2.tape.trans (Below.tape G1),gr2.output.trans (Below.output G1),nT (bS G1) gr2.size,fun i hi hne=>(gr2.block i (Nat.lt_of_lt_of_le hi (bS G1)) hne).trans (Below.block G1 i hi)⟩,fun g hg=>(ap2 g hg).imp id (fun h=>nT (bS G1) h)⟩
  clear ow2 gr2 ap2;go_wp2;go_ret;exact⟨_,rfl,HF⟩
 have hez:((k:Int) ==(n:Int))=false:=by
  have:(k:Int)≠(n:Int):=by omega
  simpa using this
 have HSS:Hid (zaD xs k y=xs.set k y):=dD<|by unfold zaD;rw[if_neg (by rw[HN.out];exact he)]
 have hkn:k<n:=by omega
 have hkz:(k:Int)< (n:Int):=by omega
 clear he;obtain⟨g,c',heq⟩:=HV.formS (by rw[HN.out];omega)
 rw[HN.out]at heq;cases heq
 go_wp2_with (refine qK (E:=jB) rfl (.tmp 18) (.tmp 17) rfl base _ xs (HV.grew G0) g k rfl y (by rw[HN.out];exact hkn) _ rfl (by simp[jB]) _ rfl rfl ?_)
 intro W2 ow2 gr2 sz2;have HF:Hid (zb jB base W2 (.slice (some ⟨g,0,none⟩) n c) (zaD xs k y)/\w.grownBy W2 (Value.slice (some ⟨g,0,none⟩) n c).ownBlock/\∀g',(Value.slice (some ⟨g,0,none⟩) n c).ownBlock=some g'->(Value.slice (some ⟨g,0,none⟩) n c).ownBlock=some g'\/w.heap.size<=g'):=dD<|⟨by rw[HSS.out];exact ow2,⟨gr2.os.trans (Below.os G0),gr2.tape.trans (Below.tape G0),gr2.output.trans (Below.output G0),nT (bS G0) gr2.size,fun i hi hne=>(gr2.block i (Nat.lt_of_lt_of_le hi (bS G0)) hne).trans (Below.block G0 i hi)⟩,fun g' hg=> .inl hg⟩
 clear ow2 gr2 sz2 x0 x1 x2 x3 x4 x5 x6 x7 x8 x9;go_wp2;go_ret;exact⟨_,rfl,HF⟩
theorem ChM.space {w w3:World} {p k:Nat} (h:ChM w0 p w V m) {xs:List SpV} {ya sv:Sli} (hk:k<=m.sp.length) (s2:xs.length=m.sp.length) (s3:∀(i:Nat) x s,xs[i]? =some x->m.sp[i]? =some s->∀W,qW (Dq w0.heap.size p V.sp) w W->z5 W x s)
  (g1:zc w w1) (ar:zb arE w.heap.size w1 (ya.x) l) (ow:zb jB w0.heap.size w2 (sv.x) (zaD xs k ⟨true,ya,zy,zy,zy,zy,zy,zy,zy,zy⟩)) (g2:w1.grownBy w2 (V.sp.x).ownBlock)
  (ap:∀g,(sv.x).ownBlock=some g->(V.sp.x).ownBlock=some g\/w1.heap.size<=g) (g3:w2.grownBy w3 (some p)) (bx:zn w3 p 141 (chL { V with sp:=sv } m)):
  ChM w0 p w3 { V with sp:=sv } { m with sp:=zaD m.sp k ⟨true,l,zY⟩ }:=by
 have o12:qW (Dp p V.sp) w1 w2:=⟨g2.os,g2.tape,g2.output,g2.size,fun i hi hb=>g2.block i hi (fun e=>hb (.inr e.symm))⟩
 have o23:qW (Dp p V.sp) w2 w3:=qW.grown g3 (.inl rfl);have o13:=o12.trans o23;have key:∀W,qW (Dq w0.heap.size p sv) w3 W->qW (Dq w0.heap.size p V.sp) w1 W:=fun W hW=>have o13:=o13.big w0.heap.size;⟨hW.os.trans o13.os,hW.tape.trans o13.tape,hW.output.trans o13.output,nT o13.size hW.size,fun i hi hb=>(hW.block i (Nat.lt_of_lt_of_le hi o13.size) (fun e=>by
  rcases e with e|e|e
  ·exact hb (.inl e)
  ·exact hb (.inr (.inl e))
  rcases ap i e with e|e
  ·exact hb (.inr (.inr e))
  omega)).trans (o13.block i hi hb)⟩
 have key0:∀W,qW (Dq w0.heap.size p sv) w3 W->qW (Dq w0.heap.size p V.sp) w W:=fun W hW=>(qW.grew g1).trans (key W hW)
 have gr3:zc w0 w3:=by
  have a1:=h.gr.trans g1;have hd:=h.dlo;exact⟨o13.os.trans (Below.os a1),o13.tape.trans (Below.tape a1),o13.output.trans (Below.output a1),nT (bS a1) o13.size,fun i hi=>(o13.block i (Nat.lt_of_lt_of_le hi (bS a1)) (fun e=>by have:=hd i e;omega)).trans (Below.block a1 i hi)⟩
 have hpt:(141:TypeId)≠jB.ty:=by decide
 refine⟨gr3,h.lo,bx,fun W hW=>?_,⟨_,ow.grown g3 (fun g hg e=>?_),?_,fun i x s hx hs W hW=>?_⟩⟩
 ·have r:=h.rest W (key0 W hW);exact⟨r.fs,r.sl,r.sb,r.sq,r.db,r.dq,r.fl,r.ca⟩
 ·have hb1:zn w2 p 141 (chL V m):=(h.box.grew g1).beside g2 (fun g' e=>h.ne g' e)
  cases e;exact ow.ne hb1 hpt _ hg rfl
 ·show(zaD xs k _).length=(zaD m.sp k _).length
  rw[zbW (by omega),zbW hk,s2]
 have hs:(zaD m.sp k ⟨true,l,zY⟩)[i]? =some s:=hs;rw[Ja (by omega)]at hx
 rw[Ja hk]at hs
 by_cases e:i=k
 ·rw[if_pos e]at hx hs;cases hx;cases hs;exact⟨rfl,ar.new.staysD h.dqt W (key W hW),ar.cap,Qg.nil _ _ _⟩
 rw[if_neg e]at hx hs;exact s3 i x s hx hs W (key0 W hW)
def Qo (m:Ma) (p:Int) (q:Nat) (s:Sp):Prop:=p=(q:Int)/\m.sp[q]? =some s/\s.live=true
theorem Jq (V:MaV) (m:Ma) (p:Int) (w:World) (hm:zF w V m) (h0:maW m=0):
  Calls prog 72 #[.agg (mL V m).toArray,I6 p] w fun e w'=>((e= .returned (I6 0)/\∃q s,Qo m p q s)\/(e= .returned (I6 5)/\∀q s,¬Qo m p q s))/\zc w w':=by
 obtain⟨W1,hW1⟩:∃W1,w.alloc (.cells (mL V m).toArray 40)=W1:=⟨_,rfl⟩;have G1:=gA hW1
 have X1:=xA hW1
 have HM:Hid (zF w V m):=hm;have HW1:Hid (_=W1):=hW1;clear hW1;have hwr:=zhr V m W1 (hm.grew G1);rw[h0]at hwr;obtain⟨-,-,-,-,-,-,-,-,n9⟩:=hm.ns;have HN9:Hid (V.sp.n=m.sp.length):=n9;clear hm h0 n9
 go_enter func72,ntmps72
 go_upto_region 1 with fail;rw[HW1.out];obtain⟨b,HB⟩:∃b,Hid (w.heap.size=b):=⟨_,rfl⟩;rw[HB.out]at X1⊢;obtain⟨x0,x1,x2,x3,x4,x5,x6,x7,x8,x9,x10⟩:=X1.c11;go_wp2_with fail;refine hwr.mono ?_;clear hwr x0 x1 x2 x3 x4 x5 x6 x7 x8 x9 x10;rintro e W2 ⟨rfl,g2⟩;have G2:=dD (G1.trans g2);have X2:=dD (X1.grew g2);clear g2;have x10:=X2.c 10 rfl;obtain⟨sn,HSN⟩:∃sn,Hid (V.sp.n=sn):=⟨_,rfl⟩;(try simp only[Sli.x]at x10);rw[HSN.out]at x10
 by_cases hneg:p<0
 ·have HF:Hid (∀q s,¬Qo m p q s):=dD<|fun q s h=>by have:=h.1;omega
  go_wp2;go_ret;exact⟨.inr ⟨rfl,HF⟩,G2⟩
 by_cases hge:(sn:Int)<=p
 ·have HF:Hid (∀q s,¬Qo m p q s):=dD<|fun q s h=>by
   have:=h.1;have:=(gS.1 h.2.1).1;have:=HSN.out;have:=HN9.out;omega
  go_wp2;go_ret;exact⟨.inr ⟨rfl,HF⟩,G2⟩
 obtain⟨q,rfl⟩:∃q:Nat,p=(q:Int):=⟨p.toNat,by omega⟩
 have hqz:(q:Int)< (sn:Int):=by omega
 obtain⟨xs,s1,s2,s3⟩:=(HM.grew G2).sp;obtain⟨x,hx⟩:∃x,xs[q]? =some x:=⟨_,gE (by rw[s2,<-HN9.out,HSN.out];omega)⟩
 obtain⟨s,hs⟩:∃s,m.sp[q]? =some s:=⟨_,gE (by rw[<-HN9.out,HSN.out];omega)⟩
 have hlv:=(s3 q x s hx hs).live;obtain⟨a,c,heq,hrow⟩:=s1.sps;have ha:V.sp.a=a:=by
  simp only[vJ]at heq;exact heq.1
 obtain⟨ad,had,hl⟩:=hrow q x hx;have HS:Hid (m.sp[q]? =some s):=hs;obtain⟨d0,-⟩:=jw.sp10 (hl W2 (zc.refl _));(try simp only[Sli.x]at x10);rw[ha,had]at x10;clear hl hrow heq ha had s1 s2 s3 hx hs
 cases hv:s.live with
 | true=>
  rw[hlv,hv]at d0;have HF:Hid (∃q' s,Qo m (q:Int) q' s):=dD<|⟨q,s,rfl,HS,hv⟩
  clear hv hlv;go_wp2;go_ret;exact⟨.inl ⟨rfl,HF⟩,G2⟩
 | false=>
  rw[hlv,hv]at d0;have HF:Hid (∀q' s,¬Qo m (q:Int) q' s):=dD<|fun q' s' h=>by
   have e:q'=q:=by have:=h.1;omega
   rw[e]at h;have h2:=h.2.1;rw[HS.out]at h2;cases h2;have h3:=h.2.2;rw[hv]at h3;cases h3
  clear hv hlv;go_wp2;go_ret;exact⟨.inr ⟨rfl,HF⟩,G2⟩
def zl7 (f s b:Int):Prop:=(0<=f/\f<=40)/\(0<=s/\s<=60)/\(0<=b/\b<=80)
def zk7 (f s b:Int):Ma:=⟨List.replicate f.toNat frF,0,List.replicate s.toNat 0,List.replicate s.toNat zt,[],List.replicate b.toNat zt,[],[],b,[],[⟨true,[],zY⟩]⟩
theorem zV {fn:Func} {p u t:Tmp} {ty:TypeId} (h:fn.results=#[.cell p ty,.tmp u,.tmp t]) (tmps:Array Value) {w:World} (hp:tmps.getD p undef= .pointer (some ⟨b,0,none⟩)) (hb:Box w b vs) {d:TypeDesc} (hu:Tryz.prog.underlying ty=some d) (hd:d.isRow=true) (hi:(Tryz.prog.info? ty).map (·.size)=some vs.length):
  (results fn tmps).run prog w= .ok (.tuple #[.agg vs.toArray,tmps.getD u undef,tmps.getD t undef]) w:=by
 have hp':tmps[p]?.getD undef= .pointer (some ⟨b,0,none⟩):=by simpa using hp
 have hld:=run_loadVar_mid (P:=prog) w b 0 ty vs d hb.range hu hd hi
 simp[results,h,hp',asAddr,hld]
structure zmn where
 arg:Operand
 pv:Value->Prop
 post:Value->Value->World->Prop
 step:World->World->Prop
 pre:World->Prop:=fun _=>True
theorem zP.storeAllT {a:Act} {w:World} {K:Value->World->Prop} (ty:TypeId) (p x:Operand) (ho:o.op= .store ty p x) (b:Nat) (hp:a.eval p= .pointer (some ⟨b,0,none⟩)) (vs:List Value) (hx:a.eval x= .agg vs.toArray)
  {t:TypeId} {cs:List Value} (hb:zn w b t cs) (hl:vs.length=cs.length) (hi:(Tryz.prog.info? ty).map (·.size)=some cs.length) (h1:∀v∈vs,v.oneCell'=true)
  (h:∀w',zn w' b t vs->w.grownBy w' (some b)->w'.heap.size=w.heap.size->K undef w'):zP prog o a w K:=by
 unfold zP;have hr:(execOp a.eval o).run prog w= .ok .skip (w.setCells b 0 vs):=by
  have:=run_storeAt_mid (P:=prog) w b 0 ty vs.toArray (by simpa [hl]using hb.box.there) (by simpa [hl]using hi) (all_oneCell_toArray h1)
  simp only[execOp,ho,hp,hx,Sem.run_bind,this,rA,Sem.run_pure]
 rw[hr];have hp:=hb.part (ds:=vs) (o:=0) (by omega)
 rw[J0 hl]at hp;exact h _ hp (zL b vs 0 w).1 (zL b vs 0 w).2
def Qf (m:Ma) (k:Nat) (s:Sp):Ma:={ m with sp:=zaD m.sp k ⟨true,s.ars,zY⟩ }
def JD (m:Ma) (k q:Nat) (l:List Int):Ma:=l.foldl (fun m n=>QO m k q n) m
theorem zf9 (m:Ma) (k q:Nat) (l:List Int) (n:Int):JD m k q (l++ [n])=QO (JD m k q l) k q n:=by simp[JD]
theorem zhy (m:Ma) (k q:Nat) (n:Int):(QO m k q n).sp.length=m.sp.length:=by unfold QO;rw[J6,J6,za2]
theorem zdh (m:Ma) (k q:Nat):∀(l:List Int),(JD m k q l).sp.length=m.sp.length:=by
 intro l;unfold JD
 induction l generalizing m with
 | nil=>rfl
 | cons n l ih=>rw[List.foldl_cons,ih,zhy]
def Zc (m:Ma) (k q:Nat) (s:Sp):Ma:=JD (Qf m k s) k q (qt s.tb Zp 64)
def j8:List Value:=zM
def zkR (m:Ma) (p:Int) (e:Ending) (w':World):Prop:=
 ((∀q s,¬Qo m p q s)/\e= .returned (.tuple #[.agg j8.toArray,I6 0,I6 5]))\/
 ∃q s k,Qo m p q s/\Vac m.sp k/\((k=4/\e= .returned (.tuple #[.agg j8.toArray,I6 0,I6 4]))\/(k<4/\∃V':MaV,e= .returned (.tuple #[.agg #[V'.f.x,I6 (Zc m k q s).hand,V'.s.x,V'.sb.x,V'.sq.x,V'.db.x,V'.dq.x,V'.fl.x,I6 (Zc m k q s).cnt,V'.ca.x,V'.sp.x],I6 (k:Int),I6 0])/\zF w' V' (Zc m k q s)))
theorem zfy (V:MaV) (m:Ma) (p:Int) (w:World) (hm:zF w V m) (h0:maW m=0) (h4:m.sp.length<=4):
  Calls prog 21 #[.agg (mL V m).toArray,I6 p] w fun e w'=>zkR m p e w'/\zc w w':=by
 obtain⟨W1,hW1⟩:∃W1,((w.alloc (.cells (mL V m).toArray 40)).alloc (.cells #[I6 p] 3)).alloc (.cells zM.toArray 40)=W1:=⟨_,rfl⟩;have G1:Hid (zc w W1):=dD<|by rw[<-hW1];exact((za _ _).trans (za _ _)).trans (za _ _)
 obtain⟨b,HB⟩:∃b,Hid (w.heap.size=b):=⟨_,rfl⟩;have X1:Hid (zn W1 b 40 (mL V m)):=dD<|by rw[<-hW1];exact((zn.top w (mL V m) _ HB.symm).grew (za _ _)).grew (za _ _)
 have Y1:Hid (zn W1 (b+1) 3 [I6 p]):=dD<|by rw[<-hW1];exact(zn.top _ [I6 p] _ (by have:=HB.out;simp;omega)).grew (za _ _)
 have Z1:Hid (zn W1 (b+1+1) 40 j8):=dD<|by rw[<-hW1];exact zn.top _ j8 _ (by have:=HB.out;simp;omega)
 have HM:Hid (zF w V m):=hm;have HW1:Hid (_=W1):=hW1;clear hW1;have hwp:=Jq V m p W1 (hm.grew G1) h0;clear hm h0
 go_enter func21,ntmps21
 go_upto_region 1 with fail;rw[HW1.out,HB.out];obtain⟨x0,x1,x2,x3,x4,x5,x6,x7,x8,x9,x10⟩:=X1.box.c11;have y0:=Y1.box.c 0 rfl;go_wp2_with fail;refine hwp.mono ?_;clear hwp x0 x1 x2 x3 x4 x5 x6 x7 x8 x9 x10 y0;rintro e W2 ⟨hE,g2⟩;have G2:=dD (G1.trans g2);have X2:=dD (X1.grew g2);have Y2:=dD (Y1.grew g2);have Z2:=dD (Z1.grew g2);clear g2
 rcases hE with⟨rfl,hL⟩|⟨rfl,hL⟩
 case inr=>
  have HF:Hid (∀q s,¬Qo m p q s):=hL;clear hL;have hzl:∀v∈j8,v.oneCell'=true:=by simp[j8,Value.oneCell']
  go_wp2_with (refine qC rfl 40 (.tmp 4) (.tmp 15) rfl (b+1+1) rfl j8 rfl Z2 rfl (by kernel_rfl) hzl ?_)
  intro W3 bx3 gr3 _;have G3:Hid (zc w W3):=dD<|zd G2 gr3 (by have:=HB.out;omega)
  have B3:Hid (zn W3 (b+1+1) 40 j8):=bx3;clear bx3 gr3;go_wp2;refine bodyPost_ret (zV rfl _ rfl B3.box underlying40 rfl (by kernel_rfl)) rfl ⟨.inl ⟨HF,rfl⟩,G3⟩
 obtain⟨q,s,hp,hs,hl⟩:=hL;subst hp;have HS:Hid (m.sp[q]? =some s):=hs;have HLV:Hid (s.live=true):=hl;clear hs hl;have hva:=zhv (V.sp.x) m.sp W2 (HM.grew G2).sp;have x10:=X2.box.c 10 rfl;go_wp2_with fail;refine hva.mono ?_;clear hva x10;rintro e W3 ⟨⟨k,rfl,hk⟩,g3⟩;have HK:Hid (Vac m.sp k):=hk;have hk4:k<=4:=nT hk.1 h4;have hg3:zc W2 W3:=g3;clear hk;have G3:Hid (zc w W3):=show zc _ _ from G2.trans g3
 have X3:=dD (X2.grew g3);have Y3:=dD (Y2.grew g3);have Z3:=dD (Z2.grew g3);clear g3 hg3;go_upto_region 5 with fail;obtain⟨c,HC⟩:∃c,Hid (W3.heap.size=c):=⟨_,rfl⟩;obtain⟨W4,hW4⟩:∃W4,W3.alloc (.cells #[I6 (k:Int)] 3)=W4:=⟨_,rfl⟩;have g4:=gP hW4
 have G4:Hid (zc w W4):=dD<|G3.trans g4
 have X4:=dD (X3.grew g4);have Y4:=dD (Y3.grew g4);have Z4:=dD (Z3.grew g4);have C4:=xPT hW4 HC
 have HCL:Hid (b+1+1<c):=dD<|by have:=Z3.box.lt;have:=HC.out;omega
 rw[hW4,HC.out];clear hW4 g4;have c0:=C4.box.c 0 rfl
 by_cases h4k:k=4
 ·have h4z:((k:Int) == 4)=true:=by rw[h4k];rfl
  have HK4:Hid (k=4):=h4k;clear h4k;have hzl:∀v∈j8,v.oneCell'=true:=by simp[j8,Value.oneCell']
  go_wp2_with (refine qC rfl 40 (.tmp 4) (.tmp 22) rfl (b+1+1) rfl j8 rfl Z4 rfl (by kernel_rfl) hzl ?_)
  intro W5 bx5 gr5 _;have G5:Hid (zc w W5):=dD<|zd G4 gr5 (by have:=HB.out;omega)
  have B5:Hid (zn W5 (b+1+1) 40 j8):=bx5;clear bx5 gr5 c0;go_wp2;refine bodyPost_ret (zV rfl _ rfl B5.box underlying40 rfl (by kernel_rfl)) rfl ⟨.inr ⟨q,s,k,⟨rfl,HS,HLV⟩,HK,.inl ⟨HK4,rfl⟩⟩,G5⟩
 have h4z:((k:Int) == 4)=false:=by
  have:(k:Int)≠4:=by omega
  simpa using this
 have HKL:Hid (k<4):=dD<|by omega
 clear h4k;have hof:=zkC V m W4 (HM.grew G4);obtain⟨x0,x1,x2,x3,x4,x5,x6,x7,x8,x9,x10⟩:=X4.box.c11;go_wp2_with fail;refine hof.mono ?_;clear hof x0 x1 x2 x3 x4 x5 x6 x7 x8 x9 x10 c0;rintro e W5 ⟨r,V5,rfl,m5⟩;go_upto_region 8 with fail;obtain⟨d,HD⟩:∃d,Hid (W5.heap.size=d):=⟨_,rfl⟩;obtain⟨W6,hW6⟩:∃W6,W5.alloc (.cells #[.pointer (some ⟨r,0,none⟩)] 137)=W6:=⟨_,rfl⟩;have g6:=gP hW6
 have g46:zc W4 W6:=m5.gr.trans g6;have M6:Hid (ChM W4 r W6 V5 m):=m5.grew g6;have D6:=xPT hW6 HD
 have C6:=dD (C4.grew g46);have Y6:=dD (Y4.grew g46);have Z6:=dD (Z4.grew g46);have HND:Hid (c<W4.heap.size/\r<d/\(∀k,Dp r V5.sp k->W4.heap.size<=k/\k<d)):=show _/\_ by
  have:=HD.out;exact⟨C4.box.lt,by have:=m5.dlt r (.inl rfl);omega,fun k hk=>⟨m5.dlo k hk,by have:=m5.dlt k hk;omega⟩⟩
 rw[hW6,HD.out];clear hW6 g6 g46 m5;obtain⟨xs,s1,s2,s3⟩:=M6.sp;have hql:q<m.sp.length:=(gS.1 HS).1;obtain⟨x,hx⟩:∃x,xs[q]? =some x:=⟨_,gE (by rw[s2];exact hql)⟩
 have HAT:Hid (z5 W6 x s):=s3 q x s hx HS W6 (qW.refl _ _);obtain⟨xn,HXN⟩:∃xn,Hid (xs.length=xn):=⟨_,rfl⟩;obtain⟨g,gc,heq⟩:=s1.formS (by omega)
 rw[HXN.out]at heq;have hqz:(q:Int)< (xn:Int):=by have:=HXN.out;omega
 have HVS:Hid (V5.sp.x= .slice (some ⟨g,0,none⟩) xn gc):=heq;rw[heq]at s1;have HS1:Hid (zb jB W4.heap.size W6 (.slice (some ⟨g,0,none⟩) xn gc) xs):=s1;have HS2:Hid (xs.length=m.sp.length):=s2;have HS3:Hid (∀(i:Nat) x s,xs[i]? =some x->m.sp[i]? =some s->∀W,qW (Dq W4.heap.size r V5.sp) W6 W->z5 W x s):=s3;have HX:Hid (xs[q]? =some x):=hx;have HXL:Hid (xn<=4/\k<=xn):=show _/\_ by have:=HXN.out;have:=HK.1;omega
 have HRG:Hid (r≠g/\W4.heap.size<=g):=dD<|by
  exact⟨M6.ne g (by (first|rw[HVS.out]|rw[show Value.slice _ _ _=_ from HVS.out]);rfl),(HS1.lt g rfl).1⟩
 have HCE:Hid (∀W,zc W6 W->zeB W ⟨g,q*10,none⟩ x):=dD<|fun W hW=>by
  have:=((s1.grew hW).one hx).sp10;rw[Addr.add_lit,zA]at this;exact this
 clear s1 s2 s3 hx heq hql;obtain⟨I,HI⟩:∃I:World->Prop,Hid (∀u,I u↔(zn u r 141 (chL V5 m)/\zn u d 137 [.pointer (some ⟨r,0,none⟩)]/\zn u c 3 [I6 (k:Int)]/\zn u (b+1) 3 [I6 (q:Int)])):=⟨_,fun _=>Iff.rfl⟩
 have hI0:I W6.drew:=(HI _).2 ⟨M6.box.grew (gW _),D6.grew (gW _),C6.grew (gW _),Y6.grew (gW _)⟩
 have hF0:zc W6 W6.drew:=show Below _ _ _ from(bR _ _).drew
 have hr10:∀y:zk I,y.world.cell? ⟨r,10,none⟩=some (.slice (some ⟨g,0,none⟩) xn gc):=fun y=>by rw[<-HVS.out];exact((HI _).1 y.holds).1.box.c 10 rfl
 have hd0:∀y:zk I,y.world.cell? ⟨d,0,none⟩=some (.pointer (some ⟨r,0,none⟩)):=fun y=>((HI _).1 y.holds).2.1.box.c 0 rfl
 have hc0:∀y:zk I,y.world.cell? ⟨c,0,none⟩=some (I6 (k:Int)):=fun y=>((HI _).1 y.holds).2.2.1.box.c 0 rfl
 have hy0:∀y:zk I,y.world.cell? ⟨b+1,0,none⟩=some (I6 (q:Int)):=fun y=>((HI _).1 y.holds).2.2.2.box.c 0 rfl
 have hne:Nonempty (zk I):=⟨⟨_,hI0⟩⟩;refine zG (I:=I) 22 [(15,fun v=>v=x.ar.x),(16,fun v=>∃t:Sli,v=t.x),(18,fun v=>∃t:Sli,v=t.x)] (fun u=>zc W6 u) hI0 hF0 qj (by kernel_rfl) rfl rfl (by decide) ?hS (by kernel_rfl) ?_
 case hS=>
  intro x hx;simp only[mC,nM,or_false]at hx
  rcases hx with rfl|rfl|rfl
  ·exact⟨_,rfl⟩
  ·exact⟨_,zy,rfl⟩
  exact⟨_,zy,rfl⟩
 simp only[List.take,List.drop];iterate 2 (refine ze rfl rfl rfl (fun K hK=>?_);go_big_quiet_op;refine hK _ ?_;clear hK)
 refine zH (.tmp 26) ⟨r,0,none⟩ rfl rfl rfl rfl ?_;simp only[Act.put,sB,sS,sZ];iterate 5 (refine ze rfl rfl rfl (fun K hK=>?_);go_big_quiet_op;refine hK _ ?_;clear hK)
 refine zH (.tmp 32) ⟨r,0,none⟩ rfl rfl rfl rfl ?_;simp only[Act.put,sB,sS,sZ];iterate 6 (refine ze rfl rfl rfl (fun K hK=>?_);go_big_quiet_op;refine hK _ ?_;clear hK)
 refine zJ rfl rfl (fun _ u=>zc W6 u) (fun w' hI' hF'=>?_) (fun v1 hv=>?_)
 ·exact zdu 60 (.tmp 39) rfl g (q*10+1) rfl (x.ar.x) (HCE _ hF').2.1 underlying60 rfl ⟨hI',rfl,hF'⟩
 cases hv;simp only[Act.put,sB,sS,sZ];refine zJ rfl rfl (fun v u=>zc W6 u/\zb arE W6.heap.size u v s.ars) (fun w' hI' hF'=>?_) (fun v1 hv=>?_)
 ·refine zP.call [x.ar.x] rfl func76 rfl rfl rfl ?_;refine(zcJ _ s.ars w' (HAT.grew hF').ar).mono ?_;rintro e w'' ⟨v',rfl,ow,g2⟩;obtain⟨a',c',rfl⟩:=ow.form;obtain⟨i1,i2,i3,i4⟩:=(HI _).1 hI';exact⟨_,rfl,(HI _).2 ⟨i1.grew g2,i2.grew g2,i3.grew g2,i4.grew g2⟩,⟨⟨a',_,c'⟩,rfl⟩,hF'.trans g2,ow.base (bS hF')⟩
 obtain⟨ya,rfl⟩:=hv;simp only[Act.put,sB,sS,sZ];iterate 1 (refine ze rfl rfl rfl (fun K hK=>?_);go_big_quiet_op;refine hK _ ?_;clear hK)
 refine zJ rfl rfl (fun v u=>∃w1,zc W6 w1/\zb arE W6.heap.size w1 (ya.x) s.ars/\zb jB W4.heap.size u v (zaD xs k ⟨true,ya,zy,zy,zy,zy,zy,zy,zy,zy⟩)/\w1.grownBy u (some g)/\∀g',v.ownBlock=some g'->g=g'\/w1.heap.size<=g') (fun w' hI' hF'=>?_) (fun v1 hv=>?_)
 ·refine zP.call [.slice (some ⟨g,0,none⟩) xn gc,I6 (k:Int),.agg #[.bool true,ya.x,eS,eS,eS,eS,eS,eS,eS,eS]] rfl func75 rfl rfl rfl ?_;refine(zga W4.heap.size _ xs k ⟨true,ya,zy,zy,zy,zy,zy,zy,zy,zy⟩ w' (HS1.grew hF'.1) (nT (bS M6.gr) (bS hF'.1)) (by rw[HXN.out];exact HXL.2) (by rw[HXN.out];exact HXL.1)).mono ?_
  rintro e w'' ⟨v',rfl,ow,gr,ap⟩;obtain⟨i1,i2,i3,i4⟩:=(HI _).1 hI';obtain⟨a',c',rfl⟩:=ow.form;obtain⟨hn1,hn2,hn3⟩:=HND.out;have hcl:=HCL.out;have hrg:=HRG.1;obtain⟨hg1,hg2⟩:=hn3 g (.inr (by (first|rw[HVS.out]|rw[show Value.slice _ _ _=_ from HVS.out]);rfl))
  have e1:d≠g:=by omega
  have e2:c≠g:=by omega
  have e3:b+1≠g:=by omega
  exact⟨_,rfl,(HI _).2 ⟨i1.beside gr (fun k e=>by cases e;exact hrg),i2.beside gr (fun k e=>by cases e;exact e1),i3.beside gr (fun k e=>by cases e;exact e2),i4.beside gr (fun k e=>by cases e;exact e3)⟩,⟨⟨a',_,c'⟩,rfl⟩,w',hF'.1,hF'.2,ow,gr,fun g' hg'=>(ap g' hg').imp (fun e=>by cases e;rfl) id⟩
 obtain⟨sv,rfl⟩:=hv;simp only[Act.put,sB,sS,sZ];refine zH (.tmp 25) ⟨r,0,none⟩ rfl rfl rfl rfl ?_;simp only[Act.put,sB,sS,sZ];iterate 2 (refine ze rfl rfl rfl (fun K hK=>?_);go_big_quiet_op;refine hK _ ?_;clear hK)
 refine qn fun W7 hI7 hF7=>?_
 obtain⟨b7,d7,c7,y7⟩:=(HI _).1 hI7;obtain⟨w1,g61,ar1,ow7,gr7,ap7⟩:=hF7;have HZ7:Hid (zn W7 (b+1+1) 40 j8):=dD<|(Z6.grew g61).beside gr7 (fun k e=>by
  cases e;have:=HCL.out;have:=HND.1;have:=HRG.2
  omega)
 have HND8:Hid (∀x,Dp r sv x->W4.heap.size<=x/\x≠d):=dD<|fun x hx=>by
  obtain⟨hn1,hn2,hn3⟩:=HND.out
  rcases hx with rfl|hx
  ·exact⟨M6.lo,by omega⟩
  rcases ap7 x hx with e|e
  ·subst e;have:=hn3 g (.inr (by (first|rw[HVS.out]|rw[show Value.slice _ _ _=_ from HVS.out]);rfl))
   exact⟨this.1,by omega⟩
  have h1:=bS g61;have h2:=bS M6.gr;have h3:=D6.box.lt;exact⟨by omega,by omega⟩
 refine zia rfl 38 (.tmp 46) (.tmp 43) rfl r 10 rfl (sv.x) rfl [sv.x] rfl b7 (by simp[chL]) (by kernel_rfl) (by simp[Value.oneCell']) ?_
 intro W8 bx8 gr8 _;have M8:Hid (ChM W4 r W8 { V5 with sp:=sv } (Qf m k s)):=dD<|M6.space HK.1 HS2 HS3 g61 ar1 ow7 (by rw[HVS.out];exact gr7) (by rw[HVS.out];exact fun g' hg'=>(ap7 g' hg').imp (fun e=>by rw[e];rfl) id) gr8 bx8
 have D8:Hid (zn W8 d 137 [.pointer (some ⟨r,0,none⟩)]):=dD<|d7.beside gr8 (fun k e=>by cases e;have:=HND.2.1;omega)
 have C8:Hid (zn W8 c 3 [I6 (k:Int)]):=dD<|c7.beside gr8 (fun k e=>by cases e;have:=HND.1;have:=M6.lo;omega)
 have Y8:Hid (zn W8 (b+1) 3 [I6 (q:Int)]):=dD<|y7.beside gr8 (fun k e=>by cases e;have:=HND.1;have:=HCL.out;have:=M6.lo;omega)
 have Z8:Hid (zn W8 (b+1+1) 40 j8):=dD<|HZ7.beside gr8 (fun k e=>by cases e;have:=HND.1;have:=HCL.out;have:=M6.lo;omega)
 clear hI7 d7 c7 y7 g61 ar1 ow7 gr7 ap7 hI0 hF0 hr10 hd0 hc0 hy0 hne b7 bx8 gr8;go_upto_region 9 with fail;obtain⟨V8,HV8⟩:∃V8:MaV,Hid (V8.sp=sv/\ChM W4 r W8 V8 (Qf m k s)):=⟨{ V5 with sp:=sv },(show _/\_ from⟨rfl,M8⟩)⟩
 have hkq:q≠k:=fun e=>by
  have h1:=HK.2.1 s (by rw[<-e];exact HS)
  rw[HLV.out]at h1;cases h1
 have HSB:Hid ((Qf m k s).sp[q]? =some s):=dD<|by show (zaD m.sp k _)[q]? =_;rw[Ja HK.1,if_neg hkq];exact HS.out
 have HBL:Hid (k< (Qf m k s).sp.length/\q< (Qf m k s).sp.length):=dD<|by
  refine⟨?_,(gS.1 HSB).1⟩
  show k< (zaD m.sp k _).length
  rw[zbW HK.1];omega
 clear hkq;have hep:=zbD HV8.2 q s HSB 78 #[.pointer (some ⟨d,0,none⟩),.pointer (some ⟨c,0,none⟩),.pointer (some ⟨b+1,0,none⟩)]
  (fun j W=>∃V':MaV,V'.sp=sv/\ChM W4 r W V' (JD (Qf m k s) k q ((qt s.tb Zp 64).take j))/\zn W d 137 [.pointer (some ⟨r,0,none⟩)]/\zn W c 3 [I6 (k:Int)]/\zn W (b+1) 3 [I6 (q:Int)]/\zn W (b+1+1) 40 j8)
  (enters_of func78 (by kernel_rfl) rfl)
  (fun W hW=>⟨V8,HV8.1,by rw[List.take_zero];exact HV8.2.grew hW,D8.grew hW,C8.grew hW,Y8.grew hW,Z8.grew hW⟩)
  (fun j n W hj hJ=>by
   obtain⟨V',e1,e2,e3,e4,e5,e6⟩:=hJ;refine(ziT e2 k q (by rw[zdh];exact HBL.1) (by rw[zdh];exact HBL.2) n d c (b+1) e3.box e4.box e5.box).mono ?_
   rintro e w' ⟨hv,V'',f1,f2,f3⟩;rw[e1]at f1 f3;have hn1:=HND.1;have hcl:=HCL.out;refine⟨hv,⟨V'',f1,?_,e3.outD f3 (fun h=>(HND8 _ h).2 rfl),e4.outD f3 (fun h=>by have:=(HND8 _ h).1;omega),e5.outD f3 (fun h=>by have:=(HND8 _ h).1;omega),e6.outD f3 (fun h=>by have:=(HND8 _ h).1;omega)⟩,by rw[HV8.1];exact f3⟩
   rw[qh hj,zf9];exact f2)
 rw[List.take_length]at hep;have hmf:∀(fn:Fn) (first cap:Array Value) (w:World),(Instr.makeFunc fn first cap).run prog w= .ok (.func fn first cap) w:=fun _ _ _ _=>rfl
 have d0:=D8.box.c 0 rfl;have y0:=Y8.box.c 0 rfl;go_wp2_with fail;refine hep.mono ?_;clear hep d0 y0;rintro e W9 ⟨⟨v9,rfl⟩,⟨V9,e1,e2,e3,e4,e5,e6⟩,_⟩;have M9:Hid (ChM W4 r W9 V9 (Zc m k q s)):=e2;have D9:Hid (zn W9 d 137 [.pointer (some ⟨r,0,none⟩)]):=e3;have C9:Hid (zn W9 c 3 [I6 (k:Int)]):=e4;have Z9:Hid (zn W9 (b+1+1) 40 j8):=e6;clear e1 e2 e3 e4 e5 e6;obtain⟨FM,HFM⟩:∃FM,Hid (Zc m k q s=FM):=⟨_,rfl⟩;rw[HFM.out]at M9;go_upto_region 10 with fail;obtain⟨I,HI⟩:∃I:World->Prop,Hid (∀u,I u↔(zn u r 141 (chL V9 FM)/\zn u d 137 [.pointer (some ⟨r,0,none⟩)]/\zn u c 3 [I6 (k:Int)])):=⟨_,fun _=>Iff.rfl⟩
 have hI0:I W9.drew:=(HI _).2 ⟨M9.box.grew (gW _),D9.grew (gW _),C9.grew (gW _)⟩
 have hF0:zc W9 W9.drew:=show Below _ _ _ from(bR _ _).drew
 have hr0:∀y:zk I,y.world.cell? ⟨r,0,none⟩=_:=fun y=>((HI _).1 y.holds).1.box.c 0 rfl
 have hr1:∀y:zk I,y.world.cell? ⟨r,1,none⟩=_:=fun y=>((HI _).1 y.holds).1.box.c 1 rfl
 have hr2:∀y:zk I,y.world.cell? ⟨r,2,none⟩=_:=fun y=>((HI _).1 y.holds).1.box.c 2 rfl
 have hr3:∀y:zk I,y.world.cell? ⟨r,3,none⟩=_:=fun y=>((HI _).1 y.holds).1.box.c 3 rfl
 have hr4:∀y:zk I,y.world.cell? ⟨r,4,none⟩=_:=fun y=>((HI _).1 y.holds).1.box.c 4 rfl
 have hr5:∀y:zk I,y.world.cell? ⟨r,5,none⟩=_:=fun y=>((HI _).1 y.holds).1.box.c 5 rfl
 have hr6:∀y:zk I,y.world.cell? ⟨r,6,none⟩=_:=fun y=>((HI _).1 y.holds).1.box.c 6 rfl
 have hr7:∀y:zk I,y.world.cell? ⟨r,7,none⟩=_:=fun y=>((HI _).1 y.holds).1.box.c 7 rfl
 have hr8:∀y:zk I,y.world.cell? ⟨r,8,none⟩=_:=fun y=>((HI _).1 y.holds).1.box.c 8 rfl
 have hr9:∀y:zk I,y.world.cell? ⟨r,9,none⟩=_:=fun y=>((HI _).1 y.holds).1.box.c 9 rfl
 have hr10:∀y:zk I,y.world.cell? ⟨r,10,none⟩=_:=fun y=>((HI _).1 y.holds).1.box.c 10 rfl
 have hd0:∀y:zk I,y.world.cell? ⟨d,0,none⟩=some (.pointer (some ⟨r,0,none⟩)):=fun y=>((HI _).1 y.holds).2.1.box.c 0 rfl
 have hc0:∀y:zk I,y.world.cell? ⟨c,0,none⟩=some (I6 (k:Int)):=fun y=>((HI _).1 y.holds).2.2.box.c 0 rfl
 have hne:Nonempty (zk I):=⟨⟨_,hI0⟩⟩;have HZL:Hid (∀v∈chL V9 FM,v.oneCell'=true):=dD<|by simp[chL,Value.oneCell']
 refine zG (I:=I) 8 [(5,fun _=>True)] (fun u=>zc W9 u) hI0 hF0 qj (by kernel_rfl) rfl rfl (by decide) ?hS (by kernel_rfl) ?_
 case hS=>
  intro x hx;simp only[mC,nM,or_false]at hx;subst hx;exact⟨undef,trivial⟩
 simp only[List.take,List.drop];iterate 1 (refine ze rfl rfl rfl (fun K hK=>?_);go_big_quiet_op;refine hK _ ?_;clear hK)
 refine zH (.tmp 51) ⟨r,0,none⟩ rfl rfl rfl rfl ?_;simp only[Act.put,sB,sS,sZ];iterate 3 (refine ze rfl rfl rfl (fun K hK=>?_);go_big_quiet_op;refine hK _ ?_;clear hK)
 refine zJ rfl rfl (fun _ u=>zc w u/\zn u (b+1+1) 40 (chL V9 FM)/\zF u V9 FM) (fun w' hI' hF'=>?_) (fun v1 hv=>?_)
 ·refine zP.storeAllT 40 (.tmp 4) (.tmp 54) rfl (b+1+1) rfl (chL V9 FM) rfl (Z9.grew hF') rfl (by kernel_rfl) HZL.out ?_
  intro W11 bx gr11 sz11;have hcl:=HCL.out;have hn1:=HND.1;have hrl:=M9.lo;obtain⟨i1,i2,i3⟩:=(HI _).1 hI';have k9:=M9.grew hF';have hd:=M9.dlt;refine⟨(HI _).2 ⟨i1.beside gr11 (fun k e=>by cases e;omega),i2.beside gr11 (fun k e=>by cases e;have:=HND.2.1;omega),i3.beside gr11 (fun k e=>by cases e;omega)⟩,trivial,zd (G4.trans k9.gr) gr11 (by have:=HB.out;omega),bx,?_⟩
  have o:qW (Dq W4.heap.size r V9.sp) w' W11:=qW.grown gr11 (.inl (by omega))
  have rs:=k9.rest W11 o;obtain⟨ys,t1,t2,t3⟩:=k9.sp;exact⟨rs.fs,rs.sl,rs.sb,rs.sq,rs.db,rs.dq,rs.fl,rs.ca,⟨ys,(t1.grown gr11 (fun g' hg' e=>by cases e;have:=(t1.lt _ hg').1;omega)).at,t2,fun i x s hx hs=>t3 i x s hx hs W11 o⟩⟩
 clear hv;try simp only[Act.put]
 iterate 2 (refine ze rfl rfl rfl (fun K hK=>?_);go_big_quiet_op;refine hK _ ?_;clear hK)
 refine qn fun W11 hI11 hF11=>?_
 have G11:Hid (zc w W11):=hF11.1;have B11:Hid (zn W11 (b+1+1) 40 (chL V9 FM)):=hF11.2.1;have HF:Hid (zF W11 V9 FM):=hF11.2.2;clear hI11 hF11 hI0 hF0 hne hr0 hr1 hr2 hr3 hr4 hr5 hr6 hr7 hr8 hr9 hr10 hd0 hc0;go_wp2;refine bodyPost_ret (zV rfl _ rfl B11.box underlying40 rfl (by kernel_rfl)) rfl ⟨.inr ⟨q,s,k,⟨rfl,HS,HLV⟩,HK,.inr ⟨HKL,V9,?_,?_⟩⟩,G11⟩
 ·rw[HFM.out];rfl
 rw[HFM.out];exact HF.out
def zc8 (m:Ma) (q:Nat) (l:List Int):Ma:=l.foldl (fun m n=>zbM m q n) m
theorem zhT (m:Ma) (q:Nat) (l:List Int) (n:Int):zc8 m q (l++ [n])=zbM (zc8 m q l) q n:=by simp[zc8]
theorem zi8 (m:Ma) (q:Nat) (n:Int):(zbM m q n).sp.length=m.sp.length:=by unfold zbM;rw[J6,za2]
theorem zfF (m:Ma) (q:Nat):∀(l:List Int),(zc8 m q l).sp.length=m.sp.length:=by
 intro l;unfold zc8
 induction l generalizing m with
 | nil=>rfl
 | cons n l ih=>rw[List.foldl_cons,ih,zi8]
def zgt (m:Ma) (q:Nat):Ma:={ m with sp:=m.sp.set q ⟨false,[],zY⟩ }
def QH (m:Ma) (q:Nat) (s:Sp):Ma:=zgt (zc8 m q (qt s.tb Zp 64)) q
def zkS (m:Ma) (p:Int) (e:Ending) (w':World):Prop:=
 ((∀q s,¬Qo m p q s)/\e= .returned (.tuple #[.agg j8.toArray,I6 5]))\/
 ∃q s,Qo m p q s/\∃V':MaV,e= .returned (.tuple #[.agg #[V'.f.x,I6 (QH m q s).hand,V'.s.x,V'.sb.x,V'.sq.x,V'.db.x,V'.dq.x,V'.fl.x,I6 (QH m q s).cnt,V'.ca.x,V'.sp.x],I6 0])/\zF w' V' (QH m q s)
theorem ChM.setP {w:World} {p g:Nat} (h:ChM w0 p w V m) {xs:List SpV} {y:SpV} {s':Sp} (s2:xs.length=m.sp.length) (s3:∀(i:Nat) x s,xs[i]? =some x->m.sp[i]? =some s->∀W,qW (Dq w0.heap.size p V.sp) w W->z5 W x s) (hg:(V.sp.x).ownBlock=some g)
  (g2:w.grownBy w2 (some g)) (ow:zb jB w0.heap.size w2 (V.sp.x) (xs.set q y)) (hy:∀W,z5 W y s'):ChM w0 p w2 V { m with sp:=m.sp.set q s' }:=by
 have o2:qW (Dq w0.heap.size p V.sp) w w2:=qW.grown g2 (.inr (.inr hg));refine⟨zd h.gr g2 (h.dlo g (.inr hg)),h.lo,h.box.beside g2 (fun k e=>by cases e;exact h.ne g hg),fun W hW=>?_,⟨xs.set q y,ow,by simp[s2],fun i x' s' hx' hs' W hW=>?_⟩⟩
 ·have r:=h.rest W (o2.trans hW);exact⟨r.fs,r.sl,r.sb,r.sq,r.db,r.dq,r.fl,r.ca⟩
 rename_i s0
 have hs':(m.sp.set q s0)[i]? =some s':=hs'
 by_cases e:i=q
 ·subst e;have hl:=(gS.1 hx').1;rw[List.length_set]at hl;rw[sF hl]at hx';rw[sF (by omega)]at hs'
  cases hx';cases hs';exact hy W
 rw[sN (fun h=>e h.symm)]at hx' hs'
 exact s3 i x' s' hx' hs' W (o2.trans hW)
theorem zcF (V:MaV) (m:Ma) (p:Int) (w:World) (hm:zF w V m) (h0:maW m=0):
  Calls prog 23 #[.agg (mL V m).toArray,I6 p] w fun e w'=>zkS m p e w'/\zc w w':=by
 obtain⟨W1,hW1⟩:∃W1,((w.alloc (.cells (mL V m).toArray 40)).alloc (.cells #[I6 p] 3)).alloc (.cells zM.toArray 40)=W1:=⟨_,rfl⟩;have G1:Hid (zc w W1):=dD<|by rw[<-hW1];exact((za _ _).trans (za _ _)).trans (za _ _)
 obtain⟨b,HB⟩:∃b,Hid (w.heap.size=b):=⟨_,rfl⟩;have X1:Hid (zn W1 b 40 (mL V m)):=dD<|by rw[<-hW1];exact((zn.top w (mL V m) _ HB.symm).grew (za _ _)).grew (za _ _)
 have Y1:Hid (zn W1 (b+1) 3 [I6 p]):=dD<|by rw[<-hW1];exact(zn.top _ [I6 p] _ (by have:=HB.out;simp;omega)).grew (za _ _)
 have Z1:Hid (zn W1 (b+1+1) 40 j8):=dD<|by rw[<-hW1];exact zn.top _ j8 _ (by have:=HB.out;simp;omega)
 have HM:Hid (zF w V m):=hm;have HW1:Hid (_=W1):=hW1;clear hW1;have hwp:=Jq V m p W1 (hm.grew G1) h0;clear hm h0
 go_enter func23,ntmps23
 go_upto_region 1 with fail;rw[HW1.out,HB.out];obtain⟨x0,x1,x2,x3,x4,x5,x6,x7,x8,x9,x10⟩:=X1.box.c11;have y0:=Y1.box.c 0 rfl;go_wp2_with fail;refine hwp.mono ?_;clear hwp x0 x1 x2 x3 x4 x5 x6 x7 x8 x9 x10 y0;rintro e W2 ⟨hE,g2⟩;have G2:=dD (G1.trans g2);have X2:=dD (X1.grew g2);have Y2:=dD (Y1.grew g2);have Z2:=dD (Z1.grew g2);clear g2
 rcases hE with⟨rfl,hL⟩|⟨rfl,hL⟩
 case inr=>
  have HF:Hid (∀q s,¬Qo m p q s):=hL;clear hL;have hzl:∀v∈j8,v.oneCell'=true:=by simp[j8,Value.oneCell']
  go_wp2_with (refine qC rfl 40 (.tmp 4) (.tmp 13) rfl (b+1+1) rfl j8 rfl Z2 rfl (by kernel_rfl) hzl ?_)
  intro W3 bx3 gr3 _;have G3:Hid (zc w W3):=dD<|zd G2 gr3 (by have:=HB.out;omega)
  have B3:Hid (zn W3 (b+1+1) 40 j8):=bx3;clear bx3 gr3;go_wp2;refine bodyPost_ret (jT rfl _ rfl B3.box underlying40 rfl (by kernel_rfl)) rfl ⟨.inl ⟨HF,rfl⟩,G3⟩
 obtain⟨q,s,hp,hs,hl⟩:=hL;subst hp;have HS:Hid (m.sp[q]? =some s):=hs;have HLV:Hid (s.live=true):=hl;clear hs hl;have hof:=zkC V m W2 (HM.grew G2);obtain⟨x0,x1,x2,x3,x4,x5,x6,x7,x8,x9,x10⟩:=X2.box.c11;go_wp2_with fail;refine hof.mono ?_;clear hof x0 x1 x2 x3 x4 x5 x6 x7 x8 x9 x10;rintro e W5 ⟨r,V5,rfl,m5⟩;go_upto_region 5 with fail;obtain⟨d,HD⟩:∃d,Hid (W5.heap.size=d):=⟨_,rfl⟩;obtain⟨W6,hW6⟩:∃W6,W5.alloc (.cells #[.pointer (some ⟨r,0,none⟩)] 137)=W6:=⟨_,rfl⟩;have g6:=gP hW6
 have g46:zc W2 W6:=m5.gr.trans g6;have M6:Hid (ChM W2 r W6 V5 m):=m5.grew g6;have D6:=xPT hW6 HD
 have Y6:=dD (Y2.grew g46);have Z6:=dD (Z2.grew g46);have HND:Hid (b+1+1<W2.heap.size/\r<d/\(∀k,Dp r V5.sp k->W2.heap.size<=k/\k<d)):=show _/\_ by
  have:=HD.out;exact⟨Z2.box.lt,by have:=m5.dlt r (.inl rfl);omega,fun k hk=>⟨m5.dlo k hk,by have:=m5.dlt k hk;omega⟩⟩
 rw[hW6,HD.out];clear hW6 g6 g46 m5;have hep:=zbD M6 q s HS 80 #[.pointer (some ⟨d,0,none⟩),.pointer (some ⟨b+1,0,none⟩)]
  (fun j W=>∃V':MaV,V'.sp=V5.sp/\ChM W2 r W V' (zc8 m q ((qt s.tb Zp 64).take j))/\zn W d 137 [.pointer (some ⟨r,0,none⟩)]/\zn W (b+1) 3 [I6 (q:Int)]/\zn W (b+1+1) 40 j8)
  (enters_of func80 (by kernel_rfl) rfl)
  (fun W hW=>⟨V5,rfl,by rw[List.take_zero];exact M6.grew hW,D6.grew hW,Y6.grew hW,Z6.grew hW⟩)
  (fun j n W hj hJ=>by
   obtain⟨V',e1,e2,e3,e5,e6⟩:=hJ;refine(ziZ e2 q (by rw[zfF];exact(gS.1 HS).1) n d (b+1) e3.box e5.box).mono ?_
   rintro e w' ⟨hv,V'',f1,f2,f3⟩;rw[e1]at f1 f3;obtain⟨hn1,hn2,hn3⟩:=HND.out;refine⟨hv,⟨V'',f1,?_,e3.outD f3 (fun h=>by have:=(hn3 _ h).2;omega),e5.outD f3 (fun h=>by have:=(hn3 _ h).1;omega),e6.outD f3 (fun h=>by have:=(hn3 _ h).1;omega)⟩,f3⟩
   rw[qh hj,zhT];exact f2)
 rw[List.take_length]at hep;have hmf:∀(fn:Fn) (first cap:Array Value) (w:World),(Instr.makeFunc fn first cap).run prog w= .ok (.func fn first cap) w:=fun _ _ _ _=>rfl
 have d0:=D6.box.c 0 rfl;have y0:=Y6.box.c 0 rfl;go_wp2_with fail;refine hep.mono ?_;clear hep d0 y0;rintro e W7 ⟨⟨v7,rfl⟩,⟨V7,e1,e2,e3,e5,e6⟩,_⟩;obtain⟨DM,HDM⟩:∃DM,Hid (zc8 m q (qt s.tb Zp 64)=DM):=⟨_,rfl⟩;rw[HDM.out]at e2;have HQL:Hid (q<DM.sp.length):=dD<|by rw[<-HDM.out,zfF];exact(gS.1 HS).1
 have M7:Hid (ChM W2 r W7 V7 DM):=e2;have D7:Hid (zn W7 d 137 [.pointer (some ⟨r,0,none⟩)]):=e3;have Y7:Hid (zn W7 (b+1) 3 [I6 (q:Int)]):=e5;have Z7:Hid (zn W7 (b+1+1) 40 j8):=e6;have HSP:Hid (V7.sp=V5.sp):=e1;clear e1 e2 e3 e5 e6;go_upto_region 6 with fail;obtain⟨xs,s1,s2,s3⟩:=M7.sp;obtain⟨xn,HXN⟩:∃xn,Hid (xs.length=xn):=⟨_,rfl⟩;obtain⟨g,gc,heq⟩:=s1.formS (by have:=HQL.out;omega)
 rw[HXN.out]at heq;have hqz:(q:Int)< (xn:Int):=by have:=HXN.out;have:=HQL.out;omega
 have HVS:Hid (V7.sp.x= .slice (some ⟨g,0,none⟩) xn gc):=heq;rw[heq]at s1;have HS1:Hid (zb jB W2.heap.size W7 (.slice (some ⟨g,0,none⟩) xn gc) xs):=s1;have HS2:Hid (xs.length=DM.sp.length):=s2;have HS3:Hid (∀(i:Nat) x s,xs[i]? =some x->DM.sp[i]? =some s->∀W,qW (Dq W2.heap.size r V7.sp) W7 W->z5 W x s):=s3;clear s1 s2 s3 heq;obtain⟨I,HI⟩:∃I:World->Prop,Hid (∀u,I u↔zc W7 u):=⟨fun u=>zc W7 u,fun _=>Iff.rfl⟩
 have hI0:I W7.drew:=(HI _).2 (gW _)
 have hr10:∀y:zk I,y.world.cell? ⟨r,10,none⟩=some (.slice (some ⟨g,0,none⟩) xn gc):=fun y=>by rw[<-HVS.out];exact(M7.box.box.grew ((HI _).1 y.holds)).c 10 rfl
 have hd0:∀y:zk I,y.world.cell? ⟨d,0,none⟩=some (.pointer (some ⟨r,0,none⟩)):=fun y=>(D7.box.grew ((HI _).1 y.holds)).c 0 rfl
 have hy0:∀y:zk I,y.world.cell? ⟨b+1,0,none⟩=some (I6 (q:Int)):=fun y=>(Y7.box.grew ((HI _).1 y.holds)).c 0 rfl
 have hne:Nonempty (zk I):=⟨⟨_,hI0⟩⟩;refine zG (I:=I) 8 [] (fun _=>True) hI0 trivial qj (by kernel_rfl) rfl rfl (by decide) (by simp) (by kernel_rfl) ?_
 simp only[List.take,List.drop];iterate 1 (refine ze rfl rfl rfl (fun K hK=>?_);go_big_quiet_op;refine hK _ ?_;clear hK)
 refine zH (.tmp 21) ⟨r,0,none⟩ rfl rfl rfl rfl ?_;simp only[Act.put,sB,sS,sZ];iterate 6 (refine ze rfl rfl rfl (fun K hK=>?_);go_big_quiet_op;refine hK _ ?_;clear hK)
 refine qn fun W8 hI8 _=>?_
 have g8:zc W7 W8:=(HI _).1 hI8;refine qK (E:=jB) rfl (.tmp 28) (.tmp 27) rfl W2.heap.size _ xs (HS1.grew g8) g q rfl ⟨false,zy,zy,zy,zy,zy,zy,zy,zy,zy⟩ (by rw[HXN.out];omega) ⟨g,q*10,none⟩ rfl rfl spz rfl rfl ?_
 intro W9 ow9 gr9 _;rw[<-HVS.out]at ow9;have hgo:(V7.sp.x).ownBlock=some g:=by (first|rw[HVS.out]|rw[show Value.slice _ _ _=_ from HVS.out]);rfl
 have M9:Hid (ChM W2 r W9 V7 (zgt DM q)):=dD<|(M7.grew g8).setP HS2 (fun i x s hx hs W hW=>HS3.out i x s hx hs W ((qW.grew g8).trans hW)) hgo gr9 ow9 (fun W=>⟨rfl,zr.nil _ _,nR _,Qg.nil _ _ _⟩)
 obtain⟨hn1,hn2,hn3⟩:=HND.out;have hgd:=hn3 g (by rw[<-HSP.out];exact .inr hgo)
 have D9:Hid (zn W9 d 137 [.pointer (some ⟨r,0,none⟩)]):=dD<|(D7.grew g8).beside gr9 (fun k e=>by cases e;omega)
 have Z9:Hid (zn W9 (b+1+1) 40 j8):=dD<|(Z7.grew g8).beside gr9 (fun k e=>by cases e;omega)
 clear ow9 gr9 hI8 g8 hI0 hne hr10 hd0 hy0 hgo hn1 hn2 hn3 hgd;obtain⟨FM,HFM⟩:∃FM,Hid (zgt DM q=FM):=⟨_,rfl⟩;rw[HFM.out]at M9;have HZL:Hid (∀v∈chL V7 FM,v.oneCell'=true):=dD<|by simp[chL,Value.oneCell']
 have d0:=D9.box.c 0 rfl;obtain⟨r0,r1,r2,r3,r4,r5,r6,r7,r8,r9,r10⟩:=M9.box.box.c11
 go_wp2_with (refine qC rfl 40 (.tmp 4) (.tmp 32) rfl (b+1+1) rfl (chL V7 FM) rfl Z9 rfl (by kernel_rfl) HZL.out ?_)
 clear d0 r0 r1 r2 r3 r4 r5 r6 r7 r8 r9 r10;intro W11 bx gr11 _;have G11:Hid (zc w W11):=dD<|zd (G2.trans M9.gr) gr11 (by have:=HB.out;omega)
 have B11:Hid (zn W11 (b+1+1) 40 (chL V7 FM)):=bx;have HF:Hid (zF W11 V7 FM):=show zF _ _ _ by
  have hn1:=HND.1;have o:qW (Dq W2.heap.size r V7.sp) W9 W11:=qW.grown gr11 (.inl (by omega))
  have rs:=M9.rest W11 o;obtain⟨ys,t1,t2,t3⟩:=M9.sp;exact⟨rs.fs,rs.sl,rs.sb,rs.sq,rs.db,rs.dq,rs.fl,rs.ca,⟨ys,(t1.grown gr11 (fun g' hg' e=>by cases e;have:=(t1.lt _ hg').1;omega)).at,t2,fun i x s hx hs=>t3 i x s hx hs W11 o⟩⟩
 have HEX:Hid (QH m q s=FM):=dD<|by unfold QH;rw[HDM.out,HFM.out]
 clear bx gr11;go_wp2;refine bodyPost_ret (jT rfl _ rfl B11.box underlying40 rfl (by kernel_rfl)) rfl ⟨.inr ⟨q,s,⟨rfl,HS,HLV⟩,V7,?_,?_⟩,G11⟩
 ·rw[HEX.out];rfl
 rw[HEX.out];exact HF.out
end
section
theorem zdx {k:Nat} {fr:Fr} (hk:k<m.fs.length) (hca:J8 m none m.ca=0) (hc:zS m.ca k≠0->fr.p=(qa m k).p) (file idx:Int):jd { m with fs:=m.fs.set k fr } file idx=jd m file idx:=by
 obtain⟨a1,_,_⟩:=zN.1 hca;refine zje (m:=m) (m':={ m with fs:=m.fs.set k fr }) rfl rfl rfl rfl (fun c hcm=>?_) file idx
 rw[jo hk c.fr (zbc (a1 c hcm)).1.2.2.2.2.1]
 by_cases e:c.fr=(k:Int)
 ·rw[if_pos e,e];exact hc (by have:=J7 hcm;rw[e]at this;exact this)
 rw[if_neg e]
theorem zeT {k:Nat} {fr:Fr} {x:On} {e:En} (hk:k<m.fs.length) (hca:J8 m none m.ca=0) (hc:zS m.ca k≠0->fr.p=(qa m k).p) (h0:e.kind=1->0<=e.n) (he:e.kind=1->e.n=(k:Int)->fr.p=(qa m k).p/\(fr.f<0↔(qa m k).f<0)):zaE { m with fs:=m.fs.set k fr } x e=zaE m x e:=by
 refine zjE rfl rfl (fun h1=>?_) (fun _=>rfl) (fun _=>rfl) (zdx hk hca hc)
 rw[jo hk e.n (h0 h1)]
 by_cases ek:e.n=(k:Int)
 ·rw[if_pos ek,ek];exact he h1 ek
 rw[if_neg ek];exact⟨rfl,Iff.rfl⟩
section
variable{m:Ma} {T:List (Nat->En)}
theorem zjF {k:Nat} {fr:Fr} {r:Int} {x:On} {e:En} (h:qF m T) (hk:m.fs[k]? =some fr) (h0:e.kind=1->0<=e.n):zaE { m with fs:=m.fs.set k { fr with r:=r } } x e=zaE m x e:=by
 refine zeT (gS.1 hk).1 h.ca (fun _=>by rw[qZ hk]) h0 (fun _ _=>by rw[qZ hk];exact⟨rfl,Iff.rfl⟩)
theorem zil (h:qF m T) {k p n:Nat} {fr:Fr} {f:Nat->En} (hk:m.fs[k]? =some fr) (hT:T[p]? =some f) (hn:n<64) (he:(f n).kind=1) (hen:(f n).n=(k:Int)) {s:Sp} {g:Nat->En} (hg:T[q]? =some g) (hj:j<64) (hne:q≠p\/j≠n):zaE { m with fs:=m.fs.set k (QT fr) } (zI s.ars j) (g j)=zaE m (zI s.ars j) (g j):=by
 have hcf:=h.cf k fr hk;have hpos:1<=qw T 1 k:=by
  have:=zas hT hn he;rw[hen]at this;exact this
 have hgo:fr.r≠1->QT fr={ fr with r:=fr.r - 1 }:=fun h=>by unfold QT;rw[if_neg h]
 refine zeT (gS.1 hk).1 h.ca (fun h1=>?_) (fun h1=>?_) (fun h1 h2=>?_)
 ·rw[hgo (by omega),qZ hk]
 ·have:=(j0 (h.en hg hj)).2.1;omega
 have h3:=zeg hT hn (kind:=1) (k:=(k:Int)) (by simp[isE,he,hen]) hg hj (by simp[isE,h1,h2]) (by
  rcases hne with e|e
  ·exact .inl fun h=>e h.symm
  exact .inr fun h=>e h.symm) (by decide)
 rw[hgo (by omega),qZ hk]
 exact⟨rfl,Iff.rfl⟩
theorem zhV (h:qF m T) {k p n:Nat} {fr:Fr} {f:Nat->En} (hk:m.fs[k]? =some fr) (hT:T[p]? =some f) (hn:n<64) (he:(f n).kind=1) (hen:(f n).n=(k:Int)) (file idx:Int):jd { m with fs:=m.fs.set k (QT fr) } file idx=jd m file idx:=by
 have hcf:=h.cf k fr hk;have hpos:1<=qw T 1 k:=by
  have:=zas hT hn he;rw[hen]at this;exact this
 refine zdx (gS.1 hk).1 h.ca (fun h1=>?_) file idx
 unfold QT;rw[if_neg (by omega),qZ hk]
end
structure Rt (m:Ma):Prop where
 w:maW m=0
 t8:∀s∈m.sp,s.tb.length=8
theorem Rt.inv (h:Rt m):qF m (jP m):=(zeX h.w).1
theorem Rt.hand (h:Rt m):0<=m.hand/\m.hand<max (m.fs.length:Int) 1:=(zeX h.w).2
theorem Rt.tb (h:Rt m) {s:Sp} (hs:s∈m.sp):zbQ s.tb:=by
 refine⟨h.t8 s hs,ZB.1 ?_⟩;have h0:=h.w;unfold maW at h0;rw[zB]at h0;have h1:Jc m=0:=h0 _ (by simp)
 unfold Jc at h1;rw[zB]at h1;have p10:=zB.1 (h1 (zh (m.sp.map spE)) (by simp)) (spE s) (List.mem_map.2 ⟨s,hs,rfl⟩)
 unfold spE at p10
 split at p10
 ·rename_i a
  exact absurd p10 a
 split at p10
 ·rename_i a
  exact absurd p10 a
 rename_i a
 exact Classical.byContradiction a
theorem Rt.of (hb:qF m (jP m)) (ht:∀s∈m.sp,zbQ s.tb) (h0:0<=m.hand) (h1:m.hand<max (m.fs.length:Int) 1):Rt m:=by
 refine⟨?_,fun s hs=>(ht s hs).1⟩
 have:=hb.right h0 h1;rw[zkk ht]at this;exact this
theorem je {p:Nat} {s:Sp} (h:m.sp[p]? =some s):(jP m)[p]? =some (zi s):=by
 unfold jP;rw[List.getElem?_map,h];rfl
theorem qF.tabs (h:qF m T) {sp':List Sp} (hl:sp'.length=m.sp.length) (hs:∀(p:Nat) s s',m.sp[p]? =some s->sp'[p]? =some s'->s'.live=s.live/\s'.ars=s.ars):qF { m with sp:=sp' } T:=by
 have back:∀(p:Nat) s',sp'[p]? =some s'->∃s,m.sp[p]? =some s/\s'.live=s.live/\s'.ars=s.ars:=fun p s' h'=>by
  have hp:p<m.sp.length:=by rw[<-hl];exact(gS.1 h').1
  exact⟨_,gE hp,hs p _ s' (gE hp) h'⟩
 refine⟨h.fs40,h.fok,h.sl60,h.sbl,h.sq,h.dok,h.st,h.cnt,h.blk,h.que,by show sp'.length<=4;rw[hl];exact h.spl,fun s' hs'=>?_,h.tl.trans hl.symm,?_,fun p s' f hs' hT n hn=>?_,h.cf,h.cs⟩
 ·obtain⟨p,hp⟩:=List.getElem?_of_mem hs';obtain⟨s,h1,h2,h3⟩:=back p s' hp;rw[h2,h3];exact h.spok s (mG h1)
 ·obtain⟨a1,a2,a3⟩:=zN.1 h.ca;exact zN.2 ⟨fun c hc=>a1 c hc,fun q c hq=>(by cases hq),a3⟩
 obtain⟨s,h1,h2,h3⟩:=back p s' hs';rw[h3];exact h.ent p s f h1 hT n hn
def zbJ (m:Ma) (p n:Nat) (e:En):Ma:={ m with sp:=m.sp.modify p fun s=>{ s with tb:=zeA s.tb n e } }
theorem Ju {p n:Nat} {e:En}:(zbJ m p n e).sp[q]? =(m.sp[q]?).map fun s=>if p=q then{ s with tb:=zeA s.tb n e }else s:=by
 unfold zbJ;simp only[List.getElem?_modify]
 by_cases h:p=q
 ·simp[h]
 simp[h]
theorem zaT {s:Sp} (ht:zbQ s.tb) {n:Nat} (hn:n<64) {e:En} (he:enW e=0):zi { s with tb:=zeA s.tb n e }=qi (zi s) n e:=by
 funext j
 unfold zi qi;simp only;rw[zj9 ht hn he _ _ (Nat.mod_lt _ (by decide))]
 by_cases h:j=n
 ·rw[if_pos h,if_pos (by subst h;exact⟨rfl,rfl⟩)]
 rw[if_neg h,if_neg (fun k=>h (by omega))]
theorem ziU {p n:Nat} {e:En} {s:Sp} (hs:m.sp[p]? =some s) (ht:zbQ s.tb) (hn:n<64) (he:enW e=0):jP (zbJ m p n e)=(jP m).set p (qi (zi s) n e):=by
 apply List.ext_getElem?
 intro q;have hpl:=(gS.1 hs).1;unfold jP;rw[List.getElem?_map,Ju,List.getElem?_set,List.length_map]
 by_cases h:p=q
 ·subst h;rw[hs,if_pos rfl,if_pos hpl];simp only[Option.map_some,if_pos,zaT ht hn he]
 rw[if_neg h,List.getElem?_map]
 cases m.sp[q]? with
 | none=>rfl
 | some x=>simp[h]
theorem zcj {p n:Nat} {e:En}:(zbJ m p n e).sp.length=m.sp.length:=by simp[zbJ]
theorem ze3 {p n:Nat} {e:En} {s s':Sp} (hs:m.sp[q]? =some s) (hs':(zbJ m p n e).sp[q]? =some s'):s'.live=s.live/\s'.ars=s.ars:=by
 rw[Ju,hs]at hs';simp only[Option.map_some,Option.some.injEq]at hs';subst hs'
 split <;> exact⟨rfl,rfl⟩
theorem zd0 (ht:∀s∈m.sp,zbQ s.tb) {p n:Nat} {e:En} (he:enW e=0):∀s∈(zbJ m p n e).sp,zbQ s.tb:=fun s hs=>by
 obtain⟨q,hq⟩:=List.getElem?_of_mem hs;rw[Ju]at hq
 cases h:m.sp[q]? with
 | none=>rw[h]at hq;cases hq
 | some x=>
  rw[h]at hq;simp only[Option.map_some,Option.some.injEq]at hq;have hx:=ht x (mG h);subst hq
  split
  ·exact zk1 hx he
  exact hx
theorem zdk {p n:Nat} {e:En} {s:Sp} (hs:m.sp[p]? =some s) (ht:∀s∈m.sp,zbQ s.tb) (hn:n<64) (he:enW e=0) (hb:qF m ((jP m).set p (qi (zi s) n e))) (h0:0<=m.hand/\m.hand<max (m.fs.length:Int) 1):Rt (zbJ m p n e):=by
 refine Rt.of ?_ (zd0 ht he) h0.1 h0.2;rw[ziU hs (ht s (mG hs)) hn he];exact hb.tabs zcj fun q s s' h1 h2=>ze3 h1 h2
structure Sam (S:Nat->Nat->Prop) (m m':Ma):Prop where
 spl:m'.sp.length=m.sp.length
 sp:∀(q:Nat) s s',m.sp[q]? =some s->m'.sp[q]? =some s'->s'.live=s.live/\s'.ars=s.ars
 see:∀(q n:Nat) s s',m.sp[q]? =some s->m'.sp[q]? =some s'->n<64->¬S q n->zaE m' (zI s.ars n) (zi s' n)=zaE m (zI s.ars n) (zi s n)
 fll:m'.fl.length=m.fl.length
 sz:∀f,zez m' f=zez m f
 bk:∀f,bkN m' f=bkN m f
 byt:∀(file k:Nat),(k:Int)<zez m (file:Int)->(jd m' (file:Int) ((k / 8:Nat):Int)).getD (k % 8) 0=(jd m (file:Int) ((k / 8:Nat):Int)).getD (k % 8) 0
theorem Sam.put {m1:Ma} {p n:Nat} {e:En} (hsp:m1.sp=m.sp) (hfl:m1.fl=m.fl) (ht:∀s∈m.sp,zbQ s.tb) (hn:n<64) (he:enW e=0) (hsee:∀(q j:Nat) s,m.sp[q]? =some s->j<64->(q≠p\/j≠n)->zaE m1 (zI s.ars j) (zi s j)=zaE m (zI s.ars j) (zi s j)) (hc:∀file idx,jd m1 file idx=jd m file idx):Sam (fun q j=>q=p/\j=n) m (zbJ m1 p n e):=by
 refine⟨by rw[zcj,hsp],fun q s s' hs hs'=>ze3 (by rw[hsp];exact hs) hs',fun q j s s' hs hs' hj hS=>?_,by show m1.fl.length=_;rw[hfl],fun f=>by show zez m1 f=_;unfold zez;rw[hfl],fun f=>by show bkN m1 f=_;unfold bkN;rw[hfl],fun file k _=>?_⟩
 ·rw[Ju,hsp,hs]at hs';simp only[Option.map_some,Option.some.injEq]at hs';have key:zi s' j=zi s j:=by
   subst hs'
   split
   ·rename_i h
    subst h;rw[zaT (ht s (mG hs)) hn he];unfold qi;rw[if_neg (fun h=>hS ⟨rfl,h⟩)]
   rfl
  rw[key]
  show zaE m1 _ _=_
  refine hsee q j s hs hj ?_
  by_cases hq:q=p
  ·exact .inr fun h=>hS ⟨hq,h⟩
  exact .inl hq
 show(jd m1 _ _).getD _ _=_
 rw[hc]
def zba (m:Ma) (p n:Nat):Ma:=
 let e:=zi (m.sp.getD p ⟨false,[],[]⟩) n
 if e.kind=1 then zbJ { m with fs:=m.fs.set e.n.toNat (QT (qa m e.n)) } p n en0
 else if e.kind=2 then zbJ { m with sl:=m.sl.set e.n.toNat (m.sl.getD e.n.toNat 0 - 1) } p n en0
 else zbJ m p n en0
section
variable{m:Ma} {p n:Nat} {s:Sp}
theorem Rt.ent (h:Rt m) (hs:m.sp[p]? =some s) (hn:n<64):zi s n=en0\/zaC m (zI s.ars n) (zi s n):=h.inv.ent p s _ hs (je hs) n hn
theorem Rt.present (h:Rt m) (hs:m.sp[p]? =some s) (hn:n<64) (hk:(zi s n).kind=1):∃(k:Nat) (fr:Fr),(zi s n).n=(k:Int)/\m.fs[k]? =some fr/\qa m (zi s n).n=fr/\fr.r≠0:=by
 rcases h.ent hs hn with e|e
 ·rw[e]at hk;cases hk
 obtain⟨c1,c2,c3,_⟩:=qr e (by omega)
 refine⟨(zi s n).n.toNat,m.fs[(zi s n).n.toNat]'(by omega),by omega,gE _,?_,fun h0=>?_⟩
 ·have:=qZ (m:=m) (k:=(zi s n).n.toNat) (gE (by omega))
  rw[show(((zi s n).n.toNat:Nat):Int)=(zi s n).n by omega]at this
  exact this
 have h1:=(h.inv.free (gE (show(zi s n).n.toNat<m.fs.length by omega)) h0).1
 have h2:=zas (je hs) hn hk;rw[show(((zi s n).n.toNat:Nat):Int)=(zi s n).n by omega]at h1
 omega
theorem Rt.swapped (h:Rt m) (hs:m.sp[p]? =some s) (hn:n<64) (hk:(zi s n).kind=2):∃(k:Nat) (z:Int),(zi s n).n=(k:Int)/\m.sl[k]? =some z/\m.sl.getD (zi s n).n.toNat 0=z/\0<z/\(zI s.ars n).is=true/\(zI s.ars n).sh=false/\k<m.sb.length:=by
 rcases h.ent hs hn with e|e
 ·rw[e]at hk;cases hk
 obtain⟨e1,e2,e3⟩:=e;unfold Jn at e3
 split at e3
 ·cases e3
 rename_i his
 split at e3
 ·cases e3
 rename_i hb
 have hn0:=(j0 e1).2.1.1;have hlt:(zi s n).n< (m.sl.length:Int):=by
  rcases Int.lt_or_le (zi s n).n m.sl.length with h1|h1
  ·exact h1
  exact absurd (.inl h1) hb
 have hl:(zi s n).n.toNat<m.sl.length:=by omega
 refine⟨(zi s n).n.toNat,m.sl[(zi s n).n.toNat],by omega,gE hl,?_,?_,?_,?_,?_⟩
 ·rw[gD,gE hl];rfl
 ·rw[h.inv.cs _ _ (gE hl)];have:=za1 (je hs) hn (kind:=2) (k:=(((zi s n).n.toNat:Nat):Int)) (by simp[isE,hk];omega) (by decide)
  omega
 ·cases hx:(zI s.ars n).is with
  | true=>rfl
  | false=>exact absurd hx his
 ·cases hx:(zI s.ars n).sh with
  | false=>rfl
  | true=>exact absurd (.inr hx) hb
 have:=h.inv.sbl;omega
theorem zln (h:Rt m) (hs:m.sp[p]? =some s) (hn:n<64):Rt (zba m p n)/\Sam (fun q j=>q=p/\j=n) m (zba m p n):=by
 have hd:m.sp.getD p ⟨false,[],[]⟩=s:=by rw[gD,hs];rfl
 have ht:∀s∈m.sp,zbQ s.tb:=fun s hs=>h.tb hs
 unfold zba;simp only[hd]
 by_cases h1:(zi s n).kind=1
 ·rw[if_pos h1];obtain⟨k,fr,e1,e2,e3,e4⟩:=h.present hs hn h1;rw[e3,e1,tN];have hb:=h.inv.drop e2 (je hs) hn h1 e1;refine⟨zdk (m:={ m with fs:=m.fs.set k (QT fr) }) hs ht hn za9 hb (by simpa using h.hand),Sam.put (m1:={ m with fs:=m.fs.set k (QT fr) }) rfl rfl ht hn za9 (fun q j s' hs' hj hne=>zil h.inv e2 (je hs) hn h1 e1 (je hs') hj hne) (fun file idx=>zhV h.inv e2 (je hs) hn h1 e1 file idx)⟩
 rw[if_neg h1]
 by_cases h2:(zi s n).kind=2
 ·rw[if_pos h2];obtain⟨k,z,e1,e2,e3,e4,e5,e6,e7⟩:=h.swapped hs hn h2;rw[e3,e1,tN];have hb:=h.inv.dropS e2 (je hs) hn h2 e1;exact⟨zdk (m:={ m with sl:=m.sl.set k (z - 1) }) hs ht hn za9 hb h.hand,Sam.put (m1:={ m with sl:=m.sl.set k (z - 1) }) rfl rfl ht hn za9 (fun q j s' hs' hj hne=>rfl) (fun file idx=>rfl)⟩
 rw[if_neg h2];have he0:zi s n=en0:=by
  rcases h.ent hs hn with e|e
  ·exact e
  have:=(j0 e.1).1;have:=e.2.1;omega
 refine⟨zdk hs ht hn za9 ?_ h.hand,Sam.put rfl rfl ht hn za9 (fun q j s' hs' hj hne=>rfl) (fun file idx=>rfl)⟩
 have:qi (zi s) n en0=zi s:=by
  funext j
  unfold qi
  split
  ·rename_i hj
   rw[hj,he0]
  rfl
 rw[this];have:(jP m).set p (zi s)=jP m:=by
  apply List.ext_getElem?
  intro q;rw[List.getElem?_set]
  split
  ·rename_i hq
   subst hq;rw[if_pos (gS.1 (je hs)).1,je hs]
  rfl
 rw[this];exact h.inv
end
def QC (m:Ma):Nat:=m.fs.countP fun f=>f.r == 0
def QB (m:Ma):Nat:=m.sl.countP fun z=>z == 0
theorem Rt.parts (h:Rt m):j5 m.fs m.hand=0/\slW m.sl=0:=by
 have h0:=h.w;unfold maW at h0;rw[zB]at h0;have h1:Jc m=0:=h0 _ (by simp)
 unfold Jc at h1;rw[zB]at h1;exact⟨h1 _ (by simp),h1 _ (by simp)⟩
theorem Rt.refs (h:Rt m) {k:Nat} {f:Fr} (hk:m.fs[k]? =some f):0<=f.r/\f.r<=300:=by
 have h1:=(h.inv.cf k f hk).1;have h2:=JI (jP m) 1 k;have h3:=zdD h.inv.ca (k:Int);have h4:=h.inv.tl;have h5:=h.inv.spl;omega
theorem Rt.slots (h:Rt m) {k:Nat} (hk:m.sl[k]? =some z):0<=z/\z<=300:=by
 have h1:=h.inv.cs k z hk;have h2:=JI (jP m) 2 k;have h4:=h.inv.tl;have h5:=h.inv.spl;omega
theorem zcn:zbQ zY:=⟨rfl,fun h hh=>by
 have:=List.eq_of_mem_replicate (show h∈List.replicate 8 []from hh)
 subst this;exact .inl rfl⟩
theorem Qe (l:List Ar) (b:Bool):zi ⟨b,l,zY⟩=fun _=>en0:=by
 funext n
 unfold zi zaG;simp only;have:(zY[n / 8]?.getD [])=[]:=by
  unfold zY;rw[List.getElem?_replicate]
  split <;> rfl
 rw[this];rfl
theorem qF.rebirth (h:qF m T) {k:Nat} {f:Nat->En} (hT:T[k]? =some f) (hf:∀n,n<64->f n=en0) (hl:(wrL l).1=0):qF { m with sp:=m.sp.set k ⟨true,l,zY⟩ } T:=by
 have back:∀(p:Nat) s',(m.sp.set k ⟨true,l,zY⟩)[p]? =some s'->(p=k/\s'=⟨true,l,zY⟩)\/(p≠k/\m.sp[p]? =some s'):=fun p s' h'=>by
  rw[List.getElem?_set]at h'
  by_cases e:k=p
  ·rw[if_pos e]at h'
   split at h'
   ·exact .inl ⟨e.symm,by simpa using h'.symm⟩
   cases h'
  rw[if_neg e]at h';exact .inr ⟨fun h=>e h.symm,h'⟩
 refine⟨h.fs40,h.fok,h.sl60,h.sbl,h.sq,h.dok,h.st,h.cnt,h.blk,h.que,by show(m.sp.set k _).length<=4;rw[List.length_set];exact h.spl,fun s' hs'=>?_,by show T.length=(m.sp.set k _).length;rw[List.length_set];exact h.tl,?_,fun p s' g hs' hT' n hn=>?_,h.cf,h.cs⟩
 ·obtain⟨p,hp⟩:=List.getElem?_of_mem hs'
  rcases back p s' hp with⟨_,rfl⟩|⟨_,h2⟩
  ·exact⟨hl,fun e=>by cases e⟩
  exact h.spok s' (mG h2)
 ·obtain⟨a1,a2,a3⟩:=zN.1 h.ca;exact zN.2 ⟨fun c hc=>a1 c hc,fun q c hq=>(by cases hq),a3⟩
 rcases back p s' hs' with⟨rfl,rfl⟩|⟨_,h2⟩
 ·rw[hT]at hT';cases hT';exact .inl (hf n hn)
 exact h.ent p s' g h2 hT' n hn
theorem Rt.dead (h:Rt m) {k:Nat} {s:Sp} (hs:m.sp[k]? =some s) (hd:s.live=false):∀n,n<64->zi s n=en0:=fun n hn=>by
 rcases h.ent hs hn with e|e
 ·exact e
 have ha:=(h.inv.spok s (mG hs)).2 hd;rw[ha]at e;have h2:=e.2.2;have h3:(zI ([]:List Ar) n).is=false:=by first | rfl | simp[zI]
 unfold Jn at h2;rw[if_pos h3]at h2;cases h2
theorem zhj (h:Rt m) {k:Nat} {s:Sp} (hs:m.sp[q]? =some s) (hk:Vac m.sp k) (h4:k<4):Rt (Qf m k s):=by
 have hw:=(h.inv.spok s (mG hs)).1;have ht:∀x∈(Qf m k s).sp,zbQ x.tb:=fun x hx=>by
  obtain⟨i,hi⟩:=List.getElem?_of_mem hx;have hi:(zaD m.sp k ⟨true,s.ars,zY⟩)[i]? =some x:=hi;rw[Ja hk.1]at hi
  split at hi
  ·cases hi;exact zcn
  exact h.tb (mG hi)
 refine Rt.of ?_ ht h.hand.1 h.hand.2
 by_cases e:k=m.sp.length
 ·have e1:(Qf m k s).sp=m.sp++ [⟨true,s.ars,zY⟩]:=by unfold Qf zaD;rw[if_pos e]
  have e2:jP (Qf m k s)=jP m++ [fun _=>en0]:=by unfold jP;rw[e1,List.map_append,mP,List.map_nil,Qe]
  rw[e2];have:=h.inv.space hw (by omega)
  have e3:Qf m k s={ m with sp:=m.sp++ [⟨true,s.ars,zY⟩] }:=by unfold Qf zaD;rw[if_pos e]
  rw[e3];exact this
 have e1:(Qf m k s).sp=m.sp.set k ⟨true,s.ars,zY⟩:=by unfold Qf zaD;rw[if_neg e]
 have hkl:k<m.sp.length:=by have:=hk.1;omega
 obtain⟨d,hd⟩:∃d,m.sp[k]? =some d:=⟨_,gE hkl⟩;have hdead:=h.dead hd (hk.2.1 d hd);have hT8:=(h.tb (mG hd)).1;have hdf:zi d=fun _=>en0:=by
  funext n
  by_cases hn:n<64
  ·exact hdead n hn
  have h9:d.tb[n / 8]? =none:=gN (by rw[hT8];omega)
  unfold zi zaG;rw[h9];rfl
 have e2:jP (Qf m k s)=jP m:=by
  unfold jP;rw[e1]
  apply List.ext_getElem?
  intro i;rw[List.getElem?_map,List.getElem?_map,List.getElem?_set]
  by_cases ei:k=i
  ·subst ei;rw[if_pos rfl,if_pos hkl,hd];simp only[Option.map_some,Qe,hdf]
  rw[if_neg ei]
 rw[e2];have e3:Qf m k s={ m with sp:=m.sp.set k ⟨true,s.ars,zY⟩ }:=by unfold Qf zaD;rw[if_neg e]
 rw[e3];exact h.inv.rebirth (je hd) hdead hw
theorem zft {s:Sp} {n:Nat} (hn:n<64):zgw s.tb (n:Int)=zi s n:=by
 unfold zgw zi;rw[if_pos (by omega),tN]
theorem zk2 {t:List (List En)} (h:zbQ t) {n:Nat} (hn:n<64) {e:En} (he:enW e=0):zeR t (n:Int) e=zeA t n e:=by
 have h0:tbW t=0:=ZB.2 h.2;have:zeS t (n:Int) e=0:=by unfold zeS;rw[if_pos h0,if_pos (by omega)];exact he
 unfold zeR;rw[if_pos this,tN]
theorem JM (ht:∀s∈m.sp,zbQ s.tb) {p n:Nat} (hp:p<m.sp.length) (hn:n<64) {e:En} (he:enW e=0):Zy m p (n:Int) e=zbJ m p n e:=by
 obtain⟨s,hs⟩:∃s,m.sp[p]? =some s:=⟨_,gE hp⟩;unfold Zy zbJ;rw[Sp.getD_of hs,zk2 (ht s (mG hs)) hn he]
 congr 1
 apply List.ext_getElem?
 intro i;rw[List.getElem?_set,List.getElem?_modify]
 by_cases e:p=i
 ·subst e;rw[if_pos rfl,if_pos hp,hs];simp
 rw[if_neg e]
 simp[e]
theorem zi3 {e:En} (h:enW e=0) (hk:e.kind≠0):enW ⟨e.kind,e.n,false⟩=0:=by
 obtain⟨h1,h2,h3⟩:=j0 h;unfold enW;rw[if_pos h1,if_pos h2,if_neg];rintro(⟨a,_⟩|⟨_,a⟩)
 ·exact hk a
 cases a
theorem zfH {α:Type} (p:α->Bool) {l:List α} {x y:α} (hx:l[i]? =some x) (h1:p x=false) (h2:p y=false):(l.set i y).countP p=l.countP p:=by
 induction l generalizing i with
 | nil=>cases hx
 | cons a l ih=>
  cases i with
  | zero=>
   simp only[List.getElem?_cons_zero,Option.some.injEq]at hx;subst hx
   simp[h1,h2]
  | succ i=>
   simp only[List.getElem?_cons_succ]at hx;simp only[sS,List.countP_cons,ih hx]
structure Shd (m m':Ma) (k q n:Nat) (sk sq sk' sq':Sp):Prop where
 rt:Rt m'
 f:QC m'=QC m
 s:QB m'=QB m
 pk:m'.sp[k]? =some sk'
 pq:m'.sp[q]? =some sq'
 ak:sk'.ars=sk.ars
 aq:sq'.ars=sq.ars
 fk:∀j,j≠n->zi sk' j=zi sk j
 fq:∀j,j≠n->zi sq' j=zi sq j
 len:m'.sp.length=m.sp.length
 oth:∀r,r≠k->r≠q->m'.sp[r]? =m.sp[r]?
 lv:sk'.live=sk.live/\sq'.live=sq.live
 kq:(zi sq' n).kind=(zi sq n).kind/\(zi sq' n).n=(zi sq n).n
 kk:(zi sk' n).kind=(zi sq n).kind/\(zi sk' n).n=(zi sq n).n
 see:∀x e,(e.kind=1->0<=e.n)->zaE m' x e=zaE m x e
 rest:m'.fs.length=m.fs.length/\m'.sl.length=m.sl.length/\m'.fl=m.fl/\m'.ca=m.ca
theorem zgS (h:Rt m) {k n:Nat} {sk sq:Sp} (hk:m.sp[k]? =some sk) (hq:m.sp[q]? =some sq) (hkq:q≠k) (ha:sk.ars=sq.ars) (hn:n<64) (h0:zi sk n=en0) (h1:zi sq n≠en0):∃sk' sq',Shd m (QO m k q (n:Int)) k q n sk sq sk' sq':=by
 have ht:∀s∈m.sp,zbQ s.tb:=fun s hs=>h.tb hs
 have hkl:=(gS.1 hk).1;have hql:=(gS.1 hq).1;have heo:zaC m (zI sq.ars n) (zi sq n):=(h.ent hq hn).resolve_left h1;obtain⟨e,he⟩:∃e,zi sq n=e:=⟨_,rfl⟩;rw[he]at heo h1;have hew:enW ⟨e.kind,e.n,false⟩=0:=zi3 heo.1 heo.2.1;have hent:zhR m q (n:Int)=e:=by unfold zhR;rw[Sp.getD_of hq,zft hn,he]
 have hA:Rt (zbJ m q n ⟨e.kind,e.n,false⟩):=zdk hq ht hn hew (by
  have:=h.inv.guard (je hq) hn (by rw[he];exact h1)
  rw[he]at this;exact this) h.hand
 have hAk:(zbJ m q n ⟨e.kind,e.n,false⟩).sp[k]? =some sk:=by rw[Ju,hk];simp[hkq]
 obtain⟨sq',hsq'⟩:∃sq',sq'={ sq with tb:=zeA sq.tb n ⟨e.kind,e.n,false⟩ }:=⟨_,rfl⟩;have hAq:(zbJ m q n ⟨e.kind,e.n,false⟩).sp[q]? =some sq':=by rw[Ju,hq,hsq'];simp
 have hqf:zi sq'=qi (zi sq) n ⟨e.kind,e.n,false⟩:=by rw[hsq'];exact zaT (ht sq (mG hq)) hn hew
 have hqa:sq'.ars=sq.ars:=by rw[hsq']
 have hqn:zi sq' n=⟨e.kind,e.n,false⟩:=by rw[hqf];simp[qi]
 have hAo:zaC (zbJ m q n ⟨e.kind,e.n,false⟩) (zI sk.ars n) ⟨e.kind,e.n,false⟩:=by
  rcases hA.ent hAq hn with e1|e1
  ·rw[hqn]at e1;exact absurd (congrArg En.kind e1) heo.2.1
  rw[hqn,hqa,<-ha]at e1;exact e1
 have htA:∀s∈(zbJ m q n ⟨e.kind,e.n,false⟩).sp,zbQ s.tb:=zd0 ht hew;obtain⟨sk',hsk'⟩:∃sk',sk'={ sk with tb:=zeA sk.tb n ⟨e.kind,e.n,false⟩ }:=⟨_,rfl⟩;have hkf:zi sk'=qi (zi sk) n ⟨e.kind,e.n,false⟩:=by rw[hsk'];exact zaT (ht sk (mG hk)) hn hew
 have fin:∀M:Ma,M.sp=m.sp->jN m ⟨e.kind,e.n,false⟩ 1=M->QC M=QC m->QB M=QB m->(∀x e,(e.kind=1->0<=e.n)->zaE M x e=zaE m x e)->(M.fs.length=m.fs.length/\M.sl.length=m.sl.length/\M.fl=m.fl/\M.ca=m.ca)->Rt (zbJ (zbJ M q n ⟨e.kind,e.n,false⟩) k n ⟨e.kind,e.n,false⟩)->∃sk' sq',Shd m (QO m k q (n:Int)) k q n sk sq sk' sq':=fun M hM hh c1 c2 hsee hrest hR=>by
  have e1:QO m k q (n:Int)=zbJ (zbJ M q n ⟨e.kind,e.n,false⟩) k n ⟨e.kind,e.n,false⟩:=by
   unfold QO;rw[hent]
   show Zy (Zy (jN m ⟨e.kind,e.n,false⟩ 1) q n ⟨e.kind,e.n,false⟩) k n ⟨e.kind,e.n,false⟩=_
   have hMt:∀s∈M.sp,zbQ s.tb:=by rw[hM];exact ht
   rw[hh,JM (m:=M) (p:=q) hMt (by rw[hM];exact hql) hn hew,JM (p:=k) (zd0 hMt hew) (by rw[zcj,hM];exact hkl) hn hew]
  rw[e1];refine⟨sk',sq',hR,c1,c2,?_,?_,by rw[hsk'],hqa,fun j hj=>by rw[hkf];simp[qi,hj],fun j hj=>by rw[hqf];simp[qi,hj],by rw[zcj,zcj,hM],fun r h1 h2=>?_,⟨by rw[hsk'],by rw[hsq']⟩,by rw[hqn,he];exact⟨rfl,rfl⟩,by rw[hkf,he];simp[qi],fun x e' h=>hsee x e' h,hrest⟩
  ·rw[Ju,Ju,hM,hk,hsk']
   simp[hkq]
  ·rw[Ju,Ju,hM,hq,hsq'];have:¬k=q:=fun h=>hkq h.symm
   simp[this]
  rw[Ju,Ju,hM];have e3:¬k=r:=fun h=>h1 h.symm
  have e4:¬q=r:=fun h=>h2 h.symm
  cases m.sp[r]? with
  | none=>rfl
  | some x=>simp[e3,e4]
 by_cases hk1:e.kind=1
 ·obtain⟨i,fr,f1,f2,f3,f4⟩:=h.present hq hn (by rw[he];exact hk1)
  rw[he]at f1 f3;obtain⟨r0,r1⟩:=h.refs f2;have hil:=(gS.1 f2).1;have hgd:m.fs.getD i fr0=fr:=by rw[gD,f2];rfl
  have hho:jN m ⟨e.kind,e.n,false⟩ 1={ m with fs:=m.fs.set i { fr with r:=fr.r+1 } }:=by
   have e0:Ql m.fs m.hand e.n 1=0:=by
    unfold Ql;rw[if_pos h.parts.1,f1,tN,hgd];have hb:(inB (i:Int) m.fs.length && !(fr.r == 0))=true:=by
     simp[inB,f4]
     omega
    rw[hb,if_pos rfl,if_pos (by omega)]
   unfold jN;rw[if_pos hk1];simp only;unfold zc5 zbL;rw[if_pos e0,if_pos e0,f1,tN,hgd];unfold frH;rw[if_neg (by omega)]
  refine fin { m with fs:=m.fs.set i { fr with r:=fr.r+1 } } rfl hho (by
   unfold QC;refine zfH (fun f:Fr=>f.r == 0) f2 (by simpa using f4) ?_
   have:¬fr.r+1=0:=by omega
   simpa using this) rfl (fun x e' h'=>zjF h.inv f2 h') ⟨by show(m.fs.set i _).length=_;rw[List.length_set],rfl,rfl,rfl⟩ ?_
  have hb:=hA.inv.share (p:=q) (q:=k) (n:=n) (k:=i) (fr:=fr) (e:=⟨e.kind,e.n,false⟩) f2 (je hAq) hqn (je hAk) hkq hn h0 hAk hAo hk1 f1 (fun h=>by cases h)
  exact zdk (m:={ zbJ m q n ⟨e.kind,e.n,false⟩with fs:=m.fs.set i { fr with r:=fr.r+1 } }) hAk htA hn hew hb (by show 0<=m.hand/\m.hand<max ((m.fs.set i _).length:Int) 1;rw[List.length_set];exact h.hand)
 have hk2:e.kind=2:=by have:=(j0 heo.1).1;have:=heo.2.1;omega
 obtain⟨i,z,f1,f2,f3,f4,_⟩:=h.swapped hq hn (by rw[he];exact hk2)
 rw[he]at f1 f3;obtain⟨r0,r1⟩:=h.slots f2;have hgd:m.sl.getD i 0=z:=by rw[gD,f2];rfl
 have hho:jN m ⟨e.kind,e.n,false⟩ 1={ m with sl:=m.sl.set i (z+1) }:=by
  have ea:atS m.sl e.n=z:=by unfold atS;rw[f1,if_pos (by omega),tN,hgd]
  have e0:jq m.sl e.n 1=0:=by
   unfold jq;rw[if_pos h.parts.2,ea,if_neg (by omega),if_pos (by omega)]
  unfold jN;rw[if_neg hk1,if_pos hk2];simp only;unfold Zi;rw[if_pos e0,ea,f1,tN]
 refine fin { m with sl:=m.sl.set i (z+1) } rfl hho rfl (by
  unfold QB;refine zfH (fun z:Int=>z == 0) f2 ?_ ?_
  ·have:¬z=0:=by omega
   simpa using this
  have:¬z+1=0:=by omega
  simpa using this) (fun x e' h'=>rfl) ⟨rfl,by show(m.sl.set i _).length=_;rw[List.length_set],rfl,rfl⟩ ?_
 have hb:=hA.inv.shareS (q:=k) (n:=n) (k:=i) (z:=z) (e:=⟨e.kind,e.n,false⟩) f2 (je hAk) hn h0 hAk hAo hk2 f1;exact zdk (m:={ zbJ m q n ⟨e.kind,e.n,false⟩with sl:=m.sl.set i (z+1) }) hAk htA hn hew hb h.hand
theorem zeO {k q:Nat} (hkq:q≠k):∀(l:List Nat) {m:Ma} {sk sq:Sp},Rt m->m.sp[k]? =some sk->m.sp[q]? =some sq->sk.ars=sq.ars->l.Nodup->(∀n∈l,n<64/\zi sk n=en0/\zi sq n≠en0)->
  Rt (JD m k q (l.map fun(n:Nat)=>(n:Int)))/\QC (JD m k q (l.map fun(n:Nat)=>(n:Int)))=QC m/\QB (JD m k q (l.map fun(n:Nat)=>(n:Int)))=QB m
 | [],m,sk,sq,h,_,_,_,_,_=>⟨h,rfl,rfl⟩
 | n :: l,m,sk,sq,h,hk,hq,ha,hd,hl=>by
  obtain⟨h1,h2,h3⟩:=hl n (by simp)
  obtain⟨sk',sq',hS⟩:=zgS h hk hq hkq ha h1 h2 h3;rw[List.nodup_cons]at hd;have ih:=zeO hkq l hS.rt hS.pk hS.pq (by rw[hS.ak,hS.aq,ha]) hd.2 (fun j hj=>by
   obtain⟨a1,a2,a3⟩:=hl j (by simp[hj])
   have hne:j≠n:=fun e=>hd.1 (e ▸ hj)
   rw[hS.fk j hne,hS.fq j hne];exact⟨a1,a2,a3⟩)
  rw[hS.f,hS.s]at ih;exact ih
theorem ZR {s:Sp}:(zZ s).Nodup/\∀n∈zZ s,n<64/\zi s n≠en0:=by
 unfold zZ;refine⟨List.Pairwise.filter _ List.nodup_range,fun n hn=>?_⟩
 rw[List.mem_filter,List.mem_range]at hn;refine⟨hn.1,fun e=>?_⟩
 rw[e]at hn;exact absurd hn.2 (by decide)
theorem zhc (h:Rt m) {k:Nat} {s:Sp} (hs:m.sp[q]? =some s) (hl:s.live=true) (hk:Vac m.sp k) (h4:k<4):Rt (Zc m k q s)/\QC (Zc m k q s)=QC m/\QB (Zc m k q s)=QB m:=by
 have hkq:q≠k:=fun e=>by
  have h1:=hk.2.1 s (by rw[<-e];exact hs)
  rw[hl]at h1;cases h1
 unfold Zc;rw[jM];have e1:(Qf m k s).sp[k]? =some ⟨true,s.ars,zY⟩:=by show(zaD m.sp k _)[k]? =_;rw[Ja hk.1,if_pos rfl]
 have e2:(Qf m k s).sp[q]? =some s:=by show(zaD m.sp k _)[q]? =_;rw[Ja hk.1,if_neg hkq];exact hs
 exact zeO hkq (zZ s) (zhj h hs hk h4) e1 e2 rfl ZR.1 (fun n hn=>⟨(ZR.2 n hn).1,by rw[Qe],(ZR.2 n hn).2⟩)
end
section
open Go.RowKit
theorem zdw {α:Type} (p:α->Bool) {l:List α} {k:Nat} {x:α} (h:l[k]? =some x):(l.take (k+1)).countP p=(l.take k).countP p+(if p x=true then 1 else 0):=by
 rw[qh h,List.countP_append]
 simp[List.countP_cons]
theorem zhb (V:MaV) (m:Ma) (w:World) (hm:zF w V m) (hf:m.fs.length<=40) (hs:m.sl.length<=60):
  Calls prog 22 #[.agg (mL V m).toArray] w fun e w'=>e= .returned (.agg #[I6 (QC m:Int),I6 (QB m:Int)])/\zc w w':=by
 obtain⟨n1,n2,-⟩:=hm.ns;obtain⟨fa,HFA⟩:∃fa,Hid (V.f.a=fa):=⟨_,rfl⟩;obtain⟨sa,HSA⟩:∃sa,Hid (V.s.a=sa):=⟨_,rfl⟩;have HFR:Hid (QZ w fa m.fs):=dD<|by rw[<-HFA.out];exact hm.frs
 have HSR:Hid (zaj w sa m.sl):=dD<|by rw[<-HSA.out];exact hm.sls
 obtain⟨fn,HFN⟩:∃fn,Hid (m.fs.length=fn):=⟨_,rfl⟩;obtain⟨sn,HSN⟩:∃sn,Hid (m.sl.length=sn):=⟨_,rfl⟩;rw[HFN.out]at n1 hf;rw[HSN.out]at n2 hs;have HN1:Hid (V.f.n=fn):=n1;have HN2:Hid (V.s.n=sn):=n2;clear n1 n2;obtain⟨W0,hW0⟩:∃W0,((w.alloc (.cells (mL V m).toArray 40)).alloc (.cells #[I6 0,I6 0] 75)).alloc (.cells #[I6 0,I6 0] 75)=W0:=⟨_,rfl⟩;have G0:Hid (zc w W0):=show zc _ _ by rw[<-hW0];exact((za _ _).trans (za _ _)).trans (za _ _)
 obtain⟨b,HB⟩:∃b,Hid (w.heap.size=b):=⟨_,rfl⟩;have X0:Hid (zn W0 b 40 (mL V m)):=dD<|by rw[<-hW0];exact((zn.top w (mL V m) _ HB.symm).grew (za _ _)).grew (za _ _)
 have Y0:Hid (zn W0 (b+1) 75 [I6 0,I6 0]):=dD<|by rw[<-hW0];exact(zn.top _ [I6 0,I6 0] _ (by have:=HB.out;simp;omega)).grew (za _ _)
 have Z0:Hid (zn W0 (b+1+1) 75 [I6 0,I6 0]):=dD<|by rw[<-hW0];exact zn.top _ [I6 0,I6 0] _ (by have:=HB.out;simp;omega)
 have HW0:Hid (_=W0):=hW0;have HZF:Hid (QC m=(m.fs.take fn).countP fun f=>f.r == 0):=show _=_ by rw[<-HFN.out,List.take_length];rfl
 have HZS:Hid (QB m=(m.sl.take sn).countP fun z=>z == 0):=dD<|by rw[<-HSN.out,List.take_length];rfl
 clear hW0 hm
 go_enter func22,ntmps22
 go_upto_region 2 with fail;rw[HW0.out,HB.out];have x0:=X0.box.c 0 rfl;(try simp only[Sli.x]at x0);rw[HN1.out,HFA.out]at x0;go_wp2;clear x0
 go_loopg [12] fn (fun gg s12 wr=>∃kk:Nat,kk<=fn/\fn - kk<=gg/\s12=I6 kk/\Hid (zc w wr)/\Hid (zn wr b 40 (mL V m))/\Hid (zn wr (b+1) 75 [I6 0,I6 0])/\Hid (zn wr (b+1+1) 75 [I6 (((m.fs.take kk).countP fun f=>f.r == 0:Nat):Int),I6 0]))
 case atStart=>exact⟨0,nZ _,by omega,rfl,G0,X0,Y0,Z0⟩
 obtain⟨kk,hkk,hg,rfl,GW,XW,YW,ZW⟩:=hrel
 by_cases hlt:kk<fn
 ·have hltz:(kk:Int)< (fn:Int):=by omega
  obtain⟨f,HK⟩:∃f,Hid (m.fs[kk]? =some f):=⟨_,gE (by rw[HFN.out];exact hlt)⟩
  obtain⟨ad,rfl,hl⟩:=HFR.out kk f HK.out;obtain⟨d0,d1,d2,d3,d4,d5,d6,d7,d8,d9,d10,d11,d12⟩:=hl wr GW.out;clear hl;go_upto_region 5 with fail;clear d0 d1 d2 d3 d4 d5 d6 d7 d8 d9 d10 d11 d12;obtain⟨W1,hW1⟩:∃W1,wr.alloc (.cells #[U8 f.p.b0,U8 f.p.b1,U8 f.p.b2,U8 f.p.b3,U8 f.p.b4,U8 f.p.b5,U8 f.p.b6,U8 f.p.b7,I6 f.r,.bool f.u,.bool f.d,I6 f.f,I6 f.x] 59)=W1:=⟨_,rfl⟩;have g1:=gP hW1
  have F1:=xA hW1
  have G1:=dD (GW.trans g1);have X1:=dD (XW.grew g1);have Y1:=dD (YW.grew g1);have Z1:=dD (ZW.grew g1)
  have HC:Hid ((m.fs.take (kk+1)).countP (fun f=>f.r == 0)=(m.fs.take kk).countP (fun f=>f.r == 0)+(if(f.r == 0)=true then 1 else 0)):=zdw _ HK.out
  have HCL:Hid ((m.fs.take kk).countP (fun f=>f.r == 0)<=kk):=dD<|nT List.countP_le_length (by simp;omega)
  rw[hW1];clear hW1 g1
  generalize hcn:(m.fs.take kk).countP (fun f=>f.r == 0)=cn at Z1 HC HCL
  clear hcn;have hcl:cn<=kk:=HCL.out;have f8:=F1.c 8 rfl
  by_cases hz:f.r=0
  ·have hzb:(f.r == 0)=true:=by simpa using hz
   have HC1:Hid ((m.fs.take (kk+1)).countP (fun f=>f.r == 0)=cn+1):=dD<|by rw[HC.out,hzb];rfl
   clear hz;have z0:=Z1.box.c 0 rfl;have zf:=Z1.box.f 0;have Z2:Hid (zn (W1.setCell ⟨b+1+1,0,none⟩ (I6 ((cn:Int)+1))) (b+1+1) 75 [I6 (((m.fs.take (kk+1)).countP (fun f=>f.r == 0):Nat):Int),I6 0]):=dD<|by
    rw[HC1.out];exact Z1.set 0 _
   have X2:Hid (zn (W1.setCell ⟨b+1+1,0,none⟩ (I6 ((cn:Int)+1))) b 40 (mL V m)):=dD<|X1.other (by show b≠b+1+1;omega) _
   have Y2:Hid (zn (W1.setCell ⟨b+1+1,0,none⟩ (I6 ((cn:Int)+1))) (b+1) 75 [I6 0,I6 0]):=dD<|Y1.other (by show b+1≠b+1+1;omega) _
   have G2:Hid (zc w (W1.setCell ⟨b+1+1,0,none⟩ (I6 ((cn:Int)+1)))):=dD<|zd G1 (zL (b+1+1) [I6 ((cn:Int)+1)] 0 W1).1 (by have:=HB.out;omega)
   go_wp2
   go_roundg (fn -(kk+1))
   case measure=>omega
   exact⟨kk+1,by omega,by omega,by go_num,G2,X2,Y2,Z2⟩
  have hzb:(f.r == 0)=false:=by simpa using hz
  have Z2:Hid (zn W1 (b+1+1) 75 [I6 (((m.fs.take (kk+1)).countP (fun f=>f.r == 0):Nat):Int),I6 0]):=dD<|by
   rw[HC.out,hzb];exact Z1.out
  clear hz;go_wp2
  go_roundg (fn -(kk+1))
  case measure=>omega
  exact⟨kk+1,by omega,by omega,by go_num,G1,X1,Y1,Z2⟩
 have hltz:¬(kk:Int)< (fn:Int):=by omega
 have:kk=fn:=by omega
 subst this;rw[<-HZF.out]at ZW;have hzl:QC m<=kk:=by rw[HZF.out];exact nT List.countP_le_length (by simp;omega)
 obtain⟨zf,HZ⟩:∃zf,Hid (QC m=zf):=⟨_,rfl⟩;rw[HZ.out]at ZW hzl;have x2:=XW.box.c 2 rfl;(try simp only[Sli.x]at x2);rw[HN2.out,HSA.out]at x2;obtain⟨WC,rfl⟩:∃WC,WC=wr:=⟨_,rfl⟩;go_upto_region 9 with fail;clear x2
 go_loopg [27] sn (fun gg s27 wr=>∃jj:Nat,jj<=sn/\sn - jj<=gg/\s27=I6 jj/\Hid (zc w wr)/\Hid (zn wr (b+1) 75 [I6 0,I6 0])/\Hid (zn wr (b+1+1) 75 [I6 (zf:Int),I6 (((m.sl.take jj).countP fun z=>z == 0:Nat):Int)]))
 case atStart=>exact⟨0,nZ _,by omega,rfl,GW,YW,ZW⟩
 obtain⟨jj,hjj,hg2,rfl,GV,YV,ZV⟩:=hrel
 by_cases hlt:jj<sn
 ·have hltz2:(jj:Int)< (sn:Int):=by omega
  obtain⟨z,HK⟩:∃z,Hid (m.sl[jj]? =some z):=⟨_,gE (by rw[HSN.out];exact hlt)⟩
  obtain⟨ad,rfl,hl⟩:=HSR.out jj z HK.out;have d0:=hl wr GV.out;clear hl;have HC:Hid ((m.sl.take (jj+1)).countP (fun z=>z == 0)=(m.sl.take jj).countP (fun z=>z == 0)+(if(z == 0)=true then 1 else 0)):=zdw _ HK.out
  have HCL:Hid ((m.sl.take jj).countP (fun z=>z == 0)<=jj):=dD<|nT List.countP_le_length (by simp;omega)
  generalize hcn:(m.sl.take jj).countP (fun z=>z == 0)=cn at ZV HC HCL
  clear hcn;have hcl:cn<=jj:=HCL.out
  by_cases hz:z=0
  ·have hzb:(z == 0)=true:=by simpa using hz
   have HC1:Hid ((m.sl.take (jj+1)).countP (fun z=>z == 0)=cn+1):=dD<|by rw[HC.out,hzb];rfl
   clear hz;have z1:=ZV.box.c 1 rfl;have zfz:=ZV.box.f 1;have Z2:Hid (zn (wr.setCell ⟨b+1+1,1,none⟩ (I6 ((cn:Int)+1))) (b+1+1) 75 [I6 (zf:Int),I6 (((m.sl.take (jj+1)).countP (fun z=>z == 0):Nat):Int)]):=dD<|by
    rw[HC1.out];exact ZV.set 1 _
   have Y2:Hid (zn (wr.setCell ⟨b+1+1,1,none⟩ (I6 ((cn:Int)+1))) (b+1) 75 [I6 0,I6 0]):=dD<|YV.other (by show b+1≠b+1+1;omega) _
   have G2:Hid (zc w (wr.setCell ⟨b+1+1,1,none⟩ (I6 ((cn:Int)+1)))):=dD<|zd GV (zL (b+1+1) [I6 ((cn:Int)+1)] 1 wr).1 (by have:=HB.out;omega)
   go_wp2
   go_roundg (sn -(jj+1))
   case measure=>omega
   exact⟨jj+1,by omega,by omega,by go_num,G2,Y2,Z2⟩
  have hzb:(z == 0)=false:=by simpa using hz
  have Z2:Hid (zn wr (b+1+1) 75 [I6 (zf:Int),I6 (((m.sl.take (jj+1)).countP (fun z=>z == 0):Nat):Int)]):=dD<|by
   rw[HC.out,hzb];exact ZV.out
  clear hz;go_wp2
  go_roundg (sn -(jj+1))
  case measure=>omega
  exact⟨jj+1,by omega,by omega,by go_num,GV,YV,Z2⟩
 have hltz2:¬(jj:Int)< (sn:Int):=by omega
 have:jj=sn:=by omega
 subst this;rw[<-HZS.out]at ZV;have z0:=ZV.box.c 0 rfl;have z1:=ZV.box.c 1 rfl
 go_wp2_with (refine qC rfl 75 (.tmp 2) (.tmp 38) rfl (b+1) rfl [I6 (zf:Int),I6 (QB m:Int)] rfl YV rfl (by kernel_rfl) (by simp[Value.oneCell']) ?_)
 intro W9 bx9 gr9 _;have G9:Hid (zc w W9):=dD<|zd GV gr9 (by have:=HB.out;omega)
 have B9:Hid (zn W9 (b+1) 75 [I6 (zf:Int),I6 (QB m:Int)]):=bx9;clear bx9 gr9 z0 z1;go_wp2;refine bodyPost_ret (qd rfl _ rfl B9.box underlying75 rfl (by kernel_rfl)) rfl ⟨by rw[HZ.out],G9⟩
theorem zdB {l:List On} (y:On) (h:j<l.length):splice (zz l) (j*6) (onv y)=zz (l.set j y):=QM (enc:=onv) (k:=6) y rfl l j (fun _ _=>rfl) h
theorem Zn {l:List On} {e:On} (h:l[j]? =some e) (i:Nat) (u:Value) (hu:(onv e)[i]? =some u):(zz l)[j*6+i]? =some u:=qQ (enc:=onv) (k:=6) l j e (fun _ _=>rfl) h i u hu
theorem js (f:Nat->On):(zz (tab f)).length=384:=by rw[zhZ,QE]
theorem zdd {rest:List Oper} {op:Oper} {a:Act} {w:World} (hgd:op.guard=none) (p x:Operand) (ho:op.op= .store 96 p x) (b k:Nat) (hk:k<64) (hp:a.eval p= .pointer (some ⟨b,k*6,none⟩)) (y:On) (hx:a.eval x= .agg (onv y).toArray)
  {f:Nat->On} (hb:Box w b (zz (tab f)))
  (h:∀w',Box w' b (zz (tab (upd f k y)))->w.grownBy w' (some b)->w'.heap.size=w.heap.size->wpList prog ops Q rest (a.put op.dst undef) w'):wpList prog ops Q (op :: rest) a w:=by
 refine zf2 hgd 96 p x ho b (k*6) hp (onv y) hx hb (by rw[js];show _+6<=_;omega) zmC (zit y) fun w' h1 h2 h3=>h w' ?_ h2 h3
 rw[zdB y (by rw[QE];exact hk),zf6]at h1
 exact h1
theorem Box.onCell {w:World} {k:Nat} {f:Nat->On} (h:Box w b (zz (tab f))) (hk:k<64) (i:Nat) (u:Value) (y:On) (hy:(onv (f k)).set i u=onv y) (hi:i<6):Box (w.setCell ⟨b,k*6+i,none⟩ u) b (zz (tab (upd f k y))):=by
 have h1:=h.set (k*6+i) u;have:(zz (tab f)).set (k*6+i) u=zz (tab (upd f k y)):=by
  rw[<-zf6,<-zdB y (by rw[QE];exact hk),<-hy]
  have hl:(zz (tab f)).length=384:=js f
  apply List.ext_getElem?
  intro j;unfold splice;have e6:((onv (f k)).set i u).length=6:=by simp[onv]
  rw[e6]
  by_cases h1:j<k*6
  ·rw[sN (by omega),List.getElem?_append_left (by simp;omega),List.getElem?_take_of_lt h1]
  have hl2:((zz (tab f)).take (k*6)).length=k*6:=by simp;omega
  rw[aR (by omega),hl2]
  by_cases h2:j<k*6+6
  ·rw[List.getElem?_append_left (by rw[e6];omega)]
   have hc:∀i',i'<6->(zz (tab f))[k*6+i']? =(onv (f k))[i']?:=fun i' hi'=>by
    obtain⟨v,hv⟩:∃v,(onv (f k))[i']? =some v:=⟨_,gE (by simpa [onv]using hi')⟩
    rw[hv];exact Zn (Jr hk) i' v hv
   by_cases e:j=k*6+i
   ·subst e;rw[sF (by omega),show k*6+i - k*6=i by omega,sF (by simpa [onv]using hi)]
   rw[sN (fun h=>e h.symm),sN (by omega),<-hc _ (by omega),show k*6+(j - k*6)=j by omega]
  rw[sN (by omega),aR (by rw[e6];omega),e6,List.getElem?_drop]
  congr 1
  omega
 rw[this]at h1;exact h1
theorem zfE {cs:List Value} {o k:Nat} (hl:vs.length=k) (h:∀(i:Nat) u,vs[i]? =some u->cs[o+i]? =some u):cs.toArray.extract o (o+k)=vs.toArray:=by
 apply Array.ext_getElem?
 intro j;rw[Array.getElem?_extract]
 by_cases hj:j<k
 ·obtain⟨u,hu⟩:∃u,vs[j]? =some u:=⟨_,gE (by omega)⟩
  have h1:=h j u hu;have h2:=(gS.1 h1).1;rw[if_pos (by simp;omega)]
  simp[h1,hu]
 rw[if_neg (by omega)]
 simp;omega
theorem zjI {w:World} {f:Nat->On} (i:Nat) (hi:i<64):(Instr.index 97 (.agg (zz (tab f)).toArray) (I6 (i:Int))).run prog w= .ok (.agg (onv (f i)).toArray) w:=by
 have ha:(isAgg 96).run prog w= .ok true w:=by
  unfold isAgg;rw[Sem.run_bind,run_underlying underlying96 w];rfl
 have hs:(Go.sizeOf 96).run prog w= .ok 6 w:=by
  obtain⟨i0,h1,h2⟩:∃i0,Tryz.prog.info? 96=some i0/\i0.size=6:=by
   have:=zmC
   cases hq:Tryz.prog.info? 96 with
   | none=>rw[hq]at this;cases this
   | some i0=>rw[hq]at this;exact⟨i0,rfl,by simpa using this⟩
  simp[Go.sizeOf,typeInfo,h1,h2]
 have hlt:(0:Int)<=(i:Int)/\(i:Int)< ((64:Nat):Int):=by omega
 have hx:(zz (tab f)).toArray.extract (i*6) (i*6+6)=(onv (f i)).toArray:=zfE rfl fun j u hu=>Zn (Jr hi) j u hu
 simp only[Instr.index,asIntOf,Sem.run_bind,Sem.run_pure,rA,run_underlying underlying97];rw[if_pos hlt];simp only[Sem.run_bind,hs,rA,part,ha,if_true,tN,Sem.run_pure,hx]
theorem zkV {rest:List Oper} {a:Act} {w:World} (hgd:o.guard=none) (x ix:Operand) (ho:o.op= .index 97 x ix) (f:Nat->On) (hx:a.eval x= .agg (zz (tab f)).toArray) (i:Nat) (hix:a.eval ix=I6 (i:Int)) (hi:i<64)
  (h:wpList prog ops Q rest (a.put o.dst (.agg (onv (f i)).toArray)) w):wpList prog ops Q (o :: rest) a w:=by
 refine wpList_plain hgd fun K hK=>?_
 unfold Oper.wp execOp;simp only[ho,hx,hix,Sem.run_bind,Sem.run_pure,rA,zjI i hi];exact hK _ _ h
theorem zbT {rest:List Oper} {a:Act} {w:World} (hgd:o.guard=none) (x ix:Operand) (ho:o.op= .index 97 x ix) (f:Nat->On) (hx:a.eval x= .agg (zz (tab f)).toArray) (i:Nat) (hix:a.eval ix=I6 (i:Int)) (hi:i<64) {v:Value} (hv: .agg (onv (f i)).toArray=v)
  (h:wpList prog ops Q rest (a.put o.dst v) w):wpList prog ops Q (o :: rest) a w:=zkV hgd x ix ho f hx i hix hi (by rw[hv];exact h)
theorem zic {rest:List Oper} {a:Act} {w:World} (hgd:o.guard=none) (x:Operand) (ho:o.op= .load 96 x) (b k:Nat) (hk:k<64) (hx:a.eval x= .pointer (some ⟨b,k*6,none⟩)) {f:Nat->On} (hb:Box w b (zz (tab f)))
  (h:wpList prog ops Q rest (a.put o.dst (.agg (onv (f k)).toArray)) w):wpList prog ops Q (o :: rest) a w:=
 wpList_load_mid hgd 96 x ho b (k*6) hx (onv (f k)) _ (hb.mid _ fun j u hu=>Zn (Jr hk) j u hu) underlying96 rfl zmC h
theorem zde {rest:List Oper} {a:Act} {w:World} (hgd:o.guard=none) (x:Operand) (ho:o.op= .load 96 x) (b k:Nat) (hk:k<64) (hx:a.eval x= .pointer (some ⟨b,k*6,none⟩)) {f:Nat->On} (hb:Box w b (zz (tab f))) {v:Value} (hv: .agg (onv (f k)).toArray=v)
  (h:wpList prog ops Q rest (a.put o.dst v) w):wpList prog ops Q (o :: rest) a w:=zic hgd x ho b k hk hx hb (by rw[hv];exact h)
theorem zl1:(Tryz.prog.info? 97).map (·.zero)=some (some (.agg (zz (tab fun _=>on0)).toArray)):=by kernel_rfl
theorem zaR (w:World):(zeroValue 97).run prog w= .ok (.agg (zz (tab fun _=>on0)).toArray) w:=by
 have h:=zl1
 cases hq:Tryz.prog.info? 97 with
 | none=>simp[hq]at h
 | some i=>
  simp[hq]at h
  simp[zeroValue,typeInfo,hq,h]
def zlN (f:Nat->On):Nat->Ar:=fun n=>zai n (f n)
def zg0 (l:List Ar) (i:Nat) (a:Ar) (n:Nat):Nat->On:=fun j=>if a.fr<=(j:Int)/\(j:Int)< (n:Int)then qL a j else zI (l.take i) j
theorem Qj.take:∀{l:List Ar} {p:Option Ar},Qj p l->∀i,Qj p (l.take i)
 | [],_,_,i=>by simp[Qj]
 | a :: l,p,h,0=>by simp[Qj]
 | a :: l,p,h,i+1=>⟨h.1,h.2.1,h.2.2.take i⟩
theorem Qj.free (h:Qj none l) {a:Ar} (ha:l[i]? =some a) (hj:a.fr<=(j:Int)):zI (l.take i) j=on0:=by
 refine zaV fun x hx=>zcO ?_
 have h1:=h.take (i+1);rw[qh ha]at h1;obtain⟨c1,c2,c3⟩:=JR.1 h1
 cases hl:JG none (l.take i)with
 | none=>
  unfold JG at hl
  cases hq:l.take i with
  | nil=>rw[hq]at hx;cases hx
  | cons y ys=>rw[hq]at hl;simp[List.getLast?_cons]at hl
 | some y=>
  have q:=(c3 y hl).1;have hy:jz y:=c1.all y (by
   unfold JG at hl
   split at hl
   ·rename_i b hb
    cases hl;exact List.mem_of_getLast? hb
   cases hl)
  unfold jz at hy
  rcases zd8 _ none c1 x hx y hl with e|e
  ·rw[e];omega
  omega
theorem ziv {a:Ar} {n:Nat} (hn:(n:Int)=a.fr):zg0 l i a n=zI (l.take i):=by
 funext j
 unfold zg0;rw[if_neg (by omega)]
def zlz (l:List Ar):Prop:=(∀a∈l,jz a)/\∀(i:Nat) a,l[i]? =some a->∀j:Nat,a.fr<=(j:Int)->zI (l.take i) j=on0
theorem Qj.lies (h:Qj none l):zlz l:=⟨h.all,fun _ _ ha _ hj=>h.free ha hj⟩
theorem zj1 {b a:Ar} (hb:jz b) (ha:jz a) (hf:b.tz<=a.fr):zlz [b,a]:=by
 refine⟨fun x hx=>?_,fun i x hx j hj=>?_⟩
 ·simp at hx
  rcases hx with rfl|rfl
  ·exact hb
  exact ha
 match i with
 | 0=>rfl
 | 1=>
  simp at hx
  subst hx
  show zI [b] j=on0
  rw[zaU (.inr (by omega))]
  rfl
 | k+2=>simp at hx
theorem zj2 {a:Ar} (ha:jz a):zlz [a]:=by
 refine⟨fun x hx=>?_,fun i x hx j hj=>?_⟩
 ·simp at hx
  subst hx;exact ha
 match i with
 | 0=>rfl
 | k+1=>simp at hx
theorem ziw {a:Ar} {n:Nat} (hn:a.fr<=(n:Int)):upd (zg0 l i a n) n (qL a n)=zg0 l i a (n+1):=by
 funext j
 unfold upd zg0
 by_cases e:j=n
 ·subst e;rw[if_pos rfl,if_pos (by omega)]
 rw[if_neg e]
 by_cases h:a.fr<=(j:Int)/\(j:Int)< (n:Int)
 ·rw[if_pos h,if_pos (by omega)]
 rw[if_neg h,if_neg (by omega)]
theorem zjW {a:Ar} {n:Nat} (h:zlz l) (ha:l[i]? =some a) (hn:(n:Int)=a.tz):zg0 l i a n=zI (l.take (i+1)):=by
 funext j
 unfold zg0;rw[qh ha,JE]
 ·by_cases h1:a.fr<=(j:Int)/\(j:Int)< (n:Int)
  ·rw[if_pos h1,if_pos (qf.2 (by omega))]
  rw[if_neg h1,if_neg (fun h2=>h1 (by have:=qf.1 h2;omega))]
 by_cases h1:a.fr<=(j:Int)
 ·exact .inl (h.2 i a ha j h1)
 exact .inr (zcO (by omega))
theorem zkW {α:Type} (f:Nat->α) (k:Nat) (x y:α):upd (upd f k x) k y=upd f k y:=by
 funext j
 unfold upd
 by_cases e:j=k
 ·rw[if_pos e,if_pos e]
 rw[if_neg e,if_neg e,if_neg e]
theorem jL (v:Value) (l:List Ar) (w:World) (hv:zr arE w v l) (hok:zlz l):
  Calls prog 41 #[v] w fun e w'=>e= .returned (.agg (zz (tab (zI l))).toArray)/\zc w w':=by
 have hbig:=hv.short;obtain⟨a,c,rfl,hrow⟩:=hv.ars;have HR:Hid (zcS w a l):=hrow;have HOK:Hid (zlz l):=hok;clear hrow hv hok;have hz:=zaR;obtain⟨Z0,HZ0⟩:∃Z0,Hid (zz (tab fun _=>on0)=Z0):=⟨_,rfl⟩
 rw[HZ0.out]at hz;have HZL:Hid (Z0.length=384):=dD<|by rw[<-HZ0.out,js]
 obtain⟨C,HC⟩:∃C,Hid (zz (tab (zI l))=C):=⟨_,rfl⟩;rw[HC.out];obtain⟨n,HN⟩:∃n,Hid (l.length=n):=⟨_,rfl⟩;rw[HN.out]at hbig⊢;obtain⟨W0,hW0⟩:∃W0,(w.alloc (.cells Z0.toArray 97)).alloc (.cells Z0.toArray 97)=W0:=⟨_,rfl⟩;have HG0:=gD2 hW0
 have Y0:Hid (Box W0 w.heap.size Z0):=dD<|by rw[<-hW0];exact(Box.top _ _ _ (by simp)).alloc _
 have L0:Hid (Box W0 (w.heap.size+1) (zz (tab (zI (l.take 0))))):=dD<|by rw[<-hW0,List.take_zero,show zI ([]:List Ar)=fun _=>on0 from rfl,HZ0.out];exact Box.top _ _ _ (by simp)
 have HW0:Hid (_=W0):=hW0;clear hW0
 go_enter func41,ntmps41
 go_upto_region 2 with fail;rw[HW0.out];clear hz;go_wp2
 go_loopg [9] n (fun gg s9 wr=>∃kk:Nat,kk<=n/\n - kk<=gg/\s9=I6 kk/\Hid (zc w wr)/\Hid (Box wr w.heap.size Z0)/\Hid (Box wr (w.heap.size+1) (zz (tab (zI (l.take kk))))))
 case atStart=>exact⟨0,nZ _,by omega,rfl,HG0,Y0,L0⟩
 obtain⟨kk,hkk,hg,rfl,BW,YW,LW⟩:=hrel
 by_cases hlt:kk<n
 ·have hltz:(kk:Int)< (n:Int):=by omega
  obtain⟨q,HQ⟩:∃q,Hid (l[kk]? =some q):=⟨_,gE (by rw[HN.out];exact hlt)⟩
  obtain⟨ad,rfl,hl⟩:=HR.out kk q HQ.out;obtain⟨d0,d1,d2,d3,d4,d5,d6⟩:=hl wr BW.out;have HQK:Hid (jz q):=HOK.1 q (mG HQ);have hqb:0<=q.fr/\q.fr<q.tz/\q.tz<=64/\0<=q.base/\q.base<=12:=by
   have:=HQK.out;unfold jz at this
   rcases Int.lt_or_le q.file 0 with h|h
   ·omega
   omega
  obtain⟨hq1,hq2,hq3,hq4,hq5⟩:=hqb;obtain⟨p,HP⟩:∃p,Hid (wr.heap.size=p):=⟨_,rfl⟩;have HLP:Hid (w.heap.size+1<p):=dD<|by rw[<-HP.out];exact LW.lt
  clear hl;go_upto_region 5 with fail;obtain⟨W1,hW1⟩:∃W1,wr.alloc (.cells #[I6 q.fr,I6 q.tz,.bool q.rd,.bool q.wr,.bool q.sh,I6 q.file,I6 q.base] 69)=W1:=⟨_,rfl⟩;have G1:=gT hW1 BW
  have Y1:=yA hW1 YW
  obtain⟨f0,hf0⟩:∃f0:Nat,(f0:Int)=q.fr:=⟨q.fr.toNat,by omega⟩
  have L1:Hid (Box W1 (w.heap.size+1) (zz (tab (zg0 l kk q f0)))):=dD<|by rw[<-hW1,ziv hf0];exact LW.alloc _
  have P1:=xP hW1 HP
  rw[hW1,HP.out];clear hW1 d0 d1 d2 d3 d4 d5 d6;have p0:=P1.c 0 rfl;go_wp2
  go_loopg [6] (q.tz.toNat - f0) (fun g2 s6 wr2=>∃k2:Nat,f0<=k2/\(k2:Int)<=q.tz/\q.tz.toNat - k2<=g2/\s6=I6 k2/\Hid (zc w wr2)/\Hid (Box wr2 w.heap.size Z0)/\Hid (Box wr2 (w.heap.size+1) (zz (tab (zg0 l kk q k2))))/\Hid (Box wr2 p [I6 q.fr,I6 q.tz,.bool q.rd,.bool q.wr,.bool q.sh,I6 q.file,I6 q.base]))
  case atStart=>exact⟨f0,nR _,by omega,by omega,by rw[hf0],G1,Y1,L1,P1⟩
  obtain⟨k2,hk2,hk2',hg2,rfl,BW2,YW2,LW2,PW2⟩:=hrel;clear p0;have p1:=PW2.c 1 rfl
  by_cases hlt2:(k2:Int)<q.tz
  ·have hi64:k2<64:=by omega
   have hi64z:(k2:Int)<64:=by omega
   have HST:Hid (upd (zg0 l kk q k2) k2 (qL q k2)=zg0 l kk q (k2+1)):=ziw (l:=l) (i:=kk) (a:=q) (n:=k2) (by omega)
   have p2:=PW2.c 2 rfl;have p3:=PW2.c 3 rfl;have p4:=PW2.c 4 rfl;have p5:=PW2.c 5 rfl
   go_wp2_with (refine zdd rfl (.tmp 31) (.tmp 30) rfl (w.heap.size+1) k2 hi64 rfl ⟨true,q.rd,q.wr,q.sh,q.file,0⟩ rfl LW2.out ?_)
   intro W3 b3 g3 s3;have L3:Hid (Box W3 (w.heap.size+1) (zz (tab (upd (zg0 l kk q k2) k2 ⟨true,q.rd,q.wr,q.sh,q.file,0⟩)))):=b3;have G3:Hid (zc w W3):=zd BW2 g3 (by simp)
   have Y3:Hid (Box W3 w.heap.size Z0):=YW2.beside g3 (by intro g hg;cases hg;simp)
   have P3:Hid (Box W3 p [I6 q.fr,I6 q.tz,.bool q.rd,.bool q.wr,.bool q.sh,I6 q.file,I6 q.base]):=PW2.beside g3 (by intro g hg;cases hg;have:=HLP.out;omega)
   clear b3 g3 s3 p1 p2 p3 p4 p5;have p5:=P3.c 5 rfl
   by_cases hfile:0<=q.file
   ·have HONE:Hid (qL q k2=⟨true,q.rd,q.wr,q.sh,q.file,q.base+(k2:Int) - q.fr⟩):=dD<|by
     unfold qL;rw[if_pos hfile]
     congr 1
     omega
    have p0:=P3.c 0 rfl;have p6:=P3.c 6 rfl;have l5:=L3.c (k2*6+5) (Zn (Jr hi64) 5 (I6 0) (by unfold upd;rw[if_pos rfl];rfl))
    have lf:=L3.f;go_upto_region 7 with fail;obtain⟨W4,hW4⟩:∃W4,W3.setCell ⟨w.heap.size+1,k2*6+5,none⟩ (I6 (q.base+(k2:Int) - q.fr))=W4:=⟨_,rfl⟩;have L4:Hid (Box W4 (w.heap.size+1) (zz (tab (zg0 l kk q (k2+1))))):=dD<|by
     rw[<-hW4];have:=L3.onCell hi64 5 (I6 (q.base+(k2:Int) - q.fr)) (qL q k2) (by rw[HONE.out];unfold upd;rw[if_pos rfl];rfl) (by omega)
     rw[zkW,HST.out]at this;exact this
    have G4:Hid (zc w W4):=dD<|by rw[<-hW4];exact zu G3 (by simp) _
    have Y4:Hid (Box W4 w.heap.size Z0):=dD<|by rw[<-hW4];exact Y3.other (by simp) _
    have P4:Hid (Box W4 p [I6 q.fr,I6 q.tz,.bool q.rd,.bool q.wr,.bool q.sh,I6 q.file,I6 q.base]):=dD<|by rw[<-hW4];exact P3.other (by have:=HLP.out;simp;omega) _
    rw[hW4];clear hW4 l5 lf p0 p5 p6;go_wp2
    go_roundg (q.tz.toNat -(k2+1))
    case measure=>omega
    exact⟨k2+1,by omega,by omega,by omega,by go_num,G4,Y4,L4,P4⟩
   have HONE:Hid (qL q k2=⟨true,q.rd,q.wr,q.sh,q.file,0⟩):=dD<|by
    unfold qL;rw[if_neg hfile]
   have L4:Hid (Box W3 (w.heap.size+1) (zz (tab (zg0 l kk q (k2+1))))):=dD<|by rw[<-HST.out,HONE.out];exact L3.out
   go_wp2
   go_roundg (q.tz.toNat -(k2+1))
   case measure=>omega
   exact⟨k2+1,by omega,by omega,by omega,by go_num,G3,Y3,L4,P3⟩
  have hke:(k2:Int)=q.tz:=by omega
  have LE:Hid (Box wr (w.heap.size+1) (zz (tab (zI (l.take (kk+1)))))):=dD<|by rw[<-zjW HOK.out HQ.out hke];exact LW2.out
  go_wp2
  go_roundg (n -(kk+1))
  case measure=>omega
  exact⟨kk+1,by omega,by omega,by go_num,BW2,YW2,LE⟩
 have hltz:¬(kk:Int)< (n:Int):=by omega
 have:kk=n:=by omega
 subst this;have LE:Hid (Box wr (w.heap.size+1) C):=dD<|by rw[<-HC.out];have:=LW.out;rw[<-HN.out,List.take_length]at this;exact this
 have HFL:Hid (C.length=384):=dD<|by rw[<-HC.out,js]
 have HFO:Hid (∀v∈C,v.oneCell'=true):=dD<|by rw[<-HC.out];exact QX _
 go_wp2_with (first | refine zR rfl 97 (.tmp 3) rfl (w.heap.size+1) rfl LE underlying97 rfl (by rw[HFL.out];exact zmD) ?_ | refine zw rfl 97 (.tmp 2) (.tmp 46) rfl w.heap.size rfl C rfl YW (by rw[HFL.out,HZL.out]) (by rw[HZL.out];exact zmD) HFO.out ?_)
 intro W3 b3 g3 s3;have G3:Hid (zc w W3):=dD<|zd BW g3 (by simp)
 have B3:Hid (Box W3 w.heap.size C):=b3;clear b3 g3 s3;go_wp2;refine bodyPost_ret (qd rfl _ rfl B3 underlying97 rfl (by rw[HFL.out];exact zmD)) rfl ⟨rfl,G3⟩
theorem zjO {f:Nat->On} {k:Nat} (h:(f k).is=true):zlN f k=⟨k,(k:Int)+1,(f k).rd,(f k).wr,(f k).sh,(f k).file,(f k).page⟩:=by
 unfold zlN zai;rw[if_pos h]
theorem zlS (x y:On):zjS ⟨y.is,y.rd,y.wr,y.sh,y.file,if 0<=x.file then y.page+1 else y.page⟩ x=goJ x y:=by
 unfold zjS goJ;have hd:∀x y:Int,(x == y)=decide (x=y):=fun x y=>rfl
 simp only[hd]
theorem zby (f:Nat->On) (w:World) (hg:zfX f):
  Calls prog 145 #[.agg (zz (tab f)).toArray] w fun e w'=>(∃v,e= .returned v/\zb arE (w.heap.size+1) w' v (Zh f))/\zc w w':=by
 have HGD:Hid (zfX f):=hg;clear hg;have HCL:Hid ((zz (tab f)).length=384):=js _;obtain⟨W0,hW0⟩:∃W0,w.alloc (.cells (zz (tab f)).toArray 97)=W0:=⟨_,rfl⟩;have HG0:=gA hW0
 have X0:=xA hW0
 have HS0:=sA hW0
 have HW0:Hid (_=W0):=hW0;clear hW0
 go_enter func145,ntmps145
 go_upto_region 1 with fail;rw[HW0.out]
 go_wp2_with (refine zR rfl 97 (.tmp 1) rfl w.heap.size rfl X0 underlying97 rfl (by rw[HCL.out];exact zmD) ?_)
 go_loopg [3,9] 64 (fun gg s3 s9 wr=>∃(kk:Nat) (acc:List Ar) (xa:Option Addr) (xc:Nat),kk<=64/\64 - kk<=gg/\s9=I6 kk/\s3= .slice xa acc.length xc/\Hid (zc W0 wr)/\Hid (zb arE (w.heap.size+1) wr (.slice xa acc.length xc) acc)/\Hid (J f kk acc))
 case atStart=>exact⟨0,[],none,0,nZ _,by omega,rfl,rfl,zc.refl _,zb.nil _ _ _,J.zero f⟩
 obtain⟨kk,acc,xa,xc,hkk,hgg,rfl,rfl,BW,OW,JW⟩:=hrel
 by_cases hlt:kk<64
 ·have hltz:(kk:Int)<64:=by omega
  have HLEN:Hid (acc.length<=kk):=JW.len;have XW:=dD (X0.grew BW);obtain⟨p,HP⟩:∃p,Hid (wr.heap.size=p):=⟨_,rfl⟩;have HPW:Hid (wr.heap.size<=p):=show _<=_ by rw[HP.out];exact nR _
  cases hs:(f kk).is with
  | false=>
   have HIV:Hid (Value.agg (onv (f kk)).toArray= .agg #[.bool false,.bool (f kk).rd,.bool (f kk).wr,.bool (f kk).sh,I6 (f kk).file,I6 (f kk).page]):=dD<|by rw[<-hs];rfl
   have J2:Hid (J f (kk+1) acc):=JW.skip ((HGD kk hlt).1 hs);clear hs
   go_wp2_with (refine zbT rfl (.tmp 8) (.tmp 9) rfl f rfl kk rfl hlt HIV.out ?_)
   go_roundg (64 -(kk+1))
   case measure=>omega
   exact⟨kk+1,acc,xa,xc,by omega,by omega,by go_num,rfl,BW.trans (za _ _),OW.grew (za _ _),J2⟩
  | true=>
   have HS:Hid ((f kk).is=true):=hs;have HPF:Hid (zai kk (f kk)=⟨kk,(kk:Int)+1,(f kk).rd,(f kk).wr,(f kk).sh,(f kk).file,(f kk).page⟩):=zjO hs;have HNEW:Hid ((∀b,acc.getLast? =some b->goB (zai kk (f kk)) b=false)->J f (kk+1) (acc++ [zai kk (f kk)])):=fun h=>JW.new HGD hlt HS h
   have HEXT:Hid (∀i b,acc=i++ [b]->goB (zai kk (f kk)) b=true->J f (kk+1) (i++ [{ b with tz:=(kk:Int)+1 }])):=fun i b h1 h2=>by
    have:=JW.out;rw[h1]at this;exact this.ext HGD hlt HS h2
   have HIV:Hid (Value.agg (onv (f kk)).toArray= .agg #[.bool true,.bool (f kk).rd,.bool (f kk).wr,.bool (f kk).sh,I6 (f kk).file,I6 (f kk).page]):=dD<|by rw[<-hs];rfl
   clear hs;obtain⟨x,HX⟩:∃x,Hid (f kk=x):=⟨_,rfl⟩;rw[HX.out]at HIV;have HIV2:Hid (Value.agg (onv (f kk)).toArray= .agg #[.bool true,.bool x.rd,.bool x.wr,.bool x.sh,I6 x.file,I6 x.page]):=dD<|by rw[HX.out];exact HIV.out
   go_upto_region 5 with(refine zbT rfl (.tmp 8) (.tmp 9) rfl f rfl kk rfl hlt HIV2.out ?_)
   obtain⟨W1,hW1⟩:∃W1,wr.alloc (.cells #[.bool true,.bool x.rd,.bool x.wr,.bool x.sh,I6 x.file,I6 x.page] 96)=W1:=⟨_,rfl⟩;have G1:=gT hW1 BW
   have O1:Hid (zb arE (w.heap.size+1) W1 (.slice xa acc.length xc) acc):=dD<|by rw[<-hW1];exact OW.grew (za _ _)
   have P1:=xP hW1 HP
   have X1:=yA hW1 XW
   rw[hW1,HP.out];clear hW1;have p0:=P1.c 0 rfl
   cases kk with
   | zero=>
    have HNIL:Hid (acc=[]):=JW.first;have J2:Hid (J f (0+1) (acc++ [⟨((0:Nat):Int),((0:Nat):Int)+1,x.rd,x.wr,x.sh,x.file,x.page⟩])):=show J _ _ _ by
     have:=HNEW.out (fun b hb=>by rw[HNIL.out]at hb;cases hb)
     rw[HPF.out,HX.out]at this;exact this
    go_upto_region 14 with fail;clear p0;have HSZ:Hid (w.heap.size+1<=W1.heap.size):=dD<|by rw[<-HS0.out];exact bS G1.out
    have p1:=P1.c 1 rfl;have p2:=P1.c 2 rfl;have p3:=P1.c 3 rfl;have p4:=P1.c 4 rfl;have p5:=P1.c 5 rfl
    go_wp2_with (at_builtin;refine zD (E:=arE) rfl (.tmp 41) (.tmp 56) rfl (w.heap.size+1) _ acc rfl (O1.grew (za _ _)) _ [⟨((0:Nat):Int),((0:Nat):Int)+1,x.rd,x.wr,x.sh,x.file,x.page⟩] rfl (Za arE W1 ⟨((0:Nat):Int),((0:Nat):Int)+1,x.rd,x.wr,x.sh,x.file,x.page⟩ _ _ rfl (by show 40<=_;omega)) ?qb ?qc ?_)
    case qb=>
     show(acc.length+1)*40<=_
     have:=HLEN.out;omega
    case qc=>first | exact HSZ.out | exact nT HSZ (Nat.le_succ _) | (have:=HSZ.out;omega) | (simp;have:=HSZ.out;omega)
    intro vn Wn own grn;obtain⟨xan,xcn,rfl⟩:=own.form;have On':Hid (zb arE (w.heap.size+1) Wn (.slice xan (acc++ [(⟨((0:Nat):Int),((0:Nat):Int)+1,x.rd,x.wr,x.sh,x.file,x.page⟩:Ar)]).length xcn) (acc++ [⟨((0:Nat):Int),((0:Nat):Int)+1,x.rd,x.wr,x.sh,x.file,x.page⟩])):=own;have Gn:Hid (zc W0 Wn):=show zc _ _ from qp (G1.trans (za _ _)) grn (fun g hg=>by
     have h1:=(O1.lt g hg).1;rw[HS0.out];exact h1)
    have Xn:=dD (X0.grew Gn);clear own grn p1 p2 p3 p4 p5;go_wp2
    go_roundg (64 -(0+1))
    case measure=>omega
    exact⟨0+1,acc++ [(⟨((0:Nat):Int),((0:Nat):Int)+1,x.rd,x.wr,x.sh,x.file,x.page⟩:Ar)],xan,xcn,by omega,by omega,by go_num,rfl,Gn,On',J2⟩
   | succ j=>
    have hj64:j<64:=by omega
    have hj64z:(j:Int)<64:=by omega
    have hjz:(0:Int)< ((j+1:Nat):Int):=by omega
    have hj1:((j+1:Nat):Int) - 1=(j:Int):=by omega
    have HGO:=JW.go HS.out;obtain⟨y,HY⟩:∃y,Hid (f j=y):=⟨_,rfl⟩;have hyp:0<=y.page/\y.page<=12:=by
     rw[<-HY.out];have h1:=HGD.out j hj64
     cases hq:(f j).is with
     | false=>rw[h1.1 hq];exact⟨by decide,by decide⟩
     | true=>
      have h2:=h1.2 hq;unfold jz zai at h2;rw[if_pos hq]at h2;simp only at h2
      rcases Int.lt_or_le (f j).file 0 with h|h
      ·omega
      omega
    obtain⟨hy0,hy1⟩:=hyp;have HYV:Hid (Value.agg (onv (f j)).toArray= .agg #[.bool y.is,.bool y.rd,.bool y.wr,.bool y.sh,I6 y.file,I6 y.page]):=dD<|by rw[HY.out];rfl
    have HGJ:=zlS x y;rw[HX.out,HY.out]at HGO;have HGO':Hid _:=HGO;obtain⟨p7,HP7⟩:∃p7,Hid (W1.heap.size=p7):=⟨_,rfl⟩;have HPP:Hid (p<p7):=dD<|by rw[<-HP7.out];exact P1.lt
    go_upto_region 9 with(refine zde rfl (.tmp 20) rfl w.heap.size j hj64 rfl X1 HYV.out ?_)
    clear p0;obtain⟨W2,hW2⟩:∃W2,W1.alloc (.cells #[.bool y.is,.bool y.rd,.bool y.wr,.bool y.sh,I6 y.file,I6 y.page] 96)=W2:=⟨_,rfl⟩;have G2:=gT hW2 G1
    have O2:Hid (zb arE (w.heap.size+1) W2 (.slice xa acc.length xc) acc):=dD<|by rw[<-hW2];exact O1.grew (za _ _)
    have P2:=yA hW2 P1
    have Y2:=xPT hW2 HP7
    rw[hW2,HP7.out];clear hW2;have p4:=P2.c 4 rfl
    by_cases hfile:0<=x.file
    ·rw[if_pos hfile]at HGJ;have HQ:=fun W=>zlO y.is true y.rd x.rd y.wr x.wr y.sh x.sh y.file x.file (y.page+1) x.page W
     have HXT:Hid ((⟨true,x.rd,x.wr,x.sh,x.file,x.page⟩:On)=x):=dD<|by
      have h:=HS.out;rw[HX.out]at h;rw[<-h]
     rw[HXT.out,HGJ]at HQ;obtain⟨R,HR⟩:∃R,Hid (goJ x y=R):=⟨_,rfl⟩;rw[HR.out]at HQ HGO';have y5:=Y2.box.c 5 rfl;have yf:=Y2.box.f;go_upto_region 11 with fail;obtain⟨W3,hW3⟩:∃W3,W2.setCell ⟨p7,5,none⟩ (I6 (y.page+1))=W3:=⟨_,rfl⟩;have HW0P:Hid (W0.heap.size<=p7):=dD<|by have h1:=HPP.out;have h2:=bS BW.out;have h3:=HPW.out;omega
     have G3:Hid (zc W0 W3):=dD<|by rw[<-hW3];exact zu G2 HW0P.out _
     have O3:Hid (zb arE (w.heap.size+1) W3 (.slice xa acc.length xc) acc):=dD<|by rw[<-hW3];exact O2.setOther (fun g hg=>O2.ne Y2 (by decide) g hg) _
     have P3:Hid (Box W3 p [.bool true,.bool x.rd,.bool x.wr,.bool x.sh,I6 x.file,I6 x.page]):=dD<|by rw[<-hW3];exact P2.other (by have:=HPP.out;simp;omega) _
     have Y3:Hid (Box W3 p7 [.bool y.is,.bool y.rd,.bool y.wr,.bool y.sh,I6 y.file,I6 (y.page+1)]):=dD<|by rw[<-hW3];exact Y2.box.set 5 _
     rw[hW3];clear hW3 y5 yf p4
     cases R with
     | true=>
      obtain⟨b,hlast,hgb⟩:=HGO'.1 rfl;have hacc:=zf8 hlast;obtain⟨ini,hini⟩:∃ini,acc.dropLast=ini:=⟨_,rfl⟩;rw[hini]at hacc;have HACC:Hid (acc=ini++ [b]):=hacc;have J2:Hid (J f (j+1+1) (ini++ [{ b with tz:=((j+1:Nat):Int)+1 }])):=HEXT.out ini b hacc (by rw[HX.out];exact hgb)
      obtain⟨m,HM⟩:∃m,Hid (ini.length=m):=⟨_,rfl⟩;have HAL:Hid (acc.length=m+1):=dD<|by rw[HACC.out,<-HM.out];simp
      have HBI:Hid (acc[m]? =some b):=dD<|by rw[HACC.out,<-HM.out];simp
      obtain⟨g,xc',hxe⟩:=O3.formS (by rw[HAL.out];omega)
      cases hxe;have hmm:((m+1:Nat):Int) - 1=(m:Int):=by omega
      have hm0:(0:Int)<=(m:Int):=by omega
      have hmlt:(m:Int)< ((m+1:Nat):Int):=by omega
      have hmk:m+1<=64:=by have:=HLEN.out;rw[HAL.out]at this;omega
      clear hlast hgb hacc hini;rw[HAL.out]at O3⊢;have HSET:Hid (acc.set m { b with tz:=((j+1:Nat):Int)+1 }=ini++ [{ b with tz:=((j+1:Nat):Int)+1 }]):=dD<|by rw[HACC.out,List.set_append_right _ _ (by rw[HM.out];exact nR _),HM,Nat.sub_self];rfl
      go_wp2_with (first | refine zR rfl 96 (.tmp 7) rfl p7 rfl Y3 underlying96 rfl zmC ?_ | refine zR rfl 96 (.tmp 5) rfl p rfl P3 underlying96 rfl zmC ?_ | refine zC (E:=arE) rfl (.tmp 40) (.tmp 38) 3 rfl (w.heap.size+1) (.slice (some ⟨g,0,none⟩) (m+1) xc) acc O3 g m 1 rfl b { b with tz:=((j+1:Nat):Int)+1 } HBI.out [I6 (((j+1:Nat):Int)+1)] (by kernel_rfl) rfl (Nat.le_of_ble_eq_true rfl) (by intro u hu;simp at hu;subst hu;rfl) _ rfl (by simp;rfl) _ rfl rfl ?_)
      intro W4 ow4 gr4 sz4;have HBG:=O3.lt g rfl;have G4:Hid (zc W0 W4):=dD<|zd G3 gr4 (by rw[HS0.out];exact HBG.1)
      have HL4:Hid ((ini++ [({ b with tz:=((j+1:Nat):Int)+1 }:Ar)]).length=m+1):=dD<|by simp[HM.out]
      have O4:Hid (zb arE (w.heap.size+1) W4 (.slice (some ⟨g,0,none⟩) (ini++ [({ b with tz:=((j+1:Nat):Int)+1 }:Ar)]).length xc) (ini++ [{ b with tz:=((j+1:Nat):Int)+1 }])):=dD<|by rw[HL4.out,<-HSET.out];exact ow4
      clear ow4 gr4 sz4;rw[<-HL4.out];go_wp2
      go_roundg (64 -(j+1+1))
      case measure=>omega
      exact⟨j+1+1,ini++ [({ b with tz:=((j+1:Nat):Int)+1 }:Ar)],some ⟨g,0,none⟩,xc,by omega,by omega,by go_num,rfl,G4,O4,J2⟩
     | false=>
      have J2:Hid (J f (j+1+1) (acc++ [⟨((j+1:Nat)),(((j+1:Nat)):Int)+1,x.rd,x.wr,x.sh,x.file,x.page⟩])):=dD<|by
       have:=HNEW.out (fun b hb=>by rw[HX.out];exact HGO'.2 rfl b hb)
       rw[HPF.out,HX.out]at this;exact this
      go_upto_region 14 with(first | refine zR rfl 96 (.tmp 7) rfl p7 rfl Y3 underlying96 rfl zmC ?_ | refine zR rfl 96 (.tmp 5) rfl p rfl P3 underlying96 rfl zmC ?_)
      have HSZ:Hid (w.heap.size+1<=W3.heap.size):=dD<|by rw[<-HS0.out];exact bS G3.out
      have p1:=P3.c 1 rfl;have p2:=P3.c 2 rfl;have p3:=P3.c 3 rfl;have p4:=P3.c 4 rfl;have p5:=P3.c 5 rfl
      go_wp2_with (at_builtin;refine zD (E:=arE) rfl (.tmp 41) (.tmp 56) rfl (w.heap.size+1) _ acc rfl (O3.grew (za _ _)) _ [⟨((j+1:Nat):Int),((j+1:Nat):Int)+1,x.rd,x.wr,x.sh,x.file,x.page⟩] rfl (Za arE W3 ⟨((j+1:Nat):Int),((j+1:Nat):Int)+1,x.rd,x.wr,x.sh,x.file,x.page⟩ _ _ rfl (by show 40<=_;omega)) ?qb ?qc ?_)
      case qb=>
       show(acc.length+1)*40<=_
       have:=HLEN.out;omega
      case qc=>first | exact HSZ.out | exact nT HSZ (Nat.le_succ _) | (have:=HSZ.out;omega) | (simp;have:=HSZ.out;omega)
      intro vn Wn own grn;obtain⟨xan,xcn,rfl⟩:=own.form;have On':Hid (zb arE (w.heap.size+1) Wn (.slice xan (acc++ [(⟨((j+1:Nat):Int),((j+1:Nat):Int)+1,x.rd,x.wr,x.sh,x.file,x.page⟩:Ar)]).length xcn) (acc++ [⟨((j+1:Nat):Int),((j+1:Nat):Int)+1,x.rd,x.wr,x.sh,x.file,x.page⟩])):=own;have Gn:Hid (zc W0 Wn):=show zc _ _ from qp (G3.trans (za _ _)) grn (fun g hg=>by
       have h1:=(O3.lt g hg).1;rw[HS0.out];exact h1)
      have Xn:=dD (X0.grew Gn);clear own grn p1 p2 p3 p4 p5;go_wp2
      go_roundg (64 -((j+1)+1))
      case measure=>omega
      exact⟨(j+1)+1,acc++ [(⟨((j+1:Nat):Int),((j+1:Nat):Int)+1,x.rd,x.wr,x.sh,x.file,x.page⟩:Ar)],xan,xcn,by omega,by omega,by go_num,rfl,Gn,On',J2⟩
    rw[if_neg hfile]at HGJ;have HQ:=fun W=>zlO y.is true y.rd x.rd y.wr x.wr y.sh x.sh y.file x.file y.page x.page W
    have HXT:Hid ((⟨true,x.rd,x.wr,x.sh,x.file,x.page⟩:On)=x):=dD<|by
     have h:=HS.out;rw[HX.out]at h;rw[<-h]
    rw[HXT.out,HGJ]at HQ;obtain⟨R,HR⟩:∃R,Hid (goJ x y=R):=⟨_,rfl⟩;rw[HR.out]at HQ HGO';go_upto_region 11 with fail;clear p4;have G3:Hid (zc W0 W2):=G2;have O3:Hid (zb arE (w.heap.size+1) W2 (.slice xa acc.length xc) acc):=O2;have P3:Hid (Box W2 p [.bool true,.bool x.rd,.bool x.wr,.bool x.sh,I6 x.file,I6 x.page]):=P2;have Y3:Hid (Box W2 p7 [.bool y.is,.bool y.rd,.bool y.wr,.bool y.sh,I6 y.file,I6 y.page]):=Y2.box;obtain⟨W3,hW3⟩:∃W3,W2=W3:=⟨_,rfl⟩;rw[hW3]at G3 O3 P3 Y3⊢;clear hW3
    cases R with
    | true=>
     obtain⟨b,hlast,hgb⟩:=HGO'.1 rfl;have hacc:=zf8 hlast;obtain⟨ini,hini⟩:∃ini,acc.dropLast=ini:=⟨_,rfl⟩;rw[hini]at hacc;have HACC:Hid (acc=ini++ [b]):=hacc;have J2:Hid (J f (j+1+1) (ini++ [{ b with tz:=((j+1:Nat):Int)+1 }])):=HEXT.out ini b hacc (by rw[HX.out];exact hgb)
     obtain⟨m,HM⟩:∃m,Hid (ini.length=m):=⟨_,rfl⟩;have HAL:Hid (acc.length=m+1):=dD<|by rw[HACC.out,<-HM.out];simp
     have HBI:Hid (acc[m]? =some b):=dD<|by rw[HACC.out,<-HM.out];simp
     obtain⟨g,xc',hxe⟩:=O3.formS (by rw[HAL.out];omega)
     cases hxe;have hmm:((m+1:Nat):Int) - 1=(m:Int):=by omega
     have hm0:(0:Int)<=(m:Int):=by omega
     have hmlt:(m:Int)< ((m+1:Nat):Int):=by omega
     have hmk:m+1<=64:=by have:=HLEN.out;rw[HAL.out]at this;omega
     clear hlast hgb hacc hini;rw[HAL.out]at O3⊢;have HSET:Hid (acc.set m { b with tz:=((j+1:Nat):Int)+1 }=ini++ [{ b with tz:=((j+1:Nat):Int)+1 }]):=dD<|by rw[HACC.out,List.set_append_right _ _ (by rw[HM.out];exact nR _),HM,Nat.sub_self];rfl
     go_wp2_with (first | refine zR rfl 96 (.tmp 7) rfl p7 rfl Y3 underlying96 rfl zmC ?_ | refine zR rfl 96 (.tmp 5) rfl p rfl P3 underlying96 rfl zmC ?_ | refine zC (E:=arE) rfl (.tmp 40) (.tmp 38) 3 rfl (w.heap.size+1) (.slice (some ⟨g,0,none⟩) (m+1) xc) acc O3 g m 1 rfl b { b with tz:=((j+1:Nat):Int)+1 } HBI.out [I6 (((j+1:Nat):Int)+1)] (by kernel_rfl) rfl (Nat.le_of_ble_eq_true rfl) (by intro u hu;simp at hu;subst hu;rfl) _ rfl (by simp;rfl) _ rfl rfl ?_)
     intro W4 ow4 gr4 sz4;have HBG:=O3.lt g rfl;have G4:Hid (zc W0 W4):=dD<|zd G3 gr4 (by rw[HS0.out];exact HBG.1)
     have HL4:Hid ((ini++ [({ b with tz:=((j+1:Nat):Int)+1 }:Ar)]).length=m+1):=dD<|by simp[HM.out]
     have O4:Hid (zb arE (w.heap.size+1) W4 (.slice (some ⟨g,0,none⟩) (ini++ [({ b with tz:=((j+1:Nat):Int)+1 }:Ar)]).length xc) (ini++ [{ b with tz:=((j+1:Nat):Int)+1 }])):=dD<|by rw[HL4.out,<-HSET.out];exact ow4
     clear ow4 gr4 sz4;rw[<-HL4.out];go_wp2
     go_roundg (64 -(j+1+1))
     case measure=>omega
     exact⟨j+1+1,ini++ [({ b with tz:=((j+1:Nat):Int)+1 }:Ar)],some ⟨g,0,none⟩,xc,by omega,by omega,by go_num,rfl,G4,O4,J2⟩
    | false=>
     have J2:Hid (J f (j+1+1) (acc++ [⟨((j+1:Nat)),(((j+1:Nat)):Int)+1,x.rd,x.wr,x.sh,x.file,x.page⟩])):=dD<|by
      have:=HNEW.out (fun b hb=>by rw[HX.out];exact HGO'.2 rfl b hb)
      rw[HPF.out,HX.out]at this;exact this
     go_upto_region 14 with(first | refine zR rfl 96 (.tmp 7) rfl p7 rfl Y3 underlying96 rfl zmC ?_ | refine zR rfl 96 (.tmp 5) rfl p rfl P3 underlying96 rfl zmC ?_)
     have HSZ:Hid (w.heap.size+1<=W3.heap.size):=dD<|by rw[<-HS0.out];exact bS G3.out
     have p1:=P3.c 1 rfl;have p2:=P3.c 2 rfl;have p3:=P3.c 3 rfl;have p4:=P3.c 4 rfl;have p5:=P3.c 5 rfl
     go_wp2_with (at_builtin;refine zD (E:=arE) rfl (.tmp 41) (.tmp 56) rfl (w.heap.size+1) _ acc rfl (O3.grew (za _ _)) _ [⟨((j+1:Nat):Int),((j+1:Nat):Int)+1,x.rd,x.wr,x.sh,x.file,x.page⟩] rfl (Za arE W3 ⟨((j+1:Nat):Int),((j+1:Nat):Int)+1,x.rd,x.wr,x.sh,x.file,x.page⟩ _ _ rfl (by show 40<=_;omega)) ?qb ?qc ?_)
     case qb=>
      show(acc.length+1)*40<=_
      have:=HLEN.out;omega
     case qc=>first | exact HSZ.out | exact nT HSZ (Nat.le_succ _) | (have:=HSZ.out;omega) | (simp;have:=HSZ.out;omega)
     intro vn Wn own grn;obtain⟨xan,xcn,rfl⟩:=own.form;have On':Hid (zb arE (w.heap.size+1) Wn (.slice xan (acc++ [(⟨((j+1:Nat):Int),((j+1:Nat):Int)+1,x.rd,x.wr,x.sh,x.file,x.page⟩:Ar)]).length xcn) (acc++ [⟨((j+1:Nat):Int),((j+1:Nat):Int)+1,x.rd,x.wr,x.sh,x.file,x.page⟩])):=own;have Gn:Hid (zc W0 Wn):=show zc _ _ from qp (G3.trans (za _ _)) grn (fun g hg=>by
      have h1:=(O3.lt g hg).1;rw[HS0.out];exact h1)
     have Xn:=dD (X0.grew Gn);clear own grn p1 p2 p3 p4 p5;go_wp2
     go_roundg (64 -((j+1)+1))
     case measure=>omega
     exact⟨(j+1)+1,acc++ [(⟨((j+1:Nat):Int),((j+1:Nat):Int)+1,x.rd,x.wr,x.sh,x.file,x.page⟩:Ar)],xan,xcn,by omega,by omega,by go_num,rfl,Gn,On',J2⟩
 have hltz:¬(kk:Int)<64:=by omega
 have:kk=64:=by omega
 subst this;have HE:Hid (acc=Zh f):=JW.all HGD.out;have OE:Hid (zb arE (w.heap.size+1) wr (.slice xa acc.length xc) (Zh f)):=show zb _ _ _ _ _ by rw[<-HE.out];exact OW.out
 have GE:=dD (HG0.trans BW);go_wp2;go_ret;exact⟨⟨_,rfl,OE⟩,GE⟩
theorem zhC (f:Nat->On) (w:World) (hg:zfX f):
  Calls prog 126 #[.agg (zz (tab f)).toArray] w fun e w'=>(∃u,e= .returned (.tuple #[u,I6 (zfU f).2])/\zb arE w.heap.size w' u (zfU f).1)/\zc w w':=by
 have HA:Hid (∀W,Calls prog 145 #[.agg (zz (tab f)).toArray] W fun e w'=>(∃v,e= .returned v/\zb arE (W.heap.size+1) w' v (Zh f))/\zc W w'):=fun W=>zby f W hg
 have HFW:Hid (¬16< (Zh f).length->zfU f=(Zh f,0)):=fun h=>by unfold zfU;rw[if_neg h]
 have HFM:Hid (16< (Zh f).length->zfU f=([],4)):=fun h=>by unfold zfU;rw[if_pos h]
 have HJS:Hid ((Zh f).length<=64):=(zcu hg).len;clear hg;obtain⟨FW,HFE⟩:∃FW,Hid (zfU f=FW):=⟨_,rfl⟩;simp only[HFE.out]at HFW HFM⊢;obtain⟨JL,HJL⟩:∃JL,Hid (Zh f=JL):=⟨_,rfl⟩;simp only[HJL.out]at HFW HFM HJS HA;have HCL:Hid ((zz (tab f)).length=384):=js _
 generalize zz (tab f)=C at HA HCL⊢
 obtain⟨W0,hW0⟩:∃W0,w.alloc (.cells C.toArray 97)=W0:=⟨_,rfl⟩;have HG0:=gA hW0
 have X0:=xA hW0
 have HW0:Hid (_=W0):=hW0;clear hW0
 go_enter func126,ntmps126
 go_upto_region 1 with fail;rw[HW0.out]
 go_wp2_with (refine zR rfl 97 (.tmp 1) rfl w.heap.size rfl X0 underlying97 rfl (by rw[HCL.out];exact zmD) ?_)
 refine(HA W0).mono ?_;rintro e W5 ⟨⟨u,rfl,ow5⟩,g5⟩;obtain⟨xa,xc,rfl⟩:=ow5.form;have G5:=dD (HG0.trans g5);have O5:Hid (zb arE w.heap.size W5 (.slice xa JL.length xc) JL):=ow5.base (nT (bS HG0) (Nat.le_succ _));clear g5 ow5;obtain⟨m,HM⟩:∃m,Hid (JL.length=m):=⟨_,rfl⟩;rw[HM.out]at HFW HFM HJS O5⊢;have hm64:m<=64:=HJS.out
 by_cases hmany:16<m
 ·have hmz:(16:Int)< (m:Int):=by omega
  have HR:Hid (FW=([],4)):=HFM.out hmany;go_wp2;refine bodyPost_ret (results_tmp2 rfl _ _ _) rfl ?_;rw[HR.out];exact⟨⟨_,rfl,zb.nil _ _ _⟩,G5⟩
 have hmz:¬(16:Int)< (m:Int):=by omega
 have HR:Hid (FW=(JL,0)):=HFW.out hmany;go_wp2;refine bodyPost_ret (results_tmp2 rfl _ _ _) rfl ?_;rw[HR.out];exact⟨⟨_,rfl,O5⟩,G5⟩
theorem zjz {b a:Ar} (hb:jz b) (ha:jz a):zfX (zI [b,a]):=fun k _=>⟨zd3,fun h1=>by
 obtain⟨i,c,h2,h3,h4⟩:=QR h1;rw[h4];have:c=b\/c=a:=by simpa using mG h2
 rcases this with e|e <;> subst e
 ·exact J1 hb h3
 exact J1 ha h3⟩
theorem zkZ {w:World} {ad:Addr} {n c:Nat} {b q:Ar} (h:zr arE w (.slice (some ad) n c) l) (hb:l[j]? =some b) (hq:l[j+1]? =some q):zr arE w (.slice (some (ad.add (j*7))) 2 (c - j)) [b,q]:=by
 obtain⟨⟨a',c',h1,h2,h3⟩,h4⟩:=h;cases h1;refine⟨⟨some (ad.add (j*7)),c - j,rfl,fun h=>(by cases h),fun x hx k u hu=>?_⟩,by show 2*40<=_;omega⟩
 cases hx;rw[zX];refine h3 ad rfl (j*7+k) u ?_;have hu':(arv b++arv q)[k]? =some u:=by simpa [arE]using hu
 by_cases hk:k<7
 ·rw[List.getElem?_append_left (by simpa [arv]using hk)]at hu'
  exact qQ (enc:=arv) (k:=7) l j b (fun _ _=>rfl) hb k u hu'
 rw[aR (by simp[arv];omega)]at hu'
 have:=qQ (enc:=arv) (k:=7) l (j+1) q (fun _ _=>rfl) hq (k - 7) u (by simpa [arv]using hu')
 rw[show(j+1)*7+(k - 7)=j*7+k by omega]at this
 exact this
theorem zhz {w:World} {ad:Addr} {n c:Nat} (hj:j+2<=c):(Instr.sliceAt 60 (.slice (some ad) n c) (some (I6 (j:Int))) (some (I6 ((j:Int)+1+1))) none).run prog w= .ok (.slice (some (ad.add (j*7))) 2 (c - j)) w:=by
 have hs:(Go.sizeOf 69).run prog w= .ok 7 w:=by
  obtain⟨i0,h1,h2⟩:∃i0,Tryz.prog.info? 69=some i0/\i0.size=7:=by
   have:=zmA
   cases hq:Tryz.prog.info? 69 with
   | none=>rw[hq]at this;cases this
   | some i0=>rw[hq]at this;exact⟨i0,rfl,by simpa using this⟩
  simp[Go.sizeOf,typeInfo,h1,h2]
 have h1:(0:Int)<=(j:Int)+1+1/\(j:Int)+1+1<=(c:Int):=by omega
 have h2:((j:Int)+1+1).toNat=j+2:=by omega
 have h3:(0:Int)<=(j:Int)/\(j:Int)<=((j+2:Nat):Int):=by omega
 have h4:¬c=j:=by omega
 simp only[Instr.sliceAt,Instr.slice,Instr.sliceBounds,Instr.sliceBound,asIntOf,Sem.run_bind,Sem.run_pure,rA,run_underlying underlying60];rw[if_pos h1];simp only[Sem.run_pure,rA,h2];rw[if_pos h3];simp only[Sem.run_pure,rA,hs,tN,if_neg h4,Option.map_some]
 congr 2
 omega
theorem zah (v:Value) (l:List Ar) (w:World) (hv:zr arE w v l) (hcap:Cap v):
  Calls prog 100 #[v] w fun e w'=>e= .returned (.agg #[I6 (wrL l).1,I6 (wrL l).2])/\zc w w':=by
 have hbig:=hv.short;obtain⟨a,c,rfl,hrow⟩:=hv.ars;have HR':Hid (zcS w a l):=hrow;have hwa:Hid (∀(q:Ar) W,Calls prog 125 #[.agg #[I6 q.fr,I6 q.tz,.bool q.rd,.bool q.wr,.bool q.sh,I6 q.file,I6 q.base]] W fun e w'=>e= .returned (I6 (arW q))/\zc W w'):=fun q W=>Jt q W
 have HV:Hid (zr arE w (.slice a l.length c) l):=hv;have hcp:l.length<=c:=hcap;have h1:Hid (∀(b q:Ar) v W,zr arE W v [b,q]->jz b->jz q->b.tz<=q.fr->Calls prog 41 #[v] W fun e w'=>e= .returned (.agg (zz (tab (zI [b,q]))).toArray)/\zc W w'):=fun b q v W hv hb hq hf=>jL v [b,q] W hv (zj1 hb hq hf)
 have h2:Hid (∀(b q:Ar) W,jz b->jz q->b.tz<=q.fr->Calls prog 145 #[.agg (zz (tab (zI [b,q]))).toArray] W fun e w'=>(∃xa xc,e= .returned (.slice xa (Zh (zI [b,q])).length xc))/\zc W w'):=fun b q W hb hq hf=>(zby (zI [b,q]) W (zjz hb hq)).mono (by
  rintro e w' ⟨⟨v,rfl,ow⟩,g⟩;obtain⟨xa,xc,rfl⟩:=ow.form;exact⟨⟨xa,xc,rfl⟩,g⟩)
 clear hrow hv hcap;have HST:Hid (¬16<l.length->JV (j4 l 0) (l.drop 0) 0=wrL l):=zeG;have HMA:Hid (16<l.length->wrL l=(4,0)):=fun h=>by unfold wrL;rw[if_pos h]
 have HEND:Hid (∀r,JV (j4 l l.length) (l.drop l.length) l.length=r->r=(0,0)):=fun r=>zh8
 obtain⟨n,HN⟩:∃n,Hid (l.length=n):=⟨_,rfl⟩;rw[HN.out]at hbig hcp HV⊢;have HST':Hid (¬16<n->JV (j4 l 0) (l.drop 0) 0=wrL l):=dD<|by rw[<-HN.out];exact HST.out
 have HMA':Hid (16<n->wrL l=(4,0)):=dD<|by rw[<-HN.out];exact HMA.out
 have HEND':Hid (∀r,JV (j4 l n) (l.drop n) n=r->r=(0,0)):=dD<|by rw[<-HN.out];exact HEND.out
 skip
 generalize hA:wrL l=ANS at HST' HMA'⊢
 clear hA;obtain⟨W0,hW0⟩:∃W0,w.alloc (.cells #[I6 0,I6 0] 167)=W0:=⟨_,rfl⟩;have HG0:=gA hW0
 have X0:=xA hW0
 have HW0:Hid (_=W0):=hW0;clear hW0
 by_cases hmany:16<n
 ·have HR:Hid (ANS=(4,0)):=HMA'.out hmany;have hmz:(16:Int)< (n:Int):=by omega
  go_enter func100,ntmps100
  go_upto_region 1 with fail;rw[HW0.out];have f0:=X0.c 0 rfl;have f1:=X0.c 1 rfl;have ff:=X0.f;have RB:Hid (Box ((W0.setCell ⟨w.heap.size,0,none⟩ (I6 4)).setCell ⟨w.heap.size,1,none⟩ (I6 0)) w.heap.size [I6 4,I6 0]):=dD<|(X0.set 0 _).set 1 _
  have RG:Hid (zc w ((W0.setCell ⟨w.heap.size,0,none⟩ (I6 4)).setCell ⟨w.heap.size,1,none⟩ (I6 0))):=dD<|zu (zu HG0 (by simp) _) (by simp) _
  go_wp2;refine bodyPost_ret (qd (vs:=[I6 4,I6 0]) rfl _ rfl RB underlying167 rfl zmB) rfl ⟨?_,RG⟩;rw[HR.out]
 have hmz:¬(16:Int)< (n:Int):=by omega
 have HI:Hid (JV (j4 l 0) (l.drop 0) 0=ANS):=HST'.out hmany
 go_enter func100,ntmps100
 go_upto_region 1 with fail;rw[HW0.out];go_wp2
 go_loopg [12] n (fun gg s12 wr=>∃kk:Nat,kk<=n/\n - kk<=gg/\s12=I6 kk/\Hid (zc w wr)/\Hid (Box wr w.heap.size [I6 0,I6 0])/\Hid (JV (j4 l kk) (l.drop kk) kk=ANS)/\Hid (∀(j:Nat) q,j<kk->l[j]? =some q->jz q))
 case atStart=>exact⟨0,nZ _,by omega,rfl,HG0,X0,HI,fun j q hj=>absurd hj (nL _)⟩
 obtain⟨kk,hkk,hg,rfl,BW,FW,IW,OW⟩:=hrel
 by_cases hlt:kk<n
 ·have hltz:(kk:Int)< (n:Int):=by omega
  obtain⟨q,HQ⟩:∃q,Hid (l[kk]? =some q):=⟨_,gE (by rw[HN.out];exact hlt)⟩
  obtain⟨ad,rfl,hl⟩:=HR'.out kk q HQ.out;obtain⟨d0,d1,d2,d3,d4,d5,d6⟩:=hl wr BW.out;have HL:Hid (w.heap.size<wr.heap.size):=FW.lt;obtain⟨p,HP⟩:∃p,Hid (wr.heap.size=p):=⟨_,rfl⟩;have HLP:Hid (w.heap.size<p):=show _<_ by rw[<-HP.out];exact HL.out
  clear hl;go_upto_region 6 with fail;obtain⟨W1,hW1⟩:∃W1,wr.alloc (.cells #[I6 q.fr,I6 q.tz,.bool q.rd,.bool q.wr,.bool q.sh,I6 q.file,I6 q.base] 69)=W1:=⟨_,rfl⟩;have G1:=gT hW1 BW
  have F1:=yA hW1 FW
  have P1:=xP hW1 HP
  rw[hW1,HP.out];clear hW1 d0 d1 d2 d3 d4 d5 d6
  go_wp2_with (refine zR rfl 69 (.tmp 4) rfl p rfl P1 underlying69 rfl zmA ?_)
  refine(hwa.out q _).mono ?_;rintro e W2 ⟨rfl,g2⟩;have G2:=dD (G1.trans g2);have F2:=dD (F1.grew g2);have P2:=dD (P1.grew g2);clear g2;have hpne:p≠w.heap.size:=by have:=HLP.out;omega
  have hpne':w.heap.size≠p:=by have:=HLP.out;omega
  by_cases hz:arW q=0
  ·have HZ:Hid (arW q=0):=hz;have hzb:(arW q != 0)=false:=by simp[hz]
   have HOK:Hid (jz q):=ZF.1 hz;have OW':Hid (∀(j:Nat) x,j<kk+1->l[j]? =some x->jz x):=show∀(j:Nat) x,_ from fun j x hj hx=>by
    by_cases e:j=kk
    ·subst e;rw[HQ.out]at hx;cases hx;exact HOK.out
    exact OW j x (by omega) hx
   clear hz;go_upto_region 9 with fail
   generalize arW q=zq
   cases kk with
   | zero=>
    have HNX:Hid (JV (j4 l 1) (l.drop 1) 1=ANS):=zeF IW HQ HZ.out;have hz0:¬(0:Int)< ((0:Nat):Int):=by decide
    have hz1:decide ((0:Int)< ((0:Nat):Int))=false:=by decide
    go_quiet (fail);go_wp2
    go_roundg (n - 1)
    case measure=>omega
    exact⟨1,by omega,by omega,by go_num,G2.trans (show Below _ _ _ from bD (bR _ _) _),F2.grew (show Below _ _ _ from bD (bR _ _) _),HNX,OW'⟩
   | succ j=>
    obtain⟨b,HB⟩:∃b,Hid (l[j]? =some b):=⟨_,gE (by rw[HN.out];omega)⟩
    have HBK:Hid (jz b):=OW.out j b (by omega) HB.out
    have hz0:(0:Int)< ((j+1:Nat):Int):=by omega
    have hz1:decide ((0:Int)< ((j+1:Nat):Int))=true:=by simp
    have hj1:((j+1:Nat):Int) - 1=(j:Int):=by omega
    have hjn:(j:Int)< (n:Int):=by omega
    obtain⟨ad',had,hl⟩:=HR'.out j b HB.out;obtain rfl:ad=ad':=by cases had;rfl
    by_cases hc:q.fr<b.tz
    ·have HR:Hid (ANS=(2,((j+1:Nat):Int))):=zbS IW HB HQ HZ (.inl hc);have hcd:decide (q.fr<b.tz)=true:=by simpa using hc
     obtain⟨e0,e1,e2,e3,e4,e5,e6⟩:=hl W2 G2.out;have p0:=P2.c 0 rfl;clear hl;go_quiet (fail);obtain⟨W3,hW3⟩:∃W3,W2.drewN nq=W3:=⟨_,rfl⟩;have G3:Hid (zc w W3):=dD<|by rw[<-hW3];exact G2.trans (show Below _ _ _ from bD (bR _ _) _)
     have F3:Hid (Box W3 w.heap.size [I6 0,I6 0]):=dD<|by rw[<-hW3];exact F2.grew (show Below _ _ _ from bD (bR _ _) _)
     rw[hW3];clear hW3 e0 e1 e2 e3 e4 e5 e6 p0;have f0:=F3.c 0 rfl;have f1:=F3.c 1 rfl;have ff:=F3.f;have RB:Hid (Box ((W3.setCell ⟨w.heap.size,0,none⟩ (I6 2)).setCell ⟨w.heap.size,1,none⟩ (I6 ((j+1:Nat):Int))) w.heap.size [I6 2,I6 ((j+1:Nat):Int)]):=dD<|(F3.set 0 _).set 1 _
     have RG:Hid (zc w ((W3.setCell ⟨w.heap.size,0,none⟩ (I6 2)).setCell ⟨w.heap.size,1,none⟩ (I6 ((j+1:Nat):Int)))):=dD<|zu (zu G3 (by simp) _) (by simp) _
     go_wp2;refine bodyPost_ret (qd (vs:=[I6 2,I6 ((j+1:Nat):Int)]) rfl _ rfl RB underlying167 rfl zmB) rfl ⟨?_,RG⟩;rw[HR.out]
    have hcd:decide (q.fr<b.tz)=false:=by simpa using hc
    have HC:Hid (¬q.fr<b.tz):=hc;have hx0:=P2.gw 0 rfl
    have hx1:=P2.gw 1 rfl
    have hx2:=P2.gw 2 rfl
    have hx3:=P2.gw 3 rfl
    have hx4:=P2.gw 4 rfl
    have hx5:=P2.gw 5 rfl
    have hx6:=P2.gw 6 rfl
    have hy0:∀y:zo W2,y.world.cell? (ad.add (j*7))=some (I6 b.fr):=fun y=>(hl _ (G2.trans y.grew)).1
    have hy1:∀y:zo W2,y.world.cell? { block:=(ad.add (j*7)).block,off:=(ad.add (j*7)).off+1 }=some (I6 b.tz):=fun y=>(hl _ (G2.trans y.grew)).2.1
    have hy2:∀y:zo W2,y.world.cell? { block:=(ad.add (j*7)).block,off:=(ad.add (j*7)).off+2 }=some (.bool b.rd):=fun y=>(hl _ (G2.trans y.grew)).2.2.1
    have hy3:∀y:zo W2,y.world.cell? { block:=(ad.add (j*7)).block,off:=(ad.add (j*7)).off+3 }=some (.bool b.wr):=fun y=>(hl _ (G2.trans y.grew)).2.2.2.1
    have hy4:∀y:zo W2,y.world.cell? { block:=(ad.add (j*7)).block,off:=(ad.add (j*7)).off+4 }=some (.bool b.sh):=fun y=>(hl _ (G2.trans y.grew)).2.2.2.2.1
    have hy5:∀y:zo W2,y.world.cell? { block:=(ad.add (j*7)).block,off:=(ad.add (j*7)).off+5 }=some (I6 b.file):=fun y=>(hl _ (G2.trans y.grew)).2.2.2.2.2.1
    have hy6:∀y:zo W2,y.world.cell? { block:=(ad.add (j*7)).block,off:=(ad.add (j*7)).off+6 }=some (I6 b.base):=fun y=>(hl _ (G2.trans y.grew)).2.2.2.2.2.2
    have hne:Nonempty (zo W2):=⟨⟨_,zc.refl _⟩⟩;have HSL:Hid (∀W,zc w W->zr arE W (.slice (some (ad.add (j*7))) 2 (c - j)) [b,q]):=fun W hW=>zkZ (HV.grew hW) HB HQ.out
    have hsl:=fun W=>zhz (w:=W) (ad:=ad) (n:=n) (c:=c) (j:=j) (by omega)
    obtain⟨M,HM⟩:∃M,Hid ((Zh (zI [b,q])).length=M):=⟨_,rfl⟩;have HTG:Hid (decide (M<2)=goB q b):=dD<|by rw[<-HM.out];exact zlJ HBK HOK (by have:=HC.out;omega)
    have HF2:Hid (b.tz<=q.fr):=dD<|by have:=HC.out;omega
    clear hl;obtain⟨O2,HO2⟩:∃O2,Hid (zz (tab (zI [b,q]))=O2):=⟨_,rfl⟩;refine Zf [(19,⟨fun v=>v= .agg O2.toArray,fun _ _=>True⟩),(20,⟨fun v=>∃xa xc,v= .slice xa M xc,fun _ _=>True⟩)] qj (by kernel_rfl) ?_ ?_ ?_
    ·intro x hx
     simp at hx
     rcases hx with rfl|rfl
     ·exact⟨_,rfl⟩
     exact⟨.slice none M 0,none,0,rfl⟩
    ·intro x hx
     simp at hx
     rcases hx with rfl|rfl
     ·exact fun _ _ _ _ h=>h
     exact fun _ _ _ _ h=>h
    iterate 19 (refine zj rfl rfl rfl (fun K hK=>?_);go_big_quiet_op;refine hK _ ?_;clear hK)
    refine zQ rfl rfl (fun w' hg hF=>?_) (fun v1 hv=>?_)
    ·refine zP.call [.slice (some (ad.add (j*7))) 2 (c - j)] rfl func41 rfl rfl rfl ?_;refine(h1.out b q _ w' (HSL w' (G2.trans hg)) HBK HOK HF2).mono ?_;rintro e w'' ⟨rfl,hg2⟩;exact⟨_,rfl,hg2,by rw[HO2.out],trivial⟩
    subst hv;simp only[Act.put,sB,sS,sZ];refine zQ rfl rfl (fun w' hg hF=>?_) (fun v1 hv=>?_)
    ·refine zP.call [.agg O2.toArray] rfl func145 rfl rfl rfl ?_;rw[<-HO2.out];refine(h2.out b q w' HBK HOK HF2).mono ?_;rintro e w'' ⟨⟨xa,xc,rfl⟩,hg2⟩;exact⟨_,rfl,hg2,⟨xa,xc,by rw[HM.out]⟩,trivial⟩
    obtain⟨xa2,xc2,rfl⟩:=hv;simp only[Act.put,sB,sS,sZ];have hmz:decide ((M:Int)<2)=goB q b:=by rw[<-HTG.out];exact decide_eq_decide.2 (by omega)
    iterate 4 (refine zj rfl rfl rfl (fun K hK=>?_);go_big_quiet_op;refine hK _ ?_;clear hK)
    refine qM fun W3 hg1 hF=>?_
    have G3:=dD (G2.trans hg1);have F3:=dD (F2.grew hg1);clear hmz hsl hg1 hF hx0 hx1 hx2 hx3 hx4 hx5 hx6 hy0 hy1 hy2 hy3 hy4 hy5 hy6 hne
    cases hgb:goB q b with
    | true=>
     have HR:Hid (ANS=(2,((j+1:Nat):Int))):=zbS IW HB HQ HZ (.inr hgb);clear hgb;have f0:=F3.c 0 rfl;have f1:=F3.c 1 rfl;have ff:=F3.f;have RB:Hid (Box ((W3.setCell ⟨w.heap.size,0,none⟩ (I6 2)).setCell ⟨w.heap.size,1,none⟩ (I6 ((j+1:Nat):Int))) w.heap.size [I6 2,I6 ((j+1:Nat):Int)]):=show Box _ _ _ from(F3.set 0 _).set 1 _
     have RG:Hid (zc w ((W3.setCell ⟨w.heap.size,0,none⟩ (I6 2)).setCell ⟨w.heap.size,1,none⟩ (I6 ((j+1:Nat):Int)))):=dD<|zu (zu G3 (by simp) _) (by simp) _
     go_wp2;refine bodyPost_ret (qd (vs:=[I6 2,I6 ((j+1:Nat):Int)]) rfl _ rfl RB underlying167 rfl zmB) rfl ⟨?_,RG⟩;rw[HR.out]
    | false=>
     have HNX:Hid (JV (j4 l (j+1+1)) (l.drop (j+1+1)) (j+1+1)=ANS):=zgN IW HB HQ HZ HC hgb;clear hgb;go_wp2
     go_roundg (n -(j+1+1))
     case measure=>omega
     exact⟨j+1+1,by omega,by omega,by go_num,G3,F3,HNX,OW'⟩
  have HR:Hid (ANS=(arW q,(kk:Int))):=zh9 IW HQ hz;have hzb:(arW q != 0)=true:=by simp[hz]
  clear hz;have f0:=F2.c 0 rfl;have f1:=F2.c 1 rfl;have ff:=F2.f;have RB:Hid (Box ((W2.setCell ⟨w.heap.size,0,none⟩ (I6 (arW q))).setCell ⟨w.heap.size,1,none⟩ (I6 (kk:Int))) w.heap.size [I6 (arW q),I6 (kk:Int)]):=dD<|(F2.set 0 _).set 1 _
  have RG:Hid (zc w ((W2.setCell ⟨w.heap.size,0,none⟩ (I6 (arW q))).setCell ⟨w.heap.size,1,none⟩ (I6 (kk:Int)))):=dD<|zu (zu G2 (by simp) _) (by simp) _
  go_wp2;refine bodyPost_ret (qd (vs:=[I6 (arW q),I6 (kk:Int)]) rfl _ rfl RB underlying167 rfl zmB) rfl ⟨?_,RG⟩;rw[HR.out]
 have hltz:¬(kk:Int)< (n:Int):=by omega
 have:kk=n:=by omega
 subst this;have HR:Hid (ANS=(0,0)):=HEND'.out _ IW.out;have f0:=FW.c 0 rfl;have f1:=FW.c 1 rfl;have ff:=FW.f;have RB:Hid (Box ((wr.setCell ⟨w.heap.size,0,none⟩ (I6 0)).setCell ⟨w.heap.size,1,none⟩ (I6 0)) w.heap.size [I6 0,I6 0]):=show Box _ _ _ from(FW.set 0 _).set 1 _
 have RG:Hid (zc w ((wr.setCell ⟨w.heap.size,0,none⟩ (I6 0)).setCell ⟨w.heap.size,1,none⟩ (I6 0))):=dD<|zu (zu BW (by simp) _) (by simp) _
 go_wp2;refine bodyPost_ret (qd (vs:=[I6 0,I6 0]) rfl _ rfl RB underlying167 rfl zmB) rfl ⟨?_,RG⟩;rw[HR.out]
theorem zP.allocOnes {a:Act} {w:World} {K:Value->World->Prop} (ho:o.op= .alloc 97) (h:K (.pointer (some ⟨w.heap.size,0,none⟩)) (w.alloc (.cells (zz (tab fun _=>on0)).toArray 97))):zP prog o a w K:=by
 have hz:=zaR w
 generalize zz (tab fun _=>on0)=Z at hz h
 unfold zP;have:(execOp a.eval o).run prog w= .ok (.value (.pointer (some ⟨w.heap.size,0,none⟩))) (w.alloc (.cells Z.toArray 97)):=by
  simp[execOp,ho,go_sem,hz]
 rw[this];exact h
theorem zP.oneArea {a:Act} {w:World} {K:Value->World->Prop} (x:Operand) (ho:o.op= .buildSlice 60 1 #[(0,x)]) (q:Ar) (hx:a.eval x=arA q) (h:K (.slice (some ⟨w.heap.size,0,none⟩) 1 1) (w.alloc (.cells (arv q).toArray 69))):zP prog o a w K:=by
 unfold zP;have:(execOp a.eval o).run prog w= .ok (.value (.slice (some ⟨w.heap.size,0,none⟩) 1 1)) (w.alloc (.cells (arv q).toArray 69)):=by
  simp only[execOp,ho,List.map_toArray,mP,List.map_nil,hx]
  simp[go_sem,arA,arv]
 rw[this];exact h
theorem zP.val {a:Act} {w:World} {K:Value->World->Prop} {v:Value} (hr:(execOp a.eval o).run prog w= .ok (.value v) w) (h:K v w):zP prog o a w K:=by
 unfold zP;rw[hr];exact h
theorem zin {a:Act} (x:Operand) (ho:o.op= .load 69 x) (b:Nat) (hx:a.eval x= .pointer (some ⟨b,0,none⟩)) {q:Ar} {w:World} (hb:Box w b (arv q)):(execOp a.eval o).run prog w= .ok (.value (arA q)) w:=by
 have:=run_loadAt_mid (P:=prog) w b 0 69 (arv q) _ hb.range underlying69 rfl zmA;simp only[execOp,ho,hx,Sem.run_bind,this,rA,Sem.run_pure];rfl
def zfj:List Oper:=[
 { dst := some 23, op := .move (.tmp 0), type := 60, pos := "ref.go:325", after := #[], guard := none },
 { dst := some 24, op := .call { callee := .value (.func 41), args := #[.tmp 23], argTypes := #[60] }, type := 97, pos := "ref.go:325", after := #[{ on := 0, ground := .data }], guard := none },
 { dst := some 25, op := .load 69 (.tmp 3), type := 69, pos := "ref.go:325", after := #[], guard := none },
 { dst := some 26, op := .buildSlice 60 1 #[(0, .tmp 25)], type := 60, pos := "ref.go:325", after := #[{ on := 2, ground := .data }], guard := none },
 { dst := some 27, op := .call { callee := .value (.func 41), args := #[.tmp 26], argTypes := #[60] }, type := 97, pos := "ref.go:325", after := #[{ on := 3, ground := .data }, { on := 1, ground := .chain }], guard := none },
 { dst := some 8, op := .alloc 97, type := 0, pos := "ref.go:325", after := #[], guard := none },
 { dst := some 9, op := .alloc 97, type := 0, pos := "ref.go:325", after := #[], guard := none },
 { dst := none, op := .store 97 (.tmp 8) (.tmp 24), type := 0, pos := "ref.go:325", after := #[{ on := 5, ground := .data }, { on := 1, ground := .data }, { on := 4, ground := .chain }, { on := 0, ground := .phase }, { on := 1, ground := .phase }, { on := 2, ground := .textOnly .lateStores }, { on := 3, ground := .textOnly .lateStores }, { on := 4, ground := .textOnly .lateStoresUnsure }, { on := 5, ground := .phase }, { on := 6, ground := .phase }], guard := none },
 { dst := none, op := .store 97 (.tmp 9) (.tmp 27), type := 0, pos := "ref.go:325", after := #[{ on := 6, ground := .data }, { on := 4, ground := .data }, { on := 7, ground := .chain }, { on := 0, ground := .phase }, { on := 1, ground := .phase }, { on := 2, ground := .phase }, { on := 3, ground := .phase }, { on := 4, ground := .phase }, { on := 5, ground := .phase }, { on := 6, ground := .phase }, { on := 7, ground := .phase }], guard := none }]
theorem zjX:∀l0 l1 l2 l3 l4 l5 l6:Bool,(Region.ready .any zfj.toArray #[l0,l1,l2,l3,l4,l5,l6,false,false]).isEmpty=false\/(l4=true/\(l1=false\/l3=false))\/(l1=true/\l0=false)\/(l3=true/\l2=false):=by decide+kernel
theorem ziz:∀l0 l1 l2 l3 l4 l5 l6:Bool,(!((!l1 || l0) &&(!l3 || l2) &&(!l4 || (l1 && l3))) || (Region.ready .any zfj.toArray #[l0,l1,l2,l3,l4,l5,l6,false,false]).all fun i=>(i == 0 && !l0) || (i == 1 && !l1 && l0) || (i == 2 && !l2) || (i == 3 && !l3 && l2) || (i == 4 && !l4 && l1 && l3) || (i == 5 && !l5) || (i == 6 && !l6) || (i == 7 && l0 && l1 && l2 && l3 && l4 && l5 && l6))=true:=by decide+kernel
theorem zjY (l0 l1 l2 l3 l4 l5 l6:Bool) (i:Nat) (c1:l1=true->l0=true) (c3:l3=true->l2=true) (c4:l4=true->l1=true/\l3=true) (hi:i∈Region.ready .any zfj.toArray #[l0,l1,l2,l3,l4,l5,l6,false,false]):(i=0/\l0=false)\/(i=1/\l1=false/\l0=true)\/(i=2/\l2=false)\/(i=3/\l3=false/\l2=true)\/(i=4/\l4=false/\l1=true/\l3=true)\/(i=5/\l5=false)\/(i=6/\l6=false)\/(i=7/\l0=true/\l1=true/\l2=true/\l3=true/\l4=true/\l5=true/\l6=true):=by
 have hc:((!l1 || l0) &&(!l3 || l2) &&(!l4 || (l1 && l3)))=true:=by
  cases l0 <;> cases l1 <;> cases l2 <;> cases l3 <;> cases l4 <;> simp at c1 c3 c4⊢
 have hb:=ziz l0 l1 l2 l3 l4 l5 l6;rw[hc,Bool.not_true,Bool.false_or]at hb;have h:=List.all_eq_true.1 hb i hi
 simpa [and_assoc,or_assoc]using h
structure zhn (W0:World) (v:Value) (q:Ar) (O1 O2 Z0:List Value) (l0 l1 l2 l3 l4 l5 l6:Bool) (t23 t24 t25 t26 t27 t8 t9:Value) (W:World):Prop where
 g:zc W0 W
 h0:l0=true->t23=v
 h1:l1=true->t24= .agg O1.toArray
 h2:l2=true->t25=arA q
 h3:l3=true->zr arE W t26 [q]
 h4:l4=true->t27= .agg O2.toArray
 h5:l5=true->∃b,t8= .pointer (some ⟨b,0,none⟩)/\Box W b Z0/\W0.heap.size<=b
 h6:l6=true->∃b,t9= .pointer (some ⟨b,0,none⟩)/\Box W b Z0/\W0.heap.size<=b
 ne:l5=true->l6=true->t8≠t9
 c1:l1=true->l0=true
 c3:l3=true->l2=true
 c4:l4=true->l1=true/\l3=true
section
variable{W0:World} {v:Value} {q:Ar} {O1 O2 Z0:List Value} {l0 l1 l2 l3 l4 l5 l6:Bool} {t23 t24 t25 t26 t27 t8 t9:Value} {W W':World}
theorem zhn.grew (h:zhn W0 v q O1 O2 Z0 l0 l1 l2 l3 l4 l5 l6 t23 t24 t25 t26 t27 t8 t9 W) (k:zc W W'):zhn W0 v q O1 O2 Z0 l0 l1 l2 l3 l4 l5 l6 t23 t24 t25 t26 t27 t8 t9 W':=
 ⟨h.g.trans k,h.h0,h.h1,h.h2,fun e=>(h.h3 e).grew k,h.h4,fun e=>by obtain⟨b,x,y,z⟩:=h.h5 e;exact⟨b,x,y.grew k,z⟩,fun e=>by obtain⟨b,x,y,z⟩:=h.h6 e;exact⟨b,x,y.grew k,z⟩,h.ne,h.c1,h.c3,h.c4⟩
def QF (l0 l1 l2 l3 l4 l5 l6:Bool):Nat:=(!l0).toNat+(!l1).toNat+(!l2).toNat+(!l3).toNat+(!l4).toNat+(!l5).toNat+(!l6).toNat
theorem zhF {pa:Nat} (A:Value->Value->Value->Value->Value->Value->Value->Act)
  (e0:∀x23 x24 x25 x26 x27 x8 x9,(A x23 x24 x25 x26 x27 x8 x9).eval (.tmp 0)=v) (e3:∀x23 x24 x25 x26 x27 x8 x9,(A x23 x24 x25 x26 x27 x8 x9).eval (.tmp 3)= .pointer (some ⟨pa,0,none⟩))
  (e23:∀x23 x24 x25 x26 x27 x8 x9,(A x23 x24 x25 x26 x27 x8 x9).eval (.tmp 23)=x23) (e24:∀x23 x24 x25 x26 x27 x8 x9,(A x23 x24 x25 x26 x27 x8 x9).eval (.tmp 24)=x24) (e25:∀x23 x24 x25 x26 x27 x8 x9,(A x23 x24 x25 x26 x27 x8 x9).eval (.tmp 25)=x25) (e26:∀x23 x24 x25 x26 x27 x8 x9,(A x23 x24 x25 x26 x27 x8 x9).eval (.tmp 26)=x26) (e27:∀x23 x24 x25 x26 x27 x8 x9,(A x23 x24 x25 x26 x27 x8 x9).eval (.tmp 27)=x27) (e8:∀x23 x24 x25 x26 x27 x8 x9,(A x23 x24 x25 x26 x27 x8 x9).eval (.tmp 8)=x8) (e9:∀x23 x24 x25 x26 x27 x8 x9,(A x23 x24 x25 x26 x27 x8 x9).eval (.tmp 9)=x9)
  (p23:∀x23 x24 x25 x26 x27 x8 x9 y,(A x23 x24 x25 x26 x27 x8 x9).put (some 23) y=A y x24 x25 x26 x27 x8 x9) (p24:∀x23 x24 x25 x26 x27 x8 x9 y,(A x23 x24 x25 x26 x27 x8 x9).put (some 24) y=A x23 y x25 x26 x27 x8 x9) (p25:∀x23 x24 x25 x26 x27 x8 x9 y,(A x23 x24 x25 x26 x27 x8 x9).put (some 25) y=A x23 x24 y x26 x27 x8 x9) (p26:∀x23 x24 x25 x26 x27 x8 x9 y,(A x23 x24 x25 x26 x27 x8 x9).put (some 26) y=A x23 x24 x25 y x27 x8 x9) (p27:∀x23 x24 x25 x26 x27 x8 x9 y,(A x23 x24 x25 x26 x27 x8 x9).put (some 27) y=A x23 x24 x25 x26 y x8 x9) (p8:∀x23 x24 x25 x26 x27 x8 x9 y,(A x23 x24 x25 x26 x27 x8 x9).put (some 8) y=A x23 x24 x25 x26 x27 y x9) (p9:∀x23 x24 x25 x26 x27 x8 x9 y,(A x23 x24 x25 x26 x27 x8 x9).put (some 9) y=A x23 x24 x25 x26 x27 x8 y)
  (pn:∀x23 x24 x25 x26 x27 x8 x9 y,(A x23 x24 x25 x26 x27 x8 x9).put none y=A x23 x24 x25 x26 x27 x8 x9)
  (hv:zr arE W0 v l) (hl:zlz l) (ha:jz q) (hb:Box W0 pa (arv q))
  (hQ:∀W b8 b9 x26,b8≠b9->zc W0 W->Box W b8 (zz (tab (zI l)))->Box W b9 (zz (tab (zI [q])))->W0.heap.size<=b8->W0.heap.size<=b9->Q .normal (A v (.agg (zz (tab (zI l))).toArray) (arA q) x26 (.agg (zz (tab (zI [q]))).toArray) (.pointer (some ⟨b8,0,none⟩)) (.pointer (some ⟨b9,0,none⟩))) W)
  (x23 x24 x25 x26 x27 x8 x9:Value):(Code.region id zfj.toArray true).wp prog Q (A x23 x24 x25 x26 x27 x8 x9) W0:=by
 have hO1:(zz (tab (zI l))).length=384:=js _;have hO2:(zz (tab (zI [q]))).length=384:=js _;have hZ:(zz (tab fun _=>on0)).length=384:=js _
 have hc1:∀W,zc W0 W->Calls prog 41 #[v] W fun e w'=>e= .returned (.agg (zz (tab (zI l))).toArray)/\zc W w':=fun W hW=>jL v l W (hv.grew hW) hl
 have hc2:∀W u,zr arE W u [q]->Calls prog 41 #[u] W fun e w'=>e= .returned (.agg (zz (tab (zI [q]))).toArray)/\zc W w':=fun W u hu=>jL u [q] W hu (zj2 ha)
 have hn1:=QX (tab (zI l));have hn2:=QX (tab (zI [q]));have hal:∀W:World,Box (W.alloc (.cells (zz (tab fun _=>on0)).toArray 97)) W.heap.size (zz (tab fun _=>on0)):=fun W=>Box.top _ _ _ rfl
 generalize zz (tab (zI l))=O1 at*
 generalize zz (tab (zI [q]))=O2 at*
 have main:∀(n:Nat) (l0 l1 l2 l3 l4 l5 l6:Bool) (x23 x24 x25 x26 x27 x8 x9:Value) (W:World),QF l0 l1 l2 l3 l4 l5 l6=n->zhn W0 v q O1 O2 (zz (tab fun _=>on0)) l0 l1 l2 l3 l4 l5 l6 x23 x24 x25 x26 x27 x8 x9 W->wpAnyH prog .any zfj.toArray Q (fun _=>True) (n+2) #[l0,l1,l2,l3,l4,l5,l6,false,false] (A x23 x24 x25 x26 x27 x8 x9) W:=by
  intro n
  induction n with
  | zero=>
   intro l0 l1 l2 l3 l4 l5 l6 x23 x24 x25 x26 x27 x8 x9 W hcnt inv;obtain⟨rfl,rfl,rfl,rfl,rfl,rfl,rfl⟩:l0=true/\l1=true/\l2=true/\l3=true/\l4=true/\l5=true/\l6=true:=by
    revert hcnt
    unfold QF
    cases l0 <;> cases l1 <;> cases l2 <;> cases l3 <;> cases l4 <;> cases l5 <;> cases l6 <;> simp
   obtain⟨b8,rfl,hb8,hs8⟩:=inv.h5 rfl;obtain⟨b9,rfl,hb9,hs9⟩:=inv.h6 rfl;have hne:b8≠b9:=fun e=>inv.ne rfl rfl (by rw[e])
   obtain rfl:=inv.h0 rfl;obtain rfl:=inv.h1 rfl;obtain rfl:=inv.h2 rfl;obtain rfl:=inv.h4 rfl;refine wpAnyH_all (rs:=[7]) (by kernel_rfl) (by simp) ?_
   intro j hj;rw[List.mem_singleton]at hj;subst hj;refine jW none (fun _ w'=>Box w' b8 O1/\Box w' b9 (zz (tab fun _=>on0))/\zc W0 w') rfl rfl rfl (zP.storeAll 97 (.tmp 8) (.tmp 24) rfl b8 (e8 ..) O1 (e24 ..) hb8 (by rw[hO1,hZ]) (by rw[hZ];exact zmD) hn1 (fun w' b' g' s'=>⟨b',hb9.grown g' (fun e=>hne e.symm),zd inv.g g' hs8⟩)) ?_
   rintro y W1 ⟨h1,h2,h3⟩;rw[pn];refine⟨trivial,?_⟩;refine wpAnyH_all (rs:=[8]) (by kernel_rfl) (by simp) ?_
   intro j hj;rw[List.mem_singleton]at hj;subst hj;refine jW none (fun _ w'=>Box w' b8 O1/\Box w' b9 O2/\zc W0 w') rfl rfl rfl (zP.storeAll 97 (.tmp 9) (.tmp 27) rfl b9 (e9 ..) O2 (e27 ..) h2 (by rw[hO2,hZ]) (by rw[hZ];exact zmD) hn2 (fun w' b' g' s'=>⟨h1.grown g' hne,b',zd h3 g' hs9⟩)) ?_
   rintro y W2 ⟨h4,h5,h6⟩;rw[pn];refine⟨trivial,?_⟩;exact wpAnyH_done (by kernel_rfl) (hQ W2 b8 b9 _ hne h6 h4 h5 hs8 hs9) _
  | succ n ih=>
   intro l0 l1 l2 l3 l4 l5 l6 x23 x24 x25 x26 x27 x8 x9 W hcnt inv;refine⟨fun h0=>?_,fun i hi=>?_⟩
   ·rcases zjX l0 l1 l2 l3 l4 l5 l6 with h|⟨h,h'⟩|⟨h,h'⟩|⟨h,h'⟩
    ·rw[h0]at h;cases h
    ·have:=inv.c4 h
     rcases h' with h' | h'
     ·rw[this.1]at h';cases h'
     rw[this.2]at h';cases h'
    ·rw[inv.c1 h]at h';cases h'
    rw[inv.c3 h]at h';cases h'
   rcases zjY l0 l1 l2 l3 l4 l5 l6 i inv.c1 inv.c3 inv.c4 hi with⟨rfl,rfl⟩|⟨rfl,rfl,rfl⟩|⟨rfl,rfl⟩|⟨rfl,rfl,rfl⟩|⟨rfl,rfl,rfl,rfl⟩|⟨rfl,rfl⟩|⟨rfl,rfl⟩|⟨rfl,rfl,rfl,rfl,rfl,rfl,rfl,rfl⟩
   ·refine jW (some 23) (fun y w'=>y=v/\w'=W) rfl rfl rfl (zP.val (v:=v) (by rw[<-e0 x23 x24 x25 x26 x27 x8 x9];rfl) ⟨rfl,rfl⟩) ?_
    rintro y w' ⟨rfl,rfl⟩;rw[p23];refine⟨trivial,ih true l1 l2 l3 l4 l5 l6 _ _ _ _ _ _ _ _ (by unfold QF at hcnt⊢;simp at hcnt⊢;omega) ⟨inv.g,fun _=>rfl,inv.h1,inv.h2,inv.h3,inv.h4,inv.h5,inv.h6,inv.ne,fun _=>rfl,inv.c3,inv.c4⟩⟩
   ·refine jW (some 24) (fun y w'=>y= .agg O1.toArray/\zc W w') rfl rfl rfl (zP.call [v] rfl func41 rfl rfl (by rw[mP,List.map_nil,e23,inv.h0 rfl]) ((hc1 W inv.g).mono (fun e w' h=>⟨_,h.1,rfl,h.2⟩))) ?_
    rintro y w' ⟨rfl,hg⟩;rw[p24];have inv':=inv.grew hg;refine⟨trivial,ih true true l2 l3 l4 l5 l6 _ _ _ _ _ _ _ _ (by unfold QF at hcnt⊢;simp at hcnt⊢;omega) ⟨inv'.g,inv'.h0,fun _=>rfl,inv'.h2,inv'.h3,inv'.h4,inv'.h5,inv'.h6,inv'.ne,fun _=>rfl,inv'.c3,fun h=>⟨rfl,(inv'.c4 h).2⟩⟩⟩
   ·refine jW (some 25) (fun y w'=>y=arA q/\w'=W) rfl rfl rfl (zP.val (v:=arA q) (zin (.tmp 3) rfl pa (e3 ..) (hb.grew inv.g)) ⟨rfl,rfl⟩) ?_
    rintro y w' ⟨rfl,rfl⟩;rw[p25];refine⟨trivial,ih l0 l1 true l3 l4 l5 l6 _ _ _ _ _ _ _ _ (by unfold QF at hcnt⊢;simp at hcnt⊢;omega) ⟨inv.g,inv.h0,inv.h1,fun _=>rfl,inv.h3,inv.h4,inv.h5,inv.h6,inv.ne,inv.c1,fun _=>rfl,inv.c4⟩⟩
   ·refine jW (some 26) (fun y w'=>zr arE w' y [q]/\zc W w') rfl rfl rfl (zP.oneArea (.tmp 25) rfl q (by rw[e25,inv.h2 rfl]) ⟨Za arE W q _ _ rfl (by show 40<=_;omega),za _ _⟩) ?_
    rintro y w' ⟨hr,hg⟩;rw[p26];have inv':=inv.grew hg;refine⟨trivial,ih l0 l1 true true l4 l5 l6 _ _ _ _ _ _ _ _ (by unfold QF at hcnt⊢;simp at hcnt⊢;omega) ⟨inv'.g,inv'.h0,inv'.h1,inv'.h2,fun _=>hr,inv'.h4,inv'.h5,inv'.h6,inv'.ne,inv'.c1,fun _=>rfl,fun h=>⟨(inv'.c4 h).1,rfl⟩⟩⟩
   ·refine jW (some 27) (fun y w'=>y= .agg O2.toArray/\zc W w') rfl rfl rfl (zP.call [x26] rfl func41 rfl rfl (by rw[mP,List.map_nil,e26]) ((hc2 W x26 (inv.h3 rfl)).mono (fun e w' h=>⟨_,h.1,rfl,h.2⟩))) ?_
    rintro y w' ⟨rfl,hg⟩;rw[p27];have inv':=inv.grew hg;refine⟨trivial,ih l0 true l2 true true l5 l6 _ _ _ _ _ _ _ _ (by unfold QF at hcnt⊢;simp at hcnt⊢;omega) ⟨inv'.g,inv'.h0,inv'.h1,inv'.h2,inv'.h3,fun _=>rfl,inv'.h5,inv'.h6,inv'.ne,inv'.c1,inv'.c3,fun _=>⟨rfl,rfl⟩⟩⟩
   ·refine jW (some 8) (fun y w'=>y= .pointer (some ⟨W.heap.size,0,none⟩)/\Box w' W.heap.size (zz (tab fun _=>on0))/\zc W w') rfl rfl rfl (zP.allocOnes rfl ⟨rfl,hal W,za _ _⟩) ?_
    rintro y w' ⟨rfl,hbx,hg⟩;rw[p8];have inv':=inv.grew hg;refine⟨trivial,ih l0 l1 l2 l3 l4 true l6 _ _ _ _ _ _ _ _ (by unfold QF at hcnt⊢;simp at hcnt⊢;omega) ⟨inv'.g,inv'.h0,inv'.h1,inv'.h2,inv'.h3,inv'.h4,fun _=>⟨_,rfl,hbx,bS inv.g⟩,inv'.h6,fun _ h6=>?_,inv'.c1,inv'.c3,inv'.c4⟩⟩
    obtain⟨b,rfl,h2,_⟩:=inv.h6 h6;intro e;cases e;exact absurd h2.lt (Nat.lt_irrefl _)
   ·refine jW (some 9) (fun y w'=>y= .pointer (some ⟨W.heap.size,0,none⟩)/\Box w' W.heap.size (zz (tab fun _=>on0))/\zc W w') rfl rfl rfl (zP.allocOnes rfl ⟨rfl,hal W,za _ _⟩) ?_
    rintro y w' ⟨rfl,hbx,hg⟩;rw[p9];have inv':=inv.grew hg;refine⟨trivial,ih l0 l1 l2 l3 l4 l5 true _ _ _ _ _ _ _ _ (by unfold QF at hcnt⊢;simp at hcnt⊢;omega) ⟨inv'.g,inv'.h0,inv'.h1,inv'.h2,inv'.h3,inv'.h4,inv'.h5,fun _=>⟨_,rfl,hbx,bS inv.g⟩,fun h5 _=>?_,inv'.c1,inv'.c3,inv'.c4⟩⟩
    obtain⟨b,rfl,h2,_⟩:=inv.h5 h5;intro e;cases e;exact absurd h2.lt (Nat.lt_irrefl _)
   unfold QF at hcnt
   simp at hcnt
 refine wp_region_held (S:=fun _=>True) qj ?_
 have hd:zc W0 { W0 with drawn:=W0.drawn+1 }:=show Below _ _ _ from Below.drew (bR _ _)
 exact main 7 false false false false false false false x23 x24 x25 x26 x27 x8 x9 _ rfl ⟨hd,fun h=>(by cases h),fun h=>(by cases h),fun h=>(by cases h),fun h=>(by cases h),fun h=>(by cases h),fun h=>(by cases h),fun h=>(by cases h),fun h=>(by cases h),fun h=>(by cases h),fun h=>(by cases h),fun h=>(by cases h)⟩
end
def zmc (R:List Ar × Int) (w:World) (e:Ending) (w':World):Prop:=(∃u,e= .returned (.tuple #[u,I6 R.2])/\zb arE w.heap.size w' u R.1)/\zc w w'
def zdv (l:List Ar) (a:Ar) (k:Nat):Nat->On:=fun j=>if j<k/\Qi a j=true then qL a j else zI l j
theorem zkp (l:List Ar) (a:Ar):zdv l a 0=zI l:=by
 funext j
 unfold zdv;rw[if_neg (by omega)]
theorem zlV (l:List Ar) (a:Ar) (k:Nat):zdv l a k k=zI l k:=by
 unfold zdv;rw[if_neg (by omega)]
theorem zlp {a:Ar} {k:Nat} (h:Qi a k=true):upd (zdv l a k) k (qL a k)=zdv l a (k+1):=by
 funext j
 unfold upd zdv
 by_cases e:j=k
 ·subst e;rw[if_pos rfl,if_pos ⟨by omega,h⟩]
 rw[if_neg e]
 by_cases h1:j<k/\Qi a j=true
 ·rw[if_pos h1,if_pos ⟨by omega,h1.2⟩]
 rw[if_neg h1,if_neg (fun h2=>h1 ⟨by omega,h2.2⟩)]
theorem zkq {a:Ar} {k:Nat} (h:Qi a k=false):zdv l a k=zdv l a (k+1):=by
 funext j
 unfold zdv
 by_cases h1:j<k/\Qi a j=true
 ·rw[if_pos h1,if_pos ⟨by omega,h1.2⟩]
 rw[if_neg h1]
 by_cases h2:j<k+1/\Qi a j=true
 ·have:j=k:=by
   rcases Nat.lt_or_ge j k with h3|h3
   ·exact absurd ⟨h3,h2.2⟩ h1
   omega
  rw[this,h]at h2
  cases h2.2
 rw[if_neg h2]
theorem zlq (l:List Ar) (a:Ar):tab (zdv l a 64)=tab (zfT l a):=zkY fun k hk=>by
 unfold zdv zfT
 by_cases h:Qi a k=true
 ·rw[if_pos ⟨hk,h⟩,if_pos h]
 rw[if_neg (fun h1=>h h1.2),if_neg h]
theorem zkB (a:Ar) (k:Nat):zI [a] k=if Qi a k=true then qL a k else on0:=rfl
theorem ziu (a:Ar) (k:Nat):(zI [a] k).is=Qi a k:=by
 rw[zkB]
 cases h:Qi a k with
 | true=>rfl
 | false=>rfl
theorem zlR {a:Ar} {k:Nat} (hk:k<64) (h:Qi a k=true) (h':(zI l k).is=true):zjs l a.fr (a.tz - a.fr)=true:=zj6.2 ⟨k,hk,by have:=qf.1 h;omega,h'⟩
theorem zj5 {a:Ar} (h:∀k,k<64->Qi a k=true->(zI l k).is=false):zjs l a.fr (a.tz - a.fr)=false:=zld.2 fun k hk hw=>h k hk (qf.2 (by omega))
theorem zdi (v:Value) (l:List Ar) (a:Ar) (w:World) (hv:zr arE w v l) (hcap:Cap v):
  Calls prog 82 #[v,.agg #[I6 a.fr,I6 a.tz,.bool a.rd,.bool a.wr,.bool a.sh,I6 a.file,I6 a.base]] w (zmc (zaF l a) w):=by
 have HV:Hid (zr arE w v l):=hv;have HW:Hid (∀W,zc w W->Calls prog 100 #[v] W fun e w'=>e= .returned (.agg #[I6 (wrL l).1,I6 (wrL l).2])/\zc W w'):=fun W hW=>zah v l W (HV.grew hW) hcap
 have HWA:Hid (∀W,Calls prog 125 #[.agg #[I6 a.fr,I6 a.tz,.bool a.rd,.bool a.wr,.bool a.sh,I6 a.file,I6 a.base]] W fun e w'=>e= .returned (I6 (arW a))/\zc W w'):=fun W=>Jt a W
 clear hv hcap;obtain⟨W0,hW0⟩:∃W0,w.alloc (.cells #[I6 a.fr,I6 a.tz,.bool a.rd,.bool a.wr,.bool a.sh,I6 a.file,I6 a.base] 69)=W0:=⟨_,rfl⟩;have G0:=gA hW0
 have X0:=xA hW0
 have HW0:Hid (_=W0):=hW0;clear hW0
 by_cases hz:(wrL l).1=0
 ·rw[hz]at HW
  generalize(wrL l).2=I at HW
  by_cases hza:arW a=0
  ·rw[hza]at HWA;have HL:Hid (l.length<=16/\Qj none l):=jH.1 hz;have HA:Hid (jz a):=ZF.1 hza;have HR0:Hid (zaF l a=if zjs l a.fr (a.tz - a.fr)=true then([],6)else zfU (zfT l a)):=show _=_ by unfold zaF;rw[if_neg (fun h=>h hz),if_neg (fun h=>h hza)]
   have HFEW:Hid (∀W,Calls prog 126 #[.agg (zz (tab (zdv l a 64))).toArray] W fun e w'=>(∃u,e= .returned (.tuple #[u,I6 (zfU (zfT l a)).2])/\zb arE W.heap.size w' u (zfU (zfT l a)).1)/\zc W w'):=fun W=>by
    rw[zlq];exact zhC (zfT l a) W (zaZ HL.2 HA)
   clear hz hza
   go_enter func82,ntmps82
   go_upto_region 1 with fail;rw[HW0.out];go_wp2_with fail;refine(HW W0 G0).mono ?_;rintro e W1 ⟨rfl,g⟩;have G1:=dD (G0.trans g);have X1:=dD (X0.grew g);clear g;obtain⟨pf,HPF⟩:∃pf,Hid (W1.heap.size=pf):=⟨_,rfl⟩;go_upto_region 2 with fail;obtain⟨W2,hWf⟩:∃W2,W1.alloc (.cells #[I6 0,I6 I] 167)=W2:=⟨_,rfl⟩;have G2:=gT hWf G1
   have F2:=xP hWf HPF
   have X2:=yA hWf X1
   rw[hWf,HPF.out];clear hWf;have f0:=F2.c 0 rfl
   go_wp2_with (refine zR rfl 69 (.tmp 3) rfl w.heap.size rfl X2 underlying69 rfl zmA ?_)
   refine(HWA W2).mono ?_;rintro e W3 ⟨rfl,g⟩;have G3:=dD (G2.trans g);have X3:=dD (X2.grew g);clear g f0;go_upto_region 7 with fail;refine zhF (v:=v) (q:=a) (pa:=w.heap.size) (l:=l) (fun x23 x24 x25 x26 x27 x8 x9=>⟨#[_,_,_,_,_,_,_,_,x8,x9,_,_,_,_,_,_,_,_,_,_,_,_,_,x23,x24,x25,x26,x27,_,_,_,_,_,_,_,_,_,_,_,_,_,_,_,_,_,_,_,_,_,_,_,_,_,_,_],[]⟩) (fun _ _ _ _ _ _ _=>rfl) (fun _ _ _ _ _ _ _=>rfl) (fun _ _ _ _ _ _ _=>rfl) (fun _ _ _ _ _ _ _=>rfl) (fun _ _ _ _ _ _ _=>rfl) (fun _ _ _ _ _ _ _=>rfl) (fun _ _ _ _ _ _ _=>rfl) (fun _ _ _ _ _ _ _=>rfl) (fun _ _ _ _ _ _ _=>rfl) (fun _ _ _ _ _ _ _ _=>rfl) (fun _ _ _ _ _ _ _ _=>rfl) (fun _ _ _ _ _ _ _ _=>rfl) (fun _ _ _ _ _ _ _ _=>rfl) (fun _ _ _ _ _ _ _ _=>rfl) (fun _ _ _ _ _ _ _ _=>rfl) (fun _ _ _ _ _ _ _ _=>rfl) (fun _ _ _ _ _ _ _ _=>rfl) (HV.grew G3) HL.2.lies HA X3.out ?_ _ _ _ _ _ _ _
   intro W4 b8 b9 x26 hbne g4 hb8 hb9 hs8 hs9;have G4:=dD (G3.trans g4);have B8:Hid (Box W4 b8 (zz (tab (zdv l a 0)))):=show Box _ _ _ by rw[zkp];exact hb8
   have B9:Hid (Box W4 b9 (zz (tab (zI [a])))):=hb9;have HS8:Hid (w.heap.size<=b8):=nT (bS G3) hs8;have hbne':b9≠b8:=fun e=>hbne e.symm
   have HNE:Hid (b9≠b8):=hbne';clear g4 hb8 hb9 hs8 hs9;go_wp2
   go_loopg [28] 64 (fun gg s28 wr=>∃kk:Nat,kk<=64/\64 - kk<=gg/\s28=I6 kk/\Hid (zc w wr)/\Hid (Box wr b8 (zz (tab (zdv l a kk))))/\Hid (Box wr b9 (zz (tab (zI [a]))))/\Hid (∀j:Nat,j<kk->Qi a j=true->(zI l j).is=false))
   case atStart=>exact⟨0,nZ _,by omega,rfl,G4,B8,B9,fun j hj=>absurd hj (nL _)⟩
   obtain⟨kk,hkk,hg,rfl,BW,LW,RW,HH⟩:=hrel
   by_cases hlt:kk<64
   ·have hltz:(kk:Int)<64:=by omega
    have d8:=LW.c (kk*6) (Zn (Jr hlt) 0 (.bool (zI l kk).is) (by rw[zlV];rfl))
    have d9:=RW.c (kk*6) (Zn (Jr hlt) 0 (.bool (Qi a kk)) (by rw[<-ziu];rfl))
    cases hin:Qi a kk with
    | true=>
     cases his:(zI l kk).is with
     | true=>
      have HR:Hid (zaF l a=([],6)):=dD<|by rw[HR0.out,zlR hlt hin his,if_pos rfl]
      rw[his]at d8;rw[hin]at d9;clear hin his;go_wp2;refine bodyPost_ret (results_tmp2 rfl _ _ _) rfl ?_;rw[HR.out];exact⟨⟨_,rfl,zb.nil _ _ _⟩,BW⟩
     | false=>
      have HST:Hid (upd (zdv l a kk) kk (qL a kk)=zdv l a (kk+1)):=zlp hin;have HON:Hid (zI [a] kk=qL a kk):=show _=_ by rw[zkB,if_pos hin]
      have HH2:Hid (∀j:Nat,j<kk+1->Qi a j=true->(zI l j).is=false):=dD<|fun j hj h=>by
       by_cases e:j=kk
       ·rw[e];exact his
       exact HH j (by omega) h
      rw[his]at d8;rw[hin]at d9;clear hin his;have HLV:Hid (Value.agg (onv (zI [a] kk)).toArray= .agg (onv (qL a kk)).toArray):=dD<|by rw[HON.out]
      go_wp2_with (first | refine zde rfl (.tmp 47) rfl b9 kk hlt rfl RW HLV.out ?_ | refine zdd rfl (.tmp 49) (.tmp 48) rfl b8 kk hlt rfl (qL a kk) rfl LW.out ?_)
      intro W5 b5 g5 s5;have L5:Hid (Box W5 b8 (zz (tab (zdv l a (kk+1))))):=dD<|by rw[<-HST.out];exact b5
      have R5:Hid (Box W5 b9 (zz (tab (zI [a])))):=RW.grown g5 HNE.out;have G5:Hid (zc w W5):=zd BW g5 HS8.out;clear b5 g5 s5 d8 d9;go_wp2
      go_roundg (64 -(kk+1))
      case measure=>omega
      exact⟨kk+1,by omega,by omega,by go_num,G5,L5,R5,HH2⟩
    | false=>
     have L5:Hid (Box wr b8 (zz (tab (zdv l a (kk+1))))):=dD<|by rw[<-zkq hin];exact LW.out
     have HH2:Hid (∀j:Nat,j<kk+1->Qi a j=true->(zI l j).is=false):=dD<|fun j hj h=>by
      by_cases e:j=kk
      ·rw[e,hin]at h;cases h
      exact HH j (by omega) h
     rw[hin]at d9;clear hin
     cases his:(zI l kk).is with
     | true=>
      rw[his]at d8;clear his;go_wp2
      go_roundg (64 -(kk+1))
      case measure=>omega
      exact⟨kk+1,by omega,by omega,by go_num,BW,L5,RW,HH2⟩
     | false=>
      rw[his]at d8;clear his;go_wp2
      go_roundg (64 -(kk+1))
      case measure=>omega
      exact⟨kk+1,by omega,by omega,by go_num,BW,L5,RW,HH2⟩
   have hltz:¬(kk:Int)<64:=by omega
   have:kk=64:=by omega
   subst this;have HR:Hid (zaF l a=zfU (zfT l a)):=dD<|by rw[HR0.out,zj5 HH.out,if_neg (by decide)]
   have HCL:Hid ((zz (tab (zdv l a 64))).length=384):=js _
   go_wp2_with (refine zR rfl 97 (.tmp 8) rfl b8 rfl LW underlying97 rfl (by rw[HCL.out];exact zmD) ?_)
   refine(HFEW wr).mono ?_;rintro e W6 ⟨⟨u,rfl,ow⟩,g6⟩;have G6:=dD (BW.trans g6);have O6:Hid (zb arE w.heap.size W6 u (zfU (zfT l a)).1):=ow.base (bS BW);clear g6 ow;go_wp2;refine bodyPost_ret (results_tmp2 rfl _ _ _) rfl ?_;rw[HR.out];exact⟨⟨_,rfl,O6⟩,G6⟩
  have hzb:(arW a != 0)=true:=by simp[hza]
  have HR:Hid (zaF l a=([],arW a)):=dD<|by unfold zaF;rw[if_neg (fun h=>h hz),if_pos hza]
  clear hz hza
  generalize arW a=E at*
  go_enter func82,ntmps82
  go_upto_region 1 with fail;rw[HW0.out];go_wp2_with fail;refine(HW W0 G0).mono ?_;rintro e W1 ⟨rfl,g⟩;have G1:=dD (G0.trans g);have X1:=dD (X0.grew g);clear g;obtain⟨pf,HPF⟩:∃pf,Hid (W1.heap.size=pf):=⟨_,rfl⟩;go_upto_region 2 with fail;obtain⟨W2,hWf⟩:∃W2,W1.alloc (.cells #[I6 0,I6 I] 167)=W2:=⟨_,rfl⟩;have G2:=gT hWf G1
  have F2:=xP hWf HPF
  have X2:=yA hWf X1
  rw[hWf,HPF.out];clear hWf;have f0:=F2.c 0 rfl
  go_wp2_with (refine zR rfl 69 (.tmp 3) rfl w.heap.size rfl X2 underlying69 rfl zmA ?_)
  refine(HWA W2).mono ?_;rintro e W3 ⟨rfl,g⟩;have G3:=dD (G2.trans g);clear g f0;go_wp2;refine bodyPost_ret (results_tmp2 rfl _ _ _) rfl ?_;rw[HR.out];exact⟨⟨_,rfl,zb.nil _ _ _⟩,G3⟩
 have hzb:((wrL l).1 != 0)=true:=by simp[hz]
 have HR:Hid (zaF l a=([],(wrL l).1)):=dD<|by unfold zaF;rw[if_pos hz]
 clear hz
 generalize(wrL l).2=I at HW
 generalize(wrL l).1=E at*
 go_enter func82,ntmps82
 go_upto_region 1 with fail;rw[HW0.out];go_wp2_with fail;refine(HW W0 G0).mono ?_;rintro e W1 ⟨rfl,g⟩;have G1:=dD (G0.trans g);clear g;obtain⟨pf,HPF⟩:∃pf,Hid (W1.heap.size=pf):=⟨_,rfl⟩;go_upto_region 2 with fail;obtain⟨W2,hWf⟩:∃W2,W1.alloc (.cells #[I6 E,I6 I] 167)=W2:=⟨_,rfl⟩;have G2:=gT hWf G1
 have F2:=xP hWf HPF
 rw[hWf,HPF.out];clear hWf;have f0:=F2.c 0 rfl;go_upto_region 3 with fail;go_quiet (fail);obtain⟨Wq,hWq⟩:∃Wq,W2.drewN nq=Wq:=⟨_,rfl⟩;have Gq:Hid (zc w Wq):=dD<|by rw[<-hWq];exact G2.trans (show Below _ _ _ from bD (bR _ _) _)
 rw[hWq];clear hWq f0;go_wp2;refine bodyPost_ret (results_tmp2 rfl _ _ _) rfl ?_;rw[HR.out];exact⟨⟨_,rfl,zb.nil _ _ _⟩,Gq⟩
end
end Go.Proofs.YtangilolcekceaaGreat
