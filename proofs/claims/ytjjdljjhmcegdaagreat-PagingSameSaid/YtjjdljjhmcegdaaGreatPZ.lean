/- PagingSame,proved:whatever frame is free then,whatever is written to a disk,or is there for good:all that is seen is as it was,whatever the numbers and bytes. No condition. -/
import Derived.Test.YtjjdljjhmcegdaaGreatPZ4
import Derived.Test.YtjjdljjhmcegdaaGreatRows
import Derived.ProofKit
import Derived.OpenShut
import Derived.ShutString
import Derived.ChangeOld
import Derived.Carry
import Derived.SizedLaws
import Derived.Test.YtjjdljjhmcegdaaGreatChecked
namespace Go.Proofs.YtjjdljjhmcegdaaGreat
open Go.Value renaming slice→O,int→Xe,bool→Xh,agg→Xi,pointer→Xj,tuple→Xm
open Go.IntKind renaming i64→Xf,u8→Xg
open Go.Obj renaming cells→Xk
open Go.Ending renaming returned→Xl
open Go renaming World→Xn,Calls→Xp,Value→Xq
open Go.RowKit renaming Hid→Xo
open Option renaming some→Xa,none→Xb
open Bool renaming true→Xc,false→Xd
open List renaming replicate→Xr
open Go.Act renaming put→Xs
open _root_.List renaming length_take→Xt,length_map→Xu,any_eq_true→Xv,getElem?_of_mem→Xw,getElem?_map→Xx,take_of_length_le→Xy,mem_range→Ya,range→Yb,flatMap_append→Yc,mem_cons_self→Ye,append_nil→Yf,take→Yg,drop→Yh,append_assoc→Yi,length_cons→Yj,pairwise_iff_getElem→Yk,map_nil→Ym,map_toArray→Yo,length_set→Yr,take_add_one→Yt,ext_getElem?→Yu,getElem_mem→Yv,getElem?_cons_succ→Yx,length_drop→Yy,mem_map→Oa,take_left'→Oc,range_succ→Od,take_append_drop→Oe,mem_of_mem_tail→Of,takeWhile_cons→Og,mem_singleton→Oh,any_eq_false→Oi,size_toArray→Oj
open Go.Addr renaming add_lit→Xz
open _root_.Nat renaming mod_eq_of_lt→Yd,add_zero→Yl,mod_lt→Yn,mul_le_mul_right→Yp,mod_add_mod→Yq,min_eq_left→Ob,add_mul→Ok
open Go.Sem renaming run_bind→Ys,run_pure→Yz
open _root_.Bool renaming and_eq_true→Yw
set_option maxRecDepth 100000
set_option maxHeartbeats 4000000
variable{B b fi ix:Nat} {M m m':Ma} {Q:Exit->Act->Xn->Prop} {V:MaV} {o:Oper} {ops:Array Oper} {t:TypeId} {w0 w1:Xn}
open Go.Proofs.Tryz
section
open Go.RowKit
theorem zor (h:Rt m) {F:Fl} (f:m.fl[fi]? =Xa F) (d:ix<F.bl.length) (a:j9 m.fl m.cnt (fi:Int) (ix:Int)=0):
  ∃b:Nat,(b:Int)<m.cnt/\zig m.fl m.cnt (fi:Int) (ix:Int)=(b:Int)/\zkM m.fl m.cnt (fi:Int) (ix:Int)=m.cnt/\zha m.fl m.cnt (fi:Int) (ix:Int)=m.fl.set fi ⟨F.size,F.bl.set ix (b:Int)⟩/\(F.bl[ix]? =Xa (b:Int)\/(F.bl[ix]? =Xa (-1)/\b∈ZR m.fl m.cnt)):=by
 have c:=h.inv.st;have g:zmy m.fl (fi:Int)=F.bl:=by unfold zmy;rw[tN,f]
 have l:zpF m.fl (fi:Int)=F.size:=by unfold zpF;rw[tN,f]
 obtain⟨z,h⟩:∃z,F.bl[ix]? =Xa z:=⟨_,gE d⟩;have j:F.bl.getD ix 0=z:=by rw[gD,h];rfl
 obtain⟨d,k,_⟩:=(qi _ _).1 c;have i:∃b:Nat,(b:Int)<m.cnt/\zos m.fl m.cnt (fi:Int) (ix:Int)=(b:Int)/\(z=(b:Int)\/(z=-1/\b∈ZR m.fl m.cnt)):=by
  unfold zos;rw[g,tN,j]
  by_cases d:z=-1
  ·have p:ZR m.fl m.cnt≠[]:=fun e=>by
    unfold j9 at a;have n:=(gS.1 f).1;rw[kE c,kE (Qv.2 ⟨Wm,Wm⟩),g,kE (Qv.2 ⟨Wm,Wm⟩),tN,j,kE d,kE e]at a
    cases a
   cases c:ZR m.fl m.cnt with
   | nil=>exact absurd c p
   | cons b j=>
    have j:b∈ZR m.fl m.cnt:=by rw[c];exact Ye ..
    have c:=Ya.1 (List.mem_filter.1 j).1;refine⟨b,Wm,by rw[kE d];rfl,.inr ⟨d,Ye ..⟩⟩
  rw[kF d];obtain⟨_,_,c⟩:=k F (mG f);have:=c z (mG h);exact⟨z.toNat,Wm,Wm,.inl Wm⟩
 obtain⟨b,f,d,c⟩:=i;refine⟨b,f,?_,?_,?_,?_⟩
 ·unfold zig;rw[kE a,d]
 ·unfold zkM;rw[kE a]
 ·unfold zha;rw[kE a,g,l,d,tN,tN]
 rw[h]
 rcases c with e|⟨e,a⟩
 ·exact .inl (by rw[e])
 exact .inr ⟨by rw[e],a⟩
theorem zfF (c:List (List Int)) (a:List (Int × List Int)) (b:∀q∈a,∃i:Nat,q.1=(i:Int)/\i<c.length) (i:Nat):(qW c a)[i]? =c[i]?\/∃q∈a,q.1=(i:Int):=by
 unfold qW
 split
 ·rename_i c
  cases a with
  | nil=>cases c
  | cons q l=>
   simp only[List.headD_cons];obtain⟨j,a,_⟩:=b q (Ye ..)
   by_cases e:i=j
   ·exact .inr ⟨q,Ye ..,Rx e a⟩
   rw[a,tN,sN (fun h=>e h.symm)]
   exact .inl rfl
 exact .inl rfl
theorem zn8 (h:Rt m) {c:Ca} {k:Nat} {f:Fr} {F:Fl} (u:c∈m.ca) (hi:zfw m c k fi ix f F) (a:j9 m.fl m.cnt f.f f.x=0):Rt (clM m k f F):=by
 have g:=a;rw[hi.ff,hi.fx]at a;obtain⟨b,d,i,j,l,n⟩:=zor h hi.fl hi.bl a;obtain⟨a,a,q⟩:=jp h.inv.dok;have a:=h.inv.cnt;have a:zk m.db.length m.dq (b:Int)=0:=by
  unfold zk;rw[kE h.inv.dok,kE (by simp[jn];omega)]
 have d:=h.inv.st;have s:∀e:List Int,wrM m e f.f f.x=zbs m fi ix F (b:Int) (qW m.db m.dq) (qT m.dq (b:Int) e):=fun e=>by
  unfold wrM zbs;rw[kE g,hi.ff,hi.fx,i,j,l];unfold ja jh;rw[kE a,kE a]
 have t:∀e:List Int,Rt (zbs m fi ix F (b:Int) (qW m.db m.dq) (qT m.dq (b:Int) e)):=fun e=>by
  have i:stW (m.fl.set fi ⟨F.size,F.bl.set ix (b:Int)⟩) m.cnt=0/\(∀x,zR (m.fl.set fi ⟨F.size,F.bl.set ix (b:Int)⟩) x=Xc↔(zR m.fl x=Xc/\x≠-1)\/x=(b:Int)\/(x=-1/\zR (m.fl.set fi ⟨F.size,F.bl.set ix (b:Int)⟩) x=Xc))/\(F.bl[ix]? =Xa (b:Int)\/zR m.fl (b:Int)=Xd)/\∀(j l:Nat) e,m.fl[j]? =Xa e->e.bl[l]? =Xa (b:Int)->j=fi/\l=ix:=by
   rcases n with e|⟨e,r⟩
   ·obtain⟨l,n,p⟩:=zgZ d hi.fl e;rw[l];exact⟨d,n,.inl e,p⟩
   obtain⟨l,n,p,v⟩:=zg0 d hi.fl e r;exact⟨l,n,.inr p,v⟩
  obtain⟨u1,u2,u3,u4⟩:=i;exact(zg1 h hi.fl u1 u2 (ZH _ _) (ZL a) (zfF _ _ q) (fun q d=>by
   unfold qT at d
   rcases List.mem_append.1 d with e|e
   ·refine .inr ⟨q,?_,rfl⟩
    split at e
    ·exact Of e
    exact e
   simp only[Oh]at e;exact .inl (by rw[e])) (fun j d=>zap a d) u3 ⟨c,u,hi.file,hi.idx⟩ u4).1.1
 unfold clM;rw[kE g,s];have a:(zbs m fi ix F (b:Int) (qW m.db m.dq) (qT m.dq (b:Int) (jV (pgL f.p) f.x F.size))).fs[k]? =Xa f:=hi.fa;exact(ziJ (t _) a hi.r f.u Xd).1
theorem zi5 {k:Nat} {f:Fr} {F:Fl} (a:j9 m.fl m.cnt f.f f.x=0):(clM m k f F).fs=m.fs.set k { f with d:=false }:=by
 unfold clM;rw[kE a]
def zqd (x:Nat × Nat):List Xq:=[Xe Xf (x.1:Int),Xe Xf (x.2:Int)]
theorem zqR:(Tryz.prog.info? 214).map (fun i=>(i.zero,i.size,i.bytes))=Xa (Xa (Xi #[I6 0,I6 0]),2,16):=by kernel_rfl
theorem zqS:Tryz.prog.underlying 113=Xa (.slice 214):=by kernel_rfl
def zeO:Elt (Nat × Nat) where
 enc:=zqd
 k:=2
 ty:=214
 st:=113
 bytes:=16
 zv:= Xi #[Xe Xf 0,Xe Xf 0]
 zero:=(0,0)
 len:=fun _=>rfl
 one:=fun a u hu=>by
  simp only[zqd,mC,nM,or_false]at hu
  rcases hu with rfl|rfl <;> rfl
 und:=zqS
 info:=zqR
 zok:=rfl
 few:=by decide
 pos:=by decide
theorem ziW (s) (kind k:Int):(znU s kind k).length<=64:=by
 unfold znU;exact nT (List.length_filter_le _ _) Sm
theorem zc6 (m) (kind k:Int):∀q,(j3 m kind k q).length<=64*q
 | 0=>by simp[zj0]
 | q+1=>by
  rw[zeg,lA,Xu];have a:=zc6 m kind k q;have a:=ziW (m.sp.getD q ⟨Xd,[],[]⟩) kind k;omega
theorem zfm {w:Xn} {p:Nat} (h:ChW w0 p w V m) (kind k:Int) (h4:m.sp.length<=4):
  Xp prog 149 #[Xj (Xa ⟨p,0,Xb⟩),I6 kind,I6 k] w fun e w'=>∃v,e= Xl v/\zb zeO w.heap.size w' v (j3 m kind k m.sp.length)/\zc w w':=by
 obtain⟨xs,hxl,hrow,hsp⟩:=h.at.spaces;obtain⟨-,-,-,-,-,-,-,-,n9⟩:=h.at.ns;obtain⟨spa,HSA⟩:=kA V.sp.a;obtain⟨sn,HSN⟩:=kA m.sp.length;have c10:=h.box.box.c 10 rfl;rw[n9,HSN.out,HSA.out]at c10;have HXL:Xo (xs.length=sn):=dD<|Rx hxl HSN.out
 have HRW:Xo (∀(j:Nat) x,xs[j]? =Xa x->∃ad,spa=Xa ad/\∀W,zc w W->zja W (ad.add (j*10)) x):=dD<|by rw[<-HSA.out];exact hrow
 have HSP:=dD hsp
 have hsn4:sn<=4:=Ry HSN.out h4
 rw[HSN.out];clear h hxl hrow hsp n9 h4
 go_enter func149,ntmps149
 go_wp2;clear c10
 go_loopg [7,18] sn (fun gg s7 s18 wr=>∃(q:Nat) (a7:Option Addr) (n7 c7:Nat),q<=sn/\sn - q<=gg/\s18=I6 q/\s7= O a7 n7 c7/\Xo (zc w wr)/\Xo (zb zeO w.heap.size wr (O a7 n7 c7) (j3 m kind k q)))
 exact⟨0,Xb,0,0,nZ _,Wm,rfl,rfl,zc.refl _,zb.nil _ _ _⟩
 obtain⟨q,a7,n7,c7,hq,hgq,rfl,rfl,GW,OW⟩:=hrel
 by_cases hlt:q<sn
 ·have hltz:=kC hlt
  obtain⟨x,hx⟩:∃x,xs[q]? =Xa x:=⟨_,gE (Rx HXL.out hlt)⟩
  obtain⟨s,HS⟩:∃s,Xo (m.sp[q]? =Xa s):=⟨_,gE (Rx HSN.out hlt)⟩
  have HAT:=dD<|HSP.out q x s hx HS.out;obtain⟨ad,rfl,hl⟩:=HRW.out q x hx;obtain⟨d0,d1,d2,d3,d4,d5,d6,d7,d8,d9⟩:=hl wr GW.out;have HNX:Xo (j3 m kind k (q+1)=j3 m kind k q++(znU s kind k).map fun n=>(q,n)):=show _=_ by rw[zeg,Sp.getD_of HS.out]
  have HLE:=dD<|zc6 m kind k q;have HFL:=dD<|ziW s kind k;clear hl hx;go_upto_region 5 with fail;obtain⟨W5,hW5⟩:=kB (wr.alloc (Xk #[Xh x.live,x.ar.x,x.t0.x,x.t1.x,x.t2.x,x.t3.x,x.t4.x,x.t5.x,x.t6.x,x.t7.x] 79));have g5:=gP hW5
  have S5:=xA hW5
  have G5:=dD (GW.trans g5);have O5:=dD (OW.grew g5);rw[hW5];clear hW5 g5 d0 d1 d2 d3 d4 d5 d6 d7 d8 d9;have hc:Xp prog 165 #[Xi #[x.t0.x,x.t1.x,x.t2.x,x.t3.x,x.t4.x,x.t5.x,x.t6.x,x.t7.x],I6 kind,I6 k] W5 fun e w'=>∃v,e= Xl v/\zb blE W5.heap.size w' v ((znU s kind k).map fun(n:Nat)=>(n:Int))/\zc W5 w':=zka x.tab s.tb kind k W5 (HAT.tb.grew G5)
  have s2:=S5.c 2 rfl;have s3:=S5.c 3 rfl;have s4:=S5.c 4 rfl;have s5:=S5.c 5 rfl;have s6:=S5.c 6 rfl;have s7:=S5.c 7 rfl;have s8:=S5.c 8 rfl;have s9:=S5.c 9 rfl;go_wp2_with fail;refine hc.mono ?_;clear hc s2 s3 s4 s5 s6 s7 s8 s9;rintro e W6 ⟨v,rfl,ow6,g6⟩;obtain⟨FN,HFN⟩:=kA (znU s kind k);rw[HFN.out]at ow6 HNX HFL;obtain⟨va,vc,rfl⟩:=ow6.form;rw[Xu]at ow6;have F6:=dD ow6
  have G6:=dD (G5.trans g6);have O6:=dD (O5.grew g6);rw[Xu];obtain⟨fl,HFL2⟩:=kA FN.length;rw[HFL2.out]at F6 HFL⊢;have hfl64:fl<=64:=HFL.out;clear ow6 g6;obtain⟨b5,HB5⟩:=kA W5.heap.size;have HWB:=dD<|bS G6.out
  rw[HB5.out]at F6;go_wp2
  go_loopg [7,29] fl (fun gg s7 s29 wr=>∃(j:Nat) (a7:Option Addr) (n7 c7:Nat),j<=fl/\fl - j<=gg/\s29=I6 j/\s7= O a7 n7 c7/\Xo (zc w wr)/\Xo (zb zeO w.heap.size wr (O a7 n7 c7) (j3 m kind k q++(FN.take j).map fun n=>(q,n)))/\Xo (zb blE b5 wr (O va fl vc) (FN.map fun(n:Nat)=>(n:Int))))
  exact⟨0,a7,n7,c7,nZ _,Wm,rfl,rfl,G6,show zb _ _ _ _ _ by simpa using(show zb _ _ _ _ _ from O6.out),F6.out⟩
  obtain⟨j,a8,n8,c8,hj,hgj,rfl,rfl,GJ,OJ,FJ⟩:=hrel
  by_cases hlj:j<fl
  ·have hljz:=kC hlj
   obtain⟨n,hn⟩:∃n,FN[j]? =Xa n:=⟨_,gE (by rw[HFL2.out];exact hlj)⟩
   have hnm:(FN.map fun(n:Nat)=>(n:Int))[j]? =Xa (n:Int):=by rw[Xx,hn];rfl
   obtain⟨_,_,hve,hrows⟩:=FJ.at.rows;simp only[vJ]at hve;obtain⟨ad2,had2,hl2⟩:=hrows j _ hnm;rw[<-hve.1]at had2;subst had2;have e0:wr.cell? (ad2.add (j*1))=Xa (I6 (n:Int)):=by
    have:=hl2 wr (zc.refl _) 0 _ rfl;rw[Addr.add_add]at this;exact this
   rw[Nat.mul_one]at e0;have HTK:Xo ((FN.take (j+1)).map (fun n=>(q,n))=(FN.take j).map (fun n=>(q,n))++ [(q,n)]):=dD<|by rw[Yt,hn];simp
   have HBD:Xo (((j3 m kind k q++(FN.take j).map fun n=>(q,n)).length+ [(q,n)].length)*16<=140737488355328):=dD<|by
    rw[lA,Xu,Xt];have:=HLE.out;simp only[Yj,List.length_nil];omega
   clear hn hnm hve hrows hl2;obtain⟨L0,HL0⟩:=kA (j3 m kind k q++(FN.take j).map fun n=>(q,n))
   rw[HL0.out]at OJ HBD;have O2:Xo (zb zeO w.heap.size (wr.alloc (Xk #[I6 (q:Int),I6 (n:Int)] 214)) (O a8 n8 c8) L0):=OJ.grew (za wr (Xk #[I6 (q:Int),I6 (n:Int)] 214));have HSZ:Xo (w.heap.size<=(wr.alloc (Xk #[I6 (q:Int),I6 (n:Int)] 214)).heap.size):=show _<=_ from nT (bS GJ) (bS (za _ _))
   go_wp2_with (at_builtin;refine zn (E:=zeO) rfl (.tmp 33) (.tmp 37) rfl w.heap.size (O a8 n8 c8) L0 rfl O2 _ [(q,n)] rfl (qN zeO wr (q,n) _ _ rfl Dc) HBD HSZ.out ?_)
   intro v9 W9 ow9 gr9;obtain⟨a9,c9,rfl⟩:=ow9.form;have O9:Xo (zb zeO w.heap.size W9 _ (j3 m kind k q++(FN.take (j+1)).map fun n=>(q,n))):=dD<|by rw[HTK.out,<-Yi,HL0.out];exact ow9
   have ga:zc wr (wr.alloc (Xk #[I6 (q:Int),I6 (n:Int)] 214)):=za _ _;have F9:Xo (zb blE b5 W9 (O (Xa ad2) fl vc) (FN.map fun(n:Nat)=>(n:Int))):=dD<|(FJ.grew ga).grown gr9 (fun g hg e=>(FJ.grew ga).apart O2 Dc g hg e)
   have G9:=dD<|zT (GJ.trans ga) gr9 (fun g hg=>(O2.lt g hg).1)
   clear ow9 gr9 ga e0;try simp only[Xs]
   go_wp2
   go_roundg (fl -(j+1));exact⟨j+1,_,_,_,Wm,Wm,Gn,rfl,G9,O9,F9⟩;omega
  have hljz:=kD hlj
  have OQ:Xo (zb zeO w.heap.size wr (O a8 n8 c8) (j3 m kind k (q+1))):=dD<|by
   rw[HNX.out];have:=OJ.out;rw[Xy (by rw[HFL2.out];omega)]at this
   exact this
  go_wp2
  go_roundg (sn -(q+1));exact⟨q+1,a8,n8,c8,Wm,Wm,Gn,rfl,GJ,OQ⟩;omega
 have hltz:=kD hlt
 obtain rfl:q=sn:=Wm
 go_wp2;go_ret;exact⟨_,rfl,OW,GW⟩
theorem zh3 {w:Xn} {p:Nat} (a5:ChW w0 p w V m) (q:Nat) (a9:q<m.sp.length) (n:Int) (z:En):
  Xp prog 150 #[Xj (Xa ⟨p,0,Xb⟩),Xi #[I6 (q:Int),I6 n],Xi #[I6 z.kind,I6 z.n,Xh z.wr]] w fun e w'=>(∃v,e= Xl v)/\Chg w0 p w V (JU m q n z) w':=by
 obtain⟨s,S⟩:∃s,m.sp[q]? =Xa s:=⟨_,gE a9⟩;obtain⟨ar,N,ah,ai⟩:=a5.sp;obtain⟨x,D⟩:∃x,ar[q]? =Xa x:=⟨_,gE (Rx ah a9)⟩
 have T:=dD<|ai q x s D S w (qD.refl _ _);obtain⟨b8,G⟩:=kA ar.length;obtain⟨k,be,l⟩:=N.formS Wm
 rw[G.out]at l;have bi:(q:Int)< (b8:Int):=Hm G.out
 have A:=dD l;have aw:=dD a5;have ax:=dD D;have ba:=dD S;have Z:=dD ah;have a0:=dD ai;rw[l]at N;have F:=dD N;have X:Xo (∀W,zc w W->zja W ⟨k,q*10,Xb⟩ x):=show∀W,_ from fun W a7=>by
  have:=((N.grew a7).one D).sp10;rw[Xz,zA]at this;exact this
 have b9:=dD<|fun W (a7:zc w W)=>zk7 x.tab s.tb n z W (T.tb.grew a7)
 have Y:Xo (JU m q n z={ m with sp:=m.sp.set q { s with tb:=zhr s.tb n z } }):=dD<|by unfold JU;rw[Sp.getD_of S]
 rw[Y.out];clear a5 a9 S N ah ai D l;obtain⟨az,d⟩:=kB ((w.alloc (Xk #[I6 (q:Int),I6 n] 214)).alloc (Xk #[I6 z.kind,I6 z.n,Xh z.wr] 75));have au:=gD2 d
 have a2:=x2a d
 have b0:=x2b d
 have a1:=dD d;clear d;have a3:az.cell? ⟨p,10,Xb⟩=Xa (O (Xa ⟨k,0,Xb⟩) b8 be):=by rw[<-A.out];exact(aw.box.box.grew au).c 10 rfl
 have b7:=a2.c 0 rfl
 go_enter func150,ntmps150
 go_upto_region 1 with fail;rw[a1.out];obtain⟨g,U⟩:=kA w.heap.size;rw[U.out]at a2 b0 b7⊢
 go_upto_region 2 with(go_quiet (fail))
 clear a3 b7;obtain⟨j,f⟩:=kB (az.drewN nq);have Q:Xo (zc w j):=dD<|by rw[<-f];exact au.trans (show Below _ _ _ from bD (bR _ _) _)
 have bc:Xo (Box j g [I6 (q:Int),I6 n]):=dD<|by rw[<-f];exact a2.grew (show Below _ _ _ from bD (bR _ _) _)
 have bd:Xo (Box j (g+1) [I6 z.kind,I6 z.n,Xh z.wr]):=dD<|by rw[<-f];exact b0.grew (show Below _ _ _ from bD (bR _ _) _)
 rw[f];clear f;obtain⟨i,h⟩:=Wq fun u=>Box u g [I6 (q:Int),I6 n]/\Box u (g+1) [I6 z.kind,I6 z.n,Xh z.wr]
 have C:i j.drew:=(h _).2 ⟨bc.grew (gW _),bd.grew (gW _)⟩
 have H:zc j j.drew:=show Below _ _ _ from(bR _ _).drew
 have ab:∀y:zj i,y.world.cell? ⟨g,1,Xb⟩=Xa (I6 n):=fun y=>((h _).1 y.holds).1.c 1 rfl
 have ac:∀y:zj i,y.world.cell? ⟨g+1,0,Xb⟩=Xa (I6 z.kind):=fun y=>((h _).1 y.holds).2.c 0 rfl
 have ad:∀y:zj i,y.world.cell? ⟨g+1,1,Xb⟩=Xa (I6 z.n):=fun y=>((h _).1 y.holds).2.c 1 rfl
 have ae:∀y:zj i,y.world.cell? ⟨g+1,2,Xb⟩=Xa (Xh z.wr):=fun y=>((h _).1 y.holds).2.c 2 rfl
 have a8:Nonempty (zj i):=⟨⟨_,C⟩⟩;refine zQ (I:=i) 15 [(4,fun v=>v= Xi #[x.t0.x,x.t1.x,x.t2.x,x.t3.x,x.t4.x,x.t5.x,x.t6.x,x.t7.x]),(8,fun v=>∃r:List Xq,v= Xm #[Xi r.toArray,I6 (zg9 s.tb n z)]),(14,fun _=>True)] (fun u=>zc j u) C H z6 Kr rfl rfl Dc (Sc ⟨_,rfl⟩ ⟨_,[],rfl⟩ ⟨undef,trivial⟩) Kr ?_
 simp only[Yg,Yh];iterate 2 refine zz ?_
 refine z4 (.tmp 17) ⟨k,q*10,Xb⟩ rfl rfl rfl rfl ?_;refine Uq ?_;refine zz ?_
 refine zI rfl rfl (fun _ u=>zc j u) (fun w' c b=>?_) (fun b6 L=>?_)
 ·refine zdl 72 (.tmp 19) rfl k (q*10+2) rfl [x.t0.x,x.t1.x,x.t2.x,x.t3.x,x.t4.x,x.t5.x,x.t6.x,x.t7.x] ?_ underlying72 rfl Kr ⟨c,rfl,b⟩
  have t:=X.out _ (Q.trans b);intro b4 v a;have bj:(w'.cell? ⟨k,q*10+2+b4,Xb⟩)=Xa v:=by
   match b4,a with
   | 0,a=>cases a;exact t.2.2.1
   | 1,a=>cases a;exact t.2.2.2.1
   | 2,a=>cases a;exact t.2.2.2.2.1
   | 3,a=>cases a;exact t.2.2.2.2.2.1
   | 4,a=>cases a;exact t.2.2.2.2.2.2.1
   | 5,a=>cases a;exact t.2.2.2.2.2.2.2.1
   | 6,a=>cases a;exact t.2.2.2.2.2.2.2.2.1
   | 7,a=>cases a;exact t.2.2.2.2.2.2.2.2.2
  exact bj
 cases L;refine Uq ?_;iterate 3 refine zz ?_
 refine zI rfl rfl (fun v u=>∃(r:List Xq) (R:Xn),v= Xm #[Xi r.toArray,I6 (zg9 s.tb n z)]/\zc j R/\zc R u/\Qw 0 R.heap.size u r (zhr s.tb n z)) (fun w' c b=>?_) (fun b6 L=>?_)
 ·refine zJ.call [Xi #[x.t0.x,x.t1.x,x.t2.x,x.t3.x,x.t4.x,x.t5.x,x.t6.x,x.t7.x],I6 n,Xi #[I6 z.kind,I6 z.n,Xh z.wr]] rfl func166 rfl rfl rfl ?_;refine(b9 w' (Q.trans b)).mono ?_;rintro e bk ⟨r,rfl,P,a4⟩;obtain⟨af,ag⟩:=(h _).1 c;exact⟨_,rfl,(h _).2 ⟨af.grew a4,ag.grew a4⟩,⟨r,rfl⟩,r,w',rfl,b,a4,P⟩
 obtain⟨r,rfl⟩:=L;refine Uq ?_;iterate 3 refine zz ?_
 refine z4 (.tmp 16) ⟨k,q*10,Xb⟩ rfl rfl rfl rfl ?_;refine Uq ?_;refine zz ?_
 refine zI rfl rfl (fun _ u=>Chg w0 p w V { m with sp:=m.sp.set q { s with tb:=zhr s.tb n z } } u) (fun w' c b=>?_) (fun b6 L=>?_)
 ·obtain⟨aq,R,bg,b1,bf,b5⟩:=b;have aa:aq=r:=by simpa using bg.symm
  subst aa;obtain⟨aj,ak,P,al,am,an,ao,ap,rfl⟩:=b5.form;have av:=(Q.trans b1).trans bf;refine zb8 (E:=ZC) (.tmp 28) (.tmp 25) 72 rfl w0.heap.size _ ar (F.grew av) k q 2 rfl x ⟨x.live,x.ar,aj,ak,P,al,am,an,ao,ap⟩ ax.out [aj.v,ak.v,P.v,al.v,am.v,an.v,ao.v,ap.v] Kr rfl (by show 2+8<=10;omega) ?_ ⟨k,q*10+2,Xb⟩ rfl rfl (Xi #[aj.v,ak.v,P.v,al.v,am.v,an.v,ao.v,ap.v]) rfl rfl ?_
  ·intro u b3;simp only[mC,nM,or_false]at b3
   rcases b3 with rfl|rfl|rfl|rfl|rfl|rfl|rfl|rfl <;> rfl
  intro bb M B _;rw[<-A.out]at M;obtain⟨af,ag⟩:=(h _).1 c;have bh:=F.lt k rfl;refine⟨(h _).2 ⟨af.grown B (Hm U.out),ag.grown B (Hm U.out)⟩,trivial,aw.setT Z a0 ax ba (by have b2:=A.out;(try simp only[Sli.x]at b2);unfold oB;rw[b2];rfl) av (b5.less (nR _) (nT (bS Q) (bS b1))) B M ⟨rfl,rfl,rfl⟩⟩
 clear L;try simp only[Xs]
 refine qJ fun bb a6 K=>?_
 have ay:=dD K;clear a6 K C H ab ac ad ae a8;go_wp2
 exact Ge ay.out
theorem ChW.off {w:Xn} {p:Nat} (h:ChW w0 p w V m) {g:Nat} {cs:Array Xq} (c:w.heap[g]? =Xa (Xk cs t (0,0))) (t1:91≠t) (t2:qA.ty≠t) (f:jG.ty≠t) (i:ZC.ty≠t):¬Dw p V g:=by
 have a:∀{d:Type} {E:Elt d} {b:Nat} {v:Xq} {l:List d},zb E b w v l->E.ty≠t->v.ownBlock≠Xa g:=fun r d e=>by
  obtain⟨b,b⟩:=r.obj e;rw[b]at c;cases c;exact d rfl
 rintro(e|e|e|e)
 ·subst e;have b:w.heap[g]? =_:=h.box;rw[b]at c;cases c;exact t1 rfl
 ·exact a h.fs t2 e
 ·exact a h.ca f e
 obtain⟨b,b,_⟩:=h.sp;exact a b i e
theorem ChW.offB {w:Xn} {p:Nat} {cs:List Xq} (h:ChW w0 p w V m) (a:zo w b t cs) (t1:91≠t) (t2:qA.ty≠t) (c:jG.ty≠t) (d:ZC.ty≠t):¬Dw p V b:=h.off (show w.heap[b]? =_ from a) t1 t2 c d
theorem ChW.offR {w:Xn} {p:Nat} {α:Type} {E:Elt α} {base:Nat} {v:Xq} {l:List α} (h:ChW w0 p w V m) (r:zb E base w v l) (t1:91≠E.ty) (t2:qA.ty≠E.ty) (c:jG.ty≠E.ty) (d:ZC.ty≠E.ty):∀g,v.ownBlock=Xa g->¬Dw p V g:=fun g b=>by
 obtain⟨a,a⟩:=r.obj b;exact h.off a t1 t2 c d
theorem zb.chg {w:Xn} {p:Nat} {α:Type} {E:Elt α} {base:Nat} {v:Xq} {l:List α} (r:zb E base w v l) (o:qD (Dw p V) w w1) (a:∀g,v.ownBlock=Xa g->¬Dw p V g):zb E base w1 v l:=⟨zcO r.1 o a,r.2⟩
def QM (m:Ma) (e:En) (l:List (Nat × Nat)):Ma:=l.foldl (fun m x=>JU m x.1 (x.2:Int) e) m
theorem zhZ (m e) (l:List (Nat × Nat)) (x:Nat × Nat):QM m e (l++ [x])=JU (QM m e l) x.1 (x.2:Int) e:=by simp[QM]
theorem zaE (e):∀(l:List (Nat × Nat)) (m:Ma),(QM m e l).sp.length=m.sp.length/\(QM m e l).fs=m.fs/\(QM m e l).hand=m.hand
 | [],_=>⟨rfl,rfl,rfl⟩
 | x :: l,m=>by
  have h:=zaE e l (JU m x.1 (x.2:Int) e);exact⟨h.1.trans (zkg _ _ _ _),h.2⟩
def zaj (m:Ma) (k:Nat) (r:Int) (e:En):Ma:={ QM m e (j3 m 1 (k:Int) m.sp.length)with fs:=zfe m.fs m.hand (k:Int) (-r),hand:=m.hand }
theorem zdn {w:Xn} {p:Nat} (h:ChW w0 p w V m) (k:Nat) (fr:Fr) (f:m.fs[k]? =Xa fr) (z:En) (a:m.sp.length<=4) (d:0<=fr.r/\fr.r<=1000) (b:zgw m.fs m.hand (k:Int) (-fr.r)=0):
  Xp prog 129 #[Xj (Xa ⟨p,0,Xb⟩),I6 (k:Int),Xi #[I6 z.kind,I6 z.n,Xh z.wr]] w fun e w'=>(∃v,e= Xl v)/\Chg w0 p w V (zaj m k fr.r z) w':=by
 have l:=dD h;have H:=dD f;have X:=dD b;have u:=dD d;have c:=dD a;clear h f a b d;obtain⟨j,a⟩:=kB (w.alloc (Xk #[I6 z.kind,I6 z.n,Xh z.wr] 75));have g:=gA a
 obtain⟨C,h⟩:=kA w.heap.size;have s:=xPT a h
 have d:=dD a;clear a;have a:=zfm (l.grew g) 1 (k:Int) c.out;obtain⟨L,F⟩:=kA (j3 m 1 (k:Int) m.sp.length);rw[F.out]at a;have b:Xo (L.length<=256):=show _<=_ by
  rw[<-F.out];have G:=zc6 m 1 (k:Int) m.sp.length;have q:=c.out;omega
 have q:Xo (∀D∈L,D.1<m.sp.length):=dD<|fun D c=>by
  rw[<-F.out]at c;exact((zc5 Dc (nR _)).1 c).1
 go_enter func129,ntmps129
 go_upto_region 1 with fail;rw[d.out,h.out];go_wp2_with fail;refine a.mono ?_;clear a;rintro e a ⟨v,rfl,a,A⟩;obtain⟨t,U,rfl⟩:=a.form;obtain⟨h,d⟩:=kA L.length;rw[d.out]at a b⊢;have r:h<=256:=b.out;obtain⟨N,b⟩:=kA j.heap.size;rw[b.out]at a;have r:=dD a;have b:=dD (g.trans A);have g:=dD (s.grew A);clear a A;go_wp2
 go_loopg [12] h (fun s a wr=>∃(j:Nat) (B:MaV),j<=h/\h - j<=s/\a=I6 j/\Xo (ChW w0 p wr B (QM m z (L.take j)))/\Xo (qD (Dw p V) w wr)/\Xo (∀k,Dw p B k->Dw p V k\/w.heap.size<=k)/\Xo (zb zeO N wr (O t h U) L)/\Xo (zo wr C 75 [I6 z.kind,I6 z.n,Xh z.wr]))
 exact⟨0,V,nZ _,Wm,rfl,l.grew b,qD.grew b,fun k f=> .inl f,r,g⟩
 obtain⟨j,B,y,a,rfl,f,Q,P,t,T⟩:=hrel
 by_cases l:j<h
 ·have s:=kC l
  obtain⟨⟨E,n⟩,c⟩:∃D,L[j]? =Xa D:=⟨_,gE (Rx d.out l)⟩
  obtain⟨g,Y,b⟩:=t.formS (by rw[d.out];omega)
  simp only[vJ]at b;obtain⟨rfl,-,-⟩:=b;have a:=t.one c;have r:wr.cell? ⟨g,j*2,Xb⟩=Xa (I6 (E:Int)):=by
   have:=a 0 _ rfl;rw[Xz,Xz,zA,Yl]at this;exact this
  have M:wr.cell? ⟨g,j*2+1,Xb⟩=Xa (I6 (n:Int)):=by
   have:=a 1 _ rfl;rw[Xz,Xz,zA]at this;exact this
  have S:=dD<|q.out _ (mG c);have K:Xo (L.take (j+1)=L.take j++ [(E,n)]):=show _=_ by rw[Yt,c];rfl
  clear a c;go_upto_region 4 with fail;clear r M;obtain⟨a,r⟩:=kA wr.heap.size;obtain⟨a,a⟩:=kB (wr.alloc (Xk #[I6 (E:Int),I6 (n:Int)] 214));have q:=gA a
  have R:=xPT a r
  have M:=dD (T.grew q);rw[a,r.out];clear a;have r:=dD (f.grew q);have a:=zh3 r E (by rw[(zaE z _ m).1];exact S) (n:Int) z
  have E:=R.box.c 0 rfl;have S:=R.box.c 1 rfl;obtain⟨R,T,W⟩:=M.box.c3;go_wp2_with fail;refine a.mono ?_;clear a E S R T W;rintro e E ⟨⟨a,rfl⟩,R,T,a,S⟩;have W:Xo (ChW w0 p E R (QM m z (L.take (j+1)))):=dD<|by rw[K.out,zhZ];exact T
  have K:=Chg.step (w0:=w0) (m':=QM m z (L.take (j+1))) Q P (Chg.of_grew q ⟨R,W,a,S⟩);have R:Xo (zb zeO N E (O (Xa ⟨g,0,Xb⟩) h U) L):=(t.grew q).chg a (r.offR (t.grew q) Dc Dc Dc Dc)
  have W:Xo (zo E C 75 [I6 z.kind,I6 z.n,Xh z.wr]):=M.outD a (r.offB M Dc Dc Dc Dc)
  obtain⟨U,r,t,q⟩:=K;have K:=dD r;have M:=dD t;have E:=dD q
  clear T a S r t q;go_wp2
  go_roundg (h -(j+1));exact⟨j+1,U,Wm,Wm,Gn,K,M,E,R,W⟩;omega
 have s:=kD l
 have a:Xo (L.take j=L):=dD<|Xy (by rw[d.out];omega)
 rw[a.out]at f;obtain⟨K,l⟩:=kA (QM m z L);rw[l.out]at f;have a:Xo (K.fs=m.fs/\K.hand=m.hand):=dD<|by rw[<-l.out];exact(zaE z L m).2
 obtain⟨g,Y,b⟩:=f.fs.formS (by rw[a.1];have:=(gS.1 H).1;omega)
 obtain⟨⟨d,t,q⟩,d,d,d,d,d,d,d,d⟩:=B;simp only[vJ]at b;obtain⟨rfl,d,-⟩:=b;have b:(k:Int)< (t:Int):=by
  have G:=(gS.1 H).1;rw[d,a.1];omega
 have b:Xo (∀W,zc wr W->W.cell? ⟨g,k*13+8,Xb⟩=Xa (I6 fr.r)):=dD<|fun W h=>by
  have:=(f.fs.grew h).one (i:=k) (x:=fr) (Rx a.1 H) 8 _ rfl
  rw[Xz,Xz,zA]at this;exact this
 have M:Xo (∀W,zc wr W->Xp prog 151 #[Xi #[O (Xa ⟨g,0,Xb⟩) t q,I6 m.hand],I6 (k:Int),I6 (-fr.r)] W fun e w'=>∃s:Sli,e= Xl (Xm #[Xi #[s.x,I6 m.hand],I6 0])/\zb qA W.heap.size w' (s.x) (zfe m.fs m.hand (k:Int) (-fr.r))/\zc W w'):=dD<|fun W h=>by
  have r:=(f.at.grew h).fs;rw[a.1]at r d;rw[d]at r⊢;refine(znG (Xa ⟨g,0,Xb⟩) q m.fs m.hand (k:Int) (-fr.r) W r X).mono ?_;rintro e w' ⟨C,rfl,r,g⟩;have h:zb qA W.heap.size w' C (zfe m.fs m.hand (k:Int) (-fr.r)):=r;obtain⟨B,C,rfl⟩:=h.form;exact⟨⟨B,_,C⟩,rfl,r,g⟩
 have h:=dD f.box;have H:=dD a.2;clear d;obtain⟨r,B⟩:=kA fr.r;rw[B.out]at b M u;obtain⟨a,a⟩:=u.out;go_upto_region 6 with fail;obtain⟨a,E⟩:=Wq fun u=>u.cell? ⟨g,k*13+8,Xb⟩=Xa (I6 r)
 have L:zc wr wr.drew:=show Below _ _ _ from(bR _ _).drew
 have d:=(E _).2 (b _ L);have C:zc wr wr.drew:=L;have R:∀L:zj a,L.world.cell? ⟨g,k*13+8,Xb⟩=Xa (I6 r):=fun L=>(E _).1 L.holds
 have L:Nonempty (zj a):=⟨⟨_,d⟩⟩;refine Zg (I:=a) 26 [(18,fun v=>∃s:Sli,v= Xm #[Xi #[s.x,I6 m.hand],I6 0]),(25,fun _=>True)] [5,12] (fun u=>zc wr u) d C z6 Kr rfl rfl Dc (Sb ⟨_,zG,rfl⟩ ⟨undef,trivial⟩) Kr Kr ?_
 simp only[Yg,Yh];iterate 2 refine Za ?_
 refine ZT (.tmp 23) ⟨p,0,Xb⟩ rfl rfl rfl rfl ?_;refine Uq ?_;iterate 2 refine Za ?_
 refine QI rfl rfl rfl (Xi #[O (Xa ⟨g,0,Xb⟩) t q,I6 m.hand]) (fun w' _ a=>?_) ?_
 ·exact zld 28 (.tmp 26) rfl p 0 rfl [O (Xa ⟨g,0,Xb⟩) t q,I6 m.hand] ((h.box.grew a).mid 0 (fun j v y=>by
   match j,y with
   | 0,y=>exact y
   | 1,y=>rw[<-H.out]at y;exact y)) underlying28 rfl Kr
 refine Uq ?_;iterate 2 refine Za ?_
 refine ZT (.tmp 29) ⟨p,0,Xb⟩ rfl rfl rfl rfl ?_;refine Uq ?_;iterate 3 refine Za ?_
 refine QI rfl rfl rfl (O (Xa ⟨g,0,Xb⟩) t q) (fun w' _ a=>?_) ?_
 ·exact zbo 26 (.tmp 33) rfl p 0 rfl (O (Xa ⟨g,0,Xb⟩) t q) ((h.box.grew a).c 0 rfl) underlying26 rfl
 refine Uq ?_;iterate 5 refine Za ?_
 refine QH rfl rfl (fun v u=>∃(s:Sli) (c:Xn),v= Xm #[Xi #[s.x,I6 m.hand],I6 0]/\zc wr c/\zc c u/\zb qA c.heap.size u (s.x) (zfe m.fs m.hand (k:Int) (-r))) (fun w' j a=>?_) (fun D y=>?_)
 ·refine zJ.call [Xi #[O (Xa ⟨g,0,Xb⟩) t q,I6 m.hand],I6 (k:Int),I6 (-r)] rfl func151 rfl rfl rfl ?_;refine(M w' a).mono ?_;rintro e q ⟨s,rfl,q,A⟩;exact⟨_,rfl,(E _).2 (b _ (a.trans A)),⟨s,rfl⟩,s,w',rfl,a,A,q⟩
 obtain⟨s,rfl⟩:=y;refine Uq ?_;iterate 3 refine Za ?_
 refine ZT (.tmp 22) ⟨p,0,Xb⟩ rfl rfl rfl rfl ?_;refine Uq ?_;iterate 2 refine Za ?_
 refine QH rfl rfl (fun _ u=>Chg w0 p w V (zaj m k r z) u) (fun w' j a=>?_) (fun D y=>?_)
 ·obtain⟨j,c,c,t,q,u⟩:=a;have a:j=s:=by
   obtain⟨A,A,A⟩:=s;obtain⟨N,s,s⟩:=j;simp only[Value.tuple.injEq,Array.mk.injEq,List.cons.injEq,Value.agg.injEq,vJ,and_true]at c;obtain⟨rfl,rfl,rfl⟩:=c;rfl
  subst a;have c:=t.trans q;refine ZZ 28 (.tmp 45) (.tmp 41) rfl p 0 rfl (Xi #[j.x,I6 m.hand]) rfl [j.x,I6 m.hand] rfl (h.grew c) (by simp[chL]) Kr (by simp[Value.oneCell']) ?_
  intro q h a _;have j:=f.nf g rfl;refine⟨(E _).2 ?_,trivial,?_⟩
  ·have G:=b.out _ c;have b:=World.block_lt_of_cell? _ _ G;rw[World.cell?_of_block (w:=w') (a.block g b (fun e=>by cases e;exact j rfl))]
   exact G
  have b:zaj m k r z={ K with fs:=zfe m.fs m.hand (k:Int) (-r),hand:=m.hand }:=by
   unfold zaj;rw[F.out,l.out]
  rw[b];exact Chg.step Q P (f.setF c (u.base (bS t)) a h)
 clear y;try simp only[Xs]
 refine Qq fun q b a=>?_
 have c:Xo (Chg w0 p w V (zaj m k fr.r z) q):=dD<|Rx B.out a
 clear b a d C R L;go_wp2
 exact Ge c.out
theorem zgd:∀(m:Nat) (fs:List Fr) (h:Nat),h<fs.length->(∀q∈fs,q=frF)->jC m fs h=(fs,(h+m) % fs.length,-1)
 | 0,fs,h,a,_=>by
  rw[jC,Yl,Yd a]
 | m+1,fs,h,a,b=>by
  have d:fs.getD h fr0=frF:=by
   rw[gD,gE a];exact b _ (Yv a)
  have e:fs.set h (frU frF)=fs:=by
   apply Yu
   intro j
   by_cases c:j=h
   ·subst c;rw[sF a,gE a,b _ (Yv a)];rfl
   rw[sN (Ne.symm c)]
  rw[jC,d,show ziP frF=Xd from rfl,e]
  rw[kF Dc,zgd m fs ((h+1) % fs.length) (Yn _ Wm) b]
  rw[Yq,Nat.add_assoc,Nat.add_comm 1 m]
theorem zlY {q:Fr} (a:frW q=0) (c:q.r=0):q=frF:=by
 unfold frW at a
 by_cases b:(inB q.r 1001 && inB q.x 12)=Xd
 ·rw[kE b]at a;omega
 rw[kF b]at a
 by_cases b:(!(q.f == -1) && !inB q.f 5)=Xc
 ·rw[kE b]at a;omega
 rw[kF b]at a
 by_cases b:(q.r == 0 && !Qf q frF || q.f == -1 && !(q.x == 0))=Xc
 ·rw[kE b]at a;omega
 simp[c]at b
 exact zcl b.1
def zfv (q:Fr):Bool:=decide (0<q.r)
theorem zjH {fs:List Fr} {h:Int} (a:Zt fs h=0) (e:fs.any zfv=Xd):Jr fs h=(fs,h.toNat,-1):=by
 obtain⟨b,c,b,b⟩:=j0 a;have a:∀q∈fs,q=frF:=fun q b=>by
  have d:=Oi.1 e q b;unfold zfv at d;have e:=(za9 (c q b)).1;exact zlY (c q b) (by simp at d;omega)
 unfold Jr
 by_cases b:fs.length=0
 ·rw[b];rfl
 rw[zgd _ fs h.toNat Wm a,Nat.add_comm,Nat.two_mul,Nat.add_assoc,Nat.add_mod_left,Nat.add_mod_left,Yd Wm]
def zbk (fs gs:List Fr):Prop:=gs.length=fs.length/\∀(i:Nat) q,fs[i]? =Xa q->∃q',gs[i]? =Xa q'/\(q'=q\/q'=frU q)
theorem zbk.refl (fs):zbk fs fs:=⟨rfl,fun _ q h=>⟨q,h,.inl rfl⟩⟩
theorem zbk.set {fs a:List Fr} (h:zbk fs a) (i:Nat):zbk fs (a.set i (frU (a.getD i fr0))):=by
 refine⟨Rx Yr h.1,fun j q d=>?_⟩
 obtain⟨c,a,b⟩:=h.2 j q d
 by_cases e:j=i
 ·subst e;have d:=(gS.1 a).1;refine⟨frU c,?_,?_⟩
  ·rw[sF d,gD,a];rfl
  right
  rcases b with rfl|rfl <;> rfl
 exact⟨c,by rw[sN (Ne.symm e)];exact a,b⟩
theorem zax:∀(m:Nat) (fs b:List Fr) (h:Nat),zbk fs b->h<b.length->∀(a:List Fr) (c:Nat) (r:Int),jC m b h=(a,c,r)->zbk fs a/\c<a.length/\(r=-1\/∃(k:Nat) (q:Fr),r=(k:Int)/\fs[k]? =Xa q/\0<q.r/\a[k]? =Xa (frU q)/\c=(k+1) % fs.length)
 | 0,fs,b,h,f,l,a,c,r,e=>by
  rw[jC]at e;cases e;exact⟨f,l,.inl rfl⟩
 | m+1,fs,b,h,f,l,a,c,r,e=>by
  rw[jC]at e;have j:=f.set h;have i:(h+1) % b.length< (b.set h (frU (b.getD h fr0))).length:=by
   rw[Yr];exact Yn _ Wm
  by_cases d:ziP (b.getD h fr0)=Xc
  ·rw[kE d]at e;cases e;refine⟨j,i,.inr ?_⟩;have g:h<fs.length:=Ry f.1 l
   obtain⟨s,t,n⟩:=f.2 h fs[h] (gE g);have p:b.getD h fr0=s:=by rw[gD,t];rfl
   rw[p]at d;have b:0<s.r:=by unfold ziP at d;simp at d;exact d.1
   refine⟨h,fs[h],rfl,gE g,?_,?_,by rw[f.1]⟩
   ·rcases n with rfl|rfl
    ·exact b
    exact b
   rw[sF l,p]
   rcases n with rfl|rfl <;> rfl
  rw[kF d]at e;exact zax m fs _ _ j i a c r e
theorem zjY {fs:List Fr} (b:∀q∈fs,0<=q.r):fs.countP zfv+jJ fs=fs.length:=by
 induction fs with
 | nil=>rfl
 | cons a l d=>
  have c:=d fun q d=>b q (by simp[d])
  have d:=b a Sm
  unfold jJ at c⊢;rw[List.countP_cons,List.countP_cons,Yj]
  by_cases b:a.r=0
  ·rw[kF (by unfold zfv;simp;omega),kE (by simp[b])]
   omega
  rw[kE (by unfold zfv;simp;omega),kF (by simp[b])]
  omega
theorem zd8:∀(d m:Nat) (a:List Fr) (h:Nat),h<a.length->d<m->zfv (a.getD ((h+d) % a.length) fr0)=Xc->(a.getD ((h+d) % a.length) fr0).u=Xd->(jC m a h).2.2≠-1
 | d,0,_,_,_,l,_,_=>Wm
 | d,m+1,a,h,f,l,b,j=>by
  rw[jC]
  by_cases hi:ziP (a.getD h fr0)=Xc
  ·rw[kE hi];simp only;omega
  rw[kF hi]
  cases d with
  | zero=>
   rw[Yl,Yd f]at b j;unfold ziP at hi;unfold zfv at b;rw[b,j]at hi;exact absurd rfl hi
  | succ d=>
   have g:(a.set h (frU (a.getD h fr0))).length=a.length:=Yr;have c:∀i,(a.set h (frU (a.getD h fr0))).getD i fr0=if i=h/\h<a.length then frU (a.getD h fr0)else a.getD i fr0:=fun i=>by
    rw[gD]
    by_cases e:i=h
    ·subst e;rw[kE ⟨rfl,f⟩,sF f];rfl
    rw[kF Wm,sN (Ne.symm e),<-gD]
   have k:((h+1) % a.length+d) % a.length=(h+(d+1)) % a.length:=by rw[Yq,show h+1+d=h+(d+1) by omega]
   refine zd8 d m _ _ (by rw[g];exact Yn _ Wm) Wm ?_ ?_
   ·rw[g,k,c]
    split
    ·rename_i e
     rw[e.1]at b;exact b
    exact b
   rw[g,k,c]
   split
   ·rfl
   exact j
theorem zcS:∀(d m:Nat) (a:List Fr) (h:Nat),h<a.length->d+a.length<m->zfv (a.getD ((h+d) % a.length) fr0)=Xc->(jC m a h).2.2≠-1
 | d,0,_,_,_,k,_=>Wm
 | d,m+1,a,h,c,k,f=>by
  rw[jC]
  by_cases hi:ziP (a.getD h fr0)=Xc
  ·rw[kE hi];simp only;omega
  rw[kF hi];have e:(a.set h (frU (a.getD h fr0))).length=a.length:=Yr;have b:∀i,(a.set h (frU (a.getD h fr0))).getD i fr0=if i=h/\h<a.length then frU (a.getD h fr0)else a.getD i fr0:=fun i=>by
   rw[gD]
   by_cases g:i=h
   ·subst g;rw[kE ⟨rfl,c⟩,sF c];rfl
   rw[kF Wm,sN (Ne.symm g),<-gD]
  cases d with
  | zero=>
   rw[Yl,Yd c]at f;have j:((h+1) % a.length+(a.length - 1)) % a.length=h:=by
    rw[Yq,show h+1+(a.length - 1)=h+a.length by omega,Nat.add_mod_right,Yd c]
   refine zd8 (a.length - 1) m _ _ (by rw[e];exact Yn _ Wm) Wm ?_ ?_
   ·rw[e,j,b,kE ⟨rfl,c⟩];exact f
   rw[e,j,b,kE ⟨rfl,c⟩];rfl
  | succ d=>
   have j:((h+1) % a.length+d) % a.length=(h+(d+1)) % a.length:=by rw[Yq,show h+1+d=h+(d+1) by omega]
   refine zcS d m _ _ (by rw[e];exact Yn _ Wm) (by rw[e];omega) ?_
   rw[e,j,b]
   split
   ·rename_i g
    rw[g.1]at f;exact f
   exact f
theorem zjG {fs:List Fr} {h:Int} (a:Zt fs h=0):
  (Js fs h=-1/\jJ fs=fs.length)\/∃(k:Nat) (q:Fr),Js fs h=(k:Int)/\fs[k]? =Xa q/\0<q.r/\zbk fs (zby fs h)/\(zby fs h)[k]? =Xa (frU q)/\zbx fs h=(((k+1) % fs.length:Nat):Int):=by
 obtain⟨b,b,c,c⟩:=j0 a;have n:Js fs h=(Jr fs h).2.2:=kE a;have m:zby fs h=(Jr fs h).1:=kE a;have s:zbx fs h=((Jr fs h).2.1:Int):=kE a
 cases c:fs.any zfv with
 | false=>
  left;rw[n,zjH a c];refine⟨rfl,?_⟩;have a:=zjY (fs:=fs) (fun q j=>(za9 (b q j)).1)
  have a:fs.countP zfv=0:=by
   rw[List.countP_eq_zero];intro a b;have:=Oi.1 c a b
   simpa using this
  omega
 | true=>
  right;obtain⟨a,a,l⟩:=Xv.1 c;obtain⟨i,p⟩:=Xw a;have f:=(gS.1 p).1;have c:h.toNat<fs.length:=Wm
  obtain⟨b,d,r,e⟩:∃b d r,jC (2*fs.length) fs h.toNat=(b,d,r):=⟨_,_,_,rfl⟩;have g:r≠-1:=by
   have a:=zcS ((i+fs.length - h.toNat) % fs.length) (2*fs.length) fs h.toNat c (by have:=Yn (i+fs.length - h.toNat) (show 0<fs.length by omega);omega) (by
    rw[Nat.add_mod_mod,show h.toNat+(i+fs.length - h.toNat)=i+fs.length by omega,Nat.add_mod_right,Yd f,gD,p]
    exact l)
   rw[e]at a;exact a
  obtain⟨f,a,a⟩:=zax (2*fs.length) fs fs h.toNat (zbk.refl fs) c b d r e
  rcases a with a|⟨k,q,rfl,j,c,b,rfl⟩
  ·exact absurd a g
  refine⟨k,q,?_,j,c,?_,?_,?_⟩
  ·rw[n];unfold Jr;rw[e]
  ·rw[m];unfold Jr;rw[e];exact f
  ·rw[m];unfold Jr;rw[e];exact b
  rw[s];unfold Jr;rw[e]
theorem zeo {e:En} (a:enW e=0):∀(l:List (Nat × Nat)) {m:Ma},(∀s∈m.sp,zb0 s.tb)->(∀x∈l,x.1<m.sp.length/\x.2<64)->QM m e l=j6 m e l
 | [],m,_,_=>rfl
 | x :: l,m,ht,b=>by
  obtain⟨c,d⟩:=b x (Ye ..)
  show QM (JU m x.1 (x.2:Int) e) e l=j6 (zeS m x.1 x.2 e) e l
  rw[zmd ht c d a];exact zeo a l (ziC ht a) (fun y a=>by rw[zhA];exact b y (List.mem_cons_of_mem _ a))
theorem zf2 {e:En}:∀(l:List (Nat × Nat)) {m m0:Ma},m.sp=m0.sp->(j6 m e l).sp=(j6 m0 e l).sp
 | [],_,_,h=>h
 | x :: l,m,m0,h=>zf2 l (m:=zeS m x.1 x.2 e) (m0:=zeS m0 x.1 x.2 e) (by unfold zeS;simp only;rw[h])
theorem za6 (h:Rt m) {k:Nat} {fr:Fr} (b:m.fs[k]? =Xa fr) (d:fr.r≠0):0<=fr.r/\fr.r<=1000/\zgw m.fs m.hand (k:Int) (-fr.r)=0:=by
 obtain⟨a,c⟩:=za9 ((j0 h.parts.1).2.1 fr (mG b));refine⟨a,c,?_⟩;have a:m.fs.getD k fr0=fr:=by rw[gD,b];rfl
 have c:=(gS.1 b).1;unfold zgw;rw[kE h.parts.1,tN,a];have a:(inB (k:Int) m.fs.length && !(fr.r == 0))=Xc:=by
  simp[inB,d]
  omega
 rw[a,kE rfl,kE Wm]
theorem ziN {m0:Ma} (h:Rt m0) (b:m.sp=m0.sp) (i:m.fs=m0.fs) (n:m.hand=m0.hand) {k:Nat} {fr:Fr} (j:m0.fs[k]? =Xa fr) (a:fr.r≠0) {e:En} (g:enW e=0):
  zaj m k fr.r e={ m with fs:=m.fs.set k frF,sp:=m.sp.map (j7 (k:Int) e) }:=by
 obtain⟨_,_,f⟩:=za6 h j a;have p:∀s∈m.sp,zb0 s.tb:=fun s a=>h.tb (Ry b a)
 have c:j3 m 1 (k:Int) m.sp.length=j3 m0 1 (k:Int) m0.sp.length:=by unfold j3;rw[b]
 have a:∀x∈j3 m0 1 (k:Int) m0.sp.length,x.1<m.sp.length/\x.2<64:=fun x q=>by
  obtain⟨d,l,_⟩:=(zc5 (m:=m0) Dc (nR _)).1 q
  exact⟨Rx b d,l⟩
 have d:(j6 m e (j3 m0 1 (k:Int) m0.sp.length)).sp=m.sp.map (j7 (k:Int) e):=by
  rw[zf2 _ b,znB h g,b]
 have b:m0.fs.getD k fr0=fr:=by rw[gD,j];rfl
 unfold zaj;rw[c,zeo g _ p a,zcJ];rw[<-i,<-n]at f;unfold zfe;rw[kE f,tN,i,b,d];have:frH fr (-fr.r)=frF:=by unfold frH;rw[kE Wm]
 rw[this]
def Jz (k:Nat) (fr:Fr) (l:List (Nat × Nat)) (q:Nat) (s:Sp) (a:Ar) (n:Nat):Bool:=decide ((qw a n).file=fr.f) && decide ((qw a n).page=fr.x) && !(l.contains (q,n)) &&(decide ((zm s n).kind=0) || isE (zm s n) 1 (k:Int))
def zfW (m:Ma) (k:Nat) (fr:Fr) (l:List (Nat × Nat)):Bool:=(Yb m.sp.length).any fun q=>(m.sp.getD q ⟨Xd,[],[]⟩).ars.any fun a=>(Yb 64).any fun n=>jX a n && Jz k fr l q (m.sp.getD q ⟨Xd,[],[]⟩) a n
theorem zaP {k:Nat} {fr:Fr} {l:List (Nat × Nat)} {q:Nat} {s:Sp} {a:Ar} {n:Nat}:Jz k fr l q s a n=Xc↔zim k fr l q s a n:=by
 unfold Jz zim
 simp[and_assoc]
theorem zcD {k:Nat} {fr:Fr} {l:List (Nat × Nat)}:zfW m k fr l=Xc↔∃(q:Nat) (s:Sp) (i:Nat) (a:Ar) (n:Nat),m.sp[q]? =Xa s/\s.ars[i]? =Xa a/\jX a n=Xc/\n<64/\zim k fr l q s a n:=by
 unfold zfW;constructor
 ·intro h;obtain⟨q,d,h⟩:=Xv.1 h;obtain⟨a,b,h⟩:=Xv.1 h;obtain⟨n,e,h⟩:=Xv.1 h;obtain⟨i,c⟩:=Xw b;have b:=Ya.1 d;have d:=gE b;rw[Sp.getD_of d]at c h;rw[Yw]at h;exact⟨q,_,i,a,n,d,c,h.1,Ya.1 e,zaP.1 h.2⟩
 rintro⟨q,s,i,a,n,b,c,d,e,f⟩;refine Xv.2 ⟨q,Ya.2 (gS.1 b).1,?_⟩;rw[Sp.getD_of b];refine Xv.2 ⟨a,mG c,Xv.2 ⟨n,Ya.2 e,?_⟩⟩;rw[Yw];exact⟨d,zaP.2 f⟩
def zko (m:Ma) (fr:Fr):List Int:=jV (pgL fr.p) fr.x (Qb m fr.f)
def Jp (m:Ma):Nat:=m.sl.findIdx isZ
def zaO (m:Ma) (k:Nat) (fr:Fr):Bool × Ma:=if Jp m<m.sl.length then(Xc,Zx m k (Jp m) fr.r (qW m.sb m.sq) (qT m.sq (Jp m:Int) (pgL fr.p)))else(Xd,m)
def zdO (m:Ma) (k:Nat) (fr:Fr) (l:List (Nat × Nat)):Bool × Ma:=
 if zko m fr≠pgL fr.p/\zfW m k fr l=Xc then(Xd,m)
 else if fr.d=Xc\/Qh m fr.f fr.x≠zko m fr then
  (if j9 m.fl m.cnt fr.f fr.x=0 then(Xc,qm (wrM m (zko m fr) fr.f fr.x) k)else if Qh m fr.f fr.x=zko m fr then(Xc,qm m k)else(Xd,m))
 else(Xc,qm m k)
def jN (m:Ma) (k:Nat) (fr:Fr) (l:List (Nat × Nat)):Bool × Ma:=if fr.f=-1 then zaO m k fr else zdO m k fr l
def ZY:Nat->Ma->List (Nat × Nat)->Bool × Ma
 | 0,m,_=>(Xd,m)
 | n+1,m,l=>
  if Js m.fs m.hand<0 then(Xd,jZ m)
  else if(jN (jZ m) (Js m.fs m.hand).toNat (zU (jZ m) (Js m.fs m.hand)) l).1=Xc then jN (jZ m) (Js m.fs m.hand).toNat (zU (jZ m) (Js m.fs m.hand)) l
  else ZY n (jZ m) l
def za8 (m:Ma) (l:List (Nat × Nat)):Bool × Ma:=ZY (2*m.fs.length) m l
section
variable{m:Ma} {k:Nat} {fr:Fr}
theorem Rt.frw (h:Rt m) (a:m.fs[k]? =Xa fr):frW fr=0:=(j0 h.parts.1).2.1 fr (mG a)
theorem zjO (S:Nat->Nat->Prop) (l:Rt m) {a:List Fr} (j:zbk m.fs a):Z6 S m { m with fs:=a }:=by
 have k:∀i,i<=m.fs.length->Z6 S m { m with fs:=a.take i++m.fs.drop i }:=by
  intro i
  induction i with
  | zero=>
   intro _;have:a.take 0++m.fs.drop 0=m.fs:=Sm
   rw[this];exact Z6.refl l
  | succ i b=>
   intro c;have g:=b Wm
   obtain⟨q,e⟩:∃q,m.fs[i]? =Xa q:=⟨_,gE Wm⟩
   obtain⟨c,h,n⟩:=j.2 i q e;have b:=j.1;have b:(a.take i).length=i:=by rw[Xt];omega
   have f:(a.take i++m.fs.drop i)[i]? =Xa q:=by
    rw[aR Wm,b,Nat.sub_self,List.getElem?_drop,Yl]
    exact e
   have p:a.take (i+1)++m.fs.drop (i+1)=(a.take i++m.fs.drop i).set i c:=by
    rw[List.set_append,kF Wm,b,Nat.sub_self,Yt,h,Yi]
    congr 1
    rw[List.drop_eq_getElem_cons (by omega:i<m.fs.length),sZ]
    rfl
   rw[p]
   by_cases p:q.r=0
   ·have h:=zlY (l.frw e) p;have b:c=q:=by
     rcases n with e|e
     ·exact e
     rw[e,h];rfl
    have h:(a.take i++m.fs.drop i).set i c=a.take i++m.fs.drop i:=by
     rw[b]
     apply Yu
     intro a
     by_cases e:i=a
     ·subst e;rw[sF (gS.1 f).1,f]
     rw[sN e]
    rw[h];exact g
   have b:c={ q with u:=c.u,d:=q.d }:=by
    rcases n with e|e
    ·rw[e]
    rw[e];rfl
   rw[b];exact g.trans (zd9 S g.rt f p c.u q.d)
 have:=k m.fs.length (nR _);rw[List.drop_length,Yf,Xy (by rw[j.1];exact nR _)]at this
 exact this
theorem zjP {fs a:List Fr} (d:zbk fs a):jJ a=jJ fs:=by
 unfold jJ;have b:a.map (fun f=>decide (f.r=0))=fs.map (fun f=>decide (f.r=0)):=by
  apply Yu
  intro i;rw[Xx,Xx]
  cases c:fs[i]? with
  | none=>
   have:a[i]? =Xb:=by rw[List.getElem?_eq_none_iff]at c⊢;rw[d.1];exact c
   rw[this]
  | some q=>
   obtain⟨a,b,a⟩:=d.2 i q c;rw[b]
   rcases a with e|e <;> rw[e] <;> rfl
 have a:=congrArg (List.countP id) b;rw[List.countP_map,List.countP_map]at a;exact a
theorem zge (S:Nat->Nat->Prop) (h:Rt m):Z6 S m (jZ m)/\jJ (jZ m).fs=jJ m.fs/\((Js m.fs m.hand=-1/\jJ m.fs=m.fs.length)\/∃(k:Nat) (fr:Fr),Js m.fs m.hand=(k:Int)/\(jZ m).fs[k]? =Xa fr/\fr.r≠0):=by
 have c:=h.parts.1;obtain⟨a,a,a,a⟩:=j0 c;have a:zby m.fs m.hand=(Jr m.fs m.hand).1:=kE c;have b:zbx m.fs m.hand=((Jr m.fs m.hand).2.1:Int):=kE c;have d:zbk m.fs (zby m.fs m.hand)/\0<=zbx m.fs m.hand/\zbx m.fs m.hand<max (m.fs.length:Int) 1:=by
  rw[a,b]
  by_cases a:m.fs.length=0
  ·have:Jr m.fs m.hand=(m.fs,m.hand.toNat,-1):=by unfold Jr;rw[a];rfl
   rw[this];exact⟨zbk.refl _,by simp only;omega,by simp only;omega⟩
  obtain⟨a,b,r,f⟩:∃a b r,jC (2*m.fs.length) m.fs m.hand.toNat=(a,b,r):=⟨_,_,_,rfl⟩;obtain⟨e,g,_⟩:=zax _ m.fs m.fs m.hand.toNat (zbk.refl _) Wm a b r f
  have:Jr m.fs m.hand=(a,b,r):=f;rw[this];have:=e.1;exact⟨e,by simp only;omega,by simp only;omega⟩
 obtain⟨a,e,f⟩:=d;have b:=zjO S h a;have d:Z6 S { m with fs:=zby m.fs m.hand } (jZ m):=zlL S b.rt e (by show _<max ((zby m.fs m.hand).length:Int) 1;rw[a.1];exact f)
 refine⟨b.trans d,zjP a,?_⟩
 rcases zjG c with⟨a,b⟩ | ⟨k,q,a,b,c,c,c,d⟩
 ·exact .inl ⟨a,b⟩
 exact .inr ⟨k,frU q,a,c,by show q.r≠0;omega⟩
theorem zoK (a:Jp m<m.sl.length):m.sl[Jp m]? =Xa 0:=by
 have b:(m.sl[Jp m] == 0)=Xc:=List.findIdx_getElem (w:=a);rw[gE a,eq_of_beq b]
theorem zk2 (S:Nat->Nat->Prop) (h:Rt m) (d:m.fs[k]? =Xa fr) (c:fr.f=-1) (e:fr.r≠0):Z6 S m (zaO m k fr).2:=by
 unfold zaO
 by_cases b:Jp m<m.sl.length
 ·rw[kE b];have a:=h.inv.sbl;have a:zk m.sb.length m.sq ((Jp m:Nat):Int)=0:=by
   unfold zk;rw[kE h.inv.sq,kE (by simp[jn];omega)]
  exact zk3 S h d c e (zoK b) (ZH _ _) (ZL a) (zdT a).2 (fun i _ c=>zap a c)
 rw[kF b];exact Z6.refl h
theorem zhg (S:Nat->Nat->Prop) (h:Rt m) {c:Ca} {F:Fl} (u:c∈m.ca) (hi:zfw m c k fi ix fr F) (a:j9 m.fl m.cnt fr.f fr.x=0) (e):∃b:Nat,wrM m e fr.f fr.x=zbs m fi ix F (b:Int) (qW m.db m.dq) (qT m.dq (b:Int) e)/\Z6 S m (zbs m fi ix F (b:Int) (qW m.db m.dq) (qT m.dq (b:Int) e))/\qv (qW m.db m.dq) (qT m.dq (b:Int) e) (b:Int)=e/\(b:Int)<m.cnt/\(∀(i j:Nat) g,m.fl[i]? =Xa g->g.bl[j]? =Xa (b:Int)->i=fi/\j=ix):=by
 have f:=a;rw[hi.ff,hi.fx]at a;obtain⟨b,q,l,n,p,r⟩:=zor h hi.fl hi.bl a;obtain⟨a,a,s⟩:=jp h.inv.dok;have a:=h.inv.cnt;have a:zk m.db.length m.dq (b:Int)=0:=by
  unfold zk;rw[kE h.inv.dok,kE (by simp[jn];omega)]
 have d:=h.inv.st;have t:wrM m e fr.f fr.x=zbs m fi ix F (b:Int) (qW m.db m.dq) (qT m.dq (b:Int) e):=by
  unfold wrM zbs;rw[kE f,hi.ff,hi.fx,l,n,p];unfold ja jh;rw[kE a,kE a]
 have f:stW (m.fl.set fi ⟨F.size,F.bl.set ix (b:Int)⟩) m.cnt=0/\(∀x,zR (m.fl.set fi ⟨F.size,F.bl.set ix (b:Int)⟩) x=Xc↔(zR m.fl x=Xc/\x≠-1)\/x=(b:Int)\/(x=-1/\zR (m.fl.set fi ⟨F.size,F.bl.set ix (b:Int)⟩) x=Xc))/\(F.bl[ix]? =Xa (b:Int)\/zR m.fl (b:Int)=Xd)/\∀(i j:Nat) g,m.fl[i]? =Xa g->g.bl[j]? =Xa (b:Int)->i=fi/\j=ix:=by
  rcases r with e|⟨e,r⟩
  ·obtain⟨l,n,p⟩:=zgZ d hi.fl e;rw[l];exact⟨d,n,.inl e,p⟩
  obtain⟨l,n,p,v⟩:=zg0 d hi.fl e r;exact⟨l,n,.inr p,v⟩
 obtain⟨u1,u2,u3,u4⟩:=f;refine⟨b,t,zkC S h hi.fl u1 u2 (ZH _ _) (ZL a) (zfF _ _ s) (fun h f=>?_) (fun i d=>zap a d) u3 ⟨c,u,hi.file,hi.idx⟩ u4,(zdT a).2,q,u4⟩
 unfold qT at f
 rcases List.mem_append.1 f with e|e
 ·refine .inr ⟨h,?_,rfl⟩
  split at e
  ·exact Of e
  exact e
 simp only[Oh]at e;exact .inl (by rw[e])
theorem zfi (h:Rt m) (e:m.fs[k]? =Xa fr) (j:fr.f≠-1):∃(i:Nat) (c:Ca) (a g:Nat) (F:Fl),m.ca[i]? =Xa c/\zfw m c k a g fr F:=by
 have l:0<=fr.f:=by
  have:=h.frw e;unfold frW at this
  by_cases b:(inB fr.r 1001 && inB fr.x 12)=Xd
  ·rw[kE b]at this;omega
  rw[kF b]at this
  by_cases d:(!(fr.f == -1) && !inB fr.f 5)=Xc
  ·rw[kE d]at this;omega
  simp[j,inB]at d
  omega
 obtain⟨i,c,j,n,b,d⟩:=zib h e l;obtain⟨l,a,g,f,F,b⟩:=zfq h.w (mG j);have d:l=k:=Hm b.fr
 subst d;have:=b.fa.symm.trans e;cases this;exact⟨i,c,a,g,F,j,b⟩
theorem zmj (h:Rt m) (d:m.fs[k]? =Xa fr) (b:fr.f≠-1) (g:fr.r≠0) (l:List (Nat × Nat)):Z6 (fun q j=>(q,j)∈l) m (zdO m k fr l).2:=by
 obtain⟨i,c,a,a,F,c,a⟩:=zfi h d b;have x:=mG c;have b:=(gS.1 a.fl).1;have b:Qb m fr.f=F.size:=by unfold Qb;rw[a.ff,tN,gD,a.fl];rfl
 have p:0<=fr.f:=by rw[a.ff];omega
 unfold zdO
 by_cases e:zko m fr≠pgL fr.p/\zfW m k fr l=Xc
 ·rw[kE e];exact Z6.refl h
 rw[kF e];have f:jV (pgL fr.p) fr.x (Qb m fr.f)=pgL fr.p\/∀(q:Nat) s (i:Nat) c (n:Nat),m.sp[q]? =Xa s->s.ars[i]? =Xa c->jX c n=Xc->n<64->¬zim k fr l q s c n:=by
  by_cases b:zko m fr=pgL fr.p
  ·exact .inl b
  exact .inr fun q s i c n r t u v w=>e ⟨b,zcD.2 ⟨q,s,i,c,n,r,t,u,v,w⟩⟩
 by_cases b:fr.d=Xc\/Qh m fr.f fr.x≠zko m fr
 ·rw[kE b]
  by_cases c:j9 m.fl m.cnt fr.f fr.x=0
  ·rw[kE c];obtain⟨e,e,i,n,_⟩:=zhg (fun q j=>(q,j)∈l) h x a c (zko m fr)
   simp only;rw[e];refine zfD i a.fl a.bl d a.ff a.fx g ?_ f;rw[n];unfold zko;rw[a.fx,a.ff]
  rw[kF c]
  by_cases a:Qh m fr.f fr.x=zko m fr
  ·rw[kE a];exact zeU h d p g a f
  rw[kF a];exact Z6.refl h
 rw[kF b];exact zeU h d p g (Classical.byContradiction fun e=>b (.inr e)) f
theorem zkh (h:Rt m) (b:m.fs[k]? =Xa fr) (c:fr.r≠0) (l:List (Nat × Nat)):Z6 (fun q j=>(q,j)∈l) m (jN m k fr l).2:=by
 unfold jN
 split
 ·rename_i a
  exact zk2 _ h b a c
 rename_i a
 exact zmj h b a c l
theorem zkS (m:Ma) (b) (file a:Int):(wrM m b file a).fs=m.fs:=(zkT _ _ _ _).1
theorem zi0 (m:Ma) (k:Nat) (fr) (l:List (Nat × Nat)):((jN m k fr l).1=Xc/\(jN m k fr l).2.fs=m.fs.set k frF)\/((jN m k fr l).1=Xd/\(jN m k fr l).2=m):=by
 unfold jN
 split
 ·unfold zaO
  split
  ·exact .inl ⟨rfl,rfl⟩
  exact .inr ⟨rfl,rfl⟩
 unfold zdO
 split
 ·exact .inr ⟨rfl,rfl⟩
 split
 ·split
  ·refine .inl ⟨rfl,?_⟩
   show(qm _ _).fs=_
   unfold qm;simp only;rw[zkS]
  split
  ·exact .inl ⟨rfl,rfl⟩
  exact .inr ⟨rfl,rfl⟩
 exact .inl ⟨rfl,rfl⟩
theorem zdb (l:List (Nat × Nat)):∀(n:Nat) {m:Ma},Rt m->Z6 (fun q j=>(q,j)∈l) m (ZY n m l).2/\jJ (ZY n m l).2.fs=jJ m.fs+((ZY n m l).1).toNat
 | 0,m,h=>⟨Z6.refl h,rfl⟩
 | n+1,m,h=>by
  obtain⟨a,d,b⟩:=zge (fun q j=>(q,j)∈l) h
  unfold ZY
  rcases b with⟨b,_⟩|⟨k,f,b,c,e⟩
  ·rw[kE Wm]
   exact⟨a,d⟩
  rw[kF Wm,b,tN,qp c]
  rcases zi0 (jZ m) k f l with⟨b,f⟩|⟨b,f⟩
  ·rw[kE b];refine⟨a.trans (zkh a.rt c e l),?_⟩;rw[b,f,znP c e,d];rfl
  rw[kF (by rw[b];decide)]
  obtain⟨b,c⟩:=zdb l n a.rt;exact⟨a.trans b,by rw[c,d]⟩
theorem zlZ (h:Rt m) (l:List (Nat × Nat)):Z6 (fun q j=>(q,j)∈l) m (za8 m l).2/\jJ (za8 m l).2.fs=jJ m.fs+((za8 m l).1).toNat:=zdb l _ h
end
theorem zj7 (j : Nat) (w) : Xp Tryz.prog 58 #[Xe Xf (j : Int)] w fun e w' => e = Xl (Xh Xc) /\ zc w w' := by
  go_enter Tryz.func58, Tryz.ntmps58
  go_wp2
  go_ret
  exact ⟨rfl, zc.refl _⟩
theorem zfQ (w : Xn) : zil 58 #[] (fun _ => Xc) w := fun W j _ _ => zj7 j W
theorem zl2 (d : Xq) (ps : List (List Int)) (qs : List (Int × List Int)) (w : Xn) (hd : ZB w d ps qs) :
    Xp Tryz.prog 32 #[d] w fun e w' => ∃ d', e = Xl (Xm #[d', Xe Xf (zF ps.length qs)]) /\ qa w.heap.size w' d' (JL (fun _ => Xc) ps qs) [] /\ zc w w' := by
  have HD : Xo (ZB w d ps qs) := hd
  obtain ⟨b, q, rfl, hb, hq⟩ := hd
  obtain ⟨ab, cb, rfl, _⟩ := hb.rows
  obtain ⟨aq, cq, rfl, _⟩ := hq.rows
  clear hb hq
  obtain ⟨W0, hW0⟩ : ∃ W0, (w.alloc (.cells #[.slice ab ps.length cb, .slice aq qs.length cq] 34)).alloc (.cells #[.slice none 0 0, .slice none 0 0] 34) = W0 := ⟨_, rfl⟩
  have HG0 : Xo (zc w W0) := show zc w W0 by rw [<- hW0]; exact (za _ _).trans (za _ _)
  have B2 : Box W0 (w.heap.size + 1) [.slice none 0 0, .slice none 0 0] := by rw [<- hW0]; exact Box.top _ [.slice none 0 0, .slice none 0 0] _ Sm
  have hcon := zd1 (fun _ => Xc) 58 #[] (enters_of Tryz.func58 Kr rfl) _ ps qs W0 (HD.out.grew HG0.out) (zfQ W0)
  have HB2 : Hid (Box W0 (w.heap.size + 1) [.slice none 0 0, .slice none 0 0]) := B2
  obtain ⟨nb, HNB⟩ : ∃ nb, Hid (ps.length = nb) := ⟨_, rfl⟩
  obtain ⟨nq, HNQ⟩ : ∃ nq, Hid (qs.length = nq) := ⟨_, rfl⟩
  obtain ⟨r, HW⟩ : ∃ r, Xo (zF nb qs = r) := ⟨_, rfl⟩
  rw [HNB.out, HNQ.out, HW.out] at hcon
  rw [HNB.out, HNQ.out] at hW0
  have HW0 : Hid (_ = W0) := hW0
  clear hW0
  rw [HNB.out, HNQ.out, HW.out]
  clear B2
  go_enter Tryz.func32, Tryz.ntmps32
  go_wp2_with (go_at_call 57; rw [HW0.out]
               refine hcon.mono ?_
               rintro e W1 ⟨d1, rfl, hd1, hg1⟩
               have b3 : Box W1 (w.heap.size + 1) [.slice none 0 0, .slice none 0 0] := HB2.out.grew hg1
               have c2 := b3.c 0 rfl
               have c3 := b3.c 1 rfl
               have f2 := b3.f 0
               have f3 := b3.f 1
               have HD1 : Xo (qa W0.heap.size W1 d1 (JL (fun _ => Xc) ps qs) []) := hd1
               have HG1 : Xo (zc w W1) := HG0.out.trans hg1
               obtain ⟨v1, v2, rfl, hv1, hv2, _⟩ := hd1
               obtain ⟨x1, y1, rfl, _⟩ := hv1.rows
               obtain ⟨x2, y2, rfl, _⟩ := hv2.rows
               clear hv1 hv2 b3)
  refine bodyPost_ret (v := Xm #[Xi #[.slice x1 (JL (fun _ => Xc) ps qs).length y1, O x2 0 y2], Xe Xf r]) (by simp [results, Tryz.results32, go_sem, *]) rfl ⟨_, rfl, ?_, ?_⟩
  · have := HB2.out.lt
    exact ((HD1.out.setCell (Si this) _).setCell (Si this) _).base (Below.size HG0.out)
  · exact Below.setCell (Below.setCell HG1.out (p := ⟨w.heap.size + 1, 0, none⟩) Sm _) (p := ⟨w.heap.size + 1, 1, none⟩) Sm _
def Zo (m M:Ma):Prop:=∀J:Ma->Prop,J m->(∀(N:Ma) (c:Ca) (k fi ix:Nat) (f:Fr) (F:Fl),J N->c∈N.ca->zfw N c k fi ix f F->f.d=Xc->j9 N.fl N.cnt f.f f.x=0->J (clM N k f F))->J M
theorem Zo.refl (m):Zo m m:=fun _ h _=>h
theorem Zo.step {c:Ca} {k:Nat} {f:Fr} {F:Fl} (h:Zo m M) (d:c∈M.ca) (hi:zfw M c k fi ix f F) (e:f.d=Xc) (b:j9 M.fl M.cnt f.f f.x=0):Zo m (clM M k f F):=fun J g a=>a M c k fi ix f F (h J g a) d hi e b
theorem zop (m:Ma) (k:Nat) (f F):(clM m k f F).ca=m.ca:=by
 unfold clM
 split
 ·exact(zkT _ _ _ _).2.2.1
 rfl
theorem Zo.ok (h:Zo m M) (a:Rt m):Rt M/\M.ca=m.ca:=
 h (fun M=>Rt M/\M.ca=m.ca) ⟨a,rfl⟩ fun N _ _ _ _ _ _ a c d _ b=>⟨zn8 a.1 c d b,Rx zop a.2⟩
def QK (m:Ma):Ma:={ m with db:=JL (fun _=>Xc) m.db m.dq,dq:=[] }
def zan (file:Int) (i:Nat) (M:Ma):Prop:=∀(j:Nat) c (k:Nat) f,j<i->M.ca[j]? =Xa c->c.file=file->c.fr=(k:Int)->M.fs[k]? =Xa f->f.d=Xd
theorem zh8 {file:Int} {i k:Nat} {f:Fr} {F:Fl} {c:Ca} (h:zan file i M) (q:M.ca[i]? =Xa c) (n:M.fs[k]? =Xa f) (a:c.fr=(k:Int)) (e:j9 M.fl M.cnt f.f f.x=0):zan file (i+1) (clM M k f F):=fun j m l p a b d g a=>by
 rw[zop]at b;rw[zi5 e]at a
 by_cases e:l=k
 ·subst e;rw[sF (gS.1 n).1]at a;cases a;rfl
 rw[sN (fun h=>e h.symm)]at a
 by_cases n:j=i
 ·subst n;rw[q]at b;cases b;exact absurd Wm e
 exact h j m l p Wm b d g a
def zov (m:Ma):Prop:=∃(M:Ma) (c:Ca) (k fi ix:Nat) (f:Fr) (F:Fl),Zo m M/\c∈M.ca/\zfw M c k fi ix f F/\f.d=Xc/\j9 M.fl M.cnt f.f f.x≠0
theorem zk0 (V:MaV) (m:Ma) (file:Int) (w:Xn) (hm:zy w V m) (h0:Rt m) (hf0:0<=file) (hf1:file< (m.fl.length:Int)):
  Xp prog 12 #[Xi (mL V m).toArray,I6 file] w fun e w'=>((e= Xl (Xm #[Xi qf.toArray,I6 10])/\zov m)\/∃(M:Ma) (V':MaV),Zo m M/\zan file M.ca.length M/\e= Xl (Xm #[Xi #[V'.f.x,I6 (QK M).hand,V'.s.x,V'.sb.x,V'.sq.x,V'.db.x,V'.dq.x,V'.fl.x,I6 (QK M).cnt,V'.ca.x,V'.sp.x],I6 0])/\∀W,qD (fun k=>k<w.heap.size) w' W->zy W V' (QK M))/\zc w w':=by
 have hwf:=h0.w;obtain⟨W1,hW1⟩:=kB ((w.alloc (Xk (mL V m).toArray 41)).alloc (Xk zM.toArray 41));have G1:=gD2 hW1
 obtain⟨b,HB⟩:=kA w.heap.size;have X1:Xo (zo W1 b 41 (mL V m)):=dD<|by rw[<-hW1];exact(zo.top w (mL V m) _ HB.symm).grew (za _ _)
 have Z1:Xo (zo W1 (b+1) 41 qf):=dD<|by rw[<-hW1];exact zo.top _ qf _ (by have:=HB.out;simp;omega)
 have A1:Xo (zy W1 V m):=hm.grew G1.out;have HW1:Xo (_=W1):=hW1;have hwr:=Qy V m W1 A1 hwf;clear hwf;have H0:Xo (Rt m):=h0;clear hW1 hm h0
 go_enter func12,ntmps12
 go_upto_region 1 with fail;rw[HW1.out,HB.out];obtain⟨x0,x1,x2,x3,x4,x5,x6,x7,x8,x9,x10⟩:=X1.box.c11;go_wp2_with fail;refine hwr.mono ?_;clear hwr x0 x1 x2 x3 x4 x5 x6 x7 x8 x9 x10;rintro e W2 ⟨rfl,g2⟩;have X2:=dD (X1.grew g2);have Z2:=dD (Z1.grew g2);have A2:=dD (A1.grew g2);have G2:=dD (G1.trans g2);clear g2;obtain⟨-,-,-,-,-,-,n7,-⟩:=A2.ns;have x7:=X2.box.c 7 rfl;(try simp only[Sli.x]at x7);rw[n7]at x7;clear n7;obtain⟨fn,HFN⟩:=kA m.fl.length;rw[HFN.out]at x7 hf1;have h1d:decide (file<0)=Xd:=Si hf0
 have h2d:decide ((fn:Int)<=file)=Xd:=Si hf1
 go_upto_region 6 with fail;clear x7 h1d h2d;have hof:=zco V m W2 A2.out;obtain⟨x0,x1,x2,x3,x4,x5,x6,x7,x8,x9,x10⟩:=X2.box.c11;go_wp2_with fail;refine hof.mono ?_;clear hof x0 x1 x2 x3 x4 x5 x6 x7 x8 x9 x10;rintro e W3 ⟨p,V1,rfl,hc⟩;have C3:Xo (ChW W2 p W3 V1 m):=hc;have HBL:Xo (b+1<W2.heap.size):=Z2.box.lt;have Z3:Xo (zo W3 (b+1) 41 qf):=Z2.grew hc.gr;clear hc;obtain⟨⟨caa,can,cac⟩,HCA⟩:∃ca,Xo (V1.ca=ca):=⟨_,rfl⟩;obtain⟨-,-,-,-,-,-,-,n8,-⟩:=C3.at.ns;have x9:=C3.box.box.c 9 rfl;rw[HCA.out]at x9 n8;dsimp only at x9 n8;have HN8:Xo (can=m.ca.length):=n8;have hcan:can<=9223372036854775807:=Rx n8 C3.ca.at.short
 clear n8;go_wp2;clear x9
 go_loopg [35] can (fun gg s35 wr=>∃i:Nat,i<=can/\can - i<=gg/\s35=I6 i/\(∃V' M,Xo (V'.ca=⟨caa,can,cac⟩)/\Xo (ChW W2 p wr V' M)/\Xo (Zo m M)/\Xo (zan file i M))/\Xo (zo wr (b+1) 41 qf))
 exact⟨0,nZ _,Wm,rfl,⟨V1,m,HCA,C3,Zo.refl m,fun j c k f h=>absurd h (nL _)⟩,Z3⟩
 obtain⟨i,hi,hgg,rfl,⟨V5,M,HCA,C5,HCS,OW⟩,Z5⟩:=hrel;have HMR:Xo (Rt M):=(HCS.ok H0).1;have HMC:Xo (M.ca=m.ca):=(HCS.ok H0).2
 by_cases hlt:i<can
 rotate_left
 ·have hltz:=kD hlt
  have OE:Xo (zan file M.ca.length M):=dD<|by
   have:M.ca.length=i:=by rw[HMC.out,<-HN8.out];omega
   rw[this];exact OW.out
  have hfl:=zl2 (Xi #[V5.db.x,V5.dq.x]) M.db M.dq wr ⟨_,_,rfl,C5.at.db,C5.at.dq⟩;have x5:=C5.box.box.c 5 rfl;have x6:=C5.box.box.c 6 rfl;go_wp2_with fail;refine hfl.mono ?_;clear hfl x5 x6;rintro e W7 ⟨dd,rfl,nd,g7⟩;obtain⟨d,q,rfl,-,-⟩:=nd.form;have D7:Xo (qa wr.heap.size W7 (Xi #[d.x,q.x]) (JL (fun _=>Xc) M.db M.dq) []):=nd
  have G7:Xo (zc wr W7):=g7;have BX7:=dD (C5.box.grew g7);clear nd g7
  go_upto_region 14 with(refine Zf rfl 34 (.tmp 77) (.tmp 73) rfl p 5 rfl (Xi #[d.x,q.x]) rfl [d.x,q.x] rfl BX7 (by simp[chL]) Kr (by simp[Value.oneCell']) ?_)
  intro W8 bx8 gr8 _;obtain⟨V9,-,c9,o9,-⟩:=C5.setDk G7 (nR _) D7 gr8 bx8;have C9:Xo (ChW W2 p W8 V9 (QK M)):=c9;have Z9:Xo (zo W8 (b+1) 41 qf):=Z5.outD o9 (fun e=>by have:=C5.dlo _ e;have:=HBL.out;omega)
  clear bx8 gr8 c9 o9;have Z5:=Z9;try simp only[Xs]
  obtain⟨FM,HFM⟩:=kA (QK M);rw[HFM.out]at C9;obtain⟨r0,r1,r2,r3,r4,r5,r6,r7,r8,r9,r10⟩:=C9.box.box.c11;have HZL:Xo (∀v∈chL V9 FM,v.oneCell'=Xc):=dD<|by simp[chL,Value.oneCell']
  go_wp2_with (refine zP rfl 41 (.tmp 4) (.tmp 81) rfl (b+1) rfl (chL V9 FM) rfl Z5 rfl Kr HZL.out ?_)
  clear r0 r1 r2 r3 r4 r5 r6 r7 r8 r9 r10;intro W6 bx gr6 _;have G6:Xo (zc w W6):=dD<|zd (G2.trans C9.gr) gr6 (Hm HB.out)
  have B6:Xo (zo W6 (b+1) 41 (chL V9 FM)):=bx;have HF:Xo (∀W,qD (fun k=>k<w.heap.size) W6 W->zy W V9 FM):=show∀W,_ from fun W hW=>C9.doneD ((qD.grown gr6 (show b+1<W2.heap.size from HBL.out)).trans (hW.wide fun k hk=>Nat.lt_of_lt_of_le hk (bS G2)))
  clear bx gr6;go_wp2;refine bodyPost_ret (qL rfl _ rfl B6.box underlying41 rfl Kr) rfl ⟨.inr ⟨M,V9,HCS,OE,Rr HFM.out,Rx HFM.out HF⟩,G6⟩
 have hltz:=kC hlt
 obtain⟨c,HCI⟩:∃c,Xo (M.ca[i]? =Xa c):=⟨_,gE (by rw[HMC.out];have:=HN8.out;omega)⟩
 obtain⟨k,fi,ix,f,F,his⟩:=zfq HMR.w (mG HCI);have HIS:Xo (zfw M c k fi ix f F):=his;obtain⟨ad,had,hcl⟩:=C5.at.cas i c HCI.out;rw[HCA.out]at had;dsimp only at had;subst had;obtain⟨d0,d1,d2⟩:=hcl wr (zc.refl _);rw[his.fr]at d2;rw[his.file]at d0;rw[his.idx]at d1;clear hcl his;go_upto_region 10 with fail;obtain⟨q,HQ⟩:=kA wr.heap.size;obtain⟨W4,hW4⟩:=kB (wr.alloc (Xk #[I6 (fi:Int),I6 (ix:Int),I6 (k:Int)] 93));have G4:=gA hW4
 have Y4:=xPT hW4 HQ
 have hq:¬Dw p V5 q:=fun e=>absurd (C5.dlt _ e) (Hm HQ.out)
 rw[hW4,HQ.out];clear hW4 d0 d1 d2;obtain⟨adf,hadf,hfl⟩:=C5.at.frs k f HIS.fa;obtain⟨n1,-⟩:=C5.at.ns;have hklt:(k:Int)< (V5.f.n:Int):=by
  have:=(gS.1 HIS.fa).1;omega
 have HX0:Xo (∀W,zc W4 W->W.cell? ⟨p,0,Xb⟩=Xa (O (Xa adf) V5.f.n V5.f.c)):=dD<|fun W hW=>by
  have:=(C5.box.box.grew (G4.trans hW)).c 0 rfl;rw[hadf]at this;exact this
 obtain⟨fd,HFD⟩:=kA f.d;have HDC:Xo (∀W,zc W4 W->W.cell? { block:=(adf.add (k*13)).block,off:=(adf.add (k*13)).off+10 }=Xa (Xh fd)):=dD<|fun W hW=>by
  obtain⟨_,_,_,_,_,_,_,_,_,_,d10,_,_⟩:=hfl W (G4.trans hW);rw[<-HFD.out];exact d10
 obtain⟨R,HR⟩:=kA (decide (j9 M.fl M.cnt f.f f.x=0));obtain⟨N,HN⟩:=kA (clM M k f F);have HCL:Xo (∀W,zc W4 W->Xp prog 31 #[Xj (Xa ⟨p,0,Xb⟩),I6 (k:Int)] W fun e w'=>e= Xl (Xh R)/\zao W2 p W V5 N w'):=dD<|fun W hW=>by
  rw[<-HR.out,<-HN.out];exact zdo (C5.grew (G4.trans hW)) k f HIS.fa fi ix F HIS.ff HIS.fx HIS.fl HIS.sz HIS.lo
 clear hadf hfl n1;have HNX:Xo (f.d=Xd\/(fi:Int)≠file->zan file (i+1) M):=dD<|fun h j c' k' f' hj hc' hfi hk' hf'=>by
  by_cases e:j=i
  ·subst e;rw[HCI.out]at hc';cases hc';have:k'=k:=Hm HIS.fr
   subst this;rw[HIS.fa]at hf';cases hf'
   rcases h with h|h
   ·exact h
   exact absurd (HIS.file.symm.trans hfi) h
  exact OW j c' k' f' Wm hc' hfi hk' hf'
 have gd:zc W4 W4.drew:=show Below _ _ _ from(bR _ _).drew
 obtain⟨I,HI⟩:=Wq fun u=>zo u q 93 [I6 (fi:Int),I6 (ix:Int),I6 (k:Int)]
 have hI0:I W4.drew:=(HI _).2 (Y4.grew gd);have hF0:zc W4 W4.drew:=gd;have hy0:∀y:zj I,y.world.cell? ⟨q,0,Xb⟩=Xa (I6 (fi:Int)):=fun y=>((HI _).1 y.holds).box.c 0 rfl
 have hy2:∀y:zj I,y.world.cell? ⟨q,2,Xb⟩=Xa (I6 (k:Int)):=fun y=>((HI _).1 y.holds).box.c 2 rfl
 have hne:Nonempty (zj I):=⟨⟨_,hI0⟩⟩;obtain⟨SF,HSF⟩:=kA ((fi:Int) == file);have hsf:((fi:Int) == file)=SF:=HSF.out;refine Zg (I:=I) 24 [(21,fun v=>v= Xh R)] [10,15] (fun u=>zc W4 u) hI0 hF0 z6 Kr rfl rfl Dc (Sa ⟨_,rfl⟩) Kr Kr ?_
 simp only[Yg,Yh];iterate 3 (refine zY rfl rfl rfl (fun K hK=>?_);go_big_quiet_op;refine hK _ ?_;clear hK K)
 refine zY rfl rfl rfl (fun K hK=>?_);go_big_quiet_op;(try rw[hsf]);refine hK _ ?_;clear hK K
 refine zY rfl rfl rfl (fun K hK=>?_);go_big_quiet_op;refine hK _ ?_;clear hK K
 clear hsf
 cases SF with
 | false=>
  have OW':Xo (zan file (i+1) M):=HNX.out (.inr (Si HSF.out))
  iterate 11 (refine JI rfl ?_;simp only[Xs,sB,sS,sZ])
  iterate 2 (refine zY rfl rfl rfl (fun K hK=>?_);go_big_quiet_op;refine hK _ ?_;clear hK K)
  iterate 5 (refine JI rfl ?_;simp only[Xs,sB,sS,sZ])
  refine zY rfl rfl rfl (fun K hK=>?_);go_big_quiet_op;refine hK _ ?_;clear hK K
  refine Qq fun W9 hI8 hF8=>?_
  have G9:=dD (G4.trans hF8);clear hI8 hF8 hI0 hF0 hy0 hy2 hne gd hq;go_wp2
  go_roundg (can -(i+1));exact⟨i+1,Wm,Wm,Gn,⟨V5,M,HCA,C5.grew G9,HCS,OW'⟩,Z5.grew G9⟩;omega
 | true=>
  refine zY rfl rfl rfl (fun K hK=>?_);go_big_quiet_op;refine hK _ ?_;clear hK K
  refine ZT (.tmp 44) ⟨p,0,Xb⟩ rfl rfl rfl rfl ?_;simp only[Xs,sB,sS,sZ];iterate 3 (refine zY rfl rfl rfl (fun K hK=>?_);go_big_quiet_op;refine hK _ ?_;clear hK K)
  refine QI rfl rfl rfl (O (Xa adf) V5.f.n V5.f.c) (fun w' _ hF'=>?_) ?_
  ·exact zbo 26 (.tmp 48) rfl p 0 rfl (O (Xa adf) V5.f.n V5.f.c) (HX0 w' hF') underlying26 rfl
  simp only[Xs,sB,sS,sZ];iterate 4 (refine zY rfl rfl rfl (fun K hK=>?_);go_big_quiet_op;refine hK _ ?_;clear hK K)
  refine QI rfl rfl rfl (Xh fd) (fun w' _ hF'=>?_) ?_
  ·exact zd3 4 (.tmp 53) rfl _ rfl (Xh fd) (HDC w' hF') underlying4 rfl
  simp only[Xs,sB,sS,sZ];iterate 2 (refine zY rfl rfl rfl (fun K hK=>?_);go_big_quiet_op;refine hK _ ?_;clear hK K)
  cases fd with
  | false=>
   have OW':Xo (zan file (i+1) M):=HNX.out (.inl HFD);iterate 5 (refine JI rfl ?_;simp only[Xs,sB,sS,sZ])
   refine zY rfl rfl rfl (fun K hK=>?_);go_big_quiet_op;refine hK _ ?_;clear hK K
   refine Qq fun W9 hI8 hF8=>?_
   have G9:=dD (G4.trans hF8);clear hI8 hF8 hI0 hF0 hy0 hy2 hne gd hq;go_wp2
   go_roundg (can -(i+1));exact⟨i+1,Wm,Wm,Gn,⟨V5,M,HCA,C5.grew G9,HCS,OW'⟩,Z5.grew G9⟩;omega
  | true=>
   iterate 3 (refine zY rfl rfl rfl (fun K hK=>?_);go_big_quiet_op;refine hK _ ?_;clear hK K)
   refine QH rfl rfl (fun _ u=>zao W2 p wr V5 N u) (fun w' hI' hF'=>?_) (fun v1 hv=>?_)
   ·refine zJ.call [Xj (Xa ⟨p,0,Xb⟩),I6 (k:Int)] rfl func31 rfl rfl rfl ?_;refine(HCL w' hF').mono ?_;rintro e w'' ⟨rfl,hch⟩;have g9:=zao.of_grew (G4.trans hF') hch;obtain⟨V2,_,_,o2,_⟩:=hch;exact⟨_,rfl,(HI _).2 (((HI _).1 hI').chg o2 hq),rfl,g9⟩
   subst hv;simp only[Xs,sB,sS,sZ];iterate 2 (refine zY rfl rfl rfl (fun K hK=>?_);go_big_quiet_op;refine hK _ ?_;clear hK K)
   refine Qq fun W9 hI8 hF8=>?_
   obtain⟨V9,e9,c9,o9,d9⟩:=hF8;have C9:Xo (ChW W2 p W9 V9 N):=c9;have E9:Xo (V9.ca=⟨Xa ad,can,cac⟩):=show _=_ from e9.trans HCA.out
   have Z9:Xo (zo W9 (b+1) 41 qf):=Z5.outD o9 (fun e=>by have:=C5.dlo _ e;have:=HBL.out;omega)
   clear hI8 e9 c9 o9 d9 hI0 hF0 hy0 hy2 hne gd hq
   cases R with
   | true=>
    have HE0:Xo (j9 M.fl M.cnt f.f f.x=0):=dD<|of_decide_eq_true HR.out
    have HCN:Xo (Zo m N):=dD<|by rw[<-HN.out];exact Zo.step HCS (mG HCI) HIS HFD HE0.out
    have OW':Xo (zan file (i+1) N):=dD<|by rw[<-HN.out];exact zh8 OW HCI HIS.fa HIS.fr HE0.out
    go_wp2
    go_roundg (can -(i+1));exact⟨i+1,Wm,Wm,Gn,⟨V9,N,E9,C9,HCN,OW'⟩,Z9⟩;omega
   | false=>
    have HSF:Xo (zov m):=dD<|⟨M,_,k,_,_,f,_,HCS,mG HCI,HIS,HFD,of_decide_eq_false HR⟩
    go_wp2_with (refine zP rfl 41 (.tmp 4) (.tmp 63) rfl (b+1) rfl qf rfl Z9 rfl Kr (by simp[qf,Value.oneCell']) ?_)
    intro W6 bx gr6 _;have G6:Xo (zc w W6):=dD<|zd (G2.trans C9.gr) gr6 (Hm HB.out)
    have B6:Xo (zo W6 (b+1) 41 qf):=bx;clear bx gr6;go_wp2;refine bodyPost_ret (qL rfl _ rfl B6.box underlying41 rfl Kr) rfl ⟨.inl ⟨rfl,HSF⟩,G6⟩
theorem zk1 (V:MaV) (m:Ma) (file:Int) (w:Xn) (hm:zy w V m) (h0:Rt m) (hf0:0<=file) (hf1:file< (m.fl.length:Int)):
  Xp prog 12 #[Xi (mL V m).toArray,I6 file] w fun e w'=>(e= Xl (Xm #[Xi qf.toArray,I6 10])\/∃(M:Ma) (V':MaV),Zo m M/\zan file M.ca.length M/\e= Xl (Xm #[Xi #[V'.f.x,I6 (QK M).hand,V'.s.x,V'.sb.x,V'.sq.x,V'.db.x,V'.dq.x,V'.fl.x,I6 (QK M).cnt,V'.ca.x,V'.sp.x],I6 0])/\∀W,qD (fun k=>k<w.heap.size) w' W->zy W V' (QK M))/\zc w w':=
 (zk0 V m file w hm h0 hf0 hf1).mono fun _ _ h=>⟨h.1.imp (·.1) id,h.2⟩
theorem zer (h:Rt m) {c:Ca} {k:Nat} {f:Fr} {F:Fl} (d:c∈m.ca) (hi:zfw m c k fi ix f F) (a:j9 m.fl m.cnt f.f f.x=0):Z6 (fun _ _=>False) m (clM m k f F):=by
 obtain⟨b,e,g,-⟩:=zhg (fun _ _=>False) h d hi a (jV (pgL f.p) f.x F.size)
 have d:(zbs m fi ix F (b:Int) (qW m.db m.dq) (qT m.dq (b:Int) (jV (pgL f.p) f.x F.size))).fs[k]? =Xa f:=hi.fa;have b:=zd9 (fun _ _=>False) g.rt d hi.r f.u Xd
 unfold clM;rw[kE a,e];exact g.trans b
theorem Zo.goes (h:Zo m M) (a:Rt m):Z6 (fun _ _=>False) m M:=
 h (fun N=>Z6 (fun _ _=>False) m N) (Z6.refl a) fun _ _ _ _ _ _ _ a c d _ b=>a.trans (zer a.rt c d b)
theorem zgB (i:Nat):∀(qs:List (Int × List Int)) (j:Nat) (ps:List (List Int)),i<ps.length->(∀q∈qs,∃k:Nat,q.1=(k:Int)/\k<ps.length)->
  (jc (fun _=>Xc) qs j ps).getD i zp=zbv (qs.reverse.find? (fun q=>q.1 ==(i:Int))) (ps.getD i zp)
 | [],_,_,_,_=>rfl
 | q :: r,j,ps,hi,hin=>by
  obtain⟨k,hk,hlt⟩:=hin q Sm
  unfold jc;simp only[if_true];rw[zgB i r (j+1) _ (Si hi) (fun x hx=>by
   obtain⟨k',h1,h2⟩:=hin x (by simp[hx])
   exact⟨k',h1,Si h2⟩)]
  rw[List.reverse_cons,List.find?_append]
  cases hf:r.reverse.find? (fun q=>q.1 ==(i:Int))with
  | some x=>rfl
  | none=>
   simp only[Option.none_or,List.find?_cons,List.find?_nil,zbv]
   by_cases hki:k=i
   ·subst hki
    simp[hk,hlt]
   have hne:(q.1 ==(i:Int))=Xd:=by rw[hk];simp;omega
   rw[hne];simp only[hk,tN,gD];rw[sN hki]
theorem zj5 {a:List (List Int)} {b:List (Int × List Int)} (h:zF a.length b=0) (m:Int):qv (jc (fun _=>Xc) b 0 a) [] m=qv a b m:=by
 have c:zF (jc (fun _=>Xc) b 0 a).length []=0:=zfB (by rw[J5];exact(jp h).1) Sm Sm
 have e:zk (jc (fun _=>Xc) b 0 a).length [] m=zk a.length b m:=by
  rw[QX h,QX c,J5]
 by_cases c:zk a.length b m=0
 ·obtain⟨_,i,rfl,d⟩:=qo c;rw[J6 c,J6 (e.trans c)];simp only[List.reverse_nil,List.find?_nil,zbv,tN];exact zgB i b 0 a d (jp h).2.2
 have d:¬zk (jc (fun _=>Xc) b 0 a).length [] m=0:=Rx e c
 unfold qv;rw[kF c,kF d]
theorem zhU (h:Rt m):Z6 (fun _ _=>False) m (QK m):=by
 have e:JL (fun _=>Xc) m.db m.dq=jc (fun _=>Xc) m.dq 0 m.db:=kE h.inv.dok
 unfold QK;rw[e];exact zj6 _ h (J5 _ _ _ _) (zfU _ _ _ _) (zj5 h.inv.dok)
theorem Z6.bytes (h:Rt m) (g:Z6 (fun _ _=>False) m m') (file:Nat):Zz m' (file:Int)=Zz m (file:Int):=by
 have a:zbh m' (file:Int)=zbh m (file:Int):=by
  unfold zbh;rw[g.rt.w,h.w,g.sam.fll]
 unfold Zz;rw[a,(g.views h).2]
theorem Z6.seen (h:Rt m) (g:Z6 (fun _ _=>False) m m'):zdH m'=zdH m:=by
 refine zk9 g.sam.spl (fun p s s' hs hs'=>?_) g.sam.fll (fun f _=>g.bytes h f)
 obtain⟨e1,e2⟩:=g.sam.sp p s s' hs hs';refine⟨e1,e2,fun n hn _=>?_⟩
 have e:qY m' (p:Int) (n:Int)=qY m (p:Int) (n:Int):=by
  rw[zcf hs hn,zcf hs' hn,e2];exact g.sam.see _ _ _ _ hs hs' hn (fun e=>e)
 rw[e];exact⟨rfl,rfl,fun _=>rfl⟩
theorem Z6.files (g:Z6 (fun _ _=>False) m m') (hf:∀s∈m.sp,qH m.fl.length s.ars):∀s∈m'.sp,qH m'.fl.length s.ars:=fun s' hs'=>by
 obtain⟨i,hi⟩:=Xw hs';have hl:i<m.sp.length:=by rw[<-g.sam.spl];exact(gS.1 hi).1
 rw[g.sam.fll,(g.sam.sp i _ s' (gE hl) hi).2];exact hf _ (Yv hl)
structure zdx (m m':Ma):Prop where
 rt:Rt m'
 seen:zdH m'=zdH m
 fin:∀s∈m'.sp,qH m'.fl.length s.ars
theorem Z6.unseen (h:Rt m) (hf:∀s∈m.sp,qH m.fl.length s.ars) (g:Z6 (fun _ _=>False) m m'):zdx m m':=⟨g.rt,g.seen h,g.files hf⟩
theorem zgH (h:Rt m) (hf:∀s∈m.sp,qH m.fl.length s.ars):zdx m (za8 m []).2/\jJ (za8 m []).2.fs=jJ m.fs+((za8 m []).1).toNat:=by
 obtain⟨g,e⟩:=zlZ h [];have g':Z6 (fun _ _=>False) m (za8 m []).2:=⟨g.rt,g.sam.mono (fun _ _ e=>by cases e),g.fsl,g.bare,g.unc⟩
 exact⟨g'.unseen h hf,e⟩
theorem zgV {bo:Bool} (h:Rt m) (hf:∀s∈m.sp,qH m.fl.length s.ars) (hr:zjg m bo m'):zdx m m'/\jJ m'.fs=jJ m.fs:=by
 rcases hr with⟨rfl,rfl,-⟩|⟨rfl,c,k,fi,ix,f,F,hc,hi,hd,h0,rfl⟩
 ·exact⟨(Z6.refl h).unseen h hf,rfl⟩
 refine⟨(zer h hc hi h0).unseen h hf,?_⟩;rw[zi5 h0];exact zlX hi.fa rfl
theorem zhn (h:Rt m) (hf:∀s∈m.sp,qH m.fl.length s.ars) (hr:Zo m M):zdx m (QK M):=by
 have g:=hr.goes h;exact(g.trans (zhU g.rt)).unseen h hf
def zbY (a b:Int):Int:=if a<b then -1 else if b<a then 1 else 0
def zmS (c d:Ca):Int:=zw [zbY c.file d.file,zbY c.idx d.idx]
theorem zn7 {c d:Ca} (a:0<=c.idx/\c.idx<100) (b:0<=d.idx/\d.idx<100):(zmS c d<0↔qj c<qj d)/\(zmS c d=0↔qj c=qj d):=by
 unfold zmS zw zw zw zbY qj
 by_cases a:c.file<d.file
 ·rw[kE a,kF Dc]
  constructor
  ·constructor
   ·intro _;omega
   intro _;decide
  constructor
  ·intro h;cases h
  intro h;omega
 rw[kF a]
 by_cases a:d.file<c.file
 ·rw[kE a,kF Dc]
  constructor
  ·constructor
   ·intro h;exact absurd h Dc
   intro h;omega
  constructor
  ·intro h;cases h
  intro h;omega
 rw[kF a,kE rfl];have e:c.file=d.file:=Wm
 by_cases a:c.idx<d.idx
 ·rw[kE a,kF Dc]
  constructor
  ·constructor
   ·intro _;omega
   intro _;decide
  constructor
  ·intro h;cases h
  intro h;omega
 rw[kF a]
 by_cases a:d.idx<c.idx
 ·rw[kE a,kF Dc]
  constructor
  ·constructor
   ·intro h;exact absurd h Dc
   intro h;omega
  constructor
  ·intro h;cases h
  intro h;omega
 rw[kF a,kE rfl];constructor
 ·constructor
  ·intro h;exact absurd h Dc
  intro h;omega
 constructor
 ·intro _;omega
 intro _;rfl
theorem zJ.callF {P:Program} {a:Act} {w:Xn} {K:Xq->Xn->Prop} {f:FuncId} {xs:List Operand} {ts:Array TypeId} {caps:Array Xq} {fn:Func} (x args)
  (ho : o.op = .call { callee := .value x, args := xs.toArray, argTypes := ts }) (hx : a.eval x = .func (.func f) #[] caps) (hf : P.funcs[f]? = some fn) (hb : fn.body.isNone = false) (hn : (fn.name == "runtime.NumGoroutine") = false)
  (ha:xs.map a.eval=args) (h:Xp P f (args.toArray++caps) w fun e w'=>∃v,e= Xl v/\K v w'):zJ P o a w K:=by
 have hr:(execOp a.eval o).run P w= .ok (.enter f (args.toArray++caps)) w:=by
  simp only [execOp, ho, resolve, hx, List.map_toArray, ha, Deferred.ofValue, pure_bind, invoke];have hn' : fn.name ≠ "runtime.NumGoroutine" := by simpa using hn
  have hb':fn.body≠Xb:=fun e=>by rw[e]at hb;cases hb
  simp[callFunc,hf,hb',hn',program,Ys,Sem.run]
 unfold zJ;rw[hr];exact h
def zlG (ca:List Ca) (t:Ca):Bool:=ca.any fun c=>decide (qj c=qj t)
theorem zhD {t:Ca}:∀{ca:List Ca} {i:Nat},i<=ca.length->(∀(j:Nat) c,j<i->ca[j]? =Xa c->qj c<qj t)->(∀c,ca[i]? =Xa c->¬qj c<qj t)->zog ca t=i
 | [],i,hi,_,_=>by
  have:i=0:=Si hi
  subst this;rfl
 | a :: l,0,_,_,b=>by
  unfold zog;rw[Og,kF (Si (b a rfl))]
  rfl
 | a :: l,i+1,hi,e,b=>by
  have f:=zhD (t:=t) (ca:=l) (i:=i) (Si hi) (fun j c d d=>e (j+1) c Wm (Rx Yx d)) (fun c d=>b c (Rx Yx d))
  unfold zog at f⊢;rw[Og,kE (Si (e 0 a Wm rfl)),Yj,f]
theorem zoX {ca:List Ca} {t:Ca} {i:Nat} (p:ca.Pairwise fun a b=>qj a<qj b) (k:∀(j:Nat) c,j<i->ca[j]? =Xa c->qj c<qj t) (m:∀c,ca[i]? =Xa c->¬qj c<qj t):zlG ca t=match ca[i]? with | some c=>decide (qj c=qj t) | none=>Xd:=by
 have e:zlG ca t=Xc↔∃c,ca[i]? =Xa c/\qj c=qj t:=by
  unfold zlG;rw[Xv];constructor
  ·rintro⟨c,f,d⟩;have d:=of_decide_eq_true d;obtain⟨j,h⟩:=Xw f
   rcases Nat.lt_trichotomy j i with g|g|g
   ·have:=k j c g h;omega
   ·subst g;exact⟨c,h,d⟩
   obtain⟨l,k⟩:=gS.1 h;have h:i<ca.length:=Wm
   have n:=Yk.1 p i j h l g;have g:=m _ (gE h);rw[k]at n;omega
  rintro⟨c,f,d⟩;exact⟨c,mG f,decide_eq_true d⟩
 cases h:ca[i]? with
 | none=>
  cases g:zlG ca t with
  | false=>rfl
  | true=>
   obtain⟨c,f,_⟩:=e.1 g;rw[h]at f;cases f
 | some c=>
  simp only
  cases g:zlG ca t with
  | false=>
   symm
   refine decide_eq_false fun f=>?_
   have:=e.2 ⟨c,h,f⟩;rw[g]at this;cases this
  | true=>
   obtain⟨f,f,d⟩:=e.1 g;rw[h]at f;cases f;exact(decide_eq_true d).symm
theorem zlv (a:Int) (w):Xp prog 180 #[I6 a] w fun e w'=>e= Xl (Xh Xd)/\w'=w:=by
 have h:(a != a)=Xd:=Sm
 go_enter func180,ntmps180
 go_wp2;go_ret
 first | exact⟨rfl,rfl⟩ | exact⟨by rw[h],rfl⟩
theorem zds (a b:Int) (w):Xp prog 172 #[I6 a,I6 b] w fun e w'=>e= Xl (I6 (zbY a b))/\w'=w:=by
 have h:=zlv a w;have i:=zlv b w
 by_cases f:a<b
 ·have d:Xo (zbY a b=-1):=dD<|by unfold zbY;rw[kE f]
  have g:decide (a<b)=Xc:=decide_eq_true f
  go_enter func172,ntmps172
  go_wp2_with fail;refine h.mono ?_;rintro e W ⟨rfl,c⟩;rw[c];go_wp2_with fail;refine i.mono ?_;rintro e W ⟨rfl,c⟩;rw[c];go_wp2;go_ret;exact⟨Rr d.out,rfl⟩
 have g:decide (a<b)=Xd:=decide_eq_false f
 by_cases g:b<a
 ·have d:Xo (zbY a b=1):=dD<|by unfold zbY;rw[kF f,kE g]
  have j:decide (b<a)=Xc:=decide_eq_true g
  go_enter func172,ntmps172
  go_wp2_with fail;refine h.mono ?_;rintro e W ⟨rfl,c⟩;rw[c];go_wp2_with fail;refine i.mono ?_;rintro e W ⟨rfl,c⟩;rw[c];go_wp2;go_ret;exact⟨Rr d.out,rfl⟩
 have d:Xo (zbY a b=0):=dD<|by unfold zbY;rw[kF f,kF g]
 have j:decide (b<a)=Xd:=decide_eq_false g
 go_enter func172,ntmps172
 go_wp2_with fail;refine h.mono ?_;rintro e W ⟨rfl,c⟩;rw[c];go_wp2_with fail;refine i.mono ?_;rintro e W ⟨rfl,c⟩;rw[c];go_wp2;go_ret;exact⟨Rr d.out,rfl⟩
theorem zlm (v l w) (s:zl blE w v l):
  Xp prog 171 #[v] w fun e w'=>e= Xl (I6 (zw l))/\w'=w:=by
 have g:=s.short;obtain⟨G,H,rfl,b⟩:=s.nums;have z:=dD b;clear b s;obtain⟨n,m⟩:=kA l.length;rw[m.out]at g⊢;obtain⟨F,k⟩:=kA (zw l);rw[k.out]
 go_enter func171,ntmps171
 go_wp2
 go_loopg [5,8] n (fun B _ E wr=>∃a:Nat,a<=n/\n - a<=B/\E=I6 a/\wr=w/\Xo (∀(j:Nat) x,j<a->l[j]? =Xa x->x=0))
 exact⟨0,nZ _,Wm,rfl,rfl,fun j x t=>absurd t (nL _)⟩
 obtain⟨a,D,C,rfl,rfl,A⟩:=hrel
 by_cases c:a<n
 ·have h:=kC c
  obtain⟨q,p⟩:∃q,Xo (l[a]? =Xa q):=⟨_,gE (Rx m.out c)⟩
  obtain⟨x,rfl,u⟩:=z.out a q p.out;have K:=u wr (zc.refl _);clear u
  by_cases d:q=0
  ·have r:(q != 0)=Xd:=by simp[d]
   have y:Xo (∀(j:Nat) x,j<a+1->l[j]? =Xa x->x=0):=dD<|fun j x t f=>by
    by_cases e:j=a
    ·subst e;rw[p.out]at f;cases f;exact d
    exact A j x Wm f
   clear d;go_wp2
   go_roundg (n -(a+1));exact⟨a+1,Wm,Wm,Gn,rfl,y⟩;omega
  have r:(q != 0)=Xc:=by simp[d]
  have i:Xo (F=q):=dD<|by rw[<-k.out];exact zdd A p d
  clear d;go_wp2;go_ret;exact⟨Rr i.out,rfl⟩
 have h:=kD c
 have:a=n:=Wm
 subst this;have i:Xo (F=0):=dD<|by
  rw[<-k.out];exact zde fun j x f=>A.out j x (by rw[<-m.out];exact(gS.1 f).1) f
 go_wp2;go_ret;exact⟨Rr i.out,rfl⟩
theorem zjA (c d:Ca) (w):Xp prog 170 #[Xi #[I6 c.file,I6 c.idx,I6 c.fr],Xi #[I6 d.file,I6 d.idx,I6 d.fr]] w fun e w'=>e= Xl (I6 (zmS c d))/\zc w w':=by
 obtain⟨E,a⟩:=kA (zmS c d);have j:Xo (zw [zbY c.file d.file,zbY c.idx d.idx]=E):=a.out;rw[a.out];obtain⟨b,f,i⟩:=c;obtain⟨g,h,l⟩:=d;simp only at j⊢;obtain⟨k,a⟩:=kB ((w.alloc (Xk #[I6 b,I6 f,I6 i] 93)).alloc (Xk #[I6 g,I6 h,I6 l] 93));have n:=gD2 a
 have l:=x2a a
 have m:=x2b a
 have i:Xo (_=k):=a;clear a
 go_enter func170,ntmps170
 go_upto_region 1 with fail;rw[i.out];have q:=l.gw 0 rfl
 have r:=l.gw 1 rfl
 have s:=m.gw 0 rfl
 have t:=m.gw 1 rfl
 have p:Nonempty (ze k):=⟨⟨_,zc.refl _⟩⟩;refine ju [(4,⟨fun a=>a=I6 (zbY b g),fun a w'=>True⟩),(9,⟨fun a=>a=I6 (zbY f h),fun a w'=>True⟩),(10,⟨fun a=>∃i,a= O (Xa ⟨i,0,Xb⟩) 2 2,fun a w'=>zl blE w' a [zbY b g,zbY f h]⟩),(11,⟨fun a=>a=I6 E,fun a w'=>True⟩)] z6 Kr (Sd ⟨_,rfl⟩ ⟨_,rfl⟩ ⟨_,0,rfl⟩ ⟨_,rfl⟩) ?hp ?_
 case hp=>
  intro x a;simp only[mC,nM,or_false]at a
  rcases a with rfl|rfl|rfl|rfl
  ·exact fun _ _ _ _ a=>a
  ·exact fun _ _ _ _ a=>a
  ·exact fun _ _ _ k a=>zl.grew a k
  exact fun _ _ _ _ a=>a
 iterate 4 refine zg ?_
 refine zx rfl rfl (fun w' k i=>?_) (fun u a=>?_)
 ·refine zJ.call [I6 b,I6 g] rfl func172 rfl rfl rfl ?_;refine(zds b g w').mono ?_;rintro e m ⟨rfl,rfl⟩;exact⟨_,rfl,zc.refl _,rfl,trivial⟩
 subst a;refine Uq ?_;iterate 4 refine zg ?_
 refine zx rfl rfl (fun w' k i=>?_) (fun u a=>?_)
 ·refine zJ.call [I6 f,I6 h] rfl func172 rfl rfl rfl ?_;refine(zds f h w').mono ?_;rintro e m ⟨rfl,rfl⟩;exact⟨_,rfl,zc.refl _,rfl,trivial⟩
 subst a;refine Uq ?_;refine zx rfl rfl (fun w' k i=>?_) (fun u a=>?_)
 ·have l:zl blE (w'.alloc (Xk #[I6 (zbY b g),I6 (zbY f h)] 3)) (O (Xa ⟨w'.heap.size,0,Xb⟩) 2 2) [zbY b g,zbY f h]:=zbq blE w' [zbY b g,zbY f h] _ rfl (show 2*8<=140737488355328 by decide)
  refine zJ.step (v:= O (Xa ⟨w'.heap.size,0,Xb⟩) 2 2) (w':=w'.alloc (Xk #[I6 (zbY b g),I6 (zbY f h)] 3)) (by simp only[execOp];go_simp) ⟨za _ _,⟨_,rfl⟩,l⟩
 obtain⟨l,rfl⟩:=a;refine Uq ?_;refine zx rfl rfl (fun w' k i=>?_) (fun u a=>?_)
 ·have k:zl blE w' (O (Xa ⟨l,0,Xb⟩) 2 2) [zbY b g,zbY f h]:=i 10 Kr
  refine zJ.call [O (Xa ⟨l,0,Xb⟩) 2 2] rfl func171 rfl rfl rfl ?_;refine(zlm _ _ w' k).mono ?_;rintro e m ⟨rfl,rfl⟩;exact⟨_,rfl,zc.refl _,by rw[j.out],trivial⟩
 subst a;refine Uq ?_;refine zg ?_
 refine qd fun a a i=>?_
 have b:=dD (n.trans a);clear a i q r s t p;go_wp2;go_ret;exact⟨rfl,b⟩
theorem zie (v) (ca:List Ca) (t:Ca) (w) (a3:zl jG w v ca) (g:ca.Pairwise fun a b=>qj a<qj b) (hi:∀c∈ca,0<=c.idx/\c.idx<100) (ht:0<=t.idx/\t.idx<100) (d:ca.length<=1000):
  Xp prog 169 #[v,Xi #[I6 t.file,I6 t.idx,I6 t.fr],.func (.func 170) #[] #[]] w fun e w'=>e= Xl (Xm #[I6 (zog ca t:Int),Xh (zlG ca t)])/\zc w w':=by
 obtain⟨a,c,rfl,f⟩:=a3.cas;have an:=dD f;have l:=dD g
 have ae:Xo (∀c∈ca,(zmS c t<0↔qj c<qj t)/\(zmS c t=0↔qj c=qj t)):=dD<|fun c p=>zn7 (hi c p) ht
 have h:=enters_of func170 Kr rfl
 obtain⟨U,X⟩:=kA ca.length;rw[X.out]at d⊢;obtain⟨P,k⟩:=kA (zog ca t);obtain⟨ac,h⟩:=kA (zlG ca t);rw[k.out,h.out];have a5:Xo (∀(i j:Nat) x y,ca[i]? =Xa x->ca[j]? =Xa y->i<=j->qj x<=qj y):=dD<|fun i j x y K n d=>by
  obtain⟨m,q⟩:=gS.1 K;obtain⟨r,s⟩:=gS.1 n
  rcases Nat.lt_or_eq_of_le d with F|F
  ·have:=Yk.1 g i j m r F;rw[q,s]at this;omega
  subst F;rw[K]at n;cases n;exact Int.le_refl _
 obtain⟨A,B,C⟩:=t;obtain⟨m,d⟩:=kA (qj ⟨A,B,C⟩);have a8:∀(x:Ca) (W:Xn),Xp prog 170 #[Xi #[I6 x.file,I6 x.idx,I6 x.fr],Xi #[I6 A,I6 B,I6 C]] W fun e w'=>e= Xl (I6 (zmS x ⟨A,B,C⟩))/\zc W w':=fun x W=>zjA x ⟨A,B,C⟩ W
 rw[d.out]at ae;have a4:Xo (∀i,i<=U->(∀(j:Nat) x,j<i->ca[j]? =Xa x->qj x<m)->(∀(j:Nat) x,i<=j->ca[j]? =Xa x->m<=qj x)->P=i/\ac=match ca[i]? with | some x=>decide (qj x=m) | none=>Xd):=dD<|fun i K n F=>by
  rw[<-k.out,<-h.out,<-d.out];rw[<-d.out]at n F;exact⟨zhD (Rx X.out K) n (fun x d=>Hm (F i x (nR _) d)),zoX l n (fun x d=>Hm (F i x (nR _) d))⟩
 clear a3 g hi ht f;simp only;obtain⟨b,h⟩:=kA w.heap.size;obtain⟨f,f⟩:=kB (w.alloc (Xk #[I6 A,I6 B,I6 C] 93));have i:=gA f
 have k:=xP f h
 have g:=dD f;clear f
 go_enter func169,ntmps169
 go_upto_region 1 with fail;rw[g.out,h.out];go_wp2
 go_loopg [9,10] U (fun g l f wr=>∃h hi:Nat,l=I6 h/\f=I6 hi/\h<=hi/\hi<=U/\hi - h<=g/\Xo (zc w wr)/\Xo (Box wr b [I6 A,I6 B,I6 C])/\Xo ((∀(j:Nat) x,j<h->ca[j]? =Xa x->qj x<m)/\(∀(j:Nat) x,hi<=j->ca[j]? =Xa x->m<=qj x)))
 exact⟨0,U,rfl,rfl,nZ _,nR _,Wm,i,k,⟨fun j x ai=>absurd ai (nL _),fun j x K n=>by have:=(gS.1 n).1;have:=X.out;omega⟩⟩
 obtain⟨h,hi,rfl,rfl,f,a9,aq,G,E,ab⟩:=hrel;obtain⟨ak,al,am⟩:=E.c3
 by_cases f:h<hi
 ·obtain⟨r,D⟩:∃r,Xo (ca[(h+hi) / 2]? =Xa r):=⟨_,gE (Hm X.out)⟩
  obtain⟨l,rfl,M⟩:=an.out _ r D.out;obtain⟨Y,I,a0⟩:=M wr G.out;have p:=a8 r;have g:(h+hi) / 2<U:=Wm
  obtain⟨s,u,z⟩:=r;simp only at p Y I a0;obtain⟨Z,a6⟩:=kA (zmS ⟨s,u,z⟩ ⟨A,B,C⟩);rw[a6.out]at p;have a7:Xo (Z<0↔qj ⟨s,u,z⟩<m):=dD<|by rw[<-a6.out];exact(ae _ (mG D)).1
  obtain⟨i,f⟩:=kA ((h+hi) / 2);rw[f.out]at Y I a0 g D;have g:Xo (∀W,zc wr W->zmN W (l.add (i*3)) ⟨s,u,z⟩):=dD<|fun W ah=>by have:=M W (G.trans ah);rw[f.out]at this;exact this
  clear M Y I a0 ak al am;go_upto_region 5 with fail;rw[show((h:Int)+(hi:Int)) / 2=(i:Int) by have:=f.out;omega]
  have k:(i:Int)< (U:Int):=Wm
  have R:∀y:ze wr,y.world.cell? (l.add (i*3))=Xa (I6 s):=fun y=>(g _ y.grew).1
  have S:∀y:ze wr,y.world.cell? ⟨(l.add (i*3)).block,(l.add (i*3)).off+1,Xb⟩=Xa (I6 u):=fun y=>(g _ y.grew).2.1
  have T:∀y:ze wr,y.world.cell? ⟨(l.add (i*3)).block,(l.add (i*3)).off+2,Xb⟩=Xa (I6 z):=fun y=>(g _ y.grew).2.2
  have N:=E.gw 0 rfl
  have P:=E.gw 1 rfl
  have Q:=E.gw 2 rfl
  have q:Nonempty (ze wr):=⟨⟨_,zc.refl _⟩⟩;refine ju [(6,⟨fun v=>v=I6 Z,fun v w'=>True⟩)] z6 Kr (Sa ⟨_,rfl⟩) ?hp ?_
  case hp=>
   intro x d;simp only[mC,nM,or_false]at d;subst d;exact fun _ _ _ _ ag=>ag
  iterate 6 refine zg ?_
  refine zx rfl rfl (fun w' aq L=>?_) (fun ar a3=>?_)
  ·refine zJ.callF (.tmp 24) [Xi #[I6 s,I6 u,I6 z],Xi #[I6 A,I6 B,I6 C]] rfl rfl func170 rfl rfl rfl ?_;refine(p w').mono ?_;rintro e aj ⟨rfl,k⟩;exact⟨_,rfl,k,rfl,trivial⟩
  subst a3;refine Uq ?_;refine zg ?_
  refine qd fun ao k L=>?_
  have V:=dD (G.trans k);have ap:=dD (E.grew k);clear k p L R S T N P Q q
  by_cases aa:Z<0
  ·have H:=dD aa;go_wp2
   go_roundg (hi -(i+1))
   case measure=>have:=f.out;omega
   have af:Xo ((∀(j:Nat) x,j<i+1->ca[j]? =Xa x->qj x<m)/\(∀(j:Nat) x,hi<=j->ca[j]? =Xa x->m<=qj x)):=dD<|⟨fun j x ai d=>by
    have K:=a5.out j _ x _ d D Wm
    have n:=a7.1 H.out
    omega,ab.2⟩
   exact⟨i+1,hi,Gn,rfl,Hm f.out,a9,nR _,V,ap,af⟩
  have H:=dD aa;go_wp2
  go_roundg (i - h)
  case measure=>have:=f.out;omega
  have af:Xo ((∀(j:Nat) x,j<h->ca[j]? =Xa x->qj x<m)/\(∀(j:Nat) x,i<=j->ca[j]? =Xa x->m<=qj x)):=dD<|⟨ab.1,fun j x ai d=>by
   have K:=a5.out _ j _ x D d Wm
   have n:¬qj ⟨s,u,z⟩<m:=fun e=>by have F:=a7.2 e;have j:=H.out;omega
   omega⟩
  exact⟨h,i,rfl,Gn,Hm f.out,Hm f.out,nR _,V,ap,af⟩
 obtain rfl:hi=h:=Wm
 obtain⟨h,f⟩:=a4.out hi a9 ab.1 ab.2;have j:=dD h;clear h
 by_cases m:hi<U
 ·obtain⟨r,D⟩:∃r,Xo (ca[hi]? =Xa r):=⟨_,gE (Hm X.out)⟩
  obtain⟨l,rfl,M⟩:=an.out _ r D.out;obtain⟨Y,I,a0⟩:=M wr G.out;rw[D.out]at f;have p:=a8 r;obtain⟨s,u,z⟩:=r;simp only at p Y I a0 f;obtain⟨Z,a6⟩:=kA (zmS ⟨s,u,z⟩ ⟨A,B,C⟩);rw[a6.out]at p;have i:Xo (ac=(Z == 0)):=dD<|by
   rw[f];have:=(ae _ (mG D)).2;rw[a6.out]at this
   by_cases h:Z=0
   ·rw[decide_eq_true (this.1 h),h];rfl
   rw[decide_eq_false (fun e=>h (this.2 e))];simp[h]
  have h:=kC m
  have g:=dD<|fun W (ah:zc wr W)=>M W (G.trans ah)
  clear M f Y I a0 ak al am;go_upto_region 8 with fail;have R:∀y:ze wr,y.world.cell? (l.add (hi*3))=Xa (I6 s):=fun y=>(g _ y.grew).1
  have S:∀y:ze wr,y.world.cell? ⟨(l.add (hi*3)).block,(l.add (hi*3)).off+1,Xb⟩=Xa (I6 u):=fun y=>(g _ y.grew).2.1
  have T:∀y:ze wr,y.world.cell? ⟨(l.add (hi*3)).block,(l.add (hi*3)).off+2,Xb⟩=Xa (I6 z):=fun y=>(g _ y.grew).2.2
  have N:=E.gw 0 rfl
  have P:=E.gw 1 rfl
  have Q:=E.gw 2 rfl
  have q:Nonempty (ze wr):=⟨⟨_,zc.refl _⟩⟩;refine ju [(11,⟨fun v=>v=I6 Z,fun v w'=>True⟩)] z6 Kr (Sa ⟨_,rfl⟩) ?hp ?_
  case hp=>
   intro x d;simp only[mC,nM,or_false]at d;subst d;exact fun _ _ _ _ ag=>ag
  iterate 11 refine zg ?_
  refine zx rfl rfl (fun w' aq L=>?_) (fun ar a3=>?_)
  ·refine zJ.callF (.tmp 40) [Xi #[I6 s,I6 u,I6 z],Xi #[I6 A,I6 B,I6 C]] rfl rfl func170 rfl rfl rfl ?_;refine(p w').mono ?_;rintro e aj ⟨rfl,k⟩;exact⟨_,rfl,k,rfl,trivial⟩
  subst a3;refine Uq ?_;iterate 4 refine zg ?_
  refine qd fun ao k L=>?_
  have V:=dD (G.trans k);clear k p L R S T N P Q q;go_wp2
  go_ret2
  exact⟨by rw[j.out,i.out];rfl,V⟩
 have h:=kD m
 have i:Xo (ac=Xd):=dD<|by
  rw[f,gN (Hm X.out)]
 clear f ak al am;go_upto_region 8 with fail;have q:Nonempty (ze wr):=⟨⟨_,zc.refl _⟩⟩;refine ju [] z6 Kr Sm Sm ?_
 iterate 5 refine zg ?_
 iterate 8 (refine j1 Kr ?_;simp only[Xs,sB,sS,sZ])
 iterate 3 refine zg ?_
 refine qd fun ao k L=>?_
 have V:=dD (G.trans k);clear k L q;go_wp2
 go_ret2
 exact⟨by rw[j.out,i.out];rfl,V⟩
theorem zh0 {w:Xn} {p:Nat} (h:ChW w0 p w V m) (i:m.ca.Pairwise fun a b=>qj a<qj b) (hi:∀c∈m.ca,0<=c.idx/\c.idx<100) (f:m.ca.length<=1000) (file d:Int) (ht:0<=d/\d<100):
  Xp prog 156 #[Xj (Xa ⟨p,0,Xb⟩),I6 file,I6 d] w fun e w'=>e= Xl (Xm #[I6 (zog m.ca ⟨file,d,0⟩:Int),Xh (zlG m.ca ⟨file,d,0⟩)])/\zc w w':=by
 have g:=zie _ m.ca ⟨file,d,0⟩ w h.at.ca i hi ht f;simp only at g;have j:=h.box.box.c 9 rfl;obtain⟨P,k⟩:=kA (zog m.ca ⟨file,d,0⟩);obtain⟨H,j⟩:=kA (zlG m.ca ⟨file,d,0⟩);rw[k.out,j.out]at g⊢;clear h i hi f ht
 go_enter func156,ntmps156
 go_wp2_with fail;refine g.mono ?_;clear g;rintro e d ⟨rfl,d⟩;have f:=dD d;clear d;go_wp2
 go_ret2
 exact⟨rfl,f⟩
theorem zb.block {α:Type} {E:Elt α} {base:Nat} {w:Xn} {g n cap:Nat} {l:List α} (h:zb E base w (O (Xa ⟨g,0,Xb⟩) n cap) l):
  n=l.length/\base<=g/\l.length<=cap/\cap<=maxLen/\∃a,w.heap[g]? =Xa (Xk a E.ty (0,0))/\a.size=cap*E.k/\a.toList.take (l.length*E.k)=l.flatMap E.enc:=by
 rcases h.1.2 with⟨b,_⟩|⟨c,c,a,b,c,d,e,f,h,i⟩
 ·cases b
 cases b;exact⟨rfl,c,e,f,a,d,h,i⟩
theorem zb.mk' {α:Type} {E:Elt α} {base:Nat} {w:Xn} {g cap:Nat} {l:List α} {a:Array Xq} (c:base<=g) (d:w.heap[g]? =Xa (Xk a E.ty (0,0))) (f:l.length<=cap) (e:cap<=maxLen) (h:a.size=cap*E.k) (ht:a.toList.take (l.length*E.k)=l.flatMap E.enc)
  (b:l.length*E.bytes<=140737488355328):zb E base w (O (Xa ⟨g,0,Xb⟩) l.length cap) l:=
 ⟨⟨qV E l,.inr ⟨g,cap,a,rfl,c,d,f,e,h,ht⟩⟩,b⟩
theorem zb3 {α:Type} {E:Elt α} {w:Xn} {rest:List Oper} {a:Act} (h:o.guard=Xb) (s x) (C:o.op= .call { callee:= .builtin .append,args:=#[s,x],argTypes:=#[E.st,E.st] })
  (base g cap n:Nat) (l:List α) (f:zb E base w (O (Xa ⟨g,0,Xb⟩) n cap) l) (i:Nat) (hi:i<=l.length) (D:a.eval s= O (Xa ⟨g,0,Xb⟩) i cap) (ad:Addr) (l2:List α) (b t:Nat) (G:a.eval x= O (Xa ad) b t) (k:b=l2.length)
  (e:∀j u,(l2.flatMap E.enc)[j]? =Xa u->w.cell? (ad.add j)=Xa u) (c:i+l2.length<=cap) (d:(i+l2.length)*E.bytes<=140737488355328)
  (y:∀w',zb E base w' (O (Xa ⟨g,0,Xb⟩) (i+b) cap) (l.take i++l2)->w.grownBy w' (Xa g)->w'.heap.size=w.heap.size->wpList prog ops Q rest (a.put o.dst (O (Xa ⟨g,0,Xb⟩) (i+b) cap)) w'):wpList prog ops Q (o :: rest) a w:=by
 subst k;refine wpList_plain h fun K z=>?_
 obtain⟨b,A,r,B,b,v,p,F⟩:=f.block;obtain⟨H,m,f,k,f⟩:=info_parts E.info;have q:=qV E l2;have f:(i+l2.length)*E.k<=cap*E.k:=Yp _ c;rw[Ok]at f;have h:=run_append_room (P:=prog) w E.st o.type E.ty H E.und m g i cap b v ad l2.length t (l2.flatMap E.enc) (Rx k q) e (je E.one l2) c (by rw[q,k,p];exact f)
 rw[k]at h;unfold Oper.wp execOp;simp only[C,resolve,invoke,builtin,Ys,Yz,rA,Yo,mP,Ym,D,G,h];have hlen:(l.take i++l2).length=i+l2.length:=by rw[lA,Xt];omega
 have f:b.toList.length=cap*E.k:=Si p
 have e:i*E.k<=l.length*E.k:=Yp _ hi;have h:l.length*E.k<=cap*E.k:=Yp _ r;have k:b.toList.take (i*E.k)=(l.take i).flatMap E.enc:=by
  have h:(b.toList.take (l.length*E.k)).take (i*E.k)=b.toList.take (i*E.k):=by rw[List.take_take,Ob e]
  rw[<-h,F]
  conv=>lhs;rw[<-Oe i l,Yc]
  exact Oc (by rw[qV,Xt,Ob hi])
 have h:(b.toList.take (i*E.k)).length=i*E.k:=by rw[Xt,f];omega
 have e:=zb.mk' (E:=E) (base:=base) (w:=w.setRow g (b.toList.take (i*E.k)++l2.flatMap E.enc++b.toList.drop (i*E.k+(l2.flatMap E.enc).length)).toArray) (g:=g) (cap:=cap) (l:=l.take i++l2) A (setRow_heap w g b _ E.ty _ v) (by rw[hlen];exact c) B (by
  simp only[Oj,lA,h,q,Yy,f]
  omega) (by
  rw[hlen,Yc,<-k,Ok];have:(b.toList.take (i*E.k)++l2.flatMap E.enc).length=i*E.k+l2.length*E.k:=by rw[lA,h,q]
  simp only;rw[Oc this]) (by rw[hlen];exact d)
 rw[hlen]at e;exact z _ _ (y _ e (Zh _ _ _) (by simp[World.setRow]))
theorem zfy (n:Nat):∀u∈(Builtin.zeroCells #[I6 0,I6 0,I6 0] n).toList,u.oneCell'=Xc:=fun u a=>by
 simp only[Builtin.zeroCells,Array.toList_map,Oa,Array.toList_range,Ya]at a;obtain⟨i,_,rfl⟩:=a;have a:i % 3<3:=Yn _ Dc
 show(#[I6 0,I6 0,I6 0]:Array Xq)[i % 3]!.oneCell'=Xc
 generalize i % 3=k at a
 match k,a with
 | 0,_=>rfl
 | 1,_=>rfl
 | 2,_=>rfl
theorem zcy {w:Xn} {rest:List Oper} {a:Act} (b:o.guard=Xb) (x) (z:o.op= .call { callee:= .builtin .clear,args:=#[x],argTypes:=#[38] })
  (base g cap n:Nat) (l:List Ca) (c:zb jG base w (O (Xa ⟨g,0,Xb⟩) n cap) l) (k p:Nat) (A:a.eval x= O (Xa ⟨g,l.length*3,Xb⟩) (k+1) p) (d:l.length+(k+1)<=cap)
  (s:∀w',zb jG base w' (O (Xa ⟨g,0,Xb⟩) n cap) l->w.grownBy w' (Xa g)->w'.heap.size=w.heap.size->wpList prog ops Q rest (a.put o.dst (Xm #[])) w'):wpList prog ops Q (o :: rest) a w:=by
 refine wpList_plain b fun K t=>?_
 obtain⟨y,u,m,v,b,q,e,r⟩:=c.block;have d:jG.k=3:=rfl;rw[d]at e r;obtain⟨Z,j⟩:=kB ((Builtin.zeroCells #[I6 0,I6 0,I6 0] (k+1)).toList);have i:Z.length=(k+1)*3:=by
  rw[<-j,Array.length_toList,size_zeroCells];rfl
 have f:∀h∈Z,h.oneCell'=Xc:=by rw[<-j];exact zfy _
 have h:=run_storeCells_at prog g (l.length*3) 93 Z 0 b w q (by rw[i,e];omega) f
 simp only[Yl]at h;have f:(Builtin.clear_ #[38] o.type #[O (Xa ⟨g,l.length*3,Xb⟩) (k+1) p]).run prog w= .ok (Xm #[]) (w.setRow g (b.toList.take (l.length*3)++Z++b.toList.drop (l.length*3+Z.length)).toArray):=by
  simp only[Builtin.clear_]
  simp[run_underlying underlying38,Tryz.zeroValue93,Value.cells,j,h]
 unfold Oper.wp execOp;simp only[z,resolve,invoke,builtin,Ys,Yz,rA,Yo,mP,Ym,A,f];subst y;have f:b.toList.length=cap*3:=Si e
 refine t _ _ (s _ (zb.mk' u (setRow_heap w g b _ 93 _ q) m v ?_ ?_ c.2) (Zh _ _ _) (by simp[World.setRow]))
 ·rw[d];simp only[Oj,lA,Xt,Yy,i,f];omega
 rw[d,Yi,Oc (by rw[Xt,f];omega)]
 exact r
theorem zkf {α:Type} (l:List α) (i:Nat):l.take i++l.drop (i+1)=l.eraseIdx i:=(List.eraseIdx_eq_take_drop_succ ..).symm
theorem zgK (base g cap i:Nat) (l:List Ca) (w:Xn) (a:zb jG base w (O (Xa ⟨g,0,Xb⟩) l.length cap) l) (hi:i<l.length) (b:l.length<=1000):
  Xp prog 157 #[O (Xa ⟨g,0,Xb⟩) l.length cap,I6 i,I6 ((i:Int)+1)] w fun e w'=>e= Xl (O (Xa ⟨g,0,Xb⟩) (l.length - 1) cap)/\zb jG base w' (O (Xa ⟨g,0,Xb⟩) (l.length - 1) cap) (l.eraseIdx i)/\w.grownBy w' (Xa g):=by
 obtain⟨_,_,d,c,_⟩:=a.block;have f:cap<=9223372036854775807:=by simpa [maxLen]using c
 have j:=dD a;have f:=dD<|zkf l i;have a:Xo ((l.drop (i+1)).length=l.length -(i+1)):=show _=_ from Yy
 obtain⟨n,c⟩:=kA l.length;rw[c.out]at d hi b j a⊢;obtain⟨q,b⟩:∃q,Xo (n=q+1):=⟨n - 1,show _=_ by omega⟩
 have d:(i:Int)+1<=(n:Int):=Wm
 have d:(n:Int)<=(cap:Int):=Wm
 have d:¬((i:Int)=(i:Int)+1):=Wm
 have h:((i:Int) ==(i:Int)+1)=Xd:=Si d
 have d:(i:Int)<=(i:Int)+1:=Wm
 have d:(i:Int)<=(cap:Int):=Wm
 have d:((i:Int)+1).toNat=i+1:=Wm
 go_enter func157,ntmps157
 go_upto_region 5 with fail;have d:Nonempty (ze w):=⟨⟨_,zc.refl _⟩⟩;refine jb 6 [] z6 Kr rfl rfl Dc Sm Sm ?_
 simp only[Yg,Yh];iterate 6 refine zg ?_
 refine qd fun w' p _=>?_
 obtain⟨k,d,m⟩:∃k:Addr,(if cap=i+1 then Xa (⟨g,0,Xb⟩:Addr)else Xa ⟨g,(i+1)*3,Xb⟩)=Xa k/\Xo (¬cap=i+1->k=⟨g,(i+1)*3,Xb⟩):=by
  by_cases e:cap=i+1
  ·exact⟨_,kE e,show _->_ from fun h=>absurd e h⟩
  exact⟨_,kF e,show _->_ from fun _=>rfl⟩
 rw[d];have h:=dD (j.grew p);have r:=dD p;have p:Xo (∀j u,((l.drop (i+1)).flatMap jG.enc)[j]? =Xa u->w'.cell? (k.add j)=Xa u):=show∀j u,_ from fun j u d=>by
  by_cases e:cap=i+1
  ·rw[List.drop_of_length_le (Hm c.out)]at d
   cases d
  rw[m.out e,Xz];have m:(l.flatMap jG.enc)[(i+1)*3+j]? =Xa u:=by
   conv=>lhs;rw[<-Oe (i+1) l,Yc]
   rw[aR (by rw[qV,Xt];show _*3<=_;have:=c.out;omega),qV,Xt,show min (i+1) l.length=i+1 by have:=c.out;omega]
   show((l.drop (i+1)).flatMap jG.enc)[(i+1)*3+j -(i+1)*3]? =_
   rw[Nat.add_sub_cancel_left];exact d
  have:=h.1.cells rfl _ u m;rw[Xz,zA]at this;exact this
 have d:i+(n -(i+1))=q:=Hm b.out
 have j:Xo (i+(l.drop (i+1)).length<=cap/\(i+(l.drop (i+1)).length)*24<=140737488355328):=dD<|by rw[a.out];omega
 have d:Xo ((l.eraseIdx i).length=q):=dD<|by rw[<-f.out,lA,a.out,Xt];have:=c.out;have:=b.out;omega
 go_wp2_with (refine zb3 (E:=jG) rfl (.tmp 22) (.tmp 25) rfl base g cap n l h i (Hm c.out) rfl k (l.drop (i+1)) (n -(i+1)) (cap -(i+1)) rfl a.symm p j.1 j.2 ?_)
 intro a a c _;rw[f.out]at a;have h:=dD a;have f:=dD c;have a:¬cap=q:=Hm b.out
 have a:(q:Int)<=(n:Int):=Hm b.out
 have a:n - q=0+1:=Hm b.out
 try simp only[Xs,sB,sS,sZ]
 go_wp2_with (refine zcy rfl (.tmp 31) rfl base g cap q (l.eraseIdx i) h 0 (cap - q) (Rr d.out) (by rw[d.out];have:=b.out;omega) ?_)
 intro a c a _;have d:=dD c;have c:=dD<|zc8 r (jD f a)
 have a:Xo (n - 1=q):=dD<|Hm b.out
 go_wp2;go_ret;exact⟨Rr a.out,Rx a.out d,c⟩
theorem Rt.cache (h:Rt m):(m.ca.Pairwise fun a b=>qj a<qj b)/\(∀c∈m.ca,0<=c.idx/\c.idx<100)/\m.ca.length<=1000:=by
 obtain⟨d,d,g⟩:=zu.1 h.inv.ca;have d:∀c∈m.ca,0<=c.idx/\c.idx<100/\0<=qj c/\qj c<1000:=fun c e=>by
  obtain⟨k,f,f,f,F,f⟩:=zfq h.w e;have i:=(gS.1 f.fl).1;have i:=((qi _ _).1 h.inv.st).1;have h:=f.idx;have h:=f.file;have h:=f.lo;unfold qj;omega
 refine⟨g,fun c e=>⟨(d c e).1,(d c e).2.1⟩,?_⟩
 have:=zd0 (m.ca.map qj) 0 1000 (by rw[List.pairwise_map];exact g) (fun x f=>by
  obtain⟨c,e,rfl⟩:=Oa.1 f;exact(d c e).2.2)
 rw[Xu]at this;omega
theorem zm8 (h:Rt m) {i:Nat} {c:Ca} (b:m.ca[i]? =Xa c):zog m.ca ⟨c.file,c.idx,0⟩=i/\zlG m.ca ⟨c.file,c.idx,0⟩=Xc:=by
 obtain⟨l,_,_⟩:=h.cache;obtain⟨g,h⟩:=gS.1 b;have f:qj ⟨c.file,c.idx,0⟩=qj c:=rfl;refine⟨zhD (Nat.le_of_lt g) (fun k d j a=>?_) (fun d a=>?_),?_⟩
 ·obtain⟨e,d⟩:=gS.1 a;have:=Yk.1 l k i e g j;rw[d,h]at this;rw[f];exact this
 ·rw[b]at a;cases a;rw[f];omega
 unfold zlG;exact Xv.2 ⟨c,mG b,decide_eq_true rfl⟩
theorem zgM {w:Xn} {p:Nat} (l:ChW w0 p w V m) (g:Rt m) (k:Nat) (f:Fr) (h:m.fs[k]? =Xa f) (L:f.f≠-1) (D:f.r≠0):
  Xp prog 132 #[Xj (Xa ⟨p,0,Xb⟩),I6 (k:Int)] w fun e w'=>(∃v,e= Xl v)/\Chg w0 p w V (qm m k) w':=by
 obtain⟨j,c,A,u,F,d,a⟩:=zfi g h L;obtain⟨R,S,G⟩:=g.cache;obtain⟨E,F⟩:=zm8 g d;rw[a.file,a.idx]at E F;have t:=(gS.1 d).1;have B:u<=12:=a.lo;have c:=dD<|zic g h d a.fr
 obtain⟨P,Q,M⟩:=za6 g h D;have z:Xo (∀W,zc w W->Xp prog 156 #[Xj (Xa ⟨p,0,Xb⟩),I6 (A:Int),I6 (u:Int)] W fun e w'=>e= Xl (Xm #[I6 (j:Int),Xh Xc])/\zc W w'):=dD<|fun W i=>by
  have:=zh0 (l.grew i) R S G (A:Int) (u:Int) Wm
  rw[E,F]at this;exact this
 have q:Xo (qm m k=zaj { m with ca:=m.ca.eraseIdx j } k f.r ⟨0,0,Xd⟩):=dD<|by
  rw[show(⟨0,0,Xd⟩:En)=en0 from rfl,ziN (m:={ m with ca:=m.ca.eraseIdx j }) g rfl rfl rfl h D zfl]
  unfold qm;rw[c.out]
 have n:Xo (∀c i,ChW w0 p c i { m with ca:=m.ca.eraseIdx j }->Xp prog 129 #[Xj (Xa ⟨p,0,Xb⟩),I6 (k:Int),Xi #[I6 0,I6 0,Xh Xd]] c fun e w'=>(∃v,e= Xl v)/\Chg w0 p c i (qm m k) w'):=dD<|fun c i c=>by
  rw[q.out];exact zdn c k f h ⟨0,0,Xd⟩ g.inv.spl ⟨P,Q⟩ M
 have H:=dD l;have C:¬Dw p V w.heap.size:=fun e=>absurd (l.dlt _ e) Wm
 obtain⟨a4,-⟩:=l.at.ns;obtain⟨c,K,N⟩:=l.at.frs k f h;have x:=dD K;have y:=dD N
 have c:(k:Int)< (V.f.n:Int):=by
  have:=(gS.1 h).1;omega
 have r:=a.ff;have s:=a.fx;have i:=dD t;have c:=dD G;obtain⟨⟨T,U,W,X,Y,Z,I,a0⟩,a2,a3,a1,a5,a5⟩:=f;dsimp only at r s;subst r;subst s;obtain⟨r,r⟩:=kA (qm m k);rw[r.out]at n q⊢;clear l g h L D d a R S G E F t B P Q M K N a4;have F:=H.box.box.c 0 rfl;rw[x.out]at F;obtain⟨h,l,r,s,q,t,x,B,D,E,a,d,g⟩:=y.out w (zc.refl _);dsimp only at h l r s q t x B D E a d g
 go_enter func132,ntmps132
 go_upto_region 1 with fail;clear h l r s q t x B D E a d g F;obtain⟨a,d⟩:=kA w.heap.size;obtain⟨r,a⟩:=kB (w.alloc (Xk #[U8 T,U8 U,U8 W,U8 X,U8 Y,U8 Z,U8 I,U8 a0,I6 a2,Xh a3,Xh a1,I6 (A:Int),I6 (u:Int)] 62));have h:=gA a
 have l:=xPT a d
 rw[a,d.out];rw[d.out]at C;clear a;have d:=l.box.c 11 rfl;have g:=l.box.c 12 rfl;have a:=z.out r h.out;go_wp2_with fail;refine a.mono ?_;clear a d g;rintro e x ⟨rfl,a⟩;have u:=dD (h.trans a);clear a;have h:=dD (H.grew u);obtain⟨l,r,a⟩:=h.ca.formS (Hm i.out)
 have g:=zgK w0.heap.size l r j m.ca x (Ry a h.ca) i c.out
 have s:=h.box.box.c 9 rfl;rw[a]at s;have d:=dD a;clear a;obtain⟨t,a⟩:=kA m.ca.length;rw[a.out]at g s;have a:j<1000:=by have:=i.out;have:=c.out;omega
 go_wp2_with fail;refine g.mono ?_;clear g s;rintro e y ⟨rfl,g,c⟩;have i:p≠l:=h.nc l (by have a:=d.out;(try simp only[Sli.x]at a);unfold oB;rw[a];rfl)
 have z:Xo (zo y p 91 (chL V m)):=h.box.beside c (fun k e=>by cases e;exact i)
 have A:=dD g;have s:=dD c;clear g c
 go_upto_region 3 with(refine Zf rfl 38 (.tmp 37) (.tmp 34) rfl p 9 rfl (O (Xa ⟨l,0,Xb⟩) (t - 1) r) rfl [O (Xa ⟨l,0,Xb⟩) (t - 1) r] rfl z (by simp[chL]) Kr (by simp[Value.oneCell']) ?_)
 intro z c g _;have i:Chg w0 p x V { m with ca:=m.ca.eraseIdx j } z:=by
  refine h.cache (w1:=y) (b:=⟨Xa ⟨l,0,Xb⟩,t - 1,r⟩) (qD.grown s (by have a:=d.out;(try simp only[Sli.x]at a);unfold oB;rw[a];rfl)) (fun h h=>?_) A g c
  unfold oB at h;cases h;exact .inl (by have a:=d.out;(try simp only[Sli.x]at a);unfold oB;rw[a];rfl)
 have a:=Chg.of_grew u i;obtain⟨r,d,h,q⟩:=a;have a:=dD d;have l:=dD h;have j:=dD q;have a:=n.out z r d;clear i d h q c g;try simp only[Xs]
 go_wp2_with fail;refine a.mono ?_;clear a;rintro e a ⟨⟨a,rfl⟩,c⟩;have a:=dD<|Chg.step l j c
 clear c;go_wp2
 exact Ge a.out
section
variable{w0 w w1 w2:Xn} {p:Nat} {V:MaV} {m:Ma}
theorem ChW.setSw (h:ChW w0 p w V m) {d q:Sli} {a:List (List Int)} {b:List (Int × List Int)} (e:zc w w1) (i:w.heap.size<=B) (g:qa B w1 (Xi #[d.x,q.x]) a b) (f:w1.grownBy w2 (Xa p)) (c:zo w2 p 91 (chL { V with sb:=d,sq:=q } { m with sb:=a,sq:=b })):Chg w0 p w V { m with sb:=a,sq:=b } w2:=
 h.field (V':={ V with sb:=d,sq:=q }) (m':={ m with sb:=a,sq:=b }) e f rfl rfl rfl rfl rfl rfl c (fun W _ b r=>by
  have k:=(g.staysD (fun k a=>Hm (h.drt k a)) b).rows
  exact⟨r.sl,k.1,k.2,r.db,r.dq,r.fl⟩)
end
theorem zkX (h:Rt m) {k:Nat} {f:Fr} (a:m.fs[k]? =Xa f) (b:f.r≠0):(Jp m<m.sl.length->jW m.sl f.r=0/\Ql m.sl f.r=m.sl.set (Jp m) f.r/\zbR m.sl f.r=(Jp m:Int))/\(¬Jp m<m.sl.length->jW m.sl f.r=10):=by
 obtain⟨c,j,_⟩:=za6 h a b;have g:=h.parts.2
 rcases zcz m.sl f.r with⟨i,_⟩|⟨_,e,_⟩|⟨_,_,b,a,_⟩|⟨_,_,b,a,c,d⟩
 ·exact absurd g i
 ·exact absurd ⟨Wm,j⟩ e
 ·exact⟨fun h=>absurd h b,fun _=>a⟩
 exact⟨fun _=>⟨a,c,d⟩,fun h=>absurd b h⟩
theorem zkj {w:Xn} {p:Nat} (K:ChW w0 p w V m) (Q:Rt m) (k:Nat) (f:Fr) (Y:m.fs[k]? =Xa f) (bx:f.r≠0):
  Xp prog 92 #[Xj (Xa ⟨p,0,Xb⟩),I6 (k:Int)] w fun e w'=>e= Xl (Xh (zaO m k f).1)/\Chg w0 p w V (zaO m k f).2 w':=by
 obtain⟨ck,ah⟩:=zkX Q Y bx;obtain⟨eb,ec,dq⟩:=za6 Q Y bx;have dn:=Q.inv.sl60;have ch:=Q.inv.sbl;obtain⟨E,L⟩:=kA (jW m.sl f.r);obtain⟨aj,a7⟩:=kA (zbR m.sl f.r);have a8:Xo (∀W,zc w W->Xp prog 127 #[V.s.x,I6 f.r] W fun e w'=>∃s:Sli,e= Xl (Xm #[s.x,I6 aj,I6 E])/\qE slE W.heap.size w' (s.x) (Ql m.sl f.r)/\zc W w'):=dD<|fun W am=>by
  obtain⟨-,e7,-⟩:=K.at.ns;have ag:=(K.at.grew am).sl;(try simp only[Sli.x]);rw[e7]at ag⊢;rw[<-L.out,<-a7.out];refine(zkY V.s.a V.s.c m.sl f.r W ag).mono ?_;rintro e w' ⟨ct,cx,rfl,e8,bs⟩;exact⟨⟨ct,_,cx⟩,rfl,e8,bs⟩
 have a6:Xo (E≠0->zaO m k f=(Xd,m)):=dD<|fun e=>by
  unfold zaO;rw[kF (fun Z=>e (L.symm.trans (ck Z).1))]
 have af:E=0->Jp m<m.sl.length:=fun e=>Classical.byContradiction fun ds=>by
  have:=ah ds;rw[L.out,e]at this;cases this
 have i:Xo (E=0->(zaO m k f).1=Xc/\∃j:Nat,aj=(j:Int)/\j<=60/\zk m.sb.length m.sq (j:Int)=0/\(zaO m k f).2=zaj {({ m with sl:=Ql m.sl f.r }:Ma)with sb:=ja m.sb m.sq (j:Int),sq:=jh m.sb m.sq (j:Int) (pgL f.p) } k f.r ⟨2,(j:Int),Xd⟩):=dD<|fun e=>by
  have Z:=af e;obtain⟨dk,ce,cf⟩:=ck Z;have U:zk m.sb.length m.sq ((Jp m:Nat):Int)=0:=by
   unfold zk;rw[kE Q.inv.sq,kE (by simp[jn];omega)]
  have S:enW ⟨2,(Jp m:Int),Xd⟩=0:=Zy Sm ⟨Sm,by simp only;omega,fun K=>by simp at K⟩ Sm
  unfold zaO;rw[kE Z];refine⟨rfl,Jp m,a7.symm.trans cf,Wm,U,?_⟩
  rw[ziN (m:={({ m with sl:=Ql m.sl f.r }:Ma)with sb:=ja m.sb m.sq (Jp m:Int),sq:=jh m.sb m.sq (Jp m:Int) (pgL f.p) }) Q rfl rfl rfl Y bx S];simp only;unfold Zx ja jh;rw[kE U,kE U,ce]
 have a4:Xo (∀(ar:Xn) be (j:Nat) c4 c0 c5,ChW w0 p ar be {({ m with sl:=c4 }:Ma)with sb:=c0,sq:=c5 }->Xp prog 129 #[Xj (Xa ⟨p,0,Xb⟩),I6 (k:Int),Xi #[I6 2,I6 (j:Int),Xh Xd]] ar fun e w'=>(∃v,e= Xl v)/\Chg w0 p ar be (zaj {({ m with sl:=c4 }:Ma)with sb:=c0,sq:=c5 } k f.r ⟨2,(j:Int),Xd⟩) w'):=dD<|fun ar be j c4 c0 c5 dl=>zdn dl k f Y ⟨2,(j:Int),Xd⟩ Q.inv.spl ⟨eb,ec⟩ dq
 have a5:=dD K;have bw:p<w.heap.size:=K.dlt p (.inl rfl);obtain⟨eq,-⟩:=K.at.ns;obtain⟨el,dp,Z⟩:=K.at.frs k f Y;have aw:=dD dp;have ax:=dD Z
 have dr:(k:Int)< (V.f.n:Int):=by
  have:=(gS.1 Y).1;omega
 obtain⟨cb,az⟩:=kA (zaO m k f);rw[az.out]at a6 i⊢;obtain⟨⟨r,t,x,z,A,B,C,D⟩,M,bq,bo,bp,br⟩:=f;dsimp only at a8 i a4;have ee:=a5.box.box.c 0 rfl;rw[aw.out]at ee;obtain⟨db,dc,de,df,bm,dg,dh,di,dj,bn,bj,bk,bl⟩:=ax.out w (zc.refl _);dsimp only at db dc de df bm dg dh di dj bn bj bk bl
 go_enter func92,ntmps92
 go_upto_region 2 with fail;obtain⟨h,av⟩:=kA w.heap.size;obtain⟨H,R⟩:=kB (w.alloc (Xk #[U8 r,U8 t,U8 x,U8 z,U8 A,U8 B,U8 C,U8 D,I6 M,Xh bq,Xh bo,I6 bp,I6 br] 62));have ai:=gA R
 have cd:=xPT R av
 rw[R,av.out];rw[av.out]at bw;have cg:zc H H.drew:=show Below _ _ _ from(bR _ _).drew
 obtain⟨c,b⟩:=Wq fun u=>zc H u
 have n:=(b _).2 cg;have N:zc H H.drew:=cg;have du:∀y:zj c,y.world.cell? ⟨p,2,Xb⟩=Xa (V.s.x):=fun y=>(a5.box.box.grew (ai.trans ((b _).1 y.holds))).c 2 rfl
 have e6:∀y:zj c,y.world.cell? ⟨h,8,Xb⟩=Xa (I6 M):=fun y=>(cd.box.grew ((b _).1 y.holds)).c 8 rfl
 have bv:Nonempty (zj c):=⟨⟨_,n⟩⟩;refine zQ (I:=c) 15 [(7,fun v=>∃s:Sli,v= Xm #[s.x,I6 aj,I6 E])] (fun u=>zc H u) n N z6 Kr rfl rfl Dc (Sa ⟨_,zG,rfl⟩) Kr ?_
 simp only[Yg,Yh];refine zz ?_
 refine z4 (.tmp 19) ⟨p,0,Xb⟩ rfl rfl rfl rfl ?_;refine Uq ?_;iterate 5 refine zz ?_
 refine zI rfl rfl (fun v u=>∃(s:Sli) (G:Xn),v= Xm #[s.x,I6 aj,I6 E]/\zc H G/\zc G u/\qE slE G.heap.size u (s.x) (Ql m.sl M)) (fun w' g a=>?_) (fun c7 a0=>?_)
 ·refine zJ.call [V.s.x,I6 M] rfl func127 rfl rfl rfl ?_;refine(a8 w' (ai.trans a)).mono ?_;rintro e c8 ⟨s,rfl,ah,a9⟩;exact⟨_,rfl,(b _).2 (((b _).1 g).trans a9),⟨s,rfl⟩,s,w',rfl,a,a9,ah⟩
 obtain⟨s,rfl⟩:=a0;refine Uq ?_;iterate 7 refine zz ?_
 refine qJ fun ek bt P=>?_
 obtain⟨aq,G,S,X,al,c6⟩:=P;have T:aq=s:=by
  obtain⟨cu,cv,cw⟩:=s;obtain⟨cy,cz,da⟩:=aq;simp only[Value.tuple.injEq,Array.mk.injEq,List.cons.injEq,vJ,and_true]at S;obtain⟨rfl,rfl,rfl⟩:=S;rfl
 subst T;have bd:=dD<|c6.base (bS (ai.trans X))
 have au:=dD (ai.trans (X.trans al));have cr:=dD (cd.grew (X.trans al))
 by_cases an:E=0
 rotate_left
 ·have bz:(E != 0)=Xc:=by simp[an]
  have ca:=dD<|a6.out an;go_wp2;go_ret;exact⟨Rr ca.out,Rx ca.out (Chg.refl a5 au)⟩
 have bz:(E != 0)=Xd:=by simp[an]
 obtain⟨ef,j,eg,es,eh,ei⟩:=i.out an;subst eg;have b8:=dD ef;have b9:=dD eh;have ba:Xo (cb.2=_):=ei;have cl:=dD (a5.box.grew au)
 go_upto_region 6 with(refine Zf rfl 30 (.tmp 36) (.tmp 33) rfl p 2 rfl (aq.x) rfl [aq.x] rfl cl (by simp[chL]) Kr (by simp[Value.oneCell']) ?_)
 intro F bh aa _;have cs:Xo (zo F h 62 [U8 r,U8 t,U8 x,U8 z,U8 A,U8 B,U8 C,U8 D,I6 M,Xh bq,Xh bo,I6 bp,I6 br]):=dD<|cr.beside aa (fun k e=>by cases e;omega)
 obtain⟨l,ao,e9,bm⟩:=a5.setS au bd aa bh;have bc:=dD ao;have cp:=dD e9;have cm:=dD bm;have co:Xo (∀W,zc F W->Xp prog 128 #[Xi #[l.sb.x,l.sq.x],I6 (j:Int),Xi #[U8 r,U8 t,U8 x,U8 z,U8 A,U8 B,U8 C,U8 D]] W fun e w'=>∃d q:Sli,e= Xl (Xm #[Xi #[d.x,q.x],I6 0])/\qa W.heap.size w' (Xi #[d.x,q.x]) (ja m.sb m.sq (j:Int)) (jh m.sb m.sq (j:Int) (pgL ⟨r,t,x,z,A,B,C,D⟩))/\zc W w'):=show∀W,_ from fun W am=>by
  have ag:=zfE (Xi #[l.sb.x,l.sq.x]) m.sb m.sq (j:Int) (pgL ⟨r,t,x,z,A,B,C,D⟩) rfl W ⟨_,_,rfl,(ao.at.grew am).sb,(ao.at.grew am).sq⟩;rw[b9.out]at ag;refine ag.mono ?_;rintro e w' ⟨em,rfl,cj,bs⟩;obtain⟨d,q,rfl,_,_⟩:=cj.form;exact⟨d,q,rfl,cj,bs⟩
 have dt:p<F.heap.size:=ao.dlt p (.inl rfl);have ay:Xo (p≠h):=dD<|Wm
 try simp only[Xs]
 go_upto_region 6 with fail;obtain⟨c,b⟩:=Wq fun u=>zo u h 62 [U8 r,U8 t,U8 x,U8 z,U8 A,U8 B,U8 C,U8 D,I6 M,Xh bq,Xh bo,I6 bp,I6 br]
 have n:=(b _).2 (cs.grew (gW _))
 have N:zc F F.drew:=show Below _ _ _ from(bR _ _).drew
 have dv:∀y:zj c,y.world.cell? ⟨h,0,Xb⟩=Xa (U8 r):=fun y=>((b _).1 y.holds).box.c 0 rfl
 have dw:∀y:zj c,y.world.cell? ⟨h,1,Xb⟩=Xa (U8 t):=fun y=>((b _).1 y.holds).box.c 1 rfl
 have dx:∀y:zj c,y.world.cell? ⟨h,2,Xb⟩=Xa (U8 x):=fun y=>((b _).1 y.holds).box.c 2 rfl
 have dy:∀y:zj c,y.world.cell? ⟨h,3,Xb⟩=Xa (U8 z):=fun y=>((b _).1 y.holds).box.c 3 rfl
 have dz:∀y:zj c,y.world.cell? ⟨h,4,Xb⟩=Xa (U8 A):=fun y=>((b _).1 y.holds).box.c 4 rfl
 have e0:∀y:zj c,y.world.cell? ⟨h,5,Xb⟩=Xa (U8 B):=fun y=>((b _).1 y.holds).box.c 5 rfl
 have e4:∀y:zj c,y.world.cell? ⟨h,6,Xb⟩=Xa (U8 C):=fun y=>((b _).1 y.holds).box.c 6 rfl
 have e5:∀y:zj c,y.world.cell? ⟨h,7,Xb⟩=Xa (U8 D):=fun y=>((b _).1 y.holds).box.c 7 rfl
 have bv:Nonempty (zj c):=⟨⟨_,n⟩⟩;refine zQ (I:=c) 17 [(5,fun v=>v= Xi #[l.sb.x,l.sq.x]),(9,fun v=>∃d q:Sli,v= Xm #[Xi #[d.x,q.x],I6 0]),(16,fun _=>True)] (fun u=>zc F u) n N z6 Kr rfl rfl Dc (Sc ⟨_,rfl⟩ ⟨_,zG,zG,rfl⟩ ⟨undef,trivial⟩) Kr ?_
 simp only[Yg,Yh];iterate 2 refine zz ?_
 refine z4 (.tmp 39) ⟨p,0,Xb⟩ rfl rfl rfl rfl ?_;refine Uq ?_;iterate 2 refine zz ?_
 refine zI rfl rfl (fun _ u=>zc F u) (fun w' g a=>?_) (fun c7 a0=>?_)
 ·refine zdl 34 (.tmp 42) rfl p 3 rfl [l.sb.x,l.sq.x] ((bc.box.box.grew a).mid 3 (fun j v ac=>by
   match j,ac with
   | 0,ac=>exact ac
   | 1,ac=>exact ac)) underlying34 rfl Kr ⟨g,rfl,a⟩
 cases a0;refine Uq ?_;iterate 3 refine zz ?_
 refine zI rfl rfl (fun v u=>∃(d q:Sli) (G:Xn),v= Xm #[Xi #[d.x,q.x],I6 0]/\zc F G/\zc G u/\qa G.heap.size u (Xi #[d.x,q.x]) (ja m.sb m.sq (j:Int)) (jh m.sb m.sq (j:Int) (pgL ⟨r,t,x,z,A,B,C,D⟩))) (fun w' g a=>?_) (fun c7 a0=>?_)
 ·refine zJ.call [Xi #[l.sb.x,l.sq.x],I6 (j:Int),Xi #[U8 r,U8 t,U8 x,U8 z,U8 A,U8 B,U8 C,U8 D]] rfl func128 rfl rfl rfl ?_;refine(co w' a).mono ?_;rintro e c8 ⟨d,q,rfl,ah,a9⟩;exact⟨_,rfl,(b _).2 (((b _).1 g).grew a9),⟨d,q,rfl⟩,d,q,w',rfl,a,a9,ah⟩
 obtain⟨d,q,rfl⟩:=a0;refine Uq ?_;iterate 3 refine zz ?_
 refine z4 (.tmp 38) ⟨p,0,Xb⟩ rfl rfl rfl rfl ?_;refine Uq ?_;iterate 2 refine zz ?_
 refine zI rfl rfl (fun _ u=>Chg w0 p F l {({ m with sl:=Ql m.sl M }:Ma)with sb:=ja m.sb m.sq (j:Int),sq:=jh m.sb m.sq (j:Int) (pgL ⟨r,t,x,z,A,B,C,D⟩) } u) (fun w' g a=>?_) (fun c7 a0=>?_)
 ·obtain⟨ak,ap,G,S,X,al,c6⟩:=a;have T:ak=d/\ap=q:=by
   obtain⟨cu,cv,cw⟩:=d;obtain⟨cy,cz,da⟩:=ak;obtain⟨dk,ce,cf⟩:=q;obtain⟨en,eo,ep⟩:=ap;simp only[Value.tuple.injEq,Array.mk.injEq,List.cons.injEq,Value.agg.injEq,vJ,and_true]at S;obtain⟨⟨rfl,rfl,rfl⟩,rfl,rfl,rfl⟩:=S;exact⟨rfl,rfl⟩
  obtain⟨rfl,rfl⟩:=T;have c9:=X.trans al;refine ZZ 34 (.tmp 52) (.tmp 48) rfl p 3 rfl (Xi #[ak.x,ap.x]) rfl [ak.x,ap.x] rfl (bc.box.grew c9) (by simp[chL]) Kr (by simp[Value.oneCell']) ?_
  intro bg bi ab _;exact⟨(b _).2 (((b _).1 g).beside ab (fun k e=>by cases e;exact fun e=>ay.out e.symm)),trivial,bc.setSw c9 (bS X) c6 ab bi⟩
 try simp only[Xs]
 refine qJ fun bg bt P=>?_
 obtain⟨cc,ci,ea,bn⟩:=Chg.step cp cm P;have ej:Xo (ChW w0 p bg cc _):=ci;have cq:=dD ea;have cn:=dD bn;have bu:=a4.out bg cc j _ _ _ ci;go_wp2_with fail;refine bu.mono ?_;rintro e bf ⟨⟨er,rfl⟩,dm⟩;have bb:Xo (Chg w0 p w V cb.2 bf):=show Chg _ _ _ _ _ _ by rw[ba.out];exact Chg.step cq cn dm
 go_wp2;go_ret;exact⟨Rr b8.out,bb⟩
theorem zoI (x0 y0:Int) (x1 y1:Int) (w):(Op.equalIn 10000 214 (Xi #[I6 x0,I6 x1]) (Xi #[I6 y0,I6 y1])).run prog w= .ok ((x0 == y0) &&(x1 == y1)) w:=by
 have hf : (Tryz.prog.fieldsOf 214).toList.map (fun f => (f.name, f.type, f.offset)) = [("Proc", 3, 0), ("Page", 3, 1)] := by kernel_rfl
 rw[run_equalIn_struct w 9999 214 _ _ Kr Kr]
 obtain⟨f0,f1,hfs⟩:∃f0 f1,(Tryz.prog.fieldsOf 214).toList=[f0,f1]:=by
  have hl:(Tryz.prog.fieldsOf 214).toList.length=2:=by have:=congrArg List.length hf;simpa using this
  match hq:(Tryz.prog.fieldsOf 214).toList,hl with
  | [f0,f1],_=>exact⟨f0,f1,rfl⟩
 rw[hfs]at hf⊢
 simp at hf
 obtain⟨⟨n0,t0,o0⟩,⟨n1,t1,o1⟩⟩:=hf;have pI:∀(zs:Array Xq) (o:Nat) v,zs[o]? =Xa (I6 v)->(part 3 zs o).run prog w= .ok (I6 v) w:=fun zs o v hz=>run_part_plain w (by simp[Program.plainKey,underlying3]) hz
 simp only[Op.eqFields,n0,t0,o0,n1,t1,o1]
 simp[pI,run_equalIn_int w _ _ _ _ _ _ underlying3]
 by_cases e0:x0=y0
 case neg=>simp[e0]
 subst e0
 by_cases e1:x1=y1
 case neg=>simp[e1]
 subst e1;simp
def zmG (W:Xn) (y:Addr) (x:Nat × Nat):Prop:=W.cell? y=Xa (Xe Xf (x.1:Int))/\W.cell? { block:=y.block,off:=y.off+1 }=Xa (Xe Xf (x.2:Int))
theorem zl.spots {w:Xn} {v:Xq} {l:List (Nat × Nat)} (h:zl zeO w v l):∃a c,v= O a l.length c/\∀(j:Nat) x,l[j]? =Xa x->∃ad,a=Xa ad/\∀W,zc w W->zmG W (ad.add (j*2)) x:=by
 obtain⟨a,c,b,d⟩:=h.rows;refine⟨a,c,b,fun j x f=>?_⟩
 obtain⟨ad,e,b⟩:=d j x f;exact⟨ad,e,fun W d=>⟨b W d 0 _ rfl,b W d 1 _ rfl⟩⟩
theorem ze8 (v) (l:List (Nat × Nat)) (q n:Nat) (w) (U:zl zeO w v l):
  Xp prog 167 #[v,Xi #[I6 (q:Int),I6 (n:Int)]] w fun e w'=>(∃E:Int,e= Xl (I6 E)/\(0<=E↔(q,n)∈l))/\zc w w':=by
 have s:=U.short;obtain⟨ae,af,rfl,f⟩:=U.spots;have I:=dD f;clear f U;obtain⟨L,K⟩:=kA l.length;rw[K.out]at s⊢;obtain⟨c,b⟩:∃c:Int->Prop,Xo (∀E,(0<=E↔(q,n)∈l)=c E):=⟨_,fun _=>rfl⟩
 simp only[b.out];obtain⟨a3,W⟩:=kA w.heap.size;obtain⟨ac,d⟩:=kB (w.alloc (Xk #[I6 (q:Int),I6 (n:Int)] 214));have Z:=gA d
 have a1:=xP d W
 have N:=dD d;clear d;have aa:=zoI
 go_enter func167,ntmps167
 go_upto_region 1 with fail;rw[N.out,W.out];go_wp2
 go_loopg [5,8] L (fun a5 _ ab wr=>∃a:Nat,a<=L/\L - a<=a5/\ab=I6 a/\Xo (zc w wr)/\Xo (Box wr a3 [I6 (q:Int),I6 (n:Int)])/\Xo (∀(j:Nat) x,j<a->l[j]? =Xa x->x≠(q,n)))
 exact⟨0,nZ _,Wm,rfl,Z,a1,fun j x t=>absurd t (nL _)⟩
 obtain⟨a,a9,a8,rfl,F,P,V⟩:=hrel
 by_cases g:a<L
 ·have u:=kC g
  obtain⟨x,M⟩:∃x,Xo (l[a]? =Xa x):=⟨_,gE (Rx K.out g)⟩
  obtain⟨Q,rfl,Y⟩:=I.out a x M.out;have r:=dD<|fun X (a6:zc wr X)=>Y X (F.trans a6)
  clear Y;obtain⟨i,m⟩:=x;go_upto_region 4 with fail;have C:∀y:ze wr,y.world.cell? (Q.add (a*2))=Xa (I6 (i:Int)):=fun y=>(r _ y.grew).1
  have D:∀y:ze wr,y.world.cell? ⟨(Q.add (a*2)).block,(Q.add (a*2)).off+1,Xb⟩=Xa (I6 (m:Int)):=fun y=>(r _ y.grew).2
  have A:=P.gw 0 rfl
  have B:=P.gw 1 rfl
  have z:Nonempty (ze wr):=⟨⟨_,zc.refl _⟩⟩
  by_cases G:i=q/\m=n
  ·obtain⟨rfl,rfl⟩:=G;have p:Xo (c (a:Int)):=dD<|by
    rw[<-b.out];exact⟨fun _=>mG M,fun _=>Wm⟩
   refine ju [] z6 Kr Sm Sm ?_
   iterate 6 refine zg ?_
   refine qd fun a0 k T=>?_
   have H:=dD (F.trans k);clear k T z C D A B;have a7:(((i:Int) ==(i:Int)) &&((m:Int) ==(m:Int)))=Xc:=Sm
   go_wp2;go_ret;exact⟨⟨_,rfl,p⟩,H⟩
  have p:Xo (∀(j:Nat) x,j<a+1->l[j]? =Xa x->x≠(q,n)):=dD<|fun j x t h=>by
   by_cases e:j=a
   ·subst e;rw[M.out]at h;cases h;exact fun e=>G (Prod.mk.inj e)
   exact V j x Wm h
  have a7:(((q:Int) ==(i:Int)) &&((n:Int) ==(m:Int)))=Xd:=by
   by_cases e:i=q
   ·have R:¬(n:Int)=(m:Int):=fun a4=>G ⟨e,Wm⟩
    simp[R]
   have R:¬(q:Int)=(i:Int):=fun a4=>e Wm
   simp[R]
  clear G;refine ju [] z6 Kr Sm Sm ?_
  iterate 6 refine zg ?_
  refine qd fun a0 k T=>?_
  have H:=dD (F.trans k);have a2:=dD (P.grew k);clear k T z C D A B;go_wp2
  go_roundg (L -(a+1));exact⟨a+1,Wm,Wm,Gn,H,a2,p⟩;omega
 have u:=kD g
 have:a=L:=Wm
 subst this;have p:Xo (c (-1)):=dD<|by
  rw[<-b.out];refine⟨fun S=>absurd S Dc,fun S=>?_⟩
  obtain⟨j,t⟩:=Xw S;exact absurd rfl (V j _ (by rw[<-K.out];exact(gS.1 t).1) t)
 go_wp2;go_ret;exact⟨⟨_,rfl,p⟩,F⟩
theorem zb9 (v) (l:List (Nat × Nat)) (q n:Nat) (w) (b:zl zeO w v l):
  Xp prog 153 #[v,Xi #[I6 (q:Int),I6 (n:Int)]] w fun e w'=>e= Xl (Xh (l.contains (q,n)))/\zc w w':=by
 have a:=ze8 v l q n (w.alloc (Xk #[I6 (q:Int),I6 (n:Int)] 214)) (b.grew (za _ _));obtain⟨R,c⟩:=kA (l.contains (q,n));rw[c.out];clear b
 go_enter func153,ntmps153
 go_wp2_with fail;refine a.mono ?_;clear a;rintro e a ⟨⟨z,rfl,a⟩,b⟩;have f:=dD<|(za _ _).trans b
 clear b
 by_cases d:0<=z
 ·have b:Xo (R=Xc):=dD<|by rw[<-c.out];simpa using a.1 d
  clear a;go_wp2;go_ret;exact⟨Rr b.out,f⟩
 have b:Xo (R=Xd):=dD<|by
  rw[<-c.out]
  cases c:l.contains (q,n)with
  | false=>rfl
  | true=>exact absurd (a.2 (Si c)) d
 have c:Xo (decide (0<=z)=Xd):=decide_eq_false d;clear a;go_wp2;go_ret;exact⟨by rw[b.out,<-c.out];rfl,f⟩
theorem zoV {e:En} {a b:Int}:isE e a b=(decide (e.kind=a) && decide (e.n=b)):=by
 unfold isE
 cases c:decide (e.kind=a) <;> cases c:decide (e.n=b) <;> simp_all
theorem zk8 {w:Xn} {p:Nat} (F:ChW w0 p w V m) (ap bc c0 bz:Nat) (f:Fr) (k:Nat) (a7) (l:List (Nat × Nat)) (ad:Box w ap (frv f)) (ag:Box w bc [a7]) (ah:Box w c0 [Xj (Xa ⟨p,0,Xb⟩)]) (ae:Box w bz [I6 (k:Int)]) (H:zl zeO w a7 l)
  (q n:Nat) (s:Sp) (a:Ar) (bn:m.sp[q]? =Xa s) (c4:n<64) (c9:0<=f.f) (bg:a.file=f.f->(0<=a.base/\a.base<=100)/\(0<=a.fr/\a.fr<=100)):
  Xp prog 152 #[Xi #[I6 (q:Int),I6 (n:Int)],Xi #[I6 a.fr,I6 a.tz,Xh a.rd,Xh a.wr,Xh a.sh,I6 a.file,I6 a.base],Xj (Xa ⟨ap,0,Xb⟩),Xj (Xa ⟨bc,0,Xb⟩),Xj (Xa ⟨c0,0,Xb⟩),Xj (Xa ⟨bz,0,Xb⟩)] w fun e w'=>e= Xl (Xh (Jz k f l q s a n))/\zc w w':=by
 have am:=(gS.1 bn).1;have ak:zpW m q (n:Int)=zm s n:=by unfold zpW;rw[Sp.getD_of bn,zlR c4]
 have bs:Xo (∀W,zc w W->Xp prog 154 #[Xj (Xa ⟨p,0,Xb⟩),Xi #[I6 (q:Int),I6 (n:Int)]] W fun e w'=>e= Xl (enV (zm s n))/\zc W w'):=dD<|fun W be=>by rw[<-ak];exact zh2 (F.grew be) q am (n:Int)
 have bt:Xo (∀W,a.file=f.f->Xp prog 144 #[Xi #[I6 a.fr,I6 a.tz,Xh a.rd,Xh a.wr,Xh a.sh,I6 a.file,I6 a.base],I6 (n:Int)] W fun e w'=>e= Xl (I6 (a.base+(n:Int) - a.fr))/\zc W w'):=dD<|fun W bh=>zc2 a (n:Int) W (bg bh).1 (bg bh).2 Wm
 have br:Xo (∀W,zc w W->Xp prog 153 #[a7,Xi #[I6 (q:Int),I6 (n:Int)]] W fun e w'=>e= Xl (Xh (l.contains (q,n)))/\zc W w'):=dD<|fun W be=>zb9 a7 l q n W (H.grew be)
 have M:Xo (a.file=f.f->(qw a n).page=a.base+(n:Int) - a.fr):=dD<|fun bh=>by
  unfold qw;simp only;rw[kE Wm]
  omega
 have c:Xo (Jz k f l q s a n=(decide (a.file=f.f) && decide ((qw a n).page=f.x) && !(l.contains (q,n)) &&(decide ((zm s n).kind=0) || (decide ((zm s n).kind=1) && decide ((zm s n).n=(k:Int)))))):=dD<|by
  unfold Jz;rw[zoV];rfl
 obtain⟨bq,ax⟩:=kA (l.contains (q,n));rw[ax.out]at br c;obtain⟨a2,b8⟩:=kA ((qw a n).page);rw[b8.out]at M c;obtain⟨B,aq,bd,aj⟩:∃B aq bd,zm s n=⟨B,aq,bd⟩:=⟨_,_,_,rfl⟩;rw[aj]at bs c;obtain⟨a3,c7⟩:=kA (Jz k f l q s a n);rw[c7.out]at c⊢;simp only at c;have a8:=dD ad;have av:=dD ag;have aw:=dD ah;have au:=dD ae;obtain⟨⟨cd,ce,cf,cg,ch,ci,cj,ck⟩,fr,cn,cm,ab,ac⟩:=f;obtain⟨aa,r,i,t,j,b,d⟩:=a;simp only at bt M c c9;clear F ad ag ah ae H bn c4 bg am ak aj;obtain⟨bx,ar⟩:=kA w.heap.size;obtain⟨N,u⟩:=kB ((w.alloc (Xk #[I6 (q:Int),I6 (n:Int)] 214)).alloc (Xk #[I6 aa,I6 r,Xh i,Xh t,Xh j,I6 b,I6 d] 105));have L:=gD2 u
 have bb:Xo (Box N bx [I6 (q:Int),I6 (n:Int)]):=dD<|by rw[<-u,<-ar.out];exact(Box.top w _ _ rfl).alloc _
 have P:Xo (Box N (bx+1) [I6 aa,I6 r,Xh i,Xh t,Xh j,I6 b,I6 d]):=dD<|by rw[<-u];exact Box.top _ [I6 aa,I6 r,Xh i,Xh t,Xh j,I6 b,I6 d] _ (by have:=ar.out;simp;omega)
 have b9:Xo (_=N):=u;clear u
 go_enter func152,ntmps152
 go_upto_region 1 with fail;rw[b9.out,ar.out];have U:=P.gw 0 rfl
 have X:=P.gw 1 rfl
 have Y:=P.gw 2 rfl
 have Z:=P.gw 3 rfl
 have I:=P.gw 4 rfl
 have a0:=P.gw 5 rfl
 have a1:=P.gw 6 rfl
 have S:=bb.gw 0 rfl
 have T:=bb.gw 1 rfl
 have v:∀A:ze N,A.world.cell? ⟨ap,11,Xb⟩=Xa (I6 ab):=fun A=>(a8.grew (L.trans A.grew)).c 11 rfl
 have x:∀A:ze N,A.world.cell? ⟨ap,12,Xb⟩=Xa (I6 ac):=fun A=>(a8.grew (L.trans A.grew)).c 12 rfl
 have Q:∀A:ze N,A.world.cell? ⟨bc,0,Xb⟩=Xa a7:=fun A=>(av.grew (L.trans A.grew)).c 0 rfl
 have R:Nonempty (ze N):=⟨⟨_,zc.refl _⟩⟩
 by_cases E:b=ab
 rotate_left
 ·have c2:(b != ab)=Xc:=Si E
  have h:Xo (a3=Xd):=dD<|by rw[c.out,decide_eq_false E];rfl
  clear E;refine ju [] z6 Kr Sm Sm ?_
  iterate 6 refine zg ?_
  iterate 7 (refine j1 Kr ?_;simp only[Xs,sB,sS,sZ])
  iterate 2 refine zg ?_
  iterate 3 (refine j1 Kr ?_;simp only[Xs,sB,sS,sZ])
  refine zg ?_
  refine qd fun ba g G=>?_
  have D:=dD (L.trans g);clear g G R U X Y Z I a0 a1 S T v x Q;go_wp2;go_ret;exact⟨Rr h.out,D⟩
 have c2:(b != ab)=Xd:=by simp[E]
 have al:=M.out E;have y:=fun W=>bt.out W E
 rw[<-al]at y;have ay:Xo (decide (b=ab)=Xc):=decide_eq_true E;rw[ay.out]at c;clear E al
 by_cases a4:a2=ac
 rotate_left
 ·have c3:(a2 != ac)=Xc:=Si a4
  have h:Xo (a3=Xd):=dD<|by rw[c.out,decide_eq_false a4];rfl
  clear a4;refine ju [(9,⟨fun K=>K=I6 a2,fun K w'=>True⟩)] z6 Kr (Sa ⟨_,rfl⟩) ?hp ?_
  case hp=>
   intro bo z;simp only[mC,nM,or_false]at z;subst z;exact fun _ _ _ _ F=>F
  iterate 9 refine zg ?_
  refine zx rfl rfl (fun w' bi G=>?_) (fun c5 H=>?_)
  ·refine zJ.call [Xi #[I6 aa,I6 r,Xh i,Xh t,Xh j,I6 b,I6 d],I6 (n:Int)] rfl func144 rfl rfl rfl ?_;refine(y w').mono ?_;rintro e an ⟨rfl,g⟩;exact⟨_,rfl,g,rfl,trivial⟩
  subst H;refine Uq ?_;iterate 5 refine zg ?_
  iterate 3 (refine j1 Kr ?_;simp only[Xs,sB,sS,sZ])
  refine zg ?_
  refine qd fun ba g G=>?_
  have D:=dD (L.trans g);clear g G R U X Y Z I a0 a1 S T v x Q y;go_wp2;go_ret;exact⟨Rr h.out,D⟩
 have c3:(a2 != ac)=Xd:=by simp[a4]
 have az:Xo (decide (a2=ac)=Xc):=decide_eq_true a4;rw[az.out]at c;clear a4;refine ju [(9,⟨fun K=>K=I6 a2,fun K w'=>True⟩),(17,⟨fun K=>K= Xh bq,fun K w'=>True⟩)] z6 Kr (Sb ⟨_,rfl⟩ ⟨_,rfl⟩) ?hp ?_
 case hp=>
  intro bo z;simp only[mC,nM,or_false]at z
  rcases z with rfl|rfl
  ·exact fun _ _ _ _ F=>F
  exact fun _ _ _ _ F=>F
 iterate 9 refine zg ?_
 refine zx rfl rfl (fun w' bi G=>?_) (fun c5 H=>?_)
 ·refine zJ.call [Xi #[I6 aa,I6 r,Xh i,Xh t,Xh j,I6 b,I6 d],I6 (n:Int)] rfl func144 rfl rfl rfl ?_;refine(y w').mono ?_;rintro e an ⟨rfl,g⟩;exact⟨_,rfl,g,rfl,trivial⟩
 subst H;refine Uq ?_;iterate 7 refine zg ?_
 refine zx rfl rfl (fun w' bi G=>?_) (fun c5 H=>?_)
 ·refine zJ.call [a7,Xi #[I6 (q:Int),I6 (n:Int)]] rfl func153 rfl rfl rfl ?_;refine(br w' (L.trans bi)).mono ?_;rintro e an ⟨rfl,g⟩;exact⟨_,rfl,g,rfl,trivial⟩
 subst H;refine Uq ?_;refine zg ?_
 refine qd fun ba g G=>?_
 have D:=dD (L.trans g);have bv:=dD (bb.grew g);clear g G R U X Y Z I a0 a1 S T v x Q y c2 c3
 cases bq with
 | true=>
  have h:Xo (a3=Xd):=dD<|Rr c.out
  go_wp2;go_ret;exact⟨Rr h.out,D⟩
 | false=>
  have cb:=bv.c 0 rfl;have cc:=bv.c 1 rfl;have ca:=(aw.grew D).c 0 rfl;have ai:=bs.out ba D.out;go_wp2_with fail;refine ai.mono ?_;clear ai cb cc ca;rintro e bu ⟨rfl,c1⟩;have c6:=dD (D.trans c1);clear c1;unfold enV;go_upto_region 4 with fail;obtain⟨cl,a9⟩:=kA bu.heap.size;obtain⟨c8,C⟩:=kB (bu.alloc (Xk #[I6 B,I6 aq,Xh bd] 75));have ao:Xo (zc w c8):=show zc _ _ from c6.trans (by rw[<-C];exact za _ _)
  have bw:=xP C a9
  rw[C,a9.out];clear C;have cp:=bw.c 0 rfl;have cq:=bw.c 1 rfl;have co:=(au.grew ao).c 0 rfl
  by_cases a5:B=0
  ·have bj:(B == 0)=Xc:=Rr a5
   have h:Xo (a3=Xc):=dD<|by rw[c.out,decide_eq_true a5];rfl
   clear a5;go_wp2;go_ret;exact⟨Rr h.out,ao⟩
  have bj:(B == 0)=Xd:=Si a5
  rw[decide_eq_false a5]at c;clear a5
  by_cases a6:B=1
  ·have bl:(B == 1)=Xc:=Rr a6
   rw[decide_eq_true a6]at c;clear a6;have h:Xo (a3=(aq ==(k:Int))):=dD<|Rr c.out
   go_wp2;go_ret;exact⟨Rr h.out,ao⟩
  have bl:(B == 1)=Xd:=Si a6
  rw[decide_eq_false a6]at c;clear a6;have h:Xo (a3=Xd):=dD<|Rr c.out
  go_wp2;go_ret;exact⟨Rr h.out,ao⟩
theorem zJ.allocFr {a:Act} {w:Xn} {K:Xq->Xn->Prop} (d:o.op= .alloc 62) (h:K (Xj (Xa ⟨w.heap.size,0,Xb⟩)) (w.alloc (Xk (frv fr0).toArray 62))):zJ prog o a w K:=by
 have e:(zeroValue 62).run prog w= .ok frz w:=by
  obtain⟨f,c,b,_,_⟩:=info_parts qA.info;have:qA.ty=62:=rfl;rw[this]at c;have b:f.zero=Xa frz:=b
  simp[zeroValue,typeInfo,c,b]
 unfold zJ;have:(execOp a.eval o).run prog w= .ok (.value (Xj (Xa ⟨w.heap.size,0,Xb⟩))) (w.alloc (Xk (frv fr0).toArray 62)):=by
  simp[execOp,d,go_sem,e]
  rfl
 rw[this];exact h
theorem zkk {w:Xn} {p:Nat} (h:ChW w0 p w V m) (hR:Rt m) (k:Nat) (f:Fr) (hk:m.fs[k]? =Xa f) (hf:0<=f.f) (mv) (l:List (Nat × Nat)) (hv:zl zeO w mv l):
  Xp prog 130 #[Xj (Xa ⟨p,0,Xb⟩),I6 (k:Int),mv] w fun e w'=>e= Xl (Xh (zfW m k f l))/\zc w w':=by
 obtain⟨ma,mc,rfl,_⟩:=hv.rows;obtain⟨mn,HMN⟩:=kA l.length;rw[HMN.out]at hv⊢;have HM:=dD h;have HV:=dD hv;have HOK:Xo (∀(q:Nat) s,m.sp[q]? =Xa s->s.ars.length<=16/\∀a∈s.ars,jQ a):=show∀(q:Nat) s,_ from fun q s hs=>by
  obtain⟨h1,h2⟩:=jq.1 (hR.inv.spok s (mG hs)).1;exact⟨h1,h2.all⟩
 have HF0:=dD hf;obtain⟨n1,-⟩:=h.at.ns;obtain⟨ad,ha,hl⟩:=h.at.frs k f hk;have HFA:=dD ha;have HFC:=dD hl
 have hlt:(k:Int)< (V.f.n:Int):=by
  have:=(gS.1 hk).1;omega
 obtain⟨xs,hxl,hrow,hsp⟩:=h.at.spaces;obtain⟨-,-,-,-,-,-,-,-,n9⟩:=h.at.ns;obtain⟨spa,HSA⟩:=kA V.sp.a;obtain⟨sn,HSN⟩:=kA m.sp.length;have HN9:Xo (V.sp.n=sn):=dD<|Rx n9 HSN.out
 have hsn4:sn<=4:=Ry HSN.out hR.inv.spl
 have HXL:Xo (xs.length=sn):=dD<|Rx hxl HSN.out
 have HRW:Xo (∀(j:Nat) x,xs[j]? =Xa x->∃ad,spa=Xa ad/\∀W,zc w W->zja W (ad.add (j*10)) x):=dD<|by rw[<-HSA.out];exact hrow
 have HSP:=dD hsp
 obtain⟨SB,HSB⟩:=kA (zfW m k f l);rw[HSB.out];have HYES:Xo ((∃(q:Nat) (s:Sp) (i:Nat) (a:Ar) (n:Nat),m.sp[q]? =Xa s/\s.ars[i]? =Xa a/\jX a n=Xc/\n<64/\Jz k f l q s a n=Xc)->SB=Xc):=dD<|fun⟨q,s,i,a,n,h1,h2,h3,h4,h5⟩=>by
  rw[<-HSB.out];exact zcD.2 ⟨q,s,i,a,n,h1,h2,h3,h4,zaP.1 h5⟩
 have HNO:Xo ((∀(q:Nat) (s:Sp) (i:Nat) (a:Ar) (n:Nat),m.sp[q]? =Xa s->s.ars[i]? =Xa a->jX a n=Xc->n<64->Jz k f l q s a n=Xd)->SB=Xd):=dD<|fun hno=>by
  rw[<-HSB.out]
  cases hb:zfW m k f l with
  | false=>rfl
  | true=>
   obtain⟨q,s,i,a,n,h1,h2,h3,h4,h5⟩:=zcD.1 hb;have:=hno q s i a n h1 h2 h3 h4;rw[zaP.2 h5]at this;cases this
 clear h hR hk hf hv ha hl n1 n9 hxl hrow hsp;obtain⟨b,HB⟩:=kA w.heap.size;obtain⟨W0,hW0⟩:=kB (((w.alloc (Xk #[Xj (Xa ⟨p,0,Xb⟩)] 87)).alloc (Xk #[I6 (k:Int)] 3)).alloc (Xk #[O ma mn mc] 113));have G0:Xo (zc w W0):=dD<|by rw[<-hW0];exact((za _ _).trans (za _ _)).trans (za _ _)
 have P0:Xo (Box W0 b [Xj (Xa ⟨p,0,Xb⟩)]):=dD<|by rw[<-hW0,<-HB.out];exact((Box.top w [Xj (Xa ⟨p,0,Xb⟩)] _ rfl).alloc _).alloc _
 have K0:Xo (Box W0 (b+1) [I6 (k:Int)]):=dD<|by rw[<-hW0];exact(Box.top _ [I6 (k:Int)] _ (by have:=HB.out;simp;omega)).alloc _
 have M0:Xo (Box W0 (b+2) [O ma mn mc]):=dD<|by rw[<-hW0];exact Box.top _ [O ma mn mc] _ (by have:=HB.out;simp;omega)
 have HB3:Xo (W0.heap.size=b+3):=dD<|by rw[<-hW0];have:=HB.out;simp;omega
 have HW0:Xo (_=W0):=hW0;clear hW0
 go_enter func130,ntmps130
 go_upto_region 1 with fail;rw[HW0.out,HB.out];obtain⟨⟨b0,b1,b2,b3,b4,b5,b6,b7⟩,fr,fu,fd,ff,fx⟩:=f;have gd:zc W0 W0.drew:=show Below _ _ _ from(bR _ _).drew
 obtain⟨I,HI⟩:=Wq fun u=>zc W0 u
 have hI0:=(HI _).2 gd;have hF0:W0.drew=W0.drew:=rfl;have hp0:=P0.h HI 0 rfl
 have hk0:=K0.h HI 0 rfl
 have hx0:∀y:zj I,y.world.cell? ⟨p,0,Xb⟩=Xa (O (Xa ad) V.f.n V.f.c):=fun y=>by rw[<-HFA.out];exact(HM.box.box.grew (G0.trans ((HI _).1 y.holds))).c 0 rfl
 have hfc:∀y:zj I,ziq y.world (ad.add (k*13)) ⟨⟨b0,b1,b2,b3,b4,b5,b6,b7⟩,fr,fu,fd,ff,fx⟩:=fun y=>HFC.out _ (G0.trans ((HI _).1 y.holds))
 have hd0:=fun y=>(hfc y).1
 have hd1:=fun y=>(hfc y).2.1
 have hd2:=fun y=>(hfc y).2.2.1
 have hd3:=fun y=>(hfc y).2.2.2.1
 have hd4:=fun y=>(hfc y).2.2.2.2.1
 have hd5:=fun y=>(hfc y).2.2.2.2.2.1
 have hd6:=fun y=>(hfc y).2.2.2.2.2.2.1
 have hd7:=fun y=>(hfc y).2.2.2.2.2.2.2.1
 have hd8:=fun y=>(hfc y).2.2.2.2.2.2.2.2.1
 have hd9:=fun y=>(hfc y).2.2.2.2.2.2.2.2.2.1
 have hd10:=fun y=>(hfc y).2.2.2.2.2.2.2.2.2.2.1
 have hd11:=fun y=>(hfc y).2.2.2.2.2.2.2.2.2.2.2.1
 have hd12:=fun y=>(hfc y).2.2.2.2.2.2.2.2.2.2.2.2
 dsimp only at hd0 hd1 hd2 hd3 hd4 hd5 hd6 hd7 hd8 hd9 hd10 hd11 hd12;clear hfc;have hne:Nonempty (zj I):=⟨⟨_,hI0⟩⟩;refine zQ (I:=I) 11 [(9,fun v=>v= Xj (Xa ⟨b+3,0,Xb⟩)),(10,fun _=>True)] (fun u=>u=W0.drew) hI0 hF0 z6 Kr rfl rfl Dc (Sb ⟨_,rfl⟩ ⟨undef,trivial⟩) Kr ?_
 simp only[Yg,Yh];refine zz ?_
 refine z4 (.tmp 14) ⟨p,0,Xb⟩ rfl rfl rfl rfl ?_;refine Uq ?_;iterate 7 refine zz ?_
 refine zI rfl rfl (fun _ u=>zo u (b+3) 62 (frv fr0)/\zc W0 u) (fun w' hI' hF'=>?_) (fun v1 hv=>?_)
 ·subst hF';refine zJ.allocFr rfl ?_;have hs:W0.drew.heap.size=b+3:=HB3.out;refine⟨(HI _).2 (gd.trans (za _ _)),by rw[hs],zo.top _ (frv fr0) _ hs.symm,gd.trans (za _ _)⟩
 subst hv;refine Uq ?_;refine zI rfl rfl (fun _ u=>zo u (b+3) 62 [U8 b0,U8 b1,U8 b2,U8 b3,U8 b4,U8 b5,U8 b6,U8 b7,I6 fr,Xh fu,Xh fd,I6 ff,I6 fx]/\zc W0 u) (fun w' hI' hF'=>?_) (fun v1 hv=>?_)
 ·refine zJ.storeAllT 62 (.tmp 7) (.tmp 22) rfl (b+3) rfl [U8 b0,U8 b1,U8 b2,U8 b3,U8 b4,U8 b5,U8 b6,U8 b7,I6 fr,Xh fu,Xh fd,I6 ff,I6 fx] rfl hF'.1 rfl Kr (by simp[Value.oneCell']) ?_
  intro W9 bx9 gr9 _;have g9:zc W0 W9:=zd hF'.2 gr9 (Hm HB3.out)
  exact⟨(HI _).2 g9,trivial,bx9,g9⟩
 clear hv;try simp only[Xs]
 refine qJ fun W1 hI8 hF8=>?_
 have F1:=dD hF8.1.box;have G1:=dD<|G0.trans hF8.2;have P1:=dD<|P0.grew hF8.2;have K1:=dD<|K0.grew hF8.2;have M1:=dD<|M0.grew hF8.2;clear hI8 hF8 hI0 hF0 hp0 hk0 hx0 hd0 hd1 hd2 hd3 hd4 hd5 hd6 hd7 hd8 hd9 hd10 hd11 hd12 hne gd;have hmf:∀(fn:Fn) (first cap:Array Xq) (w:Xn),(Instr.makeFunc fn first cap).run prog w= .ok (.func fn first cap) w:=fun _ _ _ _=>rfl
 have eg:=enters_of func152 Kr rfl
 have p0:=P1.c 0 rfl;have c10:=(HM.box.box.grew G1).c 10 rfl;rw[HN9.out,HSA.out]at c10;go_wp2;clear p0 c10;have HSEE:Xo (∀W,zc W1 W->∀(q n:Nat) s a,m.sp[q]? =Xa s->a∈s.ars->n<64->Xp prog 152 #[Xi #[I6 (q:Int),I6 (n:Int)],Xi #[I6 a.fr,I6 a.tz,Xh a.rd,Xh a.wr,Xh a.sh,I6 a.file,I6 a.base],Xj (Xa ⟨b+3,0,Xb⟩),Xj (Xa ⟨b+2,0,Xb⟩),Xj (Xa ⟨b,0,Xb⟩),Xj (Xa ⟨b+1,0,Xb⟩)] W fun e w'=>e= Xl (Xh (Jz k ⟨⟨b0,b1,b2,b3,b4,b5,b6,b7⟩,fr,fu,fd,ff,fx⟩ l q s a n))/\zc W w'):=dD<|fun W hW q n s a hs ha hn=>by
  obtain⟨a1,a2,a3,a4,a5,a6,a7,a8⟩:=(HOK q s hs).2 a ha;exact zk8 (HM.grew (G1.trans hW)) (b+3) (b+2) b (b+1) ⟨⟨b0,b1,b2,b3,b4,b5,b6,b7⟩,fr,fu,fd,ff,fx⟩ k (O ma mn mc) l (F1.grew hW) (M1.grew hW) (P1.grew hW) (K1.grew hW) (HV.grew (G1.trans hW)) q n s a hs hn HF0 (fun e=>⟨⟨a6,by have:a.file=ff:=e;have h0:0<=ff:=HF0.out;have:=a8 Wm;omega⟩,a1,Wm⟩)
 go_loopg [30] sn (fun gg s30 wr=>∃q:Nat,q<=sn/\sn - q<=gg/\s30=I6 q/\Xo (zc W1 wr)/\Xo (∀(q':Nat) (s:Sp) (i:Nat) (a:Ar) (n:Nat),q'<q->m.sp[q']? =Xa s->s.ars[i]? =Xa a->jX a n=Xc->n<64->Jz k ⟨⟨b0,b1,b2,b3,b4,b5,b6,b7⟩,fr,fu,fd,ff,fx⟩ l q' s a n=Xd))
 exact⟨0,nZ _,Wm,rfl,zc.refl _,fun q' s i a n hq=>absurd hq (nL _)⟩
 obtain⟨q,hq,hgq,rfl,GW,A⟩:=hrel
 by_cases hltq:q<sn
 ·have hltz:=kC hltq
  obtain⟨x,hx⟩:∃x,xs[q]? =Xa x:=⟨_,gE (by rw[HXL.out];exact hltq)⟩
  obtain⟨s,HS⟩:∃s,Xo (m.sp[q]? =Xa s):=⟨_,gE (by rw[HSN.out];exact hltq)⟩
  have HAT:=dD<|HSP.out q x s hx HS.out;obtain⟨ad,rfl,hl⟩:=HRW.out q x hx;obtain⟨d0,d1,d2,d3,d4,d5,d6,d7,d8,d9⟩:=hl wr (G1.trans GW);clear hl hx;go_upto_region 6 with fail;obtain⟨g5,HG5⟩:=kA wr.heap.size;obtain⟨W5,hW5⟩:=kB (wr.alloc (Xk #[Xh x.live,x.ar.x,x.t0.x,x.t1.x,x.t2.x,x.t3.x,x.t4.x,x.t5.x,x.t6.x,x.t7.x] 79));have G5:Xo (zc W1 W5):=show zc _ _ from GW.trans (by rw[<-hW5];exact za _ _)
  have S5:=xP hW5 HG5
  rw[hW5,HG5.out];clear hW5 d0 d1 d2 d3 d4 d5 d6 d7 d8 d9;have HAN:=dD HAT.ar.n;obtain⟨an,HAL⟩:=kA s.ars.length;have han:an<=16:=by rw[<-HAL.out];exact(HOK q s HS).1
  obtain⟨ara,arc,hae,harw⟩:=HAT.ar.ars;simp only[vJ]at hae;have HAR:=dD harw;have s1:=S5.c 1 rfl;(try simp only[Sli.x]at s1);rw[hae.1,HAN.out,HAL.out]at s1;clear hae harw;go_wp2;clear s1
  go_loopg [38] an (fun gg s38 wr=>∃j:Nat,j<=an/\an - j<=gg/\s38=I6 j/\Xo (zc W1 wr)/\Xo (∀(i:Nat) (a:Ar) (n:Nat),i<j->s.ars[i]? =Xa a->jX a n=Xc->n<64->Jz k ⟨⟨b0,b1,b2,b3,b4,b5,b6,b7⟩,fr,fu,fd,ff,fx⟩ l q s a n=Xd))
  exact⟨0,nZ _,Wm,rfl,G5,fun i a n hi=>absurd hi (nL _)⟩
  obtain⟨j,hj,hgj,rfl,GJ,AJ⟩:=hrel
  by_cases hltj:j<an
  ·have hljz:=kC hltj
   obtain⟨a,HA⟩:∃a,Xo (s.ars[j]? =Xa a):=⟨_,gE (by rw[HAL.out];exact hltj)⟩
   obtain⟨ad2,rfl,hl2⟩:=HAR.out j a HA.out;obtain⟨e0,e1,e2,e3,e4,e5,e6⟩:=hl2 wr (G1.trans GJ);have hok:=(HOK q s HS).2 a (mG HA);obtain⟨fa,hfa⟩:∃fa:Nat,a.fr=(fa:Int):=⟨a.fr.toNat,Hm hok.1⟩
   obtain⟨ta,hta⟩:∃ta:Nat,a.tz=(ta:Int):=⟨a.tz.toNat,by have:=hok.1;have:=hok.2.1;omega⟩
   have hft:fa<ta:=Hm hok.2.1
   have hta64:ta<=64:=Hm hok.2.2.1
   have HMEM:=dD<|mG HA.out;have HIN:Xo (∀n:Nat,jX a n=Xc↔fa<=n/\n<ta):=show∀n:Nat,_ from fun n=>by rw[z5,hfa,hta];omega
   obtain⟨af,at_,ard,awr,ash,afile,abase⟩:=a;simp only at hfa hta e0 e1 e2 e3 e4 e5 e6;subst hfa;subst hta;clear hl2 hok;go_upto_region 9 with fail;obtain⟨g8,HG8⟩:=kA wr.heap.size;obtain⟨W8,hW8⟩:=kB (wr.alloc (Xk #[I6 (fa:Int),I6 (ta:Int),Xh ard,Xh awr,Xh ash,I6 afile,I6 abase] 105));have G8:Xo (zc W1 W8):=dD<|GJ.trans (by rw[<-hW8];exact za _ _)
   have S8:=xP hW8 HG8
   rw[hW8,HG8.out];clear hW8 e0 e1 e2 e3 e4 e5 e6;have y0:=S8.c 0 rfl;go_wp2;clear y0
   go_loopg [13] (ta - fa) (fun gg s13 wr=>∃n:Nat,fa<=n/\n<=ta/\ta - n<=gg/\s13=I6 n/\Xo (zc W1 wr)/\Xo (Box wr g8 [I6 (fa:Int),I6 (ta:Int),Xh ard,Xh awr,Xh ash,I6 afile,I6 abase])/\Xo (∀n':Nat,fa<=n'->n'<n->Jz k ⟨⟨b0,b1,b2,b3,b4,b5,b6,b7⟩,fr,fu,fd,ff,fx⟩ l q s ⟨(fa:Int),(ta:Int),ard,awr,ash,afile,abase⟩ n'=Xd))
   exact⟨fa,nR _,Wm,Wm,rfl,G8,S8,fun n' h1 h2=>absurd h2 Wm⟩
   obtain⟨n,hn1,hn2,hgn,rfl,GN,SN,AN⟩:=hrel;obtain⟨y0,y1,y2,y3,y4,y5,y6⟩:=SN.c7
   by_cases hltn:n<ta
   ·have hlnz:=kC hltn
    have hc:=HSEE.out wr GN q n s _ HS HMEM Wm
    simp only at hc;obtain⟨SE,HSE⟩:=kA (Jz k ⟨⟨b0,b1,b2,b3,b4,b5,b6,b7⟩,fr,fu,fd,ff,fx⟩ l q s ⟨(fa:Int),(ta:Int),ard,awr,ash,afile,abase⟩ n);rw[HSE.out]at hc;go_wp2_with fail;refine hc.mono ?_;rintro e W9 ⟨rfl,g9⟩;have G9:=dD (GN.trans g9);have S9:=dD (SN.grew g9);clear g9 hc y0 y1 y2 y3 y4 y5 y6
    cases SE with
    | true=>
     have HR:Xo (SB=Xc):=HYES.out ⟨q,s,j,_,n,HS,HA,(HIN n).2 ⟨hn1,hltn⟩,Wm,HSE⟩
     go_wp2;go_ret;exact⟨Rr HR.out,G1.trans G9⟩
    | false=>
     have A9:Xo (∀n':Nat,fa<=n'->n'<n+1->Jz k ⟨⟨b0,b1,b2,b3,b4,b5,b6,b7⟩,fr,fu,fd,ff,fx⟩ l q s ⟨(fa:Int),(ta:Int),ard,awr,ash,afile,abase⟩ n'=Xd):=dD<|fun n' h1 h2=>by
      by_cases e:n'=n
      ·subst e;exact HSE.out
      exact AN n' h1 Wm
     go_wp2
     go_roundg (ta -(n+1));exact⟨n+1,Wm,Wm,Wm,Gn,G9,S9,A9⟩;omega
   have hlnz:=kD hltn
   have AJ2:Xo (∀(i:Nat) (a:Ar) (n:Nat),i<j+1->s.ars[i]? =Xa a->jX a n=Xc->n<64->Jz k ⟨⟨b0,b1,b2,b3,b4,b5,b6,b7⟩,fr,fu,fd,ff,fx⟩ l q s a n=Xd):=dD<|fun i a n' hi ha hin hn'=>by
    by_cases e:i=j
    ·subst e;rw[HA.out]at ha;cases ha;obtain⟨h1,h2⟩:=(HIN n').1 hin;exact AN n' h1 Wm
    exact AJ i a n' Wm ha hin hn'
   go_wp2
   go_roundg (an -(j+1));exact⟨j+1,Wm,Wm,Gn,GN,AJ2⟩;omega
  have hljz:=kD hltj
  have A2:Xo (∀(q':Nat) (s:Sp) (i:Nat) (a:Ar) (n:Nat),q'<q+1->m.sp[q']? =Xa s->s.ars[i]? =Xa a->jX a n=Xc->n<64->Jz k ⟨⟨b0,b1,b2,b3,b4,b5,b6,b7⟩,fr,fu,fd,ff,fx⟩ l q' s a n=Xd):=show∀(q':Nat) (s:Sp) (i:Nat) (a:Ar) (n:Nat),_ from fun q' s' i a n hq' hs' ha hin hn=>by
   by_cases e:q'=q
   ·subst e;rw[HS.out]at hs';cases hs';exact AJ i a n (by have:=(gS.1 ha).1;have:=HAL.out;omega) ha hin hn
   exact A q' s' i a n Wm hs' ha hin hn
  go_wp2
  go_roundg (sn -(q+1));exact⟨q+1,Wm,Wm,Gn,GJ,A2⟩;omega
 have hltz:=kD hltq
 have HR:Xo (SB=Xd):=HNO.out fun q' s i a n h1 h2 h3 h4=>A.out q' s i a n (by have:=(gS.1 h1).1;have:=HSN.out;omega) h1 h2 h3 h4
 go_wp2;go_ret;exact⟨Rr HR.out,G1.trans GW⟩
theorem zll (a0 a1 a2 a3 a4 a5 a6 a7 a b c d e f g h:Int) (x):(Op.equalIn 10000 60 (Xi #[U8 a0,U8 a1,U8 a2,U8 a3,U8 a4,U8 a5,U8 a6,U8 a7]) (Xi #[U8 a,U8 b,U8 c,U8 d,U8 e,U8 f,U8 g,U8 h])).run prog x= .ok (decide ([a0,a1,a2,a3,a4,a5,a6,a7]=[a,b,c,d,e,f,g,h])) x:=by
 have i:=ZI 9998 a0 a1 a2 a3 a4 a5 a6 a7 a b c d e f g h x;rw[show zb4 ⟨a0,a1,a2,a3,a4,a5,a6,a7⟩ ⟨a,b,c,d,e,f,g,h⟩=decide ([a0,a1,a2,a3,a4,a5,a6,a7]=[a,b,c,d,e,f,g,h])from by
  rw[Bool.eq_iff_iff,zaU,decide_eq_true_iff]
  simp]at i
 exact i
theorem zkm {w:Xn} {p:Nat} (h:ChW w0 p w V m) (aw:Rt m) (k:Nat) (f:Fr) (a7:m.fs[k]? =Xa f) (cf:f.f≠-1) (dd:f.r≠0) (bz) (l:List (Nat × Nat)) (A:zl zeO w bz l):
  Xp prog 93 #[Xj (Xa ⟨p,0,Xb⟩),I6 (k:Int),bz] w fun e w'=>e= Xl (Xh (zdO m k f l).1)/\Chg w0 p w V (zdO m k f l).2 w':=by
 obtain⟨f2,ez,X,B,al,bs,a⟩:=zfi aw a7 cf;have a8:=mG bs;have bw:Qb m f.f=al.size:=by unfold Qb;rw[a.ff,tN,gD,a.fl];rfl
 have hcut:zko m f=jV (pgL f.p) (B:Int) al.size:=by unfold zko;rw[bw,a.fx]
 have e0:0<=f.f:=by rw[a.ff];omega
 obtain⟨co,br⟩:∃co,al.bl[B]? =Xa co:=⟨_,gE a.bl⟩;have s:=dD h;obtain⟨q,Z⟩:=kA (zko m f);have a5:q.length=8:=by rw[<-Z.out,hcut];unfold jV;simp[pgL]
 have C:Xo (∀W,zc w W->Xp prog 97 #[Xj (Xa ⟨p,0,Xb⟩),Xi (frv f).toArray] W fun e w'=>e= Xl (Xi (pgc q).toArray)/\zc W w'):=dD<|fun W z=>by
  rw[<-Z.out,hcut];exact(zbX (h.grew z) f X B al a.ff a.fx a.fl a.sz a.lo).mono fun e w' S=>⟨S.1,S.2.2⟩
 obtain⟨aj,b9⟩:=kA (zfW m k f l);have ck:Xo (∀W,zc w W->Xp prog 130 #[Xj (Xa ⟨p,0,Xb⟩),I6 (k:Int),bz] W fun e w'=>e= Xl (Xh aj)/\zc W w'):=dD<|fun W z=>by
  rw[<-b9.out];exact zkk (h.grew z) aw k f a7 e0 bz l (A.grew z)
 obtain⟨ca,ab⟩:=kA (Qh m f.f f.x);have a6:ca.length=8:=by
  rw[<-ab.out];have ei:=h.at;exact zgJ ei.db.2.1 ei.dq.2.1 _ _
 have ae:Xo (∀W,zc w W->Xp prog 131 #[Xi (mL V m).toArray,I6 (X:Int),I6 (B:Int)] W fun e w'=>e= Xl (Xi (pgc ca).toArray)/\zc W w'):=dD<|fun W z=>by
  rw[<-ab.out,a.ff,a.fx];have f3:=a.sz;have f4:=a.lo;exact(zho V m X B al co W (h.at.grew z) a.fl br Wm Wm).mono fun e w' S=>⟨S.1,S.2.2⟩
 obtain⟨T,aa⟩:=kA (decide (j9 m.fl m.cnt f.f f.x=0));have bc:Xo (∀W,zc w W->Xp prog 56 #[Xj (Xa ⟨p,0,Xb⟩),I6 (k:Int)] W fun e w'=>e= Xl (Xh T)/\Chg w0 p w V (wrM m q f.f f.x) w'):=dD<|fun W z=>by
  have eg:=zi2 (h.grew z) k f a7 X B al a.ff a.fx a.fl a.sz a.lo;rw[<-hcut,Z.out,<-a.ff,<-a.fx,aa.out]at eg;exact eg.mono fun e w' S=>⟨S.1,Chg.of_grew z S.2.chg⟩
 have ba:Xo (∀W cn,ChW w0 p W cn (wrM m q f.f f.x)->Xp prog 132 #[Xj (Xa ⟨p,0,Xb⟩),I6 (k:Int)] W fun e w'=>(∃v,e= Xl v)/\Chg w0 p W cn (qm (wrM m q f.f f.x) k) w'):=dD<|fun W cn cq=>by
  have de:Rt (wrM m q f.f f.x):=by
   by_cases e:j9 m.fl m.cnt f.f f.x=0
   ·obtain⟨dq,et,eu,_⟩:=zhg (fun _ _=>False) aw a8 a e q
    rw[et];exact eu.rt
   have:wrM m q f.f f.x=m:=by unfold wrM;rw[kF e]
   rw[this];exact aw
  exact zgM cq de k f (Rx zkS a7) cf dd
 have bb:Xo (∀W,zc w W->Xp prog 132 #[Xj (Xa ⟨p,0,Xb⟩),I6 (k:Int)] W fun e w'=>(∃v,e= Xl v)/\Chg w0 p w V (qm m k) w'):=dD<|fun W z=>(zgM (h.grew z) aw k f a7 cf dd).mono fun e w' S=>⟨S.1,Chg.of_grew z S.2⟩
 obtain⟨ai,ac⟩:=kA (decide (q=pgL f.p));obtain⟨j,a4⟩:=kA (decide (ca=q));obtain⟨U,b8⟩:=kA (zdO m k f l);have cb:Xo (U=if ai=Xd/\aj=Xc then(Xd,m)else if f.d=Xc\/j=Xd then(if T=Xc then(Xc,qm (wrM m q f.f f.x) k)else if j=Xc then(Xc,qm m k)else(Xd,m))else(Xc,qm m k)):=dD<|by
  rw[<-b8.out];unfold zdO;rw[Z.out,b9.out,ab.out,<-ac.out,<-a4.out,<-aa.out];simp only[decide_eq_false_iff_not,decide_eq_true_eq]
 have ah:Xo (T=Xd->wrM m q f.f f.x=m):=dD<|fun e=>by
  unfold wrM;rw[kF (of_decide_eq_false (aa.trans e))]
 rw[b8.out];obtain⟨cc,cj⟩:=kA (wrM m q f.f f.x);rw[cj.out]at bc ba cb ah;obtain⟨ex,-⟩:=h.at.ns;obtain⟨ey,e5,e6⟩:=h.at.frs k f a7;have ch:=dD e5;have ci:=dD e6
 have ew:(k:Int)< (V.f.n:Int):=by
  have:=(gS.1 a7).1;omega
 have bt:=a.ff;have bu:=a.fx;obtain⟨bd,be,bf,bg,bh,bi,I,bj,a1⟩:=zdB q a5;obtain⟨e8,e9,ea,eb,ec,ed,ee,ef,ak⟩:=zdB ca a6;obtain⟨⟨am,an,ao,ap,aq,ar,au,av⟩,bp,bq,D,f0,f1⟩:=f;dsimp only at bt bu ac cb;have db:∀W,(Op.equalIn 10000 60 (Xi #[U8 bd,U8 be,U8 bf,U8 bg,U8 bh,U8 bi,U8 I,U8 bj]) (Xi #[U8 am,U8 an,U8 ao,U8 ap,U8 aq,U8 ar,U8 au,U8 av])).run prog W= .ok ai W:=fun W=>by
  rw[zll];have:=ac.out;rw[a1]at this;rw[<-this];rfl
 have dc:∀W,(Op.equalIn 10000 60 (Xi #[U8 e8,U8 e9,U8 ea,U8 eb,U8 ec,U8 ed,U8 ee,U8 ef]) (Xi #[U8 bd,U8 be,U8 bf,U8 bg,U8 bh,U8 bi,U8 I,U8 bj])).run prog W= .ok j W:=fun W=>by
  rw[zll,<-a1,<-ak,a4.out]
 rw[a1]at C;rw[ak]at ae;subst bt;subst bu;simp only[pgc,frv,mP,Ym]at C ae;clear h aw a7 cf dd A bs a a8 bw hcut e0 br a5 a6 e5 e6 ex a1 ak;have ej:=s.box.box.c 0 rfl;rw[ch.out]at ej;obtain⟨dr,ds,dt,du,dv,dw,bo,dx,dy,dz,bl,bm,bn⟩:=ci.out w (zc.refl _);dsimp only at dr ds dt du dv dw bo dx dy dz bl bm bn
 go_enter func93,ntmps93
 go_upto_region 2 with fail;clear dr ds dt du dv dw bo dx dy dz bl bm bn ej;obtain⟨dq,dl⟩:=kA w.heap.size;obtain⟨cd,a0⟩:=kB (w.alloc (Xk #[U8 am,U8 an,U8 ao,U8 ap,U8 aq,U8 ar,U8 au,U8 av,I6 bp,Xh bq,Xh D,I6 (X:Int),I6 (B:Int)] 62));have ax:=gA a0
 have dp:=xP a0 dl
 rw[a0,dl.out];clear a0;have e7:∀y:ze cd,Box y.world dq [U8 am,U8 an,U8 ao,U8 ap,U8 aq,U8 ar,U8 au,U8 av,I6 bp,Xh bq,Xh D,I6 (X:Int),I6 (B:Int)]:=fun y=>dp.grew y.grew
 have t:Xo (∀y:ze cd,_):=e7;clear e7;have F:=fun y=>(t y).c 0 rfl
 have G:=fun y=>(t y).c 1 rfl
 have H:=fun y=>(t y).c 2 rfl
 have K:=fun y=>(t y).c 3 rfl
 have L:=fun y=>(t y).c 4 rfl
 have M:=fun y=>(t y).c 5 rfl
 have N:=fun y=>(t y).c 6 rfl
 have P:=fun y=>(t y).c 7 rfl
 have Q:=fun y=>(t y).c 8 rfl
 have R:=fun y=>(t y).c 9 rfl
 have d:=fun y=>(t y).c 10 rfl
 have g:=fun y=>(t y).c 11 rfl
 have i:=fun y=>(t y).c 12 rfl
 have E:Nonempty (ze cd):=⟨⟨_,zc.refl _⟩⟩
 go_cut [30] (fun df c8=>df= Xh (!ai && aj)/\Xo (zc cd c8))
 case first=>
  cases ai with
  | true=>
   refine ju [(2,⟨fun v=>v= Xi #[U8 bd,U8 be,U8 bf,U8 bg,U8 bh,U8 bi,U8 I,U8 bj],fun v w'=>True⟩)] z6 Kr (Sa ⟨_,rfl⟩) ?hp ?_
   case hp=>
    intro c9 c;simp only[mC,nM,or_false]at c;subst c;exact fun _ _ _ _ h=>h
   iterate 2 refine zg ?_
   refine zx rfl rfl (fun w' a2 Y=>?_) (fun cg A=>?_)
   ·refine zJ.call [Xj (Xa ⟨p,0,Xb⟩),Xi #[U8 am,U8 an,U8 ao,U8 ap,U8 aq,U8 ar,U8 au,U8 av,I6 bp,Xh bq,Xh D,I6 (X:Int),I6 (B:Int)]] rfl func97 rfl rfl rfl ?_;refine(C w' (ax.trans a2)).mono ?_;rintro e a3 ⟨rfl,n⟩;exact⟨_,rfl,n,rfl,trivial⟩
   subst A;refine Uq ?_;iterate 4 refine zg ?_
   iterate 4 (refine j1 Kr ?_;simp only[Xs,sB,sS,sZ])
   refine zg ?_
   refine qd fun ep n Y=>?_
   have a9:=dD n;clear n Y E F G H K L M N P Q R d g i;go_wp2
   go_meet
   exact⟨rfl,a9⟩
  | false=>
   refine ju [(2,⟨fun v=>v= Xi #[U8 bd,U8 be,U8 bf,U8 bg,U8 bh,U8 bi,U8 I,U8 bj],fun v w'=>True⟩),(10,⟨fun v=>v= Xh aj,fun v w'=>True⟩)] z6 Kr (Sb ⟨_,rfl⟩ ⟨_,rfl⟩) ?hp ?_
   case hp=>
    intro c9 c;simp only[mC,nM,or_false]at c
    rcases c with rfl|rfl
    ·exact fun _ _ _ _ h=>h
    exact fun _ _ _ _ h=>h
   iterate 2 refine zg ?_
   refine zx rfl rfl (fun w' a2 Y=>?_) (fun cg A=>?_)
   ·refine zJ.call [Xj (Xa ⟨p,0,Xb⟩),Xi #[U8 am,U8 an,U8 ao,U8 ap,U8 aq,U8 ar,U8 au,U8 av,I6 bp,Xh bq,Xh D,I6 (X:Int),I6 (B:Int)]] rfl func97 rfl rfl rfl ?_;refine(C w' (ax.trans a2)).mono ?_;rintro e a3 ⟨rfl,n⟩;exact⟨_,rfl,n,rfl,trivial⟩
   subst A;refine Uq ?_;iterate 7 refine zg ?_
   refine zx rfl rfl (fun w' a2 Y=>?_) (fun cg A=>?_)
   ·refine zJ.call [Xj (Xa ⟨p,0,Xb⟩),I6 (k:Int),bz] rfl func130 rfl rfl rfl ?_;refine(ck w' (ax.trans a2)).mono ?_;rintro e a3 ⟨rfl,n⟩;exact⟨_,rfl,n,rfl,trivial⟩
   subst A;refine Uq ?_;refine zg ?_
   refine qd fun ep n Y=>?_
   have a9:=dD n;clear n Y E F G H K L M N P Q R d g i;go_wp2
   go_meet
   exact⟨rfl,a9⟩
 obtain⟨rfl,a9⟩:=hcut;clear E F G H K L M N P Q R d g i;obtain⟨em,cl⟩:=kA (!ai && aj);rw[cl.out]
 cases em with
 | true=>
  have x:Xo (U=(Xd,m)):=dD<|by
   rw[cb.out,kE];have:=cl.out
   cases ai <;> cases aj <;> simp_all
  go_wp2;go_ret;exact⟨Rr x.out,by rw[x.out];exact Chg.refl s (ax.trans a9)⟩
 | false=>
  have ay:Xo (U=if D=Xc\/j=Xd then(if T=Xc then(Xc,qm cc k)else if j=Xc then(Xc,qm m k)else(Xd,m))else(Xc,qm m k)):=dD<|by
   rw[cb.out,kF];have:=cl.out
   cases ai <;> cases aj <;> simp_all
  go_upto_region 4 with fail;have b:=dD (ax.trans a9);have r:=dD (dp.grew a9);have F:=fun y:ze wc=>(r.grew y.grew).c 0 rfl
  have G:=fun y:ze wc=>(r.grew y.grew).c 1 rfl
  have H:=fun y:ze wc=>(r.grew y.grew).c 2 rfl
  have K:=fun y:ze wc=>(r.grew y.grew).c 3 rfl
  have L:=fun y:ze wc=>(r.grew y.grew).c 4 rfl
  have M:=fun y:ze wc=>(r.grew y.grew).c 5 rfl
  have N:=fun y:ze wc=>(r.grew y.grew).c 6 rfl
  have P:=fun y:ze wc=>(r.grew y.grew).c 7 rfl
  have Q:=fun y:ze wc=>(r.grew y.grew).c 8 rfl
  have R:=fun y:ze wc=>(r.grew y.grew).c 9 rfl
  have d:=fun y:ze wc=>(r.grew y.grew).c 10 rfl
  have g:=fun y:ze wc=>(r.grew y.grew).c 11 rfl
  have i:=fun y:ze wc=>(r.grew y.grew).c 12 rfl
  have cr:=fun y:ze wc=>(s.box.box.grew (b.trans y.grew)).c 0 rfl
  have cs:=fun y:ze wc=>(s.box.box.grew (b.trans y.grew)).c 1 rfl
  have ct:=fun y:ze wc=>(s.box.box.grew (b.trans y.grew)).c 2 rfl
  have cu:=fun y:ze wc=>(s.box.box.grew (b.trans y.grew)).c 3 rfl
  have cv:=fun y:ze wc=>(s.box.box.grew (b.trans y.grew)).c 4 rfl
  have cw:=fun y:ze wc=>(s.box.box.grew (b.trans y.grew)).c 5 rfl
  have cx:=fun y:ze wc=>(s.box.box.grew (b.trans y.grew)).c 6 rfl
  have cy:=fun y:ze wc=>(s.box.box.grew (b.trans y.grew)).c 7 rfl
  have cz:=fun y:ze wc=>(s.box.box.grew (b.trans y.grew)).c 8 rfl
  have da:=fun y:ze wc=>(s.box.box.grew (b.trans y.grew)).c 9 rfl
  have bv:=fun y:ze wc=>(s.box.box.grew (b.trans y.grew)).c 10 rfl
  have E:Nonempty (ze wc):=⟨⟨_,zc.refl _⟩⟩;refine ju [(8,⟨fun v=>v= Xi #[U8 e8,U8 e9,U8 ea,U8 eb,U8 ec,U8 ed,U8 ee,U8 ef],fun v w'=>True⟩),(11,⟨fun v=>v= Xi #[U8 bd,U8 be,U8 bf,U8 bg,U8 bh,U8 bi,U8 I,U8 bj],fun v w'=>True⟩)] z6 Kr (Sb ⟨_,rfl⟩ ⟨_,rfl⟩) ?hp ?_
  case hp=>
   intro c9 c;simp only[mC,nM,or_false]at c
   rcases c with rfl|rfl
   ·exact fun _ _ _ _ h=>h
   exact fun _ _ _ _ h=>h
  refine zg ?_
  refine znC (.tmp 31) ⟨p,0,Xb⟩ rfl rfl rfl rfl ?_;refine Uq ?_;iterate 6 refine zg ?_
  refine zx rfl rfl (fun w' a2 Y=>?_) (fun cg A=>?_)
  ·refine zJ.call [Xi (mL V m).toArray,I6 (X:Int),I6 (B:Int)] rfl func131 rfl rfl rfl ?_;refine(ae w' (b.trans a2)).mono ?_;rintro e a3 ⟨rfl,n⟩;exact⟨_,rfl,n,rfl,trivial⟩
  subst A;refine Uq ?_;iterate 2 refine zg ?_
  refine zx rfl rfl (fun w' a2 Y=>?_) (fun cg A=>?_)
  ·refine zJ.call [Xj (Xa ⟨p,0,Xb⟩),Xi #[U8 am,U8 an,U8 ao,U8 ap,U8 aq,U8 ar,U8 au,U8 av,I6 bp,Xh bq,Xh D,I6 (X:Int),I6 (B:Int)]] rfl func97 rfl rfl rfl ?_;refine(C w' (b.trans a2)).mono ?_;rintro e a3 ⟨rfl,n⟩;exact⟨_,rfl,n,rfl,trivial⟩
  subst A;refine Uq ?_;iterate 2 refine zg ?_
  refine qd fun eq cp Y=>?_
  have dk:=dD (b.trans cp);have es:=dD (r.grew cp);clear cp Y E F G H K L M N P Q R d g i cr cs ct cu cv cw cx cy cz da bv db dc;have di:=es.c 10 rfl;go_upto_region 5 with fail
  go_cut [49] (fun dg c8=>dg= Xh (D || !j)/\c8=eq)
  case first=>
   cases D <;> cases j
   all_goals (go_wp2;go_meet;exact⟨rfl,rfl⟩)
  obtain⟨rfl,rfl⟩:=hcut;clear di;obtain⟨en,af⟩:=kA (D || !j);rw[af.out]
  cases en with
  | false=>
   have x:Xo (U=(Xc,qm m k)):=dD<|by
    rw[ay.out,kF];have:=af.out
    cases D <;> cases j <;> simp_all
   have u:=bb.out wc dk.out;go_wp2_with fail;refine u.mono ?_;clear u;rintro e ce ⟨⟨f5,rfl⟩,e3⟩;have cm:Xo (Chg w0 p w V U.2 ce):=dD<|Rx x.out e3
   clear e3;go_wp2;go_ret;exact⟨Rr x.out,cm⟩
  | true=>
   have az:Xo (U=if T=Xc then(Xc,qm cc k)else if j=Xc then(Xc,qm m k)else(Xd,m)):=dD<|by
    rw[ay.out,kE];have:=af.out
    cases D <;> cases j <;> simp_all
   have bx:=bc.out wc dk.out;go_wp2_with fail;refine bx.mono ?_;clear bx;rintro e ce ⟨rfl,dn,I,eh,bo⟩;have cm:=dD I;have dm:=dD eh;have dj:=dD bo;have u:=ba.out ce dn I;clear I eh bo;go_upto_region 7 with fail
   go_cut [58] (fun dh c8=>dh= Xh (!T && !j)/\c8=ce)
   case first=>
    cases T <;> cases j
    all_goals (go_wp2;go_meet;exact⟨rfl,rfl⟩)
   obtain⟨rfl,rfl⟩:=hcut;obtain⟨eo,ag⟩:=kA (!T && !j);rw[ag.out]
   cases eo with
   | true=>
    have x:Xo (U=(Xd,m)/\cc=m):=dD<|by
     have cq:=ag.out;have ev:=ah.out;rw[az.out]
     cases T <;> cases j <;> simp_all
    have ek:Xo (Chg w0 p w V U.2 wc):=dD<|by
     rw[x.1,<-x.2];exact⟨dn,cm,dm,dj⟩
    clear u;go_wp2;go_ret;exact⟨Rr x.1,ek⟩
   | false=>
    have x:Xo (U=(Xc,qm cc k)):=dD<|by
     have cq:=ag.out;have ev:=ah.out;rw[az.out]
     cases T <;> cases j <;> simp_all
    go_wp2_with fail;refine u.mono ?_;clear u;rintro e er ⟨⟨f6,rfl⟩,e4⟩;have el:Xo (Chg w0 p w V U.2 er):=dD<|Rx x.out (Chg.step dm dj e4)
    clear e4;go_wp2;go_ret;exact⟨Rr x.out,el⟩
theorem zh4 {w:Xn} {p:Nat} (h:ChW w0 p w V m) (s:Rt m) (k:Nat) (f:Fr) (g:m.fs[k]? =Xa f) (t:f.r≠0) (q) (l:List (Nat × Nat)) (v:zl zeO w q l):
  Xp prog 48 #[Xj (Xa ⟨p,0,Xb⟩),I6 (k:Int),q] w fun e w'=>e= Xl (Xh (jN m k f l).1)/\Chg w0 p w V (jN m k f l).2 w':=by
 obtain⟨a,-⟩:=h.at.ns;obtain⟨a,a,c⟩:=h.at.frs k f g;have b:(k:Int)< (V.f.n:Int):=by
  have:=(gS.1 g).1;omega
 have b:=h.box.box.c 0 rfl;rw[a]at b;obtain⟨a,a,a,a,a,a,a,a,a,a,a,a,b⟩:=c w (zc.refl _);obtain⟨r,b⟩:=kA f.f;rw[b.out]at a
 by_cases d:f.f=-1
 ·have c:=zkj h s k f g t;have j:Xo (jN m k f l=zaO m k f):=dD<|by unfold jN;rw[kE d]
  have x:(r == -1)=Xc:=by rw[<-b.out,d];rfl
  rw[j.out];obtain⟨E,a⟩:=kA (zaO m k f);rw[a.out]at c⊢
  go_enter func48,ntmps48
  go_wp2_with fail;refine c.mono ?_;rintro e u ⟨rfl,n⟩;have i:=dD n;go_wp2;go_ret;exact⟨rfl,i⟩
 have c:=zkm h s k f g d t q l v;have j:Xo (jN m k f l=zdO m k f l):=dD<|by unfold jN;rw[kF d]
 have x:(r == -1)=Xd:=by rw[<-b.out];simpa using d
 rw[j.out];obtain⟨E,a⟩:=kA (zdO m k f l);rw[a.out]at c⊢
 go_enter func48,ntmps48
 go_wp2_with fail;refine c.mono ?_;rintro e u ⟨rfl,n⟩;have i:=dD n;go_wp2;go_ret;exact⟨rfl,i⟩
theorem zhS (n:Nat) (m:Ma) (l:List (Nat × Nat)) {k:Nat} {f:Fr} (hi:Js m.fs m.hand=(k:Int)) (a:(jZ m).fs[k]? =Xa f):ZY (n+1) m l=if(jN (jZ m) k f l).1=Xc then jN (jZ m) k f l else ZY n (jZ m) l:=by
 conv=>lhs;unfold ZY
 rw[kF Wm,hi,tN,qp a]
theorem zhR (n:Nat) (m:Ma) (l:List (Nat × Nat)) (hi:Js m.fs m.hand=-1):ZY (n+1) m l=(Xd,jZ m):=by
 conv=>lhs;unfold ZY
 rw[kE Wm]
theorem zkl {w:Xn} {p:Nat} (v:ChW w0 p w V m) (X:Rt m) (Z) (l:List (Nat × Nat)) (ai:zqf zeO (Dw p V) w Z l):
  Xp prog 26 #[Xj (Xa ⟨p,0,Xb⟩),Z] w fun e w'=>e= Xl (Xh (za8 m l).1)/\Chg w0 p w V (za8 m l).2 w':=by
 have aw:=dD ai;have au:=dD v;have av:=dD X;obtain⟨aj,-⟩:=v.at.ns;have Y:V.f.n<=40:=Hm X.inv.fs40
 obtain⟨f,z⟩:=kA (za8 m l);have A:Xo (ZY (2*V.f.n) m l=f):=dD<|by rw[<-z.out,aj];rfl
 rw[z.out];have L:=v.box.box.c 0 rfl;clear v ai X aj;obtain⟨c,M⟩:=kA V.f.n;rw[M.out]at L Y A
 go_enter func26,ntmps26
 go_wp2;clear L
 go_loopg [14] (2*c) (fun b1 I wr=>∃(t:Nat) (a:Ma) (K:MaV),t<=2*c/\2*c - t<=b1/\I=I6 t/\Xo (ChW w0 p wr K a)/\Xo (Rt a)/\Xo (qD (Dw p V) w wr)/\Xo (∀k,Dw p K k->Dw p V k\/w.heap.size<=k)/\Xo (ZY (2*c - t) a l=f))
 exact⟨0,m,V,nZ _,Wm,rfl,au,av,qD.refl _ _,(fun _ v=> .inl v:∀k,Dw p V k->Dw p V k\/w.heap.size<=k),A⟩
 obtain⟨t,a,K,b8,b2,rfl,s,a7,a6,a2,H⟩:=hrel
 by_cases b3:t<2*c
 ·have F:(t:Int)<2*(c:Int):=Wm
  obtain⟨r,B⟩:∃r,Xo (2*c - t=r+1):=⟨2*c - t - 1,show _=_ by omega⟩
  have P:Xo (2*c -(t+1)=r):=dD<|Hm B.out
  rw[B.out]at H;obtain⟨u,_,d⟩:=zge (fun _ _=>False) a7.out
  have C:=dD u.rt;have x:=dD d;have L:=s.box.box.c 0 rfl;have b6:=s.box.box.c 1 rfl;have q:=zoo s a7.parts.1;obtain⟨b7,i⟩:=kA (Js a.fs a.hand);rw[i.out]at q x;clear u d;go_wp2_with fail;refine q.mono ?_;clear q L b6;rintro e az ⟨U,rfl,ak,u⟩;have an:=dD (s.box.grew u);have N:Xo (zb qA wr.heap.size az (U.x) (zby a.fs a.hand)):=ak;have aq:=dD u;clear ak u
  go_upto_region 5 with(refine Zf rfl 28 (.tmp 29) (.tmp 24) rfl p 0 rfl (Xi #[U.x,I6 (zbx a.fs a.hand)]) rfl [U.x,I6 (zbx a.fs a.hand)] rfl an (by simp[chL]) Kr (by simp[Value.oneCell']) ?_)
  intro T aa E _;obtain⟨a8,ab,al,ad⟩:=Chg.step a6 a2 (s.setF aq N E aa);have a4:Xo (ChW w0 p T a8 (jZ a)):=ab;have S:=dD al;have a0:=dD ad;clear aa E ab al ad;try simp only[Xs]
  rcases x with⟨D,_⟩|⟨k,j,D,W,af⟩
  ·have b:Xo (f=(Xd,jZ a)):=dD<|by rw[<-H.out,zhR r a l (Rx i.out D)]
   subst D;have ax:Xo (Chg w0 p w V f.2 T):=dD<|by rw[b.out];exact⟨a8,a4,S,a0⟩
   go_wp2;go_ret;exact⟨Rr b.out,ax⟩
  have b:Xo (f=if(jN (jZ a) k j l).1=Xc then jN (jZ a) k j l else ZY r (jZ a) l):=dD<|by rw[<-H.out,zhS r a l (Rx i.out D) W]
  have n:=zh4 a4 C k j W af Z l (aw T S);have h:Xo ((jN (jZ a) k j l).1=Xd->(jN (jZ a) k j l).2=jZ a):=dD<|fun e=>by
   rcases zi0 (jZ a) k j l with⟨b4,_⟩|⟨_,b5⟩
   ·rw[b4]at e;cases e
   exact b5
  obtain⟨ao,ar⟩:=kA (jN (jZ a) k j l);rw[ar.out]at n b h;subst D;have ah:(0:Int)<=(k:Int):=Wm
  clear W af;go_wp2_with fail;refine n.mono ?_;clear n;rintro e b0 ⟨rfl,ag⟩;obtain⟨a9,ac,am,ae⟩:=Chg.step S a0 ag;have Q:=dD ac;have a5:=dD am;have a1:=dD ae;clear ag ac am ae;obtain⟨ap,G⟩:=ao;simp only at Q b h
  cases ap with
  | true=>
   have g:Xo (f=(Xc,G)):=dD<|Rr b.out
   have R:Xo (Chg w0 p w V f.2 b0):=dD<|by rw[g.out];exact⟨a9,Q,a5,a1⟩
   go_wp2;go_ret;exact⟨Rr g.out,R⟩
  | false=>
   have y:=dD<|h.out rfl;have g:Xo (ZY r G l=f):=show _=_ by rw[b.out,y.out];rfl
   have ay:Xo (Rt G):=dD<|Rx y.out C.out
   go_wp2
   go_roundg (2*c -(t+1));exact⟨t+1,G,a9,Wm,Wm,Gn,Q,ay,a5,a1,Rx P.out g⟩;omega
 have F:¬(t:Int)<2*(c:Int):=Wm
 have a3:Xo (f=(Xd,a)):=dD<|by
  rw[<-H.out,show 2*c - t=0 by omega]
  rfl
 have R:Xo (Chg w0 p w V f.2 wr):=dD<|by rw[a3.out];exact⟨K,s,a6,a2⟩
 go_wp2;go_ret;exact⟨Rr a3.out,R⟩
theorem zf0 (V m) (file:Int) (w) (ab:zy w V m) (T:maW m=0):
  Xp prog 13 #[Xi (mL V m).toArray,I6 file] w fun e w'=>Byt m file w e w'/\zc w w':=by
 have bs:=dD ab;have r:Xo (∀W,zc w W->Xp prog 9 #[Xi (mL V m).toArray] W fun e w'=>e= Xl (I6 (maW m))/\zc W w'):=show∀W,_ from fun W b0=>by rw[T];exact Qn V m W (bs.grew b0) T
 have n:Xo (maW m=0->∀W (a y:Nat) f s,zc w W->m.fl[a]? =Xa f->f.bl[y]? =Xa s->y<=1000->Xp prog 33 #[Xi (mL V m).toArray,I6 (a:Int),I6 (y:Int)] W fun e w'=>e= Xl (Xi (pgc (qn m a y)).toArray)/\(qn m a y).length=8/\zc W w'):=dD<|fun T W a y f s b0 cb aa cf=>zaF V m a y f s W (bs.grew b0) (fun c4 t _=>zoq T c4 t) cb aa cf
 obtain⟨-,-,-,-,-,-,b3,-,-⟩:=ab.ns;obtain⟨_,_,u,_,U⟩:=qg.rows ab.fl;have H:Xo (J1 w V.fl.a m.fl):=dD<|by
  simp only[vJ]at u;rw[u.1];exact U
 obtain⟨⟨c6,c8,c7⟩,⟨cq,cs,cr⟩,⟨b4,b6,b5⟩,⟨bb,be,bd⟩,bf,bg,⟨aw,d,ax⟩,⟨ar,av,au⟩,⟨b7,b9,b8⟩⟩:=V;dsimp only[mL]at r n H b3⊢;have q:=dD b3.symm;obtain⟨E,ak⟩:=kA (maW m);rw[ak.out]at r n;clear ab b3 u U;obtain⟨ap,h⟩:=kB (w.alloc (Xk #[O c6 c8 c7,I6 m.hand,O cq cs cr,O b4 b6 b5,O bb be bd,bf.x,bg.x,O aw d ax,I6 m.cnt,O ar av au,O b7 b9 b8] 41));have B:=gA h
 have c:=xA h
 have L:=sA h
 have an:=dD h;clear h
 go_enter func13,ntmps13
 go_upto_region 1 with fail;rw[an.out];obtain⟨bh,bi,bj,bl,bm,bn,bo,a3,bp,bq,A⟩:=c.c11;have t:=r.out ap B.out;go_wp2_with fail;refine t.mono ?_;clear t bh bi bj bl bm bn bo a3 bp bq A;rintro cl a9 ⟨rfl,bx⟩;have a8:=dD bx;clear bx;have ac:=ak.out ▸ T;have b2:(E != 0)=Xd:=by simp[ac]
 have p:Xo (maW m=0):=dD<|Rx ak.out ac
 have F:Xo (file<0\/(d:Int)<=file->∀W,Byt m file w (Xl (Xm #[eS,I6 5])) W):=dD<|fun S W=>by
  have aa:zbh m file=5:=by unfold zbh;rw[kF (fun S=>S p),kE (Rx q.out S)]
  refine⟨_,by rw[aa],?_⟩
  unfold Zz;rw[kF (by rw[aa];decide)]
  exact zb.nil _ _ _
 have aj:=show Xo _ from n.out ac
 clear ac;have a3:=(c.grew a8).c 7 rfl
 by_cases C:file<0
 ·have M:decide (file<0)=Xc:=decide_eq_true C;have K:Xo (Byt m file w (Xl (Xm #[eS,I6 5])) a9):=F.out (.inl C) a9;clear C;go_wp2
  go_ret2
  exact⟨K,B.trans a8⟩
 have M:decide (file<0)=Xd:=decide_eq_false C
 by_cases N:(d:Int)<=file
 ·have P:decide ((d:Int)<=file)=Xc:=decide_eq_true N;have K:Xo (Byt m file w (Xl (Xm #[eS,I6 5])) a9):=F.out (.inr N) a9;clear C N;go_wp2
  go_ret2
  exact⟨K,B.trans a8⟩
 have P:decide ((d:Int)<=file)=Xd:=decide_eq_false N;go_upto_region 6 with fail;clear M P a3 b2;obtain⟨a,rfl⟩:∃a:Nat,file=(a:Int):=⟨file.toNat,Wm⟩
 obtain⟨f,a6⟩:∃f,Xo (m.fl[a]? =Xa f):=⟨_,gE (by rw[q.out];omega)⟩
 obtain⟨⟨cm,cn⟩,ad⟩:=zpb p a6.out;obtain⟨z,a7⟩:∃z:Nat,Xo (f.size=(z:Int)):=⟨f.size.toNat,show _=_ by omega⟩
 have bz:z<=96:=Hm a7.out
 have ah:Xo (∀k,k<z->k / 8<f.bl.length):=dD<|fun k cg=>by
  have az:=a7.out;rw[az]at ad;unfold Jn at ad
  split at ad <;> omega
 have G:Xo (zbh m (a:Int)=0):=dD<|by unfold zbh;rw[kF (fun S=>S p),kF (by rw[q.out];omega)]
 have ai:Xo (Zz m (a:Int)=(Yb z).map (byD m a)):=dD<|by
  unfold Zz;rw[kE G.out];unfold zev;rw[show(Qb m (a:Int)).toNat=z from by unfold Qb;rw[tN,gD,a6.out];show f.size.toNat=z;rw[a7.out];rfl]
  rfl
 obtain⟨aq,rfl,c2,c3,_,Y⟩:=H.out a f a6.out;have al:Xo (∀W,zc w W->zmM W (aq.add (a*2)) (z:Int) (O c2 f.bl.length c3)):=dD<|Ry a7.out Y
 have cc:(a:Int)< (d:Int):=Wm
 clear C N cm cn ad Y;go_wp2
 go_loopg [7,8] 96 (fun ca co cp wr=>∃(k:Nat) (ae:Option Addr) (af:Nat),k<=z/\z - k<=ca/\cp=I6 k/\co= O ae k af/\Xo (zc ap wr)/\Xo (zb byE (w.heap.size+1) wr (O ae k af) ((Yb k).map (byD m a))))
 exact⟨0,Xb,0,nZ _,Wm,rfl,rfl,a8,zb.nil _ _ _⟩
 obtain⟨k,ae,af,cg,ce,rfl,rfl,b,bu⟩:=hrel;have a3:=(c.grew b).c 7 rfl;obtain⟨c5,-⟩:=al.out wr (B.trans b)
 by_cases x:k<z
 ·have Z:=kC x
  obtain⟨D,g⟩:=kA (k / 8);obtain⟨a0,i⟩:=kA (k % 8);have X:a0<8:=Hm i.out
  have ch:(k:Int).tdiv 8=(D:Int):=by rw[Int.tdiv_eq_ediv_of_nonneg Wm];have:=g.out;omega
  have ci:(k:Int) / 8=(D:Int):=Hm g.out
  have cj:(k:Int).tmod 8=(a0:Int):=by rw[Int.tmod_eq_emod_of_nonneg Wm];have:=i.out;omega
  have ck:(k:Int) % 8=(a0:Int):=Hm i.out
  obtain⟨s,ag⟩:∃s,Xo (f.bl[D]? =Xa s):=⟨_,gE (by rw[<-g.out];exact ah k x)⟩
  have t:=aj.out wr a D f s (B.trans b) a6 ag (Hm g.out)
  have bh:=(c.grew b).c 0 rfl;have bi:=(c.grew b).c 1 rfl;have bj:=(c.grew b).c 2 rfl;have bl:=(c.grew b).c 3 rfl;have bm:=(c.grew b).c 4 rfl;have bn:=(c.grew b).c 5 rfl;have bo:=(c.grew b).c 6 rfl;have bp:=(c.grew b).c 8 rfl;have bq:=(c.grew b).c 9 rfl;have A:=(c.grew b).c 10 rfl;go_wp2_with fail;refine t.mono ?_;clear t bh bi bj bl bm bn bo a3 bp bq A c5;rintro cl bv ⟨rfl,v,ay⟩;have bt:=dD (b.trans ay);have ao:=dD (bu.grew ay);obtain⟨Q,br⟩:=kA (byD m a k);have b1:(pgc (qn m (a:Int) (D:Int)))[a0]? =Xa (U8 Q):=by
   rw[<-br.out];unfold byD;rw[g.out,i.out];exact zd5 (by rw[gD,gE (Rx v X)];rfl)
  generalize qn m (a:Int) (D:Int)=c0 at b1 v⊢
  have j:Xo ((Yb (k+1)).map (byD m a)=(Yb k).map (byD m a)++ [Q]):=dD<|by rw[Od,List.map_append,List.map_singleton,br.out]
  have l:Xo (((Yb k).map (byD m a)).length=k):=dD<|Sm
  generalize(Yb k).map (byD m a)=acc at ao j l
  clear ay v;have am:Xo (w.heap.size+1<=bv.heap.size):=dD<|by rw[<-L.out];exact bS bt.out
  go_wp2_with (first | refine zoz rfl (.tmp 40) (.tmp 42) rfl (pgc c0) rfl a0 rfl X b1 ?_ | (at_builtin;refine zn (E:=byE) rfl (.tmp 35) (.tmp 44) rfl (w.heap.size+1) _ acc rfl (ao.grew (za _ _)) _ [Q] rfl (qN byE bv Q _ _ rfl Dc) ?qb ?qc ?_))
  case qb=>
   show(acc.length+1)*1<=_
   have:=l.out;omega
  case qc=>exact nT am (bS (za _ _))
  intro ct bw own R;obtain⟨a4,a5,I⟩:=own.form;rw[show(acc++ [Q]).length=k+1 from by rw[lA,l.out];rfl]at I
  subst I;have On:Xo (zb byE (w.heap.size+1) bw (O a4 (k+1) a5) ((Yb (k+1)).map (byD m a))):=dD<|Rx j.out own
  have c1:Xo (zc ap bw):=dD<|zT (bt.trans (za _ _)) R (fun c9 cd=>by
   have az:=(ao.lt c9 cd).1;rw[L.out];exact az)
  clear own R b1;go_wp2
  go_roundg (z -(k+1));exact⟨k+1,a4,a5,Wm,Wm,Gn,rfl,c1,On⟩;omega
 have Z:=kD x
 obtain rfl:z=k:=Wm
 have K:Xo (Byt m (a:Int) w (Xl (Xm #[O ae z af,I6 0])) wr):=⟨_,by rw[G.out],by rw[ai.out];exact bu.base (Nat.le_succ _)⟩
 go_wp2
 go_ret2
 exact⟨K,B.trans b⟩
theorem zpo {α:Type} (E:Elt α) {w:Xn} {cs:List Xq} (h:Box w b cs) (l:List α) (hcs:cs=l.flatMap E.enc) (hb:l.length*E.bytes<=140737488355328):zl E w (O (Xa ⟨b,0,Xb⟩) l.length l.length) l:=by
 refine⟨⟨_,l.length,rfl,fun h=>(by cases h),fun y hy=>?_⟩,hb⟩
 cases hy;intro j u hj;rw[Xz,zA];exact h.c j (Rx hcs hj)
def zjD (m:Ma) (p:Nat) (s:Sp) (n:Nat):List Int:=if(zB s.ars n).is=Xd then []else [(n:Int),(qY m (p:Int) (n:Int)).2.2 % 256,(zB s.ars n).file % 256,(zB s.ars n).page % 256]++(qY m (p:Int) (n:Int)).1++ [yn (zB s.ars n).rd,yn (zB s.ars n).wr,yn (zB s.ars n).sh,yn ((qY m (p:Int) (n:Int)).2.1 && decide (0<=(zB s.ars n).file))]
def qk (m:Ma) (p:Nat) (s:Sp) (n:Nat):List Int:=(Yb n).flatMap (zjD m p s)
theorem zm0 (m:Ma) (p:Nat) (s:Sp):zjt m p s=112 ::((if s.live=Xc then [108]else [])++qk m p s 64):=rfl
theorem zjB (m:Ma) (p:Nat) (s:Sp) (n:Nat):qk m p s (n+1)=qk m p s n++zjD m p s n:=by
 unfold qk;rw[Od,Yc];simp
theorem zd2 (m:Ma) (s:Sp):∀(l:List Sp) (p:Nat),zcC m (l++ [s]) p=zcC m l p++zjt m (p+l.length) s
 | [],p=>by simp[zcC]
 | t :: l,p=>by
  rw[List.cons_append];unfold zcC;rw[zd2 m s l (p+1),Yi,Yj,show p+1+l.length=p+(l.length+1) by omega]
def JA (m:Ma) (p:Nat):List Int:=zcC m (m.sp.take p) 0
theorem zhs {p:Nat} {s:Sp} (hs:m.sp[p]? =Xa s):JA m (p+1)=JA m p++(112 ::((if s.live=Xc then [108]else [])++qk m p s 64)):=by
 have hp:=(gS.1 hs).1;unfold JA;rw[qe hs,zd2,<-zm0,Xt,Ob Wm,zA]
theorem zjr {p:Nat} (h:p=m.sp.length):JA m p=zcC m m.sp 0:=by
 unfold JA;rw[h,List.take_length]
def jK (m:Ma) (n:Nat):List Int:=(Yb n).flatMap (zla m)
theorem zkb (m:Ma) (n:Nat):jK m (n+1)=jK m n++zla m n:=by
 unfold jK;rw[Od,Yc];simp
theorem zaq {rest:List Oper} {a:Act} {w:Xn} (hgd:o.guard=Xb) (s x:Operand) (ho:o.op= .call { callee:= .builtin .append,args:=#[s,x],argTypes:=#[24,24] }) (v:Xq) (acc:List Int) (hv:a.eval s=v) (hr:zb byE w0.heap.size w v acc) (u:Xq) (l:List Int) (hu:a.eval x=u) (hl:zl byE w u l) (hb:acc.length+l.length<=100000000) (hg:zc w0 w) (res:List Int) (hres:acc++l=res)
  (h:∀(xa:Option Addr) (n xc:Nat) w',Xo (n=res.length)->Xo (zb byE w0.heap.size w' (O xa n xc) res)->Xo (zc w0 w')->(∀p t cs,t≠5->zo w p t cs->zo w' p t cs)->wpList prog ops Q rest (a.put o.dst (O xa n xc)) w'):wpList prog ops Q (o :: rest) a w:=by
 subst hres;refine zn (E:=byE) hgd s x ho w0.heap.size v acc hv hr u l hu hl (by show(acc.length+l.length)*1<=_;omega) (bS hg) ?_
 intro vn wn own grn;obtain⟨xa,xc,rfl⟩:=own.form;exact h xa _ xc wn (show _=_ from rfl) own (zT hg grn (fun g hg'=>(hr.lt g hg').1)) (fun p t cs ht hb=>zo.row hr grn hb ht)
theorem QZ (V:MaV) (m:Ma) (w:Xn) (hm:zy w V m) (hw:maW m=0) (hfs:∀s∈m.sp,qH m.fl.length s.ars):
  Xp prog 7 #[Xi (mL V m).toArray] w fun e w'=>e= Xl (.string (strOfNums (zdH m)))/\zc w w':=by
 have HM:Xo (zy w V m):=hm;have HVW:Xo (∀W (p n:Int),zc w W->Xp prog 23 #[Xi (mL V m).toArray,I6 p,I6 n] W fun e w'=>e= Xl (zoC (qY m p n))/\(qY m p n).1.length=8/\zc W w'):=show∀W,_ from fun W p n hW=>zhw V m p n W (HM.grew hW) hw hfs
 have HBY:Xo (∀W (f:Int),zc w W->Xp prog 13 #[Xi (mL V m).toArray,I6 f] W fun e w'=>Byt m f W e w'/\zc W w'):=dD<|fun W f hW=>zf0 V m f W (HM.grew hW) hw
 have HBL:Xo (∀f,(Zz m f).length<=1000):=dD<|fun f=>by
  unfold Zz
  split
  ·unfold zev;rw[Xu,List.length_range];have:Qb m f<=96:=by
    unfold Qb;rw[gD]
    cases hq:m.fl[f.toNat]? with
    | none=>simp
    | some x=>simpa using(zpb hw hq).1.2
   omega
  simp
 have HPT:Xo (Pts m):=zlj (za2 hw);have HSL:Xo (zdH m=JA m m.sp.length++jK m m.fl.length):=show _=_ by rw[zjr rfl];rfl
 have h4:m.sp.length<=4:=(zaS hw).1.spl;have h5:m.fl.length<=5:=by
  have h1:=za2 hw;unfold Jq at h1;rw[zi]at h1;have h2:=((qi _ _).1 (h1 (stW m.fl m.cnt) Sm)).1
  omega
 obtain⟨-,-,-,-,-,-,n7,-,n9⟩:=hm.ns;obtain⟨xs,hxl,hrow,hsp⟩:=hm.spaces;obtain⟨vf,vs,vsb,vsq,vdb,vdq,⟨fla,fln,flc⟩,vca,⟨spa,spn,spc⟩⟩:=V;dsimp only[mL]at n7 n9 hrow HVW HBY⊢;have HN7:Xo (m.fl.length=fln):=n7.symm;have HN9:Xo (m.sp.length=spn):=n9.symm;rw[<-n7]at h5;rw[<-n9]at h4;rw[HN7.out,HN9.out]at HSL;have HXL:Xo (xs.length=spn):=show _=_ by rw[hxl];exact HN9.out
 have HRW:Xo (∀(j:Nat) x,xs[j]? =Xa x->∃ad,spa=Xa ad/\∀W,zc w W->zja W (ad.add (j*10)) x):=dD<|hrow
 have HSP:Xo (∀(i:Nat) x s,xs[i]? =Xa x->m.sp[i]? =Xa s->jO w x s):=dD<|hsp
 clear hm n7 n9 hxl hrow hsp hw hfs;obtain⟨W0,hW0⟩:=kB (w.alloc (Xk #[vf.x,I6 m.hand,vs.x,vsb.x,vsq.x,vdb.x,vdq.x,O fla fln flc,I6 m.cnt,vca.x,O spa spn spc] 41));have G0:=gA hW0
 have X0:=xA hW0
 have HW0:Xo (_=W0):=hW0;clear hW0
 go_enter func7,ntmps7
 go_upto_region 2 with fail;rw[HW0.out];have x10:=X0.c 10 rfl;go_upto_region 3 with fail;clear x10
 go_loopg [3,19] spn (fun gg s3 s19 wr=>∃(p nc:Nat) (xa:Option Addr) (xc:Nat),p<=spn/\spn - p<=gg/\nc<=2000*p/\s19=I6 p/\s3= O xa nc xc/\Xo (nc=(JA m p).length)/\Xo (zc W0 wr)/\Xo (zb byE W0.heap.size wr (O xa nc xc) (JA m p)))
 exact⟨0,0,Xb,0,nZ _,Wm,Wm,rfl,rfl,rfl,zc.refl _,zb.nil _ _ _⟩
 obtain⟨p,nc,xa,xc,hp,hgp,hnc,rfl,rfl,HNC,KW,OW⟩:=hrel
 by_cases hlt:p<spn
 ·have hltz:=kC hlt
  obtain⟨s,HS⟩:∃s,Xo (m.sp[p]? =Xa s):=⟨_,gE (Rx HN9.out hlt)⟩
  obtain⟨x,hx⟩:∃x,xs[p]? =Xa x:=⟨_,gE (Rx HXL.out hlt)⟩
  have HAT:Xo (jO w x s):=HSP.out p x s hx HS.out;obtain⟨ad,hva,hl⟩:=HRW.out p x hx;obtain⟨d0,d1,d2,d3,d4,d5,d6,d7,d8,d9⟩:=hl wr (G0.trans KW);subst hva;clear hl hx;go_upto_region 5 with fail;obtain⟨pb,HPB⟩:=kA wr.heap.size;obtain⟨W1,hW1⟩:=kB (wr.alloc (Xk #[Xh x.live,x.ar.x,x.t0.x,x.t1.x,x.t2.x,x.t3.x,x.t4.x,x.t5.x,x.t6.x,x.t7.x] 79));have g1:=gP hW1
  have S1:=xPT hW1 HPB
  have K1:=dD (KW.trans g1);have O1:=dD (OW.grew g1);rw[hW1,HPB.out];clear hW1 g1 d0 d1 d2 d3 d4 d5 d6 d7 d8 d9;obtain⟨acc,HACC⟩:=kA (JA m p);rw[HACC.out]at O1 HNC;rw[HNC.out]at O1⊢;obtain⟨a2,HA2⟩:∃a2:List Int,Xo (acc++ [112]=a2):=⟨acc++ [112],rfl⟩;have HB2:Xo (a2.length<=2000*p+1):=show _<=_ by rw[<-HA2.out];have:=HNC.out;simp;omega
  obtain⟨a3,HA3⟩:∃a3:List Int,Xo (a2++(if s.live=Xc then [108]else [])=a3):=⟨a2++(if s.live=Xc then [108]else []),rfl⟩;have HB3:Xo (a3.length<=2000*p+2):=dD<|by rw[<-HA3.out];have:=HB2.out;split <;> simp <;> omega
  go_wp2_with (at_builtin;refine zaq (w0:=W0) rfl (.tmp 24) (.tmp 25) rfl _ acc rfl (O1.grew (za _ _)) _ [112] rfl (qN byE W1 112 _ _ rfl Dc) (by have:=HNC.out;show acc.length+1<=_;omega) (K1.trans (za _ _)) a2 HA2.out ?_)
  intro xa2 nc2 xc2 W2 HNC2 O2 K2 bx2;have S2:Xo (zo W2 pb 79 [Xh x.live,x.ar.x,x.t0.x,x.t1.x,x.t2.x,x.t3.x,x.t4.x,x.t5.x,x.t6.x,x.t7.x]):=bx2 _ _ _ Dc (S1.grew (za _ _))
  clear bx2;have HLA:Xo (JA m (p+1)=a3++qk m p s 64):=dD<|by rw[zhs HS.out,HACC.out,<-HA3.out,<-HA2.out];simp
  have s0:=S2.box.c 0 rfl;obtain⟨lv,HLV⟩:=kA s.live;rw[HAT.live,HLV.out]at s0
  go_upto_if 28 with fail
  clear s0
  go_cut [3,19]from 19 to 92 (fun s3 s19 wx=>s19=I6 p/\∃(xa:Option Addr) (nc xc:Nat),s3= O xa nc xc/\Xo (nc=a3.length)/\Xo (zb byE W0.heap.size wx (O xa nc xc) a3)/\Xo (zo wx pb 79 [Xh x.live,x.ar.x,x.t0.x,x.t1.x,x.t2.x,x.t3.x,x.t4.x,x.t5.x,x.t6.x,x.t7.x])/\Xo (zc W0 wx))
  case first=>
   cases lv with
   | false=>
    have HR:Xo (a3=a2):=dD<|by rw[<-HA3.out,kF (by rw[HLV.out];decide),Yf]
    go_wp2
    go_meet
    exact⟨rfl,xa2,nc2,xc2,rfl,by rw[HR.out];exact HNC2,Rx HR.out O2,S2,K2⟩
   | true=>
    have HR:Xo (a2++ [108]=a3):=dD<|by rw[<-HA3.out,kE HLV.out]
    go_wp2_with (at_builtin;refine zaq (w0:=W0) rfl (.tmp 29) (.tmp 30) rfl _ a2 rfl (O2.grew (za _ _)) _ [108] rfl (qN byE W2 108 _ _ rfl Dc) (by have:=HB2.out;show a2.length+1<=_;omega) (K2.trans (za _ _)) a3 HR.out ?_)
    intro xa3 nc3 xc3 W3 HNC3 O3 K3 bx3;have S3:Xo (zo W3 pb 79 [Xh x.live,x.ar.x,x.t0.x,x.t1.x,x.t2.x,x.t3.x,x.t4.x,x.t5.x,x.t6.x,x.t7.x]):=bx3 _ _ _ Dc (S2.grew (za _ _))
    clear bx3;go_wp2
    go_meet
    exact⟨rfl,xa3,nc3,xc3,rfl,HNC3,O3,S3,K3⟩
  case rest=>
  obtain⟨rfl,xa3,nc3,xc3,rfl,HNC3,O3,S3,K3⟩:=hcut;have HCN:Xo (Qa Xb s.ars):=(jq.1 (HPT.ar s (mG HS)).1).2;have hon:=jB (x.ar.x) s.ars wc (HAT.ar.grew (G0.trans K3)) HCN.lies;have s1:=S3.box.c 1 rfl;go_wp2_with fail;refine hon.mono ?_;clear hon s1;rintro r W4 ⟨rfl,g4⟩;have K4:=dD (K3.trans g4);have O4:Xo (zb byE W0.heap.size W4 (O xa3 nc3 xc3) (a3++qk m p s 0)):=show zb _ _ _ _ _ by
   rw[show qk m p s 0=[]from rfl,Yf]
   exact O3.grew g4
  have HN4:Xo (nc3=(a3++qk m p s 0).length):=dD<|by
   rw[show qk m p s 0=[]from rfl,Yf]
   exact HNC3.out
  clear g4;go_upto_region 9 with fail
  go_loopg [3,35] 64 (fun gg s3 s35 wr=>∃(n nc:Nat) (xa:Option Addr) (xc:Nat),n<=64/\64 - n<=gg/\nc<=2000*p+2+16*n/\s35=I6 n/\s3= O xa nc xc/\Xo (nc=(a3++qk m p s n).length)/\Xo (zc W0 wr)/\Xo (zb byE W0.heap.size wr (O xa nc xc) (a3++qk m p s n)))
  exact⟨0,nc3,xa3,xc3,Wm,Wm,by have:=HN4.out;have:=HB3.out;simp[qk]at*;omega,rfl,rfl,HN4,K4,O4⟩
  obtain⟨n,nn,ya,yc,hn,hgn,hnn,rfl,rfl,HNN,KW,OW⟩:=hrel
  by_cases hlt2:n<64
  ·have hltz2:(n:Int)<64:=Wm
   obtain⟨o,HO⟩:=kA (zB s.ars n);have hov:Value.agg (onv (zB s.ars n)).toArray= Xi #[Xh o.is,Xh o.rd,Xh o.wr,Xh o.sh,I6 o.file,I6 o.page]:=Rr HO.out
   obtain⟨a4,HA4⟩:∃a4:List Int,Xo (a3++qk m p s n=a4):=⟨_,rfl⟩;have HPN:Xo (a3++qk m p s (n+1)=a4++zjD m p s n):=dD<|by rw[zjB,<-Yi,HA4.out]
   rw[HA4.out]at OW HNN
   go_upto_region 11 with(refine zaK rfl (.tmp 34) (.tmp 35) rfl (zB s.ars) rfl n rfl hlt2 hov ?_)
   obtain⟨po,HPO⟩:=kA wr.heap.size;obtain⟨W5,hW5⟩:=kB (wr.alloc (Xk #[Xh o.is,Xh o.rd,Xh o.wr,Xh o.sh,I6 o.file,I6 o.page] 81));have g5:=gP hW5
   have B5:=xPT hW5 HPO
   have K5:=dD (KW.trans g5);have O5:=dD (OW.grew g5);rw[hW5,HPO.out];clear hW5 g5 hov;have o0:=B5.box.c 0 rfl
   cases his:o.is with
   | false=>
    rw[his]at o0;have HPE:Xo (a3++qk m p s (n+1)=a4):=dD<|by
     rw[HPN.out];unfold zjD;rw[HO.out,kE his,Yf]
    clear his;go_wp2
    go_roundg (64 -(n+1));exact⟨n+1,nn,ya,yc,Wm,Wm,Wm,Gn,rfl,Rx HPE.out HNN,K5,Rx HPE.out O5⟩;omega
   | true=>
    rw[his]at o0;have hvw:=HVW.out W5 (p:Int) (n:Int) (G0.trans K5);have x0:=(X0.grew K5).c 0 rfl;have x1:=(X0.grew K5).c 1 rfl;have x2:=(X0.grew K5).c 2 rfl;have x3:=(X0.grew K5).c 3 rfl;have x4:=(X0.grew K5).c 4 rfl;have x5:=(X0.grew K5).c 5 rfl;have x6:=(X0.grew K5).c 6 rfl;have x7:=(X0.grew K5).c 7 rfl;have x8:=(X0.grew K5).c 8 rfl;have x9:=(X0.grew K5).c 9 rfl;have x10:=(X0.grew K5).c 10 rfl;go_wp2_with fail;refine hvw.mono ?_;clear hvw o0 x0 x1 x2 x3 x4 x5 x6 x7 x8 x9 x10;rintro r W6 ⟨rfl,hl8,g6⟩;obtain⟨⟨rl,rb,re⟩,HRR⟩:∃rr,Xo (qY m (p:Int) (n:Int)=rr):=⟨_,rfl⟩;rw[HRR.out]at hl8⊢;obtain⟨p0,p1,p2,p3,p4,p5,p6,p7,hrl⟩:=zdB rl hl8;subst hrl;have HPG:Xo (zjD m p s n=[(n:Int),re % 256,o.file % 256,o.page % 256]++ [p0,p1,p2,p3,p4,p5,p6,p7]++ [yn o.rd,yn o.wr,yn o.sh,yn (rb && decide (0<=o.file))]):=dD<|by
     unfold zjD;rw[HO.out,kF (by rw[his];decide),HRR.out]
    have K6:=dD (K5.trans g6);have O6:=dD (O5.grew g6);have B6:=dD (B5.grew g6);clear g6 hl8 his;simp only[zoC,pgc,mP,Ym];go_upto_region 13 with fail;obtain⟨pp,HPP⟩:=kA W6.heap.size;obtain⟨W7,hW7⟩:=kB (W6.alloc (Xk #[U8 p0,U8 p1,U8 p2,U8 p3,U8 p4,U8 p5,U8 p6,U8 p7] 60));have g7:=gP hW7
    have Q7:=xPT hW7 HPP
    have K7:=dD (K6.trans g7);have O7:=dD (O6.grew g7);have B7:=dD (B6.grew g7);rw[hW7,HPP.out];clear hW7 g7;have hal:a4.length<=20000:=Hm HNN.out
    obtain⟨I,HI⟩:∃I:Xn->Prop,Xo (∀u,I u↔(zo u pp 60 [U8 p0,U8 p1,U8 p2,U8 p3,U8 p4,U8 p5,U8 p6,U8 p7]/\zo u po 81 [Xh o.is,Xh o.rd,Xh o.wr,Xh o.sh,I6 o.file,I6 o.page])):=⟨_,fun _=>Iff.rfl⟩
    have hI0:I W7.drew:=(HI _).2 ⟨Q7.grew (gW _),B7.grew (gW _)⟩
    have hF0:zc W7 W7.drew:=show Below _ _ _ from(bR _ _).drew
    have hne:Nonempty (zj I):=⟨⟨_,hI0⟩⟩;have ho4:∀y:zj I,y.world.cell? ⟨po,4,Xb⟩=Xa (I6 o.file):=fun y=>((HI _).1 y.holds).2.box.c 4 rfl
    have ho5:∀y:zj I,y.world.cell? ⟨po,5,Xb⟩=Xa (I6 o.page):=fun y=>((HI _).1 y.holds).2.box.c 5 rfl
    refine zQ (I:=I) 15 [(11,fun v=>∃g,v= O (Xa ⟨g,0,Xb⟩) 4 4),(12,fun v=>∃s:Sli,v=s.x),(14,fun v=>∃s:Sli,v=s.x)] (fun u=>zc W7 u) hI0 hF0 z6 Kr rfl rfl Dc (Sc ⟨_,0,rfl⟩ ⟨_,zG,rfl⟩ ⟨_,zG,rfl⟩) Kr ?_
    simp only[Yg,Yh];iterate 11 (refine zL rfl rfl rfl (fun K hK=>?_);go_big_quiet_op;refine hK _ ?_;clear hK K)
    refine zI rfl rfl (fun v u=>zc W7 u/\zl byE u v [(n:Int),re % 256,o.file % 256,o.page % 256]) (fun w' hI' hF'=>?_) (fun v1 hv=>?_)
    ·obtain⟨i1,i2⟩:=(HI _).1 hI';refine zJ.step (v:= O (Xa ⟨w'.heap.size,0,Xb⟩) 4 4) (w':=w'.alloc (Xk #[U8 (n:Int),U8 (re % 256),U8 (o.file % 256),U8 (o.page % 256)] 5)) (by clear ho4 ho5;simp only[execOp];go_simp) ⟨(HI _).2 ⟨i1.grew (za _ _),i2.grew (za _ _)⟩,⟨_,rfl⟩,hF'.trans (za _ _),zbq byE w' [(n:Int),re % 256,o.file % 256,o.page % 256] _ rfl (show 4*1<=_ by decide)⟩
    obtain⟨g5,rfl⟩:=hv;simp only[Xs,sB,sS,sZ];refine zI rfl rfl (fun v u=>zc W0 u/\zb byE W0.heap.size u v (a4++ [(n:Int),re % 256,o.file % 256,o.page % 256])) (fun w' hI' hF'=>?_) (fun v1 hv=>?_)
    ·obtain⟨i1,i2⟩:=(HI _).1 hI';obtain⟨k1,k2⟩:=hF';obtain⟨v',w2,hrun,ho,hgr,hk⟩:=qx (E:=byE) (w:=w') 24 (O7.grew k1) (O (Xa ⟨g5,0,Xb⟩) 4 4) [(n:Int),re % 256,o.file % 256,o.page % 256] k2 (by show(a4.length+4)*1<=_;omega) (nT (bS K7) (bS k1))
     obtain⟨a',c',rfl⟩:=ho.form;refine zJ.step (w':=w2) (v:= .slice a' (a4++ [(n:Int),re % 256,o.file % 256,o.page % 256]).length c') ?_ ⟨(HI _).2 ⟨zo.row (O7.grew k1) hgr i1 Dc,zo.row (O7.grew k1) hgr i2 Dc⟩,⟨⟨a',_,c'⟩,rfl⟩,zc.row (O7.grew k1) hgr (K7.trans k1),ho⟩
     simp only[execOp,resolve,invoke,builtin,pure_bind,Ys,Yz,Yo,mP,Ym];exact Eq.trans (congrArg (fun r=>Result.andThen r (fun a w'=>Result.ok (Next.value a) w')) hrun) rfl
    obtain⟨s6,rfl⟩:=hv;simp only[Xs,sB,sS,sZ];iterate 1 (refine zL rfl rfl rfl (fun K hK=>?_);go_big_quiet_op;refine hK _ ?_;clear hK K)
    refine zI rfl rfl (fun v u=>zc W0 u/\zb byE W0.heap.size u v ((a4++ [(n:Int),re % 256,o.file % 256,o.page % 256])++ [p0,p1,p2,p3,p4,p5,p6,p7])) (fun w' hI' hF'=>?_) (fun v1 hv=>?_)
    ·obtain⟨i1,i2⟩:=(HI _).1 hI';obtain⟨k1,k2⟩:=hF';obtain⟨v',w2,hrun,ho,hgr,hk⟩:=qx (E:=byE) (w:=w') 24 k2 (O (Xa ⟨pp,0,Xb⟩) 8 8) [p0,p1,p2,p3,p4,p5,p6,p7] (zpo byE i1.box [p0,p1,p2,p3,p4,p5,p6,p7] rfl (show 8*1<=_ by decide)) (by simp only[lA];show(a4.length+4+8)*1<=_;omega) (bS k1)
     obtain⟨a',c',rfl⟩:=ho.form;refine zJ.step (w':=w2) (v:= .slice a' ((a4++ [(n:Int),re % 256,o.file % 256,o.page % 256])++ [p0,p1,p2,p3,p4,p5,p6,p7]).length c') ?_ ⟨(HI _).2 ⟨zo.row k2 hgr i1 Dc,zo.row k2 hgr i2 Dc⟩,⟨⟨a',_,c'⟩,rfl⟩,zc.row k2 hgr k1,ho⟩
     simp only[execOp,resolve,invoke,builtin,pure_bind,Ys,Yz,Yo,mP,Ym];exact Eq.trans (congrArg (fun r=>Result.andThen r (fun a w'=>Result.ok (Next.value a) w')) hrun) rfl
    obtain⟨s8,rfl⟩:=hv;simp only[Xs,sB,sS,sZ];refine qJ fun W8 hI8 hF8=>?_
    obtain⟨a5,HA5⟩:∃a5:List Int,Xo ((a4++ [(n:Int),re % 256,o.file % 256,o.page % 256])++ [p0,p1,p2,p3,p4,p5,p6,p7]=a5):=⟨_,rfl⟩;have K8:Xo (zc W0 W8):=hF8.1;have O8:Xo (zb byE W0.heap.size W8 (s8.x) a5):=show zb _ _ _ _ _ by rw[<-HA5.out];exact hF8.2
    have B8:Xo (zo W8 po 81 [Xh o.is,Xh o.rd,Xh o.wr,Xh o.sh,I6 o.file,I6 o.page]):=((HI _).1 hI8).2;have HA5E:Xo (a5.length<=2000*p+2+16*n+12):=show _<=_ by rw[<-HA5.out];have:=HNN.out;simp;omega
    have HA5L:Xo (a5.length<=20020):=dD<|by rw[<-HA5.out];simp;omega
    clear hI8 hF8 hI0 hF0 hne ho4 ho5;have b1:=B8.box.c 1 rfl;have b2:=B8.box.c 2 rfl;have b3:=B8.box.c 3 rfl;have b4:=B8.box.c 4 rfl
    cases rb with
    | false=>
     have HPE:Xo (a3++qk m p s (n+1)=a5++ [yn o.rd,yn o.wr,yn o.sh,yn (Xd)]):=dD<|by
      rw[HPN.out,HPG.out,<-HA5.out];simp
     go_upto_region 15 with fail;obtain⟨pq,HPQ⟩:=kA W8.heap.size;obtain⟨W9,hW9⟩:=kB (W8.alloc (Xk #[Xh o.rd,Xh o.wr,Xh o.sh,Xh (Xd)] 4));have g9:=gP hW9
     have U9:=xPT hW9 HPQ
     have K9:=dD (K8.trans g9);have O9:=dD (O8.grew g9);rw[hW9,HPQ.out];clear hW9 g9 b1 b2 b3 b4;obtain⟨bs,HBS⟩:∃bs:List Bool,Xo (bs=[o.rd,o.wr,o.sh,Xd]):=⟨_,rfl⟩;have HPE2:Xo (a3++qk m p s (n+1)=a5++bs.map yn):=show _=_ by rw[HPE.out,HBS.out];rfl
     have U92:Xo (zo W9 pq 4 (bs.map Value.bool)):=dD<|Rx HBS.out U9.out
     have HBL4:Xo (bs.length=4):=dD<|Rr HBS.out
     have O92:Xo (zb byE W0.heap.size W9 (s8.x) (a5++(bs.map yn).take 0)):=dD<|Si O9.out
     skip
     go_loopg [3,79] 4 (fun gg s3 s79 wr=>∃(j:Nat) (t:Sli),j<=4/\4 - j<=gg/\s79=I6 j/\s3=t.x/\Xo (zc W0 wr)/\Xo (zo wr pq 4 (bs.map Value.bool))/\Xo (zb byE W0.heap.size wr (t.x) (a5++(bs.map yn).take j)))
     exact⟨0,s8,Wm,Wm,rfl,rfl,K9,U92,O92⟩
     obtain⟨j,t,hj,hgj,rfl,rfl,KV,UV,OV⟩:=hrel
     by_cases hlt3:j<4
     ·have hltz3:(j:Int)<4:=Wm
      obtain⟨y,HY⟩:∃y,Xo (bs[j]? =Xa y):=⟨_,gE (by rw[HBL4.out];exact hlt3)⟩
      have HTK:Xo ((a5++(bs.map yn).take j)++ [yn y]=a5++(bs.map yn).take (j+1)):=dD<|by rw[qe (l:=bs.map yn) (q:=yn y) (by rw[Xx,HY.out];rfl)];simp
      have u:=UV.box.c j (u:= Xh y) (by rw[Xx,HY.out];rfl)
      have HTL:Xo ((a5++(bs.map yn).take j).length<=30000):=dD<|by
       have:=HA5L.out;simp only[lA,Xt];omega
      generalize a5++(bs.map yn).take j=ac at OV HTK HTL
      have hac:ac.length<=30000:=HTL.out
      cases y with
      | true=>
       go_wp2_with (at_builtin;refine zaq (w0:=W0) rfl (.tmp 84) (.tmp 85) rfl _ ac rfl (OV.grew (za _ _)) _ [121] rfl (qN byE wr 121 _ _ rfl Dc) (by show ac.length+1<=_;omega) (KV.trans (za _ _)) _ (show ac++ [121]=_ from HTK.out) ?_)
       intro xb nb xcb Wb HNB OB KB bxb;have UB:Xo (zo Wb pq 4 (bs.map Value.bool)):=dD<|bxb _ _ _ Dc (UV.grew (za _ _))
       clear bxb u;go_wp2
       go_roundg (4 -(j+1));exact⟨j+1,⟨xb,nb,xcb⟩,Wm,Wm,Gn,rfl,KB,UB,OB⟩;omega
      | false=>
       go_wp2_with (at_builtin;refine zaq (w0:=W0) rfl (.tmp 87) (.tmp 88) rfl _ ac rfl (OV.grew (za _ _)) _ [110] rfl (qN byE wr 110 _ _ rfl Dc) (by show ac.length+1<=_;omega) (KV.trans (za _ _)) _ (show ac++ [110]=_ from HTK.out) ?_)
       intro xb nb xcb Wb HNB OB KB bxb;have UB:Xo (zo Wb pq 4 (bs.map Value.bool)):=dD<|bxb _ _ _ Dc (UV.grew (za _ _))
       clear bxb u;go_wp2
       go_roundg (4 -(j+1));exact⟨j+1,⟨xb,nb,xcb⟩,Wm,Wm,Gn,rfl,KB,UB,OB⟩;omega
     have hltz3:¬(j:Int)<4:=Wm
     have:j=4:=Wm
     subst this;have OF:Xo (zb byE W0.heap.size wr (t.x) (a3++qk m p s (n+1))):=dD<|by
      rw[HPE2.out];have:=OV.out;rw[Xy (by rw[Xu,HBL4.out];exact nR _)]at this
      exact this
     have HTN:Xo (t.n=(a3++qk m p s (n+1)).length):=dD<|OF.n
     have htn:t.n<=2000*p+2+16*(n+1):=by
      rw[HTN.out,HPE2.out,lA,Xu,HBL4.out];have:=HA5E.out;omega
     go_wp2
     go_roundg (64 -(n+1));exact⟨n+1,t.n,t.a,t.c,Wm,Wm,htn,Gn,rfl,HTN,KV,OF⟩;omega
    | true=>
     obtain⟨df,hdf⟩:=kB (decide (0<=o.file));rw[Bool.true_and,hdf]at HPG;have HPE:Xo (a3++qk m p s (n+1)=a5++ [yn o.rd,yn o.wr,yn o.sh,yn (df)]):=dD<|by
      rw[HPN.out,HPG.out,<-HA5.out];simp
     go_upto_region 15 with fail;obtain⟨pq,HPQ⟩:=kA W8.heap.size;obtain⟨W9,hW9⟩:=kB (W8.alloc (Xk #[Xh o.rd,Xh o.wr,Xh o.sh,Xh (df)] 4));have g9:=gP hW9
     have U9:=xPT hW9 HPQ
     have K9:=dD (K8.trans g9);have O9:=dD (O8.grew g9);rw[hW9,HPQ.out];clear hW9 g9 b1 b2 b3 b4;obtain⟨bs,HBS⟩:∃bs:List Bool,Xo (bs=[o.rd,o.wr,o.sh,df]):=⟨_,rfl⟩;have HPE2:Xo (a3++qk m p s (n+1)=a5++bs.map yn):=show _=_ by rw[HPE.out,HBS.out];rfl
     have U92:Xo (zo W9 pq 4 (bs.map Value.bool)):=dD<|Rx HBS.out U9.out
     have HBL4:Xo (bs.length=4):=dD<|Rr HBS.out
     have O92:Xo (zb byE W0.heap.size W9 (s8.x) (a5++(bs.map yn).take 0)):=dD<|Si O9.out
     skip
     go_loopg [3,79] 4 (fun gg s3 s79 wr=>∃(j:Nat) (t:Sli),j<=4/\4 - j<=gg/\s79=I6 j/\s3=t.x/\Xo (zc W0 wr)/\Xo (zo wr pq 4 (bs.map Value.bool))/\Xo (zb byE W0.heap.size wr (t.x) (a5++(bs.map yn).take j)))
     exact⟨0,s8,Wm,Wm,rfl,rfl,K9,U92,O92⟩
     obtain⟨j,t,hj,hgj,rfl,rfl,KV,UV,OV⟩:=hrel
     by_cases hlt3:j<4
     ·have hltz3:(j:Int)<4:=Wm
      obtain⟨y,HY⟩:∃y,Xo (bs[j]? =Xa y):=⟨_,gE (by rw[HBL4.out];exact hlt3)⟩
      have HTK:Xo ((a5++(bs.map yn).take j)++ [yn y]=a5++(bs.map yn).take (j+1)):=dD<|by rw[qe (l:=bs.map yn) (q:=yn y) (by rw[Xx,HY.out];rfl)];simp
      have u:=UV.box.c j (u:= Xh y) (by rw[Xx,HY.out];rfl)
      have HTL:Xo ((a5++(bs.map yn).take j).length<=30000):=dD<|by
       have:=HA5L.out;simp only[lA,Xt];omega
      generalize a5++(bs.map yn).take j=ac at OV HTK HTL
      have hac:ac.length<=30000:=HTL.out
      cases y with
      | true=>
       go_wp2_with (at_builtin;refine zaq (w0:=W0) rfl (.tmp 84) (.tmp 85) rfl _ ac rfl (OV.grew (za _ _)) _ [121] rfl (qN byE wr 121 _ _ rfl Dc) (by show ac.length+1<=_;omega) (KV.trans (za _ _)) _ (show ac++ [121]=_ from HTK.out) ?_)
       intro xb nb xcb Wb HNB OB KB bxb;have UB:Xo (zo Wb pq 4 (bs.map Value.bool)):=dD<|bxb _ _ _ Dc (UV.grew (za _ _))
       clear bxb u;go_wp2
       go_roundg (4 -(j+1));exact⟨j+1,⟨xb,nb,xcb⟩,Wm,Wm,Gn,rfl,KB,UB,OB⟩;omega
      | false=>
       go_wp2_with (at_builtin;refine zaq (w0:=W0) rfl (.tmp 87) (.tmp 88) rfl _ ac rfl (OV.grew (za _ _)) _ [110] rfl (qN byE wr 110 _ _ rfl Dc) (by show ac.length+1<=_;omega) (KV.trans (za _ _)) _ (show ac++ [110]=_ from HTK.out) ?_)
       intro xb nb xcb Wb HNB OB KB bxb;have UB:Xo (zo Wb pq 4 (bs.map Value.bool)):=dD<|bxb _ _ _ Dc (UV.grew (za _ _))
       clear bxb u;go_wp2
       go_roundg (4 -(j+1));exact⟨j+1,⟨xb,nb,xcb⟩,Wm,Wm,Gn,rfl,KB,UB,OB⟩;omega
     have hltz3:¬(j:Int)<4:=Wm
     have:j=4:=Wm
     subst this;have OF:Xo (zb byE W0.heap.size wr (t.x) (a3++qk m p s (n+1))):=dD<|by
      rw[HPE2.out];have:=OV.out;rw[Xy (by rw[Xu,HBL4.out];exact nR _)]at this
      exact this
     have HTN:Xo (t.n=(a3++qk m p s (n+1)).length):=dD<|OF.n
     have htn:t.n<=2000*p+2+16*(n+1):=by
      rw[HTN.out,HPE2.out,lA,Xu,HBL4.out];have:=HA5E.out;omega
     go_wp2
     go_roundg (64 -(n+1));exact⟨n+1,t.n,t.a,t.c,Wm,Wm,htn,Gn,rfl,HTN,KV,OF⟩;omega
  have hltz2:¬(n:Int)<64:=Wm
  have:n=64:=Wm
  subst this;rw[<-HLA.out]at OW HNN;go_wp2
  go_roundg (spn -(p+1));exact⟨p+1,nn,ya,yc,Wm,Wm,Wm,Gn,rfl,HNN,KW,OW⟩;omega
 have hltz:=kD hlt
 have:p=spn:=Wm
 subst this;have x7:=(X0.grew KW).c 7 rfl;obtain⟨a6,HA6⟩:∃a6:List Int,Xo (JA m p=a6):=⟨_,rfl⟩;rw[HA6.out]at OW HNC HSL;have h6:a6.length<=8000:=Hm HNC.out
 have OW2:Xo (zb byE W0.heap.size wr (O xa nc xc) (a6++jK m 0)):=dD<|by
  rw[show jK m 0=[]from rfl,Yf]
  exact OW.out
 go_upto_region 24 with fail;clear x7;obtain⟨WC,hWC⟩:=kB wr;rw[hWC]at OW2 KW⊢;clear hWC
 go_loopg [3,97] fln (fun gg s3 s97 wr=>∃(f:Nat) (t:Sli),f<=fln/\fln - f<=gg/\s97=I6 f/\s3=t.x/\Xo (zc W0 wr)/\Xo (zb byE W0.heap.size wr (t.x) (a6++jK m f))/\Xo ((a6++jK m f).length<=8000+1002*f))
 exact⟨0,⟨xa,nc,xc⟩,Wm,Wm,rfl,rfl,KW,OW2,show _<=_ by simpa [jK]using h6⟩
 obtain⟨f,t,hf,hgf,rfl,rfl,KV,OV,HLV⟩:=hrel
 by_cases hlt4:f<fln
 ·have hltz4:=kC hlt4
  have hby:=HBY.out wr (f:Int) (G0.trans KV);have x0:=(X0.grew KV).c 0 rfl;have x1:=(X0.grew KV).c 1 rfl;have x2:=(X0.grew KV).c 2 rfl;have x3:=(X0.grew KV).c 3 rfl;have x4:=(X0.grew KV).c 4 rfl;have x5:=(X0.grew KV).c 5 rfl;have x6:=(X0.grew KV).c 6 rfl;have x7:=(X0.grew KV).c 7 rfl;have x8:=(X0.grew KV).c 8 rfl;have x9:=(X0.grew KV).c 9 rfl;have x10:=(X0.grew KV).c 10 rfl;go_wp2_with fail;refine hby.mono ?_;clear hby x0 x1 x2 x3 x4 x5 x6 x7 x8 x9 x10;rintro r W1 ⟨⟨u,rfl,ow1⟩,g1⟩;obtain⟨ua,uc,rfl⟩:=ow1.form;have hbl:=HBL.out (f:Int);have HFN:Xo (a6++jK m (f+1)=((a6++jK m f)++ [102,((Zz m (f:Int)).length:Int) % 256])++Zz m (f:Int)):=dD<|by
   rw[zkb];unfold zla;simp
  obtain⟨bl,HBLL⟩:=kA (Zz m (f:Int));rw[HBLL.out]at ow1 hbl HFN⊢;have K1:=dD (KV.trans g1);have O1:=dD (OV.grew g1);have Y1:Xo (zb byE wr.heap.size W1 (O ua bl.length uc) bl):=ow1;have HTL:Xo (∀g,(t.x).ownBlock=Xa g->g<wr.heap.size):=show∀g,_ from fun g hg=>(OV.lt g hg).2
  clear ow1 g1
  generalize a6++jK m f=ac at O1 HFN HLV
  have hac:ac.length<=20000:=Hm HLV.out
  obtain⟨bn,HBN⟩:=kA bl.length;rw[HBN.out]at Y1 hbl HFN⊢;obtain⟨W2,hW2⟩:=kB (W1.alloc (Xk #[U8 102,U8 ((bn:Int) % 256)] 5));have g2:=gP hW2
  have R2:Xo (zl byE W2 (O (Xa ⟨W1.heap.size,0,Xb⟩) 2 2) [102,(bn:Int) % 256]):=dD<|by rw[<-hW2];exact zbq byE W1 [102,(bn:Int) % 256] _ rfl (show 2*1<=_ by decide)
  have K2:=dD (K1.trans g2);have O2:=dD (O1.grew g2);have Y2:=dD (Y1.grew g2);have HW2:Xo (_=W2):=hW2;clear hW2 g2
  go_wp2_with (at_builtin;rw[HW2.out];refine zn (E:=byE) rfl (.tmp 106) (.tmp 110) rfl W0.heap.size _ ac rfl O2 _ [102,(bn:Int) % 256] rfl R2 (by show(ac.length+2)*1<=_;omega) (bS K2) ?_)
  intro v3 W3 ow3 gr3;have K3:Xo (zc W0 W3):=dD<|zc.row O2 gr3 K2.out
  have Y3:Xo (zb byE wr.heap.size W3 (O ua bn uc) bl):=dD<|Y2.grown gr3 (fun g hg e=>by have:=HTL.out g e;have:=(Y2.lt g hg).1;omega)
  obtain⟨a3',c3',rfl⟩:=ow3.form;have O3:Xo (zb byE W0.heap.size W3 (.slice a3' (ac++ [102,(bn:Int) % 256]).length c3') (ac++ [102,(bn:Int) % 256])):=ow3;clear ow3 gr3
  go_wp2_with (at_builtin;refine zaq (w0:=W0) rfl (.tmp 111) (.tmp 112) rfl _ (ac++ [102,(bn:Int) % 256]) rfl O3 _ bl rfl Y3.at (by simp only[lA];show ac.length+2+_<=_;have:=HBN.out;omega) K3 _ HFN.symm ?_)
  intro xb nb xcb Wb HNB OB KB bxb;have HLB:Xo ((a6++jK m (f+1)).length<=8000+1002*(f+1)):=dD<|by
   rw[HFN.out];have:=HLV.out;have:=HBN.out;simp only[lA,Yj,List.length_nil];omega
  clear bxb;go_wp2
  go_roundg (fln -(f+1));exact⟨f+1,⟨xb,nb,xcb⟩,Wm,Wm,Gn,rfl,KB,OB,HLB⟩;omega
 have hltz4:=kD hlt4
 have:f=fln:=Wm
 subst this;have hst:=zmw OV.at;rw[<-HSL.out]at hst;have GF:=dD (G0.trans KV);go_wp2;go_ret;exact⟨rfl,GF⟩
theorem zo8 (fs:List Fr):jJ fs<=fs.length:=List.countP_le_length
theorem zke (h:Rt m):∀w0 W p a,ChW w0 p W a m->Xp prog 26 #[Xj (Xa ⟨p,0,Xb⟩),eS] W fun e w'=>∃b m',e= Xl (Xh b)/\(b=(za8 m []).1/\m'=(za8 m []).2)/\Chg w0 p W a m' w':=fun _ W _ _ a=>by
 refine(zkl a h (eS) [] (fun a _=>?_)).mono ?_
 ·exact zl.nil zeO a
 rintro e w' ⟨rfl,a⟩;exact⟨_,_,rfl,⟨rfl,rfl⟩,a⟩
theorem zlc (F S B:Int) (vl:Sli) (L:List Int) (file:Int) (w:Xn) (lr:zl byE w (vl.x) L) (lc:vl.n<=vl.c) (lb:∀z∈L,0<=z/\z<256):
  Xp prog 3 #[Xi #[I6 F,I6 S,I6 B],vl.x,I6 file] w fun e w'=>e= Xl (Xh Xc)/\zc w w':=by
 obtain⟨W0,hW0⟩:=kB (w.alloc (Xk #[I6 F,I6 S,I6 B] 23));have G0:=gA hW0
 have C0:=xA hW0
 have HW0:Xo (_=W0):=hW0;have HLR:Xo (zl byE w (vl.x) L):=lr;have HLC:Xo (vl.n<=vl.c):=lc;have HLB:Xo (∀z∈L,0<=z/\z<256):=show∀z,_ from lb
 obtain⟨nf,HNF⟩:∃nf:Nat,Xo (max (min F 40) 0=(nf:Int)):=⟨(max (min F 40) 0).toNat,show _=_ by omega⟩
 obtain⟨ns,HNS⟩:∃ns:Nat,Xo (max (min S 60) 0=(ns:Int)):=⟨(max (min S 60) 0).toNat,show _=_ by omega⟩
 obtain⟨nb,HNB⟩:∃nb:Nat,Xo (max (min B 80) 0=(nb:Int)):=⟨(max (min B 80) 0).toNat,show _=_ by omega⟩
 clear hW0 lr lc lb;have hal:=zik W0
 go_enter func3,ntmps3
 go_wp2_with fail;rw[HW0.out];refine hal.mono ?_;clear hal;rintro e W1 ⟨rfl,g1⟩;have G1:=dD (G0.trans g1);have C1:=dD (C0.grew g1);clear g1;have hbu:=zgY F S B nf ns nb HNF HNS HNB vl L W1 (HLR.grew G1) HLC HLB.out;obtain⟨c0,c1,c2⟩:=C1.c3;go_wp2_with fail;refine hbu.mono ?_;clear hbu c0 c1 c2;rintro e W2 ⟨V,m0,T,hd,hi,ht,vt,rfl,hB⟩;obtain⟨at2,w2⟩:=hB.at;have HFI:Xo (∀s∈(jS m0 T hd).sp,qH m0.fl.length s.ars):=show∀s,_ from fun s hs=>by
  obtain⟨i,hi⟩:=Xw hs;have hi:(List.zipWith (fun s f=>{ s with tb:=jU f }) m0.sp T)[i]? =Xa s:=hi
  rw[List.getElem?_zipWith]at hi
  cases h1:m0.sp[i]? with
  | none=>rw[h1]at hi;simp at hi
  | some s0=>
   cases h2:T[i]? with
   | none=>rw[h1,h2]at hi;simp at hi
   | some f=>
    rw[h1,h2]at hi;simp only[Option.some.injEq]at hi;rw[<-hi];exact(hB.fin s0 (mG h1)).1
 have HF2:Xo (m0.fl.length<=2):=hB.fl2.1;have HC0:Xo (J2 m0.fs):=hB.rows.ap.2.clean;have HSL:Xo ((jS m0 T hd).sp.length<=2):=show _<=_ by
  show(List.zipWith _ m0.sp T).length<=2
  rw[List.length_zipWith];have:=hB.sp.2;omega
 obtain⟨m,HM⟩:=kA (jS m0 T hd);have A2:Xo (zy W2 V m):=dD<|Ry HM.out at2
 have HW:Xo (maW m=0):=dD<|Ry HM.out w2
 have HRT:Xo (Rt m):=dD<|⟨HW,fun s hs=>by
  obtain⟨i,hi⟩:=Xw hs;obtain⟨xs,_,s2,s3⟩:=A2.sp;have hx:i<xs.length:=by rw[s2];exact(gS.1 hi).1
  exact(s3 i _ s (gE hx) hi).tb.tlen⟩
 have G2:Xo (zc w W2):=G1.trans hB.gr;have hmh:hd=m.hand:=by rw[<-HM.out];rfl
 have hmc:m0.cnt=m.cnt:=by rw[<-HM.out];rfl
 rw[hmh,hmc];have HFS:Xo (∀s∈m.sp,qH m.fl.length s.ars):=dD<|fun s hs=>by
  rw[<-HM.out]at hs⊢;exact HFI s hs
 have HFL:Xo (m.fl.length<=5):=dD<|by rw[<-HM.out];have:=HF2.out;show m0.fl.length<=5;omega
 have HCC:Xo (J2 m.fs):=dD<|Ry HM.out HC0.out
 have HS2:Xo (m.sp.length<=2):=dD<|Ry HM.out HSL.out
 clear hB at2 w2 hmh hmc;go_upto_region 4 with fail;obtain⟨pm,HPM⟩:=kA W2.heap.size;obtain⟨W2a,hW3⟩:=kB (W2.alloc (Xk (mL V m).toArray 41));have g3:=gP hW3
 have P2:=xPT hW3 HPM
 have A2a:=dD (A2.grew g3);have G2a:=dD (G2.trans g3);have HPG:Xo (w.heap.size<=pm):=show _<=_ by have:=bS G2.out;have:=HPM.out;omega
 rw[hW3,HPM.out];clear hW3 g3;have HMF:Xo (m.fs.length<=40):=HRT.inv.fs40;obtain⟨SS,HSS⟩:=kA (strOfNums (zdH m));obtain⟨N,HND⟩:=kA (jJ m.fs);have hN40:N<=40:=by rw[<-HND.out];exact nT (zo8 _) HMF.out
 have hse:=QZ V m W2a A2a HW HFS.out;rw[HSS.out]at hse;obtain⟨x0,x1,x2,x3,x4,x5,x6,x7,x8,x9,x10⟩:=P2.box.c11;go_wp2_with fail;refine hse.mono ?_;clear hse x0 x1 x2 x3 x4 x5 x6 x7 x8 x9 x10;rintro e W3 ⟨rfl,g3⟩;have HPL:Xo (pm<W2a.heap.size):=P2.box.lt;have G3:=dD (G2a.trans g3);have A3:=dD (A2a.grew g3);have P3:=dD (P2.grew g3);clear g3 A2a G2a;go_upto_region 5 with fail;have hev:=zen V m W3 A3 HW _ (zke HRT);obtain⟨x0,x1,x2,x3,x4,x5,x6,x7,x8,x9,x10⟩:=P3.box.c11;go_wp2_with fail;refine hev.mono ?_;clear hev x0 x1 x2 x3 x4 x5 x6 x7 x8 x9 x10;rintro e W4 ⟨⟨bo,M',V4,hev,rfl,a4⟩,g4⟩;have HEV:Xo (bo=(za8 m []).1/\M'=(za8 m []).2):=show _/\_ from hev
 have HUN:Xo (zdx m M'/\jJ M'.fs=jJ m.fs+bo.toNat):=dD<|by
  rw[HEV.1,HEV.2];exact zgH HRT HFS.out
 have K4:Xo (zy W4 V4 M'):=a4 _ (qD.refl _ _);clear a4 hev;go_upto_region 6 with fail;obtain⟨pk,HPK⟩:=kA W4.heap.size;obtain⟨W5,hW5⟩:=kB (W4.alloc (Xk (mL V4 M').toArray 41));have g5:=gP hW5
 have Q5:=xPT hW5 HPK
 have P5:=dD (P3.grew (g4.trans g5));have A4:=dD (A3.grew g4);have G4:=dD (G3.trans g4);have K5:=dD (K4.grew g5);have H45:Xo (zc W4 W5):=g5;have P4:=dD (P3.grew g4);rw[hW5,HPK.out];clear hW5 g4 g5;have HC1:Xo (∀W,zc W5 W->Xp prog 9 #[Xi (mL V4 M').toArray] W fun e w'=>e= Xl (I6 0)/\zc W w'):=show∀W,_ from fun W hW=>Qn V4 M' W (K5.grew hW) HUN.1.rt.w
 have HC2:Xo (∀W,zc W5 W->Xp prog 7 #[Xi (mL V4 M').toArray] W fun e w'=>e= Xl (.string SS)/\zc W w'):=dD<|fun W hW=>by
  have k:=QZ V4 M' W (K5.grew hW) HUN.1.rt.w HUN.1.fin;rw[HUN.1.seen,HSS.out]at k;exact k
 have HC3:Xo (∀W,zc W5 W->Xp prog 10 #[Xi (mL V4 M').toArray] W fun e w'=>e= Xl (I6 ((N:Int)+((bo.toNat:Nat):Int)))/\zc W w'):=dD<|fun W hW=>by
  have k:=zbF V4 M' W (K5.grew hW) HUN.1.rt.inv.fs40;rw[HUN.2,HND.out,Int.natCast_add]at k;exact k
 have HCM:Xo (∀W,zc W4 W->Xp prog 10 #[Xi (mL V m).toArray] W fun e w'=>e= Xl (I6 (N:Int))/\zc W w'):=dD<|fun W hW=>by
  have k:=zbF V m W (A4.grew hW) HMF.out;rw[HND.out]at k;exact k
 have HC4:Xo (∀W,zc W5 W->Xp prog 10 #[Xi (mL V m).toArray] W fun e w'=>e= Xl (I6 (N:Int))/\zc W w'):=dD<|fun W hW=>HCM.out W (H45.trans hW)
 have hne:Nonempty (ze W5):=⟨⟨_,zc.refl _⟩⟩;have hu0:∀y:ze W5,y.world.cell? ⟨pk,0,Xb⟩=_:=fun y=>(Q5.box.grew y.grew).c 0 rfl
 have hu1:∀y:ze W5,y.world.cell? ⟨pk,1,Xb⟩=_:=fun y=>(Q5.box.grew y.grew).c 1 rfl
 have hu2:∀y:ze W5,y.world.cell? ⟨pk,2,Xb⟩=_:=fun y=>(Q5.box.grew y.grew).c 2 rfl
 have hu3:∀y:ze W5,y.world.cell? ⟨pk,3,Xb⟩=_:=fun y=>(Q5.box.grew y.grew).c 3 rfl
 have hu4:∀y:ze W5,y.world.cell? ⟨pk,4,Xb⟩=_:=fun y=>(Q5.box.grew y.grew).c 4 rfl
 have hu5:∀y:ze W5,y.world.cell? ⟨pk,5,Xb⟩=_:=fun y=>(Q5.box.grew y.grew).c 5 rfl
 have hu6:∀y:ze W5,y.world.cell? ⟨pk,6,Xb⟩=_:=fun y=>(Q5.box.grew y.grew).c 6 rfl
 have hu7:∀y:ze W5,y.world.cell? ⟨pk,7,Xb⟩=_:=fun y=>(Q5.box.grew y.grew).c 7 rfl
 have hu8:∀y:ze W5,y.world.cell? ⟨pk,8,Xb⟩=_:=fun y=>(Q5.box.grew y.grew).c 8 rfl
 have hu9:∀y:ze W5,y.world.cell? ⟨pk,9,Xb⟩=_:=fun y=>(Q5.box.grew y.grew).c 9 rfl
 have hu10:∀y:ze W5,y.world.cell? ⟨pk,10,Xb⟩=_:=fun y=>(Q5.box.grew y.grew).c 10 rfl
 have hv0:∀y:ze W5,y.world.cell? ⟨pm,0,Xb⟩=_:=fun y=>(P5.box.grew y.grew).c 0 rfl
 have hv1:∀y:ze W5,y.world.cell? ⟨pm,1,Xb⟩=_:=fun y=>(P5.box.grew y.grew).c 1 rfl
 have hv2:∀y:ze W5,y.world.cell? ⟨pm,2,Xb⟩=_:=fun y=>(P5.box.grew y.grew).c 2 rfl
 have hv3:∀y:ze W5,y.world.cell? ⟨pm,3,Xb⟩=_:=fun y=>(P5.box.grew y.grew).c 3 rfl
 have hv4:∀y:ze W5,y.world.cell? ⟨pm,4,Xb⟩=_:=fun y=>(P5.box.grew y.grew).c 4 rfl
 have hv5:∀y:ze W5,y.world.cell? ⟨pm,5,Xb⟩=_:=fun y=>(P5.box.grew y.grew).c 5 rfl
 have hv6:∀y:ze W5,y.world.cell? ⟨pm,6,Xb⟩=_:=fun y=>(P5.box.grew y.grew).c 6 rfl
 have hv7:∀y:ze W5,y.world.cell? ⟨pm,7,Xb⟩=_:=fun y=>(P5.box.grew y.grew).c 7 rfl
 have hv8:∀y:ze W5,y.world.cell? ⟨pm,8,Xb⟩=_:=fun y=>(P5.box.grew y.grew).c 8 rfl
 have hv9:∀y:ze W5,y.world.cell? ⟨pm,9,Xb⟩=_:=fun y=>(P5.box.grew y.grew).c 9 rfl
 have hv10:∀y:ze W5,y.world.cell? ⟨pm,10,Xb⟩=_:=fun y=>(P5.box.grew y.grew).c 10 rfl
 have HF7:Xo (∀W7,zc W5 W7->zc W4 W7/\zo W7 pk 41 (mL V4 M')):=dD<|fun W7 g=>⟨H45.trans g,Q5.grew g⟩
 skip
 go_cut [64] (fun s64 W7=>s64= Xh Xd/\Xo (zc W4 W7)/\Xo (zo W7 pk 41 (mL V4 M')))
 case first=>
  cases bo with
  | true=>
   rw[show((Bool.toNat Xc:Nat):Int)=1 from rfl]at HC3
   refine jb 35 [(4,⟨fun v=>v=I6 0,fun _ _=>True⟩),(9,⟨fun v=>v= .string SS,fun _ _=>True⟩),(17,⟨fun v=>v=I6 ((N:Int)+1),fun _ _=>True⟩),(19,⟨fun v=>v=I6 (N:Int),fun _ _=>True⟩),(29,⟨fun v=>v=I6 ((N:Int)+1),fun _ _=>True⟩),(31,⟨fun v=>v=I6 (N:Int),fun _ _=>True⟩)] z6 Kr rfl rfl Dc ?hS ?hp ?_
   case hS=>
    intro x hx;simp only[mC,nM,or_false]at hx
    rcases hx with rfl|rfl|rfl|rfl|rfl|rfl <;> exact⟨_,rfl⟩
   case hp=>
    intro x hx;simp only[mC,nM,or_false]at hx
    rcases hx with rfl|rfl|rfl|rfl|rfl|rfl <;> exact fun _ _ _ _ _=>trivial
   simp only[Yg,Yh];iterate 4 (refine z3 rfl rfl rfl (fun K hK=>?_);go_big_quiet_op;refine hK _ ?_;clear hK K)
   refine zx rfl rfl (fun w' hg hF=>?_) (fun v1 hv=>?_)
   ·refine zJ.call [Xi (mL V4 M').toArray] rfl func9 rfl rfl rfl ?_;refine(HC1 w' hg).mono ?_;rintro e w'' ⟨rfl,hg2⟩;exact⟨_,rfl,hg2,rfl,trivial⟩
   cases hv;simp only[Xs,sB,sS,sZ];iterate 4 (refine z3 rfl rfl rfl (fun K hK=>?_);go_big_quiet_op;refine hK _ ?_;clear hK K)
   refine zx rfl rfl (fun w' hg hF=>?_) (fun v1 hv=>?_)
   ·refine zJ.call [Xi (mL V4 M').toArray] rfl func7 rfl rfl rfl ?_;refine(HC2 w' hg).mono ?_;rintro e w'' ⟨rfl,hg2⟩;exact⟨_,rfl,hg2,rfl,trivial⟩
   cases hv;simp only[Xs,sB,sS,sZ];iterate 6 (refine z3 rfl rfl rfl (fun K hK=>?_);go_big_quiet_op;refine hK _ ?_;clear hK K)
   refine z3 rfl rfl rfl (fun K hK=>?_);go_big_quiet_op;refine hK _ ?_;clear hK K
   refine zx rfl rfl (fun w' hg hF=>?_) (fun v1 hv=>?_)
   ·refine zJ.call [Xi (mL V4 M').toArray] rfl func10 rfl rfl rfl ?_;refine(HC3 w' hg).mono ?_;rintro e w'' ⟨rfl,hg2⟩;exact⟨_,rfl,hg2,rfl,trivial⟩
   cases hv;simp only[Xs,sB,sS,sZ];refine z3 rfl rfl rfl (fun K hK=>?_);go_big_quiet_op;refine hK _ ?_;clear hK K
   refine zx rfl rfl (fun w' hg hF=>?_) (fun v1 hv=>?_)
   ·refine zJ.call [Xi (mL V m).toArray] rfl func10 rfl rfl rfl ?_;refine(HC4 w' hg).mono ?_;rintro e w'' ⟨rfl,hg2⟩;exact⟨_,rfl,hg2,rfl,trivial⟩
   cases hv;simp only[Xs,sB,sS,sZ];iterate 2 (refine z3 rfl rfl rfl (fun K hK=>?_);go_big_quiet_op;refine hK _ ?_;clear hK K)
   iterate 6 (refine z3 rfl rfl rfl (fun K hK=>?_);go_big_quiet_op;refine hK _ ?_;clear hK K)
   iterate 5 (refine j1 rfl ?_;simp only[Xs,sB,sS,sZ])
   iterate 2 (refine z3 rfl rfl rfl (fun K hK=>?_);go_big_quiet_op;refine hK _ ?_;clear hK K)
   refine qd fun W7 g7 _=>?_
   have g7:zc W5 W7:=show zc _ _ from g7
   clear hne hu0 hu1 hu2 hu3 hu4 hu5 hu6 hu7 hu8 hu9 hu10 hv0 hv1 hv2 hv3 hv4 hv5 hv6 hv7 hv8 hv9 hv10;go_wp2
   go_meet
   exact⟨rfl,HF7 W7 g7⟩
  | false=>
   rw[show((Bool.toNat Xd:Nat):Int)=0 from rfl]at HC3
   rw[Int.add_zero]at HC3;refine jb 35 [(4,⟨fun v=>v=I6 0,fun _ _=>True⟩),(9,⟨fun v=>v= .string SS,fun _ _=>True⟩),(17,⟨fun v=>v=I6 (N:Int),fun _ _=>True⟩),(19,⟨fun v=>v=I6 (N:Int),fun _ _=>True⟩),(29,⟨fun v=>v=I6 (N:Int),fun _ _=>True⟩),(31,⟨fun v=>v=I6 (N:Int),fun _ _=>True⟩)] z6 Kr rfl rfl Dc ?hS ?hp ?_
   case hS=>
    intro x hx;simp only[mC,nM,or_false]at hx
    rcases hx with rfl|rfl|rfl|rfl|rfl|rfl <;> exact⟨_,rfl⟩
   case hp=>
    intro x hx;simp only[mC,nM,or_false]at hx
    rcases hx with rfl|rfl|rfl|rfl|rfl|rfl <;> exact fun _ _ _ _ _=>trivial
   simp only[Yg,Yh];iterate 4 (refine z3 rfl rfl rfl (fun K hK=>?_);go_big_quiet_op;refine hK _ ?_;clear hK K)
   refine zx rfl rfl (fun w' hg hF=>?_) (fun v1 hv=>?_)
   ·refine zJ.call [Xi (mL V4 M').toArray] rfl func9 rfl rfl rfl ?_;refine(HC1 w' hg).mono ?_;rintro e w'' ⟨rfl,hg2⟩;exact⟨_,rfl,hg2,rfl,trivial⟩
   cases hv;simp only[Xs,sB,sS,sZ];iterate 4 (refine z3 rfl rfl rfl (fun K hK=>?_);go_big_quiet_op;refine hK _ ?_;clear hK K)
   refine zx rfl rfl (fun w' hg hF=>?_) (fun v1 hv=>?_)
   ·refine zJ.call [Xi (mL V4 M').toArray] rfl func7 rfl rfl rfl ?_;refine(HC2 w' hg).mono ?_;rintro e w'' ⟨rfl,hg2⟩;exact⟨_,rfl,hg2,rfl,trivial⟩
   cases hv;simp only[Xs,sB,sS,sZ];iterate 6 (refine z3 rfl rfl rfl (fun K hK=>?_);go_big_quiet_op;refine hK _ ?_;clear hK K)
   iterate 6 (refine j1 rfl ?_;simp only[Xs,sB,sS,sZ])
   iterate 6 (refine z3 rfl rfl rfl (fun K hK=>?_);go_big_quiet_op;refine hK _ ?_;clear hK K)
   refine z3 rfl rfl rfl (fun K hK=>?_);go_big_quiet_op;refine hK _ ?_;clear hK K
   refine zx rfl rfl (fun w' hg hF=>?_) (fun v1 hv=>?_)
   ·refine zJ.call [Xi (mL V4 M').toArray] rfl func10 rfl rfl rfl ?_;refine(HC3 w' hg).mono ?_;rintro e w'' ⟨rfl,hg2⟩;exact⟨_,rfl,hg2,rfl,trivial⟩
   cases hv;simp only[Xs,sB,sS,sZ];refine z3 rfl rfl rfl (fun K hK=>?_);go_big_quiet_op;refine hK _ ?_;clear hK K
   refine zx rfl rfl (fun w' hg hF=>?_) (fun v1 hv=>?_)
   ·refine zJ.call [Xi (mL V m).toArray] rfl func10 rfl rfl rfl ?_;refine(HC4 w' hg).mono ?_;rintro e w'' ⟨rfl,hg2⟩;exact⟨_,rfl,hg2,rfl,trivial⟩
   cases hv;simp only[Xs,sB,sS,sZ];refine z3 rfl rfl rfl (fun K hK=>?_);go_big_quiet_op;refine hK _ ?_;clear hK K
   iterate 2 (refine z3 rfl rfl rfl (fun K hK=>?_);go_big_quiet_op;refine hK _ ?_;clear hK K)
   refine qd fun W7 g7 _=>?_
   have g7:zc W5 W7:=show zc _ _ from g7
   clear hne hu0 hu1 hu2 hu3 hu4 hu5 hu6 hu7 hu8 hu9 hu10 hv0 hv1 hv2 hv3 hv4 hv5 hv6 hv7 hv8 hv9 hv10;go_wp2
   go_meet
   exact⟨rfl,HF7 W7 g7⟩
 obtain⟨rfl,H47,Q7⟩:=hcut;clear hne hu0 hu1 hu2 hu3 hu4 hu5 hu6 hu7 hu8 hu9 hu10 hv0 hv1 hv2 hv3 hv4 hv5 hv6 hv7 hv8 hv9 hv10;have P7:=dD (P4.grew H47);have A7:=dD (A4.grew H47);go_upto_region 8 with fail;have hcl:=zkt V m wc A7 HW.out;obtain⟨x0,x1,x2,x3,x4,x5,x6,x7,x8,x9,x10⟩:=P7.box.c11;go_wp2_with fail;refine hcl.mono ?_;clear hcl x0 x1 x2 x3 x4 x5 x6 x7 x8 x9 x10;rintro e W8 ⟨⟨bc,M8,V8,hcr,rfl,hst8⟩,g8⟩;have HST:Xo (∀W,qD (fun k=>k<wc.heap.size) W8 W->zy W V8 M8):=show∀W,_ from hst8
 have HUN:Xo (zdx m M8/\jJ M8.fs=jJ m.fs):=dD<|zgV HRT HFS hcr
 have HKL:Xo (pk<wc.heap.size):=Q7.box.lt;have Q8:=dD (Q7.grew g8);have H48:=dD (H47.trans g8);have HZL:Xo (∀v∈chL V8 M8,v.oneCell'=Xc):=show∀v∈chL V8 M8,_ by simp[chL,Value.oneCell']
 clear hst8 hcr g8
 go_upto_region 9 with(refine zP rfl 41 (.tmp 9) (.tmp 68) rfl pk rfl (mL V8 M8) rfl Q8 rfl Kr HZL.out ?_)
 intro W9 bx9 gr9 _;have Q9:Xo (zo W9 pk 41 (mL V8 M8)):=bx9;have H49:Xo (zc W4 W9):=show zc _ _ from zd H48 gr9 (Hm HPK.out)
 have K9:Xo (zy W9 V8 M8):=HST.out W9 (qD.grown gr9 HKL);have P9:=dD (P4.grew H49);clear bx9 gr9;try simp only[Xs]
 go_upto_region 9 with fail;have HC1:Xo (∀W,zc W9 W->Xp prog 9 #[Xi (mL V8 M8).toArray] W fun e w'=>e= Xl (I6 0)/\zc W w'):=dD<|fun W hW=>Qn V8 M8 W (K9.grew hW) HUN.1.rt.w
 have HC2:Xo (∀W,zc W9 W->Xp prog 7 #[Xi (mL V8 M8).toArray] W fun e w'=>e= Xl (.string SS)/\zc W w'):=dD<|fun W hW=>by
  have k:=QZ V8 M8 W (K9.grew hW) HUN.1.rt.w HUN.1.fin;rw[HUN.1.seen,HSS.out]at k;exact k
 have HC3:Xo (∀W,zc W9 W->Xp prog 10 #[Xi (mL V8 M8).toArray] W fun e w'=>e= Xl (I6 (N:Int))/\zc W w'):=dD<|fun W hW=>by
  have k:=zbF V8 M8 W (K9.grew hW) HUN.1.rt.inv.fs40;rw[HUN.2,HND.out]at k;exact k
 have HC4:Xo (∀W,zc W9 W->Xp prog 10 #[Xi (mL V m).toArray] W fun e w'=>e= Xl (I6 (N:Int))/\zc W w'):=dD<|fun W hW=>HCM.out W (H49.trans hW)
 have hne:Nonempty (ze W9):=⟨⟨_,zc.refl _⟩⟩;have hu0:∀y:ze W9,y.world.cell? ⟨pk,0,Xb⟩=_:=fun y=>(Q9.box.grew y.grew).c 0 rfl
 have hu1:∀y:ze W9,y.world.cell? ⟨pk,1,Xb⟩=_:=fun y=>(Q9.box.grew y.grew).c 1 rfl
 have hu2:∀y:ze W9,y.world.cell? ⟨pk,2,Xb⟩=_:=fun y=>(Q9.box.grew y.grew).c 2 rfl
 have hu3:∀y:ze W9,y.world.cell? ⟨pk,3,Xb⟩=_:=fun y=>(Q9.box.grew y.grew).c 3 rfl
 have hu4:∀y:ze W9,y.world.cell? ⟨pk,4,Xb⟩=_:=fun y=>(Q9.box.grew y.grew).c 4 rfl
 have hu5:∀y:ze W9,y.world.cell? ⟨pk,5,Xb⟩=_:=fun y=>(Q9.box.grew y.grew).c 5 rfl
 have hu6:∀y:ze W9,y.world.cell? ⟨pk,6,Xb⟩=_:=fun y=>(Q9.box.grew y.grew).c 6 rfl
 have hu7:∀y:ze W9,y.world.cell? ⟨pk,7,Xb⟩=_:=fun y=>(Q9.box.grew y.grew).c 7 rfl
 have hu8:∀y:ze W9,y.world.cell? ⟨pk,8,Xb⟩=_:=fun y=>(Q9.box.grew y.grew).c 8 rfl
 have hu9:∀y:ze W9,y.world.cell? ⟨pk,9,Xb⟩=_:=fun y=>(Q9.box.grew y.grew).c 9 rfl
 have hu10:∀y:ze W9,y.world.cell? ⟨pk,10,Xb⟩=_:=fun y=>(Q9.box.grew y.grew).c 10 rfl
 have hv0:∀y:ze W9,y.world.cell? ⟨pm,0,Xb⟩=_:=fun y=>(P9.box.grew y.grew).c 0 rfl
 have hv1:∀y:ze W9,y.world.cell? ⟨pm,1,Xb⟩=_:=fun y=>(P9.box.grew y.grew).c 1 rfl
 have hv2:∀y:ze W9,y.world.cell? ⟨pm,2,Xb⟩=_:=fun y=>(P9.box.grew y.grew).c 2 rfl
 have hv3:∀y:ze W9,y.world.cell? ⟨pm,3,Xb⟩=_:=fun y=>(P9.box.grew y.grew).c 3 rfl
 have hv4:∀y:ze W9,y.world.cell? ⟨pm,4,Xb⟩=_:=fun y=>(P9.box.grew y.grew).c 4 rfl
 have hv5:∀y:ze W9,y.world.cell? ⟨pm,5,Xb⟩=_:=fun y=>(P9.box.grew y.grew).c 5 rfl
 have hv6:∀y:ze W9,y.world.cell? ⟨pm,6,Xb⟩=_:=fun y=>(P9.box.grew y.grew).c 6 rfl
 have hv7:∀y:ze W9,y.world.cell? ⟨pm,7,Xb⟩=_:=fun y=>(P9.box.grew y.grew).c 7 rfl
 have hv8:∀y:ze W9,y.world.cell? ⟨pm,8,Xb⟩=_:=fun y=>(P9.box.grew y.grew).c 8 rfl
 have hv9:∀y:ze W9,y.world.cell? ⟨pm,9,Xb⟩=_:=fun y=>(P9.box.grew y.grew).c 9 rfl
 have hv10:∀y:ze W9,y.world.cell? ⟨pm,10,Xb⟩=_:=fun y=>(P9.box.grew y.grew).c 10 rfl
 refine jb 20 [(4,⟨fun v=>v=I6 0,fun _ _=>True⟩),(9,⟨fun v=>v= .string SS,fun _ _=>True⟩),(15,⟨fun v=>v=I6 (N:Int),fun _ _=>True⟩),(17,⟨fun v=>v=I6 (N:Int),fun _ _=>True⟩)] z6 Kr rfl rfl Dc ?hS ?hp ?_
 case hS=>
  intro x hx;simp only[mC,nM,or_false]at hx
  rcases hx with rfl|rfl|rfl|rfl <;> exact⟨_,rfl⟩
 case hp=>
  intro x hx;simp only[mC,nM,or_false]at hx
  rcases hx with rfl|rfl|rfl|rfl <;> exact fun _ _ _ _ _=>trivial
 simp only[Yg,Yh];iterate 4 (refine z3 rfl rfl rfl (fun K hK=>?_);go_big_quiet_op;refine hK _ ?_;clear hK K)
 refine zx rfl rfl (fun w' hg hF=>?_) (fun v1 hv=>?_)
 ·refine zJ.call [Xi (mL V8 M8).toArray] rfl func9 rfl rfl rfl ?_;refine(HC1 w' hg).mono ?_;rintro e w'' ⟨rfl,hg2⟩;exact⟨_,rfl,hg2,rfl,trivial⟩
 cases hv;simp only[Xs,sB,sS,sZ];iterate 4 (refine z3 rfl rfl rfl (fun K hK=>?_);go_big_quiet_op;refine hK _ ?_;clear hK K)
 refine zx rfl rfl (fun w' hg hF=>?_) (fun v1 hv=>?_)
 ·refine zJ.call [Xi (mL V8 M8).toArray] rfl func7 rfl rfl rfl ?_;refine(HC2 w' hg).mono ?_;rintro e w'' ⟨rfl,hg2⟩;exact⟨_,rfl,hg2,rfl,trivial⟩
 cases hv;simp only[Xs,sB,sS,sZ];iterate 5 (refine z3 rfl rfl rfl (fun K hK=>?_);go_big_quiet_op;refine hK _ ?_;clear hK K)
 refine zx rfl rfl (fun w' hg hF=>?_) (fun v1 hv=>?_)
 ·refine zJ.call [Xi (mL V8 M8).toArray] rfl func10 rfl rfl rfl ?_;refine(HC3 w' hg).mono ?_;rintro e w'' ⟨rfl,hg2⟩;exact⟨_,rfl,hg2,rfl,trivial⟩
 cases hv;simp only[Xs,sB,sS,sZ];refine z3 rfl rfl rfl (fun K hK=>?_);go_big_quiet_op;refine hK _ ?_;clear hK K
 refine zx rfl rfl (fun w' hg hF=>?_) (fun v1 hv=>?_)
 ·refine zJ.call [Xi (mL V m).toArray] rfl func10 rfl rfl rfl ?_;refine(HC4 w' hg).mono ?_;rintro e w'' ⟨rfl,hg2⟩;exact⟨_,rfl,hg2,rfl,trivial⟩
 cases hv;simp only[Xs,sB,sS,sZ];iterate 2 (refine z3 rfl rfl rfl (fun K hK=>?_);go_big_quiet_op;refine hK _ ?_;clear hK K)
 refine qd fun WA gA _=>?_
 have gA:zc W9 WA:=show zc _ _ from gA
 have HA:=dD (H49.trans gA);have QA:=dD (Q9.grew gA);have PA:=dD (P4.grew HA);have AA:=dD (A4.grew HA);clear gA hne hu0 hu1 hu2 hu3 hu4 hu5 hu6 hu7 hu8 hu9 hu10 hv0 hv1 hv2 hv3 hv4 hv5 hv6 hv7 hv8 hv9 hv10;obtain⟨-,-,-,-,-,-,n7,-⟩:=AA.ns;have HN7:Xo (V.fl.n=m.fl.length):=n7;clear n7;have HGW:Xo (∀W8 W,zc WA W8->W8.grownBy W (Xa pk)->zc w W/\zo W pm 41 (mL V m)):=show∀W8,_ from fun W8 W g8 gr=>by
  have g:zc W4 W:=zd (HA.trans g8) gr (Hm HPK.out)
  exact⟨G4.trans g,P4.grew g⟩
 by_cases hfo:file<0\/(m.fl.length:Int)<=file
 ·have hsy:=zfP V m file WA AA HW hfo;have HFO:Xo (file<0\/(V.fl.n:Int)<=file):=dD<|Rx HN7.out hfo
  clear hfo;go_upto_region 11 with fail;obtain⟨x0,x1,x2,x3,x4,x5,x6,x7,x8,x9,x10⟩:=PA.box.c11;go_wp2_with fail;refine hsy.mono ?_;clear hsy x0 x1 x2 x3 x4 x5 x6 x7 x8 x9 x10;rintro e WB ⟨rfl,gB⟩;have QB:=dD (QA.grew gB);have GB:Xo (zc WA WB):=gB;clear gB
  go_upto_region 12 with(refine zP rfl 41 (.tmp 9) (.tmp 95) rfl pk rfl qf rfl QB rfl Kr (by simp[qf,Value.oneCell']) ?_)
  intro WC bxC grC _;obtain⟨gC,pC⟩:=HGW.out WB WC GB grC;have GC:Xo (zc w WC):=gC;have PC:Xo (zo WC pm 41 (mL V m)):=pC;clear bxC grC gC pC;try simp only[Xs]
  by_cases hn:file<0
  ·go_wp2;go_ret;exact⟨rfl,GC⟩
  have hge:(V.fl.n:Int)<=file:=HFO.resolve_left hn;have x7:=PC.box.c 7 rfl;go_wp2;go_ret;exact⟨rfl,GC⟩
 have hn:¬file<0:=fun e=>hfo (.inl e)
 have hge:¬(V.fl.n:Int)<=file:=fun e=>hfo (.inr (Ry HN7.out e))
 have hsy:=zk1 V m file WA AA HRT Wm Wm
 clear hfo;go_upto_region 11 with fail;obtain⟨x0,x1,x2,x3,x4,x5,x6,x7,x8,x9,x10⟩:=PA.box.c11;go_wp2_with fail;refine hsy.mono ?_;clear hsy x0 x1 x2 x3 x4 x5 x6 x7 x8 x9 x10;rintro e WB ⟨rfl|⟨M9,V9,hcs,-,rfl,hstB⟩,gB⟩
 ·have QB:=dD (QA.grew gB);have GB:Xo (zc WA WB):=gB;clear gB
  go_upto_region 12 with(refine zP rfl 41 (.tmp 9) (.tmp 95) rfl pk rfl qf rfl QB rfl Kr (by simp[qf,Value.oneCell']) ?_)
  intro WC bxC grC _;obtain⟨gC,pC⟩:=HGW.out WB WC GB grC;have GC:Xo (zc w WC):=gC;have x7:=pC.box.c 7 rfl;clear bxC grC gC pC;try simp only[Xs]
  go_wp2;go_ret;exact⟨rfl,GC⟩
 have HUN:Xo (zdx m (QK M9)):=dD<|zhn HRT HFS hcs
 obtain⟨FM,HFM⟩:=kA (QK M9);rw[HFM.out]at HUN hstB⊢;have HST:Xo (∀W,qD (fun k=>k<WA.heap.size) WB W->zy W V9 FM):=dD<|hstB
 have HKL:Xo (pk<WA.heap.size):=QA.box.lt;have QB:=dD (QA.grew gB);have GB:Xo (zc WA WB):=gB;have HZL:Xo (∀v∈chL V9 FM,v.oneCell'=Xc):=show∀v∈chL V9 FM,_ by simp[chL,Value.oneCell']
 clear gB hstB hcs
 go_upto_region 12 with(refine zP rfl 41 (.tmp 9) (.tmp 95) rfl pk rfl (mL V9 FM) rfl QB rfl Kr HZL.out ?_)
 intro WC bxC grC _;obtain⟨gC,pC⟩:=HGW.out WB WC GB grC;have GC:Xo (zc w WC):=gC;have QC:Xo (zo WC pk 41 (mL V9 FM)):=bxC;have KC:Xo (zy WC V9 FM):=HST.out WC (qD.grown grC HKL);have x7:=pC.box.c 7 rfl;clear bxC grC gC pC;try simp only[Xs]
 go_upto_region 14 with fail;clear x7;have hwr:=Qn V9 FM WC KC HUN.rt.w;obtain⟨x0,x1,x2,x3,x4,x5,x6,x7,x8,x9,x10⟩:=QC.box.c11;go_wp2_with fail;refine hwr.mono ?_;clear hwr x0 x1 x2 x3 x4 x5 x6 x7 x8 x9 x10;rintro e WD ⟨rfl,gD⟩;have hse:=QZ V9 FM WD (KC.grew gD) HUN.rt.w HUN.fin;rw[HUN.seen,HSS.out]at hse;have QD:=dD (QC.grew gD);have GD:=dD (GC.trans gD);clear gD;obtain⟨x0,x1,x2,x3,x4,x5,x6,x7,x8,x9,x10⟩:=QD.box.c11;go_wp2_with fail;refine hse.mono ?_;clear hse x0 x1 x2 x3 x4 x5 x6 x7 x8 x9 x10;rintro e WE ⟨rfl,gE⟩;have GE:=dD (GD.trans gE);clear gE;go_wp2;go_ret;exact⟨rfl,GE⟩
end
section
open Go.ChangeShapes Go.WideShapes Go.ChangeAt Go.RowKit
theorem zqT:Tryz.prog.cellsOf 3=1:=by kernel_rfl
theorem zqU:Tryz.prog.cellsOf 5=1:=by kernel_rfl
theorem zqV:Tryz.prog.cellsOf 23=3:=by kernel_rfl
theorem zqW:Tryz.prog.bytesOf 5=1:=by kernel_rfl
section
variable{H:Type} {enc:TypeId × Xq->H} {w:Xn} {base:Nat} {spare:Nat->Bool} {zfv:Bool}
theorem zes {α:Type} {b:α->List Xq} {k:Nat}:∀(l:List α) (x:Addr),(∀a∈l,(b a).length=k)->(∀(i:Nat) a,l[i]? =Xa a->jP w (x.add (i*k)) (b a))->jP w x (l.flatMap b)
 | [],x,_,_=>fun j u b=>by simp at b
 | a :: l,x,d,h=>fun j u b=>by
  rw[List.flatMap_cons]at b;have e:=d a Sm
  rcases Nat.lt_or_ge j k with c|c
  ·rw[List.getElem?_append_left Wm]at b
   have:=h 0 a rfl j u b;rw[zS]at this
   simpa using this
  rw[aR Wm,e]at b
  have e:=zes l (x.add k) (fun c f=>d c (by simp[f])) (fun i c d=>by
   have:=h (i+1) c (Si d)
   rw[zS];rw[show k+i*k=(i+1)*k by rw[Ok];omega]
   exact this) (j - k) u b
  rw[zS,show k+(j - k)=j by omega]at e
  exact e
theorem znf {α:Type} [Inhabited α] (b:α->List Xq) (Q:α->Prop) (k:Nat) {e:TypeId} (T:Tryz.prog.underlying t=Xa (.slice e)) (P:Tryz.prog.cellsOf e=k) (g:∀n cs (x:DataW H × List MemPlace),cs.length=k->DataW.trod enc prog w base spare zfv n e cs=Xa x->∃a,Q a/\cs=b a)
  {j:Nat} {cs:List Xq} {x:DataW H × List MemPlace} (r:DataW.trod enc prog w base spare zfv j t cs=Xa x):
  ∃v l,cs=[v]/\jF b w v l/\(∀a∈l,Q a/\(b a).length=k)/\(l=[]\/∃E W,x.1= .slice E W/\E.length=l.length):=by
 rcases Go.Deep.open_slice T r with⟨rfl,_⟩|⟨a,c,q,V,n,X,Y,rfl,p,Z,I,B,C,u⟩
 ·exact⟨_,[],rfl,⟨Xb,0,rfl,fun _=>rfl,fun x C=>by cases C⟩,Sm,.inl rfl⟩
 have R:c<=V:=by rw[B];split <;> omega
 have y:∀i,i<c->∃h,Q h/\(b h).length=k/\jP w (a.add (i*k)) (b h):=fun i d=>by
  obtain⟨L,F,N⟩:=u i Wm
  rw[P]at F;obtain⟨_,f,s⟩:=World.cells?_some F;obtain⟨h,S,rfl⟩:=g _ _ _ f N;refine⟨h,S,f,fun K a1 G=>?_⟩
  have A:K<k:=by rw[<-f];exact(gS.1 G).1
  rw[s K A];exact G
 obtain⟨M,z⟩:=Go.Deep.choose_lt y;refine⟨_,(Yb c).map M,rfl,⟨Xa a,q,Sm,fun r=>(by cases r),fun a2 U=>?_⟩,fun D p=>?_,.inr ⟨_,_,by rw[C],Sm⟩⟩
 ·cases U;refine zes (k:=k) _ _ (fun D p=>?_) (fun i D d=>?_)
  ·obtain⟨i,d,rfl⟩:=Oa.1 p;exact(z i (Ya.1 d)).2.1
  have m:i<c:=by have:=(gS.1 d).1;simpa using this
  simp[m]at d
  subst d;exact(z i m).2.2
 obtain⟨i,d,rfl⟩:=Oa.1 p;have:=z i (Ya.1 d);exact⟨this.1,this.2.1⟩
theorem zjF {a:Nat} {r:Reach} {v:Xq} {d:DataW H} {p:List MemPlace} (l:Value.okWide prog w r a 24 v) (b:DataW.Trod enc prog w base spare zfv 24 v d p) (m:∀n∈d.weights prog 24,n<=reachBytes):
  ∃(a:Sli) (s:List Int),v=a.x/\zl byE w (a.x) s/\a.n<=a.c/\∀z∈s,0<=z/\z<256:=by
 obtain⟨a,h⟩:=b;obtain⟨a,a,k,i,r,y⟩:=znf byE.enc (fun z=>0<=z/\z<256) 1 underlying24 zqU (fun n b x _ e=>by
  obtain⟨z,g,b,b⟩:=DataW.trod_int underlying5 e;refine⟨z,?_,g⟩;have:=b;simp only[Lit.wf,Yw,decide_eq_true_eq]at this;have f:IntKind.u8.min=0:=rfl;have e:IntKind.u8.max=255:=rfl;rw[f,e]at this;exact⟨this.1,Hm this.2⟩) h
 obtain⟨b,c,rfl,t,u⟩:=i;obtain⟨i,q,j,rfl⟩:=okWide_slice underlying24 l;have f:O i q j= O b a.length c:=by simpa [Value.cells]using k
 cases f;refine⟨⟨b,a.length,c⟩,a,rfl,⟨⟨b,c,rfl,t,u⟩,?_⟩,?_,fun z g=>(r z g).1⟩
 ·rcases y with rfl|⟨g,i,j,f⟩
  ·show 0*1<=_
   omega
  have f:d= .slice g i:=j;have:=m ((g.length+i.length)*Tryz.prog.bytesOf 5) (by rw[f];simp[DataW.weights,underlying24])
  rw[zqW]at this;unfold reachBytes at this
  show a.length*1<=_
  omega
 rcases Go.Deep.open_slice underlying24 h with⟨g,_⟩|⟨i,h,f,_,_,_,_,g,_,j,_⟩
 ·have e:O b a.length c=eS:=by simpa [Value.cells]using g
  simp only[vJ]at e
  show a.length<=c
  omega
 have e:O b a.length c= O (Xa i) h f:=by simpa [Value.cells]using g
 simp only[vJ]at e
 show a.length<=c
 omega
theorem zhF {k:Nat} {s:Reach} {v:Xq} {d:DataW H} {p:List MemPlace} (y:Value.okWide prog w s k 23 v) (t:DataW.Trod enc prog w base spare zfv 23 v d p):∃F S B:Int,v= Xi #[I6 F,I6 S,I6 B]:=by
 obtain⟨a,rfl,x,_⟩:∃a,v= Xi a/\a.size=Tryz.prog.cellsOf 23/\Row.okWide prog w s k 23 a:=by
  simpa [Value.okWide,underlying23]using y
 obtain⟨r,b⟩:=t;obtain⟨g,n,_,_,hlen,u,b⟩:=DataW.trod_struct underlying23 b;rw[zqV]at hlen;have z:g.length=3:=u;obtain⟨a⟩:=a;simp only[Value.cells]at hlen b;have h:DataW.trod enc prog w base spare zfv n 3 ((a.drop 0).take (Tryz.prog.cellsOf 3))=g[0]?:=b 0 _ rfl;have i:DataW.trod enc prog w base spare zfv n 3 ((a.drop 1).take (Tryz.prog.cellsOf 3))=g[1]?:=b 1 _ rfl;have j:DataW.trod enc prog w base spare zfv n 3 ((a.drop 2).take (Tryz.prog.cellsOf 3))=g[2]?:=b 2 _ rfl;rw[zqT]at h i j;rw[gE Wm]at h i j
 obtain⟨A,l,_,_⟩:=DataW.trod_int underlying3 h;obtain⟨C,m,_,_⟩:=DataW.trod_int underlying3 i;obtain⟨D,q,_,_⟩:=DataW.trod_int underlying3 j;obtain⟨c,e,f,rfl⟩:∃c e f,a=[c,e,f]:=by
  match a,hlen with
  | [c,e,f],_=>exact⟨c,e,f,rfl⟩
 simp only[List.drop_succ_cons,List.drop_zero,List.take_succ_cons,List.take_zero,List.cons.injEq,and_true]at l m q;subst l m q;exact⟨A,C,D,rfl⟩
end
theorem own:ownKnob Tryz.prog.godebug=Xb:=by kernel_rfl
theorem laidOut:laidOutB prog=Xc:=by kernel_rfl
theorem zbw (os:Os) (started:os.Started) (H:Type) (enc:TypeId × Xq->H):
  ReturnsInHanded {} Tryz.checked os 3 .any (Rows.pagingSameSpec.pre6 enc prog Tryz.f3 Rows.pagingSameRow.domain Xd) (Rows.pagingSameSpec.post enc prog Tryz.f3 Xd Xc Xd Xd):=by
 refine returnsInHanded_of_change_sized (C:=Tryz.checked) own started Kr func3
  (ChangeSpec.witness6 (enc:=enc) (C:=Tryz.checked) Xd ⟨#[],#[Xi #[I6 0,I6 0,I6 0],eS,I6 0],[]⟩ 8 Kr Kr Kr Kr) ?_
 intro W base args ds gs before hval0 hW hcnd hsz0 _;have hsz:(DataW.weightsEach prog (Tryz.f3.params.toList++Rows.pagingSameSpec.plain.varTypes prog) (ds++gs)).all (·<=reachBytes)=Xc:=hsz0;have hval:∀(j:Nat) t v,Tryz.f3.params[j]? =Xa t->args[j]? =Xa v->Value.okWide prog W .any base t v:=hval0;have hW':=hW;obtain⟨p,q,hA0,hV,rfl,hfz,hnd⟩:=hW;have hA:DataW.TrodAll enc prog W 0 (fun _=>Xc) Xc Tryz.f3.params.toList args.toList ds p:=hA0
 rw[Tryz.params3]at hA hval hsz;obtain⟨v0,vs0,d0,ds0,p0,q0,hargs,rfl,rfl,k0,r0⟩:=trodAll_cons hA;obtain⟨v1,vs1,d1,ds1,p1,q1,rfl,rfl,rfl,k1,r1⟩:=trodAll_cons r0;obtain⟨v2,vs2,d2,ds2,p2,q2,rfl,rfl,rfl,k2,r2⟩:=trodAll_cons r1;obtain⟨rfl,rfl,rfl⟩:=trodAll_nil r2;obtain rfl:args=#[v0,v1,v2]:=by cases args;simp_all
 obtain⟨rfl,rfl⟩:=trodVars_none hV;have lt0:∀x∈p0,x.block<W.heap.size:=by obtain⟨m,hm⟩:=k0;exact DataW.trod_lt m _ _ _ hm
 have lt1:∀x∈p1,x.block<W.heap.size:=by obtain⟨m,hm⟩:=k1;exact DataW.trod_lt m _ _ _ hm
 have lt2:∀x∈p2,x.block<W.heap.size:=by obtain⟨m,hm⟩:=k2;exact DataW.trod_lt m _ _ _ hm
 obtain⟨cF,cS,cB,hce⟩:=zhF (hval 0 23 v0 rfl rfl) k0;subst hce;obtain⟨vl,ll,hvl,hrow,hcap,hbyt⟩:=zjF (hval 1 24 v1 rfl rfl) k1 (fun n hn=>by
  have:=List.all_eq_true.1 hsz n (DataW.weights_mem_each (j:=1) (t:=24) (d:=d1) rfl rfl n hn)
  simpa using this)
 subst hvl;have k2':=k2;obtain⟨n2,rfl,rfl,rfl,w2⟩:=open_int underlying3 (hval 2 3 v2 rfl rfl) k2;clear hA0 hval0 hsz0;refine(zlc cF cS cB vl ll n2 W hrow hcap hbyt).mono fun e W' ⟨he,bel⟩=>?_
 subst he;have stay:∀{t:TypeId} {v:Xq} {d:DataW H} {ps:List MemPlace},Tryz.prog.readableRec t=Xc->t<Tryz.prog.types.size->DataW.Trod enc prog W 0 (fun _=>Xc) Xc t v d ps->(∀x∈ps,x.block<W.heap.size)->DataW.Trod enc prog W' 0 (fun b=>decide (b<W.heap.size)) Xc t v d ps:=
  fun h1 h2 h3 h4=>Below.trod laidOut h1 h2 h3 bel h4
 exact⟨_,rfl,_,_,_,[],_,[],hW',trodAll_mk1 (shut_bool underlying4 _),(trodAll_cons_mk (stay Kr (of_decide_eq_true Kr) k0 lt0) (trodAll_cons_mk (stay Kr (of_decide_eq_true Kr) k1 lt1) (trodAll_cons_mk (stay Kr (of_decide_eq_true Kr) k2' lt2) trodAll_mk0))),rfl,Below.frame bel _,fun h=>by cases h⟩
theorem zcM:Rows.pagingSameRow.holds Tryz.pinned (OpenSpec.ofChange Rows.pagingSameSpec):=
 OpenClaim.holds_of_wide 3 Tryz.f3 rfl rfl rfl rfl rfl rfl rfl ⟨rfl,rfl,rfl,rfl,rfl⟩ rfl rfl rfl rfl rfl Kr func3 Kr
  (of_decide_eq_true Kr) (by unfold Func.isWrapper;first | (rw[kE (by decide+kernel)];kernel_rfl) | (rw[kF (by decide+kernel)];exact⟨rfl,rfl⟩))
  (fun os started H enc _=>zbw os started H enc)
theorem pagingSame_holds:Rows.PagingSameSaid:=zcM
#print axioms pagingSame_holds
end
end Go.Proofs.YtjjdljjhmcegdaaGreat
